/-
 Joined texts: ScMdD,ScMdE,ScMdF,ScMdG,ScLe,ScLh.
-/
import Derived.Test.YtpclhpfcbjgokaaGreatDoorJScopeChecks7
import Derived.Test.YtpclhpfcbjgokaaGreatDoorJScopeChecks9
set_option maxHeartbeats 32000000
namespace Go.Proofs.YtpclhpfcbjgokaaGreatDoor
open Go.RowKit Go.Maps
set_option maxRecDepth 100000
set_option linter.unusedVariables false
set_option linter.unusedSimpArgs false
theorem ask_D (F:Fs) (rf:Bool) (w0:World) (vf:Value) (hF:rf=true\/∃ SF fs,fnE.At w0 SF vf fs/\F=fndF (fs.map Fd.q)) (x:X) (u:U) (S S2:Nat->Prop) (w:World) (vl:Value) (ps:List PmU) (hu:Um w0 S x u) (hb:Bnd u) (hkm:u.ks.length<=1000000) (hK:∀ j (h:j<u.ks.length),AskOk F rf w0 vf u.ks[j]) (hbw:Below w0.heap.size w0 w) (hp:PmsAt w S2 vl ps) (hn:ps.length+2*ud u<=700000000000) (hkd:u.k<24/\u.k≠3/\u.k≠15/\u.k≠16) :
  Calls Tryz.prog 13 #[xv x,vl,vf,.bool rf] w fun e w'=>e=.returned (.tuple #[.int .i64 (arT (aB F rf u (lkp ps)):Nat),fltV (arF (aB F rf u (lkp ps)))])/\Below w.heap.size w w':=by
 obtain⟨k,nm,ot,z,ln,cl,ks⟩:=u;have HBN:=h_ hb;have HKND:Hid (k<24/\k≠3/\k≠15/\k≠16):=h_ hkd;rw[Um] at hu;obtain⟨⟨e1,e2,e3,e4,e5,e6⟩,⟨h2,h3⟩,⟨h4,h5,h6⟩,h7⟩:=hu;obtain⟨xk,xnm,xot,xb,xao,xn,xq,xko,xkn,xkc,xln,xcl⟩:=x;simp only at e1 e2 e3 e4 e5 e6 h2 h3 h4 h5 h6 h7;have HK:=h_ (fun j (hj:j<ks.length)=>ums_get 0 j h7 hj);have HSL:=h_ h2;rw[Bnd] at hb;have HNM:Hid (nm.length<=3000):=h_ hb.2.1.1;have HAR:=h_ hb.1;have HZB:=h_ hb.2.1.2.2;have HKS:=h_ (fun j (hj:j<ks.length)=>bnds_mem hb.2.2.2 (List.getElem_mem hj));have HKB:Hid (∀ j (h:j<ks.length),AskOk F rf w0 vf ks[j]):=h_ hK;rw[ud] at hn;have HNN:=h_ hn;have HKM:Hid (ks.length<=1000000):=h_ hkm;have HB0:=h_ hbw;have HPS:=h_ hp;have HFN:=h_ hF;have hkl:ks.length<=9223372036854775807:=by rw[<-h4];exact Nat.le_trans h5.1 h5.2
 have HLEN:Hid (ks.length<=2):=h_ (by have h:=HAR.out.2;have hk:=HKND.out;rcases h with h | h;omega;rw[h];exact (tab_ok k hk.1 hk.2.1 hk.2.2.1 hk.2.2.2).2.2.2.2);clear h7 hb h2 h3 h5 h6 hK hn hkm hbw hp hF hkd;subst e1 e2 e3 e4 e5 e6;subst h4;simp only[xv];have hmf:∀ (fn:Fn) (first cap:Array Value) (w:World),(Instr.makeFunc fn first cap).run Tryz.prog w=.ok (.func fn first cap) w:=fun _ _ _ _=>rfl
 obtain⟨R,hR⟩:∃ q,q=aB F rf (.node k nm ot z ln cl ks) (lkp ps):=⟨_,rfl⟩
 rw[<-hR];have HR:=h_ hR;clear hR;have HBW:=h_ (Below.refl w.heap.size w);go_enter Tryz.func13,Tryz.ntmps13
 go_upto_region 1 with fail
 obtain⟨w1,ke,hw,hkk,hb,hs1,HBe⟩:=newb w #[.int .i64 (k:Nat),.string ⟨nm.toArray⟩,.string ⟨ot.toArray⟩,.bool false,.slice xao xn xq,.slice xko ks.length xkc,.int .i64 (ln:Nat),.int .i64 (cl:Nat)] 48;rw[hw,<-hkk,<-hs1];replace HBW:=bw_ HBW hb;have hke:w.heap.size<=ke:=by rw[hkk];exact Nat.le_refl _
 clear hw hb hkk hs1;obtain⟨w2,kz,hw,hkk,hb,hs1,HBz⟩:=newb w1 #[.int .i64 0,.int .i64 0,.int .i64 0] 36;have he_z:=lk_ hkk HBe;rw[hw,<-hkk];replace HBe:=kB hb HBe;replace HBW:=bw_ HBW hb;have hkz:w.heap.size<=kz:=by rw[hkk];have:=HBW.out.size;omega
 clear hw hb hkk hs1;obtain⟨c0,c1,c2,c3,c4,c5,c6,c7⟩:=cl8 HBe.out;go_wp2_with fail
 clear hmf;clear c0 c1 c2 c3 c4 c5 c6 c7;have HRW:Hid (inE.Row w2 (kz+1) (fun _=>False) (.slice none 0 0) []):=h_ (El.Row.nil _ _ _);have HA0:Hid (akRun F rf k nm ot ln cl (lkp ps) 0 (ks.drop 0) []=akRun F rf k nm ot ln cl (lkp ps) 0 ks []):=h_ rfl
 go_loopw [27,11] (fun i tv wr=>∃ (j:Nat) (tj:List Nat),i=.int .i64 (j:Nat)/\j<=ks.length/\Hid (tj.length=j)/\Hid (inE.Row wr (kz+1) (fun _=>False) tv tj)/\Hid (wr.heap[ke]?=some (.cells #[.int .i64 (k:Nat),.string ⟨nm.toArray⟩,.string ⟨ot.toArray⟩,.bool false,.slice xao xn xq,.slice xko ks.length xkc,.int .i64 (ln:Nat),.int .i64 (cl:Nat)] 48 (0,0)))/\Hid (wr.heap[kz]?=some (.cells #[.int .i64 0,.int .i64 0,.int .i64 0] 36 (0,0)))/\Hid (Below w.heap.size w wr)/\Hid (akRun F rf k nm ot ln cl (lkp ps) j (ks.drop j) tj=akRun F rf k nm ot ln cl (lkp ps) 0 ks [])) (fun i _ _=>ks.length - (intOf i).toNat)
 case atStart=>exact⟨0,[],rfl,Nat.zero_le _,h_ rfl,HRW,HBe,HBz,HBW,HA0⟩
 case round =>
  obtain⟨wl,hwl⟩:∃ q,q=wr:=⟨_,rfl⟩
  subst hwl;clear HRW HBe HBz HBW HA0;obtain⟨j,tj,rfl,hj,HTL,HRW,HBe,HBz,HBW,HAK⟩:=hrel;have hez:ke<wl.heap.size:=lt_of_block HBe.out;have hzl:kz<wl.heap.size:=lt_of_block HBz.out
  by_cases hi:j<ks.length
  ·have hcons:=akRun_cons F rf k nm ot ln cl (lkp ps) ks j hi tj;rw[HAK.out] at hcons;have HCO:Hid (_=_):=h_ hcons.symm;clear hcons;obtain⟨y,⟨a,rfl,hy⟩,hU⟩:=HK.out j hi;have hbw0:Below w0.heap.size w0 wl:=HB0.out.trans (HBW.out.mono HB0.out.size);obtain⟨z0,z1,z2,z3,z4,z5,z6,z7⟩:=cells8 (w:=wl) (p:=a.add (j*8)) (y:=y) (fun q v hv=>by have:=hy q v hv;rw[Nat.zero_add] at this;rw[hbw0.cell (cell_lt this)];exact this);have HU:=h_ hU;clear hy hU hbw0;obtain⟨c0,c1,c2,c3,c4,c5,c6,c7⟩:=cl8 HBe.out;go_upto_region 7 with fail
   clear c0 c1 c2 c3 c4 c5 c6 c7 z0 z1 z2 z3 z4 z5 z6 z7;obtain⟨w3,kd,hw,hkk,hb,hs1,HBd⟩:=newb wl #[.int .i64 y.k,.string y.nm,.string y.ot,.bool y.b,.slice y.ao y.n y.c,.slice y.ko y.kn y.kc,.int .i64 y.ln,.int .i64 y.cl] 48;have he_d:=lk_ hkk HBe;have hz_d:=lk_ hkk HBz;rw[hw,<-hkk];replace HBe:=kB hb HBe;replace HBz:=kB hb HBz;replace HBW:=bw_ HBW hb;replace HRW:=h_ (HRW.out.below hb);clear hw hb hkk hs1;have HPV:Hid (PmsAt w3 (fun _=>True) vl ps):=h_ ((HPS.out.below (HBW.out)).mono (fun _ _=>trivial));have hor:j=0\/j=1:=by have h1:=HKND.out;have h2:=HLEN.out;have h3:=HAR.out.1;omega
   rcases hor with hj | hj
   focus
    have qj1:(((j:Nat):Int)==1)=false:=by rw[beq_eq_false_iff_ne];omega
    have qj2:(((j:Nat):Int)==2)=false:=by rw[beq_eq_false_iff_ne];omega
    have HJ:Hid (j=0):=h_ hj;clear hj;obtain⟨c0,c1,c2,c3,c4,c5,c6,c7⟩:=cl8 HBe.out;go_upto_region 11 with fail
    clear qj1 qj2 ;clear c0 c1 c2 c3 c4 c5 c6 c7;have HPI:Hid (PmsAt w3 (fun _=>True) vl ps):=HPV;obtain⟨pin,hpin⟩:∃ z,z=ps:=⟨_,rfl⟩
    have HPJ:Hid (PmsAt w3 (fun _=>True) vl pin):=h_ (by rw[hpin];exact HPI.out);clear HPI;have HPI:=HPJ;clear HPJ;have HLK:Hid (lkp pin=akIn k nm ot j tj (lkp ps)):=h_ (by rw[hpin];rw[akIn_no (fun h=>by have:=HJ.out;omega) (fun h=>by have:=HJ.out;omega)]);have HNP:Hid (pin.length+2*ud ks[j]<=700000000000):=h_ (by rw[hpin];have:=ud_kid2 (ks:=ks) (j:=j) hi;have:=HNN.out;(try simp only[lsa,List.length_singleton]);omega);clear hpin;obtain⟨wa,hwa⟩:∃ z,z=w3:=⟨_,rfl⟩
    subst hwa
   rotate_left
   focus
    have qj1:(((j:Nat):Int)==1)=true:=by rw[beq_iff_eq];omega
    have qj2:(((j:Nat):Int)==2)=false:=by rw[beq_eq_false_iff_ne];omega
    have HJ:Hid (j=1):=h_ hj;clear hj;have ql:(((tj.length:Nat):Int)==1)=true:=by rw[HTL.out,HJ.out];rfl
    have hk:k≠26:=by have:=HKND.out;omega
    obtain⟨ta,tc,htv,htc⟩:=row_get HRW.out (by rw[HTL.out,HJ.out];decide);clear htc;subst htv;have q26:(((k:Nat):Int)==26)=false:=by rw[beq_eq_false_iff_ne];omega
    have HKN:=h_ hk;clear hk;obtain⟨c0,c1,c2,c3,c4,c5,c6,c7⟩:=cl8 HBe.out;go_upto_region 11 with fail
    clear qj1 qj2 ql q26;clear c0 c1 c2 c3 c4 c5 c6 c7;have HPI:Hid (PmsAt w3 (fun _=>True) vl ps):=HPV;obtain⟨pin,hpin⟩:∃ z,z=ps:=⟨_,rfl⟩
    have HPJ:Hid (PmsAt w3 (fun _=>True) vl pin):=h_ (by rw[hpin];exact HPI.out);clear HPI;have HPI:=HPJ;clear HPJ;have HLK:Hid (lkp pin=akIn k nm ot j tj (lkp ps)):=h_ (by rw[hpin];rw[akIn_no (fun h=>HKN.out h.2) (fun h=>by have:=HJ.out;omega)]);have HNP:Hid (pin.length+2*ud ks[j]<=700000000000):=h_ (by rw[hpin];have:=ud_kid2 (ks:=ks) (j:=j) hi;have:=HNN.out;(try simp only[lsa,List.length_singleton]);omega);clear hpin;obtain⟨wa,hwa⟩:∃ z,z=w3:=⟨_,rfl⟩
    subst hwa;clear HKN
   rotate_left
   all_goals (
    go_upto_region 11 with fail
    obtain⟨d0,d1,d2,d3,d4,d5,d6,d7⟩:=cl8 HBd.out;have hbw1:Below w0.heap.size w0 wa:=HB0.out.trans (HBW.out.mono HB0.out.size);have HB1:=h_ hbw1;clear hbw1;have hco:=HCO.out;rw[<-HLK.out] at hco;have HCO2:=h_ hco;clear hco;obtain⟨r,hr⟩:∃ q,q=aB F rf ks[j] (lkp pin):=⟨_,rfl⟩
    have HRR:=h_ hr;have hks:=HKB.out j hi y S (fun _=>True) wa _ pin HU.out (HKS.out j hi) HB1.out HPI.out HNP.out;rw[<-hr] at hks;simp only[xv] at hks;have HKC:=h_ hks;clear hks hr;have hco:=HCO2.out;rw[<-HRR.out] at hco;have HCO3:=h_ hco;clear hco HCO2;refine wp_region_lit ?_
    iterate 4 (refine wpList_plain rfl fun K0 hK0=>?_;go_simp;refine hK0 _ _ ?_;clear hK0)
    refine wpList_plain rfl fun K0 hK0=>?_
    go_simp
    refine HKC.out.mono ?_;rintro e w4 ⟨rfl,hb⟩;refine hK0 _ _ ?_;clear hK0 HKC;clear d0 d1 d2 d3 d4 d5 d6 d7;replace HBe:=kB hb HBe;replace HBz:=kB hb HBz;replace HBd:=kB hb HBd;replace HBW:=bw_ HBW hb;replace HRW:=h_ (HRW.out.below hb);replace HPV:=h_ (HPV.out.below hb);replace HPI:=h_ (HPI.out.below hb);clear hb;have HNZ:=h_ (anz_b F rf ks[j] (lkp pin))
    cases r with
    | error e =>
     have hz:e.1≠0:=HNZ.out e HRR.out.symm;obtain⟨e0,e1,e2⟩:=e;unfold fltV;simp only[arT,arF];have HZ:=h_ hz;clear hz
     iterate 3 (refine wpList_plain rfl fun K0 hK0=>?_;go_simp;refine hK0 _ _ ?_;clear hK0)
     skip
     have hqz:(((e0:Nat):Int) != 0)=true:=by rw[bne_iff_ne];have:=HZ.out;simp only at this;omega
     go_upto_region 12 with fail
     obtain⟨w5,kf,hw,hkk,hb,hs1,HBf⟩:=newb w4 #[.int .i64 (e0:Nat),.int .i64 (e1:Nat),.int .i64 (e2:Nat)] 36;have he_f:=lk_ hkk HBe;have hz_f:=lk_ hkk HBz;have hd_f:=lk_ hkk HBd;rw[hw,<-hkk];replace HBe:=kB hb HBe;replace HBz:=kB hb HBz;replace HBd:=kB hb HBd;replace HBW:=bw_ HBW hb;replace HRW:=h_ (HRW.out.below hb);replace HPV:=h_ (HPV.out.below hb);replace HPI:=h_ (HPI.out.below hb);clear hw hb hkk hs1;obtain⟨f0,f1,f2⟩:=cl3 HBf.out;go_upto_region 13 with fail
     clear f0 f1 f2;clear hqz;have hlt_f:=lt_of_block HBf.out;refine R7.r0 [[],[],[0,1]] 2 ?_;refine R7.cd ?_ (fun T xs wr hA=>?_) ?_
     rotate_left
     ·have e16:=hA.pq 16;simp only[gsa,gsc,gsz] at e16;have hBq:wr.heap[kf]?=_:=(hA.bl _ hlt_f (fun q h=>absurd h (Nat.not_lt_zero _))).trans HBf.out;obtain⟨q0,q1,q2⟩:=cl3 hBq;clear hBq;clear hA;go_simp<;>(try with_reducible rfl)
     refine R7.cd ?_ (fun T xs wr hA=>?_) ?_
     rotate_left
     ·clear hA;go_simp<;>(try with_reducible rfl)
     refine R7.Chain.done (fun xs w6 hL=>?_);obtain⟨⟨hbe,hbl⟩,hf,-,-⟩:=hL;have f0:xs 0=_:=hf 0 (by decide);have f1:xs 1=_:=hf 1 (by decide)
     (try simp (disch:=decide) only [R7.mi] at f0 f1)
     have hb:Below w5.heap.size w5 w6:=R7.b0_ hbe;clear hbe hbl hf;refine R7.rest_list (by decide) (by kernel_rfl) ?_;simp only[R7.fill,t1_,t2_,t3_,t4_,t5_,t6_,t7_,f0,f1];clear hlt_f f0 f1;replace HBe:=kB hb HBe;replace HBz:=kB hb HBz;replace HBd:=kB hb HBd;replace HBf:=kB hb HBf;replace HBW:=bw_ HBW hb;replace HRW:=h_ (HRW.out.below hb);replace HPV:=h_ (HPV.out.below hb);replace HPI:=h_ (HPI.out.below hb);clear hb;obtain⟨y0,y1,y2⟩:=cl3 HBz.out;obtain⟨fy0,fy1,fy2⟩:=fr3 HBz.out;go_wp2_with fail
     clear y0 fy0 y1 fy1 y2 fy2;exact ask_end (tv:=.int .i64 0) rfl HBz HBW hkz (by rw[HR.out,ak_err HAR.out.1 HAR.out.2 HCO3.out.symm];rfl)
    | ok b =>
     simp only[arT,arF,fltV,f0]
     iterate 3 (refine wpList_plain rfl fun K0 hK0=>?_;go_simp;refine hK0 _ _ ?_;clear hK0)
     go_upto_region 12 with fail
     obtain⟨w5,kf,hw,hkk,hb,hs1,HBf⟩:=newb w4 #[.int .i64 0,.int .i64 0,.int .i64 0] 36;have he_f:=lk_ hkk HBe;have hz_f:=lk_ hkk HBz;have hd_f:=lk_ hkk HBd;rw[hw,<-hkk];replace HBe:=kB hb HBe;replace HBz:=kB hb HBz;replace HBd:=kB hb HBd;replace HBW:=bw_ HBW hb;replace HRW:=h_ (HRW.out.below hb);replace HPV:=h_ (HPV.out.below hb);replace HPI:=h_ (HPI.out.below hb);clear hw hb hkk hs1;obtain⟨f0,f1,f2⟩:=cl3 HBf.out;go_upto_region 14 with fail
     clear f0 f1 f2;obtain⟨w6,kn,hw,hkk,hb,hs1,HBn⟩:=newb w5 #[.int .i64 (b:Nat)] 3;have hkk2:=hkk.symm;have HBB:=h_ hb;clear hb hs1 hkk;have hrl:tj.length<=1000000:=by rw[HTL.out];have:=HKM.out;omega
     have hrw6:=HRW.out.below HBB.out;have HR6:=h_ hrw6;have HRL:=h_ hrl;have HB6:Hid (kz+1<=w6.heap.size):=h_ (by have:=HBB.out.size;have:=lt_of_block HBz.out;omega);clear hrl hrw6;go_upto_region 15 with (first | (at_builtin;refine El.Row.append (E:=inE) HR6.out rfl (.tmp 78) (.tmp 80) 91 rfl Tryz.underlying91 infoIntN rfl (by decide) rfl b kn 3 rfl HBn.out trivial HRL.out HB6.out ?_;intro v2 w7 hrow hgw;have HRO:=h_ hrow;have HGW:=h_ hgw;clear hrow hgw) | fail)
     clear hw hkk2;replace HBe:=kB HBB.out HBe;replace HBz:=kB HBB.out HBz;replace HBd:=kB HBB.out HBd;replace HBf:=kB HBB.out HBf;replace HBW:=h_ (HBW.out.trans (HBB.out.mono HBW.out.size));replace HRW:=h_ (HRW.out.below HBB.out);replace HPV:=h_ (HPV.out.below HBB.out);replace HPI:=h_ (HPI.out.below HBB.out);replace HBe:=HR6.out.kR HGW.out (by omega) HBe;replace HBz:=HR6.out.kR HGW.out (by omega) HBz;replace HBW:=h_ (⟨HGW.out.os.trans HBW.out.os,HGW.out.tape.trans HBW.out.tape,HGW.out.output.trans HBW.out.output,Nat.le_trans HBW.out.size HGW.out.size,fun g hg=>(HGW.out.block g (by have:=HBW.out.size;omega) (fun e=>by have:=(HR6.out.ge e.symm).1;omega)).trans (HBW.out.block g hg)⟩:Below w.heap.size w w7);have HTL3:Hid ((tj++[b]).length=j+1):=h_ (by rw[lsa,HTL.out];rfl);clear HPV HR6 HB6 HRL HBB HBn HRW
     by_cases hj0:j=0
     ·try (exfalso;have:=HJ.out;omega)
      all_goals (
       replace HJ:Hid (j=0):=h_ hj0;clear hj0;have qg:(decide ((0:Int)<((j:Nat):Int)))=false:=by rw[decide_eq_false_iff_not];have:=HJ.out;omega
       have qgn:(decide (0<j))=false:=by rw[decide_eq_false_iff_not];have:=HJ.out;omega
       by_cases hk26:k<26
       ·have qk:(decide (((k:Nat):Int)<26))=true:=by rw[decide_eq_true_eq];omega
        have HK26:=h_ hk26;clear hk26;obtain⟨c0,c1,c2,c3,c4,c5,c6,c7⟩:=cl8 HBe.out;go_upto_region 23 with fail
        clear qg qgn qk;clear c0 c1 c2 c3 c4 c5 c6 c7;have HAK2:Hid (akRun F rf k nm ot ln cl (lkp ps) (j+1) (ks.drop (j+1)) (tj++[b])=akRun F rf k nm ot ln cl (lkp ps) 0 ks []):=h_ (by have h:=HCO3.out;(try simp only at h);rw[if_pos (.inr HK26.out)] at h;exact h);go_wp2_with fail
        go_roundw
        case rel=>exact⟨j+1,tj++[b],by go_num,hi,HTL3,HRO,HBe,HBz,HBW,HAK2⟩
        case measure=>simp[intOf];omega
       exfalso;have h1:=HKND.out;have h2:=HLEN.out;have h3:=HAR.out.1;(try have h4:=HJ.out);omega
      )
     replace HJ:Hid (0<j):=h_ (by omega);clear hj0;have qg:(decide ((0:Int)<((j:Nat):Int)))=true:=by rw[decide_eq_true_eq];have:=HJ.out;omega
     have qgn:(decide (0<j))=true:=by rw[decide_eq_true_eq];have:=HJ.out;omega
     go_upto_region 23 with fail
     clear qg qgn;have HAK2:Hid (akRun F rf k nm ot ln cl (lkp ps) (j+1) (ks.drop (j+1)) (tj++[b])=akRun F rf k nm ot ln cl (lkp ps) 0 ks []):=h_ (by have h:=HCO3.out;(try simp only at h);rw[if_pos (.inl HJ.out)] at h;exact h);go_wp2_with fail
     go_roundw
     case rel=>exact⟨j+1,tj++[b],by go_num,hi,HTL3,HRO,HBe,HBz,HBW,HAK2⟩
     case measure=>simp[intOf];omega
   )
  have hje:j=ks.length:=by omega
  subst hje;clear hj hi;have HFI:Hid (R=akFin F rf k nm ln cl (posU (ks.getD 1 u0)) tj (lkp ps)):=h_ (by rw[HR.out];exact ak_fin HAR.out.1 HAR.out.2 (by have h:=HAK.out;rw[List.drop_length,akRun] at h;exact h.symm));clear HAK HR;have hk2:k<24/\k≠3/\k≠15/\k≠16/\k≠25/\k≠26/\k≠27/\k≠28/\k≠24:=by have:=HAR.out.1;have:=HKND.out;omega
  have r25:(((k:Nat):Int)==25)=false:=by rw[beq_eq_false_iff_ne];omega
  have r26:(((k:Nat):Int)==26)=false:=by rw[beq_eq_false_iff_ne];omega
  have r27:(((k:Nat):Int)==27)=false:=by rw[beq_eq_false_iff_ne];omega
  have r28:(((k:Nat):Int)==28)=false:=by rw[beq_eq_false_iff_ne];omega
  have r3:(((k:Nat):Int)==3)=false:=by rw[beq_eq_false_iff_ne];omega
  have r15:(((k:Nat):Int)==15)=false:=by rw[beq_eq_false_iff_ne];omega
  have r16:(((k:Nat):Int)==16)=false:=by rw[beq_eq_false_iff_ne];omega
  have r24:(((k:Nat):Int)==24)=false:=by rw[beq_eq_false_iff_ne];omega
  have HKL:=h_ hk2
  skip
  have htl:tj.length=ar k:=by rw[HTL.out];rcases HAR.out.2 with h | h;(have:=HKL.out;omega);exact h
  have HTK:=h_ htl;clear htl hk2;have hfin:R=aOp rf k ln cl (posU (ks.getD 1 u0)) tj:=by have h:=HKL.out;rw[HFI.out,fin_rest _ _ _ _ _ _ _ _ _ (by omega)];unfold aRest;rw[if_neg (by omega),if_neg (by omega),if_neg (by omega),if_neg (by omega)]
  have HFV:=h_ hfin;clear hfin;have HTB:Hid (tabBad k tj=decide (tj≠(sig k).1)):=h_ (tab_bad HKL.out.1 HKL.out.2.1 HKL.out.2.2.1 HKL.out.2.2.2.1 HTK.out);have HOW:Hid ((tabL k).2.2=(sig k).2/\ar k<=2):=h_ (by have h:=tab_ok k HKL.out.1 HKL.out.2.1 HKL.out.2.2.1 HKL.out.2.2.2.1;exact⟨h.1,h.2.2.2.2⟩);obtain⟨c0,c1,c2,c3,c4,c5,c6,c7⟩:=cl8 HBe.out;go_upto_region 62 with fail
  clear r25 r26 r27 r28 r3 r15 r16 r24;clear c0 c1 c2 c3 c4 c5 c6 c7;obtain⟨c0,c1,c2,c3,c4,c5,c6,c7⟩:=cl8 HBe.out;go_wp2_with fail
  clear c0 c1 c2 c3 c4 c5 c6 c7;refine (table_l wl k HAR.out.1).mono ?_;rintro e w3 ⟨rfl,hw⟩;subst hw;obtain⟨m0,hm0⟩:∃ q,q=(tabL k).1:=⟨_,rfl⟩
  obtain⟨m1,hm1⟩:∃ q,q=(tabL k).2.1:=⟨_,rfl⟩
  obtain⟨m2,hm2⟩:∃ q,q=(tabL k).2.2:=⟨_,rfl⟩
  rw[<-hm0,<-hm1,<-hm2];have HM0:=h_ hm0;have HM1:=h_ hm1;have HM2:=h_ hm2;clear hm0 hm1 hm2;go_upto_region 63 with fail
  have hl3:tj.length=0\/tj.length=1\/tj.length=2:=by rw[HTK.out];have:=HOW.out.2;omega
  rcases hl3 with hl | hl | hl
  ·have ht:tj=[]:=List.length_eq_zero_iff.1 hl;subst ht;clear hl;obtain⟨ko,kc,htv,-⟩:=HRW.out.at (S':=fun _=>True) (fun _ _=>trivial) (fun _ _=>trivial);subst htv;have HBD:Hid (decide (([]:List Nat)≠(sig k).1)=false):=h_ (by rw[<-HTB.out,tb0]);simp only[lsn];go_upto_region 65 with fail
   have HNK:Hid (¬ (k=8\/k=9)):=h_ (by intro h;have e:=HTK.out;rcases h with h | h<;>rw[h] at e<;>simp[ar] at e);have HNE:Hid (¬ (k=13\/k=14)):=h_ (by intro h;have e:=HTK.out;rcases h with h | h<;>rw[h] at e<;>simp[ar] at e);have hne:=HNE.out
   try have hnk:=HNK.out
   have p8:(((k:Nat):Int)==8)=false:=by rw[beq_eq_false_iff_ne];omega
   have p9:(((k:Nat):Int)==9)=false:=by rw[beq_eq_false_iff_ne];omega
   have p13:(((k:Nat):Int)==13)=false:=by rw[beq_eq_false_iff_ne];omega
   have p14:(((k:Nat):Int)==14)=false:=by rw[beq_eq_false_iff_ne];omega
   clear hne hnk
   try clear hk
   obtain⟨c0,c1,c2,c3,c4,c5,c6,c7⟩:=cl8 HBe.out;go_upto_region 69 with fail
   clear p8 p9 p13 p14;clear c0 c1 c2 c3 c4 c5 c6 c7;obtain⟨y0,y1,y2⟩:=cl3 HBz.out;obtain⟨fy0,fy1,fy2⟩:=fr3 HBz.out;go_wp2_with fail
   clear y0 fy0 y1 fy1 y2 fy2;exact ask_end (tv:=.int .i64 (m2:Nat)) rfl HBz HBW hkz (by rw[HFV.out,op_ok HBD.out (fun h=>absurd h HNK.out) (fun h=>absurd h HNE.out),<-HOW.out.1,<-HM2.out];rfl)
  ·have HTE:=h_ hl;clear hl;obtain⟨t0,ht⟩:∃ t0,tj=[t0]:=by have h:=HTE.out;match tj,h with | [t0],_=>exact⟨t0,rfl⟩
   subst ht;obtain⟨ta,tc,htv,htc⟩:=row_get HRW.out (by simp);subst htv;simp only[lsc,lsn,Nat.zero_add,Nat.reduceAdd] at htc HRW;have HTC:=h_ htc;clear htc;simp only[lsc,lsn,Nat.zero_add,Nat.reduceAdd]
   by_cases hq:(((t0:Nat):Int) != m0)=true
   ·have HBD:Hid (decide ([t0]≠(sig k).1)=true):=h_ (by rw[<-HTB.out,tb1,<-HM0.out];exact hq);have x0:w3.cell? ta=some (.int .i64 (t0:Nat)):=(by have h:=HTC.out 0 (by simp);rw[addr_add0] at h;exact h)
    go_upto_region 64 with fail
    clear x0;clear hq;go_wp2_with fail
    refine (here_l w3 ke _ _ _ _ _ _ _ _ _ _ ln cl 4 HBe.out).mono ?_;rintro e w4 ⟨rfl,hb⟩;replace HBe:=kB hb HBe;replace HBz:=kB hb HBz;replace HBW:=bw_ HBW hb;replace HRW:=h_ (HRW.out.below hb);clear hb;unfold fltV;obtain⟨y0,y1,y2⟩:=cl3 HBz.out;obtain⟨fy0,fy1,fy2⟩:=fr3 HBz.out;go_wp2_with fail
    clear y0 fy0 y1 fy1 y2 fy2;exact ask_end (tv:=.int .i64 0) rfl HBz HBW hkz (by rw[HFV.out,op_bad HBD.out];rfl)
   have hq2:(((t0:Nat):Int) != m0)=false:=by simpa using hq
   clear hq;have HBD:Hid (decide ([t0]≠(sig k).1)=false):=h_ (by rw[<-HTB.out,tb1,<-HM0.out];exact hq2);have x0:w3.cell? ta=some (.int .i64 (t0:Nat)):=(by have h:=HTC.out 0 (by simp);rw[addr_add0] at h;exact h)
   go_upto_region 65 with fail
   clear hq2;clear x0
   by_cases hk:k=8
   ·have p8:(((k:Nat):Int)==8)=true:=by rw[beq_iff_eq];omega
    have p9:(((k:Nat):Int)==9)=false:=by rw[beq_eq_false_iff_ne];omega
    have HKK:=h_ hk;clear hk
    by_cases hrf:rf=true
    ·subst hrf;have HKK2:=HKK.out;have p13:(((k:Nat):Int)==13)=false:=by rw[beq_eq_false_iff_ne];omega
     have p14:(((k:Nat):Int)==14)=false:=by rw[beq_eq_false_iff_ne];omega
     clear HKK2;obtain⟨c0,c1,c2,c3,c4,c5,c6,c7⟩:=cl8 HBe.out;go_upto_region 69 with fail
     clear p8 p9 p13 p14;clear c0 c1 c2 c3 c4 c5 c6 c7;obtain⟨y0,y1,y2⟩:=cl3 HBz.out;obtain⟨fy0,fy1,fy2⟩:=fr3 HBz.out;go_wp2_with fail
     clear y0 fy0 y1 fy1 y2 fy2;exact ask_end (tv:=.int .i64 (m2:Nat)) rfl HBz HBW hkz (by rw[HFV.out,op_ok HBD.out (fun _=>rfl) (fun h=>by have:=HKK.out;omega),<-HOW.out.1,<-HM2.out];rfl)
    have hrf2:rf=false:=by simpa using hrf
    clear hrf;subst hrf2;obtain⟨c0,c1,c2,c3,c4,c5,c6,c7⟩:=cl8 HBe.out;go_upto_region 66 with fail
    clear p8 p9;clear c0 c1 c2 c3 c4 c5 c6 c7;obtain⟨c0,c1,c2,c3,c4,c5,c6,c7⟩:=cl8 HBe.out;go_wp2_with fail
    clear c0 c1 c2 c3 c4 c5 c6 c7;refine (here_l w3 ke _ _ _ _ _ _ _ _ _ _ ln cl 1 HBe.out).mono ?_;rintro e w4 ⟨rfl,hb⟩;replace HBe:=kB hb HBe;replace HBz:=kB hb HBz;replace HBW:=bw_ HBW hb;replace HRW:=h_ (HRW.out.below hb);clear hb;unfold fltV;obtain⟨y0,y1,y2⟩:=cl3 HBz.out;obtain⟨fy0,fy1,fy2⟩:=fr3 HBz.out;go_wp2_with fail
    clear y0 fy0 y1 fy1 y2 fy2;exact ask_end (tv:=.int .i64 0) rfl HBz HBW hkz (by rw[HFV.out,op_hd HBD.out (by have:=HKK.out;omega)];rfl)
   by_cases hk:k=9
   ·have p8:(((k:Nat):Int)==8)=false:=by rw[beq_eq_false_iff_ne];omega
    have p9:(((k:Nat):Int)==9)=true:=by rw[beq_iff_eq];omega
    have HKK:=h_ hk;clear hk
    by_cases hrf:rf=true
    ·subst hrf;have HKK2:=HKK.out;have p13:(((k:Nat):Int)==13)=false:=by rw[beq_eq_false_iff_ne];omega
     have p14:(((k:Nat):Int)==14)=false:=by rw[beq_eq_false_iff_ne];omega
     clear HKK2;obtain⟨c0,c1,c2,c3,c4,c5,c6,c7⟩:=cl8 HBe.out;go_upto_region 69 with fail
     clear p8 p9 p13 p14;clear c0 c1 c2 c3 c4 c5 c6 c7;obtain⟨y0,y1,y2⟩:=cl3 HBz.out;obtain⟨fy0,fy1,fy2⟩:=fr3 HBz.out;go_wp2_with fail
     clear y0 fy0 y1 fy1 y2 fy2;exact ask_end (tv:=.int .i64 (m2:Nat)) rfl HBz HBW hkz (by rw[HFV.out,op_ok HBD.out (fun _=>rfl) (fun h=>by have:=HKK.out;omega),<-HOW.out.1,<-HM2.out];rfl)
    have hrf2:rf=false:=by simpa using hrf
    clear hrf;subst hrf2;obtain⟨c0,c1,c2,c3,c4,c5,c6,c7⟩:=cl8 HBe.out;go_upto_region 66 with fail
    clear p8 p9;clear c0 c1 c2 c3 c4 c5 c6 c7;obtain⟨c0,c1,c2,c3,c4,c5,c6,c7⟩:=cl8 HBe.out;go_wp2_with fail
    clear c0 c1 c2 c3 c4 c5 c6 c7;refine (here_l w3 ke _ _ _ _ _ _ _ _ _ _ ln cl 1 HBe.out).mono ?_;rintro e w4 ⟨rfl,hb⟩;replace HBe:=kB hb HBe;replace HBz:=kB hb HBz;replace HBW:=bw_ HBW hb;replace HRW:=h_ (HRW.out.below hb);clear hb;unfold fltV;obtain⟨y0,y1,y2⟩:=cl3 HBz.out;obtain⟨fy0,fy1,fy2⟩:=fr3 HBz.out;go_wp2_with fail
    clear y0 fy0 y1 fy1 y2 fy2;exact ask_end (tv:=.int .i64 0) rfl HBz HBW hkz (by rw[HFV.out,op_hd HBD.out (by have:=HKK.out;omega)];rfl)
   have HNK:=h_ (show ¬ (k=8\/k=9) by omega);have HNE:Hid (¬ (k=13\/k=14)):=h_ (by intro h;have e:=HTK.out;rcases h with h | h<;>rw[h] at e<;>simp[ar] at e);have hne:=HNE.out
   try have hnk:=HNK.out
   have p8:(((k:Nat):Int)==8)=false:=by rw[beq_eq_false_iff_ne];omega
   have p9:(((k:Nat):Int)==9)=false:=by rw[beq_eq_false_iff_ne];omega
   have p13:(((k:Nat):Int)==13)=false:=by rw[beq_eq_false_iff_ne];omega
   have p14:(((k:Nat):Int)==14)=false:=by rw[beq_eq_false_iff_ne];omega
   clear hne hnk
   try clear hk
   obtain⟨c0,c1,c2,c3,c4,c5,c6,c7⟩:=cl8 HBe.out;go_upto_region 69 with fail
   clear p8 p9 p13 p14;clear c0 c1 c2 c3 c4 c5 c6 c7;obtain⟨y0,y1,y2⟩:=cl3 HBz.out;obtain⟨fy0,fy1,fy2⟩:=fr3 HBz.out;go_wp2_with fail
   clear y0 fy0 y1 fy1 y2 fy2;exact ask_end (tv:=.int .i64 (m2:Nat)) rfl HBz HBW hkz (by rw[HFV.out,op_ok HBD.out (fun h=>absurd h HNK.out) (fun h=>absurd h HNE.out),<-HOW.out.1,<-HM2.out];rfl)
  have HTE:=h_ hl;clear hl;obtain⟨t0,t1,ht⟩:∃ t0 t1,tj=[t0,t1]:=by have h:=HTE.out;match tj,h with | [t0,t1],_=>exact⟨t0,t1,rfl⟩
  subst ht;obtain⟨ta,tc,htv,htc⟩:=row_get HRW.out (by simp);subst htv;simp only[lsc,lsn,Nat.zero_add,Nat.reduceAdd] at htc HRW;have HTC:=h_ htc;clear htc;simp only[lsc,lsn,Nat.zero_add,Nat.reduceAdd]
  by_cases hq:(((t0:Nat):Int) != m0)=true
  ·have HBD:Hid (decide ([t0,t1]≠(sig k).1)=true):=h_ (by rw[<-HTB.out,tb2,<-HM0.out,<-HM1.out];rw[hq];rfl);have x0:w3.cell? ta=some (.int .i64 (t0:Nat)):=(by have h:=HTC.out 0 (by simp);rw[addr_add0] at h;exact h)
   have x1:w3.cell? ⟨ta.block,ta.off+1,none⟩=some (.int .i64 (t1:Nat)):=HTC.out 1 (by simp);go_upto_region 64 with fail
   clear x0 x1;clear hq;go_wp2_with fail
   refine (here_l w3 ke _ _ _ _ _ _ _ _ _ _ ln cl 4 HBe.out).mono ?_;rintro e w4 ⟨rfl,hb⟩;replace HBe:=kB hb HBe;replace HBz:=kB hb HBz;replace HBW:=bw_ HBW hb;replace HRW:=h_ (HRW.out.below hb);clear hb;unfold fltV;obtain⟨y0,y1,y2⟩:=cl3 HBz.out;obtain⟨fy0,fy1,fy2⟩:=fr3 HBz.out;go_wp2_with fail
   clear y0 fy0 y1 fy1 y2 fy2;exact ask_end (tv:=.int .i64 0) rfl HBz HBW hkz (by rw[HFV.out,op_bad HBD.out];rfl)
  have hq2:(((t0:Nat):Int) != m0)=false:=by simpa using hq
  clear hq
  by_cases hp:(((t1:Nat):Int) != m1)=true
  ·have HBD:Hid (decide ([t0,t1]≠(sig k).1)=true):=h_ (by rw[<-HTB.out,tb2,<-HM0.out,<-HM1.out];rw[hp,Bool.or_true]);have x0:w3.cell? ta=some (.int .i64 (t0:Nat)):=(by have h:=HTC.out 0 (by simp);rw[addr_add0] at h;exact h)
   have x1:w3.cell? ⟨ta.block,ta.off+1,none⟩=some (.int .i64 (t1:Nat)):=HTC.out 1 (by simp);go_upto_region 64 with fail
   clear x0 x1;clear hq2 hp;go_wp2_with fail
   refine (here_l w3 ke _ _ _ _ _ _ _ _ _ _ ln cl 4 HBe.out).mono ?_;rintro e w4 ⟨rfl,hb⟩;replace HBe:=kB hb HBe;replace HBz:=kB hb HBz;replace HBW:=bw_ HBW hb;replace HRW:=h_ (HRW.out.below hb);clear hb;unfold fltV;obtain⟨y0,y1,y2⟩:=cl3 HBz.out;obtain⟨fy0,fy1,fy2⟩:=fr3 HBz.out;go_wp2_with fail
   clear y0 fy0 y1 fy1 y2 fy2;exact ask_end (tv:=.int .i64 0) rfl HBz HBW hkz (by rw[HFV.out,op_bad HBD.out];rfl)
  have hp2:(((t1:Nat):Int) != m1)=false:=by simpa using hp
  clear hp;have HBD:Hid (decide ([t0,t1]≠(sig k).1)=false):=h_ (by rw[<-HTB.out,tb2,<-HM0.out,<-HM1.out];rw[hq2,hp2];rfl);have x0:w3.cell? ta=some (.int .i64 (t0:Nat)):=(by have h:=HTC.out 0 (by simp);rw[addr_add0] at h;exact h)
  have x1:w3.cell? ⟨ta.block,ta.off+1,none⟩=some (.int .i64 (t1:Nat)):=HTC.out 1 (by simp);go_upto_region 65 with fail
  clear hq2 hp2;clear x0 x1;have HNK:Hid (¬ (k=8\/k=9)):=h_ (by intro h;have e:=HTK.out;rcases h with h | h<;>rw[h] at e<;>simp[ar] at e);have hnk:=HNK.out
  by_cases hk:k=13
  ·have p8:(((k:Nat):Int)==8)=false:=by rw[beq_eq_false_iff_ne];omega
   have p9:(((k:Nat):Int)==9)=false:=by rw[beq_eq_false_iff_ne];omega
   have p13:(((k:Nat):Int)==13)=true:=by rw[beq_iff_eq];omega
   have p14:(((k:Nat):Int)==14)=false:=by rw[beq_eq_false_iff_ne];omega
   have HKK:=h_ hk;clear hk hnk;have hk1:1<ks.length:=by have:=HTL.out;have:=HTE.out;omega
   have hgd:ks.getD 1 u0=ks[1]:=by rw[List.getD_eq_getElem?_getD,List.getElem?_eq_getElem hk1];rfl
   obtain⟨y,⟨a,rfl,hy⟩,hU⟩:=HK.out 1 hk1;have hbw0:Below w0.heap.size w0 w3:=HB0.out.trans (HBW.out.mono HB0.out.size);obtain⟨z0,z1,z2,z3,z4,z5,z6,z7⟩:=cells8 (w:=w3) (p:=a.add 8) (y:=y) (fun q v hv=>by have:=hy q v hv;rw[show (0+1)*8=8 from rfl] at this;rw[hbw0.cell (cell_lt this)];exact this);have hpu:=posU_one hU;rw[<-hgd] at hpu;have HPU:=h_ hpu;clear hy hU hbw0 hgd hpu z1 z2 z3 z5 z6 z7;have hk1n:=hk1;have zz0:w3.cell? ⟨a.block,a.off+8,none⟩=some (.int .i64 y.k):=z0;have zz4:w3.cell? ⟨a.block,a.off+8+4,none⟩=some (.slice y.ao y.n y.c):=z4;have zz5:w3.cell? ⟨a.block,a.off+12,none⟩=some (.slice y.ao y.n y.c):=z4;clear z0 z4;have hk1i:(1:Int)<((ks.length:Nat):Int):=by omega
   obtain⟨yk,hyk⟩:∃ q,q=y.k:=⟨_,rfl⟩
   obtain⟨yn,hyn⟩:∃ q,q=y.n:=⟨_,rfl⟩
   rw[<-hyk,<-hyn] at HPU;rw[<-hyk] at zz0;rw[<-hyn] at zz4 zz5;clear hyk hyn
   by_cases hy0:yk=0
   ·have s0:(yk==0)=true:=by rw[beq_iff_eq];exact hy0
    have Hs0:=h_ s0;have t0b:(yk != 0)=false:=by rw[bne_eq_false_iff_eq];exact hy0
    clear hy0 s0
    by_cases hn0:yn=0
    ·have s1:(((yn:Nat):Int)==0)=true:=by rw[beq_iff_eq];omega
     have Hs1:=h_ s1;clear hn0;obtain⟨c0,c1,c2,c3,c4,c5,c6,c7⟩:=cl8 HBe.out;go_upto_region 68 with fail
     clear p8 p9 p13 p14 zz0 zz4 zz5 hk1i hk1n s1 t0b;clear c0 c1 c2 c3 c4 c5 c6 c7;obtain⟨c0,c1,c2,c3,c4,c5,c6,c7⟩:=cl8 HBe.out;go_wp2_with fail
     clear c0 c1 c2 c3 c4 c5 c6 c7;refine (here_l w3 ke _ _ _ _ _ _ _ _ _ _ ln cl 1 HBe.out).mono ?_;rintro e w4 ⟨rfl,hb⟩;replace HBe:=kB hb HBe;replace HBz:=kB hb HBz;replace HBW:=bw_ HBW hb;replace HRW:=h_ (HRW.out.below hb);clear hb;unfold fltV;obtain⟨y0,y1,y2⟩:=cl3 HBz.out;obtain⟨fy0,fy1,fy2⟩:=fr3 HBz.out;go_wp2_with fail
     clear y0 fy0 y1 fy1 y2 fy2;exact ask_end (tv:=.int .i64 0) rfl HBz HBW hkz (by rw[HFV.out,op_div HBD.out (by have:=HKK.out;omega) (by rw[HPU.out,Hs0.out,Hs1.out];rfl)];rfl)
    have s1:(((yn:Nat):Int)==0)=false:=by rw[beq_eq_false_iff_ne];omega
    have Hs1:=h_ s1;clear hn0;obtain⟨c0,c1,c2,c3,c4,c5,c6,c7⟩:=cl8 HBe.out;go_upto_region 69 with fail
    clear p8 p9 p13 p14 zz0 zz4 zz5 hk1i hk1n s1 t0b;clear c0 c1 c2 c3 c4 c5 c6 c7;obtain⟨y0,y1,y2⟩:=cl3 HBz.out;obtain⟨fy0,fy1,fy2⟩:=fr3 HBz.out;go_wp2_with fail
    clear y0 fy0 y1 fy1 y2 fy2;exact ask_end (tv:=.int .i64 (m2:Nat)) rfl HBz HBW hkz (by rw[HFV.out,op_ok HBD.out (fun h=>absurd h HNK.out) (fun _=>by rw[HPU.out,Hs0.out,Hs1.out];rfl),<-HOW.out.1,<-HM2.out];rfl)
   have s0:(yk==0)=false:=by rw[beq_eq_false_iff_ne];exact hy0
   have Hs0:=h_ s0;have t0b:(yk != 0)=true:=by rw[bne_iff_ne];exact hy0
   clear hy0 s0;obtain⟨c0,c1,c2,c3,c4,c5,c6,c7⟩:=cl8 HBe.out;go_upto_region 68 with fail
   clear p8 p9 p13 p14 zz0 zz4 zz5 hk1i hk1n t0b;clear c0 c1 c2 c3 c4 c5 c6 c7;obtain⟨c0,c1,c2,c3,c4,c5,c6,c7⟩:=cl8 HBe.out;go_wp2_with fail
   clear c0 c1 c2 c3 c4 c5 c6 c7;refine (here_l w3 ke _ _ _ _ _ _ _ _ _ _ ln cl 1 HBe.out).mono ?_;rintro e w4 ⟨rfl,hb⟩;replace HBe:=kB hb HBe;replace HBz:=kB hb HBz;replace HBW:=bw_ HBW hb;replace HRW:=h_ (HRW.out.below hb);clear hb;unfold fltV;obtain⟨y0,y1,y2⟩:=cl3 HBz.out;obtain⟨fy0,fy1,fy2⟩:=fr3 HBz.out;go_wp2_with fail
   clear y0 fy0 y1 fy1 y2 fy2;exact ask_end (tv:=.int .i64 0) rfl HBz HBW hkz (by rw[HFV.out,op_div HBD.out (by have:=HKK.out;omega) (by rw[HPU.out,Hs0.out];rfl)];rfl)
  by_cases hk:k=14
  ·have p8:(((k:Nat):Int)==8)=false:=by rw[beq_eq_false_iff_ne];omega
   have p9:(((k:Nat):Int)==9)=false:=by rw[beq_eq_false_iff_ne];omega
   have p13:(((k:Nat):Int)==13)=false:=by rw[beq_eq_false_iff_ne];omega
   have p14:(((k:Nat):Int)==14)=true:=by rw[beq_iff_eq];omega
   have HKK:=h_ hk;clear hk hnk;have hk1:1<ks.length:=by have:=HTL.out;have:=HTE.out;omega
   have hgd:ks.getD 1 u0=ks[1]:=by rw[List.getD_eq_getElem?_getD,List.getElem?_eq_getElem hk1];rfl
   obtain⟨y,⟨a,rfl,hy⟩,hU⟩:=HK.out 1 hk1;have hbw0:Below w0.heap.size w0 w3:=HB0.out.trans (HBW.out.mono HB0.out.size);obtain⟨z0,z1,z2,z3,z4,z5,z6,z7⟩:=cells8 (w:=w3) (p:=a.add 8) (y:=y) (fun q v hv=>by have:=hy q v hv;rw[show (0+1)*8=8 from rfl] at this;rw[hbw0.cell (cell_lt this)];exact this);have hpu:=posU_one hU;rw[<-hgd] at hpu;have HPU:=h_ hpu;clear hy hU hbw0 hgd hpu z1 z2 z3 z5 z6 z7;have hk1n:=hk1;have zz0:w3.cell? ⟨a.block,a.off+8,none⟩=some (.int .i64 y.k):=z0;have zz4:w3.cell? ⟨a.block,a.off+8+4,none⟩=some (.slice y.ao y.n y.c):=z4;have zz5:w3.cell? ⟨a.block,a.off+12,none⟩=some (.slice y.ao y.n y.c):=z4;clear z0 z4;have hk1i:(1:Int)<((ks.length:Nat):Int):=by omega
   obtain⟨yk,hyk⟩:∃ q,q=y.k:=⟨_,rfl⟩
   obtain⟨yn,hyn⟩:∃ q,q=y.n:=⟨_,rfl⟩
   rw[<-hyk,<-hyn] at HPU;rw[<-hyk] at zz0;rw[<-hyn] at zz4 zz5;clear hyk hyn
   by_cases hy0:yk=0
   ·have s0:(yk==0)=true:=by rw[beq_iff_eq];exact hy0
    have Hs0:=h_ s0;have t0b:(yk != 0)=false:=by rw[bne_eq_false_iff_eq];exact hy0
    clear hy0 s0
    by_cases hn0:yn=0
    ·have s1:(((yn:Nat):Int)==0)=true:=by rw[beq_iff_eq];omega
     have Hs1:=h_ s1;clear hn0;obtain⟨c0,c1,c2,c3,c4,c5,c6,c7⟩:=cl8 HBe.out;go_upto_region 68 with fail
     clear p8 p9 p13 p14 zz0 zz4 zz5 hk1i hk1n s1 t0b;clear c0 c1 c2 c3 c4 c5 c6 c7;obtain⟨c0,c1,c2,c3,c4,c5,c6,c7⟩:=cl8 HBe.out;go_wp2_with fail
     clear c0 c1 c2 c3 c4 c5 c6 c7;refine (here_l w3 ke _ _ _ _ _ _ _ _ _ _ ln cl 1 HBe.out).mono ?_;rintro e w4 ⟨rfl,hb⟩;replace HBe:=kB hb HBe;replace HBz:=kB hb HBz;replace HBW:=bw_ HBW hb;replace HRW:=h_ (HRW.out.below hb);clear hb;unfold fltV;obtain⟨y0,y1,y2⟩:=cl3 HBz.out;obtain⟨fy0,fy1,fy2⟩:=fr3 HBz.out;go_wp2_with fail
     clear y0 fy0 y1 fy1 y2 fy2;exact ask_end (tv:=.int .i64 0) rfl HBz HBW hkz (by rw[HFV.out,op_div HBD.out (by have:=HKK.out;omega) (by rw[HPU.out,Hs0.out,Hs1.out];rfl)];rfl)
    have s1:(((yn:Nat):Int)==0)=false:=by rw[beq_eq_false_iff_ne];omega
    have Hs1:=h_ s1;clear hn0;obtain⟨c0,c1,c2,c3,c4,c5,c6,c7⟩:=cl8 HBe.out;go_upto_region 69 with fail
    clear p8 p9 p13 p14 zz0 zz4 zz5 hk1i hk1n s1 t0b;clear c0 c1 c2 c3 c4 c5 c6 c7;obtain⟨y0,y1,y2⟩:=cl3 HBz.out;obtain⟨fy0,fy1,fy2⟩:=fr3 HBz.out;go_wp2_with fail
    clear y0 fy0 y1 fy1 y2 fy2;exact ask_end (tv:=.int .i64 (m2:Nat)) rfl HBz HBW hkz (by rw[HFV.out,op_ok HBD.out (fun h=>absurd h HNK.out) (fun _=>by rw[HPU.out,Hs0.out,Hs1.out];rfl),<-HOW.out.1,<-HM2.out];rfl)
   have s0:(yk==0)=false:=by rw[beq_eq_false_iff_ne];exact hy0
   have Hs0:=h_ s0;have t0b:(yk != 0)=true:=by rw[bne_iff_ne];exact hy0
   clear hy0 s0;obtain⟨c0,c1,c2,c3,c4,c5,c6,c7⟩:=cl8 HBe.out;go_upto_region 68 with fail
   clear p8 p9 p13 p14 zz0 zz4 zz5 hk1i hk1n t0b;clear c0 c1 c2 c3 c4 c5 c6 c7;obtain⟨c0,c1,c2,c3,c4,c5,c6,c7⟩:=cl8 HBe.out;go_wp2_with fail
   clear c0 c1 c2 c3 c4 c5 c6 c7;refine (here_l w3 ke _ _ _ _ _ _ _ _ _ _ ln cl 1 HBe.out).mono ?_;rintro e w4 ⟨rfl,hb⟩;replace HBe:=kB hb HBe;replace HBz:=kB hb HBz;replace HBW:=bw_ HBW hb;replace HRW:=h_ (HRW.out.below hb);clear hb;unfold fltV;obtain⟨y0,y1,y2⟩:=cl3 HBz.out;obtain⟨fy0,fy1,fy2⟩:=fr3 HBz.out;go_wp2_with fail
   clear y0 fy0 y1 fy1 y2 fy2;exact ask_end (tv:=.int .i64 0) rfl HBz HBW hkz (by rw[HFV.out,op_div HBD.out (by have:=HKK.out;omega) (by rw[HPU.out,Hs0.out];rfl)];rfl)
  have HNE:=h_ (show ¬ (k=13\/k=14) by omega);have hne:=HNE.out
  try have hnk:=HNK.out
  have p8:(((k:Nat):Int)==8)=false:=by rw[beq_eq_false_iff_ne];omega
  have p9:(((k:Nat):Int)==9)=false:=by rw[beq_eq_false_iff_ne];omega
  have p13:(((k:Nat):Int)==13)=false:=by rw[beq_eq_false_iff_ne];omega
  have p14:(((k:Nat):Int)==14)=false:=by rw[beq_eq_false_iff_ne];omega
  clear hne hnk
  try clear hk
  obtain⟨c0,c1,c2,c3,c4,c5,c6,c7⟩:=cl8 HBe.out;go_upto_region 69 with fail
  clear p8 p9 p13 p14;clear c0 c1 c2 c3 c4 c5 c6 c7;obtain⟨y0,y1,y2⟩:=cl3 HBz.out;obtain⟨fy0,fy1,fy2⟩:=fr3 HBz.out;go_wp2_with fail
  clear y0 fy0 y1 fy1 y2 fy2;exact ask_end (tv:=.int .i64 (m2:Nat)) rfl HBz HBW hkz (by rw[HFV.out,op_ok HBD.out (fun h=>absurd h HNK.out) (fun h=>absurd h HNE.out),<-HOW.out.1,<-HM2.out];rfl)
theorem ask_E (F:Fs) (rf:Bool) (w0:World) (vf:Value) (hF:rf=true\/∃ SF fs,fnE.At w0 SF vf fs/\F=fndF (fs.map Fd.q)) (x:X) (u:U) (S S2:Nat->Prop) (w:World) (vl:Value) (ps:List PmU) (hu:Um w0 S x u) (hb:Bnd u) (hkm:u.ks.length<=1000000) (hK:∀ j (h:j<u.ks.length),AskOk F rf w0 vf u.ks[j]) (hbw:Below w0.heap.size w0 w) (hp:PmsAt w S2 vl ps) (hn:ps.length+2*ud u<=700000000000) (hkd:u.k=25) :
  Calls Tryz.prog 13 #[xv x,vl,vf,.bool rf] w fun e w'=>e=.returned (.tuple #[.int .i64 (arT (aB F rf u (lkp ps)):Nat),fltV (arF (aB F rf u (lkp ps)))])/\Below w.heap.size w w':=by
 obtain⟨k,nm,ot,z,ln,cl,ks⟩:=u;have HBN:=h_ hb;have HKND:Hid (k=25):=h_ hkd;rw[Um] at hu;obtain⟨⟨e1,e2,e3,e4,e5,e6⟩,⟨h2,h3⟩,⟨h4,h5,h6⟩,h7⟩:=hu;obtain⟨xk,xnm,xot,xb,xao,xn,xq,xko,xkn,xkc,xln,xcl⟩:=x;simp only at e1 e2 e3 e4 e5 e6 h2 h3 h4 h5 h6 h7;have HK:=h_ (fun j (hj:j<ks.length)=>ums_get 0 j h7 hj);have HSL:=h_ h2;rw[Bnd] at hb;have HNM:Hid (nm.length<=3000):=h_ hb.2.1.1;have HAR:=h_ hb.1;have HZB:=h_ hb.2.1.2.2;have HKS:=h_ (fun j (hj:j<ks.length)=>bnds_mem hb.2.2.2 (List.getElem_mem hj));have HKB:Hid (∀ j (h:j<ks.length),AskOk F rf w0 vf ks[j]):=h_ hK;rw[ud] at hn;have HNN:=h_ hn;have HKM:Hid (ks.length<=1000000):=h_ hkm;have HB0:=h_ hbw;have HPS:=h_ hp;have HFN:=h_ hF;have hkl:ks.length<=9223372036854775807:=by rw[<-h4];exact Nat.le_trans h5.1 h5.2
 have HLEN:Hid (ks.length=3):=h_ (by have h:=HAR.out.2;have hk:=HKND.out;subst hk;rcases h with h | h;omega;exact h);clear h7 hb h2 h3 h5 h6 hK hn hkm hbw hp hF hkd;subst e1 e2 e3 e4 e5 e6;subst h4;simp only[xv];have hmf:∀ (fn:Fn) (first cap:Array Value) (w:World),(Instr.makeFunc fn first cap).run Tryz.prog w=.ok (.func fn first cap) w:=fun _ _ _ _=>rfl
 obtain⟨R,hR⟩:∃ q,q=aB F rf (.node k nm ot z ln cl ks) (lkp ps):=⟨_,rfl⟩
 rw[<-hR];have HR:=h_ hR;clear hR;have HBW:=h_ (Below.refl w.heap.size w);go_enter Tryz.func13,Tryz.ntmps13
 go_upto_region 1 with fail
 obtain⟨w1,ke,hw,hkk,hb,hs1,HBe⟩:=newb w #[.int .i64 (k:Nat),.string ⟨nm.toArray⟩,.string ⟨ot.toArray⟩,.bool false,.slice xao xn xq,.slice xko ks.length xkc,.int .i64 (ln:Nat),.int .i64 (cl:Nat)] 48;rw[hw,<-hkk,<-hs1];replace HBW:=bw_ HBW hb;have hke:w.heap.size<=ke:=by rw[hkk];exact Nat.le_refl _
 clear hw hb hkk hs1;obtain⟨w2,kz,hw,hkk,hb,hs1,HBz⟩:=newb w1 #[.int .i64 0,.int .i64 0,.int .i64 0] 36;have he_z:=lk_ hkk HBe;rw[hw,<-hkk];replace HBe:=kB hb HBe;replace HBW:=bw_ HBW hb;have hkz:w.heap.size<=kz:=by rw[hkk];have:=HBW.out.size;omega
 clear hw hb hkk hs1;obtain⟨c0,c1,c2,c3,c4,c5,c6,c7⟩:=cl8 HBe.out;go_wp2_with fail
 clear hmf;clear c0 c1 c2 c3 c4 c5 c6 c7;have HRW:Hid (inE.Row w2 (kz+1) (fun _=>False) (.slice none 0 0) []):=h_ (El.Row.nil _ _ _);have HA0:Hid (akRun F rf k nm ot ln cl (lkp ps) 0 (ks.drop 0) []=akRun F rf k nm ot ln cl (lkp ps) 0 ks []):=h_ rfl
 go_loopw [27,11] (fun i tv wr=>∃ (j:Nat) (tj:List Nat),i=.int .i64 (j:Nat)/\j<=ks.length/\Hid (tj.length=j)/\Hid (inE.Row wr (kz+1) (fun _=>False) tv tj)/\Hid (wr.heap[ke]?=some (.cells #[.int .i64 (k:Nat),.string ⟨nm.toArray⟩,.string ⟨ot.toArray⟩,.bool false,.slice xao xn xq,.slice xko ks.length xkc,.int .i64 (ln:Nat),.int .i64 (cl:Nat)] 48 (0,0)))/\Hid (wr.heap[kz]?=some (.cells #[.int .i64 0,.int .i64 0,.int .i64 0] 36 (0,0)))/\Hid (Below w.heap.size w wr)/\Hid (akRun F rf k nm ot ln cl (lkp ps) j (ks.drop j) tj=akRun F rf k nm ot ln cl (lkp ps) 0 ks [])) (fun i _ _=>ks.length - (intOf i).toNat)
 case atStart=>exact⟨0,[],rfl,Nat.zero_le _,h_ rfl,HRW,HBe,HBz,HBW,HA0⟩
 case round =>
  obtain⟨wl,hwl⟩:∃ q,q=wr:=⟨_,rfl⟩
  subst hwl;clear HRW HBe HBz HBW HA0;obtain⟨j,tj,rfl,hj,HTL,HRW,HBe,HBz,HBW,HAK⟩:=hrel;have hez:ke<wl.heap.size:=lt_of_block HBe.out;have hzl:kz<wl.heap.size:=lt_of_block HBz.out
  by_cases hi:j<ks.length
  ·have hcons:=akRun_cons F rf k nm ot ln cl (lkp ps) ks j hi tj;rw[HAK.out] at hcons;have HCO:Hid (_=_):=h_ hcons.symm;clear hcons;obtain⟨y,⟨a,rfl,hy⟩,hU⟩:=HK.out j hi;have hbw0:Below w0.heap.size w0 wl:=HB0.out.trans (HBW.out.mono HB0.out.size);obtain⟨z0,z1,z2,z3,z4,z5,z6,z7⟩:=cells8 (w:=wl) (p:=a.add (j*8)) (y:=y) (fun q v hv=>by have:=hy q v hv;rw[Nat.zero_add] at this;rw[hbw0.cell (cell_lt this)];exact this);have HU:=h_ hU;clear hy hU hbw0;obtain⟨c0,c1,c2,c3,c4,c5,c6,c7⟩:=cl8 HBe.out;go_upto_region 7 with fail
   clear c0 c1 c2 c3 c4 c5 c6 c7 z0 z1 z2 z3 z4 z5 z6 z7;obtain⟨w3,kd,hw,hkk,hb,hs1,HBd⟩:=newb wl #[.int .i64 y.k,.string y.nm,.string y.ot,.bool y.b,.slice y.ao y.n y.c,.slice y.ko y.kn y.kc,.int .i64 y.ln,.int .i64 y.cl] 48;have he_d:=lk_ hkk HBe;have hz_d:=lk_ hkk HBz;rw[hw,<-hkk];replace HBe:=kB hb HBe;replace HBz:=kB hb HBz;replace HBW:=bw_ HBW hb;replace HRW:=h_ (HRW.out.below hb);clear hw hb hkk hs1;have HPV:Hid (PmsAt w3 (fun _=>True) vl ps):=h_ ((HPS.out.below (HBW.out)).mono (fun _ _=>trivial));have hor:j=0\/j=1\/j=2:=by have h1:=HKND.out;have h2:=HLEN.out;have h3:=HAR.out.1;omega
   rcases hor with hj | hj | hj
   focus
    have qj1:(((j:Nat):Int)==1)=false:=by rw[beq_eq_false_iff_ne];omega
    have qj2:(((j:Nat):Int)==2)=false:=by rw[beq_eq_false_iff_ne];omega
    have HJ:Hid (j=0):=h_ hj;clear hj;obtain⟨c0,c1,c2,c3,c4,c5,c6,c7⟩:=cl8 HBe.out;go_upto_region 11 with fail
    clear qj1 qj2 ;clear c0 c1 c2 c3 c4 c5 c6 c7;have HPI:Hid (PmsAt w3 (fun _=>True) vl ps):=HPV;obtain⟨pin,hpin⟩:∃ z,z=ps:=⟨_,rfl⟩
    have HPJ:Hid (PmsAt w3 (fun _=>True) vl pin):=h_ (by rw[hpin];exact HPI.out);clear HPI;have HPI:=HPJ;clear HPJ;have HLK:Hid (lkp pin=akIn k nm ot j tj (lkp ps)):=h_ (by rw[hpin];rw[akIn_no (fun h=>by have:=HJ.out;omega) (fun h=>by have:=HJ.out;omega)]);have HNP:Hid (pin.length+2*ud ks[j]<=700000000000):=h_ (by rw[hpin];have:=ud_kid2 (ks:=ks) (j:=j) hi;have:=HNN.out;(try simp only[lsa,List.length_singleton]);omega);clear hpin;obtain⟨wa,hwa⟩:∃ z,z=w3:=⟨_,rfl⟩
    subst hwa
   rotate_left
   focus
    have qj1:(((j:Nat):Int)==1)=true:=by rw[beq_iff_eq];omega
    have qj2:(((j:Nat):Int)==2)=false:=by rw[beq_eq_false_iff_ne];omega
    have HJ:Hid (j=1):=h_ hj;clear hj;have ql:(((tj.length:Nat):Int)==1)=true:=by rw[HTL.out,HJ.out];rfl
    have hk:k≠26:=by have:=HKND.out;omega
    obtain⟨ta,tc,htv,htc⟩:=row_get HRW.out (by rw[HTL.out,HJ.out];decide);clear htc;subst htv;have q26:(((k:Nat):Int)==26)=false:=by rw[beq_eq_false_iff_ne];omega
    have HKN:=h_ hk;clear hk;obtain⟨c0,c1,c2,c3,c4,c5,c6,c7⟩:=cl8 HBe.out;go_upto_region 11 with fail
    clear qj1 qj2 ql q26;clear c0 c1 c2 c3 c4 c5 c6 c7;have HPI:Hid (PmsAt w3 (fun _=>True) vl ps):=HPV;obtain⟨pin,hpin⟩:∃ z,z=ps:=⟨_,rfl⟩
    have HPJ:Hid (PmsAt w3 (fun _=>True) vl pin):=h_ (by rw[hpin];exact HPI.out);clear HPI;have HPI:=HPJ;clear HPJ;have HLK:Hid (lkp pin=akIn k nm ot j tj (lkp ps)):=h_ (by rw[hpin];rw[akIn_no (fun h=>HKN.out h.2) (fun h=>by have:=HJ.out;omega)]);have HNP:Hid (pin.length+2*ud ks[j]<=700000000000):=h_ (by rw[hpin];have:=ud_kid2 (ks:=ks) (j:=j) hi;have:=HNN.out;(try simp only[lsa,List.length_singleton]);omega);clear hpin;obtain⟨wa,hwa⟩:∃ z,z=w3:=⟨_,rfl⟩
    subst hwa;clear HKN
   rotate_left
   focus
    have qj1:(((j:Nat):Int)==1)=false:=by rw[beq_eq_false_iff_ne];omega
    have qj2:(((j:Nat):Int)==2)=true:=by rw[beq_iff_eq];omega
    have HJ:Hid (j=2):=h_ hj;clear hj;have hk:k≠27:=by have:=HKND.out;omega
    have q27:(((k:Nat):Int)==27)=false:=by rw[beq_eq_false_iff_ne];omega
    have HKN:=h_ hk;clear hk;obtain⟨c0,c1,c2,c3,c4,c5,c6,c7⟩:=cl8 HBe.out;go_upto_region 11 with fail
    clear qj1 qj2 q27;clear c0 c1 c2 c3 c4 c5 c6 c7;have HPI:Hid (PmsAt w3 (fun _=>True) vl ps):=HPV;obtain⟨pin,hpin⟩:∃ z,z=ps:=⟨_,rfl⟩
    have HPJ:Hid (PmsAt w3 (fun _=>True) vl pin):=h_ (by rw[hpin];exact HPI.out);clear HPI;have HPI:=HPJ;clear HPJ;have HLK:Hid (lkp pin=akIn k nm ot j tj (lkp ps)):=h_ (by rw[hpin];rw[akIn_no (fun h=>by have:=HJ.out;omega) (fun h=>HKN.out h.2)]);have HNP:Hid (pin.length+2*ud ks[j]<=700000000000):=h_ (by rw[hpin];have:=ud_kid2 (ks:=ks) (j:=j) hi;have:=HNN.out;(try simp only[lsa,List.length_singleton]);omega);clear hpin;obtain⟨wa,hwa⟩:∃ z,z=w3:=⟨_,rfl⟩
    subst hwa;clear HKN
   rotate_left
   all_goals (
    go_upto_region 11 with fail
    obtain⟨d0,d1,d2,d3,d4,d5,d6,d7⟩:=cl8 HBd.out;have hbw1:Below w0.heap.size w0 wa:=HB0.out.trans (HBW.out.mono HB0.out.size);have HB1:=h_ hbw1;clear hbw1;have hco:=HCO.out;rw[<-HLK.out] at hco;have HCO2:=h_ hco;clear hco;obtain⟨r,hr⟩:∃ q,q=aB F rf ks[j] (lkp pin):=⟨_,rfl⟩
    have HRR:=h_ hr;have hks:=HKB.out j hi y S (fun _=>True) wa _ pin HU.out (HKS.out j hi) HB1.out HPI.out HNP.out;rw[<-hr] at hks;simp only[xv] at hks;have HKC:=h_ hks;clear hks hr;have hco:=HCO2.out;rw[<-HRR.out] at hco;have HCO3:=h_ hco;clear hco HCO2;refine wp_region_lit ?_
    iterate 4 (refine wpList_plain rfl fun K0 hK0=>?_;go_simp;refine hK0 _ _ ?_;clear hK0)
    refine wpList_plain rfl fun K0 hK0=>?_
    go_simp
    refine HKC.out.mono ?_;rintro e w4 ⟨rfl,hb⟩;refine hK0 _ _ ?_;clear hK0 HKC;clear d0 d1 d2 d3 d4 d5 d6 d7;replace HBe:=kB hb HBe;replace HBz:=kB hb HBz;replace HBd:=kB hb HBd;replace HBW:=bw_ HBW hb;replace HRW:=h_ (HRW.out.below hb);replace HPV:=h_ (HPV.out.below hb);replace HPI:=h_ (HPI.out.below hb);clear hb;have HNZ:=h_ (anz_b F rf ks[j] (lkp pin))
    cases r with
    | error e =>
     have hz:e.1≠0:=HNZ.out e HRR.out.symm;obtain⟨e0,e1,e2⟩:=e;unfold fltV;simp only[arT,arF];have HZ:=h_ hz;clear hz
     iterate 3 (refine wpList_plain rfl fun K0 hK0=>?_;go_simp;refine hK0 _ _ ?_;clear hK0)
     skip
     have hqz:(((e0:Nat):Int) != 0)=true:=by rw[bne_iff_ne];have:=HZ.out;simp only at this;omega
     go_upto_region 12 with fail
     obtain⟨w5,kf,hw,hkk,hb,hs1,HBf⟩:=newb w4 #[.int .i64 (e0:Nat),.int .i64 (e1:Nat),.int .i64 (e2:Nat)] 36;have he_f:=lk_ hkk HBe;have hz_f:=lk_ hkk HBz;have hd_f:=lk_ hkk HBd;rw[hw,<-hkk];replace HBe:=kB hb HBe;replace HBz:=kB hb HBz;replace HBd:=kB hb HBd;replace HBW:=bw_ HBW hb;replace HRW:=h_ (HRW.out.below hb);replace HPV:=h_ (HPV.out.below hb);replace HPI:=h_ (HPI.out.below hb);clear hw hb hkk hs1;obtain⟨f0,f1,f2⟩:=cl3 HBf.out;go_upto_region 13 with fail
     clear f0 f1 f2;clear hqz;have hlt_f:=lt_of_block HBf.out;refine R7.r0 [[],[],[0,1]] 2 ?_;refine R7.cd ?_ (fun T xs wr hA=>?_) ?_
     rotate_left
     ·have e16:=hA.pq 16;simp only[gsa,gsc,gsz] at e16;have hBq:wr.heap[kf]?=_:=(hA.bl _ hlt_f (fun q h=>absurd h (Nat.not_lt_zero _))).trans HBf.out;obtain⟨q0,q1,q2⟩:=cl3 hBq;clear hBq;clear hA;go_simp<;>(try with_reducible rfl)
     refine R7.cd ?_ (fun T xs wr hA=>?_) ?_
     rotate_left
     ·clear hA;go_simp<;>(try with_reducible rfl)
     refine R7.Chain.done (fun xs w6 hL=>?_);obtain⟨⟨hbe,hbl⟩,hf,-,-⟩:=hL;have f0:xs 0=_:=hf 0 (by decide);have f1:xs 1=_:=hf 1 (by decide)
     (try simp (disch:=decide) only [R7.mi] at f0 f1)
     have hb:Below w5.heap.size w5 w6:=R7.b0_ hbe;clear hbe hbl hf;refine R7.rest_list (by decide) (by kernel_rfl) ?_;simp only[R7.fill,t1_,t2_,t3_,t4_,t5_,t6_,t7_,f0,f1];clear hlt_f f0 f1;replace HBe:=kB hb HBe;replace HBz:=kB hb HBz;replace HBd:=kB hb HBd;replace HBf:=kB hb HBf;replace HBW:=bw_ HBW hb;replace HRW:=h_ (HRW.out.below hb);replace HPV:=h_ (HPV.out.below hb);replace HPI:=h_ (HPI.out.below hb);clear hb;obtain⟨y0,y1,y2⟩:=cl3 HBz.out;obtain⟨fy0,fy1,fy2⟩:=fr3 HBz.out;go_wp2_with fail
     clear y0 fy0 y1 fy1 y2 fy2;exact ask_end (tv:=.int .i64 0) rfl HBz HBW hkz (by rw[HR.out,ak_err HAR.out.1 HAR.out.2 HCO3.out.symm];rfl)
    | ok b =>
     simp only[arT,arF,fltV,f0]
     iterate 3 (refine wpList_plain rfl fun K0 hK0=>?_;go_simp;refine hK0 _ _ ?_;clear hK0)
     go_upto_region 12 with fail
     obtain⟨w5,kf,hw,hkk,hb,hs1,HBf⟩:=newb w4 #[.int .i64 0,.int .i64 0,.int .i64 0] 36;have he_f:=lk_ hkk HBe;have hz_f:=lk_ hkk HBz;have hd_f:=lk_ hkk HBd;rw[hw,<-hkk];replace HBe:=kB hb HBe;replace HBz:=kB hb HBz;replace HBd:=kB hb HBd;replace HBW:=bw_ HBW hb;replace HRW:=h_ (HRW.out.below hb);replace HPV:=h_ (HPV.out.below hb);replace HPI:=h_ (HPI.out.below hb);clear hw hb hkk hs1;obtain⟨f0,f1,f2⟩:=cl3 HBf.out;go_upto_region 14 with fail
     clear f0 f1 f2;obtain⟨w6,kn,hw,hkk,hb,hs1,HBn⟩:=newb w5 #[.int .i64 (b:Nat)] 3;have hkk2:=hkk.symm;have HBB:=h_ hb;clear hb hs1 hkk;have hrl:tj.length<=1000000:=by rw[HTL.out];have:=HKM.out;omega
     have hrw6:=HRW.out.below HBB.out;have HR6:=h_ hrw6;have HRL:=h_ hrl;have HB6:Hid (kz+1<=w6.heap.size):=h_ (by have:=HBB.out.size;have:=lt_of_block HBz.out;omega);clear hrl hrw6;go_upto_region 15 with (first | (at_builtin;refine El.Row.append (E:=inE) HR6.out rfl (.tmp 78) (.tmp 80) 91 rfl Tryz.underlying91 infoIntN rfl (by decide) rfl b kn 3 rfl HBn.out trivial HRL.out HB6.out ?_;intro v2 w7 hrow hgw;have HRO:=h_ hrow;have HGW:=h_ hgw;clear hrow hgw) | fail)
     clear hw hkk2;replace HBe:=kB HBB.out HBe;replace HBz:=kB HBB.out HBz;replace HBd:=kB HBB.out HBd;replace HBf:=kB HBB.out HBf;replace HBW:=h_ (HBW.out.trans (HBB.out.mono HBW.out.size));replace HRW:=h_ (HRW.out.below HBB.out);replace HPV:=h_ (HPV.out.below HBB.out);replace HPI:=h_ (HPI.out.below HBB.out);replace HBe:=HR6.out.kR HGW.out (by omega) HBe;replace HBz:=HR6.out.kR HGW.out (by omega) HBz;replace HBW:=h_ (⟨HGW.out.os.trans HBW.out.os,HGW.out.tape.trans HBW.out.tape,HGW.out.output.trans HBW.out.output,Nat.le_trans HBW.out.size HGW.out.size,fun g hg=>(HGW.out.block g (by have:=HBW.out.size;omega) (fun e=>by have:=(HR6.out.ge e.symm).1;omega)).trans (HBW.out.block g hg)⟩:Below w.heap.size w w7);have HTL3:Hid ((tj++[b]).length=j+1):=h_ (by rw[lsa,HTL.out];rfl);clear HPV HR6 HB6 HRL HBB HBn HRW
     by_cases hj0:j=0
     ·try (exfalso;have:=HJ.out;omega)
      all_goals (
       replace HJ:Hid (j=0):=h_ hj0;clear hj0;have qg:(decide ((0:Int)<((j:Nat):Int)))=false:=by rw[decide_eq_false_iff_not];have:=HJ.out;omega
       have qgn:(decide (0<j))=false:=by rw[decide_eq_false_iff_not];have:=HJ.out;omega
       by_cases hk26:k<26
       ·have qk:(decide (((k:Nat):Int)<26))=true:=by rw[decide_eq_true_eq];omega
        have HK26:=h_ hk26;clear hk26;obtain⟨c0,c1,c2,c3,c4,c5,c6,c7⟩:=cl8 HBe.out;go_upto_region 23 with fail
        clear qg qgn qk;clear c0 c1 c2 c3 c4 c5 c6 c7;have HAK2:Hid (akRun F rf k nm ot ln cl (lkp ps) (j+1) (ks.drop (j+1)) (tj++[b])=akRun F rf k nm ot ln cl (lkp ps) 0 ks []):=h_ (by have h:=HCO3.out;(try simp only at h);rw[if_pos (.inr HK26.out)] at h;exact h);go_wp2_with fail
        go_roundw
        case rel=>exact⟨j+1,tj++[b],by go_num,hi,HTL3,HRO,HBe,HBz,HBW,HAK2⟩
        case measure=>simp[intOf];omega
       exfalso;have h1:=HKND.out;have h2:=HLEN.out;have h3:=HAR.out.1;(try have h4:=HJ.out);omega
      )
     replace HJ:Hid (0<j):=h_ (by omega);clear hj0;have qg:(decide ((0:Int)<((j:Nat):Int)))=true:=by rw[decide_eq_true_eq];have:=HJ.out;omega
     have qgn:(decide (0<j))=true:=by rw[decide_eq_true_eq];have:=HJ.out;omega
     go_upto_region 23 with fail
     clear qg qgn;have HAK2:Hid (akRun F rf k nm ot ln cl (lkp ps) (j+1) (ks.drop (j+1)) (tj++[b])=akRun F rf k nm ot ln cl (lkp ps) 0 ks []):=h_ (by have h:=HCO3.out;(try simp only at h);rw[if_pos (.inl HJ.out)] at h;exact h);go_wp2_with fail
     go_roundw
     case rel=>exact⟨j+1,tj++[b],by go_num,hi,HTL3,HRO,HBe,HBz,HBW,HAK2⟩
     case measure=>simp[intOf];omega
   )
  have hje:j=ks.length:=by omega
  subst hje;clear hj hi;have HFI:Hid (R=akFin F rf k nm ln cl (posU (ks.getD 1 u0)) tj (lkp ps)):=h_ (by rw[HR.out];exact ak_fin HAR.out.1 HAR.out.2 (by have h:=HAK.out;rw[List.drop_length,akRun] at h;exact h.symm));clear HAK HR;have hk:=HKND.out;have HTE:Hid (tj.length=3):=h_ (by rw[HTL.out];rcases HAR.out.2 with h | h<;>first | omega | (rw[h,hk];rfl));obtain⟨t0,t1,t2,ht⟩:∃ t0 t1 t2,tj=[t0,t1,t2]:=by have h:=HTE.out;match tj,h with | [t0,t1,t2],_=>exact⟨t0,t1,t2,rfl⟩
  subst ht;obtain⟨ta,tc,htv,htc⟩:=row_get HRW.out (by simp);subst htv;simp only[lsc,lsn,Nat.zero_add,Nat.reduceAdd] at htc HRW;have HTC:=h_ htc;clear htc;simp only[lsc,lsn,Nat.zero_add,Nat.reduceAdd];have r25:(((k:Nat):Int)==25)=true:=by rw[beq_iff_eq];omega
  have r26:(((k:Nat):Int)==26)=false:=by rw[beq_eq_false_iff_ne];omega
  have r27:(((k:Nat):Int)==27)=false:=by rw[beq_eq_false_iff_ne];omega
  have r28:(((k:Nat):Int)==28)=false:=by rw[beq_eq_false_iff_ne];omega
  have HKK:=h_ hk;clear hk
  by_cases hrf:rf=true
  ·subst hrf;obtain⟨c0,c1,c2,c3,c4,c5,c6,c7⟩:=cl8 HBe.out;go_upto_region 31 with fail
   clear c0 c1 c2 c3 c4 c5 c6 c7;clear r25 r26 r27 r28;go_wp2_with fail
   refine (here_l wl ke _ _ _ _ _ _ _ _ _ _ ln cl 1 HBe.out).mono ?_;rintro e w3 ⟨rfl,hb⟩;replace HBe:=kB hb HBe;replace HBz:=kB hb HBz;replace HBW:=bw_ HBW hb;replace HRW:=h_ (HRW.out.below hb);clear hb;unfold fltV;obtain⟨y0,y1,y2⟩:=cl3 HBz.out;obtain⟨fy0,fy1,fy2⟩:=fr3 HBz.out;go_wp2_with fail
   clear y0 fy0 y1 fy1 y2 fy2;exact ask_end (tv:=.int .i64 0) rfl HBz HBW hkz (by rw[HFI.out,HKK.out,fin25,aIf_ref];rfl)
  have hrf2:rf=false:=by simpa using hrf
  clear hrf;subst hrf2;obtain⟨c0,c1,c2,c3,c4,c5,c6,c7⟩:=cl8 HBe.out;go_upto_region 32 with fail
  clear c0 c1 c2 c3 c4 c5 c6 c7
  by_cases h0:t0=1
  ·have q0:(((t0:Nat):Int) != 1)=false:=by rw[bne_eq_false_iff_eq];omega
   have H0:=h_ h0;clear h0
   by_cases h12:t1=t2
   ·have qt:(((t1:Nat):Int) != ((t2:Nat):Int))=false:=by rw[bne_eq_false_iff_eq];omega
    have H12:=h_ h12;clear h12;obtain⟨c0,c1,c2,c3,c4,c5,c6,c7⟩:=cl8 HBe.out;have x0:wl.cell? ta=some (.int .i64 (t0:Nat)):=(by have h:=HTC.out 0 (by simp);rw[addr_add0] at h;exact h)
    have x1:wl.cell? ⟨ta.block,ta.off+1,none⟩=some (.int .i64 (t1:Nat)):=HTC.out 1 (by simp);have x2:wl.cell? ⟨ta.block,ta.off+2,none⟩=some (.int .i64 (t2:Nat)):=HTC.out 2 (by simp)
    go_quiet (fail)
    obtain⟨w3,hwq⟩:∃ q,q=wl.drewN nq:=⟨_,rfl⟩
    have hb:Below wl.heap.size wl w3:=by rw[hwq];exact below_drewN' _ _ _
    rw[<-hwq];clear hwq;clear c0 c1 c2 c3 c4 c5 c6 c7 x0 x1 x2;replace HBe:=kB hb HBe;replace HBz:=kB hb HBz;replace HBW:=bw_ HBW hb;replace HRW:=h_ (HRW.out.below hb);clear hb;go_upto_region 34 with fail
    clear qt r25 r26 r27 r28 q0;obtain⟨tb,tc2,htv2,htc2⟩:=row_get HRW.out (by simp);injection htv2 with ha2;injection ha2 with ha2;subst ha2;have HTC:=h_ htc2;clear htc2;have x2:w3.cell? ⟨ta.block,ta.off+2,none⟩=some (.int .i64 (t2:Nat)):=HTC.out 2 (by simp);obtain⟨y0,y1,y2⟩:=cl3 HBz.out;obtain⟨fy0,fy1,fy2⟩:=fr3 HBz.out;go_wp2_with fail
    clear x2 y0 fy0 y1 fy1 y2 fy2;exact ask_end (tv:=.int .i64 (t2:Nat)) rfl HBz HBW hkz (by rw[HFI.out,HKK.out,fin25,aIf_ok H0.out H12.out];rfl)
   have qt:(((t1:Nat):Int) != ((t2:Nat):Int))=true:=by rw[bne_iff_ne];omega
   have H12:=h_ h12;clear h12;obtain⟨c0,c1,c2,c3,c4,c5,c6,c7⟩:=cl8 HBe.out;have x0:wl.cell? ta=some (.int .i64 (t0:Nat)):=(by have h:=HTC.out 0 (by simp);rw[addr_add0] at h;exact h)
   have x1:wl.cell? ⟨ta.block,ta.off+1,none⟩=some (.int .i64 (t1:Nat)):=HTC.out 1 (by simp);have x2:wl.cell? ⟨ta.block,ta.off+2,none⟩=some (.int .i64 (t2:Nat)):=HTC.out 2 (by simp)
   go_quiet (fail)
   obtain⟨w3,hwq⟩:∃ q,q=wl.drewN nq:=⟨_,rfl⟩
   have hb:Below wl.heap.size wl w3:=by rw[hwq];exact below_drewN' _ _ _
   rw[<-hwq];clear hwq;clear c0 c1 c2 c3 c4 c5 c6 c7 x0 x1 x2;replace HBe:=kB hb HBe;replace HBz:=kB hb HBz;replace HBW:=bw_ HBW hb;replace HRW:=h_ (HRW.out.below hb);clear hb;go_upto_region 33 with fail
   clear qt r25 r26 r27 r28 q0;obtain⟨c0,c1,c2,c3,c4,c5,c6,c7⟩:=cl8 HBe.out;go_wp2_with fail
   clear c0 c1 c2 c3 c4 c5 c6 c7;refine (here_l w3 ke _ _ _ _ _ _ _ _ _ _ ln cl 4 HBe.out).mono ?_;rintro e w4 ⟨rfl,hb⟩;replace HBe:=kB hb HBe;replace HBz:=kB hb HBz;replace HBW:=bw_ HBW hb;replace HRW:=h_ (HRW.out.below hb);clear hb;unfold fltV;obtain⟨y0,y1,y2⟩:=cl3 HBz.out;obtain⟨fy0,fy1,fy2⟩:=fr3 HBz.out;go_wp2_with fail
   clear y0 fy0 y1 fy1 y2 fy2;exact ask_end (tv:=.int .i64 0) rfl HBz HBW hkz (by rw[HFI.out,HKK.out,fin25,aIf_no (.inr H12.out)];rfl)
  have q0:(((t0:Nat):Int) != 1)=true:=by rw[bne_iff_ne];omega
  have H0:=h_ h0;clear h0;obtain⟨c0,c1,c2,c3,c4,c5,c6,c7⟩:=cl8 HBe.out;have x0:wl.cell? ta=some (.int .i64 (t0:Nat)):=(by have h:=HTC.out 0 (by simp);rw[addr_add0] at h;exact h)
  have x1:wl.cell? ⟨ta.block,ta.off+1,none⟩=some (.int .i64 (t1:Nat)):=HTC.out 1 (by simp);have x2:wl.cell? ⟨ta.block,ta.off+2,none⟩=some (.int .i64 (t2:Nat)):=HTC.out 2 (by simp)
  go_quiet (fail)
  obtain⟨w3,hwq⟩:∃ q,q=wl.drewN nq:=⟨_,rfl⟩
  have hb:Below wl.heap.size wl w3:=by rw[hwq];exact below_drewN' _ _ _
  rw[<-hwq];clear hwq;clear c0 c1 c2 c3 c4 c5 c6 c7 x0 x1 x2;replace HBe:=kB hb HBe;replace HBz:=kB hb HBz;replace HBW:=bw_ HBW hb;replace HRW:=h_ (HRW.out.below hb);clear hb;go_upto_region 33 with fail
  clear q0 r25 r26 r27 r28;obtain⟨c0,c1,c2,c3,c4,c5,c6,c7⟩:=cl8 HBe.out;go_wp2_with fail
  clear c0 c1 c2 c3 c4 c5 c6 c7;refine (here_l w3 ke _ _ _ _ _ _ _ _ _ _ ln cl 4 HBe.out).mono ?_;rintro e w4 ⟨rfl,hb⟩;replace HBe:=kB hb HBe;replace HBz:=kB hb HBz;replace HBW:=bw_ HBW hb;replace HRW:=h_ (HRW.out.below hb);clear hb;unfold fltV;obtain⟨y0,y1,y2⟩:=cl3 HBz.out;obtain⟨fy0,fy1,fy2⟩:=fr3 HBz.out;go_wp2_with fail
  clear y0 fy0 y1 fy1 y2 fy2;exact ask_end (tv:=.int .i64 0) rfl HBz HBW hkz (by rw[HFI.out,HKK.out,fin25,aIf_no (.inl H0.out)];rfl)
theorem ask_F (F:Fs) (rf:Bool) (w0:World) (vf:Value) (hF:rf=true\/∃ SF fs,fnE.At w0 SF vf fs/\F=fndF (fs.map Fd.q)) (x:X) (u:U) (S S2:Nat->Prop) (w:World) (vl:Value) (ps:List PmU) (hu:Um w0 S x u) (hb:Bnd u) (hkm:u.ks.length<=1000000) (hK:∀ j (h:j<u.ks.length),AskOk F rf w0 vf u.ks[j]) (hbw:Below w0.heap.size w0 w) (hp:PmsAt w S2 vl ps) (hn:ps.length+2*ud u<=700000000000) (hkd:u.k=3\/u.k=15\/u.k=16) :
  Calls Tryz.prog 13 #[xv x,vl,vf,.bool rf] w fun e w'=>e=.returned (.tuple #[.int .i64 (arT (aB F rf u (lkp ps)):Nat),fltV (arF (aB F rf u (lkp ps)))])/\Below w.heap.size w w':=by
 obtain⟨k,nm,ot,z,ln,cl,ks⟩:=u;have HBN:=h_ hb;have HKND:Hid (k=3\/k=15\/k=16):=h_ hkd;rw[Um] at hu;obtain⟨⟨e1,e2,e3,e4,e5,e6⟩,⟨h2,h3⟩,⟨h4,h5,h6⟩,h7⟩:=hu;obtain⟨xk,xnm,xot,xb,xao,xn,xq,xko,xkn,xkc,xln,xcl⟩:=x;simp only at e1 e2 e3 e4 e5 e6 h2 h3 h4 h5 h6 h7;have HK:=h_ (fun j (hj:j<ks.length)=>ums_get 0 j h7 hj);have HSL:=h_ h2;rw[Bnd] at hb;have HNM:Hid (nm.length<=3000):=h_ hb.2.1.1;have HAR:=h_ hb.1;have HZB:=h_ hb.2.1.2.2;have HKS:=h_ (fun j (hj:j<ks.length)=>bnds_mem hb.2.2.2 (List.getElem_mem hj));have HKB:Hid (∀ j (h:j<ks.length),AskOk F rf w0 vf ks[j]):=h_ hK;rw[ud] at hn;have HNN:=h_ hn;have HKM:Hid (ks.length<=1000000):=h_ hkm;have HB0:=h_ hbw;have HPS:=h_ hp;have HFN:=h_ hF;have hkl:ks.length<=9223372036854775807:=by rw[<-h4];exact Nat.le_trans h5.1 h5.2
 have HLEN:Hid (ks.length<=2):=h_ (by have h:=HAR.out.2;have hk:=HKND.out;rcases hk with hk | hk | hk<;>subst hk<;>rcases h with h | h<;>first | omega | (rw[h];decide));clear h7 hb h2 h3 h5 h6 hK hn hkm hbw hp hF hkd;subst e1 e2 e3 e4 e5 e6;subst h4;simp only[xv];have hmf:∀ (fn:Fn) (first cap:Array Value) (w:World),(Instr.makeFunc fn first cap).run Tryz.prog w=.ok (.func fn first cap) w:=fun _ _ _ _=>rfl
 obtain⟨R,hR⟩:∃ q,q=aB F rf (.node k nm ot z ln cl ks) (lkp ps):=⟨_,rfl⟩
 rw[<-hR];have HR:=h_ hR;clear hR;have HBW:=h_ (Below.refl w.heap.size w);go_enter Tryz.func13,Tryz.ntmps13
 go_upto_region 1 with fail
 obtain⟨w1,ke,hw,hkk,hb,hs1,HBe⟩:=newb w #[.int .i64 (k:Nat),.string ⟨nm.toArray⟩,.string ⟨ot.toArray⟩,.bool false,.slice xao xn xq,.slice xko ks.length xkc,.int .i64 (ln:Nat),.int .i64 (cl:Nat)] 48;rw[hw,<-hkk,<-hs1];replace HBW:=bw_ HBW hb;have hke:w.heap.size<=ke:=by rw[hkk];exact Nat.le_refl _
 clear hw hb hkk hs1;obtain⟨w2,kz,hw,hkk,hb,hs1,HBz⟩:=newb w1 #[.int .i64 0,.int .i64 0,.int .i64 0] 36;have he_z:=lk_ hkk HBe;rw[hw,<-hkk];replace HBe:=kB hb HBe;replace HBW:=bw_ HBW hb;have hkz:w.heap.size<=kz:=by rw[hkk];have:=HBW.out.size;omega
 clear hw hb hkk hs1;obtain⟨c0,c1,c2,c3,c4,c5,c6,c7⟩:=cl8 HBe.out;go_wp2_with fail
 clear hmf;clear c0 c1 c2 c3 c4 c5 c6 c7;have HRW:Hid (inE.Row w2 (kz+1) (fun _=>False) (.slice none 0 0) []):=h_ (El.Row.nil _ _ _);have HA0:Hid (akRun F rf k nm ot ln cl (lkp ps) 0 (ks.drop 0) []=akRun F rf k nm ot ln cl (lkp ps) 0 ks []):=h_ rfl
 go_loopw [27,11] (fun i tv wr=>∃ (j:Nat) (tj:List Nat),i=.int .i64 (j:Nat)/\j<=ks.length/\Hid (tj.length=j)/\Hid (inE.Row wr (kz+1) (fun _=>False) tv tj)/\Hid (wr.heap[ke]?=some (.cells #[.int .i64 (k:Nat),.string ⟨nm.toArray⟩,.string ⟨ot.toArray⟩,.bool false,.slice xao xn xq,.slice xko ks.length xkc,.int .i64 (ln:Nat),.int .i64 (cl:Nat)] 48 (0,0)))/\Hid (wr.heap[kz]?=some (.cells #[.int .i64 0,.int .i64 0,.int .i64 0] 36 (0,0)))/\Hid (Below w.heap.size w wr)/\Hid (akRun F rf k nm ot ln cl (lkp ps) j (ks.drop j) tj=akRun F rf k nm ot ln cl (lkp ps) 0 ks [])) (fun i _ _=>ks.length - (intOf i).toNat)
 case atStart=>exact⟨0,[],rfl,Nat.zero_le _,h_ rfl,HRW,HBe,HBz,HBW,HA0⟩
 case round =>
  obtain⟨wl,hwl⟩:∃ q,q=wr:=⟨_,rfl⟩
  subst hwl;clear HRW HBe HBz HBW HA0;obtain⟨j,tj,rfl,hj,HTL,HRW,HBe,HBz,HBW,HAK⟩:=hrel;have hez:ke<wl.heap.size:=lt_of_block HBe.out;have hzl:kz<wl.heap.size:=lt_of_block HBz.out
  by_cases hi:j<ks.length
  ·have hcons:=akRun_cons F rf k nm ot ln cl (lkp ps) ks j hi tj;rw[HAK.out] at hcons;have HCO:Hid (_=_):=h_ hcons.symm;clear hcons;obtain⟨y,⟨a,rfl,hy⟩,hU⟩:=HK.out j hi;have hbw0:Below w0.heap.size w0 wl:=HB0.out.trans (HBW.out.mono HB0.out.size);obtain⟨z0,z1,z2,z3,z4,z5,z6,z7⟩:=cells8 (w:=wl) (p:=a.add (j*8)) (y:=y) (fun q v hv=>by have:=hy q v hv;rw[Nat.zero_add] at this;rw[hbw0.cell (cell_lt this)];exact this);have HU:=h_ hU;clear hy hU hbw0;obtain⟨c0,c1,c2,c3,c4,c5,c6,c7⟩:=cl8 HBe.out;go_upto_region 7 with fail
   clear c0 c1 c2 c3 c4 c5 c6 c7 z0 z1 z2 z3 z4 z5 z6 z7;obtain⟨w3,kd,hw,hkk,hb,hs1,HBd⟩:=newb wl #[.int .i64 y.k,.string y.nm,.string y.ot,.bool y.b,.slice y.ao y.n y.c,.slice y.ko y.kn y.kc,.int .i64 y.ln,.int .i64 y.cl] 48;have he_d:=lk_ hkk HBe;have hz_d:=lk_ hkk HBz;rw[hw,<-hkk];replace HBe:=kB hb HBe;replace HBz:=kB hb HBz;replace HBW:=bw_ HBW hb;replace HRW:=h_ (HRW.out.below hb);clear hw hb hkk hs1;have HPV:Hid (PmsAt w3 (fun _=>True) vl ps):=h_ ((HPS.out.below (HBW.out)).mono (fun _ _=>trivial));have hor:j=0\/j=1:=by have h1:=HKND.out;have h2:=HLEN.out;have h3:=HAR.out.1;omega
   rcases hor with hj | hj
   focus
    have qj1:(((j:Nat):Int)==1)=false:=by rw[beq_eq_false_iff_ne];omega
    have qj2:(((j:Nat):Int)==2)=false:=by rw[beq_eq_false_iff_ne];omega
    have HJ:Hid (j=0):=h_ hj;clear hj;obtain⟨c0,c1,c2,c3,c4,c5,c6,c7⟩:=cl8 HBe.out;go_upto_region 11 with fail
    clear qj1 qj2 ;clear c0 c1 c2 c3 c4 c5 c6 c7;have HPI:Hid (PmsAt w3 (fun _=>True) vl ps):=HPV;obtain⟨pin,hpin⟩:∃ z,z=ps:=⟨_,rfl⟩
    have HPJ:Hid (PmsAt w3 (fun _=>True) vl pin):=h_ (by rw[hpin];exact HPI.out);clear HPI;have HPI:=HPJ;clear HPJ;have HLK:Hid (lkp pin=akIn k nm ot j tj (lkp ps)):=h_ (by rw[hpin];rw[akIn_no (fun h=>by have:=HJ.out;omega) (fun h=>by have:=HJ.out;omega)]);have HNP:Hid (pin.length+2*ud ks[j]<=700000000000):=h_ (by rw[hpin];have:=ud_kid2 (ks:=ks) (j:=j) hi;have:=HNN.out;(try simp only[lsa,List.length_singleton]);omega);clear hpin;obtain⟨wa,hwa⟩:∃ z,z=w3:=⟨_,rfl⟩
    subst hwa
   rotate_left
   focus
    have qj1:(((j:Nat):Int)==1)=true:=by rw[beq_iff_eq];omega
    have qj2:(((j:Nat):Int)==2)=false:=by rw[beq_eq_false_iff_ne];omega
    have HJ:Hid (j=1):=h_ hj;clear hj;have ql:(((tj.length:Nat):Int)==1)=true:=by rw[HTL.out,HJ.out];rfl
    have hk:k≠26:=by have:=HKND.out;omega
    obtain⟨ta,tc,htv,htc⟩:=row_get HRW.out (by rw[HTL.out,HJ.out];decide);clear htc;subst htv;have q26:(((k:Nat):Int)==26)=false:=by rw[beq_eq_false_iff_ne];omega
    have HKN:=h_ hk;clear hk;obtain⟨c0,c1,c2,c3,c4,c5,c6,c7⟩:=cl8 HBe.out;go_upto_region 11 with fail
    clear qj1 qj2 ql q26;clear c0 c1 c2 c3 c4 c5 c6 c7;have HPI:Hid (PmsAt w3 (fun _=>True) vl ps):=HPV;obtain⟨pin,hpin⟩:∃ z,z=ps:=⟨_,rfl⟩
    have HPJ:Hid (PmsAt w3 (fun _=>True) vl pin):=h_ (by rw[hpin];exact HPI.out);clear HPI;have HPI:=HPJ;clear HPJ;have HLK:Hid (lkp pin=akIn k nm ot j tj (lkp ps)):=h_ (by rw[hpin];rw[akIn_no (fun h=>HKN.out h.2) (fun h=>by have:=HJ.out;omega)]);have HNP:Hid (pin.length+2*ud ks[j]<=700000000000):=h_ (by rw[hpin];have:=ud_kid2 (ks:=ks) (j:=j) hi;have:=HNN.out;(try simp only[lsa,List.length_singleton]);omega);clear hpin;obtain⟨wa,hwa⟩:∃ z,z=w3:=⟨_,rfl⟩
    subst hwa;clear HKN
   rotate_left
   all_goals (
    go_upto_region 11 with fail
    obtain⟨d0,d1,d2,d3,d4,d5,d6,d7⟩:=cl8 HBd.out;have hbw1:Below w0.heap.size w0 wa:=HB0.out.trans (HBW.out.mono HB0.out.size);have HB1:=h_ hbw1;clear hbw1;have hco:=HCO.out;rw[<-HLK.out] at hco;have HCO2:=h_ hco;clear hco;obtain⟨r,hr⟩:∃ q,q=aB F rf ks[j] (lkp pin):=⟨_,rfl⟩
    have HRR:=h_ hr;have hks:=HKB.out j hi y S (fun _=>True) wa _ pin HU.out (HKS.out j hi) HB1.out HPI.out HNP.out;rw[<-hr] at hks;simp only[xv] at hks;have HKC:=h_ hks;clear hks hr;have hco:=HCO2.out;rw[<-HRR.out] at hco;have HCO3:=h_ hco;clear hco HCO2;refine wp_region_lit ?_
    iterate 4 (refine wpList_plain rfl fun K0 hK0=>?_;go_simp;refine hK0 _ _ ?_;clear hK0)
    refine wpList_plain rfl fun K0 hK0=>?_
    go_simp
    refine HKC.out.mono ?_;rintro e w4 ⟨rfl,hb⟩;refine hK0 _ _ ?_;clear hK0 HKC;clear d0 d1 d2 d3 d4 d5 d6 d7;replace HBe:=kB hb HBe;replace HBz:=kB hb HBz;replace HBd:=kB hb HBd;replace HBW:=bw_ HBW hb;replace HRW:=h_ (HRW.out.below hb);replace HPV:=h_ (HPV.out.below hb);replace HPI:=h_ (HPI.out.below hb);clear hb;have HNZ:=h_ (anz_b F rf ks[j] (lkp pin))
    cases r with
    | error e =>
     have hz:e.1≠0:=HNZ.out e HRR.out.symm;obtain⟨e0,e1,e2⟩:=e;unfold fltV;simp only[arT,arF];have HZ:=h_ hz;clear hz
     iterate 3 (refine wpList_plain rfl fun K0 hK0=>?_;go_simp;refine hK0 _ _ ?_;clear hK0)
     skip
     have hqz:(((e0:Nat):Int) != 0)=true:=by rw[bne_iff_ne];have:=HZ.out;simp only at this;omega
     go_upto_region 12 with fail
     obtain⟨w5,kf,hw,hkk,hb,hs1,HBf⟩:=newb w4 #[.int .i64 (e0:Nat),.int .i64 (e1:Nat),.int .i64 (e2:Nat)] 36;have he_f:=lk_ hkk HBe;have hz_f:=lk_ hkk HBz;have hd_f:=lk_ hkk HBd;rw[hw,<-hkk];replace HBe:=kB hb HBe;replace HBz:=kB hb HBz;replace HBd:=kB hb HBd;replace HBW:=bw_ HBW hb;replace HRW:=h_ (HRW.out.below hb);replace HPV:=h_ (HPV.out.below hb);replace HPI:=h_ (HPI.out.below hb);clear hw hb hkk hs1;obtain⟨f0,f1,f2⟩:=cl3 HBf.out;go_upto_region 13 with fail
     clear f0 f1 f2;clear hqz;have hlt_f:=lt_of_block HBf.out;refine R7.r0 [[],[],[0,1]] 2 ?_;refine R7.cd ?_ (fun T xs wr hA=>?_) ?_
     rotate_left
     ·have e16:=hA.pq 16;simp only[gsa,gsc,gsz] at e16;have hBq:wr.heap[kf]?=_:=(hA.bl _ hlt_f (fun q h=>absurd h (Nat.not_lt_zero _))).trans HBf.out;obtain⟨q0,q1,q2⟩:=cl3 hBq;clear hBq;clear hA;go_simp<;>(try with_reducible rfl)
     refine R7.cd ?_ (fun T xs wr hA=>?_) ?_
     rotate_left
     ·clear hA;go_simp<;>(try with_reducible rfl)
     refine R7.Chain.done (fun xs w6 hL=>?_);obtain⟨⟨hbe,hbl⟩,hf,-,-⟩:=hL;have f0:xs 0=_:=hf 0 (by decide);have f1:xs 1=_:=hf 1 (by decide)
     (try simp (disch:=decide) only [R7.mi] at f0 f1)
     have hb:Below w5.heap.size w5 w6:=R7.b0_ hbe;clear hbe hbl hf;refine R7.rest_list (by decide) (by kernel_rfl) ?_;simp only[R7.fill,t1_,t2_,t3_,t4_,t5_,t6_,t7_,f0,f1];clear hlt_f f0 f1;replace HBe:=kB hb HBe;replace HBz:=kB hb HBz;replace HBd:=kB hb HBd;replace HBf:=kB hb HBf;replace HBW:=bw_ HBW hb;replace HRW:=h_ (HRW.out.below hb);replace HPV:=h_ (HPV.out.below hb);replace HPI:=h_ (HPI.out.below hb);clear hb;obtain⟨y0,y1,y2⟩:=cl3 HBz.out;obtain⟨fy0,fy1,fy2⟩:=fr3 HBz.out;go_wp2_with fail
     clear y0 fy0 y1 fy1 y2 fy2;exact ask_end (tv:=.int .i64 0) rfl HBz HBW hkz (by rw[HR.out,ak_err HAR.out.1 HAR.out.2 HCO3.out.symm];rfl)
    | ok b =>
     simp only[arT,arF,fltV,f0]
     iterate 3 (refine wpList_plain rfl fun K0 hK0=>?_;go_simp;refine hK0 _ _ ?_;clear hK0)
     go_upto_region 12 with fail
     obtain⟨w5,kf,hw,hkk,hb,hs1,HBf⟩:=newb w4 #[.int .i64 0,.int .i64 0,.int .i64 0] 36;have he_f:=lk_ hkk HBe;have hz_f:=lk_ hkk HBz;have hd_f:=lk_ hkk HBd;rw[hw,<-hkk];replace HBe:=kB hb HBe;replace HBz:=kB hb HBz;replace HBd:=kB hb HBd;replace HBW:=bw_ HBW hb;replace HRW:=h_ (HRW.out.below hb);replace HPV:=h_ (HPV.out.below hb);replace HPI:=h_ (HPI.out.below hb);clear hw hb hkk hs1;obtain⟨f0,f1,f2⟩:=cl3 HBf.out;go_upto_region 14 with fail
     clear f0 f1 f2;obtain⟨w6,kn,hw,hkk,hb,hs1,HBn⟩:=newb w5 #[.int .i64 (b:Nat)] 3;have hkk2:=hkk.symm;have HBB:=h_ hb;clear hb hs1 hkk;have hrl:tj.length<=1000000:=by rw[HTL.out];have:=HKM.out;omega
     have hrw6:=HRW.out.below HBB.out;have HR6:=h_ hrw6;have HRL:=h_ hrl;have HB6:Hid (kz+1<=w6.heap.size):=h_ (by have:=HBB.out.size;have:=lt_of_block HBz.out;omega);clear hrl hrw6;go_upto_region 15 with (first | (at_builtin;refine El.Row.append (E:=inE) HR6.out rfl (.tmp 78) (.tmp 80) 91 rfl Tryz.underlying91 infoIntN rfl (by decide) rfl b kn 3 rfl HBn.out trivial HRL.out HB6.out ?_;intro v2 w7 hrow hgw;have HRO:=h_ hrow;have HGW:=h_ hgw;clear hrow hgw) | fail)
     clear hw hkk2;replace HBe:=kB HBB.out HBe;replace HBz:=kB HBB.out HBz;replace HBd:=kB HBB.out HBd;replace HBf:=kB HBB.out HBf;replace HBW:=h_ (HBW.out.trans (HBB.out.mono HBW.out.size));replace HRW:=h_ (HRW.out.below HBB.out);replace HPV:=h_ (HPV.out.below HBB.out);replace HPI:=h_ (HPI.out.below HBB.out);replace HBe:=HR6.out.kR HGW.out (by omega) HBe;replace HBz:=HR6.out.kR HGW.out (by omega) HBz;replace HBW:=h_ (⟨HGW.out.os.trans HBW.out.os,HGW.out.tape.trans HBW.out.tape,HGW.out.output.trans HBW.out.output,Nat.le_trans HBW.out.size HGW.out.size,fun g hg=>(HGW.out.block g (by have:=HBW.out.size;omega) (fun e=>by have:=(HR6.out.ge e.symm).1;omega)).trans (HBW.out.block g hg)⟩:Below w.heap.size w w7);have HTL3:Hid ((tj++[b]).length=j+1):=h_ (by rw[lsa,HTL.out];rfl);clear HPV HR6 HB6 HRL HBB HBn HRW
     by_cases hj0:j=0
     ·try (exfalso;have:=HJ.out;omega)
      all_goals (
       replace HJ:Hid (j=0):=h_ hj0;clear hj0;have qg:(decide ((0:Int)<((j:Nat):Int)))=false:=by rw[decide_eq_false_iff_not];have:=HJ.out;omega
       have qgn:(decide (0<j))=false:=by rw[decide_eq_false_iff_not];have:=HJ.out;omega
       by_cases hk26:k<26
       ·have qk:(decide (((k:Nat):Int)<26))=true:=by rw[decide_eq_true_eq];omega
        have HK26:=h_ hk26;clear hk26;obtain⟨c0,c1,c2,c3,c4,c5,c6,c7⟩:=cl8 HBe.out;go_upto_region 23 with fail
        clear qg qgn qk;clear c0 c1 c2 c3 c4 c5 c6 c7;have HAK2:Hid (akRun F rf k nm ot ln cl (lkp ps) (j+1) (ks.drop (j+1)) (tj++[b])=akRun F rf k nm ot ln cl (lkp ps) 0 ks []):=h_ (by have h:=HCO3.out;(try simp only at h);rw[if_pos (.inr HK26.out)] at h;exact h);go_wp2_with fail
        go_roundw
        case rel=>exact⟨j+1,tj++[b],by go_num,hi,HTL3,HRO,HBe,HBz,HBW,HAK2⟩
        case measure=>simp[intOf];omega
       exfalso;have h1:=HKND.out;have h2:=HLEN.out;have h3:=HAR.out.1;(try have h4:=HJ.out);omega
      )
     replace HJ:Hid (0<j):=h_ (by omega);clear hj0;have qg:(decide ((0:Int)<((j:Nat):Int)))=true:=by rw[decide_eq_true_eq];have:=HJ.out;omega
     have qgn:(decide (0<j))=true:=by rw[decide_eq_true_eq];have:=HJ.out;omega
     go_upto_region 23 with fail
     clear qg qgn;have HAK2:Hid (akRun F rf k nm ot ln cl (lkp ps) (j+1) (ks.drop (j+1)) (tj++[b])=akRun F rf k nm ot ln cl (lkp ps) 0 ks []):=h_ (by have h:=HCO3.out;(try simp only at h);rw[if_pos (.inl HJ.out)] at h;exact h);go_wp2_with fail
     go_roundw
     case rel=>exact⟨j+1,tj++[b],by go_num,hi,HTL3,HRO,HBe,HBz,HBW,HAK2⟩
     case measure=>simp[intOf];omega
   )
  have hje:j=ks.length:=by omega
  subst hje;clear hj hi;have HFI:Hid (R=akFin F rf k nm ln cl (posU (ks.getD 1 u0)) tj (lkp ps)):=h_ (by rw[HR.out];exact ak_fin HAR.out.1 HAR.out.2 (by have h:=HAK.out;rw[List.drop_length,akRun] at h;exact h.symm));clear HAK HR
  by_cases hk:k=3
  ·have r25:(((k:Nat):Int)==25)=false:=by rw[beq_eq_false_iff_ne];omega
   have r26:(((k:Nat):Int)==26)=false:=by rw[beq_eq_false_iff_ne];omega
   have r27:(((k:Nat):Int)==27)=false:=by rw[beq_eq_false_iff_ne];omega
   have r28:(((k:Nat):Int)==28)=false:=by rw[beq_eq_false_iff_ne];omega
   have r3:(((k:Nat):Int)==3)=true:=by rw[beq_iff_eq];omega
   have HKK:=h_ hk;clear hk;obtain⟨c0,c1,c2,c3,c4,c5,c6,c7⟩:=cl8 HBe.out;go_upto_region 36 with fail
   clear r25 r26 r27 r28 r3;clear c0 c1 c2 c3 c4 c5 c6 c7;have HPW:Hid (PmsAt wl (fun _=>True) vl ps):=h_ ((HPS.out.below HBW.out).mono (fun _ _=>trivial));obtain⟨c0,c1,c2,c3,c4,c5,c6,c7⟩:=cl8 HBe.out;go_wp2_with fail
   refine (has_l wl (fun _=>True) vl ps nm HPW.out).mono ?_;rintro e w3 ⟨rfl,hb⟩;clear c0 c1 c2 c3 c4 c5 c6 c7;replace HBe:=kB hb HBe;replace HBz:=kB hb HBz;replace HBW:=bw_ HBW hb;replace HRW:=h_ (HRW.out.below hb);replace HPW:=h_ (HPW.out.below hb);clear hb;obtain⟨o,ho⟩:∃ o,o=lkp ps nm:=⟨_,rfl⟩
   rw[<-ho];have HO:=h_ ho;clear ho;have hfin:R=aVar nm ln cl (lkp ps):=by rw[HFI.out,HKK.out,fin_rest _ _ _ _ _ _ _ _ _ (by decide)];rfl
   unfold aVar at hfin;rw[<-HO.out] at hfin;have HFV:=h_ hfin;clear hfin
   cases o with
   | none =>
    unfold hasI;go_wp2_with fail
    refine (here_l w3 ke _ _ _ _ _ _ _ _ _ _ ln cl 3 HBe.out).mono ?_;rintro e w4 ⟨rfl,hb⟩;replace HBe:=kB hb HBe;replace HBz:=kB hb HBz;replace HBW:=bw_ HBW hb;replace HRW:=h_ (HRW.out.below hb);replace HPW:=h_ (HPW.out.below hb);clear hb;unfold fltV;obtain⟨y0,y1,y2⟩:=cl3 HBz.out;obtain⟨fy0,fy1,fy2⟩:=fr3 HBz.out;go_wp2_with fail
    clear y0 fy0 y1 fy1 y2 fy2;exact ask_end (tv:=.int .i64 0) rfl HBz HBW hkz (by rw[HFV.out];rfl)
   | some b =>
    unfold hasI;have qn:(decide (((b:Nat):Int)<0))=false:=by rw[decide_eq_false_iff_not];omega
    obtain⟨c0,c1,c2,c3,c4,c5,c6,c7⟩:=cl8 HBe.out;go_upto_region 38 with fail
    clear qn;clear c0 c1 c2 c3 c4 c5 c6 c7;obtain⟨c0,c1,c2,c3,c4,c5,c6,c7⟩:=cl8 HBe.out;go_wp2_with fail
    refine (has_l w3 (fun _=>True) vl ps nm HPW.out).mono ?_;rintro e w4 ⟨rfl,hb⟩;clear c0 c1 c2 c3 c4 c5 c6 c7;replace HBe:=kB hb HBe;replace HBz:=kB hb HBz;replace HBW:=bw_ HBW hb;replace HRW:=h_ (HRW.out.below hb);replace HPW:=h_ (HPW.out.below hb);clear hb;rw[<-HO.out];unfold hasI;obtain⟨y0,y1,y2⟩:=cl3 HBz.out;obtain⟨fy0,fy1,fy2⟩:=fr3 HBz.out;go_wp2_with fail
    clear y0 fy0 y1 fy1 y2 fy2;exact ask_end (tv:=.int .i64 (b:Nat)) rfl HBz HBW hkz (by rw[HFV.out];rfl)
  by_cases hk:k=15
  ·have HTE:Hid (tj.length=2):=h_ (by rw[HTL.out];rcases HAR.out.2 with h | h<;>first | omega | (rw[h,hk];rfl));obtain⟨t0,t1,ht⟩:∃ t0 t1,tj=[t0,t1]:=by have h:=HTE.out;match tj,h with | [t0,t1],_=>exact⟨t0,t1,rfl⟩
   subst ht;obtain⟨ta,tc,htv,htc⟩:=row_get HRW.out (by simp);subst htv;simp only[lsc,lsn,Nat.zero_add,Nat.reduceAdd] at htc HRW;have HTC:=h_ htc;clear htc;simp only[lsc,lsn,Nat.zero_add,Nat.reduceAdd];have r25:(((k:Nat):Int)==25)=false:=by rw[beq_eq_false_iff_ne];omega
   have r26:(((k:Nat):Int)==26)=false:=by rw[beq_eq_false_iff_ne];omega
   have r27:(((k:Nat):Int)==27)=false:=by rw[beq_eq_false_iff_ne];omega
   have r28:(((k:Nat):Int)==28)=false:=by rw[beq_eq_false_iff_ne];omega
   have r3:(((k:Nat):Int)==3)=false:=by rw[beq_eq_false_iff_ne];omega
   have r15:(((k:Nat):Int)==15)=true:=by rw[beq_iff_eq];omega
   have HKK:=h_ hk;clear hk;obtain⟨c0,c1,c2,c3,c4,c5,c6,c7⟩:=cl8 HBe.out;go_upto_region 41 with fail
   clear c0 c1 c2 c3 c4 c5 c6 c7;clear r25 r26 r27 r28 r3 r15;have hfin:R=aEq ln cl [t0,t1]:=by rw[HFI.out,HKK.out,fin_rest _ _ _ _ _ _ _ _ _ (by decide)];rfl
   unfold aEq at hfin;have HFV:=h_ hfin;clear hfin
   by_cases h01:t0=t1
   ·have qt:(((t0:Nat):Int) != ((t1:Nat):Int))=false:=by rw[bne_eq_false_iff_eq];omega
    have H01:=h_ h01;clear h01;have x0:wl.cell? ta=some (.int .i64 (t0:Nat)):=(by have h:=HTC.out 0 (by simp);rw[addr_add0] at h;exact h)
    have x1:wl.cell? ⟨ta.block,ta.off+1,none⟩=some (.int .i64 (t1:Nat)):=HTC.out 1 (by simp)
    go_quiet (fail)
    obtain⟨w3,hwq⟩:∃ q,q=wl.drewN nq:=⟨_,rfl⟩
    have hb:Below wl.heap.size wl w3:=by rw[hwq];exact below_drewN' _ _ _
    rw[<-hwq];clear hwq;clear x0 x1;replace HBe:=kB hb HBe;replace HBz:=kB hb HBz;replace HBW:=bw_ HBW hb;replace HRW:=h_ (HRW.out.below hb);clear hb;go_upto_region 43 with fail
    clear qt;obtain⟨y0,y1,y2⟩:=cl3 HBz.out;obtain⟨fy0,fy1,fy2⟩:=fr3 HBz.out;go_wp2_with fail
    clear y0 fy0 y1 fy1 y2 fy2;exact ask_end (tv:=.int .i64 1) rfl HBz HBW hkz (by rw[HFV.out,if_neg (fun h=>h H01.out)];rfl)
   have qt:(((t0:Nat):Int) != ((t1:Nat):Int))=true:=by rw[bne_iff_ne];omega
   have H01:=h_ h01;clear h01;have x0:wl.cell? ta=some (.int .i64 (t0:Nat)):=(by have h:=HTC.out 0 (by simp);rw[addr_add0] at h;exact h)
   have x1:wl.cell? ⟨ta.block,ta.off+1,none⟩=some (.int .i64 (t1:Nat)):=HTC.out 1 (by simp)
   go_quiet (fail)
   obtain⟨w3,hwq⟩:∃ q,q=wl.drewN nq:=⟨_,rfl⟩
   have hb:Below wl.heap.size wl w3:=by rw[hwq];exact below_drewN' _ _ _
   rw[<-hwq];clear hwq;clear x0 x1;replace HBe:=kB hb HBe;replace HBz:=kB hb HBz;replace HBW:=bw_ HBW hb;replace HRW:=h_ (HRW.out.below hb);clear hb;go_upto_region 42 with fail
   clear qt;go_wp2_with fail
   refine (here_l w3 ke _ _ _ _ _ _ _ _ _ _ ln cl 4 HBe.out).mono ?_;rintro e w4 ⟨rfl,hb⟩;replace HBe:=kB hb HBe;replace HBz:=kB hb HBz;replace HBW:=bw_ HBW hb;replace HRW:=h_ (HRW.out.below hb);clear hb;unfold fltV;obtain⟨y0,y1,y2⟩:=cl3 HBz.out;obtain⟨fy0,fy1,fy2⟩:=fr3 HBz.out;go_wp2_with fail
   clear y0 fy0 y1 fy1 y2 fy2;exact ask_end (tv:=.int .i64 0) rfl HBz HBW hkz (by rw[HFV.out,if_pos (show [t0,t1].getD 0 0 ≠ [t0,t1].getD 1 0 from H01.out)];rfl)
  by_cases hk:k=16
  ·have HTE:Hid (tj.length=2):=h_ (by rw[HTL.out];rcases HAR.out.2 with h | h<;>first | omega | (rw[h,hk];rfl));obtain⟨t0,t1,ht⟩:∃ t0 t1,tj=[t0,t1]:=by have h:=HTE.out;match tj,h with | [t0,t1],_=>exact⟨t0,t1,rfl⟩
   subst ht;obtain⟨ta,tc,htv,htc⟩:=row_get HRW.out (by simp);subst htv;simp only[lsc,lsn,Nat.zero_add,Nat.reduceAdd] at htc HRW;have HTC:=h_ htc;clear htc;simp only[lsc,lsn,Nat.zero_add,Nat.reduceAdd];have r25:(((k:Nat):Int)==25)=false:=by rw[beq_eq_false_iff_ne];omega
   have r26:(((k:Nat):Int)==26)=false:=by rw[beq_eq_false_iff_ne];omega
   have r27:(((k:Nat):Int)==27)=false:=by rw[beq_eq_false_iff_ne];omega
   have r28:(((k:Nat):Int)==28)=false:=by rw[beq_eq_false_iff_ne];omega
   have r3:(((k:Nat):Int)==3)=false:=by rw[beq_eq_false_iff_ne];omega
   have r15:(((k:Nat):Int)==15)=false:=by rw[beq_eq_false_iff_ne];omega
   have r16:(((k:Nat):Int)==16)=true:=by rw[beq_iff_eq];omega
   have HKK:=h_ hk;clear hk;obtain⟨c0,c1,c2,c3,c4,c5,c6,c7⟩:=cl8 HBe.out;go_upto_region 41 with fail
   clear c0 c1 c2 c3 c4 c5 c6 c7;clear r25 r26 r27 r28 r3 r15 r16;have hfin:R=aEq ln cl [t0,t1]:=by rw[HFI.out,HKK.out,fin_rest _ _ _ _ _ _ _ _ _ (by decide)];rfl
   unfold aEq at hfin;have HFV:=h_ hfin;clear hfin
   by_cases h01:t0=t1
   ·have qt:(((t0:Nat):Int) != ((t1:Nat):Int))=false:=by rw[bne_eq_false_iff_eq];omega
    have H01:=h_ h01;clear h01;have x0:wl.cell? ta=some (.int .i64 (t0:Nat)):=(by have h:=HTC.out 0 (by simp);rw[addr_add0] at h;exact h)
    have x1:wl.cell? ⟨ta.block,ta.off+1,none⟩=some (.int .i64 (t1:Nat)):=HTC.out 1 (by simp)
    go_quiet (fail)
    obtain⟨w3,hwq⟩:∃ q,q=wl.drewN nq:=⟨_,rfl⟩
    have hb:Below wl.heap.size wl w3:=by rw[hwq];exact below_drewN' _ _ _
    rw[<-hwq];clear hwq;clear x0 x1;replace HBe:=kB hb HBe;replace HBz:=kB hb HBz;replace HBW:=bw_ HBW hb;replace HRW:=h_ (HRW.out.below hb);clear hb;go_upto_region 43 with fail
    clear qt;obtain⟨y0,y1,y2⟩:=cl3 HBz.out;obtain⟨fy0,fy1,fy2⟩:=fr3 HBz.out;go_wp2_with fail
    clear y0 fy0 y1 fy1 y2 fy2;exact ask_end (tv:=.int .i64 1) rfl HBz HBW hkz (by rw[HFV.out,if_neg (fun h=>h H01.out)];rfl)
   have qt:(((t0:Nat):Int) != ((t1:Nat):Int))=true:=by rw[bne_iff_ne];omega
   have H01:=h_ h01;clear h01;have x0:wl.cell? ta=some (.int .i64 (t0:Nat)):=(by have h:=HTC.out 0 (by simp);rw[addr_add0] at h;exact h)
   have x1:wl.cell? ⟨ta.block,ta.off+1,none⟩=some (.int .i64 (t1:Nat)):=HTC.out 1 (by simp)
   go_quiet (fail)
   obtain⟨w3,hwq⟩:∃ q,q=wl.drewN nq:=⟨_,rfl⟩
   have hb:Below wl.heap.size wl w3:=by rw[hwq];exact below_drewN' _ _ _
   rw[<-hwq];clear hwq;clear x0 x1;replace HBe:=kB hb HBe;replace HBz:=kB hb HBz;replace HBW:=bw_ HBW hb;replace HRW:=h_ (HRW.out.below hb);clear hb;go_upto_region 42 with fail
   clear qt;go_wp2_with fail
   refine (here_l w3 ke _ _ _ _ _ _ _ _ _ _ ln cl 4 HBe.out).mono ?_;rintro e w4 ⟨rfl,hb⟩;replace HBe:=kB hb HBe;replace HBz:=kB hb HBz;replace HBW:=bw_ HBW hb;replace HRW:=h_ (HRW.out.below hb);clear hb;unfold fltV;obtain⟨y0,y1,y2⟩:=cl3 HBz.out;obtain⟨fy0,fy1,fy2⟩:=fr3 HBz.out;go_wp2_with fail
   clear y0 fy0 y1 fy1 y2 fy2;exact ask_end (tv:=.int .i64 0) rfl HBz HBW hkz (by rw[HFV.out,if_pos (show [t0,t1].getD 0 0 ≠ [t0,t1].getD 1 0 from H01.out)];rfl)
  exfalso;have h1:=HKND.out;have h2:=HLEN.out;have h3:=HAR.out.1;(try have h4:=HJ.out);omega
theorem ask_G (F:Fs) (rf:Bool) (w0:World) (vf:Value) (hF:rf=true\/∃ SF fs,fnE.At w0 SF vf fs/\F=fndF (fs.map Fd.q)) (x:X) (u:U) (S S2:Nat->Prop) (w:World) (vl:Value) (ps:List PmU) (hu:Um w0 S x u) (hb:Bnd u) (hkm:u.ks.length<=1000000) (hK:∀ j (h:j<u.ks.length),AskOk F rf w0 vf u.ks[j]) (hbw:Below w0.heap.size w0 w) (hp:PmsAt w S2 vl ps) (hn:ps.length+2*ud u<=700000000000) (hkd:u.k=24) :
  Calls Tryz.prog 13 #[xv x,vl,vf,.bool rf] w fun e w'=>e=.returned (.tuple #[.int .i64 (arT (aB F rf u (lkp ps)):Nat),fltV (arF (aB F rf u (lkp ps)))])/\Below w.heap.size w w':=by
 obtain⟨k,nm,ot,z,ln,cl,ks⟩:=u;have HBN:=h_ hb;have HKND:Hid (k=24):=h_ hkd;rw[Um] at hu;obtain⟨⟨e1,e2,e3,e4,e5,e6⟩,⟨h2,h3⟩,⟨h4,h5,h6⟩,h7⟩:=hu;obtain⟨xk,xnm,xot,xb,xao,xn,xq,xko,xkn,xkc,xln,xcl⟩:=x;simp only at e1 e2 e3 e4 e5 e6 h2 h3 h4 h5 h6 h7;have HK:=h_ (fun j (hj:j<ks.length)=>ums_get 0 j h7 hj);have HSL:=h_ h2;rw[Bnd] at hb;have HNM:Hid (nm.length<=3000):=h_ hb.2.1.1;have HAR:=h_ hb.1;have HZB:=h_ hb.2.1.2.2;have HKS:=h_ (fun j (hj:j<ks.length)=>bnds_mem hb.2.2.2 (List.getElem_mem hj));have HKB:Hid (∀ j (h:j<ks.length),AskOk F rf w0 vf ks[j]):=h_ hK;rw[ud] at hn;have HNN:=h_ hn;have HKM:Hid (ks.length<=1000000):=h_ hkm;have HB0:=h_ hbw;have HPS:=h_ hp;have HFN:=h_ hF;have hkl:ks.length<=9223372036854775807:=by rw[<-h4];exact Nat.le_trans h5.1 h5.2
 have HLEN:Hid (True):=h_ (by have h:=HAR.out.2;have hk:=HKND.out;trivial);clear h7 hb h2 h3 h5 h6 hK hn hkm hbw hp hF hkd;subst e1 e2 e3 e4 e5 e6;subst h4;simp only[xv];have hmf:∀ (fn:Fn) (first cap:Array Value) (w:World),(Instr.makeFunc fn first cap).run Tryz.prog w=.ok (.func fn first cap) w:=fun _ _ _ _=>rfl
 obtain⟨R,hR⟩:∃ q,q=aB F rf (.node k nm ot z ln cl ks) (lkp ps):=⟨_,rfl⟩
 rw[<-hR];have HR:=h_ hR;clear hR;have HBW:=h_ (Below.refl w.heap.size w);go_enter Tryz.func13,Tryz.ntmps13
 go_upto_region 1 with fail
 obtain⟨w1,ke,hw,hkk,hb,hs1,HBe⟩:=newb w #[.int .i64 (k:Nat),.string ⟨nm.toArray⟩,.string ⟨ot.toArray⟩,.bool false,.slice xao xn xq,.slice xko ks.length xkc,.int .i64 (ln:Nat),.int .i64 (cl:Nat)] 48;rw[hw,<-hkk,<-hs1];replace HBW:=bw_ HBW hb;have hke:w.heap.size<=ke:=by rw[hkk];exact Nat.le_refl _
 clear hw hb hkk hs1;obtain⟨w2,kz,hw,hkk,hb,hs1,HBz⟩:=newb w1 #[.int .i64 0,.int .i64 0,.int .i64 0] 36;have he_z:=lk_ hkk HBe;rw[hw,<-hkk];replace HBe:=kB hb HBe;replace HBW:=bw_ HBW hb;have hkz:w.heap.size<=kz:=by rw[hkk];have:=HBW.out.size;omega
 clear hw hb hkk hs1;obtain⟨c0,c1,c2,c3,c4,c5,c6,c7⟩:=cl8 HBe.out;go_wp2_with fail
 clear hmf;clear c0 c1 c2 c3 c4 c5 c6 c7;have HRW:Hid (inE.Row w2 (kz+1) (fun _=>False) (.slice none 0 0) []):=h_ (El.Row.nil _ _ _);have HA0:Hid (akRun F rf k nm ot ln cl (lkp ps) 0 (ks.drop 0) []=akRun F rf k nm ot ln cl (lkp ps) 0 ks []):=h_ rfl
 go_loopw [27,11] (fun i tv wr=>∃ (j:Nat) (tj:List Nat),i=.int .i64 (j:Nat)/\j<=ks.length/\Hid (tj.length=j)/\Hid (inE.Row wr (kz+1) (fun _=>False) tv tj)/\Hid (wr.heap[ke]?=some (.cells #[.int .i64 (k:Nat),.string ⟨nm.toArray⟩,.string ⟨ot.toArray⟩,.bool false,.slice xao xn xq,.slice xko ks.length xkc,.int .i64 (ln:Nat),.int .i64 (cl:Nat)] 48 (0,0)))/\Hid (wr.heap[kz]?=some (.cells #[.int .i64 0,.int .i64 0,.int .i64 0] 36 (0,0)))/\Hid (Below w.heap.size w wr)/\Hid (akRun F rf k nm ot ln cl (lkp ps) j (ks.drop j) tj=akRun F rf k nm ot ln cl (lkp ps) 0 ks [])) (fun i _ _=>ks.length - (intOf i).toNat)
 case atStart=>exact⟨0,[],rfl,Nat.zero_le _,h_ rfl,HRW,HBe,HBz,HBW,HA0⟩
 case round =>
  obtain⟨wl,hwl⟩:∃ q,q=wr:=⟨_,rfl⟩
  subst hwl;clear HRW HBe HBz HBW HA0;obtain⟨j,tj,rfl,hj,HTL,HRW,HBe,HBz,HBW,HAK⟩:=hrel;have hez:ke<wl.heap.size:=lt_of_block HBe.out;have hzl:kz<wl.heap.size:=lt_of_block HBz.out
  by_cases hi:j<ks.length
  ·have hcons:=akRun_cons F rf k nm ot ln cl (lkp ps) ks j hi tj;rw[HAK.out] at hcons;have HCO:Hid (_=_):=h_ hcons.symm;clear hcons;obtain⟨y,⟨a,rfl,hy⟩,hU⟩:=HK.out j hi;have hbw0:Below w0.heap.size w0 wl:=HB0.out.trans (HBW.out.mono HB0.out.size);obtain⟨z0,z1,z2,z3,z4,z5,z6,z7⟩:=cells8 (w:=wl) (p:=a.add (j*8)) (y:=y) (fun q v hv=>by have:=hy q v hv;rw[Nat.zero_add] at this;rw[hbw0.cell (cell_lt this)];exact this);have HU:=h_ hU;clear hy hU hbw0;obtain⟨c0,c1,c2,c3,c4,c5,c6,c7⟩:=cl8 HBe.out;go_upto_region 7 with fail
   clear c0 c1 c2 c3 c4 c5 c6 c7 z0 z1 z2 z3 z4 z5 z6 z7;obtain⟨w3,kd,hw,hkk,hb,hs1,HBd⟩:=newb wl #[.int .i64 y.k,.string y.nm,.string y.ot,.bool y.b,.slice y.ao y.n y.c,.slice y.ko y.kn y.kc,.int .i64 y.ln,.int .i64 y.cl] 48;have he_d:=lk_ hkk HBe;have hz_d:=lk_ hkk HBz;rw[hw,<-hkk];replace HBe:=kB hb HBe;replace HBz:=kB hb HBz;replace HBW:=bw_ HBW hb;replace HRW:=h_ (HRW.out.below hb);clear hw hb hkk hs1;have HPV:Hid (PmsAt w3 (fun _=>True) vl ps):=h_ ((HPS.out.below (HBW.out)).mono (fun _ _=>trivial));have hor:j=0\/j=1\/j=2\/3<=j:=by have h1:=HKND.out;have h2:=HLEN.out;have h3:=HAR.out.1;omega
   rcases hor with hj | hj | hj | hj
   focus
    have qj1:(((j:Nat):Int)==1)=false:=by rw[beq_eq_false_iff_ne];omega
    have qj2:(((j:Nat):Int)==2)=false:=by rw[beq_eq_false_iff_ne];omega
    have HJ:Hid (j=0):=h_ hj;clear hj;obtain⟨c0,c1,c2,c3,c4,c5,c6,c7⟩:=cl8 HBe.out;go_upto_region 11 with fail
    clear qj1 qj2 ;clear c0 c1 c2 c3 c4 c5 c6 c7;have HPI:Hid (PmsAt w3 (fun _=>True) vl ps):=HPV;obtain⟨pin,hpin⟩:∃ z,z=ps:=⟨_,rfl⟩
    have HPJ:Hid (PmsAt w3 (fun _=>True) vl pin):=h_ (by rw[hpin];exact HPI.out);clear HPI;have HPI:=HPJ;clear HPJ;have HLK:Hid (lkp pin=akIn k nm ot j tj (lkp ps)):=h_ (by rw[hpin];rw[akIn_no (fun h=>by have:=HJ.out;omega) (fun h=>by have:=HJ.out;omega)]);have HNP:Hid (pin.length+2*ud ks[j]<=700000000000):=h_ (by rw[hpin];have:=ud_kid2 (ks:=ks) (j:=j) hi;have:=HNN.out;(try simp only[lsa,List.length_singleton]);omega);clear hpin;obtain⟨wa,hwa⟩:∃ z,z=w3:=⟨_,rfl⟩
    subst hwa
   rotate_left
   focus
    have qj1:(((j:Nat):Int)==1)=true:=by rw[beq_iff_eq];omega
    have qj2:(((j:Nat):Int)==2)=false:=by rw[beq_eq_false_iff_ne];omega
    have HJ:Hid (j=1):=h_ hj;clear hj;have ql:(((tj.length:Nat):Int)==1)=true:=by rw[HTL.out,HJ.out];rfl
    have hk:k≠26:=by have:=HKND.out;omega
    obtain⟨ta,tc,htv,htc⟩:=row_get HRW.out (by rw[HTL.out,HJ.out];decide);clear htc;subst htv;have q26:(((k:Nat):Int)==26)=false:=by rw[beq_eq_false_iff_ne];omega
    have HKN:=h_ hk;clear hk;obtain⟨c0,c1,c2,c3,c4,c5,c6,c7⟩:=cl8 HBe.out;go_upto_region 11 with fail
    clear qj1 qj2 ql q26;clear c0 c1 c2 c3 c4 c5 c6 c7;have HPI:Hid (PmsAt w3 (fun _=>True) vl ps):=HPV;obtain⟨pin,hpin⟩:∃ z,z=ps:=⟨_,rfl⟩
    have HPJ:Hid (PmsAt w3 (fun _=>True) vl pin):=h_ (by rw[hpin];exact HPI.out);clear HPI;have HPI:=HPJ;clear HPJ;have HLK:Hid (lkp pin=akIn k nm ot j tj (lkp ps)):=h_ (by rw[hpin];rw[akIn_no (fun h=>HKN.out h.2) (fun h=>by have:=HJ.out;omega)]);have HNP:Hid (pin.length+2*ud ks[j]<=700000000000):=h_ (by rw[hpin];have:=ud_kid2 (ks:=ks) (j:=j) hi;have:=HNN.out;(try simp only[lsa,List.length_singleton]);omega);clear hpin;obtain⟨wa,hwa⟩:∃ z,z=w3:=⟨_,rfl⟩
    subst hwa;clear HKN
   rotate_left
   focus
    have qj1:(((j:Nat):Int)==1)=false:=by rw[beq_eq_false_iff_ne];omega
    have qj2:(((j:Nat):Int)==2)=true:=by rw[beq_iff_eq];omega
    have HJ:Hid (j=2):=h_ hj;clear hj;have hk:k≠27:=by have:=HKND.out;omega
    have q27:(((k:Nat):Int)==27)=false:=by rw[beq_eq_false_iff_ne];omega
    have HKN:=h_ hk;clear hk;obtain⟨c0,c1,c2,c3,c4,c5,c6,c7⟩:=cl8 HBe.out;go_upto_region 11 with fail
    clear qj1 qj2 q27;clear c0 c1 c2 c3 c4 c5 c6 c7;have HPI:Hid (PmsAt w3 (fun _=>True) vl ps):=HPV;obtain⟨pin,hpin⟩:∃ z,z=ps:=⟨_,rfl⟩
    have HPJ:Hid (PmsAt w3 (fun _=>True) vl pin):=h_ (by rw[hpin];exact HPI.out);clear HPI;have HPI:=HPJ;clear HPJ;have HLK:Hid (lkp pin=akIn k nm ot j tj (lkp ps)):=h_ (by rw[hpin];rw[akIn_no (fun h=>by have:=HJ.out;omega) (fun h=>HKN.out h.2)]);have HNP:Hid (pin.length+2*ud ks[j]<=700000000000):=h_ (by rw[hpin];have:=ud_kid2 (ks:=ks) (j:=j) hi;have:=HNN.out;(try simp only[lsa,List.length_singleton]);omega);clear hpin;obtain⟨wa,hwa⟩:∃ z,z=w3:=⟨_,rfl⟩
    subst hwa;clear HKN
   rotate_left
   focus
    have qj1:(((j:Nat):Int)==1)=false:=by rw[beq_eq_false_iff_ne];omega
    have qj2:(((j:Nat):Int)==2)=false:=by rw[beq_eq_false_iff_ne];omega
    have HJ:Hid (3<=j):=h_ hj;clear hj;obtain⟨c0,c1,c2,c3,c4,c5,c6,c7⟩:=cl8 HBe.out;go_upto_region 11 with fail
    clear qj1 qj2 ;clear c0 c1 c2 c3 c4 c5 c6 c7;have HPI:Hid (PmsAt w3 (fun _=>True) vl ps):=HPV;obtain⟨pin,hpin⟩:∃ z,z=ps:=⟨_,rfl⟩
    have HPJ:Hid (PmsAt w3 (fun _=>True) vl pin):=h_ (by rw[hpin];exact HPI.out);clear HPI;have HPI:=HPJ;clear HPJ;have HLK:Hid (lkp pin=akIn k nm ot j tj (lkp ps)):=h_ (by rw[hpin];rw[akIn_no (fun h=>by have:=HJ.out;omega) (fun h=>by have:=HJ.out;omega)]);have HNP:Hid (pin.length+2*ud ks[j]<=700000000000):=h_ (by rw[hpin];have:=ud_kid2 (ks:=ks) (j:=j) hi;have:=HNN.out;(try simp only[lsa,List.length_singleton]);omega);clear hpin;obtain⟨wa,hwa⟩:∃ z,z=w3:=⟨_,rfl⟩
    subst hwa
   rotate_left
   all_goals (
    go_upto_region 11 with fail
    obtain⟨d0,d1,d2,d3,d4,d5,d6,d7⟩:=cl8 HBd.out;have hbw1:Below w0.heap.size w0 wa:=HB0.out.trans (HBW.out.mono HB0.out.size);have HB1:=h_ hbw1;clear hbw1;have hco:=HCO.out;rw[<-HLK.out] at hco;have HCO2:=h_ hco;clear hco;obtain⟨r,hr⟩:∃ q,q=aB F rf ks[j] (lkp pin):=⟨_,rfl⟩
    have HRR:=h_ hr;have hks:=HKB.out j hi y S (fun _=>True) wa _ pin HU.out (HKS.out j hi) HB1.out HPI.out HNP.out;rw[<-hr] at hks;simp only[xv] at hks;have HKC:=h_ hks;clear hks hr;have hco:=HCO2.out;rw[<-HRR.out] at hco;have HCO3:=h_ hco;clear hco HCO2;refine wp_region_lit ?_
    iterate 4 (refine wpList_plain rfl fun K0 hK0=>?_;go_simp;refine hK0 _ _ ?_;clear hK0)
    refine wpList_plain rfl fun K0 hK0=>?_
    go_simp
    refine HKC.out.mono ?_;rintro e w4 ⟨rfl,hb⟩;refine hK0 _ _ ?_;clear hK0 HKC;clear d0 d1 d2 d3 d4 d5 d6 d7;replace HBe:=kB hb HBe;replace HBz:=kB hb HBz;replace HBd:=kB hb HBd;replace HBW:=bw_ HBW hb;replace HRW:=h_ (HRW.out.below hb);replace HPV:=h_ (HPV.out.below hb);replace HPI:=h_ (HPI.out.below hb);clear hb;have HNZ:=h_ (anz_b F rf ks[j] (lkp pin))
    cases r with
    | error e =>
     have hz:e.1≠0:=HNZ.out e HRR.out.symm;obtain⟨e0,e1,e2⟩:=e;unfold fltV;simp only[arT,arF];have HZ:=h_ hz;clear hz
     iterate 3 (refine wpList_plain rfl fun K0 hK0=>?_;go_simp;refine hK0 _ _ ?_;clear hK0)
     skip
     have hqz:(((e0:Nat):Int) != 0)=true:=by rw[bne_iff_ne];have:=HZ.out;simp only at this;omega
     go_upto_region 12 with fail
     obtain⟨w5,kf,hw,hkk,hb,hs1,HBf⟩:=newb w4 #[.int .i64 (e0:Nat),.int .i64 (e1:Nat),.int .i64 (e2:Nat)] 36;have he_f:=lk_ hkk HBe;have hz_f:=lk_ hkk HBz;have hd_f:=lk_ hkk HBd;rw[hw,<-hkk];replace HBe:=kB hb HBe;replace HBz:=kB hb HBz;replace HBd:=kB hb HBd;replace HBW:=bw_ HBW hb;replace HRW:=h_ (HRW.out.below hb);replace HPV:=h_ (HPV.out.below hb);replace HPI:=h_ (HPI.out.below hb);clear hw hb hkk hs1;obtain⟨f0,f1,f2⟩:=cl3 HBf.out;go_upto_region 13 with fail
     clear f0 f1 f2;clear hqz;have hlt_f:=lt_of_block HBf.out;refine R7.r0 [[],[],[0,1]] 2 ?_;refine R7.cd ?_ (fun T xs wr hA=>?_) ?_
     rotate_left
     ·have e16:=hA.pq 16;simp only[gsa,gsc,gsz] at e16;have hBq:wr.heap[kf]?=_:=(hA.bl _ hlt_f (fun q h=>absurd h (Nat.not_lt_zero _))).trans HBf.out;obtain⟨q0,q1,q2⟩:=cl3 hBq;clear hBq;clear hA;go_simp<;>(try with_reducible rfl)
     refine R7.cd ?_ (fun T xs wr hA=>?_) ?_
     rotate_left
     ·clear hA;go_simp<;>(try with_reducible rfl)
     refine R7.Chain.done (fun xs w6 hL=>?_);obtain⟨⟨hbe,hbl⟩,hf,-,-⟩:=hL;have f0:xs 0=_:=hf 0 (by decide);have f1:xs 1=_:=hf 1 (by decide)
     (try simp (disch:=decide) only [R7.mi] at f0 f1)
     have hb:Below w5.heap.size w5 w6:=R7.b0_ hbe;clear hbe hbl hf;refine R7.rest_list (by decide) (by kernel_rfl) ?_;simp only[R7.fill,t1_,t2_,t3_,t4_,t5_,t6_,t7_,f0,f1];clear hlt_f f0 f1;replace HBe:=kB hb HBe;replace HBz:=kB hb HBz;replace HBd:=kB hb HBd;replace HBf:=kB hb HBf;replace HBW:=bw_ HBW hb;replace HRW:=h_ (HRW.out.below hb);replace HPV:=h_ (HPV.out.below hb);replace HPI:=h_ (HPI.out.below hb);clear hb;obtain⟨y0,y1,y2⟩:=cl3 HBz.out;obtain⟨fy0,fy1,fy2⟩:=fr3 HBz.out;go_wp2_with fail
     clear y0 fy0 y1 fy1 y2 fy2;exact ask_end (tv:=.int .i64 0) rfl HBz HBW hkz (by rw[HR.out,ak_err HAR.out.1 HAR.out.2 HCO3.out.symm];rfl)
    | ok b =>
     simp only[arT,arF,fltV,f0]
     iterate 3 (refine wpList_plain rfl fun K0 hK0=>?_;go_simp;refine hK0 _ _ ?_;clear hK0)
     go_upto_region 12 with fail
     obtain⟨w5,kf,hw,hkk,hb,hs1,HBf⟩:=newb w4 #[.int .i64 0,.int .i64 0,.int .i64 0] 36;have he_f:=lk_ hkk HBe;have hz_f:=lk_ hkk HBz;have hd_f:=lk_ hkk HBd;rw[hw,<-hkk];replace HBe:=kB hb HBe;replace HBz:=kB hb HBz;replace HBd:=kB hb HBd;replace HBW:=bw_ HBW hb;replace HRW:=h_ (HRW.out.below hb);replace HPV:=h_ (HPV.out.below hb);replace HPI:=h_ (HPI.out.below hb);clear hw hb hkk hs1;obtain⟨f0,f1,f2⟩:=cl3 HBf.out;go_upto_region 14 with fail
     clear f0 f1 f2;obtain⟨w6,kn,hw,hkk,hb,hs1,HBn⟩:=newb w5 #[.int .i64 (b:Nat)] 3;have hkk2:=hkk.symm;have HBB:=h_ hb;clear hb hs1 hkk;have hrl:tj.length<=1000000:=by rw[HTL.out];have:=HKM.out;omega
     have hrw6:=HRW.out.below HBB.out;have HR6:=h_ hrw6;have HRL:=h_ hrl;have HB6:Hid (kz+1<=w6.heap.size):=h_ (by have:=HBB.out.size;have:=lt_of_block HBz.out;omega);clear hrl hrw6;go_upto_region 15 with (first | (at_builtin;refine El.Row.append (E:=inE) HR6.out rfl (.tmp 78) (.tmp 80) 91 rfl Tryz.underlying91 infoIntN rfl (by decide) rfl b kn 3 rfl HBn.out trivial HRL.out HB6.out ?_;intro v2 w7 hrow hgw;have HRO:=h_ hrow;have HGW:=h_ hgw;clear hrow hgw) | fail)
     clear hw hkk2;replace HBe:=kB HBB.out HBe;replace HBz:=kB HBB.out HBz;replace HBd:=kB HBB.out HBd;replace HBf:=kB HBB.out HBf;replace HBW:=h_ (HBW.out.trans (HBB.out.mono HBW.out.size));replace HRW:=h_ (HRW.out.below HBB.out);replace HPV:=h_ (HPV.out.below HBB.out);replace HPI:=h_ (HPI.out.below HBB.out);replace HBe:=HR6.out.kR HGW.out (by omega) HBe;replace HBz:=HR6.out.kR HGW.out (by omega) HBz;replace HBW:=h_ (⟨HGW.out.os.trans HBW.out.os,HGW.out.tape.trans HBW.out.tape,HGW.out.output.trans HBW.out.output,Nat.le_trans HBW.out.size HGW.out.size,fun g hg=>(HGW.out.block g (by have:=HBW.out.size;omega) (fun e=>by have:=(HR6.out.ge e.symm).1;omega)).trans (HBW.out.block g hg)⟩:Below w.heap.size w w7);have HTL3:Hid ((tj++[b]).length=j+1):=h_ (by rw[lsa,HTL.out];rfl);clear HPV HR6 HB6 HRL HBB HBn HRW
     by_cases hj0:j=0
     ·try (exfalso;have:=HJ.out;omega)
      all_goals (
       replace HJ:Hid (j=0):=h_ hj0;clear hj0;have qg:(decide ((0:Int)<((j:Nat):Int)))=false:=by rw[decide_eq_false_iff_not];have:=HJ.out;omega
       have qgn:(decide (0<j))=false:=by rw[decide_eq_false_iff_not];have:=HJ.out;omega
       by_cases hk26:k<26
       ·have qk:(decide (((k:Nat):Int)<26))=true:=by rw[decide_eq_true_eq];omega
        have HK26:=h_ hk26;clear hk26;obtain⟨c0,c1,c2,c3,c4,c5,c6,c7⟩:=cl8 HBe.out;go_upto_region 23 with fail
        clear qg qgn qk;clear c0 c1 c2 c3 c4 c5 c6 c7;have HAK2:Hid (akRun F rf k nm ot ln cl (lkp ps) (j+1) (ks.drop (j+1)) (tj++[b])=akRun F rf k nm ot ln cl (lkp ps) 0 ks []):=h_ (by have h:=HCO3.out;(try simp only at h);rw[if_pos (.inr HK26.out)] at h;exact h);go_wp2_with fail
        go_roundw
        case rel=>exact⟨j+1,tj++[b],by go_num,hi,HTL3,HRO,HBe,HBz,HBW,HAK2⟩
        case measure=>simp[intOf];omega
       exfalso;have h1:=HKND.out;have h2:=HLEN.out;have h3:=HAR.out.1;(try have h4:=HJ.out);omega
      )
     replace HJ:Hid (0<j):=h_ (by omega);clear hj0;have qg:(decide ((0:Int)<((j:Nat):Int)))=true:=by rw[decide_eq_true_eq];have:=HJ.out;omega
     have qgn:(decide (0<j))=true:=by rw[decide_eq_true_eq];have:=HJ.out;omega
     go_upto_region 23 with fail
     clear qg qgn;have HAK2:Hid (akRun F rf k nm ot ln cl (lkp ps) (j+1) (ks.drop (j+1)) (tj++[b])=akRun F rf k nm ot ln cl (lkp ps) 0 ks []):=h_ (by have h:=HCO3.out;(try simp only at h);rw[if_pos (.inl HJ.out)] at h;exact h);go_wp2_with fail
     go_roundw
     case rel=>exact⟨j+1,tj++[b],by go_num,hi,HTL3,HRO,HBe,HBz,HBW,HAK2⟩
     case measure=>simp[intOf];omega
   )
  have hje:j=ks.length:=by omega
  subst hje;clear hj hi;have HFI:Hid (R=akFin F rf k nm ln cl (posU (ks.getD 1 u0)) tj (lkp ps)):=h_ (by rw[HR.out];exact ak_fin HAR.out.1 HAR.out.2 (by have h:=HAK.out;rw[List.drop_length,akRun] at h;exact h.symm));clear HAK HR;have hk24:=HKND.out;have HKK:=h_ hk24;have r25:(((k:Nat):Int)==25)=false:=by rw[beq_eq_false_iff_ne];omega
  have r26:(((k:Nat):Int)==26)=false:=by rw[beq_eq_false_iff_ne];omega
  have r27:(((k:Nat):Int)==27)=false:=by rw[beq_eq_false_iff_ne];omega
  have r28:(((k:Nat):Int)==28)=false:=by rw[beq_eq_false_iff_ne];omega
  have r3:(((k:Nat):Int)==3)=false:=by rw[beq_eq_false_iff_ne];omega
  have r15:(((k:Nat):Int)==15)=false:=by rw[beq_eq_false_iff_ne];omega
  have r16:(((k:Nat):Int)==16)=false:=by rw[beq_eq_false_iff_ne];omega
  have r24:(((k:Nat):Int)==24)=true:=by rw[beq_iff_eq];omega
  clear hk24;have hfin:R=aCall F rf nm ln cl tj:=by rw[HFI.out,HKK.out,fin_rest _ _ _ _ _ _ _ _ _ (by decide)];rfl
  have HFV:=h_ hfin;clear hfin
  by_cases hrf:rf=true
  ·subst hrf;obtain⟨c0,c1,c2,c3,c4,c5,c6,c7⟩:=cl8 HBe.out;go_upto_region 46 with fail
   clear r25 r26 r27 r28 r3 r15 r16 r24;clear c0 c1 c2 c3 c4 c5 c6 c7;obtain⟨c0,c1,c2,c3,c4,c5,c6,c7⟩:=cl8 HBe.out;go_wp2_with fail
   clear c0 c1 c2 c3 c4 c5 c6 c7;refine (here_l wl ke _ _ _ _ _ _ _ _ _ _ ln cl 1 HBe.out).mono ?_;rintro e w3 ⟨rfl,hb⟩;replace HBe:=kB hb HBe;replace HBz:=kB hb HBz;replace HBW:=bw_ HBW hb;replace HRW:=h_ (HRW.out.below hb);clear hb;unfold fltV;obtain⟨y0,y1,y2⟩:=cl3 HBz.out;obtain⟨fy0,fy1,fy2⟩:=fr3 HBz.out;go_wp2_with fail
   clear y0 fy0 y1 fy1 y2 fy2;exact ask_end (tv:=.int .i64 0) rfl HBz HBW hkz (by rw[HFV.out,show aCall F true nm ln cl tj=.error (1,ln,cl) from rfl];rfl)
  have hrf2:rf=false:=by simpa using hrf
  clear hrf;subst hrf2;obtain⟨SF,fs,hat,hFe⟩:=HFN.out.resolve_left (by decide);obtain⟨ko,kc,hv,⟨hk1,hk2⟩,-,hel⟩:=hat;have HEL:=h_ hel;have HFE:=h_ hFe;subst hv;have hfl:fs.length<=9223372036854775807:=Nat.le_trans hk1 hk2;clear hk1 hk2 hel hFe;obtain⟨tp,tc,htv,hrest⟩:=HRW.out.at (S':=fun _=>True) (fun _ _=>trivial) (fun _ _=>trivial);have htc:inE.At wl (fun _=>True) (.slice tp tj.length tc) tj:=⟨tp,tc,rfl,hrest⟩
  clear hrest
  try skip
  subst htv;have HTA:=h_ htc;have htl:tj.length<=9223372036854775807:=by obtain⟨_,_,_,⟨h1,h2⟩,-⟩:=htc;exact Nat.le_trans h1 h2
  clear htc HRW;obtain⟨c0,c1,c2,c3,c4,c5,c6,c7⟩:=cl8 HBe.out;go_upto_region 47 with fail
  clear r25 r26 r27 r28 r3 r15 r16 r24;clear c0 c1 c2 c3 c4 c5 c6 c7;go_wp2_with fail
  go_loopw [237] (fun i wr=>∃ (j:Nat),i=.int .i64 (j:Nat)/\j<=fs.length/\Hid (∀ i (hi:i<fs.length),i<j->fs[i].q.nm≠nm)/\Hid (wr.heap[ke]?=some (.cells #[.int .i64 (k:Nat),.string ⟨nm.toArray⟩,.string ⟨ot.toArray⟩,.bool false,.slice xao xn xq,.slice xko ks.length xkc,.int .i64 (ln:Nat),.int .i64 (cl:Nat)] 48 (0,0)))/\Hid (wr.heap[kz]?=some (.cells #[.int .i64 0,.int .i64 0,.int .i64 0] 36 (0,0)))/\Hid (Below w.heap.size w wr)/\Hid (inE.At wr (fun _=>True) (.slice tp tj.length tc) tj)) (fun i _=>fs.length - (intOf i).toNat)
  case atStart=>exact⟨0,rfl,Nat.zero_le _,h_ (fun _ _ h=>absurd h (Nat.not_lt_zero _)),HBe,HBz,HBW,HTA⟩
  case round =>
   obtain⟨wm,hwm⟩:∃ q,q=wr:=⟨_,rfl⟩
   subst hwm;clear HBe HBz HBW HTA hez hzl;obtain⟨j,rfl,hj,HNO,HBe,HBz,HBW,HTA⟩:=hrel;have hez:ke<wm.heap.size:=lt_of_block HBe.out;have hzl:kz<wm.heap.size:=lt_of_block HBz.out
   by_cases hi:j<fs.length
   ·obtain⟨hAt,hRj⟩:=HEL.out j hi;obtain⟨⟨q,v,px,py⟩,hqd⟩:∃ z,z=fs[j]:=⟨_,rfl⟩
    rw[<-hqd] at hAt hRj;obtain⟨hone,hux,huy,hpm⟩:=hRj;have hone2:v.oneCell'=true:=hone;have e25:fnE.f ⟨q,v,px,py⟩=fnC q v px py:=if_pos hone2;have hAt2:AtN 25 w0 ko j (fnC q v px py):=by rw[<-e25];exact hAt
    obtain⟨B,hB⟩:∃ z,z=fnC q v px py:=⟨_,rfl⟩
    rw[<-hB] at hAt2;obtain⟨a,rfl,hc⟩:=hAt2;have hcb:∀ i u,B[i]?=some u->wm.cell? ((a.add (j*25)).add i)=some u:=fun i u hu=>by have:=hc i u hu;rw[(HB0.out.trans (HBW.out.mono HB0.out.size)).cell (cell_lt this)];exact this
    have HCB:=h_ hcb;have HB1:Hid (B.length=25):=h_ (by rw[hB];rfl);have HB2:Hid (∀ u ∈ B,u.oneCell'=true):=h_ (by rw[hB];exact fnC_one hone2);have HBD:=h_ hB;have HQD:=h_ hqd;have HUX:=h_ (show Um w0 SF px q.res.ref from hux);have HUY:=h_ (show Um w0 SF py q.body from huy);have HPM:=h_ (show PmsAt w0 SF v q.ps from hpm);clear hAt hux huy hpm hone hone2 e25 hc hcb hB hqd;go_upto_region 49 with fail
    refine wp_region_lit ?_;refine wpList_plain rfl fun K0 hK0=>?_
    go_simp
    refine hK0 _ _ ?_;clear hK0;refine wpList_plain rfl fun K0 hK0=>?_
    refine wp_load_row 59 (.tmp 239) rfl _ rfl B _ HCB.out Tryz.underlying59 rfl (by rw[HB1.out];kernel_rfl) ?_;refine hK0 _ _ ?_;clear hK0;refine wpList_plain rfl fun K0 hK0=>?_
    go_simp
    refine hK0 _ _ ?_;clear hK0;refine wpList_plain rfl fun K0 hK0=>?_
    refine wp_store_row 59 (.tmp 18) (.tmp 240) rfl wm.heap.size B.toArray rfl rfl 59 _ (heap_alloc_last wm _) (by rw[List.size_toArray,HB1.out];kernel_rfl) (by rw[show B.toArray.size=25 from by rw[List.size_toArray];exact HB1.out];rfl) (by rw[List.all_toArray];exact List.all_eq_true.2 HB2.out) ?_;rw[World.setRow_alloc_new];refine hK0 _ _ ?_;clear hK0;go_upto_region 50 with fail
    obtain⟨w3,kf,hw,hkk,hb,hs1,HBf⟩:=newb wm B.toArray 59;have he_f:=lk_ hkk HBe;have hz_f:=lk_ hkk HBz;rw[hw,<-hkk];replace HBe:=kB hb HBe;replace HBz:=kB hb HBz;replace HBW:=bw_ HBW hb;replace HTA:=h_ (HTA.out.below hb);clear hw hb hkk hs1;have hb0:B.toArray[0]?=some (.string ⟨q.nm.toArray⟩):=by rw[HBD.out];rfl
    have q0:=cell_at (v:=.string ⟨q.nm.toArray⟩) HBf.out 0 hb0;clear hb0
    by_cases hm:q.nm=nm
    ·have hmb:(q.nm==nm)=true:=by rw[beq_iff_eq];exact hm
     have HM:=h_ hm;clear hm;obtain⟨c0,c1,c2,c3,c4,c5,c6,c7⟩:=cl8 HBe.out;go_upto_region 51 with fail
     clear hmb;clear q0 c0 c1 c2 c3 c4 c5 c6 c7;have HFS:Hid (F nm=some (sigF q)):=h_ (by rw[HFE.out,fnd_some hi HNO.out (by rw[<-HQD.out];exact HM.out),<-HQD.out]);obtain⟨qs,hqs,hat2⟩:=HPM.out;obtain⟨ko2,kc2,hv2,⟨hp1,hp2⟩,-,hel2⟩:=hat2;have HQS:=h_ hqs;have HEL2:=h_ hel2;subst hv2;have hql:qs.length<=9223372036854775807:=Nat.le_trans hp1 hp2;clear hqs hel2 hp1 hp2;have hb1:B.toArray[1]?=some (.slice ko2 qs.length kc2):=by rw[HBD.out];rfl
     have HB1s:=h_ hb1;clear hb1;have q1:=cell_at (v:=.slice ko2 qs.length kc2) HBf.out 1 HB1s.out
     by_cases hlen:qs.length=tj.length
     ·have ql:(((qs.length:Nat):Int) != ((tj.length:Nat):Int))=false:=by rw[bne_eq_false_iff_eq];omega
      have HLN:=h_ hlen;clear hlen;go_upto_region 53 with fail
      clear ql;clear q1;go_wp2_with fail
      go_loopw [258] (fun i wr=>∃ (m:Nat),i=.int .i64 (m:Nat)/\m<=tj.length/\Hid (∀ i (h1:i<tj.length) (h2:i<qs.length),i<m->qs[i].1.b=tj[i])/\Hid (wr.heap[ke]?=some (.cells #[.int .i64 (k:Nat),.string ⟨nm.toArray⟩,.string ⟨ot.toArray⟩,.bool false,.slice xao xn xq,.slice xko ks.length xkc,.int .i64 (ln:Nat),.int .i64 (cl:Nat)] 48 (0,0)))/\Hid (wr.heap[kz]?=some (.cells #[.int .i64 0,.int .i64 0,.int .i64 0] 36 (0,0)))/\Hid (wr.heap[kf]?=some (.cells B.toArray 59 (0,0)))/\Hid (Below w.heap.size w wr)/\Hid (inE.At wr (fun _=>True) (.slice tp tj.length tc) tj)) (fun i _=>tj.length - (intOf i).toNat)
      case atStart=>exact⟨0,rfl,Nat.zero_le _,h_ (fun _ _ _ h=>absurd h (Nat.not_lt_zero _)),HBe,HBz,HBf,HBW,HTA⟩
      case round =>
       obtain⟨wn,hwn⟩:∃ q,q=wr:=⟨_,rfl⟩
       subst hwn;clear HBe HBz HBf HBW HTA hez hzl;obtain⟨m,rfl,hmj,HPB,HBe,HBz,HBf,HBW,HTA⟩:=hrel;have hez:ke<wn.heap.size:=lt_of_block HBe.out;have hzl:kz<wn.heap.size:=lt_of_block HBz.out
       by_cases him:m<tj.length
       ·have hmq:m<qs.length:=by rw[HLN.out];exact him
        have hmqi:((m:Nat):Int)<((qs.length:Nat):Int):=by omega
        obtain⟨⟨a2,rfl,hc2⟩,-⟩:=HEL2.out m hmq;have hbw0:Below w0.heap.size w0 wn:=HB0.out.trans (HBW.out.mono HB0.out.size);obtain⟨z0,z1,z2,z3,z4,z5,z6,z7,z8,z9,z10,z11,z12⟩:=cells13 (w:=wn) (p:=a2.add (m*13)) (q:=qs[m].1) (x:=qs[m].2) (fun q v hv=>by have:=hc2 q v hv;rw[show (a2.add (m*13)).add q=(a2.add (m*pmE.n)).add q from rfl,hbw0.cell (cell_lt this)];exact this);clear z0 z2 z3 z4 z5 z6 z7 z8 z9 z10 z11 z12 hc2 hbw0;obtain⟨_,_,he,-,-,hel3⟩:=HTA.out;injection he with he1 he2 he3;obtain⟨⟨ta,hta,htc⟩,-⟩:=hel3 m him;rw[<-he1] at hta;subst hta;have t0c:=htc 0 _ rfl;rw[addr_add_add] at t0c;have t0d:wn.cell? (ta.add m)=some (.int .i64 (tj[m]:Nat)):=by simpa [inE] using t0c
        clear t0c htc hel3 he1 he2 he3;obtain⟨pb,hpb⟩:∃ q,q=qs[m].1.b:=⟨_,rfl⟩
        obtain⟨tb,htb⟩:∃ q,q=tj[m]:=⟨_,rfl⟩
        rw[<-hpb] at z1;rw[<-htb] at t0d;have HPBm:=h_ hpb;have HTBm:=h_ htb;clear hpb htb;have q1:=cell_at (v:=.slice (some a2) qs.length kc2) HBf.out 1 HB1s.out;have HZ1:=h_ z1;have HT0:=h_ t0d;clear z1 t0d
        by_cases hpt:pb=tb
        ·have qp:(((pb:Nat):Int) != ((tb:Nat):Int))=false:=by rw[bne_eq_false_iff_eq];omega
         have HPT:=h_ hpt;clear hpt;go_upto_region 56 with fail
         have z1:=HZ1.out;have t0d:=HT0.out
         go_quiet (fail)
         obtain⟨w4,hwq⟩:∃ q,q=wn.drewN nq:=⟨_,rfl⟩
         have hb:Below wn.heap.size wn w4:=by rw[hwq];exact below_drewN' _ _ _
         rw[<-hwq];clear hwq;clear q1;replace HBe:=kB hb HBe;replace HBz:=kB hb HBz;replace HBf:=kB hb HBf;replace HBW:=bw_ HBW hb;replace HTA:=h_ (HTA.out.below hb);clear hb;clear z1 t0d;go_wp2_with fail
         go_roundw
         case rel=>exact⟨m+1,by go_num,him,h_ (fun i h1 h2 h=>by
          rcases Nat.lt_succ_iff_lt_or_eq.1 h with h | h
          ·exact HPB.out i h1 h2 h
          subst h;rw[<-HPBm.out,<-HTBm.out];exact HPT.out),HBe,HBz,HBf,HBW,HTA⟩
         case measure=>simp[intOf];omega
        have qp:(((pb:Nat):Int) != ((tb:Nat):Int))=true:=by rw[bne_iff_ne];omega
        have HPT:=h_ hpt;clear hpt;go_upto_region 56 with fail
        have z1:=HZ1.out;have t0d:=HT0.out
        go_quiet (fail)
        obtain⟨w4,hwq⟩:∃ q,q=wn.drewN nq:=⟨_,rfl⟩
        have hb:Below wn.heap.size wn w4:=by rw[hwq];exact below_drewN' _ _ _
        rw[<-hwq];clear hwq;clear q1;replace HBe:=kB hb HBe;replace HBz:=kB hb HBz;replace HBf:=kB hb HBf;replace HBW:=bw_ HBW hb;replace HTA:=h_ (HTA.out.below hb);clear hb;clear z1 t0d;go_upto_region 57 with fail
        clear qp hmqi;obtain⟨c0,c1,c2,c3,c4,c5,c6,c7⟩:=cl8 HBe.out;go_wp2_with fail
        clear c0 c1 c2 c3 c4 c5 c6 c7;refine (here_l w4 ke _ _ _ _ _ _ _ _ _ _ ln cl 4 HBe.out).mono ?_;rintro e w5 ⟨rfl,hb⟩;replace HBe:=kB hb HBe;replace HBz:=kB hb HBz;replace HBf:=kB hb HBf;replace HBW:=bw_ HBW hb;replace HTA:=h_ (HTA.out.below hb);clear hb;unfold fltV;obtain⟨y0,y1,y2⟩:=cl3 HBz.out;obtain⟨fy0,fy1,fy2⟩:=fr3 HBz.out;go_wp2_with fail
        clear y0 fy0 y1 fy1 y2 fy2;exact ask_end (tv:=.int .i64 0) rfl HBz HBW hkz (by rw[HFV.out,call_bad HFS.out (fun e=>HPT.out (by rw[HPBm.out,HTBm.out];simp only[e,<-HQS.out,List.getElem_map]))];rfl)
       have hb3:B.toArray[3]?=some (.int .i64 (q.res.b:Nat)):=by rw[HBD.out];rfl
       have q3:=cell_at (v:=.int .i64 (q.res.b:Nat)) HBf.out 3 hb3;clear hb3
       have HEQ:Hid (tj=q.ps.map PmU.b):=h_ (by
        rw[<-HQS.out,List.map_map];refine List.ext_getElem (by rw[List.length_map,HLN.out]) (fun i h1 h2=>?_);rw[List.getElem_map]
        exact (HPB.out i h1 (by rw[HLN.out];exact h1) (by omega)).symm)
       obtain⟨y0,y1,y2⟩:=cl3 HBz.out;obtain⟨fy0,fy1,fy2⟩:=fr3 HBz.out;go_wp2_with fail
       clear q3 y0 fy0 y1 fy1 y2 fy2;exact ask_end (tv:=.int .i64 (q.res.b:Nat)) rfl HBz HBW hkz (by rw[HFV.out,call_ok HFS.out HEQ.out];rfl)
     have ql:(((qs.length:Nat):Int) != ((tj.length:Nat):Int))=true:=by rw[bne_iff_ne];omega
     have HLN:=h_ hlen;clear hlen;go_upto_region 52 with fail
     clear ql;clear q1;obtain⟨c0,c1,c2,c3,c4,c5,c6,c7⟩:=cl8 HBe.out;go_wp2_with fail
     clear c0 c1 c2 c3 c4 c5 c6 c7;refine (here_l w3 ke _ _ _ _ _ _ _ _ _ _ ln cl 4 HBe.out).mono ?_;rintro e w4 ⟨rfl,hb⟩;replace HBe:=kB hb HBe;replace HBz:=kB hb HBz;replace HBf:=kB hb HBf;replace HBW:=bw_ HBW hb;replace HTA:=h_ (HTA.out.below hb);clear hb;unfold fltV;obtain⟨y0,y1,y2⟩:=cl3 HBz.out;obtain⟨fy0,fy1,fy2⟩:=fr3 HBz.out;go_wp2_with fail
     clear y0 fy0 y1 fy1 y2 fy2;exact ask_end (tv:=.int .i64 0) rfl HBz HBW hkz (by rw[HFV.out,call_bad HFS.out (fun e=>HLN.out (by rw[e,<-HQS.out,List.length_map,List.length_map]))];rfl)
    have hmb:(q.nm==nm)=false:=beq_eq_false_iff_ne.2 hm;have HM:=h_ hm;clear hm;obtain⟨c0,c1,c2,c3,c4,c5,c6,c7⟩:=cl8 HBe.out;go_wp2_with fail
    go_roundw
    case rel=>exact⟨j+1,by go_num,hi,h_ (fun i hi2 h=>by
     rcases Nat.lt_succ_iff_lt_or_eq.1 h with h | h
     ·exact HNO.out i hi2 h
     subst h;rw[<-HQD.out];exact HM.out),HBe,HBz,HBW,HTA⟩
    case measure=>simp[intOf];omega
   have HNF:Hid (F nm=none):=h_ (by rw[HFE.out];exact fnd_none (fun i hi2=>HNO.out i hi2 (by omega)));go_upto_region 61 with fail
   obtain⟨c0,c1,c2,c3,c4,c5,c6,c7⟩:=cl8 HBe.out;go_wp2_with fail
   clear c0 c1 c2 c3 c4 c5 c6 c7;refine (here_l wm ke _ _ _ _ _ _ _ _ _ _ ln cl 3 HBe.out).mono ?_;rintro e w3 ⟨rfl,hb⟩;replace HBe:=kB hb HBe;replace HBz:=kB hb HBz;replace HBW:=bw_ HBW hb;replace HTA:=h_ (HTA.out.below hb);clear hb;unfold fltV;obtain⟨y0,y1,y2⟩:=cl3 HBz.out;obtain⟨fy0,fy1,fy2⟩:=fr3 HBz.out;go_wp2_with fail
   clear y0 fy0 y1 fy1 y2 fy2;exact ask_end (tv:=.int .i64 0) rfl HBz HBW hkz (by rw[HFV.out,call_none HNF.out];rfl)
theorem ask_s (F:Fs) (rf:Bool) (w0:World) (vf:Value) (hF:rf=true\/∃ SF fs,fnE.At w0 SF vf fs/\F=fndF (fs.map Fd.q)) (x:X) (u:U) (S S2:Nat->Prop) (w:World) (vl:Value) (ps:List PmU) (hu:Um w0 S x u) (hb:Bnd u) (hkm:u.ks.length<=1000000) (hK:∀ j (h:j<u.ks.length),AskOk F rf w0 vf u.ks[j]) (hbw:Below w0.heap.size w0 w) (hp:PmsAt w S2 vl ps) (hn:ps.length+2*ud u<=700000000000) :
  Calls Tryz.prog 13 #[xv x,vl,vf,.bool rf] w fun e w'=>e=.returned (.tuple #[.int .i64 (arT (aB F rf u (lkp ps)):Nat),fltV (arF (aB F rf u (lkp ps)))])/\Below w.heap.size w w':=by
 have hk:u.k<29:=by
  obtain⟨k,nm,ot,z,ln,cl,ks⟩:=u;rw[Bnd] at hb;exact hb.1.1
 by_cases h26:u.k=26
 ·exact ask_A F rf w0 vf hF x u S S2 w vl ps hu hb hkm hK hbw hp hn h26
 by_cases h27:u.k=27
 ·exact ask_B F rf w0 vf hF x u S S2 w vl ps hu hb hkm hK hbw hp hn h27
 by_cases h28:u.k=28
 ·exact ask_C F rf w0 vf hF x u S S2 w vl ps hu hb hkm hK hbw hp hn h28
 by_cases h25:u.k=25
 ·exact ask_E F rf w0 vf hF x u S S2 w vl ps hu hb hkm hK hbw hp hn h25
 by_cases h24:u.k=24
 ·exact ask_G F rf w0 vf hF x u S S2 w vl ps hu hb hkm hK hbw hp hn h24
 by_cases h3:u.k=3\/u.k=15\/u.k=16
 ·exact ask_F F rf w0 vf hF x u S S2 w vl ps hu hb hkm hK hbw hp hn h3
 exact ask_D F rf w0 vf hF x u S S2 w vl ps hu hb hkm hK hbw hp hn (by omega)
theorem ask_all (F:Fs) (rf:Bool) (w0:World) (vf:Value) (hF:rf=true\/∃ SF fs,fnE.At w0 SF vf fs/\F=fndF (fs.map Fd.q)):∀ (d:Nat) (u:U),ud u<=d->Bnd u->uw u<=1000000->AskOk F rf w0 vf u
 | 0,u,hd,_,_=>by obtain⟨k,nm,ot,z,ln,cl,ks⟩:=u;rw[ud] at hd;omega
 | d+1,u,hd,hb,hw=>fun x S S2 w vl ps hu hB hbw hp hn =>
  ask_s F rf w0 vf hF x u S S2 w vl ps hu hB (Nat.le_trans (uw_len u) hw) (fun j hj=>by
   have hk:ud u.ks[j]<=d:=by
    obtain⟨k,nm,ot,z,ln,cl,ks⟩:=u;rw[ud] at hd;have:=uds_mem (List.getElem_mem (l:=ks) hj)
    show ud ks[j]<=d
    omega
   have hbk:Bnd u.ks[j]:=by
    obtain⟨k,nm,ot,z,ln,cl,ks⟩:=u;rw[Bnd] at hb;exact bnds_mem hb.2.2.2 (List.getElem_mem hj)
   exact ask_all F rf w0 vf hF d u.ks[j] hk hbk (Nat.le_trans (uw_kid u hj) hw)) hbw hp hn
theorem um_lc {w:World} {S:Nat->Prop} {x:X} {u:U} (h:Um w S x u):x.ln=(u.ln:Nat)/\x.cl=(u.cl:Nat):=by
 obtain⟨k,nm,ot,z,ln,cl,ks⟩:=u;rw[Um] at h;obtain⟨⟨-,-,-,-,e5,e6⟩,-⟩:=h;exact⟨e5,e6⟩
theorem truth_l (w0 w:World) (S S2:Nat->Prop) (x:X) (u:U) (vl:Value) (ps:List PmU) (hu:Um w0 S x u) (hb:Bnd u) (hw:uw u<=1000000) (hbw:Below w0.heap.size w0 w) (hp:PmsAt w S2 vl ps) (hn:ps.length+2*ud u<=700000000000) :
  Calls Tryz.prog 20 #[xv x,vl] w fun e w'=>e=.returned (fltV (tru u (lkp ps)))/\Below w.heap.size w w':=by
 have hlc:=um_lc hu;have HAK:=h_ (ask_all g0.fs true w0 (.slice none 0 0) (.inl rfl) (ud u) u (Nat.le_refl _) hb hw x S S2);obtain⟨xk,xnm,xot,xb,xao,xn,xq,xko,xkn,xkc,xln,xcl⟩:=x;simp only at hlc;obtain⟨e5,e6⟩:=hlc;subst e5 e6;have HU:=h_ hu;have HB:=h_ hb;have HB0:=h_ hbw;have HPS:=h_ hp;have HN:=h_ hn;clear hu hb hw hbw hp hn;simp only[xv];obtain⟨R,hR⟩:∃ q,q=tru u (lkp ps):=⟨_,rfl⟩
 rw[<-hR];have HR:=h_ hR;clear hR;obtain⟨ul,hul⟩:∃ z,z=u.ln:=⟨_,rfl⟩
 obtain⟨uc,huc⟩:∃ z,z=u.cl:=⟨_,rfl⟩
 rw[<-hul,<-huc] at HU HAK;rw[<-hul,<-huc];have HUL:=h_ hul;have HUC:=h_ huc;clear hul huc;have HBW:=h_ (Below.refl w.heap.size w);go_enter Tryz.func20,Tryz.ntmps20
 go_upto_region 1 with fail
 obtain⟨w1,ke,hw,hkk,hb,hs1,HBe⟩:=newb w #[.int .i64 xk,.string xnm,.string xot,.bool xb,.slice xao xn xq,.slice xko xkn xkc,.int .i64 (ul:Nat),.int .i64 (uc:Nat)] 48;rw[hw,<-hkk,<-hs1];replace HBW:=bw_ HBW hb;have hke:w.heap.size<=ke:=by rw[hkk];exact Nat.le_refl _
 clear hw hb hkk hs1;obtain⟨w2,kz,hw,hkk,hb,hs1,HBz⟩:=newb w1 #[.int .i64 0,.int .i64 0,.int .i64 0] 36;have he_z:=lk_ hkk HBe;rw[hw,<-hkk];replace HBe:=kB hb HBe;replace HBW:=bw_ HBW hb;have hkz:w.heap.size<=kz:=by rw[hkk];have:=HBW.out.size;omega
 clear hw hb hkk hs1;have hp1:=HPS.out.below HBW.out;have hks:=HAK.out w2 vl ps HU.out HB.out (HB0.out.trans (HBW.out.mono HB0.out.size)) hp1 HN.out;obtain⟨r,hr⟩:∃ q,q=aB g0.fs true u (lkp ps):=⟨_,rfl⟩
 rw[<-hr] at hks;have HRR:=h_ hr;simp only[xv] at hks;have HKC:=h_ hks;clear hks hr hp1;obtain⟨c0,c1,c2,c3,c4,c5,c6,c7⟩:=cl8 HBe.out;go_wp2_with fail
 refine HKC.out.mono ?_;rintro e w3 ⟨rfl,hb⟩;clear c0 c1 c2 c3 c4 c5 c6 c7;replace HBe:=kB hb HBe;replace HBz:=kB hb HBz;replace HBW:=bw_ HBW hb;clear hb HKC;have HNZ:=h_ (anz_b g0.fs true u (lkp ps))
 cases r with
 | error e =>
  have hz:e.1≠0:=HNZ.out e HRR.out.symm;obtain⟨e0,e1,e2⟩:=e;unfold fltV;simp only[arT,arF];have HZ:=h_ hz;clear hz;have hqz:(((e0:Nat):Int)==0)=false:=by rw[beq_eq_false_iff_ne];have:=HZ.out;simp only at this;omega
  go_upto_region 2 with fail
  obtain⟨w4,kf,hw,hkk,hb,hs1,HBf⟩:=newb w3 #[.int .i64 (e0:Nat),.int .i64 (e1:Nat),.int .i64 (e2:Nat)] 36;have he_f:=lk_ hkk HBe;have hz_f:=lk_ hkk HBz;rw[hw,<-hkk];replace HBe:=kB hb HBe;replace HBz:=kB hb HBz;replace HBW:=bw_ HBW hb;clear hw hb hkk hs1;obtain⟨f0,f1,f2⟩:=cl3 HBf.out;go_upto_region 4 with fail
  clear hqz;clear f0 f1 f2;obtain⟨f0,f1,f2⟩:=cl3 HBf.out;obtain⟨y0,y1,y2⟩:=cl3 HBz.out;obtain⟨fy0,fy1,fy2⟩:=fr3 HBz.out;go_wp2_with fail
  clear f0 f1 f2 y0 fy0 y1 fy1 y2 fy2;exact end1 Tryz.results20 HBz HBW hkz (by rw[HR.out,show tru u (lkp ps)=(e0,e1,e2) from by unfold tru;rw[<-HRR.out]];rfl)
 | ok b =>
  simp only[arT,arF,fltV,f0];go_upto_region 2 with fail
  obtain⟨w4,kf,hw,hkk,hb,hs1,HBf⟩:=newb w3 #[.int .i64 0,.int .i64 0,.int .i64 0] 36;have he_f:=lk_ hkk HBe;have hz_f:=lk_ hkk HBz;rw[hw,<-hkk];replace HBe:=kB hb HBe;replace HBz:=kB hb HBz;replace HBW:=bw_ HBW hb;clear hw hb hkk hs1;obtain⟨f0,f1,f2⟩:=cl3 HBf.out
  by_cases hb1:b=1
  ·have hq:(((b:Nat):Int) != 1)=false:=by rw[bne_eq_false_iff_eq];omega
   have HB1:=h_ hb1;clear hb1;go_upto_region 4 with fail
   clear hq;clear f0 f1 f2;obtain⟨f0,f1,f2⟩:=cl3 HBf.out;obtain⟨y0,y1,y2⟩:=cl3 HBz.out;obtain⟨fy0,fy1,fy2⟩:=fr3 HBz.out;go_wp2_with fail
   clear f0 f1 f2 y0 fy0 y1 fy1 y2 fy2;exact end1 Tryz.results20 HBz HBW hkz (by rw[HR.out,show tru u (lkp ps)=f0 from by unfold tru;rw[<-HRR.out];exact if_pos HB1.out];rfl)
  have hq:(((b:Nat):Int) != 1)=true:=by rw[bne_iff_ne];omega
  have HB1:=h_ hb1;clear hb1;go_upto_region 3 with fail
  clear hq;clear f0 f1 f2;obtain⟨c0,c1,c2,c3,c4,c5,c6,c7⟩:=cl8 HBe.out;obtain⟨y0,y1,y2⟩:=cl3 HBz.out;obtain⟨fy0,fy1,fy2⟩:=fr3 HBz.out;go_wp2_with fail
  clear c0 c1 c2 c3 c4 c5 c6 c7 y0 fy0 y1 fy1 y2 fy2;exact end1 Tryz.results20 HBz HBW hkz (by rw[HR.out,show tru u (lkp ps)=(4,ul,uc) from by unfold tru;rw[<-HRR.out,HUL.out,HUC.out];exact if_neg HB1.out];rfl)
end Go.Proofs.YtpclhpfcbjgokaaGreatDoor
