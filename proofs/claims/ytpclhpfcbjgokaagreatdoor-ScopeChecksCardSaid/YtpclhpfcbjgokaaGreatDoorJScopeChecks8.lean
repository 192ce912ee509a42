/-
 Joined texts: ScV,ScW,ScX,ScY,ScZ,ScLa,ScLb,ScLc,ScLf,LxErr,LxIs.
-/
import Derived.Laws.ResultCell
import Derived.Laws.Append
import Derived.Deep.QuietTactic
import Derived.BigQuiet
import Derived.LaidEql
import Derived.Stop.Asserts
import Derived.RowKitTokens
import Derived.Lib.IfaceEq
import Derived.Test.YtpclhpfcbjgokaaGreatDoorJScopeChecks1
import Derived.Test.YtpclhpfcbjgokaaGreatDoorJScopeChecks4
import Derived.Test.YtpclhpfcbjgokaaGreatDoorJScopeChecks7
set_option maxHeartbeats 32000000
namespace Go.Proofs.YtpclhpfcbjgokaaGreatDoor
open Go.RowKit Go.Maps
set_option maxRecDepth 100000
set_option linter.unusedVariables false
set_option linter.unusedSimpArgs false
theorem kfpar_dom (F:Fs) (s:Ks) (p:PmU) {n:Nat} (h:Dom s.sc n):Dom (kFPar F s p).sc (n+1):=by
 unfold kFPar kKnown;simp only
 split
 ·exact h.put _ _
 exact h.put _ _
theorem known_sc (F:Fs) (p:PmU) (s:Ks):(kKnown F p s).sc=s.sc:=by unfold kKnown;split<;>rfl
theorem kqpar_dom (s:Ks) (p:PmU) {n:Nat} (h:Dom s.sc n):Dom (kQPar s p).sc (n+1):=by
 unfold kQPar
 split
 ·exact h.put _ _
 exact h.mono (Nat.le_succ n)
theorem foldl_take {α β:Type} (f:β->α->β) (l:List α) (j:Nat) (h:j<l.length) (b:β):(l.take (j+1)).foldl f b=f ((l.take j).foldl f b) l[j]:=by
 rw[List.take_succ_eq_append_getElem h,List.foldl_append];rfl
theorem map_fst_get {qs:List (PmU × X)} {ps:List PmU} (h:qs.map Prod.fst=ps) {j:Nat} (hj:j<qs.length):∃ hj':j<ps.length,ps[j]=qs[j].1:=by
 subst h;exact⟨by rw[List.length_map];exact hj,by rw[List.getElem_map]⟩
def AllOk (F:Fs) (Gv:Bs->Option Value) (w0:World):Prop:=∀ (rf:Bool) (u:U),Bnd u->uw u<=1000000->BaseOk F Gv rf w0 u
theorem fun_s {w0 w:World} {kg bf bs:Nat} {Gv:Bs->Option Value} {s:Ks} {ev:Value} (h:Ck w0 w kg bf bs Gv s false ev) (f:FnU) (v:Value) (x y:X) (S:Nat->Prop) (hp:PmsAt w0 S v f.ps) (hu:Um w0 S x f.res.ref) (hv:Um w0 S y f.body) (hb:FnB f) (F:Fs) (hK:AllOk F Gv w0) (hl:f.ps.length<=100000) (hw:(∀ p ∈ f.ps,uw p.ref<=1000000/\ud p.ref<=100000000000)/\(uw f.res.ref<=1000000/\ud f.res.ref<=100000000000)/\uw f.body<=1000000/\ud f.body<=100000000000) (hA:ArT w0) :
  Calls Tryz.prog 39 #[.pointer (some ⟨kg,0,none⟩),.agg (fnC f v x y).toArray] w fun e w'=>e=.returned (.tuple #[])/\CkP w0 w kg bf bs Gv (kFun F f s.er) false w':=by
 have HPS:=h_ hp;have HU:=h_ hu;have HV:=h_ hv;have HPB:=h_ hb.2.1;have HRB:=h_ hb.2.2.1;have HBB:=h_ hb.2.2.2.1;have HKB:=h_ hK;have HPL:=h_ hl;have HW:=h_ hw;have HA:=h_ hA
 skip
 obtain⟨ps,hps⟩:∃ q,q=f.ps:=⟨_,rfl⟩
 rw[<-hps] at HPS HPB HPL HW;have HFP:=h_ hps;clear hp hu hv hb hK hl hw hA hps;have HC:=h_ h;have HBg:=h_ h.blk;have HF:Hid (Fc w w kg bs):=h_ (Fc.refl _ _ _);clear h;have hgs:kg≠bs:=HC.out.gs;have HGS:=h_ hgs;clear hgs;obtain⟨A,hA⟩:∃ q,q=fnC f v x y:=⟨_,rfl⟩
 rw[<-hA];have HAA:=h_ hA;clear hA;go_enter Tryz.func39,Tryz.ntmps39
 go_upto_region 1 with fail
 obtain⟨w1,ke,hw,hkk,hb,hs1,HBe⟩:=newb w A.toArray 59;have hge:=lk_ hkk HBg;have hse:bs<ke:=by rw[hkk];exact HC.out.sm.lt
 have hee:w.heap.size<=ke:=by rw[hkk];exact HF.out.size
 rw[hw,<-hkk];replace HBg:=kB hb HBg;replace HC:=h_ (HC.out.below hb);replace HF:=fb_ HF hb;clear hw hb hkk hs1;rw[HAA.out] at HBe;obtain⟨g0,g1,g2,g3⟩:=cl4 HBg.out;go_upto_region 2 with (first | (refine wp_clear _ rfl _ 74 rfl 9 55 Tryz.underlying74 bs (scV s.sc) rfl HC.out.sm ?_;intro wz hmz hgz) | fail)
 have hmz2:MapIs Tryz.prog 9 wz bs (scV sc0):=hmz;clear hmz;clear g0 g1 g2 g3;replace HBg:=kG hgz HBg HGS.out;replace HBe:=kG hgz HBe;replace HF:=h_ (HF.out.trans (Fc.of_b hgz kg));replace HC:=h_ (HC.out.turn hgz hmz2);clear hgz hmz2;have hst:Dom sc0 0:=Dom.nil;have HD0:=h_ hst;clear hst;obtain⟨qs,hqs,hat⟩:=HPS.out;obtain⟨ko,kc,hv,⟨hk1,hk2⟩,-,hel⟩:=hat;have HQS:=h_ hqs;have HEL:=h_ hel;have HVV:=h_ hv;have hkl:qs.length<=9223372036854775807:=Nat.le_trans hk1 hk2;have HQL:Hid (qs.length<=100000):=h_ (by have:=HPL.out;rw[<-HQS.out,List.length_map] at this;exact this);clear hqs hel hk1 hk2;have q1:=cell_at (v:=v) HBe.out 1 rfl;rw[HVV.out] at q1;clear hv;go_wp2_with fail
 clear q1
 go_loopw [15] (fun i wr=>∃ (j:Nat) (ev:Value) (sj:Ks),i=.int .i64 (j:Nat)/\j<=qs.length/\Hid (((qs.map Prod.fst).take j).foldl (kFPar F) ⟨sc0,s.er⟩=sj)/\Hid (Dom sj.sc j)/\Hid (Ck w0 wr kg bf bs Gv sj false ev)/\Hid (wr.heap[ke]?=some (.cells (fnC f v x y).toArray 59 (0,0)))/\Hid (Fc w wr kg bs)) (fun i _=>qs.length - (intOf i).toNat)
 case atStart=>exact⟨0,ev,⟨sc0,s.er⟩,rfl,Nat.zero_le _,h_ rfl,HD0,HC,HBe,HF⟩
 case round =>
  obtain⟨wl,hwl⟩:∃ q,q=wr:=⟨_,rfl⟩
  subst hwl;clear HC HBe HF HBg HD0
  try clear ev
  obtain⟨j,ev,sj,rfl,hj,HSJ,HDJ,HC,HBe,HF⟩:=hrel;have HBg:=h_ HC.out.blk
  by_cases hi:j<qs.length
  ·obtain⟨⟨a,rfl,hc⟩,hUm⟩:=HEL.out j hi;have hbw0:=HC.out.bw;obtain⟨z0,z1,z2,z3,z4,z5,z6,z7,z8,z9,z10,z11,z12⟩:=cells13 (w:=wl) (p:=a.add (j*13)) (q:=qs[j].1) (x:=qs[j].2) (fun q v hv=>by have:=hc q v hv;rw[show (a.add (j*13)).add q=(a.add (j*pmE.n)).add q from rfl,hbw0.cell (cell_lt this)];exact this);have hUm2:Um w0 S qs[j].2 qs[j].1.ref:=hUm;obtain⟨hjp,hpj⟩:=map_fst_get HQS.out hi;have hpm:qs[j].1 ∈ ps:=by rw[<-hpj];exact List.getElem_mem hjp
   have hnx:((qs.map Prod.fst).take (j+1)).foldl (kFPar F) ⟨sc0,s.er⟩=(kFPar F) sj qs[j].1:=by rw[foldl_take _ _ j (by rw[List.length_map];exact hi),HSJ.out,List.getElem_map]
   obtain⟨pp,hpp⟩:∃ q,q=qs[j]:=⟨_,rfl⟩
   rw[<-hpp] at z0 z1 z2 z3 z4 z5 z6 z7 z8 z9 z10 z11 z12 hUm2 hpm hnx;have HUP:=h_ hUm2;have HPM:=h_ hpm;have HNX:=h_ hnx;clear hpp hc hbw0 hUm hUm2 hpj hpm hnx hjp;go_upto_region 5 with fail
   have hel2:ke<wl.heap.size:=lt_of_block HBe.out;clear z0 z1 z2 z3 z4 z5 z6 z7 z8 z9 z10 z11 z12;obtain⟨w2,kp,hw,hkk,hb,hs1,HBp⟩:=newb wl #[.string ⟨pp.1.nm.toArray⟩,.int .i64 (pp.1.b:Nat),.bool pp.1.kn,.int .i64 pp.2.k,.string pp.2.nm,.string pp.2.ot,.bool pp.2.b,.slice pp.2.ao pp.2.n pp.2.c,.slice pp.2.ko pp.2.kn pp.2.kc,.int .i64 pp.2.ln,.int .i64 pp.2.cl,.int .i64 (pp.1.ln:Nat),.int .i64 (pp.1.cl:Nat)] 57;have hgp:=lk_ hkk HBg;have hsp:bs<kp:=by rw[hkk];exact HC.out.sm.lt
   have hep:w.heap.size<=kp:=by rw[hkk];exact HF.out.size
   have he_p:=lk_ hkk HBe;rw[hw,<-hkk];replace HBg:=kB hb HBg;replace HBe:=kB hb HBe;replace HC:=h_ (HC.out.below hb);replace HF:=fb_ HF hb;clear hw hb hkk hs1;have HNM:Hid (pp.1.nm.length<=maxLen):=h_ (nm_ok (HPB.out _ HPM.out).1);have hlt_g:=lt_of_block HBg.out;have hlt_p:=lt_of_block HBp.out;refine R7.r0 [[],[0],[0,1],[0,1,2],[],[4],[0,1,2,3,4,5],[0,1,2,3,4,5,6],[0,1,2,3,4,5,6,7],[0,1,2,3,4,5,6,7],[0,1,2,3,4,5,6,7,8],[0,1,2,3,4,5,6,7,8,9,10]] 12 ?_;refine R7.cd ?_ (fun T xs wr hA=>?_) ?_
   rotate_left
   ·have e0:=hA.pq 0;simp only[gsa,gsz] at e0;clear hA;go_simp<;>(try with_reducible rfl)
   refine R7.cd ?_ (fun T xs wr hA=>?_) ?_
   rotate_left
   ·have e20:=tr_ (hA.tq 0 20) (hA.fq 0)
    (try simp (disch:=decide) only [R7.mi] at e20)
    clear hA;go_simp<;>(try with_reducible rfl)
   refine R7.cd ?_ (fun T xs wr hA=>?_) ?_
   rotate_left
   ·have e21:=tr_ (hA.tq 1 21) (hA.fq 1)
    (try simp (disch:=decide) only [R7.mi] at e21)
    clear hA;go_simp<;>(try with_reducible rfl)
   refine R7.cd ?_ (fun T xs wr hA=>?_) ?_
   rotate_left
   ·have e22:=tr_ (hA.tq 2 22) (hA.fq 2)
    (try simp (disch:=decide) only [R7.mi] at e22)
    have hBq:wr.heap[kg]?=_:=(hA.bl _ hlt_g (fun q h=>absurd h (Nat.not_lt_zero _))).trans HBg.out;obtain⟨q0,q1,q2,q3⟩:=cl4 hBq;clear hBq;clear hA;go_simp<;>(try with_reducible rfl)
   refine R7.cd ?_ (fun T xs wr hA=>?_) ?_
   rotate_left
   ·have e5:=hA.pq 5;simp only[gsa,gsc,gsz] at e5;clear hA;go_simp<;>(try with_reducible rfl)
   refine R7.cd ?_ (fun T xs wr hA=>?_) ?_
   rotate_left
   ·have e24:=tr_ (hA.tq 4 24) (hA.fq 4)
    (try simp (disch:=decide) only [R7.mi] at e24)
    have hBq:wr.heap[kp]?=_:=(hA.bl _ hlt_p (fun q h=>absurd h (Nat.not_lt_zero _))).trans HBp.out;obtain⟨q0,q1,q2,q3,q4,q5,q6,q7,q8,q9,q10,q11,q12⟩:=cl13 hBq;clear hBq;clear hA;go_simp<;>(try with_reducible rfl)
   refine R7.Chain.call (fun xs v w=>v=.tuple #[iv ((sj.sc pp.1.nm).getD 0),.bool (sj.sc pp.1.nm).isSome]) (fun _ _ _ _ h _=>h) (fun _ _ _ _ _ h _ _=>h) (by rfl) (fun T xs wr hA=>?_) ?_
   ·have hsw:=(hA.be 0 (Nat.zero_le _) (fun _ _=>Nat.zero_le _)).size;have e23:=tr_ (hA.tq 3 23) (hA.fq 3);have e25:=tr_ (hA.tq 5 25) (hA.fq 5)
    (try simp (disch:=decide) only [R7.mi] at e23 e25)
    have hbw:=undrew (hA.be w2.heap.size (Nat.le_refl _) (fun q h=>absurd h (Nat.not_lt_zero _)));have hlk:=(HC.out.sm.keep (hbw.block _ HC.out.sm.lt)).look_ok Tryz.underlying9 Tryz.underlying74 (zeroB wr) (s:=pp.1.nm) HNM.out;rw[scV_get,scV_some] at hlk;unfold bsv at hlk;clear hbw;clear hA;refine⟨(by rfl),fun K hK=>?_⟩;go_simp
    exact hK.out _ _ rfl (Below.refl _ _)
   refine R7.cd ?_ (fun T xs wr hA=>?_) ?_
   rotate_left
   ·have e26:=hA.tm 6 26 (by rfl) (by rfl);have f26:xs 6=(.tuple #[iv ((sj.sc pp.1.nm).getD 0),.bool (sj.sc pp.1.nm).isSome]):=hA.fa 6 (by rfl);rw[f26] at e26;clear f26;clear hA;go_simp<;>(try with_reducible rfl)
   refine R7.cd ?_ (fun T xs wr hA=>?_) ?_
   rotate_left
   ·have e19:=tr_ (hA.tq 7 19) (hA.fq 7)
    (try simp (disch:=decide) only [R7.mi] at e19)
    clear hA;go_simp<;>(try with_reducible rfl)
   refine R7.cd ?_ (fun T xs wr hA=>?_) ?_
   rotate_left
   ·have e19:=tr_ (hA.tq 7 19) (hA.fq 7)
    (try simp (disch:=decide) only [R7.mi] at e19)
    clear hA;go_simp<;>(try with_reducible rfl)
   refine R7.cd ?_ (fun T xs wr hA=>?_) ?_
   rotate_left
   ·have e27:=tr_ (hA.tq 8 27) (hA.fq 8)
    (try simp (disch:=decide) only [R7.mi] at e27)
    clear hA;go_simp<;>(try with_reducible rfl)
   refine R7.cd ?_ (fun T xs wr hA=>?_) ?_
   rotate_left
   ·have e28:=tr_ (hA.tq 9 28) (hA.fq 9)
    (try simp (disch:=decide) only [R7.mi] at e28)
    clear hA;go_simp<;>(try with_reducible rfl)
   refine R7.Chain.done (fun xs w3 hL=>?_);obtain⟨⟨hbe,hbl⟩,hf,-,-⟩:=hL;have f0:xs 0=_:=hf 0 (by decide);have f1:xs 1=_:=hf 1 (by decide);have f2:xs 2=_:=hf 2 (by decide);have f3:xs 3=_:=hf 3 (by decide);have f4:xs 4=_:=hf 4 (by decide);have f5:xs 5=_:=hf 5 (by decide);have f6:xs 6=(.tuple #[iv ((sj.sc pp.1.nm).getD 0),.bool (sj.sc pp.1.nm).isSome]):=hf 6 (by decide);have f7:xs 7=_:=hf 7 (by decide);have f8:xs 8=_:=hf 8 (by decide);have f9:xs 9=_:=hf 9 (by decide);have f10:xs 10=_:=hf 10 (by decide);have f11:xs 11=_:=hf 11 (by decide)
   (try simp (disch:=decide) only [R7.mi] at f0 f1 f2 f3 f4 f5 f7 f8 f9 f10 f11)
   have hb:Below w2.heap.size w2 w3:=R7.b0_ hbe;clear hbe hbl hf;refine R7.rest_done ?_;simp only[R7.fill,t5_,t6_,t7_,f0,f1,f2,f3,f4,f5,f6,f7,f8,f9,f10,f11];clear hlt_g hlt_p f0 f1 f2 f3 f4 f5 f6 f7 f8 f9 f10 f11;replace HBg:=kB hb HBg;replace HBe:=kB hb HBe;replace HBp:=kB hb HBp;replace HC:=h_ (HC.out.below hb);replace HF:=fb_ HF hb;clear hb;obtain⟨c0,c1,c2,c3,c4,c5,c6,c7,c8,c9,c10,c11,c12⟩:=cl13 HBp.out;go_wp2_with fail
   refine (require_p HC.out (sj.sc pp.1.nm).isNone pp.1.ln pp.1.cl 3).mono ?_;rintro e w4 ⟨rfl,⟨ev,hC⟩,hF⟩;clear c0 c1 c2 c3 c4 c5 c6 c7 c8 c9 c10 c11 c12;replace HBe:=kF hF HBe;replace HBp:=kF hF HBp;replace HF:=h_ (HF.out.trans hF);replace HC:=h_ hC;replace HBg:=h_ hC.blk;clear hC hF;obtain⟨sA,hsA⟩:∃ q:Ks,q=⟨sj.sc,req sj.er (sj.sc pp.1.nm).isNone pp.1.ln pp.1.cl 3⟩:=⟨_,rfl⟩
   rw[<-hsA] at HC;have HSA:=h_ hsA;have HDA:Hid (Dom sA.sc j):=h_ (by rw[hsA];exact HDJ.out);clear hsA;obtain⟨c0,c1,c2,c3,c4,c5,c6,c7,c8,c9,c10,c11,c12⟩:=cl13 HBp.out;go_wp2_with fail
   have hks:=known_s HC.out pp.1 pp.2 S HUP.out (HPB.out _ HPM.out).2.2.2.2 F (HKB.out true pp.1.ref (HPB.out _ HPM.out).2.2.2.2 (HW.out.1 _ HPM.out).1) j HDA.out (by have:=(HW.out.1 _ HPM.out).2;have:=HQL.out;omega) HA.out;unfold pmV at hks;have HKS:=h_ hks;clear hks;refine (HKS.out).mono ?_;rintro e w5 ⟨rfl,⟨ev,hC⟩,hF⟩;clear c0 c1 c2 c3 c4 c5 c6 c7 c8 c9 c10 c11 c12;replace HBe:=kF hF HBe;replace HBp:=kF hF HBp;replace HF:=h_ (HF.out.trans hF);replace HC:=h_ hC;replace HBg:=h_ hC.blk;clear hC hF;obtain⟨sB,hsB⟩:∃ q,q=kKnown F pp.1 sA:=⟨_,rfl⟩
   rw[<-hsB] at HC;have HSB:=h_ hsB;clear hsB;have HDB:Hid (Dom sB.sc j):=h_ (by rw[HSB.out,known_sc];exact HDA.out);go_upto_region 8 with fail
   have hlt_g:=lt_of_block HBg.out;have hlt_p:=lt_of_block HBp.out;refine R7.r0 [[],[0],[0,1],[0,1,2],[],[4],[],[6],[0,1,2,3,4,5,6,7]] 8 ?_;refine R7.cd ?_ (fun T xs wr hA=>?_) ?_
   rotate_left
   ·have e0:=hA.pq 0;simp only[gsa,gsz] at e0;clear hA;go_simp<;>(try with_reducible rfl)
   refine R7.cd ?_ (fun T xs wr hA=>?_) ?_
   rotate_left
   ·have e40:=tr_ (hA.tq 0 40) (hA.fq 0)
    (try simp (disch:=decide) only [R7.mi] at e40)
    clear hA;go_simp<;>(try with_reducible rfl)
   refine R7.cd ?_ (fun T xs wr hA=>?_) ?_
   rotate_left
   ·have e41:=tr_ (hA.tq 1 41) (hA.fq 1)
    (try simp (disch:=decide) only [R7.mi] at e41)
    clear hA;go_simp<;>(try with_reducible rfl)
   refine R7.cd ?_ (fun T xs wr hA=>?_) ?_
   rotate_left
   ·have e42:=tr_ (hA.tq 2 42) (hA.fq 2)
    (try simp (disch:=decide) only [R7.mi] at e42)
    have hBq:wr.heap[kg]?=_:=(hA.bl _ hlt_g (fun q h=>absurd h (Nat.not_lt_zero _))).trans HBg.out;obtain⟨q0,q1,q2,q3⟩:=cl4 hBq;clear hBq;clear hA;go_simp<;>(try with_reducible rfl)
   refine R7.cd ?_ (fun T xs wr hA=>?_) ?_
   rotate_left
   ·have e5:=hA.pq 5;simp only[gsa,gsc,gsz] at e5;clear hA;go_simp<;>(try with_reducible rfl)
   refine R7.cd ?_ (fun T xs wr hA=>?_) ?_
   rotate_left
   ·have e44:=tr_ (hA.tq 4 44) (hA.fq 4)
    (try simp (disch:=decide) only [R7.mi] at e44)
    have hBq:wr.heap[kp]?=_:=(hA.bl _ hlt_p (fun q h=>absurd h (Nat.not_lt_zero _))).trans HBp.out;obtain⟨q0,q1,q2,q3,q4,q5,q6,q7,q8,q9,q10,q11,q12⟩:=cl13 hBq;clear hBq;clear hA;go_simp<;>(try with_reducible rfl)
   refine R7.cd ?_ (fun T xs wr hA=>?_) ?_
   rotate_left
   ·have e5:=hA.pq 5;simp only[gsa,gsc,gsz] at e5;clear hA;go_simp<;>(try with_reducible rfl)
   refine R7.cd ?_ (fun T xs wr hA=>?_) ?_
   rotate_left
   ·have e46:=tr_ (hA.tq 6 46) (hA.fq 6)
    (try simp (disch:=decide) only [R7.mi] at e46)
    have hBq:wr.heap[kp]?=_:=(hA.bl _ hlt_p (fun q h=>absurd h (Nat.not_lt_zero _))).trans HBp.out;obtain⟨q0,q1,q2,q3,q4,q5,q6,q7,q8,q9,q10,q11,q12⟩:=cl13 hBq;clear hBq;clear hA;go_simp<;>(try with_reducible rfl)
   refine R7.Chain.done (fun xs w6 hL=>?_);obtain⟨⟨hbe,hbl⟩,hf,-,-⟩:=hL;have f0:xs 0=_:=hf 0 (by decide);have f1:xs 1=_:=hf 1 (by decide);have f2:xs 2=_:=hf 2 (by decide);have f3:xs 3=_:=hf 3 (by decide);have f4:xs 4=_:=hf 4 (by decide);have f5:xs 5=_:=hf 5 (by decide);have f6:xs 6=_:=hf 6 (by decide);have f7:xs 7=_:=hf 7 (by decide)
   (try simp (disch:=decide) only [R7.mi] at f0 f1 f2 f3 f4 f5 f6 f7)
   have hb:Below w5.heap.size w5 w6:=R7.b0_ hbe;clear hbe hbl hf;refine R7.rest_list (by decide) (by kernel_rfl) ?_;simp only[R7.fill,t1_,t2_,t3_,t4_,t5_,t6_,t7_,f0,f1,f2,f3,f4,f5,f6,f7];clear hlt_g hlt_p f0 f1 f2 f3 f4 f5 f6 f7;replace HBg:=kB hb HBg;replace HBe:=kB hb HBe;replace HBp:=kB hb HBp;replace HC:=h_ (HC.out.below hb);replace HF:=fb_ HF hb;clear hb;go_wp2_with (first | (at_mapUpdate;refine wp_update _ rfl _ _ _ 74 rfl 9 55 Tryz.underlying9 Tryz.underlying74 bs (scV sB.sc) rfl HC.out.sm (domV HDB.out) (Nat.lt_of_le_of_lt (by have:=HQL.out;omega) big_ok) pp.1.nm rfl HNM.out (iv pp.1.b) rfl ?_;intro wz hmz hgz) | fail)
   rw[<-scV_put] at hmz;replace HBg:=kG hgz HBg HGS.out;replace HBe:=kG hgz HBe;replace HBp:=kG hgz HBp;replace HF:=h_ (HF.out.trans (Fc.of_b hgz kg));replace HC:=h_ (HC.out.turn hgz hmz);clear hgz hmz;have hnx:=HNX.out;have e:kFPar F sj pp.1=⟨sB.sc.put pp.1.nm pp.1.b,sB.er⟩:=by unfold kFPar;simp only[<-HSA.out,<-HSB.out]
   have hdn:=kfpar_dom F sj pp.1 HDJ.out;rw[e] at hnx hdn;have HNX2:=h_ hnx;have HDN:=h_ hdn;clear hnx hdn e;go_roundw
   case rel=>exact⟨j+1,ev,⟨sB.sc.put pp.1.nm pp.1.b,sB.er⟩,by go_num,hi,HNX2,HDN,HC,HBe,HF⟩
   case measure=>simp[intOf];omega
  have hjj:j=qs.length:=by omega
  subst hjj;have hsj:=HSJ.out;rw[List.take_of_length_le (by rw[List.length_map];exact Nat.le_refl _),HQS.out] at hsj;have HSJ2:=h_ hsj;clear hsj hi HSJ;have c2:=cell_at (v:=.string ⟨f.res.nm.toArray⟩) HBe.out 2 rfl;have c3:=cell_at (v:=.int .i64 (f.res.b:Nat)) HBe.out 3 rfl;have c4:=cell_at (v:=.bool f.res.kn) HBe.out 4 rfl;have c5:=cell_at (v:=.int .i64 x.k) HBe.out 5 rfl;have c6:=cell_at (v:=.string x.nm) HBe.out 6 rfl;have c7:=cell_at (v:=.string x.ot) HBe.out 7 rfl;have c8:=cell_at (v:=.bool x.b) HBe.out 8 rfl;have c9:=cell_at (v:=.slice x.ao x.n x.c) HBe.out 9 rfl;have c10:=cell_at (v:=.slice x.ko x.kn x.kc) HBe.out 10 rfl;have c11:=cell_at (v:=.int .i64 x.ln) HBe.out 11 rfl;have c12:=cell_at (v:=.int .i64 x.cl) HBe.out 12 rfl;have c13:=cell_at (v:=.int .i64 (f.res.ln:Nat)) HBe.out 13 rfl
  have c14:=cell_at (v:=.int .i64 (f.res.cl:Nat)) HBe.out 14 rfl;have hks:=known_s HC.out f.res x S HU.out HRB.out.2.2.2.2 F (HKB.out true f.res.ref HRB.out.2.2.2.2 HW.out.2.1.1) qs.length HDJ.out (by have:=HW.out.2.1.2;have:=HQL.out;omega) HA.out;unfold pmV at hks;have HKS:=h_ hks;clear hks;go_wp2_with fail
  refine (HKS.out).mono ?_;rintro e w2 ⟨rfl,⟨ev,hC⟩,hF⟩;clear c2 c3 c4 c5 c6 c7 c8 c9 c10 c11 c12 c13 c14;replace HBe:=kF hF HBe;replace HF:=h_ (HF.out.trans hF);replace HC:=h_ hC;replace HBg:=h_ hC.blk;clear hC hF;obtain⟨sC,hsC⟩:∃ q,q=kKnown F f.res sj:=⟨_,rfl⟩
  rw[<-hsC] at HC;have HSC:=h_ hsC;have HDC:Hid (Dom sC.sc qs.length):=h_ (by rw[hsC,known_sc];exact HDJ.out);clear hsC;obtain⟨b0,hbb⟩:∃ x,x=(kEx F false f.body sC).1:=⟨_,rfl⟩
  obtain⟨s0,hss⟩:∃ x,x=(kEx F false f.body sC).2:=⟨_,rfl⟩
  have HBB0:=h_ hbb;have HSS0:=h_ hss;clear hbb hss
  have hl:y.ln=(f.body.ln:Nat)/\y.cl=(f.body.cl:Nat):=by
   have hv:=HV.out;obtain⟨fnm,fps,fres,⟨k,nm,ot,z,ln,cl,ks⟩,fln,fcl⟩:=f;rw[Um] at hv;obtain⟨⟨e1,e2,e3,e4,e5,e6⟩,_⟩:=hv;exact⟨e5,e6⟩
  have HLC:=h_ hl;clear hl;go_upto_region 11 with fail
  obtain⟨wA,hwA⟩:∃ q,q=w2.drew:=⟨_,rfl⟩
  have hbA:Below w2.heap.size w2 wA:=by rw[hwA];exact (Below.refl _ _).drew
  have HWA:=h_ hwA;clear hwA;replace HBg:=kB hbA HBg;replace HBe:=kB hbA HBe;replace HC:=h_ (HC.out.below hbA);replace HF:=fb_ HF hbA;clear hbA;obtain⟨val,hval⟩:∃ v:Nat->Value,v=fun j=>match j with | 0=>.pointer (some ⟨kg,0,none⟩) | 1=>.pointer (some ⟨ke,15,none⟩) | 2=>.agg #[.int .i64 y.k,.string y.nm,.string y.ot,.bool y.b,.slice y.ao y.n y.c,.slice y.ko y.kn y.kc,.int .i64 y.ln,.int .i64 y.cl] | 3=>.pointer (some ⟨kg,0,none⟩) | 4=>.pointer (some ⟨ke,15,none⟩) | 5=>.agg #[.int .i64 y.k,.string y.nm,.string y.ot,.bool y.b,.slice y.ao y.n y.c,.slice y.ko y.kn y.kc,.int .i64 y.ln,.int .i64 y.cl] | 6=>.int .i64 ((b0:Nat):Int) | 7=>.pointer (some ⟨ke,2,none⟩) | 8=>.pointer (some ⟨ke,3,none⟩) | 9=>.int .i64 ((f.res.b:Nat):Int) | 10=>.bool (((b0:Nat):Int)==((f.res.b:Nat):Int)) | _=>undef:=⟨_,rfl⟩
  have f0:val 0=.pointer (some ⟨kg,0,none⟩):=congrFun hval 0;have f1:val 1=.pointer (some ⟨ke,15,none⟩):=congrFun hval 1;have f2:val 2=.agg #[.int .i64 y.k,.string y.nm,.string y.ot,.bool y.b,.slice y.ao y.n y.c,.slice y.ko y.kn y.kc,.int .i64 y.ln,.int .i64 y.cl]:=congrFun hval 2;have f3:val 3=.pointer (some ⟨kg,0,none⟩):=congrFun hval 3;have f4:val 4=.pointer (some ⟨ke,15,none⟩):=congrFun hval 4;have f5:val 5=.agg #[.int .i64 y.k,.string y.nm,.string y.ot,.bool y.b,.slice y.ao y.n y.c,.slice y.ko y.kn y.kc,.int .i64 y.ln,.int .i64 y.cl]:=congrFun hval 5;have f6:val 6=.int .i64 ((b0:Nat):Int):=congrFun hval 6;have f7:val 7=.pointer (some ⟨ke,2,none⟩):=congrFun hval 7;have f8:val 8=.pointer (some ⟨ke,3,none⟩):=congrFun hval 8;have f9:val 9=.int .i64 ((f.res.b:Nat):Int):=congrFun hval 9
  have f10:val 10=.bool (((b0:Nat):Int)==((f.res.b:Nat):Int)):=congrFun hval 10;clear hval;obtain⟨Wd,hWd⟩:∃ f:Nat->World->Prop,f=fun s wc=>(s=0/\wc=wA)\/(s=1/\((∃ ev,Ck w0 wc kg bf bs Gv s0 false ev)/\Fc wA wc kg bs)):=⟨_,rfl⟩
  have HWa0:Hid (∀ wc,wc=wA->Wd 0 wc):=h_ (by rw[hWd];intro wc h;exact .inl ⟨rfl,h⟩);have HWb0:Hid (∀ wc,Wd 0 wc->wc=wA):=h_ (by rw[hWd];intro wc h;rcases h with ⟨_,h⟩ | ⟨e,_⟩<;>first | exact h | cases e);have HWa1:Hid (∀ wc,((∃ ev,Ck w0 wc kg bf bs Gv s0 false ev)/\Fc wA wc kg bs)->Wd 1 wc):=h_ (by rw[hWd];intro wc h;exact .inr (⟨rfl,h⟩));have HWb1:Hid (∀ wc,Wd 1 wc->((∃ ev,Ck w0 wc kg bf bs Gv s0 false ev)/\Fc wA wc kg bs)):=h_ (by rw[hWd];intro wc h;rcases h with ⟨e,_⟩ | ⟨_,h⟩<;>first | exact h | cases e)
  have HBLe:Hid (∀ s wc,Wd s wc->wc.heap[ke]?=some (.cells (fnC f v x y).toArray 59 (0,0))):=h_ (by
   rw[hWd];intro s wc h;rcases h with ⟨_,h⟩ | ⟨_,h⟩
   ·subst h;exact HBe.out
   exact (kF h.2 HBe (by omega) (by omega)).out)
  clear hWd;refine Rel11.region (by kernel_rfl) [[],[],[1],[],[],[4],[3,4,5],[],[7],[7,8],[3,4,5,6,7,8,9],[0,1,2,3,4,5,6,7,8,9,10]] 11 (by kernel_rfl) (by kernel_rfl) [6] (by kernel_rfl) val Wd (HWa0.out _ HWA.out.symm) ?_ ?_ ?_
  ·intro j o ho hj hcs
   match j,hj,ho,hcs with
   | 0,_,ho,_ =>
    simp only[gsz,gsc,Option.some.injEq] at ho;subst ho;refine⟨rfl,fun s wc T hW hT K hK=>?_⟩;have e0:=hT.pre 0 (by kernel_rfl);simp only[gsa,gsz] at e0;clear hT hW;refine wp_val (w':=wc) (v:=.pointer (some ⟨kg,0,none⟩)) ?_ (by rw[<-f0];exact hK.out);clear hK;go_simp<;>(try with_reducible rfl)
   | 1,_,ho,_ =>
    simp only[gsz,gsc,Option.some.injEq] at ho;subst ho;refine⟨rfl,fun s wc T hW hT K hK=>?_⟩;have e3:=hT.pre 3 (by kernel_rfl);simp only[gsa,gsc,gsz] at e3;clear hT hW;refine wp_val (w':=wc) (v:=.pointer (some ⟨ke,15,none⟩)) ?_ (by rw[<-f1];exact hK.out);clear hK;go_simp<;>(try with_reducible rfl)
   | 2,_,ho,_ =>
    simp only[gsz,gsc,Option.some.injEq] at ho;subst ho;refine⟨rfl,fun s wc T hW hT K hK=>?_⟩;have e54:=hT.tm 1 54 (by rfl) (by rfl);rw[f1] at e54;have hBq:=HBLe.out s wc hW;have q3:=cell_at (v:=.int .i64 (f.res.b:Nat)) hBq 3 rfl;have q15:=cell_at (v:=.int .i64 y.k) hBq 15 rfl;have q16:=cell_at (v:=.string y.nm) hBq 16 rfl;have q17:=cell_at (v:=.string y.ot) hBq 17 rfl;have q18:=cell_at (v:=.bool y.b) hBq 18 rfl;have q19:=cell_at (v:=.slice y.ao y.n y.c) hBq 19 rfl;have q20:=cell_at (v:=.slice y.ko y.kn y.kc) hBq 20 rfl;have q21:=cell_at (v:=.int .i64 y.ln) hBq 21 rfl;have q22:=cell_at (v:=.int .i64 y.cl) hBq 22 rfl;clear hBq;clear hT hW;refine wp_val (w':=wc) (v:=.agg #[.int .i64 y.k,.string y.nm,.string y.ot,.bool y.b,.slice y.ao y.n y.c,.slice y.ko y.kn y.kc,.int .i64 y.ln,.int .i64 y.cl]) ?_ (by rw[<-f2];exact hK.out)
    clear hK;go_simp<;>(try with_reducible rfl)
   | 3,_,ho,_ =>
    simp only[gsz,gsc,Option.some.injEq] at ho;subst ho;refine⟨rfl,fun s wc T hW hT K hK=>?_⟩;have e0:=hT.pre 0 (by kernel_rfl);simp only[gsa,gsz] at e0;clear hT hW;refine wp_val (w':=wc) (v:=.pointer (some ⟨kg,0,none⟩)) ?_ (by rw[<-f3];exact hK.out);clear hK;go_simp<;>(try with_reducible rfl)
   | 4,_,ho,_ =>
    simp only[gsz,gsc,Option.some.injEq] at ho;subst ho;refine⟨rfl,fun s wc T hW hT K hK=>?_⟩;have e3:=hT.pre 3 (by kernel_rfl);simp only[gsa,gsc,gsz] at e3;clear hT hW;refine wp_val (w':=wc) (v:=.pointer (some ⟨ke,15,none⟩)) ?_ (by rw[<-f4];exact hK.out);clear hK;go_simp<;>(try with_reducible rfl)
   | 5,_,ho,_ =>
    simp only[gsz,gsc,Option.some.injEq] at ho;subst ho;refine⟨rfl,fun s wc T hW hT K hK=>?_⟩;have e57:=hT.tm 4 57 (by rfl) (by rfl);rw[f4] at e57;have hBq:=HBLe.out s wc hW;have q3:=cell_at (v:=.int .i64 (f.res.b:Nat)) hBq 3 rfl;have q15:=cell_at (v:=.int .i64 y.k) hBq 15 rfl;have q16:=cell_at (v:=.string y.nm) hBq 16 rfl;have q17:=cell_at (v:=.string y.ot) hBq 17 rfl;have q18:=cell_at (v:=.bool y.b) hBq 18 rfl;have q19:=cell_at (v:=.slice y.ao y.n y.c) hBq 19 rfl;have q20:=cell_at (v:=.slice y.ko y.kn y.kc) hBq 20 rfl;have q21:=cell_at (v:=.int .i64 y.ln) hBq 21 rfl;have q22:=cell_at (v:=.int .i64 y.cl) hBq 22 rfl;clear hBq;clear hT hW;refine wp_val (w':=wc) (v:=.agg #[.int .i64 y.k,.string y.nm,.string y.ot,.bool y.b,.slice y.ao y.n y.c,.slice y.ko y.kn y.kc,.int .i64 y.ln,.int .i64 y.cl]) ?_ (by rw[<-f5];exact hK.out)
    clear hK;go_simp<;>(try with_reducible rfl)
   | 6,_,_,hcs=>exact absurd hcs (by decide)
   | 7,_,ho,_ =>
    simp only[gsz,gsc,Option.some.injEq] at ho;subst ho;refine⟨rfl,fun s wc T hW hT K hK=>?_⟩;have e3:=hT.pre 3 (by kernel_rfl);simp only[gsa,gsc,gsz] at e3;clear hT hW;refine wp_val (w':=wc) (v:=.pointer (some ⟨ke,2,none⟩)) ?_ (by rw[<-f7];exact hK.out);clear hK;go_simp<;>(try with_reducible rfl)
   | 8,_,ho,_ =>
    simp only[gsz,gsc,Option.some.injEq] at ho;subst ho;refine⟨rfl,fun s wc T hW hT K hK=>?_⟩;have e60:=hT.tm 7 60 (by rfl) (by rfl);rw[f7] at e60;clear hT hW;refine wp_val (w':=wc) (v:=.pointer (some ⟨ke,3,none⟩)) ?_ (by rw[<-f8];exact hK.out);clear hK;go_simp<;>(try with_reducible rfl)
   | 9,_,ho,_ =>
    simp only[gsz,gsc,Option.some.injEq] at ho;subst ho;refine⟨rfl,fun s wc T hW hT K hK=>?_⟩;have e61:=hT.tm 8 61 (by rfl) (by rfl);rw[f8] at e61;have hBq:=HBLe.out s wc hW;have q3:=cell_at (v:=.int .i64 (f.res.b:Nat)) hBq 3 rfl;have q15:=cell_at (v:=.int .i64 y.k) hBq 15 rfl;have q16:=cell_at (v:=.string y.nm) hBq 16 rfl;have q17:=cell_at (v:=.string y.ot) hBq 17 rfl;have q18:=cell_at (v:=.bool y.b) hBq 18 rfl;have q19:=cell_at (v:=.slice y.ao y.n y.c) hBq 19 rfl;have q20:=cell_at (v:=.slice y.ko y.kn y.kc) hBq 20 rfl;have q21:=cell_at (v:=.int .i64 y.ln) hBq 21 rfl;have q22:=cell_at (v:=.int .i64 y.cl) hBq 22 rfl;clear hBq;clear hT hW;refine wp_val (w':=wc) (v:=.int .i64 ((f.res.b:Nat):Int)) ?_ (by rw[<-f9];exact hK.out);clear hK;go_simp<;>(try with_reducible rfl)
   | 10,_,ho,_ =>
    simp only[gsz,gsc,Option.some.injEq] at ho;subst ho;refine⟨rfl,fun s wc T hW hT K hK=>?_⟩;have e59:=hT.tm 6 59 (by rfl) (by rfl);rw[f6] at e59;have e62:=hT.tm 9 62 (by rfl) (by rfl);rw[f9] at e62;clear hT hW;refine wp_val (w':=wc) (v:=.bool (((b0:Nat):Int)==((f.res.b:Nat):Int))) ?_ (by rw[<-f10];exact hK.out);clear hK;go_simp<;>(try with_reducible rfl)
   | j+11,hj,_,_=>exact absurd hj (by omega)
  ·intro i j o hi ho
   match i,hi with
   | 0,hi =>
    simp only[gsz,gsc,Option.some.injEq] at hi;subst hi;simp only[gsz,gsc,Option.some.injEq] at ho;subst ho;refine⟨rfl,fun wc T hW hT K hK=>?_⟩;have e56:=hT.tm 3 56 (by rfl) (by rfl);rw[f3] at e56;have e58:=hT.tm 5 58 (by rfl) (by rfl);rw[f5] at e58;have hWc:=HWb0.out wc hW;clear hW hT;have hK2:=hK.out;rw[f6] at hK2;replace hK:=h_ hK2;clear hK2;subst hWc;have hcs:=complete_s HC.out y f.body S HV.out HBB.out F (HKB.out false f.body HBB.out HW.out.2.2.1) qs.length HDC.out (by have:=HW.out.2.2.2;have:=HQL.out;omega) HA.out;rw[<-HBB0.out,<-HSS0.out] at hcs;simp only[xv,iv] at hcs;go_simp
    refine hcs.mono ?_;rintro e w' ⟨rfl,hp⟩;exact hK.out _ (HWa1.out _ hp)
   | i+1,hi=>simp at hi
  intro wx hWx;have hWy:=HWb1.out wx hWx;clear hWx HWa0 HWb0 HWa1 HWb1 HBLe;simp only[R7.fill,t1_,t2_,t3_,t4_,t5_,t6_,t7_,f0,f1,f2,f3,f4,f5,f6,f7,f8,f9,f10];clear f0 f1 f2 f3 f4 f5 f6 f7 f8 f9 f10;obtain⟨⟨ev2,hC⟩,hF⟩:=hWy;replace HC:=h_ hC;replace HBg:=h_ hC.blk;replace HBe:=kF hF HBe;replace HF:=h_ (HF.out.trans hF);clear hC hF
  try clear ev
  obtain⟨ev,hev⟩:∃ x,x=ev2:=⟨_,rfl⟩
  rw[<-hev] at HC HBg;clear hev
  try clear ev2
  go_wp2_with fail
  refine (need_p HC.out y f.body.ln f.body.cl HLC.out.1 HLC.out.2 (((b0:Nat):Int)==((f.res.b:Nat):Int)) 4).mono ?_;rintro e w3 ⟨rfl,⟨ev,hC⟩,hF⟩;replace HBe:=kF hF HBe;replace HF:=h_ (HF.out.trans hF);replace HC:=h_ hC;replace HBg:=h_ hC.blk;clear hC hF;rw[nbeq] at HC;go_wp2_with fail
  have e:kFun F f s.er=s0.need f.body.ln f.body.cl (b0==f.res.b) 4:=by
   unfold kFun;simp only;rw[<-HFP.out,HSJ2.out,<-HSC.out,<-HBB0.out,<-HSS0.out]
  rw[e];exact bodyPost_end (results_none Tryz.results39 _ _ _) rfl ⟨rfl,⟨ev,HC.out⟩,HF.out⟩
theorem qual_s {w0 w:World} {kg bf bs:Nat} {Gv:Bs->Option Value} {s:Ks} {ev:Value} (h:Ck w0 w kg bf bs Gv s false ev) (q:QlU) (v:Value) (x:X) (S:Nat->Prop) (hp:PmsAt w0 S v q.ps) (hu:Um w0 S x q.body) (hb:QlB q) (F:Fs) (hK:AllOk F Gv w0) (hl:q.ps.length<=100000) (hw:uw q.body<=1000000/\ud q.body<=100000000000) (hA:ArT w0) :
  Calls Tryz.prog 37 #[.pointer (some ⟨kg,0,none⟩),.agg (qlC q v x).toArray] w fun e w'=>e=.returned (.tuple #[])/\CkP w0 w kg bf bs Gv (kQual F q s.er) false w':=by
 have HPS:=h_ hp;have HU:=h_ hu;have HPB:=h_ hb.2.1;have HBB:=h_ hb.2.2.1;have HKB:=h_ hK;have HPL:=h_ hl;have HW:=h_ hw;have HA:=h_ hA;obtain⟨ps,hps⟩:∃ z,z=q.ps:=⟨_,rfl⟩
 rw[<-hps] at HPS HPB HPL;have HFP:=h_ hps;clear hp hu hb hK hl hw hA hps;have HC:=h_ h;have HBg:=h_ h.blk;have HF:Hid (Fc w w kg bs):=h_ (Fc.refl _ _ _);clear h;have hgs:kg≠bs:=HC.out.gs;have HGS:=h_ hgs;clear hgs;obtain⟨A,hA⟩:∃ z,z=qlC q v x:=⟨_,rfl⟩
 rw[<-hA];have HAA:=h_ hA;clear hA;go_enter Tryz.func37,Tryz.ntmps37
 go_upto_region 1 with fail
 obtain⟨w1,ke,hw,hkk,hb,hs1,HBe⟩:=newb w A.toArray 78;have hge:=lk_ hkk HBg;have hse:bs<ke:=by rw[hkk];exact HC.out.sm.lt
 have hee:w.heap.size<=ke:=by rw[hkk];exact HF.out.size
 rw[hw,<-hkk];replace HBg:=kB hb HBg;replace HC:=h_ (HC.out.below hb);replace HF:=fb_ HF hb;clear hw hb hkk hs1;rw[HAA.out] at HBe;obtain⟨g0,g1,g2,g3⟩:=cl4 HBg.out;go_upto_region 2 with (first | (refine wp_clear _ rfl _ 74 rfl 9 55 Tryz.underlying74 bs (scV s.sc) rfl HC.out.sm ?_;intro wz hmz hgz) | fail)
 have hmz2:MapIs Tryz.prog 9 wz bs (scV sc0):=hmz;clear hmz;clear g0 g1 g2 g3;replace HBg:=kG hgz HBg HGS.out;replace HBe:=kG hgz HBe;replace HF:=h_ (HF.out.trans (Fc.of_b hgz kg));replace HC:=h_ (HC.out.turn hgz hmz2);clear hgz hmz2;have hst:Dom sc0 0:=Dom.nil;have HD0:=h_ hst;clear hst;obtain⟨qs,hqs,hat⟩:=HPS.out;obtain⟨ko,kc,hv,⟨hk1,hk2⟩,-,hel⟩:=hat;have HQS:=h_ hqs;have HEL:=h_ hel;have HVV:=h_ hv;have hkl:qs.length<=9223372036854775807:=Nat.le_trans hk1 hk2;have HQL:Hid (qs.length<=100000):=h_ (by have:=HPL.out;rw[<-HQS.out,List.length_map] at this;exact this);clear hqs hel hk1 hk2;have q1:=cell_at (v:=v) HBe.out 1 rfl;rw[HVV.out] at q1;clear hv;go_wp2_with fail
 clear q1
 go_loopw [13] (fun i wr=>∃ (j:Nat) (ev:Value) (sj:Ks),i=.int .i64 (j:Nat)/\j<=qs.length/\Hid (((qs.map Prod.fst).take j).foldl (kQPar) ⟨sc0,s.er⟩=sj)/\Hid (Dom sj.sc j)/\Hid (Ck w0 wr kg bf bs Gv sj false ev)/\Hid (wr.heap[ke]?=some (.cells (qlC q v x).toArray 78 (0,0)))/\Hid (Fc w wr kg bs)) (fun i _=>qs.length - (intOf i).toNat)
 case atStart=>exact⟨0,ev,⟨sc0,s.er⟩,rfl,Nat.zero_le _,h_ rfl,HD0,HC,HBe,HF⟩
 case round =>
  obtain⟨wl,hwl⟩:∃ q,q=wr:=⟨_,rfl⟩
  subst hwl;clear HC HBe HF HBg HD0
  try clear ev
  obtain⟨j,ev,sj,rfl,hj,HSJ,HDJ,HC,HBe,HF⟩:=hrel;have HBg:=h_ HC.out.blk
  by_cases hi:j<qs.length
  ·obtain⟨⟨a,rfl,hc⟩,hUm⟩:=HEL.out j hi;have hbw0:=HC.out.bw;obtain⟨z0,z1,z2,z3,z4,z5,z6,z7,z8,z9,z10,z11,z12⟩:=cells13 (w:=wl) (p:=a.add (j*13)) (q:=qs[j].1) (x:=qs[j].2) (fun q v hv=>by have:=hc q v hv;rw[show (a.add (j*13)).add q=(a.add (j*pmE.n)).add q from rfl,hbw0.cell (cell_lt this)];exact this);have hUm2:Um w0 S qs[j].2 qs[j].1.ref:=hUm;obtain⟨hjp,hpj⟩:=map_fst_get HQS.out hi;have hpm:qs[j].1 ∈ ps:=by rw[<-hpj];exact List.getElem_mem hjp
   have hnx:((qs.map Prod.fst).take (j+1)).foldl (kQPar) ⟨sc0,s.er⟩=(kQPar) sj qs[j].1:=by rw[foldl_take _ _ j (by rw[List.length_map];exact hi),HSJ.out,List.getElem_map]
   obtain⟨pp,hpp⟩:∃ q,q=qs[j]:=⟨_,rfl⟩
   rw[<-hpp] at z0 z1 z2 z3 z4 z5 z6 z7 z8 z9 z10 z11 z12 hUm2 hpm hnx;have HUP:=h_ hUm2;have HPM:=h_ hpm;have HNX:=h_ hnx;clear hpp hc hbw0 hUm hUm2 hpj hpm hnx hjp;go_upto_region 5 with fail
   have hel2:ke<wl.heap.size:=lt_of_block HBe.out;clear z0 z1 z2 z3 z4 z5 z6 z7 z8 z9 z10 z11 z12;obtain⟨w2,kp,hw,hkk,hb,hs1,HBp⟩:=newb wl #[.string ⟨pp.1.nm.toArray⟩,.int .i64 (pp.1.b:Nat),.bool pp.1.kn,.int .i64 pp.2.k,.string pp.2.nm,.string pp.2.ot,.bool pp.2.b,.slice pp.2.ao pp.2.n pp.2.c,.slice pp.2.ko pp.2.kn pp.2.kc,.int .i64 pp.2.ln,.int .i64 pp.2.cl,.int .i64 (pp.1.ln:Nat),.int .i64 (pp.1.cl:Nat)] 57;have hgp:=lk_ hkk HBg;have hsp:bs<kp:=by rw[hkk];exact HC.out.sm.lt
   have hep:w.heap.size<=kp:=by rw[hkk];exact HF.out.size
   have he_p:=lk_ hkk HBe;rw[hw,<-hkk];replace HBg:=kB hb HBg;replace HBe:=kB hb HBe;replace HC:=h_ (HC.out.below hb);replace HF:=fb_ HF hb;clear hw hb hkk hs1;have HNM:Hid (pp.1.nm.length<=maxLen):=h_ (nm_ok (HPB.out _ HPM.out).1);have hgs:=HGS.out;have hlt_g:=lt_of_block HBg.out;have hlt_p:=lt_of_block HBp.out;have hog:Hid (∀ q,q<1->(fun q=>bs) q<w2.heap.size):=h_ (fun q _=>by show bs<_;exact HC.out.sm.lt);refine R7.region (by kernel_rfl) [[],[],[1],[1,2],[1,2,3],[],[5],[],[7],[1,2,3,4,5,6,7,8],[],[10],[],[12],[0,1,2,3,4,5,6,7,8,9,10,11,12,13]] [] [(9,1000)] (fun q=>bs) 1 14 (by kernel_rfl) (by kernel_rfl) (by rfl) hog.out (fun q q' h h' hn=>absurd hn (by omega)) ?_;refine R7.cd ?_ (fun T xs wr hA=>?_) ?_
   rotate_left
   ·have e0:=hA.pq 0;simp only[gsa,gsz] at e0;clear hA;go_simp<;>(try with_reducible rfl)
   refine R7.cd ?_ (fun T xs wr hA=>?_) ?_
   rotate_left
   ·have e0:=hA.pq 0;simp only[gsa,gsz] at e0;clear hA;go_simp<;>(try with_reducible rfl)
   refine R7.cd ?_ (fun T xs wr hA=>?_) ?_
   rotate_left
   ·have e18:=tr_ (hA.tq 1 18) (hA.fq 1)
    (try simp (disch:=decide) only [R7.mi] at e18)
    clear hA;go_simp<;>(try with_reducible rfl)
   refine R7.cd ?_ (fun T xs wr hA=>?_) ?_
   rotate_left
   ·have e19:=tr_ (hA.tq 2 19) (hA.fq 2)
    (try simp (disch:=decide) only [R7.mi] at e19)
    clear hA;go_simp<;>(try with_reducible rfl)
   refine R7.cd ?_ (fun T xs wr hA=>?_) ?_
   rotate_left
   ·have e20:=tr_ (hA.tq 3 20) (hA.fq 3)
    (try simp (disch:=decide) only [R7.mi] at e20)
    have hBq:wr.heap[kg]?=_:=(hA.bl _ hlt_g (fun q _=>by show bs≠kg;omega)).trans HBg.out;obtain⟨q0,q1,q2,q3⟩:=cl4 hBq;clear hBq;clear hA;go_simp<;>(try with_reducible rfl)
   refine R7.cd ?_ (fun T xs wr hA=>?_) ?_
   rotate_left
   ·have e5:=hA.pq 5;simp only[gsa,gsc,gsz] at e5;clear hA;go_simp<;>(try with_reducible rfl)
   refine R7.cd ?_ (fun T xs wr hA=>?_) ?_
   rotate_left
   ·have e22:=tr_ (hA.tq 5 22) (hA.fq 5)
    (try simp (disch:=decide) only [R7.mi] at e22)
    have hBq:wr.heap[kp]?=_:=(hA.bl _ hlt_p (fun q _=>by show bs≠kp;omega)).trans HBp.out;obtain⟨q0,q1,q2,q3,q4,q5,q6,q7,q8,q9,q10,q11,q12⟩:=cl13 hBq;clear hBq;clear hA;go_simp<;>(try with_reducible rfl)
   refine R7.cd ?_ (fun T xs wr hA=>?_) ?_
   rotate_left
   ·have e5:=hA.pq 5;simp only[gsa,gsc,gsz] at e5;clear hA;go_simp<;>(try with_reducible rfl)
   refine R7.cd ?_ (fun T xs wr hA=>?_) ?_
   rotate_left
   ·have e24:=tr_ (hA.tq 7 24) (hA.fq 7)
    (try simp (disch:=decide) only [R7.mi] at e24)
    have hBq:wr.heap[kp]?=_:=(hA.bl _ hlt_p (fun q _=>by show bs≠kp;omega)).trans HBp.out;obtain⟨q0,q1,q2,q3,q4,q5,q6,q7,q8,q9,q10,q11,q12⟩:=cl13 hBq;clear hBq;clear hA;go_simp<;>(try with_reducible rfl)
   refine R7.Chain.callOld 0 (fun xs v w=>v=.bool (scV sj.sc pp.1.nm).isNone/\MapIs Tryz.prog 9 w bs (addM (scV sj.sc) pp.1.nm (iv pp.1.b))) (fun _ _ _ _ ⟨h1,h2⟩ hb=>⟨h1,h2.keep (hb.block _ h2.lt)⟩) (fun _ _ _ _ q' _ hq hne _=>absurd rfl hne) (by rfl) (by rfl) (by decide) (R7.own_one (by rfl)) (fun T xs wr hA hold=>?_) ?_
   ·have hsw:=(hA.be 0 (Nat.zero_le _) (fun _ _=>Nat.zero_le _)).size;have e21:=tr_ (hA.tq 4 21) (hA.fq 4);have e23:=tr_ (hA.tq 6 23) (hA.fq 6);have e25:=tr_ (hA.tq 8 25) (hA.fq 8)
    (try simp (disch:=decide) only [R7.mi] at e21 e23 e25)
    have HMW:=h_ (HC.out.sm.keep hold);clear hA;refine⟨(by rfl),fun K hK=>?_⟩;go_simp
    refine (addB_p bs (scV sj.sc) pp.1.nm pp.1.b wr HMW.out HNM.out (domV HDJ.out) (Nat.lt_of_le_of_lt (by have:=HQL.out;omega) big_ok)).mono ?_;rintro e w' ⟨rfl,hm,hg⟩;exact hK.out _ _ ⟨rfl,hm⟩ (R7.Priv.of hg)
   refine R7.cd ?_ (fun T xs wr hA=>?_) ?_
   rotate_left
   ·have e5:=hA.pq 5;simp only[gsa,gsc,gsz] at e5;clear hA;go_simp<;>(try with_reducible rfl)
   refine R7.cd ?_ (fun T xs wr hA=>?_) ?_
   rotate_left
   ·have e27:=tr_ (hA.tq 10 27) (hA.fq 10)
    (try simp (disch:=decide) only [R7.mi] at e27)
    have hBq:wr.heap[kp]?=_:=(hA.bl _ hlt_p (fun q _=>by show bs≠kp;omega)).trans HBp.out;obtain⟨q0,q1,q2,q3,q4,q5,q6,q7,q8,q9,q10,q11,q12⟩:=cl13 hBq;clear hBq;clear hA;go_simp<;>(try with_reducible rfl)
   refine R7.cd ?_ (fun T xs wr hA=>?_) ?_
   rotate_left
   ·have e5:=hA.pq 5;simp only[gsa,gsc,gsz] at e5;clear hA;go_simp<;>(try with_reducible rfl)
   refine R7.cd ?_ (fun T xs wr hA=>?_) ?_
   rotate_left
   ·have e29:=tr_ (hA.tq 12 29) (hA.fq 12)
    (try simp (disch:=decide) only [R7.mi] at e29)
    have hBq:wr.heap[kp]?=_:=(hA.bl _ hlt_p (fun q _=>by show bs≠kp;omega)).trans HBp.out;obtain⟨q0,q1,q2,q3,q4,q5,q6,q7,q8,q9,q10,q11,q12⟩:=cl13 hBq;clear hBq;clear hA;go_simp<;>(try with_reducible rfl)
   refine R7.Chain.done (fun xs w3 hL=>?_);obtain⟨⟨hbe,hbl⟩,hf,-,-⟩:=hL;have f0:xs 0=_:=hf 0 (by decide);have f1:xs 1=_:=hf 1 (by decide);have f2:xs 2=_:=hf 2 (by decide);have f3:xs 3=_:=hf 3 (by decide);have f4:xs 4=_:=hf 4 (by decide);have f5:xs 5=_:=hf 5 (by decide);have f6:xs 6=_:=hf 6 (by decide);have f7:xs 7=_:=hf 7 (by decide);have f8:xs 8=_:=hf 8 (by decide);have F9:(xs 9)=.bool (scV sj.sc pp.1.nm).isNone/\MapIs Tryz.prog 9 w3 bs (addM (scV sj.sc) pp.1.nm (iv pp.1.b)):=hf 9 (by decide);have f10:xs 10=_:=hf 10 (by decide);have f11:xs 11=_:=hf 11 (by decide);have f12:xs 12=_:=hf 12 (by decide);have f13:xs 13=_:=hf 13 (by decide)
   (try simp (disch:=decide) only [R7.mi] at f0 f1 f2 f3 f4 f5 f6 f7 f8 f10 f11 f12 f13)
   have hb0:Below 0 w2 w3:=undrew (hbe 0 (Nat.zero_le _) (fun _ _=>Nat.zero_le _));have hgr:∀ j,j<w2.heap.size->(∀ q,q<1->(fun q=>bs) q≠j)->w3.heap[j]?=w2.heap[j]?:=hbl;clear hbe hbl hf;obtain⟨hv,hm⟩:=F9;have hg:w2.grownBy w3 (some bs):=⟨hb0.os,hb0.tape,hb0.output,hb0.size,fun k hk hn=>hgr k hk (fun q _ e=>hn (by rw[<-e]))⟩
   rw[scV_none] at hv;refine R7.rest_list (by decide) (by kernel_rfl) ?_;simp only[R7.fill,t1_,t2_,t3_,t4_,t5_,t6_,t7_,f0,f1,f2,f3,f4,f5,f6,f7,f8,f10,f11,f12,f13];simp only[hv];rw[addM_sc] at hm;clear hog hv hb0 hgr hgs hlt_p hlt_g f0 f1 f2 f3 f4 f5 f6 f7 f8 f10 f11 f12 f13;replace HBg:=kG hg HBg HGS.out;replace HBe:=kG hg HBe;replace HBp:=kG hg HBp;replace HF:=h_ (HF.out.trans (Fc.of_b hg kg));replace HC:=h_ (HC.out.turn hg hm);clear hg hm;go_wp2_with fail
   refine (require_p HC.out (sj.sc pp.1.nm).isNone pp.1.ln pp.1.cl 3).mono ?_;rintro e w4 ⟨rfl,⟨ev,hC⟩,hF⟩;replace HBe:=kF hF HBe;replace HBp:=kF hF HBp;replace HF:=h_ (HF.out.trans hF);replace HC:=h_ hC;replace HBg:=h_ hC.blk;clear hC hF;have hnx:=HNX.out;have hdn:=kqpar_dom sj pp.1 HDJ.out;have e:kQPar sj pp.1=⟨if (sj.sc pp.1.nm).isNone then sj.sc.put pp.1.nm pp.1.b else sj.sc,req sj.er (sj.sc pp.1.nm).isNone pp.1.ln pp.1.cl 3⟩:=rfl;obtain⟨sA,hsA⟩:∃ q,q=kQPar sj pp.1:=⟨_,rfl⟩
   rw[<-hsA] at hnx hdn;have hC2:Ck w0 w4 kg bf bs Gv sA false ev:=by rw[hsA,e];exact HC.out
   have HNX2:=h_ hnx;have HDN:=h_ hdn;replace HC:=h_ hC2;clear hnx hdn e hsA hC2;go_wp2_with fail
   go_roundw
   case rel=>exact⟨j+1,ev,sA,by go_num,hi,HNX2,HDN,HC,HBe,HF⟩
   case measure=>simp[intOf];omega
  have hjj:j=qs.length:=by omega
  subst hjj;have hsj:=HSJ.out;rw[List.take_of_length_le (by rw[List.length_map];exact Nat.le_refl _),HQS.out] at hsj;have HSJ2:=h_ hsj;clear hsj hi HSJ;have c2:=cell_at (v:=.int .i64 x.k) HBe.out 2 rfl;have c3:=cell_at (v:=.string x.nm) HBe.out 3 rfl;have c4:=cell_at (v:=.string x.ot) HBe.out 4 rfl;have c5:=cell_at (v:=.bool x.b) HBe.out 5 rfl;have c6:=cell_at (v:=.slice x.ao x.n x.c) HBe.out 6 rfl;have c7:=cell_at (v:=.slice x.ko x.kn x.kc) HBe.out 7 rfl;have c8:=cell_at (v:=.int .i64 x.ln) HBe.out 8 rfl;have c9:=cell_at (v:=.int .i64 x.cl) HBe.out 9 rfl;have hks:=predicate_s HC.out x q.body S HU.out HBB.out F (HKB.out true q.body HBB.out HW.out.1) qs.length HDJ.out (by have:=HW.out.2;have:=HQL.out;omega) HA.out;simp only[xv] at hks;have HKS:=h_ hks;clear hks;go_wp2_with fail
  refine (HKS.out).mono ?_;rintro e w2 ⟨rfl,⟨ev,hC⟩,hF⟩;clear c2 c3 c4 c5 c6 c7 c8 c9;replace HBe:=kF hF HBe;replace HF:=h_ (HF.out.trans hF);replace HC:=h_ hC;replace HBg:=h_ hC.blk;clear hC hF;go_wp2_with fail
  have e:kQual F q s.er=kPred F q.body sj:=by
   unfold kQual;rw[<-HFP.out,HSJ2.out]
  rw[e];exact bodyPost_end (results_none Tryz.results37 _ _ _) rfl ⟨rfl,⟨ev,HC.out⟩,HF.out⟩
theorem res_cell2 {P:Program} {fn:Func} {T:Array Value} {w:World} {t u:Tmp} {ty:TypeId} (hr:fn.results=#[.cell t ty,.tmp u]) {p:Addr} (hT:T[t]?=some (.pointer (some p))) (cs:List Value) {d:TypeDesc} (hc:∀ j v,cs[j]?=some v->w.cell? (p.add j)=some v)
  (hu:P.underlying ty=some d) (hd:d.isRow=true) (hi:(P.info? ty).map (·.size)=some cs.length):(results fn T).run P w=.ok (.tuple #[.agg cs.toArray,T.getD u undef]) w:=by
 have hl:=run_loadCells_list (P:=P) w p cs hc
 cases hq:P.info? ty with
 | none=>simp[hq] at hi
 | some i =>
  have hs:i.size=cs.length:=by simpa [hq] using hi
  have hagg:(isAgg ty).run P w=.ok true w:=by
   unfold isAgg;rw[Sem.run_bind,run_underlying hu w]
   cases d<;>simp_all
  rw[results_cell_tmp hr];rw[Array.getD_eq_getD_getElem?,hT]
  simp[go_sem,asAddr,loadVar,Sem.run_bind,hagg,sizeOf,typeInfo,hq,hs,Result.andThen]
  simp[loadCells] at hl
  rw[hl]
theorem main_none {fs:List Fd} {n:Nat} (h:∀ i (hi:i<fs.length),i<n->fs[i].q.nm≠wMain) (hn:fs.length<=n):(fs.map Fd.q).any (·.nm==wMain)=false:=by
 rw[List.any_eq_false];intro f hf;obtain⟨d,hd,rfl⟩:=List.mem_map.1 hf;obtain⟨i,hi,rfl⟩:=List.mem_iff_getElem.1 hd
 simpa using h i hi (by omega)
theorem main_some {fs:List Fd} {j:Nat} (hj:j<fs.length) (h:∀ i (hi:i<fs.length),i<j->fs[i].q.nm≠wMain) (hm:fs[j].q.nm=wMain):(fs.map Fd.q).find? (·.nm==wMain)=some fs[j].q:=by
 rw[List.find?_eq_some_iff_append];refine⟨by simpa using hm,(fs.map Fd.q).take j,(fs.map Fd.q).drop (j+1),?_,?_⟩
 ·have h1:j<(fs.map Fd.q).length:=by rw[List.length_map];exact hj
  have h2:=List.take_append_drop j (fs.map Fd.q);rw[List.drop_eq_getElem_cons h1,List.getElem_map] at h2;exact h2.symm
 intro a ha;obtain⟨i,hi,rfl⟩:=List.mem_iff_getElem.1 ha;rw[List.length_take,List.length_map] at hi;rw[List.getElem_take,List.getElem_map]
 simpa using h i (by omega) (by omega)
def MainIs (w:World) (S:Nat->Prop) (p:PgU) (A:List Value):Prop:=A.length=25/\(∀ u ∈ A,u.oneCell'=true)/\match p.fs.find? (·.nm==wMain) with
 | none=>True
 | some f=>∃ v x y,A=fnC f v x y/\Um w S x f.res.ref/\Um w S y f.body/\PmsAt w S v f.ps
theorem has_find (p:PgU):hasMain p=(p.fs.find? (·.nm==wMain)).isSome:=by
 unfold hasMain;rw[Bool.eq_iff_iff,List.any_eq_true,List.find?_isSome]
theorem main_s (w:World) (S:Nat->Prop) (vq vf:Value) (p:PgU) (hp:ProgAt w S vq vf p) :
  Calls Tryz.prog 38 #[.agg #[vq,vf]] w fun e w'=>∃ A,e=.returned (.tuple #[.agg A.toArray,.bool (hasMain p)])/\Below w.heap.size w w'/\MainIs w S p A:=by
 obtain⟨qs,fs,hqs,hfs,-,hat⟩:=hp;obtain⟨ko,kc,hv,⟨hk1,hk2⟩,-,hel⟩:=hat;have HFS:=h_ hfs;have HEL:=h_ hel;subst hv;have hkl:fs.length<=9223372036854775807:=Nat.le_trans hk1 hk2;clear hqs hfs hel hk1 hk2;have HBW0:=h_ (Below.refl w.heap.size w);go_enter Tryz.func38,Tryz.ntmps38
 go_upto_region 1 with fail
 obtain⟨w1,ke,hw,hkk,hb,hs1,HBe⟩:=newb w #[vq,.slice ko fs.length kc] 26;rw[hw,<-hkk,<-hs1];have hke:w.heap.size<=ke:=by rw[hkk];exact Nat.le_refl _
 replace HBW0:=h_ (HBW0.out.trans (hb.mono HBW0.out.size));clear hw hb hkk hs1;obtain⟨w2,kr,hw,hkk,hb,hs1,HBr⟩:=newb w1 #[.string ⟨#[]⟩,.slice none 0 0,.string ⟨#[]⟩,.int .i64 0,.bool false,.int .i64 0,.string ⟨#[]⟩,.string ⟨#[]⟩,.bool false,.slice none 0 0,.slice none 0 0,.int .i64 0,.int .i64 0,.int .i64 0,.int .i64 0,.int .i64 0,.string ⟨#[]⟩,.string ⟨#[]⟩,.bool false,.slice none 0 0,.slice none 0 0,.int .i64 0,.int .i64 0,.int .i64 0,.int .i64 0] 59;have he_r:=lk_ hkk HBe;rw[hw,<-hkk];replace HBe:=kB hb HBe;have hkr:w.heap.size<=kr:=by rw[hkk];exact HBW0.out.size
 replace HBW0:=h_ (HBW0.out.trans (hb.mono HBW0.out.size));clear hw hb hkk hs1;obtain⟨c0,c1⟩:=cl2 HBe.out;go_wp2_with fail
 clear c0 c1
 go_loopw [9] (fun i wr=>∃ (j:Nat),i=.int .i64 (j:Nat)/\j<=fs.length/\Hid (∀ i (hi:i<fs.length),i<j->fs[i].q.nm≠wMain)/\Hid (wr.heap[ke]?=some (.cells #[vq,.slice ko fs.length kc] 26 (0,0)))/\Hid (wr.heap[kr]?=some (.cells #[.string ⟨#[]⟩,.slice none 0 0,.string ⟨#[]⟩,.int .i64 0,.bool false,.int .i64 0,.string ⟨#[]⟩,.string ⟨#[]⟩,.bool false,.slice none 0 0,.slice none 0 0,.int .i64 0,.int .i64 0,.int .i64 0,.int .i64 0,.int .i64 0,.string ⟨#[]⟩,.string ⟨#[]⟩,.bool false,.slice none 0 0,.slice none 0 0,.int .i64 0,.int .i64 0,.int .i64 0,.int .i64 0] 59 (0,0)))/\Hid (Below w.heap.size w wr)) (fun i _=>fs.length - (intOf i).toNat)
 case atStart=>exact⟨0,rfl,Nat.zero_le _,h_ (fun _ _ h=>absurd h (Nat.not_lt_zero _)),HBe,HBr,HBW0⟩
 case round =>
  obtain⟨wl,hwl⟩:∃ q,q=wr:=⟨_,rfl⟩
  subst hwl;clear HBe HBr HBW0;obtain⟨j,rfl,hj,HNO,HBe,HBr,HBW⟩:=hrel
  by_cases hi:j<fs.length
  ·obtain⟨hAt,hRj⟩:=HEL.out j hi;obtain⟨⟨q,v,px,py⟩,hqd⟩:∃ z,z=fs[j]:=⟨_,rfl⟩
   rw[<-hqd] at hAt hRj;obtain⟨hone,hux,huy,hpm⟩:=hRj;have hone2:v.oneCell'=true:=hone;have e25:fnE.f ⟨q,v,px,py⟩=fnC q v px py:=if_pos hone2;have hAt2:AtN 25 w ko j (fnC q v px py):=by rw[<-e25];exact hAt
   obtain⟨B,hB⟩:∃ z,z=fnC q v px py:=⟨_,rfl⟩
   rw[<-hB] at hAt2;obtain⟨a,rfl,hc⟩:=hAt2;have hcb:∀ i u,B[i]?=some u->wl.cell? ((a.add (j*25)).add i)=some u:=fun i u hu=>by have:=hc i u hu;rw[HBW.out.cell (cell_lt this)];exact this
   have HCB:=h_ hcb;have HB1:Hid (B.length=25):=h_ (by rw[hB];rfl);have HB2:Hid (∀ u ∈ B,u.oneCell'=true):=h_ (by rw[hB];exact fnC_one hone2);have HBD:=h_ hB;have HQD:=h_ hqd;have HUX:=h_ (show Um w S px q.res.ref from hux);have HUY:=h_ (show Um w S py q.body from huy);have HPM:=h_ (show PmsAt w S v q.ps from hpm);clear hAt hux huy hpm hone hone2 e25 hc hcb hB hqd;have hwl_e:ke<wl.heap.size:=lt_of_block HBe.out;have hwl_r:kr<wl.heap.size:=lt_of_block HBr.out;go_upto_region 3 with fail
   refine wp_region_lit ?_;refine wpList_plain rfl fun K0 hK0=>?_
   go_simp
   refine hK0 _ _ ?_;clear hK0;refine wpList_plain rfl fun K0 hK0=>?_
   refine wp_load_row 59 (.tmp 11) rfl _ rfl B _ HCB.out Tryz.underlying59 rfl (by rw[HB1.out];kernel_rfl) ?_;refine hK0 _ _ ?_;clear hK0;refine wpList_plain rfl fun K0 hK0=>?_
   go_simp
   refine hK0 _ _ ?_;clear hK0;refine wpList_plain rfl fun K0 hK0=>?_
   refine wp_store_row 59 (.tmp 5) (.tmp 12) rfl wl.heap.size B.toArray rfl rfl 59 _ (heap_alloc_last wl _) (by rw[List.size_toArray,HB1.out];kernel_rfl) (by rw[show B.toArray.size=25 from by rw[List.size_toArray];exact HB1.out];rfl) (by rw[List.all_toArray];exact List.all_eq_true.2 HB2.out) ?_;rw[World.setRow_alloc_new];refine hK0 _ _ ?_;clear hK0;go_upto_region 4 with fail
   obtain⟨w3,kf,hw,hkk,hb,hs1,HBf⟩:=newb wl B.toArray 59;have he_f:=lk_ hkk HBe;have hr_f:=lk_ hkk HBr;rw[hw,<-hkk];replace HBe:=kB hb HBe;replace HBr:=kB hb HBr;replace HBW:=bw_ HBW hb;clear hw hb hkk hs1;have hb0:B.toArray[0]?=some (.string ⟨q.nm.toArray⟩):=by rw[HBD.out];rfl
   have q0:=cell_at (v:=.string ⟨q.nm.toArray⟩) HBf.out 0 hb0;clear hb0
   by_cases hm:q.nm=wMain
   ·have hmb:(q.nm==wMain)=true:=by rw[hm];rfl
    have HM:=h_ hm;clear hm;unfold wMain at hmb;go_upto_region 5 with fail
    refine wp_region_lit ?_;refine wpList_plain rfl fun K0 hK0=>?_
    refine wp_load_row 59 (.tmp 5) rfl ⟨kf,0,none⟩ rfl B _ (fun j v hv=>by rw[add_lit,Nat.zero_add];exact cell_at HBf.out j (by rw[gsa];exact hv)) Tryz.underlying59 rfl (by rw[HB1.out];kernel_rfl) ?_;refine hK0 _ _ ?_;clear hK0;obtain⟨wz,hw⟩:∃ x,x=w3.setRow kr B.toArray:=⟨_,rfl⟩
    refine wpList_plain rfl fun K0 hK0=>?_
    refine wp_store_row 59 (.tmp 2) (.tmp 16) rfl kr B.toArray rfl rfl 59 _ HBr.out (by rw[List.size_toArray,HB1.out];kernel_rfl) (by rw[show B.toArray.size=25 from by rw[List.size_toArray];exact HB1.out];rfl) (by rw[List.all_toArray];exact List.all_eq_true.2 HB2.out) ?_;rw[<-hw];refine hK0 _ _ ?_;clear hK0;have hg:w3.grownBy wz (some kr):=by rw[hw];exact grown_setRow _ _ _
    have hv:wz.heap[kr]?=some (.cells B.toArray 59 (0,0)):=by rw[hw];exact setRow_heap _ _ _ _ _ _ HBr.out
    have HBZ:=h_ hv;have HBX:Hid (Below w.heap.size w wz):=h_ ⟨hg.os.trans HBW.out.os,hg.tape.trans HBW.out.tape,hg.output.trans HBW.out.output,Nat.le_trans HBW.out.size hg.size,fun i hi=>(hg.block i (by have:=HBW.out.size;omega) (fun e=>by injection e with e;omega)).trans (HBW.out.block i hi)⟩;clear hw hg hv q0 hmb;go_wp2_with fail
    have hfd:=main_some hi HNO.out (by rw[<-HQD.out];exact HM.out);rw[HFS.out,<-HQD.out] at hfd;have hhm:hasMain p=true:=by rw[has_find,hfd];rfl
    refine bodyPost_ret (v:=.tuple #[.agg B.toArray,.bool true]) (res_cell2 Tryz.results38 (by rfl) B (fun j v hv=>by rw[add_lit,Nat.zero_add];exact cell_at HBZ.out j (by rw[gsa];exact hv)) Tryz.underlying59 rfl (by rw[HB1.out];kernel_rfl)) rfl ?_;refine⟨B,by rw[hhm],HBX.out,HB1.out,HB2.out,?_⟩;rw[hfd];exact⟨v,px,py,HBD.out,HUX.out,HUY.out,HPM.out⟩
   have hmb:(q.nm==wMain)=false:=beq_eq_false_iff_ne.2 hm;have HM:=h_ hm;clear hm;unfold wMain at hmb;go_wp2_with fail
   go_roundw
   case rel=>exact⟨j+1,by go_num,hi,h_ (fun i hi2 h=>by
    rcases Nat.lt_succ_iff_lt_or_eq.1 h with h | h
    ·exact HNO.out i hi2 h
    subst h;rw[<-HQD.out];exact HM.out),HBe,HBr,HBW⟩
   case measure=>simp[intOf];omega
  have hjj:fs.length<=j:=by omega
  obtain⟨A,hA⟩:∃ A:List Value,A=[.string ⟨#[]⟩,.slice none 0 0,.string ⟨#[]⟩,.int .i64 0,.bool false,.int .i64 0,.string ⟨#[]⟩,.string ⟨#[]⟩,.bool false,.slice none 0 0,.slice none 0 0,.int .i64 0,.int .i64 0,.int .i64 0,.int .i64 0,.int .i64 0,.string ⟨#[]⟩,.string ⟨#[]⟩,.bool false,.slice none 0 0,.slice none 0 0,.int .i64 0,.int .i64 0,.int .i64 0,.int .i64 0]:=⟨_,rfl⟩
  go_upto_region 7 with fail
  refine wp_region_lit ?_;refine wpList_plain rfl fun K0 hK0=>?_
  refine wp_build_any 59 _ (.agg #[.string ⟨#[]⟩,.slice none 0 0,.string ⟨#[]⟩,.int .i64 0,.bool false,.int .i64 0,.string ⟨#[]⟩,.string ⟨#[]⟩,.bool false,.slice none 0 0,.slice none 0 0,.int .i64 0,.int .i64 0,.int .i64 0,.int .i64 0,.int .i64 0,.string ⟨#[]⟩,.string ⟨#[]⟩,.bool false,.slice none 0 0,.slice none 0 0,.int .i64 0,.int .i64 0,.int .i64 0,.int .i64 0]) rfl _ rfl (by kernel_rfl) ?_;refine hK0 _ _ ?_;clear hK0;refine wpList_plain rfl fun K0 hK0=>?_
  refine wp_store_row 59 (.tmp 2) (.tmp 18) rfl kr #[.string ⟨#[]⟩,.slice none 0 0,.string ⟨#[]⟩,.int .i64 0,.bool false,.int .i64 0,.string ⟨#[]⟩,.string ⟨#[]⟩,.bool false,.slice none 0 0,.slice none 0 0,.int .i64 0,.int .i64 0,.int .i64 0,.int .i64 0,.int .i64 0,.string ⟨#[]⟩,.string ⟨#[]⟩,.bool false,.slice none 0 0,.slice none 0 0,.int .i64 0,.int .i64 0,.int .i64 0,.int .i64 0] rfl rfl 59 _ HBr.out (by kernel_rfl) rfl (by simp[Value.oneCell']) ?_
  rw[show wl.setRow kr #[.string ⟨#[]⟩,.slice none 0 0,.string ⟨#[]⟩,.int .i64 0,.bool false,.int .i64 0,.string ⟨#[]⟩,.string ⟨#[]⟩,.bool false,.slice none 0 0,.slice none 0 0,.int .i64 0,.int .i64 0,.int .i64 0,.int .i64 0,.int .i64 0,.string ⟨#[]⟩,.string ⟨#[]⟩,.bool false,.slice none 0 0,.slice none 0 0,.int .i64 0,.int .i64 0,.int .i64 0,.int .i64 0]=wl from setRow_self _ _ _ _ _ HBr.out];refine hK0 _ _ ?_;clear hK0;go_wp2_with fail
  have hno:=main_none HNO.out hjj;rw[HFS.out] at hno;have hhm:hasMain p=false:=hno;have hfd:p.fs.find? (·.nm==wMain)=none:=by have h:=has_find p;rw[hhm] at h;cases hx:p.fs.find? (·.nm==wMain) with | none=>rfl | some y=>rw[hx] at h;cases h
  refine bodyPost_ret (v:=.tuple #[.agg #[.string ⟨#[]⟩,.slice none 0 0,.string ⟨#[]⟩,.int .i64 0,.bool false,.int .i64 0,.string ⟨#[]⟩,.string ⟨#[]⟩,.bool false,.slice none 0 0,.slice none 0 0,.int .i64 0,.int .i64 0,.int .i64 0,.int .i64 0,.int .i64 0,.string ⟨#[]⟩,.string ⟨#[]⟩,.bool false,.slice none 0 0,.slice none 0 0,.int .i64 0,.int .i64 0,.int .i64 0,.int .i64 0],.bool false]) (res_cell2 Tryz.results38 (by rfl) [.string ⟨#[]⟩,.slice none 0 0,.string ⟨#[]⟩,.int .i64 0,.bool false,.int .i64 0,.string ⟨#[]⟩,.string ⟨#[]⟩,.bool false,.slice none 0 0,.slice none 0 0,.int .i64 0,.int .i64 0,.int .i64 0,.int .i64 0,.int .i64 0,.string ⟨#[]⟩,.string ⟨#[]⟩,.bool false,.slice none 0 0,.slice none 0 0,.int .i64 0,.int .i64 0,.int .i64 0,.int .i64 0] (fun j v hv=>by rw[add_lit,Nat.zero_add];exact cell_at HBr.out j (by rw[gsa];exact hv)) Tryz.underlying59 rfl (by kernel_rfl)) rfl ?_
  refine⟨[.string ⟨#[]⟩,.slice none 0 0,.string ⟨#[]⟩,.int .i64 0,.bool false,.int .i64 0,.string ⟨#[]⟩,.string ⟨#[]⟩,.bool false,.slice none 0 0,.slice none 0 0,.int .i64 0,.int .i64 0,.int .i64 0,.int .i64 0,.int .i64 0,.string ⟨#[]⟩,.string ⟨#[]⟩,.bool false,.slice none 0 0,.slice none 0 0,.int .i64 0,.int .i64 0,.int .i64 0,.int .i64 0],by rw[hhm],HBW.out,rfl,by decide,?_⟩;rw[hfd]
  trivial
theorem base_all {w0:World} {Gv:Bs->Option Value} {G:Gfn} {SG:Nat->Prop} (hG:GvOk w0 SG Gv G) (rf:Bool):∀ (d:Nat) (u:U),ud u<=d->Bnd u->uw u<=1000000->BaseOk G.fs Gv rf w0 u
 | 0,u,hd,_,_=>by obtain⟨k,nm,ot,z,ln,cl,ks⟩:=u;rw[ud] at hd;omega
 | d+1,u,hd,hb,hw=>fun x S w kg bf bs s ev n hu hB h hD hn =>
  base_s h G SG hG x u S hu hB (Nat.le_trans (uw_len u) hw) (fun j hj=>by
   have hk:ud u.ks[j]<=d:=by
    obtain⟨k,nm,ot,z,ln,cl,ks⟩:=u;rw[ud] at hd;have:=uds_mem (List.getElem_mem (l:=ks) hj)
    show ud ks[j]<=d
    omega
   have hbk:Bnd u.ks[j]:=by
    obtain⟨k,nm,ot,z,ln,cl,ks⟩:=u;rw[Bnd] at hb;exact bnds_mem hb.2.2.2 (List.getElem_mem hj)
   exact base_all hG rf d u.ks[j] hk hbk (Nat.le_trans (uw_kid u hj) hw)) n hD hn
theorem all_ok {w0:World} {Gv:Bs->Option Value} {G:Gfn} {SG:Nat->Prop} (hG:GvOk w0 SG Gv G):AllOk G.fs Gv w0:=fun rf u hb hw=>base_all hG rf (ud u) u (Nat.le_refl _) hb hw
theorem gv_none (w0:World) (SG:Nat->Prop):GvOk w0 SG (fun _=>none) g0:=fun nm=>rfl
theorem gv_shape {w0:World} {SG:Nat->Prop} {Gv:Bs->Option Value} {G:Gfn} (h:GvOk w0 SG Gv G):∀ n u,Gv n=some u->∃ B:List Value,B.length=25/\(∀ v ∈ B,v.oneCell'=true)/\u=.agg B.toArray:=by
 intro n u hu;have hg:=h n
 cases hn:G n with
 | none=>rw[hn] at hg;simp only at hg;rw[hg] at hu;cases hu
 | some f =>
  rw[hn] at hg;obtain⟨v,x,y,h1,h2,h3⟩:=hg;rw[h1] at hu;injection hu with hu;exact⟨fnC f v x y,rfl,fnC_one h2.one,hu.symm⟩
theorem gv_has {w0:World} {SG:Nat->Prop} {Gv:Bs->Option Value} {G:Gfn} (h:GvOk w0 SG Gv G) (n:Bs):(Gv n).isNone=(G n).isNone:=by
 have hg:=h n
 cases hn:G n with
 | none=>rw[hn] at hg;simp only at hg;rw[hg];rfl
 | some f=>rw[hn] at hg;obtain⟨v,x,y,h1,-⟩:=hg;rw[h1];rfl
theorem gv_add {w0:World} {SG:Nat->Prop} {Gv:Bs->Option Value} {G:Gfn} (h:GvOk w0 SG Gv G) (f:FnU) (v:Value) (x y:X) (hp:PmsAt w0 SG v f.ps) (hl:f.ps.length<=100000):GvOk w0 SG (addM Gv f.nm (.agg (fnC f v x y).toArray)) (G.add f):=by
 intro n;unfold addM Gfn.add;have hh:=gv_has h f.nm
 cases hg:G f.nm with
 | some g =>
  rw[hg] at hh;have h1:(Gv f.nm).isSome=true:=by cases hx:Gv f.nm with | none=>rw[hx] at hh;cases hh | some y=>rfl
  simp only[Option.isSome_some,if_true,h1];exact h n
 | none =>
  rw[hg] at hh;have h1:(Gv f.nm).isSome=false:=by cases hx:Gv f.nm with | none=>rfl | some y=>rw[hx] at hh;cases hh
  simp only[Option.isSome_none,Bool.false_eq_true,if_false,h1]
  by_cases hn:n=f.nm
  ·rw[if_pos hn,if_pos hn];exact⟨v,x,y,rfl,hp,hl⟩
  rw[if_neg hn,if_neg hn];exact h n
theorem domV_add {m:Bs->Option Value} {N:Nat} (h:DomV m N) (n:Bs) (v:Value):DomV (addM m n v) (N+1):=by
 obtain⟨L,h1,h2⟩:=h;refine⟨n::L,by simp;omega,fun x hx=>?_⟩;unfold addM at hx
 split at hx
 ·exact List.mem_cons_of_mem _ (h2 x hx)
 by_cases e:x=n
 ·subst e;simp
 simp only[if_neg e] at hx;exact List.mem_cons_of_mem _ (h2 x hx)
theorem domV_nil:DomV (fun _=>none) 0:=⟨[],Nat.le_refl _,fun x h=>by cases h⟩
def QmOk (Qm:Bs->Option Value) (L:List Bs):Prop:=(∀ n,(Qm n).isSome=L.contains n)/\∀ n u,Qm n=some u->∃ B:List Value,B.length=12/\(∀ v ∈ B,v.oneCell'=true)/\u=.agg B.toArray
theorem qm_nil:QmOk (fun _=>none) []:=⟨fun n=>rfl,fun n u h=>by cases h⟩
theorem qm_add {Qm:Bs->Option Value} {L:List Bs} (h:QmOk Qm L) (n:Bs) (B:List Value) (h1:B.length=12) (h2:∀ v ∈ B,v.oneCell'=true):QmOk (addM Qm n (.agg B.toArray)) (if L.contains n then L else n::L):=by
 refine⟨fun x=>?_,fun x u hu=>?_⟩
 ·have hh:=h.1 n;unfold addM
  cases hc:L.contains n with
  | true=>rw[hc] at hh;simp only[hh,if_true];exact h.1 x
  | false =>
   rw[hc] at hh;simp only[hh,Bool.false_eq_true,if_false];rw[List.contains_cons]
   by_cases e:x=n
   ·subst e;simp
   rw[if_neg e,h.1 x,beq_eq_false_iff_ne.2 e,Bool.false_or]
 unfold addM at hu
 split at hu
 ·exact h.2 x u hu
 by_cases e:x=n
 ·simp only[if_pos e] at hu;injection hu with hu;exact⟨B,h1,h2,hu.symm⟩
 simp only[if_neg e] at hu;exact h.2 x u hu
theorem qlC_one {q:QlU} {v:Value} {x:X} (h:v.oneCell'=true):∀ u ∈ qlC q v x,u.oneCell'=true:=by
 intro u hu;simp only[qlC,List.mem_cons,List.not_mem_nil,or_false] at hu;rcases hu with rfl | rfl | rfl | rfl | rfl | rfl | rfl | rfl | rfl | rfl | rfl | rfl<;>first | rfl | exact h
theorem isn_con {Qm:Bs->Option Value} {L:List Bs} (h:QmOk Qm L) (n:Bs):(Qm n).isNone = !L.contains n:=by rw[<-h.1 n];cases Qm n<;>rfl
theorem ck_ownM {w0 w w':World} {g bf bs:Nat} {Gv:Bs->Option Value} {s:Ks} {rf:Bool} {ev:Value} (h:Ck w0 w g bf bs Gv s rf ev) {k:Nat} {m:Bs->Option Value} (hk:MapIs Tryz.prog 9 w k m) (h1:k≠bf) (h2:k≠bs) (hB:w0.heap.size<=k) (hgr:w.grownBy w' (some k)):Ck w0 w' g bf bs Gv s rf ev:=by
 obtain⟨n,D,⟨es,clock,hc,-⟩,-⟩:=hk;have key:∀ q,q<w.heap.size->q≠k->w'.heap[q]?=w.heap[q]?:=fun q hq hn=>hgr.block q hq (fun e=>hn (by injection e))
 have hg:g≠k:=by rintro rfl;rw[h.blk] at hc;cases hc
 exact⟨⟨hgr.os.trans h.bw.os,hgr.tape.trans h.bw.tape,hgr.output.trans h.bw.output,Nat.le_trans h.bw.size hgr.size,fun q hq=>(key q (by have:=h.bw.size;omega) (by omega)).trans (h.bw.block q hq)⟩,h.gB,h.fB,h.sB,h.ne,(key _ (lt_of_block h.blk) hg).trans h.blk,h.fm.keep (key _ h.fm.lt (fun e=>h1 e.symm)),h.sm.keep (key _ h.sm.lt (fun e=>h2 e.symm)),h.er.keep fun q c' T' hc' _=>key q (lt_of_block hc') (fun e=>by
   subst e;rw[hc'] at hc;cases hc)⟩
theorem map_ne {w:World} {k q:Nat} {m:Bs->Option Value} {c:Array Value} {T:TypeId} {fz:Nat × Nat} {P:Program} {t:TypeId} (h:MapIs P t w k m) (hq:w.heap[q]?=some (.cells c T fz)):k≠q:=by
 obtain⟨n,D,⟨es,clock,hc,-⟩,-⟩:=h;rintro rfl;rw[hc] at hq;cases hq
theorem newChecker_s (w:World):Calls Tryz.prog 17 #[] w fun e w'=>∃ kg bf bs,e=.returned (.pointer (some ⟨kg,0,none⟩))/\Ck w w' kg bf bs (fun _=>none) ⟨sc0,none⟩ false .nilIface/\Below w.heap.size w w':=by
 have hmm:=@run_makeMap Tryz.prog;go_enter Tryz.func17,Tryz.ntmps17
 go_wp2_with fail
 go_ret
 have m1:=MapIs.made w Tryz.prog 9;have m2:=MapIs.made (w.alloc (.map #[] 0)) Tryz.prog 9;have b1:Below w.heap.size w (w.alloc (.map #[] 0)):=(Below.refl _ _).alloc (Nat.le_refl _) _;have b2:Below (w.alloc (.map #[] 0)).heap.size (w.alloc (.map #[] 0)) ((w.alloc (.map #[] 0)).alloc (.map #[] 0)):=(Below.refl _ _).alloc (Nat.le_refl _) _;obtain⟨w1,hw1⟩:∃ q,q=w.alloc (.map #[] 0):=⟨_,rfl⟩
 have z1:w1.heap.size=w.heap.size+1:=by rw[hw1];simp
 rw[<-hw1] at m1 m2 b1 b2 ⊢;obtain⟨w2,hw2⟩:∃ q,q=w1.alloc (.map #[] 0):=⟨_,rfl⟩
 have z2:w2.heap.size=w1.heap.size+1:=by rw[hw2];simp
 rw[<-hw2] at m2 b2 ⊢;rw[<-z1,<-z2];obtain⟨w3,k,hw,hkk,hb,hs1,HB⟩:=newb w2 #[.map (some w.heap.size),.map (some w1.heap.size),.bool false,.nilIface] 76;rw[hw];have hbb:Below w.heap.size w w3:=b1.trans ((b2.mono b1.size).trans (hb.mono (by omega)));refine⟨w2.heap.size,w.heap.size,w1.heap.size,rfl,⟨hbb,by omega,Nat.le_refl _,by omega,by omega,by rw[<-hkk];exact HB.out,?_,?_,rfl⟩,hbb⟩
 ·exact (m1.keep (b2.block _ (by omega))).keep (hb.block _ (by omega))
 exact m2.keep (hb.block _ (by omega))
theorem ProgAt.belowW {w w':World} {S:Nat->Prop} {vq vf:Value} {p:PgU} (h:ProgAt w S vq vf p) (hb:Below w.heap.size w w'):ProgAt w' S vq vf p:=h.below hb
def PgSz (p:PgU):Prop:=((∀ q ∈ p.qs,q.ps.length<=100000)/\∀ f ∈ p.fs,f.ps.length<=100000)/\p.qs.length<=100000/\p.fs.length<=100000
def PgDp (p:PgU):Prop:=(∀ q ∈ p.qs,uw q.body<=1000000/\ud q.body<=100000000000)/\∀ f ∈ p.fs,(∀ x ∈ f.ps,uw x.ref<=1000000/\ud x.ref<=100000000000)/\(uw f.res.ref<=1000000/\ud f.res.ref<=100000000000)/\uw f.body<=1000000/\ud f.body<=100000000000
theorem program_s {w0 w:World} {kg bf bs:Nat} {s:Ks} {ev:Value} (h:Ck w0 w kg bf bs (fun _=>none) s false ev) (hs0:s.er=none) (S:Nat->Prop) (vq vf:Value) (p:PgU) (hp:ProgAt w0 S vq vf p) (hb:PgB p) (hw:PgDp p) (hn:PgSz p) (hA:ArT w0) :
  Calls Tryz.prog 18 #[.pointer (some ⟨kg,0,none⟩),.agg #[vq,vf]] w fun e w'=>e=.returned (.tuple #[])/\∃ ev' s' Gv',Ck w0 w' kg bf bs Gv' s' false ev'/\s'.er=kProg p:=by
 have HPB:=h_ hb;have HWD:=h_ hw;have HCN:=h_ hn;have HA:=h_ hA;have HPA:=h_ hp;obtain⟨qs,fs,hqs,hfs,hqa,hfa⟩:=hp;obtain⟨qo,qc,hvq,⟨hq1,hq2⟩,-,hqe⟩:=hqa;obtain⟨ko,kc,hvf,⟨hf1,hf2⟩,-,hfe⟩:=hfa;have HQS:=h_ hqs;have HFS:=h_ hfs;have HQE:=h_ hqe;have HEL:=h_ hfe;subst hvq;subst hvf;have hql:qs.length<=9223372036854775807:=Nat.le_trans hq1 hq2;have hfl:fs.length<=9223372036854775807:=Nat.le_trans hf1 hf2;clear hqs hfs hqe hfe hq1 hq2 hf1 hf2 hb hw hn hA;have HQN:Hid (qs.length<=100000):=h_ (by have:=HCN.out.2.1;rw[<-HQS.out,List.length_map] at this;exact this);have HFN:Hid (fs.length<=100000):=h_ (by have:=HCN.out.2.2;rw[<-HFS.out,List.length_map] at this;exact this);have HC:=h_ h;have HBg:=h_ h.blk;have HF:Hid (Fc w w kg bs):=h_ (Fc.refl _ _ _);clear h;have hgs:kg≠bs:=HC.out.gs;have HGS:=h_ hgs
 clear hgs;have HW0:=h_ HC.out.bw.size;have HGB:=h_ HC.out.gB;go_enter Tryz.func18,Tryz.ntmps18
 go_upto_region 1 with fail
 obtain⟨w1,ke,hw,hkk,hb,hs1,HBe⟩:=newb w #[.slice qo qs.length qc,.slice ko fs.length kc] 26;have hge:=lk_ hkk HBg;have hse:bs<ke:=by rw[hkk];exact HC.out.sm.lt
 have hee:w.heap.size<=ke:=by rw[hkk];exact HF.out.size
 rw[hw,<-hkk];replace HBg:=kB hb HBg;replace HC:=h_ (HC.out.below hb);replace HF:=fb_ HF hb;clear hw hb hkk hs1;obtain⟨wM,hwM⟩:∃ q,w1.alloc (.map #[] 0)=q:=⟨_,rfl⟩
 obtain⟨bq,hbq⟩:∃ q,w1.heap.size=q:=⟨_,rfl⟩
 have hbM:Below w1.heap.size w1 wM:=by rw[<-hwM];exact (Below.refl _ _).alloc (Nat.le_refl _) _
 have hmq:MapIs Tryz.prog 9 wM bq (fun _=>none):=by rw[<-hwM,<-hbq];exact MapIs.made _ _ _
 have hqg:kg<bq:=by rw[<-hbq];exact lt_of_block HBg.out
 have hqs1:bs<bq:=by rw[<-hbq];exact HC.out.sm.lt
 have hqf:bf<bq:=by rw[<-hbq];exact HC.out.fm.lt
 have heq1:ke<bq:=by rw[<-hbq];exact lt_of_block HBe.out
 have hwq:w.heap.size<=bq:=by rw[<-hbq];exact HF.out.size
 have HBM:=h_ hbM;have HMQ:=h_ hmq;have HZW:=h_ hbq;clear hbM hmq;have hmm:=@run_makeMap Tryz.prog;go_upto_region 2 with fail
 clear hwM hbq hmm;replace HBg:=kB HBM.out HBg;replace HBe:=kB HBM.out HBe;replace HC:=h_ (HC.out.below HBM.out);replace HF:=h_ (HF.out.trans (Fc.of_below HBM.out _ _));clear HBM HZW;obtain⟨c0,c1⟩:=cl2 HBe.out;go_wp2_with fail
 clear c0 c1;have HQ0:=h_ qm_nil;have HDQ:=h_ domV_nil
 go_loopw [17] (fun i wr=>∃ (j:Nat) (ev:Value) (sj:Ks) (L:List Bs) (Qm:Bs->Option Value),i=.int .i64 (j:Nat)/\j<=qs.length/\Hid (((qs.map Qd.q).take j).foldl (kQStep g0.fs) ([],none)=(L,sj.er))/\Hid (QmOk Qm L)/\Hid (DomV Qm j)/\Hid (MapIs Tryz.prog 9 wr bq Qm)/\Hid (Ck w0 wr kg bf bs (fun _=>none) sj false ev)/\Hid (wr.heap[ke]?=some (.cells #[.slice qo qs.length qc,.slice ko fs.length kc] 26 (0,0)))) (fun i _=>qs.length - (intOf i).toNat)
 case atStart=>exact⟨0,ev,s,[],fun _=>none,rfl,Nat.zero_le _,h_ (by rw[hs0];rfl),HQ0,HDQ,HMQ,HC,HBe⟩
 case round =>
  obtain⟨wl,hwl⟩:∃ q,q=wr:=⟨_,rfl⟩
  subst hwl;clear HMQ HC HBe HF HBg HQ0 HDQ
  try clear ev
  obtain⟨j,ev,sj,L,Qm,rfl,hj,HST,HQO,HDQ,HMQ,HC,HBe⟩:=hrel;have HBg:=h_ HC.out.blk;have HF:Hid (Fc wl wl kg bs):=h_ (Fc.refl _ _ _)
  by_cases hi:j<qs.length
  ·obtain⟨hAt,hRj⟩:=HQE.out j hi;have hpm:(qs[j]).q ∈ p.qs:=by rw[<-HQS.out];exact List.mem_map_of_mem (List.getElem_mem hi)
   have hnx:((qs.map Qd.q).take (j+1)).foldl (kQStep g0.fs) ([],none)=kQStep g0.fs (L,sj.er) qs[j].q:=by rw[foldl_take _ _ j (by rw[List.length_map];exact hi),HST.out,List.getElem_map]
   obtain⟨⟨q,v,px⟩,hqd⟩:∃ z,z=qs[j]:=⟨_,rfl⟩
   rw[<-hqd] at hAt hRj hpm hnx;obtain⟨hone,hux,hpm2⟩:=hRj;have hone2:v.oneCell'=true:=hone;have e12:qlE.f ⟨q,v,px⟩=qlC q v px:=if_pos hone2;have hAt2:AtN 12 w0 qo j (qlC q v px):=by rw[<-e12];exact hAt
   obtain⟨B,hB⟩:∃ z,z=qlC q v px:=⟨_,rfl⟩
   rw[<-hB] at hAt2;obtain⟨a,rfl,hc⟩:=hAt2;have hcb:∀ i u,B[i]?=some u->wl.cell? ((a.add (j*12)).add i)=some u:=fun i u hu=>by have:=hc i u hu;rw[HC.out.bw.cell (cell_lt this)];exact this
   have HCB:=h_ hcb;have HB1:Hid (B.length=12):=h_ (by rw[hB];rfl);have HB2:Hid (∀ u ∈ B,u.oneCell'=true):=h_ (by rw[hB];exact qlC_one hone2);have HBD:=h_ hB;have HUX:=h_ (show Um w0 S px q.body from hux);have HPM:=h_ (show PmsAt w0 S v q.ps from hpm2);have HPP:=h_ (show q ∈ p.qs from hpm);have HNX:=h_ (show _=kQStep g0.fs (L,sj.er) q from hnx);clear hAt hux hpm hpm2 hone hone2 e12 hc hcb hB hqd hnx;have hqz:bq<wl.heap.size:=HMQ.out.lt;have HMQ0:=HMQ;go_upto_region 4 with fail
   refine wp_region_lit ?_;refine wpList_plain rfl fun K0 hK0=>?_
   go_simp
   refine hK0 _ _ ?_;clear hK0;refine wpList_plain rfl fun K0 hK0=>?_
   refine wp_load_row 78 (.tmp 19) rfl _ rfl B _ HCB.out Tryz.underlying78 rfl (by rw[HB1.out];kernel_rfl) ?_;refine hK0 _ _ ?_;clear hK0;refine wpList_plain rfl fun K0 hK0=>?_
   go_simp
   refine hK0 _ _ ?_;clear hK0;refine wpList_plain rfl fun K0 hK0=>?_
   refine wp_store_row 78 (.tmp 6) (.tmp 20) rfl wl.heap.size B.toArray rfl rfl 78 _ (heap_alloc_last wl _) (by rw[List.size_toArray,HB1.out];kernel_rfl) (by rw[show B.toArray.size=12 from by rw[List.size_toArray];exact HB1.out];rfl) (by rw[List.all_toArray];exact List.all_eq_true.2 HB2.out) ?_;rw[World.setRow_alloc_new];refine hK0 _ _ ?_;clear hK0;go_upto_region 5 with fail
   obtain⟨w2,kq,hw,hkk,hb,hs1,HBq⟩:=newb wl B.toArray 78;have hgq:=lk_ hkk HBg;have hsq:bs<kq:=by rw[hkk];exact HC.out.sm.lt
   have heq:wl.heap.size<=kq:=by rw[hkk];exact HF.out.size
   have he_q:=lk_ hkk HBe;rw[hw,<-hkk];replace HBg:=kB hb HBg;replace HBe:=kB hb HBe;replace HC:=h_ (HC.out.below hb);replace HF:=fb_ HF hb;replace HMQ:=h_ (HMQ.out.keep (hb.block _ HMQ.out.lt));have hbq_q:bq<kq:=by rw[hkk];exact HMQ0.out.lt
   clear hw hb hkk hs1 HMQ0;have HBq2:Hid (w2.heap[kq]?=some (.cells #[.string ⟨q.nm.toArray⟩,v,.int .i64 px.k,.string px.nm,.string px.ot,.bool px.b,.slice px.ao px.n px.c,.slice px.ko px.kn px.kc,.int .i64 px.ln,.int .i64 px.cl,.int .i64 (q.ln:Nat),.int .i64 (q.cl:Nat)] 78 (0,0))):=h_ (by have h:=HBq.out;rw[HBD.out] at h;exact h);clear HBq;have HBq:=HBq2;clear HBq2;have HNM:Hid (q.nm.length<=maxLen):=h_ (nm_ok (HPB.out.1 _ HPP.out).1);have hqe2:kq≠bq:=by omega
   have hlt_q:=lt_of_block HBq.out;have hog:Hid (∀ q,q<1->(fun q=>bq) q<w2.heap.size):=h_ (fun q _=>by show bq<_;exact HMQ.out.lt);refine R7.region (by kernel_rfl) [[],[],[],[2],[],[1,2,3,4],[],[6],[],[8],[0,1,2,3,4,5,6,7,8,9]] [] [(5,1000)] (fun q=>bq) 1 10 (by kernel_rfl) (by kernel_rfl) (by rfl) hog.out (fun q q' h h' hn=>absurd hn (by omega)) ?_;refine R7.cd ?_ (fun T xs wr hA=>?_) ?_
   rotate_left
   ·have e0:=hA.pq 0;simp only[gsa,gsz] at e0;clear hA;go_simp<;>(try with_reducible rfl)
   refine R7.cd ?_ (fun T xs wr hA=>?_) ?_
   rotate_left
   ·have e4:=hA.pq 4;simp only[gsa,gsc,gsz] at e4;clear hA;go_simp<;>(try with_reducible rfl)
   refine R7.cd ?_ (fun T xs wr hA=>?_) ?_
   rotate_left
   ·have e6:=hA.pq 6;simp only[gsa,gsc,gsz] at e6;clear hA;go_simp<;>(try with_reducible rfl)
   refine R7.cd ?_ (fun T xs wr hA=>?_) ?_
   rotate_left
   ·have e23:=tr_ (hA.tq 2 23) (hA.fq 2)
    (try simp (disch:=decide) only [R7.mi] at e23)
    have hBq:wr.heap[kq]?=_:=(hA.bl _ hlt_q (fun q _=>by show bq≠kq;omega)).trans HBq.out;obtain⟨q0,q1,q2,q3,q4,q5,q6,q7,q8,q9,q10,q11⟩:=cl12 hBq;clear hBq;clear hA;go_simp<;>(try with_reducible rfl)
   refine R7.cd ?_ (fun T xs wr hA=>?_) ?_
   rotate_left
   ·have e6:=hA.pq 6;simp only[gsa,gsc,gsz] at e6;have hBq:wr.heap[kq]?=_:=(hA.bl _ hlt_q (fun q _=>by show bq≠kq;omega)).trans HBq.out;obtain⟨q0,q1,q2,q3,q4,q5,q6,q7,q8,q9,q10,q11⟩:=cl12 hBq;clear hBq;clear hA;go_simp<;>(try with_reducible rfl)
   refine R7.Chain.callOld 0 (fun xs v w=>v=.bool (Qm q.nm).isNone/\MapIs Tryz.prog 9 w bq (addM Qm q.nm (.agg B.toArray))) (fun _ _ _ _ ⟨h1,h2⟩ hb=>⟨h1,h2.keep (hb.block _ h2.lt)⟩) (fun _ _ _ _ q' _ hq hne _=>absurd rfl hne) (by rfl) (by rfl) (by decide) (R7.own_one (by rfl)) (fun T xs wr hA hold=>?_) ?_
   ·have hsw:=(hA.be 0 (Nat.zero_le _) (fun _ _=>Nat.zero_le _)).size;have e22:=tr_ (hA.tq 1 22) (hA.fq 1);have e24:=tr_ (hA.tq 3 24) (hA.fq 3);have e25:=tr_ (hA.tq 4 25) (hA.fq 4)
    (try simp (disch:=decide) only [R7.mi] at e22 e24 e25)
    have HMW:=h_ (HMQ.out.keep hold);clear hA;refine⟨(by rfl),fun K hK=>?_⟩;go_simp
    have hcs:=addQ_p bq Qm q.nm B HB1.out HB2.out wr HMW.out HNM.out HDQ.out (Nat.lt_of_le_of_lt (by have:=HQN.out;omega) big_ok) HQO.out.2;rw[show B.toArray=#[.string ⟨q.nm.toArray⟩,v,.int .i64 px.k,.string px.nm,.string px.ot,.bool px.b,.slice px.ao px.n px.c,.slice px.ko px.kn px.kc,.int .i64 px.ln,.int .i64 px.cl,.int .i64 (q.ln:Nat),.int .i64 (q.cl:Nat)] from by rw[HBD.out];rfl] at hcs;refine hcs.mono ?_;rintro e w' ⟨rfl,hm,hg⟩;exact hK.out _ _ ⟨rfl,by rw[show B.toArray=#[.string ⟨q.nm.toArray⟩,v,.int .i64 px.k,.string px.nm,.string px.ot,.bool px.b,.slice px.ao px.n px.c,.slice px.ko px.kn px.kc,.int .i64 px.ln,.int .i64 px.cl,.int .i64 (q.ln:Nat),.int .i64 (q.cl:Nat)] from by rw[HBD.out];rfl];exact hm⟩ (R7.Priv.of hg)
   refine R7.cd ?_ (fun T xs wr hA=>?_) ?_
   rotate_left
   ·have e6:=hA.pq 6;simp only[gsa,gsc,gsz] at e6;clear hA;go_simp<;>(try with_reducible rfl)
   refine R7.cd ?_ (fun T xs wr hA=>?_) ?_
   rotate_left
   ·have e27:=tr_ (hA.tq 6 27) (hA.fq 6)
    (try simp (disch:=decide) only [R7.mi] at e27)
    have hBq:wr.heap[kq]?=_:=(hA.bl _ hlt_q (fun q _=>by show bq≠kq;omega)).trans HBq.out;obtain⟨q0,q1,q2,q3,q4,q5,q6,q7,q8,q9,q10,q11⟩:=cl12 hBq;clear hBq;clear hA;go_simp<;>(try with_reducible rfl)
   refine R7.cd ?_ (fun T xs wr hA=>?_) ?_
   rotate_left
   ·have e6:=hA.pq 6;simp only[gsa,gsc,gsz] at e6;clear hA;go_simp<;>(try with_reducible rfl)
   refine R7.cd ?_ (fun T xs wr hA=>?_) ?_
   rotate_left
   ·have e29:=tr_ (hA.tq 8 29) (hA.fq 8)
    (try simp (disch:=decide) only [R7.mi] at e29)
    have hBq:wr.heap[kq]?=_:=(hA.bl _ hlt_q (fun q _=>by show bq≠kq;omega)).trans HBq.out;obtain⟨q0,q1,q2,q3,q4,q5,q6,q7,q8,q9,q10,q11⟩:=cl12 hBq;clear hBq;clear hA;go_simp<;>(try with_reducible rfl)
   refine R7.Chain.done (fun xs w3 hL=>?_);obtain⟨⟨hbe,hbl⟩,hf,-,-⟩:=hL;have f0:xs 0=_:=hf 0 (by decide);have f1:xs 1=_:=hf 1 (by decide);have f2:xs 2=_:=hf 2 (by decide);have f3:xs 3=_:=hf 3 (by decide);have f4:xs 4=_:=hf 4 (by decide);have F5:(xs 5)=.bool (Qm q.nm).isNone/\MapIs Tryz.prog 9 w3 bq (addM Qm q.nm (.agg B.toArray)):=hf 5 (by decide);have f6:xs 6=_:=hf 6 (by decide);have f7:xs 7=_:=hf 7 (by decide);have f8:xs 8=_:=hf 8 (by decide);have f9:xs 9=_:=hf 9 (by decide)
   (try simp (disch:=decide) only [R7.mi] at f0 f1 f2 f3 f4 f6 f7 f8 f9)
   have hb0:Below 0 w2 w3:=undrew (hbe 0 (Nat.zero_le _) (fun _ _=>Nat.zero_le _));have hgr:∀ j,j<w2.heap.size->(∀ q,q<1->(fun q=>bq) q≠j)->w3.heap[j]?=w2.heap[j]?:=hbl;clear hbe hbl hf;obtain⟨hv,hm⟩:=F5;have hg:w2.grownBy w3 (some bq):=⟨hb0.os,hb0.tape,hb0.output,hb0.size,fun k hk hn=>hgr k hk (fun q _ e=>hn (by rw[<-e]))⟩
   refine R7.rest_list (by decide) (by kernel_rfl) ?_;simp only[R7.fill,t1_,t2_,t3_,t4_,t5_,t6_,t7_,f0,f1,f2,f3,f4,f6,f7,f8,f9];simp only[hv];clear hog hv hb0 hgr hlt_q f0 f1 f2 f3 f4 f6 f7 f8 f9;replace HC:=h_ (ck_ownM HC.out HMQ.out (by omega) (by omega) (by have:=HW0.out;omega) hg);replace HBg:=kG hg HBg;replace HBe:=kG hg HBe;replace HBq:=kG hg HBq;replace HMQ:=h_ hm;clear HF;have HF:Hid (Fc w3 w3 kg bs):=h_ (Fc.refl _ _ _);clear hm hg;obtain⟨c0,c1,c2,c3,c4,c5,c6,c7,c8,c9,c10,c11⟩:=cl12 HBq.out;go_wp2_with fail
   refine (require_p HC.out (Qm q.nm).isNone q.ln q.cl 3).mono ?_;rintro e w4 ⟨rfl,⟨ev,hC⟩,hF⟩;clear c0 c1 c2 c3 c4 c5 c6 c7 c8 c9 c10 c11;replace HBe:=kF hF HBe;replace HBq:=kF hF HBq;replace HMQ:=h_ (HMQ.out.keep (hF.block _ HMQ.out.lt (by omega) (by omega)));replace HF:=h_ (HF.out.trans hF);replace HC:=h_ hC;replace HBg:=h_ hC.blk;clear hC hF;rw[isn_con HQO.out] at HC;obtain⟨sA,hsA⟩:∃ z:Ks,z=⟨sj.sc,req sj.er (!L.contains q.nm) q.ln q.cl 3⟩:=⟨_,rfl⟩
   rw[<-hsA] at HC;have HSA:=h_ hsA;clear hsA;obtain⟨c0,c1,c2,c3,c4,c5,c6,c7,c8,c9,c10,c11⟩:=cl12 HBq.out;have hks:=qual_s HC.out q v px S HPM.out HUX.out (HPB.out.1 _ HPP.out) g0.fs (all_ok (gv_none w0 S)) (HCN.out.1.1 _ HPP.out) (HWD.out.1 _ HPP.out) HA.out;have HKS:=h_ hks;clear hks;go_wp2_with fail
   refine (HKS.out).mono ?_;rintro e w5 ⟨rfl,⟨ev,hC⟩,hF⟩;clear c0 c1 c2 c3 c4 c5 c6 c7 c8 c9 c10 c11;replace HBe:=kF hF HBe;replace HBq:=kF hF HBq;replace HMQ:=h_ (HMQ.out.keep (hF.block _ HMQ.out.lt (by omega) (by omega)));replace HF:=h_ (HF.out.trans hF);replace HC:=h_ hC;replace HBg:=h_ hC.blk;clear hC hF;have HNX2:Hid (((qs.map Qd.q).take (j+1)).foldl (kQStep g0.fs) ([],none)=(if L.contains q.nm then L else q.nm::L,(kQual g0.fs q sA.er).er)):=h_ (by rw[HNX.out,HSA.out];rfl);go_wp2_with fail
   go_roundw
   case rel=>exact⟨j+1,ev,_,_,_,by go_num,hi,HNX2,h_ (qm_add HQO.out q.nm B HB1.out HB2.out),h_ (domV_add HDQ.out _ _),HMQ,HC,HBe⟩
   case measure=>simp[intOf];omega
  have hjj:j=qs.length:=by omega
  subst hjj;have hsj:=HST.out;rw[List.take_of_length_le (by rw[List.length_map];exact Nat.le_refl _),HQS.out] at hsj;have HST2:=h_ hsj;clear hsj hi HST HQO HDQ HMQ;obtain⟨c0,c1⟩:=cl2 HBe.out;go_wp2_with fail
  clear c0 c1;have HG0:=h_ (gv_none w0 S);have HDG:=h_ domV_nil
  go_loopw [39] (fun i wr=>∃ (j:Nat) (ev:Value) (sk:Ks) (G:Gfn) (Gv:Bs->Option Value),i=.int .i64 (j:Nat)/\j<=fs.length/\Hid (((fs.map Fd.q).take j).foldl kGStep (g0,sj.er)=(G,sk.er))/\Hid (GvOk w0 S Gv G)/\Hid (DomV Gv j)/\Hid (Ck w0 wr kg bf bs Gv sk false ev)/\Hid (wr.heap[ke]?=some (.cells #[.slice qo qs.length qc,.slice ko fs.length kc] 26 (0,0)))) (fun i _=>fs.length - (intOf i).toNat)
  case atStart=>exact⟨0,ev,sj,g0,fun _=>none,rfl,Nat.zero_le _,h_ rfl,HG0,HDG,HC,HBe⟩
  case round =>
   obtain⟨wl,hwl⟩:∃ q,q=wr:=⟨_,rfl⟩
   subst hwl;clear HC HBe HF HBg HG0 HDG
   try clear ev
   obtain⟨j,ev,sk,G,Gv,rfl,hj,HST,HGV,HDG,HC,HBe⟩:=hrel;have HBg:=h_ HC.out.blk;have HF:Hid (Fc wl wl kg bs):=h_ (Fc.refl _ _ _)
   by_cases hi:j<fs.length
   ·have hpm0:(fs[j]).q ∈ p.fs:=by rw[<-HFS.out];exact List.mem_map_of_mem (List.getElem_mem hi)
    have hnx:((fs.map Fd.q).take (j+1)).foldl kGStep (g0,sj.er)=kGStep (G,sk.er) fs[j].q:=by rw[foldl_take _ _ j (by rw[List.length_map];exact hi),HST.out,List.getElem_map]
    obtain⟨hAt,hRj⟩:=HEL.out j hi;obtain⟨⟨q,v,px,py⟩,hqd⟩:∃ z,z=fs[j]:=⟨_,rfl⟩
    rw[<-hqd] at hAt hRj;obtain⟨hone,hux,huy,hpm⟩:=hRj;have hone2:v.oneCell'=true:=hone;have e25:fnE.f ⟨q,v,px,py⟩=fnC q v px py:=if_pos hone2;have hAt2:AtN 25 w0 ko j (fnC q v px py):=by rw[<-e25];exact hAt
    obtain⟨B,hB⟩:∃ z,z=fnC q v px py:=⟨_,rfl⟩
    rw[<-hB] at hAt2;obtain⟨a,rfl,hc⟩:=hAt2;have hcb:∀ i u,B[i]?=some u->wl.cell? ((a.add (j*25)).add i)=some u:=fun i u hu=>by have:=hc i u hu;rw[HC.out.bw.cell (cell_lt this)];exact this
    have HCB:=h_ hcb;have HB1:Hid (B.length=25):=h_ (by rw[hB];rfl);have HB2:Hid (∀ u ∈ B,u.oneCell'=true):=h_ (by rw[hB];exact fnC_one hone2);have HBD:=h_ hB;have HQD:=h_ hqd;have HUX:=h_ (show Um w0 S px q.res.ref from hux);have HUY:=h_ (show Um w0 S py q.body from huy);have HPM:=h_ (show PmsAt w0 S v q.ps from hpm);clear hAt hux huy hpm hone hone2 e25 hc hcb hB hqd;rw[<-HQD.out] at hpm0 hnx;have HPP:=h_ (show q ∈ p.fs from hpm0);have HNX:=h_ (show _=kGStep (G,sk.er) q from hnx);clear hpm0 hnx;have hbf1:bf<wl.heap.size:=HC.out.fm.lt;have hel9:ke<wl.heap.size:=lt_of_block HBe.out;have hfk:bf≠kg:=fun e=>HC.out.gf e.symm
    have hfs:bf≠bs:=HC.out.ne;have hfe:bf≠ke:=map_ne HC.out.fm HBe.out;have HBF0:=h_ HC.out.fm.lt;go_upto_region 10 with fail
    refine wp_region_lit ?_;refine wpList_plain rfl fun K0 hK0=>?_
    go_simp
    refine hK0 _ _ ?_;clear hK0;refine wpList_plain rfl fun K0 hK0=>?_
    refine wp_load_row 59 (.tmp 41) rfl _ rfl B _ HCB.out Tryz.underlying59 rfl (by rw[HB1.out];kernel_rfl) ?_;refine hK0 _ _ ?_;clear hK0;refine wpList_plain rfl fun K0 hK0=>?_
    go_simp
    refine hK0 _ _ ?_;clear hK0;refine wpList_plain rfl fun K0 hK0=>?_
    refine wp_store_row 59 (.tmp 8) (.tmp 42) rfl wl.heap.size B.toArray rfl rfl 59 _ (heap_alloc_last wl _) (by rw[List.size_toArray,HB1.out];kernel_rfl) (by rw[show B.toArray.size=25 from by rw[List.size_toArray];exact HB1.out];rfl) (by rw[List.all_toArray];exact List.all_eq_true.2 HB2.out) ?_;rw[World.setRow_alloc_new];refine hK0 _ _ ?_;clear hK0;go_upto_region 11 with fail
    obtain⟨w2,kf,hw,hkk,hb,hs1,HBf⟩:=newb wl B.toArray 59;have hgf:=lk_ hkk HBg;have hsf:bs<kf:=by rw[hkk];exact HC.out.sm.lt
    have hef:wl.heap.size<=kf:=by rw[hkk];exact HF.out.size
    have he_f:=lk_ hkk HBe;rw[hw,<-hkk];replace HBg:=kB hb HBg;replace HBe:=kB hb HBe;replace HC:=h_ (HC.out.below hb);replace HF:=fb_ HF hb;have hbf_f:bf<kf:=by rw[hkk];exact HBF0.out
    clear hw hb hkk hs1 HBF0;have hb0:B.toArray[0]?=some (.string ⟨q.nm.toArray⟩):=by rw[HBD.out];rfl
    have hb4:B.toArray[23]?=some (.int .i64 (q.ln:Nat)):=by rw[HBD.out];rfl
    have hb5:B.toArray[24]?=some (.int .i64 (q.cl:Nat)):=by rw[HBD.out];rfl
    have HBC0:=h_ hb0;have HBC4:=h_ hb4;have HBC5:=h_ hb5;clear hb0 hb4 hb5;have HNM:Hid (q.nm.length<=maxLen):=h_ (nm_ok (HPB.out.2 _ HPP.out).1);have hlt_g:=lt_of_block HBg.out;have hlt_f:=lt_of_block HBf.out;have hog:Hid (∀ q,q<1->(fun q=>bf) q<w2.heap.size):=h_ (fun q _=>by show bf<_;exact HC.out.fm.lt);refine R7.region (by kernel_rfl) [[],[],[1],[1,2],[1,2,3],[],[5],[],[1,2,3,4,5,6,7],[],[9],[],[11],[0,1,2,3,4,5,6,7,8,9,10,11,12]] [] [(8,1000)] (fun q=>bf) 1 13 (by kernel_rfl) (by kernel_rfl) (by rfl) hog.out (fun q q' h h' hn=>absurd hn (by omega)) ?_;refine R7.cd ?_ (fun T xs wr hA=>?_) ?_
    rotate_left
    ·have e0:=hA.pq 0;simp only[gsa,gsz] at e0;clear hA;go_simp<;>(try with_reducible rfl)
    refine R7.cd ?_ (fun T xs wr hA=>?_) ?_
    rotate_left
    ·have e0:=hA.pq 0;simp only[gsa,gsz] at e0;clear hA;go_simp<;>(try with_reducible rfl)
    refine R7.cd ?_ (fun T xs wr hA=>?_) ?_
    rotate_left
    ·have e44:=tr_ (hA.tq 1 44) (hA.fq 1)
     (try simp (disch:=decide) only [R7.mi] at e44)
     clear hA;go_simp<;>(try with_reducible rfl)
    refine R7.cd ?_ (fun T xs wr hA=>?_) ?_
    rotate_left
    ·have e45:=tr_ (hA.tq 2 45) (hA.fq 2)
     (try simp (disch:=decide) only [R7.mi] at e45)
     clear hA;go_simp<;>(try with_reducible rfl)
    refine R7.cd ?_ (fun T xs wr hA=>?_) ?_
    rotate_left
    ·have e46:=tr_ (hA.tq 3 46) (hA.fq 3)
     (try simp (disch:=decide) only [R7.mi] at e46)
     have hBq:wr.heap[kg]?=_:=(hA.bl _ hlt_g (fun q _=>by show bf≠kg;omega)).trans HBg.out;obtain⟨q0,q1,q2,q3⟩:=cl4 hBq;clear hBq;clear hA;go_simp<;>(try with_reducible rfl)
    refine R7.cd ?_ (fun T xs wr hA=>?_) ?_
    rotate_left
    ·have e8:=hA.pq 8;simp only[gsa,gsc,gsz] at e8;clear hA;go_simp<;>(try with_reducible rfl)
    refine R7.Chain.call (fun xs v w=>v=.string ⟨q.nm.toArray⟩) (fun _ _ _ _ h _=>h) (fun _ _ _ _ _ h _ _=>h) (by rfl) (fun T xs wr hA=>?_) ?_
    ·have hsw:=(hA.be 0 (Nat.zero_le _) (fun _ _=>Nat.zero_le _)).size;have e48:=tr_ (hA.tq 5 48) (hA.fq 5)
     (try simp (disch:=decide) only [R7.mi] at e48)
     have hBq:wr.heap[kf]?=_:=(hA.bl _ hlt_f (fun q _=>by show bf≠kf;omega)).trans HBf.out;have qz:=cell_at (v:=.string ⟨q.nm.toArray⟩) hBq 0 HBC0.out;clear hBq;clear hA;refine⟨(by rfl),fun K hK=>?_⟩;go_simp
     exact hK.out _ _ rfl (Below.refl _ _)
    refine R7.Chain.call (fun xs v w=>v=.agg B.toArray) (fun _ _ _ _ h _=>h) (fun _ _ _ _ _ h _ _=>h) (by rfl) (fun T xs wr hA=>?_) ?_
    ·have hsw:=(hA.be 0 (Nat.zero_le _) (fun _ _=>Nat.zero_le _)).size;have e8:=hA.pq 8;simp only[gsa,gsc,gsz] at e8;have hBq:wr.heap[kf]?=_:=(hA.bl _ hlt_f (fun q _=>by show bf≠kf;omega)).trans HBf.out;have HBQ:=h_ hBq;clear hBq;clear hA;refine⟨(by rfl),fun K hK=>?_⟩;refine wp_load_row (P:=Tryz.prog) 59 (.tmp 8) rfl ⟨kf,0,none⟩ (by show T.getD 8 undef=_;rw[Array.getD_eq_getD_getElem?,e8];rfl) B _ (fun j v hv=>by rw[add_lit,Nat.zero_add];exact cell_at HBQ.out j (by rw[gsa];exact hv)) Tryz.underlying59 rfl (by rw[HB1.out];kernel_rfl) ?_;exact hK.out _ _ rfl (Below.refl _ _)
    refine R7.Chain.callOld 0 (fun xs v w=>v=.bool (Gv q.nm).isNone/\MapIs Tryz.prog 9 w bf (addM Gv q.nm (.agg B.toArray))) (fun _ _ _ _ ⟨h1,h2⟩ hb=>⟨h1,h2.keep (hb.block _ h2.lt)⟩) (fun _ _ _ _ q' _ hq hne _=>absurd rfl hne) (by rfl) (by rfl) (by decide) (R7.own_one (by rfl)) (fun T xs wr hA hold=>?_) ?_
    ·have hsw:=(hA.be 0 (Nat.zero_le _) (fun _ _=>Nat.zero_le _)).size;have e47:=tr_ (hA.tq 4 47) (hA.fq 4)
     (try simp (disch:=decide) only [R7.mi] at e47)
     have e49:=hA.tm 6 49 (by rfl) (by rfl);have f49:xs 6=(.string ⟨q.nm.toArray⟩):=hA.fa 6 (by rfl);rw[f49] at e49;clear f49;have e50:=hA.tm 7 50 (by rfl) (by rfl);have f50:xs 7=(.agg B.toArray):=hA.fa 7 (by rfl);rw[f50] at e50;clear f50;have HMW:=h_ (HC.out.fm.keep hold);clear hA;refine⟨(by rfl),fun K hK=>?_⟩;go_simp
     refine (addF_p bf Gv q.nm B HB1.out HB2.out wr HMW.out HNM.out HDG.out (Nat.lt_of_le_of_lt (by have:=HFN.out;omega) big_ok) (gv_shape HGV.out)).mono ?_;rintro e w' ⟨rfl,hm,hg⟩;exact hK.out _ _ ⟨rfl,hm⟩ (R7.Priv.of hg)
    refine R7.cd ?_ (fun T xs wr hA=>?_) ?_
    rotate_left
    ·have e8:=hA.pq 8;simp only[gsa,gsc,gsz] at e8;clear hA;go_simp<;>(try with_reducible rfl)
    refine R7.Chain.call (fun xs v w=>v=.int .i64 (q.ln:Nat)) (fun _ _ _ _ h _=>h) (fun _ _ _ _ _ h _ _=>h) (by rfl) (fun T xs wr hA=>?_) ?_
    ·have hsw:=(hA.be 0 (Nat.zero_le _) (fun _ _=>Nat.zero_le _)).size;have e52:=tr_ (hA.tq 9 52) (hA.fq 9)
     (try simp (disch:=decide) only [R7.mi] at e52)
     have hBq:wr.heap[kf]?=_:=(hA.bl _ hlt_f (fun q _=>by show bf≠kf;omega)).trans HBf.out;have qz:=cell_at (v:=.int .i64 (q.ln:Nat)) hBq 23 HBC4.out;clear hBq;clear hA;refine⟨(by rfl),fun K hK=>?_⟩;go_simp
     exact hK.out _ _ rfl (Below.refl _ _)
    refine R7.cd ?_ (fun T xs wr hA=>?_) ?_
    rotate_left
    ·have e8:=hA.pq 8;simp only[gsa,gsc,gsz] at e8;clear hA;go_simp<;>(try with_reducible rfl)
    refine R7.Chain.call (fun xs v w=>v=.int .i64 (q.cl:Nat)) (fun _ _ _ _ h _=>h) (fun _ _ _ _ _ h _ _=>h) (by rfl) (fun T xs wr hA=>?_) ?_
    ·have hsw:=(hA.be 0 (Nat.zero_le _) (fun _ _=>Nat.zero_le _)).size;have e54:=tr_ (hA.tq 11 54) (hA.fq 11)
     (try simp (disch:=decide) only [R7.mi] at e54)
     have hBq:wr.heap[kf]?=_:=(hA.bl _ hlt_f (fun q _=>by show bf≠kf;omega)).trans HBf.out;have qz:=cell_at (v:=.int .i64 (q.cl:Nat)) hBq 24 HBC5.out;clear hBq;clear hA;refine⟨(by rfl),fun K hK=>?_⟩;go_simp
     exact hK.out _ _ rfl (Below.refl _ _)
    refine R7.Chain.done (fun xs w3 hL=>?_);obtain⟨⟨hbe,hbl⟩,hf,-,-⟩:=hL;have f0:xs 0=_:=hf 0 (by decide);have f1:xs 1=_:=hf 1 (by decide);have f2:xs 2=_:=hf 2 (by decide);have f3:xs 3=_:=hf 3 (by decide);have f4:xs 4=_:=hf 4 (by decide);have f5:xs 5=_:=hf 5 (by decide);have f6:xs 6=(.string ⟨q.nm.toArray⟩):=hf 6 (by decide);have f7:xs 7=(.agg B.toArray):=hf 7 (by decide);have F8:(xs 8)=.bool (Gv q.nm).isNone/\MapIs Tryz.prog 9 w3 bf (addM Gv q.nm (.agg B.toArray)):=hf 8 (by decide);have f9:xs 9=_:=hf 9 (by decide);have f10:xs 10=(.int .i64 (q.ln:Nat)):=hf 10 (by decide);have f11:xs 11=_:=hf 11 (by decide);have f12:xs 12=(.int .i64 (q.cl:Nat)):=hf 12 (by decide)
    (try simp (disch:=decide) only [R7.mi] at f0 f1 f2 f3 f4 f5 f9 f11)
    have hb0:Below 0 w2 w3:=undrew (hbe 0 (Nat.zero_le _) (fun _ _=>Nat.zero_le _));have hgr:∀ j,j<w2.heap.size->(∀ q,q<1->(fun q=>bf) q≠j)->w3.heap[j]?=w2.heap[j]?:=hbl;clear hbe hbl hf;obtain⟨hv,hm⟩:=F8;have hg:w2.grownBy w3 (some bf):=⟨hb0.os,hb0.tape,hb0.output,hb0.size,fun k hk hn=>hgr k hk (fun q _ e=>hn (by rw[<-e]))⟩
    refine R7.rest_list (by decide) (by kernel_rfl) ?_;simp only[R7.fill,t1_,t2_,t3_,t4_,t5_,t6_,t7_,f0,f1,f2,f3,f4,f5,f6,f7,f9,f10,f11,f12];simp only[hv];clear hog hv hb0 hgr hlt_f hlt_g f0 f1 f2 f3 f4 f5 f6 f7 f9 f10 f11 f12;replace HC:=h_ (HC.out.turnF hg hm);replace HBg:=kG hg HBg;replace HBe:=kG hg HBe;replace HBf:=kG hg HBf;clear HF;have HF:Hid (Fc w3 w3 kg bs):=h_ (Fc.refl _ _ _);clear hm hg;go_wp2_with fail
    refine (require_p HC.out (Gv q.nm).isNone q.ln q.cl 3).mono ?_;rintro e w4 ⟨rfl,⟨ev,hC⟩,hF⟩;replace HBe:=kF hF HBe;replace HBf:=kF hF HBf;replace HF:=h_ (HF.out.trans hF);replace HC:=h_ hC;replace HBg:=h_ hC.blk;clear hC hF;rw[gv_has HGV.out] at HC;have HNX2:Hid (((fs.map Fd.q).take (j+1)).foldl kGStep (g0,sj.er)=(G.add q,(⟨sk.sc,req sk.er (G q.nm).isNone q.ln q.cl 3⟩:Ks).er)):=h_ (by rw[HNX.out];rfl);have HGV2:Hid (GvOk w0 S (addM Gv q.nm (.agg B.toArray)) (G.add q)):=h_ (by rw[HBD.out];exact gv_add HGV.out q v px py HPM.out (HCN.out.1.2 _ HPP.out));go_wp2_with fail
    go_roundw
    case rel=>exact⟨j+1,ev,_,_,_,by go_num,hi,HNX2,HGV2,h_ (domV_add HDG.out _ _),HC,HBe⟩
    case measure=>simp[intOf];omega
   have hjj:j=fs.length:=by omega
   subst hjj;have hsk:=HST.out;rw[List.take_of_length_le (by rw[List.length_map];exact Nat.le_refl _),HFS.out] at hsk;have HST3:=h_ hsk;clear hsk hi HST HDG;obtain⟨c0,c1⟩:=cl2 HBe.out;go_upto_region 13 with fail
   refine wp_region_lit ?_;refine wpList_plain rfl fun K0 hK0=>?_
   go_simp
   refine hK0 _ _ ?_;clear hK0;have hmn:=main_s wl S _ _ p (HPA.out.belowW HC.out.bw);have HMN:=h_ hmn;clear hmn;refine wpList_plain rfl fun K0 hK0=>?_
   go_simp
   refine HMN.out.mono ?_;rintro e wB ⟨A,rfl,hb,hA1,hA2,-⟩;have HA1:=h_ hA1;have HA2:=h_ hA2;have HBW:=h_ hb;clear hA1 hA2 hb;refine hK0 _ _ ?_;clear hK0 HMN;clear c0 c1;replace HBg:=kB HBW.out HBg;replace HBe:=kB HBW.out HBe;replace HC:=h_ (HC.out.below HBW.out);replace HF:=h_ (HF.out.trans (Fc.of_below HBW.out _ _));clear HBW
   iterate 3 (refine wpList_plain rfl fun K0 hK0=>?_;go_simp;refine hK0 _ _ ?_;clear hK0)
   have hkf:kg<wB.heap.size:=lt_of_block HBg.out;refine wpList_plain rfl fun K0 hK0=>?_
   go_simp
   refine hK0 _ _ ?_;clear hK0;refine wpList_plain rfl fun K0 hK0=>?_
   refine wp_store_row 59 (.tmp 9) (.tmp 61) rfl wB.heap.size A.toArray rfl rfl 59 _ (heap_alloc_last wB _) (by rw[List.size_toArray,HA1.out];kernel_rfl) (by rw[show A.toArray.size=25 from by rw[List.size_toArray];exact HA1.out];rfl) (by rw[List.all_toArray];exact List.all_eq_true.2 HA2.out) ?_;rw[World.setRow_alloc_new];refine hK0 _ _ ?_;clear hK0 hkf;go_upto_region 14 with fail
   obtain⟨w2,km,hw,hkk,hb,hs1,HBm⟩:=newb wB A.toArray 59;have hgm:=lk_ hkk HBg;have hsm:bs<km:=by rw[hkk];exact HC.out.sm.lt
   have hem:wl.heap.size<=km:=by rw[hkk];exact HF.out.size
   have he_m:=lk_ hkk HBe;rw[hw,<-hkk];replace HBg:=kB hb HBg;replace HBe:=kB hb HBe;replace HC:=h_ (HC.out.below hb);replace HF:=fb_ HF hb;clear hw hb hkk hs1;go_wp2_with fail
   refine (require_p HC.out (hasMain p) 1 1 5).mono ?_;rintro e w3 ⟨rfl,⟨ev,hC⟩,hF⟩;replace HBe:=kF hF HBe;replace HBm:=kF hF HBm;replace HF:=h_ (HF.out.trans hF);replace HC:=h_ hC;replace HBg:=h_ hC.blk;clear hC hF;obtain⟨sM,hsM⟩:∃ z:Ks,z=⟨sk.sc,req sk.er (hasMain p) 1 1 5⟩:=⟨_,rfl⟩
   rw[<-hsM] at HC;have HSM:=h_ hsM;clear hsM;obtain⟨c0,c1⟩:=cl2 HBe.out;go_wp2_with fail
   clear c0 c1
   go_loopw [69] (fun i wr=>∃ (j:Nat) (ev:Value) (sl:Ks),i=.int .i64 (j:Nat)/\j<=fs.length/\Hid (((fs.map Fd.q).take j).foldl (fun e f=>(kFun G.fs f e).er) sM.er=sl.er)/\Hid (Ck w0 wr kg bf bs Gv sl false ev)/\Hid (wr.heap[ke]?=some (.cells #[.slice qo qs.length qc,.slice ko fs.length kc] 26 (0,0)))) (fun i _=>fs.length - (intOf i).toNat)
   case atStart=>exact⟨0,ev,sM,rfl,Nat.zero_le _,h_ rfl,HC,HBe⟩
   case round =>
    obtain⟨wl,hwl⟩:∃ q,q=wr:=⟨_,rfl⟩
    subst hwl;clear HC HBe HF HBg HBm
    try clear ev
    obtain⟨j,ev,sl,rfl,hj,HSL,HC,HBe⟩:=hrel;have HBg:=h_ HC.out.blk;have HF:Hid (Fc wl wl kg bs):=h_ (Fc.refl _ _ _)
    by_cases hi:j<fs.length
    ·have hpm0:(fs[j]).q ∈ p.fs:=by rw[<-HFS.out];exact List.mem_map_of_mem (List.getElem_mem hi)
     have hnx:((fs.map Fd.q).take (j+1)).foldl (fun e f=>(kFun G.fs f e).er) sM.er=(kFun G.fs fs[j].q sl.er).er:=by rw[foldl_take _ _ j (by rw[List.length_map];exact hi),HSL.out,List.getElem_map]
     obtain⟨hAt,hRj⟩:=HEL.out j hi;obtain⟨⟨q,v,px,py⟩,hqd⟩:∃ z,z=fs[j]:=⟨_,rfl⟩
     rw[<-hqd] at hAt hRj;obtain⟨hone,hux,huy,hpm⟩:=hRj;have hone2:v.oneCell'=true:=hone;have e25:fnE.f ⟨q,v,px,py⟩=fnC q v px py:=if_pos hone2;have hAt2:AtN 25 w0 ko j (fnC q v px py):=by rw[<-e25];exact hAt
     obtain⟨B,hB⟩:∃ z,z=fnC q v px py:=⟨_,rfl⟩
     rw[<-hB] at hAt2;obtain⟨a,rfl,hc⟩:=hAt2;have hcb:∀ i u,B[i]?=some u->wl.cell? ((a.add (j*25)).add i)=some u:=fun i u hu=>by have:=hc i u hu;rw[HC.out.bw.cell (cell_lt this)];exact this
     have HCB:=h_ hcb;have HB1:Hid (B.length=25):=h_ (by rw[hB];rfl);have HB2:Hid (∀ u ∈ B,u.oneCell'=true):=h_ (by rw[hB];exact fnC_one hone2);have HBD:=h_ hB;have HQD:=h_ hqd;have HUX:=h_ (show Um w0 S px q.res.ref from hux);have HUY:=h_ (show Um w0 S py q.body from huy);have HPM:=h_ (show PmsAt w0 S v q.ps from hpm);clear hAt hux huy hpm hone hone2 e25 hc hcb hB hqd;rw[<-HQD.out] at hpm0 hnx;have HPP:=h_ (show q ∈ p.fs from hpm0);have HNX:=h_ (show _=(kFun G.fs q sl.er).er from hnx);clear hpm0 hnx;have hel9:ke<wl.heap.size:=lt_of_block HBe.out;go_upto_region 17 with fail
     refine wp_region_lit ?_;refine wpList_plain rfl fun K0 hK0=>?_
     go_simp
     refine hK0 _ _ ?_;clear hK0;refine wpList_plain rfl fun K0 hK0=>?_
     refine wp_load_row 59 (.tmp 71) rfl _ rfl B _ HCB.out Tryz.underlying59 rfl (by rw[HB1.out];kernel_rfl) ?_;refine hK0 _ _ ?_;clear hK0;refine wpList_plain rfl fun K0 hK0=>?_
     go_simp
     refine hK0 _ _ ?_;clear hK0;refine wpList_plain rfl fun K0 hK0=>?_
     refine wp_store_row 59 (.tmp 12) (.tmp 72) rfl wl.heap.size B.toArray rfl rfl 59 _ (heap_alloc_last wl _) (by rw[List.size_toArray,HB1.out];kernel_rfl) (by rw[show B.toArray.size=25 from by rw[List.size_toArray];exact HB1.out];rfl) (by rw[List.all_toArray];exact List.all_eq_true.2 HB2.out) ?_;rw[World.setRow_alloc_new];refine hK0 _ _ ?_;clear hK0;go_upto_region 18 with fail
     obtain⟨w4,kf,hw,hkk,hb,hs1,HBf⟩:=newb wl B.toArray 59;have hgf:=lk_ hkk HBg;have hsf:bs<kf:=by rw[hkk];exact HC.out.sm.lt
     have hef:wl.heap.size<=kf:=by rw[hkk];exact HF.out.size
     have he_f:=lk_ hkk HBe;rw[hw,<-hkk];replace HBg:=kB hb HBg;replace HBe:=kB hb HBe;replace HC:=h_ (HC.out.below hb);replace HF:=fb_ HF hb;clear hw hb hkk hs1;refine wp_region_lit ?_;refine wpList_plain rfl fun K0 hK0=>?_
     go_simp
     refine hK0 _ _ ?_;clear hK0;refine wpList_plain rfl fun K0 hK0=>?_
     refine wp_load_row 59 (.tmp 12) rfl ⟨kf,0,none⟩ rfl B _ (fun j v hv=>by rw[add_lit,Nat.zero_add];exact cell_at HBf.out j (by rw[gsa];exact hv)) Tryz.underlying59 rfl (by rw[HB1.out];kernel_rfl) ?_;refine hK0 _ _ ?_;clear hK0;have hks:=fun_s HC.out q v px py S HPM.out HUX.out HUY.out (HPB.out.2 _ HPP.out) G.fs (all_ok HGV.out) (HCN.out.1.2 _ HPP.out) (HWD.out.2 _ HPP.out) HA.out;rw[<-HBD.out] at hks;have HKS:=h_ hks;clear hks;refine wpList_plain rfl fun K0 hK0=>?_
     go_simp
     refine (HKS.out).mono ?_;rintro e w5 ⟨rfl,⟨ev,hC⟩,hF⟩;replace HBe:=kF hF HBe;replace HBf:=kF hF HBf;replace HF:=h_ (HF.out.trans hF);replace HC:=h_ hC;replace HBg:=h_ hC.blk;clear hC hF;refine hK0 _ _ ?_;clear hK0;have HNX2:Hid (((fs.map Fd.q).take (j+1)).foldl (fun e f=>(kFun G.fs f e).er) sM.er=(kFun G.fs q sl.er).er):=HNX;go_wp2_with fail
     go_roundw
     case rel=>exact⟨j+1,ev,_,by go_num,hi,HNX2,HC,HBe⟩
     case measure=>simp[intOf];omega
    have hjj:j=fs.length:=by omega
    subst hjj;have hsl:=HSL.out;rw[List.take_of_length_le (by rw[List.length_map];exact Nat.le_refl _),HFS.out] at hsl;have HSL2:=h_ hsl;clear hsl;go_wp2_with fail
    have e:kProg p=sl.er:=by
     unfold kProg;simp only[HST2.out,HST3.out];rw[<-HSL2.out,HSM.out]
    exact bodyPost_end (results_none Tryz.results18 _ _ _) rfl ⟨rfl,ev,sl,Gv,HC.out,e.symm⟩
theorem check_s (w:World) (S:Nat->Prop) (vq vf:Value) (p:PgU) (hp:ProgAt w S vq vf p) (hb:PgB p) (hw:PgDp p) (hn:PgSz p) (hA:ArT w) :
  Calls Tryz.prog 7 #[.agg #[vq,vf]] w fun e w'=>∃ ev,e=.returned ev/\ErAt w' ev (kProg p)/\Below w.heap.size w w':=by
 have HP:=h_ hp;have HB:=h_ hb;have HW:=h_ hw;have HN:=h_ hn;have HA:=h_ hA;clear hp hb hw hn hA;go_enter Tryz.func7,Tryz.ntmps7
 go_upto_region 1 with fail
 obtain⟨w1,ke,hw,hkk,hb,hs1,HBe⟩:=newb w #[vq,vf] 26;rw[hw,<-hkk];have HB1:=h_ hb;have HKK:=h_ hkk;clear hw hkk hb hs1;go_wp2_with fail
 refine (newChecker_s w1).mono ?_;rintro e w2 ⟨kg,bf,bs,rfl,hC,hb⟩;have HC:=h_ hC;have HB2:=h_ hb;replace HBe:=kB (hb.mono (Nat.le_refl _)) HBe;clear hC hb;obtain⟨c0,c1⟩:=cl2 HBe.out;go_wp2_with fail
 refine (program_s HC.out rfl S vq vf p (HP.out.belowW HB1.out) HB.out HW.out HN.out (HA.out.below HB1.out)).mono ?_;rintro e w3 ⟨rfl,ev,s,Gv,hC,he⟩;clear c0 c1;have HC3:=h_ hC;have HE:=h_ he;clear hC he;have q3:=cell_at (v:=ev) HC3.out.blk 3 rfl;go_wp2_with fail
 go_ret
 exact⟨ev,rfl,by rw[<-HE.out];exact HC3.out.er,HB1.out.trans (HC3.out.bw.mono HB1.out.size)⟩
end Go.Proofs.YtpclhpfcbjgokaaGreatDoor
namespace Go.Proofs.YtpclhpfcbjgokaaGreatDoor
set_option maxRecDepth 100000
set_option linter.unusedVariables false
def akIn (k:Nat) (nm ot:Bs) (i:Nat) (t:List Nat) (l:Sc):Sc:=
 if i=1/\t.length=1/\k=26 then l.put nm (t.getD 0 0)
 else if i=2/\k=27 then (l.put nm 0).put ot 2 else l
def akChk (rf:Bool) (k:Nat) (nm ot:Bs) (ln cl b:Nat) (l:Sc):Option Flt:=
 if rf then some (1,ln,cl)
 else if (k=27/\b≠2)\/(k=28/\b≠1) then some (4,ln,cl)
 else if (k≠28/\(l nm).isSome)\/(k=27/\((l ot).isSome\/nm=ot)) then some (3,ln,cl)
 else none
def akRun (F:Fs) (rf:Bool) (k:Nat) (nm ot:Bs) (ln cl:Nat) (l:Sc):Nat->List U->List Nat->Except Flt (List Nat)
 | _,[],t=>.ok t
 | i,u::us,t=>match aB F rf u (akIn k nm ot i t l) with
  | .error e=>.error e
  | .ok b=>if 0<i\/k<26 then akRun F rf k nm ot ln cl l (i+1) us (t++[b])
   else match akChk rf k nm ot ln cl b l with
    | some e=>.error e
    | none=>akRun F rf k nm ot ln cl l (i+1) us (t++[b])
def akFin (F:Fs) (rf:Bool) (k:Nat) (nm:Bs) (ln cl:Nat) (ps:Bool) (t:List Nat) (l:Sc):Ar:=
 if k=26\/k=28 then .ok (t.getD 1 0)
 else if k=27\/k=25 then
  if k=25/\rf=true then .error (1,ln,cl)
  else if (k=25/\t.getD 0 0≠1)\/t.getD 1 0≠t.getD 2 0 then .error (4,ln,cl)
  else .ok (t.getD 2 0)
 else aRest F rf k nm ln cl ps t l
def akAll (F:Fs) (rf:Bool) (k:Nat) (nm ot:Bs) (ln cl:Nat) (ps:Bool) (ks:List U) (l:Sc):Ar:=
 match akRun F rf k nm ot ln cl l 0 ks [] with
 | .error e=>.error e
 | .ok t=>akFin F rf k nm ln cl ps t l
theorem akRun_plain (F:Fs) (rf:Bool) (k:Nat) (nm ot:Bs) (ln cl:Nat) (l:Sc) (hk:k<26):∀ (us:List U) (i:Nat) (t:List Nat),akRun F rf k nm ot ln cl l i us t=match aRun (aBs F rf us) l with | .error e=>.error e | .ok ts=>.ok (t++ts)
 | [],i,t=>by rw[akRun,aBs,aRun];simp
 | u::us,i,t=>by
  rw[akRun,aBs,aRun];have hin:akIn k nm ot i t l=l:=by unfold akIn;rw[if_neg (by omega),if_neg (by omega)]
  rw[hin]
  cases aB F rf u l with
  | error e=>rfl
  | ok b =>
   simp only;rw[if_pos (.inr hk),akRun_plain F rf k nm ot ln cl l hk us]
   cases aRun (aBs F rf us) l with
   | error e=>rfl
   | ok ts=>simp
theorem ak_two (F:Fs) (rf:Bool) (k:Nat) (nm ot:Bs) (ln cl:Nat) (u v:U) (l:Sc) (hk:26<=k):akRun F rf k nm ot ln cl l 0 [u,v] []=match aB F rf u l with
  | .error e=>.error e
  | .ok b=>match akChk rf k nm ot ln cl b l with
   | some e=>.error e
   | none=>match aB F rf v (akIn k nm ot 1 [b] l) with
    | .error e=>.error e
    | .ok c=>.ok [b,c]:=by
 have h0:akIn k nm ot 0 [] l=l:=by unfold akIn;rw[if_neg (by omega),if_neg (by omega)]
 rw[akRun,h0]
 cases aB F rf u l with
 | error e=>rfl
 | ok b =>
  simp only;rw[if_neg (by omega)]
  cases akChk rf k nm ot ln cl b l with
  | some e=>rfl
  | none =>
   simp only[List.nil_append,Nat.zero_add];rw[akRun]
   cases aB F rf v (akIn k nm ot 1 [b] l) with
   | error e=>rfl
   | ok c=>simp only;rw[if_pos (.inl (by decide)),akRun];rfl
theorem ak_three (F:Fs) (rf:Bool) (k:Nat) (nm ot:Bs) (ln cl:Nat) (u v y:U) (l:Sc) (hk:26<=k):akRun F rf k nm ot ln cl l 0 [u,v,y] []=match aB F rf u l with
  | .error e=>.error e
  | .ok b=>match akChk rf k nm ot ln cl b l with
   | some e=>.error e
   | none=>match aB F rf v (akIn k nm ot 1 [b] l) with
    | .error e=>.error e
    | .ok c=>match aB F rf y (akIn k nm ot 2 [b,c] l) with
     | .error e=>.error e
     | .ok d=>.ok [b,c,d]:=by
 have h0:akIn k nm ot 0 [] l=l:=by unfold akIn;rw[if_neg (by omega),if_neg (by omega)]
 rw[akRun,h0]
 cases aB F rf u l with
 | error e=>rfl
 | ok b =>
  simp only;rw[if_neg (by omega)]
  cases akChk rf k nm ot ln cl b l with
  | some e=>rfl
  | none =>
   simp only[List.nil_append,Nat.zero_add];rw[akRun]
   cases aB F rf v (akIn k nm ot 1 [b] l) with
   | error e=>rfl
   | ok c =>
    simp only;rw[if_pos (.inl (by decide)),akRun];simp only[List.cons_append,List.nil_append]
    cases aB F rf y (akIn k nm ot 2 [b,c] l) with
    | error e=>rfl
    | ok d=>simp only;rw[if_pos (.inl (by decide)),akRun]
theorem chk26 (rf:Bool) (nm ot:Bs) (ln cl b:Nat) (l:Sc):akChk rf 26 nm ot ln cl b l=if rf then some (1,ln,cl) else if (l nm).isSome then some (3,ln,cl) else none:=by unfold akChk;simp
theorem chk27 (rf:Bool) (nm ot:Bs) (ln cl b:Nat) (l:Sc):akChk rf 27 nm ot ln cl b l=if rf then some (1,ln,cl) else if b≠2 then some (4,ln,cl) else if (l nm).isSome\/(l ot).isSome\/nm=ot then some (3,ln,cl) else none:=by unfold akChk;simp
theorem chk28 (rf:Bool) (nm ot:Bs) (ln cl b:Nat) (l:Sc):akChk rf 28 nm ot ln cl b l=if rf then some (1,ln,cl) else if b≠1 then some (4,ln,cl) else none:=by unfold akChk;simp
theorem fin26 (F:Fs) (rf:Bool) (k:Nat) (nm:Bs) (ln cl:Nat) (ps:Bool) (t:List Nat) (l:Sc) (hk:k=26\/k=28):akFin F rf k nm ln cl ps t l=.ok (t.getD 1 0):=by unfold akFin;rw[if_pos hk]
theorem fin27 (F:Fs) (rf:Bool) (nm:Bs) (ln cl:Nat) (ps:Bool) (t:List Nat) (l:Sc):akFin F rf 27 nm ln cl ps t l=if t.getD 1 0≠t.getD 2 0 then .error (4,ln,cl) else .ok (t.getD 2 0):=by unfold akFin;simp
theorem fin25 (F:Fs) (rf:Bool) (nm:Bs) (ln cl:Nat) (ps:Bool) (t:List Nat) (l:Sc):akFin F rf 25 nm ln cl ps t l=aIf rf ln cl t:=by unfold akFin aIf;simp
theorem fin_rest (F:Fs) (rf:Bool) (k:Nat) (nm:Bs) (ln cl:Nat) (ps:Bool) (t:List Nat) (l:Sc) (hk:k<25):akFin F rf k nm ln cl ps t l=aRest F rf k nm ln cl ps t l:=by unfold akFin;rw[if_neg (by omega),if_neg (by omega)]
theorem ak_all (F:Fs) (rf:Bool) (k:Nat) (nm ot:Bs) (z ln cl:Nat) (ks:List U) (l:Sc) (hk:k<29) (ha:k=24\/ks.length=ar k):akAll F rf k nm ot ln cl (posU (ks.getD 1 u0)) ks l=aB F rf (.node k nm ot z ln cl ks) l:=by
 rw[aB];unfold akAll aNode
 by_cases k1:k=26
 ·subst k1;have hl:ks.length=2:=by rcases ha with h | h;omega;rw[h];rfl
  obtain⟨u,v,rfl⟩:∃ u v,ks=[u,v]:=by match ks,hl with | [u,v],_=>exact⟨u,v,rfl⟩
  rw[ak_two _ _ _ _ _ _ _ _ _ _ (by omega),if_pos rfl];unfold aLet;simp only[aBs,show af [aB F rf u,aB F rf v] 0=aB F rf u from rfl,show af [aB F rf u,aB F rf v] 1=aB F rf v from rfl]
  cases aB F rf u l with
  | error e=>rfl
  | ok b =>
   simp only[chk26]
   cases rf
   ·simp only[Bool.false_eq_true,if_false]
    cases hn:(l nm).isSome with
    | true=>simp only[if_true]
    | false =>
     simp only[Bool.false_eq_true,if_false];have:akIn 26 nm ot 1 [b] l=l.put nm b:=by unfold akIn;rw[if_pos ⟨rfl,rfl,rfl⟩];rfl
     rw[this]
     cases aB F false v (l.put nm b) with
     | error e=>rfl
     | ok c=>simp only;rw[fin26 _ _ _ _ _ _ _ _ _ (.inl rfl)];rfl
   simp only[if_true]
 by_cases k2:k=27
 ·subst k2;have hl:ks.length=3:=by rcases ha with h | h;omega;rw[h];rfl
  obtain⟨u,v,y,rfl⟩:∃ u v y,ks=[u,v,y]:=by match ks,hl with | [u,v,y],_=>exact⟨u,v,y,rfl⟩
  rw[ak_three _ _ _ _ _ _ _ _ _ _ _ (by omega),if_neg k1,if_pos rfl];unfold aMatch;simp only[aBs,show af [aB F rf u,aB F rf v,aB F rf y] 0=aB F rf u from rfl,show af [aB F rf u,aB F rf v,aB F rf y] 1=aB F rf v from rfl,show af [aB F rf u,aB F rf v,aB F rf y] 2=aB F rf y from rfl]
  cases aB F rf u l with
  | error e=>rfl
  | ok b =>
   simp only[chk27]
   cases rf
   ·simp only[Bool.false_eq_true,if_false]
    by_cases hb:b≠2
    ·rw[if_pos hb,if_pos hb]
    rw[if_neg hb,if_neg hb]
    by_cases hc:(l nm).isSome\/(l ot).isSome\/nm=ot
    ·rw[if_pos hc,if_pos hc]
    rw[if_neg hc,if_neg hc];simp only;have i1:akIn 27 nm ot 1 [b] l=l:=by unfold akIn;rw[if_neg (by omega),if_neg (by omega)]
    rw[i1]
    cases aB F false v l with
    | error e=>rfl
    | ok c =>
     simp only;have i2:akIn 27 nm ot 2 [b,c] l=(l.put nm 0).put ot 2:=by unfold akIn;rw[if_neg (by omega),if_pos ⟨rfl,rfl⟩]
     rw[i2]
     cases aB F false y ((l.put nm 0).put ot 2) with
     | error e=>rfl
     | ok d =>
      simp only[fin27]
      rfl
   simp only[if_true]
 by_cases k3:k=28
 ·subst k3;have hl:ks.length=2:=by rcases ha with h | h;omega;rw[h];rfl
  obtain⟨u,v,rfl⟩:∃ u v,ks=[u,v]:=by match ks,hl with | [u,v],_=>exact⟨u,v,rfl⟩
  rw[ak_two _ _ _ _ _ _ _ _ _ _ (by omega),if_neg k1,if_neg k2,if_pos rfl];unfold aAssert;simp only[aBs,show af [aB F rf u,aB F rf v] 0=aB F rf u from rfl,show af [aB F rf u,aB F rf v] 1=aB F rf v from rfl]
  cases aB F rf u l with
  | error e=>rfl
  | ok b =>
   simp only[chk28]
   cases rf
   ·simp only[Bool.false_eq_true,if_false]
    by_cases hb:b≠1
    ·rw[if_pos hb,if_pos hb]
    rw[if_neg hb,if_neg hb];simp only;have:akIn 28 nm ot 1 [b] l=l:=by unfold akIn;rw[if_neg (by omega),if_neg (by omega)]
    rw[this]
    cases aB F false v l with
    | error e=>rfl
    | ok c=>simp only;rw[fin26 _ _ _ _ _ _ _ _ _ (.inr rfl)];rfl
   simp only[if_true]
 rw[if_neg k1,if_neg k2,if_neg k3,akRun_plain F rf k nm ot ln cl l (by omega)]
 cases aRun (aBs F rf ks) l with
 | error e=>rfl
 | ok t =>
  simp only[List.nil_append]
  by_cases k4:k=25
  ·subst k4;rw[fin25];unfold aRest;rw[if_neg (by omega),if_neg (by omega),if_pos rfl]
  rw[fin_rest _ _ _ _ _ _ _ _ _ (by omega)]
def tabL (k:Nat):Int × Int × Nat:=
 if k=0 then (-1,-1,0) else if k=1\/k=2 then (-1,-1,1) else if k=4 then (-1,-1,2) else if k=5 then (0,-1,0) else if k=6 then (1,-1,1)
 else if k=7\/k=8 then (2,-1,0) else if k=9 then (2,-1,2) else if 17<=k/\k<=20 then (0,0,1) else if k=21\/k=22 then (1,1,1) else if k=23 then (0,2,2) else (0,0,0)
def tabBad (k:Nat) (t:List Nat):Bool:=(decide (0<t.length) && ((t.getD 0 0:Nat):Int) != (tabL k).1) || (decide (1<t.length) && ((t.getD 1 0:Nat):Int) != (tabL k).2.1)
def tabChk (k:Nat):Bool:=k==3 || k==15 || k==16 || ((tabL k).2.2==(sig k).2 && (sig k).1.length==ar k && (!decide (0<ar k) || (tabL k).1==(((sig k).1.getD 0 0:Nat):Int)) && (!decide (1<ar k) || (tabL k).2.1==(((sig k).1.getD 1 0:Nat):Int)) && decide (ar k<=2))
theorem tab_ok (k:Nat) (hk:k<24) (h3:k≠3) (h15:k≠15) (h16:k≠16):(tabL k).2.2=(sig k).2/\(sig k).1.length=ar k/\(0<ar k->(tabL k).1=(((sig k).1.getD 0 0:Nat):Int))/\(1<ar k->(tabL k).2.1=(((sig k).1.getD 1 0:Nat):Int))/\ar k<=2:=by
 have h:tabChk k=true:=List.all_eq_true.1 (show (List.range 24).all tabChk=true by decide) k (List.mem_range.2 hk);unfold tabChk at h;simp only[beq_eq_false_iff_ne.2 h3,beq_eq_false_iff_ne.2 h15,beq_eq_false_iff_ne.2 h16,Bool.false_or,Bool.and_eq_true,beq_iff_eq,Bool.or_eq_true,Bool.not_eq_true',decide_eq_false_iff_not,decide_eq_true_eq] at h;obtain⟨⟨⟨⟨a,b⟩,c⟩,d⟩,e⟩:=h;exact⟨a,b,fun h=>by rcases c with c | c;exact absurd h c;exact c,fun h=>by rcases d with d | d;exact absurd h d;exact d,e⟩
theorem tab_bad {k:Nat} (hk:k<24) (h3:k≠3) (h15:k≠15) (h16:k≠16) {t:List Nat} (ht:t.length=ar k):tabBad k t=decide (t≠(sig k).1):=by
 obtain⟨h1,h2,h4,h5,h6⟩:=tab_ok k hk h3 h15 h16;unfold tabBad;generalize (sig k).1=s at *;rw[Bool.eq_iff_iff];simp only[Bool.or_eq_true,Bool.and_eq_true,decide_eq_true_eq,bne_iff_ne]
 match t,s,ht,h2 with
 | [],[],_,_=>simp
 | [a],[b],ht,_ =>
  have h0:0<ar k:=by rw[<-ht];simp
  rw[h4 h0]
  simp;omega
 | [a,b],[c,d],ht,_ =>
  have h0:0<ar k:=by rw[<-ht];simp
  have h1:1<ar k:=by rw[<-ht];simp
  rw[h4 h0,h5 h1]
  simp;omega
 | a::b::c::t,_,ht,_=>simp only[lsc] at ht;omega
 | [],_::_,ht,hs=>simp at ht hs;omega
 | [_],[],ht,hs=>simp at ht hs;omega
 | [_],_::_::_,ht,hs=>simp at ht hs;omega
 | [_,_],[],ht,hs=>simp at ht hs;omega
 | [_,_],[_],ht,hs=>simp at ht hs;omega
 | [_,_],_::_::_::_,ht,hs=>simp at ht hs;omega
end Go.Proofs.YtpclhpfcbjgokaaGreatDoor
namespace Go.Proofs.YtpclhpfcbjgokaaGreatDoor
open Go.RowKit Go.Maps
set_option maxRecDepth 100000
set_option linter.unusedVariables false
set_option linter.unusedSimpArgs false
theorem res_cell3 {P:Program} {fn:Func} {T:Array Value} {w:World} {t u:Tmp} {ty:TypeId} (hr:fn.results=#[.tmp u,.cell t ty]) {p:Addr} (hT:T[t]?=some (.pointer (some p))) (cs:List Value) {d:TypeDesc} (hc:∀ j v,cs[j]?=some v->w.cell? (p.add j)=some v)
  (hu:P.underlying ty=some d) (hd:d.isRow=true) (hi:(P.info? ty).map (·.size)=some cs.length):(results fn T).run P w=.ok (.tuple #[T.getD u undef,.agg cs.toArray]) w:=by
 have hl:=run_loadCells_list (P:=P) w p cs hc
 cases hq:P.info? ty with
 | none=>simp[hq] at hi
 | some i =>
  have hs:i.size=cs.length:=by simpa [hq] using hi
  have hagg:(isAgg ty).run P w=.ok true w:=by
   unfold isAgg;rw[Sem.run_bind,run_underlying hu w]
   cases d<;>simp_all
  simp only[results,hr]
  simp[go_sem,asAddr,hT,loadVar,Sem.run_bind,hagg,sizeOf,typeInfo,hq,hs,Result.andThen]
  simp[loadCells] at hl
  rw[hl]
def hasI:Option Nat->Int
 | none=>-1
 | some b=>(b:Nat)
theorem hasI_ge (o:Option Nat):decide (0<=hasI o)=o.isSome:=by cases o with | none=>rfl | some b=>show decide (0<=((b:Nat):Int))=true;simp
def fltV (f:Flt):Value:=.agg #[.int .i64 (f.1:Nat),.int .i64 (f.2.1:Nat),.int .i64 (f.2.2:Nat)]
def arT (r:Ar):Nat:=match r with | .error _=>0 | .ok b=>b
def arF (r:Ar):Flt:=match r with | .error f=>f | .ok _=>f0
theorem has_l (w:World) (S:Nat->Prop) (v:Value) (ps:List PmU) (s:Bs) (hp:PmsAt w S v ps) :
  Calls Tryz.prog 27 #[v,.string ⟨s.toArray⟩] w fun e w'=>e=.returned (.int .i64 (hasI (lkp ps s)))/\Below w.heap.size w w':=by
 obtain⟨qs,hqs,hat⟩:=hp;obtain⟨ko,kc,hv,⟨hk1,hk2⟩,-,hel⟩:=hat;have HQS:=h_ hqs;have HEL:=h_ hel;subst hv;have hkl:qs.length<=9223372036854775807:=Nat.le_trans hk1 hk2;clear hqs hel hk1 hk2;go_enter Tryz.func27,Tryz.ntmps27
 go_wp2_with fail
 go_loopw [10,5] (fun i av wr=>∃ (j:Nat),i=.int .i64 (j:Nat)/\j<=qs.length/\av=.int .i64 (hasI (lkp ((qs.map Prod.fst).take j) s))/\Hid (Below w.heap.size w wr)) (fun i _ _=>qs.length - (intOf i).toNat)
 case atStart=>exact⟨0,rfl,Nat.zero_le _,rfl,h_ (Below.refl _ _)⟩
 case round =>
  obtain⟨wl,hwl⟩:∃ q,q=wr:=⟨_,rfl⟩
  subst hwl;obtain⟨j,rfl,hj,rfl,HBW⟩:=hrel
  by_cases hi:j<qs.length
  ·obtain⟨⟨a,rfl,hc⟩,-⟩:=HEL.out j hi;obtain⟨z0,z1,z2,z3,z4,z5,z6,z7,z8,z9,z10,z11,z12⟩:=cells13 (w:=wl) (p:=a.add (j*13)) (q:=qs[j].1) (x:=qs[j].2) (fun q v hv=>by have:=hc q v hv;rw[show (a.add (j*13)).add q=(a.add (j*pmE.n)).add q from rfl,HBW.out.cell (cell_lt this)];exact this);have hnx:lkp ((qs.map Prod.fst).take (j+1)) s=(if s=qs[j].1.nm then some qs[j].1.b else lkp ((qs.map Prod.fst).take j) s):=by rw[List.take_succ_eq_append_getElem (by rw[List.length_map];exact hi),lkp_snoc,List.getElem_map];rfl
   obtain⟨pp,hpp⟩:∃ q,q=qs[j]:=⟨_,rfl⟩
   rw[<-hpp] at z0 z1 z2 z3 z4 z5 z6 z7 z8 z9 z10 z11 z12 hnx;have HNX:=h_ hnx;clear hpp hc hnx;obtain⟨av,hav⟩:∃ z,z=hasI (lkp ((qs.map Prod.fst).take j) s):=⟨_,rfl⟩
   rw[<-hav];have HAV:=h_ hav;clear hav;go_upto_region 5 with fail
   clear z0 z1 z2 z3 z4 z5 z6 z7 z8 z9 z10 z11 z12;obtain⟨w1,kp,hw,hkk,hb,hs1,HBp⟩:=newb wl #[.string ⟨pp.1.nm.toArray⟩,.int .i64 (pp.1.b:Nat),.bool pp.1.kn,.int .i64 pp.2.k,.string pp.2.nm,.string pp.2.ot,.bool pp.2.b,.slice pp.2.ao pp.2.n pp.2.c,.slice pp.2.ko pp.2.kn pp.2.kc,.int .i64 pp.2.ln,.int .i64 pp.2.cl,.int .i64 (pp.1.ln:Nat),.int .i64 (pp.1.cl:Nat)] 57;rw[hw,<-hkk];replace HBW:=bw_ HBW hb;clear hw hb hkk hs1;obtain⟨c0,c1,c2,c3,c4,c5,c6,c7,c8,c9,c10,c11,c12⟩:=cl13 HBp.out
   by_cases hm:pp.1.nm=s
   ·have hmb:(pp.1.nm==s)=true:=by rw[hm];exact beq_self_eq_true _
    have HM:=h_ hm;clear hm;go_wp2_with fail
    go_roundw
    case rel=>exact⟨j+1,by go_num,hi,by rw[HNX.out,if_pos HM.out.symm];rfl,HBW⟩
    case measure=>simp[intOf];omega
   have hmb:(pp.1.nm==s)=false:=beq_eq_false_iff_ne.2 hm;have HM:=h_ hm;clear hm;go_wp2_with fail
   go_roundw
   case rel=>exact⟨j+1,by go_num,hi,by rw[HNX.out,if_neg (fun e=>HM.out e.symm),<-HAV.out],HBW⟩
   case measure=>simp[intOf];omega
  have hjj:j=qs.length:=by omega
  subst hjj;have e:(qs.map Prod.fst).take qs.length=ps:=by rw[<-HQS.out];exact List.take_of_length_le (by rw[List.length_map];exact Nat.le_refl _)
  rw[e];obtain⟨av,hav⟩:∃ z,z=hasI (lkp ps s):=⟨_,rfl⟩
  rw[<-hav];have HAV:=h_ hav;clear hav e hi;go_wp2_with fail
  go_ret
  exact⟨by rw[<-HAV.out];rfl,HBW.out⟩
theorem table_l (w:World):∀ (k:Nat),k<29->Calls Tryz.prog 28 #[.int .i64 (k:Nat)] w fun e w'=>e=.returned (.tuple #[.int .i64 (tabL k).1,.int .i64 (tabL k).2.1,.int .i64 ((tabL k).2.2:Nat)])/\w'=w
 | 0,_ | 1,_ | 2,_ | 3,_ | 4,_ | 5,_ | 6,_ | 7,_ | 8,_ | 9,_ | 10,_ | 11,_ | 12,_ | 13,_ | 14,_ | 15,_ | 16,_ | 17,_ | 18,_ | 19,_ | 20,_ | 21,_ | 22,_ | 23,_ | 24,_ | 25,_ | 26,_ | 27,_ | 28,_=>by
  go_enter Tryz.func28,Tryz.ntmps28
  go_wp2_with fail
  exact bodyPost_ret (results_tmp3 Tryz.results28 _ _ _) rfl ⟨rfl,rfl⟩
 | k+29,h=>absurd h (by omega)
theorem here_l (w:World) (ke:Nat) (xk:Int) (xnm xot:ByteArray) (xb:Bool) (xao:Option Addr) (xn xq:Nat) (xko:Option Addr) (xkn xkc ln cl c:Nat) (hE:w.heap[ke]?=some (.cells #[.int .i64 xk,.string xnm,.string xot,.bool xb,.slice xao xn xq,.slice xko xkn xkc,.int .i64 (ln:Nat),.int .i64 (cl:Nat)] 48 (0,0))) :
  Calls Tryz.prog 26 #[.int .i64 (c:Nat),.pointer (some ⟨ke,0,none⟩)] w fun e w'=>e=.returned (.tuple #[.int .i64 0,fltV (c,ln,cl)])/\Below w.heap.size w w':=by
 have HBe:=h_ hE;have hlt:=lt_of_block hE;clear hE;go_enter Tryz.func26,Tryz.ntmps26
 go_upto_region 1 with fail
 have hek:ke<w.heap.size:=hlt;obtain⟨w1,kr,hw,hkk,hb,hs1,HBr⟩:=newb w #[.int .i64 0,.int .i64 0,.int .i64 0] 36;have he_r:=lk_ hkk HBe;rw[hw,<-hkk];replace HBe:=kB hb HBe;have HB1:=h_ hb;have hwr:w.heap.size<=kr:=by rw[hkk];exact Nat.le_refl _
 clear hw hb hkk hs1;have hlt_e:=lt_of_block HBe.out;refine R7.r0 [[],[],[1],[],[3],[0,1,2,3,4],[],[0,1,2,3,4,5,6]] 7 ?_;refine R7.cd ?_ (fun T xs wr hA=>?_) ?_
 rotate_left
 ·have e0:=hA.pq 0;simp only[gsa,gsz] at e0;clear hA;go_simp<;>(try with_reducible rfl)
 refine R7.cd ?_ (fun T xs wr hA=>?_) ?_
 rotate_left
 ·have e1:=hA.pq 1;simp only[gsa,gsc,gsz] at e1;clear hA;go_simp<;>(try with_reducible rfl)
 refine R7.cd ?_ (fun T xs wr hA=>?_) ?_
 rotate_left
 ·have e6:=tr_ (hA.tq 1 6) (hA.fq 1)
  (try simp (disch:=decide) only [R7.mi] at e6)
  have hBq:wr.heap[ke]?=_:=(hA.bl _ hlt_e (fun q h=>absurd h (Nat.not_lt_zero _))).trans HBe.out;obtain⟨q0,q1,q2,q3,q4,q5,q6,q7⟩:=cl8 hBq;clear hBq;clear hA;go_simp<;>(try with_reducible rfl)
 refine R7.cd ?_ (fun T xs wr hA=>?_) ?_
 rotate_left
 ·have e1:=hA.pq 1;simp only[gsa,gsc,gsz] at e1;clear hA;go_simp<;>(try with_reducible rfl)
 refine R7.cd ?_ (fun T xs wr hA=>?_) ?_
 rotate_left
 ·have e8:=tr_ (hA.tq 3 8) (hA.fq 3)
  (try simp (disch:=decide) only [R7.mi] at e8)
  have hBq:wr.heap[ke]?=_:=(hA.bl _ hlt_e (fun q h=>absurd h (Nat.not_lt_zero _))).trans HBe.out;obtain⟨q0,q1,q2,q3,q4,q5,q6,q7⟩:=cl8 hBq;clear hBq;clear hA;go_simp<;>(try with_reducible rfl)
 refine R7.cd ?_ (fun T xs wr hA=>?_) ?_
 rotate_left
 ·have e5:=tr_ (hA.tq 0 5) (hA.fq 0);have e7:=tr_ (hA.tq 2 7) (hA.fq 2);have e9:=tr_ (hA.tq 4 9) (hA.fq 4)
  (try simp (disch:=decide) only [R7.mi] at e5 e7 e9)
  clear hA;go_simp<;>(try with_reducible rfl)
 refine R7.cd ?_ (fun T xs wr hA=>?_) ?_
 rotate_left
 ·clear hA;go_simp<;>(try with_reducible rfl)
 refine R7.Chain.done (fun xs w2 hL=>?_);obtain⟨⟨hbe,hbl⟩,hf,-,-⟩:=hL;have f0:xs 0=_:=hf 0 (by decide);have f1:xs 1=_:=hf 1 (by decide);have f2:xs 2=_:=hf 2 (by decide);have f3:xs 3=_:=hf 3 (by decide);have f4:xs 4=_:=hf 4 (by decide);have f5:xs 5=_:=hf 5 (by decide);have f6:xs 6=_:=hf 6 (by decide)
 (try simp (disch:=decide) only [R7.mi] at f0 f1 f2 f3 f4 f5 f6)
 have hb:Below w1.heap.size w1 w2:=R7.b0_ hbe;clear hbe hbl hf;refine R7.rest_list (by decide) (by kernel_rfl) ?_;simp only[R7.fill,t1_,t2_,t3_,t4_,t5_,t6_,t7_,f0,f1,f2,f3,f4,f5,f6];clear hlt_e f0 f1 f2 f3 f4 f5 f6;replace HBe:=kB hb HBe;replace HBr:=kB hb HBr;have HBZ:=h_ hb;clear hb;obtain⟨r0,r1,r2⟩:=cl3 HBr.out;obtain⟨fr0,fr1,fr2⟩:=fr3 HBr.out;have HBW2:Hid (Below w.heap.size w w2):=h_ (HB1.out.trans (HBZ.out.mono HB1.out.size));go_wp2_with fail
 obtain⟨wz,hw⟩:∃ x,x=w2.setCells kr 0 [.int .i64 (c:Nat),.int .i64 (ln:Nat),.int .i64 (cl:Nat)]:=⟨_,rfl⟩
 have hg:w2.grownBy wz (some kr):=by rw[hw];exact setCells_grown _ _ _ _
 have hv:=put_same [.int .i64 (c:Nat),.int .i64 (ln:Nat),.int .i64 (cl:Nat)] w2 kr 0 _ _ HBr.out (Nat.le_of_ble_eq_true rfl);rw[<-hw] at hv;rw[show ((w2.setCell ⟨kr,0,none⟩ (.int .i64 (c:Nat))).setCell ⟨kr,1,none⟩ (.int .i64 (ln:Nat))).setCell ⟨kr,2,none⟩ (.int .i64 (cl:Nat))=wz from hw.symm];refine bodyPost_ret (v:=.tuple #[.int .i64 0,.agg #[.int .i64 (c:Nat),.int .i64 (ln:Nat),.int .i64 (cl:Nat)]]) (res_cell3 Tryz.results26 (by rfl) [.int .i64 (c:Nat),.int .i64 (ln:Nat),.int .i64 (cl:Nat)] (fun j v hv2=>by rw[add_lit,Nat.zero_add];exact cell_at hv j (by rw[gsa];exact hv2)) Tryz.underlying36 rfl (by kernel_rfl)) rfl ⟨rfl,?_⟩
 exact⟨hg.os.trans HBW2.out.os,hg.tape.trans HBW2.out.tape,hg.output.trans HBW2.out.output,Nat.le_trans HBW2.out.size hg.size,fun i hi=>(hg.block i (by have:=HBW2.out.size;omega) (fun e=>by injection e with e;omega)).trans (HBW2.out.block i hi)⟩
theorem flat_atL {α:Type} {n:Nat} (f:α->List Value) (hf:∀ a,(f a).length=n):∀ (l:List α) (i j:Nat) (hi:i<l.length),j<n->(l.flatMap f)[i*n+j]?=(f l[i])[j]?:=by
 intro l
 induction l with
 | nil=>intro i j hi;simp at hi
 | cons a l ih =>
  intro i j hi hj;rw[List.flatMap_cons]
  cases i with
  | zero=>rw[Nat.zero_mul,Nat.zero_add,List.getElem?_append_left (by rw[hf];exact hj)];rfl
  | succ i =>
   rw[List.getElem?_append_right (by rw[hf,Nat.add_mul];omega),hf,show (i+1)*n+j - n=i*n+j by rw[Nat.add_mul];omega,List.getElem_cons_succ];exact ih i j (by simpa using hi) hj
theorem flat_lenL {α:Type} {n:Nat} (f:α->List Value) (hf:∀ a,(f a).length=n):∀ l:List α,(l.flatMap f).length=l.length*n:=by
 intro l
 induction l with
 | nil=>simp
 | cons a l ih=>rw[List.flatMap_cons,lsa,ih,hf,lsc,Nat.add_mul];omega
theorem run_append_nn {P:Program} (w:World) (t ty e:TypeId) (i:TypeInfo) (z:Value) (ht:P.underlying t=some (.slice e)) (hi:P.info? e=some i) (hz:i.zero=some z) (c:Nat) :
  (Builtin.append_ #[t,t] ty #[.slice none 0 0,.slice none 0 c]).run P w=.ok (.slice none 0 0) w:=by
 simp[Builtin.append_,run_underlying ht,sizeOf,typeInfo,zeroValue,hi,hz,Builtin.lenOf,Builtin.firstCells]
theorem append_freshB {P:Program} {w w':World} {t ty e:TypeId} {i:TypeInfo} {z:Value} (ht:P.underlying t=some (.slice e)) (hi:P.info? e=some i) (hz:i.zero=some z)
  {base n m c:Nat} {v v':Value} {xs news:List Value} (hown:w.ownsRow base e i.size v n xs) {a:Addr} (hl:news.length=m*i.size) (hnews:∀ j u,news[j]?=some u->w.cell? (a.add j)=some u) (h1:∀ u ∈ news,u.oneCell'=true)
  (h63:n+m<=2000000000000) (hbytes:(n+m)*i.bytes<=140737488355328) (hm:0<m) (hzs:z.cells.size=i.size) (hsz:0<i.size)
  (hr:(Builtin.append_ #[t,t] ty #[v,.slice (some a) m c]).run P w=.ok v' w'):Fresh w v v':=by
 have h0:=hown;rcases hown.2 with ⟨rfl,rfl⟩ | ⟨g,cap,cur,rfl,hbg,hg,hnc,hcm,hcs,htake⟩
 ·have hx:xs=[]:=List.eq_nil_of_length_eq_zero (by simpa using hown.1);subst hx;obtain⟨v2,w2,hr2,ho2,_,_⟩:=run_append_own (P:=P) w w.heap.size t ty e i z i.size i.bytes ht hi hz rfl rfl hzs hsz (.slice none 0 0) 0 [] (World.ownsRow_nil w _ e i.size) a m c news hl hnews h1 (by unfold maxLen;omega) hbytes (Nat.le_refl _);rw[hr] at hr2;injection hr2 with e1 e2;subst e1;exact fun g hg=>.inr (ho2.lt g hg).1
 by_cases hroom:n+m<=cap
 ·have hfit:n*i.size+news.length<=cur.size:=by rw[hl,hcs,<-Nat.add_mul];exact Nat.mul_le_mul_right _ hroom
  rw[run_append_room (P:=P) w t ty e i ht hi g n cap cur hg a m c news hl hnews h1 hroom hfit] at hr;injection hr with e1 e2;subst e1;exact fun q hq=>.inl hq
 rw[run_append_grow (P:=P) w t ty e i z ht hi hz ⟨g,0,none⟩ n cap xs h0.1 (h0.cells (g:=g) rfl) a m c news hl hnews (by omega) (by omega) (growslice_fits (by omega) hbytes)] at hr;injection hr with e1 e2;subst e1;intro q hq;injection hq with hq;exact .inr (by rw[<-hq];exact Nat.le_refl _)
theorem wpList_append_elB {P:Program} (w:World) {ops:Array Oper} {rest:List Oper} {o:Oper} {a:Act} {Q:Exit->Act->World->Prop} (hgd:o.guard=none) (s x:Operand) (t:TypeId)
  (ho:o.op=.call { callee:=.builtin .append,args:=#[s,x],argTypes:=#[t,t] })
  (e:TypeId) (ht:P.underlying t=some (.slice e)) {z:Value} {size bytes:Nat} (hinfo:(P.info? e).map (fun i=>(i.zero,i.size,i.bytes))=some (some z,size,bytes)) (hzs:z.cells.size=size) (hsz:0<size) 
  (base:Nat) (v:Value) (n:Nat) (xs:List Value) (hs:a.eval s=v) (hown:w.ownsRow base e size v n xs)
  (h:Nat) (T:TypeId) (cs:List Value) (hcs:cs.length=size) (h1:∀ u ∈ cs,u.oneCell'=true) (hx:a.eval x=.slice (some ⟨h,0,none⟩) 1 1) (hc:w.heap[h]?=some (.cells cs.toArray T (0,0)))
  (hb2:(n+1)*bytes<=140737488355328) (hlen:n<=1000000000000) (hbase:base<=w.heap.size)
  (hK:∀ v' w',w'.ownsRow base e size v' (n+1) (xs++cs)->w.grownBy w' v.ownBlock->Fresh w v v'->wpList P ops Q rest (a.put o.dst v') w'):wpList P ops Q (o::rest) a w:=by
 obtain⟨i,hi,hz,hz1,hz2⟩:=info_parts hinfo;subst hz1 hz2;have hnews:∀ j u,cs[j]?=some u->w.cell? ((⟨h,0,none⟩:Addr).add j)=some u:=fun j u hj=>World.news_of_block hc j u (by simpa using hj)
 refine wpList_plain hgd fun K hk=>?_
 obtain⟨v',w',hr,h2,h3,h4⟩:=run_append_own (P:=P) w base t o.type e i z i.size i.bytes ht hi hz rfl rfl hzs hsz v n xs hown ⟨h,0,none⟩ 1 1 cs (by rw[hcs,Nat.one_mul]) hnews h1 (by unfold maxLen;omega) hb2 hbase;have hf:=append_freshB ht hi hz hown (c:=1) (m:=1) (by rw[hcs,Nat.one_mul]) hnews h1 (by omega) hb2 (by decide) hzs hsz hr;unfold Oper.wp execOp;simp only[ho,resolve,invoke,builtin,Sem.run_bind,Sem.run_pure,Result.andThen_ok,List.map_toArray,List.map_cons,List.map_nil,hs,hx,hr];exact hk _ _ (hK v' w' h2 h3 hf)
section
variable {α:Type} {E:El α}
theorem El.Row.appendB {w:World} {B:Nat} {S:Nat->Prop} {v:Value} {el:List α} (h:E.Row w B S v el) {ops:Array Oper} {rest:List Oper} {o:Oper} {a:Act} {Q:Exit->Act->World->Prop} (hgd:o.guard=none) (s x:Operand) (t:TypeId)
  (ho:o.op=.call { callee:=.builtin .append,args:=#[s,x],argTypes:=#[t,t] }) (ht:Tryz.prog.underlying t=some (.slice E.e)) {z:Value} {bytes:Nat} (hinfo:(Tryz.prog.info? E.e).map (fun i=>(i.zero,i.size,i.bytes))=some (some z,E.n,bytes)) (hzs:z.cells.size=E.n) 
  (hs:a.eval s=v) (u:α) (k:Nat) (T:TypeId) (hx:a.eval x=.slice (some ⟨k,0,none⟩) 1 1) (hc:w.heap[k]?=some (.cells (E.f u).toArray T (0,0))) (hu:E.R w (fun b=>S b/\v.ownBlock≠some b) u) (hb2:(el.length+1)*bytes<=140737488355328) (hlen:el.length<=1000000000000) (hB:B<=w.heap.size)
  (hK:∀ v' w',E.Row w' B S v' (el++[u])->w.grownBy w' v.ownBlock->wpList Tryz.prog ops Q rest (a.put o.dst v') w'):wpList Tryz.prog ops Q (o::rest) a w:=by
 refine wpList_append_elB w hgd s x t ho E.e ht hinfo hzs E.pos B v el.length (el.flatMap E.f) hs h.1 k T (E.f u) (E.len u) (E.one u) hx hc hb2 hlen hB fun v' w' h1 h2 h3=>hK v' w' ⟨?_,?_⟩ h2
 ·rw[lsa,List.flatMap_append];simpa using h1
 have key:∀ q,E.R w (fun b=>S b/\v.ownBlock≠some b) q->E.R w' (fun b=>S b/\v'.ownBlock≠some b) q:=fun q hq =>
  E.mono (S:=fun b=>(S b/\v.ownBlock≠some b)/\b<w.heap.size) (fun b hb=>⟨hb.1.1,fun e=>by rcases h3 b e with h | h;exact hb.1.2 h;omega⟩) (E.keep (fun g hg=>h2.block g hg.2 (fun e=>hg.1.2 e.symm)) (E.lt hq))
 intro q hq;rcases List.mem_append.1 hq with hq | hq
 ·exact key q (h.2 q hq)
 rw[List.mem_singleton] at hq;subst hq;exact key _ hu
theorem El.At.spread {w:World} {S:Nat->Prop} {v:Value} {el:List α} (h:E.At w S v el) {ops:Array Oper} {rest:List Oper} {o:Oper} {a:Act} {Q:Exit->Act->World->Prop} (hgd:o.guard=none) (s x:Operand) (t:TypeId)
  (ho:o.op=.call { callee:=.builtin .append,args:=#[s,x],argTypes:=#[t,t] }) (ht:Tryz.prog.underlying t=some (.slice E.e)) {z:Value} {bytes:Nat} (hinfo:(Tryz.prog.info? E.e).map (fun i=>(i.zero,i.size,i.bytes))=some (some z,E.n,bytes)) (hzs:z.cells.size=E.n) (hs:a.eval s=.slice none 0 0) (hx:a.eval x=v) (hb2:el.length*bytes<=140737488355328) (hlen:el.length<=1000000000000)
  (hK:∀ v' w',E.Row w' w.heap.size S v' el->Below w.heap.size w w'->wpList Tryz.prog ops Q rest (a.put o.dst v') w'):wpList Tryz.prog ops Q (o::rest) a w:=by
 obtain⟨i,hi,hz,hz1,hz2⟩:=info_parts hinfo;obtain⟨ko,kc,rfl,h1,h2,h3⟩:=h
 cases ko with
 | none =>
  have hl0:el=[]:=by
   cases el with
   | nil=>rfl
   | cons q el=>obtain⟨⟨b,hb,-⟩,-⟩:=h3 0 (by simp);cases hb
  subst hl0;refine wpList_plain hgd fun K hk=>?_
  have hr:=run_append_nn (P:=Tryz.prog) w t o.type E.e i z ht hi hz kc;unfold Oper.wp;simp only[lsn] at hx
  simp[execOp,ho,resolve,invoke,builtin,hs,hx,hr,Result.andThen]
  exact hk _ _ (hK _ _ (El.Row.nil _ _ _) (Below.refl _ _))
 | some ad =>
  have hnews:∀ j u,(el.flatMap E.f)[j]?=some u->w.cell? (ad.add j)=some u:=by
   intro j u hu;have hj:j<el.length*E.n:=by rw[<-flat_lenL E.f E.len];exact (List.getElem?_eq_some_iff.1 hu).1
   have hd:j / E.n<el.length:=(Nat.div_lt_iff_lt_mul E.pos).2 hj;have hm:j % E.n<E.n:=Nat.mod_lt _ E.pos;have he:j / E.n*E.n+j % E.n=j:=by rw[Nat.mul_comm];exact Nat.div_add_mod j E.n
   rw[<-he,flat_atL E.f E.len el _ _ hd hm] at hu;obtain⟨⟨b,hb,hc⟩,-⟩:=h3 (j / E.n) hd;injection hb with hb;subst hb;have:=hc _ _ hu
   rwa [addr_add_add,he] at this
  refine wpList_append_own (P:=Tryz.prog) w hgd s x t ho w.heap.size E.e i z E.n bytes ht hi hz hz1 hz2 hzs E.pos (.slice none 0 0) 0 [] hs (World.ownsRow_nil _ _ _ _) ad el.length kc (el.flatMap E.f) hx (flat_lenL E.f E.len el) hnews (fun u hu=>?_) (by unfold maxLen;omega) (by rw[Nat.zero_add];exact hb2) (Nat.le_refl _) fun v' w' g1 g2 g3=>?_
  ·obtain⟨q,_,hq⟩:=List.mem_flatMap.1 hu;exact E.one q u hq
  have hb:Below w.heap.size w w':=⟨g2.os,g2.tape,g2.output,g2.size,fun k hk=>g2.block k hk (fun e=>by cases e)⟩
  rw[Nat.zero_add,List.nil_append] at g1;refine hK v' w' ⟨g1,fun q hq=>?_⟩ hb;obtain⟨n,hn,rfl⟩:=List.mem_iff_getElem.1 hq;refine E.mono (S:=fun g=>S g/\g<w.heap.size) (fun g hg=>⟨hg.1,fun e=>?_⟩) (E.keep (fun g hg=>hb.block g hg.2) (E.lt (h3 n hn).2));have:=(World.ownsRow.lt g1 g e).1
  omega
end
def pmN (nm:Bs) (b:Nat):PmU:=⟨nm,b,false,u0,0,0⟩
theorem um_new (w:World) (S:Nat->Prop) (nm:Bs) (b:Nat):pmE.R w S (pmN nm b,xZ):=by
 unfold pmE;exact um_zero w S
theorem lkp_more (ps:List PmU) (nm:Bs) (b:Nat):lkp (ps++[pmN nm b])=(lkp ps).put nm b:=lkp_snoc ps _
theorem more_l (w:World) (S:Nat->Prop) (v:Value) (ps:List PmU) (nm:Bs) (b:Nat) (hp:PmsAt w S v ps) (hl:ps.length<=800000000000) :
  Calls Tryz.prog 11 #[v,.string ⟨nm.toArray⟩,.int .i64 (b:Nat)] w fun e w'=>∃ v',e=.returned v'/\PmsAt w' (fun g=>S g\/w.heap.size<=g) v' (ps++[pmN nm b])/\Below w.heap.size w w':=by
 obtain⟨qs,hqs,hat⟩:=hp;have HQS:=h_ hqs;have HAT:=h_ hat;have HQL:Hid (qs.length<=800000000000):=h_ (by rw[<-hqs,List.length_map] at hl;exact hl);clear hqs hat hl;go_enter Tryz.func11,Tryz.ntmps11
 go_upto_region 1 with fail
 refine wp_region_lit ?_;refine wpList_plain rfl fun K0 hK0=>?_
 go_simp
 refine hK0 _ _ ?_;clear hK0;refine El.At.spread (E:=pmE) HAT.out rfl (.const (.slice none 0 0)) (.tmp 7) 52 rfl Tryz.underlying52 infoParam rfl rfl rfl (by have:=HQL.out;omega) (by have:=HQL.out;omega) ?_;intro v1 w1 hrow hb;have HRW:=h_ hrow;have HB:=h_ hb;clear hrow hb;have hxz:xZ=⟨0,⟨#[]⟩,⟨#[]⟩,false,none,0,0,none,0,0,0,0⟩:=rfl
 iterate 4 (refine wpList_plain rfl fun K0 hK0=>?_;go_simp;refine hK0 _ _ ?_;clear hK0)
 obtain⟨w2,k,hw,hkk,hb,hs1,HBk⟩:=newb w1 (pmC (pmN nm b) xZ).toArray 57;have HB2:=h_ hb;have HKK:=h_ hkk;rw[show w1.alloc (.cells #[.string ⟨nm.toArray⟩,.int .i64 (b:Nat),.bool false,.int .i64 0,.string ⟨#[]⟩,.string ⟨#[]⟩,.bool false,.slice none 0 0,.slice none 0 0,.int .i64 0,.int .i64 0,.int .i64 0,.int .i64 0] 57)=w2 from hw,<-hkk];clear hw hkk hb hs1;refine El.Row.appendB (E:=pmE) (B:=w.heap.size) (S:=fun g=>S g) (HRW.out.below HB2.out) rfl (.tmp 8) (.tmp 12) 52 rfl Tryz.underlying52 infoParam rfl rfl (pmN nm b,xZ) k 57 rfl HBk.out (um_new _ _ nm b) (by have:=HQL.out;omega) (by have:=HQL.out;omega) (by have:=HB.out.size;have:=HB2.out.size;omega) ?_;intro v3 w3 hrow hg;have HR3:=h_ hrow;have HG:=h_ hg;clear hrow hg;have hrw2:=HRW.out.below HB2.out
 have hb3:Below w.heap.size w w3:=by
  refine⟨HG.out.os.trans (HB2.out.os.trans HB.out.os),HG.out.tape.trans (HB2.out.tape.trans HB.out.tape),HG.out.output.trans (HB2.out.output.trans HB.out.output),Nat.le_trans HB.out.size (Nat.le_trans HB2.out.size HG.out.size),fun g hg=>?_⟩;rw[HG.out.block g (by have:=HB.out.size;have:=HB2.out.size;omega) (fun e=>by have:=(hrw2.ge e.symm).1;omega),HB2.out.block g (by have:=HB.out.size;omega),HB.out.block g hg]
 have HB3:=h_ hb3;clear hb3 hrw2;go_wp2_with fail
 go_ret
 exact⟨v3,rfl,⟨qs++[(pmN nm b,xZ)],by rw[List.map_append,HQS.out];rfl,HR3.out.at (fun g hg=>.inl hg) (fun g hg=>.inr hg)⟩,HB3.out⟩
end Go.Proofs.YtpclhpfcbjgokaaGreatDoor
namespace Go.Proofs.YtpclhpfcbjgokaaGreatDoor
open Go.RowKit
set_option maxRecDepth 100000
set_option linter.unusedVariables false
theorem lexF_ne (l:Bs) (h0:¬ (lexS l (1,1)).2=0):∃ f,lexF l=some f:=by
 unfold lexF;rw[if_neg h0]
 cases h:(lexS l (1,1)).1.getLast? with
 | none=>rw[List.getLast?_eq_none_iff] at h;exact absurd h (lex_ne l (1,1))
 | some t=>exact⟨_,rfl⟩
theorem prog_told (l:Bs) (hl:l.length<=3000):∃ r:PgU × St,(lexF l=none->cProg 3001 24015 ⟨[],[]⟩ (st0 l)=some r)/\(pgF l r=none->PgB r.1/\PgDp r.1/\PgSz r.1):=by
 by_cases h0:(lexS l (1,1)).2=0
 ·have hgt:=gt_st0 l hl h0;have hlen:(st0 l).rest.length<=3001:=toks_mem hl;obtain⟨x,h1,hB,-⟩:=prog_c (m:=3001) (n:=24015) (p:=⟨[],[]⟩) hgt ⟨by simp,by simp⟩ hlen (by omega);have hd:=prog_ud (p:=⟨[],[]⟩) ⟨by simp,by simp⟩ h1;have hw:=prog_uw (p:=⟨[],[]⟩) ⟨by simp,by simp⟩ h1;have hn:=prog_cnt (d:=3002) (p:=⟨[],[]⟩) (by omega) ⟨by simp,by simp⟩ h1;have c1:24015+3<=1000000:=by omega
  have c2:24015*24015+1<=100000000000:=by omega
  refine⟨x,fun _=>h1,fun _=>⟨hB,?_,?_⟩⟩
  ·exact⟨fun q hq=>⟨Nat.le_trans (hw.1 q hq) c1,Nat.le_trans (hd.1 q hq) c2⟩,fun f hf=>⟨fun p hp=>⟨Nat.le_trans ((hw.2 f hf).1 p hp) c1,Nat.le_trans ((hd.2 f hf).1 p hp) c2⟩,⟨Nat.le_trans (hw.2 f hf).2.1 c1,Nat.le_trans (hd.2 f hf).2.1 c2⟩,Nat.le_trans (hw.2 f hf).2.2 c1,Nat.le_trans (hd.2 f hf).2.2 c2⟩⟩
  have h:=hn.2;simp only[lsn] at h;exact⟨⟨fun q hq=>Nat.le_trans (hn.1.1 q hq) (by omega),fun f hf=>Nat.le_trans (hn.1.2 f hf) (by omega)⟩,by omega,by omega⟩
 obtain⟨f,hf⟩:=lexF_ne l h0;refine⟨(⟨[],[]⟩,st0 l),fun h=>(by rw[hf] at h;cases h),fun h=>?_⟩;unfold pgF at h;rw[hf] at h
 cases h
def AN5 (g:Af):Prop:=∀ l e,g l=.error e->e.1<=5
theorem an5_af {gs:List Af} (h:∀ g ∈ gs,AN5 g) (i:Nat):AN5 (af gs i):=by
 unfold af
 cases hi:gs[i]? with
 | none=>intro l e h;cases h
 | some f=>exact h f (List.mem_of_getElem? hi)
theorem an5_run:∀ {gs:List Af},(∀ g ∈ gs,AN5 g)->∀ l e,aRun gs l=.error e->e.1<=5
 | [],_,_,_,h=>by cases h
 | g::gs,hg,l,e,h=>by
  rw[aRun] at h
  split at h
  ·rename_i e' he;injection h with h;subst h;exact hg g (by simp) _ _ he
  split at h
  ·rename_i e' he;injection h with h;subst h;exact an5_run (fun x hx=>hg x (by simp[hx])) _ _ he
  cases h
theorem an5_node (F:Fs) (rf:Bool) (k:Nat) (nm ot:Bs) (ln cl:Nat) (ps:Bool) {gs:List Af} (hg:∀ g ∈ gs,AN5 g):AN5 (aNode F rf k nm ot ln cl ps gs):=by
 have q1:∀ {c:Nat} {e:Flt} {β:Type},(.error (c,ln,cl):Except Flt β)=.error e->c<=5->e.1<=5:=fun h hc=>by injection h with h;subst h;exact hc
 intro l e h;unfold aNode at h
 split at h
 ·unfold aLet at h
  split at h
  ·rename_i e' he;injection h with h;subst h;exact an5_af hg 0 _ _ he
  split at h;exact q1 h (by decide)
  split at h;exact q1 h (by decide)
  exact an5_af hg 1 _ _ h
 split at h
 ·unfold aMatch at h
  split at h
  ·rename_i e' he;injection h with h;subst h;exact an5_af hg 0 _ _ he
  split at h;exact q1 h (by decide)
  split at h;exact q1 h (by decide)
  split at h;exact q1 h (by decide)
  split at h
  ·rename_i e' he;injection h with h;subst h;exact an5_af hg 1 _ _ he
  split at h
  ·rename_i e' he;injection h with h;subst h;exact an5_af hg 2 _ _ he
  split at h;exact q1 h (by decide)
  cases h
 split at h
 ·unfold aAssert at h
  split at h
  ·rename_i e' he;injection h with h;subst h;exact an5_af hg 0 _ _ he
  split at h;exact q1 h (by decide)
  split at h;exact q1 h (by decide)
  exact an5_af hg 1 _ _ h
 split at h
 ·rename_i e' he;injection h with h;subst h;exact an5_run hg _ _ he
 unfold aRest at h
 split at h
 ·unfold aVar at h;split at h;exact q1 h (by decide);cases h
 split at h
 ·unfold aCall at h
  split at h;exact q1 h (by decide)
  split at h;exact q1 h (by decide)
  split at h;cases h
  exact q1 h (by decide)
 split at h
 ·unfold aIf at h
  split at h;exact q1 h (by decide)
  split at h;exact q1 h (by decide)
  cases h
 split at h
 ·unfold aEq at h
  split at h;exact q1 h (by decide)
  cases h
 unfold aOp at h
 split at h;exact q1 h (by decide)
 split at h;exact q1 h (by decide)
 split at h;exact q1 h (by decide)
 cases h
mutual
theorem an5_b (F:Fs) (rf:Bool):∀ u:U,AN5 (aB F rf u)
 | .node k nm ot z ln cl ks=>by rw[aB];exact an5_node _ _ _ _ _ _ _ _ (an5_bs F rf ks)
theorem an5_bs (F:Fs) (rf:Bool):∀ us:List U,∀ g ∈ aBs F rf us,AN5 g
 | [],f,h=>by rw[aBs] at h;cases h
 | u::us,f,h=>by
  rw[aBs] at h;rcases List.mem_cons.1 h with rfl | h
  ·exact an5_b F rf u
  exact an5_bs F rf us f h
end
theorem twc_5 (l:List PmU) (i:Nat):(twc l i).1<=5:=by
 unfold twc
 split
 ·decide
 split
 ·show 3<=5;decide
 decide
theorem tru_5 (u:U) (l:Sc):(tru u l).1<=5:=by
 unfold tru
 split
 ·rename_i e he;exact an5_b g0.fs true u _ _ he
 split
 ·decide
 show 4<=5;decide
theorem bod_5 (F:Fs) (f:FnU):(bod F f).1<=5:=by
 unfold bod
 split
 ·rename_i e he;exact an5_b F false f.body _ _ he
 split
 ·decide
 show 4<=5;decide
theorem flts_5 (p:PgU):∀ e ∈ flts p,e.1<=5:=by
 intro e he;unfold flts at he;simp only[List.mem_append,List.mem_flatMap,List.mem_range] at he;rcases he with ((⟨i,-,he⟩ | ⟨i,-,he⟩) | he) | ⟨f,-,he⟩
 ·unfold fQual at he
  split at he
  ·cases he
  simp only[List.mem_append,List.mem_map,List.mem_range,List.mem_singleton] at he;rcases he with (⟨_,-,rfl⟩ | ⟨k,-,rfl⟩) | rfl
  ·show 3<=5;decide
  ·exact twc_5 _ _
  exact tru_5 _ _
 ·unfold fDup at he
  split at he
  ·cases he
  simp only[List.mem_map] at he;obtain⟨_,-,rfl⟩:=he
  show 3<=5;decide
 ·split at he
  ·cases he
  rw[List.mem_singleton] at he;subst he;decide
 unfold fFun at he;simp only[List.mem_append,List.mem_flatMap,List.mem_range,List.mem_singleton] at he;rcases he with (⟨k,-,he⟩ | he) | rfl
 ·unfold fPar at he
  split at he
  ·cases he
  rcases List.mem_cons.1 he with rfl | he
  ·exact twc_5 _ _
  split at he
  ·rw[List.mem_singleton] at he;subst he;exact tru_5 _ _
  cases he
 ·split at he
  ·rw[List.mem_singleton] at he;subst he;exact tru_5 _ _
  cases he
 exact bod_5 _ _
theorem twc_hit {l:List PmU} {i k:Nat} (hi:i<l.length) (hk:k<l.length) (hki:k<i) (h:l[k].nm=l[i].nm):twc l i=(3,l[i].ln,l[i].cl):=by
 unfold twc;rw[List.getElem?_eq_getElem hi];simp only;rw[if_pos];rw[List.any_eq_true];exact⟨l[k],by rw[List.mem_take_iff_getElem];exact⟨k,by omega,rfl⟩,by simpa using h⟩
theorem twc_miss {l:List PmU} {i:Nat} (hi:i<l.length) (h:∀ k (hk:k<l.length),k<i->l[k].nm≠l[i].nm):twc l i=f0:=by
 unfold twc;rw[List.getElem?_eq_getElem hi];simp only;rw[if_neg];rw[List.any_eq_true];rintro⟨p,hp,hq⟩;rw[List.mem_take_iff_getElem] at hp;obtain⟨k,hk,rfl⟩:=hp;exact h k (by omega) (by omega) (by simpa using hq)
def fltE:El Flt where
 e:=36
 n:=3
 f b:=[.int .i64 (b.1:Nat),.int .i64 (b.2.1:Nat),.int .i64 (b.2.2:Nat)]
 R _ _ _:=True
 pos:=by decide
 len _:=rfl
 one b:=by
  intro u hu;simp only[List.mem_cons,List.not_mem_nil,or_false] at hu;rcases hu with rfl | rfl | rfl<;>rfl
 keep _ _:=trivial
 mono _ _:=trivial
 lt _:=trivial
 noAt:=by decide
theorem infoFlt:(Tryz.prog.info? 36).map (fun i=>(i.zero,i.size,i.bytes))=some (some (.agg #[.int .i64 0,.int .i64 0,.int .i64 0]),3,24):=by kernel_rfl
theorem El.At.take {α:Type} {E:El α} {w:World} {S:Nat->Prop} {ko:Option Addr} {m kc:Nat} {el:List α} (h:E.At w S (.slice ko m kc) el) {k:Nat} (hk:k<=el.length):E.At w S (.slice ko k kc) (el.take k):=by
 obtain⟨ko2,kc2,e,h1,h2,h3⟩:=h;injection e with e1 e2 e3;subst e1 e2 e3;have hl:(el.take k).length=k:=by rw[List.length_take];omega
 refine⟨ko,kc,by rw[hl],by rw[hl];omega,fun h0 a ha=>h2 (by rw[hl] at h0;omega) a ha,fun i hi=>?_⟩;rw[hl] at hi;rw[List.getElem_take];exact h3 i (by omega)
theorem PmsAt.take {w:World} {S:Nat->Prop} {ko:Option Addr} {m kc:Nat} {ps:List PmU} (h:PmsAt w S (.slice ko m kc) ps) {k:Nat} (hk:k<=ps.length):PmsAt w S (.slice ko k kc) (ps.take k):=by
 obtain⟨qs,hq,hat⟩:=h;refine⟨qs.take k,by rw[<-hq,List.map_take],El.At.take hat (by rw[<-hq,List.length_map] at hk;exact hk)⟩
theorem range_fm {α:Type} (f:Nat->List α) (i:Nat):(List.range (i+1)).flatMap f=(List.range i).flatMap f++f i:=by
 rw[List.range_succ,List.flatMap_append,List.flatMap_cons,List.flatMap_nil,List.append_nil]
theorem range_mp {α:Type} (f:Nat->α) (i:Nat):(List.range (i+1)).map f=(List.range i).map f++[f i]:=by
 rw[List.range_succ,List.map_append,List.map_cons,List.map_nil]
end Go.Proofs.YtpclhpfcbjgokaaGreatDoor
namespace Go.Proofs.YtpclhpfcbjgokaaGreatDoor
open Go.RowKit Go.Extern.Stop Go.Stop Go.Extern
set_option maxRecDepth 100000
theorem gSize:Tryz.prog.globals.size=4:=by kernel_rfl
theorem as_valueOfP (t:Addr) (w:World):(ReflectliteValue.unpack (.iface 83 (.pointer (some t)))).run Tryz.prog w
  = .ok (.agg #[.pointer (some ⟨4,83,none⟩),.pointer (some ⟨w.heap.size,0,none⟩),.int .u64 150]) (w.alloc (.cells #[.pointer (some t)] 83)):=by kernel_rfl
theorem as_typeP (a : Addr) (w : World) : (ReflectliteValue.methodAny (ReflectliteValue.valueError "reflectlite.Value.Type" 0) (fun t _ _ _ => ReflectliteType.toType t) #[.agg #[.pointer (some ⟨4, 83, none⟩), .pointer (some a), .int .u64 150]]).run Tryz.prog w
  = .ok (.iface 147 (.agg #[.pointer (some ⟨4,83,none⟩)])) w:=by kernel_rfl
theorem as_methodKind (h : Value) (w : World) : (Go.method 339 147 (.agg #[h]) "Kind").run Tryz.prog w = .ok (144, h) w := by kernel_rfl
theorem as_kindP (w:World):((ReflectliteType.abiMethod fun t=>(fun a:Nat=>Value.int IntKind.u8 (a:Int)) <$> Rtype.kind t) #[.pointer (some ⟨4,83,none⟩)]).run Tryz.prog w=.ok (.int .u8 22) w:=by kernel_rfl
theorem as_kindA (w:World):((ReflectliteType.abiMethod fun t=>(fun a:Nat=>Value.int IntKind.u8 (a:Int)) <$> Rtype.kind t) #[.pointer (some ⟨4,81,none⟩)]).run Tryz.prog w=.ok (.int .u8 22) w:=by kernel_rfl
theorem rlm (z:Sem Value) (f:TypeId->Addr->Nat->Nat->Sem Value) (v:Value) :
  ReflectliteValue.method z f #[v]=(do match <- ReflectliteValue.parts v with | none=>z | some (t,a,fl)=>f t a fl (fl % 32)):=rfl
theorem as_partsP (a:Addr) (w:World):(ReflectliteValue.parts (.agg #[.pointer (some ⟨4,83,none⟩),.pointer (some a),.int .u64 150])).run Tryz.prog w=.ok (some (83,a,150)) w:=by kernel_rfl
theorem as_isNilP (a p:Addr) (W:World) (ha:W.cell? a=some (.pointer (some p))) :
  (ReflectliteValue.method (ReflectliteValue.valueError "reflectlite.Value.IsNil" 0) ReflectliteValue.isNil #[.agg #[.pointer (some ⟨4, 83, none⟩), .pointer (some a), .int .u64 150]]).run Tryz.prog W = .ok (.bool false) W := by
 rw[rlm];simp only[Sem.run_bind,as_partsP,Result.andThen]
 simp[ReflectliteValue.isNil,loadVar,isAgg,underlying,Tryz.underlying83,ha,Result.andThen]
theorem as_methodElem (h : Value) (w : World) : (Go.method 339 147 (.agg #[h]) "Elem").run Tryz.prog w = .ok (156, .agg #[h]) w := by kernel_rfl
theorem as_methodImplements (h : Value) (w : World) : (Go.method 339 147 (.agg #[h]) "Implements").run Tryz.prog w = .ok (157, .agg #[h]) w := by kernel_rfl
theorem as_methodAssignableTo (h : Value) (w : World) : (Go.method 339 147 (.agg #[h]) "AssignableTo").run Tryz.prog w = .ok (154, .agg #[h]) w := by kernel_rfl
theorem as_elem27 (w:World):(ReflectliteType.method ReflectliteType.elem #[.agg #[.pointer (some ⟨4,83,none⟩)]]).run Tryz.prog w=.ok (.iface 147 (.agg #[.pointer (some ⟨4,81,none⟩)])) w:=by kernel_rfl
theorem as_implementsA (w : World) : (ReflectliteType.relation "Implements" ReflectliteType.implements_ #[.agg #[.pointer (some ⟨4, 81, none⟩)], .iface 147 (.agg #[.pointer (some ⟨4, 28, none⟩)])]).run Tryz.prog w = .ok (.bool true) w := by kernel_rfl
theorem as_typeOfA (v:Value) (w:World):(ReflectliteType.typeOf #[.iface 81 v]).run Tryz.prog w=.ok (.iface 147 (.agg #[.pointer (some ⟨4,81,none⟩)])) w:=by kernel_rfl
theorem as_assignableA (w : World) : (ReflectliteType.relation "AssignableTo" ReflectliteType.assignableTo #[.agg #[.pointer (some ⟨4, 81, none⟩)], .iface 147 (.agg #[.pointer (some ⟨4, 81, none⟩)])]).run Tryz.prog w = .ok (.bool true) w := by kernel_rfl
theorem as_valueOfA (e:Addr) (w:World):(ReflectliteValue.unpack (.iface 81 (.pointer (some e)))).run Tryz.prog w
  = .ok (.agg #[.pointer (some ⟨4,81,none⟩),.pointer (some ⟨w.heap.size,0,none⟩),.int .u64 150]) (w.alloc (.cells #[.pointer (some e)] 81)):=by kernel_rfl
theorem as_elemOf27 (w:World):(Rtype.elem? 83).run Tryz.prog w=.ok (some 81) w:=by kernel_rfl
theorem as_mkA (p:Addr) (w:World):(ReflectliteValue.mk 81 p ReflectliteValue.flagAddr).run Tryz.prog w=.ok (.agg #[.pointer (some ⟨4,81,none⟩),.pointer (some p),.int .u64 406]) w:=by kernel_rfl
theorem as_elemV27 (a p:Addr) (W:World) (ha:W.cell? a=some (.pointer (some p))) :
  (ReflectliteValue.method (ReflectliteValue.valueError "reflectlite.Value.Elem" 0) ReflectliteValue.elem #[.agg #[.pointer (some ⟨4, 83, none⟩), .pointer (some a), .int .u64 150]]).run Tryz.prog W
   = .ok (.agg #[.pointer (some ⟨4,81,none⟩),.pointer (some p),.int .u64 406]) W:=by
 rw[rlm];simp only[Sem.run_bind,as_partsP,Result.andThen]
 simp[ReflectliteValue.elem,loadVar,isAgg,underlying,Tryz.underlying83,ha,Result.andThen,as_elemOf27,as_mkA]
theorem rls (v x:Value):ReflectliteValue.set #[v,x]=(do
  let (some (dst,a,fl),some (src,b,_)):=(<- ReflectliteValue.parts v,<-ReflectliteValue.parts x)
   | unsupported (.noEntry "extern/(internal/reflectlite.Value).Set.zeroValue")
  if fl / ReflectliteValue.flagAddr % 2 == 0 then unsupported (.noEntry "extern/(internal/reflectlite.Value).Set.unaddressable")
  let val <- loadVar src b
  if <- Rtype.directlyAssignable dst src then storeVar dst a val
  else if <- Rtype.implements dst src then
   if (<- Rtype.kind src)==20 then
    match val with
    | .nilIface => unsupported (.noEntry "extern/reflectlite: a nil value of one interface type handed on as a value of another")
    | _=>storeVar dst a val
   else storeVar dst a (.iface src val)
  else panicString ("reflectlite.Set: value of type " ++ (← Rtype.spelt src) ++ " is not assignable to type " ++ (← Rtype.spelt dst))
  pure (.tuple #[])):=rfl
theorem as_partsAa (a:Addr) (w:World):(ReflectliteValue.parts (.agg #[.pointer (some ⟨4,81,none⟩),.pointer (some a),.int .u64 406])).run Tryz.prog w=.ok (some (81,a,406)) w:=by kernel_rfl
theorem as_partsA (a:Addr) (w:World):(ReflectliteValue.parts (.agg #[.pointer (some ⟨4,81,none⟩),.pointer (some a),.int .u64 150])).run Tryz.prog w=.ok (some (81,a,150)) w:=by kernel_rfl
theorem as_directA (w:World):(Rtype.directlyAssignable 81 81).run Tryz.prog w=.ok true w:=by kernel_rfl
theorem as_setA (ta b e:Addr) (old:Value) (W:World) (hb:W.cell? b=some (.pointer (some e))) (ht:W.cell? ta=some old) (hf:W.frozen? ta=false) :
  (ReflectliteValue.set #[.agg #[.pointer (some ⟨4,81,none⟩),.pointer (some ta),.int .u64 406],.agg #[.pointer (some ⟨4,81,none⟩),.pointer (some b),.int .u64 150]]).run Tryz.prog W
   = .ok (.tuple #[]) (W.setCell ta (.pointer (some e))):=by
 rw[rls];simp only[Sem.run_bind,as_partsAa,as_partsA,Result.andThen]
 simp[ReflectliteValue.flagAddr,loadVar,isAgg,underlying,Tryz.underlying81,hb,Result.andThen,as_directA,storeVar,Value.cells,storeCells,Addr.add]
 rw[run_store Tryz.prog W ta _ _ (by rfl)]
 simp[ht,hf]
theorem as_hit (e t:Addr) (old:Value) (w:World) (hg:w.cell? ⟨0,0,none⟩=some (.iface 147 (.agg #[.pointer (some ⟨4,28,none⟩)]))) (ht0:w.cell? t=some old) (hf0:w.frozen? t=false) :
  Calls Tryz.prog 21 #[.iface 81 (.pointer (some e)),.iface 83 (.pointer (some t))] w fun ev w'=>ev=.returned (.bool true)/\w'=((((w.alloc (.cells #[.pointer (some t)] 83)).alloc (.cells #[.pointer (some ⟨4,83,none⟩),.pointer (some ⟨w.heap.size,0,none⟩),.int .u64 150] 116)).alloc (.cells #[.pointer (some ⟨4,83,none⟩),.pointer (some ⟨w.heap.size,0,none⟩),.int .u64 150] 116)).alloc (.cells #[.pointer (some e)] 81)).setCell t (.pointer (some e)):=by
 have h6 := @run_callFunc_extern Tryz.prog 40 _ (fun args => ReflectliteValue.unpack (args.getD 0 (.tuple #[]))) Tryz.func40 (by kernel_rfl) (by kernel_rfl) (by kernel_rfl) (by kernel_rfl);have h7 := @run_callFunc_extern Tryz.prog 41 _ (ReflectliteValue.methodAny (ReflectliteValue.valueError "reflectlite.Value.Type" 0) (fun t _ _ _ => ReflectliteType.toType t)) Tryz.func41 (by kernel_rfl) (by kernel_rfl) (by kernel_rfl) (by kernel_rfl);have h8 := @run_callFunc_extern Tryz.prog 42 _ (ReflectliteValue.method (ReflectliteValue.valueError "reflectlite.Value.IsNil" 0) ReflectliteValue.isNil) Tryz.func42 (by kernel_rfl) (by kernel_rfl) (by kernel_rfl) (by kernel_rfl);have h27 := @run_callFunc_extern Tryz.prog 144 _ (ReflectliteType.abiMethod fun t => do pure (.int .u8 (← Rtype.kind t))) Tryz.func144 (by kernel_rfl) (by kernel_rfl) (by kernel_rfl) (by kernel_rfl)
 have h37 := @run_callFunc_extern Tryz.prog 156 _ (ReflectliteType.method ReflectliteType.elem) Tryz.func156 (by kernel_rfl) (by kernel_rfl) (by kernel_rfl) (by kernel_rfl);have h38 := @run_callFunc_extern Tryz.prog 157 _ (ReflectliteType.relation "Implements" ReflectliteType.implements_) Tryz.func157 (by kernel_rfl) (by kernel_rfl) (by kernel_rfl) (by kernel_rfl);have h10 := @run_callFunc_extern Tryz.prog 44 _ ReflectliteType.typeOf Tryz.func44 (by kernel_rfl) (by kernel_rfl) (by kernel_rfl) (by kernel_rfl);have h35 := @run_callFunc_extern Tryz.prog 154 _ (ReflectliteType.relation "AssignableTo" ReflectliteType.assignableTo) Tryz.func154 (by kernel_rfl) (by kernel_rfl) (by kernel_rfl) (by kernel_rfl)
 have h11 := @run_callFunc_extern Tryz.prog 65 _ (ReflectliteValue.method (ReflectliteValue.valueError "reflectlite.Value.Elem" 0) ReflectliteValue.elem) Tryz.func65 (by kernel_rfl) (by kernel_rfl) (by kernel_rfl) (by kernel_rfl);have h12 := @run_callFunc_extern Tryz.prog 66 _ ReflectliteValue.set Tryz.func66 (by kernel_rfl) (by kernel_rfl) (by kernel_rfl) (by kernel_rfl);have tO := as_typeOfA;have mA := as_methodAssignableTo;have a25 := as_assignableA;have v25 := as_valueOfA;have f6 := as_valueOfP;have f7 := as_typeP;have mK := as_methodKind;have mE := as_methodElem;have mI := as_methodImplements;have k27 := as_kindP;have k25 := as_kindA;have e27 := as_elem27;have i25 := as_implementsA
 have n8:=as_isNilP ⟨w.heap.size,0,none⟩ t ((w.alloc (.cells #[.pointer (some t)] 83)).alloc (.cells #[.pointer (some ⟨4,83,none⟩),.pointer (some ⟨w.heap.size,0,none⟩),.int .u64 150] 116)) (by simp)
 have hlt:0<w.heap.size:=by
  rcases Nat.eq_zero_or_pos w.heap.size with h0 | h
  ·simp[World.cell?,h0] at hg
  exact h
 have hg2:((w.alloc (.cells #[.pointer (some t)] 83)).alloc (.cells #[.pointer (some ⟨4,83,none⟩),.pointer (some ⟨w.heap.size,0,none⟩),.int .u64 150] 116)).cell? ⟨0,0,none⟩=some (.iface 147 (.agg #[.pointer (some ⟨4,28,none⟩)])):=by
  rw[World.cell?_alloc_lt _ _ ⟨0,0,none⟩ (by simp),World.cell?_alloc_lt _ _ ⟨0,0,none⟩ hlt];exact hg
 have htl:t.block<w.heap.size:=by
  rcases Nat.lt_or_ge t.block w.heap.size with h | h
  ·exact h
  simp[World.cell?,Array.getElem?_eq_none h] at ht0
 have el:=as_elemV27 ⟨w.heap.size,0,none⟩ t (((w.alloc (.cells #[.pointer (some t)] 83)).alloc (.cells #[.pointer (some ⟨4,83,none⟩),.pointer (some ⟨w.heap.size,0,none⟩),.int .u64 150] 116)).alloc (.cells #[.pointer (some ⟨4,83,none⟩),.pointer (some ⟨w.heap.size,0,none⟩),.int .u64 150] 116)) (by rw[World.cell?_alloc_lt _ _ ⟨w.heap.size,0,none⟩ (by simp;omega)];simp)
 have st:=as_setA t ⟨w.heap.size+1+1+1,0,none⟩ e old ((((w.alloc (.cells #[.pointer (some t)] 83)).alloc (.cells #[.pointer (some ⟨4,83,none⟩),.pointer (some ⟨w.heap.size,0,none⟩),.int .u64 150] 116)).alloc (.cells #[.pointer (some ⟨4,83,none⟩),.pointer (some ⟨w.heap.size,0,none⟩),.int .u64 150] 116)).alloc (.cells #[.pointer (some e)] 81))
  (by rw[World.cell?_alloc_at _ _ _ _ (by simp)];rfl)
  (by rw[World.cell?_alloc_lt _ _ t (by simp;omega),World.cell?_alloc_lt _ _ t (by simp;omega),World.cell?_alloc_lt _ _ t (by simp;omega),World.cell?_alloc_lt _ _ t htl];exact ht0)
  (by rw[World.frozen?_alloc_old _ _ t (by simp;omega),World.frozen?_alloc_old _ _ t (by simp;omega),World.frozen?_alloc_old _ _ t (by simp;omega),World.frozen?_alloc_old _ _ t (Nat.ne_of_lt htl)];exact hf0)
 go_enter Tryz.func21,Tryz.ntmps21
 go_wp2
 refine wp_loop_rounds 1 ?_;rw[rounds_succ]
 go_wp2
 go_ret
 exact⟨rfl,rfl⟩
theorem is_typeOf (v:Value) (w:World):(Extern.ReflectliteType.typeOf #[.iface 34 v]).run Tryz.prog w=.ok (.iface 147 (.agg #[.pointer (some ⟨4,34,none⟩)])) w:=by kernel_rfl
def cmpEntry : Array Value → Sem Value := Extern.ReflectliteType.method fun t => do Extern.Rtype.noPackHeld "Comparable" t; pure (.bool (← typeInfo t).comparable)
theorem is_comparable (w:World):(cmpEntry #[.agg #[.pointer (some ⟨4,34,none⟩)]]).run Tryz.prog w=.ok (.bool true) w:=by kernel_rfl
theorem is_methodComparable (v : Value) (w : World) : (Go.method 339 147 v "Comparable").run Tryz.prog w = .ok (155, v) w := by kernel_rfl
theorem is_comp:(Tryz.prog.info? 34).map (·.comparable)=some true:=by kernel_rfl
theorem is_noIsA (v:Value) (xT:TypeId) (w:World):(Instr.typeAssert (.iface 81 v) xT 158 true).run Tryz.prog w=.ok (.tuple #[.nilIface,.bool false]) w:=run_typeAssert_lacksB Tryz.underlying158 (by kernel_rfl) (by kernel_rfl) v xT w
theorem is_hasUnwrapA (v:Value) (xT:TypeId) (w:World):(Instr.typeAssert (.iface 81 v) xT 154 true).run Tryz.prog w=.ok (.tuple #[.iface 81 v,.bool true]) w:=run_typeAssert_hasB Tryz.underlying154 (by kernel_rfl) v xT w
theorem is_methodUnwrap (v : Value) (w : World) : (Go.method 339 81 v "Unwrap").run Tryz.prog w = .ok (149, v) w := by kernel_rfl
theorem is_noIsE (v:Value) (xT:TypeId) (w:World):(Instr.typeAssert (.iface 34 v) xT 158 true).run Tryz.prog w=.ok (.tuple #[.nilIface,.bool false]) w:=run_typeAssert_lacksB Tryz.underlying158 (by kernel_rfl) (by kernel_rfl) v xT w
theorem is_noUnwrapE (v:Value) (xT:TypeId) (w:World):(Instr.typeAssert (.iface 34 v) xT 154 true).run Tryz.prog w=.ok (.tuple #[.nilIface,.bool false]) w:=run_typeAssert_lacksB Tryz.underlying154 (by kernel_rfl) (by kernel_rfl) v xT w
theorem is_noUnwrapsE (v:Value) (xT:TypeId) (w:World):(Instr.typeAssert (.iface 34 v) xT 155 true).run Tryz.prog w=.ok (.tuple #[.nilIface,.bool false]) w:=run_typeAssert_lacksB Tryz.underlying155 (by kernel_rfl) (by kernel_rfl) v xT w
theorem is_yes (q:Nat) (p:Nat × Nat) (c k:Int) (w:World) (hA:AtB w q p (.iface 34 (.int .i64 c))) (hck:(c==k)=true) :
  Calls Tryz.prog 22 #[.iface 81 (.pointer (some ⟨q,0,none⟩)),.iface 34 (.int .i64 k)] w fun e w'=>e=.returned (.bool true)/\w'=w:=by
 have h8:=@run_callFunc_extern Tryz.prog 44 _ Extern.ReflectliteType.typeOf Tryz.func44 (by kernel_rfl) (by kernel_rfl) (by kernel_rfl) (by kernel_rfl);have h32:=@run_callFunc_extern Tryz.prog 155 _ cmpEntry Tryz.func155 (by kernel_rfl) (by kernel_rfl) (by kernel_rfl) (by kernel_rfl);have tT:=is_typeOf;have cT:=is_comparable;have mR:=is_methodComparable;have nA:=is_noIsA;have uA:=is_hasUnwrapA;have mU:=is_methodUnwrap;have nE:=is_noIsE;have uE:=is_noUnwrapE;have vE:=is_noUnwrapsE;have heq:=Lib.run_eql_iface_int (P:=Tryz.prog) (k:=.i64) w c k Tryz.underlying28 is_comp Tryz.underlying34;rw[hck] at heq;have hty:=run_eql_iface_types (P:=Tryz.prog) 81 34 (.pointer (some ⟨q,0,none⟩)) (.int .i64 k) Tryz.underlying28 (by decide) w;have c2:=cell_at hA 2 rfl;clear hck;go_enter Tryz.func22,Tryz.ntmps22
 go_wp2
 refine wp_loop_rounds 2 ?_;rw[rounds_succ]
 go_wp2
 rw[rounds_succ]
 go_wp2
 go_ret
 exact⟨rfl,rfl⟩
theorem is_no (q:Nat) (p:Nat × Nat) (c k:Int) (w:World) (hA:AtB w q p (.iface 34 (.int .i64 c))) (hck:(c==k)=false) :
  Calls Tryz.prog 22 #[.iface 81 (.pointer (some ⟨q,0,none⟩)),.iface 34 (.int .i64 k)] w fun e w'=>e=.returned (.bool false)/\w'=w:=by
 have h8:=@run_callFunc_extern Tryz.prog 44 _ Extern.ReflectliteType.typeOf Tryz.func44 (by kernel_rfl) (by kernel_rfl) (by kernel_rfl) (by kernel_rfl);have h32:=@run_callFunc_extern Tryz.prog 155 _ cmpEntry Tryz.func155 (by kernel_rfl) (by kernel_rfl) (by kernel_rfl) (by kernel_rfl);have tT:=is_typeOf;have cT:=is_comparable;have mR:=is_methodComparable;have nA:=is_noIsA;have uA:=is_hasUnwrapA;have mU:=is_methodUnwrap;have nE:=is_noIsE;have uE:=is_noUnwrapE;have vE:=is_noUnwrapsE;have heq:=Lib.run_eql_iface_int (P:=Tryz.prog) (k:=.i64) w c k Tryz.underlying28 is_comp Tryz.underlying34;rw[hck] at heq;have hty:=run_eql_iface_types (P:=Tryz.prog) 81 34 (.pointer (some ⟨q,0,none⟩)) (.int .i64 k) Tryz.underlying28 (by decide) w;have c2:=cell_at hA 2 rfl;clear hck;go_enter Tryz.func22,Tryz.ntmps22
 go_wp2
 refine wp_loop_rounds 2 ?_;rw[rounds_succ]
 go_wp2
 rw[rounds_succ]
 go_wp2
 go_ret
 exact⟨rfl,rfl⟩
def ErrType (w:World):Prop:=w.cell? ⟨0,0,none⟩=some (.iface 147 (.agg #[.pointer (some ⟨4,28,none⟩)]))
theorem ErrType.lt {w:World} (h:ErrType w):0<w.heap.size:=by
 rcases Nat.eq_zero_or_pos w.heap.size with h0 | h'
 ·unfold ErrType at h;simp[World.cell?,h0] at h
 exact h'
theorem ErrType.below {w w':World} (h:ErrType w) (hb:Below w.heap.size w w'):ErrType w':=(hb.cell (p:=⟨0,0,none⟩) h.lt).trans h
theorem as_at (q t:Nat) (w:World) (hg:ErrType w) (ht:w.heap[t]?=some (.cells #[.pointer none] 81 (0,0))) :
  Calls Tryz.prog 21 #[.iface 81 (.pointer (some ⟨q,0,none⟩)),.iface 83 (.pointer (some ⟨t,0,none⟩))] w fun e w'=>e=.returned (.bool true)/\w'.heap[t]?=some (.cells #[.pointer (some ⟨q,0,none⟩)] 81 (0,0))/\w.grownBy w' (some t):=by
 refine (as_hit ⟨q,0,none⟩ ⟨t,0,none⟩ (.pointer none) w hg (cell_at ht 0 rfl) (froz_at ht 0)).mono ?_;rintro e w' ⟨rfl,rfl⟩;have hlt:=lt_of_block ht;refine⟨rfl,?_,?_⟩
 ·rw[heap_setCell_same _ t 0 _ _ _ (by rw[Below.heap_alloc _ _ _ (by simp;omega),Below.heap_alloc _ _ _ (by simp;omega),Below.heap_alloc _ _ _ (by simp;omega),Below.heap_alloc _ _ _ hlt];exact ht)]
  rfl
 exact grown_tr (grown_tr (grown_tr (grown_tr (alloc_grown _ _ _) (alloc_grown _ _ _)) (alloc_grown _ _ _)) (alloc_grown _ _ _)) (grown_set _ t 0 _)
theorem fault_one (q:Nat) (p:Nat × Nat) (w:World) (hg:ErrType w) (hA:AtB w q p (.iface 34 (.int .i64 1))) :
  Calls Tryz.prog 9 #[.iface 81 (.pointer (some ⟨q,0,none⟩))] w fun e w'=>e=.returned (.tuple #[.int .i64 1,.int .i64 (p.1:Nat),.int .i64 (p.2:Nat)])/\Below w.heap.size w w':=by
 have HG:=h_ hg;have HA:=h_ hA;clear hg hA;go_enter Tryz.func9,Tryz.ntmps9
 go_wp2_with fail
 refine (as_at q w.heap.size _ (HG.out.below ((Below.refl _ _).alloc (Nat.le_refl _) _)) (made_at w _ _ rfl)).mono ?_;rintro e w2 ⟨rfl,ht,hgr⟩
 have hA2:AtB w2 q p (.iface 34 (.int .i64 1)):=by
  have h:=HA.out;have hq:=lt_of_block h;unfold AtB at h ⊢;rw[hgr.block _ (by simp;omega) (fun e=>by injection e with e;omega),Below.heap_alloc _ _ _ hq];exact h
 have HB:Hid (Below w.heap.size w w2):=h_ (((Below.refl _ _).alloc (Nat.le_refl _) _).trans (grown_below hgr (by simp) (Nat.le_refl _)));have t0:=cell_at ht 0 rfl;have a0:=cell_at hA2 0 rfl;have a1:=cell_at hA2 1 rfl;have HA2:=h_ hA2;clear ht hgr hA2;go_wp2_with fail
 refine wp_loop_rounds 1 ?_;rw[rounds_succ];go_wp2_with fail
 refine (is_yes q p 1 1 w2 HA2.out rfl).mono ?_;rintro e wx ⟨rfl,hx⟩;obtain rfl:=hx.symm;clear hx;go_wp2_with fail
 go_quiet (fail)
 go_wp2
 go_ret3
 exact⟨rfl,HB.out.os,HB.out.tape,HB.out.output,HB.out.size,HB.out.block⟩
theorem fault_two (q:Nat) (p:Nat × Nat) (w:World) (hg:ErrType w) (hA:AtB w q p (.iface 34 (.int .i64 2))) :
  Calls Tryz.prog 9 #[.iface 81 (.pointer (some ⟨q,0,none⟩))] w fun e w'=>e=.returned (.tuple #[.int .i64 2,.int .i64 (p.1:Nat),.int .i64 (p.2:Nat)])/\Below w.heap.size w w':=by
 have HG:=h_ hg;have HA:=h_ hA;clear hg hA;go_enter Tryz.func9,Tryz.ntmps9
 go_wp2_with fail
 refine (as_at q w.heap.size _ (HG.out.below ((Below.refl _ _).alloc (Nat.le_refl _) _)) (made_at w _ _ rfl)).mono ?_;rintro e w2 ⟨rfl,ht,hgr⟩
 have hA2:AtB w2 q p (.iface 34 (.int .i64 2)):=by
  have h:=HA.out;have hq:=lt_of_block h;unfold AtB at h ⊢;rw[hgr.block _ (by simp;omega) (fun e=>by injection e with e;omega),Below.heap_alloc _ _ _ hq];exact h
 have HB:Hid (Below w.heap.size w w2):=h_ (((Below.refl _ _).alloc (Nat.le_refl _) _).trans (grown_below hgr (by simp) (Nat.le_refl _)));have t0:=cell_at ht 0 rfl;have a0:=cell_at hA2 0 rfl;have a1:=cell_at hA2 1 rfl;have HA2:=h_ hA2;clear ht hgr hA2;go_wp2_with fail
 refine wp_loop_rounds 2 ?_;rw[rounds_succ];go_wp2_with fail
 refine (is_no q p 2 1 w2 HA2.out rfl).mono ?_;rintro e wx ⟨rfl,hx⟩;obtain rfl:=hx.symm;clear hx;go_wp2_with fail
 rw[rounds_succ];go_wp2_with fail
 refine (is_yes q p 2 2 w2 HA2.out rfl).mono ?_;rintro e wx ⟨rfl,hx⟩;obtain rfl:=hx.symm;clear hx;go_wp2_with fail
 go_quiet (fail)
 go_wp2
 go_ret3
 exact⟨rfl,HB.out.os,HB.out.tape,HB.out.output,HB.out.size,HB.out.block⟩
end Go.Proofs.YtpclhpfcbjgokaaGreatDoor
