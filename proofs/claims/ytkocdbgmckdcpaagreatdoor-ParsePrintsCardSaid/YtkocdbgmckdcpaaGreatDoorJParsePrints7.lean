/-
 Joined texts: PsPj,PsPk,PpT,TrR,PtW,PtM,PtX,PtY.
-/
import Derived.Lib.UnsafeStr
import Derived.Lib.Builder
import Derived.Lib.AppendStr
import Derived.Deep.RegionHeld3
import Derived.Deep.DeepCutAuto
import Derived.Test.YtkocdbgmckdcpaaGreatDoorJParsePrints1
import Derived.Test.YtkocdbgmckdcpaaGreatDoorJParsePrints2
import Derived.Test.YtkocdbgmckdcpaaGreatDoorJParsePrints5
import Derived.Test.YtkocdbgmckdcpaaGreatDoorJParsePrints6
set_option maxHeartbeats 32000000
namespace Go.Proofs.YtkocdbgmckdcpaaGreatDoor
open Go.RowKit
set_option maxRecDepth 100000
set_option linter.unusedVariables false
theorem PmsAt.below {w w':World} {S:Nat->Prop} {v:Value} {ps:List PmU} (h:PmsAt w S v ps) (hb:Below w.heap.size w w'):PmsAt w' S v ps:=(PmsAt.keep (fun g hg=>hb.block g hg.2) h.lt).mono fun _ h=>h.1
theorem len_qual {m n c:Nat} {s:St} {r:QlU × St} (h:cQual m n c s=some r):r.2.rest.length<=s.rest.length:=by
 unfold cQual at h;simp only[Option.bind_eq_some_iff] at h;obtain⟨ra,h1,q,h2,h3⟩:=h;injection h3 with h3;subst h3;have a:=qmore_len h1;have b:=len_call h2;have c1:=len_var ((s.counted c 20).exp wOpen);have c2:=len_exp (s.counted c 20) wOpen;have c3:=len_counted s c 20;have c4:=len_exp (ra.2.exp wClose) wColon;have c5:=len_exp ra.2 wClose;simp only;omega
theorem len_fmore {m n:Nat}:∀ {l:List PmU} {s:St} {x:List PmU × St},cFMore m n l s=some x->x.2.rest.length<=s.rest.length:=by
 induction m with
 | zero=>intro l s x h;simp[cFMore] at h
 | succ m ih =>
  intro l s x h;rw[cFMore] at h
  split at h
  ·rw[Option.bind_eq_some_iff] at h;obtain⟨r,h1,h2⟩:=h;exact Nat.le_trans (ih h2) (Nat.le_trans (len_fpar h1).1 (len_tk _))
  injection h with h;subst h;exact len_exp _ _
theorem len_fun {m n c:Nat} {s:St} {r:FnU × St} (h:cFun m n c s=some r):r.2.rest.length<=s.rest.length:=by
 unfold cFun at h;simp only[Option.bind_eq_some_iff] at h;obtain⟨ra,h1,t,h2,q,h3,h4⟩:=h;injection h4 with h4;subst h4
 have a:ra.2.rest.length<=((s.counted c 20).exp wOpen).rest.length:=by
  unfold cFPars at h1
  split at h1
  ·injection h1 with h1;subst h1;exact len_tk _
  rw[Option.bind_eq_some_iff] at h1;obtain⟨r,h5,h6⟩:=h1;exact Nat.le_trans (len_fmore h6) (len_fpar h5).1
 have b:t.2.rest.length<=(ra.2.exp wColon).rest.length:=by unfold cRes at h2;exact Nat.le_trans (len_ref h2) (len_base _)
 have b2:=len_call h3;have c2:=len_exp (s.counted c 20) wOpen;have c3:=len_counted s c 20;have c4:=len_exp ra.2 wColon;have c5:=len_exp t.2 wEq;simp only;omega
def ProgAt (w:World) (S:Nat->Prop) (vq vf:Value) (p:PgU):Prop:=∃ (qs:List Qd) (fs:List Fd),qs.map Qd.q=p.qs/\fs.map Fd.q=p.fs/\qlE.At w S vq qs/\fnE.At w S vf fs
theorem bs_run (c0 c1 c2 c3 c4 c5 c6 c7 c8 c9 c10 c11 c12 c13 c14 c15 c16 c17 c18 c19 c20 c21 c22 c23 c24:Value) (w:World):(Instr.buildSlice 24 1 #[(0,.agg #[c0,c1,c2,c3,c4,c5,c6,c7,c8,c9,c10,c11,c12,c13,c14,c15,c16,c17,c18,c19,c20,c21,c22,c23,c24])]).run Tryz.prog w=.ok (.slice (some ⟨w.heap.size,0,none⟩) 1 1) (w.alloc (.cells #[c0,c1,c2,c3,c4,c5,c6,c7,c8,c9,c10,c11,c12,c13,c14,c15,c16,c17,c18,c19,c20,c21,c22,c23,c24] 50)):=by kernel_rfl
theorem program_p (m n:Nat) (hn:n<=1000000) (g:Nat) (s:St) (r:PgU × St) (w:World) (hps:PS w g s) (hop:GOps w g) (hc:cProg m n ⟨[],[]⟩ s=some r) :
  Calls Tryz.prog 18 #[.pointer (some ⟨g,0,none⟩)] w fun e w'=>∃ vq vf,e=.returned (.agg #[vq,vf])/\ProgAt w' (fun k=>w.heap.size<=k) vq vf r.1/\Did w g r.2 w':=by
 have HP:=h_ hps;have HOP:=h_ hop;have hgN:=hps.lt;have hql0:=hps.2;have HC:=h_ hc;clear hps hop hc;go_enter Tryz.func18,Tryz.ntmps18
 go_upto_region 1 with fail
 obtain⟨w1,kr,hw,hkk,hb,hs1,HBr⟩:=newb w #[.slice none 0 0,.slice none 0 0] 26;have hgr:g<kr:=by rw[hkk];exact HP.out.lt
 have her:w.heap.size<=kr:=by omega
 rw[hw,<-hkk];replace HP:=h_ (HP.out.below hb);replace HOP:=h_ (HOP.out.below hb);have HD:=h_ (below_grown hb (some g));have hsz1:=HD.out.size;clear hw hb hkk hs1;go_wp2_with fail
 obtain⟨w2,ka,hw,hkk,hb,hs1,HBa⟩:=newb w1 #[.slice none 0 0,.slice none 0 0] 26;have hga:g<ka:=by rw[hkk];exact HP.out.lt
 have hea:w.heap.size<=ka:=by omega
 have hr_a:=lk_ hkk HBr;rw[hw,<-hkk];replace HBr:=kB hb HBr;replace HP:=h_ (HP.out.below hb);replace HOP:=h_ (HOP.out.below hb);replace HD:=dB HD hb;have hsz2:=HD.out.size;clear hw hb hkk hs1;have HRp:Hid (Two qlE fnE w2 (ka+1) (fun b=>w.heap.size<=b/\b≠ka/\b≠kr) (.slice none 0 0) [] (.slice none 0 0) []):=h_ (Two.nil _ _ _)
 go_loopw [5] (fun _ wr=>∃ (m':Nat) (qs:List Qd) (fs:List Fd) (sj:St) (qo:Option Addr) (qc:Nat) (fo:Option Addr) (fc:Nat),qs.length+fs.length+sj.rest.length<=30001/\Hid (cProg m' n ⟨qs.map Qd.q,fs.map Fd.q⟩ sj=some r)/\Hid (PS wr g sj)/\Hid (wr.heap[ka]?=some (.cells #[.slice qo qs.length qc,.slice fo fs.length fc] 26 (0,0)))/\Hid (wr.heap[kr]?=some (.cells #[.slice none 0 0,.slice none 0 0] 26 (0,0)))/\Hid (Two qlE fnE wr (ka+1) (fun b=>w.heap.size<=b/\b≠ka/\b≠kr) (.slice qo qs.length qc) qs (.slice fo fs.length fc) fs)/\Hid (GOps wr g)/\Hid (w.grownBy wr (some g))) (fun _ wr=>pLen wr g)
 case atStart=>exact⟨m,[],[],s,none,0,none,0,by simp;omega,HC,HP,HBa,HBr,HRp,HOP,HD⟩
 case round =>
  clear HC HP HBa HBr HRp HOP HD;obtain⟨m',qs,fs,sj,qo,qc,fo,fc,hqj,HCM,HP,HBa,HBr,HRp,HOP,HD⟩:=hrel;have hcm:=HCM.out
  cases m' with
  | zero=>exact absurd hcm (by simp[cProg])
  | succ m' =>
   rw[cProg] at hcm;have HLN:=h_ HP.out.len;have HGD:=h_ HP.out.good;have hszr:=HD.out.size;go_wp2_with fail
   refine (accept_p g sj [113,117,97,108,105,102] wr HP.out).mono ?_;rintro e w3 ⟨rfl,hp,hg⟩;replace HRp:=h_ (HRp.out.grown hg (by omega) (fun h=>by omega));replace HBa:=kG hg HBa;replace HBr:=kG hg HBr;replace HOP:=h_ (HOP.out.grown hg (by omega));replace HP:=h_ hp;replace HD:=dG HD (hg);have hsz3:=HD.out.size;clear hp hg
   by_cases hi:sj.is [113,117,97,108,105,102]=true
   ·have hi2:sj.is wQualif=true:=hi;rw[if_pos hi2,Option.bind_eq_some_iff] at hcm;have hlt:=tk_less HGD.out (w:=wQualif) (by decide) hi2;have HX:Hid (sj.acc [113,117,97,108,105,102]=sj.tk):=h_ (by unfold St.acc;rw[hi];rfl);rw[HX.out] at HP;rw[hi];clear hi hi2 HX;obtain⟨rq,hcq,hcm⟩:=hcm;simp only[List.length_map] at hcq;have hlq:=len_qual hcq;have HCQ:=h_ hcq;have HCM2:=h_ hcm;clear hcq hcm;have HOQ:Hid (∀ b,w3.heap.size<=b->(Value.slice qo qs.length qc).ownBlock≠some b):=h_ (fun b hb e=>by have:=(HRp.out.1.ge e).2;omega);have HOF:Hid (∀ b,w3.heap.size<=b->(Value.slice fo fs.length fc).ownBlock≠some b):=h_ (fun b hb e=>by have:=(HRp.out.2.1.ge e).2;omega)
    have HSS:Hid (∀ b,w3.heap.size<=b->w.heap.size<=b/\b≠ka/\b≠kr):=h_ (fun b hb=>by have h1:=lt_of_block HBa.out;have h2:=lt_of_block HBr.out;exact⟨by omega,by omega,by omega⟩);go_upto_region 4 with fail
    have hlt_a:=lt_of_block HBa.out;have hog:∀ q,q<1->(fun q=>g) q<w3.heap.size:=fun q _=>by show g<_;exact HP.out.lt
    refine R7.region (by kernel_rfl) [[],[0],[],[],[3],[3,4],[2,3,4,5],[2,3,4,5,6],[0,1,2,3,4,5,6,7],[0,1,2,3,4,5,6,7,8],[0,1,2,3,4,5,6,7,8,9]] [] [(6,1000)] (fun q=>g) 1 8 (by kernel_rfl) (by kernel_rfl) (by rfl) hog (fun q q' h h' hn=>absurd hn (by omega)) ?_;refine R7.cd ?_ (fun T xs wr hA=>?_) ?_
    rotate_left
    ·have e3:=hA.pq 3;simp only[gsa,gsc,gsz] at e3;clear hA;go_simp<;>(try with_reducible rfl)
    refine R7.cd ?_ (fun T xs wr hA=>?_) ?_
    rotate_left
    ·have e8:=tr_ (hA.tq 0 8) (hA.fq 0)
     (try simp (disch:=decide) only [R7.mi] at e8)
     have hBq:wr.heap[ka]?=_:=(hA.bl _ hlt_a (fun q _=>by show g≠ka;omega)).trans HBa.out;obtain⟨q0,q1⟩:=cl2 hBq;clear hBq;clear hA;go_simp<;>(try with_reducible rfl)
    refine R7.cd ?_ (fun T xs wr hA=>?_) ?_
    rotate_left
    ·have e0:=hA.pq 0;simp only[gsa,gsz] at e0;clear hA;go_simp<;>(try with_reducible rfl)
    refine R7.cd ?_ (fun T xs wr hA=>?_) ?_
    rotate_left
    ·have e3:=hA.pq 3;simp only[gsa,gsc,gsz] at e3;clear hA;go_simp<;>(try with_reducible rfl)
    refine R7.cd ?_ (fun T xs wr hA=>?_) ?_
    rotate_left
    ·have e11:=tr_ (hA.tq 3 11) (hA.fq 3)
     (try simp (disch:=decide) only [R7.mi] at e11)
     have hBq:wr.heap[ka]?=_:=(hA.bl _ hlt_a (fun q _=>by show g≠ka;omega)).trans HBa.out;obtain⟨q0,q1⟩:=cl2 hBq;clear hBq;clear hA;go_simp<;>(try with_reducible rfl)
    refine R7.cd ?_ (fun T xs wr hA=>?_) ?_
    rotate_left
    ·have e12:=tr_ (hA.tq 4 12) (hA.fq 4)
     (try simp (disch:=decide) only [R7.mi] at e12)
     clear hA;go_simp<;>(try with_reducible rfl)
    refine R7.Chain.callOld 0 (fun xs v w=>∃ y vv,v=.agg (qlC rq.1 vv y).toArray/\Um w (fun b=>w3.heap.size<=b) y rq.1.body/\PmsAt w (fun b=>w3.heap.size<=b) vv rq.1.ps/\PS w g rq.2) (fun _ _ _ _ ⟨y,v,h1,h2,h3,h4⟩ hb=>⟨y,v,h1,h2.below hb,h3.below hb,h4.below hb⟩) (fun _ _ _ _ q' _ hq hne _=>absurd rfl hne) (by rfl) (by rfl) (by decide) (R7.own_one (by rfl)) (fun T xs wr hA hold=>?_) ?_
    ·have hsw:=(hA.be 0 (Nat.zero_le _) (fun _ _=>Nat.zero_le _)).size;have e10:=tr_ (hA.tq 2 10) (hA.fq 2);have e13:=tr_ (hA.tq 5 13) (hA.fq 5)
     (try simp (disch:=decide) only [R7.mi] at e10 e13)
     have h0:=undrew (hA.be 0 (Nat.zero_le _) (fun _ _=>Nat.zero_le _))
     have hbw:Below w3.heap.size w3 wr:=⟨h0.os,h0.tape,h0.output,h0.size,fun k hk=>by
      by_cases e:k=g
      ·rw[e];exact hold
      exact hA.bl k hk (fun q _ h=>e h.symm)⟩
     clear hA;refine⟨(by rfl),fun K hK=>?_⟩;go_simp
     refine (qual_p m' n hn g qs.length (by omega) sj.tk rq wr (HP.out.below hbw) (HOP.out.below hbw) HCQ.out).mono ?_;rintro e w' ⟨y,v,rfl,hu,hpm,hp,hg⟩;exact hK.out _ _ ⟨y,v,rfl,hu.mono (fun b h=>Nat.le_trans hbw.size h),hpm.mono (fun b h=>Nat.le_trans hbw.size h),hp⟩ (R7.Priv.of hg)
    refine R7.Chain.call (fun xs v w=>∃ k,v=.slice (some ⟨k,0,none⟩) 1 1/\w3.heap.size<=k/\∃ c,(xs 6)=.agg c/\w.heap[k]?=some (.cells c 69 (0,0))) (fun _ _ _ _ ⟨g,hv,hl,c,hc,hg⟩ hb=>⟨g,hv,hl,c,hc,by rw[hb.block g (Array.getElem?_eq_some_iff.1 hg).1];exact hg⟩) (fun _ _ _ _ _ ⟨g,hv,hl,c,hc,hg⟩ ⟨q,hq,e⟩ hp=>⟨g,hv,hl,c,hc,by rw[hp.block g (Array.getElem?_eq_some_iff.1 hg).1 (fun h=>by have:=hog q hq;omega)];exact hg⟩) (by rfl) (fun T xs wr hA=>?_) ?_
    ·have hsw:=(hA.be 0 (Nat.zero_le _) (fun _ _=>Nat.zero_le _)).size;have e14:=hA.tm 6 14 (by rfl) (by rfl);have hF6:∃ y vv,(xs 6)=.agg (qlC rq.1 vv y).toArray/\Um wr (fun b=>w3.heap.size<=b) y rq.1.body/\PmsAt wr (fun b=>w3.heap.size<=b) vv rq.1.ps/\PS wr g rq.2:=hA.fa 6 (by rfl);obtain⟨y6,v6,hx,-⟩:=hF6;rw[hx] at e14;simp only[qlC] at e14;clear hA;refine⟨(by rfl),fun K hK=>?_⟩;go_simp
     exact hK.out _ _ ⟨_,rfl,hsw,_,hx,made_at wr _ _ rfl⟩ ((Below.refl _ _).alloc (Nat.le_refl _) _)
    refine R7.Chain.done (fun xs w4 hL=>?_);obtain⟨⟨hbe,hbl⟩,hf,-,-⟩:=hL;have f0:xs 0=_:=hf 0 (by decide);have f1:xs 1=_:=hf 1 (by decide);have f2:xs 2=_:=hf 2 (by decide);have f3:xs 3=_:=hf 3 (by decide);have f4:xs 4=_:=hf 4 (by decide);have f5:xs 5=_:=hf 5 (by decide);have F6:∃ y vv,(xs 6)=.agg (qlC rq.1 vv y).toArray/\Um w4 (fun b=>w3.heap.size<=b) y rq.1.body/\PmsAt w4 (fun b=>w3.heap.size<=b) vv rq.1.ps/\PS w4 g rq.2:=hf 6 (by decide);have F7:∃ k,(xs 7)=.slice (some ⟨k,0,none⟩) 1 1/\w3.heap.size<=k/\∃ c,(xs 6)=.agg c/\w4.heap[k]?=some (.cells c 69 (0,0)):=hf 7 (by decide)
    (try simp (disch:=decide) only [R7.mi] at f0 f1 f2 f3 f4 f5)
    have hb0:Below 0 w3 w4:=undrew (hbe 0 (Nat.zero_le _) (fun _ _=>Nat.zero_le _));have hgr:∀ j,j<w3.heap.size->(∀ q,q<1->(fun q=>g) q≠j)->w4.heap[j]?=w3.heap[j]?:=hbl;clear hbe hbl hf;obtain⟨y6,v6,hv,hu,hpm,hp⟩:=F6;obtain⟨k4,hv4,hl4,c4,hc4,hg4⟩:=F7;rw[hv] at hc4;injection hc4 with hc4;subst hc4;have hg:w3.grownBy w4 (some g):=⟨hb0.os,hb0.tape,hb0.output,hb0.size,fun k hk hn=>hgr k hk (fun q _ e=>hn (by rw[<-e]))⟩
    refine R7.rest_list (by decide) (by kernel_rfl) ?_;simp only[R7.fill,t1_,t2_,t3_,t4_,t5_,t6_,t7_,f0,f1,f2,f3,f4,f5];simp only[hv4];clear hlt_a hog hv hv4 f0 f1 f2 f3 f4 f5;replace HRp:=h_ (HRp.out.grown hg (by omega) (fun h=>by omega));replace HBa:=kG hg HBa;replace HBr:=kG hg HBr;replace HOP:=h_ (HOP.out.grown hg (by omega));replace HP:=h_ hp;replace HD:=dG HD (hg);have hsz4:=HD.out.size;have HB4:=h_ hg4;have hone:=hpm.one;clear hp hg hb0 hgr hg4
    refine Two.append HRp.out rfl (.tmp 9) (.tmp 15) 23 rfl Tryz.underlying23 infoQual rfl (by decide) rfl ⟨rq.1,v6,y6⟩ k4 69 rfl (by have e:qlE.f ⟨rq.1,v6,y6⟩=qlC rq.1 v6 y6:=if_pos hone;rw[e];exact HB4.out) ⟨hone,hu.mono (fun b h=>⟨⟨HSS.out b h,HOF.out b h⟩,HOQ.out b h⟩),hpm.mono (fun b h=>⟨⟨HSS.out b h,HOF.out b h⟩,HOQ.out b h⟩)⟩ (by omega) (Nat.succ_le_of_lt (lt_of_block HBa.out)) ?_;intro v2 w5 hrow hgw;replace HBa:=HRp.out.1.kR hgw (by omega) HBa;replace HBr:=HRp.out.1.kR hgw (by omega) HBr;replace HP:=h_ (HRp.out.1.ps hgw (by omega) HP.out);replace HOP:=h_ (HRp.out.1.ops hgw (by omega) HOP.out);replace HD:=HRp.out.1.dR hgw (by omega) HD;obtain⟨l2,hqs⟩:∃ l:List Qd,l=qs++[⟨rq.1,v6,y6⟩]:=⟨_,rfl⟩
    rw[<-hqs] at hrow;have HQS:=h_ hqs;have HLL:Hid (l2.length=qs.length+1):=h_ (by rw[hqs,lsa];rfl);obtain⟨o2,c2,hpv,-⟩:=hrow.1.form;subst hpv;replace HRp:=h_ hrow;clear hrow hgw HB4 hqs hone hu hpm HSS HOQ HOF;obtain⟨c0,c1⟩:=cl2 HBa.out;obtain⟨fc0,fc1⟩:=fr2 HBa.out;go_wp2_with fail
    obtain⟨w6,hw⟩:∃ x,x=w5.setCells ka 0 [.slice o2 l2.length c2]:=⟨_,rfl⟩
    have hg:w5.grownBy w6 (some ka):=by rw[hw];exact setCells_grown _ _ _ _
    have hv:=put_same [.slice o2 l2.length c2] w5 ka 0 _ _ HBa.out (Nat.le_of_ble_eq_true rfl);rw[<-hw] at hv;rw[show w5.setCell ⟨ka,0,none⟩ (.slice o2 l2.length c2)=w6 from hw.symm];clear c0 fc0 c1 fc1;replace HP:=h_ (HP.out.store HBa.out (by decide) (by omega) hg);replace HRp:=h_ (HRp.out.grown hg (by omega) (fun h=>by omega));replace HBr:=kG hg HBr;replace HOP:=h_ (HOP.out.grown hg (by omega));replace HD:=dN HD hg (by omega);have hsz6:=HD.out.size;replace HBa:Hid (w6.heap[ka]?=some (.cells #[.slice o2 l2.length c2,.slice fo fs.length fc] 26 (0,0))):=h_ hv;clear hw hg hv;have HCM3:Hid (cProg m' n ⟨l2.map Qd.q,fs.map Fd.q⟩ rq.2=some r):=h_ (by rw[HQS.out,List.map_append];exact HCM2.out);go_roundw
    case rel=>exact⟨m',l2,fs,rq.2,o2,c2,fo,fc,by have:=HLL.out;omega,HCM3,HP,HBa,HBr,HRp,HOP,HD⟩
    case measure=>rw[HP.out.len,HLN.out];omega
   have hif:sj.is [113,117,97,108,105,102]=false:=by simpa using hi
   rw[if_neg (show ¬ sj.is wQualif=true from hi)] at hcm;have HX:Hid (sj.acc [113,117,97,108,105,102]=sj):=h_ (by unfold St.acc;rw[hif];rfl);rw[HX.out] at HP;rw[hif];clear hi HX hif;go_wp2_with fail
   refine (accept_p g sj [102,117,110] w3 HP.out).mono ?_;rintro e w4 ⟨rfl,hp,hg⟩;replace HRp:=h_ (HRp.out.grown hg (by omega) (fun h=>by omega));replace HBa:=kG hg HBa;replace HBr:=kG hg HBr;replace HOP:=h_ (HOP.out.grown hg (by omega));replace HP:=h_ hp;replace HD:=dG HD (hg);have hsz4:=HD.out.size;clear hp hg
   by_cases hi:sj.is [102,117,110]=true
   ·have hi2:sj.is wFun=true:=hi;rw[if_pos hi2,Option.bind_eq_some_iff] at hcm;have hlt:=tk_less HGD.out (w:=wFun) (by decide) hi2;have HX:Hid (sj.acc [102,117,110]=sj.tk):=h_ (by unfold St.acc;rw[hi];rfl);rw[HX.out] at HP;rw[hi];clear hi hi2 HX;obtain⟨rq,hcq,hcm⟩:=hcm;simp only[List.length_map] at hcq;have hlq:=len_fun hcq;have HCQ:=h_ hcq;have HCM2:=h_ hcm;clear hcq hcm;have HOQ:Hid (∀ b,w4.heap.size<=b->(Value.slice qo qs.length qc).ownBlock≠some b):=h_ (fun b hb e=>by have:=(HRp.out.1.ge e).2;omega);have HOF:Hid (∀ b,w4.heap.size<=b->(Value.slice fo fs.length fc).ownBlock≠some b):=h_ (fun b hb e=>by have:=(HRp.out.2.1.ge e).2;omega)
    have HSS:Hid (∀ b,w4.heap.size<=b->w.heap.size<=b/\b≠ka/\b≠kr):=h_ (fun b hb=>by have h1:=lt_of_block HBa.out;have h2:=lt_of_block HBr.out;exact⟨by omega,by omega,by omega⟩);go_upto_region 6 with fail
    have hlt_a:=lt_of_block HBa.out;have hog:∀ q,q<1->(fun q=>g) q<w4.heap.size:=fun q _=>by show g<_;exact HP.out.lt
    refine R7.region (by kernel_rfl) [[],[0],[],[],[3],[3,4],[2,3,4,5],[2,3,4,5,6],[0,1,2,3,4,5,6,7],[0,1,2,3,4,5,6,7,8],[0,1,2,3,4,5,6,7,8,9]] [] [(6,1000)] (fun q=>g) 1 8 (by kernel_rfl) (by kernel_rfl) (by rfl) hog (fun q q' h h' hn=>absurd hn (by omega)) ?_;refine R7.cd ?_ (fun T xs wr hA=>?_) ?_
    rotate_left
    ·have e3:=hA.pq 3;simp only[gsa,gsc,gsz] at e3;clear hA;go_simp<;>(try with_reducible rfl)
    refine R7.cd ?_ (fun T xs wr hA=>?_) ?_
    rotate_left
    ·have e21:=tr_ (hA.tq 0 21) (hA.fq 0)
     (try simp (disch:=decide) only [R7.mi] at e21)
     have hBq:wr.heap[ka]?=_:=(hA.bl _ hlt_a (fun q _=>by show g≠ka;omega)).trans HBa.out;obtain⟨q0,q1⟩:=cl2 hBq;clear hBq;clear hA;go_simp<;>(try with_reducible rfl)
    refine R7.cd ?_ (fun T xs wr hA=>?_) ?_
    rotate_left
    ·have e0:=hA.pq 0;simp only[gsa,gsz] at e0;clear hA;go_simp<;>(try with_reducible rfl)
    refine R7.cd ?_ (fun T xs wr hA=>?_) ?_
    rotate_left
    ·have e3:=hA.pq 3;simp only[gsa,gsc,gsz] at e3;clear hA;go_simp<;>(try with_reducible rfl)
    refine R7.cd ?_ (fun T xs wr hA=>?_) ?_
    rotate_left
    ·have e24:=tr_ (hA.tq 3 24) (hA.fq 3)
     (try simp (disch:=decide) only [R7.mi] at e24)
     have hBq:wr.heap[ka]?=_:=(hA.bl _ hlt_a (fun q _=>by show g≠ka;omega)).trans HBa.out;obtain⟨q0,q1⟩:=cl2 hBq;clear hBq;clear hA;go_simp<;>(try with_reducible rfl)
    refine R7.cd ?_ (fun T xs wr hA=>?_) ?_
    rotate_left
    ·have e25:=tr_ (hA.tq 4 25) (hA.fq 4)
     (try simp (disch:=decide) only [R7.mi] at e25)
     clear hA;go_simp<;>(try with_reducible rfl)
    refine R7.Chain.callOld 0 (fun xs v w=>∃ x y vv,v=.agg (fnC rq.1 vv x y).toArray/\Um w (fun b=>w4.heap.size<=b) x rq.1.res.ref/\Um w (fun b=>w4.heap.size<=b) y rq.1.body/\PmsAt w (fun b=>w4.heap.size<=b) vv rq.1.ps/\PS w g rq.2) (fun _ _ _ _ ⟨x,y,v,h1,h2,h3,h4,h5⟩ hb=>⟨x,y,v,h1,h2.below hb,h3.below hb,h4.below hb,h5.below hb⟩) (fun _ _ _ _ q' _ hq hne _=>absurd rfl hne) (by rfl) (by rfl) (by decide) (R7.own_one (by rfl)) (fun T xs wr hA hold=>?_) ?_
    ·have hsw:=(hA.be 0 (Nat.zero_le _) (fun _ _=>Nat.zero_le _)).size;have e23:=tr_ (hA.tq 2 23) (hA.fq 2);have e26:=tr_ (hA.tq 5 26) (hA.fq 5)
     (try simp (disch:=decide) only [R7.mi] at e23 e26)
     have h0:=undrew (hA.be 0 (Nat.zero_le _) (fun _ _=>Nat.zero_le _))
     have hbw:Below w4.heap.size w4 wr:=⟨h0.os,h0.tape,h0.output,h0.size,fun k hk=>by
      by_cases e:k=g
      ·rw[e];exact hold
      exact hA.bl k hk (fun q _ h=>e h.symm)⟩
     clear hA;refine⟨(by rfl),fun K hK=>?_⟩;go_simp
     refine (fun_p m' n hn g fs.length (by omega) sj.tk rq wr (HP.out.below hbw) (HOP.out.below hbw) HCQ.out).mono ?_;rintro e w' ⟨x,y,v,rfl,hx,hu,hpm,hp,hg⟩;exact hK.out _ _ ⟨x,y,v,rfl,hx.mono (fun b h=>Nat.le_trans hbw.size h),hu.mono (fun b h=>Nat.le_trans hbw.size h),hpm.mono (fun b h=>Nat.le_trans hbw.size h),hp⟩ (R7.Priv.of hg)
    refine R7.Chain.call (fun xs v w=>∃ k,v=.slice (some ⟨k,0,none⟩) 1 1/\w4.heap.size<=k/\∃ c,(xs 6)=.agg c/\w.heap[k]?=some (.cells c 50 (0,0))) (fun _ _ _ _ ⟨g,hv,hl,c,hc,hg⟩ hb=>⟨g,hv,hl,c,hc,by rw[hb.block g (Array.getElem?_eq_some_iff.1 hg).1];exact hg⟩) (fun _ _ _ _ _ ⟨g,hv,hl,c,hc,hg⟩ ⟨q,hq,e⟩ hp=>⟨g,hv,hl,c,hc,by rw[hp.block g (Array.getElem?_eq_some_iff.1 hg).1 (fun h=>by have:=hog q hq;omega)];exact hg⟩) (by rfl) (fun T xs wr hA=>?_) ?_
    ·have hsw:=(hA.be 0 (Nat.zero_le _) (fun _ _=>Nat.zero_le _)).size;have e27:=hA.tm 6 27 (by rfl) (by rfl);have hF6:∃ x y vv,(xs 6)=.agg (fnC rq.1 vv x y).toArray/\Um wr (fun b=>w4.heap.size<=b) x rq.1.res.ref/\Um wr (fun b=>w4.heap.size<=b) y rq.1.body/\PmsAt wr (fun b=>w4.heap.size<=b) vv rq.1.ps/\PS wr g rq.2:=hA.fa 6 (by rfl);obtain⟨x6,y6,v6,hx,-⟩:=hF6;rw[hx] at e27;clear hA;refine⟨(by rfl),fun K hK=>?_⟩;unfold Oper.wp execOp;have hev:∀ dd,(⟨T,dd⟩:Act).eval (.tmp 27)=.agg (fnC rq.1 v6 x6 y6).toArray:=fun dd=>by show T.getD 27 undef=_;rw[Array.getD_eq_getD_getElem?,e27];rfl
     simp only[List.map_toArray,List.map_cons,List.map_nil,hev,fnC,Sem.run_bind,bs_run,Result.andThen_ok,Sem.run_pure];exact hK.out _ _ ⟨_,rfl,hsw,_,hx,made_at wr _ _ rfl⟩ ((Below.refl _ _).alloc (Nat.le_refl _) _)
    refine R7.Chain.done (fun xs w5 hL=>?_);obtain⟨⟨hbe,hbl⟩,hf,-,-⟩:=hL;have f0:xs 0=_:=hf 0 (by decide);have f1:xs 1=_:=hf 1 (by decide);have f2:xs 2=_:=hf 2 (by decide);have f3:xs 3=_:=hf 3 (by decide);have f4:xs 4=_:=hf 4 (by decide);have f5:xs 5=_:=hf 5 (by decide);have F6:∃ x y vv,(xs 6)=.agg (fnC rq.1 vv x y).toArray/\Um w5 (fun b=>w4.heap.size<=b) x rq.1.res.ref/\Um w5 (fun b=>w4.heap.size<=b) y rq.1.body/\PmsAt w5 (fun b=>w4.heap.size<=b) vv rq.1.ps/\PS w5 g rq.2:=hf 6 (by decide);have F7:∃ k,(xs 7)=.slice (some ⟨k,0,none⟩) 1 1/\w4.heap.size<=k/\∃ c,(xs 6)=.agg c/\w5.heap[k]?=some (.cells c 50 (0,0)):=hf 7 (by decide)
    (try simp (disch:=decide) only [R7.mi] at f0 f1 f2 f3 f4 f5)
    have hb0:Below 0 w4 w5:=undrew (hbe 0 (Nat.zero_le _) (fun _ _=>Nat.zero_le _));have hgr:∀ j,j<w4.heap.size->(∀ q,q<1->(fun q=>g) q≠j)->w5.heap[j]?=w4.heap[j]?:=hbl;clear hbe hbl hf;obtain⟨x6,y6,v6,hv,hux,hu,hpm,hp⟩:=F6;obtain⟨k4,hv4,hl4,c4,hc4,hg4⟩:=F7;rw[hv] at hc4;injection hc4 with hc4;subst hc4;have hg:w4.grownBy w5 (some g):=⟨hb0.os,hb0.tape,hb0.output,hb0.size,fun k hk hn=>hgr k hk (fun q _ e=>hn (by rw[<-e]))⟩
    refine R7.rest_list (by decide) (by kernel_rfl) ?_;simp only[R7.fill,t1_,t2_,t3_,t4_,t5_,t6_,t7_,f0,f1,f2,f3,f4,f5];simp only[hv4];clear hlt_a hog hv hv4 f0 f1 f2 f3 f4 f5;replace HRp:=h_ (HRp.out.grown hg (by omega) (fun h=>by omega));replace HBa:=kG hg HBa;replace HBr:=kG hg HBr;replace HOP:=h_ (HOP.out.grown hg (by omega));replace HP:=h_ hp;replace HD:=dG HD (hg);have hsz5:=HD.out.size;have HB4:=h_ hg4;have hone:=hpm.one;clear hp hg hb0 hgr hg4
    refine Two.append HRp.out.swap rfl (.tmp 22) (.tmp 28) 24 rfl Tryz.underlying24 infoFun rfl (by decide) rfl ⟨rq.1,v6,x6,y6⟩ k4 50 rfl (by have e:fnE.f ⟨rq.1,v6,x6,y6⟩=fnC rq.1 v6 x6 y6:=if_pos hone;rw[e];exact HB4.out) ⟨hone,hux.mono (fun b h=>⟨⟨HSS.out b h,HOQ.out b h⟩,HOF.out b h⟩),hu.mono (fun b h=>⟨⟨HSS.out b h,HOQ.out b h⟩,HOF.out b h⟩),hpm.mono (fun b h=>⟨⟨HSS.out b h,HOQ.out b h⟩,HOF.out b h⟩)⟩ (by omega) (Nat.succ_le_of_lt (lt_of_block HBa.out)) ?_;intro v2 w6 hrow hgw;replace HBa:=HRp.out.2.1.kR hgw (by omega) HBa;replace HBr:=HRp.out.2.1.kR hgw (by omega) HBr;replace HP:=h_ (HRp.out.2.1.ps hgw (by omega) HP.out);replace HOP:=h_ (HRp.out.2.1.ops hgw (by omega) HOP.out);replace HD:=HRp.out.2.1.dR hgw (by omega) HD;obtain⟨l2,hqs⟩:∃ l:List Fd,l=fs++[⟨rq.1,v6,x6,y6⟩]:=⟨_,rfl⟩
    rw[<-hqs] at hrow;have HQS:=h_ hqs;have HLL:Hid (l2.length=fs.length+1):=h_ (by rw[hqs,lsa];rfl);obtain⟨o2,c2,hpv,-⟩:=hrow.1.form;subst hpv;replace HRp:=h_ hrow.swap;clear hrow hgw HB4 hqs hone hu hpm HSS HOQ HOF hux;obtain⟨c0,c1⟩:=cl2 HBa.out;obtain⟨fc0,fc1⟩:=fr2 HBa.out;go_wp2_with fail
    obtain⟨w7,hw⟩:∃ x,x=w6.setCells ka 1 [.slice o2 l2.length c2]:=⟨_,rfl⟩
    have hg:w6.grownBy w7 (some ka):=by rw[hw];exact setCells_grown _ _ _ _
    have hv:=put_same [.slice o2 l2.length c2] w6 ka 1 _ _ HBa.out (Nat.le_of_ble_eq_true rfl);rw[<-hw] at hv;rw[show w6.setCell ⟨ka,1,none⟩ (.slice o2 l2.length c2)=w7 from hw.symm];clear c0 fc0 c1 fc1;replace HP:=h_ (HP.out.store HBa.out (by decide) (by omega) hg);replace HRp:=h_ (HRp.out.grown hg (by omega) (fun h=>by omega));replace HBr:=kG hg HBr;replace HOP:=h_ (HOP.out.grown hg (by omega));replace HD:=dN HD hg (by omega);have hsz7:=HD.out.size;replace HBa:Hid (w7.heap[ka]?=some (.cells #[.slice qo qs.length qc,.slice o2 l2.length c2] 26 (0,0))):=h_ hv;clear hw hg hv;have HCM3:Hid (cProg m' n ⟨qs.map Qd.q,l2.map Fd.q⟩ rq.2=some r):=h_ (by rw[HQS.out,List.map_append];exact HCM2.out);go_roundw
    case rel=>exact⟨m',qs,l2,rq.2,qo,qc,o2,c2,by have:=HLL.out;omega,HCM3,HP,HBa,HBr,HRp,HOP,HD⟩
    case measure=>rw[HP.out.len,HLN.out];omega
   have hif:sj.is [102,117,110]=false:=by simpa using hi
   rw[if_neg (show ¬ sj.is wFun=true from hi)] at hcm;injection hcm with hcm;subst hcm;have HX:Hid (sj.acc [102,117,110]=sj):=h_ (by unfold St.acc;rw[hif];rfl);rw[HX.out] at HP;rw[hif];clear hi HX hif;obtain⟨c0,c1⟩:=cl2 HBa.out;obtain⟨z0,z1⟩:=cl2 HBr.out;obtain⟨fz0,fz1⟩:=fr2 HBr.out;go_wp2_with fail
   refine bodyPost_ret (v:=.agg #[.slice qo qs.length qc,.slice fo fs.length fc]) (by simp[results,Tryz.results18,go_sem,z0,z1]) rfl ?_;obtain⟨wz,hw⟩:∃ x,x=w4.setCells kr 0 [.slice qo qs.length qc,.slice fo fs.length fc]:=⟨_,rfl⟩
   have hg:w4.grownBy wz (some kr):=by rw[hw];exact setCells_grown _ _ _ _
   rw[show (w4.setCell ⟨kr,0,none⟩ (.slice qo qs.length qc)).setCell ⟨kr,1,none⟩ (.slice fo fs.length fc)=wz from hw.symm];clear c0 c1 z0 fz0 z1 fz1;replace HP:=h_ (HP.out.store HBr.out (by decide) (by omega) hg);replace HRp:=h_ (HRp.out.grown hg (by omega) (fun h=>by omega));replace HBa:=kG hg HBa;replace HOP:=h_ (HOP.out.grown hg (by omega));replace HD:=dN HD hg (by omega);have hsz5:=HD.out.size;clear hw hg;exact⟨.slice qo qs.length qc,.slice fo fs.length fc,rfl,⟨qs,fs,rfl,rfl,HRp.out.1.at (fun b h=>h.1.1) (fun b h=>by show _<=b;omega),HRp.out.2.1.at (fun b h=>h.1.1) (fun b h=>by show _<=b;omega)⟩,HP.out,HD.out⟩
theorem ProgAt.form {w:World} {S:Nat->Prop} {vq vf:Value} {p:PgU} (h:ProgAt w S vq vf p):∃ a n c b m d,vq=.slice a n c/\vf=.slice b m d:=by
 obtain⟨qs,fs,-,-,⟨a,c,h1,-⟩,⟨b,d,h2,-⟩⟩:=h;exact⟨a,_,c,b,_,d,h1,h2⟩
theorem ProgAt.below {w w':World} {S:Nat->Prop} {vq vf:Value} {p:PgU} (h:ProgAt w S vq vf p) (hb:Below w.heap.size w w'):ProgAt w' S vq vf p:=by
 obtain⟨qs,fs,h1,h2,h3,h4⟩:=h;exact⟨qs,fs,h1,h2,h3.below hb,h4.below hb⟩
theorem ProgAt.mono {w:World} {S S':Nat->Prop} {vq vf:Value} {p:PgU} (hs:∀ b,S b->S' b) (h:ProgAt w S vq vf p):ProgAt w S' vq vf p:=by
 obtain⟨qs,fs,h1,h2,h3,h4⟩:=h;exact⟨qs,fs,h1,h2,h3.mono hs,h4.mono hs⟩
theorem ProgAt.grown {w w':World} {S:Nat->Prop} {vq vf:Value} {p:PgU} {g:Nat} (h:ProgAt w S vq vf p) (hg:w.grownBy w' (some g)) (hS:¬ S g):ProgAt w' S vq vf p:=by
 obtain⟨qs,fs,h1,h2,h3,h4⟩:=h;exact⟨qs,fs,h1,h2,h3.grown hg (fun b hb e=>by injection e with e;subst e;exact hS hb),h4.grown hg (fun b hb e=>by injection e with e;subst e;exact hS hb)⟩
def pgF (l:Bs) (r:PgU × St):Option (Nat × Nat × Nat):=(lexF l).or r.2.fin.err
def PgPost (l:Bs) (r:PgU × St) (w:World) (e:Ending) (w':World):Prop:=Below w.heap.size w w'/\((∃ f ev,pgF l r=some f/\e=.returned (.tuple #[.agg #[.slice none 0 0,.slice none 0 0],ev])/\AtF w' ev f)\/(pgF l r=none/\∃ vq vf,e=.returned (.tuple #[.agg #[vq,vf],.nilIface])/\ProgAt w' (fun b=>w.heap.size<=b) vq vf r.1))
theorem parse_p (m n:Nat) (hn:n<=1000000) (l:Bs) (r:PgU × St) (w:World) (hl:l.length<=20000) (hop:OpsAt w) (hc:lexF l=none->cProg m n ⟨[],[]⟩ (st0 l)=some r) :
  Calls Tryz.prog 7 #[.string ⟨l.toArray⟩] w (PgPost l r w):=by
 have HC:=h_ hc;have HO:=h_ hop;clear hc hop;go_enter Tryz.func7,Tryz.ntmps7
 go_upto_region 1 with fail
 obtain⟨w1,kr,hw,hkk,hb,hs1,HR⟩:=newb w #[.slice none 0 0,.slice none 0 0] 26;have hNr:w.heap.size<=kr:=by omega
 rw[hw,<-hkk];have HB1:=h_ hb;have HO1:=h_ (HO.out.below hb);clear hw hkk hb hs1;go_wp2_with fail
 refine (newp_p l w1 hl).mono ?_;rintro e w2 ⟨hb2,hcase⟩;have HB2:=h_ (HB1.out.trans (hb2.mono HB1.out.size));have HR2:=kB hb2 HR;have HO2:=h_ (HO1.out.below hb2);have hs2:=hb2.size;clear hb2;rcases hcase with ⟨f,ev,hf,rfl,hA⟩ | ⟨hf,g,rfl,hg,hps⟩
 ·obtain⟨q,rfl,hq⟩:=hA;have HA:=h_ hq;have HF:=h_ hf;have hqk:q≠kr:=fun e=>by subst e;have:=HR2.out;unfold AtB at hq;rw[hq] at this;injection this with this;injection this with _ this;exact absurd this (by decide)
  clear hq hf;have z0:=cell_at HR2.out 0 rfl;have z1:=cell_at HR2.out 1 rfl;have f0:=froz_at HR2.out 0;have f1:=froz_at HR2.out 1;go_wp2_with fail
  refine bodyPost_ret (v:=.tuple #[.agg #[.slice none 0 0,.slice none 0 0],.iface 111 (.pointer (some ⟨q,0,none⟩))]) (by simp[results,Tryz.results7,go_sem,z0,z1]) rfl ⟨below_set1 (below_set1 HB2.out hNr 0 _) hNr 1 _,.inl ⟨f,_,by unfold pgF;rw[HF.out];rfl,rfl,q,rfl,?_⟩⟩;have:=HA.out;unfold AtB at this ⊢;rw[set1_other _ _ _ _ hqk,set1_other _ _ _ _ hqk];exact this
 have HF:=h_ hf;have HPS:=h_ hps;have HC2:=h_ (HC.out hf);have hgr:kr<g:=Nat.lt_of_lt_of_le (lt_of_block HR.out) hg;have HGO:Hid (GOps w2 g):=h_ ⟨HO2.out,Nat.lt_of_lt_of_le (cell_lt (HO1.out 0 _ rfl)) hg⟩;have hgw:w.heap.size<=g:=by have:=HB1.out.size;omega
 clear hf hps hg;go_wp2_with fail
 obtain⟨N,hN⟩:∃ k,k=w2.heap.size:=⟨_,rfl⟩
 have hrN:kr<N:=by rw[hN];exact lt_of_block HR2.out
 have hgN:g<N:=by rw[hN];exact HPS.out.lt
 have hwN:w.heap.size<=N:=by have:=HB2.out.size;omega
 refine (program_p m n hn g (st0 l) r w2 HPS.out HGO.out HC2.out).mono ?_;rintro e w3 ⟨vq,vf,rfl,hu,hp,hgd⟩;rw[<-hN] at hu;have HR3:=kG hgd HR2;have HB3:=h_ (HB2.out.trans (grown_below hgd HB2.out.size hgw));have HP3:=h_ hp;obtain⟨qa,qn,qc,fa,fn,fc,rfl,rfl⟩:=hu.form;have HU3:=h_ hu;clear hu hp hgd hN;go_upto_region 5 with fail
 obtain⟨w4,kp,hw,hkk,hb,hs1,HX⟩:=newb w3 #[.slice qa qn qc,.slice fa fn fc] 26;have hgp:g<kp:=by rw[hkk];exact HP3.out.lt
 have hrp:=lk_ hkk HR3;rw[hw,<-hkk];have HR4:=kB hb HR3;have HB4:=bw_ HB3 hb;have HP4:=h_ (HP3.out.below hb);have HU4:=h_ (HU3.out.below hb);clear hw hkk hb hs1;go_wp2_with fail
 refine (finish_p g r.2 w4 HP4.out).mono ?_;rintro e w5 ⟨ev,rfl,he,hp,hgd⟩;have HR5:=kG hgd HR4;have HX5:=kG hgd HX;have HB5:=h_ (HB4.out.trans (grown_below hgd HB4.out.size hgw));have HU5:=h_ (HU4.out.grown hgd (fun h=>by omega));clear hgd hp;have z0:=cell_at HR5.out 0 rfl;have z1:=cell_at HR5.out 1 rfl;have f0:=froz_at HR5.out 0;have f1:=froz_at HR5.out 1;have x0:=cell_at HX5.out 0 rfl;have x1:=cell_at HX5.out 1 rfl;obtain⟨fe,hfe⟩:∃ x,x=r.2.fin.err:=⟨_,rfl⟩
 rw[<-hfe] at he;have HFE:Hid (pgF l r=fe):=h_ (by unfold pgF;rw[HF.out,hfe];rfl);clear hfe
 match fe,he with
 | none,he =>
  have he':ev=.nilIface:=he;subst he';clear he;go_wp2_with fail
  refine bodyPost_ret (v:=.tuple #[.agg #[.slice qa qn qc,.slice fa fn fc],.nilIface]) (by simp[results,Tryz.results7,go_sem,z0,z1]) rfl ⟨below_set1 (below_set1 HB5.out hNr 0 _) hNr 1 _,.inr ⟨HFE.out,_,_,rfl,?_⟩⟩;exact ((HU5.out.grown (grown_set _ kr 0 _) (fun h=>by omega)).grown (grown_set _ kr 1 _) (fun h=>by omega)).mono fun b h=>Nat.le_trans hwN h
 | some (c,ln,cl),he =>
  obtain⟨q,rfl,hq,-⟩:=he;have hqk:q≠kr:=fun e=>by subst e;have:=HR5.out;unfold AtB at hq;rw[hq] at this;injection this with this;injection this with _ this;exact absurd this (by decide)
  have HA:=h_ hq;clear hq;go_wp2_with fail
  refine bodyPost_ret (v:=.tuple #[.agg #[.slice none 0 0,.slice none 0 0],.iface 111 (.pointer (some ⟨q,0,none⟩))]) (by simp[results,Tryz.results7,go_sem,z0,z1]) rfl ⟨below_set1 (below_set1 HB5.out hNr 0 _) hNr 1 _,.inl ⟨(c,ln,cl),_,HFE.out,rfl,q,rfl,?_⟩⟩;have:=HA.out;unfold AtB at this ⊢;rw[set1_other _ _ _ _ hqk,set1_other _ _ _ _ hqk];exact this
end Go.Proofs.YtkocdbgmckdcpaaGreatDoor
namespace Go.Proofs.YtkocdbgmckdcpaaGreatDoor
set_option maxRecDepth 100000
set_option linter.unusedVariables false
theorem lex_cnt (s:Bs) (p:Nat × Nat) (h0:(lexS s p).2=0):(lexS s p).1.length<=s.length+1:=by
 refine lex_ind (C:=fun s _ ts=>ts.length<=s.length+1) ?_ ?_ s p h0
 ·intro s p h
  show 1<=_;omega
 intro s p k n ts h hm ih he;obtain⟨-,h1,h2,-⟩:=meas_ok h hm;simp only[List.length_drop,lsc] at *
 omega
theorem meas_300 {l:Bs} {k n:Nat} (h:meas l=.ok k n):n<=300:=by
 match l with
 | []=>injection h with _ h;omega
 | a::r =>
  rw[meas_cons] at h
  split at h
  ·split at h
   ·cases h
   split at h<;>(injection h with _ h;omega)
  split at h
  ·split at h
   ·cases h
   split at h
   ·cases h
   injection h with _ h;omega
  split at h
  ·injection h with _ h;have:=(sgn_le (a::r)).1;omega
  cases h
theorem lex_300 (s:Bs) (p:Nat × Nat) (h0:(lexS s p).2=0):∀ t ∈ (lexS s p).1,t.text.length<=300:=by
 refine lex_ind (C:=fun _ _ ts=>∀ t ∈ ts,t.text.length<=300) ?_ ?_ s p h0
 ·intro s p h t ht;rw[List.mem_singleton.1 ht];exact Nat.zero_le _
 intro s p k n ts h hm ih he t ht;rcases List.mem_cons.1 ht with rfl | ht
 ·have:=meas_300 hm
  show ((s.drop (gapL false s)).take n).length<=300
  rw[List.length_take];omega
 exact ih t ht
theorem gt_long (l:Bs) (hl:l.length<=20000) (h0:(lexS l (1,1)).2=0):GT (st0 l):=
 ⟨lex_good l (1,1) h0,fun t ht=>by
  have:=placed_bd (lex_placed l (1,1) h0) t ht;have h3:=lex_300 l (1,1) h0 t ht;simp only at this
  exact⟨by omega,by omega,by omega⟩,fun x hx=>by cases hx⟩
theorem prog_told2 (l:Bs) (hl:l.length<=20000):∃ r:PgU × St,(lexF l=none->cProg 20001 160015 ⟨[],[]⟩ (st0 l)=some r)/\(pgF l r=none->PgB r.1/\PgW r.1):=by
 by_cases h0:(lexS l (1,1)).2=0
 ·have hgt:=gt_long l hl h0;have hlen:(st0 l).rest.length<=20001:=by have:=lex_cnt l (1,1) h0;show (lexS l (1,1)).1.length<=_;omega
  obtain⟨x,h1,hB,-⟩:=prog_c (m:=20001) (n:=160015) (p:=⟨[],[]⟩) hgt ⟨by simp,by simp⟩ hlen (by omega);refine⟨x,fun _=>h1,fun hf=>⟨hB,?_⟩⟩;unfold pgF at hf;rw[lexF_none.2 h0,Option.none_or] at hf;exact ((prog_w (lex_gw l h0) h1).2 (fin_none hf).2).2.1 ⟨⟨fun q hq=>(by cases hq),Nat.zero_le _⟩,fun q hq=>(by cases hq),Nat.zero_le _⟩
 refine⟨(⟨[],[]⟩,st0 l),fun h=>absurd (lexF_none.1 h) h0,fun h=>?_⟩;unfold pgF at h
 cases hx:lexF l with
 | none=>exact absurd (lexF_none.1 hx) h0
 | some f=>rw[hx] at h;cases h
theorem pgF_none {l:Bs} {r:PgU × St} (h:pgF l r=none):lexF l=none/\r.2.fin.err=none:=by
 unfold pgF at h
 cases hx:lexF l with
 | none=>rw[hx,Option.none_or] at h;exact⟨rfl,h⟩
 | some f=>rw[hx] at h;cases h
theorem twice_told {l:Bs} (hl:l.length<=3000) {r:PgU × St} (hc:lexF l=none->cProg 20001 160015 ⟨[],[]⟩ (st0 l)=some r) (hf:pgF l r=none) :
  (pgT r.1).length<=20000/\∀ r2:PgU × St,(lexF (pgT r.1)=none->cProg 20001 160015 ⟨[],[]⟩ (st0 (pgT r.1))=some r2)->pgF (pgT r.1) r2=none/\r2.1.qs.map stQl=r.1.qs.map stQl/\r2.1.fs.map stFn=r.1.fs.map stFn/\pgT r2.1=pgT r.1:=by
 obtain⟨p,s⟩:=r;obtain⟨h1,h2⟩:=pgF_none hf;obtain⟨t1,t2,t3,t4⟩:=prints_told hl h1 (hc h1) h2;refine⟨t2,fun r2 h=>?_⟩;obtain⟨a,b,c⟩:=t4 _ _ r2 (h t3);refine⟨?_,b,c,pgT_of b c⟩;unfold pgF;rw[t3,Option.none_or];exact a
end Go.Proofs.YtkocdbgmckdcpaaGreatDoor
namespace Go.Proofs.YtkocdbgmckdcpaaGreatDoor
open Go.RowKit
set_option maxRecDepth 100000
namespace Rely
def lst (n m:Nat):Array Bool:=(List.replicate m true++List.replicate (n - m) false).toArray
def inOrder (ops:List Oper) (m:Nat):Bool:=(List.range ops.length).all fun i=>decide (i<m) || Region.ready .any ops.toArray (lst ops.length i)==[i]
theorem lst_set {n m:Nat} (h:m<n):(lst n m).setIfInBounds m true=lst n (m+1):=by
 unfold lst
 apply Array.ext'
 rw[Array.toList_setIfInBounds]
 show (List.replicate m true++List.replicate (n - m) false).set m true=List.replicate (m+1) true++List.replicate (n - (m+1)) false
 rw[List.set_append_right _ _ (by simp)];simp only[List.length_replicate,Nat.sub_self];obtain⟨r,hr⟩:∃ r,n - m=r+1:=⟨n - m - 1,by omega⟩
 rw[hr,show n - (m+1)=r by omega,List.replicate_succ,List.set_cons_zero,List.replicate_succ',List.append_assoc]
 rfl
theorem ready_full (ops:List Oper):Region.ready .any ops.toArray (lst ops.length ops.length)=[]:=by
 refine List.eq_nil_iff_forall_not_mem.2 (fun i hi=>?_);obtain⟨h1,o,ho,_⟩:=mem_ready.1 hi;have hlt:i<ops.length:=by have:=(Array.getElem?_eq_some_iff.1 ho).1;simpa using this
 simp[lst,Array.getD_eq_getD_getElem?,hlt] at h1
theorem rest_any {P:Program} {ops:List Oper} {Q:Exit->Act->World->Prop}:∀ (r m:Nat),m+r=ops.length->(∀ i,m<=i->i<ops.length->Region.ready .any ops.toArray (lst ops.length i)=[i])->∀ a w,wpList P ops.toArray Q (ops.drop m) a w->wpAny P .any ops.toArray Q r (lst ops.length m) a w
 | 0,m,hm,_,a,w,h=>by
  have e:m=ops.length:=by omega
  subst e;rw[List.drop_length] at h;exact⟨ready_full ops,h⟩
 | r+1,m,hm,hr,a,w,h=>by
  have hlt:m<ops.length:=by omega
  have h0:=hr m (Nat.le_refl _) hlt;refine⟨(fun hn=>by rw[h0] at hn;cases hn),fun i hi=>?_⟩;rw[h0,List.mem_singleton] at hi;subst hi;rw[List.drop_eq_getElem_cons hlt] at h;have ho:ops.toArray[i]?=some ops[i]:=by simp[hlt]
  have ih:=rest_any (P:=P) (Q:=Q) r (i+1) (by omega) (fun j hj hj'=>hr j (by omega) hj');unfold wpOp;rw[ho,lst_set hlt];simp only[wpList] at h ⊢
  split
  ·rename_i hw
   rw[if_pos hw] at h;rcases h with h | h
   ·exact .inl (Go.Oper.wp_mono (fun a' w' h'=>ih a' w' h') h)
   exact .inr h
  rename_i hw
  rw[if_neg hw] at h;exact ih _ _ h
theorem rest_list {P:Program} {ops:List Oper} {Q:Exit->Act->World->Prop} {t0:Array Value} {ds:List Deferred} {m:Nat} {x:Nat->Value} {w:World} (hm:m<=ops.length) (hi:inOrder ops m=true)
  (h:wpList P ops.toArray Q (ops.drop m) ⟨fill (ops.take m) x 0 t0,ds⟩ w):Rest P ops Q t0 ds m x w:=by
 unfold Rest;refine rest_any (ops.length - m) m (by omega) (fun i h1 h2=>?_) _ _ h;unfold inOrder at hi;have:=List.all_eq_true.1 hi i (List.mem_range.2 h2);simp only[Bool.or_eq_true,decide_eq_true_eq,beq_iff_eq] at this;exact this.resolve_left (by omega)
end Rely
theorem liesWr:liesAt Tryz.prog Tryz.prog.depth 67 (2 / Tryz.prog.cellsOf 67) 0 65 1=true:=by kernel_rfl
theorem cellsByte:Tryz.prog.cellsOf 5=1:=by kernel_rfl
theorem wr_copyCheck (b:Nat) (w:World) (h0:w.cell? ⟨b,0,none⟩=some (.pointer none)) (hsh:w.shape? b=some (67,2)) (hfz:w.frozen? ⟨b,0,none⟩=false) :
  Calls Tryz.prog 71 #[.pointer (some ⟨b,0,none⟩)] w fun e w'=>e=.returned (.tuple #[])/\w.setCell ⟨b,0,none⟩ (.pointer (some ⟨b,0,none⟩))=w':=by
 obtain⟨j,hj,hjs⟩:=Option.map_eq_some_iff.1 infoBld;have h1:=Lib.run_to_unsafe (P:=Tryz.prog) w ⟨b,0,none⟩ Tryz.underlying62 Tryz.underlying142 hj (by rw[hjs];decide) hsh (Nat.zero_lt_succ 1);have h2:=run_callFunc_extern (P:=Tryz.prog) (w:=w) (args:=#[.pointer (some ⟨b,0,none⟩)]) Tryz.func103 (by kernel_rfl) (by kernel_rfl) (by kernel_rfl) (e:=Extern.AbiNoEscape.same) (by kernel_rfl);have h3:=Lib.run_noEscape (P:=Tryz.prog) w (.pointer (some ⟨b,0,none⟩));have h4:=Lib.run_from_unsafe (P:=Tryz.prog) w ⟨b,0,none⟩ Tryz.underlying142 Tryz.underlying62 hj hsh liesWr;go_enter Tryz.func71,Tryz.ntmps71
 go_wp2
 go_end0
 exact⟨rfl,rfl⟩
def Wr (B b:Nat) (l:Bs) (w:World):Prop:=Lib.IsBuilder 67 5 B b (Lib.byteCells l) w
theorem Wr.at {B b:Nat} {l:Bs} {w:World} (h:Wr B b l w):∃ p v,w.heap[b]?=some (.cells #[p,v] 67 (0,0))/\w.ownsRow B 5 1 v l.length (Lib.byteCells l)/\v.ownBlock≠some b/\B<=b/\(p=.pointer none\/p=.pointer (some ⟨b,0,none⟩)):=by
 rcases h with ⟨hB,v,h1,h2,h3⟩ | ⟨hB,v,h1,h2,h3⟩
 ·exact⟨_,v,h1,by simpa [Lib.byteCells_length] using h2,h3,hB,.inl rfl⟩
 exact⟨_,v,h1,by simpa [Lib.byteCells_length] using h2,h3,hB,.inr rfl⟩
theorem Wr.below {B b:Nat} {l:Bs} {w w':World} (h:Wr B b l w) (hb:Below w.heap.size w w'):Wr B b l w':=by
 have go:∀ p,Lib.BuilderAt 67 5 B b p (Lib.byteCells l) w->Lib.BuilderAt 67 5 B b p (Lib.byteCells l) w':=by
  intro p ⟨hB,v,h1,h2,h3⟩;have hlt:=lt_of_block h1;exact⟨hB,v,by rw[hb.block b hlt];exact h1,World.ownsRow.kept h2 ⟨hb.os,hb.tape,hb.output,hb.size,fun j hj _=>hb.block j hj⟩ (by cases hv:v.ownBlock with | none=>exact .inl rfl | some g=>exact .inr (show some g≠none by simp)),h3⟩
 rcases h with h | h
 ·exact .inl (go _ h)
 exact .inr (go _ h)
theorem Wr.lt {B b:Nat} {l:Bs} {w:World} (h:Wr B b l w):B<=b/\b<w.heap.size:=by
 obtain⟨p,v,h1,-,-,h2,-⟩:=h.at;exact⟨h2,lt_of_block h1⟩
theorem Wr.fresh (w:World):Wr w.heap.size w.heap.size [] (w.alloc (.cells #[.pointer none,.slice none 0 0] 67)):=Lib.fresh_isBuilder 67 5 w
theorem Wr.lower {B B' b:Nat} {l:Bs} {w:World} (h:Wr B b l w) (hB:B'<=B):Wr B' b l w:=by
 have go:∀ p,Lib.BuilderAt 67 5 B b p (Lib.byteCells l) w->Lib.BuilderAt 67 5 B' b p (Lib.byteCells l) w:=by
  rintro p ⟨h1,v,h2,⟨h3,h4⟩,h5⟩;refine⟨by omega,v,h2,⟨h3,?_⟩,h5⟩;rcases h4 with h4 | ⟨g,cap,cur,a1,a2,a3⟩
  ·exact .inl h4
  exact .inr ⟨g,cap,cur,a1,by omega,a3⟩
 rcases h with h | h
 ·exact .inl (go _ h)
 exact .inr (go _ h)
def Fr (w w':World):Prop:=∀ (g:Nat) (c:Array Value) (T:TypeId) (fz:Nat × Nat),w.heap[g]?=some (.cells c T fz)->T≠5->T≠67->w'.heap[g]?=some (.cells c T fz)
theorem Fr.refl (w:World):Fr w w:=fun _ _ _ _ h _ _=>h
theorem Fr.trans {a b c:World} (h:Fr a b) (k:Fr b c):Fr a c:=fun g x T fz h1 h2 h3=>k g x T fz (h g x T fz h1 h2 h3) h2 h3
theorem fr_below {w w':World} (h:Below w.heap.size w w'):Fr w w':=fun g c T fz h1 _ _=>by rw[h.block g (lt_of_block h1)];exact h1
theorem fr_set {w:World} {b:Nat} {c0:Array Value} {f0:Nat × Nat} (hb:w.heap[b]?=some (.cells c0 67 f0)) (i:Nat) (x:Value):Fr w (w.setCell ⟨b,i,none⟩ x):=fun g c T fz h1 _ h3=>by
 by_cases e:g=b
 ·subst e;rw[hb] at h1;injection h1 with h1;injection h1 with _ h1 _;exact absurd h1.symm h3
 rw[set1_other _ _ _ _ e];exact h1
theorem fr_grown {w w':World} {B:Nat} {v:Value} {n:Nat} {xs:List Value} (hown:w.ownsRow B 5 1 v n xs) (hg:w.grownBy w' v.ownBlock):Fr w w':=fun g c T fz h1 h2 _=>by
 rw[hg.block g (lt_of_block h1) (fun e=>?_)];exact h1;rcases hown.2 with ⟨rfl,_⟩ | ⟨q,cap,cur,rfl,_,hq,_⟩
 ·cases e
 injection e with e;subst e;rw[hq] at h1;injection h1 with h1;injection h1 with _ h1 _;exact h2 h1.symm
theorem wr_checked {B b:Nat} {l:Bs} {w:World} (h:Wr B b l w):∃ v,Calls Tryz.prog 71 #[.pointer (some ⟨b,0,none⟩)] w fun e w1=>e=.returned (.tuple #[])/\w1.heap[b]?=some (.cells #[.pointer (some ⟨b,0,none⟩),v] 67 (0,0))/\w1.ownsRow B 5 1 v l.length (Lib.byteCells l)/\v.ownBlock≠some b/\Below B w w1/\Fr w w1:=by
 obtain⟨p,v,hbk,hown,hne,hBb,hp⟩:=h.at;refine⟨v,?_⟩;rcases hp with rfl | rfl
 ·refine (wr_copyCheck b w (by rw[cell_of_row w b 0 _ 67 (0,0) hbk];rfl) (by simp[World.shape?,hbk]) (frozen_of_row w b 0 _ 67 hbk)).mono ?_;rintro e w1 ⟨rfl,rfl⟩;refine⟨rfl,?_,?_,hne,(Below.refl _ _).setCell hBb _,fr_set hbk 0 _⟩
  ·rw[heap_setCell_same w b 0 _ 67 _ hbk];rfl
  exact ownsRow_setCell_other hown (by simpa using hne) _
 refine (copyCheck_used b w (by rw[cell_of_row w b 0 _ 67 (0,0) hbk];rfl)).mono ?_;rintro e w1 ⟨rfl,rfl⟩;exact⟨rfl,hbk,hown,hne,Below.refl _ _,Fr.refl _⟩
def WrPost (B b:Nat) (l:Bs) (w:World) (e:Ending) (w':World):Prop:=(∃ v,e=.returned v)/\Wr B b l w'/\Below B w w'/\Fr w w'
theorem wr_str (B b:Nat) (l m:Bs) (w:World) (h:Wr B b l w) (hlen:l.length+m.length<=1000000) (hBw:B<=w.heap.size) :
  Calls Tryz.prog 38 #[.pointer (some ⟨b,0,none⟩),.string ⟨m.toArray⟩] w (WrPost B b (l++m) w):=by
 obtain⟨i0,hi,hz0,hz1,hz2⟩:=info_parts infoByte;obtain⟨v,cc⟩:=wr_checked h;have hBb:=h.lt.1;have hsz:(⟨m.toArray⟩:ByteArray).size=m.length:=rfl;have CC:=h_ cc;clear cc h;go_enter Tryz.func38,Tryz.ntmps38
 go_wp2_with fail
 refine CC.out.mono ?_;rintro e w1 ⟨rfl,hbk1,hown1,hne,hb1,hfr1⟩;have HFR:=h_ hfr1;clear hfr1;have c0:w1.cell? ⟨b,0,none⟩=some (.pointer (some ⟨b,0,none⟩)):=by rw[cell_of_row w1 b 0 _ 67 (0,0) hbk1];rfl
 have c1:w1.cell? ⟨b,1,none⟩=some v:=by rw[cell_of_row w1 b 1 _ 67 (0,0) hbk1];rfl
 have HK:=h_ hbk1;clear hbk1;have hsz1:=hb1.size;go_wp2_with (at_builtin;refine Lib.wpList_append_own_string _ rfl (.tmp 12) (.tmp 13) 63 9 rfl B 5 i0 Tryz.underlying63 Tryz.underlying9 hi hz0 hz1 hz2 _ _ _ rfl hown1 ⟨m.toArray⟩ rfl ?c3 ?c4 ?c5 ?_)
 case c3=>unfold maxLen;omega
 case c4=>omega
 case c5=>omega
 intro v' w2 hown' hgrow _;have HFG:=h_ (fr_grown hown1 hgrow);have hlt1:b<w1.heap.size:=lt_of_block HK.out
 have hb2:w2.heap[b]?=some (.cells #[.pointer (some ⟨b,0,none⟩),v] 67 (0,0)):=by
  rw[hgrow.block b hlt1 (fun e=>hne e.symm)];exact HK.out
 have d0:w2.cell? ⟨b,0,none⟩=some (.pointer (some ⟨b,0,none⟩)):=by rw[cell_of_row w2 b 0 _ 67 (0,0) hb2];rfl
 have d1:w2.cell? ⟨b,1,none⟩=some v:=by rw[cell_of_row w2 b 1 _ 67 (0,0) hb2];rfl
 have f1:w2.frozen? ⟨b,1,none⟩=false:=frozen_of_row w2 b 1 _ 67 hb2;obtain⟨ao,cap,rfl,-⟩:=own_form hown';have HB2:=h_ hb2;clear hb2
 go_wp2
 go_ret2
 refine⟨⟨_,rfl⟩,?_,(hb1.grown hgrow (by omega) (fun k hk=>(hown1.lt k hk).1)).setCell (p:=⟨b,1,none⟩) hBb _,(HFR.out.trans HFG.out).trans (fr_set HB2.out 1 _)⟩;refine .inr ?_;rw[<-strCells_bytes];refine Lib.BuilderAt.put (T:=67) (e:=5) hBb HB2.out (bs':=Lib.byteCells l++Lib.strCells ⟨m.toArray⟩) ?_ (by decide);rw[lsa,Lib.byteCells_length,Lib.strCells_length];exact hown'
theorem wr_byte (B b:Nat) (l:Bs) (c:UInt8) (z:Int) (hz:z=(c.toNat:Int)) (w:World) (h:Wr B b l w) (hlen:l.length<=1000000) (hBw:B<=w.heap.size) :
  Calls Tryz.prog 41 #[.pointer (some ⟨b,0,none⟩),.int .u8 z] w (WrPost B b (l++[c]) w):=by
 obtain⟨v,cc⟩:=wr_checked h;have hBb:=h.lt.1;have CC:=h_ cc;have HZ:=h_ hz;clear cc h hz;go_enter Tryz.func41,Tryz.ntmps41
 go_wp2_with fail
 refine CC.out.mono ?_;rintro e w1 ⟨rfl,hbk1,hown1,hne,hb1,hfr1⟩;have HFR:=h_ hfr1;clear hfr1;have hlt1:b<w1.heap.size:=lt_of_block hbk1;have c0:w1.cell? ⟨b,0,none⟩=some (.pointer (some ⟨b,0,none⟩)):=by rw[cell_of_row w1 b 0 _ 67 (0,0) hbk1];rfl
 have c1:w1.cell? ⟨b,1,none⟩=some v:=by rw[cell_of_row w1 b 1 _ 67 (0,0) hbk1];rfl
 have hA:=hown1.alloc (.cells #[.int .u8 z] 5);have HA:=h_ hA;have HK:=h_ (made_more hbk1 (.cells #[.int .u8 z] 5));have HM:=h_ (made_at w1 (.cells #[.int .u8 z] 5) _ rfl);clear hbk1 hA;have hsz1:=hb1.size
 go_wp2_with (at_builtin;go_loud (refine wpList_append_el _ rfl (.tmp 11) (.tmp 13) 63 rfl 5 Tryz.underlying63 infoByte rfl (by decide) (by decide) B v l.length _ rfl HA.out w1.heap.size 5 [.int .u8 z] rfl (by intro u hu;simp at hu;subst hu;rfl) rfl HM.out (by omega) (by simp;omega) ?_;intro v' w2 hown' hgrow hfr;have hb2:=(hgrow.block b (lt_of_block HK.out) (fun e=>hne e.symm)).trans HK.out;have d1:w2.cell? ⟨b,1,none⟩=some v:=(by rw[cell_of_row w2 b 1 _ 67 (0,0) hb2];rfl);have f1:w2.frozen? ⟨b,1,none⟩=false:=frozen_of_row w2 b 1 _ 67 hb2;obtain⟨ao,cap,rfl,-⟩:=own_form hown';have HB2:=h_ hb2;have HOW:=h_ hown';have HGR:=h_ hgrow;clear hb2 hown' hgrow hfr))
 go_ret
 have hBw1:Below B w (w1.alloc (.cells #[.int .u8 z] 5)):=hb1.alloc (by omega) _;refine⟨⟨_,rfl⟩,.inr ?_,(hBw1.grown HGR.out (by have:=hBw1.size;omega) (fun k hk=>(HA.out.lt k hk).1)).setCell (p:=⟨b,1,none⟩) hBb _,((HFR.out.trans (fr_below ((Below.refl _ _).alloc (Nat.le_refl _) _))).trans (fr_grown HA.out HGR.out)).trans (fr_set HB2.out 1 _)⟩;have e:Lib.byteCells (l++[c])=Lib.byteCells l++[.int .u8 z]:=by rw[HZ.out];simp[Lib.byteCells]
 rw[e];refine Lib.BuilderAt.put (T:=67) (e:=5) hBb HB2.out (bs':=Lib.byteCells l++[.int .u8 z]) ?_ (by decide);rw[lsa,Lib.byteCells_length];exact HOW.out
theorem wr_string_some (B b g cap:Nat) (p:Value) (cur:Array Value) (l:Bs) (w:World) (h0:l ≠ []) (hB:B<=g) (hbk:w.heap[b]?=some (.cells #[p,.slice (some ⟨g,0,none⟩) l.length cap] 67 (0,0))) (hg:w.heap[g]?=some (.cells cur 5 (0,0)))
  (hnc:l.length<=cap) (hcm:cap<=maxLen) (hcs:cur.size=cap) (hcell:∀ j (x:UInt8),l[j]?=some x->w.cell? ((⟨g,0,none⟩:Addr).add j)=some (.int .u8 x.toNat)) :
  Calls Tryz.prog 22 #[.pointer (some ⟨b,0,none⟩)] w fun e w'=>e=.returned (.string ⟨l.toArray⟩)/\Below B w w':=by
 have hl0:l.length≠0:=by simpa using h0
 have c1:w.drew.cell? ⟨b,1,none⟩=some (.slice (some ⟨g,0,none⟩) l.length cap):=by
  have:w.drew.heap[b]?=some (.cells #[p,.slice (some ⟨g,0,none⟩) l.length cap] 67 (0,0)):=hbk;rw[Lib.cell_of_heap this];rfl
 have hSD:(Builtin.unsafeSliceData_ #[63] 107 #[.slice (some ⟨g,0,none⟩) l.length cap]).run Tryz.prog w.drew=.ok (.pointer (some ⟨g,0,none⟩)) w.drew:=
  Lib.run_unsafeSliceData_row _ _ _ _ _ _ (by omega)
 have hUS:(Builtin.unsafeString_ #[107,3] 9 #[.pointer (some ⟨g,0,none⟩),.int .i64 l.length]).run Tryz.prog w.drew=.ok (.string ⟨l.toArray⟩) (w.drew.freeze ⟨g,0,none⟩ l.length):=by
  refine Lib.run_unsafeString_row w.drew 107 3 9 5 Tryz.underlying107 cellsByte g cur.size (by have hg':w.drew.heap[g]?=some (.cells cur 5 (0,0)):=hg;simp[World.shape?,hg']) l h0 (by omega) (by unfold maxLen at hcm;omega) ?_;intro j x hx;exact hcell j x hx
 clear hcell hcs hg hbk;go_enter Tryz.func22,Tryz.ntmps22
 go_wp2
 go_region
 all_goals (go_wp2;go_ret;exact⟨rfl,Lib.below_freeze (Below.drew (Below.refl B w)) (p:=⟨g,0,none⟩) hB _⟩)
theorem wr_string (B b:Nat) (l:Bs) (w:World) (h:Wr B b l w) (h0:l ≠ []) :
  Calls Tryz.prog 22 #[.pointer (some ⟨b,0,none⟩)] w fun e w'=>e=.returned (.string ⟨l.toArray⟩)/\Below B w w':=by
 obtain⟨p,v,hbk,hown,hne,hBb,hp⟩:=h.at;have hl0:l.length≠0:=by simpa using h0
 have h1:=hown;rcases hown.2 with ⟨_,hz⟩ | ⟨g,cap,cur,rfl,hbg,hg,hnc,hcm,hcs,htake⟩
 ·exact absurd hz hl0
 refine wr_string_some B b g cap p cur l w h0 hbg hbk hg hnc hcm (by omega) fun j x hx=>?_
 exact h1.cells (g:=g) rfl j (.int .u8 x.toNat) (by simp[Lib.byteCells,hx])
theorem wr_string_nil (B b:Nat) (w:World) (h:Wr B b [] w) :
  Calls Tryz.prog 22 #[.pointer (some ⟨b,0,none⟩)] w fun e w'=>e=.returned (.string ⟨([]:Bs).toArray⟩)/\Below B w w':=by
 obtain⟨p,v,hbk,hown,hne,hBb,hp⟩:=h.at;have hBw:B<=w.heap.size:=Nat.le_of_lt (Nat.lt_of_le_of_lt h.lt.1 h.lt.2)
 obtain⟨ao,c,q,w2,hv,hSD,hb2,hk2⟩:∃ ao c q w2,v=.slice ao 0 c/\(Builtin.unsafeSliceData_ #[63] 107 #[.slice ao 0 c]).run Tryz.prog w.drew=.ok (.pointer q) w2/\Below B w w2/\w2.heap[b]?=some (.cells #[p,v] 67 (0,0)):=by
  rcases hown.2 with ⟨hv,hz⟩ | ⟨g,cap,cur,hv,hbg,hg,hnc,hcm,hcs,htake⟩
  ·exact⟨none,0,none,_,hv,Lib.run_unsafeSliceData_nil _ _ _ _ _,Below.drew (Below.refl B w),hbk⟩
  by_cases h0:cap=0
  ·subst h0;have hg':w.drew.heap[g]?=some (.cells cur 5 (0,0)):=hg;exact⟨some ⟨g,0,none⟩,0,_,_,hv,Lib.run_unsafeSliceData_zero (w:=w.drew) _ _ 5 Tryz.underlying107 ⟨g,0,none⟩ 0 (5,cur.size) (by simp[World.shape?,hg']),(Below.drew (Below.refl B w)).alloc hBw _,made_more (show w.drew.heap[b]?=_ from hbk) _⟩
  exact⟨some ⟨g,0,none⟩,cap,_,_,hv,Lib.run_unsafeSliceData_row _ _ _ _ _ _ h0,Below.drew (Below.refl B w),hbk⟩
 subst hv
 have c1:w.drew.cell? ⟨b,1,none⟩=some (.slice ao 0 c):=by
  have:w.drew.heap[b]?=some (.cells #[p,.slice ao 0 c] 67 (0,0)):=hbk;rw[Lib.cell_of_heap this];rfl
 have c2:w2.cell? ⟨b,1,none⟩=some (.slice ao 0 c):=by rw[Lib.cell_of_heap hk2];rfl
 have hUS:(Builtin.unsafeString_ #[107,3] 9 #[.pointer q,.int .i64 0]).run Tryz.prog w2=.ok (.string .empty) w2:=Lib.run_unsafeString_none _ _ _ _ _;clear hbk hown hne hp h hk2;go_enter Tryz.func22,Tryz.ntmps22
 go_wp2
 go_region
 all_goals (go_wp2;go_ret;exact⟨rfl,hb2⟩)
theorem wr_string_all (B b:Nat) (l:Bs) (w:World) (h:Wr B b l w) :
  Calls Tryz.prog 22 #[.pointer (some ⟨b,0,none⟩)] w fun e w'=>e=.returned (.string ⟨l.toArray⟩)/\Below B w w':=by
 by_cases h0:l=[]
 ·subst h0;exact wr_string_nil B b w h
 exact wr_string B b l w h h0
structure Tabs (w:World):Prop where
 p10 : Lib.TabIs Tryz.prog w "internal/strconv.uint64pow10" .u64 Lib.pow10Tab
 lv:∀ i,i<29->w.cell? ⟨1,i,none⟩=some (.int .i64 (lv i:Nat))
 sg:∀ i,i<24->w.cell? ⟨3,i,none⟩=some (.string ⟨(sg5 i).toArray⟩)
theorem Tabs.below {w w':World} (h:Tabs w) (hb:Below w.heap.size w w'):Tabs w':=
 ⟨tab_below h.p10 hb,fun i hi=>by rw[hb.cell (cell_lt (h.lv i hi))];exact h.lv i hi,fun i hi=>by rw[hb.cell (cell_lt (h.sg i hi))];exact h.sg i hi⟩
def Og:Nat->T->Prop
 | 0,_=>False
 | d+1,.node k nm ot z ks=>k<29/\((k=3->1<=nm.length)/\nm.length<=40)/\ot.length<=40/\z<4294967296 ^ 40/\(k=24\/ks.length=ar k)/\ks.length<=9223372036854775807/\∀ t ∈ ks,Og d t
def k0 (ks:List T):List Bs:=ks.map (ex 0)
theorem exs_k0 (k:Nat) (h:24<=k) (i:Nat) (ks:List T):exs k i ks=k0 ks:=by
 induction ks generalizing i with
 | nil=>rfl
 | cons t ts ih =>
  have:rq k i=0:=by unfold rq;rw[if_neg (by omega),if_neg (by omega)]
  simp only[exs,k0,List.map_cons,this,ih];rfl
theorem k0_len (ks:List T):(k0 ks).length=ks.length:=List.length_map ..
theorem phr_take (ws ps:List Bs) (j:Nat) (h1:j<ws.length) (h2:j<ps.length):phr (ws.take (j+1)) (ps.take (j+1))=phr (ws.take j) (ps.take j)++ws[j]++ps[j]:=by
 induction ws generalizing ps j with
 | nil=>simp at h1
 | cons w ws ih =>
  cases ps with
  | nil=>simp at h2
  | cons p ps =>
   cases j with
   | zero=>simp[phr]
   | succ j=>simp only[List.take_succ_cons,phr,List.getElem_cons_succ,List.append_assoc];rw[ih ps j (by simpa using h1) (by simpa using h2)];simp
theorem com_take (ps:List Bs) (j:Nat) (h2:j<ps.length):com (ps.take (j+1))=com (ps.take j)++(if j=0 then [] else [44,32])++ps[j]:=by
 induction ps generalizing j with
 | nil=>simp at h2
 | cons p ps ih =>
  cases j with
  | zero=>simp[com]
  | succ j =>
   have h3:j<ps.length:=by simpa using h2
   have:=ih j h3
   cases ps with
   | nil=>simp at h3
   | cons q ps =>
    cases j with
    | zero=>simp[com]
    | succ j =>
     simp only[List.take_succ_cons,com,List.getElem_cons_succ,List.append_assoc] at this ⊢;rw[this];simp
theorem k0_get (ks:List T) (j:Nat) (h:j<ks.length):(k0 ks)[j]'(by rw[k0_len];exact h)=ex 0 ks[j]:=by simp[k0]
theorem phr_mono (ws ps:List Bs) (hl:ws.length=ps.length) (j:Nat):(phr (ws.take j) (ps.take j)).length<=(phr ws ps).length:=by
 induction ws generalizing ps j with
 | nil=>cases ps with
  | nil=>simp[phr]
  | cons p ps=>simp at hl
 | cons w ws ih =>
  cases ps with
  | nil=>simp at hl
  | cons p ps =>
   cases j with
   | zero=>simp[phr]
   | succ j=>have:=ih ps (by simpa using hl) j;simp only[List.take_succ_cons,phr,lsa];omega
theorem phr_pre (ws ps:List Bs) (hl:ws.length=ps.length) (j:Nat) (h:j<ws.length):(phr (ws.take j) (ps.take j)).length+ws[j].length+(ps[j]'(by omega)).length<=(phr ws ps).length:=by
 have h1:=phr_mono ws ps hl (j+1);rw[phr_take ws ps j h (by omega)] at h1;simp only[lsa] at h1;omega
theorem com_mono (ps:List Bs) (j:Nat):(com (ps.take j)).length<=(com ps).length:=by
 induction ps generalizing j with
 | nil=>simp[com]
 | cons p ps ih =>
  cases j with
  | zero=>simp[com]
  | succ j =>
   have:=ih j
   cases ps with
   | nil=>simp
   | cons q ps =>
    cases j with
    | zero=>simp only[List.take_succ_cons,List.take_zero,com,lsa];omega
    | succ j=>simp only[List.take_succ_cons,com,lsa] at this ⊢;omega
theorem com_pre (ps:List Bs) (j:Nat) (h:j<ps.length):(com (ps.take j)).length+(if j=0 then 0 else 2)+ps[j].length<=(com ps).length:=by
 have h1:=com_mono ps (j+1);rw[com_take ps j h] at h1
 by_cases hj:j=0
 ·rw[if_pos hj] at h1 ⊢;simp only[lsa,lsn] at h1;omega
 rw[if_neg hj] at h1 ⊢;simp only[lsa,lsc,lsn] at h1;omega
def ExprAt (w0:World) (d:Nat):Prop:=∀ (b:Nat) (l:Bs) (lev:Nat) (x:X) (t:T) (S:Nat->Prop) (w:World),Tr w0 S d x t->Og d t->lev<=8->Below w0.heap.size w0 w->Wr w0.heap.size b l w->l.length+(ex lev t).length<=1000000 ->
 Calls Tryz.prog 73 #[.pointer (some ⟨b,0,none⟩),xv x,.int .i64 (lev:Nat)] w (WrPost w0.heap.size b (l++ex lev t) w)
def Words (w:World) (g:Nat) (ws:List Bs):Prop:=w.heap[g]?=some (.cells (ws.map fun s=>Value.string ⟨s.toArray⟩).toArray 9 (0,0))
theorem Words.at {w:World} {g:Nat} {ws:List Bs} (h:Words w g ws) (j:Nat) (hj:j<ws.length):w.cell? ⟨g,j,none⟩=some (.string ⟨ws[j].toArray⟩):=by
 rw[cell_of_row w g j _ 9 (0,0) h];simp[hj]
theorem Words.fr {w w':World} {g:Nat} {ws:List Bs} (h:Words w g ws) (hf:Fr w w'):Words w' g ws:=hf g _ _ _ h (by decide) (by decide)
theorem Words.below {w w':World} {g:Nat} {ws:List Bs} (h:Words w g ws) (hb:Below w.heap.size w w'):Words w' g ws:=h.fr (fr_below hb)
theorem phrase_any (w0:World) (d:Nat) (E:Hid (ExprAt w0 d)) (b:Nat) (l:Bs) (k:Nat) (nm ot:Bs) (z:Nat) (ks:List T) (x:X) (S:Nat->Prop) (g:Nat) (ws:List Bs) (c:Nat) (w:World) (h:Tr w0 S (d+1) x (.node k nm ot z ks)) (ho:Og (d+1) (.node k nm ot z ks)) (hws:ws.length=ks.length) (hwd:Words w g ws)
  (hbw:Below w0.heap.size w0 w) (hwr:Wr w0.heap.size b l w) (hlen:l.length+(phr ws (k0 ks)).length<=1000000) :
  Calls Tryz.prog 126 #[.pointer (some ⟨b,0,none⟩),xv x,.slice (some ⟨g,0,none⟩) ks.length c] w (WrPost w0.heap.size b (l++phr ws (k0 ks)) w):=by
 obtain⟨hk,hn,hoo,hz,ha,hl,hks⟩:=ho;obtain⟨⟨e1,e2,e3,e4⟩,⟨h2,h3⟩,⟨h4,h5,h6⟩,h7⟩:=h;obtain⟨xk,xnm,xot,xb,xao,xn,xq,xko,xkn,xkc,xln,xcl⟩:=x;simp only at e1 e2 e3 e4 h2 h3 h4 h5 h6 h7;subst e1 e2 e3 e4 h4;have HK:=h_ h7;have HKS:=h_ hks;have HS:=h_ h2;have HBW:=h_ hbw;have HWR:=h_ hwr;have hsB:=hbw.size;clear h2 h3 h6 h7 hks hbw hwr;simp only[xv];have HWD:=h_ hwd;have HWS:=h_ hws;clear hwd hws;have hba:Below w.heap.size w (w.alloc (.cells #[.int .i64 (k:Nat),.string ⟨nm.toArray⟩,.string ⟨ot.toArray⟩,.bool false,.slice xao xn xq,.slice xko ks.length xkc,.int .i64 xln,.int .i64 xcl] 46)):=(Below.refl _ _).alloc (Nat.le_refl _) _
 have HI:Hid (Wr w0.heap.size b (l++phr (ws.take 0) ((k0 ks).take 0)) (w.alloc (.cells #[.int .i64 (k:Nat),.string ⟨nm.toArray⟩,.string ⟨ot.toArray⟩,.bool false,.slice xao xn xq,.slice xko ks.length xkc,.int .i64 xln,.int .i64 xcl] 46))):=h_ (by simp only[List.take_zero,phr,List.append_nil];exact HWR.out.below hba);have HI2:=h_ (HWD.out.below hba);have HI3:Hid (Below w0.heap.size w (w.alloc (.cells #[.int .i64 (k:Nat),.string ⟨nm.toArray⟩,.string ⟨ot.toArray⟩,.bool false,.slice xao xn xq,.slice xko ks.length xkc,.int .i64 xln,.int .i64 xcl] 46))):=h_ (hba.mono hsB);have HI4:=h_ (fr_below hba);clear hba;go_enter Tryz.func126,Tryz.ntmps126
 go_wp2_with fail
 go_loopw [11] (fun i wr=>∃ j:Nat,i=.int .i64 (j:Nat)/\j<=ks.length/\Wr w0.heap.size b (l++phr (ws.take j) ((k0 ks).take j)) wr/\Words wr g ws/\Below w0.heap.size w wr/\Fr w wr) (fun i _=>ks.length - (intOf i).toNat)
 case atStart=>exact⟨0,rfl,Nat.zero_le _,HI.out,HI2.out,HI3.out,HI4.out⟩
 case round =>
  obtain⟨j,rfl,hj,hw1,hw2,hw3,hw4⟩:=hrel;have H1:=h_ hw1;have H2:=h_ hw2;have H3:=h_ hw3;have H4:=h_ hw4;have hs3:=hw3.size;clear hw1 hw2 hw3 hw4
  by_cases hlt:j<ks.length
  ·obtain⟨wL,hwL⟩:∃ wL,wL=wr:=⟨_,rfl⟩
   subst hwL;have hb3:Below w0.heap.size w0 wL:=HBW.out.trans H3.out;obtain⟨Y,hA,hT⟩:=HK.out j hlt;obtain⟨a,rfl,hc⟩:=hA.keep fun a ha=>hb3.block _ (hA.lt a ha)
   obtain⟨c0,c1,c2,c3,c4,c5,c6,c7⟩:=cells8 hc;have HT:=h_ hT;have HB3:=h_ hb3;have hsB3:=hb3.size;clear hc hA hT hb3;go_wp2_with fail
   obtain⟨w9,hw9⟩:∃ w9,w9=wL.alloc (.cells #[.int .i64 Y.k,.string Y.nm,.string Y.ot,.bool Y.b,.slice Y.ao Y.n Y.c,.slice Y.ko Y.kn Y.kc,.int .i64 Y.ln,.int .i64 Y.cl] 46):=⟨_,rfl⟩
   have hb9:Below wL.heap.size wL w9:=by rw[hw9];exact (Below.refl _ _).alloc (Nat.le_refl _) _
   obtain⟨k9,hk9⟩:∃ k9,k9=wL.heap.size:=⟨_,rfl⟩
   have HB_k:Hid (w9.heap[k9]?=some (.cells #[.int .i64 Y.k,.string Y.nm,.string Y.ot,.bool Y.b,.slice Y.ao Y.n Y.c,.slice Y.ko Y.kn Y.kc,.int .i64 Y.ln,.int .i64 Y.cl] 46 (0,0))):=h_ (by rw[hw9,hk9];exact made_at wL _ _ rfl);have H2':=H2.out.below hb9;have HB_s:Hid (w9.heap[g]?=some (.cells (ws.map fun s=>Value.string ⟨s.toArray⟩).toArray 9 (0,0))):=h_ H2';have H19:=h_ (H1.out.below hb9);have HB9:=h_ hb9;rw[<-hw9,<-hk9];have hwj:j<ws.length:=by have:=HWS.out;omega
   have hs9:=hb9.size;clear hw9 hb9 hk9 H2' c0 c1 c2 c3 c4 c5 c6 c7;have hlt_s:=lt_of_block HB_s.out;have hlt_k:=lt_of_block HB_k.out;refine Rely.region (by kernel_rfl) [[],[0],[0,1],[],[],[3,4],[3,4,5],[0,1,2,3,4,5,6]] [] [] (fun _=>0) 0 7 (by kernel_rfl) (by kernel_rfl) (fun q h=>absurd h (Nat.not_lt_zero q)) (fun q _ h=>absurd h (Nat.not_lt_zero q)) ?_;refine Rely.Chain.det ?_ (by rfl) (fun T xs wr hA=>?_) ?_
   rotate_left 1
   ·have e0:=hA.pre 0 (by kernel_rfl);simp only[gsa,gsz] at e0;clear hA;refine⟨(by rfl),?_⟩;go_simp<;>(try with_reducible rfl)
   refine Rely.Chain.det ?_ (by rfl) (fun T xs wr hA=>?_) ?_
   rotate_left 1
   ·have e16:=(hA.tm 0 16 (by rfl) (by rfl)).trans (congrArg some (hA.fa 0 (by rfl)))
    (try simp (disch:=first | rfl | decide) only [Rely.mask_in] at e16)
    clear hA;refine⟨(by rfl),?_⟩;go_simp<;>(try with_reducible rfl)
   refine Rely.Chain.det ?_ (by rfl) (fun T xs wr hA=>?_) ?_
   rotate_left 1
   ·have e17:=(hA.tm 1 17 (by rfl) (by rfl)).trans (congrArg some (hA.fa 1 (by rfl)))
    (try simp (disch:=first | rfl | decide) only [Rely.mask_in] at e17)
    clear hA;refine⟨(by rfl),?_⟩;go_simp<;>(try with_reducible rfl)
   refine Rely.Chain.det ?_ (by rfl) (fun T xs wr hA=>?_) ?_
   rotate_left 1
   ·have e2:=hA.pre 2 (by kernel_rfl);simp only[gsa,gsc,gsz] at e2;clear hA;refine⟨(by rfl),?_⟩;go_simp<;>(try with_reducible rfl)
   refine Rely.Chain.det ?_ (by rfl) (fun T xs wr hA=>?_) ?_
   rotate_left 1
   ·have e6:=hA.pre 6 (by kernel_rfl);simp only[gsa,gsc,gsz] at e6;clear hA;refine⟨(by rfl),?_⟩;go_simp<;>(try with_reducible rfl)
   refine Rely.Chain.det ?_ (by rfl) (fun T xs wr hA=>?_) ?_
   rotate_left 1
   ·have e19:=(hA.tm 3 19 (by rfl) (by rfl)).trans (congrArg some (hA.fa 3 (by rfl)))
    (try simp (disch:=first | rfl | decide) only [Rely.mask_in] at e19)
    have e20:=(hA.tm 4 20 (by rfl) (by rfl)).trans (congrArg some (hA.fa 4 (by rfl)))
    (try simp (disch:=first | rfl | decide) only [Rely.mask_in] at e20)
    clear hA;refine⟨(by rfl),?_⟩;go_simp<;>(try with_reducible rfl)
   refine Rely.Chain.det ?_ (by rfl) (fun T xs wr hA=>?_) ?_
   rotate_left 1
   ·have e21:=(hA.tm 5 21 (by rfl) (by rfl)).trans (congrArg some (hA.fa 5 (by rfl)))
    (try simp (disch:=first | rfl | decide) only [Rely.mask_in] at e21)
    have q:wr.heap[g]?=_:=(hA.bl _ hlt_s (fun q h=>absurd h (Nat.not_lt_zero q))).trans HB_s.out;have qj:=Words.at (w:=wr) (g:=g) (ws:=ws) q j hwj;clear q;clear hA;refine⟨(by rfl),?_⟩;go_simp<;>(try with_reducible rfl)
   refine Rely.Chain.done (fun xs w10 hL=>?_);obtain⟨⟨hbe,hbl,hkp0⟩,hf,hp,hn⟩:=hL;have f0:xs 0=_:=hf 0 (by decide);have f1:xs 1=_:=hf 1 (by decide);have f2:xs 2=_:=hf 2 (by decide);have f3:xs 3=_:=hf 3 (by decide);have f4:xs 4=_:=hf 4 (by decide);have f5:xs 5=_:=hf 5 (by decide);have f6:xs 6=_:=hf 6 (by decide)
   (try simp (disch:=first | rfl | decide) only [Rely.mask_in] at f0 f1 f2 f3 f4 f5 f6)
   have hbx:Below w9.heap.size w9 w10:=undrew (hbe _ (Nat.le_refl _) (fun q h=>absurd h (Nat.not_lt_zero q)));clear hbe hbl hkp0 hf hp hn;replace HB_s:=h_ ((hbx.block _ hlt_s).trans HB_s.out);clear hlt_s;replace HB_k:=h_ ((hbx.block _ hlt_k).trans HB_k.out);clear hlt_k;refine Rely.rest_list (by decide) (by kernel_rfl) ?_;have hf6:=f6;simp only[Rely.fill,List.take_succ_cons,List.take_zero,List.drop_succ_cons,List.drop_zero,List.setIfInBounds_toArray,List.set_cons_zero,List.set_cons_succ,f0,f1,f2,f3,f4,f5,f6];have HBX:=h_ hbx;have HFR9:=h_ (fr_below hbx);have H10:=h_ (H19.out.below hbx);have hs10:w9.heap.size<=w10.heap.size:=hbx.size;clear hbx f0 f1 f2 f3 f4 f5 f6 hf6;have hpb:=phr_pre ws (k0 ks) (by rw[k0_len];exact HWS.out) j hwj;rw[k0_get ks j hlt] at hpb;go_wp2_with fail
   refine (wr_str w0.heap.size b _ ws[j] w10 H10.out (by rw[lsa];omega) (by omega)).mono ?_;rintro e w11 ⟨⟨v,rfl⟩,hw5,hb5,hfr5⟩;have HB_k11:=hfr5 k9 _ _ _ HB_k.out (by decide) (by decide);have d0:=cell_at (v:=.int .i64 Y.k) HB_k11 0 rfl;have d1:=cell_at (v:=.string Y.nm) HB_k11 1 rfl;have d2:=cell_at (v:=.string Y.ot) HB_k11 2 rfl;have d3:=cell_at (v:=.bool Y.b) HB_k11 3 rfl;have d4:=cell_at (v:=.slice Y.ao Y.n Y.c) HB_k11 4 rfl;have d5:=cell_at (v:=.slice Y.ko Y.kn Y.kc) HB_k11 5 rfl;have d6:=cell_at (v:=.int .i64 Y.ln) HB_k11 6 rfl;have d7:=cell_at (v:=.int .i64 Y.cl) HB_k11 7 rfl;have HB11:Hid (Below w0.heap.size wL w11):=h_ (((HB9.out.mono (by omega)).trans (HBX.out.mono (by omega))).trans hb5);have HF11:Hid (Fr wL w11):=h_ (((fr_below HB9.out).trans HFR9.out).trans hfr5);have HW11:=h_ hw5;clear hw5 hb5 hfr5 HB_k11;go_wp2_with fail
   refine (E.out b _ 0 Y ks[j] S w11 HT.out (HKS.out _ (List.getElem_mem hlt)) (by omega) (HB3.out.trans HB11.out) HW11.out (by simp only[lsa];omega)).mono ?_;rintro e w12 ⟨⟨v2,rfl⟩,hw6,hb6,hfr6⟩;have HW12:=h_ hw6;have HB12:=h_ hb6;have HF12:=h_ hfr6;clear hw6 hb6 hfr6 d0 d1 d2 d3 d4 d5 d6 d7;go_wp2_with fail
   go_roundw
   case rel =>
    refine⟨j+1,by go_num,by omega,?_,H2.out.fr (HF11.out.trans HF12.out),(H3.out.trans HB11.out).trans HB12.out,H4.out.trans (HF11.out.trans HF12.out)⟩;have hkj:j<(k0 ks).length:=by rw[k0_len];exact hlt
    rw[phr_take ws (k0 ks) j hwj hkj,k0_get ks j hlt];have:=HW12.out;simp only[List.append_assoc] at this ⊢;exact this
   case measure=>simp[intOf];omega
  have e:j=ks.length:=by omega
  subst e;go_wp2_with fail
  go_end0
  refine⟨⟨_,rfl⟩,?_,H3.out,H4.out⟩;have:=H1.out;rw[List.take_of_length_le (by have:=HWS.out;omega),List.take_of_length_le (by rw[k0_len];omega)] at this;exact this
theorem call_any (w0:World) (d:Nat) (E:Hid (ExprAt w0 d)) (b:Nat) (l:Bs) (k:Nat) (nm ot:Bs) (z:Nat) (ks:List T) (x:X) (S:Nat->Prop) (w:World) (h:Tr w0 S (d+1) x (.node k nm ot z ks)) (ho:Og (d+1) (.node k nm ot z ks))
  (hbw:Below w0.heap.size w0 w) (hwr:Wr w0.heap.size b l w) (hlen:l.length+(nm++[40]++com (k0 ks)++[41]).length<=1000000) :
  Calls Tryz.prog 125 #[.pointer (some ⟨b,0,none⟩),xv x] w (WrPost w0.heap.size b (l++(nm++[40]++com (k0 ks)++[41])) w):=by
 obtain⟨hk,hn,hoo,hz,ha,hl,hks⟩:=ho;simp only[lsa,lsc,lsn] at hlen;obtain⟨⟨e1,e2,e3,e4⟩,⟨h2,h3⟩,⟨h4,h5,h6⟩,h7⟩:=h;obtain⟨xk,xnm,xot,xb,xao,xn,xq,xko,xkn,xkc,xln,xcl⟩:=x;simp only at e1 e2 e3 e4 h2 h3 h4 h5 h6 h7;subst e1 e2 e3 e4 h4;have HK:=h_ h7;have HKS:=h_ hks;have HS:=h_ h2;have HBW:=h_ hbw;have HWR:=h_ hwr;have hsB:=hbw.size;clear h2 h3 h6 h7 hks hbw hwr;simp only[xv];obtain⟨k3,hk3⟩:∃ k3,k3=w.heap.size:=⟨_,rfl⟩
 obtain⟨w9,hw9⟩:∃ w9,w9=w.alloc (.cells #[.int .i64 (k:Nat),.string ⟨nm.toArray⟩,.string ⟨ot.toArray⟩,.bool false,.slice xao xn xq,.slice xko ks.length xkc,.int .i64 xln,.int .i64 xcl] 46):=⟨_,rfl⟩
 have hba:Below w.heap.size w w9:=by rw[hw9];exact (Below.refl _ _).alloc (Nat.le_refl _) _
 have HB_x:Hid (w9.heap[k3]?=some (.cells #[.int .i64 (k:Nat),.string ⟨nm.toArray⟩,.string ⟨ot.toArray⟩,.bool false,.slice xao xn xq,.slice xko ks.length xkc,.int .i64 xln,.int .i64 xcl] 46 (0,0))):=h_ (by rw[hw9,hk3];exact made_at w _ _ rfl);have HW9:=h_ (HWR.out.below hba);have HB9:=h_ hba;have hs9:=hba.size;have HK3:=h_ hk3;have HWE:=h_ hw9;clear hba;go_enter Tryz.func125,Tryz.ntmps125
 go_wp2_with fail
 rw[<-hw9,<-hk3];clear hw9 hk3;have hlt_x:=lt_of_block HB_x.out;refine Rely.region (by kernel_rfl) [[],[0],[0,1],[],[3],[0,1,2,3,4]] [] [] (fun _=>0) 0 5 (by kernel_rfl) (by kernel_rfl) (fun q h=>absurd h (Nat.not_lt_zero q)) (fun q _ h=>absurd h (Nat.not_lt_zero q)) ?_;refine Rely.Chain.det ?_ (by rfl) (fun T xs wr hA=>?_) ?_
 rotate_left 1
 ·have e0:=hA.pre 0 (by kernel_rfl);simp only[gsa,gsz] at e0;clear hA;refine⟨(by rfl),?_⟩;go_simp<;>(try with_reducible rfl)
 refine Rely.Chain.det ?_ (by rfl) (fun T xs wr hA=>?_) ?_
 rotate_left 1
 ·have e6:=(hA.tm 0 6 (by rfl) (by rfl)).trans (congrArg some (hA.fa 0 (by rfl)))
  (try simp (disch:=first | rfl | decide) only [Rely.mask_in] at e6)
  clear hA;refine⟨(by rfl),?_⟩;go_simp<;>(try with_reducible rfl)
 refine Rely.Chain.det ?_ (by rfl) (fun T xs wr hA=>?_) ?_
 rotate_left 1
 ·have e7:=(hA.tm 1 7 (by rfl) (by rfl)).trans (congrArg some (hA.fa 1 (by rfl)))
  (try simp (disch:=first | rfl | decide) only [Rely.mask_in] at e7)
  clear hA;refine⟨(by rfl),?_⟩;go_simp<;>(try with_reducible rfl)
 refine Rely.Chain.det ?_ (by rfl) (fun T xs wr hA=>?_) ?_
 rotate_left 1
 ·have e3:=hA.pre 3 (by kernel_rfl);simp only[gsa,gsc,gsz] at e3;clear hA;refine⟨(by rfl),?_⟩;go_simp<;>(try with_reducible rfl)
 refine Rely.Chain.det ?_ (by rfl) (fun T xs wr hA=>?_) ?_
 rotate_left 1
 ·have e9:=(hA.tm 3 9 (by rfl) (by rfl)).trans (congrArg some (hA.fa 3 (by rfl)))
  (try simp (disch:=first | rfl | decide) only [Rely.mask_in] at e9)
  have hBq:wr.heap[k3]?=_:=(hA.bl _ hlt_x (fun q h=>absurd h (Nat.not_lt_zero q))).trans HB_x.out;obtain⟨q0,q1,q2,q3,q4,q5,q6,q7⟩:=cl8 hBq;clear hBq;clear hA;refine⟨(by rfl),?_⟩;go_simp<;>(try with_reducible rfl)
 refine Rely.Chain.done (fun xs w10 hL=>?_);obtain⟨⟨hbe,hbl,hkp0⟩,hf,hp,hn⟩:=hL;have f0:xs 0=_:=hf 0 (by decide);have f1:xs 1=_:=hf 1 (by decide);have f2:xs 2=_:=hf 2 (by decide);have f3:xs 3=_:=hf 3 (by decide);have f4:xs 4=_:=hf 4 (by decide)
 (try simp (disch:=first | rfl | decide) only [Rely.mask_in] at f0 f1 f2 f3 f4)
 have hbx:Below w9.heap.size w9 w10:=undrew (hbe _ (Nat.le_refl _) (fun q h=>absurd h (Nat.not_lt_zero q)));clear hbe hbl hkp0 hf hp hn;replace HB_x:=h_ ((hbx.block _ hlt_x).trans HB_x.out);clear hlt_x;refine Rely.rest_list (by decide) (by kernel_rfl) ?_;simp only[Rely.fill,List.take_succ_cons,List.take_zero,List.drop_succ_cons,List.drop_zero,List.setIfInBounds_toArray,List.set_cons_zero,List.set_cons_succ,f0,f1,f2,f3,f4];have HBX:=h_ hbx;have hs10:=hbx.size;have H10:=h_ (HW9.out.below hbx);clear hbx f0 f1 f2 f3 f4;go_wp2_with fail
 refine (wr_str w0.heap.size b l nm w10 H10.out (by omega) (by omega)).mono ?_;rintro e w11 ⟨⟨v,rfl⟩,hw5,hb5,hfr5⟩;have hs11:=hb5.size;have HX11:=h_ (hfr5 k3 _ _ _ HB_x.out (by decide) (by decide));have H11:=h_ hw5;have HB11:=h_ hb5;have HF11:=h_ hfr5;clear hw5 hb5 hfr5;go_wp2_with fail
 refine (wr_byte w0.heap.size b _ 40 _ rfl w11 H11.out (by rw[lsa];omega) (by omega)).mono ?_;rintro e w12 ⟨⟨v2,rfl⟩,hw6,hb6,hfr6⟩;have hs12:=hb6.size;have hx12:=hfr6 k3 _ _ _ HX11.out (by decide) (by decide);have b5:=cell_at (v:=.slice xko ks.length xkc) hx12 5 rfl;have HX12:=h_ hx12;have H12:Hid (Wr w0.heap.size b (l++nm++[40]++com ((k0 ks).take 0)) w12):=h_ (by simp only[List.take_zero,com,List.append_nil];exact hw6);have HB12:Hid (Below w0.heap.size w w12):=h_ ((((HB9.out.mono hsB).trans (HBX.out.mono (by omega))).trans HB11.out).trans hb6);have HF12:Hid (Fr w w12):=h_ ((((fr_below HB9.out).trans (fr_below HBX.out)).trans HF11.out).trans hfr6);clear hw6 hb6 hfr6 hx12;go_wp2_with fail
 go_loopw [19] (fun i wr=>∃ j:Nat,i=.int .i64 (j:Nat)/\j<=ks.length/\Wr w0.heap.size b (l++nm++[40]++com ((k0 ks).take j)) wr/\Below w0.heap.size w wr/\Fr w wr) (fun i _=>ks.length - (intOf i).toNat)
 case atStart=>exact⟨0,rfl,Nat.zero_le _,H12.out,HB12.out,HF12.out⟩
 case round =>
  clear b5;obtain⟨j,rfl,hj,hw1,hw3,hw4⟩:=hrel;have H1:=h_ hw1;have H3:=h_ hw3;have H4:=h_ hw4;have hs3:=hw3.size;clear hw1 hw3 hw4
  by_cases hlt:j<ks.length
  ·obtain⟨wL,hwL⟩:∃ wL,wL=wr:=⟨_,rfl⟩
   subst hwL;have hb3:Below w0.heap.size w0 wL:=HBW.out.trans H3.out;obtain⟨Y,hA,hT⟩:=HK.out j hlt;obtain⟨a,rfl,hc⟩:=hA.keep fun a ha=>hb3.block _ (hA.lt a ha)
   obtain⟨c0,c1,c2,c3,c4,c5,c6,c7⟩:=cells8 hc;have HT:=h_ hT;have HB3:=h_ hb3;have hsB3:=hb3.size;clear hc hA hT hb3;have hba:Below wL.heap.size wL (wL.alloc (.cells #[.int .i64 Y.k,.string Y.nm,.string Y.ot,.bool Y.b,.slice Y.ao Y.n Y.c,.slice Y.ko Y.kn Y.kc,.int .i64 Y.ln,.int .i64 Y.cl] 46)):=(Below.refl _ _).alloc (Nat.le_refl _) _;have HBA:=h_ hba;have HWA:=h_ (H1.out.below hba);have HKA:=h_ (made_at wL (.cells #[.int .i64 Y.k,.string Y.nm,.string Y.ot,.bool Y.b,.slice Y.ao Y.n Y.c,.slice Y.ko Y.kn Y.kc,.int .i64 Y.ln,.int .i64 Y.cl] 46) _ rfl);have hsA:=hba.size;clear hba;have hcp:=com_pre (k0 ks) j (by rw[k0_len];exact hlt);rw[k0_get ks j hlt] at hcp
   by_cases hj0:j=0
   ·have hgt:decide ((0:Int)<(j:Int))=false:=by rw[decide_eq_false_iff_not];omega
    have HJ0:=h_ hj0;have hgt2:decide (0<j)=false:=by rw[decide_eq_false_iff_not];omega
    clear hj0;go_wp2_with fail
    refine (E.out b _ 0 Y ks[j] S _ HT.out (HKS.out _ (List.getElem_mem hlt)) (by omega) (HB3.out.trans (HBA.out.mono hsB3)) HWA.out (by simp only[lsa,lsc,lsn];omega)).mono ?_;rintro e w15 ⟨⟨v3,rfl⟩,hw7,hb7,hfr7⟩;have H15:=h_ hw7;have HB15:=h_ hb7;have HF15:=h_ hfr7;clear hw7 hb7 hfr7 c0 c1 c2 c3 c4 c5 c6 c7;go_wp2_with fail
    go_roundw
    case rel =>
     refine⟨j+1,by go_num,by omega,?_,(H3.out.trans (HBA.out.mono hsB3)).trans HB15.out,(H4.out.trans (fr_below HBA.out)).trans HF15.out⟩;have hkj:j<(k0 ks).length:=by rw[k0_len];exact hlt
     rw[com_take (k0 ks) j hkj,k0_get ks j hlt,if_pos HJ0.out];have:=H15.out;simp only[List.append_assoc,List.nil_append] at this ⊢;exact this
    case measure=>simp[intOf];omega
   have hgt:decide ((0:Int)<(j:Int))=true:=by rw[decide_eq_true_iff];omega
   rw[if_neg hj0] at hcp;go_wp2_with fail
   refine (wr_str w0.heap.size b _ [44,32] _ HWA.out (by simp only[lsa,lsc,lsn];omega) (by omega)).mono ?_;rintro e w14 ⟨⟨v4,rfl⟩,hw8,hb8,hfr8⟩;have hk14:=hfr8 _ _ _ _ HKA.out (by decide) (by decide);have d0:=cell_at (v:=.int .i64 Y.k) hk14 0 rfl;have d1:=cell_at (v:=.string Y.nm) hk14 1 rfl;have d2:=cell_at (v:=.string Y.ot) hk14 2 rfl;have d3:=cell_at (v:=.bool Y.b) hk14 3 rfl;have d4:=cell_at (v:=.slice Y.ao Y.n Y.c) hk14 4 rfl;have d5:=cell_at (v:=.slice Y.ko Y.kn Y.kc) hk14 5 rfl;have d6:=cell_at (v:=.int .i64 Y.ln) hk14 6 rfl;have d7:=cell_at (v:=.int .i64 Y.cl) hk14 7 rfl;have H14:=h_ hw8;have HB14:=h_ hb8;have HF14:=h_ hfr8;clear hw8 hb8 hfr8 hk14;go_wp2_with fail
   refine (E.out b _ 0 Y ks[j] S w14 HT.out (HKS.out _ (List.getElem_mem hlt)) (by omega) ((HB3.out.trans (HBA.out.mono hsB3)).trans HB14.out) H14.out (by simp only[lsa,lsc,lsn];omega)).mono ?_;rintro e w15 ⟨⟨v3,rfl⟩,hw7,hb7,hfr7⟩;have H15:=h_ hw7;have HB15:=h_ hb7;have HF15:=h_ hfr7;clear hw7 hb7 hfr7 c0 c1 c2 c3 c4 c5 c6 c7 d0 d1 d2 d3 d4 d5 d6 d7;go_wp2_with fail
   go_roundw
   case rel =>
    refine⟨j+1,by go_num,by omega,?_,((H3.out.trans (HBA.out.mono hsB3)).trans HB14.out).trans HB15.out,((H4.out.trans (fr_below HBA.out)).trans HF14.out).trans HF15.out⟩;have hkj:j<(k0 ks).length:=by rw[k0_len];exact hlt
    rw[com_take (k0 ks) j hkj,k0_get ks j hlt,if_neg hj0];have:=H15.out;simp only[List.append_assoc] at this ⊢;exact this
   case measure=>simp[intOf];omega
  have e:j=ks.length:=by omega
  subst e;have hs5:=H3.out.size;have hcp:(com ((k0 ks).take ks.length)).length<=(com (k0 ks)).length:=by rw[List.take_of_length_le (by rw[k0_len];exact Nat.le_refl _)];exact Nat.le_refl _
  go_wp2_with fail
  refine (wr_byte w0.heap.size b _ 41 _ rfl wr H1.out (by simp only[lsa,lsc,lsn];omega) (by omega)).mono ?_;rintro e w16 ⟨⟨v2,rfl⟩,hw6,hb6,hfr6⟩;have H16:=h_ hw6;have HB16:=h_ hb6;have HF16:=h_ hfr6;clear hw6 hb6 hfr6;go_wp2_with fail
  go_end0
  refine⟨⟨_,rfl⟩,?_,H3.out.trans HB16.out,H4.out.trans HF16.out⟩;have:=H16.out;rw[List.take_of_length_le (by rw[k0_len];omega)] at this;simp only[List.append_assoc] at this ⊢;exact this
theorem opl_any (v:Nat) (hv:v<=8) (w:World) (ht:Tabs w) :
  Calls Tryz.prog 148 #[.int .i64 (v:Nat)] w fun e w'=>e=.returned (.tuple #[.int .i64 (lft v:Nat),.int .i64 (rgt v:Nat)])/\w=w':=by
 have c15:w.cell? ⟨1,15,none⟩=some (.int .i64 3):=ht.lv 15 (by decide);have c23:w.cell? ⟨1,23,none⟩=some (.int .i64 4):=ht.lv 23 (by decide);clear ht;obtain rfl | rfl | rfl | rfl | rfl | rfl | rfl | rfl | rfl:v=0\/v=1\/v=2\/v=3\/v=4\/v=5\/v=6\/v=7\/v=8:=by omega
 all_goals
  go_enter Tryz.func148,Tryz.ntmps148
  go_wp2
  go_ret2
  exact⟨rfl,rfl⟩
theorem binary_any (w0:World) (d:Nat) (E:Hid (ExprAt w0 d)) (b:Nat) (l:Bs) (k:Nat) (nm ot:Bs) (z:Nat) (ks:List T) (x:X) (S:Nat->Prop) (w:World) (ht:Tabs w0) (h10:10<=k) (h24:k<24) (h:Tr w0 S (d+1) x (.node k nm ot z ks)) (ho:Og (d+1) (.node k nm ot z ks))
  (hbw:Below w0.heap.size w0 w) (hwr:Wr w0.heap.size b l w) (hlen:l.length+(tx (.node k nm ot z ks)).length<=1000000) :
  Calls Tryz.prog 127 #[.pointer (some ⟨b,0,none⟩),xv x] w (WrPost w0.heap.size b (l++tx (.node k nm ot z ks)) w):=by
 obtain⟨hk,hn,hoo,hz,ha,hl,hks⟩:=ho;obtain⟨⟨e1,e2,e3,e4⟩,⟨h2,h3⟩,⟨h4,h5,h6⟩,h7⟩:=h
 obtain⟨t0,t1,hks2⟩:∃ t0 t1,ks=[t0,t1]:=by
  have:ks.length=2:=by
   rcases ha with ha | ha
   ·omega
   rw[ha];exact (show ∀ k,k<24->10<=k->ar k=2 by decide) k h24 h10
  match ks,this with
  | [a,b],_=>exact⟨a,b,rfl⟩
 subst hks2;obtain⟨xk,xnm,xot,xb,xao,xn,xq,xko,xkn,xkc,xln,xcl⟩:=x;simp only at e1 e2 e3 e4 h2 h3 h4 h5 h6 h7;subst e1 e2 e3 e4 h4;obtain⟨y0,hA0,hT0⟩:=h7 0 (by simp);obtain⟨y1,hA1,hT1⟩:=h7 1 (by simp);have hK0:Og d t0:=hks t0 (by simp);have hK1:Og d t1:=hks t1 (by simp)
 have htx:tx (.node k nm ot z [t0,t1])=ex (lft (lv k)) t0++[32]++sg5 k++[32]++ex (rgt (lv k)) t1:=by
  have r0:rq k 0=lft (lv k):=by unfold rq;rw[if_neg (by omega),if_pos h24,if_pos rfl]
  have r1:rq k 1=rgt (lv k):=by unfold rq;rw[if_neg (by omega),if_pos h24,if_neg (by decide)]
  rw[tx];unfold shp;rw[if_neg (by omega),if_neg (by omega),if_neg (by omega),if_neg (by omega),if_pos h24];simp only[exs,r0,Nat.zero_add,r1]
  rfl
 rw[htx] at hlen;simp only[lsa,lsc,lsn] at hlen;have hsg:=sg5_len k hk;have hlv:lv k<=8:=(show ∀ k,k<24->lv k<=8 by decide) k h24;have hlr:=(show ∀ k,k<24->lft (lv k)<=8/\(10<=k->rgt (lv k)<=8) by decide) k h24;have hl1:=hlr.2 h10;have hl2:=hlr.1;have HTX:=h_ htx;have HT:=h_ ht;have HA0:=h_ hA0;have HA1:=h_ hA1;have HT0:=h_ hT0;have HT1:=h_ hT1;have HBW:=h_ hbw;have HWR:=h_ hwr;have hsB:=hbw.size;have hlv0:=ht.lv k (by omega);have hsg0:=ht.sg k h24;clear h2 h3 h6 h7 hks htx ha hA1 hT0 hT1 hlr;simp only[xv,lsc,lsn];obtain⟨k3,hk3⟩:∃ k3,k3=w.heap.size:=⟨_,rfl⟩
 obtain⟨w9,hw9⟩:∃ w9,w9=w.alloc (.cells #[.int .i64 (k:Nat),.string ⟨nm.toArray⟩,.string ⟨ot.toArray⟩,.bool false,.slice xao xn xq,.slice xko 2 xkc,.int .i64 xln,.int .i64 xcl] 46):=⟨_,rfl⟩
 have hba:Below w.heap.size w w9:=by rw[hw9];exact (Below.refl _ _).alloc (Nat.le_refl _) _
 have hx9:w9.heap[k3]?=some (.cells #[.int .i64 (k:Nat),.string ⟨nm.toArray⟩,.string ⟨ot.toArray⟩,.bool false,.slice xao xn xq,.slice xko 2 xkc,.int .i64 xln,.int .i64 xcl] 46 (0,0)):=by rw[hw9,hk3];exact made_at w _ _ rfl
 have HB_x:=h_ hx9;have HW9:=h_ (HWR.out.below hba);have hb09:Below w0.heap.size w0 w9:=hbw.trans (hba.mono hsB);have HB09:=h_ (hba.mono hsB);have HBA:=h_ hba;have hs9:=hba.size;have hlv9:w9.cell? ⟨1,k,none⟩=some (.int .i64 (lv k:Nat)):=by rw[hb09.cell (cell_lt hlv0)];exact hlv0
 obtain⟨a,rfl,hc0⟩:=hA0.keep fun a ha=>hb09.block _ (hA0.lt a ha)
 have e0:a.add (0*8)=a:=by simp[Addr.add]
 rw[e0] at hc0;obtain⟨c0,c1,c2,c3,c4,c5,c6,c7⟩:=cells8 hc0;have x0:=cell_at (v:=.int .i64 (k:Nat)) hx9 0 rfl;have x5:=cell_at (v:=.slice (some a) 2 xkc) hx9 5 rfl;have HLV0:=h_ hlv0;have HSG0:=h_ hsg0;generalize hlf:lft (lv k)=lf at *;generalize hrg:rgt (lv k)=rg at *;have HLF:=h_ hlf;have HRG:=h_ hrg;clear hba hx9 hb09 e0 hc0 hA0 ht hbw hwr hlv0 hsg0 hlf hrg;have HW9E:=h_ hw9;have HK3E:=h_ hk3;go_enter Tryz.func127,Tryz.ntmps127
 go_upto_region 1 with fail
 rw[<-hw9,<-hk3];clear hw9 hk3;go_wp2_with fail
 refine (opl_any (lv k) hlv w9 (HT.out.below (HBW.out.trans HB09.out))).mono ?_;rintro e wz ⟨rfl,rfl⟩;rw[HLF.out,HRG.out];go_wp2_with fail
 refine (E.out b l lf y0 t0 S w9 HT0.out hK0 hl2 (HBW.out.trans HB09.out) HW9.out (by omega)).mono ?_;rintro e w10 ⟨⟨v,rfl⟩,hw5,hb5,hfr5⟩;have hs10:=hb5.size;have HX10:=h_ (hfr5 k3 _ _ _ HB_x.out (by decide) (by decide));have H10:=h_ hw5;have HB10:=h_ (HB09.out.trans hb5);have HF10:=h_ ((fr_below HBA.out).trans hfr5);clear hw5 hb5 hfr5 c0 c1 c2 c3 c4 c5 c6 c7 x0 x5 hlv9;go_wp2_with fail
 refine (wr_byte w0.heap.size b _ 32 _ rfl w10 H10.out (by rw[lsa];omega) (by omega)).mono ?_;rintro e w11 ⟨⟨v2,rfl⟩,hw6,hb6,hfr6⟩;have hs11:=hb6.size;have HB_x:=h_ (hfr6 k3 _ _ _ HX10.out (by decide) (by decide));have H11:=h_ hw6;have HB11:=h_ (HB10.out.trans hb6);have HF11:=h_ (HF10.out.trans hfr6);clear hw6 hb6 hfr6;go_wp2_with fail
 have hlt_x:=lt_of_block HB_x.out;refine Rely.region (by kernel_rfl) [[],[0],[0,1],[],[3],[3,4],[3,4,5],[0,1,2,3,4,5,6]] [] [] (fun _=>0) 0 7 (by kernel_rfl) (by kernel_rfl) (fun q h=>absurd h (Nat.not_lt_zero q)) (fun q _ h=>absurd h (Nat.not_lt_zero q)) ?_;refine Rely.Chain.det ?_ (by rfl) (fun T xs wr hA=>?_) ?_
 rotate_left 1
 ·have e0:=hA.pre 0 (by kernel_rfl);simp only[gsa,gsz] at e0;clear hA;refine⟨(by rfl),?_⟩;go_simp<;>(try with_reducible rfl)
 refine Rely.Chain.det ?_ (by rfl) (fun T xs wr hA=>?_) ?_
 rotate_left 1
 ·have e25:=(hA.tm 0 25 (by rfl) (by rfl)).trans (congrArg some (hA.fa 0 (by rfl)))
  (try simp (disch:=first | rfl | decide) only [Rely.mask_in] at e25)
  clear hA;refine⟨(by rfl),?_⟩;go_simp<;>(try with_reducible rfl)
 refine Rely.Chain.det ?_ (by rfl) (fun T xs wr hA=>?_) ?_
 rotate_left 1
 ·have e26:=(hA.tm 1 26 (by rfl) (by rfl)).trans (congrArg some (hA.fa 1 (by rfl)))
  (try simp (disch:=first | rfl | decide) only [Rely.mask_in] at e26)
  clear hA;refine⟨(by rfl),?_⟩;go_simp<;>(try with_reducible rfl)
 refine Rely.Chain.det ?_ (by rfl) (fun T xs wr hA=>?_) ?_
 rotate_left 1
 ·have e3:=hA.pre 3 (by kernel_rfl);simp only[gsa,gsc,gsz] at e3;clear hA;refine⟨(by rfl),?_⟩;go_simp<;>(try with_reducible rfl)
 refine Rely.Chain.det ?_ (by rfl) (fun T xs wr hA=>?_) ?_
 rotate_left 1
 ·have e28:=(hA.tm 3 28 (by rfl) (by rfl)).trans (congrArg some (hA.fa 3 (by rfl)))
  (try simp (disch:=first | rfl | decide) only [Rely.mask_in] at e28)
  have hBq:wr.heap[k3]?=_:=(hA.bl _ hlt_x (fun q h=>absurd h (Nat.not_lt_zero q))).trans HB_x.out;obtain⟨q0,q1,q2,q3,q4,q5,q6,q7⟩:=cl8 hBq;clear hBq;clear hA;refine⟨(by rfl),?_⟩;go_simp<;>(try with_reducible rfl)
 refine Rely.Chain.det ?_ (by rfl) (fun T xs wr hA=>?_) ?_
 rotate_left 1
 ·have e29:=(hA.tm 4 29 (by rfl) (by rfl)).trans (congrArg some (hA.fa 4 (by rfl)))
  (try simp (disch:=first | rfl | decide) only [Rely.mask_in] at e29)
  have hki:((k:Nat):Int)<24:=by omega
  clear hA;refine⟨(by rfl),?_⟩;go_simp<;>(try with_reducible rfl)
 refine Rely.Chain.det ?_ (by rfl) (fun T xs wr hA=>?_) ?_
 rotate_left 1
 ·have e30:=(hA.tm 5 30 (by rfl) (by rfl)).trans (congrArg some (hA.fa 5 (by rfl)))
  (try simp (disch:=first | rfl | decide) only [Rely.mask_in] at e30)
  have hbw:=undrew (hA.be _ (Nat.le_refl _) (fun q h=>absurd h (Nat.not_lt_zero q)));have sgc:wr.cell? ⟨3,k,none⟩=some (.string ⟨(sg5 k).toArray⟩):=by rw[hbw.cell (Nat.lt_of_lt_of_le (cell_lt HSG0.out) (HBW.out.trans HB11.out).size),(HBW.out.trans HB11.out).cell (cell_lt HSG0.out)];exact HSG0.out
  clear hbw;clear hA;refine⟨(by rfl),?_⟩;go_simp<;>(try with_reducible rfl)
 refine Rely.Chain.done (fun xs w12 hL=>?_);obtain⟨⟨hbe,hbl,hkp0⟩,hf,hp,hn⟩:=hL;have f0:xs 0=_:=hf 0 (by decide);have f1:xs 1=_:=hf 1 (by decide);have f2:xs 2=_:=hf 2 (by decide);have f3:xs 3=_:=hf 3 (by decide);have f4:xs 4=_:=hf 4 (by decide);have f5:xs 5=_:=hf 5 (by decide);have f6:xs 6=_:=hf 6 (by decide)
 (try simp (disch:=first | rfl | decide) only [Rely.mask_in] at f0 f1 f2 f3 f4 f5 f6)
 have hbx:Below w11.heap.size w11 w12:=undrew (hbe _ (Nat.le_refl _) (fun q h=>absurd h (Nat.not_lt_zero q)));clear hbe hbl hkp0 hf hp hn;replace HB_x:=h_ ((hbx.block _ hlt_x).trans HB_x.out);clear hlt_x;refine Rely.rest_list (by decide) (by kernel_rfl) ?_;simp only[Rely.fill,List.take_succ_cons,List.take_zero,List.drop_succ_cons,List.drop_zero,List.setIfInBounds_toArray,List.set_cons_zero,List.set_cons_succ,f0,f1,f2,f3,f4,f5,f6];have HBX:=h_ hbx;have hs12:=hbx.size;have H12:=h_ (H11.out.below hbx);have HB12:=h_ (HB11.out.trans (hbx.mono (by omega)));have HF12:=h_ (HF11.out.trans (fr_below hbx));clear hbx f0 f1 f2 f3 f4 f5 f6;go_wp2_with fail
 refine (wr_str w0.heap.size b _ (sg5 k) w12 H12.out (by simp only[lsa,lsc,lsn];omega) (by omega)).mono ?_;rintro e w13 ⟨⟨v3,rfl⟩,hw7,hb7,hfr7⟩;have hs13:=hb7.size;have HX13:=h_ (hfr7 k3 _ _ _ HB_x.out (by decide) (by decide));have H13:=h_ hw7;have HB13:=h_ (HB12.out.trans hb7);have HF13:=h_ (HF12.out.trans hfr7);clear hw7 hb7 hfr7;go_wp2_with fail
 refine (wr_byte w0.heap.size b _ 32 _ rfl w13 H13.out (by simp only[lsa,lsc,lsn];omega) (by omega)).mono ?_;rintro e w14 ⟨⟨v4,rfl⟩,hw8,hb8,hfr8⟩;have hs14:=hb8.size;have hx14:=hfr8 k3 _ _ _ HX13.out (by decide) (by decide);have H14:=h_ hw8;have HB14:=h_ (HB13.out.trans hb8);have HF14:=h_ (HF13.out.trans hfr8);clear hw8 hb8 hfr8;have x5:=cell_at (v:=.slice (some a) 2 xkc) hx14 5 rfl;obtain⟨a',ea,hc1⟩:=HA1.out.keep fun a ha=>(HBW.out.trans HB14.out).block _ (HA1.out.lt a ha)
 injection ea with ea;subst ea;have e1:a.add (1*8)=⟨a.block,a.off+8,none⟩:=by simp[Addr.add]
 rw[e1] at hc1;obtain⟨c0,c1,c2,c3,c4,c5,c6,c7⟩:=cells8 hc1;simp only[Nat.add_assoc,Nat.reduceAdd] at c1 c2 c3 c4 c5 c6 c7;clear hc1 e1 hx14;go_wp2_with fail
 refine (E.out b _ rg y1 t1 S w14 HT1.out hK1 hl1 (HBW.out.trans HB14.out) H14.out (by simp only[lsa,lsc,lsn];omega)).mono ?_;rintro e w15 ⟨⟨v5,rfl⟩,hw9',hb9',hfr9'⟩;have H15:=h_ hw9';have HB15:=h_ (HB14.out.trans hb9');have HF15:=h_ (HF14.out.trans hfr9');clear hw9' hb9' hfr9';go_wp2_with fail
 go_end0
 refine⟨⟨_,rfl⟩,?_,HB15.out,HF15.out⟩;have:=H15.out;rw[HTX.out];simp only[List.append_assoc] at this ⊢;exact this
end Go.Proofs.YtkocdbgmckdcpaaGreatDoor
