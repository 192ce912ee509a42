/-
 Joined texts: LgL,LgN,LgP,LgQ,LgR,LgS,LgT,LgV,LgW,LgBb.
-/
import Derived.Lib.QuoteLoop
import Derived.Lib.PrintData
import Derived.Test.YtdkfnbbebpbhaaaGreatDoorJLogicTexts2
import Derived.Test.YtdkfnbbebpbhaaaGreatDoorJLogicTexts3
import Derived.Test.YtdkfnbbebpbhaaaGreatDoorJLogicTexts4
set_option maxHeartbeats 32000000
namespace Go.Proofs.YtdkfnbbebpbhaaaGreatDoor
open Go.RowKit
set_option maxRecDepth 100000
set_option linter.unusedVariables false
set_option linter.unusedSimpArgs false
attribute [local go_sem] fieldV0 fieldV1 fieldV2 fieldV3

theorem truth1_p (d:Nat) (IT:TruC d) (eo:Option Addr) (en ec:Nat) (env:List (ByteArray × V)) (ke:Nat) (v:Value) (t:F) (S:Nat->Prop) (w:World) (hB:w.heap[ke]?=some (.cells #[.slice eo en ec] 114 (0,0))) (h:FC w S d v t) (he:EL w (.slice eo en ec) env) (hr:rt t=true) (hs:srt t.op=1) (hsm:Sm (rho env) t) :
  Calls Tryz.prog 138 #[v,.pointer (some ⟨ke,0,none⟩)] w fun e w'=>e=.returned (.bool (!asB (ev (rho env) t)))/\Below w.heap.size w w':=by
 have HT:=Lib.hid h;obtain⟨b,ao,l,c,ko,kl,kc,rfl,-,-,-⟩:=h.open;obtain⟨o,hoo⟩:∃ o,o=t.op:=⟨_,rfl⟩
 obtain⟨nm,hnm⟩:∃ o,o=t.name:=⟨_,rfl⟩
 rw[<-hoo] at HT ⊢;rw[<-hnm] at HT ⊢;have HBe:=Lib.hid hB;have HE:=Lib.hid he;have HR:=Lib.hid hr;have HS:=Lib.hid hs;have HSM:=Lib.hid hsm;clear h hB he hr hs hsm hoo hnm;have HW:=Lib.hid (Below.refl w.heap.size w);go_enter Tryz.func138,Tryz.ntmps138
 obtain⟨x1,kf,ef,ekf,hbf,hkf,HBf⟩:=newV w #[.int .i64 o,.bool b,.slice ao l c,.string nm,.slice ko kl kc] 29;replace HBe:=kBV hbf.out HBe;replace HT:=Lib.hid (HT.out.below hbf.out);replace HE:=Lib.hid (HE.out.below hbf.out);replace HW:=Lib.hid (HW.out.trans (hbf.out.mono HW.out.size));have c0:=cell_at (v:=.int .i64 o) HBf.out 0 rfl;have fc0:=froz_at HBf.out 0;have c1:=cell_at (v:=.bool b) HBf.out 1 rfl;have fc1:=froz_at HBf.out 1;have c2:=cell_at (v:=.slice ao l c) HBf.out 2 rfl;have fc2:=froz_at HBf.out 2;have c3:=cell_at (v:=.string nm) HBf.out 3 rfl;have fc3:=froz_at HBf.out 3;have c4:=cell_at (v:=.slice ko kl kc) HBf.out 4 rfl;have fc4:=froz_at HBf.out 4;have e0:=cell_at (v:=.slice eo en ec) HBe.out 0 rfl;have fe0:=froz_at HBe.out 0;go_wp2_with fail
 refine (IT _ _ env t S x1 HT.out HE.out HR.out HS.out HSM.out).mono ?_;rintro e x2 ⟨rfl,hb⟩;clear c0 fc0 c1 fc1 c2 fc2 c3 fc3 c4 fc4 e0 fe0;replace HBe:=kBV hb HBe;replace HBf:=kBV hb HBf;replace HT:=Lib.hid (HT.out.below hb);replace HE:=Lib.hid (HE.out.below hb);replace HW:=Lib.hid (HW.out.trans (hb.mono HW.out.size));go_wp2_with fail
 go_ret
 exact⟨rfl,HW.out⟩
theorem tru_step (d:Nat) (IN:NumC d) (IT:TruC d) (IV:ValC d):TruC (d+1):=by
 intro ve v env t S w h he hr hs hsm;obtain⟨b,ao,l,c,ko,kl,kc,rfl,⟨-,hz,hkl,hkc,hkm⟩,-,hk⟩:=h.open;obtain⟨o,z,nm,ks⟩:=t;simp only[F.op,F.num,F.name,F.kids] at hz hk hkl hs ⊢;rw[show d+1 - 1=d from rfl] at hk;obtain⟨hfit,hrs⟩:=rt_node hr
 have ho:o=12\/o=13\/o=14\/o=15\/o=16\/o=17\/o=18\/o=19\/o=20:=by
  have:=fit_range hfit;unfold srt at hs
  split at hs
  ·omega
  split at hs
  ·omega
  omega
 obtain⟨eo,en,ec,rfl⟩:=he.shape;have hkm':kc<=9223372036854775807:=hkm;clear h hr hs hkm hkc hz;rcases ho with rfl | rfl | rfl | rfl | rfl | rfl | rfl | rfl | rfl
 ·have HX:=Lib.hid hk;have HE:=Lib.hid he;have HKL0:=Lib.hid hkl;have HW:=Lib.hid (Below.refl w.heap.size w);clear hk he hsm hrs hfit hkl HKL0;go_enter Tryz.func114,Tryz.ntmps114
  obtain⟨x1,ke,ee,eke,hbe,hke,HBe⟩:=newV w #[.slice eo en ec] 114;replace HX:=Lib.hid (HX.out.below hbe.out);replace HE:=Lib.hid (HE.out.below hbe.out);replace HW:=Lib.hid (HW.out.trans (hbe.out.mono HW.out.size));obtain⟨x2,kf,ef,ekf,hbf,hkf,HBf⟩:=newV x1 #[.int .i64 12,.bool b,.slice ao l c,.string nm,.slice ko kl kc] 29;replace HBe:=kBV hbf.out HBe;replace HX:=Lib.hid (HX.out.below hbf.out);replace HE:=Lib.hid (HE.out.below hbf.out);replace HW:=Lib.hid (HW.out.trans (hbf.out.mono HW.out.size));have e0:=cell_at (v:=.slice eo en ec) HBe.out 0 rfl;have fe0:=froz_at HBe.out 0;have c0:=cell_at (v:=.int .i64 12) HBf.out 0 rfl;have fc0:=froz_at HBf.out 0;have c1:=cell_at (v:=.bool b) HBf.out 1 rfl;have fc1:=froz_at HBf.out 1;have c2:=cell_at (v:=.slice ao l c) HBf.out 2 rfl;have fc2:=froz_at HBf.out 2
  have c3:=cell_at (v:=.string nm) HBf.out 3 rfl;have fc3:=froz_at HBf.out 3;have c4:=cell_at (v:=.slice ko kl kc) HBf.out 4 rfl;have fc4:=froz_at HBf.out 4;go_wp2_with fail
  go_ret
  exact⟨rfl,HW.out⟩
 ·have HX:=Lib.hid hk;have HE:=Lib.hid he;have HKL0:=Lib.hid hkl;have HW:=Lib.hid (Below.refl w.heap.size w);clear hk he hsm hrs hfit hkl HKL0;go_enter Tryz.func114,Tryz.ntmps114
  obtain⟨x1,ke,ee,eke,hbe,hke,HBe⟩:=newV w #[.slice eo en ec] 114;replace HX:=Lib.hid (HX.out.below hbe.out);replace HE:=Lib.hid (HE.out.below hbe.out);replace HW:=Lib.hid (HW.out.trans (hbe.out.mono HW.out.size));obtain⟨x2,kf,ef,ekf,hbf,hkf,HBf⟩:=newV x1 #[.int .i64 13,.bool b,.slice ao l c,.string nm,.slice ko kl kc] 29;replace HBe:=kBV hbf.out HBe;replace HX:=Lib.hid (HX.out.below hbf.out);replace HE:=Lib.hid (HE.out.below hbf.out);replace HW:=Lib.hid (HW.out.trans (hbf.out.mono HW.out.size));have e0:=cell_at (v:=.slice eo en ec) HBe.out 0 rfl;have fe0:=froz_at HBe.out 0;have c0:=cell_at (v:=.int .i64 13) HBf.out 0 rfl;have fc0:=froz_at HBf.out 0;have c1:=cell_at (v:=.bool b) HBf.out 1 rfl;have fc1:=froz_at HBf.out 1;have c2:=cell_at (v:=.slice ao l c) HBf.out 2 rfl;have fc2:=froz_at HBf.out 2
  have c3:=cell_at (v:=.string nm) HBf.out 3 rfl;have fc3:=froz_at HBf.out 3;have c4:=cell_at (v:=.slice ko kl kc) HBf.out 4 rfl;have fc4:=froz_at HBf.out 4;go_wp2_with fail
  go_ret
  exact⟨rfl,HW.out⟩
 ·have HX:=Lib.hid hk;have HE:=Lib.hid he;have HKL0:=Lib.hid hkl;have HW:=Lib.hid (Below.refl w.heap.size w);clear hk he hsm hrs hfit hkl HKL0;go_enter Tryz.func114,Tryz.ntmps114
  obtain⟨x1,ke,ee,eke,hbe,hke,HBe⟩:=newV w #[.slice eo en ec] 114;replace HX:=Lib.hid (HX.out.below hbe.out);replace HE:=Lib.hid (HE.out.below hbe.out);replace HW:=Lib.hid (HW.out.trans (hbe.out.mono HW.out.size));obtain⟨x2,kf,ef,ekf,hbf,hkf,HBf⟩:=newV x1 #[.int .i64 14,.bool b,.slice ao l c,.string nm,.slice ko kl kc] 29;replace HBe:=kBV hbf.out HBe;replace HX:=Lib.hid (HX.out.below hbf.out);replace HE:=Lib.hid (HE.out.below hbf.out);replace HW:=Lib.hid (HW.out.trans (hbf.out.mono HW.out.size));have e0:=cell_at (v:=.slice eo en ec) HBe.out 0 rfl;have fe0:=froz_at HBe.out 0;have c0:=cell_at (v:=.int .i64 14) HBf.out 0 rfl;have fc0:=froz_at HBf.out 0;have c1:=cell_at (v:=.bool b) HBf.out 1 rfl;have fc1:=froz_at HBf.out 1;have c2:=cell_at (v:=.slice ao l c) HBf.out 2 rfl;have fc2:=froz_at HBf.out 2
  have c3:=cell_at (v:=.string nm) HBf.out 3 rfl;have fc3:=froz_at HBf.out 3;have c4:=cell_at (v:=.slice ko kl kc) HBf.out 4 rfl;have fc4:=froz_at HBf.out 4;go_wp2_with fail
  refine (lookup_p _ env nm 1 x2 HE.out).mono ?_;rintro e x3 ⟨v,rfl,hv,hb⟩;clear e0 fe0 c0 fc0 c1 fc1 c2 fc2 c3 fc3 c4 fc4;replace HBe:=kBV hb HBe;replace HBf:=kBV hb HBf;replace HX:=Lib.hid (HX.out.below hb);replace HE:=Lib.hid (HE.out.below hb);replace HW:=Lib.hid (HW.out.trans (hb.mono HW.out.size));obtain⟨k1,b1,o1,l1,c1,p1,m1,q1,rfl⟩:=hv.lk1;clear hv;go_wp2_with fail
  go_ret
  exact⟨rfl,HW.out⟩
 ·have HX:=Lib.hid hk;have HE:=Lib.hid he;have HKL0:=Lib.hid hkl;have HW:=Lib.hid (Below.refl w.heap.size w);obtain⟨p,q,rfl,hp,hq⟩:=srts_two (ks:=ks) (s:=0) (r:=0) (by simpa [fitF,kidsOk] using hfit);have HSP:=Lib.hid (hsm.kid p (by simp));have HRP:=Lib.hid (hrs p (by simp));have HP:=Lib.hid hp;have HSQ:=Lib.hid (hsm.kid q (by simp));have HRQ:=Lib.hid (hrs q (by simp));have HQ:=Lib.hid hq;have HEV:Hid (asB (ev (rho env) (.node 15 z nm [p,q]))=asB (opV (rho env) 15 z nm [ev (rho env) p,ev (rho env) q])):=Lib.hid (by rw[ev,evs,evs,evs]);have hkl1:kl=2:=HKL0.out;subst hkl1;clear hk he hsm hrs hfit hkl HKL0 hp hq;go_enter Tryz.func114,Tryz.ntmps114
  obtain⟨x1,ke,ee,eke,hbe,hke,HBe⟩:=newV w #[.slice eo en ec] 114;replace HX:=Lib.hid (HX.out.below hbe.out);replace HE:=Lib.hid (HE.out.below hbe.out);replace HW:=Lib.hid (HW.out.trans (hbe.out.mono HW.out.size));obtain⟨x2,kf,ef,ekf,hbf,hkf,HBf⟩:=newV x1 #[.int .i64 15,.bool b,.slice ao l c,.string nm,.slice ko 2 kc] 29;replace HBe:=kBV hbf.out HBe;replace HX:=Lib.hid (HX.out.below hbf.out);replace HE:=Lib.hid (HE.out.below hbf.out);replace HW:=Lib.hid (HW.out.trans (hbf.out.mono HW.out.size));have e0:=cell_at (v:=.slice eo en ec) HBe.out 0 rfl;have fe0:=froz_at HBe.out 0;have c0:=cell_at (v:=.int .i64 15) HBf.out 0 rfl;have fc0:=froz_at HBf.out 0;have c1:=cell_at (v:=.bool b) HBf.out 1 rfl;have fc1:=froz_at HBf.out 1;have c2:=cell_at (v:=.slice ao l c) HBf.out 2 rfl;have fc2:=froz_at HBf.out 2
  have c3:=cell_at (v:=.string nm) HBf.out 3 rfl;have fc3:=froz_at HBf.out 3;have c4:=cell_at (v:=.slice ko 2 kc) HBf.out 4 rfl;have fc4:=froz_at HBf.out 4;obtain⟨a,bp,op,lp,cp,kop,klp,kcp,hkop,⟨p0,p1,p2,p3,p4⟩,hfp⟩:=HX.out.first;subst hkop;obtain⟨opp,hopp⟩:∃ x,x=p.op:=⟨_,rfl⟩
  obtain⟨nmp,hnmp⟩:∃ x,x=p.name:=⟨_,rfl⟩
  rw[<-hopp] at p0 hfp;rw[<-hnmp] at p3 hfp;have HFP:=Lib.hid hfp;have HPC:Hid (At5 x2 a opp bp op lp cp nmp kop klp kcp):=Lib.hid ⟨p0,p1,p2,p3,p4⟩;clear hopp hnmp hfp p0 p1 p2 p3 p4;obtain⟨a2,bq,oq,lq,cq,koq,klq,kcq,hkoq,⟨q0,q1,q2,q3,q4⟩,hfq⟩:=HX.out.second;injection hkoq with ha2;subst ha2;obtain⟨opq,hopq⟩:∃ x,x=q.op:=⟨_,rfl⟩
  obtain⟨nmq,hnmq⟩:∃ x,x=q.name:=⟨_,rfl⟩
  rw[<-hopq] at q0 hfq;rw[<-hnmq] at q3 hfq;have HFQ:=Lib.hid hfq;have HQC:Hid (At5 x2 ⟨a.block,a.off+5,none⟩ opq bq oq lq cq nmq koq klq kcq):=Lib.hid ⟨q0,q1,q2,q3,q4⟩;clear hopq hnmq hfq q0 q1 q2 q3 q4;go_upto_region 7 with fail
  clear e0 fe0 c0 fc0 c1 fc1 c2 fc2 c3 fc3 c4 fc4;have hlt_e:=lt_of_block HBe.out;have hlt_f:=lt_of_block HBf.out;have hog:Hid (∀ q,q<0->(fun q=>0) q<x2.heap.size):=Lib.hid (fun q h=>absurd h (Nat.not_lt_zero _));refine R7.region (by kernel_rfl) [[],[],[1],[1,2],[1,2,3],[0,1,2,3,4],[],[],[7],[7,8],[7,8,9],[0,1,2,3,4,5,6,7,8,9,10],[0,1,2,3,4,5,6,7,8,9,10,11],[0,1,2,3,4,5,6,7,8,9,10,11,12],[0,1,2,3,4,5,6,7,8,9,10,11,12,13]] [] [] (fun q=>0) 0 15 (by kernel_rfl) (by kernel_rfl) (by rfl) hog.out (fun q q' h h' hn=>absurd hn (by omega)) ?_;refine R7.Chain.det ?_ (by rfl) (fun T xs wr hA=>?_) ?_
  rotate_left 1
  ·have e2:=hA.pre 2 (by kernel_rfl);simp only[gsa,gsc,gsz] at e2;have hBq:wr.heap[ke]?=_:=(hA.bl _ hlt_e (fun q h=>absurd h (Nat.not_lt_zero _))).trans HBe.out;have q0:=cell_at (v:=.slice eo en ec) hBq 0 rfl;clear hBq;clear hA;refine⟨(by rfl),?_⟩;go_simp<;>(try with_reducible rfl)
  refine R7.Chain.det ?_ (by rfl) (fun T xs wr hA=>?_) ?_
  rotate_left 1
  ·have e3:=hA.pre 3 (by kernel_rfl);simp only[gsa,gsc,gsz] at e3;clear hA;refine⟨(by rfl),?_⟩;go_simp<;>(try with_reducible rfl)
  refine R7.Chain.det ?_ (by rfl) (fun T xs wr hA=>?_) ?_
  rotate_left 1
  ·have e19:=hA.tm 1 19 (by rfl) (by rfl);have f19:xs 1=_:=hA.fa 1 (by rfl)
   (try simp (disch:=first | rfl | decide) only [R7.mask_in] at f19)
   rw[f19] at e19;clear f19;have hBq:wr.heap[kf]?=_:=(hA.bl _ hlt_f (fun q h=>absurd h (Nat.not_lt_zero _))).trans HBf.out;have q0:=cell_at (v:=.int .i64 15) hBq 0 rfl;have q1:=cell_at (v:=.bool b) hBq 1 rfl;have q2:=cell_at (v:=.slice ao l c) hBq 2 rfl;have q3:=cell_at (v:=.string nm) hBq 3 rfl;have q4:=cell_at (v:=.slice (some a) 2 kc) hBq 4 rfl;clear hBq;clear hA;refine⟨(by rfl),?_⟩;go_simp<;>(try with_reducible rfl)
  refine R7.Chain.det ?_ (by rfl) (fun T xs wr hA=>?_) ?_
  rotate_left 1
  ·have e20:=hA.tm 2 20 (by rfl) (by rfl);have f20:xs 2=_:=hA.fa 2 (by rfl)
   (try simp (disch:=first | rfl | decide) only [R7.mask_in] at f20)
   rw[f20] at e20;clear f20;clear hA;refine⟨(by rfl),?_⟩;go_simp<;>(try with_reducible rfl)
  refine R7.Chain.det ?_ (by rfl) (fun T xs wr hA=>?_) ?_
  rotate_left 1
  ·have e21:=hA.tm 3 21 (by rfl) (by rfl);have f21:xs 3=_:=hA.fa 3 (by rfl)
   (try simp (disch:=first | rfl | decide) only [R7.mask_in] at f21)
   rw[f21] at e21;clear f21;have hbw:=undrew (hA.be x2.heap.size (Nat.le_refl _) (fun q h=>absurd h (Nat.not_lt_zero q)));obtain⟨q0,q1,q2,q3,q4⟩:=HPC.out.below hbw
   try simp only at q0 q1 q2 q3 q4
   clear hA;refine⟨(by rfl),?_⟩;go_simp<;>(try with_reducible rfl)
  refine R7.Chain.call (fun xs v w=>∃ y,v=y/\CI w y (asI (ev (rho env) p)) 600) (fun _ _ _ _ h hb=>by obtain⟨y,h1,h2⟩:=h;exact⟨y,h1,h2.below hb⟩) (fun _ _ _ _ _ _ h _=>by obtain⟨q,hq,_⟩:=h;exact absurd hq (Nat.not_lt_zero _)) (by rfl) (fun T xs wr hA=>?_) ?_
  ·have hsw:=(hA.be 0 (Nat.zero_le _) (fun _ _=>Nat.zero_le _)).size;have e18:=hA.tm 0 18 (by rfl) (by rfl);have f18:xs 0=_:=hA.fa 0 (by rfl)
   (try simp (disch:=first | rfl | decide) only [R7.mask_in] at f18)
   rw[f18] at e18;clear f18;have e22:=hA.tm 4 22 (by rfl) (by rfl);have f22:xs 4=_:=hA.fa 4 (by rfl)
   (try simp (disch:=first | rfl | decide) only [R7.mask_in] at f22)
   rw[f22] at e22;clear f22;have hbw:=undrew (hA.be x2.heap.size (Nat.le_refl _) (fun q h=>absurd h (Nat.not_lt_zero q)));have hfq:=HFP.out.below hbw;clear hA;refine⟨(by rfl),fun K hK=>?_⟩;go_simp
   refine (IN _ _ env p S _ hfq (HE.out.below hbw) HRP.out HP.out HSP.out).mono ?_;rintro e w' ⟨y,rfl,hy,hb'⟩;exact hK.out _ _ ⟨y,rfl,hy⟩ hb'
  refine R7.Chain.det ?_ (by rfl) (fun T xs wr hA=>?_) ?_
  rotate_left 1
  ·have e2:=hA.pre 2 (by kernel_rfl);simp only[gsa,gsc,gsz] at e2;have hBq:wr.heap[ke]?=_:=(hA.bl _ hlt_e (fun q h=>absurd h (Nat.not_lt_zero _))).trans HBe.out;have q0:=cell_at (v:=.slice eo en ec) hBq 0 rfl;clear hBq;clear hA;refine⟨(by rfl),?_⟩;go_simp<;>(try with_reducible rfl)
  refine R7.Chain.det ?_ (by rfl) (fun T xs wr hA=>?_) ?_
  rotate_left 1
  ·have e3:=hA.pre 3 (by kernel_rfl);simp only[gsa,gsc,gsz] at e3;clear hA;refine⟨(by rfl),?_⟩;go_simp<;>(try with_reducible rfl)
  refine R7.Chain.det ?_ (by rfl) (fun T xs wr hA=>?_) ?_
  rotate_left 1
  ·have e25:=hA.tm 7 25 (by rfl) (by rfl);have f25:xs 7=_:=hA.fa 7 (by rfl)
   (try simp (disch:=first | rfl | decide) only [R7.mask_in] at f25)
   rw[f25] at e25;clear f25;have hBq:wr.heap[kf]?=_:=(hA.bl _ hlt_f (fun q h=>absurd h (Nat.not_lt_zero _))).trans HBf.out;have q0:=cell_at (v:=.int .i64 15) hBq 0 rfl;have q1:=cell_at (v:=.bool b) hBq 1 rfl;have q2:=cell_at (v:=.slice ao l c) hBq 2 rfl;have q3:=cell_at (v:=.string nm) hBq 3 rfl;have q4:=cell_at (v:=.slice (some a) 2 kc) hBq 4 rfl;clear hBq;clear hA;refine⟨(by rfl),?_⟩;go_simp<;>(try with_reducible rfl)
  refine R7.Chain.det ?_ (by rfl) (fun T xs wr hA=>?_) ?_
  rotate_left 1
  ·have e26:=hA.tm 8 26 (by rfl) (by rfl);have f26:xs 8=_:=hA.fa 8 (by rfl)
   (try simp (disch:=first | rfl | decide) only [R7.mask_in] at f26)
   rw[f26] at e26;clear f26;clear hA;refine⟨(by rfl),?_⟩;go_simp<;>(try with_reducible rfl)
  refine R7.Chain.det ?_ (by rfl) (fun T xs wr hA=>?_) ?_
  rotate_left 1
  ·have e27:=hA.tm 9 27 (by rfl) (by rfl);have f27:xs 9=_:=hA.fa 9 (by rfl)
   (try simp (disch:=first | rfl | decide) only [R7.mask_in] at f27)
   rw[f27] at e27;clear f27;have hbw:=undrew (hA.be x2.heap.size (Nat.le_refl _) (fun q h=>absurd h (Nat.not_lt_zero q)));obtain⟨q0,q1,q2,q3,q4⟩:=HQC.out.below hbw
   try simp only at q0 q1 q2 q3 q4
   clear hA;refine⟨(by rfl),?_⟩;go_simp<;>(try with_reducible rfl)
  refine R7.Chain.call (fun xs v w=>∃ y,v=y/\CI w y (asI (ev (rho env) q)) 600) (fun _ _ _ _ h hb=>by obtain⟨y,h1,h2⟩:=h;exact⟨y,h1,h2.below hb⟩) (fun _ _ _ _ _ _ h _=>by obtain⟨q,hq,_⟩:=h;exact absurd hq (Nat.not_lt_zero _)) (by rfl) (fun T xs wr hA=>?_) ?_
  ·have hsw:=(hA.be 0 (Nat.zero_le _) (fun _ _=>Nat.zero_le _)).size;have e24:=hA.tm 6 24 (by rfl) (by rfl);have f24:xs 6=_:=hA.fa 6 (by rfl)
   (try simp (disch:=first | rfl | decide) only [R7.mask_in] at f24)
   rw[f24] at e24;clear f24;have e28:=hA.tm 10 28 (by rfl) (by rfl);have f28:xs 10=_:=hA.fa 10 (by rfl)
   (try simp (disch:=first | rfl | decide) only [R7.mask_in] at f28)
   rw[f28] at e28;clear f28;have hbw:=undrew (hA.be x2.heap.size (Nat.le_refl _) (fun q h=>absurd h (Nat.not_lt_zero q)));have hfq:=HFQ.out.below hbw;clear hA;refine⟨(by rfl),fun K hK=>?_⟩;go_simp
   refine (IN _ _ env q S _ hfq (HE.out.below hbw) HRQ.out HQ.out HSQ.out).mono ?_;rintro e w' ⟨y,rfl,hy,hb'⟩;exact hK.out _ _ ⟨y,rfl,hy⟩ hb'
  refine R7.Chain.call (fun xs v w=>v=.int .i64 (sgnZ (asI (ev (rho env) p) - asI (ev (rho env) q)))) (fun _ _ _ _ h _=>h) (fun _ _ _ _ _ h _ _=>h) (by rfl) (fun T xs wr hA=>?_) ?_
  ·have hsw:=(hA.be 0 (Nat.zero_le _) (fun _ _=>Nat.zero_le _)).size;have e23:=hA.tm 5 23 (by rfl) (by rfl);have e29:=hA.tm 11 29 (by rfl) (by rfl);have hF5:∃ y,(xs 5)=y/\CI wr y (asI (ev (rho env) p)) 600:=hA.fa 5 (by rfl);obtain⟨y5,e5,hy5⟩:=hF5;have hF11:∃ y,(xs 11)=y/\CI wr y (asI (ev (rho env) q)) 600:=hA.fa 11 (by rfl);obtain⟨y11,e11,hy11⟩:=hF11;clear hA;refine⟨(by rfl),fun K hK=>?_⟩;go_simp
   refine (wcmp_any _ _ (asI (ev (rho env) p)) (asI (ev (rho env) q)) 600 600 _ (by first | exact hy5.gi | (rw[e5];exact hy5.gi)) (by first | exact hy11.gi | (rw[e11];exact hy11.gi)) (by decide) (by decide)).mono ?_;rintro e w' ⟨rfl,hb'⟩;exact hK.out _ _ rfl hb'
  refine R7.Chain.det ?_ (by rfl) (fun T xs wr hA=>?_) ?_
  rotate_left 1
  ·have e30:=hA.tm 12 30 (by rfl) (by rfl);have f30:xs 12=(.int .i64 (sgnZ (asI (ev (rho env) p) - asI (ev (rho env) q)))):=hA.fa 12 (by rfl);rw[f30] at e30;clear f30;clear hA;refine⟨(by rfl),?_⟩;go_simp<;>(try with_reducible rfl)
  refine R7.Chain.det ?_ (by rfl) (fun T xs wr hA=>?_) ?_
  rotate_left 1
  ·have e31:=hA.tm 13 31 (by rfl) (by rfl);have f31:xs 13=_:=hA.fa 13 (by rfl)
   (try simp (disch:=first | rfl | decide) only [R7.mask_in] at f31)
   rw[f31] at e31;clear f31;clear hA;refine⟨(by rfl),?_⟩;go_simp<;>(try with_reducible rfl)
  refine R7.Chain.done (fun xs x3 hL=>?_);obtain⟨⟨hbe,hbl⟩,hf,-,-⟩:=hL;have f0:xs 0=_:=hf 0 (by decide)
  (try simp (disch:=first | rfl | decide) only [R7.mask_in] at f0)
  have f1:xs 1=_:=hf 1 (by decide)
  (try simp (disch:=first | rfl | decide) only [R7.mask_in] at f1)
  have f2:xs 2=_:=hf 2 (by decide)
  (try simp (disch:=first | rfl | decide) only [R7.mask_in] at f2)
  have f3:xs 3=_:=hf 3 (by decide)
  (try simp (disch:=first | rfl | decide) only [R7.mask_in] at f3)
  have f4:xs 4=_:=hf 4 (by decide)
  (try simp (disch:=first | rfl | decide) only [R7.mask_in] at f4)
  have F5:∃ y,(xs 5)=y/\CI x3 y (asI (ev (rho env) p)) 600:=hf 5 (by decide);have f6:xs 6=_:=hf 6 (by decide)
  (try simp (disch:=first | rfl | decide) only [R7.mask_in] at f6)
  have f7:xs 7=_:=hf 7 (by decide)
  (try simp (disch:=first | rfl | decide) only [R7.mask_in] at f7)
  have f8:xs 8=_:=hf 8 (by decide)
  (try simp (disch:=first | rfl | decide) only [R7.mask_in] at f8)
  have f9:xs 9=_:=hf 9 (by decide)
  (try simp (disch:=first | rfl | decide) only [R7.mask_in] at f9)
  have f10:xs 10=_:=hf 10 (by decide)
  (try simp (disch:=first | rfl | decide) only [R7.mask_in] at f10)
  have F11:∃ y,(xs 11)=y/\CI x3 y (asI (ev (rho env) q)) 600:=hf 11 (by decide);have f12:xs 12=(.int .i64 (sgnZ (asI (ev (rho env) p) - asI (ev (rho env) q)))):=hf 12 (by decide);have f13:xs 13=_:=hf 13 (by decide)
  (try simp (disch:=first | rfl | decide) only [R7.mask_in] at f13)
  have f14:xs 14=_:=hf 14 (by decide)
  (try simp (disch:=first | rfl | decide) only [R7.mask_in] at f14)
  have hb0:Below 0 x2 x3:=undrew (hbe 0 (Nat.zero_le _) (fun _ _=>Nat.zero_le _));have hgr:∀ j,j<x2.heap.size->(∀ q,q<0->(fun q=>0) q≠j)->x3.heap[j]?=x2.heap[j]?:=hbl;clear hbe hbl hf;have hb:Below x2.heap.size x2 x3:=⟨hb0.os,hb0.tape,hb0.output,hb0.size,fun q hq=>hgr q hq (fun q h=>absurd h (Nat.not_lt_zero _))⟩
  refine R7.rest_done ?_;simp only[R7.fill,t5_,t6_,t7_,f0,f1,f2,f3,f4,f6,f7,f8,f9,f10,f12,f13,f14];clear hb0 hgr hog hlt_e hlt_f f0 f1 f2 f3 f4 f6 f7 f8 f9 f10 f12 f13 f14;replace HBe:=kBV hb HBe;replace HBf:=kBV hb HBf;replace HX:=Lib.hid (HX.out.below hb);replace HE:=Lib.hid (HE.out.below hb);replace HW:=Lib.hid (HW.out.trans (hb.mono HW.out.size));replace HFP:=Lib.hid (HFP.out.below hb);replace HPC:=Lib.hid (HPC.out.below hb);replace HFQ:=Lib.hid (HFQ.out.below hb);replace HQC:=Lib.hid (HQC.out.below hb);replace hb:=Lib.hid hb;go_wp2_with fail
  go_ret
  refine⟨?_,HW.out⟩
  have hle:decide (sgnZ (asI (ev (rho env) p) - asI (ev (rho env) q))<=0)=decide (asI (ev (rho env) p)<=asI (ev (rho env) q)):=by
   unfold sgnZ;congr 1;apply propext;(repeat' split)<;>constructor<;>intro h<;>first | omega | (exfalso;omega)
  rw[HEV.out]
  show Ending.returned _=Ending.returned (.bool (decide (asI (ev (rho env) p)<=asI (ev (rho env) q))))
  rw[<-hle];rfl
 ·have HX:=Lib.hid hk;have HE:=Lib.hid he;have HKL0:=Lib.hid hkl;have HW:=Lib.hid (Below.refl w.heap.size w);have hh:srts ks=[0,0]\/srts ks=[2,2]:=by simpa [fitF,kidsOk] using hfit
  obtain⟨p,q,rfl⟩:∃ p q,ks=[p,q]:=by rcases hh with hh | hh<;>(obtain⟨p,q,rfl,-,-⟩:=srts_two hh;exact⟨p,q,rfl⟩)
  have hp:=trivial;have hq:=trivial;have HSP:=Lib.hid (hsm.kid p (by simp));have HRP:=Lib.hid (hrs p (by simp));have HP:=Lib.hid hp;have HSQ:=Lib.hid (hsm.kid q (by simp));have HRQ:=Lib.hid (hrs q (by simp));have HQ:=Lib.hid hq;have HEV:Hid (asB (ev (rho env) (.node 16 z nm [p,q]))=asB (opV (rho env) 16 z nm [ev (rho env) p,ev (rho env) q])):=Lib.hid (by rw[ev,evs,evs,evs]);have hkl1:kl=2:=HKL0.out;subst hkl1;clear hk he hsm hrs hfit hkl HKL0 hp hq;clear hh;go_enter Tryz.func114,Tryz.ntmps114
  obtain⟨x1,ke,ee,eke,hbe,hke,HBe⟩:=newV w #[.slice eo en ec] 114;replace HX:=Lib.hid (HX.out.below hbe.out);replace HE:=Lib.hid (HE.out.below hbe.out);replace HW:=Lib.hid (HW.out.trans (hbe.out.mono HW.out.size));obtain⟨x2,kf,ef,ekf,hbf,hkf,HBf⟩:=newV x1 #[.int .i64 16,.bool b,.slice ao l c,.string nm,.slice ko 2 kc] 29;replace HBe:=kBV hbf.out HBe;replace HX:=Lib.hid (HX.out.below hbf.out);replace HE:=Lib.hid (HE.out.below hbf.out);replace HW:=Lib.hid (HW.out.trans (hbf.out.mono HW.out.size));have e0:=cell_at (v:=.slice eo en ec) HBe.out 0 rfl;have fe0:=froz_at HBe.out 0;have c0:=cell_at (v:=.int .i64 16) HBf.out 0 rfl;have fc0:=froz_at HBf.out 0;have c1:=cell_at (v:=.bool b) HBf.out 1 rfl;have fc1:=froz_at HBf.out 1;have c2:=cell_at (v:=.slice ao l c) HBf.out 2 rfl;have fc2:=froz_at HBf.out 2
  have c3:=cell_at (v:=.string nm) HBf.out 3 rfl;have fc3:=froz_at HBf.out 3;have c4:=cell_at (v:=.slice ko 2 kc) HBf.out 4 rfl;have fc4:=froz_at HBf.out 4;obtain⟨a,bp,op,lp,cp,kop,klp,kcp,hkop,⟨p0,p1,p2,p3,p4⟩,hfp⟩:=HX.out.first;subst hkop;obtain⟨opp,hopp⟩:∃ x,x=p.op:=⟨_,rfl⟩
  obtain⟨nmp,hnmp⟩:∃ x,x=p.name:=⟨_,rfl⟩
  rw[<-hopp] at p0 hfp;rw[<-hnmp] at p3 hfp;have HFP:=Lib.hid hfp;have HPC:Hid (At5 x2 a opp bp op lp cp nmp kop klp kcp):=Lib.hid ⟨p0,p1,p2,p3,p4⟩;clear hopp hnmp hfp p0 p1 p2 p3 p4;obtain⟨a2,bq,oq,lq,cq,koq,klq,kcq,hkoq,⟨q0,q1,q2,q3,q4⟩,hfq⟩:=HX.out.second;injection hkoq with ha2;subst ha2;obtain⟨opq,hopq⟩:∃ x,x=q.op:=⟨_,rfl⟩
  obtain⟨nmq,hnmq⟩:∃ x,x=q.name:=⟨_,rfl⟩
  rw[<-hopq] at q0 hfq;rw[<-hnmq] at q3 hfq;have HFQ:=Lib.hid hfq;have HQC:Hid (At5 x2 ⟨a.block,a.off+5,none⟩ opq bq oq lq cq nmq koq klq kcq):=Lib.hid ⟨q0,q1,q2,q3,q4⟩;clear hopq hnmq hfq q0 q1 q2 q3 q4;go_upto_region 9 with fail
  clear e0 fe0 c0 fc0 c1 fc1 c2 fc2 c3 fc3 c4 fc4;have hlt_e:=lt_of_block HBe.out;have hlt_f:=lt_of_block HBf.out;have hog:Hid (∀ q,q<0->(fun q=>0) q<x2.heap.size):=Lib.hid (fun q h=>absurd h (Nat.not_lt_zero _));refine R7.region (by kernel_rfl) [[],[],[1],[1,2],[1,2,3],[0,1,2,3,4],[],[],[7],[7,8],[7,8,9],[0,1,2,3,4,5,6,7,8,9,10],[0,1,2,3,4,5,6,7,8,9,10,11],[0,1,2,3,4,5,6,7,8,9,10,11,12]] [] [] (fun q=>0) 0 14 (by kernel_rfl) (by kernel_rfl) (by rfl) hog.out (fun q q' h h' hn=>absurd hn (by omega)) ?_;refine R7.Chain.det ?_ (by rfl) (fun T xs wr hA=>?_) ?_
  rotate_left 1
  ·have e2:=hA.pre 2 (by kernel_rfl);simp only[gsa,gsc,gsz] at e2;have hBq:wr.heap[ke]?=_:=(hA.bl _ hlt_e (fun q h=>absurd h (Nat.not_lt_zero _))).trans HBe.out;have q0:=cell_at (v:=.slice eo en ec) hBq 0 rfl;clear hBq;clear hA;refine⟨(by rfl),?_⟩;go_simp<;>(try with_reducible rfl)
  refine R7.Chain.det ?_ (by rfl) (fun T xs wr hA=>?_) ?_
  rotate_left 1
  ·have e3:=hA.pre 3 (by kernel_rfl);simp only[gsa,gsc,gsz] at e3;clear hA;refine⟨(by rfl),?_⟩;go_simp<;>(try with_reducible rfl)
  refine R7.Chain.det ?_ (by rfl) (fun T xs wr hA=>?_) ?_
  rotate_left 1
  ·have e35:=hA.tm 1 35 (by rfl) (by rfl);have f35:xs 1=_:=hA.fa 1 (by rfl)
   (try simp (disch:=first | rfl | decide) only [R7.mask_in] at f35)
   rw[f35] at e35;clear f35;have hBq:wr.heap[kf]?=_:=(hA.bl _ hlt_f (fun q h=>absurd h (Nat.not_lt_zero _))).trans HBf.out;have q0:=cell_at (v:=.int .i64 16) hBq 0 rfl;have q1:=cell_at (v:=.bool b) hBq 1 rfl;have q2:=cell_at (v:=.slice ao l c) hBq 2 rfl;have q3:=cell_at (v:=.string nm) hBq 3 rfl;have q4:=cell_at (v:=.slice (some a) 2 kc) hBq 4 rfl;clear hBq;clear hA;refine⟨(by rfl),?_⟩;go_simp<;>(try with_reducible rfl)
  refine R7.Chain.det ?_ (by rfl) (fun T xs wr hA=>?_) ?_
  rotate_left 1
  ·have e36:=hA.tm 2 36 (by rfl) (by rfl);have f36:xs 2=_:=hA.fa 2 (by rfl)
   (try simp (disch:=first | rfl | decide) only [R7.mask_in] at f36)
   rw[f36] at e36;clear f36;clear hA;refine⟨(by rfl),?_⟩;go_simp<;>(try with_reducible rfl)
  refine R7.Chain.det ?_ (by rfl) (fun T xs wr hA=>?_) ?_
  rotate_left 1
  ·have e37:=hA.tm 3 37 (by rfl) (by rfl);have f37:xs 3=_:=hA.fa 3 (by rfl)
   (try simp (disch:=first | rfl | decide) only [R7.mask_in] at f37)
   rw[f37] at e37;clear f37;have hbw:=undrew (hA.be x2.heap.size (Nat.le_refl _) (fun q h=>absurd h (Nat.not_lt_zero q)));obtain⟨q0,q1,q2,q3,q4⟩:=HPC.out.below hbw
   try simp only at q0 q1 q2 q3 q4
   clear hA;refine⟨(by rfl),?_⟩;go_simp<;>(try with_reducible rfl)
  refine R7.Chain.call (fun xs v w=>∃ y,v=y/\VC w y (ev (rho env) p)) (fun _ _ _ _ h hb=>by obtain⟨y,h1,h2⟩:=h;exact⟨y,h1,h2.below hb⟩) (fun _ _ _ _ _ _ h _=>by obtain⟨q,hq,_⟩:=h;exact absurd hq (Nat.not_lt_zero _)) (by rfl) (fun T xs wr hA=>?_) ?_
  ·have hsw:=(hA.be 0 (Nat.zero_le _) (fun _ _=>Nat.zero_le _)).size;have e34:=hA.tm 0 34 (by rfl) (by rfl);have f34:xs 0=_:=hA.fa 0 (by rfl)
   (try simp (disch:=first | rfl | decide) only [R7.mask_in] at f34)
   rw[f34] at e34;clear f34;have e38:=hA.tm 4 38 (by rfl) (by rfl);have f38:xs 4=_:=hA.fa 4 (by rfl)
   (try simp (disch:=first | rfl | decide) only [R7.mask_in] at f38)
   rw[f38] at e38;clear f38;have hbw:=undrew (hA.be x2.heap.size (Nat.le_refl _) (fun q h=>absurd h (Nat.not_lt_zero q)));have hfq:=HFP.out.below hbw;clear hA;refine⟨(by rfl),fun K hK=>?_⟩;go_simp
   refine (IV _ _ env p S _ hfq (HE.out.below hbw) HRP.out HSP.out).mono ?_;rintro e w' ⟨y,rfl,hy,hb'⟩;exact hK.out _ _ ⟨y,rfl,hy⟩ hb'
  refine R7.Chain.det ?_ (by rfl) (fun T xs wr hA=>?_) ?_
  rotate_left 1
  ·have e2:=hA.pre 2 (by kernel_rfl);simp only[gsa,gsc,gsz] at e2;have hBq:wr.heap[ke]?=_:=(hA.bl _ hlt_e (fun q h=>absurd h (Nat.not_lt_zero _))).trans HBe.out;have q0:=cell_at (v:=.slice eo en ec) hBq 0 rfl;clear hBq;clear hA;refine⟨(by rfl),?_⟩;go_simp<;>(try with_reducible rfl)
  refine R7.Chain.det ?_ (by rfl) (fun T xs wr hA=>?_) ?_
  rotate_left 1
  ·have e3:=hA.pre 3 (by kernel_rfl);simp only[gsa,gsc,gsz] at e3;clear hA;refine⟨(by rfl),?_⟩;go_simp<;>(try with_reducible rfl)
  refine R7.Chain.det ?_ (by rfl) (fun T xs wr hA=>?_) ?_
  rotate_left 1
  ·have e41:=hA.tm 7 41 (by rfl) (by rfl);have f41:xs 7=_:=hA.fa 7 (by rfl)
   (try simp (disch:=first | rfl | decide) only [R7.mask_in] at f41)
   rw[f41] at e41;clear f41;have hBq:wr.heap[kf]?=_:=(hA.bl _ hlt_f (fun q h=>absurd h (Nat.not_lt_zero _))).trans HBf.out;have q0:=cell_at (v:=.int .i64 16) hBq 0 rfl;have q1:=cell_at (v:=.bool b) hBq 1 rfl;have q2:=cell_at (v:=.slice ao l c) hBq 2 rfl;have q3:=cell_at (v:=.string nm) hBq 3 rfl;have q4:=cell_at (v:=.slice (some a) 2 kc) hBq 4 rfl;clear hBq;clear hA;refine⟨(by rfl),?_⟩;go_simp<;>(try with_reducible rfl)
  refine R7.Chain.det ?_ (by rfl) (fun T xs wr hA=>?_) ?_
  rotate_left 1
  ·have e42:=hA.tm 8 42 (by rfl) (by rfl);have f42:xs 8=_:=hA.fa 8 (by rfl)
   (try simp (disch:=first | rfl | decide) only [R7.mask_in] at f42)
   rw[f42] at e42;clear f42;clear hA;refine⟨(by rfl),?_⟩;go_simp<;>(try with_reducible rfl)
  refine R7.Chain.det ?_ (by rfl) (fun T xs wr hA=>?_) ?_
  rotate_left 1
  ·have e43:=hA.tm 9 43 (by rfl) (by rfl);have f43:xs 9=_:=hA.fa 9 (by rfl)
   (try simp (disch:=first | rfl | decide) only [R7.mask_in] at f43)
   rw[f43] at e43;clear f43;have hbw:=undrew (hA.be x2.heap.size (Nat.le_refl _) (fun q h=>absurd h (Nat.not_lt_zero q)));obtain⟨q0,q1,q2,q3,q4⟩:=HQC.out.below hbw
   try simp only at q0 q1 q2 q3 q4
   clear hA;refine⟨(by rfl),?_⟩;go_simp<;>(try with_reducible rfl)
  refine R7.Chain.call (fun xs v w=>∃ y,v=y/\VC w y (ev (rho env) q)) (fun _ _ _ _ h hb=>by obtain⟨y,h1,h2⟩:=h;exact⟨y,h1,h2.below hb⟩) (fun _ _ _ _ _ _ h _=>by obtain⟨q,hq,_⟩:=h;exact absurd hq (Nat.not_lt_zero _)) (by rfl) (fun T xs wr hA=>?_) ?_
  ·have hsw:=(hA.be 0 (Nat.zero_le _) (fun _ _=>Nat.zero_le _)).size;have e40:=hA.tm 6 40 (by rfl) (by rfl);have f40:xs 6=_:=hA.fa 6 (by rfl)
   (try simp (disch:=first | rfl | decide) only [R7.mask_in] at f40)
   rw[f40] at e40;clear f40;have e44:=hA.tm 10 44 (by rfl) (by rfl);have f44:xs 10=_:=hA.fa 10 (by rfl)
   (try simp (disch:=first | rfl | decide) only [R7.mask_in] at f44)
   rw[f44] at e44;clear f44;have hbw:=undrew (hA.be x2.heap.size (Nat.le_refl _) (fun q h=>absurd h (Nat.not_lt_zero q)));have hfq:=HFQ.out.below hbw;clear hA;refine⟨(by rfl),fun K hK=>?_⟩;go_simp
   refine (IV _ _ env q S _ hfq (HE.out.below hbw) HRQ.out HSQ.out).mono ?_;rintro e w' ⟨y,rfl,hy,hb'⟩;exact hK.out _ _ ⟨y,rfl,hy⟩ hb'
  refine R7.Chain.call (fun xs v w=>v=.bool (decide (ev (rho env) p=ev (rho env) q))) (fun _ _ _ _ h _=>h) (fun _ _ _ _ _ h _ _=>h) (by rfl) (fun T xs wr hA=>?_) ?_
  ·have hsw:=(hA.be 0 (Nat.zero_le _) (fun _ _=>Nat.zero_le _)).size;have e39:=hA.tm 5 39 (by rfl) (by rfl);have e45:=hA.tm 11 45 (by rfl) (by rfl);have hF5:∃ y,(xs 5)=y/\VC wr y (ev (rho env) p):=hA.fa 5 (by rfl);obtain⟨y5,e5,hy5⟩:=hF5;have hF11:∃ y,(xs 11)=y/\VC wr y (ev (rho env) q):=hA.fa 11 (by rfl);obtain⟨y11,e11,hy11⟩:=hF11;clear hA;refine⟨(by rfl),fun K hK=>?_⟩;go_simp
   refine (same_p _ _ (ev (rho env) p) (ev (rho env) q) _ (by first | exact hy5 | (rw[e5];exact hy5)) (by first | exact hy11 | (rw[e11];exact hy11))).mono ?_;rintro e w' ⟨rfl,hb'⟩;exact hK.out _ _ rfl hb'
  refine R7.Chain.det ?_ (by rfl) (fun T xs wr hA=>?_) ?_
  rotate_left 1
  ·have e46:=hA.tm 12 46 (by rfl) (by rfl);have f46:xs 12=(.bool (decide (ev (rho env) p=ev (rho env) q))):=hA.fa 12 (by rfl);rw[f46] at e46;clear f46;clear hA;refine⟨(by rfl),?_⟩;go_simp<;>(try with_reducible rfl)
  refine R7.Chain.done (fun xs x3 hL=>?_);obtain⟨⟨hbe,hbl⟩,hf,-,-⟩:=hL;have f0:xs 0=_:=hf 0 (by decide)
  (try simp (disch:=first | rfl | decide) only [R7.mask_in] at f0)
  have f1:xs 1=_:=hf 1 (by decide)
  (try simp (disch:=first | rfl | decide) only [R7.mask_in] at f1)
  have f2:xs 2=_:=hf 2 (by decide)
  (try simp (disch:=first | rfl | decide) only [R7.mask_in] at f2)
  have f3:xs 3=_:=hf 3 (by decide)
  (try simp (disch:=first | rfl | decide) only [R7.mask_in] at f3)
  have f4:xs 4=_:=hf 4 (by decide)
  (try simp (disch:=first | rfl | decide) only [R7.mask_in] at f4)
  have F5:∃ y,(xs 5)=y/\VC x3 y (ev (rho env) p):=hf 5 (by decide);have f6:xs 6=_:=hf 6 (by decide)
  (try simp (disch:=first | rfl | decide) only [R7.mask_in] at f6)
  have f7:xs 7=_:=hf 7 (by decide)
  (try simp (disch:=first | rfl | decide) only [R7.mask_in] at f7)
  have f8:xs 8=_:=hf 8 (by decide)
  (try simp (disch:=first | rfl | decide) only [R7.mask_in] at f8)
  have f9:xs 9=_:=hf 9 (by decide)
  (try simp (disch:=first | rfl | decide) only [R7.mask_in] at f9)
  have f10:xs 10=_:=hf 10 (by decide)
  (try simp (disch:=first | rfl | decide) only [R7.mask_in] at f10)
  have F11:∃ y,(xs 11)=y/\VC x3 y (ev (rho env) q):=hf 11 (by decide);have f12:xs 12=(.bool (decide (ev (rho env) p=ev (rho env) q))):=hf 12 (by decide);have f13:xs 13=_:=hf 13 (by decide)
  (try simp (disch:=first | rfl | decide) only [R7.mask_in] at f13)
  have hb0:Below 0 x2 x3:=undrew (hbe 0 (Nat.zero_le _) (fun _ _=>Nat.zero_le _));have hgr:∀ j,j<x2.heap.size->(∀ q,q<0->(fun q=>0) q≠j)->x3.heap[j]?=x2.heap[j]?:=hbl;clear hbe hbl hf;have hb:Below x2.heap.size x2 x3:=⟨hb0.os,hb0.tape,hb0.output,hb0.size,fun q hq=>hgr q hq (fun q h=>absurd h (Nat.not_lt_zero _))⟩
  refine R7.rest_done ?_;simp only[R7.fill,t5_,t6_,t7_,f0,f1,f2,f3,f4,f6,f7,f8,f9,f10,f12,f13];clear hb0 hgr hog hlt_e hlt_f f0 f1 f2 f3 f4 f6 f7 f8 f9 f10 f12 f13;replace HBe:=kBV hb HBe;replace HBf:=kBV hb HBf;replace HX:=Lib.hid (HX.out.below hb);replace HE:=Lib.hid (HE.out.below hb);replace HW:=Lib.hid (HW.out.trans (hb.mono HW.out.size));replace HFP:=Lib.hid (HFP.out.below hb);replace HPC:=Lib.hid (HPC.out.below hb);replace HFQ:=Lib.hid (HFQ.out.below hb);replace HQC:=Lib.hid (HQC.out.below hb);replace hb:=Lib.hid hb;go_wp2_with fail
  go_ret
  refine⟨?_,HW.out⟩;rw[HEV.out];rfl
 ·have HX:=Lib.hid hk;have HE:=Lib.hid he;have HKL0:=Lib.hid hkl;have HW:=Lib.hid (Below.refl w.heap.size w);obtain⟨p,rfl,hp⟩:=srts_one (ks:=ks) (s:=1) (by simpa [fitF,kidsOk] using hfit);have HSP:=Lib.hid (hsm.kid p (by simp));have HRP:=Lib.hid (hrs p (by simp));have HP:=Lib.hid hp;have HEV:Hid (asB (ev (rho env) (.node 17 z nm [p]))=asB (opV (rho env) 17 z nm [ev (rho env) p])):=Lib.hid (by rw[ev,evs,evs]);have hkl1:kl=1:=HKL0.out;subst hkl1;clear hk he hsm hrs hfit hkl HKL0 hp;go_enter Tryz.func114,Tryz.ntmps114
  obtain⟨x1,ke,ee,eke,hbe,hke,HBe⟩:=newV w #[.slice eo en ec] 114;replace HX:=Lib.hid (HX.out.below hbe.out);replace HE:=Lib.hid (HE.out.below hbe.out);replace HW:=Lib.hid (HW.out.trans (hbe.out.mono HW.out.size));obtain⟨x2,kf,ef,ekf,hbf,hkf,HBf⟩:=newV x1 #[.int .i64 17,.bool b,.slice ao l c,.string nm,.slice ko 1 kc] 29;replace HBe:=kBV hbf.out HBe;replace HX:=Lib.hid (HX.out.below hbf.out);replace HE:=Lib.hid (HE.out.below hbf.out);replace HW:=Lib.hid (HW.out.trans (hbf.out.mono HW.out.size));have e0:=cell_at (v:=.slice eo en ec) HBe.out 0 rfl;have fe0:=froz_at HBe.out 0;have c0:=cell_at (v:=.int .i64 17) HBf.out 0 rfl;have fc0:=froz_at HBf.out 0;have c1:=cell_at (v:=.bool b) HBf.out 1 rfl;have fc1:=froz_at HBf.out 1;have c2:=cell_at (v:=.slice ao l c) HBf.out 2 rfl;have fc2:=froz_at HBf.out 2
  have c3:=cell_at (v:=.string nm) HBf.out 3 rfl;have fc3:=froz_at HBf.out 3;have c4:=cell_at (v:=.slice ko 1 kc) HBf.out 4 rfl;have fc4:=froz_at HBf.out 4;obtain⟨a,bp,op,lp,cp,kop,klp,kcp,hkop,⟨p0,p1,p2,p3,p4⟩,hfp⟩:=HX.out.first;subst hkop;obtain⟨opp,hopp⟩:∃ x,x=p.op:=⟨_,rfl⟩
  obtain⟨nmp,hnmp⟩:∃ x,x=p.name:=⟨_,rfl⟩
  rw[<-hopp] at p0 hfp;rw[<-hnmp] at p3 hfp;have HFP:=Lib.hid hfp;have HPC:Hid (At5 x2 a opp bp op lp cp nmp kop klp kcp):=Lib.hid ⟨p0,p1,p2,p3,p4⟩;clear hopp hnmp hfp p0 p1 p2 p3 p4;go_upto_region 13 with fail
  clear e0 fe0 c0 fc0 c1 fc1 c2 fc2 c3 fc3 c4 fc4;have hlt_e:=lt_of_block HBe.out;have hlt_f:=lt_of_block HBf.out;have hog:Hid (∀ q,q<0->(fun q=>0) q<x2.heap.size):=Lib.hid (fun q h=>absurd h (Nat.not_lt_zero _));refine R7.region (by kernel_rfl) [[],[],[1],[1,2],[1,2,3],[0,1,2,3,4],[0,1,2,3,4,5],[0,1,2,3,4,5,6]] [] [] (fun q=>0) 0 8 (by kernel_rfl) (by kernel_rfl) (by rfl) hog.out (fun q q' h h' hn=>absurd hn (by omega)) ?_;refine R7.Chain.det ?_ (by rfl) (fun T xs wr hA=>?_) ?_
  rotate_left 1
  ·have e2:=hA.pre 2 (by kernel_rfl);simp only[gsa,gsc,gsz] at e2;have hBq:wr.heap[ke]?=_:=(hA.bl _ hlt_e (fun q h=>absurd h (Nat.not_lt_zero _))).trans HBe.out;have q0:=cell_at (v:=.slice eo en ec) hBq 0 rfl;clear hBq;clear hA;refine⟨(by rfl),?_⟩;go_simp<;>(try with_reducible rfl)
  refine R7.Chain.det ?_ (by rfl) (fun T xs wr hA=>?_) ?_
  rotate_left 1
  ·have e3:=hA.pre 3 (by kernel_rfl);simp only[gsa,gsc,gsz] at e3;clear hA;refine⟨(by rfl),?_⟩;go_simp<;>(try with_reducible rfl)
  refine R7.Chain.det ?_ (by rfl) (fun T xs wr hA=>?_) ?_
  rotate_left 1
  ·have e65:=hA.tm 1 65 (by rfl) (by rfl);have f65:xs 1=_:=hA.fa 1 (by rfl)
   (try simp (disch:=first | rfl | decide) only [R7.mask_in] at f65)
   rw[f65] at e65;clear f65;have hBq:wr.heap[kf]?=_:=(hA.bl _ hlt_f (fun q h=>absurd h (Nat.not_lt_zero _))).trans HBf.out;have q0:=cell_at (v:=.int .i64 17) hBq 0 rfl;have q1:=cell_at (v:=.bool b) hBq 1 rfl;have q2:=cell_at (v:=.slice ao l c) hBq 2 rfl;have q3:=cell_at (v:=.string nm) hBq 3 rfl;have q4:=cell_at (v:=.slice (some a) 1 kc) hBq 4 rfl;clear hBq;clear hA;refine⟨(by rfl),?_⟩;go_simp<;>(try with_reducible rfl)
  refine R7.Chain.det ?_ (by rfl) (fun T xs wr hA=>?_) ?_
  rotate_left 1
  ·have e66:=hA.tm 2 66 (by rfl) (by rfl);have f66:xs 2=_:=hA.fa 2 (by rfl)
   (try simp (disch:=first | rfl | decide) only [R7.mask_in] at f66)
   rw[f66] at e66;clear f66;clear hA;refine⟨(by rfl),?_⟩;go_simp<;>(try with_reducible rfl)
  refine R7.Chain.det ?_ (by rfl) (fun T xs wr hA=>?_) ?_
  rotate_left 1
  ·have e67:=hA.tm 3 67 (by rfl) (by rfl);have f67:xs 3=_:=hA.fa 3 (by rfl)
   (try simp (disch:=first | rfl | decide) only [R7.mask_in] at f67)
   rw[f67] at e67;clear f67;have hbw:=undrew (hA.be x2.heap.size (Nat.le_refl _) (fun q h=>absurd h (Nat.not_lt_zero q)));obtain⟨q0,q1,q2,q3,q4⟩:=HPC.out.below hbw
   try simp only at q0 q1 q2 q3 q4
   clear hA;refine⟨(by rfl),?_⟩;go_simp<;>(try with_reducible rfl)
  refine R7.Chain.call (fun xs v w=>v=.bool (asB (ev (rho env) p))) (fun _ _ _ _ h _=>h) (fun _ _ _ _ _ h _ _=>h) (by rfl) (fun T xs wr hA=>?_) ?_
  ·have hsw:=(hA.be 0 (Nat.zero_le _) (fun _ _=>Nat.zero_le _)).size;have e64:=hA.tm 0 64 (by rfl) (by rfl);have f64:xs 0=_:=hA.fa 0 (by rfl)
   (try simp (disch:=first | rfl | decide) only [R7.mask_in] at f64)
   rw[f64] at e64;clear f64;have e68:=hA.tm 4 68 (by rfl) (by rfl);have f68:xs 4=_:=hA.fa 4 (by rfl)
   (try simp (disch:=first | rfl | decide) only [R7.mask_in] at f68)
   rw[f68] at e68;clear f68;have hbw:=undrew (hA.be x2.heap.size (Nat.le_refl _) (fun q h=>absurd h (Nat.not_lt_zero q)));have hfq:=HFP.out.below hbw;clear hA;refine⟨(by rfl),fun K hK=>?_⟩;go_simp
   refine (IT _ _ env p S _ hfq (HE.out.below hbw) HRP.out HP.out HSP.out).mono ?_;rintro e w' ⟨rfl,hb'⟩;exact hK.out _ _ rfl hb'
  refine R7.Chain.det ?_ (by rfl) (fun T xs wr hA=>?_) ?_
  rotate_left 1
  ·have e69:=hA.tm 5 69 (by rfl) (by rfl);have f69:xs 5=(.bool (asB (ev (rho env) p))):=hA.fa 5 (by rfl);rw[f69] at e69;clear f69;clear hA;refine⟨(by rfl),?_⟩;go_simp<;>(try with_reducible rfl)
  refine R7.Chain.det ?_ (by rfl) (fun T xs wr hA=>?_) ?_
  rotate_left 1
  ·have e70:=hA.tm 6 70 (by rfl) (by rfl);have f70:xs 6=_:=hA.fa 6 (by rfl)
   (try simp (disch:=first | rfl | decide) only [R7.mask_in] at f70)
   rw[f70] at e70;clear f70;clear hA;refine⟨(by rfl),?_⟩;go_simp<;>(try with_reducible rfl)
  refine R7.Chain.done (fun xs x3 hL=>?_);obtain⟨⟨hbe,hbl⟩,hf,-,-⟩:=hL;have f0:xs 0=_:=hf 0 (by decide)
  (try simp (disch:=first | rfl | decide) only [R7.mask_in] at f0)
  have f1:xs 1=_:=hf 1 (by decide)
  (try simp (disch:=first | rfl | decide) only [R7.mask_in] at f1)
  have f2:xs 2=_:=hf 2 (by decide)
  (try simp (disch:=first | rfl | decide) only [R7.mask_in] at f2)
  have f3:xs 3=_:=hf 3 (by decide)
  (try simp (disch:=first | rfl | decide) only [R7.mask_in] at f3)
  have f4:xs 4=_:=hf 4 (by decide)
  (try simp (disch:=first | rfl | decide) only [R7.mask_in] at f4)
  have f5:xs 5=(.bool (asB (ev (rho env) p))):=hf 5 (by decide);have f6:xs 6=_:=hf 6 (by decide)
  (try simp (disch:=first | rfl | decide) only [R7.mask_in] at f6)
  have f7:xs 7=_:=hf 7 (by decide)
  (try simp (disch:=first | rfl | decide) only [R7.mask_in] at f7)
  have hb0:Below 0 x2 x3:=undrew (hbe 0 (Nat.zero_le _) (fun _ _=>Nat.zero_le _));have hgr:∀ j,j<x2.heap.size->(∀ q,q<0->(fun q=>0) q≠j)->x3.heap[j]?=x2.heap[j]?:=hbl;clear hbe hbl hf;have hb:Below x2.heap.size x2 x3:=⟨hb0.os,hb0.tape,hb0.output,hb0.size,fun q hq=>hgr q hq (fun q h=>absurd h (Nat.not_lt_zero _))⟩
  refine R7.rest_done ?_;simp only[R7.fill,t5_,t6_,t7_,f0,f1,f2,f3,f4,f5,f6,f7];clear hb0 hgr hog hlt_e hlt_f f0 f1 f2 f3 f4 f5 f6 f7;replace HBe:=kBV hb HBe;replace HBf:=kBV hb HBf;replace HX:=Lib.hid (HX.out.below hb);replace HE:=Lib.hid (HE.out.below hb);replace HW:=Lib.hid (HW.out.trans (hb.mono HW.out.size));replace HFP:=Lib.hid (HFP.out.below hb);replace HPC:=Lib.hid (HPC.out.below hb);replace hb:=Lib.hid hb;go_wp2_with fail
  go_ret
  refine⟨?_,HW.out⟩;rw[HEV.out];rfl
 ·have HX:=Lib.hid hk;have HE:=Lib.hid he;have HKL0:=Lib.hid hkl;have HW:=Lib.hid (Below.refl w.heap.size w)
  have hall:∀ f ∈ ks,srt f.op=1:=by
   have h1:(srts ks).all (fun s=>decide (s=1))=true:=by simpa [fitF,kidsOk] using hfit
   intro f hf;have:=List.all_eq_true.1 h1 (srt f.op) (List.mem_map.2 ⟨f,hf,rfl⟩)
   simpa using this
  have HALL:=Lib.hid hall;have HRS:=Lib.hid hrs;have HSM:=Lib.hid hsm;clear hk he hsm hrs hfit hkl HKL0 hall;go_enter Tryz.func114,Tryz.ntmps114
  obtain⟨x1,ke,ee,eke,hbe,hke,HBe⟩:=newV w #[.slice eo en ec] 114;replace HX:=Lib.hid (HX.out.below hbe.out);replace HE:=Lib.hid (HE.out.below hbe.out);replace HW:=Lib.hid (HW.out.trans (hbe.out.mono HW.out.size));obtain⟨x2,kf,ef,ekf,hbf,hkf,HBf⟩:=newV x1 #[.int .i64 18,.bool b,.slice ao l c,.string nm,.slice ko kl kc] 29;replace HBe:=kBV hbf.out HBe;replace HX:=Lib.hid (HX.out.below hbf.out);replace HE:=Lib.hid (HE.out.below hbf.out);replace HW:=Lib.hid (HW.out.trans (hbf.out.mono HW.out.size));have e0:=cell_at (v:=.slice eo en ec) HBe.out 0 rfl;have fe0:=froz_at HBe.out 0;have c0:=cell_at (v:=.int .i64 18) HBf.out 0 rfl;have fc0:=froz_at HBf.out 0;have c1:=cell_at (v:=.bool b) HBf.out 1 rfl;have fc1:=froz_at HBf.out 1;have c2:=cell_at (v:=.slice ao l c) HBf.out 2 rfl;have fc2:=froz_at HBf.out 2
  have c3:=cell_at (v:=.string nm) HBf.out 3 rfl;have fc3:=froz_at HBf.out 3;have c4:=cell_at (v:=.slice ko kl kc) HBf.out 4 rfl;have fc4:=froz_at HBf.out 4;go_wp2_with fail
  refine (contains_and _ ks (fun f=>!asB (ev (rho env) f)) d S x2 ke HX.out (fun f hf v w' hb hv=>?_)).mono ?_
  ·exact truth1_p d IT eo en ec env ke v f S w' ((hb.block _ (lt_of_block HBe.out)).trans HBe.out) hv (HE.out.below hb) (HRS.out f hf) (HALL.out f hf) (HSM.out.kid f hf)
  rintro e x3 ⟨rfl,hb⟩;clear e0 fe0 c0 fc0 c1 fc1 c2 fc2 c3 fc3 c4 fc4;replace HBe:=kBV hb HBe;replace HBf:=kBV hb HBf;replace HX:=Lib.hid (HX.out.below hb);replace HE:=Lib.hid (HE.out.below hb);replace HW:=Lib.hid (HW.out.trans (hb.mono HW.out.size));go_wp2_with fail
  go_ret
  refine⟨?_,HW.out⟩;rw[show asB (ev (rho env) (.node 18 z nm ks)) = !(ks.any fun f=>!asB (ev (rho env) f)) by rw[ev,evs_map];show (List.map (ev (rho env)) ks).all asB=_;rw[List.all_map,List.not_any_eq_all_not];congr 1;funext f;simp]
  rfl
 ·have HX:=Lib.hid hk;have HE:=Lib.hid he;have HKL0:=Lib.hid hkl;have HW:=Lib.hid (Below.refl w.heap.size w)
  have hall:∀ f ∈ ks,srt f.op=1:=by
   have h1:(srts ks).all (fun s=>decide (s=1))=true:=by simpa [fitF,kidsOk] using hfit
   intro f hf;have:=List.all_eq_true.1 h1 (srt f.op) (List.mem_map.2 ⟨f,hf,rfl⟩)
   simpa using this
  have HALL:=Lib.hid hall;have HRS:=Lib.hid hrs;have HSM:=Lib.hid hsm;clear hk he hsm hrs hfit hkl HKL0 hall;go_enter Tryz.func114,Tryz.ntmps114
  obtain⟨x1,ke,ee,eke,hbe,hke,HBe⟩:=newV w #[.slice eo en ec] 114;replace HX:=Lib.hid (HX.out.below hbe.out);replace HE:=Lib.hid (HE.out.below hbe.out);replace HW:=Lib.hid (HW.out.trans (hbe.out.mono HW.out.size));obtain⟨x2,kf,ef,ekf,hbf,hkf,HBf⟩:=newV x1 #[.int .i64 19,.bool b,.slice ao l c,.string nm,.slice ko kl kc] 29;replace HBe:=kBV hbf.out HBe;replace HX:=Lib.hid (HX.out.below hbf.out);replace HE:=Lib.hid (HE.out.below hbf.out);replace HW:=Lib.hid (HW.out.trans (hbf.out.mono HW.out.size));have e0:=cell_at (v:=.slice eo en ec) HBe.out 0 rfl;have fe0:=froz_at HBe.out 0;have c0:=cell_at (v:=.int .i64 19) HBf.out 0 rfl;have fc0:=froz_at HBf.out 0;have c1:=cell_at (v:=.bool b) HBf.out 1 rfl;have fc1:=froz_at HBf.out 1;have c2:=cell_at (v:=.slice ao l c) HBf.out 2 rfl;have fc2:=froz_at HBf.out 2
  have c3:=cell_at (v:=.string nm) HBf.out 3 rfl;have fc3:=froz_at HBf.out 3;have c4:=cell_at (v:=.slice ko kl kc) HBf.out 4 rfl;have fc4:=froz_at HBf.out 4;go_wp2_with fail
  refine (contains_or _ ks (fun f=>asB (ev (rho env) f)) d S x2 (.slice eo en ec) HX.out (fun f hf v w' hb hv=>?_)).mono ?_
  ·exact IT _ _ env f S w' hv (HE.out.below hb) (HRS.out f hf) (HALL.out f hf) (HSM.out.kid f hf)
  rintro e x3 ⟨rfl,hb⟩;clear e0 fe0 c0 fc0 c1 fc1 c2 fc2 c3 fc3 c4 fc4;replace HBe:=kBV hb HBe;replace HBf:=kBV hb HBf;replace HX:=Lib.hid (HX.out.below hb);replace HE:=Lib.hid (HE.out.below hb);replace HW:=Lib.hid (HW.out.trans (hb.mono HW.out.size));go_wp2_with fail
  go_ret
  refine⟨?_,HW.out⟩;rw[show asB (ev (rho env) (.node 19 z nm ks))=(ks.any fun f=>asB (ev (rho env) f)) by rw[ev,evs_map];show (List.map (ev (rho env)) ks).any asB=_;rw[List.any_map];rfl]
  rfl
 have HX:=Lib.hid hk;have HE:=Lib.hid he;have HKL0:=Lib.hid hkl;have HW:=Lib.hid (Below.refl w.heap.size w);obtain⟨p,q,rfl,hp,hq⟩:=srts_two (ks:=ks) (s:=1) (r:=1) (by simpa [fitF,kidsOk] using hfit);have HSP:=Lib.hid (hsm.kid p (by simp));have HRP:=Lib.hid (hrs p (by simp));have HP:=Lib.hid hp;have HSQ:=Lib.hid (hsm.kid q (by simp));have HRQ:=Lib.hid (hrs q (by simp));have HQ:=Lib.hid hq;have HEV:Hid (asB (ev (rho env) (.node 20 z nm [p,q]))=asB (opV (rho env) 20 z nm [ev (rho env) p,ev (rho env) q])):=Lib.hid (by rw[ev,evs,evs,evs]);have hkl1:kl=2:=HKL0.out;subst hkl1;clear hk he hsm hrs hfit hkl HKL0 hp hq;go_enter Tryz.func114,Tryz.ntmps114
 obtain⟨x1,ke,ee,eke,hbe,hke,HBe⟩:=newV w #[.slice eo en ec] 114;replace HX:=Lib.hid (HX.out.below hbe.out);replace HE:=Lib.hid (HE.out.below hbe.out);replace HW:=Lib.hid (HW.out.trans (hbe.out.mono HW.out.size));obtain⟨x2,kf,ef,ekf,hbf,hkf,HBf⟩:=newV x1 #[.int .i64 20,.bool b,.slice ao l c,.string nm,.slice ko 2 kc] 29;replace HBe:=kBV hbf.out HBe;replace HX:=Lib.hid (HX.out.below hbf.out);replace HE:=Lib.hid (HE.out.below hbf.out);replace HW:=Lib.hid (HW.out.trans (hbf.out.mono HW.out.size));have e0:=cell_at (v:=.slice eo en ec) HBe.out 0 rfl;have fe0:=froz_at HBe.out 0;have c0:=cell_at (v:=.int .i64 20) HBf.out 0 rfl;have fc0:=froz_at HBf.out 0;have c1:=cell_at (v:=.bool b) HBf.out 1 rfl;have fc1:=froz_at HBf.out 1;have c2:=cell_at (v:=.slice ao l c) HBf.out 2 rfl;have fc2:=froz_at HBf.out 2
 have c3:=cell_at (v:=.string nm) HBf.out 3 rfl;have fc3:=froz_at HBf.out 3;have c4:=cell_at (v:=.slice ko 2 kc) HBf.out 4 rfl;have fc4:=froz_at HBf.out 4;obtain⟨a,bp,op,lp,cp,kop,klp,kcp,hkop,⟨p0,p1,p2,p3,p4⟩,hfp⟩:=HX.out.first;subst hkop;obtain⟨opp,hopp⟩:∃ x,x=p.op:=⟨_,rfl⟩
 obtain⟨nmp,hnmp⟩:∃ x,x=p.name:=⟨_,rfl⟩
 rw[<-hopp] at p0 hfp;rw[<-hnmp] at p3 hfp;have HFP:=Lib.hid hfp;have HPC:Hid (At5 x2 a opp bp op lp cp nmp kop klp kcp):=Lib.hid ⟨p0,p1,p2,p3,p4⟩;clear hopp hnmp hfp p0 p1 p2 p3 p4;obtain⟨a2,bq,oq,lq,cq,koq,klq,kcq,hkoq,⟨q0,q1,q2,q3,q4⟩,hfq⟩:=HX.out.second;injection hkoq with ha2;subst ha2;obtain⟨opq,hopq⟩:∃ x,x=q.op:=⟨_,rfl⟩
 obtain⟨nmq,hnmq⟩:∃ x,x=q.name:=⟨_,rfl⟩
 rw[<-hopq] at q0 hfq;rw[<-hnmq] at q3 hfq;have HFQ:=Lib.hid hfq;have HQC:Hid (At5 x2 ⟨a.block,a.off+5,none⟩ opq bq oq lq cq nmq koq klq kcq):=Lib.hid ⟨q0,q1,q2,q3,q4⟩;clear hopq hnmq hfq q0 q1 q2 q3 q4;go_upto_region 11 with fail
 clear e0 fe0 c0 fc0 c1 fc1 c2 fc2 c3 fc3 c4 fc4;have hlt_e:=lt_of_block HBe.out;have hlt_f:=lt_of_block HBf.out;have hog:Hid (∀ q,q<0->(fun q=>0) q<x2.heap.size):=Lib.hid (fun q h=>absurd h (Nat.not_lt_zero _));refine R7.region (by kernel_rfl) [[],[],[1],[1,2],[1,2,3],[0,1,2,3,4],[],[],[7],[7,8],[7,8,9],[0,1,2,3,4,5,6,7,8,9,10],[0,1,2,3,4,5,6,7,8,9,10,11],[0,1,2,3,4,5,6,7,8,9,10,11,12]] [] [] (fun q=>0) 0 14 (by kernel_rfl) (by kernel_rfl) (by rfl) hog.out (fun q q' h h' hn=>absurd hn (by omega)) ?_;refine R7.Chain.det ?_ (by rfl) (fun T xs wr hA=>?_) ?_
 rotate_left 1
 ·have e2:=hA.pre 2 (by kernel_rfl);simp only[gsa,gsc,gsz] at e2;have hBq:wr.heap[ke]?=_:=(hA.bl _ hlt_e (fun q h=>absurd h (Nat.not_lt_zero _))).trans HBe.out;have q0:=cell_at (v:=.slice eo en ec) hBq 0 rfl;clear hBq;clear hA;refine⟨(by rfl),?_⟩;go_simp<;>(try with_reducible rfl)
 refine R7.Chain.det ?_ (by rfl) (fun T xs wr hA=>?_) ?_
 rotate_left 1
 ·have e3:=hA.pre 3 (by kernel_rfl);simp only[gsa,gsc,gsz] at e3;clear hA;refine⟨(by rfl),?_⟩;go_simp<;>(try with_reducible rfl)
 refine R7.Chain.det ?_ (by rfl) (fun T xs wr hA=>?_) ?_
 rotate_left 1
 ·have e50:=hA.tm 1 50 (by rfl) (by rfl);have f50:xs 1=_:=hA.fa 1 (by rfl)
  (try simp (disch:=first | rfl | decide) only [R7.mask_in] at f50)
  rw[f50] at e50;clear f50;have hBq:wr.heap[kf]?=_:=(hA.bl _ hlt_f (fun q h=>absurd h (Nat.not_lt_zero _))).trans HBf.out;have q0:=cell_at (v:=.int .i64 20) hBq 0 rfl;have q1:=cell_at (v:=.bool b) hBq 1 rfl;have q2:=cell_at (v:=.slice ao l c) hBq 2 rfl;have q3:=cell_at (v:=.string nm) hBq 3 rfl;have q4:=cell_at (v:=.slice (some a) 2 kc) hBq 4 rfl;clear hBq;clear hA;refine⟨(by rfl),?_⟩;go_simp<;>(try with_reducible rfl)
 refine R7.Chain.det ?_ (by rfl) (fun T xs wr hA=>?_) ?_
 rotate_left 1
 ·have e51:=hA.tm 2 51 (by rfl) (by rfl);have f51:xs 2=_:=hA.fa 2 (by rfl)
  (try simp (disch:=first | rfl | decide) only [R7.mask_in] at f51)
  rw[f51] at e51;clear f51;clear hA;refine⟨(by rfl),?_⟩;go_simp<;>(try with_reducible rfl)
 refine R7.Chain.det ?_ (by rfl) (fun T xs wr hA=>?_) ?_
 rotate_left 1
 ·have e52:=hA.tm 3 52 (by rfl) (by rfl);have f52:xs 3=_:=hA.fa 3 (by rfl)
  (try simp (disch:=first | rfl | decide) only [R7.mask_in] at f52)
  rw[f52] at e52;clear f52;have hbw:=undrew (hA.be x2.heap.size (Nat.le_refl _) (fun q h=>absurd h (Nat.not_lt_zero q)));obtain⟨q0,q1,q2,q3,q4⟩:=HPC.out.below hbw
  try simp only at q0 q1 q2 q3 q4
  clear hA;refine⟨(by rfl),?_⟩;go_simp<;>(try with_reducible rfl)
 refine R7.Chain.call (fun xs v w=>v=.bool (asB (ev (rho env) p))) (fun _ _ _ _ h _=>h) (fun _ _ _ _ _ h _ _=>h) (by rfl) (fun T xs wr hA=>?_) ?_
 ·have hsw:=(hA.be 0 (Nat.zero_le _) (fun _ _=>Nat.zero_le _)).size;have e49:=hA.tm 0 49 (by rfl) (by rfl);have f49:xs 0=_:=hA.fa 0 (by rfl)
  (try simp (disch:=first | rfl | decide) only [R7.mask_in] at f49)
  rw[f49] at e49;clear f49;have e53:=hA.tm 4 53 (by rfl) (by rfl);have f53:xs 4=_:=hA.fa 4 (by rfl)
  (try simp (disch:=first | rfl | decide) only [R7.mask_in] at f53)
  rw[f53] at e53;clear f53;have hbw:=undrew (hA.be x2.heap.size (Nat.le_refl _) (fun q h=>absurd h (Nat.not_lt_zero q)));have hfq:=HFP.out.below hbw;clear hA;refine⟨(by rfl),fun K hK=>?_⟩;go_simp
  refine (IT _ _ env p S _ hfq (HE.out.below hbw) HRP.out HP.out HSP.out).mono ?_;rintro e w' ⟨rfl,hb'⟩;exact hK.out _ _ rfl hb'
 refine R7.Chain.det ?_ (by rfl) (fun T xs wr hA=>?_) ?_
 rotate_left 1
 ·have e2:=hA.pre 2 (by kernel_rfl);simp only[gsa,gsc,gsz] at e2;have hBq:wr.heap[ke]?=_:=(hA.bl _ hlt_e (fun q h=>absurd h (Nat.not_lt_zero _))).trans HBe.out;have q0:=cell_at (v:=.slice eo en ec) hBq 0 rfl;clear hBq;clear hA;refine⟨(by rfl),?_⟩;go_simp<;>(try with_reducible rfl)
 refine R7.Chain.det ?_ (by rfl) (fun T xs wr hA=>?_) ?_
 rotate_left 1
 ·have e3:=hA.pre 3 (by kernel_rfl);simp only[gsa,gsc,gsz] at e3;clear hA;refine⟨(by rfl),?_⟩;go_simp<;>(try with_reducible rfl)
 refine R7.Chain.det ?_ (by rfl) (fun T xs wr hA=>?_) ?_
 rotate_left 1
 ·have e56:=hA.tm 7 56 (by rfl) (by rfl);have f56:xs 7=_:=hA.fa 7 (by rfl)
  (try simp (disch:=first | rfl | decide) only [R7.mask_in] at f56)
  rw[f56] at e56;clear f56;have hBq:wr.heap[kf]?=_:=(hA.bl _ hlt_f (fun q h=>absurd h (Nat.not_lt_zero _))).trans HBf.out;have q0:=cell_at (v:=.int .i64 20) hBq 0 rfl;have q1:=cell_at (v:=.bool b) hBq 1 rfl;have q2:=cell_at (v:=.slice ao l c) hBq 2 rfl;have q3:=cell_at (v:=.string nm) hBq 3 rfl;have q4:=cell_at (v:=.slice (some a) 2 kc) hBq 4 rfl;clear hBq;clear hA;refine⟨(by rfl),?_⟩;go_simp<;>(try with_reducible rfl)
 refine R7.Chain.det ?_ (by rfl) (fun T xs wr hA=>?_) ?_
 rotate_left 1
 ·have e57:=hA.tm 8 57 (by rfl) (by rfl);have f57:xs 8=_:=hA.fa 8 (by rfl)
  (try simp (disch:=first | rfl | decide) only [R7.mask_in] at f57)
  rw[f57] at e57;clear f57;clear hA;refine⟨(by rfl),?_⟩;go_simp<;>(try with_reducible rfl)
 refine R7.Chain.det ?_ (by rfl) (fun T xs wr hA=>?_) ?_
 rotate_left 1
 ·have e58:=hA.tm 9 58 (by rfl) (by rfl);have f58:xs 9=_:=hA.fa 9 (by rfl)
  (try simp (disch:=first | rfl | decide) only [R7.mask_in] at f58)
  rw[f58] at e58;clear f58;have hbw:=undrew (hA.be x2.heap.size (Nat.le_refl _) (fun q h=>absurd h (Nat.not_lt_zero q)));obtain⟨q0,q1,q2,q3,q4⟩:=HQC.out.below hbw
  try simp only at q0 q1 q2 q3 q4
  clear hA;refine⟨(by rfl),?_⟩;go_simp<;>(try with_reducible rfl)
 refine R7.Chain.call (fun xs v w=>v=.bool (asB (ev (rho env) q))) (fun _ _ _ _ h _=>h) (fun _ _ _ _ _ h _ _=>h) (by rfl) (fun T xs wr hA=>?_) ?_
 ·have hsw:=(hA.be 0 (Nat.zero_le _) (fun _ _=>Nat.zero_le _)).size;have e55:=hA.tm 6 55 (by rfl) (by rfl);have f55:xs 6=_:=hA.fa 6 (by rfl)
  (try simp (disch:=first | rfl | decide) only [R7.mask_in] at f55)
  rw[f55] at e55;clear f55;have e59:=hA.tm 10 59 (by rfl) (by rfl);have f59:xs 10=_:=hA.fa 10 (by rfl)
  (try simp (disch:=first | rfl | decide) only [R7.mask_in] at f59)
  rw[f59] at e59;clear f59;have hbw:=undrew (hA.be x2.heap.size (Nat.le_refl _) (fun q h=>absurd h (Nat.not_lt_zero q)));have hfq:=HFQ.out.below hbw;clear hA;refine⟨(by rfl),fun K hK=>?_⟩;go_simp
  refine (IT _ _ env q S _ hfq (HE.out.below hbw) HRQ.out HQ.out HSQ.out).mono ?_;rintro e w' ⟨rfl,hb'⟩;exact hK.out _ _ rfl hb'
 refine R7.Chain.det ?_ (by rfl) (fun T xs wr hA=>?_) ?_
 rotate_left 1
 ·have e54:=hA.tm 5 54 (by rfl) (by rfl);have f54:xs 5=(.bool (asB (ev (rho env) p))):=hA.fa 5 (by rfl);rw[f54] at e54;clear f54;have e60:=hA.tm 11 60 (by rfl) (by rfl);have f60:xs 11=(.bool (asB (ev (rho env) q))):=hA.fa 11 (by rfl);rw[f60] at e60;clear f60;clear hA;refine⟨(by rfl),?_⟩;go_simp<;>(try with_reducible rfl)
 refine R7.Chain.det ?_ (by rfl) (fun T xs wr hA=>?_) ?_
 rotate_left 1
 ·have e61:=hA.tm 12 61 (by rfl) (by rfl);have f61:xs 12=_:=hA.fa 12 (by rfl)
  (try simp (disch:=first | rfl | decide) only [R7.mask_in] at f61)
  rw[f61] at e61;clear f61;clear hA;refine⟨(by rfl),?_⟩;go_simp<;>(try with_reducible rfl)
 refine R7.Chain.done (fun xs x3 hL=>?_);obtain⟨⟨hbe,hbl⟩,hf,-,-⟩:=hL;have f0:xs 0=_:=hf 0 (by decide)
 (try simp (disch:=first | rfl | decide) only [R7.mask_in] at f0)
 have f1:xs 1=_:=hf 1 (by decide)
 (try simp (disch:=first | rfl | decide) only [R7.mask_in] at f1)
 have f2:xs 2=_:=hf 2 (by decide)
 (try simp (disch:=first | rfl | decide) only [R7.mask_in] at f2)
 have f3:xs 3=_:=hf 3 (by decide)
 (try simp (disch:=first | rfl | decide) only [R7.mask_in] at f3)
 have f4:xs 4=_:=hf 4 (by decide)
 (try simp (disch:=first | rfl | decide) only [R7.mask_in] at f4)
 have f5:xs 5=(.bool (asB (ev (rho env) p))):=hf 5 (by decide);have f6:xs 6=_:=hf 6 (by decide)
 (try simp (disch:=first | rfl | decide) only [R7.mask_in] at f6)
 have f7:xs 7=_:=hf 7 (by decide)
 (try simp (disch:=first | rfl | decide) only [R7.mask_in] at f7)
 have f8:xs 8=_:=hf 8 (by decide)
 (try simp (disch:=first | rfl | decide) only [R7.mask_in] at f8)
 have f9:xs 9=_:=hf 9 (by decide)
 (try simp (disch:=first | rfl | decide) only [R7.mask_in] at f9)
 have f10:xs 10=_:=hf 10 (by decide)
 (try simp (disch:=first | rfl | decide) only [R7.mask_in] at f10)
 have f11:xs 11=(.bool (asB (ev (rho env) q))):=hf 11 (by decide);have f12:xs 12=_:=hf 12 (by decide)
 (try simp (disch:=first | rfl | decide) only [R7.mask_in] at f12)
 have f13:xs 13=_:=hf 13 (by decide)
 (try simp (disch:=first | rfl | decide) only [R7.mask_in] at f13)
 have hb0:Below 0 x2 x3:=undrew (hbe 0 (Nat.zero_le _) (fun _ _=>Nat.zero_le _));have hgr:∀ j,j<x2.heap.size->(∀ q,q<0->(fun q=>0) q≠j)->x3.heap[j]?=x2.heap[j]?:=hbl;clear hbe hbl hf;have hb:Below x2.heap.size x2 x3:=⟨hb0.os,hb0.tape,hb0.output,hb0.size,fun q hq=>hgr q hq (fun q h=>absurd h (Nat.not_lt_zero _))⟩
 refine R7.rest_done ?_;simp only[R7.fill,t5_,t6_,t7_,f0,f1,f2,f3,f4,f5,f6,f7,f8,f9,f10,f11,f12,f13];clear hb0 hgr hog hlt_e hlt_f f0 f1 f2 f3 f4 f5 f6 f7 f8 f9 f10 f11 f12 f13;replace HBe:=kBV hb HBe;replace HBf:=kBV hb HBf;replace HX:=Lib.hid (HX.out.below hb);replace HE:=Lib.hid (HE.out.below hb);replace HW:=Lib.hid (HW.out.trans (hb.mono HW.out.size));replace HFP:=Lib.hid (HFP.out.below hb);replace HPC:=Lib.hid (HPC.out.below hb);replace HFQ:=Lib.hid (HFQ.out.below hb);replace HQC:=Lib.hid (HQC.out.below hb);replace hb:=Lib.hid hb;go_wp2_with fail
 go_ret
 refine⟨?_,HW.out⟩;rw[HEV.out];rfl
attribute [local go_sem] fieldV0 fieldV1 fieldV2 fieldV3
theorem val_step (d:Nat) (IN:NumC d) (IL:LstC d) (IT:TruC d):ValC d:=by
 intro ve v env t S w h he hr hsm;obtain⟨eo,en,ec,rfl⟩:=he.shape
 have hso:srt t.op=0\/srt t.op=1\/srt t.op=2:=by
  unfold srt
  split
  ·exact .inr (.inr rfl)
  split
  ·exact .inr (.inl rfl)
  exact .inl rfl
 rcases hso with hs | hs | hs
 ·have HS:=Lib.hid hs;clear hs;have HT:=Lib.hid h;obtain⟨b,ao,l,c,ko,kl,kc,rfl,-,-,-⟩:=h.open;obtain⟨o,hoo⟩:∃ o,o=t.op:=⟨_,rfl⟩
  obtain⟨nm,hnm⟩:∃ o,o=t.name:=⟨_,rfl⟩
  rw[<-hoo] at HT ⊢;rw[<-hnm] at HT ⊢;have HOO:=Lib.hid hoo;have HE:=Lib.hid he;have HR:=Lib.hid hr;have HSM:=Lib.hid hsm;clear h he hr hsm hoo hnm;have HW:=Lib.hid (Below.refl w.heap.size w);go_enter Tryz.func78,Tryz.ntmps78
  obtain⟨x1,kf,ef,ekf,hbf,hkf,HBf⟩:=newV w #[.int .i64 o,.bool b,.slice ao l c,.string nm,.slice ko kl kc] 29;replace HT:=Lib.hid (HT.out.below hbf.out);replace HE:=Lib.hid (HE.out.below hbf.out);replace HW:=Lib.hid (HW.out.trans (hbf.out.mono HW.out.size));obtain⟨x2,kr,er,ekr,hbr,hkr,HBr⟩:=newV x1 #[.int .i64 0,.bool false,.slice none 0 0,.bool false,.slice none 0 0] 41;replace HBf:=kBV hbr.out HBf;replace HT:=Lib.hid (HT.out.below hbr.out);replace HE:=Lib.hid (HE.out.below hbr.out);replace HW:=Lib.hid (HW.out.trans (hbr.out.mono HW.out.size));have HKr:Hid (w.heap.size<=kr):=Lib.hid (Nat.le_trans hbf.out.size hkr.out);have c0:=cell_at (v:=.int .i64 o) HBf.out 0 rfl;have fc0:=froz_at HBf.out 0;have c1:=cell_at (v:=.bool b) HBf.out 1 rfl;have fc1:=froz_at HBf.out 1;have c2:=cell_at (v:=.slice ao l c) HBf.out 2 rfl
  have fc2:=froz_at HBf.out 2;have c3:=cell_at (v:=.string nm) HBf.out 3 rfl;have fc3:=froz_at HBf.out 3;have c4:=cell_at (v:=.slice ko kl kc) HBf.out 4 rfl;have fc4:=froz_at HBf.out 4;go_wp2_with fail
  refine (sort_p o b ao l c nm ko kl kc x2).mono ?_;rintro e x3 ⟨rfl,hb⟩;clear c0 fc0 c1 fc1 c2 fc2 c3 fc3 c4 fc4;replace HBf:=kBV hb HBf;replace HBr:=kBV hb HBr;replace HT:=Lib.hid (HT.out.below hb);replace HE:=Lib.hid (HE.out.below hb);replace HW:=Lib.hid (HW.out.trans (hb.mono HW.out.size));rw[show srt o=0 from (by rw[HOO.out];exact HS.out)];have c0:=cell_at (v:=.int .i64 o) HBf.out 0 rfl;have fc0:=froz_at HBf.out 0;have c1:=cell_at (v:=.bool b) HBf.out 1 rfl;have fc1:=froz_at HBf.out 1;have c2:=cell_at (v:=.slice ao l c) HBf.out 2 rfl;have fc2:=froz_at HBf.out 2;have c3:=cell_at (v:=.string nm) HBf.out 3 rfl;have fc3:=froz_at HBf.out 3;have c4:=cell_at (v:=.slice ko kl kc) HBf.out 4 rfl;have fc4:=froz_at HBf.out 4;go_wp2_with fail
  refine (IN _ _ env t S x3 HT.out HE.out HR.out HS.out HSM.out).mono ?_;rintro e x4 ⟨x,rfl,hx,hb⟩;clear c0 fc0 c1 fc1 c2 fc2 c3 fc3 c4 fc4;replace HBf:=kBV hb HBf;replace HBr:=kBV hb HBr;replace HT:=Lib.hid (HT.out.below hb);replace HE:=Lib.hid (HE.out.below hb);replace HW:=Lib.hid (HW.out.trans (hb.mono HW.out.size));obtain⟨xb,xo,xl,xc,rfl⟩:=hx.shape;have HC:=Lib.hid hx;clear hx;go_wp2_with fail
  refine (ofInt_p _ _ 600 x4 HC.out.gi (by decide)).mono ?_;rintro e x5 ⟨v,rfl,hv,hb⟩;replace HBf:=kBV hb HBf;replace HBr:=kBV hb HBr;replace HT:=Lib.hid (HT.out.below hb);replace HE:=Lib.hid (HE.out.below hb);replace HW:=Lib.hid (HW.out.trans (hb.mono HW.out.size));obtain⟨o2,l2,c2,rfl,hn⟩:=hv.int;have HV:=Lib.hid hv;clear hv hn;obtain⟨⟨r0,r1,r2,r3,r4⟩,fr0,fr1,fr2,fr3,fr4⟩:=cells5V HBr.out;go_wp2_with fail
  obtain⟨s1,s2⟩:=res5V HW.out HBr.out n32_5 HKr.out (.int .i64 0) (.bool (decide (asI (ev (rho env) t)<0))) (.slice o2 l2 c2) (.bool false) (.slice none 0 0)
  (try simp only[Exit.inBlock,Exit.then])
  exact bodyPost_ret (v:=.agg #[.int .i64 0,.bool (decide (asI (ev (rho env) t)<0)),.slice o2 l2 c2,.bool false,.slice none 0 0]) (by simp[results,Tryz.results78,go_sem,r0,r1,r2,r3,r4]) rfl ⟨_,rfl,(show VC _ _ (ev (rho env) t) from by rw[ev_int HS.out];exact HV.out).fr (by decide) s1,s2⟩
 ·have HS:=Lib.hid hs;clear hs;have HT:=Lib.hid h;obtain⟨b,ao,l,c,ko,kl,kc,rfl,-,-,-⟩:=h.open;obtain⟨o,hoo⟩:∃ o,o=t.op:=⟨_,rfl⟩
  obtain⟨nm,hnm⟩:∃ o,o=t.name:=⟨_,rfl⟩
  rw[<-hoo] at HT ⊢;rw[<-hnm] at HT ⊢;have HOO:=Lib.hid hoo;have HE:=Lib.hid he;have HR:=Lib.hid hr;have HSM:=Lib.hid hsm;clear h he hr hsm hoo hnm;have HW:=Lib.hid (Below.refl w.heap.size w);go_enter Tryz.func78,Tryz.ntmps78
  obtain⟨x1,kf,ef,ekf,hbf,hkf,HBf⟩:=newV w #[.int .i64 o,.bool b,.slice ao l c,.string nm,.slice ko kl kc] 29;replace HT:=Lib.hid (HT.out.below hbf.out);replace HE:=Lib.hid (HE.out.below hbf.out);replace HW:=Lib.hid (HW.out.trans (hbf.out.mono HW.out.size));obtain⟨x2,kr,er,ekr,hbr,hkr,HBr⟩:=newV x1 #[.int .i64 0,.bool false,.slice none 0 0,.bool false,.slice none 0 0] 41;replace HBf:=kBV hbr.out HBf;replace HT:=Lib.hid (HT.out.below hbr.out);replace HE:=Lib.hid (HE.out.below hbr.out);replace HW:=Lib.hid (HW.out.trans (hbr.out.mono HW.out.size));have HKr:Hid (w.heap.size<=kr):=Lib.hid (Nat.le_trans hbf.out.size hkr.out);have c0:=cell_at (v:=.int .i64 o) HBf.out 0 rfl;have fc0:=froz_at HBf.out 0;have c1:=cell_at (v:=.bool b) HBf.out 1 rfl;have fc1:=froz_at HBf.out 1;have c2:=cell_at (v:=.slice ao l c) HBf.out 2 rfl
  have fc2:=froz_at HBf.out 2;have c3:=cell_at (v:=.string nm) HBf.out 3 rfl;have fc3:=froz_at HBf.out 3;have c4:=cell_at (v:=.slice ko kl kc) HBf.out 4 rfl;have fc4:=froz_at HBf.out 4;go_wp2_with fail
  refine (sort_p o b ao l c nm ko kl kc x2).mono ?_;rintro e x3 ⟨rfl,hb⟩;clear c0 fc0 c1 fc1 c2 fc2 c3 fc3 c4 fc4;replace HBf:=kBV hb HBf;replace HBr:=kBV hb HBr;replace HT:=Lib.hid (HT.out.below hb);replace HE:=Lib.hid (HE.out.below hb);replace HW:=Lib.hid (HW.out.trans (hb.mono HW.out.size));rw[show srt o=1 from (by rw[HOO.out];exact HS.out)];have c0:=cell_at (v:=.int .i64 o) HBf.out 0 rfl;have fc0:=froz_at HBf.out 0;have c1:=cell_at (v:=.bool b) HBf.out 1 rfl;have fc1:=froz_at HBf.out 1;have c2:=cell_at (v:=.slice ao l c) HBf.out 2 rfl;have fc2:=froz_at HBf.out 2;have c3:=cell_at (v:=.string nm) HBf.out 3 rfl;have fc3:=froz_at HBf.out 3;have c4:=cell_at (v:=.slice ko kl kc) HBf.out 4 rfl;have fc4:=froz_at HBf.out 4;go_wp2_with fail
  refine (IT _ _ env t S x3 HT.out HE.out HR.out HS.out HSM.out).mono ?_;rintro e x4 ⟨rfl,hb⟩;clear c0 fc0 c1 fc1 c2 fc2 c3 fc3 c4 fc4;replace HBf:=kBV hb HBf;replace HBr:=kBV hb HBr;replace HT:=Lib.hid (HT.out.below hb);replace HE:=Lib.hid (HE.out.below hb);replace HW:=Lib.hid (HW.out.trans (hb.mono HW.out.size));go_wp2_with fail
  refine (ofBool_p _ x4).mono ?_;rintro e x5 ⟨v,rfl,hv,hb⟩;replace HBf:=kBV hb HBf;replace HBr:=kBV hb HBr;replace HT:=Lib.hid (HT.out.below hb);replace HE:=Lib.hid (HE.out.below hb);replace HW:=Lib.hid (HW.out.trans (hb.mono HW.out.size));have hv1:=hv.bool;subst hv1;have HV:=Lib.hid hv;clear hv;obtain⟨⟨r0,r1,r2,r3,r4⟩,fr0,fr1,fr2,fr3,fr4⟩:=cells5V HBr.out;go_wp2_with fail
  obtain⟨s1,s2⟩:=res5V HW.out HBr.out n32_5 HKr.out (.int .i64 1) (.bool false) (.slice none 0 0) (.bool (asB (ev (rho env) t))) (.slice none 0 0)
  (try simp only[Exit.inBlock,Exit.then])
  exact bodyPost_ret (v:=.agg #[.int .i64 1,.bool false,.slice none 0 0,.bool (asB (ev (rho env) t)),.slice none 0 0]) (by simp[results,Tryz.results78,go_sem,r0,r1,r2,r3,r4]) rfl ⟨_,rfl,(show VC _ _ (ev (rho env) t) from by rw[ev_bool HS.out];exact HV.out).fr (by decide) s1,s2⟩
 have HS:=Lib.hid hs;clear hs;have HT:=Lib.hid h;obtain⟨b,ao,l,c,ko,kl,kc,rfl,-,-,-⟩:=h.open;obtain⟨o,hoo⟩:∃ o,o=t.op:=⟨_,rfl⟩
 obtain⟨nm,hnm⟩:∃ o,o=t.name:=⟨_,rfl⟩
 rw[<-hoo] at HT ⊢;rw[<-hnm] at HT ⊢;have HOO:=Lib.hid hoo;have HE:=Lib.hid he;have HR:=Lib.hid hr;have HSM:=Lib.hid hsm;clear h he hr hsm hoo hnm;have HW:=Lib.hid (Below.refl w.heap.size w);go_enter Tryz.func78,Tryz.ntmps78
 obtain⟨x1,kf,ef,ekf,hbf,hkf,HBf⟩:=newV w #[.int .i64 o,.bool b,.slice ao l c,.string nm,.slice ko kl kc] 29;replace HT:=Lib.hid (HT.out.below hbf.out);replace HE:=Lib.hid (HE.out.below hbf.out);replace HW:=Lib.hid (HW.out.trans (hbf.out.mono HW.out.size));obtain⟨x2,kr,er,ekr,hbr,hkr,HBr⟩:=newV x1 #[.int .i64 0,.bool false,.slice none 0 0,.bool false,.slice none 0 0] 41;replace HBf:=kBV hbr.out HBf;replace HT:=Lib.hid (HT.out.below hbr.out);replace HE:=Lib.hid (HE.out.below hbr.out);replace HW:=Lib.hid (HW.out.trans (hbr.out.mono HW.out.size));have HKr:Hid (w.heap.size<=kr):=Lib.hid (Nat.le_trans hbf.out.size hkr.out);have c0:=cell_at (v:=.int .i64 o) HBf.out 0 rfl;have fc0:=froz_at HBf.out 0;have c1:=cell_at (v:=.bool b) HBf.out 1 rfl;have fc1:=froz_at HBf.out 1;have c2:=cell_at (v:=.slice ao l c) HBf.out 2 rfl
 have fc2:=froz_at HBf.out 2;have c3:=cell_at (v:=.string nm) HBf.out 3 rfl;have fc3:=froz_at HBf.out 3;have c4:=cell_at (v:=.slice ko kl kc) HBf.out 4 rfl;have fc4:=froz_at HBf.out 4;go_wp2_with fail
 refine (sort_p o b ao l c nm ko kl kc x2).mono ?_;rintro e x3 ⟨rfl,hb⟩;clear c0 fc0 c1 fc1 c2 fc2 c3 fc3 c4 fc4;replace HBf:=kBV hb HBf;replace HBr:=kBV hb HBr;replace HT:=Lib.hid (HT.out.below hb);replace HE:=Lib.hid (HE.out.below hb);replace HW:=Lib.hid (HW.out.trans (hb.mono HW.out.size));rw[show srt o=2 from (by rw[HOO.out];exact HS.out)];have c0:=cell_at (v:=.int .i64 o) HBf.out 0 rfl;have fc0:=froz_at HBf.out 0;have c1:=cell_at (v:=.bool b) HBf.out 1 rfl;have fc1:=froz_at HBf.out 1;have c2:=cell_at (v:=.slice ao l c) HBf.out 2 rfl;have fc2:=froz_at HBf.out 2;have c3:=cell_at (v:=.string nm) HBf.out 3 rfl;have fc3:=froz_at HBf.out 3;have c4:=cell_at (v:=.slice ko kl kc) HBf.out 4 rfl;have fc4:=froz_at HBf.out 4;go_wp2_with fail
 refine (IL _ _ env t S x3 HT.out HE.out HR.out HS.out HSM.out).mono ?_;rintro e x4 ⟨x,rfl,hx,hb⟩;clear c0 fc0 c1 fc1 c2 fc2 c3 fc3 c4 fc4;replace HBf:=kBV hb HBf;replace HBr:=kBV hb HBr;replace HT:=Lib.hid (HT.out.below hb);replace HE:=Lib.hid (HE.out.below hb);replace HW:=Lib.hid (HW.out.trans (hb.mono HW.out.size));have HNL:=Lib.hid hx;clear hx;obtain⟨xo,xc,rfl,-,-⟩:=HNL.out.form;go_wp2_with fail
 refine (ofList_p _ _ x4 HNL.out (by have:=(sm_list HS.out HSM.out).1;omega)).mono ?_;rintro e x5 ⟨v,rfl,hv,hb⟩;replace HBf:=kBV hb HBf;replace HBr:=kBV hb HBr;replace HT:=Lib.hid (HT.out.below hb);replace HE:=Lib.hid (HE.out.below hb);replace HW:=Lib.hid (HW.out.trans (hb.mono HW.out.size));obtain⟨o2,l2,c2,rfl,hn⟩:=hv.list;have HV:=Lib.hid hv;clear hv hn;obtain⟨⟨r0,r1,r2,r3,r4⟩,fr0,fr1,fr2,fr3,fr4⟩:=cells5V HBr.out;go_wp2_with fail
 obtain⟨s1,s2⟩:=res5V HW.out HBr.out n32_5 HKr.out (.int .i64 2) (.bool false) (.slice none 0 0) (.bool false) (.slice o2 l2 c2)
 (try simp only[Exit.inBlock,Exit.then])
 exact bodyPost_ret (v:=.agg #[.int .i64 2,.bool false,.slice none 0 0,.bool false,.slice o2 l2 c2]) (by simp[results,Tryz.results78,go_sem,r0,r1,r2,r3,r4]) rfl ⟨_,rfl,(show VC _ _ (ev (rho env) t) from by rw[ev_list HS.out];exact HV.out).fr (by decide) s1,s2⟩
theorem eval_all (d:Nat):NumC d/\LstC d/\TruC d/\ValC d:=by
 induction d with
 | zero =>
  have no:∀ {v:Value} {t:F} {S:Nat->Prop} {w:World},FC w S 0 v t->False:=fun h=>by obtain⟨_,_,_,_,_,_,_,_,_,h0,_⟩:=h.open;omega
  exact⟨fun _ _ _ _ _ _ h=>absurd h no,fun _ _ _ _ _ _ h=>absurd h no,fun _ _ _ _ _ _ h=>absurd h no,fun _ _ _ _ _ _ h=>absurd h no⟩
 | succ d ih =>
  obtain⟨h1,h2,h3,h4⟩:=ih;have n:=num_step d h1 h2;have l:=lst_step d h1 h2;have t:=tru_step d h1 h3 h4;exact⟨n,l,t,val_step (d+1) n l t⟩
theorem VC.shape {w:World} {v:Value} {x:V} (h:VC w v x):∃ k b o l c p m q,v=.agg #[.int .i64 k,.bool b,.slice o l c,.bool (asB x),.slice p m q]:=by
 cases x with
 | I z=>obtain⟨o,l,c,rfl,-⟩:=h.int;exact⟨_,_,_,_,_,_,_,_,rfl⟩
 | B b=>have:=h.bool;subst this;exact⟨_,_,_,_,_,_,_,_,rfl⟩
 | L l=>obtain⟨o,l',c,rfl,-⟩:=h.list;exact⟨_,_,_,_,_,_,_,_,rfl⟩
theorem eval_p (d:Nat) (ve v:Value) (env:List (ByteArray × V)) (t:F) (S:Nat->Prop) (w:World) (h:FC w S d v t) (he:EL w ve env) (hr:rt t=true) (hsm:Sm (rho env) t) :
  Calls Tryz.prog 46 #[v,ve] w fun e w'=>∃ x,e=.returned x/\VC w' x (ev (rho env) t)/\Below w.heap.size w w':=by
 obtain⟨eo,en,ec,rfl⟩:=he.shape;have HT:=Lib.hid h;obtain⟨b,ao,l,c,ko,kl,kc,rfl,-,-,-⟩:=h.open;obtain⟨o,hoo⟩:∃ o,o=t.op:=⟨_,rfl⟩
 obtain⟨nm,hnm⟩:∃ o,o=t.name:=⟨_,rfl⟩
 rw[<-hoo] at HT ⊢;rw[<-hnm] at HT ⊢;have HOO:=Lib.hid hoo;have HE:=Lib.hid he;have HR:=Lib.hid hr;have HSM:=Lib.hid hsm;clear h he hr hsm hoo hnm;have HW:=Lib.hid (Below.refl w.heap.size w);go_enter Tryz.func46,Tryz.ntmps46
 obtain⟨x1,kf,ef,ekf,hbf,hkf,HBf⟩:=newV w #[.int .i64 o,.bool b,.slice ao l c,.string nm,.slice ko kl kc] 29;replace HT:=Lib.hid (HT.out.below hbf.out);replace HE:=Lib.hid (HE.out.below hbf.out);replace HW:=Lib.hid (HW.out.trans (hbf.out.mono HW.out.size));obtain⟨x2,kr,er,ekr,hbr,hkr,HBr⟩:=newV x1 #[.int .i64 0,.bool false,.slice none 0 0,.bool false,.slice none 0 0] 41;replace HBf:=kBV hbr.out HBf;replace HT:=Lib.hid (HT.out.below hbr.out);replace HE:=Lib.hid (HE.out.below hbr.out);replace HW:=Lib.hid (HW.out.trans (hbr.out.mono HW.out.size));have HKr:Hid (w.heap.size<=kr):=Lib.hid (Nat.le_trans hbf.out.size hkr.out);have c0:=cell_at (v:=.int .i64 o) HBf.out 0 rfl;have fc0:=froz_at HBf.out 0;have c1:=cell_at (v:=.bool b) HBf.out 1 rfl;have fc1:=froz_at HBf.out 1;have c2:=cell_at (v:=.slice ao l c) HBf.out 2 rfl
 have fc2:=froz_at HBf.out 2;have c3:=cell_at (v:=.string nm) HBf.out 3 rfl;have fc3:=froz_at HBf.out 3;have c4:=cell_at (v:=.slice ko kl kc) HBf.out 4 rfl;have fc4:=froz_at HBf.out 4;go_wp2_with fail
 refine (right_p d _ t S x2 HT.out).mono ?_;rintro e x3 ⟨rfl,hb⟩;clear c0 fc0 c1 fc1 c2 fc2 c3 fc3 c4 fc4;replace HBf:=kBV hb HBf;replace HBr:=kBV hb HBr;replace HT:=Lib.hid (HT.out.below hb);replace HE:=Lib.hid (HE.out.below hb);replace HW:=Lib.hid (HW.out.trans (hb.mono HW.out.size));rw[HR.out];have c0:=cell_at (v:=.int .i64 o) HBf.out 0 rfl;have fc0:=froz_at HBf.out 0;have c1:=cell_at (v:=.bool b) HBf.out 1 rfl;have fc1:=froz_at HBf.out 1;have c2:=cell_at (v:=.slice ao l c) HBf.out 2 rfl;have fc2:=froz_at HBf.out 2;have c3:=cell_at (v:=.string nm) HBf.out 3 rfl;have fc3:=froz_at HBf.out 3;have c4:=cell_at (v:=.slice ko kl kc) HBf.out 4 rfl;have fc4:=froz_at HBf.out 4;go_wp2_with fail
 refine ((eval_all d).2.2.2 _ _ env t S x3 HT.out HE.out HR.out HSM.out).mono ?_;rintro e x4 ⟨x,rfl,hx,hb⟩;clear c0 fc0 c1 fc1 c2 fc2 c3 fc3 c4 fc4;replace HBf:=kBV hb HBf;replace HBr:=kBV hb HBr;replace HT:=Lib.hid (HT.out.below hb);replace HE:=Lib.hid (HE.out.below hb);replace HW:=Lib.hid (HW.out.trans (hb.mono HW.out.size));obtain⟨k1,b1,o1,l1,c1,p1,m1,q1,rfl⟩:=hx.shape;have HV:=Lib.hid hx;clear hx;obtain⟨⟨r0,r1,r2,r3,r4⟩,fr0,fr1,fr2,fr3,fr4⟩:=cells5V HBr.out;go_wp2_with fail
 obtain⟨s1,s2⟩:=res5V HW.out HBr.out n32_5 HKr.out (.int .i64 k1) (.bool b1) (.slice o1 l1 c1) (.bool (asB (ev (rho env) t))) (.slice p1 m1 q1)
 (try simp only[Exit.inBlock,Exit.then])
 exact bodyPost_ret (v:=.agg #[.int .i64 k1,.bool b1,.slice o1 l1 c1,.bool (asB (ev (rho env) t)),.slice p1 m1 q1]) (by simp[results,Tryz.results46,go_sem,r0,r1,r2,r3,r4]) rfl ⟨_,rfl,(HV.out).fr (by decide) s1,s2⟩
theorem holds_p (d:Nat) (ve v:Value) (env:List (ByteArray × V)) (t:F) (S:Nat->Prop) (w:World) (h:FC w S d v t) (he:EL w ve env) (hr:rt t=true) (hsm:Sm (rho env) t) :
  Calls Tryz.prog 15 #[v,ve] w fun e w'=>e=.returned (.bool (asB (ev (rho env) t)))/\Below w.heap.size w w':=by
 obtain⟨eo,en,ec,rfl⟩:=he.shape;have HT:=Lib.hid h;obtain⟨b,ao,l,c,ko,kl,kc,rfl,-,-,-⟩:=h.open;obtain⟨o,hoo⟩:∃ o,o=t.op:=⟨_,rfl⟩
 obtain⟨nm,hnm⟩:∃ o,o=t.name:=⟨_,rfl⟩
 rw[<-hoo] at HT ⊢;rw[<-hnm] at HT ⊢;have HOO:=Lib.hid hoo;have HE:=Lib.hid he;have HR:=Lib.hid hr;have HSM:=Lib.hid hsm;clear h he hr hsm hoo hnm;have HW:=Lib.hid (Below.refl w.heap.size w);go_enter Tryz.func15,Tryz.ntmps15
 obtain⟨x1,kf,ef,ekf,hbf,hkf,HBf⟩:=newV w #[.int .i64 o,.bool b,.slice ao l c,.string nm,.slice ko kl kc] 29;replace HT:=Lib.hid (HT.out.below hbf.out);replace HE:=Lib.hid (HE.out.below hbf.out);replace HW:=Lib.hid (HW.out.trans (hbf.out.mono HW.out.size));have c0:=cell_at (v:=.int .i64 o) HBf.out 0 rfl;have fc0:=froz_at HBf.out 0;have c1:=cell_at (v:=.bool b) HBf.out 1 rfl;have fc1:=froz_at HBf.out 1;have c2:=cell_at (v:=.slice ao l c) HBf.out 2 rfl;have fc2:=froz_at HBf.out 2;have c3:=cell_at (v:=.string nm) HBf.out 3 rfl;have fc3:=froz_at HBf.out 3;have c4:=cell_at (v:=.slice ko kl kc) HBf.out 4 rfl;have fc4:=froz_at HBf.out 4;go_wp2_with fail
 refine (eval_p d _ _ env t S x1 HT.out HE.out HR.out HSM.out).mono ?_;rintro e x2 ⟨x,rfl,hx,hb⟩;clear c0 fc0 c1 fc1 c2 fc2 c3 fc3 c4 fc4;replace HBf:=kBV hb HBf;replace HT:=Lib.hid (HT.out.below hb);replace HE:=Lib.hid (HE.out.below hb);replace HW:=Lib.hid (HW.out.trans (hb.mono HW.out.size));obtain⟨k1,b1,o1,l1,c1,p1,m1,q1,rfl⟩:=hx.shape;clear hx;go_wp2_with fail
 go_ret
 exact⟨rfl,HW.out⟩
attribute [local go_sem] fieldV0 fieldV1 fieldV2 fieldV3
def tS:Nat->Prop:=fun _=>True
theorem FC.t {w:World} {S:Nat->Prop} {d:Nat} {v:Value} {t:F} (h:FC w S d v t):FC w tS d v t:=h.mono fun _ _=>trivial
theorem FC.lt {w:World} {S:Nat->Prop} {d:Nat} {v:Value} {t:F} (h:FC w S d v t):FC w (fun b=>b<w.heap.size) d v t:=by
 obtain⟨u,h1,h2⟩:=h;exact⟨u,h1,h2.lt.mono fun _ h=>h.2⟩
theorem FC.put {w w':World} {d k:Nat} {v:Value} {t:F} (h:FC w (fun b=>b≠k) d v t) (hg:w.grownBy w' (some k)) {e:TypeId} (hf:Fr e w w'):FC w' (fun b=>b≠k) d v t:=
 h.grown hg (KN.of_fr hf) (fun b hb e=>hb (by injection e with e;exact e.symm))
theorem FC.unit5 {w:World} {S:Nat->Prop} {d:Nat} {v0 v1 v2 v3 v4:Value} {t:F} (h:FC w S d (.agg #[v0,v1,v2,v3,v4]) t):∃ u:FU,fC u=[v0,v1,v2,v3,v4]/\FT w S d u t:=by
 obtain⟨u,e,h⟩:=h;refine⟨u,?_,h⟩;unfold fV at e;injection e with e;unfold fC;have:=congrArg Array.toList e
 simpa using this.symm
theorem FL.two {w:World} {S:Nat->Prop} {d g:Nat} {v0 v1 v2 v3 v4 u0 u1 u2 u3 u4:Value} {t s:F} (hB:w.heap[g]?=some (.cells #[v0,v1,v2,v3,v4,u0,u1,u2,u3,u4] 29 (0,0))) (hS:S g) (h:FC w S d (.agg #[v0,v1,v2,v3,v4]) t) (k:FC w S d (.agg #[u0,u1,u2,u3,u4]) s):FL w S d (.slice (some ⟨g,0,none⟩) 2 2) [t,s]:=by
 obtain⟨u,hu,hT⟩:=h.unit5;obtain⟨x,hx,hX⟩:=k.unit5;refine⟨[(u,t),(x,s)],⟨_,_,rfl,⟨Nat.le_refl _,by decide,fun h=>by cases h⟩,fun _ a ha=>by injection ha with ha;subst ha;exact hS,fun i hi=>?_⟩,rfl⟩;have hi2:i=0\/i=1:=by simp at hi;omega
 rcases hi2 with rfl | rfl
 ·refine⟨⟨_,rfl,fun j v hj=>?_⟩,hT⟩;have hj2:(fC u)[j]?=some v:=hj;rw[hu] at hj2;rw[add_litV,add_litV,show 0+0*(fE d).n+j=j by omega,cell_of_row w g _ _ _ _ hB];have hlt:j<5:=by have:=(List.getElem?_eq_some_iff.1 hj2).1;simpa using this
  have:([v0,v1,v2,v3,v4]++[u0,u1,u2,u3,u4])[j]?=some v:=by rw[List.getElem?_append_left (by simpa using hlt)];exact hj2
  simpa using this
 refine⟨⟨_,rfl,fun j v hj=>?_⟩,hX⟩;have hj2:(fC x)[j]?=some v:=hj;rw[hx] at hj2;rw[add_litV,add_litV,show 0+1*(fE d).n+j=5+j from by show 0+1*5+j=5+j;omega,cell_of_row w g _ _ _ _ hB];have:([v0,v1,v2,v3,v4]++[u0,u1,u2,u3,u4])[5+j]?=some v:=by rw[List.getElem?_append_right (by simp)];simpa using hj2
 simpa using this
theorem res5F {w0 w:World} {k:Nat} {c:Array Value} (hb:Below w0.heap.size w0 w) (hB:w.heap[k]?=some (.cells c 29 (0,0))) (h32:N32 c.toList) (hk:w0.heap.size<=k) (v0 v1 v2 v3 v4:Value) :
  Fr 29 w (((((w.setCell ⟨k,0,none⟩ v0).setCell ⟨k,1,none⟩ v1).setCell ⟨k,2,none⟩ v2).setCell ⟨k,3,none⟩ v3).setCell ⟨k,4,none⟩ v4)/\Below w0.heap.size w0 (((((w.setCell ⟨k,0,none⟩ v0).setCell ⟨k,1,none⟩ v1).setCell ⟨k,2,none⟩ v2).setCell ⟨k,3,none⟩ v3).setCell ⟨k,4,none⟩ v4):=
 ⟨.of_grown (grown5V v0 v1 v2 v3 v4) (fun g hg=>by injection hg with hg;subst hg;exact⟨_,hB,h32⟩),hb.trans ((grown_belowV (grown5V v0 v1 v2 v3 v4) (Nat.le_of_lt (by have:=lt_of_block hB;omega)) hk).mono (Nat.le_refl _))⟩
def opVar (b:Int):Int:=if b=1 then 14 else if b=2 then 8 else 1
theorem var_p (nm:ByteArray) (b:Int) (w:World) :
  Calls Tryz.prog 28 #[.string nm,.int .i64 b] w fun e w'=>e=.returned (.agg #[.int .i64 (opVar b),.bool false,.slice none 0 0,.string nm,.slice none 0 0])/\Below w.heap.size w w':=by
 have hb:b=1\/b=2\/(b≠1/\b≠2):=by omega
 rcases hb with rfl | rfl | ⟨h1,h2⟩
 ·have HW:=Lib.hid (Below.refl w.heap.size w);go_enter Tryz.func28,Tryz.ntmps28
  obtain⟨x1,kr,er,ekr,hbr,hkr,HBr⟩:=newV w #[.int .i64 0,.bool false,.slice none 0 0,.string ⟨#[]⟩,.slice none 0 0] 29;replace HW:=Lib.hid (HW.out.trans (hbr.out.mono HW.out.size));have HKr:Hid (w.heap.size<=kr):=hkr;obtain⟨⟨r0,r1,r2,r3,r4⟩,fr0,fr1,fr2,fr3,fr4⟩:=cells5V HBr.out;go_wp2_with fail
  obtain⟨s1,s2⟩:=res5F HW.out HBr.out n32_F HKr.out (.int .i64 14) (.bool false) (.slice none 0 0) (.string nm) (.slice none 0 0)
  (try simp only[Exit.inBlock,Exit.then])
  exact bodyPost_ret (v:=.agg #[.int .i64 14,.bool false,.slice none 0 0,.string nm,.slice none 0 0]) (by simp[results,Tryz.results28,go_sem,r0,r1,r2,r3,r4]) rfl ⟨rfl,s2⟩
 ·have HW:=Lib.hid (Below.refl w.heap.size w);go_enter Tryz.func28,Tryz.ntmps28
  obtain⟨x1,kr,er,ekr,hbr,hkr,HBr⟩:=newV w #[.int .i64 0,.bool false,.slice none 0 0,.string ⟨#[]⟩,.slice none 0 0] 29;replace HW:=Lib.hid (HW.out.trans (hbr.out.mono HW.out.size));have HKr:Hid (w.heap.size<=kr):=hkr;obtain⟨⟨r0,r1,r2,r3,r4⟩,fr0,fr1,fr2,fr3,fr4⟩:=cells5V HBr.out;go_wp2_with fail
  obtain⟨s1,s2⟩:=res5F HW.out HBr.out n32_F HKr.out (.int .i64 8) (.bool false) (.slice none 0 0) (.string nm) (.slice none 0 0)
  (try simp only[Exit.inBlock,Exit.then])
  exact bodyPost_ret (v:=.agg #[.int .i64 8,.bool false,.slice none 0 0,.string nm,.slice none 0 0]) (by simp[results,Tryz.results28,go_sem,r0,r1,r2,r3,r4]) rfl ⟨rfl,s2⟩
 have HW:=Lib.hid (Below.refl w.heap.size w);have n1:(b==1)=false:=beq_eq_false_iff_ne.2 h1;have n2:(b==2)=false:=beq_eq_false_iff_ne.2 h2;have ho:opVar b=1:=by unfold opVar;rw[if_neg h1,if_neg h2]
 rw[ho];clear h1 h2 ho;go_enter Tryz.func28,Tryz.ntmps28
 obtain⟨x1,kr,er,ekr,hbr,hkr,HBr⟩:=newV w #[.int .i64 0,.bool false,.slice none 0 0,.string ⟨#[]⟩,.slice none 0 0] 29;replace HW:=Lib.hid (HW.out.trans (hbr.out.mono HW.out.size));have HKr:Hid (w.heap.size<=kr):=hkr;obtain⟨⟨r0,r1,r2,r3,r4⟩,fr0,fr1,fr2,fr3,fr4⟩:=cells5V HBr.out;go_wp2_with fail
 obtain⟨s1,s2⟩:=res5F HW.out HBr.out n32_F HKr.out (.int .i64 1) (.bool false) (.slice none 0 0) (.string nm) (.slice none 0 0)
 (try simp only[Exit.inBlock,Exit.then])
 exact bodyPost_ret (v:=.agg #[.int .i64 1,.bool false,.slice none 0 0,.string nm,.slice none 0 0]) (by simp[results,Tryz.results28,go_sem,r0,r1,r2,r3,r4]) rfl ⟨rfl,s2⟩
theorem int_p (n:Int) (w:World) (h1 : -9223372036854775808<=n) (h2:n<=9223372036854775807) :
  Calls Tryz.prog 12 #[.int .i64 n] w fun e w'=>∃ b o l c,e=.returned (.agg #[.int .i64 0,.bool b,.slice o l c,.string ⟨#[]⟩,.slice none 0 0])/\CI w' (.agg #[.bool b,.slice o l c]) n 600/\Below w.heap.size w w':=by
 have HW:=Lib.hid (Below.refl w.heap.size w);go_enter Tryz.func12,Tryz.ntmps12
 obtain⟨x1,kr,er,ekr,hbr,hkr,HBr⟩:=newV w #[.int .i64 0,.bool false,.slice none 0 0,.string ⟨#[]⟩,.slice none 0 0] 29;replace HW:=Lib.hid (HW.out.trans (hbr.out.mono HW.out.size));have HKr:Hid (w.heap.size<=kr):=hkr;go_wp2_with fail
 refine (wof_any n x1 h1 h2).mono ?_;rintro e x2 ⟨x,rfl,hx,hb⟩;replace HBr:=kBV hb HBr;replace HW:=Lib.hid (HW.out.trans (hb.mono HW.out.size));obtain⟨b1,o1,l1,c1,rfl⟩:=hx.shape;have HV:=Lib.hid (hx.mono (k':=600) (by decide));clear hx;obtain⟨⟨r0,r1,r2,r3,r4⟩,fr0,fr1,fr2,fr3,fr4⟩:=cells5V HBr.out;go_wp2_with fail
 obtain⟨s1,s2⟩:=res5F HW.out HBr.out n32_F HKr.out (.int .i64 0) (.bool b1) (.slice o1 l1 c1) (.string ⟨#[]⟩) (.slice none 0 0)
 (try simp only[Exit.inBlock,Exit.then])
 exact bodyPost_ret (v:=.agg #[.int .i64 0,.bool b1,.slice o1 l1 c1,.string ⟨#[]⟩,.slice none 0 0]) (by simp[results,Tryz.results12,go_sem,r0,r1,r2,r3,r4]) rfl ⟨_,_,_,_,rfl,HV.out.fr s1,s2⟩
theorem of_p (o:Int) (ko:Option Addr) (kl kc:Nat) (w:World) :
  Calls Tryz.prog 61 #[.int .i64 o,.slice ko kl kc] w fun e w'=>e=.returned (.agg #[.int .i64 o,.bool false,.slice none 0 0,.string ⟨#[]⟩,.slice ko kl kc])/\Below w.heap.size w w':=by
 have HW:=Lib.hid (Below.refl w.heap.size w);go_enter Tryz.func61,Tryz.ntmps61
 obtain⟨x1,kr,er,ekr,hbr,hkr,HBr⟩:=newV w #[.int .i64 0,.bool false,.slice none 0 0,.string ⟨#[]⟩,.slice none 0 0] 29;replace HW:=Lib.hid (HW.out.trans (hbr.out.mono HW.out.size));have HKr:Hid (w.heap.size<=kr):=hkr;obtain⟨⟨r0,r1,r2,r3,r4⟩,fr0,fr1,fr2,fr3,fr4⟩:=cells5V HBr.out;go_wp2_with fail
 obtain⟨s1,s2⟩:=res5F HW.out HBr.out n32_F HKr.out (.int .i64 o) (.bool false) (.slice none 0 0) (.string ⟨#[]⟩) (.slice ko kl kc)
 (try simp only[Exit.inBlock,Exit.then])
 exact bodyPost_ret (v:=.agg #[.int .i64 o,.bool false,.slice none 0 0,.string ⟨#[]⟩,.slice ko kl kc]) (by simp[results,Tryz.results61,go_sem,r0,r1,r2,r3,r4]) rfl ⟨rfl,s2⟩
attribute [local go_sem] fieldV0 fieldV1 fieldV2 fieldV3
theorem size_p (d:Nat):∀ (v:Value) (t:F) (S:Nat->Prop) (w:World),FC w S d v t->szF t<=1000000 ->
  Calls Tryz.prog 18 #[v] w fun e w'=>e=.returned (.int .i64 (szF t:Nat))/\Below w.heap.size w w':=by
 induction d with
 | zero=>intro v t S w h;obtain⟨_,_,_,_,_,_,_,_,_,h0,_⟩:=h.open;omega
 | succ d ih =>
  intro v t S w h hsz;obtain⟨b,ao,l,c,ko,kl,kc,rfl,⟨hr,hz,hkl,hkc,hkm⟩,-,hk⟩:=h.open;obtain⟨o,z,nm,ks⟩:=t;simp only[F.op,F.num,F.name,F.kids] at hr hz hk hkl ⊢;obtain⟨n,hn⟩:∃ n,n=ks.length:=⟨_,rfl⟩
  rw[<-hn] at hkl;subst hkl;have HN:=Lib.hid hn;have HSZ:=Lib.hid hsz;clear hn hr hz h hsz;have HX:=Lib.hid hk;have IH:=Lib.hid ih;clear hk ih;have HW:=Lib.hid (Below.refl w.heap.size w);have hkm':kc<=9223372036854775807:=hkm;go_enter Tryz.func18,Tryz.ntmps18
  obtain⟨x1,kf,ef,ekf,hbf,hkf,HBf⟩:=newV w #[.int .i64 o,.bool b,.slice ao l c,.string nm,.slice ko kl kc] 29;replace HX:=Lib.hid (HX.out.below hbf.out);replace HW:=Lib.hid (HW.out.trans (hbf.out.mono HW.out.size));have c0:=cell_at (v:=.int .i64 o) HBf.out 0 rfl;have fc0:=froz_at HBf.out 0;have c1:=cell_at (v:=.bool b) HBf.out 1 rfl;have fc1:=froz_at HBf.out 1;have c2:=cell_at (v:=.slice ao l c) HBf.out 2 rfl;have fc2:=froz_at HBf.out 2;have c3:=cell_at (v:=.string nm) HBf.out 3 rfl;have fc3:=froz_at HBf.out 3;have c4:=cell_at (v:=.slice ko kl kc) HBf.out 4 rfl;have fc4:=froz_at HBf.out 4;go_wp2_with fail
  clear c0 fc0 c1 fc1 c2 fc2 c3 fc3 c4 fc4
  go_loopw [3,9] (fun m i wr=>∃ j:Nat,m=.int .i64 ((1+szsF (ks.take j):Nat):Int)/\i=.int .i64 (j:Nat)/\j<=kl/\Hid (Below x1.heap.size x1 wr)) (fun _ i _=>kl - (intOf i).toNat)
  case atStart=>exact⟨0,rfl,rfl,Nat.zero_le _,Lib.hid (Below.refl _ _)⟩
  case round =>
   obtain⟨j,rfl,rfl,hj,HB⟩:=hrel;replace HX:=Lib.hid (HX.out.below HB.out);replace HW:=Lib.hid (HW.out.trans (HB.out.mono HW.out.size))
   by_cases hlt:j<kl
   ·have hz:j<ks.length:=by rw[<-HN.out];exact hlt
    obtain⟨a,bb,qo,ql,qc,po,pl,pc,rfl,⟨c0,c1,c2,c3,c4⟩,hf⟩:=HX.out.cells j hz;have HFC:=Lib.hid hf;clear hf;obtain⟨x,hxx⟩:∃ x,x=ks[j].op:=⟨_,rfl⟩
    obtain⟨ym,hnm⟩:∃ x,x=ks[j].name:=⟨_,rfl⟩
    rw[<-hxx] at c0 HFC;rw[<-hnm] at c3 HFC;clear hxx hnm;have hst:=szsF_take ks j hz;have hle:=szsF_take_le ks (j+1);have hs1:szsF ks+1<=1000000:=by have:=HSZ.out;rw[szF] at this;omega
    have HST:=Lib.hid hst;have hb1:szsF (ks.take j)<=1000000:=by omega
    have hb2:szF ks[j]<=1000000:=by omega
    have hb3:szsF (ks.take j)+szF ks[j]<=1000000:=by omega
    clear hst hle hs1;obtain⟨x2,k8,e8,ek8,hb8,hk8,HB8⟩:=newV wr #[.int .i64 x,.bool bb,.slice qo ql qc,.string ym,.slice po pl pc] 29;replace HW:=Lib.hid (HW.out.trans (hb8.out.mono HW.out.size));replace HB:=Lib.hid (HB.out.trans (hb8.out.mono HB.out.size));replace HFC:=Lib.hid (HFC.out.below hb8.out);have g0:=cell_at (v:=.int .i64 x) HB8.out 0 rfl;have fg0:=froz_at HB8.out 0;have g1:=cell_at (v:=.bool bb) HB8.out 1 rfl;have fg1:=froz_at HB8.out 1;have g2:=cell_at (v:=.slice qo ql qc) HB8.out 2 rfl;have fg2:=froz_at HB8.out 2;have g3:=cell_at (v:=.string ym) HB8.out 3 rfl;have fg3:=froz_at HB8.out 3;have g4:=cell_at (v:=.slice po pl pc) HB8.out 4 rfl;have fg4:=froz_at HB8.out 4;go_wp2_with fail
    refine (IH.out _ ks[j] S x2 HFC.out hb2).mono ?_;rintro e x3 ⟨rfl,hb⟩;clear g0 fg0 g1 fg1 g2 fg2 g3 fg3 g4 fg4;replace HB8:=kBV hb HB8;replace HW:=Lib.hid (HW.out.trans (hb.mono HW.out.size));replace HB:=Lib.hid (HB.out.trans (hb.mono HB.out.size));replace HFC:=Lib.hid (HFC.out.below hb);clear hb HFC;obtain⟨X,hX⟩:∃ X,X=szF ks[j]:=⟨_,rfl⟩
    obtain⟨Y,hY⟩:∃ Y,Y=szsF (ks.take j):=⟨_,rfl⟩
    rw[<-hX] at HST hb2 hb3 ⊢;rw[<-hY] at HST hb1 hb3 ⊢;clear hX hY;go_wp2_with fail
    go_roundw
    case rel=>exact⟨j+1,by rw[HST.out];go_num,by go_num,hlt,HB⟩
    case measure=>simp[intOf];omega
   go_wp2_with fail
   go_ret
   refine⟨?_,HW.out⟩;rw[show j=kl by omega,HN.out,List.take_length,szF];rfl
theorem less_p (va vb:Value) (p q:F) (d:Nat) (w:World) (hd:1<=d) (hp:FC w tS d va p) (hq:FC w tS (d+1) vb q) :
  Calls Tryz.prog 29 #[va,vb] w fun e w'=>∃ v,e=.returned v/\FC w' tS (d+2) v (.node 15 0 ⟨#[]⟩ [.node 2 0 ⟨#[]⟩ [p,.node 0 1 ⟨#[]⟩ []],q])/\Below w.heap.size w w':=by
 have HP:=Lib.hid hp;have HQ:=Lib.hid hq;obtain⟨pb,po,pl,pc,pko,pkl,pkc,rfl,-,-,-⟩:=hp.open;obtain⟨qb,qo,ql,qc,qko,qkl,qkc,rfl,-,-,-⟩:=hq.open;obtain⟨p0,hp0⟩:∃ x,x=p.op:=⟨_,rfl⟩
 obtain⟨pn,hpn⟩:∃ x,x=p.name:=⟨_,rfl⟩
 obtain⟨q0,hq0⟩:∃ x,x=q.op:=⟨_,rfl⟩
 obtain⟨qn,hqn⟩:∃ x,x=q.name:=⟨_,rfl⟩
 rw[<-hp0,<-hpn] at HP ⊢;rw[<-hq0,<-hqn] at HQ ⊢;clear hp hq hp0 hpn hq0 hqn;have HW:=Lib.hid (Below.refl w.heap.size w);have HP0:=Lib.hid HP.out.lt;have HQ0:=Lib.hid HQ.out.lt;go_enter Tryz.func29,Tryz.ntmps29
 obtain⟨x1,ka,ea,eka,hba,hka,HBa⟩:=newV w #[.int .i64 p0,.bool pb,.slice po pl pc,.string pn,.slice pko pkl pkc] 29;replace HW:=Lib.hid (HW.out.trans (hba.out.mono HW.out.size));replace HP:=Lib.hid (HP.out.below hba.out);replace HQ:=Lib.hid (HQ.out.below hba.out);obtain⟨x2,kq,eq,ekq,hbq,hkq,HBq⟩:=newV x1 #[.int .i64 q0,.bool qb,.slice qo ql qc,.string qn,.slice qko qkl qkc] 29;replace HBa:=kBV hbq.out HBa;replace HW:=Lib.hid (HW.out.trans (hbq.out.mono HW.out.size));replace HP:=Lib.hid (HP.out.below hbq.out);replace HQ:=Lib.hid (HQ.out.below hbq.out);have HWq:=HW;obtain⟨x3,kr,er,ekr,hbr,hkr,HBr⟩:=newV x2 #[.int .i64 0,.bool false,.slice none 0 0,.string ⟨#[]⟩,.slice none 0 0] 29;replace HBa:=kBV hbr.out HBa;replace HBq:=kBV hbr.out HBq;replace HW:=Lib.hid (HW.out.trans (hbr.out.mono HW.out.size))
 replace HP:=Lib.hid (HP.out.below hbr.out);replace HQ:=Lib.hid (HQ.out.below hbr.out);have HKr:Hid (w.heap.size<=kr):=Lib.hid (Nat.le_trans HWq.out.size hkr.out);replace HP:=Lib.hid ((HP0.out.below HW.out).mono (S':=fun b=>b≠kr) (fun b hb=>by have:=HKr.out;omega));replace HQ:=Lib.hid ((HQ0.out.below HW.out).mono (S':=fun b=>b≠kr) (fun b hb=>by have:=HKr.out;omega));go_upto_region 1 with fail
 have hlt_a:=lt_of_block HBa.out;have hlt_q:=lt_of_block HBq.out;have hog:Hid (∀ q,q<0->(fun q=>0) q<x3.heap.size):=Lib.hid (fun q h=>absurd h (Nat.not_lt_zero _));refine R7.region (by kernel_rfl) [[],[],[0,1],[0,1,2],[],[0,1,2,3,4],[0,1,2,3,4,5],[0,1,2,3,4,5,6]] [] [] (fun q=>0) 0 7 (by kernel_rfl) (by kernel_rfl) (by rfl) hog.out (fun q q' h h' hn=>absurd hn (by omega)) ?_;refine R7.Chain.det ?_ (by rfl) (fun T xs wr hA=>?_) ?_
 rotate_left 1
 ·have e2:=hA.pre 2 (by kernel_rfl);simp only[gsa,gsc,gsz] at e2;have hBq:wr.heap[ka]?=_:=(hA.bl _ hlt_a (fun q h=>absurd h (Nat.not_lt_zero _))).trans HBa.out;have q0:=cell_at (v:=.int .i64 p0) hBq 0 rfl;have q1:=cell_at (v:=.bool pb) hBq 1 rfl;have q2:=cell_at (v:=.slice po pl pc) hBq 2 rfl;have q3:=cell_at (v:=.string pn) hBq 3 rfl;have q4:=cell_at (v:=.slice pko pkl pkc) hBq 4 rfl;clear hBq;clear hA;refine⟨(by rfl),?_⟩;go_simp<;>(try with_reducible rfl)
 refine R7.Chain.call (fun xs v w=>∃ b o l c,v=.agg #[.int .i64 0,.bool b,.slice o l c,.string ⟨#[]⟩,.slice none 0 0]/\FC w (fun b=>b≠kr) 1 (.agg #[.int .i64 0,.bool b,.slice o l c,.string ⟨#[]⟩,.slice none 0 0]) (.node 0 1 ⟨#[]⟩ [])) (fun _ _ _ _ h hb=>by obtain⟨b,o,l,c,h1,h2⟩:=h;exact⟨b,o,l,c,h1,h2.below hb⟩) (fun _ _ _ _ _ _ h _=>by obtain⟨q,hq,_⟩:=h;exact absurd hq (Nat.not_lt_zero _)) (by rfl) (fun T xs wr hA=>?_) ?_
 ·have hsw:=(hA.be 0 (Nat.zero_le _) (fun _ _=>Nat.zero_le _)).size;have hbw:=undrew (hA.be x3.heap.size (Nat.le_refl _) (fun q h=>absurd h (Nat.not_lt_zero q)));clear hA;refine⟨(by rfl),fun K hK=>?_⟩;go_simp
  refine (int_p 1 _ (by decide) (by decide)).mono ?_;rintro e w' ⟨b,o,l,c,rfl,hc,hb'⟩;exact hK.out _ _ ⟨b,o,l,c,rfl,FC.mk (by unfold IR;decide) hc (FL.nil _ _ _)⟩ hb'
 refine R7.Chain.call (fun xs v w=>∃ g,v=.slice (some ⟨g,0,none⟩) 2 2/\FL w (fun b=>b≠kr) d (.slice (some ⟨g,0,none⟩) 2 2) [p,.node 0 1 ⟨#[]⟩ []]) (fun _ _ _ _ h hb=>by obtain⟨g,h1,h2⟩:=h;exact⟨g,h1,h2.below hb⟩) (fun _ _ _ _ _ _ h _=>by obtain⟨q,hq,_⟩:=h;exact absurd hq (Nat.not_lt_zero _)) (by rfl) (fun T xs wr hA=>?_) ?_
 ·have hsw:=(hA.be 0 (Nat.zero_le _) (fun _ _=>Nat.zero_le _)).size;have e5:=hA.tm 0 5 (by rfl) (by rfl);have f5:xs 0=_:=hA.fa 0 (by rfl)
  (try simp (disch:=first | rfl | decide) only [R7.mask_in] at f5)
  rw[f5] at e5;clear f5;have e6:=hA.tm 1 6 (by rfl) (by rfl);have hbw:=undrew (hA.be x3.heap.size (Nat.le_refl _) (fun q h=>absurd h (Nat.not_lt_zero q)));have hF1:∃ b o l c,(xs 1)=.agg #[.int .i64 0,.bool b,.slice o l c,.string ⟨#[]⟩,.slice none 0 0]/\FC wr (fun b=>b≠kr) 1 (.agg #[.int .i64 0,.bool b,.slice o l c,.string ⟨#[]⟩,.slice none 0 0]) (.node 0 1 ⟨#[]⟩ []):=hA.fa 1 (by rfl);obtain⟨b1,o1,l1,c1,e1,hc1⟩:=hF1;have hpw:=HP.out.below hbw;clear hA;refine⟨(by rfl),fun K hK=>?_⟩;go_simp
  exact hK.out _ _ ⟨_,rfl,FL.two (made_at _ _ _ rfl) (by have h1:=lt_of_block HBr.out;have h2:=hbw.size;show _≠kr;omega) (hpw.below ((Below.refl _ _).alloc (Nat.le_refl _) _)) ((hc1.up hd).below ((Below.refl _ _).alloc (Nat.le_refl _) _))⟩ ((Below.refl _ _).alloc (Nat.le_refl _) _)
 refine R7.Chain.call (fun xs v w=>∃ g,v=.agg #[.int .i64 2,.bool false,.slice none 0 0,.string ⟨#[]⟩,.slice (some ⟨g,0,none⟩) 2 2]/\FC w (fun b=>b≠kr) (d+1) (.agg #[.int .i64 2,.bool false,.slice none 0 0,.string ⟨#[]⟩,.slice (some ⟨g,0,none⟩) 2 2]) (.node 2 0 ⟨#[]⟩ [p,.node 0 1 ⟨#[]⟩ []])) (fun _ _ _ _ h hb=>by obtain⟨g,h1,h2⟩:=h;exact⟨g,h1,h2.below hb⟩) (fun _ _ _ _ _ _ h _=>by obtain⟨q,hq,_⟩:=h;exact absurd hq (Nat.not_lt_zero _)) (by rfl) (fun T xs wr hA=>?_) ?_
 ·have hsw:=(hA.be 0 (Nat.zero_le _) (fun _ _=>Nat.zero_le _)).size;have e7:=hA.tm 2 7 (by rfl) (by rfl);have hbw:=undrew (hA.be x3.heap.size (Nat.le_refl _) (fun q h=>absurd h (Nat.not_lt_zero q)));have hF2:∃ g,(xs 2)=.slice (some ⟨g,0,none⟩) 2 2/\FL wr (fun b=>b≠kr) d (.slice (some ⟨g,0,none⟩) 2 2) [p,.node 0 1 ⟨#[]⟩ []]:=hA.fa 2 (by rfl);obtain⟨g2,e2,hl2⟩:=hF2;clear hA;refine⟨(by rfl),fun K hK=>?_⟩;go_simp
  refine (of_p 2 _ _ _ _).mono ?_;rintro e w' ⟨rfl,hb'⟩;exact hK.out _ _ ⟨_,rfl,FC.mk (by unfold IR;decide) (nr0 _) (hl2.below hb')⟩ hb'
 refine R7.Chain.det ?_ (by rfl) (fun T xs wr hA=>?_) ?_
 rotate_left 1
 ·have e3:=hA.pre 3 (by kernel_rfl);simp only[gsa,gsc,gsz] at e3;have hBq:wr.heap[kq]?=_:=(hA.bl _ hlt_q (fun q h=>absurd h (Nat.not_lt_zero _))).trans HBq.out;have q0:=cell_at (v:=.int .i64 q0) hBq 0 rfl;have q1:=cell_at (v:=.bool qb) hBq 1 rfl;have q2:=cell_at (v:=.slice qo ql qc) hBq 2 rfl;have q3:=cell_at (v:=.string qn) hBq 3 rfl;have q4:=cell_at (v:=.slice qko qkl qkc) hBq 4 rfl;clear hBq;clear hA;refine⟨(by rfl),?_⟩;go_simp<;>(try with_reducible rfl)
 refine R7.Chain.call (fun xs v w=>∃ g,v=.slice (some ⟨g,0,none⟩) 2 2/\FL w (fun b=>b≠kr) (d+1) (.slice (some ⟨g,0,none⟩) 2 2) [(.node 2 0 ⟨#[]⟩ [p,.node 0 1 ⟨#[]⟩ []]),q]) (fun _ _ _ _ h hb=>by obtain⟨g,h1,h2⟩:=h;exact⟨g,h1,h2.below hb⟩) (fun _ _ _ _ _ _ h _=>by obtain⟨q,hq,_⟩:=h;exact absurd hq (Nat.not_lt_zero _)) (by rfl) (fun T xs wr hA=>?_) ?_
 ·have hsw:=(hA.be 0 (Nat.zero_le _) (fun _ _=>Nat.zero_le _)).size;have e8:=hA.tm 3 8 (by rfl) (by rfl);have e9:=hA.tm 4 9 (by rfl) (by rfl);have f9:xs 4=_:=hA.fa 4 (by rfl)
  (try simp (disch:=first | rfl | decide) only [R7.mask_in] at f9)
  rw[f9] at e9;clear f9;have hbw:=undrew (hA.be x3.heap.size (Nat.le_refl _) (fun q h=>absurd h (Nat.not_lt_zero q)));have hF3:∃ g,(xs 3)=.agg #[.int .i64 2,.bool false,.slice none 0 0,.string ⟨#[]⟩,.slice (some ⟨g,0,none⟩) 2 2]/\FC wr (fun b=>b≠kr) (d+1) (.agg #[.int .i64 2,.bool false,.slice none 0 0,.string ⟨#[]⟩,.slice (some ⟨g,0,none⟩) 2 2]) (.node 2 0 ⟨#[]⟩ [p,.node 0 1 ⟨#[]⟩ []]):=hA.fa 3 (by rfl);obtain⟨g3,e3,hc3⟩:=hF3;have hqw:=HQ.out.below hbw;clear hA;refine⟨(by rfl),fun K hK=>?_⟩;go_simp
  exact hK.out _ _ ⟨_,rfl,FL.two (made_at _ _ _ rfl) (by have h1:=lt_of_block HBr.out;have h2:=hbw.size;show _≠kr;omega) (hc3.below ((Below.refl _ _).alloc (Nat.le_refl _) _)) (hqw.below ((Below.refl _ _).alloc (Nat.le_refl _) _))⟩ ((Below.refl _ _).alloc (Nat.le_refl _) _)
 refine R7.Chain.call (fun xs v w=>∃ g,v=.agg #[.int .i64 15,.bool false,.slice none 0 0,.string ⟨#[]⟩,.slice (some ⟨g,0,none⟩) 2 2]/\FC w (fun b=>b≠kr) (d+2) (.agg #[.int .i64 15,.bool false,.slice none 0 0,.string ⟨#[]⟩,.slice (some ⟨g,0,none⟩) 2 2]) (.node 15 0 ⟨#[]⟩ [(.node 2 0 ⟨#[]⟩ [p,.node 0 1 ⟨#[]⟩ []]),q])) (fun _ _ _ _ h hb=>by obtain⟨g,h1,h2⟩:=h;exact⟨g,h1,h2.below hb⟩) (fun _ _ _ _ _ _ h _=>by obtain⟨q,hq,_⟩:=h;exact absurd hq (Nat.not_lt_zero _)) (by rfl) (fun T xs wr hA=>?_) ?_
 ·have hsw:=(hA.be 0 (Nat.zero_le _) (fun _ _=>Nat.zero_le _)).size;have e10:=hA.tm 5 10 (by rfl) (by rfl);have hbw:=undrew (hA.be x3.heap.size (Nat.le_refl _) (fun q h=>absurd h (Nat.not_lt_zero q)));have hF5:∃ g,(xs 5)=.slice (some ⟨g,0,none⟩) 2 2/\FL wr (fun b=>b≠kr) (d+1) (.slice (some ⟨g,0,none⟩) 2 2) [(.node 2 0 ⟨#[]⟩ [p,.node 0 1 ⟨#[]⟩ []]),q]:=hA.fa 5 (by rfl);obtain⟨g5,e5,hl5⟩:=hF5;clear hA;refine⟨(by rfl),fun K hK=>?_⟩;go_simp
  refine (of_p 15 _ _ _ _).mono ?_;rintro e w' ⟨rfl,hb'⟩;exact hK.out _ _ ⟨_,rfl,FC.mk (by unfold IR;decide) (nr0 _) (hl5.below hb')⟩ hb'
 refine R7.Chain.done (fun xs x4 hL=>?_);obtain⟨⟨hbe,hbl⟩,hf,-,-⟩:=hL;have f0:xs 0=_:=hf 0 (by decide)
 (try simp (disch:=first | rfl | decide) only [R7.mask_in] at f0)
 have F1:∃ b o l c,(xs 1)=.agg #[.int .i64 0,.bool b,.slice o l c,.string ⟨#[]⟩,.slice none 0 0]/\FC x4 (fun b=>b≠kr) 1 (.agg #[.int .i64 0,.bool b,.slice o l c,.string ⟨#[]⟩,.slice none 0 0]) (.node 0 1 ⟨#[]⟩ []):=hf 1 (by decide);have F2:∃ g,(xs 2)=.slice (some ⟨g,0,none⟩) 2 2/\FL x4 (fun b=>b≠kr) d (.slice (some ⟨g,0,none⟩) 2 2) [p,.node 0 1 ⟨#[]⟩ []]:=hf 2 (by decide);have F3:∃ g,(xs 3)=.agg #[.int .i64 2,.bool false,.slice none 0 0,.string ⟨#[]⟩,.slice (some ⟨g,0,none⟩) 2 2]/\FC x4 (fun b=>b≠kr) (d+1) (.agg #[.int .i64 2,.bool false,.slice none 0 0,.string ⟨#[]⟩,.slice (some ⟨g,0,none⟩) 2 2]) (.node 2 0 ⟨#[]⟩ [p,.node 0 1 ⟨#[]⟩ []]):=hf 3 (by decide);have f4:xs 4=_:=hf 4 (by decide)
 (try simp (disch:=first | rfl | decide) only [R7.mask_in] at f4)
 have F5:∃ g,(xs 5)=.slice (some ⟨g,0,none⟩) 2 2/\FL x4 (fun b=>b≠kr) (d+1) (.slice (some ⟨g,0,none⟩) 2 2) [(.node 2 0 ⟨#[]⟩ [p,.node 0 1 ⟨#[]⟩ []]),q]:=hf 5 (by decide);have F6:∃ g,(xs 6)=.agg #[.int .i64 15,.bool false,.slice none 0 0,.string ⟨#[]⟩,.slice (some ⟨g,0,none⟩) 2 2]/\FC x4 (fun b=>b≠kr) (d+2) (.agg #[.int .i64 15,.bool false,.slice none 0 0,.string ⟨#[]⟩,.slice (some ⟨g,0,none⟩) 2 2]) (.node 15 0 ⟨#[]⟩ [(.node 2 0 ⟨#[]⟩ [p,.node 0 1 ⟨#[]⟩ []]),q]):=hf 6 (by decide);have hb0:Below 0 x3 x4:=undrew (hbe 0 (Nat.zero_le _) (fun _ _=>Nat.zero_le _));have hgr:∀ j,j<x3.heap.size->(∀ q,q<0->(fun q=>0) q≠j)->x4.heap[j]?=x3.heap[j]?:=hbl;clear hbe hbl hf;have hb:Below x3.heap.size x3 x4:=⟨hb0.os,hb0.tape,hb0.output,hb0.size,fun q hq=>hgr q hq (fun q h=>absurd h (Nat.not_lt_zero _))⟩
 refine R7.rest_list (by decide) (by kernel_rfl) ?_;simp only[R7.fill,t1_,t2_,t3_,t4_,t5_,t6_,t7_,f0,f4];clear hb0 hgr hog hlt_a hlt_q f0 f4;replace HBa:=kBV hb HBa;replace HBq:=kBV hb HBq;replace HBr:=kBV hb HBr;replace HW:=Lib.hid (HW.out.trans (hb.mono HW.out.size));replace HP:=Lib.hid (HP.out.below hb);replace HQ:=Lib.hid (HQ.out.below hb);replace hb:=Lib.hid hb;obtain⟨g,hy1,hy2⟩:=F6;have HV:=Lib.hid hy2;obtain⟨⟨r0,r1,r2,r3,r4⟩,fr0,fr1,fr2,fr3,fr4⟩:=cells5V HBr.out;go_wp2_with fail
 obtain⟨s1,s2⟩:=res5F HW.out HBr.out n32_F HKr.out (.int .i64 15) (.bool false) (.slice none 0 0) (.string ⟨#[]⟩) (.slice (some ⟨g,0,none⟩) 2 2)
 (try simp only[Exit.inBlock,Exit.then])
 exact bodyPost_ret (v:=.agg #[.int .i64 15,.bool false,.slice none 0 0,.string ⟨#[]⟩,.slice (some ⟨g,0,none⟩) 2 2]) (by simp[results,Tryz.results29,go_sem,r0,r1,r2,r3,r4]) rfl ⟨_,rfl,(HV.out.put (grown5V _ _ _ _ _) s1).t,s2⟩
attribute [local go_sem] fieldV0 fieldV1 fieldV2 fieldV3
theorem EL.one {w:World} {g:Nat} {nm:ByteArray} {k:Int} {b d:Bool} {o p:Option Addr} {l c m q:Nat} {x:V} (hB:w.heap[g]?=some (.cells #[.string nm,.int .i64 k,.bool b,.slice o l c,.bool d,.slice p m q] 44 (0,0))) (hv:VC w (.agg #[.int .i64 k,.bool b,.slice o l c,.bool d,.slice p m q]) x):EL w (.slice (some ⟨g,0,none⟩) 1 1) [(nm,x)]:=by
 obtain⟨u,_,_,_,_,_,_,_,_,_,e,hu,hx,hR⟩:=hv.unit;injection e with e;have e2:=congrArg Array.toList e;refine⟨[⟨nm,u⟩],El.At.block (E:=bE) (el:=[⟨nm,u⟩]) ?_ (show 1<=maxLen by decide) (fun a ha=>by rw[List.mem_singleton] at ha;subst ha;exact hR),by unfold envOf;simp[hx]⟩;rw[hB];have:bE.f ⟨nm,u⟩=.string nm::vC u:=rfl;simp only[List.flatMap_cons,List.flatMap_nil,List.append_nil,this,hu];simp only[List.cons.injEq] at e2;obtain⟨h1,h2,h3,h4,h5,-⟩:=e2;rw[h1,h2,h3,h4,h5];rfl
def FX:F:=.node 15 0 ⟨#[]⟩ [.node 2 0 ⟨#[]⟩ [.node 1 0 ⟨#[120]⟩ [],.node 0 1 ⟨#[]⟩ []],.node 0 3 ⟨#[]⟩ []]
theorem rtFX:rt FX=true:=by decide
theorem szFX:szF FX=5:=by decide
theorem evFX (r:ByteArray->V):ev r FX=.B (decide (asI (r ⟨#[120]⟩)+1<=3)):=by
 simp only[FX,ev,evs,opV,at0,at1];rfl
theorem small600 {n:Nat} (h:n<1000):n<L32 ^ 600:=lt_pow_more (k:=1) (k':=600) (Nat.lt_of_lt_of_le h (by decide)) (by decide)
theorem smFX (r:ByteArray->V) (h:(asI (r ⟨#[120]⟩)).natAbs<=10):Sm r FX:=by
 simp only[FX,Sm,Sms,and_true,true_and,opV,evs,ev,at0,at1];exact⟨trivial,⟨small600 (by show (asI (r ⟨#[120]⟩)+1).natAbs<1000;omega),small600 (by show (asI (r ⟨#[120]⟩)).natAbs<1000;omega),small600 (by decide)⟩,small600 (by decide)⟩
theorem rho_x (z:Int):rho [((⟨#[120]⟩:ByteArray),V.I z)] ⟨#[120]⟩=.I z:=by
 rw[show [((⟨#[120]⟩:ByteArray),V.I z)]=[]++[((⟨#[120]⟩:ByteArray),V.I z)] from rfl,rho_app,if_pos rfl]
theorem fit_p (w:World):Calls Tryz.prog 8 #[] w fun e w'=>e=.returned (.bool true)/\Below w.heap.size w w':=by
 have HW:=Lib.hid (Below.refl w.heap.size w);go_enter Tryz.func8,Tryz.ntmps8
 go_wp2_with fail
 refine (var_p ⟨#[120]⟩ 0 w).mono ?_;rintro e x1 ⟨rfl,hb⟩;replace HW:=Lib.hid (HW.out.trans (hb.mono HW.out.size));go_wp2_with fail
 refine (int_p 3 x1 (by decide) (by decide)).mono ?_;rintro e x2 ⟨b1,o1,l1,c1,rfl,hc,hb⟩;replace HW:=Lib.hid (HW.out.trans (hb.mono HW.out.size));have HC:=Lib.hid hc;clear hc;go_wp2_with fail
 refine (less_p _ _ (.node 1 0 ⟨#[120]⟩ []) (.node 0 3 ⟨#[]⟩ []) 1 x2 (Nat.le_refl _) (FC.mk (d:=0) (by unfold IR;decide) (nr0 _) (FL.nil _ _ _)) ((FC.mk (d:=0) (by unfold IR;decide) HC.out (FL.nil _ _ _)).up (by decide))).mono ?_;rintro e x3 ⟨v,rfl,hf,hb⟩;replace HW:=Lib.hid (HW.out.trans (hb.mono HW.out.size));replace HC:=Lib.hid (HC.out.below hb);obtain⟨b,ao,l,c,ko,kl,kc,rfl,-,-,-⟩:=hf.open;have HF:Hid (FC x3 tS 3 (.agg #[.int .i64 15,.bool b,.slice ao l c,.string ⟨#[]⟩,.slice ko kl kc]) FX):=Lib.hid hf;clear hf HC;simp only[F.op,F.name];obtain⟨x4,kf,ef,ekf,hbf,hkf,HBf⟩:=newV x3 #[.int .i64 15,.bool b,.slice ao l c,.string ⟨#[]⟩,.slice ko kl kc] 29;replace HW:=Lib.hid (HW.out.trans (hbf.out.mono HW.out.size));replace HF:=Lib.hid (HF.out.below hbf.out);go_wp2_with fail
 refine (wof_any 2 x4 (by decide) (by decide)).mono ?_;rintro e x5 ⟨x,rfl,hx,hb⟩;replace HBf:=kBV hb HBf;replace HW:=Lib.hid (HW.out.trans (hb.mono HW.out.size));replace HF:=Lib.hid (HF.out.below hb);have HX:=Lib.hid hx;clear hx;obtain⟨xb,xo,xl,xc,rfl⟩:=HX.out.shape;go_wp2_with fail
 refine (ofInt_p _ _ 2 x5 HX.out.gi (by decide)).mono ?_;rintro e x6 ⟨v,rfl,hv,hb⟩;replace HBf:=kBV hb HBf;replace HW:=Lib.hid (HW.out.trans (hb.mono HW.out.size));replace HF:=Lib.hid (HF.out.below hb);obtain⟨o2,l2,c2,rfl,hn⟩:=hv.int;have hd2:decide ((2:Int)<0)=false:=rfl;rw[hd2] at hv ⊢;clear hd2;have HV:=Lib.hid hv;clear hv hn HX;obtain⟨x7,ky,ey,eky,hby,hky,HBy⟩:=newV x6 #[.string ⟨#[120]⟩,.int .i64 0,.bool false,.slice o2 l2 c2,.bool false,.slice none 0 0] 44;replace HBf:=kBV hby.out HBf;replace HW:=Lib.hid (HW.out.trans (hby.out.mono HW.out.size));replace HF:=Lib.hid (HF.out.below hby.out);replace HV:=Lib.hid (HV.out.below hby.out);have HEL:=Lib.hid (EL.one HBy.out HV.out);clear HV;go_upto_region 3 with fail
 have hlt_f:=lt_of_block HBf.out;have hog:Hid (∀ q,q<0->(fun q=>0) q<x7.heap.size):=Lib.hid (fun q h=>absurd h (Nat.not_lt_zero _))
 refine R7.region (by kernel_rfl) [[],[0],[0,1],[0,1,2],[0,1,2],[0,1,2,3,4],[0,1,2,3,4,5],[0,1,2,3,4,5,6],[0,1,2,3,4,5,6,7],[0,1,2,3,4,5,6,7],[0,1,2,3,4,5,6,7,9],[0,1,2,3,4,5,6,7,9,10],[0,1,2,3,4,5,6,7,9,10,11],[0,1,2,3,4,5,6,7,8,9,10,11,12],[0,1,2,3,4,5,6,7,8,9,10,11,12,13],[0,1,2,3,4,5,6,7,8,9,10,11,12,13,14],[0,1,2,3,4,5,6,7,8,9,10,11,12,13,14,15],[0,1,2,3,4,5,6,7,8,9,10,11,12,13,14,15,16],[0,1,2,3,4,5,6,7,8,9,10,11,12,13,14,15,16,17],[0,1,2,3,4,5,6,7,8,9,10,11,12,13,14,15,16,17,18],[0,1,2,3,4,5,6,7,8,9,10,11,12,13,14,15,16,17,18,19],[0,1,2,3,4,5,6,7,8,9,10,11,12,13,14,15,16,17,18,19,20]] [] [] (fun q=>0) 0 22 (by kernel_rfl) (by kernel_rfl) (by rfl) hog.out (fun q q' h h' hn=>absurd hn (by omega)) ?_
 refine R7.Chain.det ?_ (by rfl) (fun T xs wr hA=>?_) ?_
 rotate_left 1
 ·have e1:=hA.pre 1 (by kernel_rfl);simp only[gsa,gsc,gsz] at e1;have hBq:wr.heap[kf]?=_:=(hA.bl _ hlt_f (fun q h=>absurd h (Nat.not_lt_zero _))).trans HBf.out;have q0:=cell_at (v:=.int .i64 15) hBq 0 rfl;have q1:=cell_at (v:=.bool b) hBq 1 rfl;have q2:=cell_at (v:=.slice ao l c) hBq 2 rfl;have q3:=cell_at (v:=.string ⟨#[]⟩) hBq 3 rfl;have q4:=cell_at (v:=.slice ko kl kc) hBq 4 rfl;clear hBq;clear hA;refine⟨(by rfl),?_⟩;go_simp<;>(try with_reducible rfl)
 refine R7.Chain.call (fun xs v w=>v=.bool true) (fun _ _ _ _ h _=>h) (fun _ _ _ _ _ h _ _=>h) (by rfl) (fun T xs wr hA=>?_) ?_
 ·have hsw:=(hA.be 0 (Nat.zero_le _) (fun _ _=>Nat.zero_le _)).size;have e10:=hA.tm 0 10 (by rfl) (by rfl);have f10:xs 0=_:=hA.fa 0 (by rfl)
  (try simp (disch:=first | rfl | decide) only [R7.mask_in] at f10)
  rw[f10] at e10;clear f10;have hbw:=undrew (hA.be x7.heap.size (Nat.le_refl _) (fun q h=>absurd h (Nat.not_lt_zero q)));have hfw:=HF.out.below hbw;clear hA;refine⟨(by rfl),fun K hK=>?_⟩;go_simp
  refine (right_p 3 _ FX tS _ hfw).mono ?_;rintro e w' ⟨rfl,hb'⟩;exact hK.out _ _ (by rw[rtFX]) hb'
 refine R7.Chain.det ?_ (by rfl) (fun T xs wr hA=>?_) ?_
 rotate_left 1
 ·have e11:=hA.tm 1 11 (by rfl) (by rfl);have f11:xs 1=(.bool true):=hA.fa 1 (by rfl);rw[f11] at e11;clear f11;clear hA;refine⟨(by rfl),?_⟩;go_simp<;>(try with_reducible rfl)
 refine R7.Chain.det ?_ (by rfl) (fun T xs wr hA=>?_) ?_
 rotate_left 1
 ·have e12:=hA.tm 2 12 (by rfl) (by rfl);have f12:xs 2=_:=hA.fa 2 (by rfl)
  (try simp (disch:=first | rfl | decide) only [R7.mask_in] at f12)
  rw[f12] at e12;clear f12;have e1:=hA.pre 1 (by kernel_rfl);simp only[gsa,gsc,gsz] at e1;have hBq:wr.heap[kf]?=_:=(hA.bl _ hlt_f (fun q h=>absurd h (Nat.not_lt_zero _))).trans HBf.out;have q0:=cell_at (v:=.int .i64 15) hBq 0 rfl;have q1:=cell_at (v:=.bool b) hBq 1 rfl;have q2:=cell_at (v:=.slice ao l c) hBq 2 rfl;have q3:=cell_at (v:=.string ⟨#[]⟩) hBq 3 rfl;have q4:=cell_at (v:=.slice ko kl kc) hBq 4 rfl;clear hBq;clear hA;refine⟨((Rely.wanted_at rfl (by rfl) e12).trans (by rfl)),?_⟩;go_simp<;>(try with_reducible rfl)
 refine R7.Chain.det ?_ (by rfl) (fun T xs wr hA=>?_) ?_
 rotate_left 1
 ·have e12:=hA.tm 2 12 (by rfl) (by rfl);have f12:xs 2=_:=hA.fa 2 (by rfl)
  (try simp (disch:=first | rfl | decide) only [R7.mask_in] at f12)
  rw[f12] at e12;clear f12;have e2:=hA.pre 2 (by kernel_rfl);simp only[gsa,gsc,gsz] at e2;clear hA;refine⟨((Rely.wanted_at rfl (by rfl) e12).trans (by rfl)),?_⟩;go_simp<;>(try with_reducible rfl)
 refine R7.Chain.call (fun xs v w=>v=.bool true) (fun _ _ _ _ h _=>h) (fun _ _ _ _ _ h _ _=>h) (by rfl) (fun T xs wr hA=>?_) ?_
 ·have e12:=hA.tm 2 12 (by rfl) (by rfl);have f12:xs 2=_:=hA.fa 2 (by rfl)
  (try simp (disch:=first | rfl | decide) only [R7.mask_in] at f12)
  rw[f12] at e12;clear f12;have hsw:=(hA.be 0 (Nat.zero_le _) (fun _ _=>Nat.zero_le _)).size;have e13:=hA.tm 3 13 (by rfl) (by rfl);have f13:xs 3=_:=hA.fa 3 (by rfl)
  (try simp (disch:=first | rfl | decide) only [R7.mask_in] at f13)
  rw[f13] at e13;clear f13;have e14:=hA.tm 4 14 (by rfl) (by rfl);have f14:xs 4=_:=hA.fa 4 (by rfl)
  (try simp (disch:=first | rfl | decide) only [R7.mask_in] at f14)
  rw[f14] at e14;clear f14;have hbw:=undrew (hA.be x7.heap.size (Nat.le_refl _) (fun q h=>absurd h (Nat.not_lt_zero q)));have hfw:=HF.out.below hbw;clear hA;refine⟨((Rely.wanted_at rfl (by rfl) e12).trans (by rfl)),fun K hK=>?_⟩;go_simp
  refine (holds_p 3 _ _ [(⟨#[120]⟩,.I 2)] FX tS _ hfw (HEL.out.below hbw) rtFX (smFX _ (by rw[rho_x];decide))).mono ?_;rintro e w' ⟨rfl,hb'⟩;exact hK.out _ _ (by rw[evFX,rho_x];rfl) hb'
 refine R7.Chain.det ?_ (by rfl) (fun T xs wr hA=>?_) ?_
 rotate_left 1
 ·have e12:=hA.tm 2 12 (by rfl) (by rfl);have f12:xs 2=_:=hA.fa 2 (by rfl)
  (try simp (disch:=first | rfl | decide) only [R7.mask_in] at f12)
  rw[f12] at e12;clear f12;have e15:=hA.tm 5 15 (by rfl) (by rfl);have f15:xs 5=(.bool true):=hA.fa 5 (by rfl);rw[f15] at e15;clear f15;clear hA;refine⟨(by rfl),?_⟩;go_simp<;>(try with_reducible rfl)
 refine R7.Chain.det ?_ (by rfl) (fun T xs wr hA=>?_) ?_
 rotate_left 1
 ·have e16:=hA.tm 6 16 (by rfl) (by rfl);have f16:xs 6=_:=hA.fa 6 (by rfl)
  (try simp (disch:=first | rfl | decide) only [R7.mask_in] at f16)
  rw[f16] at e16;clear f16;clear hA;refine⟨(by rfl),?_⟩;go_simp<;>(try with_reducible rfl)
 refine R7.Chain.det ?_ (by rfl) (fun T xs wr hA=>?_) ?_
 rotate_left 1
 ·have e17:=hA.tm 7 17 (by rfl) (by rfl);have f17:xs 7=_:=hA.fa 7 (by rfl)
  (try simp (disch:=first | rfl | decide) only [R7.mask_in] at f17)
  rw[f17] at e17;clear f17;have e1:=hA.pre 1 (by kernel_rfl);simp only[gsa,gsc,gsz] at e1;have hBq:wr.heap[kf]?=_:=(hA.bl _ hlt_f (fun q h=>absurd h (Nat.not_lt_zero _))).trans HBf.out;have q0:=cell_at (v:=.int .i64 15) hBq 0 rfl;have q1:=cell_at (v:=.bool b) hBq 1 rfl;have q2:=cell_at (v:=.slice ao l c) hBq 2 rfl;have q3:=cell_at (v:=.string ⟨#[]⟩) hBq 3 rfl;have q4:=cell_at (v:=.slice ko kl kc) hBq 4 rfl;clear hBq;clear hA;refine⟨((Rely.wanted_at rfl (by rfl) e17).trans (by rfl)),?_⟩;go_simp<;>(try with_reducible rfl)
 refine R7.Chain.call (fun xs v w=>∃ b o l c,v=.agg #[.bool b,.slice o l c]/\CI w (.agg #[.bool b,.slice o l c]) 3 2) (fun _ _ _ _ h hb=>by obtain⟨b,o,l,c,h1,h2⟩:=h;exact⟨b,o,l,c,h1,h2.below hb⟩) (fun _ _ _ _ _ _ h _=>by obtain⟨q,hq,_⟩:=h;exact absurd hq (Nat.not_lt_zero _)) (by rfl) (fun T xs wr hA=>?_) ?_
 ·have e17:=hA.tm 7 17 (by rfl) (by rfl);have f17:xs 7=_:=hA.fa 7 (by rfl)
  (try simp (disch:=first | rfl | decide) only [R7.mask_in] at f17)
  rw[f17] at e17;clear f17;have hsw:=(hA.be 0 (Nat.zero_le _) (fun _ _=>Nat.zero_le _)).size;have hbw:=undrew (hA.be x7.heap.size (Nat.le_refl _) (fun q h=>absurd h (Nat.not_lt_zero q)));clear hA;refine⟨((Rely.wanted_at rfl (by rfl) e17).trans (by rfl)),fun K hK=>?_⟩;go_simp
  refine (wof_any 3 _ (by decide) (by decide)).mono ?_;rintro e w' ⟨x,rfl,hx,hb'⟩;obtain⟨b,o,l,c,rfl⟩:=hx.shape;exact hK.out _ _ ⟨b,o,l,c,rfl,hx⟩ hb'
 refine R7.Chain.call (fun xs v w=>∃ o l c,v=.agg #[.int .i64 0,.bool false,.slice o l c,.bool false,.slice none 0 0]/\VC w (.agg #[.int .i64 0,.bool false,.slice o l c,.bool false,.slice none 0 0]) (.I 3)) (fun _ _ _ _ h hb=>by obtain⟨o,l,c,h1,h2⟩:=h;exact⟨o,l,c,h1,h2.below hb⟩) (fun _ _ _ _ _ _ h _=>by obtain⟨q,hq,_⟩:=h;exact absurd hq (Nat.not_lt_zero _)) (by rfl) (fun T xs wr hA=>?_) ?_
 ·have e17:=hA.tm 7 17 (by rfl) (by rfl);have f17:xs 7=_:=hA.fa 7 (by rfl)
  (try simp (disch:=first | rfl | decide) only [R7.mask_in] at f17)
  rw[f17] at e17;clear f17;have hsw:=(hA.be 0 (Nat.zero_le _) (fun _ _=>Nat.zero_le _)).size;have e19:=hA.tm 9 19 (by rfl) (by rfl);have hbw:=undrew (hA.be x7.heap.size (Nat.le_refl _) (fun q h=>absurd h (Nat.not_lt_zero q)));have hF9:∃ b o l c,(xs 9)=.agg #[.bool b,.slice o l c]/\CI wr (.agg #[.bool b,.slice o l c]) 3 2:=hA.fa 9 (by rfl);obtain⟨b9,o9,l9,c9,e9,hc9⟩:=hF9;clear hA;refine⟨((Rely.wanted_at rfl (by rfl) e17).trans (by rfl)),fun K hK=>?_⟩;go_simp
  refine (ofInt_p _ 3 2 _ hc9.gi (by decide)).mono ?_;rintro e w' ⟨x,rfl,hx,hb'⟩;obtain⟨o,l,c,rfl,-⟩:=hx.int;exact hK.out _ _ ⟨o,l,c,rfl,hx⟩ hb'
 refine R7.Chain.call (fun xs v w=>∃ o l c,v=.agg #[.string ⟨#[120]⟩,.int .i64 0,.bool false,.slice o l c,.bool false,.slice none 0 0]/\VC w (.agg #[.int .i64 0,.bool false,.slice o l c,.bool false,.slice none 0 0]) (.I 3)) (fun _ _ _ _ h hb=>by obtain⟨o,l,c,h1,h2⟩:=h;exact⟨o,l,c,h1,h2.below hb⟩) (fun _ _ _ _ _ _ h _=>by obtain⟨q,hq,_⟩:=h;exact absurd hq (Nat.not_lt_zero _)) (by rfl) (fun T xs wr hA=>?_) ?_
 ·have e17:=hA.tm 7 17 (by rfl) (by rfl);have f17:xs 7=_:=hA.fa 7 (by rfl)
  (try simp (disch:=first | rfl | decide) only [R7.mask_in] at f17)
  rw[f17] at e17;clear f17;have hsw:=(hA.be 0 (Nat.zero_le _) (fun _ _=>Nat.zero_le _)).size;have e20:=hA.tm 10 20 (by rfl) (by rfl);have hF10:∃ o l c,(xs 10)=.agg #[.int .i64 0,.bool false,.slice o l c,.bool false,.slice none 0 0]/\VC wr (.agg #[.int .i64 0,.bool false,.slice o l c,.bool false,.slice none 0 0]) (.I 3):=hA.fa 10 (by rfl);obtain⟨o10,l10,c10,e10,hc10⟩:=hF10;clear hA;refine⟨((Rely.wanted_at rfl (by rfl) e17).trans (by rfl)),fun K hK=>?_⟩;go_simp
  exact hK.out _ _ ⟨_,_,_,rfl,hc10⟩ (Below.refl _ _)
 refine R7.Chain.call (fun xs v w=>∃ g,v=.slice (some ⟨g,0,none⟩) 1 1/\EL w (.slice (some ⟨g,0,none⟩) 1 1) [(⟨#[120]⟩,.I 3)]) (fun _ _ _ _ h hb=>by obtain⟨g,h1,h2⟩:=h;exact⟨g,h1,h2.below hb⟩) (fun _ _ _ _ _ _ h _=>by obtain⟨q,hq,_⟩:=h;exact absurd hq (Nat.not_lt_zero _)) (by rfl) (fun T xs wr hA=>?_) ?_
 ·have e17:=hA.tm 7 17 (by rfl) (by rfl);have f17:xs 7=_:=hA.fa 7 (by rfl)
  (try simp (disch:=first | rfl | decide) only [R7.mask_in] at f17)
  rw[f17] at e17;clear f17;have hsw:=(hA.be 0 (Nat.zero_le _) (fun _ _=>Nat.zero_le _)).size;have e21:=hA.tm 11 21 (by rfl) (by rfl);have hF11:∃ o l c,(xs 11)=.agg #[.string ⟨#[120]⟩,.int .i64 0,.bool false,.slice o l c,.bool false,.slice none 0 0]/\VC wr (.agg #[.int .i64 0,.bool false,.slice o l c,.bool false,.slice none 0 0]) (.I 3):=hA.fa 11 (by rfl);obtain⟨o11,l11,c11,e11,hc11⟩:=hF11;clear hA;refine⟨((Rely.wanted_at rfl (by rfl) e17).trans (by rfl)),fun K hK=>?_⟩;go_simp
  exact hK.out _ _ ⟨_,rfl,EL.one (made_at _ _ _ rfl) (hc11.below ((Below.refl _ _).alloc (Nat.le_refl _) _))⟩ ((Below.refl _ _).alloc (Nat.le_refl _) _)
 refine R7.Chain.call (fun xs v w=>v=.bool false) (fun _ _ _ _ h _=>h) (fun _ _ _ _ _ h _ _=>h) (by rfl) (fun T xs wr hA=>?_) ?_
 ·have e17:=hA.tm 7 17 (by rfl) (by rfl);have f17:xs 7=_:=hA.fa 7 (by rfl)
  (try simp (disch:=first | rfl | decide) only [R7.mask_in] at f17)
  rw[f17] at e17;clear f17;have hsw:=(hA.be 0 (Nat.zero_le _) (fun _ _=>Nat.zero_le _)).size;have e18:=hA.tm 8 18 (by rfl) (by rfl);have f18:xs 8=_:=hA.fa 8 (by rfl)
  (try simp (disch:=first | rfl | decide) only [R7.mask_in] at f18)
  rw[f18] at e18;clear f18;have e22:=hA.tm 12 22 (by rfl) (by rfl);have hbw:=undrew (hA.be x7.heap.size (Nat.le_refl _) (fun q h=>absurd h (Nat.not_lt_zero q)));have hfw:=HF.out.below hbw;have hF12:∃ g,(xs 12)=.slice (some ⟨g,0,none⟩) 1 1/\EL wr (.slice (some ⟨g,0,none⟩) 1 1) [(⟨#[120]⟩,.I 3)]:=hA.fa 12 (by rfl);obtain⟨g12,e12,hc12⟩:=hF12;clear hA;refine⟨((Rely.wanted_at rfl (by rfl) e17).trans (by rfl)),fun K hK=>?_⟩;go_simp
  refine (holds_p 3 _ _ [(⟨#[120]⟩,.I 3)] FX tS _ hfw hc12 rtFX (smFX _ (by rw[rho_x];decide))).mono ?_;rintro e w' ⟨rfl,hb'⟩;exact hK.out _ _ (by rw[evFX,rho_x];rfl) hb'
 refine R7.Chain.det ?_ (by rfl) (fun T xs wr hA=>?_) ?_
 rotate_left 1
 ·have e17:=hA.tm 7 17 (by rfl) (by rfl);have f17:xs 7=_:=hA.fa 7 (by rfl)
  (try simp (disch:=first | rfl | decide) only [R7.mask_in] at f17)
  rw[f17] at e17;clear f17;have e23:=hA.tm 13 23 (by rfl) (by rfl);have f23:xs 13=(.bool false):=hA.fa 13 (by rfl);rw[f23] at e23;clear f23;clear hA;refine⟨((Rely.wanted_at rfl (by rfl) e17).trans (by rfl)),?_⟩;go_simp<;>(try with_reducible rfl)
 refine R7.Chain.det ?_ (by rfl) (fun T xs wr hA=>?_) ?_
 rotate_left 1
 ·have e17:=hA.tm 7 17 (by rfl) (by rfl);have f17:xs 7=_:=hA.fa 7 (by rfl)
  (try simp (disch:=first | rfl | decide) only [R7.mask_in] at f17)
  rw[f17] at e17;clear f17;have e24:=hA.tm 14 24 (by rfl) (by rfl);have f24:xs 14=_:=hA.fa 14 (by rfl)
  (try simp (disch:=first | rfl | decide) only [R7.mask_in] at f24)
  rw[f24] at e24;clear f24;clear hA;refine⟨(by rfl),?_⟩;go_simp<;>(try with_reducible rfl)
 refine R7.Chain.det ?_ (by rfl) (fun T xs wr hA=>?_) ?_
 rotate_left 1
 ·have e25:=hA.tm 15 25 (by rfl) (by rfl);have f25:xs 15=_:=hA.fa 15 (by rfl)
  (try simp (disch:=first | rfl | decide) only [R7.mask_in] at f25)
  rw[f25] at e25;clear f25;clear hA;refine⟨(by rfl),?_⟩;go_simp<;>(try with_reducible rfl)
 refine R7.Chain.det ?_ (by rfl) (fun T xs wr hA=>?_) ?_
 rotate_left 1
 ·have e26:=hA.tm 16 26 (by rfl) (by rfl);have f26:xs 16=_:=hA.fa 16 (by rfl)
  (try simp (disch:=first | rfl | decide) only [R7.mask_in] at f26)
  rw[f26] at e26;clear f26;have e1:=hA.pre 1 (by kernel_rfl);simp only[gsa,gsc,gsz] at e1;have hBq:wr.heap[kf]?=_:=(hA.bl _ hlt_f (fun q h=>absurd h (Nat.not_lt_zero _))).trans HBf.out;have q0:=cell_at (v:=.int .i64 15) hBq 0 rfl;have q1:=cell_at (v:=.bool b) hBq 1 rfl;have q2:=cell_at (v:=.slice ao l c) hBq 2 rfl;have q3:=cell_at (v:=.string ⟨#[]⟩) hBq 3 rfl;have q4:=cell_at (v:=.slice ko kl kc) hBq 4 rfl;clear hBq;clear hA;refine⟨((Rely.wanted_at rfl (by rfl) e26).trans (by rfl)),?_⟩;go_simp<;>(try with_reducible rfl)
 refine R7.Chain.call (fun xs v w=>v=.int .i64 5) (fun _ _ _ _ h _=>h) (fun _ _ _ _ _ h _ _=>h) (by rfl) (fun T xs wr hA=>?_) ?_
 ·have e26:=hA.tm 16 26 (by rfl) (by rfl);have f26:xs 16=_:=hA.fa 16 (by rfl)
  (try simp (disch:=first | rfl | decide) only [R7.mask_in] at f26)
  rw[f26] at e26;clear f26;have hsw:=(hA.be 0 (Nat.zero_le _) (fun _ _=>Nat.zero_le _)).size;have e27:=hA.tm 17 27 (by rfl) (by rfl);have f27:xs 17=_:=hA.fa 17 (by rfl)
  (try simp (disch:=first | rfl | decide) only [R7.mask_in] at f27)
  rw[f27] at e27;clear f27;have hbw:=undrew (hA.be x7.heap.size (Nat.le_refl _) (fun q h=>absurd h (Nat.not_lt_zero q)));have hfw:=HF.out.below hbw;clear hA;refine⟨((Rely.wanted_at rfl (by rfl) e26).trans (by rfl)),fun K hK=>?_⟩;go_simp
  refine (size_p 3 _ FX tS _ hfw (by rw[szFX];decide)).mono ?_;rintro e w' ⟨rfl,hb'⟩;exact hK.out _ _ (by rw[szFX];rfl) hb'
 refine R7.Chain.det ?_ (by rfl) (fun T xs wr hA=>?_) ?_
 rotate_left 1
 ·have e26:=hA.tm 16 26 (by rfl) (by rfl);have f26:xs 16=_:=hA.fa 16 (by rfl)
  (try simp (disch:=first | rfl | decide) only [R7.mask_in] at f26)
  rw[f26] at e26;clear f26;have e28:=hA.tm 18 28 (by rfl) (by rfl);have f28:xs 18=(.int .i64 5):=hA.fa 18 (by rfl);rw[f28] at e28;clear f28;clear hA;refine⟨((Rely.wanted_at rfl (by rfl) e26).trans (by rfl)),?_⟩;go_simp<;>(try with_reducible rfl)
 refine R7.Chain.det ?_ (by rfl) (fun T xs wr hA=>?_) ?_
 rotate_left 1
 ·have e26:=hA.tm 16 26 (by rfl) (by rfl);have f26:xs 16=_:=hA.fa 16 (by rfl)
  (try simp (disch:=first | rfl | decide) only [R7.mask_in] at f26)
  rw[f26] at e26;clear f26;have e29:=hA.tm 19 29 (by rfl) (by rfl);have f29:xs 19=_:=hA.fa 19 (by rfl)
  (try simp (disch:=first | rfl | decide) only [R7.mask_in] at f29)
  rw[f29] at e29;clear f29;clear hA;refine⟨(by rfl),?_⟩;go_simp<;>(try with_reducible rfl)
 refine R7.Chain.det ?_ (by rfl) (fun T xs wr hA=>?_) ?_
 rotate_left 1
 ·have e30:=hA.tm 20 30 (by rfl) (by rfl);have f30:xs 20=_:=hA.fa 20 (by rfl)
  (try simp (disch:=first | rfl | decide) only [R7.mask_in] at f30)
  rw[f30] at e30;clear f30;clear hA;refine⟨(by rfl),?_⟩;go_simp<;>(try with_reducible rfl)
 refine R7.Chain.done (fun xs x8 hL=>?_);obtain⟨⟨hbe,hbl⟩,hf,-,-⟩:=hL;have f0:xs 0=_:=hf 0 (by decide)
 (try simp (disch:=first | rfl | decide) only [R7.mask_in] at f0)
 have f1:xs 1=(.bool true):=hf 1 (by decide);have f2:xs 2=_:=hf 2 (by decide)
 (try simp (disch:=first | rfl | decide) only [R7.mask_in] at f2)
 have f3:xs 3=_:=hf 3 (by decide)
 (try simp (disch:=first | rfl | decide) only [R7.mask_in] at f3)
 have f4:xs 4=_:=hf 4 (by decide)
 (try simp (disch:=first | rfl | decide) only [R7.mask_in] at f4)
 have f5:xs 5=(.bool true):=hf 5 (by decide);have f6:xs 6=_:=hf 6 (by decide)
 (try simp (disch:=first | rfl | decide) only [R7.mask_in] at f6)
 have f7:xs 7=_:=hf 7 (by decide)
 (try simp (disch:=first | rfl | decide) only [R7.mask_in] at f7)
 have f8:xs 8=_:=hf 8 (by decide)
 (try simp (disch:=first | rfl | decide) only [R7.mask_in] at f8)
 have F9:∃ b o l c,(xs 9)=.agg #[.bool b,.slice o l c]/\CI x8 (.agg #[.bool b,.slice o l c]) 3 2:=hf 9 (by decide);have F10:∃ o l c,(xs 10)=.agg #[.int .i64 0,.bool false,.slice o l c,.bool false,.slice none 0 0]/\VC x8 (.agg #[.int .i64 0,.bool false,.slice o l c,.bool false,.slice none 0 0]) (.I 3):=hf 10 (by decide);have F11:∃ o l c,(xs 11)=.agg #[.string ⟨#[120]⟩,.int .i64 0,.bool false,.slice o l c,.bool false,.slice none 0 0]/\VC x8 (.agg #[.int .i64 0,.bool false,.slice o l c,.bool false,.slice none 0 0]) (.I 3):=hf 11 (by decide);have F12:∃ g,(xs 12)=.slice (some ⟨g,0,none⟩) 1 1/\EL x8 (.slice (some ⟨g,0,none⟩) 1 1) [(⟨#[120]⟩,.I 3)]:=hf 12 (by decide);have f13:xs 13=(.bool false):=hf 13 (by decide);have f14:xs 14=_:=hf 14 (by decide)
 (try simp (disch:=first | rfl | decide) only [R7.mask_in] at f14)
 have f15:xs 15=_:=hf 15 (by decide)
 (try simp (disch:=first | rfl | decide) only [R7.mask_in] at f15)
 have f16:xs 16=_:=hf 16 (by decide)
 (try simp (disch:=first | rfl | decide) only [R7.mask_in] at f16)
 have f17:xs 17=_:=hf 17 (by decide)
 (try simp (disch:=first | rfl | decide) only [R7.mask_in] at f17)
 have f18:xs 18=(.int .i64 5):=hf 18 (by decide);have f19:xs 19=_:=hf 19 (by decide)
 (try simp (disch:=first | rfl | decide) only [R7.mask_in] at f19)
 have f20:xs 20=_:=hf 20 (by decide)
 (try simp (disch:=first | rfl | decide) only [R7.mask_in] at f20)
 have f21:xs 21=_:=hf 21 (by decide)
 (try simp (disch:=first | rfl | decide) only [R7.mask_in] at f21)
 have hb0:Below 0 x7 x8:=undrew (hbe 0 (Nat.zero_le _) (fun _ _=>Nat.zero_le _));have hgr:∀ j,j<x7.heap.size->(∀ q,q<0->(fun q=>0) q≠j)->x8.heap[j]?=x7.heap[j]?:=hbl;clear hbe hbl hf;have hb:Below x7.heap.size x7 x8:=⟨hb0.os,hb0.tape,hb0.output,hb0.size,fun q hq=>hgr q hq (fun q h=>absurd h (Nat.not_lt_zero _))⟩
 refine R7.rest_done ?_;simp only[R7.fill,t5_,t6_,t7_,f0,f1,f2,f3,f4,f5,f6,f7,f8,f13,f14,f15,f16,f17,f18,f19,f20,f21];clear hb0 hgr hog hlt_f f0 f1 f2 f3 f4 f5 f6 f7 f8 f13 f14 f15 f16 f17 f18 f19 f20 f21;replace HBf:=kBV hb HBf;replace HBy:=kBV hb HBy;replace HW:=Lib.hid (HW.out.trans (hb.mono HW.out.size));replace HF:=Lib.hid (HF.out.below hb);replace HEL:=Lib.hid (HEL.out.below hb);replace hb:=Lib.hid hb;go_wp2_with fail
 go_ret
 exact⟨rfl,HW.out⟩
attribute [local go_sem] fieldV0 fieldV1 fieldV2 fieldV3
attribute [local go_sem] fieldV0 fieldV1 fieldV2 fieldV3
theorem El.Row.other2 {α:Type} {E:El α} {w w':World} {B g:Nat} {v:Value} {el:List α} (h:E.Row w B v el) (hg:w.grownBy w' (some g)) (hne:∀ j,v.ownBlock=some j->j≠g) {e:TypeId} (hf:Fr e w w') (hok:E.ok e):E.Row w' B v el:=by
 refine⟨?_,fun j hj=>?_,fun q hq=>E.fr hok hf (h.rd q hq)⟩
 ·rcases hr:v.ownBlock with _ | j
  ·exact World.ownsRow.kept h.own hg (.inl hr)
  exact World.ownsRow.kept h.own hg (.inr (by rw[hr];intro e;injection e with e;exact hne j hr e))
 obtain⟨c,hc,h32⟩:=h.n32 j hj;exact⟨c,(hg.block j (lt_of_block hc) (fun e=>by injection e with e;exact hne j hj e)).trans hc,h32⟩
theorem any_stepL {P:Program} {ops:Array Oper} {Q:Exit->Act->World->Prop} {fuel:Nat} {listed:Array Bool} {a:Act} {w:World} (R:List Nat) (hr:Region.ready .any ops listed=R) (hne:R ≠ [])
  (h:∀ i ∈ R,∃ o,ops[i]?=some o/\o.guard=none/\∀ K:Act->World->Prop,Hid (∀ a w,wpAny P .any ops Q fuel (listed.setIfInBounds i true) a w->K a w)->o.wp P a w K Q):wpAny P .any ops Q (fuel+1) listed a w:=by
 refine⟨fun h0=>absurd (hr.symm.trans h0) hne,fun i hi=>?_⟩;rw[hr] at hi;obtain⟨o,ho,hg,hk⟩:=h i hi;unfold wpOp;rw[ho];simp only[Region.wanted,hg,if_true];exact Or.inl (hk _ (Lib.hid fun _ _ h=>h))
def fR:El FU where
 e:=29
 t:=27
 n:=5
 b:=80
 z:=.agg #[.int .i64 0,.bool false,.slice none 0 0,.string ⟨#[]⟩,.slice none 0 0]
 f:=fC
 R _ _:=True
 ok _:=True
 pos:=by decide
 by_:=by decide
 zs:=rfl
 z32:=by intro u hu z;simp only[Value.cells,List.mem_cons,List.not_mem_nil,or_false] at hu;rcases hu with rfl | rfl | rfl | rfl | rfl<;>(intro h;cases h)
 ht:=Tryz.underlying27
 info:=infoForm
 len _:=rfl
 one n:=by
  intro u hu;simp only[fC,List.mem_cons,List.not_mem_nil,or_false] at hu;rcases hu with rfl | rfl | rfl | rfl | rfl<;>rfl
 n32 n:=by
  intro u hu z;simp only[fC,List.mem_cons,List.not_mem_nil,or_false] at hu;rcases hu with rfl | rfl | rfl | rfl | rfl<;>(intro h;cases h)
 fr _ _ _:=trivial
 own:=trivial
def zFU:FU:=⟨0,n0,⟨#[]⟩,none,0,0⟩
theorem set_flat5F (l:List FU) (i:Nat) (u:FU) (hi:i<l.length):(((((l.flatMap fC).set (i*5) (.int .i64 u.k)).set (i*5+1) (.bool (decide (u.n.z<0)))).set (i*5+2) (.slice u.n.o u.n.l u.n.c)).set (i*5+3) (.string u.nm)).set (i*5+4) (.slice u.ko u.kl u.kc)=(l.set i u).flatMap fC:=by
 induction l generalizing i with
 | nil=>simp at hi
 | cons b l ih =>
  cases i with
  | zero=>rfl
  | succ i =>
   have h1:=ih i (by simpa using hi);simp only[List.flatMap_cons,fC,List.cons_append,List.nil_append,List.set_cons_succ,Nat.add_mul,Nat.one_mul,show i*5+5=i*5+1+1+1+1+1 from rfl,show i*5+1+1+1+1+1+1=(i*5+1)+1+1+1+1+1 from rfl,show i*5+1+1+1+1+1+2=(i*5+2)+1+1+1+1+1 from rfl,show i*5+1+1+1+1+1+3=(i*5+3)+1+1+1+1+1 from rfl,show i*5+1+1+1+1+1+4=(i*5+4)+1+1+1+1+1 from rfl];rw[<-h1]
def putF (w:World) (g i:Nat) (u:FU):World:=((((w.setCell ⟨g,i*5,none⟩ (.int .i64 u.k)).setCell ⟨g,i*5+1,none⟩ (.bool (decide (u.n.z<0)))).setCell ⟨g,i*5+2,none⟩ (.slice u.n.o u.n.l u.n.c)).setCell ⟨g,i*5+3,none⟩ (.string u.nm)).setCell ⟨g,i*5+4,none⟩ (.slice u.ko u.kl u.kc)
theorem putF_grown (w:World) (g i:Nat) (u:FU):w.grownBy (putF w g i u) (some g):=by
 unfold putF;refine grown_setCell ?_ _;refine grown_setCell ?_ _;refine grown_setCell ?_ _;refine grown_setCell ?_ _;refine grown_setCell ?_ _;exact World.grownBy.refl _ _
theorem Row.setF {w:World} {B g n kc:Nat} {el:List FU} (h:fR.Row w B (.slice (some ⟨g,0,none⟩) n kc) el) (i:Nat) (hi:i<el.length) (hn:n=el.length) (u:FU) {w':World} (hw:w'=putF w g i u) :
  fR.Row w' B (.slice (some ⟨g,0,none⟩) n kc) (el.set i u)/\Fr fR.e w w':=by
 have hg:w.grownBy w' (some g):=by rw[hw];exact putF_grown w g i u
 unfold putF at hw;have h0:=h.own;rw[<-hn] at h0;have h1:=(World.ownsRow.stored (World.ownsRow.stored (World.ownsRow.stored (World.ownsRow.stored (World.ownsRow.stored h0 (i*5) (.int .i64 u.k)).1 (i*5+1) (.bool (decide (u.n.z<0)))).1 (i*5+2) (.slice u.n.o u.n.l u.n.c)).1 (i*5+3) (.string u.nm)).1 (i*5+4) (.slice u.ko u.kl u.kc)).1;have h2:=set_flat5F el i u hi;have e:fR.f=fC:=rfl;rw[e,h2,<-hw] at h1;obtain⟨c,hc,h32⟩:=h.n32 g rfl;have hc':=heap_setCell_same _ g (i*5+4) _ _ (.slice u.ko u.kl u.kc) (heap_setCell_same _ g (i*5+3) _ _ (.string u.nm) (heap_setCell_same _ g (i*5+2) _ _ (.slice u.n.o u.n.l u.n.c) (heap_setCell_same _ g (i*5+1) _ _ (.bool (decide (u.n.z<0))) (heap_setCell_same _ g (i*5) _ _ (.int .i64 u.k) hc))));rw[<-hw] at hc'
 exact h.put i u hg h1 ⟨_,hc',n32_set (n32_set (n32_set (n32_set (n32_set h32 _ (by intro z e;cases e)) _ (by intro z e;cases e)) _ (by intro z e;cases e)) _ (by intro z e;cases e)) _ (by intro z e;cases e)⟩ hn trivial
theorem Row.atF {w:World} {B g n kc:Nat} {el:List FU} (h:fR.Row w B (.slice (some ⟨g,0,none⟩) n kc) el) (hn:n=el.length) {i:Nat} (hi:i<el.length) :
  (w.cell? ⟨g,i*5,none⟩=some (.int .i64 el[i].k)/\w.cell? ⟨g,i*5+1,none⟩=some (.bool (decide (el[i].n.z<0)))/\w.cell? ⟨g,i*5+2,none⟩=some (.slice el[i].n.o el[i].n.l el[i].n.c)/\w.cell? ⟨g,i*5+3,none⟩=some (.string el[i].nm)/\w.cell? ⟨g,i*5+4,none⟩=some (.slice el[i].ko el[i].kl el[i].kc)) /\
  w.frozen? ⟨g,i*5,none⟩=false/\w.frozen? ⟨g,i*5+1,none⟩=false/\w.frozen? ⟨g,i*5+2,none⟩=false/\w.frozen? ⟨g,i*5+3,none⟩=false/\w.frozen? ⟨g,i*5+4,none⟩=false:=by
 obtain⟨c,hc,h32⟩:=h.n32 g rfl
 have key:∀ j v,(fC el[i])[j]?=some v->w.cell? ⟨g,i*5+j,none⟩=some v:=by
  intro j v hj;have hj5:j<5:=by have:=(List.getElem?_eq_some_iff.1 hj).1;simpa [fC] using this
  have h0:=h.own;rw[<-hn] at h0;rw[World.ownsRow.cellAt h0 (i*5+j) (by show i*5+j<n*5;omega)];exact (flat_atV fR.f fR.len el i j hi hj5).trans hj
 exact⟨⟨key 0 _ rfl,key 1 _ rfl,key 2 _ rfl,key 3 _ rfl,key 4 _ rfl⟩,froz_at hc _,froz_at hc _,froz_at hc _,froz_at hc _,froz_at hc _⟩
theorem fR_append {w:World} {B:Nat} {v:Value} {us:List FU} (h:fR.Row w B v us) {o:Oper} {a:Act} {K:Act->World->Prop} {Q:Exit->Act->World->Prop} (s x:Operand)
  (ho:o.op=.call { callee:=.builtin .append,args:=#[s,x],argTypes:=#[27,27] }) (hs:a.eval s=v) (g:Nat) (u:FU) (hx:a.eval x=.slice (some ⟨g,0,none⟩) 1 1) (hB:w.heap[g]?=some (.cells (fC u).toArray 29 (0,0))) (hlen:us.length<=1000) (hb:B<=w.heap.size)
  (hK:∀ g' cap w',fR.Row w' B (.slice (some ⟨g',0,none⟩) (us.length+1) cap) (us++[u])->Fr fR.e w w'->Below B w w'->w.grownBy w' v.ownBlock->FreshF w v (.slice (some ⟨g',0,none⟩) (us.length+1) cap)->us.length+1<=cap->cap<=maxLen->K (a.put o.dst (.slice (some ⟨g',0,none⟩) (us.length+1) cap)) w'):o.wp Tryz.prog a w K Q:=by
 have hnews:∀ j q,(fC u)[j]?=some q->w.cell? ((⟨g,0,none⟩:Addr).add j)=some q:=fun j q hj=>World.news_of_block hB j q (by simpa using hj)
 have hAt:fR.At w (.slice (some ⟨g,0,none⟩) 1 1) [u]:=El.At.block (E:=fR) (el:=[u]) (by rw[hB];simp only[List.flatMap_cons,List.flatMap_nil,List.append_nil];rfl) (show 1<=maxLen by decide) (fun _ _=>trivial);obtain⟨v',w',hr,h2,h3,h4,h5⟩:=h.run hAt o.type (by simp;omega) hb;obtain⟨i,hi,hz,hz1,hz2⟩:=info_parts fR.info
 have hf:FreshF w v v':=by
  have hown:=h.own;rw[<-hz1] at hown;exact append_freshF (P:=Tryz.prog) fR.ht hi hz hown (c:=1) (m:=1) (news:=fC u) (by rw[hz1];rfl) hnews (fR.one u) (by omega) (by rw[hz2];show (us.length+1)*80<=_;omega) (by decide) (by rw[hz1];exact fR.zs) (by rw[hz1];exact fR.pos) hr
 have hsh:∃ g' cap,v'=.slice (some ⟨g',0,none⟩) (us.length+1) cap/\us.length+1<=cap/\cap<=maxLen:=by
  rcases h2.own.2 with ⟨-,h0⟩ | ⟨g',cap,cur,hv,_,_,hn,hc,_⟩
  ·simp at h0
  refine⟨g',cap,?_,?_,hc⟩
  ·rw[hv];simp
  simpa using hn
 obtain⟨g',cap,rfl,hn1,hn2⟩:=hsh;unfold Oper.wp execOp;simp only[ho,resolve,invoke,builtin,Sem.run_bind,Sem.run_pure,Result.andThen_ok,List.map_toArray,List.map_cons,List.map_nil,hs,hx];rw[show (Builtin.append_ #[27,27] o.type #[v,.slice (some ⟨g,0,none⟩) 1 1]).run Tryz.prog w=_ from hr];exact hK _ _ _ h2 h3 h4 h5 hf hn1 hn2
structure RU where
 o:Int
 b:Bool
 ao:Option Addr
 l:Nat
 c:Nat
 nm:ByteArray
 ko:Option Addr
 kl:Nat
 kc:Nat
def rC (x:RU):List Value:=[.int .i64 x.o,.bool x.b,.slice x.ao x.l x.c,.string x.nm,.slice x.ko x.kl x.kc]
def rV (x:RU):Value:=.agg #[.int .i64 x.o,.bool x.b,.slice x.ao x.l x.c,.string x.nm,.slice x.ko x.kl x.kc]
def RawF (w:World):Nat->RU->Prop
 | 0,_=>True
 | d+1,x=>IR x.o/\RNum w (.slice x.ao x.l x.c)/\x.nm.size<=9223372036854775807/\(x.kl<=x.kc/\x.kc<=maxLen)/\∀ i,i<x.kl->∃ y,AtF 5 w x.ko i (rC y)/\RawF w d y
theorem RawF.below {w w':World} (hb:Below w.heap.size w w'):∀ {d:Nat} {x:RU},RawF w d x->RawF w' d x
 | 0,_,h=>h
 | d+1,x,⟨h1,h2,h3,h4,h5⟩=>by
  refine⟨h1,h2.below hb,h3,h4,fun i hi=>?_⟩;obtain⟨y,a1,a2⟩:=h5 i hi;exact⟨y,a1.keep fun a ha=>hb.block _ (a1.lt a ha),a2.below hb⟩
def zRU:RU:=⟨0,false,none,0,0,⟨#[]⟩,none,0,0⟩
theorem raw_zero (w:World) (d:Nat):RawF w d zRU:=by
 cases d with
 | zero=>trivial
 | succ d=>exact⟨by unfold IR zRU;decide,⟨[],Sl.nil _ _,Dig.nil _⟩,by decide,⟨Nat.le_refl _,Nat.zero_le _⟩,fun i hi=>absurd hi (Nat.not_lt_zero i)⟩
def NmOk (o:Int) (nm:ByteArray):Prop:=
 if o=1 then nm=⟨#[105,48]⟩\/nm=⟨#[105,49]⟩\/nm=⟨#[105,50]⟩
 else if o=8 then nm=⟨#[108,48]⟩\/nm=⟨#[108,49]⟩
 else if o=14 then nm=⟨#[98,48]⟩\/nm=⟨#[98,49]⟩
 else nm=⟨#[]⟩
def Tm:Nat->F->Prop
 | 0,_=>False
 | d+1,t=>NmOk t.op t.name/\t.num.natAbs<L32 ^ 4/\(t.op≠0->t.op≠3->t.op≠5->t.num=0)/\t.kids.length<=3/\∀ k ∈ t.kids,Tm d k
def TamePost (d:Nat) (s:Int) (w:World) (e:Ending) (w':World):Prop:=∃ v t,e=.returned v/\FC w' (fun b=>w.heap.size<=b) d v t/\rt t=true/\srt t.op=s/\Tm d t/\Below w.heap.size w w'
structure TSt (w:World) (B kf kd kr ko:Nat) (x:RU) (dd:Int) (op:Int) (sg:Bool) (ao:Option Addr) (l c:Nat) (nm:ByteArray) (z:Int) (d:Nat) (ts:List F) (v:Value) (us:List FU) (wr:World):Prop where
 ho:wr.heap[ko]?=some (.cells #[.int .i64 op,.bool sg,.slice ao l c,.string nm,v] 29 (0,0))
 hf:wr.heap[kf]?=some (.cells #[.int .i64 x.o,.bool x.b,.slice x.ao x.l x.c,.string x.nm,.slice x.ko x.kl x.kc] 29 (0,0))
 hd:wr.heap[kd]?=some (.cells #[.int .i64 dd] 3 (0,0))
 hr:wr.heap[kr]?=some (.cells #[.int .i64 0,.bool false,.slice none 0 0,.string ⟨#[]⟩,.slice none 0 0] 29 (0,0))
 hz:CI wr (.agg #[.bool sg,.slice ao l c]) z 600
 row:fR.Row wr B v us
 len:us.length=ts.length
 tr:∀ q (h1:q<us.length) (h2:q<ts.length),FT wr (fun b=>B<=b/\v.ownBlock≠some b) d us[q] ts[q]
 good:∀ t ∈ ts,rt t=true/\Tm d t
 low:kf<B/\kd<B/\kr<B/\ko<B
 dis:kf≠ko/\kd≠ko/\kr≠ko
 hi:w.heap.size<=ko
 be:Below w.heap.size w wr
 sz:B<=wr.heap.size
theorem TSt.next {w:World} {B kf kd kr ko:Nat} {x:RU} {dd op:Int} {sg:Bool} {ao:Option Addr} {l c:Nat} {nm:ByteArray} {z:Int} {d:Nat} {ts:List F} {v:Value} {us:List FU} {wr:World} (h:TSt w B kf kd kr ko x dd op sg ao l c nm z d ts v us wr)
  {w5 w6 w8 wc:World} (hb:Below wr.heap.size wr w5) (hc:wr.heap.size<=wc.heap.size) {y:FU} {t:F} (hy:FT w5 (fun b=>wc.heap.size<=b) d y t) (hgood:rt t=true/\Tm d t) {g cap:Nat} (hfr:Fr 29 w5 w6) (hg:w5.grownBy w6 v.ownBlock) (hfresh:FreshF w5 v (.slice (some ⟨g,0,none⟩) (us.length+1) cap))
  (hrow8:fR.Row w8 B (.slice (some ⟨g,0,none⟩) (us.length+1) cap) (us++[y])) (ho8:w8.heap[ko]?=some (.cells #[.int .i64 op,.bool sg,.slice ao l c,.string nm,.slice (some ⟨g,0,none⟩) (us.length+1) cap] 29 (0,0))) (hoth:∀ k,k<w6.heap.size->k≠g->k≠ko->w8.heap[k]?=w6.heap[k]?) (hkn:KN w6 w8) (hos:w8.os=w6.os) (htp:w8.tape=w6.tape) (hou:w8.output=w6.output) (hsz:w6.heap.size<=w8.heap.size) :
  TSt w B kf kd kr ko x dd op sg ao l c nm z d (ts++[t]) (.slice (some ⟨g,0,none⟩) (us.length+1) cap) (us++[y]) w8:=by
 have hgB:B<=g:=(hrow8.ge rfl).1;have hs5:=hb.size;have hs6:=hg.size;have hB:=h.sz;have hown:∀ j,v.ownBlock=some j->B<=j/\j<wr.heap.size:=fun j hj=>h.row.ge hj
 have low:∀ k,k<B->k≠ko->w8.heap[k]?=wr.heap[k]?:=fun k hk hko=>by
  rw[hoth k (by omega) (by omega) hko,hg.block k (by omega) (fun e=>by have:=(hown k e.symm).1;omega),hb.block k (by omega)]
 obtain⟨l1,l2,l3,l4⟩:=h.low;obtain⟨d1,d2,d3⟩:=h.dis;have kn:KN wr w8:=((KN.of_below hb).trans (KN.of_fr hfr)).trans hkn;refine⟨ho8,(low _ l1 d1).trans h.hf,(low _ l2 d2).trans h.hd,(low _ l3 d3).trans h.hr,h.hz.kn kn,hrow8,by simp[h.len],fun q h1 h2=>?_,fun u hu=>?_,h.low,h.dis,h.hi,?_,by omega⟩
 ·by_cases hq:q<us.length
  ·have e1:(us++[y])[q]=us[q]:=List.getElem_append_left hq;have hq2:q<ts.length:=by rw[<-h.len];exact hq
   have e2:(ts++[t])[q]=ts[q]:=List.getElem_append_left hq2;rw[e1,e2]
   have hne:∀ b,(B<=b/\v.ownBlock≠some b)/\b<wr.heap.size->b≠g:=fun b hb' e=>by
    subst e;rcases hfresh b rfl with h' | h'
    ·exact hb'.1.2 h'
    omega
   refine ((h.tr q hq hq2).lt.keep (w':=w8) (fun b hb'=>?_) kn).mono fun b hb'=>⟨hb'.1.1,fun e=>hne b hb' (by injection e with e;exact e.symm)⟩
   rw[hoth b (by omega) (hne b hb') (by omega),hg.block b (by omega) (fun e=>hb'.1.2 e.symm),hb.block b hb'.2]
  have hqe:q=us.length:=by simp at h1;omega
  subst hqe;have e1:(us++[y])[us.length]=y:=by rw[List.getElem_append_right (Nat.le_refl _)];simp
  have e2:(ts++[t])[us.length]=t:=by rw[List.getElem_append_right (by rw[h.len];exact Nat.le_refl _)];simp[h.len]
  rw[e1,e2]
  have hne:∀ b,wc.heap.size<=b/\b<w5.heap.size->b≠g:=fun b hb' e=>by
   subst e;rcases hfresh b rfl with h' | h'
   ·have:=(hown b h').2;omega
   omega
  refine (hy.lt.keep (w':=w8) (fun b hb'=>?_) ((KN.of_fr hfr).trans hkn)).mono fun b hb'=>⟨by omega,fun e=>hne b hb' (by injection e with e;exact e.symm)⟩
  rw[hoth b (by omega) (hne b hb') (by omega),hg.block b hb'.2 (fun e=>by have:=(hown b e.symm).2;omega)]
 ·rcases List.mem_append.1 hu with hu | hu
  ·exact h.good u hu
  rw[List.mem_singleton] at hu;subst hu;exact hgood
 have hwo:=h.hi;have hbe:=h.be;have hbs:=hbe.size;refine⟨(hos.trans (hg.os.trans hb.os)).trans hbe.os,(htp.trans (hg.tape.trans hb.tape)).trans hbe.tape,(hou.trans (hg.output.trans hb.output)).trans hbe.output,by omega,fun k hk=>?_⟩;rw[low k (by omega) (by omega)];exact hbe.block k hk
def wdTab:List Bs:=[[78,117,109],[73,86,97,114],[65,100,100],[83,99,97,108,101],[77,117,108],[81,117,111],[76,101,110],[72,100],[76,86,97,114],[78,105,108],[67,111,110,115],[84,108],[84,114,117,101],[70,97,108,115,101],[66,86,97,114],[76,101],[69,113],[78,111,116],[65,110,100],[79,114],[73,102,102]]
def wd (o:Int):Bs:=wdTab.getD o.toNat []
def qt (nm:ByteArray):Bs:=34::(nm.data.toList++[34])
def numT (o z:Int):Bs:=if o=0\/z≠0 then 32::zText z else []
def namT (nm:ByteArray):Bs:=if nm=⟨#[]⟩ then [] else 32::qt nm
mutual
def txF:F->Bs
 | .node o z nm ks=>wd o++(numT o z++(namT nm++txK ks))
def txK:List F->Bs
 | []=>[]
 | k::l=>40::(txF k++txM l)
def txM:List F->Bs
 | []=>[41]
 | k::l=>44::32::(txF k++txM l)
end
theorem wd_len (o:Int):(wd o).length<=5:=by
 unfold wd
 by_cases h:o.toNat<21
 ·have:o.toNat=0\/o.toNat=1\/o.toNat=2\/o.toNat=3\/o.toNat=4\/o.toNat=5\/o.toNat=6\/o.toNat=7\/o.toNat=8\/o.toNat=9\/o.toNat=10\/o.toNat=11\/o.toNat=12\/o.toNat=13\/o.toNat=14\/o.toNat=15\/o.toNat=16\/o.toNat=17\/o.toNat=18\/o.toNat=19\/o.toNat=20:=by omega
  rcases this with e | e | e | e | e | e | e | e | e | e | e | e | e | e | e | e | e | e | e | e | e<;>rw[e]<;>decide
 have hn:wdTab.length<=o.toNat:=by show 21<=_;omega
 have:wdTab.getD o.toNat []=[]:=by simp[List.getD,List.getElem?_eq_none hn]
 rw[this];exact Nat.zero_le _
theorem zt_len4 {z:Int} (h:z.natAbs<L32 ^ 4):(zText z).length<=41:=by
 have h1:z.natAbs<10 ^ 40:=Nat.lt_of_lt_of_le h (by decide);have h2:=decDigits_len h1 (by decide);unfold zText
 split
 ·rw[lsc];omega
 omega
theorem nm_small {o:Int} {nm:ByteArray} (h:NmOk o nm):nm=⟨#[]⟩\/nm=⟨#[105,48]⟩\/nm=⟨#[105,49]⟩\/nm=⟨#[105,50]⟩\/nm=⟨#[108,48]⟩\/nm=⟨#[108,49]⟩\/nm=⟨#[98,48]⟩\/nm=⟨#[98,49]⟩:=by
 unfold NmOk at h
 split at h
 ·rcases h with h | h | h<;>simp[h]
 split at h
 ·rcases h with h | h<;>simp[h]
 split at h
 ·rcases h with h | h<;>simp[h]
 simp[h]
theorem nam_len {o:Int} {nm:ByteArray} (h:NmOk o nm):(namT nm).length<=5:=by
 rcases nm_small h with h | h | h | h | h | h | h | h<;>rw[h]<;>decide
def lenT:Nat->Nat
 | 0=>0
 | d+1=>60+3*(lenT d+2)
theorem tx_len:∀ (d:Nat) (t:F),Tm d t->(txF t).length<=lenT d
 | 0,t,h=>absurd h id
 | d+1,.node o z nm ks,h=>by
  obtain⟨h1,h2,h3,h4,h5⟩:=h;have hw:=wd_len o
  have hn:(numT o z).length<=42:=by
   unfold numT
   split
   ·rw[lsc];have:=zt_len4 h2;show _+1<=42;simp only[F.num] at this;omega
   exact Nat.zero_le _
  have hm:=nam_len h1
  have key:∀ l:List F,(∀ k ∈ l,Tm d k)->(txM l).length<=l.length*(lenT d+2)+1:=by
   intro l
   induction l with
   | nil=>intro _;simp[txM]
   | cons a l ih =>
    intro hl;have:=ih (fun k hk=>hl k (by simp[hk]));have ha:=tx_len d a (hl a (by simp));rw[txM,lsc,lsc,lsa,lsc,Nat.add_mul,Nat.one_mul]
    omega
  have hk:(txK ks).length<=ks.length*(lenT d+2)+1:=by
   cases ks with
   | nil=>simp[txK]
   | cons a l =>
    have:=key l (fun k hk=>h5 k (by show k ∈ a::l;simp[hk]));have ha:=tx_len d a (h5 a (by show a ∈ a::l;simp));rw[txK,lsc,lsa,lsc,Nat.add_mul,Nat.one_mul]
    omega
  have h3':ks.length*(lenT d+2)<=3*(lenT d+2):=Nat.mul_le_mul_right _ h4;simp only[F.name] at hm;rw[txF,lsa,lsa,lsa,lenT]
  omega
theorem txM_app (a:List F) (b:List F):txM (a++b)=(txM a).dropLast++txM b:=by
 induction a with
 | nil=>simp[txM]
 | cons k l ih =>
  have hne:txM l ≠ []:=by cases l<;>simp[txM]
  rw[List.cons_append,txM,txM,ih,List.dropLast_cons_of_ne_nil (by simp),List.dropLast_cons_of_ne_nil (by simp[hne]),List.dropLast_append_of_ne_nil hne]
  simp
def txJ (ks:List F) (j:Nat):Bs:=(txK (ks.take j)).dropLast
theorem txJ_zero (ks:List F):txJ ks 0=[]:=by simp[txJ,txK]
theorem txK_app (k:F) (l:List F) (b:F):txK (k::l++[b])=(txK (k::l)).dropLast++(44::32::(txF b++[41])):=by
 have hne:txM l ≠ []:=by cases l<;>simp[txM]
 rw[List.cons_append,txK,txK,txM_app,List.dropLast_cons_of_ne_nil (by simp[hne]),List.dropLast_append_of_ne_nil hne]
 simp[txM]
theorem txJ_one (ks:List F) (h:0<ks.length):txJ ks 1=40::txF ks[0]:=by
 cases ks with
 | nil=>simp at h
 | cons a l =>
  have e:txK [a]=(40::txF a)++[41]:=rfl
  show (txK [a]).dropLast=_
  rw[e,List.dropLast_concat];rfl
theorem txJ_next (ks:List F) (j:Nat) (h0:0<j) (h:j<ks.length):txJ ks (j+1)=txJ ks j++(44::32::txF ks[j]):=by
 unfold txJ;rw[List.take_succ_eq_append_getElem h]
 obtain⟨k,l,hk⟩:∃ k l,ks.take j=k::l:=by
  cases hks:ks.take j with
  | nil=>
   have h9:min j ks.length=0:=by rw[<-List.length_take,hks];rfl
   omega
  | cons k l=>exact⟨k,l,rfl⟩
 rw[hk,txK_app,show (44::32::(txF ks[j]++[41]):Bs)=(44::32::txF ks[j])++[41] from rfl,<-List.append_assoc,List.dropLast_concat]
theorem txJ_all (ks:List F) (h:0<ks.length):txJ ks ks.length++[41]=txK ks:=by
 unfold txJ;rw[List.take_length]
 have hl:∀ l:List F,txM l=(txM l).dropLast++[41]:=by
  intro l
  induction l with
  | nil=>simp[txM]
  | cons a l ih =>
   have hne:txM l ≠ []:=by cases l<;>simp[txM]
   rw[txM,List.dropLast_cons_of_ne_nil (by simp),List.dropLast_cons_of_ne_nil (by simp[hne]),List.dropLast_append_of_ne_nil hne];simp only[List.cons_append,List.append_assoc];rw[<-ih]
 cases ks with
 | nil=>simp at h
 | cons a l =>
  have hne:txM l ≠ []:=by cases l<;>simp[txM]
  rw[txK,List.dropLast_cons_of_ne_nil (by simp[hne]),List.dropLast_append_of_ne_nil hne,List.cons_append,List.append_assoc,<-hl l]
def nmTab:List ByteArray:=[⟨#[105,48]⟩,⟨#[105,49]⟩,⟨#[105,50]⟩,⟨#[108,48]⟩,⟨#[108,49]⟩,⟨#[98,48]⟩,⟨#[98,49]⟩]
theorem quoted:∀ nm ∈ nmTab,strOfNums (Lib.quoteZ Lib.goPrintTabs nm)=⟨(qt nm).toArray⟩:=by
 intro nm h;simp only[nmTab,List.mem_cons,List.not_mem_nil,or_false] at h;rcases h with rfl | rfl | rfl | rfl | rfl | rfl | rfl<;>kernel_rfl
end Go.Proofs.YtdkfnbbebpbhaaaGreatDoor
