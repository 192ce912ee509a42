/-
 Joined texts: LgZo.
-/
import Derived.Test.YtdkfnbbebpbhaaaJLogicEvals4
import Derived.Test.YtdkfnbbebpbhaaaJLogicEvals7
set_option maxHeartbeats 32000000
namespace Go.Proofs.Ytdkfnbbebpbhaaa
open Go.RowKit
set_option maxRecDepth 100000
set_option linter.unusedVariables false
set_option linter.unusedSimpArgs false
attribute [local go_sem] fieldV0 fieldV1 fieldV2 fieldV3
theorem tame6 (s:Int) (o:Int) (b:Bool) (ao:Option Addr) (l c:Nat) (nm:ByteArray) (ko:Option Addr) (kl kc:Nat) (w:World) (hs:s=0\/s=1\/s=2) (h:RawF w 6 ⟨o,b,ao,l,c,nm,ko,kl,kc⟩) :
  Calls Try.prog 7 #[.agg #[.int .i64 o,.bool b,.slice ao l c,.string nm,.slice ko kl kc],.int .i64 s,.int .i64 6] w (TamePost 6 s w):=tameF 5 (by decide) s o b ao l c nm ko kl kc w hs h
theorem evals_0 (x:RU) (ko:Option Addr) (kl kc:Nat) (p:Int) (K:Nat) (w:World) (hx:∀ d,RawF w d x) (hv:RVals w ko kl kc) (hK:bits BinOp.and IntKind.i64 p 255=(K:Int)) (hs:((K:Nat):Int).tmod 3=0) :
  Calls Try.prog 3 #[rV x,.slice ko kl kc,.int .i64 p] w fun e w'=>e=.returned (.bool true)/\Below w.heap.size w w':=by
 obtain⟨xo,xb,xao,xl,xc,xnm,xko,xkl,xkc⟩:=x;have HX:=Lib.hid (hx 6);have HV:=Lib.hid hv;unfold rV;simp only;clear hx hv;have HW:=Lib.hid (Below.refl w.heap.size w);go_enter Try.func3,Try.ntmps3
 obtain⟨x1,kf,ef,ekf,hbf,hkf,HBf⟩:=newV w #[.int .i64 xo,.bool xb,.slice xao xl xc,.string xnm,.slice xko xkl xkc] 29;replace HW:=Lib.hid (HW.out.trans (hbf.out.mono HW.out.size));replace HX:=Lib.hid (HX.out.below hbf.out);replace HV:=Lib.hid (HV.out.below hbf.out);go_wp2_with fail
 refine (fit_p x1).mono ?_;rintro e x2 ⟨rfl,hb⟩;replace HBf:=kBV hb HBf;replace HW:=Lib.hid (HW.out.trans (hb.mono HW.out.size));replace HX:=Lib.hid (HX.out.below hb);replace HV:=Lib.hid (HV.out.below hb);have c0:=cell_at (v:=.int .i64 xo) HBf.out 0 rfl;have fc0:=froz_at HBf.out 0;have c1:=cell_at (v:=.bool xb) HBf.out 1 rfl;have fc1:=froz_at HBf.out 1;have c2:=cell_at (v:=.slice xao xl xc) HBf.out 2 rfl;have fc2:=froz_at HBf.out 2;have c3:=cell_at (v:=.string xnm) HBf.out 3 rfl;have fc3:=froz_at HBf.out 3;have c4:=cell_at (v:=.slice xko xkl xkc) HBf.out 4 rfl;have fc4:=froz_at HBf.out 4;go_wp2_with fail
 clear hK hs;refine (tame6 0 _ _ _ _ _ _ _ _ _ x2 (by decide) HX.out).mono ?_;rintro e x3 ⟨v,t,rfl,hfc,hrt,hsrt,htm,hb⟩;clear c0 fc0 c1 fc1 c2 fc2 c3 fc3 c4 fc4;replace HBf:=kBV hb HBf;replace HW:=Lib.hid (HW.out.trans (hb.mono HW.out.size));replace HX:=Lib.hid (HX.out.below hb);replace HV:=Lib.hid (HV.out.below hb);obtain⟨b,ao,l,c,po,pl,pc,rfl,⟨hr,hz,hkl,hkc,hkm⟩,-,-⟩:=hfc.open;obtain⟨ty,hty⟩:∃ x,x=t.op:=⟨_,rfl⟩
 obtain⟨tn,htn⟩:∃ x,x=t.name:=⟨_,rfl⟩
 rw[<-hty,<-htn] at hfc;rw[<-hty,<-htn];have HFC:=Lib.hid hfc;have HRT:=Lib.hid hrt;have HTM:=Lib.hid htm;have HSO:Hid (srt ty=0):=Lib.hid (by rw[hty];exact hsrt);clear hfc hrt hsrt htm hr hz hkl hkc hkm hty htn;clear HX;obtain⟨x4,kx,ex,ekx,hbx,hkx,HBx⟩:=newV x3 #[.int .i64 ty,.bool b,.slice ao l c,.string tn,.slice po pl pc] 29;replace HBf:=kBV hbx.out HBf;replace HW:=Lib.hid (HW.out.trans (hbx.out.mono HW.out.size));replace HV:=Lib.hid (HV.out.below hbx.out);replace HFC:=Lib.hid (HFC.out.below hbx.out);go_wp2_with fail
 refine (env_p ko kl kc x4 HV.out).mono ?_;rintro e x5 ⟨ve,env,rfl,hel,hen,hb⟩;replace HBf:=kBV hb HBf;replace HBx:=kBV hb HBx;replace HW:=Lib.hid (HW.out.trans (hb.mono HW.out.size));replace HV:=Lib.hid (HV.out.below hb);replace HFC:=Lib.hid (HFC.out.below hb);have HEL:=Lib.hid hel;obtain⟨eo,en,ec,rfl⟩:=hel.shape;obtain⟨hbd,hsm⟩:=tm_bd (r:=rho env) (rho_bd hen.2.2) 6 (by decide) t HTM.out HRT.out;have HNS:=Lib.hid (env_ns hen);have HSM:=Lib.hid hsm;clear hel hen hbd hsm HV;obtain⟨B,hB⟩:∃ B,B=asB (ev (rho env) t):=⟨_,rfl⟩
 have HB:=Lib.hid hB;clear hB;go_upto_region 6 with fail
 have hBB:(B==B)=true:=beq_self_eq_true B;have hlt_x:=lt_of_block HBx.out;have hog:Hid (∀ q,q<0->(fun q=>0) q<x5.heap.size):=Lib.hid (fun q h=>absurd h (Nat.not_lt_zero _))
 refine R7.region (by kernel_rfl) [[],[0],[0,1],[0,1,2],[0,1,2,3],[0,1,2],[0,1,2,3,4,5],[0,1,2,3,4,5,6],[0,1,2,3,4,5,6,7],[0,1,2,3,4,5,6,7,8],[0,1,2,3,4,5,6,7,8],[0,1,2,3,4,5,6,7,8,9,10],[0,1,2,3,4,5,6,7,8],[0,1,2,3,4,5,6,7,8],[0,1,2,3,4,5,6,7,8,9,10,11,12,13],[0,1,2,3,4,5,6,7,8,9,10,11,12,13,14],[0,1,2,3,4,5,6,7,8,9,10,11,12,13,14,15],[0,1,2,3,4,5,6,7,8,9,10,11,12,13,14,15,16],[0,1,2,3,4,5,6,7,8,9,10,11,12,13,14,15,16,17],[0,1,2,3,4,5,6,7,8,9,10,11,12,13,14,15,16,17],[0,1,2,3,4,5,6,7,8,9,10,11,12,13,14,15,16,17,18,19],[0,1,2,3,4,5,6,7,8,9,10,11,12,13,14,15,16,17],[0,1,2,3,4,5,6,7,8,9,10,11,12,13,14,15,16,17],[0,1,2,3,4,5,6,7,8,9,10,11,12,13,14,15,16,17,18,19,20,21,22],[0,1,2,3,4,5,6,7,8,9,10,11,12,13,14,15,16,17,18,19,20,21,22,23],[0,1,2,3,4,5,6,7,8,9,10,11,12,13,14,15,16,17,18,19,20,21,22,23,24],[0,1,2,3,4,5,6,7,8,9,10,11,12,13,14,15,16,17,18,19,20,21,22,23,24,25],[0,1,2,3,4,5,6,7,8,9,10,11,12,13,14,15,16,17,18,19,20,21,22,23,24,25,26]] [] [] (fun q=>0) 0 28 (by kernel_rfl) (by kernel_rfl) (by rfl) hog.out (fun q q' h h' hn=>absurd hn (by omega)) ?_
 refine R7.Chain.det ?_ (by rfl) (fun T xs wr hA=>?_) ?_
 rotate_left 1
 ·have e8:=hA.pre 8 (by kernel_rfl);simp only[gsa,gsc,gsz] at e8;have hBq:wr.heap[kx]?=_:=(hA.bl _ hlt_x (fun q h=>absurd h (Nat.not_lt_zero _))).trans HBx.out;have q0:=cell_at (v:=.int .i64 ty) hBq 0 rfl;have q1:=cell_at (v:=.bool b) hBq 1 rfl;have q2:=cell_at (v:=.slice ao l c) hBq 2 rfl;have q3:=cell_at (v:=.string tn) hBq 3 rfl;have q4:=cell_at (v:=.slice po pl pc) hBq 4 rfl;clear hBq;clear hA;refine⟨(by rfl),?_⟩;go_simp<;>(try with_reducible rfl)
 refine R7.Chain.call (fun xs v w=>v=.bool true) (fun _ _ _ _ h _=>h) (fun _ _ _ _ _ h _ _=>h) (by rfl) (fun T xs wr hA=>?_) ?_
 ·have hsw:=(hA.be 0 (Nat.zero_le _) (fun _ _=>Nat.zero_le _)).size;have e20:=hA.tm 0 20 (by rfl) (by rfl);have f20:xs 0=_:=hA.fa 0 (by rfl)
  (try simp (disch:=first | rfl | decide) only [R7.mask_in] at f20)
  rw[f20] at e20;clear f20;have hbw:=undrew (hA.be x5.heap.size (Nat.le_refl _) (fun q h=>absurd h (Nat.not_lt_zero q)));have hfw:=HFC.out.below hbw;clear hA;refine⟨(by rfl),fun K hK=>?_⟩;go_simp
  refine (right_p 6 _ t _ _ hfw).mono ?_;rintro e w' ⟨rfl,hb'⟩;rw[HRT.out];exact hK.out _ _ rfl hb'
 refine R7.Chain.det ?_ (by rfl) (fun T xs wr hA=>?_) ?_
 rotate_left 1
 ·have e21:=hA.tm 1 21 (by rfl) (by rfl);have f21:xs 1=(.bool true):=hA.fa 1 (by rfl);rw[f21] at e21;clear f21;clear hA;refine⟨(by rfl),?_⟩;go_simp<;>(try with_reducible rfl)
 refine R7.Chain.det ?_ (by rfl) (fun T xs wr hA=>?_) ?_
 rotate_left 1
 ·have e22:=hA.tm 2 22 (by rfl) (by rfl);have f22:xs 2=_:=hA.fa 2 (by rfl)
  (try simp (disch:=first | rfl | decide) only [R7.mask_in] at f22)
  rw[f22] at e22;clear f22;have e8:=hA.pre 8 (by kernel_rfl);simp only[gsa,gsc,gsz] at e8;have hBq:wr.heap[kx]?=_:=(hA.bl _ hlt_x (fun q h=>absurd h (Nat.not_lt_zero _))).trans HBx.out;have q0:=cell_at (v:=.int .i64 ty) hBq 0 rfl;have q1:=cell_at (v:=.bool b) hBq 1 rfl;have q2:=cell_at (v:=.slice ao l c) hBq 2 rfl;have q3:=cell_at (v:=.string tn) hBq 3 rfl;have q4:=cell_at (v:=.slice po pl pc) hBq 4 rfl;clear hBq;clear hA;refine⟨((Rely.wanted_at rfl (by rfl) e22).trans (by rfl)),?_⟩;go_simp<;>(try with_reducible rfl)
 refine R7.Chain.call (fun xs v w=>v=.int .i64 0) (fun _ _ _ _ h _=>h) (fun _ _ _ _ _ h _ _=>h) (by rfl) (fun T xs wr hA=>?_) ?_
 ·have e22:=hA.tm 2 22 (by rfl) (by rfl);have f22:xs 2=_:=hA.fa 2 (by rfl)
  (try simp (disch:=first | rfl | decide) only [R7.mask_in] at f22)
  rw[f22] at e22;clear f22;have hsw:=(hA.be 0 (Nat.zero_le _) (fun _ _=>Nat.zero_le _)).size;have e23:=hA.tm 3 23 (by rfl) (by rfl);have f23:xs 3=_:=hA.fa 3 (by rfl)
  (try simp (disch:=first | rfl | decide) only [R7.mask_in] at f23)
  rw[f23] at e23;clear f23;have hbw:=undrew (hA.be x5.heap.size (Nat.le_refl _) (fun q h=>absurd h (Nat.not_lt_zero q)));clear hA;refine⟨((Rely.wanted_at rfl (by rfl) e22).trans (by rfl)),fun K hK=>?_⟩;go_simp
  refine (sort_p _ _ _ _ _ _ _ _ _ _).mono ?_;rintro e w' ⟨rfl,hb'⟩;rw[HSO.out];exact hK.out _ _ rfl hb'
 refine R7.Chain.det ?_ (by rfl) (fun T xs wr hA=>?_) ?_
 rotate_left 1
 ·have e22:=hA.tm 2 22 (by rfl) (by rfl);have f22:xs 2=_:=hA.fa 2 (by rfl)
  (try simp (disch:=first | rfl | decide) only [R7.mask_in] at f22)
  rw[f22] at e22;clear f22;have e7:=hA.pre 7 (by kernel_rfl);simp only[gsa,gsc,gsz] at e7;clear hA;refine⟨((Rely.wanted_at rfl (by rfl) e22).trans (by rfl)),?_⟩;go_simp<;>(try with_reducible rfl)
 refine R7.Chain.det ?_ (by rfl) (fun T xs wr hA=>?_) ?_
 rotate_left 1
 ·have e22:=hA.tm 2 22 (by rfl) (by rfl);have f22:xs 2=_:=hA.fa 2 (by rfl)
  (try simp (disch:=first | rfl | decide) only [R7.mask_in] at f22)
  rw[f22] at e22;clear f22;have e24:=hA.tm 4 24 (by rfl) (by rfl);have f24:xs 4=(.int .i64 0):=hA.fa 4 (by rfl);rw[f24] at e24;clear f24;have e25:=hA.tm 5 25 (by rfl) (by rfl);have f25:xs 5=_:=hA.fa 5 (by rfl)
  (try simp (disch:=first | rfl | decide) only [R7.mask_in] at f25)
  rw[f25] at e25;clear f25;clear hA;refine⟨((Rely.wanted_at rfl (by rfl) e22).trans (by rfl)),?_⟩;go_simp<;>(try with_reducible rfl)
 refine R7.Chain.det ?_ (by rfl) (fun T xs wr hA=>?_) ?_
 rotate_left 1
 ·have e22:=hA.tm 2 22 (by rfl) (by rfl);have f22:xs 2=_:=hA.fa 2 (by rfl)
  (try simp (disch:=first | rfl | decide) only [R7.mask_in] at f22)
  rw[f22] at e22;clear f22;have e26:=hA.tm 6 26 (by rfl) (by rfl);have f26:xs 6=_:=hA.fa 6 (by rfl)
  (try simp (disch:=first | rfl | decide) only [R7.mask_in] at f26)
  rw[f26] at e26;clear f26;clear hA;refine⟨(by rfl),?_⟩;go_simp<;>(try with_reducible rfl)
 refine R7.Chain.det ?_ (by rfl) (fun T xs wr hA=>?_) ?_
 rotate_left 1
 ·have e27:=hA.tm 7 27 (by rfl) (by rfl);have f27:xs 7=_:=hA.fa 7 (by rfl)
  (try simp (disch:=first | rfl | decide) only [R7.mask_in] at f27)
  rw[f27] at e27;clear f27;clear hA;refine⟨(by rfl),?_⟩;go_simp<;>(try with_reducible rfl)
 refine R7.Chain.det ?_ (by rfl) (fun T xs wr hA=>?_) ?_
 rotate_left 1
 ·have e28:=hA.tm 8 28 (by rfl) (by rfl);have f28:xs 8=_:=hA.fa 8 (by rfl)
  (try simp (disch:=first | rfl | decide) only [R7.mask_in] at f28)
  rw[f28] at e28;clear f28;have e8:=hA.pre 8 (by kernel_rfl);simp only[gsa,gsc,gsz] at e8;have hBq:wr.heap[kx]?=_:=(hA.bl _ hlt_x (fun q h=>absurd h (Nat.not_lt_zero _))).trans HBx.out;have q0:=cell_at (v:=.int .i64 ty) hBq 0 rfl;have q1:=cell_at (v:=.bool b) hBq 1 rfl;have q2:=cell_at (v:=.slice ao l c) hBq 2 rfl;have q3:=cell_at (v:=.string tn) hBq 3 rfl;have q4:=cell_at (v:=.slice po pl pc) hBq 4 rfl;clear hBq;clear hA;refine⟨((Rely.wanted_at rfl (by rfl) e28).trans (by rfl)),?_⟩;go_simp<;>(try with_reducible rfl)
 refine R7.Chain.det ?_ (by rfl) (fun T xs wr hA=>?_) ?_
 rotate_left 1
 ·have e28:=hA.tm 8 28 (by rfl) (by rfl);have f28:xs 8=_:=hA.fa 8 (by rfl)
  (try simp (disch:=first | rfl | decide) only [R7.mask_in] at f28)
  rw[f28] at e28;clear f28;have e9:=hA.pre 9 (by kernel_rfl);simp only[gsa,gsc,gsz] at e9;clear hA;refine⟨((Rely.wanted_at rfl (by rfl) e28).trans (by rfl)),?_⟩;go_simp<;>(try with_reducible rfl)
 refine R7.Chain.call (fun xs v w=>∃ y,v=y/\VC w y (ev (rho env) t)) (fun _ _ _ _ h hb=>by obtain⟨y,h1,h2⟩:=h;exact⟨y,h1,h2.below hb⟩) (fun _ _ _ _ _ _ h _=>by obtain⟨q,hq,_⟩:=h;exact absurd hq (Nat.not_lt_zero _)) (by rfl) (fun T xs wr hA=>?_) ?_
 ·have e28:=hA.tm 8 28 (by rfl) (by rfl);have f28:xs 8=_:=hA.fa 8 (by rfl)
  (try simp (disch:=first | rfl | decide) only [R7.mask_in] at f28)
  rw[f28] at e28;clear f28;have hsw:=(hA.be 0 (Nat.zero_le _) (fun _ _=>Nat.zero_le _)).size;have e29:=hA.tm 9 29 (by rfl) (by rfl);have f29:xs 9=_:=hA.fa 9 (by rfl)
  (try simp (disch:=first | rfl | decide) only [R7.mask_in] at f29)
  rw[f29] at e29;clear f29;have e30:=hA.tm 10 30 (by rfl) (by rfl);have f30:xs 10=_:=hA.fa 10 (by rfl)
  (try simp (disch:=first | rfl | decide) only [R7.mask_in] at f30)
  rw[f30] at e30;clear f30;have hbw:=undrew (hA.be x5.heap.size (Nat.le_refl _) (fun q h=>absurd h (Nat.not_lt_zero q)));have hfw:=HFC.out.below hbw;have hew:=HEL.out.below hbw;clear hA;refine⟨((Rely.wanted_at rfl (by rfl) e28).trans (by rfl)),fun K hK=>?_⟩;go_simp
  refine (eval_p 6 _ _ env t _ _ hfw hew HRT.out HSM.out).mono ?_;rintro e w' ⟨y,rfl,hy,hb'⟩;exact hK.out _ _ ⟨y,rfl,hy⟩ hb'
 refine R7.Chain.det ?_ (by rfl) (fun T xs wr hA=>?_) ?_
 rotate_left 1
 ·have e28:=hA.tm 8 28 (by rfl) (by rfl);have f28:xs 8=_:=hA.fa 8 (by rfl)
  (try simp (disch:=first | rfl | decide) only [R7.mask_in] at f28)
  rw[f28] at e28;clear f28;have e8:=hA.pre 8 (by kernel_rfl);simp only[gsa,gsc,gsz] at e8;have hBq:wr.heap[kx]?=_:=(hA.bl _ hlt_x (fun q h=>absurd h (Nat.not_lt_zero _))).trans HBx.out;have q0:=cell_at (v:=.int .i64 ty) hBq 0 rfl;have q1:=cell_at (v:=.bool b) hBq 1 rfl;have q2:=cell_at (v:=.slice ao l c) hBq 2 rfl;have q3:=cell_at (v:=.string tn) hBq 3 rfl;have q4:=cell_at (v:=.slice po pl pc) hBq 4 rfl;clear hBq;clear hA;refine⟨((Rely.wanted_at rfl (by rfl) e28).trans (by rfl)),?_⟩;go_simp<;>(try with_reducible rfl)
 refine R7.Chain.det ?_ (by rfl) (fun T xs wr hA=>?_) ?_
 rotate_left 1
 ·have e28:=hA.tm 8 28 (by rfl) (by rfl);have f28:xs 8=_:=hA.fa 8 (by rfl)
  (try simp (disch:=first | rfl | decide) only [R7.mask_in] at f28)
  rw[f28] at e28;clear f28;have e9:=hA.pre 9 (by kernel_rfl);simp only[gsa,gsc,gsz] at e9;clear hA;refine⟨((Rely.wanted_at rfl (by rfl) e28).trans (by rfl)),?_⟩;go_simp<;>(try with_reducible rfl)
 refine R7.Chain.call (fun xs v w=>∃ y,v=y/\VC w y (ev (rho env) t)) (fun _ _ _ _ h hb=>by obtain⟨y,h1,h2⟩:=h;exact⟨y,h1,h2.below hb⟩) (fun _ _ _ _ _ _ h _=>by obtain⟨q,hq,_⟩:=h;exact absurd hq (Nat.not_lt_zero _)) (by rfl) (fun T xs wr hA=>?_) ?_
 ·have e28:=hA.tm 8 28 (by rfl) (by rfl);have f28:xs 8=_:=hA.fa 8 (by rfl)
  (try simp (disch:=first | rfl | decide) only [R7.mask_in] at f28)
  rw[f28] at e28;clear f28;have hsw:=(hA.be 0 (Nat.zero_le _) (fun _ _=>Nat.zero_le _)).size;have e32:=hA.tm 12 32 (by rfl) (by rfl);have f32:xs 12=_:=hA.fa 12 (by rfl)
  (try simp (disch:=first | rfl | decide) only [R7.mask_in] at f32)
  rw[f32] at e32;clear f32;have e33:=hA.tm 13 33 (by rfl) (by rfl);have f33:xs 13=_:=hA.fa 13 (by rfl)
  (try simp (disch:=first | rfl | decide) only [R7.mask_in] at f33)
  rw[f33] at e33;clear f33;have hbw:=undrew (hA.be x5.heap.size (Nat.le_refl _) (fun q h=>absurd h (Nat.not_lt_zero q)));have hfw:=HFC.out.below hbw;have hew:=HEL.out.below hbw;clear hA;refine⟨((Rely.wanted_at rfl (by rfl) e28).trans (by rfl)),fun K hK=>?_⟩;go_simp
  refine (value_all 6 _ _ env t _ _ hfw hew HRT.out HSM.out HTM.out HNS.out).mono ?_;rintro e w' ⟨y,rfl,hy,hb'⟩;exact hK.out _ _ ⟨y,rfl,hy⟩ hb'
 refine R7.Chain.call (fun xs v w=>v=.bool true) (fun _ _ _ _ h _=>h) (fun _ _ _ _ _ h _ _=>h) (by rfl) (fun T xs wr hA=>?_) ?_
 ·have e28:=hA.tm 8 28 (by rfl) (by rfl);have f28:xs 8=_:=hA.fa 8 (by rfl)
  (try simp (disch:=first | rfl | decide) only [R7.mask_in] at f28)
  rw[f28] at e28;clear f28;have hsw:=(hA.be 0 (Nat.zero_le _) (fun _ _=>Nat.zero_le _)).size;have e31:=hA.tm 11 31 (by rfl) (by rfl);have e34:=hA.tm 14 34 (by rfl) (by rfl);have hbw:=undrew (hA.be x5.heap.size (Nat.le_refl _) (fun q h=>absurd h (Nat.not_lt_zero q)));have hF11:∃ y,(xs 11)=y/\VC wr y (ev (rho env) t):=hA.fa 11 (by rfl);obtain⟨y1,e1,hy1⟩:=hF11;have hF14:∃ y,(xs 14)=y/\VC wr y (ev (rho env) t):=hA.fa 14 (by rfl);obtain⟨y2,e2,hy2⟩:=hF14;clear hA;refine⟨((Rely.wanted_at rfl (by rfl) e28).trans (by rfl)),fun K hK=>?_⟩;go_simp
  refine (same_p _ _ (ev (rho env) t) (ev (rho env) t) _ (by first | exact hy1 | (rw[e1];exact hy1)) (by first | exact hy2 | (rw[e2];exact hy2))).mono ?_;rintro e w' ⟨rfl,hb'⟩;exact hK.out _ _ (by simp) hb'
 refine R7.Chain.det ?_ (by rfl) (fun T xs wr hA=>?_) ?_
 rotate_left 1
 ·have e28:=hA.tm 8 28 (by rfl) (by rfl);have f28:xs 8=_:=hA.fa 8 (by rfl)
  (try simp (disch:=first | rfl | decide) only [R7.mask_in] at f28)
  rw[f28] at e28;clear f28;have e35:=hA.tm 15 35 (by rfl) (by rfl);have f35:xs 15=(.bool true):=hA.fa 15 (by rfl);rw[f35] at e35;clear f35;clear hA;refine⟨(by rfl),?_⟩;go_simp<;>(try with_reducible rfl)
 refine R7.Chain.det ?_ (by rfl) (fun T xs wr hA=>?_) ?_
 rotate_left 1
 ·have e36:=hA.tm 16 36 (by rfl) (by rfl);have f36:xs 16=_:=hA.fa 16 (by rfl)
  (try simp (disch:=first | rfl | decide) only [R7.mask_in] at f36)
  rw[f36] at e36;clear f36;clear hA;refine⟨(by rfl),?_⟩;go_simp<;>(try with_reducible rfl)
 refine R7.Chain.det ?_ (by rfl) (fun T xs wr hA=>?_) ?_
 rotate_left 1
 ·have e37:=hA.tm 17 37 (by rfl) (by rfl);have f37:xs 17=_:=hA.fa 17 (by rfl)
  (try simp (disch:=first | rfl | decide) only [R7.mask_in] at f37)
  rw[f37] at e37;clear f37;have e8:=hA.pre 8 (by kernel_rfl);simp only[gsa,gsc,gsz] at e8;have hBq:wr.heap[kx]?=_:=(hA.bl _ hlt_x (fun q h=>absurd h (Nat.not_lt_zero _))).trans HBx.out;have q0:=cell_at (v:=.int .i64 ty) hBq 0 rfl;have q1:=cell_at (v:=.bool b) hBq 1 rfl;have q2:=cell_at (v:=.slice ao l c) hBq 2 rfl;have q3:=cell_at (v:=.string tn) hBq 3 rfl;have q4:=cell_at (v:=.slice po pl pc) hBq 4 rfl;clear hBq;clear hA;refine⟨((Rely.wanted_at rfl (by rfl) e37).trans (by rfl)),?_⟩;go_simp<;>(try with_reducible rfl)
 refine R7.Chain.det ?_ (by rfl) (fun T xs wr hA=>?_) ?_
 rotate_left 1
 ·have e37:=hA.tm 17 37 (by rfl) (by rfl);have f37:xs 17=_:=hA.fa 17 (by rfl)
  (try simp (disch:=first | rfl | decide) only [R7.mask_in] at f37)
  rw[f37] at e37;clear f37;have e9:=hA.pre 9 (by kernel_rfl);simp only[gsa,gsc,gsz] at e9;clear hA;refine⟨((Rely.wanted_at rfl (by rfl) e37).trans (by rfl)),?_⟩;go_simp<;>(try with_reducible rfl)
 refine R7.Chain.call (fun xs v w=>v=.bool B) (fun _ _ _ _ h _=>h) (fun _ _ _ _ _ h _ _=>h) (by rfl) (fun T xs wr hA=>?_) ?_
 ·have e37:=hA.tm 17 37 (by rfl) (by rfl);have f37:xs 17=_:=hA.fa 17 (by rfl)
  (try simp (disch:=first | rfl | decide) only [R7.mask_in] at f37)
  rw[f37] at e37;clear f37;have hsw:=(hA.be 0 (Nat.zero_le _) (fun _ _=>Nat.zero_le _)).size;have e38:=hA.tm 18 38 (by rfl) (by rfl);have f38:xs 18=_:=hA.fa 18 (by rfl)
  (try simp (disch:=first | rfl | decide) only [R7.mask_in] at f38)
  rw[f38] at e38;clear f38;have e39:=hA.tm 19 39 (by rfl) (by rfl);have f39:xs 19=_:=hA.fa 19 (by rfl)
  (try simp (disch:=first | rfl | decide) only [R7.mask_in] at f39)
  rw[f39] at e39;clear f39;have hbw:=undrew (hA.be x5.heap.size (Nat.le_refl _) (fun q h=>absurd h (Nat.not_lt_zero q)));have hfw:=HFC.out.below hbw;have hew:=HEL.out.below hbw;clear hA;refine⟨((Rely.wanted_at rfl (by rfl) e37).trans (by rfl)),fun K hK=>?_⟩;go_simp
  refine (holds_p 6 _ _ env t _ _ hfw hew HRT.out HSM.out).mono ?_;rintro e w' ⟨rfl,hb'⟩;rw[<-HB.out];exact hK.out _ _ rfl hb'
 refine R7.Chain.det ?_ (by rfl) (fun T xs wr hA=>?_) ?_
 rotate_left 1
 ·have e37:=hA.tm 17 37 (by rfl) (by rfl);have f37:xs 17=_:=hA.fa 17 (by rfl)
  (try simp (disch:=first | rfl | decide) only [R7.mask_in] at f37)
  rw[f37] at e37;clear f37;have e8:=hA.pre 8 (by kernel_rfl);simp only[gsa,gsc,gsz] at e8;have hBq:wr.heap[kx]?=_:=(hA.bl _ hlt_x (fun q h=>absurd h (Nat.not_lt_zero _))).trans HBx.out;have q0:=cell_at (v:=.int .i64 ty) hBq 0 rfl;have q1:=cell_at (v:=.bool b) hBq 1 rfl;have q2:=cell_at (v:=.slice ao l c) hBq 2 rfl;have q3:=cell_at (v:=.string tn) hBq 3 rfl;have q4:=cell_at (v:=.slice po pl pc) hBq 4 rfl;clear hBq;clear hA;refine⟨((Rely.wanted_at rfl (by rfl) e37).trans (by rfl)),?_⟩;go_simp<;>(try with_reducible rfl)
 refine R7.Chain.det ?_ (by rfl) (fun T xs wr hA=>?_) ?_
 rotate_left 1
 ·have e37:=hA.tm 17 37 (by rfl) (by rfl);have f37:xs 17=_:=hA.fa 17 (by rfl)
  (try simp (disch:=first | rfl | decide) only [R7.mask_in] at f37)
  rw[f37] at e37;clear f37;have e9:=hA.pre 9 (by kernel_rfl);simp only[gsa,gsc,gsz] at e9;clear hA;refine⟨((Rely.wanted_at rfl (by rfl) e37).trans (by rfl)),?_⟩;go_simp<;>(try with_reducible rfl)
 refine R7.Chain.call (fun xs v w=>∃ k b o l c p m q,v=.agg #[.int .i64 k,.bool b,.slice o l c,.bool B,.slice p m q]) (fun _ _ _ _ h _=>h) (fun _ _ _ _ _ h _ _=>h) (by rfl) (fun T xs wr hA=>?_) ?_
 ·have e37:=hA.tm 17 37 (by rfl) (by rfl);have f37:xs 17=_:=hA.fa 17 (by rfl)
  (try simp (disch:=first | rfl | decide) only [R7.mask_in] at f37)
  rw[f37] at e37;clear f37;have hsw:=(hA.be 0 (Nat.zero_le _) (fun _ _=>Nat.zero_le _)).size;have e41:=hA.tm 21 41 (by rfl) (by rfl);have f41:xs 21=_:=hA.fa 21 (by rfl)
  (try simp (disch:=first | rfl | decide) only [R7.mask_in] at f41)
  rw[f41] at e41;clear f41;have e42:=hA.tm 22 42 (by rfl) (by rfl);have f42:xs 22=_:=hA.fa 22 (by rfl)
  (try simp (disch:=first | rfl | decide) only [R7.mask_in] at f42)
  rw[f42] at e42;clear f42;have hbw:=undrew (hA.be x5.heap.size (Nat.le_refl _) (fun q h=>absurd h (Nat.not_lt_zero q)));have hfw:=HFC.out.below hbw;have hew:=HEL.out.below hbw;clear hA;refine⟨((Rely.wanted_at rfl (by rfl) e37).trans (by rfl)),fun K hK=>?_⟩;go_simp
  refine (value_all 6 _ _ env t _ _ hfw hew HRT.out HSM.out HTM.out HNS.out).mono ?_;rintro e w' ⟨y,rfl,hy,hb'⟩;obtain⟨k1,b1,o1,l1,c1,p1,m1,q1,rfl⟩:=hy.shape;rw[<-HB.out];exact hK.out _ _ ⟨_,_,_,_,_,_,_,_,rfl⟩ hb'
 refine R7.Chain.call (fun xs v w=>v=.bool B) (fun _ _ _ _ h _=>h) (fun _ _ _ _ _ h _ _=>h) (by rfl) (fun T xs wr hA=>?_) ?_
 ·have e37:=hA.tm 17 37 (by rfl) (by rfl);have f37:xs 17=_:=hA.fa 17 (by rfl)
  (try simp (disch:=first | rfl | decide) only [R7.mask_in] at f37)
  rw[f37] at e37;clear f37;have hsw:=(hA.be 0 (Nat.zero_le _) (fun _ _=>Nat.zero_le _)).size;have e43:=hA.tm 23 43 (by rfl) (by rfl);have hF23:∃ k b o l c p m q,(xs 23)=.agg #[.int .i64 k,.bool b,.slice o l c,.bool B,.slice p m q]:=hA.fa 23 (by rfl);obtain⟨k1,b1,o1,l1,c1,p1,m1,q1,e23⟩:=hF23;rw[e23] at e43;clear hA;refine⟨((Rely.wanted_at rfl (by rfl) e37).trans (by rfl)),fun K hK=>?_⟩;go_simp
  exact hK.out _ _ rfl (Below.refl _ _)
 refine R7.Chain.det ?_ (by rfl) (fun T xs wr hA=>?_) ?_
 rotate_left 1
 ·have e37:=hA.tm 17 37 (by rfl) (by rfl);have f37:xs 17=_:=hA.fa 17 (by rfl)
  (try simp (disch:=first | rfl | decide) only [R7.mask_in] at f37)
  rw[f37] at e37;clear f37;have e40:=hA.tm 20 40 (by rfl) (by rfl);have f40:xs 20=(.bool B):=hA.fa 20 (by rfl);rw[f40] at e40;clear f40;have e44:=hA.tm 24 44 (by rfl) (by rfl);have f44:xs 24=(.bool B):=hA.fa 24 (by rfl);rw[f44] at e44;clear f44;clear hA;refine⟨((Rely.wanted_at rfl (by rfl) e37).trans (by rfl)),?_⟩;go_simp<;>(try with_reducible rfl)
 refine R7.Chain.det ?_ (by rfl) (fun T xs wr hA=>?_) ?_
 rotate_left 1
 ·have e37:=hA.tm 17 37 (by rfl) (by rfl);have f37:xs 17=_:=hA.fa 17 (by rfl)
  (try simp (disch:=first | rfl | decide) only [R7.mask_in] at f37)
  rw[f37] at e37;clear f37;have e45:=hA.tm 25 45 (by rfl) (by rfl);have f45:xs 25=_:=hA.fa 25 (by rfl)
  (try simp (disch:=first | rfl | decide) only [R7.mask_in] at f45)
  rw[f45] at e45;clear f45;clear hA;refine⟨(by rfl),?_⟩;go_simp<;>(try with_reducible rfl)
 refine R7.Chain.det ?_ (by rfl) (fun T xs wr hA=>?_) ?_
 rotate_left 1
 ·have e46:=hA.tm 26 46 (by rfl) (by rfl);have f46:xs 26=_:=hA.fa 26 (by rfl)
  (try simp (disch:=first | rfl | decide) only [R7.mask_in] at f46)
  rw[f46] at e46;clear f46;clear hA;refine⟨(by rfl),?_⟩;go_simp<;>(try with_reducible rfl)
 refine R7.Chain.done (fun xs x6 hL=>?_);obtain⟨⟨hbe,hbl⟩,hf,-,-⟩:=hL;have f0:xs 0=_:=hf 0 (by decide)
 (try simp (disch:=first | rfl | decide) only [R7.mask_in] at f0)
 have f1:xs 1=(.bool true):=hf 1 (by decide);have f2:xs 2=_:=hf 2 (by decide)
 (try simp (disch:=first | rfl | decide) only [R7.mask_in] at f2)
 have f3:xs 3=_:=hf 3 (by decide)
 (try simp (disch:=first | rfl | decide) only [R7.mask_in] at f3)
 have f4:xs 4=(.int .i64 0):=hf 4 (by decide);have f5:xs 5=_:=hf 5 (by decide)
 (try simp (disch:=first | rfl | decide) only [R7.mask_in] at f5)
 have f6:xs 6=_:=hf 6 (by decide)
 (try simp (disch:=first | rfl | decide) only [R7.mask_in] at f6)
 have f7:xs 7=_:=hf 7 (by decide)
 (try simp (disch:=first | rfl | decide) only [R7.mask_in] at f7)
 have f8:xs 8=_:=hf 8 (by decide)
 (try simp (disch:=first | rfl | decide) only [R7.mask_in] at f8)
 have f9:xs 9=_:=hf 9 (by decide)
 (try simp (disch:=first | rfl | decide) only [R7.mask_in] at f9)
 have f10:xs 10=_:=hf 10 (by decide)
 (try simp (disch:=first | rfl | decide) only [R7.mask_in] at f10)
 have F11:∃ y,(xs 11)=y/\VC x6 y (ev (rho env) t):=hf 11 (by decide);have f12:xs 12=_:=hf 12 (by decide)
 (try simp (disch:=first | rfl | decide) only [R7.mask_in] at f12)
 have f13:xs 13=_:=hf 13 (by decide)
 (try simp (disch:=first | rfl | decide) only [R7.mask_in] at f13)
 have F14:∃ y,(xs 14)=y/\VC x6 y (ev (rho env) t):=hf 14 (by decide);have f15:xs 15=(.bool true):=hf 15 (by decide);have f16:xs 16=_:=hf 16 (by decide)
 (try simp (disch:=first | rfl | decide) only [R7.mask_in] at f16)
 have f17:xs 17=_:=hf 17 (by decide)
 (try simp (disch:=first | rfl | decide) only [R7.mask_in] at f17)
 have f18:xs 18=_:=hf 18 (by decide)
 (try simp (disch:=first | rfl | decide) only [R7.mask_in] at f18)
 have f19:xs 19=_:=hf 19 (by decide)
 (try simp (disch:=first | rfl | decide) only [R7.mask_in] at f19)
 have f20:xs 20=(.bool B):=hf 20 (by decide);have f21:xs 21=_:=hf 21 (by decide)
 (try simp (disch:=first | rfl | decide) only [R7.mask_in] at f21)
 have f22:xs 22=_:=hf 22 (by decide)
 (try simp (disch:=first | rfl | decide) only [R7.mask_in] at f22)
 have F23:∃ k b o l c p m q,(xs 23)=.agg #[.int .i64 k,.bool b,.slice o l c,.bool B,.slice p m q]:=hf 23 (by decide);have f24:xs 24=(.bool B):=hf 24 (by decide);have f25:xs 25=_:=hf 25 (by decide)
 (try simp (disch:=first | rfl | decide) only [R7.mask_in] at f25)
 have f26:xs 26=_:=hf 26 (by decide)
 (try simp (disch:=first | rfl | decide) only [R7.mask_in] at f26)
 have f27:xs 27=_:=hf 27 (by decide)
 (try simp (disch:=first | rfl | decide) only [R7.mask_in] at f27)
 have hb0:Below 0 x5 x6:=undrew (hbe 0 (Nat.zero_le _) (fun _ _=>Nat.zero_le _));have hgr:∀ j,j<x5.heap.size->(∀ q,q<0->(fun q=>0) q≠j)->x6.heap[j]?=x5.heap[j]?:=hbl;clear hbe hbl hf;have hb:Below x5.heap.size x5 x6:=⟨hb0.os,hb0.tape,hb0.output,hb0.size,fun q hq=>hgr q hq (fun q h=>absurd h (Nat.not_lt_zero _))⟩
 refine R7.rest_done ?_;simp only[R7.fill,t5_,t6_,t7_,f0,f1,f2,f3,f4,f5,f6,f7,f8,f9,f10,f12,f13,f15,f16,f17,f18,f19,f20,f21,f22,f24,f25,f26,f27];clear hb0 hgr hog hlt_x f0 f1 f2 f3 f4 f5 f6 f7 f8 f9 f10 f12 f13 f15 f16 f17 f18 f19 f20 f21 f22 f24 f25 f26 f27;replace HBf:=kBV hb HBf;replace HBx:=kBV hb HBx;replace HW:=Lib.hid (HW.out.trans (hb.mono HW.out.size));replace HFC:=Lib.hid (HFC.out.below hb);replace HEL:=Lib.hid (HEL.out.below hb);replace hb:=Lib.hid hb;go_wp2_with fail
 go_ret
 exact⟨rfl,HW.out⟩
theorem evals_1 (x:RU) (ko:Option Addr) (kl kc:Nat) (p:Int) (K:Nat) (w:World) (hx:∀ d,RawF w d x) (hv:RVals w ko kl kc) (hK:bits BinOp.and IntKind.i64 p 255=(K:Int)) (hs:((K:Nat):Int).tmod 3=1) :
  Calls Try.prog 3 #[rV x,.slice ko kl kc,.int .i64 p] w fun e w'=>e=.returned (.bool true)/\Below w.heap.size w w':=by
 obtain⟨xo,xb,xao,xl,xc,xnm,xko,xkl,xkc⟩:=x;have HX:=Lib.hid (hx 6);have HV:=Lib.hid hv;unfold rV;simp only;clear hx hv;have HW:=Lib.hid (Below.refl w.heap.size w);go_enter Try.func3,Try.ntmps3
 obtain⟨x1,kf,ef,ekf,hbf,hkf,HBf⟩:=newV w #[.int .i64 xo,.bool xb,.slice xao xl xc,.string xnm,.slice xko xkl xkc] 29;replace HW:=Lib.hid (HW.out.trans (hbf.out.mono HW.out.size));replace HX:=Lib.hid (HX.out.below hbf.out);replace HV:=Lib.hid (HV.out.below hbf.out);go_wp2_with fail
 refine (fit_p x1).mono ?_;rintro e x2 ⟨rfl,hb⟩;replace HBf:=kBV hb HBf;replace HW:=Lib.hid (HW.out.trans (hb.mono HW.out.size));replace HX:=Lib.hid (HX.out.below hb);replace HV:=Lib.hid (HV.out.below hb);have c0:=cell_at (v:=.int .i64 xo) HBf.out 0 rfl;have fc0:=froz_at HBf.out 0;have c1:=cell_at (v:=.bool xb) HBf.out 1 rfl;have fc1:=froz_at HBf.out 1;have c2:=cell_at (v:=.slice xao xl xc) HBf.out 2 rfl;have fc2:=froz_at HBf.out 2;have c3:=cell_at (v:=.string xnm) HBf.out 3 rfl;have fc3:=froz_at HBf.out 3;have c4:=cell_at (v:=.slice xko xkl xkc) HBf.out 4 rfl;have fc4:=froz_at HBf.out 4;go_wp2_with fail
 clear hK hs;refine (tame6 1 _ _ _ _ _ _ _ _ _ x2 (by decide) HX.out).mono ?_;rintro e x3 ⟨v,t,rfl,hfc,hrt,hsrt,htm,hb⟩;clear c0 fc0 c1 fc1 c2 fc2 c3 fc3 c4 fc4;replace HBf:=kBV hb HBf;replace HW:=Lib.hid (HW.out.trans (hb.mono HW.out.size));replace HX:=Lib.hid (HX.out.below hb);replace HV:=Lib.hid (HV.out.below hb);obtain⟨b,ao,l,c,po,pl,pc,rfl,⟨hr,hz,hkl,hkc,hkm⟩,-,-⟩:=hfc.open;obtain⟨ty,hty⟩:∃ x,x=t.op:=⟨_,rfl⟩
 obtain⟨tn,htn⟩:∃ x,x=t.name:=⟨_,rfl⟩
 rw[<-hty,<-htn] at hfc;rw[<-hty,<-htn];have HFC:=Lib.hid hfc;have HRT:=Lib.hid hrt;have HTM:=Lib.hid htm;have HSO:Hid (srt ty=1):=Lib.hid (by rw[hty];exact hsrt);clear hfc hrt hsrt htm hr hz hkl hkc hkm hty htn;clear HX;obtain⟨x4,kx,ex,ekx,hbx,hkx,HBx⟩:=newV x3 #[.int .i64 ty,.bool b,.slice ao l c,.string tn,.slice po pl pc] 29;replace HBf:=kBV hbx.out HBf;replace HW:=Lib.hid (HW.out.trans (hbx.out.mono HW.out.size));replace HV:=Lib.hid (HV.out.below hbx.out);replace HFC:=Lib.hid (HFC.out.below hbx.out);go_wp2_with fail
 refine (env_p ko kl kc x4 HV.out).mono ?_;rintro e x5 ⟨ve,env,rfl,hel,hen,hb⟩;replace HBf:=kBV hb HBf;replace HBx:=kBV hb HBx;replace HW:=Lib.hid (HW.out.trans (hb.mono HW.out.size));replace HV:=Lib.hid (HV.out.below hb);replace HFC:=Lib.hid (HFC.out.below hb);have HEL:=Lib.hid hel;obtain⟨eo,en,ec,rfl⟩:=hel.shape;obtain⟨hbd,hsm⟩:=tm_bd (r:=rho env) (rho_bd hen.2.2) 6 (by decide) t HTM.out HRT.out;have HNS:=Lib.hid (env_ns hen);have HSM:=Lib.hid hsm;clear hel hen hbd hsm HV;obtain⟨B,hB⟩:∃ B,B=asB (ev (rho env) t):=⟨_,rfl⟩
 have HB:=Lib.hid hB;clear hB;go_upto_region 6 with fail
 have hBB:(B==B)=true:=beq_self_eq_true B;have hlt_x:=lt_of_block HBx.out;have hog:Hid (∀ q,q<0->(fun q=>0) q<x5.heap.size):=Lib.hid (fun q h=>absurd h (Nat.not_lt_zero _))
 refine R7.region (by kernel_rfl) [[],[0],[0,1],[0,1,2],[0,1,2,3],[0,1,2],[0,1,2,3,4,5],[0,1,2,3,4,5,6],[0,1,2,3,4,5,6,7],[0,1,2,3,4,5,6,7,8],[0,1,2,3,4,5,6,7,8],[0,1,2,3,4,5,6,7,8,9,10],[0,1,2,3,4,5,6,7,8],[0,1,2,3,4,5,6,7,8],[0,1,2,3,4,5,6,7,8,9,10,11,12,13],[0,1,2,3,4,5,6,7,8,9,10,11,12,13,14],[0,1,2,3,4,5,6,7,8,9,10,11,12,13,14,15],[0,1,2,3,4,5,6,7,8,9,10,11,12,13,14,15,16],[0,1,2,3,4,5,6,7,8,9,10,11,12,13,14,15,16,17],[0,1,2,3,4,5,6,7,8,9,10,11,12,13,14,15,16,17],[0,1,2,3,4,5,6,7,8,9,10,11,12,13,14,15,16,17,18,19],[0,1,2,3,4,5,6,7,8,9,10,11,12,13,14,15,16,17],[0,1,2,3,4,5,6,7,8,9,10,11,12,13,14,15,16,17],[0,1,2,3,4,5,6,7,8,9,10,11,12,13,14,15,16,17,18,19,20,21,22],[0,1,2,3,4,5,6,7,8,9,10,11,12,13,14,15,16,17,18,19,20,21,22,23],[0,1,2,3,4,5,6,7,8,9,10,11,12,13,14,15,16,17,18,19,20,21,22,23,24],[0,1,2,3,4,5,6,7,8,9,10,11,12,13,14,15,16,17,18,19,20,21,22,23,24,25],[0,1,2,3,4,5,6,7,8,9,10,11,12,13,14,15,16,17,18,19,20,21,22,23,24,25,26]] [] [] (fun q=>0) 0 28 (by kernel_rfl) (by kernel_rfl) (by rfl) hog.out (fun q q' h h' hn=>absurd hn (by omega)) ?_
 refine R7.Chain.det ?_ (by rfl) (fun T xs wr hA=>?_) ?_
 rotate_left 1
 ·have e8:=hA.pre 8 (by kernel_rfl);simp only[gsa,gsc,gsz] at e8;have hBq:wr.heap[kx]?=_:=(hA.bl _ hlt_x (fun q h=>absurd h (Nat.not_lt_zero _))).trans HBx.out;have q0:=cell_at (v:=.int .i64 ty) hBq 0 rfl;have q1:=cell_at (v:=.bool b) hBq 1 rfl;have q2:=cell_at (v:=.slice ao l c) hBq 2 rfl;have q3:=cell_at (v:=.string tn) hBq 3 rfl;have q4:=cell_at (v:=.slice po pl pc) hBq 4 rfl;clear hBq;clear hA;refine⟨(by rfl),?_⟩;go_simp<;>(try with_reducible rfl)
 refine R7.Chain.call (fun xs v w=>v=.bool true) (fun _ _ _ _ h _=>h) (fun _ _ _ _ _ h _ _=>h) (by rfl) (fun T xs wr hA=>?_) ?_
 ·have hsw:=(hA.be 0 (Nat.zero_le _) (fun _ _=>Nat.zero_le _)).size;have e20:=hA.tm 0 20 (by rfl) (by rfl);have f20:xs 0=_:=hA.fa 0 (by rfl)
  (try simp (disch:=first | rfl | decide) only [R7.mask_in] at f20)
  rw[f20] at e20;clear f20;have hbw:=undrew (hA.be x5.heap.size (Nat.le_refl _) (fun q h=>absurd h (Nat.not_lt_zero q)));have hfw:=HFC.out.below hbw;clear hA;refine⟨(by rfl),fun K hK=>?_⟩;go_simp
  refine (right_p 6 _ t _ _ hfw).mono ?_;rintro e w' ⟨rfl,hb'⟩;rw[HRT.out];exact hK.out _ _ rfl hb'
 refine R7.Chain.det ?_ (by rfl) (fun T xs wr hA=>?_) ?_
 rotate_left 1
 ·have e21:=hA.tm 1 21 (by rfl) (by rfl);have f21:xs 1=(.bool true):=hA.fa 1 (by rfl);rw[f21] at e21;clear f21;clear hA;refine⟨(by rfl),?_⟩;go_simp<;>(try with_reducible rfl)
 refine R7.Chain.det ?_ (by rfl) (fun T xs wr hA=>?_) ?_
 rotate_left 1
 ·have e22:=hA.tm 2 22 (by rfl) (by rfl);have f22:xs 2=_:=hA.fa 2 (by rfl)
  (try simp (disch:=first | rfl | decide) only [R7.mask_in] at f22)
  rw[f22] at e22;clear f22;have e8:=hA.pre 8 (by kernel_rfl);simp only[gsa,gsc,gsz] at e8;have hBq:wr.heap[kx]?=_:=(hA.bl _ hlt_x (fun q h=>absurd h (Nat.not_lt_zero _))).trans HBx.out;have q0:=cell_at (v:=.int .i64 ty) hBq 0 rfl;have q1:=cell_at (v:=.bool b) hBq 1 rfl;have q2:=cell_at (v:=.slice ao l c) hBq 2 rfl;have q3:=cell_at (v:=.string tn) hBq 3 rfl;have q4:=cell_at (v:=.slice po pl pc) hBq 4 rfl;clear hBq;clear hA;refine⟨((Rely.wanted_at rfl (by rfl) e22).trans (by rfl)),?_⟩;go_simp<;>(try with_reducible rfl)
 refine R7.Chain.call (fun xs v w=>v=.int .i64 1) (fun _ _ _ _ h _=>h) (fun _ _ _ _ _ h _ _=>h) (by rfl) (fun T xs wr hA=>?_) ?_
 ·have e22:=hA.tm 2 22 (by rfl) (by rfl);have f22:xs 2=_:=hA.fa 2 (by rfl)
  (try simp (disch:=first | rfl | decide) only [R7.mask_in] at f22)
  rw[f22] at e22;clear f22;have hsw:=(hA.be 0 (Nat.zero_le _) (fun _ _=>Nat.zero_le _)).size;have e23:=hA.tm 3 23 (by rfl) (by rfl);have f23:xs 3=_:=hA.fa 3 (by rfl)
  (try simp (disch:=first | rfl | decide) only [R7.mask_in] at f23)
  rw[f23] at e23;clear f23;have hbw:=undrew (hA.be x5.heap.size (Nat.le_refl _) (fun q h=>absurd h (Nat.not_lt_zero q)));clear hA;refine⟨((Rely.wanted_at rfl (by rfl) e22).trans (by rfl)),fun K hK=>?_⟩;go_simp
  refine (sort_p _ _ _ _ _ _ _ _ _ _).mono ?_;rintro e w' ⟨rfl,hb'⟩;rw[HSO.out];exact hK.out _ _ rfl hb'
 refine R7.Chain.det ?_ (by rfl) (fun T xs wr hA=>?_) ?_
 rotate_left 1
 ·have e22:=hA.tm 2 22 (by rfl) (by rfl);have f22:xs 2=_:=hA.fa 2 (by rfl)
  (try simp (disch:=first | rfl | decide) only [R7.mask_in] at f22)
  rw[f22] at e22;clear f22;have e7:=hA.pre 7 (by kernel_rfl);simp only[gsa,gsc,gsz] at e7;clear hA;refine⟨((Rely.wanted_at rfl (by rfl) e22).trans (by rfl)),?_⟩;go_simp<;>(try with_reducible rfl)
 refine R7.Chain.det ?_ (by rfl) (fun T xs wr hA=>?_) ?_
 rotate_left 1
 ·have e22:=hA.tm 2 22 (by rfl) (by rfl);have f22:xs 2=_:=hA.fa 2 (by rfl)
  (try simp (disch:=first | rfl | decide) only [R7.mask_in] at f22)
  rw[f22] at e22;clear f22;have e24:=hA.tm 4 24 (by rfl) (by rfl);have f24:xs 4=(.int .i64 1):=hA.fa 4 (by rfl);rw[f24] at e24;clear f24;have e25:=hA.tm 5 25 (by rfl) (by rfl);have f25:xs 5=_:=hA.fa 5 (by rfl)
  (try simp (disch:=first | rfl | decide) only [R7.mask_in] at f25)
  rw[f25] at e25;clear f25;clear hA;refine⟨((Rely.wanted_at rfl (by rfl) e22).trans (by rfl)),?_⟩;go_simp<;>(try with_reducible rfl)
 refine R7.Chain.det ?_ (by rfl) (fun T xs wr hA=>?_) ?_
 rotate_left 1
 ·have e22:=hA.tm 2 22 (by rfl) (by rfl);have f22:xs 2=_:=hA.fa 2 (by rfl)
  (try simp (disch:=first | rfl | decide) only [R7.mask_in] at f22)
  rw[f22] at e22;clear f22;have e26:=hA.tm 6 26 (by rfl) (by rfl);have f26:xs 6=_:=hA.fa 6 (by rfl)
  (try simp (disch:=first | rfl | decide) only [R7.mask_in] at f26)
  rw[f26] at e26;clear f26;clear hA;refine⟨(by rfl),?_⟩;go_simp<;>(try with_reducible rfl)
 refine R7.Chain.det ?_ (by rfl) (fun T xs wr hA=>?_) ?_
 rotate_left 1
 ·have e27:=hA.tm 7 27 (by rfl) (by rfl);have f27:xs 7=_:=hA.fa 7 (by rfl)
  (try simp (disch:=first | rfl | decide) only [R7.mask_in] at f27)
  rw[f27] at e27;clear f27;clear hA;refine⟨(by rfl),?_⟩;go_simp<;>(try with_reducible rfl)
 refine R7.Chain.det ?_ (by rfl) (fun T xs wr hA=>?_) ?_
 rotate_left 1
 ·have e28:=hA.tm 8 28 (by rfl) (by rfl);have f28:xs 8=_:=hA.fa 8 (by rfl)
  (try simp (disch:=first | rfl | decide) only [R7.mask_in] at f28)
  rw[f28] at e28;clear f28;have e8:=hA.pre 8 (by kernel_rfl);simp only[gsa,gsc,gsz] at e8;have hBq:wr.heap[kx]?=_:=(hA.bl _ hlt_x (fun q h=>absurd h (Nat.not_lt_zero _))).trans HBx.out;have q0:=cell_at (v:=.int .i64 ty) hBq 0 rfl;have q1:=cell_at (v:=.bool b) hBq 1 rfl;have q2:=cell_at (v:=.slice ao l c) hBq 2 rfl;have q3:=cell_at (v:=.string tn) hBq 3 rfl;have q4:=cell_at (v:=.slice po pl pc) hBq 4 rfl;clear hBq;clear hA;refine⟨((Rely.wanted_at rfl (by rfl) e28).trans (by rfl)),?_⟩;go_simp<;>(try with_reducible rfl)
 refine R7.Chain.det ?_ (by rfl) (fun T xs wr hA=>?_) ?_
 rotate_left 1
 ·have e28:=hA.tm 8 28 (by rfl) (by rfl);have f28:xs 8=_:=hA.fa 8 (by rfl)
  (try simp (disch:=first | rfl | decide) only [R7.mask_in] at f28)
  rw[f28] at e28;clear f28;have e9:=hA.pre 9 (by kernel_rfl);simp only[gsa,gsc,gsz] at e9;clear hA;refine⟨((Rely.wanted_at rfl (by rfl) e28).trans (by rfl)),?_⟩;go_simp<;>(try with_reducible rfl)
 refine R7.Chain.call (fun xs v w=>∃ y,v=y/\VC w y (ev (rho env) t)) (fun _ _ _ _ h hb=>by obtain⟨y,h1,h2⟩:=h;exact⟨y,h1,h2.below hb⟩) (fun _ _ _ _ _ _ h _=>by obtain⟨q,hq,_⟩:=h;exact absurd hq (Nat.not_lt_zero _)) (by rfl) (fun T xs wr hA=>?_) ?_
 ·have e28:=hA.tm 8 28 (by rfl) (by rfl);have f28:xs 8=_:=hA.fa 8 (by rfl)
  (try simp (disch:=first | rfl | decide) only [R7.mask_in] at f28)
  rw[f28] at e28;clear f28;have hsw:=(hA.be 0 (Nat.zero_le _) (fun _ _=>Nat.zero_le _)).size;have e29:=hA.tm 9 29 (by rfl) (by rfl);have f29:xs 9=_:=hA.fa 9 (by rfl)
  (try simp (disch:=first | rfl | decide) only [R7.mask_in] at f29)
  rw[f29] at e29;clear f29;have e30:=hA.tm 10 30 (by rfl) (by rfl);have f30:xs 10=_:=hA.fa 10 (by rfl)
  (try simp (disch:=first | rfl | decide) only [R7.mask_in] at f30)
  rw[f30] at e30;clear f30;have hbw:=undrew (hA.be x5.heap.size (Nat.le_refl _) (fun q h=>absurd h (Nat.not_lt_zero q)));have hfw:=HFC.out.below hbw;have hew:=HEL.out.below hbw;clear hA;refine⟨((Rely.wanted_at rfl (by rfl) e28).trans (by rfl)),fun K hK=>?_⟩;go_simp
  refine (eval_p 6 _ _ env t _ _ hfw hew HRT.out HSM.out).mono ?_;rintro e w' ⟨y,rfl,hy,hb'⟩;exact hK.out _ _ ⟨y,rfl,hy⟩ hb'
 refine R7.Chain.det ?_ (by rfl) (fun T xs wr hA=>?_) ?_
 rotate_left 1
 ·have e28:=hA.tm 8 28 (by rfl) (by rfl);have f28:xs 8=_:=hA.fa 8 (by rfl)
  (try simp (disch:=first | rfl | decide) only [R7.mask_in] at f28)
  rw[f28] at e28;clear f28;have e8:=hA.pre 8 (by kernel_rfl);simp only[gsa,gsc,gsz] at e8;have hBq:wr.heap[kx]?=_:=(hA.bl _ hlt_x (fun q h=>absurd h (Nat.not_lt_zero _))).trans HBx.out;have q0:=cell_at (v:=.int .i64 ty) hBq 0 rfl;have q1:=cell_at (v:=.bool b) hBq 1 rfl;have q2:=cell_at (v:=.slice ao l c) hBq 2 rfl;have q3:=cell_at (v:=.string tn) hBq 3 rfl;have q4:=cell_at (v:=.slice po pl pc) hBq 4 rfl;clear hBq;clear hA;refine⟨((Rely.wanted_at rfl (by rfl) e28).trans (by rfl)),?_⟩;go_simp<;>(try with_reducible rfl)
 refine R7.Chain.det ?_ (by rfl) (fun T xs wr hA=>?_) ?_
 rotate_left 1
 ·have e28:=hA.tm 8 28 (by rfl) (by rfl);have f28:xs 8=_:=hA.fa 8 (by rfl)
  (try simp (disch:=first | rfl | decide) only [R7.mask_in] at f28)
  rw[f28] at e28;clear f28;have e9:=hA.pre 9 (by kernel_rfl);simp only[gsa,gsc,gsz] at e9;clear hA;refine⟨((Rely.wanted_at rfl (by rfl) e28).trans (by rfl)),?_⟩;go_simp<;>(try with_reducible rfl)
 refine R7.Chain.call (fun xs v w=>∃ y,v=y/\VC w y (ev (rho env) t)) (fun _ _ _ _ h hb=>by obtain⟨y,h1,h2⟩:=h;exact⟨y,h1,h2.below hb⟩) (fun _ _ _ _ _ _ h _=>by obtain⟨q,hq,_⟩:=h;exact absurd hq (Nat.not_lt_zero _)) (by rfl) (fun T xs wr hA=>?_) ?_
 ·have e28:=hA.tm 8 28 (by rfl) (by rfl);have f28:xs 8=_:=hA.fa 8 (by rfl)
  (try simp (disch:=first | rfl | decide) only [R7.mask_in] at f28)
  rw[f28] at e28;clear f28;have hsw:=(hA.be 0 (Nat.zero_le _) (fun _ _=>Nat.zero_le _)).size;have e32:=hA.tm 12 32 (by rfl) (by rfl);have f32:xs 12=_:=hA.fa 12 (by rfl)
  (try simp (disch:=first | rfl | decide) only [R7.mask_in] at f32)
  rw[f32] at e32;clear f32;have e33:=hA.tm 13 33 (by rfl) (by rfl);have f33:xs 13=_:=hA.fa 13 (by rfl)
  (try simp (disch:=first | rfl | decide) only [R7.mask_in] at f33)
  rw[f33] at e33;clear f33;have hbw:=undrew (hA.be x5.heap.size (Nat.le_refl _) (fun q h=>absurd h (Nat.not_lt_zero q)));have hfw:=HFC.out.below hbw;have hew:=HEL.out.below hbw;clear hA;refine⟨((Rely.wanted_at rfl (by rfl) e28).trans (by rfl)),fun K hK=>?_⟩;go_simp
  refine (value_all 6 _ _ env t _ _ hfw hew HRT.out HSM.out HTM.out HNS.out).mono ?_;rintro e w' ⟨y,rfl,hy,hb'⟩;exact hK.out _ _ ⟨y,rfl,hy⟩ hb'
 refine R7.Chain.call (fun xs v w=>v=.bool true) (fun _ _ _ _ h _=>h) (fun _ _ _ _ _ h _ _=>h) (by rfl) (fun T xs wr hA=>?_) ?_
 ·have e28:=hA.tm 8 28 (by rfl) (by rfl);have f28:xs 8=_:=hA.fa 8 (by rfl)
  (try simp (disch:=first | rfl | decide) only [R7.mask_in] at f28)
  rw[f28] at e28;clear f28;have hsw:=(hA.be 0 (Nat.zero_le _) (fun _ _=>Nat.zero_le _)).size;have e31:=hA.tm 11 31 (by rfl) (by rfl);have e34:=hA.tm 14 34 (by rfl) (by rfl);have hbw:=undrew (hA.be x5.heap.size (Nat.le_refl _) (fun q h=>absurd h (Nat.not_lt_zero q)));have hF11:∃ y,(xs 11)=y/\VC wr y (ev (rho env) t):=hA.fa 11 (by rfl);obtain⟨y1,e1,hy1⟩:=hF11;have hF14:∃ y,(xs 14)=y/\VC wr y (ev (rho env) t):=hA.fa 14 (by rfl);obtain⟨y2,e2,hy2⟩:=hF14;clear hA;refine⟨((Rely.wanted_at rfl (by rfl) e28).trans (by rfl)),fun K hK=>?_⟩;go_simp
  refine (same_p _ _ (ev (rho env) t) (ev (rho env) t) _ (by first | exact hy1 | (rw[e1];exact hy1)) (by first | exact hy2 | (rw[e2];exact hy2))).mono ?_;rintro e w' ⟨rfl,hb'⟩;exact hK.out _ _ (by simp) hb'
 refine R7.Chain.det ?_ (by rfl) (fun T xs wr hA=>?_) ?_
 rotate_left 1
 ·have e28:=hA.tm 8 28 (by rfl) (by rfl);have f28:xs 8=_:=hA.fa 8 (by rfl)
  (try simp (disch:=first | rfl | decide) only [R7.mask_in] at f28)
  rw[f28] at e28;clear f28;have e35:=hA.tm 15 35 (by rfl) (by rfl);have f35:xs 15=(.bool true):=hA.fa 15 (by rfl);rw[f35] at e35;clear f35;clear hA;refine⟨(by rfl),?_⟩;go_simp<;>(try with_reducible rfl)
 refine R7.Chain.det ?_ (by rfl) (fun T xs wr hA=>?_) ?_
 rotate_left 1
 ·have e36:=hA.tm 16 36 (by rfl) (by rfl);have f36:xs 16=_:=hA.fa 16 (by rfl)
  (try simp (disch:=first | rfl | decide) only [R7.mask_in] at f36)
  rw[f36] at e36;clear f36;clear hA;refine⟨(by rfl),?_⟩;go_simp<;>(try with_reducible rfl)
 refine R7.Chain.det ?_ (by rfl) (fun T xs wr hA=>?_) ?_
 rotate_left 1
 ·have e37:=hA.tm 17 37 (by rfl) (by rfl);have f37:xs 17=_:=hA.fa 17 (by rfl)
  (try simp (disch:=first | rfl | decide) only [R7.mask_in] at f37)
  rw[f37] at e37;clear f37;have e8:=hA.pre 8 (by kernel_rfl);simp only[gsa,gsc,gsz] at e8;have hBq:wr.heap[kx]?=_:=(hA.bl _ hlt_x (fun q h=>absurd h (Nat.not_lt_zero _))).trans HBx.out;have q0:=cell_at (v:=.int .i64 ty) hBq 0 rfl;have q1:=cell_at (v:=.bool b) hBq 1 rfl;have q2:=cell_at (v:=.slice ao l c) hBq 2 rfl;have q3:=cell_at (v:=.string tn) hBq 3 rfl;have q4:=cell_at (v:=.slice po pl pc) hBq 4 rfl;clear hBq;clear hA;refine⟨((Rely.wanted_at rfl (by rfl) e37).trans (by rfl)),?_⟩;go_simp<;>(try with_reducible rfl)
 refine R7.Chain.det ?_ (by rfl) (fun T xs wr hA=>?_) ?_
 rotate_left 1
 ·have e37:=hA.tm 17 37 (by rfl) (by rfl);have f37:xs 17=_:=hA.fa 17 (by rfl)
  (try simp (disch:=first | rfl | decide) only [R7.mask_in] at f37)
  rw[f37] at e37;clear f37;have e9:=hA.pre 9 (by kernel_rfl);simp only[gsa,gsc,gsz] at e9;clear hA;refine⟨((Rely.wanted_at rfl (by rfl) e37).trans (by rfl)),?_⟩;go_simp<;>(try with_reducible rfl)
 refine R7.Chain.call (fun xs v w=>v=.bool B) (fun _ _ _ _ h _=>h) (fun _ _ _ _ _ h _ _=>h) (by rfl) (fun T xs wr hA=>?_) ?_
 ·have e37:=hA.tm 17 37 (by rfl) (by rfl);have f37:xs 17=_:=hA.fa 17 (by rfl)
  (try simp (disch:=first | rfl | decide) only [R7.mask_in] at f37)
  rw[f37] at e37;clear f37;have hsw:=(hA.be 0 (Nat.zero_le _) (fun _ _=>Nat.zero_le _)).size;have e38:=hA.tm 18 38 (by rfl) (by rfl);have f38:xs 18=_:=hA.fa 18 (by rfl)
  (try simp (disch:=first | rfl | decide) only [R7.mask_in] at f38)
  rw[f38] at e38;clear f38;have e39:=hA.tm 19 39 (by rfl) (by rfl);have f39:xs 19=_:=hA.fa 19 (by rfl)
  (try simp (disch:=first | rfl | decide) only [R7.mask_in] at f39)
  rw[f39] at e39;clear f39;have hbw:=undrew (hA.be x5.heap.size (Nat.le_refl _) (fun q h=>absurd h (Nat.not_lt_zero q)));have hfw:=HFC.out.below hbw;have hew:=HEL.out.below hbw;clear hA;refine⟨((Rely.wanted_at rfl (by rfl) e37).trans (by rfl)),fun K hK=>?_⟩;go_simp
  refine (holds_p 6 _ _ env t _ _ hfw hew HRT.out HSM.out).mono ?_;rintro e w' ⟨rfl,hb'⟩;rw[<-HB.out];exact hK.out _ _ rfl hb'
 refine R7.Chain.det ?_ (by rfl) (fun T xs wr hA=>?_) ?_
 rotate_left 1
 ·have e37:=hA.tm 17 37 (by rfl) (by rfl);have f37:xs 17=_:=hA.fa 17 (by rfl)
  (try simp (disch:=first | rfl | decide) only [R7.mask_in] at f37)
  rw[f37] at e37;clear f37;have e8:=hA.pre 8 (by kernel_rfl);simp only[gsa,gsc,gsz] at e8;have hBq:wr.heap[kx]?=_:=(hA.bl _ hlt_x (fun q h=>absurd h (Nat.not_lt_zero _))).trans HBx.out;have q0:=cell_at (v:=.int .i64 ty) hBq 0 rfl;have q1:=cell_at (v:=.bool b) hBq 1 rfl;have q2:=cell_at (v:=.slice ao l c) hBq 2 rfl;have q3:=cell_at (v:=.string tn) hBq 3 rfl;have q4:=cell_at (v:=.slice po pl pc) hBq 4 rfl;clear hBq;clear hA;refine⟨((Rely.wanted_at rfl (by rfl) e37).trans (by rfl)),?_⟩;go_simp<;>(try with_reducible rfl)
 refine R7.Chain.det ?_ (by rfl) (fun T xs wr hA=>?_) ?_
 rotate_left 1
 ·have e37:=hA.tm 17 37 (by rfl) (by rfl);have f37:xs 17=_:=hA.fa 17 (by rfl)
  (try simp (disch:=first | rfl | decide) only [R7.mask_in] at f37)
  rw[f37] at e37;clear f37;have e9:=hA.pre 9 (by kernel_rfl);simp only[gsa,gsc,gsz] at e9;clear hA;refine⟨((Rely.wanted_at rfl (by rfl) e37).trans (by rfl)),?_⟩;go_simp<;>(try with_reducible rfl)
 refine R7.Chain.call (fun xs v w=>∃ k b o l c p m q,v=.agg #[.int .i64 k,.bool b,.slice o l c,.bool B,.slice p m q]) (fun _ _ _ _ h _=>h) (fun _ _ _ _ _ h _ _=>h) (by rfl) (fun T xs wr hA=>?_) ?_
 ·have e37:=hA.tm 17 37 (by rfl) (by rfl);have f37:xs 17=_:=hA.fa 17 (by rfl)
  (try simp (disch:=first | rfl | decide) only [R7.mask_in] at f37)
  rw[f37] at e37;clear f37;have hsw:=(hA.be 0 (Nat.zero_le _) (fun _ _=>Nat.zero_le _)).size;have e41:=hA.tm 21 41 (by rfl) (by rfl);have f41:xs 21=_:=hA.fa 21 (by rfl)
  (try simp (disch:=first | rfl | decide) only [R7.mask_in] at f41)
  rw[f41] at e41;clear f41;have e42:=hA.tm 22 42 (by rfl) (by rfl);have f42:xs 22=_:=hA.fa 22 (by rfl)
  (try simp (disch:=first | rfl | decide) only [R7.mask_in] at f42)
  rw[f42] at e42;clear f42;have hbw:=undrew (hA.be x5.heap.size (Nat.le_refl _) (fun q h=>absurd h (Nat.not_lt_zero q)));have hfw:=HFC.out.below hbw;have hew:=HEL.out.below hbw;clear hA;refine⟨((Rely.wanted_at rfl (by rfl) e37).trans (by rfl)),fun K hK=>?_⟩;go_simp
  refine (value_all 6 _ _ env t _ _ hfw hew HRT.out HSM.out HTM.out HNS.out).mono ?_;rintro e w' ⟨y,rfl,hy,hb'⟩;obtain⟨k1,b1,o1,l1,c1,p1,m1,q1,rfl⟩:=hy.shape;rw[<-HB.out];exact hK.out _ _ ⟨_,_,_,_,_,_,_,_,rfl⟩ hb'
 refine R7.Chain.call (fun xs v w=>v=.bool B) (fun _ _ _ _ h _=>h) (fun _ _ _ _ _ h _ _=>h) (by rfl) (fun T xs wr hA=>?_) ?_
 ·have e37:=hA.tm 17 37 (by rfl) (by rfl);have f37:xs 17=_:=hA.fa 17 (by rfl)
  (try simp (disch:=first | rfl | decide) only [R7.mask_in] at f37)
  rw[f37] at e37;clear f37;have hsw:=(hA.be 0 (Nat.zero_le _) (fun _ _=>Nat.zero_le _)).size;have e43:=hA.tm 23 43 (by rfl) (by rfl);have hF23:∃ k b o l c p m q,(xs 23)=.agg #[.int .i64 k,.bool b,.slice o l c,.bool B,.slice p m q]:=hA.fa 23 (by rfl);obtain⟨k1,b1,o1,l1,c1,p1,m1,q1,e23⟩:=hF23;rw[e23] at e43;clear hA;refine⟨((Rely.wanted_at rfl (by rfl) e37).trans (by rfl)),fun K hK=>?_⟩;go_simp
  exact hK.out _ _ rfl (Below.refl _ _)
 refine R7.Chain.det ?_ (by rfl) (fun T xs wr hA=>?_) ?_
 rotate_left 1
 ·have e37:=hA.tm 17 37 (by rfl) (by rfl);have f37:xs 17=_:=hA.fa 17 (by rfl)
  (try simp (disch:=first | rfl | decide) only [R7.mask_in] at f37)
  rw[f37] at e37;clear f37;have e40:=hA.tm 20 40 (by rfl) (by rfl);have f40:xs 20=(.bool B):=hA.fa 20 (by rfl);rw[f40] at e40;clear f40;have e44:=hA.tm 24 44 (by rfl) (by rfl);have f44:xs 24=(.bool B):=hA.fa 24 (by rfl);rw[f44] at e44;clear f44;clear hA;refine⟨((Rely.wanted_at rfl (by rfl) e37).trans (by rfl)),?_⟩;go_simp<;>(try with_reducible rfl)
 refine R7.Chain.det ?_ (by rfl) (fun T xs wr hA=>?_) ?_
 rotate_left 1
 ·have e37:=hA.tm 17 37 (by rfl) (by rfl);have f37:xs 17=_:=hA.fa 17 (by rfl)
  (try simp (disch:=first | rfl | decide) only [R7.mask_in] at f37)
  rw[f37] at e37;clear f37;have e45:=hA.tm 25 45 (by rfl) (by rfl);have f45:xs 25=_:=hA.fa 25 (by rfl)
  (try simp (disch:=first | rfl | decide) only [R7.mask_in] at f45)
  rw[f45] at e45;clear f45;clear hA;refine⟨(by rfl),?_⟩;go_simp<;>(try with_reducible rfl)
 refine R7.Chain.det ?_ (by rfl) (fun T xs wr hA=>?_) ?_
 rotate_left 1
 ·have e46:=hA.tm 26 46 (by rfl) (by rfl);have f46:xs 26=_:=hA.fa 26 (by rfl)
  (try simp (disch:=first | rfl | decide) only [R7.mask_in] at f46)
  rw[f46] at e46;clear f46;clear hA;refine⟨(by rfl),?_⟩;go_simp<;>(try with_reducible rfl)
 refine R7.Chain.done (fun xs x6 hL=>?_);obtain⟨⟨hbe,hbl⟩,hf,-,-⟩:=hL;have f0:xs 0=_:=hf 0 (by decide)
 (try simp (disch:=first | rfl | decide) only [R7.mask_in] at f0)
 have f1:xs 1=(.bool true):=hf 1 (by decide);have f2:xs 2=_:=hf 2 (by decide)
 (try simp (disch:=first | rfl | decide) only [R7.mask_in] at f2)
 have f3:xs 3=_:=hf 3 (by decide)
 (try simp (disch:=first | rfl | decide) only [R7.mask_in] at f3)
 have f4:xs 4=(.int .i64 1):=hf 4 (by decide);have f5:xs 5=_:=hf 5 (by decide)
 (try simp (disch:=first | rfl | decide) only [R7.mask_in] at f5)
 have f6:xs 6=_:=hf 6 (by decide)
 (try simp (disch:=first | rfl | decide) only [R7.mask_in] at f6)
 have f7:xs 7=_:=hf 7 (by decide)
 (try simp (disch:=first | rfl | decide) only [R7.mask_in] at f7)
 have f8:xs 8=_:=hf 8 (by decide)
 (try simp (disch:=first | rfl | decide) only [R7.mask_in] at f8)
 have f9:xs 9=_:=hf 9 (by decide)
 (try simp (disch:=first | rfl | decide) only [R7.mask_in] at f9)
 have f10:xs 10=_:=hf 10 (by decide)
 (try simp (disch:=first | rfl | decide) only [R7.mask_in] at f10)
 have F11:∃ y,(xs 11)=y/\VC x6 y (ev (rho env) t):=hf 11 (by decide);have f12:xs 12=_:=hf 12 (by decide)
 (try simp (disch:=first | rfl | decide) only [R7.mask_in] at f12)
 have f13:xs 13=_:=hf 13 (by decide)
 (try simp (disch:=first | rfl | decide) only [R7.mask_in] at f13)
 have F14:∃ y,(xs 14)=y/\VC x6 y (ev (rho env) t):=hf 14 (by decide);have f15:xs 15=(.bool true):=hf 15 (by decide);have f16:xs 16=_:=hf 16 (by decide)
 (try simp (disch:=first | rfl | decide) only [R7.mask_in] at f16)
 have f17:xs 17=_:=hf 17 (by decide)
 (try simp (disch:=first | rfl | decide) only [R7.mask_in] at f17)
 have f18:xs 18=_:=hf 18 (by decide)
 (try simp (disch:=first | rfl | decide) only [R7.mask_in] at f18)
 have f19:xs 19=_:=hf 19 (by decide)
 (try simp (disch:=first | rfl | decide) only [R7.mask_in] at f19)
 have f20:xs 20=(.bool B):=hf 20 (by decide);have f21:xs 21=_:=hf 21 (by decide)
 (try simp (disch:=first | rfl | decide) only [R7.mask_in] at f21)
 have f22:xs 22=_:=hf 22 (by decide)
 (try simp (disch:=first | rfl | decide) only [R7.mask_in] at f22)
 have F23:∃ k b o l c p m q,(xs 23)=.agg #[.int .i64 k,.bool b,.slice o l c,.bool B,.slice p m q]:=hf 23 (by decide);have f24:xs 24=(.bool B):=hf 24 (by decide);have f25:xs 25=_:=hf 25 (by decide)
 (try simp (disch:=first | rfl | decide) only [R7.mask_in] at f25)
 have f26:xs 26=_:=hf 26 (by decide)
 (try simp (disch:=first | rfl | decide) only [R7.mask_in] at f26)
 have f27:xs 27=_:=hf 27 (by decide)
 (try simp (disch:=first | rfl | decide) only [R7.mask_in] at f27)
 have hb0:Below 0 x5 x6:=undrew (hbe 0 (Nat.zero_le _) (fun _ _=>Nat.zero_le _));have hgr:∀ j,j<x5.heap.size->(∀ q,q<0->(fun q=>0) q≠j)->x6.heap[j]?=x5.heap[j]?:=hbl;clear hbe hbl hf;have hb:Below x5.heap.size x5 x6:=⟨hb0.os,hb0.tape,hb0.output,hb0.size,fun q hq=>hgr q hq (fun q h=>absurd h (Nat.not_lt_zero _))⟩
 refine R7.rest_done ?_;simp only[R7.fill,t5_,t6_,t7_,f0,f1,f2,f3,f4,f5,f6,f7,f8,f9,f10,f12,f13,f15,f16,f17,f18,f19,f20,f21,f22,f24,f25,f26,f27];clear hb0 hgr hog hlt_x f0 f1 f2 f3 f4 f5 f6 f7 f8 f9 f10 f12 f13 f15 f16 f17 f18 f19 f20 f21 f22 f24 f25 f26 f27;replace HBf:=kBV hb HBf;replace HBx:=kBV hb HBx;replace HW:=Lib.hid (HW.out.trans (hb.mono HW.out.size));replace HFC:=Lib.hid (HFC.out.below hb);replace HEL:=Lib.hid (HEL.out.below hb);replace hb:=Lib.hid hb;go_wp2_with fail
 go_ret
 exact⟨rfl,HW.out⟩
theorem evals_2 (x:RU) (ko:Option Addr) (kl kc:Nat) (p:Int) (K:Nat) (w:World) (hx:∀ d,RawF w d x) (hv:RVals w ko kl kc) (hK:bits BinOp.and IntKind.i64 p 255=(K:Int)) (hs:((K:Nat):Int).tmod 3=2) :
  Calls Try.prog 3 #[rV x,.slice ko kl kc,.int .i64 p] w fun e w'=>e=.returned (.bool true)/\Below w.heap.size w w':=by
 obtain⟨xo,xb,xao,xl,xc,xnm,xko,xkl,xkc⟩:=x;have HX:=Lib.hid (hx 6);have HV:=Lib.hid hv;unfold rV;simp only;clear hx hv;have HW:=Lib.hid (Below.refl w.heap.size w);go_enter Try.func3,Try.ntmps3
 obtain⟨x1,kf,ef,ekf,hbf,hkf,HBf⟩:=newV w #[.int .i64 xo,.bool xb,.slice xao xl xc,.string xnm,.slice xko xkl xkc] 29;replace HW:=Lib.hid (HW.out.trans (hbf.out.mono HW.out.size));replace HX:=Lib.hid (HX.out.below hbf.out);replace HV:=Lib.hid (HV.out.below hbf.out);go_wp2_with fail
 refine (fit_p x1).mono ?_;rintro e x2 ⟨rfl,hb⟩;replace HBf:=kBV hb HBf;replace HW:=Lib.hid (HW.out.trans (hb.mono HW.out.size));replace HX:=Lib.hid (HX.out.below hb);replace HV:=Lib.hid (HV.out.below hb);have c0:=cell_at (v:=.int .i64 xo) HBf.out 0 rfl;have fc0:=froz_at HBf.out 0;have c1:=cell_at (v:=.bool xb) HBf.out 1 rfl;have fc1:=froz_at HBf.out 1;have c2:=cell_at (v:=.slice xao xl xc) HBf.out 2 rfl;have fc2:=froz_at HBf.out 2;have c3:=cell_at (v:=.string xnm) HBf.out 3 rfl;have fc3:=froz_at HBf.out 3;have c4:=cell_at (v:=.slice xko xkl xkc) HBf.out 4 rfl;have fc4:=froz_at HBf.out 4;go_wp2_with fail
 clear hK hs;refine (tame6 2 _ _ _ _ _ _ _ _ _ x2 (by decide) HX.out).mono ?_;rintro e x3 ⟨v,t,rfl,hfc,hrt,hsrt,htm,hb⟩;clear c0 fc0 c1 fc1 c2 fc2 c3 fc3 c4 fc4;replace HBf:=kBV hb HBf;replace HW:=Lib.hid (HW.out.trans (hb.mono HW.out.size));replace HX:=Lib.hid (HX.out.below hb);replace HV:=Lib.hid (HV.out.below hb);obtain⟨b,ao,l,c,po,pl,pc,rfl,⟨hr,hz,hkl,hkc,hkm⟩,-,-⟩:=hfc.open;obtain⟨ty,hty⟩:∃ x,x=t.op:=⟨_,rfl⟩
 obtain⟨tn,htn⟩:∃ x,x=t.name:=⟨_,rfl⟩
 rw[<-hty,<-htn] at hfc;rw[<-hty,<-htn];have HFC:=Lib.hid hfc;have HRT:=Lib.hid hrt;have HTM:=Lib.hid htm;have HSO:Hid (srt ty=2):=Lib.hid (by rw[hty];exact hsrt);clear hfc hrt hsrt htm hr hz hkl hkc hkm hty htn;clear HX;obtain⟨x4,kx,ex,ekx,hbx,hkx,HBx⟩:=newV x3 #[.int .i64 ty,.bool b,.slice ao l c,.string tn,.slice po pl pc] 29;replace HBf:=kBV hbx.out HBf;replace HW:=Lib.hid (HW.out.trans (hbx.out.mono HW.out.size));replace HV:=Lib.hid (HV.out.below hbx.out);replace HFC:=Lib.hid (HFC.out.below hbx.out);go_wp2_with fail
 refine (env_p ko kl kc x4 HV.out).mono ?_;rintro e x5 ⟨ve,env,rfl,hel,hen,hb⟩;replace HBf:=kBV hb HBf;replace HBx:=kBV hb HBx;replace HW:=Lib.hid (HW.out.trans (hb.mono HW.out.size));replace HV:=Lib.hid (HV.out.below hb);replace HFC:=Lib.hid (HFC.out.below hb);have HEL:=Lib.hid hel;obtain⟨eo,en,ec,rfl⟩:=hel.shape;obtain⟨hbd,hsm⟩:=tm_bd (r:=rho env) (rho_bd hen.2.2) 6 (by decide) t HTM.out HRT.out;have HNS:=Lib.hid (env_ns hen);have HSM:=Lib.hid hsm;clear hel hen hbd hsm HV;obtain⟨B,hB⟩:∃ B,B=asB (ev (rho env) t):=⟨_,rfl⟩
 have HB:=Lib.hid hB;clear hB;go_upto_region 6 with fail
 have hBB:(B==B)=true:=beq_self_eq_true B;have hlt_x:=lt_of_block HBx.out;have hog:Hid (∀ q,q<0->(fun q=>0) q<x5.heap.size):=Lib.hid (fun q h=>absurd h (Nat.not_lt_zero _))
 refine R7.region (by kernel_rfl) [[],[0],[0,1],[0,1,2],[0,1,2,3],[0,1,2],[0,1,2,3,4,5],[0,1,2,3,4,5,6],[0,1,2,3,4,5,6,7],[0,1,2,3,4,5,6,7,8],[0,1,2,3,4,5,6,7,8],[0,1,2,3,4,5,6,7,8,9,10],[0,1,2,3,4,5,6,7,8],[0,1,2,3,4,5,6,7,8],[0,1,2,3,4,5,6,7,8,9,10,11,12,13],[0,1,2,3,4,5,6,7,8,9,10,11,12,13,14],[0,1,2,3,4,5,6,7,8,9,10,11,12,13,14,15],[0,1,2,3,4,5,6,7,8,9,10,11,12,13,14,15,16],[0,1,2,3,4,5,6,7,8,9,10,11,12,13,14,15,16,17],[0,1,2,3,4,5,6,7,8,9,10,11,12,13,14,15,16,17],[0,1,2,3,4,5,6,7,8,9,10,11,12,13,14,15,16,17,18,19],[0,1,2,3,4,5,6,7,8,9,10,11,12,13,14,15,16,17],[0,1,2,3,4,5,6,7,8,9,10,11,12,13,14,15,16,17],[0,1,2,3,4,5,6,7,8,9,10,11,12,13,14,15,16,17,18,19,20,21,22],[0,1,2,3,4,5,6,7,8,9,10,11,12,13,14,15,16,17,18,19,20,21,22,23],[0,1,2,3,4,5,6,7,8,9,10,11,12,13,14,15,16,17,18,19,20,21,22,23,24],[0,1,2,3,4,5,6,7,8,9,10,11,12,13,14,15,16,17,18,19,20,21,22,23,24,25],[0,1,2,3,4,5,6,7,8,9,10,11,12,13,14,15,16,17,18,19,20,21,22,23,24,25,26]] [] [] (fun q=>0) 0 28 (by kernel_rfl) (by kernel_rfl) (by rfl) hog.out (fun q q' h h' hn=>absurd hn (by omega)) ?_
 refine R7.Chain.det ?_ (by rfl) (fun T xs wr hA=>?_) ?_
 rotate_left 1
 ·have e8:=hA.pre 8 (by kernel_rfl);simp only[gsa,gsc,gsz] at e8;have hBq:wr.heap[kx]?=_:=(hA.bl _ hlt_x (fun q h=>absurd h (Nat.not_lt_zero _))).trans HBx.out;have q0:=cell_at (v:=.int .i64 ty) hBq 0 rfl;have q1:=cell_at (v:=.bool b) hBq 1 rfl;have q2:=cell_at (v:=.slice ao l c) hBq 2 rfl;have q3:=cell_at (v:=.string tn) hBq 3 rfl;have q4:=cell_at (v:=.slice po pl pc) hBq 4 rfl;clear hBq;clear hA;refine⟨(by rfl),?_⟩;go_simp<;>(try with_reducible rfl)
 refine R7.Chain.call (fun xs v w=>v=.bool true) (fun _ _ _ _ h _=>h) (fun _ _ _ _ _ h _ _=>h) (by rfl) (fun T xs wr hA=>?_) ?_
 ·have hsw:=(hA.be 0 (Nat.zero_le _) (fun _ _=>Nat.zero_le _)).size;have e20:=hA.tm 0 20 (by rfl) (by rfl);have f20:xs 0=_:=hA.fa 0 (by rfl)
  (try simp (disch:=first | rfl | decide) only [R7.mask_in] at f20)
  rw[f20] at e20;clear f20;have hbw:=undrew (hA.be x5.heap.size (Nat.le_refl _) (fun q h=>absurd h (Nat.not_lt_zero q)));have hfw:=HFC.out.below hbw;clear hA;refine⟨(by rfl),fun K hK=>?_⟩;go_simp
  refine (right_p 6 _ t _ _ hfw).mono ?_;rintro e w' ⟨rfl,hb'⟩;rw[HRT.out];exact hK.out _ _ rfl hb'
 refine R7.Chain.det ?_ (by rfl) (fun T xs wr hA=>?_) ?_
 rotate_left 1
 ·have e21:=hA.tm 1 21 (by rfl) (by rfl);have f21:xs 1=(.bool true):=hA.fa 1 (by rfl);rw[f21] at e21;clear f21;clear hA;refine⟨(by rfl),?_⟩;go_simp<;>(try with_reducible rfl)
 refine R7.Chain.det ?_ (by rfl) (fun T xs wr hA=>?_) ?_
 rotate_left 1
 ·have e22:=hA.tm 2 22 (by rfl) (by rfl);have f22:xs 2=_:=hA.fa 2 (by rfl)
  (try simp (disch:=first | rfl | decide) only [R7.mask_in] at f22)
  rw[f22] at e22;clear f22;have e8:=hA.pre 8 (by kernel_rfl);simp only[gsa,gsc,gsz] at e8;have hBq:wr.heap[kx]?=_:=(hA.bl _ hlt_x (fun q h=>absurd h (Nat.not_lt_zero _))).trans HBx.out;have q0:=cell_at (v:=.int .i64 ty) hBq 0 rfl;have q1:=cell_at (v:=.bool b) hBq 1 rfl;have q2:=cell_at (v:=.slice ao l c) hBq 2 rfl;have q3:=cell_at (v:=.string tn) hBq 3 rfl;have q4:=cell_at (v:=.slice po pl pc) hBq 4 rfl;clear hBq;clear hA;refine⟨((Rely.wanted_at rfl (by rfl) e22).trans (by rfl)),?_⟩;go_simp<;>(try with_reducible rfl)
 refine R7.Chain.call (fun xs v w=>v=.int .i64 2) (fun _ _ _ _ h _=>h) (fun _ _ _ _ _ h _ _=>h) (by rfl) (fun T xs wr hA=>?_) ?_
 ·have e22:=hA.tm 2 22 (by rfl) (by rfl);have f22:xs 2=_:=hA.fa 2 (by rfl)
  (try simp (disch:=first | rfl | decide) only [R7.mask_in] at f22)
  rw[f22] at e22;clear f22;have hsw:=(hA.be 0 (Nat.zero_le _) (fun _ _=>Nat.zero_le _)).size;have e23:=hA.tm 3 23 (by rfl) (by rfl);have f23:xs 3=_:=hA.fa 3 (by rfl)
  (try simp (disch:=first | rfl | decide) only [R7.mask_in] at f23)
  rw[f23] at e23;clear f23;have hbw:=undrew (hA.be x5.heap.size (Nat.le_refl _) (fun q h=>absurd h (Nat.not_lt_zero q)));clear hA;refine⟨((Rely.wanted_at rfl (by rfl) e22).trans (by rfl)),fun K hK=>?_⟩;go_simp
  refine (sort_p _ _ _ _ _ _ _ _ _ _).mono ?_;rintro e w' ⟨rfl,hb'⟩;rw[HSO.out];exact hK.out _ _ rfl hb'
 refine R7.Chain.det ?_ (by rfl) (fun T xs wr hA=>?_) ?_
 rotate_left 1
 ·have e22:=hA.tm 2 22 (by rfl) (by rfl);have f22:xs 2=_:=hA.fa 2 (by rfl)
  (try simp (disch:=first | rfl | decide) only [R7.mask_in] at f22)
  rw[f22] at e22;clear f22;have e7:=hA.pre 7 (by kernel_rfl);simp only[gsa,gsc,gsz] at e7;clear hA;refine⟨((Rely.wanted_at rfl (by rfl) e22).trans (by rfl)),?_⟩;go_simp<;>(try with_reducible rfl)
 refine R7.Chain.det ?_ (by rfl) (fun T xs wr hA=>?_) ?_
 rotate_left 1
 ·have e22:=hA.tm 2 22 (by rfl) (by rfl);have f22:xs 2=_:=hA.fa 2 (by rfl)
  (try simp (disch:=first | rfl | decide) only [R7.mask_in] at f22)
  rw[f22] at e22;clear f22;have e24:=hA.tm 4 24 (by rfl) (by rfl);have f24:xs 4=(.int .i64 2):=hA.fa 4 (by rfl);rw[f24] at e24;clear f24;have e25:=hA.tm 5 25 (by rfl) (by rfl);have f25:xs 5=_:=hA.fa 5 (by rfl)
  (try simp (disch:=first | rfl | decide) only [R7.mask_in] at f25)
  rw[f25] at e25;clear f25;clear hA;refine⟨((Rely.wanted_at rfl (by rfl) e22).trans (by rfl)),?_⟩;go_simp<;>(try with_reducible rfl)
 refine R7.Chain.det ?_ (by rfl) (fun T xs wr hA=>?_) ?_
 rotate_left 1
 ·have e22:=hA.tm 2 22 (by rfl) (by rfl);have f22:xs 2=_:=hA.fa 2 (by rfl)
  (try simp (disch:=first | rfl | decide) only [R7.mask_in] at f22)
  rw[f22] at e22;clear f22;have e26:=hA.tm 6 26 (by rfl) (by rfl);have f26:xs 6=_:=hA.fa 6 (by rfl)
  (try simp (disch:=first | rfl | decide) only [R7.mask_in] at f26)
  rw[f26] at e26;clear f26;clear hA;refine⟨(by rfl),?_⟩;go_simp<;>(try with_reducible rfl)
 refine R7.Chain.det ?_ (by rfl) (fun T xs wr hA=>?_) ?_
 rotate_left 1
 ·have e27:=hA.tm 7 27 (by rfl) (by rfl);have f27:xs 7=_:=hA.fa 7 (by rfl)
  (try simp (disch:=first | rfl | decide) only [R7.mask_in] at f27)
  rw[f27] at e27;clear f27;clear hA;refine⟨(by rfl),?_⟩;go_simp<;>(try with_reducible rfl)
 refine R7.Chain.det ?_ (by rfl) (fun T xs wr hA=>?_) ?_
 rotate_left 1
 ·have e28:=hA.tm 8 28 (by rfl) (by rfl);have f28:xs 8=_:=hA.fa 8 (by rfl)
  (try simp (disch:=first | rfl | decide) only [R7.mask_in] at f28)
  rw[f28] at e28;clear f28;have e8:=hA.pre 8 (by kernel_rfl);simp only[gsa,gsc,gsz] at e8;have hBq:wr.heap[kx]?=_:=(hA.bl _ hlt_x (fun q h=>absurd h (Nat.not_lt_zero _))).trans HBx.out;have q0:=cell_at (v:=.int .i64 ty) hBq 0 rfl;have q1:=cell_at (v:=.bool b) hBq 1 rfl;have q2:=cell_at (v:=.slice ao l c) hBq 2 rfl;have q3:=cell_at (v:=.string tn) hBq 3 rfl;have q4:=cell_at (v:=.slice po pl pc) hBq 4 rfl;clear hBq;clear hA;refine⟨((Rely.wanted_at rfl (by rfl) e28).trans (by rfl)),?_⟩;go_simp<;>(try with_reducible rfl)
 refine R7.Chain.det ?_ (by rfl) (fun T xs wr hA=>?_) ?_
 rotate_left 1
 ·have e28:=hA.tm 8 28 (by rfl) (by rfl);have f28:xs 8=_:=hA.fa 8 (by rfl)
  (try simp (disch:=first | rfl | decide) only [R7.mask_in] at f28)
  rw[f28] at e28;clear f28;have e9:=hA.pre 9 (by kernel_rfl);simp only[gsa,gsc,gsz] at e9;clear hA;refine⟨((Rely.wanted_at rfl (by rfl) e28).trans (by rfl)),?_⟩;go_simp<;>(try with_reducible rfl)
 refine R7.Chain.call (fun xs v w=>∃ y,v=y/\VC w y (ev (rho env) t)) (fun _ _ _ _ h hb=>by obtain⟨y,h1,h2⟩:=h;exact⟨y,h1,h2.below hb⟩) (fun _ _ _ _ _ _ h _=>by obtain⟨q,hq,_⟩:=h;exact absurd hq (Nat.not_lt_zero _)) (by rfl) (fun T xs wr hA=>?_) ?_
 ·have e28:=hA.tm 8 28 (by rfl) (by rfl);have f28:xs 8=_:=hA.fa 8 (by rfl)
  (try simp (disch:=first | rfl | decide) only [R7.mask_in] at f28)
  rw[f28] at e28;clear f28;have hsw:=(hA.be 0 (Nat.zero_le _) (fun _ _=>Nat.zero_le _)).size;have e29:=hA.tm 9 29 (by rfl) (by rfl);have f29:xs 9=_:=hA.fa 9 (by rfl)
  (try simp (disch:=first | rfl | decide) only [R7.mask_in] at f29)
  rw[f29] at e29;clear f29;have e30:=hA.tm 10 30 (by rfl) (by rfl);have f30:xs 10=_:=hA.fa 10 (by rfl)
  (try simp (disch:=first | rfl | decide) only [R7.mask_in] at f30)
  rw[f30] at e30;clear f30;have hbw:=undrew (hA.be x5.heap.size (Nat.le_refl _) (fun q h=>absurd h (Nat.not_lt_zero q)));have hfw:=HFC.out.below hbw;have hew:=HEL.out.below hbw;clear hA;refine⟨((Rely.wanted_at rfl (by rfl) e28).trans (by rfl)),fun K hK=>?_⟩;go_simp
  refine (eval_p 6 _ _ env t _ _ hfw hew HRT.out HSM.out).mono ?_;rintro e w' ⟨y,rfl,hy,hb'⟩;exact hK.out _ _ ⟨y,rfl,hy⟩ hb'
 refine R7.Chain.det ?_ (by rfl) (fun T xs wr hA=>?_) ?_
 rotate_left 1
 ·have e28:=hA.tm 8 28 (by rfl) (by rfl);have f28:xs 8=_:=hA.fa 8 (by rfl)
  (try simp (disch:=first | rfl | decide) only [R7.mask_in] at f28)
  rw[f28] at e28;clear f28;have e8:=hA.pre 8 (by kernel_rfl);simp only[gsa,gsc,gsz] at e8;have hBq:wr.heap[kx]?=_:=(hA.bl _ hlt_x (fun q h=>absurd h (Nat.not_lt_zero _))).trans HBx.out;have q0:=cell_at (v:=.int .i64 ty) hBq 0 rfl;have q1:=cell_at (v:=.bool b) hBq 1 rfl;have q2:=cell_at (v:=.slice ao l c) hBq 2 rfl;have q3:=cell_at (v:=.string tn) hBq 3 rfl;have q4:=cell_at (v:=.slice po pl pc) hBq 4 rfl;clear hBq;clear hA;refine⟨((Rely.wanted_at rfl (by rfl) e28).trans (by rfl)),?_⟩;go_simp<;>(try with_reducible rfl)
 refine R7.Chain.det ?_ (by rfl) (fun T xs wr hA=>?_) ?_
 rotate_left 1
 ·have e28:=hA.tm 8 28 (by rfl) (by rfl);have f28:xs 8=_:=hA.fa 8 (by rfl)
  (try simp (disch:=first | rfl | decide) only [R7.mask_in] at f28)
  rw[f28] at e28;clear f28;have e9:=hA.pre 9 (by kernel_rfl);simp only[gsa,gsc,gsz] at e9;clear hA;refine⟨((Rely.wanted_at rfl (by rfl) e28).trans (by rfl)),?_⟩;go_simp<;>(try with_reducible rfl)
 refine R7.Chain.call (fun xs v w=>∃ y,v=y/\VC w y (ev (rho env) t)) (fun _ _ _ _ h hb=>by obtain⟨y,h1,h2⟩:=h;exact⟨y,h1,h2.below hb⟩) (fun _ _ _ _ _ _ h _=>by obtain⟨q,hq,_⟩:=h;exact absurd hq (Nat.not_lt_zero _)) (by rfl) (fun T xs wr hA=>?_) ?_
 ·have e28:=hA.tm 8 28 (by rfl) (by rfl);have f28:xs 8=_:=hA.fa 8 (by rfl)
  (try simp (disch:=first | rfl | decide) only [R7.mask_in] at f28)
  rw[f28] at e28;clear f28;have hsw:=(hA.be 0 (Nat.zero_le _) (fun _ _=>Nat.zero_le _)).size;have e32:=hA.tm 12 32 (by rfl) (by rfl);have f32:xs 12=_:=hA.fa 12 (by rfl)
  (try simp (disch:=first | rfl | decide) only [R7.mask_in] at f32)
  rw[f32] at e32;clear f32;have e33:=hA.tm 13 33 (by rfl) (by rfl);have f33:xs 13=_:=hA.fa 13 (by rfl)
  (try simp (disch:=first | rfl | decide) only [R7.mask_in] at f33)
  rw[f33] at e33;clear f33;have hbw:=undrew (hA.be x5.heap.size (Nat.le_refl _) (fun q h=>absurd h (Nat.not_lt_zero q)));have hfw:=HFC.out.below hbw;have hew:=HEL.out.below hbw;clear hA;refine⟨((Rely.wanted_at rfl (by rfl) e28).trans (by rfl)),fun K hK=>?_⟩;go_simp
  refine (value_all 6 _ _ env t _ _ hfw hew HRT.out HSM.out HTM.out HNS.out).mono ?_;rintro e w' ⟨y,rfl,hy,hb'⟩;exact hK.out _ _ ⟨y,rfl,hy⟩ hb'
 refine R7.Chain.call (fun xs v w=>v=.bool true) (fun _ _ _ _ h _=>h) (fun _ _ _ _ _ h _ _=>h) (by rfl) (fun T xs wr hA=>?_) ?_
 ·have e28:=hA.tm 8 28 (by rfl) (by rfl);have f28:xs 8=_:=hA.fa 8 (by rfl)
  (try simp (disch:=first | rfl | decide) only [R7.mask_in] at f28)
  rw[f28] at e28;clear f28;have hsw:=(hA.be 0 (Nat.zero_le _) (fun _ _=>Nat.zero_le _)).size;have e31:=hA.tm 11 31 (by rfl) (by rfl);have e34:=hA.tm 14 34 (by rfl) (by rfl);have hbw:=undrew (hA.be x5.heap.size (Nat.le_refl _) (fun q h=>absurd h (Nat.not_lt_zero q)));have hF11:∃ y,(xs 11)=y/\VC wr y (ev (rho env) t):=hA.fa 11 (by rfl);obtain⟨y1,e1,hy1⟩:=hF11;have hF14:∃ y,(xs 14)=y/\VC wr y (ev (rho env) t):=hA.fa 14 (by rfl);obtain⟨y2,e2,hy2⟩:=hF14;clear hA;refine⟨((Rely.wanted_at rfl (by rfl) e28).trans (by rfl)),fun K hK=>?_⟩;go_simp
  refine (same_p _ _ (ev (rho env) t) (ev (rho env) t) _ (by first | exact hy1 | (rw[e1];exact hy1)) (by first | exact hy2 | (rw[e2];exact hy2))).mono ?_;rintro e w' ⟨rfl,hb'⟩;exact hK.out _ _ (by simp) hb'
 refine R7.Chain.det ?_ (by rfl) (fun T xs wr hA=>?_) ?_
 rotate_left 1
 ·have e28:=hA.tm 8 28 (by rfl) (by rfl);have f28:xs 8=_:=hA.fa 8 (by rfl)
  (try simp (disch:=first | rfl | decide) only [R7.mask_in] at f28)
  rw[f28] at e28;clear f28;have e35:=hA.tm 15 35 (by rfl) (by rfl);have f35:xs 15=(.bool true):=hA.fa 15 (by rfl);rw[f35] at e35;clear f35;clear hA;refine⟨(by rfl),?_⟩;go_simp<;>(try with_reducible rfl)
 refine R7.Chain.det ?_ (by rfl) (fun T xs wr hA=>?_) ?_
 rotate_left 1
 ·have e36:=hA.tm 16 36 (by rfl) (by rfl);have f36:xs 16=_:=hA.fa 16 (by rfl)
  (try simp (disch:=first | rfl | decide) only [R7.mask_in] at f36)
  rw[f36] at e36;clear f36;clear hA;refine⟨(by rfl),?_⟩;go_simp<;>(try with_reducible rfl)
 refine R7.Chain.det ?_ (by rfl) (fun T xs wr hA=>?_) ?_
 rotate_left 1
 ·have e37:=hA.tm 17 37 (by rfl) (by rfl);have f37:xs 17=_:=hA.fa 17 (by rfl)
  (try simp (disch:=first | rfl | decide) only [R7.mask_in] at f37)
  rw[f37] at e37;clear f37;have e8:=hA.pre 8 (by kernel_rfl);simp only[gsa,gsc,gsz] at e8;have hBq:wr.heap[kx]?=_:=(hA.bl _ hlt_x (fun q h=>absurd h (Nat.not_lt_zero _))).trans HBx.out;have q0:=cell_at (v:=.int .i64 ty) hBq 0 rfl;have q1:=cell_at (v:=.bool b) hBq 1 rfl;have q2:=cell_at (v:=.slice ao l c) hBq 2 rfl;have q3:=cell_at (v:=.string tn) hBq 3 rfl;have q4:=cell_at (v:=.slice po pl pc) hBq 4 rfl;clear hBq;clear hA;refine⟨((Rely.wanted_at rfl (by rfl) e37).trans (by rfl)),?_⟩;go_simp<;>(try with_reducible rfl)
 refine R7.Chain.det ?_ (by rfl) (fun T xs wr hA=>?_) ?_
 rotate_left 1
 ·have e37:=hA.tm 17 37 (by rfl) (by rfl);have f37:xs 17=_:=hA.fa 17 (by rfl)
  (try simp (disch:=first | rfl | decide) only [R7.mask_in] at f37)
  rw[f37] at e37;clear f37;have e9:=hA.pre 9 (by kernel_rfl);simp only[gsa,gsc,gsz] at e9;clear hA;refine⟨((Rely.wanted_at rfl (by rfl) e37).trans (by rfl)),?_⟩;go_simp<;>(try with_reducible rfl)
 refine R7.Chain.call (fun xs v w=>v=.bool B) (fun _ _ _ _ h _=>h) (fun _ _ _ _ _ h _ _=>h) (by rfl) (fun T xs wr hA=>?_) ?_
 ·have e37:=hA.tm 17 37 (by rfl) (by rfl);have f37:xs 17=_:=hA.fa 17 (by rfl)
  (try simp (disch:=first | rfl | decide) only [R7.mask_in] at f37)
  rw[f37] at e37;clear f37;have hsw:=(hA.be 0 (Nat.zero_le _) (fun _ _=>Nat.zero_le _)).size;have e38:=hA.tm 18 38 (by rfl) (by rfl);have f38:xs 18=_:=hA.fa 18 (by rfl)
  (try simp (disch:=first | rfl | decide) only [R7.mask_in] at f38)
  rw[f38] at e38;clear f38;have e39:=hA.tm 19 39 (by rfl) (by rfl);have f39:xs 19=_:=hA.fa 19 (by rfl)
  (try simp (disch:=first | rfl | decide) only [R7.mask_in] at f39)
  rw[f39] at e39;clear f39;have hbw:=undrew (hA.be x5.heap.size (Nat.le_refl _) (fun q h=>absurd h (Nat.not_lt_zero q)));have hfw:=HFC.out.below hbw;have hew:=HEL.out.below hbw;clear hA;refine⟨((Rely.wanted_at rfl (by rfl) e37).trans (by rfl)),fun K hK=>?_⟩;go_simp
  refine (holds_p 6 _ _ env t _ _ hfw hew HRT.out HSM.out).mono ?_;rintro e w' ⟨rfl,hb'⟩;rw[<-HB.out];exact hK.out _ _ rfl hb'
 refine R7.Chain.det ?_ (by rfl) (fun T xs wr hA=>?_) ?_
 rotate_left 1
 ·have e37:=hA.tm 17 37 (by rfl) (by rfl);have f37:xs 17=_:=hA.fa 17 (by rfl)
  (try simp (disch:=first | rfl | decide) only [R7.mask_in] at f37)
  rw[f37] at e37;clear f37;have e8:=hA.pre 8 (by kernel_rfl);simp only[gsa,gsc,gsz] at e8;have hBq:wr.heap[kx]?=_:=(hA.bl _ hlt_x (fun q h=>absurd h (Nat.not_lt_zero _))).trans HBx.out;have q0:=cell_at (v:=.int .i64 ty) hBq 0 rfl;have q1:=cell_at (v:=.bool b) hBq 1 rfl;have q2:=cell_at (v:=.slice ao l c) hBq 2 rfl;have q3:=cell_at (v:=.string tn) hBq 3 rfl;have q4:=cell_at (v:=.slice po pl pc) hBq 4 rfl;clear hBq;clear hA;refine⟨((Rely.wanted_at rfl (by rfl) e37).trans (by rfl)),?_⟩;go_simp<;>(try with_reducible rfl)
 refine R7.Chain.det ?_ (by rfl) (fun T xs wr hA=>?_) ?_
 rotate_left 1
 ·have e37:=hA.tm 17 37 (by rfl) (by rfl);have f37:xs 17=_:=hA.fa 17 (by rfl)
  (try simp (disch:=first | rfl | decide) only [R7.mask_in] at f37)
  rw[f37] at e37;clear f37;have e9:=hA.pre 9 (by kernel_rfl);simp only[gsa,gsc,gsz] at e9;clear hA;refine⟨((Rely.wanted_at rfl (by rfl) e37).trans (by rfl)),?_⟩;go_simp<;>(try with_reducible rfl)
 refine R7.Chain.call (fun xs v w=>∃ k b o l c p m q,v=.agg #[.int .i64 k,.bool b,.slice o l c,.bool B,.slice p m q]) (fun _ _ _ _ h _=>h) (fun _ _ _ _ _ h _ _=>h) (by rfl) (fun T xs wr hA=>?_) ?_
 ·have e37:=hA.tm 17 37 (by rfl) (by rfl);have f37:xs 17=_:=hA.fa 17 (by rfl)
  (try simp (disch:=first | rfl | decide) only [R7.mask_in] at f37)
  rw[f37] at e37;clear f37;have hsw:=(hA.be 0 (Nat.zero_le _) (fun _ _=>Nat.zero_le _)).size;have e41:=hA.tm 21 41 (by rfl) (by rfl);have f41:xs 21=_:=hA.fa 21 (by rfl)
  (try simp (disch:=first | rfl | decide) only [R7.mask_in] at f41)
  rw[f41] at e41;clear f41;have e42:=hA.tm 22 42 (by rfl) (by rfl);have f42:xs 22=_:=hA.fa 22 (by rfl)
  (try simp (disch:=first | rfl | decide) only [R7.mask_in] at f42)
  rw[f42] at e42;clear f42;have hbw:=undrew (hA.be x5.heap.size (Nat.le_refl _) (fun q h=>absurd h (Nat.not_lt_zero q)));have hfw:=HFC.out.below hbw;have hew:=HEL.out.below hbw;clear hA;refine⟨((Rely.wanted_at rfl (by rfl) e37).trans (by rfl)),fun K hK=>?_⟩;go_simp
  refine (value_all 6 _ _ env t _ _ hfw hew HRT.out HSM.out HTM.out HNS.out).mono ?_;rintro e w' ⟨y,rfl,hy,hb'⟩;obtain⟨k1,b1,o1,l1,c1,p1,m1,q1,rfl⟩:=hy.shape;rw[<-HB.out];exact hK.out _ _ ⟨_,_,_,_,_,_,_,_,rfl⟩ hb'
 refine R7.Chain.call (fun xs v w=>v=.bool B) (fun _ _ _ _ h _=>h) (fun _ _ _ _ _ h _ _=>h) (by rfl) (fun T xs wr hA=>?_) ?_
 ·have e37:=hA.tm 17 37 (by rfl) (by rfl);have f37:xs 17=_:=hA.fa 17 (by rfl)
  (try simp (disch:=first | rfl | decide) only [R7.mask_in] at f37)
  rw[f37] at e37;clear f37;have hsw:=(hA.be 0 (Nat.zero_le _) (fun _ _=>Nat.zero_le _)).size;have e43:=hA.tm 23 43 (by rfl) (by rfl);have hF23:∃ k b o l c p m q,(xs 23)=.agg #[.int .i64 k,.bool b,.slice o l c,.bool B,.slice p m q]:=hA.fa 23 (by rfl);obtain⟨k1,b1,o1,l1,c1,p1,m1,q1,e23⟩:=hF23;rw[e23] at e43;clear hA;refine⟨((Rely.wanted_at rfl (by rfl) e37).trans (by rfl)),fun K hK=>?_⟩;go_simp
  exact hK.out _ _ rfl (Below.refl _ _)
 refine R7.Chain.det ?_ (by rfl) (fun T xs wr hA=>?_) ?_
 rotate_left 1
 ·have e37:=hA.tm 17 37 (by rfl) (by rfl);have f37:xs 17=_:=hA.fa 17 (by rfl)
  (try simp (disch:=first | rfl | decide) only [R7.mask_in] at f37)
  rw[f37] at e37;clear f37;have e40:=hA.tm 20 40 (by rfl) (by rfl);have f40:xs 20=(.bool B):=hA.fa 20 (by rfl);rw[f40] at e40;clear f40;have e44:=hA.tm 24 44 (by rfl) (by rfl);have f44:xs 24=(.bool B):=hA.fa 24 (by rfl);rw[f44] at e44;clear f44;clear hA;refine⟨((Rely.wanted_at rfl (by rfl) e37).trans (by rfl)),?_⟩;go_simp<;>(try with_reducible rfl)
 refine R7.Chain.det ?_ (by rfl) (fun T xs wr hA=>?_) ?_
 rotate_left 1
 ·have e37:=hA.tm 17 37 (by rfl) (by rfl);have f37:xs 17=_:=hA.fa 17 (by rfl)
  (try simp (disch:=first | rfl | decide) only [R7.mask_in] at f37)
  rw[f37] at e37;clear f37;have e45:=hA.tm 25 45 (by rfl) (by rfl);have f45:xs 25=_:=hA.fa 25 (by rfl)
  (try simp (disch:=first | rfl | decide) only [R7.mask_in] at f45)
  rw[f45] at e45;clear f45;clear hA;refine⟨(by rfl),?_⟩;go_simp<;>(try with_reducible rfl)
 refine R7.Chain.det ?_ (by rfl) (fun T xs wr hA=>?_) ?_
 rotate_left 1
 ·have e46:=hA.tm 26 46 (by rfl) (by rfl);have f46:xs 26=_:=hA.fa 26 (by rfl)
  (try simp (disch:=first | rfl | decide) only [R7.mask_in] at f46)
  rw[f46] at e46;clear f46;clear hA;refine⟨(by rfl),?_⟩;go_simp<;>(try with_reducible rfl)
 refine R7.Chain.done (fun xs x6 hL=>?_);obtain⟨⟨hbe,hbl⟩,hf,-,-⟩:=hL;have f0:xs 0=_:=hf 0 (by decide)
 (try simp (disch:=first | rfl | decide) only [R7.mask_in] at f0)
 have f1:xs 1=(.bool true):=hf 1 (by decide);have f2:xs 2=_:=hf 2 (by decide)
 (try simp (disch:=first | rfl | decide) only [R7.mask_in] at f2)
 have f3:xs 3=_:=hf 3 (by decide)
 (try simp (disch:=first | rfl | decide) only [R7.mask_in] at f3)
 have f4:xs 4=(.int .i64 2):=hf 4 (by decide);have f5:xs 5=_:=hf 5 (by decide)
 (try simp (disch:=first | rfl | decide) only [R7.mask_in] at f5)
 have f6:xs 6=_:=hf 6 (by decide)
 (try simp (disch:=first | rfl | decide) only [R7.mask_in] at f6)
 have f7:xs 7=_:=hf 7 (by decide)
 (try simp (disch:=first | rfl | decide) only [R7.mask_in] at f7)
 have f8:xs 8=_:=hf 8 (by decide)
 (try simp (disch:=first | rfl | decide) only [R7.mask_in] at f8)
 have f9:xs 9=_:=hf 9 (by decide)
 (try simp (disch:=first | rfl | decide) only [R7.mask_in] at f9)
 have f10:xs 10=_:=hf 10 (by decide)
 (try simp (disch:=first | rfl | decide) only [R7.mask_in] at f10)
 have F11:∃ y,(xs 11)=y/\VC x6 y (ev (rho env) t):=hf 11 (by decide);have f12:xs 12=_:=hf 12 (by decide)
 (try simp (disch:=first | rfl | decide) only [R7.mask_in] at f12)
 have f13:xs 13=_:=hf 13 (by decide)
 (try simp (disch:=first | rfl | decide) only [R7.mask_in] at f13)
 have F14:∃ y,(xs 14)=y/\VC x6 y (ev (rho env) t):=hf 14 (by decide);have f15:xs 15=(.bool true):=hf 15 (by decide);have f16:xs 16=_:=hf 16 (by decide)
 (try simp (disch:=first | rfl | decide) only [R7.mask_in] at f16)
 have f17:xs 17=_:=hf 17 (by decide)
 (try simp (disch:=first | rfl | decide) only [R7.mask_in] at f17)
 have f18:xs 18=_:=hf 18 (by decide)
 (try simp (disch:=first | rfl | decide) only [R7.mask_in] at f18)
 have f19:xs 19=_:=hf 19 (by decide)
 (try simp (disch:=first | rfl | decide) only [R7.mask_in] at f19)
 have f20:xs 20=(.bool B):=hf 20 (by decide);have f21:xs 21=_:=hf 21 (by decide)
 (try simp (disch:=first | rfl | decide) only [R7.mask_in] at f21)
 have f22:xs 22=_:=hf 22 (by decide)
 (try simp (disch:=first | rfl | decide) only [R7.mask_in] at f22)
 have F23:∃ k b o l c p m q,(xs 23)=.agg #[.int .i64 k,.bool b,.slice o l c,.bool B,.slice p m q]:=hf 23 (by decide);have f24:xs 24=(.bool B):=hf 24 (by decide);have f25:xs 25=_:=hf 25 (by decide)
 (try simp (disch:=first | rfl | decide) only [R7.mask_in] at f25)
 have f26:xs 26=_:=hf 26 (by decide)
 (try simp (disch:=first | rfl | decide) only [R7.mask_in] at f26)
 have f27:xs 27=_:=hf 27 (by decide)
 (try simp (disch:=first | rfl | decide) only [R7.mask_in] at f27)
 have hb0:Below 0 x5 x6:=undrew (hbe 0 (Nat.zero_le _) (fun _ _=>Nat.zero_le _));have hgr:∀ j,j<x5.heap.size->(∀ q,q<0->(fun q=>0) q≠j)->x6.heap[j]?=x5.heap[j]?:=hbl;clear hbe hbl hf;have hb:Below x5.heap.size x5 x6:=⟨hb0.os,hb0.tape,hb0.output,hb0.size,fun q hq=>hgr q hq (fun q h=>absurd h (Nat.not_lt_zero _))⟩
 refine R7.rest_done ?_;simp only[R7.fill,t5_,t6_,t7_,f0,f1,f2,f3,f4,f5,f6,f7,f8,f9,f10,f12,f13,f15,f16,f17,f18,f19,f20,f21,f22,f24,f25,f26,f27];clear hb0 hgr hog hlt_x f0 f1 f2 f3 f4 f5 f6 f7 f8 f9 f10 f12 f13 f15 f16 f17 f18 f19 f20 f21 f22 f24 f25 f26 f27;replace HBf:=kBV hb HBf;replace HBx:=kBV hb HBx;replace HW:=Lib.hid (HW.out.trans (hb.mono HW.out.size));replace HFC:=Lib.hid (HFC.out.below hb);replace HEL:=Lib.hid (HEL.out.below hb);replace hb:=Lib.hid hb;go_wp2_with fail
 go_ret
 exact⟨rfl,HW.out⟩
theorem evals_walk (x:RU) (ko:Option Addr) (kl kc:Nat) (p:Int) (w:World) (hx:∀ d,RawF w d x) (hv:RVals w ko kl kc) (hp1 : -9223372036854775808<=p) (hp2:p<=9223372036854775807) :
  Calls Try.prog 3 #[rV x,.slice ko kl kc,.int .i64 p] w fun e w'=>e=.returned (.bool true)/\Below w.heap.size w w':=by
 obtain⟨K,hK,-⟩:=and_255 p;rcases (tmod_cases K).1 with h | h | h
 ·exact evals_0 x ko kl kc p K w hx hv hK h
 ·exact evals_1 x ko kl kc p K w hx hv hK h
 exact evals_2 x ko kl kc p K w hx hv hK h
end Go.Proofs.Ytdkfnbbebpbhaaa
