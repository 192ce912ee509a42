/-
 Joined texts: LgZa,LgZb,LgZc.
-/
import Derived.Test.YtdkfnbbebpbhaaaGreatDoorJLogicTexts6
set_option maxHeartbeats 32000000
namespace Go.Proofs.YtdkfnbbebpbhaaaGreatDoor
open Go.RowKit
set_option maxRecDepth 100000
set_option linter.unusedVariables false
set_option linter.unusedSimpArgs false
def opAttame_0z (j:Nat):Int:=[(1:Int),(0:Int)].getD j 0
theorem tame_0z (xo:Int) (xb:Bool) (xao:Option Addr) (xl xc:Nat) (xnm:ByteArray) (xko:Option Addr) (xkl xkc:Nat) (w:World) (hx:RawF w (0+1) ⟨xo,xb,xao,xl,xc,xnm,xko,xkl,xkc⟩) :
  Calls Tryz.prog 10 #[.agg #[.int .i64 xo,.bool xb,.slice xao xl xc,.string xnm,.slice xko xkl xkc],.int .i64 0,.int .i64 1] w (TamePost (0+1) 0 w):=by
 have HX:=Lib.hid hx;obtain⟨-,hn,-,⟨hk1,hk2⟩,-⟩:=hx;simp only at hn hk1 hk2;have hxm:xkc<=9223372036854775807:=hk2;obtain⟨m,hm⟩:∃ m,m=min xl 2:=⟨_,rfl⟩
 have hmin:min (xl:Int) 2=(m:Int):=by omega
 have hm2:m<=2:=by omega
 have hml:m<=xl:=by omega
 have hx2:∃ q,GN w (.slice xao m xc) q 2/\xl<=xc/\xc<=9223372036854775807:=by
  obtain⟨xs,hs,hdg⟩:=hn;have hl:=sl_len hs;obtain⟨_,_,e,h1,h2,_⟩:=id hs;injection e with e1 e2 e3;subst e3;exact⟨_,⟨xs.take m,hs.take m (by omega),hdg.take m,rfl,by rw[List.length_take];omega⟩,by omega,h2⟩
 obtain⟨q,hq,hlc,hc⟩:=hx2;have hmc:m<=xc:=by omega
 have HG:=Lib.hid hq;clear hq hn hm hk2;obtain⟨K,hK,hK2⟩:=and_255 xo;obtain⟨j,hj⟩:∃ j,j=K % 2:=⟨_,rfl⟩
 have hjm:((K:Nat):Int).tmod 2=((j:Nat):Int):=by rw[hj];exact (Int.ofNat_tmod K 2).symm
 have hjN:j<2:=by rw[hj];exact Nat.mod_lt _ (by decide)
 clear hj hK2;have HW:=Lib.hid (Below.refl w.heap.size w);go_enter Tryz.func10,Tryz.ntmps10
 obtain⟨x1,kf,ef,ekf,hbf,hkf,HBf⟩:=newV w #[.int .i64 xo,.bool xb,.slice xao xl xc,.string xnm,.slice xko xkl xkc] 29;replace HW:=Lib.hid (HW.out.trans (hbf.out.mono HW.out.size));replace HG:=Lib.hid (HG.out.below hbf.out);obtain⟨x2,kd,ed,ekd,hbd,hkd,HBd⟩:=newV x1 #[.int .i64 1] 3;replace HBf:=kBV hbd.out HBf;replace HW:=Lib.hid (HW.out.trans (hbd.out.mono HW.out.size));replace HG:=Lib.hid (HG.out.below hbd.out);obtain⟨x3,kr,er,ekr,hbr,hkr,HBr⟩:=newV x2 #[.int .i64 0,.bool false,.slice none 0 0,.string ⟨#[]⟩,.slice none 0 0] 29;replace HBf:=kBV hbr.out HBf;replace HBd:=kBV hbr.out HBd;replace HW:=Lib.hid (HW.out.trans (hbr.out.mono HW.out.size));replace HG:=Lib.hid (HG.out.below hbr.out);have HKR:Hid (w.heap.size<=kr):=Lib.hid (by have h1:=hbf.out.size;have h2:=hbd.out.size;have h3:=hkr.out;omega)
 obtain⟨x4,kp,ep,ekp,hbp,hkp,HBp⟩:=newV x3 #[.int .i64 1,.int .i64 0,.int .i64 2,.int .i64 3,.int .i64 4,.int .i64 5,.int .i64 6,.int .i64 7] 22;replace HBf:=kBV hbp.out HBf;replace HBd:=kBV hbp.out HBd;replace HBr:=kBV hbp.out HBr;replace HW:=Lib.hid (HW.out.trans (hbp.out.mono HW.out.size));replace HG:=Lib.hid (HG.out.below hbp.out);obtain⟨x5,kq,eq,ekq,hbq,hkq,HBq⟩:=newV x4 #[.int .i64 14,.int .i64 12,.int .i64 13,.int .i64 15,.int .i64 16,.int .i64 16,.int .i64 17,.int .i64 18,.int .i64 19,.int .i64 20] 22;replace HBf:=kBV hbq.out HBf;replace HBd:=kBV hbq.out HBd;replace HBr:=kBV hbq.out HBr;replace HBp:=kBV hbq.out HBp;replace HW:=Lib.hid (HW.out.trans (hbq.out.mono HW.out.size));replace HG:=Lib.hid (HG.out.below hbq.out)
 obtain⟨x6,kt,et,ekt,hbt,hkt,HBt⟩:=newV x5 #[.int .i64 8,.int .i64 9,.int .i64 10,.int .i64 11] 22;replace HBf:=kBV hbt.out HBf;replace HBd:=kBV hbt.out HBd;replace HBr:=kBV hbt.out HBr;replace HBp:=kBV hbt.out HBp;replace HBq:=kBV hbt.out HBq;replace HW:=Lib.hid (HW.out.trans (hbt.out.mono HW.out.size));replace HG:=Lib.hid (HG.out.below hbt.out);have hidx:=idx3_0 (some ⟨kp,0,none⟩) (some ⟨kq,0,none⟩) (some ⟨kt,0,none⟩) 8 10 4 8 10 4;have f0:=cell_at (v:=.int .i64 xo) HBf.out 0 rfl;have ff0:=froz_at HBf.out 0;have f1:=cell_at (v:=.bool xb) HBf.out 1 rfl;have ff1:=froz_at HBf.out 1;have f2:=cell_at (v:=.slice xao xl xc) HBf.out 2 rfl;have ff2:=froz_at HBf.out 2;have f3:=cell_at (v:=.string xnm) HBf.out 3 rfl;have ff3:=froz_at HBf.out 3;have f4:=cell_at (v:=.slice xko xkl xkc) HBf.out 4 rfl;have ff4:=froz_at HBf.out 4
 have d0:=cell_at (v:=.int .i64 1) HBd.out 0 rfl;have fd0:=froz_at HBd.out 0
 have hop:x6.cell? ⟨kp,j,none⟩=some (.int .i64 (opAttame_0z j)):=by
  have:j=0\/j=1:=by omega
  rcases this with rfl | rfl<;>exact cell_at HBp.out _ rfl
 obtain⟨op,hopd⟩:∃ op,op=opAttame_0z j:=⟨_,rfl⟩
 rw[<-hopd] at hop;have HOP:=Lib.hid hopd;clear hopd;go_upto_region 7 with fail
 clear f0 ff0 f1 ff1 f2 ff2 f3 ff3 f4 ff4 d0 fd0 hop;clear hidx hjm hK;have HWp:=HW;have HBfp:=HBf;have HBdp:=HBd;have HBrp:=HBr;obtain⟨x7,ko,eo,eko,hbo,hko,HBo⟩:=newV x6 #[.int .i64 op,.bool false,.slice none 0 0,.string ⟨#[]⟩,.slice none 0 0] 29;replace HBf:=kBV hbo.out HBf;replace HBd:=kBV hbo.out HBd;replace HBr:=kBV hbo.out HBr;replace HBp:=kBV hbo.out HBp;replace HBq:=kBV hbo.out HBq;replace HBt:=kBV hbo.out HBt;replace HW:=Lib.hid (HW.out.trans (hbo.out.mono HW.out.size));replace HG:=Lib.hid (HG.out.below hbo.out);rw[eo,eko];have HKO:Hid (w.heap.size<=ko):=Lib.hid (by have:=HWp.out.size;have:=hko.out;omega);go_upto_region 8 with fail
 have HY:=Lib.hid (Below.refl x7.heap.size x7);have HBf0:=HBf;have HBd0:=HBd;have HBr0:=HBr;have HBo0:=HBo;have hlt_f:=lt_of_block HBf.out;have hog:Hid (∀ q,q<0->(fun q=>0) q<x7.heap.size):=Lib.hid (fun q h=>absurd h (Nat.not_lt_zero _));refine R7.region (by kernel_rfl) [[],[0],[0,1],[],[3],[3,4],[],[6],[6,7],[6,7,8],[6,7,8,9],[3,4,5,6,7,8,9,10],[0,1,2,3,4,5,6,7,8,9,10,11],[],[0,1,2,3,4,5,6,7,8,9,10,11,12,13]] [] [] (fun q=>0) 0 14 (by kernel_rfl) (by kernel_rfl) (by rfl) hog.out (fun q q' h h' hn=>absurd hn (by omega)) ?_;refine R7.Chain.det ?_ (by rfl) (fun T xs wr hA=>?_) ?_
 rotate_left 1
 ·have e3:=hA.pre 3 (by kernel_rfl);simp only[gsa,gsc,gsz] at e3;clear hA;refine⟨(by rfl),?_⟩;go_simp<;>(try with_reducible rfl)
 refine R7.Chain.det ?_ (by rfl) (fun T xs wr hA=>?_) ?_
 rotate_left 1
 ·have e36:=hA.tm 0 36 (by rfl) (by rfl);have f36:xs 0=_:=hA.fa 0 (by rfl)
  (try simp (disch:=first | rfl | decide) only [R7.mask_in] at f36)
  rw[f36] at e36;clear f36;clear hA;refine⟨(by rfl),?_⟩;go_simp<;>(try with_reducible rfl)
 refine R7.Chain.det ?_ (by rfl) (fun T xs wr hA=>?_) ?_
 rotate_left 1
 ·have e37:=hA.tm 1 37 (by rfl) (by rfl);have f37:xs 1=_:=hA.fa 1 (by rfl)
  (try simp (disch:=first | rfl | decide) only [R7.mask_in] at f37)
  rw[f37] at e37;clear f37;have hBq:wr.heap[kf]?=_:=(hA.bl _ hlt_f (fun q h=>absurd h (Nat.not_lt_zero _))).trans HBf.out;have q0:=cell_at (v:=.int .i64 xo) hBq 0 rfl;have q1:=cell_at (v:=.bool xb) hBq 1 rfl;have q2:=cell_at (v:=.slice xao xl xc) hBq 2 rfl;have q3:=cell_at (v:=.string xnm) hBq 3 rfl;have q4:=cell_at (v:=.slice xko xkl xkc) hBq 4 rfl;clear hBq;clear hA;refine⟨(by rfl),?_⟩;go_simp<;>(try with_reducible rfl)
 refine R7.Chain.det ?_ (by rfl) (fun T xs wr hA=>?_) ?_
 rotate_left 1
 ·have e3:=hA.pre 3 (by kernel_rfl);simp only[gsa,gsc,gsz] at e3;clear hA;refine⟨(by rfl),?_⟩;go_simp<;>(try with_reducible rfl)
 refine R7.Chain.det ?_ (by rfl) (fun T xs wr hA=>?_) ?_
 rotate_left 1
 ·have e39:=hA.tm 3 39 (by rfl) (by rfl);have f39:xs 3=_:=hA.fa 3 (by rfl)
  (try simp (disch:=first | rfl | decide) only [R7.mask_in] at f39)
  rw[f39] at e39;clear f39;clear hA;refine⟨(by rfl),?_⟩;go_simp<;>(try with_reducible rfl)
 refine R7.Chain.det ?_ (by rfl) (fun T xs wr hA=>?_) ?_
 rotate_left 1
 ·have e40:=hA.tm 4 40 (by rfl) (by rfl);have f40:xs 4=_:=hA.fa 4 (by rfl)
  (try simp (disch:=first | rfl | decide) only [R7.mask_in] at f40)
  rw[f40] at e40;clear f40;have hBq:wr.heap[kf]?=_:=(hA.bl _ hlt_f (fun q h=>absurd h (Nat.not_lt_zero _))).trans HBf.out;have q0:=cell_at (v:=.int .i64 xo) hBq 0 rfl;have q1:=cell_at (v:=.bool xb) hBq 1 rfl;have q2:=cell_at (v:=.slice xao xl xc) hBq 2 rfl;have q3:=cell_at (v:=.string xnm) hBq 3 rfl;have q4:=cell_at (v:=.slice xko xkl xkc) hBq 4 rfl;clear hBq;clear hA;refine⟨(by rfl),?_⟩;go_simp<;>(try with_reducible rfl)
 refine R7.Chain.det ?_ (by rfl) (fun T xs wr hA=>?_) ?_
 rotate_left 1
 ·have e3:=hA.pre 3 (by kernel_rfl);simp only[gsa,gsc,gsz] at e3;clear hA;refine⟨(by rfl),?_⟩;go_simp<;>(try with_reducible rfl)
 refine R7.Chain.det ?_ (by rfl) (fun T xs wr hA=>?_) ?_
 rotate_left 1
 ·have e42:=hA.tm 6 42 (by rfl) (by rfl);have f42:xs 6=_:=hA.fa 6 (by rfl)
  (try simp (disch:=first | rfl | decide) only [R7.mask_in] at f42)
  rw[f42] at e42;clear f42;clear hA;refine⟨(by rfl),?_⟩;go_simp<;>(try with_reducible rfl)
 refine R7.Chain.det ?_ (by rfl) (fun T xs wr hA=>?_) ?_
 rotate_left 1
 ·have e43:=hA.tm 7 43 (by rfl) (by rfl);have f43:xs 7=_:=hA.fa 7 (by rfl)
  (try simp (disch:=first | rfl | decide) only [R7.mask_in] at f43)
  rw[f43] at e43;clear f43;have hBq:wr.heap[kf]?=_:=(hA.bl _ hlt_f (fun q h=>absurd h (Nat.not_lt_zero _))).trans HBf.out;have q0:=cell_at (v:=.int .i64 xo) hBq 0 rfl;have q1:=cell_at (v:=.bool xb) hBq 1 rfl;have q2:=cell_at (v:=.slice xao xl xc) hBq 2 rfl;have q3:=cell_at (v:=.string xnm) hBq 3 rfl;have q4:=cell_at (v:=.slice xko xkl xkc) hBq 4 rfl;clear hBq;clear hA;refine⟨(by rfl),?_⟩;go_simp<;>(try with_reducible rfl)
 refine R7.Chain.det ?_ (by rfl) (fun T xs wr hA=>?_) ?_
 rotate_left 1
 ·have e44:=hA.tm 8 44 (by rfl) (by rfl);have f44:xs 8=_:=hA.fa 8 (by rfl)
  (try simp (disch:=first | rfl | decide) only [R7.mask_in] at f44)
  rw[f44] at e44;clear f44;clear hA;refine⟨(by rfl),?_⟩;go_simp<;>(try with_reducible rfl)
 refine R7.Chain.det ?_ (by rfl) (fun T xs wr hA=>?_) ?_
 rotate_left 1
 ·have e45:=hA.tm 9 45 (by rfl) (by rfl);have f45:xs 9=_:=hA.fa 9 (by rfl)
  (try simp (disch:=first | rfl | decide) only [R7.mask_in] at f45)
  rw[f45] at e45;clear f45;clear hA;refine⟨(by rfl),?_⟩;go_simp<;>(try with_reducible rfl)
 refine R7.Chain.det ?_ (by rfl) (fun T xs wr hA=>?_) ?_
 rotate_left 1
 ·have e41:=hA.tm 5 41 (by rfl) (by rfl);have f41:xs 5=_:=hA.fa 5 (by rfl)
  (try simp (disch:=first | rfl | decide) only [R7.mask_in] at f41)
  rw[f41] at e41;clear f41;have e46:=hA.tm 10 46 (by rfl) (by rfl);have f46:xs 10=_:=hA.fa 10 (by rfl)
  (try simp (disch:=first | rfl | decide) only [R7.mask_in] at f46)
  rw[f46] at e46;clear f46;clear hA;refine⟨(by rfl),?_⟩;go_simp<;>(try with_reducible rfl)
 refine R7.Chain.call (fun xs v w=>∃ z,CI w v z 2) (fun _ _ _ _ h hb=>by obtain⟨z,h2⟩:=h;exact⟨z,h2.below hb⟩) (fun _ _ _ _ _ _ h _=>by obtain⟨q,hq,_⟩:=h;exact absurd hq (Nat.not_lt_zero _)) (by rfl) (fun T xs wr hA=>?_) ?_
 ·have hsw:=(hA.be 0 (Nat.zero_le _) (fun _ _=>Nat.zero_le _)).size;have e38:=hA.tm 2 38 (by rfl) (by rfl);have f38:xs 2=_:=hA.fa 2 (by rfl)
  (try simp (disch:=first | rfl | decide) only [R7.mask_in] at f38)
  rw[f38] at e38;clear f38;have e47:=hA.tm 11 47 (by rfl) (by rfl);have f47:xs 11=_:=hA.fa 11 (by rfl)
  (try simp (disch:=first | rfl | decide) only [R7.mask_in] at f47)
  rw[f47] at e47;clear f47;have hbw:=undrew (hA.be x7.heap.size (Nat.le_refl _) (fun q h=>absurd h (Nat.not_lt_zero q)));clear hA;refine⟨(by rfl),fun K hK=>?_⟩;go_simp
  refine (big_any xb _ q 2 wr (HG.out.below hbw) (by decide)).mono ?_;rintro e w' ⟨v,rfl,hc,hb'⟩;exact hK.out _ _ ⟨_,hc⟩ hb'
 refine R7.Chain.call (fun xs v w=>∃ g,v=.pointer (some ⟨g,0,none⟩)/\x7.heap.size<=g/\w.heap[g]?=some (.cells #[.bool false,.slice none 0 0] 26 (0,0))) (fun _ _ _ _ h hb=>by obtain⟨g,h1,h2,h3⟩:=h;exact⟨g,h1,h2,by rw[hb.block g (lt_of_block h3)];exact h3⟩) (fun _ _ _ _ _ _ h _=>by obtain⟨q,hq,_⟩:=h;exact absurd hq (Nat.not_lt_zero _)) (by rfl) (fun T xs wr hA=>?_) ?_
 ·have hsw:=(hA.be 0 (Nat.zero_le _) (fun _ _=>Nat.zero_le _)).size;have hbw:=undrew (hA.be x7.heap.size (Nat.le_refl _) (fun q h=>absurd h (Nat.not_lt_zero q)));clear hA;refine⟨(by rfl),fun K hK=>?_⟩;go_simp
  exact hK.out _ _ ⟨_,rfl,hbw.size,made_at _ _ _ rfl⟩ ((Below.refl _ _).alloc (Nat.le_refl _) _)
 refine R7.Chain.done (fun xs x8 hL=>?_);obtain⟨⟨hbe,hbl⟩,hf,-,-⟩:=hL;have f0:xs 0=_:=hf 0 (by decide)
 (try simp (disch:=first | rfl | decide) only [R7.mask_in] at f0)
 have f1:xs 1=_:=hf 1 (by decide)
 (try simp (disch:=first | rfl | decide) only [R7.mask_in] at f1)
 have f2:xs 2=_:=hf 2 (by decide)
 (try simp (disch:=first | rfl | decide) only [R7.mask_in] at f2)
 have f3:xs 3=_:=hf 3 (by decide)
 (try simp (disch:=first | rfl | decide) only [R7.mask_in] at f3)
 have f4:xs 4=_:=hf 4 (by decide)
 (try simp (disch:=first | rfl | decide) only [R7.mask_in] at f4)
 have f5:xs 5=_:=hf 5 (by decide)
 (try simp (disch:=first | rfl | decide) only [R7.mask_in] at f5)
 have f6:xs 6=_:=hf 6 (by decide)
 (try simp (disch:=first | rfl | decide) only [R7.mask_in] at f6)
 have f7:xs 7=_:=hf 7 (by decide)
 (try simp (disch:=first | rfl | decide) only [R7.mask_in] at f7)
 have f8:xs 8=_:=hf 8 (by decide)
 (try simp (disch:=first | rfl | decide) only [R7.mask_in] at f8)
 have f9:xs 9=_:=hf 9 (by decide)
 (try simp (disch:=first | rfl | decide) only [R7.mask_in] at f9)
 have f10:xs 10=_:=hf 10 (by decide)
 (try simp (disch:=first | rfl | decide) only [R7.mask_in] at f10)
 have f11:xs 11=_:=hf 11 (by decide)
 (try simp (disch:=first | rfl | decide) only [R7.mask_in] at f11)
 have F12:∃ z,CI x8 (xs 12) z 2:=hf 12 (by decide);have F13:∃ g,(xs 13)=.pointer (some ⟨g,0,none⟩)/\x7.heap.size<=g/\x8.heap[g]?=some (.cells #[.bool false,.slice none 0 0] 26 (0,0)):=hf 13 (by decide);have hb0:Below 0 x7 x8:=undrew (hbe 0 (Nat.zero_le _) (fun _ _=>Nat.zero_le _));have hgr:∀ j,j<x7.heap.size->(∀ q,q<0->(fun q=>0) q≠j)->x8.heap[j]?=x7.heap[j]?:=hbl;clear hbe hbl hf;have hb:Below x7.heap.size x7 x8:=⟨hb0.os,hb0.tape,hb0.output,hb0.size,fun q hq=>hgr q hq (fun q h=>absurd h (Nat.not_lt_zero _))⟩
 refine R7.rest_list (by decide) (by kernel_rfl) ?_;simp only[R7.fill,t1_,t2_,t3_,t4_,t5_,t6_,t7_,f0,f1,f2,f3,f4,f5,f6,f7,f8,f9,f10,f11];clear hb0 hgr hog hlt_f f0 f1 f2 f3 f4 f5 f6 f7 f8 f9 f10 f11;replace HBf:=kBV hb HBf;replace HBd:=kBV hb HBd;replace HBr:=kBV hb HBr;replace HBp:=kBV hb HBp;replace HBq:=kBV hb HBq;replace HBt:=kBV hb HBt;replace HBo:=kBV hb HBo;replace HW:=Lib.hid (HW.out.trans (hb.mono HW.out.size));replace HG:=Lib.hid (HG.out.below hb);replace HY:=Lib.hid (HY.out.trans (hb.mono HY.out.size));replace hb:=Lib.hid hb;obtain⟨z,hcz⟩:=F12;obtain⟨zb,zo,zl,zc,hzv⟩:=hcz.shape;obtain⟨km,hkm,hkm1,hkm2⟩:=F13;rw[hzv] at hcz;rw[hzv,hkm];have HC:=Lib.hid (hcz.mono (k':=600) (by decide));have HCZ:=Lib.hid hcz.lt;have HBm:=Lib.hid hkm2;clear hcz hzv hkm hkm2;have m0:=cell_at (v:=.bool false) HBm.out 0 rfl
 have fm0:=froz_at HBm.out 0;have m1:=cell_at (v:=.slice none 0 0) HBm.out 1 rfl;have fm1:=froz_at HBm.out 1;go_upto_region 9 with fail
 clear m0 fm0 m1 fm1;have hg1:=grown2V (w:=x8) (k:=km) (.bool zb) (.slice zo zl zc);have hb1:((x8.setCell ⟨km,0,none⟩ (.bool zb)).setCell ⟨km,1,none⟩ (.slice zo zl zc)).heap[km]?=_:=heap_setCell_same _ km 1 _ _ _ (heap_setCell_same _ km 0 _ _ _ HBm.out);obtain⟨W1,hW1⟩:∃ q,q=(x8.setCell ⟨km,0,none⟩ (.bool zb)).setCell ⟨km,1,none⟩ (.slice zo zl zc):=⟨_,rfl⟩
 rw[<-hW1] at hg1 hb1 ⊢;have hf1:Fr 26 x8 W1:=.of_grown hg1 (fun j hj=>by injection hj with hj;subst hj;exact⟨_,HBm.out,n32_2⟩);have HKM:Hid (w.heap.size<=km):=Lib.hid (Nat.le_trans (by have:=HKO.out;have:=lt_of_block HBo0.out;omega) hkm1);replace HW:=Lib.hid (ext_below HW.out hg1 HKM.out);replace HY:=Lib.hid (ext_below HY.out hg1 hkm1);replace HC:=Lib.hid (HC.out.fr hf1);replace HBf:=Lib.hid ((HY.out.block _ (lt_of_block HBf0.out)).trans HBf0.out);replace HBd:=Lib.hid ((HY.out.block _ (lt_of_block HBd0.out)).trans HBd0.out);replace HBr:=Lib.hid ((HY.out.block _ (lt_of_block HBr0.out)).trans HBr0.out);replace HBo:=Lib.hid ((HY.out.block _ (lt_of_block HBo0.out)).trans HBo0.out);replace HBm:=Lib.hid hb1;clear hg1 hb1 hW1 hf1 hkm1
 have HLOW:Hid (kf<W1.heap.size/\kd<W1.heap.size/\kr<W1.heap.size/\ko<W1.heap.size):=Lib.hid ⟨lt_of_block HBf.out,lt_of_block HBd.out,lt_of_block HBr.out,lt_of_block HBo.out⟩;have HDIS:Hid (kf≠ko/\kd≠ko/\kr≠ko):=Lib.hid (by have h1:=lt_of_block HBfp.out;have h2:=lt_of_block HBdp.out;have h3:=lt_of_block HBrp.out;rw[eko] at h1 h2 h3;omega);have HB0:Hid (w.heap.size<=W1.heap.size):=Lib.hid HW.out.size;have hjc:j=0\/j=1:=by omega
 rcases hjc with rfl | rfl
 ·have hop2:op=1:=HOP.out;subst hop2;clear HOP;have HSZP:Hid (W1.heap.size<=W1.heap.size):=Lib.hid (Nat.le_refl _);rcases (tmod_cases xnm.size).1 with hr | hr | hr
  ·have o0:=cell_at (v:=.int .i64 1) HBo.out 0 rfl;have fo0:=froz_at HBo.out 0;have o1:=cell_at (v:=.bool false) HBo.out 1 rfl;have fo1:=froz_at HBo.out 1;have o2:=cell_at (v:=.slice none 0 0) HBo.out 2 rfl;have fo2:=froz_at HBo.out 2;have o3:=cell_at (v:=.string ⟨#[]⟩) HBo.out 3 rfl;have fo3:=froz_at HBo.out 3;have o4:=cell_at (v:=.slice none 0 0) HBo.out 4 rfl;have fo4:=froz_at HBo.out 4;have m0:=cell_at (v:=.bool zb) HBm.out 0 rfl;have fm0:=froz_at HBm.out 0;have m1:=cell_at (v:=.slice zo zl zc) HBm.out 1 rfl;have fm1:=froz_at HBm.out 1;have f0:=cell_at (v:=.int .i64 xo) HBf.out 0 rfl;have ff0:=froz_at HBf.out 0;have f1:=cell_at (v:=.bool xb) HBf.out 1 rfl;have ff1:=froz_at HBf.out 1;have f2:=cell_at (v:=.slice xao xl xc) HBf.out 2 rfl;have ff2:=froz_at HBf.out 2;have f3:=cell_at (v:=.string xnm) HBf.out 3 rfl
   have ff3:=froz_at HBf.out 3;have f4:=cell_at (v:=.slice xko xkl xkc) HBf.out 4 rfl;have ff4:=froz_at HBf.out 4;have hcv:=one_byteL 48 48 (by decide) W1;obtain⟨x9,ky,ey,eky,hby,hky,HBy⟩:=newV W1 #[.int .u8 48] 5;replace HBf:=kBV hby.out HBf;replace HBd:=kBV hby.out HBd;replace HBr:=kBV hby.out HBr;replace HBo:=kBV hby.out HBo;replace HBm:=kBV hby.out HBm;replace HW:=Lib.hid (HW.out.trans (hby.out.mono HW.out.size));replace HC:=Lib.hid (HC.out.below hby.out);rw[ey,eky] at hcv;have p0:=cell_at (v:=.int .i64 1) HBo.out 0 rfl;have fp0:=froz_at HBo.out 0;have p1:=cell_at (v:=.bool false) HBo.out 1 rfl;have fp1:=froz_at HBo.out 1;have p2:=cell_at (v:=.slice none 0 0) HBo.out 2 rfl;have fp2:=froz_at HBo.out 2;have p3:=cell_at (v:=.string ⟨#[]⟩) HBo.out 3 rfl;have fp3:=froz_at HBo.out 3
   have p4:=cell_at (v:=.slice none 0 0) HBo.out 4 rfl;have fp4:=froz_at HBo.out 4;replace HSZP:=Lib.hid (Nat.le_trans HSZP.out hby.out.size);go_upto_region 21 with fail
   clear o0 fo0 o1 fo1 o2 fo2 o3 fo3 o4 fo4 m0 fm0 m1 fm1 f0 ff0 f1 ff1 f2 ff2 f3 ff3 f4 ff4 p0 fp0 p1 fp1 p2 fp2 p3 fp3 p4 fp4
   try clear hcv
   try clear hr
   rw[show ((⟨#[105]⟩:ByteArray)++⟨#[48]⟩)=⟨#[105,48]⟩ from rfl];have hgo:x9.grownBy (x9.setCell ⟨ko,3,none⟩ (.string ⟨#[105,48]⟩)) (some ko):=by refine grown_setCell ?_ _;exact World.grownBy.refl _ _
   have hbo:(x9.setCell ⟨ko,3,none⟩ (.string ⟨#[105,48]⟩)).heap[ko]?=_:=(heap_setCell_same _ ko 3 _ _ (.string ⟨#[105,48]⟩) HBo.out)
   obtain⟨W2,hW2⟩:∃ q,q=x9.setCell ⟨ko,3,none⟩ (.string ⟨#[105,48]⟩):=⟨_,rfl⟩
   rw[<-hW2] at hgo hbo ⊢;have hfo:Fr 29 x9 W2:=.of_grown hgo (fun j hj=>by injection hj with hj;subst hj;exact⟨_,HBo.out,n32_F⟩);replace HW:=Lib.hid (ext_below HW.out hgo HKO.out);replace HC:=Lib.hid (HC.out.fr hfo);replace HBf:=Lib.hid ((hgo.block _ (lt_of_block HBf.out) (fun e=>by injection e with e;exact HDIS.out.1 e)).trans HBf.out);replace HBd:=Lib.hid ((hgo.block _ (lt_of_block HBd.out) (fun e=>by injection e with e;exact HDIS.out.2.1 e)).trans HBd.out);replace HBr:=Lib.hid ((hgo.block _ (lt_of_block HBr.out) (fun e=>by injection e with e;exact HDIS.out.2.2 e)).trans HBr.out);have HSZW:Hid (W1.heap.size<=W2.heap.size):=Lib.hid (Nat.le_trans HSZP.out hgo.size);replace HBo:=Lib.hid hbo;clear hgo hbo hW2 hfo HSZP;have HSZP:=HSZW;clear HSZW
   have HT:Hid (TSt w W1.heap.size kf kd kr ko ⟨xo,xb,xao,xl,xc,xnm,xko,xkl,xkc⟩ (1) 1 false none 0 0 (⟨#[105,48]⟩) (0) 0 [] (.slice none 0 0) [] W2):=Lib.hid (TSt.zero HBo.out HBf.out HBd.out HBr.out (nr0 _) HLOW.out HDIS.out HKO.out HW.out HSZP.out);have o0:=cell_at (v:=.int .i64 1) HBo.out 0 rfl;have fo0:=froz_at HBo.out 0;have o1:=cell_at (v:=.bool false) HBo.out 1 rfl;have fo1:=froz_at HBo.out 1;have o2:=cell_at (v:=.slice none 0 0) HBo.out 2 rfl;have fo2:=froz_at HBo.out 2;have o3:=cell_at (v:=.string ⟨#[105,48]⟩) HBo.out 3 rfl;have fo3:=froz_at HBo.out 3;have o4:=cell_at (v:=.slice none 0 0) HBo.out 4 rfl;have fo4:=froz_at HBo.out 4;obtain⟨⟨r0,r1,r2,r3,r4⟩,fr0,fr1,fr2,fr3,fr4⟩:=cells5V HBr.out;go_wp2_with fail
   clear o0 fo0 o1 fo1 o2 fo2 o3 fo3 o4 fo4;have hg:=grown5V (w:=W2) (k:=kr) (.int .i64 1) (.bool false) (.slice none 0 0) (.string ⟨#[105,48]⟩) (.slice none 0 0);have hf:Fr 29 W2 _:=.of_grown hg (fun j hj=>by injection hj with hj;subst hj;exact⟨_,HBr.out,n32_F⟩);obtain⟨h1,h2,h3,h4⟩:=HT.out.fin hg hf (by unfold IR;decide) HB0.out HKR.out (by unfold NmOk;simp) (small4 (by decide)) (fun _ _ _=>rfl) (by simp) (rfl)
   (try simp only[Exit.inBlock,Exit.then])
   exact bodyPost_ret (v:=.agg #[.int .i64 1,.bool false,.slice none 0 0,.string ⟨#[105,48]⟩,.slice none 0 0]) (by simp[results,Tryz.results10,go_sem,r0,r1,r2,r3,r4]) rfl ⟨_,_,rfl,h1,h2,rfl,h3,h4⟩
  ·have o0:=cell_at (v:=.int .i64 1) HBo.out 0 rfl;have fo0:=froz_at HBo.out 0;have o1:=cell_at (v:=.bool false) HBo.out 1 rfl;have fo1:=froz_at HBo.out 1;have o2:=cell_at (v:=.slice none 0 0) HBo.out 2 rfl;have fo2:=froz_at HBo.out 2;have o3:=cell_at (v:=.string ⟨#[]⟩) HBo.out 3 rfl;have fo3:=froz_at HBo.out 3;have o4:=cell_at (v:=.slice none 0 0) HBo.out 4 rfl;have fo4:=froz_at HBo.out 4;have m0:=cell_at (v:=.bool zb) HBm.out 0 rfl;have fm0:=froz_at HBm.out 0;have m1:=cell_at (v:=.slice zo zl zc) HBm.out 1 rfl;have fm1:=froz_at HBm.out 1;have f0:=cell_at (v:=.int .i64 xo) HBf.out 0 rfl;have ff0:=froz_at HBf.out 0;have f1:=cell_at (v:=.bool xb) HBf.out 1 rfl;have ff1:=froz_at HBf.out 1;have f2:=cell_at (v:=.slice xao xl xc) HBf.out 2 rfl;have ff2:=froz_at HBf.out 2;have f3:=cell_at (v:=.string xnm) HBf.out 3 rfl
   have ff3:=froz_at HBf.out 3;have f4:=cell_at (v:=.slice xko xkl xkc) HBf.out 4 rfl;have ff4:=froz_at HBf.out 4;have hcv:=one_byteL 49 49 (by decide) W1;obtain⟨x9,ky,ey,eky,hby,hky,HBy⟩:=newV W1 #[.int .u8 49] 5;replace HBf:=kBV hby.out HBf;replace HBd:=kBV hby.out HBd;replace HBr:=kBV hby.out HBr;replace HBo:=kBV hby.out HBo;replace HBm:=kBV hby.out HBm;replace HW:=Lib.hid (HW.out.trans (hby.out.mono HW.out.size));replace HC:=Lib.hid (HC.out.below hby.out);rw[ey,eky] at hcv;have p0:=cell_at (v:=.int .i64 1) HBo.out 0 rfl;have fp0:=froz_at HBo.out 0;have p1:=cell_at (v:=.bool false) HBo.out 1 rfl;have fp1:=froz_at HBo.out 1;have p2:=cell_at (v:=.slice none 0 0) HBo.out 2 rfl;have fp2:=froz_at HBo.out 2;have p3:=cell_at (v:=.string ⟨#[]⟩) HBo.out 3 rfl;have fp3:=froz_at HBo.out 3
   have p4:=cell_at (v:=.slice none 0 0) HBo.out 4 rfl;have fp4:=froz_at HBo.out 4;replace HSZP:=Lib.hid (Nat.le_trans HSZP.out hby.out.size);go_upto_region 21 with fail
   clear o0 fo0 o1 fo1 o2 fo2 o3 fo3 o4 fo4 m0 fm0 m1 fm1 f0 ff0 f1 ff1 f2 ff2 f3 ff3 f4 ff4 p0 fp0 p1 fp1 p2 fp2 p3 fp3 p4 fp4
   try clear hcv
   try clear hr
   rw[show ((⟨#[105]⟩:ByteArray)++⟨#[49]⟩)=⟨#[105,49]⟩ from rfl];have hgo:x9.grownBy (x9.setCell ⟨ko,3,none⟩ (.string ⟨#[105,49]⟩)) (some ko):=by refine grown_setCell ?_ _;exact World.grownBy.refl _ _
   have hbo:(x9.setCell ⟨ko,3,none⟩ (.string ⟨#[105,49]⟩)).heap[ko]?=_:=(heap_setCell_same _ ko 3 _ _ (.string ⟨#[105,49]⟩) HBo.out)
   obtain⟨W2,hW2⟩:∃ q,q=x9.setCell ⟨ko,3,none⟩ (.string ⟨#[105,49]⟩):=⟨_,rfl⟩
   rw[<-hW2] at hgo hbo ⊢;have hfo:Fr 29 x9 W2:=.of_grown hgo (fun j hj=>by injection hj with hj;subst hj;exact⟨_,HBo.out,n32_F⟩);replace HW:=Lib.hid (ext_below HW.out hgo HKO.out);replace HC:=Lib.hid (HC.out.fr hfo);replace HBf:=Lib.hid ((hgo.block _ (lt_of_block HBf.out) (fun e=>by injection e with e;exact HDIS.out.1 e)).trans HBf.out);replace HBd:=Lib.hid ((hgo.block _ (lt_of_block HBd.out) (fun e=>by injection e with e;exact HDIS.out.2.1 e)).trans HBd.out);replace HBr:=Lib.hid ((hgo.block _ (lt_of_block HBr.out) (fun e=>by injection e with e;exact HDIS.out.2.2 e)).trans HBr.out);have HSZW:Hid (W1.heap.size<=W2.heap.size):=Lib.hid (Nat.le_trans HSZP.out hgo.size);replace HBo:=Lib.hid hbo;clear hgo hbo hW2 hfo HSZP;have HSZP:=HSZW;clear HSZW
   have HT:Hid (TSt w W1.heap.size kf kd kr ko ⟨xo,xb,xao,xl,xc,xnm,xko,xkl,xkc⟩ (1) 1 false none 0 0 (⟨#[105,49]⟩) (0) 0 [] (.slice none 0 0) [] W2):=Lib.hid (TSt.zero HBo.out HBf.out HBd.out HBr.out (nr0 _) HLOW.out HDIS.out HKO.out HW.out HSZP.out);have o0:=cell_at (v:=.int .i64 1) HBo.out 0 rfl;have fo0:=froz_at HBo.out 0;have o1:=cell_at (v:=.bool false) HBo.out 1 rfl;have fo1:=froz_at HBo.out 1;have o2:=cell_at (v:=.slice none 0 0) HBo.out 2 rfl;have fo2:=froz_at HBo.out 2;have o3:=cell_at (v:=.string ⟨#[105,49]⟩) HBo.out 3 rfl;have fo3:=froz_at HBo.out 3;have o4:=cell_at (v:=.slice none 0 0) HBo.out 4 rfl;have fo4:=froz_at HBo.out 4;obtain⟨⟨r0,r1,r2,r3,r4⟩,fr0,fr1,fr2,fr3,fr4⟩:=cells5V HBr.out;go_wp2_with fail
   clear o0 fo0 o1 fo1 o2 fo2 o3 fo3 o4 fo4;have hg:=grown5V (w:=W2) (k:=kr) (.int .i64 1) (.bool false) (.slice none 0 0) (.string ⟨#[105,49]⟩) (.slice none 0 0);have hf:Fr 29 W2 _:=.of_grown hg (fun j hj=>by injection hj with hj;subst hj;exact⟨_,HBr.out,n32_F⟩);obtain⟨h1,h2,h3,h4⟩:=HT.out.fin hg hf (by unfold IR;decide) HB0.out HKR.out (by unfold NmOk;simp) (small4 (by decide)) (fun _ _ _=>rfl) (by simp) (rfl)
   (try simp only[Exit.inBlock,Exit.then])
   exact bodyPost_ret (v:=.agg #[.int .i64 1,.bool false,.slice none 0 0,.string ⟨#[105,49]⟩,.slice none 0 0]) (by simp[results,Tryz.results10,go_sem,r0,r1,r2,r3,r4]) rfl ⟨_,_,rfl,h1,h2,rfl,h3,h4⟩
  have o0:=cell_at (v:=.int .i64 1) HBo.out 0 rfl;have fo0:=froz_at HBo.out 0;have o1:=cell_at (v:=.bool false) HBo.out 1 rfl;have fo1:=froz_at HBo.out 1;have o2:=cell_at (v:=.slice none 0 0) HBo.out 2 rfl;have fo2:=froz_at HBo.out 2;have o3:=cell_at (v:=.string ⟨#[]⟩) HBo.out 3 rfl;have fo3:=froz_at HBo.out 3;have o4:=cell_at (v:=.slice none 0 0) HBo.out 4 rfl;have fo4:=froz_at HBo.out 4;have m0:=cell_at (v:=.bool zb) HBm.out 0 rfl;have fm0:=froz_at HBm.out 0;have m1:=cell_at (v:=.slice zo zl zc) HBm.out 1 rfl;have fm1:=froz_at HBm.out 1;have f0:=cell_at (v:=.int .i64 xo) HBf.out 0 rfl;have ff0:=froz_at HBf.out 0;have f1:=cell_at (v:=.bool xb) HBf.out 1 rfl;have ff1:=froz_at HBf.out 1;have f2:=cell_at (v:=.slice xao xl xc) HBf.out 2 rfl;have ff2:=froz_at HBf.out 2;have f3:=cell_at (v:=.string xnm) HBf.out 3 rfl
  have ff3:=froz_at HBf.out 3;have f4:=cell_at (v:=.slice xko xkl xkc) HBf.out 4 rfl;have ff4:=froz_at HBf.out 4;have hcv:=one_byteL 50 50 (by decide) W1;obtain⟨x9,ky,ey,eky,hby,hky,HBy⟩:=newV W1 #[.int .u8 50] 5;replace HBf:=kBV hby.out HBf;replace HBd:=kBV hby.out HBd;replace HBr:=kBV hby.out HBr;replace HBo:=kBV hby.out HBo;replace HBm:=kBV hby.out HBm;replace HW:=Lib.hid (HW.out.trans (hby.out.mono HW.out.size));replace HC:=Lib.hid (HC.out.below hby.out);rw[ey,eky] at hcv;have p0:=cell_at (v:=.int .i64 1) HBo.out 0 rfl;have fp0:=froz_at HBo.out 0;have p1:=cell_at (v:=.bool false) HBo.out 1 rfl;have fp1:=froz_at HBo.out 1;have p2:=cell_at (v:=.slice none 0 0) HBo.out 2 rfl;have fp2:=froz_at HBo.out 2;have p3:=cell_at (v:=.string ⟨#[]⟩) HBo.out 3 rfl;have fp3:=froz_at HBo.out 3
  have p4:=cell_at (v:=.slice none 0 0) HBo.out 4 rfl;have fp4:=froz_at HBo.out 4;replace HSZP:=Lib.hid (Nat.le_trans HSZP.out hby.out.size);go_upto_region 21 with fail
  clear o0 fo0 o1 fo1 o2 fo2 o3 fo3 o4 fo4 m0 fm0 m1 fm1 f0 ff0 f1 ff1 f2 ff2 f3 ff3 f4 ff4 p0 fp0 p1 fp1 p2 fp2 p3 fp3 p4 fp4
  try clear hcv
  try clear hr
  rw[show ((⟨#[105]⟩:ByteArray)++⟨#[50]⟩)=⟨#[105,50]⟩ from rfl];have hgo:x9.grownBy (x9.setCell ⟨ko,3,none⟩ (.string ⟨#[105,50]⟩)) (some ko):=by refine grown_setCell ?_ _;exact World.grownBy.refl _ _
  have hbo:(x9.setCell ⟨ko,3,none⟩ (.string ⟨#[105,50]⟩)).heap[ko]?=_:=(heap_setCell_same _ ko 3 _ _ (.string ⟨#[105,50]⟩) HBo.out)
  obtain⟨W2,hW2⟩:∃ q,q=x9.setCell ⟨ko,3,none⟩ (.string ⟨#[105,50]⟩):=⟨_,rfl⟩
  rw[<-hW2] at hgo hbo ⊢;have hfo:Fr 29 x9 W2:=.of_grown hgo (fun j hj=>by injection hj with hj;subst hj;exact⟨_,HBo.out,n32_F⟩);replace HW:=Lib.hid (ext_below HW.out hgo HKO.out);replace HC:=Lib.hid (HC.out.fr hfo);replace HBf:=Lib.hid ((hgo.block _ (lt_of_block HBf.out) (fun e=>by injection e with e;exact HDIS.out.1 e)).trans HBf.out);replace HBd:=Lib.hid ((hgo.block _ (lt_of_block HBd.out) (fun e=>by injection e with e;exact HDIS.out.2.1 e)).trans HBd.out);replace HBr:=Lib.hid ((hgo.block _ (lt_of_block HBr.out) (fun e=>by injection e with e;exact HDIS.out.2.2 e)).trans HBr.out);have HSZW:Hid (W1.heap.size<=W2.heap.size):=Lib.hid (Nat.le_trans HSZP.out hgo.size);replace HBo:=Lib.hid hbo;clear hgo hbo hW2 hfo HSZP;have HSZP:=HSZW;clear HSZW
  have HT:Hid (TSt w W1.heap.size kf kd kr ko ⟨xo,xb,xao,xl,xc,xnm,xko,xkl,xkc⟩ (1) 1 false none 0 0 (⟨#[105,50]⟩) (0) 0 [] (.slice none 0 0) [] W2):=Lib.hid (TSt.zero HBo.out HBf.out HBd.out HBr.out (nr0 _) HLOW.out HDIS.out HKO.out HW.out HSZP.out);have o0:=cell_at (v:=.int .i64 1) HBo.out 0 rfl;have fo0:=froz_at HBo.out 0;have o1:=cell_at (v:=.bool false) HBo.out 1 rfl;have fo1:=froz_at HBo.out 1;have o2:=cell_at (v:=.slice none 0 0) HBo.out 2 rfl;have fo2:=froz_at HBo.out 2;have o3:=cell_at (v:=.string ⟨#[105,50]⟩) HBo.out 3 rfl;have fo3:=froz_at HBo.out 3;have o4:=cell_at (v:=.slice none 0 0) HBo.out 4 rfl;have fo4:=froz_at HBo.out 4;obtain⟨⟨r0,r1,r2,r3,r4⟩,fr0,fr1,fr2,fr3,fr4⟩:=cells5V HBr.out;go_wp2_with fail
  clear o0 fo0 o1 fo1 o2 fo2 o3 fo3 o4 fo4;have hg:=grown5V (w:=W2) (k:=kr) (.int .i64 1) (.bool false) (.slice none 0 0) (.string ⟨#[105,50]⟩) (.slice none 0 0);have hf:Fr 29 W2 _:=.of_grown hg (fun j hj=>by injection hj with hj;subst hj;exact⟨_,HBr.out,n32_F⟩);obtain⟨h1,h2,h3,h4⟩:=HT.out.fin hg hf (by unfold IR;decide) HB0.out HKR.out (by unfold NmOk;simp) (small4 (by decide)) (fun _ _ _=>rfl) (by simp) (rfl)
  (try simp only[Exit.inBlock,Exit.then])
  exact bodyPost_ret (v:=.agg #[.int .i64 1,.bool false,.slice none 0 0,.string ⟨#[105,50]⟩,.slice none 0 0]) (by simp[results,Tryz.results10,go_sem,r0,r1,r2,r3,r4]) rfl ⟨_,_,rfl,h1,h2,rfl,h3,h4⟩
 have hop2:op=0:=HOP.out;subst hop2;clear HOP;have HSZP:Hid (W1.heap.size<=W1.heap.size):=Lib.hid (Nat.le_refl _);have o0:=cell_at (v:=.int .i64 0) HBo.out 0 rfl;have fo0:=froz_at HBo.out 0;have o1:=cell_at (v:=.bool false) HBo.out 1 rfl;have fo1:=froz_at HBo.out 1;have o2:=cell_at (v:=.slice none 0 0) HBo.out 2 rfl;have fo2:=froz_at HBo.out 2;have o3:=cell_at (v:=.string ⟨#[]⟩) HBo.out 3 rfl;have fo3:=froz_at HBo.out 3;have o4:=cell_at (v:=.slice none 0 0) HBo.out 4 rfl;have fo4:=froz_at HBo.out 4;have m0:=cell_at (v:=.bool zb) HBm.out 0 rfl;have fm0:=froz_at HBm.out 0;have m1:=cell_at (v:=.slice zo zl zc) HBm.out 1 rfl;have fm1:=froz_at HBm.out 1;go_upto_region 21 with fail
 clear o0 fo0 o1 fo1 o2 fo2 o3 fo3 o4 fo4 m0 fm0 m1 fm1;have hgo:W1.grownBy ((W1.setCell ⟨ko,1,none⟩ (.bool zb)).setCell ⟨ko,2,none⟩ (.slice zo zl zc)) (some ko):=by refine grown_setCell ?_ _;refine grown_setCell ?_ _;exact World.grownBy.refl _ _
 have hbo:((W1.setCell ⟨ko,1,none⟩ (.bool zb)).setCell ⟨ko,2,none⟩ (.slice zo zl zc)).heap[ko]?=_:=(heap_setCell_same _ ko 2 _ _ (.slice zo zl zc) (heap_setCell_same _ ko 1 _ _ (.bool zb) HBo.out))
 obtain⟨W2,hW2⟩:∃ q,q=(W1.setCell ⟨ko,1,none⟩ (.bool zb)).setCell ⟨ko,2,none⟩ (.slice zo zl zc):=⟨_,rfl⟩
 rw[<-hW2] at hgo hbo ⊢;have hfo:Fr 29 W1 W2:=.of_grown hgo (fun j hj=>by injection hj with hj;subst hj;exact⟨_,HBo.out,n32_F⟩);replace HW:=Lib.hid (ext_below HW.out hgo HKO.out);replace HC:=Lib.hid (HC.out.fr hfo);replace HBf:=Lib.hid ((hgo.block _ (lt_of_block HBf.out) (fun e=>by injection e with e;exact HDIS.out.1 e)).trans HBf.out);replace HBd:=Lib.hid ((hgo.block _ (lt_of_block HBd.out) (fun e=>by injection e with e;exact HDIS.out.2.1 e)).trans HBd.out);replace HBr:=Lib.hid ((hgo.block _ (lt_of_block HBr.out) (fun e=>by injection e with e;exact HDIS.out.2.2 e)).trans HBr.out);have HSZW:Hid (W1.heap.size<=W2.heap.size):=Lib.hid (Nat.le_trans HSZP.out hgo.size);replace HBo:=Lib.hid hbo;clear hgo hbo hW2 hfo HSZP;have HSZP:=HSZW;clear HSZW
 have HT:Hid (TSt w W1.heap.size kf kd kr ko ⟨xo,xb,xao,xl,xc,xnm,xko,xkl,xkc⟩ (1) 0 zb zo zl zc (⟨#[]⟩) (z) 0 [] (.slice none 0 0) [] W2):=Lib.hid (TSt.zero HBo.out HBf.out HBd.out HBr.out (HC.out) HLOW.out HDIS.out HKO.out HW.out HSZP.out);have o0:=cell_at (v:=.int .i64 0) HBo.out 0 rfl;have fo0:=froz_at HBo.out 0;have o1:=cell_at (v:=.bool zb) HBo.out 1 rfl;have fo1:=froz_at HBo.out 1;have o2:=cell_at (v:=.slice zo zl zc) HBo.out 2 rfl;have fo2:=froz_at HBo.out 2;have o3:=cell_at (v:=.string ⟨#[]⟩) HBo.out 3 rfl;have fo3:=froz_at HBo.out 3;have o4:=cell_at (v:=.slice none 0 0) HBo.out 4 rfl;have fo4:=froz_at HBo.out 4;obtain⟨⟨r0,r1,r2,r3,r4⟩,fr0,fr1,fr2,fr3,fr4⟩:=cells5V HBr.out;go_wp2_with fail
 clear o0 fo0 o1 fo1 o2 fo2 o3 fo3 o4 fo4;have hg:=grown5V (w:=W2) (k:=kr) (.int .i64 0) (.bool zb) (.slice zo zl zc) (.string ⟨#[]⟩) (.slice none 0 0);have hf:Fr 29 W2 _:=.of_grown hg (fun j hj=>by injection hj with hj;subst hj;exact⟨_,HBr.out,n32_F⟩);obtain⟨h1,h2,h3,h4⟩:=HT.out.fin hg hf (by unfold IR;decide) HB0.out HKR.out (by unfold NmOk;simp) (lt_pow_more (k:=2) (k':=4) HCZ.out (by decide)) (fun h _ _=>absurd rfl h) (by simp) (rfl)
 (try simp only[Exit.inBlock,Exit.then])
 exact bodyPost_ret (v:=.agg #[.int .i64 0,.bool zb,.slice zo zl zc,.string ⟨#[]⟩,.slice none 0 0]) (by simp[results,Tryz.results10,go_sem,r0,r1,r2,r3,r4]) rfl ⟨_,_,rfl,h1,h2,rfl,h3,h4⟩
def opAttame_1z (j:Nat):Int:=[(14:Int),(12:Int)].getD j 0
theorem tame_1z (xo:Int) (xb:Bool) (xao:Option Addr) (xl xc:Nat) (xnm:ByteArray) (xko:Option Addr) (xkl xkc:Nat) (w:World) (hx:RawF w (0+1) ⟨xo,xb,xao,xl,xc,xnm,xko,xkl,xkc⟩) :
  Calls Tryz.prog 10 #[.agg #[.int .i64 xo,.bool xb,.slice xao xl xc,.string xnm,.slice xko xkl xkc],.int .i64 1,.int .i64 1] w (TamePost (0+1) 1 w):=by
 have HX:=Lib.hid hx;obtain⟨-,hn,-,⟨hk1,hk2⟩,-⟩:=hx;simp only at hn hk1 hk2;have hxm:xkc<=9223372036854775807:=hk2;obtain⟨m,hm⟩:∃ m,m=min xl 2:=⟨_,rfl⟩
 have hmin:min (xl:Int) 2=(m:Int):=by omega
 have hm2:m<=2:=by omega
 have hml:m<=xl:=by omega
 have hx2:∃ q,GN w (.slice xao m xc) q 2/\xl<=xc/\xc<=9223372036854775807:=by
  obtain⟨xs,hs,hdg⟩:=hn;have hl:=sl_len hs;obtain⟨_,_,e,h1,h2,_⟩:=id hs;injection e with e1 e2 e3;subst e3;exact⟨_,⟨xs.take m,hs.take m (by omega),hdg.take m,rfl,by rw[List.length_take];omega⟩,by omega,h2⟩
 obtain⟨q,hq,hlc,hc⟩:=hx2;have hmc:m<=xc:=by omega
 have HG:=Lib.hid hq;clear hq hn hm hk2;obtain⟨K,hK,hK2⟩:=and_255 xo;obtain⟨j,hj⟩:∃ j,j=K % 2:=⟨_,rfl⟩
 have hjm:((K:Nat):Int).tmod 2=((j:Nat):Int):=by rw[hj];exact (Int.ofNat_tmod K 2).symm
 have hjN:j<2:=by rw[hj];exact Nat.mod_lt _ (by decide)
 clear hj hK2;have HW:=Lib.hid (Below.refl w.heap.size w);go_enter Tryz.func10,Tryz.ntmps10
 obtain⟨x1,kf,ef,ekf,hbf,hkf,HBf⟩:=newV w #[.int .i64 xo,.bool xb,.slice xao xl xc,.string xnm,.slice xko xkl xkc] 29;replace HW:=Lib.hid (HW.out.trans (hbf.out.mono HW.out.size));replace HG:=Lib.hid (HG.out.below hbf.out);obtain⟨x2,kd,ed,ekd,hbd,hkd,HBd⟩:=newV x1 #[.int .i64 1] 3;replace HBf:=kBV hbd.out HBf;replace HW:=Lib.hid (HW.out.trans (hbd.out.mono HW.out.size));replace HG:=Lib.hid (HG.out.below hbd.out);obtain⟨x3,kr,er,ekr,hbr,hkr,HBr⟩:=newV x2 #[.int .i64 0,.bool false,.slice none 0 0,.string ⟨#[]⟩,.slice none 0 0] 29;replace HBf:=kBV hbr.out HBf;replace HBd:=kBV hbr.out HBd;replace HW:=Lib.hid (HW.out.trans (hbr.out.mono HW.out.size));replace HG:=Lib.hid (HG.out.below hbr.out);have HKR:Hid (w.heap.size<=kr):=Lib.hid (by have h1:=hbf.out.size;have h2:=hbd.out.size;have h3:=hkr.out;omega)
 obtain⟨x4,kp,ep,ekp,hbp,hkp,HBp⟩:=newV x3 #[.int .i64 1,.int .i64 0,.int .i64 2,.int .i64 3,.int .i64 4,.int .i64 5,.int .i64 6,.int .i64 7] 22;replace HBf:=kBV hbp.out HBf;replace HBd:=kBV hbp.out HBd;replace HBr:=kBV hbp.out HBr;replace HW:=Lib.hid (HW.out.trans (hbp.out.mono HW.out.size));replace HG:=Lib.hid (HG.out.below hbp.out);obtain⟨x5,kq,eq,ekq,hbq,hkq,HBq⟩:=newV x4 #[.int .i64 14,.int .i64 12,.int .i64 13,.int .i64 15,.int .i64 16,.int .i64 16,.int .i64 17,.int .i64 18,.int .i64 19,.int .i64 20] 22;replace HBf:=kBV hbq.out HBf;replace HBd:=kBV hbq.out HBd;replace HBr:=kBV hbq.out HBr;replace HBp:=kBV hbq.out HBp;replace HW:=Lib.hid (HW.out.trans (hbq.out.mono HW.out.size));replace HG:=Lib.hid (HG.out.below hbq.out)
 obtain⟨x6,kt,et,ekt,hbt,hkt,HBt⟩:=newV x5 #[.int .i64 8,.int .i64 9,.int .i64 10,.int .i64 11] 22;replace HBf:=kBV hbt.out HBf;replace HBd:=kBV hbt.out HBd;replace HBr:=kBV hbt.out HBr;replace HBp:=kBV hbt.out HBp;replace HBq:=kBV hbt.out HBq;replace HW:=Lib.hid (HW.out.trans (hbt.out.mono HW.out.size));replace HG:=Lib.hid (HG.out.below hbt.out);have hidx:=idx3_1 (some ⟨kp,0,none⟩) (some ⟨kq,0,none⟩) (some ⟨kt,0,none⟩) 8 10 4 8 10 4;have f0:=cell_at (v:=.int .i64 xo) HBf.out 0 rfl;have ff0:=froz_at HBf.out 0;have f1:=cell_at (v:=.bool xb) HBf.out 1 rfl;have ff1:=froz_at HBf.out 1;have f2:=cell_at (v:=.slice xao xl xc) HBf.out 2 rfl;have ff2:=froz_at HBf.out 2;have f3:=cell_at (v:=.string xnm) HBf.out 3 rfl;have ff3:=froz_at HBf.out 3;have f4:=cell_at (v:=.slice xko xkl xkc) HBf.out 4 rfl;have ff4:=froz_at HBf.out 4
 have d0:=cell_at (v:=.int .i64 1) HBd.out 0 rfl;have fd0:=froz_at HBd.out 0
 have hop:x6.cell? ⟨kq,j,none⟩=some (.int .i64 (opAttame_1z j)):=by
  have:j=0\/j=1:=by omega
  rcases this with rfl | rfl<;>exact cell_at HBq.out _ rfl
 obtain⟨op,hopd⟩:∃ op,op=opAttame_1z j:=⟨_,rfl⟩
 rw[<-hopd] at hop;have HOP:=Lib.hid hopd;clear hopd;go_upto_region 7 with fail
 clear f0 ff0 f1 ff1 f2 ff2 f3 ff3 f4 ff4 d0 fd0 hop;clear hidx hjm hK;have HWp:=HW;have HBfp:=HBf;have HBdp:=HBd;have HBrp:=HBr;obtain⟨x7,ko,eo,eko,hbo,hko,HBo⟩:=newV x6 #[.int .i64 op,.bool false,.slice none 0 0,.string ⟨#[]⟩,.slice none 0 0] 29;replace HBf:=kBV hbo.out HBf;replace HBd:=kBV hbo.out HBd;replace HBr:=kBV hbo.out HBr;replace HBp:=kBV hbo.out HBp;replace HBq:=kBV hbo.out HBq;replace HBt:=kBV hbo.out HBt;replace HW:=Lib.hid (HW.out.trans (hbo.out.mono HW.out.size));replace HG:=Lib.hid (HG.out.below hbo.out);rw[eo,eko];have HKO:Hid (w.heap.size<=ko):=Lib.hid (by have:=HWp.out.size;have:=hko.out;omega);go_upto_region 8 with fail
 have HY:=Lib.hid (Below.refl x7.heap.size x7);have HBf0:=HBf;have HBd0:=HBd;have HBr0:=HBr;have HBo0:=HBo;have hlt_f:=lt_of_block HBf.out;have hog:Hid (∀ q,q<0->(fun q=>0) q<x7.heap.size):=Lib.hid (fun q h=>absurd h (Nat.not_lt_zero _));refine R7.region (by kernel_rfl) [[],[0],[0,1],[],[3],[3,4],[],[6],[6,7],[6,7,8],[6,7,8,9],[3,4,5,6,7,8,9,10],[0,1,2,3,4,5,6,7,8,9,10,11],[],[0,1,2,3,4,5,6,7,8,9,10,11,12,13]] [] [] (fun q=>0) 0 14 (by kernel_rfl) (by kernel_rfl) (by rfl) hog.out (fun q q' h h' hn=>absurd hn (by omega)) ?_;refine R7.Chain.det ?_ (by rfl) (fun T xs wr hA=>?_) ?_
 rotate_left 1
 ·have e3:=hA.pre 3 (by kernel_rfl);simp only[gsa,gsc,gsz] at e3;clear hA;refine⟨(by rfl),?_⟩;go_simp<;>(try with_reducible rfl)
 refine R7.Chain.det ?_ (by rfl) (fun T xs wr hA=>?_) ?_
 rotate_left 1
 ·have e36:=hA.tm 0 36 (by rfl) (by rfl);have f36:xs 0=_:=hA.fa 0 (by rfl)
  (try simp (disch:=first | rfl | decide) only [R7.mask_in] at f36)
  rw[f36] at e36;clear f36;clear hA;refine⟨(by rfl),?_⟩;go_simp<;>(try with_reducible rfl)
 refine R7.Chain.det ?_ (by rfl) (fun T xs wr hA=>?_) ?_
 rotate_left 1
 ·have e37:=hA.tm 1 37 (by rfl) (by rfl);have f37:xs 1=_:=hA.fa 1 (by rfl)
  (try simp (disch:=first | rfl | decide) only [R7.mask_in] at f37)
  rw[f37] at e37;clear f37;have hBq:wr.heap[kf]?=_:=(hA.bl _ hlt_f (fun q h=>absurd h (Nat.not_lt_zero _))).trans HBf.out;have q0:=cell_at (v:=.int .i64 xo) hBq 0 rfl;have q1:=cell_at (v:=.bool xb) hBq 1 rfl;have q2:=cell_at (v:=.slice xao xl xc) hBq 2 rfl;have q3:=cell_at (v:=.string xnm) hBq 3 rfl;have q4:=cell_at (v:=.slice xko xkl xkc) hBq 4 rfl;clear hBq;clear hA;refine⟨(by rfl),?_⟩;go_simp<;>(try with_reducible rfl)
 refine R7.Chain.det ?_ (by rfl) (fun T xs wr hA=>?_) ?_
 rotate_left 1
 ·have e3:=hA.pre 3 (by kernel_rfl);simp only[gsa,gsc,gsz] at e3;clear hA;refine⟨(by rfl),?_⟩;go_simp<;>(try with_reducible rfl)
 refine R7.Chain.det ?_ (by rfl) (fun T xs wr hA=>?_) ?_
 rotate_left 1
 ·have e39:=hA.tm 3 39 (by rfl) (by rfl);have f39:xs 3=_:=hA.fa 3 (by rfl)
  (try simp (disch:=first | rfl | decide) only [R7.mask_in] at f39)
  rw[f39] at e39;clear f39;clear hA;refine⟨(by rfl),?_⟩;go_simp<;>(try with_reducible rfl)
 refine R7.Chain.det ?_ (by rfl) (fun T xs wr hA=>?_) ?_
 rotate_left 1
 ·have e40:=hA.tm 4 40 (by rfl) (by rfl);have f40:xs 4=_:=hA.fa 4 (by rfl)
  (try simp (disch:=first | rfl | decide) only [R7.mask_in] at f40)
  rw[f40] at e40;clear f40;have hBq:wr.heap[kf]?=_:=(hA.bl _ hlt_f (fun q h=>absurd h (Nat.not_lt_zero _))).trans HBf.out;have q0:=cell_at (v:=.int .i64 xo) hBq 0 rfl;have q1:=cell_at (v:=.bool xb) hBq 1 rfl;have q2:=cell_at (v:=.slice xao xl xc) hBq 2 rfl;have q3:=cell_at (v:=.string xnm) hBq 3 rfl;have q4:=cell_at (v:=.slice xko xkl xkc) hBq 4 rfl;clear hBq;clear hA;refine⟨(by rfl),?_⟩;go_simp<;>(try with_reducible rfl)
 refine R7.Chain.det ?_ (by rfl) (fun T xs wr hA=>?_) ?_
 rotate_left 1
 ·have e3:=hA.pre 3 (by kernel_rfl);simp only[gsa,gsc,gsz] at e3;clear hA;refine⟨(by rfl),?_⟩;go_simp<;>(try with_reducible rfl)
 refine R7.Chain.det ?_ (by rfl) (fun T xs wr hA=>?_) ?_
 rotate_left 1
 ·have e42:=hA.tm 6 42 (by rfl) (by rfl);have f42:xs 6=_:=hA.fa 6 (by rfl)
  (try simp (disch:=first | rfl | decide) only [R7.mask_in] at f42)
  rw[f42] at e42;clear f42;clear hA;refine⟨(by rfl),?_⟩;go_simp<;>(try with_reducible rfl)
 refine R7.Chain.det ?_ (by rfl) (fun T xs wr hA=>?_) ?_
 rotate_left 1
 ·have e43:=hA.tm 7 43 (by rfl) (by rfl);have f43:xs 7=_:=hA.fa 7 (by rfl)
  (try simp (disch:=first | rfl | decide) only [R7.mask_in] at f43)
  rw[f43] at e43;clear f43;have hBq:wr.heap[kf]?=_:=(hA.bl _ hlt_f (fun q h=>absurd h (Nat.not_lt_zero _))).trans HBf.out;have q0:=cell_at (v:=.int .i64 xo) hBq 0 rfl;have q1:=cell_at (v:=.bool xb) hBq 1 rfl;have q2:=cell_at (v:=.slice xao xl xc) hBq 2 rfl;have q3:=cell_at (v:=.string xnm) hBq 3 rfl;have q4:=cell_at (v:=.slice xko xkl xkc) hBq 4 rfl;clear hBq;clear hA;refine⟨(by rfl),?_⟩;go_simp<;>(try with_reducible rfl)
 refine R7.Chain.det ?_ (by rfl) (fun T xs wr hA=>?_) ?_
 rotate_left 1
 ·have e44:=hA.tm 8 44 (by rfl) (by rfl);have f44:xs 8=_:=hA.fa 8 (by rfl)
  (try simp (disch:=first | rfl | decide) only [R7.mask_in] at f44)
  rw[f44] at e44;clear f44;clear hA;refine⟨(by rfl),?_⟩;go_simp<;>(try with_reducible rfl)
 refine R7.Chain.det ?_ (by rfl) (fun T xs wr hA=>?_) ?_
 rotate_left 1
 ·have e45:=hA.tm 9 45 (by rfl) (by rfl);have f45:xs 9=_:=hA.fa 9 (by rfl)
  (try simp (disch:=first | rfl | decide) only [R7.mask_in] at f45)
  rw[f45] at e45;clear f45;clear hA;refine⟨(by rfl),?_⟩;go_simp<;>(try with_reducible rfl)
 refine R7.Chain.det ?_ (by rfl) (fun T xs wr hA=>?_) ?_
 rotate_left 1
 ·have e41:=hA.tm 5 41 (by rfl) (by rfl);have f41:xs 5=_:=hA.fa 5 (by rfl)
  (try simp (disch:=first | rfl | decide) only [R7.mask_in] at f41)
  rw[f41] at e41;clear f41;have e46:=hA.tm 10 46 (by rfl) (by rfl);have f46:xs 10=_:=hA.fa 10 (by rfl)
  (try simp (disch:=first | rfl | decide) only [R7.mask_in] at f46)
  rw[f46] at e46;clear f46;clear hA;refine⟨(by rfl),?_⟩;go_simp<;>(try with_reducible rfl)
 refine R7.Chain.call (fun xs v w=>∃ z,CI w v z 2) (fun _ _ _ _ h hb=>by obtain⟨z,h2⟩:=h;exact⟨z,h2.below hb⟩) (fun _ _ _ _ _ _ h _=>by obtain⟨q,hq,_⟩:=h;exact absurd hq (Nat.not_lt_zero _)) (by rfl) (fun T xs wr hA=>?_) ?_
 ·have hsw:=(hA.be 0 (Nat.zero_le _) (fun _ _=>Nat.zero_le _)).size;have e38:=hA.tm 2 38 (by rfl) (by rfl);have f38:xs 2=_:=hA.fa 2 (by rfl)
  (try simp (disch:=first | rfl | decide) only [R7.mask_in] at f38)
  rw[f38] at e38;clear f38;have e47:=hA.tm 11 47 (by rfl) (by rfl);have f47:xs 11=_:=hA.fa 11 (by rfl)
  (try simp (disch:=first | rfl | decide) only [R7.mask_in] at f47)
  rw[f47] at e47;clear f47;have hbw:=undrew (hA.be x7.heap.size (Nat.le_refl _) (fun q h=>absurd h (Nat.not_lt_zero q)));clear hA;refine⟨(by rfl),fun K hK=>?_⟩;go_simp
  refine (big_any xb _ q 2 wr (HG.out.below hbw) (by decide)).mono ?_;rintro e w' ⟨v,rfl,hc,hb'⟩;exact hK.out _ _ ⟨_,hc⟩ hb'
 refine R7.Chain.call (fun xs v w=>∃ g,v=.pointer (some ⟨g,0,none⟩)/\x7.heap.size<=g/\w.heap[g]?=some (.cells #[.bool false,.slice none 0 0] 26 (0,0))) (fun _ _ _ _ h hb=>by obtain⟨g,h1,h2,h3⟩:=h;exact⟨g,h1,h2,by rw[hb.block g (lt_of_block h3)];exact h3⟩) (fun _ _ _ _ _ _ h _=>by obtain⟨q,hq,_⟩:=h;exact absurd hq (Nat.not_lt_zero _)) (by rfl) (fun T xs wr hA=>?_) ?_
 ·have hsw:=(hA.be 0 (Nat.zero_le _) (fun _ _=>Nat.zero_le _)).size;have hbw:=undrew (hA.be x7.heap.size (Nat.le_refl _) (fun q h=>absurd h (Nat.not_lt_zero q)));clear hA;refine⟨(by rfl),fun K hK=>?_⟩;go_simp
  exact hK.out _ _ ⟨_,rfl,hbw.size,made_at _ _ _ rfl⟩ ((Below.refl _ _).alloc (Nat.le_refl _) _)
 refine R7.Chain.done (fun xs x8 hL=>?_);obtain⟨⟨hbe,hbl⟩,hf,-,-⟩:=hL;have f0:xs 0=_:=hf 0 (by decide)
 (try simp (disch:=first | rfl | decide) only [R7.mask_in] at f0)
 have f1:xs 1=_:=hf 1 (by decide)
 (try simp (disch:=first | rfl | decide) only [R7.mask_in] at f1)
 have f2:xs 2=_:=hf 2 (by decide)
 (try simp (disch:=first | rfl | decide) only [R7.mask_in] at f2)
 have f3:xs 3=_:=hf 3 (by decide)
 (try simp (disch:=first | rfl | decide) only [R7.mask_in] at f3)
 have f4:xs 4=_:=hf 4 (by decide)
 (try simp (disch:=first | rfl | decide) only [R7.mask_in] at f4)
 have f5:xs 5=_:=hf 5 (by decide)
 (try simp (disch:=first | rfl | decide) only [R7.mask_in] at f5)
 have f6:xs 6=_:=hf 6 (by decide)
 (try simp (disch:=first | rfl | decide) only [R7.mask_in] at f6)
 have f7:xs 7=_:=hf 7 (by decide)
 (try simp (disch:=first | rfl | decide) only [R7.mask_in] at f7)
 have f8:xs 8=_:=hf 8 (by decide)
 (try simp (disch:=first | rfl | decide) only [R7.mask_in] at f8)
 have f9:xs 9=_:=hf 9 (by decide)
 (try simp (disch:=first | rfl | decide) only [R7.mask_in] at f9)
 have f10:xs 10=_:=hf 10 (by decide)
 (try simp (disch:=first | rfl | decide) only [R7.mask_in] at f10)
 have f11:xs 11=_:=hf 11 (by decide)
 (try simp (disch:=first | rfl | decide) only [R7.mask_in] at f11)
 have F12:∃ z,CI x8 (xs 12) z 2:=hf 12 (by decide);have F13:∃ g,(xs 13)=.pointer (some ⟨g,0,none⟩)/\x7.heap.size<=g/\x8.heap[g]?=some (.cells #[.bool false,.slice none 0 0] 26 (0,0)):=hf 13 (by decide);have hb0:Below 0 x7 x8:=undrew (hbe 0 (Nat.zero_le _) (fun _ _=>Nat.zero_le _));have hgr:∀ j,j<x7.heap.size->(∀ q,q<0->(fun q=>0) q≠j)->x8.heap[j]?=x7.heap[j]?:=hbl;clear hbe hbl hf;have hb:Below x7.heap.size x7 x8:=⟨hb0.os,hb0.tape,hb0.output,hb0.size,fun q hq=>hgr q hq (fun q h=>absurd h (Nat.not_lt_zero _))⟩
 refine R7.rest_list (by decide) (by kernel_rfl) ?_;simp only[R7.fill,t1_,t2_,t3_,t4_,t5_,t6_,t7_,f0,f1,f2,f3,f4,f5,f6,f7,f8,f9,f10,f11];clear hb0 hgr hog hlt_f f0 f1 f2 f3 f4 f5 f6 f7 f8 f9 f10 f11;replace HBf:=kBV hb HBf;replace HBd:=kBV hb HBd;replace HBr:=kBV hb HBr;replace HBp:=kBV hb HBp;replace HBq:=kBV hb HBq;replace HBt:=kBV hb HBt;replace HBo:=kBV hb HBo;replace HW:=Lib.hid (HW.out.trans (hb.mono HW.out.size));replace HG:=Lib.hid (HG.out.below hb);replace HY:=Lib.hid (HY.out.trans (hb.mono HY.out.size));replace hb:=Lib.hid hb;obtain⟨z,hcz⟩:=F12;obtain⟨zb,zo,zl,zc,hzv⟩:=hcz.shape;obtain⟨km,hkm,hkm1,hkm2⟩:=F13;rw[hzv] at hcz;rw[hzv,hkm];have HC:=Lib.hid (hcz.mono (k':=600) (by decide));have HCZ:=Lib.hid hcz.lt;have HBm:=Lib.hid hkm2;clear hcz hzv hkm hkm2;have m0:=cell_at (v:=.bool false) HBm.out 0 rfl
 have fm0:=froz_at HBm.out 0;have m1:=cell_at (v:=.slice none 0 0) HBm.out 1 rfl;have fm1:=froz_at HBm.out 1;go_upto_region 9 with fail
 clear m0 fm0 m1 fm1;have hg1:=grown2V (w:=x8) (k:=km) (.bool zb) (.slice zo zl zc);have hb1:((x8.setCell ⟨km,0,none⟩ (.bool zb)).setCell ⟨km,1,none⟩ (.slice zo zl zc)).heap[km]?=_:=heap_setCell_same _ km 1 _ _ _ (heap_setCell_same _ km 0 _ _ _ HBm.out);obtain⟨W1,hW1⟩:∃ q,q=(x8.setCell ⟨km,0,none⟩ (.bool zb)).setCell ⟨km,1,none⟩ (.slice zo zl zc):=⟨_,rfl⟩
 rw[<-hW1] at hg1 hb1 ⊢;have hf1:Fr 26 x8 W1:=.of_grown hg1 (fun j hj=>by injection hj with hj;subst hj;exact⟨_,HBm.out,n32_2⟩);have HKM:Hid (w.heap.size<=km):=Lib.hid (Nat.le_trans (by have:=HKO.out;have:=lt_of_block HBo0.out;omega) hkm1);replace HW:=Lib.hid (ext_below HW.out hg1 HKM.out);replace HY:=Lib.hid (ext_below HY.out hg1 hkm1);replace HC:=Lib.hid (HC.out.fr hf1);replace HBf:=Lib.hid ((HY.out.block _ (lt_of_block HBf0.out)).trans HBf0.out);replace HBd:=Lib.hid ((HY.out.block _ (lt_of_block HBd0.out)).trans HBd0.out);replace HBr:=Lib.hid ((HY.out.block _ (lt_of_block HBr0.out)).trans HBr0.out);replace HBo:=Lib.hid ((HY.out.block _ (lt_of_block HBo0.out)).trans HBo0.out);replace HBm:=Lib.hid hb1;clear hg1 hb1 hW1 hf1 hkm1
 have HLOW:Hid (kf<W1.heap.size/\kd<W1.heap.size/\kr<W1.heap.size/\ko<W1.heap.size):=Lib.hid ⟨lt_of_block HBf.out,lt_of_block HBd.out,lt_of_block HBr.out,lt_of_block HBo.out⟩;have HDIS:Hid (kf≠ko/\kd≠ko/\kr≠ko):=Lib.hid (by have h1:=lt_of_block HBfp.out;have h2:=lt_of_block HBdp.out;have h3:=lt_of_block HBrp.out;rw[eko] at h1 h2 h3;omega);have HB0:Hid (w.heap.size<=W1.heap.size):=Lib.hid HW.out.size;have hjc:j=0\/j=1:=by omega
 rcases hjc with rfl | rfl
 ·have hop2:op=14:=HOP.out;subst hop2;clear HOP;have HSZP:Hid (W1.heap.size<=W1.heap.size):=Lib.hid (Nat.le_refl _);rcases (tmod_cases xnm.size).2 with hr | hr
  ·have o0:=cell_at (v:=.int .i64 14) HBo.out 0 rfl;have fo0:=froz_at HBo.out 0;have o1:=cell_at (v:=.bool false) HBo.out 1 rfl;have fo1:=froz_at HBo.out 1;have o2:=cell_at (v:=.slice none 0 0) HBo.out 2 rfl;have fo2:=froz_at HBo.out 2;have o3:=cell_at (v:=.string ⟨#[]⟩) HBo.out 3 rfl;have fo3:=froz_at HBo.out 3;have o4:=cell_at (v:=.slice none 0 0) HBo.out 4 rfl;have fo4:=froz_at HBo.out 4;have m0:=cell_at (v:=.bool zb) HBm.out 0 rfl;have fm0:=froz_at HBm.out 0;have m1:=cell_at (v:=.slice zo zl zc) HBm.out 1 rfl;have fm1:=froz_at HBm.out 1;have f0:=cell_at (v:=.int .i64 xo) HBf.out 0 rfl;have ff0:=froz_at HBf.out 0;have f1:=cell_at (v:=.bool xb) HBf.out 1 rfl;have ff1:=froz_at HBf.out 1;have f2:=cell_at (v:=.slice xao xl xc) HBf.out 2 rfl;have ff2:=froz_at HBf.out 2;have f3:=cell_at (v:=.string xnm) HBf.out 3 rfl
   have ff3:=froz_at HBf.out 3;have f4:=cell_at (v:=.slice xko xkl xkc) HBf.out 4 rfl;have ff4:=froz_at HBf.out 4;have hcv:=one_byteL 48 48 (by decide) W1;obtain⟨x9,ky,ey,eky,hby,hky,HBy⟩:=newV W1 #[.int .u8 48] 5;replace HBf:=kBV hby.out HBf;replace HBd:=kBV hby.out HBd;replace HBr:=kBV hby.out HBr;replace HBo:=kBV hby.out HBo;replace HBm:=kBV hby.out HBm;replace HW:=Lib.hid (HW.out.trans (hby.out.mono HW.out.size));replace HC:=Lib.hid (HC.out.below hby.out);rw[ey,eky] at hcv;have p0:=cell_at (v:=.int .i64 14) HBo.out 0 rfl;have fp0:=froz_at HBo.out 0;have p1:=cell_at (v:=.bool false) HBo.out 1 rfl;have fp1:=froz_at HBo.out 1;have p2:=cell_at (v:=.slice none 0 0) HBo.out 2 rfl;have fp2:=froz_at HBo.out 2;have p3:=cell_at (v:=.string ⟨#[]⟩) HBo.out 3 rfl;have fp3:=froz_at HBo.out 3
   have p4:=cell_at (v:=.slice none 0 0) HBo.out 4 rfl;have fp4:=froz_at HBo.out 4;replace HSZP:=Lib.hid (Nat.le_trans HSZP.out hby.out.size);go_upto_region 21 with fail
   clear o0 fo0 o1 fo1 o2 fo2 o3 fo3 o4 fo4 m0 fm0 m1 fm1 f0 ff0 f1 ff1 f2 ff2 f3 ff3 f4 ff4 p0 fp0 p1 fp1 p2 fp2 p3 fp3 p4 fp4
   try clear hcv
   try clear hr
   rw[show ((⟨#[98]⟩:ByteArray)++⟨#[48]⟩)=⟨#[98,48]⟩ from rfl];have hgo:x9.grownBy (x9.setCell ⟨ko,3,none⟩ (.string ⟨#[98,48]⟩)) (some ko):=by refine grown_setCell ?_ _;exact World.grownBy.refl _ _
   have hbo:(x9.setCell ⟨ko,3,none⟩ (.string ⟨#[98,48]⟩)).heap[ko]?=_:=(heap_setCell_same _ ko 3 _ _ (.string ⟨#[98,48]⟩) HBo.out)
   obtain⟨W2,hW2⟩:∃ q,q=x9.setCell ⟨ko,3,none⟩ (.string ⟨#[98,48]⟩):=⟨_,rfl⟩
   rw[<-hW2] at hgo hbo ⊢;have hfo:Fr 29 x9 W2:=.of_grown hgo (fun j hj=>by injection hj with hj;subst hj;exact⟨_,HBo.out,n32_F⟩);replace HW:=Lib.hid (ext_below HW.out hgo HKO.out);replace HC:=Lib.hid (HC.out.fr hfo);replace HBf:=Lib.hid ((hgo.block _ (lt_of_block HBf.out) (fun e=>by injection e with e;exact HDIS.out.1 e)).trans HBf.out);replace HBd:=Lib.hid ((hgo.block _ (lt_of_block HBd.out) (fun e=>by injection e with e;exact HDIS.out.2.1 e)).trans HBd.out);replace HBr:=Lib.hid ((hgo.block _ (lt_of_block HBr.out) (fun e=>by injection e with e;exact HDIS.out.2.2 e)).trans HBr.out);have HSZW:Hid (W1.heap.size<=W2.heap.size):=Lib.hid (Nat.le_trans HSZP.out hgo.size);replace HBo:=Lib.hid hbo;clear hgo hbo hW2 hfo HSZP;have HSZP:=HSZW;clear HSZW
   have HT:Hid (TSt w W1.heap.size kf kd kr ko ⟨xo,xb,xao,xl,xc,xnm,xko,xkl,xkc⟩ (1) 14 false none 0 0 (⟨#[98,48]⟩) (0) 0 [] (.slice none 0 0) [] W2):=Lib.hid (TSt.zero HBo.out HBf.out HBd.out HBr.out (nr0 _) HLOW.out HDIS.out HKO.out HW.out HSZP.out);have o0:=cell_at (v:=.int .i64 14) HBo.out 0 rfl;have fo0:=froz_at HBo.out 0;have o1:=cell_at (v:=.bool false) HBo.out 1 rfl;have fo1:=froz_at HBo.out 1;have o2:=cell_at (v:=.slice none 0 0) HBo.out 2 rfl;have fo2:=froz_at HBo.out 2;have o3:=cell_at (v:=.string ⟨#[98,48]⟩) HBo.out 3 rfl;have fo3:=froz_at HBo.out 3;have o4:=cell_at (v:=.slice none 0 0) HBo.out 4 rfl;have fo4:=froz_at HBo.out 4;obtain⟨⟨r0,r1,r2,r3,r4⟩,fr0,fr1,fr2,fr3,fr4⟩:=cells5V HBr.out;go_wp2_with fail
   clear o0 fo0 o1 fo1 o2 fo2 o3 fo3 o4 fo4;have hg:=grown5V (w:=W2) (k:=kr) (.int .i64 14) (.bool false) (.slice none 0 0) (.string ⟨#[98,48]⟩) (.slice none 0 0);have hf:Fr 29 W2 _:=.of_grown hg (fun j hj=>by injection hj with hj;subst hj;exact⟨_,HBr.out,n32_F⟩);obtain⟨h1,h2,h3,h4⟩:=HT.out.fin hg hf (by unfold IR;decide) HB0.out HKR.out (by unfold NmOk;simp) (small4 (by decide)) (fun _ _ _=>rfl) (by simp) (rfl)
   (try simp only[Exit.inBlock,Exit.then])
   exact bodyPost_ret (v:=.agg #[.int .i64 14,.bool false,.slice none 0 0,.string ⟨#[98,48]⟩,.slice none 0 0]) (by simp[results,Tryz.results10,go_sem,r0,r1,r2,r3,r4]) rfl ⟨_,_,rfl,h1,h2,rfl,h3,h4⟩
  have o0:=cell_at (v:=.int .i64 14) HBo.out 0 rfl;have fo0:=froz_at HBo.out 0;have o1:=cell_at (v:=.bool false) HBo.out 1 rfl;have fo1:=froz_at HBo.out 1;have o2:=cell_at (v:=.slice none 0 0) HBo.out 2 rfl;have fo2:=froz_at HBo.out 2;have o3:=cell_at (v:=.string ⟨#[]⟩) HBo.out 3 rfl;have fo3:=froz_at HBo.out 3;have o4:=cell_at (v:=.slice none 0 0) HBo.out 4 rfl;have fo4:=froz_at HBo.out 4;have m0:=cell_at (v:=.bool zb) HBm.out 0 rfl;have fm0:=froz_at HBm.out 0;have m1:=cell_at (v:=.slice zo zl zc) HBm.out 1 rfl;have fm1:=froz_at HBm.out 1;have f0:=cell_at (v:=.int .i64 xo) HBf.out 0 rfl;have ff0:=froz_at HBf.out 0;have f1:=cell_at (v:=.bool xb) HBf.out 1 rfl;have ff1:=froz_at HBf.out 1;have f2:=cell_at (v:=.slice xao xl xc) HBf.out 2 rfl;have ff2:=froz_at HBf.out 2;have f3:=cell_at (v:=.string xnm) HBf.out 3 rfl
  have ff3:=froz_at HBf.out 3;have f4:=cell_at (v:=.slice xko xkl xkc) HBf.out 4 rfl;have ff4:=froz_at HBf.out 4;have hcv:=one_byteL 49 49 (by decide) W1;obtain⟨x9,ky,ey,eky,hby,hky,HBy⟩:=newV W1 #[.int .u8 49] 5;replace HBf:=kBV hby.out HBf;replace HBd:=kBV hby.out HBd;replace HBr:=kBV hby.out HBr;replace HBo:=kBV hby.out HBo;replace HBm:=kBV hby.out HBm;replace HW:=Lib.hid (HW.out.trans (hby.out.mono HW.out.size));replace HC:=Lib.hid (HC.out.below hby.out);rw[ey,eky] at hcv;have p0:=cell_at (v:=.int .i64 14) HBo.out 0 rfl;have fp0:=froz_at HBo.out 0;have p1:=cell_at (v:=.bool false) HBo.out 1 rfl;have fp1:=froz_at HBo.out 1;have p2:=cell_at (v:=.slice none 0 0) HBo.out 2 rfl;have fp2:=froz_at HBo.out 2;have p3:=cell_at (v:=.string ⟨#[]⟩) HBo.out 3 rfl;have fp3:=froz_at HBo.out 3
  have p4:=cell_at (v:=.slice none 0 0) HBo.out 4 rfl;have fp4:=froz_at HBo.out 4;replace HSZP:=Lib.hid (Nat.le_trans HSZP.out hby.out.size);go_upto_region 21 with fail
  clear o0 fo0 o1 fo1 o2 fo2 o3 fo3 o4 fo4 m0 fm0 m1 fm1 f0 ff0 f1 ff1 f2 ff2 f3 ff3 f4 ff4 p0 fp0 p1 fp1 p2 fp2 p3 fp3 p4 fp4
  try clear hcv
  try clear hr
  rw[show ((⟨#[98]⟩:ByteArray)++⟨#[49]⟩)=⟨#[98,49]⟩ from rfl];have hgo:x9.grownBy (x9.setCell ⟨ko,3,none⟩ (.string ⟨#[98,49]⟩)) (some ko):=by refine grown_setCell ?_ _;exact World.grownBy.refl _ _
  have hbo:(x9.setCell ⟨ko,3,none⟩ (.string ⟨#[98,49]⟩)).heap[ko]?=_:=(heap_setCell_same _ ko 3 _ _ (.string ⟨#[98,49]⟩) HBo.out)
  obtain⟨W2,hW2⟩:∃ q,q=x9.setCell ⟨ko,3,none⟩ (.string ⟨#[98,49]⟩):=⟨_,rfl⟩
  rw[<-hW2] at hgo hbo ⊢;have hfo:Fr 29 x9 W2:=.of_grown hgo (fun j hj=>by injection hj with hj;subst hj;exact⟨_,HBo.out,n32_F⟩);replace HW:=Lib.hid (ext_below HW.out hgo HKO.out);replace HC:=Lib.hid (HC.out.fr hfo);replace HBf:=Lib.hid ((hgo.block _ (lt_of_block HBf.out) (fun e=>by injection e with e;exact HDIS.out.1 e)).trans HBf.out);replace HBd:=Lib.hid ((hgo.block _ (lt_of_block HBd.out) (fun e=>by injection e with e;exact HDIS.out.2.1 e)).trans HBd.out);replace HBr:=Lib.hid ((hgo.block _ (lt_of_block HBr.out) (fun e=>by injection e with e;exact HDIS.out.2.2 e)).trans HBr.out);have HSZW:Hid (W1.heap.size<=W2.heap.size):=Lib.hid (Nat.le_trans HSZP.out hgo.size);replace HBo:=Lib.hid hbo;clear hgo hbo hW2 hfo HSZP;have HSZP:=HSZW;clear HSZW
  have HT:Hid (TSt w W1.heap.size kf kd kr ko ⟨xo,xb,xao,xl,xc,xnm,xko,xkl,xkc⟩ (1) 14 false none 0 0 (⟨#[98,49]⟩) (0) 0 [] (.slice none 0 0) [] W2):=Lib.hid (TSt.zero HBo.out HBf.out HBd.out HBr.out (nr0 _) HLOW.out HDIS.out HKO.out HW.out HSZP.out);have o0:=cell_at (v:=.int .i64 14) HBo.out 0 rfl;have fo0:=froz_at HBo.out 0;have o1:=cell_at (v:=.bool false) HBo.out 1 rfl;have fo1:=froz_at HBo.out 1;have o2:=cell_at (v:=.slice none 0 0) HBo.out 2 rfl;have fo2:=froz_at HBo.out 2;have o3:=cell_at (v:=.string ⟨#[98,49]⟩) HBo.out 3 rfl;have fo3:=froz_at HBo.out 3;have o4:=cell_at (v:=.slice none 0 0) HBo.out 4 rfl;have fo4:=froz_at HBo.out 4;obtain⟨⟨r0,r1,r2,r3,r4⟩,fr0,fr1,fr2,fr3,fr4⟩:=cells5V HBr.out;go_wp2_with fail
  clear o0 fo0 o1 fo1 o2 fo2 o3 fo3 o4 fo4;have hg:=grown5V (w:=W2) (k:=kr) (.int .i64 14) (.bool false) (.slice none 0 0) (.string ⟨#[98,49]⟩) (.slice none 0 0);have hf:Fr 29 W2 _:=.of_grown hg (fun j hj=>by injection hj with hj;subst hj;exact⟨_,HBr.out,n32_F⟩);obtain⟨h1,h2,h3,h4⟩:=HT.out.fin hg hf (by unfold IR;decide) HB0.out HKR.out (by unfold NmOk;simp) (small4 (by decide)) (fun _ _ _=>rfl) (by simp) (rfl)
  (try simp only[Exit.inBlock,Exit.then])
  exact bodyPost_ret (v:=.agg #[.int .i64 14,.bool false,.slice none 0 0,.string ⟨#[98,49]⟩,.slice none 0 0]) (by simp[results,Tryz.results10,go_sem,r0,r1,r2,r3,r4]) rfl ⟨_,_,rfl,h1,h2,rfl,h3,h4⟩
 have hop2:op=12:=HOP.out;subst hop2;clear HOP;have HSZP:Hid (W1.heap.size<=W1.heap.size):=Lib.hid (Nat.le_refl _);have HT:Hid (TSt w W1.heap.size kf kd kr ko ⟨xo,xb,xao,xl,xc,xnm,xko,xkl,xkc⟩ (1) 12 false none 0 0 (⟨#[]⟩) (0) 0 [] (.slice none 0 0) [] W1):=Lib.hid (TSt.zero HBo.out HBf.out HBd.out HBr.out (nr0 _) HLOW.out HDIS.out HKO.out HW.out HSZP.out);have o0:=cell_at (v:=.int .i64 12) HBo.out 0 rfl;have fo0:=froz_at HBo.out 0;have o1:=cell_at (v:=.bool false) HBo.out 1 rfl;have fo1:=froz_at HBo.out 1;have o2:=cell_at (v:=.slice none 0 0) HBo.out 2 rfl;have fo2:=froz_at HBo.out 2;have o3:=cell_at (v:=.string ⟨#[]⟩) HBo.out 3 rfl;have fo3:=froz_at HBo.out 3;have o4:=cell_at (v:=.slice none 0 0) HBo.out 4 rfl;have fo4:=froz_at HBo.out 4;obtain⟨⟨r0,r1,r2,r3,r4⟩,fr0,fr1,fr2,fr3,fr4⟩:=cells5V HBr.out;go_wp2_with fail
 clear o0 fo0 o1 fo1 o2 fo2 o3 fo3 o4 fo4;have hg:=grown5V (w:=W1) (k:=kr) (.int .i64 12) (.bool false) (.slice none 0 0) (.string ⟨#[]⟩) (.slice none 0 0);have hf:Fr 29 W1 _:=.of_grown hg (fun j hj=>by injection hj with hj;subst hj;exact⟨_,HBr.out,n32_F⟩);obtain⟨h1,h2,h3,h4⟩:=HT.out.fin hg hf (by unfold IR;decide) HB0.out HKR.out (by unfold NmOk;simp) (small4 (by decide)) (fun _ _ _=>rfl) (by simp) (rfl)
 (try simp only[Exit.inBlock,Exit.then])
 exact bodyPost_ret (v:=.agg #[.int .i64 12,.bool false,.slice none 0 0,.string ⟨#[]⟩,.slice none 0 0]) (by simp[results,Tryz.results10,go_sem,r0,r1,r2,r3,r4]) rfl ⟨_,_,rfl,h1,h2,rfl,h3,h4⟩
def opAttame_2z (j:Nat):Int:=[(8:Int),(9:Int)].getD j 0
theorem tame_2z (xo:Int) (xb:Bool) (xao:Option Addr) (xl xc:Nat) (xnm:ByteArray) (xko:Option Addr) (xkl xkc:Nat) (w:World) (hx:RawF w (0+1) ⟨xo,xb,xao,xl,xc,xnm,xko,xkl,xkc⟩) :
  Calls Tryz.prog 10 #[.agg #[.int .i64 xo,.bool xb,.slice xao xl xc,.string xnm,.slice xko xkl xkc],.int .i64 2,.int .i64 1] w (TamePost (0+1) 2 w):=by
 have HX:=Lib.hid hx;obtain⟨-,hn,-,⟨hk1,hk2⟩,-⟩:=hx;simp only at hn hk1 hk2;have hxm:xkc<=9223372036854775807:=hk2;obtain⟨m,hm⟩:∃ m,m=min xl 2:=⟨_,rfl⟩
 have hmin:min (xl:Int) 2=(m:Int):=by omega
 have hm2:m<=2:=by omega
 have hml:m<=xl:=by omega
 have hx2:∃ q,GN w (.slice xao m xc) q 2/\xl<=xc/\xc<=9223372036854775807:=by
  obtain⟨xs,hs,hdg⟩:=hn;have hl:=sl_len hs;obtain⟨_,_,e,h1,h2,_⟩:=id hs;injection e with e1 e2 e3;subst e3;exact⟨_,⟨xs.take m,hs.take m (by omega),hdg.take m,rfl,by rw[List.length_take];omega⟩,by omega,h2⟩
 obtain⟨q,hq,hlc,hc⟩:=hx2;have hmc:m<=xc:=by omega
 have HG:=Lib.hid hq;clear hq hn hm hk2;obtain⟨K,hK,hK2⟩:=and_255 xo;obtain⟨j,hj⟩:∃ j,j=K % 2:=⟨_,rfl⟩
 have hjm:((K:Nat):Int).tmod 2=((j:Nat):Int):=by rw[hj];exact (Int.ofNat_tmod K 2).symm
 have hjN:j<2:=by rw[hj];exact Nat.mod_lt _ (by decide)
 clear hj hK2;have HW:=Lib.hid (Below.refl w.heap.size w);go_enter Tryz.func10,Tryz.ntmps10
 obtain⟨x1,kf,ef,ekf,hbf,hkf,HBf⟩:=newV w #[.int .i64 xo,.bool xb,.slice xao xl xc,.string xnm,.slice xko xkl xkc] 29;replace HW:=Lib.hid (HW.out.trans (hbf.out.mono HW.out.size));replace HG:=Lib.hid (HG.out.below hbf.out);obtain⟨x2,kd,ed,ekd,hbd,hkd,HBd⟩:=newV x1 #[.int .i64 1] 3;replace HBf:=kBV hbd.out HBf;replace HW:=Lib.hid (HW.out.trans (hbd.out.mono HW.out.size));replace HG:=Lib.hid (HG.out.below hbd.out);obtain⟨x3,kr,er,ekr,hbr,hkr,HBr⟩:=newV x2 #[.int .i64 0,.bool false,.slice none 0 0,.string ⟨#[]⟩,.slice none 0 0] 29;replace HBf:=kBV hbr.out HBf;replace HBd:=kBV hbr.out HBd;replace HW:=Lib.hid (HW.out.trans (hbr.out.mono HW.out.size));replace HG:=Lib.hid (HG.out.below hbr.out);have HKR:Hid (w.heap.size<=kr):=Lib.hid (by have h1:=hbf.out.size;have h2:=hbd.out.size;have h3:=hkr.out;omega)
 obtain⟨x4,kp,ep,ekp,hbp,hkp,HBp⟩:=newV x3 #[.int .i64 1,.int .i64 0,.int .i64 2,.int .i64 3,.int .i64 4,.int .i64 5,.int .i64 6,.int .i64 7] 22;replace HBf:=kBV hbp.out HBf;replace HBd:=kBV hbp.out HBd;replace HBr:=kBV hbp.out HBr;replace HW:=Lib.hid (HW.out.trans (hbp.out.mono HW.out.size));replace HG:=Lib.hid (HG.out.below hbp.out);obtain⟨x5,kq,eq,ekq,hbq,hkq,HBq⟩:=newV x4 #[.int .i64 14,.int .i64 12,.int .i64 13,.int .i64 15,.int .i64 16,.int .i64 16,.int .i64 17,.int .i64 18,.int .i64 19,.int .i64 20] 22;replace HBf:=kBV hbq.out HBf;replace HBd:=kBV hbq.out HBd;replace HBr:=kBV hbq.out HBr;replace HBp:=kBV hbq.out HBp;replace HW:=Lib.hid (HW.out.trans (hbq.out.mono HW.out.size));replace HG:=Lib.hid (HG.out.below hbq.out)
 obtain⟨x6,kt,et,ekt,hbt,hkt,HBt⟩:=newV x5 #[.int .i64 8,.int .i64 9,.int .i64 10,.int .i64 11] 22;replace HBf:=kBV hbt.out HBf;replace HBd:=kBV hbt.out HBd;replace HBr:=kBV hbt.out HBr;replace HBp:=kBV hbt.out HBp;replace HBq:=kBV hbt.out HBq;replace HW:=Lib.hid (HW.out.trans (hbt.out.mono HW.out.size));replace HG:=Lib.hid (HG.out.below hbt.out);have hidx:=idx3_2 (some ⟨kp,0,none⟩) (some ⟨kq,0,none⟩) (some ⟨kt,0,none⟩) 8 10 4 8 10 4;have f0:=cell_at (v:=.int .i64 xo) HBf.out 0 rfl;have ff0:=froz_at HBf.out 0;have f1:=cell_at (v:=.bool xb) HBf.out 1 rfl;have ff1:=froz_at HBf.out 1;have f2:=cell_at (v:=.slice xao xl xc) HBf.out 2 rfl;have ff2:=froz_at HBf.out 2;have f3:=cell_at (v:=.string xnm) HBf.out 3 rfl;have ff3:=froz_at HBf.out 3;have f4:=cell_at (v:=.slice xko xkl xkc) HBf.out 4 rfl;have ff4:=froz_at HBf.out 4
 have d0:=cell_at (v:=.int .i64 1) HBd.out 0 rfl;have fd0:=froz_at HBd.out 0
 have hop:x6.cell? ⟨kt,j,none⟩=some (.int .i64 (opAttame_2z j)):=by
  have:j=0\/j=1:=by omega
  rcases this with rfl | rfl<;>exact cell_at HBt.out _ rfl
 obtain⟨op,hopd⟩:∃ op,op=opAttame_2z j:=⟨_,rfl⟩
 rw[<-hopd] at hop;have HOP:=Lib.hid hopd;clear hopd;go_upto_region 7 with fail
 clear f0 ff0 f1 ff1 f2 ff2 f3 ff3 f4 ff4 d0 fd0 hop;clear hidx hjm hK;have HWp:=HW;have HBfp:=HBf;have HBdp:=HBd;have HBrp:=HBr;obtain⟨x7,ko,eo,eko,hbo,hko,HBo⟩:=newV x6 #[.int .i64 op,.bool false,.slice none 0 0,.string ⟨#[]⟩,.slice none 0 0] 29;replace HBf:=kBV hbo.out HBf;replace HBd:=kBV hbo.out HBd;replace HBr:=kBV hbo.out HBr;replace HBp:=kBV hbo.out HBp;replace HBq:=kBV hbo.out HBq;replace HBt:=kBV hbo.out HBt;replace HW:=Lib.hid (HW.out.trans (hbo.out.mono HW.out.size));replace HG:=Lib.hid (HG.out.below hbo.out);rw[eo,eko];have HKO:Hid (w.heap.size<=ko):=Lib.hid (by have:=HWp.out.size;have:=hko.out;omega);go_upto_region 8 with fail
 have HY:=Lib.hid (Below.refl x7.heap.size x7);have HBf0:=HBf;have HBd0:=HBd;have HBr0:=HBr;have HBo0:=HBo;have hlt_f:=lt_of_block HBf.out;have hog:Hid (∀ q,q<0->(fun q=>0) q<x7.heap.size):=Lib.hid (fun q h=>absurd h (Nat.not_lt_zero _));refine R7.region (by kernel_rfl) [[],[0],[0,1],[],[3],[3,4],[],[6],[6,7],[6,7,8],[6,7,8,9],[3,4,5,6,7,8,9,10],[0,1,2,3,4,5,6,7,8,9,10,11],[],[0,1,2,3,4,5,6,7,8,9,10,11,12,13]] [] [] (fun q=>0) 0 14 (by kernel_rfl) (by kernel_rfl) (by rfl) hog.out (fun q q' h h' hn=>absurd hn (by omega)) ?_;refine R7.Chain.det ?_ (by rfl) (fun T xs wr hA=>?_) ?_
 rotate_left 1
 ·have e3:=hA.pre 3 (by kernel_rfl);simp only[gsa,gsc,gsz] at e3;clear hA;refine⟨(by rfl),?_⟩;go_simp<;>(try with_reducible rfl)
 refine R7.Chain.det ?_ (by rfl) (fun T xs wr hA=>?_) ?_
 rotate_left 1
 ·have e36:=hA.tm 0 36 (by rfl) (by rfl);have f36:xs 0=_:=hA.fa 0 (by rfl)
  (try simp (disch:=first | rfl | decide) only [R7.mask_in] at f36)
  rw[f36] at e36;clear f36;clear hA;refine⟨(by rfl),?_⟩;go_simp<;>(try with_reducible rfl)
 refine R7.Chain.det ?_ (by rfl) (fun T xs wr hA=>?_) ?_
 rotate_left 1
 ·have e37:=hA.tm 1 37 (by rfl) (by rfl);have f37:xs 1=_:=hA.fa 1 (by rfl)
  (try simp (disch:=first | rfl | decide) only [R7.mask_in] at f37)
  rw[f37] at e37;clear f37;have hBq:wr.heap[kf]?=_:=(hA.bl _ hlt_f (fun q h=>absurd h (Nat.not_lt_zero _))).trans HBf.out;have q0:=cell_at (v:=.int .i64 xo) hBq 0 rfl;have q1:=cell_at (v:=.bool xb) hBq 1 rfl;have q2:=cell_at (v:=.slice xao xl xc) hBq 2 rfl;have q3:=cell_at (v:=.string xnm) hBq 3 rfl;have q4:=cell_at (v:=.slice xko xkl xkc) hBq 4 rfl;clear hBq;clear hA;refine⟨(by rfl),?_⟩;go_simp<;>(try with_reducible rfl)
 refine R7.Chain.det ?_ (by rfl) (fun T xs wr hA=>?_) ?_
 rotate_left 1
 ·have e3:=hA.pre 3 (by kernel_rfl);simp only[gsa,gsc,gsz] at e3;clear hA;refine⟨(by rfl),?_⟩;go_simp<;>(try with_reducible rfl)
 refine R7.Chain.det ?_ (by rfl) (fun T xs wr hA=>?_) ?_
 rotate_left 1
 ·have e39:=hA.tm 3 39 (by rfl) (by rfl);have f39:xs 3=_:=hA.fa 3 (by rfl)
  (try simp (disch:=first | rfl | decide) only [R7.mask_in] at f39)
  rw[f39] at e39;clear f39;clear hA;refine⟨(by rfl),?_⟩;go_simp<;>(try with_reducible rfl)
 refine R7.Chain.det ?_ (by rfl) (fun T xs wr hA=>?_) ?_
 rotate_left 1
 ·have e40:=hA.tm 4 40 (by rfl) (by rfl);have f40:xs 4=_:=hA.fa 4 (by rfl)
  (try simp (disch:=first | rfl | decide) only [R7.mask_in] at f40)
  rw[f40] at e40;clear f40;have hBq:wr.heap[kf]?=_:=(hA.bl _ hlt_f (fun q h=>absurd h (Nat.not_lt_zero _))).trans HBf.out;have q0:=cell_at (v:=.int .i64 xo) hBq 0 rfl;have q1:=cell_at (v:=.bool xb) hBq 1 rfl;have q2:=cell_at (v:=.slice xao xl xc) hBq 2 rfl;have q3:=cell_at (v:=.string xnm) hBq 3 rfl;have q4:=cell_at (v:=.slice xko xkl xkc) hBq 4 rfl;clear hBq;clear hA;refine⟨(by rfl),?_⟩;go_simp<;>(try with_reducible rfl)
 refine R7.Chain.det ?_ (by rfl) (fun T xs wr hA=>?_) ?_
 rotate_left 1
 ·have e3:=hA.pre 3 (by kernel_rfl);simp only[gsa,gsc,gsz] at e3;clear hA;refine⟨(by rfl),?_⟩;go_simp<;>(try with_reducible rfl)
 refine R7.Chain.det ?_ (by rfl) (fun T xs wr hA=>?_) ?_
 rotate_left 1
 ·have e42:=hA.tm 6 42 (by rfl) (by rfl);have f42:xs 6=_:=hA.fa 6 (by rfl)
  (try simp (disch:=first | rfl | decide) only [R7.mask_in] at f42)
  rw[f42] at e42;clear f42;clear hA;refine⟨(by rfl),?_⟩;go_simp<;>(try with_reducible rfl)
 refine R7.Chain.det ?_ (by rfl) (fun T xs wr hA=>?_) ?_
 rotate_left 1
 ·have e43:=hA.tm 7 43 (by rfl) (by rfl);have f43:xs 7=_:=hA.fa 7 (by rfl)
  (try simp (disch:=first | rfl | decide) only [R7.mask_in] at f43)
  rw[f43] at e43;clear f43;have hBq:wr.heap[kf]?=_:=(hA.bl _ hlt_f (fun q h=>absurd h (Nat.not_lt_zero _))).trans HBf.out;have q0:=cell_at (v:=.int .i64 xo) hBq 0 rfl;have q1:=cell_at (v:=.bool xb) hBq 1 rfl;have q2:=cell_at (v:=.slice xao xl xc) hBq 2 rfl;have q3:=cell_at (v:=.string xnm) hBq 3 rfl;have q4:=cell_at (v:=.slice xko xkl xkc) hBq 4 rfl;clear hBq;clear hA;refine⟨(by rfl),?_⟩;go_simp<;>(try with_reducible rfl)
 refine R7.Chain.det ?_ (by rfl) (fun T xs wr hA=>?_) ?_
 rotate_left 1
 ·have e44:=hA.tm 8 44 (by rfl) (by rfl);have f44:xs 8=_:=hA.fa 8 (by rfl)
  (try simp (disch:=first | rfl | decide) only [R7.mask_in] at f44)
  rw[f44] at e44;clear f44;clear hA;refine⟨(by rfl),?_⟩;go_simp<;>(try with_reducible rfl)
 refine R7.Chain.det ?_ (by rfl) (fun T xs wr hA=>?_) ?_
 rotate_left 1
 ·have e45:=hA.tm 9 45 (by rfl) (by rfl);have f45:xs 9=_:=hA.fa 9 (by rfl)
  (try simp (disch:=first | rfl | decide) only [R7.mask_in] at f45)
  rw[f45] at e45;clear f45;clear hA;refine⟨(by rfl),?_⟩;go_simp<;>(try with_reducible rfl)
 refine R7.Chain.det ?_ (by rfl) (fun T xs wr hA=>?_) ?_
 rotate_left 1
 ·have e41:=hA.tm 5 41 (by rfl) (by rfl);have f41:xs 5=_:=hA.fa 5 (by rfl)
  (try simp (disch:=first | rfl | decide) only [R7.mask_in] at f41)
  rw[f41] at e41;clear f41;have e46:=hA.tm 10 46 (by rfl) (by rfl);have f46:xs 10=_:=hA.fa 10 (by rfl)
  (try simp (disch:=first | rfl | decide) only [R7.mask_in] at f46)
  rw[f46] at e46;clear f46;clear hA;refine⟨(by rfl),?_⟩;go_simp<;>(try with_reducible rfl)
 refine R7.Chain.call (fun xs v w=>∃ z,CI w v z 2) (fun _ _ _ _ h hb=>by obtain⟨z,h2⟩:=h;exact⟨z,h2.below hb⟩) (fun _ _ _ _ _ _ h _=>by obtain⟨q,hq,_⟩:=h;exact absurd hq (Nat.not_lt_zero _)) (by rfl) (fun T xs wr hA=>?_) ?_
 ·have hsw:=(hA.be 0 (Nat.zero_le _) (fun _ _=>Nat.zero_le _)).size;have e38:=hA.tm 2 38 (by rfl) (by rfl);have f38:xs 2=_:=hA.fa 2 (by rfl)
  (try simp (disch:=first | rfl | decide) only [R7.mask_in] at f38)
  rw[f38] at e38;clear f38;have e47:=hA.tm 11 47 (by rfl) (by rfl);have f47:xs 11=_:=hA.fa 11 (by rfl)
  (try simp (disch:=first | rfl | decide) only [R7.mask_in] at f47)
  rw[f47] at e47;clear f47;have hbw:=undrew (hA.be x7.heap.size (Nat.le_refl _) (fun q h=>absurd h (Nat.not_lt_zero q)));clear hA;refine⟨(by rfl),fun K hK=>?_⟩;go_simp
  refine (big_any xb _ q 2 wr (HG.out.below hbw) (by decide)).mono ?_;rintro e w' ⟨v,rfl,hc,hb'⟩;exact hK.out _ _ ⟨_,hc⟩ hb'
 refine R7.Chain.call (fun xs v w=>∃ g,v=.pointer (some ⟨g,0,none⟩)/\x7.heap.size<=g/\w.heap[g]?=some (.cells #[.bool false,.slice none 0 0] 26 (0,0))) (fun _ _ _ _ h hb=>by obtain⟨g,h1,h2,h3⟩:=h;exact⟨g,h1,h2,by rw[hb.block g (lt_of_block h3)];exact h3⟩) (fun _ _ _ _ _ _ h _=>by obtain⟨q,hq,_⟩:=h;exact absurd hq (Nat.not_lt_zero _)) (by rfl) (fun T xs wr hA=>?_) ?_
 ·have hsw:=(hA.be 0 (Nat.zero_le _) (fun _ _=>Nat.zero_le _)).size;have hbw:=undrew (hA.be x7.heap.size (Nat.le_refl _) (fun q h=>absurd h (Nat.not_lt_zero q)));clear hA;refine⟨(by rfl),fun K hK=>?_⟩;go_simp
  exact hK.out _ _ ⟨_,rfl,hbw.size,made_at _ _ _ rfl⟩ ((Below.refl _ _).alloc (Nat.le_refl _) _)
 refine R7.Chain.done (fun xs x8 hL=>?_);obtain⟨⟨hbe,hbl⟩,hf,-,-⟩:=hL;have f0:xs 0=_:=hf 0 (by decide)
 (try simp (disch:=first | rfl | decide) only [R7.mask_in] at f0)
 have f1:xs 1=_:=hf 1 (by decide)
 (try simp (disch:=first | rfl | decide) only [R7.mask_in] at f1)
 have f2:xs 2=_:=hf 2 (by decide)
 (try simp (disch:=first | rfl | decide) only [R7.mask_in] at f2)
 have f3:xs 3=_:=hf 3 (by decide)
 (try simp (disch:=first | rfl | decide) only [R7.mask_in] at f3)
 have f4:xs 4=_:=hf 4 (by decide)
 (try simp (disch:=first | rfl | decide) only [R7.mask_in] at f4)
 have f5:xs 5=_:=hf 5 (by decide)
 (try simp (disch:=first | rfl | decide) only [R7.mask_in] at f5)
 have f6:xs 6=_:=hf 6 (by decide)
 (try simp (disch:=first | rfl | decide) only [R7.mask_in] at f6)
 have f7:xs 7=_:=hf 7 (by decide)
 (try simp (disch:=first | rfl | decide) only [R7.mask_in] at f7)
 have f8:xs 8=_:=hf 8 (by decide)
 (try simp (disch:=first | rfl | decide) only [R7.mask_in] at f8)
 have f9:xs 9=_:=hf 9 (by decide)
 (try simp (disch:=first | rfl | decide) only [R7.mask_in] at f9)
 have f10:xs 10=_:=hf 10 (by decide)
 (try simp (disch:=first | rfl | decide) only [R7.mask_in] at f10)
 have f11:xs 11=_:=hf 11 (by decide)
 (try simp (disch:=first | rfl | decide) only [R7.mask_in] at f11)
 have F12:∃ z,CI x8 (xs 12) z 2:=hf 12 (by decide);have F13:∃ g,(xs 13)=.pointer (some ⟨g,0,none⟩)/\x7.heap.size<=g/\x8.heap[g]?=some (.cells #[.bool false,.slice none 0 0] 26 (0,0)):=hf 13 (by decide);have hb0:Below 0 x7 x8:=undrew (hbe 0 (Nat.zero_le _) (fun _ _=>Nat.zero_le _));have hgr:∀ j,j<x7.heap.size->(∀ q,q<0->(fun q=>0) q≠j)->x8.heap[j]?=x7.heap[j]?:=hbl;clear hbe hbl hf;have hb:Below x7.heap.size x7 x8:=⟨hb0.os,hb0.tape,hb0.output,hb0.size,fun q hq=>hgr q hq (fun q h=>absurd h (Nat.not_lt_zero _))⟩
 refine R7.rest_list (by decide) (by kernel_rfl) ?_;simp only[R7.fill,t1_,t2_,t3_,t4_,t5_,t6_,t7_,f0,f1,f2,f3,f4,f5,f6,f7,f8,f9,f10,f11];clear hb0 hgr hog hlt_f f0 f1 f2 f3 f4 f5 f6 f7 f8 f9 f10 f11;replace HBf:=kBV hb HBf;replace HBd:=kBV hb HBd;replace HBr:=kBV hb HBr;replace HBp:=kBV hb HBp;replace HBq:=kBV hb HBq;replace HBt:=kBV hb HBt;replace HBo:=kBV hb HBo;replace HW:=Lib.hid (HW.out.trans (hb.mono HW.out.size));replace HG:=Lib.hid (HG.out.below hb);replace HY:=Lib.hid (HY.out.trans (hb.mono HY.out.size));replace hb:=Lib.hid hb;obtain⟨z,hcz⟩:=F12;obtain⟨zb,zo,zl,zc,hzv⟩:=hcz.shape;obtain⟨km,hkm,hkm1,hkm2⟩:=F13;rw[hzv] at hcz;rw[hzv,hkm];have HC:=Lib.hid (hcz.mono (k':=600) (by decide));have HCZ:=Lib.hid hcz.lt;have HBm:=Lib.hid hkm2;clear hcz hzv hkm hkm2;have m0:=cell_at (v:=.bool false) HBm.out 0 rfl
 have fm0:=froz_at HBm.out 0;have m1:=cell_at (v:=.slice none 0 0) HBm.out 1 rfl;have fm1:=froz_at HBm.out 1;go_upto_region 9 with fail
 clear m0 fm0 m1 fm1;have hg1:=grown2V (w:=x8) (k:=km) (.bool zb) (.slice zo zl zc);have hb1:((x8.setCell ⟨km,0,none⟩ (.bool zb)).setCell ⟨km,1,none⟩ (.slice zo zl zc)).heap[km]?=_:=heap_setCell_same _ km 1 _ _ _ (heap_setCell_same _ km 0 _ _ _ HBm.out);obtain⟨W1,hW1⟩:∃ q,q=(x8.setCell ⟨km,0,none⟩ (.bool zb)).setCell ⟨km,1,none⟩ (.slice zo zl zc):=⟨_,rfl⟩
 rw[<-hW1] at hg1 hb1 ⊢;have hf1:Fr 26 x8 W1:=.of_grown hg1 (fun j hj=>by injection hj with hj;subst hj;exact⟨_,HBm.out,n32_2⟩);have HKM:Hid (w.heap.size<=km):=Lib.hid (Nat.le_trans (by have:=HKO.out;have:=lt_of_block HBo0.out;omega) hkm1);replace HW:=Lib.hid (ext_below HW.out hg1 HKM.out);replace HY:=Lib.hid (ext_below HY.out hg1 hkm1);replace HC:=Lib.hid (HC.out.fr hf1);replace HBf:=Lib.hid ((HY.out.block _ (lt_of_block HBf0.out)).trans HBf0.out);replace HBd:=Lib.hid ((HY.out.block _ (lt_of_block HBd0.out)).trans HBd0.out);replace HBr:=Lib.hid ((HY.out.block _ (lt_of_block HBr0.out)).trans HBr0.out);replace HBo:=Lib.hid ((HY.out.block _ (lt_of_block HBo0.out)).trans HBo0.out);replace HBm:=Lib.hid hb1;clear hg1 hb1 hW1 hf1 hkm1
 have HLOW:Hid (kf<W1.heap.size/\kd<W1.heap.size/\kr<W1.heap.size/\ko<W1.heap.size):=Lib.hid ⟨lt_of_block HBf.out,lt_of_block HBd.out,lt_of_block HBr.out,lt_of_block HBo.out⟩;have HDIS:Hid (kf≠ko/\kd≠ko/\kr≠ko):=Lib.hid (by have h1:=lt_of_block HBfp.out;have h2:=lt_of_block HBdp.out;have h3:=lt_of_block HBrp.out;rw[eko] at h1 h2 h3;omega);have HB0:Hid (w.heap.size<=W1.heap.size):=Lib.hid HW.out.size;have hjc:j=0\/j=1:=by omega
 rcases hjc with rfl | rfl
 ·have hop2:op=8:=HOP.out;subst hop2;clear HOP;have HSZP:Hid (W1.heap.size<=W1.heap.size):=Lib.hid (Nat.le_refl _);rcases (tmod_cases xnm.size).2 with hr | hr
  ·have o0:=cell_at (v:=.int .i64 8) HBo.out 0 rfl;have fo0:=froz_at HBo.out 0;have o1:=cell_at (v:=.bool false) HBo.out 1 rfl;have fo1:=froz_at HBo.out 1;have o2:=cell_at (v:=.slice none 0 0) HBo.out 2 rfl;have fo2:=froz_at HBo.out 2;have o3:=cell_at (v:=.string ⟨#[]⟩) HBo.out 3 rfl;have fo3:=froz_at HBo.out 3;have o4:=cell_at (v:=.slice none 0 0) HBo.out 4 rfl;have fo4:=froz_at HBo.out 4;have m0:=cell_at (v:=.bool zb) HBm.out 0 rfl;have fm0:=froz_at HBm.out 0;have m1:=cell_at (v:=.slice zo zl zc) HBm.out 1 rfl;have fm1:=froz_at HBm.out 1;have f0:=cell_at (v:=.int .i64 xo) HBf.out 0 rfl;have ff0:=froz_at HBf.out 0;have f1:=cell_at (v:=.bool xb) HBf.out 1 rfl;have ff1:=froz_at HBf.out 1;have f2:=cell_at (v:=.slice xao xl xc) HBf.out 2 rfl;have ff2:=froz_at HBf.out 2;have f3:=cell_at (v:=.string xnm) HBf.out 3 rfl
   have ff3:=froz_at HBf.out 3;have f4:=cell_at (v:=.slice xko xkl xkc) HBf.out 4 rfl;have ff4:=froz_at HBf.out 4;have hcv:=one_byteL 48 48 (by decide) W1;obtain⟨x9,ky,ey,eky,hby,hky,HBy⟩:=newV W1 #[.int .u8 48] 5;replace HBf:=kBV hby.out HBf;replace HBd:=kBV hby.out HBd;replace HBr:=kBV hby.out HBr;replace HBo:=kBV hby.out HBo;replace HBm:=kBV hby.out HBm;replace HW:=Lib.hid (HW.out.trans (hby.out.mono HW.out.size));replace HC:=Lib.hid (HC.out.below hby.out);rw[ey,eky] at hcv;have p0:=cell_at (v:=.int .i64 8) HBo.out 0 rfl;have fp0:=froz_at HBo.out 0;have p1:=cell_at (v:=.bool false) HBo.out 1 rfl;have fp1:=froz_at HBo.out 1;have p2:=cell_at (v:=.slice none 0 0) HBo.out 2 rfl;have fp2:=froz_at HBo.out 2;have p3:=cell_at (v:=.string ⟨#[]⟩) HBo.out 3 rfl;have fp3:=froz_at HBo.out 3
   have p4:=cell_at (v:=.slice none 0 0) HBo.out 4 rfl;have fp4:=froz_at HBo.out 4;replace HSZP:=Lib.hid (Nat.le_trans HSZP.out hby.out.size);go_upto_region 21 with fail
   clear o0 fo0 o1 fo1 o2 fo2 o3 fo3 o4 fo4 m0 fm0 m1 fm1 f0 ff0 f1 ff1 f2 ff2 f3 ff3 f4 ff4 p0 fp0 p1 fp1 p2 fp2 p3 fp3 p4 fp4
   try clear hcv
   try clear hr
   rw[show ((⟨#[108]⟩:ByteArray)++⟨#[48]⟩)=⟨#[108,48]⟩ from rfl];have hgo:x9.grownBy (x9.setCell ⟨ko,3,none⟩ (.string ⟨#[108,48]⟩)) (some ko):=by refine grown_setCell ?_ _;exact World.grownBy.refl _ _
   have hbo:(x9.setCell ⟨ko,3,none⟩ (.string ⟨#[108,48]⟩)).heap[ko]?=_:=(heap_setCell_same _ ko 3 _ _ (.string ⟨#[108,48]⟩) HBo.out)
   obtain⟨W2,hW2⟩:∃ q,q=x9.setCell ⟨ko,3,none⟩ (.string ⟨#[108,48]⟩):=⟨_,rfl⟩
   rw[<-hW2] at hgo hbo ⊢;have hfo:Fr 29 x9 W2:=.of_grown hgo (fun j hj=>by injection hj with hj;subst hj;exact⟨_,HBo.out,n32_F⟩);replace HW:=Lib.hid (ext_below HW.out hgo HKO.out);replace HC:=Lib.hid (HC.out.fr hfo);replace HBf:=Lib.hid ((hgo.block _ (lt_of_block HBf.out) (fun e=>by injection e with e;exact HDIS.out.1 e)).trans HBf.out);replace HBd:=Lib.hid ((hgo.block _ (lt_of_block HBd.out) (fun e=>by injection e with e;exact HDIS.out.2.1 e)).trans HBd.out);replace HBr:=Lib.hid ((hgo.block _ (lt_of_block HBr.out) (fun e=>by injection e with e;exact HDIS.out.2.2 e)).trans HBr.out);have HSZW:Hid (W1.heap.size<=W2.heap.size):=Lib.hid (Nat.le_trans HSZP.out hgo.size);replace HBo:=Lib.hid hbo;clear hgo hbo hW2 hfo HSZP;have HSZP:=HSZW;clear HSZW
   have HT:Hid (TSt w W1.heap.size kf kd kr ko ⟨xo,xb,xao,xl,xc,xnm,xko,xkl,xkc⟩ (1) 8 false none 0 0 (⟨#[108,48]⟩) (0) 0 [] (.slice none 0 0) [] W2):=Lib.hid (TSt.zero HBo.out HBf.out HBd.out HBr.out (nr0 _) HLOW.out HDIS.out HKO.out HW.out HSZP.out);have o0:=cell_at (v:=.int .i64 8) HBo.out 0 rfl;have fo0:=froz_at HBo.out 0;have o1:=cell_at (v:=.bool false) HBo.out 1 rfl;have fo1:=froz_at HBo.out 1;have o2:=cell_at (v:=.slice none 0 0) HBo.out 2 rfl;have fo2:=froz_at HBo.out 2;have o3:=cell_at (v:=.string ⟨#[108,48]⟩) HBo.out 3 rfl;have fo3:=froz_at HBo.out 3;have o4:=cell_at (v:=.slice none 0 0) HBo.out 4 rfl;have fo4:=froz_at HBo.out 4;obtain⟨⟨r0,r1,r2,r3,r4⟩,fr0,fr1,fr2,fr3,fr4⟩:=cells5V HBr.out;go_wp2_with fail
   clear o0 fo0 o1 fo1 o2 fo2 o3 fo3 o4 fo4;have hg:=grown5V (w:=W2) (k:=kr) (.int .i64 8) (.bool false) (.slice none 0 0) (.string ⟨#[108,48]⟩) (.slice none 0 0);have hf:Fr 29 W2 _:=.of_grown hg (fun j hj=>by injection hj with hj;subst hj;exact⟨_,HBr.out,n32_F⟩);obtain⟨h1,h2,h3,h4⟩:=HT.out.fin hg hf (by unfold IR;decide) HB0.out HKR.out (by unfold NmOk;simp) (small4 (by decide)) (fun _ _ _=>rfl) (by simp) (rfl)
   (try simp only[Exit.inBlock,Exit.then])
   exact bodyPost_ret (v:=.agg #[.int .i64 8,.bool false,.slice none 0 0,.string ⟨#[108,48]⟩,.slice none 0 0]) (by simp[results,Tryz.results10,go_sem,r0,r1,r2,r3,r4]) rfl ⟨_,_,rfl,h1,h2,rfl,h3,h4⟩
  have o0:=cell_at (v:=.int .i64 8) HBo.out 0 rfl;have fo0:=froz_at HBo.out 0;have o1:=cell_at (v:=.bool false) HBo.out 1 rfl;have fo1:=froz_at HBo.out 1;have o2:=cell_at (v:=.slice none 0 0) HBo.out 2 rfl;have fo2:=froz_at HBo.out 2;have o3:=cell_at (v:=.string ⟨#[]⟩) HBo.out 3 rfl;have fo3:=froz_at HBo.out 3;have o4:=cell_at (v:=.slice none 0 0) HBo.out 4 rfl;have fo4:=froz_at HBo.out 4;have m0:=cell_at (v:=.bool zb) HBm.out 0 rfl;have fm0:=froz_at HBm.out 0;have m1:=cell_at (v:=.slice zo zl zc) HBm.out 1 rfl;have fm1:=froz_at HBm.out 1;have f0:=cell_at (v:=.int .i64 xo) HBf.out 0 rfl;have ff0:=froz_at HBf.out 0;have f1:=cell_at (v:=.bool xb) HBf.out 1 rfl;have ff1:=froz_at HBf.out 1;have f2:=cell_at (v:=.slice xao xl xc) HBf.out 2 rfl;have ff2:=froz_at HBf.out 2;have f3:=cell_at (v:=.string xnm) HBf.out 3 rfl
  have ff3:=froz_at HBf.out 3;have f4:=cell_at (v:=.slice xko xkl xkc) HBf.out 4 rfl;have ff4:=froz_at HBf.out 4;have hcv:=one_byteL 49 49 (by decide) W1;obtain⟨x9,ky,ey,eky,hby,hky,HBy⟩:=newV W1 #[.int .u8 49] 5;replace HBf:=kBV hby.out HBf;replace HBd:=kBV hby.out HBd;replace HBr:=kBV hby.out HBr;replace HBo:=kBV hby.out HBo;replace HBm:=kBV hby.out HBm;replace HW:=Lib.hid (HW.out.trans (hby.out.mono HW.out.size));replace HC:=Lib.hid (HC.out.below hby.out);rw[ey,eky] at hcv;have p0:=cell_at (v:=.int .i64 8) HBo.out 0 rfl;have fp0:=froz_at HBo.out 0;have p1:=cell_at (v:=.bool false) HBo.out 1 rfl;have fp1:=froz_at HBo.out 1;have p2:=cell_at (v:=.slice none 0 0) HBo.out 2 rfl;have fp2:=froz_at HBo.out 2;have p3:=cell_at (v:=.string ⟨#[]⟩) HBo.out 3 rfl;have fp3:=froz_at HBo.out 3
  have p4:=cell_at (v:=.slice none 0 0) HBo.out 4 rfl;have fp4:=froz_at HBo.out 4;replace HSZP:=Lib.hid (Nat.le_trans HSZP.out hby.out.size);go_upto_region 21 with fail
  clear o0 fo0 o1 fo1 o2 fo2 o3 fo3 o4 fo4 m0 fm0 m1 fm1 f0 ff0 f1 ff1 f2 ff2 f3 ff3 f4 ff4 p0 fp0 p1 fp1 p2 fp2 p3 fp3 p4 fp4
  try clear hcv
  try clear hr
  rw[show ((⟨#[108]⟩:ByteArray)++⟨#[49]⟩)=⟨#[108,49]⟩ from rfl];have hgo:x9.grownBy (x9.setCell ⟨ko,3,none⟩ (.string ⟨#[108,49]⟩)) (some ko):=by refine grown_setCell ?_ _;exact World.grownBy.refl _ _
  have hbo:(x9.setCell ⟨ko,3,none⟩ (.string ⟨#[108,49]⟩)).heap[ko]?=_:=(heap_setCell_same _ ko 3 _ _ (.string ⟨#[108,49]⟩) HBo.out)
  obtain⟨W2,hW2⟩:∃ q,q=x9.setCell ⟨ko,3,none⟩ (.string ⟨#[108,49]⟩):=⟨_,rfl⟩
  rw[<-hW2] at hgo hbo ⊢;have hfo:Fr 29 x9 W2:=.of_grown hgo (fun j hj=>by injection hj with hj;subst hj;exact⟨_,HBo.out,n32_F⟩);replace HW:=Lib.hid (ext_below HW.out hgo HKO.out);replace HC:=Lib.hid (HC.out.fr hfo);replace HBf:=Lib.hid ((hgo.block _ (lt_of_block HBf.out) (fun e=>by injection e with e;exact HDIS.out.1 e)).trans HBf.out);replace HBd:=Lib.hid ((hgo.block _ (lt_of_block HBd.out) (fun e=>by injection e with e;exact HDIS.out.2.1 e)).trans HBd.out);replace HBr:=Lib.hid ((hgo.block _ (lt_of_block HBr.out) (fun e=>by injection e with e;exact HDIS.out.2.2 e)).trans HBr.out);have HSZW:Hid (W1.heap.size<=W2.heap.size):=Lib.hid (Nat.le_trans HSZP.out hgo.size);replace HBo:=Lib.hid hbo;clear hgo hbo hW2 hfo HSZP;have HSZP:=HSZW;clear HSZW
  have HT:Hid (TSt w W1.heap.size kf kd kr ko ⟨xo,xb,xao,xl,xc,xnm,xko,xkl,xkc⟩ (1) 8 false none 0 0 (⟨#[108,49]⟩) (0) 0 [] (.slice none 0 0) [] W2):=Lib.hid (TSt.zero HBo.out HBf.out HBd.out HBr.out (nr0 _) HLOW.out HDIS.out HKO.out HW.out HSZP.out);have o0:=cell_at (v:=.int .i64 8) HBo.out 0 rfl;have fo0:=froz_at HBo.out 0;have o1:=cell_at (v:=.bool false) HBo.out 1 rfl;have fo1:=froz_at HBo.out 1;have o2:=cell_at (v:=.slice none 0 0) HBo.out 2 rfl;have fo2:=froz_at HBo.out 2;have o3:=cell_at (v:=.string ⟨#[108,49]⟩) HBo.out 3 rfl;have fo3:=froz_at HBo.out 3;have o4:=cell_at (v:=.slice none 0 0) HBo.out 4 rfl;have fo4:=froz_at HBo.out 4;obtain⟨⟨r0,r1,r2,r3,r4⟩,fr0,fr1,fr2,fr3,fr4⟩:=cells5V HBr.out;go_wp2_with fail
  clear o0 fo0 o1 fo1 o2 fo2 o3 fo3 o4 fo4;have hg:=grown5V (w:=W2) (k:=kr) (.int .i64 8) (.bool false) (.slice none 0 0) (.string ⟨#[108,49]⟩) (.slice none 0 0);have hf:Fr 29 W2 _:=.of_grown hg (fun j hj=>by injection hj with hj;subst hj;exact⟨_,HBr.out,n32_F⟩);obtain⟨h1,h2,h3,h4⟩:=HT.out.fin hg hf (by unfold IR;decide) HB0.out HKR.out (by unfold NmOk;simp) (small4 (by decide)) (fun _ _ _=>rfl) (by simp) (rfl)
  (try simp only[Exit.inBlock,Exit.then])
  exact bodyPost_ret (v:=.agg #[.int .i64 8,.bool false,.slice none 0 0,.string ⟨#[108,49]⟩,.slice none 0 0]) (by simp[results,Tryz.results10,go_sem,r0,r1,r2,r3,r4]) rfl ⟨_,_,rfl,h1,h2,rfl,h3,h4⟩
 have hop2:op=9:=HOP.out;subst hop2;clear HOP;have HSZP:Hid (W1.heap.size<=W1.heap.size):=Lib.hid (Nat.le_refl _);have HT:Hid (TSt w W1.heap.size kf kd kr ko ⟨xo,xb,xao,xl,xc,xnm,xko,xkl,xkc⟩ (1) 9 false none 0 0 (⟨#[]⟩) (0) 0 [] (.slice none 0 0) [] W1):=Lib.hid (TSt.zero HBo.out HBf.out HBd.out HBr.out (nr0 _) HLOW.out HDIS.out HKO.out HW.out HSZP.out);have o0:=cell_at (v:=.int .i64 9) HBo.out 0 rfl;have fo0:=froz_at HBo.out 0;have o1:=cell_at (v:=.bool false) HBo.out 1 rfl;have fo1:=froz_at HBo.out 1;have o2:=cell_at (v:=.slice none 0 0) HBo.out 2 rfl;have fo2:=froz_at HBo.out 2;have o3:=cell_at (v:=.string ⟨#[]⟩) HBo.out 3 rfl;have fo3:=froz_at HBo.out 3;have o4:=cell_at (v:=.slice none 0 0) HBo.out 4 rfl;have fo4:=froz_at HBo.out 4;obtain⟨⟨r0,r1,r2,r3,r4⟩,fr0,fr1,fr2,fr3,fr4⟩:=cells5V HBr.out;go_wp2_with fail
 clear o0 fo0 o1 fo1 o2 fo2 o3 fo3 o4 fo4;have hg:=grown5V (w:=W1) (k:=kr) (.int .i64 9) (.bool false) (.slice none 0 0) (.string ⟨#[]⟩) (.slice none 0 0);have hf:Fr 29 W1 _:=.of_grown hg (fun j hj=>by injection hj with hj;subst hj;exact⟨_,HBr.out,n32_F⟩);obtain⟨h1,h2,h3,h4⟩:=HT.out.fin hg hf (by unfold IR;decide) HB0.out HKR.out (by unfold NmOk;simp) (small4 (by decide)) (fun _ _ _=>rfl) (by simp) (rfl)
 (try simp only[Exit.inBlock,Exit.then])
 exact bodyPost_ret (v:=.agg #[.int .i64 9,.bool false,.slice none 0 0,.string ⟨#[]⟩,.slice none 0 0]) (by simp[results,Tryz.results10,go_sem,r0,r1,r2,r3,r4]) rfl ⟨_,_,rfl,h1,h2,rfl,h3,h4⟩
def opAttame_0s (j:Nat):Int:=[(1:Int),(0:Int),(2:Int),(3:Int),(4:Int),(5:Int),(6:Int),(7:Int)].getD j 0
theorem tame_0s (d:Nat) (hd0:1<=d) (hd:d<=100) (IT:TameC d) (xo:Int) (xb:Bool) (xao:Option Addr) (xl xc:Nat) (xnm:ByteArray) (xko:Option Addr) (xkl xkc:Nat) (w:World) (hx:RawF w (d+1) ⟨xo,xb,xao,xl,xc,xnm,xko,xkl,xkc⟩) :
  Calls Tryz.prog 10 #[.agg #[.int .i64 xo,.bool xb,.slice xao xl xc,.string xnm,.slice xko xkl xkc],.int .i64 0,.int .i64 ((d:Nat)+1:Int)] w (TamePost (d+1) 0 w):=by
 have HX:=Lib.hid hx;have HIT:=Lib.hid IT;have HD0:=Lib.hid hd0;have HD:=Lib.hid hd;have hdle:decide (((d:Nat)+1:Int)<=1)=false:=by simp;omega
 clear IT hd0 hd;obtain⟨-,hn,-,⟨hk1,hk2⟩,-⟩:=hx;simp only at hn hk1 hk2;have hxm:xkc<=9223372036854775807:=hk2;obtain⟨m,hm⟩:∃ m,m=min xl 2:=⟨_,rfl⟩
 have hmin:min (xl:Int) 2=(m:Int):=by omega
 have hm2:m<=2:=by omega
 have hml:m<=xl:=by omega
 have hx2:∃ q,GN w (.slice xao m xc) q 2/\xl<=xc/\xc<=9223372036854775807:=by
  obtain⟨xs,hs,hdg⟩:=hn;have hl:=sl_len hs;obtain⟨_,_,e,h1,h2,_⟩:=id hs;injection e with e1 e2 e3;subst e3;exact⟨_,⟨xs.take m,hs.take m (by omega),hdg.take m,rfl,by rw[List.length_take];omega⟩,by omega,h2⟩
 obtain⟨q,hq,hlc,hc⟩:=hx2;have hmc:m<=xc:=by omega
 have HG:=Lib.hid hq;clear hq hn hm hk2;obtain⟨K,hK,hK2⟩:=and_255 xo;obtain⟨j,hj⟩:∃ j,j=K % 8:=⟨_,rfl⟩
 have hjm:((K:Nat):Int).tmod 8=((j:Nat):Int):=by rw[hj];exact (Int.ofNat_tmod K 8).symm
 have hjN:j<8:=by rw[hj];exact Nat.mod_lt _ (by decide)
 clear hj hK2;have HW:=Lib.hid (Below.refl w.heap.size w);go_enter Tryz.func10,Tryz.ntmps10
 obtain⟨x1,kf,ef,ekf,hbf,hkf,HBf⟩:=newV w #[.int .i64 xo,.bool xb,.slice xao xl xc,.string xnm,.slice xko xkl xkc] 29;replace HW:=Lib.hid (HW.out.trans (hbf.out.mono HW.out.size));replace HG:=Lib.hid (HG.out.below hbf.out);obtain⟨x2,kd,ed,ekd,hbd,hkd,HBd⟩:=newV x1 #[.int .i64 ((d:Nat)+1:Int)] 3;replace HBf:=kBV hbd.out HBf;replace HW:=Lib.hid (HW.out.trans (hbd.out.mono HW.out.size));replace HG:=Lib.hid (HG.out.below hbd.out);obtain⟨x3,kr,er,ekr,hbr,hkr,HBr⟩:=newV x2 #[.int .i64 0,.bool false,.slice none 0 0,.string ⟨#[]⟩,.slice none 0 0] 29;replace HBf:=kBV hbr.out HBf;replace HBd:=kBV hbr.out HBd;replace HW:=Lib.hid (HW.out.trans (hbr.out.mono HW.out.size));replace HG:=Lib.hid (HG.out.below hbr.out);have HKR:Hid (w.heap.size<=kr):=Lib.hid (by have h1:=hbf.out.size;have h2:=hbd.out.size;have h3:=hkr.out;omega)
 obtain⟨x4,kp,ep,ekp,hbp,hkp,HBp⟩:=newV x3 #[.int .i64 1,.int .i64 0,.int .i64 2,.int .i64 3,.int .i64 4,.int .i64 5,.int .i64 6,.int .i64 7] 22;replace HBf:=kBV hbp.out HBf;replace HBd:=kBV hbp.out HBd;replace HBr:=kBV hbp.out HBr;replace HW:=Lib.hid (HW.out.trans (hbp.out.mono HW.out.size));replace HG:=Lib.hid (HG.out.below hbp.out);obtain⟨x5,kq,eq,ekq,hbq,hkq,HBq⟩:=newV x4 #[.int .i64 14,.int .i64 12,.int .i64 13,.int .i64 15,.int .i64 16,.int .i64 16,.int .i64 17,.int .i64 18,.int .i64 19,.int .i64 20] 22;replace HBf:=kBV hbq.out HBf;replace HBd:=kBV hbq.out HBd;replace HBr:=kBV hbq.out HBr;replace HBp:=kBV hbq.out HBp;replace HW:=Lib.hid (HW.out.trans (hbq.out.mono HW.out.size));replace HG:=Lib.hid (HG.out.below hbq.out)
 obtain⟨x6,kt,et,ekt,hbt,hkt,HBt⟩:=newV x5 #[.int .i64 8,.int .i64 9,.int .i64 10,.int .i64 11] 22;replace HBf:=kBV hbt.out HBf;replace HBd:=kBV hbt.out HBd;replace HBr:=kBV hbt.out HBr;replace HBp:=kBV hbt.out HBp;replace HBq:=kBV hbt.out HBq;replace HW:=Lib.hid (HW.out.trans (hbt.out.mono HW.out.size));replace HG:=Lib.hid (HG.out.below hbt.out);have hidx:=idx3_0 (some ⟨kp,0,none⟩) (some ⟨kq,0,none⟩) (some ⟨kt,0,none⟩) 8 10 4 8 10 4;have f0:=cell_at (v:=.int .i64 xo) HBf.out 0 rfl;have ff0:=froz_at HBf.out 0;have f1:=cell_at (v:=.bool xb) HBf.out 1 rfl;have ff1:=froz_at HBf.out 1;have f2:=cell_at (v:=.slice xao xl xc) HBf.out 2 rfl;have ff2:=froz_at HBf.out 2;have f3:=cell_at (v:=.string xnm) HBf.out 3 rfl;have ff3:=froz_at HBf.out 3;have f4:=cell_at (v:=.slice xko xkl xkc) HBf.out 4 rfl;have ff4:=froz_at HBf.out 4
 have d0:=cell_at (v:=.int .i64 ((d:Nat)+1:Int)) HBd.out 0 rfl;have fd0:=froz_at HBd.out 0
 have hop:x6.cell? ⟨kp,j,none⟩=some (.int .i64 (opAttame_0s j)):=by
  have:j=0\/j=1\/j=2\/j=3\/j=4\/j=5\/j=6\/j=7:=by omega
  rcases this with rfl | rfl | rfl | rfl | rfl | rfl | rfl | rfl<;>exact cell_at HBp.out _ rfl
 obtain⟨op,hopd⟩:∃ op,op=opAttame_0s j:=⟨_,rfl⟩
 rw[<-hopd] at hop;have HOP:=Lib.hid hopd;clear hopd;go_upto_region 7 with fail
 clear f0 ff0 f1 ff1 f2 ff2 f3 ff3 f4 ff4 d0 fd0 hop;clear hidx hjm hK;have HWp:=HW;have HBfp:=HBf;have HBdp:=HBd;have HBrp:=HBr;obtain⟨x7,ko,eo,eko,hbo,hko,HBo⟩:=newV x6 #[.int .i64 op,.bool false,.slice none 0 0,.string ⟨#[]⟩,.slice none 0 0] 29;replace HBf:=kBV hbo.out HBf;replace HBd:=kBV hbo.out HBd;replace HBr:=kBV hbo.out HBr;replace HBp:=kBV hbo.out HBp;replace HBq:=kBV hbo.out HBq;replace HBt:=kBV hbo.out HBt;replace HW:=Lib.hid (HW.out.trans (hbo.out.mono HW.out.size));replace HG:=Lib.hid (HG.out.below hbo.out);rw[eo,eko];have HKO:Hid (w.heap.size<=ko):=Lib.hid (by have:=HWp.out.size;have:=hko.out;omega);go_upto_region 8 with fail
 have HY:=Lib.hid (Below.refl x7.heap.size x7);have HBf0:=HBf;have HBd0:=HBd;have HBr0:=HBr;have HBo0:=HBo;have hlt_f:=lt_of_block HBf.out;have hog:Hid (∀ q,q<0->(fun q=>0) q<x7.heap.size):=Lib.hid (fun q h=>absurd h (Nat.not_lt_zero _));refine R7.region (by kernel_rfl) [[],[0],[0,1],[],[3],[3,4],[],[6],[6,7],[6,7,8],[6,7,8,9],[3,4,5,6,7,8,9,10],[0,1,2,3,4,5,6,7,8,9,10,11],[],[0,1,2,3,4,5,6,7,8,9,10,11,12,13]] [] [] (fun q=>0) 0 14 (by kernel_rfl) (by kernel_rfl) (by rfl) hog.out (fun q q' h h' hn=>absurd hn (by omega)) ?_;refine R7.Chain.det ?_ (by rfl) (fun T xs wr hA=>?_) ?_
 rotate_left 1
 ·have e3:=hA.pre 3 (by kernel_rfl);simp only[gsa,gsc,gsz] at e3;clear hA;refine⟨(by rfl),?_⟩;go_simp<;>(try with_reducible rfl)
 refine R7.Chain.det ?_ (by rfl) (fun T xs wr hA=>?_) ?_
 rotate_left 1
 ·have e36:=hA.tm 0 36 (by rfl) (by rfl);have f36:xs 0=_:=hA.fa 0 (by rfl)
  (try simp (disch:=first | rfl | decide) only [R7.mask_in] at f36)
  rw[f36] at e36;clear f36;clear hA;refine⟨(by rfl),?_⟩;go_simp<;>(try with_reducible rfl)
 refine R7.Chain.det ?_ (by rfl) (fun T xs wr hA=>?_) ?_
 rotate_left 1
 ·have e37:=hA.tm 1 37 (by rfl) (by rfl);have f37:xs 1=_:=hA.fa 1 (by rfl)
  (try simp (disch:=first | rfl | decide) only [R7.mask_in] at f37)
  rw[f37] at e37;clear f37;have hBq:wr.heap[kf]?=_:=(hA.bl _ hlt_f (fun q h=>absurd h (Nat.not_lt_zero _))).trans HBf.out;have q0:=cell_at (v:=.int .i64 xo) hBq 0 rfl;have q1:=cell_at (v:=.bool xb) hBq 1 rfl;have q2:=cell_at (v:=.slice xao xl xc) hBq 2 rfl;have q3:=cell_at (v:=.string xnm) hBq 3 rfl;have q4:=cell_at (v:=.slice xko xkl xkc) hBq 4 rfl;clear hBq;clear hA;refine⟨(by rfl),?_⟩;go_simp<;>(try with_reducible rfl)
 refine R7.Chain.det ?_ (by rfl) (fun T xs wr hA=>?_) ?_
 rotate_left 1
 ·have e3:=hA.pre 3 (by kernel_rfl);simp only[gsa,gsc,gsz] at e3;clear hA;refine⟨(by rfl),?_⟩;go_simp<;>(try with_reducible rfl)
 refine R7.Chain.det ?_ (by rfl) (fun T xs wr hA=>?_) ?_
 rotate_left 1
 ·have e39:=hA.tm 3 39 (by rfl) (by rfl);have f39:xs 3=_:=hA.fa 3 (by rfl)
  (try simp (disch:=first | rfl | decide) only [R7.mask_in] at f39)
  rw[f39] at e39;clear f39;clear hA;refine⟨(by rfl),?_⟩;go_simp<;>(try with_reducible rfl)
 refine R7.Chain.det ?_ (by rfl) (fun T xs wr hA=>?_) ?_
 rotate_left 1
 ·have e40:=hA.tm 4 40 (by rfl) (by rfl);have f40:xs 4=_:=hA.fa 4 (by rfl)
  (try simp (disch:=first | rfl | decide) only [R7.mask_in] at f40)
  rw[f40] at e40;clear f40;have hBq:wr.heap[kf]?=_:=(hA.bl _ hlt_f (fun q h=>absurd h (Nat.not_lt_zero _))).trans HBf.out;have q0:=cell_at (v:=.int .i64 xo) hBq 0 rfl;have q1:=cell_at (v:=.bool xb) hBq 1 rfl;have q2:=cell_at (v:=.slice xao xl xc) hBq 2 rfl;have q3:=cell_at (v:=.string xnm) hBq 3 rfl;have q4:=cell_at (v:=.slice xko xkl xkc) hBq 4 rfl;clear hBq;clear hA;refine⟨(by rfl),?_⟩;go_simp<;>(try with_reducible rfl)
 refine R7.Chain.det ?_ (by rfl) (fun T xs wr hA=>?_) ?_
 rotate_left 1
 ·have e3:=hA.pre 3 (by kernel_rfl);simp only[gsa,gsc,gsz] at e3;clear hA;refine⟨(by rfl),?_⟩;go_simp<;>(try with_reducible rfl)
 refine R7.Chain.det ?_ (by rfl) (fun T xs wr hA=>?_) ?_
 rotate_left 1
 ·have e42:=hA.tm 6 42 (by rfl) (by rfl);have f42:xs 6=_:=hA.fa 6 (by rfl)
  (try simp (disch:=first | rfl | decide) only [R7.mask_in] at f42)
  rw[f42] at e42;clear f42;clear hA;refine⟨(by rfl),?_⟩;go_simp<;>(try with_reducible rfl)
 refine R7.Chain.det ?_ (by rfl) (fun T xs wr hA=>?_) ?_
 rotate_left 1
 ·have e43:=hA.tm 7 43 (by rfl) (by rfl);have f43:xs 7=_:=hA.fa 7 (by rfl)
  (try simp (disch:=first | rfl | decide) only [R7.mask_in] at f43)
  rw[f43] at e43;clear f43;have hBq:wr.heap[kf]?=_:=(hA.bl _ hlt_f (fun q h=>absurd h (Nat.not_lt_zero _))).trans HBf.out;have q0:=cell_at (v:=.int .i64 xo) hBq 0 rfl;have q1:=cell_at (v:=.bool xb) hBq 1 rfl;have q2:=cell_at (v:=.slice xao xl xc) hBq 2 rfl;have q3:=cell_at (v:=.string xnm) hBq 3 rfl;have q4:=cell_at (v:=.slice xko xkl xkc) hBq 4 rfl;clear hBq;clear hA;refine⟨(by rfl),?_⟩;go_simp<;>(try with_reducible rfl)
 refine R7.Chain.det ?_ (by rfl) (fun T xs wr hA=>?_) ?_
 rotate_left 1
 ·have e44:=hA.tm 8 44 (by rfl) (by rfl);have f44:xs 8=_:=hA.fa 8 (by rfl)
  (try simp (disch:=first | rfl | decide) only [R7.mask_in] at f44)
  rw[f44] at e44;clear f44;clear hA;refine⟨(by rfl),?_⟩;go_simp<;>(try with_reducible rfl)
 refine R7.Chain.det ?_ (by rfl) (fun T xs wr hA=>?_) ?_
 rotate_left 1
 ·have e45:=hA.tm 9 45 (by rfl) (by rfl);have f45:xs 9=_:=hA.fa 9 (by rfl)
  (try simp (disch:=first | rfl | decide) only [R7.mask_in] at f45)
  rw[f45] at e45;clear f45;clear hA;refine⟨(by rfl),?_⟩;go_simp<;>(try with_reducible rfl)
 refine R7.Chain.det ?_ (by rfl) (fun T xs wr hA=>?_) ?_
 rotate_left 1
 ·have e41:=hA.tm 5 41 (by rfl) (by rfl);have f41:xs 5=_:=hA.fa 5 (by rfl)
  (try simp (disch:=first | rfl | decide) only [R7.mask_in] at f41)
  rw[f41] at e41;clear f41;have e46:=hA.tm 10 46 (by rfl) (by rfl);have f46:xs 10=_:=hA.fa 10 (by rfl)
  (try simp (disch:=first | rfl | decide) only [R7.mask_in] at f46)
  rw[f46] at e46;clear f46;clear hA;refine⟨(by rfl),?_⟩;go_simp<;>(try with_reducible rfl)
 refine R7.Chain.call (fun xs v w=>∃ z,CI w v z 2) (fun _ _ _ _ h hb=>by obtain⟨z,h2⟩:=h;exact⟨z,h2.below hb⟩) (fun _ _ _ _ _ _ h _=>by obtain⟨q,hq,_⟩:=h;exact absurd hq (Nat.not_lt_zero _)) (by rfl) (fun T xs wr hA=>?_) ?_
 ·have hsw:=(hA.be 0 (Nat.zero_le _) (fun _ _=>Nat.zero_le _)).size;have e38:=hA.tm 2 38 (by rfl) (by rfl);have f38:xs 2=_:=hA.fa 2 (by rfl)
  (try simp (disch:=first | rfl | decide) only [R7.mask_in] at f38)
  rw[f38] at e38;clear f38;have e47:=hA.tm 11 47 (by rfl) (by rfl);have f47:xs 11=_:=hA.fa 11 (by rfl)
  (try simp (disch:=first | rfl | decide) only [R7.mask_in] at f47)
  rw[f47] at e47;clear f47;have hbw:=undrew (hA.be x7.heap.size (Nat.le_refl _) (fun q h=>absurd h (Nat.not_lt_zero q)));clear hA;refine⟨(by rfl),fun K hK=>?_⟩;go_simp
  refine (big_any xb _ q 2 wr (HG.out.below hbw) (by decide)).mono ?_;rintro e w' ⟨v,rfl,hc,hb'⟩;exact hK.out _ _ ⟨_,hc⟩ hb'
 refine R7.Chain.call (fun xs v w=>∃ g,v=.pointer (some ⟨g,0,none⟩)/\x7.heap.size<=g/\w.heap[g]?=some (.cells #[.bool false,.slice none 0 0] 26 (0,0))) (fun _ _ _ _ h hb=>by obtain⟨g,h1,h2,h3⟩:=h;exact⟨g,h1,h2,by rw[hb.block g (lt_of_block h3)];exact h3⟩) (fun _ _ _ _ _ _ h _=>by obtain⟨q,hq,_⟩:=h;exact absurd hq (Nat.not_lt_zero _)) (by rfl) (fun T xs wr hA=>?_) ?_
 ·have hsw:=(hA.be 0 (Nat.zero_le _) (fun _ _=>Nat.zero_le _)).size;have hbw:=undrew (hA.be x7.heap.size (Nat.le_refl _) (fun q h=>absurd h (Nat.not_lt_zero q)));clear hA;refine⟨(by rfl),fun K hK=>?_⟩;go_simp
  exact hK.out _ _ ⟨_,rfl,hbw.size,made_at _ _ _ rfl⟩ ((Below.refl _ _).alloc (Nat.le_refl _) _)
 refine R7.Chain.done (fun xs x8 hL=>?_);obtain⟨⟨hbe,hbl⟩,hf,-,-⟩:=hL;have f0:xs 0=_:=hf 0 (by decide)
 (try simp (disch:=first | rfl | decide) only [R7.mask_in] at f0)
 have f1:xs 1=_:=hf 1 (by decide)
 (try simp (disch:=first | rfl | decide) only [R7.mask_in] at f1)
 have f2:xs 2=_:=hf 2 (by decide)
 (try simp (disch:=first | rfl | decide) only [R7.mask_in] at f2)
 have f3:xs 3=_:=hf 3 (by decide)
 (try simp (disch:=first | rfl | decide) only [R7.mask_in] at f3)
 have f4:xs 4=_:=hf 4 (by decide)
 (try simp (disch:=first | rfl | decide) only [R7.mask_in] at f4)
 have f5:xs 5=_:=hf 5 (by decide)
 (try simp (disch:=first | rfl | decide) only [R7.mask_in] at f5)
 have f6:xs 6=_:=hf 6 (by decide)
 (try simp (disch:=first | rfl | decide) only [R7.mask_in] at f6)
 have f7:xs 7=_:=hf 7 (by decide)
 (try simp (disch:=first | rfl | decide) only [R7.mask_in] at f7)
 have f8:xs 8=_:=hf 8 (by decide)
 (try simp (disch:=first | rfl | decide) only [R7.mask_in] at f8)
 have f9:xs 9=_:=hf 9 (by decide)
 (try simp (disch:=first | rfl | decide) only [R7.mask_in] at f9)
 have f10:xs 10=_:=hf 10 (by decide)
 (try simp (disch:=first | rfl | decide) only [R7.mask_in] at f10)
 have f11:xs 11=_:=hf 11 (by decide)
 (try simp (disch:=first | rfl | decide) only [R7.mask_in] at f11)
 have F12:∃ z,CI x8 (xs 12) z 2:=hf 12 (by decide);have F13:∃ g,(xs 13)=.pointer (some ⟨g,0,none⟩)/\x7.heap.size<=g/\x8.heap[g]?=some (.cells #[.bool false,.slice none 0 0] 26 (0,0)):=hf 13 (by decide);have hb0:Below 0 x7 x8:=undrew (hbe 0 (Nat.zero_le _) (fun _ _=>Nat.zero_le _));have hgr:∀ j,j<x7.heap.size->(∀ q,q<0->(fun q=>0) q≠j)->x8.heap[j]?=x7.heap[j]?:=hbl;clear hbe hbl hf;have hb:Below x7.heap.size x7 x8:=⟨hb0.os,hb0.tape,hb0.output,hb0.size,fun q hq=>hgr q hq (fun q h=>absurd h (Nat.not_lt_zero _))⟩
 refine R7.rest_list (by decide) (by kernel_rfl) ?_;simp only[R7.fill,t1_,t2_,t3_,t4_,t5_,t6_,t7_,f0,f1,f2,f3,f4,f5,f6,f7,f8,f9,f10,f11];clear hb0 hgr hog hlt_f f0 f1 f2 f3 f4 f5 f6 f7 f8 f9 f10 f11;replace HBf:=kBV hb HBf;replace HBd:=kBV hb HBd;replace HBr:=kBV hb HBr;replace HBp:=kBV hb HBp;replace HBq:=kBV hb HBq;replace HBt:=kBV hb HBt;replace HBo:=kBV hb HBo;replace HW:=Lib.hid (HW.out.trans (hb.mono HW.out.size));replace HG:=Lib.hid (HG.out.below hb);replace HY:=Lib.hid (HY.out.trans (hb.mono HY.out.size));replace hb:=Lib.hid hb;obtain⟨z,hcz⟩:=F12;obtain⟨zb,zo,zl,zc,hzv⟩:=hcz.shape;obtain⟨km,hkm,hkm1,hkm2⟩:=F13;rw[hzv] at hcz;rw[hzv,hkm];have HC:=Lib.hid (hcz.mono (k':=600) (by decide));have HCZ:=Lib.hid hcz.lt;have HBm:=Lib.hid hkm2;clear hcz hzv hkm hkm2;have m0:=cell_at (v:=.bool false) HBm.out 0 rfl
 have fm0:=froz_at HBm.out 0;have m1:=cell_at (v:=.slice none 0 0) HBm.out 1 rfl;have fm1:=froz_at HBm.out 1;go_upto_region 9 with fail
 clear m0 fm0 m1 fm1;have hg1:=grown2V (w:=x8) (k:=km) (.bool zb) (.slice zo zl zc);have hb1:((x8.setCell ⟨km,0,none⟩ (.bool zb)).setCell ⟨km,1,none⟩ (.slice zo zl zc)).heap[km]?=_:=heap_setCell_same _ km 1 _ _ _ (heap_setCell_same _ km 0 _ _ _ HBm.out);obtain⟨W1,hW1⟩:∃ q,q=(x8.setCell ⟨km,0,none⟩ (.bool zb)).setCell ⟨km,1,none⟩ (.slice zo zl zc):=⟨_,rfl⟩
 rw[<-hW1] at hg1 hb1 ⊢;have hf1:Fr 26 x8 W1:=.of_grown hg1 (fun j hj=>by injection hj with hj;subst hj;exact⟨_,HBm.out,n32_2⟩);have HKM:Hid (w.heap.size<=km):=Lib.hid (Nat.le_trans (by have:=HKO.out;have:=lt_of_block HBo0.out;omega) hkm1);replace HW:=Lib.hid (ext_below HW.out hg1 HKM.out);replace HY:=Lib.hid (ext_below HY.out hg1 hkm1);replace HC:=Lib.hid (HC.out.fr hf1);replace HBf:=Lib.hid ((HY.out.block _ (lt_of_block HBf0.out)).trans HBf0.out);replace HBd:=Lib.hid ((HY.out.block _ (lt_of_block HBd0.out)).trans HBd0.out);replace HBr:=Lib.hid ((HY.out.block _ (lt_of_block HBr0.out)).trans HBr0.out);replace HBo:=Lib.hid ((HY.out.block _ (lt_of_block HBo0.out)).trans HBo0.out);replace HBm:=Lib.hid hb1;clear hg1 hb1 hW1 hf1 hkm1
 have HLOW:Hid (kf<W1.heap.size/\kd<W1.heap.size/\kr<W1.heap.size/\ko<W1.heap.size):=Lib.hid ⟨lt_of_block HBf.out,lt_of_block HBd.out,lt_of_block HBr.out,lt_of_block HBo.out⟩;have HDIS:Hid (kf≠ko/\kd≠ko/\kr≠ko):=Lib.hid (by have h1:=lt_of_block HBfp.out;have h2:=lt_of_block HBdp.out;have h3:=lt_of_block HBrp.out;rw[eko] at h1 h2 h3;omega);have HB0:Hid (w.heap.size<=W1.heap.size):=Lib.hid HW.out.size;have hjc:j=0\/j=1\/j=2\/j=3\/j=4\/j=5\/j=6\/j=7:=by omega
 rcases hjc with rfl | rfl | rfl | rfl | rfl | rfl | rfl | rfl
 ·have hop2:op=1:=HOP.out;subst hop2;clear HOP;have HSZP:Hid (W1.heap.size<=W1.heap.size):=Lib.hid (Nat.le_refl _);rcases (tmod_cases xnm.size).1 with hr | hr | hr
  ·have o0:=cell_at (v:=.int .i64 1) HBo.out 0 rfl;have fo0:=froz_at HBo.out 0;have o1:=cell_at (v:=.bool false) HBo.out 1 rfl;have fo1:=froz_at HBo.out 1;have o2:=cell_at (v:=.slice none 0 0) HBo.out 2 rfl;have fo2:=froz_at HBo.out 2;have o3:=cell_at (v:=.string ⟨#[]⟩) HBo.out 3 rfl;have fo3:=froz_at HBo.out 3;have o4:=cell_at (v:=.slice none 0 0) HBo.out 4 rfl;have fo4:=froz_at HBo.out 4;have m0:=cell_at (v:=.bool zb) HBm.out 0 rfl;have fm0:=froz_at HBm.out 0;have m1:=cell_at (v:=.slice zo zl zc) HBm.out 1 rfl;have fm1:=froz_at HBm.out 1;have f0:=cell_at (v:=.int .i64 xo) HBf.out 0 rfl;have ff0:=froz_at HBf.out 0;have f1:=cell_at (v:=.bool xb) HBf.out 1 rfl;have ff1:=froz_at HBf.out 1;have f2:=cell_at (v:=.slice xao xl xc) HBf.out 2 rfl;have ff2:=froz_at HBf.out 2;have f3:=cell_at (v:=.string xnm) HBf.out 3 rfl
   have ff3:=froz_at HBf.out 3;have f4:=cell_at (v:=.slice xko xkl xkc) HBf.out 4 rfl;have ff4:=froz_at HBf.out 4;have hcv:=one_byteL 48 48 (by decide) W1;obtain⟨x9,ky,ey,eky,hby,hky,HBy⟩:=newV W1 #[.int .u8 48] 5;replace HBf:=kBV hby.out HBf;replace HBd:=kBV hby.out HBd;replace HBr:=kBV hby.out HBr;replace HBo:=kBV hby.out HBo;replace HBm:=kBV hby.out HBm;replace HW:=Lib.hid (HW.out.trans (hby.out.mono HW.out.size));replace HC:=Lib.hid (HC.out.below hby.out);rw[ey,eky] at hcv;have p0:=cell_at (v:=.int .i64 1) HBo.out 0 rfl;have fp0:=froz_at HBo.out 0;have p1:=cell_at (v:=.bool false) HBo.out 1 rfl;have fp1:=froz_at HBo.out 1;have p2:=cell_at (v:=.slice none 0 0) HBo.out 2 rfl;have fp2:=froz_at HBo.out 2;have p3:=cell_at (v:=.string ⟨#[]⟩) HBo.out 3 rfl;have fp3:=froz_at HBo.out 3
   have p4:=cell_at (v:=.slice none 0 0) HBo.out 4 rfl;have fp4:=froz_at HBo.out 4;replace HSZP:=Lib.hid (Nat.le_trans HSZP.out hby.out.size);go_upto_region 21 with fail
   clear o0 fo0 o1 fo1 o2 fo2 o3 fo3 o4 fo4 m0 fm0 m1 fm1 f0 ff0 f1 ff1 f2 ff2 f3 ff3 f4 ff4 p0 fp0 p1 fp1 p2 fp2 p3 fp3 p4 fp4
   try clear hcv
   try clear hr
   rw[show ((⟨#[105]⟩:ByteArray)++⟨#[48]⟩)=⟨#[105,48]⟩ from rfl];have hgo:x9.grownBy (x9.setCell ⟨ko,3,none⟩ (.string ⟨#[105,48]⟩)) (some ko):=by refine grown_setCell ?_ _;exact World.grownBy.refl _ _
   have hbo:(x9.setCell ⟨ko,3,none⟩ (.string ⟨#[105,48]⟩)).heap[ko]?=_:=(heap_setCell_same _ ko 3 _ _ (.string ⟨#[105,48]⟩) HBo.out)
   obtain⟨W2,hW2⟩:∃ q,q=x9.setCell ⟨ko,3,none⟩ (.string ⟨#[105,48]⟩):=⟨_,rfl⟩
   rw[<-hW2] at hgo hbo ⊢;have hfo:Fr 29 x9 W2:=.of_grown hgo (fun j hj=>by injection hj with hj;subst hj;exact⟨_,HBo.out,n32_F⟩);replace HW:=Lib.hid (ext_below HW.out hgo HKO.out);replace HC:=Lib.hid (HC.out.fr hfo);replace HBf:=Lib.hid ((hgo.block _ (lt_of_block HBf.out) (fun e=>by injection e with e;exact HDIS.out.1 e)).trans HBf.out);replace HBd:=Lib.hid ((hgo.block _ (lt_of_block HBd.out) (fun e=>by injection e with e;exact HDIS.out.2.1 e)).trans HBd.out);replace HBr:=Lib.hid ((hgo.block _ (lt_of_block HBr.out) (fun e=>by injection e with e;exact HDIS.out.2.2 e)).trans HBr.out);have HSZW:Hid (W1.heap.size<=W2.heap.size):=Lib.hid (Nat.le_trans HSZP.out hgo.size);replace HBo:=Lib.hid hbo;clear hgo hbo hW2 hfo HSZP;have HSZP:=HSZW;clear HSZW
   have HT:Hid (TSt w W1.heap.size kf kd kr ko ⟨xo,xb,xao,xl,xc,xnm,xko,xkl,xkc⟩ ((d:Nat)+1) 1 false none 0 0 (⟨#[105,48]⟩) (0) d [] (.slice none 0 0) [] W2):=Lib.hid (TSt.zero HBo.out HBf.out HBd.out HBr.out (nr0 _) HLOW.out HDIS.out HKO.out HW.out HSZP.out);have o0:=cell_at (v:=.int .i64 1) HBo.out 0 rfl;have fo0:=froz_at HBo.out 0;have o1:=cell_at (v:=.bool false) HBo.out 1 rfl;have fo1:=froz_at HBo.out 1;have o2:=cell_at (v:=.slice none 0 0) HBo.out 2 rfl;have fo2:=froz_at HBo.out 2;have o3:=cell_at (v:=.string ⟨#[105,48]⟩) HBo.out 3 rfl;have fo3:=froz_at HBo.out 3;have o4:=cell_at (v:=.slice none 0 0) HBo.out 4 rfl;have fo4:=froz_at HBo.out 4;obtain⟨⟨r0,r1,r2,r3,r4⟩,fr0,fr1,fr2,fr3,fr4⟩:=cells5V HBr.out;go_wp2_with fail
   clear o0 fo0 o1 fo1 o2 fo2 o3 fo3 o4 fo4;have hg:=grown5V (w:=W2) (k:=kr) (.int .i64 1) (.bool false) (.slice none 0 0) (.string ⟨#[105,48]⟩) (.slice none 0 0);have hf:Fr 29 W2 _:=.of_grown hg (fun j hj=>by injection hj with hj;subst hj;exact⟨_,HBr.out,n32_F⟩);obtain⟨h1,h2,h3,h4⟩:=HT.out.fin hg hf (by unfold IR;decide) HB0.out HKR.out (by unfold NmOk;simp) (small4 (by decide)) (fun _ _ _=>rfl) (by simp) (rfl)
   (try simp only[Exit.inBlock,Exit.then])
   exact bodyPost_ret (v:=.agg #[.int .i64 1,.bool false,.slice none 0 0,.string ⟨#[105,48]⟩,.slice none 0 0]) (by simp[results,Tryz.results10,go_sem,r0,r1,r2,r3,r4]) rfl ⟨_,_,rfl,h1,h2,rfl,h3,h4⟩
  ·have o0:=cell_at (v:=.int .i64 1) HBo.out 0 rfl;have fo0:=froz_at HBo.out 0;have o1:=cell_at (v:=.bool false) HBo.out 1 rfl;have fo1:=froz_at HBo.out 1;have o2:=cell_at (v:=.slice none 0 0) HBo.out 2 rfl;have fo2:=froz_at HBo.out 2;have o3:=cell_at (v:=.string ⟨#[]⟩) HBo.out 3 rfl;have fo3:=froz_at HBo.out 3;have o4:=cell_at (v:=.slice none 0 0) HBo.out 4 rfl;have fo4:=froz_at HBo.out 4;have m0:=cell_at (v:=.bool zb) HBm.out 0 rfl;have fm0:=froz_at HBm.out 0;have m1:=cell_at (v:=.slice zo zl zc) HBm.out 1 rfl;have fm1:=froz_at HBm.out 1;have f0:=cell_at (v:=.int .i64 xo) HBf.out 0 rfl;have ff0:=froz_at HBf.out 0;have f1:=cell_at (v:=.bool xb) HBf.out 1 rfl;have ff1:=froz_at HBf.out 1;have f2:=cell_at (v:=.slice xao xl xc) HBf.out 2 rfl;have ff2:=froz_at HBf.out 2;have f3:=cell_at (v:=.string xnm) HBf.out 3 rfl
   have ff3:=froz_at HBf.out 3;have f4:=cell_at (v:=.slice xko xkl xkc) HBf.out 4 rfl;have ff4:=froz_at HBf.out 4;have hcv:=one_byteL 49 49 (by decide) W1;obtain⟨x9,ky,ey,eky,hby,hky,HBy⟩:=newV W1 #[.int .u8 49] 5;replace HBf:=kBV hby.out HBf;replace HBd:=kBV hby.out HBd;replace HBr:=kBV hby.out HBr;replace HBo:=kBV hby.out HBo;replace HBm:=kBV hby.out HBm;replace HW:=Lib.hid (HW.out.trans (hby.out.mono HW.out.size));replace HC:=Lib.hid (HC.out.below hby.out);rw[ey,eky] at hcv;have p0:=cell_at (v:=.int .i64 1) HBo.out 0 rfl;have fp0:=froz_at HBo.out 0;have p1:=cell_at (v:=.bool false) HBo.out 1 rfl;have fp1:=froz_at HBo.out 1;have p2:=cell_at (v:=.slice none 0 0) HBo.out 2 rfl;have fp2:=froz_at HBo.out 2;have p3:=cell_at (v:=.string ⟨#[]⟩) HBo.out 3 rfl;have fp3:=froz_at HBo.out 3
   have p4:=cell_at (v:=.slice none 0 0) HBo.out 4 rfl;have fp4:=froz_at HBo.out 4;replace HSZP:=Lib.hid (Nat.le_trans HSZP.out hby.out.size);go_upto_region 21 with fail
   clear o0 fo0 o1 fo1 o2 fo2 o3 fo3 o4 fo4 m0 fm0 m1 fm1 f0 ff0 f1 ff1 f2 ff2 f3 ff3 f4 ff4 p0 fp0 p1 fp1 p2 fp2 p3 fp3 p4 fp4
   try clear hcv
   try clear hr
   rw[show ((⟨#[105]⟩:ByteArray)++⟨#[49]⟩)=⟨#[105,49]⟩ from rfl];have hgo:x9.grownBy (x9.setCell ⟨ko,3,none⟩ (.string ⟨#[105,49]⟩)) (some ko):=by refine grown_setCell ?_ _;exact World.grownBy.refl _ _
   have hbo:(x9.setCell ⟨ko,3,none⟩ (.string ⟨#[105,49]⟩)).heap[ko]?=_:=(heap_setCell_same _ ko 3 _ _ (.string ⟨#[105,49]⟩) HBo.out)
   obtain⟨W2,hW2⟩:∃ q,q=x9.setCell ⟨ko,3,none⟩ (.string ⟨#[105,49]⟩):=⟨_,rfl⟩
   rw[<-hW2] at hgo hbo ⊢;have hfo:Fr 29 x9 W2:=.of_grown hgo (fun j hj=>by injection hj with hj;subst hj;exact⟨_,HBo.out,n32_F⟩);replace HW:=Lib.hid (ext_below HW.out hgo HKO.out);replace HC:=Lib.hid (HC.out.fr hfo);replace HBf:=Lib.hid ((hgo.block _ (lt_of_block HBf.out) (fun e=>by injection e with e;exact HDIS.out.1 e)).trans HBf.out);replace HBd:=Lib.hid ((hgo.block _ (lt_of_block HBd.out) (fun e=>by injection e with e;exact HDIS.out.2.1 e)).trans HBd.out);replace HBr:=Lib.hid ((hgo.block _ (lt_of_block HBr.out) (fun e=>by injection e with e;exact HDIS.out.2.2 e)).trans HBr.out);have HSZW:Hid (W1.heap.size<=W2.heap.size):=Lib.hid (Nat.le_trans HSZP.out hgo.size);replace HBo:=Lib.hid hbo;clear hgo hbo hW2 hfo HSZP;have HSZP:=HSZW;clear HSZW
   have HT:Hid (TSt w W1.heap.size kf kd kr ko ⟨xo,xb,xao,xl,xc,xnm,xko,xkl,xkc⟩ ((d:Nat)+1) 1 false none 0 0 (⟨#[105,49]⟩) (0) d [] (.slice none 0 0) [] W2):=Lib.hid (TSt.zero HBo.out HBf.out HBd.out HBr.out (nr0 _) HLOW.out HDIS.out HKO.out HW.out HSZP.out);have o0:=cell_at (v:=.int .i64 1) HBo.out 0 rfl;have fo0:=froz_at HBo.out 0;have o1:=cell_at (v:=.bool false) HBo.out 1 rfl;have fo1:=froz_at HBo.out 1;have o2:=cell_at (v:=.slice none 0 0) HBo.out 2 rfl;have fo2:=froz_at HBo.out 2;have o3:=cell_at (v:=.string ⟨#[105,49]⟩) HBo.out 3 rfl;have fo3:=froz_at HBo.out 3;have o4:=cell_at (v:=.slice none 0 0) HBo.out 4 rfl;have fo4:=froz_at HBo.out 4;obtain⟨⟨r0,r1,r2,r3,r4⟩,fr0,fr1,fr2,fr3,fr4⟩:=cells5V HBr.out;go_wp2_with fail
   clear o0 fo0 o1 fo1 o2 fo2 o3 fo3 o4 fo4;have hg:=grown5V (w:=W2) (k:=kr) (.int .i64 1) (.bool false) (.slice none 0 0) (.string ⟨#[105,49]⟩) (.slice none 0 0);have hf:Fr 29 W2 _:=.of_grown hg (fun j hj=>by injection hj with hj;subst hj;exact⟨_,HBr.out,n32_F⟩);obtain⟨h1,h2,h3,h4⟩:=HT.out.fin hg hf (by unfold IR;decide) HB0.out HKR.out (by unfold NmOk;simp) (small4 (by decide)) (fun _ _ _=>rfl) (by simp) (rfl)
   (try simp only[Exit.inBlock,Exit.then])
   exact bodyPost_ret (v:=.agg #[.int .i64 1,.bool false,.slice none 0 0,.string ⟨#[105,49]⟩,.slice none 0 0]) (by simp[results,Tryz.results10,go_sem,r0,r1,r2,r3,r4]) rfl ⟨_,_,rfl,h1,h2,rfl,h3,h4⟩
  have o0:=cell_at (v:=.int .i64 1) HBo.out 0 rfl;have fo0:=froz_at HBo.out 0;have o1:=cell_at (v:=.bool false) HBo.out 1 rfl;have fo1:=froz_at HBo.out 1;have o2:=cell_at (v:=.slice none 0 0) HBo.out 2 rfl;have fo2:=froz_at HBo.out 2;have o3:=cell_at (v:=.string ⟨#[]⟩) HBo.out 3 rfl;have fo3:=froz_at HBo.out 3;have o4:=cell_at (v:=.slice none 0 0) HBo.out 4 rfl;have fo4:=froz_at HBo.out 4;have m0:=cell_at (v:=.bool zb) HBm.out 0 rfl;have fm0:=froz_at HBm.out 0;have m1:=cell_at (v:=.slice zo zl zc) HBm.out 1 rfl;have fm1:=froz_at HBm.out 1;have f0:=cell_at (v:=.int .i64 xo) HBf.out 0 rfl;have ff0:=froz_at HBf.out 0;have f1:=cell_at (v:=.bool xb) HBf.out 1 rfl;have ff1:=froz_at HBf.out 1;have f2:=cell_at (v:=.slice xao xl xc) HBf.out 2 rfl;have ff2:=froz_at HBf.out 2;have f3:=cell_at (v:=.string xnm) HBf.out 3 rfl
  have ff3:=froz_at HBf.out 3;have f4:=cell_at (v:=.slice xko xkl xkc) HBf.out 4 rfl;have ff4:=froz_at HBf.out 4;have hcv:=one_byteL 50 50 (by decide) W1;obtain⟨x9,ky,ey,eky,hby,hky,HBy⟩:=newV W1 #[.int .u8 50] 5;replace HBf:=kBV hby.out HBf;replace HBd:=kBV hby.out HBd;replace HBr:=kBV hby.out HBr;replace HBo:=kBV hby.out HBo;replace HBm:=kBV hby.out HBm;replace HW:=Lib.hid (HW.out.trans (hby.out.mono HW.out.size));replace HC:=Lib.hid (HC.out.below hby.out);rw[ey,eky] at hcv;have p0:=cell_at (v:=.int .i64 1) HBo.out 0 rfl;have fp0:=froz_at HBo.out 0;have p1:=cell_at (v:=.bool false) HBo.out 1 rfl;have fp1:=froz_at HBo.out 1;have p2:=cell_at (v:=.slice none 0 0) HBo.out 2 rfl;have fp2:=froz_at HBo.out 2;have p3:=cell_at (v:=.string ⟨#[]⟩) HBo.out 3 rfl;have fp3:=froz_at HBo.out 3
  have p4:=cell_at (v:=.slice none 0 0) HBo.out 4 rfl;have fp4:=froz_at HBo.out 4;replace HSZP:=Lib.hid (Nat.le_trans HSZP.out hby.out.size);go_upto_region 21 with fail
  clear o0 fo0 o1 fo1 o2 fo2 o3 fo3 o4 fo4 m0 fm0 m1 fm1 f0 ff0 f1 ff1 f2 ff2 f3 ff3 f4 ff4 p0 fp0 p1 fp1 p2 fp2 p3 fp3 p4 fp4
  try clear hcv
  try clear hr
  rw[show ((⟨#[105]⟩:ByteArray)++⟨#[50]⟩)=⟨#[105,50]⟩ from rfl];have hgo:x9.grownBy (x9.setCell ⟨ko,3,none⟩ (.string ⟨#[105,50]⟩)) (some ko):=by refine grown_setCell ?_ _;exact World.grownBy.refl _ _
  have hbo:(x9.setCell ⟨ko,3,none⟩ (.string ⟨#[105,50]⟩)).heap[ko]?=_:=(heap_setCell_same _ ko 3 _ _ (.string ⟨#[105,50]⟩) HBo.out)
  obtain⟨W2,hW2⟩:∃ q,q=x9.setCell ⟨ko,3,none⟩ (.string ⟨#[105,50]⟩):=⟨_,rfl⟩
  rw[<-hW2] at hgo hbo ⊢;have hfo:Fr 29 x9 W2:=.of_grown hgo (fun j hj=>by injection hj with hj;subst hj;exact⟨_,HBo.out,n32_F⟩);replace HW:=Lib.hid (ext_below HW.out hgo HKO.out);replace HC:=Lib.hid (HC.out.fr hfo);replace HBf:=Lib.hid ((hgo.block _ (lt_of_block HBf.out) (fun e=>by injection e with e;exact HDIS.out.1 e)).trans HBf.out);replace HBd:=Lib.hid ((hgo.block _ (lt_of_block HBd.out) (fun e=>by injection e with e;exact HDIS.out.2.1 e)).trans HBd.out);replace HBr:=Lib.hid ((hgo.block _ (lt_of_block HBr.out) (fun e=>by injection e with e;exact HDIS.out.2.2 e)).trans HBr.out);have HSZW:Hid (W1.heap.size<=W2.heap.size):=Lib.hid (Nat.le_trans HSZP.out hgo.size);replace HBo:=Lib.hid hbo;clear hgo hbo hW2 hfo HSZP;have HSZP:=HSZW;clear HSZW
  have HT:Hid (TSt w W1.heap.size kf kd kr ko ⟨xo,xb,xao,xl,xc,xnm,xko,xkl,xkc⟩ ((d:Nat)+1) 1 false none 0 0 (⟨#[105,50]⟩) (0) d [] (.slice none 0 0) [] W2):=Lib.hid (TSt.zero HBo.out HBf.out HBd.out HBr.out (nr0 _) HLOW.out HDIS.out HKO.out HW.out HSZP.out);have o0:=cell_at (v:=.int .i64 1) HBo.out 0 rfl;have fo0:=froz_at HBo.out 0;have o1:=cell_at (v:=.bool false) HBo.out 1 rfl;have fo1:=froz_at HBo.out 1;have o2:=cell_at (v:=.slice none 0 0) HBo.out 2 rfl;have fo2:=froz_at HBo.out 2;have o3:=cell_at (v:=.string ⟨#[105,50]⟩) HBo.out 3 rfl;have fo3:=froz_at HBo.out 3;have o4:=cell_at (v:=.slice none 0 0) HBo.out 4 rfl;have fo4:=froz_at HBo.out 4;obtain⟨⟨r0,r1,r2,r3,r4⟩,fr0,fr1,fr2,fr3,fr4⟩:=cells5V HBr.out;go_wp2_with fail
  clear o0 fo0 o1 fo1 o2 fo2 o3 fo3 o4 fo4;have hg:=grown5V (w:=W2) (k:=kr) (.int .i64 1) (.bool false) (.slice none 0 0) (.string ⟨#[105,50]⟩) (.slice none 0 0);have hf:Fr 29 W2 _:=.of_grown hg (fun j hj=>by injection hj with hj;subst hj;exact⟨_,HBr.out,n32_F⟩);obtain⟨h1,h2,h3,h4⟩:=HT.out.fin hg hf (by unfold IR;decide) HB0.out HKR.out (by unfold NmOk;simp) (small4 (by decide)) (fun _ _ _=>rfl) (by simp) (rfl)
  (try simp only[Exit.inBlock,Exit.then])
  exact bodyPost_ret (v:=.agg #[.int .i64 1,.bool false,.slice none 0 0,.string ⟨#[105,50]⟩,.slice none 0 0]) (by simp[results,Tryz.results10,go_sem,r0,r1,r2,r3,r4]) rfl ⟨_,_,rfl,h1,h2,rfl,h3,h4⟩
 ·have hop2:op=0:=HOP.out;subst hop2;clear HOP;have HSZP:Hid (W1.heap.size<=W1.heap.size):=Lib.hid (Nat.le_refl _);have o0:=cell_at (v:=.int .i64 0) HBo.out 0 rfl;have fo0:=froz_at HBo.out 0;have o1:=cell_at (v:=.bool false) HBo.out 1 rfl;have fo1:=froz_at HBo.out 1;have o2:=cell_at (v:=.slice none 0 0) HBo.out 2 rfl;have fo2:=froz_at HBo.out 2;have o3:=cell_at (v:=.string ⟨#[]⟩) HBo.out 3 rfl;have fo3:=froz_at HBo.out 3;have o4:=cell_at (v:=.slice none 0 0) HBo.out 4 rfl;have fo4:=froz_at HBo.out 4;have m0:=cell_at (v:=.bool zb) HBm.out 0 rfl;have fm0:=froz_at HBm.out 0;have m1:=cell_at (v:=.slice zo zl zc) HBm.out 1 rfl;have fm1:=froz_at HBm.out 1;go_upto_region 21 with fail
  clear o0 fo0 o1 fo1 o2 fo2 o3 fo3 o4 fo4 m0 fm0 m1 fm1;have hgo:W1.grownBy ((W1.setCell ⟨ko,1,none⟩ (.bool zb)).setCell ⟨ko,2,none⟩ (.slice zo zl zc)) (some ko):=by refine grown_setCell ?_ _;refine grown_setCell ?_ _;exact World.grownBy.refl _ _
  have hbo:((W1.setCell ⟨ko,1,none⟩ (.bool zb)).setCell ⟨ko,2,none⟩ (.slice zo zl zc)).heap[ko]?=_:=(heap_setCell_same _ ko 2 _ _ (.slice zo zl zc) (heap_setCell_same _ ko 1 _ _ (.bool zb) HBo.out))
  obtain⟨W2,hW2⟩:∃ q,q=(W1.setCell ⟨ko,1,none⟩ (.bool zb)).setCell ⟨ko,2,none⟩ (.slice zo zl zc):=⟨_,rfl⟩
  rw[<-hW2] at hgo hbo ⊢;have hfo:Fr 29 W1 W2:=.of_grown hgo (fun j hj=>by injection hj with hj;subst hj;exact⟨_,HBo.out,n32_F⟩);replace HW:=Lib.hid (ext_below HW.out hgo HKO.out);replace HC:=Lib.hid (HC.out.fr hfo);replace HBf:=Lib.hid ((hgo.block _ (lt_of_block HBf.out) (fun e=>by injection e with e;exact HDIS.out.1 e)).trans HBf.out);replace HBd:=Lib.hid ((hgo.block _ (lt_of_block HBd.out) (fun e=>by injection e with e;exact HDIS.out.2.1 e)).trans HBd.out);replace HBr:=Lib.hid ((hgo.block _ (lt_of_block HBr.out) (fun e=>by injection e with e;exact HDIS.out.2.2 e)).trans HBr.out);have HSZW:Hid (W1.heap.size<=W2.heap.size):=Lib.hid (Nat.le_trans HSZP.out hgo.size);replace HBo:=Lib.hid hbo;clear hgo hbo hW2 hfo HSZP;have HSZP:=HSZW;clear HSZW
  have HT:Hid (TSt w W1.heap.size kf kd kr ko ⟨xo,xb,xao,xl,xc,xnm,xko,xkl,xkc⟩ ((d:Nat)+1) 0 zb zo zl zc (⟨#[]⟩) (z) d [] (.slice none 0 0) [] W2):=Lib.hid (TSt.zero HBo.out HBf.out HBd.out HBr.out (HC.out) HLOW.out HDIS.out HKO.out HW.out HSZP.out);have o0:=cell_at (v:=.int .i64 0) HBo.out 0 rfl;have fo0:=froz_at HBo.out 0;have o1:=cell_at (v:=.bool zb) HBo.out 1 rfl;have fo1:=froz_at HBo.out 1;have o2:=cell_at (v:=.slice zo zl zc) HBo.out 2 rfl;have fo2:=froz_at HBo.out 2;have o3:=cell_at (v:=.string ⟨#[]⟩) HBo.out 3 rfl;have fo3:=froz_at HBo.out 3;have o4:=cell_at (v:=.slice none 0 0) HBo.out 4 rfl;have fo4:=froz_at HBo.out 4;obtain⟨⟨r0,r1,r2,r3,r4⟩,fr0,fr1,fr2,fr3,fr4⟩:=cells5V HBr.out;go_wp2_with fail
  clear o0 fo0 o1 fo1 o2 fo2 o3 fo3 o4 fo4;have hg:=grown5V (w:=W2) (k:=kr) (.int .i64 0) (.bool zb) (.slice zo zl zc) (.string ⟨#[]⟩) (.slice none 0 0);have hf:Fr 29 W2 _:=.of_grown hg (fun j hj=>by injection hj with hj;subst hj;exact⟨_,HBr.out,n32_F⟩);obtain⟨h1,h2,h3,h4⟩:=HT.out.fin hg hf (by unfold IR;decide) HB0.out HKR.out (by unfold NmOk;simp) (lt_pow_more (k:=2) (k':=4) HCZ.out (by decide)) (fun h _ _=>absurd rfl h) (by simp) (rfl)
  (try simp only[Exit.inBlock,Exit.then])
  exact bodyPost_ret (v:=.agg #[.int .i64 0,.bool zb,.slice zo zl zc,.string ⟨#[]⟩,.slice none 0 0]) (by simp[results,Tryz.results10,go_sem,r0,r1,r2,r3,r4]) rfl ⟨_,_,rfl,h1,h2,rfl,h3,h4⟩
 ·have hop2:op=2:=HOP.out;subst hop2;clear HOP;have HSZP:Hid (W1.heap.size<=W1.heap.size):=Lib.hid (Nat.le_refl _);have HT:Hid (TSt w W1.heap.size kf kd kr ko ⟨xo,xb,xao,xl,xc,xnm,xko,xkl,xkc⟩ ((d:Nat)+1) 2 false none 0 0 (⟨#[]⟩) (0) d [] (.slice none 0 0) [] W1):=Lib.hid (TSt.zero HBo.out HBf.out HBd.out HBr.out (nr0 _) HLOW.out HDIS.out HKO.out HW.out HSZP.out);clear HBm;have HKB:Hid (W1.heap.size<=W1.heap.size):=Lib.hid (Nat.le_refl _);have o0:=cell_at (v:=.int .i64 2) HBo.out 0 rfl;have fo0:=froz_at HBo.out 0;have o1:=cell_at (v:=.bool false) HBo.out 1 rfl;have fo1:=froz_at HBo.out 1;have o2:=cell_at (v:=.slice none 0 0) HBo.out 2 rfl;have fo2:=froz_at HBo.out 2;have o3:=cell_at (v:=.string ⟨#[]⟩) HBo.out 3 rfl;have fo3:=froz_at HBo.out 3;have o4:=cell_at (v:=.slice none 0 0) HBo.out 4 rfl;have fo4:=froz_at HBo.out 4
  go_wp2_with fail
  clear o0 fo0 o1 fo1 o2 fo2 o3 fo3 o4 fo4;refine (kid_p d HD.out HIT.out w W1 W1.heap.size kf kd kr ko ⟨xo,xb,xao,xl,xc,xnm,xko,xkl,xkc⟩ HX.out 2 false none 0 0 ⟨#[]⟩ (0) [] _ [] 0 0 (by decide) (by decide) HT.out (by rw[HT.out.len];simp)).mono ?_;rintro e X1 ⟨⟨q0,rfl⟩,t0,v0,us0,hs,ht⟩;replace HT:=Lib.hid ht;have HS0:=Lib.hid hs;clear hs ht;go_wp2_with fail
  refine (kid_p d HD.out HIT.out w X1 W1.heap.size kf kd kr ko ⟨xo,xb,xao,xl,xc,xnm,xko,xkl,xkc⟩ HX.out 2 false none 0 0 ⟨#[]⟩ (0) ([]++[t0]) _ us0 1 0 (by decide) (by decide) HT.out (by rw[HT.out.len];simp)).mono ?_;rintro e X2 ⟨⟨q1,rfl⟩,t1,v1,us1,hs,ht⟩;replace HT:=Lib.hid ht;have HS1:=Lib.hid hs;clear hs ht;obtain⟨vo,vc,hv,-⟩:=HT.out.row.form;subst hv;obtain⟨N,hN⟩:∃ N,N=us1.length:=⟨_,rfl⟩
  rw[<-hN] at HT;clear hN;replace HBo:=Lib.hid HT.out.ho;replace HBr:=Lib.hid HT.out.hr;have o0:=cell_at (v:=.int .i64 2) HBo.out 0 rfl;have fo0:=froz_at HBo.out 0;have o1:=cell_at (v:=.bool false) HBo.out 1 rfl;have fo1:=froz_at HBo.out 1;have o2:=cell_at (v:=.slice none 0 0) HBo.out 2 rfl;have fo2:=froz_at HBo.out 2;have o3:=cell_at (v:=.string ⟨#[]⟩) HBo.out 3 rfl;have fo3:=froz_at HBo.out 3;have o4:=cell_at (v:=.slice vo N vc) HBo.out 4 rfl;have fo4:=froz_at HBo.out 4;obtain⟨⟨r0,r1,r2,r3,r4⟩,fr0,fr1,fr2,fr3,fr4⟩:=cells5V HBr.out;go_wp2_with fail
  clear o0 fo0 o1 fo1 o2 fo2 o3 fo3 o4 fo4;have hg:=grown5V (w:=X2) (k:=kr) (.int .i64 2) (.bool false) (.slice none 0 0) (.string ⟨#[]⟩) (.slice vo N vc);have hf:Fr 29 X2 _:=.of_grown hg (fun j hj=>by injection hj with hj;subst hj;exact⟨_,HBr.out,n32_F⟩);obtain⟨h1,h2,h3,h4⟩:=HT.out.fin hg hf (by unfold IR;decide) HB0.out HKR.out (by unfold NmOk;simp) (small4 (by decide)) (fun _ _ _=>rfl) (by simp) (by simp[fitF,kidsOk,srts,HS0.out,HS1.out])
  (try simp only[Exit.inBlock,Exit.then])
  exact bodyPost_ret (v:=.agg #[.int .i64 2,.bool false,.slice none 0 0,.string ⟨#[]⟩,.slice vo N vc]) (by simp[results,Tryz.results10,go_sem,r0,r1,r2,r3,r4]) rfl ⟨_,_,rfl,h1,h2,rfl,h3,h4⟩
 ·have hop2:op=3:=HOP.out;subst hop2;clear HOP;have HSZP:Hid (W1.heap.size<=W1.heap.size):=Lib.hid (Nat.le_refl _);have o0:=cell_at (v:=.int .i64 3) HBo.out 0 rfl;have fo0:=froz_at HBo.out 0;have o1:=cell_at (v:=.bool false) HBo.out 1 rfl;have fo1:=froz_at HBo.out 1;have o2:=cell_at (v:=.slice none 0 0) HBo.out 2 rfl;have fo2:=froz_at HBo.out 2;have o3:=cell_at (v:=.string ⟨#[]⟩) HBo.out 3 rfl;have fo3:=froz_at HBo.out 3;have o4:=cell_at (v:=.slice none 0 0) HBo.out 4 rfl;have fo4:=froz_at HBo.out 4;have m0:=cell_at (v:=.bool zb) HBm.out 0 rfl;have fm0:=froz_at HBm.out 0;have m1:=cell_at (v:=.slice zo zl zc) HBm.out 1 rfl;have fm1:=froz_at HBm.out 1;go_upto_region 21 with fail
  clear o0 fo0 o1 fo1 o2 fo2 o3 fo3 o4 fo4 m0 fm0 m1 fm1;have hgo:W1.grownBy ((W1.setCell ⟨ko,1,none⟩ (.bool zb)).setCell ⟨ko,2,none⟩ (.slice zo zl zc)) (some ko):=by refine grown_setCell ?_ _;refine grown_setCell ?_ _;exact World.grownBy.refl _ _
  have hbo:((W1.setCell ⟨ko,1,none⟩ (.bool zb)).setCell ⟨ko,2,none⟩ (.slice zo zl zc)).heap[ko]?=_:=(heap_setCell_same _ ko 2 _ _ (.slice zo zl zc) (heap_setCell_same _ ko 1 _ _ (.bool zb) HBo.out))
  obtain⟨W2,hW2⟩:∃ q,q=(W1.setCell ⟨ko,1,none⟩ (.bool zb)).setCell ⟨ko,2,none⟩ (.slice zo zl zc):=⟨_,rfl⟩
  rw[<-hW2] at hgo hbo ⊢;have hfo:Fr 29 W1 W2:=.of_grown hgo (fun j hj=>by injection hj with hj;subst hj;exact⟨_,HBo.out,n32_F⟩);replace HW:=Lib.hid (ext_below HW.out hgo HKO.out);replace HC:=Lib.hid (HC.out.fr hfo);replace HBf:=Lib.hid ((hgo.block _ (lt_of_block HBf.out) (fun e=>by injection e with e;exact HDIS.out.1 e)).trans HBf.out);replace HBd:=Lib.hid ((hgo.block _ (lt_of_block HBd.out) (fun e=>by injection e with e;exact HDIS.out.2.1 e)).trans HBd.out);replace HBr:=Lib.hid ((hgo.block _ (lt_of_block HBr.out) (fun e=>by injection e with e;exact HDIS.out.2.2 e)).trans HBr.out);have HSZW:Hid (W1.heap.size<=W2.heap.size):=Lib.hid (Nat.le_trans HSZP.out hgo.size);replace HBo:=Lib.hid hbo;clear hgo hbo hW2 hfo HSZP;have HSZP:=HSZW;clear HSZW
  have HT:Hid (TSt w W1.heap.size kf kd kr ko ⟨xo,xb,xao,xl,xc,xnm,xko,xkl,xkc⟩ ((d:Nat)+1) 3 zb zo zl zc (⟨#[]⟩) (z) d [] (.slice none 0 0) [] W2):=Lib.hid (TSt.zero HBo.out HBf.out HBd.out HBr.out (HC.out) HLOW.out HDIS.out HKO.out HW.out HSZP.out);have HKB:Hid (W2.heap.size<=W2.heap.size):=Lib.hid (Nat.le_refl _);have o0:=cell_at (v:=.int .i64 3) HBo.out 0 rfl;have fo0:=froz_at HBo.out 0;have o1:=cell_at (v:=.bool zb) HBo.out 1 rfl;have fo1:=froz_at HBo.out 1;have o2:=cell_at (v:=.slice zo zl zc) HBo.out 2 rfl;have fo2:=froz_at HBo.out 2;have o3:=cell_at (v:=.string ⟨#[]⟩) HBo.out 3 rfl;have fo3:=froz_at HBo.out 3;have o4:=cell_at (v:=.slice none 0 0) HBo.out 4 rfl;have fo4:=froz_at HBo.out 4;go_wp2_with fail
  clear o0 fo0 o1 fo1 o2 fo2 o3 fo3 o4 fo4;refine (kid_p d HD.out HIT.out w W2 W1.heap.size kf kd kr ko ⟨xo,xb,xao,xl,xc,xnm,xko,xkl,xkc⟩ HX.out 3 zb zo zl zc ⟨#[]⟩ (z) [] _ [] 0 0 (by decide) (by decide) HT.out (by rw[HT.out.len];simp)).mono ?_;rintro e X1 ⟨⟨q0,rfl⟩,t0,v0,us0,hs,ht⟩;replace HT:=Lib.hid ht;have HS0:=Lib.hid hs;clear hs ht;obtain⟨vo,vc,hv,-⟩:=HT.out.row.form;subst hv;obtain⟨N,hN⟩:∃ N,N=us0.length:=⟨_,rfl⟩
  rw[<-hN] at HT;clear hN;replace HBo:=Lib.hid HT.out.ho;replace HBr:=Lib.hid HT.out.hr;have o0:=cell_at (v:=.int .i64 3) HBo.out 0 rfl;have fo0:=froz_at HBo.out 0;have o1:=cell_at (v:=.bool zb) HBo.out 1 rfl;have fo1:=froz_at HBo.out 1;have o2:=cell_at (v:=.slice zo zl zc) HBo.out 2 rfl;have fo2:=froz_at HBo.out 2;have o3:=cell_at (v:=.string ⟨#[]⟩) HBo.out 3 rfl;have fo3:=froz_at HBo.out 3;have o4:=cell_at (v:=.slice vo N vc) HBo.out 4 rfl;have fo4:=froz_at HBo.out 4;obtain⟨⟨r0,r1,r2,r3,r4⟩,fr0,fr1,fr2,fr3,fr4⟩:=cells5V HBr.out;go_wp2_with fail
  clear o0 fo0 o1 fo1 o2 fo2 o3 fo3 o4 fo4;have hg:=grown5V (w:=X1) (k:=kr) (.int .i64 3) (.bool zb) (.slice zo zl zc) (.string ⟨#[]⟩) (.slice vo N vc);have hf:Fr 29 X1 _:=.of_grown hg (fun j hj=>by injection hj with hj;subst hj;exact⟨_,HBr.out,n32_F⟩);obtain⟨h1,h2,h3,h4⟩:=HT.out.fin hg hf (by unfold IR;decide) HB0.out HKR.out (by unfold NmOk;simp) (lt_pow_more (k:=2) (k':=4) HCZ.out (by decide)) (fun _ h _=>absurd rfl h) (by simp) (by simp[fitF,kidsOk,srts,HS0.out])
  (try simp only[Exit.inBlock,Exit.then])
  exact bodyPost_ret (v:=.agg #[.int .i64 3,.bool zb,.slice zo zl zc,.string ⟨#[]⟩,.slice vo N vc]) (by simp[results,Tryz.results10,go_sem,r0,r1,r2,r3,r4]) rfl ⟨_,_,rfl,h1,h2,rfl,h3,h4⟩
 ·have hop2:op=4:=HOP.out;subst hop2;clear HOP;have HSZP:Hid (W1.heap.size<=W1.heap.size):=Lib.hid (Nat.le_refl _);have HT:Hid (TSt w W1.heap.size kf kd kr ko ⟨xo,xb,xao,xl,xc,xnm,xko,xkl,xkc⟩ ((d:Nat)+1) 4 false none 0 0 (⟨#[]⟩) (0) d [] (.slice none 0 0) [] W1):=Lib.hid (TSt.zero HBo.out HBf.out HBd.out HBr.out (nr0 _) HLOW.out HDIS.out HKO.out HW.out HSZP.out);clear HBm;have HKB:Hid (W1.heap.size<=W1.heap.size):=Lib.hid (Nat.le_refl _);have o0:=cell_at (v:=.int .i64 4) HBo.out 0 rfl;have fo0:=froz_at HBo.out 0;have o1:=cell_at (v:=.bool false) HBo.out 1 rfl;have fo1:=froz_at HBo.out 1;have o2:=cell_at (v:=.slice none 0 0) HBo.out 2 rfl;have fo2:=froz_at HBo.out 2;have o3:=cell_at (v:=.string ⟨#[]⟩) HBo.out 3 rfl;have fo3:=froz_at HBo.out 3;have o4:=cell_at (v:=.slice none 0 0) HBo.out 4 rfl;have fo4:=froz_at HBo.out 4
  go_wp2_with fail
  clear o0 fo0 o1 fo1 o2 fo2 o3 fo3 o4 fo4;refine (kid_p d HD.out HIT.out w W1 W1.heap.size kf kd kr ko ⟨xo,xb,xao,xl,xc,xnm,xko,xkl,xkc⟩ HX.out 4 false none 0 0 ⟨#[]⟩ (0) [] _ [] 0 0 (by decide) (by decide) HT.out (by rw[HT.out.len];simp)).mono ?_;rintro e X1 ⟨⟨q0,rfl⟩,t0,v0,us0,hs,ht⟩;replace HT:=Lib.hid ht;have HS0:=Lib.hid hs;clear hs ht;go_wp2_with fail
  refine (kid_p d HD.out HIT.out w X1 W1.heap.size kf kd kr ko ⟨xo,xb,xao,xl,xc,xnm,xko,xkl,xkc⟩ HX.out 4 false none 0 0 ⟨#[]⟩ (0) ([]++[t0]) _ us0 1 0 (by decide) (by decide) HT.out (by rw[HT.out.len];simp)).mono ?_;rintro e X2 ⟨⟨q1,rfl⟩,t1,v1,us1,hs,ht⟩;replace HT:=Lib.hid ht;have HS1:=Lib.hid hs;clear hs ht;obtain⟨vo,vc,hv,-⟩:=HT.out.row.form;subst hv;obtain⟨N,hN⟩:∃ N,N=us1.length:=⟨_,rfl⟩
  rw[<-hN] at HT;clear hN;replace HBo:=Lib.hid HT.out.ho;replace HBr:=Lib.hid HT.out.hr;have o0:=cell_at (v:=.int .i64 4) HBo.out 0 rfl;have fo0:=froz_at HBo.out 0;have o1:=cell_at (v:=.bool false) HBo.out 1 rfl;have fo1:=froz_at HBo.out 1;have o2:=cell_at (v:=.slice none 0 0) HBo.out 2 rfl;have fo2:=froz_at HBo.out 2;have o3:=cell_at (v:=.string ⟨#[]⟩) HBo.out 3 rfl;have fo3:=froz_at HBo.out 3;have o4:=cell_at (v:=.slice vo N vc) HBo.out 4 rfl;have fo4:=froz_at HBo.out 4;obtain⟨⟨r0,r1,r2,r3,r4⟩,fr0,fr1,fr2,fr3,fr4⟩:=cells5V HBr.out;go_wp2_with fail
  clear o0 fo0 o1 fo1 o2 fo2 o3 fo3 o4 fo4;have hg:=grown5V (w:=X2) (k:=kr) (.int .i64 4) (.bool false) (.slice none 0 0) (.string ⟨#[]⟩) (.slice vo N vc);have hf:Fr 29 X2 _:=.of_grown hg (fun j hj=>by injection hj with hj;subst hj;exact⟨_,HBr.out,n32_F⟩);obtain⟨h1,h2,h3,h4⟩:=HT.out.fin hg hf (by unfold IR;decide) HB0.out HKR.out (by unfold NmOk;simp) (small4 (by decide)) (fun _ _ _=>rfl) (by simp) (by simp[fitF,kidsOk,srts,HS0.out,HS1.out])
  (try simp only[Exit.inBlock,Exit.then])
  exact bodyPost_ret (v:=.agg #[.int .i64 4,.bool false,.slice none 0 0,.string ⟨#[]⟩,.slice vo N vc]) (by simp[results,Tryz.results10,go_sem,r0,r1,r2,r3,r4]) rfl ⟨_,_,rfl,h1,h2,rfl,h3,h4⟩
 ·have hop2:op=5:=HOP.out;subst hop2;clear HOP;have HSZP:Hid (W1.heap.size<=W1.heap.size):=Lib.hid (Nat.le_refl _);have o0:=cell_at (v:=.int .i64 5) HBo.out 0 rfl;have fo0:=froz_at HBo.out 0;have o1:=cell_at (v:=.bool false) HBo.out 1 rfl;have fo1:=froz_at HBo.out 1;have o2:=cell_at (v:=.slice none 0 0) HBo.out 2 rfl;have fo2:=froz_at HBo.out 2;have o3:=cell_at (v:=.string ⟨#[]⟩) HBo.out 3 rfl;have fo3:=froz_at HBo.out 3;have o4:=cell_at (v:=.slice none 0 0) HBo.out 4 rfl;have fo4:=froz_at HBo.out 4;have m0:=cell_at (v:=.bool zb) HBm.out 0 rfl;have fm0:=froz_at HBm.out 0;have m1:=cell_at (v:=.slice zo zl zc) HBm.out 1 rfl;have fm1:=froz_at HBm.out 1;go_wp2_with fail
  refine (big_any false _ z.natAbs 600 W1 HC.out.nat (by decide)).mono ?_;rintro e x9 ⟨va,rfl,ha,hb⟩;clear o0 fo0 o1 fo1 o2 fo2 o3 fo3 o4 fo4 m0 fm0 m1 fm1;replace HBf:=kBV hb HBf;replace HBd:=kBV hb HBd;replace HBr:=kBV hb HBr;replace HBo:=kBV hb HBo;replace HBm:=kBV hb HBm;replace HW:=Lib.hid (HW.out.trans (hb.mono HW.out.size));replace HC:=Lib.hid (HC.out.below hb);replace HSZP:=Lib.hid (Nat.le_trans HSZP.out hb.size);have HVA:=Lib.hid ha;clear ha hb;go_wp2_with fail
  refine (wof_any 1 x9 (by decide) (by decide)).mono ?_;rintro e x10 ⟨vb,rfl,ha,hb⟩;replace HBf:=kBV hb HBf;replace HBd:=kBV hb HBd;replace HBr:=kBV hb HBr;replace HBo:=kBV hb HBo;replace HBm:=kBV hb HBm;replace HW:=Lib.hid (HW.out.trans (hb.mono HW.out.size));replace HC:=Lib.hid (HC.out.below hb);replace HSZP:=Lib.hid (Nat.le_trans HSZP.out hb.size);replace HVA:=Lib.hid (HVA.out.below hb);have HVB:=Lib.hid ha;clear ha hb;go_wp2_with fail
  refine (wadd_any va vb _ _ 600 2 x10 HVA.out.gi HVB.out.gi (by decide) (by decide)).mono ?_;rintro e x11 ⟨vd,rfl,ha,hb⟩;replace HBf:=kBV hb HBf;replace HBd:=kBV hb HBd;replace HBr:=kBV hb HBr;replace HBo:=kBV hb HBo;replace HBm:=kBV hb HBm;replace HW:=Lib.hid (HW.out.trans (hb.mono HW.out.size));replace HC:=Lib.hid (HC.out.below hb);replace HSZP:=Lib.hid (Nat.le_trans HSZP.out hb.size);replace HVA:=Lib.hid (HVA.out.below hb);replace HVB:=Lib.hid (HVB.out.below hb);obtain⟨sb,so,sl,sc,rfl⟩:=ha.shape;have hs4:=succ4 HCZ.out;obtain⟨Z,hZ⟩:∃ Z,Z=sg false z.natAbs+1:=⟨_,rfl⟩
  rw[<-hZ] at ha hs4;replace HC:=Lib.hid (ha.tight (lt_pow_more (k:=4) (k':=600) hs4.1 (by decide)));have HS4:=Lib.hid hs4;clear ha hb HVA HVB hs4 hZ;have o0:=cell_at (v:=.int .i64 5) HBo.out 0 rfl;have fo0:=froz_at HBo.out 0;have o1:=cell_at (v:=.bool false) HBo.out 1 rfl;have fo1:=froz_at HBo.out 1;have o2:=cell_at (v:=.slice none 0 0) HBo.out 2 rfl;have fo2:=froz_at HBo.out 2;have o3:=cell_at (v:=.string ⟨#[]⟩) HBo.out 3 rfl;have fo3:=froz_at HBo.out 3;have o4:=cell_at (v:=.slice none 0 0) HBo.out 4 rfl;have fo4:=froz_at HBo.out 4;go_upto_region 21 with fail
  clear o0 fo0 o1 fo1 o2 fo2 o3 fo3 o4 fo4;have hgo:x11.grownBy ((x11.setCell ⟨ko,1,none⟩ (.bool sb)).setCell ⟨ko,2,none⟩ (.slice so sl sc)) (some ko):=by refine grown_setCell ?_ _;refine grown_setCell ?_ _;exact World.grownBy.refl _ _
  have hbo:((x11.setCell ⟨ko,1,none⟩ (.bool sb)).setCell ⟨ko,2,none⟩ (.slice so sl sc)).heap[ko]?=_:=(heap_setCell_same _ ko 2 _ _ (.slice so sl sc) (heap_setCell_same _ ko 1 _ _ (.bool sb) HBo.out))
  obtain⟨W2,hW2⟩:∃ q,q=(x11.setCell ⟨ko,1,none⟩ (.bool sb)).setCell ⟨ko,2,none⟩ (.slice so sl sc):=⟨_,rfl⟩
  rw[<-hW2] at hgo hbo ⊢;have hfo:Fr 29 x11 W2:=.of_grown hgo (fun j hj=>by injection hj with hj;subst hj;exact⟨_,HBo.out,n32_F⟩);replace HW:=Lib.hid (ext_below HW.out hgo HKO.out);replace HC:=Lib.hid (HC.out.fr hfo);replace HBf:=Lib.hid ((hgo.block _ (lt_of_block HBf.out) (fun e=>by injection e with e;exact HDIS.out.1 e)).trans HBf.out);replace HBd:=Lib.hid ((hgo.block _ (lt_of_block HBd.out) (fun e=>by injection e with e;exact HDIS.out.2.1 e)).trans HBd.out);replace HBr:=Lib.hid ((hgo.block _ (lt_of_block HBr.out) (fun e=>by injection e with e;exact HDIS.out.2.2 e)).trans HBr.out);have HSZW:Hid (W1.heap.size<=W2.heap.size):=Lib.hid (Nat.le_trans HSZP.out hgo.size);replace HBo:=Lib.hid hbo;clear hgo hbo hW2 hfo HSZP;have HSZP:=HSZW;clear HSZW
  have HT:Hid (TSt w W1.heap.size kf kd kr ko ⟨xo,xb,xao,xl,xc,xnm,xko,xkl,xkc⟩ ((d:Nat)+1) 5 sb so sl sc (⟨#[]⟩) (Z) d [] (.slice none 0 0) [] W2):=Lib.hid (TSt.zero HBo.out HBf.out HBd.out HBr.out (HC.out) HLOW.out HDIS.out HKO.out HW.out HSZP.out);have HKB:Hid (W2.heap.size<=W2.heap.size):=Lib.hid (Nat.le_refl _);have o0:=cell_at (v:=.int .i64 5) HBo.out 0 rfl;have fo0:=froz_at HBo.out 0;have o1:=cell_at (v:=.bool sb) HBo.out 1 rfl;have fo1:=froz_at HBo.out 1;have o2:=cell_at (v:=.slice so sl sc) HBo.out 2 rfl;have fo2:=froz_at HBo.out 2;have o3:=cell_at (v:=.string ⟨#[]⟩) HBo.out 3 rfl;have fo3:=froz_at HBo.out 3;have o4:=cell_at (v:=.slice none 0 0) HBo.out 4 rfl;have fo4:=froz_at HBo.out 4;go_wp2_with fail
  clear o0 fo0 o1 fo1 o2 fo2 o3 fo3 o4 fo4;refine (kid_p d HD.out HIT.out w W2 W1.heap.size kf kd kr ko ⟨xo,xb,xao,xl,xc,xnm,xko,xkl,xkc⟩ HX.out 5 sb so sl sc ⟨#[]⟩ (Z) [] _ [] 0 0 (by decide) (by decide) HT.out (by rw[HT.out.len];simp)).mono ?_;rintro e X1 ⟨⟨q0,rfl⟩,t0,v0,us0,hs,ht⟩;replace HT:=Lib.hid ht;have HS0:=Lib.hid hs;clear hs ht;obtain⟨vo,vc,hv,-⟩:=HT.out.row.form;subst hv;obtain⟨N,hN⟩:∃ N,N=us0.length:=⟨_,rfl⟩
  rw[<-hN] at HT;clear hN;replace HBo:=Lib.hid HT.out.ho;replace HBr:=Lib.hid HT.out.hr;have o0:=cell_at (v:=.int .i64 5) HBo.out 0 rfl;have fo0:=froz_at HBo.out 0;have o1:=cell_at (v:=.bool sb) HBo.out 1 rfl;have fo1:=froz_at HBo.out 1;have o2:=cell_at (v:=.slice so sl sc) HBo.out 2 rfl;have fo2:=froz_at HBo.out 2;have o3:=cell_at (v:=.string ⟨#[]⟩) HBo.out 3 rfl;have fo3:=froz_at HBo.out 3;have o4:=cell_at (v:=.slice vo N vc) HBo.out 4 rfl;have fo4:=froz_at HBo.out 4;obtain⟨⟨r0,r1,r2,r3,r4⟩,fr0,fr1,fr2,fr3,fr4⟩:=cells5V HBr.out;go_wp2_with fail
  clear o0 fo0 o1 fo1 o2 fo2 o3 fo3 o4 fo4;have hg:=grown5V (w:=X1) (k:=kr) (.int .i64 5) (.bool sb) (.slice so sl sc) (.string ⟨#[]⟩) (.slice vo N vc);have hf:Fr 29 X1 _:=.of_grown hg (fun j hj=>by injection hj with hj;subst hj;exact⟨_,HBr.out,n32_F⟩);obtain⟨h1,h2,h3,h4⟩:=HT.out.fin hg hf (by unfold IR;decide) HB0.out HKR.out (by unfold NmOk;simp) (HS4.out.1) (fun _ _ h=>absurd rfl h) (by simp) (by simp[HS4.out.2,fitF,kidsOk,srts,HS0.out])
  (try simp only[Exit.inBlock,Exit.then])
  exact bodyPost_ret (v:=.agg #[.int .i64 5,.bool sb,.slice so sl sc,.string ⟨#[]⟩,.slice vo N vc]) (by simp[results,Tryz.results10,go_sem,r0,r1,r2,r3,r4]) rfl ⟨_,_,rfl,h1,h2,rfl,h3,h4⟩
 ·have hop2:op=6:=HOP.out;subst hop2;clear HOP;have HSZP:Hid (W1.heap.size<=W1.heap.size):=Lib.hid (Nat.le_refl _);have HT:Hid (TSt w W1.heap.size kf kd kr ko ⟨xo,xb,xao,xl,xc,xnm,xko,xkl,xkc⟩ ((d:Nat)+1) 6 false none 0 0 (⟨#[]⟩) (0) d [] (.slice none 0 0) [] W1):=Lib.hid (TSt.zero HBo.out HBf.out HBd.out HBr.out (nr0 _) HLOW.out HDIS.out HKO.out HW.out HSZP.out);clear HBm;have HKB:Hid (W1.heap.size<=W1.heap.size):=Lib.hid (Nat.le_refl _);have o0:=cell_at (v:=.int .i64 6) HBo.out 0 rfl;have fo0:=froz_at HBo.out 0;have o1:=cell_at (v:=.bool false) HBo.out 1 rfl;have fo1:=froz_at HBo.out 1;have o2:=cell_at (v:=.slice none 0 0) HBo.out 2 rfl;have fo2:=froz_at HBo.out 2;have o3:=cell_at (v:=.string ⟨#[]⟩) HBo.out 3 rfl;have fo3:=froz_at HBo.out 3;have o4:=cell_at (v:=.slice none 0 0) HBo.out 4 rfl;have fo4:=froz_at HBo.out 4
  go_wp2_with fail
  clear o0 fo0 o1 fo1 o2 fo2 o3 fo3 o4 fo4;refine (kid_p d HD.out HIT.out w W1 W1.heap.size kf kd kr ko ⟨xo,xb,xao,xl,xc,xnm,xko,xkl,xkc⟩ HX.out 6 false none 0 0 ⟨#[]⟩ (0) [] _ [] 0 2 (by decide) (by decide) HT.out (by rw[HT.out.len];simp)).mono ?_;rintro e X1 ⟨⟨q0,rfl⟩,t0,v0,us0,hs,ht⟩;replace HT:=Lib.hid ht;have HS0:=Lib.hid hs;clear hs ht;obtain⟨vo,vc,hv,-⟩:=HT.out.row.form;subst hv;obtain⟨N,hN⟩:∃ N,N=us0.length:=⟨_,rfl⟩
  rw[<-hN] at HT;clear hN;replace HBo:=Lib.hid HT.out.ho;replace HBr:=Lib.hid HT.out.hr;have o0:=cell_at (v:=.int .i64 6) HBo.out 0 rfl;have fo0:=froz_at HBo.out 0;have o1:=cell_at (v:=.bool false) HBo.out 1 rfl;have fo1:=froz_at HBo.out 1;have o2:=cell_at (v:=.slice none 0 0) HBo.out 2 rfl;have fo2:=froz_at HBo.out 2;have o3:=cell_at (v:=.string ⟨#[]⟩) HBo.out 3 rfl;have fo3:=froz_at HBo.out 3;have o4:=cell_at (v:=.slice vo N vc) HBo.out 4 rfl;have fo4:=froz_at HBo.out 4;obtain⟨⟨r0,r1,r2,r3,r4⟩,fr0,fr1,fr2,fr3,fr4⟩:=cells5V HBr.out;go_wp2_with fail
  clear o0 fo0 o1 fo1 o2 fo2 o3 fo3 o4 fo4;have hg:=grown5V (w:=X1) (k:=kr) (.int .i64 6) (.bool false) (.slice none 0 0) (.string ⟨#[]⟩) (.slice vo N vc);have hf:Fr 29 X1 _:=.of_grown hg (fun j hj=>by injection hj with hj;subst hj;exact⟨_,HBr.out,n32_F⟩);obtain⟨h1,h2,h3,h4⟩:=HT.out.fin hg hf (by unfold IR;decide) HB0.out HKR.out (by unfold NmOk;simp) (small4 (by decide)) (fun _ _ _=>rfl) (by simp) (by simp[fitF,kidsOk,srts,HS0.out])
  (try simp only[Exit.inBlock,Exit.then])
  exact bodyPost_ret (v:=.agg #[.int .i64 6,.bool false,.slice none 0 0,.string ⟨#[]⟩,.slice vo N vc]) (by simp[results,Tryz.results10,go_sem,r0,r1,r2,r3,r4]) rfl ⟨_,_,rfl,h1,h2,rfl,h3,h4⟩
 have hop2:op=7:=HOP.out;subst hop2;clear HOP;have HSZP:Hid (W1.heap.size<=W1.heap.size):=Lib.hid (Nat.le_refl _);have HT:Hid (TSt w W1.heap.size kf kd kr ko ⟨xo,xb,xao,xl,xc,xnm,xko,xkl,xkc⟩ ((d:Nat)+1) 7 false none 0 0 (⟨#[]⟩) (0) d [] (.slice none 0 0) [] W1):=Lib.hid (TSt.zero HBo.out HBf.out HBd.out HBr.out (nr0 _) HLOW.out HDIS.out HKO.out HW.out HSZP.out);clear HBm;have HKB:Hid (W1.heap.size<=W1.heap.size):=Lib.hid (Nat.le_refl _);have o0:=cell_at (v:=.int .i64 7) HBo.out 0 rfl;have fo0:=froz_at HBo.out 0;have o1:=cell_at (v:=.bool false) HBo.out 1 rfl;have fo1:=froz_at HBo.out 1;have o2:=cell_at (v:=.slice none 0 0) HBo.out 2 rfl;have fo2:=froz_at HBo.out 2;have o3:=cell_at (v:=.string ⟨#[]⟩) HBo.out 3 rfl;have fo3:=froz_at HBo.out 3;have o4:=cell_at (v:=.slice none 0 0) HBo.out 4 rfl;have fo4:=froz_at HBo.out 4
 go_wp2_with fail
 clear o0 fo0 o1 fo1 o2 fo2 o3 fo3 o4 fo4;refine (kid_p d HD.out HIT.out w W1 W1.heap.size kf kd kr ko ⟨xo,xb,xao,xl,xc,xnm,xko,xkl,xkc⟩ HX.out 7 false none 0 0 ⟨#[]⟩ (0) [] _ [] 0 2 (by decide) (by decide) HT.out (by rw[HT.out.len];simp)).mono ?_;rintro e X1 ⟨⟨q0,rfl⟩,t0,v0,us0,hs,ht⟩;replace HT:=Lib.hid ht;have HS0:=Lib.hid hs;clear hs ht;obtain⟨vo,vc,hv,-⟩:=HT.out.row.form;subst hv;obtain⟨N,hN⟩:∃ N,N=us0.length:=⟨_,rfl⟩
 rw[<-hN] at HT;clear hN;replace HBo:=Lib.hid HT.out.ho;replace HBr:=Lib.hid HT.out.hr;have o0:=cell_at (v:=.int .i64 7) HBo.out 0 rfl;have fo0:=froz_at HBo.out 0;have o1:=cell_at (v:=.bool false) HBo.out 1 rfl;have fo1:=froz_at HBo.out 1;have o2:=cell_at (v:=.slice none 0 0) HBo.out 2 rfl;have fo2:=froz_at HBo.out 2;have o3:=cell_at (v:=.string ⟨#[]⟩) HBo.out 3 rfl;have fo3:=froz_at HBo.out 3;have o4:=cell_at (v:=.slice vo N vc) HBo.out 4 rfl;have fo4:=froz_at HBo.out 4;obtain⟨⟨r0,r1,r2,r3,r4⟩,fr0,fr1,fr2,fr3,fr4⟩:=cells5V HBr.out;go_wp2_with fail
 clear o0 fo0 o1 fo1 o2 fo2 o3 fo3 o4 fo4;have hg:=grown5V (w:=X1) (k:=kr) (.int .i64 7) (.bool false) (.slice none 0 0) (.string ⟨#[]⟩) (.slice vo N vc);have hf:Fr 29 X1 _:=.of_grown hg (fun j hj=>by injection hj with hj;subst hj;exact⟨_,HBr.out,n32_F⟩);obtain⟨h1,h2,h3,h4⟩:=HT.out.fin hg hf (by unfold IR;decide) HB0.out HKR.out (by unfold NmOk;simp) (small4 (by decide)) (fun _ _ _=>rfl) (by simp) (by simp[fitF,kidsOk,srts,HS0.out])
 (try simp only[Exit.inBlock,Exit.then])
 exact bodyPost_ret (v:=.agg #[.int .i64 7,.bool false,.slice none 0 0,.string ⟨#[]⟩,.slice vo N vc]) (by simp[results,Tryz.results10,go_sem,r0,r1,r2,r3,r4]) rfl ⟨_,_,rfl,h1,h2,rfl,h3,h4⟩
def opAttame_1s (j:Nat):Int:=[(14:Int),(12:Int),(13:Int),(15:Int),(16:Int),(16:Int),(17:Int),(18:Int),(19:Int),(20:Int)].getD j 0
theorem tame_1s (d:Nat) (hd0:1<=d) (hd:d<=100) (IT:TameC d) (xo:Int) (xb:Bool) (xao:Option Addr) (xl xc:Nat) (xnm:ByteArray) (xko:Option Addr) (xkl xkc:Nat) (w:World) (hx:RawF w (d+1) ⟨xo,xb,xao,xl,xc,xnm,xko,xkl,xkc⟩) :
  Calls Tryz.prog 10 #[.agg #[.int .i64 xo,.bool xb,.slice xao xl xc,.string xnm,.slice xko xkl xkc],.int .i64 1,.int .i64 ((d:Nat)+1:Int)] w (TamePost (d+1) 1 w):=by
 have HX:=Lib.hid hx;have HIT:=Lib.hid IT;have HD0:=Lib.hid hd0;have HD:=Lib.hid hd;have hdle:decide (((d:Nat)+1:Int)<=1)=false:=by simp;omega
 clear IT hd0 hd;obtain⟨-,hn,-,⟨hk1,hk2⟩,-⟩:=hx;simp only at hn hk1 hk2;have hxm:xkc<=9223372036854775807:=hk2;obtain⟨m,hm⟩:∃ m,m=min xl 2:=⟨_,rfl⟩
 have hmin:min (xl:Int) 2=(m:Int):=by omega
 have hm2:m<=2:=by omega
 have hml:m<=xl:=by omega
 have hx2:∃ q,GN w (.slice xao m xc) q 2/\xl<=xc/\xc<=9223372036854775807:=by
  obtain⟨xs,hs,hdg⟩:=hn;have hl:=sl_len hs;obtain⟨_,_,e,h1,h2,_⟩:=id hs;injection e with e1 e2 e3;subst e3;exact⟨_,⟨xs.take m,hs.take m (by omega),hdg.take m,rfl,by rw[List.length_take];omega⟩,by omega,h2⟩
 obtain⟨q,hq,hlc,hc⟩:=hx2;have hmc:m<=xc:=by omega
 have HG:=Lib.hid hq;clear hq hn hm hk2;obtain⟨K,hK,hK2⟩:=and_255 xo;obtain⟨j,hj⟩:∃ j,j=K % 10:=⟨_,rfl⟩
 have hjm:((K:Nat):Int).tmod 10=((j:Nat):Int):=by rw[hj];exact (Int.ofNat_tmod K 10).symm
 have hjN:j<10:=by rw[hj];exact Nat.mod_lt _ (by decide)
 clear hj hK2;have HW:=Lib.hid (Below.refl w.heap.size w);go_enter Tryz.func10,Tryz.ntmps10
 obtain⟨x1,kf,ef,ekf,hbf,hkf,HBf⟩:=newV w #[.int .i64 xo,.bool xb,.slice xao xl xc,.string xnm,.slice xko xkl xkc] 29;replace HW:=Lib.hid (HW.out.trans (hbf.out.mono HW.out.size));replace HG:=Lib.hid (HG.out.below hbf.out);obtain⟨x2,kd,ed,ekd,hbd,hkd,HBd⟩:=newV x1 #[.int .i64 ((d:Nat)+1:Int)] 3;replace HBf:=kBV hbd.out HBf;replace HW:=Lib.hid (HW.out.trans (hbd.out.mono HW.out.size));replace HG:=Lib.hid (HG.out.below hbd.out);obtain⟨x3,kr,er,ekr,hbr,hkr,HBr⟩:=newV x2 #[.int .i64 0,.bool false,.slice none 0 0,.string ⟨#[]⟩,.slice none 0 0] 29;replace HBf:=kBV hbr.out HBf;replace HBd:=kBV hbr.out HBd;replace HW:=Lib.hid (HW.out.trans (hbr.out.mono HW.out.size));replace HG:=Lib.hid (HG.out.below hbr.out);have HKR:Hid (w.heap.size<=kr):=Lib.hid (by have h1:=hbf.out.size;have h2:=hbd.out.size;have h3:=hkr.out;omega)
 obtain⟨x4,kp,ep,ekp,hbp,hkp,HBp⟩:=newV x3 #[.int .i64 1,.int .i64 0,.int .i64 2,.int .i64 3,.int .i64 4,.int .i64 5,.int .i64 6,.int .i64 7] 22;replace HBf:=kBV hbp.out HBf;replace HBd:=kBV hbp.out HBd;replace HBr:=kBV hbp.out HBr;replace HW:=Lib.hid (HW.out.trans (hbp.out.mono HW.out.size));replace HG:=Lib.hid (HG.out.below hbp.out);obtain⟨x5,kq,eq,ekq,hbq,hkq,HBq⟩:=newV x4 #[.int .i64 14,.int .i64 12,.int .i64 13,.int .i64 15,.int .i64 16,.int .i64 16,.int .i64 17,.int .i64 18,.int .i64 19,.int .i64 20] 22;replace HBf:=kBV hbq.out HBf;replace HBd:=kBV hbq.out HBd;replace HBr:=kBV hbq.out HBr;replace HBp:=kBV hbq.out HBp;replace HW:=Lib.hid (HW.out.trans (hbq.out.mono HW.out.size));replace HG:=Lib.hid (HG.out.below hbq.out)
 obtain⟨x6,kt,et,ekt,hbt,hkt,HBt⟩:=newV x5 #[.int .i64 8,.int .i64 9,.int .i64 10,.int .i64 11] 22;replace HBf:=kBV hbt.out HBf;replace HBd:=kBV hbt.out HBd;replace HBr:=kBV hbt.out HBr;replace HBp:=kBV hbt.out HBp;replace HBq:=kBV hbt.out HBq;replace HW:=Lib.hid (HW.out.trans (hbt.out.mono HW.out.size));replace HG:=Lib.hid (HG.out.below hbt.out);have hidx:=idx3_1 (some ⟨kp,0,none⟩) (some ⟨kq,0,none⟩) (some ⟨kt,0,none⟩) 8 10 4 8 10 4;have f0:=cell_at (v:=.int .i64 xo) HBf.out 0 rfl;have ff0:=froz_at HBf.out 0;have f1:=cell_at (v:=.bool xb) HBf.out 1 rfl;have ff1:=froz_at HBf.out 1;have f2:=cell_at (v:=.slice xao xl xc) HBf.out 2 rfl;have ff2:=froz_at HBf.out 2;have f3:=cell_at (v:=.string xnm) HBf.out 3 rfl;have ff3:=froz_at HBf.out 3;have f4:=cell_at (v:=.slice xko xkl xkc) HBf.out 4 rfl;have ff4:=froz_at HBf.out 4
 have d0:=cell_at (v:=.int .i64 ((d:Nat)+1:Int)) HBd.out 0 rfl;have fd0:=froz_at HBd.out 0
 have hop:x6.cell? ⟨kq,j,none⟩=some (.int .i64 (opAttame_1s j)):=by
  have:j=0\/j=1\/j=2\/j=3\/j=4\/j=5\/j=6\/j=7\/j=8\/j=9:=by omega
  rcases this with rfl | rfl | rfl | rfl | rfl | rfl | rfl | rfl | rfl | rfl<;>exact cell_at HBq.out _ rfl
 obtain⟨op,hopd⟩:∃ op,op=opAttame_1s j:=⟨_,rfl⟩
 rw[<-hopd] at hop;have HOP:=Lib.hid hopd;clear hopd;go_upto_region 7 with fail
 clear f0 ff0 f1 ff1 f2 ff2 f3 ff3 f4 ff4 d0 fd0 hop;clear hidx hjm hK;have HWp:=HW;have HBfp:=HBf;have HBdp:=HBd;have HBrp:=HBr;obtain⟨x7,ko,eo,eko,hbo,hko,HBo⟩:=newV x6 #[.int .i64 op,.bool false,.slice none 0 0,.string ⟨#[]⟩,.slice none 0 0] 29;replace HBf:=kBV hbo.out HBf;replace HBd:=kBV hbo.out HBd;replace HBr:=kBV hbo.out HBr;replace HBp:=kBV hbo.out HBp;replace HBq:=kBV hbo.out HBq;replace HBt:=kBV hbo.out HBt;replace HW:=Lib.hid (HW.out.trans (hbo.out.mono HW.out.size));replace HG:=Lib.hid (HG.out.below hbo.out);rw[eo,eko];have HKO:Hid (w.heap.size<=ko):=Lib.hid (by have:=HWp.out.size;have:=hko.out;omega);go_upto_region 8 with fail
 have HY:=Lib.hid (Below.refl x7.heap.size x7);have HBf0:=HBf;have HBd0:=HBd;have HBr0:=HBr;have HBo0:=HBo;have hlt_f:=lt_of_block HBf.out;have hog:Hid (∀ q,q<0->(fun q=>0) q<x7.heap.size):=Lib.hid (fun q h=>absurd h (Nat.not_lt_zero _));refine R7.region (by kernel_rfl) [[],[0],[0,1],[],[3],[3,4],[],[6],[6,7],[6,7,8],[6,7,8,9],[3,4,5,6,7,8,9,10],[0,1,2,3,4,5,6,7,8,9,10,11],[],[0,1,2,3,4,5,6,7,8,9,10,11,12,13]] [] [] (fun q=>0) 0 14 (by kernel_rfl) (by kernel_rfl) (by rfl) hog.out (fun q q' h h' hn=>absurd hn (by omega)) ?_;refine R7.Chain.det ?_ (by rfl) (fun T xs wr hA=>?_) ?_
 rotate_left 1
 ·have e3:=hA.pre 3 (by kernel_rfl);simp only[gsa,gsc,gsz] at e3;clear hA;refine⟨(by rfl),?_⟩;go_simp<;>(try with_reducible rfl)
 refine R7.Chain.det ?_ (by rfl) (fun T xs wr hA=>?_) ?_
 rotate_left 1
 ·have e36:=hA.tm 0 36 (by rfl) (by rfl);have f36:xs 0=_:=hA.fa 0 (by rfl)
  (try simp (disch:=first | rfl | decide) only [R7.mask_in] at f36)
  rw[f36] at e36;clear f36;clear hA;refine⟨(by rfl),?_⟩;go_simp<;>(try with_reducible rfl)
 refine R7.Chain.det ?_ (by rfl) (fun T xs wr hA=>?_) ?_
 rotate_left 1
 ·have e37:=hA.tm 1 37 (by rfl) (by rfl);have f37:xs 1=_:=hA.fa 1 (by rfl)
  (try simp (disch:=first | rfl | decide) only [R7.mask_in] at f37)
  rw[f37] at e37;clear f37;have hBq:wr.heap[kf]?=_:=(hA.bl _ hlt_f (fun q h=>absurd h (Nat.not_lt_zero _))).trans HBf.out;have q0:=cell_at (v:=.int .i64 xo) hBq 0 rfl;have q1:=cell_at (v:=.bool xb) hBq 1 rfl;have q2:=cell_at (v:=.slice xao xl xc) hBq 2 rfl;have q3:=cell_at (v:=.string xnm) hBq 3 rfl;have q4:=cell_at (v:=.slice xko xkl xkc) hBq 4 rfl;clear hBq;clear hA;refine⟨(by rfl),?_⟩;go_simp<;>(try with_reducible rfl)
 refine R7.Chain.det ?_ (by rfl) (fun T xs wr hA=>?_) ?_
 rotate_left 1
 ·have e3:=hA.pre 3 (by kernel_rfl);simp only[gsa,gsc,gsz] at e3;clear hA;refine⟨(by rfl),?_⟩;go_simp<;>(try with_reducible rfl)
 refine R7.Chain.det ?_ (by rfl) (fun T xs wr hA=>?_) ?_
 rotate_left 1
 ·have e39:=hA.tm 3 39 (by rfl) (by rfl);have f39:xs 3=_:=hA.fa 3 (by rfl)
  (try simp (disch:=first | rfl | decide) only [R7.mask_in] at f39)
  rw[f39] at e39;clear f39;clear hA;refine⟨(by rfl),?_⟩;go_simp<;>(try with_reducible rfl)
 refine R7.Chain.det ?_ (by rfl) (fun T xs wr hA=>?_) ?_
 rotate_left 1
 ·have e40:=hA.tm 4 40 (by rfl) (by rfl);have f40:xs 4=_:=hA.fa 4 (by rfl)
  (try simp (disch:=first | rfl | decide) only [R7.mask_in] at f40)
  rw[f40] at e40;clear f40;have hBq:wr.heap[kf]?=_:=(hA.bl _ hlt_f (fun q h=>absurd h (Nat.not_lt_zero _))).trans HBf.out;have q0:=cell_at (v:=.int .i64 xo) hBq 0 rfl;have q1:=cell_at (v:=.bool xb) hBq 1 rfl;have q2:=cell_at (v:=.slice xao xl xc) hBq 2 rfl;have q3:=cell_at (v:=.string xnm) hBq 3 rfl;have q4:=cell_at (v:=.slice xko xkl xkc) hBq 4 rfl;clear hBq;clear hA;refine⟨(by rfl),?_⟩;go_simp<;>(try with_reducible rfl)
 refine R7.Chain.det ?_ (by rfl) (fun T xs wr hA=>?_) ?_
 rotate_left 1
 ·have e3:=hA.pre 3 (by kernel_rfl);simp only[gsa,gsc,gsz] at e3;clear hA;refine⟨(by rfl),?_⟩;go_simp<;>(try with_reducible rfl)
 refine R7.Chain.det ?_ (by rfl) (fun T xs wr hA=>?_) ?_
 rotate_left 1
 ·have e42:=hA.tm 6 42 (by rfl) (by rfl);have f42:xs 6=_:=hA.fa 6 (by rfl)
  (try simp (disch:=first | rfl | decide) only [R7.mask_in] at f42)
  rw[f42] at e42;clear f42;clear hA;refine⟨(by rfl),?_⟩;go_simp<;>(try with_reducible rfl)
 refine R7.Chain.det ?_ (by rfl) (fun T xs wr hA=>?_) ?_
 rotate_left 1
 ·have e43:=hA.tm 7 43 (by rfl) (by rfl);have f43:xs 7=_:=hA.fa 7 (by rfl)
  (try simp (disch:=first | rfl | decide) only [R7.mask_in] at f43)
  rw[f43] at e43;clear f43;have hBq:wr.heap[kf]?=_:=(hA.bl _ hlt_f (fun q h=>absurd h (Nat.not_lt_zero _))).trans HBf.out;have q0:=cell_at (v:=.int .i64 xo) hBq 0 rfl;have q1:=cell_at (v:=.bool xb) hBq 1 rfl;have q2:=cell_at (v:=.slice xao xl xc) hBq 2 rfl;have q3:=cell_at (v:=.string xnm) hBq 3 rfl;have q4:=cell_at (v:=.slice xko xkl xkc) hBq 4 rfl;clear hBq;clear hA;refine⟨(by rfl),?_⟩;go_simp<;>(try with_reducible rfl)
 refine R7.Chain.det ?_ (by rfl) (fun T xs wr hA=>?_) ?_
 rotate_left 1
 ·have e44:=hA.tm 8 44 (by rfl) (by rfl);have f44:xs 8=_:=hA.fa 8 (by rfl)
  (try simp (disch:=first | rfl | decide) only [R7.mask_in] at f44)
  rw[f44] at e44;clear f44;clear hA;refine⟨(by rfl),?_⟩;go_simp<;>(try with_reducible rfl)
 refine R7.Chain.det ?_ (by rfl) (fun T xs wr hA=>?_) ?_
 rotate_left 1
 ·have e45:=hA.tm 9 45 (by rfl) (by rfl);have f45:xs 9=_:=hA.fa 9 (by rfl)
  (try simp (disch:=first | rfl | decide) only [R7.mask_in] at f45)
  rw[f45] at e45;clear f45;clear hA;refine⟨(by rfl),?_⟩;go_simp<;>(try with_reducible rfl)
 refine R7.Chain.det ?_ (by rfl) (fun T xs wr hA=>?_) ?_
 rotate_left 1
 ·have e41:=hA.tm 5 41 (by rfl) (by rfl);have f41:xs 5=_:=hA.fa 5 (by rfl)
  (try simp (disch:=first | rfl | decide) only [R7.mask_in] at f41)
  rw[f41] at e41;clear f41;have e46:=hA.tm 10 46 (by rfl) (by rfl);have f46:xs 10=_:=hA.fa 10 (by rfl)
  (try simp (disch:=first | rfl | decide) only [R7.mask_in] at f46)
  rw[f46] at e46;clear f46;clear hA;refine⟨(by rfl),?_⟩;go_simp<;>(try with_reducible rfl)
 refine R7.Chain.call (fun xs v w=>∃ z,CI w v z 2) (fun _ _ _ _ h hb=>by obtain⟨z,h2⟩:=h;exact⟨z,h2.below hb⟩) (fun _ _ _ _ _ _ h _=>by obtain⟨q,hq,_⟩:=h;exact absurd hq (Nat.not_lt_zero _)) (by rfl) (fun T xs wr hA=>?_) ?_
 ·have hsw:=(hA.be 0 (Nat.zero_le _) (fun _ _=>Nat.zero_le _)).size;have e38:=hA.tm 2 38 (by rfl) (by rfl);have f38:xs 2=_:=hA.fa 2 (by rfl)
  (try simp (disch:=first | rfl | decide) only [R7.mask_in] at f38)
  rw[f38] at e38;clear f38;have e47:=hA.tm 11 47 (by rfl) (by rfl);have f47:xs 11=_:=hA.fa 11 (by rfl)
  (try simp (disch:=first | rfl | decide) only [R7.mask_in] at f47)
  rw[f47] at e47;clear f47;have hbw:=undrew (hA.be x7.heap.size (Nat.le_refl _) (fun q h=>absurd h (Nat.not_lt_zero q)));clear hA;refine⟨(by rfl),fun K hK=>?_⟩;go_simp
  refine (big_any xb _ q 2 wr (HG.out.below hbw) (by decide)).mono ?_;rintro e w' ⟨v,rfl,hc,hb'⟩;exact hK.out _ _ ⟨_,hc⟩ hb'
 refine R7.Chain.call (fun xs v w=>∃ g,v=.pointer (some ⟨g,0,none⟩)/\x7.heap.size<=g/\w.heap[g]?=some (.cells #[.bool false,.slice none 0 0] 26 (0,0))) (fun _ _ _ _ h hb=>by obtain⟨g,h1,h2,h3⟩:=h;exact⟨g,h1,h2,by rw[hb.block g (lt_of_block h3)];exact h3⟩) (fun _ _ _ _ _ _ h _=>by obtain⟨q,hq,_⟩:=h;exact absurd hq (Nat.not_lt_zero _)) (by rfl) (fun T xs wr hA=>?_) ?_
 ·have hsw:=(hA.be 0 (Nat.zero_le _) (fun _ _=>Nat.zero_le _)).size;have hbw:=undrew (hA.be x7.heap.size (Nat.le_refl _) (fun q h=>absurd h (Nat.not_lt_zero q)));clear hA;refine⟨(by rfl),fun K hK=>?_⟩;go_simp
  exact hK.out _ _ ⟨_,rfl,hbw.size,made_at _ _ _ rfl⟩ ((Below.refl _ _).alloc (Nat.le_refl _) _)
 refine R7.Chain.done (fun xs x8 hL=>?_);obtain⟨⟨hbe,hbl⟩,hf,-,-⟩:=hL;have f0:xs 0=_:=hf 0 (by decide)
 (try simp (disch:=first | rfl | decide) only [R7.mask_in] at f0)
 have f1:xs 1=_:=hf 1 (by decide)
 (try simp (disch:=first | rfl | decide) only [R7.mask_in] at f1)
 have f2:xs 2=_:=hf 2 (by decide)
 (try simp (disch:=first | rfl | decide) only [R7.mask_in] at f2)
 have f3:xs 3=_:=hf 3 (by decide)
 (try simp (disch:=first | rfl | decide) only [R7.mask_in] at f3)
 have f4:xs 4=_:=hf 4 (by decide)
 (try simp (disch:=first | rfl | decide) only [R7.mask_in] at f4)
 have f5:xs 5=_:=hf 5 (by decide)
 (try simp (disch:=first | rfl | decide) only [R7.mask_in] at f5)
 have f6:xs 6=_:=hf 6 (by decide)
 (try simp (disch:=first | rfl | decide) only [R7.mask_in] at f6)
 have f7:xs 7=_:=hf 7 (by decide)
 (try simp (disch:=first | rfl | decide) only [R7.mask_in] at f7)
 have f8:xs 8=_:=hf 8 (by decide)
 (try simp (disch:=first | rfl | decide) only [R7.mask_in] at f8)
 have f9:xs 9=_:=hf 9 (by decide)
 (try simp (disch:=first | rfl | decide) only [R7.mask_in] at f9)
 have f10:xs 10=_:=hf 10 (by decide)
 (try simp (disch:=first | rfl | decide) only [R7.mask_in] at f10)
 have f11:xs 11=_:=hf 11 (by decide)
 (try simp (disch:=first | rfl | decide) only [R7.mask_in] at f11)
 have F12:∃ z,CI x8 (xs 12) z 2:=hf 12 (by decide);have F13:∃ g,(xs 13)=.pointer (some ⟨g,0,none⟩)/\x7.heap.size<=g/\x8.heap[g]?=some (.cells #[.bool false,.slice none 0 0] 26 (0,0)):=hf 13 (by decide);have hb0:Below 0 x7 x8:=undrew (hbe 0 (Nat.zero_le _) (fun _ _=>Nat.zero_le _));have hgr:∀ j,j<x7.heap.size->(∀ q,q<0->(fun q=>0) q≠j)->x8.heap[j]?=x7.heap[j]?:=hbl;clear hbe hbl hf;have hb:Below x7.heap.size x7 x8:=⟨hb0.os,hb0.tape,hb0.output,hb0.size,fun q hq=>hgr q hq (fun q h=>absurd h (Nat.not_lt_zero _))⟩
 refine R7.rest_list (by decide) (by kernel_rfl) ?_;simp only[R7.fill,t1_,t2_,t3_,t4_,t5_,t6_,t7_,f0,f1,f2,f3,f4,f5,f6,f7,f8,f9,f10,f11];clear hb0 hgr hog hlt_f f0 f1 f2 f3 f4 f5 f6 f7 f8 f9 f10 f11;replace HBf:=kBV hb HBf;replace HBd:=kBV hb HBd;replace HBr:=kBV hb HBr;replace HBp:=kBV hb HBp;replace HBq:=kBV hb HBq;replace HBt:=kBV hb HBt;replace HBo:=kBV hb HBo;replace HW:=Lib.hid (HW.out.trans (hb.mono HW.out.size));replace HG:=Lib.hid (HG.out.below hb);replace HY:=Lib.hid (HY.out.trans (hb.mono HY.out.size));replace hb:=Lib.hid hb;obtain⟨z,hcz⟩:=F12;obtain⟨zb,zo,zl,zc,hzv⟩:=hcz.shape;obtain⟨km,hkm,hkm1,hkm2⟩:=F13;rw[hzv] at hcz;rw[hzv,hkm];have HC:=Lib.hid (hcz.mono (k':=600) (by decide));have HCZ:=Lib.hid hcz.lt;have HBm:=Lib.hid hkm2;clear hcz hzv hkm hkm2;have m0:=cell_at (v:=.bool false) HBm.out 0 rfl
 have fm0:=froz_at HBm.out 0;have m1:=cell_at (v:=.slice none 0 0) HBm.out 1 rfl;have fm1:=froz_at HBm.out 1;go_upto_region 9 with fail
 clear m0 fm0 m1 fm1;have hg1:=grown2V (w:=x8) (k:=km) (.bool zb) (.slice zo zl zc);have hb1:((x8.setCell ⟨km,0,none⟩ (.bool zb)).setCell ⟨km,1,none⟩ (.slice zo zl zc)).heap[km]?=_:=heap_setCell_same _ km 1 _ _ _ (heap_setCell_same _ km 0 _ _ _ HBm.out);obtain⟨W1,hW1⟩:∃ q,q=(x8.setCell ⟨km,0,none⟩ (.bool zb)).setCell ⟨km,1,none⟩ (.slice zo zl zc):=⟨_,rfl⟩
 rw[<-hW1] at hg1 hb1 ⊢;have hf1:Fr 26 x8 W1:=.of_grown hg1 (fun j hj=>by injection hj with hj;subst hj;exact⟨_,HBm.out,n32_2⟩);have HKM:Hid (w.heap.size<=km):=Lib.hid (Nat.le_trans (by have:=HKO.out;have:=lt_of_block HBo0.out;omega) hkm1);replace HW:=Lib.hid (ext_below HW.out hg1 HKM.out);replace HY:=Lib.hid (ext_below HY.out hg1 hkm1);replace HC:=Lib.hid (HC.out.fr hf1);replace HBf:=Lib.hid ((HY.out.block _ (lt_of_block HBf0.out)).trans HBf0.out);replace HBd:=Lib.hid ((HY.out.block _ (lt_of_block HBd0.out)).trans HBd0.out);replace HBr:=Lib.hid ((HY.out.block _ (lt_of_block HBr0.out)).trans HBr0.out);replace HBo:=Lib.hid ((HY.out.block _ (lt_of_block HBo0.out)).trans HBo0.out);replace HBm:=Lib.hid hb1;clear hg1 hb1 hW1 hf1 hkm1
 have HLOW:Hid (kf<W1.heap.size/\kd<W1.heap.size/\kr<W1.heap.size/\ko<W1.heap.size):=Lib.hid ⟨lt_of_block HBf.out,lt_of_block HBd.out,lt_of_block HBr.out,lt_of_block HBo.out⟩;have HDIS:Hid (kf≠ko/\kd≠ko/\kr≠ko):=Lib.hid (by have h1:=lt_of_block HBfp.out;have h2:=lt_of_block HBdp.out;have h3:=lt_of_block HBrp.out;rw[eko] at h1 h2 h3;omega);have HB0:Hid (w.heap.size<=W1.heap.size):=Lib.hid HW.out.size;have hjc:j=0\/j=1\/j=2\/j=3\/j=4\/j=5\/j=6\/j=7\/j=8\/j=9:=by omega
 rcases hjc with rfl | rfl | rfl | rfl | rfl | rfl | rfl | rfl | rfl | rfl
 ·have hop2:op=14:=HOP.out;subst hop2;clear HOP;have HSZP:Hid (W1.heap.size<=W1.heap.size):=Lib.hid (Nat.le_refl _);rcases (tmod_cases xnm.size).2 with hr | hr
  ·have o0:=cell_at (v:=.int .i64 14) HBo.out 0 rfl;have fo0:=froz_at HBo.out 0;have o1:=cell_at (v:=.bool false) HBo.out 1 rfl;have fo1:=froz_at HBo.out 1;have o2:=cell_at (v:=.slice none 0 0) HBo.out 2 rfl;have fo2:=froz_at HBo.out 2;have o3:=cell_at (v:=.string ⟨#[]⟩) HBo.out 3 rfl;have fo3:=froz_at HBo.out 3;have o4:=cell_at (v:=.slice none 0 0) HBo.out 4 rfl;have fo4:=froz_at HBo.out 4;have m0:=cell_at (v:=.bool zb) HBm.out 0 rfl;have fm0:=froz_at HBm.out 0;have m1:=cell_at (v:=.slice zo zl zc) HBm.out 1 rfl;have fm1:=froz_at HBm.out 1;have f0:=cell_at (v:=.int .i64 xo) HBf.out 0 rfl;have ff0:=froz_at HBf.out 0;have f1:=cell_at (v:=.bool xb) HBf.out 1 rfl;have ff1:=froz_at HBf.out 1;have f2:=cell_at (v:=.slice xao xl xc) HBf.out 2 rfl;have ff2:=froz_at HBf.out 2;have f3:=cell_at (v:=.string xnm) HBf.out 3 rfl
   have ff3:=froz_at HBf.out 3;have f4:=cell_at (v:=.slice xko xkl xkc) HBf.out 4 rfl;have ff4:=froz_at HBf.out 4;have hcv:=one_byteL 48 48 (by decide) W1;obtain⟨x9,ky,ey,eky,hby,hky,HBy⟩:=newV W1 #[.int .u8 48] 5;replace HBf:=kBV hby.out HBf;replace HBd:=kBV hby.out HBd;replace HBr:=kBV hby.out HBr;replace HBo:=kBV hby.out HBo;replace HBm:=kBV hby.out HBm;replace HW:=Lib.hid (HW.out.trans (hby.out.mono HW.out.size));replace HC:=Lib.hid (HC.out.below hby.out);rw[ey,eky] at hcv;have p0:=cell_at (v:=.int .i64 14) HBo.out 0 rfl;have fp0:=froz_at HBo.out 0;have p1:=cell_at (v:=.bool false) HBo.out 1 rfl;have fp1:=froz_at HBo.out 1;have p2:=cell_at (v:=.slice none 0 0) HBo.out 2 rfl;have fp2:=froz_at HBo.out 2;have p3:=cell_at (v:=.string ⟨#[]⟩) HBo.out 3 rfl;have fp3:=froz_at HBo.out 3
   have p4:=cell_at (v:=.slice none 0 0) HBo.out 4 rfl;have fp4:=froz_at HBo.out 4;replace HSZP:=Lib.hid (Nat.le_trans HSZP.out hby.out.size);go_upto_region 21 with fail
   clear o0 fo0 o1 fo1 o2 fo2 o3 fo3 o4 fo4 m0 fm0 m1 fm1 f0 ff0 f1 ff1 f2 ff2 f3 ff3 f4 ff4 p0 fp0 p1 fp1 p2 fp2 p3 fp3 p4 fp4
   try clear hcv
   try clear hr
   rw[show ((⟨#[98]⟩:ByteArray)++⟨#[48]⟩)=⟨#[98,48]⟩ from rfl];have hgo:x9.grownBy (x9.setCell ⟨ko,3,none⟩ (.string ⟨#[98,48]⟩)) (some ko):=by refine grown_setCell ?_ _;exact World.grownBy.refl _ _
   have hbo:(x9.setCell ⟨ko,3,none⟩ (.string ⟨#[98,48]⟩)).heap[ko]?=_:=(heap_setCell_same _ ko 3 _ _ (.string ⟨#[98,48]⟩) HBo.out)
   obtain⟨W2,hW2⟩:∃ q,q=x9.setCell ⟨ko,3,none⟩ (.string ⟨#[98,48]⟩):=⟨_,rfl⟩
   rw[<-hW2] at hgo hbo ⊢;have hfo:Fr 29 x9 W2:=.of_grown hgo (fun j hj=>by injection hj with hj;subst hj;exact⟨_,HBo.out,n32_F⟩);replace HW:=Lib.hid (ext_below HW.out hgo HKO.out);replace HC:=Lib.hid (HC.out.fr hfo);replace HBf:=Lib.hid ((hgo.block _ (lt_of_block HBf.out) (fun e=>by injection e with e;exact HDIS.out.1 e)).trans HBf.out);replace HBd:=Lib.hid ((hgo.block _ (lt_of_block HBd.out) (fun e=>by injection e with e;exact HDIS.out.2.1 e)).trans HBd.out);replace HBr:=Lib.hid ((hgo.block _ (lt_of_block HBr.out) (fun e=>by injection e with e;exact HDIS.out.2.2 e)).trans HBr.out);have HSZW:Hid (W1.heap.size<=W2.heap.size):=Lib.hid (Nat.le_trans HSZP.out hgo.size);replace HBo:=Lib.hid hbo;clear hgo hbo hW2 hfo HSZP;have HSZP:=HSZW;clear HSZW
   have HT:Hid (TSt w W1.heap.size kf kd kr ko ⟨xo,xb,xao,xl,xc,xnm,xko,xkl,xkc⟩ ((d:Nat)+1) 14 false none 0 0 (⟨#[98,48]⟩) (0) d [] (.slice none 0 0) [] W2):=Lib.hid (TSt.zero HBo.out HBf.out HBd.out HBr.out (nr0 _) HLOW.out HDIS.out HKO.out HW.out HSZP.out);have o0:=cell_at (v:=.int .i64 14) HBo.out 0 rfl;have fo0:=froz_at HBo.out 0;have o1:=cell_at (v:=.bool false) HBo.out 1 rfl;have fo1:=froz_at HBo.out 1;have o2:=cell_at (v:=.slice none 0 0) HBo.out 2 rfl;have fo2:=froz_at HBo.out 2;have o3:=cell_at (v:=.string ⟨#[98,48]⟩) HBo.out 3 rfl;have fo3:=froz_at HBo.out 3;have o4:=cell_at (v:=.slice none 0 0) HBo.out 4 rfl;have fo4:=froz_at HBo.out 4;obtain⟨⟨r0,r1,r2,r3,r4⟩,fr0,fr1,fr2,fr3,fr4⟩:=cells5V HBr.out;go_wp2_with fail
   clear o0 fo0 o1 fo1 o2 fo2 o3 fo3 o4 fo4;have hg:=grown5V (w:=W2) (k:=kr) (.int .i64 14) (.bool false) (.slice none 0 0) (.string ⟨#[98,48]⟩) (.slice none 0 0);have hf:Fr 29 W2 _:=.of_grown hg (fun j hj=>by injection hj with hj;subst hj;exact⟨_,HBr.out,n32_F⟩);obtain⟨h1,h2,h3,h4⟩:=HT.out.fin hg hf (by unfold IR;decide) HB0.out HKR.out (by unfold NmOk;simp) (small4 (by decide)) (fun _ _ _=>rfl) (by simp) (rfl)
   (try simp only[Exit.inBlock,Exit.then])
   exact bodyPost_ret (v:=.agg #[.int .i64 14,.bool false,.slice none 0 0,.string ⟨#[98,48]⟩,.slice none 0 0]) (by simp[results,Tryz.results10,go_sem,r0,r1,r2,r3,r4]) rfl ⟨_,_,rfl,h1,h2,rfl,h3,h4⟩
  have o0:=cell_at (v:=.int .i64 14) HBo.out 0 rfl;have fo0:=froz_at HBo.out 0;have o1:=cell_at (v:=.bool false) HBo.out 1 rfl;have fo1:=froz_at HBo.out 1;have o2:=cell_at (v:=.slice none 0 0) HBo.out 2 rfl;have fo2:=froz_at HBo.out 2;have o3:=cell_at (v:=.string ⟨#[]⟩) HBo.out 3 rfl;have fo3:=froz_at HBo.out 3;have o4:=cell_at (v:=.slice none 0 0) HBo.out 4 rfl;have fo4:=froz_at HBo.out 4;have m0:=cell_at (v:=.bool zb) HBm.out 0 rfl;have fm0:=froz_at HBm.out 0;have m1:=cell_at (v:=.slice zo zl zc) HBm.out 1 rfl;have fm1:=froz_at HBm.out 1;have f0:=cell_at (v:=.int .i64 xo) HBf.out 0 rfl;have ff0:=froz_at HBf.out 0;have f1:=cell_at (v:=.bool xb) HBf.out 1 rfl;have ff1:=froz_at HBf.out 1;have f2:=cell_at (v:=.slice xao xl xc) HBf.out 2 rfl;have ff2:=froz_at HBf.out 2;have f3:=cell_at (v:=.string xnm) HBf.out 3 rfl
  have ff3:=froz_at HBf.out 3;have f4:=cell_at (v:=.slice xko xkl xkc) HBf.out 4 rfl;have ff4:=froz_at HBf.out 4;have hcv:=one_byteL 49 49 (by decide) W1;obtain⟨x9,ky,ey,eky,hby,hky,HBy⟩:=newV W1 #[.int .u8 49] 5;replace HBf:=kBV hby.out HBf;replace HBd:=kBV hby.out HBd;replace HBr:=kBV hby.out HBr;replace HBo:=kBV hby.out HBo;replace HBm:=kBV hby.out HBm;replace HW:=Lib.hid (HW.out.trans (hby.out.mono HW.out.size));replace HC:=Lib.hid (HC.out.below hby.out);rw[ey,eky] at hcv;have p0:=cell_at (v:=.int .i64 14) HBo.out 0 rfl;have fp0:=froz_at HBo.out 0;have p1:=cell_at (v:=.bool false) HBo.out 1 rfl;have fp1:=froz_at HBo.out 1;have p2:=cell_at (v:=.slice none 0 0) HBo.out 2 rfl;have fp2:=froz_at HBo.out 2;have p3:=cell_at (v:=.string ⟨#[]⟩) HBo.out 3 rfl;have fp3:=froz_at HBo.out 3
  have p4:=cell_at (v:=.slice none 0 0) HBo.out 4 rfl;have fp4:=froz_at HBo.out 4;replace HSZP:=Lib.hid (Nat.le_trans HSZP.out hby.out.size);go_upto_region 21 with fail
  clear o0 fo0 o1 fo1 o2 fo2 o3 fo3 o4 fo4 m0 fm0 m1 fm1 f0 ff0 f1 ff1 f2 ff2 f3 ff3 f4 ff4 p0 fp0 p1 fp1 p2 fp2 p3 fp3 p4 fp4
  try clear hcv
  try clear hr
  rw[show ((⟨#[98]⟩:ByteArray)++⟨#[49]⟩)=⟨#[98,49]⟩ from rfl];have hgo:x9.grownBy (x9.setCell ⟨ko,3,none⟩ (.string ⟨#[98,49]⟩)) (some ko):=by refine grown_setCell ?_ _;exact World.grownBy.refl _ _
  have hbo:(x9.setCell ⟨ko,3,none⟩ (.string ⟨#[98,49]⟩)).heap[ko]?=_:=(heap_setCell_same _ ko 3 _ _ (.string ⟨#[98,49]⟩) HBo.out)
  obtain⟨W2,hW2⟩:∃ q,q=x9.setCell ⟨ko,3,none⟩ (.string ⟨#[98,49]⟩):=⟨_,rfl⟩
  rw[<-hW2] at hgo hbo ⊢;have hfo:Fr 29 x9 W2:=.of_grown hgo (fun j hj=>by injection hj with hj;subst hj;exact⟨_,HBo.out,n32_F⟩);replace HW:=Lib.hid (ext_below HW.out hgo HKO.out);replace HC:=Lib.hid (HC.out.fr hfo);replace HBf:=Lib.hid ((hgo.block _ (lt_of_block HBf.out) (fun e=>by injection e with e;exact HDIS.out.1 e)).trans HBf.out);replace HBd:=Lib.hid ((hgo.block _ (lt_of_block HBd.out) (fun e=>by injection e with e;exact HDIS.out.2.1 e)).trans HBd.out);replace HBr:=Lib.hid ((hgo.block _ (lt_of_block HBr.out) (fun e=>by injection e with e;exact HDIS.out.2.2 e)).trans HBr.out);have HSZW:Hid (W1.heap.size<=W2.heap.size):=Lib.hid (Nat.le_trans HSZP.out hgo.size);replace HBo:=Lib.hid hbo;clear hgo hbo hW2 hfo HSZP;have HSZP:=HSZW;clear HSZW
  have HT:Hid (TSt w W1.heap.size kf kd kr ko ⟨xo,xb,xao,xl,xc,xnm,xko,xkl,xkc⟩ ((d:Nat)+1) 14 false none 0 0 (⟨#[98,49]⟩) (0) d [] (.slice none 0 0) [] W2):=Lib.hid (TSt.zero HBo.out HBf.out HBd.out HBr.out (nr0 _) HLOW.out HDIS.out HKO.out HW.out HSZP.out);have o0:=cell_at (v:=.int .i64 14) HBo.out 0 rfl;have fo0:=froz_at HBo.out 0;have o1:=cell_at (v:=.bool false) HBo.out 1 rfl;have fo1:=froz_at HBo.out 1;have o2:=cell_at (v:=.slice none 0 0) HBo.out 2 rfl;have fo2:=froz_at HBo.out 2;have o3:=cell_at (v:=.string ⟨#[98,49]⟩) HBo.out 3 rfl;have fo3:=froz_at HBo.out 3;have o4:=cell_at (v:=.slice none 0 0) HBo.out 4 rfl;have fo4:=froz_at HBo.out 4;obtain⟨⟨r0,r1,r2,r3,r4⟩,fr0,fr1,fr2,fr3,fr4⟩:=cells5V HBr.out;go_wp2_with fail
  clear o0 fo0 o1 fo1 o2 fo2 o3 fo3 o4 fo4;have hg:=grown5V (w:=W2) (k:=kr) (.int .i64 14) (.bool false) (.slice none 0 0) (.string ⟨#[98,49]⟩) (.slice none 0 0);have hf:Fr 29 W2 _:=.of_grown hg (fun j hj=>by injection hj with hj;subst hj;exact⟨_,HBr.out,n32_F⟩);obtain⟨h1,h2,h3,h4⟩:=HT.out.fin hg hf (by unfold IR;decide) HB0.out HKR.out (by unfold NmOk;simp) (small4 (by decide)) (fun _ _ _=>rfl) (by simp) (rfl)
  (try simp only[Exit.inBlock,Exit.then])
  exact bodyPost_ret (v:=.agg #[.int .i64 14,.bool false,.slice none 0 0,.string ⟨#[98,49]⟩,.slice none 0 0]) (by simp[results,Tryz.results10,go_sem,r0,r1,r2,r3,r4]) rfl ⟨_,_,rfl,h1,h2,rfl,h3,h4⟩
 ·have hop2:op=12:=HOP.out;subst hop2;clear HOP;have HSZP:Hid (W1.heap.size<=W1.heap.size):=Lib.hid (Nat.le_refl _);have HT:Hid (TSt w W1.heap.size kf kd kr ko ⟨xo,xb,xao,xl,xc,xnm,xko,xkl,xkc⟩ ((d:Nat)+1) 12 false none 0 0 (⟨#[]⟩) (0) d [] (.slice none 0 0) [] W1):=Lib.hid (TSt.zero HBo.out HBf.out HBd.out HBr.out (nr0 _) HLOW.out HDIS.out HKO.out HW.out HSZP.out);have o0:=cell_at (v:=.int .i64 12) HBo.out 0 rfl;have fo0:=froz_at HBo.out 0;have o1:=cell_at (v:=.bool false) HBo.out 1 rfl;have fo1:=froz_at HBo.out 1;have o2:=cell_at (v:=.slice none 0 0) HBo.out 2 rfl;have fo2:=froz_at HBo.out 2;have o3:=cell_at (v:=.string ⟨#[]⟩) HBo.out 3 rfl;have fo3:=froz_at HBo.out 3;have o4:=cell_at (v:=.slice none 0 0) HBo.out 4 rfl;have fo4:=froz_at HBo.out 4;obtain⟨⟨r0,r1,r2,r3,r4⟩,fr0,fr1,fr2,fr3,fr4⟩:=cells5V HBr.out
  go_wp2_with fail
  clear o0 fo0 o1 fo1 o2 fo2 o3 fo3 o4 fo4;have hg:=grown5V (w:=W1) (k:=kr) (.int .i64 12) (.bool false) (.slice none 0 0) (.string ⟨#[]⟩) (.slice none 0 0);have hf:Fr 29 W1 _:=.of_grown hg (fun j hj=>by injection hj with hj;subst hj;exact⟨_,HBr.out,n32_F⟩);obtain⟨h1,h2,h3,h4⟩:=HT.out.fin hg hf (by unfold IR;decide) HB0.out HKR.out (by unfold NmOk;simp) (small4 (by decide)) (fun _ _ _=>rfl) (by simp) (rfl)
  (try simp only[Exit.inBlock,Exit.then])
  exact bodyPost_ret (v:=.agg #[.int .i64 12,.bool false,.slice none 0 0,.string ⟨#[]⟩,.slice none 0 0]) (by simp[results,Tryz.results10,go_sem,r0,r1,r2,r3,r4]) rfl ⟨_,_,rfl,h1,h2,rfl,h3,h4⟩
 ·have hop2:op=13:=HOP.out;subst hop2;clear HOP;have HSZP:Hid (W1.heap.size<=W1.heap.size):=Lib.hid (Nat.le_refl _);have HT:Hid (TSt w W1.heap.size kf kd kr ko ⟨xo,xb,xao,xl,xc,xnm,xko,xkl,xkc⟩ ((d:Nat)+1) 13 false none 0 0 (⟨#[]⟩) (0) d [] (.slice none 0 0) [] W1):=Lib.hid (TSt.zero HBo.out HBf.out HBd.out HBr.out (nr0 _) HLOW.out HDIS.out HKO.out HW.out HSZP.out);have o0:=cell_at (v:=.int .i64 13) HBo.out 0 rfl;have fo0:=froz_at HBo.out 0;have o1:=cell_at (v:=.bool false) HBo.out 1 rfl;have fo1:=froz_at HBo.out 1;have o2:=cell_at (v:=.slice none 0 0) HBo.out 2 rfl;have fo2:=froz_at HBo.out 2;have o3:=cell_at (v:=.string ⟨#[]⟩) HBo.out 3 rfl;have fo3:=froz_at HBo.out 3;have o4:=cell_at (v:=.slice none 0 0) HBo.out 4 rfl;have fo4:=froz_at HBo.out 4;obtain⟨⟨r0,r1,r2,r3,r4⟩,fr0,fr1,fr2,fr3,fr4⟩:=cells5V HBr.out
  go_wp2_with fail
  clear o0 fo0 o1 fo1 o2 fo2 o3 fo3 o4 fo4;have hg:=grown5V (w:=W1) (k:=kr) (.int .i64 13) (.bool false) (.slice none 0 0) (.string ⟨#[]⟩) (.slice none 0 0);have hf:Fr 29 W1 _:=.of_grown hg (fun j hj=>by injection hj with hj;subst hj;exact⟨_,HBr.out,n32_F⟩);obtain⟨h1,h2,h3,h4⟩:=HT.out.fin hg hf (by unfold IR;decide) HB0.out HKR.out (by unfold NmOk;simp) (small4 (by decide)) (fun _ _ _=>rfl) (by simp) (rfl)
  (try simp only[Exit.inBlock,Exit.then])
  exact bodyPost_ret (v:=.agg #[.int .i64 13,.bool false,.slice none 0 0,.string ⟨#[]⟩,.slice none 0 0]) (by simp[results,Tryz.results10,go_sem,r0,r1,r2,r3,r4]) rfl ⟨_,_,rfl,h1,h2,rfl,h3,h4⟩
 ·have hop2:op=15:=HOP.out;subst hop2;clear HOP;have HSZP:Hid (W1.heap.size<=W1.heap.size):=Lib.hid (Nat.le_refl _);have HT:Hid (TSt w W1.heap.size kf kd kr ko ⟨xo,xb,xao,xl,xc,xnm,xko,xkl,xkc⟩ ((d:Nat)+1) 15 false none 0 0 (⟨#[]⟩) (0) d [] (.slice none 0 0) [] W1):=Lib.hid (TSt.zero HBo.out HBf.out HBd.out HBr.out (nr0 _) HLOW.out HDIS.out HKO.out HW.out HSZP.out);clear HBm;have HKB:Hid (W1.heap.size<=W1.heap.size):=Lib.hid (Nat.le_refl _);have o0:=cell_at (v:=.int .i64 15) HBo.out 0 rfl;have fo0:=froz_at HBo.out 0;have o1:=cell_at (v:=.bool false) HBo.out 1 rfl;have fo1:=froz_at HBo.out 1;have o2:=cell_at (v:=.slice none 0 0) HBo.out 2 rfl;have fo2:=froz_at HBo.out 2;have o3:=cell_at (v:=.string ⟨#[]⟩) HBo.out 3 rfl;have fo3:=froz_at HBo.out 3;have o4:=cell_at (v:=.slice none 0 0) HBo.out 4 rfl;have fo4:=froz_at HBo.out 4
  go_wp2_with fail
  clear o0 fo0 o1 fo1 o2 fo2 o3 fo3 o4 fo4;refine (kid_p d HD.out HIT.out w W1 W1.heap.size kf kd kr ko ⟨xo,xb,xao,xl,xc,xnm,xko,xkl,xkc⟩ HX.out 15 false none 0 0 ⟨#[]⟩ (0) [] _ [] 0 0 (by decide) (by decide) HT.out (by rw[HT.out.len];simp)).mono ?_;rintro e X1 ⟨⟨q0,rfl⟩,t0,v0,us0,hs,ht⟩;replace HT:=Lib.hid ht;have HS0:=Lib.hid hs;clear hs ht;go_wp2_with fail
  refine (kid_p d HD.out HIT.out w X1 W1.heap.size kf kd kr ko ⟨xo,xb,xao,xl,xc,xnm,xko,xkl,xkc⟩ HX.out 15 false none 0 0 ⟨#[]⟩ (0) ([]++[t0]) _ us0 1 0 (by decide) (by decide) HT.out (by rw[HT.out.len];simp)).mono ?_;rintro e X2 ⟨⟨q1,rfl⟩,t1,v1,us1,hs,ht⟩;replace HT:=Lib.hid ht;have HS1:=Lib.hid hs;clear hs ht;obtain⟨vo,vc,hv,-⟩:=HT.out.row.form;subst hv;obtain⟨N,hN⟩:∃ N,N=us1.length:=⟨_,rfl⟩
  rw[<-hN] at HT;clear hN;replace HBo:=Lib.hid HT.out.ho;replace HBr:=Lib.hid HT.out.hr;have o0:=cell_at (v:=.int .i64 15) HBo.out 0 rfl;have fo0:=froz_at HBo.out 0;have o1:=cell_at (v:=.bool false) HBo.out 1 rfl;have fo1:=froz_at HBo.out 1;have o2:=cell_at (v:=.slice none 0 0) HBo.out 2 rfl;have fo2:=froz_at HBo.out 2;have o3:=cell_at (v:=.string ⟨#[]⟩) HBo.out 3 rfl;have fo3:=froz_at HBo.out 3;have o4:=cell_at (v:=.slice vo N vc) HBo.out 4 rfl;have fo4:=froz_at HBo.out 4;obtain⟨⟨r0,r1,r2,r3,r4⟩,fr0,fr1,fr2,fr3,fr4⟩:=cells5V HBr.out;go_wp2_with fail
  clear o0 fo0 o1 fo1 o2 fo2 o3 fo3 o4 fo4;have hg:=grown5V (w:=X2) (k:=kr) (.int .i64 15) (.bool false) (.slice none 0 0) (.string ⟨#[]⟩) (.slice vo N vc);have hf:Fr 29 X2 _:=.of_grown hg (fun j hj=>by injection hj with hj;subst hj;exact⟨_,HBr.out,n32_F⟩);obtain⟨h1,h2,h3,h4⟩:=HT.out.fin hg hf (by unfold IR;decide) HB0.out HKR.out (by unfold NmOk;simp) (small4 (by decide)) (fun _ _ _=>rfl) (by simp) (by simp[fitF,kidsOk,srts,HS0.out,HS1.out])
  (try simp only[Exit.inBlock,Exit.then])
  exact bodyPost_ret (v:=.agg #[.int .i64 15,.bool false,.slice none 0 0,.string ⟨#[]⟩,.slice vo N vc]) (by simp[results,Tryz.results10,go_sem,r0,r1,r2,r3,r4]) rfl ⟨_,_,rfl,h1,h2,rfl,h3,h4⟩
 ·have hop2:op=16:=HOP.out;subst hop2;clear HOP;have HSZP:Hid (W1.heap.size<=W1.heap.size):=Lib.hid (Nat.le_refl _);have hj5:(((4:Nat):Int)==5)=false:=rfl;have HT:Hid (TSt w W1.heap.size kf kd kr ko ⟨xo,xb,xao,xl,xc,xnm,xko,xkl,xkc⟩ ((d:Nat)+1) 16 false none 0 0 (⟨#[]⟩) (0) d [] (.slice none 0 0) [] W1):=Lib.hid (TSt.zero HBo.out HBf.out HBd.out HBr.out (nr0 _) HLOW.out HDIS.out HKO.out HW.out HSZP.out);clear HBm;have HKB:Hid (W1.heap.size<=W1.heap.size):=Lib.hid (Nat.le_refl _);have o0:=cell_at (v:=.int .i64 16) HBo.out 0 rfl;have fo0:=froz_at HBo.out 0;have o1:=cell_at (v:=.bool false) HBo.out 1 rfl;have fo1:=froz_at HBo.out 1;have o2:=cell_at (v:=.slice none 0 0) HBo.out 2 rfl;have fo2:=froz_at HBo.out 2;have o3:=cell_at (v:=.string ⟨#[]⟩) HBo.out 3 rfl;have fo3:=froz_at HBo.out 3
  have o4:=cell_at (v:=.slice none 0 0) HBo.out 4 rfl;have fo4:=froz_at HBo.out 4;go_wp2_with fail
  clear o0 fo0 o1 fo1 o2 fo2 o3 fo3 o4 fo4;refine (kid_p d HD.out HIT.out w W1 W1.heap.size kf kd kr ko ⟨xo,xb,xao,xl,xc,xnm,xko,xkl,xkc⟩ HX.out 16 false none 0 0 ⟨#[]⟩ (0) [] _ [] 0 0 (by decide) (by decide) HT.out (by rw[HT.out.len];simp)).mono ?_;rintro e X1 ⟨⟨q0,rfl⟩,t0,v0,us0,hs,ht⟩;replace HT:=Lib.hid ht;have HS0:=Lib.hid hs;clear hs ht;go_wp2_with fail
  refine (kid_p d HD.out HIT.out w X1 W1.heap.size kf kd kr ko ⟨xo,xb,xao,xl,xc,xnm,xko,xkl,xkc⟩ HX.out 16 false none 0 0 ⟨#[]⟩ (0) ([]++[t0]) _ us0 1 0 (by decide) (by decide) HT.out (by rw[HT.out.len];simp)).mono ?_;rintro e X2 ⟨⟨q1,rfl⟩,t1,v1,us1,hs,ht⟩;replace HT:=Lib.hid ht;have HS1:=Lib.hid hs;clear hs ht;obtain⟨vo,vc,hv,-⟩:=HT.out.row.form;subst hv;obtain⟨N,hN⟩:∃ N,N=us1.length:=⟨_,rfl⟩
  rw[<-hN] at HT;clear hN;replace HBo:=Lib.hid HT.out.ho;replace HBr:=Lib.hid HT.out.hr;have o0:=cell_at (v:=.int .i64 16) HBo.out 0 rfl;have fo0:=froz_at HBo.out 0;have o1:=cell_at (v:=.bool false) HBo.out 1 rfl;have fo1:=froz_at HBo.out 1;have o2:=cell_at (v:=.slice none 0 0) HBo.out 2 rfl;have fo2:=froz_at HBo.out 2;have o3:=cell_at (v:=.string ⟨#[]⟩) HBo.out 3 rfl;have fo3:=froz_at HBo.out 3;have o4:=cell_at (v:=.slice vo N vc) HBo.out 4 rfl;have fo4:=froz_at HBo.out 4;obtain⟨⟨r0,r1,r2,r3,r4⟩,fr0,fr1,fr2,fr3,fr4⟩:=cells5V HBr.out;go_wp2_with fail
  clear o0 fo0 o1 fo1 o2 fo2 o3 fo3 o4 fo4;have hg:=grown5V (w:=X2) (k:=kr) (.int .i64 16) (.bool false) (.slice none 0 0) (.string ⟨#[]⟩) (.slice vo N vc);have hf:Fr 29 X2 _:=.of_grown hg (fun j hj=>by injection hj with hj;subst hj;exact⟨_,HBr.out,n32_F⟩);obtain⟨h1,h2,h3,h4⟩:=HT.out.fin hg hf (by unfold IR;decide) HB0.out HKR.out (by unfold NmOk;simp) (small4 (by decide)) (fun _ _ _=>rfl) (by simp) (by simp[fitF,kidsOk,srts,HS0.out,HS1.out])
  (try simp only[Exit.inBlock,Exit.then])
  exact bodyPost_ret (v:=.agg #[.int .i64 16,.bool false,.slice none 0 0,.string ⟨#[]⟩,.slice vo N vc]) (by simp[results,Tryz.results10,go_sem,r0,r1,r2,r3,r4]) rfl ⟨_,_,rfl,h1,h2,rfl,h3,h4⟩
 ·have hop2:op=16:=HOP.out;subst hop2;clear HOP;have HSZP:Hid (W1.heap.size<=W1.heap.size):=Lib.hid (Nat.le_refl _);have hj5:(((5:Nat):Int)==5)=true:=rfl;have HT:Hid (TSt w W1.heap.size kf kd kr ko ⟨xo,xb,xao,xl,xc,xnm,xko,xkl,xkc⟩ ((d:Nat)+1) 16 false none 0 0 (⟨#[]⟩) (0) d [] (.slice none 0 0) [] W1):=Lib.hid (TSt.zero HBo.out HBf.out HBd.out HBr.out (nr0 _) HLOW.out HDIS.out HKO.out HW.out HSZP.out);clear HBm;have HKB:Hid (W1.heap.size<=W1.heap.size):=Lib.hid (Nat.le_refl _);have o0:=cell_at (v:=.int .i64 16) HBo.out 0 rfl;have fo0:=froz_at HBo.out 0;have o1:=cell_at (v:=.bool false) HBo.out 1 rfl;have fo1:=froz_at HBo.out 1;have o2:=cell_at (v:=.slice none 0 0) HBo.out 2 rfl;have fo2:=froz_at HBo.out 2;have o3:=cell_at (v:=.string ⟨#[]⟩) HBo.out 3 rfl;have fo3:=froz_at HBo.out 3
  have o4:=cell_at (v:=.slice none 0 0) HBo.out 4 rfl;have fo4:=froz_at HBo.out 4;go_wp2_with fail
  clear o0 fo0 o1 fo1 o2 fo2 o3 fo3 o4 fo4;refine (kid_p d HD.out HIT.out w W1 W1.heap.size kf kd kr ko ⟨xo,xb,xao,xl,xc,xnm,xko,xkl,xkc⟩ HX.out 16 false none 0 0 ⟨#[]⟩ (0) [] _ [] 0 2 (by decide) (by decide) HT.out (by rw[HT.out.len];simp)).mono ?_;rintro e X1 ⟨⟨q0,rfl⟩,t0,v0,us0,hs,ht⟩;replace HT:=Lib.hid ht;have HS0:=Lib.hid hs;clear hs ht;go_wp2_with fail
  refine (kid_p d HD.out HIT.out w X1 W1.heap.size kf kd kr ko ⟨xo,xb,xao,xl,xc,xnm,xko,xkl,xkc⟩ HX.out 16 false none 0 0 ⟨#[]⟩ (0) ([]++[t0]) _ us0 1 2 (by decide) (by decide) HT.out (by rw[HT.out.len];simp)).mono ?_;rintro e X2 ⟨⟨q1,rfl⟩,t1,v1,us1,hs,ht⟩;replace HT:=Lib.hid ht;have HS1:=Lib.hid hs;clear hs ht;obtain⟨vo,vc,hv,-⟩:=HT.out.row.form;subst hv;obtain⟨N,hN⟩:∃ N,N=us1.length:=⟨_,rfl⟩
  rw[<-hN] at HT;clear hN;replace HBo:=Lib.hid HT.out.ho;replace HBr:=Lib.hid HT.out.hr;have o0:=cell_at (v:=.int .i64 16) HBo.out 0 rfl;have fo0:=froz_at HBo.out 0;have o1:=cell_at (v:=.bool false) HBo.out 1 rfl;have fo1:=froz_at HBo.out 1;have o2:=cell_at (v:=.slice none 0 0) HBo.out 2 rfl;have fo2:=froz_at HBo.out 2;have o3:=cell_at (v:=.string ⟨#[]⟩) HBo.out 3 rfl;have fo3:=froz_at HBo.out 3;have o4:=cell_at (v:=.slice vo N vc) HBo.out 4 rfl;have fo4:=froz_at HBo.out 4;obtain⟨⟨r0,r1,r2,r3,r4⟩,fr0,fr1,fr2,fr3,fr4⟩:=cells5V HBr.out;go_wp2_with fail
  clear o0 fo0 o1 fo1 o2 fo2 o3 fo3 o4 fo4;have hg:=grown5V (w:=X2) (k:=kr) (.int .i64 16) (.bool false) (.slice none 0 0) (.string ⟨#[]⟩) (.slice vo N vc);have hf:Fr 29 X2 _:=.of_grown hg (fun j hj=>by injection hj with hj;subst hj;exact⟨_,HBr.out,n32_F⟩);obtain⟨h1,h2,h3,h4⟩:=HT.out.fin hg hf (by unfold IR;decide) HB0.out HKR.out (by unfold NmOk;simp) (small4 (by decide)) (fun _ _ _=>rfl) (by simp) (by simp[fitF,kidsOk,srts,HS0.out,HS1.out])
  (try simp only[Exit.inBlock,Exit.then])
  exact bodyPost_ret (v:=.agg #[.int .i64 16,.bool false,.slice none 0 0,.string ⟨#[]⟩,.slice vo N vc]) (by simp[results,Tryz.results10,go_sem,r0,r1,r2,r3,r4]) rfl ⟨_,_,rfl,h1,h2,rfl,h3,h4⟩
 ·have hop2:op=17:=HOP.out;subst hop2;clear HOP;have HSZP:Hid (W1.heap.size<=W1.heap.size):=Lib.hid (Nat.le_refl _);have HT:Hid (TSt w W1.heap.size kf kd kr ko ⟨xo,xb,xao,xl,xc,xnm,xko,xkl,xkc⟩ ((d:Nat)+1) 17 false none 0 0 (⟨#[]⟩) (0) d [] (.slice none 0 0) [] W1):=Lib.hid (TSt.zero HBo.out HBf.out HBd.out HBr.out (nr0 _) HLOW.out HDIS.out HKO.out HW.out HSZP.out);clear HBm;have HKB:Hid (W1.heap.size<=W1.heap.size):=Lib.hid (Nat.le_refl _);have o0:=cell_at (v:=.int .i64 17) HBo.out 0 rfl;have fo0:=froz_at HBo.out 0;have o1:=cell_at (v:=.bool false) HBo.out 1 rfl;have fo1:=froz_at HBo.out 1;have o2:=cell_at (v:=.slice none 0 0) HBo.out 2 rfl;have fo2:=froz_at HBo.out 2;have o3:=cell_at (v:=.string ⟨#[]⟩) HBo.out 3 rfl;have fo3:=froz_at HBo.out 3;have o4:=cell_at (v:=.slice none 0 0) HBo.out 4 rfl;have fo4:=froz_at HBo.out 4
  go_wp2_with fail
  clear o0 fo0 o1 fo1 o2 fo2 o3 fo3 o4 fo4;refine (kid_p d HD.out HIT.out w W1 W1.heap.size kf kd kr ko ⟨xo,xb,xao,xl,xc,xnm,xko,xkl,xkc⟩ HX.out 17 false none 0 0 ⟨#[]⟩ (0) [] _ [] 0 1 (by decide) (by decide) HT.out (by rw[HT.out.len];simp)).mono ?_;rintro e X1 ⟨⟨q0,rfl⟩,t0,v0,us0,hs,ht⟩;replace HT:=Lib.hid ht;have HS0:=Lib.hid hs;clear hs ht;obtain⟨vo,vc,hv,-⟩:=HT.out.row.form;subst hv;obtain⟨N,hN⟩:∃ N,N=us0.length:=⟨_,rfl⟩
  rw[<-hN] at HT;clear hN;replace HBo:=Lib.hid HT.out.ho;replace HBr:=Lib.hid HT.out.hr;have o0:=cell_at (v:=.int .i64 17) HBo.out 0 rfl;have fo0:=froz_at HBo.out 0;have o1:=cell_at (v:=.bool false) HBo.out 1 rfl;have fo1:=froz_at HBo.out 1;have o2:=cell_at (v:=.slice none 0 0) HBo.out 2 rfl;have fo2:=froz_at HBo.out 2;have o3:=cell_at (v:=.string ⟨#[]⟩) HBo.out 3 rfl;have fo3:=froz_at HBo.out 3;have o4:=cell_at (v:=.slice vo N vc) HBo.out 4 rfl;have fo4:=froz_at HBo.out 4;obtain⟨⟨r0,r1,r2,r3,r4⟩,fr0,fr1,fr2,fr3,fr4⟩:=cells5V HBr.out;go_wp2_with fail
  clear o0 fo0 o1 fo1 o2 fo2 o3 fo3 o4 fo4;have hg:=grown5V (w:=X1) (k:=kr) (.int .i64 17) (.bool false) (.slice none 0 0) (.string ⟨#[]⟩) (.slice vo N vc);have hf:Fr 29 X1 _:=.of_grown hg (fun j hj=>by injection hj with hj;subst hj;exact⟨_,HBr.out,n32_F⟩);obtain⟨h1,h2,h3,h4⟩:=HT.out.fin hg hf (by unfold IR;decide) HB0.out HKR.out (by unfold NmOk;simp) (small4 (by decide)) (fun _ _ _=>rfl) (by simp) (by simp[fitF,kidsOk,srts,HS0.out])
  (try simp only[Exit.inBlock,Exit.then])
  exact bodyPost_ret (v:=.agg #[.int .i64 17,.bool false,.slice none 0 0,.string ⟨#[]⟩,.slice vo N vc]) (by simp[results,Tryz.results10,go_sem,r0,r1,r2,r3,r4]) rfl ⟨_,_,rfl,h1,h2,rfl,h3,h4⟩
 ·have hop2:op=18:=HOP.out;subst hop2;clear HOP;have HSZP:Hid (W1.heap.size<=W1.heap.size):=Lib.hid (Nat.le_refl _);have HT:Hid (TSt w W1.heap.size kf kd kr ko ⟨xo,xb,xao,xl,xc,xnm,xko,xkl,xkc⟩ ((d:Nat)+1) 18 false none 0 0 (⟨#[]⟩) (0) d [] (.slice none 0 0) [] W1):=Lib.hid (TSt.zero HBo.out HBf.out HBd.out HBr.out (nr0 _) HLOW.out HDIS.out HKO.out HW.out HSZP.out);clear HBm;obtain⟨M,hM⟩:∃ M,M=min xkl 3:=⟨_,rfl⟩
  have hmin3:min (xkl:Int) 3=(M:Int):=by omega
  have hM3:M<=3:=by omega
  clear hM;have o0:=cell_at (v:=.int .i64 18) HBo.out 0 rfl;have fo0:=froz_at HBo.out 0;have o1:=cell_at (v:=.bool false) HBo.out 1 rfl;have fo1:=froz_at HBo.out 1;have o2:=cell_at (v:=.slice none 0 0) HBo.out 2 rfl;have fo2:=froz_at HBo.out 2;have o3:=cell_at (v:=.string ⟨#[]⟩) HBo.out 3 rfl;have fo3:=froz_at HBo.out 3;have o4:=cell_at (v:=.slice none 0 0) HBo.out 4 rfl;have fo4:=froz_at HBo.out 4;have f0:=cell_at (v:=.int .i64 xo) HBf.out 0 rfl;have ff0:=froz_at HBf.out 0;have f1:=cell_at (v:=.bool xb) HBf.out 1 rfl;have ff1:=froz_at HBf.out 1;have f2:=cell_at (v:=.slice xao xl xc) HBf.out 2 rfl;have ff2:=froz_at HBf.out 2;have f3:=cell_at (v:=.string xnm) HBf.out 3 rfl;have ff3:=froz_at HBf.out 3;have f4:=cell_at (v:=.slice xko xkl xkc) HBf.out 4 rfl;have ff4:=froz_at HBf.out 4;go_upto_region 51 with fail
  clear o0 fo0 o1 fo1 o2 fo2 o3 fo3 o4 fo4 f0 ff0 f1 ff1 f2 ff2 f3 ff3 f4 ff4;rw[show (((7:Nat):Int))=(7:Int) from rfl]
  go_loopw [154] (fun i wr=>∃ (j:Nat) (ts:List F) (v:Value) (us:List FU),i=.int .i64 (j:Nat)/\j<=M/\Hid (ts.length=j/\∀ t ∈ ts,srt t.op=1)/\Hid (TSt w W1.heap.size kf kd kr ko ⟨xo,xb,xao,xl,xc,xnm,xko,xkl,xkc⟩ ((d:Nat)+1) 18 false none 0 0 ⟨#[]⟩ 0 d ts v us wr)) (fun i _=>M - (intOf i).toNat)
  case atStart=>exact⟨0,[],_,[],rfl,Nat.zero_le _,Lib.hid ⟨rfl,fun t ht=>by cases ht⟩,HT⟩
  case round =>
   clear HT HBf HBd HBr HBo HC HW HSZP;obtain⟨j,ts,v,us,rfl,hj,HJ,HT⟩:=hrel
   by_cases hlt:j<M
   ·have hj3:j<=3:=by omega
    go_wp2_with fail
    refine (kid_p d HD.out HIT.out w wr W1.heap.size kf kd kr ko ⟨xo,xb,xao,xl,xc,xnm,xko,xkl,xkc⟩ HX.out 18 false none 0 0 ⟨#[]⟩ 0 ts v us j 1 (by decide) (by omega) HT.out (by rw[HT.out.len,HJ.out.1];omega)).mono ?_;rintro e X1 ⟨⟨q0,rfl⟩,t0,v0,us0,hs,ht⟩;have HN:Hid ((ts++[t0]).length=j+1/\∀ t ∈ ts++[t0],srt t.op=1):=Lib.hid ⟨by simp[HJ.out.1],fun t h=>(List.mem_append.1 h).elim (fun h=>HJ.out.2 t h) (fun h=>by rw[List.mem_singleton] at h;subst h;exact hs)⟩;replace HT:=Lib.hid ht;clear hs ht HJ;go_wp2_with fail
    go_roundw
    case rel=>exact⟨j+1,_,_,_,by go_num,hlt,HN,HT⟩
    case measure=>simp[intOf];omega
   obtain⟨vo,vc,hv,-⟩:=HT.out.row.form;subst hv;obtain⟨N,hN⟩:∃ N,N=us.length:=⟨_,rfl⟩
   rw[<-hN] at HT;clear hN;have HBo:=Lib.hid HT.out.ho;have HBr:=Lib.hid HT.out.hr;have o0:=cell_at (v:=.int .i64 18) HBo.out 0 rfl;have fo0:=froz_at HBo.out 0;have o1:=cell_at (v:=.bool false) HBo.out 1 rfl;have fo1:=froz_at HBo.out 1;have o2:=cell_at (v:=.slice none 0 0) HBo.out 2 rfl;have fo2:=froz_at HBo.out 2;have o3:=cell_at (v:=.string ⟨#[]⟩) HBo.out 3 rfl;have fo3:=froz_at HBo.out 3;have o4:=cell_at (v:=.slice vo N vc) HBo.out 4 rfl;have fo4:=froz_at HBo.out 4;obtain⟨⟨r0,r1,r2,r3,r4⟩,fr0,fr1,fr2,fr3,fr4⟩:=cells5V HBr.out;go_wp2_with fail
   clear o0 fo0 o1 fo1 o2 fo2 o3 fo3 o4 fo4;have hg:=grown5V (w:=wr) (k:=kr) (.int .i64 18) (.bool false) (.slice none 0 0) (.string ⟨#[]⟩) (.slice vo N vc);have hf:Fr 29 wr _:=.of_grown hg (fun j hj=>by injection hj with hj;subst hj;exact⟨_,HBr.out,n32_F⟩);obtain⟨h1,h2,h3,h4⟩:=HT.out.fin hg hf (by unfold IR;decide) HB0.out HKR.out (by unfold NmOk;simp) (small4 (by decide)) (fun _ _ _=>rfl) (by rw[HJ.out.1];omega) (fit_all (by decide) HJ.out.2)
   (try simp only[Exit.inBlock,Exit.then])
   exact bodyPost_ret (v:=.agg #[.int .i64 18,.bool false,.slice none 0 0,.string ⟨#[]⟩,.slice vo N vc]) (by simp[results,Tryz.results10,go_sem,r0,r1,r2,r3,r4]) rfl ⟨_,_,rfl,h1,h2,rfl,h3,h4⟩
 ·have hop2:op=19:=HOP.out;subst hop2;clear HOP;have HSZP:Hid (W1.heap.size<=W1.heap.size):=Lib.hid (Nat.le_refl _);have HT:Hid (TSt w W1.heap.size kf kd kr ko ⟨xo,xb,xao,xl,xc,xnm,xko,xkl,xkc⟩ ((d:Nat)+1) 19 false none 0 0 (⟨#[]⟩) (0) d [] (.slice none 0 0) [] W1):=Lib.hid (TSt.zero HBo.out HBf.out HBd.out HBr.out (nr0 _) HLOW.out HDIS.out HKO.out HW.out HSZP.out);clear HBm;obtain⟨M,hM⟩:∃ M,M=min xkl 3:=⟨_,rfl⟩
  have hmin3:min (xkl:Int) 3=(M:Int):=by omega
  have hM3:M<=3:=by omega
  clear hM;have o0:=cell_at (v:=.int .i64 19) HBo.out 0 rfl;have fo0:=froz_at HBo.out 0;have o1:=cell_at (v:=.bool false) HBo.out 1 rfl;have fo1:=froz_at HBo.out 1;have o2:=cell_at (v:=.slice none 0 0) HBo.out 2 rfl;have fo2:=froz_at HBo.out 2;have o3:=cell_at (v:=.string ⟨#[]⟩) HBo.out 3 rfl;have fo3:=froz_at HBo.out 3;have o4:=cell_at (v:=.slice none 0 0) HBo.out 4 rfl;have fo4:=froz_at HBo.out 4;have f0:=cell_at (v:=.int .i64 xo) HBf.out 0 rfl;have ff0:=froz_at HBf.out 0;have f1:=cell_at (v:=.bool xb) HBf.out 1 rfl;have ff1:=froz_at HBf.out 1;have f2:=cell_at (v:=.slice xao xl xc) HBf.out 2 rfl;have ff2:=froz_at HBf.out 2;have f3:=cell_at (v:=.string xnm) HBf.out 3 rfl;have ff3:=froz_at HBf.out 3;have f4:=cell_at (v:=.slice xko xkl xkc) HBf.out 4 rfl;have ff4:=froz_at HBf.out 4;go_upto_region 51 with fail
  clear o0 fo0 o1 fo1 o2 fo2 o3 fo3 o4 fo4 f0 ff0 f1 ff1 f2 ff2 f3 ff3 f4 ff4;rw[show (((8:Nat):Int))=(8:Int) from rfl]
  go_loopw [154] (fun i wr=>∃ (j:Nat) (ts:List F) (v:Value) (us:List FU),i=.int .i64 (j:Nat)/\j<=M/\Hid (ts.length=j/\∀ t ∈ ts,srt t.op=1)/\Hid (TSt w W1.heap.size kf kd kr ko ⟨xo,xb,xao,xl,xc,xnm,xko,xkl,xkc⟩ ((d:Nat)+1) 19 false none 0 0 ⟨#[]⟩ 0 d ts v us wr)) (fun i _=>M - (intOf i).toNat)
  case atStart=>exact⟨0,[],_,[],rfl,Nat.zero_le _,Lib.hid ⟨rfl,fun t ht=>by cases ht⟩,HT⟩
  case round =>
   clear HT HBf HBd HBr HBo HC HW HSZP;obtain⟨j,ts,v,us,rfl,hj,HJ,HT⟩:=hrel
   by_cases hlt:j<M
   ·have hj3:j<=3:=by omega
    go_wp2_with fail
    refine (kid_p d HD.out HIT.out w wr W1.heap.size kf kd kr ko ⟨xo,xb,xao,xl,xc,xnm,xko,xkl,xkc⟩ HX.out 19 false none 0 0 ⟨#[]⟩ 0 ts v us j 1 (by decide) (by omega) HT.out (by rw[HT.out.len,HJ.out.1];omega)).mono ?_;rintro e X1 ⟨⟨q0,rfl⟩,t0,v0,us0,hs,ht⟩;have HN:Hid ((ts++[t0]).length=j+1/\∀ t ∈ ts++[t0],srt t.op=1):=Lib.hid ⟨by simp[HJ.out.1],fun t h=>(List.mem_append.1 h).elim (fun h=>HJ.out.2 t h) (fun h=>by rw[List.mem_singleton] at h;subst h;exact hs)⟩;replace HT:=Lib.hid ht;clear hs ht HJ;go_wp2_with fail
    go_roundw
    case rel=>exact⟨j+1,_,_,_,by go_num,hlt,HN,HT⟩
    case measure=>simp[intOf];omega
   obtain⟨vo,vc,hv,-⟩:=HT.out.row.form;subst hv;obtain⟨N,hN⟩:∃ N,N=us.length:=⟨_,rfl⟩
   rw[<-hN] at HT;clear hN;have HBo:=Lib.hid HT.out.ho;have HBr:=Lib.hid HT.out.hr;have o0:=cell_at (v:=.int .i64 19) HBo.out 0 rfl;have fo0:=froz_at HBo.out 0;have o1:=cell_at (v:=.bool false) HBo.out 1 rfl;have fo1:=froz_at HBo.out 1;have o2:=cell_at (v:=.slice none 0 0) HBo.out 2 rfl;have fo2:=froz_at HBo.out 2;have o3:=cell_at (v:=.string ⟨#[]⟩) HBo.out 3 rfl;have fo3:=froz_at HBo.out 3;have o4:=cell_at (v:=.slice vo N vc) HBo.out 4 rfl;have fo4:=froz_at HBo.out 4;obtain⟨⟨r0,r1,r2,r3,r4⟩,fr0,fr1,fr2,fr3,fr4⟩:=cells5V HBr.out;go_wp2_with fail
   clear o0 fo0 o1 fo1 o2 fo2 o3 fo3 o4 fo4;have hg:=grown5V (w:=wr) (k:=kr) (.int .i64 19) (.bool false) (.slice none 0 0) (.string ⟨#[]⟩) (.slice vo N vc);have hf:Fr 29 wr _:=.of_grown hg (fun j hj=>by injection hj with hj;subst hj;exact⟨_,HBr.out,n32_F⟩);obtain⟨h1,h2,h3,h4⟩:=HT.out.fin hg hf (by unfold IR;decide) HB0.out HKR.out (by unfold NmOk;simp) (small4 (by decide)) (fun _ _ _=>rfl) (by rw[HJ.out.1];omega) (fit_all (by decide) HJ.out.2)
   (try simp only[Exit.inBlock,Exit.then])
   exact bodyPost_ret (v:=.agg #[.int .i64 19,.bool false,.slice none 0 0,.string ⟨#[]⟩,.slice vo N vc]) (by simp[results,Tryz.results10,go_sem,r0,r1,r2,r3,r4]) rfl ⟨_,_,rfl,h1,h2,rfl,h3,h4⟩
 have hop2:op=20:=HOP.out;subst hop2;clear HOP;have HSZP:Hid (W1.heap.size<=W1.heap.size):=Lib.hid (Nat.le_refl _);have HT:Hid (TSt w W1.heap.size kf kd kr ko ⟨xo,xb,xao,xl,xc,xnm,xko,xkl,xkc⟩ ((d:Nat)+1) 20 false none 0 0 (⟨#[]⟩) (0) d [] (.slice none 0 0) [] W1):=Lib.hid (TSt.zero HBo.out HBf.out HBd.out HBr.out (nr0 _) HLOW.out HDIS.out HKO.out HW.out HSZP.out);clear HBm;have HKB:Hid (W1.heap.size<=W1.heap.size):=Lib.hid (Nat.le_refl _);have o0:=cell_at (v:=.int .i64 20) HBo.out 0 rfl;have fo0:=froz_at HBo.out 0;have o1:=cell_at (v:=.bool false) HBo.out 1 rfl;have fo1:=froz_at HBo.out 1;have o2:=cell_at (v:=.slice none 0 0) HBo.out 2 rfl;have fo2:=froz_at HBo.out 2;have o3:=cell_at (v:=.string ⟨#[]⟩) HBo.out 3 rfl;have fo3:=froz_at HBo.out 3;have o4:=cell_at (v:=.slice none 0 0) HBo.out 4 rfl;have fo4:=froz_at HBo.out 4
 go_wp2_with fail
 clear o0 fo0 o1 fo1 o2 fo2 o3 fo3 o4 fo4;refine (kid_p d HD.out HIT.out w W1 W1.heap.size kf kd kr ko ⟨xo,xb,xao,xl,xc,xnm,xko,xkl,xkc⟩ HX.out 20 false none 0 0 ⟨#[]⟩ (0) [] _ [] 0 1 (by decide) (by decide) HT.out (by rw[HT.out.len];simp)).mono ?_;rintro e X1 ⟨⟨q0,rfl⟩,t0,v0,us0,hs,ht⟩;replace HT:=Lib.hid ht;have HS0:=Lib.hid hs;clear hs ht;go_wp2_with fail
 refine (kid_p d HD.out HIT.out w X1 W1.heap.size kf kd kr ko ⟨xo,xb,xao,xl,xc,xnm,xko,xkl,xkc⟩ HX.out 20 false none 0 0 ⟨#[]⟩ (0) ([]++[t0]) _ us0 1 1 (by decide) (by decide) HT.out (by rw[HT.out.len];simp)).mono ?_;rintro e X2 ⟨⟨q1,rfl⟩,t1,v1,us1,hs,ht⟩;replace HT:=Lib.hid ht;have HS1:=Lib.hid hs;clear hs ht;obtain⟨vo,vc,hv,-⟩:=HT.out.row.form;subst hv;obtain⟨N,hN⟩:∃ N,N=us1.length:=⟨_,rfl⟩
 rw[<-hN] at HT;clear hN;replace HBo:=Lib.hid HT.out.ho;replace HBr:=Lib.hid HT.out.hr;have o0:=cell_at (v:=.int .i64 20) HBo.out 0 rfl;have fo0:=froz_at HBo.out 0;have o1:=cell_at (v:=.bool false) HBo.out 1 rfl;have fo1:=froz_at HBo.out 1;have o2:=cell_at (v:=.slice none 0 0) HBo.out 2 rfl;have fo2:=froz_at HBo.out 2;have o3:=cell_at (v:=.string ⟨#[]⟩) HBo.out 3 rfl;have fo3:=froz_at HBo.out 3;have o4:=cell_at (v:=.slice vo N vc) HBo.out 4 rfl;have fo4:=froz_at HBo.out 4;obtain⟨⟨r0,r1,r2,r3,r4⟩,fr0,fr1,fr2,fr3,fr4⟩:=cells5V HBr.out;go_wp2_with fail
 clear o0 fo0 o1 fo1 o2 fo2 o3 fo3 o4 fo4;have hg:=grown5V (w:=X2) (k:=kr) (.int .i64 20) (.bool false) (.slice none 0 0) (.string ⟨#[]⟩) (.slice vo N vc);have hf:Fr 29 X2 _:=.of_grown hg (fun j hj=>by injection hj with hj;subst hj;exact⟨_,HBr.out,n32_F⟩);obtain⟨h1,h2,h3,h4⟩:=HT.out.fin hg hf (by unfold IR;decide) HB0.out HKR.out (by unfold NmOk;simp) (small4 (by decide)) (fun _ _ _=>rfl) (by simp) (by simp[fitF,kidsOk,srts,HS0.out,HS1.out])
 (try simp only[Exit.inBlock,Exit.then])
 exact bodyPost_ret (v:=.agg #[.int .i64 20,.bool false,.slice none 0 0,.string ⟨#[]⟩,.slice vo N vc]) (by simp[results,Tryz.results10,go_sem,r0,r1,r2,r3,r4]) rfl ⟨_,_,rfl,h1,h2,rfl,h3,h4⟩
end Go.Proofs.YtdkfnbbebpbhaaaGreatDoor
