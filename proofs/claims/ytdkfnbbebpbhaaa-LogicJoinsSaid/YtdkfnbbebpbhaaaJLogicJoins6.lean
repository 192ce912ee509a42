/-
 Joined texts: LgZb,LgZc,LgZd,LgZe,LgO,LgZf,LgZg,LgZh,LgZi,LgZj,LgZk,LgZp.
-/
import Derived.Test.YtdkfnbbebpbhaaaRows
import Derived.ProofKit
import Derived.OpenShut
import Derived.ShutString
import Derived.ChangeOld
import Derived.Deep.DeepHandedRow
import Derived.LaidMore
import Derived.Deep.Slices
import Derived.Lib.ConvBytes
import Derived.Test.YtdkfnbbebpbhaaaJLogicJoins3
import Derived.Test.YtdkfnbbebpbhaaaJLogicJoins4
import Derived.Test.YtdkfnbbebpbhaaaJLogicJoins5
set_option maxHeartbeats 32000000
namespace Go.Proofs.Ytdkfnbbebpbhaaa
open Go.RowKit
set_option maxRecDepth 100000
set_option linter.unusedVariables false
set_option linter.unusedSimpArgs false
def opAttame_0s (j:Nat):Int:=[(1:Int),(0:Int),(2:Int),(3:Int),(4:Int),(5:Int),(6:Int),(7:Int)].getD j 0
theorem tame_0s (d:Nat) (hd0:1<=d) (hd:d<=100) (IT:TameC d) (xo:Int) (xb:Bool) (xao:Option Addr) (xl xc:Nat) (xnm:ByteArray) (xko:Option Addr) (xkl xkc:Nat) (w:World) (hx:RawF w (d+1) ⟨xo,xb,xao,xl,xc,xnm,xko,xkl,xkc⟩) :
  Calls Try.prog 7 #[.agg #[.int .i64 xo,.bool xb,.slice xao xl xc,.string xnm,.slice xko xkl xkc],.int .i64 0,.int .i64 ((d:Nat)+1:Int)] w (TamePost (d+1) 0 w):=by
 have HX:=Lib.hid hx;have HIT:=Lib.hid IT;have HD0:=Lib.hid hd0;have HD:=Lib.hid hd;have hdle:decide (((d:Nat)+1:Int)<=1)=false:=by simp;omega
 clear IT hd0 hd;obtain⟨-,hn,-,⟨hk1,hk2⟩,-⟩:=hx;simp only at hn hk1 hk2;have hxm:xkc<=9223372036854775807:=hk2;obtain⟨m,hm⟩:∃ m,m=min xl 2:=⟨_,rfl⟩
 have hmin:min (xl:Int) 2=(m:Int):=by omega
 have hm2:m<=2:=by omega
 have hml:m<=xl:=by omega
 have hx2:∃ q,GN w (.slice xao m xc) q 2/\xl<=xc/\xc<=9223372036854775807:=by
  obtain⟨xs,hs,hdg⟩:=hn;have hl:=sl_len hs;obtain⟨_,_,e,h1,h2,_⟩:=id hs;injection e with e1 e2 e3;subst e3;exact⟨_,⟨xs.take m,hs.take m (by omega),hdg.take m,rfl,by rw[List.length_take];omega⟩,by omega,h2⟩
 obtain⟨q,hq,hlc,hc⟩:=hx2;have hmc:m<=xc:=by omega
 have HG:=Lib.hid hq;clear hq hn hm hk2;obtain⟨K,hK,hK2⟩:=and_255 xo;obtain⟨j,hj⟩:∃ j,j=K % 8:=⟨_,rfl⟩
 have hjm:((K:Nat):Int).tmod 8=((j:Nat):Int):=by rw[hj];exact (Int.ofNat_tmod K 8).symm
 have hjN:j<8:=by rw[hj];exact Nat.mod_lt _ (by decide)
 clear hj hK2;have HW:=Lib.hid (Below.refl w.heap.size w);go_enter Try.func7,Try.ntmps7
 obtain⟨x1,kf,ef,ekf,hbf,hkf,HBf⟩:=newV w #[.int .i64 xo,.bool xb,.slice xao xl xc,.string xnm,.slice xko xkl xkc] 29;replace HW:=Lib.hid (HW.out.trans (hbf.out.mono HW.out.size));replace HG:=Lib.hid (HG.out.below hbf.out);obtain⟨x2,kd,ed,ekd,hbd,hkd,HBd⟩:=newV x1 #[.int .i64 ((d:Nat)+1:Int)] 3;replace HBf:=kBV hbd.out HBf;replace HW:=Lib.hid (HW.out.trans (hbd.out.mono HW.out.size));replace HG:=Lib.hid (HG.out.below hbd.out);obtain⟨x3,kr,er,ekr,hbr,hkr,HBr⟩:=newV x2 #[.int .i64 0,.bool false,.slice none 0 0,.string ⟨#[]⟩,.slice none 0 0] 29;replace HBf:=kBV hbr.out HBf;replace HBd:=kBV hbr.out HBd;replace HW:=Lib.hid (HW.out.trans (hbr.out.mono HW.out.size));replace HG:=Lib.hid (HG.out.below hbr.out);have HKR:Hid (w.heap.size<=kr):=Lib.hid (by have h1:=hbf.out.size;have h2:=hbd.out.size;have h3:=hkr.out;omega)
 obtain⟨x4,kp,ep,ekp,hbp,hkp,HBp⟩:=newV x3 #[.int .i64 1,.int .i64 0,.int .i64 2,.int .i64 3,.int .i64 4,.int .i64 5,.int .i64 6,.int .i64 7] 22;replace HBf:=kBV hbp.out HBf;replace HBd:=kBV hbp.out HBd;replace HBr:=kBV hbp.out HBr;replace HW:=Lib.hid (HW.out.trans (hbp.out.mono HW.out.size));replace HG:=Lib.hid (HG.out.below hbp.out);obtain⟨x5,kq,eq,ekq,hbq,hkq,HBq⟩:=newV x4 #[.int .i64 14,.int .i64 12,.int .i64 13,.int .i64 15,.int .i64 16,.int .i64 16,.int .i64 17,.int .i64 18,.int .i64 19,.int .i64 20] 22;replace HBf:=kBV hbq.out HBf;replace HBd:=kBV hbq.out HBd;replace HBr:=kBV hbq.out HBr;replace HBp:=kBV hbq.out HBp;replace HW:=Lib.hid (HW.out.trans (hbq.out.mono HW.out.size));replace HG:=Lib.hid (HG.out.below hbq.out)
 obtain⟨x6,kt,et,ekt,hbt,hkt,HBt⟩:=newV x5 #[.int .i64 8,.int .i64 9,.int .i64 10,.int .i64 11] 22;replace HBf:=kBV hbt.out HBf;replace HBd:=kBV hbt.out HBd;replace HBr:=kBV hbt.out HBr;replace HBp:=kBV hbt.out HBp;replace HBq:=kBV hbt.out HBq;replace HW:=Lib.hid (HW.out.trans (hbt.out.mono HW.out.size));replace HG:=Lib.hid (HG.out.below hbt.out);have hidx:=idx3_0 (some ⟨kp,0,none⟩) (some ⟨kq,0,none⟩) (some ⟨kt,0,none⟩) 8 10 4 8 10 4;have f0:=cell_at (v:=.int .i64 xo) HBf.out 0 rfl;have ff0:=froz_at HBf.out 0;have f1:=cell_at (v:=.bool xb) HBf.out 1 rfl;have ff1:=froz_at HBf.out 1;have f2:=cell_at (v:=.slice xao xl xc) HBf.out 2 rfl;have ff2:=froz_at HBf.out 2;have f3:=cell_at (v:=.string xnm) HBf.out 3 rfl;have ff3:=froz_at HBf.out 3;have f4:=cell_at (v:=.slice xko xkl xkc) HBf.out 4 rfl;have ff4:=froz_at HBf.out 4
 have d0:=cell_at (v:=.int .i64 ((d:Nat)+1:Int)) HBd.out 0 rfl;have fd0:=froz_at HBd.out 0
 have hop:x6.cell? ⟨kp,j,none⟩=some (.int .i64 (opAttame_0s j)):=by
  have:j=0\/j=1\/j=2\/j=3\/j=4\/j=5\/j=6\/j=7:=by omega
  rcases this with rfl | rfl | rfl | rfl | rfl | rfl | rfl | rfl<;>exact cell_at HBp.out _ rfl
 obtain⟨op,hopd⟩:∃ op,op=opAttame_0s j:=⟨_,rfl⟩
 rw[<-hopd] at hop;have HOP:=Lib.hid hopd;clear hopd;go_upto_region 7 with fail
 clear f0 ff0 f1 ff1 f2 ff2 f3 ff3 f4 ff4 d0 fd0 hop;clear hidx hjm hK;have HWp:=HW;have HBfp:=HBf;have HBdp:=HBd;have HBrp:=HBr;obtain⟨x7,ko,eo,eko,hbo,hko,HBo⟩:=newV x6 #[.int .i64 op,.bool false,.slice none 0 0,.string ⟨#[]⟩,.slice none 0 0] 29;replace HBf:=kBV hbo.out HBf;replace HBd:=kBV hbo.out HBd;replace HBr:=kBV hbo.out HBr;replace HBp:=kBV hbo.out HBp;replace HBq:=kBV hbo.out HBq;replace HBt:=kBV hbo.out HBt;replace HW:=Lib.hid (HW.out.trans (hbo.out.mono HW.out.size));replace HG:=Lib.hid (HG.out.below hbo.out);rw[eo,eko];have HKO:Hid (w.heap.size<=ko):=Lib.hid (by have:=HWp.out.size;have:=hko.out;omega);go_upto_region 8 with fail
 have HY:=Lib.hid (Below.refl x7.heap.size x7);have HBf0:=HBf;have HBd0:=HBd;have HBr0:=HBr;have HBo0:=HBo;have hlt_f:=lt_of_block HBf.out;have hog:Hid (∀ q,q<0->(fun q=>0) q<x7.heap.size):=Lib.hid (fun q h=>absurd h (Nat.not_lt_zero _));refine R7.region (by kernel_rfl) [[],[0],[0,1],[],[3],[3,4],[],[6],[6,7],[6,7,8],[6,7,8,9],[3,4,5,6,7,8,9,10],[0,1,2,3,4,5,6,7,8,9,10,11],[],[0,1,2,3,4,5,6,7,8,9,10,11,12,13]] [] [] (fun q=>0) 0 14 (by kernel_rfl) (by kernel_rfl) (by rfl) hog.out (fun q q' h h' hn=>absurd hn (by omega)) ?_;refine R7.Chain.det ?_ (by rfl) (fun T xs wr hA=>?_) ?_
 rotate_left 1
 ·have e3:=hA.pre 3 (by kernel_rfl);simp only[gsa,gsc,gsz] at e3;clear hA;refine⟨(by rfl),?_⟩;go_simp<;>(try with_reducible rfl)
 refine R7.Chain.det ?_ (by rfl) (fun T xs wr hA=>?_) ?_
 rotate_left 1
 ·have e36:=hA.tm 0 36 (by rfl) (by rfl);have f36:xs 0=_:=hA.fa 0 (by rfl)
  (try simp (disch:=first | rfl | decide) only [R7.mask_in] at f36)
  rw[f36] at e36;clear f36;clear hA;refine⟨(by rfl),?_⟩;go_simp<;>(try with_reducible rfl)
 refine R7.Chain.det ?_ (by rfl) (fun T xs wr hA=>?_) ?_
 rotate_left 1
 ·have e37:=hA.tm 1 37 (by rfl) (by rfl);have f37:xs 1=_:=hA.fa 1 (by rfl)
  (try simp (disch:=first | rfl | decide) only [R7.mask_in] at f37)
  rw[f37] at e37;clear f37;have hBq:wr.heap[kf]?=_:=(hA.bl _ hlt_f (fun q h=>absurd h (Nat.not_lt_zero _))).trans HBf.out;have q0:=cell_at (v:=.int .i64 xo) hBq 0 rfl;have q1:=cell_at (v:=.bool xb) hBq 1 rfl;have q2:=cell_at (v:=.slice xao xl xc) hBq 2 rfl;have q3:=cell_at (v:=.string xnm) hBq 3 rfl;have q4:=cell_at (v:=.slice xko xkl xkc) hBq 4 rfl;clear hBq;clear hA;refine⟨(by rfl),?_⟩;go_simp<;>(try with_reducible rfl)
 refine R7.Chain.det ?_ (by rfl) (fun T xs wr hA=>?_) ?_
 rotate_left 1
 ·have e3:=hA.pre 3 (by kernel_rfl);simp only[gsa,gsc,gsz] at e3;clear hA;refine⟨(by rfl),?_⟩;go_simp<;>(try with_reducible rfl)
 refine R7.Chain.det ?_ (by rfl) (fun T xs wr hA=>?_) ?_
 rotate_left 1
 ·have e39:=hA.tm 3 39 (by rfl) (by rfl);have f39:xs 3=_:=hA.fa 3 (by rfl)
  (try simp (disch:=first | rfl | decide) only [R7.mask_in] at f39)
  rw[f39] at e39;clear f39;clear hA;refine⟨(by rfl),?_⟩;go_simp<;>(try with_reducible rfl)
 refine R7.Chain.det ?_ (by rfl) (fun T xs wr hA=>?_) ?_
 rotate_left 1
 ·have e40:=hA.tm 4 40 (by rfl) (by rfl);have f40:xs 4=_:=hA.fa 4 (by rfl)
  (try simp (disch:=first | rfl | decide) only [R7.mask_in] at f40)
  rw[f40] at e40;clear f40;have hBq:wr.heap[kf]?=_:=(hA.bl _ hlt_f (fun q h=>absurd h (Nat.not_lt_zero _))).trans HBf.out;have q0:=cell_at (v:=.int .i64 xo) hBq 0 rfl;have q1:=cell_at (v:=.bool xb) hBq 1 rfl;have q2:=cell_at (v:=.slice xao xl xc) hBq 2 rfl;have q3:=cell_at (v:=.string xnm) hBq 3 rfl;have q4:=cell_at (v:=.slice xko xkl xkc) hBq 4 rfl;clear hBq;clear hA;refine⟨(by rfl),?_⟩;go_simp<;>(try with_reducible rfl)
 refine R7.Chain.det ?_ (by rfl) (fun T xs wr hA=>?_) ?_
 rotate_left 1
 ·have e3:=hA.pre 3 (by kernel_rfl);simp only[gsa,gsc,gsz] at e3;clear hA;refine⟨(by rfl),?_⟩;go_simp<;>(try with_reducible rfl)
 refine R7.Chain.det ?_ (by rfl) (fun T xs wr hA=>?_) ?_
 rotate_left 1
 ·have e42:=hA.tm 6 42 (by rfl) (by rfl);have f42:xs 6=_:=hA.fa 6 (by rfl)
  (try simp (disch:=first | rfl | decide) only [R7.mask_in] at f42)
  rw[f42] at e42;clear f42;clear hA;refine⟨(by rfl),?_⟩;go_simp<;>(try with_reducible rfl)
 refine R7.Chain.det ?_ (by rfl) (fun T xs wr hA=>?_) ?_
 rotate_left 1
 ·have e43:=hA.tm 7 43 (by rfl) (by rfl);have f43:xs 7=_:=hA.fa 7 (by rfl)
  (try simp (disch:=first | rfl | decide) only [R7.mask_in] at f43)
  rw[f43] at e43;clear f43;have hBq:wr.heap[kf]?=_:=(hA.bl _ hlt_f (fun q h=>absurd h (Nat.not_lt_zero _))).trans HBf.out;have q0:=cell_at (v:=.int .i64 xo) hBq 0 rfl;have q1:=cell_at (v:=.bool xb) hBq 1 rfl;have q2:=cell_at (v:=.slice xao xl xc) hBq 2 rfl;have q3:=cell_at (v:=.string xnm) hBq 3 rfl;have q4:=cell_at (v:=.slice xko xkl xkc) hBq 4 rfl;clear hBq;clear hA;refine⟨(by rfl),?_⟩;go_simp<;>(try with_reducible rfl)
 refine R7.Chain.det ?_ (by rfl) (fun T xs wr hA=>?_) ?_
 rotate_left 1
 ·have e44:=hA.tm 8 44 (by rfl) (by rfl);have f44:xs 8=_:=hA.fa 8 (by rfl)
  (try simp (disch:=first | rfl | decide) only [R7.mask_in] at f44)
  rw[f44] at e44;clear f44;clear hA;refine⟨(by rfl),?_⟩;go_simp<;>(try with_reducible rfl)
 refine R7.Chain.det ?_ (by rfl) (fun T xs wr hA=>?_) ?_
 rotate_left 1
 ·have e45:=hA.tm 9 45 (by rfl) (by rfl);have f45:xs 9=_:=hA.fa 9 (by rfl)
  (try simp (disch:=first | rfl | decide) only [R7.mask_in] at f45)
  rw[f45] at e45;clear f45;clear hA;refine⟨(by rfl),?_⟩;go_simp<;>(try with_reducible rfl)
 refine R7.Chain.det ?_ (by rfl) (fun T xs wr hA=>?_) ?_
 rotate_left 1
 ·have e41:=hA.tm 5 41 (by rfl) (by rfl);have f41:xs 5=_:=hA.fa 5 (by rfl)
  (try simp (disch:=first | rfl | decide) only [R7.mask_in] at f41)
  rw[f41] at e41;clear f41;have e46:=hA.tm 10 46 (by rfl) (by rfl);have f46:xs 10=_:=hA.fa 10 (by rfl)
  (try simp (disch:=first | rfl | decide) only [R7.mask_in] at f46)
  rw[f46] at e46;clear f46;clear hA;refine⟨(by rfl),?_⟩;go_simp<;>(try with_reducible rfl)
 refine R7.Chain.call (fun xs v w=>∃ z,CI w v z 2) (fun _ _ _ _ h hb=>by obtain⟨z,h2⟩:=h;exact⟨z,h2.below hb⟩) (fun _ _ _ _ _ _ h _=>by obtain⟨q,hq,_⟩:=h;exact absurd hq (Nat.not_lt_zero _)) (by rfl) (fun T xs wr hA=>?_) ?_
 ·have hsw:=(hA.be 0 (Nat.zero_le _) (fun _ _=>Nat.zero_le _)).size;have e38:=hA.tm 2 38 (by rfl) (by rfl);have f38:xs 2=_:=hA.fa 2 (by rfl)
  (try simp (disch:=first | rfl | decide) only [R7.mask_in] at f38)
  rw[f38] at e38;clear f38;have e47:=hA.tm 11 47 (by rfl) (by rfl);have f47:xs 11=_:=hA.fa 11 (by rfl)
  (try simp (disch:=first | rfl | decide) only [R7.mask_in] at f47)
  rw[f47] at e47;clear f47;have hbw:=undrew (hA.be x7.heap.size (Nat.le_refl _) (fun q h=>absurd h (Nat.not_lt_zero q)));clear hA;refine⟨(by rfl),fun K hK=>?_⟩;go_simp
  refine (big_any xb _ q 2 wr (HG.out.below hbw) (by decide)).mono ?_;rintro e w' ⟨v,rfl,hc,hb'⟩;exact hK.out _ _ ⟨_,hc⟩ hb'
 refine R7.Chain.call (fun xs v w=>∃ g,v=.pointer (some ⟨g,0,none⟩)/\x7.heap.size<=g/\w.heap[g]?=some (.cells #[.bool false,.slice none 0 0] 26 (0,0))) (fun _ _ _ _ h hb=>by obtain⟨g,h1,h2,h3⟩:=h;exact⟨g,h1,h2,by rw[hb.block g (lt_of_block h3)];exact h3⟩) (fun _ _ _ _ _ _ h _=>by obtain⟨q,hq,_⟩:=h;exact absurd hq (Nat.not_lt_zero _)) (by rfl) (fun T xs wr hA=>?_) ?_
 ·have hsw:=(hA.be 0 (Nat.zero_le _) (fun _ _=>Nat.zero_le _)).size;have hbw:=undrew (hA.be x7.heap.size (Nat.le_refl _) (fun q h=>absurd h (Nat.not_lt_zero q)));clear hA;refine⟨(by rfl),fun K hK=>?_⟩;go_simp
  exact hK.out _ _ ⟨_,rfl,hbw.size,made_at _ _ _ rfl⟩ ((Below.refl _ _).alloc (Nat.le_refl _) _)
 refine R7.Chain.done (fun xs x8 hL=>?_);obtain⟨⟨hbe,hbl⟩,hf,-,-⟩:=hL;have f0:xs 0=_:=hf 0 (by decide)
 (try simp (disch:=first | rfl | decide) only [R7.mask_in] at f0)
 have f1:xs 1=_:=hf 1 (by decide)
 (try simp (disch:=first | rfl | decide) only [R7.mask_in] at f1)
 have f2:xs 2=_:=hf 2 (by decide)
 (try simp (disch:=first | rfl | decide) only [R7.mask_in] at f2)
 have f3:xs 3=_:=hf 3 (by decide)
 (try simp (disch:=first | rfl | decide) only [R7.mask_in] at f3)
 have f4:xs 4=_:=hf 4 (by decide)
 (try simp (disch:=first | rfl | decide) only [R7.mask_in] at f4)
 have f5:xs 5=_:=hf 5 (by decide)
 (try simp (disch:=first | rfl | decide) only [R7.mask_in] at f5)
 have f6:xs 6=_:=hf 6 (by decide)
 (try simp (disch:=first | rfl | decide) only [R7.mask_in] at f6)
 have f7:xs 7=_:=hf 7 (by decide)
 (try simp (disch:=first | rfl | decide) only [R7.mask_in] at f7)
 have f8:xs 8=_:=hf 8 (by decide)
 (try simp (disch:=first | rfl | decide) only [R7.mask_in] at f8)
 have f9:xs 9=_:=hf 9 (by decide)
 (try simp (disch:=first | rfl | decide) only [R7.mask_in] at f9)
 have f10:xs 10=_:=hf 10 (by decide)
 (try simp (disch:=first | rfl | decide) only [R7.mask_in] at f10)
 have f11:xs 11=_:=hf 11 (by decide)
 (try simp (disch:=first | rfl | decide) only [R7.mask_in] at f11)
 have F12:∃ z,CI x8 (xs 12) z 2:=hf 12 (by decide);have F13:∃ g,(xs 13)=.pointer (some ⟨g,0,none⟩)/\x7.heap.size<=g/\x8.heap[g]?=some (.cells #[.bool false,.slice none 0 0] 26 (0,0)):=hf 13 (by decide);have hb0:Below 0 x7 x8:=undrew (hbe 0 (Nat.zero_le _) (fun _ _=>Nat.zero_le _));have hgr:∀ j,j<x7.heap.size->(∀ q,q<0->(fun q=>0) q≠j)->x8.heap[j]?=x7.heap[j]?:=hbl;clear hbe hbl hf;have hb:Below x7.heap.size x7 x8:=⟨hb0.os,hb0.tape,hb0.output,hb0.size,fun q hq=>hgr q hq (fun q h=>absurd h (Nat.not_lt_zero _))⟩
 refine R7.rest_list (by decide) (by kernel_rfl) ?_;simp only[R7.fill,t1_,t2_,t3_,t4_,t5_,t6_,t7_,f0,f1,f2,f3,f4,f5,f6,f7,f8,f9,f10,f11];clear hb0 hgr hog hlt_f f0 f1 f2 f3 f4 f5 f6 f7 f8 f9 f10 f11;replace HBf:=kBV hb HBf;replace HBd:=kBV hb HBd;replace HBr:=kBV hb HBr;replace HBp:=kBV hb HBp;replace HBq:=kBV hb HBq;replace HBt:=kBV hb HBt;replace HBo:=kBV hb HBo;replace HW:=Lib.hid (HW.out.trans (hb.mono HW.out.size));replace HG:=Lib.hid (HG.out.below hb);replace HY:=Lib.hid (HY.out.trans (hb.mono HY.out.size));replace hb:=Lib.hid hb;obtain⟨z,hcz⟩:=F12;obtain⟨zb,zo,zl,zc,hzv⟩:=hcz.shape;obtain⟨km,hkm,hkm1,hkm2⟩:=F13;rw[hzv] at hcz;rw[hzv,hkm];have HC:=Lib.hid (hcz.mono (k':=600) (by decide));have HCZ:=Lib.hid hcz.lt;have HBm:=Lib.hid hkm2;clear hcz hzv hkm hkm2;have m0:=cell_at (v:=.bool false) HBm.out 0 rfl
 have fm0:=froz_at HBm.out 0;have m1:=cell_at (v:=.slice none 0 0) HBm.out 1 rfl;have fm1:=froz_at HBm.out 1;go_upto_region 9 with fail
 clear m0 fm0 m1 fm1;have hg1:=grown2V (w:=x8) (k:=km) (.bool zb) (.slice zo zl zc);have hb1:((x8.setCell ⟨km,0,none⟩ (.bool zb)).setCell ⟨km,1,none⟩ (.slice zo zl zc)).heap[km]?=_:=heap_setCell_same _ km 1 _ _ _ (heap_setCell_same _ km 0 _ _ _ HBm.out);obtain⟨W1,hW1⟩:∃ q,q=(x8.setCell ⟨km,0,none⟩ (.bool zb)).setCell ⟨km,1,none⟩ (.slice zo zl zc):=⟨_,rfl⟩
 rw[<-hW1] at hg1 hb1 ⊢;have hf1:Fr 26 x8 W1:=.of_grown hg1 (fun j hj=>by injection hj with hj;subst hj;exact⟨_,HBm.out,n32_2⟩);have HKM:Hid (w.heap.size<=km):=Lib.hid (Nat.le_trans (by have:=HKO.out;have:=lt_of_block HBo0.out;omega) hkm1);replace HW:=Lib.hid (ext_below HW.out hg1 HKM.out);replace HY:=Lib.hid (ext_below HY.out hg1 hkm1);replace HC:=Lib.hid (HC.out.fr hf1);replace HBf:=Lib.hid ((HY.out.block _ (lt_of_block HBf0.out)).trans HBf0.out);replace HBd:=Lib.hid ((HY.out.block _ (lt_of_block HBd0.out)).trans HBd0.out);replace HBr:=Lib.hid ((HY.out.block _ (lt_of_block HBr0.out)).trans HBr0.out);replace HBo:=Lib.hid ((HY.out.block _ (lt_of_block HBo0.out)).trans HBo0.out);replace HBm:=Lib.hid hb1;clear hg1 hb1 hW1 hf1 hkm1
 have HLOW:Hid (kf<W1.heap.size/\kd<W1.heap.size/\kr<W1.heap.size/\ko<W1.heap.size):=Lib.hid ⟨lt_of_block HBf.out,lt_of_block HBd.out,lt_of_block HBr.out,lt_of_block HBo.out⟩;have HDIS:Hid (kf≠ko/\kd≠ko/\kr≠ko):=Lib.hid (by have h1:=lt_of_block HBfp.out;have h2:=lt_of_block HBdp.out;have h3:=lt_of_block HBrp.out;rw[eko] at h1 h2 h3;omega);have HB0:Hid (w.heap.size<=W1.heap.size):=Lib.hid HW.out.size;have hjc:j=0\/j=1\/j=2\/j=3\/j=4\/j=5\/j=6\/j=7:=by omega
 rcases hjc with rfl | rfl | rfl | rfl | rfl | rfl | rfl | rfl
 ·have hop2:op=1:=HOP.out;subst hop2;clear HOP;have HSZP:Hid (W1.heap.size<=W1.heap.size):=Lib.hid (Nat.le_refl _);rcases (tmod_cases xnm.size).1 with hr | hr | hr
  ·have o0:=cell_at (v:=.int .i64 1) HBo.out 0 rfl;have fo0:=froz_at HBo.out 0;have o1:=cell_at (v:=.bool false) HBo.out 1 rfl;have fo1:=froz_at HBo.out 1;have o2:=cell_at (v:=.slice none 0 0) HBo.out 2 rfl;have fo2:=froz_at HBo.out 2;have o3:=cell_at (v:=.string ⟨#[]⟩) HBo.out 3 rfl;have fo3:=froz_at HBo.out 3;have o4:=cell_at (v:=.slice none 0 0) HBo.out 4 rfl;have fo4:=froz_at HBo.out 4;have m0:=cell_at (v:=.bool zb) HBm.out 0 rfl;have fm0:=froz_at HBm.out 0;have m1:=cell_at (v:=.slice zo zl zc) HBm.out 1 rfl;have fm1:=froz_at HBm.out 1;have f0:=cell_at (v:=.int .i64 xo) HBf.out 0 rfl;have ff0:=froz_at HBf.out 0;have f1:=cell_at (v:=.bool xb) HBf.out 1 rfl;have ff1:=froz_at HBf.out 1;have f2:=cell_at (v:=.slice xao xl xc) HBf.out 2 rfl;have ff2:=froz_at HBf.out 2;have f3:=cell_at (v:=.string xnm) HBf.out 3 rfl
   have ff3:=froz_at HBf.out 3;have f4:=cell_at (v:=.slice xko xkl xkc) HBf.out 4 rfl;have ff4:=froz_at HBf.out 4;have hcv:=one_byteL 48 48 (by decide) W1;obtain⟨x9,ky,ey,eky,hby,hky,HBy⟩:=newV W1 #[.int .u8 48] 5;replace HBf:=kBV hby.out HBf;replace HBd:=kBV hby.out HBd;replace HBr:=kBV hby.out HBr;replace HBo:=kBV hby.out HBo;replace HBm:=kBV hby.out HBm;replace HW:=Lib.hid (HW.out.trans (hby.out.mono HW.out.size));replace HC:=Lib.hid (HC.out.below hby.out);rw[ey,eky] at hcv;have p0:=cell_at (v:=.int .i64 1) HBo.out 0 rfl;have fp0:=froz_at HBo.out 0;have p1:=cell_at (v:=.bool false) HBo.out 1 rfl;have fp1:=froz_at HBo.out 1;have p2:=cell_at (v:=.slice none 0 0) HBo.out 2 rfl;have fp2:=froz_at HBo.out 2;have p3:=cell_at (v:=.string ⟨#[]⟩) HBo.out 3 rfl;have fp3:=froz_at HBo.out 3
   have p4:=cell_at (v:=.slice none 0 0) HBo.out 4 rfl;have fp4:=froz_at HBo.out 4;replace HSZP:=Lib.hid (Nat.le_trans HSZP.out hby.out.size);go_upto_region 21 with fail
   clear o0 fo0 o1 fo1 o2 fo2 o3 fo3 o4 fo4 m0 fm0 m1 fm1 f0 ff0 f1 ff1 f2 ff2 f3 ff3 f4 ff4 p0 fp0 p1 fp1 p2 fp2 p3 fp3 p4 fp4
   try clear hcv
   try clear hr
   rw[show ((⟨#[105]⟩:ByteArray)++⟨#[48]⟩)=⟨#[105,48]⟩ from rfl];have hgo:x9.grownBy (x9.setCell ⟨ko,3,none⟩ (.string ⟨#[105,48]⟩)) (some ko):=by refine grown_setCell ?_ _;exact World.grownBy.refl _ _
   have hbo:(x9.setCell ⟨ko,3,none⟩ (.string ⟨#[105,48]⟩)).heap[ko]?=_:=(heap_setCell_same _ ko 3 _ _ (.string ⟨#[105,48]⟩) HBo.out)
   obtain⟨W2,hW2⟩:∃ q,q=x9.setCell ⟨ko,3,none⟩ (.string ⟨#[105,48]⟩):=⟨_,rfl⟩
   rw[<-hW2] at hgo hbo ⊢;have hfo:Fr 29 x9 W2:=.of_grown hgo (fun j hj=>by injection hj with hj;subst hj;exact⟨_,HBo.out,n32_F⟩);replace HW:=Lib.hid (ext_below HW.out hgo HKO.out);replace HC:=Lib.hid (HC.out.fr hfo);replace HBf:=Lib.hid ((hgo.block _ (lt_of_block HBf.out) (fun e=>by injection e with e;exact HDIS.out.1 e)).trans HBf.out);replace HBd:=Lib.hid ((hgo.block _ (lt_of_block HBd.out) (fun e=>by injection e with e;exact HDIS.out.2.1 e)).trans HBd.out);replace HBr:=Lib.hid ((hgo.block _ (lt_of_block HBr.out) (fun e=>by injection e with e;exact HDIS.out.2.2 e)).trans HBr.out);have HSZW:Hid (W1.heap.size<=W2.heap.size):=Lib.hid (Nat.le_trans HSZP.out hgo.size);replace HBo:=Lib.hid hbo;clear hgo hbo hW2 hfo HSZP;have HSZP:=HSZW;clear HSZW
   have HT:Hid (TSt w W1.heap.size kf kd kr ko ⟨xo,xb,xao,xl,xc,xnm,xko,xkl,xkc⟩ ((d:Nat)+1) 1 false none 0 0 (⟨#[105,48]⟩) (0) d [] (.slice none 0 0) [] W2):=Lib.hid (TSt.zero HBo.out HBf.out HBd.out HBr.out (nr0 _) HLOW.out HDIS.out HKO.out HW.out HSZP.out);have o0:=cell_at (v:=.int .i64 1) HBo.out 0 rfl;have fo0:=froz_at HBo.out 0;have o1:=cell_at (v:=.bool false) HBo.out 1 rfl;have fo1:=froz_at HBo.out 1;have o2:=cell_at (v:=.slice none 0 0) HBo.out 2 rfl;have fo2:=froz_at HBo.out 2;have o3:=cell_at (v:=.string ⟨#[105,48]⟩) HBo.out 3 rfl;have fo3:=froz_at HBo.out 3;have o4:=cell_at (v:=.slice none 0 0) HBo.out 4 rfl;have fo4:=froz_at HBo.out 4;obtain⟨⟨r0,r1,r2,r3,r4⟩,fr0,fr1,fr2,fr3,fr4⟩:=cells5V HBr.out;go_wp2_with fail
   clear o0 fo0 o1 fo1 o2 fo2 o3 fo3 o4 fo4;have hg:=grown5V (w:=W2) (k:=kr) (.int .i64 1) (.bool false) (.slice none 0 0) (.string ⟨#[105,48]⟩) (.slice none 0 0);have hf:Fr 29 W2 _:=.of_grown hg (fun j hj=>by injection hj with hj;subst hj;exact⟨_,HBr.out,n32_F⟩);obtain⟨h1,h2,h3,h4⟩:=HT.out.fin hg hf (by unfold IR;decide) HB0.out HKR.out (by unfold NmOk;simp) (small4 (by decide)) (fun _ _ _=>rfl) (by simp) (rfl)
   (try simp only[Exit.inBlock,Exit.then])
   exact bodyPost_ret (v:=.agg #[.int .i64 1,.bool false,.slice none 0 0,.string ⟨#[105,48]⟩,.slice none 0 0]) (by simp[results,Try.results7,go_sem,r0,r1,r2,r3,r4]) rfl ⟨_,_,rfl,h1,h2,rfl,h3,h4⟩
  ·have o0:=cell_at (v:=.int .i64 1) HBo.out 0 rfl;have fo0:=froz_at HBo.out 0;have o1:=cell_at (v:=.bool false) HBo.out 1 rfl;have fo1:=froz_at HBo.out 1;have o2:=cell_at (v:=.slice none 0 0) HBo.out 2 rfl;have fo2:=froz_at HBo.out 2;have o3:=cell_at (v:=.string ⟨#[]⟩) HBo.out 3 rfl;have fo3:=froz_at HBo.out 3;have o4:=cell_at (v:=.slice none 0 0) HBo.out 4 rfl;have fo4:=froz_at HBo.out 4;have m0:=cell_at (v:=.bool zb) HBm.out 0 rfl;have fm0:=froz_at HBm.out 0;have m1:=cell_at (v:=.slice zo zl zc) HBm.out 1 rfl;have fm1:=froz_at HBm.out 1;have f0:=cell_at (v:=.int .i64 xo) HBf.out 0 rfl;have ff0:=froz_at HBf.out 0;have f1:=cell_at (v:=.bool xb) HBf.out 1 rfl;have ff1:=froz_at HBf.out 1;have f2:=cell_at (v:=.slice xao xl xc) HBf.out 2 rfl;have ff2:=froz_at HBf.out 2;have f3:=cell_at (v:=.string xnm) HBf.out 3 rfl
   have ff3:=froz_at HBf.out 3;have f4:=cell_at (v:=.slice xko xkl xkc) HBf.out 4 rfl;have ff4:=froz_at HBf.out 4;have hcv:=one_byteL 49 49 (by decide) W1;obtain⟨x9,ky,ey,eky,hby,hky,HBy⟩:=newV W1 #[.int .u8 49] 5;replace HBf:=kBV hby.out HBf;replace HBd:=kBV hby.out HBd;replace HBr:=kBV hby.out HBr;replace HBo:=kBV hby.out HBo;replace HBm:=kBV hby.out HBm;replace HW:=Lib.hid (HW.out.trans (hby.out.mono HW.out.size));replace HC:=Lib.hid (HC.out.below hby.out);rw[ey,eky] at hcv;have p0:=cell_at (v:=.int .i64 1) HBo.out 0 rfl;have fp0:=froz_at HBo.out 0;have p1:=cell_at (v:=.bool false) HBo.out 1 rfl;have fp1:=froz_at HBo.out 1;have p2:=cell_at (v:=.slice none 0 0) HBo.out 2 rfl;have fp2:=froz_at HBo.out 2;have p3:=cell_at (v:=.string ⟨#[]⟩) HBo.out 3 rfl;have fp3:=froz_at HBo.out 3
   have p4:=cell_at (v:=.slice none 0 0) HBo.out 4 rfl;have fp4:=froz_at HBo.out 4;replace HSZP:=Lib.hid (Nat.le_trans HSZP.out hby.out.size);go_upto_region 21 with fail
   clear o0 fo0 o1 fo1 o2 fo2 o3 fo3 o4 fo4 m0 fm0 m1 fm1 f0 ff0 f1 ff1 f2 ff2 f3 ff3 f4 ff4 p0 fp0 p1 fp1 p2 fp2 p3 fp3 p4 fp4
   try clear hcv
   try clear hr
   rw[show ((⟨#[105]⟩:ByteArray)++⟨#[49]⟩)=⟨#[105,49]⟩ from rfl];have hgo:x9.grownBy (x9.setCell ⟨ko,3,none⟩ (.string ⟨#[105,49]⟩)) (some ko):=by refine grown_setCell ?_ _;exact World.grownBy.refl _ _
   have hbo:(x9.setCell ⟨ko,3,none⟩ (.string ⟨#[105,49]⟩)).heap[ko]?=_:=(heap_setCell_same _ ko 3 _ _ (.string ⟨#[105,49]⟩) HBo.out)
   obtain⟨W2,hW2⟩:∃ q,q=x9.setCell ⟨ko,3,none⟩ (.string ⟨#[105,49]⟩):=⟨_,rfl⟩
   rw[<-hW2] at hgo hbo ⊢;have hfo:Fr 29 x9 W2:=.of_grown hgo (fun j hj=>by injection hj with hj;subst hj;exact⟨_,HBo.out,n32_F⟩);replace HW:=Lib.hid (ext_below HW.out hgo HKO.out);replace HC:=Lib.hid (HC.out.fr hfo);replace HBf:=Lib.hid ((hgo.block _ (lt_of_block HBf.out) (fun e=>by injection e with e;exact HDIS.out.1 e)).trans HBf.out);replace HBd:=Lib.hid ((hgo.block _ (lt_of_block HBd.out) (fun e=>by injection e with e;exact HDIS.out.2.1 e)).trans HBd.out);replace HBr:=Lib.hid ((hgo.block _ (lt_of_block HBr.out) (fun e=>by injection e with e;exact HDIS.out.2.2 e)).trans HBr.out);have HSZW:Hid (W1.heap.size<=W2.heap.size):=Lib.hid (Nat.le_trans HSZP.out hgo.size);replace HBo:=Lib.hid hbo;clear hgo hbo hW2 hfo HSZP;have HSZP:=HSZW;clear HSZW
   have HT:Hid (TSt w W1.heap.size kf kd kr ko ⟨xo,xb,xao,xl,xc,xnm,xko,xkl,xkc⟩ ((d:Nat)+1) 1 false none 0 0 (⟨#[105,49]⟩) (0) d [] (.slice none 0 0) [] W2):=Lib.hid (TSt.zero HBo.out HBf.out HBd.out HBr.out (nr0 _) HLOW.out HDIS.out HKO.out HW.out HSZP.out);have o0:=cell_at (v:=.int .i64 1) HBo.out 0 rfl;have fo0:=froz_at HBo.out 0;have o1:=cell_at (v:=.bool false) HBo.out 1 rfl;have fo1:=froz_at HBo.out 1;have o2:=cell_at (v:=.slice none 0 0) HBo.out 2 rfl;have fo2:=froz_at HBo.out 2;have o3:=cell_at (v:=.string ⟨#[105,49]⟩) HBo.out 3 rfl;have fo3:=froz_at HBo.out 3;have o4:=cell_at (v:=.slice none 0 0) HBo.out 4 rfl;have fo4:=froz_at HBo.out 4;obtain⟨⟨r0,r1,r2,r3,r4⟩,fr0,fr1,fr2,fr3,fr4⟩:=cells5V HBr.out;go_wp2_with fail
   clear o0 fo0 o1 fo1 o2 fo2 o3 fo3 o4 fo4;have hg:=grown5V (w:=W2) (k:=kr) (.int .i64 1) (.bool false) (.slice none 0 0) (.string ⟨#[105,49]⟩) (.slice none 0 0);have hf:Fr 29 W2 _:=.of_grown hg (fun j hj=>by injection hj with hj;subst hj;exact⟨_,HBr.out,n32_F⟩);obtain⟨h1,h2,h3,h4⟩:=HT.out.fin hg hf (by unfold IR;decide) HB0.out HKR.out (by unfold NmOk;simp) (small4 (by decide)) (fun _ _ _=>rfl) (by simp) (rfl)
   (try simp only[Exit.inBlock,Exit.then])
   exact bodyPost_ret (v:=.agg #[.int .i64 1,.bool false,.slice none 0 0,.string ⟨#[105,49]⟩,.slice none 0 0]) (by simp[results,Try.results7,go_sem,r0,r1,r2,r3,r4]) rfl ⟨_,_,rfl,h1,h2,rfl,h3,h4⟩
  have o0:=cell_at (v:=.int .i64 1) HBo.out 0 rfl;have fo0:=froz_at HBo.out 0;have o1:=cell_at (v:=.bool false) HBo.out 1 rfl;have fo1:=froz_at HBo.out 1;have o2:=cell_at (v:=.slice none 0 0) HBo.out 2 rfl;have fo2:=froz_at HBo.out 2;have o3:=cell_at (v:=.string ⟨#[]⟩) HBo.out 3 rfl;have fo3:=froz_at HBo.out 3;have o4:=cell_at (v:=.slice none 0 0) HBo.out 4 rfl;have fo4:=froz_at HBo.out 4;have m0:=cell_at (v:=.bool zb) HBm.out 0 rfl;have fm0:=froz_at HBm.out 0;have m1:=cell_at (v:=.slice zo zl zc) HBm.out 1 rfl;have fm1:=froz_at HBm.out 1;have f0:=cell_at (v:=.int .i64 xo) HBf.out 0 rfl;have ff0:=froz_at HBf.out 0;have f1:=cell_at (v:=.bool xb) HBf.out 1 rfl;have ff1:=froz_at HBf.out 1;have f2:=cell_at (v:=.slice xao xl xc) HBf.out 2 rfl;have ff2:=froz_at HBf.out 2;have f3:=cell_at (v:=.string xnm) HBf.out 3 rfl
  have ff3:=froz_at HBf.out 3;have f4:=cell_at (v:=.slice xko xkl xkc) HBf.out 4 rfl;have ff4:=froz_at HBf.out 4;have hcv:=one_byteL 50 50 (by decide) W1;obtain⟨x9,ky,ey,eky,hby,hky,HBy⟩:=newV W1 #[.int .u8 50] 5;replace HBf:=kBV hby.out HBf;replace HBd:=kBV hby.out HBd;replace HBr:=kBV hby.out HBr;replace HBo:=kBV hby.out HBo;replace HBm:=kBV hby.out HBm;replace HW:=Lib.hid (HW.out.trans (hby.out.mono HW.out.size));replace HC:=Lib.hid (HC.out.below hby.out);rw[ey,eky] at hcv;have p0:=cell_at (v:=.int .i64 1) HBo.out 0 rfl;have fp0:=froz_at HBo.out 0;have p1:=cell_at (v:=.bool false) HBo.out 1 rfl;have fp1:=froz_at HBo.out 1;have p2:=cell_at (v:=.slice none 0 0) HBo.out 2 rfl;have fp2:=froz_at HBo.out 2;have p3:=cell_at (v:=.string ⟨#[]⟩) HBo.out 3 rfl;have fp3:=froz_at HBo.out 3
  have p4:=cell_at (v:=.slice none 0 0) HBo.out 4 rfl;have fp4:=froz_at HBo.out 4;replace HSZP:=Lib.hid (Nat.le_trans HSZP.out hby.out.size);go_upto_region 21 with fail
  clear o0 fo0 o1 fo1 o2 fo2 o3 fo3 o4 fo4 m0 fm0 m1 fm1 f0 ff0 f1 ff1 f2 ff2 f3 ff3 f4 ff4 p0 fp0 p1 fp1 p2 fp2 p3 fp3 p4 fp4
  try clear hcv
  try clear hr
  rw[show ((⟨#[105]⟩:ByteArray)++⟨#[50]⟩)=⟨#[105,50]⟩ from rfl];have hgo:x9.grownBy (x9.setCell ⟨ko,3,none⟩ (.string ⟨#[105,50]⟩)) (some ko):=by refine grown_setCell ?_ _;exact World.grownBy.refl _ _
  have hbo:(x9.setCell ⟨ko,3,none⟩ (.string ⟨#[105,50]⟩)).heap[ko]?=_:=(heap_setCell_same _ ko 3 _ _ (.string ⟨#[105,50]⟩) HBo.out)
  obtain⟨W2,hW2⟩:∃ q,q=x9.setCell ⟨ko,3,none⟩ (.string ⟨#[105,50]⟩):=⟨_,rfl⟩
  rw[<-hW2] at hgo hbo ⊢;have hfo:Fr 29 x9 W2:=.of_grown hgo (fun j hj=>by injection hj with hj;subst hj;exact⟨_,HBo.out,n32_F⟩);replace HW:=Lib.hid (ext_below HW.out hgo HKO.out);replace HC:=Lib.hid (HC.out.fr hfo);replace HBf:=Lib.hid ((hgo.block _ (lt_of_block HBf.out) (fun e=>by injection e with e;exact HDIS.out.1 e)).trans HBf.out);replace HBd:=Lib.hid ((hgo.block _ (lt_of_block HBd.out) (fun e=>by injection e with e;exact HDIS.out.2.1 e)).trans HBd.out);replace HBr:=Lib.hid ((hgo.block _ (lt_of_block HBr.out) (fun e=>by injection e with e;exact HDIS.out.2.2 e)).trans HBr.out);have HSZW:Hid (W1.heap.size<=W2.heap.size):=Lib.hid (Nat.le_trans HSZP.out hgo.size);replace HBo:=Lib.hid hbo;clear hgo hbo hW2 hfo HSZP;have HSZP:=HSZW;clear HSZW
  have HT:Hid (TSt w W1.heap.size kf kd kr ko ⟨xo,xb,xao,xl,xc,xnm,xko,xkl,xkc⟩ ((d:Nat)+1) 1 false none 0 0 (⟨#[105,50]⟩) (0) d [] (.slice none 0 0) [] W2):=Lib.hid (TSt.zero HBo.out HBf.out HBd.out HBr.out (nr0 _) HLOW.out HDIS.out HKO.out HW.out HSZP.out);have o0:=cell_at (v:=.int .i64 1) HBo.out 0 rfl;have fo0:=froz_at HBo.out 0;have o1:=cell_at (v:=.bool false) HBo.out 1 rfl;have fo1:=froz_at HBo.out 1;have o2:=cell_at (v:=.slice none 0 0) HBo.out 2 rfl;have fo2:=froz_at HBo.out 2;have o3:=cell_at (v:=.string ⟨#[105,50]⟩) HBo.out 3 rfl;have fo3:=froz_at HBo.out 3;have o4:=cell_at (v:=.slice none 0 0) HBo.out 4 rfl;have fo4:=froz_at HBo.out 4;obtain⟨⟨r0,r1,r2,r3,r4⟩,fr0,fr1,fr2,fr3,fr4⟩:=cells5V HBr.out;go_wp2_with fail
  clear o0 fo0 o1 fo1 o2 fo2 o3 fo3 o4 fo4;have hg:=grown5V (w:=W2) (k:=kr) (.int .i64 1) (.bool false) (.slice none 0 0) (.string ⟨#[105,50]⟩) (.slice none 0 0);have hf:Fr 29 W2 _:=.of_grown hg (fun j hj=>by injection hj with hj;subst hj;exact⟨_,HBr.out,n32_F⟩);obtain⟨h1,h2,h3,h4⟩:=HT.out.fin hg hf (by unfold IR;decide) HB0.out HKR.out (by unfold NmOk;simp) (small4 (by decide)) (fun _ _ _=>rfl) (by simp) (rfl)
  (try simp only[Exit.inBlock,Exit.then])
  exact bodyPost_ret (v:=.agg #[.int .i64 1,.bool false,.slice none 0 0,.string ⟨#[105,50]⟩,.slice none 0 0]) (by simp[results,Try.results7,go_sem,r0,r1,r2,r3,r4]) rfl ⟨_,_,rfl,h1,h2,rfl,h3,h4⟩
 ·have hop2:op=0:=HOP.out;subst hop2;clear HOP;have HSZP:Hid (W1.heap.size<=W1.heap.size):=Lib.hid (Nat.le_refl _);have o0:=cell_at (v:=.int .i64 0) HBo.out 0 rfl;have fo0:=froz_at HBo.out 0;have o1:=cell_at (v:=.bool false) HBo.out 1 rfl;have fo1:=froz_at HBo.out 1;have o2:=cell_at (v:=.slice none 0 0) HBo.out 2 rfl;have fo2:=froz_at HBo.out 2;have o3:=cell_at (v:=.string ⟨#[]⟩) HBo.out 3 rfl;have fo3:=froz_at HBo.out 3;have o4:=cell_at (v:=.slice none 0 0) HBo.out 4 rfl;have fo4:=froz_at HBo.out 4;have m0:=cell_at (v:=.bool zb) HBm.out 0 rfl;have fm0:=froz_at HBm.out 0;have m1:=cell_at (v:=.slice zo zl zc) HBm.out 1 rfl;have fm1:=froz_at HBm.out 1;go_upto_region 21 with fail
  clear o0 fo0 o1 fo1 o2 fo2 o3 fo3 o4 fo4 m0 fm0 m1 fm1;have hgo:W1.grownBy ((W1.setCell ⟨ko,1,none⟩ (.bool zb)).setCell ⟨ko,2,none⟩ (.slice zo zl zc)) (some ko):=by refine grown_setCell ?_ _;refine grown_setCell ?_ _;exact World.grownBy.refl _ _
  have hbo:((W1.setCell ⟨ko,1,none⟩ (.bool zb)).setCell ⟨ko,2,none⟩ (.slice zo zl zc)).heap[ko]?=_:=(heap_setCell_same _ ko 2 _ _ (.slice zo zl zc) (heap_setCell_same _ ko 1 _ _ (.bool zb) HBo.out))
  obtain⟨W2,hW2⟩:∃ q,q=(W1.setCell ⟨ko,1,none⟩ (.bool zb)).setCell ⟨ko,2,none⟩ (.slice zo zl zc):=⟨_,rfl⟩
  rw[<-hW2] at hgo hbo ⊢;have hfo:Fr 29 W1 W2:=.of_grown hgo (fun j hj=>by injection hj with hj;subst hj;exact⟨_,HBo.out,n32_F⟩);replace HW:=Lib.hid (ext_below HW.out hgo HKO.out);replace HC:=Lib.hid (HC.out.fr hfo);replace HBf:=Lib.hid ((hgo.block _ (lt_of_block HBf.out) (fun e=>by injection e with e;exact HDIS.out.1 e)).trans HBf.out);replace HBd:=Lib.hid ((hgo.block _ (lt_of_block HBd.out) (fun e=>by injection e with e;exact HDIS.out.2.1 e)).trans HBd.out);replace HBr:=Lib.hid ((hgo.block _ (lt_of_block HBr.out) (fun e=>by injection e with e;exact HDIS.out.2.2 e)).trans HBr.out);have HSZW:Hid (W1.heap.size<=W2.heap.size):=Lib.hid (Nat.le_trans HSZP.out hgo.size);replace HBo:=Lib.hid hbo;clear hgo hbo hW2 hfo HSZP;have HSZP:=HSZW;clear HSZW
  have HT:Hid (TSt w W1.heap.size kf kd kr ko ⟨xo,xb,xao,xl,xc,xnm,xko,xkl,xkc⟩ ((d:Nat)+1) 0 zb zo zl zc (⟨#[]⟩) (z) d [] (.slice none 0 0) [] W2):=Lib.hid (TSt.zero HBo.out HBf.out HBd.out HBr.out (HC.out) HLOW.out HDIS.out HKO.out HW.out HSZP.out);have o0:=cell_at (v:=.int .i64 0) HBo.out 0 rfl;have fo0:=froz_at HBo.out 0;have o1:=cell_at (v:=.bool zb) HBo.out 1 rfl;have fo1:=froz_at HBo.out 1;have o2:=cell_at (v:=.slice zo zl zc) HBo.out 2 rfl;have fo2:=froz_at HBo.out 2;have o3:=cell_at (v:=.string ⟨#[]⟩) HBo.out 3 rfl;have fo3:=froz_at HBo.out 3;have o4:=cell_at (v:=.slice none 0 0) HBo.out 4 rfl;have fo4:=froz_at HBo.out 4;obtain⟨⟨r0,r1,r2,r3,r4⟩,fr0,fr1,fr2,fr3,fr4⟩:=cells5V HBr.out;go_wp2_with fail
  clear o0 fo0 o1 fo1 o2 fo2 o3 fo3 o4 fo4;have hg:=grown5V (w:=W2) (k:=kr) (.int .i64 0) (.bool zb) (.slice zo zl zc) (.string ⟨#[]⟩) (.slice none 0 0);have hf:Fr 29 W2 _:=.of_grown hg (fun j hj=>by injection hj with hj;subst hj;exact⟨_,HBr.out,n32_F⟩);obtain⟨h1,h2,h3,h4⟩:=HT.out.fin hg hf (by unfold IR;decide) HB0.out HKR.out (by unfold NmOk;simp) (lt_pow_more (k:=2) (k':=4) HCZ.out (by decide)) (fun h _ _=>absurd rfl h) (by simp) (rfl)
  (try simp only[Exit.inBlock,Exit.then])
  exact bodyPost_ret (v:=.agg #[.int .i64 0,.bool zb,.slice zo zl zc,.string ⟨#[]⟩,.slice none 0 0]) (by simp[results,Try.results7,go_sem,r0,r1,r2,r3,r4]) rfl ⟨_,_,rfl,h1,h2,rfl,h3,h4⟩
 ·have hop2:op=2:=HOP.out;subst hop2;clear HOP;have HSZP:Hid (W1.heap.size<=W1.heap.size):=Lib.hid (Nat.le_refl _);have HT:Hid (TSt w W1.heap.size kf kd kr ko ⟨xo,xb,xao,xl,xc,xnm,xko,xkl,xkc⟩ ((d:Nat)+1) 2 false none 0 0 (⟨#[]⟩) (0) d [] (.slice none 0 0) [] W1):=Lib.hid (TSt.zero HBo.out HBf.out HBd.out HBr.out (nr0 _) HLOW.out HDIS.out HKO.out HW.out HSZP.out);clear HBm;have HKB:Hid (W1.heap.size<=W1.heap.size):=Lib.hid (Nat.le_refl _);have o0:=cell_at (v:=.int .i64 2) HBo.out 0 rfl;have fo0:=froz_at HBo.out 0;have o1:=cell_at (v:=.bool false) HBo.out 1 rfl;have fo1:=froz_at HBo.out 1;have o2:=cell_at (v:=.slice none 0 0) HBo.out 2 rfl;have fo2:=froz_at HBo.out 2;have o3:=cell_at (v:=.string ⟨#[]⟩) HBo.out 3 rfl;have fo3:=froz_at HBo.out 3;have o4:=cell_at (v:=.slice none 0 0) HBo.out 4 rfl;have fo4:=froz_at HBo.out 4
  go_wp2_with fail
  clear o0 fo0 o1 fo1 o2 fo2 o3 fo3 o4 fo4;refine (kid_p d HD.out HIT.out w W1 W1.heap.size kf kd kr ko ⟨xo,xb,xao,xl,xc,xnm,xko,xkl,xkc⟩ HX.out 2 false none 0 0 ⟨#[]⟩ (0) [] _ [] 0 0 (by decide) (by decide) HT.out (by rw[HT.out.len];simp)).mono ?_;rintro e X1 ⟨⟨q0,rfl⟩,t0,v0,us0,hs,ht⟩;replace HT:=Lib.hid ht;have HS0:=Lib.hid hs;clear hs ht;go_wp2_with fail
  refine (kid_p d HD.out HIT.out w X1 W1.heap.size kf kd kr ko ⟨xo,xb,xao,xl,xc,xnm,xko,xkl,xkc⟩ HX.out 2 false none 0 0 ⟨#[]⟩ (0) ([]++[t0]) _ us0 1 0 (by decide) (by decide) HT.out (by rw[HT.out.len];simp)).mono ?_;rintro e X2 ⟨⟨q1,rfl⟩,t1,v1,us1,hs,ht⟩;replace HT:=Lib.hid ht;have HS1:=Lib.hid hs;clear hs ht;obtain⟨vo,vc,hv,-⟩:=HT.out.row.form;subst hv;obtain⟨N,hN⟩:∃ N,N=us1.length:=⟨_,rfl⟩
  rw[<-hN] at HT;clear hN;replace HBo:=Lib.hid HT.out.ho;replace HBr:=Lib.hid HT.out.hr;have o0:=cell_at (v:=.int .i64 2) HBo.out 0 rfl;have fo0:=froz_at HBo.out 0;have o1:=cell_at (v:=.bool false) HBo.out 1 rfl;have fo1:=froz_at HBo.out 1;have o2:=cell_at (v:=.slice none 0 0) HBo.out 2 rfl;have fo2:=froz_at HBo.out 2;have o3:=cell_at (v:=.string ⟨#[]⟩) HBo.out 3 rfl;have fo3:=froz_at HBo.out 3;have o4:=cell_at (v:=.slice vo N vc) HBo.out 4 rfl;have fo4:=froz_at HBo.out 4;obtain⟨⟨r0,r1,r2,r3,r4⟩,fr0,fr1,fr2,fr3,fr4⟩:=cells5V HBr.out;go_wp2_with fail
  clear o0 fo0 o1 fo1 o2 fo2 o3 fo3 o4 fo4;have hg:=grown5V (w:=X2) (k:=kr) (.int .i64 2) (.bool false) (.slice none 0 0) (.string ⟨#[]⟩) (.slice vo N vc);have hf:Fr 29 X2 _:=.of_grown hg (fun j hj=>by injection hj with hj;subst hj;exact⟨_,HBr.out,n32_F⟩);obtain⟨h1,h2,h3,h4⟩:=HT.out.fin hg hf (by unfold IR;decide) HB0.out HKR.out (by unfold NmOk;simp) (small4 (by decide)) (fun _ _ _=>rfl) (by simp) (by simp[fitF,kidsOk,srts,HS0.out,HS1.out])
  (try simp only[Exit.inBlock,Exit.then])
  exact bodyPost_ret (v:=.agg #[.int .i64 2,.bool false,.slice none 0 0,.string ⟨#[]⟩,.slice vo N vc]) (by simp[results,Try.results7,go_sem,r0,r1,r2,r3,r4]) rfl ⟨_,_,rfl,h1,h2,rfl,h3,h4⟩
 ·have hop2:op=3:=HOP.out;subst hop2;clear HOP;have HSZP:Hid (W1.heap.size<=W1.heap.size):=Lib.hid (Nat.le_refl _);have o0:=cell_at (v:=.int .i64 3) HBo.out 0 rfl;have fo0:=froz_at HBo.out 0;have o1:=cell_at (v:=.bool false) HBo.out 1 rfl;have fo1:=froz_at HBo.out 1;have o2:=cell_at (v:=.slice none 0 0) HBo.out 2 rfl;have fo2:=froz_at HBo.out 2;have o3:=cell_at (v:=.string ⟨#[]⟩) HBo.out 3 rfl;have fo3:=froz_at HBo.out 3;have o4:=cell_at (v:=.slice none 0 0) HBo.out 4 rfl;have fo4:=froz_at HBo.out 4;have m0:=cell_at (v:=.bool zb) HBm.out 0 rfl;have fm0:=froz_at HBm.out 0;have m1:=cell_at (v:=.slice zo zl zc) HBm.out 1 rfl;have fm1:=froz_at HBm.out 1;go_upto_region 21 with fail
  clear o0 fo0 o1 fo1 o2 fo2 o3 fo3 o4 fo4 m0 fm0 m1 fm1;have hgo:W1.grownBy ((W1.setCell ⟨ko,1,none⟩ (.bool zb)).setCell ⟨ko,2,none⟩ (.slice zo zl zc)) (some ko):=by refine grown_setCell ?_ _;refine grown_setCell ?_ _;exact World.grownBy.refl _ _
  have hbo:((W1.setCell ⟨ko,1,none⟩ (.bool zb)).setCell ⟨ko,2,none⟩ (.slice zo zl zc)).heap[ko]?=_:=(heap_setCell_same _ ko 2 _ _ (.slice zo zl zc) (heap_setCell_same _ ko 1 _ _ (.bool zb) HBo.out))
  obtain⟨W2,hW2⟩:∃ q,q=(W1.setCell ⟨ko,1,none⟩ (.bool zb)).setCell ⟨ko,2,none⟩ (.slice zo zl zc):=⟨_,rfl⟩
  rw[<-hW2] at hgo hbo ⊢;have hfo:Fr 29 W1 W2:=.of_grown hgo (fun j hj=>by injection hj with hj;subst hj;exact⟨_,HBo.out,n32_F⟩);replace HW:=Lib.hid (ext_below HW.out hgo HKO.out);replace HC:=Lib.hid (HC.out.fr hfo);replace HBf:=Lib.hid ((hgo.block _ (lt_of_block HBf.out) (fun e=>by injection e with e;exact HDIS.out.1 e)).trans HBf.out);replace HBd:=Lib.hid ((hgo.block _ (lt_of_block HBd.out) (fun e=>by injection e with e;exact HDIS.out.2.1 e)).trans HBd.out);replace HBr:=Lib.hid ((hgo.block _ (lt_of_block HBr.out) (fun e=>by injection e with e;exact HDIS.out.2.2 e)).trans HBr.out);have HSZW:Hid (W1.heap.size<=W2.heap.size):=Lib.hid (Nat.le_trans HSZP.out hgo.size);replace HBo:=Lib.hid hbo;clear hgo hbo hW2 hfo HSZP;have HSZP:=HSZW;clear HSZW
  have HT:Hid (TSt w W1.heap.size kf kd kr ko ⟨xo,xb,xao,xl,xc,xnm,xko,xkl,xkc⟩ ((d:Nat)+1) 3 zb zo zl zc (⟨#[]⟩) (z) d [] (.slice none 0 0) [] W2):=Lib.hid (TSt.zero HBo.out HBf.out HBd.out HBr.out (HC.out) HLOW.out HDIS.out HKO.out HW.out HSZP.out);have HKB:Hid (W2.heap.size<=W2.heap.size):=Lib.hid (Nat.le_refl _);have o0:=cell_at (v:=.int .i64 3) HBo.out 0 rfl;have fo0:=froz_at HBo.out 0;have o1:=cell_at (v:=.bool zb) HBo.out 1 rfl;have fo1:=froz_at HBo.out 1;have o2:=cell_at (v:=.slice zo zl zc) HBo.out 2 rfl;have fo2:=froz_at HBo.out 2;have o3:=cell_at (v:=.string ⟨#[]⟩) HBo.out 3 rfl;have fo3:=froz_at HBo.out 3;have o4:=cell_at (v:=.slice none 0 0) HBo.out 4 rfl;have fo4:=froz_at HBo.out 4;go_wp2_with fail
  clear o0 fo0 o1 fo1 o2 fo2 o3 fo3 o4 fo4;refine (kid_p d HD.out HIT.out w W2 W1.heap.size kf kd kr ko ⟨xo,xb,xao,xl,xc,xnm,xko,xkl,xkc⟩ HX.out 3 zb zo zl zc ⟨#[]⟩ (z) [] _ [] 0 0 (by decide) (by decide) HT.out (by rw[HT.out.len];simp)).mono ?_;rintro e X1 ⟨⟨q0,rfl⟩,t0,v0,us0,hs,ht⟩;replace HT:=Lib.hid ht;have HS0:=Lib.hid hs;clear hs ht;obtain⟨vo,vc,hv,-⟩:=HT.out.row.form;subst hv;obtain⟨N,hN⟩:∃ N,N=us0.length:=⟨_,rfl⟩
  rw[<-hN] at HT;clear hN;replace HBo:=Lib.hid HT.out.ho;replace HBr:=Lib.hid HT.out.hr;have o0:=cell_at (v:=.int .i64 3) HBo.out 0 rfl;have fo0:=froz_at HBo.out 0;have o1:=cell_at (v:=.bool zb) HBo.out 1 rfl;have fo1:=froz_at HBo.out 1;have o2:=cell_at (v:=.slice zo zl zc) HBo.out 2 rfl;have fo2:=froz_at HBo.out 2;have o3:=cell_at (v:=.string ⟨#[]⟩) HBo.out 3 rfl;have fo3:=froz_at HBo.out 3;have o4:=cell_at (v:=.slice vo N vc) HBo.out 4 rfl;have fo4:=froz_at HBo.out 4;obtain⟨⟨r0,r1,r2,r3,r4⟩,fr0,fr1,fr2,fr3,fr4⟩:=cells5V HBr.out;go_wp2_with fail
  clear o0 fo0 o1 fo1 o2 fo2 o3 fo3 o4 fo4;have hg:=grown5V (w:=X1) (k:=kr) (.int .i64 3) (.bool zb) (.slice zo zl zc) (.string ⟨#[]⟩) (.slice vo N vc);have hf:Fr 29 X1 _:=.of_grown hg (fun j hj=>by injection hj with hj;subst hj;exact⟨_,HBr.out,n32_F⟩);obtain⟨h1,h2,h3,h4⟩:=HT.out.fin hg hf (by unfold IR;decide) HB0.out HKR.out (by unfold NmOk;simp) (lt_pow_more (k:=2) (k':=4) HCZ.out (by decide)) (fun _ h _=>absurd rfl h) (by simp) (by simp[fitF,kidsOk,srts,HS0.out])
  (try simp only[Exit.inBlock,Exit.then])
  exact bodyPost_ret (v:=.agg #[.int .i64 3,.bool zb,.slice zo zl zc,.string ⟨#[]⟩,.slice vo N vc]) (by simp[results,Try.results7,go_sem,r0,r1,r2,r3,r4]) rfl ⟨_,_,rfl,h1,h2,rfl,h3,h4⟩
 ·have hop2:op=4:=HOP.out;subst hop2;clear HOP;have HSZP:Hid (W1.heap.size<=W1.heap.size):=Lib.hid (Nat.le_refl _);have HT:Hid (TSt w W1.heap.size kf kd kr ko ⟨xo,xb,xao,xl,xc,xnm,xko,xkl,xkc⟩ ((d:Nat)+1) 4 false none 0 0 (⟨#[]⟩) (0) d [] (.slice none 0 0) [] W1):=Lib.hid (TSt.zero HBo.out HBf.out HBd.out HBr.out (nr0 _) HLOW.out HDIS.out HKO.out HW.out HSZP.out);clear HBm;have HKB:Hid (W1.heap.size<=W1.heap.size):=Lib.hid (Nat.le_refl _);have o0:=cell_at (v:=.int .i64 4) HBo.out 0 rfl;have fo0:=froz_at HBo.out 0;have o1:=cell_at (v:=.bool false) HBo.out 1 rfl;have fo1:=froz_at HBo.out 1;have o2:=cell_at (v:=.slice none 0 0) HBo.out 2 rfl;have fo2:=froz_at HBo.out 2;have o3:=cell_at (v:=.string ⟨#[]⟩) HBo.out 3 rfl;have fo3:=froz_at HBo.out 3;have o4:=cell_at (v:=.slice none 0 0) HBo.out 4 rfl;have fo4:=froz_at HBo.out 4
  go_wp2_with fail
  clear o0 fo0 o1 fo1 o2 fo2 o3 fo3 o4 fo4;refine (kid_p d HD.out HIT.out w W1 W1.heap.size kf kd kr ko ⟨xo,xb,xao,xl,xc,xnm,xko,xkl,xkc⟩ HX.out 4 false none 0 0 ⟨#[]⟩ (0) [] _ [] 0 0 (by decide) (by decide) HT.out (by rw[HT.out.len];simp)).mono ?_;rintro e X1 ⟨⟨q0,rfl⟩,t0,v0,us0,hs,ht⟩;replace HT:=Lib.hid ht;have HS0:=Lib.hid hs;clear hs ht;go_wp2_with fail
  refine (kid_p d HD.out HIT.out w X1 W1.heap.size kf kd kr ko ⟨xo,xb,xao,xl,xc,xnm,xko,xkl,xkc⟩ HX.out 4 false none 0 0 ⟨#[]⟩ (0) ([]++[t0]) _ us0 1 0 (by decide) (by decide) HT.out (by rw[HT.out.len];simp)).mono ?_;rintro e X2 ⟨⟨q1,rfl⟩,t1,v1,us1,hs,ht⟩;replace HT:=Lib.hid ht;have HS1:=Lib.hid hs;clear hs ht;obtain⟨vo,vc,hv,-⟩:=HT.out.row.form;subst hv;obtain⟨N,hN⟩:∃ N,N=us1.length:=⟨_,rfl⟩
  rw[<-hN] at HT;clear hN;replace HBo:=Lib.hid HT.out.ho;replace HBr:=Lib.hid HT.out.hr;have o0:=cell_at (v:=.int .i64 4) HBo.out 0 rfl;have fo0:=froz_at HBo.out 0;have o1:=cell_at (v:=.bool false) HBo.out 1 rfl;have fo1:=froz_at HBo.out 1;have o2:=cell_at (v:=.slice none 0 0) HBo.out 2 rfl;have fo2:=froz_at HBo.out 2;have o3:=cell_at (v:=.string ⟨#[]⟩) HBo.out 3 rfl;have fo3:=froz_at HBo.out 3;have o4:=cell_at (v:=.slice vo N vc) HBo.out 4 rfl;have fo4:=froz_at HBo.out 4;obtain⟨⟨r0,r1,r2,r3,r4⟩,fr0,fr1,fr2,fr3,fr4⟩:=cells5V HBr.out;go_wp2_with fail
  clear o0 fo0 o1 fo1 o2 fo2 o3 fo3 o4 fo4;have hg:=grown5V (w:=X2) (k:=kr) (.int .i64 4) (.bool false) (.slice none 0 0) (.string ⟨#[]⟩) (.slice vo N vc);have hf:Fr 29 X2 _:=.of_grown hg (fun j hj=>by injection hj with hj;subst hj;exact⟨_,HBr.out,n32_F⟩);obtain⟨h1,h2,h3,h4⟩:=HT.out.fin hg hf (by unfold IR;decide) HB0.out HKR.out (by unfold NmOk;simp) (small4 (by decide)) (fun _ _ _=>rfl) (by simp) (by simp[fitF,kidsOk,srts,HS0.out,HS1.out])
  (try simp only[Exit.inBlock,Exit.then])
  exact bodyPost_ret (v:=.agg #[.int .i64 4,.bool false,.slice none 0 0,.string ⟨#[]⟩,.slice vo N vc]) (by simp[results,Try.results7,go_sem,r0,r1,r2,r3,r4]) rfl ⟨_,_,rfl,h1,h2,rfl,h3,h4⟩
 ·have hop2:op=5:=HOP.out;subst hop2;clear HOP;have HSZP:Hid (W1.heap.size<=W1.heap.size):=Lib.hid (Nat.le_refl _);have o0:=cell_at (v:=.int .i64 5) HBo.out 0 rfl;have fo0:=froz_at HBo.out 0;have o1:=cell_at (v:=.bool false) HBo.out 1 rfl;have fo1:=froz_at HBo.out 1;have o2:=cell_at (v:=.slice none 0 0) HBo.out 2 rfl;have fo2:=froz_at HBo.out 2;have o3:=cell_at (v:=.string ⟨#[]⟩) HBo.out 3 rfl;have fo3:=froz_at HBo.out 3;have o4:=cell_at (v:=.slice none 0 0) HBo.out 4 rfl;have fo4:=froz_at HBo.out 4;have m0:=cell_at (v:=.bool zb) HBm.out 0 rfl;have fm0:=froz_at HBm.out 0;have m1:=cell_at (v:=.slice zo zl zc) HBm.out 1 rfl;have fm1:=froz_at HBm.out 1;go_wp2_with fail
  refine (big_any false _ z.natAbs 600 W1 HC.out.nat (by decide)).mono ?_;rintro e x9 ⟨va,rfl,ha,hb⟩;clear o0 fo0 o1 fo1 o2 fo2 o3 fo3 o4 fo4 m0 fm0 m1 fm1;replace HBf:=kBV hb HBf;replace HBd:=kBV hb HBd;replace HBr:=kBV hb HBr;replace HBo:=kBV hb HBo;replace HBm:=kBV hb HBm;replace HW:=Lib.hid (HW.out.trans (hb.mono HW.out.size));replace HC:=Lib.hid (HC.out.below hb);replace HSZP:=Lib.hid (Nat.le_trans HSZP.out hb.size);have HVA:=Lib.hid ha;clear ha hb;go_wp2_with fail
  refine (wof_any 1 x9 (by decide) (by decide)).mono ?_;rintro e x10 ⟨vb,rfl,ha,hb⟩;replace HBf:=kBV hb HBf;replace HBd:=kBV hb HBd;replace HBr:=kBV hb HBr;replace HBo:=kBV hb HBo;replace HBm:=kBV hb HBm;replace HW:=Lib.hid (HW.out.trans (hb.mono HW.out.size));replace HC:=Lib.hid (HC.out.below hb);replace HSZP:=Lib.hid (Nat.le_trans HSZP.out hb.size);replace HVA:=Lib.hid (HVA.out.below hb);have HVB:=Lib.hid ha;clear ha hb;go_wp2_with fail
  refine (wadd_any va vb _ _ 600 2 x10 HVA.out.gi HVB.out.gi (by decide) (by decide)).mono ?_;rintro e x11 ⟨vd,rfl,ha,hb⟩;replace HBf:=kBV hb HBf;replace HBd:=kBV hb HBd;replace HBr:=kBV hb HBr;replace HBo:=kBV hb HBo;replace HBm:=kBV hb HBm;replace HW:=Lib.hid (HW.out.trans (hb.mono HW.out.size));replace HC:=Lib.hid (HC.out.below hb);replace HSZP:=Lib.hid (Nat.le_trans HSZP.out hb.size);replace HVA:=Lib.hid (HVA.out.below hb);replace HVB:=Lib.hid (HVB.out.below hb);obtain⟨sb,so,sl,sc,rfl⟩:=ha.shape;have hs4:=succ4 HCZ.out;obtain⟨Z,hZ⟩:∃ Z,Z=sg false z.natAbs+1:=⟨_,rfl⟩
  rw[<-hZ] at ha hs4;replace HC:=Lib.hid (ha.tight (lt_pow_more (k:=4) (k':=600) hs4.1 (by decide)));have HS4:=Lib.hid hs4;clear ha hb HVA HVB hs4 hZ;have o0:=cell_at (v:=.int .i64 5) HBo.out 0 rfl;have fo0:=froz_at HBo.out 0;have o1:=cell_at (v:=.bool false) HBo.out 1 rfl;have fo1:=froz_at HBo.out 1;have o2:=cell_at (v:=.slice none 0 0) HBo.out 2 rfl;have fo2:=froz_at HBo.out 2;have o3:=cell_at (v:=.string ⟨#[]⟩) HBo.out 3 rfl;have fo3:=froz_at HBo.out 3;have o4:=cell_at (v:=.slice none 0 0) HBo.out 4 rfl;have fo4:=froz_at HBo.out 4;go_upto_region 21 with fail
  clear o0 fo0 o1 fo1 o2 fo2 o3 fo3 o4 fo4;have hgo:x11.grownBy ((x11.setCell ⟨ko,1,none⟩ (.bool sb)).setCell ⟨ko,2,none⟩ (.slice so sl sc)) (some ko):=by refine grown_setCell ?_ _;refine grown_setCell ?_ _;exact World.grownBy.refl _ _
  have hbo:((x11.setCell ⟨ko,1,none⟩ (.bool sb)).setCell ⟨ko,2,none⟩ (.slice so sl sc)).heap[ko]?=_:=(heap_setCell_same _ ko 2 _ _ (.slice so sl sc) (heap_setCell_same _ ko 1 _ _ (.bool sb) HBo.out))
  obtain⟨W2,hW2⟩:∃ q,q=(x11.setCell ⟨ko,1,none⟩ (.bool sb)).setCell ⟨ko,2,none⟩ (.slice so sl sc):=⟨_,rfl⟩
  rw[<-hW2] at hgo hbo ⊢;have hfo:Fr 29 x11 W2:=.of_grown hgo (fun j hj=>by injection hj with hj;subst hj;exact⟨_,HBo.out,n32_F⟩);replace HW:=Lib.hid (ext_below HW.out hgo HKO.out);replace HC:=Lib.hid (HC.out.fr hfo);replace HBf:=Lib.hid ((hgo.block _ (lt_of_block HBf.out) (fun e=>by injection e with e;exact HDIS.out.1 e)).trans HBf.out);replace HBd:=Lib.hid ((hgo.block _ (lt_of_block HBd.out) (fun e=>by injection e with e;exact HDIS.out.2.1 e)).trans HBd.out);replace HBr:=Lib.hid ((hgo.block _ (lt_of_block HBr.out) (fun e=>by injection e with e;exact HDIS.out.2.2 e)).trans HBr.out);have HSZW:Hid (W1.heap.size<=W2.heap.size):=Lib.hid (Nat.le_trans HSZP.out hgo.size);replace HBo:=Lib.hid hbo;clear hgo hbo hW2 hfo HSZP;have HSZP:=HSZW;clear HSZW
  have HT:Hid (TSt w W1.heap.size kf kd kr ko ⟨xo,xb,xao,xl,xc,xnm,xko,xkl,xkc⟩ ((d:Nat)+1) 5 sb so sl sc (⟨#[]⟩) (Z) d [] (.slice none 0 0) [] W2):=Lib.hid (TSt.zero HBo.out HBf.out HBd.out HBr.out (HC.out) HLOW.out HDIS.out HKO.out HW.out HSZP.out);have HKB:Hid (W2.heap.size<=W2.heap.size):=Lib.hid (Nat.le_refl _);have o0:=cell_at (v:=.int .i64 5) HBo.out 0 rfl;have fo0:=froz_at HBo.out 0;have o1:=cell_at (v:=.bool sb) HBo.out 1 rfl;have fo1:=froz_at HBo.out 1;have o2:=cell_at (v:=.slice so sl sc) HBo.out 2 rfl;have fo2:=froz_at HBo.out 2;have o3:=cell_at (v:=.string ⟨#[]⟩) HBo.out 3 rfl;have fo3:=froz_at HBo.out 3;have o4:=cell_at (v:=.slice none 0 0) HBo.out 4 rfl;have fo4:=froz_at HBo.out 4;go_wp2_with fail
  clear o0 fo0 o1 fo1 o2 fo2 o3 fo3 o4 fo4;refine (kid_p d HD.out HIT.out w W2 W1.heap.size kf kd kr ko ⟨xo,xb,xao,xl,xc,xnm,xko,xkl,xkc⟩ HX.out 5 sb so sl sc ⟨#[]⟩ (Z) [] _ [] 0 0 (by decide) (by decide) HT.out (by rw[HT.out.len];simp)).mono ?_;rintro e X1 ⟨⟨q0,rfl⟩,t0,v0,us0,hs,ht⟩;replace HT:=Lib.hid ht;have HS0:=Lib.hid hs;clear hs ht;obtain⟨vo,vc,hv,-⟩:=HT.out.row.form;subst hv;obtain⟨N,hN⟩:∃ N,N=us0.length:=⟨_,rfl⟩
  rw[<-hN] at HT;clear hN;replace HBo:=Lib.hid HT.out.ho;replace HBr:=Lib.hid HT.out.hr;have o0:=cell_at (v:=.int .i64 5) HBo.out 0 rfl;have fo0:=froz_at HBo.out 0;have o1:=cell_at (v:=.bool sb) HBo.out 1 rfl;have fo1:=froz_at HBo.out 1;have o2:=cell_at (v:=.slice so sl sc) HBo.out 2 rfl;have fo2:=froz_at HBo.out 2;have o3:=cell_at (v:=.string ⟨#[]⟩) HBo.out 3 rfl;have fo3:=froz_at HBo.out 3;have o4:=cell_at (v:=.slice vo N vc) HBo.out 4 rfl;have fo4:=froz_at HBo.out 4;obtain⟨⟨r0,r1,r2,r3,r4⟩,fr0,fr1,fr2,fr3,fr4⟩:=cells5V HBr.out;go_wp2_with fail
  clear o0 fo0 o1 fo1 o2 fo2 o3 fo3 o4 fo4;have hg:=grown5V (w:=X1) (k:=kr) (.int .i64 5) (.bool sb) (.slice so sl sc) (.string ⟨#[]⟩) (.slice vo N vc);have hf:Fr 29 X1 _:=.of_grown hg (fun j hj=>by injection hj with hj;subst hj;exact⟨_,HBr.out,n32_F⟩);obtain⟨h1,h2,h3,h4⟩:=HT.out.fin hg hf (by unfold IR;decide) HB0.out HKR.out (by unfold NmOk;simp) (HS4.out.1) (fun _ _ h=>absurd rfl h) (by simp) (by simp[HS4.out.2,fitF,kidsOk,srts,HS0.out])
  (try simp only[Exit.inBlock,Exit.then])
  exact bodyPost_ret (v:=.agg #[.int .i64 5,.bool sb,.slice so sl sc,.string ⟨#[]⟩,.slice vo N vc]) (by simp[results,Try.results7,go_sem,r0,r1,r2,r3,r4]) rfl ⟨_,_,rfl,h1,h2,rfl,h3,h4⟩
 ·have hop2:op=6:=HOP.out;subst hop2;clear HOP;have HSZP:Hid (W1.heap.size<=W1.heap.size):=Lib.hid (Nat.le_refl _);have HT:Hid (TSt w W1.heap.size kf kd kr ko ⟨xo,xb,xao,xl,xc,xnm,xko,xkl,xkc⟩ ((d:Nat)+1) 6 false none 0 0 (⟨#[]⟩) (0) d [] (.slice none 0 0) [] W1):=Lib.hid (TSt.zero HBo.out HBf.out HBd.out HBr.out (nr0 _) HLOW.out HDIS.out HKO.out HW.out HSZP.out);clear HBm;have HKB:Hid (W1.heap.size<=W1.heap.size):=Lib.hid (Nat.le_refl _);have o0:=cell_at (v:=.int .i64 6) HBo.out 0 rfl;have fo0:=froz_at HBo.out 0;have o1:=cell_at (v:=.bool false) HBo.out 1 rfl;have fo1:=froz_at HBo.out 1;have o2:=cell_at (v:=.slice none 0 0) HBo.out 2 rfl;have fo2:=froz_at HBo.out 2;have o3:=cell_at (v:=.string ⟨#[]⟩) HBo.out 3 rfl;have fo3:=froz_at HBo.out 3;have o4:=cell_at (v:=.slice none 0 0) HBo.out 4 rfl;have fo4:=froz_at HBo.out 4
  go_wp2_with fail
  clear o0 fo0 o1 fo1 o2 fo2 o3 fo3 o4 fo4;refine (kid_p d HD.out HIT.out w W1 W1.heap.size kf kd kr ko ⟨xo,xb,xao,xl,xc,xnm,xko,xkl,xkc⟩ HX.out 6 false none 0 0 ⟨#[]⟩ (0) [] _ [] 0 2 (by decide) (by decide) HT.out (by rw[HT.out.len];simp)).mono ?_;rintro e X1 ⟨⟨q0,rfl⟩,t0,v0,us0,hs,ht⟩;replace HT:=Lib.hid ht;have HS0:=Lib.hid hs;clear hs ht;obtain⟨vo,vc,hv,-⟩:=HT.out.row.form;subst hv;obtain⟨N,hN⟩:∃ N,N=us0.length:=⟨_,rfl⟩
  rw[<-hN] at HT;clear hN;replace HBo:=Lib.hid HT.out.ho;replace HBr:=Lib.hid HT.out.hr;have o0:=cell_at (v:=.int .i64 6) HBo.out 0 rfl;have fo0:=froz_at HBo.out 0;have o1:=cell_at (v:=.bool false) HBo.out 1 rfl;have fo1:=froz_at HBo.out 1;have o2:=cell_at (v:=.slice none 0 0) HBo.out 2 rfl;have fo2:=froz_at HBo.out 2;have o3:=cell_at (v:=.string ⟨#[]⟩) HBo.out 3 rfl;have fo3:=froz_at HBo.out 3;have o4:=cell_at (v:=.slice vo N vc) HBo.out 4 rfl;have fo4:=froz_at HBo.out 4;obtain⟨⟨r0,r1,r2,r3,r4⟩,fr0,fr1,fr2,fr3,fr4⟩:=cells5V HBr.out;go_wp2_with fail
  clear o0 fo0 o1 fo1 o2 fo2 o3 fo3 o4 fo4;have hg:=grown5V (w:=X1) (k:=kr) (.int .i64 6) (.bool false) (.slice none 0 0) (.string ⟨#[]⟩) (.slice vo N vc);have hf:Fr 29 X1 _:=.of_grown hg (fun j hj=>by injection hj with hj;subst hj;exact⟨_,HBr.out,n32_F⟩);obtain⟨h1,h2,h3,h4⟩:=HT.out.fin hg hf (by unfold IR;decide) HB0.out HKR.out (by unfold NmOk;simp) (small4 (by decide)) (fun _ _ _=>rfl) (by simp) (by simp[fitF,kidsOk,srts,HS0.out])
  (try simp only[Exit.inBlock,Exit.then])
  exact bodyPost_ret (v:=.agg #[.int .i64 6,.bool false,.slice none 0 0,.string ⟨#[]⟩,.slice vo N vc]) (by simp[results,Try.results7,go_sem,r0,r1,r2,r3,r4]) rfl ⟨_,_,rfl,h1,h2,rfl,h3,h4⟩
 have hop2:op=7:=HOP.out;subst hop2;clear HOP;have HSZP:Hid (W1.heap.size<=W1.heap.size):=Lib.hid (Nat.le_refl _);have HT:Hid (TSt w W1.heap.size kf kd kr ko ⟨xo,xb,xao,xl,xc,xnm,xko,xkl,xkc⟩ ((d:Nat)+1) 7 false none 0 0 (⟨#[]⟩) (0) d [] (.slice none 0 0) [] W1):=Lib.hid (TSt.zero HBo.out HBf.out HBd.out HBr.out (nr0 _) HLOW.out HDIS.out HKO.out HW.out HSZP.out);clear HBm;have HKB:Hid (W1.heap.size<=W1.heap.size):=Lib.hid (Nat.le_refl _);have o0:=cell_at (v:=.int .i64 7) HBo.out 0 rfl;have fo0:=froz_at HBo.out 0;have o1:=cell_at (v:=.bool false) HBo.out 1 rfl;have fo1:=froz_at HBo.out 1;have o2:=cell_at (v:=.slice none 0 0) HBo.out 2 rfl;have fo2:=froz_at HBo.out 2;have o3:=cell_at (v:=.string ⟨#[]⟩) HBo.out 3 rfl;have fo3:=froz_at HBo.out 3;have o4:=cell_at (v:=.slice none 0 0) HBo.out 4 rfl;have fo4:=froz_at HBo.out 4
 go_wp2_with fail
 clear o0 fo0 o1 fo1 o2 fo2 o3 fo3 o4 fo4;refine (kid_p d HD.out HIT.out w W1 W1.heap.size kf kd kr ko ⟨xo,xb,xao,xl,xc,xnm,xko,xkl,xkc⟩ HX.out 7 false none 0 0 ⟨#[]⟩ (0) [] _ [] 0 2 (by decide) (by decide) HT.out (by rw[HT.out.len];simp)).mono ?_;rintro e X1 ⟨⟨q0,rfl⟩,t0,v0,us0,hs,ht⟩;replace HT:=Lib.hid ht;have HS0:=Lib.hid hs;clear hs ht;obtain⟨vo,vc,hv,-⟩:=HT.out.row.form;subst hv;obtain⟨N,hN⟩:∃ N,N=us0.length:=⟨_,rfl⟩
 rw[<-hN] at HT;clear hN;replace HBo:=Lib.hid HT.out.ho;replace HBr:=Lib.hid HT.out.hr;have o0:=cell_at (v:=.int .i64 7) HBo.out 0 rfl;have fo0:=froz_at HBo.out 0;have o1:=cell_at (v:=.bool false) HBo.out 1 rfl;have fo1:=froz_at HBo.out 1;have o2:=cell_at (v:=.slice none 0 0) HBo.out 2 rfl;have fo2:=froz_at HBo.out 2;have o3:=cell_at (v:=.string ⟨#[]⟩) HBo.out 3 rfl;have fo3:=froz_at HBo.out 3;have o4:=cell_at (v:=.slice vo N vc) HBo.out 4 rfl;have fo4:=froz_at HBo.out 4;obtain⟨⟨r0,r1,r2,r3,r4⟩,fr0,fr1,fr2,fr3,fr4⟩:=cells5V HBr.out;go_wp2_with fail
 clear o0 fo0 o1 fo1 o2 fo2 o3 fo3 o4 fo4;have hg:=grown5V (w:=X1) (k:=kr) (.int .i64 7) (.bool false) (.slice none 0 0) (.string ⟨#[]⟩) (.slice vo N vc);have hf:Fr 29 X1 _:=.of_grown hg (fun j hj=>by injection hj with hj;subst hj;exact⟨_,HBr.out,n32_F⟩);obtain⟨h1,h2,h3,h4⟩:=HT.out.fin hg hf (by unfold IR;decide) HB0.out HKR.out (by unfold NmOk;simp) (small4 (by decide)) (fun _ _ _=>rfl) (by simp) (by simp[fitF,kidsOk,srts,HS0.out])
 (try simp only[Exit.inBlock,Exit.then])
 exact bodyPost_ret (v:=.agg #[.int .i64 7,.bool false,.slice none 0 0,.string ⟨#[]⟩,.slice vo N vc]) (by simp[results,Try.results7,go_sem,r0,r1,r2,r3,r4]) rfl ⟨_,_,rfl,h1,h2,rfl,h3,h4⟩
def opAttame_1s (j:Nat):Int:=[(14:Int),(12:Int),(13:Int),(15:Int),(16:Int),(16:Int),(17:Int),(18:Int),(19:Int),(20:Int)].getD j 0
theorem tame_1s (d:Nat) (hd0:1<=d) (hd:d<=100) (IT:TameC d) (xo:Int) (xb:Bool) (xao:Option Addr) (xl xc:Nat) (xnm:ByteArray) (xko:Option Addr) (xkl xkc:Nat) (w:World) (hx:RawF w (d+1) ⟨xo,xb,xao,xl,xc,xnm,xko,xkl,xkc⟩) :
  Calls Try.prog 7 #[.agg #[.int .i64 xo,.bool xb,.slice xao xl xc,.string xnm,.slice xko xkl xkc],.int .i64 1,.int .i64 ((d:Nat)+1:Int)] w (TamePost (d+1) 1 w):=by
 have HX:=Lib.hid hx;have HIT:=Lib.hid IT;have HD0:=Lib.hid hd0;have HD:=Lib.hid hd;have hdle:decide (((d:Nat)+1:Int)<=1)=false:=by simp;omega
 clear IT hd0 hd;obtain⟨-,hn,-,⟨hk1,hk2⟩,-⟩:=hx;simp only at hn hk1 hk2;have hxm:xkc<=9223372036854775807:=hk2;obtain⟨m,hm⟩:∃ m,m=min xl 2:=⟨_,rfl⟩
 have hmin:min (xl:Int) 2=(m:Int):=by omega
 have hm2:m<=2:=by omega
 have hml:m<=xl:=by omega
 have hx2:∃ q,GN w (.slice xao m xc) q 2/\xl<=xc/\xc<=9223372036854775807:=by
  obtain⟨xs,hs,hdg⟩:=hn;have hl:=sl_len hs;obtain⟨_,_,e,h1,h2,_⟩:=id hs;injection e with e1 e2 e3;subst e3;exact⟨_,⟨xs.take m,hs.take m (by omega),hdg.take m,rfl,by rw[List.length_take];omega⟩,by omega,h2⟩
 obtain⟨q,hq,hlc,hc⟩:=hx2;have hmc:m<=xc:=by omega
 have HG:=Lib.hid hq;clear hq hn hm hk2;obtain⟨K,hK,hK2⟩:=and_255 xo;obtain⟨j,hj⟩:∃ j,j=K % 10:=⟨_,rfl⟩
 have hjm:((K:Nat):Int).tmod 10=((j:Nat):Int):=by rw[hj];exact (Int.ofNat_tmod K 10).symm
 have hjN:j<10:=by rw[hj];exact Nat.mod_lt _ (by decide)
 clear hj hK2;have HW:=Lib.hid (Below.refl w.heap.size w);go_enter Try.func7,Try.ntmps7
 obtain⟨x1,kf,ef,ekf,hbf,hkf,HBf⟩:=newV w #[.int .i64 xo,.bool xb,.slice xao xl xc,.string xnm,.slice xko xkl xkc] 29;replace HW:=Lib.hid (HW.out.trans (hbf.out.mono HW.out.size));replace HG:=Lib.hid (HG.out.below hbf.out);obtain⟨x2,kd,ed,ekd,hbd,hkd,HBd⟩:=newV x1 #[.int .i64 ((d:Nat)+1:Int)] 3;replace HBf:=kBV hbd.out HBf;replace HW:=Lib.hid (HW.out.trans (hbd.out.mono HW.out.size));replace HG:=Lib.hid (HG.out.below hbd.out);obtain⟨x3,kr,er,ekr,hbr,hkr,HBr⟩:=newV x2 #[.int .i64 0,.bool false,.slice none 0 0,.string ⟨#[]⟩,.slice none 0 0] 29;replace HBf:=kBV hbr.out HBf;replace HBd:=kBV hbr.out HBd;replace HW:=Lib.hid (HW.out.trans (hbr.out.mono HW.out.size));replace HG:=Lib.hid (HG.out.below hbr.out);have HKR:Hid (w.heap.size<=kr):=Lib.hid (by have h1:=hbf.out.size;have h2:=hbd.out.size;have h3:=hkr.out;omega)
 obtain⟨x4,kp,ep,ekp,hbp,hkp,HBp⟩:=newV x3 #[.int .i64 1,.int .i64 0,.int .i64 2,.int .i64 3,.int .i64 4,.int .i64 5,.int .i64 6,.int .i64 7] 22;replace HBf:=kBV hbp.out HBf;replace HBd:=kBV hbp.out HBd;replace HBr:=kBV hbp.out HBr;replace HW:=Lib.hid (HW.out.trans (hbp.out.mono HW.out.size));replace HG:=Lib.hid (HG.out.below hbp.out);obtain⟨x5,kq,eq,ekq,hbq,hkq,HBq⟩:=newV x4 #[.int .i64 14,.int .i64 12,.int .i64 13,.int .i64 15,.int .i64 16,.int .i64 16,.int .i64 17,.int .i64 18,.int .i64 19,.int .i64 20] 22;replace HBf:=kBV hbq.out HBf;replace HBd:=kBV hbq.out HBd;replace HBr:=kBV hbq.out HBr;replace HBp:=kBV hbq.out HBp;replace HW:=Lib.hid (HW.out.trans (hbq.out.mono HW.out.size));replace HG:=Lib.hid (HG.out.below hbq.out)
 obtain⟨x6,kt,et,ekt,hbt,hkt,HBt⟩:=newV x5 #[.int .i64 8,.int .i64 9,.int .i64 10,.int .i64 11] 22;replace HBf:=kBV hbt.out HBf;replace HBd:=kBV hbt.out HBd;replace HBr:=kBV hbt.out HBr;replace HBp:=kBV hbt.out HBp;replace HBq:=kBV hbt.out HBq;replace HW:=Lib.hid (HW.out.trans (hbt.out.mono HW.out.size));replace HG:=Lib.hid (HG.out.below hbt.out);have hidx:=idx3_1 (some ⟨kp,0,none⟩) (some ⟨kq,0,none⟩) (some ⟨kt,0,none⟩) 8 10 4 8 10 4;have f0:=cell_at (v:=.int .i64 xo) HBf.out 0 rfl;have ff0:=froz_at HBf.out 0;have f1:=cell_at (v:=.bool xb) HBf.out 1 rfl;have ff1:=froz_at HBf.out 1;have f2:=cell_at (v:=.slice xao xl xc) HBf.out 2 rfl;have ff2:=froz_at HBf.out 2;have f3:=cell_at (v:=.string xnm) HBf.out 3 rfl;have ff3:=froz_at HBf.out 3;have f4:=cell_at (v:=.slice xko xkl xkc) HBf.out 4 rfl;have ff4:=froz_at HBf.out 4
 have d0:=cell_at (v:=.int .i64 ((d:Nat)+1:Int)) HBd.out 0 rfl;have fd0:=froz_at HBd.out 0
 have hop:x6.cell? ⟨kq,j,none⟩=some (.int .i64 (opAttame_1s j)):=by
  have:j=0\/j=1\/j=2\/j=3\/j=4\/j=5\/j=6\/j=7\/j=8\/j=9:=by omega
  rcases this with rfl | rfl | rfl | rfl | rfl | rfl | rfl | rfl | rfl | rfl<;>exact cell_at HBq.out _ rfl
 obtain⟨op,hopd⟩:∃ op,op=opAttame_1s j:=⟨_,rfl⟩
 rw[<-hopd] at hop;have HOP:=Lib.hid hopd;clear hopd;go_upto_region 7 with fail
 clear f0 ff0 f1 ff1 f2 ff2 f3 ff3 f4 ff4 d0 fd0 hop;clear hidx hjm hK;have HWp:=HW;have HBfp:=HBf;have HBdp:=HBd;have HBrp:=HBr;obtain⟨x7,ko,eo,eko,hbo,hko,HBo⟩:=newV x6 #[.int .i64 op,.bool false,.slice none 0 0,.string ⟨#[]⟩,.slice none 0 0] 29;replace HBf:=kBV hbo.out HBf;replace HBd:=kBV hbo.out HBd;replace HBr:=kBV hbo.out HBr;replace HBp:=kBV hbo.out HBp;replace HBq:=kBV hbo.out HBq;replace HBt:=kBV hbo.out HBt;replace HW:=Lib.hid (HW.out.trans (hbo.out.mono HW.out.size));replace HG:=Lib.hid (HG.out.below hbo.out);rw[eo,eko];have HKO:Hid (w.heap.size<=ko):=Lib.hid (by have:=HWp.out.size;have:=hko.out;omega);go_upto_region 8 with fail
 have HY:=Lib.hid (Below.refl x7.heap.size x7);have HBf0:=HBf;have HBd0:=HBd;have HBr0:=HBr;have HBo0:=HBo;have hlt_f:=lt_of_block HBf.out;have hog:Hid (∀ q,q<0->(fun q=>0) q<x7.heap.size):=Lib.hid (fun q h=>absurd h (Nat.not_lt_zero _));refine R7.region (by kernel_rfl) [[],[0],[0,1],[],[3],[3,4],[],[6],[6,7],[6,7,8],[6,7,8,9],[3,4,5,6,7,8,9,10],[0,1,2,3,4,5,6,7,8,9,10,11],[],[0,1,2,3,4,5,6,7,8,9,10,11,12,13]] [] [] (fun q=>0) 0 14 (by kernel_rfl) (by kernel_rfl) (by rfl) hog.out (fun q q' h h' hn=>absurd hn (by omega)) ?_;refine R7.Chain.det ?_ (by rfl) (fun T xs wr hA=>?_) ?_
 rotate_left 1
 ·have e3:=hA.pre 3 (by kernel_rfl);simp only[gsa,gsc,gsz] at e3;clear hA;refine⟨(by rfl),?_⟩;go_simp<;>(try with_reducible rfl)
 refine R7.Chain.det ?_ (by rfl) (fun T xs wr hA=>?_) ?_
 rotate_left 1
 ·have e36:=hA.tm 0 36 (by rfl) (by rfl);have f36:xs 0=_:=hA.fa 0 (by rfl)
  (try simp (disch:=first | rfl | decide) only [R7.mask_in] at f36)
  rw[f36] at e36;clear f36;clear hA;refine⟨(by rfl),?_⟩;go_simp<;>(try with_reducible rfl)
 refine R7.Chain.det ?_ (by rfl) (fun T xs wr hA=>?_) ?_
 rotate_left 1
 ·have e37:=hA.tm 1 37 (by rfl) (by rfl);have f37:xs 1=_:=hA.fa 1 (by rfl)
  (try simp (disch:=first | rfl | decide) only [R7.mask_in] at f37)
  rw[f37] at e37;clear f37;have hBq:wr.heap[kf]?=_:=(hA.bl _ hlt_f (fun q h=>absurd h (Nat.not_lt_zero _))).trans HBf.out;have q0:=cell_at (v:=.int .i64 xo) hBq 0 rfl;have q1:=cell_at (v:=.bool xb) hBq 1 rfl;have q2:=cell_at (v:=.slice xao xl xc) hBq 2 rfl;have q3:=cell_at (v:=.string xnm) hBq 3 rfl;have q4:=cell_at (v:=.slice xko xkl xkc) hBq 4 rfl;clear hBq;clear hA;refine⟨(by rfl),?_⟩;go_simp<;>(try with_reducible rfl)
 refine R7.Chain.det ?_ (by rfl) (fun T xs wr hA=>?_) ?_
 rotate_left 1
 ·have e3:=hA.pre 3 (by kernel_rfl);simp only[gsa,gsc,gsz] at e3;clear hA;refine⟨(by rfl),?_⟩;go_simp<;>(try with_reducible rfl)
 refine R7.Chain.det ?_ (by rfl) (fun T xs wr hA=>?_) ?_
 rotate_left 1
 ·have e39:=hA.tm 3 39 (by rfl) (by rfl);have f39:xs 3=_:=hA.fa 3 (by rfl)
  (try simp (disch:=first | rfl | decide) only [R7.mask_in] at f39)
  rw[f39] at e39;clear f39;clear hA;refine⟨(by rfl),?_⟩;go_simp<;>(try with_reducible rfl)
 refine R7.Chain.det ?_ (by rfl) (fun T xs wr hA=>?_) ?_
 rotate_left 1
 ·have e40:=hA.tm 4 40 (by rfl) (by rfl);have f40:xs 4=_:=hA.fa 4 (by rfl)
  (try simp (disch:=first | rfl | decide) only [R7.mask_in] at f40)
  rw[f40] at e40;clear f40;have hBq:wr.heap[kf]?=_:=(hA.bl _ hlt_f (fun q h=>absurd h (Nat.not_lt_zero _))).trans HBf.out;have q0:=cell_at (v:=.int .i64 xo) hBq 0 rfl;have q1:=cell_at (v:=.bool xb) hBq 1 rfl;have q2:=cell_at (v:=.slice xao xl xc) hBq 2 rfl;have q3:=cell_at (v:=.string xnm) hBq 3 rfl;have q4:=cell_at (v:=.slice xko xkl xkc) hBq 4 rfl;clear hBq;clear hA;refine⟨(by rfl),?_⟩;go_simp<;>(try with_reducible rfl)
 refine R7.Chain.det ?_ (by rfl) (fun T xs wr hA=>?_) ?_
 rotate_left 1
 ·have e3:=hA.pre 3 (by kernel_rfl);simp only[gsa,gsc,gsz] at e3;clear hA;refine⟨(by rfl),?_⟩;go_simp<;>(try with_reducible rfl)
 refine R7.Chain.det ?_ (by rfl) (fun T xs wr hA=>?_) ?_
 rotate_left 1
 ·have e42:=hA.tm 6 42 (by rfl) (by rfl);have f42:xs 6=_:=hA.fa 6 (by rfl)
  (try simp (disch:=first | rfl | decide) only [R7.mask_in] at f42)
  rw[f42] at e42;clear f42;clear hA;refine⟨(by rfl),?_⟩;go_simp<;>(try with_reducible rfl)
 refine R7.Chain.det ?_ (by rfl) (fun T xs wr hA=>?_) ?_
 rotate_left 1
 ·have e43:=hA.tm 7 43 (by rfl) (by rfl);have f43:xs 7=_:=hA.fa 7 (by rfl)
  (try simp (disch:=first | rfl | decide) only [R7.mask_in] at f43)
  rw[f43] at e43;clear f43;have hBq:wr.heap[kf]?=_:=(hA.bl _ hlt_f (fun q h=>absurd h (Nat.not_lt_zero _))).trans HBf.out;have q0:=cell_at (v:=.int .i64 xo) hBq 0 rfl;have q1:=cell_at (v:=.bool xb) hBq 1 rfl;have q2:=cell_at (v:=.slice xao xl xc) hBq 2 rfl;have q3:=cell_at (v:=.string xnm) hBq 3 rfl;have q4:=cell_at (v:=.slice xko xkl xkc) hBq 4 rfl;clear hBq;clear hA;refine⟨(by rfl),?_⟩;go_simp<;>(try with_reducible rfl)
 refine R7.Chain.det ?_ (by rfl) (fun T xs wr hA=>?_) ?_
 rotate_left 1
 ·have e44:=hA.tm 8 44 (by rfl) (by rfl);have f44:xs 8=_:=hA.fa 8 (by rfl)
  (try simp (disch:=first | rfl | decide) only [R7.mask_in] at f44)
  rw[f44] at e44;clear f44;clear hA;refine⟨(by rfl),?_⟩;go_simp<;>(try with_reducible rfl)
 refine R7.Chain.det ?_ (by rfl) (fun T xs wr hA=>?_) ?_
 rotate_left 1
 ·have e45:=hA.tm 9 45 (by rfl) (by rfl);have f45:xs 9=_:=hA.fa 9 (by rfl)
  (try simp (disch:=first | rfl | decide) only [R7.mask_in] at f45)
  rw[f45] at e45;clear f45;clear hA;refine⟨(by rfl),?_⟩;go_simp<;>(try with_reducible rfl)
 refine R7.Chain.det ?_ (by rfl) (fun T xs wr hA=>?_) ?_
 rotate_left 1
 ·have e41:=hA.tm 5 41 (by rfl) (by rfl);have f41:xs 5=_:=hA.fa 5 (by rfl)
  (try simp (disch:=first | rfl | decide) only [R7.mask_in] at f41)
  rw[f41] at e41;clear f41;have e46:=hA.tm 10 46 (by rfl) (by rfl);have f46:xs 10=_:=hA.fa 10 (by rfl)
  (try simp (disch:=first | rfl | decide) only [R7.mask_in] at f46)
  rw[f46] at e46;clear f46;clear hA;refine⟨(by rfl),?_⟩;go_simp<;>(try with_reducible rfl)
 refine R7.Chain.call (fun xs v w=>∃ z,CI w v z 2) (fun _ _ _ _ h hb=>by obtain⟨z,h2⟩:=h;exact⟨z,h2.below hb⟩) (fun _ _ _ _ _ _ h _=>by obtain⟨q,hq,_⟩:=h;exact absurd hq (Nat.not_lt_zero _)) (by rfl) (fun T xs wr hA=>?_) ?_
 ·have hsw:=(hA.be 0 (Nat.zero_le _) (fun _ _=>Nat.zero_le _)).size;have e38:=hA.tm 2 38 (by rfl) (by rfl);have f38:xs 2=_:=hA.fa 2 (by rfl)
  (try simp (disch:=first | rfl | decide) only [R7.mask_in] at f38)
  rw[f38] at e38;clear f38;have e47:=hA.tm 11 47 (by rfl) (by rfl);have f47:xs 11=_:=hA.fa 11 (by rfl)
  (try simp (disch:=first | rfl | decide) only [R7.mask_in] at f47)
  rw[f47] at e47;clear f47;have hbw:=undrew (hA.be x7.heap.size (Nat.le_refl _) (fun q h=>absurd h (Nat.not_lt_zero q)));clear hA;refine⟨(by rfl),fun K hK=>?_⟩;go_simp
  refine (big_any xb _ q 2 wr (HG.out.below hbw) (by decide)).mono ?_;rintro e w' ⟨v,rfl,hc,hb'⟩;exact hK.out _ _ ⟨_,hc⟩ hb'
 refine R7.Chain.call (fun xs v w=>∃ g,v=.pointer (some ⟨g,0,none⟩)/\x7.heap.size<=g/\w.heap[g]?=some (.cells #[.bool false,.slice none 0 0] 26 (0,0))) (fun _ _ _ _ h hb=>by obtain⟨g,h1,h2,h3⟩:=h;exact⟨g,h1,h2,by rw[hb.block g (lt_of_block h3)];exact h3⟩) (fun _ _ _ _ _ _ h _=>by obtain⟨q,hq,_⟩:=h;exact absurd hq (Nat.not_lt_zero _)) (by rfl) (fun T xs wr hA=>?_) ?_
 ·have hsw:=(hA.be 0 (Nat.zero_le _) (fun _ _=>Nat.zero_le _)).size;have hbw:=undrew (hA.be x7.heap.size (Nat.le_refl _) (fun q h=>absurd h (Nat.not_lt_zero q)));clear hA;refine⟨(by rfl),fun K hK=>?_⟩;go_simp
  exact hK.out _ _ ⟨_,rfl,hbw.size,made_at _ _ _ rfl⟩ ((Below.refl _ _).alloc (Nat.le_refl _) _)
 refine R7.Chain.done (fun xs x8 hL=>?_);obtain⟨⟨hbe,hbl⟩,hf,-,-⟩:=hL;have f0:xs 0=_:=hf 0 (by decide)
 (try simp (disch:=first | rfl | decide) only [R7.mask_in] at f0)
 have f1:xs 1=_:=hf 1 (by decide)
 (try simp (disch:=first | rfl | decide) only [R7.mask_in] at f1)
 have f2:xs 2=_:=hf 2 (by decide)
 (try simp (disch:=first | rfl | decide) only [R7.mask_in] at f2)
 have f3:xs 3=_:=hf 3 (by decide)
 (try simp (disch:=first | rfl | decide) only [R7.mask_in] at f3)
 have f4:xs 4=_:=hf 4 (by decide)
 (try simp (disch:=first | rfl | decide) only [R7.mask_in] at f4)
 have f5:xs 5=_:=hf 5 (by decide)
 (try simp (disch:=first | rfl | decide) only [R7.mask_in] at f5)
 have f6:xs 6=_:=hf 6 (by decide)
 (try simp (disch:=first | rfl | decide) only [R7.mask_in] at f6)
 have f7:xs 7=_:=hf 7 (by decide)
 (try simp (disch:=first | rfl | decide) only [R7.mask_in] at f7)
 have f8:xs 8=_:=hf 8 (by decide)
 (try simp (disch:=first | rfl | decide) only [R7.mask_in] at f8)
 have f9:xs 9=_:=hf 9 (by decide)
 (try simp (disch:=first | rfl | decide) only [R7.mask_in] at f9)
 have f10:xs 10=_:=hf 10 (by decide)
 (try simp (disch:=first | rfl | decide) only [R7.mask_in] at f10)
 have f11:xs 11=_:=hf 11 (by decide)
 (try simp (disch:=first | rfl | decide) only [R7.mask_in] at f11)
 have F12:∃ z,CI x8 (xs 12) z 2:=hf 12 (by decide);have F13:∃ g,(xs 13)=.pointer (some ⟨g,0,none⟩)/\x7.heap.size<=g/\x8.heap[g]?=some (.cells #[.bool false,.slice none 0 0] 26 (0,0)):=hf 13 (by decide);have hb0:Below 0 x7 x8:=undrew (hbe 0 (Nat.zero_le _) (fun _ _=>Nat.zero_le _));have hgr:∀ j,j<x7.heap.size->(∀ q,q<0->(fun q=>0) q≠j)->x8.heap[j]?=x7.heap[j]?:=hbl;clear hbe hbl hf;have hb:Below x7.heap.size x7 x8:=⟨hb0.os,hb0.tape,hb0.output,hb0.size,fun q hq=>hgr q hq (fun q h=>absurd h (Nat.not_lt_zero _))⟩
 refine R7.rest_list (by decide) (by kernel_rfl) ?_;simp only[R7.fill,t1_,t2_,t3_,t4_,t5_,t6_,t7_,f0,f1,f2,f3,f4,f5,f6,f7,f8,f9,f10,f11];clear hb0 hgr hog hlt_f f0 f1 f2 f3 f4 f5 f6 f7 f8 f9 f10 f11;replace HBf:=kBV hb HBf;replace HBd:=kBV hb HBd;replace HBr:=kBV hb HBr;replace HBp:=kBV hb HBp;replace HBq:=kBV hb HBq;replace HBt:=kBV hb HBt;replace HBo:=kBV hb HBo;replace HW:=Lib.hid (HW.out.trans (hb.mono HW.out.size));replace HG:=Lib.hid (HG.out.below hb);replace HY:=Lib.hid (HY.out.trans (hb.mono HY.out.size));replace hb:=Lib.hid hb;obtain⟨z,hcz⟩:=F12;obtain⟨zb,zo,zl,zc,hzv⟩:=hcz.shape;obtain⟨km,hkm,hkm1,hkm2⟩:=F13;rw[hzv] at hcz;rw[hzv,hkm];have HC:=Lib.hid (hcz.mono (k':=600) (by decide));have HCZ:=Lib.hid hcz.lt;have HBm:=Lib.hid hkm2;clear hcz hzv hkm hkm2;have m0:=cell_at (v:=.bool false) HBm.out 0 rfl
 have fm0:=froz_at HBm.out 0;have m1:=cell_at (v:=.slice none 0 0) HBm.out 1 rfl;have fm1:=froz_at HBm.out 1;go_upto_region 9 with fail
 clear m0 fm0 m1 fm1;have hg1:=grown2V (w:=x8) (k:=km) (.bool zb) (.slice zo zl zc);have hb1:((x8.setCell ⟨km,0,none⟩ (.bool zb)).setCell ⟨km,1,none⟩ (.slice zo zl zc)).heap[km]?=_:=heap_setCell_same _ km 1 _ _ _ (heap_setCell_same _ km 0 _ _ _ HBm.out);obtain⟨W1,hW1⟩:∃ q,q=(x8.setCell ⟨km,0,none⟩ (.bool zb)).setCell ⟨km,1,none⟩ (.slice zo zl zc):=⟨_,rfl⟩
 rw[<-hW1] at hg1 hb1 ⊢;have hf1:Fr 26 x8 W1:=.of_grown hg1 (fun j hj=>by injection hj with hj;subst hj;exact⟨_,HBm.out,n32_2⟩);have HKM:Hid (w.heap.size<=km):=Lib.hid (Nat.le_trans (by have:=HKO.out;have:=lt_of_block HBo0.out;omega) hkm1);replace HW:=Lib.hid (ext_below HW.out hg1 HKM.out);replace HY:=Lib.hid (ext_below HY.out hg1 hkm1);replace HC:=Lib.hid (HC.out.fr hf1);replace HBf:=Lib.hid ((HY.out.block _ (lt_of_block HBf0.out)).trans HBf0.out);replace HBd:=Lib.hid ((HY.out.block _ (lt_of_block HBd0.out)).trans HBd0.out);replace HBr:=Lib.hid ((HY.out.block _ (lt_of_block HBr0.out)).trans HBr0.out);replace HBo:=Lib.hid ((HY.out.block _ (lt_of_block HBo0.out)).trans HBo0.out);replace HBm:=Lib.hid hb1;clear hg1 hb1 hW1 hf1 hkm1
 have HLOW:Hid (kf<W1.heap.size/\kd<W1.heap.size/\kr<W1.heap.size/\ko<W1.heap.size):=Lib.hid ⟨lt_of_block HBf.out,lt_of_block HBd.out,lt_of_block HBr.out,lt_of_block HBo.out⟩;have HDIS:Hid (kf≠ko/\kd≠ko/\kr≠ko):=Lib.hid (by have h1:=lt_of_block HBfp.out;have h2:=lt_of_block HBdp.out;have h3:=lt_of_block HBrp.out;rw[eko] at h1 h2 h3;omega);have HB0:Hid (w.heap.size<=W1.heap.size):=Lib.hid HW.out.size;have hjc:j=0\/j=1\/j=2\/j=3\/j=4\/j=5\/j=6\/j=7\/j=8\/j=9:=by omega
 rcases hjc with rfl | rfl | rfl | rfl | rfl | rfl | rfl | rfl | rfl | rfl
 ·have hop2:op=14:=HOP.out;subst hop2;clear HOP;have HSZP:Hid (W1.heap.size<=W1.heap.size):=Lib.hid (Nat.le_refl _);rcases (tmod_cases xnm.size).2 with hr | hr
  ·have o0:=cell_at (v:=.int .i64 14) HBo.out 0 rfl;have fo0:=froz_at HBo.out 0;have o1:=cell_at (v:=.bool false) HBo.out 1 rfl;have fo1:=froz_at HBo.out 1;have o2:=cell_at (v:=.slice none 0 0) HBo.out 2 rfl;have fo2:=froz_at HBo.out 2;have o3:=cell_at (v:=.string ⟨#[]⟩) HBo.out 3 rfl;have fo3:=froz_at HBo.out 3;have o4:=cell_at (v:=.slice none 0 0) HBo.out 4 rfl;have fo4:=froz_at HBo.out 4;have m0:=cell_at (v:=.bool zb) HBm.out 0 rfl;have fm0:=froz_at HBm.out 0;have m1:=cell_at (v:=.slice zo zl zc) HBm.out 1 rfl;have fm1:=froz_at HBm.out 1;have f0:=cell_at (v:=.int .i64 xo) HBf.out 0 rfl;have ff0:=froz_at HBf.out 0;have f1:=cell_at (v:=.bool xb) HBf.out 1 rfl;have ff1:=froz_at HBf.out 1;have f2:=cell_at (v:=.slice xao xl xc) HBf.out 2 rfl;have ff2:=froz_at HBf.out 2;have f3:=cell_at (v:=.string xnm) HBf.out 3 rfl
   have ff3:=froz_at HBf.out 3;have f4:=cell_at (v:=.slice xko xkl xkc) HBf.out 4 rfl;have ff4:=froz_at HBf.out 4;have hcv:=one_byteL 48 48 (by decide) W1;obtain⟨x9,ky,ey,eky,hby,hky,HBy⟩:=newV W1 #[.int .u8 48] 5;replace HBf:=kBV hby.out HBf;replace HBd:=kBV hby.out HBd;replace HBr:=kBV hby.out HBr;replace HBo:=kBV hby.out HBo;replace HBm:=kBV hby.out HBm;replace HW:=Lib.hid (HW.out.trans (hby.out.mono HW.out.size));replace HC:=Lib.hid (HC.out.below hby.out);rw[ey,eky] at hcv;have p0:=cell_at (v:=.int .i64 14) HBo.out 0 rfl;have fp0:=froz_at HBo.out 0;have p1:=cell_at (v:=.bool false) HBo.out 1 rfl;have fp1:=froz_at HBo.out 1;have p2:=cell_at (v:=.slice none 0 0) HBo.out 2 rfl;have fp2:=froz_at HBo.out 2;have p3:=cell_at (v:=.string ⟨#[]⟩) HBo.out 3 rfl;have fp3:=froz_at HBo.out 3
   have p4:=cell_at (v:=.slice none 0 0) HBo.out 4 rfl;have fp4:=froz_at HBo.out 4;replace HSZP:=Lib.hid (Nat.le_trans HSZP.out hby.out.size);go_upto_region 21 with fail
   clear o0 fo0 o1 fo1 o2 fo2 o3 fo3 o4 fo4 m0 fm0 m1 fm1 f0 ff0 f1 ff1 f2 ff2 f3 ff3 f4 ff4 p0 fp0 p1 fp1 p2 fp2 p3 fp3 p4 fp4
   try clear hcv
   try clear hr
   rw[show ((⟨#[98]⟩:ByteArray)++⟨#[48]⟩)=⟨#[98,48]⟩ from rfl];have hgo:x9.grownBy (x9.setCell ⟨ko,3,none⟩ (.string ⟨#[98,48]⟩)) (some ko):=by refine grown_setCell ?_ _;exact World.grownBy.refl _ _
   have hbo:(x9.setCell ⟨ko,3,none⟩ (.string ⟨#[98,48]⟩)).heap[ko]?=_:=(heap_setCell_same _ ko 3 _ _ (.string ⟨#[98,48]⟩) HBo.out)
   obtain⟨W2,hW2⟩:∃ q,q=x9.setCell ⟨ko,3,none⟩ (.string ⟨#[98,48]⟩):=⟨_,rfl⟩
   rw[<-hW2] at hgo hbo ⊢;have hfo:Fr 29 x9 W2:=.of_grown hgo (fun j hj=>by injection hj with hj;subst hj;exact⟨_,HBo.out,n32_F⟩);replace HW:=Lib.hid (ext_below HW.out hgo HKO.out);replace HC:=Lib.hid (HC.out.fr hfo);replace HBf:=Lib.hid ((hgo.block _ (lt_of_block HBf.out) (fun e=>by injection e with e;exact HDIS.out.1 e)).trans HBf.out);replace HBd:=Lib.hid ((hgo.block _ (lt_of_block HBd.out) (fun e=>by injection e with e;exact HDIS.out.2.1 e)).trans HBd.out);replace HBr:=Lib.hid ((hgo.block _ (lt_of_block HBr.out) (fun e=>by injection e with e;exact HDIS.out.2.2 e)).trans HBr.out);have HSZW:Hid (W1.heap.size<=W2.heap.size):=Lib.hid (Nat.le_trans HSZP.out hgo.size);replace HBo:=Lib.hid hbo;clear hgo hbo hW2 hfo HSZP;have HSZP:=HSZW;clear HSZW
   have HT:Hid (TSt w W1.heap.size kf kd kr ko ⟨xo,xb,xao,xl,xc,xnm,xko,xkl,xkc⟩ ((d:Nat)+1) 14 false none 0 0 (⟨#[98,48]⟩) (0) d [] (.slice none 0 0) [] W2):=Lib.hid (TSt.zero HBo.out HBf.out HBd.out HBr.out (nr0 _) HLOW.out HDIS.out HKO.out HW.out HSZP.out);have o0:=cell_at (v:=.int .i64 14) HBo.out 0 rfl;have fo0:=froz_at HBo.out 0;have o1:=cell_at (v:=.bool false) HBo.out 1 rfl;have fo1:=froz_at HBo.out 1;have o2:=cell_at (v:=.slice none 0 0) HBo.out 2 rfl;have fo2:=froz_at HBo.out 2;have o3:=cell_at (v:=.string ⟨#[98,48]⟩) HBo.out 3 rfl;have fo3:=froz_at HBo.out 3;have o4:=cell_at (v:=.slice none 0 0) HBo.out 4 rfl;have fo4:=froz_at HBo.out 4;obtain⟨⟨r0,r1,r2,r3,r4⟩,fr0,fr1,fr2,fr3,fr4⟩:=cells5V HBr.out;go_wp2_with fail
   clear o0 fo0 o1 fo1 o2 fo2 o3 fo3 o4 fo4;have hg:=grown5V (w:=W2) (k:=kr) (.int .i64 14) (.bool false) (.slice none 0 0) (.string ⟨#[98,48]⟩) (.slice none 0 0);have hf:Fr 29 W2 _:=.of_grown hg (fun j hj=>by injection hj with hj;subst hj;exact⟨_,HBr.out,n32_F⟩);obtain⟨h1,h2,h3,h4⟩:=HT.out.fin hg hf (by unfold IR;decide) HB0.out HKR.out (by unfold NmOk;simp) (small4 (by decide)) (fun _ _ _=>rfl) (by simp) (rfl)
   (try simp only[Exit.inBlock,Exit.then])
   exact bodyPost_ret (v:=.agg #[.int .i64 14,.bool false,.slice none 0 0,.string ⟨#[98,48]⟩,.slice none 0 0]) (by simp[results,Try.results7,go_sem,r0,r1,r2,r3,r4]) rfl ⟨_,_,rfl,h1,h2,rfl,h3,h4⟩
  have o0:=cell_at (v:=.int .i64 14) HBo.out 0 rfl;have fo0:=froz_at HBo.out 0;have o1:=cell_at (v:=.bool false) HBo.out 1 rfl;have fo1:=froz_at HBo.out 1;have o2:=cell_at (v:=.slice none 0 0) HBo.out 2 rfl;have fo2:=froz_at HBo.out 2;have o3:=cell_at (v:=.string ⟨#[]⟩) HBo.out 3 rfl;have fo3:=froz_at HBo.out 3;have o4:=cell_at (v:=.slice none 0 0) HBo.out 4 rfl;have fo4:=froz_at HBo.out 4;have m0:=cell_at (v:=.bool zb) HBm.out 0 rfl;have fm0:=froz_at HBm.out 0;have m1:=cell_at (v:=.slice zo zl zc) HBm.out 1 rfl;have fm1:=froz_at HBm.out 1;have f0:=cell_at (v:=.int .i64 xo) HBf.out 0 rfl;have ff0:=froz_at HBf.out 0;have f1:=cell_at (v:=.bool xb) HBf.out 1 rfl;have ff1:=froz_at HBf.out 1;have f2:=cell_at (v:=.slice xao xl xc) HBf.out 2 rfl;have ff2:=froz_at HBf.out 2;have f3:=cell_at (v:=.string xnm) HBf.out 3 rfl
  have ff3:=froz_at HBf.out 3;have f4:=cell_at (v:=.slice xko xkl xkc) HBf.out 4 rfl;have ff4:=froz_at HBf.out 4;have hcv:=one_byteL 49 49 (by decide) W1;obtain⟨x9,ky,ey,eky,hby,hky,HBy⟩:=newV W1 #[.int .u8 49] 5;replace HBf:=kBV hby.out HBf;replace HBd:=kBV hby.out HBd;replace HBr:=kBV hby.out HBr;replace HBo:=kBV hby.out HBo;replace HBm:=kBV hby.out HBm;replace HW:=Lib.hid (HW.out.trans (hby.out.mono HW.out.size));replace HC:=Lib.hid (HC.out.below hby.out);rw[ey,eky] at hcv;have p0:=cell_at (v:=.int .i64 14) HBo.out 0 rfl;have fp0:=froz_at HBo.out 0;have p1:=cell_at (v:=.bool false) HBo.out 1 rfl;have fp1:=froz_at HBo.out 1;have p2:=cell_at (v:=.slice none 0 0) HBo.out 2 rfl;have fp2:=froz_at HBo.out 2;have p3:=cell_at (v:=.string ⟨#[]⟩) HBo.out 3 rfl;have fp3:=froz_at HBo.out 3
  have p4:=cell_at (v:=.slice none 0 0) HBo.out 4 rfl;have fp4:=froz_at HBo.out 4;replace HSZP:=Lib.hid (Nat.le_trans HSZP.out hby.out.size);go_upto_region 21 with fail
  clear o0 fo0 o1 fo1 o2 fo2 o3 fo3 o4 fo4 m0 fm0 m1 fm1 f0 ff0 f1 ff1 f2 ff2 f3 ff3 f4 ff4 p0 fp0 p1 fp1 p2 fp2 p3 fp3 p4 fp4
  try clear hcv
  try clear hr
  rw[show ((⟨#[98]⟩:ByteArray)++⟨#[49]⟩)=⟨#[98,49]⟩ from rfl];have hgo:x9.grownBy (x9.setCell ⟨ko,3,none⟩ (.string ⟨#[98,49]⟩)) (some ko):=by refine grown_setCell ?_ _;exact World.grownBy.refl _ _
  have hbo:(x9.setCell ⟨ko,3,none⟩ (.string ⟨#[98,49]⟩)).heap[ko]?=_:=(heap_setCell_same _ ko 3 _ _ (.string ⟨#[98,49]⟩) HBo.out)
  obtain⟨W2,hW2⟩:∃ q,q=x9.setCell ⟨ko,3,none⟩ (.string ⟨#[98,49]⟩):=⟨_,rfl⟩
  rw[<-hW2] at hgo hbo ⊢;have hfo:Fr 29 x9 W2:=.of_grown hgo (fun j hj=>by injection hj with hj;subst hj;exact⟨_,HBo.out,n32_F⟩);replace HW:=Lib.hid (ext_below HW.out hgo HKO.out);replace HC:=Lib.hid (HC.out.fr hfo);replace HBf:=Lib.hid ((hgo.block _ (lt_of_block HBf.out) (fun e=>by injection e with e;exact HDIS.out.1 e)).trans HBf.out);replace HBd:=Lib.hid ((hgo.block _ (lt_of_block HBd.out) (fun e=>by injection e with e;exact HDIS.out.2.1 e)).trans HBd.out);replace HBr:=Lib.hid ((hgo.block _ (lt_of_block HBr.out) (fun e=>by injection e with e;exact HDIS.out.2.2 e)).trans HBr.out);have HSZW:Hid (W1.heap.size<=W2.heap.size):=Lib.hid (Nat.le_trans HSZP.out hgo.size);replace HBo:=Lib.hid hbo;clear hgo hbo hW2 hfo HSZP;have HSZP:=HSZW;clear HSZW
  have HT:Hid (TSt w W1.heap.size kf kd kr ko ⟨xo,xb,xao,xl,xc,xnm,xko,xkl,xkc⟩ ((d:Nat)+1) 14 false none 0 0 (⟨#[98,49]⟩) (0) d [] (.slice none 0 0) [] W2):=Lib.hid (TSt.zero HBo.out HBf.out HBd.out HBr.out (nr0 _) HLOW.out HDIS.out HKO.out HW.out HSZP.out);have o0:=cell_at (v:=.int .i64 14) HBo.out 0 rfl;have fo0:=froz_at HBo.out 0;have o1:=cell_at (v:=.bool false) HBo.out 1 rfl;have fo1:=froz_at HBo.out 1;have o2:=cell_at (v:=.slice none 0 0) HBo.out 2 rfl;have fo2:=froz_at HBo.out 2;have o3:=cell_at (v:=.string ⟨#[98,49]⟩) HBo.out 3 rfl;have fo3:=froz_at HBo.out 3;have o4:=cell_at (v:=.slice none 0 0) HBo.out 4 rfl;have fo4:=froz_at HBo.out 4;obtain⟨⟨r0,r1,r2,r3,r4⟩,fr0,fr1,fr2,fr3,fr4⟩:=cells5V HBr.out;go_wp2_with fail
  clear o0 fo0 o1 fo1 o2 fo2 o3 fo3 o4 fo4;have hg:=grown5V (w:=W2) (k:=kr) (.int .i64 14) (.bool false) (.slice none 0 0) (.string ⟨#[98,49]⟩) (.slice none 0 0);have hf:Fr 29 W2 _:=.of_grown hg (fun j hj=>by injection hj with hj;subst hj;exact⟨_,HBr.out,n32_F⟩);obtain⟨h1,h2,h3,h4⟩:=HT.out.fin hg hf (by unfold IR;decide) HB0.out HKR.out (by unfold NmOk;simp) (small4 (by decide)) (fun _ _ _=>rfl) (by simp) (rfl)
  (try simp only[Exit.inBlock,Exit.then])
  exact bodyPost_ret (v:=.agg #[.int .i64 14,.bool false,.slice none 0 0,.string ⟨#[98,49]⟩,.slice none 0 0]) (by simp[results,Try.results7,go_sem,r0,r1,r2,r3,r4]) rfl ⟨_,_,rfl,h1,h2,rfl,h3,h4⟩
 ·have hop2:op=12:=HOP.out;subst hop2;clear HOP;have HSZP:Hid (W1.heap.size<=W1.heap.size):=Lib.hid (Nat.le_refl _);have HT:Hid (TSt w W1.heap.size kf kd kr ko ⟨xo,xb,xao,xl,xc,xnm,xko,xkl,xkc⟩ ((d:Nat)+1) 12 false none 0 0 (⟨#[]⟩) (0) d [] (.slice none 0 0) [] W1):=Lib.hid (TSt.zero HBo.out HBf.out HBd.out HBr.out (nr0 _) HLOW.out HDIS.out HKO.out HW.out HSZP.out);have o0:=cell_at (v:=.int .i64 12) HBo.out 0 rfl;have fo0:=froz_at HBo.out 0;have o1:=cell_at (v:=.bool false) HBo.out 1 rfl;have fo1:=froz_at HBo.out 1;have o2:=cell_at (v:=.slice none 0 0) HBo.out 2 rfl;have fo2:=froz_at HBo.out 2;have o3:=cell_at (v:=.string ⟨#[]⟩) HBo.out 3 rfl;have fo3:=froz_at HBo.out 3;have o4:=cell_at (v:=.slice none 0 0) HBo.out 4 rfl;have fo4:=froz_at HBo.out 4;obtain⟨⟨r0,r1,r2,r3,r4⟩,fr0,fr1,fr2,fr3,fr4⟩:=cells5V HBr.out
  go_wp2_with fail
  clear o0 fo0 o1 fo1 o2 fo2 o3 fo3 o4 fo4;have hg:=grown5V (w:=W1) (k:=kr) (.int .i64 12) (.bool false) (.slice none 0 0) (.string ⟨#[]⟩) (.slice none 0 0);have hf:Fr 29 W1 _:=.of_grown hg (fun j hj=>by injection hj with hj;subst hj;exact⟨_,HBr.out,n32_F⟩);obtain⟨h1,h2,h3,h4⟩:=HT.out.fin hg hf (by unfold IR;decide) HB0.out HKR.out (by unfold NmOk;simp) (small4 (by decide)) (fun _ _ _=>rfl) (by simp) (rfl)
  (try simp only[Exit.inBlock,Exit.then])
  exact bodyPost_ret (v:=.agg #[.int .i64 12,.bool false,.slice none 0 0,.string ⟨#[]⟩,.slice none 0 0]) (by simp[results,Try.results7,go_sem,r0,r1,r2,r3,r4]) rfl ⟨_,_,rfl,h1,h2,rfl,h3,h4⟩
 ·have hop2:op=13:=HOP.out;subst hop2;clear HOP;have HSZP:Hid (W1.heap.size<=W1.heap.size):=Lib.hid (Nat.le_refl _);have HT:Hid (TSt w W1.heap.size kf kd kr ko ⟨xo,xb,xao,xl,xc,xnm,xko,xkl,xkc⟩ ((d:Nat)+1) 13 false none 0 0 (⟨#[]⟩) (0) d [] (.slice none 0 0) [] W1):=Lib.hid (TSt.zero HBo.out HBf.out HBd.out HBr.out (nr0 _) HLOW.out HDIS.out HKO.out HW.out HSZP.out);have o0:=cell_at (v:=.int .i64 13) HBo.out 0 rfl;have fo0:=froz_at HBo.out 0;have o1:=cell_at (v:=.bool false) HBo.out 1 rfl;have fo1:=froz_at HBo.out 1;have o2:=cell_at (v:=.slice none 0 0) HBo.out 2 rfl;have fo2:=froz_at HBo.out 2;have o3:=cell_at (v:=.string ⟨#[]⟩) HBo.out 3 rfl;have fo3:=froz_at HBo.out 3;have o4:=cell_at (v:=.slice none 0 0) HBo.out 4 rfl;have fo4:=froz_at HBo.out 4;obtain⟨⟨r0,r1,r2,r3,r4⟩,fr0,fr1,fr2,fr3,fr4⟩:=cells5V HBr.out
  go_wp2_with fail
  clear o0 fo0 o1 fo1 o2 fo2 o3 fo3 o4 fo4;have hg:=grown5V (w:=W1) (k:=kr) (.int .i64 13) (.bool false) (.slice none 0 0) (.string ⟨#[]⟩) (.slice none 0 0);have hf:Fr 29 W1 _:=.of_grown hg (fun j hj=>by injection hj with hj;subst hj;exact⟨_,HBr.out,n32_F⟩);obtain⟨h1,h2,h3,h4⟩:=HT.out.fin hg hf (by unfold IR;decide) HB0.out HKR.out (by unfold NmOk;simp) (small4 (by decide)) (fun _ _ _=>rfl) (by simp) (rfl)
  (try simp only[Exit.inBlock,Exit.then])
  exact bodyPost_ret (v:=.agg #[.int .i64 13,.bool false,.slice none 0 0,.string ⟨#[]⟩,.slice none 0 0]) (by simp[results,Try.results7,go_sem,r0,r1,r2,r3,r4]) rfl ⟨_,_,rfl,h1,h2,rfl,h3,h4⟩
 ·have hop2:op=15:=HOP.out;subst hop2;clear HOP;have HSZP:Hid (W1.heap.size<=W1.heap.size):=Lib.hid (Nat.le_refl _);have HT:Hid (TSt w W1.heap.size kf kd kr ko ⟨xo,xb,xao,xl,xc,xnm,xko,xkl,xkc⟩ ((d:Nat)+1) 15 false none 0 0 (⟨#[]⟩) (0) d [] (.slice none 0 0) [] W1):=Lib.hid (TSt.zero HBo.out HBf.out HBd.out HBr.out (nr0 _) HLOW.out HDIS.out HKO.out HW.out HSZP.out);clear HBm;have HKB:Hid (W1.heap.size<=W1.heap.size):=Lib.hid (Nat.le_refl _);have o0:=cell_at (v:=.int .i64 15) HBo.out 0 rfl;have fo0:=froz_at HBo.out 0;have o1:=cell_at (v:=.bool false) HBo.out 1 rfl;have fo1:=froz_at HBo.out 1;have o2:=cell_at (v:=.slice none 0 0) HBo.out 2 rfl;have fo2:=froz_at HBo.out 2;have o3:=cell_at (v:=.string ⟨#[]⟩) HBo.out 3 rfl;have fo3:=froz_at HBo.out 3;have o4:=cell_at (v:=.slice none 0 0) HBo.out 4 rfl;have fo4:=froz_at HBo.out 4
  go_wp2_with fail
  clear o0 fo0 o1 fo1 o2 fo2 o3 fo3 o4 fo4;refine (kid_p d HD.out HIT.out w W1 W1.heap.size kf kd kr ko ⟨xo,xb,xao,xl,xc,xnm,xko,xkl,xkc⟩ HX.out 15 false none 0 0 ⟨#[]⟩ (0) [] _ [] 0 0 (by decide) (by decide) HT.out (by rw[HT.out.len];simp)).mono ?_;rintro e X1 ⟨⟨q0,rfl⟩,t0,v0,us0,hs,ht⟩;replace HT:=Lib.hid ht;have HS0:=Lib.hid hs;clear hs ht;go_wp2_with fail
  refine (kid_p d HD.out HIT.out w X1 W1.heap.size kf kd kr ko ⟨xo,xb,xao,xl,xc,xnm,xko,xkl,xkc⟩ HX.out 15 false none 0 0 ⟨#[]⟩ (0) ([]++[t0]) _ us0 1 0 (by decide) (by decide) HT.out (by rw[HT.out.len];simp)).mono ?_;rintro e X2 ⟨⟨q1,rfl⟩,t1,v1,us1,hs,ht⟩;replace HT:=Lib.hid ht;have HS1:=Lib.hid hs;clear hs ht;obtain⟨vo,vc,hv,-⟩:=HT.out.row.form;subst hv;obtain⟨N,hN⟩:∃ N,N=us1.length:=⟨_,rfl⟩
  rw[<-hN] at HT;clear hN;replace HBo:=Lib.hid HT.out.ho;replace HBr:=Lib.hid HT.out.hr;have o0:=cell_at (v:=.int .i64 15) HBo.out 0 rfl;have fo0:=froz_at HBo.out 0;have o1:=cell_at (v:=.bool false) HBo.out 1 rfl;have fo1:=froz_at HBo.out 1;have o2:=cell_at (v:=.slice none 0 0) HBo.out 2 rfl;have fo2:=froz_at HBo.out 2;have o3:=cell_at (v:=.string ⟨#[]⟩) HBo.out 3 rfl;have fo3:=froz_at HBo.out 3;have o4:=cell_at (v:=.slice vo N vc) HBo.out 4 rfl;have fo4:=froz_at HBo.out 4;obtain⟨⟨r0,r1,r2,r3,r4⟩,fr0,fr1,fr2,fr3,fr4⟩:=cells5V HBr.out;go_wp2_with fail
  clear o0 fo0 o1 fo1 o2 fo2 o3 fo3 o4 fo4;have hg:=grown5V (w:=X2) (k:=kr) (.int .i64 15) (.bool false) (.slice none 0 0) (.string ⟨#[]⟩) (.slice vo N vc);have hf:Fr 29 X2 _:=.of_grown hg (fun j hj=>by injection hj with hj;subst hj;exact⟨_,HBr.out,n32_F⟩);obtain⟨h1,h2,h3,h4⟩:=HT.out.fin hg hf (by unfold IR;decide) HB0.out HKR.out (by unfold NmOk;simp) (small4 (by decide)) (fun _ _ _=>rfl) (by simp) (by simp[fitF,kidsOk,srts,HS0.out,HS1.out])
  (try simp only[Exit.inBlock,Exit.then])
  exact bodyPost_ret (v:=.agg #[.int .i64 15,.bool false,.slice none 0 0,.string ⟨#[]⟩,.slice vo N vc]) (by simp[results,Try.results7,go_sem,r0,r1,r2,r3,r4]) rfl ⟨_,_,rfl,h1,h2,rfl,h3,h4⟩
 ·have hop2:op=16:=HOP.out;subst hop2;clear HOP;have HSZP:Hid (W1.heap.size<=W1.heap.size):=Lib.hid (Nat.le_refl _);have hj5:(((4:Nat):Int)==5)=false:=rfl;have HT:Hid (TSt w W1.heap.size kf kd kr ko ⟨xo,xb,xao,xl,xc,xnm,xko,xkl,xkc⟩ ((d:Nat)+1) 16 false none 0 0 (⟨#[]⟩) (0) d [] (.slice none 0 0) [] W1):=Lib.hid (TSt.zero HBo.out HBf.out HBd.out HBr.out (nr0 _) HLOW.out HDIS.out HKO.out HW.out HSZP.out);clear HBm;have HKB:Hid (W1.heap.size<=W1.heap.size):=Lib.hid (Nat.le_refl _);have o0:=cell_at (v:=.int .i64 16) HBo.out 0 rfl;have fo0:=froz_at HBo.out 0;have o1:=cell_at (v:=.bool false) HBo.out 1 rfl;have fo1:=froz_at HBo.out 1;have o2:=cell_at (v:=.slice none 0 0) HBo.out 2 rfl;have fo2:=froz_at HBo.out 2;have o3:=cell_at (v:=.string ⟨#[]⟩) HBo.out 3 rfl;have fo3:=froz_at HBo.out 3
  have o4:=cell_at (v:=.slice none 0 0) HBo.out 4 rfl;have fo4:=froz_at HBo.out 4;go_wp2_with fail
  clear o0 fo0 o1 fo1 o2 fo2 o3 fo3 o4 fo4;refine (kid_p d HD.out HIT.out w W1 W1.heap.size kf kd kr ko ⟨xo,xb,xao,xl,xc,xnm,xko,xkl,xkc⟩ HX.out 16 false none 0 0 ⟨#[]⟩ (0) [] _ [] 0 0 (by decide) (by decide) HT.out (by rw[HT.out.len];simp)).mono ?_;rintro e X1 ⟨⟨q0,rfl⟩,t0,v0,us0,hs,ht⟩;replace HT:=Lib.hid ht;have HS0:=Lib.hid hs;clear hs ht;go_wp2_with fail
  refine (kid_p d HD.out HIT.out w X1 W1.heap.size kf kd kr ko ⟨xo,xb,xao,xl,xc,xnm,xko,xkl,xkc⟩ HX.out 16 false none 0 0 ⟨#[]⟩ (0) ([]++[t0]) _ us0 1 0 (by decide) (by decide) HT.out (by rw[HT.out.len];simp)).mono ?_;rintro e X2 ⟨⟨q1,rfl⟩,t1,v1,us1,hs,ht⟩;replace HT:=Lib.hid ht;have HS1:=Lib.hid hs;clear hs ht;obtain⟨vo,vc,hv,-⟩:=HT.out.row.form;subst hv;obtain⟨N,hN⟩:∃ N,N=us1.length:=⟨_,rfl⟩
  rw[<-hN] at HT;clear hN;replace HBo:=Lib.hid HT.out.ho;replace HBr:=Lib.hid HT.out.hr;have o0:=cell_at (v:=.int .i64 16) HBo.out 0 rfl;have fo0:=froz_at HBo.out 0;have o1:=cell_at (v:=.bool false) HBo.out 1 rfl;have fo1:=froz_at HBo.out 1;have o2:=cell_at (v:=.slice none 0 0) HBo.out 2 rfl;have fo2:=froz_at HBo.out 2;have o3:=cell_at (v:=.string ⟨#[]⟩) HBo.out 3 rfl;have fo3:=froz_at HBo.out 3;have o4:=cell_at (v:=.slice vo N vc) HBo.out 4 rfl;have fo4:=froz_at HBo.out 4;obtain⟨⟨r0,r1,r2,r3,r4⟩,fr0,fr1,fr2,fr3,fr4⟩:=cells5V HBr.out;go_wp2_with fail
  clear o0 fo0 o1 fo1 o2 fo2 o3 fo3 o4 fo4;have hg:=grown5V (w:=X2) (k:=kr) (.int .i64 16) (.bool false) (.slice none 0 0) (.string ⟨#[]⟩) (.slice vo N vc);have hf:Fr 29 X2 _:=.of_grown hg (fun j hj=>by injection hj with hj;subst hj;exact⟨_,HBr.out,n32_F⟩);obtain⟨h1,h2,h3,h4⟩:=HT.out.fin hg hf (by unfold IR;decide) HB0.out HKR.out (by unfold NmOk;simp) (small4 (by decide)) (fun _ _ _=>rfl) (by simp) (by simp[fitF,kidsOk,srts,HS0.out,HS1.out])
  (try simp only[Exit.inBlock,Exit.then])
  exact bodyPost_ret (v:=.agg #[.int .i64 16,.bool false,.slice none 0 0,.string ⟨#[]⟩,.slice vo N vc]) (by simp[results,Try.results7,go_sem,r0,r1,r2,r3,r4]) rfl ⟨_,_,rfl,h1,h2,rfl,h3,h4⟩
 ·have hop2:op=16:=HOP.out;subst hop2;clear HOP;have HSZP:Hid (W1.heap.size<=W1.heap.size):=Lib.hid (Nat.le_refl _);have hj5:(((5:Nat):Int)==5)=true:=rfl;have HT:Hid (TSt w W1.heap.size kf kd kr ko ⟨xo,xb,xao,xl,xc,xnm,xko,xkl,xkc⟩ ((d:Nat)+1) 16 false none 0 0 (⟨#[]⟩) (0) d [] (.slice none 0 0) [] W1):=Lib.hid (TSt.zero HBo.out HBf.out HBd.out HBr.out (nr0 _) HLOW.out HDIS.out HKO.out HW.out HSZP.out);clear HBm;have HKB:Hid (W1.heap.size<=W1.heap.size):=Lib.hid (Nat.le_refl _);have o0:=cell_at (v:=.int .i64 16) HBo.out 0 rfl;have fo0:=froz_at HBo.out 0;have o1:=cell_at (v:=.bool false) HBo.out 1 rfl;have fo1:=froz_at HBo.out 1;have o2:=cell_at (v:=.slice none 0 0) HBo.out 2 rfl;have fo2:=froz_at HBo.out 2;have o3:=cell_at (v:=.string ⟨#[]⟩) HBo.out 3 rfl;have fo3:=froz_at HBo.out 3
  have o4:=cell_at (v:=.slice none 0 0) HBo.out 4 rfl;have fo4:=froz_at HBo.out 4;go_wp2_with fail
  clear o0 fo0 o1 fo1 o2 fo2 o3 fo3 o4 fo4;refine (kid_p d HD.out HIT.out w W1 W1.heap.size kf kd kr ko ⟨xo,xb,xao,xl,xc,xnm,xko,xkl,xkc⟩ HX.out 16 false none 0 0 ⟨#[]⟩ (0) [] _ [] 0 2 (by decide) (by decide) HT.out (by rw[HT.out.len];simp)).mono ?_;rintro e X1 ⟨⟨q0,rfl⟩,t0,v0,us0,hs,ht⟩;replace HT:=Lib.hid ht;have HS0:=Lib.hid hs;clear hs ht;go_wp2_with fail
  refine (kid_p d HD.out HIT.out w X1 W1.heap.size kf kd kr ko ⟨xo,xb,xao,xl,xc,xnm,xko,xkl,xkc⟩ HX.out 16 false none 0 0 ⟨#[]⟩ (0) ([]++[t0]) _ us0 1 2 (by decide) (by decide) HT.out (by rw[HT.out.len];simp)).mono ?_;rintro e X2 ⟨⟨q1,rfl⟩,t1,v1,us1,hs,ht⟩;replace HT:=Lib.hid ht;have HS1:=Lib.hid hs;clear hs ht;obtain⟨vo,vc,hv,-⟩:=HT.out.row.form;subst hv;obtain⟨N,hN⟩:∃ N,N=us1.length:=⟨_,rfl⟩
  rw[<-hN] at HT;clear hN;replace HBo:=Lib.hid HT.out.ho;replace HBr:=Lib.hid HT.out.hr;have o0:=cell_at (v:=.int .i64 16) HBo.out 0 rfl;have fo0:=froz_at HBo.out 0;have o1:=cell_at (v:=.bool false) HBo.out 1 rfl;have fo1:=froz_at HBo.out 1;have o2:=cell_at (v:=.slice none 0 0) HBo.out 2 rfl;have fo2:=froz_at HBo.out 2;have o3:=cell_at (v:=.string ⟨#[]⟩) HBo.out 3 rfl;have fo3:=froz_at HBo.out 3;have o4:=cell_at (v:=.slice vo N vc) HBo.out 4 rfl;have fo4:=froz_at HBo.out 4;obtain⟨⟨r0,r1,r2,r3,r4⟩,fr0,fr1,fr2,fr3,fr4⟩:=cells5V HBr.out;go_wp2_with fail
  clear o0 fo0 o1 fo1 o2 fo2 o3 fo3 o4 fo4;have hg:=grown5V (w:=X2) (k:=kr) (.int .i64 16) (.bool false) (.slice none 0 0) (.string ⟨#[]⟩) (.slice vo N vc);have hf:Fr 29 X2 _:=.of_grown hg (fun j hj=>by injection hj with hj;subst hj;exact⟨_,HBr.out,n32_F⟩);obtain⟨h1,h2,h3,h4⟩:=HT.out.fin hg hf (by unfold IR;decide) HB0.out HKR.out (by unfold NmOk;simp) (small4 (by decide)) (fun _ _ _=>rfl) (by simp) (by simp[fitF,kidsOk,srts,HS0.out,HS1.out])
  (try simp only[Exit.inBlock,Exit.then])
  exact bodyPost_ret (v:=.agg #[.int .i64 16,.bool false,.slice none 0 0,.string ⟨#[]⟩,.slice vo N vc]) (by simp[results,Try.results7,go_sem,r0,r1,r2,r3,r4]) rfl ⟨_,_,rfl,h1,h2,rfl,h3,h4⟩
 ·have hop2:op=17:=HOP.out;subst hop2;clear HOP;have HSZP:Hid (W1.heap.size<=W1.heap.size):=Lib.hid (Nat.le_refl _);have HT:Hid (TSt w W1.heap.size kf kd kr ko ⟨xo,xb,xao,xl,xc,xnm,xko,xkl,xkc⟩ ((d:Nat)+1) 17 false none 0 0 (⟨#[]⟩) (0) d [] (.slice none 0 0) [] W1):=Lib.hid (TSt.zero HBo.out HBf.out HBd.out HBr.out (nr0 _) HLOW.out HDIS.out HKO.out HW.out HSZP.out);clear HBm;have HKB:Hid (W1.heap.size<=W1.heap.size):=Lib.hid (Nat.le_refl _);have o0:=cell_at (v:=.int .i64 17) HBo.out 0 rfl;have fo0:=froz_at HBo.out 0;have o1:=cell_at (v:=.bool false) HBo.out 1 rfl;have fo1:=froz_at HBo.out 1;have o2:=cell_at (v:=.slice none 0 0) HBo.out 2 rfl;have fo2:=froz_at HBo.out 2;have o3:=cell_at (v:=.string ⟨#[]⟩) HBo.out 3 rfl;have fo3:=froz_at HBo.out 3;have o4:=cell_at (v:=.slice none 0 0) HBo.out 4 rfl;have fo4:=froz_at HBo.out 4
  go_wp2_with fail
  clear o0 fo0 o1 fo1 o2 fo2 o3 fo3 o4 fo4;refine (kid_p d HD.out HIT.out w W1 W1.heap.size kf kd kr ko ⟨xo,xb,xao,xl,xc,xnm,xko,xkl,xkc⟩ HX.out 17 false none 0 0 ⟨#[]⟩ (0) [] _ [] 0 1 (by decide) (by decide) HT.out (by rw[HT.out.len];simp)).mono ?_;rintro e X1 ⟨⟨q0,rfl⟩,t0,v0,us0,hs,ht⟩;replace HT:=Lib.hid ht;have HS0:=Lib.hid hs;clear hs ht;obtain⟨vo,vc,hv,-⟩:=HT.out.row.form;subst hv;obtain⟨N,hN⟩:∃ N,N=us0.length:=⟨_,rfl⟩
  rw[<-hN] at HT;clear hN;replace HBo:=Lib.hid HT.out.ho;replace HBr:=Lib.hid HT.out.hr;have o0:=cell_at (v:=.int .i64 17) HBo.out 0 rfl;have fo0:=froz_at HBo.out 0;have o1:=cell_at (v:=.bool false) HBo.out 1 rfl;have fo1:=froz_at HBo.out 1;have o2:=cell_at (v:=.slice none 0 0) HBo.out 2 rfl;have fo2:=froz_at HBo.out 2;have o3:=cell_at (v:=.string ⟨#[]⟩) HBo.out 3 rfl;have fo3:=froz_at HBo.out 3;have o4:=cell_at (v:=.slice vo N vc) HBo.out 4 rfl;have fo4:=froz_at HBo.out 4;obtain⟨⟨r0,r1,r2,r3,r4⟩,fr0,fr1,fr2,fr3,fr4⟩:=cells5V HBr.out;go_wp2_with fail
  clear o0 fo0 o1 fo1 o2 fo2 o3 fo3 o4 fo4;have hg:=grown5V (w:=X1) (k:=kr) (.int .i64 17) (.bool false) (.slice none 0 0) (.string ⟨#[]⟩) (.slice vo N vc);have hf:Fr 29 X1 _:=.of_grown hg (fun j hj=>by injection hj with hj;subst hj;exact⟨_,HBr.out,n32_F⟩);obtain⟨h1,h2,h3,h4⟩:=HT.out.fin hg hf (by unfold IR;decide) HB0.out HKR.out (by unfold NmOk;simp) (small4 (by decide)) (fun _ _ _=>rfl) (by simp) (by simp[fitF,kidsOk,srts,HS0.out])
  (try simp only[Exit.inBlock,Exit.then])
  exact bodyPost_ret (v:=.agg #[.int .i64 17,.bool false,.slice none 0 0,.string ⟨#[]⟩,.slice vo N vc]) (by simp[results,Try.results7,go_sem,r0,r1,r2,r3,r4]) rfl ⟨_,_,rfl,h1,h2,rfl,h3,h4⟩
 ·have hop2:op=18:=HOP.out;subst hop2;clear HOP;have HSZP:Hid (W1.heap.size<=W1.heap.size):=Lib.hid (Nat.le_refl _);have HT:Hid (TSt w W1.heap.size kf kd kr ko ⟨xo,xb,xao,xl,xc,xnm,xko,xkl,xkc⟩ ((d:Nat)+1) 18 false none 0 0 (⟨#[]⟩) (0) d [] (.slice none 0 0) [] W1):=Lib.hid (TSt.zero HBo.out HBf.out HBd.out HBr.out (nr0 _) HLOW.out HDIS.out HKO.out HW.out HSZP.out);clear HBm;obtain⟨M,hM⟩:∃ M,M=min xkl 3:=⟨_,rfl⟩
  have hmin3:min (xkl:Int) 3=(M:Int):=by omega
  have hM3:M<=3:=by omega
  clear hM;have o0:=cell_at (v:=.int .i64 18) HBo.out 0 rfl;have fo0:=froz_at HBo.out 0;have o1:=cell_at (v:=.bool false) HBo.out 1 rfl;have fo1:=froz_at HBo.out 1;have o2:=cell_at (v:=.slice none 0 0) HBo.out 2 rfl;have fo2:=froz_at HBo.out 2;have o3:=cell_at (v:=.string ⟨#[]⟩) HBo.out 3 rfl;have fo3:=froz_at HBo.out 3;have o4:=cell_at (v:=.slice none 0 0) HBo.out 4 rfl;have fo4:=froz_at HBo.out 4;have f0:=cell_at (v:=.int .i64 xo) HBf.out 0 rfl;have ff0:=froz_at HBf.out 0;have f1:=cell_at (v:=.bool xb) HBf.out 1 rfl;have ff1:=froz_at HBf.out 1;have f2:=cell_at (v:=.slice xao xl xc) HBf.out 2 rfl;have ff2:=froz_at HBf.out 2;have f3:=cell_at (v:=.string xnm) HBf.out 3 rfl;have ff3:=froz_at HBf.out 3;have f4:=cell_at (v:=.slice xko xkl xkc) HBf.out 4 rfl;have ff4:=froz_at HBf.out 4;go_upto_region 51 with fail
  clear o0 fo0 o1 fo1 o2 fo2 o3 fo3 o4 fo4 f0 ff0 f1 ff1 f2 ff2 f3 ff3 f4 ff4;rw[show (((7:Nat):Int))=(7:Int) from rfl]
  go_loopw [154] (fun i wr=>∃ (j:Nat) (ts:List F) (v:Value) (us:List FU),i=.int .i64 (j:Nat)/\j<=M/\Hid (ts.length=j/\∀ t ∈ ts,srt t.op=1)/\Hid (TSt w W1.heap.size kf kd kr ko ⟨xo,xb,xao,xl,xc,xnm,xko,xkl,xkc⟩ ((d:Nat)+1) 18 false none 0 0 ⟨#[]⟩ 0 d ts v us wr)) (fun i _=>M - (intOf i).toNat)
  case atStart=>exact⟨0,[],_,[],rfl,Nat.zero_le _,Lib.hid ⟨rfl,fun t ht=>by cases ht⟩,HT⟩
  case round =>
   clear HT HBf HBd HBr HBo HC HW HSZP;obtain⟨j,ts,v,us,rfl,hj,HJ,HT⟩:=hrel
   by_cases hlt:j<M
   ·have hj3:j<=3:=by omega
    go_wp2_with fail
    refine (kid_p d HD.out HIT.out w wr W1.heap.size kf kd kr ko ⟨xo,xb,xao,xl,xc,xnm,xko,xkl,xkc⟩ HX.out 18 false none 0 0 ⟨#[]⟩ 0 ts v us j 1 (by decide) (by omega) HT.out (by rw[HT.out.len,HJ.out.1];omega)).mono ?_;rintro e X1 ⟨⟨q0,rfl⟩,t0,v0,us0,hs,ht⟩;have HN:Hid ((ts++[t0]).length=j+1/\∀ t ∈ ts++[t0],srt t.op=1):=Lib.hid ⟨by simp[HJ.out.1],fun t h=>(List.mem_append.1 h).elim (fun h=>HJ.out.2 t h) (fun h=>by rw[List.mem_singleton] at h;subst h;exact hs)⟩;replace HT:=Lib.hid ht;clear hs ht HJ;go_wp2_with fail
    go_roundw
    case rel=>exact⟨j+1,_,_,_,by go_num,hlt,HN,HT⟩
    case measure=>simp[intOf];omega
   obtain⟨vo,vc,hv,-⟩:=HT.out.row.form;subst hv;obtain⟨N,hN⟩:∃ N,N=us.length:=⟨_,rfl⟩
   rw[<-hN] at HT;clear hN;have HBo:=Lib.hid HT.out.ho;have HBr:=Lib.hid HT.out.hr;have o0:=cell_at (v:=.int .i64 18) HBo.out 0 rfl;have fo0:=froz_at HBo.out 0;have o1:=cell_at (v:=.bool false) HBo.out 1 rfl;have fo1:=froz_at HBo.out 1;have o2:=cell_at (v:=.slice none 0 0) HBo.out 2 rfl;have fo2:=froz_at HBo.out 2;have o3:=cell_at (v:=.string ⟨#[]⟩) HBo.out 3 rfl;have fo3:=froz_at HBo.out 3;have o4:=cell_at (v:=.slice vo N vc) HBo.out 4 rfl;have fo4:=froz_at HBo.out 4;obtain⟨⟨r0,r1,r2,r3,r4⟩,fr0,fr1,fr2,fr3,fr4⟩:=cells5V HBr.out;go_wp2_with fail
   clear o0 fo0 o1 fo1 o2 fo2 o3 fo3 o4 fo4;have hg:=grown5V (w:=wr) (k:=kr) (.int .i64 18) (.bool false) (.slice none 0 0) (.string ⟨#[]⟩) (.slice vo N vc);have hf:Fr 29 wr _:=.of_grown hg (fun j hj=>by injection hj with hj;subst hj;exact⟨_,HBr.out,n32_F⟩);obtain⟨h1,h2,h3,h4⟩:=HT.out.fin hg hf (by unfold IR;decide) HB0.out HKR.out (by unfold NmOk;simp) (small4 (by decide)) (fun _ _ _=>rfl) (by rw[HJ.out.1];omega) (fit_all (by decide) HJ.out.2)
   (try simp only[Exit.inBlock,Exit.then])
   exact bodyPost_ret (v:=.agg #[.int .i64 18,.bool false,.slice none 0 0,.string ⟨#[]⟩,.slice vo N vc]) (by simp[results,Try.results7,go_sem,r0,r1,r2,r3,r4]) rfl ⟨_,_,rfl,h1,h2,rfl,h3,h4⟩
 ·have hop2:op=19:=HOP.out;subst hop2;clear HOP;have HSZP:Hid (W1.heap.size<=W1.heap.size):=Lib.hid (Nat.le_refl _);have HT:Hid (TSt w W1.heap.size kf kd kr ko ⟨xo,xb,xao,xl,xc,xnm,xko,xkl,xkc⟩ ((d:Nat)+1) 19 false none 0 0 (⟨#[]⟩) (0) d [] (.slice none 0 0) [] W1):=Lib.hid (TSt.zero HBo.out HBf.out HBd.out HBr.out (nr0 _) HLOW.out HDIS.out HKO.out HW.out HSZP.out);clear HBm;obtain⟨M,hM⟩:∃ M,M=min xkl 3:=⟨_,rfl⟩
  have hmin3:min (xkl:Int) 3=(M:Int):=by omega
  have hM3:M<=3:=by omega
  clear hM;have o0:=cell_at (v:=.int .i64 19) HBo.out 0 rfl;have fo0:=froz_at HBo.out 0;have o1:=cell_at (v:=.bool false) HBo.out 1 rfl;have fo1:=froz_at HBo.out 1;have o2:=cell_at (v:=.slice none 0 0) HBo.out 2 rfl;have fo2:=froz_at HBo.out 2;have o3:=cell_at (v:=.string ⟨#[]⟩) HBo.out 3 rfl;have fo3:=froz_at HBo.out 3;have o4:=cell_at (v:=.slice none 0 0) HBo.out 4 rfl;have fo4:=froz_at HBo.out 4;have f0:=cell_at (v:=.int .i64 xo) HBf.out 0 rfl;have ff0:=froz_at HBf.out 0;have f1:=cell_at (v:=.bool xb) HBf.out 1 rfl;have ff1:=froz_at HBf.out 1;have f2:=cell_at (v:=.slice xao xl xc) HBf.out 2 rfl;have ff2:=froz_at HBf.out 2;have f3:=cell_at (v:=.string xnm) HBf.out 3 rfl;have ff3:=froz_at HBf.out 3;have f4:=cell_at (v:=.slice xko xkl xkc) HBf.out 4 rfl;have ff4:=froz_at HBf.out 4;go_upto_region 51 with fail
  clear o0 fo0 o1 fo1 o2 fo2 o3 fo3 o4 fo4 f0 ff0 f1 ff1 f2 ff2 f3 ff3 f4 ff4;rw[show (((8:Nat):Int))=(8:Int) from rfl]
  go_loopw [154] (fun i wr=>∃ (j:Nat) (ts:List F) (v:Value) (us:List FU),i=.int .i64 (j:Nat)/\j<=M/\Hid (ts.length=j/\∀ t ∈ ts,srt t.op=1)/\Hid (TSt w W1.heap.size kf kd kr ko ⟨xo,xb,xao,xl,xc,xnm,xko,xkl,xkc⟩ ((d:Nat)+1) 19 false none 0 0 ⟨#[]⟩ 0 d ts v us wr)) (fun i _=>M - (intOf i).toNat)
  case atStart=>exact⟨0,[],_,[],rfl,Nat.zero_le _,Lib.hid ⟨rfl,fun t ht=>by cases ht⟩,HT⟩
  case round =>
   clear HT HBf HBd HBr HBo HC HW HSZP;obtain⟨j,ts,v,us,rfl,hj,HJ,HT⟩:=hrel
   by_cases hlt:j<M
   ·have hj3:j<=3:=by omega
    go_wp2_with fail
    refine (kid_p d HD.out HIT.out w wr W1.heap.size kf kd kr ko ⟨xo,xb,xao,xl,xc,xnm,xko,xkl,xkc⟩ HX.out 19 false none 0 0 ⟨#[]⟩ 0 ts v us j 1 (by decide) (by omega) HT.out (by rw[HT.out.len,HJ.out.1];omega)).mono ?_;rintro e X1 ⟨⟨q0,rfl⟩,t0,v0,us0,hs,ht⟩;have HN:Hid ((ts++[t0]).length=j+1/\∀ t ∈ ts++[t0],srt t.op=1):=Lib.hid ⟨by simp[HJ.out.1],fun t h=>(List.mem_append.1 h).elim (fun h=>HJ.out.2 t h) (fun h=>by rw[List.mem_singleton] at h;subst h;exact hs)⟩;replace HT:=Lib.hid ht;clear hs ht HJ;go_wp2_with fail
    go_roundw
    case rel=>exact⟨j+1,_,_,_,by go_num,hlt,HN,HT⟩
    case measure=>simp[intOf];omega
   obtain⟨vo,vc,hv,-⟩:=HT.out.row.form;subst hv;obtain⟨N,hN⟩:∃ N,N=us.length:=⟨_,rfl⟩
   rw[<-hN] at HT;clear hN;have HBo:=Lib.hid HT.out.ho;have HBr:=Lib.hid HT.out.hr;have o0:=cell_at (v:=.int .i64 19) HBo.out 0 rfl;have fo0:=froz_at HBo.out 0;have o1:=cell_at (v:=.bool false) HBo.out 1 rfl;have fo1:=froz_at HBo.out 1;have o2:=cell_at (v:=.slice none 0 0) HBo.out 2 rfl;have fo2:=froz_at HBo.out 2;have o3:=cell_at (v:=.string ⟨#[]⟩) HBo.out 3 rfl;have fo3:=froz_at HBo.out 3;have o4:=cell_at (v:=.slice vo N vc) HBo.out 4 rfl;have fo4:=froz_at HBo.out 4;obtain⟨⟨r0,r1,r2,r3,r4⟩,fr0,fr1,fr2,fr3,fr4⟩:=cells5V HBr.out;go_wp2_with fail
   clear o0 fo0 o1 fo1 o2 fo2 o3 fo3 o4 fo4;have hg:=grown5V (w:=wr) (k:=kr) (.int .i64 19) (.bool false) (.slice none 0 0) (.string ⟨#[]⟩) (.slice vo N vc);have hf:Fr 29 wr _:=.of_grown hg (fun j hj=>by injection hj with hj;subst hj;exact⟨_,HBr.out,n32_F⟩);obtain⟨h1,h2,h3,h4⟩:=HT.out.fin hg hf (by unfold IR;decide) HB0.out HKR.out (by unfold NmOk;simp) (small4 (by decide)) (fun _ _ _=>rfl) (by rw[HJ.out.1];omega) (fit_all (by decide) HJ.out.2)
   (try simp only[Exit.inBlock,Exit.then])
   exact bodyPost_ret (v:=.agg #[.int .i64 19,.bool false,.slice none 0 0,.string ⟨#[]⟩,.slice vo N vc]) (by simp[results,Try.results7,go_sem,r0,r1,r2,r3,r4]) rfl ⟨_,_,rfl,h1,h2,rfl,h3,h4⟩
 have hop2:op=20:=HOP.out;subst hop2;clear HOP;have HSZP:Hid (W1.heap.size<=W1.heap.size):=Lib.hid (Nat.le_refl _);have HT:Hid (TSt w W1.heap.size kf kd kr ko ⟨xo,xb,xao,xl,xc,xnm,xko,xkl,xkc⟩ ((d:Nat)+1) 20 false none 0 0 (⟨#[]⟩) (0) d [] (.slice none 0 0) [] W1):=Lib.hid (TSt.zero HBo.out HBf.out HBd.out HBr.out (nr0 _) HLOW.out HDIS.out HKO.out HW.out HSZP.out);clear HBm;have HKB:Hid (W1.heap.size<=W1.heap.size):=Lib.hid (Nat.le_refl _);have o0:=cell_at (v:=.int .i64 20) HBo.out 0 rfl;have fo0:=froz_at HBo.out 0;have o1:=cell_at (v:=.bool false) HBo.out 1 rfl;have fo1:=froz_at HBo.out 1;have o2:=cell_at (v:=.slice none 0 0) HBo.out 2 rfl;have fo2:=froz_at HBo.out 2;have o3:=cell_at (v:=.string ⟨#[]⟩) HBo.out 3 rfl;have fo3:=froz_at HBo.out 3;have o4:=cell_at (v:=.slice none 0 0) HBo.out 4 rfl;have fo4:=froz_at HBo.out 4
 go_wp2_with fail
 clear o0 fo0 o1 fo1 o2 fo2 o3 fo3 o4 fo4;refine (kid_p d HD.out HIT.out w W1 W1.heap.size kf kd kr ko ⟨xo,xb,xao,xl,xc,xnm,xko,xkl,xkc⟩ HX.out 20 false none 0 0 ⟨#[]⟩ (0) [] _ [] 0 1 (by decide) (by decide) HT.out (by rw[HT.out.len];simp)).mono ?_;rintro e X1 ⟨⟨q0,rfl⟩,t0,v0,us0,hs,ht⟩;replace HT:=Lib.hid ht;have HS0:=Lib.hid hs;clear hs ht;go_wp2_with fail
 refine (kid_p d HD.out HIT.out w X1 W1.heap.size kf kd kr ko ⟨xo,xb,xao,xl,xc,xnm,xko,xkl,xkc⟩ HX.out 20 false none 0 0 ⟨#[]⟩ (0) ([]++[t0]) _ us0 1 1 (by decide) (by decide) HT.out (by rw[HT.out.len];simp)).mono ?_;rintro e X2 ⟨⟨q1,rfl⟩,t1,v1,us1,hs,ht⟩;replace HT:=Lib.hid ht;have HS1:=Lib.hid hs;clear hs ht;obtain⟨vo,vc,hv,-⟩:=HT.out.row.form;subst hv;obtain⟨N,hN⟩:∃ N,N=us1.length:=⟨_,rfl⟩
 rw[<-hN] at HT;clear hN;replace HBo:=Lib.hid HT.out.ho;replace HBr:=Lib.hid HT.out.hr;have o0:=cell_at (v:=.int .i64 20) HBo.out 0 rfl;have fo0:=froz_at HBo.out 0;have o1:=cell_at (v:=.bool false) HBo.out 1 rfl;have fo1:=froz_at HBo.out 1;have o2:=cell_at (v:=.slice none 0 0) HBo.out 2 rfl;have fo2:=froz_at HBo.out 2;have o3:=cell_at (v:=.string ⟨#[]⟩) HBo.out 3 rfl;have fo3:=froz_at HBo.out 3;have o4:=cell_at (v:=.slice vo N vc) HBo.out 4 rfl;have fo4:=froz_at HBo.out 4;obtain⟨⟨r0,r1,r2,r3,r4⟩,fr0,fr1,fr2,fr3,fr4⟩:=cells5V HBr.out;go_wp2_with fail
 clear o0 fo0 o1 fo1 o2 fo2 o3 fo3 o4 fo4;have hg:=grown5V (w:=X2) (k:=kr) (.int .i64 20) (.bool false) (.slice none 0 0) (.string ⟨#[]⟩) (.slice vo N vc);have hf:Fr 29 X2 _:=.of_grown hg (fun j hj=>by injection hj with hj;subst hj;exact⟨_,HBr.out,n32_F⟩);obtain⟨h1,h2,h3,h4⟩:=HT.out.fin hg hf (by unfold IR;decide) HB0.out HKR.out (by unfold NmOk;simp) (small4 (by decide)) (fun _ _ _=>rfl) (by simp) (by simp[fitF,kidsOk,srts,HS0.out,HS1.out])
 (try simp only[Exit.inBlock,Exit.then])
 exact bodyPost_ret (v:=.agg #[.int .i64 20,.bool false,.slice none 0 0,.string ⟨#[]⟩,.slice vo N vc]) (by simp[results,Try.results7,go_sem,r0,r1,r2,r3,r4]) rfl ⟨_,_,rfl,h1,h2,rfl,h3,h4⟩
def opAttame_2s (j:Nat):Int:=[(8:Int),(9:Int),(10:Int),(11:Int)].getD j 0
theorem tame_2s (d:Nat) (hd0:1<=d) (hd:d<=100) (IT:TameC d) (xo:Int) (xb:Bool) (xao:Option Addr) (xl xc:Nat) (xnm:ByteArray) (xko:Option Addr) (xkl xkc:Nat) (w:World) (hx:RawF w (d+1) ⟨xo,xb,xao,xl,xc,xnm,xko,xkl,xkc⟩) :
  Calls Try.prog 7 #[.agg #[.int .i64 xo,.bool xb,.slice xao xl xc,.string xnm,.slice xko xkl xkc],.int .i64 2,.int .i64 ((d:Nat)+1:Int)] w (TamePost (d+1) 2 w):=by
 have HX:=Lib.hid hx;have HIT:=Lib.hid IT;have HD0:=Lib.hid hd0;have HD:=Lib.hid hd;have hdle:decide (((d:Nat)+1:Int)<=1)=false:=by simp;omega
 clear IT hd0 hd;obtain⟨-,hn,-,⟨hk1,hk2⟩,-⟩:=hx;simp only at hn hk1 hk2;have hxm:xkc<=9223372036854775807:=hk2;obtain⟨m,hm⟩:∃ m,m=min xl 2:=⟨_,rfl⟩
 have hmin:min (xl:Int) 2=(m:Int):=by omega
 have hm2:m<=2:=by omega
 have hml:m<=xl:=by omega
 have hx2:∃ q,GN w (.slice xao m xc) q 2/\xl<=xc/\xc<=9223372036854775807:=by
  obtain⟨xs,hs,hdg⟩:=hn;have hl:=sl_len hs;obtain⟨_,_,e,h1,h2,_⟩:=id hs;injection e with e1 e2 e3;subst e3;exact⟨_,⟨xs.take m,hs.take m (by omega),hdg.take m,rfl,by rw[List.length_take];omega⟩,by omega,h2⟩
 obtain⟨q,hq,hlc,hc⟩:=hx2;have hmc:m<=xc:=by omega
 have HG:=Lib.hid hq;clear hq hn hm hk2;obtain⟨K,hK,hK2⟩:=and_255 xo;obtain⟨j,hj⟩:∃ j,j=K % 4:=⟨_,rfl⟩
 have hjm:((K:Nat):Int).tmod 4=((j:Nat):Int):=by rw[hj];exact (Int.ofNat_tmod K 4).symm
 have hjN:j<4:=by rw[hj];exact Nat.mod_lt _ (by decide)
 clear hj hK2;have HW:=Lib.hid (Below.refl w.heap.size w);go_enter Try.func7,Try.ntmps7
 obtain⟨x1,kf,ef,ekf,hbf,hkf,HBf⟩:=newV w #[.int .i64 xo,.bool xb,.slice xao xl xc,.string xnm,.slice xko xkl xkc] 29;replace HW:=Lib.hid (HW.out.trans (hbf.out.mono HW.out.size));replace HG:=Lib.hid (HG.out.below hbf.out);obtain⟨x2,kd,ed,ekd,hbd,hkd,HBd⟩:=newV x1 #[.int .i64 ((d:Nat)+1:Int)] 3;replace HBf:=kBV hbd.out HBf;replace HW:=Lib.hid (HW.out.trans (hbd.out.mono HW.out.size));replace HG:=Lib.hid (HG.out.below hbd.out);obtain⟨x3,kr,er,ekr,hbr,hkr,HBr⟩:=newV x2 #[.int .i64 0,.bool false,.slice none 0 0,.string ⟨#[]⟩,.slice none 0 0] 29;replace HBf:=kBV hbr.out HBf;replace HBd:=kBV hbr.out HBd;replace HW:=Lib.hid (HW.out.trans (hbr.out.mono HW.out.size));replace HG:=Lib.hid (HG.out.below hbr.out);have HKR:Hid (w.heap.size<=kr):=Lib.hid (by have h1:=hbf.out.size;have h2:=hbd.out.size;have h3:=hkr.out;omega)
 obtain⟨x4,kp,ep,ekp,hbp,hkp,HBp⟩:=newV x3 #[.int .i64 1,.int .i64 0,.int .i64 2,.int .i64 3,.int .i64 4,.int .i64 5,.int .i64 6,.int .i64 7] 22;replace HBf:=kBV hbp.out HBf;replace HBd:=kBV hbp.out HBd;replace HBr:=kBV hbp.out HBr;replace HW:=Lib.hid (HW.out.trans (hbp.out.mono HW.out.size));replace HG:=Lib.hid (HG.out.below hbp.out);obtain⟨x5,kq,eq,ekq,hbq,hkq,HBq⟩:=newV x4 #[.int .i64 14,.int .i64 12,.int .i64 13,.int .i64 15,.int .i64 16,.int .i64 16,.int .i64 17,.int .i64 18,.int .i64 19,.int .i64 20] 22;replace HBf:=kBV hbq.out HBf;replace HBd:=kBV hbq.out HBd;replace HBr:=kBV hbq.out HBr;replace HBp:=kBV hbq.out HBp;replace HW:=Lib.hid (HW.out.trans (hbq.out.mono HW.out.size));replace HG:=Lib.hid (HG.out.below hbq.out)
 obtain⟨x6,kt,et,ekt,hbt,hkt,HBt⟩:=newV x5 #[.int .i64 8,.int .i64 9,.int .i64 10,.int .i64 11] 22;replace HBf:=kBV hbt.out HBf;replace HBd:=kBV hbt.out HBd;replace HBr:=kBV hbt.out HBr;replace HBp:=kBV hbt.out HBp;replace HBq:=kBV hbt.out HBq;replace HW:=Lib.hid (HW.out.trans (hbt.out.mono HW.out.size));replace HG:=Lib.hid (HG.out.below hbt.out);have hidx:=idx3_2 (some ⟨kp,0,none⟩) (some ⟨kq,0,none⟩) (some ⟨kt,0,none⟩) 8 10 4 8 10 4;have f0:=cell_at (v:=.int .i64 xo) HBf.out 0 rfl;have ff0:=froz_at HBf.out 0;have f1:=cell_at (v:=.bool xb) HBf.out 1 rfl;have ff1:=froz_at HBf.out 1;have f2:=cell_at (v:=.slice xao xl xc) HBf.out 2 rfl;have ff2:=froz_at HBf.out 2;have f3:=cell_at (v:=.string xnm) HBf.out 3 rfl;have ff3:=froz_at HBf.out 3;have f4:=cell_at (v:=.slice xko xkl xkc) HBf.out 4 rfl;have ff4:=froz_at HBf.out 4
 have d0:=cell_at (v:=.int .i64 ((d:Nat)+1:Int)) HBd.out 0 rfl;have fd0:=froz_at HBd.out 0
 have hop:x6.cell? ⟨kt,j,none⟩=some (.int .i64 (opAttame_2s j)):=by
  have:j=0\/j=1\/j=2\/j=3:=by omega
  rcases this with rfl | rfl | rfl | rfl<;>exact cell_at HBt.out _ rfl
 obtain⟨op,hopd⟩:∃ op,op=opAttame_2s j:=⟨_,rfl⟩
 rw[<-hopd] at hop;have HOP:=Lib.hid hopd;clear hopd;go_upto_region 7 with fail
 clear f0 ff0 f1 ff1 f2 ff2 f3 ff3 f4 ff4 d0 fd0 hop;clear hidx hjm hK;have HWp:=HW;have HBfp:=HBf;have HBdp:=HBd;have HBrp:=HBr;obtain⟨x7,ko,eo,eko,hbo,hko,HBo⟩:=newV x6 #[.int .i64 op,.bool false,.slice none 0 0,.string ⟨#[]⟩,.slice none 0 0] 29;replace HBf:=kBV hbo.out HBf;replace HBd:=kBV hbo.out HBd;replace HBr:=kBV hbo.out HBr;replace HBp:=kBV hbo.out HBp;replace HBq:=kBV hbo.out HBq;replace HBt:=kBV hbo.out HBt;replace HW:=Lib.hid (HW.out.trans (hbo.out.mono HW.out.size));replace HG:=Lib.hid (HG.out.below hbo.out);rw[eo,eko];have HKO:Hid (w.heap.size<=ko):=Lib.hid (by have:=HWp.out.size;have:=hko.out;omega);go_upto_region 8 with fail
 have HY:=Lib.hid (Below.refl x7.heap.size x7);have HBf0:=HBf;have HBd0:=HBd;have HBr0:=HBr;have HBo0:=HBo;have hlt_f:=lt_of_block HBf.out;have hog:Hid (∀ q,q<0->(fun q=>0) q<x7.heap.size):=Lib.hid (fun q h=>absurd h (Nat.not_lt_zero _));refine R7.region (by kernel_rfl) [[],[0],[0,1],[],[3],[3,4],[],[6],[6,7],[6,7,8],[6,7,8,9],[3,4,5,6,7,8,9,10],[0,1,2,3,4,5,6,7,8,9,10,11],[],[0,1,2,3,4,5,6,7,8,9,10,11,12,13]] [] [] (fun q=>0) 0 14 (by kernel_rfl) (by kernel_rfl) (by rfl) hog.out (fun q q' h h' hn=>absurd hn (by omega)) ?_;refine R7.Chain.det ?_ (by rfl) (fun T xs wr hA=>?_) ?_
 rotate_left 1
 ·have e3:=hA.pre 3 (by kernel_rfl);simp only[gsa,gsc,gsz] at e3;clear hA;refine⟨(by rfl),?_⟩;go_simp<;>(try with_reducible rfl)
 refine R7.Chain.det ?_ (by rfl) (fun T xs wr hA=>?_) ?_
 rotate_left 1
 ·have e36:=hA.tm 0 36 (by rfl) (by rfl);have f36:xs 0=_:=hA.fa 0 (by rfl)
  (try simp (disch:=first | rfl | decide) only [R7.mask_in] at f36)
  rw[f36] at e36;clear f36;clear hA;refine⟨(by rfl),?_⟩;go_simp<;>(try with_reducible rfl)
 refine R7.Chain.det ?_ (by rfl) (fun T xs wr hA=>?_) ?_
 rotate_left 1
 ·have e37:=hA.tm 1 37 (by rfl) (by rfl);have f37:xs 1=_:=hA.fa 1 (by rfl)
  (try simp (disch:=first | rfl | decide) only [R7.mask_in] at f37)
  rw[f37] at e37;clear f37;have hBq:wr.heap[kf]?=_:=(hA.bl _ hlt_f (fun q h=>absurd h (Nat.not_lt_zero _))).trans HBf.out;have q0:=cell_at (v:=.int .i64 xo) hBq 0 rfl;have q1:=cell_at (v:=.bool xb) hBq 1 rfl;have q2:=cell_at (v:=.slice xao xl xc) hBq 2 rfl;have q3:=cell_at (v:=.string xnm) hBq 3 rfl;have q4:=cell_at (v:=.slice xko xkl xkc) hBq 4 rfl;clear hBq;clear hA;refine⟨(by rfl),?_⟩;go_simp<;>(try with_reducible rfl)
 refine R7.Chain.det ?_ (by rfl) (fun T xs wr hA=>?_) ?_
 rotate_left 1
 ·have e3:=hA.pre 3 (by kernel_rfl);simp only[gsa,gsc,gsz] at e3;clear hA;refine⟨(by rfl),?_⟩;go_simp<;>(try with_reducible rfl)
 refine R7.Chain.det ?_ (by rfl) (fun T xs wr hA=>?_) ?_
 rotate_left 1
 ·have e39:=hA.tm 3 39 (by rfl) (by rfl);have f39:xs 3=_:=hA.fa 3 (by rfl)
  (try simp (disch:=first | rfl | decide) only [R7.mask_in] at f39)
  rw[f39] at e39;clear f39;clear hA;refine⟨(by rfl),?_⟩;go_simp<;>(try with_reducible rfl)
 refine R7.Chain.det ?_ (by rfl) (fun T xs wr hA=>?_) ?_
 rotate_left 1
 ·have e40:=hA.tm 4 40 (by rfl) (by rfl);have f40:xs 4=_:=hA.fa 4 (by rfl)
  (try simp (disch:=first | rfl | decide) only [R7.mask_in] at f40)
  rw[f40] at e40;clear f40;have hBq:wr.heap[kf]?=_:=(hA.bl _ hlt_f (fun q h=>absurd h (Nat.not_lt_zero _))).trans HBf.out;have q0:=cell_at (v:=.int .i64 xo) hBq 0 rfl;have q1:=cell_at (v:=.bool xb) hBq 1 rfl;have q2:=cell_at (v:=.slice xao xl xc) hBq 2 rfl;have q3:=cell_at (v:=.string xnm) hBq 3 rfl;have q4:=cell_at (v:=.slice xko xkl xkc) hBq 4 rfl;clear hBq;clear hA;refine⟨(by rfl),?_⟩;go_simp<;>(try with_reducible rfl)
 refine R7.Chain.det ?_ (by rfl) (fun T xs wr hA=>?_) ?_
 rotate_left 1
 ·have e3:=hA.pre 3 (by kernel_rfl);simp only[gsa,gsc,gsz] at e3;clear hA;refine⟨(by rfl),?_⟩;go_simp<;>(try with_reducible rfl)
 refine R7.Chain.det ?_ (by rfl) (fun T xs wr hA=>?_) ?_
 rotate_left 1
 ·have e42:=hA.tm 6 42 (by rfl) (by rfl);have f42:xs 6=_:=hA.fa 6 (by rfl)
  (try simp (disch:=first | rfl | decide) only [R7.mask_in] at f42)
  rw[f42] at e42;clear f42;clear hA;refine⟨(by rfl),?_⟩;go_simp<;>(try with_reducible rfl)
 refine R7.Chain.det ?_ (by rfl) (fun T xs wr hA=>?_) ?_
 rotate_left 1
 ·have e43:=hA.tm 7 43 (by rfl) (by rfl);have f43:xs 7=_:=hA.fa 7 (by rfl)
  (try simp (disch:=first | rfl | decide) only [R7.mask_in] at f43)
  rw[f43] at e43;clear f43;have hBq:wr.heap[kf]?=_:=(hA.bl _ hlt_f (fun q h=>absurd h (Nat.not_lt_zero _))).trans HBf.out;have q0:=cell_at (v:=.int .i64 xo) hBq 0 rfl;have q1:=cell_at (v:=.bool xb) hBq 1 rfl;have q2:=cell_at (v:=.slice xao xl xc) hBq 2 rfl;have q3:=cell_at (v:=.string xnm) hBq 3 rfl;have q4:=cell_at (v:=.slice xko xkl xkc) hBq 4 rfl;clear hBq;clear hA;refine⟨(by rfl),?_⟩;go_simp<;>(try with_reducible rfl)
 refine R7.Chain.det ?_ (by rfl) (fun T xs wr hA=>?_) ?_
 rotate_left 1
 ·have e44:=hA.tm 8 44 (by rfl) (by rfl);have f44:xs 8=_:=hA.fa 8 (by rfl)
  (try simp (disch:=first | rfl | decide) only [R7.mask_in] at f44)
  rw[f44] at e44;clear f44;clear hA;refine⟨(by rfl),?_⟩;go_simp<;>(try with_reducible rfl)
 refine R7.Chain.det ?_ (by rfl) (fun T xs wr hA=>?_) ?_
 rotate_left 1
 ·have e45:=hA.tm 9 45 (by rfl) (by rfl);have f45:xs 9=_:=hA.fa 9 (by rfl)
  (try simp (disch:=first | rfl | decide) only [R7.mask_in] at f45)
  rw[f45] at e45;clear f45;clear hA;refine⟨(by rfl),?_⟩;go_simp<;>(try with_reducible rfl)
 refine R7.Chain.det ?_ (by rfl) (fun T xs wr hA=>?_) ?_
 rotate_left 1
 ·have e41:=hA.tm 5 41 (by rfl) (by rfl);have f41:xs 5=_:=hA.fa 5 (by rfl)
  (try simp (disch:=first | rfl | decide) only [R7.mask_in] at f41)
  rw[f41] at e41;clear f41;have e46:=hA.tm 10 46 (by rfl) (by rfl);have f46:xs 10=_:=hA.fa 10 (by rfl)
  (try simp (disch:=first | rfl | decide) only [R7.mask_in] at f46)
  rw[f46] at e46;clear f46;clear hA;refine⟨(by rfl),?_⟩;go_simp<;>(try with_reducible rfl)
 refine R7.Chain.call (fun xs v w=>∃ z,CI w v z 2) (fun _ _ _ _ h hb=>by obtain⟨z,h2⟩:=h;exact⟨z,h2.below hb⟩) (fun _ _ _ _ _ _ h _=>by obtain⟨q,hq,_⟩:=h;exact absurd hq (Nat.not_lt_zero _)) (by rfl) (fun T xs wr hA=>?_) ?_
 ·have hsw:=(hA.be 0 (Nat.zero_le _) (fun _ _=>Nat.zero_le _)).size;have e38:=hA.tm 2 38 (by rfl) (by rfl);have f38:xs 2=_:=hA.fa 2 (by rfl)
  (try simp (disch:=first | rfl | decide) only [R7.mask_in] at f38)
  rw[f38] at e38;clear f38;have e47:=hA.tm 11 47 (by rfl) (by rfl);have f47:xs 11=_:=hA.fa 11 (by rfl)
  (try simp (disch:=first | rfl | decide) only [R7.mask_in] at f47)
  rw[f47] at e47;clear f47;have hbw:=undrew (hA.be x7.heap.size (Nat.le_refl _) (fun q h=>absurd h (Nat.not_lt_zero q)));clear hA;refine⟨(by rfl),fun K hK=>?_⟩;go_simp
  refine (big_any xb _ q 2 wr (HG.out.below hbw) (by decide)).mono ?_;rintro e w' ⟨v,rfl,hc,hb'⟩;exact hK.out _ _ ⟨_,hc⟩ hb'
 refine R7.Chain.call (fun xs v w=>∃ g,v=.pointer (some ⟨g,0,none⟩)/\x7.heap.size<=g/\w.heap[g]?=some (.cells #[.bool false,.slice none 0 0] 26 (0,0))) (fun _ _ _ _ h hb=>by obtain⟨g,h1,h2,h3⟩:=h;exact⟨g,h1,h2,by rw[hb.block g (lt_of_block h3)];exact h3⟩) (fun _ _ _ _ _ _ h _=>by obtain⟨q,hq,_⟩:=h;exact absurd hq (Nat.not_lt_zero _)) (by rfl) (fun T xs wr hA=>?_) ?_
 ·have hsw:=(hA.be 0 (Nat.zero_le _) (fun _ _=>Nat.zero_le _)).size;have hbw:=undrew (hA.be x7.heap.size (Nat.le_refl _) (fun q h=>absurd h (Nat.not_lt_zero q)));clear hA;refine⟨(by rfl),fun K hK=>?_⟩;go_simp
  exact hK.out _ _ ⟨_,rfl,hbw.size,made_at _ _ _ rfl⟩ ((Below.refl _ _).alloc (Nat.le_refl _) _)
 refine R7.Chain.done (fun xs x8 hL=>?_);obtain⟨⟨hbe,hbl⟩,hf,-,-⟩:=hL;have f0:xs 0=_:=hf 0 (by decide)
 (try simp (disch:=first | rfl | decide) only [R7.mask_in] at f0)
 have f1:xs 1=_:=hf 1 (by decide)
 (try simp (disch:=first | rfl | decide) only [R7.mask_in] at f1)
 have f2:xs 2=_:=hf 2 (by decide)
 (try simp (disch:=first | rfl | decide) only [R7.mask_in] at f2)
 have f3:xs 3=_:=hf 3 (by decide)
 (try simp (disch:=first | rfl | decide) only [R7.mask_in] at f3)
 have f4:xs 4=_:=hf 4 (by decide)
 (try simp (disch:=first | rfl | decide) only [R7.mask_in] at f4)
 have f5:xs 5=_:=hf 5 (by decide)
 (try simp (disch:=first | rfl | decide) only [R7.mask_in] at f5)
 have f6:xs 6=_:=hf 6 (by decide)
 (try simp (disch:=first | rfl | decide) only [R7.mask_in] at f6)
 have f7:xs 7=_:=hf 7 (by decide)
 (try simp (disch:=first | rfl | decide) only [R7.mask_in] at f7)
 have f8:xs 8=_:=hf 8 (by decide)
 (try simp (disch:=first | rfl | decide) only [R7.mask_in] at f8)
 have f9:xs 9=_:=hf 9 (by decide)
 (try simp (disch:=first | rfl | decide) only [R7.mask_in] at f9)
 have f10:xs 10=_:=hf 10 (by decide)
 (try simp (disch:=first | rfl | decide) only [R7.mask_in] at f10)
 have f11:xs 11=_:=hf 11 (by decide)
 (try simp (disch:=first | rfl | decide) only [R7.mask_in] at f11)
 have F12:∃ z,CI x8 (xs 12) z 2:=hf 12 (by decide);have F13:∃ g,(xs 13)=.pointer (some ⟨g,0,none⟩)/\x7.heap.size<=g/\x8.heap[g]?=some (.cells #[.bool false,.slice none 0 0] 26 (0,0)):=hf 13 (by decide);have hb0:Below 0 x7 x8:=undrew (hbe 0 (Nat.zero_le _) (fun _ _=>Nat.zero_le _));have hgr:∀ j,j<x7.heap.size->(∀ q,q<0->(fun q=>0) q≠j)->x8.heap[j]?=x7.heap[j]?:=hbl;clear hbe hbl hf;have hb:Below x7.heap.size x7 x8:=⟨hb0.os,hb0.tape,hb0.output,hb0.size,fun q hq=>hgr q hq (fun q h=>absurd h (Nat.not_lt_zero _))⟩
 refine R7.rest_list (by decide) (by kernel_rfl) ?_;simp only[R7.fill,t1_,t2_,t3_,t4_,t5_,t6_,t7_,f0,f1,f2,f3,f4,f5,f6,f7,f8,f9,f10,f11];clear hb0 hgr hog hlt_f f0 f1 f2 f3 f4 f5 f6 f7 f8 f9 f10 f11;replace HBf:=kBV hb HBf;replace HBd:=kBV hb HBd;replace HBr:=kBV hb HBr;replace HBp:=kBV hb HBp;replace HBq:=kBV hb HBq;replace HBt:=kBV hb HBt;replace HBo:=kBV hb HBo;replace HW:=Lib.hid (HW.out.trans (hb.mono HW.out.size));replace HG:=Lib.hid (HG.out.below hb);replace HY:=Lib.hid (HY.out.trans (hb.mono HY.out.size));replace hb:=Lib.hid hb;obtain⟨z,hcz⟩:=F12;obtain⟨zb,zo,zl,zc,hzv⟩:=hcz.shape;obtain⟨km,hkm,hkm1,hkm2⟩:=F13;rw[hzv] at hcz;rw[hzv,hkm];have HC:=Lib.hid (hcz.mono (k':=600) (by decide));have HCZ:=Lib.hid hcz.lt;have HBm:=Lib.hid hkm2;clear hcz hzv hkm hkm2;have m0:=cell_at (v:=.bool false) HBm.out 0 rfl
 have fm0:=froz_at HBm.out 0;have m1:=cell_at (v:=.slice none 0 0) HBm.out 1 rfl;have fm1:=froz_at HBm.out 1;go_upto_region 9 with fail
 clear m0 fm0 m1 fm1;have hg1:=grown2V (w:=x8) (k:=km) (.bool zb) (.slice zo zl zc);have hb1:((x8.setCell ⟨km,0,none⟩ (.bool zb)).setCell ⟨km,1,none⟩ (.slice zo zl zc)).heap[km]?=_:=heap_setCell_same _ km 1 _ _ _ (heap_setCell_same _ km 0 _ _ _ HBm.out);obtain⟨W1,hW1⟩:∃ q,q=(x8.setCell ⟨km,0,none⟩ (.bool zb)).setCell ⟨km,1,none⟩ (.slice zo zl zc):=⟨_,rfl⟩
 rw[<-hW1] at hg1 hb1 ⊢;have hf1:Fr 26 x8 W1:=.of_grown hg1 (fun j hj=>by injection hj with hj;subst hj;exact⟨_,HBm.out,n32_2⟩);have HKM:Hid (w.heap.size<=km):=Lib.hid (Nat.le_trans (by have:=HKO.out;have:=lt_of_block HBo0.out;omega) hkm1);replace HW:=Lib.hid (ext_below HW.out hg1 HKM.out);replace HY:=Lib.hid (ext_below HY.out hg1 hkm1);replace HC:=Lib.hid (HC.out.fr hf1);replace HBf:=Lib.hid ((HY.out.block _ (lt_of_block HBf0.out)).trans HBf0.out);replace HBd:=Lib.hid ((HY.out.block _ (lt_of_block HBd0.out)).trans HBd0.out);replace HBr:=Lib.hid ((HY.out.block _ (lt_of_block HBr0.out)).trans HBr0.out);replace HBo:=Lib.hid ((HY.out.block _ (lt_of_block HBo0.out)).trans HBo0.out);replace HBm:=Lib.hid hb1;clear hg1 hb1 hW1 hf1 hkm1
 have HLOW:Hid (kf<W1.heap.size/\kd<W1.heap.size/\kr<W1.heap.size/\ko<W1.heap.size):=Lib.hid ⟨lt_of_block HBf.out,lt_of_block HBd.out,lt_of_block HBr.out,lt_of_block HBo.out⟩;have HDIS:Hid (kf≠ko/\kd≠ko/\kr≠ko):=Lib.hid (by have h1:=lt_of_block HBfp.out;have h2:=lt_of_block HBdp.out;have h3:=lt_of_block HBrp.out;rw[eko] at h1 h2 h3;omega);have HB0:Hid (w.heap.size<=W1.heap.size):=Lib.hid HW.out.size;have hjc:j=0\/j=1\/j=2\/j=3:=by omega
 rcases hjc with rfl | rfl | rfl | rfl
 ·have hop2:op=8:=HOP.out;subst hop2;clear HOP;have HSZP:Hid (W1.heap.size<=W1.heap.size):=Lib.hid (Nat.le_refl _);rcases (tmod_cases xnm.size).2 with hr | hr
  ·have o0:=cell_at (v:=.int .i64 8) HBo.out 0 rfl;have fo0:=froz_at HBo.out 0;have o1:=cell_at (v:=.bool false) HBo.out 1 rfl;have fo1:=froz_at HBo.out 1;have o2:=cell_at (v:=.slice none 0 0) HBo.out 2 rfl;have fo2:=froz_at HBo.out 2;have o3:=cell_at (v:=.string ⟨#[]⟩) HBo.out 3 rfl;have fo3:=froz_at HBo.out 3;have o4:=cell_at (v:=.slice none 0 0) HBo.out 4 rfl;have fo4:=froz_at HBo.out 4;have m0:=cell_at (v:=.bool zb) HBm.out 0 rfl;have fm0:=froz_at HBm.out 0;have m1:=cell_at (v:=.slice zo zl zc) HBm.out 1 rfl;have fm1:=froz_at HBm.out 1;have f0:=cell_at (v:=.int .i64 xo) HBf.out 0 rfl;have ff0:=froz_at HBf.out 0;have f1:=cell_at (v:=.bool xb) HBf.out 1 rfl;have ff1:=froz_at HBf.out 1;have f2:=cell_at (v:=.slice xao xl xc) HBf.out 2 rfl;have ff2:=froz_at HBf.out 2;have f3:=cell_at (v:=.string xnm) HBf.out 3 rfl
   have ff3:=froz_at HBf.out 3;have f4:=cell_at (v:=.slice xko xkl xkc) HBf.out 4 rfl;have ff4:=froz_at HBf.out 4;have hcv:=one_byteL 48 48 (by decide) W1;obtain⟨x9,ky,ey,eky,hby,hky,HBy⟩:=newV W1 #[.int .u8 48] 5;replace HBf:=kBV hby.out HBf;replace HBd:=kBV hby.out HBd;replace HBr:=kBV hby.out HBr;replace HBo:=kBV hby.out HBo;replace HBm:=kBV hby.out HBm;replace HW:=Lib.hid (HW.out.trans (hby.out.mono HW.out.size));replace HC:=Lib.hid (HC.out.below hby.out);rw[ey,eky] at hcv;have p0:=cell_at (v:=.int .i64 8) HBo.out 0 rfl;have fp0:=froz_at HBo.out 0;have p1:=cell_at (v:=.bool false) HBo.out 1 rfl;have fp1:=froz_at HBo.out 1;have p2:=cell_at (v:=.slice none 0 0) HBo.out 2 rfl;have fp2:=froz_at HBo.out 2;have p3:=cell_at (v:=.string ⟨#[]⟩) HBo.out 3 rfl;have fp3:=froz_at HBo.out 3
   have p4:=cell_at (v:=.slice none 0 0) HBo.out 4 rfl;have fp4:=froz_at HBo.out 4;replace HSZP:=Lib.hid (Nat.le_trans HSZP.out hby.out.size);go_upto_region 21 with fail
   clear o0 fo0 o1 fo1 o2 fo2 o3 fo3 o4 fo4 m0 fm0 m1 fm1 f0 ff0 f1 ff1 f2 ff2 f3 ff3 f4 ff4 p0 fp0 p1 fp1 p2 fp2 p3 fp3 p4 fp4
   try clear hcv
   try clear hr
   rw[show ((⟨#[108]⟩:ByteArray)++⟨#[48]⟩)=⟨#[108,48]⟩ from rfl];have hgo:x9.grownBy (x9.setCell ⟨ko,3,none⟩ (.string ⟨#[108,48]⟩)) (some ko):=by refine grown_setCell ?_ _;exact World.grownBy.refl _ _
   have hbo:(x9.setCell ⟨ko,3,none⟩ (.string ⟨#[108,48]⟩)).heap[ko]?=_:=(heap_setCell_same _ ko 3 _ _ (.string ⟨#[108,48]⟩) HBo.out)
   obtain⟨W2,hW2⟩:∃ q,q=x9.setCell ⟨ko,3,none⟩ (.string ⟨#[108,48]⟩):=⟨_,rfl⟩
   rw[<-hW2] at hgo hbo ⊢;have hfo:Fr 29 x9 W2:=.of_grown hgo (fun j hj=>by injection hj with hj;subst hj;exact⟨_,HBo.out,n32_F⟩);replace HW:=Lib.hid (ext_below HW.out hgo HKO.out);replace HC:=Lib.hid (HC.out.fr hfo);replace HBf:=Lib.hid ((hgo.block _ (lt_of_block HBf.out) (fun e=>by injection e with e;exact HDIS.out.1 e)).trans HBf.out);replace HBd:=Lib.hid ((hgo.block _ (lt_of_block HBd.out) (fun e=>by injection e with e;exact HDIS.out.2.1 e)).trans HBd.out);replace HBr:=Lib.hid ((hgo.block _ (lt_of_block HBr.out) (fun e=>by injection e with e;exact HDIS.out.2.2 e)).trans HBr.out);have HSZW:Hid (W1.heap.size<=W2.heap.size):=Lib.hid (Nat.le_trans HSZP.out hgo.size);replace HBo:=Lib.hid hbo;clear hgo hbo hW2 hfo HSZP;have HSZP:=HSZW;clear HSZW
   have HT:Hid (TSt w W1.heap.size kf kd kr ko ⟨xo,xb,xao,xl,xc,xnm,xko,xkl,xkc⟩ ((d:Nat)+1) 8 false none 0 0 (⟨#[108,48]⟩) (0) d [] (.slice none 0 0) [] W2):=Lib.hid (TSt.zero HBo.out HBf.out HBd.out HBr.out (nr0 _) HLOW.out HDIS.out HKO.out HW.out HSZP.out);have o0:=cell_at (v:=.int .i64 8) HBo.out 0 rfl;have fo0:=froz_at HBo.out 0;have o1:=cell_at (v:=.bool false) HBo.out 1 rfl;have fo1:=froz_at HBo.out 1;have o2:=cell_at (v:=.slice none 0 0) HBo.out 2 rfl;have fo2:=froz_at HBo.out 2;have o3:=cell_at (v:=.string ⟨#[108,48]⟩) HBo.out 3 rfl;have fo3:=froz_at HBo.out 3;have o4:=cell_at (v:=.slice none 0 0) HBo.out 4 rfl;have fo4:=froz_at HBo.out 4;obtain⟨⟨r0,r1,r2,r3,r4⟩,fr0,fr1,fr2,fr3,fr4⟩:=cells5V HBr.out;go_wp2_with fail
   clear o0 fo0 o1 fo1 o2 fo2 o3 fo3 o4 fo4;have hg:=grown5V (w:=W2) (k:=kr) (.int .i64 8) (.bool false) (.slice none 0 0) (.string ⟨#[108,48]⟩) (.slice none 0 0);have hf:Fr 29 W2 _:=.of_grown hg (fun j hj=>by injection hj with hj;subst hj;exact⟨_,HBr.out,n32_F⟩);obtain⟨h1,h2,h3,h4⟩:=HT.out.fin hg hf (by unfold IR;decide) HB0.out HKR.out (by unfold NmOk;simp) (small4 (by decide)) (fun _ _ _=>rfl) (by simp) (rfl)
   (try simp only[Exit.inBlock,Exit.then])
   exact bodyPost_ret (v:=.agg #[.int .i64 8,.bool false,.slice none 0 0,.string ⟨#[108,48]⟩,.slice none 0 0]) (by simp[results,Try.results7,go_sem,r0,r1,r2,r3,r4]) rfl ⟨_,_,rfl,h1,h2,rfl,h3,h4⟩
  have o0:=cell_at (v:=.int .i64 8) HBo.out 0 rfl;have fo0:=froz_at HBo.out 0;have o1:=cell_at (v:=.bool false) HBo.out 1 rfl;have fo1:=froz_at HBo.out 1;have o2:=cell_at (v:=.slice none 0 0) HBo.out 2 rfl;have fo2:=froz_at HBo.out 2;have o3:=cell_at (v:=.string ⟨#[]⟩) HBo.out 3 rfl;have fo3:=froz_at HBo.out 3;have o4:=cell_at (v:=.slice none 0 0) HBo.out 4 rfl;have fo4:=froz_at HBo.out 4;have m0:=cell_at (v:=.bool zb) HBm.out 0 rfl;have fm0:=froz_at HBm.out 0;have m1:=cell_at (v:=.slice zo zl zc) HBm.out 1 rfl;have fm1:=froz_at HBm.out 1;have f0:=cell_at (v:=.int .i64 xo) HBf.out 0 rfl;have ff0:=froz_at HBf.out 0;have f1:=cell_at (v:=.bool xb) HBf.out 1 rfl;have ff1:=froz_at HBf.out 1;have f2:=cell_at (v:=.slice xao xl xc) HBf.out 2 rfl;have ff2:=froz_at HBf.out 2;have f3:=cell_at (v:=.string xnm) HBf.out 3 rfl
  have ff3:=froz_at HBf.out 3;have f4:=cell_at (v:=.slice xko xkl xkc) HBf.out 4 rfl;have ff4:=froz_at HBf.out 4;have hcv:=one_byteL 49 49 (by decide) W1;obtain⟨x9,ky,ey,eky,hby,hky,HBy⟩:=newV W1 #[.int .u8 49] 5;replace HBf:=kBV hby.out HBf;replace HBd:=kBV hby.out HBd;replace HBr:=kBV hby.out HBr;replace HBo:=kBV hby.out HBo;replace HBm:=kBV hby.out HBm;replace HW:=Lib.hid (HW.out.trans (hby.out.mono HW.out.size));replace HC:=Lib.hid (HC.out.below hby.out);rw[ey,eky] at hcv;have p0:=cell_at (v:=.int .i64 8) HBo.out 0 rfl;have fp0:=froz_at HBo.out 0;have p1:=cell_at (v:=.bool false) HBo.out 1 rfl;have fp1:=froz_at HBo.out 1;have p2:=cell_at (v:=.slice none 0 0) HBo.out 2 rfl;have fp2:=froz_at HBo.out 2;have p3:=cell_at (v:=.string ⟨#[]⟩) HBo.out 3 rfl;have fp3:=froz_at HBo.out 3
  have p4:=cell_at (v:=.slice none 0 0) HBo.out 4 rfl;have fp4:=froz_at HBo.out 4;replace HSZP:=Lib.hid (Nat.le_trans HSZP.out hby.out.size);go_upto_region 21 with fail
  clear o0 fo0 o1 fo1 o2 fo2 o3 fo3 o4 fo4 m0 fm0 m1 fm1 f0 ff0 f1 ff1 f2 ff2 f3 ff3 f4 ff4 p0 fp0 p1 fp1 p2 fp2 p3 fp3 p4 fp4
  try clear hcv
  try clear hr
  rw[show ((⟨#[108]⟩:ByteArray)++⟨#[49]⟩)=⟨#[108,49]⟩ from rfl];have hgo:x9.grownBy (x9.setCell ⟨ko,3,none⟩ (.string ⟨#[108,49]⟩)) (some ko):=by refine grown_setCell ?_ _;exact World.grownBy.refl _ _
  have hbo:(x9.setCell ⟨ko,3,none⟩ (.string ⟨#[108,49]⟩)).heap[ko]?=_:=(heap_setCell_same _ ko 3 _ _ (.string ⟨#[108,49]⟩) HBo.out)
  obtain⟨W2,hW2⟩:∃ q,q=x9.setCell ⟨ko,3,none⟩ (.string ⟨#[108,49]⟩):=⟨_,rfl⟩
  rw[<-hW2] at hgo hbo ⊢;have hfo:Fr 29 x9 W2:=.of_grown hgo (fun j hj=>by injection hj with hj;subst hj;exact⟨_,HBo.out,n32_F⟩);replace HW:=Lib.hid (ext_below HW.out hgo HKO.out);replace HC:=Lib.hid (HC.out.fr hfo);replace HBf:=Lib.hid ((hgo.block _ (lt_of_block HBf.out) (fun e=>by injection e with e;exact HDIS.out.1 e)).trans HBf.out);replace HBd:=Lib.hid ((hgo.block _ (lt_of_block HBd.out) (fun e=>by injection e with e;exact HDIS.out.2.1 e)).trans HBd.out);replace HBr:=Lib.hid ((hgo.block _ (lt_of_block HBr.out) (fun e=>by injection e with e;exact HDIS.out.2.2 e)).trans HBr.out);have HSZW:Hid (W1.heap.size<=W2.heap.size):=Lib.hid (Nat.le_trans HSZP.out hgo.size);replace HBo:=Lib.hid hbo;clear hgo hbo hW2 hfo HSZP;have HSZP:=HSZW;clear HSZW
  have HT:Hid (TSt w W1.heap.size kf kd kr ko ⟨xo,xb,xao,xl,xc,xnm,xko,xkl,xkc⟩ ((d:Nat)+1) 8 false none 0 0 (⟨#[108,49]⟩) (0) d [] (.slice none 0 0) [] W2):=Lib.hid (TSt.zero HBo.out HBf.out HBd.out HBr.out (nr0 _) HLOW.out HDIS.out HKO.out HW.out HSZP.out);have o0:=cell_at (v:=.int .i64 8) HBo.out 0 rfl;have fo0:=froz_at HBo.out 0;have o1:=cell_at (v:=.bool false) HBo.out 1 rfl;have fo1:=froz_at HBo.out 1;have o2:=cell_at (v:=.slice none 0 0) HBo.out 2 rfl;have fo2:=froz_at HBo.out 2;have o3:=cell_at (v:=.string ⟨#[108,49]⟩) HBo.out 3 rfl;have fo3:=froz_at HBo.out 3;have o4:=cell_at (v:=.slice none 0 0) HBo.out 4 rfl;have fo4:=froz_at HBo.out 4;obtain⟨⟨r0,r1,r2,r3,r4⟩,fr0,fr1,fr2,fr3,fr4⟩:=cells5V HBr.out;go_wp2_with fail
  clear o0 fo0 o1 fo1 o2 fo2 o3 fo3 o4 fo4;have hg:=grown5V (w:=W2) (k:=kr) (.int .i64 8) (.bool false) (.slice none 0 0) (.string ⟨#[108,49]⟩) (.slice none 0 0);have hf:Fr 29 W2 _:=.of_grown hg (fun j hj=>by injection hj with hj;subst hj;exact⟨_,HBr.out,n32_F⟩);obtain⟨h1,h2,h3,h4⟩:=HT.out.fin hg hf (by unfold IR;decide) HB0.out HKR.out (by unfold NmOk;simp) (small4 (by decide)) (fun _ _ _=>rfl) (by simp) (rfl)
  (try simp only[Exit.inBlock,Exit.then])
  exact bodyPost_ret (v:=.agg #[.int .i64 8,.bool false,.slice none 0 0,.string ⟨#[108,49]⟩,.slice none 0 0]) (by simp[results,Try.results7,go_sem,r0,r1,r2,r3,r4]) rfl ⟨_,_,rfl,h1,h2,rfl,h3,h4⟩
 ·have hop2:op=9:=HOP.out;subst hop2;clear HOP;have HSZP:Hid (W1.heap.size<=W1.heap.size):=Lib.hid (Nat.le_refl _);have HT:Hid (TSt w W1.heap.size kf kd kr ko ⟨xo,xb,xao,xl,xc,xnm,xko,xkl,xkc⟩ ((d:Nat)+1) 9 false none 0 0 (⟨#[]⟩) (0) d [] (.slice none 0 0) [] W1):=Lib.hid (TSt.zero HBo.out HBf.out HBd.out HBr.out (nr0 _) HLOW.out HDIS.out HKO.out HW.out HSZP.out);have o0:=cell_at (v:=.int .i64 9) HBo.out 0 rfl;have fo0:=froz_at HBo.out 0;have o1:=cell_at (v:=.bool false) HBo.out 1 rfl;have fo1:=froz_at HBo.out 1;have o2:=cell_at (v:=.slice none 0 0) HBo.out 2 rfl;have fo2:=froz_at HBo.out 2;have o3:=cell_at (v:=.string ⟨#[]⟩) HBo.out 3 rfl;have fo3:=froz_at HBo.out 3;have o4:=cell_at (v:=.slice none 0 0) HBo.out 4 rfl;have fo4:=froz_at HBo.out 4;obtain⟨⟨r0,r1,r2,r3,r4⟩,fr0,fr1,fr2,fr3,fr4⟩:=cells5V HBr.out
  go_wp2_with fail
  clear o0 fo0 o1 fo1 o2 fo2 o3 fo3 o4 fo4;have hg:=grown5V (w:=W1) (k:=kr) (.int .i64 9) (.bool false) (.slice none 0 0) (.string ⟨#[]⟩) (.slice none 0 0);have hf:Fr 29 W1 _:=.of_grown hg (fun j hj=>by injection hj with hj;subst hj;exact⟨_,HBr.out,n32_F⟩);obtain⟨h1,h2,h3,h4⟩:=HT.out.fin hg hf (by unfold IR;decide) HB0.out HKR.out (by unfold NmOk;simp) (small4 (by decide)) (fun _ _ _=>rfl) (by simp) (rfl)
  (try simp only[Exit.inBlock,Exit.then])
  exact bodyPost_ret (v:=.agg #[.int .i64 9,.bool false,.slice none 0 0,.string ⟨#[]⟩,.slice none 0 0]) (by simp[results,Try.results7,go_sem,r0,r1,r2,r3,r4]) rfl ⟨_,_,rfl,h1,h2,rfl,h3,h4⟩
 ·have hop2:op=10:=HOP.out;subst hop2;clear HOP;have HSZP:Hid (W1.heap.size<=W1.heap.size):=Lib.hid (Nat.le_refl _);have HT:Hid (TSt w W1.heap.size kf kd kr ko ⟨xo,xb,xao,xl,xc,xnm,xko,xkl,xkc⟩ ((d:Nat)+1) 10 false none 0 0 (⟨#[]⟩) (0) d [] (.slice none 0 0) [] W1):=Lib.hid (TSt.zero HBo.out HBf.out HBd.out HBr.out (nr0 _) HLOW.out HDIS.out HKO.out HW.out HSZP.out);clear HBm;have HKB:Hid (W1.heap.size<=W1.heap.size):=Lib.hid (Nat.le_refl _);have o0:=cell_at (v:=.int .i64 10) HBo.out 0 rfl;have fo0:=froz_at HBo.out 0;have o1:=cell_at (v:=.bool false) HBo.out 1 rfl;have fo1:=froz_at HBo.out 1;have o2:=cell_at (v:=.slice none 0 0) HBo.out 2 rfl;have fo2:=froz_at HBo.out 2;have o3:=cell_at (v:=.string ⟨#[]⟩) HBo.out 3 rfl;have fo3:=froz_at HBo.out 3;have o4:=cell_at (v:=.slice none 0 0) HBo.out 4 rfl;have fo4:=froz_at HBo.out 4
  go_wp2_with fail
  clear o0 fo0 o1 fo1 o2 fo2 o3 fo3 o4 fo4;refine (kid_p d HD.out HIT.out w W1 W1.heap.size kf kd kr ko ⟨xo,xb,xao,xl,xc,xnm,xko,xkl,xkc⟩ HX.out 10 false none 0 0 ⟨#[]⟩ (0) [] _ [] 0 0 (by decide) (by decide) HT.out (by rw[HT.out.len];simp)).mono ?_;rintro e X1 ⟨⟨q0,rfl⟩,t0,v0,us0,hs,ht⟩;replace HT:=Lib.hid ht;have HS0:=Lib.hid hs;clear hs ht;go_wp2_with fail
  refine (kid_p d HD.out HIT.out w X1 W1.heap.size kf kd kr ko ⟨xo,xb,xao,xl,xc,xnm,xko,xkl,xkc⟩ HX.out 10 false none 0 0 ⟨#[]⟩ (0) ([]++[t0]) _ us0 1 2 (by decide) (by decide) HT.out (by rw[HT.out.len];simp)).mono ?_;rintro e X2 ⟨⟨q1,rfl⟩,t1,v1,us1,hs,ht⟩;replace HT:=Lib.hid ht;have HS1:=Lib.hid hs;clear hs ht;obtain⟨vo,vc,hv,-⟩:=HT.out.row.form;subst hv;obtain⟨N,hN⟩:∃ N,N=us1.length:=⟨_,rfl⟩
  rw[<-hN] at HT;clear hN;replace HBo:=Lib.hid HT.out.ho;replace HBr:=Lib.hid HT.out.hr;have o0:=cell_at (v:=.int .i64 10) HBo.out 0 rfl;have fo0:=froz_at HBo.out 0;have o1:=cell_at (v:=.bool false) HBo.out 1 rfl;have fo1:=froz_at HBo.out 1;have o2:=cell_at (v:=.slice none 0 0) HBo.out 2 rfl;have fo2:=froz_at HBo.out 2;have o3:=cell_at (v:=.string ⟨#[]⟩) HBo.out 3 rfl;have fo3:=froz_at HBo.out 3;have o4:=cell_at (v:=.slice vo N vc) HBo.out 4 rfl;have fo4:=froz_at HBo.out 4;obtain⟨⟨r0,r1,r2,r3,r4⟩,fr0,fr1,fr2,fr3,fr4⟩:=cells5V HBr.out;go_wp2_with fail
  clear o0 fo0 o1 fo1 o2 fo2 o3 fo3 o4 fo4;have hg:=grown5V (w:=X2) (k:=kr) (.int .i64 10) (.bool false) (.slice none 0 0) (.string ⟨#[]⟩) (.slice vo N vc);have hf:Fr 29 X2 _:=.of_grown hg (fun j hj=>by injection hj with hj;subst hj;exact⟨_,HBr.out,n32_F⟩);obtain⟨h1,h2,h3,h4⟩:=HT.out.fin hg hf (by unfold IR;decide) HB0.out HKR.out (by unfold NmOk;simp) (small4 (by decide)) (fun _ _ _=>rfl) (by simp) (by simp[fitF,kidsOk,srts,HS0.out,HS1.out])
  (try simp only[Exit.inBlock,Exit.then])
  exact bodyPost_ret (v:=.agg #[.int .i64 10,.bool false,.slice none 0 0,.string ⟨#[]⟩,.slice vo N vc]) (by simp[results,Try.results7,go_sem,r0,r1,r2,r3,r4]) rfl ⟨_,_,rfl,h1,h2,rfl,h3,h4⟩
 have hop2:op=11:=HOP.out;subst hop2;clear HOP;have HSZP:Hid (W1.heap.size<=W1.heap.size):=Lib.hid (Nat.le_refl _);have HT:Hid (TSt w W1.heap.size kf kd kr ko ⟨xo,xb,xao,xl,xc,xnm,xko,xkl,xkc⟩ ((d:Nat)+1) 11 false none 0 0 (⟨#[]⟩) (0) d [] (.slice none 0 0) [] W1):=Lib.hid (TSt.zero HBo.out HBf.out HBd.out HBr.out (nr0 _) HLOW.out HDIS.out HKO.out HW.out HSZP.out);clear HBm;have HKB:Hid (W1.heap.size<=W1.heap.size):=Lib.hid (Nat.le_refl _);have o0:=cell_at (v:=.int .i64 11) HBo.out 0 rfl;have fo0:=froz_at HBo.out 0;have o1:=cell_at (v:=.bool false) HBo.out 1 rfl;have fo1:=froz_at HBo.out 1;have o2:=cell_at (v:=.slice none 0 0) HBo.out 2 rfl;have fo2:=froz_at HBo.out 2;have o3:=cell_at (v:=.string ⟨#[]⟩) HBo.out 3 rfl;have fo3:=froz_at HBo.out 3;have o4:=cell_at (v:=.slice none 0 0) HBo.out 4 rfl;have fo4:=froz_at HBo.out 4
 go_wp2_with fail
 clear o0 fo0 o1 fo1 o2 fo2 o3 fo3 o4 fo4;refine (kid_p d HD.out HIT.out w W1 W1.heap.size kf kd kr ko ⟨xo,xb,xao,xl,xc,xnm,xko,xkl,xkc⟩ HX.out 11 false none 0 0 ⟨#[]⟩ (0) [] _ [] 0 2 (by decide) (by decide) HT.out (by rw[HT.out.len];simp)).mono ?_;rintro e X1 ⟨⟨q0,rfl⟩,t0,v0,us0,hs,ht⟩;replace HT:=Lib.hid ht;have HS0:=Lib.hid hs;clear hs ht;obtain⟨vo,vc,hv,-⟩:=HT.out.row.form;subst hv;obtain⟨N,hN⟩:∃ N,N=us0.length:=⟨_,rfl⟩
 rw[<-hN] at HT;clear hN;replace HBo:=Lib.hid HT.out.ho;replace HBr:=Lib.hid HT.out.hr;have o0:=cell_at (v:=.int .i64 11) HBo.out 0 rfl;have fo0:=froz_at HBo.out 0;have o1:=cell_at (v:=.bool false) HBo.out 1 rfl;have fo1:=froz_at HBo.out 1;have o2:=cell_at (v:=.slice none 0 0) HBo.out 2 rfl;have fo2:=froz_at HBo.out 2;have o3:=cell_at (v:=.string ⟨#[]⟩) HBo.out 3 rfl;have fo3:=froz_at HBo.out 3;have o4:=cell_at (v:=.slice vo N vc) HBo.out 4 rfl;have fo4:=froz_at HBo.out 4;obtain⟨⟨r0,r1,r2,r3,r4⟩,fr0,fr1,fr2,fr3,fr4⟩:=cells5V HBr.out;go_wp2_with fail
 clear o0 fo0 o1 fo1 o2 fo2 o3 fo3 o4 fo4;have hg:=grown5V (w:=X1) (k:=kr) (.int .i64 11) (.bool false) (.slice none 0 0) (.string ⟨#[]⟩) (.slice vo N vc);have hf:Fr 29 X1 _:=.of_grown hg (fun j hj=>by injection hj with hj;subst hj;exact⟨_,HBr.out,n32_F⟩);obtain⟨h1,h2,h3,h4⟩:=HT.out.fin hg hf (by unfold IR;decide) HB0.out HKR.out (by unfold NmOk;simp) (small4 (by decide)) (fun _ _ _=>rfl) (by simp) (by simp[fitF,kidsOk,srts,HS0.out])
 (try simp only[Exit.inBlock,Exit.then])
 exact bodyPost_ret (v:=.agg #[.int .i64 11,.bool false,.slice none 0 0,.string ⟨#[]⟩,.slice vo N vc]) (by simp[results,Try.results7,go_sem,r0,r1,r2,r3,r4]) rfl ⟨_,_,rfl,h1,h2,rfl,h3,h4⟩
theorem tame_one:TameC 1:=by
 intro s o b ao l c nm ko kl kc w hs h;rcases hs with rfl | rfl | rfl
 ·exact tame_0z o b ao l c nm ko kl kc w h
 ·exact tame_1z o b ao l c nm ko kl kc w h
 exact tame_2z o b ao l c nm ko kl kc w h
theorem tame_more (d:Nat) (h1:1<=d) (h2:d<=100) (IT:TameC d):TameC (d+1):=by
 intro s o b ao l c nm ko kl kc w hs h;rw[show ((d+1:Nat):Int)=(d:Int)+1 from Int.natCast_succ d];rcases hs with rfl | rfl | rfl
 ·exact tame_0s d h1 h2 IT o b ao l c nm ko kl kc w h
 ·exact tame_1s d h1 h2 IT o b ao l c nm ko kl kc w h
 exact tame_2s d h1 h2 IT o b ao l c nm ko kl kc w h
theorem tameF:∀ d:Nat,d<=100->TameC (d+1)
 | 0,_=>tame_one
 | d+1,h=>tame_more (d+1) (Nat.succ_le_succ (Nat.zero_le d)) h (tameF d (by omega))
end Go.Proofs.Ytdkfnbbebpbhaaa
namespace Go.Proofs.Ytdkfnbbebpbhaaa
open Go.ChangeShapes Go.WideShapes Go.ChangeAt Go.RowKit
set_option linter.unusedVariables false
set_option maxRecDepth 100000
theorem own:ownKnob Try.prog.godebug=none:=by kernel_rfl
theorem laidOut:laidOutB Try.prog=true:=by kernel_rfl
theorem sl_of_ints {w:World} {a:Addr} {len cap:Nat} {zs:List Int} (hl:len<=cap) (hm:cap<=maxLen) (hz:len<=zs.length)
  (hcell:∀ i,i<zs.length->w.cell? (a.add i)=some (.int .u32 (zs.getD i 0))) (hwf:∀ n ∈ zs,(Lit.int .u32 n).wf=true) :
  ∃ xs,Sl w .u32 (.slice (some a) len cap) xs/\Dig 4294967296 xs:=by
 have hb:∀ n ∈ zs,0<=n/\n<4294967296:=fun n hn=>by
  have:=hwf n hn
  simp[Lit.wf,IntKind.min,IntKind.max,IntKind.bits,IntKind.signed] at this
  omega
 refine⟨(zs.take len).map Int.toNat,⟨some a,cap,?_,?_,by unfold maxLen at hm;omega,(fun e=>by cases e),fun i hi=>⟨a,rfl,?_⟩⟩,?_⟩
 ·rw[List.length_map,List.length_take,Nat.min_eq_left hz]
 ·rw[List.length_map,List.length_take,Nat.min_eq_left hz];exact hl
 ·rw[List.length_map,List.length_take,Nat.min_eq_left hz] at hi;have hi':i<zs.length:=by omega
  rw[hcell i hi'];have:=hb zs[i] (List.getElem_mem hi');unfold nth
  simp[List.getD,hi,hi']
  omega
 intro x hx;obtain⟨n,hn,rfl⟩:=List.mem_map.1 hx;have:=hb n (List.mem_of_mem_take hn)
 omega
theorem cellsVal:Try.prog.cellsOf 41=5:=by kernel_rfl
theorem cellsBaseV:Try.prog.cellsOf 32=1:=by kernel_rfl
theorem cellsIntV:Try.prog.cellsOf 26=2:=by kernel_rfl
theorem cellsIntsV:Try.prog.cellsOf 39=1:=by kernel_rfl
theorem cellsBoolV:Try.prog.cellsOf 4=1:=by kernel_rfl
theorem cellsNatV:Try.prog.cellsOf 24=1:=by kernel_rfl
theorem limb_openV {H:Type} {enc:TypeId × Value->H} {W:World} {fuel:Nat} {c:Value} {y:DataW H × List MemPlace}
  (h:DataW.trod enc Try.prog W 0 (fun _=>true) true fuel 24 [c]=some y):∃ ao n q,c=.slice ao n q/\RNum W (.slice ao n q):=by
 rcases open_ints Try.underlying24 Try.underlying95 (by kernel_rfl) h with ⟨hcs,_⟩ | ⟨x,l,c',zs,hcs,_,hl,hm,hz,_,hcell,hwz⟩
 ·simp at hcs
  subst hcs;exact⟨none,0,0,rfl,[],Sl.nil _ _,fun x hx=>by cases hx⟩
 simp at hcs
 subst hcs;obtain⟨xs,hs,hd⟩:=sl_of_ints hl hm (by rw[hz];split<;>omega) hcell hwz;exact⟨_,_,_,rfl,xs,hs,hd⟩
theorem int_rangeV {z:Int} (h:(Lit.int .i64 z).wf=true) : -9223372036854775808<=z/\z<=9223372036854775807:=by
 simp[Lit.wf,IntKind.min,IntKind.max,IntKind.bits,IntKind.signed] at h
 omega
theorem int_openV {H:Type} {enc:TypeId × Value->H} {W:World} {fuel:Nat} {cs:List Value} {y:DataW H × List MemPlace} (h:DataW.trod enc Try.prog W 0 (fun _=>true) true fuel 26 cs=some y) :
  ∃ b o l c,cs=[.bool b,.slice o l c]/\RNum W (.slice o l c):=by
 obtain⟨xs,m,-,-,hl2,hyl2,hf2⟩:=DataW.trod_struct Try.underlying26 h;rw[cellsIntV] at hl2
 match cs,hl2 with
 | [c0,c1],_ =>
  match xs,hyl2 with
  | [u0,u1],_ =>
   have q0:=hf2 0 _ rfl;have q1:=hf2 1 _ rfl
   simp[cellsBoolV] at q0
   simp[cellsNatV] at q1
   obtain⟨b,eb,-⟩:=DataW.trod_bool Try.underlying4 q0;obtain⟨ao,ln,lc,rfl,hs⟩:=limb_openV q1
   simp at eb
   subst eb;exact⟨_,_,_,_,rfl,hs⟩
theorem ints_openV {H:Type} {enc:TypeId × Value->H} {W:World} {fuel:Nat} {c:Value} {y:DataW H × List MemPlace}
  (h:DataW.trod enc Try.prog W 0 (fun _=>true) true fuel 39 [c]=some y):∃ o n q,c=.slice o n q/\RInts W o n q:=by
 rcases Go.Deep.open_slice Try.underlying39 h with ⟨hcs,-⟩ | ⟨a,len,cap,mm,n',D,Pl,hcs,-,hle,hm,hmm,-,hi⟩
 ·simp at hcs
  subst hcs;exact⟨none,0,0,rfl,⟨Nat.le_refl _,Nat.zero_le _⟩,fun i hi=>absurd hi (Nat.not_lt_zero _)⟩
 simp at hcs
 subst hcs;refine⟨_,_,_,rfl,⟨hle,hm⟩,fun i hilt=>?_⟩;obtain⟨cs',hc,ht'⟩:=hi i (by simp only[if_true] at hmm;omega);rw[cellsIntV] at hc;obtain⟨_,hcl,hat⟩:=World.cells?_some hc;obtain⟨b,o,l,c,rfl,hr⟩:=int_openV ht';exact⟨a,b,o,l,c,rfl,(hat 0 (by decide)),(hat 1 (by decide)),hr⟩
theorem val_openV {H:Type} {enc:TypeId × Value->H} {W:World} {fuel:Nat} {cs:List Value} {y:DataW H × List MemPlace} (h:DataW.trod enc Try.prog W 0 (fun _=>true) true fuel 41 cs=some y) :
  ∃ k b o l c d p m q,cs=[.int .i64 k,.bool b,.slice o l c,.bool d,.slice p m q]/\(-9223372036854775808<=k/\k<=9223372036854775807)/\RNum W (.slice o l c)/\RInts W p m q:=by
 obtain⟨ys,n,-,-,hlen,hyl,hf⟩:=DataW.trod_struct Try.underlying41 h;rw[cellsVal] at hlen
 match cs,hlen with
 | [c0,c1,c2,c3,c4],_ =>
  match ys,hyl with
  | [y0,y1,y2,y3],_ =>
   have g0:=hf 0 _ rfl;have g1:=hf 1 _ rfl;have g2:=hf 2 _ rfl;have g3:=hf 3 _ rfl
   simp[cellsBaseV] at g0
   simp[cellsIntV] at g1
   simp[cellsBoolV] at g2
   simp[cellsIntsV] at g3
   obtain⟨k,e0,-,w0⟩:=DataW.trod_int Try.underlying32 g0;obtain⟨b,o,l,c,e1,hn⟩:=int_openV g1;obtain⟨d,e2,-⟩:=DataW.trod_bool Try.underlying4 g2;obtain⟨p,m,q,e3,hi⟩:=ints_openV g3
   simp at e0 e1 e2
   obtain⟨e1a,e1b⟩:=e1;subst e0 e1a e1b e2 e3;exact⟨_,_,_,_,_,_,_,_,_,rfl,int_rangeV w0,hn,hi⟩
theorem open_vals {H:Type} {enc:TypeId × Value->H} {W:World} {base:Nat} {r:Reach} {v:Value} {d:DataW H} {p:List MemPlace}
  (hv:Value.okWide Try.prog W r base 30 v) (h:DataW.Trod enc Try.prog W 0 (fun _=>true) true 30 v d p):∃ ko n kc,v=.slice ko n kc/\RVals W ko n kc:=by
 obtain⟨a0,len0,cap0,rfl⟩:=okWide_slice Try.underlying30 hv;obtain⟨fuel,hf⟩:=h;refine⟨_,_,_,rfl,?_⟩;rcases Go.Deep.open_slice Try.underlying30 hf with ⟨hcs,-⟩ | ⟨a,len,cap,mm,n',D,Pl,hcs,-,hle,hm,hmm,-,hi⟩
 ·simp[Value.cells] at hcs
  obtain⟨rfl,rfl,rfl⟩:=hcs;exact⟨⟨Nat.le_refl _,Nat.zero_le _⟩,fun i hi=>absurd hi (Nat.not_lt_zero _)⟩
 simp[Value.cells] at hcs
 obtain⟨rfl,rfl,rfl⟩:=hcs;refine⟨⟨hle,hm⟩,fun i hilt=>?_⟩;obtain⟨cs',hc,ht'⟩:=hi i (by simp only[if_true] at hmm;omega);rw[cellsVal] at hc;obtain⟨_,hcl,hat⟩:=World.cells?_some hc;obtain⟨k,b,o,l,c,d,p,m,q,rfl,h1,h2,h3⟩:=val_openV ht';exact⟨a,k,b,o,l,c,d,p,m,q,rfl,⟨hat 0 (by decide),hat 1 (by decide),hat 2 (by decide),hat 3 (by decide),hat 4 (by decide)⟩,h1,h2,h3⟩
theorem cellsForm:Try.prog.cellsOf 29=5:=by kernel_rfl
theorem cellsOpF:Try.prog.cellsOf 22=1:=by kernel_rfl
theorem cellsStrF:Try.prog.cellsOf 9=1:=by kernel_rfl
theorem cellsForms:Try.prog.cellsOf 27=1:=by kernel_rfl
theorem form_fields {H:Type} {enc:TypeId × Value->H} {W:World} {fuel:Nat} {cs:List Value} {y:DataW H × List MemPlace} (h:DataW.trod enc Try.prog W 0 (fun _=>true) true fuel 29 cs=some y) :
  ∃ x:RU,cs=rC x/\IR x.o/\RNum W (.slice x.ao x.l x.c)/\x.nm.size<=9223372036854775807/\(x.kl<=x.kc/\x.kc<=maxLen) /\
   ∀ i,i<x.kl->∃ cs' n' y',AtF 5 W x.ko i cs'/\DataW.trod enc Try.prog W 0 (fun _=>true) true n' 29 cs'=some y':=by
 obtain⟨ys,n,-,-,hlen,hyl,hf⟩:=DataW.trod_struct Try.underlying29 h;rw[cellsForm] at hlen
 match cs,hlen with
 | [c0,c1,c2,c3,c4],_ =>
  match ys,hyl with
  | [y0,y1,y2,y3],_ =>
   have g0:=hf 0 _ rfl;have g1:=hf 1 _ rfl;have g2:=hf 2 _ rfl;have g3:=hf 3 _ rfl
   simp[cellsOpF] at g0
   simp[cellsIntV] at g1
   simp[cellsStrF] at g2
   simp[cellsForms] at g3
   obtain⟨k,e0,-,w0⟩:=DataW.trod_int Try.underlying22 g0;obtain⟨b,o,l,c,e1,hn⟩:=int_openV g1;obtain⟨s,e2,-,w2⟩:=DataW.trod_string Try.underlying9 g2
   simp at e0 e1 e2
   obtain⟨e1a,e1b⟩:=e1;subst e0 e1a e1b e2;rcases Go.Deep.open_slice Try.underlying27 g3 with ⟨hcs,-⟩ | ⟨a,len,cap,mm,n',D,Pl,hcs,-,hle,hm,hmm,-,hi⟩
   ·simp at hcs
    subst hcs;exact⟨⟨k,b,o,l,c,s,none,0,0⟩,rfl,int_rangeV w0,hn,by unfold maxLen at w2;exact w2,⟨Nat.le_refl _,Nat.zero_le _⟩,fun i hi=>absurd hi (Nat.not_lt_zero i)⟩
   simp at hcs
   subst hcs;refine⟨⟨k,b,o,l,c,s,some a,len,cap⟩,rfl,int_rangeV w0,hn,by unfold maxLen at w2;exact w2,⟨hle,hm⟩,fun i hilt=>?_⟩;obtain⟨cs',hc,ht'⟩:=hi i (by simp only[if_true] at hmm;have:i<len:=hilt;omega);rw[cellsForm] at hc;obtain⟨_,hcl,hat⟩:=World.cells?_some hc;refine⟨cs',n',_,⟨a,rfl,fun j v hj=>?_⟩,ht'⟩;have hjl:j<5:=by have:=(List.getElem?_eq_some_iff.1 hj).1;omega
   rw[hat j hjl];exact hj
theorem rC_inj {x y:RU} (e:rC x=rC y):x=y:=by
 obtain⟨o,b,ao,l,c,nm,ko,kl,kc⟩:=x;obtain⟨o',b',ao',l',c',nm',ko',kl',kc'⟩:=y;simp only[rC,List.cons.injEq,Value.int.injEq,Value.string.injEq,Value.bool.injEq,Value.slice.injEq,true_and,and_true] at e;obtain⟨e1,e2,⟨e3,e4,e5⟩,e6,⟨e7,e8,e9⟩⟩:=e;subst e1 e2 e3 e4 e5 e6 e7 e8 e9
 rfl
theorem rawF_open {H:Type} {enc:TypeId × Value->H} {W:World}:∀ (d:Nat) {fuel:Nat} {x:RU} {y:DataW H × List MemPlace},DataW.trod enc Try.prog W 0 (fun _=>true) true fuel 29 (rC x)=some y->RawF W d x
 | 0,_,_,_,_=>trivial
 | d+1,fuel,x,y,h=>by
  obtain⟨x',e,h1,h2,h3,h4,h5⟩:=form_fields h;have ex:=rC_inj e;subst ex;refine⟨h1,h2,h3,h4,fun i hi=>?_⟩;obtain⟨cs',n',y',hc,ht⟩:=h5 i hi;obtain⟨u,hu,-⟩:=form_fields ht;subst hu;exact⟨u,hc,rawF_open d ht⟩
def RForms (w:World) (ko:Option Addr) (n kc:Nat):Prop:=(n<=kc/\kc<=maxLen)/\∀ i,i<n->∃ y:RU,AtF 5 w ko i (rC y)/\∀ d,RawF w d y
theorem RForms.below {w w':World} {ko:Option Addr} {n kc:Nat} (h:RForms w ko n kc) (hb:Below w.heap.size w w'):RForms w' ko n kc:=by
 refine⟨h.1,fun i hi=>?_⟩;obtain⟨y,h1,h2⟩:=h.2 i hi;exact⟨y,h1.keep fun a ha=>hb.block _ (h1.lt a ha),fun d=>(h2 d).below hb⟩
theorem open_forms {H:Type} {enc:TypeId × Value->H} {W:World} {base:Nat} {r:Reach} {v:Value} {d:DataW H} {p:List MemPlace}
  (hv:Value.okWide Try.prog W r base 27 v) (h:DataW.Trod enc Try.prog W 0 (fun _=>true) true 27 v d p):∃ ko n kc,v=.slice ko n kc/\RForms W ko n kc:=by
 obtain⟨a0,len0,cap0,rfl⟩:=okWide_slice Try.underlying27 hv;obtain⟨fuel,hf⟩:=h;refine⟨_,_,_,rfl,?_⟩;rcases Go.Deep.open_slice Try.underlying27 hf with ⟨hcs,-⟩ | ⟨a,len,cap,mm,n',D,Pl,hcs,-,hle,hm,hmm,-,hi⟩
 ·simp[Value.cells] at hcs
  obtain⟨rfl,rfl,rfl⟩:=hcs;exact⟨⟨Nat.le_refl _,Nat.zero_le _⟩,fun i hi=>absurd hi (Nat.not_lt_zero _)⟩
 simp[Value.cells] at hcs
 obtain⟨rfl,rfl,rfl⟩:=hcs;refine⟨⟨hle,hm⟩,fun i hilt=>?_⟩;obtain⟨cs',hc,ht'⟩:=hi i (by simp only[if_true] at hmm;omega);rw[cellsForm] at hc;obtain⟨_,hcl,hat⟩:=World.cells?_some hc;obtain⟨u,hu,-⟩:=form_fields ht';subst hu;refine⟨u,⟨a,rfl,fun j v hj=>?_⟩,fun d=>rawF_open d ht'⟩;have hjl:j<5:=by have:=(List.getElem?_eq_some_iff.1 hj).1;simpa [rC] using this
 rw[hat j hjl];exact hj
end Go.Proofs.Ytdkfnbbebpbhaaa
namespace Go.Proofs.Ytdkfnbbebpbhaaa
open Go.RowKit
set_option maxRecDepth 100000
set_option linter.unusedVariables false
set_option linter.unusedSimpArgs false
attribute [local go_sem] fieldV0 fieldV1 fieldV2 fieldV3
attribute [local go_sem] fieldV0 fieldV1 fieldV2 fieldV3
theorem FL.ltF {w:World} {S:Nat->Prop} {d:Nat} {v:Value} {ts:List F} (h:FL w S d v ts):FL w (fun g=>S g/\g<w.heap.size) d v ts:=by
 obtain⟨el,h1,h2⟩:=h;exact⟨el,h1.lt,h2⟩
theorem FL.turned {w:World} {B g n cap d:Nat} {us:List FU} {ts:List F} {S:Nat->Prop} (hrow:fR.Row w B (.slice (some ⟨g,0,none⟩) n cap) us) (hn:n=us.length) (hl:us.length=ts.length) (hS:S g) (h:∀ i (h1:i<us.length) (h2:i<ts.length),FT w S d us[i] ts[i]):FL w S d (.slice (some ⟨g,0,none⟩) n cap) ts:=by
 subst hn;have hz:(us.zip ts).length=us.length:=by rw[List.length_zip,hl,Nat.min_self]
 obtain⟨vo,vc,hv,h1,h2,h3⟩:=hrow.form;injection hv with e1 e2 e3;subst e3;refine⟨us.zip ts,⟨_,cap,by rw[hz],⟨by rw[hz];exact h1,h2,fun h=>by cases h⟩,fun _ a ha=>?_,fun i hi=>?_⟩,List.map_snd_zip (by rw[hl];exact Nat.le_refl _)⟩
 ·injection ha with ha;subst ha;exact hS
 have hi1:i<us.length:=by rw[hz] at hi;exact hi
 have hi2:i<ts.length:=by rw[<-hl];exact hi1
 rw[List.getElem_zip];exact⟨own_atF fC (fun _=>rfl) rfl hrow.own i hi1,h i hi1 hi2⟩
attribute [local go_sem] fieldV0 fieldV1 fieldV2 fieldV3
def E0:ByteArray:=⟨#[]⟩
def noF (t:F):F:=if t.op=12 then .node 13 0 ⟨#[]⟩ [] else if t.op=13 then .node 12 0 ⟨#[]⟩ [] else match t.kids with
 | [k]=>if t.op=17 then k else .node 17 0 ⟨#[]⟩ [t]
 | _=>.node 17 0 ⟨#[]⟩ [t]
theorem FC.ltS {w:World} {S:Nat->Prop} {d:Nat} {v:Value} {t:F} (h:FC w S d v t):FC w (fun b=>S b/\b<w.heap.size) d v t:=by
 obtain⟨u,h1,h2⟩:=h;exact⟨u,h1,h2.lt⟩
theorem no_p (va:Value) (t:F) (d:Nat) (w:World) (h:FC w tS d va t) (hrt:rt t=true) :
  Calls Try.prog 17 #[va] w fun e w'=>∃ v,e=.returned v/\FC w' tS (d+1) v (noF t)/\Below w.heap.size w w':=by
 have H0:=Lib.hid h;obtain⟨b,ao,l,c,ko,kl,kc,rfl,⟨hr,hz,hkl,hkc,hkm⟩,hd1,hk⟩:=h.open;have HD1:=Lib.hid hd1;obtain⟨o,z,nm,ks⟩:=t;simp only[F.op,F.num,F.name,F.kids] at hr hz hk hkl H0 ⊢;have hkm':kc<=9223372036854775807:=hkm;have HKS:=Lib.hid hkl;have HX:=Lib.hid hk;have HFT:=Lib.hid (rt_node hrt).1;clear hr hz h hk hrt hd1 hkl
 by_cases h12:o=12
 ·have HW:=Lib.hid (Below.refl w.heap.size w);subst h12;go_enter Try.func17,Try.ntmps17
  obtain⟨x1,kf,ef,ekf,hbf,hkf,HBf⟩:=newV w #[.int .i64 12,.bool b,.slice ao l c,.string nm,.slice ko kl kc] 29;replace HW:=Lib.hid (HW.out.trans (hbf.out.mono HW.out.size));obtain⟨x2,kr,er,ekr,hbr,hkr,HBr⟩:=newV x1 #[.int .i64 0,.bool false,.slice none 0 0,.string ⟨#[]⟩,.slice none 0 0] 29;replace HBf:=kBV hbr.out HBf;replace HW:=Lib.hid (HW.out.trans (hbr.out.mono HW.out.size));have HKr:Hid (w.heap.size<=kr):=Lib.hid (Nat.le_trans hbf.out.size hkr.out);have c0:=cell_at (v:=.int .i64 12) HBf.out 0 rfl;have fc0:=froz_at HBf.out 0;have c1:=cell_at (v:=.bool b) HBf.out 1 rfl;have fc1:=froz_at HBf.out 1;have c2:=cell_at (v:=.slice ao l c) HBf.out 2 rfl;have fc2:=froz_at HBf.out 2;have c3:=cell_at (v:=.string nm) HBf.out 3 rfl;have fc3:=froz_at HBf.out 3;have c4:=cell_at (v:=.slice ko kl kc) HBf.out 4 rfl
  have fc4:=froz_at HBf.out 4;go_wp2_with fail
  refine (of_p 13 none 0 0 x2).mono ?_;rintro e x3 ⟨rfl,hb⟩;clear c0 fc0 c1 fc1 c2 fc2 c3 fc3 c4 fc4;replace HBf:=kBV hb HBf;replace HBr:=kBV hb HBr;replace HW:=Lib.hid (HW.out.trans (hb.mono HW.out.size));obtain⟨⟨r0,r1,r2,r3,r4⟩,fr0,fr1,fr2,fr3,fr4⟩:=cells5V HBr.out;go_wp2_with fail
  obtain⟨s1,s2⟩:=res5F HW.out HBr.out n32_F HKr.out (.int .i64 13) (.bool false) (.slice none 0 0) (.string ⟨#[]⟩) (.slice none 0 0)
  (try simp only[Exit.inBlock,Exit.then])
  exact bodyPost_ret (v:=.agg #[.int .i64 13,.bool false,.slice none 0 0,.string ⟨#[]⟩,.slice none 0 0]) (by simp[results,Try.results17,go_sem,r0,r1,r2,r3,r4]) rfl ⟨_,rfl,(FC.mk (by unfold IR;decide) ((nr0 _).fr s1) (FL.nil _ _ d)),s2⟩
 by_cases h13:o=13
 ·have HW:=Lib.hid (Below.refl w.heap.size w);subst h13;clear h12;go_enter Try.func17,Try.ntmps17
  obtain⟨x1,kf,ef,ekf,hbf,hkf,HBf⟩:=newV w #[.int .i64 13,.bool b,.slice ao l c,.string nm,.slice ko kl kc] 29;replace HW:=Lib.hid (HW.out.trans (hbf.out.mono HW.out.size));obtain⟨x2,kr,er,ekr,hbr,hkr,HBr⟩:=newV x1 #[.int .i64 0,.bool false,.slice none 0 0,.string ⟨#[]⟩,.slice none 0 0] 29;replace HBf:=kBV hbr.out HBf;replace HW:=Lib.hid (HW.out.trans (hbr.out.mono HW.out.size));have HKr:Hid (w.heap.size<=kr):=Lib.hid (Nat.le_trans hbf.out.size hkr.out);have c0:=cell_at (v:=.int .i64 13) HBf.out 0 rfl;have fc0:=froz_at HBf.out 0;have c1:=cell_at (v:=.bool b) HBf.out 1 rfl;have fc1:=froz_at HBf.out 1;have c2:=cell_at (v:=.slice ao l c) HBf.out 2 rfl;have fc2:=froz_at HBf.out 2;have c3:=cell_at (v:=.string nm) HBf.out 3 rfl;have fc3:=froz_at HBf.out 3;have c4:=cell_at (v:=.slice ko kl kc) HBf.out 4 rfl
  have fc4:=froz_at HBf.out 4;go_wp2_with fail
  refine (of_p 12 none 0 0 x2).mono ?_;rintro e x3 ⟨rfl,hb⟩;clear c0 fc0 c1 fc1 c2 fc2 c3 fc3 c4 fc4;replace HBf:=kBV hb HBf;replace HBr:=kBV hb HBr;replace HW:=Lib.hid (HW.out.trans (hb.mono HW.out.size));obtain⟨⟨r0,r1,r2,r3,r4⟩,fr0,fr1,fr2,fr3,fr4⟩:=cells5V HBr.out;go_wp2_with fail
  obtain⟨s1,s2⟩:=res5F HW.out HBr.out n32_F HKr.out (.int .i64 12) (.bool false) (.slice none 0 0) (.string ⟨#[]⟩) (.slice none 0 0)
  (try simp only[Exit.inBlock,Exit.then])
  exact bodyPost_ret (v:=.agg #[.int .i64 12,.bool false,.slice none 0 0,.string ⟨#[]⟩,.slice none 0 0]) (by simp[results,Try.results17,go_sem,r0,r1,r2,r3,r4]) rfl ⟨_,rfl,(FC.mk (by unfold IR;decide) ((nr0 _).fr s1) (FL.nil _ _ d)),s2⟩
 have n12:(o==12)=false:=beq_eq_false_iff_ne.2 h12;have n13:(o==13)=false:=beq_eq_false_iff_ne.2 h13
 by_cases h17:o=17
 ·have HW:=Lib.hid (Below.refl w.heap.size w);subst h17;have hs1:srts ks=[1]:=by simpa [fitF,kidsOk] using HFT.out
  obtain⟨p,rfl,-⟩:=srts_one hs1;have hkl1:kl=1:=HKS.out;subst hkl1;clear hs1 h12 h13 n12 n13 H0 HKS HFT;obtain⟨a,bp,op,lp,cp,kop,klp,kcp,rfl,hcell,hfp⟩:=HX.out.first;obtain⟨opp,hop⟩:∃ x,x=p.op:=⟨_,rfl⟩
  obtain⟨nmp,hnm⟩:∃ x,x=p.name:=⟨_,rfl⟩
  rw[<-hop,<-hnm] at hcell hfp;have HFP:=Lib.hid hfp.lt;have HPC:Hid (At5 w a opp bp op lp cp nmp kop klp kcp):=Lib.hid hcell;clear hfp hop hnm hcell HX;go_enter Try.func17,Try.ntmps17
  obtain⟨x1,kf,ef,ekf,hbf,hkf,HBf⟩:=newV w #[.int .i64 17,.bool b,.slice ao l c,.string nm,.slice (some a) 1 kc] 29;replace HW:=Lib.hid (HW.out.trans (hbf.out.mono HW.out.size));replace HPC:=Lib.hid (HPC.out.below hbf.out);obtain⟨x2,kr,er,ekr,hbr,hkr,HBr⟩:=newV x1 #[.int .i64 0,.bool false,.slice none 0 0,.string ⟨#[]⟩,.slice none 0 0] 29;replace HBf:=kBV hbr.out HBf;replace HW:=Lib.hid (HW.out.trans (hbr.out.mono HW.out.size));replace HPC:=Lib.hid (HPC.out.below hbr.out);have HKr:Hid (w.heap.size<=kr):=Lib.hid (Nat.le_trans hbf.out.size hkr.out);obtain⟨p0,p1,p2,p3,p4⟩:=HPC.out;have c0:=cell_at (v:=.int .i64 17) HBf.out 0 rfl;have fc0:=froz_at HBf.out 0;have c1:=cell_at (v:=.bool b) HBf.out 1 rfl;have fc1:=froz_at HBf.out 1;have c2:=cell_at (v:=.slice ao l c) HBf.out 2 rfl;have fc2:=froz_at HBf.out 2
  have c3:=cell_at (v:=.string nm) HBf.out 3 rfl;have fc3:=froz_at HBf.out 3;have c4:=cell_at (v:=.slice (some a) 1 kc) HBf.out 4 rfl;have fc4:=froz_at HBf.out 4;obtain⟨⟨r0,r1,r2,r3,r4⟩,fr0,fr1,fr2,fr3,fr4⟩:=cells5V HBr.out;go_wp2_with fail
  clear p0 p1 p2 p3 p4;clear c0 fc0 c1 fc1 c2 fc2 c3 fc3 c4 fc4;obtain⟨s1,s2⟩:=res5F HW.out HBr.out n32_F HKr.out (.int .i64 opp) (.bool bp) (.slice op lp cp) (.string nmp) (.slice kop klp kcp)
  (try simp only[Exit.inBlock,Exit.then])
  exact bodyPost_ret (v:=.agg #[.int .i64 opp,.bool bp,.slice op lp cp,.string nmp,.slice kop klp kcp]) (by simp[results,Try.results17,go_sem,r0,r1,r2,r3,r4]) rfl ⟨_,rfl,((((HFP.out.below HW.out).mono (S':=fun b=>b≠kr) (fun b hb=>by have:=HKr.out;omega)).put (grown5V _ _ _ _ _) s1).t.up (by have:=HD1.out;omega)),s2⟩
 have HW:=Lib.hid (Below.refl w.heap.size w);have n17:(o==17)=false:=beq_eq_false_iff_ne.2 h17;have HO:=Lib.hid (show noF (.node o z nm ks)=.node 17 0 ⟨#[]⟩ [.node o z nm ks] from by show (if o=12 then _ else if o=13 then _ else _)=_;rw[if_neg h12,if_neg h13];cases ks with | nil=>rfl | cons a l=>cases l with | nil=>exact if_neg h17 | cons b l=>rfl);clear h12 h13 h17 HFT HX HKS;have H1:=Lib.hid H0.out.lt;go_enter Try.func17,Try.ntmps17
 obtain⟨x1,kf,ef,ekf,hbf,hkf,HBf⟩:=newV w #[.int .i64 o,.bool b,.slice ao l c,.string nm,.slice ko kl kc] 29;replace HW:=Lib.hid (HW.out.trans (hbf.out.mono HW.out.size));obtain⟨x2,kr,er,ekr,hbr,hkr,HBr⟩:=newV x1 #[.int .i64 0,.bool false,.slice none 0 0,.string ⟨#[]⟩,.slice none 0 0] 29;replace HBf:=kBV hbr.out HBf;replace HW:=Lib.hid (HW.out.trans (hbr.out.mono HW.out.size));have HKr:Hid (w.heap.size<=kr):=Lib.hid (Nat.le_trans hbf.out.size hkr.out);have HA:=Lib.hid ((H1.out.below HW.out).mono (S':=fun b=>b≠kr) (fun b hb=>by have:=HKr.out;omega));have HLR:=Lib.hid (lt_of_block HBr.out);have c0:=cell_at (v:=.int .i64 o) HBf.out 0 rfl;have fc0:=froz_at HBf.out 0;have c1:=cell_at (v:=.bool b) HBf.out 1 rfl;have fc1:=froz_at HBf.out 1;have c2:=cell_at (v:=.slice ao l c) HBf.out 2 rfl;have fc2:=froz_at HBf.out 2
 have c3:=cell_at (v:=.string nm) HBf.out 3 rfl;have fc3:=froz_at HBf.out 3;have c4:=cell_at (v:=.slice ko kl kc) HBf.out 4 rfl;have fc4:=froz_at HBf.out 4;obtain⟨x3,ky,ey,eky,hby,hky,HBy⟩:=newV x2 #[.int .i64 o,.bool b,.slice ao l c,.string nm,.slice ko kl kc] 29;replace HBf:=kBV hby.out HBf;replace HBr:=kBV hby.out HBr;replace HW:=Lib.hid (HW.out.trans (hby.out.mono HW.out.size));replace HA:=Lib.hid (HA.out.below hby.out);go_wp2_with fail
 have HLI:=Lib.hid (FL.one (S:=fun b=>b≠kr) HBy.out (by have h1:=HLR.out;have h2:=hky.out;show ky≠kr;omega) HA.out);refine (of_p 17 _ _ _ x3).mono ?_;rintro e x4 ⟨rfl,hb⟩;clear c0 fc0 c1 fc1 c2 fc2 c3 fc3 c4 fc4;replace HBf:=kBV hb HBf;replace HBr:=kBV hb HBr;replace HBy:=kBV hb HBy;replace HW:=Lib.hid (HW.out.trans (hb.mono HW.out.size));replace HA:=Lib.hid (HA.out.below hb);replace HLI:=Lib.hid (HLI.out.below hb);obtain⟨⟨r0,r1,r2,r3,r4⟩,fr0,fr1,fr2,fr3,fr4⟩:=cells5V HBr.out;go_wp2_with fail
 obtain⟨s1,s2⟩:=res5F HW.out HBr.out n32_F HKr.out (.int .i64 17) (.bool false) (.slice none 0 0) (.string ⟨#[]⟩) (.slice (some ⟨ky,0,none⟩) 1 1)
 (try simp only[Exit.inBlock,Exit.then])
 exact bodyPost_ret (v:=.agg #[.int .i64 17,.bool false,.slice none 0 0,.string ⟨#[]⟩,.slice (some ⟨ky,0,none⟩) 1 1]) (by simp[results,Try.results17,go_sem,r0,r1,r2,r3,r4]) rfl ⟨_,rfl,by rw[HO.out];exact ((FC.mk (by unfold IR;decide) (nr0 _) HLI.out).put (grown5V _ _ _ _ _) s1).t,s2⟩
def eqOp (s:Int):Int:=if s=1 then 20 else 16
theorem eq_p (va vb:Value) (p q:F) (d:Nat) (w:World) (hp:FC w tS d va p) (hq:FC w tS d vb q) :
  Calls Try.prog 24 #[va,vb] w fun e w'=>∃ g,e=.returned (.agg #[.int .i64 (eqOp (srt p.op)),.bool false,.slice none 0 0,.string ⟨#[]⟩,.slice (some ⟨g,0,none⟩) 2 2])/\FC w' tS (d+1) (.agg #[.int .i64 (eqOp (srt p.op)),.bool false,.slice none 0 0,.string ⟨#[]⟩,.slice (some ⟨g,0,none⟩) 2 2]) (.node (eqOp (srt p.op)) 0 ⟨#[]⟩ [p,q])/\Below w.heap.size w w':=by
 have HP:=Lib.hid hp;have HQ:=Lib.hid hq;obtain⟨pb,po,pl,pc,pko,pkl,pkc,rfl,-,-,-⟩:=hp.open;obtain⟨qb,qo,ql,qc,qko,qkl,qkc,rfl,-,-,-⟩:=hq.open;obtain⟨p0,hp0⟩:∃ x,x=p.op:=⟨_,rfl⟩
 obtain⟨pn,hpn⟩:∃ x,x=p.name:=⟨_,rfl⟩
 obtain⟨q0,hq0⟩:∃ x,x=q.op:=⟨_,rfl⟩
 obtain⟨qn,hqn⟩:∃ x,x=q.name:=⟨_,rfl⟩
 rw[<-hp0,<-hpn] at HP ⊢;rw[<-hq0,<-hqn] at HQ ⊢;clear hp hq hp0 hpn hq0 hqn;obtain⟨s,hs⟩:∃ s,s=srt p0:=⟨_,rfl⟩
 rw[<-hs];have HS:=Lib.hid hs;have hcs:s=1\/(s==1)=false:=by by_cases h:s=1;exact .inl h;exact .inr (beq_eq_false_iff_ne.2 h)
 clear hs;have HW:=Lib.hid (Below.refl w.heap.size w);have HP0:=Lib.hid HP.out.lt;have HQ0:=Lib.hid HQ.out.lt;go_enter Try.func24,Try.ntmps24
 obtain⟨x1,ka,ea,eka,hba,hka,HBa⟩:=newV w #[.int .i64 p0,.bool pb,.slice po pl pc,.string pn,.slice pko pkl pkc] 29;replace HW:=Lib.hid (HW.out.trans (hba.out.mono HW.out.size));replace HP:=Lib.hid (HP.out.below hba.out);replace HQ:=Lib.hid (HQ.out.below hba.out);obtain⟨x2,kq,eq,ekq,hbq,hkq,HBq⟩:=newV x1 #[.int .i64 q0,.bool qb,.slice qo ql qc,.string qn,.slice qko qkl qkc] 29;replace HBa:=kBV hbq.out HBa;replace HW:=Lib.hid (HW.out.trans (hbq.out.mono HW.out.size));replace HP:=Lib.hid (HP.out.below hbq.out);replace HQ:=Lib.hid (HQ.out.below hbq.out);have HWq:=HW;obtain⟨x3,kr,er,ekr,hbr,hkr,HBr⟩:=newV x2 #[.int .i64 0,.bool false,.slice none 0 0,.string ⟨#[]⟩,.slice none 0 0] 29;replace HBa:=kBV hbr.out HBa;replace HBq:=kBV hbr.out HBq;replace HW:=Lib.hid (HW.out.trans (hbr.out.mono HW.out.size))
 replace HP:=Lib.hid (HP.out.below hbr.out);replace HQ:=Lib.hid (HQ.out.below hbr.out);have HKr:Hid (w.heap.size<=kr):=Lib.hid (Nat.le_trans HWq.out.size hkr.out);replace HP:=Lib.hid ((HP0.out.below HW.out).mono (S':=fun b=>b≠kr) (fun b hb=>by have:=HKr.out;omega));replace HQ:=Lib.hid ((HQ0.out.below HW.out).mono (S':=fun b=>b≠kr) (fun b hb=>by have:=HKr.out;omega));have HLR:=Lib.hid (lt_of_block HBr.out);have c0:=cell_at (v:=.int .i64 p0) HBa.out 0 rfl;have fc0:=froz_at HBa.out 0;have c1:=cell_at (v:=.bool pb) HBa.out 1 rfl;have fc1:=froz_at HBa.out 1;have c2:=cell_at (v:=.slice po pl pc) HBa.out 2 rfl;have fc2:=froz_at HBa.out 2;have c3:=cell_at (v:=.string pn) HBa.out 3 rfl;have fc3:=froz_at HBa.out 3;have c4:=cell_at (v:=.slice pko pkl pkc) HBa.out 4 rfl;have fc4:=froz_at HBa.out 4;go_wp2_with fail
 refine (sort_p _ _ _ _ _ _ _ _ _ x3).mono ?_;rintro e x4 ⟨rfl,hb⟩;clear c0 fc0 c1 fc1 c2 fc2 c3 fc3 c4 fc4;replace HBa:=kBV hb HBa;replace HBq:=kBV hb HBq;replace HBr:=kBV hb HBr;replace HW:=Lib.hid (HW.out.trans (hb.mono HW.out.size));replace HP:=Lib.hid (HP.out.below hb);replace HQ:=Lib.hid (HQ.out.below hb);rw[<-HS.out];have HLR2:=Lib.hid (Nat.lt_of_lt_of_le HLR.out hb.size);rcases hcs with rfl | hcs
 ·have c0:=cell_at (v:=.int .i64 p0) HBa.out 0 rfl;have fc0:=froz_at HBa.out 0;have c1:=cell_at (v:=.bool pb) HBa.out 1 rfl;have fc1:=froz_at HBa.out 1;have c2:=cell_at (v:=.slice po pl pc) HBa.out 2 rfl;have fc2:=froz_at HBa.out 2;have c3:=cell_at (v:=.string pn) HBa.out 3 rfl;have fc3:=froz_at HBa.out 3;have c4:=cell_at (v:=.slice pko pkl pkc) HBa.out 4 rfl;have fc4:=froz_at HBa.out 4;have d0:=cell_at (v:=.int .i64 q0) HBq.out 0 rfl;have fd0:=froz_at HBq.out 0;have d1:=cell_at (v:=.bool qb) HBq.out 1 rfl;have fd1:=froz_at HBq.out 1;have d2:=cell_at (v:=.slice qo ql qc) HBq.out 2 rfl;have fd2:=froz_at HBq.out 2;have d3:=cell_at (v:=.string qn) HBq.out 3 rfl;have fd3:=froz_at HBq.out 3;have d4:=cell_at (v:=.slice qko qkl qkc) HBq.out 4 rfl;have fd4:=froz_at HBq.out 4
  obtain⟨x5,ky,ey,eky,hby,hky,HBy⟩:=newV x4 #[.int .i64 p0,.bool pb,.slice po pl pc,.string pn,.slice pko pkl pkc,.int .i64 q0,.bool qb,.slice qo ql qc,.string qn,.slice qko qkl qkc] 29;replace HBa:=kBV hby.out HBa;replace HBq:=kBV hby.out HBq;replace HBr:=kBV hby.out HBr;replace HW:=Lib.hid (HW.out.trans (hby.out.mono HW.out.size));replace HP:=Lib.hid (HP.out.below hby.out);replace HQ:=Lib.hid (HQ.out.below hby.out);go_wp2_with fail
  have HLI:=Lib.hid (FL.two (S:=fun b=>b≠kr) HBy.out (by have h1:=HLR2.out;have h2:=hky.out;show ky≠kr;omega) HP.out HQ.out);refine (of_p 20 _ _ _ x5).mono ?_;rintro e x6 ⟨rfl,hb⟩;clear c0 fc0 c1 fc1 c2 fc2 c3 fc3 c4 fc4 d0 fd0 d1 fd1 d2 fd2 d3 fd3 d4 fd4;replace HBa:=kBV hb HBa;replace HBq:=kBV hb HBq;replace HBr:=kBV hb HBr;replace HBy:=kBV hb HBy;replace HW:=Lib.hid (HW.out.trans (hb.mono HW.out.size));replace HP:=Lib.hid (HP.out.below hb);replace HQ:=Lib.hid (HQ.out.below hb);replace HLI:=Lib.hid (HLI.out.below hb);obtain⟨⟨r0,r1,r2,r3,r4⟩,fr0,fr1,fr2,fr3,fr4⟩:=cells5V HBr.out;go_wp2_with fail
  obtain⟨s1,s2⟩:=res5F HW.out HBr.out n32_F HKr.out (.int .i64 20) (.bool false) (.slice none 0 0) (.string ⟨#[]⟩) (.slice (some ⟨ky,0,none⟩) 2 2)
  (try simp only[Exit.inBlock,Exit.then])
  exact bodyPost_ret (v:=.agg #[.int .i64 20,.bool false,.slice none 0 0,.string ⟨#[]⟩,.slice (some ⟨ky,0,none⟩) 2 2]) (by simp[results,Try.results24,go_sem,r0,r1,r2,r3,r4]) rfl ⟨_,rfl,((FC.mk (by unfold IR;decide) (nr0 _) HLI.out).put (grown5V _ _ _ _ _) s1).t,s2⟩
 have c0:=cell_at (v:=.int .i64 p0) HBa.out 0 rfl;have fc0:=froz_at HBa.out 0;have c1:=cell_at (v:=.bool pb) HBa.out 1 rfl;have fc1:=froz_at HBa.out 1;have c2:=cell_at (v:=.slice po pl pc) HBa.out 2 rfl;have fc2:=froz_at HBa.out 2;have c3:=cell_at (v:=.string pn) HBa.out 3 rfl;have fc3:=froz_at HBa.out 3;have c4:=cell_at (v:=.slice pko pkl pkc) HBa.out 4 rfl;have fc4:=froz_at HBa.out 4;have d0:=cell_at (v:=.int .i64 q0) HBq.out 0 rfl;have fd0:=froz_at HBq.out 0;have d1:=cell_at (v:=.bool qb) HBq.out 1 rfl;have fd1:=froz_at HBq.out 1;have d2:=cell_at (v:=.slice qo ql qc) HBq.out 2 rfl;have fd2:=froz_at HBq.out 2;have d3:=cell_at (v:=.string qn) HBq.out 3 rfl;have fd3:=froz_at HBq.out 3;have d4:=cell_at (v:=.slice qko qkl qkc) HBq.out 4 rfl;have fd4:=froz_at HBq.out 4
 have HE:=Lib.hid (show eqOp s=16 from if_neg (by simpa using hcs));obtain⟨x5,ky,ey,eky,hby,hky,HBy⟩:=newV x4 #[.int .i64 p0,.bool pb,.slice po pl pc,.string pn,.slice pko pkl pkc,.int .i64 q0,.bool qb,.slice qo ql qc,.string qn,.slice qko qkl qkc] 29;replace HBa:=kBV hby.out HBa;replace HBq:=kBV hby.out HBq;replace HBr:=kBV hby.out HBr;replace HW:=Lib.hid (HW.out.trans (hby.out.mono HW.out.size));replace HP:=Lib.hid (HP.out.below hby.out);replace HQ:=Lib.hid (HQ.out.below hby.out);go_wp2_with fail
 have HLI:=Lib.hid (FL.two (S:=fun b=>b≠kr) HBy.out (by have h1:=HLR2.out;have h2:=hky.out;show ky≠kr;omega) HP.out HQ.out);refine (of_p 16 _ _ _ x5).mono ?_;rintro e x6 ⟨rfl,hb⟩;clear c0 fc0 c1 fc1 c2 fc2 c3 fc3 c4 fc4 d0 fd0 d1 fd1 d2 fd2 d3 fd3 d4 fd4;replace HBa:=kBV hb HBa;replace HBq:=kBV hb HBq;replace HBr:=kBV hb HBr;replace HBy:=kBV hb HBy;replace HW:=Lib.hid (HW.out.trans (hb.mono HW.out.size));replace HP:=Lib.hid (HP.out.below hb);replace HQ:=Lib.hid (HQ.out.below hb);replace HLI:=Lib.hid (HLI.out.below hb);obtain⟨⟨r0,r1,r2,r3,r4⟩,fr0,fr1,fr2,fr3,fr4⟩:=cells5V HBr.out;go_wp2_with fail
 obtain⟨s1,s2⟩:=res5F HW.out HBr.out n32_F HKr.out (.int .i64 16) (.bool false) (.slice none 0 0) (.string ⟨#[]⟩) (.slice (some ⟨ky,0,none⟩) 2 2)
 (try simp only[Exit.inBlock,Exit.then])
 exact bodyPost_ret (v:=.agg #[.int .i64 16,.bool false,.slice none 0 0,.string ⟨#[]⟩,.slice (some ⟨ky,0,none⟩) 2 2]) (by simp[results,Try.results24,go_sem,r0,r1,r2,r3,r4]) rfl ⟨_,by rw[HE.out],by rw[HE.out];exact ((FC.mk (by unfold IR;decide) (nr0 _) HLI.out).put (grown5V _ _ _ _ _) s1).t,s2⟩
theorem scaled_p (vn vb:Value) (n:Int) (q:F) (d:Nat) (S:Nat->Prop) (w:World) (hn:CI w vn n 600) (hq:FC w S d vb q) :
  Calls Try.prog 50 #[vn,vb] w fun e w'=>∃ b o l c g,e=.returned (.agg #[.int .i64 3,.bool b,.slice o l c,.string ⟨#[]⟩,.slice (some ⟨g,0,none⟩) 1 1])/\FC w' (fun b=>S b\/w.heap.size<=b) (d+1) (.agg #[.int .i64 3,.bool b,.slice o l c,.string ⟨#[]⟩,.slice (some ⟨g,0,none⟩) 1 1]) (.node 3 n ⟨#[]⟩ [q])/\Below w.heap.size w w':=by
 have HN:=Lib.hid hn;have HQ:=Lib.hid hq;obtain⟨nb,no,nl,nc,rfl⟩:=hn.shape;obtain⟨qb,qo,ql,qc,qko,qkl,qkc,rfl,-,-,-⟩:=hq.open;obtain⟨q0,hq0⟩:∃ x,x=q.op:=⟨_,rfl⟩
 obtain⟨qn,hqn⟩:∃ x,x=q.name:=⟨_,rfl⟩
 rw[<-hq0,<-hqn] at HQ ⊢;clear hn hq hq0 hqn;have HW:=Lib.hid (Below.refl w.heap.size w);have HQ0:=HQ;have HQ1:Hid (FC w (fun b=>S b/\b<w.heap.size) d _ q):=Lib.hid HQ.out.ltS;go_enter Try.func50,Try.ntmps50
 obtain⟨x1,kn,en,ekn,hbn,hkn,HBn⟩:=newV w #[.bool nb,.slice no nl nc] 26;replace HW:=Lib.hid (HW.out.trans (hbn.out.mono HW.out.size));replace HN:=Lib.hid (HN.out.below hbn.out);replace HQ:=Lib.hid (HQ.out.below hbn.out);obtain⟨x2,kq,eq,ekq,hbq,hkq,HBq⟩:=newV x1 #[.int .i64 q0,.bool qb,.slice qo ql qc,.string qn,.slice qko qkl qkc] 29;replace HBn:=kBV hbq.out HBn;replace HW:=Lib.hid (HW.out.trans (hbq.out.mono HW.out.size));replace HN:=Lib.hid (HN.out.below hbq.out);replace HQ:=Lib.hid (HQ.out.below hbq.out);have HWq:=HW;obtain⟨x3,kr,er,ekr,hbr,hkr,HBr⟩:=newV x2 #[.int .i64 0,.bool false,.slice none 0 0,.string ⟨#[]⟩,.slice none 0 0] 29;replace HBn:=kBV hbr.out HBn;replace HBq:=kBV hbr.out HBq;replace HW:=Lib.hid (HW.out.trans (hbr.out.mono HW.out.size));replace HN:=Lib.hid (HN.out.below hbr.out)
 replace HQ:=Lib.hid (HQ.out.below hbr.out);have HKr:Hid (w.heap.size<=kr):=Lib.hid (Nat.le_trans HWq.out.size hkr.out);have HQ2:=Lib.hid ((HQ1.out.below HW.out).mono (S':=fun b=>(S b\/w.heap.size<=b)/\b≠kr) (fun b hb=>⟨Or.inl hb.1,by have h1:=hb.2;have h2:=HKr.out;omega⟩));have HLR:=Lib.hid (lt_of_block HBr.out);have c0:=cell_at (v:=.bool nb) HBn.out 0 rfl;have fc0:=froz_at HBn.out 0;have c1:=cell_at (v:=.slice no nl nc) HBn.out 1 rfl;have fc1:=froz_at HBn.out 1;have d0:=cell_at (v:=.int .i64 q0) HBq.out 0 rfl;have fd0:=froz_at HBq.out 0;have d1:=cell_at (v:=.bool qb) HBq.out 1 rfl;have fd1:=froz_at HBq.out 1;have d2:=cell_at (v:=.slice qo ql qc) HBq.out 2 rfl;have fd2:=froz_at HBq.out 2;have d3:=cell_at (v:=.string qn) HBq.out 3 rfl;have fd3:=froz_at HBq.out 3;have d4:=cell_at (v:=.slice qko qkl qkc) HBq.out 4 rfl
 have fd4:=froz_at HBq.out 4;obtain⟨x4,ky,ey,eky,hby,hky,HBy⟩:=newV x3 #[.int .i64 q0,.bool qb,.slice qo ql qc,.string qn,.slice qko qkl qkc] 29;replace HBn:=kBV hby.out HBn;replace HBq:=kBV hby.out HBq;replace HBr:=kBV hby.out HBr;replace HW:=Lib.hid (HW.out.trans (hby.out.mono HW.out.size));replace HN:=Lib.hid (HN.out.below hby.out);replace HQ:=Lib.hid (HQ.out.below hby.out);replace HQ2:=Lib.hid (HQ2.out.below hby.out);have HLI:=Lib.hid (FL.one (S:=fun b=>(S b\/w.heap.size<=b)/\b≠kr) HBy.out (by have h1:=HLR.out;have h2:=hky.out;have h3:=HKr.out;exact⟨Or.inr (by omega),by omega⟩) HQ2.out);obtain⟨⟨r0,r1,r2,r3,r4⟩,fr0,fr1,fr2,fr3,fr4⟩:=cells5V HBr.out;go_wp2_with fail
 clear c0 fc0 c1 fc1 d0 fd0 d1 fd1 d2 fd2 d3 fd3 d4 fd4;obtain⟨s1,s2⟩:=res5F HW.out HBr.out n32_F HKr.out (.int .i64 3) (.bool nb) (.slice no nl nc) (.string ⟨#[]⟩) (.slice (some ⟨ky,0,none⟩) 1 1)
 (try simp only[Exit.inBlock,Exit.then])
 exact bodyPost_ret (v:=.agg #[.int .i64 3,.bool nb,.slice no nl nc,.string ⟨#[]⟩,.slice (some ⟨ky,0,none⟩) 1 1]) (by simp[results,Try.results50,go_sem,r0,r1,r2,r3,r4]) rfl ⟨_,_,_,_,_,rfl,(((FC.mk (by unfold IR;decide) HN.out HLI.out).grown (grown5V (k:=kr) _ _ _ _ _) (KN.of_fr s1) (fun b hb e=>hb.2 (by injection e with e;exact e.symm))).mono (fun b hb=>hb.1)),s2⟩
theorem sub_p (va vb:Value) (p q:F) (d:Nat) (w:World) (hp:FC w tS (d+1) va p) (hq:FC w tS d vb q) :
  Calls Try.prog 25 #[va,vb] w fun e w'=>∃ v,e=.returned v/\FC w' tS (d+2) v (.node 2 0 ⟨#[]⟩ [p,.node 3 (-1) ⟨#[]⟩ [q]])/\Below w.heap.size w w':=by
 have HP:=Lib.hid hp;have HQ:=Lib.hid hq;obtain⟨pb,po,pl,pc,pko,pkl,pkc,rfl,-,-,-⟩:=hp.open;obtain⟨qb,qo,ql,qc,qko,qkl,qkc,rfl,-,-,-⟩:=hq.open;obtain⟨p0,hp0⟩:∃ x,x=p.op:=⟨_,rfl⟩
 obtain⟨pn,hpn⟩:∃ x,x=p.name:=⟨_,rfl⟩
 obtain⟨q0,hq0⟩:∃ x,x=q.op:=⟨_,rfl⟩
 obtain⟨qn,hqn⟩:∃ x,x=q.name:=⟨_,rfl⟩
 rw[<-hp0,<-hpn] at HP ⊢;rw[<-hq0,<-hqn] at HQ ⊢;clear hp hq hp0 hpn hq0 hqn;have HW:=Lib.hid (Below.refl w.heap.size w);have HP0:=Lib.hid HP.out.lt;have HQ0:=Lib.hid HQ.out.lt;go_enter Try.func25,Try.ntmps25
 obtain⟨x1,ka,ea,eka,hba,hka,HBa⟩:=newV w #[.int .i64 p0,.bool pb,.slice po pl pc,.string pn,.slice pko pkl pkc] 29;replace HW:=Lib.hid (HW.out.trans (hba.out.mono HW.out.size));replace HP:=Lib.hid (HP.out.below hba.out);replace HQ:=Lib.hid (HQ.out.below hba.out);obtain⟨x2,kq,eq,ekq,hbq,hkq,HBq⟩:=newV x1 #[.int .i64 q0,.bool qb,.slice qo ql qc,.string qn,.slice qko qkl qkc] 29;replace HBa:=kBV hbq.out HBa;replace HW:=Lib.hid (HW.out.trans (hbq.out.mono HW.out.size));replace HP:=Lib.hid (HP.out.below hbq.out);replace HQ:=Lib.hid (HQ.out.below hbq.out);have HWq:=HW;obtain⟨x3,kr,er,ekr,hbr,hkr,HBr⟩:=newV x2 #[.int .i64 0,.bool false,.slice none 0 0,.string ⟨#[]⟩,.slice none 0 0] 29;replace HBa:=kBV hbr.out HBa;replace HBq:=kBV hbr.out HBq;replace HW:=Lib.hid (HW.out.trans (hbr.out.mono HW.out.size))
 replace HP:=Lib.hid (HP.out.below hbr.out);replace HQ:=Lib.hid (HQ.out.below hbr.out);have HKr:Hid (w.heap.size<=kr):=Lib.hid (Nat.le_trans HWq.out.size hkr.out);replace HP:=Lib.hid ((HP0.out.below HW.out).mono (S':=fun b=>b≠kr) (fun b hb=>by have:=HKr.out;omega));replace HQ:=Lib.hid ((HQ0.out.below HW.out).mono (S':=fun b=>b≠kr) (fun b hb=>by have:=HKr.out;omega));go_upto_region 1 with fail
 have hlt_a:=lt_of_block HBa.out;have hlt_q:=lt_of_block HBq.out;have hog:Hid (∀ q,q<0->(fun q=>0) q<x3.heap.size):=Lib.hid (fun q h=>absurd h (Nat.not_lt_zero _));refine R7.region (by kernel_rfl) [[],[],[],[1,2],[0,1,2,3],[0,1,2,3,4],[0,1,2,3,4,5]] [] [] (fun q=>0) 0 6 (by kernel_rfl) (by kernel_rfl) (by rfl) hog.out (fun q q' h h' hn=>absurd hn (by omega)) ?_;refine R7.Chain.det ?_ (by rfl) (fun T xs wr hA=>?_) ?_
 rotate_left 1
 ·have e2:=hA.pre 2 (by kernel_rfl);simp only[gsa,gsc,gsz] at e2;have hBq:wr.heap[ka]?=_:=(hA.bl _ hlt_a (fun q h=>absurd h (Nat.not_lt_zero _))).trans HBa.out;have q0:=cell_at (v:=.int .i64 p0) hBq 0 rfl;have q1:=cell_at (v:=.bool pb) hBq 1 rfl;have q2:=cell_at (v:=.slice po pl pc) hBq 2 rfl;have q3:=cell_at (v:=.string pn) hBq 3 rfl;have q4:=cell_at (v:=.slice pko pkl pkc) hBq 4 rfl;clear hBq;clear hA;refine⟨(by rfl),?_⟩;go_simp<;>(try with_reducible rfl)
 refine R7.Chain.call (fun xs v w=>∃ b o l c,v=.agg #[.bool b,.slice o l c]/\CI w (.agg #[.bool b,.slice o l c]) (-1) 600) (fun _ _ _ _ h hb=>by obtain⟨b,o,l,c,h1,h2⟩:=h;exact⟨b,o,l,c,h1,h2.below hb⟩) (fun _ _ _ _ _ _ h _=>by obtain⟨q,hq,_⟩:=h;exact absurd hq (Nat.not_lt_zero _)) (by rfl) (fun T xs wr hA=>?_) ?_
 ·have hsw:=(hA.be 0 (Nat.zero_le _) (fun _ _=>Nat.zero_le _)).size;have hbw:=undrew (hA.be x3.heap.size (Nat.le_refl _) (fun q h=>absurd h (Nat.not_lt_zero q)));clear hA;refine⟨(by rfl),fun K hK=>?_⟩;go_simp
  refine (wof_any (-1) _ (by decide) (by decide)).mono ?_;rintro e w' ⟨x,rfl,hc,hb'⟩;obtain⟨b,o,l,c,rfl⟩:=hc.shape;exact hK.out _ _ ⟨b,o,l,c,rfl,hc.mono (by decide)⟩ hb'
 refine R7.Chain.det ?_ (by rfl) (fun T xs wr hA=>?_) ?_
 rotate_left 1
 ·have e3:=hA.pre 3 (by kernel_rfl);simp only[gsa,gsc,gsz] at e3;have hBq:wr.heap[kq]?=_:=(hA.bl _ hlt_q (fun q h=>absurd h (Nat.not_lt_zero _))).trans HBq.out;have q0:=cell_at (v:=.int .i64 q0) hBq 0 rfl;have q1:=cell_at (v:=.bool qb) hBq 1 rfl;have q2:=cell_at (v:=.slice qo ql qc) hBq 2 rfl;have q3:=cell_at (v:=.string qn) hBq 3 rfl;have q4:=cell_at (v:=.slice qko qkl qkc) hBq 4 rfl;clear hBq;clear hA;refine⟨(by rfl),?_⟩;go_simp<;>(try with_reducible rfl)
 refine R7.Chain.call (fun xs v w=>∃ b o l c g,v=.agg #[.int .i64 3,.bool b,.slice o l c,.string ⟨#[]⟩,.slice (some ⟨g,0,none⟩) 1 1]/\FC w (fun b=>b≠kr) (d+1) (.agg #[.int .i64 3,.bool b,.slice o l c,.string ⟨#[]⟩,.slice (some ⟨g,0,none⟩) 1 1]) (.node 3 (-1) ⟨#[]⟩ [q])) (fun _ _ _ _ h hb=>by obtain⟨b,o,l,c,g,h1,h2⟩:=h;exact⟨b,o,l,c,g,h1,h2.below hb⟩) (fun _ _ _ _ _ _ h _=>by obtain⟨q,hq,_⟩:=h;exact absurd hq (Nat.not_lt_zero _)) (by rfl) (fun T xs wr hA=>?_) ?_
 ·have hsw:=(hA.be 0 (Nat.zero_le _) (fun _ _=>Nat.zero_le _)).size;have e6:=hA.tm 1 6 (by rfl) (by rfl);have e7:=hA.tm 2 7 (by rfl) (by rfl);have f7:xs 2=_:=hA.fa 2 (by rfl)
  (try simp (disch:=first | rfl | decide) only [R7.mask_in] at f7)
  rw[f7] at e7;clear f7;have hbw:=undrew (hA.be x3.heap.size (Nat.le_refl _) (fun q h=>absurd h (Nat.not_lt_zero q)));have hF1:∃ b o l c,(xs 1)=.agg #[.bool b,.slice o l c]/\CI wr (.agg #[.bool b,.slice o l c]) (-1) 600:=hA.fa 1 (by rfl);obtain⟨b1,o1,l1,c1,e1,hc1⟩:=hF1;have hqw:=HQ.out.below hbw;clear hA;refine⟨(by rfl),fun K hK=>?_⟩;go_simp
  refine (scaled_p _ _ (-1) q d _ _ (by first | exact hc1 | (rw[e1];exact hc1)) hqw).mono ?_;rintro e w' ⟨b,o,l,c,g,rfl,hf,hb'⟩;exact hK.out _ _ ⟨b,o,l,c,g,rfl,hf.mono (fun b hb=>hb.elim id (fun h=>by have h1:=lt_of_block HBr.out;have h2:=hbw.size;omega))⟩ hb'
 refine R7.Chain.call (fun xs v w=>∃ g,v=.slice (some ⟨g,0,none⟩) 2 2/\FL w (fun b=>b≠kr) (d+1) (.slice (some ⟨g,0,none⟩) 2 2) [p,(.node 3 (-1) ⟨#[]⟩ [q])]) (fun _ _ _ _ h hb=>by obtain⟨g,h1,h2⟩:=h;exact⟨g,h1,h2.below hb⟩) (fun _ _ _ _ _ _ h _=>by obtain⟨q,hq,_⟩:=h;exact absurd hq (Nat.not_lt_zero _)) (by rfl) (fun T xs wr hA=>?_) ?_
 ·have hsw:=(hA.be 0 (Nat.zero_le _) (fun _ _=>Nat.zero_le _)).size;have e5:=hA.tm 0 5 (by rfl) (by rfl);have f5:xs 0=_:=hA.fa 0 (by rfl)
  (try simp (disch:=first | rfl | decide) only [R7.mask_in] at f5)
  rw[f5] at e5;clear f5;have e8:=hA.tm 3 8 (by rfl) (by rfl);have hbw:=undrew (hA.be x3.heap.size (Nat.le_refl _) (fun q h=>absurd h (Nat.not_lt_zero q)));have hF3:∃ b o l c g,(xs 3)=.agg #[.int .i64 3,.bool b,.slice o l c,.string ⟨#[]⟩,.slice (some ⟨g,0,none⟩) 1 1]/\FC wr (fun b=>b≠kr) (d+1) (.agg #[.int .i64 3,.bool b,.slice o l c,.string ⟨#[]⟩,.slice (some ⟨g,0,none⟩) 1 1]) (.node 3 (-1) ⟨#[]⟩ [q]):=hA.fa 3 (by rfl);obtain⟨b3,o3,l3,c3,g3,e3,hc3⟩:=hF3;have hpw:=HP.out.below hbw;rw[e3] at e8;clear hA;refine⟨(by rfl),fun K hK=>?_⟩;go_simp
  exact hK.out _ _ ⟨_,rfl,FL.two (made_at _ _ _ rfl) (by have h1:=lt_of_block HBr.out;have h2:=hbw.size;show _≠kr;omega) (hpw.below ((Below.refl _ _).alloc (Nat.le_refl _) _)) (hc3.below ((Below.refl _ _).alloc (Nat.le_refl _) _))⟩ ((Below.refl _ _).alloc (Nat.le_refl _) _)
 refine R7.Chain.call (fun xs v w=>∃ g,v=.agg #[.int .i64 2,.bool false,.slice none 0 0,.string ⟨#[]⟩,.slice (some ⟨g,0,none⟩) 2 2]/\FC w (fun b=>b≠kr) (d+2) (.agg #[.int .i64 2,.bool false,.slice none 0 0,.string ⟨#[]⟩,.slice (some ⟨g,0,none⟩) 2 2]) (.node 2 0 ⟨#[]⟩ [p,(.node 3 (-1) ⟨#[]⟩ [q])])) (fun _ _ _ _ h hb=>by obtain⟨g,h1,h2⟩:=h;exact⟨g,h1,h2.below hb⟩) (fun _ _ _ _ _ _ h _=>by obtain⟨q,hq,_⟩:=h;exact absurd hq (Nat.not_lt_zero _)) (by rfl) (fun T xs wr hA=>?_) ?_
 ·have hsw:=(hA.be 0 (Nat.zero_le _) (fun _ _=>Nat.zero_le _)).size;have e9:=hA.tm 4 9 (by rfl) (by rfl);have hbw:=undrew (hA.be x3.heap.size (Nat.le_refl _) (fun q h=>absurd h (Nat.not_lt_zero q)));have hF4:∃ g,(xs 4)=.slice (some ⟨g,0,none⟩) 2 2/\FL wr (fun b=>b≠kr) (d+1) (.slice (some ⟨g,0,none⟩) 2 2) [p,(.node 3 (-1) ⟨#[]⟩ [q])]:=hA.fa 4 (by rfl);obtain⟨g4,e4,hl4⟩:=hF4;clear hA;refine⟨(by rfl),fun K hK=>?_⟩;go_simp
  refine (of_p 2 _ _ _ _).mono ?_;rintro e w' ⟨rfl,hb'⟩;exact hK.out _ _ ⟨_,rfl,FC.mk (by unfold IR;decide) (nr0 _) (hl4.below hb')⟩ hb'
 refine R7.Chain.done (fun xs x4 hL=>?_);obtain⟨⟨hbe,hbl⟩,hf,-,-⟩:=hL;have f0:xs 0=_:=hf 0 (by decide)
 (try simp (disch:=first | rfl | decide) only [R7.mask_in] at f0)
 have F1:∃ b o l c,(xs 1)=.agg #[.bool b,.slice o l c]/\CI x4 (.agg #[.bool b,.slice o l c]) (-1) 600:=hf 1 (by decide);have f2:xs 2=_:=hf 2 (by decide)
 (try simp (disch:=first | rfl | decide) only [R7.mask_in] at f2)
 have F3:∃ b o l c g,(xs 3)=.agg #[.int .i64 3,.bool b,.slice o l c,.string ⟨#[]⟩,.slice (some ⟨g,0,none⟩) 1 1]/\FC x4 (fun b=>b≠kr) (d+1) (.agg #[.int .i64 3,.bool b,.slice o l c,.string ⟨#[]⟩,.slice (some ⟨g,0,none⟩) 1 1]) (.node 3 (-1) ⟨#[]⟩ [q]):=hf 3 (by decide);have F4:∃ g,(xs 4)=.slice (some ⟨g,0,none⟩) 2 2/\FL x4 (fun b=>b≠kr) (d+1) (.slice (some ⟨g,0,none⟩) 2 2) [p,(.node 3 (-1) ⟨#[]⟩ [q])]:=hf 4 (by decide);have F5:∃ g,(xs 5)=.agg #[.int .i64 2,.bool false,.slice none 0 0,.string ⟨#[]⟩,.slice (some ⟨g,0,none⟩) 2 2]/\FC x4 (fun b=>b≠kr) (d+2) (.agg #[.int .i64 2,.bool false,.slice none 0 0,.string ⟨#[]⟩,.slice (some ⟨g,0,none⟩) 2 2]) (.node 2 0 ⟨#[]⟩ [p,(.node 3 (-1) ⟨#[]⟩ [q])]):=hf 5 (by decide);have hb0:Below 0 x3 x4:=undrew (hbe 0 (Nat.zero_le _) (fun _ _=>Nat.zero_le _))
 have hgr:∀ j,j<x3.heap.size->(∀ q,q<0->(fun q=>0) q≠j)->x4.heap[j]?=x3.heap[j]?:=hbl;clear hbe hbl hf;have hb:Below x3.heap.size x3 x4:=⟨hb0.os,hb0.tape,hb0.output,hb0.size,fun q hq=>hgr q hq (fun q h=>absurd h (Nat.not_lt_zero _))⟩
 refine R7.rest_list (by decide) (by kernel_rfl) ?_;simp only[R7.fill,t1_,t2_,t3_,t4_,t5_,t6_,t7_,f0,f2];clear hb0 hgr hog hlt_a hlt_q f0 f2;replace HBa:=kBV hb HBa;replace HBq:=kBV hb HBq;replace HBr:=kBV hb HBr;replace HW:=Lib.hid (HW.out.trans (hb.mono HW.out.size));replace HP:=Lib.hid (HP.out.below hb);replace HQ:=Lib.hid (HQ.out.below hb);replace hb:=Lib.hid hb;obtain⟨g,hy1,hy2⟩:=F5;have HV:=Lib.hid hy2;obtain⟨⟨r0,r1,r2,r3,r4⟩,fr0,fr1,fr2,fr3,fr4⟩:=cells5V HBr.out;go_wp2_with fail
 obtain⟨s1,s2⟩:=res5F HW.out HBr.out n32_F HKr.out (.int .i64 2) (.bool false) (.slice none 0 0) (.string ⟨#[]⟩) (.slice (some ⟨g,0,none⟩) 2 2)
 (try simp only[Exit.inBlock,Exit.then])
 exact bodyPost_ret (v:=.agg #[.int .i64 2,.bool false,.slice none 0 0,.string ⟨#[]⟩,.slice (some ⟨g,0,none⟩) 2 2]) (by simp[results,Try.results25,go_sem,r0,r1,r2,r3,r4]) rfl ⟨_,rfl,(HV.out.put (grown5V _ _ _ _ _) s1).t,s2⟩
end Go.Proofs.Ytdkfnbbebpbhaaa
