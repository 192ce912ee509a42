/-
 Joined texts: LgZd,LgZe,LgBh,KTab,LgBi,VlO,LgZft.
-/
import Derived.Test.YtdkfnbbebpbhaaaGreatDoorCards
import Derived.Test.YtdkfnbbebpbhaaaGreatDoorTie
import Derived.ProofKit
import Derived.OpenShut
import Derived.ShutString
import Derived.ChangeOld
import Derived.Deep.DeepHandedRow
import Derived.Lib.LaidTab
import Derived.LaidMore
import Derived.Lay
import Derived.Lib.ItoaNum
import Derived.PinnedBridge
import Derived.Lib.LaidU8
import Derived.Lib.LaidPrint
import Derived.Deep.Slices
import Derived.Test.YtdkfnbbebpbhaaaGreatDoorJLogicTexts1
import Derived.Test.YtdkfnbbebpbhaaaGreatDoorJLogicTexts3
import Derived.Test.YtdkfnbbebpbhaaaGreatDoorJLogicTexts5
import Derived.Test.YtdkfnbbebpbhaaaGreatDoorJLogicTexts6
import Derived.Test.YtdkfnbbebpbhaaaGreatDoorJLogicTexts7
set_option maxHeartbeats 32000000
namespace Go.Proofs.YtdkfnbbebpbhaaaGreatDoor
open Go.RowKit
set_option maxRecDepth 100000
set_option linter.unusedVariables false
set_option linter.unusedSimpArgs false
def opAttame_2s (j:Nat):Int:=[(8:Int),(9:Int),(10:Int),(11:Int)].getD j 0
theorem tame_2s (d:Nat) (hd0:1<=d) (hd:d<=100) (IT:TameC d) (xo:Int) (xb:Bool) (xao:Option Addr) (xl xc:Nat) (xnm:ByteArray) (xko:Option Addr) (xkl xkc:Nat) (w:World) (hx:RawF w (d+1) ⟨xo,xb,xao,xl,xc,xnm,xko,xkl,xkc⟩) :
  Calls Tryz.prog 10 #[.agg #[.int .i64 xo,.bool xb,.slice xao xl xc,.string xnm,.slice xko xkl xkc],.int .i64 2,.int .i64 ((d:Nat)+1:Int)] w (TamePost (d+1) 2 w):=by
 have HX:=Lib.hid hx;have HIT:=Lib.hid IT;have HD0:=Lib.hid hd0;have HD:=Lib.hid hd;have hdle:decide (((d:Nat)+1:Int)<=1)=false:=by simp;omega
 clear IT hd0 hd;obtain⟨-,hn,-,⟨hk1,hk2⟩,-⟩:=hx;simp only at hn hk1 hk2;have hxm:xkc<=9223372036854775807:=hk2;obtain⟨m,hm⟩:∃ m,m=min xl 2:=⟨_,rfl⟩
 have hmin:min (xl:Int) 2=(m:Int):=by omega
 have hm2:m<=2:=by omega
 have hml:m<=xl:=by omega
 have hx2:∃ q,GN w (.slice xao m xc) q 2/\xl<=xc/\xc<=9223372036854775807:=by
  obtain⟨xs,hs,hdg⟩:=hn;have hl:=sl_len hs;obtain⟨_,_,e,h1,h2,_⟩:=id hs;injection e with e1 e2 e3;subst e3;exact⟨_,⟨xs.take m,hs.take m (by omega),hdg.take m,rfl,by rw[List.length_take];omega⟩,by omega,h2⟩
 obtain⟨q,hq,hlc,hc⟩:=hx2;have hmc:m<=xc:=by omega
 have HG:=Lib.hid hq;clear hq hn hm hk2;obtain⟨K,hK,hK2⟩:=and_255 xo;obtain⟨j,hj⟩:∃ j,j=K % 4:=⟨_,rfl⟩
 have hjm:((K:Nat):Int).tmod 4=((j:Nat):Int):=by rw[hj];exact (Int.ofNat_tmod K 4).symm
 have hjN:j<4:=by rw[hj];exact Nat.mod_lt _ (by decide)
 clear hj hK2;have HW:=Lib.hid (Below.refl w.heap.size w);go_enter Tryz.func10,Tryz.ntmps10
 obtain⟨x1,kf,ef,ekf,hbf,hkf,HBf⟩:=newV w #[.int .i64 xo,.bool xb,.slice xao xl xc,.string xnm,.slice xko xkl xkc] 29;replace HW:=Lib.hid (HW.out.trans (hbf.out.mono HW.out.size));replace HG:=Lib.hid (HG.out.below hbf.out);obtain⟨x2,kd,ed,ekd,hbd,hkd,HBd⟩:=newV x1 #[.int .i64 ((d:Nat)+1:Int)] 3;replace HBf:=kBV hbd.out HBf;replace HW:=Lib.hid (HW.out.trans (hbd.out.mono HW.out.size));replace HG:=Lib.hid (HG.out.below hbd.out);obtain⟨x3,kr,er,ekr,hbr,hkr,HBr⟩:=newV x2 #[.int .i64 0,.bool false,.slice none 0 0,.string ⟨#[]⟩,.slice none 0 0] 29;replace HBf:=kBV hbr.out HBf;replace HBd:=kBV hbr.out HBd;replace HW:=Lib.hid (HW.out.trans (hbr.out.mono HW.out.size));replace HG:=Lib.hid (HG.out.below hbr.out);have HKR:Hid (w.heap.size<=kr):=Lib.hid (by have h1:=hbf.out.size;have h2:=hbd.out.size;have h3:=hkr.out;omega)
 obtain⟨x4,kp,ep,ekp,hbp,hkp,HBp⟩:=newV x3 #[.int .i64 1,.int .i64 0,.int .i64 2,.int .i64 3,.int .i64 4,.int .i64 5,.int .i64 6,.int .i64 7] 22;replace HBf:=kBV hbp.out HBf;replace HBd:=kBV hbp.out HBd;replace HBr:=kBV hbp.out HBr;replace HW:=Lib.hid (HW.out.trans (hbp.out.mono HW.out.size));replace HG:=Lib.hid (HG.out.below hbp.out);obtain⟨x5,kq,eq,ekq,hbq,hkq,HBq⟩:=newV x4 #[.int .i64 14,.int .i64 12,.int .i64 13,.int .i64 15,.int .i64 16,.int .i64 16,.int .i64 17,.int .i64 18,.int .i64 19,.int .i64 20] 22;replace HBf:=kBV hbq.out HBf;replace HBd:=kBV hbq.out HBd;replace HBr:=kBV hbq.out HBr;replace HBp:=kBV hbq.out HBp;replace HW:=Lib.hid (HW.out.trans (hbq.out.mono HW.out.size));replace HG:=Lib.hid (HG.out.below hbq.out)
 obtain⟨x6,kt,et,ekt,hbt,hkt,HBt⟩:=newV x5 #[.int .i64 8,.int .i64 9,.int .i64 10,.int .i64 11] 22;replace HBf:=kBV hbt.out HBf;replace HBd:=kBV hbt.out HBd;replace HBr:=kBV hbt.out HBr;replace HBp:=kBV hbt.out HBp;replace HBq:=kBV hbt.out HBq;replace HW:=Lib.hid (HW.out.trans (hbt.out.mono HW.out.size));replace HG:=Lib.hid (HG.out.below hbt.out);have hidx:=idx3_2 (some ⟨kp,0,none⟩) (some ⟨kq,0,none⟩) (some ⟨kt,0,none⟩) 8 10 4 8 10 4;have f0:=cell_at (v:=.int .i64 xo) HBf.out 0 rfl;have ff0:=froz_at HBf.out 0;have f1:=cell_at (v:=.bool xb) HBf.out 1 rfl;have ff1:=froz_at HBf.out 1;have f2:=cell_at (v:=.slice xao xl xc) HBf.out 2 rfl;have ff2:=froz_at HBf.out 2;have f3:=cell_at (v:=.string xnm) HBf.out 3 rfl;have ff3:=froz_at HBf.out 3;have f4:=cell_at (v:=.slice xko xkl xkc) HBf.out 4 rfl;have ff4:=froz_at HBf.out 4
 have d0:=cell_at (v:=.int .i64 ((d:Nat)+1:Int)) HBd.out 0 rfl;have fd0:=froz_at HBd.out 0
 have hop:x6.cell? ⟨kt,j,none⟩=some (.int .i64 (opAttame_2s j)):=by
  have:j=0\/j=1\/j=2\/j=3:=by omega
  rcases this with rfl | rfl | rfl | rfl<;>exact cell_at HBt.out _ rfl
 obtain⟨op,hopd⟩:∃ op,op=opAttame_2s j:=⟨_,rfl⟩
 rw[<-hopd] at hop;have HOP:=Lib.hid hopd;clear hopd;go_upto_region 7 with fail
 clear f0 ff0 f1 ff1 f2 ff2 f3 ff3 f4 ff4 d0 fd0 hop;clear hidx hjm hK;have HWp:=HW;have HBfp:=HBf;have HBdp:=HBd;have HBrp:=HBr;obtain⟨x7,ko,eo,eko,hbo,hko,HBo⟩:=newV x6 #[.int .i64 op,.bool false,.slice none 0 0,.string ⟨#[]⟩,.slice none 0 0] 29;replace HBf:=kBV hbo.out HBf;replace HBd:=kBV hbo.out HBd;replace HBr:=kBV hbo.out HBr;replace HBp:=kBV hbo.out HBp;replace HBq:=kBV hbo.out HBq;replace HBt:=kBV hbo.out HBt;replace HW:=Lib.hid (HW.out.trans (hbo.out.mono HW.out.size));replace HG:=Lib.hid (HG.out.below hbo.out);rw[eo,eko];have HKO:Hid (w.heap.size<=ko):=Lib.hid (by have:=HWp.out.size;have:=hko.out;omega);go_upto_region 8 with fail
 have HY:=Lib.hid (Below.refl x7.heap.size x7);have HBf0:=HBf;have HBd0:=HBd;have HBr0:=HBr;have HBo0:=HBo;have hlt_f:=lt_of_block HBf.out;have hog:Hid (∀ q,q<0->(fun q=>0) q<x7.heap.size):=Lib.hid (fun q h=>absurd h (Nat.not_lt_zero _));refine R7.region (by kernel_rfl) [[],[0],[0,1],[],[3],[3,4],[],[6],[6,7],[6,7,8],[6,7,8,9],[3,4,5,6,7,8,9,10],[0,1,2,3,4,5,6,7,8,9,10,11],[],[0,1,2,3,4,5,6,7,8,9,10,11,12,13]] [] [] (fun q=>0) 0 14 (by kernel_rfl) (by kernel_rfl) (by rfl) hog.out (fun q q' h h' hn=>absurd hn (by omega)) ?_;refine R7.Chain.det ?_ (by rfl) (fun T xs wr hA=>?_) ?_
 rotate_left 1
 ·have e3:=hA.pre 3 (by kernel_rfl);simp only[gsa,gsc,gsz] at e3;clear hA;refine⟨(by rfl),?_⟩;go_simp<;>(try with_reducible rfl)
 refine R7.Chain.det ?_ (by rfl) (fun T xs wr hA=>?_) ?_
 rotate_left 1
 ·have e36:=hA.tm 0 36 (by rfl) (by rfl);have f36:xs 0=_:=hA.fa 0 (by rfl)
  (try simp (disch:=first | rfl | decide) only [R7.mask_in] at f36)
  rw[f36] at e36;clear f36;clear hA;refine⟨(by rfl),?_⟩;go_simp<;>(try with_reducible rfl)
 refine R7.Chain.det ?_ (by rfl) (fun T xs wr hA=>?_) ?_
 rotate_left 1
 ·have e37:=hA.tm 1 37 (by rfl) (by rfl);have f37:xs 1=_:=hA.fa 1 (by rfl)
  (try simp (disch:=first | rfl | decide) only [R7.mask_in] at f37)
  rw[f37] at e37;clear f37;have hBq:wr.heap[kf]?=_:=(hA.bl _ hlt_f (fun q h=>absurd h (Nat.not_lt_zero _))).trans HBf.out;have q0:=cell_at (v:=.int .i64 xo) hBq 0 rfl;have q1:=cell_at (v:=.bool xb) hBq 1 rfl;have q2:=cell_at (v:=.slice xao xl xc) hBq 2 rfl;have q3:=cell_at (v:=.string xnm) hBq 3 rfl;have q4:=cell_at (v:=.slice xko xkl xkc) hBq 4 rfl;clear hBq;clear hA;refine⟨(by rfl),?_⟩;go_simp<;>(try with_reducible rfl)
 refine R7.Chain.det ?_ (by rfl) (fun T xs wr hA=>?_) ?_
 rotate_left 1
 ·have e3:=hA.pre 3 (by kernel_rfl);simp only[gsa,gsc,gsz] at e3;clear hA;refine⟨(by rfl),?_⟩;go_simp<;>(try with_reducible rfl)
 refine R7.Chain.det ?_ (by rfl) (fun T xs wr hA=>?_) ?_
 rotate_left 1
 ·have e39:=hA.tm 3 39 (by rfl) (by rfl);have f39:xs 3=_:=hA.fa 3 (by rfl)
  (try simp (disch:=first | rfl | decide) only [R7.mask_in] at f39)
  rw[f39] at e39;clear f39;clear hA;refine⟨(by rfl),?_⟩;go_simp<;>(try with_reducible rfl)
 refine R7.Chain.det ?_ (by rfl) (fun T xs wr hA=>?_) ?_
 rotate_left 1
 ·have e40:=hA.tm 4 40 (by rfl) (by rfl);have f40:xs 4=_:=hA.fa 4 (by rfl)
  (try simp (disch:=first | rfl | decide) only [R7.mask_in] at f40)
  rw[f40] at e40;clear f40;have hBq:wr.heap[kf]?=_:=(hA.bl _ hlt_f (fun q h=>absurd h (Nat.not_lt_zero _))).trans HBf.out;have q0:=cell_at (v:=.int .i64 xo) hBq 0 rfl;have q1:=cell_at (v:=.bool xb) hBq 1 rfl;have q2:=cell_at (v:=.slice xao xl xc) hBq 2 rfl;have q3:=cell_at (v:=.string xnm) hBq 3 rfl;have q4:=cell_at (v:=.slice xko xkl xkc) hBq 4 rfl;clear hBq;clear hA;refine⟨(by rfl),?_⟩;go_simp<;>(try with_reducible rfl)
 refine R7.Chain.det ?_ (by rfl) (fun T xs wr hA=>?_) ?_
 rotate_left 1
 ·have e3:=hA.pre 3 (by kernel_rfl);simp only[gsa,gsc,gsz] at e3;clear hA;refine⟨(by rfl),?_⟩;go_simp<;>(try with_reducible rfl)
 refine R7.Chain.det ?_ (by rfl) (fun T xs wr hA=>?_) ?_
 rotate_left 1
 ·have e42:=hA.tm 6 42 (by rfl) (by rfl);have f42:xs 6=_:=hA.fa 6 (by rfl)
  (try simp (disch:=first | rfl | decide) only [R7.mask_in] at f42)
  rw[f42] at e42;clear f42;clear hA;refine⟨(by rfl),?_⟩;go_simp<;>(try with_reducible rfl)
 refine R7.Chain.det ?_ (by rfl) (fun T xs wr hA=>?_) ?_
 rotate_left 1
 ·have e43:=hA.tm 7 43 (by rfl) (by rfl);have f43:xs 7=_:=hA.fa 7 (by rfl)
  (try simp (disch:=first | rfl | decide) only [R7.mask_in] at f43)
  rw[f43] at e43;clear f43;have hBq:wr.heap[kf]?=_:=(hA.bl _ hlt_f (fun q h=>absurd h (Nat.not_lt_zero _))).trans HBf.out;have q0:=cell_at (v:=.int .i64 xo) hBq 0 rfl;have q1:=cell_at (v:=.bool xb) hBq 1 rfl;have q2:=cell_at (v:=.slice xao xl xc) hBq 2 rfl;have q3:=cell_at (v:=.string xnm) hBq 3 rfl;have q4:=cell_at (v:=.slice xko xkl xkc) hBq 4 rfl;clear hBq;clear hA;refine⟨(by rfl),?_⟩;go_simp<;>(try with_reducible rfl)
 refine R7.Chain.det ?_ (by rfl) (fun T xs wr hA=>?_) ?_
 rotate_left 1
 ·have e44:=hA.tm 8 44 (by rfl) (by rfl);have f44:xs 8=_:=hA.fa 8 (by rfl)
  (try simp (disch:=first | rfl | decide) only [R7.mask_in] at f44)
  rw[f44] at e44;clear f44;clear hA;refine⟨(by rfl),?_⟩;go_simp<;>(try with_reducible rfl)
 refine R7.Chain.det ?_ (by rfl) (fun T xs wr hA=>?_) ?_
 rotate_left 1
 ·have e45:=hA.tm 9 45 (by rfl) (by rfl);have f45:xs 9=_:=hA.fa 9 (by rfl)
  (try simp (disch:=first | rfl | decide) only [R7.mask_in] at f45)
  rw[f45] at e45;clear f45;clear hA;refine⟨(by rfl),?_⟩;go_simp<;>(try with_reducible rfl)
 refine R7.Chain.det ?_ (by rfl) (fun T xs wr hA=>?_) ?_
 rotate_left 1
 ·have e41:=hA.tm 5 41 (by rfl) (by rfl);have f41:xs 5=_:=hA.fa 5 (by rfl)
  (try simp (disch:=first | rfl | decide) only [R7.mask_in] at f41)
  rw[f41] at e41;clear f41;have e46:=hA.tm 10 46 (by rfl) (by rfl);have f46:xs 10=_:=hA.fa 10 (by rfl)
  (try simp (disch:=first | rfl | decide) only [R7.mask_in] at f46)
  rw[f46] at e46;clear f46;clear hA;refine⟨(by rfl),?_⟩;go_simp<;>(try with_reducible rfl)
 refine R7.Chain.call (fun xs v w=>∃ z,CI w v z 2) (fun _ _ _ _ h hb=>by obtain⟨z,h2⟩:=h;exact⟨z,h2.below hb⟩) (fun _ _ _ _ _ _ h _=>by obtain⟨q,hq,_⟩:=h;exact absurd hq (Nat.not_lt_zero _)) (by rfl) (fun T xs wr hA=>?_) ?_
 ·have hsw:=(hA.be 0 (Nat.zero_le _) (fun _ _=>Nat.zero_le _)).size;have e38:=hA.tm 2 38 (by rfl) (by rfl);have f38:xs 2=_:=hA.fa 2 (by rfl)
  (try simp (disch:=first | rfl | decide) only [R7.mask_in] at f38)
  rw[f38] at e38;clear f38;have e47:=hA.tm 11 47 (by rfl) (by rfl);have f47:xs 11=_:=hA.fa 11 (by rfl)
  (try simp (disch:=first | rfl | decide) only [R7.mask_in] at f47)
  rw[f47] at e47;clear f47;have hbw:=undrew (hA.be x7.heap.size (Nat.le_refl _) (fun q h=>absurd h (Nat.not_lt_zero q)));clear hA;refine⟨(by rfl),fun K hK=>?_⟩;go_simp
  refine (big_any xb _ q 2 wr (HG.out.below hbw) (by decide)).mono ?_;rintro e w' ⟨v,rfl,hc,hb'⟩;exact hK.out _ _ ⟨_,hc⟩ hb'
 refine R7.Chain.call (fun xs v w=>∃ g,v=.pointer (some ⟨g,0,none⟩)/\x7.heap.size<=g/\w.heap[g]?=some (.cells #[.bool false,.slice none 0 0] 26 (0,0))) (fun _ _ _ _ h hb=>by obtain⟨g,h1,h2,h3⟩:=h;exact⟨g,h1,h2,by rw[hb.block g (lt_of_block h3)];exact h3⟩) (fun _ _ _ _ _ _ h _=>by obtain⟨q,hq,_⟩:=h;exact absurd hq (Nat.not_lt_zero _)) (by rfl) (fun T xs wr hA=>?_) ?_
 ·have hsw:=(hA.be 0 (Nat.zero_le _) (fun _ _=>Nat.zero_le _)).size;have hbw:=undrew (hA.be x7.heap.size (Nat.le_refl _) (fun q h=>absurd h (Nat.not_lt_zero q)));clear hA;refine⟨(by rfl),fun K hK=>?_⟩;go_simp
  exact hK.out _ _ ⟨_,rfl,hbw.size,made_at _ _ _ rfl⟩ ((Below.refl _ _).alloc (Nat.le_refl _) _)
 refine R7.Chain.done (fun xs x8 hL=>?_);obtain⟨⟨hbe,hbl⟩,hf,-,-⟩:=hL;have f0:xs 0=_:=hf 0 (by decide)
 (try simp (disch:=first | rfl | decide) only [R7.mask_in] at f0)
 have f1:xs 1=_:=hf 1 (by decide)
 (try simp (disch:=first | rfl | decide) only [R7.mask_in] at f1)
 have f2:xs 2=_:=hf 2 (by decide)
 (try simp (disch:=first | rfl | decide) only [R7.mask_in] at f2)
 have f3:xs 3=_:=hf 3 (by decide)
 (try simp (disch:=first | rfl | decide) only [R7.mask_in] at f3)
 have f4:xs 4=_:=hf 4 (by decide)
 (try simp (disch:=first | rfl | decide) only [R7.mask_in] at f4)
 have f5:xs 5=_:=hf 5 (by decide)
 (try simp (disch:=first | rfl | decide) only [R7.mask_in] at f5)
 have f6:xs 6=_:=hf 6 (by decide)
 (try simp (disch:=first | rfl | decide) only [R7.mask_in] at f6)
 have f7:xs 7=_:=hf 7 (by decide)
 (try simp (disch:=first | rfl | decide) only [R7.mask_in] at f7)
 have f8:xs 8=_:=hf 8 (by decide)
 (try simp (disch:=first | rfl | decide) only [R7.mask_in] at f8)
 have f9:xs 9=_:=hf 9 (by decide)
 (try simp (disch:=first | rfl | decide) only [R7.mask_in] at f9)
 have f10:xs 10=_:=hf 10 (by decide)
 (try simp (disch:=first | rfl | decide) only [R7.mask_in] at f10)
 have f11:xs 11=_:=hf 11 (by decide)
 (try simp (disch:=first | rfl | decide) only [R7.mask_in] at f11)
 have F12:∃ z,CI x8 (xs 12) z 2:=hf 12 (by decide);have F13:∃ g,(xs 13)=.pointer (some ⟨g,0,none⟩)/\x7.heap.size<=g/\x8.heap[g]?=some (.cells #[.bool false,.slice none 0 0] 26 (0,0)):=hf 13 (by decide);have hb0:Below 0 x7 x8:=undrew (hbe 0 (Nat.zero_le _) (fun _ _=>Nat.zero_le _));have hgr:∀ j,j<x7.heap.size->(∀ q,q<0->(fun q=>0) q≠j)->x8.heap[j]?=x7.heap[j]?:=hbl;clear hbe hbl hf;have hb:Below x7.heap.size x7 x8:=⟨hb0.os,hb0.tape,hb0.output,hb0.size,fun q hq=>hgr q hq (fun q h=>absurd h (Nat.not_lt_zero _))⟩
 refine R7.rest_list (by decide) (by kernel_rfl) ?_;simp only[R7.fill,t1_,t2_,t3_,t4_,t5_,t6_,t7_,f0,f1,f2,f3,f4,f5,f6,f7,f8,f9,f10,f11];clear hb0 hgr hog hlt_f f0 f1 f2 f3 f4 f5 f6 f7 f8 f9 f10 f11;replace HBf:=kBV hb HBf;replace HBd:=kBV hb HBd;replace HBr:=kBV hb HBr;replace HBp:=kBV hb HBp;replace HBq:=kBV hb HBq;replace HBt:=kBV hb HBt;replace HBo:=kBV hb HBo;replace HW:=Lib.hid (HW.out.trans (hb.mono HW.out.size));replace HG:=Lib.hid (HG.out.below hb);replace HY:=Lib.hid (HY.out.trans (hb.mono HY.out.size));replace hb:=Lib.hid hb;obtain⟨z,hcz⟩:=F12;obtain⟨zb,zo,zl,zc,hzv⟩:=hcz.shape;obtain⟨km,hkm,hkm1,hkm2⟩:=F13;rw[hzv] at hcz;rw[hzv,hkm];have HC:=Lib.hid (hcz.mono (k':=600) (by decide));have HCZ:=Lib.hid hcz.lt;have HBm:=Lib.hid hkm2;clear hcz hzv hkm hkm2;have m0:=cell_at (v:=.bool false) HBm.out 0 rfl
 have fm0:=froz_at HBm.out 0;have m1:=cell_at (v:=.slice none 0 0) HBm.out 1 rfl;have fm1:=froz_at HBm.out 1;go_upto_region 9 with fail
 clear m0 fm0 m1 fm1;have hg1:=grown2V (w:=x8) (k:=km) (.bool zb) (.slice zo zl zc);have hb1:((x8.setCell ⟨km,0,none⟩ (.bool zb)).setCell ⟨km,1,none⟩ (.slice zo zl zc)).heap[km]?=_:=heap_setCell_same _ km 1 _ _ _ (heap_setCell_same _ km 0 _ _ _ HBm.out);obtain⟨W1,hW1⟩:∃ q,q=(x8.setCell ⟨km,0,none⟩ (.bool zb)).setCell ⟨km,1,none⟩ (.slice zo zl zc):=⟨_,rfl⟩
 rw[<-hW1] at hg1 hb1 ⊢;have hf1:Fr 26 x8 W1:=.of_grown hg1 (fun j hj=>by injection hj with hj;subst hj;exact⟨_,HBm.out,n32_2⟩);have HKM:Hid (w.heap.size<=km):=Lib.hid (Nat.le_trans (by have:=HKO.out;have:=lt_of_block HBo0.out;omega) hkm1);replace HW:=Lib.hid (ext_below HW.out hg1 HKM.out);replace HY:=Lib.hid (ext_below HY.out hg1 hkm1);replace HC:=Lib.hid (HC.out.fr hf1);replace HBf:=Lib.hid ((HY.out.block _ (lt_of_block HBf0.out)).trans HBf0.out);replace HBd:=Lib.hid ((HY.out.block _ (lt_of_block HBd0.out)).trans HBd0.out);replace HBr:=Lib.hid ((HY.out.block _ (lt_of_block HBr0.out)).trans HBr0.out);replace HBo:=Lib.hid ((HY.out.block _ (lt_of_block HBo0.out)).trans HBo0.out);replace HBm:=Lib.hid hb1;clear hg1 hb1 hW1 hf1 hkm1
 have HLOW:Hid (kf<W1.heap.size/\kd<W1.heap.size/\kr<W1.heap.size/\ko<W1.heap.size):=Lib.hid ⟨lt_of_block HBf.out,lt_of_block HBd.out,lt_of_block HBr.out,lt_of_block HBo.out⟩;have HDIS:Hid (kf≠ko/\kd≠ko/\kr≠ko):=Lib.hid (by have h1:=lt_of_block HBfp.out;have h2:=lt_of_block HBdp.out;have h3:=lt_of_block HBrp.out;rw[eko] at h1 h2 h3;omega);have HB0:Hid (w.heap.size<=W1.heap.size):=Lib.hid HW.out.size;have hjc:j=0\/j=1\/j=2\/j=3:=by omega
 rcases hjc with rfl | rfl | rfl | rfl
 ·have hop2:op=8:=HOP.out;subst hop2;clear HOP;have HSZP:Hid (W1.heap.size<=W1.heap.size):=Lib.hid (Nat.le_refl _);rcases (tmod_cases xnm.size).2 with hr | hr
  ·have o0:=cell_at (v:=.int .i64 8) HBo.out 0 rfl;have fo0:=froz_at HBo.out 0;have o1:=cell_at (v:=.bool false) HBo.out 1 rfl;have fo1:=froz_at HBo.out 1;have o2:=cell_at (v:=.slice none 0 0) HBo.out 2 rfl;have fo2:=froz_at HBo.out 2;have o3:=cell_at (v:=.string ⟨#[]⟩) HBo.out 3 rfl;have fo3:=froz_at HBo.out 3;have o4:=cell_at (v:=.slice none 0 0) HBo.out 4 rfl;have fo4:=froz_at HBo.out 4;have m0:=cell_at (v:=.bool zb) HBm.out 0 rfl;have fm0:=froz_at HBm.out 0;have m1:=cell_at (v:=.slice zo zl zc) HBm.out 1 rfl;have fm1:=froz_at HBm.out 1;have f0:=cell_at (v:=.int .i64 xo) HBf.out 0 rfl;have ff0:=froz_at HBf.out 0;have f1:=cell_at (v:=.bool xb) HBf.out 1 rfl;have ff1:=froz_at HBf.out 1;have f2:=cell_at (v:=.slice xao xl xc) HBf.out 2 rfl;have ff2:=froz_at HBf.out 2;have f3:=cell_at (v:=.string xnm) HBf.out 3 rfl
   have ff3:=froz_at HBf.out 3;have f4:=cell_at (v:=.slice xko xkl xkc) HBf.out 4 rfl;have ff4:=froz_at HBf.out 4;have hcv:=one_byteL 48 48 (by decide) W1;obtain⟨x9,ky,ey,eky,hby,hky,HBy⟩:=newV W1 #[.int .u8 48] 5;replace HBf:=kBV hby.out HBf;replace HBd:=kBV hby.out HBd;replace HBr:=kBV hby.out HBr;replace HBo:=kBV hby.out HBo;replace HBm:=kBV hby.out HBm;replace HW:=Lib.hid (HW.out.trans (hby.out.mono HW.out.size));replace HC:=Lib.hid (HC.out.below hby.out);rw[ey,eky] at hcv;have p0:=cell_at (v:=.int .i64 8) HBo.out 0 rfl;have fp0:=froz_at HBo.out 0;have p1:=cell_at (v:=.bool false) HBo.out 1 rfl;have fp1:=froz_at HBo.out 1;have p2:=cell_at (v:=.slice none 0 0) HBo.out 2 rfl;have fp2:=froz_at HBo.out 2;have p3:=cell_at (v:=.string ⟨#[]⟩) HBo.out 3 rfl;have fp3:=froz_at HBo.out 3
   have p4:=cell_at (v:=.slice none 0 0) HBo.out 4 rfl;have fp4:=froz_at HBo.out 4;replace HSZP:=Lib.hid (Nat.le_trans HSZP.out hby.out.size);go_upto_region 21 with fail
   clear o0 fo0 o1 fo1 o2 fo2 o3 fo3 o4 fo4 m0 fm0 m1 fm1 f0 ff0 f1 ff1 f2 ff2 f3 ff3 f4 ff4 p0 fp0 p1 fp1 p2 fp2 p3 fp3 p4 fp4
   try clear hcv
   try clear hr
   rw[show ((⟨#[108]⟩:ByteArray)++⟨#[48]⟩)=⟨#[108,48]⟩ from rfl];have hgo:x9.grownBy (x9.setCell ⟨ko,3,none⟩ (.string ⟨#[108,48]⟩)) (some ko):=by refine grown_setCell ?_ _;exact World.grownBy.refl _ _
   have hbo:(x9.setCell ⟨ko,3,none⟩ (.string ⟨#[108,48]⟩)).heap[ko]?=_:=(heap_setCell_same _ ko 3 _ _ (.string ⟨#[108,48]⟩) HBo.out)
   obtain⟨W2,hW2⟩:∃ q,q=x9.setCell ⟨ko,3,none⟩ (.string ⟨#[108,48]⟩):=⟨_,rfl⟩
   rw[<-hW2] at hgo hbo ⊢;have hfo:Fr 29 x9 W2:=.of_grown hgo (fun j hj=>by injection hj with hj;subst hj;exact⟨_,HBo.out,n32_F⟩);replace HW:=Lib.hid (ext_below HW.out hgo HKO.out);replace HC:=Lib.hid (HC.out.fr hfo);replace HBf:=Lib.hid ((hgo.block _ (lt_of_block HBf.out) (fun e=>by injection e with e;exact HDIS.out.1 e)).trans HBf.out);replace HBd:=Lib.hid ((hgo.block _ (lt_of_block HBd.out) (fun e=>by injection e with e;exact HDIS.out.2.1 e)).trans HBd.out);replace HBr:=Lib.hid ((hgo.block _ (lt_of_block HBr.out) (fun e=>by injection e with e;exact HDIS.out.2.2 e)).trans HBr.out);have HSZW:Hid (W1.heap.size<=W2.heap.size):=Lib.hid (Nat.le_trans HSZP.out hgo.size);replace HBo:=Lib.hid hbo;clear hgo hbo hW2 hfo HSZP;have HSZP:=HSZW;clear HSZW
   have HT:Hid (TSt w W1.heap.size kf kd kr ko ⟨xo,xb,xao,xl,xc,xnm,xko,xkl,xkc⟩ ((d:Nat)+1) 8 false none 0 0 (⟨#[108,48]⟩) (0) d [] (.slice none 0 0) [] W2):=Lib.hid (TSt.zero HBo.out HBf.out HBd.out HBr.out (nr0 _) HLOW.out HDIS.out HKO.out HW.out HSZP.out);have o0:=cell_at (v:=.int .i64 8) HBo.out 0 rfl;have fo0:=froz_at HBo.out 0;have o1:=cell_at (v:=.bool false) HBo.out 1 rfl;have fo1:=froz_at HBo.out 1;have o2:=cell_at (v:=.slice none 0 0) HBo.out 2 rfl;have fo2:=froz_at HBo.out 2;have o3:=cell_at (v:=.string ⟨#[108,48]⟩) HBo.out 3 rfl;have fo3:=froz_at HBo.out 3;have o4:=cell_at (v:=.slice none 0 0) HBo.out 4 rfl;have fo4:=froz_at HBo.out 4;obtain⟨⟨r0,r1,r2,r3,r4⟩,fr0,fr1,fr2,fr3,fr4⟩:=cells5V HBr.out;go_wp2_with fail
   clear o0 fo0 o1 fo1 o2 fo2 o3 fo3 o4 fo4;have hg:=grown5V (w:=W2) (k:=kr) (.int .i64 8) (.bool false) (.slice none 0 0) (.string ⟨#[108,48]⟩) (.slice none 0 0);have hf:Fr 29 W2 _:=.of_grown hg (fun j hj=>by injection hj with hj;subst hj;exact⟨_,HBr.out,n32_F⟩);obtain⟨h1,h2,h3,h4⟩:=HT.out.fin hg hf (by unfold IR;decide) HB0.out HKR.out (by unfold NmOk;simp) (small4 (by decide)) (fun _ _ _=>rfl) (by simp) (rfl)
   (try simp only[Exit.inBlock,Exit.then])
   exact bodyPost_ret (v:=.agg #[.int .i64 8,.bool false,.slice none 0 0,.string ⟨#[108,48]⟩,.slice none 0 0]) (by simp[results,Tryz.results10,go_sem,r0,r1,r2,r3,r4]) rfl ⟨_,_,rfl,h1,h2,rfl,h3,h4⟩
  have o0:=cell_at (v:=.int .i64 8) HBo.out 0 rfl;have fo0:=froz_at HBo.out 0;have o1:=cell_at (v:=.bool false) HBo.out 1 rfl;have fo1:=froz_at HBo.out 1;have o2:=cell_at (v:=.slice none 0 0) HBo.out 2 rfl;have fo2:=froz_at HBo.out 2;have o3:=cell_at (v:=.string ⟨#[]⟩) HBo.out 3 rfl;have fo3:=froz_at HBo.out 3;have o4:=cell_at (v:=.slice none 0 0) HBo.out 4 rfl;have fo4:=froz_at HBo.out 4;have m0:=cell_at (v:=.bool zb) HBm.out 0 rfl;have fm0:=froz_at HBm.out 0;have m1:=cell_at (v:=.slice zo zl zc) HBm.out 1 rfl;have fm1:=froz_at HBm.out 1;have f0:=cell_at (v:=.int .i64 xo) HBf.out 0 rfl;have ff0:=froz_at HBf.out 0;have f1:=cell_at (v:=.bool xb) HBf.out 1 rfl;have ff1:=froz_at HBf.out 1;have f2:=cell_at (v:=.slice xao xl xc) HBf.out 2 rfl;have ff2:=froz_at HBf.out 2;have f3:=cell_at (v:=.string xnm) HBf.out 3 rfl
  have ff3:=froz_at HBf.out 3;have f4:=cell_at (v:=.slice xko xkl xkc) HBf.out 4 rfl;have ff4:=froz_at HBf.out 4;have hcv:=one_byteL 49 49 (by decide) W1;obtain⟨x9,ky,ey,eky,hby,hky,HBy⟩:=newV W1 #[.int .u8 49] 5;replace HBf:=kBV hby.out HBf;replace HBd:=kBV hby.out HBd;replace HBr:=kBV hby.out HBr;replace HBo:=kBV hby.out HBo;replace HBm:=kBV hby.out HBm;replace HW:=Lib.hid (HW.out.trans (hby.out.mono HW.out.size));replace HC:=Lib.hid (HC.out.below hby.out);rw[ey,eky] at hcv;have p0:=cell_at (v:=.int .i64 8) HBo.out 0 rfl;have fp0:=froz_at HBo.out 0;have p1:=cell_at (v:=.bool false) HBo.out 1 rfl;have fp1:=froz_at HBo.out 1;have p2:=cell_at (v:=.slice none 0 0) HBo.out 2 rfl;have fp2:=froz_at HBo.out 2;have p3:=cell_at (v:=.string ⟨#[]⟩) HBo.out 3 rfl;have fp3:=froz_at HBo.out 3
  have p4:=cell_at (v:=.slice none 0 0) HBo.out 4 rfl;have fp4:=froz_at HBo.out 4;replace HSZP:=Lib.hid (Nat.le_trans HSZP.out hby.out.size);go_upto_region 21 with fail
  clear o0 fo0 o1 fo1 o2 fo2 o3 fo3 o4 fo4 m0 fm0 m1 fm1 f0 ff0 f1 ff1 f2 ff2 f3 ff3 f4 ff4 p0 fp0 p1 fp1 p2 fp2 p3 fp3 p4 fp4
  try clear hcv
  try clear hr
  rw[show ((⟨#[108]⟩:ByteArray)++⟨#[49]⟩)=⟨#[108,49]⟩ from rfl];have hgo:x9.grownBy (x9.setCell ⟨ko,3,none⟩ (.string ⟨#[108,49]⟩)) (some ko):=by refine grown_setCell ?_ _;exact World.grownBy.refl _ _
  have hbo:(x9.setCell ⟨ko,3,none⟩ (.string ⟨#[108,49]⟩)).heap[ko]?=_:=(heap_setCell_same _ ko 3 _ _ (.string ⟨#[108,49]⟩) HBo.out)
  obtain⟨W2,hW2⟩:∃ q,q=x9.setCell ⟨ko,3,none⟩ (.string ⟨#[108,49]⟩):=⟨_,rfl⟩
  rw[<-hW2] at hgo hbo ⊢;have hfo:Fr 29 x9 W2:=.of_grown hgo (fun j hj=>by injection hj with hj;subst hj;exact⟨_,HBo.out,n32_F⟩);replace HW:=Lib.hid (ext_below HW.out hgo HKO.out);replace HC:=Lib.hid (HC.out.fr hfo);replace HBf:=Lib.hid ((hgo.block _ (lt_of_block HBf.out) (fun e=>by injection e with e;exact HDIS.out.1 e)).trans HBf.out);replace HBd:=Lib.hid ((hgo.block _ (lt_of_block HBd.out) (fun e=>by injection e with e;exact HDIS.out.2.1 e)).trans HBd.out);replace HBr:=Lib.hid ((hgo.block _ (lt_of_block HBr.out) (fun e=>by injection e with e;exact HDIS.out.2.2 e)).trans HBr.out);have HSZW:Hid (W1.heap.size<=W2.heap.size):=Lib.hid (Nat.le_trans HSZP.out hgo.size);replace HBo:=Lib.hid hbo;clear hgo hbo hW2 hfo HSZP;have HSZP:=HSZW;clear HSZW
  have HT:Hid (TSt w W1.heap.size kf kd kr ko ⟨xo,xb,xao,xl,xc,xnm,xko,xkl,xkc⟩ ((d:Nat)+1) 8 false none 0 0 (⟨#[108,49]⟩) (0) d [] (.slice none 0 0) [] W2):=Lib.hid (TSt.zero HBo.out HBf.out HBd.out HBr.out (nr0 _) HLOW.out HDIS.out HKO.out HW.out HSZP.out);have o0:=cell_at (v:=.int .i64 8) HBo.out 0 rfl;have fo0:=froz_at HBo.out 0;have o1:=cell_at (v:=.bool false) HBo.out 1 rfl;have fo1:=froz_at HBo.out 1;have o2:=cell_at (v:=.slice none 0 0) HBo.out 2 rfl;have fo2:=froz_at HBo.out 2;have o3:=cell_at (v:=.string ⟨#[108,49]⟩) HBo.out 3 rfl;have fo3:=froz_at HBo.out 3;have o4:=cell_at (v:=.slice none 0 0) HBo.out 4 rfl;have fo4:=froz_at HBo.out 4;obtain⟨⟨r0,r1,r2,r3,r4⟩,fr0,fr1,fr2,fr3,fr4⟩:=cells5V HBr.out;go_wp2_with fail
  clear o0 fo0 o1 fo1 o2 fo2 o3 fo3 o4 fo4;have hg:=grown5V (w:=W2) (k:=kr) (.int .i64 8) (.bool false) (.slice none 0 0) (.string ⟨#[108,49]⟩) (.slice none 0 0);have hf:Fr 29 W2 _:=.of_grown hg (fun j hj=>by injection hj with hj;subst hj;exact⟨_,HBr.out,n32_F⟩);obtain⟨h1,h2,h3,h4⟩:=HT.out.fin hg hf (by unfold IR;decide) HB0.out HKR.out (by unfold NmOk;simp) (small4 (by decide)) (fun _ _ _=>rfl) (by simp) (rfl)
  (try simp only[Exit.inBlock,Exit.then])
  exact bodyPost_ret (v:=.agg #[.int .i64 8,.bool false,.slice none 0 0,.string ⟨#[108,49]⟩,.slice none 0 0]) (by simp[results,Tryz.results10,go_sem,r0,r1,r2,r3,r4]) rfl ⟨_,_,rfl,h1,h2,rfl,h3,h4⟩
 ·have hop2:op=9:=HOP.out;subst hop2;clear HOP;have HSZP:Hid (W1.heap.size<=W1.heap.size):=Lib.hid (Nat.le_refl _);have HT:Hid (TSt w W1.heap.size kf kd kr ko ⟨xo,xb,xao,xl,xc,xnm,xko,xkl,xkc⟩ ((d:Nat)+1) 9 false none 0 0 (⟨#[]⟩) (0) d [] (.slice none 0 0) [] W1):=Lib.hid (TSt.zero HBo.out HBf.out HBd.out HBr.out (nr0 _) HLOW.out HDIS.out HKO.out HW.out HSZP.out);have o0:=cell_at (v:=.int .i64 9) HBo.out 0 rfl;have fo0:=froz_at HBo.out 0;have o1:=cell_at (v:=.bool false) HBo.out 1 rfl;have fo1:=froz_at HBo.out 1;have o2:=cell_at (v:=.slice none 0 0) HBo.out 2 rfl;have fo2:=froz_at HBo.out 2;have o3:=cell_at (v:=.string ⟨#[]⟩) HBo.out 3 rfl;have fo3:=froz_at HBo.out 3;have o4:=cell_at (v:=.slice none 0 0) HBo.out 4 rfl;have fo4:=froz_at HBo.out 4;obtain⟨⟨r0,r1,r2,r3,r4⟩,fr0,fr1,fr2,fr3,fr4⟩:=cells5V HBr.out
  go_wp2_with fail
  clear o0 fo0 o1 fo1 o2 fo2 o3 fo3 o4 fo4;have hg:=grown5V (w:=W1) (k:=kr) (.int .i64 9) (.bool false) (.slice none 0 0) (.string ⟨#[]⟩) (.slice none 0 0);have hf:Fr 29 W1 _:=.of_grown hg (fun j hj=>by injection hj with hj;subst hj;exact⟨_,HBr.out,n32_F⟩);obtain⟨h1,h2,h3,h4⟩:=HT.out.fin hg hf (by unfold IR;decide) HB0.out HKR.out (by unfold NmOk;simp) (small4 (by decide)) (fun _ _ _=>rfl) (by simp) (rfl)
  (try simp only[Exit.inBlock,Exit.then])
  exact bodyPost_ret (v:=.agg #[.int .i64 9,.bool false,.slice none 0 0,.string ⟨#[]⟩,.slice none 0 0]) (by simp[results,Tryz.results10,go_sem,r0,r1,r2,r3,r4]) rfl ⟨_,_,rfl,h1,h2,rfl,h3,h4⟩
 ·have hop2:op=10:=HOP.out;subst hop2;clear HOP;have HSZP:Hid (W1.heap.size<=W1.heap.size):=Lib.hid (Nat.le_refl _);have HT:Hid (TSt w W1.heap.size kf kd kr ko ⟨xo,xb,xao,xl,xc,xnm,xko,xkl,xkc⟩ ((d:Nat)+1) 10 false none 0 0 (⟨#[]⟩) (0) d [] (.slice none 0 0) [] W1):=Lib.hid (TSt.zero HBo.out HBf.out HBd.out HBr.out (nr0 _) HLOW.out HDIS.out HKO.out HW.out HSZP.out);clear HBm;have HKB:Hid (W1.heap.size<=W1.heap.size):=Lib.hid (Nat.le_refl _);have o0:=cell_at (v:=.int .i64 10) HBo.out 0 rfl;have fo0:=froz_at HBo.out 0;have o1:=cell_at (v:=.bool false) HBo.out 1 rfl;have fo1:=froz_at HBo.out 1;have o2:=cell_at (v:=.slice none 0 0) HBo.out 2 rfl;have fo2:=froz_at HBo.out 2;have o3:=cell_at (v:=.string ⟨#[]⟩) HBo.out 3 rfl;have fo3:=froz_at HBo.out 3;have o4:=cell_at (v:=.slice none 0 0) HBo.out 4 rfl;have fo4:=froz_at HBo.out 4
  go_wp2_with fail
  clear o0 fo0 o1 fo1 o2 fo2 o3 fo3 o4 fo4;refine (kid_p d HD.out HIT.out w W1 W1.heap.size kf kd kr ko ⟨xo,xb,xao,xl,xc,xnm,xko,xkl,xkc⟩ HX.out 10 false none 0 0 ⟨#[]⟩ (0) [] _ [] 0 0 (by decide) (by decide) HT.out (by rw[HT.out.len];simp)).mono ?_;rintro e X1 ⟨⟨q0,rfl⟩,t0,v0,us0,hs,ht⟩;replace HT:=Lib.hid ht;have HS0:=Lib.hid hs;clear hs ht;go_wp2_with fail
  refine (kid_p d HD.out HIT.out w X1 W1.heap.size kf kd kr ko ⟨xo,xb,xao,xl,xc,xnm,xko,xkl,xkc⟩ HX.out 10 false none 0 0 ⟨#[]⟩ (0) ([]++[t0]) _ us0 1 2 (by decide) (by decide) HT.out (by rw[HT.out.len];simp)).mono ?_;rintro e X2 ⟨⟨q1,rfl⟩,t1,v1,us1,hs,ht⟩;replace HT:=Lib.hid ht;have HS1:=Lib.hid hs;clear hs ht;obtain⟨vo,vc,hv,-⟩:=HT.out.row.form;subst hv;obtain⟨N,hN⟩:∃ N,N=us1.length:=⟨_,rfl⟩
  rw[<-hN] at HT;clear hN;replace HBo:=Lib.hid HT.out.ho;replace HBr:=Lib.hid HT.out.hr;have o0:=cell_at (v:=.int .i64 10) HBo.out 0 rfl;have fo0:=froz_at HBo.out 0;have o1:=cell_at (v:=.bool false) HBo.out 1 rfl;have fo1:=froz_at HBo.out 1;have o2:=cell_at (v:=.slice none 0 0) HBo.out 2 rfl;have fo2:=froz_at HBo.out 2;have o3:=cell_at (v:=.string ⟨#[]⟩) HBo.out 3 rfl;have fo3:=froz_at HBo.out 3;have o4:=cell_at (v:=.slice vo N vc) HBo.out 4 rfl;have fo4:=froz_at HBo.out 4;obtain⟨⟨r0,r1,r2,r3,r4⟩,fr0,fr1,fr2,fr3,fr4⟩:=cells5V HBr.out;go_wp2_with fail
  clear o0 fo0 o1 fo1 o2 fo2 o3 fo3 o4 fo4;have hg:=grown5V (w:=X2) (k:=kr) (.int .i64 10) (.bool false) (.slice none 0 0) (.string ⟨#[]⟩) (.slice vo N vc);have hf:Fr 29 X2 _:=.of_grown hg (fun j hj=>by injection hj with hj;subst hj;exact⟨_,HBr.out,n32_F⟩);obtain⟨h1,h2,h3,h4⟩:=HT.out.fin hg hf (by unfold IR;decide) HB0.out HKR.out (by unfold NmOk;simp) (small4 (by decide)) (fun _ _ _=>rfl) (by simp) (by simp[fitF,kidsOk,srts,HS0.out,HS1.out])
  (try simp only[Exit.inBlock,Exit.then])
  exact bodyPost_ret (v:=.agg #[.int .i64 10,.bool false,.slice none 0 0,.string ⟨#[]⟩,.slice vo N vc]) (by simp[results,Tryz.results10,go_sem,r0,r1,r2,r3,r4]) rfl ⟨_,_,rfl,h1,h2,rfl,h3,h4⟩
 have hop2:op=11:=HOP.out;subst hop2;clear HOP;have HSZP:Hid (W1.heap.size<=W1.heap.size):=Lib.hid (Nat.le_refl _);have HT:Hid (TSt w W1.heap.size kf kd kr ko ⟨xo,xb,xao,xl,xc,xnm,xko,xkl,xkc⟩ ((d:Nat)+1) 11 false none 0 0 (⟨#[]⟩) (0) d [] (.slice none 0 0) [] W1):=Lib.hid (TSt.zero HBo.out HBf.out HBd.out HBr.out (nr0 _) HLOW.out HDIS.out HKO.out HW.out HSZP.out);clear HBm;have HKB:Hid (W1.heap.size<=W1.heap.size):=Lib.hid (Nat.le_refl _);have o0:=cell_at (v:=.int .i64 11) HBo.out 0 rfl;have fo0:=froz_at HBo.out 0;have o1:=cell_at (v:=.bool false) HBo.out 1 rfl;have fo1:=froz_at HBo.out 1;have o2:=cell_at (v:=.slice none 0 0) HBo.out 2 rfl;have fo2:=froz_at HBo.out 2;have o3:=cell_at (v:=.string ⟨#[]⟩) HBo.out 3 rfl;have fo3:=froz_at HBo.out 3;have o4:=cell_at (v:=.slice none 0 0) HBo.out 4 rfl;have fo4:=froz_at HBo.out 4
 go_wp2_with fail
 clear o0 fo0 o1 fo1 o2 fo2 o3 fo3 o4 fo4;refine (kid_p d HD.out HIT.out w W1 W1.heap.size kf kd kr ko ⟨xo,xb,xao,xl,xc,xnm,xko,xkl,xkc⟩ HX.out 11 false none 0 0 ⟨#[]⟩ (0) [] _ [] 0 2 (by decide) (by decide) HT.out (by rw[HT.out.len];simp)).mono ?_;rintro e X1 ⟨⟨q0,rfl⟩,t0,v0,us0,hs,ht⟩;replace HT:=Lib.hid ht;have HS0:=Lib.hid hs;clear hs ht;obtain⟨vo,vc,hv,-⟩:=HT.out.row.form;subst hv;obtain⟨N,hN⟩:∃ N,N=us0.length:=⟨_,rfl⟩
 rw[<-hN] at HT;clear hN;replace HBo:=Lib.hid HT.out.ho;replace HBr:=Lib.hid HT.out.hr;have o0:=cell_at (v:=.int .i64 11) HBo.out 0 rfl;have fo0:=froz_at HBo.out 0;have o1:=cell_at (v:=.bool false) HBo.out 1 rfl;have fo1:=froz_at HBo.out 1;have o2:=cell_at (v:=.slice none 0 0) HBo.out 2 rfl;have fo2:=froz_at HBo.out 2;have o3:=cell_at (v:=.string ⟨#[]⟩) HBo.out 3 rfl;have fo3:=froz_at HBo.out 3;have o4:=cell_at (v:=.slice vo N vc) HBo.out 4 rfl;have fo4:=froz_at HBo.out 4;obtain⟨⟨r0,r1,r2,r3,r4⟩,fr0,fr1,fr2,fr3,fr4⟩:=cells5V HBr.out;go_wp2_with fail
 clear o0 fo0 o1 fo1 o2 fo2 o3 fo3 o4 fo4;have hg:=grown5V (w:=X1) (k:=kr) (.int .i64 11) (.bool false) (.slice none 0 0) (.string ⟨#[]⟩) (.slice vo N vc);have hf:Fr 29 X1 _:=.of_grown hg (fun j hj=>by injection hj with hj;subst hj;exact⟨_,HBr.out,n32_F⟩);obtain⟨h1,h2,h3,h4⟩:=HT.out.fin hg hf (by unfold IR;decide) HB0.out HKR.out (by unfold NmOk;simp) (small4 (by decide)) (fun _ _ _=>rfl) (by simp) (by simp[fitF,kidsOk,srts,HS0.out])
 (try simp only[Exit.inBlock,Exit.then])
 exact bodyPost_ret (v:=.agg #[.int .i64 11,.bool false,.slice none 0 0,.string ⟨#[]⟩,.slice vo N vc]) (by simp[results,Tryz.results10,go_sem,r0,r1,r2,r3,r4]) rfl ⟨_,_,rfl,h1,h2,rfl,h3,h4⟩
theorem tame_one:TameC 1:=by
 intro s o b ao l c nm ko kl kc w hs h;rcases hs with rfl | rfl | rfl
 ·exact tame_0z o b ao l c nm ko kl kc w h
 ·exact tame_1z o b ao l c nm ko kl kc w h
 exact tame_2z o b ao l c nm ko kl kc w h
theorem tame_more (d:Nat) (h1:1<=d) (h2:d<=100) (IT:TameC d):TameC (d+1):=by
 intro s o b ao l c nm ko kl kc w hs h;rw[show ((d+1:Nat):Int)=(d:Int)+1 from Int.natCast_succ d];rcases hs with rfl | rfl | rfl
 ·exact tame_0s d h1 h2 IT o b ao l c nm ko kl kc w h
 ·exact tame_1s d h1 h2 IT o b ao l c nm ko kl kc w h
 exact tame_2s d h1 h2 IT o b ao l c nm ko kl kc w h
theorem tameF:∀ d:Nat,d<=100->TameC (d+1)
 | 0,_=>tame_one
 | d+1,h=>tame_more (d+1) (Nat.succ_le_succ (Nat.zero_le d)) h (tameF d (by omega))
attribute [local go_sem] fieldV0 fieldV1 fieldV2 fieldV3
theorem sz_len:∀ (d:Nat) (t:F),Tm d t->szF t<=lenT d
 | 0,t,h=>absurd h id
 | d+1,.node o z nm ks,h=>by
  obtain⟨-,-,-,h4,h5⟩:=h
  have key:∀ l:List F,(∀ k ∈ l,Tm d k)->szsF l<=l.length*(lenT d+2):=by
   intro l
   induction l with
   | nil=>intro _;simp[szsF]
   | cons a l ih =>
    intro hl;have:=ih (fun k hk=>hl k (by simp[hk]));have ha:=sz_len d a (hl a (by simp));rw[szsF,lsc,Nat.add_mul,Nat.one_mul]
    omega
  have h6:=key ks h5;have h7:ks.length*(lenT d+2)<=3*(lenT d+2):=Nat.mul_le_mul_right _ h4;rw[szF,lenT]
  omega
theorem sz_small {t:F} (h:Tm 4 t):szF t<=1000000:=Nat.le_trans (sz_len 4 t h) (Nat.le_trans (lenT_le 4 (by decide)) (by decide))
theorem tame4 (o:Int) (b:Bool) (ao:Option Addr) (l c:Nat) (nm:ByteArray) (ko:Option Addr) (kl kc:Nat) (w:World) (h:RawF w 4 ⟨o,b,ao,l,c,nm,ko,kl,kc⟩) :
  Calls Tryz.prog 10 #[.agg #[.int .i64 o,.bool b,.slice ao l c,.string nm,.slice ko kl kc],.int .i64 1,.int .i64 4] w (TamePost 4 1 w):=tameF 3 (by decide) 1 o b ao l c nm ko kl kc w (Or.inr (Or.inl rfl)) h
open Classical in
theorem texts_walk (x y:RU) (w:World) (hx:∀ d,RawF w d x) (hy:∀ d,RawF w d y) (ht:TxT w) :
  Calls Tryz.prog 4 #[rV x,rV y] w fun e w'=>e=.returned (.bool true)/\Below w.heap.size w w':=by
 obtain⟨xo,xb,xao,xl,xc,xnm,xko,xkl,xkc⟩:=x;obtain⟨yo,yb,yao,yl,yc,ynm,yko,ykl,ykc⟩:=y;have HX:=Lib.hid (hx 4);have HY:=Lib.hid (hy 4);have HT:=Lib.hid ht;unfold rV;simp only;clear hx hy ht;have HW:=Lib.hid (Below.refl w.heap.size w);go_enter Tryz.func4,Tryz.ntmps4
 obtain⟨x1,kf,ef,ekf,hbf,hkf,HBf⟩:=newV w #[.int .i64 xo,.bool xb,.slice xao xl xc,.string xnm,.slice xko xkl xkc] 29;replace HW:=Lib.hid (HW.out.trans (hbf.out.mono HW.out.size));replace HX:=Lib.hid (HX.out.below hbf.out);replace HY:=Lib.hid (HY.out.below hbf.out);replace HT:=Lib.hid (HT.out.below hbf.out);obtain⟨x2,kg,eg,ekg,hbg,hkg,HBg⟩:=newV x1 #[.int .i64 yo,.bool yb,.slice yao yl yc,.string ynm,.slice yko ykl ykc] 29;replace HBf:=kBV hbg.out HBf;replace HW:=Lib.hid (HW.out.trans (hbg.out.mono HW.out.size));replace HX:=Lib.hid (HX.out.below hbg.out);replace HY:=Lib.hid (HY.out.below hbg.out);replace HT:=Lib.hid (HT.out.below hbg.out);go_wp2_with fail
 refine (fit_p x2).mono ?_;rintro e x3 ⟨rfl,hb⟩;replace HBf:=kBV hb HBf;replace HBg:=kBV hb HBg;replace HW:=Lib.hid (HW.out.trans (hb.mono HW.out.size));replace HX:=Lib.hid (HX.out.below hb);replace HY:=Lib.hid (HY.out.below hb);replace HT:=Lib.hid (HT.out.below hb);go_upto_region 3 with fail
 have hlx:=lt_of_block HBf.out;have hly:=lt_of_block HBg.out;have HNE:Hid (∀ i,i<6->∀ j,j<6->i≠j->(fun i=>[9,10,11,12,5,6].getD i 0) i≠(fun i=>[9,10,11,12,5,6].getD i 0) j):=Lib.hid (by decide);have HL6:Hid (∀ i,i<6->(fun i=>[9,10,11,12,5,6].getD i 0) i<13):=Lib.hid (by decide);refine Rel9.region (by kernel_rfl) [[],[0],[],[2],[],[],[0,1,2,3,4,5],[0,1,2,3,4,5,6]] 6 (by kernel_rfl) (by kernel_rfl) (TJ x3 _ (fun i=>[9,10,11,12,5,6].getD i 0) (.agg #[.int .i64 xo,.bool xb,.slice xao xl xc,.string xnm,.slice xko xkl xkc]) (.agg #[.int .i64 yo,.bool yb,.slice yao yl yc,.string ynm,.slice yko ykl ykc]) 4 4 (fun t=>rt t=true/\srt t.op=1/\Tm 4 t) (fun t=>rt t=true/\srt t.op=1/\Tm 4 t)) (TJ.start _ _ _ _ _ _ _ _ _) ?_ ?_
 ·intro d T wc i o hJ ho hi hd hdep hcl;have hstep:=fun v (w2:World)=>hJ.step (v:=v) (w':=w2) (fun i j hi hj=>HNE.out i hi j hj) (fun i hi=>Nat.lt_of_lt_of_le (HL6.out i hi) (of_decide_eq_true rfl)) i hi hd
  have HJ:=Lib.hid hJ;obtain rfl | rfl | rfl | rfl | rfl | rfl:i=0\/i=1\/i=2\/i=3\/i=4\/i=5:=by omega
  ·injection ho with ho;subst ho;have es:T[2]?=some (.pointer (some ⟨kf,0,none⟩)):=(hJ.oth 2 (by decide)).trans (by rfl);have hBq:=(hJ.be.block _ hlx).trans HBf.out;have q0:=cell_at (v:=.int .i64 xo) hBq 0 rfl;have q1:=cell_at (v:=.bool xb) hBq 1 rfl;have q2:=cell_at (v:=.slice xao xl xc) hBq 2 rfl;have q3:=cell_at (v:=.string xnm) hBq 3 rfl;have q4:=cell_at (v:=.slice xko xkl xkc) hBq 4 rfl;clear hBq hJ hdep hcl;refine⟨rfl,fun K hK=>?_⟩;have HST:=Lib.hid hstep;clear hstep;go_simp
   exact hK.out _ _ (HST.out _ _ (Below.refl _ _) (fun _=>rfl) (fun h=>absurd h (by decide)) (fun h=>absurd h (by decide)) (fun h=>absurd h (by decide)) (fun h=>absurd h (by decide)) (fun h=>absurd h (by decide)))
  ·injection ho with ho;subst ho;have es:T[9]?=some (.agg #[.int .i64 xo,.bool xb,.slice xao xl xc,.string xnm,.slice xko xkl xkc]):=hJ.v0 (hdep 0 (by rfl));have hbe:=hJ.be;clear hJ hdep hcl;refine⟨rfl,fun K hK=>?_⟩;have HST:=Lib.hid hstep;clear hstep;go_simp
   refine (tame4 _ _ _ _ _ _ _ _ _ wc (HX.out.below hbe)).mono ?_;rintro e w' ⟨v,t,rfl,⟨y,rfl,hy⟩,h2,h3,h4,hb'⟩;exact hK.out _ _ (HST.out _ _ hb' (fun h=>absurd h (by decide)) (fun h=>absurd h (by decide)) (fun _=>⟨y,t,rfl,hy,h2,h3,h4⟩) (fun h=>absurd h (by decide)) (fun h=>absurd h (by decide)) (fun h=>absurd h (by decide)))
  ·injection ho with ho;subst ho;have es:T[3]?=some (.pointer (some ⟨kg,0,none⟩)):=(hJ.oth 3 (by decide)).trans (by rfl);have hBq:=(hJ.be.block _ hly).trans HBg.out;have q0:=cell_at (v:=.int .i64 yo) hBq 0 rfl;have q1:=cell_at (v:=.bool yb) hBq 1 rfl;have q2:=cell_at (v:=.slice yao yl yc) hBq 2 rfl;have q3:=cell_at (v:=.string ynm) hBq 3 rfl;have q4:=cell_at (v:=.slice yko ykl ykc) hBq 4 rfl;clear hBq hJ hdep hcl;refine⟨rfl,fun K hK=>?_⟩;have HST:=Lib.hid hstep;clear hstep;go_simp
   exact hK.out _ _ (HST.out _ _ (Below.refl _ _) (fun h=>absurd h (by decide)) (fun _=>rfl) (fun h=>absurd h (by decide)) (fun h=>absurd h (by decide)) (fun h=>absurd h (by decide)) (fun h=>absurd h (by decide)))
  ·injection ho with ho;subst ho;have es:T[11]?=some (.agg #[.int .i64 yo,.bool yb,.slice yao yl yc,.string ynm,.slice yko ykl ykc]):=hJ.v2 (hdep 2 (by rfl));have hbe:=hJ.be;clear hJ hdep hcl;refine⟨rfl,fun K hK=>?_⟩;have HST:=Lib.hid hstep;clear hstep;go_simp
   refine (tame4 _ _ _ _ _ _ _ _ _ wc (HY.out.below hbe)).mono ?_;rintro e w' ⟨v,t,rfl,⟨y,rfl,hy⟩,h2,h3,h4,hb'⟩;exact hK.out _ _ (HST.out _ _ hb' (fun h=>absurd h (by decide)) (fun h=>absurd h (by decide)) (fun h=>absurd h (by decide)) (fun _=>⟨y,t,rfl,hy,h2,h3,h4⟩) (fun h=>absurd h (by decide)) (fun h=>absurd h (by decide)))
  ·injection ho with ho;subst ho;clear hJ hdep hcl;refine⟨rfl,fun K hK=>?_⟩;have HST:=Lib.hid hstep;clear hstep;go_simp
   exact hK.out _ _ (HST.out _ _ ((Below.refl _ _).alloc (Nat.le_refl _) _) (fun h=>absurd h (by decide)) (fun h=>absurd h (by decide)) (fun h=>absurd h (by decide)) (fun h=>absurd h (by decide)) (fun _=>⟨rfl,heap_alloc_new wc _⟩) (fun h=>absurd h (by decide)))
  injection ho with ho;subst ho;clear hJ hdep hcl;refine⟨rfl,fun K hK=>?_⟩;have HST:=Lib.hid hstep;clear hstep;go_simp
  exact hK.out _ _ (HST.out _ _ ((Below.refl _ _).alloc (Nat.le_refl _) _) (fun h=>absurd h (by decide)) (fun h=>absurd h (by decide)) (fun h=>absurd h (by decide)) (fun h=>absurd h (by decide)) (fun h=>absurd h (by decide)) (fun _=>⟨rfl,heap_alloc_new wc _⟩))
 intro T wt hJ;obtain⟨y1,t1,y3,t3,ga,gb,⟨a1,a3,a4,a5⟩,hT1,hT3,⟨hr1,hs1,hm1⟩,⟨hr3,hs3,hm3⟩,⟨hga,hgb,hgn⟩,hca,hcb⟩:=hJ.all;have hbt:=hJ.be;have hv0:=hJ.v0 rfl;have hv2:=hJ.v2 rfl;have hfr:=frame6 (s0:=9) (s1:=10) (s2:=11) (s3:=12) (s4:=5) (s5:=6) hJ.sz (by decide) (by intro s hs;simp only[List.mem_cons,List.not_mem_nil,or_false] at hs;rcases hs with rfl | rfl | rfl | rfl | rfl | rfl<;>exact of_decide_eq_true rfl) hv0 a1 hv2 a3 a4 a5 (fun j h0 h1 h2 h3 h4 h5=>hJ.oth j (fun i hi=>by have h6:i=0\/i=1\/i=2\/i=3\/i=4\/i=5:=(by omega);rcases h6 with rfl | rfl | rfl | rfl | rfl | rfl<;>assumption));clear hJ HNE HL6 hv0 hv2 a1 a3 a4 a5;subst hfr;simp only[ptrV,fV,List.setIfInBounds_toArray,List.set_cons_zero,List.set_cons_succ,List.drop_succ_cons,List.drop_zero];unfold zFA at hca hcb;have HBa:=Lib.hid hca
 have HBb:=Lib.hid hcb;have hgm:gb≠ga:=fun e=>hgn e.symm
 clear hca hcb;obtain⟨⟨u0,u1,u2,u3,u4⟩,fu0,fu1,fu2,fu3,fu4⟩:=cells5V HBa.out;obtain⟨⟨q0,q1,q2,q3,q4⟩,fq0,fq1,fq2,fq3,fq4⟩:=cells5V HBb.out;go_upto_region 4 with fail
 clear u0 u1 u2 u3 u4 fu0 fu1 fu2 fu3 fu4 q0 q1 q2 q3 q4 fq0 fq1 fq2 fq3 fq4;have ha1:=set5_same HBa.out (.int .i64 y1.k) (.bool (decide (y1.n.z<0))) (.slice y1.n.o y1.n.l y1.n.c) (.string y1.nm) (.slice y1.ko y1.kl y1.kc);have hra:Fr 29 wt _:=.of_grown (grown5V (w:=wt) (k:=ga) (.int .i64 y1.k) (.bool (decide (y1.n.z<0))) (.slice y1.n.o y1.n.l y1.n.c) (.string y1.nm) (.slice y1.ko y1.kl y1.kc)) (fun j hj=>by injection hj with hj;subst hj;exact⟨_,HBa.out,n32_F⟩);have hg1:=grown5V (w:=wt) (k:=ga) (.int .i64 y1.k) (.bool (decide (y1.n.z<0))) (.slice y1.n.o y1.n.l y1.n.c) (.string y1.nm) (.slice y1.ko y1.kl y1.kc)
 obtain⟨W1,hW1⟩:∃ q,q=((((wt.setCell ⟨ga,0,none⟩ (.int .i64 y1.k)).setCell ⟨ga,1,none⟩ (.bool (decide (y1.n.z<0)))).setCell ⟨ga,2,none⟩ (.slice y1.n.o y1.n.l y1.n.c)).setCell ⟨ga,3,none⟩ (.string y1.nm)).setCell ⟨ga,4,none⟩ (.slice y1.ko y1.kl y1.kc):=⟨_,rfl⟩
 rw[<-hW1] at ha1 hra hg1 ⊢;have hb1:=(hg1.block gb (lt_of_block HBb.out) (fun e=>by injection e with e;exact hgn e.symm)).trans HBb.out;have hb2:=set5_same hb1 (.int .i64 y3.k) (.bool (decide (y3.n.z<0))) (.slice y3.n.o y3.n.l y3.n.c) (.string y3.nm) (.slice y3.ko y3.kl y3.kc);have hrb:Fr 29 W1 _:=.of_grown (grown5V (w:=W1) (k:=gb) (.int .i64 y3.k) (.bool (decide (y3.n.z<0))) (.slice y3.n.o y3.n.l y3.n.c) (.string y3.nm) (.slice y3.ko y3.kl y3.kc)) (fun j hj=>by injection hj with hj;subst hj;exact⟨_,hb1,n32_F⟩);have hg2:=grown5V (w:=W1) (k:=gb) (.int .i64 y3.k) (.bool (decide (y3.n.z<0))) (.slice y3.n.o y3.n.l y3.n.c) (.string y3.nm) (.slice y3.ko y3.kl y3.kc)
 obtain⟨W2,hW2⟩:∃ q,q=((((W1.setCell ⟨gb,0,none⟩ (.int .i64 y3.k)).setCell ⟨gb,1,none⟩ (.bool (decide (y3.n.z<0)))).setCell ⟨gb,2,none⟩ (.slice y3.n.o y3.n.l y3.n.c)).setCell ⟨gb,3,none⟩ (.string y3.nm)).setCell ⟨gb,4,none⟩ (.slice y3.ko y3.kl y3.kc):=⟨_,rfl⟩
 rw[<-hW2] at hb2 hrb hg2 ⊢;have ha2:=(hg2.block ga (lt_of_block ha1) (fun e=>by injection e with e;exact hgm e.symm)).trans ha1;have hF1:=((hT1.grown hg1 (KN.of_fr hra) (fun b hb e=>hb.1 (by injection e with e;exact e.symm))).grown hg2 (KN.of_fr hrb) (fun b hb e=>hb.2 (by injection e with e;exact e.symm))).mono (S':=tS) (fun _ _=>trivial);have hF3:=((hT3.grown hg1 (KN.of_fr hra) (fun b hb e=>hb.1 (by injection e with e;exact e.symm))).grown hg2 (KN.of_fr hrb) (fun b hb e=>hb.2 (by injection e with e;exact e.symm))).mono (S':=tS) (fun _ _=>trivial);have hb:=ext_below (ext_below hbt hg1 hga) hg2 hgb;clear HBf;clear HBg;clear hT1 hT3 hra hrb hg1 hg2 hb1 hW1 hW2 hbt;replace HW:=Lib.hid (HW.out.trans (hb.mono HW.out.size));replace HX:=Lib.hid (HX.out.below hb);replace HY:=Lib.hid (HY.out.below hb);replace HT:=Lib.hid (HT.out.below hb);clear hb
 replace HBa:Hid (W2.heap[ga]?=some (.cells #[.int .i64 y1.k,.bool (decide (y1.n.z<0)),.slice y1.n.o y1.n.l y1.n.c,.string y1.nm,.slice y1.ko y1.kl y1.kc] 29 (0,0))):=Lib.hid ha2;replace HBb:Hid (W2.heap[gb]?=some (.cells #[.int .i64 y3.k,.bool (decide (y3.n.z<0)),.slice y3.n.o y3.n.l y3.n.c,.string y3.nm,.slice y3.ko y3.kl y3.kc] 29 (0,0))):=Lib.hid hb2;clear ha1 ha2 hb2;obtain⟨ka,hka⟩:∃ k,k=ga:=⟨_,rfl⟩
 obtain⟨kb,hkb⟩:∃ k,k=gb:=⟨_,rfl⟩
 rw[<-hka] at HBa ⊢;rw[<-hkb] at HBb ⊢;clear hka hkb hga hgb hgn hgm;have HFP:Hid (FC W2 tS 4 (.agg #[.int .i64 y1.k,.bool (decide (y1.n.z<0)),.slice y1.n.o y1.n.l y1.n.c,.string y1.nm,.slice y1.ko y1.kl y1.kc]) t1):=Lib.hid ⟨y1,rfl,hF1⟩;have HFQ:Hid (FC W2 tS 4 (.agg #[.int .i64 y3.k,.bool (decide (y3.n.z<0)),.slice y3.n.o y3.n.l y3.n.c,.string y3.nm,.slice y3.ko y3.kl y3.kc]) t3):=Lib.hid ⟨y3,rfl,hF3⟩;clear hF1 hF3;have HR1:=Lib.hid hr1;have HR3:=Lib.hid hr3;have HM1:=Lib.hid hm1;have HM3:=Lib.hid hm3;have HLE:Hid (txF t1=txF t3 ↔ t1=t3):=Lib.hid ⟨fun e=>text_inj hm1 hm3 hr1 hr3 e,fun e=>by rw[e]⟩;clear hr1 hs1 hm1 hr3 hs3 hm3;obtain⟨L1,hL1⟩:∃ L,L=txF t1:=⟨_,rfl⟩
 obtain⟨L3,hL3⟩:∃ L,L=txF t3:=⟨_,rfl⟩
 rw[<-hL1,<-hL3] at HLE;have HL1:=Lib.hid hL1;have HL3:=Lib.hid hL3;obtain⟨N,hN⟩:∃ N,N=szF t1:=⟨_,rfl⟩
 have HNN:=Lib.hid hN;obtain⟨E,hE⟩:∃ E:Bool,E=decide (t1=t3):=⟨_,rfl⟩
 have HE:=Lib.hid hE;have HLB:Hid ((L1==L3)=E):=Lib.hid (by rw[hE];exact Bool.eq_iff_iff.2 (by rw[beq_iff_eq,decide_eq_true_iff];exact HLE.out));have hEE:(E==E)=true:=beq_self_eq_true E;have hNN:(((N:Nat):Int)==((N:Nat):Int))=true:=beq_self_eq_true _;clear hL1 hL3 hN hE;have hlt_a:=lt_of_block HBa.out;have hlt_b:=lt_of_block HBb.out;have hog:Hid (∀ q,q<0->(fun q=>0) q<W2.heap.size):=Lib.hid (fun q h=>absurd h (Nat.not_lt_zero _))
 refine R7.region (by kernel_rfl) [[],[0],[],[0,1,2],[0,1,2,3],[],[],[0,1,2,3,5,6],[0,1,2,3,4,5,6,7],[0,1,2,3,4,5,6,7,8],[0,1,2,3,4,5,6,7,8,9],[0,1,2,3,4,5,6,7,8,9,10],[0,1,2,3,4,5,6,7,8,9],[0,1,2,3,4,5,6,7,8,9,10,11,12],[0,1,2,3,4,5,6,7,8,9,10,11,12,13],[0,1,2,3,4,5,6,7,8,9,10,11,12,13,14],[0,1,2,3,4,5,6,7,8,9,10,11,12,13,14,15]] [] [] (fun q=>0) 0 17 (by kernel_rfl) (by kernel_rfl) (by rfl) hog.out (fun q q' h h' hn=>absurd hn (by omega)) ?_;refine R7.Chain.det ?_ (by rfl) (fun T xs wr hA=>?_) ?_
 rotate_left 1
 ·have e5:=hA.pre 5 (by kernel_rfl);simp only[gsa,gsc,gsz] at e5;have hBq:wr.heap[ka]?=_:=(hA.bl _ hlt_a (fun q h=>absurd h (Nat.not_lt_zero _))).trans HBa.out;have q0:=cell_at (v:=.int .i64 y1.k) hBq 0 rfl;have q1:=cell_at (v:=.bool (decide (y1.n.z<0))) hBq 1 rfl;have q2:=cell_at (v:=.slice y1.n.o y1.n.l y1.n.c) hBq 2 rfl;have q3:=cell_at (v:=.string y1.nm) hBq 3 rfl;have q4:=cell_at (v:=.slice y1.ko y1.kl y1.kc) hBq 4 rfl;clear hBq;clear hA;refine⟨(by rfl),?_⟩;go_simp<;>(try with_reducible rfl)
 refine R7.Chain.call (fun xs v w=>v=.string ⟨L1.toArray⟩) (fun _ _ _ _ h _=>h) (fun _ _ _ _ _ h _ _=>h) (by rfl) (fun T xs wr hA=>?_) ?_
 ·have hsw:=(hA.be 0 (Nat.zero_le _) (fun _ _=>Nat.zero_le _)).size;have e13:=hA.tm 0 13 (by rfl) (by rfl);have f13:xs 0=_:=hA.fa 0 (by rfl)
  (try simp (disch:=first | rfl | decide) only [R7.mask_in] at f13)
  rw[f13] at e13;clear f13;have hbw:=undrew (hA.be W2.heap.size (Nat.le_refl _) (fun q h=>absurd h (Nat.not_lt_zero q)));have hfw:=HFP.out.below hbw;have htw:=HT.out.below hbw;clear hA;refine⟨(by rfl),fun K hK=>?_⟩;go_simp
  refine (text_p 4 (by decide) _ t1 _ _ hfw HR1.out HM1.out htw).mono ?_;rintro e w' ⟨rfl,hb'⟩;rw[<-HL1.out];exact hK.out _ _ rfl hb'
 refine R7.Chain.det ?_ (by rfl) (fun T xs wr hA=>?_) ?_
 rotate_left 1
 ·have e6:=hA.pre 6 (by kernel_rfl);simp only[gsa,gsc,gsz] at e6;have hBq:wr.heap[kb]?=_:=(hA.bl _ hlt_b (fun q h=>absurd h (Nat.not_lt_zero _))).trans HBb.out;have q0:=cell_at (v:=.int .i64 y3.k) hBq 0 rfl;have q1:=cell_at (v:=.bool (decide (y3.n.z<0))) hBq 1 rfl;have q2:=cell_at (v:=.slice y3.n.o y3.n.l y3.n.c) hBq 2 rfl;have q3:=cell_at (v:=.string y3.nm) hBq 3 rfl;have q4:=cell_at (v:=.slice y3.ko y3.kl y3.kc) hBq 4 rfl;clear hBq;clear hA;refine⟨(by rfl),?_⟩;go_simp<;>(try with_reducible rfl)
 refine R7.Chain.call (fun xs v w=>v=.string ⟨L3.toArray⟩) (fun _ _ _ _ h _=>h) (fun _ _ _ _ _ h _ _=>h) (by rfl) (fun T xs wr hA=>?_) ?_
 ·have hsw:=(hA.be 0 (Nat.zero_le _) (fun _ _=>Nat.zero_le _)).size;have e15:=hA.tm 2 15 (by rfl) (by rfl);have f15:xs 2=_:=hA.fa 2 (by rfl)
  (try simp (disch:=first | rfl | decide) only [R7.mask_in] at f15)
  rw[f15] at e15;clear f15;have hbw:=undrew (hA.be W2.heap.size (Nat.le_refl _) (fun q h=>absurd h (Nat.not_lt_zero q)));have hfq:=HFQ.out.below hbw;have htw:=HT.out.below hbw;clear hA;refine⟨(by rfl),fun K hK=>?_⟩;go_simp
  refine (text_p 4 (by decide) _ t3 _ _ hfq HR3.out HM3.out htw).mono ?_;rintro e w' ⟨rfl,hb'⟩;rw[<-HL3.out];exact hK.out _ _ rfl hb'
 refine R7.Chain.call (fun xs v w=>v=.bool E) (fun _ _ _ _ h _=>h) (fun _ _ _ _ _ h _ _=>h) (by rfl) (fun T xs wr hA=>?_) ?_
 ·have hsw:=(hA.be 0 (Nat.zero_le _) (fun _ _=>Nat.zero_le _)).size;have e14:=hA.tm 1 14 (by rfl) (by rfl);have f14:xs 1=(.string ⟨L1.toArray⟩):=hA.fa 1 (by rfl);rw[f14] at e14;clear f14;have e16:=hA.tm 3 16 (by rfl) (by rfl);have f16:xs 3=(.string ⟨L3.toArray⟩):=hA.fa 3 (by rfl);rw[f16] at e16;clear f16;have hbw:=undrew (hA.be W2.heap.size (Nat.le_refl _) (fun q h=>absurd h (Nat.not_lt_zero q)));clear hA;refine⟨(by rfl),fun K hK=>?_⟩;go_simp
  exact hK.out _ _ (congrArg Value.bool (by first | exact HLB.out | (have h9:=HLB.out;simpa using h9))) (Below.refl _ _)
 refine R7.Chain.det ?_ (by rfl) (fun T xs wr hA=>?_) ?_
 rotate_left 1
 ·have e5:=hA.pre 5 (by kernel_rfl);simp only[gsa,gsc,gsz] at e5;have hBq:wr.heap[ka]?=_:=(hA.bl _ hlt_a (fun q h=>absurd h (Nat.not_lt_zero _))).trans HBa.out;have q0:=cell_at (v:=.int .i64 y1.k) hBq 0 rfl;have q1:=cell_at (v:=.bool (decide (y1.n.z<0))) hBq 1 rfl;have q2:=cell_at (v:=.slice y1.n.o y1.n.l y1.n.c) hBq 2 rfl;have q3:=cell_at (v:=.string y1.nm) hBq 3 rfl;have q4:=cell_at (v:=.slice y1.ko y1.kl y1.kc) hBq 4 rfl;clear hBq;clear hA;refine⟨(by rfl),?_⟩;go_simp<;>(try with_reducible rfl)
 refine R7.Chain.det ?_ (by rfl) (fun T xs wr hA=>?_) ?_
 rotate_left 1
 ·have e6:=hA.pre 6 (by kernel_rfl);simp only[gsa,gsc,gsz] at e6;have hBq:wr.heap[kb]?=_:=(hA.bl _ hlt_b (fun q h=>absurd h (Nat.not_lt_zero _))).trans HBb.out;have q0:=cell_at (v:=.int .i64 y3.k) hBq 0 rfl;have q1:=cell_at (v:=.bool (decide (y3.n.z<0))) hBq 1 rfl;have q2:=cell_at (v:=.slice y3.n.o y3.n.l y3.n.c) hBq 2 rfl;have q3:=cell_at (v:=.string y3.nm) hBq 3 rfl;have q4:=cell_at (v:=.slice y3.ko y3.kl y3.kc) hBq 4 rfl;clear hBq;clear hA;refine⟨(by rfl),?_⟩;go_simp<;>(try with_reducible rfl)
 refine R7.Chain.call (fun xs v w=>v=.bool E) (fun _ _ _ _ h _=>h) (fun _ _ _ _ _ h _ _=>h) (by rfl) (fun T xs wr hA=>?_) ?_
 ·have hsw:=(hA.be 0 (Nat.zero_le _) (fun _ _=>Nat.zero_le _)).size;have e18:=hA.tm 5 18 (by rfl) (by rfl);have f18:xs 5=_:=hA.fa 5 (by rfl)
  (try simp (disch:=first | rfl | decide) only [R7.mask_in] at f18)
  rw[f18] at e18;clear f18;have e19:=hA.tm 6 19 (by rfl) (by rfl);have f19:xs 6=_:=hA.fa 6 (by rfl)
  (try simp (disch:=first | rfl | decide) only [R7.mask_in] at f19)
  rw[f19] at e19;clear f19;have hbw:=undrew (hA.be W2.heap.size (Nat.le_refl _) (fun q h=>absurd h (Nat.not_lt_zero q)));have hfw:=HFP.out.below hbw;have hfq:=HFQ.out.below hbw;clear hA;refine⟨(by rfl),fun K hK=>?_⟩;go_simp
  refine (samef_p 4 _ _ t1 t3 _ _ _ hfw hfq).mono ?_;rintro e w' ⟨rfl,hb'⟩;rw[<-HE.out];exact hK.out _ _ rfl hb'
 refine R7.Chain.det ?_ (by rfl) (fun T xs wr hA=>?_) ?_
 rotate_left 1
 ·have e17:=hA.tm 4 17 (by rfl) (by rfl);have f17:xs 4=(.bool E):=hA.fa 4 (by rfl);rw[f17] at e17;clear f17;have e20:=hA.tm 7 20 (by rfl) (by rfl);have f20:xs 7=(.bool E):=hA.fa 7 (by rfl);rw[f20] at e20;clear f20;clear hA;refine⟨(by rfl),?_⟩;go_simp<;>(try with_reducible rfl)
 refine R7.Chain.det ?_ (by rfl) (fun T xs wr hA=>?_) ?_
 rotate_left 1
 ·have e21:=hA.tm 8 21 (by rfl) (by rfl);have f21:xs 8=_:=hA.fa 8 (by rfl)
  (try simp (disch:=first | rfl | decide) only [R7.mask_in] at f21)
  rw[f21] at e21;clear f21;clear hA;refine⟨(by rfl),?_⟩;go_simp<;>(try with_reducible rfl)
 refine R7.Chain.det ?_ (by rfl) (fun T xs wr hA=>?_) ?_
 rotate_left 1
 ·have e22:=hA.tm 9 22 (by rfl) (by rfl);have f22:xs 9=_:=hA.fa 9 (by rfl)
  (try simp (disch:=first | rfl | decide) only [R7.mask_in] at f22)
  rw[f22] at e22;clear f22;have e5:=hA.pre 5 (by kernel_rfl);simp only[gsa,gsc,gsz] at e5;have hBq:wr.heap[ka]?=_:=(hA.bl _ hlt_a (fun q h=>absurd h (Nat.not_lt_zero _))).trans HBa.out;have q0:=cell_at (v:=.int .i64 y1.k) hBq 0 rfl;have q1:=cell_at (v:=.bool (decide (y1.n.z<0))) hBq 1 rfl;have q2:=cell_at (v:=.slice y1.n.o y1.n.l y1.n.c) hBq 2 rfl;have q3:=cell_at (v:=.string y1.nm) hBq 3 rfl;have q4:=cell_at (v:=.slice y1.ko y1.kl y1.kc) hBq 4 rfl;clear hBq;clear hA;refine⟨((Rely.wanted_at rfl (by rfl) e22).trans (by rfl)),?_⟩;go_simp<;>(try with_reducible rfl)
 refine R7.Chain.call (fun xs v w=>v=.int .i64 ((N:Nat):Int)) (fun _ _ _ _ h _=>h) (fun _ _ _ _ _ h _ _=>h) (by rfl) (fun T xs wr hA=>?_) ?_
 ·have e22:=hA.tm 9 22 (by rfl) (by rfl);have f22:xs 9=_:=hA.fa 9 (by rfl)
  (try simp (disch:=first | rfl | decide) only [R7.mask_in] at f22)
  rw[f22] at e22;clear f22;have hsw:=(hA.be 0 (Nat.zero_le _) (fun _ _=>Nat.zero_le _)).size;have e23:=hA.tm 10 23 (by rfl) (by rfl);have f23:xs 10=_:=hA.fa 10 (by rfl)
  (try simp (disch:=first | rfl | decide) only [R7.mask_in] at f23)
  rw[f23] at e23;clear f23;have hbw:=undrew (hA.be W2.heap.size (Nat.le_refl _) (fun q h=>absurd h (Nat.not_lt_zero q)));have hfw:=HFP.out.below hbw;clear hA;refine⟨((Rely.wanted_at rfl (by rfl) e22).trans (by rfl)),fun K hK=>?_⟩;go_simp
  refine (size_p 4 _ t1 _ _ hfw (sz_small HM1.out)).mono ?_;rintro e w' ⟨rfl,hb'⟩;rw[<-HNN.out];exact hK.out _ _ rfl hb'
 refine R7.Chain.det ?_ (by rfl) (fun T xs wr hA=>?_) ?_
 rotate_left 1
 ·have e22:=hA.tm 9 22 (by rfl) (by rfl);have f22:xs 9=_:=hA.fa 9 (by rfl)
  (try simp (disch:=first | rfl | decide) only [R7.mask_in] at f22)
  rw[f22] at e22;clear f22;have e5:=hA.pre 5 (by kernel_rfl);simp only[gsa,gsc,gsz] at e5;have hBq:wr.heap[ka]?=_:=(hA.bl _ hlt_a (fun q h=>absurd h (Nat.not_lt_zero _))).trans HBa.out;have q0:=cell_at (v:=.int .i64 y1.k) hBq 0 rfl;have q1:=cell_at (v:=.bool (decide (y1.n.z<0))) hBq 1 rfl;have q2:=cell_at (v:=.slice y1.n.o y1.n.l y1.n.c) hBq 2 rfl;have q3:=cell_at (v:=.string y1.nm) hBq 3 rfl;have q4:=cell_at (v:=.slice y1.ko y1.kl y1.kc) hBq 4 rfl;clear hBq;clear hA;refine⟨((Rely.wanted_at rfl (by rfl) e22).trans (by rfl)),?_⟩;go_simp<;>(try with_reducible rfl)
 refine R7.Chain.call (fun xs v w=>v=.int .i64 ((N:Nat):Int)) (fun _ _ _ _ h _=>h) (fun _ _ _ _ _ h _ _=>h) (by rfl) (fun T xs wr hA=>?_) ?_
 ·have e22:=hA.tm 9 22 (by rfl) (by rfl);have f22:xs 9=_:=hA.fa 9 (by rfl)
  (try simp (disch:=first | rfl | decide) only [R7.mask_in] at f22)
  rw[f22] at e22;clear f22;have hsw:=(hA.be 0 (Nat.zero_le _) (fun _ _=>Nat.zero_le _)).size;have e25:=hA.tm 12 25 (by rfl) (by rfl);have f25:xs 12=_:=hA.fa 12 (by rfl)
  (try simp (disch:=first | rfl | decide) only [R7.mask_in] at f25)
  rw[f25] at e25;clear f25;have hbw:=undrew (hA.be W2.heap.size (Nat.le_refl _) (fun q h=>absurd h (Nat.not_lt_zero q)));have hfw:=HFP.out.below hbw;clear hA;refine⟨((Rely.wanted_at rfl (by rfl) e22).trans (by rfl)),fun K hK=>?_⟩;go_simp
  refine (count_p 4 _ t1 _ _ hfw (sz_small HM1.out)).mono ?_;rintro e w' ⟨rfl,hb'⟩;rw[<-HNN.out];exact hK.out _ _ rfl hb'
 refine R7.Chain.det ?_ (by rfl) (fun T xs wr hA=>?_) ?_
 rotate_left 1
 ·have e22:=hA.tm 9 22 (by rfl) (by rfl);have f22:xs 9=_:=hA.fa 9 (by rfl)
  (try simp (disch:=first | rfl | decide) only [R7.mask_in] at f22)
  rw[f22] at e22;clear f22;have e24:=hA.tm 11 24 (by rfl) (by rfl);have f24:xs 11=(.int .i64 ((N:Nat):Int)):=hA.fa 11 (by rfl);rw[f24] at e24;clear f24;have e26:=hA.tm 13 26 (by rfl) (by rfl);have f26:xs 13=(.int .i64 ((N:Nat):Int)):=hA.fa 13 (by rfl);rw[f26] at e26;clear f26;clear hA;refine⟨((Rely.wanted_at rfl (by rfl) e22).trans (by rfl)),?_⟩;go_simp<;>(try with_reducible rfl)
 refine R7.Chain.det ?_ (by rfl) (fun T xs wr hA=>?_) ?_
 rotate_left 1
 ·have e22:=hA.tm 9 22 (by rfl) (by rfl);have f22:xs 9=_:=hA.fa 9 (by rfl)
  (try simp (disch:=first | rfl | decide) only [R7.mask_in] at f22)
  rw[f22] at e22;clear f22;have e27:=hA.tm 14 27 (by rfl) (by rfl);have f27:xs 14=_:=hA.fa 14 (by rfl)
  (try simp (disch:=first | rfl | decide) only [R7.mask_in] at f27)
  rw[f27] at e27;clear f27;clear hA;refine⟨(by rfl),?_⟩;go_simp<;>(try with_reducible rfl)
 refine R7.Chain.det ?_ (by rfl) (fun T xs wr hA=>?_) ?_
 rotate_left 1
 ·have e28:=hA.tm 15 28 (by rfl) (by rfl);have f28:xs 15=_:=hA.fa 15 (by rfl)
  (try simp (disch:=first | rfl | decide) only [R7.mask_in] at f28)
  rw[f28] at e28;clear f28;clear hA;refine⟨(by rfl),?_⟩;go_simp<;>(try with_reducible rfl)
 refine R7.Chain.done (fun xs x4 hL=>?_);obtain⟨⟨hbe,hbl⟩,hf,-,-⟩:=hL;have f0:xs 0=_:=hf 0 (by decide)
 (try simp (disch:=first | rfl | decide) only [R7.mask_in] at f0)
 have f1:xs 1=(.string ⟨L1.toArray⟩):=hf 1 (by decide);have f2:xs 2=_:=hf 2 (by decide)
 (try simp (disch:=first | rfl | decide) only [R7.mask_in] at f2)
 have f3:xs 3=(.string ⟨L3.toArray⟩):=hf 3 (by decide);have f4:xs 4=(.bool E):=hf 4 (by decide);have f5:xs 5=_:=hf 5 (by decide)
 (try simp (disch:=first | rfl | decide) only [R7.mask_in] at f5)
 have f6:xs 6=_:=hf 6 (by decide)
 (try simp (disch:=first | rfl | decide) only [R7.mask_in] at f6)
 have f7:xs 7=(.bool E):=hf 7 (by decide);have f8:xs 8=_:=hf 8 (by decide)
 (try simp (disch:=first | rfl | decide) only [R7.mask_in] at f8)
 have f9:xs 9=_:=hf 9 (by decide)
 (try simp (disch:=first | rfl | decide) only [R7.mask_in] at f9)
 have f10:xs 10=_:=hf 10 (by decide)
 (try simp (disch:=first | rfl | decide) only [R7.mask_in] at f10)
 have f11:xs 11=(.int .i64 ((N:Nat):Int)):=hf 11 (by decide);have f12:xs 12=_:=hf 12 (by decide)
 (try simp (disch:=first | rfl | decide) only [R7.mask_in] at f12)
 have f13:xs 13=(.int .i64 ((N:Nat):Int)):=hf 13 (by decide);have f14:xs 14=_:=hf 14 (by decide)
 (try simp (disch:=first | rfl | decide) only [R7.mask_in] at f14)
 have f15:xs 15=_:=hf 15 (by decide)
 (try simp (disch:=first | rfl | decide) only [R7.mask_in] at f15)
 have f16:xs 16=_:=hf 16 (by decide)
 (try simp (disch:=first | rfl | decide) only [R7.mask_in] at f16)
 have hb0:Below 0 W2 x4:=undrew (hbe 0 (Nat.zero_le _) (fun _ _=>Nat.zero_le _));have hgr:∀ j,j<W2.heap.size->(∀ q,q<0->(fun q=>0) q≠j)->x4.heap[j]?=W2.heap[j]?:=hbl;clear hbe hbl hf;have hb:Below W2.heap.size W2 x4:=⟨hb0.os,hb0.tape,hb0.output,hb0.size,fun q hq=>hgr q hq (fun q h=>absurd h (Nat.not_lt_zero _))⟩
 refine R7.rest_done ?_;simp only[R7.fill,t5_,t6_,t7_,f0,f1,f2,f3,f4,f5,f6,f7,f8,f9,f10,f11,f12,f13,f14,f15,f16];clear hb0 hgr hog hlt_a hlt_b f0 f1 f2 f3 f4 f5 f6 f7 f8 f9 f10 f11 f12 f13 f14 f15 f16;replace HBa:=kBV hb HBa;replace HBb:=kBV hb HBb;replace HW:=Lib.hid (HW.out.trans (hb.mono HW.out.size));replace HX:=Lib.hid (HX.out.below hb);replace HY:=Lib.hid (HY.out.below hb);replace HT:=Lib.hid (HT.out.below hb);replace HFP:=Lib.hid (HFP.out.below hb);replace HFQ:=Lib.hid (HFQ.out.below hb);replace hb:=Lib.hid hb;go_wp2_with fail
 go_ret
 exact⟨rfl,HW.out⟩
end Go.Proofs.YtdkfnbbebpbhaaaGreatDoor
namespace Go.Proofs.YtdkfnbbebpbhaaaGreatDoor
open Go.ChangeShapes Go.WideShapes Go.ChangeAt Go.RowKit
set_option maxRecDepth 100000
theorem own:ownKnob Tryz.prog.godebug=none:=by kernel_rfl
theorem laidOut:laidOutB Tryz.prog=true:=by kernel_rfl
theorem sl_of_ints {w:World} {a:Addr} {len cap:Nat} {zs:List Int} (hl:len<=cap) (hm:cap<=maxLen) (hz:len<=zs.length)
  (hcell:∀ i,i<zs.length->w.cell? (a.add i)=some (.int .u32 (zs.getD i 0))) (hwf:∀ n ∈ zs,(Lit.int .u32 n).wf=true) :
  ∃ xs,Sl w .u32 (.slice (some a) len cap) xs/\Dig 4294967296 xs:=by
 have hb:∀ n ∈ zs,0<=n/\n<4294967296:=fun n hn=>by
  have:=hwf n hn
  simp[Lit.wf,IntKind.min,IntKind.max,IntKind.bits,IntKind.signed] at this
  omega
 refine⟨(zs.take len).map Int.toNat,⟨some a,cap,?_,?_,by unfold maxLen at hm;omega,(fun e=>by cases e),fun i hi=>⟨a,rfl,?_⟩⟩,?_⟩
 ·rw[List.length_map,List.length_take,Nat.min_eq_left hz]
 ·rw[List.length_map,List.length_take,Nat.min_eq_left hz];exact hl
 ·rw[List.length_map,List.length_take,Nat.min_eq_left hz] at hi;have hi':i<zs.length:=by omega
  rw[hcell i hi'];have:=hb zs[i] (List.getElem_mem hi');unfold nth
  simp[List.getD,hi,hi']
  omega
 intro x hx;obtain⟨n,hn,rfl⟩:=List.mem_map.1 hx;have:=hb n (List.mem_of_mem_take hn)
 omega
theorem laid_met (os:Os) (args:Array Value):laidMet Tryz.prog Rows.logicTextsRow.laid ((World.laidAll Tryz.prog os Rows.logicTextsRow.laid).forCall (fun _ _=>0) ⟨#[],args,[]⟩).memory:=
 laidMet_laidAll _ (by kernel_rfl) (by kernel_rfl)
theorem gPow : (Tryz.prog.globalNamed "internal/strconv.uint64pow10").bind (fun g => (Tryz.prog.globals[g]?).map fun x => (Tryz.prog.underlying x.type, Tryz.prog.cellsOf x.type)) = some (some (.array 20 99), 20) := by kernel_rfl
theorem cellsU64:Tryz.prog.cellsOf 99=1:=by kernel_rfl
theorem powData:(Rows.laid_internal_strconv_uint64pow10:DataW Unit)=Lib.tabData .u64 Lib.pow10Tab:=rfl
theorem table {W : World} (h : laidMetH Tryz.prog Rows.logicTextsRow.laid W) : Lib.TabIs Tryz.prog W "internal/strconv.uint64pow10" .u64 Lib.pow10Tab := by
 have h':laidMet Tryz.prog Rows.logicTextsRow.laid W:=h;obtain⟨_,⟨_,_,_,_,_,_,_,_,_,_,⟨_,_,_,_,_,_,_,_,_,_,⟨g,t,cs,fuel,p,q,hg,ht,hvar,hd,_,_⟩,_⟩,_⟩,_⟩:=h';have e:=gPow;rw[hg,Option.bind_some] at e;obtain⟨x,hx,ex⟩:=Option.map_eq_some_iff.1 e;rw[hx,Option.map_some] at ht;injection ht with ht;injection ex with e1 e2;rw[ht] at e1 e2;unfold Lib.TabIs;rw[hvar,<-Lib.cells_of_tab e1 Tryz.underlying99 cellsU64 e2 (powData ▸ hd)]
set_option linter.unusedVariables false
theorem cells_of_strs {H:Type} {enc:TypeId × Value->H} {P:Program} {w:World} {base:Nat} {sp:Nat->Bool} {held:Bool} {fuel:Nat} {t e:TypeId} {n:Nat} {cs:List Value} {ss:List Bs} {p:List MemPlace}
  (ht:P.underlying t=some (.array n e)) (he:P.underlying e=some .string) (hce:P.cellsOf e=1) (hct:P.cellsOf t=n)
  (h:DataW.trod enc P w base sp held fuel t cs=some (.agg (ss.map fun s=>.lit (.string s)),p)):cs=ss.map fun s=>Value.string ⟨s.toArray⟩:=by
 cases fuel with
 | zero=>simp[DataW.trod] at h
 | succ fuel =>
  simp only[DataW.trod,ht,hce,hct,Nat.mul_one] at h
  split at h
  ·rename_i hl
   obtain⟨xs,hm,hx⟩:=Option.map_eq_some_iff.1 h
   have hxs:xs.map (·.1)=ss.map fun s=>(DataW.lit (.string s):DataW H):=by
    have:=congrArg Prod.fst hx
    simpa using this
   have hxl:xs.length=n:=by simpa using Lib.mapM_length hm
   have hzl:ss.length=n:=by
    have:=congrArg List.length hxs
    simp at this
    omega
   apply List.ext_getElem?
   intro i
   by_cases hi:i<n
   ·obtain⟨b,hb,hf⟩:=Lib.mapM_at hm i i (by simp[hi]);obtain⟨z,hc,rfl,_⟩:=DataW.trod_string he hf
    have h1:cs[i]?=some (.string z):=by
     have:=congrArg (·[0]?) hc
     simpa [List.getElem?_take,List.getElem?_drop] using this
    have h2:(xs.map (·.1))[i]?=some (DataW.lit (.string z.data.toList):DataW H):=by simp[hb]
    rw[hxs] at h2;simp only[List.getElem?_map,Option.map_eq_some_iff,DataW.lit.injEq,Lit.string.injEq] at h2;obtain⟨s,hs,hz⟩:=h2
    simp[h1,hs,hz]
   rw[List.getElem?_eq_none (by omega),List.getElem?_eq_none (by simp;omega)]
  cases h
theorem gWds : (Tryz.prog.globalNamed "litmus/logic.words").bind (fun g => (Tryz.prog.globals[g]?).map fun x => (Tryz.prog.underlying x.type, Tryz.prog.cellsOf x.type)) = some (some (.array 21 9), 21) := by kernel_rfl
theorem nWds : Tryz.prog.globalNamed "litmus/logic.words" = some 0 := by kernel_rfl
theorem cells1Wd:Tryz.prog.cellsOf 9=1:=by kernel_rfl
theorem wdData:(Rows.laid_litmus_logic_words:DataW Unit)=.agg (wdTab.map fun s=>.lit (.string s)):=by rfl
theorem acData:(Rows.laid_unicode_utf8_acceptRanges:DataW Unit)=Lib.acceptData:=by rfl
theorem wdLen:wdTab.length=21:=by rfl
theorem tabsT {W:World} (hL:laidMetH Tryz.prog Rows.logicTextsRow.laid W):TxT W:=by
 refine⟨table hL,fun i hi=>?_,?_,?_⟩
 ·obtain ⟨g, t, cs, fuel, p, hg, hty, hvar, hd⟩ := Lib.laidMet.reads hL (n := "litmus/logic.words") (d := Rows.laid_litmus_logic_words) (.tail _ (.tail _ (.tail _ (.tail _ (.head _)))));have e := gWds;rw [hg, Option.bind_some] at e;obtain ⟨x, hx, ex⟩ := Option.map_eq_some_iff.1 e;rw [hx, Option.map_some] at hty;injection hty with hty;injection ex with e1 e2;rw [hty] at e1 e2;have hc := cells_of_strs e1 Tryz.underlying9 cells1Wd e2 (wdData ▸ hd);rw [World.var?_cell nWds hvar i];have : cs[i]? = cs.toList[i]? := by simp
  rw[this,hc];have hw:=wdLen
  simp[List.getD,hi,hw]
 ·exact printTabs_of_reads (ρ:=Tryz.lays177_renC) { Tryz.lays177C with } ⟨by kernel_rfl,by kernel_rfl,by kernel_rfl,by kernel_rfl,by kernel_rfl,by kernel_rfl,by kernel_rfl,by kernel_rfl,by kernel_rfl,by kernel_rfl⟩
   (Pinned.isPrint16_eq ▸ Lib.laidMet.reads hL (.tail _ (.tail _ (.tail _ (.tail _ (.tail _ (.tail _ (.tail _ (.tail _ (.head _))))))))))
   (Pinned.isNotPrint16_eq ▸ Lib.laidMet.reads hL (.tail _ (.tail _ (.tail _ (.tail _ (.tail _ (.tail _ (.head _))))))))
   (Pinned.isPrint32_eq ▸ Lib.laidMet.reads hL (.tail _ (.tail _ (.tail _ (.tail _ (.tail _ (.tail _ (.tail _ (.tail _ (.tail _ (.head _)))))))))))
   (Pinned.isNotPrint32_eq ▸ Lib.laidMet.reads hL (.tail _ (.tail _ (.tail _ (.tail _ (.tail _ (.tail _ (.tail _ (.head _)))))))))
 exact utf8Tabs_of_reads (ρ:=Tryz.lays177_renC) { Tryz.lays177C with } ⟨by kernel_rfl,by kernel_rfl,by kernel_rfl,by kernel_rfl,by kernel_rfl,by kernel_rfl,by kernel_rfl⟩
  (Pinned.utf8First_eq ▸ Lib.laidMet.reads hL (.tail _ (.tail _ (.tail _ (.tail _ (.tail _ (.tail _ (.tail _ (.tail _ (.tail _ (.tail _ (.head _))))))))))))
  (acData ▸ Lib.laidMet.reads hL (.tail _ (.tail _ (.tail _ (.head _)))))
theorem cellsIntV:Tryz.prog.cellsOf 26=2:=by kernel_rfl
theorem cellsBoolV:Tryz.prog.cellsOf 4=1:=by kernel_rfl
theorem cellsNatV:Tryz.prog.cellsOf 24=1:=by kernel_rfl
theorem limb_openV {H:Type} {enc:TypeId × Value->H} {W:World} {fuel:Nat} {c:Value} {y:DataW H × List MemPlace}
  (h:DataW.trod enc Tryz.prog W 0 (fun _=>true) true fuel 24 [c]=some y):∃ ao n q,c=.slice ao n q/\RNum W (.slice ao n q):=by
 rcases open_ints Tryz.underlying24 Tryz.underlying113 (by kernel_rfl) h with ⟨hcs,_⟩ | ⟨x,l,c',zs,hcs,_,hl,hm,hz,_,hcell,hwz⟩
 ·simp at hcs
  subst hcs;exact⟨none,0,0,rfl,[],Sl.nil _ _,fun x hx=>by cases hx⟩
 simp at hcs
 subst hcs;obtain⟨xs,hs,hd⟩:=sl_of_ints hl hm (by rw[hz];split<;>omega) hcell hwz;exact⟨_,_,_,rfl,xs,hs,hd⟩
theorem int_rangeV {z:Int} (h:(Lit.int .i64 z).wf=true) : -9223372036854775808<=z/\z<=9223372036854775807:=by
 simp[Lit.wf,IntKind.min,IntKind.max,IntKind.bits,IntKind.signed] at h
 omega
theorem int_openV {H:Type} {enc:TypeId × Value->H} {W:World} {fuel:Nat} {cs:List Value} {y:DataW H × List MemPlace} (h:DataW.trod enc Tryz.prog W 0 (fun _=>true) true fuel 26 cs=some y) :
  ∃ b o l c,cs=[.bool b,.slice o l c]/\RNum W (.slice o l c):=by
 obtain⟨xs,m,-,-,hl2,hyl2,hf2⟩:=DataW.trod_struct Tryz.underlying26 h;rw[cellsIntV] at hl2
 match cs,hl2 with
 | [c0,c1],_ =>
  match xs,hyl2 with
  | [u0,u1],_ =>
   have q0:=hf2 0 _ rfl;have q1:=hf2 1 _ rfl
   simp[cellsBoolV] at q0
   simp[cellsNatV] at q1
   obtain⟨b,eb,-⟩:=DataW.trod_bool Tryz.underlying4 q0;obtain⟨ao,ln,lc,rfl,hs⟩:=limb_openV q1
   simp at eb
   subst eb;exact⟨_,_,_,_,rfl,hs⟩
theorem cellsForm:Tryz.prog.cellsOf 29=5:=by kernel_rfl
theorem cellsOpF:Tryz.prog.cellsOf 22=1:=by kernel_rfl
theorem cellsStrF:Tryz.prog.cellsOf 9=1:=by kernel_rfl
theorem cellsForms:Tryz.prog.cellsOf 27=1:=by kernel_rfl
theorem form_fields {H:Type} {enc:TypeId × Value->H} {W:World} {fuel:Nat} {cs:List Value} {y:DataW H × List MemPlace} (h:DataW.trod enc Tryz.prog W 0 (fun _=>true) true fuel 29 cs=some y) :
  ∃ x:RU,cs=rC x/\IR x.o/\RNum W (.slice x.ao x.l x.c)/\x.nm.size<=9223372036854775807/\(x.kl<=x.kc/\x.kc<=maxLen) /\
   ∀ i,i<x.kl->∃ cs' n' y',AtF 5 W x.ko i cs'/\DataW.trod enc Tryz.prog W 0 (fun _=>true) true n' 29 cs'=some y':=by
 obtain⟨ys,n,-,-,hlen,hyl,hf⟩:=DataW.trod_struct Tryz.underlying29 h;rw[cellsForm] at hlen
 match cs,hlen with
 | [c0,c1,c2,c3,c4],_ =>
  match ys,hyl with
  | [y0,y1,y2,y3],_ =>
   have g0:=hf 0 _ rfl;have g1:=hf 1 _ rfl;have g2:=hf 2 _ rfl;have g3:=hf 3 _ rfl
   simp[cellsOpF] at g0
   simp[cellsIntV] at g1
   simp[cellsStrF] at g2
   simp[cellsForms] at g3
   obtain⟨k,e0,-,w0⟩:=DataW.trod_int Tryz.underlying22 g0;obtain⟨b,o,l,c,e1,hn⟩:=int_openV g1;obtain⟨s,e2,-,w2⟩:=DataW.trod_string Tryz.underlying9 g2
   simp at e0 e1 e2
   obtain⟨e1a,e1b⟩:=e1;subst e0 e1a e1b e2;rcases Go.Deep.open_slice Tryz.underlying27 g3 with ⟨hcs,-⟩ | ⟨a,len,cap,mm,n',D,Pl,hcs,-,hle,hm,hmm,-,hi⟩
   ·simp at hcs
    subst hcs;exact⟨⟨k,b,o,l,c,s,none,0,0⟩,rfl,int_rangeV w0,hn,by unfold maxLen at w2;exact w2,⟨Nat.le_refl _,Nat.zero_le _⟩,fun i hi=>absurd hi (Nat.not_lt_zero i)⟩
   simp at hcs
   subst hcs;refine⟨⟨k,b,o,l,c,s,some a,len,cap⟩,rfl,int_rangeV w0,hn,by unfold maxLen at w2;exact w2,⟨hle,hm⟩,fun i hilt=>?_⟩;obtain⟨cs',hc,ht'⟩:=hi i (by simp only[if_true] at hmm;have:i<len:=hilt;omega);rw[cellsForm] at hc;obtain⟨_,hcl,hat⟩:=World.cells?_some hc;refine⟨cs',n',_,⟨a,rfl,fun j v hj=>?_⟩,ht'⟩;have hjl:j<5:=by have:=(List.getElem?_eq_some_iff.1 hj).1;omega
   rw[hat j hjl];exact hj
theorem rC_inj {x y:RU} (e:rC x=rC y):x=y:=by
 obtain⟨o,b,ao,l,c,nm,ko,kl,kc⟩:=x;obtain⟨o',b',ao',l',c',nm',ko',kl',kc'⟩:=y;simp only[rC,List.cons.injEq,Value.int.injEq,Value.string.injEq,Value.bool.injEq,Value.slice.injEq,true_and,and_true] at e;obtain⟨e1,e2,⟨e3,e4,e5⟩,e6,⟨e7,e8,e9⟩⟩:=e;subst e1 e2 e3 e4 e5 e6 e7 e8 e9
 rfl
theorem rawF_open {H:Type} {enc:TypeId × Value->H} {W:World}:∀ (d:Nat) {fuel:Nat} {x:RU} {y:DataW H × List MemPlace},DataW.trod enc Tryz.prog W 0 (fun _=>true) true fuel 29 (rC x)=some y->RawF W d x
 | 0,_,_,_,_=>trivial
 | d+1,fuel,x,y,h=>by
  obtain⟨x',e,h1,h2,h3,h4,h5⟩:=form_fields h;have ex:=rC_inj e;subst ex;refine⟨h1,h2,h3,h4,fun i hi=>?_⟩;obtain⟨cs',n',y',hc,ht⟩:=h5 i hi;obtain⟨u,hu,-⟩:=form_fields ht;subst hu;exact⟨u,hc,rawF_open d ht⟩
theorem open_form {H:Type} {enc:TypeId × Value->H} {W:World} {base:Nat} {r:Reach} {v:Value} {d:DataW H} {p:List MemPlace}
  (hv:Value.okWide Tryz.prog W r base 29 v) (h:DataW.Trod enc Tryz.prog W 0 (fun _=>true) true 29 v d p):∃ x:RU,v=rV x/\∀ d,RawF W d x:=by
 obtain⟨cs,rfl,hsz⟩:=okWide_struct Tryz.underlying29 hv;obtain⟨fuel,hf⟩:=h;have hcs:(Value.agg cs).cells.toList=cs.toList:=rfl;rw[hcs] at hf;obtain⟨x,e,-⟩:=form_fields hf;rw[e] at hf;exact⟨x,by unfold rV;congr 1;apply Array.ext';rw[e];rfl,fun d=>rawF_open d hf⟩
end Go.Proofs.YtdkfnbbebpbhaaaGreatDoor
