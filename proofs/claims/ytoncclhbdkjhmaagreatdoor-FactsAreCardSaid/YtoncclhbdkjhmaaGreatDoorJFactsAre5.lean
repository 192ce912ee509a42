/-
 Joined texts: LgZb,LgZc,LgZd,LgZe,LgZm,LgU,LgZn,LgBj,ShelfD,LgBk,LgBl,FaN,FaB,FaC,ShelfE,FaD.
-/
import Derived.Shelf.Strings.Builder1
import Derived.Shelf.Small.Utf8
import Derived.Shelf.Small.Bits
import Derived.Shelf.Small.Wraps
import Derived.Shelf.Strings.BuilderF
import Derived.Shelf.Strings.BuilderK
import Derived.Shelf.Utf8.AppendRune
import Derived.Shelf.Utf8.AppendRunePlain
import Derived.Shelf.Strconv.Bsearch
import Derived.Shelf.Strconv.IsPrint
import Derived.Shelf.Strconv.IsPrint16
import Derived.Shelf.Strconv.IsPrint32
import Derived.Shelf.Strconv.Escaped
import Derived.Shelf.Strconv.Quoted
import Derived.Shelf.Strconv.Quote
import Derived.Shelf.Strconv.Itoa0
import Derived.Shelf.Strconv.Itoa1
import Derived.Shelf.LaysM
import Derived.Shelf.Strconv.Itoa2
import Derived.Shelf.Strconv.Itoa3
import Derived.Shelf.Unicode.Decode
import Derived.Shelf.Unicode.DecodeSlow
import Derived.Shelf.Unicode.DecodeAny
import Derived.Shelf.Strings.BuilderCap
import Derived.Shelf.Slices.Turned
import Derived.Ground.Names2Prog
import Derived.Shelf.Slices.SearchI
import Derived.Test.YtoncclhbdkjhmaaGreatDoorProg
import Derived.Carry
import Derived.Test.YtoncclhbdkjhmaaGreatDoorJFactsAre3
import Derived.Test.YtoncclhbdkjhmaaGreatDoorJFactsAre4
set_option maxHeartbeats 32000000
namespace Go.Proofs.YtoncclhbdkjhmaaGreatDoor
open Go.RowKit
set_option maxRecDepth 100000
set_option linter.unusedVariables false
set_option linter.unusedSimpArgs false
def opAttame_0s (j:Nat):Int:=[(1:Int),(0:Int),(2:Int),(3:Int),(4:Int),(5:Int),(6:Int),(7:Int)].getD j 0
theorem tame_0s (d:Nat) (hd0:1<=d) (hd:d<=100) (IT:TameC d) (xo:Int) (xb:Bool) (xao:Option Addr) (xl xc:Nat) (xnm:ByteArray) (xko:Option Addr) (xkl xkc:Nat) (w:World) (hx:RawF w (d+1) ⟨xo,xb,xao,xl,xc,xnm,xko,xkl,xkc⟩) :
  Calls Tryz.prog 13 #[.agg #[.int .i64 xo,.bool xb,.slice xao xl xc,.string xnm,.slice xko xkl xkc],.int .i64 0,.int .i64 ((d:Nat)+1:Int)] w (TamePost (d+1) 0 w):=by
 have HX:=Lib.hid hx;have HIT:=Lib.hid IT;have HD:=Lib.hid hd;have hdle:decide (((d:Nat)+1:Int)<=1)=false:=by simp;omega
 clear IT hd0 hd;obtain⟨-,hn,-,⟨hk1,hk2⟩,-⟩:=hx;simp only at hn hk1 hk2;have hxm:xkc<=9223372036854775807:=hk2;obtain⟨m,hm⟩:∃ m,m=min xl 2:=⟨_,rfl⟩;have hmin:min (xl:Int) 2=(m:Int):=by omega
 have hm2:m<=2:=by omega
 have hml:m<=xl:=by omega
 have hx2:∃ q,GN w (.slice xao m xc) q 2/\xl<=xc/\xc<=9223372036854775807:=by
  obtain⟨xs,hs,hdg⟩:=hn;have hl:=sl_len hs;obtain⟨_,_,e,h1,h2,_⟩:=id hs;injection e with e1 e2 e3;subst e3;exact⟨_,⟨xs.take m,hs.take m (by omega),hdg.take m,rfl,by rw[List.length_take];omega⟩,by omega,h2⟩
 obtain⟨q,hq,hlc,hc⟩:=hx2;have hmc:m<=xc:=by omega
 have HG:=Lib.hid hq;clear hq hn hm hk2;obtain⟨K,hK,hK2⟩:=and_255 xo;obtain⟨j,hj⟩:∃ j,j=K % 8:=⟨_,rfl⟩;have hjm:((K:Nat):Int).tmod 8=((j:Nat):Int):=by rw[hj];exact (Int.ofNat_tmod K 8).symm
 have hjN:j<8:=by rw[hj];exact Nat.mod_lt _ (by decide)
 clear hj hK2;have HW:=Lib.hid (Below.refl w.heap.size w);go_enter Tryz.func13,Tryz.ntmps13;obtain⟨x1,kf,ef,ekf,hbf,hkf,HBf⟩:=newV w #[.int .i64 xo,.bool xb,.slice xao xl xc,.string xnm,.slice xko xkl xkc] 29;replace HW:=Lib.hid (HW.out.trans (hbf.out.mono HW.out.size));replace HG:=Lib.hid (HG.out.below hbf.out);obtain⟨x2,kd,ed,ekd,hbd,hkd,HBd⟩:=newV x1 #[.int .i64 ((d:Nat)+1:Int)] 3;replace HBf:=kBV hbd.out HBf;replace HW:=Lib.hid (HW.out.trans (hbd.out.mono HW.out.size));replace HG:=Lib.hid (HG.out.below hbd.out);obtain⟨x3,kr,er,ekr,hbr,hkr,HBr⟩:=newV x2 #[.int .i64 0,.bool false,.slice none 0 0,.string ⟨#[]⟩,.slice none 0 0] 29;replace HBf:=kBV hbr.out HBf;replace HBd:=kBV hbr.out HBd;replace HW:=Lib.hid (HW.out.trans (hbr.out.mono HW.out.size));replace HG:=Lib.hid (HG.out.below hbr.out)
 have HKR:Hid (w.heap.size<=kr):=Lib.hid (by have h1:=hbf.out.size;have h2:=hbd.out.size;have h3:=hkr.out;omega);obtain⟨x4,kp,ep,ekp,hbp,hkp,HBp⟩:=newV x3 #[.int .i64 1,.int .i64 0,.int .i64 2,.int .i64 3,.int .i64 4,.int .i64 5,.int .i64 6,.int .i64 7] 22;replace HBf:=kBV hbp.out HBf;replace HBd:=kBV hbp.out HBd;replace HBr:=kBV hbp.out HBr;replace HW:=Lib.hid (HW.out.trans (hbp.out.mono HW.out.size));replace HG:=Lib.hid (HG.out.below hbp.out);obtain⟨x5,kq,eq,ekq,hbq,hkq,HBq⟩:=newV x4 #[.int .i64 14,.int .i64 12,.int .i64 13,.int .i64 15,.int .i64 16,.int .i64 16,.int .i64 17,.int .i64 18,.int .i64 19,.int .i64 20] 22;replace HBf:=kBV hbq.out HBf;replace HBd:=kBV hbq.out HBd;replace HBr:=kBV hbq.out HBr;replace HBp:=kBV hbq.out HBp;replace HW:=Lib.hid (HW.out.trans (hbq.out.mono HW.out.size))
 replace HG:=Lib.hid (HG.out.below hbq.out);obtain⟨x6,kt,et,ekt,hbt,hkt,HBt⟩:=newV x5 #[.int .i64 8,.int .i64 9,.int .i64 10,.int .i64 11] 22;replace HBf:=kBV hbt.out HBf;replace HBd:=kBV hbt.out HBd;replace HBr:=kBV hbt.out HBr;replace HBp:=kBV hbt.out HBp;replace HW:=Lib.hid (HW.out.trans (hbt.out.mono HW.out.size));replace HG:=Lib.hid (HG.out.below hbt.out);have hidx:=idx3_0 (some ⟨kp,0,none⟩) (some ⟨kq,0,none⟩) (some ⟨kt,0,none⟩) 8 10 4 8 10 4;obtain⟨⟨f0,f1,f2,f3,f4⟩,ff0,ff1,ff2,ff3,ff4⟩:=cells5V HBf.out;have d0:=cell_at (v:=.int .i64 ((d:Nat)+1:Int)) HBd.out 0 rfl;have fd0:=froz_at HBd.out 0;have hop:x6.cell? ⟨kp,j,none⟩=some (.int .i64 (opAttame_0s j)):=by
  have:j=0\/j=1\/j=2\/j=3\/j=4\/j=5\/j=6\/j=7:=by omega
  rcases this with rfl | rfl | rfl | rfl | rfl | rfl | rfl | rfl<;>exact cell_at HBp.out _ rfl
 obtain⟨op,hopd⟩:∃ op,op=opAttame_0s j:=⟨_,rfl⟩;rw[<-hopd] at hop;have HOP:=Lib.hid hopd;clear hopd;go_upto_region 7 with fail;clear f0 ff0 f1 ff1 f2 ff2 f3 ff3 f4 ff4 d0 fd0 hop;clear hidx hjm hK;have HWp:=HW;have HBfp:=HBf;have HBdp:=HBd;have HBrp:=HBr;obtain⟨x7,ko,eo,eko,hbo,hko,HBo⟩:=newV x6 #[.int .i64 op,.bool false,.slice none 0 0,.string ⟨#[]⟩,.slice none 0 0] 29;replace HBf:=kBV hbo.out HBf;replace HBd:=kBV hbo.out HBd;replace HBr:=kBV hbo.out HBr;replace HW:=Lib.hid (HW.out.trans (hbo.out.mono HW.out.size));replace HG:=Lib.hid (HG.out.below hbo.out);rw[eo,eko];have HKO:Hid (w.heap.size<=ko):=Lib.hid (by have:=HWp.out.size;have:=hko.out;omega);go_upto_region 8 with fail;have HY:=Lib.hid (Below.refl x7.heap.size x7);have HBf0:=HBf;have HBd0:=HBd;have HBr0:=HBr;have HBo0:=HBo
 have hlt_f:=lt_of_block HBf.out;have hog:Hid (∀ q,q<0->(fun q=>0) q<x7.heap.size):=Lib.hid (fun q h=>absurd h (Nat.not_lt_zero _));refine R7.region (by kernel_rfl) [[],[0],[0,1],[],[3],[3,4],[],[6],[6,7],[6,7,8],[6,7,8,9],[3,4,5,6,7,8,9,10],[0,1,2,3,4,5,6,7,8,9,10,11],[],[0,1,2,3,4,5,6,7,8,9,10,11,12,13]] [] [] (fun q=>0) 0 14 (by kernel_rfl) (by kernel_rfl) (by rfl) hog.out (fun q q' h h' hn=>absurd hn (by omega)) ?_;refine R7.Chain.det ?_ (by rfl) (fun T xs wr hA=>?_) ?_;rotate_left 1
 ·have e3:=hA.pre 3 (by kernel_rfl);simp only[gsa,gsc,gsz] at e3;clear hA;refine⟨(by rfl),?_⟩;go_simp<;>(try with_reducible rfl)
 refine R7.Chain.det ?_ (by rfl) (fun T xs wr hA=>?_) ?_;rotate_left 1
 ·have e36:=hA.tm 0 36 (by rfl) (by rfl);have f36:xs 0=_:=hA.fa 0 (by rfl);(try simp (disch:=first | rfl | decide) only [R7.mask_in] at f36);rw[f36] at e36;clear f36;clear hA;refine⟨(by rfl),?_⟩;go_simp<;>(try with_reducible rfl)
 refine R7.Chain.det ?_ (by rfl) (fun T xs wr hA=>?_) ?_;rotate_left 1
 ·have e37:=hA.tm 1 37 (by rfl) (by rfl);have f37:xs 1=_:=hA.fa 1 (by rfl);(try simp (disch:=first | rfl | decide) only [R7.mask_in] at f37);rw[f37] at e37;clear f37;have hBq:wr.heap[kf]?=_:=(hA.bl _ hlt_f (fun q h=>absurd h (Nat.not_lt_zero _))).trans HBf.out;have q0:=cell_at (v:=.int .i64 xo) hBq 0 rfl;have q1:=cell_at (v:=.bool xb) hBq 1 rfl;have q2:=cell_at (v:=.slice xao xl xc) hBq 2 rfl;have q3:=cell_at (v:=.string xnm) hBq 3 rfl;have q4:=cell_at (v:=.slice xko xkl xkc) hBq 4 rfl;clear hBq;clear hA;refine⟨(by rfl),?_⟩;go_simp<;>(try with_reducible rfl)
 refine R7.Chain.det ?_ (by rfl) (fun T xs wr hA=>?_) ?_;rotate_left 1
 ·have e3:=hA.pre 3 (by kernel_rfl);simp only[gsa,gsc,gsz] at e3;clear hA;refine⟨(by rfl),?_⟩;go_simp<;>(try with_reducible rfl)
 refine R7.Chain.det ?_ (by rfl) (fun T xs wr hA=>?_) ?_;rotate_left 1
 ·have e39:=hA.tm 3 39 (by rfl) (by rfl);have f39:xs 3=_:=hA.fa 3 (by rfl);(try simp (disch:=first | rfl | decide) only [R7.mask_in] at f39);rw[f39] at e39;clear f39;clear hA;refine⟨(by rfl),?_⟩;go_simp<;>(try with_reducible rfl)
 refine R7.Chain.det ?_ (by rfl) (fun T xs wr hA=>?_) ?_;rotate_left 1
 ·have e40:=hA.tm 4 40 (by rfl) (by rfl);have f40:xs 4=_:=hA.fa 4 (by rfl);(try simp (disch:=first | rfl | decide) only [R7.mask_in] at f40);rw[f40] at e40;clear f40;have hBq:wr.heap[kf]?=_:=(hA.bl _ hlt_f (fun q h=>absurd h (Nat.not_lt_zero _))).trans HBf.out;have q0:=cell_at (v:=.int .i64 xo) hBq 0 rfl;have q1:=cell_at (v:=.bool xb) hBq 1 rfl;have q2:=cell_at (v:=.slice xao xl xc) hBq 2 rfl;have q3:=cell_at (v:=.string xnm) hBq 3 rfl;have q4:=cell_at (v:=.slice xko xkl xkc) hBq 4 rfl;clear hBq;clear hA;refine⟨(by rfl),?_⟩;go_simp<;>(try with_reducible rfl)
 refine R7.Chain.det ?_ (by rfl) (fun T xs wr hA=>?_) ?_;rotate_left 1
 ·have e3:=hA.pre 3 (by kernel_rfl);simp only[gsa,gsc,gsz] at e3;clear hA;refine⟨(by rfl),?_⟩;go_simp<;>(try with_reducible rfl)
 refine R7.Chain.det ?_ (by rfl) (fun T xs wr hA=>?_) ?_;rotate_left 1
 ·have e42:=hA.tm 6 42 (by rfl) (by rfl);have f42:xs 6=_:=hA.fa 6 (by rfl);(try simp (disch:=first | rfl | decide) only [R7.mask_in] at f42);rw[f42] at e42;clear f42;clear hA;refine⟨(by rfl),?_⟩;go_simp<;>(try with_reducible rfl)
 refine R7.Chain.det ?_ (by rfl) (fun T xs wr hA=>?_) ?_;rotate_left 1
 ·have e43:=hA.tm 7 43 (by rfl) (by rfl);have f43:xs 7=_:=hA.fa 7 (by rfl);(try simp (disch:=first | rfl | decide) only [R7.mask_in] at f43);rw[f43] at e43;clear f43;have hBq:wr.heap[kf]?=_:=(hA.bl _ hlt_f (fun q h=>absurd h (Nat.not_lt_zero _))).trans HBf.out;have q0:=cell_at (v:=.int .i64 xo) hBq 0 rfl;have q1:=cell_at (v:=.bool xb) hBq 1 rfl;have q2:=cell_at (v:=.slice xao xl xc) hBq 2 rfl;have q3:=cell_at (v:=.string xnm) hBq 3 rfl;have q4:=cell_at (v:=.slice xko xkl xkc) hBq 4 rfl;clear hBq;clear hA;refine⟨(by rfl),?_⟩;go_simp<;>(try with_reducible rfl)
 refine R7.Chain.det ?_ (by rfl) (fun T xs wr hA=>?_) ?_;rotate_left 1
 ·have e44:=hA.tm 8 44 (by rfl) (by rfl);have f44:xs 8=_:=hA.fa 8 (by rfl);(try simp (disch:=first | rfl | decide) only [R7.mask_in] at f44);rw[f44] at e44;clear f44;clear hA;refine⟨(by rfl),?_⟩;go_simp<;>(try with_reducible rfl)
 refine R7.Chain.det ?_ (by rfl) (fun T xs wr hA=>?_) ?_;rotate_left 1
 ·have e45:=hA.tm 9 45 (by rfl) (by rfl);have f45:xs 9=_:=hA.fa 9 (by rfl);(try simp (disch:=first | rfl | decide) only [R7.mask_in] at f45);rw[f45] at e45;clear f45;clear hA;refine⟨(by rfl),?_⟩;go_simp<;>(try with_reducible rfl)
 refine R7.Chain.det ?_ (by rfl) (fun T xs wr hA=>?_) ?_;rotate_left 1
 ·have e41:=hA.tm 5 41 (by rfl) (by rfl);have f41:xs 5=_:=hA.fa 5 (by rfl);(try simp (disch:=first | rfl | decide) only [R7.mask_in] at f41);rw[f41] at e41;clear f41;have e46:=hA.tm 10 46 (by rfl) (by rfl);have f46:xs 10=_:=hA.fa 10 (by rfl);(try simp (disch:=first | rfl | decide) only [R7.mask_in] at f46);rw[f46] at e46;clear f46;clear hA;refine⟨(by rfl),?_⟩;go_simp<;>(try with_reducible rfl)
 refine R7.Chain.call (fun xs v w=>∃ z,CI w v z 2) (fun _ _ _ _ h hb=>by obtain⟨z,h2⟩:=h;exact⟨z,h2.below hb⟩) (fun _ _ _ _ _ _ h _=>by obtain⟨q,hq,_⟩:=h;exact absurd hq (Nat.not_lt_zero _)) (by rfl) (fun T xs wr hA=>?_) ?_
 ·have hsw:=(hA.be 0 (Nat.zero_le _) (fun _ _=>Nat.zero_le _)).size;have e38:=hA.tm 2 38 (by rfl) (by rfl);have f38:xs 2=_:=hA.fa 2 (by rfl);(try simp (disch:=first | rfl | decide) only [R7.mask_in] at f38);rw[f38] at e38;clear f38;have e47:=hA.tm 11 47 (by rfl) (by rfl);have f47:xs 11=_:=hA.fa 11 (by rfl);(try simp (disch:=first | rfl | decide) only [R7.mask_in] at f47);rw[f47] at e47;clear f47;have hbw:=undrew (hA.be x7.heap.size (Nat.le_refl _) (fun q h=>absurd h (Nat.not_lt_zero q)));clear hA;refine⟨(by rfl),fun K hK=>?_⟩;go_simp;refine (big_any xb _ q 2 wr (HG.out.below hbw) (by decide)).mono ?_;rintro e w' ⟨v,rfl,hc,hb'⟩;exact hK.out _ _ ⟨_,hc⟩ hb'
 refine R7.Chain.call (fun xs v w=>∃ g,v=.pointer (some ⟨g,0,none⟩)/\x7.heap.size<=g/\w.heap[g]?=some (.cells #[.bool false,.slice none 0 0] 26 (0,0))) (fun _ _ _ _ h hb=>by obtain⟨g,h1,h2,h3⟩:=h;exact⟨g,h1,h2,by rw[hb.block g (lt_of_block h3)];exact h3⟩) (fun _ _ _ _ _ _ h _=>by obtain⟨q,hq,_⟩:=h;exact absurd hq (Nat.not_lt_zero _)) (by rfl) (fun T xs wr hA=>?_) ?_
 ·have hsw:=(hA.be 0 (Nat.zero_le _) (fun _ _=>Nat.zero_le _)).size;have hbw:=undrew (hA.be x7.heap.size (Nat.le_refl _) (fun q h=>absurd h (Nat.not_lt_zero q)));clear hA;refine⟨(by rfl),fun K hK=>?_⟩;go_simp;exact hK.out _ _ ⟨_,rfl,hbw.size,made_at _ _ _ rfl⟩ ((Below.refl _ _).alloc (Nat.le_refl _) _)
 refine R7.Chain.done (fun xs x8 hL=>?_);obtain⟨⟨hbe,hbl⟩,hf,-,-⟩:=hL;have f0:xs 0=_:=hf 0 (by decide);(try simp (disch:=first | rfl | decide) only [R7.mask_in] at f0);have f1:xs 1=_:=hf 1 (by decide);(try simp (disch:=first | rfl | decide) only [R7.mask_in] at f1);have f2:xs 2=_:=hf 2 (by decide);(try simp (disch:=first | rfl | decide) only [R7.mask_in] at f2);have f3:xs 3=_:=hf 3 (by decide);(try simp (disch:=first | rfl | decide) only [R7.mask_in] at f3);have f4:xs 4=_:=hf 4 (by decide);(try simp (disch:=first | rfl | decide) only [R7.mask_in] at f4);have f5:xs 5=_:=hf 5 (by decide);(try simp (disch:=first | rfl | decide) only [R7.mask_in] at f5);have f6:xs 6=_:=hf 6 (by decide);(try simp (disch:=first | rfl | decide) only [R7.mask_in] at f6);have f7:xs 7=_:=hf 7 (by decide)
 (try simp (disch:=first | rfl | decide) only [R7.mask_in] at f7);have f8:xs 8=_:=hf 8 (by decide);(try simp (disch:=first | rfl | decide) only [R7.mask_in] at f8);have f9:xs 9=_:=hf 9 (by decide);(try simp (disch:=first | rfl | decide) only [R7.mask_in] at f9);have f10:xs 10=_:=hf 10 (by decide);(try simp (disch:=first | rfl | decide) only [R7.mask_in] at f10);have f11:xs 11=_:=hf 11 (by decide);(try simp (disch:=first | rfl | decide) only [R7.mask_in] at f11);have F12:∃ z,CI x8 (xs 12) z 2:=hf 12 (by decide);have F13:∃ g,(xs 13)=.pointer (some ⟨g,0,none⟩)/\x7.heap.size<=g/\x8.heap[g]?=some (.cells #[.bool false,.slice none 0 0] 26 (0,0)):=hf 13 (by decide);have hb0:Below 0 x7 x8:=undrew (hbe 0 (Nat.zero_le _) (fun _ _=>Nat.zero_le _))
 have hgr:∀ j,j<x7.heap.size->(∀ q,q<0->(fun q=>0) q≠j)->x8.heap[j]?=x7.heap[j]?:=hbl;clear hbe hbl hf;have hb:Below x7.heap.size x7 x8:=⟨hb0.os,hb0.tape,hb0.output,hb0.size,fun q hq=>hgr q hq (fun q h=>absurd h (Nat.not_lt_zero _))⟩;refine R7.rest_list (by decide) (by kernel_rfl) ?_;simp only[R7.fill,t1_,t2_,t3_,t4_,t5_,t6_,t7_,f0,f1,f2,f3,f4,f5,f6,f7,f8,f9,f10,f11];clear hb0 hgr hog hlt_f f0 f1 f2 f3 f4 f5 f6 f7 f8 f9 f10 f11;replace HBf:=kBV hb HBf;replace HBd:=kBV hb HBd;replace HBr:=kBV hb HBr;replace HBo:=kBV hb HBo;replace HW:=Lib.hid (HW.out.trans (hb.mono HW.out.size));replace HY:=Lib.hid (HY.out.trans (hb.mono HY.out.size));replace hb:=Lib.hid hb;obtain⟨z,hcz⟩:=F12;obtain⟨zb,zo,zl,zc,hzv⟩:=hcz.shape;obtain⟨km,hkm,hkm1,hkm2⟩:=F13;rw[hzv] at hcz;rw[hzv,hkm]
 have HC:=Lib.hid (hcz.mono (k':=600) (by decide));have HCZ:=Lib.hid hcz.lt;have HBm:=Lib.hid hkm2;clear hcz hzv hkm hkm2;obtain⟨m0,m1,fm0,fm1⟩:=cells2V HBm.out;go_upto_region 9 with fail;clear m0 fm0 m1 fm1;have hg1:=grown2V (w:=x8) (k:=km) (.bool zb) (.slice zo zl zc);have hb1:((x8.setCell ⟨km,0,none⟩ (.bool zb)).setCell ⟨km,1,none⟩ (.slice zo zl zc)).heap[km]?=_:=heap_setCell_same _ km 1 _ _ _ (heap_setCell_same _ km 0 _ _ _ HBm.out);obtain⟨W1,hW1⟩:∃ q,q=(x8.setCell ⟨km,0,none⟩ (.bool zb)).setCell ⟨km,1,none⟩ (.slice zo zl zc):=⟨_,rfl⟩;rw[<-hW1] at hg1 hb1 ⊢;have hf1:Fr 26 x8 W1:=.of_grown hg1 (fun j hj=>by injection hj with hj;subst hj;exact⟨_,HBm.out,n32_2⟩);have HKM:Hid (w.heap.size<=km):=Lib.hid (Nat.le_trans (by have:=HKO.out;have:=lt_of_block HBo0.out;omega) hkm1)
 replace HW:=Lib.hid (ext_below HW.out hg1 HKM.out);replace HY:=Lib.hid (ext_below HY.out hg1 hkm1);replace HC:=Lib.hid (HC.out.fr hf1);replace HBf:=Lib.hid ((HY.out.block _ (lt_of_block HBf0.out)).trans HBf0.out);replace HBd:=Lib.hid ((HY.out.block _ (lt_of_block HBd0.out)).trans HBd0.out);replace HBr:=Lib.hid ((HY.out.block _ (lt_of_block HBr0.out)).trans HBr0.out);replace HBo:=Lib.hid ((HY.out.block _ (lt_of_block HBo0.out)).trans HBo0.out);replace HBm:=Lib.hid hb1;clear hg1 hb1 hW1 hf1 hkm1;have HLOW:Hid (kf<W1.heap.size/\kd<W1.heap.size/\kr<W1.heap.size/\ko<W1.heap.size):=Lib.hid ⟨lt_of_block HBf.out,lt_of_block HBd.out,lt_of_block HBr.out,lt_of_block HBo.out⟩
 have HDIS:Hid (kf≠ko/\kd≠ko/\kr≠ko):=Lib.hid (by have h1:=lt_of_block HBfp.out;have h2:=lt_of_block HBdp.out;have h3:=lt_of_block HBrp.out;rw[eko] at h1 h2 h3;omega);have HB0:Hid (w.heap.size<=W1.heap.size):=Lib.hid HW.out.size;have hjc:j=0\/j=1\/j=2\/j=3\/j=4\/j=5\/j=6\/j=7:=by omega
 rcases hjc with rfl | rfl | rfl | rfl | rfl | rfl | rfl | rfl
 ·have hop2:op=1:=HOP.out;subst hop2;clear HOP;have HSZP:Hid (W1.heap.size<=W1.heap.size):=Lib.hid (Nat.le_refl _);rcases (tmod_cases xnm.size).1 with hr | hr | hr
  ·obtain⟨⟨o0,o1,o2,o3,o4⟩,fo0,fo1,fo2,fo3,fo4⟩:=cells5V HBo.out;obtain⟨m0,m1,fm0,fm1⟩:=cells2V HBm.out;obtain⟨⟨f0,f1,f2,f3,f4⟩,ff0,ff1,ff2,ff3,ff4⟩:=cells5V HBf.out;have hcv:=one_byteL 48 48 (by decide) W1;obtain⟨x9,ky,ey,eky,hby,hky,HBy⟩:=newV W1 #[.int .u8 48] 5;replace HBf:=kBV hby.out HBf;replace HBd:=kBV hby.out HBd;replace HBr:=kBV hby.out HBr;replace HBo:=kBV hby.out HBo;replace HW:=Lib.hid (HW.out.trans (hby.out.mono HW.out.size));rw[ey,eky] at hcv;obtain⟨⟨p0,p1,p2,p3,p4⟩,fp0,fp1,fp2,fp3,fp4⟩:=cells5V HBo.out;replace HSZP:=Lib.hid (Nat.le_trans HSZP.out hby.out.size);go_upto_region 21 with fail;clear o0 fo0 o1 fo1 o2 fo2 o3 fo3 o4 fo4 m0 fm0 m1 fm1 f0 ff0 f1 ff1 f2 ff2 f3 ff3 f4 ff4 p0 fp0 p1 fp1 p2 fp2 p3 fp3 p4 fp4;try clear hcv
   try clear hr
   rw[show ((⟨#[105]⟩:ByteArray)++⟨#[48]⟩)=⟨#[105,48]⟩ from rfl];have hgo:x9.grownBy (x9.setCell ⟨ko,3,none⟩ (.string ⟨#[105,48]⟩)) (some ko):=by refine grown_setCell ?_ _;exact World.grownBy.refl _ _
   have hbo:(x9.setCell ⟨ko,3,none⟩ (.string ⟨#[105,48]⟩)).heap[ko]?=_:=(heap_setCell_same _ ko 3 _ _ (.string ⟨#[105,48]⟩) HBo.out);obtain⟨W2,hW2⟩:∃ q,q=x9.setCell ⟨ko,3,none⟩ (.string ⟨#[105,48]⟩):=⟨_,rfl⟩;rw[<-hW2] at hgo hbo ⊢;have hfo:Fr 29 x9 W2:=.of_grown hgo (fun j hj=>by injection hj with hj;subst hj;exact⟨_,HBo.out,n32_F⟩);replace HW:=Lib.hid (ext_below HW.out hgo HKO.out);replace HBf:=Lib.hid ((hgo.block _ (lt_of_block HBf.out) (fun e=>by injection e with e;exact HDIS.out.1 e)).trans HBf.out);replace HBd:=Lib.hid ((hgo.block _ (lt_of_block HBd.out) (fun e=>by injection e with e;exact HDIS.out.2.1 e)).trans HBd.out);replace HBr:=Lib.hid ((hgo.block _ (lt_of_block HBr.out) (fun e=>by injection e with e;exact HDIS.out.2.2 e)).trans HBr.out)
   have HSZW:Hid (W1.heap.size<=W2.heap.size):=Lib.hid (Nat.le_trans HSZP.out hgo.size);replace HBo:=Lib.hid hbo;clear hgo hbo hW2 hfo HSZP;have HSZP:=HSZW;clear HSZW;have HT:Hid (TSt w W1.heap.size kf kd kr ko ⟨xo,xb,xao,xl,xc,xnm,xko,xkl,xkc⟩ ((d:Nat)+1) 1 false none 0 0 (⟨#[105,48]⟩) (0) d [] (.slice none 0 0) [] W2):=Lib.hid (TSt.zero HBo.out HBf.out HBd.out HBr.out (nr0 _) HLOW.out HDIS.out HKO.out HW.out HSZP.out);obtain⟨⟨o0,o1,o2,o3,o4⟩,fo0,fo1,fo2,fo3,fo4⟩:=cells5V HBo.out;obtain⟨⟨r0,r1,r2,r3,r4⟩,fr0,fr1,fr2,fr3,fr4⟩:=cells5V HBr.out;go_wp2_with fail;clear o0 fo0 o1 fo1 o2 fo2 o3 fo3 o4 fo4;have hg:=grown5V (w:=W2) (k:=kr) (.int .i64 1) (.bool false) (.slice none 0 0) (.string ⟨#[105,48]⟩) (.slice none 0 0)
   have hf:Fr 29 W2 _:=.of_grown hg (fun j hj=>by injection hj with hj;subst hj;exact⟨_,HBr.out,n32_F⟩);obtain⟨h1,h2,h3,h4⟩:=HT.out.fin hg hf (by unfold IR;decide) HB0.out HKR.out (by unfold NmOk;simp) (small4 (by decide)) (fun _ _ _=>rfl) (by simp) (rfl);(try simp only[Exit.inBlock,Exit.then]);exact bodyPost_ret (v:=.agg #[.int .i64 1,.bool false,.slice none 0 0,.string ⟨#[105,48]⟩,.slice none 0 0]) (by simp[results,Tryz.results13,go_sem,r0,r1,r2,r3,r4]) rfl ⟨_,_,rfl,h1,h2,rfl,h3,h4⟩
  ·obtain⟨⟨o0,o1,o2,o3,o4⟩,fo0,fo1,fo2,fo3,fo4⟩:=cells5V HBo.out;obtain⟨m0,m1,fm0,fm1⟩:=cells2V HBm.out;obtain⟨⟨f0,f1,f2,f3,f4⟩,ff0,ff1,ff2,ff3,ff4⟩:=cells5V HBf.out;have hcv:=one_byteL 49 49 (by decide) W1;obtain⟨x9,ky,ey,eky,hby,hky,HBy⟩:=newV W1 #[.int .u8 49] 5;replace HBf:=kBV hby.out HBf;replace HBd:=kBV hby.out HBd;replace HBr:=kBV hby.out HBr;replace HBo:=kBV hby.out HBo;replace HW:=Lib.hid (HW.out.trans (hby.out.mono HW.out.size));rw[ey,eky] at hcv;obtain⟨⟨p0,p1,p2,p3,p4⟩,fp0,fp1,fp2,fp3,fp4⟩:=cells5V HBo.out;replace HSZP:=Lib.hid (Nat.le_trans HSZP.out hby.out.size);go_upto_region 21 with fail;clear o0 fo0 o1 fo1 o2 fo2 o3 fo3 o4 fo4 m0 fm0 m1 fm1 f0 ff0 f1 ff1 f2 ff2 f3 ff3 f4 ff4 p0 fp0 p1 fp1 p2 fp2 p3 fp3 p4 fp4;try clear hcv
   try clear hr
   rw[show ((⟨#[105]⟩:ByteArray)++⟨#[49]⟩)=⟨#[105,49]⟩ from rfl];have hgo:x9.grownBy (x9.setCell ⟨ko,3,none⟩ (.string ⟨#[105,49]⟩)) (some ko):=by refine grown_setCell ?_ _;exact World.grownBy.refl _ _
   have hbo:(x9.setCell ⟨ko,3,none⟩ (.string ⟨#[105,49]⟩)).heap[ko]?=_:=(heap_setCell_same _ ko 3 _ _ (.string ⟨#[105,49]⟩) HBo.out);obtain⟨W2,hW2⟩:∃ q,q=x9.setCell ⟨ko,3,none⟩ (.string ⟨#[105,49]⟩):=⟨_,rfl⟩;rw[<-hW2] at hgo hbo ⊢;have hfo:Fr 29 x9 W2:=.of_grown hgo (fun j hj=>by injection hj with hj;subst hj;exact⟨_,HBo.out,n32_F⟩);replace HW:=Lib.hid (ext_below HW.out hgo HKO.out);replace HBf:=Lib.hid ((hgo.block _ (lt_of_block HBf.out) (fun e=>by injection e with e;exact HDIS.out.1 e)).trans HBf.out);replace HBd:=Lib.hid ((hgo.block _ (lt_of_block HBd.out) (fun e=>by injection e with e;exact HDIS.out.2.1 e)).trans HBd.out);replace HBr:=Lib.hid ((hgo.block _ (lt_of_block HBr.out) (fun e=>by injection e with e;exact HDIS.out.2.2 e)).trans HBr.out)
   have HSZW:Hid (W1.heap.size<=W2.heap.size):=Lib.hid (Nat.le_trans HSZP.out hgo.size);replace HBo:=Lib.hid hbo;clear hgo hbo hW2 hfo HSZP;have HSZP:=HSZW;clear HSZW;have HT:Hid (TSt w W1.heap.size kf kd kr ko ⟨xo,xb,xao,xl,xc,xnm,xko,xkl,xkc⟩ ((d:Nat)+1) 1 false none 0 0 (⟨#[105,49]⟩) (0) d [] (.slice none 0 0) [] W2):=Lib.hid (TSt.zero HBo.out HBf.out HBd.out HBr.out (nr0 _) HLOW.out HDIS.out HKO.out HW.out HSZP.out);obtain⟨⟨o0,o1,o2,o3,o4⟩,fo0,fo1,fo2,fo3,fo4⟩:=cells5V HBo.out;obtain⟨⟨r0,r1,r2,r3,r4⟩,fr0,fr1,fr2,fr3,fr4⟩:=cells5V HBr.out;go_wp2_with fail;clear o0 fo0 o1 fo1 o2 fo2 o3 fo3 o4 fo4;have hg:=grown5V (w:=W2) (k:=kr) (.int .i64 1) (.bool false) (.slice none 0 0) (.string ⟨#[105,49]⟩) (.slice none 0 0)
   have hf:Fr 29 W2 _:=.of_grown hg (fun j hj=>by injection hj with hj;subst hj;exact⟨_,HBr.out,n32_F⟩);obtain⟨h1,h2,h3,h4⟩:=HT.out.fin hg hf (by unfold IR;decide) HB0.out HKR.out (by unfold NmOk;simp) (small4 (by decide)) (fun _ _ _=>rfl) (by simp) (rfl);(try simp only[Exit.inBlock,Exit.then]);exact bodyPost_ret (v:=.agg #[.int .i64 1,.bool false,.slice none 0 0,.string ⟨#[105,49]⟩,.slice none 0 0]) (by simp[results,Tryz.results13,go_sem,r0,r1,r2,r3,r4]) rfl ⟨_,_,rfl,h1,h2,rfl,h3,h4⟩
  obtain⟨⟨o0,o1,o2,o3,o4⟩,fo0,fo1,fo2,fo3,fo4⟩:=cells5V HBo.out;obtain⟨m0,m1,fm0,fm1⟩:=cells2V HBm.out;obtain⟨⟨f0,f1,f2,f3,f4⟩,ff0,ff1,ff2,ff3,ff4⟩:=cells5V HBf.out;have hcv:=one_byteL 50 50 (by decide) W1;obtain⟨x9,ky,ey,eky,hby,hky,HBy⟩:=newV W1 #[.int .u8 50] 5;replace HBf:=kBV hby.out HBf;replace HBd:=kBV hby.out HBd;replace HBr:=kBV hby.out HBr;replace HBo:=kBV hby.out HBo;replace HW:=Lib.hid (HW.out.trans (hby.out.mono HW.out.size));rw[ey,eky] at hcv;obtain⟨⟨p0,p1,p2,p3,p4⟩,fp0,fp1,fp2,fp3,fp4⟩:=cells5V HBo.out;replace HSZP:=Lib.hid (Nat.le_trans HSZP.out hby.out.size);go_upto_region 21 with fail;clear o0 fo0 o1 fo1 o2 fo2 o3 fo3 o4 fo4 m0 fm0 m1 fm1 f0 ff0 f1 ff1 f2 ff2 f3 ff3 f4 ff4 p0 fp0 p1 fp1 p2 fp2 p3 fp3 p4 fp4;try clear hcv
  try clear hr
  rw[show ((⟨#[105]⟩:ByteArray)++⟨#[50]⟩)=⟨#[105,50]⟩ from rfl];have hgo:x9.grownBy (x9.setCell ⟨ko,3,none⟩ (.string ⟨#[105,50]⟩)) (some ko):=by refine grown_setCell ?_ _;exact World.grownBy.refl _ _
  have hbo:(x9.setCell ⟨ko,3,none⟩ (.string ⟨#[105,50]⟩)).heap[ko]?=_:=(heap_setCell_same _ ko 3 _ _ (.string ⟨#[105,50]⟩) HBo.out);obtain⟨W2,hW2⟩:∃ q,q=x9.setCell ⟨ko,3,none⟩ (.string ⟨#[105,50]⟩):=⟨_,rfl⟩;rw[<-hW2] at hgo hbo ⊢;have hfo:Fr 29 x9 W2:=.of_grown hgo (fun j hj=>by injection hj with hj;subst hj;exact⟨_,HBo.out,n32_F⟩);replace HW:=Lib.hid (ext_below HW.out hgo HKO.out);replace HBf:=Lib.hid ((hgo.block _ (lt_of_block HBf.out) (fun e=>by injection e with e;exact HDIS.out.1 e)).trans HBf.out);replace HBd:=Lib.hid ((hgo.block _ (lt_of_block HBd.out) (fun e=>by injection e with e;exact HDIS.out.2.1 e)).trans HBd.out);replace HBr:=Lib.hid ((hgo.block _ (lt_of_block HBr.out) (fun e=>by injection e with e;exact HDIS.out.2.2 e)).trans HBr.out)
  have HSZW:Hid (W1.heap.size<=W2.heap.size):=Lib.hid (Nat.le_trans HSZP.out hgo.size);replace HBo:=Lib.hid hbo;clear hgo hbo hW2 hfo HSZP;have HSZP:=HSZW;clear HSZW;have HT:Hid (TSt w W1.heap.size kf kd kr ko ⟨xo,xb,xao,xl,xc,xnm,xko,xkl,xkc⟩ ((d:Nat)+1) 1 false none 0 0 (⟨#[105,50]⟩) (0) d [] (.slice none 0 0) [] W2):=Lib.hid (TSt.zero HBo.out HBf.out HBd.out HBr.out (nr0 _) HLOW.out HDIS.out HKO.out HW.out HSZP.out);obtain⟨⟨o0,o1,o2,o3,o4⟩,fo0,fo1,fo2,fo3,fo4⟩:=cells5V HBo.out;obtain⟨⟨r0,r1,r2,r3,r4⟩,fr0,fr1,fr2,fr3,fr4⟩:=cells5V HBr.out;go_wp2_with fail;clear o0 fo0 o1 fo1 o2 fo2 o3 fo3 o4 fo4;have hg:=grown5V (w:=W2) (k:=kr) (.int .i64 1) (.bool false) (.slice none 0 0) (.string ⟨#[105,50]⟩) (.slice none 0 0)
  have hf:Fr 29 W2 _:=.of_grown hg (fun j hj=>by injection hj with hj;subst hj;exact⟨_,HBr.out,n32_F⟩);obtain⟨h1,h2,h3,h4⟩:=HT.out.fin hg hf (by unfold IR;decide) HB0.out HKR.out (by unfold NmOk;simp) (small4 (by decide)) (fun _ _ _=>rfl) (by simp) (rfl);(try simp only[Exit.inBlock,Exit.then]);exact bodyPost_ret (v:=.agg #[.int .i64 1,.bool false,.slice none 0 0,.string ⟨#[105,50]⟩,.slice none 0 0]) (by simp[results,Tryz.results13,go_sem,r0,r1,r2,r3,r4]) rfl ⟨_,_,rfl,h1,h2,rfl,h3,h4⟩
 ·have hop2:op=0:=HOP.out;subst hop2;clear HOP;have HSZP:Hid (W1.heap.size<=W1.heap.size):=Lib.hid (Nat.le_refl _);obtain⟨⟨o0,o1,o2,o3,o4⟩,fo0,fo1,fo2,fo3,fo4⟩:=cells5V HBo.out;obtain⟨m0,m1,fm0,fm1⟩:=cells2V HBm.out;go_upto_region 21 with fail;clear o0 fo0 o1 fo1 o2 fo2 o3 fo3 o4 fo4 m0 fm0 m1 fm1;have hgo:W1.grownBy ((W1.setCell ⟨ko,1,none⟩ (.bool zb)).setCell ⟨ko,2,none⟩ (.slice zo zl zc)) (some ko):=by refine grown_setCell ?_ _;refine grown_setCell ?_ _;exact World.grownBy.refl _ _
  have hbo:((W1.setCell ⟨ko,1,none⟩ (.bool zb)).setCell ⟨ko,2,none⟩ (.slice zo zl zc)).heap[ko]?=_:=(heap_setCell_same _ ko 2 _ _ (.slice zo zl zc) (heap_setCell_same _ ko 1 _ _ (.bool zb) HBo.out));obtain⟨W2,hW2⟩:∃ q,q=(W1.setCell ⟨ko,1,none⟩ (.bool zb)).setCell ⟨ko,2,none⟩ (.slice zo zl zc):=⟨_,rfl⟩;rw[<-hW2] at hgo hbo ⊢;have hfo:Fr 29 W1 W2:=.of_grown hgo (fun j hj=>by injection hj with hj;subst hj;exact⟨_,HBo.out,n32_F⟩);replace HW:=Lib.hid (ext_below HW.out hgo HKO.out);replace HC:=Lib.hid (HC.out.fr hfo);replace HBf:=Lib.hid ((hgo.block _ (lt_of_block HBf.out) (fun e=>by injection e with e;exact HDIS.out.1 e)).trans HBf.out);replace HBd:=Lib.hid ((hgo.block _ (lt_of_block HBd.out) (fun e=>by injection e with e;exact HDIS.out.2.1 e)).trans HBd.out)
  replace HBr:=Lib.hid ((hgo.block _ (lt_of_block HBr.out) (fun e=>by injection e with e;exact HDIS.out.2.2 e)).trans HBr.out);have HSZW:Hid (W1.heap.size<=W2.heap.size):=Lib.hid (Nat.le_trans HSZP.out hgo.size);replace HBo:=Lib.hid hbo;clear hgo hbo hW2 hfo HSZP;have HSZP:=HSZW;clear HSZW;have HT:Hid (TSt w W1.heap.size kf kd kr ko ⟨xo,xb,xao,xl,xc,xnm,xko,xkl,xkc⟩ ((d:Nat)+1) 0 zb zo zl zc (⟨#[]⟩) (z) d [] (.slice none 0 0) [] W2):=Lib.hid (TSt.zero HBo.out HBf.out HBd.out HBr.out (HC.out) HLOW.out HDIS.out HKO.out HW.out HSZP.out);obtain⟨⟨o0,o1,o2,o3,o4⟩,fo0,fo1,fo2,fo3,fo4⟩:=cells5V HBo.out;obtain⟨⟨r0,r1,r2,r3,r4⟩,fr0,fr1,fr2,fr3,fr4⟩:=cells5V HBr.out;go_wp2_with fail;clear o0 fo0 o1 fo1 o2 fo2 o3 fo3 o4 fo4
  have hg:=grown5V (w:=W2) (k:=kr) (.int .i64 0) (.bool zb) (.slice zo zl zc) (.string ⟨#[]⟩) (.slice none 0 0);have hf:Fr 29 W2 _:=.of_grown hg (fun j hj=>by injection hj with hj;subst hj;exact⟨_,HBr.out,n32_F⟩);obtain⟨h1,h2,h3,h4⟩:=HT.out.fin hg hf (by unfold IR;decide) HB0.out HKR.out (by unfold NmOk;simp) (lt_pow_more (k:=2) (k':=4) HCZ.out (by decide)) (fun h _ _=>absurd rfl h) (by simp) (rfl);(try simp only[Exit.inBlock,Exit.then]);exact bodyPost_ret (v:=.agg #[.int .i64 0,.bool zb,.slice zo zl zc,.string ⟨#[]⟩,.slice none 0 0]) (by simp[results,Tryz.results13,go_sem,r0,r1,r2,r3,r4]) rfl ⟨_,_,rfl,h1,h2,rfl,h3,h4⟩
 ·have hop2:op=2:=HOP.out;subst hop2;clear HOP;have HSZP:Hid (W1.heap.size<=W1.heap.size):=Lib.hid (Nat.le_refl _);have HT:Hid (TSt w W1.heap.size kf kd kr ko ⟨xo,xb,xao,xl,xc,xnm,xko,xkl,xkc⟩ ((d:Nat)+1) 2 false none 0 0 (⟨#[]⟩) (0) d [] (.slice none 0 0) [] W1):=Lib.hid (TSt.zero HBo.out HBf.out HBd.out HBr.out (nr0 _) HLOW.out HDIS.out HKO.out HW.out HSZP.out);clear HBm;have HKB:Hid (W1.heap.size<=W1.heap.size):=Lib.hid (Nat.le_refl _);obtain⟨⟨o0,o1,o2,o3,o4⟩,fo0,fo1,fo2,fo3,fo4⟩:=cells5V HBo.out;go_wp2_with fail;clear o0 fo0 o1 fo1 o2 fo2 o3 fo3 o4 fo4;refine (kid_p d HD.out HIT.out w W1 W1.heap.size kf kd kr ko ⟨xo,xb,xao,xl,xc,xnm,xko,xkl,xkc⟩ HX.out 2 false none 0 0 ⟨#[]⟩ (0) [] _ [] 0 0 (by decide) (by decide) HT.out (by rw[HT.out.len];simp)).mono ?_
  rintro e X1 ⟨⟨q0,rfl⟩,t0,v0,us0,hs,ht⟩;replace HT:=Lib.hid ht;have HS0:=Lib.hid hs;clear hs ht;go_wp2_with fail;refine (kid_p d HD.out HIT.out w X1 W1.heap.size kf kd kr ko ⟨xo,xb,xao,xl,xc,xnm,xko,xkl,xkc⟩ HX.out 2 false none 0 0 ⟨#[]⟩ (0) ([]++[t0]) _ us0 1 0 (by decide) (by decide) HT.out (by rw[HT.out.len];simp)).mono ?_;rintro e X2 ⟨⟨q1,rfl⟩,t1,v1,us1,hs,ht⟩;replace HT:=Lib.hid ht;have HS1:=Lib.hid hs;clear hs ht;obtain⟨vo,vc,hv,-⟩:=HT.out.row.form;subst hv;obtain⟨N,hN⟩:∃ N,N=us1.length:=⟨_,rfl⟩;rw[<-hN] at HT;clear hN;replace HBo:=Lib.hid HT.out.ho;replace HBr:=Lib.hid HT.out.hr;obtain⟨⟨o0,o1,o2,o3,o4⟩,fo0,fo1,fo2,fo3,fo4⟩:=cells5V HBo.out;obtain⟨⟨r0,r1,r2,r3,r4⟩,fr0,fr1,fr2,fr3,fr4⟩:=cells5V HBr.out;go_wp2_with fail
  clear o0 fo0 o1 fo1 o2 fo2 o3 fo3 o4 fo4;have hg:=grown5V (w:=X2) (k:=kr) (.int .i64 2) (.bool false) (.slice none 0 0) (.string ⟨#[]⟩) (.slice vo N vc);have hf:Fr 29 X2 _:=.of_grown hg (fun j hj=>by injection hj with hj;subst hj;exact⟨_,HBr.out,n32_F⟩);obtain⟨h1,h2,h3,h4⟩:=HT.out.fin hg hf (by unfold IR;decide) HB0.out HKR.out (by unfold NmOk;simp) (small4 (by decide)) (fun _ _ _=>rfl) (by simp) (by simp[fitF,kidsOk,srts,HS0.out,HS1.out]);(try simp only[Exit.inBlock,Exit.then]);exact bodyPost_ret (v:=.agg #[.int .i64 2,.bool false,.slice none 0 0,.string ⟨#[]⟩,.slice vo N vc]) (by simp[results,Tryz.results13,go_sem,r0,r1,r2,r3,r4]) rfl ⟨_,_,rfl,h1,h2,rfl,h3,h4⟩
 ·have hop2:op=3:=HOP.out;subst hop2;clear HOP;have HSZP:Hid (W1.heap.size<=W1.heap.size):=Lib.hid (Nat.le_refl _);obtain⟨⟨o0,o1,o2,o3,o4⟩,fo0,fo1,fo2,fo3,fo4⟩:=cells5V HBo.out;obtain⟨m0,m1,fm0,fm1⟩:=cells2V HBm.out;go_upto_region 21 with fail;clear o0 fo0 o1 fo1 o2 fo2 o3 fo3 o4 fo4 m0 fm0 m1 fm1;have hgo:W1.grownBy ((W1.setCell ⟨ko,1,none⟩ (.bool zb)).setCell ⟨ko,2,none⟩ (.slice zo zl zc)) (some ko):=by refine grown_setCell ?_ _;refine grown_setCell ?_ _;exact World.grownBy.refl _ _
  have hbo:((W1.setCell ⟨ko,1,none⟩ (.bool zb)).setCell ⟨ko,2,none⟩ (.slice zo zl zc)).heap[ko]?=_:=(heap_setCell_same _ ko 2 _ _ (.slice zo zl zc) (heap_setCell_same _ ko 1 _ _ (.bool zb) HBo.out));obtain⟨W2,hW2⟩:∃ q,q=(W1.setCell ⟨ko,1,none⟩ (.bool zb)).setCell ⟨ko,2,none⟩ (.slice zo zl zc):=⟨_,rfl⟩;rw[<-hW2] at hgo hbo ⊢;have hfo:Fr 29 W1 W2:=.of_grown hgo (fun j hj=>by injection hj with hj;subst hj;exact⟨_,HBo.out,n32_F⟩);replace HW:=Lib.hid (ext_below HW.out hgo HKO.out);replace HC:=Lib.hid (HC.out.fr hfo);replace HBf:=Lib.hid ((hgo.block _ (lt_of_block HBf.out) (fun e=>by injection e with e;exact HDIS.out.1 e)).trans HBf.out);replace HBd:=Lib.hid ((hgo.block _ (lt_of_block HBd.out) (fun e=>by injection e with e;exact HDIS.out.2.1 e)).trans HBd.out)
  replace HBr:=Lib.hid ((hgo.block _ (lt_of_block HBr.out) (fun e=>by injection e with e;exact HDIS.out.2.2 e)).trans HBr.out);have HSZW:Hid (W1.heap.size<=W2.heap.size):=Lib.hid (Nat.le_trans HSZP.out hgo.size);replace HBo:=Lib.hid hbo;clear hgo hbo hW2 hfo HSZP;have HSZP:=HSZW;clear HSZW;have HT:Hid (TSt w W1.heap.size kf kd kr ko ⟨xo,xb,xao,xl,xc,xnm,xko,xkl,xkc⟩ ((d:Nat)+1) 3 zb zo zl zc (⟨#[]⟩) (z) d [] (.slice none 0 0) [] W2):=Lib.hid (TSt.zero HBo.out HBf.out HBd.out HBr.out (HC.out) HLOW.out HDIS.out HKO.out HW.out HSZP.out);have HKB:Hid (W2.heap.size<=W2.heap.size):=Lib.hid (Nat.le_refl _);obtain⟨⟨o0,o1,o2,o3,o4⟩,fo0,fo1,fo2,fo3,fo4⟩:=cells5V HBo.out;go_wp2_with fail;clear o0 fo0 o1 fo1 o2 fo2 o3 fo3 o4 fo4
  refine (kid_p d HD.out HIT.out w W2 W1.heap.size kf kd kr ko ⟨xo,xb,xao,xl,xc,xnm,xko,xkl,xkc⟩ HX.out 3 zb zo zl zc ⟨#[]⟩ (z) [] _ [] 0 0 (by decide) (by decide) HT.out (by rw[HT.out.len];simp)).mono ?_;rintro e X1 ⟨⟨q0,rfl⟩,t0,v0,us0,hs,ht⟩;replace HT:=Lib.hid ht;have HS0:=Lib.hid hs;clear hs ht;obtain⟨vo,vc,hv,-⟩:=HT.out.row.form;subst hv;obtain⟨N,hN⟩:∃ N,N=us0.length:=⟨_,rfl⟩;rw[<-hN] at HT;clear hN;replace HBo:=Lib.hid HT.out.ho;replace HBr:=Lib.hid HT.out.hr;obtain⟨⟨o0,o1,o2,o3,o4⟩,fo0,fo1,fo2,fo3,fo4⟩:=cells5V HBo.out;obtain⟨⟨r0,r1,r2,r3,r4⟩,fr0,fr1,fr2,fr3,fr4⟩:=cells5V HBr.out;go_wp2_with fail;clear o0 fo0 o1 fo1 o2 fo2 o3 fo3 o4 fo4;have hg:=grown5V (w:=X1) (k:=kr) (.int .i64 3) (.bool zb) (.slice zo zl zc) (.string ⟨#[]⟩) (.slice vo N vc)
  have hf:Fr 29 X1 _:=.of_grown hg (fun j hj=>by injection hj with hj;subst hj;exact⟨_,HBr.out,n32_F⟩);obtain⟨h1,h2,h3,h4⟩:=HT.out.fin hg hf (by unfold IR;decide) HB0.out HKR.out (by unfold NmOk;simp) (lt_pow_more (k:=2) (k':=4) HCZ.out (by decide)) (fun _ h _=>absurd rfl h) (by simp) (by simp[fitF,kidsOk,srts,HS0.out]);(try simp only[Exit.inBlock,Exit.then]);exact bodyPost_ret (v:=.agg #[.int .i64 3,.bool zb,.slice zo zl zc,.string ⟨#[]⟩,.slice vo N vc]) (by simp[results,Tryz.results13,go_sem,r0,r1,r2,r3,r4]) rfl ⟨_,_,rfl,h1,h2,rfl,h3,h4⟩
 ·have hop2:op=4:=HOP.out;subst hop2;clear HOP;have HSZP:Hid (W1.heap.size<=W1.heap.size):=Lib.hid (Nat.le_refl _);have HT:Hid (TSt w W1.heap.size kf kd kr ko ⟨xo,xb,xao,xl,xc,xnm,xko,xkl,xkc⟩ ((d:Nat)+1) 4 false none 0 0 (⟨#[]⟩) (0) d [] (.slice none 0 0) [] W1):=Lib.hid (TSt.zero HBo.out HBf.out HBd.out HBr.out (nr0 _) HLOW.out HDIS.out HKO.out HW.out HSZP.out);clear HBm;have HKB:Hid (W1.heap.size<=W1.heap.size):=Lib.hid (Nat.le_refl _);obtain⟨⟨o0,o1,o2,o3,o4⟩,fo0,fo1,fo2,fo3,fo4⟩:=cells5V HBo.out;go_wp2_with fail;clear o0 fo0 o1 fo1 o2 fo2 o3 fo3 o4 fo4;refine (kid_p d HD.out HIT.out w W1 W1.heap.size kf kd kr ko ⟨xo,xb,xao,xl,xc,xnm,xko,xkl,xkc⟩ HX.out 4 false none 0 0 ⟨#[]⟩ (0) [] _ [] 0 0 (by decide) (by decide) HT.out (by rw[HT.out.len];simp)).mono ?_
  rintro e X1 ⟨⟨q0,rfl⟩,t0,v0,us0,hs,ht⟩;replace HT:=Lib.hid ht;have HS0:=Lib.hid hs;clear hs ht;go_wp2_with fail;refine (kid_p d HD.out HIT.out w X1 W1.heap.size kf kd kr ko ⟨xo,xb,xao,xl,xc,xnm,xko,xkl,xkc⟩ HX.out 4 false none 0 0 ⟨#[]⟩ (0) ([]++[t0]) _ us0 1 0 (by decide) (by decide) HT.out (by rw[HT.out.len];simp)).mono ?_;rintro e X2 ⟨⟨q1,rfl⟩,t1,v1,us1,hs,ht⟩;replace HT:=Lib.hid ht;have HS1:=Lib.hid hs;clear hs ht;obtain⟨vo,vc,hv,-⟩:=HT.out.row.form;subst hv;obtain⟨N,hN⟩:∃ N,N=us1.length:=⟨_,rfl⟩;rw[<-hN] at HT;clear hN;replace HBo:=Lib.hid HT.out.ho;replace HBr:=Lib.hid HT.out.hr;obtain⟨⟨o0,o1,o2,o3,o4⟩,fo0,fo1,fo2,fo3,fo4⟩:=cells5V HBo.out;obtain⟨⟨r0,r1,r2,r3,r4⟩,fr0,fr1,fr2,fr3,fr4⟩:=cells5V HBr.out;go_wp2_with fail
  clear o0 fo0 o1 fo1 o2 fo2 o3 fo3 o4 fo4;have hg:=grown5V (w:=X2) (k:=kr) (.int .i64 4) (.bool false) (.slice none 0 0) (.string ⟨#[]⟩) (.slice vo N vc);have hf:Fr 29 X2 _:=.of_grown hg (fun j hj=>by injection hj with hj;subst hj;exact⟨_,HBr.out,n32_F⟩);obtain⟨h1,h2,h3,h4⟩:=HT.out.fin hg hf (by unfold IR;decide) HB0.out HKR.out (by unfold NmOk;simp) (small4 (by decide)) (fun _ _ _=>rfl) (by simp) (by simp[fitF,kidsOk,srts,HS0.out,HS1.out]);(try simp only[Exit.inBlock,Exit.then]);exact bodyPost_ret (v:=.agg #[.int .i64 4,.bool false,.slice none 0 0,.string ⟨#[]⟩,.slice vo N vc]) (by simp[results,Tryz.results13,go_sem,r0,r1,r2,r3,r4]) rfl ⟨_,_,rfl,h1,h2,rfl,h3,h4⟩
 ·have hop2:op=5:=HOP.out;subst hop2;clear HOP;have HSZP:Hid (W1.heap.size<=W1.heap.size):=Lib.hid (Nat.le_refl _);obtain⟨⟨o0,o1,o2,o3,o4⟩,fo0,fo1,fo2,fo3,fo4⟩:=cells5V HBo.out;obtain⟨m0,m1,fm0,fm1⟩:=cells2V HBm.out;go_wp2_with fail;refine (big_any false _ z.natAbs 600 W1 HC.out.nat (by decide)).mono ?_;rintro e x9 ⟨va,rfl,ha,hb⟩;clear o0 fo0 o1 fo1 o2 fo2 o3 fo3 o4 fo4 m0 fm0 m1 fm1;replace HBf:=kBV hb HBf;replace HBd:=kBV hb HBd;replace HBr:=kBV hb HBr;replace HBo:=kBV hb HBo;replace HW:=Lib.hid (HW.out.trans (hb.mono HW.out.size));replace HC:=Lib.hid (HC.out.below hb);replace HSZP:=Lib.hid (Nat.le_trans HSZP.out hb.size);have HVA:=Lib.hid ha;clear ha hb;go_wp2_with fail;refine (wof_any 1 x9 (by decide) (by decide)).mono ?_;rintro e x10 ⟨vb,rfl,ha,hb⟩;replace HBf:=kBV hb HBf
  replace HBd:=kBV hb HBd;replace HBr:=kBV hb HBr;replace HBo:=kBV hb HBo;replace HW:=Lib.hid (HW.out.trans (hb.mono HW.out.size));replace HC:=Lib.hid (HC.out.below hb);replace HSZP:=Lib.hid (Nat.le_trans HSZP.out hb.size);replace HVA:=Lib.hid (HVA.out.below hb);have HVB:=Lib.hid ha;clear ha hb;go_wp2_with fail;refine (wadd_any va vb _ _ 600 2 x10 HVA.out.gi HVB.out.gi (by decide) (by decide)).mono ?_;rintro e x11 ⟨vd,rfl,ha,hb⟩;replace HBf:=kBV hb HBf;replace HBd:=kBV hb HBd;replace HBr:=kBV hb HBr;replace HBo:=kBV hb HBo;replace HW:=Lib.hid (HW.out.trans (hb.mono HW.out.size));replace HC:=Lib.hid (HC.out.below hb);replace HSZP:=Lib.hid (Nat.le_trans HSZP.out hb.size);obtain⟨sb,so,sl,sc,rfl⟩:=ha.shape;have hs4:=succ4 HCZ.out;obtain⟨Z,hZ⟩:∃ Z,Z=sg false z.natAbs+1:=⟨_,rfl⟩;rw[<-hZ] at ha hs4
  replace HC:=Lib.hid (ha.tight (lt_pow_more (k:=4) (k':=600) hs4.1 (by decide)));have HS4:=Lib.hid hs4;clear ha hb HVA HVB hs4 hZ;obtain⟨⟨o0,o1,o2,o3,o4⟩,fo0,fo1,fo2,fo3,fo4⟩:=cells5V HBo.out;go_upto_region 21 with fail;clear o0 fo0 o1 fo1 o2 fo2 o3 fo3 o4 fo4;have hgo:x11.grownBy ((x11.setCell ⟨ko,1,none⟩ (.bool sb)).setCell ⟨ko,2,none⟩ (.slice so sl sc)) (some ko):=by refine grown_setCell ?_ _;refine grown_setCell ?_ _;exact World.grownBy.refl _ _
  have hbo:((x11.setCell ⟨ko,1,none⟩ (.bool sb)).setCell ⟨ko,2,none⟩ (.slice so sl sc)).heap[ko]?=_:=(heap_setCell_same _ ko 2 _ _ (.slice so sl sc) (heap_setCell_same _ ko 1 _ _ (.bool sb) HBo.out));obtain⟨W2,hW2⟩:∃ q,q=(x11.setCell ⟨ko,1,none⟩ (.bool sb)).setCell ⟨ko,2,none⟩ (.slice so sl sc):=⟨_,rfl⟩;rw[<-hW2] at hgo hbo ⊢;have hfo:Fr 29 x11 W2:=.of_grown hgo (fun j hj=>by injection hj with hj;subst hj;exact⟨_,HBo.out,n32_F⟩);replace HW:=Lib.hid (ext_below HW.out hgo HKO.out);replace HC:=Lib.hid (HC.out.fr hfo);replace HBf:=Lib.hid ((hgo.block _ (lt_of_block HBf.out) (fun e=>by injection e with e;exact HDIS.out.1 e)).trans HBf.out);replace HBd:=Lib.hid ((hgo.block _ (lt_of_block HBd.out) (fun e=>by injection e with e;exact HDIS.out.2.1 e)).trans HBd.out)
  replace HBr:=Lib.hid ((hgo.block _ (lt_of_block HBr.out) (fun e=>by injection e with e;exact HDIS.out.2.2 e)).trans HBr.out);have HSZW:Hid (W1.heap.size<=W2.heap.size):=Lib.hid (Nat.le_trans HSZP.out hgo.size);replace HBo:=Lib.hid hbo;clear hgo hbo hW2 hfo HSZP;have HSZP:=HSZW;clear HSZW;have HT:Hid (TSt w W1.heap.size kf kd kr ko ⟨xo,xb,xao,xl,xc,xnm,xko,xkl,xkc⟩ ((d:Nat)+1) 5 sb so sl sc (⟨#[]⟩) (Z) d [] (.slice none 0 0) [] W2):=Lib.hid (TSt.zero HBo.out HBf.out HBd.out HBr.out (HC.out) HLOW.out HDIS.out HKO.out HW.out HSZP.out);have HKB:Hid (W2.heap.size<=W2.heap.size):=Lib.hid (Nat.le_refl _);obtain⟨⟨o0,o1,o2,o3,o4⟩,fo0,fo1,fo2,fo3,fo4⟩:=cells5V HBo.out;go_wp2_with fail;clear o0 fo0 o1 fo1 o2 fo2 o3 fo3 o4 fo4
  refine (kid_p d HD.out HIT.out w W2 W1.heap.size kf kd kr ko ⟨xo,xb,xao,xl,xc,xnm,xko,xkl,xkc⟩ HX.out 5 sb so sl sc ⟨#[]⟩ (Z) [] _ [] 0 0 (by decide) (by decide) HT.out (by rw[HT.out.len];simp)).mono ?_;rintro e X1 ⟨⟨q0,rfl⟩,t0,v0,us0,hs,ht⟩;replace HT:=Lib.hid ht;have HS0:=Lib.hid hs;clear hs ht;obtain⟨vo,vc,hv,-⟩:=HT.out.row.form;subst hv;obtain⟨N,hN⟩:∃ N,N=us0.length:=⟨_,rfl⟩;rw[<-hN] at HT;clear hN;replace HBo:=Lib.hid HT.out.ho;replace HBr:=Lib.hid HT.out.hr;obtain⟨⟨o0,o1,o2,o3,o4⟩,fo0,fo1,fo2,fo3,fo4⟩:=cells5V HBo.out;obtain⟨⟨r0,r1,r2,r3,r4⟩,fr0,fr1,fr2,fr3,fr4⟩:=cells5V HBr.out;go_wp2_with fail;clear o0 fo0 o1 fo1 o2 fo2 o3 fo3 o4 fo4;have hg:=grown5V (w:=X1) (k:=kr) (.int .i64 5) (.bool sb) (.slice so sl sc) (.string ⟨#[]⟩) (.slice vo N vc)
  have hf:Fr 29 X1 _:=.of_grown hg (fun j hj=>by injection hj with hj;subst hj;exact⟨_,HBr.out,n32_F⟩);obtain⟨h1,h2,h3,h4⟩:=HT.out.fin hg hf (by unfold IR;decide) HB0.out HKR.out (by unfold NmOk;simp) (HS4.out.1) (fun _ _ h=>absurd rfl h) (by simp) (by simp[HS4.out.2,fitF,kidsOk,srts,HS0.out]);(try simp only[Exit.inBlock,Exit.then]);exact bodyPost_ret (v:=.agg #[.int .i64 5,.bool sb,.slice so sl sc,.string ⟨#[]⟩,.slice vo N vc]) (by simp[results,Tryz.results13,go_sem,r0,r1,r2,r3,r4]) rfl ⟨_,_,rfl,h1,h2,rfl,h3,h4⟩
 ·have hop2:op=6:=HOP.out;subst hop2;clear HOP;have HSZP:Hid (W1.heap.size<=W1.heap.size):=Lib.hid (Nat.le_refl _);have HT:Hid (TSt w W1.heap.size kf kd kr ko ⟨xo,xb,xao,xl,xc,xnm,xko,xkl,xkc⟩ ((d:Nat)+1) 6 false none 0 0 (⟨#[]⟩) (0) d [] (.slice none 0 0) [] W1):=Lib.hid (TSt.zero HBo.out HBf.out HBd.out HBr.out (nr0 _) HLOW.out HDIS.out HKO.out HW.out HSZP.out);clear HBm;have HKB:Hid (W1.heap.size<=W1.heap.size):=Lib.hid (Nat.le_refl _);obtain⟨⟨o0,o1,o2,o3,o4⟩,fo0,fo1,fo2,fo3,fo4⟩:=cells5V HBo.out;go_wp2_with fail;clear o0 fo0 o1 fo1 o2 fo2 o3 fo3 o4 fo4;refine (kid_p d HD.out HIT.out w W1 W1.heap.size kf kd kr ko ⟨xo,xb,xao,xl,xc,xnm,xko,xkl,xkc⟩ HX.out 6 false none 0 0 ⟨#[]⟩ (0) [] _ [] 0 2 (by decide) (by decide) HT.out (by rw[HT.out.len];simp)).mono ?_
  rintro e X1 ⟨⟨q0,rfl⟩,t0,v0,us0,hs,ht⟩;replace HT:=Lib.hid ht;have HS0:=Lib.hid hs;clear hs ht;obtain⟨vo,vc,hv,-⟩:=HT.out.row.form;subst hv;obtain⟨N,hN⟩:∃ N,N=us0.length:=⟨_,rfl⟩;rw[<-hN] at HT;clear hN;replace HBo:=Lib.hid HT.out.ho;replace HBr:=Lib.hid HT.out.hr;obtain⟨⟨o0,o1,o2,o3,o4⟩,fo0,fo1,fo2,fo3,fo4⟩:=cells5V HBo.out;obtain⟨⟨r0,r1,r2,r3,r4⟩,fr0,fr1,fr2,fr3,fr4⟩:=cells5V HBr.out;go_wp2_with fail;clear o0 fo0 o1 fo1 o2 fo2 o3 fo3 o4 fo4;have hg:=grown5V (w:=X1) (k:=kr) (.int .i64 6) (.bool false) (.slice none 0 0) (.string ⟨#[]⟩) (.slice vo N vc);have hf:Fr 29 X1 _:=.of_grown hg (fun j hj=>by injection hj with hj;subst hj;exact⟨_,HBr.out,n32_F⟩)
  obtain⟨h1,h2,h3,h4⟩:=HT.out.fin hg hf (by unfold IR;decide) HB0.out HKR.out (by unfold NmOk;simp) (small4 (by decide)) (fun _ _ _=>rfl) (by simp) (by simp[fitF,kidsOk,srts,HS0.out]);(try simp only[Exit.inBlock,Exit.then]);exact bodyPost_ret (v:=.agg #[.int .i64 6,.bool false,.slice none 0 0,.string ⟨#[]⟩,.slice vo N vc]) (by simp[results,Tryz.results13,go_sem,r0,r1,r2,r3,r4]) rfl ⟨_,_,rfl,h1,h2,rfl,h3,h4⟩
 have hop2:op=7:=HOP.out;subst hop2;clear HOP;have HSZP:Hid (W1.heap.size<=W1.heap.size):=Lib.hid (Nat.le_refl _);have HT:Hid (TSt w W1.heap.size kf kd kr ko ⟨xo,xb,xao,xl,xc,xnm,xko,xkl,xkc⟩ ((d:Nat)+1) 7 false none 0 0 (⟨#[]⟩) (0) d [] (.slice none 0 0) [] W1):=Lib.hid (TSt.zero HBo.out HBf.out HBd.out HBr.out (nr0 _) HLOW.out HDIS.out HKO.out HW.out HSZP.out);clear HBm;have HKB:Hid (W1.heap.size<=W1.heap.size):=Lib.hid (Nat.le_refl _);obtain⟨⟨o0,o1,o2,o3,o4⟩,fo0,fo1,fo2,fo3,fo4⟩:=cells5V HBo.out;go_wp2_with fail;clear o0 fo0 o1 fo1 o2 fo2 o3 fo3 o4 fo4;refine (kid_p d HD.out HIT.out w W1 W1.heap.size kf kd kr ko ⟨xo,xb,xao,xl,xc,xnm,xko,xkl,xkc⟩ HX.out 7 false none 0 0 ⟨#[]⟩ (0) [] _ [] 0 2 (by decide) (by decide) HT.out (by rw[HT.out.len];simp)).mono ?_
 rintro e X1 ⟨⟨q0,rfl⟩,t0,v0,us0,hs,ht⟩;replace HT:=Lib.hid ht;have HS0:=Lib.hid hs;clear hs ht;obtain⟨vo,vc,hv,-⟩:=HT.out.row.form;subst hv;obtain⟨N,hN⟩:∃ N,N=us0.length:=⟨_,rfl⟩;rw[<-hN] at HT;clear hN;replace HBo:=Lib.hid HT.out.ho;replace HBr:=Lib.hid HT.out.hr;obtain⟨⟨o0,o1,o2,o3,o4⟩,fo0,fo1,fo2,fo3,fo4⟩:=cells5V HBo.out;obtain⟨⟨r0,r1,r2,r3,r4⟩,fr0,fr1,fr2,fr3,fr4⟩:=cells5V HBr.out;go_wp2_with fail;clear o0 fo0 o1 fo1 o2 fo2 o3 fo3 o4 fo4;have hg:=grown5V (w:=X1) (k:=kr) (.int .i64 7) (.bool false) (.slice none 0 0) (.string ⟨#[]⟩) (.slice vo N vc);have hf:Fr 29 X1 _:=.of_grown hg (fun j hj=>by injection hj with hj;subst hj;exact⟨_,HBr.out,n32_F⟩)
 obtain⟨h1,h2,h3,h4⟩:=HT.out.fin hg hf (by unfold IR;decide) HB0.out HKR.out (by unfold NmOk;simp) (small4 (by decide)) (fun _ _ _=>rfl) (by simp) (by simp[fitF,kidsOk,srts,HS0.out]);(try simp only[Exit.inBlock,Exit.then]);exact bodyPost_ret (v:=.agg #[.int .i64 7,.bool false,.slice none 0 0,.string ⟨#[]⟩,.slice vo N vc]) (by simp[results,Tryz.results13,go_sem,r0,r1,r2,r3,r4]) rfl ⟨_,_,rfl,h1,h2,rfl,h3,h4⟩
def opAttame_1s (j:Nat):Int:=[(14:Int),(12:Int),(13:Int),(15:Int),(16:Int),(16:Int),(17:Int),(18:Int),(19:Int),(20:Int)].getD j 0
theorem tame_1s (d:Nat) (hd0:1<=d) (hd:d<=100) (IT:TameC d) (xo:Int) (xb:Bool) (xao:Option Addr) (xl xc:Nat) (xnm:ByteArray) (xko:Option Addr) (xkl xkc:Nat) (w:World) (hx:RawF w (d+1) ⟨xo,xb,xao,xl,xc,xnm,xko,xkl,xkc⟩) :
  Calls Tryz.prog 13 #[.agg #[.int .i64 xo,.bool xb,.slice xao xl xc,.string xnm,.slice xko xkl xkc],.int .i64 1,.int .i64 ((d:Nat)+1:Int)] w (TamePost (d+1) 1 w):=by
 have HX:=Lib.hid hx;have HIT:=Lib.hid IT;have HD:=Lib.hid hd;have hdle:decide (((d:Nat)+1:Int)<=1)=false:=by simp;omega
 clear IT hd0 hd;obtain⟨-,hn,-,⟨hk1,hk2⟩,-⟩:=hx;simp only at hn hk1 hk2;have hxm:xkc<=9223372036854775807:=hk2;obtain⟨m,hm⟩:∃ m,m=min xl 2:=⟨_,rfl⟩;have hmin:min (xl:Int) 2=(m:Int):=by omega
 have hm2:m<=2:=by omega
 have hml:m<=xl:=by omega
 have hx2:∃ q,GN w (.slice xao m xc) q 2/\xl<=xc/\xc<=9223372036854775807:=by
  obtain⟨xs,hs,hdg⟩:=hn;have hl:=sl_len hs;obtain⟨_,_,e,h1,h2,_⟩:=id hs;injection e with e1 e2 e3;subst e3;exact⟨_,⟨xs.take m,hs.take m (by omega),hdg.take m,rfl,by rw[List.length_take];omega⟩,by omega,h2⟩
 obtain⟨q,hq,hlc,hc⟩:=hx2;have hmc:m<=xc:=by omega
 have HG:=Lib.hid hq;clear hq hn hm hk2;obtain⟨K,hK,hK2⟩:=and_255 xo;obtain⟨j,hj⟩:∃ j,j=K % 10:=⟨_,rfl⟩;have hjm:((K:Nat):Int).tmod 10=((j:Nat):Int):=by rw[hj];exact (Int.ofNat_tmod K 10).symm
 have hjN:j<10:=by rw[hj];exact Nat.mod_lt _ (by decide)
 clear hj hK2;have HW:=Lib.hid (Below.refl w.heap.size w);go_enter Tryz.func13,Tryz.ntmps13;obtain⟨x1,kf,ef,ekf,hbf,hkf,HBf⟩:=newV w #[.int .i64 xo,.bool xb,.slice xao xl xc,.string xnm,.slice xko xkl xkc] 29;replace HW:=Lib.hid (HW.out.trans (hbf.out.mono HW.out.size));replace HG:=Lib.hid (HG.out.below hbf.out);obtain⟨x2,kd,ed,ekd,hbd,hkd,HBd⟩:=newV x1 #[.int .i64 ((d:Nat)+1:Int)] 3;replace HBf:=kBV hbd.out HBf;replace HW:=Lib.hid (HW.out.trans (hbd.out.mono HW.out.size));replace HG:=Lib.hid (HG.out.below hbd.out);obtain⟨x3,kr,er,ekr,hbr,hkr,HBr⟩:=newV x2 #[.int .i64 0,.bool false,.slice none 0 0,.string ⟨#[]⟩,.slice none 0 0] 29;replace HBf:=kBV hbr.out HBf;replace HBd:=kBV hbr.out HBd;replace HW:=Lib.hid (HW.out.trans (hbr.out.mono HW.out.size));replace HG:=Lib.hid (HG.out.below hbr.out)
 have HKR:Hid (w.heap.size<=kr):=Lib.hid (by have h1:=hbf.out.size;have h2:=hbd.out.size;have h3:=hkr.out;omega);obtain⟨x4,kp,ep,ekp,hbp,hkp,HBp⟩:=newV x3 #[.int .i64 1,.int .i64 0,.int .i64 2,.int .i64 3,.int .i64 4,.int .i64 5,.int .i64 6,.int .i64 7] 22;replace HBf:=kBV hbp.out HBf;replace HBd:=kBV hbp.out HBd;replace HBr:=kBV hbp.out HBr;replace HW:=Lib.hid (HW.out.trans (hbp.out.mono HW.out.size));replace HG:=Lib.hid (HG.out.below hbp.out);obtain⟨x5,kq,eq,ekq,hbq,hkq,HBq⟩:=newV x4 #[.int .i64 14,.int .i64 12,.int .i64 13,.int .i64 15,.int .i64 16,.int .i64 16,.int .i64 17,.int .i64 18,.int .i64 19,.int .i64 20] 22;replace HBf:=kBV hbq.out HBf;replace HBd:=kBV hbq.out HBd;replace HBr:=kBV hbq.out HBr;replace HW:=Lib.hid (HW.out.trans (hbq.out.mono HW.out.size))
 replace HG:=Lib.hid (HG.out.below hbq.out);obtain⟨x6,kt,et,ekt,hbt,hkt,HBt⟩:=newV x5 #[.int .i64 8,.int .i64 9,.int .i64 10,.int .i64 11] 22;replace HBf:=kBV hbt.out HBf;replace HBd:=kBV hbt.out HBd;replace HBr:=kBV hbt.out HBr;replace HBq:=kBV hbt.out HBq;replace HW:=Lib.hid (HW.out.trans (hbt.out.mono HW.out.size));replace HG:=Lib.hid (HG.out.below hbt.out);have hidx:=idx3_1 (some ⟨kp,0,none⟩) (some ⟨kq,0,none⟩) (some ⟨kt,0,none⟩) 8 10 4 8 10 4;obtain⟨⟨f0,f1,f2,f3,f4⟩,ff0,ff1,ff2,ff3,ff4⟩:=cells5V HBf.out;have d0:=cell_at (v:=.int .i64 ((d:Nat)+1:Int)) HBd.out 0 rfl;have fd0:=froz_at HBd.out 0;have hop:x6.cell? ⟨kq,j,none⟩=some (.int .i64 (opAttame_1s j)):=by
  have:j=0\/j=1\/j=2\/j=3\/j=4\/j=5\/j=6\/j=7\/j=8\/j=9:=by omega
  rcases this with rfl | rfl | rfl | rfl | rfl | rfl | rfl | rfl | rfl | rfl<;>exact cell_at HBq.out _ rfl
 obtain⟨op,hopd⟩:∃ op,op=opAttame_1s j:=⟨_,rfl⟩;rw[<-hopd] at hop;have HOP:=Lib.hid hopd;clear hopd;go_upto_region 7 with fail;clear f0 ff0 f1 ff1 f2 ff2 f3 ff3 f4 ff4 d0 fd0 hop;clear hidx hjm hK;have HWp:=HW;have HBfp:=HBf;have HBdp:=HBd;have HBrp:=HBr;obtain⟨x7,ko,eo,eko,hbo,hko,HBo⟩:=newV x6 #[.int .i64 op,.bool false,.slice none 0 0,.string ⟨#[]⟩,.slice none 0 0] 29;replace HBf:=kBV hbo.out HBf;replace HBd:=kBV hbo.out HBd;replace HBr:=kBV hbo.out HBr;replace HW:=Lib.hid (HW.out.trans (hbo.out.mono HW.out.size));replace HG:=Lib.hid (HG.out.below hbo.out);rw[eo,eko];have HKO:Hid (w.heap.size<=ko):=Lib.hid (by have:=HWp.out.size;have:=hko.out;omega);go_upto_region 8 with fail;have HY:=Lib.hid (Below.refl x7.heap.size x7);have HBf0:=HBf;have HBd0:=HBd;have HBr0:=HBr;have HBo0:=HBo
 have hlt_f:=lt_of_block HBf.out;have hog:Hid (∀ q,q<0->(fun q=>0) q<x7.heap.size):=Lib.hid (fun q h=>absurd h (Nat.not_lt_zero _));refine R7.region (by kernel_rfl) [[],[0],[0,1],[],[3],[3,4],[],[6],[6,7],[6,7,8],[6,7,8,9],[3,4,5,6,7,8,9,10],[0,1,2,3,4,5,6,7,8,9,10,11],[],[0,1,2,3,4,5,6,7,8,9,10,11,12,13]] [] [] (fun q=>0) 0 14 (by kernel_rfl) (by kernel_rfl) (by rfl) hog.out (fun q q' h h' hn=>absurd hn (by omega)) ?_;refine R7.Chain.det ?_ (by rfl) (fun T xs wr hA=>?_) ?_;rotate_left 1
 ·have e3:=hA.pre 3 (by kernel_rfl);simp only[gsa,gsc,gsz] at e3;clear hA;refine⟨(by rfl),?_⟩;go_simp<;>(try with_reducible rfl)
 refine R7.Chain.det ?_ (by rfl) (fun T xs wr hA=>?_) ?_;rotate_left 1
 ·have e36:=hA.tm 0 36 (by rfl) (by rfl);have f36:xs 0=_:=hA.fa 0 (by rfl);(try simp (disch:=first | rfl | decide) only [R7.mask_in] at f36);rw[f36] at e36;clear f36;clear hA;refine⟨(by rfl),?_⟩;go_simp<;>(try with_reducible rfl)
 refine R7.Chain.det ?_ (by rfl) (fun T xs wr hA=>?_) ?_;rotate_left 1
 ·have e37:=hA.tm 1 37 (by rfl) (by rfl);have f37:xs 1=_:=hA.fa 1 (by rfl);(try simp (disch:=first | rfl | decide) only [R7.mask_in] at f37);rw[f37] at e37;clear f37;have hBq:wr.heap[kf]?=_:=(hA.bl _ hlt_f (fun q h=>absurd h (Nat.not_lt_zero _))).trans HBf.out;have q0:=cell_at (v:=.int .i64 xo) hBq 0 rfl;have q1:=cell_at (v:=.bool xb) hBq 1 rfl;have q2:=cell_at (v:=.slice xao xl xc) hBq 2 rfl;have q3:=cell_at (v:=.string xnm) hBq 3 rfl;have q4:=cell_at (v:=.slice xko xkl xkc) hBq 4 rfl;clear hBq;clear hA;refine⟨(by rfl),?_⟩;go_simp<;>(try with_reducible rfl)
 refine R7.Chain.det ?_ (by rfl) (fun T xs wr hA=>?_) ?_;rotate_left 1
 ·have e3:=hA.pre 3 (by kernel_rfl);simp only[gsa,gsc,gsz] at e3;clear hA;refine⟨(by rfl),?_⟩;go_simp<;>(try with_reducible rfl)
 refine R7.Chain.det ?_ (by rfl) (fun T xs wr hA=>?_) ?_;rotate_left 1
 ·have e39:=hA.tm 3 39 (by rfl) (by rfl);have f39:xs 3=_:=hA.fa 3 (by rfl);(try simp (disch:=first | rfl | decide) only [R7.mask_in] at f39);rw[f39] at e39;clear f39;clear hA;refine⟨(by rfl),?_⟩;go_simp<;>(try with_reducible rfl)
 refine R7.Chain.det ?_ (by rfl) (fun T xs wr hA=>?_) ?_;rotate_left 1
 ·have e40:=hA.tm 4 40 (by rfl) (by rfl);have f40:xs 4=_:=hA.fa 4 (by rfl);(try simp (disch:=first | rfl | decide) only [R7.mask_in] at f40);rw[f40] at e40;clear f40;have hBq:wr.heap[kf]?=_:=(hA.bl _ hlt_f (fun q h=>absurd h (Nat.not_lt_zero _))).trans HBf.out;have q0:=cell_at (v:=.int .i64 xo) hBq 0 rfl;have q1:=cell_at (v:=.bool xb) hBq 1 rfl;have q2:=cell_at (v:=.slice xao xl xc) hBq 2 rfl;have q3:=cell_at (v:=.string xnm) hBq 3 rfl;have q4:=cell_at (v:=.slice xko xkl xkc) hBq 4 rfl;clear hBq;clear hA;refine⟨(by rfl),?_⟩;go_simp<;>(try with_reducible rfl)
 refine R7.Chain.det ?_ (by rfl) (fun T xs wr hA=>?_) ?_;rotate_left 1
 ·have e3:=hA.pre 3 (by kernel_rfl);simp only[gsa,gsc,gsz] at e3;clear hA;refine⟨(by rfl),?_⟩;go_simp<;>(try with_reducible rfl)
 refine R7.Chain.det ?_ (by rfl) (fun T xs wr hA=>?_) ?_;rotate_left 1
 ·have e42:=hA.tm 6 42 (by rfl) (by rfl);have f42:xs 6=_:=hA.fa 6 (by rfl);(try simp (disch:=first | rfl | decide) only [R7.mask_in] at f42);rw[f42] at e42;clear f42;clear hA;refine⟨(by rfl),?_⟩;go_simp<;>(try with_reducible rfl)
 refine R7.Chain.det ?_ (by rfl) (fun T xs wr hA=>?_) ?_;rotate_left 1
 ·have e43:=hA.tm 7 43 (by rfl) (by rfl);have f43:xs 7=_:=hA.fa 7 (by rfl);(try simp (disch:=first | rfl | decide) only [R7.mask_in] at f43);rw[f43] at e43;clear f43;have hBq:wr.heap[kf]?=_:=(hA.bl _ hlt_f (fun q h=>absurd h (Nat.not_lt_zero _))).trans HBf.out;have q0:=cell_at (v:=.int .i64 xo) hBq 0 rfl;have q1:=cell_at (v:=.bool xb) hBq 1 rfl;have q2:=cell_at (v:=.slice xao xl xc) hBq 2 rfl;have q3:=cell_at (v:=.string xnm) hBq 3 rfl;have q4:=cell_at (v:=.slice xko xkl xkc) hBq 4 rfl;clear hBq;clear hA;refine⟨(by rfl),?_⟩;go_simp<;>(try with_reducible rfl)
 refine R7.Chain.det ?_ (by rfl) (fun T xs wr hA=>?_) ?_;rotate_left 1
 ·have e44:=hA.tm 8 44 (by rfl) (by rfl);have f44:xs 8=_:=hA.fa 8 (by rfl);(try simp (disch:=first | rfl | decide) only [R7.mask_in] at f44);rw[f44] at e44;clear f44;clear hA;refine⟨(by rfl),?_⟩;go_simp<;>(try with_reducible rfl)
 refine R7.Chain.det ?_ (by rfl) (fun T xs wr hA=>?_) ?_;rotate_left 1
 ·have e45:=hA.tm 9 45 (by rfl) (by rfl);have f45:xs 9=_:=hA.fa 9 (by rfl);(try simp (disch:=first | rfl | decide) only [R7.mask_in] at f45);rw[f45] at e45;clear f45;clear hA;refine⟨(by rfl),?_⟩;go_simp<;>(try with_reducible rfl)
 refine R7.Chain.det ?_ (by rfl) (fun T xs wr hA=>?_) ?_;rotate_left 1
 ·have e41:=hA.tm 5 41 (by rfl) (by rfl);have f41:xs 5=_:=hA.fa 5 (by rfl);(try simp (disch:=first | rfl | decide) only [R7.mask_in] at f41);rw[f41] at e41;clear f41;have e46:=hA.tm 10 46 (by rfl) (by rfl);have f46:xs 10=_:=hA.fa 10 (by rfl);(try simp (disch:=first | rfl | decide) only [R7.mask_in] at f46);rw[f46] at e46;clear f46;clear hA;refine⟨(by rfl),?_⟩;go_simp<;>(try with_reducible rfl)
 refine R7.Chain.call (fun xs v w=>∃ z,CI w v z 2) (fun _ _ _ _ h hb=>by obtain⟨z,h2⟩:=h;exact⟨z,h2.below hb⟩) (fun _ _ _ _ _ _ h _=>by obtain⟨q,hq,_⟩:=h;exact absurd hq (Nat.not_lt_zero _)) (by rfl) (fun T xs wr hA=>?_) ?_
 ·have hsw:=(hA.be 0 (Nat.zero_le _) (fun _ _=>Nat.zero_le _)).size;have e38:=hA.tm 2 38 (by rfl) (by rfl);have f38:xs 2=_:=hA.fa 2 (by rfl);(try simp (disch:=first | rfl | decide) only [R7.mask_in] at f38);rw[f38] at e38;clear f38;have e47:=hA.tm 11 47 (by rfl) (by rfl);have f47:xs 11=_:=hA.fa 11 (by rfl);(try simp (disch:=first | rfl | decide) only [R7.mask_in] at f47);rw[f47] at e47;clear f47;have hbw:=undrew (hA.be x7.heap.size (Nat.le_refl _) (fun q h=>absurd h (Nat.not_lt_zero q)));clear hA;refine⟨(by rfl),fun K hK=>?_⟩;go_simp;refine (big_any xb _ q 2 wr (HG.out.below hbw) (by decide)).mono ?_;rintro e w' ⟨v,rfl,hc,hb'⟩;exact hK.out _ _ ⟨_,hc⟩ hb'
 refine R7.Chain.call (fun xs v w=>∃ g,v=.pointer (some ⟨g,0,none⟩)/\x7.heap.size<=g/\w.heap[g]?=some (.cells #[.bool false,.slice none 0 0] 26 (0,0))) (fun _ _ _ _ h hb=>by obtain⟨g,h1,h2,h3⟩:=h;exact⟨g,h1,h2,by rw[hb.block g (lt_of_block h3)];exact h3⟩) (fun _ _ _ _ _ _ h _=>by obtain⟨q,hq,_⟩:=h;exact absurd hq (Nat.not_lt_zero _)) (by rfl) (fun T xs wr hA=>?_) ?_
 ·have hsw:=(hA.be 0 (Nat.zero_le _) (fun _ _=>Nat.zero_le _)).size;have hbw:=undrew (hA.be x7.heap.size (Nat.le_refl _) (fun q h=>absurd h (Nat.not_lt_zero q)));clear hA;refine⟨(by rfl),fun K hK=>?_⟩;go_simp;exact hK.out _ _ ⟨_,rfl,hbw.size,made_at _ _ _ rfl⟩ ((Below.refl _ _).alloc (Nat.le_refl _) _)
 refine R7.Chain.done (fun xs x8 hL=>?_);obtain⟨⟨hbe,hbl⟩,hf,-,-⟩:=hL;have f0:xs 0=_:=hf 0 (by decide);(try simp (disch:=first | rfl | decide) only [R7.mask_in] at f0);have f1:xs 1=_:=hf 1 (by decide);(try simp (disch:=first | rfl | decide) only [R7.mask_in] at f1);have f2:xs 2=_:=hf 2 (by decide);(try simp (disch:=first | rfl | decide) only [R7.mask_in] at f2);have f3:xs 3=_:=hf 3 (by decide);(try simp (disch:=first | rfl | decide) only [R7.mask_in] at f3);have f4:xs 4=_:=hf 4 (by decide);(try simp (disch:=first | rfl | decide) only [R7.mask_in] at f4);have f5:xs 5=_:=hf 5 (by decide);(try simp (disch:=first | rfl | decide) only [R7.mask_in] at f5);have f6:xs 6=_:=hf 6 (by decide);(try simp (disch:=first | rfl | decide) only [R7.mask_in] at f6);have f7:xs 7=_:=hf 7 (by decide)
 (try simp (disch:=first | rfl | decide) only [R7.mask_in] at f7);have f8:xs 8=_:=hf 8 (by decide);(try simp (disch:=first | rfl | decide) only [R7.mask_in] at f8);have f9:xs 9=_:=hf 9 (by decide);(try simp (disch:=first | rfl | decide) only [R7.mask_in] at f9);have f10:xs 10=_:=hf 10 (by decide);(try simp (disch:=first | rfl | decide) only [R7.mask_in] at f10);have f11:xs 11=_:=hf 11 (by decide);(try simp (disch:=first | rfl | decide) only [R7.mask_in] at f11);have F12:∃ z,CI x8 (xs 12) z 2:=hf 12 (by decide);have F13:∃ g,(xs 13)=.pointer (some ⟨g,0,none⟩)/\x7.heap.size<=g/\x8.heap[g]?=some (.cells #[.bool false,.slice none 0 0] 26 (0,0)):=hf 13 (by decide);have hb0:Below 0 x7 x8:=undrew (hbe 0 (Nat.zero_le _) (fun _ _=>Nat.zero_le _))
 have hgr:∀ j,j<x7.heap.size->(∀ q,q<0->(fun q=>0) q≠j)->x8.heap[j]?=x7.heap[j]?:=hbl;clear hbe hbl hf;have hb:Below x7.heap.size x7 x8:=⟨hb0.os,hb0.tape,hb0.output,hb0.size,fun q hq=>hgr q hq (fun q h=>absurd h (Nat.not_lt_zero _))⟩;refine R7.rest_list (by decide) (by kernel_rfl) ?_;simp only[R7.fill,t1_,t2_,t3_,t4_,t5_,t6_,t7_,f0,f1,f2,f3,f4,f5,f6,f7,f8,f9,f10,f11];clear hb0 hgr hog hlt_f f0 f1 f2 f3 f4 f5 f6 f7 f8 f9 f10 f11;replace HBf:=kBV hb HBf;replace HBd:=kBV hb HBd;replace HBr:=kBV hb HBr;replace HBo:=kBV hb HBo;replace HW:=Lib.hid (HW.out.trans (hb.mono HW.out.size));replace HY:=Lib.hid (HY.out.trans (hb.mono HY.out.size));replace hb:=Lib.hid hb;obtain⟨z,hcz⟩:=F12;obtain⟨zb,zo,zl,zc,hzv⟩:=hcz.shape;obtain⟨km,hkm,hkm1,hkm2⟩:=F13;rw[hzv] at hcz;rw[hzv,hkm]
 have HC:=Lib.hid (hcz.mono (k':=600) (by decide));have HBm:=Lib.hid hkm2;clear hcz hzv hkm hkm2;obtain⟨m0,m1,fm0,fm1⟩:=cells2V HBm.out;go_upto_region 9 with fail;clear m0 fm0 m1 fm1;have hg1:=grown2V (w:=x8) (k:=km) (.bool zb) (.slice zo zl zc);have hb1:((x8.setCell ⟨km,0,none⟩ (.bool zb)).setCell ⟨km,1,none⟩ (.slice zo zl zc)).heap[km]?=_:=heap_setCell_same _ km 1 _ _ _ (heap_setCell_same _ km 0 _ _ _ HBm.out);obtain⟨W1,hW1⟩:∃ q,q=(x8.setCell ⟨km,0,none⟩ (.bool zb)).setCell ⟨km,1,none⟩ (.slice zo zl zc):=⟨_,rfl⟩;rw[<-hW1] at hg1 hb1 ⊢;have hf1:Fr 26 x8 W1:=.of_grown hg1 (fun j hj=>by injection hj with hj;subst hj;exact⟨_,HBm.out,n32_2⟩);have HKM:Hid (w.heap.size<=km):=Lib.hid (Nat.le_trans (by have:=HKO.out;have:=lt_of_block HBo0.out;omega) hkm1)
 replace HW:=Lib.hid (ext_below HW.out hg1 HKM.out);replace HY:=Lib.hid (ext_below HY.out hg1 hkm1);replace HBf:=Lib.hid ((HY.out.block _ (lt_of_block HBf0.out)).trans HBf0.out);replace HBd:=Lib.hid ((HY.out.block _ (lt_of_block HBd0.out)).trans HBd0.out);replace HBr:=Lib.hid ((HY.out.block _ (lt_of_block HBr0.out)).trans HBr0.out);replace HBo:=Lib.hid ((HY.out.block _ (lt_of_block HBo0.out)).trans HBo0.out);replace HBm:=Lib.hid hb1;clear hg1 hb1 hW1 hf1 hkm1;have HLOW:Hid (kf<W1.heap.size/\kd<W1.heap.size/\kr<W1.heap.size/\ko<W1.heap.size):=Lib.hid ⟨lt_of_block HBf.out,lt_of_block HBd.out,lt_of_block HBr.out,lt_of_block HBo.out⟩;have HDIS:Hid (kf≠ko/\kd≠ko/\kr≠ko):=Lib.hid (by have h1:=lt_of_block HBfp.out;have h2:=lt_of_block HBdp.out;have h3:=lt_of_block HBrp.out;rw[eko] at h1 h2 h3;omega)
 have HB0:Hid (w.heap.size<=W1.heap.size):=Lib.hid HW.out.size;have hjc:j=0\/j=1\/j=2\/j=3\/j=4\/j=5\/j=6\/j=7\/j=8\/j=9:=by omega
 rcases hjc with rfl | rfl | rfl | rfl | rfl | rfl | rfl | rfl | rfl | rfl
 ·have hop2:op=14:=HOP.out;subst hop2;clear HOP;have HSZP:Hid (W1.heap.size<=W1.heap.size):=Lib.hid (Nat.le_refl _);rcases (tmod_cases xnm.size).2 with hr | hr
  ·obtain⟨⟨o0,o1,o2,o3,o4⟩,fo0,fo1,fo2,fo3,fo4⟩:=cells5V HBo.out;obtain⟨m0,m1,fm0,fm1⟩:=cells2V HBm.out;obtain⟨⟨f0,f1,f2,f3,f4⟩,ff0,ff1,ff2,ff3,ff4⟩:=cells5V HBf.out;have hcv:=one_byteL 48 48 (by decide) W1;obtain⟨x9,ky,ey,eky,hby,hky,HBy⟩:=newV W1 #[.int .u8 48] 5;replace HBf:=kBV hby.out HBf;replace HBd:=kBV hby.out HBd;replace HBr:=kBV hby.out HBr;replace HBo:=kBV hby.out HBo;replace HW:=Lib.hid (HW.out.trans (hby.out.mono HW.out.size));rw[ey,eky] at hcv;obtain⟨⟨p0,p1,p2,p3,p4⟩,fp0,fp1,fp2,fp3,fp4⟩:=cells5V HBo.out;replace HSZP:=Lib.hid (Nat.le_trans HSZP.out hby.out.size);go_upto_region 21 with fail;clear o0 fo0 o1 fo1 o2 fo2 o3 fo3 o4 fo4 m0 fm0 m1 fm1 f0 ff0 f1 ff1 f2 ff2 f3 ff3 f4 ff4 p0 fp0 p1 fp1 p2 fp2 p3 fp3 p4 fp4;try clear hcv
   try clear hr
   rw[show ((⟨#[98]⟩:ByteArray)++⟨#[48]⟩)=⟨#[98,48]⟩ from rfl];have hgo:x9.grownBy (x9.setCell ⟨ko,3,none⟩ (.string ⟨#[98,48]⟩)) (some ko):=by refine grown_setCell ?_ _;exact World.grownBy.refl _ _
   have hbo:(x9.setCell ⟨ko,3,none⟩ (.string ⟨#[98,48]⟩)).heap[ko]?=_:=(heap_setCell_same _ ko 3 _ _ (.string ⟨#[98,48]⟩) HBo.out);obtain⟨W2,hW2⟩:∃ q,q=x9.setCell ⟨ko,3,none⟩ (.string ⟨#[98,48]⟩):=⟨_,rfl⟩;rw[<-hW2] at hgo hbo ⊢;have hfo:Fr 29 x9 W2:=.of_grown hgo (fun j hj=>by injection hj with hj;subst hj;exact⟨_,HBo.out,n32_F⟩);replace HW:=Lib.hid (ext_below HW.out hgo HKO.out);replace HBf:=Lib.hid ((hgo.block _ (lt_of_block HBf.out) (fun e=>by injection e with e;exact HDIS.out.1 e)).trans HBf.out);replace HBd:=Lib.hid ((hgo.block _ (lt_of_block HBd.out) (fun e=>by injection e with e;exact HDIS.out.2.1 e)).trans HBd.out);replace HBr:=Lib.hid ((hgo.block _ (lt_of_block HBr.out) (fun e=>by injection e with e;exact HDIS.out.2.2 e)).trans HBr.out)
   have HSZW:Hid (W1.heap.size<=W2.heap.size):=Lib.hid (Nat.le_trans HSZP.out hgo.size);replace HBo:=Lib.hid hbo;clear hgo hbo hW2 hfo HSZP;have HSZP:=HSZW;clear HSZW;have HT:Hid (TSt w W1.heap.size kf kd kr ko ⟨xo,xb,xao,xl,xc,xnm,xko,xkl,xkc⟩ ((d:Nat)+1) 14 false none 0 0 (⟨#[98,48]⟩) (0) d [] (.slice none 0 0) [] W2):=Lib.hid (TSt.zero HBo.out HBf.out HBd.out HBr.out (nr0 _) HLOW.out HDIS.out HKO.out HW.out HSZP.out);obtain⟨⟨o0,o1,o2,o3,o4⟩,fo0,fo1,fo2,fo3,fo4⟩:=cells5V HBo.out;obtain⟨⟨r0,r1,r2,r3,r4⟩,fr0,fr1,fr2,fr3,fr4⟩:=cells5V HBr.out;go_wp2_with fail;clear o0 fo0 o1 fo1 o2 fo2 o3 fo3 o4 fo4;have hg:=grown5V (w:=W2) (k:=kr) (.int .i64 14) (.bool false) (.slice none 0 0) (.string ⟨#[98,48]⟩) (.slice none 0 0)
   have hf:Fr 29 W2 _:=.of_grown hg (fun j hj=>by injection hj with hj;subst hj;exact⟨_,HBr.out,n32_F⟩);obtain⟨h1,h2,h3,h4⟩:=HT.out.fin hg hf (by unfold IR;decide) HB0.out HKR.out (by unfold NmOk;simp) (small4 (by decide)) (fun _ _ _=>rfl) (by simp) (rfl);(try simp only[Exit.inBlock,Exit.then]);exact bodyPost_ret (v:=.agg #[.int .i64 14,.bool false,.slice none 0 0,.string ⟨#[98,48]⟩,.slice none 0 0]) (by simp[results,Tryz.results13,go_sem,r0,r1,r2,r3,r4]) rfl ⟨_,_,rfl,h1,h2,rfl,h3,h4⟩
  obtain⟨⟨o0,o1,o2,o3,o4⟩,fo0,fo1,fo2,fo3,fo4⟩:=cells5V HBo.out;obtain⟨m0,m1,fm0,fm1⟩:=cells2V HBm.out;obtain⟨⟨f0,f1,f2,f3,f4⟩,ff0,ff1,ff2,ff3,ff4⟩:=cells5V HBf.out;have hcv:=one_byteL 49 49 (by decide) W1;obtain⟨x9,ky,ey,eky,hby,hky,HBy⟩:=newV W1 #[.int .u8 49] 5;replace HBf:=kBV hby.out HBf;replace HBd:=kBV hby.out HBd;replace HBr:=kBV hby.out HBr;replace HBo:=kBV hby.out HBo;replace HW:=Lib.hid (HW.out.trans (hby.out.mono HW.out.size));rw[ey,eky] at hcv;obtain⟨⟨p0,p1,p2,p3,p4⟩,fp0,fp1,fp2,fp3,fp4⟩:=cells5V HBo.out;replace HSZP:=Lib.hid (Nat.le_trans HSZP.out hby.out.size);go_upto_region 21 with fail;clear o0 fo0 o1 fo1 o2 fo2 o3 fo3 o4 fo4 m0 fm0 m1 fm1 f0 ff0 f1 ff1 f2 ff2 f3 ff3 f4 ff4 p0 fp0 p1 fp1 p2 fp2 p3 fp3 p4 fp4;try clear hcv
  try clear hr
  rw[show ((⟨#[98]⟩:ByteArray)++⟨#[49]⟩)=⟨#[98,49]⟩ from rfl];have hgo:x9.grownBy (x9.setCell ⟨ko,3,none⟩ (.string ⟨#[98,49]⟩)) (some ko):=by refine grown_setCell ?_ _;exact World.grownBy.refl _ _
  have hbo:(x9.setCell ⟨ko,3,none⟩ (.string ⟨#[98,49]⟩)).heap[ko]?=_:=(heap_setCell_same _ ko 3 _ _ (.string ⟨#[98,49]⟩) HBo.out);obtain⟨W2,hW2⟩:∃ q,q=x9.setCell ⟨ko,3,none⟩ (.string ⟨#[98,49]⟩):=⟨_,rfl⟩;rw[<-hW2] at hgo hbo ⊢;have hfo:Fr 29 x9 W2:=.of_grown hgo (fun j hj=>by injection hj with hj;subst hj;exact⟨_,HBo.out,n32_F⟩);replace HW:=Lib.hid (ext_below HW.out hgo HKO.out);replace HBf:=Lib.hid ((hgo.block _ (lt_of_block HBf.out) (fun e=>by injection e with e;exact HDIS.out.1 e)).trans HBf.out);replace HBd:=Lib.hid ((hgo.block _ (lt_of_block HBd.out) (fun e=>by injection e with e;exact HDIS.out.2.1 e)).trans HBd.out);replace HBr:=Lib.hid ((hgo.block _ (lt_of_block HBr.out) (fun e=>by injection e with e;exact HDIS.out.2.2 e)).trans HBr.out)
  have HSZW:Hid (W1.heap.size<=W2.heap.size):=Lib.hid (Nat.le_trans HSZP.out hgo.size);replace HBo:=Lib.hid hbo;clear hgo hbo hW2 hfo HSZP;have HSZP:=HSZW;clear HSZW;have HT:Hid (TSt w W1.heap.size kf kd kr ko ⟨xo,xb,xao,xl,xc,xnm,xko,xkl,xkc⟩ ((d:Nat)+1) 14 false none 0 0 (⟨#[98,49]⟩) (0) d [] (.slice none 0 0) [] W2):=Lib.hid (TSt.zero HBo.out HBf.out HBd.out HBr.out (nr0 _) HLOW.out HDIS.out HKO.out HW.out HSZP.out);obtain⟨⟨o0,o1,o2,o3,o4⟩,fo0,fo1,fo2,fo3,fo4⟩:=cells5V HBo.out;obtain⟨⟨r0,r1,r2,r3,r4⟩,fr0,fr1,fr2,fr3,fr4⟩:=cells5V HBr.out;go_wp2_with fail;clear o0 fo0 o1 fo1 o2 fo2 o3 fo3 o4 fo4;have hg:=grown5V (w:=W2) (k:=kr) (.int .i64 14) (.bool false) (.slice none 0 0) (.string ⟨#[98,49]⟩) (.slice none 0 0)
  have hf:Fr 29 W2 _:=.of_grown hg (fun j hj=>by injection hj with hj;subst hj;exact⟨_,HBr.out,n32_F⟩);obtain⟨h1,h2,h3,h4⟩:=HT.out.fin hg hf (by unfold IR;decide) HB0.out HKR.out (by unfold NmOk;simp) (small4 (by decide)) (fun _ _ _=>rfl) (by simp) (rfl);(try simp only[Exit.inBlock,Exit.then]);exact bodyPost_ret (v:=.agg #[.int .i64 14,.bool false,.slice none 0 0,.string ⟨#[98,49]⟩,.slice none 0 0]) (by simp[results,Tryz.results13,go_sem,r0,r1,r2,r3,r4]) rfl ⟨_,_,rfl,h1,h2,rfl,h3,h4⟩
 ·have hop2:op=12:=HOP.out;subst hop2;clear HOP;have HSZP:Hid (W1.heap.size<=W1.heap.size):=Lib.hid (Nat.le_refl _);have HT:Hid (TSt w W1.heap.size kf kd kr ko ⟨xo,xb,xao,xl,xc,xnm,xko,xkl,xkc⟩ ((d:Nat)+1) 12 false none 0 0 (⟨#[]⟩) (0) d [] (.slice none 0 0) [] W1):=Lib.hid (TSt.zero HBo.out HBf.out HBd.out HBr.out (nr0 _) HLOW.out HDIS.out HKO.out HW.out HSZP.out);obtain⟨⟨o0,o1,o2,o3,o4⟩,fo0,fo1,fo2,fo3,fo4⟩:=cells5V HBo.out;obtain⟨⟨r0,r1,r2,r3,r4⟩,fr0,fr1,fr2,fr3,fr4⟩:=cells5V HBr.out;go_wp2_with fail;clear o0 fo0 o1 fo1 o2 fo2 o3 fo3 o4 fo4;have hg:=grown5V (w:=W1) (k:=kr) (.int .i64 12) (.bool false) (.slice none 0 0) (.string ⟨#[]⟩) (.slice none 0 0);have hf:Fr 29 W1 _:=.of_grown hg (fun j hj=>by injection hj with hj;subst hj;exact⟨_,HBr.out,n32_F⟩)
  obtain⟨h1,h2,h3,h4⟩:=HT.out.fin hg hf (by unfold IR;decide) HB0.out HKR.out (by unfold NmOk;simp) (small4 (by decide)) (fun _ _ _=>rfl) (by simp) (rfl);(try simp only[Exit.inBlock,Exit.then]);exact bodyPost_ret (v:=.agg #[.int .i64 12,.bool false,.slice none 0 0,.string ⟨#[]⟩,.slice none 0 0]) (by simp[results,Tryz.results13,go_sem,r0,r1,r2,r3,r4]) rfl ⟨_,_,rfl,h1,h2,rfl,h3,h4⟩
 ·have hop2:op=13:=HOP.out;subst hop2;clear HOP;have HSZP:Hid (W1.heap.size<=W1.heap.size):=Lib.hid (Nat.le_refl _);have HT:Hid (TSt w W1.heap.size kf kd kr ko ⟨xo,xb,xao,xl,xc,xnm,xko,xkl,xkc⟩ ((d:Nat)+1) 13 false none 0 0 (⟨#[]⟩) (0) d [] (.slice none 0 0) [] W1):=Lib.hid (TSt.zero HBo.out HBf.out HBd.out HBr.out (nr0 _) HLOW.out HDIS.out HKO.out HW.out HSZP.out);obtain⟨⟨o0,o1,o2,o3,o4⟩,fo0,fo1,fo2,fo3,fo4⟩:=cells5V HBo.out;obtain⟨⟨r0,r1,r2,r3,r4⟩,fr0,fr1,fr2,fr3,fr4⟩:=cells5V HBr.out;go_wp2_with fail;clear o0 fo0 o1 fo1 o2 fo2 o3 fo3 o4 fo4;have hg:=grown5V (w:=W1) (k:=kr) (.int .i64 13) (.bool false) (.slice none 0 0) (.string ⟨#[]⟩) (.slice none 0 0);have hf:Fr 29 W1 _:=.of_grown hg (fun j hj=>by injection hj with hj;subst hj;exact⟨_,HBr.out,n32_F⟩)
  obtain⟨h1,h2,h3,h4⟩:=HT.out.fin hg hf (by unfold IR;decide) HB0.out HKR.out (by unfold NmOk;simp) (small4 (by decide)) (fun _ _ _=>rfl) (by simp) (rfl);(try simp only[Exit.inBlock,Exit.then]);exact bodyPost_ret (v:=.agg #[.int .i64 13,.bool false,.slice none 0 0,.string ⟨#[]⟩,.slice none 0 0]) (by simp[results,Tryz.results13,go_sem,r0,r1,r2,r3,r4]) rfl ⟨_,_,rfl,h1,h2,rfl,h3,h4⟩
 ·have hop2:op=15:=HOP.out;subst hop2;clear HOP;have HSZP:Hid (W1.heap.size<=W1.heap.size):=Lib.hid (Nat.le_refl _);have HT:Hid (TSt w W1.heap.size kf kd kr ko ⟨xo,xb,xao,xl,xc,xnm,xko,xkl,xkc⟩ ((d:Nat)+1) 15 false none 0 0 (⟨#[]⟩) (0) d [] (.slice none 0 0) [] W1):=Lib.hid (TSt.zero HBo.out HBf.out HBd.out HBr.out (nr0 _) HLOW.out HDIS.out HKO.out HW.out HSZP.out);clear HBm;have HKB:Hid (W1.heap.size<=W1.heap.size):=Lib.hid (Nat.le_refl _);obtain⟨⟨o0,o1,o2,o3,o4⟩,fo0,fo1,fo2,fo3,fo4⟩:=cells5V HBo.out;go_wp2_with fail;clear o0 fo0 o1 fo1 o2 fo2 o3 fo3 o4 fo4;refine (kid_p d HD.out HIT.out w W1 W1.heap.size kf kd kr ko ⟨xo,xb,xao,xl,xc,xnm,xko,xkl,xkc⟩ HX.out 15 false none 0 0 ⟨#[]⟩ (0) [] _ [] 0 0 (by decide) (by decide) HT.out (by rw[HT.out.len];simp)).mono ?_
  rintro e X1 ⟨⟨q0,rfl⟩,t0,v0,us0,hs,ht⟩;replace HT:=Lib.hid ht;have HS0:=Lib.hid hs;clear hs ht;go_wp2_with fail;refine (kid_p d HD.out HIT.out w X1 W1.heap.size kf kd kr ko ⟨xo,xb,xao,xl,xc,xnm,xko,xkl,xkc⟩ HX.out 15 false none 0 0 ⟨#[]⟩ (0) ([]++[t0]) _ us0 1 0 (by decide) (by decide) HT.out (by rw[HT.out.len];simp)).mono ?_;rintro e X2 ⟨⟨q1,rfl⟩,t1,v1,us1,hs,ht⟩;replace HT:=Lib.hid ht;have HS1:=Lib.hid hs;clear hs ht;obtain⟨vo,vc,hv,-⟩:=HT.out.row.form;subst hv;obtain⟨N,hN⟩:∃ N,N=us1.length:=⟨_,rfl⟩;rw[<-hN] at HT;clear hN;replace HBo:=Lib.hid HT.out.ho;replace HBr:=Lib.hid HT.out.hr;obtain⟨⟨o0,o1,o2,o3,o4⟩,fo0,fo1,fo2,fo3,fo4⟩:=cells5V HBo.out;obtain⟨⟨r0,r1,r2,r3,r4⟩,fr0,fr1,fr2,fr3,fr4⟩:=cells5V HBr.out;go_wp2_with fail
  clear o0 fo0 o1 fo1 o2 fo2 o3 fo3 o4 fo4;have hg:=grown5V (w:=X2) (k:=kr) (.int .i64 15) (.bool false) (.slice none 0 0) (.string ⟨#[]⟩) (.slice vo N vc);have hf:Fr 29 X2 _:=.of_grown hg (fun j hj=>by injection hj with hj;subst hj;exact⟨_,HBr.out,n32_F⟩);obtain⟨h1,h2,h3,h4⟩:=HT.out.fin hg hf (by unfold IR;decide) HB0.out HKR.out (by unfold NmOk;simp) (small4 (by decide)) (fun _ _ _=>rfl) (by simp) (by simp[fitF,kidsOk,srts,HS0.out,HS1.out]);(try simp only[Exit.inBlock,Exit.then]);exact bodyPost_ret (v:=.agg #[.int .i64 15,.bool false,.slice none 0 0,.string ⟨#[]⟩,.slice vo N vc]) (by simp[results,Tryz.results13,go_sem,r0,r1,r2,r3,r4]) rfl ⟨_,_,rfl,h1,h2,rfl,h3,h4⟩
 ·have hop2:op=16:=HOP.out;subst hop2;clear HOP;have HSZP:Hid (W1.heap.size<=W1.heap.size):=Lib.hid (Nat.le_refl _);have hj5:(((4:Nat):Int)==5)=false:=rfl;have HT:Hid (TSt w W1.heap.size kf kd kr ko ⟨xo,xb,xao,xl,xc,xnm,xko,xkl,xkc⟩ ((d:Nat)+1) 16 false none 0 0 (⟨#[]⟩) (0) d [] (.slice none 0 0) [] W1):=Lib.hid (TSt.zero HBo.out HBf.out HBd.out HBr.out (nr0 _) HLOW.out HDIS.out HKO.out HW.out HSZP.out);clear HBm;have HKB:Hid (W1.heap.size<=W1.heap.size):=Lib.hid (Nat.le_refl _);obtain⟨⟨o0,o1,o2,o3,o4⟩,fo0,fo1,fo2,fo3,fo4⟩:=cells5V HBo.out;go_wp2_with fail;clear o0 fo0 o1 fo1 o2 fo2 o3 fo3 o4 fo4
  refine (kid_p d HD.out HIT.out w W1 W1.heap.size kf kd kr ko ⟨xo,xb,xao,xl,xc,xnm,xko,xkl,xkc⟩ HX.out 16 false none 0 0 ⟨#[]⟩ (0) [] _ [] 0 0 (by decide) (by decide) HT.out (by rw[HT.out.len];simp)).mono ?_;rintro e X1 ⟨⟨q0,rfl⟩,t0,v0,us0,hs,ht⟩;replace HT:=Lib.hid ht;have HS0:=Lib.hid hs;clear hs ht;go_wp2_with fail;refine (kid_p d HD.out HIT.out w X1 W1.heap.size kf kd kr ko ⟨xo,xb,xao,xl,xc,xnm,xko,xkl,xkc⟩ HX.out 16 false none 0 0 ⟨#[]⟩ (0) ([]++[t0]) _ us0 1 0 (by decide) (by decide) HT.out (by rw[HT.out.len];simp)).mono ?_;rintro e X2 ⟨⟨q1,rfl⟩,t1,v1,us1,hs,ht⟩;replace HT:=Lib.hid ht;have HS1:=Lib.hid hs;clear hs ht;obtain⟨vo,vc,hv,-⟩:=HT.out.row.form;subst hv;obtain⟨N,hN⟩:∃ N,N=us1.length:=⟨_,rfl⟩;rw[<-hN] at HT;clear hN;replace HBo:=Lib.hid HT.out.ho
  replace HBr:=Lib.hid HT.out.hr;obtain⟨⟨o0,o1,o2,o3,o4⟩,fo0,fo1,fo2,fo3,fo4⟩:=cells5V HBo.out;obtain⟨⟨r0,r1,r2,r3,r4⟩,fr0,fr1,fr2,fr3,fr4⟩:=cells5V HBr.out;go_wp2_with fail;clear o0 fo0 o1 fo1 o2 fo2 o3 fo3 o4 fo4;have hg:=grown5V (w:=X2) (k:=kr) (.int .i64 16) (.bool false) (.slice none 0 0) (.string ⟨#[]⟩) (.slice vo N vc);have hf:Fr 29 X2 _:=.of_grown hg (fun j hj=>by injection hj with hj;subst hj;exact⟨_,HBr.out,n32_F⟩);obtain⟨h1,h2,h3,h4⟩:=HT.out.fin hg hf (by unfold IR;decide) HB0.out HKR.out (by unfold NmOk;simp) (small4 (by decide)) (fun _ _ _=>rfl) (by simp) (by simp[fitF,kidsOk,srts,HS0.out,HS1.out]);(try simp only[Exit.inBlock,Exit.then])
  exact bodyPost_ret (v:=.agg #[.int .i64 16,.bool false,.slice none 0 0,.string ⟨#[]⟩,.slice vo N vc]) (by simp[results,Tryz.results13,go_sem,r0,r1,r2,r3,r4]) rfl ⟨_,_,rfl,h1,h2,rfl,h3,h4⟩
 ·have hop2:op=16:=HOP.out;subst hop2;clear HOP;have HSZP:Hid (W1.heap.size<=W1.heap.size):=Lib.hid (Nat.le_refl _);have hj5:(((5:Nat):Int)==5)=true:=rfl;have HT:Hid (TSt w W1.heap.size kf kd kr ko ⟨xo,xb,xao,xl,xc,xnm,xko,xkl,xkc⟩ ((d:Nat)+1) 16 false none 0 0 (⟨#[]⟩) (0) d [] (.slice none 0 0) [] W1):=Lib.hid (TSt.zero HBo.out HBf.out HBd.out HBr.out (nr0 _) HLOW.out HDIS.out HKO.out HW.out HSZP.out);clear HBm;have HKB:Hid (W1.heap.size<=W1.heap.size):=Lib.hid (Nat.le_refl _);obtain⟨⟨o0,o1,o2,o3,o4⟩,fo0,fo1,fo2,fo3,fo4⟩:=cells5V HBo.out;go_wp2_with fail;clear o0 fo0 o1 fo1 o2 fo2 o3 fo3 o4 fo4
  refine (kid_p d HD.out HIT.out w W1 W1.heap.size kf kd kr ko ⟨xo,xb,xao,xl,xc,xnm,xko,xkl,xkc⟩ HX.out 16 false none 0 0 ⟨#[]⟩ (0) [] _ [] 0 2 (by decide) (by decide) HT.out (by rw[HT.out.len];simp)).mono ?_;rintro e X1 ⟨⟨q0,rfl⟩,t0,v0,us0,hs,ht⟩;replace HT:=Lib.hid ht;have HS0:=Lib.hid hs;clear hs ht;go_wp2_with fail;refine (kid_p d HD.out HIT.out w X1 W1.heap.size kf kd kr ko ⟨xo,xb,xao,xl,xc,xnm,xko,xkl,xkc⟩ HX.out 16 false none 0 0 ⟨#[]⟩ (0) ([]++[t0]) _ us0 1 2 (by decide) (by decide) HT.out (by rw[HT.out.len];simp)).mono ?_;rintro e X2 ⟨⟨q1,rfl⟩,t1,v1,us1,hs,ht⟩;replace HT:=Lib.hid ht;have HS1:=Lib.hid hs;clear hs ht;obtain⟨vo,vc,hv,-⟩:=HT.out.row.form;subst hv;obtain⟨N,hN⟩:∃ N,N=us1.length:=⟨_,rfl⟩;rw[<-hN] at HT;clear hN;replace HBo:=Lib.hid HT.out.ho
  replace HBr:=Lib.hid HT.out.hr;obtain⟨⟨o0,o1,o2,o3,o4⟩,fo0,fo1,fo2,fo3,fo4⟩:=cells5V HBo.out;obtain⟨⟨r0,r1,r2,r3,r4⟩,fr0,fr1,fr2,fr3,fr4⟩:=cells5V HBr.out;go_wp2_with fail;clear o0 fo0 o1 fo1 o2 fo2 o3 fo3 o4 fo4;have hg:=grown5V (w:=X2) (k:=kr) (.int .i64 16) (.bool false) (.slice none 0 0) (.string ⟨#[]⟩) (.slice vo N vc);have hf:Fr 29 X2 _:=.of_grown hg (fun j hj=>by injection hj with hj;subst hj;exact⟨_,HBr.out,n32_F⟩);obtain⟨h1,h2,h3,h4⟩:=HT.out.fin hg hf (by unfold IR;decide) HB0.out HKR.out (by unfold NmOk;simp) (small4 (by decide)) (fun _ _ _=>rfl) (by simp) (by simp[fitF,kidsOk,srts,HS0.out,HS1.out]);(try simp only[Exit.inBlock,Exit.then])
  exact bodyPost_ret (v:=.agg #[.int .i64 16,.bool false,.slice none 0 0,.string ⟨#[]⟩,.slice vo N vc]) (by simp[results,Tryz.results13,go_sem,r0,r1,r2,r3,r4]) rfl ⟨_,_,rfl,h1,h2,rfl,h3,h4⟩
 ·have hop2:op=17:=HOP.out;subst hop2;clear HOP;have HSZP:Hid (W1.heap.size<=W1.heap.size):=Lib.hid (Nat.le_refl _);have HT:Hid (TSt w W1.heap.size kf kd kr ko ⟨xo,xb,xao,xl,xc,xnm,xko,xkl,xkc⟩ ((d:Nat)+1) 17 false none 0 0 (⟨#[]⟩) (0) d [] (.slice none 0 0) [] W1):=Lib.hid (TSt.zero HBo.out HBf.out HBd.out HBr.out (nr0 _) HLOW.out HDIS.out HKO.out HW.out HSZP.out);clear HBm;have HKB:Hid (W1.heap.size<=W1.heap.size):=Lib.hid (Nat.le_refl _);obtain⟨⟨o0,o1,o2,o3,o4⟩,fo0,fo1,fo2,fo3,fo4⟩:=cells5V HBo.out;go_wp2_with fail;clear o0 fo0 o1 fo1 o2 fo2 o3 fo3 o4 fo4;refine (kid_p d HD.out HIT.out w W1 W1.heap.size kf kd kr ko ⟨xo,xb,xao,xl,xc,xnm,xko,xkl,xkc⟩ HX.out 17 false none 0 0 ⟨#[]⟩ (0) [] _ [] 0 1 (by decide) (by decide) HT.out (by rw[HT.out.len];simp)).mono ?_
  rintro e X1 ⟨⟨q0,rfl⟩,t0,v0,us0,hs,ht⟩;replace HT:=Lib.hid ht;have HS0:=Lib.hid hs;clear hs ht;obtain⟨vo,vc,hv,-⟩:=HT.out.row.form;subst hv;obtain⟨N,hN⟩:∃ N,N=us0.length:=⟨_,rfl⟩;rw[<-hN] at HT;clear hN;replace HBo:=Lib.hid HT.out.ho;replace HBr:=Lib.hid HT.out.hr;obtain⟨⟨o0,o1,o2,o3,o4⟩,fo0,fo1,fo2,fo3,fo4⟩:=cells5V HBo.out;obtain⟨⟨r0,r1,r2,r3,r4⟩,fr0,fr1,fr2,fr3,fr4⟩:=cells5V HBr.out;go_wp2_with fail;clear o0 fo0 o1 fo1 o2 fo2 o3 fo3 o4 fo4;have hg:=grown5V (w:=X1) (k:=kr) (.int .i64 17) (.bool false) (.slice none 0 0) (.string ⟨#[]⟩) (.slice vo N vc);have hf:Fr 29 X1 _:=.of_grown hg (fun j hj=>by injection hj with hj;subst hj;exact⟨_,HBr.out,n32_F⟩)
  obtain⟨h1,h2,h3,h4⟩:=HT.out.fin hg hf (by unfold IR;decide) HB0.out HKR.out (by unfold NmOk;simp) (small4 (by decide)) (fun _ _ _=>rfl) (by simp) (by simp[fitF,kidsOk,srts,HS0.out]);(try simp only[Exit.inBlock,Exit.then]);exact bodyPost_ret (v:=.agg #[.int .i64 17,.bool false,.slice none 0 0,.string ⟨#[]⟩,.slice vo N vc]) (by simp[results,Tryz.results13,go_sem,r0,r1,r2,r3,r4]) rfl ⟨_,_,rfl,h1,h2,rfl,h3,h4⟩
 ·have hop2:op=18:=HOP.out;subst hop2;clear HOP;have HSZP:Hid (W1.heap.size<=W1.heap.size):=Lib.hid (Nat.le_refl _);have HT:Hid (TSt w W1.heap.size kf kd kr ko ⟨xo,xb,xao,xl,xc,xnm,xko,xkl,xkc⟩ ((d:Nat)+1) 18 false none 0 0 (⟨#[]⟩) (0) d [] (.slice none 0 0) [] W1):=Lib.hid (TSt.zero HBo.out HBf.out HBd.out HBr.out (nr0 _) HLOW.out HDIS.out HKO.out HW.out HSZP.out);clear HBm;obtain⟨M,hM⟩:∃ M,M=min xkl 3:=⟨_,rfl⟩;have hmin3:min (xkl:Int) 3=(M:Int):=by omega
  have hM3:M<=3:=by omega
  clear hM;obtain⟨⟨o0,o1,o2,o3,o4⟩,fo0,fo1,fo2,fo3,fo4⟩:=cells5V HBo.out;obtain⟨⟨f0,f1,f2,f3,f4⟩,ff0,ff1,ff2,ff3,ff4⟩:=cells5V HBf.out;go_upto_region 51 with fail;clear o0 fo0 o1 fo1 o2 fo2 o3 fo3 o4 fo4 f0 ff0 f1 ff1 f2 ff2 f3 ff3 f4 ff4;rw[show (((7:Nat):Int))=(7:Int) from rfl];go_loopw [154] (fun i wr=>∃ (j:Nat) (ts:List F) (v:Value) (us:List FU),i=.int .i64 (j:Nat)/\j<=M/\Hid (ts.length=j/\∀ t ∈ ts,srt t.op=1)/\Hid (TSt w W1.heap.size kf kd kr ko ⟨xo,xb,xao,xl,xc,xnm,xko,xkl,xkc⟩ ((d:Nat)+1) 18 false none 0 0 ⟨#[]⟩ 0 d ts v us wr)) (fun i _=>M - (intOf i).toNat)
  case atStart=>exact⟨0,[],_,[],rfl,Nat.zero_le _,Lib.hid ⟨rfl,fun t ht=>by cases ht⟩,HT⟩
  case round =>
   clear HT HBf HBd HBr HBo HC HW HSZP;obtain⟨j,ts,v,us,rfl,hj,HJ,HT⟩:=hrel;by_cases hlt:j<M
   ·have hj3:j<=3:=by omega
    go_wp2_with fail;refine (kid_p d HD.out HIT.out w wr W1.heap.size kf kd kr ko ⟨xo,xb,xao,xl,xc,xnm,xko,xkl,xkc⟩ HX.out 18 false none 0 0 ⟨#[]⟩ 0 ts v us j 1 (by decide) (by omega) HT.out (by rw[HT.out.len,HJ.out.1];omega)).mono ?_;rintro e X1 ⟨⟨q0,rfl⟩,t0,v0,us0,hs,ht⟩;have HN:Hid ((ts++[t0]).length=j+1/\∀ t ∈ ts++[t0],srt t.op=1):=Lib.hid ⟨by simp[HJ.out.1],fun t h=>(List.mem_append.1 h).elim (fun h=>HJ.out.2 t h) (fun h=>by rw[List.mem_singleton] at h;subst h;exact hs)⟩;replace HT:=Lib.hid ht;clear hs ht HJ;go_wp2_with fail;go_roundw
    case rel=>exact⟨j+1,_,_,_,by go_num,hlt,HN,HT⟩
    case measure=>simp[intOf];omega
   obtain⟨vo,vc,hv,-⟩:=HT.out.row.form;subst hv;obtain⟨N,hN⟩:∃ N,N=us.length:=⟨_,rfl⟩;rw[<-hN] at HT;clear hN;have HBo:=Lib.hid HT.out.ho;have HBr:=Lib.hid HT.out.hr;obtain⟨⟨o0,o1,o2,o3,o4⟩,fo0,fo1,fo2,fo3,fo4⟩:=cells5V HBo.out;obtain⟨⟨r0,r1,r2,r3,r4⟩,fr0,fr1,fr2,fr3,fr4⟩:=cells5V HBr.out;go_wp2_with fail;clear o0 fo0 o1 fo1 o2 fo2 o3 fo3 o4 fo4;have hg:=grown5V (w:=wr) (k:=kr) (.int .i64 18) (.bool false) (.slice none 0 0) (.string ⟨#[]⟩) (.slice vo N vc);have hf:Fr 29 wr _:=.of_grown hg (fun j hj=>by injection hj with hj;subst hj;exact⟨_,HBr.out,n32_F⟩);obtain⟨h1,h2,h3,h4⟩:=HT.out.fin hg hf (by unfold IR;decide) HB0.out HKR.out (by unfold NmOk;simp) (small4 (by decide)) (fun _ _ _=>rfl) (by rw[HJ.out.1];omega) (fit_all (by decide) HJ.out.2)
   (try simp only[Exit.inBlock,Exit.then]);exact bodyPost_ret (v:=.agg #[.int .i64 18,.bool false,.slice none 0 0,.string ⟨#[]⟩,.slice vo N vc]) (by simp[results,Tryz.results13,go_sem,r0,r1,r2,r3,r4]) rfl ⟨_,_,rfl,h1,h2,rfl,h3,h4⟩
 ·have hop2:op=19:=HOP.out;subst hop2;clear HOP;have HSZP:Hid (W1.heap.size<=W1.heap.size):=Lib.hid (Nat.le_refl _);have HT:Hid (TSt w W1.heap.size kf kd kr ko ⟨xo,xb,xao,xl,xc,xnm,xko,xkl,xkc⟩ ((d:Nat)+1) 19 false none 0 0 (⟨#[]⟩) (0) d [] (.slice none 0 0) [] W1):=Lib.hid (TSt.zero HBo.out HBf.out HBd.out HBr.out (nr0 _) HLOW.out HDIS.out HKO.out HW.out HSZP.out);clear HBm;obtain⟨M,hM⟩:∃ M,M=min xkl 3:=⟨_,rfl⟩;have hmin3:min (xkl:Int) 3=(M:Int):=by omega
  have hM3:M<=3:=by omega
  clear hM;obtain⟨⟨o0,o1,o2,o3,o4⟩,fo0,fo1,fo2,fo3,fo4⟩:=cells5V HBo.out;obtain⟨⟨f0,f1,f2,f3,f4⟩,ff0,ff1,ff2,ff3,ff4⟩:=cells5V HBf.out;go_upto_region 51 with fail;clear o0 fo0 o1 fo1 o2 fo2 o3 fo3 o4 fo4 f0 ff0 f1 ff1 f2 ff2 f3 ff3 f4 ff4;rw[show (((8:Nat):Int))=(8:Int) from rfl];go_loopw [154] (fun i wr=>∃ (j:Nat) (ts:List F) (v:Value) (us:List FU),i=.int .i64 (j:Nat)/\j<=M/\Hid (ts.length=j/\∀ t ∈ ts,srt t.op=1)/\Hid (TSt w W1.heap.size kf kd kr ko ⟨xo,xb,xao,xl,xc,xnm,xko,xkl,xkc⟩ ((d:Nat)+1) 19 false none 0 0 ⟨#[]⟩ 0 d ts v us wr)) (fun i _=>M - (intOf i).toNat)
  case atStart=>exact⟨0,[],_,[],rfl,Nat.zero_le _,Lib.hid ⟨rfl,fun t ht=>by cases ht⟩,HT⟩
  case round =>
   clear HT HBf HBd HBr HBo HC HW HSZP;obtain⟨j,ts,v,us,rfl,hj,HJ,HT⟩:=hrel;by_cases hlt:j<M
   ·have hj3:j<=3:=by omega
    go_wp2_with fail;refine (kid_p d HD.out HIT.out w wr W1.heap.size kf kd kr ko ⟨xo,xb,xao,xl,xc,xnm,xko,xkl,xkc⟩ HX.out 19 false none 0 0 ⟨#[]⟩ 0 ts v us j 1 (by decide) (by omega) HT.out (by rw[HT.out.len,HJ.out.1];omega)).mono ?_;rintro e X1 ⟨⟨q0,rfl⟩,t0,v0,us0,hs,ht⟩;have HN:Hid ((ts++[t0]).length=j+1/\∀ t ∈ ts++[t0],srt t.op=1):=Lib.hid ⟨by simp[HJ.out.1],fun t h=>(List.mem_append.1 h).elim (fun h=>HJ.out.2 t h) (fun h=>by rw[List.mem_singleton] at h;subst h;exact hs)⟩;replace HT:=Lib.hid ht;clear hs ht HJ;go_wp2_with fail;go_roundw
    case rel=>exact⟨j+1,_,_,_,by go_num,hlt,HN,HT⟩
    case measure=>simp[intOf];omega
   obtain⟨vo,vc,hv,-⟩:=HT.out.row.form;subst hv;obtain⟨N,hN⟩:∃ N,N=us.length:=⟨_,rfl⟩;rw[<-hN] at HT;clear hN;have HBo:=Lib.hid HT.out.ho;have HBr:=Lib.hid HT.out.hr;obtain⟨⟨o0,o1,o2,o3,o4⟩,fo0,fo1,fo2,fo3,fo4⟩:=cells5V HBo.out;obtain⟨⟨r0,r1,r2,r3,r4⟩,fr0,fr1,fr2,fr3,fr4⟩:=cells5V HBr.out;go_wp2_with fail;clear o0 fo0 o1 fo1 o2 fo2 o3 fo3 o4 fo4;have hg:=grown5V (w:=wr) (k:=kr) (.int .i64 19) (.bool false) (.slice none 0 0) (.string ⟨#[]⟩) (.slice vo N vc);have hf:Fr 29 wr _:=.of_grown hg (fun j hj=>by injection hj with hj;subst hj;exact⟨_,HBr.out,n32_F⟩);obtain⟨h1,h2,h3,h4⟩:=HT.out.fin hg hf (by unfold IR;decide) HB0.out HKR.out (by unfold NmOk;simp) (small4 (by decide)) (fun _ _ _=>rfl) (by rw[HJ.out.1];omega) (fit_all (by decide) HJ.out.2)
   (try simp only[Exit.inBlock,Exit.then]);exact bodyPost_ret (v:=.agg #[.int .i64 19,.bool false,.slice none 0 0,.string ⟨#[]⟩,.slice vo N vc]) (by simp[results,Tryz.results13,go_sem,r0,r1,r2,r3,r4]) rfl ⟨_,_,rfl,h1,h2,rfl,h3,h4⟩
 have hop2:op=20:=HOP.out;subst hop2;clear HOP;have HSZP:Hid (W1.heap.size<=W1.heap.size):=Lib.hid (Nat.le_refl _);have HT:Hid (TSt w W1.heap.size kf kd kr ko ⟨xo,xb,xao,xl,xc,xnm,xko,xkl,xkc⟩ ((d:Nat)+1) 20 false none 0 0 (⟨#[]⟩) (0) d [] (.slice none 0 0) [] W1):=Lib.hid (TSt.zero HBo.out HBf.out HBd.out HBr.out (nr0 _) HLOW.out HDIS.out HKO.out HW.out HSZP.out);clear HBm;have HKB:Hid (W1.heap.size<=W1.heap.size):=Lib.hid (Nat.le_refl _);obtain⟨⟨o0,o1,o2,o3,o4⟩,fo0,fo1,fo2,fo3,fo4⟩:=cells5V HBo.out;go_wp2_with fail;clear o0 fo0 o1 fo1 o2 fo2 o3 fo3 o4 fo4;refine (kid_p d HD.out HIT.out w W1 W1.heap.size kf kd kr ko ⟨xo,xb,xao,xl,xc,xnm,xko,xkl,xkc⟩ HX.out 20 false none 0 0 ⟨#[]⟩ (0) [] _ [] 0 1 (by decide) (by decide) HT.out (by rw[HT.out.len];simp)).mono ?_
 rintro e X1 ⟨⟨q0,rfl⟩,t0,v0,us0,hs,ht⟩;replace HT:=Lib.hid ht;have HS0:=Lib.hid hs;clear hs ht;go_wp2_with fail;refine (kid_p d HD.out HIT.out w X1 W1.heap.size kf kd kr ko ⟨xo,xb,xao,xl,xc,xnm,xko,xkl,xkc⟩ HX.out 20 false none 0 0 ⟨#[]⟩ (0) ([]++[t0]) _ us0 1 1 (by decide) (by decide) HT.out (by rw[HT.out.len];simp)).mono ?_;rintro e X2 ⟨⟨q1,rfl⟩,t1,v1,us1,hs,ht⟩;replace HT:=Lib.hid ht;have HS1:=Lib.hid hs;clear hs ht;obtain⟨vo,vc,hv,-⟩:=HT.out.row.form;subst hv;obtain⟨N,hN⟩:∃ N,N=us1.length:=⟨_,rfl⟩;rw[<-hN] at HT;clear hN;replace HBo:=Lib.hid HT.out.ho;replace HBr:=Lib.hid HT.out.hr;obtain⟨⟨o0,o1,o2,o3,o4⟩,fo0,fo1,fo2,fo3,fo4⟩:=cells5V HBo.out;obtain⟨⟨r0,r1,r2,r3,r4⟩,fr0,fr1,fr2,fr3,fr4⟩:=cells5V HBr.out;go_wp2_with fail
 clear o0 fo0 o1 fo1 o2 fo2 o3 fo3 o4 fo4;have hg:=grown5V (w:=X2) (k:=kr) (.int .i64 20) (.bool false) (.slice none 0 0) (.string ⟨#[]⟩) (.slice vo N vc);have hf:Fr 29 X2 _:=.of_grown hg (fun j hj=>by injection hj with hj;subst hj;exact⟨_,HBr.out,n32_F⟩);obtain⟨h1,h2,h3,h4⟩:=HT.out.fin hg hf (by unfold IR;decide) HB0.out HKR.out (by unfold NmOk;simp) (small4 (by decide)) (fun _ _ _=>rfl) (by simp) (by simp[fitF,kidsOk,srts,HS0.out,HS1.out]);(try simp only[Exit.inBlock,Exit.then]);exact bodyPost_ret (v:=.agg #[.int .i64 20,.bool false,.slice none 0 0,.string ⟨#[]⟩,.slice vo N vc]) (by simp[results,Tryz.results13,go_sem,r0,r1,r2,r3,r4]) rfl ⟨_,_,rfl,h1,h2,rfl,h3,h4⟩
def opAttame_2s (j:Nat):Int:=[(8:Int),(9:Int),(10:Int),(11:Int)].getD j 0
theorem tame_2s (d:Nat) (hd0:1<=d) (hd:d<=100) (IT:TameC d) (xo:Int) (xb:Bool) (xao:Option Addr) (xl xc:Nat) (xnm:ByteArray) (xko:Option Addr) (xkl xkc:Nat) (w:World) (hx:RawF w (d+1) ⟨xo,xb,xao,xl,xc,xnm,xko,xkl,xkc⟩) :
  Calls Tryz.prog 13 #[.agg #[.int .i64 xo,.bool xb,.slice xao xl xc,.string xnm,.slice xko xkl xkc],.int .i64 2,.int .i64 ((d:Nat)+1:Int)] w (TamePost (d+1) 2 w):=by
 have HX:=Lib.hid hx;have HIT:=Lib.hid IT;have HD:=Lib.hid hd;have hdle:decide (((d:Nat)+1:Int)<=1)=false:=by simp;omega
 clear IT hd0 hd;obtain⟨-,hn,-,⟨hk1,hk2⟩,-⟩:=hx;simp only at hn hk1 hk2;have hxm:xkc<=9223372036854775807:=hk2;obtain⟨m,hm⟩:∃ m,m=min xl 2:=⟨_,rfl⟩;have hmin:min (xl:Int) 2=(m:Int):=by omega
 have hm2:m<=2:=by omega
 have hml:m<=xl:=by omega
 have hx2:∃ q,GN w (.slice xao m xc) q 2/\xl<=xc/\xc<=9223372036854775807:=by
  obtain⟨xs,hs,hdg⟩:=hn;have hl:=sl_len hs;obtain⟨_,_,e,h1,h2,_⟩:=id hs;injection e with e1 e2 e3;subst e3;exact⟨_,⟨xs.take m,hs.take m (by omega),hdg.take m,rfl,by rw[List.length_take];omega⟩,by omega,h2⟩
 obtain⟨q,hq,hlc,hc⟩:=hx2;have hmc:m<=xc:=by omega
 have HG:=Lib.hid hq;clear hq hn hm hk2;obtain⟨K,hK,hK2⟩:=and_255 xo;obtain⟨j,hj⟩:∃ j,j=K % 4:=⟨_,rfl⟩;have hjm:((K:Nat):Int).tmod 4=((j:Nat):Int):=by rw[hj];exact (Int.ofNat_tmod K 4).symm
 have hjN:j<4:=by rw[hj];exact Nat.mod_lt _ (by decide)
 clear hj hK2;have HW:=Lib.hid (Below.refl w.heap.size w);go_enter Tryz.func13,Tryz.ntmps13;obtain⟨x1,kf,ef,ekf,hbf,hkf,HBf⟩:=newV w #[.int .i64 xo,.bool xb,.slice xao xl xc,.string xnm,.slice xko xkl xkc] 29;replace HW:=Lib.hid (HW.out.trans (hbf.out.mono HW.out.size));replace HG:=Lib.hid (HG.out.below hbf.out);obtain⟨x2,kd,ed,ekd,hbd,hkd,HBd⟩:=newV x1 #[.int .i64 ((d:Nat)+1:Int)] 3;replace HBf:=kBV hbd.out HBf;replace HW:=Lib.hid (HW.out.trans (hbd.out.mono HW.out.size));replace HG:=Lib.hid (HG.out.below hbd.out);obtain⟨x3,kr,er,ekr,hbr,hkr,HBr⟩:=newV x2 #[.int .i64 0,.bool false,.slice none 0 0,.string ⟨#[]⟩,.slice none 0 0] 29;replace HBf:=kBV hbr.out HBf;replace HBd:=kBV hbr.out HBd;replace HW:=Lib.hid (HW.out.trans (hbr.out.mono HW.out.size));replace HG:=Lib.hid (HG.out.below hbr.out)
 have HKR:Hid (w.heap.size<=kr):=Lib.hid (by have h1:=hbf.out.size;have h2:=hbd.out.size;have h3:=hkr.out;omega);obtain⟨x4,kp,ep,ekp,hbp,hkp,HBp⟩:=newV x3 #[.int .i64 1,.int .i64 0,.int .i64 2,.int .i64 3,.int .i64 4,.int .i64 5,.int .i64 6,.int .i64 7] 22;replace HBf:=kBV hbp.out HBf;replace HBd:=kBV hbp.out HBd;replace HBr:=kBV hbp.out HBr;replace HW:=Lib.hid (HW.out.trans (hbp.out.mono HW.out.size));replace HG:=Lib.hid (HG.out.below hbp.out);obtain⟨x5,kq,eq,ekq,hbq,hkq,HBq⟩:=newV x4 #[.int .i64 14,.int .i64 12,.int .i64 13,.int .i64 15,.int .i64 16,.int .i64 16,.int .i64 17,.int .i64 18,.int .i64 19,.int .i64 20] 22;replace HBf:=kBV hbq.out HBf;replace HBd:=kBV hbq.out HBd;replace HBr:=kBV hbq.out HBr;replace HW:=Lib.hid (HW.out.trans (hbq.out.mono HW.out.size))
 replace HG:=Lib.hid (HG.out.below hbq.out);obtain⟨x6,kt,et,ekt,hbt,hkt,HBt⟩:=newV x5 #[.int .i64 8,.int .i64 9,.int .i64 10,.int .i64 11] 22;replace HBf:=kBV hbt.out HBf;replace HBd:=kBV hbt.out HBd;replace HBr:=kBV hbt.out HBr;replace HW:=Lib.hid (HW.out.trans (hbt.out.mono HW.out.size));replace HG:=Lib.hid (HG.out.below hbt.out);have hidx:=idx3_2 (some ⟨kp,0,none⟩) (some ⟨kq,0,none⟩) (some ⟨kt,0,none⟩) 8 10 4 8 10 4;obtain⟨⟨f0,f1,f2,f3,f4⟩,ff0,ff1,ff2,ff3,ff4⟩:=cells5V HBf.out;have d0:=cell_at (v:=.int .i64 ((d:Nat)+1:Int)) HBd.out 0 rfl;have fd0:=froz_at HBd.out 0;have hop:x6.cell? ⟨kt,j,none⟩=some (.int .i64 (opAttame_2s j)):=by
  have:j=0\/j=1\/j=2\/j=3:=by omega
  rcases this with rfl | rfl | rfl | rfl<;>exact cell_at HBt.out _ rfl
 obtain⟨op,hopd⟩:∃ op,op=opAttame_2s j:=⟨_,rfl⟩;rw[<-hopd] at hop;have HOP:=Lib.hid hopd;clear hopd;go_upto_region 7 with fail;clear f0 ff0 f1 ff1 f2 ff2 f3 ff3 f4 ff4 d0 fd0 hop;clear hidx hjm hK;have HWp:=HW;have HBfp:=HBf;have HBdp:=HBd;have HBrp:=HBr;obtain⟨x7,ko,eo,eko,hbo,hko,HBo⟩:=newV x6 #[.int .i64 op,.bool false,.slice none 0 0,.string ⟨#[]⟩,.slice none 0 0] 29;replace HBf:=kBV hbo.out HBf;replace HBd:=kBV hbo.out HBd;replace HBr:=kBV hbo.out HBr;replace HW:=Lib.hid (HW.out.trans (hbo.out.mono HW.out.size));replace HG:=Lib.hid (HG.out.below hbo.out);rw[eo,eko];have HKO:Hid (w.heap.size<=ko):=Lib.hid (by have:=HWp.out.size;have:=hko.out;omega);go_upto_region 8 with fail;have HY:=Lib.hid (Below.refl x7.heap.size x7);have HBf0:=HBf;have HBd0:=HBd;have HBr0:=HBr;have HBo0:=HBo
 have hlt_f:=lt_of_block HBf.out;have hog:Hid (∀ q,q<0->(fun q=>0) q<x7.heap.size):=Lib.hid (fun q h=>absurd h (Nat.not_lt_zero _));refine R7.region (by kernel_rfl) [[],[0],[0,1],[],[3],[3,4],[],[6],[6,7],[6,7,8],[6,7,8,9],[3,4,5,6,7,8,9,10],[0,1,2,3,4,5,6,7,8,9,10,11],[],[0,1,2,3,4,5,6,7,8,9,10,11,12,13]] [] [] (fun q=>0) 0 14 (by kernel_rfl) (by kernel_rfl) (by rfl) hog.out (fun q q' h h' hn=>absurd hn (by omega)) ?_;refine R7.Chain.det ?_ (by rfl) (fun T xs wr hA=>?_) ?_;rotate_left 1
 ·have e3:=hA.pre 3 (by kernel_rfl);simp only[gsa,gsc,gsz] at e3;clear hA;refine⟨(by rfl),?_⟩;go_simp<;>(try with_reducible rfl)
 refine R7.Chain.det ?_ (by rfl) (fun T xs wr hA=>?_) ?_;rotate_left 1
 ·have e36:=hA.tm 0 36 (by rfl) (by rfl);have f36:xs 0=_:=hA.fa 0 (by rfl);(try simp (disch:=first | rfl | decide) only [R7.mask_in] at f36);rw[f36] at e36;clear f36;clear hA;refine⟨(by rfl),?_⟩;go_simp<;>(try with_reducible rfl)
 refine R7.Chain.det ?_ (by rfl) (fun T xs wr hA=>?_) ?_;rotate_left 1
 ·have e37:=hA.tm 1 37 (by rfl) (by rfl);have f37:xs 1=_:=hA.fa 1 (by rfl);(try simp (disch:=first | rfl | decide) only [R7.mask_in] at f37);rw[f37] at e37;clear f37;have hBq:wr.heap[kf]?=_:=(hA.bl _ hlt_f (fun q h=>absurd h (Nat.not_lt_zero _))).trans HBf.out;have q0:=cell_at (v:=.int .i64 xo) hBq 0 rfl;have q1:=cell_at (v:=.bool xb) hBq 1 rfl;have q2:=cell_at (v:=.slice xao xl xc) hBq 2 rfl;have q3:=cell_at (v:=.string xnm) hBq 3 rfl;have q4:=cell_at (v:=.slice xko xkl xkc) hBq 4 rfl;clear hBq;clear hA;refine⟨(by rfl),?_⟩;go_simp<;>(try with_reducible rfl)
 refine R7.Chain.det ?_ (by rfl) (fun T xs wr hA=>?_) ?_;rotate_left 1
 ·have e3:=hA.pre 3 (by kernel_rfl);simp only[gsa,gsc,gsz] at e3;clear hA;refine⟨(by rfl),?_⟩;go_simp<;>(try with_reducible rfl)
 refine R7.Chain.det ?_ (by rfl) (fun T xs wr hA=>?_) ?_;rotate_left 1
 ·have e39:=hA.tm 3 39 (by rfl) (by rfl);have f39:xs 3=_:=hA.fa 3 (by rfl);(try simp (disch:=first | rfl | decide) only [R7.mask_in] at f39);rw[f39] at e39;clear f39;clear hA;refine⟨(by rfl),?_⟩;go_simp<;>(try with_reducible rfl)
 refine R7.Chain.det ?_ (by rfl) (fun T xs wr hA=>?_) ?_;rotate_left 1
 ·have e40:=hA.tm 4 40 (by rfl) (by rfl);have f40:xs 4=_:=hA.fa 4 (by rfl);(try simp (disch:=first | rfl | decide) only [R7.mask_in] at f40);rw[f40] at e40;clear f40;have hBq:wr.heap[kf]?=_:=(hA.bl _ hlt_f (fun q h=>absurd h (Nat.not_lt_zero _))).trans HBf.out;have q0:=cell_at (v:=.int .i64 xo) hBq 0 rfl;have q1:=cell_at (v:=.bool xb) hBq 1 rfl;have q2:=cell_at (v:=.slice xao xl xc) hBq 2 rfl;have q3:=cell_at (v:=.string xnm) hBq 3 rfl;have q4:=cell_at (v:=.slice xko xkl xkc) hBq 4 rfl;clear hBq;clear hA;refine⟨(by rfl),?_⟩;go_simp<;>(try with_reducible rfl)
 refine R7.Chain.det ?_ (by rfl) (fun T xs wr hA=>?_) ?_;rotate_left 1
 ·have e3:=hA.pre 3 (by kernel_rfl);simp only[gsa,gsc,gsz] at e3;clear hA;refine⟨(by rfl),?_⟩;go_simp<;>(try with_reducible rfl)
 refine R7.Chain.det ?_ (by rfl) (fun T xs wr hA=>?_) ?_;rotate_left 1
 ·have e42:=hA.tm 6 42 (by rfl) (by rfl);have f42:xs 6=_:=hA.fa 6 (by rfl);(try simp (disch:=first | rfl | decide) only [R7.mask_in] at f42);rw[f42] at e42;clear f42;clear hA;refine⟨(by rfl),?_⟩;go_simp<;>(try with_reducible rfl)
 refine R7.Chain.det ?_ (by rfl) (fun T xs wr hA=>?_) ?_;rotate_left 1
 ·have e43:=hA.tm 7 43 (by rfl) (by rfl);have f43:xs 7=_:=hA.fa 7 (by rfl);(try simp (disch:=first | rfl | decide) only [R7.mask_in] at f43);rw[f43] at e43;clear f43;have hBq:wr.heap[kf]?=_:=(hA.bl _ hlt_f (fun q h=>absurd h (Nat.not_lt_zero _))).trans HBf.out;have q0:=cell_at (v:=.int .i64 xo) hBq 0 rfl;have q1:=cell_at (v:=.bool xb) hBq 1 rfl;have q2:=cell_at (v:=.slice xao xl xc) hBq 2 rfl;have q3:=cell_at (v:=.string xnm) hBq 3 rfl;have q4:=cell_at (v:=.slice xko xkl xkc) hBq 4 rfl;clear hBq;clear hA;refine⟨(by rfl),?_⟩;go_simp<;>(try with_reducible rfl)
 refine R7.Chain.det ?_ (by rfl) (fun T xs wr hA=>?_) ?_;rotate_left 1
 ·have e44:=hA.tm 8 44 (by rfl) (by rfl);have f44:xs 8=_:=hA.fa 8 (by rfl);(try simp (disch:=first | rfl | decide) only [R7.mask_in] at f44);rw[f44] at e44;clear f44;clear hA;refine⟨(by rfl),?_⟩;go_simp<;>(try with_reducible rfl)
 refine R7.Chain.det ?_ (by rfl) (fun T xs wr hA=>?_) ?_;rotate_left 1
 ·have e45:=hA.tm 9 45 (by rfl) (by rfl);have f45:xs 9=_:=hA.fa 9 (by rfl);(try simp (disch:=first | rfl | decide) only [R7.mask_in] at f45);rw[f45] at e45;clear f45;clear hA;refine⟨(by rfl),?_⟩;go_simp<;>(try with_reducible rfl)
 refine R7.Chain.det ?_ (by rfl) (fun T xs wr hA=>?_) ?_;rotate_left 1
 ·have e41:=hA.tm 5 41 (by rfl) (by rfl);have f41:xs 5=_:=hA.fa 5 (by rfl);(try simp (disch:=first | rfl | decide) only [R7.mask_in] at f41);rw[f41] at e41;clear f41;have e46:=hA.tm 10 46 (by rfl) (by rfl);have f46:xs 10=_:=hA.fa 10 (by rfl);(try simp (disch:=first | rfl | decide) only [R7.mask_in] at f46);rw[f46] at e46;clear f46;clear hA;refine⟨(by rfl),?_⟩;go_simp<;>(try with_reducible rfl)
 refine R7.Chain.call (fun xs v w=>∃ z,CI w v z 2) (fun _ _ _ _ h hb=>by obtain⟨z,h2⟩:=h;exact⟨z,h2.below hb⟩) (fun _ _ _ _ _ _ h _=>by obtain⟨q,hq,_⟩:=h;exact absurd hq (Nat.not_lt_zero _)) (by rfl) (fun T xs wr hA=>?_) ?_
 ·have hsw:=(hA.be 0 (Nat.zero_le _) (fun _ _=>Nat.zero_le _)).size;have e38:=hA.tm 2 38 (by rfl) (by rfl);have f38:xs 2=_:=hA.fa 2 (by rfl);(try simp (disch:=first | rfl | decide) only [R7.mask_in] at f38);rw[f38] at e38;clear f38;have e47:=hA.tm 11 47 (by rfl) (by rfl);have f47:xs 11=_:=hA.fa 11 (by rfl);(try simp (disch:=first | rfl | decide) only [R7.mask_in] at f47);rw[f47] at e47;clear f47;have hbw:=undrew (hA.be x7.heap.size (Nat.le_refl _) (fun q h=>absurd h (Nat.not_lt_zero q)));clear hA;refine⟨(by rfl),fun K hK=>?_⟩;go_simp;refine (big_any xb _ q 2 wr (HG.out.below hbw) (by decide)).mono ?_;rintro e w' ⟨v,rfl,hc,hb'⟩;exact hK.out _ _ ⟨_,hc⟩ hb'
 refine R7.Chain.call (fun xs v w=>∃ g,v=.pointer (some ⟨g,0,none⟩)/\x7.heap.size<=g/\w.heap[g]?=some (.cells #[.bool false,.slice none 0 0] 26 (0,0))) (fun _ _ _ _ h hb=>by obtain⟨g,h1,h2,h3⟩:=h;exact⟨g,h1,h2,by rw[hb.block g (lt_of_block h3)];exact h3⟩) (fun _ _ _ _ _ _ h _=>by obtain⟨q,hq,_⟩:=h;exact absurd hq (Nat.not_lt_zero _)) (by rfl) (fun T xs wr hA=>?_) ?_
 ·have hsw:=(hA.be 0 (Nat.zero_le _) (fun _ _=>Nat.zero_le _)).size;have hbw:=undrew (hA.be x7.heap.size (Nat.le_refl _) (fun q h=>absurd h (Nat.not_lt_zero q)));clear hA;refine⟨(by rfl),fun K hK=>?_⟩;go_simp;exact hK.out _ _ ⟨_,rfl,hbw.size,made_at _ _ _ rfl⟩ ((Below.refl _ _).alloc (Nat.le_refl _) _)
 refine R7.Chain.done (fun xs x8 hL=>?_);obtain⟨⟨hbe,hbl⟩,hf,-,-⟩:=hL;have f0:xs 0=_:=hf 0 (by decide);(try simp (disch:=first | rfl | decide) only [R7.mask_in] at f0);have f1:xs 1=_:=hf 1 (by decide);(try simp (disch:=first | rfl | decide) only [R7.mask_in] at f1);have f2:xs 2=_:=hf 2 (by decide);(try simp (disch:=first | rfl | decide) only [R7.mask_in] at f2);have f3:xs 3=_:=hf 3 (by decide);(try simp (disch:=first | rfl | decide) only [R7.mask_in] at f3);have f4:xs 4=_:=hf 4 (by decide);(try simp (disch:=first | rfl | decide) only [R7.mask_in] at f4);have f5:xs 5=_:=hf 5 (by decide);(try simp (disch:=first | rfl | decide) only [R7.mask_in] at f5);have f6:xs 6=_:=hf 6 (by decide);(try simp (disch:=first | rfl | decide) only [R7.mask_in] at f6);have f7:xs 7=_:=hf 7 (by decide)
 (try simp (disch:=first | rfl | decide) only [R7.mask_in] at f7);have f8:xs 8=_:=hf 8 (by decide);(try simp (disch:=first | rfl | decide) only [R7.mask_in] at f8);have f9:xs 9=_:=hf 9 (by decide);(try simp (disch:=first | rfl | decide) only [R7.mask_in] at f9);have f10:xs 10=_:=hf 10 (by decide);(try simp (disch:=first | rfl | decide) only [R7.mask_in] at f10);have f11:xs 11=_:=hf 11 (by decide);(try simp (disch:=first | rfl | decide) only [R7.mask_in] at f11);have F12:∃ z,CI x8 (xs 12) z 2:=hf 12 (by decide);have F13:∃ g,(xs 13)=.pointer (some ⟨g,0,none⟩)/\x7.heap.size<=g/\x8.heap[g]?=some (.cells #[.bool false,.slice none 0 0] 26 (0,0)):=hf 13 (by decide);have hb0:Below 0 x7 x8:=undrew (hbe 0 (Nat.zero_le _) (fun _ _=>Nat.zero_le _))
 have hgr:∀ j,j<x7.heap.size->(∀ q,q<0->(fun q=>0) q≠j)->x8.heap[j]?=x7.heap[j]?:=hbl;clear hbe hbl hf;have hb:Below x7.heap.size x7 x8:=⟨hb0.os,hb0.tape,hb0.output,hb0.size,fun q hq=>hgr q hq (fun q h=>absurd h (Nat.not_lt_zero _))⟩;refine R7.rest_list (by decide) (by kernel_rfl) ?_;simp only[R7.fill,t1_,t2_,t3_,t4_,t5_,t6_,t7_,f0,f1,f2,f3,f4,f5,f6,f7,f8,f9,f10,f11];clear hb0 hgr hog hlt_f f0 f1 f2 f3 f4 f5 f6 f7 f8 f9 f10 f11;replace HBf:=kBV hb HBf;replace HBd:=kBV hb HBd;replace HBr:=kBV hb HBr;replace HBo:=kBV hb HBo;replace HW:=Lib.hid (HW.out.trans (hb.mono HW.out.size));replace HY:=Lib.hid (HY.out.trans (hb.mono HY.out.size));replace hb:=Lib.hid hb;obtain⟨z,hcz⟩:=F12;obtain⟨zb,zo,zl,zc,hzv⟩:=hcz.shape;obtain⟨km,hkm,hkm1,hkm2⟩:=F13;rw[hzv] at hcz;rw[hzv,hkm];have HBm:=Lib.hid hkm2
 clear hcz hzv hkm hkm2;obtain⟨m0,m1,fm0,fm1⟩:=cells2V HBm.out;go_upto_region 9 with fail;clear m0 fm0 m1 fm1;have hg1:=grown2V (w:=x8) (k:=km) (.bool zb) (.slice zo zl zc);have hb1:((x8.setCell ⟨km,0,none⟩ (.bool zb)).setCell ⟨km,1,none⟩ (.slice zo zl zc)).heap[km]?=_:=heap_setCell_same _ km 1 _ _ _ (heap_setCell_same _ km 0 _ _ _ HBm.out);obtain⟨W1,hW1⟩:∃ q,q=(x8.setCell ⟨km,0,none⟩ (.bool zb)).setCell ⟨km,1,none⟩ (.slice zo zl zc):=⟨_,rfl⟩;rw[<-hW1] at hg1 hb1 ⊢;have hf1:Fr 26 x8 W1:=.of_grown hg1 (fun j hj=>by injection hj with hj;subst hj;exact⟨_,HBm.out,n32_2⟩);have HKM:Hid (w.heap.size<=km):=Lib.hid (Nat.le_trans (by have:=HKO.out;have:=lt_of_block HBo0.out;omega) hkm1);replace HW:=Lib.hid (ext_below HW.out hg1 HKM.out);replace HY:=Lib.hid (ext_below HY.out hg1 hkm1)
 replace HBf:=Lib.hid ((HY.out.block _ (lt_of_block HBf0.out)).trans HBf0.out);replace HBd:=Lib.hid ((HY.out.block _ (lt_of_block HBd0.out)).trans HBd0.out);replace HBr:=Lib.hid ((HY.out.block _ (lt_of_block HBr0.out)).trans HBr0.out);replace HBo:=Lib.hid ((HY.out.block _ (lt_of_block HBo0.out)).trans HBo0.out);replace HBm:=Lib.hid hb1;clear hg1 hb1 hW1 hf1 hkm1;have HLOW:Hid (kf<W1.heap.size/\kd<W1.heap.size/\kr<W1.heap.size/\ko<W1.heap.size):=Lib.hid ⟨lt_of_block HBf.out,lt_of_block HBd.out,lt_of_block HBr.out,lt_of_block HBo.out⟩;have HDIS:Hid (kf≠ko/\kd≠ko/\kr≠ko):=Lib.hid (by have h1:=lt_of_block HBfp.out;have h2:=lt_of_block HBdp.out;have h3:=lt_of_block HBrp.out;rw[eko] at h1 h2 h3;omega);have HB0:Hid (w.heap.size<=W1.heap.size):=Lib.hid HW.out.size;have hjc:j=0\/j=1\/j=2\/j=3:=by omega
 rcases hjc with rfl | rfl | rfl | rfl
 ·have hop2:op=8:=HOP.out;subst hop2;clear HOP;have HSZP:Hid (W1.heap.size<=W1.heap.size):=Lib.hid (Nat.le_refl _);rcases (tmod_cases xnm.size).2 with hr | hr
  ·obtain⟨⟨o0,o1,o2,o3,o4⟩,fo0,fo1,fo2,fo3,fo4⟩:=cells5V HBo.out;obtain⟨m0,m1,fm0,fm1⟩:=cells2V HBm.out;obtain⟨⟨f0,f1,f2,f3,f4⟩,ff0,ff1,ff2,ff3,ff4⟩:=cells5V HBf.out;have hcv:=one_byteL 48 48 (by decide) W1;obtain⟨x9,ky,ey,eky,hby,hky,HBy⟩:=newV W1 #[.int .u8 48] 5;replace HBf:=kBV hby.out HBf;replace HBd:=kBV hby.out HBd;replace HBr:=kBV hby.out HBr;replace HBo:=kBV hby.out HBo;replace HW:=Lib.hid (HW.out.trans (hby.out.mono HW.out.size));rw[ey,eky] at hcv;obtain⟨⟨p0,p1,p2,p3,p4⟩,fp0,fp1,fp2,fp3,fp4⟩:=cells5V HBo.out;replace HSZP:=Lib.hid (Nat.le_trans HSZP.out hby.out.size);go_upto_region 21 with fail;clear o0 fo0 o1 fo1 o2 fo2 o3 fo3 o4 fo4 m0 fm0 m1 fm1 f0 ff0 f1 ff1 f2 ff2 f3 ff3 f4 ff4 p0 fp0 p1 fp1 p2 fp2 p3 fp3 p4 fp4;try clear hcv
   try clear hr
   rw[show ((⟨#[108]⟩:ByteArray)++⟨#[48]⟩)=⟨#[108,48]⟩ from rfl];have hgo:x9.grownBy (x9.setCell ⟨ko,3,none⟩ (.string ⟨#[108,48]⟩)) (some ko):=by refine grown_setCell ?_ _;exact World.grownBy.refl _ _
   have hbo:(x9.setCell ⟨ko,3,none⟩ (.string ⟨#[108,48]⟩)).heap[ko]?=_:=(heap_setCell_same _ ko 3 _ _ (.string ⟨#[108,48]⟩) HBo.out);obtain⟨W2,hW2⟩:∃ q,q=x9.setCell ⟨ko,3,none⟩ (.string ⟨#[108,48]⟩):=⟨_,rfl⟩;rw[<-hW2] at hgo hbo ⊢;have hfo:Fr 29 x9 W2:=.of_grown hgo (fun j hj=>by injection hj with hj;subst hj;exact⟨_,HBo.out,n32_F⟩);replace HW:=Lib.hid (ext_below HW.out hgo HKO.out);replace HBf:=Lib.hid ((hgo.block _ (lt_of_block HBf.out) (fun e=>by injection e with e;exact HDIS.out.1 e)).trans HBf.out);replace HBd:=Lib.hid ((hgo.block _ (lt_of_block HBd.out) (fun e=>by injection e with e;exact HDIS.out.2.1 e)).trans HBd.out);replace HBr:=Lib.hid ((hgo.block _ (lt_of_block HBr.out) (fun e=>by injection e with e;exact HDIS.out.2.2 e)).trans HBr.out)
   have HSZW:Hid (W1.heap.size<=W2.heap.size):=Lib.hid (Nat.le_trans HSZP.out hgo.size);replace HBo:=Lib.hid hbo;clear hgo hbo hW2 hfo HSZP;have HSZP:=HSZW;clear HSZW;have HT:Hid (TSt w W1.heap.size kf kd kr ko ⟨xo,xb,xao,xl,xc,xnm,xko,xkl,xkc⟩ ((d:Nat)+1) 8 false none 0 0 (⟨#[108,48]⟩) (0) d [] (.slice none 0 0) [] W2):=Lib.hid (TSt.zero HBo.out HBf.out HBd.out HBr.out (nr0 _) HLOW.out HDIS.out HKO.out HW.out HSZP.out);obtain⟨⟨o0,o1,o2,o3,o4⟩,fo0,fo1,fo2,fo3,fo4⟩:=cells5V HBo.out;obtain⟨⟨r0,r1,r2,r3,r4⟩,fr0,fr1,fr2,fr3,fr4⟩:=cells5V HBr.out;go_wp2_with fail;clear o0 fo0 o1 fo1 o2 fo2 o3 fo3 o4 fo4;have hg:=grown5V (w:=W2) (k:=kr) (.int .i64 8) (.bool false) (.slice none 0 0) (.string ⟨#[108,48]⟩) (.slice none 0 0)
   have hf:Fr 29 W2 _:=.of_grown hg (fun j hj=>by injection hj with hj;subst hj;exact⟨_,HBr.out,n32_F⟩);obtain⟨h1,h2,h3,h4⟩:=HT.out.fin hg hf (by unfold IR;decide) HB0.out HKR.out (by unfold NmOk;simp) (small4 (by decide)) (fun _ _ _=>rfl) (by simp) (rfl);(try simp only[Exit.inBlock,Exit.then]);exact bodyPost_ret (v:=.agg #[.int .i64 8,.bool false,.slice none 0 0,.string ⟨#[108,48]⟩,.slice none 0 0]) (by simp[results,Tryz.results13,go_sem,r0,r1,r2,r3,r4]) rfl ⟨_,_,rfl,h1,h2,rfl,h3,h4⟩
  obtain⟨⟨o0,o1,o2,o3,o4⟩,fo0,fo1,fo2,fo3,fo4⟩:=cells5V HBo.out;obtain⟨m0,m1,fm0,fm1⟩:=cells2V HBm.out;obtain⟨⟨f0,f1,f2,f3,f4⟩,ff0,ff1,ff2,ff3,ff4⟩:=cells5V HBf.out;have hcv:=one_byteL 49 49 (by decide) W1;obtain⟨x9,ky,ey,eky,hby,hky,HBy⟩:=newV W1 #[.int .u8 49] 5;replace HBf:=kBV hby.out HBf;replace HBd:=kBV hby.out HBd;replace HBr:=kBV hby.out HBr;replace HBo:=kBV hby.out HBo;replace HW:=Lib.hid (HW.out.trans (hby.out.mono HW.out.size));rw[ey,eky] at hcv;obtain⟨⟨p0,p1,p2,p3,p4⟩,fp0,fp1,fp2,fp3,fp4⟩:=cells5V HBo.out;replace HSZP:=Lib.hid (Nat.le_trans HSZP.out hby.out.size);go_upto_region 21 with fail;clear o0 fo0 o1 fo1 o2 fo2 o3 fo3 o4 fo4 m0 fm0 m1 fm1 f0 ff0 f1 ff1 f2 ff2 f3 ff3 f4 ff4 p0 fp0 p1 fp1 p2 fp2 p3 fp3 p4 fp4;try clear hcv
  try clear hr
  rw[show ((⟨#[108]⟩:ByteArray)++⟨#[49]⟩)=⟨#[108,49]⟩ from rfl];have hgo:x9.grownBy (x9.setCell ⟨ko,3,none⟩ (.string ⟨#[108,49]⟩)) (some ko):=by refine grown_setCell ?_ _;exact World.grownBy.refl _ _
  have hbo:(x9.setCell ⟨ko,3,none⟩ (.string ⟨#[108,49]⟩)).heap[ko]?=_:=(heap_setCell_same _ ko 3 _ _ (.string ⟨#[108,49]⟩) HBo.out);obtain⟨W2,hW2⟩:∃ q,q=x9.setCell ⟨ko,3,none⟩ (.string ⟨#[108,49]⟩):=⟨_,rfl⟩;rw[<-hW2] at hgo hbo ⊢;have hfo:Fr 29 x9 W2:=.of_grown hgo (fun j hj=>by injection hj with hj;subst hj;exact⟨_,HBo.out,n32_F⟩);replace HW:=Lib.hid (ext_below HW.out hgo HKO.out);replace HBf:=Lib.hid ((hgo.block _ (lt_of_block HBf.out) (fun e=>by injection e with e;exact HDIS.out.1 e)).trans HBf.out);replace HBd:=Lib.hid ((hgo.block _ (lt_of_block HBd.out) (fun e=>by injection e with e;exact HDIS.out.2.1 e)).trans HBd.out);replace HBr:=Lib.hid ((hgo.block _ (lt_of_block HBr.out) (fun e=>by injection e with e;exact HDIS.out.2.2 e)).trans HBr.out)
  have HSZW:Hid (W1.heap.size<=W2.heap.size):=Lib.hid (Nat.le_trans HSZP.out hgo.size);replace HBo:=Lib.hid hbo;clear hgo hbo hW2 hfo HSZP;have HSZP:=HSZW;clear HSZW;have HT:Hid (TSt w W1.heap.size kf kd kr ko ⟨xo,xb,xao,xl,xc,xnm,xko,xkl,xkc⟩ ((d:Nat)+1) 8 false none 0 0 (⟨#[108,49]⟩) (0) d [] (.slice none 0 0) [] W2):=Lib.hid (TSt.zero HBo.out HBf.out HBd.out HBr.out (nr0 _) HLOW.out HDIS.out HKO.out HW.out HSZP.out);obtain⟨⟨o0,o1,o2,o3,o4⟩,fo0,fo1,fo2,fo3,fo4⟩:=cells5V HBo.out;obtain⟨⟨r0,r1,r2,r3,r4⟩,fr0,fr1,fr2,fr3,fr4⟩:=cells5V HBr.out;go_wp2_with fail;clear o0 fo0 o1 fo1 o2 fo2 o3 fo3 o4 fo4;have hg:=grown5V (w:=W2) (k:=kr) (.int .i64 8) (.bool false) (.slice none 0 0) (.string ⟨#[108,49]⟩) (.slice none 0 0)
  have hf:Fr 29 W2 _:=.of_grown hg (fun j hj=>by injection hj with hj;subst hj;exact⟨_,HBr.out,n32_F⟩);obtain⟨h1,h2,h3,h4⟩:=HT.out.fin hg hf (by unfold IR;decide) HB0.out HKR.out (by unfold NmOk;simp) (small4 (by decide)) (fun _ _ _=>rfl) (by simp) (rfl);(try simp only[Exit.inBlock,Exit.then]);exact bodyPost_ret (v:=.agg #[.int .i64 8,.bool false,.slice none 0 0,.string ⟨#[108,49]⟩,.slice none 0 0]) (by simp[results,Tryz.results13,go_sem,r0,r1,r2,r3,r4]) rfl ⟨_,_,rfl,h1,h2,rfl,h3,h4⟩
 ·have hop2:op=9:=HOP.out;subst hop2;clear HOP;have HSZP:Hid (W1.heap.size<=W1.heap.size):=Lib.hid (Nat.le_refl _);have HT:Hid (TSt w W1.heap.size kf kd kr ko ⟨xo,xb,xao,xl,xc,xnm,xko,xkl,xkc⟩ ((d:Nat)+1) 9 false none 0 0 (⟨#[]⟩) (0) d [] (.slice none 0 0) [] W1):=Lib.hid (TSt.zero HBo.out HBf.out HBd.out HBr.out (nr0 _) HLOW.out HDIS.out HKO.out HW.out HSZP.out);obtain⟨⟨o0,o1,o2,o3,o4⟩,fo0,fo1,fo2,fo3,fo4⟩:=cells5V HBo.out;obtain⟨⟨r0,r1,r2,r3,r4⟩,fr0,fr1,fr2,fr3,fr4⟩:=cells5V HBr.out;go_wp2_with fail;clear o0 fo0 o1 fo1 o2 fo2 o3 fo3 o4 fo4;have hg:=grown5V (w:=W1) (k:=kr) (.int .i64 9) (.bool false) (.slice none 0 0) (.string ⟨#[]⟩) (.slice none 0 0);have hf:Fr 29 W1 _:=.of_grown hg (fun j hj=>by injection hj with hj;subst hj;exact⟨_,HBr.out,n32_F⟩)
  obtain⟨h1,h2,h3,h4⟩:=HT.out.fin hg hf (by unfold IR;decide) HB0.out HKR.out (by unfold NmOk;simp) (small4 (by decide)) (fun _ _ _=>rfl) (by simp) (rfl);(try simp only[Exit.inBlock,Exit.then]);exact bodyPost_ret (v:=.agg #[.int .i64 9,.bool false,.slice none 0 0,.string ⟨#[]⟩,.slice none 0 0]) (by simp[results,Tryz.results13,go_sem,r0,r1,r2,r3,r4]) rfl ⟨_,_,rfl,h1,h2,rfl,h3,h4⟩
 ·have hop2:op=10:=HOP.out;subst hop2;clear HOP;have HSZP:Hid (W1.heap.size<=W1.heap.size):=Lib.hid (Nat.le_refl _);have HT:Hid (TSt w W1.heap.size kf kd kr ko ⟨xo,xb,xao,xl,xc,xnm,xko,xkl,xkc⟩ ((d:Nat)+1) 10 false none 0 0 (⟨#[]⟩) (0) d [] (.slice none 0 0) [] W1):=Lib.hid (TSt.zero HBo.out HBf.out HBd.out HBr.out (nr0 _) HLOW.out HDIS.out HKO.out HW.out HSZP.out);clear HBm;have HKB:Hid (W1.heap.size<=W1.heap.size):=Lib.hid (Nat.le_refl _);obtain⟨⟨o0,o1,o2,o3,o4⟩,fo0,fo1,fo2,fo3,fo4⟩:=cells5V HBo.out;go_wp2_with fail;clear o0 fo0 o1 fo1 o2 fo2 o3 fo3 o4 fo4;refine (kid_p d HD.out HIT.out w W1 W1.heap.size kf kd kr ko ⟨xo,xb,xao,xl,xc,xnm,xko,xkl,xkc⟩ HX.out 10 false none 0 0 ⟨#[]⟩ (0) [] _ [] 0 0 (by decide) (by decide) HT.out (by rw[HT.out.len];simp)).mono ?_
  rintro e X1 ⟨⟨q0,rfl⟩,t0,v0,us0,hs,ht⟩;replace HT:=Lib.hid ht;have HS0:=Lib.hid hs;clear hs ht;go_wp2_with fail;refine (kid_p d HD.out HIT.out w X1 W1.heap.size kf kd kr ko ⟨xo,xb,xao,xl,xc,xnm,xko,xkl,xkc⟩ HX.out 10 false none 0 0 ⟨#[]⟩ (0) ([]++[t0]) _ us0 1 2 (by decide) (by decide) HT.out (by rw[HT.out.len];simp)).mono ?_;rintro e X2 ⟨⟨q1,rfl⟩,t1,v1,us1,hs,ht⟩;replace HT:=Lib.hid ht;have HS1:=Lib.hid hs;clear hs ht;obtain⟨vo,vc,hv,-⟩:=HT.out.row.form;subst hv;obtain⟨N,hN⟩:∃ N,N=us1.length:=⟨_,rfl⟩;rw[<-hN] at HT;clear hN;replace HBo:=Lib.hid HT.out.ho;replace HBr:=Lib.hid HT.out.hr;obtain⟨⟨o0,o1,o2,o3,o4⟩,fo0,fo1,fo2,fo3,fo4⟩:=cells5V HBo.out;obtain⟨⟨r0,r1,r2,r3,r4⟩,fr0,fr1,fr2,fr3,fr4⟩:=cells5V HBr.out;go_wp2_with fail
  clear o0 fo0 o1 fo1 o2 fo2 o3 fo3 o4 fo4;have hg:=grown5V (w:=X2) (k:=kr) (.int .i64 10) (.bool false) (.slice none 0 0) (.string ⟨#[]⟩) (.slice vo N vc);have hf:Fr 29 X2 _:=.of_grown hg (fun j hj=>by injection hj with hj;subst hj;exact⟨_,HBr.out,n32_F⟩);obtain⟨h1,h2,h3,h4⟩:=HT.out.fin hg hf (by unfold IR;decide) HB0.out HKR.out (by unfold NmOk;simp) (small4 (by decide)) (fun _ _ _=>rfl) (by simp) (by simp[fitF,kidsOk,srts,HS0.out,HS1.out]);(try simp only[Exit.inBlock,Exit.then]);exact bodyPost_ret (v:=.agg #[.int .i64 10,.bool false,.slice none 0 0,.string ⟨#[]⟩,.slice vo N vc]) (by simp[results,Tryz.results13,go_sem,r0,r1,r2,r3,r4]) rfl ⟨_,_,rfl,h1,h2,rfl,h3,h4⟩
 have hop2:op=11:=HOP.out;subst hop2;clear HOP;have HSZP:Hid (W1.heap.size<=W1.heap.size):=Lib.hid (Nat.le_refl _);have HT:Hid (TSt w W1.heap.size kf kd kr ko ⟨xo,xb,xao,xl,xc,xnm,xko,xkl,xkc⟩ ((d:Nat)+1) 11 false none 0 0 (⟨#[]⟩) (0) d [] (.slice none 0 0) [] W1):=Lib.hid (TSt.zero HBo.out HBf.out HBd.out HBr.out (nr0 _) HLOW.out HDIS.out HKO.out HW.out HSZP.out);clear HBm;have HKB:Hid (W1.heap.size<=W1.heap.size):=Lib.hid (Nat.le_refl _);obtain⟨⟨o0,o1,o2,o3,o4⟩,fo0,fo1,fo2,fo3,fo4⟩:=cells5V HBo.out;go_wp2_with fail;clear o0 fo0 o1 fo1 o2 fo2 o3 fo3 o4 fo4;refine (kid_p d HD.out HIT.out w W1 W1.heap.size kf kd kr ko ⟨xo,xb,xao,xl,xc,xnm,xko,xkl,xkc⟩ HX.out 11 false none 0 0 ⟨#[]⟩ (0) [] _ [] 0 2 (by decide) (by decide) HT.out (by rw[HT.out.len];simp)).mono ?_
 rintro e X1 ⟨⟨q0,rfl⟩,t0,v0,us0,hs,ht⟩;replace HT:=Lib.hid ht;have HS0:=Lib.hid hs;clear hs ht;obtain⟨vo,vc,hv,-⟩:=HT.out.row.form;subst hv;obtain⟨N,hN⟩:∃ N,N=us0.length:=⟨_,rfl⟩;rw[<-hN] at HT;clear hN;replace HBo:=Lib.hid HT.out.ho;replace HBr:=Lib.hid HT.out.hr;obtain⟨⟨o0,o1,o2,o3,o4⟩,fo0,fo1,fo2,fo3,fo4⟩:=cells5V HBo.out;obtain⟨⟨r0,r1,r2,r3,r4⟩,fr0,fr1,fr2,fr3,fr4⟩:=cells5V HBr.out;go_wp2_with fail;clear o0 fo0 o1 fo1 o2 fo2 o3 fo3 o4 fo4;have hg:=grown5V (w:=X1) (k:=kr) (.int .i64 11) (.bool false) (.slice none 0 0) (.string ⟨#[]⟩) (.slice vo N vc);have hf:Fr 29 X1 _:=.of_grown hg (fun j hj=>by injection hj with hj;subst hj;exact⟨_,HBr.out,n32_F⟩)
 obtain⟨h1,h2,h3,h4⟩:=HT.out.fin hg hf (by unfold IR;decide) HB0.out HKR.out (by unfold NmOk;simp) (small4 (by decide)) (fun _ _ _=>rfl) (by simp) (by simp[fitF,kidsOk,srts,HS0.out]);(try simp only[Exit.inBlock,Exit.then]);exact bodyPost_ret (v:=.agg #[.int .i64 11,.bool false,.slice none 0 0,.string ⟨#[]⟩,.slice vo N vc]) (by simp[results,Tryz.results13,go_sem,r0,r1,r2,r3,r4]) rfl ⟨_,_,rfl,h1,h2,rfl,h3,h4⟩
theorem tame_one:TameC 1:=by
 intro s o b ao l c nm ko kl kc w hs h;rcases hs with rfl | rfl | rfl
 ·exact tame_0z o b ao l c nm ko kl kc w h
 ·exact tame_1z o b ao l c nm ko kl kc w h
 exact tame_2z o b ao l c nm ko kl kc w h
theorem tame_more (d:Nat) (h1:1<=d) (h2:d<=100) (IT:TameC d):TameC (d+1):=by
 intro s o b ao l c nm ko kl kc w hs h;rw[show ((d+1:Nat):Int)=(d:Int)+1 from Int.natCast_succ d];rcases hs with rfl | rfl | rfl
 ·exact tame_0s d h1 h2 IT o b ao l c nm ko kl kc w h
 ·exact tame_1s d h1 h2 IT o b ao l c nm ko kl kc w h
 exact tame_2s d h1 h2 IT o b ao l c nm ko kl kc w h
theorem tameF:∀ d:Nat,d<=100->TameC (d+1)
 | 0,_=>tame_one
 | d+1,h=>tame_more (d+1) (Nat.succ_le_succ (Nat.zero_le d)) h (tameF d (by omega))
attribute [local go_sem] fieldV0 fieldV1 fieldV2 fieldV3
attribute [local go_sem] fieldV0 fieldV1 fieldV2 fieldV3
theorem rtVar (j:Int) (nm:ByteArray) (h:j=0\/j=1\/j=2):rt (.node (opVar j) 0 nm [])=true:=by rcases h with rfl | rfl | rfl<;>rfl
theorem L32_pos:0<L32:=by decide
def BE (e n:Nat):V->Prop
 | .I z=>z.natAbs<L32 ^ e
 | .B _=>True
 | .L l=>l.length<=n/\∀ z ∈ l,z.natAbs<L32 ^ e
theorem BE.zero (e n:Nat):BE e n (.I 0):=Nat.pow_pos L32_pos
theorem BE.sm {e n:Nat} {v:V} (h:BE e n v) (h1:e<=600) (h2:n<=1000):SmV v:=by
 cases v with
 | I z=>exact lt_pow_more (k:=e) (k':=600) h h1
 | B b=>trivial
 | L l=>exact⟨Nat.le_trans h.1 h2,fun z hz=>lt_pow_more (k:=e) (k':=600) (h.2 z hz) h1⟩
end Go.Proofs.YtoncclhbdkjhmaaGreatDoor
namespace Go.Proofs
open Go.Shelf
end Go.Proofs
namespace Go.Proofs.YtoncclhbdkjhmaaGreatDoor
open Go.RowKit
set_option maxRecDepth 100000
set_option linter.unusedVariables false
set_option linter.unusedSimpArgs false
attribute [local go_sem] fieldV0 fieldV1 fieldV2 fieldV3
def NmL (w:World) (v:Value) (ns:List ByteArray):Prop:=∃ ko kc,v=.slice ko ns.length kc/\ns.length<=1000/\(ns=[]\/∃ g,ko=some ⟨g,0,none⟩/\∀ j,j<ns.length->w.cell? ⟨g,j,none⟩=some (.string (ns.getD j ByteArray.empty)))
theorem FL.ltF {w:World} {S:Nat->Prop} {d:Nat} {v:Value} {ts:List F} (h:FL w S d v ts):FL w (fun g=>S g/\g<w.heap.size) d v ts:=by
 obtain⟨el,h1,h2⟩:=h;exact⟨el,h1.lt,h2⟩
theorem FL.turned {w:World} {B g n cap d:Nat} {us:List FU} {ts:List F} {S:Nat->Prop} (hrow:fR.Row w B (.slice (some ⟨g,0,none⟩) n cap) us) (hn:n=us.length) (hl:us.length=ts.length) (hS:S g) (h:∀ i (h1:i<us.length) (h2:i<ts.length),FT w S d us[i] ts[i]):FL w S d (.slice (some ⟨g,0,none⟩) n cap) ts:=by
 subst hn;have hz:(us.zip ts).length=us.length:=by rw[List.length_zip,hl,Nat.min_self]
 obtain⟨vo,vc,hv,h1,h2,h3⟩:=hrow.form;injection hv with e1 e2 e3;subst e3;refine⟨us.zip ts,⟨_,cap,by rw[hz],⟨by rw[hz];exact h1,h2,fun h=>by cases h⟩,fun _ a ha=>?_,fun i hi=>?_⟩,List.map_snd_zip (by rw[hl];exact Nat.le_refl _)⟩
 ·injection ha with ha;subst ha;exact hS
 have hi1:i<us.length:=by rw[hz] at hi;exact hi
 have hi2:i<ts.length:=by rw[<-hl];exact hi1
 rw[List.getElem_zip];exact⟨own_atF fC (fun _=>rfl) rfl hrow.own i hi1,h i hi1 hi2⟩
def i9:ByteArray:=⟨#[105,57]⟩
def oneF:F:=.node 0 1 ⟨#[]⟩ []
mutual
theorem AllF.and {P Q:F->Prop}:∀ {t:F},AllF P t->AllF Q t->AllF (fun u=>P u/\Q u) t
 | .node o z nm ks,h,k=>by rw[AllF] at h k ⊢;exact⟨⟨h.1,k.1⟩,AllFs.and h.2 k.2⟩
theorem AllFs.and {P Q:F->Prop}:∀ {l:List F},AllFs P l->AllFs Q l->AllFs (fun u=>P u/\Q u) l
 | [],_,_=>by rw[AllFs];trivial
 | k::l,h,g=>by rw[AllFs] at h g ⊢;exact⟨AllF.and h.1 g.1,AllFs.and h.2 g.2⟩
end
theorem all_rt:∀ (d:Nat) (t:F),Tm d t->rt t=true->AllF (fun u=>rt u=true) t
 | 0,t,h,_=>absurd h id
 | d+1,.node o z nm ks,h,hr=>by
  rw[AllF];exact⟨hr,AllFs.of fun k hk=>all_rt d k (h.2.2.2.2 k hk) ((rt_parts hr).2.2 k hk)⟩
def Qd (d:Nat) (t:F):Prop:=Tm (d+4) t/\(srt t.op≠1->Tm (d+2) t)/\(srt t.op=2->Tm (d+1) t)
def QA (d e:Nat) (t:F):Prop:=AllF (Qd d) t/\Tm e t
theorem QA.up {d e e':Nat} {t:F} (h:QA d e t) (he:e<=e'):QA d e' t:=⟨h.1,h.2.up he⟩
theorem all_tm {d:Nat}:∀ (e:Nat),e<=d+1->∀ t:F,Tm e t->AllF (Qd d) t
 | 0,_,t,h=>absurd h id
 | e+1,he,.node o z nm ks,h=>by
  rw[AllF];exact⟨⟨h.up (by omega),fun _=>h.up (by omega),fun _=>h.up he⟩,AllFs.of fun k hk=>all_tm e (by omega) k (h.2.2.2.2 k hk)⟩
theorem qt_ {d e:Nat} {t:F} (h:Tm e t) (he:e<=d+1):QA d e t:=⟨all_tm e he t h,h⟩
theorem tm_nd {e:Nat} {o z:Int} {ks:List F} (ho:¬ (o=1\/o=8\/o=14)) (hz:z.natAbs<L32 ^ 4) (h0:o≠0->o≠3->o≠5->z=0) (hl:ks.length<=3) (hk:∀ k ∈ ks,Tm e k):Tm (e+1) (.node o z ⟨#[]⟩ ks):=
 ⟨by unfold NmOk;simp only[F.op,F.name];rw[if_neg (by omega),if_neg (by omega),if_neg (by omega)];trivial,hz,h0,hl,hk⟩
theorem z4:(0:Int).natAbs<L32 ^ 4:=Nat.pow_pos (by decide)
theorem tm_fo {e:Nat} {o:Int} {ks:List F} (ho:¬ (o=1\/o=8\/o=14)) (hl:ks.length<=3) (hk:∀ k ∈ ks,Tm e k):Tm (e+1) (fo o ks):=tm_nd ho z4 (fun _ _ _=>rfl) hl hk
theorem qf {d e:Nat} {o:Int} {ks:List F} (ho:¬ (o=1\/o=8\/o=14)) (hs:srt o=1) (hl:ks.length<=3) (hk:∀ k ∈ ks,QA d e k) (he:e+1<=d+4):QA d (e+1) (fo o ks):=by
 have h:=tm_fo ho hl fun k h=>(hk k h).2
 refine⟨?_,h⟩;unfold fo;rw[AllF];exact⟨⟨h.up he,fun hn=>absurd hs hn,fun h2=>by have h3:srt o=2:=h2;rw[hs] at h3;exact absurd h3 (by decide)⟩,AllFs.of fun k h=>(hk k h).1⟩
theorem qi {d e:Nat} {o z:Int} {ks:List F} (ho:¬ (o=1\/o=8\/o=14)) (hz:z.natAbs<L32 ^ 4) (h0:o≠0->o≠3->o≠5->z=0) (hs:srt o=0) (hl:ks.length<=3) (hk:∀ k ∈ ks,QA d e k) (he:e+1<=d+2):QA d (e+1) (.node o z ⟨#[]⟩ ks):=by
 have h:=tm_nd ho hz h0 hl fun k h=>(hk k h).2
 refine⟨?_,h⟩;rw[AllF];exact⟨⟨h.up (by omega),fun _=>h.up he,fun h2=>by have h3:srt o=2:=h2;rw[hs] at h3;exact absurd h3 (by decide)⟩,AllFs.of fun k h=>(hk k h).1⟩
theorem m1 {P:F->Prop} {a:F} (h:P a):∀ k ∈ [a],P k:=fun k hk=>by rw[List.mem_singleton] at hk;rw[hk];exact h
theorem m2 {P:F->Prop} {a b:F} (h:P a) (g:P b):∀ k ∈ [a,b],P k:=fun k hk=>by
 simp only[List.mem_cons,List.not_mem_nil,or_false] at hk;rcases hk with rfl | rfl
 ·exact h
 exact g
theorem m3 {P:F->Prop} {a b c:F} (h:P a) (g:P b) (i:P c):∀ k ∈ [a,b,c],P k:=fun k hk=>by
 simp only[List.mem_cons,List.not_mem_nil,or_false] at hk;rcases hk with rfl | rfl | rfl
 ·exact h
 ·exact g
 exact i
section
variable {d e:Nat} {a b c x:F}
theorem qle (h:QA d e a) (k:QA d e b) (he:e+1<=d+4):QA d (e+1) (leF a b):=qf (by decide) rfl (by simp) (m2 h k) he
theorem qeq (h:QA d e a) (k:QA d e b) (he:e+1<=d+4):QA d (e+1) (eqfF a b):=qf (by decide) rfl (by simp) (m2 h k) he
theorem qnot (h:QA d e a) (he:e+1<=d+4):QA d (e+1) (notF a):=qf (by decide) rfl (by simp) (m1 h) he
theorem qor2 (h:QA d e a) (k:QA d e b) (he:e+1<=d+4):QA d (e+1) (orF [a,b]):=qf (by decide) rfl (by simp) (m2 h k) he
theorem qor3 (h:QA d e a) (k:QA d e b) (i:QA d e c) (he:e+1<=d+4):QA d (e+1) (orF [a,b,c]):=qf (by decide) rfl (by simp) (m3 h k i) he
theorem qadd (h:QA d e a) (k:QA d e b) (he:e+1<=d+2):QA d (e+1) (addF a b):=qi (by decide) z4 (fun _ _ _=>rfl) rfl (by simp) (m2 h k) he
theorem qn {n:Int} (hn:n.natAbs<L32 ^ 4) (he:1<=e):QA d e (nF n):=
 QA.up (e:=1) (qt_ (⟨rfl,hn,fun h=>absurd rfl h,Nat.zero_le _,fun k hk=>by cases hk⟩:Tm 1 (nF n)) (by omega)) he
theorem n04:(0:Int).natAbs<L32 ^ 4:=z4
theorem n14:(1:Int).natAbs<L32 ^ 4:=by decide
theorem tmh (h:Tm e a):Tm (e+1) (hdF a):=tm_fo (by decide) (by simp) (m1 h)
theorem tmt (h:Tm e a):Tm (e+1) (tlF a):=tm_fo (by decide) (by simp) (m1 h)
theorem tmc (h:Tm e a) (k:Tm e b):Tm (e+1) (consF a b):=tm_fo (by decide) (by simp) (m2 h k)
theorem tm0:Tm 1 nilF:=tm_fo (e:=0) (by decide) (by simp) (fun k hk=>by cases hk)
theorem ql (h:QA d e a) (he:e+1<=d+2):QA d (e+1) (lenF a):=qi (by decide) z4 (fun _ _ _=>rfl) rfl (by simp) (m1 h) he
theorem tm_kid {e:Nat} {x:F} (h:Tm (e+1) x) {k:F} (hk:k ∈ x.kids):Tm e k:=h.2.2.2.2 k hk
theorem kd_mem {o z:Int} {nm:ByteArray} {ks:List F} {i:Nat} (h:i<ks.length):kd (.node o z nm ks) i ∈ ks:=by
 unfold kd;show ks.getD i (nF 0) ∈ ks
 rw[List.getD_eq_getElem?_getD,List.getElem?_eq_getElem h];exact List.getElem_mem h
theorem lens_q {d e:Nat} {x:F} (hx:rt x=true) (h:Tm e x) (he:e<=d+1):∀ y ∈ lensF x,QA d (e+2) y:=by
 obtain⟨o,z,nm,ks⟩:=x;have hp:=rt_parts hx;cases e with
 | zero=>exact absurd h id
 | succ e =>
  generalize ex:F.node o z nm ks=x at *;have eo:x.op=o:=by rw[<-ex];rfl
  have L:=ql (qt_ h he) (by omega);intro y hy;unfold lensF at hy;rcases List.mem_cons.1 hy with rfl | hy
  ·exact qle (qn n04 (by omega)) L (by omega)
  rw[eo] at hy;split at hy
  ·rw[List.mem_singleton] at hy;subst hy;exact qeq L (qn n04 (by omega)) (by omega)
  split at hy
  ·rename_i h10;subst h10;obtain⟨a,b,e1,ha,hb⟩:=fsr_two (by have:=hp.1;simpa [kidsOk] using this);have hkd:kd x 1=b:=by rw[<-ex,e1];rfl
   have hb2:Tm e b:=tm_kid h (by rw[<-ex,e1];simp[F.kids]);rw[List.mem_singleton,hkd] at hy;subst hy;exact qeq L ((qadd (ql (qt_ hb2 (by omega)) (by omega)) (qn n14 (by omega)) (by omega)).up (by omega)) (by omega)
  cases hy
theorem empt_q {x:F} (h:Tm d x):QA d (d+4) (emptF x):=by
 have L:=ql (qt_ (d:=d) h (by omega)) (by omega);exact qor2 (qnot (qle L (qn n04 (by omega)) (by omega)) (by omega)) ((qeq (e:=d+1) ((qt_ h (by omega)).up (by omega)) (qt_ (tm0.up (by omega)) (by omega)) (by omega)).up (by omega)) (by omega)
theorem fill_q {l:F} (h:Tm d l):QA d (d+2) (fillF l):=qle (qn n14 (by omega)) (ql (qt_ h (by omega)) (by omega)) (by omega)
theorem tail_q {l x:F} (hl:Tm d l) (hx:Tm (d+1) x):∀ y ∈ tailF x l,QA (d+1) (d+5) y:=by
 have f:=fill_q (d:=d+1) (hl.up1);have nf:=qnot f (by omega);intro y hy;unfold tailF at hy;simp only[List.mem_cons,List.not_mem_nil,or_false] at hy;rcases hy with rfl | rfl | rfl
 ·exact qor2 nf (qeq ((ql (qt_ hl (by omega)) (by omega)).up (by omega)) (qadd (ql (qt_ hx (by omega)) (by omega)) (qn n14 (by omega)) (by omega)) (by omega)) (by omega)
 ·exact qor2 (e:=d+4) (f.up (by omega)) ((qeq (e:=d+1) (qt_ hx (by omega)) (qt_ (tm0.up (by omega)) (by omega)) (by omega)).up (by omega)) (by omega)
 exact qor2 nf ((qeq (e:=d+2) (qt_ (hl.up (by omega)) (by omega)) (qt_ (tmc (tmh hl) hx) (by omega)) (by omega)).up (by omega)) (by omega)
theorem prod_q {a b x:F} (ha:Tm d a) (hb:Tm d b) (hx:Tm d x):∀ y ∈ prodF x a b,QA d (d+4) y:=by
 cases d with
 | zero=>exact absurd ha id
 | succ d =>
  have A:=qt_ (d:=d+1) ha (by omega);have B:=qt_ (d:=d+1) hb (by omega);have X:=qt_ (d:=d+1) hx (by omega);have Z:=qn (d:=d+1) (e:=d+1) n04 (by omega);have N:=qn (d:=d+1) (e:=d+1) n14 (by omega);have or3:∀ {p q s:F},QA (d+1) (d+2) p->QA (d+1) (d+2) q->QA (d+1) (d+2) s->QA (d+1) (d+5) (orF [notF p,notF q,s]):=fun h k i =>
   (qor3 (qnot h (by omega)) (qnot k (by omega)) (i.up (by omega)) (by omega)).up (by omega)
  have or2:∀ {p s:F},QA (d+1) (d+2) p->QA (d+1) (d+2) s->QA (d+1) (d+5) (orF [notF p,s]):=fun h i =>
   (qor2 (qnot h (by omega)) (i.up (by omega)) (by omega)).up (by omega)
  intro y hy;unfold prodF at hy;simp only[List.mem_cons,List.not_mem_nil,or_false] at hy;rcases hy with rfl | rfl | rfl | rfl | rfl | rfl
  ·exact or3 (qle Z A (by omega)) (qle Z B (by omega)) (qle Z X (by omega))
  ·exact or3 (qle A Z (by omega)) (qle B Z (by omega)) (qle Z X (by omega))
  ·exact or3 (qle Z A (by omega)) (qle B Z (by omega)) (qle X Z (by omega))
  ·exact or3 (qle A Z (by omega)) (qle Z B (by omega)) (qle X Z (by omega))
  ·exact or2 (qeq A N (by omega)) (qeq X B (by omega))
  exact or2 (qeq B N (by omega)) (qeq X A (by omega))
theorem facts_q {x:F} (hx:rt x=true) (h:Tm (d+1) x):∀ y ∈ factsF x,QA (d+1) (d+5) y:=by
 obtain⟨o,z,nm,ks⟩:=x;have hp:=rt_parts hx;have hk:∀ i,i<ks.length->Tm d (kd (.node o z nm ks) i):=fun i hi=>h.2.2.2.2 _ (kd_mem hi)
 have hz:z.natAbs<L32 ^ 4:=h.2.1;generalize ex:F.node o z nm ks=x at *;have eo:x.op=o:=by rw[<-ex];rfl
 have ez:x.num=z:=by rw[<-ex];rfl
 have X:=qt_ (d:=d+1) h (by omega);have one:∀ s:Int,kidsOk o (srts ks)=decide (srts ks=[s])->Tm d (kd x 0):=fun s h=>by
  obtain⟨k,e,-⟩:=fsr_one (a:=s) (by have:=hp.1;rw[h] at this;exact of_decide_eq_true this);exact hk 0 (by rw[e];exact Nat.one_pos)
 have two:∀ s t:Int,kidsOk o (srts ks)=decide (srts ks=[s,t])->Tm d (kd x 0)/\Tm d (kd x 1):=fun s t h=>by
  obtain⟨k,l,e,-⟩:=fsr_two (a:=s) (b:=t) (by have:=hp.1;rw[h] at this;exact of_decide_eq_true this);exact⟨hk 0 (by rw[e];simp),hk 1 (by rw[e];simp)⟩
 have lens:∀ y ∈ lensF x,QA (d+1) (d+5) y:=fun y hy=>(lens_q hx h (by omega) y hy).up (by omega)
 intro y hy;unfold factsF at hy;rw[eo] at hy;by_cases h8:o=8
 ·rw[if_pos h8] at hy;rcases List.mem_append.1 hy with hy | hy
  ·exact lens y hy
  rw[List.mem_singleton] at hy;rw[hy];exact empt_q h
 rw[if_neg h8] at hy;by_cases h9:o=9
 ·rw[if_pos h9] at hy;exact lens y hy
 rw[if_neg h9] at hy;by_cases h10:o=10
 ·rw[if_pos h10] at hy;obtain⟨k0,k1⟩:=two 0 2 (by rw[h10];rfl);rcases List.mem_append.1 hy with hy | hy
  ·exact lens y hy
  simp only[List.mem_cons,List.not_mem_nil,or_false] at hy;rcases hy with rfl | rfl
  ·exact (qeq (qi (o:=7) (by decide) z4 (fun _ _ _=>rfl) rfl (by simp) (m1 X) (by omega)) ((qt_ k0 (by omega)).up (by omega)) (by omega)).up (by omega)
  exact (qeq (e:=d+2) (qt_ (tmt h) (by omega)) ((qt_ k1 (by omega)).up (by omega)) (by omega)).up (by omega)
 rw[if_neg h10] at hy;by_cases h11:o=11
 ·rw[if_pos h11] at hy;have k0:=one 2 (by rw[h11];rfl);rcases List.mem_append.1 hy with hy | hy
  ·exact lens y hy
  rcases List.mem_append.1 hy with hy | hy
  ·rw[List.mem_singleton] at hy;rw[hy];exact empt_q h
  exact tail_q k0 h y hy
 rw[if_neg h11] at hy;by_cases h7:o=7
 ·rw[if_pos h7] at hy;have k0:=one 2 (by rw[h7];rfl);rw[List.mem_singleton] at hy;subst hy;exact (qor2 (e:=d+3) (fill_q (d:=d+1) k0.up1) ((qeq X (qn n04 (by omega)) (by omega)).up (by omega)) (by omega)).up (by omega)
 rw[if_neg h7] at hy;by_cases h5:o=5
 ·rw[if_pos h5] at hy;have k0:=one 0 (by rw[h5];rfl);have hz1:=hp.2.1 h5;have S:QA (d+1) (d+2) (scF x.num x):=qi (by decide) (by rw[ez];exact hz) (fun _ h3=>absurd rfl h3) rfl (by simp) (m1 X) (by omega);simp only[List.mem_cons,List.not_mem_nil,or_false] at hy;rcases hy with rfl | rfl
  ·exact (qle S ((qt_ k0 (by omega)).up (by omega)) (by omega)).up (by omega)
  exact (qle (e:=d+3) ((qt_ k0 (by omega)).up (by omega)) (qadd S (qn (by rw[ez];omega) (by omega)) (by omega)) (by omega)).up (by omega)
 rw[if_neg h5] at hy;by_cases h4:o=4
 ·rw[if_pos h4] at hy;obtain⟨k0,k1⟩:=two 0 0 (by rw[h4];rfl);exact prod_q k0.up1 k1.up1 h y hy
 rw[if_neg h4] at hy;cases hy
end
open Classical in
noncomputable def idx (s:List F) (c:F):Nat:=s.findIdx fun t=>decide (t=c)
theorem idx_lt {s:List F} {c:F} (h:c ∈ s):idx s c<s.length:=by
 unfold idx;exact List.findIdx_lt_length_of_exists ⟨c,h,by simp⟩
theorem idx_get {s:List F} {c:F} (h:c ∈ s):s[idx s c]?=some c:=by
 have hl:=idx_lt h;rw[List.getElem?_eq_getElem hl];have h2:=List.findIdx_getElem (p:=fun t=>@decide (t=c) (Classical.propDecidable _)) (xs:=s) (w:=hl);exact congrArg some (@of_decide_eq_true _ (Classical.propDecidable _) h2)
theorem idx_of {s:List F} (hn:s.Nodup) {i:Nat} {c:F} (h:s[i]?=some c):idx s c=i:=by
 have hm:c ∈ s:=List.mem_of_getElem? h;have h2:=idx_get hm;obtain⟨hi,e⟩:=List.getElem?_eq_some_iff.1 h;obtain⟨hj,e2⟩:=List.getElem?_eq_some_iff.1 h2;exact (List.getElem_inj hn).1 (by rw[e,e2]) |>.symm
theorem idx_app {s m:List F} {c:F} (h:c ∈ s):idx (s++m) c=idx s c:=by
 have hl:=idx_lt h;unfold idx at hl ⊢;rw[List.findIdx_append,if_pos hl]
def itoaB (n:Nat):ByteArray:=⟨(Lib.itoa (n:Int)).toArray⟩
theorem itoaB_data (n:Nat):(itoaB n).data.toList=Lib.decDigits n:=by
 show Lib.itoa (n:Int)=_
 unfold Lib.itoa;rw[if_neg (by omega)];rfl
theorem itoaB_inj {m n:Nat} (h:itoaB m=itoaB n):m=n:=by
 have h1:=congrArg (fun b:ByteArray=>b.data.toList) h;simp only[itoaB_data] at h1;have a:=(dn_dec m).2.1;have b:=(dn_dec n).2.1;rw[<-a,<-b,h1]
theorem itoaB_pl {n:Nat} (h:n<10 ^ 18):NmP (itoaB n):=by
 have hd:=dn_dec n;have hl:=decDigits_len h (by decide);refine⟨fun h0=>?_,by rw[itoaB_data];omega,fun c hc=>?_⟩
 ·have:(itoaB n).data.toList=[]:=by rw[h0]
  rw[itoaB_data] at this;exact hd.2.2.1 this
 rw[itoaB_data] at hc;have:=hd.1 c hc;unfold plainC;omega
noncomputable def refF (s:List F) (c:F):F:=.node (opVar (srt c.op)) 0 (itoaB (idx s c)) []
noncomputable def keyT (s:List F) (t:F):F:=.node t.op t.num t.name (t.kids.map (refF s))
noncomputable def keyF (s:List F) (t:F):Bs:=txF (keyT s t)
theorem keyF_app {s m:List F} {t:F} (h:∀ c ∈ t.kids,c ∈ s):keyF (s++m) t=keyF s t:=by
 unfold keyF keyT;congr 2;apply List.map_congr_left;intro c hc;unfold refF;rw[idx_app (h c hc)]
theorem srt_var (o:Int):srt (opVar (srt o))=srt o:=by
 unfold srt;split
 ·rfl
 split<;>rfl
theorem opVar_named (b:Int):opVar b=1\/opVar b=8\/opVar b=14:=by
 unfold opVar;split
 ·exact .inr (.inr rfl)
 split
 ·exact .inr (.inl rfl)
 exact .inl rfl
theorem srt_012 (o:Int):srt o=0\/srt o=1\/srt o=2:=by
 unfold srt;split
 ·exact .inr (.inr rfl)
 split
 ·exact .inr (.inl rfl)
 exact .inl rfl
theorem rt_ref (s:List F) (c:F):rt (refF s c)=true:=rtVar _ _ (srt_012 _)
theorem srts_ref (s:List F) (l:List F):srts (l.map (refF s))=srts l:=by
 unfold srts;rw[List.map_map];apply List.map_congr_left;intro c _;exact srt_var c.op
theorem rt_key {s:List F} {t:F} (h:rt t=true):rt (keyT s t)=true:=by
 obtain⟨o,z,nm,ks⟩:=t;unfold keyT;rw[rt,Bool.and_eq_true] at h ⊢;refine⟨by rw[show (F.node o z nm ks).kids=ks from rfl,srts_ref];exact h.1,?_⟩;rw[rts_all,List.all_eq_true];intro x hx;obtain⟨c,_,rfl⟩:=List.mem_map.1 hx;exact rt_ref s c
theorem tg_ref {s:List F} {c:F} (h:idx s c<10 ^ 18):Tg 1 (refF s c):=
 ⟨by unfold NmG;rw[if_pos (show (refF s c).op=1\/(refF s c).op=8\/(refF s c).op=14 from opVar_named _)];exact itoaB_pl h,z4,fun _ _ _=>rfl,Nat.zero_le _,fun k hk=>by cases hk⟩
theorem tg_key {d:Nat} {s:List F} {t:F} (h:Tg d t) (hs:s.length<=1000000) (hk:∀ c ∈ t.kids,c ∈ s):Tg 2 (keyT s t):=by
 cases d with
 | zero=>exact absurd h id
 | succ d =>
  obtain⟨h1,h2,h3,h4,h5⟩:=h;refine⟨h1,h2,h3,by show (t.kids.map _).length<=8;rw[List.length_map];exact h4,fun k hk'=>?_⟩;obtain⟨c,hc,rfl⟩:=List.mem_map.1 (show k ∈ t.kids.map (refF s) from hk');exact tg_ref (Nat.lt_of_lt_of_le (idx_lt (hk c hc)) (Nat.le_trans hs (by decide)))
theorem keyF_inj {d e:Nat} {s:List F} {t u:F} (ht:Tg d t) (hu:Tg e u) (rt1:rt t=true) (rt2:rt u=true) (hs:s.length<=1000000) (kt:∀ c ∈ t.kids,c ∈ s) (ku:∀ c ∈ u.kids,c ∈ s) (h:keyF s t=keyF s u):t=u:=by
 have e:=textG_inj (tg_key ht hs kt) (tg_key hu hs ku) (rt_key rt1) (rt_key rt2) h;obtain⟨o,z,nm,ks⟩:=t;obtain⟨o',z',nm',ks'⟩:=u;unfold keyT at e;injection e with e1 e2 e3 e4;simp only[F.op,F.num,F.name,F.kids] at e1 e2 e3 e4 kt ku;have key:∀ (l l':List F),(∀ c ∈ l,c ∈ s)->(∀ c ∈ l',c ∈ s)->l.map (refF s)=l'.map (refF s)->l=l':=by
  intro l;induction l with
  | nil=>intro l' _ _ h;cases l' with | nil=>rfl | cons a m=>cases h
  | cons a l ih =>
   intro l' h h' hh;cases l' with
   | nil=>cases hh
   | cons b m =>
    rw[List.map_cons,List.map_cons] at hh;injection hh with h1 h2;have e5:=ih m (fun c hc=>h c (by simp[hc])) (fun c hc=>h' c (by simp[hc])) h2;unfold refF at h1;injection h1 with _ _ h3 _;have h4:=itoaB_inj h3;have p:=idx_get (h a (by simp));have q:=idx_get (h' b (by simp));rw[h4,q] at p;injection p with p;rw[e5,p]
 rw[e1,e2,e3,key ks ks' kt ku e4]
def Gd (t:F):Prop:=rt t=true/\Tg 9 t
structure StU (B k:Nat) (E:Nat->Prop) (L s:List F) (w:World) (km:Nat) (v:Value) (us:List NdU) (M:Bs->Option Value):Prop where
 bk:w.heap[k]?=some (.cells #[.map (some km),v] 163 (0,0))
 kB:B<=k
 mB:B<=km
 sz:B<=w.heap.size
 mp:MapIs Tryz.prog 9 w km M
 dom:DomV M s.length
 m1:∀ i t,s[i]?=some t->M (keyF s t)=some (.int .i64 (i:Nat))
 m2:∀ x v,M x=some v->∃ i t,s[i]?=some t/\keyF s t=x/\v=.int .i64 (i:Nat)
 row:nR.Row w (k+1) v us
 len:us.length=s.length
 nd:s.Nodup
 good:∀ t ∈ s,Gd t
 cl:∀ t ∈ s,∀ c ∈ t.kids,c ∈ s
 ft:∀ (i:Nat) (u:NdU) (t:F),us[i]?=some u->s[i]?=some t->FT w (NS B k E w) 9 u.u t
 ids:∀ (i:Nat) (u:NdU) (t:F),us[i]?=some u->s[i]?=some t->IL B k E w (.slice u.ko u.kl u.kc) (t.kids.map (idx s))
 lst:∀ (i:Nat) (u:NdU) (t:F),us[i]?=some u->s[i]?=some t->(u.b=true ↔ t ∈ L)
 sub:∀ t ∈ L,t ∈ s
 max:s.length<=900000
 ex:∀ g,E g->g<w.heap.size
 tx:∃ w0,w0.heap.size=B/\TxT w0/\Below B w0 w
def St (B k:Nat) (E:Nat->Prop) (L s:List F) (w:World):Prop:=∃ km v us M,StU B k E L s w km v us M
theorem St.below {B k:Nat} {E:Nat->Prop} {L s:List F} {w w':World} (h:St B k E L s w) (hb:Below w.heap.size w w'):St B k E L s w':=by
 obtain⟨km,v,us,M,h⟩:=h;obtain⟨w0,h1,h2,h3⟩:=h.tx;exact⟨km,v,us,M,{ h with
  bk:=(hb.block _ (lt_of_block h.bk)).trans h.bk
  sz:=Nat.le_trans h.sz hb.size
  mp:=h.mp.keep (hb.block _ h.mp.lt)
  row:=h.row.below hb
  ft:=fun i u t hu ht=>(h.ft i u t hu ht).stp (.of_below hb)
  ids:=fun i u t hu ht=>(h.ids i u t hu ht).stp (.of_below hb)
  ex:=fun g hg=>Nat.lt_of_lt_of_le (h.ex g hg) hb.size
  tx:=⟨w0,h1,h2,h3.trans (hb.mono h.sz)⟩ }⟩
theorem St.fresh {B k:Nat} {E:Nat->Prop} {L s:List F} {w:World} (h:St B k E L s w) {g:Nat} (hg:w.heap.size<=g):¬ E g:=fun he=>by
 obtain⟨km,v,us,M,h⟩:=h;exact absurd (h.ex g he) (by omega)
theorem new_p (w:World) (ht:TxT w) :
  Calls Tryz.prog 69 #[] w fun e w'=>∃ k,e=.returned (.pointer (some ⟨k,0,none⟩))/\St w.heap.size k (fun _=>False) [] [] w'/\Below w.heap.size w w':=by
 have HT:=Lib.hid ht;clear ht;have hmm:=@run_makeMap Tryz.prog;go_enter Tryz.func69,Tryz.ntmps69;go_wp2_with fail;go_ret;have e:(w.alloc (.map #[] 0)).heap.size=w.heap.size+1:=by simp only[World.size_alloc]
 have hb1:=(Below.refl w.heap.size w).alloc (Nat.le_refl _) (.map #[] 0);have hb:=hb1.alloc hb1.size (.cells #[.map (some w.heap.size),.slice none 0 0] 163);have hm:=MapIs.made w Tryz.prog 9;refine⟨w.heap.size+1,rfl,⟨w.heap.size,.slice none 0 0,[],fun _=>none,?_⟩,hb⟩;exact {
  bk:=by rw[<-e];exact heap_alloc_new _ _
  kB:=by omega
  mB:=Nat.le_refl _
  sz:=hb.size
  mp:=hm.keep (Below.heap_alloc _ _ _ hm.lt)
  dom:=⟨[],Nat.zero_le _,fun x h=>by cases h⟩
  m1:=fun i t h=>by cases h
  m2:=fun x v h=>by cases h
  row:=El.Row.nil _ _
  len:=rfl
  nd:=List.nodup_nil
  good:=fun t h=>by cases h
  cl:=fun t h=>by cases h
  ft:=fun i u t h=>by cases h
  ids:=fun i u t h=>by cases h
  lst:=fun i u t h=>by cases h
  sub:=fun t h=>by cases h
  max:=Nat.zero_le _
  ex:=fun g h=>h.elim
  tx:=⟨w,rfl,HT.out,hb⟩ }
theorem StU.node {B k:Nat} {E:Nat->Prop} {L s:List F} {w:World} {km:Nat} {v:Value} {us:List NdU} {M:Bs->Option Value} (h:StU B k E L s w km v us M) {i:Nat} {t:F} (hi:s[i]?=some t) :
  ∃ (g cap:Nat) (u:FU) (qo:Option Addr) (ql qc:Nat) (q:Bool),(v=.slice (some ⟨g,0,none⟩) s.length cap/\i<s.length/\s.length<=cap/\cap<=maxLen) /\
   (w.cell? ⟨g,i*7,none⟩=some (.int .i64 u.k)/\w.cell? ⟨g,i*7+1,none⟩=some (.bool (decide (u.n.z<0)))/\w.cell? ⟨g,i*7+2,none⟩=some (.slice u.n.o u.n.l u.n.c)/\w.cell? ⟨g,i*7+3,none⟩=some (.string u.nm)/\w.cell? ⟨g,i*7+4,none⟩=some (.slice u.ko u.kl u.kc)/\w.cell? ⟨g,i*7+5,none⟩=some (.slice qo ql qc)/\w.cell? ⟨g,i*7+6,none⟩=some (.bool q)) /\
   (FT w (NS B k E w) 9 u t/\u.k=t.op/\u.nm=t.name)/\IL B k E w (.slice qo ql qc) (t.kids.map (idx s))/\(q=true ↔ t ∈ L):=by
 obtain⟨hil,e⟩:=List.getElem?_eq_some_iff.1 hi;have hiu:i<us.length:=by rw[h.len];exact hil
 have hu:us[i]?=some us[i]:=List.getElem?_eq_getElem hiu;have hft:=h.ft i _ t hu hi;have hids:=h.ids i _ t hu hi;have hl:=h.lst i _ t hu hi;have h0:=h.row.own;rcases h0.2 with ⟨-,h1⟩ | ⟨g,cap,cur,hv,hb,hg,h1,h2,h3,h4⟩
 ·rw[h1] at hiu;exact absurd hiu (Nat.not_lt_zero _)
 subst hv;have key:∀ j q,(ndC us[i])[j]?=some q->w.cell? ⟨g,i*7+j,none⟩=some q:=by
  intro j q hj;have hj7:j<7:=by have:=(List.getElem?_eq_some_iff.1 hj).1;simpa [ndC] using this
  rw[World.ownsRow.cellAt h0 (i*7+j) (by show i*7+j<us.length*7;omega)];exact (flat_atV nR.f nR.len us i j hiu hj7).trans hj
 obtain⟨⟨k1,k2,k3,k4⟩,hrest⟩:=id hft;exact⟨g,cap,us[i].u,_,_,_,_,⟨by rw[h.len],hil,by rw[<-h.len];exact h1,h2⟩,⟨key 0 _ rfl,key 1 _ rfl,key 2 _ rfl,key 3 _ rfl,key 4 _ rfl,key 5 _ rfl,key 6 _ rfl⟩,⟨hft,k1,k4⟩,hids,hl⟩
theorem sortS_p {B k:Nat} {E:Nat->Prop} {L s:List F} (w:World) (h:St B k E L s w) (i:Nat) (t:F) (hi:s[i]?=some t) :
  Calls Tryz.prog 73 #[.pointer (some ⟨k,0,none⟩),.int .i64 ((i:Nat):Int)] w fun e w'=>e=.returned (.int .i64 (srt t.op))/\Below w.heap.size w w':=by
 obtain⟨km,v,us,M,hU⟩:=h;obtain⟨g,cap,u,qo,ql,qc,q,⟨rfl,hil,hcap,hmx⟩,⟨c0,c1,c2,c3,c4,c5,c6⟩,⟨-,hop,-⟩,-,-⟩:=hU.node hi;rw[<-hop];have d0:=cell_at (v:=.map (some km)) hU.bk 0 rfl;have d1:=cell_at (v:=.slice (some ⟨g,0,none⟩) s.length cap) hU.bk 1 rfl;have hmx':cap<=9223372036854775807:=hmx;clear hU hop hi;go_enter Tryz.func73,Tryz.ntmps73;go_wp2_with fail;refine (sort_p _ _ _ _ _ _ _ _ _ _).mono ?_;rintro e w' ⟨rfl,hb⟩;go_wp2_with fail;go_ret;exact⟨rfl,hb⟩
def FoRel (B k:Nat) (E:Nat->Prop) (g n:Nat) (X:World) (ts:List F) (i:Value) (wr:World):Prop:=
 ∃ (j:Nat) (el:List FU),i=.int .i64 (j:Nat)/\j<=n/\Hid (el.length=n)/\Hid (∀ q (h1:q<el.length) (h2:q<ts.length),q<j->FT wr (fun b=>NS B k E X b/\b<X.heap.size) 9 el[q] ts[q])/\Hid (fR.Row wr g (.slice (some ⟨g,0,none⟩) n n) el)/\Hid (Below g X wr)
theorem NO.cells {B k:Nat} {w:World} {g:Nat} {c:Array Value} {T:TypeId} (h:w.heap[g]?=some (.cells c T (0,0))) (hT:T≠163/\T≠167):NO B k w g:=by
 rintro⟨-,⟨es,cl,e⟩ | ⟨c',T',e,hT',-⟩⟩
 ·rw[h] at e;cases e
 rw[h] at e;injection e with e;injection e with _ e;rcases hT' with rfl | ⟨rfl,-⟩
 ·exact hT.1 e
 exact hT.2 e
theorem map_some_len {α β:Type} {f:α->Option β} {l:List α} {ts:List β} (h:l.map f=ts.map some):ts.length=l.length:=by
 have:=congrArg List.length h
 simpa using this.symm
theorem map_some_get {α β:Type} {f:α->Option β} {l:List α} {ts:List β} (h:List.map f l=List.map some ts) (j:Nat) (h1:j<l.length) (h2:j<ts.length):f l[j]=some ts[j]:=by
 have:=congrArg (fun q:List (Option β)=>q[j]?) h
 simpa [h1,h2] using this
theorem forms_pS {B k:Nat} {E:Nat->Prop} {L s:List F} (w:World) (h:St B k E L s w) (v:Value) (ids:List Nat) (hv:IL B k E w v ids) (ts:List F) (hi:ids.map (fun i=>s[i]?)=ts.map some) (hl:ids.length<=900000) :
  Calls Tryz.prog 75 #[.pointer (some ⟨k,0,none⟩),v] w fun e w'=>∃ v',e=.returned v'/\FL w' (NS B k E w') 9 v' ts/\Below w.heap.size w w':=by
 obtain⟨ko,kc,rfl,⟨hk1,hk2,hk3⟩,hc⟩:=id hv;have hkm:kc<=9223372036854775807:=hk2;have hlen:=map_some_len hi;obtain⟨n,hn⟩:∃ n,n=ids.length:=⟨_,rfl⟩;have HS:=Lib.hid h;have HV:=Lib.hid hv;have HI:=Lib.hid hi;rw[<-hn] at hk1 hl hlen HV ⊢;have HN:=Lib.hid hn;have HTL:=Lib.hid hlen;clear h hv hi hn hc hlen;go_enter Tryz.func75,Tryz.ntmps75;obtain⟨k2,hk9⟩:∃ k,w.heap.size=k:=⟨_,rfl⟩;have HK2:=Lib.hid hk9;go_upto_region 2 with (first | (at_make;refine wpList_make_El fR zFU rfl (fun _=>trivial) _ rfl _ _ rfl w.heap.size _ _ _ _ n rfl rfl (by first | rfl | simp) (by first | rfl | simp) (by omega) (Nat.le_refl _) ?_;intro y2 hrow hb2) | fail);rw[hk9] at hrow hb2;have HR:=Lib.hid (show fR.Row y2 k2 (.slice (some ⟨k2,0,none⟩) n n) (List.replicate n zFU) from hrow);have HB2:=Lib.hid hb2
 clear hrow hb2 hk9;go_wp2_with fail;go_loopw [13] (FoRel B k E k2 n w ts) (fun i _=>n - (intOf i).toNat)
 case atStart=>exact⟨0,_,rfl,Nat.zero_le _,Lib.hid List.length_replicate,Lib.hid (fun q _ _ h=>absurd h (Nat.not_lt_zero _)),HR,HB2⟩
 case round =>
  clear HR HB2;obtain⟨j,el,rfl,hj,HE,HT,HR,HB⟩:=hrel;by_cases hlt:j<n
  ·have hBw:Below w.heap.size w wr:=by rw[HK2.out];exact HB.out
   have hjl:j<ids.length:=by rw[<-HN.out];exact hlt
   have hjt:j<ts.length:=by rw[HTL.out];exact hlt
   obtain⟨i,hi⟩:∃ i,i=ids[j]:=⟨_,rfl⟩;obtain⟨t,ht⟩:∃ t,t=ts[j]:=⟨_,rfl⟩;have hst:s[i]?=some t:=by rw[hi,ht];exact map_some_get HI.out j hjl hjt
   obtain⟨ko',kc',e,-,hc⟩:=HV.out.stp (Stp.of_below hBw);injection e with e1 e2 e3;subst e1;obtain⟨a,rfl,-,ca⟩:=hc j hjl;rw[<-hi] at ca;obtain⟨km,v,us,M,hU⟩:=HS.out;obtain⟨g,cap,u,qo,ql,qc,q,⟨rfl,hil,hcap,hmx⟩,⟨c0,c1,c2,c3,c4,-,-⟩,⟨hft,-,-⟩,-,-⟩:=hU.node hst;have hmx':cap<=9223372036854775807:=hmx;have d1:=cell_at (v:=.slice (some ⟨g,0,none⟩) s.length cap) hU.bk 1 rfl;rw[<-hBw.cell (cell_lt c0)] at c0;rw[<-hBw.cell (cell_lt c1)] at c1;rw[<-hBw.cell (cell_lt c2)] at c2;rw[<-hBw.cell (cell_lt c3)] at c3;rw[<-hBw.cell (cell_lt c4)] at c4;rw[<-hBw.cell (cell_lt d1)] at d1;have HFT:=Lib.hid (hft.lt.below hBw);have HTJ:=Lib.hid ht;obtain⟨⟨g0,g1,g2,g3,g4⟩,i0,i1,i2,i3,i4⟩:=Row.atF HR.out HE.out.symm (i:=j) (by rw[HE.out];exact hlt);have HBW:=Lib.hid hBw
   clear hU hft hst hi ht hc e2 e3 hjl hBw;go_wp2_with fail;go_roundw
   case rel =>
    obtain⟨r1,r2⟩:=Row.setF HR.out j (by rw[HE.out];exact hlt) HE.out.symm u rfl;have hgP:=putF_grown wr k2 j u;refine⟨j+1,el.set j u,by go_num,hlt,Lib.hid (by rw[List.length_set];exact HE.out),Lib.hid (fun q h1 h2 h3=>?_),Lib.hid r1,Lib.hid (HB.out.trans (grown_belowV hgP (by rw[<-HK2.out];exact HBW.out.size) (Nat.le_refl _)))⟩;by_cases hqj:q=j
    ·subst hqj;rw[List.getElem_set_self,<-HTJ.out];exact HFT.out.grown hgP (KN.of_fr r2) (fun b hb e=>by injection e with e;have h1:=HK2.out;omega)
    rw[List.getElem_set_ne (fun e=>hqj e.symm)];exact (HT.out q (by rw[List.length_set] at h1;exact h1) h2 (by omega)).grown hgP (KN.of_fr r2) (fun b hb e=>by injection e with e;have h1:=HK2.out;omega)
   case measure=>simp[intOf];omega
  have ej:j=n:=by omega
  subst ej;go_wp2_with fail;go_ret;have hBw:Below w.heap.size w wr:=by rw[HK2.out];exact HB.out
  refine⟨_,rfl,FL.turned HR.out HE.out.symm (by rw[HE.out];exact HTL.out.symm) ?_ (fun q h1 h2=>(HT.out q h1 h2 (by have h3:=HE.out;omega)).mono fun b hb=>⟨(Stp.of_below hBw).no hb.2 hb.1.1,hb.1.2⟩),hBw⟩;obtain⟨c,hc,-⟩:=HR.out.n32 k2 rfl;exact⟨NO.cells hc (by decide),HS.out.fresh (by have:=HK2.out;omega)⟩
end Go.Proofs.YtoncclhbdkjhmaaGreatDoor
namespace Go.Proofs
open Go.Shelf
def Tryz.laysM171_renC:Go.Shelf.Ren:=⟨fun | 171=>103 | 243=>152 | 246=>185 | 283=>198 | 284=>199 | 285=>200 | 286=>201 | 129=>217 | 317=>218 | 318=>219 | 319=>220 | 320=>221 | 337=>233 | 338=>234 | n=>n,fun | 3=>3 | 9=>9 | 2=>2 | 4=>4 | 171=>233 | 0=>0 | 53=>130 | 37=>99 | 5=>5 | 173=>236 | 212=>256 | 51=>153 | 20=>20 | 213=>257 | 46=>183 | 232=>277 | 233=>278 | n=>n,fun | 17=>3 | 18=>11 | 19=>12 | n=>n⟩
theorem Tryz.laysM171C:Go.Proofs.LaysM.n171 Tryz.prog Tryz.laysM171_renC:={
 mixed:=by kernel_rfl
 f129:=Tryz.func217.trans (congrArg some (by kernel_rfl))
 f171:=Tryz.func103.trans (congrArg some (by kernel_rfl))
 f243:=Tryz.func152.trans (congrArg some (by kernel_rfl))
 f246:=Tryz.func185.trans (congrArg some (by kernel_rfl))
 f283:=Tryz.func198.trans (congrArg some (by kernel_rfl))
 f284:=Tryz.func199.trans (congrArg some (by kernel_rfl))
 f285:=Tryz.func200.trans (congrArg some (by kernel_rfl))
 f286:=Tryz.func201.trans (congrArg some (by kernel_rfl))
 f317:=Tryz.func218.trans (congrArg some (by kernel_rfl))
 f318:=Tryz.func219.trans (congrArg some (by kernel_rfl))
 f319:=Tryz.func220.trans (congrArg some (by kernel_rfl))
 f320:=Tryz.func221.trans (congrArg some (by kernel_rfl))
 f337:=Tryz.func233.trans (congrArg some (by kernel_rfl))
 f338:=Tryz.func234.trans (congrArg some (by kernel_rfl))
 t0:=Tryz.underlying0
 a0:=Tryz.isAgg0
 z0:=Tryz.sizeOf0
 v0:=Tryz.zeroValue0
 t2:=Tryz.underlying2
 a2:=Tryz.isAgg2
 z2:=Tryz.sizeOf2
 v2:=Tryz.zeroValue2
 t3:=Tryz.underlying3
 a3:=Tryz.isAgg3
 z3:=Tryz.sizeOf3
 v3:=Tryz.zeroValue3
 t4:=Tryz.underlying4
 a4:=Tryz.isAgg4
 z4:=Tryz.sizeOf4
 v4:=Tryz.zeroValue4
 t5:=Tryz.underlying5
 a5:=Tryz.isAgg5
 z5:=Tryz.sizeOf5
 v5:=Tryz.zeroValue5
 t9:=Tryz.underlying9
 a9:=Tryz.isAgg9
 z9:=Tryz.sizeOf9
 v9:=Tryz.zeroValue9
 t20:=Tryz.underlying20
 a20:=Tryz.isAgg20
 z20:=Tryz.sizeOf20
 v20:=Tryz.zeroValue20
 t37:=Tryz.underlying99
 a37:=Tryz.isAgg99
 z37:=Tryz.sizeOf99
 v37:=Tryz.zeroValue99
 t46:=Tryz.underlying183
 a46:=Tryz.isAgg183
 z46:=Tryz.sizeOf183
 v46:=Tryz.zeroValue183
 t51:=Tryz.underlying153
 a51:=Tryz.isAgg153
 z51:=Tryz.sizeOf153
 v51:=Tryz.zeroValue153
 t53:=Tryz.underlying130
 a53:=Tryz.isAgg130
 z53:=Tryz.sizeOf130
 v53:=Tryz.zeroValue130
 t171:=Tryz.underlying233
 a171:=Tryz.isAgg233
 z171:=Tryz.sizeOf233
 v171:=Tryz.zeroValue233
 t173:=Tryz.underlying236
 a173:=Tryz.isAgg236
 z173:=Tryz.sizeOf236
 v173:=Tryz.zeroValue236
 t212:=Tryz.underlying256
 a212:=Tryz.isAgg256
 z212:=Tryz.sizeOf256
 v212:=Tryz.zeroValue256
 t213:=Tryz.underlying257
 a213:=Tryz.isAgg257
 z213:=Tryz.sizeOf257
 t232:=Tryz.underlying277
 a232:=Tryz.isAgg277
 z232:=Tryz.sizeOf277
 v232:=Tryz.zeroValue277
 t233:=Tryz.underlying278
 a233:=Tryz.isAgg278
 z233:=Tryz.sizeOf278
 v233:=Tryz.zeroValue278
 g17:=by kernel_rfl
 g18:=by kernel_rfl
 g19:=by kernel_rfl
 i0:=by kernel_rfl
 i2:=by kernel_rfl
 i3:=by kernel_rfl
 i4:=by kernel_rfl
 i5:=by kernel_rfl
 i9:=by kernel_rfl
 i20:=by kernel_rfl
 i37:=by kernel_rfl
 i46:=by kernel_rfl
 i51:=by kernel_rfl
 i53:=by kernel_rfl
 i171:=by kernel_rfl
 i173:=by kernel_rfl
 i212:=by kernel_rfl
 i232:=by kernel_rfl
 i233:=by kernel_rfl
 m17:=by kernel_rfl
 m18:=by kernel_rfl
 m19:=by kernel_rfl }
open Go.RowKit Go.Sort Go.Lib in
theorem Tryz.strconv_ItoaC (n : Int) (h0 : -9223372036854775808 ≤ n) (h1 : n ≤ 9223372036854775807) (w : World) (htab : Lib.TabIs Tryz.prog w "internal/strconv.uint64pow10" .u64 Lib.pow10Tab) :
  Calls Tryz.prog 103 #[.int .i64 n] w fun e w'=>e=.returned (.string ⟨(Lib.itoa n).toArray⟩)/\∃ k os,w'=grow (w.drewN k) os:=Any.strconv_Itoa Tryz.laysM171C n h0 h1 w htab
end Go.Proofs
namespace Go.Proofs.YtoncclhbdkjhmaaGreatDoor
open Go.RowKit Go.Sort
set_option maxRecDepth 100000
set_option linter.unusedVariables false
set_option linter.unusedSimpArgs false
attribute [local go_sem] fieldV0 fieldV1 fieldV2 fieldV3
theorem itoaS_p (i:Nat) (hi:i<=1000000) (w:World) (ht:TxT w):Calls Tryz.prog 103 #[.int .i64 ((i:Nat):Int)] w fun e w'=>e=.returned (.string (itoaB i))/\Below w.heap.size w w':=
 (Tryz.strconv_ItoaC (i:Int) (by omega) (by omega) w ht.p10).mono fun e w' ⟨he,k,os,hw⟩=>⟨by rw[he];rfl,by
  subst hw
  exact⟨rfl,rfl,rfl,by show w.heap.size<=(w.heap++os).size;rw[Array.size_append];omega,fun i hi=>heap_grow_old w os hi⟩⟩
def TxRel (g n:Nat) (X:World) (ts:List F) (i:Value) (wr:World):Prop:=
 ∃ (j:Nat) (el:List FU),i=.int .i64 (j:Nat)/\j<=n/\Hid (el.length=n)/\Hid (∀ q (h1:q<el.length) (h2:q<ts.length),q<j->FT wr (fun _=>False) 1 el[q] ts[q])/\Hid (fR.Row wr g (.slice (some ⟨g,0,none⟩) n n) el)/\Hid (Below g X wr)
theorem St.tx {B k:Nat} {E:Nat->Prop} {L s:List F} {w:World} (h:St B k E L s w):TxT w:=by
 obtain⟨km,v,us,M,hU⟩:=h;obtain⟨w0,rfl,h2,h3⟩:=hU.tx;exact h2.below h3
theorem St.len {B k:Nat} {E:Nat->Prop} {L s:List F} {w:World} (h:St B k E L s w):s.length<=900000:=by
 obtain⟨km,v,us,M,hU⟩:=h;exact hU.max
theorem NR0:Hid (∀ w:World,NR w ⟨none,0,0,0⟩):=Lib.hid fun w=>NR.of (by rw[show dig L32 (0:Int).natAbs=[] from by unfold dig;rfl];exact Sl.nil w .u32) (lt_pow_more (k:=4) (k':=600) z4 (by decide))
theorem ref_ft {w:World} {s:List F} {c:F}:FT w (fun _=>False) 1 ⟨opVar (srt c.op),⟨none,0,0,0⟩,itoaB (idx s c),none,0,0⟩ (refF s c):=by
 have h:IR (opVar (srt c.op)):=by rcases opVar_named (srt c.op) with h | h | h<;>rw[h]<;>exact⟨by decide,by decide⟩
 exact⟨⟨rfl,h,rfl,rfl⟩,NR0.out w,[],rfl,⟨rfl,Nat.le_refl _,Nat.zero_le _,fun _=>rfl⟩,fun h=>absurd rfl h,fun i hi=>absurd hi (Nat.not_lt_zero i)⟩
theorem textS_p {B k:Nat} {E:Nat->Prop} {L s:List F} (w:World) (h:St B k E L s w) (S:Nat->Prop) (dd:Nat) (op:Int) (b:Bool) (ao:Option Addr) (l c:Nat) (nm:ByteArray) (po:Option Addr) (pl pc:Nat) (t:F) (hf:FC w S dd (.agg #[.int .i64 op,.bool b,.slice ao l c,.string nm,.slice po pl pc]) t)
  (hg:Gd t) (v:Value) (hv:IL B k E w v (t.kids.map (idx s))) (hks:∀ x ∈ t.kids,x ∈ s) :
  Calls Tryz.prog 166 #[.pointer (some ⟨k,0,none⟩),.agg #[.int .i64 op,.bool b,.slice ao l c,.string nm,.slice po pl pc],v] w fun e w'=>e=.returned (.string ⟨(keyF s t).toArray⟩)/\Below w.heap.size w w':=by
 obtain⟨b',o',l',c',po',pl',pc',e,⟨hir,hz,-,-,-⟩,-,-⟩:=hf.open;simp only[Value.agg.injEq,Array.mk.injEq,List.cons.injEq,Value.int.injEq,Value.bool.injEq,Value.slice.injEq,Value.string.injEq,true_and,and_true] at e;obtain⟨rfl,rfl,⟨rfl,rfl,rfl⟩,rfl,rfl,rfl,rfl⟩:=e;obtain⟨o,ho⟩:∃ o,o=t.op:=⟨_,rfl⟩;obtain⟨nm,hnm⟩:∃ o,o=t.name:=⟨_,rfl⟩;rw[<-ho] at hir;rw[<-ho,<-hnm];obtain⟨ko,kc,rfl,⟨hk1,hk2,hk3⟩,hc⟩:=id hv;have hkm:kc<=9223372036854775807:=hk2;rw[List.length_map] at hk1 hv ⊢;have hl3:t.kids.length<=8:=hg.2.2.2.2.1;obtain⟨n,hn⟩:∃ n,n=t.kids.length:=⟨_,rfl⟩;rw[<-hn] at hk1 hl3 hv ⊢;have HS:=Lib.hid h;have HV:=Lib.hid hv;have HN:=Lib.hid hn;have HKS:=Lib.hid hks;have HG:=Lib.hid hg;have HZ:=Lib.hid hz;have HO:=Lib.hid ho;have HNM:=Lib.hid hnm
 have HIR:=Lib.hid hir;clear h hv hf hn hc hz ho hnm hg hks hir;have HW:=Lib.hid (Below.refl w.heap.size w);go_enter Tryz.func166,Tryz.ntmps166;obtain⟨x1,kf,ef,ekf,hbf,hkf,HBf⟩:=newV w #[.int .i64 o,.bool b,.slice ao l c,.string nm,.slice po pl pc] 29;replace HW:=Lib.hid (HW.out.trans (hbf.out.mono HW.out.size));have HKF:Hid (w.heap.size<=kf):=hkf;have HLF:=Lib.hid (lt_of_block HBf.out);obtain⟨k2,hk9⟩:∃ k,x1.heap.size=k:=⟨_,rfl⟩;go_upto_region 2 with (first | (at_make;refine wpList_make_El fR zFU rfl (fun _=>trivial) _ rfl _ _ rfl x1.heap.size _ _ _ _ n rfl rfl (by first | rfl | simp) (by first | rfl | simp) (by omega) (Nat.le_refl _) ?_;intro y2 hrow hb2;have HB3:=kBV hb2 HBf;have c4:=cell_at (v:=.slice po pl pc) HB3.out 4 rfl;have fc4:=froz_at HB3.out 4) | fail);clear c4 fc4;rw[hk9] at hrow hb2
 have hlf:kf<k2:=by rw[<-hk9];exact HLF.out
 have hg1:y2.grownBy (y2.setCell ⟨kf,4,none⟩ (.slice (some ⟨k2,0,none⟩) n n)) (some kf):=grown_setCell (World.grownBy.refl _ _) _;have hf1:=heap_setCell_same y2 kf 4 _ _ (.slice (some ⟨k2,0,none⟩) n n) HB3.out;obtain⟨W1,hW1⟩:∃ y,y=y2.setCell ⟨kf,4,none⟩ (.slice (some ⟨k2,0,none⟩) n n):=⟨_,rfl⟩;rw[<-hW1] at hg1 hf1 ⊢;have hfB:Fr 29 y2 W1:=.of_grown hg1 (fun j hj=>by injection hj with hj;subst hj;exact⟨_,HB3.out,n32_F⟩);have HR:=Lib.hid (El.Row.other2 (show fR.Row y2 k2 (.slice (some ⟨k2,0,none⟩) n n) (List.replicate n zFU) from hrow) hg1 (fun j hj e=>by have hj2:k2=j:=(by simpa [Value.ownBlock] using hj);omega) hfB trivial);have hb2w:Below w.heap.size w y2:=HW.out.trans ((show Below k2 x1 y2 from hb2).mono (by rw[<-hk9];exact HW.out.size))
 have hbw1:=ext_below hb2w hg1 HKF.out;have hb:=hbw1;clear hb;replace HBf:Hid (W1.heap[kf]?=some (.cells #[.int .i64 o,.bool b,.slice ao l c,.string nm,.slice (some ⟨k2,0,none⟩) n n] 29 (0,0))):=Lib.hid hf1;replace HW:=Lib.hid hbw1;clear hrow hb2 hg1 hf1 hW1 hfB hb2w hbw1 HB3 hk9;have HKF2:Hid (w.heap.size<=kf/\kf<k2):=Lib.hid ⟨HKF.out,hlf⟩;clear hlf HKF HLF hbf hkf;have HLT:Hid ((t.kids.map (refF s)).length=n):=Lib.hid (by rw[List.length_map];exact HN.out.symm);have HB0:=Lib.hid (Below.refl k2 W1);have HBf0:=HBf;go_wp2_with fail;go_loopw [15] (TxRel k2 n W1 (t.kids.map (refF s))) (fun i _=>n - (intOf i).toNat)
 case atStart=>exact⟨0,_,rfl,Nat.zero_le _,Lib.hid List.length_replicate,Lib.hid (fun q _ _ h=>absurd h (Nat.not_lt_zero _)),HR,HB0⟩
 case round =>
  obtain⟨wl,rfl⟩:∃ q,q=wr:=⟨_,rfl⟩;clear HR HBf HB0;obtain⟨j,el,rfl,hj,HE,HT,HR,HB⟩:=hrel;have HBf:=Lib.hid ((HB.out.block kf HKF2.out.2).trans HBf0.out);have HWr:Hid (Below w.heap.size w wl):=Lib.hid (HW.out.trans (HB.out.mono (by have:=HKF2.out;omega)));have HKW:Hid (k2<wl.heap.size):=Lib.hid (HR.out.ge rfl).2;by_cases hlt:j<n
  ·have HJ:Hid (j<t.kids.length):=Lib.hid (by rw[<-HN.out];exact hlt);obtain⟨x,hx⟩:∃ x,x=t.kids[j]'HJ.out:=⟨_,rfl⟩;have hxs:x ∈ s:=HKS.out x (by rw[hx];exact List.getElem_mem HJ.out);obtain⟨i,hi⟩:∃ i,i=idx s x:=⟨_,rfl⟩;obtain⟨ko9,kc9,e9,-,hc9⟩:=HV.out.stp (Stp.of_below HWr.out);injection e9 with e1 e2 e3;subst e1;obtain⟨a,rfl,-,ca⟩:=hc9 j (by rw[List.length_map];exact HJ.out);rw[List.getElem_map,<-hx,<-hi] at ca;have hib:i<=1000000:=by rw[hi];exact Nat.le_trans (Nat.le_of_lt (idx_lt hxs)) (Nat.le_trans HS.out.len (by decide))
   have HSI:Hid (s[i]?=some x):=Lib.hid (by rw[hi];exact idx_get hxs);obtain⟨sx,hsx⟩:∃ z,z=srt x.op:=⟨_,rfl⟩;have HSX:=Lib.hid hsx;have HX:=Lib.hid hx;have HII:=Lib.hid hi;have HIB:=Lib.hid hib;clear hc9 e2 e3 hx hxs hi hib hsx;go_upto_region 5 with fail;clear ca;have hlt_f:=lt_of_block HBf.out;have hog:Hid (∀ q,q<0->(fun q=>0) q<wl.heap.size):=Lib.hid (fun q h=>absurd h (Nat.not_lt_zero _));refine R7.region (by kernel_rfl) [[],[0],[],[],[3],[],[],[3,4,5,6],[3,4,5,6,7],[0,1,2,3,4,5,6,7,8],[0,1,2,3,4,5,6,7,8,9]] [] [] (fun q=>0) 0 10 (by kernel_rfl) (by kernel_rfl) (by rfl) hog.out (fun q q' h h' hn=>absurd hn (by omega)) ?_;refine R7.Chain.det ?_ (by rfl) (fun T xs wr hA=>?_) ?_;rotate_left 1
   ·have e4:=hA.pre 4 (by kernel_rfl);simp only[gsa,gsc,gsz] at e4;clear hA;refine⟨(by rfl),?_⟩;go_simp<;>(try with_reducible rfl)
   refine R7.Chain.det ?_ (by rfl) (fun T xs wr hA=>?_) ?_;rotate_left 1
   ·have e20:=hA.tm 0 20 (by rfl) (by rfl);have f20:xs 0=_:=hA.fa 0 (by rfl);(try simp (disch:=first | rfl | decide) only [R7.mask_in] at f20);rw[f20] at e20;clear f20;have hBq:wr.heap[kf]?=_:=(hA.bl _ hlt_f (fun q h=>absurd h (Nat.not_lt_zero _))).trans HBf.out;have q0:=cell_at (v:=.int .i64 o) hBq 0 rfl;have q1:=cell_at (v:=.bool b) hBq 1 rfl;have q2:=cell_at (v:=.slice ao l c) hBq 2 rfl;have q3:=cell_at (v:=.string nm) hBq 3 rfl;have q4:=cell_at (v:=.slice (some ⟨k2,0,none⟩) n n) hBq 4 rfl;clear hBq;clear hA;refine⟨(by rfl),?_⟩;go_simp<;>(try with_reducible rfl)
   refine R7.Chain.det ?_ (by rfl) (fun T xs wr hA=>?_) ?_;rotate_left 1
   ·have e7:=hA.pre 7 (by kernel_rfl);simp only[gsa,gsc,gsz] at e7;clear hA;refine⟨(by rfl),?_⟩;go_simp<;>(try with_reducible rfl)
   refine R7.Chain.det ?_ (by rfl) (fun T xs wr hA=>?_) ?_;rotate_left 1
   ·have e8:=hA.pre 8 (by kernel_rfl);simp only[gsa,gsc,gsz] at e8;clear hA;refine⟨(by rfl),?_⟩;go_simp<;>(try with_reducible rfl)
   refine R7.Chain.call (fun xs v w=>v=.string (itoaB i)) (fun _ _ _ _ h _=>h) (fun _ _ _ _ _ h _ _=>h) (by rfl) (fun T xs wr hA=>?_) ?_
   ·have hsw:=(hA.be 0 (Nat.zero_le _) (fun _ _=>Nat.zero_le _)).size;have e23:=hA.tm 3 23 (by rfl) (by rfl);have f23:xs 3=_:=hA.fa 3 (by rfl);(try simp (disch:=first | rfl | decide) only [R7.mask_in] at f23);rw[f23] at e23;clear f23;have hbw:=undrew (hA.be wl.heap.size (Nat.le_refl _) (fun q h=>absurd h (Nat.not_lt_zero q)));have hsw2:=HS.out.below (HWr.out.trans (hbw.mono HWr.out.size));clear hA;refine⟨(by rfl),fun K hK=>?_⟩;go_simp;refine (itoaS_p i HIB.out _ hsw2.tx).mono ?_;rintro e w' ⟨rfl,hb'⟩;exact hK.out _ _ rfl hb'
   refine R7.Chain.det ?_ (by rfl) (fun T xs wr hA=>?_) ?_;rotate_left 1
   ·have e0:=hA.pre 0 (by kernel_rfl);simp only[gsa,gsz] at e0;clear hA;refine⟨(by rfl),?_⟩;go_simp<;>(try with_reducible rfl)
   refine R7.Chain.det ?_ (by rfl) (fun T xs wr hA=>?_) ?_;rotate_left 1
   ·have e8:=hA.pre 8 (by kernel_rfl);simp only[gsa,gsc,gsz] at e8;clear hA;refine⟨(by rfl),?_⟩;go_simp<;>(try with_reducible rfl)
   refine R7.Chain.call (fun xs v w=>v=.int .i64 sx) (fun _ _ _ _ h _=>h) (fun _ _ _ _ _ h _ _=>h) (by rfl) (fun T xs wr hA=>?_) ?_
   ·have hsw:=(hA.be 0 (Nat.zero_le _) (fun _ _=>Nat.zero_le _)).size;have e25:=hA.tm 5 25 (by rfl) (by rfl);have f25:xs 5=_:=hA.fa 5 (by rfl);(try simp (disch:=first | rfl | decide) only [R7.mask_in] at f25);rw[f25] at e25;clear f25;have e26:=hA.tm 6 26 (by rfl) (by rfl);have f26:xs 6=_:=hA.fa 6 (by rfl);(try simp (disch:=first | rfl | decide) only [R7.mask_in] at f26);rw[f26] at e26;clear f26;have hbw:=undrew (hA.be wl.heap.size (Nat.le_refl _) (fun q h=>absurd h (Nat.not_lt_zero q)));have hsw2:=HS.out.below (HWr.out.trans (hbw.mono HWr.out.size));clear hA;refine⟨(by rfl),fun K hK=>?_⟩;go_simp;refine (sortS_p _ hsw2 i x HSI.out).mono ?_;rintro e w' ⟨rfl,hb'⟩;rw[<-HSX.out];exact hK.out _ _ rfl hb'
   refine R7.Chain.call (fun xs v w=>v=.agg #[.int .i64 (opVar sx),.bool false,.slice none 0 0,.string (itoaB i),.slice none 0 0]) (fun _ _ _ _ h _=>h) (fun _ _ _ _ _ h _ _=>h) (by rfl) (fun T xs wr hA=>?_) ?_
   ·have hsw:=(hA.be 0 (Nat.zero_le _) (fun _ _=>Nat.zero_le _)).size;have e24:=hA.tm 4 24 (by rfl) (by rfl);have f24:xs 4=(.string (itoaB i)):=hA.fa 4 (by rfl);rw[f24] at e24;clear f24;have e27:=hA.tm 7 27 (by rfl) (by rfl);have f27:xs 7=(.int .i64 sx):=hA.fa 7 (by rfl);rw[f27] at e27;clear f27;have hbw:=undrew (hA.be wl.heap.size (Nat.le_refl _) (fun q h=>absurd h (Nat.not_lt_zero q)));clear hA;refine⟨(by rfl),fun K hK=>?_⟩;go_simp;refine (var_p _ _ _).mono ?_;rintro e w' ⟨rfl,hb'⟩;exact hK.out _ _ rfl hb'
   refine R7.Chain.det ?_ (by rfl) (fun T xs wr hA=>?_) ?_;rotate_left 1
   ·have e21:=hA.tm 1 21 (by rfl) (by rfl);have f21:xs 1=_:=hA.fa 1 (by rfl);(try simp (disch:=first | rfl | decide) only [R7.mask_in] at f21);rw[f21] at e21;clear f21;have e22:=hA.tm 2 22 (by rfl) (by rfl);have f22:xs 2=_:=hA.fa 2 (by rfl);(try simp (disch:=first | rfl | decide) only [R7.mask_in] at f22);rw[f22] at e22;clear f22;clear hA;refine⟨(by rfl),?_⟩;go_simp<;>(try with_reducible rfl)
   refine R7.Chain.done (fun xs x11 hL=>?_);obtain⟨⟨hbe,hbl⟩,hf,-,-⟩:=hL;have f0:xs 0=_:=hf 0 (by decide);(try simp (disch:=first | rfl | decide) only [R7.mask_in] at f0);have f1:xs 1=_:=hf 1 (by decide);(try simp (disch:=first | rfl | decide) only [R7.mask_in] at f1);have f2:xs 2=_:=hf 2 (by decide);(try simp (disch:=first | rfl | decide) only [R7.mask_in] at f2);have f3:xs 3=_:=hf 3 (by decide);(try simp (disch:=first | rfl | decide) only [R7.mask_in] at f3);have f4:xs 4=(.string (itoaB i)):=hf 4 (by decide);have f5:xs 5=_:=hf 5 (by decide);(try simp (disch:=first | rfl | decide) only [R7.mask_in] at f5);have f6:xs 6=_:=hf 6 (by decide);(try simp (disch:=first | rfl | decide) only [R7.mask_in] at f6);have f7:xs 7=(.int .i64 sx):=hf 7 (by decide)
   have f8:xs 8=(.agg #[.int .i64 (opVar sx),.bool false,.slice none 0 0,.string (itoaB i),.slice none 0 0]):=hf 8 (by decide);have f9:xs 9=_:=hf 9 (by decide);(try simp (disch:=first | rfl | decide) only [R7.mask_in] at f9);have hb0:Below 0 wl x11:=undrew (hbe 0 (Nat.zero_le _) (fun _ _=>Nat.zero_le _));have hgr:∀ j,j<wl.heap.size->(∀ q,q<0->(fun q=>0) q≠j)->x11.heap[j]?=wl.heap[j]?:=hbl;clear hbe hbl hf;have hb:Below wl.heap.size wl x11:=⟨hb0.os,hb0.tape,hb0.output,hb0.size,fun q hq=>hgr q hq (fun q h=>absurd h (Nat.not_lt_zero _))⟩;refine R7.rest_list (by decide) (by kernel_rfl) ?_;simp only[R7.fill,t1_,t2_,t3_,t4_,t5_,t6_,t7_,f0,f1,f2,f3,f4,f5,f6,f7,f8,f9];clear hb0 hgr hog hlt_f f0 f1 f2 f3 f4 f5 f6 f7 f8 f9;replace HR:=Lib.hid (HR.out.below hb)
   replace HB:=Lib.hid (HB.out.trans (hb.mono (Nat.le_of_lt HKW.out)));replace HT:=Lib.hid (fun q h1 h2 h3=>(HT.out q h1 h2 h3).below hb);replace hb:=Lib.hid hb;obtain⟨⟨g0,g1,g2,g3,g4⟩,i0,i1,i2,i3,i4⟩:=Row.atF HR.out HE.out.symm (i:=j) (by rw[HE.out];exact hlt);go_wp2_with fail;go_roundw
   case rel =>
    obtain⟨r1,r2⟩:=Row.setF HR.out j (by rw[HE.out];exact hlt) HE.out.symm (⟨opVar sx,⟨none,0,0,0⟩,itoaB i,none,0,0⟩:FU) rfl;have hgP:=putF_grown x11 k2 j (⟨opVar sx,⟨none,0,0,0⟩,itoaB i,none,0,0⟩:FU);refine⟨j+1,el.set j (⟨opVar sx,⟨none,0,0,0⟩,itoaB i,none,0,0⟩:FU),by go_num,hlt,Lib.hid (by rw[List.length_set];exact HE.out),Lib.hid (fun q h1 h2 h3=>?_),Lib.hid r1,Lib.hid (HB.out.trans (grown_belowV hgP (Nat.le_of_lt (HR.out.ge rfl).2) (Nat.le_refl _)))⟩;by_cases hqj:q=j
    ·subst hqj;rw[List.getElem_set_self,List.getElem_map,<-HX.out,HSX.out,HII.out];exact ref_ft
    rw[List.getElem_set_ne (fun e=>hqj e.symm)];exact (HT.out q (by rw[List.length_set] at h1;exact h1) h2 (by omega)).grown hgP (KN.of_fr r2) (fun b hb e=>hb.elim)
   case measure=>simp[intOf];omega
  have ej:j=n:=by omega
  subst ej;obtain⟨⟨c0,c1,c2,c3,c4⟩,fc0,fc1,fc2,fc3,fc4⟩:=cells5V HBf.out;go_wp2_with fail;have hfl:FL wl (fun b=>b=k2) 1 (.slice (some ⟨k2,0,none⟩) j j) (t.kids.map (refF s)):=FL.turned HR.out HE.out.symm (by rw[HE.out];exact HLT.out.symm) rfl (fun q h1 h2=>(HT.out q h1 h2 (by have h3:=HE.out;omega)).mono fun b hb=>hb.elim);have hfc:=FC.mk (nm:=nm) HIR.out (HZ.out.below HWr.out) hfl;have ek:F.node o t.num nm (t.kids.map (refF s))=keyT s t:=by rw[HO.out,HNM.out];rfl
  rw[ek] at hfc;refine (textG_p 2 _ (keyT s t) _ _ hfc (rt_key HG.out.1) (tg_key HG.out.2 (Nat.le_trans HS.out.len (by decide)) HKS.out) (Nat.le_trans (tx_lenG 2 _ (tg_key HG.out.2 (Nat.le_trans HS.out.len (by decide)) HKS.out)) (lenG_le 2 (by decide))) (HS.out.below HWr.out).tx).mono ?_;rintro e w' ⟨rfl,hb⟩;clear c0 fc0 c1 fc1 c2 fc2 c3 fc3 c4 fc4 hfl hfc ek;have HF:=Lib.hid (HWr.out.trans (hb.mono HWr.out.size));clear hb;go_wp2_with fail;go_ret;exact⟨rfl,HF.out⟩
end Go.Proofs.YtoncclhbdkjhmaaGreatDoor
