/-
 Joined texts: LgE,LgF,LgG,LgH,LgI,LgJ,LgK.
-/
import Derived.RangeFuncNested
import Derived.RangeFuncBound
import Derived.RangeFuncCalls
import Derived.RangeFuncLeaves
import Derived.OrdersIn
import Derived.Shelf.Abstract
import Derived.Shelf.RegionOpen
import Derived.WalkKit
import Derived.OwnWalkIn
import Derived.TacticsInMore
import Derived.LoopNIn
import Derived.LoopIn
import Derived.Test.YtdkfnbbebpbhaaaGreatDoorJLogicTexts3
set_option maxHeartbeats 32000000
namespace Go.Proofs.YtdkfnbbebpbhaaaGreatDoor
open Go.RowKit
set_option maxRecDepth 100000
set_option linter.unusedVariables false
set_option linter.unusedSimpArgs false
theorem fits_p (v:Value) (t:F) (d:Nat) (S:Nat->Prop) (w:World) (h:FC w S d v t) :
  Calls Tryz.prog 44 #[v] w fun e w'=>e=.returned (.bool (fitF t.op t.num (srts t.kids)))/\Below w.heap.size w w':=by
 obtain⟨b,ao,l,c,ko,kl,kc,rfl,⟨hr,hz,-,-,-⟩,-,hk⟩:=h.open;obtain⟨o,z,nm,ks⟩:=t;simp only[F.op,F.num,F.name,F.kids] at hr hz hk ⊢;clear h hr;rcases ops21 o with h | h
 ·rcases h with rfl | rfl | rfl | rfl | rfl | rfl | rfl | rfl | rfl | rfl | rfl | rfl | rfl | rfl | rfl | rfl | rfl | rfl | rfl | rfl | rfl
  ·have HX:=Lib.hid hk;have HZ:=Lib.hid hz;clear hk hz;have HW:=Lib.hid (Below.refl w.heap.size w);go_enter Tryz.func44,Tryz.ntmps44
   obtain⟨x1,kf,ef,ekf,hbf,hkf,HBf⟩:=newV w #[.int .i64 0,.bool b,.slice ao l c,.string nm,.slice ko kl kc] 29;replace HX:=Lib.hid (HX.out.below hbf.out);replace HZ:=Lib.hid (HZ.out.below hbf.out);replace HW:=Lib.hid (HW.out.trans (hbf.out.mono HW.out.size));have c0:=cell_at (v:=.int .i64 0) HBf.out 0 rfl;have fc0:=froz_at HBf.out 0;have c1:=cell_at (v:=.bool b) HBf.out 1 rfl;have fc1:=froz_at HBf.out 1;have c2:=cell_at (v:=.slice ao l c) HBf.out 2 rfl;have fc2:=froz_at HBf.out 2;have c3:=cell_at (v:=.string nm) HBf.out 3 rfl;have fc3:=froz_at HBf.out 3;have c4:=cell_at (v:=.slice ko kl kc) HBf.out 4 rfl;have fc4:=froz_at HBf.out 4;go_wp2_with fail
   refine (are_p _ _ ks [] (d - 1) S x1 HX.out (BL.nil _)).mono ?_;rintro e x2 ⟨rfl,hb⟩;clear c0 fc0 c1 fc1 c2 fc2 c3 fc3 c4 fc4;replace HBf:=kBV hb HBf;replace HX:=Lib.hid (HX.out.below hb);replace HZ:=Lib.hid (HZ.out.below hb);replace HW:=Lib.hid (HW.out.trans (hb.mono HW.out.size));go_wp2_with fail
   go_ret
   exact⟨by simp[fitF,kidsOk],HW.out⟩
  ·have HX:=Lib.hid hk;have HZ:=Lib.hid hz;clear hk hz;have HW:=Lib.hid (Below.refl w.heap.size w);go_enter Tryz.func44,Tryz.ntmps44
   obtain⟨x1,kf,ef,ekf,hbf,hkf,HBf⟩:=newV w #[.int .i64 1,.bool b,.slice ao l c,.string nm,.slice ko kl kc] 29;replace HX:=Lib.hid (HX.out.below hbf.out);replace HZ:=Lib.hid (HZ.out.below hbf.out);replace HW:=Lib.hid (HW.out.trans (hbf.out.mono HW.out.size));have c0:=cell_at (v:=.int .i64 1) HBf.out 0 rfl;have fc0:=froz_at HBf.out 0;have c1:=cell_at (v:=.bool b) HBf.out 1 rfl;have fc1:=froz_at HBf.out 1;have c2:=cell_at (v:=.slice ao l c) HBf.out 2 rfl;have fc2:=froz_at HBf.out 2;have c3:=cell_at (v:=.string nm) HBf.out 3 rfl;have fc3:=froz_at HBf.out 3;have c4:=cell_at (v:=.slice ko kl kc) HBf.out 4 rfl;have fc4:=froz_at HBf.out 4;go_wp2_with fail
   refine (are_p _ _ ks [] (d - 1) S x1 HX.out (BL.nil _)).mono ?_;rintro e x2 ⟨rfl,hb⟩;clear c0 fc0 c1 fc1 c2 fc2 c3 fc3 c4 fc4;replace HBf:=kBV hb HBf;replace HX:=Lib.hid (HX.out.below hb);replace HZ:=Lib.hid (HZ.out.below hb);replace HW:=Lib.hid (HW.out.trans (hb.mono HW.out.size));go_wp2_with fail
   go_ret
   exact⟨by simp[fitF,kidsOk],HW.out⟩
  ·have HX:=Lib.hid hk;have HZ:=Lib.hid hz;clear hk hz;have HW:=Lib.hid (Below.refl w.heap.size w);go_enter Tryz.func44,Tryz.ntmps44
   obtain⟨x1,kf,ef,ekf,hbf,hkf,HBf⟩:=newV w #[.int .i64 2,.bool b,.slice ao l c,.string nm,.slice ko kl kc] 29;replace HX:=Lib.hid (HX.out.below hbf.out);replace HZ:=Lib.hid (HZ.out.below hbf.out);replace HW:=Lib.hid (HW.out.trans (hbf.out.mono HW.out.size));have c0:=cell_at (v:=.int .i64 2) HBf.out 0 rfl;have fc0:=froz_at HBf.out 0;have c1:=cell_at (v:=.bool b) HBf.out 1 rfl;have fc1:=froz_at HBf.out 1;have c2:=cell_at (v:=.slice ao l c) HBf.out 2 rfl;have fc2:=froz_at HBf.out 2;have c3:=cell_at (v:=.string nm) HBf.out 3 rfl;have fc3:=froz_at HBf.out 3;have c4:=cell_at (v:=.slice ko kl kc) HBf.out 4 rfl;have fc4:=froz_at HBf.out 4;obtain⟨x2,ky,ey,eky,hby,hky,HBy⟩:=newV x1 #[.int .i64 0,.int .i64 0] 36;replace HBf:=kBV hby.out HBf;replace HX:=Lib.hid (HX.out.below hby.out);replace HZ:=Lib.hid (HZ.out.below hby.out)
   replace HW:=Lib.hid (HW.out.trans (hby.out.mono HW.out.size));go_wp2_with fail
   refine (are_p _ _ ks [0,0] (d - 1) S x2 HX.out (BL.block (ss:=[0,0]) HBy.out (by decide))).mono ?_;rintro e x3 ⟨rfl,hb⟩;clear c0 fc0 c1 fc1 c2 fc2 c3 fc3 c4 fc4;replace HBf:=kBV hb HBf;replace HBy:=kBV hb HBy;replace HX:=Lib.hid (HX.out.below hb);replace HZ:=Lib.hid (HZ.out.below hb);replace HW:=Lib.hid (HW.out.trans (hb.mono HW.out.size));go_wp2_with fail
   go_ret
   exact⟨by simp[fitF,kidsOk],HW.out⟩
  ·have HX:=Lib.hid hk;have HZ:=Lib.hid hz;clear hk hz;have HW:=Lib.hid (Below.refl w.heap.size w);go_enter Tryz.func44,Tryz.ntmps44
   obtain⟨x1,kf,ef,ekf,hbf,hkf,HBf⟩:=newV w #[.int .i64 3,.bool b,.slice ao l c,.string nm,.slice ko kl kc] 29;replace HX:=Lib.hid (HX.out.below hbf.out);replace HZ:=Lib.hid (HZ.out.below hbf.out);replace HW:=Lib.hid (HW.out.trans (hbf.out.mono HW.out.size));have c0:=cell_at (v:=.int .i64 3) HBf.out 0 rfl;have fc0:=froz_at HBf.out 0;have c1:=cell_at (v:=.bool b) HBf.out 1 rfl;have fc1:=froz_at HBf.out 1;have c2:=cell_at (v:=.slice ao l c) HBf.out 2 rfl;have fc2:=froz_at HBf.out 2;have c3:=cell_at (v:=.string nm) HBf.out 3 rfl;have fc3:=froz_at HBf.out 3;have c4:=cell_at (v:=.slice ko kl kc) HBf.out 4 rfl;have fc4:=froz_at HBf.out 4;obtain⟨x2,ky,ey,eky,hby,hky,HBy⟩:=newV x1 #[.int .i64 0] 36;replace HBf:=kBV hby.out HBf;replace HX:=Lib.hid (HX.out.below hby.out);replace HZ:=Lib.hid (HZ.out.below hby.out)
   replace HW:=Lib.hid (HW.out.trans (hby.out.mono HW.out.size));go_wp2_with fail
   refine (are_p _ _ ks [0] (d - 1) S x2 HX.out (BL.block (ss:=[0]) HBy.out (by decide))).mono ?_;rintro e x3 ⟨rfl,hb⟩;clear c0 fc0 c1 fc1 c2 fc2 c3 fc3 c4 fc4;replace HBf:=kBV hb HBf;replace HBy:=kBV hb HBy;replace HX:=Lib.hid (HX.out.below hb);replace HZ:=Lib.hid (HZ.out.below hb);replace HW:=Lib.hid (HW.out.trans (hb.mono HW.out.size));go_wp2_with fail
   go_ret
   exact⟨by simp[fitF,kidsOk],HW.out⟩
  ·have HX:=Lib.hid hk;have HZ:=Lib.hid hz;clear hk hz;have HW:=Lib.hid (Below.refl w.heap.size w);go_enter Tryz.func44,Tryz.ntmps44
   obtain⟨x1,kf,ef,ekf,hbf,hkf,HBf⟩:=newV w #[.int .i64 4,.bool b,.slice ao l c,.string nm,.slice ko kl kc] 29;replace HX:=Lib.hid (HX.out.below hbf.out);replace HZ:=Lib.hid (HZ.out.below hbf.out);replace HW:=Lib.hid (HW.out.trans (hbf.out.mono HW.out.size));have c0:=cell_at (v:=.int .i64 4) HBf.out 0 rfl;have fc0:=froz_at HBf.out 0;have c1:=cell_at (v:=.bool b) HBf.out 1 rfl;have fc1:=froz_at HBf.out 1;have c2:=cell_at (v:=.slice ao l c) HBf.out 2 rfl;have fc2:=froz_at HBf.out 2;have c3:=cell_at (v:=.string nm) HBf.out 3 rfl;have fc3:=froz_at HBf.out 3;have c4:=cell_at (v:=.slice ko kl kc) HBf.out 4 rfl;have fc4:=froz_at HBf.out 4;obtain⟨x2,ky,ey,eky,hby,hky,HBy⟩:=newV x1 #[.int .i64 0,.int .i64 0] 36;replace HBf:=kBV hby.out HBf;replace HX:=Lib.hid (HX.out.below hby.out);replace HZ:=Lib.hid (HZ.out.below hby.out)
   replace HW:=Lib.hid (HW.out.trans (hby.out.mono HW.out.size));go_wp2_with fail
   refine (are_p _ _ ks [0,0] (d - 1) S x2 HX.out (BL.block (ss:=[0,0]) HBy.out (by decide))).mono ?_;rintro e x3 ⟨rfl,hb⟩;clear c0 fc0 c1 fc1 c2 fc2 c3 fc3 c4 fc4;replace HBf:=kBV hb HBf;replace HBy:=kBV hb HBy;replace HX:=Lib.hid (HX.out.below hb);replace HZ:=Lib.hid (HZ.out.below hb);replace HW:=Lib.hid (HW.out.trans (hb.mono HW.out.size));go_wp2_with fail
   go_ret
   exact⟨by simp[fitF,kidsOk],HW.out⟩
  ·have HX:=Lib.hid hk;have HZ:=Lib.hid hz;clear hk hz;have HW:=Lib.hid (Below.refl w.heap.size w);go_enter Tryz.func44,Tryz.ntmps44
   obtain⟨x1,kf,ef,ekf,hbf,hkf,HBf⟩:=newV w #[.int .i64 5,.bool b,.slice ao l c,.string nm,.slice ko kl kc] 29;replace HX:=Lib.hid (HX.out.below hbf.out);replace HZ:=Lib.hid (HZ.out.below hbf.out);replace HW:=Lib.hid (HW.out.trans (hbf.out.mono HW.out.size));have c0:=cell_at (v:=.int .i64 5) HBf.out 0 rfl;have fc0:=froz_at HBf.out 0;have c1:=cell_at (v:=.bool b) HBf.out 1 rfl;have fc1:=froz_at HBf.out 1;have c2:=cell_at (v:=.slice ao l c) HBf.out 2 rfl;have fc2:=froz_at HBf.out 2;have c3:=cell_at (v:=.string nm) HBf.out 3 rfl;have fc3:=froz_at HBf.out 3;have c4:=cell_at (v:=.slice ko kl kc) HBf.out 4 rfl;have fc4:=froz_at HBf.out 4;go_wp2_with fail
   refine (wsign_any _ z 600 x1 HZ.out.gi (by decide)).mono ?_;rintro e x2 ⟨rfl,hb⟩;replace HBf:=kBV hb HBf;replace HX:=Lib.hid (HX.out.below hb);replace HZ:=Lib.hid (HZ.out.below hb);replace HW:=Lib.hid (HW.out.trans (hb.mono HW.out.size));clear c0 fc0 c1 fc1 c2 fc2 c3 fc3 c4 fc4;clear hb;have c0:=cell_at (v:=.int .i64 5) HBf.out 0 rfl;have fc0:=froz_at HBf.out 0;have c1:=cell_at (v:=.bool b) HBf.out 1 rfl;have fc1:=froz_at HBf.out 1;have c2:=cell_at (v:=.slice ao l c) HBf.out 2 rfl;have fc2:=froz_at HBf.out 2;have c3:=cell_at (v:=.string nm) HBf.out 3 rfl;have fc3:=froz_at HBf.out 3;have c4:=cell_at (v:=.slice ko kl kc) HBf.out 4 rfl;have fc4:=froz_at HBf.out 4
   by_cases hs:z<1
   ·have hlt:decide (sgnZ z<1)=true:=by unfold sgnZ;(repeat' split)<;>first | rfl | (simp;omega) | (exfalso;omega)
    have hfit:fitF 5 z (srts ks)=false:=by simp[fitF,kidsOk];omega
    go_wp2_with fail
    go_ret
    exact⟨by rw[hfit];rfl,HW.out⟩
   have hlt:decide (sgnZ z<1)=false:=by unfold sgnZ;(repeat' split)<;>first | rfl | (simp;omega) | (exfalso;omega)
   have hz1:decide (1<=z)=true:=by simp;omega
   obtain⟨x3,ky,ey,eky,hby,hky,HBy⟩:=newV x2 #[.int .i64 0] 36;replace HBf:=kBV hby.out HBf;replace HX:=Lib.hid (HX.out.below hby.out);replace HZ:=Lib.hid (HZ.out.below hby.out);replace HW:=Lib.hid (HW.out.trans (hby.out.mono HW.out.size));go_wp2_with fail
   refine (are_p _ _ ks [0] (d - 1) S x3 HX.out (BL.block (ss:=[0]) HBy.out (by decide))).mono ?_;rintro e x4 ⟨rfl,hb⟩;clear c0 fc0 c1 fc1 c2 fc2 c3 fc3 c4 fc4;replace HBf:=kBV hb HBf;replace HBy:=kBV hb HBy;replace HX:=Lib.hid (HX.out.below hb);replace HZ:=Lib.hid (HZ.out.below hb);replace HW:=Lib.hid (HW.out.trans (hb.mono HW.out.size));go_wp2_with fail
   go_ret
   exact⟨by simp[fitF,kidsOk,hz1],HW.out⟩
  ·have HX:=Lib.hid hk;have HZ:=Lib.hid hz;clear hk hz;have HW:=Lib.hid (Below.refl w.heap.size w);go_enter Tryz.func44,Tryz.ntmps44
   obtain⟨x1,kf,ef,ekf,hbf,hkf,HBf⟩:=newV w #[.int .i64 6,.bool b,.slice ao l c,.string nm,.slice ko kl kc] 29;replace HX:=Lib.hid (HX.out.below hbf.out);replace HZ:=Lib.hid (HZ.out.below hbf.out);replace HW:=Lib.hid (HW.out.trans (hbf.out.mono HW.out.size));have c0:=cell_at (v:=.int .i64 6) HBf.out 0 rfl;have fc0:=froz_at HBf.out 0;have c1:=cell_at (v:=.bool b) HBf.out 1 rfl;have fc1:=froz_at HBf.out 1;have c2:=cell_at (v:=.slice ao l c) HBf.out 2 rfl;have fc2:=froz_at HBf.out 2;have c3:=cell_at (v:=.string nm) HBf.out 3 rfl;have fc3:=froz_at HBf.out 3;have c4:=cell_at (v:=.slice ko kl kc) HBf.out 4 rfl;have fc4:=froz_at HBf.out 4;obtain⟨x2,ky,ey,eky,hby,hky,HBy⟩:=newV x1 #[.int .i64 2] 36;replace HBf:=kBV hby.out HBf;replace HX:=Lib.hid (HX.out.below hby.out);replace HZ:=Lib.hid (HZ.out.below hby.out)
   replace HW:=Lib.hid (HW.out.trans (hby.out.mono HW.out.size));go_wp2_with fail
   refine (are_p _ _ ks [2] (d - 1) S x2 HX.out (BL.block (ss:=[2]) HBy.out (by decide))).mono ?_;rintro e x3 ⟨rfl,hb⟩;clear c0 fc0 c1 fc1 c2 fc2 c3 fc3 c4 fc4;replace HBf:=kBV hb HBf;replace HBy:=kBV hb HBy;replace HX:=Lib.hid (HX.out.below hb);replace HZ:=Lib.hid (HZ.out.below hb);replace HW:=Lib.hid (HW.out.trans (hb.mono HW.out.size));go_wp2_with fail
   go_ret
   exact⟨by simp[fitF,kidsOk],HW.out⟩
  ·have HX:=Lib.hid hk;have HZ:=Lib.hid hz;clear hk hz;have HW:=Lib.hid (Below.refl w.heap.size w);go_enter Tryz.func44,Tryz.ntmps44
   obtain⟨x1,kf,ef,ekf,hbf,hkf,HBf⟩:=newV w #[.int .i64 7,.bool b,.slice ao l c,.string nm,.slice ko kl kc] 29;replace HX:=Lib.hid (HX.out.below hbf.out);replace HZ:=Lib.hid (HZ.out.below hbf.out);replace HW:=Lib.hid (HW.out.trans (hbf.out.mono HW.out.size));have c0:=cell_at (v:=.int .i64 7) HBf.out 0 rfl;have fc0:=froz_at HBf.out 0;have c1:=cell_at (v:=.bool b) HBf.out 1 rfl;have fc1:=froz_at HBf.out 1;have c2:=cell_at (v:=.slice ao l c) HBf.out 2 rfl;have fc2:=froz_at HBf.out 2;have c3:=cell_at (v:=.string nm) HBf.out 3 rfl;have fc3:=froz_at HBf.out 3;have c4:=cell_at (v:=.slice ko kl kc) HBf.out 4 rfl;have fc4:=froz_at HBf.out 4;obtain⟨x2,ky,ey,eky,hby,hky,HBy⟩:=newV x1 #[.int .i64 2] 36;replace HBf:=kBV hby.out HBf;replace HX:=Lib.hid (HX.out.below hby.out);replace HZ:=Lib.hid (HZ.out.below hby.out)
   replace HW:=Lib.hid (HW.out.trans (hby.out.mono HW.out.size));go_wp2_with fail
   refine (are_p _ _ ks [2] (d - 1) S x2 HX.out (BL.block (ss:=[2]) HBy.out (by decide))).mono ?_;rintro e x3 ⟨rfl,hb⟩;clear c0 fc0 c1 fc1 c2 fc2 c3 fc3 c4 fc4;replace HBf:=kBV hb HBf;replace HBy:=kBV hb HBy;replace HX:=Lib.hid (HX.out.below hb);replace HZ:=Lib.hid (HZ.out.below hb);replace HW:=Lib.hid (HW.out.trans (hb.mono HW.out.size));go_wp2_with fail
   go_ret
   exact⟨by simp[fitF,kidsOk],HW.out⟩
  ·have HX:=Lib.hid hk;have HZ:=Lib.hid hz;clear hk hz;have HW:=Lib.hid (Below.refl w.heap.size w);go_enter Tryz.func44,Tryz.ntmps44
   obtain⟨x1,kf,ef,ekf,hbf,hkf,HBf⟩:=newV w #[.int .i64 8,.bool b,.slice ao l c,.string nm,.slice ko kl kc] 29;replace HX:=Lib.hid (HX.out.below hbf.out);replace HZ:=Lib.hid (HZ.out.below hbf.out);replace HW:=Lib.hid (HW.out.trans (hbf.out.mono HW.out.size));have c0:=cell_at (v:=.int .i64 8) HBf.out 0 rfl;have fc0:=froz_at HBf.out 0;have c1:=cell_at (v:=.bool b) HBf.out 1 rfl;have fc1:=froz_at HBf.out 1;have c2:=cell_at (v:=.slice ao l c) HBf.out 2 rfl;have fc2:=froz_at HBf.out 2;have c3:=cell_at (v:=.string nm) HBf.out 3 rfl;have fc3:=froz_at HBf.out 3;have c4:=cell_at (v:=.slice ko kl kc) HBf.out 4 rfl;have fc4:=froz_at HBf.out 4;go_wp2_with fail
   refine (are_p _ _ ks [] (d - 1) S x1 HX.out (BL.nil _)).mono ?_;rintro e x2 ⟨rfl,hb⟩;clear c0 fc0 c1 fc1 c2 fc2 c3 fc3 c4 fc4;replace HBf:=kBV hb HBf;replace HX:=Lib.hid (HX.out.below hb);replace HZ:=Lib.hid (HZ.out.below hb);replace HW:=Lib.hid (HW.out.trans (hb.mono HW.out.size));go_wp2_with fail
   go_ret
   exact⟨by simp[fitF,kidsOk],HW.out⟩
  ·have HX:=Lib.hid hk;have HZ:=Lib.hid hz;clear hk hz;have HW:=Lib.hid (Below.refl w.heap.size w);go_enter Tryz.func44,Tryz.ntmps44
   obtain⟨x1,kf,ef,ekf,hbf,hkf,HBf⟩:=newV w #[.int .i64 9,.bool b,.slice ao l c,.string nm,.slice ko kl kc] 29;replace HX:=Lib.hid (HX.out.below hbf.out);replace HZ:=Lib.hid (HZ.out.below hbf.out);replace HW:=Lib.hid (HW.out.trans (hbf.out.mono HW.out.size));have c0:=cell_at (v:=.int .i64 9) HBf.out 0 rfl;have fc0:=froz_at HBf.out 0;have c1:=cell_at (v:=.bool b) HBf.out 1 rfl;have fc1:=froz_at HBf.out 1;have c2:=cell_at (v:=.slice ao l c) HBf.out 2 rfl;have fc2:=froz_at HBf.out 2;have c3:=cell_at (v:=.string nm) HBf.out 3 rfl;have fc3:=froz_at HBf.out 3;have c4:=cell_at (v:=.slice ko kl kc) HBf.out 4 rfl;have fc4:=froz_at HBf.out 4;go_wp2_with fail
   refine (are_p _ _ ks [] (d - 1) S x1 HX.out (BL.nil _)).mono ?_;rintro e x2 ⟨rfl,hb⟩;clear c0 fc0 c1 fc1 c2 fc2 c3 fc3 c4 fc4;replace HBf:=kBV hb HBf;replace HX:=Lib.hid (HX.out.below hb);replace HZ:=Lib.hid (HZ.out.below hb);replace HW:=Lib.hid (HW.out.trans (hb.mono HW.out.size));go_wp2_with fail
   go_ret
   exact⟨by simp[fitF,kidsOk],HW.out⟩
  ·have HX:=Lib.hid hk;have HZ:=Lib.hid hz;clear hk hz;have HW:=Lib.hid (Below.refl w.heap.size w);go_enter Tryz.func44,Tryz.ntmps44
   obtain⟨x1,kf,ef,ekf,hbf,hkf,HBf⟩:=newV w #[.int .i64 10,.bool b,.slice ao l c,.string nm,.slice ko kl kc] 29;replace HX:=Lib.hid (HX.out.below hbf.out);replace HZ:=Lib.hid (HZ.out.below hbf.out);replace HW:=Lib.hid (HW.out.trans (hbf.out.mono HW.out.size));have c0:=cell_at (v:=.int .i64 10) HBf.out 0 rfl;have fc0:=froz_at HBf.out 0;have c1:=cell_at (v:=.bool b) HBf.out 1 rfl;have fc1:=froz_at HBf.out 1;have c2:=cell_at (v:=.slice ao l c) HBf.out 2 rfl;have fc2:=froz_at HBf.out 2;have c3:=cell_at (v:=.string nm) HBf.out 3 rfl;have fc3:=froz_at HBf.out 3;have c4:=cell_at (v:=.slice ko kl kc) HBf.out 4 rfl;have fc4:=froz_at HBf.out 4;obtain⟨x2,ky,ey,eky,hby,hky,HBy⟩:=newV x1 #[.int .i64 0,.int .i64 2] 36;replace HBf:=kBV hby.out HBf;replace HX:=Lib.hid (HX.out.below hby.out);replace HZ:=Lib.hid (HZ.out.below hby.out)
   replace HW:=Lib.hid (HW.out.trans (hby.out.mono HW.out.size));go_wp2_with fail
   refine (are_p _ _ ks [0,2] (d - 1) S x2 HX.out (BL.block (ss:=[0,2]) HBy.out (by decide))).mono ?_;rintro e x3 ⟨rfl,hb⟩;clear c0 fc0 c1 fc1 c2 fc2 c3 fc3 c4 fc4;replace HBf:=kBV hb HBf;replace HBy:=kBV hb HBy;replace HX:=Lib.hid (HX.out.below hb);replace HZ:=Lib.hid (HZ.out.below hb);replace HW:=Lib.hid (HW.out.trans (hb.mono HW.out.size));go_wp2_with fail
   go_ret
   exact⟨by simp[fitF,kidsOk],HW.out⟩
  ·have HX:=Lib.hid hk;have HZ:=Lib.hid hz;clear hk hz;have HW:=Lib.hid (Below.refl w.heap.size w);go_enter Tryz.func44,Tryz.ntmps44
   obtain⟨x1,kf,ef,ekf,hbf,hkf,HBf⟩:=newV w #[.int .i64 11,.bool b,.slice ao l c,.string nm,.slice ko kl kc] 29;replace HX:=Lib.hid (HX.out.below hbf.out);replace HZ:=Lib.hid (HZ.out.below hbf.out);replace HW:=Lib.hid (HW.out.trans (hbf.out.mono HW.out.size));have c0:=cell_at (v:=.int .i64 11) HBf.out 0 rfl;have fc0:=froz_at HBf.out 0;have c1:=cell_at (v:=.bool b) HBf.out 1 rfl;have fc1:=froz_at HBf.out 1;have c2:=cell_at (v:=.slice ao l c) HBf.out 2 rfl;have fc2:=froz_at HBf.out 2;have c3:=cell_at (v:=.string nm) HBf.out 3 rfl;have fc3:=froz_at HBf.out 3;have c4:=cell_at (v:=.slice ko kl kc) HBf.out 4 rfl;have fc4:=froz_at HBf.out 4;obtain⟨x2,ky,ey,eky,hby,hky,HBy⟩:=newV x1 #[.int .i64 2] 36;replace HBf:=kBV hby.out HBf;replace HX:=Lib.hid (HX.out.below hby.out);replace HZ:=Lib.hid (HZ.out.below hby.out)
   replace HW:=Lib.hid (HW.out.trans (hby.out.mono HW.out.size));go_wp2_with fail
   refine (are_p _ _ ks [2] (d - 1) S x2 HX.out (BL.block (ss:=[2]) HBy.out (by decide))).mono ?_;rintro e x3 ⟨rfl,hb⟩;clear c0 fc0 c1 fc1 c2 fc2 c3 fc3 c4 fc4;replace HBf:=kBV hb HBf;replace HBy:=kBV hb HBy;replace HX:=Lib.hid (HX.out.below hb);replace HZ:=Lib.hid (HZ.out.below hb);replace HW:=Lib.hid (HW.out.trans (hb.mono HW.out.size));go_wp2_with fail
   go_ret
   exact⟨by simp[fitF,kidsOk],HW.out⟩
  ·have HX:=Lib.hid hk;have HZ:=Lib.hid hz;clear hk hz;have HW:=Lib.hid (Below.refl w.heap.size w);go_enter Tryz.func44,Tryz.ntmps44
   obtain⟨x1,kf,ef,ekf,hbf,hkf,HBf⟩:=newV w #[.int .i64 12,.bool b,.slice ao l c,.string nm,.slice ko kl kc] 29;replace HX:=Lib.hid (HX.out.below hbf.out);replace HZ:=Lib.hid (HZ.out.below hbf.out);replace HW:=Lib.hid (HW.out.trans (hbf.out.mono HW.out.size));have c0:=cell_at (v:=.int .i64 12) HBf.out 0 rfl;have fc0:=froz_at HBf.out 0;have c1:=cell_at (v:=.bool b) HBf.out 1 rfl;have fc1:=froz_at HBf.out 1;have c2:=cell_at (v:=.slice ao l c) HBf.out 2 rfl;have fc2:=froz_at HBf.out 2;have c3:=cell_at (v:=.string nm) HBf.out 3 rfl;have fc3:=froz_at HBf.out 3;have c4:=cell_at (v:=.slice ko kl kc) HBf.out 4 rfl;have fc4:=froz_at HBf.out 4;go_wp2_with fail
   refine (are_p _ _ ks [] (d - 1) S x1 HX.out (BL.nil _)).mono ?_;rintro e x2 ⟨rfl,hb⟩;clear c0 fc0 c1 fc1 c2 fc2 c3 fc3 c4 fc4;replace HBf:=kBV hb HBf;replace HX:=Lib.hid (HX.out.below hb);replace HZ:=Lib.hid (HZ.out.below hb);replace HW:=Lib.hid (HW.out.trans (hb.mono HW.out.size));go_wp2_with fail
   go_ret
   exact⟨by simp[fitF,kidsOk],HW.out⟩
  ·have HX:=Lib.hid hk;have HZ:=Lib.hid hz;clear hk hz;have HW:=Lib.hid (Below.refl w.heap.size w);go_enter Tryz.func44,Tryz.ntmps44
   obtain⟨x1,kf,ef,ekf,hbf,hkf,HBf⟩:=newV w #[.int .i64 13,.bool b,.slice ao l c,.string nm,.slice ko kl kc] 29;replace HX:=Lib.hid (HX.out.below hbf.out);replace HZ:=Lib.hid (HZ.out.below hbf.out);replace HW:=Lib.hid (HW.out.trans (hbf.out.mono HW.out.size));have c0:=cell_at (v:=.int .i64 13) HBf.out 0 rfl;have fc0:=froz_at HBf.out 0;have c1:=cell_at (v:=.bool b) HBf.out 1 rfl;have fc1:=froz_at HBf.out 1;have c2:=cell_at (v:=.slice ao l c) HBf.out 2 rfl;have fc2:=froz_at HBf.out 2;have c3:=cell_at (v:=.string nm) HBf.out 3 rfl;have fc3:=froz_at HBf.out 3;have c4:=cell_at (v:=.slice ko kl kc) HBf.out 4 rfl;have fc4:=froz_at HBf.out 4;go_wp2_with fail
   refine (are_p _ _ ks [] (d - 1) S x1 HX.out (BL.nil _)).mono ?_;rintro e x2 ⟨rfl,hb⟩;clear c0 fc0 c1 fc1 c2 fc2 c3 fc3 c4 fc4;replace HBf:=kBV hb HBf;replace HX:=Lib.hid (HX.out.below hb);replace HZ:=Lib.hid (HZ.out.below hb);replace HW:=Lib.hid (HW.out.trans (hb.mono HW.out.size));go_wp2_with fail
   go_ret
   exact⟨by simp[fitF,kidsOk],HW.out⟩
  ·have HX:=Lib.hid hk;have HZ:=Lib.hid hz;clear hk hz;have HW:=Lib.hid (Below.refl w.heap.size w);go_enter Tryz.func44,Tryz.ntmps44
   obtain⟨x1,kf,ef,ekf,hbf,hkf,HBf⟩:=newV w #[.int .i64 14,.bool b,.slice ao l c,.string nm,.slice ko kl kc] 29;replace HX:=Lib.hid (HX.out.below hbf.out);replace HZ:=Lib.hid (HZ.out.below hbf.out);replace HW:=Lib.hid (HW.out.trans (hbf.out.mono HW.out.size));have c0:=cell_at (v:=.int .i64 14) HBf.out 0 rfl;have fc0:=froz_at HBf.out 0;have c1:=cell_at (v:=.bool b) HBf.out 1 rfl;have fc1:=froz_at HBf.out 1;have c2:=cell_at (v:=.slice ao l c) HBf.out 2 rfl;have fc2:=froz_at HBf.out 2;have c3:=cell_at (v:=.string nm) HBf.out 3 rfl;have fc3:=froz_at HBf.out 3;have c4:=cell_at (v:=.slice ko kl kc) HBf.out 4 rfl;have fc4:=froz_at HBf.out 4;go_wp2_with fail
   refine (are_p _ _ ks [] (d - 1) S x1 HX.out (BL.nil _)).mono ?_;rintro e x2 ⟨rfl,hb⟩;clear c0 fc0 c1 fc1 c2 fc2 c3 fc3 c4 fc4;replace HBf:=kBV hb HBf;replace HX:=Lib.hid (HX.out.below hb);replace HZ:=Lib.hid (HZ.out.below hb);replace HW:=Lib.hid (HW.out.trans (hb.mono HW.out.size));go_wp2_with fail
   go_ret
   exact⟨by simp[fitF,kidsOk],HW.out⟩
  ·have HX:=Lib.hid hk;have HZ:=Lib.hid hz;clear hk hz;have HW:=Lib.hid (Below.refl w.heap.size w);go_enter Tryz.func44,Tryz.ntmps44
   obtain⟨x1,kf,ef,ekf,hbf,hkf,HBf⟩:=newV w #[.int .i64 15,.bool b,.slice ao l c,.string nm,.slice ko kl kc] 29;replace HX:=Lib.hid (HX.out.below hbf.out);replace HZ:=Lib.hid (HZ.out.below hbf.out);replace HW:=Lib.hid (HW.out.trans (hbf.out.mono HW.out.size));have c0:=cell_at (v:=.int .i64 15) HBf.out 0 rfl;have fc0:=froz_at HBf.out 0;have c1:=cell_at (v:=.bool b) HBf.out 1 rfl;have fc1:=froz_at HBf.out 1;have c2:=cell_at (v:=.slice ao l c) HBf.out 2 rfl;have fc2:=froz_at HBf.out 2;have c3:=cell_at (v:=.string nm) HBf.out 3 rfl;have fc3:=froz_at HBf.out 3;have c4:=cell_at (v:=.slice ko kl kc) HBf.out 4 rfl;have fc4:=froz_at HBf.out 4;obtain⟨x2,ky,ey,eky,hby,hky,HBy⟩:=newV x1 #[.int .i64 0,.int .i64 0] 36;replace HBf:=kBV hby.out HBf;replace HX:=Lib.hid (HX.out.below hby.out);replace HZ:=Lib.hid (HZ.out.below hby.out)
   replace HW:=Lib.hid (HW.out.trans (hby.out.mono HW.out.size));go_wp2_with fail
   refine (are_p _ _ ks [0,0] (d - 1) S x2 HX.out (BL.block (ss:=[0,0]) HBy.out (by decide))).mono ?_;rintro e x3 ⟨rfl,hb⟩;clear c0 fc0 c1 fc1 c2 fc2 c3 fc3 c4 fc4;replace HBf:=kBV hb HBf;replace HBy:=kBV hb HBy;replace HX:=Lib.hid (HX.out.below hb);replace HZ:=Lib.hid (HZ.out.below hb);replace HW:=Lib.hid (HW.out.trans (hb.mono HW.out.size));go_wp2_with fail
   go_ret
   exact⟨by simp[fitF,kidsOk],HW.out⟩
  ·have HX:=Lib.hid hk;have HZ:=Lib.hid hz;clear hk hz;have HW:=Lib.hid (Below.refl w.heap.size w);go_enter Tryz.func44,Tryz.ntmps44
   obtain⟨x1,kf,ef,ekf,hbf,hkf,HBf⟩:=newV w #[.int .i64 16,.bool b,.slice ao l c,.string nm,.slice ko kl kc] 29;replace HX:=Lib.hid (HX.out.below hbf.out);replace HZ:=Lib.hid (HZ.out.below hbf.out);replace HW:=Lib.hid (HW.out.trans (hbf.out.mono HW.out.size));have c0:=cell_at (v:=.int .i64 16) HBf.out 0 rfl;have fc0:=froz_at HBf.out 0;have c1:=cell_at (v:=.bool b) HBf.out 1 rfl;have fc1:=froz_at HBf.out 1;have c2:=cell_at (v:=.slice ao l c) HBf.out 2 rfl;have fc2:=froz_at HBf.out 2;have c3:=cell_at (v:=.string nm) HBf.out 3 rfl;have fc3:=froz_at HBf.out 3;have c4:=cell_at (v:=.slice ko kl kc) HBf.out 4 rfl;have fc4:=froz_at HBf.out 4;obtain⟨x2,ky,ey,eky,hby,hky,HBy⟩:=newV x1 #[.int .i64 0,.int .i64 0] 36;replace HBf:=kBV hby.out HBf;replace HX:=Lib.hid (HX.out.below hby.out);replace HZ:=Lib.hid (HZ.out.below hby.out)
   replace HW:=Lib.hid (HW.out.trans (hby.out.mono HW.out.size));go_wp2_with fail
   refine (are_p _ _ ks [0,0] (d - 1) S x2 HX.out (BL.block (ss:=[0,0]) HBy.out (by decide))).mono ?_;rintro e x3 ⟨rfl,hb⟩;clear c0 fc0 c1 fc1 c2 fc2 c3 fc3 c4 fc4;replace HBf:=kBV hb HBf;replace HBy:=kBV hb HBy;replace HX:=Lib.hid (HX.out.below hb);replace HZ:=Lib.hid (HZ.out.below hb);replace HW:=Lib.hid (HW.out.trans (hb.mono HW.out.size));have c0:=cell_at (v:=.int .i64 16) HBf.out 0 rfl;have fc0:=froz_at HBf.out 0;have c1:=cell_at (v:=.bool b) HBf.out 1 rfl;have fc1:=froz_at HBf.out 1;have c2:=cell_at (v:=.slice ao l c) HBf.out 2 rfl;have fc2:=froz_at HBf.out 2;have c3:=cell_at (v:=.string nm) HBf.out 3 rfl;have fc3:=froz_at HBf.out 3;have c4:=cell_at (v:=.slice ko kl kc) HBf.out 4 rfl;have fc4:=froz_at HBf.out 4
   by_cases hs:srts ks=[0,0]
   ·rw[decide_eq_true hs];go_wp2_with fail
    go_ret
    exact⟨by simp[fitF,kidsOk,hs],HW.out⟩
   rw[decide_eq_false hs];obtain⟨x4,kt,et,ekt,hbt,hkt,HBt⟩:=newV x3 #[.int .i64 2,.int .i64 2] 36;replace HBf:=kBV hbt.out HBf;replace HBy:=kBV hbt.out HBy;replace HX:=Lib.hid (HX.out.below hbt.out);replace HZ:=Lib.hid (HZ.out.below hbt.out);replace HW:=Lib.hid (HW.out.trans (hbt.out.mono HW.out.size));go_wp2_with fail
   refine (are_p _ _ ks [2,2] (d - 1) S x4 HX.out (BL.block (ss:=[2,2]) HBt.out (by decide))).mono ?_;rintro e x5 ⟨rfl,hb⟩;clear c0 fc0 c1 fc1 c2 fc2 c3 fc3 c4 fc4;replace HBf:=kBV hb HBf;replace HBy:=kBV hb HBy;replace HBt:=kBV hb HBt;replace HX:=Lib.hid (HX.out.below hb);replace HZ:=Lib.hid (HZ.out.below hb);replace HW:=Lib.hid (HW.out.trans (hb.mono HW.out.size));go_wp2_with fail
   go_ret
   exact⟨by simp[fitF,kidsOk,hs],HW.out⟩
  ·have HX:=Lib.hid hk;have HZ:=Lib.hid hz;clear hk hz;have HW:=Lib.hid (Below.refl w.heap.size w);go_enter Tryz.func44,Tryz.ntmps44
   obtain⟨x1,kf,ef,ekf,hbf,hkf,HBf⟩:=newV w #[.int .i64 17,.bool b,.slice ao l c,.string nm,.slice ko kl kc] 29;replace HX:=Lib.hid (HX.out.below hbf.out);replace HZ:=Lib.hid (HZ.out.below hbf.out);replace HW:=Lib.hid (HW.out.trans (hbf.out.mono HW.out.size));have c0:=cell_at (v:=.int .i64 17) HBf.out 0 rfl;have fc0:=froz_at HBf.out 0;have c1:=cell_at (v:=.bool b) HBf.out 1 rfl;have fc1:=froz_at HBf.out 1;have c2:=cell_at (v:=.slice ao l c) HBf.out 2 rfl;have fc2:=froz_at HBf.out 2;have c3:=cell_at (v:=.string nm) HBf.out 3 rfl;have fc3:=froz_at HBf.out 3;have c4:=cell_at (v:=.slice ko kl kc) HBf.out 4 rfl;have fc4:=froz_at HBf.out 4;obtain⟨x2,ky,ey,eky,hby,hky,HBy⟩:=newV x1 #[.int .i64 1] 36;replace HBf:=kBV hby.out HBf;replace HX:=Lib.hid (HX.out.below hby.out);replace HZ:=Lib.hid (HZ.out.below hby.out)
   replace HW:=Lib.hid (HW.out.trans (hby.out.mono HW.out.size));go_wp2_with fail
   refine (are_p _ _ ks [1] (d - 1) S x2 HX.out (BL.block (ss:=[1]) HBy.out (by decide))).mono ?_;rintro e x3 ⟨rfl,hb⟩;clear c0 fc0 c1 fc1 c2 fc2 c3 fc3 c4 fc4;replace HBf:=kBV hb HBf;replace HBy:=kBV hb HBy;replace HX:=Lib.hid (HX.out.below hb);replace HZ:=Lib.hid (HZ.out.below hb);replace HW:=Lib.hid (HW.out.trans (hb.mono HW.out.size));go_wp2_with fail
   go_ret
   exact⟨by simp[fitF,kidsOk],HW.out⟩
  ·have HX:=Lib.hid hk;have HZ:=Lib.hid hz;clear hk hz;have HW:=Lib.hid (Below.refl w.heap.size w);go_enter Tryz.func44,Tryz.ntmps44
   obtain⟨x1,kf,ef,ekf,hbf,hkf,HBf⟩:=newV w #[.int .i64 18,.bool b,.slice ao l c,.string nm,.slice ko kl kc] 29;replace HX:=Lib.hid (HX.out.below hbf.out);replace HZ:=Lib.hid (HZ.out.below hbf.out);replace HW:=Lib.hid (HW.out.trans (hbf.out.mono HW.out.size));have c0:=cell_at (v:=.int .i64 18) HBf.out 0 rfl;have fc0:=froz_at HBf.out 0;have c1:=cell_at (v:=.bool b) HBf.out 1 rfl;have fc1:=froz_at HBf.out 1;have c2:=cell_at (v:=.slice ao l c) HBf.out 2 rfl;have fc2:=froz_at HBf.out 2;have c3:=cell_at (v:=.string nm) HBf.out 3 rfl;have fc3:=froz_at HBf.out 3;have c4:=cell_at (v:=.slice ko kl kc) HBf.out 4 rfl;have fc4:=froz_at HBf.out 4;go_wp2_with fail
   refine (areAll_p _ 1 ks (d - 1) S x1 HX.out).mono ?_;rintro e x2 ⟨rfl,hb⟩;clear c0 fc0 c1 fc1 c2 fc2 c3 fc3 c4 fc4;replace HBf:=kBV hb HBf;replace HX:=Lib.hid (HX.out.below hb);replace HZ:=Lib.hid (HZ.out.below hb);replace HW:=Lib.hid (HW.out.trans (hb.mono HW.out.size));go_wp2_with fail
   go_ret
   exact⟨by simp[fitF,kidsOk],HW.out⟩
  ·have HX:=Lib.hid hk;have HZ:=Lib.hid hz;clear hk hz;have HW:=Lib.hid (Below.refl w.heap.size w);go_enter Tryz.func44,Tryz.ntmps44
   obtain⟨x1,kf,ef,ekf,hbf,hkf,HBf⟩:=newV w #[.int .i64 19,.bool b,.slice ao l c,.string nm,.slice ko kl kc] 29;replace HX:=Lib.hid (HX.out.below hbf.out);replace HZ:=Lib.hid (HZ.out.below hbf.out);replace HW:=Lib.hid (HW.out.trans (hbf.out.mono HW.out.size));have c0:=cell_at (v:=.int .i64 19) HBf.out 0 rfl;have fc0:=froz_at HBf.out 0;have c1:=cell_at (v:=.bool b) HBf.out 1 rfl;have fc1:=froz_at HBf.out 1;have c2:=cell_at (v:=.slice ao l c) HBf.out 2 rfl;have fc2:=froz_at HBf.out 2;have c3:=cell_at (v:=.string nm) HBf.out 3 rfl;have fc3:=froz_at HBf.out 3;have c4:=cell_at (v:=.slice ko kl kc) HBf.out 4 rfl;have fc4:=froz_at HBf.out 4;go_wp2_with fail
   refine (areAll_p _ 1 ks (d - 1) S x1 HX.out).mono ?_;rintro e x2 ⟨rfl,hb⟩;clear c0 fc0 c1 fc1 c2 fc2 c3 fc3 c4 fc4;replace HBf:=kBV hb HBf;replace HX:=Lib.hid (HX.out.below hb);replace HZ:=Lib.hid (HZ.out.below hb);replace HW:=Lib.hid (HW.out.trans (hb.mono HW.out.size));go_wp2_with fail
   go_ret
   exact⟨by simp[fitF,kidsOk],HW.out⟩
  have HX:=Lib.hid hk;have HZ:=Lib.hid hz;clear hk hz;have HW:=Lib.hid (Below.refl w.heap.size w);go_enter Tryz.func44,Tryz.ntmps44
  obtain⟨x1,kf,ef,ekf,hbf,hkf,HBf⟩:=newV w #[.int .i64 20,.bool b,.slice ao l c,.string nm,.slice ko kl kc] 29;replace HX:=Lib.hid (HX.out.below hbf.out);replace HZ:=Lib.hid (HZ.out.below hbf.out);replace HW:=Lib.hid (HW.out.trans (hbf.out.mono HW.out.size));have c0:=cell_at (v:=.int .i64 20) HBf.out 0 rfl;have fc0:=froz_at HBf.out 0;have c1:=cell_at (v:=.bool b) HBf.out 1 rfl;have fc1:=froz_at HBf.out 1;have c2:=cell_at (v:=.slice ao l c) HBf.out 2 rfl;have fc2:=froz_at HBf.out 2;have c3:=cell_at (v:=.string nm) HBf.out 3 rfl;have fc3:=froz_at HBf.out 3;have c4:=cell_at (v:=.slice ko kl kc) HBf.out 4 rfl;have fc4:=froz_at HBf.out 4;obtain⟨x2,ky,ey,eky,hby,hky,HBy⟩:=newV x1 #[.int .i64 1,.int .i64 1] 36;replace HBf:=kBV hby.out HBf;replace HX:=Lib.hid (HX.out.below hby.out);replace HZ:=Lib.hid (HZ.out.below hby.out)
  replace HW:=Lib.hid (HW.out.trans (hby.out.mono HW.out.size));go_wp2_with fail
  refine (are_p _ _ ks [1,1] (d - 1) S x2 HX.out (BL.block (ss:=[1,1]) HBy.out (by decide))).mono ?_;rintro e x3 ⟨rfl,hb⟩;clear c0 fc0 c1 fc1 c2 fc2 c3 fc3 c4 fc4;replace HBf:=kBV hb HBf;replace HBy:=kBV hb HBy;replace HX:=Lib.hid (HX.out.below hb);replace HZ:=Lib.hid (HZ.out.below hb);replace HW:=Lib.hid (HW.out.trans (hb.mono HW.out.size));go_wp2_with fail
  go_ret
  exact⟨by simp[fitF,kidsOk],HW.out⟩
 have n0:(o==0)=false:=beq_eq_false_iff_ne.2 (by omega);have n1:(o==1)=false:=beq_eq_false_iff_ne.2 (by omega);have n2:(o==2)=false:=beq_eq_false_iff_ne.2 (by omega);have n3:(o==3)=false:=beq_eq_false_iff_ne.2 (by omega);have n4:(o==4)=false:=beq_eq_false_iff_ne.2 (by omega);have n5:(o==5)=false:=beq_eq_false_iff_ne.2 (by omega);have n6:(o==6)=false:=beq_eq_false_iff_ne.2 (by omega);have n7:(o==7)=false:=beq_eq_false_iff_ne.2 (by omega);have n8:(o==8)=false:=beq_eq_false_iff_ne.2 (by omega);have n9:(o==9)=false:=beq_eq_false_iff_ne.2 (by omega);have n10:(o==10)=false:=beq_eq_false_iff_ne.2 (by omega);have n11:(o==11)=false:=beq_eq_false_iff_ne.2 (by omega);have n12:(o==12)=false:=beq_eq_false_iff_ne.2 (by omega);have n13:(o==13)=false:=beq_eq_false_iff_ne.2 (by omega)
 have n14:(o==14)=false:=beq_eq_false_iff_ne.2 (by omega);have n15:(o==15)=false:=beq_eq_false_iff_ne.2 (by omega);have n16:(o==16)=false:=beq_eq_false_iff_ne.2 (by omega);have n17:(o==17)=false:=beq_eq_false_iff_ne.2 (by omega);have n18:(o==18)=false:=beq_eq_false_iff_ne.2 (by omega);have n19:(o==19)=false:=beq_eq_false_iff_ne.2 (by omega);have n20:(o==20)=false:=beq_eq_false_iff_ne.2 (by omega)
 have hf:fitF o z (srts ks)=false:=by
  unfold fitF kidsOk;rw[if_neg (by omega),if_neg (by omega),if_neg (by omega),if_neg (by omega),if_neg (by omega),if_neg (by omega),if_neg (by omega),if_neg (by omega),if_neg (by omega)]
  rfl
 clear h;have HW:=Lib.hid ((Below.refl w.heap.size w).alloc (Nat.le_refl _) (.cells #[.int .i64 o,.bool b,.slice ao l c,.string nm,.slice ko kl kc] 29));clear hk hz;go_enter Tryz.func44,Tryz.ntmps44
 go_wp2_with fail
 go_ret
 exact⟨by rw[hf];rfl,HW.out⟩
theorem canon_p (v:Value) (z:Int) (k:Nat) (w:World) (h:CI w v z k) :
  Calls Tryz.prog 45 #[v] w fun e w'=>e=.returned (.bool true)/\Below w.heap.size w w':=by
 obtain⟨va,rfl,h1,-⟩:=h;obtain⟨ao,cap,rfl,h2,h3,h4,h5⟩:=h1
 by_cases h0:z=0
 ·subst h0;have e0:(dig L32 (Int.natAbs 0)).length=0:=by rw[Int.natAbs_zero,dig_zero];rfl
  rw[e0] at h2 ⊢;rw[show decide ((0:Int)<0)=false from rfl];have HW:=Lib.hid ((Below.refl w.heap.size w).alloc (Nat.le_refl _) (.cells #[.bool false,.slice ao 0 cap] 26));clear h5;go_enter Tryz.func45,Tryz.ntmps45
  go_wp2_with fail
  go_ret
  exact⟨rfl,HW.out⟩
 have hp:0<(dig L32 z.natAbs).length:=dig_len_pos (by omega);have hl:=dig_last (B:=L32) (by decide) hp;obtain⟨a,rfl,hc⟩:=h5 ((dig L32 z.natAbs).length - 1) (by omega);clear h5;have hl2:nth (dig L32 z.natAbs) ((dig L32 z.natAbs).length - 1)≠0:=by unfold nth;simpa using hl
 clear hl;generalize nth (dig L32 z.natAbs) ((dig L32 z.natAbs).length - 1)=x at hc hl2;generalize (dig L32 z.natAbs).length=n at *;generalize decide (z<0)=sg at *;have hne:(x != 0)=true:=by rw[bne_iff_ne];omega
 have hn0:(((n:Nat):Int)==0)=false:=beq_eq_false_iff_ne.2 (by omega);have hcap:cap<=9223372036854775807:=h3;have hb:=(Below.refl w.heap.size w).alloc (Nat.le_refl _) (.cells #[.bool sg,.slice (some a) n cap] 26);have HW:=Lib.hid hb;rw[<-hb.cell (World.block_lt_of_cell? w _ hc)] at hc;clear hl2 hb h0;have hsub:((n:Nat):Int) - 1=((n - 1:Nat):Int):=by omega
 go_enter Tryz.func45,Tryz.ntmps45
 go_wp2_with fail
 go_ret
 exact⟨rfl,HW.out⟩
theorem rts_take (ks:List F) (j:Nat) (h:j<ks.length):rts (ks.take (j+1))=(rts (ks.take j) && rt ks[j]):=by
 rw[List.take_succ_eq_append_getElem h,rts_all,List.all_append,rts_all];simp
theorem rts_false {ks:List F} {j:Nat} (h:j<ks.length) (hr:rt ks[j]=false):rts ks=false:=by
 rw[rts_all,List.all_eq_false];exact⟨_,List.getElem_mem h,by simp[hr]⟩
theorem right_p (d:Nat):∀ (v:Value) (t:F) (S:Nat->Prop) (w:World),FC w S d v t ->
  Calls Tryz.prog 14 #[v] w fun e w'=>e=.returned (.bool (rt t))/\Below w.heap.size w w':=by
 induction d with
 | zero=>intro v t S w h;obtain⟨_,_,_,_,_,_,_,_,_,h0,_⟩:=h.open;omega
 | succ d ih =>
  intro v t S w h;obtain⟨b,ao,l,c,ko,kl,kc,rfl,⟨hr,hz,hkl,hkc,hkm⟩,-,hk⟩:=h.open;obtain⟨o,z,nm,ks⟩:=t;simp only[F.op,F.num,F.name,F.kids] at hr hz hk hkl h ⊢;obtain⟨n,hn⟩:∃ n,n=ks.length:=⟨_,rfl⟩
  rw[<-hn] at hkl;subst hkl;have HN:=Lib.hid hn;clear hn hr;have HX:=Lib.hid hk;have HZ:=Lib.hid hz;have HF0:=Lib.hid h;have IH:=Lib.hid ih;clear hk hz h ih;have HW:=Lib.hid (Below.refl w.heap.size w);have hkm':kc<=9223372036854775807:=hkm;go_enter Tryz.func14,Tryz.ntmps14
  obtain⟨x1,kf,ef,ekf,hbf,hkf,HBf⟩:=newV w #[.int .i64 o,.bool b,.slice ao l c,.string nm,.slice ko kl kc] 29;replace HX:=Lib.hid (HX.out.below hbf.out);replace HZ:=Lib.hid (HZ.out.below hbf.out);replace HF0:=Lib.hid (HF0.out.below hbf.out);replace HW:=Lib.hid (HW.out.trans (hbf.out.mono HW.out.size));have c0:=cell_at (v:=.int .i64 o) HBf.out 0 rfl;have fc0:=froz_at HBf.out 0;have c1:=cell_at (v:=.bool b) HBf.out 1 rfl;have fc1:=froz_at HBf.out 1;have c2:=cell_at (v:=.slice ao l c) HBf.out 2 rfl;have fc2:=froz_at HBf.out 2;have c3:=cell_at (v:=.string nm) HBf.out 3 rfl;have fc3:=froz_at HBf.out 3;have c4:=cell_at (v:=.slice ko kl kc) HBf.out 4 rfl;have fc4:=froz_at HBf.out 4;go_wp2_with fail
  refine (fits_p _ (.node o z nm ks) (d+1) S x1 HF0.out).mono ?_;rintro e x2 ⟨rfl,hb⟩;clear c0 fc0 c1 fc1 c2 fc2 c3 fc3 c4 fc4;replace HBf:=kBV hb HBf;replace HX:=Lib.hid (HX.out.below hb);replace HZ:=Lib.hid (HZ.out.below hb);replace HF0:=Lib.hid (HF0.out.below hb);replace HW:=Lib.hid (HW.out.trans (hb.mono HW.out.size));simp only[F.op,F.num,F.kids];have hrt:rt (.node o z nm ks)=(fitF o z (srts ks) && rts ks):=by rw[rt]
  generalize fitF o z (srts ks)=p at hrt ⊢;have c0:=cell_at (v:=.int .i64 o) HBf.out 0 rfl;have fc0:=froz_at HBf.out 0;have c1:=cell_at (v:=.bool b) HBf.out 1 rfl;have fc1:=froz_at HBf.out 1;have c2:=cell_at (v:=.slice ao l c) HBf.out 2 rfl;have fc2:=froz_at HBf.out 2;have c3:=cell_at (v:=.string nm) HBf.out 3 rfl;have fc3:=froz_at HBf.out 3;have c4:=cell_at (v:=.slice ko kl kc) HBf.out 4 rfl;have fc4:=froz_at HBf.out 4
  cases p with
  | false =>
   go_wp2_with fail
   go_ret
   exact⟨by rw[hrt];rfl,HW.out⟩
  | true =>
   go_wp2_with fail
   refine (canon_p _ z 600 x2 HZ.out).mono ?_;rintro e x3 ⟨rfl,hb⟩;clear c0 fc0 c1 fc1 c2 fc2 c3 fc3 c4 fc4;replace HBf:=kBV hb HBf;replace HX:=Lib.hid (HX.out.below hb);replace HZ:=Lib.hid (HZ.out.below hb);replace HF0:=Lib.hid (HF0.out.below hb);replace HW:=Lib.hid (HW.out.trans (hb.mono HW.out.size));have c0:=cell_at (v:=.int .i64 o) HBf.out 0 rfl;have fc0:=froz_at HBf.out 0;have c1:=cell_at (v:=.bool b) HBf.out 1 rfl;have fc1:=froz_at HBf.out 1;have c2:=cell_at (v:=.slice ao l c) HBf.out 2 rfl;have fc2:=froz_at HBf.out 2;have c3:=cell_at (v:=.string nm) HBf.out 3 rfl;have fc3:=froz_at HBf.out 3;have c4:=cell_at (v:=.slice ko kl kc) HBf.out 4 rfl;have fc4:=froz_at HBf.out 4;go_wp2_with fail
   clear c0 fc0 c1 fc1 c2 fc2 c3 fc3 c4 fc4
   go_loopw [17] (fun i wr=>∃ j:Nat,i=.int .i64 (j:Nat)/\j<=kl/\Hid (rts (ks.take j)=true)/\Hid (Below x3.heap.size x3 wr)) (fun i _=>kl - (intOf i).toNat)
   case atStart=>exact⟨0,rfl,Nat.zero_le _,Lib.hid rfl,Lib.hid (Below.refl _ _)⟩
   case round =>
    obtain⟨j,rfl,hj,HT,HB⟩:=hrel;replace HX:=Lib.hid (HX.out.below HB.out);replace HW:=Lib.hid (HW.out.trans (HB.out.mono HW.out.size))
    by_cases hlt:j<kl
    ·have hz:j<ks.length:=by rw[<-HN.out];exact hlt
     obtain⟨a,bb,qo,ql,qc,po,pl,pc,rfl,⟨c0,c1,c2,c3,c4⟩,hf⟩:=HX.out.cells j hz;have HFC:=Lib.hid hf;clear hf;obtain⟨x,hxx⟩:∃ x,x=ks[j].op:=⟨_,rfl⟩
     obtain⟨ym,hnm⟩:∃ x,x=ks[j].name:=⟨_,rfl⟩
     rw[<-hxx] at c0 HFC;rw[<-hnm] at c3 HFC;clear hxx hnm;obtain⟨x4,k8,e8,ek8,hb8,hk8,HB8⟩:=newV wr #[.int .i64 x,.bool bb,.slice qo ql qc,.string ym,.slice po pl pc] 29;replace HW:=Lib.hid (HW.out.trans (hb8.out.mono HW.out.size));replace HB:=Lib.hid (HB.out.trans (hb8.out.mono HB.out.size));replace HFC:=Lib.hid (HFC.out.below hb8.out);have g0:=cell_at (v:=.int .i64 x) HB8.out 0 rfl;have fg0:=froz_at HB8.out 0;have g1:=cell_at (v:=.bool bb) HB8.out 1 rfl;have fg1:=froz_at HB8.out 1;have g2:=cell_at (v:=.slice qo ql qc) HB8.out 2 rfl;have fg2:=froz_at HB8.out 2;have g3:=cell_at (v:=.string ym) HB8.out 3 rfl;have fg3:=froz_at HB8.out 3;have g4:=cell_at (v:=.slice po pl pc) HB8.out 4 rfl;have fg4:=froz_at HB8.out 4;go_wp2_with fail
     refine (IH.out _ ks[j] S x4 HFC.out).mono ?_;rintro e x5 ⟨rfl,hb⟩;clear g0 fg0 g1 fg1 g2 fg2 g3 fg3 g4 fg4;replace HB8:=kBV hb HB8;replace HW:=Lib.hid (HW.out.trans (hb.mono HW.out.size));replace HB:=Lib.hid (HB.out.trans (hb.mono HB.out.size));replace HFC:=Lib.hid (HFC.out.below hb);clear hb HFC;have HT1:=Lib.hid (rts_take ks j hz);have HT2:=Lib.hid (rts_false hz);rw[HT.out] at HT1;generalize rt ks[j]=p at HT1 HT2 ⊢
     cases p with
     | true =>
      go_wp2_with fail
      go_roundw
      case rel=>exact⟨j+1,by go_num,hlt,HT1,HB⟩
      case measure=>simp[intOf];omega
     | false =>
      go_wp2_with fail
      go_ret
      exact⟨by rw[hrt,HT2.out (by trivial)];rfl,HW.out⟩
    go_wp2_with fail
    go_ret
    have e:=HT.out;rw[show j=kl by omega,HN.out,List.take_length] at e;exact⟨by rw[hrt,e];rfl,HW.out⟩
end Go.Proofs.YtdkfnbbebpbhaaaGreatDoor
namespace Go.Proofs.YtdkfnbbebpbhaaaGreatDoor
open Go.RowKit Go.Shelf
set_option maxRecDepth 100000
set_option linter.unusedVariables false
set_option linter.unusedSimpArgs false
attribute [local go_sem] Oper.semAt_some
theorem infoBind:(Tryz.prog.info? 44).map (fun i=>(i.zero,i.size,i.bytes))=some (some (.agg #[.string ⟨#[]⟩,.int .i64 0,.bool false,.slice none 0 0,.bool false,.slice none 0 0]),6,88):=by kernel_rfl
structure BU where
 nm:ByteArray
 u:VU
def bC (b:BU):List Value:=.string b.nm::vC b.u
def bV (b:BU):Value:=.agg #[.string b.nm,.int .i64 b.u.k,.bool (decide (b.u.n.z<0)),.slice b.u.n.o b.u.n.l b.u.n.c,.bool b.u.b,.slice b.u.lo b.u.ll b.u.lc]
def bE:El BU where
 e:=44
 t:=32
 n:=6
 b:=88
 z:=.agg #[.string ⟨#[]⟩,.int .i64 0,.bool false,.slice none 0 0,.bool false,.slice none 0 0]
 f:=bC
 R w b:=VR w b.u
 ok e':=26≠e'
 pos:=by decide
 by_:=by decide
 zs:=rfl
 z32:=by intro u hu z;simp only[Value.cells,List.mem_cons,List.not_mem_nil,or_false] at hu;rcases hu with rfl | rfl | rfl | rfl | rfl | rfl<;>(intro h;cases h)
 ht:=Tryz.underlying32
 info:=infoBind
 len _:=rfl
 one n:=by
  intro u hu;simp only[bC,vC,List.mem_cons,List.not_mem_nil,or_false] at hu;rcases hu with rfl | rfl | rfl | rfl | rfl | rfl<;>rfl
 n32 n:=by
  intro u hu z;simp only[bC,vC,List.mem_cons,List.not_mem_nil,or_false] at hu;rcases hu with rfl | rfl | rfl | rfl | rfl | rfl<;>(intro h;cases h)
 fr ok f h:=VR.fr h ok f
 own:=by decide
def envOf (us:List BU):List (ByteArray × V):=us.map fun b=>(b.nm,b.u.x)
def EL (w:World) (v:Value) (env:List (ByteArray × V)):Prop:=∃ us,bE.At w v us/\envOf us=env
theorem EL.below {w w':World} {v:Value} {env:List (ByteArray × V)} (h:EL w v env) (hb:Below w.heap.size w w'):EL w' v env:=by
 obtain⟨us,h1,h2⟩:=h;exact⟨us,h1.below hb,h2⟩
theorem bAt_cells {w:World} {v:Value} {us:List BU} (h:bE.At w v us):∃ ko kc,v=.slice ko us.length kc/\us.length<=kc/\kc<=maxLen/\∀ i (hi:i<us.length),∃ a,ko=some a /\
  w.cell? (a.add (i*6))=some (.string us[i].nm)/\w.cell? ⟨(a.add (i*6)).block,(a.add (i*6)).off+1,none⟩=some (.int .i64 us[i].u.k)/\w.cell? ⟨(a.add (i*6)).block,(a.add (i*6)).off+2,none⟩=some (.bool (decide (us[i].u.n.z<0))) /\
  w.cell? ⟨(a.add (i*6)).block,(a.add (i*6)).off+3,none⟩=some (.slice us[i].u.n.o us[i].u.n.l us[i].u.n.c)/\w.cell? ⟨(a.add (i*6)).block,(a.add (i*6)).off+4,none⟩=some (.bool us[i].u.b)/\w.cell? ⟨(a.add (i*6)).block,(a.add (i*6)).off+5,none⟩=some (.slice us[i].u.lo us[i].u.ll us[i].u.lc)/\VR w us[i].u:=by
 obtain⟨ko,kc,rfl,⟨h1,h2,h3⟩,h4⟩:=h;refine⟨ko,kc,rfl,h1,h2,fun i hi=>?_⟩;obtain⟨a,ha,-,h5,h6⟩:=h4 i hi;have g:∀ j q,(bC us[i])[j]?=some q->w.cell? ((a.add (i*6)).add j)=some q:=fun j q hj=>by rw[add_addV];exact h5 j q hj
 exact⟨a,ha,g 0 _ rfl,g 1 _ rfl,g 2 _ rfl,g 3 _ rfl,g 4 _ rfl,g 5 _ rfl,h6⟩
abbrev YI:=Nat × BU
def yI (x:YI):Array Value:=#[.int .i64 (x.1:Nat),bV x.2]
theorem drop_rev {α:Type} (l:List α) (k:Nat) (h:k<l.length):(l.drop k).reverse=(l.drop (k+1)).reverse++[l[k]]:=by
 rw[List.drop_eq_getElem_cons h,List.reverse_cons]
theorem back_stops (F:Fence) (hd:F.depth=none) (hF:∀ f,F.fn f) (hro:F.round=none) (n Bt:Nat) (ve:Value) (us:List BU) (w:World) (hB:w.heap[Bt]?=some (.cells #[ve] 114 (0,0))) (hu:bE.At w ve us) :
  SeqStopsK F n Tryz.prog 152 #[.pointer (some ⟨Bt,0,none⟩)] yI (Below w.heap.size) (fun xs=>xs.map (·.2)=us.reverse) (fun pre=>∃ k,pre.map (·.2)=(us.drop k).reverse/\k<=us.length) us.length w:=by
 intro l J Jx W hW hJ hJx hY h0;obtain⟨ko,kc,rfl,hk1,hk2,hk3⟩:=bAt_cells hu;have hkc:kc<=9223372036854775807:=hk2;have hB2:W.heap[Bt]?=some (.cells #[.slice ko us.length kc] 114 (0,0)):=(hW.block _ (lt_of_block hB)).trans hB;have HB:=Lib.hid hB;have HU:=Lib.hid hu;have HW:=Lib.hid hW;have HY:=Lib.hid hY;have c0:=cell_at (v:=.slice ko us.length kc) hB2 0 rfl;obtain⟨N,hN⟩:∃ N,N=us.length:=⟨_,rfl⟩
 have HN:=Lib.hid hN;rw[<-hN] at c0 hk1 HB HU HY ⊢;have J0:=Lib.hid h0;clear hW hJ hJx hY h0 hu hB hB2 hk3 hk2 hN;refine callsIn_of_wp Tryz.func152 rfl (hF _) ?_ hro;simp only[Tryz.ntmps152,List.size_toArray,lsc,lsn,Nat.reduceAdd,Nat.reduceSub,Array.replicate_succ,Array.replicate_zero,List.push_toArray,List.append_toArray,List.nil_append,List.cons_append]
 gi_wp2_with fail
 gi_loopw [3] (fun p wr=>∃ (j:Nat) (pre:List YI),p=.int .i64 ((j:Int) - 1)/\j<=N/\Hid (pre.map (·.2)=(us.drop j).reverse)/\Hid (pre.length+j=N)/\Hid (J pre wr)/\Hid (Below w.heap.size w wr)) (fun p _=>(intOf p+1).toNat)
 case atStart=>exact⟨N,[],rfl,Nat.le_refl _,Lib.hid (by rw[HN.out,List.drop_length];rfl),Lib.hid (by simp),J0,HW⟩
 case round =>
  obtain⟨wl,hwl⟩:∃ q,q=wr:=⟨_,rfl⟩
  subst hwl;clear c0;obtain⟨j,pre,rfl,hj,HP,HL,HJ,HBW⟩:=hrel;have hBl:wl.heap[Bt]?=some (.cells #[.slice ko N kc] 114 (0,0)):=(HBW.out.block _ (lt_of_block HB.out)).trans HB.out;have c0:=cell_at (v:=.slice ko N kc) hBl 0 rfl;clear hBl
  cases j with
  | zero =>
   rw[show ((0:Nat):Int) - 1 = -1 by decide]
   gi_wp2_with fail
   go_end0
   exact⟨⟨_,rfl⟩,.inl ⟨pre,by rw[HP.out,List.drop_zero],HJ.out⟩⟩
  | succ k =>
   rw[show ((k+1:Nat):Int) - 1=((k:Nat):Int) by omega];have hkn:k<us.length:=by have:=HN.out;omega
   obtain⟨ko',kc',e,-,-,hcs⟩:=bAt_cells (HU.out.below HBW.out);injection e with e1 e2 e3;subst e1;obtain⟨a,rfl,d0,d1,d2,d3,d4,d5,-⟩:=hcs k hkn;obtain⟨y,hyy⟩:∃ y,y=us[k]:=⟨_,rfl⟩
   rw[<-hyy] at d0 d1 d2 d3 d4 d5;have HYK:=Lib.hid hyy;have hlen1:pre.length<N:=by have:=HL.out;omega
   obtain⟨fn,tmps,assign,body,hy,hR⟩:=HY.out pre (k,y) wl HJ.out hlen1;simp only[yI,bV] at hy;clear hcs e2 e3 hyy hlen1
   gi_wp2_with fail
   refine hR.mono ?_;clear hR hy c0 d0 d1 d2 d3 d4 d5;rintro e W2 (⟨rfl,hJ2,hk2⟩ | ⟨rfl,hx2⟩)
   ·have HJ2:=Lib.hid hJ2;replace HBW:=Lib.hid (HBW.out.trans hk2);clear hJ2 hk2
    gi_wp2_with fail
    go_roundw
    case rel=>exact⟨k,pre++[(k,y)],rfl,by omega,Lib.hid (by rw[drop_rev us k hkn,List.map_append,HP.out,HYK.out];rfl),Lib.hid (by have:=HL.out;simp only[lsa,lsc,lsn];omega),HJ2,HBW⟩
    case measure=>simp[intOf]
   have HX2:=Lib.hid hx2;clear hx2
   gi_wp2_with fail
   (try simp only[Exit.inBlock,Exit.then])
   refine bodyPost_ret (results_none rfl _ _ _) rfl ?_;exact⟨⟨_,rfl⟩,.inr ⟨_,⟨k,by rw[drop_rev us k hkn,List.map_append,HP.out,HYK.out];rfl,by omega⟩,HX2.out⟩⟩
theorem back_p (ko:Option Addr) (n kc:Nat) (w:World):Calls Tryz.prog 147 #[.slice ko n kc] w fun e w'=>e=.returned (.func (.func 152) #[] #[.pointer (some ⟨w.heap.size,0,none⟩)])/\w'=w.alloc (.cells #[.slice ko n kc] 114):=by
 go_enter Tryz.func147,Tryz.ntmps147
 go_wp2_with fail
 go_ret
 exact⟨rfl,rfl⟩
attribute [local go_sem] Oper.semAt_some
theorem bs_no {a b:ByteArray} (h:a≠b):(a.toList==b.toList)=false:=beq_eq_false_iff_ne.2 (fun e=>h (by
 rw[ByteArray.toList_eq,ByteArray.toList_eq] at e
 exact ByteArray.ext (Array.toList_inj.1 e)))
theorem bs_yes {a b:ByteArray} (h:a=b):(a.toList==b.toList)=true:=by subst h;exact beq_self_eq_true _
theorem zip_two (T:Array Value) (k l:Nat) (v u:Value):(#[k,l].zip #[v,u]).foldl (fun t (x:Nat × Value)=>t.setIfInBounds x.1 x.2) T=(T.setIfInBounds k v).setIfInBounds l u:=by simp
theorem set5_same {w:World} {g:Nat} {T:TypeId} {a0 a1 a2 a3 a4:Value} (h:w.heap[g]?=some (.cells #[a0,a1,a2,a3,a4] T (0,0))) (v0 v1 v2 v3 v4:Value) :
  (((((w.setCell ⟨g,0,none⟩ v0).setCell ⟨g,1,none⟩ v1).setCell ⟨g,2,none⟩ v2).setCell ⟨g,3,none⟩ v3).setCell ⟨g,4,none⟩ v4).heap[g]?=some (.cells #[v0,v1,v2,v3,v4] T (0,0)):=by
 have h0:(w.setCell ⟨g,0,none⟩ v0).heap[g]?=some (.cells #[v0,a1,a2,a3,a4] T (0,0)):=heap_setCell_same _ g 0 _ T v0 h;have h1:((w.setCell ⟨g,0,none⟩ v0).setCell ⟨g,1,none⟩ v1).heap[g]?=some (.cells #[v0,v1,a2,a3,a4] T (0,0)):=heap_setCell_same _ g 1 _ T v1 h0;have h2:(((w.setCell ⟨g,0,none⟩ v0).setCell ⟨g,1,none⟩ v1).setCell ⟨g,2,none⟩ v2).heap[g]?=some (.cells #[v0,v1,v2,a3,a4] T (0,0)):=heap_setCell_same _ g 2 _ T v2 h1;have h3:((((w.setCell ⟨g,0,none⟩ v0).setCell ⟨g,1,none⟩ v1).setCell ⟨g,2,none⟩ v2).setCell ⟨g,3,none⟩ v3).heap[g]?=some (.cells #[v0,v1,v2,v3,a4] T (0,0)):=heap_setCell_same _ g 3 _ T v3 h2;exact heap_setCell_same _ g 4 _ T v4 h3
def lkV (x:V) (b:Int):V:=if sortOf x=b then x else .I 0
theorem VR.sort {w:World} {u:VU} (h:VR w u):u.k=sortOf u.x:=by
 unfold VR at h
 cases hx:u.x<;>rw[hx] at h<;>exact h.1
theorem fold_none {nm:ByteArray}:∀ (l:List (ByteArray × V)) (a:V),(∀ p ∈ l,p.1≠nm)->l.foldl (fun a p=>if p.1=nm then p.2 else a) a=a
 | [],_,_=>rfl
 | q::l,a,h=>by rw[List.foldl_cons,if_neg (h q (by simp))];exact fold_none l a (fun p hp=>h p (by simp[hp]))
theorem rho_none {env:List (ByteArray × V)} {nm:ByteArray} (h:∀ p ∈ env,p.1≠nm):rho env nm=.I 0:=fold_none env _ h
theorem rho_hit {env:List (ByteArray × V)} {nm:ByteArray} {k:Nat} (hk:k<env.length) (h1:env[k].1=nm) (h2:∀ p ∈ env.drop (k+1),p.1≠nm):rho env nm=env[k].2:=by
 have key:rho (env.take (k+1)++env.drop (k+1)) nm=rho (env.take (k+1)) nm:=by
  unfold rho;rw[List.foldl_append];exact fold_none _ _ h2
 rw[List.take_append_drop] at key;rw[key,rho_take env nm k hk,if_pos h1]
def LkI (w4:World) (nm:ByteArray) (pre:List YI) (W:World):Prop:=Below w4.heap.size w4 W/\∀ x ∈ pre,x.2.nm≠nm
theorem LkI.own (w4:World) (nm:ByteArray):OwnFrom w4.heap.size (LkI w4 nm):=by
 rintro pre W W' row ⟨h1,h2⟩ hg hr;exact⟨⟨hg.os.trans h1.os,hg.tape.trans h1.tape,hg.output.trans h1.output,Nat.le_trans h1.size hg.size,fun k hk=>(hg.block k (by have:=h1.size;omega) (fun e=>by have:=(hr k e.symm).1;omega)).trans (h1.block k hk)⟩,h2⟩
def LkX (w w4:World) (kr:Nat) (nm:ByteArray) (b:Int) (c:Code) (pre:List YI) (W:World):Prop:=
 ∃ pre' x,pre=pre'++[x]/\(∀ y ∈ pre',y.2.nm≠nm)/\x.2.nm=nm/\Below w.heap.size w W/\w4.heap.size<=W.heap.size /\
  ((c=.ret/\x.2.u.k=b/\W.heap[kr]?=some (.cells #[.int .i64 x.2.u.k,.bool (decide (x.2.u.n.z<0)),.slice x.2.u.n.o x.2.u.n.l x.2.u.n.c,.bool x.2.u.b,.slice x.2.u.lo x.2.u.ll x.2.u.lc] 41 (0,0))) \/
   (c=.exit 0/\x.2.u.k≠b/\W.heap[kr]?=some (.cells #[.int .i64 0,.bool false,.slice none 0 0,.bool false,.slice none 0 0] 41 (0,0))))
theorem LkX.own (w w4:World) (kr:Nat) (nm:ByteArray) (b:Int) (c:Code) (hw:w.heap.size<=w4.heap.size) (hkr:kr<w4.heap.size):OwnFrom w4.heap.size (LkX w w4 kr nm b c):=by
 rintro pre W W' row ⟨pre',x,h1,h2,h3,h4,h6,h5⟩ hg hr;have hkb:W'.heap[kr]?=W.heap[kr]?:=hg.block kr (by omega) (fun e=>by have:=(hr kr e.symm).1;omega);refine⟨pre',x,h1,h2,h3,⟨hg.os.trans h4.os,hg.tape.trans h4.tape,hg.output.trans h4.output,Nat.le_trans h4.size hg.size,fun k hk=>(hg.block k (by have:=h4.size;omega) (fun e=>by have:=(hr k e.symm).1;omega)).trans (h4.block k hk)⟩,Nat.le_trans h6 hg.size,?_⟩;rw[hkb];exact h5
theorem put_belowL {n₀:Nat} {W:World} {l:Nat} {o o':Obj} (hn:n₀<=l) (h:W.heap[l]?=some o):Below n₀ W (W.putObj l o'):=
 (Below.refl n₀ W).grown (grownBy_putObj' W l o') (by have:=lt_of_block h;omega) (fun k e=>by cases e;exact hn)
theorem ext_below {w W W':World} {g:Nat} (h:Below w.heap.size w W) (hg:W.grownBy W' (some g)) (hk:w.heap.size<=g):Below w.heap.size w W':=
 ⟨hg.os.trans h.os,hg.tape.trans h.tape,hg.output.trans h.output,Nat.le_trans h.size hg.size,fun k hk2=>(hg.block k (by have:=h.size;omega) (fun e=>by injection e with e;omega)).trans (h.block k hk2)⟩
theorem lookup_p (ve:Value) (env:List (ByteArray × V)) (nm:ByteArray) (b:Int) (w:World) (h:EL w ve env) :
  Calls Tryz.prog 137 #[ve,.string nm,.int .i64 b] w fun e w'=>∃ v,e=.returned v/\VC w' v (lkV (rho env nm) b)/\Below w.heap.size w w':=by
 obtain⟨us,hu,rfl⟩:=h;have hu0:=hu;obtain⟨ko,kc,rfl,-,-,-⟩:=bAt_cells hu0;obtain⟨N,hN⟩:∃ N,N=us.length:=⟨_,rfl⟩
 rw[<-hN];rw[<-hN] at hu;have HN:=Lib.hid hN;have HU:=Lib.hid hu;have HU0:=Lib.hid hu;clear hN hu hu0;have HW:=Lib.hid (Below.refl w.heap.size w);obtain⟨x1,kn,en,ekn,hbn,hkn,HBn⟩:=newV w #[.string nm] 9;replace HU:=Lib.hid (El.At.below HU.out hbn.out);replace HW:=Lib.hid (HW.out.trans (hbn.out.mono HW.out.size));have hkn:Hid (w.heap.size<=kn):=Lib.hid (by rw[<-ekn];exact Nat.le_refl _);obtain⟨x2,kb,eb,ekb,hbb,hkb,HBb⟩:=newV x1 #[.int .i64 b] 36;replace HBn:=kBV hbb.out HBn;replace HU:=Lib.hid (El.At.below HU.out hbb.out);replace HW:=Lib.hid (HW.out.trans (hbb.out.mono HW.out.size));obtain⟨x3,kr,er,ekr,hbr,hkr,HBr⟩:=newV x2 #[.int .i64 0,.bool false,.slice none 0 0,.bool false,.slice none 0 0] 41;replace HBn:=kBV hbr.out HBn;replace HBb:=kBV hbr.out HBb;replace HU:=Lib.hid (El.At.below HU.out hbr.out)
 replace HW:=Lib.hid (HW.out.trans (hbr.out.mono HW.out.size));have HRK:Hid (w.heap.size<=kr):=Lib.hid (by rw[<-ekr];exact Nat.le_trans (hbn.out.size) (hbb.out.size));obtain⟨x4,kt,et,ekt,hbt,hkt,HBt⟩:=newV x3 #[.slice ko N kc] 114;replace HBn:=kBV hbt.out HBn;replace HBb:=kBV hbt.out HBb;replace HBr:=kBV hbt.out HBr;replace HU:=Lib.hid (El.At.below HU.out hbt.out);replace HW:=Lib.hid (HW.out.trans (hbt.out.mono HW.out.size));have HSZ:Hid (kr<x4.heap.size/\kn<x4.heap.size/\kb<x4.heap.size):=Lib.hid ⟨lt_of_block HBr.out,lt_of_block HBn.out,lt_of_block HBb.out⟩;refine callsIn_wide.1 (callsIn_of_wp_marks (F:=Fence.wide) (n:=9) Tryz.func137 rfl trivial ?_ rfl)
 simp only[Tryz.ntmps137,List.size_toArray,lsc,lsn,Nat.reduceAdd,Nat.reduceSub,Array.replicate_succ,Array.replicate_zero,List.push_toArray,List.append_toArray,List.nil_append,List.cons_append];refine wpIn_wide.2 ?_;go_wp2_with (first | (refine (back_p ko N kc _).mono ?_;rintro e w' ⟨rfl,rfl⟩;rw[et,ekt]) | fail)
 refine (wpIn_wide (n:=9)).1 ?_
 refine wpIn_rangeFunc_ownH rfl (by decide) (gf:=152) (lb:=#[.pointer (some ⟨kt,0,none⟩)]) rfl trivial (enters_of Tryz.func152 (by kernel_rfl) rfl) (back_stops Fence.wide rfl (fun _=>trivial) rfl 8 kt _ us x4 HBt.out HU.out) (fun h k=>h.trans k) (fun W l o o' hl h hc _=>put_belowL hl h) (Below.refl _ _) (fun _=>rfl)
  (LkI x4 nm) (LkX w x4 kr nm b) (LkI.own _ _) (fun c=>LkX.own _ _ _ _ _ _ HW.out.size HSZ.out.1) ⟨Below.refl _ _,fun x h=>by cases h⟩
  (fun y a' W=>∃ kp,W.heap[kp]?=some (.cells #[.string y.2.nm,.int .i64 y.2.u.k,.bool (decide (y.2.u.n.z<0)),.slice y.2.u.n.o y.2.u.n.l y.2.u.n.c,.bool y.2.u.b,.slice y.2.u.lo y.2.u.ll y.2.u.lc] 44 (0,0))/\a'=⟨#[.slice ko N kc,.string nm,.int .i64 b,undef,.pointer (some ⟨kn,0,none⟩),.pointer (some ⟨kb,0,none⟩),.pointer (some ⟨kr,0,none⟩),undef,.pointer (some ⟨kp,0,none⟩),.slice ko N kc,.func (.func 152) #[] #[.pointer (some ⟨kt,0,none⟩)],.int .i64 (y.1:Nat),bV y.2,undef,undef,undef,undef,undef,undef,undef,undef,undef,undef,undef,undef],[]⟩) ?hax ?assign ?body ?done ?stop
 case hax =>
  rintro y a' _ W W' row ⟨kp,h1,h2⟩ hg hr;exact⟨kp,(hg.block kp (lt_of_block h1) (fun e=>by obtain⟨-,o,ho,hc⟩:=hr kp e.symm;rw[h1] at ho;injection ho with ho;subst ho;cases hc)).trans h1,h2⟩
 case assign =>
  rintro l pre y W K hI hK;have HK0:=Lib.hid hK;have HI0:=Lib.hid hI;clear hK hI;rw[show yI y=#[.int .i64 (y.1:Nat),bV y.2] from rfl,zip_two];simp only[bV,List.setIfInBounds_toArray,List.set_cons_succ,List.set_cons_zero]
  gi_wp2_with fail
  refine HK0.out _ _ ((KeepsOthers.alloc _ _).from _) (((Below.refl _ _).alloc (Nat.le_refl _) _).mono HI0.out.1.size) ((LkI.own _ _).alloc _ HI0.out) ⟨W.heap.size,made_at W _ _ rfl,?_⟩
  rfl
 case body =>
  rintro l pre y a' W hl - ⟨hI,hpre⟩ ⟨kp,hB,rfl⟩ hlen;obtain⟨i,y⟩:=y;simp only[bV];simp only at hB;have HI:=Lib.hid hI;have HPRE:=Lib.hid hpre;have HBp:=Lib.hid hB;have HBn2:=kBV hI HBn;have HBb2:=kBV hI HBb;have HBr2:=kBV hI HBr;clear hI hpre hB hlen;have c0:=cell_at (v:=.string y.nm) HBp.out 0 rfl;have fc0:=froz_at HBp.out 0;have c1:=cell_at (v:=.int .i64 y.u.k) HBp.out 1 rfl;have fc1:=froz_at HBp.out 1;have c2:=cell_at (v:=.bool (decide (y.u.n.z<0))) HBp.out 2 rfl;have fc2:=froz_at HBp.out 2;have c3:=cell_at (v:=.slice y.u.n.o y.u.n.l y.u.n.c) HBp.out 3 rfl;have fc3:=froz_at HBp.out 3;have c4:=cell_at (v:=.bool y.u.b) HBp.out 4 rfl;have fc4:=froz_at HBp.out 4;have c5:=cell_at (v:=.slice y.u.lo y.u.ll y.u.lc) HBp.out 5 rfl;have fc5:=froz_at HBp.out 5;have d0:=cell_at (v:=.string nm) HBn2.out 0 rfl
  have e0:=cell_at (v:=.int .i64 b) HBb2.out 0 rfl
  by_cases hnm:y.nm=nm
  ·have hne:(y.nm.toList==nm.toList)=true:=bs_yes hnm;have HNM:=Lib.hid hnm;clear hnm
   by_cases hkb:y.u.k=b
   ·have hkk:(y.u.k==b)=true:=by rw[hkb];exact beq_self_eq_true _
    have HKB:=Lib.hid hkb;clear hkb;have f0:=froz_at HBr2.out 0;have r0:=cell_at (v:=.int .i64 0) HBr2.out 0 rfl;have f1:=froz_at HBr2.out 1;have r1:=cell_at (v:=.bool false) HBr2.out 1 rfl;have f2:=froz_at HBr2.out 2;have r2:=cell_at (v:=.slice none 0 0) HBr2.out 2 rfl;have f3:=froz_at HBr2.out 3;have r3:=cell_at (v:=.bool false) HBr2.out 3 rfl;have f4:=froz_at HBr2.out 4;have r4:=cell_at (v:=.slice none 0 0) HBr2.out 4 rfl
    gi_wp2_with fail
    refine⟨KeepsFrom.of_grownBy (row:=some kr) (grown5V _ _ _ _ _) (fun j e=>by injection e with e;have:=HSZ.out.1;omega),pre,(i,y),rfl,HPRE.out,HNM.out,ext_below (HW.out.trans (HI.out.mono HW.out.size)) (grown5V _ _ _ _ _) HRK.out,Nat.le_trans HI.out.size (grown5V (k:=kr) _ _ _ _ _).size,.inl ⟨rfl,HKB.out,set5_same HBr2.out _ _ _ _ _⟩⟩
   have hkk:(y.u.k==b)=false:=by rw[beq_eq_false_iff_ne];exact hkb
   have HKB:=Lib.hid hkb;clear hkb
   gi_wp2_with fail
   exact⟨KeepsFrom.refl _ _,pre,(i,y),rfl,HPRE.out,HNM.out,HW.out.trans (HI.out.mono HW.out.size),HI.out.size,.inr ⟨rfl,HKB.out,HBr2.out⟩⟩
  have hne:(y.nm.toList==nm.toList)=false:=bs_no hnm;have HNM:=Lib.hid hnm;clear hnm
  gi_wp2_with fail
  refine⟨KeepsFrom.refl _ _,Below.refl _ _,HI.out,fun x hx=>?_⟩;rcases List.mem_append.1 hx with hx | hx
  ·exact HPRE.out x hx
  rw[List.mem_singleton] at hx;subst hx;exact HNM.out
 case done =>
  rintro D xs W hD hS ⟨hI,hx⟩ hDW
  have hno:rho (envOf us) nm=.I 0:=rho_none (fun p hp=>by
   obtain⟨q,hq,rfl⟩:=List.mem_map.1 hp;have:q ∈ us.reverse:=by simpa using hq
   rw[<-hS] at this;obtain⟨x,hx1,rfl⟩:=List.mem_map.1 this
   exact hx x hx1)
  have HNO:=Lib.hid hno;have HI:=Lib.hid hI;have HDW:=Lib.hid hDW;have HD:=Lib.hid hD;have HBr2:=kBV hI HBr;clear hno hI hDW hD hx hS;have f0:=froz_at HBr2.out 0;have r0:=cell_at (v:=.int .i64 0) HBr2.out 0 rfl;have f1:=froz_at HBr2.out 1;have r1:=cell_at (v:=.bool false) HBr2.out 1 rfl;have f2:=froz_at HBr2.out 2;have r2:=cell_at (v:=.slice none 0 0) HBr2.out 2 rfl;have f3:=froz_at HBr2.out 3;have r3:=cell_at (v:=.bool false) HBr2.out 3 rfl;have f4:=froz_at HBr2.out 4;have r4:=cell_at (v:=.slice none 0 0) HBr2.out 4 rfl;go_wp2_with fail
  have hg:W.grownBy (((((W.setCell ⟨kr,0,none⟩ (.int .i64 0)).setCell ⟨kr,1,none⟩ (.bool false)).setCell ⟨kr,2,none⟩ (.slice none 0 0)).setCell ⟨kr,3,none⟩ (.bool false)).setCell ⟨kr,4,none⟩ (.slice none 0 0)) (some kr):=grown5V _ _ _ _ _;have hs:=set5_same HBr2.out (.int .i64 0) (.bool false) (.slice none 0 0) (.bool false) (.slice none 0 0);obtain⟨W5,hW5⟩:∃ q,q=((((W.setCell ⟨kr,0,none⟩ (.int .i64 0)).setCell ⟨kr,1,none⟩ (.bool false)).setCell ⟨kr,2,none⟩ (.slice none 0 0)).setCell ⟨kr,3,none⟩ (.bool false)).setCell ⟨kr,4,none⟩ (.slice none 0 0):=⟨_,rfl⟩
  rw[<-hW5] at hg hs ⊢;have hD5:=(hg.block D (lt_of_block HDW.out) (fun e=>by injection e with e;have:=HSZ.out.1;have:=HD.out;omega)).trans HDW.out;refine⟨by simp,.inl ⟨_,_,rfl,run_takeDeferred hD5,?_⟩⟩;have hp:Below w.heap.size w (W5.putObj D (.deferred none)):=(ext_below (HW.out.trans (HI.out.mono HW.out.size)) hg HRK.out).trans (put_belowL (Nat.le_trans HW.out.size HD.out) hD5)
  have hs6:(W5.putObj D (.deferred none)).heap[kr]?=some (.cells #[.int .i64 0,.bool false,.slice none 0 0,.bool false,.slice none 0 0] 41 (0,0)):=by
   rw[World.putObj_heap_other (by have:=HSZ.out.1;have:=HD.out;omega)];exact hs
  obtain⟨⟨q0,q1,q2,q3,q4⟩,-⟩:=cells5V hs6;exact⟨.agg #[.int .i64 0,.bool false,.slice none 0 0,.bool false,.slice none 0 0],by simp[results,Tryz.results137,go_sem,q0,q1,q2,q3,q4],_,rfl,by rw[show lkV (rho (envOf us) nm) b=V.I 0 from by unfold lkV;rw[HNO.out];split<;>rfl];exact⟨v0,rfl,rfl,vr0 _⟩,(by first | exact hp | (rw[<-ekn];exact hp))⟩
 case stop =>
  rintro D c pre W hD ⟨m,hm,hmn⟩ ⟨pre',x,rfl,h2,h3,h4,h6,h5⟩ hDW
  obtain⟨k,hk,hxk,hlk⟩:∃ k,∃ (hk:k<us.length),x.2=us[k]/\∀ p ∈ us.drop (k+1),p.nm≠nm:=by
   rw[List.map_append] at hm
   have hml:m<us.length:=by
    have:=congrArg List.length hm
    simp at this;omega
   rw[drop_rev us m hml] at hm;have hsplit:=List.append_inj' hm rfl;refine⟨m,hml,by simpa using hsplit.2,fun p hp=>?_⟩;have hp2:p ∈ (us.drop (m+1)).reverse:=by simpa using hp
   rw[<-hsplit.1] at hp2;obtain⟨q,hq1,rfl⟩:=List.mem_map.1 hp2;exact h2 q hq1
  have hrho:rho (envOf us) nm=x.2.u.x:=by
   rw[rho_hit (k:=k) (by unfold envOf;simpa using hk) (by unfold envOf;simp only[List.getElem_map];rw[<-hxk];exact h3) (fun p hp=>by
    unfold envOf at hp;rw[<-List.map_drop] at hp;obtain⟨q,hq,rfl⟩:=List.mem_map.1 hp
    exact hlk q hq)]
   unfold envOf;simp only[List.getElem_map];rw[<-hxk]
  obtain⟨_,_,_,_,_,hcs⟩:=bAt_cells HU0.out;obtain⟨_,_,_,_,_,_,_,_,hvr⟩:=hcs k hk;rw[<-hxk] at hvr;have hsrt:=hvr.sort;have HVR:=Lib.hid hvr;have HNO:=Lib.hid hrho;have HI:=Lib.hid h4;have HDW:=Lib.hid hDW;have HD:=Lib.hid hD;have H6:=Lib.hid h6;clear hvr hrho h4 hDW hD h6 hcs hxk hlk hm hmn h2;rcases h5 with ⟨rfl,hkb,hbr⟩ | ⟨rfl,hkb,hbr⟩
  ·refine (wpIn_wide (n:=9)).2 ?_;go_wp2_with fail
   have hD5:=HDW.out;refine⟨by simp,.inl ⟨_,_,rfl,run_takeDeferred hD5,?_⟩⟩;have hp:Below w.heap.size w (W.putObj D (.deferred none)):=HI.out.trans (put_belowL (Nat.le_trans HW.out.size HD.out) hD5);have hs6:(W.putObj D (.deferred none)).heap[kr]?=_:=(World.putObj_heap_other (by have:=HSZ.out.1;have:=HD.out;omega)).trans hbr;obtain⟨⟨q0,q1,q2,q3,q4⟩,-⟩:=cells5V hs6;refine⟨vV x.2.u,by simp[results,Tryz.results137,go_sem,q0,q1,q2,q3,q4,vV],_,rfl,⟨x.2.u,rfl,?_,?_⟩,(by first | exact hp | (rw[<-ekn];exact hp))⟩
   ·rw[HNO.out];unfold lkV;rw[if_pos (by rw[<-hsrt];exact hkb)]
   exact HVR.out.below hp
  refine (wpIn_wide (n:=9)).2 ?_;have HBr2:=Lib.hid hbr;have hnb:sortOf x.2.u.x≠b:=by rw[<-hsrt];exact hkb
  have HNB:=Lib.hid hnb;clear hbr hkb hsrt hnb h3;have f0:=froz_at HBr2.out 0;have r0:=cell_at (v:=.int .i64 0) HBr2.out 0 rfl;have f1:=froz_at HBr2.out 1;have r1:=cell_at (v:=.bool false) HBr2.out 1 rfl;have f2:=froz_at HBr2.out 2;have r2:=cell_at (v:=.slice none 0 0) HBr2.out 2 rfl;have f3:=froz_at HBr2.out 3;have r3:=cell_at (v:=.bool false) HBr2.out 3 rfl;have f4:=froz_at HBr2.out 4;have r4:=cell_at (v:=.slice none 0 0) HBr2.out 4 rfl;go_wp2_with fail
  have hg:W.grownBy (((((W.setCell ⟨kr,0,none⟩ (.int .i64 0)).setCell ⟨kr,1,none⟩ (.bool false)).setCell ⟨kr,2,none⟩ (.slice none 0 0)).setCell ⟨kr,3,none⟩ (.bool false)).setCell ⟨kr,4,none⟩ (.slice none 0 0)) (some kr):=grown5V _ _ _ _ _;have hs:=set5_same HBr2.out (.int .i64 0) (.bool false) (.slice none 0 0) (.bool false) (.slice none 0 0);obtain⟨W5,hW5⟩:∃ q,q=((((W.setCell ⟨kr,0,none⟩ (.int .i64 0)).setCell ⟨kr,1,none⟩ (.bool false)).setCell ⟨kr,2,none⟩ (.slice none 0 0)).setCell ⟨kr,3,none⟩ (.bool false)).setCell ⟨kr,4,none⟩ (.slice none 0 0):=⟨_,rfl⟩
  rw[<-hW5] at hg hs ⊢;have hD5:=(hg.block D (lt_of_block HDW.out) (fun e=>by injection e with e;have:=HSZ.out.1;have:=HD.out;omega)).trans HDW.out;refine⟨by simp,.inl ⟨_,_,rfl,run_takeDeferred hD5,?_⟩⟩;have hp:Below w.heap.size w (W5.putObj D (.deferred none)):=(ext_below (HI.out) hg HRK.out).trans (put_belowL (Nat.le_trans HW.out.size HD.out) hD5)
  have hs6:(W5.putObj D (.deferred none)).heap[kr]?=some (.cells #[.int .i64 0,.bool false,.slice none 0 0,.bool false,.slice none 0 0] 41 (0,0)):=by
   rw[World.putObj_heap_other (by have:=HSZ.out.1;have:=HD.out;omega)];exact hs
  obtain⟨⟨q0,q1,q2,q3,q4⟩,-⟩:=cells5V hs6;exact⟨.agg #[.int .i64 0,.bool false,.slice none 0 0,.bool false,.slice none 0 0],by simp[results,Tryz.results137,go_sem,q0,q1,q2,q3,q4],_,rfl,by rw[show lkV (rho (envOf us) nm) b=V.I 0 from by unfold lkV;rw[HNO.out,if_neg HNB.out]];exact⟨v0,rfl,rfl,vr0 _⟩,(by first | exact hp | (rw[<-ekn];exact hp))⟩
end Go.Proofs.YtdkfnbbebpbhaaaGreatDoor
namespace Go.Proofs.YtdkfnbbebpbhaaaGreatDoor
open Go.RowKit
set_option maxRecDepth 100000
set_option linter.unusedVariables false
set_option linter.unusedSimpArgs false
def NumC (d:Nat):Prop:=∀ (ve v:Value) (env:List (ByteArray × V)) (t:F) (S:Nat->Prop) (w:World),FC w S d v t->EL w ve env->rt t=true->srt t.op=0->Sm (rho env) t ->
 Calls Tryz.prog 116 #[ve,v] w fun e w'=>∃ x,e=.returned x/\CI w' x (asI (ev (rho env) t)) 600/\Below w.heap.size w w'
def LstC (d:Nat):Prop:=∀ (ve v:Value) (env:List (ByteArray × V)) (t:F) (S:Nat->Prop) (w:World),FC w S d v t->EL w ve env->rt t=true->srt t.op=2->Sm (rho env) t ->
 Calls Tryz.prog 115 #[ve,v] w fun e w'=>∃ x,e=.returned x/\NL w' x (asL (ev (rho env) t))/\Below w.heap.size w w'
def TruC (d:Nat):Prop:=∀ (ve v:Value) (env:List (ByteArray × V)) (t:F) (S:Nat->Prop) (w:World),FC w S d v t->EL w ve env->rt t=true->srt t.op=1->Sm (rho env) t ->
 Calls Tryz.prog 114 #[ve,v] w fun e w'=>e=.returned (.bool (asB (ev (rho env) t)))/\Below w.heap.size w w'
def ValC (d:Nat):Prop:=∀ (ve v:Value) (env:List (ByteArray × V)) (t:F) (S:Nat->Prop) (w:World),FC w S d v t->EL w ve env->rt t=true->Sm (rho env) t ->
 Calls Tryz.prog 78 #[ve,v] w fun e w'=>∃ x,e=.returned x/\VC w' x (ev (rho env) t)/\Below w.heap.size w w'
theorem fieldV0 (k:Int) (b:Bool) (o:Option Addr) (l c:Nat) (d:Bool) (p:Option Addr) (m q:Nat) (w:World) :
  (Instr.field 41 (.agg #[.int .i64 k,.bool b,.slice o l c,.bool d,.slice p m q]) 0).run Tryz.prog w=.ok (.int .i64 k) w:=by
 unfold Instr.field;simp[go_sem,asAgg]
theorem fieldV1 (k:Int) (b:Bool) (o:Option Addr) (l c:Nat) (d:Bool) (p:Option Addr) (m q:Nat) (w:World) :
  (Instr.field 41 (.agg #[.int .i64 k,.bool b,.slice o l c,.bool d,.slice p m q]) 1).run Tryz.prog w=.ok (.agg #[.bool b,.slice o l c]) w:=by
 unfold Instr.field;simp[go_sem,asAgg]
theorem fieldV2 (k:Int) (b:Bool) (o:Option Addr) (l c:Nat) (d:Bool) (p:Option Addr) (m q:Nat) (w:World) :
  (Instr.field 41 (.agg #[.int .i64 k,.bool b,.slice o l c,.bool d,.slice p m q]) 2).run Tryz.prog w=.ok (.bool d) w:=by
 unfold Instr.field;simp[go_sem,asAgg]
theorem fieldV3 (k:Int) (b:Bool) (o:Option Addr) (l c:Nat) (d:Bool) (p:Option Addr) (m q:Nat) (w:World) :
  (Instr.field 41 (.agg #[.int .i64 k,.bool b,.slice o l c,.bool d,.slice p m q]) 3).run Tryz.prog w=.ok (.slice p m q) w:=by
 unfold Instr.field;simp[go_sem,asAgg]
theorem CI.tight {w:World} {v:Value} {z:Int} {k:Nat} (h:CI w v z k) (hz:z.natAbs<L32 ^ 600):CI w v z 600:=by
 obtain⟨va,h1,h2,_⟩:=h;exact⟨va,h1,h2,hz⟩
theorem EL.shape {w:World} {v:Value} {env:List (ByteArray × V)} (h:EL w v env):∃ eo en ec,v=.slice eo en ec:=by
 obtain⟨us,⟨ko,kc,rfl,-⟩,-⟩:=h;exact⟨_,_,_,rfl⟩
theorem lk0 (x:V):lkV x 0=.I (asI x):=by cases x<;>rfl
theorem VC.lk1 {w:World} {v:Value} {x:V} (h:VC w v (lkV x 1)):∃ k b o l c p m q,v=.agg #[.int .i64 k,.bool b,.slice o l c,.bool (asB x),.slice p m q]:=by
 cases x with
 | I z=>obtain⟨o,l,c,rfl,-⟩:=VC.int (z:=0) h;exact⟨_,_,_,_,_,_,_,_,rfl⟩
 | B b=>have:=VC.bool (b:=b) h;subst this;exact⟨_,_,_,_,_,_,_,_,rfl⟩
 | L l=>obtain⟨o,l',c,rfl,-⟩:=VC.int (z:=0) h;exact⟨_,_,_,_,_,_,_,_,rfl⟩
theorem NL.nil (w:World):NL w (.slice none 0 0) []:=⟨[],El.At.nil w,rfl⟩
theorem VC.lk2 {w:World} {v:Value} {x:V} (h:VC w v (lkV x 2)):∃ k b o l c d p m q,v=.agg #[.int .i64 k,.bool b,.slice o l c,.bool d,.slice p m q]/\NL w (.slice p m q) (asL x):=by
 cases x with
 | I z=>obtain⟨o,l,c,rfl,-⟩:=VC.int (z:=0) h;exact⟨_,_,_,_,_,_,_,_,_,rfl,NL.nil w⟩
 | B b=>obtain⟨o,l,c,rfl,-⟩:=VC.int (z:=0) h;exact⟨_,_,_,_,_,_,_,_,_,rfl,NL.nil w⟩
 | L l=>obtain⟨o,l',c,rfl,hn⟩:=VC.list (zs:=l) h;exact⟨_,_,_,_,_,_,_,_,_,rfl,hn⟩
theorem rt_node {o z:Int} {nm:ByteArray} {ks:List F} (h:rt (.node o z nm ks)=true):fitF o z (srts ks)=true/\∀ f ∈ ks,rt f=true:=by
 rw[rt,Bool.and_eq_true,rts_all,List.all_eq_true] at h;exact h
theorem srts_nil {ks:List F} (h:srts ks=[]):ks=[]:=by
 unfold srts at h;simpa using h
theorem srts_one {ks:List F} {s:Int} (h:srts ks=[s]):∃ p,ks=[p]/\srt p.op=s:=by
 unfold srts at h
 match ks,h with
 | [p],h=>exact⟨p,rfl,by simpa using h⟩
 | [],h=>simp at h
 | _::_::_,h=>simp at h
theorem srts_two {ks:List F} {s r:Int} (h:srts ks=[s,r]):∃ p q,ks=[p,q]/\srt p.op=s/\srt q.op=r:=by
 unfold srts at h
 match ks,h with
 | [p,q],h=>exact⟨p,q,rfl,by simpa using h⟩
 | [],h=>simp at h
 | [_],h=>simp at h
 | _::_::_::_,h=>simp at h
theorem fit_range {o z:Int} {ss:List Int} (h:fitF o z ss=true):0<=o/\o<=20:=by
 rcases ops21 o with h1 | h1
 ·omega
 exfalso
 unfold fitF kidsOk at h;rw[if_neg (by omega),if_neg (by omega),if_neg (by omega),if_neg (by omega),if_neg (by omega),if_neg (by omega),if_neg (by omega),if_neg (by omega),if_neg (by omega)] at h
 simp at h
def At5 (w:World) (p:Addr) (o:Int) (b:Bool) (ao:Option Addr) (l c:Nat) (nm:ByteArray) (ko:Option Addr) (kl kc:Nat):Prop:=
 w.cell? p=some (.int .i64 o)/\w.cell? ⟨p.block,p.off+1,none⟩=some (.bool b)/\w.cell? ⟨p.block,p.off+2,none⟩=some (.slice ao l c)/\w.cell? ⟨p.block,p.off+3,none⟩=some (.string nm)/\w.cell? ⟨p.block,p.off+4,none⟩=some (.slice ko kl kc)
theorem At5.below {w w':World} {p:Addr} {o:Int} {b:Bool} {ao:Option Addr} {l c:Nat} {nm:ByteArray} {ko:Option Addr} {kl kc:Nat} (h:At5 w p o b ao l c nm ko kl kc) (hb:Below w.heap.size w w'):At5 w' p o b ao l c nm ko kl kc:=by
 obtain⟨h0,h1,h2,h3,h4⟩:=h;have key:∀ q v,w.cell? q=some v->w'.cell? q=some v:=fun q v h=>by rw[hb.cell (World.block_lt_of_cell? w _ h)];exact h
 exact⟨key _ _ h0,key _ _ h1,key _ _ h2,key _ _ h3,key _ _ h4⟩
theorem FL.first {w:World} {S:Nat->Prop} {d:Nat} {ko:Option Addr} {n kc:Nat} {p:F} {l:List F} (h:FL w S d (.slice ko n kc) (p::l)):∃ (a:Addr) (b:Bool) (o:Option Addr) (l c:Nat) (po:Option Addr) (pl pc:Nat),ko=some a /\
  (w.cell? a=some (.int .i64 p.op)/\w.cell? ⟨a.block,a.off+1,none⟩=some (.bool b)/\w.cell? ⟨a.block,a.off+2,none⟩=some (.slice o l c) /\
   w.cell? ⟨a.block,a.off+3,none⟩=some (.string p.name)/\w.cell? ⟨a.block,a.off+4,none⟩=some (.slice po pl pc)) /\
  FC w S d (.agg #[.int .i64 p.op,.bool b,.slice o l c,.string p.name,.slice po pl pc]) p:=by
 have:=h.cells 0 (by simp)
 simpa [Addr.add] using this
theorem FL.second {w:World} {S:Nat->Prop} {d:Nat} {ko:Option Addr} {n kc:Nat} {p q:F} {l:List F} (h:FL w S d (.slice ko n kc) (p::q::l)):∃ (a:Addr) (b:Bool) (o:Option Addr) (l c:Nat) (po:Option Addr) (pl pc:Nat),ko=some a /\
  (w.cell? ⟨a.block,a.off+5,none⟩=some (.int .i64 q.op)/\w.cell? ⟨a.block,a.off+5+1,none⟩=some (.bool b)/\w.cell? ⟨a.block,a.off+5+2,none⟩=some (.slice o l c) /\
   w.cell? ⟨a.block,a.off+5+3,none⟩=some (.string q.name)/\w.cell? ⟨a.block,a.off+5+4,none⟩=some (.slice po pl pc)) /\
  FC w S d (.agg #[.int .i64 q.op,.bool b,.slice o l c,.string q.name,.slice po pl pc]) q:=by
 have:=h.cells 1 (by simp)
 simpa [Addr.add] using this
attribute [local go_sem] fieldV0 fieldV1 fieldV2 fieldV3
theorem num_step (d:Nat) (IN:NumC d) (IL:LstC d):NumC (d+1):=by
 intro ve v env t S w h he hr hs hsm;obtain⟨b,ao,l,c,ko,kl,kc,rfl,⟨-,hz,hkl,hkc,hkm⟩,-,hk⟩:=h.open;obtain⟨o,z,nm,ks⟩:=t;simp only[F.op,F.num,F.name,F.kids] at hz hk hkl hs ⊢;rw[show d+1 - 1=d from rfl] at hk;obtain⟨hfit,hrs⟩:=rt_node hr
 have ho:o=0\/o=1\/o=2\/o=3\/o=4\/o=5\/o=6\/o=7:=by
  have:=fit_range hfit;unfold srt at hs
  split at hs
  ·omega
  split at hs
  ·omega
  omega
 obtain⟨eo,en,ec,rfl⟩:=he.shape;have hkm':kc<=9223372036854775807:=hkm;have hval:=hsm.val;clear h hr hs hkm;rcases ho with rfl | rfl | rfl | rfl | rfl | rfl | rfl | rfl
 ·have HX:=Lib.hid hk;have HZ:=Lib.hid hz;have HE:=Lib.hid he;have HSM:=Lib.hid hsm;have HRS:=Lib.hid hrs;have HW:=Lib.hid (Below.refl w.heap.size w);have HKL0:=Lib.hid hkl;clear hkl hkc;clear hz hk he hsm hrs hval hfit;go_enter Tryz.func116,Tryz.ntmps116
  obtain⟨x1,kf,ef,ekf,hbf,hkf,HBf⟩:=newV w #[.int .i64 0,.bool b,.slice ao l c,.string nm,.slice ko kl kc] 29;replace HX:=Lib.hid (HX.out.below hbf.out);replace HZ:=Lib.hid (HZ.out.below hbf.out);replace HE:=Lib.hid (HE.out.below hbf.out);replace HW:=Lib.hid (HW.out.trans (hbf.out.mono HW.out.size));have HKf0:=hkf;obtain⟨x2,kr,er,ekr,hbr,hkr,HBr⟩:=newV x1 #[.bool false,.slice none 0 0] 26;replace HBf:=kBV hbr.out HBf;replace HX:=Lib.hid (HX.out.below hbr.out);replace HZ:=Lib.hid (HZ.out.below hbr.out);replace HE:=Lib.hid (HE.out.below hbr.out);replace HW:=Lib.hid (HW.out.trans (hbr.out.mono HW.out.size));have HKr:Hid (w.heap.size<=kr):=Lib.hid (Nat.le_trans hbf.out.size hkr.out);have c0:=cell_at (v:=.int .i64 0) HBf.out 0 rfl;have fc0:=froz_at HBf.out 0;have c1:=cell_at (v:=.bool b) HBf.out 1 rfl;have fc1:=froz_at HBf.out 1
  have c2:=cell_at (v:=.slice ao l c) HBf.out 2 rfl;have fc2:=froz_at HBf.out 2;have c3:=cell_at (v:=.string nm) HBf.out 3 rfl;have fc3:=froz_at HBf.out 3;have c4:=cell_at (v:=.slice ko kl kc) HBf.out 4 rfl;have fc4:=froz_at HBf.out 4;obtain⟨r0,r1',fr0,fr1⟩:=cells2V HBr.out;go_wp2_with fail
  clear c0 fc0 c1 fc1 c2 fc2 c3 fc3 c4 fc4;obtain⟨r1,r2⟩:=res2V HW.out HBr.out n32_2 HKr.out (.bool b) (.slice ao l c)
  (try simp only[Exit.inBlock,Exit.then])
  exact bodyPost_ret (v:=.agg #[.bool b,.slice ao l c]) (by simp[results,Tryz.results116,go_sem,r0,r1']) rfl ⟨_,rfl,(HZ.out).fr r1,r2⟩
 ·have HX:=Lib.hid hk;have HZ:=Lib.hid hz;have HE:=Lib.hid he;have HSM:=Lib.hid hsm;have HRS:=Lib.hid hrs;have HW:=Lib.hid (Below.refl w.heap.size w);have HKL0:=Lib.hid hkl;clear hkl hkc;clear hz hk he hsm hrs hval hfit;go_enter Tryz.func116,Tryz.ntmps116
  obtain⟨x1,kf,ef,ekf,hbf,hkf,HBf⟩:=newV w #[.int .i64 1,.bool b,.slice ao l c,.string nm,.slice ko kl kc] 29;replace HX:=Lib.hid (HX.out.below hbf.out);replace HZ:=Lib.hid (HZ.out.below hbf.out);replace HE:=Lib.hid (HE.out.below hbf.out);replace HW:=Lib.hid (HW.out.trans (hbf.out.mono HW.out.size));have HKf0:=hkf;obtain⟨x2,kr,er,ekr,hbr,hkr,HBr⟩:=newV x1 #[.bool false,.slice none 0 0] 26;replace HBf:=kBV hbr.out HBf;replace HX:=Lib.hid (HX.out.below hbr.out);replace HZ:=Lib.hid (HZ.out.below hbr.out);replace HE:=Lib.hid (HE.out.below hbr.out);replace HW:=Lib.hid (HW.out.trans (hbr.out.mono HW.out.size));have HKr:Hid (w.heap.size<=kr):=Lib.hid (Nat.le_trans hbf.out.size hkr.out);have c0:=cell_at (v:=.int .i64 1) HBf.out 0 rfl;have fc0:=froz_at HBf.out 0;have c1:=cell_at (v:=.bool b) HBf.out 1 rfl;have fc1:=froz_at HBf.out 1
  have c2:=cell_at (v:=.slice ao l c) HBf.out 2 rfl;have fc2:=froz_at HBf.out 2;have c3:=cell_at (v:=.string nm) HBf.out 3 rfl;have fc3:=froz_at HBf.out 3;have c4:=cell_at (v:=.slice ko kl kc) HBf.out 4 rfl;have fc4:=froz_at HBf.out 4;go_wp2_with fail
  refine (lookup_p _ env nm 0 x2 HE.out).mono ?_;rintro e x3 ⟨v,rfl,hv,hb⟩;clear c0 fc0 c1 fc1 c2 fc2 c3 fc3 c4 fc4;replace HBf:=kBV hb HBf;replace HBr:=kBV hb HBr;replace HX:=Lib.hid (HX.out.below hb);replace HZ:=Lib.hid (HZ.out.below hb);replace HE:=Lib.hid (HE.out.below hb);replace HW:=Lib.hid (HW.out.trans (hb.mono HW.out.size));rw[lk0] at hv;obtain⟨o1,l1,c1,rfl,hci⟩:=hv.int;have HV:=Lib.hid hci;clear hv hci;obtain⟨r0,r1',fr0,fr1⟩:=cells2V HBr.out;go_wp2_with fail
  obtain⟨r1,r2⟩:=res2V HW.out HBr.out n32_2 HKr.out (.bool (decide (asI (rho env nm)<0))) (.slice o1 l1 c1)
  (try simp only[Exit.inBlock,Exit.then])
  exact bodyPost_ret (v:=.agg #[.bool (decide (asI (rho env nm)<0)),.slice o1 l1 c1]) (by simp[results,Tryz.results116,go_sem,r0,r1']) rfl ⟨_,rfl,(HV.out).fr r1,r2⟩
 ·have HX:=Lib.hid hk;have HZ:=Lib.hid hz;have HE:=Lib.hid he;have HSM:=Lib.hid hsm;have HRS:=Lib.hid hrs;have HW:=Lib.hid (Below.refl w.heap.size w);have HKL0:=Lib.hid hkl;clear hkl hkc;obtain⟨p,q,rfl,hp,hq⟩:=srts_two (ks:=ks) (s:=0) (r:=0) (by simpa [fitF,kidsOk] using hfit);have HSP:=Lib.hid (hsm.kid p (by simp));have HRP:=Lib.hid (hrs p (by simp));have HP:=Lib.hid hp;have HSQ:=Lib.hid (hsm.kid q (by simp));have HRQ:=Lib.hid (hrs q (by simp));have HQ:=Lib.hid hq;have HEV:Hid (asI (ev (rho env) (.node 2 z nm [p,q]))=asI (opV (rho env) 2 z nm [ev (rho env) p,ev (rho env) q])):=Lib.hid (by rw[ev,evs,evs,evs]);have HVAL:Hid ((asI (opV (rho env) 2 z nm [ev (rho env) p,ev (rho env) q])).natAbs<L32 ^ 600):=Lib.hid (by rw[ev,evs,evs,evs] at hval;exact hval);have hkl1:kl=2:=HKL0.out;subst hkl1
  clear hz hk he hsm hrs hval hfit hp HKL0 hq;go_enter Tryz.func116,Tryz.ntmps116
  obtain⟨x1,kf,ef,ekf,hbf,hkf,HBf⟩:=newV w #[.int .i64 2,.bool b,.slice ao l c,.string nm,.slice ko 2 kc] 29;replace HX:=Lib.hid (HX.out.below hbf.out);replace HZ:=Lib.hid (HZ.out.below hbf.out);replace HE:=Lib.hid (HE.out.below hbf.out);replace HW:=Lib.hid (HW.out.trans (hbf.out.mono HW.out.size));have HKf0:=hkf;obtain⟨x2,kr,er,ekr,hbr,hkr,HBr⟩:=newV x1 #[.bool false,.slice none 0 0] 26;replace HBf:=kBV hbr.out HBf;replace HX:=Lib.hid (HX.out.below hbr.out);replace HZ:=Lib.hid (HZ.out.below hbr.out);replace HE:=Lib.hid (HE.out.below hbr.out);replace HW:=Lib.hid (HW.out.trans (hbr.out.mono HW.out.size));have HKr:Hid (w.heap.size<=kr):=Lib.hid (Nat.le_trans hbf.out.size hkr.out);have c0:=cell_at (v:=.int .i64 2) HBf.out 0 rfl;have fc0:=froz_at HBf.out 0;have c1:=cell_at (v:=.bool b) HBf.out 1 rfl;have fc1:=froz_at HBf.out 1
  have c2:=cell_at (v:=.slice ao l c) HBf.out 2 rfl;have fc2:=froz_at HBf.out 2;have c3:=cell_at (v:=.string nm) HBf.out 3 rfl;have fc3:=froz_at HBf.out 3;have c4:=cell_at (v:=.slice ko 2 kc) HBf.out 4 rfl;have fc4:=froz_at HBf.out 4;obtain⟨a,bp,op,lp,cp,kop,klp,kcp,hkop,⟨p0,p1,p2,p3,p4⟩,hfp⟩:=HX.out.first;have HFP:=Lib.hid hfp;clear hfp;obtain⟨opp,hopp⟩:∃ x,x=p.op:=⟨_,rfl⟩
  obtain⟨nmp,hnmp⟩:∃ x,x=p.name:=⟨_,rfl⟩
  rw[<-hopp] at p0 HFP;rw[<-hnmp] at p3 HFP;clear hopp hnmp;obtain⟨a2,bq,oq,lq,cq,koq,klq,kcq,hkoq,⟨q0,q1,q2,q3,q4⟩,hfq⟩:=HX.out.second;have HFQ:=Lib.hid hfq;clear hfq;obtain⟨opq,hopq⟩:∃ x,x=q.op:=⟨_,rfl⟩
  obtain⟨nmq,hnmq⟩:∃ x,x=q.name:=⟨_,rfl⟩
  rw[<-hopq] at q0 HFQ;rw[<-hnmq] at q3 HFQ;clear hopq hnmq;have HQC:Hid (At5 x2 ⟨a2.block,a2.off+5,none⟩ opq bq oq lq cq nmq koq klq kcq):=Lib.hid ⟨q0,q1,q2,q3,q4⟩;subst hkop;injection hkoq with ha2;subst ha2;go_wp2_with fail
  refine (IN _ _ env p S x2 HFP.out HE.out HRP.out HP.out HSP.out).mono ?_;rintro e x3 ⟨x,rfl,hx,hb⟩;clear c0 fc0 c1 fc1 c2 fc2 c3 fc3 c4 fc4 p0 p1 p2 p3 p4 q0 q1 q2 q3 q4;replace HBf:=kBV hb HBf;replace HBr:=kBV hb HBr;replace HX:=Lib.hid (HX.out.below hb);replace HZ:=Lib.hid (HZ.out.below hb);replace HE:=Lib.hid (HE.out.below hb);replace HW:=Lib.hid (HW.out.trans (hb.mono HW.out.size));replace HFP:=Lib.hid (HFP.out.below hb);replace HFQ:=Lib.hid (HFQ.out.below hb);replace HQC:=Lib.hid (HQC.out.below hb);obtain⟨X,hX⟩:∃ X,X=asI (ev (rho env) p):=⟨_,rfl⟩
  rw[<-hX] at hx;have HX0:=Lib.hid hX;clear hX;obtain⟨bx,ox,lx,cx,rfl⟩:=hx.shape;have HPX:=Lib.hid hx;clear hx HFP;obtain⟨x4,ka,ea,eka,hba,hka,HBa⟩:=newV x3 #[.bool bx,.slice ox lx cx] 26;replace HBf:=kBV hba.out HBf;replace HBr:=kBV hba.out HBr;replace HX:=Lib.hid (HX.out.below hba.out);replace HZ:=Lib.hid (HZ.out.below hba.out);replace HE:=Lib.hid (HE.out.below hba.out);replace HW:=Lib.hid (HW.out.trans (hba.out.mono HW.out.size));replace HFQ:=Lib.hid (HFQ.out.below hba.out);replace HQC:=Lib.hid (HQC.out.below hba.out);replace HPX:=Lib.hid (HPX.out.below hba.out);have c0:=cell_at (v:=.int .i64 2) HBf.out 0 rfl;have fc0:=froz_at HBf.out 0;have c1:=cell_at (v:=.bool b) HBf.out 1 rfl;have fc1:=froz_at HBf.out 1;have c2:=cell_at (v:=.slice ao l c) HBf.out 2 rfl;have fc2:=froz_at HBf.out 2
  have c3:=cell_at (v:=.string nm) HBf.out 3 rfl;have fc3:=froz_at HBf.out 3;have c4:=cell_at (v:=.slice (some a) 2 kc) HBf.out 4 rfl;have fc4:=froz_at HBf.out 4;have d0:=cell_at (v:=.bool bx) HBa.out 0 rfl;have fd0:=froz_at HBa.out 0;have d1:=cell_at (v:=.slice ox lx cx) HBa.out 1 rfl;have fd1:=froz_at HBa.out 1;go_upto_region 22 with fail
  clear c0 fc0 c1 fc1 c2 fc2 c3 fc3 c4 fc4 d0 fd0 d1 fd1;have hlt_f:=lt_of_block HBf.out;have hlt_a:=lt_of_block HBa.out;have hog:Hid (∀ q,q<0->(fun q=>0) q<x4.heap.size):=Lib.hid (fun q h=>absurd h (Nat.not_lt_zero _));refine R7.region (by kernel_rfl) [[],[],[],[2],[2,3],[2,3,4],[1,2,3,4,5],[0,1,2,3,4,5,6],[0,1,2,3,4,5,6,7]] [] [] (fun q=>0) 0 8 (by kernel_rfl) (by kernel_rfl) (by rfl) hog.out (fun q q' h h' hn=>absurd hn (by omega)) ?_;refine R7.Chain.det ?_ (by rfl) (fun T xs wr hA=>?_) ?_
  rotate_left 1
  ·have e6:=hA.pre 6 (by kernel_rfl);simp only[gsa,gsc,gsz] at e6;have hBq:wr.heap[ka]?=_:=(hA.bl _ hlt_a (fun q h=>absurd h (Nat.not_lt_zero _))).trans HBa.out;have q0:=cell_at (v:=.bool bx) hBq 0 rfl;have q1:=cell_at (v:=.slice ox lx cx) hBq 1 rfl;clear hBq;clear hA;refine⟨(by rfl),?_⟩;go_simp<;>(try with_reducible rfl)
  refine R7.Chain.det ?_ (by rfl) (fun T xs wr hA=>?_) ?_
  rotate_left 1
  ·have e0:=hA.pre 0 (by kernel_rfl);simp only[gsa,gsz] at e0;clear hA;refine⟨(by rfl),?_⟩;go_simp<;>(try with_reducible rfl)
  refine R7.Chain.det ?_ (by rfl) (fun T xs wr hA=>?_) ?_
  rotate_left 1
  ·have e3:=hA.pre 3 (by kernel_rfl);simp only[gsa,gsc,gsz] at e3;clear hA;refine⟨(by rfl),?_⟩;go_simp<;>(try with_reducible rfl)
  refine R7.Chain.det ?_ (by rfl) (fun T xs wr hA=>?_) ?_
  rotate_left 1
  ·have e85:=hA.tm 2 85 (by rfl) (by rfl);have f85:xs 2=_:=hA.fa 2 (by rfl)
   (try simp (disch:=first | rfl | decide) only [R7.mask_in] at f85)
   rw[f85] at e85;clear f85;have hBq:wr.heap[kf]?=_:=(hA.bl _ hlt_f (fun q h=>absurd h (Nat.not_lt_zero _))).trans HBf.out;have q0:=cell_at (v:=.int .i64 2) hBq 0 rfl;have q1:=cell_at (v:=.bool b) hBq 1 rfl;have q2:=cell_at (v:=.slice ao l c) hBq 2 rfl;have q3:=cell_at (v:=.string nm) hBq 3 rfl;have q4:=cell_at (v:=.slice (some a) 2 kc) hBq 4 rfl;clear hBq;clear hA;refine⟨(by rfl),?_⟩;go_simp<;>(try with_reducible rfl)
  refine R7.Chain.det ?_ (by rfl) (fun T xs wr hA=>?_) ?_
  rotate_left 1
  ·have e86:=hA.tm 3 86 (by rfl) (by rfl);have f86:xs 3=_:=hA.fa 3 (by rfl)
   (try simp (disch:=first | rfl | decide) only [R7.mask_in] at f86)
   rw[f86] at e86;clear f86;clear hA;refine⟨(by rfl),?_⟩;go_simp<;>(try with_reducible rfl)
  refine R7.Chain.det ?_ (by rfl) (fun T xs wr hA=>?_) ?_
  rotate_left 1
  ·have e87:=hA.tm 4 87 (by rfl) (by rfl);have f87:xs 4=_:=hA.fa 4 (by rfl)
   (try simp (disch:=first | rfl | decide) only [R7.mask_in] at f87)
   rw[f87] at e87;clear f87;have hbw:=undrew (hA.be x4.heap.size (Nat.le_refl _) (fun q h=>absurd h (Nat.not_lt_zero q)));obtain⟨q0,q1,q2,q3,q4⟩:=HQC.out.below hbw;simp only at q0 q1 q2 q3 q4;clear hA;refine⟨(by rfl),?_⟩;go_simp<;>(try with_reducible rfl)
  refine R7.Chain.call (fun xs v w=>∃ y,v=y/\CI w y (asI (ev (rho env) q)) 600) (fun _ _ _ _ h hb=>by obtain⟨y,h1,h2⟩:=h;exact⟨y,h1,h2.below hb⟩) (fun _ _ _ _ _ _ h _=>by obtain⟨q,hq,_⟩:=h;exact absurd hq (Nat.not_lt_zero _)) (by rfl) (fun T xs wr hA=>?_) ?_
  ·have hsw:=(hA.be 0 (Nat.zero_le _) (fun _ _=>Nat.zero_le _)).size;have e84:=hA.tm 1 84 (by rfl) (by rfl);have f84:xs 1=_:=hA.fa 1 (by rfl)
   (try simp (disch:=first | rfl | decide) only [R7.mask_in] at f84)
   rw[f84] at e84;clear f84;have e88:=hA.tm 5 88 (by rfl) (by rfl);have f88:xs 5=_:=hA.fa 5 (by rfl)
   (try simp (disch:=first | rfl | decide) only [R7.mask_in] at f88)
   rw[f88] at e88;clear f88;have hbw:=undrew (hA.be x4.heap.size (Nat.le_refl _) (fun q h=>absurd h (Nat.not_lt_zero q)));have hfq:=HFQ.out.below hbw;clear hA;refine⟨(by rfl),fun K hK=>?_⟩;go_simp
   refine (IN _ _ env q S _ hfq (HE.out.below hbw) HRQ.out HQ.out HSQ.out).mono ?_;rintro e w' ⟨y,rfl,hy,hb'⟩;exact hK.out _ _ ⟨y,rfl,hy⟩ hb'
  refine R7.Chain.call (fun xs v w=>∃ y,v=y/\CI w y (asI (opV (rho env) 2 z nm [ev (rho env) p,ev (rho env) q])) 600) (fun _ _ _ _ h hb=>by obtain⟨y,h1,h2⟩:=h;exact⟨y,h1,h2.below hb⟩) (fun _ _ _ _ _ _ h _=>by obtain⟨q,hq,_⟩:=h;exact absurd hq (Nat.not_lt_zero _)) (by rfl) (fun T xs wr hA=>?_) ?_
  ·have hsw:=(hA.be 0 (Nat.zero_le _) (fun _ _=>Nat.zero_le _)).size;have e83:=hA.tm 0 83 (by rfl) (by rfl);have f83:xs 0=_:=hA.fa 0 (by rfl)
   (try simp (disch:=first | rfl | decide) only [R7.mask_in] at f83)
   rw[f83] at e83;clear f83;have e89:=hA.tm 6 89 (by rfl) (by rfl);have hbw:=undrew (hA.be x4.heap.size (Nat.le_refl _) (fun q h=>absurd h (Nat.not_lt_zero q)));have hF6:∃ y,(xs 6)=y/\CI wr y (asI (ev (rho env) q)) 600:=hA.fa 6 (by rfl);obtain⟨y6,e6,hy6⟩:=hF6;have hpx:=HPX.out.below hbw;clear hA;refine⟨(by rfl),fun K hK=>?_⟩;go_simp
   refine (wadd_any _ _ X (asI (ev (rho env) q)) 600 600 _ hpx.gi (by first | exact hy6.gi | (rw[e6];exact hy6.gi)) (by decide) (by decide)).mono ?_;rintro e w' ⟨y,rfl,hy,hb'⟩;exact hK.out _ _ ⟨y,rfl,CI.tight (by show CI _ _ (asI (ev (rho env) p)+asI (ev (rho env) q)) _;rw[<-HX0.out];exact hy) HVAL.out⟩ hb'
  refine R7.Chain.done (fun xs x5 hL=>?_);obtain⟨⟨hbe,hbl⟩,hf,-,-⟩:=hL;have f0:xs 0=_:=hf 0 (by decide)
  (try simp (disch:=first | rfl | decide) only [R7.mask_in] at f0)
  have f1:xs 1=_:=hf 1 (by decide)
  (try simp (disch:=first | rfl | decide) only [R7.mask_in] at f1)
  have f2:xs 2=_:=hf 2 (by decide)
  (try simp (disch:=first | rfl | decide) only [R7.mask_in] at f2)
  have f3:xs 3=_:=hf 3 (by decide)
  (try simp (disch:=first | rfl | decide) only [R7.mask_in] at f3)
  have f4:xs 4=_:=hf 4 (by decide)
  (try simp (disch:=first | rfl | decide) only [R7.mask_in] at f4)
  have f5:xs 5=_:=hf 5 (by decide)
  (try simp (disch:=first | rfl | decide) only [R7.mask_in] at f5)
  have F6:∃ y,(xs 6)=y/\CI x5 y (asI (ev (rho env) q)) 600:=hf 6 (by decide);have F7:∃ y,(xs 7)=y/\CI x5 y (asI (opV (rho env) 2 z nm [ev (rho env) p,ev (rho env) q])) 600:=hf 7 (by decide);have hb0:Below 0 x4 x5:=undrew (hbe 0 (Nat.zero_le _) (fun _ _=>Nat.zero_le _));have hgr:∀ j,j<x4.heap.size->(∀ q,q<0->(fun q=>0) q≠j)->x5.heap[j]?=x4.heap[j]?:=hbl;clear hbe hbl hf;have hb:Below x4.heap.size x4 x5:=⟨hb0.os,hb0.tape,hb0.output,hb0.size,fun q hq=>hgr q hq (fun q h=>absurd h (Nat.not_lt_zero _))⟩
  refine R7.rest_list (by decide) (by kernel_rfl) ?_;simp only[R7.fill,t1_,t2_,t3_,t4_,t5_,t6_,t7_,f0,f1,f2,f3,f4,f5];clear hb0 hgr hog hlt_f hlt_a f0 f1 f2 f3 f4 f5;replace HBf:=kBV hb HBf;replace HBr:=kBV hb HBr;replace HBa:=kBV hb HBa;replace HX:=Lib.hid (HX.out.below hb);replace HZ:=Lib.hid (HZ.out.below hb);replace HE:=Lib.hid (HE.out.below hb);replace HW:=Lib.hid (HW.out.trans (hb.mono HW.out.size));replace HFQ:=Lib.hid (HFQ.out.below hb);replace HQC:=Lib.hid (HQC.out.below hb);replace HPX:=Lib.hid (HPX.out.below hb);replace hb:=Lib.hid hb;obtain⟨y,hy1,hy2⟩:=F7;obtain⟨b1,o1,l1,c1,hys⟩:=hy2.shape;rw[hys] at hy1 hy2;have HV:=Lib.hid hy2;obtain⟨r0,r1',fr0,fr1⟩:=cells2V HBr.out;go_wp2_with fail
  obtain⟨r1,r2⟩:=res2V HW.out HBr.out n32_2 HKr.out (.bool b1) (.slice o1 l1 c1)
  (try simp only[Exit.inBlock,Exit.then])
  exact bodyPost_ret (v:=.agg #[.bool b1,.slice o1 l1 c1]) (by simp[results,Tryz.results116,go_sem,r0,r1']) rfl ⟨_,rfl,((show CI _ _ (asI (ev (rho env) (.node 2 z nm [p,q]))) 600 from by rw[HEV.out];exact HV.out)).fr r1,r2⟩
 ·have HX:=Lib.hid hk;have HZ:=Lib.hid hz;have HE:=Lib.hid he;have HSM:=Lib.hid hsm;have HRS:=Lib.hid hrs;have HW:=Lib.hid (Below.refl w.heap.size w);have HKL0:=Lib.hid hkl;clear hkl hkc;obtain⟨p,rfl,hp⟩:=srts_one (ks:=ks) (s:=0) (by simpa [fitF,kidsOk] using hfit);have HSP:=Lib.hid (hsm.kid p (by simp));have HRP:=Lib.hid (hrs p (by simp));have HP:=Lib.hid hp;have HEV:Hid (asI (ev (rho env) (.node 3 z nm [p]))=asI (opV (rho env) 3 z nm [ev (rho env) p])):=Lib.hid (by rw[ev,evs,evs]);have HVAL:Hid ((asI (opV (rho env) 3 z nm [ev (rho env) p])).natAbs<L32 ^ 600):=Lib.hid (by rw[ev,evs,evs] at hval;exact hval);have hkl1:kl=1:=HKL0.out;subst hkl1;clear hz hk he hsm hrs hval hfit hp HKL0;go_enter Tryz.func116,Tryz.ntmps116
  obtain⟨x1,kf,ef,ekf,hbf,hkf,HBf⟩:=newV w #[.int .i64 3,.bool b,.slice ao l c,.string nm,.slice ko 1 kc] 29;replace HX:=Lib.hid (HX.out.below hbf.out);replace HZ:=Lib.hid (HZ.out.below hbf.out);replace HE:=Lib.hid (HE.out.below hbf.out);replace HW:=Lib.hid (HW.out.trans (hbf.out.mono HW.out.size));have HKf0:=hkf;obtain⟨x2,kr,er,ekr,hbr,hkr,HBr⟩:=newV x1 #[.bool false,.slice none 0 0] 26;replace HBf:=kBV hbr.out HBf;replace HX:=Lib.hid (HX.out.below hbr.out);replace HZ:=Lib.hid (HZ.out.below hbr.out);replace HE:=Lib.hid (HE.out.below hbr.out);replace HW:=Lib.hid (HW.out.trans (hbr.out.mono HW.out.size));have HKr:Hid (w.heap.size<=kr):=Lib.hid (Nat.le_trans hbf.out.size hkr.out);have c0:=cell_at (v:=.int .i64 3) HBf.out 0 rfl;have fc0:=froz_at HBf.out 0;have c1:=cell_at (v:=.bool b) HBf.out 1 rfl;have fc1:=froz_at HBf.out 1
  have c2:=cell_at (v:=.slice ao l c) HBf.out 2 rfl;have fc2:=froz_at HBf.out 2;have c3:=cell_at (v:=.string nm) HBf.out 3 rfl;have fc3:=froz_at HBf.out 3;have c4:=cell_at (v:=.slice ko 1 kc) HBf.out 4 rfl;have fc4:=froz_at HBf.out 4;obtain⟨a,bp,op,lp,cp,kop,klp,kcp,hkop,⟨p0,p1,p2,p3,p4⟩,hfp⟩:=HX.out.first;have HFP:=Lib.hid hfp;clear hfp;obtain⟨opp,hopp⟩:∃ x,x=p.op:=⟨_,rfl⟩
  obtain⟨nmp,hnmp⟩:∃ x,x=p.name:=⟨_,rfl⟩
  rw[<-hopp] at p0 HFP;rw[<-hnmp] at p3 HFP;clear hopp hnmp;subst hkop;go_wp2_with fail
  refine (IN _ _ env p S x2 HFP.out HE.out HRP.out HP.out HSP.out).mono ?_;rintro e x3 ⟨x,rfl,hx,hb⟩;clear c0 fc0 c1 fc1 c2 fc2 c3 fc3 c4 fc4 p0 p1 p2 p3 p4;replace HBf:=kBV hb HBf;replace HBr:=kBV hb HBr;replace HX:=Lib.hid (HX.out.below hb);replace HZ:=Lib.hid (HZ.out.below hb);replace HE:=Lib.hid (HE.out.below hb);replace HW:=Lib.hid (HW.out.trans (hb.mono HW.out.size));replace HFP:=Lib.hid (HFP.out.below hb);obtain⟨X,hX⟩:∃ X,X=asI (ev (rho env) p):=⟨_,rfl⟩
  rw[<-hX] at hx;have HX0:=Lib.hid hX;clear hX;obtain⟨bx,ox,lx,cx,rfl⟩:=hx.shape;have HPX:=Lib.hid hx;clear hx HFP;obtain⟨x4,ka,ea,eka,hba,hka,HBa⟩:=newV x3 #[.bool bx,.slice ox lx cx] 26;replace HBf:=kBV hba.out HBf;replace HBr:=kBV hba.out HBr;replace HX:=Lib.hid (HX.out.below hba.out);replace HZ:=Lib.hid (HZ.out.below hba.out);replace HE:=Lib.hid (HE.out.below hba.out);replace HW:=Lib.hid (HW.out.trans (hba.out.mono HW.out.size));replace HPX:=Lib.hid (HPX.out.below hba.out);have c0:=cell_at (v:=.int .i64 3) HBf.out 0 rfl;have fc0:=froz_at HBf.out 0;have c1:=cell_at (v:=.bool b) HBf.out 1 rfl;have fc1:=froz_at HBf.out 1;have c2:=cell_at (v:=.slice ao l c) HBf.out 2 rfl;have fc2:=froz_at HBf.out 2;have c3:=cell_at (v:=.string nm) HBf.out 3 rfl;have fc3:=froz_at HBf.out 3
  have c4:=cell_at (v:=.slice (some a) 1 kc) HBf.out 4 rfl;have fc4:=froz_at HBf.out 4;have d0:=cell_at (v:=.bool bx) HBa.out 0 rfl;have fd0:=froz_at HBa.out 0;have d1:=cell_at (v:=.slice ox lx cx) HBa.out 1 rfl;have fd1:=froz_at HBa.out 1;go_wp2_with fail
  refine (wmul_any _ _ z X 600 600 x4 HZ.out.gi HPX.out.gi (by decide) (by decide)).mono ?_;rintro e x5 ⟨y,rfl,hy,hb⟩;clear c0 fc0 c1 fc1 c2 fc2 c3 fc3 c4 fc4 d0 fd0 d1 fd1;replace HBf:=kBV hb HBf;replace HBr:=kBV hb HBr;replace HBa:=kBV hb HBa;replace HX:=Lib.hid (HX.out.below hb);replace HZ:=Lib.hid (HZ.out.below hb);replace HE:=Lib.hid (HE.out.below hb);replace HW:=Lib.hid (HW.out.trans (hb.mono HW.out.size));replace HPX:=Lib.hid (HPX.out.below hb);obtain⟨b1,o1,l1,c1,rfl⟩:=hy.shape;have HV:=Lib.hid (CI.tight (z:=asI (opV (rho env) 3 z nm [ev (rho env) p])) (by show CI _ _ (z*asI (ev (rho env) p)) _;rw[<-HX0.out];exact hy) HVAL.out);clear hy;obtain⟨r0,r1',fr0,fr1⟩:=cells2V HBr.out;go_wp2_with fail
  obtain⟨r1,r2⟩:=res2V HW.out HBr.out n32_2 HKr.out (.bool b1) (.slice o1 l1 c1)
  (try simp only[Exit.inBlock,Exit.then])
  exact bodyPost_ret (v:=.agg #[.bool b1,.slice o1 l1 c1]) (by simp[results,Tryz.results116,go_sem,r0,r1']) rfl ⟨_,rfl,((show CI _ _ (asI (ev (rho env) (.node 3 z nm [p]))) 600 from by rw[HEV.out];exact HV.out)).fr r1,r2⟩
 ·have HX:=Lib.hid hk;have HZ:=Lib.hid hz;have HE:=Lib.hid he;have HSM:=Lib.hid hsm;have HRS:=Lib.hid hrs;have HW:=Lib.hid (Below.refl w.heap.size w);have HKL0:=Lib.hid hkl;clear hkl hkc;obtain⟨p,q,rfl,hp,hq⟩:=srts_two (ks:=ks) (s:=0) (r:=0) (by simpa [fitF,kidsOk] using hfit);have HSP:=Lib.hid (hsm.kid p (by simp));have HRP:=Lib.hid (hrs p (by simp));have HP:=Lib.hid hp;have HSQ:=Lib.hid (hsm.kid q (by simp));have HRQ:=Lib.hid (hrs q (by simp));have HQ:=Lib.hid hq;have HEV:Hid (asI (ev (rho env) (.node 4 z nm [p,q]))=asI (opV (rho env) 4 z nm [ev (rho env) p,ev (rho env) q])):=Lib.hid (by rw[ev,evs,evs,evs]);have HVAL:Hid ((asI (opV (rho env) 4 z nm [ev (rho env) p,ev (rho env) q])).natAbs<L32 ^ 600):=Lib.hid (by rw[ev,evs,evs,evs] at hval;exact hval);have hkl1:kl=2:=HKL0.out;subst hkl1
  clear hz hk he hsm hrs hval hfit hp HKL0 hq;go_enter Tryz.func116,Tryz.ntmps116
  obtain⟨x1,kf,ef,ekf,hbf,hkf,HBf⟩:=newV w #[.int .i64 4,.bool b,.slice ao l c,.string nm,.slice ko 2 kc] 29;replace HX:=Lib.hid (HX.out.below hbf.out);replace HZ:=Lib.hid (HZ.out.below hbf.out);replace HE:=Lib.hid (HE.out.below hbf.out);replace HW:=Lib.hid (HW.out.trans (hbf.out.mono HW.out.size));have HKf0:=hkf;obtain⟨x2,kr,er,ekr,hbr,hkr,HBr⟩:=newV x1 #[.bool false,.slice none 0 0] 26;replace HBf:=kBV hbr.out HBf;replace HX:=Lib.hid (HX.out.below hbr.out);replace HZ:=Lib.hid (HZ.out.below hbr.out);replace HE:=Lib.hid (HE.out.below hbr.out);replace HW:=Lib.hid (HW.out.trans (hbr.out.mono HW.out.size));have HKr:Hid (w.heap.size<=kr):=Lib.hid (Nat.le_trans hbf.out.size hkr.out);have c0:=cell_at (v:=.int .i64 4) HBf.out 0 rfl;have fc0:=froz_at HBf.out 0;have c1:=cell_at (v:=.bool b) HBf.out 1 rfl;have fc1:=froz_at HBf.out 1
  have c2:=cell_at (v:=.slice ao l c) HBf.out 2 rfl;have fc2:=froz_at HBf.out 2;have c3:=cell_at (v:=.string nm) HBf.out 3 rfl;have fc3:=froz_at HBf.out 3;have c4:=cell_at (v:=.slice ko 2 kc) HBf.out 4 rfl;have fc4:=froz_at HBf.out 4;obtain⟨a,bp,op,lp,cp,kop,klp,kcp,hkop,⟨p0,p1,p2,p3,p4⟩,hfp⟩:=HX.out.first;have HFP:=Lib.hid hfp;clear hfp;obtain⟨opp,hopp⟩:∃ x,x=p.op:=⟨_,rfl⟩
  obtain⟨nmp,hnmp⟩:∃ x,x=p.name:=⟨_,rfl⟩
  rw[<-hopp] at p0 HFP;rw[<-hnmp] at p3 HFP;clear hopp hnmp;obtain⟨a2,bq,oq,lq,cq,koq,klq,kcq,hkoq,⟨q0,q1,q2,q3,q4⟩,hfq⟩:=HX.out.second;have HFQ:=Lib.hid hfq;clear hfq;obtain⟨opq,hopq⟩:∃ x,x=q.op:=⟨_,rfl⟩
  obtain⟨nmq,hnmq⟩:∃ x,x=q.name:=⟨_,rfl⟩
  rw[<-hopq] at q0 HFQ;rw[<-hnmq] at q3 HFQ;clear hopq hnmq;have HQC:Hid (At5 x2 ⟨a2.block,a2.off+5,none⟩ opq bq oq lq cq nmq koq klq kcq):=Lib.hid ⟨q0,q1,q2,q3,q4⟩;subst hkop;injection hkoq with ha2;subst ha2;go_wp2_with fail
  refine (IN _ _ env p S x2 HFP.out HE.out HRP.out HP.out HSP.out).mono ?_;rintro e x3 ⟨x,rfl,hx,hb⟩;clear c0 fc0 c1 fc1 c2 fc2 c3 fc3 c4 fc4 p0 p1 p2 p3 p4 q0 q1 q2 q3 q4;replace HBf:=kBV hb HBf;replace HBr:=kBV hb HBr;replace HX:=Lib.hid (HX.out.below hb);replace HZ:=Lib.hid (HZ.out.below hb);replace HE:=Lib.hid (HE.out.below hb);replace HW:=Lib.hid (HW.out.trans (hb.mono HW.out.size));replace HFP:=Lib.hid (HFP.out.below hb);replace HFQ:=Lib.hid (HFQ.out.below hb);replace HQC:=Lib.hid (HQC.out.below hb);obtain⟨X,hX⟩:∃ X,X=asI (ev (rho env) p):=⟨_,rfl⟩
  rw[<-hX] at hx;have HX0:=Lib.hid hX;clear hX;obtain⟨bx,ox,lx,cx,rfl⟩:=hx.shape;have HPX:=Lib.hid hx;clear hx HFP;obtain⟨x4,ka,ea,eka,hba,hka,HBa⟩:=newV x3 #[.bool bx,.slice ox lx cx] 26;replace HBf:=kBV hba.out HBf;replace HBr:=kBV hba.out HBr;replace HX:=Lib.hid (HX.out.below hba.out);replace HZ:=Lib.hid (HZ.out.below hba.out);replace HE:=Lib.hid (HE.out.below hba.out);replace HW:=Lib.hid (HW.out.trans (hba.out.mono HW.out.size));replace HFQ:=Lib.hid (HFQ.out.below hba.out);replace HQC:=Lib.hid (HQC.out.below hba.out);replace HPX:=Lib.hid (HPX.out.below hba.out);have c0:=cell_at (v:=.int .i64 4) HBf.out 0 rfl;have fc0:=froz_at HBf.out 0;have c1:=cell_at (v:=.bool b) HBf.out 1 rfl;have fc1:=froz_at HBf.out 1;have c2:=cell_at (v:=.slice ao l c) HBf.out 2 rfl;have fc2:=froz_at HBf.out 2
  have c3:=cell_at (v:=.string nm) HBf.out 3 rfl;have fc3:=froz_at HBf.out 3;have c4:=cell_at (v:=.slice (some a) 2 kc) HBf.out 4 rfl;have fc4:=froz_at HBf.out 4;have d0:=cell_at (v:=.bool bx) HBa.out 0 rfl;have fd0:=froz_at HBa.out 0;have d1:=cell_at (v:=.slice ox lx cx) HBa.out 1 rfl;have fd1:=froz_at HBa.out 1;go_upto_region 21 with fail
  clear c0 fc0 c1 fc1 c2 fc2 c3 fc3 c4 fc4 d0 fd0 d1 fd1;have hlt_f:=lt_of_block HBf.out;have hlt_a:=lt_of_block HBa.out;have hog:Hid (∀ q,q<0->(fun q=>0) q<x4.heap.size):=Lib.hid (fun q h=>absurd h (Nat.not_lt_zero _));refine R7.region (by kernel_rfl) [[],[],[],[2],[2,3],[2,3,4],[1,2,3,4,5],[0,1,2,3,4,5,6],[0,1,2,3,4,5,6,7]] [] [] (fun q=>0) 0 8 (by kernel_rfl) (by kernel_rfl) (by rfl) hog.out (fun q q' h h' hn=>absurd hn (by omega)) ?_;refine R7.Chain.det ?_ (by rfl) (fun T xs wr hA=>?_) ?_
  rotate_left 1
  ·have e6:=hA.pre 6 (by kernel_rfl);simp only[gsa,gsc,gsz] at e6;have hBq:wr.heap[ka]?=_:=(hA.bl _ hlt_a (fun q h=>absurd h (Nat.not_lt_zero _))).trans HBa.out;have q0:=cell_at (v:=.bool bx) hBq 0 rfl;have q1:=cell_at (v:=.slice ox lx cx) hBq 1 rfl;clear hBq;clear hA;refine⟨(by rfl),?_⟩;go_simp<;>(try with_reducible rfl)
  refine R7.Chain.det ?_ (by rfl) (fun T xs wr hA=>?_) ?_
  rotate_left 1
  ·have e0:=hA.pre 0 (by kernel_rfl);simp only[gsa,gsz] at e0;clear hA;refine⟨(by rfl),?_⟩;go_simp<;>(try with_reducible rfl)
  refine R7.Chain.det ?_ (by rfl) (fun T xs wr hA=>?_) ?_
  rotate_left 1
  ·have e3:=hA.pre 3 (by kernel_rfl);simp only[gsa,gsc,gsz] at e3;clear hA;refine⟨(by rfl),?_⟩;go_simp<;>(try with_reducible rfl)
  refine R7.Chain.det ?_ (by rfl) (fun T xs wr hA=>?_) ?_
  rotate_left 1
  ·have e77:=hA.tm 2 77 (by rfl) (by rfl);have f77:xs 2=_:=hA.fa 2 (by rfl)
   (try simp (disch:=first | rfl | decide) only [R7.mask_in] at f77)
   rw[f77] at e77;clear f77;have hBq:wr.heap[kf]?=_:=(hA.bl _ hlt_f (fun q h=>absurd h (Nat.not_lt_zero _))).trans HBf.out;have q0:=cell_at (v:=.int .i64 4) hBq 0 rfl;have q1:=cell_at (v:=.bool b) hBq 1 rfl;have q2:=cell_at (v:=.slice ao l c) hBq 2 rfl;have q3:=cell_at (v:=.string nm) hBq 3 rfl;have q4:=cell_at (v:=.slice (some a) 2 kc) hBq 4 rfl;clear hBq;clear hA;refine⟨(by rfl),?_⟩;go_simp<;>(try with_reducible rfl)
  refine R7.Chain.det ?_ (by rfl) (fun T xs wr hA=>?_) ?_
  rotate_left 1
  ·have e78:=hA.tm 3 78 (by rfl) (by rfl);have f78:xs 3=_:=hA.fa 3 (by rfl)
   (try simp (disch:=first | rfl | decide) only [R7.mask_in] at f78)
   rw[f78] at e78;clear f78;clear hA;refine⟨(by rfl),?_⟩;go_simp<;>(try with_reducible rfl)
  refine R7.Chain.det ?_ (by rfl) (fun T xs wr hA=>?_) ?_
  rotate_left 1
  ·have e79:=hA.tm 4 79 (by rfl) (by rfl);have f79:xs 4=_:=hA.fa 4 (by rfl)
   (try simp (disch:=first | rfl | decide) only [R7.mask_in] at f79)
   rw[f79] at e79;clear f79;have hbw:=undrew (hA.be x4.heap.size (Nat.le_refl _) (fun q h=>absurd h (Nat.not_lt_zero q)));obtain⟨q0,q1,q2,q3,q4⟩:=HQC.out.below hbw;simp only at q0 q1 q2 q3 q4;clear hA;refine⟨(by rfl),?_⟩;go_simp<;>(try with_reducible rfl)
  refine R7.Chain.call (fun xs v w=>∃ y,v=y/\CI w y (asI (ev (rho env) q)) 600) (fun _ _ _ _ h hb=>by obtain⟨y,h1,h2⟩:=h;exact⟨y,h1,h2.below hb⟩) (fun _ _ _ _ _ _ h _=>by obtain⟨q,hq,_⟩:=h;exact absurd hq (Nat.not_lt_zero _)) (by rfl) (fun T xs wr hA=>?_) ?_
  ·have hsw:=(hA.be 0 (Nat.zero_le _) (fun _ _=>Nat.zero_le _)).size;have e76:=hA.tm 1 76 (by rfl) (by rfl);have f76:xs 1=_:=hA.fa 1 (by rfl)
   (try simp (disch:=first | rfl | decide) only [R7.mask_in] at f76)
   rw[f76] at e76;clear f76;have e80:=hA.tm 5 80 (by rfl) (by rfl);have f80:xs 5=_:=hA.fa 5 (by rfl)
   (try simp (disch:=first | rfl | decide) only [R7.mask_in] at f80)
   rw[f80] at e80;clear f80;have hbw:=undrew (hA.be x4.heap.size (Nat.le_refl _) (fun q h=>absurd h (Nat.not_lt_zero q)));have hfq:=HFQ.out.below hbw;clear hA;refine⟨(by rfl),fun K hK=>?_⟩;go_simp
   refine (IN _ _ env q S _ hfq (HE.out.below hbw) HRQ.out HQ.out HSQ.out).mono ?_;rintro e w' ⟨y,rfl,hy,hb'⟩;exact hK.out _ _ ⟨y,rfl,hy⟩ hb'
  refine R7.Chain.call (fun xs v w=>∃ y,v=y/\CI w y (asI (opV (rho env) 4 z nm [ev (rho env) p,ev (rho env) q])) 600) (fun _ _ _ _ h hb=>by obtain⟨y,h1,h2⟩:=h;exact⟨y,h1,h2.below hb⟩) (fun _ _ _ _ _ _ h _=>by obtain⟨q,hq,_⟩:=h;exact absurd hq (Nat.not_lt_zero _)) (by rfl) (fun T xs wr hA=>?_) ?_
  ·have hsw:=(hA.be 0 (Nat.zero_le _) (fun _ _=>Nat.zero_le _)).size;have e75:=hA.tm 0 75 (by rfl) (by rfl);have f75:xs 0=_:=hA.fa 0 (by rfl)
   (try simp (disch:=first | rfl | decide) only [R7.mask_in] at f75)
   rw[f75] at e75;clear f75;have e81:=hA.tm 6 81 (by rfl) (by rfl);have hbw:=undrew (hA.be x4.heap.size (Nat.le_refl _) (fun q h=>absurd h (Nat.not_lt_zero q)));have hF6:∃ y,(xs 6)=y/\CI wr y (asI (ev (rho env) q)) 600:=hA.fa 6 (by rfl);obtain⟨y6,e6,hy6⟩:=hF6;have hpx:=HPX.out.below hbw;clear hA;refine⟨(by rfl),fun K hK=>?_⟩;go_simp
   refine (wmul_any _ _ X (asI (ev (rho env) q)) 600 600 _ hpx.gi (by first | exact hy6.gi | (rw[e6];exact hy6.gi)) (by decide) (by decide)).mono ?_;rintro e w' ⟨y,rfl,hy,hb'⟩;exact hK.out _ _ ⟨y,rfl,CI.tight (by show CI _ _ (asI (ev (rho env) p)*asI (ev (rho env) q)) _;rw[<-HX0.out];exact hy) HVAL.out⟩ hb'
  refine R7.Chain.done (fun xs x5 hL=>?_);obtain⟨⟨hbe,hbl⟩,hf,-,-⟩:=hL;have f0:xs 0=_:=hf 0 (by decide)
  (try simp (disch:=first | rfl | decide) only [R7.mask_in] at f0)
  have f1:xs 1=_:=hf 1 (by decide)
  (try simp (disch:=first | rfl | decide) only [R7.mask_in] at f1)
  have f2:xs 2=_:=hf 2 (by decide)
  (try simp (disch:=first | rfl | decide) only [R7.mask_in] at f2)
  have f3:xs 3=_:=hf 3 (by decide)
  (try simp (disch:=first | rfl | decide) only [R7.mask_in] at f3)
  have f4:xs 4=_:=hf 4 (by decide)
  (try simp (disch:=first | rfl | decide) only [R7.mask_in] at f4)
  have f5:xs 5=_:=hf 5 (by decide)
  (try simp (disch:=first | rfl | decide) only [R7.mask_in] at f5)
  have F6:∃ y,(xs 6)=y/\CI x5 y (asI (ev (rho env) q)) 600:=hf 6 (by decide);have F7:∃ y,(xs 7)=y/\CI x5 y (asI (opV (rho env) 4 z nm [ev (rho env) p,ev (rho env) q])) 600:=hf 7 (by decide);have hb0:Below 0 x4 x5:=undrew (hbe 0 (Nat.zero_le _) (fun _ _=>Nat.zero_le _));have hgr:∀ j,j<x4.heap.size->(∀ q,q<0->(fun q=>0) q≠j)->x5.heap[j]?=x4.heap[j]?:=hbl;clear hbe hbl hf;have hb:Below x4.heap.size x4 x5:=⟨hb0.os,hb0.tape,hb0.output,hb0.size,fun q hq=>hgr q hq (fun q h=>absurd h (Nat.not_lt_zero _))⟩
  refine R7.rest_list (by decide) (by kernel_rfl) ?_;simp only[R7.fill,t1_,t2_,t3_,t4_,t5_,t6_,t7_,f0,f1,f2,f3,f4,f5];clear hb0 hgr hog hlt_f hlt_a f0 f1 f2 f3 f4 f5;replace HBf:=kBV hb HBf;replace HBr:=kBV hb HBr;replace HBa:=kBV hb HBa;replace HX:=Lib.hid (HX.out.below hb);replace HZ:=Lib.hid (HZ.out.below hb);replace HE:=Lib.hid (HE.out.below hb);replace HW:=Lib.hid (HW.out.trans (hb.mono HW.out.size));replace HFQ:=Lib.hid (HFQ.out.below hb);replace HQC:=Lib.hid (HQC.out.below hb);replace HPX:=Lib.hid (HPX.out.below hb);replace hb:=Lib.hid hb;obtain⟨y,hy1,hy2⟩:=F7;obtain⟨b1,o1,l1,c1,hys⟩:=hy2.shape;rw[hys] at hy1 hy2;have HV:=Lib.hid hy2;obtain⟨r0,r1',fr0,fr1⟩:=cells2V HBr.out;go_wp2_with fail
  obtain⟨r1,r2⟩:=res2V HW.out HBr.out n32_2 HKr.out (.bool b1) (.slice o1 l1 c1)
  (try simp only[Exit.inBlock,Exit.then])
  exact bodyPost_ret (v:=.agg #[.bool b1,.slice o1 l1 c1]) (by simp[results,Tryz.results116,go_sem,r0,r1']) rfl ⟨_,rfl,((show CI _ _ (asI (ev (rho env) (.node 4 z nm [p,q]))) 600 from by rw[HEV.out];exact HV.out)).fr r1,r2⟩
 ·have HX:=Lib.hid hk;have HZ:=Lib.hid hz;have HE:=Lib.hid he;have HSM:=Lib.hid hsm;have HRS:=Lib.hid hrs;have HW:=Lib.hid (Below.refl w.heap.size w);have HKL0:=Lib.hid hkl;clear hkl hkc;obtain⟨p,rfl,hp⟩:=srts_one (ks:=ks) (s:=0) (by simp[fitF,kidsOk] at hfit;exact hfit.1);have HSP:=Lib.hid (hsm.kid p (by simp));have HRP:=Lib.hid (hrs p (by simp));have HP:=Lib.hid hp;have HEV:Hid (asI (ev (rho env) (.node 5 z nm [p]))=asI (opV (rho env) 5 z nm [ev (rho env) p])):=Lib.hid (by rw[ev,evs,evs]);have HVAL:Hid ((asI (opV (rho env) 5 z nm [ev (rho env) p])).natAbs<L32 ^ 600):=Lib.hid (by rw[ev,evs,evs] at hval;exact hval);have HZ1:Hid (1<=z):=Lib.hid (by simp[fitF,kidsOk] at hfit;exact hfit.2);have hkl1:kl=1:=HKL0.out;subst hkl1;clear hz hk he hsm hrs hval hfit hp HKL0;go_enter Tryz.func116,Tryz.ntmps116
  obtain⟨x1,kf,ef,ekf,hbf,hkf,HBf⟩:=newV w #[.int .i64 5,.bool b,.slice ao l c,.string nm,.slice ko 1 kc] 29;replace HX:=Lib.hid (HX.out.below hbf.out);replace HZ:=Lib.hid (HZ.out.below hbf.out);replace HE:=Lib.hid (HE.out.below hbf.out);replace HW:=Lib.hid (HW.out.trans (hbf.out.mono HW.out.size));have HKf0:=hkf;obtain⟨x2,kr,er,ekr,hbr,hkr,HBr⟩:=newV x1 #[.bool false,.slice none 0 0] 26;replace HBf:=kBV hbr.out HBf;replace HX:=Lib.hid (HX.out.below hbr.out);replace HZ:=Lib.hid (HZ.out.below hbr.out);replace HE:=Lib.hid (HE.out.below hbr.out);replace HW:=Lib.hid (HW.out.trans (hbr.out.mono HW.out.size));have HKr:Hid (w.heap.size<=kr):=Lib.hid (Nat.le_trans hbf.out.size hkr.out);have c0:=cell_at (v:=.int .i64 5) HBf.out 0 rfl;have fc0:=froz_at HBf.out 0;have c1:=cell_at (v:=.bool b) HBf.out 1 rfl;have fc1:=froz_at HBf.out 1
  have c2:=cell_at (v:=.slice ao l c) HBf.out 2 rfl;have fc2:=froz_at HBf.out 2;have c3:=cell_at (v:=.string nm) HBf.out 3 rfl;have fc3:=froz_at HBf.out 3;have c4:=cell_at (v:=.slice ko 1 kc) HBf.out 4 rfl;have fc4:=froz_at HBf.out 4;obtain⟨a,bp,op,lp,cp,kop,klp,kcp,hkop,⟨p0,p1,p2,p3,p4⟩,hfp⟩:=HX.out.first;have HFP:=Lib.hid hfp;clear hfp;obtain⟨opp,hopp⟩:∃ x,x=p.op:=⟨_,rfl⟩
  obtain⟨nmp,hnmp⟩:∃ x,x=p.name:=⟨_,rfl⟩
  rw[<-hopp] at p0 HFP;rw[<-hnmp] at p3 HFP;clear hopp hnmp;subst hkop;go_wp2_with fail
  refine (IN _ _ env p S x2 HFP.out HE.out HRP.out HP.out HSP.out).mono ?_;rintro e x3 ⟨x,rfl,hx,hb⟩;clear c0 fc0 c1 fc1 c2 fc2 c3 fc3 c4 fc4 p0 p1 p2 p3 p4;replace HBf:=kBV hb HBf;replace HBr:=kBV hb HBr;replace HX:=Lib.hid (HX.out.below hb);replace HZ:=Lib.hid (HZ.out.below hb);replace HE:=Lib.hid (HE.out.below hb);replace HW:=Lib.hid (HW.out.trans (hb.mono HW.out.size));replace HFP:=Lib.hid (HFP.out.below hb);obtain⟨X,hX⟩:∃ X,X=asI (ev (rho env) p):=⟨_,rfl⟩
  rw[<-hX] at hx;have HX0:=Lib.hid hX;clear hX;obtain⟨bx,ox,lx,cx,rfl⟩:=hx.shape;have HPX:=Lib.hid hx;clear hx HFP;obtain⟨x4,ka,ea,eka,hba,hka,HBa⟩:=newV x3 #[.bool bx,.slice ox lx cx] 26;replace HBf:=kBV hba.out HBf;replace HBr:=kBV hba.out HBr;replace HX:=Lib.hid (HX.out.below hba.out);replace HZ:=Lib.hid (HZ.out.below hba.out);replace HE:=Lib.hid (HE.out.below hba.out);replace HW:=Lib.hid (HW.out.trans (hba.out.mono HW.out.size));replace HPX:=Lib.hid (HPX.out.below hba.out);have c0:=cell_at (v:=.int .i64 5) HBf.out 0 rfl;have fc0:=froz_at HBf.out 0;have c1:=cell_at (v:=.bool b) HBf.out 1 rfl;have fc1:=froz_at HBf.out 1;have c2:=cell_at (v:=.slice ao l c) HBf.out 2 rfl;have fc2:=froz_at HBf.out 2;have c3:=cell_at (v:=.string nm) HBf.out 3 rfl;have fc3:=froz_at HBf.out 3
  have c4:=cell_at (v:=.slice (some a) 1 kc) HBf.out 4 rfl;have fc4:=froz_at HBf.out 4;have d0:=cell_at (v:=.bool bx) HBa.out 0 rfl;have fd0:=froz_at HBa.out 0;have d1:=cell_at (v:=.slice ox lx cx) HBa.out 1 rfl;have fd1:=froz_at HBa.out 1;go_wp2_with fail
  refine (wdiv_any _ _ X z 600 600 x4 HPX.out.gi HZ.out.gi (by decide) (by decide) (by have:=HZ1.out;omega)).mono ?_;rintro e x5 ⟨y,r,rfl,hy,hr,hb⟩;clear c0 fc0 c1 fc1 c2 fc2 c3 fc3 c4 fc4 d0 fd0 d1 fd1;replace HBf:=kBV hb HBf;replace HBr:=kBV hb HBr;replace HBa:=kBV hb HBa;replace HX:=Lib.hid (HX.out.below hb);replace HZ:=Lib.hid (HZ.out.below hb);replace HE:=Lib.hid (HE.out.below hb);replace HW:=Lib.hid (HW.out.trans (hb.mono HW.out.size));replace HPX:=Lib.hid (HPX.out.below hb);obtain⟨b1,o1,l1,c1,rfl⟩:=hy.shape;obtain⟨b2,o2,l2,c2,rfl⟩:=hr.shape;have HV:=Lib.hid (CI.tight (z:=asI (opV (rho env) 5 z nm [ev (rho env) p])) (by show CI _ _ (Int.fdiv (asI (ev (rho env) p)) z) _;rw[<-HX0.out];exact hy) HVAL.out);clear hy hr;have hru:=lt_of_block HBr.out;obtain⟨x6,ku,eu,eku,hbu,hku,HBu⟩:=newV x5 #[.bool false,.slice none 0 0] 26
  replace HBf:=kBV hbu.out HBf;replace HBr:=kBV hbu.out HBr;replace HBa:=kBV hbu.out HBa;replace HX:=Lib.hid (HX.out.below hbu.out);replace HZ:=Lib.hid (HZ.out.below hbu.out);replace HE:=Lib.hid (HE.out.below hbu.out);replace HW:=Lib.hid (HW.out.trans (hbu.out.mono HW.out.size));replace HPX:=Lib.hid (HPX.out.below hbu.out);replace HV:=Lib.hid (HV.out.below hbu.out);rw[eku] at hru;have huv:=lt_of_block HBu.out;have HKu:Hid (w.heap.size<=ku):=Lib.hid (Nat.le_trans HKr.out (Nat.le_of_lt hru));obtain⟨x7,kt,et,ekt,hbt,hkt,HBt⟩:=newV x6 #[.bool false,.slice none 0 0] 26;replace HBf:=kBV hbt.out HBf;replace HBr:=kBV hbt.out HBr;replace HBa:=kBV hbt.out HBa;replace HBu:=kBV hbt.out HBu;replace HX:=Lib.hid (HX.out.below hbt.out);replace HZ:=Lib.hid (HZ.out.below hbt.out);replace HE:=Lib.hid (HE.out.below hbt.out)
  replace HW:=Lib.hid (HW.out.trans (hbt.out.mono HW.out.size));replace HPX:=Lib.hid (HPX.out.below hbt.out);replace HV:=Lib.hid (HV.out.below hbt.out);rw[ekt] at huv;have HKt:Hid (w.heap.size<=kt):=Lib.hid (Nat.le_trans HKu.out (Nat.le_of_lt huv));have hrv:=Nat.lt_trans hru huv;have n1:ku≠kt:=by omega
  have n2:kt≠ku:=by omega
  have n3:kr≠ku:=by omega
  have n4:kr≠kt:=by omega
  have n5:ku≠kr:=by omega
  have n6:kt≠kr:=by omega
  have HRU:=Lib.hid hru;have HRV:=Lib.hid hrv;have HUV:=Lib.hid huv;clear hru hrv huv;obtain⟨u0,u1,fu0,fu1⟩:=cells2V HBu.out;obtain⟨v0,v1,fv0,fv1⟩:=cells2V HBt.out;obtain⟨r0,r1',fr0,fr1⟩:=cells2V HBr.out;go_wp2_with fail
  obtain⟨s1,s2⟩:=res2V HW.out HBu.out n32_2 HKu.out (.bool b1) (.slice o1 l1 c1);obtain⟨W1,hW1⟩:∃ q,q=(x7.setCell ⟨ku,0,none⟩ (.bool b1)).setCell ⟨ku,1,none⟩ (.slice o1 l1 c1):=⟨_,rfl⟩
  have hg1:x7.grownBy W1 (some ku):=by rw[hW1];exact grown2V _ _
  rw[<-hW1] at s1 s2 ⊢;have HBt1:=(hg1.block kt (lt_of_block HBt.out) (fun e=>by injection e with e;exact n2 e)).trans HBt.out;have HBr1:=(hg1.block kr (lt_of_block HBr.out) (fun e=>by injection e with e;exact n3 e)).trans HBr.out;obtain⟨s3,s4⟩:=res2V s2 HBt1 n32_2 HKt.out (.bool b2) (.slice o2 l2 c2);obtain⟨W2,hW2⟩:∃ q,q=(W1.setCell ⟨kt,0,none⟩ (.bool b2)).setCell ⟨kt,1,none⟩ (.slice o2 l2 c2):=⟨_,rfl⟩
  have hg2:W1.grownBy W2 (some kt):=by rw[hW2];exact grown2V _ _
  rw[<-hW2] at s3 s4 ⊢;have HBr2:=(hg2.block kr (lt_of_block HBr1) (fun e=>by injection e with e;exact n4 e)).trans HBr1;obtain⟨q0,q1,-,-⟩:=cells2V HBr2;obtain⟨r1,r2⟩:=res2V s4 HBr2 n32_2 HKr.out (.bool b1) (.slice o1 l1 c1)
  (try simp only[Exit.inBlock,Exit.then])
  exact bodyPost_ret (v:=.agg #[.bool b1,.slice o1 l1 c1]) (by simp[results,Tryz.results116,go_sem,q0,q1]) rfl ⟨_,rfl,(((show CI _ _ (asI (ev (rho env) (.node 5 z nm [p]))) 600 from by rw[HEV.out];exact HV.out).fr s1).fr s3).fr r1,r2⟩
 ·have HX:=Lib.hid hk;have HZ:=Lib.hid hz;have HE:=Lib.hid he;have HSM:=Lib.hid hsm;have HRS:=Lib.hid hrs;have HW:=Lib.hid (Below.refl w.heap.size w);have HKL0:=Lib.hid hkl;clear hkl hkc;obtain⟨p,rfl,hp⟩:=srts_one (ks:=ks) (s:=2) (by simpa [fitF,kidsOk] using hfit);have HSP:=Lib.hid (hsm.kid p (by simp));have HRP:=Lib.hid (hrs p (by simp));have HP:=Lib.hid hp;have hx2:=ev_list (r:=rho env) hp;have HEV:Hid (asI (ev (rho env) (.node 6 z nm [p]))=asI (opV (rho env) 6 z nm [ev (rho env) p])):=Lib.hid (by rw[ev,evs,evs]);have HVAL:=Lib.hid hval;have HX2:=Lib.hid hx2;have HKL:Hid ((asL (ev (rho env) p)).length<=1000/\∀ z ∈ asL (ev (rho env) p),z.natAbs<L32 ^ 600):=Lib.hid (by have:=(hsm.kid p (by simp)).val;rw[hx2] at this;exact this);have hkl1:kl=1:=HKL0.out;subst hkl1;clear hz hk he hsm hrs hval hfit hp hx2 HKL0
  go_enter Tryz.func116,Tryz.ntmps116
  obtain⟨x1,kf,ef,ekf,hbf,hkf,HBf⟩:=newV w #[.int .i64 6,.bool b,.slice ao l c,.string nm,.slice ko 1 kc] 29;replace HX:=Lib.hid (HX.out.below hbf.out);replace HZ:=Lib.hid (HZ.out.below hbf.out);replace HE:=Lib.hid (HE.out.below hbf.out);replace HW:=Lib.hid (HW.out.trans (hbf.out.mono HW.out.size));have HKf0:=hkf;obtain⟨x2,kr,er,ekr,hbr,hkr,HBr⟩:=newV x1 #[.bool false,.slice none 0 0] 26;replace HBf:=kBV hbr.out HBf;replace HX:=Lib.hid (HX.out.below hbr.out);replace HZ:=Lib.hid (HZ.out.below hbr.out);replace HE:=Lib.hid (HE.out.below hbr.out);replace HW:=Lib.hid (HW.out.trans (hbr.out.mono HW.out.size));have HKr:Hid (w.heap.size<=kr):=Lib.hid (Nat.le_trans hbf.out.size hkr.out);have c0:=cell_at (v:=.int .i64 6) HBf.out 0 rfl;have fc0:=froz_at HBf.out 0;have c1:=cell_at (v:=.bool b) HBf.out 1 rfl;have fc1:=froz_at HBf.out 1
  have c2:=cell_at (v:=.slice ao l c) HBf.out 2 rfl;have fc2:=froz_at HBf.out 2;have c3:=cell_at (v:=.string nm) HBf.out 3 rfl;have fc3:=froz_at HBf.out 3;have c4:=cell_at (v:=.slice ko 1 kc) HBf.out 4 rfl;have fc4:=froz_at HBf.out 4;obtain⟨a,bp,op,lp,cp,kop,klp,kcp,hkop,⟨p0,p1,p2,p3,p4⟩,hfp⟩:=HX.out.first;have HFP:=Lib.hid hfp;clear hfp;obtain⟨opp,hopp⟩:∃ x,x=p.op:=⟨_,rfl⟩
  obtain⟨nmp,hnmp⟩:∃ x,x=p.name:=⟨_,rfl⟩
  rw[<-hopp] at p0 HFP;rw[<-hnmp] at p3 HFP;clear hopp hnmp;subst hkop;go_wp2_with fail
  refine (IL _ _ env p S x2 HFP.out HE.out HRP.out HP.out HSP.out).mono ?_;rintro e x3 ⟨x,rfl,hx,hb⟩;clear c0 fc0 c1 fc1 c2 fc2 c3 fc3 c4 fc4 p0 p1 p2 p3 p4;replace HBf:=kBV hb HBf;replace HBr:=kBV hb HBr;replace HX:=Lib.hid (HX.out.below hb);replace HZ:=Lib.hid (HZ.out.below hb);replace HE:=Lib.hid (HE.out.below hb);replace HW:=Lib.hid (HW.out.trans (hb.mono HW.out.size));replace HFP:=Lib.hid (HFP.out.below hb);obtain⟨L,hL⟩:∃ L,L=asL (ev (rho env) p):=⟨_,rfl⟩
  rw[<-hL] at hx;have HL:=Lib.hid hL;have HKL2:=HKL.out;rw[<-hL] at HKL2;clear HFP hL;obtain⟨xo,xc,rfl,⟨hx1,hx2⟩,hxc⟩:=hx.form;have hxm:xc<=9223372036854775807:=hx2;have HLX:=Lib.hid hx;clear hx;clear hxc;go_wp2_with fail
  refine (wof_any (L.length:Nat) x3 (by omega) (by have:=HKL2.1;omega)).mono ?_;rintro e x4 ⟨x,rfl,hx,hb⟩;replace HBf:=kBV hb HBf;replace HBr:=kBV hb HBr;replace HX:=Lib.hid (HX.out.below hb);replace HZ:=Lib.hid (HZ.out.below hb);replace HE:=Lib.hid (HE.out.below hb);replace HW:=Lib.hid (HW.out.trans (hb.mono HW.out.size));replace HLX:=Lib.hid (HLX.out.below hb);obtain⟨b1,o1,l1,c1,rfl⟩:=hx.shape;have HV:=Lib.hid (hx.mono (k':=600) (by decide));clear hx;obtain⟨r0,r1',fr0,fr1⟩:=cells2V HBr.out;go_wp2_with fail
  obtain⟨r1,r2⟩:=res2V HW.out HBr.out n32_2 HKr.out (.bool b1) (.slice o1 l1 c1)
  (try simp only[Exit.inBlock,Exit.then])
  exact bodyPost_ret (v:=.agg #[.bool b1,.slice o1 l1 c1]) (by simp[results,Tryz.results116,go_sem,r0,r1']) rfl ⟨_,rfl,((show CI _ _ (asI (ev (rho env) (.node 6 z nm [p]))) 600 from by rw[HEV.out];show CI _ _ ((asL (ev (rho env) p)).length:Int) 600;rw[<-HL.out];exact HV.out)).fr r1,r2⟩
 have HX:=Lib.hid hk;have HZ:=Lib.hid hz;have HE:=Lib.hid he;have HSM:=Lib.hid hsm;have HRS:=Lib.hid hrs;have HW:=Lib.hid (Below.refl w.heap.size w);have HKL0:=Lib.hid hkl;clear hkl hkc;obtain⟨p,rfl,hp⟩:=srts_one (ks:=ks) (s:=2) (by simpa [fitF,kidsOk] using hfit);have HSP:=Lib.hid (hsm.kid p (by simp));have HRP:=Lib.hid (hrs p (by simp));have HP:=Lib.hid hp;have hx2:=ev_list (r:=rho env) hp;have HEV:Hid (asI (ev (rho env) (.node 7 z nm [p]))=asI (opV (rho env) 7 z nm [ev (rho env) p])):=Lib.hid (by rw[ev,evs,evs]);have HVAL:=Lib.hid hval;have HX2:=Lib.hid hx2;have HKL:Hid ((asL (ev (rho env) p)).length<=1000/\∀ z ∈ asL (ev (rho env) p),z.natAbs<L32 ^ 600):=Lib.hid (by have:=(hsm.kid p (by simp)).val;rw[hx2] at this;exact this);have hkl1:kl=1:=HKL0.out;subst hkl1;clear hz hk he hsm hrs hval hfit hp hx2 HKL0
 go_enter Tryz.func116,Tryz.ntmps116
 obtain⟨x1,kf,ef,ekf,hbf,hkf,HBf⟩:=newV w #[.int .i64 7,.bool b,.slice ao l c,.string nm,.slice ko 1 kc] 29;replace HX:=Lib.hid (HX.out.below hbf.out);replace HZ:=Lib.hid (HZ.out.below hbf.out);replace HE:=Lib.hid (HE.out.below hbf.out);replace HW:=Lib.hid (HW.out.trans (hbf.out.mono HW.out.size));have HKf0:=hkf;obtain⟨x2,kr,er,ekr,hbr,hkr,HBr⟩:=newV x1 #[.bool false,.slice none 0 0] 26;replace HBf:=kBV hbr.out HBf;replace HX:=Lib.hid (HX.out.below hbr.out);replace HZ:=Lib.hid (HZ.out.below hbr.out);replace HE:=Lib.hid (HE.out.below hbr.out);replace HW:=Lib.hid (HW.out.trans (hbr.out.mono HW.out.size));have HKr:Hid (w.heap.size<=kr):=Lib.hid (Nat.le_trans hbf.out.size hkr.out);have c0:=cell_at (v:=.int .i64 7) HBf.out 0 rfl;have fc0:=froz_at HBf.out 0;have c1:=cell_at (v:=.bool b) HBf.out 1 rfl;have fc1:=froz_at HBf.out 1
 have c2:=cell_at (v:=.slice ao l c) HBf.out 2 rfl;have fc2:=froz_at HBf.out 2;have c3:=cell_at (v:=.string nm) HBf.out 3 rfl;have fc3:=froz_at HBf.out 3;have c4:=cell_at (v:=.slice ko 1 kc) HBf.out 4 rfl;have fc4:=froz_at HBf.out 4;obtain⟨a,bp,op,lp,cp,kop,klp,kcp,hkop,⟨p0,p1,p2,p3,p4⟩,hfp⟩:=HX.out.first;have HFP:=Lib.hid hfp;clear hfp;obtain⟨opp,hopp⟩:∃ x,x=p.op:=⟨_,rfl⟩
 obtain⟨nmp,hnmp⟩:∃ x,x=p.name:=⟨_,rfl⟩
 rw[<-hopp] at p0 HFP;rw[<-hnmp] at p3 HFP;clear hopp hnmp;subst hkop;go_wp2_with fail
 refine (IL _ _ env p S x2 HFP.out HE.out HRP.out HP.out HSP.out).mono ?_;rintro e x3 ⟨x,rfl,hx,hb⟩;clear c0 fc0 c1 fc1 c2 fc2 c3 fc3 c4 fc4 p0 p1 p2 p3 p4;replace HBf:=kBV hb HBf;replace HBr:=kBV hb HBr;replace HX:=Lib.hid (HX.out.below hb);replace HZ:=Lib.hid (HZ.out.below hb);replace HE:=Lib.hid (HE.out.below hb);replace HW:=Lib.hid (HW.out.trans (hb.mono HW.out.size));replace HFP:=Lib.hid (HFP.out.below hb);obtain⟨L,hL⟩:∃ L,L=asL (ev (rho env) p):=⟨_,rfl⟩
 rw[<-hL] at hx;have HL:=Lib.hid hL;have HKL2:=HKL.out;rw[<-hL] at HKL2;clear HFP hL;obtain⟨xo,xc,rfl,⟨hx1,hx2⟩,hxc⟩:=hx.form;have hxm:xc<=9223372036854775807:=hx2;have HLX:=Lib.hid hx;clear hx
 cases L with
 | nil =>
  clear hxc;obtain⟨r0,r1',fr0,fr1⟩:=cells2V HBr.out;go_wp2_with fail
  obtain⟨r1,r2⟩:=res2V HW.out HBr.out n32_2 HKr.out (.bool false) (.slice none 0 0)
  (try simp only[Exit.inBlock,Exit.then])
  exact bodyPost_ret (v:=.agg #[.bool false,.slice none 0 0]) (by simp[results,Tryz.results116,go_sem,r0,r1']) rfl ⟨_,rfl,((show CI _ _ (asI (ev (rho env) (.node 7 z nm [p]))) 600 from by rw[HEV.out];show CI _ _ ((asL (ev (rho env) p)).headD 0) 600;rw[<-HL.out];exact nr0 _)).fr r1,r2⟩
 | cons y L =>
  obtain⟨q,yo,yl,yc,rfl,d0,d1,hy⟩:=hxc 0 (by simp);simp only[List.getElem_cons_zero,Nat.zero_mul,Addr.add,if_true] at d0 d1 hy;have HV:=Lib.hid hy;clear hy hxc;have hgt:decide ((0:Int)<(((y::L).length:Nat):Int))=true:=by simp
  obtain⟨r0,r1',fr0,fr1⟩:=cells2V HBr.out;go_wp2_with fail
  obtain⟨r1,r2⟩:=res2V HW.out HBr.out n32_2 HKr.out (.bool (decide (y<0))) (.slice yo yl yc)
  (try simp only[Exit.inBlock,Exit.then])
  exact bodyPost_ret (v:=.agg #[.bool (decide (y<0)),.slice yo yl yc]) (by simp[results,Tryz.results116,go_sem,r0,r1']) rfl ⟨_,rfl,((show CI _ _ (asI (ev (rho env) (.node 7 z nm [p]))) 600 from by rw[HEV.out];show CI _ _ ((asL (ev (rho env) p)).headD 0) 600;rw[<-HL.out];exact HV.out)).fr r1,r2⟩
attribute [local go_sem] fieldV0 fieldV1 fieldV2 fieldV3
theorem n32_F {o:Int} {b:Bool} {ao:Option Addr} {l c:Nat} {nm:ByteArray} {ko:Option Addr} {kl kc:Nat}:N32 (#[Value.int .i64 o,.bool b,.slice ao l c,.string nm,.slice ko kl kc]:Array Value).toList:=by
 intro u hu z;simp only[List.mem_cons,List.not_mem_nil,or_false] at hu;rcases hu with rfl | rfl | rfl | rfl | rfl<;>(intro h;cases h)
theorem El.Row.other {α:Type} {E:El α} {w w':World} {B g:Nat} {v:Value} {el:List α} (h:E.Row w B v el) (hg:w.grownBy w' (some g)) (hgB:g<B) {e:TypeId} (hf:Fr e w w') (hok:E.ok e):E.Row w' B v el:=by
 have hne:∀ j,v.ownBlock=some j->j≠g:=fun j hj e=>by have:=(h.ge hj).1;omega
 refine⟨?_,fun j hj=>?_,fun q hq=>E.fr hok hf (h.rd q hq)⟩
 ·rcases hr:v.ownBlock with _ | j
  ·exact World.ownsRow.kept h.own hg (.inl hr)
  exact World.ownsRow.kept h.own hg (.inr (by rw[hr];intro e;injection e with e;exact hne j hr e))
 obtain⟨c,hc,h32⟩:=h.n32 j hj;exact⟨c,(hg.block j (lt_of_block hc) (fun e=>by injection e with e;exact hne j hj e)).trans hc,h32⟩
theorem sm_list {r:ByteArray->V} {t:F} (hs:srt t.op=2) (h:Sm r t):(asL (ev r t)).length<=1000/\∀ z ∈ asL (ev r t),z.natAbs<L32 ^ 600:=by
 have:=h.val;rw[ev_list hs] at this;exact this
theorem NL.tail {w:World} {ko:Option Addr} {n kc:Nat} {zs:List Int} (h:NL w (.slice ko n kc) zs):NL w (sliced ko (min 1 n) n kc 2) zs.tail:=by
 obtain⟨ns,h1,rfl⟩:=h;have hn:n=ns.length:=by obtain⟨_,_,e,_⟩:=h1;injection e
 subst hn;have:=h1.sub (i:=min 1 ns.length) (j:=ns.length) (Nat.min_le_right _ _) (Nat.le_refl _);refine⟨_,this,?_⟩
 cases ns with
 | nil=>rfl
 | cons a l=>simp[Nat.min_eq_left]
theorem lst_step (d:Nat) (IN:NumC d) (IL:LstC d):LstC (d+1):=by
 intro ve v env t S w h he hr hs hsm;obtain⟨eo,en,ec,rfl⟩:=he.shape
 have ho:t.op=8\/t.op=11\/t.op=9\/t.op=10:=by
  unfold srt at hs
  split at hs
  ·omega
  split at hs
  ·omega
  omega
 by_cases hloop:t.op=9\/t.op=10
 ·have h0:=h;obtain⟨b,ao,l,c,ko,kl,kc,rfl,⟨-,-,-,-,hkm⟩,-,-⟩:=h.open;obtain⟨o,hoo⟩:∃ o,o=t.op:=⟨_,rfl⟩
  obtain⟨nm,hnm⟩:∃ o,o=t.name:=⟨_,rfl⟩
  rw[<-hoo] at hloop h0 ho ⊢;rw[<-hnm] at h0 ⊢;have n8:(o==8)=false:=beq_eq_false_iff_ne.2 (by omega);have n11:(o==11)=false:=beq_eq_false_iff_ne.2 (by omega);have HE:=Lib.hid he;have HSM:=Lib.hid hsm;have HT:=Lib.hid h0;have HR:=Lib.hid hr;have HS:=Lib.hid hs;have HOO:=Lib.hid hoo;have HNM:=Lib.hid hnm;have HE0:=Lib.hid he;have HLP:=Lib.hid hloop;have HL0:=Lib.hid (sm_list hs hsm);have HW:=Lib.hid (Below.refl w.heap.size w);clear h h0 he hr hs hsm ho hloop hoo hnm hkm;go_enter Tryz.func115,Tryz.ntmps115
  obtain⟨x1,kf,ef,ekf,hbf,hkf,HBf⟩:=newV w #[.int .i64 o,.bool b,.slice ao l c,.string nm,.slice ko kl kc] 29;replace HE:=Lib.hid (HE.out.below hbf.out);replace HW:=Lib.hid (HW.out.trans (hbf.out.mono HW.out.size));have HKf:Hid (w.heap.size<=kf):=hkf;have HB1:Hid (kf<x1.heap.size):=Lib.hid (lt_of_block HBf.out);have c0:=cell_at (v:=.int .i64 o) HBf.out 0 rfl;have fc0:=froz_at HBf.out 0;have c1:=cell_at (v:=.bool b) HBf.out 1 rfl;have fc1:=froz_at HBf.out 1;have c2:=cell_at (v:=.slice ao l c) HBf.out 2 rfl;have fc2:=froz_at HBf.out 2;have c3:=cell_at (v:=.string nm) HBf.out 3 rfl;have fc3:=froz_at HBf.out 3;have c4:=cell_at (v:=.slice ko kl kc) HBf.out 4 rfl;have fc4:=froz_at HBf.out 4;go_wp2_with fail
  clear c0 fc0 c1 fc1 c2 fc2 c3 fc3 c4 fc4;clear n8 n11
  go_loopw [6] (fun v wr=>∃ (els:List NU) (t':F) (dd:Nat) (b:Bool) (ao:Option Addr) (l c:Nat) (ko:Option Addr) (kl kc:Nat),Hid (nE.Row wr x1.heap.size v els)/\Hid (asL (ev (rho env) t)=els.map (·.z)++asL (ev (rho env) t'))/\Hid (dd<=d+1/\(t'.op≠9->t'.op≠10->dd<=d))/\Hid (rt t'=true/\srt t'.op=2/\Sm (rho env) t')/\Hid (FC w S dd (.agg #[.int .i64 t'.op,.bool b,.slice ao l c,.string t'.name,.slice ko kl kc]) t')/\Hid (wr.heap[kf]?=some (.cells #[.int .i64 t'.op,.bool b,.slice ao l c,.string t'.name,.slice ko kl kc] 29 (0,0)))/\Hid (Below w.heap.size w wr)/\Hid (x1.heap.size<=wr.heap.size)) (fun v _=>match v with | .slice _ n _=>2000 - n | _=>0)
  case atStart=>exact⟨[],t,d+1,b,ao,l,c,ko,kl,kc,Lib.hid (El.Row.nil _ _),Lib.hid rfl,Lib.hid ⟨Nat.le_refl _,fun h1 h2=>by have:=HLP.out;rw[HOO.out] at this;omega⟩,Lib.hid ⟨HR.out,HS.out,HSM.out⟩,Lib.hid (by have:=HT.out;rw[HOO.out,HNM.out] at this;exact this),Lib.hid (by have:=HBf.out;rw[HOO.out,HNM.out] at this;exact this),HW,Lib.hid (Nat.le_refl _)⟩
  case round =>
   obtain⟨wl,hwl⟩:∃ q,q=wr:=⟨_,rfl⟩
   subst hwl;clear HW HBf HE;obtain⟨els,t',dd,b',ao',l',c',ko',kl',kc',HROW,HEQ,HDD,HTT,HFT,HBf,HW,HSZ⟩:=hrel;have HE:Hid (EL wl (.slice eo en ec) env):=Lib.hid (HE0.out.below HW.out);obtain⟨vo,vc,rfl,hvc⟩:=HROW.out.form;have hlen:els.length+(asL (ev (rho env) t')).length<=1000:=by have h1:=HL0.out.1;rw[HEQ.out,lsa,List.length_map] at h1;exact h1
   have HLEN:=Lib.hid hlen;clear hlen hvc
   by_cases h10:t'.op=10
   ·have HFO:=HFT.out.open;obtain⟨_,_,_,_,_,_,_,e1,⟨-,-,-,-,hkm⟩,hd1,hkids⟩:=HFO;injection e1 with e1;have e2:=congrArg (fun t:Array Value=>t[4]?) e1;injection e2 with e2;injection e2 with e2 e3 e4;subst e2 e3 e4;obtain⟨o',z',nm',ks'⟩:=t';simp only[F.op,F.name,F.kids] at h10 hkids HFT HBf HTT HEQ HDD HLEN;subst h10;obtain⟨hr1,hs1,hm1⟩:=HTT.out;obtain⟨hfit,hrs⟩:=rt_node hr1;obtain⟨p,q,rfl,hp,hq⟩:=srts_two (ks:=ks') (s:=0) (r:=2) (by simpa [fitF,kidsOk] using hfit);have HSP:=Lib.hid (hm1.kid p (by simp));have HRP:=Lib.hid (hrs p (by simp));have HP:=Lib.hid hp;have HSQ:=Lib.hid (hm1.kid q (by simp));have HRQ:=Lib.hid (hrs q (by simp));have HQ:=Lib.hid hq;have HEV:Hid (asL (ev (rho env) (.node 10 z' nm' [p,q]))=asI (ev (rho env) p)::asL (ev (rho env) q)):=Lib.hid (by rw[ev,evs,evs,evs];rfl)
    have HPZ:Hid ((asI (ev (rho env) p)).natAbs<L32 ^ 600):=Lib.hid (by have:=(hm1.kid p (by simp)).val;rw[ev_int hp] at this;exact this);have hdd:dd - 1<=d:=by have:=HDD.out.1;omega
    have hkl:kl'=2:=by obtain⟨_,_,e,_⟩:=hkids.form;injection e
    subst hkl;have hkm':kc'<=9223372036854775807:=hkm;have HKW:=Lib.hid hkids;have HKL:=Lib.hid (hkids.below HW.out);have HDL:=Lib.hid hdd;clear hr1 hs1 hm1 hfit hrs hp hq hkids hdd hd1 hkm e1 HTT;obtain⟨a,bp,op,lp,cp,kop,klp,kcp,hko,⟨p0,p1,p2,p3,p4⟩,hfp⟩:=HKL.out.first;subst hko;obtain⟨opp,hopp⟩:∃ x,x=p.op:=⟨_,rfl⟩
    obtain⟨nmp,hnmp⟩:∃ x,x=p.name:=⟨_,rfl⟩
    rw[<-hopp] at p0 hfp;rw[<-hnmp] at p3 hfp;have HFP:=Lib.hid (hfp.up HDL.out);clear hfp hopp hnmp;obtain⟨a2,bq,oq,lq,cq,koq,klq,kcq,hko2,⟨q0,q1,q2,q3,q4⟩,hfq⟩:=HKW.out.second;injection hko2 with hko2;subst hko2;obtain⟨opq,hopq⟩:∃ x,x=q.op:=⟨_,rfl⟩
    obtain⟨nmq,hnmq⟩:∃ x,x=q.name:=⟨_,rfl⟩
    rw[<-hopq] at q0 hfq;rw[<-hnmq] at q3 hfq;have HFQ:=Lib.hid hfq;have HOQ:=Lib.hid hopq;have HNQ:=Lib.hid hnmq;have HQC:Hid (At5 w ⟨a.block,a.off+5,none⟩ opq bq oq lq cq nmq koq klq kcq):=Lib.hid ⟨q0,q1,q2,q3,q4⟩;clear hfq hopq hnmq q0 q1 q2 q3 q4 HKW;have c0:=cell_at (v:=.int .i64 10) HBf.out 0 rfl;have fc0:=froz_at HBf.out 0;have c1:=cell_at (v:=.bool b') HBf.out 1 rfl;have fc1:=froz_at HBf.out 1;have c2:=cell_at (v:=.slice ao' l' c') HBf.out 2 rfl;have fc2:=froz_at HBf.out 2;have c3:=cell_at (v:=.string nm') HBf.out 3 rfl;have fc3:=froz_at HBf.out 3;have c4:=cell_at (v:=.slice (some a) 2 kc') HBf.out 4 rfl;have fc4:=froz_at HBf.out 4;go_wp2_with fail
    refine (IN _ _ env p S wl HFP.out HE.out HRP.out HP.out HSP.out).mono ?_;rintro e x2 ⟨x,rfl,hx,hb⟩;clear c0 fc0 c1 fc1 c2 fc2 c3 fc3 c4 fc4 p0 p1 p2 p3 p4;replace HBf:=kBV hb HBf;replace HE:=Lib.hid (HE.out.below hb);replace HW:=Lib.hid (HW.out.trans (hb.mono HW.out.size));replace HROW:=Lib.hid (HROW.out.below hb);replace HKL:=Lib.hid (HKL.out.below hb);obtain⟨nu,bn,on,ln,cn,rfl,hne,hnz,hnr⟩:=hx.unit (by decide);have HNE:=Lib.hid hne;have HNZ:=Lib.hid hnz;have HNR:=Lib.hid hnr;clear hx hne hnz hnr HFP;obtain⟨x3,ky,ey,eky,hby,hky,HBy⟩:=newV x2 #[.bool bn,.slice on ln cn] 26;replace HBf:=kBV hby.out HBf;replace HE:=Lib.hid (HE.out.below hby.out);replace HW:=Lib.hid (HW.out.trans (hby.out.mono HW.out.size));replace HROW:=Lib.hid (HROW.out.below hby.out);replace HKL:=Lib.hid (HKL.out.below hby.out)
    replace HNR:=Lib.hid (nE.below HNR.out hby.out);have HAT:=Lib.hid (one_atN HBy.out HNE.out HNR.out);have c0:=cell_at (v:=.int .i64 10) HBf.out 0 rfl;have fc0:=froz_at HBf.out 0;have c1:=cell_at (v:=.bool b') HBf.out 1 rfl;have fc1:=froz_at HBf.out 1;have c2:=cell_at (v:=.slice ao' l' c') HBf.out 2 rfl;have fc2:=froz_at HBf.out 2;have c3:=cell_at (v:=.string nm') HBf.out 3 rfl;have fc3:=froz_at HBf.out 3;have c4:=cell_at (v:=.slice (some a) 2 kc') HBf.out 4 rfl;have fc4:=froz_at HBf.out 4;have HSZ2:Hid (x1.heap.size<=x3.heap.size):=Lib.hid (Nat.le_trans HSZ.out (Nat.le_trans hb.size hby.out.size))
    go_wp2_with (at_builtin;refine El.Row.append (E:=nE) HROW.out rfl (.tmp 36) (.tmp 43) rfl rfl rfl HAT.out (by have:=HLEN.out;simp;omega) HSZ2.out ?_;intro v9 w9 r1 r2 r3 r4;have HBf9:=Lib.hid ((r3.block kf HB1.out).trans HBf.out);have HW9:=Lib.hid (HW.out.trans (r3.mono (Nat.le_trans hbf.out.size (Nat.le_refl _))));have HR9:=Lib.hid r1;have HS9:=Lib.hid (Nat.le_trans HSZ2.out r3.size);clear r1 r2 r3 r4 c0 c1 c2 c3 c4 fc0 fc1 fc2 fc3 fc4;have c4:=cell_at (v:=.slice (some a) 2 kc') HBf9.out 4 rfl;have c0:=cell_at (v:=.int .i64 10) HBf9.out 0 rfl;have c1:=cell_at (v:=.bool b') HBf9.out 1 rfl;have c2:=cell_at (v:=.slice ao' l' c') HBf9.out 2 rfl;have c3:=cell_at (v:=.string nm') HBf9.out 3 rfl;have fc0:=froz_at HBf9.out 0;have fc1:=froz_at HBf9.out 1;have fc2:=froz_at HBf9.out 2;have fc3:=froz_at HBf9.out 3;have fc4:=froz_at HBf9.out 4;obtain⟨q0,q1,q2,q3,q4⟩:=HQC.out.below HW9.out;simp only at q0 q1 q2 q3 q4)
    have hg:=grown5V (w:=w9) (k:=kf) (.int .i64 opq) (.bool bq) (.slice oq lq cq) (.string nmq) (.slice koq klq kcq);have hfr:Fr 29 w9 _:=.of_grown hg (fun j hj=>by injection hj with hj;subst hj;exact⟨_,HBf9.out,n32_F⟩);go_roundw
    case rel=>exact⟨els++[nu],q,dd - 1,bq,oq,lq,cq,koq,klq,kcq,Lib.hid (HR9.out.other hg HB1.out hfr trivial),Lib.hid (by rw[HEQ.out,HEV.out,List.map_append,List.append_assoc];simp[HNZ.out]),Lib.hid ⟨by have:=HDL.out;omega,fun _ _=>HDL.out⟩,Lib.hid ⟨HRQ.out,HQ.out,HSQ.out⟩,Lib.hid (by rw[<-HOQ.out,<-HNQ.out];exact HFQ.out),Lib.hid (by rw[<-HOQ.out,<-HNQ.out];exact set5_same HBf9.out _ _ _ _ _),Lib.hid (ext_below HW9.out hg HKf.out),Lib.hid (Nat.le_trans HS9.out hg.size)⟩
    case measure =>
     obtain⟨xo,xc,rfl,-⟩:=HR9.out.form;have:=HLEN.out;rw[HEV.out] at this;simp only[lsa,lsc,lsn] at this ⊢
     omega
   have h10b:(t'.op==10)=false:=beq_eq_false_iff_ne.2 h10;obtain⟨o',ho'⟩:∃ o,o=t'.op:=⟨_,rfl⟩
   obtain⟨nm',hnm'⟩:∃ o,o=t'.name:=⟨_,rfl⟩
   have HFT2:=Lib.hid (HFT.out.below HW.out);rw[<-ho'] at HBf h10b h10 HFT2 HDD;rw[<-hnm'] at HBf HFT2;have HO':=Lib.hid ho';clear ho' hnm' HFT
   by_cases h9:o'=9
   ·have h9b:(o'==9)=true:=by rw[h9];rfl
    have HH:Hid (asL (ev (rho env) t')=[]):=Lib.hid (by obtain⟨o2,z2,nm2,ks2⟩:=t';have:=HO'.out;rw[h9] at this;simp only[F.op] at this;subst this;rw[ev];rfl);clear h9 h10;have c0:=cell_at (v:=.int .i64 o') HBf.out 0 rfl;have fc0:=froz_at HBf.out 0;have c1:=cell_at (v:=.bool b') HBf.out 1 rfl;have fc1:=froz_at HBf.out 1;have c2:=cell_at (v:=.slice ao' l' c') HBf.out 2 rfl;have fc2:=froz_at HBf.out 2;have c3:=cell_at (v:=.string nm') HBf.out 3 rfl;have fc3:=froz_at HBf.out 3;have c4:=cell_at (v:=.slice ko' kl' kc') HBf.out 4 rfl;have fc4:=froz_at HBf.out 4;go_wp2_with fail
    go_ret
    exact⟨_,rfl,⟨els,HROW.out.at,by rw[HEQ.out,HH.out,List.append_nil]⟩,HW.out⟩
   have h9b:(o'==9)=false:=beq_eq_false_iff_ne.2 h9;have hdd:dd<=d:=HDD.out.2 h9 h10;have HDL:=Lib.hid hdd;clear h9 h10 hdd;obtain⟨hr1,hs1,hm1⟩:=HTT.out;have HR1:=Lib.hid hr1;have HS1:=Lib.hid hs1;have HM1:=Lib.hid hm1;clear hr1 hs1 hm1;have c0:=cell_at (v:=.int .i64 o') HBf.out 0 rfl;have fc0:=froz_at HBf.out 0;have c1:=cell_at (v:=.bool b') HBf.out 1 rfl;have fc1:=froz_at HBf.out 1;have c2:=cell_at (v:=.slice ao' l' c') HBf.out 2 rfl;have fc2:=froz_at HBf.out 2;have c3:=cell_at (v:=.string nm') HBf.out 3 rfl;have fc3:=froz_at HBf.out 3;have c4:=cell_at (v:=.slice ko' kl' kc') HBf.out 4 rfl;have fc4:=froz_at HBf.out 4;go_wp2_with fail
   refine (IL _ _ env t' S wl (HFT2.out.up HDL.out) HE.out HR1.out HS1.out HM1.out).mono ?_;rintro e x2 ⟨x,rfl,⟨ns,hx,hnz⟩,hb⟩;clear c0 fc0 c1 fc1 c2 fc2 c3 fc3 c4 fc4;replace HBf:=kBV hb HBf;replace HE:=Lib.hid (HE.out.below hb);replace HW:=Lib.hid (HW.out.trans (hb.mono HW.out.size));replace HROW:=Lib.hid (HROW.out.below hb);replace HFT2:=Lib.hid (HFT2.out.below hb);have HAT:=Lib.hid hx;have HNZ:=Lib.hid hnz;clear hx hnz;have HSZ2:Hid (x1.heap.size<=x2.heap.size):=Lib.hid (Nat.le_trans HSZ.out hb.size);obtain⟨xo,xn,xc,rfl⟩:∃ xo xn xc,x=.slice xo xn xc:=by obtain⟨_,_,e,_⟩:=HAT.out;exact⟨_,_,_,e⟩
   go_wp2_with (at_builtin;refine El.Row.append (E:=nE) HROW.out rfl (.tmp 49) (.tmp 52) rfl rfl rfl HAT.out (by have:=HLEN.out;rw[<-HNZ.out,List.length_map] at this;omega) HSZ2.out ?_;intro v9 w9 r1 r2 r3 r4;have HW9:=Lib.hid (HW.out.trans (r3.mono (Nat.le_trans hbf.out.size (Nat.le_refl _))));have HR9:=Lib.hid r1;clear r1 r2 r3 r4)
   go_ret
   exact⟨_,rfl,⟨els++ns,HR9.out.at,by rw[HEQ.out,List.map_append,HNZ.out]⟩,HW9.out⟩
 obtain⟨b,ao,l,c,ko,kl,kc,rfl,⟨-,hz,hkl,hkc,hkm⟩,-,hk⟩:=h.open;obtain⟨o,z,nm,ks⟩:=t;simp only[F.op,F.num,F.name,F.kids] at hz hk hkl hs ho hloop ⊢;rw[show d+1 - 1=d from rfl] at hk;obtain⟨hfit,hrs⟩:=rt_node hr;have hkm':kc<=9223372036854775807:=hkm;have HKL0:=Lib.hid hkl;have ho2:o=8\/o=11:=by omega
 have HX:=Lib.hid hk;have HE:=Lib.hid he;have HW:=Lib.hid (Below.refl w.heap.size w);clear h hkm hkl hkc hz hk he ho hloop hr hs;rcases ho2 with rfl | rfl
 ·clear hsm hrs hfit;go_enter Tryz.func115,Tryz.ntmps115
  obtain⟨x1,kf,ef,ekf,hbf,hkf,HBf⟩:=newV w #[.int .i64 8,.bool b,.slice ao l c,.string nm,.slice ko kl kc] 29;replace HX:=Lib.hid (HX.out.below hbf.out);replace HE:=Lib.hid (HE.out.below hbf.out);replace HW:=Lib.hid (HW.out.trans (hbf.out.mono HW.out.size));have c0:=cell_at (v:=.int .i64 8) HBf.out 0 rfl;have fc0:=froz_at HBf.out 0;have c1:=cell_at (v:=.bool b) HBf.out 1 rfl;have fc1:=froz_at HBf.out 1;have c2:=cell_at (v:=.slice ao l c) HBf.out 2 rfl;have fc2:=froz_at HBf.out 2;have c3:=cell_at (v:=.string nm) HBf.out 3 rfl;have fc3:=froz_at HBf.out 3;have c4:=cell_at (v:=.slice ko kl kc) HBf.out 4 rfl;have fc4:=froz_at HBf.out 4;go_wp2_with fail
  refine (lookup_p _ env nm 2 x1 HE.out).mono ?_;rintro e x2 ⟨v,rfl,hv,hb⟩;clear c0 fc0 c1 fc1 c2 fc2 c3 fc3 c4 fc4;replace HBf:=kBV hb HBf;replace HX:=Lib.hid (HX.out.below hb);replace HE:=Lib.hid (HE.out.below hb);replace HW:=Lib.hid (HW.out.trans (hb.mono HW.out.size));obtain⟨k1,b1,o1,l1,c1,d1,p1,m1,q1,rfl,hn⟩:=hv.lk2;have HV:=Lib.hid hn;clear hv hn;go_wp2_with fail
  go_ret
  exact⟨_,rfl,HV.out,HW.out⟩
 obtain⟨p,rfl,hp⟩:=srts_one (ks:=ks) (s:=2) (by simpa [fitF,kidsOk] using hfit);have HSP:=Lib.hid (hsm.kid p (by simp));have HRP:=Lib.hid (hrs p (by simp));have HP:=Lib.hid hp;have HEV:Hid (asL (ev (rho env) (.node 11 z nm [p]))=(asL (ev (rho env) p)).tail):=Lib.hid (by rw[ev,evs,evs];rfl);have hkl1:kl=1:=HKL0.out;subst hkl1;clear hsm hrs hfit hp HKL0;go_enter Tryz.func115,Tryz.ntmps115
 obtain⟨x1,kf,ef,ekf,hbf,hkf,HBf⟩:=newV w #[.int .i64 11,.bool b,.slice ao l c,.string nm,.slice ko 1 kc] 29;replace HX:=Lib.hid (HX.out.below hbf.out);replace HE:=Lib.hid (HE.out.below hbf.out);replace HW:=Lib.hid (HW.out.trans (hbf.out.mono HW.out.size));have c0:=cell_at (v:=.int .i64 11) HBf.out 0 rfl;have fc0:=froz_at HBf.out 0;have c1:=cell_at (v:=.bool b) HBf.out 1 rfl;have fc1:=froz_at HBf.out 1;have c2:=cell_at (v:=.slice ao l c) HBf.out 2 rfl;have fc2:=froz_at HBf.out 2;have c3:=cell_at (v:=.string nm) HBf.out 3 rfl;have fc3:=froz_at HBf.out 3;have c4:=cell_at (v:=.slice ko 1 kc) HBf.out 4 rfl;have fc4:=froz_at HBf.out 4;obtain⟨a,bp,op,lp,cp,kop,klp,kcp,hkop,⟨p0,p1,p2,p3,p4⟩,hfp⟩:=HX.out.first;have HFP:=Lib.hid hfp;clear hfp;obtain⟨opp,hopp⟩:∃ x,x=p.op:=⟨_,rfl⟩
 obtain⟨nmp,hnmp⟩:∃ x,x=p.name:=⟨_,rfl⟩
 rw[<-hopp] at p0 HFP;rw[<-hnmp] at p3 HFP;clear hopp hnmp;subst hkop;go_wp2_with fail
 refine (IL _ _ env p S x1 HFP.out HE.out HRP.out HP.out HSP.out).mono ?_;rintro e x2 ⟨x,rfl,hx,hb⟩;clear c0 fc0 c1 fc1 c2 fc2 c3 fc3 c4 fc4 p0 p1 p2 p3 p4;replace HBf:=kBV hb HBf;replace HX:=Lib.hid (HX.out.below hb);replace HE:=Lib.hid (HE.out.below hb);replace HW:=Lib.hid (HW.out.trans (hb.mono HW.out.size));replace HFP:=Lib.hid (HFP.out.below hb);obtain⟨xo,xc,hxe,⟨hx1,hx2⟩,-⟩:=hx.form;have hxm:xc<=9223372036854775807:=hx2;obtain⟨n,hn⟩:∃ n,n=(asL (ev (rho env) p)).length:=⟨_,rfl⟩
 rw[<-hn] at hxe hx1;rw[hxe] at hx ⊢;have hv:=hx.tail;clear hx hxe hx2 hn HFP;unfold sliced at hv;obtain⟨m,hm⟩:∃ m,m=min 1 n:=⟨_,rfl⟩
 have hmi:min (1:Int) ((n:Nat):Int)=((m:Nat):Int):=by omega
 have hmn:m<=n:=by omega
 rw[<-hm] at hv;clear hm
 by_cases hc:xc=m
 ·rw[if_pos hc] at hv;have HV:=Lib.hid hv;subst hc;clear hv;go_wp2_with fail
  go_ret
  exact⟨_,rfl,by rw[HEV.out];have:=HV.out;rw[show n - xc=0 by omega] at this;simpa using this,(by first | exact HW.out | (rw[<-ekf];exact HW.out))⟩
 rw[if_neg hc] at hv;have HV:=Lib.hid hv;clear hv;go_wp2_with fail
 go_ret
 exact⟨_,rfl,by rw[HEV.out];have:=HV.out;simpa using this,(by first | exact HW.out | (rw[<-ekf];exact HW.out))⟩
end Go.Proofs.YtdkfnbbebpbhaaaGreatDoor
