/-
 Joined texts: LgE,LgF,LgG,LgH,LgI,LgJ,LgK.
-/
import Derived.RangeFuncNested
import Derived.RangeFuncBound
import Derived.RangeFuncCalls
import Derived.RangeFuncLeaves
import Derived.OrdersIn
import Derived.Shelf.Abstract
import Derived.Shelf.RegionOpen
import Derived.WalkKit
import Derived.OwnWalkIn
import Derived.TacticsInMore
import Derived.LoopNIn
import Derived.LoopIn
import Derived.Test.YtoncclhbdkjhmaaGreatDoorJLogicPuts3
set_option maxHeartbeats 32000000
open Go renaming lt_of_block→ag,World→an,Value→ay,bodyPost_ret→aB,heap_setCell_same→aF,Calls→bf,Addr→cH
open Go.Exit renaming inBlock→aE,«then»→aM
open Go.Instr renaming field→lA
open Go.Lib renaming hid→aa
open Go.Proofs.Tryz renaming prog→ax,ntmps64→cu,func64→cJ,results164→gE,ntmps164→jF,func164→kE
open Go.RowKit renaming Below→aC
open Go.RowKit.Below renaming refl→av
open Go.World renaming block_lt_of_cell?→bW
open Go.World.ownsRow renaming kept→iT
open List renaming not_mem_nil→cl,mem_cons→dw,map_append→dN,cons_append→jV,getElem_map→nX
open Nat renaming not_lt_zero→ah,le_refl→ak,le_trans→aq,zero_le→au
namespace Go.Proofs.YtoncclhbdkjhmaaGreatDoor
open Go.RowKit
set_option maxRecDepth 100000
set_option linter.unusedVariables false
set_option linter.unusedSimpArgs false
theorem KA (v:ay) (t:F) (d:Nat) (S:Nat->Prop) (w:an) (h:FC w S d v t) :
  bf ax 64 #[v] w fun e w'=>e=.returned (.bool (cO t.op t.num (fP t.kids)))/\aC w.heap.size w w':=by
 obtain⟨b,ao,l,c,ko,kl,kc,rfl,⟨hr,hz,-,-,-⟩,-,hk⟩:=h.open;obtain⟨o,z,nm,ks⟩:=t;simp only[F.op,F.num,F.name,F.kids] at hr hz hk ⊢;clear h hr;rcases zY o with h | h
 ·rcases h with rfl | rfl | rfl | rfl | rfl | rfl | rfl | rfl | rfl | rfl | rfl | rfl | rfl | rfl | rfl | rfl | rfl | rfl | rfl | rfl | rfl
  ·have HX:=aa hk;have HZ:=aa hz;clear hk hz;have HW:=aa (av w.heap.size w);go_enter cJ,cu
   obtain⟨x1,kf,ef,hO,aR,gL,aj⟩:=aL w #[.int .i64 0,.bool b,.slice ao l c,.string nm,.slice ko kl kc] 29;replace HX:=aa (HX.out.below aR.out);replace HZ:=aa (HZ.out.below aR.out);replace HW:=aa (HW.out.trans (aR.out.mono HW.out.size));have c0:=ae (v:=.int .i64 0) aj.out 0 rfl;have bM:=af aj.out 0;have c1:=ae (v:=.bool b) aj.out 1 rfl;have bL:=af aj.out 1;have c2:=ae (v:=.slice ao l c) aj.out 2 rfl;have bK:=af aj.out 2;have c3:=ae (v:=.string nm) aj.out 3 rfl;have bJ:=af aj.out 3;have c4:=ae (v:=.slice ko kl kc) aj.out 4 rfl;have bI:=af aj.out 4;go_wp2_with fail
   refine (kL _ _ ks [] (d - 1) S x1 HX.out (BL.nil _)).mono ?_;rintro e x2 ⟨rfl,hb⟩;clear c0 bM c1 bL c2 bK c3 bJ c4 bI;replace aj:=aG hb aj;replace HX:=aa (HX.out.below hb);replace HZ:=aa (HZ.out.below hb);replace HW:=aa (HW.out.trans (hb.mono HW.out.size));go_wp2_with fail
   go_ret
   exact⟨by simp[cO,bB],HW.out⟩
  ·have HX:=aa hk;have HZ:=aa hz;clear hk hz;have HW:=aa (av w.heap.size w);go_enter cJ,cu
   obtain⟨x1,kf,ef,hO,aR,gL,aj⟩:=aL w #[.int .i64 1,.bool b,.slice ao l c,.string nm,.slice ko kl kc] 29;replace HX:=aa (HX.out.below aR.out);replace HZ:=aa (HZ.out.below aR.out);replace HW:=aa (HW.out.trans (aR.out.mono HW.out.size));have c0:=ae (v:=.int .i64 1) aj.out 0 rfl;have bM:=af aj.out 0;have c1:=ae (v:=.bool b) aj.out 1 rfl;have bL:=af aj.out 1;have c2:=ae (v:=.slice ao l c) aj.out 2 rfl;have bK:=af aj.out 2;have c3:=ae (v:=.string nm) aj.out 3 rfl;have bJ:=af aj.out 3;have c4:=ae (v:=.slice ko kl kc) aj.out 4 rfl;have bI:=af aj.out 4;go_wp2_with fail
   refine (kL _ _ ks [] (d - 1) S x1 HX.out (BL.nil _)).mono ?_;rintro e x2 ⟨rfl,hb⟩;clear c0 bM c1 bL c2 bK c3 bJ c4 bI;replace aj:=aG hb aj;replace HX:=aa (HX.out.below hb);replace HZ:=aa (HZ.out.below hb);replace HW:=aa (HW.out.trans (hb.mono HW.out.size));go_wp2_with fail
   go_ret
   exact⟨by simp[cO,bB],HW.out⟩
  ·have HX:=aa hk;have HZ:=aa hz;clear hk hz;have HW:=aa (av w.heap.size w);go_enter cJ,cu
   obtain⟨x1,kf,ef,hO,aR,gL,aj⟩:=aL w #[.int .i64 2,.bool b,.slice ao l c,.string nm,.slice ko kl kc] 29;replace HX:=aa (HX.out.below aR.out);replace HZ:=aa (HZ.out.below aR.out);replace HW:=aa (HW.out.trans (aR.out.mono HW.out.size));have c0:=ae (v:=.int .i64 2) aj.out 0 rfl;have bM:=af aj.out 0;have c1:=ae (v:=.bool b) aj.out 1 rfl;have bL:=af aj.out 1;have c2:=ae (v:=.slice ao l c) aj.out 2 rfl;have bK:=af aj.out 2;have c3:=ae (v:=.string nm) aj.out 3 rfl;have bJ:=af aj.out 3;have c4:=ae (v:=.slice ko kl kc) aj.out 4 rfl;have bI:=af aj.out 4;obtain⟨x2,ky,ey,oB,hby,tw,iu⟩:=aL x1 #[.int .i64 0,.int .i64 0] 36;replace aj:=aG hby.out aj;replace HX:=aa (HX.out.below hby.out);replace HZ:=aa (HZ.out.below hby.out)
   replace HW:=aa (HW.out.trans (hby.out.mono HW.out.size));go_wp2_with fail
   refine (kL _ _ ks [0,0] (d - 1) S x2 HX.out (BL.block (ss:=[0,0]) iu.out (by decide))).mono ?_;rintro e x3 ⟨rfl,hb⟩;clear c0 bM c1 bL c2 bK c3 bJ c4 bI;replace aj:=aG hb aj;replace iu:=aG hb iu;replace HX:=aa (HX.out.below hb);replace HZ:=aa (HZ.out.below hb);replace HW:=aa (HW.out.trans (hb.mono HW.out.size));go_wp2_with fail
   go_ret
   exact⟨by simp[cO,bB],HW.out⟩
  ·have HX:=aa hk;have HZ:=aa hz;clear hk hz;have HW:=aa (av w.heap.size w);go_enter cJ,cu
   obtain⟨x1,kf,ef,hO,aR,gL,aj⟩:=aL w #[.int .i64 3,.bool b,.slice ao l c,.string nm,.slice ko kl kc] 29;replace HX:=aa (HX.out.below aR.out);replace HZ:=aa (HZ.out.below aR.out);replace HW:=aa (HW.out.trans (aR.out.mono HW.out.size));have c0:=ae (v:=.int .i64 3) aj.out 0 rfl;have bM:=af aj.out 0;have c1:=ae (v:=.bool b) aj.out 1 rfl;have bL:=af aj.out 1;have c2:=ae (v:=.slice ao l c) aj.out 2 rfl;have bK:=af aj.out 2;have c3:=ae (v:=.string nm) aj.out 3 rfl;have bJ:=af aj.out 3;have c4:=ae (v:=.slice ko kl kc) aj.out 4 rfl;have bI:=af aj.out 4;obtain⟨x2,ky,ey,oB,hby,tw,iu⟩:=aL x1 #[.int .i64 0] 36;replace aj:=aG hby.out aj;replace HX:=aa (HX.out.below hby.out);replace HZ:=aa (HZ.out.below hby.out)
   replace HW:=aa (HW.out.trans (hby.out.mono HW.out.size));go_wp2_with fail
   refine (kL _ _ ks [0] (d - 1) S x2 HX.out (BL.block (ss:=[0]) iu.out (by decide))).mono ?_;rintro e x3 ⟨rfl,hb⟩;clear c0 bM c1 bL c2 bK c3 bJ c4 bI;replace aj:=aG hb aj;replace iu:=aG hb iu;replace HX:=aa (HX.out.below hb);replace HZ:=aa (HZ.out.below hb);replace HW:=aa (HW.out.trans (hb.mono HW.out.size));go_wp2_with fail
   go_ret
   exact⟨by simp[cO,bB],HW.out⟩
  ·have HX:=aa hk;have HZ:=aa hz;clear hk hz;have HW:=aa (av w.heap.size w);go_enter cJ,cu
   obtain⟨x1,kf,ef,hO,aR,gL,aj⟩:=aL w #[.int .i64 4,.bool b,.slice ao l c,.string nm,.slice ko kl kc] 29;replace HX:=aa (HX.out.below aR.out);replace HZ:=aa (HZ.out.below aR.out);replace HW:=aa (HW.out.trans (aR.out.mono HW.out.size));have c0:=ae (v:=.int .i64 4) aj.out 0 rfl;have bM:=af aj.out 0;have c1:=ae (v:=.bool b) aj.out 1 rfl;have bL:=af aj.out 1;have c2:=ae (v:=.slice ao l c) aj.out 2 rfl;have bK:=af aj.out 2;have c3:=ae (v:=.string nm) aj.out 3 rfl;have bJ:=af aj.out 3;have c4:=ae (v:=.slice ko kl kc) aj.out 4 rfl;have bI:=af aj.out 4;obtain⟨x2,ky,ey,oB,hby,tw,iu⟩:=aL x1 #[.int .i64 0,.int .i64 0] 36;replace aj:=aG hby.out aj;replace HX:=aa (HX.out.below hby.out);replace HZ:=aa (HZ.out.below hby.out)
   replace HW:=aa (HW.out.trans (hby.out.mono HW.out.size));go_wp2_with fail
   refine (kL _ _ ks [0,0] (d - 1) S x2 HX.out (BL.block (ss:=[0,0]) iu.out (by decide))).mono ?_;rintro e x3 ⟨rfl,hb⟩;clear c0 bM c1 bL c2 bK c3 bJ c4 bI;replace aj:=aG hb aj;replace iu:=aG hb iu;replace HX:=aa (HX.out.below hb);replace HZ:=aa (HZ.out.below hb);replace HW:=aa (HW.out.trans (hb.mono HW.out.size));go_wp2_with fail
   go_ret
   exact⟨by simp[cO,bB],HW.out⟩
  ·have HX:=aa hk;have HZ:=aa hz;clear hk hz;have HW:=aa (av w.heap.size w);go_enter cJ,cu
   obtain⟨x1,kf,ef,hO,aR,gL,aj⟩:=aL w #[.int .i64 5,.bool b,.slice ao l c,.string nm,.slice ko kl kc] 29;replace HX:=aa (HX.out.below aR.out);replace HZ:=aa (HZ.out.below aR.out);replace HW:=aa (HW.out.trans (aR.out.mono HW.out.size));have c0:=ae (v:=.int .i64 5) aj.out 0 rfl;have bM:=af aj.out 0;have c1:=ae (v:=.bool b) aj.out 1 rfl;have bL:=af aj.out 1;have c2:=ae (v:=.slice ao l c) aj.out 2 rfl;have bK:=af aj.out 2;have c3:=ae (v:=.string nm) aj.out 3 rfl;have bJ:=af aj.out 3;have c4:=ae (v:=.slice ko kl kc) aj.out 4 rfl;have bI:=af aj.out 4;go_wp2_with fail
   refine (gZ _ z 600 x1 HZ.out.gi (by decide)).mono ?_;rintro e x2 ⟨rfl,hb⟩;replace aj:=aG hb aj;replace HX:=aa (HX.out.below hb);replace HZ:=aa (HZ.out.below hb);replace HW:=aa (HW.out.trans (hb.mono HW.out.size));clear c0 bM c1 bL c2 bK c3 bJ c4 bI;clear hb;have c0:=ae (v:=.int .i64 5) aj.out 0 rfl;have bM:=af aj.out 0;have c1:=ae (v:=.bool b) aj.out 1 rfl;have bL:=af aj.out 1;have c2:=ae (v:=.slice ao l c) aj.out 2 rfl;have bK:=af aj.out 2;have c3:=ae (v:=.string nm) aj.out 3 rfl;have bJ:=af aj.out 3;have c4:=ae (v:=.slice ko kl kc) aj.out 4 rfl;have bI:=af aj.out 4
   by_cases hs:z<1
   ·have hlt:decide (eK z<1)=true:=by unfold eK;(repeat' split)<;>first | rfl | (simp;omega) | (exfalso;omega)
    have hfit:cO 5 z (fP ks)=false:=by simp[cO,bB];omega
    go_wp2_with fail
    go_ret
    exact⟨by rw[hfit];rfl,HW.out⟩
   have hlt:decide (eK z<1)=false:=by unfold eK;(repeat' split)<;>first | rfl | (simp;omega) | (exfalso;omega)
   have jK:decide (1<=z)=true:=by simp;omega
   obtain⟨x3,ky,ey,oB,hby,tw,iu⟩:=aL x2 #[.int .i64 0] 36;replace aj:=aG hby.out aj;replace HX:=aa (HX.out.below hby.out);replace HZ:=aa (HZ.out.below hby.out);replace HW:=aa (HW.out.trans (hby.out.mono HW.out.size));go_wp2_with fail
   refine (kL _ _ ks [0] (d - 1) S x3 HX.out (BL.block (ss:=[0]) iu.out (by decide))).mono ?_;rintro e x4 ⟨rfl,hb⟩;clear c0 bM c1 bL c2 bK c3 bJ c4 bI;replace aj:=aG hb aj;replace iu:=aG hb iu;replace HX:=aa (HX.out.below hb);replace HZ:=aa (HZ.out.below hb);replace HW:=aa (HW.out.trans (hb.mono HW.out.size));go_wp2_with fail
   go_ret
   exact⟨by simp[cO,bB,jK],HW.out⟩
  ·have HX:=aa hk;have HZ:=aa hz;clear hk hz;have HW:=aa (av w.heap.size w);go_enter cJ,cu
   obtain⟨x1,kf,ef,hO,aR,gL,aj⟩:=aL w #[.int .i64 6,.bool b,.slice ao l c,.string nm,.slice ko kl kc] 29;replace HX:=aa (HX.out.below aR.out);replace HZ:=aa (HZ.out.below aR.out);replace HW:=aa (HW.out.trans (aR.out.mono HW.out.size));have c0:=ae (v:=.int .i64 6) aj.out 0 rfl;have bM:=af aj.out 0;have c1:=ae (v:=.bool b) aj.out 1 rfl;have bL:=af aj.out 1;have c2:=ae (v:=.slice ao l c) aj.out 2 rfl;have bK:=af aj.out 2;have c3:=ae (v:=.string nm) aj.out 3 rfl;have bJ:=af aj.out 3;have c4:=ae (v:=.slice ko kl kc) aj.out 4 rfl;have bI:=af aj.out 4;obtain⟨x2,ky,ey,oB,hby,tw,iu⟩:=aL x1 #[.int .i64 2] 36;replace aj:=aG hby.out aj;replace HX:=aa (HX.out.below hby.out);replace HZ:=aa (HZ.out.below hby.out)
   replace HW:=aa (HW.out.trans (hby.out.mono HW.out.size));go_wp2_with fail
   refine (kL _ _ ks [2] (d - 1) S x2 HX.out (BL.block (ss:=[2]) iu.out (by decide))).mono ?_;rintro e x3 ⟨rfl,hb⟩;clear c0 bM c1 bL c2 bK c3 bJ c4 bI;replace aj:=aG hb aj;replace iu:=aG hb iu;replace HX:=aa (HX.out.below hb);replace HZ:=aa (HZ.out.below hb);replace HW:=aa (HW.out.trans (hb.mono HW.out.size));go_wp2_with fail
   go_ret
   exact⟨by simp[cO,bB],HW.out⟩
  ·have HX:=aa hk;have HZ:=aa hz;clear hk hz;have HW:=aa (av w.heap.size w);go_enter cJ,cu
   obtain⟨x1,kf,ef,hO,aR,gL,aj⟩:=aL w #[.int .i64 7,.bool b,.slice ao l c,.string nm,.slice ko kl kc] 29;replace HX:=aa (HX.out.below aR.out);replace HZ:=aa (HZ.out.below aR.out);replace HW:=aa (HW.out.trans (aR.out.mono HW.out.size));have c0:=ae (v:=.int .i64 7) aj.out 0 rfl;have bM:=af aj.out 0;have c1:=ae (v:=.bool b) aj.out 1 rfl;have bL:=af aj.out 1;have c2:=ae (v:=.slice ao l c) aj.out 2 rfl;have bK:=af aj.out 2;have c3:=ae (v:=.string nm) aj.out 3 rfl;have bJ:=af aj.out 3;have c4:=ae (v:=.slice ko kl kc) aj.out 4 rfl;have bI:=af aj.out 4;obtain⟨x2,ky,ey,oB,hby,tw,iu⟩:=aL x1 #[.int .i64 2] 36;replace aj:=aG hby.out aj;replace HX:=aa (HX.out.below hby.out);replace HZ:=aa (HZ.out.below hby.out)
   replace HW:=aa (HW.out.trans (hby.out.mono HW.out.size));go_wp2_with fail
   refine (kL _ _ ks [2] (d - 1) S x2 HX.out (BL.block (ss:=[2]) iu.out (by decide))).mono ?_;rintro e x3 ⟨rfl,hb⟩;clear c0 bM c1 bL c2 bK c3 bJ c4 bI;replace aj:=aG hb aj;replace iu:=aG hb iu;replace HX:=aa (HX.out.below hb);replace HZ:=aa (HZ.out.below hb);replace HW:=aa (HW.out.trans (hb.mono HW.out.size));go_wp2_with fail
   go_ret
   exact⟨by simp[cO,bB],HW.out⟩
  ·have HX:=aa hk;have HZ:=aa hz;clear hk hz;have HW:=aa (av w.heap.size w);go_enter cJ,cu
   obtain⟨x1,kf,ef,hO,aR,gL,aj⟩:=aL w #[.int .i64 8,.bool b,.slice ao l c,.string nm,.slice ko kl kc] 29;replace HX:=aa (HX.out.below aR.out);replace HZ:=aa (HZ.out.below aR.out);replace HW:=aa (HW.out.trans (aR.out.mono HW.out.size));have c0:=ae (v:=.int .i64 8) aj.out 0 rfl;have bM:=af aj.out 0;have c1:=ae (v:=.bool b) aj.out 1 rfl;have bL:=af aj.out 1;have c2:=ae (v:=.slice ao l c) aj.out 2 rfl;have bK:=af aj.out 2;have c3:=ae (v:=.string nm) aj.out 3 rfl;have bJ:=af aj.out 3;have c4:=ae (v:=.slice ko kl kc) aj.out 4 rfl;have bI:=af aj.out 4;go_wp2_with fail
   refine (kL _ _ ks [] (d - 1) S x1 HX.out (BL.nil _)).mono ?_;rintro e x2 ⟨rfl,hb⟩;clear c0 bM c1 bL c2 bK c3 bJ c4 bI;replace aj:=aG hb aj;replace HX:=aa (HX.out.below hb);replace HZ:=aa (HZ.out.below hb);replace HW:=aa (HW.out.trans (hb.mono HW.out.size));go_wp2_with fail
   go_ret
   exact⟨by simp[cO,bB],HW.out⟩
  ·have HX:=aa hk;have HZ:=aa hz;clear hk hz;have HW:=aa (av w.heap.size w);go_enter cJ,cu
   obtain⟨x1,kf,ef,hO,aR,gL,aj⟩:=aL w #[.int .i64 9,.bool b,.slice ao l c,.string nm,.slice ko kl kc] 29;replace HX:=aa (HX.out.below aR.out);replace HZ:=aa (HZ.out.below aR.out);replace HW:=aa (HW.out.trans (aR.out.mono HW.out.size));have c0:=ae (v:=.int .i64 9) aj.out 0 rfl;have bM:=af aj.out 0;have c1:=ae (v:=.bool b) aj.out 1 rfl;have bL:=af aj.out 1;have c2:=ae (v:=.slice ao l c) aj.out 2 rfl;have bK:=af aj.out 2;have c3:=ae (v:=.string nm) aj.out 3 rfl;have bJ:=af aj.out 3;have c4:=ae (v:=.slice ko kl kc) aj.out 4 rfl;have bI:=af aj.out 4;go_wp2_with fail
   refine (kL _ _ ks [] (d - 1) S x1 HX.out (BL.nil _)).mono ?_;rintro e x2 ⟨rfl,hb⟩;clear c0 bM c1 bL c2 bK c3 bJ c4 bI;replace aj:=aG hb aj;replace HX:=aa (HX.out.below hb);replace HZ:=aa (HZ.out.below hb);replace HW:=aa (HW.out.trans (hb.mono HW.out.size));go_wp2_with fail
   go_ret
   exact⟨by simp[cO,bB],HW.out⟩
  ·have HX:=aa hk;have HZ:=aa hz;clear hk hz;have HW:=aa (av w.heap.size w);go_enter cJ,cu
   obtain⟨x1,kf,ef,hO,aR,gL,aj⟩:=aL w #[.int .i64 10,.bool b,.slice ao l c,.string nm,.slice ko kl kc] 29;replace HX:=aa (HX.out.below aR.out);replace HZ:=aa (HZ.out.below aR.out);replace HW:=aa (HW.out.trans (aR.out.mono HW.out.size));have c0:=ae (v:=.int .i64 10) aj.out 0 rfl;have bM:=af aj.out 0;have c1:=ae (v:=.bool b) aj.out 1 rfl;have bL:=af aj.out 1;have c2:=ae (v:=.slice ao l c) aj.out 2 rfl;have bK:=af aj.out 2;have c3:=ae (v:=.string nm) aj.out 3 rfl;have bJ:=af aj.out 3;have c4:=ae (v:=.slice ko kl kc) aj.out 4 rfl;have bI:=af aj.out 4;obtain⟨x2,ky,ey,oB,hby,tw,iu⟩:=aL x1 #[.int .i64 0,.int .i64 2] 36;replace aj:=aG hby.out aj;replace HX:=aa (HX.out.below hby.out);replace HZ:=aa (HZ.out.below hby.out)
   replace HW:=aa (HW.out.trans (hby.out.mono HW.out.size));go_wp2_with fail
   refine (kL _ _ ks [0,2] (d - 1) S x2 HX.out (BL.block (ss:=[0,2]) iu.out (by decide))).mono ?_;rintro e x3 ⟨rfl,hb⟩;clear c0 bM c1 bL c2 bK c3 bJ c4 bI;replace aj:=aG hb aj;replace iu:=aG hb iu;replace HX:=aa (HX.out.below hb);replace HZ:=aa (HZ.out.below hb);replace HW:=aa (HW.out.trans (hb.mono HW.out.size));go_wp2_with fail
   go_ret
   exact⟨by simp[cO,bB],HW.out⟩
  ·have HX:=aa hk;have HZ:=aa hz;clear hk hz;have HW:=aa (av w.heap.size w);go_enter cJ,cu
   obtain⟨x1,kf,ef,hO,aR,gL,aj⟩:=aL w #[.int .i64 11,.bool b,.slice ao l c,.string nm,.slice ko kl kc] 29;replace HX:=aa (HX.out.below aR.out);replace HZ:=aa (HZ.out.below aR.out);replace HW:=aa (HW.out.trans (aR.out.mono HW.out.size));have c0:=ae (v:=.int .i64 11) aj.out 0 rfl;have bM:=af aj.out 0;have c1:=ae (v:=.bool b) aj.out 1 rfl;have bL:=af aj.out 1;have c2:=ae (v:=.slice ao l c) aj.out 2 rfl;have bK:=af aj.out 2;have c3:=ae (v:=.string nm) aj.out 3 rfl;have bJ:=af aj.out 3;have c4:=ae (v:=.slice ko kl kc) aj.out 4 rfl;have bI:=af aj.out 4;obtain⟨x2,ky,ey,oB,hby,tw,iu⟩:=aL x1 #[.int .i64 2] 36;replace aj:=aG hby.out aj;replace HX:=aa (HX.out.below hby.out);replace HZ:=aa (HZ.out.below hby.out)
   replace HW:=aa (HW.out.trans (hby.out.mono HW.out.size));go_wp2_with fail
   refine (kL _ _ ks [2] (d - 1) S x2 HX.out (BL.block (ss:=[2]) iu.out (by decide))).mono ?_;rintro e x3 ⟨rfl,hb⟩;clear c0 bM c1 bL c2 bK c3 bJ c4 bI;replace aj:=aG hb aj;replace iu:=aG hb iu;replace HX:=aa (HX.out.below hb);replace HZ:=aa (HZ.out.below hb);replace HW:=aa (HW.out.trans (hb.mono HW.out.size));go_wp2_with fail
   go_ret
   exact⟨by simp[cO,bB],HW.out⟩
  ·have HX:=aa hk;have HZ:=aa hz;clear hk hz;have HW:=aa (av w.heap.size w);go_enter cJ,cu
   obtain⟨x1,kf,ef,hO,aR,gL,aj⟩:=aL w #[.int .i64 12,.bool b,.slice ao l c,.string nm,.slice ko kl kc] 29;replace HX:=aa (HX.out.below aR.out);replace HZ:=aa (HZ.out.below aR.out);replace HW:=aa (HW.out.trans (aR.out.mono HW.out.size));have c0:=ae (v:=.int .i64 12) aj.out 0 rfl;have bM:=af aj.out 0;have c1:=ae (v:=.bool b) aj.out 1 rfl;have bL:=af aj.out 1;have c2:=ae (v:=.slice ao l c) aj.out 2 rfl;have bK:=af aj.out 2;have c3:=ae (v:=.string nm) aj.out 3 rfl;have bJ:=af aj.out 3;have c4:=ae (v:=.slice ko kl kc) aj.out 4 rfl;have bI:=af aj.out 4;go_wp2_with fail
   refine (kL _ _ ks [] (d - 1) S x1 HX.out (BL.nil _)).mono ?_;rintro e x2 ⟨rfl,hb⟩;clear c0 bM c1 bL c2 bK c3 bJ c4 bI;replace aj:=aG hb aj;replace HX:=aa (HX.out.below hb);replace HZ:=aa (HZ.out.below hb);replace HW:=aa (HW.out.trans (hb.mono HW.out.size));go_wp2_with fail
   go_ret
   exact⟨by simp[cO,bB],HW.out⟩
  ·have HX:=aa hk;have HZ:=aa hz;clear hk hz;have HW:=aa (av w.heap.size w);go_enter cJ,cu
   obtain⟨x1,kf,ef,hO,aR,gL,aj⟩:=aL w #[.int .i64 13,.bool b,.slice ao l c,.string nm,.slice ko kl kc] 29;replace HX:=aa (HX.out.below aR.out);replace HZ:=aa (HZ.out.below aR.out);replace HW:=aa (HW.out.trans (aR.out.mono HW.out.size));have c0:=ae (v:=.int .i64 13) aj.out 0 rfl;have bM:=af aj.out 0;have c1:=ae (v:=.bool b) aj.out 1 rfl;have bL:=af aj.out 1;have c2:=ae (v:=.slice ao l c) aj.out 2 rfl;have bK:=af aj.out 2;have c3:=ae (v:=.string nm) aj.out 3 rfl;have bJ:=af aj.out 3;have c4:=ae (v:=.slice ko kl kc) aj.out 4 rfl;have bI:=af aj.out 4;go_wp2_with fail
   refine (kL _ _ ks [] (d - 1) S x1 HX.out (BL.nil _)).mono ?_;rintro e x2 ⟨rfl,hb⟩;clear c0 bM c1 bL c2 bK c3 bJ c4 bI;replace aj:=aG hb aj;replace HX:=aa (HX.out.below hb);replace HZ:=aa (HZ.out.below hb);replace HW:=aa (HW.out.trans (hb.mono HW.out.size));go_wp2_with fail
   go_ret
   exact⟨by simp[cO,bB],HW.out⟩
  ·have HX:=aa hk;have HZ:=aa hz;clear hk hz;have HW:=aa (av w.heap.size w);go_enter cJ,cu
   obtain⟨x1,kf,ef,hO,aR,gL,aj⟩:=aL w #[.int .i64 14,.bool b,.slice ao l c,.string nm,.slice ko kl kc] 29;replace HX:=aa (HX.out.below aR.out);replace HZ:=aa (HZ.out.below aR.out);replace HW:=aa (HW.out.trans (aR.out.mono HW.out.size));have c0:=ae (v:=.int .i64 14) aj.out 0 rfl;have bM:=af aj.out 0;have c1:=ae (v:=.bool b) aj.out 1 rfl;have bL:=af aj.out 1;have c2:=ae (v:=.slice ao l c) aj.out 2 rfl;have bK:=af aj.out 2;have c3:=ae (v:=.string nm) aj.out 3 rfl;have bJ:=af aj.out 3;have c4:=ae (v:=.slice ko kl kc) aj.out 4 rfl;have bI:=af aj.out 4;go_wp2_with fail
   refine (kL _ _ ks [] (d - 1) S x1 HX.out (BL.nil _)).mono ?_;rintro e x2 ⟨rfl,hb⟩;clear c0 bM c1 bL c2 bK c3 bJ c4 bI;replace aj:=aG hb aj;replace HX:=aa (HX.out.below hb);replace HZ:=aa (HZ.out.below hb);replace HW:=aa (HW.out.trans (hb.mono HW.out.size));go_wp2_with fail
   go_ret
   exact⟨by simp[cO,bB],HW.out⟩
  ·have HX:=aa hk;have HZ:=aa hz;clear hk hz;have HW:=aa (av w.heap.size w);go_enter cJ,cu
   obtain⟨x1,kf,ef,hO,aR,gL,aj⟩:=aL w #[.int .i64 15,.bool b,.slice ao l c,.string nm,.slice ko kl kc] 29;replace HX:=aa (HX.out.below aR.out);replace HZ:=aa (HZ.out.below aR.out);replace HW:=aa (HW.out.trans (aR.out.mono HW.out.size));have c0:=ae (v:=.int .i64 15) aj.out 0 rfl;have bM:=af aj.out 0;have c1:=ae (v:=.bool b) aj.out 1 rfl;have bL:=af aj.out 1;have c2:=ae (v:=.slice ao l c) aj.out 2 rfl;have bK:=af aj.out 2;have c3:=ae (v:=.string nm) aj.out 3 rfl;have bJ:=af aj.out 3;have c4:=ae (v:=.slice ko kl kc) aj.out 4 rfl;have bI:=af aj.out 4;obtain⟨x2,ky,ey,oB,hby,tw,iu⟩:=aL x1 #[.int .i64 0,.int .i64 0] 36;replace aj:=aG hby.out aj;replace HX:=aa (HX.out.below hby.out);replace HZ:=aa (HZ.out.below hby.out)
   replace HW:=aa (HW.out.trans (hby.out.mono HW.out.size));go_wp2_with fail
   refine (kL _ _ ks [0,0] (d - 1) S x2 HX.out (BL.block (ss:=[0,0]) iu.out (by decide))).mono ?_;rintro e x3 ⟨rfl,hb⟩;clear c0 bM c1 bL c2 bK c3 bJ c4 bI;replace aj:=aG hb aj;replace iu:=aG hb iu;replace HX:=aa (HX.out.below hb);replace HZ:=aa (HZ.out.below hb);replace HW:=aa (HW.out.trans (hb.mono HW.out.size));go_wp2_with fail
   go_ret
   exact⟨by simp[cO,bB],HW.out⟩
  ·have HX:=aa hk;have HZ:=aa hz;clear hk hz;have HW:=aa (av w.heap.size w);go_enter cJ,cu
   obtain⟨x1,kf,ef,hO,aR,gL,aj⟩:=aL w #[.int .i64 16,.bool b,.slice ao l c,.string nm,.slice ko kl kc] 29;replace HX:=aa (HX.out.below aR.out);replace HZ:=aa (HZ.out.below aR.out);replace HW:=aa (HW.out.trans (aR.out.mono HW.out.size));have c0:=ae (v:=.int .i64 16) aj.out 0 rfl;have bM:=af aj.out 0;have c1:=ae (v:=.bool b) aj.out 1 rfl;have bL:=af aj.out 1;have c2:=ae (v:=.slice ao l c) aj.out 2 rfl;have bK:=af aj.out 2;have c3:=ae (v:=.string nm) aj.out 3 rfl;have bJ:=af aj.out 3;have c4:=ae (v:=.slice ko kl kc) aj.out 4 rfl;have bI:=af aj.out 4;obtain⟨x2,ky,ey,oB,hby,tw,iu⟩:=aL x1 #[.int .i64 0,.int .i64 0] 36;replace aj:=aG hby.out aj;replace HX:=aa (HX.out.below hby.out);replace HZ:=aa (HZ.out.below hby.out)
   replace HW:=aa (HW.out.trans (hby.out.mono HW.out.size));go_wp2_with fail
   refine (kL _ _ ks [0,0] (d - 1) S x2 HX.out (BL.block (ss:=[0,0]) iu.out (by decide))).mono ?_;rintro e x3 ⟨rfl,hb⟩;clear c0 bM c1 bL c2 bK c3 bJ c4 bI;replace aj:=aG hb aj;replace iu:=aG hb iu;replace HX:=aa (HX.out.below hb);replace HZ:=aa (HZ.out.below hb);replace HW:=aa (HW.out.trans (hb.mono HW.out.size));have c0:=ae (v:=.int .i64 16) aj.out 0 rfl;have bM:=af aj.out 0;have c1:=ae (v:=.bool b) aj.out 1 rfl;have bL:=af aj.out 1;have c2:=ae (v:=.slice ao l c) aj.out 2 rfl;have bK:=af aj.out 2;have c3:=ae (v:=.string nm) aj.out 3 rfl;have bJ:=af aj.out 3;have c4:=ae (v:=.slice ko kl kc) aj.out 4 rfl;have bI:=af aj.out 4
   by_cases hs:fP ks=[0,0]
   ·rw[decide_eq_true hs];go_wp2_with fail
    go_ret
    exact⟨by simp[cO,bB,hs],HW.out⟩
   rw[decide_eq_false hs];obtain⟨x4,kt,et,DM,ct,mw,nN⟩:=aL x3 #[.int .i64 2,.int .i64 2] 36;replace aj:=aG ct.out aj;replace iu:=aG ct.out iu;replace HX:=aa (HX.out.below ct.out);replace HZ:=aa (HZ.out.below ct.out);replace HW:=aa (HW.out.trans (ct.out.mono HW.out.size));go_wp2_with fail
   refine (kL _ _ ks [2,2] (d - 1) S x4 HX.out (BL.block (ss:=[2,2]) nN.out (by decide))).mono ?_;rintro e x5 ⟨rfl,hb⟩;clear c0 bM c1 bL c2 bK c3 bJ c4 bI;replace aj:=aG hb aj;replace iu:=aG hb iu;replace nN:=aG hb nN;replace HX:=aa (HX.out.below hb);replace HZ:=aa (HZ.out.below hb);replace HW:=aa (HW.out.trans (hb.mono HW.out.size));go_wp2_with fail
   go_ret
   exact⟨by simp[cO,bB,hs],HW.out⟩
  ·have HX:=aa hk;have HZ:=aa hz;clear hk hz;have HW:=aa (av w.heap.size w);go_enter cJ,cu
   obtain⟨x1,kf,ef,hO,aR,gL,aj⟩:=aL w #[.int .i64 17,.bool b,.slice ao l c,.string nm,.slice ko kl kc] 29;replace HX:=aa (HX.out.below aR.out);replace HZ:=aa (HZ.out.below aR.out);replace HW:=aa (HW.out.trans (aR.out.mono HW.out.size));have c0:=ae (v:=.int .i64 17) aj.out 0 rfl;have bM:=af aj.out 0;have c1:=ae (v:=.bool b) aj.out 1 rfl;have bL:=af aj.out 1;have c2:=ae (v:=.slice ao l c) aj.out 2 rfl;have bK:=af aj.out 2;have c3:=ae (v:=.string nm) aj.out 3 rfl;have bJ:=af aj.out 3;have c4:=ae (v:=.slice ko kl kc) aj.out 4 rfl;have bI:=af aj.out 4;obtain⟨x2,ky,ey,oB,hby,tw,iu⟩:=aL x1 #[.int .i64 1] 36;replace aj:=aG hby.out aj;replace HX:=aa (HX.out.below hby.out);replace HZ:=aa (HZ.out.below hby.out)
   replace HW:=aa (HW.out.trans (hby.out.mono HW.out.size));go_wp2_with fail
   refine (kL _ _ ks [1] (d - 1) S x2 HX.out (BL.block (ss:=[1]) iu.out (by decide))).mono ?_;rintro e x3 ⟨rfl,hb⟩;clear c0 bM c1 bL c2 bK c3 bJ c4 bI;replace aj:=aG hb aj;replace iu:=aG hb iu;replace HX:=aa (HX.out.below hb);replace HZ:=aa (HZ.out.below hb);replace HW:=aa (HW.out.trans (hb.mono HW.out.size));go_wp2_with fail
   go_ret
   exact⟨by simp[cO,bB],HW.out⟩
  ·have HX:=aa hk;have HZ:=aa hz;clear hk hz;have HW:=aa (av w.heap.size w);go_enter cJ,cu
   obtain⟨x1,kf,ef,hO,aR,gL,aj⟩:=aL w #[.int .i64 18,.bool b,.slice ao l c,.string nm,.slice ko kl kc] 29;replace HX:=aa (HX.out.below aR.out);replace HZ:=aa (HZ.out.below aR.out);replace HW:=aa (HW.out.trans (aR.out.mono HW.out.size));have c0:=ae (v:=.int .i64 18) aj.out 0 rfl;have bM:=af aj.out 0;have c1:=ae (v:=.bool b) aj.out 1 rfl;have bL:=af aj.out 1;have c2:=ae (v:=.slice ao l c) aj.out 2 rfl;have bK:=af aj.out 2;have c3:=ae (v:=.string nm) aj.out 3 rfl;have bJ:=af aj.out 3;have c4:=ae (v:=.slice ko kl kc) aj.out 4 rfl;have bI:=af aj.out 4;go_wp2_with fail
   refine (AI _ 1 ks (d - 1) S x1 HX.out).mono ?_;rintro e x2 ⟨rfl,hb⟩;clear c0 bM c1 bL c2 bK c3 bJ c4 bI;replace aj:=aG hb aj;replace HX:=aa (HX.out.below hb);replace HZ:=aa (HZ.out.below hb);replace HW:=aa (HW.out.trans (hb.mono HW.out.size));go_wp2_with fail
   go_ret
   exact⟨by simp[cO,bB],HW.out⟩
  ·have HX:=aa hk;have HZ:=aa hz;clear hk hz;have HW:=aa (av w.heap.size w);go_enter cJ,cu
   obtain⟨x1,kf,ef,hO,aR,gL,aj⟩:=aL w #[.int .i64 19,.bool b,.slice ao l c,.string nm,.slice ko kl kc] 29;replace HX:=aa (HX.out.below aR.out);replace HZ:=aa (HZ.out.below aR.out);replace HW:=aa (HW.out.trans (aR.out.mono HW.out.size));have c0:=ae (v:=.int .i64 19) aj.out 0 rfl;have bM:=af aj.out 0;have c1:=ae (v:=.bool b) aj.out 1 rfl;have bL:=af aj.out 1;have c2:=ae (v:=.slice ao l c) aj.out 2 rfl;have bK:=af aj.out 2;have c3:=ae (v:=.string nm) aj.out 3 rfl;have bJ:=af aj.out 3;have c4:=ae (v:=.slice ko kl kc) aj.out 4 rfl;have bI:=af aj.out 4;go_wp2_with fail
   refine (AI _ 1 ks (d - 1) S x1 HX.out).mono ?_;rintro e x2 ⟨rfl,hb⟩;clear c0 bM c1 bL c2 bK c3 bJ c4 bI;replace aj:=aG hb aj;replace HX:=aa (HX.out.below hb);replace HZ:=aa (HZ.out.below hb);replace HW:=aa (HW.out.trans (hb.mono HW.out.size));go_wp2_with fail
   go_ret
   exact⟨by simp[cO,bB],HW.out⟩
  have HX:=aa hk;have HZ:=aa hz;clear hk hz;have HW:=aa (av w.heap.size w);go_enter cJ,cu
  obtain⟨x1,kf,ef,hO,aR,gL,aj⟩:=aL w #[.int .i64 20,.bool b,.slice ao l c,.string nm,.slice ko kl kc] 29;replace HX:=aa (HX.out.below aR.out);replace HZ:=aa (HZ.out.below aR.out);replace HW:=aa (HW.out.trans (aR.out.mono HW.out.size));have c0:=ae (v:=.int .i64 20) aj.out 0 rfl;have bM:=af aj.out 0;have c1:=ae (v:=.bool b) aj.out 1 rfl;have bL:=af aj.out 1;have c2:=ae (v:=.slice ao l c) aj.out 2 rfl;have bK:=af aj.out 2;have c3:=ae (v:=.string nm) aj.out 3 rfl;have bJ:=af aj.out 3;have c4:=ae (v:=.slice ko kl kc) aj.out 4 rfl;have bI:=af aj.out 4;obtain⟨x2,ky,ey,oB,hby,tw,iu⟩:=aL x1 #[.int .i64 1,.int .i64 1] 36;replace aj:=aG hby.out aj;replace HX:=aa (HX.out.below hby.out);replace HZ:=aa (HZ.out.below hby.out)
  replace HW:=aa (HW.out.trans (hby.out.mono HW.out.size));go_wp2_with fail
  refine (kL _ _ ks [1,1] (d - 1) S x2 HX.out (BL.block (ss:=[1,1]) iu.out (by decide))).mono ?_;rintro e x3 ⟨rfl,hb⟩;clear c0 bM c1 bL c2 bK c3 bJ c4 bI;replace aj:=aG hb aj;replace iu:=aG hb iu;replace HX:=aa (HX.out.below hb);replace HZ:=aa (HZ.out.below hb);replace HW:=aa (HW.out.trans (hb.mono HW.out.size));go_wp2_with fail
  go_ret
  exact⟨by simp[cO,bB],HW.out⟩
 have n0:(o==0)=false:=beq_eq_false_iff_ne.2 (by omega);have n1:(o==1)=false:=beq_eq_false_iff_ne.2 (by omega);have n2:(o==2)=false:=beq_eq_false_iff_ne.2 (by omega);have n3:(o==3)=false:=beq_eq_false_iff_ne.2 (by omega);have n4:(o==4)=false:=beq_eq_false_iff_ne.2 (by omega);have n5:(o==5)=false:=beq_eq_false_iff_ne.2 (by omega);have n6:(o==6)=false:=beq_eq_false_iff_ne.2 (by omega);have n7:(o==7)=false:=beq_eq_false_iff_ne.2 (by omega);have n8:(o==8)=false:=beq_eq_false_iff_ne.2 (by omega);have n9:(o==9)=false:=beq_eq_false_iff_ne.2 (by omega);have S1:(o==10)=false:=beq_eq_false_iff_ne.2 (by omega);have Ox:(o==11)=false:=beq_eq_false_iff_ne.2 (by omega);have S0:(o==12)=false:=beq_eq_false_iff_ne.2 (by omega);have n13:(o==13)=false:=beq_eq_false_iff_ne.2 (by omega)
 have SZ:(o==14)=false:=beq_eq_false_iff_ne.2 (by omega);have n15:(o==15)=false:=beq_eq_false_iff_ne.2 (by omega);have n16:(o==16)=false:=beq_eq_false_iff_ne.2 (by omega);have n17:(o==17)=false:=beq_eq_false_iff_ne.2 (by omega);have n18:(o==18)=false:=beq_eq_false_iff_ne.2 (by omega);have n19:(o==19)=false:=beq_eq_false_iff_ne.2 (by omega);have n20:(o==20)=false:=beq_eq_false_iff_ne.2 (by omega)
 have hf:cO o z (fP ks)=false:=by
  unfold cO bB;rw[if_neg (by omega),if_neg (by omega),if_neg (by omega),if_neg (by omega),if_neg (by omega),if_neg (by omega),if_neg (by omega),if_neg (by omega),if_neg (by omega)]
  rfl
 clear h;have HW:=aa ((av w.heap.size w).alloc (ak _) (.cells #[.int .i64 o,.bool b,.slice ao l c,.string nm,.slice ko kl kc] 29));clear hk hz;go_enter cJ,cu
 go_wp2_with fail
 go_ret
 exact⟨by rw[hf];rfl,HW.out⟩
theorem Ip (v:ay) (z:Int) (k:Nat) (w:an) (h:CI w v z k) :
  bf ax 65 #[v] w fun e w'=>e=.returned (.bool true)/\aC w.heap.size w w':=by
 obtain⟨va,rfl,h1,-⟩:=h;obtain⟨ao,cap,rfl,h2,h3,h4,h5⟩:=h1
 by_cases h0:z=0
 ·subst h0;have e0:(fx aH (Int.natAbs 0)).length=0:=by rw[Int.natAbs_zero,fe];rfl
  rw[e0] at h2 ⊢;rw[show decide ((0:Int)<0)=false from rfl];have HW:=aa ((av w.heap.size w).alloc (ak _) (.cells #[.bool false,.slice ao 0 cap] 26));clear h5;go_enter Tryz.func65,Tryz.ntmps65
  go_wp2_with fail
  go_ret
  exact⟨rfl,HW.out⟩
 have hp:0<(fx aH z.natAbs).length:=q5 (by omega);have hl:=AA (B:=aH) (by decide) hp;obtain⟨a,rfl,hc⟩:=h5 ((fx aH z.natAbs).length - 1) (by omega);clear h5;have yX:nth (fx aH z.natAbs) ((fx aH z.natAbs).length - 1)≠0:=by unfold nth;simpa using hl
 clear hl;generalize nth (fx aH z.natAbs) ((fx aH z.natAbs).length - 1)=x at hc yX;generalize (fx aH z.natAbs).length=n at *;generalize decide (z<0)=sg at *;have hne:(x != 0)=true:=by rw[bne_iff_ne];omega
 have NM:(((n:Nat):Int)==0)=false:=beq_eq_false_iff_ne.2 (by omega);have hcap:cap<=9223372036854775807:=h3;have hb:=(av w.heap.size w).alloc (ak _) (.cells #[.bool sg,.slice (some a) n cap] 26);have HW:=aa hb;rw[<-hb.cell (bW w _ hc)] at hc;clear yX hb h0;have hsub:((n:Nat):Int) - 1=((n - 1:Nat):Int):=by omega
 go_enter Tryz.func65,Tryz.ntmps65
 go_wp2_with fail
 go_ret
 exact⟨rfl,HW.out⟩
theorem Eg (ks:List F) (j:Nat) (h:j<ks.length):rts (ks.take (j+1))=(rts (ks.take j) && rt ks[j]):=by
 rw[List.take_succ_eq_append_getElem h,pF,List.all_append,pF];simp
theorem C3 {ks:List F} {j:Nat} (h:j<ks.length) (hr:rt ks[j]=false):rts ks=false:=by
 rw[pF,List.all_eq_false];exact⟨_,List.getElem_mem h,by simp[hr]⟩
theorem yF (d:Nat):∀ (v:ay) (t:F) (S:Nat->Prop) (w:an),FC w S d v t ->
  bf ax 17 #[v] w fun e w'=>e=.returned (.bool (rt t))/\aC w.heap.size w w':=by
 induction d with
 | zero=>intro v t S w h;obtain⟨_,_,_,_,_,_,_,_,_,h0,_⟩:=h.open;omega
 | succ d ih =>
  intro v t S w h;obtain⟨b,ao,l,c,ko,kl,kc,rfl,⟨hr,hz,eR,hkc,hkm⟩,-,hk⟩:=h.open;obtain⟨o,z,nm,ks⟩:=t;simp only[F.op,F.num,F.name,F.kids] at hr hz hk eR h ⊢;obtain⟨n,hn⟩:∃ n,n=ks.length:=⟨_,rfl⟩
  rw[<-hn] at eR;subst eR;have HN:=aa hn;clear hn hr;have HX:=aa hk;have HZ:=aa hz;have IG:=aa h;have IH:=aa ih;clear hk hz h ih;have HW:=aa (av w.heap.size w);have vA:kc<=9223372036854775807:=hkm;go_enter Tryz.func17,Tryz.ntmps17
  obtain⟨x1,kf,ef,hO,aR,gL,aj⟩:=aL w #[.int .i64 o,.bool b,.slice ao l c,.string nm,.slice ko kl kc] 29;replace HX:=aa (HX.out.below aR.out);replace HZ:=aa (HZ.out.below aR.out);replace IG:=aa (IG.out.below aR.out);replace HW:=aa (HW.out.trans (aR.out.mono HW.out.size));have c0:=ae (v:=.int .i64 o) aj.out 0 rfl;have bM:=af aj.out 0;have c1:=ae (v:=.bool b) aj.out 1 rfl;have bL:=af aj.out 1;have c2:=ae (v:=.slice ao l c) aj.out 2 rfl;have bK:=af aj.out 2;have c3:=ae (v:=.string nm) aj.out 3 rfl;have bJ:=af aj.out 3;have c4:=ae (v:=.slice ko kl kc) aj.out 4 rfl;have bI:=af aj.out 4;go_wp2_with fail
  refine (KA _ (.node o z nm ks) (d+1) S x1 IG.out).mono ?_;rintro e x2 ⟨rfl,hb⟩;clear c0 bM c1 bL c2 bK c3 bJ c4 bI;replace aj:=aG hb aj;replace HX:=aa (HX.out.below hb);replace HZ:=aa (HZ.out.below hb);replace IG:=aa (IG.out.below hb);replace HW:=aa (HW.out.trans (hb.mono HW.out.size));simp only[F.op,F.num,F.kids];have rS:rt (.node o z nm ks)=(cO o z (fP ks) && rts ks):=by rw[rt]
  generalize cO o z (fP ks)=p at rS ⊢;have c0:=ae (v:=.int .i64 o) aj.out 0 rfl;have bM:=af aj.out 0;have c1:=ae (v:=.bool b) aj.out 1 rfl;have bL:=af aj.out 1;have c2:=ae (v:=.slice ao l c) aj.out 2 rfl;have bK:=af aj.out 2;have c3:=ae (v:=.string nm) aj.out 3 rfl;have bJ:=af aj.out 3;have c4:=ae (v:=.slice ko kl kc) aj.out 4 rfl;have bI:=af aj.out 4
  cases p with
  | false =>
   go_wp2_with fail
   go_ret
   exact⟨by rw[rS];rfl,HW.out⟩
  | true =>
   go_wp2_with fail
   refine (Ip _ z 600 x2 HZ.out).mono ?_;rintro e x3 ⟨rfl,hb⟩;clear c0 bM c1 bL c2 bK c3 bJ c4 bI;replace aj:=aG hb aj;replace HX:=aa (HX.out.below hb);replace HZ:=aa (HZ.out.below hb);replace IG:=aa (IG.out.below hb);replace HW:=aa (HW.out.trans (hb.mono HW.out.size));have c0:=ae (v:=.int .i64 o) aj.out 0 rfl;have bM:=af aj.out 0;have c1:=ae (v:=.bool b) aj.out 1 rfl;have bL:=af aj.out 1;have c2:=ae (v:=.slice ao l c) aj.out 2 rfl;have bK:=af aj.out 2;have c3:=ae (v:=.string nm) aj.out 3 rfl;have bJ:=af aj.out 3;have c4:=ae (v:=.slice ko kl kc) aj.out 4 rfl;have bI:=af aj.out 4;go_wp2_with fail
   clear c0 bM c1 bL c2 bK c3 bJ c4 bI
   go_loopw [17] (fun i wr=>∃ j:Nat,i=.int .i64 (j:Nat)/\j<=kl/\Hid (rts (ks.take j)=true)/\Hid (aC x3.heap.size x3 wr)) (fun i _=>kl - (intOf i).toNat)
   case atStart=>exact⟨0,rfl,au _,aa rfl,aa (av _ _)⟩
   case round =>
    obtain⟨j,rfl,hj,HT,HB⟩:=hrel;replace HX:=aa (HX.out.below HB.out);replace HW:=aa (HW.out.trans (HB.out.mono HW.out.size))
    by_cases hlt:j<kl
    ·have hz:j<ks.length:=by rw[<-HN.out];exact hlt
     obtain⟨a,bb,qo,ql,qc,po,pl,pc,rfl,⟨c0,c1,c2,c3,c4⟩,hf⟩:=HX.out.cells j hz;have sB:=aa hf;clear hf;obtain⟨x,ry⟩:∃ x,x=ks[j].op:=⟨_,rfl⟩
     obtain⟨ym,hnm⟩:∃ x,x=ks[j].name:=⟨_,rfl⟩
     rw[<-ry] at c0 sB;rw[<-hnm] at c3 sB;clear ry hnm;obtain⟨x4,k8,e8,NZ,yp,NN,lD⟩:=aL wr #[.int .i64 x,.bool bb,.slice qo ql qc,.string ym,.slice po pl pc] 29;replace HW:=aa (HW.out.trans (yp.out.mono HW.out.size));replace HB:=aa (HB.out.trans (yp.out.mono HB.out.size));replace sB:=aa (sB.out.below yp.out);have g0:=ae (v:=.int .i64 x) lD.out 0 rfl;have nF:=af lD.out 0;have g1:=ae (v:=.bool bb) lD.out 1 rfl;have nD:=af lD.out 1;have g2:=ae (v:=.slice qo ql qc) lD.out 2 rfl;have oA:=af lD.out 2;have g3:=ae (v:=.string ym) lD.out 3 rfl;have oz:=af lD.out 3;have g4:=ae (v:=.slice po pl pc) lD.out 4 rfl;have oy:=af lD.out 4;go_wp2_with fail
     refine (IH.out _ ks[j] S x4 sB.out).mono ?_;rintro e x5 ⟨rfl,hb⟩;clear g0 nF g1 nD g2 oA g3 oz g4 oy;replace lD:=aG hb lD;replace HW:=aa (HW.out.trans (hb.mono HW.out.size));replace HB:=aa (HB.out.trans (hb.mono HB.out.size));replace sB:=aa (sB.out.below hb);clear hb sB;have Nf:=aa (Eg ks j hz);have Sd:=aa (C3 hz);rw[HT.out] at Nf;generalize rt ks[j]=p at Nf Sd ⊢
     cases p with
     | true =>
      go_wp2_with fail
      go_roundw
      case rel=>exact⟨j+1,by go_num,hlt,Nf,HB⟩
      case measure=>simp[intOf];omega
     | false =>
      go_wp2_with fail
      go_ret
      exact⟨by rw[rS,Sd.out (by trivial)];rfl,HW.out⟩
    go_wp2_with fail
    go_ret
    have e:=HT.out;rw[show j=kl by omega,HN.out,List.take_length] at e;exact⟨by rw[rS,e];rfl,HW.out⟩
end Go.Proofs.YtoncclhbdkjhmaaGreatDoor
namespace Go.Proofs.YtoncclhbdkjhmaaGreatDoor
open Go.RowKit Go.Shelf
set_option maxRecDepth 100000
set_option linter.unusedVariables false
set_option linter.unusedSimpArgs false
attribute [local go_sem] Oper.semAt_some
theorem EO:(Tryz.prog.info? 44).map (fun i=>(i.zero,i.size,i.bytes))=some (some (.agg #[.string ⟨#[]⟩,.int .i64 0,.bool false,.slice none 0 0,.bool false,.slice none 0 0]),6,88):=by kernel_rfl
structure BU where
 nm:ByteArray
 u:VU
def bC (b:BU):List ay:=.string b.nm::vC b.u
def bV (b:BU):ay:=.agg #[.string b.nm,.int .i64 b.u.k,.bool (decide (b.u.n.z<0)),.slice b.u.n.o b.u.n.l b.u.n.c,.bool b.u.b,.slice b.u.lo b.u.ll b.u.lc]
def bE:El BU where
 e:=44
 t:=32
 n:=6
 b:=88
 z:=.agg #[.string ⟨#[]⟩,.int .i64 0,.bool false,.slice none 0 0,.bool false,.slice none 0 0]
 f:=bC
 R w b:=VR w b.u
 ok e':=26≠e'
 pos:=by decide
 KF:=by decide
 zs:=rfl
 z32:=by intro u hu z;simp only[Value.cells,dw,cl,or_false] at hu;rcases hu with rfl | rfl | rfl | rfl | rfl | rfl<;>(intro h;cases h)
 ht:=Tryz.underlying32
 info:=EO
 len _:=rfl
 one n:=by
  intro u hu;simp only[bC,vC,dw,cl,or_false] at hu;rcases hu with rfl | rfl | rfl | rfl | rfl | rfl<;>rfl
 n32 n:=by
  intro u hu z;simp only[bC,vC,dw,cl,or_false] at hu;rcases hu with rfl | rfl | rfl | rfl | rfl | rfl<;>(intro h;cases h)
 fr ok f h:=VR.fr h ok f
 own:=by decide
def jo (us:List BU):List (ByteArray × V):=us.map fun b=>(b.nm,b.u.x)
def EL (w:an) (v:ay) (env:List (ByteArray × V)):Prop:=∃ us,bE.At w v us/\jo us=env
theorem EL.below {w w':an} {v:ay} {env:List (ByteArray × V)} (h:EL w v env) (hb:aC w.heap.size w w'):EL w' v env:=by
 obtain⟨us,h1,h2⟩:=h;exact⟨us,h1.below hb,h2⟩
theorem lI {w:an} {v:ay} {us:List BU} (h:bE.At w v us):∃ ko kc,v=.slice ko us.length kc/\us.length<=kc/\kc<=maxLen/\∀ i (hi:i<us.length),∃ a,ko=some a /\
  w.cell? (a.add (i*6))=some (.string us[i].nm)/\w.cell? ⟨(a.add (i*6)).block,(a.add (i*6)).off+1,none⟩=some (.int .i64 us[i].u.k)/\w.cell? ⟨(a.add (i*6)).block,(a.add (i*6)).off+2,none⟩=some (.bool (decide (us[i].u.n.z<0))) /\
  w.cell? ⟨(a.add (i*6)).block,(a.add (i*6)).off+3,none⟩=some (.slice us[i].u.n.o us[i].u.n.l us[i].u.n.c)/\w.cell? ⟨(a.add (i*6)).block,(a.add (i*6)).off+4,none⟩=some (.bool us[i].u.b)/\w.cell? ⟨(a.add (i*6)).block,(a.add (i*6)).off+5,none⟩=some (.slice us[i].u.lo us[i].u.ll us[i].u.lc)/\VR w us[i].u:=by
 obtain⟨ko,kc,rfl,⟨h1,h2,h3⟩,h4⟩:=h;refine⟨ko,kc,rfl,h1,h2,fun i hi=>?_⟩;obtain⟨a,ha,-,h5,h6⟩:=h4 i hi;have g:∀ j q,(bC us[i])[j]?=some q->w.cell? ((a.add (i*6)).add j)=some q:=fun j q hj=>by rw[tI];exact h5 j q hj
 exact⟨a,ha,g 0 _ rfl,g 1 _ rfl,g 2 _ rfl,g 3 _ rfl,g 4 _ rfl,g 5 _ rfl,h6⟩
abbrev YI:=Nat × BU
def yI (x:YI):Array ay:=#[.int .i64 (x.1:Nat),bV x.2]
theorem wN {α:Type} (l:List α) (k:Nat) (h:k<l.length):(l.drop k).reverse=(l.drop (k+1)).reverse++[l[k]]:=by
 rw[List.drop_eq_getElem_cons h,List.reverse_cons]
theorem B2 (F:Fence) (hd:F.depth=none) (hF:∀ f,F.fn f) (hro:F.round=none) (n Bt:Nat) (ve:ay) (us:List BU) (w:an) (hB:w.heap[Bt]?=some (.cells #[ve] 154 (0,0))) (hu:bE.At w ve us) :
  SeqStopsK F n ax 222 #[.pointer (some ⟨Bt,0,none⟩)] yI (aC w.heap.size) (fun xs=>xs.map (·.2)=us.reverse) (fun pre=>∃ k,pre.map (·.2)=(us.drop k).reverse/\k<=us.length) us.length w:=by
 intro l J Jx W hW hJ Ub hY h0;obtain⟨ko,kc,rfl,nB,fA,rz⟩:=lI hu;have hkc:kc<=9223372036854775807:=fA;have Ij:W.heap[Bt]?=some (.cells #[.slice ko us.length kc] 154 (0,0)):=(hW.block _ (ag hB)).trans hB;have HB:=aa hB;have HU:=aa hu;have HW:=aa hW;have HY:=aa hY;have c0:=ae (v:=.slice ko us.length kc) Ij 0 rfl;obtain⟨N,hN⟩:∃ N,N=us.length:=⟨_,rfl⟩
 have HN:=aa hN;rw[<-hN] at c0 nB HB HU HY ⊢;have J0:=aa h0;clear hW hJ Ub hY h0 hu hB Ij rz fA hN;refine callsIn_of_wp Tryz.func222 rfl (hF _) ?_ hro;simp only[Tryz.ntmps222,List.size_toArray,ru,xC,Nat.reduceAdd,Nat.reduceSub,Array.replicate_succ,Array.replicate_zero,List.push_toArray,List.append_toArray,List.nil_append,jV]
 gi_wp2_with fail
 gi_loopw [3] (fun p wr=>∃ (j:Nat) (pre:List YI),p=.int .i64 ((j:Int) - 1)/\j<=N/\Hid (pre.map (·.2)=(us.drop j).reverse)/\Hid (pre.length+j=N)/\Hid (J pre wr)/\Hid (aC w.heap.size w wr)) (fun p _=>(intOf p+1).toNat)
 case atStart=>exact⟨N,[],rfl,ak _,aa (by rw[HN.out,List.drop_length];rfl),aa (by simp),J0,HW⟩
 case round =>
  obtain⟨wl,Bv⟩:∃ q,q=wr:=⟨_,rfl⟩
  subst Bv;clear c0;obtain⟨j,pre,rfl,hj,HP,HL,HJ,Ny⟩:=hrel;have RX:wl.heap[Bt]?=some (.cells #[.slice ko N kc] 154 (0,0)):=(Ny.out.block _ (ag HB.out)).trans HB.out;have c0:=ae (v:=.slice ko N kc) RX 0 rfl;clear RX
  cases j with
  | zero =>
   rw[show ((0:Nat):Int) - 1 = -1 by decide]
   gi_wp2_with fail
   go_end0
   exact⟨⟨_,rfl⟩,.inl ⟨pre,by rw[HP.out,List.drop_zero],HJ.out⟩⟩
  | succ k =>
   rw[show ((k+1:Nat):Int) - 1=((k:Nat):Int) by omega];have hkn:k<us.length:=by have:=HN.out;omega
   obtain⟨EG,Bn,e,-,-,hcs⟩:=lI (HU.out.below Ny.out);injection e with e1 e2 e3;subst e1;obtain⟨a,rfl,d0,d1,d2,d3,d4,d5,-⟩:=hcs k hkn;obtain⟨y,Bp⟩:∃ y,y=us[k]:=⟨_,rfl⟩
   rw[<-Bp] at d0 d1 d2 d3 d4 d5;have Sb:=aa Bp;have yj:pre.length<N:=by have:=HL.out;omega
   obtain⟨fn,tmps,assign,body,hy,hR⟩:=HY.out pre (k,y) wl HJ.out yj;simp only[yI,bV] at hy;clear hcs e2 e3 Bp yj
   gi_wp2_with fail
   refine hR.mono ?_;clear hR hy c0 d0 d1 d2 d3 d4 d5;rintro e W2 (⟨rfl,NS,fA⟩ | ⟨rfl,nR⟩)
   ·have Vq:=aa NS;replace Ny:=aa (Ny.out.trans fA);clear NS fA
    gi_wp2_with fail
    go_roundw
    case rel=>exact⟨k,pre++[(k,y)],rfl,by omega,aa (by rw[wN us k hkn,dN,HP.out,Sb.out];rfl),aa (by have:=HL.out;simp only[fI,ru,xC];omega),Vq,Ny⟩
    case measure=>simp[intOf]
   have Qm:=aa nR;clear nR
   gi_wp2_with fail
   (try simp only[aE,aM])
   refine aB (results_none rfl _ _ _) rfl ?_;exact⟨⟨_,rfl⟩,.inr ⟨_,⟨k,by rw[wN us k hkn,dN,HP.out,Sb.out];rfl,by omega⟩,Qm.out⟩⟩
theorem KK (ko:Option cH) (n kc:Nat) (w:an):bf ax 205 #[.slice ko n kc] w fun e w'=>e=.returned (.func (.func 222) #[] #[.pointer (some ⟨w.heap.size,0,none⟩)])/\w'=w.alloc (.cells #[.slice ko n kc] 154):=by
 go_enter Tryz.func205,Tryz.ntmps205
 go_wp2_with fail
 go_ret
 exact⟨rfl,rfl⟩
attribute [local go_sem] Oper.semAt_some
theorem Jn {a b:ByteArray} (h:a≠b):(a.toList==b.toList)=false:=beq_eq_false_iff_ne.2 (fun e=>h (by
 rw[ByteArray.toList_eq,ByteArray.toList_eq] at e
 exact ByteArray.ext (Array.toList_inj.1 e)))
theorem FB {a b:ByteArray} (h:a=b):(a.toList==b.toList)=true:=by subst h;exact beq_self_eq_true _
theorem Gt (T:Array ay) (k l:Nat) (v u:ay):(#[k,l].zip #[v,u]).foldl (fun t (x:Nat × ay)=>t.setIfInBounds x.1 x.2) T=(T.setIfInBounds k v).setIfInBounds l u:=by simp
theorem fj {w:an} {g:Nat} {T:TypeId} {a0 a1 a2 a3 a4:ay} (h:w.heap[g]?=some (.cells #[a0,a1,a2,a3,a4] T (0,0))) (v0 v1 v2 v3 v4:ay) :
  (((((w.setCell ⟨g,0,none⟩ v0).setCell ⟨g,1,none⟩ v1).setCell ⟨g,2,none⟩ v2).setCell ⟨g,3,none⟩ v3).setCell ⟨g,4,none⟩ v4).heap[g]?=some (.cells #[v0,v1,v2,v3,v4] T (0,0)):=by
 have h0:(w.setCell ⟨g,0,none⟩ v0).heap[g]?=some (.cells #[v0,a1,a2,a3,a4] T (0,0)):=aF _ g 0 _ T v0 h;have h1:((w.setCell ⟨g,0,none⟩ v0).setCell ⟨g,1,none⟩ v1).heap[g]?=some (.cells #[v0,v1,a2,a3,a4] T (0,0)):=aF _ g 1 _ T v1 h0;have h2:(((w.setCell ⟨g,0,none⟩ v0).setCell ⟨g,1,none⟩ v1).setCell ⟨g,2,none⟩ v2).heap[g]?=some (.cells #[v0,v1,v2,a3,a4] T (0,0)):=aF _ g 2 _ T v2 h1;have h3:((((w.setCell ⟨g,0,none⟩ v0).setCell ⟨g,1,none⟩ v1).setCell ⟨g,2,none⟩ v2).setCell ⟨g,3,none⟩ v3).heap[g]?=some (.cells #[v0,v1,v2,v3,a4] T (0,0)):=aF _ g 3 _ T v3 h2;exact aF _ g 4 _ T v4 h3
def G_ (x:V) (b:Int):V:=if fu x=b then x else .I 0
theorem VR.sort {w:an} {u:VU} (h:VR w u):u.k=fu u.x:=by
 unfold VR at h
 cases hx:u.x<;>rw[hx] at h<;>exact h.1
theorem uy {nm:ByteArray}:∀ (l:List (ByteArray × V)) (a:V),(∀ p ∈ l,p.1≠nm)->l.foldl (fun a p=>if p.1=nm then p.2 else a) a=a
 | [],_,_=>rfl
 | q::l,a,h=>by rw[List.foldl_cons,if_neg (h q (by simp))];exact uy l a (fun p hp=>h p (by simp[hp]))
theorem Eh {env:List (ByteArray × V)} {nm:ByteArray} (h:∀ p ∈ env,p.1≠nm):a_ env nm=.I 0:=uy env _ h
theorem GW {env:List (ByteArray × V)} {nm:ByteArray} {k:Nat} (hk:k<env.length) (h1:env[k].1=nm) (h2:∀ p ∈ env.drop (k+1),p.1≠nm):a_ env nm=env[k].2:=by
 have key:a_ (env.take (k+1)++env.drop (k+1)) nm=a_ (env.take (k+1)) nm:=by
  unfold a_;rw[List.foldl_append];exact uy _ _ h2
 rw[List.take_append_drop] at key;rw[key,zW env nm k hk,if_pos h1]
def M_ (w4:an) (nm:ByteArray) (pre:List YI) (W:an):Prop:=aC w4.heap.size w4 W/\∀ x ∈ pre,x.2.nm≠nm
theorem M_.own (w4:an) (nm:ByteArray):OwnFrom w4.heap.size (M_ w4 nm):=by
 rintro pre W W' row ⟨h1,h2⟩ hg hr;exact⟨⟨hg.os.trans h1.os,hg.tape.trans h1.tape,hg.output.trans h1.output,aq h1.size hg.size,fun k hk=>(hg.block k (by have:=h1.size;omega) (fun e=>by have:=(hr k e.symm).1;omega)).trans (h1.block k hk)⟩,h2⟩
def N4 (w w4:an) (kr:Nat) (nm:ByteArray) (b:Int) (c:Code) (pre:List YI) (W:an):Prop:=
 ∃ pre' x,pre=pre'++[x]/\(∀ y ∈ pre',y.2.nm≠nm)/\x.2.nm=nm/\aC w.heap.size w W/\w4.heap.size<=W.heap.size /\
  ((c=.ret/\x.2.u.k=b/\W.heap[kr]?=some (.cells #[.int .i64 x.2.u.k,.bool (decide (x.2.u.n.z<0)),.slice x.2.u.n.o x.2.u.n.l x.2.u.n.c,.bool x.2.u.b,.slice x.2.u.lo x.2.u.ll x.2.u.lc] 41 (0,0))) \/
   (c=.exit 0/\x.2.u.k≠b/\W.heap[kr]?=some (.cells #[.int .i64 0,.bool false,.slice none 0 0,.bool false,.slice none 0 0] 41 (0,0))))
theorem N4.own (w w4:an) (kr:Nat) (nm:ByteArray) (b:Int) (c:Code) (hw:w.heap.size<=w4.heap.size) (gD:kr<w4.heap.size):OwnFrom w4.heap.size (N4 w w4 kr nm b c):=by
 rintro pre W W' row ⟨pre',x,h1,h2,h3,h4,h6,h5⟩ hg hr;have hkb:W'.heap[kr]?=W.heap[kr]?:=hg.block kr (by omega) (fun e=>by have:=(hr kr e.symm).1;omega);refine⟨pre',x,h1,h2,h3,⟨hg.os.trans h4.os,hg.tape.trans h4.tape,hg.output.trans h4.output,aq h4.size hg.size,fun k hk=>(hg.block k (by have:=h4.size;omega) (fun e=>by have:=(hr k e.symm).1;omega)).trans (h4.block k hk)⟩,aq h6 hg.size,?_⟩;rw[hkb];exact h5
theorem pG {n₀:Nat} {W:an} {l:Nat} {o o':Obj} (hn:n₀<=l) (h:W.heap[l]?=some o):aC n₀ W (W.putObj l o'):=
 (av n₀ W).grown (grownBy_putObj' W l o') (by have:=ag h;omega) (fun k e=>by cases e;exact hn)
theorem aS {w W W':an} {g:Nat} (h:aC w.heap.size w W) (hg:W.grownBy W' (some g)) (hk:w.heap.size<=g):aC w.heap.size w W':=
 ⟨hg.os.trans h.os,hg.tape.trans h.tape,hg.output.trans h.output,aq h.size hg.size,fun k fA=>(hg.block k (by have:=h.size;omega) (fun e=>by injection e with e;omega)).trans (h.block k fA)⟩
theorem wA (ve:ay) (env:List (ByteArray × V)) (nm:ByteArray) (b:Int) (w:an) (h:EL w ve env) :
  bf ax 191 #[ve,.string nm,.int .i64 b] w fun e w'=>∃ v,e=.returned v/\VC w' v (G_ (a_ env nm) b)/\aC w.heap.size w w':=by
 obtain⟨us,hu,rfl⟩:=h;have Rh:=hu;obtain⟨ko,kc,rfl,-,-,-⟩:=lI Rh;obtain⟨N,hN⟩:∃ N,N=us.length:=⟨_,rfl⟩
 rw[<-hN];rw[<-hN] at hu;have HN:=aa hN;have HU:=aa hu;have U2:=aa hu;clear hN hu Rh;have HW:=aa (av w.heap.size w);obtain⟨x1,kn,en,Le,BD,hkn,oe⟩:=aL w #[.string nm] 9;replace HU:=aa (El.At.below HU.out BD.out);replace HW:=aa (HW.out.trans (BD.out.mono HW.out.size));have hkn:Hid (w.heap.size<=kn):=aa (by rw[<-Le];exact ak _);obtain⟨x2,kb,eb,Uq,Gg,hkb,r5⟩:=aL x1 #[.int .i64 b] 36;replace oe:=aG Gg.out oe;replace HU:=aa (El.At.below HU.out Gg.out);replace HW:=aa (HW.out.trans (Gg.out.mono HW.out.size));obtain⟨x3,kr,er,lZ,bP,gD,aD⟩:=aL x2 #[.int .i64 0,.bool false,.slice none 0 0,.bool false,.slice none 0 0] 41;replace oe:=aG bP.out oe;replace r5:=aG bP.out r5;replace HU:=aa (El.At.below HU.out bP.out)
 replace HW:=aa (HW.out.trans (bP.out.mono HW.out.size));have Qv:Hid (w.heap.size<=kr):=aa (by rw[<-lZ];exact aq (BD.out.size) (Gg.out.size));obtain⟨x4,kt,et,DM,ct,mw,nN⟩:=aL x3 #[.slice ko N kc] 154;replace oe:=aG ct.out oe;replace r5:=aG ct.out r5;replace aD:=aG ct.out aD;replace HU:=aa (El.At.below HU.out ct.out);replace HW:=aa (HW.out.trans (ct.out.mono HW.out.size));have qC:Hid (kr<x4.heap.size/\kn<x4.heap.size/\kb<x4.heap.size):=aa ⟨ag aD.out,ag oe.out,ag r5.out⟩;refine callsIn_wide.1 (callsIn_of_wp_marks (F:=Fence.wide) (n:=9) Tryz.func191 rfl trivial ?_ rfl)
 simp only[Tryz.ntmps191,List.size_toArray,ru,xC,Nat.reduceAdd,Nat.reduceSub,Array.replicate_succ,Array.replicate_zero,List.push_toArray,List.append_toArray,List.nil_append,jV];refine wpIn_wide.2 ?_;go_wp2_with (first | (refine (KK ko N kc _).mono ?_;rintro e w' ⟨rfl,rfl⟩;rw[et,DM]) | fail)
 refine (wpIn_wide (n:=9)).1 ?_
 refine wpIn_rangeFunc_ownH rfl (by decide) (gf:=222) (lb:=#[.pointer (some ⟨kt,0,none⟩)]) rfl trivial (enters_of Tryz.func222 (by kernel_rfl) rfl) (B2 Fence.wide rfl (fun _=>trivial) rfl 8 kt _ us x4 nN.out HU.out) (fun h k=>h.trans k) (fun W l o o' hl h hc _=>pG hl h) (av _ _) (fun _=>rfl)
  (M_ x4 nm) (N4 w x4 kr nm b) (M_.own _ _) (fun c=>N4.own _ _ _ _ _ _ HW.out.size qC.out.1) ⟨av _ _,fun x h=>by cases h⟩
  (fun y a' W=>∃ kp,W.heap[kp]?=some (.cells #[.string y.2.nm,.int .i64 y.2.u.k,.bool (decide (y.2.u.n.z<0)),.slice y.2.u.n.o y.2.u.n.l y.2.u.n.c,.bool y.2.u.b,.slice y.2.u.lo y.2.u.ll y.2.u.lc] 44 (0,0))/\a'=⟨#[.slice ko N kc,.string nm,.int .i64 b,undef,.pointer (some ⟨kn,0,none⟩),.pointer (some ⟨kb,0,none⟩),.pointer (some ⟨kr,0,none⟩),undef,.pointer (some ⟨kp,0,none⟩),.slice ko N kc,.func (.func 222) #[] #[.pointer (some ⟨kt,0,none⟩)],.int .i64 (y.1:Nat),bV y.2,undef,undef,undef,undef,undef,undef,undef,undef,undef,undef,undef,undef],[]⟩) ?hax ?assign ?body ?done ?stop
 case hax =>
  rintro y a' _ W W' row ⟨kp,h1,h2⟩ hg hr;exact⟨kp,(hg.block kp (ag h1) (fun e=>by obtain⟨-,o,ho,hc⟩:=hr kp e.symm;rw[h1] at ho;injection ho with ho;subst ho;cases hc)).trans h1,h2⟩
 case assign =>
  rintro l pre y W K hI hK;have St:=aa hK;have Su:=aa hI;clear hK hI;rw[show yI y=#[.int .i64 (y.1:Nat),bV y.2] from rfl,Gt];simp only[bV,List.setIfInBounds_toArray,List.set_cons_succ,List.set_cons_zero]
  gi_wp2_with fail
  refine St.out _ _ ((KeepsOthers.alloc _ _).from _) (((av _ _).alloc (ak _) _).mono Su.out.1.size) ((M_.own _ _).alloc _ Su.out) ⟨W.heap.size,cy W _ _ rfl,?_⟩
  rfl
 case body =>
  rintro l pre y a' W hl - ⟨hI,hpre⟩ ⟨kp,hB,rfl⟩ hlen;obtain⟨i,y⟩:=y;simp only[bV];simp only at hB;have HI:=aa hI;have KY:=aa hpre;have iL:=aa hB;have QM:=aG hI oe;have QN:=aG hI r5;have iS:=aG hI aD;clear hI hpre hB hlen;have c0:=ae (v:=.string y.nm) iL.out 0 rfl;have bM:=af iL.out 0;have c1:=ae (v:=.int .i64 y.u.k) iL.out 1 rfl;have bL:=af iL.out 1;have c2:=ae (v:=.bool (decide (y.u.n.z<0))) iL.out 2 rfl;have bK:=af iL.out 2;have c3:=ae (v:=.slice y.u.n.o y.u.n.l y.u.n.c) iL.out 3 rfl;have bJ:=af iL.out 3;have c4:=ae (v:=.bool y.u.b) iL.out 4 rfl;have bI:=af iL.out 4;have c5:=ae (v:=.slice y.u.lo y.u.ll y.u.lc) iL.out 5 rfl;have WG:=af iL.out 5;have d0:=ae (v:=.string nm) QM.out 0 rfl
  have e0:=ae (v:=.int .i64 b) QN.out 0 rfl
  by_cases hnm:y.nm=nm
  ·have hne:(y.nm.toList==nm.toList)=true:=FB hnm;have CL:=aa hnm;clear hnm
   by_cases hkb:y.u.k=b
   ·have hkk:(y.u.k==b)=true:=by rw[hkb];exact beq_self_eq_true _
    have A0:=aa hkb;clear hkb;have f0:=af iS.out 0;have r0:=ae (v:=.int .i64 0) iS.out 0 rfl;have f1:=af iS.out 1;have r1:=ae (v:=.bool false) iS.out 1 rfl;have f2:=af iS.out 2;have r2:=ae (v:=.slice none 0 0) iS.out 2 rfl;have f3:=af iS.out 3;have r3:=ae (v:=.bool false) iS.out 3 rfl;have f4:=af iS.out 4;have r4:=ae (v:=.slice none 0 0) iS.out 4 rfl
    gi_wp2_with fail
    refine⟨KeepsFrom.of_grownBy (row:=some kr) (aY _ _ _ _ _) (fun j e=>by injection e with e;have:=qC.out.1;omega),pre,(i,y),rfl,KY.out,CL.out,aS (HW.out.trans (HI.out.mono HW.out.size)) (aY _ _ _ _ _) Qv.out,aq HI.out.size (aY (k:=kr) _ _ _ _ _).size,.inl ⟨rfl,A0.out,fj iS.out _ _ _ _ _⟩⟩
   have hkk:(y.u.k==b)=false:=by rw[beq_eq_false_iff_ne];exact hkb
   have A0:=aa hkb;clear hkb
   gi_wp2_with fail
   exact⟨KeepsFrom.refl _ _,pre,(i,y),rfl,KY.out,CL.out,HW.out.trans (HI.out.mono HW.out.size),HI.out.size,.inr ⟨rfl,A0.out,iS.out⟩⟩
  have hne:(y.nm.toList==nm.toList)=false:=Jn hnm;have CL:=aa hnm;clear hnm
  gi_wp2_with fail
  refine⟨KeepsFrom.refl _ _,av _ _,HI.out,fun x hx=>?_⟩;rcases List.mem_append.1 hx with hx | hx
  ·exact KY.out x hx
  rw[List.mem_singleton] at hx;subst hx;exact CL.out
 case done =>
  rintro D xs W hD hS ⟨hI,hx⟩ MH
  have hno:a_ (jo us) nm=.I 0:=Eh (fun p hp=>by
   obtain⟨q,hq,rfl⟩:=List.mem_map.1 hp;have:q ∈ us.reverse:=by simpa using hq
   rw[<-hS] at this;obtain⟨x,DF,rfl⟩:=List.mem_map.1 this
   exact hx x DF)
  have Oa:=aa hno;have HI:=aa hI;have Ls:=aa MH;have HD:=aa hD;have iS:=aG hI aD;clear hno hI MH hD hx hS;have f0:=af iS.out 0;have r0:=ae (v:=.int .i64 0) iS.out 0 rfl;have f1:=af iS.out 1;have r1:=ae (v:=.bool false) iS.out 1 rfl;have f2:=af iS.out 2;have r2:=ae (v:=.slice none 0 0) iS.out 2 rfl;have f3:=af iS.out 3;have r3:=ae (v:=.bool false) iS.out 3 rfl;have f4:=af iS.out 4;have r4:=ae (v:=.slice none 0 0) iS.out 4 rfl;go_wp2_with fail
  have hg:W.grownBy (((((W.setCell ⟨kr,0,none⟩ (.int .i64 0)).setCell ⟨kr,1,none⟩ (.bool false)).setCell ⟨kr,2,none⟩ (.slice none 0 0)).setCell ⟨kr,3,none⟩ (.bool false)).setCell ⟨kr,4,none⟩ (.slice none 0 0)) (some kr):=aY _ _ _ _ _;have hs:=fj iS.out (.int .i64 0) (.bool false) (.slice none 0 0) (.bool false) (.slice none 0 0);obtain⟨W5,Pz⟩:∃ q,q=((((W.setCell ⟨kr,0,none⟩ (.int .i64 0)).setCell ⟨kr,1,none⟩ (.bool false)).setCell ⟨kr,2,none⟩ (.slice none 0 0)).setCell ⟨kr,3,none⟩ (.bool false)).setCell ⟨kr,4,none⟩ (.slice none 0 0):=⟨_,rfl⟩
  rw[<-Pz] at hg hs ⊢;have Ji:=(hg.block D (ag Ls.out) (fun e=>by injection e with e;have:=qC.out.1;have:=HD.out;omega)).trans Ls.out;refine⟨by simp,.inl ⟨_,_,rfl,run_takeDeferred Ji,?_⟩⟩;have hp:aC w.heap.size w (W5.putObj D (.deferred none)):=(aS (HW.out.trans (HI.out.mono HW.out.size)) hg Qv.out).trans (pG (aq HW.out.size HD.out) Ji)
  have J7:(W5.putObj D (.deferred none)).heap[kr]?=some (.cells #[.int .i64 0,.bool false,.slice none 0 0,.bool false,.slice none 0 0] 41 (0,0)):=by
   rw[World.putObj_heap_other (by have:=qC.out.1;have:=HD.out;omega)];exact hs
  obtain⟨⟨q0,q1,q2,q3,q4⟩,-⟩:=aV J7;exact⟨.agg #[.int .i64 0,.bool false,.slice none 0 0,.bool false,.slice none 0 0],by simp[results,Tryz.results191,go_sem,q0,q1,q2,q3,q4],_,rfl,by rw[show G_ (a_ (jo us) nm) b=V.I 0 from by unfold G_;rw[Oa.out];split<;>rfl];exact⟨v0,rfl,rfl,Oj _⟩,(by first | exact hp | (rw[<-Le];exact hp))⟩
 case stop =>
  rintro D c pre W hD ⟨m,hm,hmn⟩ ⟨pre',x,rfl,h2,h3,h4,h6,h5⟩ MH
  obtain⟨k,hk,J4,hlk⟩:∃ k,∃ (hk:k<us.length),x.2=us[k]/\∀ p ∈ us.drop (k+1),p.nm≠nm:=by
   rw[dN] at hm
   have hml:m<us.length:=by
    have:=congrArg List.length hm
    simp at this;omega
   rw[wN us m hml] at hm;have EZ:=List.append_inj' hm rfl;refine⟨m,hml,by simpa using EZ.2,fun p hp=>?_⟩;have K7:p ∈ (us.drop (m+1)).reverse:=by simpa using hp
   rw[<-EZ.1] at K7;obtain⟨q,hq1,rfl⟩:=List.mem_map.1 K7;exact h2 q hq1
  have L6:a_ (jo us) nm=x.2.u.x:=by
   rw[GW (k:=k) (by unfold jo;simpa using hk) (by unfold jo;simp only[nX];rw[<-J4];exact h3) (fun p hp=>by
    unfold jo at hp;rw[<-List.map_drop] at hp;obtain⟨q,hq,rfl⟩:=List.mem_map.1 hp
    exact hlk q hq)]
   unfold jo;simp only[nX];rw[<-J4]
  obtain⟨_,_,_,_,_,hcs⟩:=lI U2.out;obtain⟨_,_,_,_,_,_,_,_,I0⟩:=hcs k hk;rw[<-J4] at I0;have J5:=I0.sort;have KT:=aa I0;have Oa:=aa L6;have HI:=aa h4;have Ls:=aa MH;have HD:=aa hD;have H6:=aa h6;clear I0 L6 h4 MH hD h6 hcs J4 hlk hm hmn h2;rcases h5 with ⟨rfl,hkb,bP⟩ | ⟨rfl,hkb,bP⟩
  ·refine (wpIn_wide (n:=9)).2 ?_;go_wp2_with fail
   have Ji:=Ls.out;refine⟨by simp,.inl ⟨_,_,rfl,run_takeDeferred Ji,?_⟩⟩;have hp:aC w.heap.size w (W.putObj D (.deferred none)):=HI.out.trans (pG (aq HW.out.size HD.out) Ji);have J7:(W.putObj D (.deferred none)).heap[kr]?=_:=(World.putObj_heap_other (by have:=qC.out.1;have:=HD.out;omega)).trans bP;obtain⟨⟨q0,q1,q2,q3,q4⟩,-⟩:=aV J7;refine⟨vV x.2.u,by simp[results,Tryz.results191,go_sem,q0,q1,q2,q3,q4,vV],_,rfl,⟨x.2.u,rfl,?_,?_⟩,(by first | exact hp | (rw[<-Le];exact hp))⟩
   ·rw[Oa.out];unfold G_;rw[if_pos (by rw[<-J5];exact hkb)]
   exact KT.out.below hp
  refine (wpIn_wide (n:=9)).2 ?_;have iS:=aa bP;have hnb:fu x.2.u.x≠b:=by rw[<-J5];exact hkb
  have Ob:=aa hnb;clear bP hkb J5 hnb h3;have f0:=af iS.out 0;have r0:=ae (v:=.int .i64 0) iS.out 0 rfl;have f1:=af iS.out 1;have r1:=ae (v:=.bool false) iS.out 1 rfl;have f2:=af iS.out 2;have r2:=ae (v:=.slice none 0 0) iS.out 2 rfl;have f3:=af iS.out 3;have r3:=ae (v:=.bool false) iS.out 3 rfl;have f4:=af iS.out 4;have r4:=ae (v:=.slice none 0 0) iS.out 4 rfl;go_wp2_with fail
  have hg:W.grownBy (((((W.setCell ⟨kr,0,none⟩ (.int .i64 0)).setCell ⟨kr,1,none⟩ (.bool false)).setCell ⟨kr,2,none⟩ (.slice none 0 0)).setCell ⟨kr,3,none⟩ (.bool false)).setCell ⟨kr,4,none⟩ (.slice none 0 0)) (some kr):=aY _ _ _ _ _;have hs:=fj iS.out (.int .i64 0) (.bool false) (.slice none 0 0) (.bool false) (.slice none 0 0);obtain⟨W5,Pz⟩:∃ q,q=((((W.setCell ⟨kr,0,none⟩ (.int .i64 0)).setCell ⟨kr,1,none⟩ (.bool false)).setCell ⟨kr,2,none⟩ (.slice none 0 0)).setCell ⟨kr,3,none⟩ (.bool false)).setCell ⟨kr,4,none⟩ (.slice none 0 0):=⟨_,rfl⟩
  rw[<-Pz] at hg hs ⊢;have Ji:=(hg.block D (ag Ls.out) (fun e=>by injection e with e;have:=qC.out.1;have:=HD.out;omega)).trans Ls.out;refine⟨by simp,.inl ⟨_,_,rfl,run_takeDeferred Ji,?_⟩⟩;have hp:aC w.heap.size w (W5.putObj D (.deferred none)):=(aS (HI.out) hg Qv.out).trans (pG (aq HW.out.size HD.out) Ji)
  have J7:(W5.putObj D (.deferred none)).heap[kr]?=some (.cells #[.int .i64 0,.bool false,.slice none 0 0,.bool false,.slice none 0 0] 41 (0,0)):=by
   rw[World.putObj_heap_other (by have:=qC.out.1;have:=HD.out;omega)];exact hs
  obtain⟨⟨q0,q1,q2,q3,q4⟩,-⟩:=aV J7;exact⟨.agg #[.int .i64 0,.bool false,.slice none 0 0,.bool false,.slice none 0 0],by simp[results,Tryz.results191,go_sem,q0,q1,q2,q3,q4],_,rfl,by rw[show G_ (a_ (jo us) nm) b=V.I 0 from by unfold G_;rw[Oa.out,if_neg Ob.out]];exact⟨v0,rfl,rfl,Oj _⟩,(by first | exact hp | (rw[<-Le];exact hp))⟩
end Go.Proofs.YtoncclhbdkjhmaaGreatDoor
namespace Go.Proofs.YtoncclhbdkjhmaaGreatDoor
open Go.RowKit
set_option maxRecDepth 100000
set_option linter.unusedVariables false
set_option linter.unusedSimpArgs false
def Dy (d:Nat):Prop:=∀ (ve v:ay) (env:List (ByteArray × V)) (t:F) (S:Nat->Prop) (w:an),FC w S d v t->EL w ve env->rt t=true->jh t.op=0->Sm (a_ env) t ->
 bf ax 164 #[ve,v] w fun e w'=>∃ x,e=.returned x/\CI w' x (fM (ev (a_ env) t)) 600/\aC w.heap.size w w'
def FJ (d:Nat):Prop:=∀ (ve v:ay) (env:List (ByteArray × V)) (t:F) (S:Nat->Prop) (w:an),FC w S d v t->EL w ve env->rt t=true->jh t.op=2->Sm (a_ env) t ->
 bf ax 163 #[ve,v] w fun e w'=>∃ x,e=.returned x/\NL w' x (mB (ev (a_ env) t))/\aC w.heap.size w w'
def FI (d:Nat):Prop:=∀ (ve v:ay) (env:List (ByteArray × V)) (t:F) (S:Nat->Prop) (w:an),FC w S d v t->EL w ve env->rt t=true->jh t.op=1->Sm (a_ env) t ->
 bf ax 162 #[ve,v] w fun e w'=>e=.returned (.bool (gX (ev (a_ env) t)))/\aC w.heap.size w w'
def KO (d:Nat):Prop:=∀ (ve v:ay) (env:List (ByteArray × V)) (t:F) (S:Nat->Prop) (w:an),FC w S d v t->EL w ve env->rt t=true->Sm (a_ env) t ->
 bf ax 114 #[ve,v] w fun e w'=>∃ x,e=.returned x/\VC w' x (ev (a_ env) t)/\aC w.heap.size w w'
theorem jn (k:Int) (b:Bool) (o:Option cH) (l c:Nat) (d:Bool) (p:Option cH) (m q:Nat) (w:an) :
  (lA 41 (.agg #[.int .i64 k,.bool b,.slice o l c,.bool d,.slice p m q]) 0).run ax w=.ok (.int .i64 k) w:=by
 unfold lA;simp[go_sem,asAgg]
theorem jm (k:Int) (b:Bool) (o:Option cH) (l c:Nat) (d:Bool) (p:Option cH) (m q:Nat) (w:an) :
  (lA 41 (.agg #[.int .i64 k,.bool b,.slice o l c,.bool d,.slice p m q]) 1).run ax w=.ok (.agg #[.bool b,.slice o l c]) w:=by
 unfold lA;simp[go_sem,asAgg]
theorem jl (k:Int) (b:Bool) (o:Option cH) (l c:Nat) (d:Bool) (p:Option cH) (m q:Nat) (w:an) :
  (lA 41 (.agg #[.int .i64 k,.bool b,.slice o l c,.bool d,.slice p m q]) 2).run ax w=.ok (.bool d) w:=by
 unfold lA;simp[go_sem,asAgg]
theorem jk (k:Int) (b:Bool) (o:Option cH) (l c:Nat) (d:Bool) (p:Option cH) (m q:Nat) (w:an) :
  (lA 41 (.agg #[.int .i64 k,.bool b,.slice o l c,.bool d,.slice p m q]) 3).run ax w=.ok (.slice p m q) w:=by
 unfold lA;simp[go_sem,asAgg]
theorem CI.tight {w:an} {v:ay} {z:Int} {k:Nat} (h:CI w v z k) (hz:z.natAbs<aH ^ 600):CI w v z 600:=by
 obtain⟨va,h1,h2,_⟩:=h;exact⟨va,h1,h2,hz⟩
theorem EL.shape {w:an} {v:ay} {env:List (ByteArray × V)} (h:EL w v env):∃ eo en ec,v=.slice eo en ec:=by
 obtain⟨us,⟨ko,kc,rfl,-⟩,-⟩:=h;exact⟨_,_,_,rfl⟩
theorem Ta (x:V):G_ x 0=.I (fM x):=by cases x<;>rfl
theorem VC.S_ {w:an} {v:ay} {x:V} (h:VC w v (G_ x 1)):∃ k b o l c p m q,v=.agg #[.int .i64 k,.bool b,.slice o l c,.bool (gX x),.slice p m q]:=by
 cases x with
 | I z=>obtain⟨o,l,c,rfl,-⟩:=VC.int (z:=0) h;exact⟨_,_,_,_,_,_,_,_,rfl⟩
 | B b=>have:=VC.bool (b:=b) h;subst this;exact⟨_,_,_,_,_,_,_,_,rfl⟩
 | L l=>obtain⟨o,l',c,rfl,-⟩:=VC.int (z:=0) h;exact⟨_,_,_,_,_,_,_,_,rfl⟩
theorem NL.nil (w:an):NL w (.slice none 0 0) []:=⟨[],El.At.nil w,rfl⟩
theorem VC.S9 {w:an} {v:ay} {x:V} (h:VC w v (G_ x 2)):∃ k b o l c d p m q,v=.agg #[.int .i64 k,.bool b,.slice o l c,.bool d,.slice p m q]/\NL w (.slice p m q) (mB x):=by
 cases x with
 | I z=>obtain⟨o,l,c,rfl,-⟩:=VC.int (z:=0) h;exact⟨_,_,_,_,_,_,_,_,_,rfl,NL.nil w⟩
 | B b=>obtain⟨o,l,c,rfl,-⟩:=VC.int (z:=0) h;exact⟨_,_,_,_,_,_,_,_,_,rfl,NL.nil w⟩
 | L l=>obtain⟨o,l',c,rfl,hn⟩:=VC.list (zs:=l) h;exact⟨_,_,_,_,_,_,_,_,_,rfl,hn⟩
theorem iA {o z:Int} {nm:ByteArray} {ks:List F} (h:rt (.node o z nm ks)=true):cO o z (fP ks)=true/\∀ f ∈ ks,rt f=true:=by
 rw[rt,Bool.and_eq_true,pF,List.all_eq_true] at h;exact h
theorem zR {ks:List F} (h:fP ks=[]):ks=[]:=by
 unfold fP at h;simpa using h
theorem i_ {ks:List F} {s:Int} (h:fP ks=[s]):∃ p,ks=[p]/\jh p.op=s:=by
 unfold fP at h
 match ks,h with
 | [p],h=>exact⟨p,rfl,by simpa using h⟩
 | [],h=>simp at h
 | _::_::_,h=>simp at h
theorem iZ {ks:List F} {s r:Int} (h:fP ks=[s,r]):∃ p q,ks=[p,q]/\jh p.op=s/\jh q.op=r:=by
 unfold fP at h
 match ks,h with
 | [p,q],h=>exact⟨p,q,rfl,by simpa using h⟩
 | [],h=>simp at h
 | [_],h=>simp at h
 | _::_::_::_,h=>simp at h
theorem jO {o z:Int} {ss:List Int} (h:cO o z ss=true):0<=o/\o<=20:=by
 rcases zY o with h1 | h1
 ·omega
 exfalso
 unfold cO bB at h;rw[if_neg (by omega),if_neg (by omega),if_neg (by omega),if_neg (by omega),if_neg (by omega),if_neg (by omega),if_neg (by omega),if_neg (by omega),if_neg (by omega)] at h
 simp at h
def sC (w:an) (p:cH) (o:Int) (b:Bool) (ao:Option cH) (l c:Nat) (nm:ByteArray) (ko:Option cH) (kl kc:Nat):Prop:=
 w.cell? p=some (.int .i64 o)/\w.cell? ⟨p.block,p.off+1,none⟩=some (.bool b)/\w.cell? ⟨p.block,p.off+2,none⟩=some (.slice ao l c)/\w.cell? ⟨p.block,p.off+3,none⟩=some (.string nm)/\w.cell? ⟨p.block,p.off+4,none⟩=some (.slice ko kl kc)
theorem sC.below {w w':an} {p:cH} {o:Int} {b:Bool} {ao:Option cH} {l c:Nat} {nm:ByteArray} {ko:Option cH} {kl kc:Nat} (h:sC w p o b ao l c nm ko kl kc) (hb:aC w.heap.size w w'):sC w' p o b ao l c nm ko kl kc:=by
 obtain⟨h0,h1,h2,h3,h4⟩:=h;have key:∀ q v,w.cell? q=some v->w'.cell? q=some v:=fun q v h=>by rw[hb.cell (bW w _ h)];exact h
 exact⟨key _ _ h0,key _ _ h1,key _ _ h2,key _ _ h3,key _ _ h4⟩
theorem FL.first {w:an} {S:Nat->Prop} {d:Nat} {ko:Option cH} {n kc:Nat} {p:F} {l:List F} (h:FL w S d (.slice ko n kc) (p::l)):∃ (a:cH) (b:Bool) (o:Option cH) (l c:Nat) (po:Option cH) (pl pc:Nat),ko=some a /\
  (w.cell? a=some (.int .i64 p.op)/\w.cell? ⟨a.block,a.off+1,none⟩=some (.bool b)/\w.cell? ⟨a.block,a.off+2,none⟩=some (.slice o l c) /\
   w.cell? ⟨a.block,a.off+3,none⟩=some (.string p.name)/\w.cell? ⟨a.block,a.off+4,none⟩=some (.slice po pl pc)) /\
  FC w S d (.agg #[.int .i64 p.op,.bool b,.slice o l c,.string p.name,.slice po pl pc]) p:=by
 have:=h.cells 0 (by simp)
 simpa [Addr.add] using this
theorem FL.second {w:an} {S:Nat->Prop} {d:Nat} {ko:Option cH} {n kc:Nat} {p q:F} {l:List F} (h:FL w S d (.slice ko n kc) (p::q::l)):∃ (a:cH) (b:Bool) (o:Option cH) (l c:Nat) (po:Option cH) (pl pc:Nat),ko=some a /\
  (w.cell? ⟨a.block,a.off+5,none⟩=some (.int .i64 q.op)/\w.cell? ⟨a.block,a.off+5+1,none⟩=some (.bool b)/\w.cell? ⟨a.block,a.off+5+2,none⟩=some (.slice o l c) /\
   w.cell? ⟨a.block,a.off+5+3,none⟩=some (.string q.name)/\w.cell? ⟨a.block,a.off+5+4,none⟩=some (.slice po pl pc)) /\
  FC w S d (.agg #[.int .i64 q.op,.bool b,.slice o l c,.string q.name,.slice po pl pc]) q:=by
 have:=h.cells 1 (by simp)
 simpa [Addr.add] using this
attribute [local go_sem] jn jm jl jk
theorem Ev (d:Nat) (IN:Dy d) (IL:FJ d):Dy (d+1):=by
 intro ve v env t S w h he hr hs dF;obtain⟨b,ao,l,c,ko,kl,kc,rfl,⟨-,hz,eR,hkc,hkm⟩,-,hk⟩:=h.open;obtain⟨o,z,nm,ks⟩:=t;simp only[F.op,F.num,F.name,F.kids] at hz hk eR hs ⊢;rw[show d+1 - 1=d from rfl] at hk;obtain⟨hfit,fy⟩:=iA hr
 have ho:o=0\/o=1\/o=2\/o=3\/o=4\/o=5\/o=6\/o=7:=by
  have:=jO hfit;unfold jh at hs
  split at hs
  ·omega
  split at hs
  ·omega
  omega
 obtain⟨eo,en,ec,rfl⟩:=he.shape;have vA:kc<=9223372036854775807:=hkm;have hval:=dF.val;clear h hr hs hkm;rcases ho with rfl | rfl | rfl | rfl | rfl | rfl | rfl | rfl
 ·have HX:=aa hk;have HZ:=aa hz;have HE:=aa he;have rN:=aa dF;have vR:=aa fy;have HW:=aa (av w.heap.size w);have cC:=aa eR;clear eR hkc;clear hz hk he dF fy hval hfit;go_enter kE,jF
  obtain⟨x1,kf,ef,hO,aR,gL,aj⟩:=aL w #[.int .i64 0,.bool b,.slice ao l c,.string nm,.slice ko kl kc] 29;replace HX:=aa (HX.out.below aR.out);replace HZ:=aa (HZ.out.below aR.out);replace HE:=aa (HE.out.below aR.out);replace HW:=aa (HW.out.trans (aR.out.mono HW.out.size));have B5:=gL;obtain⟨x2,kr,er,lZ,bP,gD,aD⟩:=aL x1 #[.bool false,.slice none 0 0] 26;replace aj:=aG bP.out aj;replace HX:=aa (HX.out.below bP.out);replace HZ:=aa (HZ.out.below bP.out);replace HE:=aa (HE.out.below bP.out);replace HW:=aa (HW.out.trans (bP.out.mono HW.out.size));have gp:Hid (w.heap.size<=kr):=aa (aq aR.out.size gD.out);have c0:=ae (v:=.int .i64 0) aj.out 0 rfl;have bM:=af aj.out 0;have c1:=ae (v:=.bool b) aj.out 1 rfl;have bL:=af aj.out 1
  have c2:=ae (v:=.slice ao l c) aj.out 2 rfl;have bK:=af aj.out 2;have c3:=ae (v:=.string nm) aj.out 3 rfl;have bJ:=af aj.out 3;have c4:=ae (v:=.slice ko kl kc) aj.out 4 rfl;have bI:=af aj.out 4;obtain⟨r0,AT,gT,gS⟩:=gw aD.out;go_wp2_with fail
  clear c0 bM c1 bL c2 bK c3 bJ c4 bI;obtain⟨r1,r2⟩:=mM HW.out aD.out jP gp.out (.bool b) (.slice ao l c)
  (try simp only[aE,aM])
  exact aB (v:=.agg #[.bool b,.slice ao l c]) (by simp[results,gE,go_sem,r0,AT]) rfl ⟨_,rfl,(HZ.out).fr r1,r2⟩
 ·have HX:=aa hk;have HZ:=aa hz;have HE:=aa he;have rN:=aa dF;have vR:=aa fy;have HW:=aa (av w.heap.size w);have cC:=aa eR;clear eR hkc;clear hz hk he dF fy hval hfit;go_enter kE,jF
  obtain⟨x1,kf,ef,hO,aR,gL,aj⟩:=aL w #[.int .i64 1,.bool b,.slice ao l c,.string nm,.slice ko kl kc] 29;replace HX:=aa (HX.out.below aR.out);replace HZ:=aa (HZ.out.below aR.out);replace HE:=aa (HE.out.below aR.out);replace HW:=aa (HW.out.trans (aR.out.mono HW.out.size));have B5:=gL;obtain⟨x2,kr,er,lZ,bP,gD,aD⟩:=aL x1 #[.bool false,.slice none 0 0] 26;replace aj:=aG bP.out aj;replace HX:=aa (HX.out.below bP.out);replace HZ:=aa (HZ.out.below bP.out);replace HE:=aa (HE.out.below bP.out);replace HW:=aa (HW.out.trans (bP.out.mono HW.out.size));have gp:Hid (w.heap.size<=kr):=aa (aq aR.out.size gD.out);have c0:=ae (v:=.int .i64 1) aj.out 0 rfl;have bM:=af aj.out 0;have c1:=ae (v:=.bool b) aj.out 1 rfl;have bL:=af aj.out 1
  have c2:=ae (v:=.slice ao l c) aj.out 2 rfl;have bK:=af aj.out 2;have c3:=ae (v:=.string nm) aj.out 3 rfl;have bJ:=af aj.out 3;have c4:=ae (v:=.slice ko kl kc) aj.out 4 rfl;have bI:=af aj.out 4;go_wp2_with fail
  refine (wA _ env nm 0 x2 HE.out).mono ?_;rintro e x3 ⟨v,rfl,hv,hb⟩;clear c0 bM c1 bL c2 bK c3 bJ c4 bI;replace aj:=aG hb aj;replace aD:=aG hb aD;replace HX:=aa (HX.out.below hb);replace HZ:=aa (HZ.out.below hb);replace HE:=aa (HE.out.below hb);replace HW:=aa (HW.out.trans (hb.mono HW.out.size));rw[Ta] at hv;obtain⟨o1,l1,c1,rfl,Ig⟩:=hv.int;have HV:=aa Ig;clear hv Ig;obtain⟨r0,AT,gT,gS⟩:=gw aD.out;go_wp2_with fail
  obtain⟨r1,r2⟩:=mM HW.out aD.out jP gp.out (.bool (decide (fM (a_ env nm)<0))) (.slice o1 l1 c1)
  (try simp only[aE,aM])
  exact aB (v:=.agg #[.bool (decide (fM (a_ env nm)<0)),.slice o1 l1 c1]) (by simp[results,gE,go_sem,r0,AT]) rfl ⟨_,rfl,(HV.out).fr r1,r2⟩
 ·have HX:=aa hk;have HZ:=aa hz;have HE:=aa he;have rN:=aa dF;have vR:=aa fy;have HW:=aa (av w.heap.size w);have cC:=aa eR;clear eR hkc;obtain⟨p,q,rfl,hp,hq⟩:=iZ (ks:=ks) (s:=0) (r:=0) (by simpa [cO,bB] using hfit);have nn:=aa (dF.kG p (by simp));have nr:=aa (fy p (by simp));have HP:=aa hp;have wX:=aa (dF.kG q (by simp));have wY:=aa (fy q (by simp));have HQ:=aa hq;have gN:Hid (fM (ev (a_ env) (.node 2 z nm [p,q]))=fM (qJ (a_ env) 2 z nm [ev (a_ env) p,ev (a_ env) q])):=aa (by rw[ev,iH,iH,iH]);have lV:Hid ((fM (qJ (a_ env) 2 z nm [ev (a_ env) p,ev (a_ env) q])).natAbs<aH ^ 600):=aa (by rw[ev,iH,iH,iH] at hval;exact hval);have gW:kl=2:=cC.out;subst gW
  clear hz hk he dF fy hval hfit hp cC hq;go_enter kE,jF
  obtain⟨x1,kf,ef,hO,aR,gL,aj⟩:=aL w #[.int .i64 2,.bool b,.slice ao l c,.string nm,.slice ko 2 kc] 29;replace HX:=aa (HX.out.below aR.out);replace HZ:=aa (HZ.out.below aR.out);replace HE:=aa (HE.out.below aR.out);replace HW:=aa (HW.out.trans (aR.out.mono HW.out.size));have B5:=gL;obtain⟨x2,kr,er,lZ,bP,gD,aD⟩:=aL x1 #[.bool false,.slice none 0 0] 26;replace aj:=aG bP.out aj;replace HX:=aa (HX.out.below bP.out);replace HZ:=aa (HZ.out.below bP.out);replace HE:=aa (HE.out.below bP.out);replace HW:=aa (HW.out.trans (bP.out.mono HW.out.size));have gp:Hid (w.heap.size<=kr):=aa (aq aR.out.size gD.out);have c0:=ae (v:=.int .i64 2) aj.out 0 rfl;have bM:=af aj.out 0;have c1:=ae (v:=.bool b) aj.out 1 rfl;have bL:=af aj.out 1
  have c2:=ae (v:=.slice ao l c) aj.out 2 rfl;have bK:=af aj.out 2;have c3:=ae (v:=.string nm) aj.out 3 rfl;have bJ:=af aj.out 3;have c4:=ae (v:=.slice ko 2 kc) aj.out 4 rfl;have bI:=af aj.out 4;obtain⟨a,bp,op,lp,cp,pP,pQ,pR,gV,⟨p0,p1,p2,p3,p4⟩,fB⟩:=HX.out.first;have cg:=aa fB;clear fB;obtain⟨pI,dH⟩:∃ x,x=p.op:=⟨_,rfl⟩
  obtain⟨pL,dI⟩:∃ x,x=p.name:=⟨_,rfl⟩
  rw[<-dH] at p0 cg;rw[<-dI] at p3 cg;clear dH dI;obtain⟨a2,bq,oq,lq,cq,vt,vu,vv,ou,⟨q0,q1,q2,q3,q4⟩,jd⟩:=HX.out.second;have fW:=aa jd;clear jd;obtain⟨vJ,js⟩:∃ x,x=q.op:=⟨_,rfl⟩
  obtain⟨vK,jt⟩:∃ x,x=q.name:=⟨_,rfl⟩
  rw[<-js] at q0 fW;rw[<-jt] at q3 fW;clear js jt;have gM:Hid (sC x2 ⟨a2.block,a2.off+5,none⟩ vJ bq oq lq cq vK vt vu vv):=aa ⟨q0,q1,q2,q3,q4⟩;subst gV;injection ou with tA;subst tA;go_wp2_with fail
  refine (IN _ _ env p S x2 cg.out HE.out nr.out HP.out nn.out).mono ?_;rintro e x3 ⟨x,rfl,hx,hb⟩;clear c0 bM c1 bL c2 bK c3 bJ c4 bI p0 p1 p2 p3 p4 q0 q1 q2 q3 q4;replace aj:=aG hb aj;replace aD:=aG hb aD;replace HX:=aa (HX.out.below hb);replace HZ:=aa (HZ.out.below hb);replace HE:=aa (HE.out.below hb);replace HW:=aa (HW.out.trans (hb.mono HW.out.size));replace cg:=aa (cg.out.below hb);replace fW:=aa (fW.out.below hb);replace gM:=aa (gM.out.below hb);obtain⟨X,hX⟩:∃ X,X=fM (ev (a_ env) p):=⟨_,rfl⟩
  rw[<-hX] at hx;have Iv:=aa hX;clear hX;obtain⟨bx,ox,lx,cx,rfl⟩:=hx.shape;have uE:=aa hx;clear hx cg;obtain⟨x4,ka,ea,AX,hba,hka,bk⟩:=aL x3 #[.bool bx,.slice ox lx cx] 26;replace aj:=aG hba.out aj;replace aD:=aG hba.out aD;replace HX:=aa (HX.out.below hba.out);replace HZ:=aa (HZ.out.below hba.out);replace HE:=aa (HE.out.below hba.out);replace HW:=aa (HW.out.trans (hba.out.mono HW.out.size));replace fW:=aa (fW.out.below hba.out);replace gM:=aa (gM.out.below hba.out);replace uE:=aa (uE.out.below hba.out);have c0:=ae (v:=.int .i64 2) aj.out 0 rfl;have bM:=af aj.out 0;have c1:=ae (v:=.bool b) aj.out 1 rfl;have bL:=af aj.out 1;have c2:=ae (v:=.slice ao l c) aj.out 2 rfl;have bK:=af aj.out 2
  have c3:=ae (v:=.string nm) aj.out 3 rfl;have bJ:=af aj.out 3;have c4:=ae (v:=.slice (some a) 2 kc) aj.out 4 rfl;have bI:=af aj.out 4;have d0:=ae (v:=.bool bx) bk.out 0 rfl;have rB:=af bk.out 0;have d1:=ae (v:=.slice ox lx cx) bk.out 1 rfl;have xp:=af bk.out 1;go_upto_region 22 with fail
  clear c0 bM c1 bL c2 bK c3 bJ c4 bI d0 rB d1 xp;have cK:=ag aj.out;have oZ:=ag bk.out;have fK:Hid (∀ q,q<0->(fun q=>0) q<x4.heap.size):=aa (fun q h=>absurd h (ah _));refine R7.region (by kernel_rfl) [[],[],[],[2],[2,3],[2,3,4],[1,2,3,4,5],[0,1,2,3,4,5,6],[0,1,2,3,4,5,6,7]] [] [] (fun q=>0) 0 8 (by kernel_rfl) (by kernel_rfl) (by rfl) fK.out (fun q q' h h' hn=>absurd hn (by omega)) ?_;refine R7.az.bT ?_ (by rfl) (fun T xs wr hA=>?_) ?_
  rotate_left 1
  ·have e6:=hA.pre 6 (by kernel_rfl);simp only[eY,fD,fm] at e6;have aP:wr.heap[ka]?=_:=(hA.bl _ oZ (fun q h=>absurd h (ah _))).trans bk.out;have q0:=ae (v:=.bool bx) aP 0 rfl;have q1:=ae (v:=.slice ox lx cx) aP 1 rfl;clear aP;clear hA;refine⟨(by rfl),?_⟩;go_simp<;>(try with_reducible rfl)
  refine R7.az.bT ?_ (by rfl) (fun T xs wr hA=>?_) ?_
  rotate_left 1
  ·have e0:=hA.pre 0 (by kernel_rfl);simp only[eY,fm] at e0;clear hA;refine⟨(by rfl),?_⟩;go_simp<;>(try with_reducible rfl)
  refine R7.az.bT ?_ (by rfl) (fun T xs wr hA=>?_) ?_
  rotate_left 1
  ·have e3:=hA.pre 3 (by kernel_rfl);simp only[eY,fD,fm] at e3;clear hA;refine⟨(by rfl),?_⟩;go_simp<;>(try with_reducible rfl)
  refine R7.az.bT ?_ (by rfl) (fun T xs wr hA=>?_) ?_
  rotate_left 1
  ·have Uw:=hA.tm 2 85 (by rfl) (by rfl);have f85:xs 2=_:=hA.fa 2 (by rfl)
   (try simp (disch:=first | rfl | decide) only [R7.ai] at f85)
   rw[f85] at Uw;clear f85;have aP:wr.heap[kf]?=_:=(hA.bl _ cK (fun q h=>absurd h (ah _))).trans aj.out;have q0:=ae (v:=.int .i64 2) aP 0 rfl;have q1:=ae (v:=.bool b) aP 1 rfl;have q2:=ae (v:=.slice ao l c) aP 2 rfl;have q3:=ae (v:=.string nm) aP 3 rfl;have q4:=ae (v:=.slice (some a) 2 kc) aP 4 rfl;clear aP;clear hA;refine⟨(by rfl),?_⟩;go_simp<;>(try with_reducible rfl)
  refine R7.az.bT ?_ (by rfl) (fun T xs wr hA=>?_) ?_
  rotate_left 1
  ·have Uv:=hA.tm 3 86 (by rfl) (by rfl);have f86:xs 3=_:=hA.fa 3 (by rfl)
   (try simp (disch:=first | rfl | decide) only [R7.ai] at f86)
   rw[f86] at Uv;clear f86;clear hA;refine⟨(by rfl),?_⟩;go_simp<;>(try with_reducible rfl)
  refine R7.az.bT ?_ (by rfl) (fun T xs wr hA=>?_) ?_
  rotate_left 1
  ·have Uu:=hA.tm 4 87 (by rfl) (by rfl);have f87:xs 4=_:=hA.fa 4 (by rfl)
   (try simp (disch:=first | rfl | decide) only [R7.ai] at f87)
   rw[f87] at Uu;clear f87;have dK:=aT (hA.be x4.heap.size (ak _) (fun q h=>absurd h (ah q)));obtain⟨q0,q1,q2,q3,q4⟩:=gM.out.below dK;simp only at q0 q1 q2 q3 q4;clear hA;refine⟨(by rfl),?_⟩;go_simp<;>(try with_reducible rfl)
  refine R7.az.call (fun xs v w=>∃ y,v=y/\CI w y (fM (ev (a_ env) q)) 600) (fun _ _ _ _ h hb=>by obtain⟨y,h1,h2⟩:=h;exact⟨y,h1,h2.below hb⟩) (fun _ _ _ _ _ _ h _=>by obtain⟨q,hq,_⟩:=h;exact absurd hq (ah _)) (by rfl) (fun T xs wr hA=>?_) ?_
  ·have ki:=(hA.be 0 (au _) (fun _ _=>au _)).size;have Ux:=hA.tm 1 84 (by rfl) (by rfl);have f84:xs 1=_:=hA.fa 1 (by rfl)
   (try simp (disch:=first | rfl | decide) only [R7.ai] at f84)
   rw[f84] at Ux;clear f84;have Ut:=hA.tm 5 88 (by rfl) (by rfl);have f88:xs 5=_:=hA.fa 5 (by rfl)
   (try simp (disch:=first | rfl | decide) only [R7.ai] at f88)
   rw[f88] at Ut;clear f88;have dK:=aT (hA.be x4.heap.size (ak _) (fun q h=>absurd h (ah q)));have jd:=fW.out.below dK;clear hA;refine⟨(by rfl),fun K hK=>?_⟩;go_simp
   refine (IN _ _ env q S _ jd (HE.out.below dK) wY.out HQ.out wX.out).mono ?_;rintro e w' ⟨y,rfl,hy,hb'⟩;exact hK.out _ _ ⟨y,rfl,hy⟩ hb'
  refine R7.az.call (fun xs v w=>∃ y,v=y/\CI w y (fM (qJ (a_ env) 2 z nm [ev (a_ env) p,ev (a_ env) q])) 600) (fun _ _ _ _ h hb=>by obtain⟨y,h1,h2⟩:=h;exact⟨y,h1,h2.below hb⟩) (fun _ _ _ _ _ _ h _=>by obtain⟨q,hq,_⟩:=h;exact absurd hq (ah _)) (by rfl) (fun T xs wr hA=>?_) ?_
  ·have ki:=(hA.be 0 (au _) (fun _ _=>au _)).size;have Uy:=hA.tm 0 83 (by rfl) (by rfl);have f83:xs 0=_:=hA.fa 0 (by rfl)
   (try simp (disch:=first | rfl | decide) only [R7.ai] at f83)
   rw[f83] at Uy;clear f83;have WJ:=hA.tm 6 89 (by rfl) (by rfl);have dK:=aT (hA.be x4.heap.size (ak _) (fun q h=>absurd h (ah q)));have PC:∃ y,(xs 6)=y/\CI wr y (fM (ev (a_ env) q)) 600:=hA.fa 6 (by rfl);obtain⟨y6,e6,LQ⟩:=PC;have OS:=uE.out.below dK;clear hA;refine⟨(by rfl),fun K hK=>?_⟩;go_simp
   refine (sU _ _ X (fM (ev (a_ env) q)) 600 600 _ OS.gi (by first | exact LQ.gi | (rw[e6];exact LQ.gi)) (by decide) (by decide)).mono ?_;rintro e w' ⟨y,rfl,hy,hb'⟩;exact hK.out _ _ ⟨y,rfl,CI.tight (by show CI _ _ (fM (ev (a_ env) p)+fM (ev (a_ env) q)) _;rw[<-Iv.out];exact hy) lV.out⟩ hb'
  refine R7.az.done (fun xs x5 hL=>?_);obtain⟨⟨ei,cG⟩,hf,-,-⟩:=hL;have f0:xs 0=_:=hf 0 (by decide)
  (try simp (disch:=first | rfl | decide) only [R7.ai] at f0)
  have f1:xs 1=_:=hf 1 (by decide)
  (try simp (disch:=first | rfl | decide) only [R7.ai] at f1)
  have f2:xs 2=_:=hf 2 (by decide)
  (try simp (disch:=first | rfl | decide) only [R7.ai] at f2)
  have f3:xs 3=_:=hf 3 (by decide)
  (try simp (disch:=first | rfl | decide) only [R7.ai] at f3)
  have f4:xs 4=_:=hf 4 (by decide)
  (try simp (disch:=first | rfl | decide) only [R7.ai] at f4)
  have f5:xs 5=_:=hf 5 (by decide)
  (try simp (disch:=first | rfl | decide) only [R7.ai] at f5)
  have F6:∃ y,(xs 6)=y/\CI x5 y (fM (ev (a_ env) q)) 600:=hf 6 (by decide);have F7:∃ y,(xs 7)=y/\CI x5 y (fM (qJ (a_ env) 2 z nm [ev (a_ env) p,ev (a_ env) q])) 600:=hf 7 (by decide);have hb0:aC 0 x4 x5:=aT (ei 0 (au _) (fun _ _=>au _));have jR:∀ j,j<x4.heap.size->(∀ q,q<0->(fun q=>0) q≠j)->x5.heap[j]?=x4.heap[j]?:=cG;clear ei cG hf;have hb:aC x4.heap.size x4 x5:=⟨hb0.os,hb0.tape,hb0.output,hb0.size,fun q hq=>jR q hq (fun q h=>absurd h (ah _))⟩
  refine R7.g_ (by decide) (by kernel_rfl) ?_;simp only[R7.fill,Cb,Ca,B_,B9,xz,xy,xx,f0,f1,f2,f3,f4,f5];clear hb0 jR fK cK oZ f0 f1 f2 f3 f4 f5;replace aj:=aG hb aj;replace aD:=aG hb aD;replace bk:=aG hb bk;replace HX:=aa (HX.out.below hb);replace HZ:=aa (HZ.out.below hb);replace HE:=aa (HE.out.below hb);replace HW:=aa (HW.out.trans (hb.mono HW.out.size));replace fW:=aa (fW.out.below hb);replace gM:=aa (gM.out.below hb);replace uE:=aa (uE.out.below hb);replace hb:=aa hb;obtain⟨y,EV,Bq⟩:=F7;obtain⟨b1,o1,l1,c1,hys⟩:=Bq.shape;rw[hys] at EV Bq;have HV:=aa Bq;obtain⟨r0,AT,gT,gS⟩:=gw aD.out;go_wp2_with fail
  obtain⟨r1,r2⟩:=mM HW.out aD.out jP gp.out (.bool b1) (.slice o1 l1 c1)
  (try simp only[aE,aM])
  exact aB (v:=.agg #[.bool b1,.slice o1 l1 c1]) (by simp[results,gE,go_sem,r0,AT]) rfl ⟨_,rfl,((show CI _ _ (fM (ev (a_ env) (.node 2 z nm [p,q]))) 600 from by rw[gN.out];exact HV.out)).fr r1,r2⟩
 ·have HX:=aa hk;have HZ:=aa hz;have HE:=aa he;have rN:=aa dF;have vR:=aa fy;have HW:=aa (av w.heap.size w);have cC:=aa eR;clear eR hkc;obtain⟨p,rfl,hp⟩:=i_ (ks:=ks) (s:=0) (by simpa [cO,bB] using hfit);have nn:=aa (dF.kG p (by simp));have nr:=aa (fy p (by simp));have HP:=aa hp;have gN:Hid (fM (ev (a_ env) (.node 3 z nm [p]))=fM (qJ (a_ env) 3 z nm [ev (a_ env) p])):=aa (by rw[ev,iH,iH]);have lV:Hid ((fM (qJ (a_ env) 3 z nm [ev (a_ env) p])).natAbs<aH ^ 600):=aa (by rw[ev,iH,iH] at hval;exact hval);have gW:kl=1:=cC.out;subst gW;clear hz hk he dF fy hval hfit hp cC;go_enter kE,jF
  obtain⟨x1,kf,ef,hO,aR,gL,aj⟩:=aL w #[.int .i64 3,.bool b,.slice ao l c,.string nm,.slice ko 1 kc] 29;replace HX:=aa (HX.out.below aR.out);replace HZ:=aa (HZ.out.below aR.out);replace HE:=aa (HE.out.below aR.out);replace HW:=aa (HW.out.trans (aR.out.mono HW.out.size));have B5:=gL;obtain⟨x2,kr,er,lZ,bP,gD,aD⟩:=aL x1 #[.bool false,.slice none 0 0] 26;replace aj:=aG bP.out aj;replace HX:=aa (HX.out.below bP.out);replace HZ:=aa (HZ.out.below bP.out);replace HE:=aa (HE.out.below bP.out);replace HW:=aa (HW.out.trans (bP.out.mono HW.out.size));have gp:Hid (w.heap.size<=kr):=aa (aq aR.out.size gD.out);have c0:=ae (v:=.int .i64 3) aj.out 0 rfl;have bM:=af aj.out 0;have c1:=ae (v:=.bool b) aj.out 1 rfl;have bL:=af aj.out 1
  have c2:=ae (v:=.slice ao l c) aj.out 2 rfl;have bK:=af aj.out 2;have c3:=ae (v:=.string nm) aj.out 3 rfl;have bJ:=af aj.out 3;have c4:=ae (v:=.slice ko 1 kc) aj.out 4 rfl;have bI:=af aj.out 4;obtain⟨a,bp,op,lp,cp,pP,pQ,pR,gV,⟨p0,p1,p2,p3,p4⟩,fB⟩:=HX.out.first;have cg:=aa fB;clear fB;obtain⟨pI,dH⟩:∃ x,x=p.op:=⟨_,rfl⟩
  obtain⟨pL,dI⟩:∃ x,x=p.name:=⟨_,rfl⟩
  rw[<-dH] at p0 cg;rw[<-dI] at p3 cg;clear dH dI;subst gV;go_wp2_with fail
  refine (IN _ _ env p S x2 cg.out HE.out nr.out HP.out nn.out).mono ?_;rintro e x3 ⟨x,rfl,hx,hb⟩;clear c0 bM c1 bL c2 bK c3 bJ c4 bI p0 p1 p2 p3 p4;replace aj:=aG hb aj;replace aD:=aG hb aD;replace HX:=aa (HX.out.below hb);replace HZ:=aa (HZ.out.below hb);replace HE:=aa (HE.out.below hb);replace HW:=aa (HW.out.trans (hb.mono HW.out.size));replace cg:=aa (cg.out.below hb);obtain⟨X,hX⟩:∃ X,X=fM (ev (a_ env) p):=⟨_,rfl⟩
  rw[<-hX] at hx;have Iv:=aa hX;clear hX;obtain⟨bx,ox,lx,cx,rfl⟩:=hx.shape;have uE:=aa hx;clear hx cg;obtain⟨x4,ka,ea,AX,hba,hka,bk⟩:=aL x3 #[.bool bx,.slice ox lx cx] 26;replace aj:=aG hba.out aj;replace aD:=aG hba.out aD;replace HX:=aa (HX.out.below hba.out);replace HZ:=aa (HZ.out.below hba.out);replace HE:=aa (HE.out.below hba.out);replace HW:=aa (HW.out.trans (hba.out.mono HW.out.size));replace uE:=aa (uE.out.below hba.out);have c0:=ae (v:=.int .i64 3) aj.out 0 rfl;have bM:=af aj.out 0;have c1:=ae (v:=.bool b) aj.out 1 rfl;have bL:=af aj.out 1;have c2:=ae (v:=.slice ao l c) aj.out 2 rfl;have bK:=af aj.out 2;have c3:=ae (v:=.string nm) aj.out 3 rfl;have bJ:=af aj.out 3
  have c4:=ae (v:=.slice (some a) 1 kc) aj.out 4 rfl;have bI:=af aj.out 4;have d0:=ae (v:=.bool bx) bk.out 0 rfl;have rB:=af bk.out 0;have d1:=ae (v:=.slice ox lx cx) bk.out 1 rfl;have xp:=af bk.out 1;go_wp2_with fail
  refine (sS _ _ z X 600 600 x4 HZ.out.gi uE.out.gi (by decide) (by decide)).mono ?_;rintro e x5 ⟨y,rfl,hy,hb⟩;clear c0 bM c1 bL c2 bK c3 bJ c4 bI d0 rB d1 xp;replace aj:=aG hb aj;replace aD:=aG hb aD;replace bk:=aG hb bk;replace HX:=aa (HX.out.below hb);replace HZ:=aa (HZ.out.below hb);replace HE:=aa (HE.out.below hb);replace HW:=aa (HW.out.trans (hb.mono HW.out.size));replace uE:=aa (uE.out.below hb);obtain⟨b1,o1,l1,c1,rfl⟩:=hy.shape;have HV:=aa (CI.tight (z:=fM (qJ (a_ env) 3 z nm [ev (a_ env) p])) (by show CI _ _ (z*fM (ev (a_ env) p)) _;rw[<-Iv.out];exact hy) lV.out);clear hy;obtain⟨r0,AT,gT,gS⟩:=gw aD.out;go_wp2_with fail
  obtain⟨r1,r2⟩:=mM HW.out aD.out jP gp.out (.bool b1) (.slice o1 l1 c1)
  (try simp only[aE,aM])
  exact aB (v:=.agg #[.bool b1,.slice o1 l1 c1]) (by simp[results,gE,go_sem,r0,AT]) rfl ⟨_,rfl,((show CI _ _ (fM (ev (a_ env) (.node 3 z nm [p]))) 600 from by rw[gN.out];exact HV.out)).fr r1,r2⟩
 ·have HX:=aa hk;have HZ:=aa hz;have HE:=aa he;have rN:=aa dF;have vR:=aa fy;have HW:=aa (av w.heap.size w);have cC:=aa eR;clear eR hkc;obtain⟨p,q,rfl,hp,hq⟩:=iZ (ks:=ks) (s:=0) (r:=0) (by simpa [cO,bB] using hfit);have nn:=aa (dF.kG p (by simp));have nr:=aa (fy p (by simp));have HP:=aa hp;have wX:=aa (dF.kG q (by simp));have wY:=aa (fy q (by simp));have HQ:=aa hq;have gN:Hid (fM (ev (a_ env) (.node 4 z nm [p,q]))=fM (qJ (a_ env) 4 z nm [ev (a_ env) p,ev (a_ env) q])):=aa (by rw[ev,iH,iH,iH]);have lV:Hid ((fM (qJ (a_ env) 4 z nm [ev (a_ env) p,ev (a_ env) q])).natAbs<aH ^ 600):=aa (by rw[ev,iH,iH,iH] at hval;exact hval);have gW:kl=2:=cC.out;subst gW
  clear hz hk he dF fy hval hfit hp cC hq;go_enter kE,jF
  obtain⟨x1,kf,ef,hO,aR,gL,aj⟩:=aL w #[.int .i64 4,.bool b,.slice ao l c,.string nm,.slice ko 2 kc] 29;replace HX:=aa (HX.out.below aR.out);replace HZ:=aa (HZ.out.below aR.out);replace HE:=aa (HE.out.below aR.out);replace HW:=aa (HW.out.trans (aR.out.mono HW.out.size));have B5:=gL;obtain⟨x2,kr,er,lZ,bP,gD,aD⟩:=aL x1 #[.bool false,.slice none 0 0] 26;replace aj:=aG bP.out aj;replace HX:=aa (HX.out.below bP.out);replace HZ:=aa (HZ.out.below bP.out);replace HE:=aa (HE.out.below bP.out);replace HW:=aa (HW.out.trans (bP.out.mono HW.out.size));have gp:Hid (w.heap.size<=kr):=aa (aq aR.out.size gD.out);have c0:=ae (v:=.int .i64 4) aj.out 0 rfl;have bM:=af aj.out 0;have c1:=ae (v:=.bool b) aj.out 1 rfl;have bL:=af aj.out 1
  have c2:=ae (v:=.slice ao l c) aj.out 2 rfl;have bK:=af aj.out 2;have c3:=ae (v:=.string nm) aj.out 3 rfl;have bJ:=af aj.out 3;have c4:=ae (v:=.slice ko 2 kc) aj.out 4 rfl;have bI:=af aj.out 4;obtain⟨a,bp,op,lp,cp,pP,pQ,pR,gV,⟨p0,p1,p2,p3,p4⟩,fB⟩:=HX.out.first;have cg:=aa fB;clear fB;obtain⟨pI,dH⟩:∃ x,x=p.op:=⟨_,rfl⟩
  obtain⟨pL,dI⟩:∃ x,x=p.name:=⟨_,rfl⟩
  rw[<-dH] at p0 cg;rw[<-dI] at p3 cg;clear dH dI;obtain⟨a2,bq,oq,lq,cq,vt,vu,vv,ou,⟨q0,q1,q2,q3,q4⟩,jd⟩:=HX.out.second;have fW:=aa jd;clear jd;obtain⟨vJ,js⟩:∃ x,x=q.op:=⟨_,rfl⟩
  obtain⟨vK,jt⟩:∃ x,x=q.name:=⟨_,rfl⟩
  rw[<-js] at q0 fW;rw[<-jt] at q3 fW;clear js jt;have gM:Hid (sC x2 ⟨a2.block,a2.off+5,none⟩ vJ bq oq lq cq vK vt vu vv):=aa ⟨q0,q1,q2,q3,q4⟩;subst gV;injection ou with tA;subst tA;go_wp2_with fail
  refine (IN _ _ env p S x2 cg.out HE.out nr.out HP.out nn.out).mono ?_;rintro e x3 ⟨x,rfl,hx,hb⟩;clear c0 bM c1 bL c2 bK c3 bJ c4 bI p0 p1 p2 p3 p4 q0 q1 q2 q3 q4;replace aj:=aG hb aj;replace aD:=aG hb aD;replace HX:=aa (HX.out.below hb);replace HZ:=aa (HZ.out.below hb);replace HE:=aa (HE.out.below hb);replace HW:=aa (HW.out.trans (hb.mono HW.out.size));replace cg:=aa (cg.out.below hb);replace fW:=aa (fW.out.below hb);replace gM:=aa (gM.out.below hb);obtain⟨X,hX⟩:∃ X,X=fM (ev (a_ env) p):=⟨_,rfl⟩
  rw[<-hX] at hx;have Iv:=aa hX;clear hX;obtain⟨bx,ox,lx,cx,rfl⟩:=hx.shape;have uE:=aa hx;clear hx cg;obtain⟨x4,ka,ea,AX,hba,hka,bk⟩:=aL x3 #[.bool bx,.slice ox lx cx] 26;replace aj:=aG hba.out aj;replace aD:=aG hba.out aD;replace HX:=aa (HX.out.below hba.out);replace HZ:=aa (HZ.out.below hba.out);replace HE:=aa (HE.out.below hba.out);replace HW:=aa (HW.out.trans (hba.out.mono HW.out.size));replace fW:=aa (fW.out.below hba.out);replace gM:=aa (gM.out.below hba.out);replace uE:=aa (uE.out.below hba.out);have c0:=ae (v:=.int .i64 4) aj.out 0 rfl;have bM:=af aj.out 0;have c1:=ae (v:=.bool b) aj.out 1 rfl;have bL:=af aj.out 1;have c2:=ae (v:=.slice ao l c) aj.out 2 rfl;have bK:=af aj.out 2
  have c3:=ae (v:=.string nm) aj.out 3 rfl;have bJ:=af aj.out 3;have c4:=ae (v:=.slice (some a) 2 kc) aj.out 4 rfl;have bI:=af aj.out 4;have d0:=ae (v:=.bool bx) bk.out 0 rfl;have rB:=af bk.out 0;have d1:=ae (v:=.slice ox lx cx) bk.out 1 rfl;have xp:=af bk.out 1;go_upto_region 21 with fail
  clear c0 bM c1 bL c2 bK c3 bJ c4 bI d0 rB d1 xp;have cK:=ag aj.out;have oZ:=ag bk.out;have fK:Hid (∀ q,q<0->(fun q=>0) q<x4.heap.size):=aa (fun q h=>absurd h (ah _));refine R7.region (by kernel_rfl) [[],[],[],[2],[2,3],[2,3,4],[1,2,3,4,5],[0,1,2,3,4,5,6],[0,1,2,3,4,5,6,7]] [] [] (fun q=>0) 0 8 (by kernel_rfl) (by kernel_rfl) (by rfl) fK.out (fun q q' h h' hn=>absurd hn (by omega)) ?_;refine R7.az.bT ?_ (by rfl) (fun T xs wr hA=>?_) ?_
  rotate_left 1
  ·have e6:=hA.pre 6 (by kernel_rfl);simp only[eY,fD,fm] at e6;have aP:wr.heap[ka]?=_:=(hA.bl _ oZ (fun q h=>absurd h (ah _))).trans bk.out;have q0:=ae (v:=.bool bx) aP 0 rfl;have q1:=ae (v:=.slice ox lx cx) aP 1 rfl;clear aP;clear hA;refine⟨(by rfl),?_⟩;go_simp<;>(try with_reducible rfl)
  refine R7.az.bT ?_ (by rfl) (fun T xs wr hA=>?_) ?_
  rotate_left 1
  ·have e0:=hA.pre 0 (by kernel_rfl);simp only[eY,fm] at e0;clear hA;refine⟨(by rfl),?_⟩;go_simp<;>(try with_reducible rfl)
  refine R7.az.bT ?_ (by rfl) (fun T xs wr hA=>?_) ?_
  rotate_left 1
  ·have e3:=hA.pre 3 (by kernel_rfl);simp only[eY,fD,fm] at e3;clear hA;refine⟨(by rfl),?_⟩;go_simp<;>(try with_reducible rfl)
  refine R7.az.bT ?_ (by rfl) (fun T xs wr hA=>?_) ?_
  rotate_left 1
  ·have UC:=hA.tm 2 77 (by rfl) (by rfl);have f77:xs 2=_:=hA.fa 2 (by rfl)
   (try simp (disch:=first | rfl | decide) only [R7.ai] at f77)
   rw[f77] at UC;clear f77;have aP:wr.heap[kf]?=_:=(hA.bl _ cK (fun q h=>absurd h (ah _))).trans aj.out;have q0:=ae (v:=.int .i64 4) aP 0 rfl;have q1:=ae (v:=.bool b) aP 1 rfl;have q2:=ae (v:=.slice ao l c) aP 2 rfl;have q3:=ae (v:=.string nm) aP 3 rfl;have q4:=ae (v:=.slice (some a) 2 kc) aP 4 rfl;clear aP;clear hA;refine⟨(by rfl),?_⟩;go_simp<;>(try with_reducible rfl)
  refine R7.az.bT ?_ (by rfl) (fun T xs wr hA=>?_) ?_
  rotate_left 1
  ·have UB:=hA.tm 3 78 (by rfl) (by rfl);have f78:xs 3=_:=hA.fa 3 (by rfl)
   (try simp (disch:=first | rfl | decide) only [R7.ai] at f78)
   rw[f78] at UB;clear f78;clear hA;refine⟨(by rfl),?_⟩;go_simp<;>(try with_reducible rfl)
  refine R7.az.bT ?_ (by rfl) (fun T xs wr hA=>?_) ?_
  rotate_left 1
  ·have UA:=hA.tm 4 79 (by rfl) (by rfl);have f79:xs 4=_:=hA.fa 4 (by rfl)
   (try simp (disch:=first | rfl | decide) only [R7.ai] at f79)
   rw[f79] at UA;clear f79;have dK:=aT (hA.be x4.heap.size (ak _) (fun q h=>absurd h (ah q)));obtain⟨q0,q1,q2,q3,q4⟩:=gM.out.below dK;simp only at q0 q1 q2 q3 q4;clear hA;refine⟨(by rfl),?_⟩;go_simp<;>(try with_reducible rfl)
  refine R7.az.call (fun xs v w=>∃ y,v=y/\CI w y (fM (ev (a_ env) q)) 600) (fun _ _ _ _ h hb=>by obtain⟨y,h1,h2⟩:=h;exact⟨y,h1,h2.below hb⟩) (fun _ _ _ _ _ _ h _=>by obtain⟨q,hq,_⟩:=h;exact absurd hq (ah _)) (by rfl) (fun T xs wr hA=>?_) ?_
  ·have ki:=(hA.be 0 (au _) (fun _ _=>au _)).size;have UD:=hA.tm 1 76 (by rfl) (by rfl);have f76:xs 1=_:=hA.fa 1 (by rfl)
   (try simp (disch:=first | rfl | decide) only [R7.ai] at f76)
   rw[f76] at UD;clear f76;have Uz:=hA.tm 5 80 (by rfl) (by rfl);have f80:xs 5=_:=hA.fa 5 (by rfl)
   (try simp (disch:=first | rfl | decide) only [R7.ai] at f80)
   rw[f80] at Uz;clear f80;have dK:=aT (hA.be x4.heap.size (ak _) (fun q h=>absurd h (ah q)));have jd:=fW.out.below dK;clear hA;refine⟨(by rfl),fun K hK=>?_⟩;go_simp
   refine (IN _ _ env q S _ jd (HE.out.below dK) wY.out HQ.out wX.out).mono ?_;rintro e w' ⟨y,rfl,hy,hb'⟩;exact hK.out _ _ ⟨y,rfl,hy⟩ hb'
  refine R7.az.call (fun xs v w=>∃ y,v=y/\CI w y (fM (qJ (a_ env) 4 z nm [ev (a_ env) p,ev (a_ env) q])) 600) (fun _ _ _ _ h hb=>by obtain⟨y,h1,h2⟩:=h;exact⟨y,h1,h2.below hb⟩) (fun _ _ _ _ _ _ h _=>by obtain⟨q,hq,_⟩:=h;exact absurd hq (ah _)) (by rfl) (fun T xs wr hA=>?_) ?_
  ·have ki:=(hA.be 0 (au _) (fun _ _=>au _)).size;have UE:=hA.tm 0 75 (by rfl) (by rfl);have f75:xs 0=_:=hA.fa 0 (by rfl)
   (try simp (disch:=first | rfl | decide) only [R7.ai] at f75)
   rw[f75] at UE;clear f75;have WK:=hA.tm 6 81 (by rfl) (by rfl);have dK:=aT (hA.be x4.heap.size (ak _) (fun q h=>absurd h (ah q)));have PC:∃ y,(xs 6)=y/\CI wr y (fM (ev (a_ env) q)) 600:=hA.fa 6 (by rfl);obtain⟨y6,e6,LQ⟩:=PC;have OS:=uE.out.below dK;clear hA;refine⟨(by rfl),fun K hK=>?_⟩;go_simp
   refine (sS _ _ X (fM (ev (a_ env) q)) 600 600 _ OS.gi (by first | exact LQ.gi | (rw[e6];exact LQ.gi)) (by decide) (by decide)).mono ?_;rintro e w' ⟨y,rfl,hy,hb'⟩;exact hK.out _ _ ⟨y,rfl,CI.tight (by show CI _ _ (fM (ev (a_ env) p)*fM (ev (a_ env) q)) _;rw[<-Iv.out];exact hy) lV.out⟩ hb'
  refine R7.az.done (fun xs x5 hL=>?_);obtain⟨⟨ei,cG⟩,hf,-,-⟩:=hL;have f0:xs 0=_:=hf 0 (by decide)
  (try simp (disch:=first | rfl | decide) only [R7.ai] at f0)
  have f1:xs 1=_:=hf 1 (by decide)
  (try simp (disch:=first | rfl | decide) only [R7.ai] at f1)
  have f2:xs 2=_:=hf 2 (by decide)
  (try simp (disch:=first | rfl | decide) only [R7.ai] at f2)
  have f3:xs 3=_:=hf 3 (by decide)
  (try simp (disch:=first | rfl | decide) only [R7.ai] at f3)
  have f4:xs 4=_:=hf 4 (by decide)
  (try simp (disch:=first | rfl | decide) only [R7.ai] at f4)
  have f5:xs 5=_:=hf 5 (by decide)
  (try simp (disch:=first | rfl | decide) only [R7.ai] at f5)
  have F6:∃ y,(xs 6)=y/\CI x5 y (fM (ev (a_ env) q)) 600:=hf 6 (by decide);have F7:∃ y,(xs 7)=y/\CI x5 y (fM (qJ (a_ env) 4 z nm [ev (a_ env) p,ev (a_ env) q])) 600:=hf 7 (by decide);have hb0:aC 0 x4 x5:=aT (ei 0 (au _) (fun _ _=>au _));have jR:∀ j,j<x4.heap.size->(∀ q,q<0->(fun q=>0) q≠j)->x5.heap[j]?=x4.heap[j]?:=cG;clear ei cG hf;have hb:aC x4.heap.size x4 x5:=⟨hb0.os,hb0.tape,hb0.output,hb0.size,fun q hq=>jR q hq (fun q h=>absurd h (ah _))⟩
  refine R7.g_ (by decide) (by kernel_rfl) ?_;simp only[R7.fill,Cb,Ca,B_,B9,xz,xy,xx,f0,f1,f2,f3,f4,f5];clear hb0 jR fK cK oZ f0 f1 f2 f3 f4 f5;replace aj:=aG hb aj;replace aD:=aG hb aD;replace bk:=aG hb bk;replace HX:=aa (HX.out.below hb);replace HZ:=aa (HZ.out.below hb);replace HE:=aa (HE.out.below hb);replace HW:=aa (HW.out.trans (hb.mono HW.out.size));replace fW:=aa (fW.out.below hb);replace gM:=aa (gM.out.below hb);replace uE:=aa (uE.out.below hb);replace hb:=aa hb;obtain⟨y,EV,Bq⟩:=F7;obtain⟨b1,o1,l1,c1,hys⟩:=Bq.shape;rw[hys] at EV Bq;have HV:=aa Bq;obtain⟨r0,AT,gT,gS⟩:=gw aD.out;go_wp2_with fail
  obtain⟨r1,r2⟩:=mM HW.out aD.out jP gp.out (.bool b1) (.slice o1 l1 c1)
  (try simp only[aE,aM])
  exact aB (v:=.agg #[.bool b1,.slice o1 l1 c1]) (by simp[results,gE,go_sem,r0,AT]) rfl ⟨_,rfl,((show CI _ _ (fM (ev (a_ env) (.node 4 z nm [p,q]))) 600 from by rw[gN.out];exact HV.out)).fr r1,r2⟩
 ·have HX:=aa hk;have HZ:=aa hz;have HE:=aa he;have rN:=aa dF;have vR:=aa fy;have HW:=aa (av w.heap.size w);have cC:=aa eR;clear eR hkc;obtain⟨p,rfl,hp⟩:=i_ (ks:=ks) (s:=0) (by simp[cO,bB] at hfit;exact hfit.1);have nn:=aa (dF.kG p (by simp));have nr:=aa (fy p (by simp));have HP:=aa hp;have gN:Hid (fM (ev (a_ env) (.node 5 z nm [p]))=fM (qJ (a_ env) 5 z nm [ev (a_ env) p])):=aa (by rw[ev,iH,iH]);have lV:Hid ((fM (qJ (a_ env) 5 z nm [ev (a_ env) p])).natAbs<aH ^ 600):=aa (by rw[ev,iH,iH] at hval;exact hval);have Qk:Hid (1<=z):=aa (by simp[cO,bB] at hfit;exact hfit.2);have gW:kl=1:=cC.out;subst gW;clear hz hk he dF fy hval hfit hp cC;go_enter kE,jF
  obtain⟨x1,kf,ef,hO,aR,gL,aj⟩:=aL w #[.int .i64 5,.bool b,.slice ao l c,.string nm,.slice ko 1 kc] 29;replace HX:=aa (HX.out.below aR.out);replace HZ:=aa (HZ.out.below aR.out);replace HE:=aa (HE.out.below aR.out);replace HW:=aa (HW.out.trans (aR.out.mono HW.out.size));have B5:=gL;obtain⟨x2,kr,er,lZ,bP,gD,aD⟩:=aL x1 #[.bool false,.slice none 0 0] 26;replace aj:=aG bP.out aj;replace HX:=aa (HX.out.below bP.out);replace HZ:=aa (HZ.out.below bP.out);replace HE:=aa (HE.out.below bP.out);replace HW:=aa (HW.out.trans (bP.out.mono HW.out.size));have gp:Hid (w.heap.size<=kr):=aa (aq aR.out.size gD.out);have c0:=ae (v:=.int .i64 5) aj.out 0 rfl;have bM:=af aj.out 0;have c1:=ae (v:=.bool b) aj.out 1 rfl;have bL:=af aj.out 1
  have c2:=ae (v:=.slice ao l c) aj.out 2 rfl;have bK:=af aj.out 2;have c3:=ae (v:=.string nm) aj.out 3 rfl;have bJ:=af aj.out 3;have c4:=ae (v:=.slice ko 1 kc) aj.out 4 rfl;have bI:=af aj.out 4;obtain⟨a,bp,op,lp,cp,pP,pQ,pR,gV,⟨p0,p1,p2,p3,p4⟩,fB⟩:=HX.out.first;have cg:=aa fB;clear fB;obtain⟨pI,dH⟩:∃ x,x=p.op:=⟨_,rfl⟩
  obtain⟨pL,dI⟩:∃ x,x=p.name:=⟨_,rfl⟩
  rw[<-dH] at p0 cg;rw[<-dI] at p3 cg;clear dH dI;subst gV;go_wp2_with fail
  refine (IN _ _ env p S x2 cg.out HE.out nr.out HP.out nn.out).mono ?_;rintro e x3 ⟨x,rfl,hx,hb⟩;clear c0 bM c1 bL c2 bK c3 bJ c4 bI p0 p1 p2 p3 p4;replace aj:=aG hb aj;replace aD:=aG hb aD;replace HX:=aa (HX.out.below hb);replace HZ:=aa (HZ.out.below hb);replace HE:=aa (HE.out.below hb);replace HW:=aa (HW.out.trans (hb.mono HW.out.size));replace cg:=aa (cg.out.below hb);obtain⟨X,hX⟩:∃ X,X=fM (ev (a_ env) p):=⟨_,rfl⟩
  rw[<-hX] at hx;have Iv:=aa hX;clear hX;obtain⟨bx,ox,lx,cx,rfl⟩:=hx.shape;have uE:=aa hx;clear hx cg;obtain⟨x4,ka,ea,AX,hba,hka,bk⟩:=aL x3 #[.bool bx,.slice ox lx cx] 26;replace aj:=aG hba.out aj;replace aD:=aG hba.out aD;replace HX:=aa (HX.out.below hba.out);replace HZ:=aa (HZ.out.below hba.out);replace HE:=aa (HE.out.below hba.out);replace HW:=aa (HW.out.trans (hba.out.mono HW.out.size));replace uE:=aa (uE.out.below hba.out);have c0:=ae (v:=.int .i64 5) aj.out 0 rfl;have bM:=af aj.out 0;have c1:=ae (v:=.bool b) aj.out 1 rfl;have bL:=af aj.out 1;have c2:=ae (v:=.slice ao l c) aj.out 2 rfl;have bK:=af aj.out 2;have c3:=ae (v:=.string nm) aj.out 3 rfl;have bJ:=af aj.out 3
  have c4:=ae (v:=.slice (some a) 1 kc) aj.out 4 rfl;have bI:=af aj.out 4;have d0:=ae (v:=.bool bx) bk.out 0 rfl;have rB:=af bk.out 0;have d1:=ae (v:=.slice ox lx cx) bk.out 1 rfl;have xp:=af bk.out 1;go_wp2_with fail
  refine (zJ _ _ X z 600 600 x4 uE.out.gi HZ.out.gi (by decide) (by decide) (by have:=Qk.out;omega)).mono ?_;rintro e x5 ⟨y,r,rfl,hy,hr,hb⟩;clear c0 bM c1 bL c2 bK c3 bJ c4 bI d0 rB d1 xp;replace aj:=aG hb aj;replace aD:=aG hb aD;replace bk:=aG hb bk;replace HX:=aa (HX.out.below hb);replace HZ:=aa (HZ.out.below hb);replace HE:=aa (HE.out.below hb);replace HW:=aa (HW.out.trans (hb.mono HW.out.size));replace uE:=aa (uE.out.below hb);obtain⟨b1,o1,l1,c1,rfl⟩:=hy.shape;obtain⟨b2,o2,l2,c2,rfl⟩:=hr.shape;have HV:=aa (CI.tight (z:=fM (qJ (a_ env) 5 z nm [ev (a_ env) p])) (by show CI _ _ (Int.fdiv (fM (ev (a_ env) p)) z) _;rw[<-Iv.out];exact hy) lV.out);clear hy hr;have Gb:=ag aD.out;obtain⟨x6,ku,eu,MT,uR,O2,xL⟩:=aL x5 #[.bool false,.slice none 0 0] 26
  replace aj:=aG uR.out aj;replace aD:=aG uR.out aD;replace bk:=aG uR.out bk;replace HX:=aa (HX.out.below uR.out);replace HZ:=aa (HZ.out.below uR.out);replace HE:=aa (HE.out.below uR.out);replace HW:=aa (HW.out.trans (uR.out.mono HW.out.size));replace uE:=aa (uE.out.below uR.out);replace HV:=aa (HV.out.below uR.out);rw[MT] at Gb;have huv:=ag xL.out;have Np:Hid (w.heap.size<=ku):=aa (aq gp.out (Nat.le_of_lt Gb));obtain⟨x7,kt,et,DM,ct,mw,nN⟩:=aL x6 #[.bool false,.slice none 0 0] 26;replace aj:=aG ct.out aj;replace aD:=aG ct.out aD;replace bk:=aG ct.out bk;replace xL:=aG ct.out xL;replace HX:=aa (HX.out.below ct.out);replace HZ:=aa (HZ.out.below ct.out);replace HE:=aa (HE.out.below ct.out)
  replace HW:=aa (HW.out.trans (ct.out.mono HW.out.size));replace uE:=aa (uE.out.below ct.out);replace HV:=aa (HV.out.below ct.out);rw[DM] at huv;have QE:Hid (w.heap.size<=kt):=aa (aq Np.out (Nat.le_of_lt huv));have Rq:=Nat.lt_trans Gb huv;have n1:ku≠kt:=by omega
  have n2:kt≠ku:=by omega
  have n3:kr≠ku:=by omega
  have n4:kr≠kt:=by omega
  have n5:ku≠kr:=by omega
  have n6:kt≠kr:=by omega
  have Qr:=aa Gb;have N9:=aa Rq;have N6:=aa huv;clear Gb Rq huv;obtain⟨u0,u1,Ld,Lc⟩:=gw xL.out;obtain⟨v0,v1,Gj,Gi⟩:=gw nN.out;obtain⟨r0,AT,gT,gS⟩:=gw aD.out;go_wp2_with fail
  obtain⟨s1,s2⟩:=mM HW.out xL.out jP Np.out (.bool b1) (.slice o1 l1 c1);obtain⟨W1,lN⟩:∃ q,q=(x7.setCell ⟨ku,0,none⟩ (.bool b1)).setCell ⟨ku,1,none⟩ (.slice o1 l1 c1):=⟨_,rfl⟩
  have eB:x7.grownBy W1 (some ku):=by rw[lN];exact kA _ _
  rw[<-lN] at s1 s2 ⊢;have IJ:=(eB.block kt (ag nN.out) (fun e=>by injection e with e;exact n2 e)).trans nN.out;have DB:=(eB.block kr (ag aD.out) (fun e=>by injection e with e;exact n3 e)).trans aD.out;obtain⟨s3,s4⟩:=mM s2 IJ jP QE.out (.bool b2) (.slice o2 l2 c2);obtain⟨W2,jN⟩:∃ q,q=(W1.setCell ⟨kt,0,none⟩ (.bool b2)).setCell ⟨kt,1,none⟩ (.slice o2 l2 c2):=⟨_,rfl⟩
  have eV:W1.grownBy W2 (some kt):=by rw[jN];exact kA _ _
  rw[<-jN] at s3 s4 ⊢;have iS:=(eV.block kr (ag DB) (fun e=>by injection e with e;exact n4 e)).trans DB;obtain⟨q0,q1,-,-⟩:=gw iS;obtain⟨r1,r2⟩:=mM s4 iS jP gp.out (.bool b1) (.slice o1 l1 c1)
  (try simp only[aE,aM])
  exact aB (v:=.agg #[.bool b1,.slice o1 l1 c1]) (by simp[results,gE,go_sem,q0,q1]) rfl ⟨_,rfl,(((show CI _ _ (fM (ev (a_ env) (.node 5 z nm [p]))) 600 from by rw[gN.out];exact HV.out).fr s1).fr s3).fr r1,r2⟩
 ·have HX:=aa hk;have HZ:=aa hz;have HE:=aa he;have rN:=aa dF;have vR:=aa fy;have HW:=aa (av w.heap.size w);have cC:=aa eR;clear eR hkc;obtain⟨p,rfl,hp⟩:=i_ (ks:=ks) (s:=2) (by simpa [cO,bB] using hfit);have nn:=aa (dF.kG p (by simp));have nr:=aa (fy p (by simp));have HP:=aa hp;have nR:=my (r:=a_ env) hp;have gN:Hid (fM (ev (a_ env) (.node 6 z nm [p]))=fM (qJ (a_ env) 6 z nm [ev (a_ env) p])):=aa (by rw[ev,iH,iH]);have lV:=aa hval;have Qm:=aa nR;have IF:Hid ((mB (ev (a_ env) p)).length<=1000/\∀ z ∈ mB (ev (a_ env) p),z.natAbs<aH ^ 600):=aa (by have:=(dF.kG p (by simp)).val;rw[nR] at this;exact this);have gW:kl=1:=cC.out;subst gW;clear hz hk he dF fy hval hfit hp nR cC
  go_enter kE,jF
  obtain⟨x1,kf,ef,hO,aR,gL,aj⟩:=aL w #[.int .i64 6,.bool b,.slice ao l c,.string nm,.slice ko 1 kc] 29;replace HX:=aa (HX.out.below aR.out);replace HZ:=aa (HZ.out.below aR.out);replace HE:=aa (HE.out.below aR.out);replace HW:=aa (HW.out.trans (aR.out.mono HW.out.size));have B5:=gL;obtain⟨x2,kr,er,lZ,bP,gD,aD⟩:=aL x1 #[.bool false,.slice none 0 0] 26;replace aj:=aG bP.out aj;replace HX:=aa (HX.out.below bP.out);replace HZ:=aa (HZ.out.below bP.out);replace HE:=aa (HE.out.below bP.out);replace HW:=aa (HW.out.trans (bP.out.mono HW.out.size));have gp:Hid (w.heap.size<=kr):=aa (aq aR.out.size gD.out);have c0:=ae (v:=.int .i64 6) aj.out 0 rfl;have bM:=af aj.out 0;have c1:=ae (v:=.bool b) aj.out 1 rfl;have bL:=af aj.out 1
  have c2:=ae (v:=.slice ao l c) aj.out 2 rfl;have bK:=af aj.out 2;have c3:=ae (v:=.string nm) aj.out 3 rfl;have bJ:=af aj.out 3;have c4:=ae (v:=.slice ko 1 kc) aj.out 4 rfl;have bI:=af aj.out 4;obtain⟨a,bp,op,lp,cp,pP,pQ,pR,gV,⟨p0,p1,p2,p3,p4⟩,fB⟩:=HX.out.first;have cg:=aa fB;clear fB;obtain⟨pI,dH⟩:∃ x,x=p.op:=⟨_,rfl⟩
  obtain⟨pL,dI⟩:∃ x,x=p.name:=⟨_,rfl⟩
  rw[<-dH] at p0 cg;rw[<-dI] at p3 cg;clear dH dI;subst gV;go_wp2_with fail
  refine (IL _ _ env p S x2 cg.out HE.out nr.out HP.out nn.out).mono ?_;rintro e x3 ⟨x,rfl,hx,hb⟩;clear c0 bM c1 bL c2 bK c3 bJ c4 bI p0 p1 p2 p3 p4;replace aj:=aG hb aj;replace aD:=aG hb aD;replace HX:=aa (HX.out.below hb);replace HZ:=aa (HZ.out.below hb);replace HE:=aa (HE.out.below hb);replace HW:=aa (HW.out.trans (hb.mono HW.out.size));replace cg:=aa (cg.out.below hb);obtain⟨L,hL⟩:∃ L,L=mB (ev (a_ env) p):=⟨_,rfl⟩
  rw[<-hL] at hx;have HL:=aa hL;have IE:=IF.out;rw[<-hL] at IE;clear cg hL;obtain⟨xo,xc,rfl,⟨DF,nR⟩,LS⟩:=hx.form;have Hs:xc<=9223372036854775807:=nR;have Lm:=aa hx;clear hx;clear LS;go_wp2_with fail
  refine (pB (L.length:Nat) x3 (by omega) (by have:=IE.1;omega)).mono ?_;rintro e x4 ⟨x,rfl,hx,hb⟩;replace aj:=aG hb aj;replace aD:=aG hb aD;replace HX:=aa (HX.out.below hb);replace HZ:=aa (HZ.out.below hb);replace HE:=aa (HE.out.below hb);replace HW:=aa (HW.out.trans (hb.mono HW.out.size));replace Lm:=aa (Lm.out.below hb);obtain⟨b1,o1,l1,c1,rfl⟩:=hx.shape;have HV:=aa (hx.mono (k':=600) (by decide));clear hx;obtain⟨r0,AT,gT,gS⟩:=gw aD.out;go_wp2_with fail
  obtain⟨r1,r2⟩:=mM HW.out aD.out jP gp.out (.bool b1) (.slice o1 l1 c1)
  (try simp only[aE,aM])
  exact aB (v:=.agg #[.bool b1,.slice o1 l1 c1]) (by simp[results,gE,go_sem,r0,AT]) rfl ⟨_,rfl,((show CI _ _ (fM (ev (a_ env) (.node 6 z nm [p]))) 600 from by rw[gN.out];show CI _ _ ((mB (ev (a_ env) p)).length:Int) 600;rw[<-HL.out];exact HV.out)).fr r1,r2⟩
 have HX:=aa hk;have HZ:=aa hz;have HE:=aa he;have rN:=aa dF;have vR:=aa fy;have HW:=aa (av w.heap.size w);have cC:=aa eR;clear eR hkc;obtain⟨p,rfl,hp⟩:=i_ (ks:=ks) (s:=2) (by simpa [cO,bB] using hfit);have nn:=aa (dF.kG p (by simp));have nr:=aa (fy p (by simp));have HP:=aa hp;have nR:=my (r:=a_ env) hp;have gN:Hid (fM (ev (a_ env) (.node 7 z nm [p]))=fM (qJ (a_ env) 7 z nm [ev (a_ env) p])):=aa (by rw[ev,iH,iH]);have lV:=aa hval;have Qm:=aa nR;have IF:Hid ((mB (ev (a_ env) p)).length<=1000/\∀ z ∈ mB (ev (a_ env) p),z.natAbs<aH ^ 600):=aa (by have:=(dF.kG p (by simp)).val;rw[nR] at this;exact this);have gW:kl=1:=cC.out;subst gW;clear hz hk he dF fy hval hfit hp nR cC
 go_enter kE,jF
 obtain⟨x1,kf,ef,hO,aR,gL,aj⟩:=aL w #[.int .i64 7,.bool b,.slice ao l c,.string nm,.slice ko 1 kc] 29;replace HX:=aa (HX.out.below aR.out);replace HZ:=aa (HZ.out.below aR.out);replace HE:=aa (HE.out.below aR.out);replace HW:=aa (HW.out.trans (aR.out.mono HW.out.size));have B5:=gL;obtain⟨x2,kr,er,lZ,bP,gD,aD⟩:=aL x1 #[.bool false,.slice none 0 0] 26;replace aj:=aG bP.out aj;replace HX:=aa (HX.out.below bP.out);replace HZ:=aa (HZ.out.below bP.out);replace HE:=aa (HE.out.below bP.out);replace HW:=aa (HW.out.trans (bP.out.mono HW.out.size));have gp:Hid (w.heap.size<=kr):=aa (aq aR.out.size gD.out);have c0:=ae (v:=.int .i64 7) aj.out 0 rfl;have bM:=af aj.out 0;have c1:=ae (v:=.bool b) aj.out 1 rfl;have bL:=af aj.out 1
 have c2:=ae (v:=.slice ao l c) aj.out 2 rfl;have bK:=af aj.out 2;have c3:=ae (v:=.string nm) aj.out 3 rfl;have bJ:=af aj.out 3;have c4:=ae (v:=.slice ko 1 kc) aj.out 4 rfl;have bI:=af aj.out 4;obtain⟨a,bp,op,lp,cp,pP,pQ,pR,gV,⟨p0,p1,p2,p3,p4⟩,fB⟩:=HX.out.first;have cg:=aa fB;clear fB;obtain⟨pI,dH⟩:∃ x,x=p.op:=⟨_,rfl⟩
 obtain⟨pL,dI⟩:∃ x,x=p.name:=⟨_,rfl⟩
 rw[<-dH] at p0 cg;rw[<-dI] at p3 cg;clear dH dI;subst gV;go_wp2_with fail
 refine (IL _ _ env p S x2 cg.out HE.out nr.out HP.out nn.out).mono ?_;rintro e x3 ⟨x,rfl,hx,hb⟩;clear c0 bM c1 bL c2 bK c3 bJ c4 bI p0 p1 p2 p3 p4;replace aj:=aG hb aj;replace aD:=aG hb aD;replace HX:=aa (HX.out.below hb);replace HZ:=aa (HZ.out.below hb);replace HE:=aa (HE.out.below hb);replace HW:=aa (HW.out.trans (hb.mono HW.out.size));replace cg:=aa (cg.out.below hb);obtain⟨L,hL⟩:∃ L,L=mB (ev (a_ env) p):=⟨_,rfl⟩
 rw[<-hL] at hx;have HL:=aa hL;have IE:=IF.out;rw[<-hL] at IE;clear cg hL;obtain⟨xo,xc,rfl,⟨DF,nR⟩,LS⟩:=hx.form;have Hs:xc<=9223372036854775807:=nR;have Lm:=aa hx;clear hx
 cases L with
 | nil =>
  clear LS;obtain⟨r0,AT,gT,gS⟩:=gw aD.out;go_wp2_with fail
  obtain⟨r1,r2⟩:=mM HW.out aD.out jP gp.out (.bool false) (.slice none 0 0)
  (try simp only[aE,aM])
  exact aB (v:=.agg #[.bool false,.slice none 0 0]) (by simp[results,gE,go_sem,r0,AT]) rfl ⟨_,rfl,((show CI _ _ (fM (ev (a_ env) (.node 7 z nm [p]))) 600 from by rw[gN.out];show CI _ _ ((mB (ev (a_ env) p)).headD 0) 600;rw[<-HL.out];exact qi _)).fr r1,r2⟩
 | cons y L =>
  obtain⟨q,yo,yl,yc,rfl,d0,d1,hy⟩:=LS 0 (by simp);simp only[List.getElem_cons_zero,Nat.zero_mul,Addr.add,if_true] at d0 d1 hy;have HV:=aa hy;clear hy LS;have hgt:decide ((0:Int)<(((y::L).length:Nat):Int))=true:=by simp
  obtain⟨r0,AT,gT,gS⟩:=gw aD.out;go_wp2_with fail
  obtain⟨r1,r2⟩:=mM HW.out aD.out jP gp.out (.bool (decide (y<0))) (.slice yo yl yc)
  (try simp only[aE,aM])
  exact aB (v:=.agg #[.bool (decide (y<0)),.slice yo yl yc]) (by simp[results,gE,go_sem,r0,AT]) rfl ⟨_,rfl,((show CI _ _ (fM (ev (a_ env) (.node 7 z nm [p]))) 600 from by rw[gN.out];show CI _ _ ((mB (ev (a_ env) p)).headD 0) 600;rw[<-HL.out];exact HV.out)).fr r1,r2⟩
attribute [local go_sem] jn jm jl jk
theorem b_ {o:Int} {b:Bool} {ao:Option cH} {l c:Nat} {nm:ByteArray} {ko:Option cH} {kl kc:Nat}:qB (#[Value.int .i64 o,.bool b,.slice ao l c,.string nm,.slice ko kl kc]:Array ay).toList:=by
 intro u hu z;simp only[dw,cl,or_false] at hu;rcases hu with rfl | rfl | rfl | rfl | rfl<;>(intro h;cases h)
theorem El.Row.other {α:Type} {E:El α} {w w':an} {B g:Nat} {v:ay} {el:List α} (h:E.Row w B v el) (hg:w.grownBy w' (some g)) (hgB:g<B) {e:TypeId} (hf:Fr e w w') (hok:E.ok e):E.Row w' B v el:=by
 have hne:∀ j,v.ownBlock=some j->j≠g:=fun j hj e=>by have:=(h.ge hj).1;omega
 refine⟨?_,fun j hj=>?_,fun q hq=>E.fr hok hf (h.rd q hq)⟩
 ·rcases hr:v.ownBlock with _ | j
  ·exact iT h.own hg (.inl hr)
  exact iT h.own hg (.inr (by rw[hr];intro e;injection e with e;exact hne j hr e))
 obtain⟨c,hc,h32⟩:=h.n32 j hj;exact⟨c,(hg.block j (ag hc) (fun e=>by injection e with e;exact hne j hj e)).trans hc,h32⟩
theorem Ce {r:ByteArray->V} {t:F} (hs:jh t.op=2) (h:Sm r t):(mB (ev r t)).length<=1000/\∀ z ∈ mB (ev r t),z.natAbs<aH ^ 600:=by
 have:=h.val;rw[my hs] at this;exact this
theorem NL.tail {w:an} {ko:Option cH} {n kc:Nat} {zs:List Int} (h:NL w (.slice ko n kc) zs):NL w (sliced ko (min 1 n) n kc 2) zs.tail:=by
 obtain⟨ns,h1,rfl⟩:=h;have hn:n=ns.length:=by obtain⟨_,_,e,_⟩:=h1;injection e
 subst hn;have:=h1.sub (i:=min 1 ns.length) (j:=ns.length) (Nat.min_le_right _ _) (ak _);refine⟨_,this,?_⟩
 cases ns with
 | nil=>rfl
 | cons a l=>simp[Nat.min_eq_left]
theorem EB (d:Nat) (IN:Dy d) (IL:FJ d):FJ (d+1):=by
 intro ve v env t S w h he hr hs dF;obtain⟨eo,en,ec,rfl⟩:=he.shape
 have ho:t.op=8\/t.op=11\/t.op=9\/t.op=10:=by
  unfold jh at hs
  split at hs
  ·omega
  split at hs
  ·omega
  omega
 by_cases hloop:t.op=9\/t.op=10
 ·have h0:=h;obtain⟨b,ao,l,c,ko,kl,kc,rfl,⟨-,-,-,-,hkm⟩,-,-⟩:=h.open;obtain⟨o,tu⟩:∃ o,o=t.op:=⟨_,rfl⟩
  obtain⟨nm,hnm⟩:∃ o,o=t.name:=⟨_,rfl⟩
  rw[<-tu] at hloop h0 ho ⊢;rw[<-hnm] at h0 ⊢;have n8:(o==8)=false:=beq_eq_false_iff_ne.2 (by omega);have Ox:(o==11)=false:=beq_eq_false_iff_ne.2 (by omega);have HE:=aa he;have rN:=aa dF;have HT:=aa h0;have HR:=aa hr;have HS:=aa hs;have FO:=aa tu;have CL:=aa hnm;have VE:=aa he;have Vh:=aa hloop;have Sr:=aa (Ce hs dF);have HW:=aa (av w.heap.size w);clear h h0 he hr hs dF ho hloop tu hnm hkm;go_enter Tryz.func163,Tryz.ntmps163
  obtain⟨x1,kf,ef,hO,aR,gL,aj⟩:=aL w #[.int .i64 o,.bool b,.slice ao l c,.string nm,.slice ko kl kc] 29;replace HE:=aa (HE.out.below aR.out);replace HW:=aa (HW.out.trans (aR.out.mono HW.out.size));have Vk:Hid (w.heap.size<=kf):=gL;have cP:Hid (kf<x1.heap.size):=aa (ag aj.out);have c0:=ae (v:=.int .i64 o) aj.out 0 rfl;have bM:=af aj.out 0;have c1:=ae (v:=.bool b) aj.out 1 rfl;have bL:=af aj.out 1;have c2:=ae (v:=.slice ao l c) aj.out 2 rfl;have bK:=af aj.out 2;have c3:=ae (v:=.string nm) aj.out 3 rfl;have bJ:=af aj.out 3;have c4:=ae (v:=.slice ko kl kc) aj.out 4 rfl;have bI:=af aj.out 4;go_wp2_with fail
  clear c0 bM c1 bL c2 bK c3 bJ c4 bI;clear n8 Ox
  go_loopw [6] (fun v wr=>∃ (els:List NU) (t':F) (dd:Nat) (b:Bool) (ao:Option cH) (l c:Nat) (ko:Option cH) (kl kc:Nat),Hid (nE.Row wr x1.heap.size v els)/\Hid (mB (ev (a_ env) t)=els.map (·.z)++mB (ev (a_ env) t'))/\Hid (dd<=d+1/\(t'.op≠9->t'.op≠10->dd<=d))/\Hid (rt t'=true/\jh t'.op=2/\Sm (a_ env) t')/\Hid (FC w S dd (.agg #[.int .i64 t'.op,.bool b,.slice ao l c,.string t'.name,.slice ko kl kc]) t')/\Hid (wr.heap[kf]?=some (.cells #[.int .i64 t'.op,.bool b,.slice ao l c,.string t'.name,.slice ko kl kc] 29 (0,0)))/\Hid (aC w.heap.size w wr)/\Hid (x1.heap.size<=wr.heap.size)) (fun v _=>match v with | .slice _ n _=>2000 - n | _=>0)
  case atStart=>exact⟨[],t,d+1,b,ao,l,c,ko,kl,kc,aa (El.Row.nil _ _),aa rfl,aa ⟨ak _,fun h1 h2=>by have:=Vh.out;rw[FO.out] at this;omega⟩,aa ⟨HR.out,HS.out,rN.out⟩,aa (by have:=HT.out;rw[FO.out,CL.out] at this;exact this),aa (by have:=aj.out;rw[FO.out,CL.out] at this;exact this),HW,aa (ak _)⟩
  case round =>
   obtain⟨wl,Bv⟩:∃ q,q=wr:=⟨_,rfl⟩
   subst Bv;clear HW aj HE;obtain⟨els,t',dd,b',DO,l',c',EG,NC,Bn,tJ,Nu,Og,N8,Of,aj,HW,qC⟩:=hrel;have HE:Hid (EL wl (.slice eo en ec) env):=aa (VE.out.below HW.out);obtain⟨vo,vc,rfl,Hv⟩:=tJ.out.form;have hlen:els.length+(mB (ev (a_ env) t')).length<=1000:=by have h1:=Sr.out.1;rw[Nu.out,fI,List.length_map] at h1;exact h1
   have nS:=aa hlen;clear hlen Hv
   by_cases h10:t'.op=10
   ·have Vx:=Of.out.open;obtain⟨_,_,_,_,_,_,_,e1,⟨-,-,-,-,hkm⟩,K9,Ao⟩:=Vx;injection e1 with e1;have e2:=congrArg (fun t:Array ay=>t[4]?) e1;injection e2 with e2;injection e2 with e2 e3 e4;subst e2 e3 e4;obtain⟨o',z',IZ,ks'⟩:=t';simp only[F.op,F.name,F.kids] at h10 Ao Of aj N8 Nu Og nS;subst h10;obtain⟨hr1,hs1,AU⟩:=N8.out;obtain⟨hfit,fy⟩:=iA hr1;obtain⟨p,q,rfl,hp,hq⟩:=iZ (ks:=ks') (s:=0) (r:=2) (by simpa [cO,bB] using hfit);have nn:=aa (AU.kG p (by simp));have nr:=aa (fy p (by simp));have HP:=aa hp;have wX:=aa (AU.kG q (by simp));have wY:=aa (fy q (by simp));have HQ:=aa hq;have gN:Hid (mB (ev (a_ env) (.node 10 z' IZ [p,q]))=fM (ev (a_ env) p)::mB (ev (a_ env) q)):=aa (by rw[ev,iH,iH,iH];rfl)
    have WW:Hid ((fM (ev (a_ env) p)).natAbs<aH ^ 600):=aa (by have:=(AU.kG p (by simp)).val;rw[mb hp] at this;exact this);have Ap:dd - 1<=d:=by have:=Og.out.1;omega
    have eR:NC=2:=by obtain⟨_,_,e,_⟩:=Ao.form;injection e
    subst eR;have vA:Bn<=9223372036854775807:=hkm;have Ss:=aa Ao;have IF:=aa (Ao.below HW.out);have Nv:=aa Ap;clear hr1 hs1 AU hfit fy hp hq Ao Ap K9 hkm e1 N8;obtain⟨a,bp,op,lp,cp,pP,pQ,pR,Bz,⟨p0,p1,p2,p3,p4⟩,fB⟩:=IF.out.first;subst Bz;obtain⟨pI,dH⟩:∃ x,x=p.op:=⟨_,rfl⟩
    obtain⟨pL,dI⟩:∃ x,x=p.name:=⟨_,rfl⟩
    rw[<-dH] at p0 fB;rw[<-dI] at p3 fB;have cg:=aa (fB.up Nv.out);clear fB dH dI;obtain⟨a2,bq,oq,lq,cq,vt,vu,vv,Kf,⟨q0,q1,q2,q3,q4⟩,jd⟩:=Ss.out.second;injection Kf with Kf;subst Kf;obtain⟨vJ,js⟩:∃ x,x=q.op:=⟨_,rfl⟩
    obtain⟨vK,jt⟩:∃ x,x=q.name:=⟨_,rfl⟩
    rw[<-js] at q0 jd;rw[<-jt] at q3 jd;have fW:=aa jd;have Sk:=aa js;have Jt:=aa jt;have gM:Hid (sC w ⟨a.block,a.off+5,none⟩ vJ bq oq lq cq vK vt vu vv):=aa ⟨q0,q1,q2,q3,q4⟩;clear jd js jt q0 q1 q2 q3 q4 Ss;have c0:=ae (v:=.int .i64 10) aj.out 0 rfl;have bM:=af aj.out 0;have c1:=ae (v:=.bool b') aj.out 1 rfl;have bL:=af aj.out 1;have c2:=ae (v:=.slice DO l' c') aj.out 2 rfl;have bK:=af aj.out 2;have c3:=ae (v:=.string IZ) aj.out 3 rfl;have bJ:=af aj.out 3;have c4:=ae (v:=.slice (some a) 2 Bn) aj.out 4 rfl;have bI:=af aj.out 4;go_wp2_with fail
    refine (IN _ _ env p S wl cg.out HE.out nr.out HP.out nn.out).mono ?_;rintro e x2 ⟨x,rfl,hx,hb⟩;clear c0 bM c1 bL c2 bK c3 bJ c4 bI p0 p1 p2 p3 p4;replace aj:=aG hb aj;replace HE:=aa (HE.out.below hb);replace HW:=aa (HW.out.trans (hb.mono HW.out.size));replace tJ:=aa (tJ.out.below hb);replace IF:=aa (IF.out.below hb);obtain⟨nu,bn,on,ln,cn,rfl,hne,Ai,I5⟩:=hx.unit (by decide);have IC:=aa hne;have Js:=aa Ai;have FP:=aa I5;clear hx hne Ai I5 cg;obtain⟨x3,ky,ey,oB,hby,tw,iu⟩:=aL x2 #[.bool bn,.slice on ln cn] 26;replace aj:=aG hby.out aj;replace HE:=aa (HE.out.below hby.out);replace HW:=aa (HW.out.trans (hby.out.mono HW.out.size));replace tJ:=aa (tJ.out.below hby.out);replace IF:=aa (IF.out.below hby.out)
    replace FP:=aa (nE.below FP.out hby.out);have qD:=aa (Cm iu.out IC.out FP.out);have c0:=ae (v:=.int .i64 10) aj.out 0 rfl;have bM:=af aj.out 0;have c1:=ae (v:=.bool b') aj.out 1 rfl;have bL:=af aj.out 1;have c2:=ae (v:=.slice DO l' c') aj.out 2 rfl;have bK:=af aj.out 2;have c3:=ae (v:=.string IZ) aj.out 3 rfl;have bJ:=af aj.out 3;have c4:=ae (v:=.slice (some a) 2 Bn) aj.out 4 rfl;have bI:=af aj.out 4;have Iy:Hid (x1.heap.size<=x3.heap.size):=aa (aq qC.out (aq hb.size hby.out.size))
    go_wp2_with (at_builtin;refine El.Row.append (E:=nE) tJ.out rfl (.tmp 36) (.tmp 43) rfl rfl rfl qD.out (by have:=nS.out;simp;omega) Iy.out ?_;intro v9 w9 r1 r2 r3 r4;have vG:=aa ((r3.block kf cP.out).trans aj.out);have KR:=aa (HW.out.trans (r3.mono (aq aR.out.size (ak _))));have Ll:=aa r1;have U5:=aa (aq Iy.out r3.size);clear r1 r2 r3 r4 c0 c1 c2 c3 c4 bM bL bK bJ bI;have c4:=ae (v:=.slice (some a) 2 Bn) vG.out 4 rfl;have c0:=ae (v:=.int .i64 10) vG.out 0 rfl;have c1:=ae (v:=.bool b') vG.out 1 rfl;have c2:=ae (v:=.slice DO l' c') vG.out 2 rfl;have c3:=ae (v:=.string IZ) vG.out 3 rfl;have bM:=af vG.out 0;have bL:=af vG.out 1;have bK:=af vG.out 2;have bJ:=af vG.out 3;have bI:=af vG.out 4;obtain⟨q0,q1,q2,q3,q4⟩:=gM.out.below KR.out;simp only at q0 q1 q2 q3 q4)
    have hg:=aY (w:=w9) (k:=kf) (.int .i64 vJ) (.bool bq) (.slice oq lq cq) (.string vK) (.slice vt vu vv);have hfr:Fr 29 w9 _:=.aN hg (fun j hj=>by injection hj with hj;subst hj;exact⟨_,vG.out,b_⟩);go_roundw
    case rel=>exact⟨els++[nu],q,dd - 1,bq,oq,lq,cq,vt,vu,vv,aa (Ll.out.other hg cP.out hfr trivial),aa (by rw[Nu.out,gN.out,dN,List.append_assoc];simp[Js.out]),aa ⟨by have:=Nv.out;omega,fun _ _=>Nv.out⟩,aa ⟨wY.out,HQ.out,wX.out⟩,aa (by rw[<-Sk.out,<-Jt.out];exact fW.out),aa (by rw[<-Sk.out,<-Jt.out];exact fj vG.out _ _ _ _ _),aa (aS KR.out hg Vk.out),aa (aq U5.out hg.size)⟩
    case measure =>
     obtain⟨xo,xc,rfl,-⟩:=Ll.out.form;have:=nS.out;rw[gN.out] at this;simp only[fI,ru,xC] at this ⊢
     omega
   have PI:(t'.op==10)=false:=beq_eq_false_iff_ne.2 h10;obtain⟨o',jX⟩:∃ o,o=t'.op:=⟨_,rfl⟩
   obtain⟨IZ,Ma⟩:∃ o,o=t'.name:=⟨_,rfl⟩
   have FV:=aa (Of.out.below HW.out);rw[<-jX] at aj PI h10 FV Og;rw[<-Ma] at aj FV;have Vc:=aa jX;clear jX Ma Of
   by_cases h9:o'=9
   ·have Uh:(o'==9)=true:=by rw[h9];rfl
    have HH:Hid (mB (ev (a_ env) t')=[]):=aa (by obtain⟨o2,z2,VZ,V7⟩:=t';have:=Vc.out;rw[h9] at this;simp only[F.op] at this;subst this;rw[ev];rfl);clear h9 h10;have c0:=ae (v:=.int .i64 o') aj.out 0 rfl;have bM:=af aj.out 0;have c1:=ae (v:=.bool b') aj.out 1 rfl;have bL:=af aj.out 1;have c2:=ae (v:=.slice DO l' c') aj.out 2 rfl;have bK:=af aj.out 2;have c3:=ae (v:=.string IZ) aj.out 3 rfl;have bJ:=af aj.out 3;have c4:=ae (v:=.slice EG NC Bn) aj.out 4 rfl;have bI:=af aj.out 4;go_wp2_with fail
    go_ret
    exact⟨_,rfl,⟨els,tJ.out.at,by rw[Nu.out,HH.out,List.append_nil]⟩,HW.out⟩
   have Uh:(o'==9)=false:=beq_eq_false_iff_ne.2 h9;have Ap:dd<=d:=Og.out.2 h9 h10;have Nv:=aa Ap;clear h9 h10 Ap;obtain⟨hr1,hs1,AU⟩:=N8.out;have IA:=aa hr1;have AM:=aa hs1;have Ju:=aa AU;clear hr1 hs1 AU;have c0:=ae (v:=.int .i64 o') aj.out 0 rfl;have bM:=af aj.out 0;have c1:=ae (v:=.bool b') aj.out 1 rfl;have bL:=af aj.out 1;have c2:=ae (v:=.slice DO l' c') aj.out 2 rfl;have bK:=af aj.out 2;have c3:=ae (v:=.string IZ) aj.out 3 rfl;have bJ:=af aj.out 3;have c4:=ae (v:=.slice EG NC Bn) aj.out 4 rfl;have bI:=af aj.out 4;go_wp2_with fail
   refine (IL _ _ env t' S wl (FV.out.up Nv.out) HE.out IA.out AM.out Ju.out).mono ?_;rintro e x2 ⟨x,rfl,⟨ns,hx,Ai⟩,hb⟩;clear c0 bM c1 bL c2 bK c3 bJ c4 bI;replace aj:=aG hb aj;replace HE:=aa (HE.out.below hb);replace HW:=aa (HW.out.trans (hb.mono HW.out.size));replace tJ:=aa (tJ.out.below hb);replace FV:=aa (FV.out.below hb);have qD:=aa hx;have Js:=aa Ai;clear hx Ai;have Iy:Hid (x1.heap.size<=x2.heap.size):=aa (aq qC.out hb.size);obtain⟨xo,xn,xc,rfl⟩:∃ xo xn xc,x=.slice xo xn xc:=by obtain⟨_,_,e,_⟩:=qD.out;exact⟨_,_,_,e⟩
   go_wp2_with (at_builtin;refine El.Row.append (E:=nE) tJ.out rfl (.tmp 49) (.tmp 52) rfl rfl rfl qD.out (by have:=nS.out;rw[<-Js.out,List.length_map] at this;omega) Iy.out ?_;intro v9 w9 r1 r2 r3 r4;have KR:=aa (HW.out.trans (r3.mono (aq aR.out.size (ak _))));have Ll:=aa r1;clear r1 r2 r3 r4)
   go_ret
   exact⟨_,rfl,⟨els++ns,Ll.out.at,by rw[Nu.out,dN,Js.out]⟩,KR.out⟩
 obtain⟨b,ao,l,c,ko,kl,kc,rfl,⟨-,hz,eR,hkc,hkm⟩,-,hk⟩:=h.open;obtain⟨o,z,nm,ks⟩:=t;simp only[F.op,F.num,F.name,F.kids] at hz hk eR hs ho hloop ⊢;rw[show d+1 - 1=d from rfl] at hk;obtain⟨hfit,fy⟩:=iA hr;have vA:kc<=9223372036854775807:=hkm;have cC:=aa eR;have OW:o=8\/o=11:=by omega
 have HX:=aa hk;have HE:=aa he;have HW:=aa (av w.heap.size w);clear h hkm eR hkc hz hk he ho hloop hr hs;rcases OW with rfl | rfl
 ·clear dF fy hfit;go_enter Tryz.func163,Tryz.ntmps163
  obtain⟨x1,kf,ef,hO,aR,gL,aj⟩:=aL w #[.int .i64 8,.bool b,.slice ao l c,.string nm,.slice ko kl kc] 29;replace HX:=aa (HX.out.below aR.out);replace HE:=aa (HE.out.below aR.out);replace HW:=aa (HW.out.trans (aR.out.mono HW.out.size));have c0:=ae (v:=.int .i64 8) aj.out 0 rfl;have bM:=af aj.out 0;have c1:=ae (v:=.bool b) aj.out 1 rfl;have bL:=af aj.out 1;have c2:=ae (v:=.slice ao l c) aj.out 2 rfl;have bK:=af aj.out 2;have c3:=ae (v:=.string nm) aj.out 3 rfl;have bJ:=af aj.out 3;have c4:=ae (v:=.slice ko kl kc) aj.out 4 rfl;have bI:=af aj.out 4;go_wp2_with fail
  refine (wA _ env nm 2 x1 HE.out).mono ?_;rintro e x2 ⟨v,rfl,hv,hb⟩;clear c0 bM c1 bL c2 bK c3 bJ c4 bI;replace aj:=aG hb aj;replace HX:=aa (HX.out.below hb);replace HE:=aa (HE.out.below hb);replace HW:=aa (HW.out.trans (hb.mono HW.out.size));obtain⟨k1,b1,o1,l1,c1,d1,p1,m1,q1,rfl,hn⟩:=hv.S9;have HV:=aa hn;clear hv hn;go_wp2_with fail
  go_ret
  exact⟨_,rfl,HV.out,HW.out⟩
 obtain⟨p,rfl,hp⟩:=i_ (ks:=ks) (s:=2) (by simpa [cO,bB] using hfit);have nn:=aa (dF.kG p (by simp));have nr:=aa (fy p (by simp));have HP:=aa hp;have gN:Hid (mB (ev (a_ env) (.node 11 z nm [p]))=(mB (ev (a_ env) p)).tail):=aa (by rw[ev,iH,iH];rfl);have gW:kl=1:=cC.out;subst gW;clear dF fy hfit hp cC;go_enter Tryz.func163,Tryz.ntmps163
 obtain⟨x1,kf,ef,hO,aR,gL,aj⟩:=aL w #[.int .i64 11,.bool b,.slice ao l c,.string nm,.slice ko 1 kc] 29;replace HX:=aa (HX.out.below aR.out);replace HE:=aa (HE.out.below aR.out);replace HW:=aa (HW.out.trans (aR.out.mono HW.out.size));have c0:=ae (v:=.int .i64 11) aj.out 0 rfl;have bM:=af aj.out 0;have c1:=ae (v:=.bool b) aj.out 1 rfl;have bL:=af aj.out 1;have c2:=ae (v:=.slice ao l c) aj.out 2 rfl;have bK:=af aj.out 2;have c3:=ae (v:=.string nm) aj.out 3 rfl;have bJ:=af aj.out 3;have c4:=ae (v:=.slice ko 1 kc) aj.out 4 rfl;have bI:=af aj.out 4;obtain⟨a,bp,op,lp,cp,pP,pQ,pR,gV,⟨p0,p1,p2,p3,p4⟩,fB⟩:=HX.out.first;have cg:=aa fB;clear fB;obtain⟨pI,dH⟩:∃ x,x=p.op:=⟨_,rfl⟩
 obtain⟨pL,dI⟩:∃ x,x=p.name:=⟨_,rfl⟩
 rw[<-dH] at p0 cg;rw[<-dI] at p3 cg;clear dH dI;subst gV;go_wp2_with fail
 refine (IL _ _ env p S x1 cg.out HE.out nr.out HP.out nn.out).mono ?_;rintro e x2 ⟨x,rfl,hx,hb⟩;clear c0 bM c1 bL c2 bK c3 bJ c4 bI p0 p1 p2 p3 p4;replace aj:=aG hb aj;replace HX:=aa (HX.out.below hb);replace HE:=aa (HE.out.below hb);replace HW:=aa (HW.out.trans (hb.mono HW.out.size));replace cg:=aa (cg.out.below hb);obtain⟨xo,xc,OH,⟨DF,nR⟩,-⟩:=hx.form;have Hs:xc<=9223372036854775807:=nR;obtain⟨n,hn⟩:∃ n,n=(mB (ev (a_ env) p)).length:=⟨_,rfl⟩
 rw[<-hn] at OH DF;rw[OH] at hx ⊢;have hv:=hx.tail;clear hx OH nR hn cg;unfold sliced at hv;obtain⟨m,hm⟩:∃ m,m=min 1 n:=⟨_,rfl⟩
 have Wg:min (1:Int) ((n:Nat):Int)=((m:Nat):Int):=by omega
 have hmn:m<=n:=by omega
 rw[<-hm] at hv;clear hm
 by_cases hc:xc=m
 ·rw[if_pos hc] at hv;have HV:=aa hv;subst hc;clear hv;go_wp2_with fail
  go_ret
  exact⟨_,rfl,by rw[gN.out];have:=HV.out;rw[show n - xc=0 by omega] at this;simpa using this,(by first | exact HW.out | (rw[<-hO];exact HW.out))⟩
 rw[if_neg hc] at hv;have HV:=aa hv;clear hv;go_wp2_with fail
 go_ret
 exact⟨_,rfl,by rw[gN.out];have:=HV.out;simpa using this,(by first | exact HW.out | (rw[<-hO];exact HW.out))⟩
end Go.Proofs.YtoncclhbdkjhmaaGreatDoor
