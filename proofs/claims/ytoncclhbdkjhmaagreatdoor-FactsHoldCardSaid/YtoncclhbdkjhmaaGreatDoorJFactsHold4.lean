/-
 Joined texts: LgE,LgF,LgG,LgH,LgI,LgJ,LgK,LgL,LgN,LgP,LgQ,LgR,LgS,LgT,LgV,LgW,LgBb,LgBc,KDgt,LgBe,FaTb,FaTc,ShelfC,LgBd.
-/
import Derived.RangeFuncNested
import Derived.RangeFuncBound
import Derived.RangeFuncCalls
import Derived.RangeFuncLeaves
import Derived.OrdersIn
import Derived.Shelf.Abstract
import Derived.Shelf.RegionOpen
import Derived.WalkKit
import Derived.OwnWalkIn
import Derived.TacticsInMore
import Derived.LoopNIn
import Derived.LoopIn
import Derived.Lib.QuoteLoop
import Derived.Lib.PrintData
import Derived.Shelf.Unicode.DecodeSlow
import Derived.Lib.ItoaMem
import Derived.Laws.BytesArg
import Derived.Shelf.Strings.Builder1
import Derived.Shelf.Small.Utf8
import Derived.Shelf.Small.Bits
import Derived.Shelf.Small.Wraps
import Derived.Shelf.Strings.BuilderF
import Derived.Shelf.Strings.BuilderK
import Derived.Shelf.Utf8.AppendRune
import Derived.Shelf.Utf8.AppendRunePlain
import Derived.Shelf.Strconv.Bsearch
import Derived.Shelf.Strconv.IsPrint
import Derived.Shelf.Strconv.IsPrint16
import Derived.Shelf.Strconv.IsPrint32
import Derived.Shelf.Strconv.Escaped
import Derived.Shelf.Strconv.Quoted
import Derived.Shelf.Strconv.Quote
import Derived.Shelf.Strconv.Itoa0
import Derived.Shelf.Strconv.Itoa1
import Derived.Shelf.LaysM
import Derived.Shelf.Strconv.Itoa2
import Derived.Shelf.Strconv.Itoa3
import Derived.Shelf.Unicode.Decode
import Derived.Shelf.Unicode.DecodeAny
import Derived.Shelf.Strings.BuilderCap
import Derived.Shelf.Slices.Turned
import Derived.Ground.Names2Prog
import Derived.Shelf.Slices.SearchI
import Derived.Test.YtoncclhbdkjhmaaGreatDoorProg
import Derived.Test.YtoncclhbdkjhmaaGreatDoorJFactsHold1
import Derived.Test.YtoncclhbdkjhmaaGreatDoorJFactsHold2
import Derived.Test.YtoncclhbdkjhmaaGreatDoorJFactsHold3
set_option maxHeartbeats 32000000
open Go renaming lt_of_block→ae,World→ag,Value→aq,heap_setCell_same→aC,bodyPost_ret→aD,Calls→aW,maxLen→bI,Addr→cB
open Go.Addr renaming add→nM
open Go.Exit renaming inBlock→aK,«then»→aT
open Go.Instr renaming field→lP
open Go.Lib renaming hid→aa
open Go.Proofs.Tryz renaming prog→aj,ntmps64→cP,func64→dc
open Go.RowKit renaming Below→aA,intOf→ei
open Go.RowKit.Below renaming refl→ax
open Go.Value.bool renaming injEq→vv
open Go.Value.int renaming injEq→xS
open Go.Value.slice renaming injEq→tP
open Go.World.grownBy renaming refl→aI
open Go.World.ownsRow renaming stored→fG,kept→lG
open List renaming cons_append→aR,not_mem_nil→aU,mem_singleton→aZ,append_assoc→bg,mem_cons→bz,set_cons_succ→bD,take_succ_eq_append_getElem→bH,take_length→bK,map_append→cn,getElem_mem→ct,append_nil→dJ,length→d_,nil_append→ew,dropLast_cons_of_ne_nil→fj,flatMap_cons→fI,getElem_map→gp,eq_nil_of_length_eq_zero→gK,dropLast_append_of_ne_nil→iN,getElem_cons_zero→mH,mem_cons_self→pZ,getElem_append_left→tR,getElem_append_right→DD,mem_cons_of_mem→I8
open List.cons renaming injEq→rB
open Nat renaming le_trans→ah,le_refl→ai,zero_le→au,lt_of_lt_of_le→az,zero_mul→rK
namespace Go.Proofs.YtoncclhbdkjhmaaGreatDoor
open Go.RowKit
set_option maxRecDepth 100000
set_option linter.unusedVariables false
set_option linter.unusedSimpArgs false
theorem Qz (v:aq) (t:F) (d:Nat) (S:Nat->Prop) (w:ag) (h:FC w S d v t) :
  aW aj 64 #[v] w fun e w'=>e=.returned (.bool (dP t.op t.num (eR t.kids)))/\aA w.heap.size w w':=by
 obtain⟨b,ao,l,c,ko,kl,kc,rfl,⟨hr,hz,-,-,-⟩,-,hk⟩:=h.open;obtain⟨o,z,nm,ks⟩:=t;simp only[F.op,F.num,F.name,F.kids] at hr hz hk ⊢;clear h hr;rcases CO o with h | h
 ·rcases h with rfl | rfl | rfl | rfl | rfl | rfl | rfl | rfl | rfl | rfl | rfl | rfl | rfl | rfl | rfl | rfl | rfl | rfl | rfl | rfl | rfl
  ·have HX:=aa hk;clear hk hz;have HW:=aa (ax w.heap.size w);go_enter dc,cP;obtain⟨x1,kf,ef,jK,bL,jc,aE⟩:=aM w #[.int .i64 0,.bool b,.slice ao l c,.string nm,.slice ko kl kc] 29;replace HX:=aa (HX.out.below bL.out);replace HW:=aa (HW.out.trans (bL.out.mono HW.out.size));obtain⟨⟨c0,c1,c2,c3,c4⟩,cA,cG,cF,cE,cC⟩:=ak aE.out;go_wp2_with fail;refine (kO _ _ ks [] (d - 1) S x1 HX.out (BL.nil _)).mono ?_;rintro e x2 ⟨rfl,hb⟩;clear c0 cA c1 cG c2 cF c3 cE c4 cC;replace HW:=aa (HW.out.trans (hb.mono HW.out.size));go_wp2_with fail;go_ret;exact⟨by simp[dP,bF],HW.out⟩
  ·have HX:=aa hk;clear hk hz;have HW:=aa (ax w.heap.size w);go_enter dc,cP;obtain⟨x1,kf,ef,jK,bL,jc,aE⟩:=aM w #[.int .i64 1,.bool b,.slice ao l c,.string nm,.slice ko kl kc] 29;replace HX:=aa (HX.out.below bL.out);replace HW:=aa (HW.out.trans (bL.out.mono HW.out.size));obtain⟨⟨c0,c1,c2,c3,c4⟩,cA,cG,cF,cE,cC⟩:=ak aE.out;go_wp2_with fail;refine (kO _ _ ks [] (d - 1) S x1 HX.out (BL.nil _)).mono ?_;rintro e x2 ⟨rfl,hb⟩;clear c0 cA c1 cG c2 cF c3 cE c4 cC;replace HW:=aa (HW.out.trans (hb.mono HW.out.size));go_wp2_with fail;go_ret;exact⟨by simp[dP,bF],HW.out⟩
  ·have HX:=aa hk;clear hk hz;have HW:=aa (ax w.heap.size w);go_enter dc,cP;obtain⟨x1,kf,ef,jK,bL,jc,aE⟩:=aM w #[.int .i64 2,.bool b,.slice ao l c,.string nm,.slice ko kl kc] 29;replace HX:=aa (HX.out.below bL.out);replace HW:=aa (HW.out.trans (bL.out.mono HW.out.size));obtain⟨⟨c0,c1,c2,c3,c4⟩,cA,cG,cF,cE,cC⟩:=ak aE.out;obtain⟨x2,ky,ey,pW,hby,vB,mW⟩:=aM x1 #[.int .i64 0,.int .i64 0] 36;replace HX:=aa (HX.out.below hby.out);replace HW:=aa (HW.out.trans (hby.out.mono HW.out.size));go_wp2_with fail;refine (kO _ _ ks [0,0] (d - 1) S x2 HX.out (BL.block (ss:=[0,0]) mW.out (by decide))).mono ?_;rintro e x3 ⟨rfl,hb⟩;clear c0 cA c1 cG c2 cF c3 cE c4 cC;replace HW:=aa (HW.out.trans (hb.mono HW.out.size))
   go_wp2_with fail;go_ret;exact⟨by simp[dP,bF],HW.out⟩
  ·have HX:=aa hk;clear hk hz;have HW:=aa (ax w.heap.size w);go_enter dc,cP;obtain⟨x1,kf,ef,jK,bL,jc,aE⟩:=aM w #[.int .i64 3,.bool b,.slice ao l c,.string nm,.slice ko kl kc] 29;replace HX:=aa (HX.out.below bL.out);replace HW:=aa (HW.out.trans (bL.out.mono HW.out.size));obtain⟨⟨c0,c1,c2,c3,c4⟩,cA,cG,cF,cE,cC⟩:=ak aE.out;obtain⟨x2,ky,ey,pW,hby,vB,mW⟩:=aM x1 #[.int .i64 0] 36;replace HX:=aa (HX.out.below hby.out);replace HW:=aa (HW.out.trans (hby.out.mono HW.out.size));go_wp2_with fail;refine (kO _ _ ks [0] (d - 1) S x2 HX.out (BL.block (ss:=[0]) mW.out (by decide))).mono ?_;rintro e x3 ⟨rfl,hb⟩;clear c0 cA c1 cG c2 cF c3 cE c4 cC;replace HW:=aa (HW.out.trans (hb.mono HW.out.size));go_wp2_with fail
   go_ret;exact⟨by simp[dP,bF],HW.out⟩
  ·have HX:=aa hk;clear hk hz;have HW:=aa (ax w.heap.size w);go_enter dc,cP;obtain⟨x1,kf,ef,jK,bL,jc,aE⟩:=aM w #[.int .i64 4,.bool b,.slice ao l c,.string nm,.slice ko kl kc] 29;replace HX:=aa (HX.out.below bL.out);replace HW:=aa (HW.out.trans (bL.out.mono HW.out.size));obtain⟨⟨c0,c1,c2,c3,c4⟩,cA,cG,cF,cE,cC⟩:=ak aE.out;obtain⟨x2,ky,ey,pW,hby,vB,mW⟩:=aM x1 #[.int .i64 0,.int .i64 0] 36;replace HX:=aa (HX.out.below hby.out);replace HW:=aa (HW.out.trans (hby.out.mono HW.out.size));go_wp2_with fail;refine (kO _ _ ks [0,0] (d - 1) S x2 HX.out (BL.block (ss:=[0,0]) mW.out (by decide))).mono ?_;rintro e x3 ⟨rfl,hb⟩;clear c0 cA c1 cG c2 cF c3 cE c4 cC;replace HW:=aa (HW.out.trans (hb.mono HW.out.size))
   go_wp2_with fail;go_ret;exact⟨by simp[dP,bF],HW.out⟩
  ·have HX:=aa hk;have HZ:=aa hz;clear hk hz;have HW:=aa (ax w.heap.size w);go_enter dc,cP;obtain⟨x1,kf,ef,jK,bL,jc,aE⟩:=aM w #[.int .i64 5,.bool b,.slice ao l c,.string nm,.slice ko kl kc] 29;replace HX:=aa (HX.out.below bL.out);replace HZ:=aa (HZ.out.below bL.out);replace HW:=aa (HW.out.trans (bL.out.mono HW.out.size));obtain⟨⟨c0,c1,c2,c3,c4⟩,cA,cG,cF,cE,cC⟩:=ak aE.out;go_wp2_with fail;refine (gY _ z 600 x1 HZ.out.gi (by decide)).mono ?_;rintro e x2 ⟨rfl,hb⟩;replace aE:=aS hb aE;replace HX:=aa (HX.out.below hb);replace HW:=aa (HW.out.trans (hb.mono HW.out.size));clear c0 cA c1 cG c2 cF c3 cE c4 cC;clear hb;obtain⟨⟨c0,c1,c2,c3,c4⟩,cA,cG,cF,cE,cC⟩:=ak aE.out;by_cases hs:z<1
   ·have hlt:decide (eX z<1)=true:=by unfold eX;(repeat' split)<;>first | rfl | (simp;omega) | (exfalso;omega)
    have hfit:dP 5 z (eR ks)=false:=by simp[dP,bF];omega
    go_wp2_with fail;go_ret;exact⟨by rw[hfit];rfl,HW.out⟩
   have hlt:decide (eX z<1)=false:=by unfold eX;(repeat' split)<;>first | rfl | (simp;omega) | (exfalso;omega)
   have gV:decide (1<=z)=true:=by simp;omega
   obtain⟨x3,ky,ey,pW,hby,vB,mW⟩:=aM x2 #[.int .i64 0] 36;replace HX:=aa (HX.out.below hby.out);replace HW:=aa (HW.out.trans (hby.out.mono HW.out.size));go_wp2_with fail;refine (kO _ _ ks [0] (d - 1) S x3 HX.out (BL.block (ss:=[0]) mW.out (by decide))).mono ?_;rintro e x4 ⟨rfl,hb⟩;clear c0 cA c1 cG c2 cF c3 cE c4 cC;replace HW:=aa (HW.out.trans (hb.mono HW.out.size));go_wp2_with fail;go_ret;exact⟨by simp[dP,bF,gV],HW.out⟩
  ·have HX:=aa hk;clear hk hz;have HW:=aa (ax w.heap.size w);go_enter dc,cP;obtain⟨x1,kf,ef,jK,bL,jc,aE⟩:=aM w #[.int .i64 6,.bool b,.slice ao l c,.string nm,.slice ko kl kc] 29;replace HX:=aa (HX.out.below bL.out);replace HW:=aa (HW.out.trans (bL.out.mono HW.out.size));obtain⟨⟨c0,c1,c2,c3,c4⟩,cA,cG,cF,cE,cC⟩:=ak aE.out;obtain⟨x2,ky,ey,pW,hby,vB,mW⟩:=aM x1 #[.int .i64 2] 36;replace HX:=aa (HX.out.below hby.out);replace HW:=aa (HW.out.trans (hby.out.mono HW.out.size));go_wp2_with fail;refine (kO _ _ ks [2] (d - 1) S x2 HX.out (BL.block (ss:=[2]) mW.out (by decide))).mono ?_;rintro e x3 ⟨rfl,hb⟩;clear c0 cA c1 cG c2 cF c3 cE c4 cC;replace HW:=aa (HW.out.trans (hb.mono HW.out.size));go_wp2_with fail
   go_ret;exact⟨by simp[dP,bF],HW.out⟩
  ·have HX:=aa hk;clear hk hz;have HW:=aa (ax w.heap.size w);go_enter dc,cP;obtain⟨x1,kf,ef,jK,bL,jc,aE⟩:=aM w #[.int .i64 7,.bool b,.slice ao l c,.string nm,.slice ko kl kc] 29;replace HX:=aa (HX.out.below bL.out);replace HW:=aa (HW.out.trans (bL.out.mono HW.out.size));obtain⟨⟨c0,c1,c2,c3,c4⟩,cA,cG,cF,cE,cC⟩:=ak aE.out;obtain⟨x2,ky,ey,pW,hby,vB,mW⟩:=aM x1 #[.int .i64 2] 36;replace HX:=aa (HX.out.below hby.out);replace HW:=aa (HW.out.trans (hby.out.mono HW.out.size));go_wp2_with fail;refine (kO _ _ ks [2] (d - 1) S x2 HX.out (BL.block (ss:=[2]) mW.out (by decide))).mono ?_;rintro e x3 ⟨rfl,hb⟩;clear c0 cA c1 cG c2 cF c3 cE c4 cC;replace HW:=aa (HW.out.trans (hb.mono HW.out.size));go_wp2_with fail
   go_ret;exact⟨by simp[dP,bF],HW.out⟩
  ·have HX:=aa hk;clear hk hz;have HW:=aa (ax w.heap.size w);go_enter dc,cP;obtain⟨x1,kf,ef,jK,bL,jc,aE⟩:=aM w #[.int .i64 8,.bool b,.slice ao l c,.string nm,.slice ko kl kc] 29;replace HX:=aa (HX.out.below bL.out);replace HW:=aa (HW.out.trans (bL.out.mono HW.out.size));obtain⟨⟨c0,c1,c2,c3,c4⟩,cA,cG,cF,cE,cC⟩:=ak aE.out;go_wp2_with fail;refine (kO _ _ ks [] (d - 1) S x1 HX.out (BL.nil _)).mono ?_;rintro e x2 ⟨rfl,hb⟩;clear c0 cA c1 cG c2 cF c3 cE c4 cC;replace HW:=aa (HW.out.trans (hb.mono HW.out.size));go_wp2_with fail;go_ret;exact⟨by simp[dP,bF],HW.out⟩
  ·have HX:=aa hk;clear hk hz;have HW:=aa (ax w.heap.size w);go_enter dc,cP;obtain⟨x1,kf,ef,jK,bL,jc,aE⟩:=aM w #[.int .i64 9,.bool b,.slice ao l c,.string nm,.slice ko kl kc] 29;replace HX:=aa (HX.out.below bL.out);replace HW:=aa (HW.out.trans (bL.out.mono HW.out.size));obtain⟨⟨c0,c1,c2,c3,c4⟩,cA,cG,cF,cE,cC⟩:=ak aE.out;go_wp2_with fail;refine (kO _ _ ks [] (d - 1) S x1 HX.out (BL.nil _)).mono ?_;rintro e x2 ⟨rfl,hb⟩;clear c0 cA c1 cG c2 cF c3 cE c4 cC;replace HW:=aa (HW.out.trans (hb.mono HW.out.size));go_wp2_with fail;go_ret;exact⟨by simp[dP,bF],HW.out⟩
  ·have HX:=aa hk;clear hk hz;have HW:=aa (ax w.heap.size w);go_enter dc,cP;obtain⟨x1,kf,ef,jK,bL,jc,aE⟩:=aM w #[.int .i64 10,.bool b,.slice ao l c,.string nm,.slice ko kl kc] 29;replace HX:=aa (HX.out.below bL.out);replace HW:=aa (HW.out.trans (bL.out.mono HW.out.size));obtain⟨⟨c0,c1,c2,c3,c4⟩,cA,cG,cF,cE,cC⟩:=ak aE.out;obtain⟨x2,ky,ey,pW,hby,vB,mW⟩:=aM x1 #[.int .i64 0,.int .i64 2] 36;replace HX:=aa (HX.out.below hby.out);replace HW:=aa (HW.out.trans (hby.out.mono HW.out.size));go_wp2_with fail;refine (kO _ _ ks [0,2] (d - 1) S x2 HX.out (BL.block (ss:=[0,2]) mW.out (by decide))).mono ?_;rintro e x3 ⟨rfl,hb⟩;clear c0 cA c1 cG c2 cF c3 cE c4 cC;replace HW:=aa (HW.out.trans (hb.mono HW.out.size))
   go_wp2_with fail;go_ret;exact⟨by simp[dP,bF],HW.out⟩
  ·have HX:=aa hk;clear hk hz;have HW:=aa (ax w.heap.size w);go_enter dc,cP;obtain⟨x1,kf,ef,jK,bL,jc,aE⟩:=aM w #[.int .i64 11,.bool b,.slice ao l c,.string nm,.slice ko kl kc] 29;replace HX:=aa (HX.out.below bL.out);replace HW:=aa (HW.out.trans (bL.out.mono HW.out.size));obtain⟨⟨c0,c1,c2,c3,c4⟩,cA,cG,cF,cE,cC⟩:=ak aE.out;obtain⟨x2,ky,ey,pW,hby,vB,mW⟩:=aM x1 #[.int .i64 2] 36;replace HX:=aa (HX.out.below hby.out);replace HW:=aa (HW.out.trans (hby.out.mono HW.out.size));go_wp2_with fail;refine (kO _ _ ks [2] (d - 1) S x2 HX.out (BL.block (ss:=[2]) mW.out (by decide))).mono ?_;rintro e x3 ⟨rfl,hb⟩;clear c0 cA c1 cG c2 cF c3 cE c4 cC;replace HW:=aa (HW.out.trans (hb.mono HW.out.size))
   go_wp2_with fail;go_ret;exact⟨by simp[dP,bF],HW.out⟩
  ·have HX:=aa hk;clear hk hz;have HW:=aa (ax w.heap.size w);go_enter dc,cP;obtain⟨x1,kf,ef,jK,bL,jc,aE⟩:=aM w #[.int .i64 12,.bool b,.slice ao l c,.string nm,.slice ko kl kc] 29;replace HX:=aa (HX.out.below bL.out);replace HW:=aa (HW.out.trans (bL.out.mono HW.out.size));obtain⟨⟨c0,c1,c2,c3,c4⟩,cA,cG,cF,cE,cC⟩:=ak aE.out;go_wp2_with fail;refine (kO _ _ ks [] (d - 1) S x1 HX.out (BL.nil _)).mono ?_;rintro e x2 ⟨rfl,hb⟩;clear c0 cA c1 cG c2 cF c3 cE c4 cC;replace HW:=aa (HW.out.trans (hb.mono HW.out.size));go_wp2_with fail;go_ret;exact⟨by simp[dP,bF],HW.out⟩
  ·have HX:=aa hk;clear hk hz;have HW:=aa (ax w.heap.size w);go_enter dc,cP;obtain⟨x1,kf,ef,jK,bL,jc,aE⟩:=aM w #[.int .i64 13,.bool b,.slice ao l c,.string nm,.slice ko kl kc] 29;replace HX:=aa (HX.out.below bL.out);replace HW:=aa (HW.out.trans (bL.out.mono HW.out.size));obtain⟨⟨c0,c1,c2,c3,c4⟩,cA,cG,cF,cE,cC⟩:=ak aE.out;go_wp2_with fail;refine (kO _ _ ks [] (d - 1) S x1 HX.out (BL.nil _)).mono ?_;rintro e x2 ⟨rfl,hb⟩;clear c0 cA c1 cG c2 cF c3 cE c4 cC;replace HW:=aa (HW.out.trans (hb.mono HW.out.size));go_wp2_with fail;go_ret;exact⟨by simp[dP,bF],HW.out⟩
  ·have HX:=aa hk;clear hk hz;have HW:=aa (ax w.heap.size w);go_enter dc,cP;obtain⟨x1,kf,ef,jK,bL,jc,aE⟩:=aM w #[.int .i64 14,.bool b,.slice ao l c,.string nm,.slice ko kl kc] 29;replace HX:=aa (HX.out.below bL.out);replace HW:=aa (HW.out.trans (bL.out.mono HW.out.size));obtain⟨⟨c0,c1,c2,c3,c4⟩,cA,cG,cF,cE,cC⟩:=ak aE.out;go_wp2_with fail;refine (kO _ _ ks [] (d - 1) S x1 HX.out (BL.nil _)).mono ?_;rintro e x2 ⟨rfl,hb⟩;clear c0 cA c1 cG c2 cF c3 cE c4 cC;replace HW:=aa (HW.out.trans (hb.mono HW.out.size));go_wp2_with fail;go_ret;exact⟨by simp[dP,bF],HW.out⟩
  ·have HX:=aa hk;clear hk hz;have HW:=aa (ax w.heap.size w);go_enter dc,cP;obtain⟨x1,kf,ef,jK,bL,jc,aE⟩:=aM w #[.int .i64 15,.bool b,.slice ao l c,.string nm,.slice ko kl kc] 29;replace HX:=aa (HX.out.below bL.out);replace HW:=aa (HW.out.trans (bL.out.mono HW.out.size));obtain⟨⟨c0,c1,c2,c3,c4⟩,cA,cG,cF,cE,cC⟩:=ak aE.out;obtain⟨x2,ky,ey,pW,hby,vB,mW⟩:=aM x1 #[.int .i64 0,.int .i64 0] 36;replace HX:=aa (HX.out.below hby.out);replace HW:=aa (HW.out.trans (hby.out.mono HW.out.size));go_wp2_with fail;refine (kO _ _ ks [0,0] (d - 1) S x2 HX.out (BL.block (ss:=[0,0]) mW.out (by decide))).mono ?_;rintro e x3 ⟨rfl,hb⟩;clear c0 cA c1 cG c2 cF c3 cE c4 cC;replace HW:=aa (HW.out.trans (hb.mono HW.out.size))
   go_wp2_with fail;go_ret;exact⟨by simp[dP,bF],HW.out⟩
  ·have HX:=aa hk;clear hk hz;have HW:=aa (ax w.heap.size w);go_enter dc,cP;obtain⟨x1,kf,ef,jK,bL,jc,aE⟩:=aM w #[.int .i64 16,.bool b,.slice ao l c,.string nm,.slice ko kl kc] 29;replace HX:=aa (HX.out.below bL.out);replace HW:=aa (HW.out.trans (bL.out.mono HW.out.size));obtain⟨⟨c0,c1,c2,c3,c4⟩,cA,cG,cF,cE,cC⟩:=ak aE.out;obtain⟨x2,ky,ey,pW,hby,vB,mW⟩:=aM x1 #[.int .i64 0,.int .i64 0] 36;replace aE:=aS hby.out aE;replace HX:=aa (HX.out.below hby.out);replace HW:=aa (HW.out.trans (hby.out.mono HW.out.size));go_wp2_with fail;refine (kO _ _ ks [0,0] (d - 1) S x2 HX.out (BL.block (ss:=[0,0]) mW.out (by decide))).mono ?_;rintro e x3 ⟨rfl,hb⟩;clear c0 cA c1 cG c2 cF c3 cE c4 cC;replace aE:=aS hb aE
   replace HX:=aa (HX.out.below hb);replace HW:=aa (HW.out.trans (hb.mono HW.out.size));obtain⟨⟨c0,c1,c2,c3,c4⟩,cA,cG,cF,cE,cC⟩:=ak aE.out;by_cases hs:eR ks=[0,0]
   ·rw[decide_eq_true hs];go_wp2_with fail;go_ret;exact⟨by simp[dP,bF,hs],HW.out⟩
   rw[decide_eq_false hs];obtain⟨x4,kt,et,Lg,dm,ng,yh⟩:=aM x3 #[.int .i64 2,.int .i64 2] 36;replace HX:=aa (HX.out.below dm.out);replace HW:=aa (HW.out.trans (dm.out.mono HW.out.size));go_wp2_with fail;refine (kO _ _ ks [2,2] (d - 1) S x4 HX.out (BL.block (ss:=[2,2]) yh.out (by decide))).mono ?_;rintro e x5 ⟨rfl,hb⟩;clear c0 cA c1 cG c2 cF c3 cE c4 cC;replace HW:=aa (HW.out.trans (hb.mono HW.out.size));go_wp2_with fail;go_ret;exact⟨by simp[dP,bF,hs],HW.out⟩
  ·have HX:=aa hk;clear hk hz;have HW:=aa (ax w.heap.size w);go_enter dc,cP;obtain⟨x1,kf,ef,jK,bL,jc,aE⟩:=aM w #[.int .i64 17,.bool b,.slice ao l c,.string nm,.slice ko kl kc] 29;replace HX:=aa (HX.out.below bL.out);replace HW:=aa (HW.out.trans (bL.out.mono HW.out.size));obtain⟨⟨c0,c1,c2,c3,c4⟩,cA,cG,cF,cE,cC⟩:=ak aE.out;obtain⟨x2,ky,ey,pW,hby,vB,mW⟩:=aM x1 #[.int .i64 1] 36;replace HX:=aa (HX.out.below hby.out);replace HW:=aa (HW.out.trans (hby.out.mono HW.out.size));go_wp2_with fail;refine (kO _ _ ks [1] (d - 1) S x2 HX.out (BL.block (ss:=[1]) mW.out (by decide))).mono ?_;rintro e x3 ⟨rfl,hb⟩;clear c0 cA c1 cG c2 cF c3 cE c4 cC;replace HW:=aa (HW.out.trans (hb.mono HW.out.size))
   go_wp2_with fail;go_ret;exact⟨by simp[dP,bF],HW.out⟩
  ·have HX:=aa hk;clear hk hz;have HW:=aa (ax w.heap.size w);go_enter dc,cP;obtain⟨x1,kf,ef,jK,bL,jc,aE⟩:=aM w #[.int .i64 18,.bool b,.slice ao l c,.string nm,.slice ko kl kc] 29;replace HX:=aa (HX.out.below bL.out);replace HW:=aa (HW.out.trans (bL.out.mono HW.out.size));obtain⟨⟨c0,c1,c2,c3,c4⟩,cA,cG,cF,cE,cC⟩:=ak aE.out;go_wp2_with fail;refine (Dt _ 1 ks (d - 1) S x1 HX.out).mono ?_;rintro e x2 ⟨rfl,hb⟩;clear c0 cA c1 cG c2 cF c3 cE c4 cC;replace HW:=aa (HW.out.trans (hb.mono HW.out.size));go_wp2_with fail;go_ret;exact⟨by simp[dP,bF],HW.out⟩
  ·have HX:=aa hk;clear hk hz;have HW:=aa (ax w.heap.size w);go_enter dc,cP;obtain⟨x1,kf,ef,jK,bL,jc,aE⟩:=aM w #[.int .i64 19,.bool b,.slice ao l c,.string nm,.slice ko kl kc] 29;replace HX:=aa (HX.out.below bL.out);replace HW:=aa (HW.out.trans (bL.out.mono HW.out.size));obtain⟨⟨c0,c1,c2,c3,c4⟩,cA,cG,cF,cE,cC⟩:=ak aE.out;go_wp2_with fail;refine (Dt _ 1 ks (d - 1) S x1 HX.out).mono ?_;rintro e x2 ⟨rfl,hb⟩;clear c0 cA c1 cG c2 cF c3 cE c4 cC;replace HW:=aa (HW.out.trans (hb.mono HW.out.size));go_wp2_with fail;go_ret;exact⟨by simp[dP,bF],HW.out⟩
  have HX:=aa hk;clear hk hz;have HW:=aa (ax w.heap.size w);go_enter dc,cP;obtain⟨x1,kf,ef,jK,bL,jc,aE⟩:=aM w #[.int .i64 20,.bool b,.slice ao l c,.string nm,.slice ko kl kc] 29;replace HX:=aa (HX.out.below bL.out);replace HW:=aa (HW.out.trans (bL.out.mono HW.out.size));obtain⟨⟨c0,c1,c2,c3,c4⟩,cA,cG,cF,cE,cC⟩:=ak aE.out;obtain⟨x2,ky,ey,pW,hby,vB,mW⟩:=aM x1 #[.int .i64 1,.int .i64 1] 36;replace HX:=aa (HX.out.below hby.out);replace HW:=aa (HW.out.trans (hby.out.mono HW.out.size));go_wp2_with fail;refine (kO _ _ ks [1,1] (d - 1) S x2 HX.out (BL.block (ss:=[1,1]) mW.out (by decide))).mono ?_;rintro e x3 ⟨rfl,hb⟩;clear c0 cA c1 cG c2 cF c3 cE c4 cC;replace HW:=aa (HW.out.trans (hb.mono HW.out.size))
  go_wp2_with fail;go_ret;exact⟨by simp[dP,bF],HW.out⟩
 have n0:(o==0)=false:=beq_eq_false_iff_ne.2 (by omega);have n1:(o==1)=false:=beq_eq_false_iff_ne.2 (by omega);have n2:(o==2)=false:=beq_eq_false_iff_ne.2 (by omega);have n3:(o==3)=false:=beq_eq_false_iff_ne.2 (by omega);have n4:(o==4)=false:=beq_eq_false_iff_ne.2 (by omega);have n5:(o==5)=false:=beq_eq_false_iff_ne.2 (by omega);have n6:(o==6)=false:=beq_eq_false_iff_ne.2 (by omega);have n7:(o==7)=false:=beq_eq_false_iff_ne.2 (by omega);have n8:(o==8)=false:=beq_eq_false_iff_ne.2 (by omega);have n9:(o==9)=false:=beq_eq_false_iff_ne.2 (by omega);have n10:(o==10)=false:=beq_eq_false_iff_ne.2 (by omega);have n11:(o==11)=false:=beq_eq_false_iff_ne.2 (by omega);have n12:(o==12)=false:=beq_eq_false_iff_ne.2 (by omega);have n13:(o==13)=false:=beq_eq_false_iff_ne.2 (by omega)
 have Ru:(o==14)=false:=beq_eq_false_iff_ne.2 (by omega);have n15:(o==15)=false:=beq_eq_false_iff_ne.2 (by omega);have n16:(o==16)=false:=beq_eq_false_iff_ne.2 (by omega);have n17:(o==17)=false:=beq_eq_false_iff_ne.2 (by omega);have n18:(o==18)=false:=beq_eq_false_iff_ne.2 (by omega);have n19:(o==19)=false:=beq_eq_false_iff_ne.2 (by omega);have n20:(o==20)=false:=beq_eq_false_iff_ne.2 (by omega);have hf:dP o z (eR ks)=false:=by
  unfold dP bF;rw[if_neg (by omega),if_neg (by omega),if_neg (by omega),if_neg (by omega),if_neg (by omega),if_neg (by omega),if_neg (by omega),if_neg (by omega),if_neg (by omega)];rfl
 clear h;have HW:=aa ((ax w.heap.size w).alloc (ai _) (.cells #[.int .i64 o,.bool b,.slice ao l c,.string nm,.slice ko kl kc] 29));clear hk hz;go_enter dc,cP;go_wp2_with fail;go_ret;exact⟨by rw[hf];rfl,HW.out⟩
theorem N2 (v:aq) (z:Int) (k:Nat) (w:ag) (h:CI w v z k) :
  aW aj 65 #[v] w fun e w'=>e=.returned (.bool true)/\aA w.heap.size w w':=by
 obtain⟨va,rfl,h1,-⟩:=h;obtain⟨ao,cap,rfl,h2,h3,h4,h5⟩:=h1;by_cases h0:z=0
 ·subst h0;have e0:(fJ aG (Int.natAbs 0)).length=0:=by rw[Int.natAbs_zero,fD];rfl
  rw[e0] at h2 ⊢;rw[show decide ((0:Int)<0)=false from rfl];have HW:=aa ((ax w.heap.size w).alloc (ai _) (.cells #[.bool false,.slice ao 0 cap] 26));clear h5;go_enter Tryz.func65,Tryz.ntmps65;go_wp2_with fail;go_ret;exact⟨rfl,HW.out⟩
 have hp:0<(fJ aG z.natAbs).length:=sI (by omega);have hl:=Dk (B:=aG) (by decide) hp;obtain⟨a,rfl,hc⟩:=h5 ((fJ aG z.natAbs).length - 1) (by omega);clear h5;have C6:nth (fJ aG z.natAbs) ((fJ aG z.natAbs).length - 1)≠0:=by unfold nth;simpa using hl
 clear hl;generalize nth (fJ aG z.natAbs) ((fJ aG z.natAbs).length - 1)=x at hc C6;generalize (fJ aG z.natAbs).length=n at *;generalize decide (z<0)=sg at *;have hne:(x != 0)=true:=by rw[bne_iff_ne];omega
 have Ta:(((n:Nat):Int)==0)=false:=beq_eq_false_iff_ne.2 (by omega);have hcap:cap<=9223372036854775807:=h3;have hb:=(ax w.heap.size w).alloc (ai _) (.cells #[.bool sg,.slice (some a) n cap] 26);have HW:=aa hb;rw[<-hb.cell (World.block_lt_of_cell? w _ hc)] at hc;clear C6 hb h0;have hsub:((n:Nat):Int) - 1=((n - 1:Nat):Int):=by omega
 go_enter Tryz.func65,Tryz.ntmps65;go_wp2_with fail;go_ret;exact⟨rfl,HW.out⟩
theorem JC (ks:List F) (j:Nat) (h:j<ks.length):rts (ks.take (j+1))=(rts (ks.take j) && rt ks[j]):=by
 rw[bH h,nr,List.all_append,nr];simp
theorem GW {ks:List F} {j:Nat} (h:j<ks.length) (hr:rt ks[j]=false):rts ks=false:=by
 rw[nr,List.all_eq_false];exact⟨_,ct h,by simp[hr]⟩
theorem By (d:Nat):∀ (v:aq) (t:F) (S:Nat->Prop) (w:ag),FC w S d v t ->
  aW aj 17 #[v] w fun e w'=>e=.returned (.bool (rt t))/\aA w.heap.size w w':=by
 induction d with
 | zero=>intro v t S w h;obtain⟨_,_,_,_,_,_,_,_,_,h0,_⟩:=h.open;omega
 | succ d ih =>
  intro v t S w h;obtain⟨b,ao,l,c,ko,kl,kc,rfl,⟨hr,hz,iy,hkc,hkm⟩,-,hk⟩:=h.open;obtain⟨o,z,nm,ks⟩:=t;simp only[F.op,F.num,F.name,F.kids] at hr hz hk iy h ⊢;obtain⟨n,hn⟩:∃ n,n=ks.length:=⟨_,rfl⟩;rw[<-hn] at iy;subst iy;have HN:=aa hn;clear hn hr;have HX:=aa hk;have HZ:=aa hz;have U8:=aa h;have IH:=aa ih;clear hk hz h ih;have HW:=aa (ax w.heap.size w);have As:kc<=9223372036854775807:=hkm;go_enter Tryz.func17,Tryz.ntmps17;obtain⟨x1,kf,ef,jK,bL,jc,aE⟩:=aM w #[.int .i64 o,.bool b,.slice ao l c,.string nm,.slice ko kl kc] 29;replace HX:=aa (HX.out.below bL.out);replace HZ:=aa (HZ.out.below bL.out);replace U8:=aa (U8.out.below bL.out);replace HW:=aa (HW.out.trans (bL.out.mono HW.out.size))
  obtain⟨⟨c0,c1,c2,c3,c4⟩,cA,cG,cF,cE,cC⟩:=ak aE.out;go_wp2_with fail;refine (Qz _ (.node o z nm ks) (d+1) S x1 U8.out).mono ?_;rintro e x2 ⟨rfl,hb⟩;clear c0 cA c1 cG c2 cF c3 cE c4 cC;replace aE:=aS hb aE;replace HX:=aa (HX.out.below hb);replace HZ:=aa (HZ.out.below hb);replace HW:=aa (HW.out.trans (hb.mono HW.out.size));simp only[F.op,F.num,F.kids];have qg:rt (.node o z nm ks)=(dP o z (eR ks) && rts ks):=by rw[rt]
  generalize dP o z (eR ks)=p at qg ⊢;obtain⟨⟨c0,c1,c2,c3,c4⟩,cA,cG,cF,cE,cC⟩:=ak aE.out;cases p with
  | false =>
   go_wp2_with fail;go_ret;exact⟨by rw[qg];rfl,HW.out⟩
  | true =>
   go_wp2_with fail;refine (N2 _ z 600 x2 HZ.out).mono ?_;rintro e x3 ⟨rfl,hb⟩;clear c0 cA c1 cG c2 cF c3 cE c4 cC;replace aE:=aS hb aE;replace HX:=aa (HX.out.below hb);replace HW:=aa (HW.out.trans (hb.mono HW.out.size));obtain⟨⟨c0,c1,c2,c3,c4⟩,cA,cG,cF,cE,cC⟩:=ak aE.out;go_wp2_with fail;clear c0 cA c1 cG c2 cF c3 cE c4 cC;go_loopw [17] (fun i wr=>∃ j:Nat,i=.int .i64 (j:Nat)/\j<=kl/\Hid (rts (ks.take j)=true)/\Hid (aA x3.heap.size x3 wr)) (fun i _=>kl - (ei i).toNat)
   case atStart=>exact⟨0,rfl,au _,aa rfl,aa (ax _ _)⟩
   case round =>
    obtain⟨j,rfl,hj,HT,HB⟩:=hrel;replace HX:=aa (HX.out.below HB.out);replace HW:=aa (HW.out.trans (HB.out.mono HW.out.size));by_cases hlt:j<kl
    ·have hz:j<ks.length:=by rw[<-HN.out];exact hlt
     obtain⟨a,bb,qo,ql,qc,po,pl,pc,rfl,⟨c0,c1,c2,c3,c4⟩,hf⟩:=HX.out.cells j hz;have vt:=aa hf;clear hf;obtain⟨x,vA⟩:∃ x,x=ks[j].op:=⟨_,rfl⟩;obtain⟨ym,hnm⟩:∃ x,x=ks[j].name:=⟨_,rfl⟩;rw[<-vA] at c0 vt;rw[<-hnm] at c3 vt;clear vA hnm;obtain⟨x4,k8,e8,VP,Ae,Qf,Aj⟩:=aM wr #[.int .i64 x,.bool bb,.slice qo ql qc,.string ym,.slice po pl pc] 29;replace HW:=aa (HW.out.trans (Ae.out.mono HW.out.size));replace HB:=aa (HB.out.trans (Ae.out.mono HB.out.size));replace vt:=aa (vt.out.below Ae.out);obtain⟨⟨g0,g1,g2,g3,g4⟩,ni,nh,oH,oG,oF⟩:=ak Aj.out;go_wp2_with fail;refine (IH.out _ ks[j] S x4 vt.out).mono ?_;rintro e x5 ⟨rfl,hb⟩;clear g0 ni g1 nh g2 oH g3 oG g4 oF;replace HW:=aa (HW.out.trans (hb.mono HW.out.size))
     replace HB:=aa (HB.out.trans (hb.mono HB.out.size));clear hb vt;have pX:=aa (JC ks j hz);have Me:=aa (GW hz);rw[HT.out] at pX;generalize rt ks[j]=p at pX Me ⊢;cases p with
     | true =>
      go_wp2_with fail;go_roundw
      case rel=>exact⟨j+1,by go_num,hlt,pX,HB⟩
      case measure=>simp[ei];omega
     | false =>
      go_wp2_with fail;go_ret;exact⟨by rw[qg,Me.out (by trivial)];rfl,HW.out⟩
    go_wp2_with fail;go_ret;have e:=HT.out;rw[show j=kl by omega,HN.out,bK] at e;exact⟨by rw[qg,e];rfl,HW.out⟩
end Go.Proofs.YtoncclhbdkjhmaaGreatDoor
namespace Go.Proofs.YtoncclhbdkjhmaaGreatDoor
open Go.RowKit Go.Shelf
set_option maxRecDepth 100000
set_option linter.unusedVariables false
set_option linter.unusedSimpArgs false
attribute [local go_sem] Oper.semAt_some
theorem Ku:(Tryz.prog.info? 44).map (fun i=>(i.zero,i.size,i.bytes))=some (some (.agg #[.string ⟨#[]⟩,.int .i64 0,.bool false,.slice none 0 0,.bool false,.slice none 0 0]),6,88):=by kernel_rfl
structure BU where
 nm:ByteArray
 u:VU
def bC (b:BU):List aq:=.string b.nm::vC b.u
def bV (b:BU):aq:=.agg #[.string b.nm,.int .i64 b.u.k,.bool (decide (b.u.n.z<0)),.slice b.u.n.o b.u.n.l b.u.n.c,.bool b.u.b,.slice b.u.lo b.u.ll b.u.lc]
def bE:El BU where
 e:=44
 t:=32
 n:=6
 b:=88
 z:=.agg #[.string ⟨#[]⟩,.int .i64 0,.bool false,.slice none 0 0,.bool false,.slice none 0 0]
 f:=bC
 R w b:=VR w b.u
 ok e':=26≠e'
 pos:=by decide
 I2:=by decide
 zs:=rfl
 z32:=by intro u hu z;simp only[Value.cells,bz,aU,or_false] at hu;rcases hu with rfl | rfl | rfl | rfl | rfl | rfl<;>(intro h;cases h)
 ht:=Tryz.underlying32
 info:=Ku
 len _:=rfl
 one n:=by
  intro u hu;simp only[bC,vC,bz,aU,or_false] at hu;rcases hu with rfl | rfl | rfl | rfl | rfl | rfl<;>rfl
 n32 n:=by
  intro u hu z;simp only[bC,vC,bz,aU,or_false] at hu;rcases hu with rfl | rfl | rfl | rfl | rfl | rfl<;>(intro h;cases h)
 fr ok f h:=VR.fr h ok f
 own:=by decide
def ki (us:List BU):List (ByteArray × V):=us.map fun b=>(b.nm,b.u.x)
def EL (w:ag) (v:aq) (env:List (ByteArray × V)):Prop:=∃ us,bE.At w v us/\ki us=env
theorem EL.below {w w':ag} {v:aq} {env:List (ByteArray × V)} (h:EL w v env) (hb:aA w.heap.size w w'):EL w' v env:=by
 obtain⟨us,h1,h2⟩:=h;exact⟨us,h1.below hb,h2⟩
theorem mq {w:ag} {v:aq} {us:List BU} (h:bE.At w v us):∃ ko kc,v=.slice ko us.length kc/\us.length<=kc/\kc<=bI/\∀ i (hi:i<us.length),∃ a,ko=some a /\
  w.cell? (a.add (i*6))=some (.string us[i].nm)/\w.cell? ⟨(a.add (i*6)).block,(a.add (i*6)).off+1,none⟩=some (.int .i64 us[i].u.k)/\w.cell? ⟨(a.add (i*6)).block,(a.add (i*6)).off+2,none⟩=some (.bool (decide (us[i].u.n.z<0))) /\
  w.cell? ⟨(a.add (i*6)).block,(a.add (i*6)).off+3,none⟩=some (.slice us[i].u.n.o us[i].u.n.l us[i].u.n.c)/\w.cell? ⟨(a.add (i*6)).block,(a.add (i*6)).off+4,none⟩=some (.bool us[i].u.b)/\w.cell? ⟨(a.add (i*6)).block,(a.add (i*6)).off+5,none⟩=some (.slice us[i].u.lo us[i].u.ll us[i].u.lc)/\VR w us[i].u:=by
 obtain⟨ko,kc,rfl,⟨h1,h2,h3⟩,h4⟩:=h;refine⟨ko,kc,rfl,h1,h2,fun i hi=>?_⟩;obtain⟨a,ha,-,h5,h6⟩:=h4 i hi;have g:∀ j q,(bC us[i])[j]?=some q->w.cell? ((a.add (i*6)).add j)=some q:=fun j q hj=>by rw[vn];exact h5 j q hj
 exact⟨a,ha,g 0 _ rfl,g 1 _ rfl,g 2 _ rfl,g 3 _ rfl,g 4 _ rfl,g 5 _ rfl,h6⟩
abbrev YI:=Nat × BU
def yI (x:YI):Array aq:=#[.int .i64 (x.1:Nat),bV x.2]
theorem zG {α:Type} (l:List α) (k:Nat) (h:k<l.length):(l.drop k).reverse=(l.drop (k+1)).reverse++[l[k]]:=by
 rw[List.drop_eq_getElem_cons h,List.reverse_cons]
theorem Fb (F:Fence) (hd:F.depth=none) (hF:∀ f,F.fn f) (hro:F.round=none) (n Bt:Nat) (ve:aq) (us:List BU) (w:ag) (hB:w.heap[Bt]?=some (.cells #[ve] 154 (0,0))) (hu:bE.At w ve us) :
  SeqStopsK F n aj 222 #[.pointer (some ⟨Bt,0,none⟩)] yI (aA w.heap.size) (fun xs=>xs.map (·.2)=us.reverse) (fun pre=>∃ k,pre.map (·.2)=(us.drop k).reverse/\k<=us.length) us.length w:=by
 intro l J Jx W hW hJ hJx hY h0;obtain⟨ko,kc,rfl,iM,ff,tW⟩:=mq hu;have hkc:kc<=9223372036854775807:=ff;have NN:W.heap[Bt]?=some (.cells #[.slice ko us.length kc] 154 (0,0)):=(hW.block _ (ae hB)).trans hB;have HB:=aa hB;have HU:=aa hu;have HW:=aa hW;have HY:=aa hY;have c0:=af (v:=.slice ko us.length kc) NN 0 rfl;obtain⟨N,hN⟩:∃ N,N=us.length:=⟨_,rfl⟩;have HN:=aa hN;rw[<-hN] at c0 iM HB HU HY ⊢;have J0:=aa h0;clear hW hJ hJx hY h0 hu hB NN tW ff hN;refine callsIn_of_wp Tryz.func222 rfl (hF _) ?_ hro;simp only[Tryz.ntmps222,List.size_toArray,mS,uA,Nat.reduceAdd,Nat.reduceSub,Array.replicate_succ,Array.replicate_zero,List.push_toArray,List.append_toArray,ew,aR];gi_wp2_with fail
 gi_loopw [3] (fun p wr=>∃ (j:Nat) (pre:List YI),p=.int .i64 ((j:Int) - 1)/\j<=N/\Hid (pre.map (·.2)=(us.drop j).reverse)/\Hid (pre.length+j=N)/\Hid (J pre wr)/\Hid (aA w.heap.size w wr)) (fun p _=>(ei p+1).toNat)
 case atStart=>exact⟨N,[],rfl,ai _,aa (by rw[HN.out,List.drop_length];rfl),aa (by simp),J0,HW⟩
 case round =>
  obtain⟨wl,Hv⟩:∃ q,q=wr:=⟨_,rfl⟩;subst Hv;clear c0;obtain⟨j,pre,rfl,hj,HP,HL,HJ,Rs⟩:=hrel;have ZY:wl.heap[Bt]?=some (.cells #[.slice ko N kc] 154 (0,0)):=(Rs.out.block _ (ae HB.out)).trans HB.out;have c0:=af (v:=.slice ko N kc) ZY 0 rfl;clear ZY;cases j with
  | zero =>
   rw[show ((0:Nat):Int) - 1 = -1 by decide];gi_wp2_with fail;go_end0;exact⟨⟨_,rfl⟩,.inl ⟨pre,by rw[HP.out,List.drop_zero],HJ.out⟩⟩
  | succ k =>
   rw[show ((k+1:Nat):Int) - 1=((k:Nat):Int) by omega];have hkn:k<us.length:=by have:=HN.out;omega
   obtain⟨AX,A2,e,-,-,hcs⟩:=mq (HU.out.below Rs.out);injection e with e1 e2 e3;subst e1;obtain⟨a,rfl,d0,d1,d2,d3,d4,d5,-⟩:=hcs k hkn;obtain⟨y,Em⟩:∃ y,y=us[k]:=⟨_,rfl⟩;rw[<-Em] at d0 d1 d2 d3 d4 d5;have HYK:=aa Em;have A3:pre.length<N:=by have:=HL.out;omega
   obtain⟨fn,tmps,assign,body,hy,hR⟩:=HY.out pre (k,y) wl HJ.out A3;simp only[yI,bV] at hy;clear hcs e2 e3 Em A3;gi_wp2_with fail;refine hR.mono ?_;clear hR hy c0 d0 d1 d2 d3 d4 d5;rintro e W2 (⟨rfl,VE,ff⟩ | ⟨rfl,r7⟩)
   ·have HJ2:=aa VE;replace Rs:=aa (Rs.out.trans ff);clear VE ff;gi_wp2_with fail;go_roundw
    case rel=>exact⟨k,pre++[(k,y)],rfl,by omega,aa (by rw[zG us k hkn,cn,HP.out,HYK.out];rfl),aa (by have:=HL.out;simp only[eY,mS,uA];omega),HJ2,Rs⟩
    case measure=>simp[ei]
   have HX2:=aa r7;clear r7;gi_wp2_with fail;(try simp only[aK,aT]);refine aD (results_none rfl _ _ _) rfl ?_;exact⟨⟨_,rfl⟩,.inr ⟨_,⟨k,by rw[zG us k hkn,cn,HP.out,HYK.out];rfl,by omega⟩,HX2.out⟩⟩
theorem QS (ko:Option cB) (n kc:Nat) (w:ag):aW aj 205 #[.slice ko n kc] w fun e w'=>e=.returned (.func (.func 222) #[] #[.pointer (some ⟨w.heap.size,0,none⟩)])/\w'=w.alloc (.cells #[.slice ko n kc] 154):=by
 go_enter Tryz.func205,Tryz.ntmps205;go_wp2_with fail;go_ret;exact⟨rfl,rfl⟩
attribute [local go_sem] Oper.semAt_some
theorem O4 {a b:ByteArray} (h:a≠b):(a.toList==b.toList)=false:=beq_eq_false_iff_ne.2 (fun e=>h (by
 rw[ByteArray.toList_eq,ByteArray.toList_eq] at e
 exact ByteArray.ext (Array.toList_inj.1 e)))
theorem Lr {a b:ByteArray} (h:a=b):(a.toList==b.toList)=true:=by subst h;exact beq_self_eq_true _
theorem Mm (T:Array aq) (k l:Nat) (v u:aq):(#[k,l].zip #[v,u]).foldl (fun t (x:Nat × aq)=>t.setIfInBounds x.1 x.2) T=(T.setIfInBounds k v).setIfInBounds l u:=by simp
theorem gZ {w:ag} {g:Nat} {T:TypeId} {a0 a1 a2 a3 a4:aq} (h:w.heap[g]?=some (.cells #[a0,a1,a2,a3,a4] T (0,0))) (v0 v1 v2 v3 v4:aq) :
  (((((w.setCell ⟨g,0,none⟩ v0).setCell ⟨g,1,none⟩ v1).setCell ⟨g,2,none⟩ v2).setCell ⟨g,3,none⟩ v3).setCell ⟨g,4,none⟩ v4).heap[g]?=some (.cells #[v0,v1,v2,v3,v4] T (0,0)):=by
 have h0:(w.setCell ⟨g,0,none⟩ v0).heap[g]?=some (.cells #[v0,a1,a2,a3,a4] T (0,0)):=aC _ g 0 _ T v0 h;have h1:((w.setCell ⟨g,0,none⟩ v0).setCell ⟨g,1,none⟩ v1).heap[g]?=some (.cells #[v0,v1,a2,a3,a4] T (0,0)):=aC _ g 1 _ T v1 h0;have h2:(((w.setCell ⟨g,0,none⟩ v0).setCell ⟨g,1,none⟩ v1).setCell ⟨g,2,none⟩ v2).heap[g]?=some (.cells #[v0,v1,v2,a3,a4] T (0,0)):=aC _ g 2 _ T v2 h1;have h3:((((w.setCell ⟨g,0,none⟩ v0).setCell ⟨g,1,none⟩ v1).setCell ⟨g,2,none⟩ v2).setCell ⟨g,3,none⟩ v3).heap[g]?=some (.cells #[v0,v1,v2,v3,a4] T (0,0)):=aC _ g 3 _ T v3 h2;exact aC _ g 4 _ T v4 h3
def PR (x:V) (b:Int):V:=if fQ x=b then x else .I 0
theorem VR.sort {w:ag} {u:VU} (h:VR w u):u.k=fQ u.x:=by
 unfold VR at h
 cases hx:u.x<;>rw[hx] at h<;>exact h.1
theorem wu {nm:ByteArray}:∀ (l:List (ByteArray × V)) (a:V),(∀ p ∈ l,p.1≠nm)->l.foldl (fun a p=>if p.1=nm then p.2 else a) a=a
 | [],_,_=>rfl
 | q::l,a,h=>by rw[List.foldl_cons,if_neg (h q (by simp))];exact wu l a (fun p hp=>h p (by simp[hp]))
theorem JD {env:List (ByteArray × V)} {nm:ByteArray} (h:∀ p ∈ env,p.1≠nm):cR env nm=.I 0:=wu env _ h
theorem MO {env:List (ByteArray × V)} {nm:ByteArray} {k:Nat} (hk:k<env.length) (h1:env[k].1=nm) (h2:∀ p ∈ env.drop (k+1),p.1≠nm):cR env nm=env[k].2:=by
 have key:cR (env.take (k+1)++env.drop (k+1)) nm=cR (env.take (k+1)) nm:=by
  unfold cR;rw[List.foldl_append];exact wu _ _ h2
 rw[List.take_append_drop] at key;rw[key,CL env nm k hk,if_pos h1]
def Uz (w4:ag) (nm:ByteArray) (pre:List YI) (W:ag):Prop:=aA w4.heap.size w4 W/\∀ x ∈ pre,x.2.nm≠nm
theorem Uz.own (w4:ag) (nm:ByteArray):OwnFrom w4.heap.size (Uz w4 nm):=by
 rintro pre W W' row ⟨h1,h2⟩ hg hr;exact⟨⟨hg.os.trans h1.os,hg.tape.trans h1.tape,hg.output.trans h1.output,ah h1.size hg.size,fun k hk=>(hg.block k (by have:=h1.size;omega) (fun e=>by have:=(hr k e.symm).1;omega)).trans (h1.block k hk)⟩,h2⟩
def VV (w w4:ag) (kr:Nat) (nm:ByteArray) (b:Int) (c:Code) (pre:List YI) (W:ag):Prop:=
 ∃ pre' x,pre=pre'++[x]/\(∀ y ∈ pre',y.2.nm≠nm)/\x.2.nm=nm/\aA w.heap.size w W/\w4.heap.size<=W.heap.size /\
  ((c=.ret/\x.2.u.k=b/\W.heap[kr]?=some (.cells #[.int .i64 x.2.u.k,.bool (decide (x.2.u.n.z<0)),.slice x.2.u.n.o x.2.u.n.l x.2.u.n.c,.bool x.2.u.b,.slice x.2.u.lo x.2.u.ll x.2.u.lc] 41 (0,0))) \/
   (c=.exit 0/\x.2.u.k≠b/\W.heap[kr]?=some (.cells #[.int .i64 0,.bool false,.slice none 0 0,.bool false,.slice none 0 0] 41 (0,0))))
theorem VV.own (w w4:ag) (kr:Nat) (nm:ByteArray) (b:Int) (c:Code) (hw:w.heap.size<=w4.heap.size) (iH:kr<w4.heap.size):OwnFrom w4.heap.size (VV w w4 kr nm b c):=by
 rintro pre W W' row ⟨pre',x,h1,h2,h3,h4,h6,h5⟩ hg hr;have hkb:W'.heap[kr]?=W.heap[kr]?:=hg.block kr (by omega) (fun e=>by have:=(hr kr e.symm).1;omega);refine⟨pre',x,h1,h2,h3,⟨hg.os.trans h4.os,hg.tape.trans h4.tape,hg.output.trans h4.output,ah h4.size hg.size,fun k hk=>(hg.block k (by have:=h4.size;omega) (fun e=>by have:=(hr k e.symm).1;omega)).trans (h4.block k hk)⟩,ah h6 hg.size,?_⟩;rw[hkb];exact h5
theorem qG {n₀:Nat} {W:ag} {l:Nat} {o o':Obj} (hn:n₀<=l) (h:W.heap[l]?=some o):aA n₀ W (W.putObj l o'):=
 (ax n₀ W).grown (grownBy_putObj' W l o') (by have:=ae h;omega) (fun k e=>by cases e;exact hn)
theorem bA {w W W':ag} {g:Nat} (h:aA w.heap.size w W) (hg:W.grownBy W' (some g)) (hk:w.heap.size<=g):aA w.heap.size w W':=
 ⟨hg.os.trans h.os,hg.tape.trans h.tape,hg.output.trans h.output,ah h.size hg.size,fun k ff=>(hg.block k (by have:=h.size;omega) (fun e=>by injection e with e;omega)).trans (h.block k ff)⟩
theorem Ka (ve:aq) (env:List (ByteArray × V)) (nm:ByteArray) (b:Int) (w:ag) (h:EL w ve env) :
  aW aj 191 #[ve,.string nm,.int .i64 b] w fun e w'=>∃ v,e=.returned v/\VC w' v (PR (cR env nm) b)/\aA w.heap.size w w':=by
 obtain⟨us,hu,rfl⟩:=h;have Zn:=hu;obtain⟨ko,kc,rfl,-,-,-⟩:=mq Zn;obtain⟨N,hN⟩:∃ N,N=us.length:=⟨_,rfl⟩;rw[<-hN];rw[<-hN] at hu;have HU:=aa hu;have HU0:=aa hu;clear hN hu Zn;have HW:=aa (ax w.heap.size w);obtain⟨x1,kn,en,zF,lT,hkn,iu⟩:=aM w #[.string nm] 9;replace HU:=aa (El.At.below HU.out lT.out);replace HW:=aa (HW.out.trans (lT.out.mono HW.out.size));have hkn:Hid (w.heap.size<=kn):=aa (by rw[<-zF];exact ai _);obtain⟨x2,kb,eb,ekb,Ig,hkb,Ai⟩:=aM x1 #[.int .i64 b] 36;replace iu:=aS Ig.out iu;replace HU:=aa (El.At.below HU.out Ig.out);replace HW:=aa (HW.out.trans (Ig.out.mono HW.out.size))
 obtain⟨x3,kr,er,pE,cN,iH,aJ⟩:=aM x2 #[.int .i64 0,.bool false,.slice none 0 0,.bool false,.slice none 0 0] 41;replace iu:=aS cN.out iu;replace Ai:=aS cN.out Ai;replace HU:=aa (El.At.below HU.out cN.out);replace HW:=aa (HW.out.trans (cN.out.mono HW.out.size));have Yk:Hid (w.heap.size<=kr):=aa (by rw[<-pE];exact ah (lT.out.size) (Ig.out.size));obtain⟨x4,kt,et,Lg,dm,ng,yh⟩:=aM x3 #[.slice ko N kc] 154;replace iu:=aS dm.out iu;replace Ai:=aS dm.out Ai;replace aJ:=aS dm.out aJ;replace HU:=aa (El.At.below HU.out dm.out);replace HW:=aa (HW.out.trans (dm.out.mono HW.out.size));have nP:Hid (kr<x4.heap.size/\kn<x4.heap.size/\kb<x4.heap.size):=aa ⟨ae aJ.out,ae iu.out,ae Ai.out⟩
 refine callsIn_wide.1 (callsIn_of_wp_marks (F:=Fence.wide) (n:=9) Tryz.func191 rfl trivial ?_ rfl);simp only[Tryz.ntmps191,List.size_toArray,mS,uA,Nat.reduceAdd,Nat.reduceSub,Array.replicate_succ,Array.replicate_zero,List.push_toArray,List.append_toArray,ew,aR];refine wpIn_wide.2 ?_;go_wp2_with (first | (refine (QS ko N kc _).mono ?_;rintro e w' ⟨rfl,rfl⟩;rw[et,Lg]) | fail);refine (wpIn_wide (n:=9)).1 ?_;refine wpIn_rangeFunc_ownH rfl (by decide) (gf:=222) (lb:=#[.pointer (some ⟨kt,0,none⟩)]) rfl trivial (enters_of Tryz.func222 (by kernel_rfl) rfl) (Fb Fence.wide rfl (fun _=>trivial) rfl 8 kt _ us x4 yh.out HU.out) (fun h k=>h.trans k) (fun W l o o' hl h hc _=>qG hl h) (ax _ _) (fun _=>rfl)
  (Uz x4 nm) (VV w x4 kr nm b) (Uz.own _ _) (fun c=>VV.own _ _ _ _ _ _ HW.out.size nP.out.1) ⟨ax _ _,fun x h=>by cases h⟩
  (fun y a' W=>∃ kp,W.heap[kp]?=some (.cells #[.string y.2.nm,.int .i64 y.2.u.k,.bool (decide (y.2.u.n.z<0)),.slice y.2.u.n.o y.2.u.n.l y.2.u.n.c,.bool y.2.u.b,.slice y.2.u.lo y.2.u.ll y.2.u.lc] 44 (0,0))/\a'=⟨#[.slice ko N kc,.string nm,.int .i64 b,undef,.pointer (some ⟨kn,0,none⟩),.pointer (some ⟨kb,0,none⟩),.pointer (some ⟨kr,0,none⟩),undef,.pointer (some ⟨kp,0,none⟩),.slice ko N kc,.func (.func 222) #[] #[.pointer (some ⟨kt,0,none⟩)],.int .i64 (y.1:Nat),bV y.2,undef,undef,undef,undef,undef,undef,undef,undef,undef,undef,undef,undef],[]⟩) ?hax ?assign ?body ?done ?stop
 case hax =>
  rintro y a' _ W W' row ⟨kp,h1,h2⟩ hg hr;exact⟨kp,(hg.block kp (ae h1) (fun e=>by obtain⟨-,o,ho,hc⟩:=hr kp e.symm;rw[h1] at ho;injection ho with ho;subst ho;cases hc)).trans h1,h2⟩
 case assign =>
  rintro l pre y W K hI hK;have HK0:=aa hK;have HI0:=aa hI;clear hK hI;rw[show yI y=#[.int .i64 (y.1:Nat),bV y.2] from rfl,Mm];simp only[bV,List.setIfInBounds_toArray,bD,List.set_cons_zero];gi_wp2_with fail;refine HK0.out _ _ ((KeepsOthers.alloc _ _).from _) (((ax _ _).alloc (ai _) _).mono HI0.out.1.size) ((Uz.own _ _).alloc _ HI0.out) ⟨W.heap.size,dh W _ _ rfl,?_⟩;rfl
 case body =>
  rintro l pre y a' W hl - ⟨hI,hpre⟩ ⟨kp,hB,rfl⟩ hlen;obtain⟨i,y⟩:=y;simp only[bV];simp only at hB;have HI:=aa hI;have Re:=aa hpre;have vG:=aa hB;have YM:=aS hI iu;have YN:=aS hI Ai;have je:=aS hI aJ;clear hI hpre hB hlen;have c0:=af (v:=.string y.nm) vG.out 0 rfl;have cA:=aP vG.out 0;have c1:=af (v:=.int .i64 y.u.k) vG.out 1 rfl;have cG:=aP vG.out 1;have c2:=af (v:=.bool (decide (y.u.n.z<0))) vG.out 2 rfl;have cF:=aP vG.out 2;have c3:=af (v:=.slice y.u.n.o y.u.n.l y.u.n.c) vG.out 3 rfl;have cE:=aP vG.out 3;have c4:=af (v:=.bool y.u.b) vG.out 4 rfl;have cC:=aP vG.out 4;have c5:=af (v:=.slice y.u.lo y.u.ll y.u.lc) vG.out 5 rfl;have fc5:=aP vG.out 5
  have d0:=af (v:=.string nm) YM.out 0 rfl;have e0:=af (v:=.int .i64 b) YN.out 0 rfl;by_cases hnm:y.nm=nm
  ·have hne:(y.nm.toList==nm.toList)=true:=Lr hnm;have Mf:=aa hnm;clear hnm;by_cases hkb:y.u.k=b
   ·have hkk:(y.u.k==b)=true:=by rw[hkb];exact beq_self_eq_true _
    have DM:=aa hkb;clear hkb;have f0:=aP je.out 0;have r0:=af (v:=.int .i64 0) je.out 0 rfl;have f1:=aP je.out 1;have r1:=af (v:=.bool false) je.out 1 rfl;have f2:=aP je.out 2;have r2:=af (v:=.slice none 0 0) je.out 2 rfl;have f3:=aP je.out 3;have r3:=af (v:=.bool false) je.out 3 rfl;have f4:=aP je.out 4;have r4:=af (v:=.slice none 0 0) je.out 4 rfl;gi_wp2_with fail;refine⟨KeepsFrom.of_grownBy (row:=some kr) (bR _ _ _ _ _) (fun j e=>by injection e with e;have:=nP.out.1;omega),pre,(i,y),rfl,Re.out,Mf.out,bA (HW.out.trans (HI.out.mono HW.out.size)) (bR _ _ _ _ _) Yk.out,ah HI.out.size (bR (k:=kr) _ _ _ _ _).size,.inl ⟨rfl,DM.out,gZ je.out _ _ _ _ _⟩⟩
   have hkk:(y.u.k==b)=false:=by rw[beq_eq_false_iff_ne];exact hkb
   have DM:=aa hkb;clear hkb;gi_wp2_with fail;exact⟨KeepsFrom.refl _ _,pre,(i,y),rfl,Re.out,Mf.out,HW.out.trans (HI.out.mono HW.out.size),HI.out.size,.inr ⟨rfl,DM.out,je.out⟩⟩
  have hne:(y.nm.toList==nm.toList)=false:=O4 hnm;have Mf:=aa hnm;clear hnm;gi_wp2_with fail;refine⟨KeepsFrom.refl _ _,ax _ _,HI.out,fun x hx=>?_⟩;rcases List.mem_append.1 hx with hx | hx
  ·exact Re.out x hx
  rw[aZ] at hx;subst hx;exact Mf.out
 case done =>
  rintro D xs W hD hS ⟨hI,hx⟩ TF;have hno:cR (ki us) nm=.I 0:=JD (fun p hp=>by
   obtain⟨q,hq,rfl⟩:=List.mem_map.1 hp;have:q ∈ us.reverse:=by simpa using hq
   rw[<-hS] at this;obtain⟨x,No,rfl⟩:=List.mem_map.1 this;exact hx x No)
  have Ah:=aa hno;have HI:=aa hI;have RS:=aa TF;have HD:=aa hD;have je:=aS hI aJ;clear hno hI TF hD hx hS;have f0:=aP je.out 0;have r0:=af (v:=.int .i64 0) je.out 0 rfl;have f1:=aP je.out 1;have r1:=af (v:=.bool false) je.out 1 rfl;have f2:=aP je.out 2;have r2:=af (v:=.slice none 0 0) je.out 2 rfl;have f3:=aP je.out 3;have r3:=af (v:=.bool false) je.out 3 rfl;have f4:=aP je.out 4;have r4:=af (v:=.slice none 0 0) je.out 4 rfl;go_wp2_with fail;have hg:W.grownBy (((((W.setCell ⟨kr,0,none⟩ (.int .i64 0)).setCell ⟨kr,1,none⟩ (.bool false)).setCell ⟨kr,2,none⟩ (.slice none 0 0)).setCell ⟨kr,3,none⟩ (.bool false)).setCell ⟨kr,4,none⟩ (.slice none 0 0)) (some kr):=bR _ _ _ _ _
  have hs:=gZ je.out (.int .i64 0) (.bool false) (.slice none 0 0) (.bool false) (.slice none 0 0);obtain⟨W5,XF⟩:∃ q,q=((((W.setCell ⟨kr,0,none⟩ (.int .i64 0)).setCell ⟨kr,1,none⟩ (.bool false)).setCell ⟨kr,2,none⟩ (.slice none 0 0)).setCell ⟨kr,3,none⟩ (.bool false)).setCell ⟨kr,4,none⟩ (.slice none 0 0):=⟨_,rfl⟩;rw[<-XF] at hg hs ⊢;have OV:=(hg.block D (ae RS.out) (fun e=>by injection e with e;have:=nP.out.1;have:=HD.out;omega)).trans RS.out;refine⟨by simp,.inl ⟨_,_,rfl,run_takeDeferred OV,?_⟩⟩;have hp:aA w.heap.size w (W5.putObj D (.deferred none)):=(bA (HW.out.trans (HI.out.mono HW.out.size)) hg Yk.out).trans (qG (ah HW.out.size HD.out) OV)
  have P7:(W5.putObj D (.deferred none)).heap[kr]?=some (.cells #[.int .i64 0,.bool false,.slice none 0 0,.bool false,.slice none 0 0] 41 (0,0)):=by
   rw[World.putObj_heap_other (by have:=nP.out.1;have:=HD.out;omega)];exact hs
  obtain⟨⟨q0,q1,q2,q3,q4⟩,-⟩:=ak P7;exact⟨.agg #[.int .i64 0,.bool false,.slice none 0 0,.bool false,.slice none 0 0],by simp[results,Tryz.results191,go_sem,q0,q1,q2,q3,q4],_,rfl,by rw[show PR (cR (ki us) nm) b=V.I 0 from by unfold PR;rw[Ah.out];split<;>rfl];exact⟨v0,rfl,rfl,Wk _⟩,(by first | exact hp | (rw[<-zF];exact hp))⟩
 case stop =>
  rintro D c pre W hD ⟨m,hm,hmn⟩ ⟨pre',x,rfl,h2,h3,h4,h6,h5⟩ TF;obtain⟨k,hk,PY,hlk⟩:∃ k,∃ (hk:k<us.length),x.2=us[k]/\∀ p ∈ us.drop (k+1),p.nm≠nm:=by
   rw[cn] at hm;have hml:m<us.length:=by
    have:=congrArg d_ hm;simp at this;omega
   rw[zG us m hml] at hm;have KE:=List.append_inj' hm rfl;refine⟨m,hml,by simpa using KE.2,fun p hp=>?_⟩;have Hx:p ∈ (us.drop (m+1)).reverse:=by simpa using hp
   rw[<-KE.1] at Hx;obtain⟨q,hq1,rfl⟩:=List.mem_map.1 Hx;exact h2 q hq1
  have SQ:cR (ki us) nm=x.2.u.x:=by
   rw[MO (k:=k) (by unfold ki;simpa using hk) (by unfold ki;simp only[gp];rw[<-PY];exact h3) (fun p hp=>by
    unfold ki at hp;rw[<-List.map_drop] at hp;obtain⟨q,hq,rfl⟩:=List.mem_map.1 hp;exact hlk q hq)]
   unfold ki;simp only[gp];rw[<-PY]
  obtain⟨_,_,_,_,_,hcs⟩:=mq HU0.out;obtain⟨_,_,_,_,_,_,_,_,OE⟩:=hcs k hk;rw[<-PY] at OE;have KD:=OE.sort;have Q6:=aa OE;have Ah:=aa SQ;have HI:=aa h4;have RS:=aa TF;have HD:=aa hD;clear OE SQ h4 TF hD h6 hcs PY hlk hm hmn h2;rcases h5 with ⟨rfl,hkb,cN⟩ | ⟨rfl,hkb,cN⟩
  ·refine (wpIn_wide (n:=9)).2 ?_;go_wp2_with fail;have OV:=RS.out;refine⟨by simp,.inl ⟨_,_,rfl,run_takeDeferred OV,?_⟩⟩;have hp:aA w.heap.size w (W.putObj D (.deferred none)):=HI.out.trans (qG (ah HW.out.size HD.out) OV);have P7:(W.putObj D (.deferred none)).heap[kr]?=_:=(World.putObj_heap_other (by have:=nP.out.1;have:=HD.out;omega)).trans cN;obtain⟨⟨q0,q1,q2,q3,q4⟩,-⟩:=ak P7;refine⟨vV x.2.u,by simp[results,Tryz.results191,go_sem,q0,q1,q2,q3,q4,vV],_,rfl,⟨x.2.u,rfl,?_,?_⟩,(by first | exact hp | (rw[<-zF];exact hp))⟩
   ·rw[Ah.out];unfold PR;rw[if_pos (by rw[<-KD];exact hkb)]
   exact Q6.out.below hp
  refine (wpIn_wide (n:=9)).2 ?_;have je:=aa cN;have hnb:fQ x.2.u.x≠b:=by rw[<-KD];exact hkb
  have V6:=aa hnb;clear cN hkb KD hnb h3;have f0:=aP je.out 0;have r0:=af (v:=.int .i64 0) je.out 0 rfl;have f1:=aP je.out 1;have r1:=af (v:=.bool false) je.out 1 rfl;have f2:=aP je.out 2;have r2:=af (v:=.slice none 0 0) je.out 2 rfl;have f3:=aP je.out 3;have r3:=af (v:=.bool false) je.out 3 rfl;have f4:=aP je.out 4;have r4:=af (v:=.slice none 0 0) je.out 4 rfl;go_wp2_with fail;have hg:W.grownBy (((((W.setCell ⟨kr,0,none⟩ (.int .i64 0)).setCell ⟨kr,1,none⟩ (.bool false)).setCell ⟨kr,2,none⟩ (.slice none 0 0)).setCell ⟨kr,3,none⟩ (.bool false)).setCell ⟨kr,4,none⟩ (.slice none 0 0)) (some kr):=bR _ _ _ _ _
  have hs:=gZ je.out (.int .i64 0) (.bool false) (.slice none 0 0) (.bool false) (.slice none 0 0);obtain⟨W5,XF⟩:∃ q,q=((((W.setCell ⟨kr,0,none⟩ (.int .i64 0)).setCell ⟨kr,1,none⟩ (.bool false)).setCell ⟨kr,2,none⟩ (.slice none 0 0)).setCell ⟨kr,3,none⟩ (.bool false)).setCell ⟨kr,4,none⟩ (.slice none 0 0):=⟨_,rfl⟩;rw[<-XF] at hg hs ⊢;have OV:=(hg.block D (ae RS.out) (fun e=>by injection e with e;have:=nP.out.1;have:=HD.out;omega)).trans RS.out;refine⟨by simp,.inl ⟨_,_,rfl,run_takeDeferred OV,?_⟩⟩;have hp:aA w.heap.size w (W5.putObj D (.deferred none)):=(bA (HI.out) hg Yk.out).trans (qG (ah HW.out.size HD.out) OV)
  have P7:(W5.putObj D (.deferred none)).heap[kr]?=some (.cells #[.int .i64 0,.bool false,.slice none 0 0,.bool false,.slice none 0 0] 41 (0,0)):=by
   rw[World.putObj_heap_other (by have:=nP.out.1;have:=HD.out;omega)];exact hs
  obtain⟨⟨q0,q1,q2,q3,q4⟩,-⟩:=ak P7;exact⟨.agg #[.int .i64 0,.bool false,.slice none 0 0,.bool false,.slice none 0 0],by simp[results,Tryz.results191,go_sem,q0,q1,q2,q3,q4],_,rfl,by rw[show PR (cR (ki us) nm) b=V.I 0 from by unfold PR;rw[Ah.out,if_neg V6.out]];exact⟨v0,rfl,rfl,Wk _⟩,(by first | exact hp | (rw[<-zF];exact hp))⟩
end Go.Proofs.YtoncclhbdkjhmaaGreatDoor
namespace Go.Proofs.YtoncclhbdkjhmaaGreatDoor
open Go.RowKit
set_option maxRecDepth 100000
set_option linter.unusedVariables false
set_option linter.unusedSimpArgs false
theorem eF (k:Int) (b:Bool) (o:Option cB) (l c:Nat) (d:Bool) (p:Option cB) (m q:Nat) (w:ag) :
  (lP 41 (.agg #[.int .i64 k,.bool b,.slice o l c,.bool d,.slice p m q]) 0).run aj w=.ok (.int .i64 k) w:=by
 unfold lP;simp[go_sem,asAgg]
theorem eE (k:Int) (b:Bool) (o:Option cB) (l c:Nat) (d:Bool) (p:Option cB) (m q:Nat) (w:ag) :
  (lP 41 (.agg #[.int .i64 k,.bool b,.slice o l c,.bool d,.slice p m q]) 1).run aj w=.ok (.agg #[.bool b,.slice o l c]) w:=by
 unfold lP;simp[go_sem,asAgg]
theorem eC (k:Int) (b:Bool) (o:Option cB) (l c:Nat) (d:Bool) (p:Option cB) (m q:Nat) (w:ag) :
  (lP 41 (.agg #[.int .i64 k,.bool b,.slice o l c,.bool d,.slice p m q]) 2).run aj w=.ok (.bool d) w:=by
 unfold lP;simp[go_sem,asAgg]
theorem eB (k:Int) (b:Bool) (o:Option cB) (l c:Nat) (d:Bool) (p:Option cB) (m q:Nat) (w:ag) :
  (lP 41 (.agg #[.int .i64 k,.bool b,.slice o l c,.bool d,.slice p m q]) 3).run aj w=.ok (.slice p m q) w:=by
 unfold lP;simp[go_sem,asAgg]
theorem CI.tight {w:ag} {v:aq} {z:Int} {k:Nat} (h:CI w v z k) (hz:z.natAbs<aG ^ 600):CI w v z 600:=by
 obtain⟨va,h1,h2,_⟩:=h;exact⟨va,h1,h2,hz⟩
theorem EL.shape {w:ag} {v:aq} {env:List (ByteArray × V)} (h:EL w v env):∃ eo en ec,v=.slice eo en ec:=by
 obtain⟨us,⟨ko,kc,rfl,-⟩,-⟩:=h;exact⟨_,_,_,rfl⟩
theorem NL.nil (w:ag):NL w (.slice none 0 0) []:=⟨[],El.At.nil w,rfl⟩
theorem VC.lk2 {w:ag} {v:aq} {x:V} (h:VC w v (PR x 2)):∃ k b o l c d p m q,v=.agg #[.int .i64 k,.bool b,.slice o l c,.bool d,.slice p m q]/\NL w (.slice p m q) (mN x):=by
 cases x with
 | I z=>obtain⟨o,l,c,rfl,-⟩:=VC.int (z:=0) h;exact⟨_,_,_,_,_,_,_,_,_,rfl,NL.nil w⟩
 | B b=>obtain⟨o,l,c,rfl,-⟩:=VC.int (z:=0) h;exact⟨_,_,_,_,_,_,_,_,_,rfl,NL.nil w⟩
 | L l=>obtain⟨o,l',c,rfl,hn⟩:=VC.list (zs:=l) h;exact⟨_,_,_,_,_,_,_,_,_,rfl,hn⟩
theorem iX {o z:Int} {nm:ByteArray} {ks:List F} (h:rt (.node o z nm ks)=true):dP o z (eR ks)=true/\∀ f ∈ ks,rt f=true:=by
 rw[rt,Bool.and_eq_true,nr,List.all_eq_true] at h;exact h
theorem yK {ks:List F} (h:eR ks=[]):ks=[]:=by
 unfold eR at h;simpa using h
theorem nY {ks:List F} {s:Int} (h:eR ks=[s]):∃ p,ks=[p]/\eI p.op=s:=by
 unfold eR at h;match ks,h with
 | [p],h=>exact⟨p,rfl,by simpa using h⟩
 | [],h=>simp at h
 | _::_::_,h=>simp at h
theorem nX {ks:List F} {s r:Int} (h:eR ks=[s,r]):∃ p q,ks=[p,q]/\eI p.op=s/\eI q.op=r:=by
 unfold eR at h;match ks,h with
 | [p,q],h=>exact⟨p,q,rfl,by simpa using h⟩
 | [],h=>simp at h
 | [_],h=>simp at h
 | _::_::_::_,h=>simp at h
theorem jJ {o z:Int} {ss:List Int} (h:dP o z ss=true):0<=o/\o<=20:=by
 rcases CO o with h1 | h1
 ·omega
 exfalso;unfold dP bF at h;rw[if_neg (by omega),if_neg (by omega),if_neg (by omega),if_neg (by omega),if_neg (by omega),if_neg (by omega),if_neg (by omega),if_neg (by omega),if_neg (by omega)] at h;simp at h
def zZ (w:ag) (p:cB) (o:Int) (b:Bool) (ao:Option cB) (l c:Nat) (nm:ByteArray) (ko:Option cB) (kl kc:Nat):Prop:=
 w.cell? p=some (.int .i64 o)/\w.cell? ⟨p.block,p.off+1,none⟩=some (.bool b)/\w.cell? ⟨p.block,p.off+2,none⟩=some (.slice ao l c)/\w.cell? ⟨p.block,p.off+3,none⟩=some (.string nm)/\w.cell? ⟨p.block,p.off+4,none⟩=some (.slice ko kl kc)
theorem zZ.below {w w':ag} {p:cB} {o:Int} {b:Bool} {ao:Option cB} {l c:Nat} {nm:ByteArray} {ko:Option cB} {kl kc:Nat} (h:zZ w p o b ao l c nm ko kl kc) (hb:aA w.heap.size w w'):zZ w' p o b ao l c nm ko kl kc:=by
 obtain⟨h0,h1,h2,h3,h4⟩:=h;have key:∀ q v,w.cell? q=some v->w'.cell? q=some v:=fun q v h=>by rw[hb.cell (World.block_lt_of_cell? w _ h)];exact h
 exact⟨key _ _ h0,key _ _ h1,key _ _ h2,key _ _ h3,key _ _ h4⟩
theorem FL.first {w:ag} {S:Nat->Prop} {d:Nat} {ko:Option cB} {n kc:Nat} {p:F} {l:List F} (h:FL w S d (.slice ko n kc) (p::l)):∃ (a:cB) (b:Bool) (o:Option cB) (l c:Nat) (po:Option cB) (pl pc:Nat),ko=some a /\
  (w.cell? a=some (.int .i64 p.op)/\w.cell? ⟨a.block,a.off+1,none⟩=some (.bool b)/\w.cell? ⟨a.block,a.off+2,none⟩=some (.slice o l c) /\
   w.cell? ⟨a.block,a.off+3,none⟩=some (.string p.name)/\w.cell? ⟨a.block,a.off+4,none⟩=some (.slice po pl pc)) /\
  FC w S d (.agg #[.int .i64 p.op,.bool b,.slice o l c,.string p.name,.slice po pl pc]) p:=by
 have:=h.cells 0 (by simp)
 simpa [nM] using this
theorem FL.second {w:ag} {S:Nat->Prop} {d:Nat} {ko:Option cB} {n kc:Nat} {p q:F} {l:List F} (h:FL w S d (.slice ko n kc) (p::q::l)):∃ (a:cB) (b:Bool) (o:Option cB) (l c:Nat) (po:Option cB) (pl pc:Nat),ko=some a /\
  (w.cell? ⟨a.block,a.off+5,none⟩=some (.int .i64 q.op)/\w.cell? ⟨a.block,a.off+5+1,none⟩=some (.bool b)/\w.cell? ⟨a.block,a.off+5+2,none⟩=some (.slice o l c) /\
   w.cell? ⟨a.block,a.off+5+3,none⟩=some (.string q.name)/\w.cell? ⟨a.block,a.off+5+4,none⟩=some (.slice po pl pc)) /\
  FC w S d (.agg #[.int .i64 q.op,.bool b,.slice o l c,.string q.name,.slice po pl pc]) q:=by
 have:=h.cells 1 (by simp)
 simpa [nM] using this
attribute [local go_sem] eF eE eC eB
attribute [local go_sem] eF eE eC eB
theorem cH {o:Int} {b:Bool} {ao:Option cB} {l c:Nat} {nm:ByteArray} {ko:Option cB} {kl kc:Nat}:pQ (#[Value.int .i64 o,.bool b,.slice ao l c,.string nm,.slice ko kl kc]:Array aq).toList:=by
 intro u hu z;simp only[bz,aU,or_false] at hu;rcases hu with rfl | rfl | rfl | rfl | rfl<;>(intro h;cases h)
theorem NL.tail {w:ag} {ko:Option cB} {n kc:Nat} {zs:List Int} (h:NL w (.slice ko n kc) zs):NL w (sliced ko (min 1 n) n kc 2) zs.tail:=by
 obtain⟨ns,h1,rfl⟩:=h;have hn:n=ns.length:=by obtain⟨_,_,e,_⟩:=h1;injection e
 subst hn;have:=h1.sub (i:=min 1 ns.length) (j:=ns.length) (Nat.min_le_right _ _) (ai _);refine⟨_,this,?_⟩;cases ns with
 | nil=>rfl
 | cons a l=>simp[Nat.min_eq_left]
attribute [local go_sem] eF eE eC eB
attribute [local go_sem] eF eE eC eB
theorem VC.shape {w:ag} {v:aq} {x:V} (h:VC w v x):∃ k b o l c p m q,v=.agg #[.int .i64 k,.bool b,.slice o l c,.bool (gU x),.slice p m q]:=by
 cases x with
 | I z=>obtain⟨o,l,c,rfl,-⟩:=h.int;exact⟨_,_,_,_,_,_,_,_,rfl⟩
 | B b=>have:=h.bool;subst this;exact⟨_,_,_,_,_,_,_,_,rfl⟩
 | L l=>obtain⟨o,l',c,rfl,-⟩:=h.list;exact⟨_,_,_,_,_,_,_,_,rfl⟩
attribute [local go_sem] eF eE eC eB
def tS:Nat->Prop:=fun _=>True
theorem FC.R6 {w:ag} {S:Nat->Prop} {d:Nat} {v0 v1 v2 v3 v4:aq} {t:F} (h:FC w S d (.agg #[v0,v1,v2,v3,v4]) t):∃ u:FU,fC u=[v0,v1,v2,v3,v4]/\FT w S d u t:=by
 obtain⟨u,e,h⟩:=h;refine⟨u,?_,h⟩;unfold fV at e;injection e with e;unfold fC;have:=congrArg Array.toList e
 simpa using this.symm
theorem FL.one {w:ag} {S:Nat->Prop} {d g:Nat} {v0 v1 v2 v3 v4:aq} {t:F} (hB:w.heap[g]?=some (.cells #[v0,v1,v2,v3,v4] 29 (0,0))) (hS:S g) (h:FC w S d (.agg #[v0,v1,v2,v3,v4]) t):FL w S d (.slice (some ⟨g,0,none⟩) 1 1) [t]:=by
 obtain⟨u,hu,hT⟩:=h.R6;refine⟨[(u,t)],⟨_,_,rfl,⟨ai _,by decide,fun h=>by cases h⟩,fun _ a ha=>by injection ha with ha;subst ha;exact hS,fun i hi=>?_⟩,rfl⟩;obtain rfl:i=0:=by simp at hi;omega
 refine⟨⟨_,rfl,fun j v hj=>?_⟩,hT⟩;have A7:(fC u)[j]?=some v:=hj;rw[hu] at A7;rw[lD,lD,show 0+0*(fE d).n+j=j by omega,cell_of_row w g _ _ _ _ hB];simpa using A7
theorem Fx {w0 w:ag} {k:Nat} {c:Array aq} (hb:aA w0.heap.size w0 w) (hB:w.heap[k]?=some (.cells c 29 (0,0))) (h32:pQ c.toList) (hk:w0.heap.size<=k) (v0 v1 v2 v3 v4:aq) :
  Fr 29 w (((((w.setCell ⟨k,0,none⟩ v0).setCell ⟨k,1,none⟩ v1).setCell ⟨k,2,none⟩ v2).setCell ⟨k,3,none⟩ v3).setCell ⟨k,4,none⟩ v4)/\aA w0.heap.size w0 (((((w.setCell ⟨k,0,none⟩ v0).setCell ⟨k,1,none⟩ v1).setCell ⟨k,2,none⟩ v2).setCell ⟨k,3,none⟩ v3).setCell ⟨k,4,none⟩ v4):=
 ⟨.aL (bR v0 v1 v2 v3 v4) (fun g hg=>by injection hg with hg;subst hg;exact⟨_,hB,h32⟩),hb.trans ((jH (bR v0 v1 v2 v3 v4) (Nat.le_of_lt (by have:=ae hB;omega)) hk).mono (ai _))⟩
def mI (b:Int):Int:=if b=1 then 14 else if b=2 then 8 else 1
theorem RZ (nm:ByteArray) (b:Int) (w:ag) :
  aW aj 28 #[.string nm,.int .i64 b] w fun e w'=>e=.returned (.agg #[.int .i64 (mI b),.bool false,.slice none 0 0,.string nm,.slice none 0 0])/\aA w.heap.size w w':=by
 have hb:b=1\/b=2\/(b≠1/\b≠2):=by omega
 rcases hb with rfl | rfl | ⟨h1,h2⟩
 ·have HW:=aa (ax w.heap.size w);go_enter Tryz.func28,Tryz.ntmps28;obtain⟨x1,kr,er,pE,cN,iH,aJ⟩:=aM w #[.int .i64 0,.bool false,.slice none 0 0,.string ⟨#[]⟩,.slice none 0 0] 29;replace HW:=aa (HW.out.trans (cN.out.mono HW.out.size));have iS:Hid (w.heap.size<=kr):=iH;obtain⟨⟨r0,r1,r2,r3,r4⟩,jx,jw,jP,jO,jN⟩:=ak aJ.out;go_wp2_with fail;obtain⟨s1,s2⟩:=Fx HW.out aJ.out cH iS.out (.int .i64 14) (.bool false) (.slice none 0 0) (.string nm) (.slice none 0 0);(try simp only[aK,aT]);exact aD (v:=.agg #[.int .i64 14,.bool false,.slice none 0 0,.string nm,.slice none 0 0]) (by simp[results,Tryz.results28,go_sem,r0,r1,r2,r3,r4]) rfl ⟨rfl,s2⟩
 ·have HW:=aa (ax w.heap.size w);go_enter Tryz.func28,Tryz.ntmps28;obtain⟨x1,kr,er,pE,cN,iH,aJ⟩:=aM w #[.int .i64 0,.bool false,.slice none 0 0,.string ⟨#[]⟩,.slice none 0 0] 29;replace HW:=aa (HW.out.trans (cN.out.mono HW.out.size));have iS:Hid (w.heap.size<=kr):=iH;obtain⟨⟨r0,r1,r2,r3,r4⟩,jx,jw,jP,jO,jN⟩:=ak aJ.out;go_wp2_with fail;obtain⟨s1,s2⟩:=Fx HW.out aJ.out cH iS.out (.int .i64 8) (.bool false) (.slice none 0 0) (.string nm) (.slice none 0 0);(try simp only[aK,aT]);exact aD (v:=.agg #[.int .i64 8,.bool false,.slice none 0 0,.string nm,.slice none 0 0]) (by simp[results,Tryz.results28,go_sem,r0,r1,r2,r3,r4]) rfl ⟨rfl,s2⟩
 have HW:=aa (ax w.heap.size w);have n1:(b==1)=false:=beq_eq_false_iff_ne.2 h1;have n2:(b==2)=false:=beq_eq_false_iff_ne.2 h2;have ho:mI b=1:=by unfold mI;rw[if_neg h1,if_neg h2]
 rw[ho];clear h1 h2 ho;go_enter Tryz.func28,Tryz.ntmps28;obtain⟨x1,kr,er,pE,cN,iH,aJ⟩:=aM w #[.int .i64 0,.bool false,.slice none 0 0,.string ⟨#[]⟩,.slice none 0 0] 29;replace HW:=aa (HW.out.trans (cN.out.mono HW.out.size));have iS:Hid (w.heap.size<=kr):=iH;obtain⟨⟨r0,r1,r2,r3,r4⟩,jx,jw,jP,jO,jN⟩:=ak aJ.out;go_wp2_with fail;obtain⟨s1,s2⟩:=Fx HW.out aJ.out cH iS.out (.int .i64 1) (.bool false) (.slice none 0 0) (.string nm) (.slice none 0 0);(try simp only[aK,aT]);exact aD (v:=.agg #[.int .i64 1,.bool false,.slice none 0 0,.string nm,.slice none 0 0]) (by simp[results,Tryz.results28,go_sem,r0,r1,r2,r3,r4]) rfl ⟨rfl,s2⟩
theorem SB (n:Int) (w:ag) (h1 : -9223372036854775808<=n) (h2:n<=9223372036854775807) :
  aW aj 15 #[.int .i64 n] w fun e w'=>∃ b o l c,e=.returned (.agg #[.int .i64 0,.bool b,.slice o l c,.string ⟨#[]⟩,.slice none 0 0])/\CI w' (.agg #[.bool b,.slice o l c]) n 600/\aA w.heap.size w w':=by
 have HW:=aa (ax w.heap.size w);go_enter Tryz.func15,Tryz.ntmps15;obtain⟨x1,kr,er,pE,cN,iH,aJ⟩:=aM w #[.int .i64 0,.bool false,.slice none 0 0,.string ⟨#[]⟩,.slice none 0 0] 29;replace HW:=aa (HW.out.trans (cN.out.mono HW.out.size));have iS:Hid (w.heap.size<=kr):=iH;go_wp2_with fail;refine (sR n x1 h1 h2).mono ?_;rintro e x2 ⟨x,rfl,hx,hb⟩;replace aJ:=aS hb aJ;replace HW:=aa (HW.out.trans (hb.mono HW.out.size));obtain⟨b1,o1,l1,c1,rfl⟩:=hx.shape;have HV:=aa (hx.mono (k':=600) (by decide));clear hx;obtain⟨⟨r0,r1,r2,r3,r4⟩,jx,jw,jP,jO,jN⟩:=ak aJ.out;go_wp2_with fail;obtain⟨s1,s2⟩:=Fx HW.out aJ.out cH iS.out (.int .i64 0) (.bool b1) (.slice o1 l1 c1) (.string ⟨#[]⟩) (.slice none 0 0)
 (try simp only[aK,aT]);exact aD (v:=.agg #[.int .i64 0,.bool b1,.slice o1 l1 c1,.string ⟨#[]⟩,.slice none 0 0]) (by simp[results,Tryz.results15,go_sem,r0,r1,r2,r3,r4]) rfl ⟨_,_,_,_,rfl,HV.out.fr s1,s2⟩
attribute [local go_sem] eF eE eC eB
attribute [local go_sem] eF eE eC eB
attribute [local go_sem] eF eE eC eB
theorem EB (ve:aq) (env:List (ByteArray × V)) (nm:ByteArray) (w:ag) (h:EL w ve env) :
  aW aj 60 #[ve,.string nm] w fun e w'=>∃ v,e=.returned v/\VC w' v (cR env nm)/\aA w.heap.size w w':=by
 obtain⟨us,hu,rfl⟩:=h;obtain⟨ko,kc,rfl,iM,ff,-⟩:=mq hu;have hkm:kc<=9223372036854775807:=ff;obtain⟨N,hN⟩:∃ N,N=us.length:=⟨_,rfl⟩;rw[<-hN] at hu iM ⊢;have HN:=aa hN;have HU:=aa hu;clear hN hu ff;have HW:=aa (ax w.heap.size w);go_enter Tryz.func60,Tryz.ntmps60;obtain⟨x1,kr,er,pE,cN,iH,aJ⟩:=aM w #[.int .i64 0,.bool false,.slice none 0 0,.bool false,.slice none 0 0] 41;replace HW:=aa (HW.out.trans (cN.out.mono HW.out.size));have iS:Hid (w.heap.size<=kr):=iH;go_wp2_with fail;obtain⟨x2,kq,eq,zE,gQ,sk,jX⟩:=aM x1 #[.int .i64 0,.bool false,.slice none 0 0,.bool false,.slice none 0 0] 41;replace aJ:=aS gQ.out aJ;replace HW:=aa (HW.out.trans (gQ.out.mono HW.out.size));rw[eq,zE]
 have HKq:Hid (w.heap.size<=kq):=aa (ah cN.out.size sk.out);have V5:Hid (kr<kq):=aa (by rw[<-zE];exact ae (show x1.heap[kr]?=_ from by have:=heap_alloc_new w (.cells #[.int .i64 0,.bool false,.slice none 0 0,.bool false,.slice none 0 0] 41);rw[er,pE] at this;exact this));go_loopw [11] (fun i wr=>∃ (j:Nat) (u:VU),i=.int .i64 (j:Nat)/\j<=N/\Hid (wr.heap[kq]?=some (.cells #[.int .i64 u.k,.bool (decide (u.n.z<0)),.slice u.n.o u.n.l u.n.c,.bool u.b,.slice u.lo u.ll u.lc] 41 (0,0)))/\Hid (wr.heap[kr]?=some (.cells #[.int .i64 0,.bool false,.slice none 0 0,.bool false,.slice none 0 0] 41 (0,0)))/\Hid (VR w u)/\Hid (u.x=cR ((ki us).take j) nm)/\Hid (aA w.heap.size w wr)) (fun i _=>N - (ei i).toNat)
 case atStart=>exact⟨0,v0,rfl,au _,jX,aJ,aa (Wk _),aa rfl,HW⟩
 case round =>
  obtain⟨wl,Hv⟩:∃ q,q=wr:=⟨_,rfl⟩;subst Hv;clear HW jX aJ;obtain⟨j,u,rfl,hj,jX,aJ,Q6,Dy,HW⟩:=hrel;by_cases hlt:j<N
  ·have hz:j<us.length:=by rw[<-HN.out];exact hlt
   obtain⟨ko2,kc2,e,-,-,hcs⟩:=mq (HU.out.below HW.out);injection e with e1 e2 e3;subst e1;obtain⟨a,rfl,d0,d1,d2,d3,d4,d5,-⟩:=hcs j hz;obtain⟨_,_,-,-,-,ZN⟩:=mq HU.out;obtain⟨_,-,-,-,-,-,-,-,OE⟩:=ZN j hz;obtain⟨y,Em⟩:∃ y,y=us[j]:=⟨_,rfl⟩;rw[<-Em] at d0 d1 d2 d3 d4 d5 OE;have HYV:=aa OE;have ZH:j<(ki us).length:=by unfold ki;simpa using hz
   have I5:Hid (cR ((ki us).take (j+1)) nm=if y.nm=nm then y.u.x else cR ((ki us).take j) nm):=aa (by rw[CL _ _ _ ZH,show (ki us)[j]=(y.nm,y.u.x) from by rw[Em];exact gp (fun b:BU=>(b.nm,b.u.x))]);clear hcs ZN e2 e3 Em OE ZH;obtain⟨x3,k8,e8,VP,Ae,Qf,Aj⟩:=aM wl #[.string y.nm,.int .i64 y.u.k,.bool (decide (y.u.n.z<0)),.slice y.u.n.o y.u.n.l y.u.n.c,.bool y.u.b,.slice y.u.lo y.u.ll y.u.lc] 44;replace jX:=aS Ae.out jX;replace aJ:=aS Ae.out aJ;replace HW:=aa (HW.out.trans (Ae.out.mono HW.out.size));have g0:=af (v:=.string y.nm) Aj.out 0 rfl;have ni:=aP Aj.out 0;have g1:=af (v:=.int .i64 y.u.k) Aj.out 1 rfl;have nh:=aP Aj.out 1;have g2:=af (v:=.bool (decide (y.u.n.z<0))) Aj.out 2 rfl;have oH:=aP Aj.out 2
   have g3:=af (v:=.slice y.u.n.o y.u.n.l y.u.n.c) Aj.out 3 rfl;have oG:=aP Aj.out 3;have g4:=af (v:=.bool y.u.b) Aj.out 4 rfl;have oF:=aP Aj.out 4;have g5:=af (v:=.slice y.u.lo y.u.ll y.u.lc) Aj.out 5 rfl;have fg5:=aP Aj.out 5;by_cases hnm:y.nm=nm
   ·have hne:(y.nm.toList==nm.toList)=true:=Lr hnm;have Mf:=aa hnm;clear hnm;have f0:=aP jX.out 0;have r0:=af (v:=.int .i64 u.k) jX.out 0 rfl;have f1:=aP jX.out 1;have r1:=af (v:=.bool (decide (u.n.z<0))) jX.out 1 rfl;have f2:=aP jX.out 2;have r2:=af (v:=.slice u.n.o u.n.l u.n.c) jX.out 2 rfl;have f3:=aP jX.out 3;have r3:=af (v:=.bool u.b) jX.out 3 rfl;have f4:=aP jX.out 4;have r4:=af (v:=.slice u.lo u.ll u.lc) jX.out 4 rfl;go_wp2_with fail;have hg:=bR (w:=x3) (k:=kq) (.int .i64 y.u.k) (.bool (decide (y.u.n.z<0))) (.slice y.u.n.o y.u.n.l y.u.n.c) (.bool y.u.b) (.slice y.u.lo y.u.ll y.u.lc);go_roundw
    case rel=>exact⟨j+1,y.u,by go_num,hlt,aa (gZ jX.out _ _ _ _ _),aa ((hg.block kr (ae aJ.out) (fun e=>by injection e with e;have:=V5.out;omega)).trans aJ.out),HYV,aa (by rw[I5.out,if_pos Mf.out]),aa (bA HW.out hg HKq.out)⟩
    case measure=>simp[ei];omega
   have hne:(y.nm.toList==nm.toList)=false:=O4 hnm;have Mf:=aa hnm;clear hnm;go_wp2_with fail;go_roundw
   case rel=>exact⟨j+1,u,by go_num,hlt,jX,aJ,Q6,aa (by rw[I5.out,if_neg Mf.out];exact Dy.out),HW⟩
   case measure=>simp[ei];omega
  have Yb:Hid (u.x=cR (ki us) nm):=aa (by have:=Dy.out;rw[show j=N by omega,HN.out,show us.length=(ki us).length by unfold ki;simp,bK] at this;exact this);obtain⟨⟨q0,q1,q2,q3,q4⟩,fq0,fq1,fq2,fq3,fq4⟩:=ak jX.out;obtain⟨⟨r0,r1,r2,r3,r4⟩,jx,jw,jP,jO,jN⟩:=ak aJ.out;go_wp2_with fail;clear q0 fq0 q1 fq1 q2 fq2 q3 fq3 q4 fq4;obtain⟨s1,s2⟩:=gG HW.out aJ.out fb iS.out (.int .i64 u.k) (.bool (decide (u.n.z<0))) (.slice u.n.o u.n.l u.n.c) (.bool u.b) (.slice u.lo u.ll u.lc);(try simp only[aK,aT]);exact aD (v:=vV u) (by simp[results,Tryz.results60,go_sem,r0,r1,r2,r3,r4,vV]) rfl ⟨_,rfl,⟨u,rfl,Yb.out,(Q6.out.below HW.out).fr (by decide) s1⟩,s2⟩
attribute [local go_sem] eF eE eC eB
def uS (j:Nat):ByteArray:=[(⟨#[105,48]⟩:ByteArray),⟨#[105,49]⟩,⟨#[105,50]⟩,⟨#[108,48]⟩,⟨#[108,49]⟩,⟨#[98,48]⟩,⟨#[98,49]⟩].getD j ⟨#[]⟩
def o_ (j:Nat):Int:=[(0:Int),0,0,2,2,1,1].getD j 0
theorem uV (j:Nat):o_ j=0\/o_ j=1\/o_ j=2:=by
 unfold o_;match j with
 | 0 | 1 | 2 | 3 | 4 | 5 | 6=>simp
 | j+7=>simp
theorem WJ (j:Nat) (h:j<7) (w:ag):(Instr.index 93 (.agg #[.int .i64 0,.int .i64 0,.int .i64 0,.int .i64 2,.int .i64 2,.int .i64 1,.int .i64 1]) (.int .i64 (j:Nat))).run aj w=.ok (.int .i64 (o_ j)) w:=by
 have:j=0\/j=1\/j=2\/j=3\/j=4\/j=5\/j=6:=by omega
 rcases this with rfl | rfl | rfl | rfl | rfl | rfl | rfl<;>(unfold Instr.index;simp[go_sem,asIntOf,o_])
theorem JY {w:ag} {g:Nat} {T:TypeId} (h:w.heap[g]?=some (.cells #[.string ⟨#[105,48]⟩,.string ⟨#[105,49]⟩,.string ⟨#[105,50]⟩,.string ⟨#[108,48]⟩,.string ⟨#[108,49]⟩,.string ⟨#[98,48]⟩,.string ⟨#[98,49]⟩] T (0,0))) (j:Nat) (hj:j<7):w.cell? ⟨g,j,none⟩=some (.string (uS j)):=by
 have:j=0\/j=1\/j=2\/j=3\/j=4\/j=5\/j=6:=by omega
 rcases this with rfl | rfl | rfl | rfl | rfl | rfl | rfl<;>exact af h _ rfl
theorem rz.one {w:ag} {g:Nat} {k:Int} {b d:Bool} {o p:Option cB} {l c m q:Nat} (h:w.heap[g]?=some (.cells #[.int .i64 k,.bool b,.slice o l c,.bool d,.slice p m q] 41 (0,0))) (hk : -9223372036854775808<=k/\k<=9223372036854775807) (h1:ux w (.slice o l c)) (h2:tZ w p m q):rz w (some ⟨g,0,none⟩) 1 1:=by
 refine⟨⟨ai _,by decide⟩,fun i hi=>?_⟩;obtain rfl:i=0:=by omega
 exact⟨_,k,b,o,l,c,d,p,m,q,rfl,⟨af h 0 rfl,af h 1 rfl,af h 2 rfl,af h 3 rfl,af h 4 rfl⟩,hk,h1,h2⟩
theorem ux.nil (w:ag):ux w (.slice none 0 0):=⟨[],Sl.nil _ _,eV.nil _⟩
theorem tZ.nil (w:ag):tZ w none 0 0:=⟨⟨ai _,au _⟩,fun i hi=>absurd hi (Nat.not_lt_zero i)⟩
theorem FB {w:ag} {g:Nat} {nm:ByteArray} {u:VU} {k:Int} {b d:Bool} {o p:Option cB} {l c m q:Nat} (hB:w.heap[g]?=some (.cells #[.string nm,.int .i64 k,.bool b,.slice o l c,.bool d,.slice p m q] 44 (0,0))) (hu:vC u=[.int .i64 k,.bool b,.slice o l c,.bool d,.slice p m q]) (hR:VR w u):bE.At w (.slice (some ⟨g,0,none⟩) 1 1) [⟨nm,u⟩]:=
 El.At.block (E:=bE) (el:=[⟨nm,u⟩]) (by rw[hB];simp only[fI,List.flatMap_nil,dJ,show bE.f ⟨nm,u⟩=.string nm::vC u from rfl,hu];rfl) (show 1<=bI by decide) (fun a ha=>by rw[aZ] at ha;subst ha;exact hR)
def zY (j:Nat) (env:List (ByteArray × V)):Prop:=env.map (·.1)=(List.range j).map uS/\env.map (fun p=>fQ p.2)=(List.range j).map o_/\∀ p ∈ env,TV p.2
theorem zY.snoc {j:Nat} {env:List (ByteArray × V)} {x:V} (h:zY j env) (hs:fQ x=o_ j) (hx:TV x):zY (j+1) (env++[(uS j,x)]):=by
 obtain⟨h1,h2,h3⟩:=h;refine⟨by rw[cn,h1,List.range_succ,cn];rfl,by rw[cn,h2,List.range_succ,cn];simp[hs],fun p hp=>?_⟩;rcases List.mem_append.1 hp with hp | hp
 ·exact h3 p hp
 rw[aZ] at hp;subst hp;exact hx
theorem CG {w:ag} {g:Nat} {T:TypeId} {a0 a1 a2 a3 a4:aq} (h:w.heap[g]?=some (.cells #[a0,a1,a2,a3,a4] T (0,0))) (v:aq):(w.setCell ⟨g,0,none⟩ v).heap[g]?=some (.cells #[v,a1,a2,a3,a4] T (0,0)):=aC _ g 0 _ T v h
theorem El.Row.js {α:Type} {E:El α} {w w':ag} {B g:Nat} {v:aq} {el:List α} (h:E.Row w B v el) (hg:w.grownBy w' (some g)) (hne:∀ j,v.ownBlock=some j->j≠g) {e:TypeId} (hf:Fr e w w') (hok:E.ok e):E.Row w' B v el:=by
 refine⟨?_,fun j hj=>?_,fun q hq=>E.fr hok hf (h.rd q hq)⟩
 ·rcases hr:v.ownBlock with _ | j
  ·exact lG h.own hg (.inl hr)
  exact lG h.own hg (.inr (by rw[hr];intro e;injection e with e;exact hne j hr e))
 obtain⟨c,hc,h32⟩:=h.n32 j hj;exact⟨c,(hg.block j (ae hc) (fun e=>by injection e with e;exact hne j hj e)).trans hc,h32⟩
def Vj (w:ag) (kn:Nat) (B:Nat) (ov iv:aq) (wr:ag):Prop:=
 ∃ (j:Nat) (us:List BU),iv=.int .i64 (j:Nat)/\j<=7/\Hid (us.length=j)/\Hid (zY j (ki us))/\Hid (bE.Row wr B ov us)/\Hid (aA w.heap.size w wr)/\Hid (wr.heap[kn]?=some (.cells #[.string ⟨#[105,48]⟩,.string ⟨#[105,49]⟩,.string ⟨#[105,50]⟩,.string ⟨#[108,48]⟩,.string ⟨#[108,49]⟩,.string ⟨#[98,48]⟩,.string ⟨#[98,49]⟩] 9 (0,0)))/\Hid (B<=wr.heap.size)
theorem TY (ko:Option cB) (n kc:Nat) (w:ag) (hx:rz w ko n kc) :
  aW aj 12 #[.slice ko n kc] w fun e w'=>∃ v env,e=.returned v/\EL w' v env/\zY 7 env/\aA w.heap.size w w':=by
 obtain⟨h1,h2⟩:=hx.1;have rL:kc<=9223372036854775807:=h2;have HX:=aa hx;clear hx h2;have HW:=aa (ax w.heap.size w);go_enter Tryz.func12,Tryz.ntmps12;obtain⟨x1,kn,en,zF,lT,hkn,iu⟩:=aM w #[.string ⟨#[105,48]⟩,.string ⟨#[105,49]⟩,.string ⟨#[105,50]⟩,.string ⟨#[108,48]⟩,.string ⟨#[108,49]⟩,.string ⟨#[98,48]⟩,.string ⟨#[98,49]⟩] 9;replace HW:=aa (HW.out.trans (lT.out.mono HW.out.size));have V6:Hid (kn<x1.heap.size):=aa (ae iu.out);go_wp2_with fail;go_loopw [3,9] (Vj w kn x1.heap.size) (fun _ i _=>7 - (ei i).toNat)
 case atStart=>exact⟨0,[],rfl,au _,aa rfl,aa ⟨rfl,rfl,fun p hp=>by cases hp⟩,aa (El.Row.nil _ _),HW,iu,aa (ai _)⟩
 case round =>
  obtain⟨wl,Hv⟩:∃ q,q=wr:=⟨_,rfl⟩;subst Hv;clear HW iu;obtain⟨j,us,rfl,hj,HU,YJ,HR,HW,iu,nP⟩:=hrel;obtain⟨oo,oc,rfl,SV,WZ,-⟩:=HR.out.form;have Ry:=HU.out;rw[Ry] at SV;by_cases hlt:j<7
  ·have Y5:=JY iu.out j hlt;have hix:=WJ j hlt;have HL:=aa hlt;clear Ry;go_upto_region 6 with fail;have ID:=HW;have HRp:=HR;have YL:=iu;obtain⟨x2,kv,ev,TZ,OR,hkv,DN⟩:=aM wl #[.int .i64 0,.bool false,.slice none 0 0,.bool false,.slice none 0 0] 41;replace iu:=aS OR.out iu;replace HW:=aa (HW.out.trans (OR.out.mono HW.out.size));replace HR:=aa (HR.out.below OR.out);replace nP:=aa (ah nP.out OR.out.size);rw[ev,TZ];have Yz:Hid (w.heap.size<=kv):=aa (by rw[<-TZ];exact ID.out.size);have Rb:Hid (∀ q,(Value.slice oo us.length oc).ownBlock=some q->q≠kv):=aa (fun q hq=>by have h1:=(HRp.out.ge hq).2;rw[TZ] at h1;omega)
   have Ri:Hid (some kn≠some kv):=aa (fun e=>by injection e with e;have h1:=ae YL.out;rw[TZ] at h1;omega);by_cases Tj:j<n
   ·obtain⟨a,xk,rb,ro,rl,rc,rd,rp,rm,rq,rfl,⟨g0,g1,g2,g3,g4⟩,PY,LS,Zu⟩:=HX.out.2 j Tj;have Yi:=aa LS;have Ym:=aa Zu;clear LS Zu PY;rw[<-HW.out.cell (World.block_lt_of_cell? w _ g0)] at g0;rw[<-HW.out.cell (World.block_lt_of_cell? w _ g1)] at g1;rw[<-HW.out.cell (World.block_lt_of_cell? w _ g2)] at g2;rw[<-HW.out.cell (World.block_lt_of_cell? w _ g3)] at g3;rw[<-HW.out.cell (World.block_lt_of_cell? w _ g4)] at g4;have Xe:((j:Nat):Int)<((n:Nat):Int):=by omega
    obtain⟨⟨v0,v1,v2,v3,v4⟩,K0,NQ,Qy,Qx,Qw⟩:=ak DN.out;go_upto_region 9 with fail;clear Y5 v0 K0 v1 NQ v2 Qy v3 Qx v4 Qw g0 g1 g2 g3 g4;have fg:=bR (w:=x2) (k:=kv) (.int .i64 xk) (.bool rb) (.slice ro rl rc) (.bool rd) (.slice rp rm rq);have eH:=gZ DN.out (.int .i64 xk) (.bool rb) (.slice ro rl rc) (.bool rd) (.slice rp rm rq);obtain⟨W1,nN⟩:∃ q,q=((((x2.setCell ⟨kv,0,none⟩ (.int .i64 xk)).setCell ⟨kv,1,none⟩ (.bool rb)).setCell ⟨kv,2,none⟩ (.slice ro rl rc)).setCell ⟨kv,3,none⟩ (.bool rd)).setCell ⟨kv,4,none⟩ (.slice rp rm rq):=⟨_,rfl⟩;rw[<-nN] at fg eH ⊢;have fK:W1.grownBy (W1.setCell ⟨kv,0,none⟩ (.int .i64 (o_ j))) (some kv):=aF (aI _ _) _;have dI:=CG eH (.int .i64 (o_ j))
    obtain⟨W2,kg⟩:∃ q,q=W1.setCell ⟨kv,0,none⟩ (.int .i64 (o_ j)):=⟨_,rfl⟩;rw[<-kg] at fK dI ⊢;have lZ:Fr 41 x2 W1:=.aL fg (fun j hj=>by injection hj with hj;subst hj;exact⟨_,DN.out,fb⟩);have Ad:Fr 41 W1 W2:=.aL fK (fun j hj=>by injection hj with hj;subst hj;exact⟨_,eH,fb⟩);replace HR:=aa ((HR.out.js fg Rb.out lZ (show 26≠41 by decide)).js fK Rb.out Ad (show 26≠41 by decide));replace HW:=aa (bA (bA HW.out fg Yz.out) fK Yz.out);replace nP:=aa (ah nP.out (ah fg.size fK.size));replace iu:=aa ((fK.block kn (ae ((fg.block kn (ae iu.out) Ri.out).trans iu.out)) Ri.out).trans ((fg.block kn (ae iu.out) Ri.out).trans iu.out))
    have Yh:=aa (Yi.out.below HW.out);have Yl:=aa (Ym.out.below HW.out);replace DN:=aa dI;clear fK dI kg Ad fg eH nN lZ;obtain⟨⟨v0,v1,v2,v3,v4⟩,K0,NQ,Qy,Qx,Qw⟩:=ak DN.out;obtain⟨x3,ky,ey,pW,hby,vB,mW⟩:=aM W2 #[.int .i64 (o_ j),.bool rb,.slice ro rl rc,.bool rd,.slice rp rm rq] 41;replace iu:=aS hby.out iu;replace HW:=aa (HW.out.trans (hby.out.mono HW.out.size));replace HR:=aa (HR.out.below hby.out);replace nP:=aa (ah nP.out hby.out.size);have Yf:=aa (rz.one mW.out (by rcases uV j with h | h | h<;>rw[h]<;>decide) (Yh.out.below hby.out) (Yl.out.below hby.out));have SC:=af (v:=.int .i64 (o_ j)) mW.out 0 rfl;go_wp2_with fail;refine (Jj _ 1 1 x3 Yf.out).mono ?_
    rintro e x4 ⟨t,xs,rfl,hvl,hlen,OF,hks,hb⟩;clear v0 K0 v1 NQ v2 Qy v3 Qx v4 Qw;replace iu:=aS hb iu;replace HW:=aa (HW.out.trans (hb.mono HW.out.size));replace HR:=aa (HR.out.below hb);replace nP:=aa (ah nP.out hb.size);obtain⟨x,rfl⟩:∃ x,xs=[x]:=by
     have IX:xs.length=1:=by rw[hlen];rfl
     exact List.length_eq_one_iff.1 IX
    have zk:fQ x=o_ j:=by
     have:=hks 0 (by simp) _ (o_ j) rfl (by rw[show (⟨ky,0,none⟩:cB).add (0*5)=⟨ky,0,none⟩ from rfl];exact SC);simp only[mH] at this;rw[this];rcases uV j with h | h | h<;>rw[h]<;>rfl
    have Ag:=aa zk;have Yd:=aa (OF x (by simp));obtain⟨tO,tc,rfl,⟨Rz,Ns⟩,SM⟩:=hvl.form;obtain⟨a3,tk,tb,Wq,Wr,Wt,td,tp,tm,tq,rfl,⟨t0,t1,t2,t3,t4⟩,P0⟩:=SM 0 (by simp);have WU:tc<=9223372036854775807:=Ns;simp only[mH,rK,nM,if_true] at t0 t1 t2 t3 t4 P0;have A3:[x].length<=tc:=Rz;simp only[mS,uA] at A3;obtain⟨u,uk,ub,uo,ul,uc,ud,up,um,uq,BO,FN,FK,FM⟩:=P0.unit;injection BO with BO;have e0:=congrArg Array.toList BO;simp only[rB,xS,vv,tP,and_true,true_and] at e0;obtain⟨rfl,rfl,⟨rfl,rfl,rfl⟩,rfl,rfl,rfl,rfl⟩:=e0;have N':=aa FN;have Dy:=aa FK;have Cg:=aa FM;clear BO hvl hlen OF hks zk P0 FN FK FM SM Rz Ns SC
    obtain⟨x5,kz,ez,xO,hbz,pK,jW⟩:=aM x4 #[.string (uS j),.int .i64 tk,.bool tb,.slice Wq Wr Wt,.bool td,.slice tp tm tq] 44;replace iu:=aS hbz.out iu;replace HW:=aa (HW.out.trans (hbz.out.mono HW.out.size));replace HR:=aa (HR.out.below hbz.out);replace nP:=aa (ah nP.out hbz.out.size);replace Cg:=aa (Cg.out.below hbz.out);have tB:=aa (FB jW.out N'.out Cg.out);go_wp2_with (at_builtin;refine El.Row.append (E:=bE) HR.out rfl (.tmp 27) (.tmp 35) rfl rfl rfl tB.out (by rw[HU.out];simp;omega) nP.out ?_;intro v9 w9 r1 r2 r3 r4);go_roundw
    case rel=>exact⟨j+1,us++[⟨uS j,u⟩],by go_num,HL.out,aa (by rw[eY,HU.out];rfl),aa (by unfold ki;rw[cn];exact YJ.out.snoc (by rw[Dy.out];exact Ag.out) (by rw[Dy.out];exact Yd.out)),aa r1,aa (HW.out.trans (r3.mono (by have:=lT.out.size;exact this))),aa ((r3.block kn V6.out).trans iu.out),aa (ah nP.out r3.size)⟩
    case measure=>simp[ei];omega
   have Xe:¬ ((j:Nat):Int)<((n:Nat):Int):=by omega
   obtain⟨⟨v0,v1,v2,v3,v4⟩,K0,NQ,Qy,Qx,Qw⟩:=ak DN.out;go_upto_region 9 with fail;clear Y5 v0 K0 v1 NQ v2 Qy v3 Qx v4 Qw;have fK:x2.grownBy (x2.setCell ⟨kv,0,none⟩ (.int .i64 (o_ j))) (some kv):=aF (aI _ _) _;have dI:=CG DN.out (.int .i64 (o_ j));obtain⟨W2,kg⟩:∃ q,q=x2.setCell ⟨kv,0,none⟩ (.int .i64 (o_ j)):=⟨_,rfl⟩;rw[<-kg] at fK dI ⊢;have Ad:Fr 41 x2 W2:=.aL fK (fun j hj=>by injection hj with hj;subst hj;exact⟨_,DN.out,fb⟩);replace HR:=aa (HR.out.js fK Rb.out Ad (show 26≠41 by decide));replace HW:=aa (bA HW.out fK Yz.out);replace nP:=aa (ah nP.out fK.size);replace iu:=aa ((fK.block kn (ae iu.out) Ri.out).trans iu.out)
   replace DN:=aa dI;clear fK dI kg Ad;obtain⟨⟨v0,v1,v2,v3,v4⟩,K0,NQ,Qy,Qx,Qw⟩:=ak DN.out;obtain⟨x3,ky,ey,pW,hby,vB,mW⟩:=aM W2 #[.int .i64 (o_ j),.bool false,.slice none 0 0,.bool false,.slice none 0 0] 41;replace iu:=aS hby.out iu;replace HW:=aa (HW.out.trans (hby.out.mono HW.out.size));replace HR:=aa (HR.out.below hby.out);replace nP:=aa (ah nP.out hby.out.size);have Yf:=aa (rz.one mW.out (by rcases uV j with h | h | h<;>rw[h]<;>decide) (ux.nil _) (tZ.nil _));have SC:=af (v:=.int .i64 (o_ j)) mW.out 0 rfl;go_wp2_with fail;refine (Jj _ 1 1 x3 Yf.out).mono ?_;rintro e x4 ⟨t,xs,rfl,hvl,hlen,OF,hks,hb⟩;clear v0 K0 v1 NQ v2 Qy v3 Qx v4 Qw;replace iu:=aS hb iu
   replace HW:=aa (HW.out.trans (hb.mono HW.out.size));replace HR:=aa (HR.out.below hb);replace nP:=aa (ah nP.out hb.size);obtain⟨x,rfl⟩:∃ x,xs=[x]:=by
    have IX:xs.length=1:=by rw[hlen];rfl
    exact List.length_eq_one_iff.1 IX
   have zk:fQ x=o_ j:=by
    have:=hks 0 (by simp) _ (o_ j) rfl (by rw[show (⟨ky,0,none⟩:cB).add (0*5)=⟨ky,0,none⟩ from rfl];exact SC);simp only[mH] at this;rw[this];rcases uV j with h | h | h<;>rw[h]<;>rfl
   have Ag:=aa zk;have Yd:=aa (OF x (by simp));obtain⟨tO,tc,rfl,⟨Rz,Ns⟩,SM⟩:=hvl.form;obtain⟨a3,tk,tb,Wq,Wr,Wt,td,tp,tm,tq,rfl,⟨t0,t1,t2,t3,t4⟩,P0⟩:=SM 0 (by simp);have WU:tc<=9223372036854775807:=Ns;simp only[mH,rK,nM,if_true] at t0 t1 t2 t3 t4 P0;have A3:[x].length<=tc:=Rz;simp only[mS,uA] at A3;obtain⟨u,uk,ub,uo,ul,uc,ud,up,um,uq,BO,FN,FK,FM⟩:=P0.unit;injection BO with BO;have e0:=congrArg Array.toList BO;simp only[rB,xS,vv,tP,and_true,true_and] at e0;obtain⟨rfl,rfl,⟨rfl,rfl,rfl⟩,rfl,rfl,rfl,rfl⟩:=e0;have N':=aa FN;have Dy:=aa FK;have Cg:=aa FM;clear BO hvl hlen OF hks zk P0 FN FK FM SM Rz Ns SC
   obtain⟨x5,kz,ez,xO,hbz,pK,jW⟩:=aM x4 #[.string (uS j),.int .i64 tk,.bool tb,.slice Wq Wr Wt,.bool td,.slice tp tm tq] 44;replace iu:=aS hbz.out iu;replace HW:=aa (HW.out.trans (hbz.out.mono HW.out.size));replace HR:=aa (HR.out.below hbz.out);replace nP:=aa (ah nP.out hbz.out.size);replace Cg:=aa (Cg.out.below hbz.out);have tB:=aa (FB jW.out N'.out Cg.out);go_wp2_with (at_builtin;refine El.Row.append (E:=bE) HR.out rfl (.tmp 27) (.tmp 35) rfl rfl rfl tB.out (by rw[HU.out];simp;omega) nP.out ?_;intro v9 w9 r1 r2 r3 r4);go_roundw
   case rel=>exact⟨j+1,us++[⟨uS j,u⟩],by go_num,HL.out,aa (by rw[eY,HU.out];rfl),aa (by unfold ki;rw[cn];exact YJ.out.snoc (by rw[Dy.out];exact Ag.out) (by rw[Dy.out];exact Yd.out)),aa r1,aa (HW.out.trans (r3.mono (by have:=lT.out.size;exact this))),aa ((r3.block kn V6.out).trans iu.out),aa (ah nP.out r3.size)⟩
   case measure=>simp[ei];omega
  go_wp2_with fail;go_ret;have e7:j=7:=by omega
  exact⟨_,_,rfl,⟨us,HR.out.at,rfl⟩,by rw[<-e7];exact YJ.out,HW.out⟩
theorem cS {P:Program} {ops:Array Oper} {Q:Exit->Act->ag->Prop} {fuel:Nat} {listed:Array Bool} {a:Act} {w:ag} (R:List Nat) (hr:Region.ready .any ops listed=R) (hne:R ≠ [])
  (h:∀ i ∈ R,∃ o,ops[i]?=some o/\o.guard=none/\∀ K:Act->ag->Prop,Hid (∀ a w,wpAny P .any ops Q fuel (listed.setIfInBounds i true) a w->K a w)->o.wp P a w K Q):wpAny P .any ops Q (fuel+1) listed a w:=by
 refine⟨fun h0=>absurd (hr.symm.trans h0) hne,fun i hi=>?_⟩;rw[hr] at hi;obtain⟨o,ho,hg,hk⟩:=h i hi;unfold wpOp;rw[ho];simp only[Region.wanted,hg,if_true];exact Or.inl (hk _ (aa fun _ _ h=>h))
def fR:El FU where
 e:=29
 t:=27
 n:=5
 b:=80
 z:=.agg #[.int .i64 0,.bool false,.slice none 0 0,.string ⟨#[]⟩,.slice none 0 0]
 f:=fC
 R _ _:=True
 ok _:=True
 pos:=by decide
 I2:=by decide
 zs:=rfl
 z32:=by intro u hu z;simp only[Value.cells,bz,aU,or_false] at hu;rcases hu with rfl | rfl | rfl | rfl | rfl<;>(intro h;cases h)
 ht:=Tryz.underlying27
 info:=Kt
 len _:=rfl
 one n:=by
  intro u hu;simp only[fC,bz,aU,or_false] at hu;rcases hu with rfl | rfl | rfl | rfl | rfl<;>rfl
 n32 n:=by
  intro u hu z;simp only[fC,bz,aU,or_false] at hu;rcases hu with rfl | rfl | rfl | rfl | rfl<;>(intro h;cases h)
 fr _ _ _:=trivial
 own:=trivial
def I_:FU:=⟨0,n0,⟨#[]⟩,none,0,0⟩
theorem D8 (l:List FU) (i:Nat) (u:FU) (hi:i<l.length):(((((l.flatMap fC).set (i*5) (.int .i64 u.k)).set (i*5+1) (.bool (decide (u.n.z<0)))).set (i*5+2) (.slice u.n.o u.n.l u.n.c)).set (i*5+3) (.string u.nm)).set (i*5+4) (.slice u.ko u.kl u.kc)=(l.set i u).flatMap fC:=by
 induction l generalizing i with
 | nil=>simp at hi
 | cons b l ih =>
  cases i with
  | zero=>rfl
  | succ i =>
   have h1:=ih i (by simpa using hi);simp only[fI,fC,aR,ew,bD,Nat.add_mul,Nat.one_mul,show i*5+5=i*5+1+1+1+1+1 from rfl,show i*5+1+1+1+1+1+1=(i*5+1)+1+1+1+1+1 from rfl,show i*5+1+1+1+1+1+2=(i*5+2)+1+1+1+1+1 from rfl,show i*5+1+1+1+1+1+3=(i*5+3)+1+1+1+1+1 from rfl,show i*5+1+1+1+1+1+4=(i*5+4)+1+1+1+1+1 from rfl];rw[<-h1]
def lR (w:ag) (g i:Nat) (u:FU):ag:=((((w.setCell ⟨g,i*5,none⟩ (.int .i64 u.k)).setCell ⟨g,i*5+1,none⟩ (.bool (decide (u.n.z<0)))).setCell ⟨g,i*5+2,none⟩ (.slice u.n.o u.n.l u.n.c)).setCell ⟨g,i*5+3,none⟩ (.string u.nm)).setCell ⟨g,i*5+4,none⟩ (.slice u.ko u.kl u.kc)
theorem bB (w:ag) (g i:Nat) (u:FU):w.grownBy (lR w g i u) (some g):=by
 unfold lR;refine aF ?_ _;refine aF ?_ _;refine aF ?_ _;refine aF ?_ _;refine aF ?_ _;exact aI _ _
theorem Row.uP {w:ag} {B g n kc:Nat} {el:List FU} (h:fR.Row w B (.slice (some ⟨g,0,none⟩) n kc) el) (i:Nat) (hi:i<el.length) (hn:n=el.length) (u:FU) {w':ag} (hw:w'=lR w g i u) :
  fR.Row w' B (.slice (some ⟨g,0,none⟩) n kc) (el.set i u)/\Fr fR.e w w':=by
 have hg:w.grownBy w' (some g):=by rw[hw];exact bB w g i u
 unfold lR at hw;have h0:=h.own;rw[<-hn] at h0;have h1:=(fG (fG (fG (fG (fG h0 (i*5) (.int .i64 u.k)).1 (i*5+1) (.bool (decide (u.n.z<0)))).1 (i*5+2) (.slice u.n.o u.n.l u.n.c)).1 (i*5+3) (.string u.nm)).1 (i*5+4) (.slice u.ko u.kl u.kc)).1;have h2:=D8 el i u hi;have e:fR.f=fC:=rfl;rw[e,h2,<-hw] at h1;obtain⟨c,hc,h32⟩:=h.n32 g rfl;have qB:=aC _ g (i*5+4) _ _ (.slice u.ko u.kl u.kc) (aC _ g (i*5+3) _ _ (.string u.nm) (aC _ g (i*5+2) _ _ (.slice u.n.o u.n.l u.n.c) (aC _ g (i*5+1) _ _ (.bool (decide (u.n.z<0))) (aC _ g (i*5) _ _ (.int .i64 u.k) hc))));rw[<-hw] at qB
 exact h.put i u hg h1 ⟨_,qB,nB (nB (nB (nB (nB h32 _ (by intro z e;cases e)) _ (by intro z e;cases e)) _ (by intro z e;cases e)) _ (by intro z e;cases e)) _ (by intro z e;cases e)⟩ hn trivial
theorem Row.N3 {w:ag} {B g n kc:Nat} {el:List FU} (h:fR.Row w B (.slice (some ⟨g,0,none⟩) n kc) el) (hn:n=el.length) {i:Nat} (hi:i<el.length) :
  (w.cell? ⟨g,i*5,none⟩=some (.int .i64 el[i].k)/\w.cell? ⟨g,i*5+1,none⟩=some (.bool (decide (el[i].n.z<0)))/\w.cell? ⟨g,i*5+2,none⟩=some (.slice el[i].n.o el[i].n.l el[i].n.c)/\w.cell? ⟨g,i*5+3,none⟩=some (.string el[i].nm)/\w.cell? ⟨g,i*5+4,none⟩=some (.slice el[i].ko el[i].kl el[i].kc)) /\
  w.frozen? ⟨g,i*5,none⟩=false/\w.frozen? ⟨g,i*5+1,none⟩=false/\w.frozen? ⟨g,i*5+2,none⟩=false/\w.frozen? ⟨g,i*5+3,none⟩=false/\w.frozen? ⟨g,i*5+4,none⟩=false:=by
 obtain⟨c,hc,h32⟩:=h.n32 g rfl;have key:∀ j v,(fC el[i])[j]?=some v->w.cell? ⟨g,i*5+j,none⟩=some v:=by
  intro j v hj;have Xf:j<5:=by have:=(List.getElem?_eq_some_iff.1 hj).1;simpa [fC] using this
  have h0:=h.own;rw[<-hn] at h0;rw[World.ownsRow.cellAt h0 (i*5+j) (by show i*5+j<n*5;omega)];exact (lB fR.f fR.len el i j hi Xf).trans hj
 exact⟨⟨key 0 _ rfl,key 1 _ rfl,key 2 _ rfl,key 3 _ rfl,key 4 _ rfl⟩,aP hc _,aP hc _,aP hc _,aP hc _,aP hc _⟩
theorem A' {w:ag} {B:Nat} {v:aq} {us:List FU} (h:fR.Row w B v us) {o:Oper} {a:Act} {K:Act->ag->Prop} {Q:Exit->Act->ag->Prop} (s x:Operand)
  (ho:o.op=.call { callee:=.builtin .append,args:=#[s,x],argTypes:=#[27,27] }) (hs:a.eval s=v) (g:Nat) (u:FU) (hx:a.eval x=.slice (some ⟨g,0,none⟩) 1 1) (hB:w.heap[g]?=some (.cells (fC u).toArray 29 (0,0))) (hlen:us.length<=1000) (hb:B<=w.heap.size)
  (hK:∀ g' cap w',fR.Row w' B (.slice (some ⟨g',0,none⟩) (us.length+1) cap) (us++[u])->Fr fR.e w w'->aA B w w'->w.grownBy w' v.ownBlock->mX w v (.slice (some ⟨g',0,none⟩) (us.length+1) cap)->us.length+1<=cap->cap<=bI->K (a.put o.dst (.slice (some ⟨g',0,none⟩) (us.length+1) cap)) w'):o.wp aj a w K Q:=by
 have hnews:∀ j q,(fC u)[j]?=some q->w.cell? ((⟨g,0,none⟩:cB).add j)=some q:=fun j q hj=>World.news_of_block hB j q (by simpa using hj)
 have hAt:fR.At w (.slice (some ⟨g,0,none⟩) 1 1) [u]:=El.At.block (E:=fR) (el:=[u]) (by rw[hB];simp only[fI,List.flatMap_nil,dJ];rfl) (show 1<=bI by decide) (fun _ _=>trivial);obtain⟨v',w',hr,h2,h3,h4,h5⟩:=h.run hAt o.type (by simp;omega) hb;obtain⟨i,hi,hz,gV,pJ⟩:=info_parts fR.info;have hf:mX w v v':=by
  have hown:=h.own;rw[<-gV] at hown;exact pP (P:=aj) fR.ht hi hz hown (c:=1) (m:=1) (news:=fC u) (by rw[gV];rfl) hnews (fR.one u) (by omega) (by rw[pJ];show (us.length+1)*80<=_;omega) (by decide) (by rw[gV];exact fR.zs) (by rw[gV];exact fR.pos) hr
 have hsh:∃ g' cap,v'=.slice (some ⟨g',0,none⟩) (us.length+1) cap/\us.length+1<=cap/\cap<=bI:=by
  rcases h2.own.2 with ⟨-,h0⟩ | ⟨g',cap,cur,hv,_,_,hn,hc,_⟩
  ·simp at h0
  refine⟨g',cap,?_,?_,hc⟩
  ·rw[hv];simp
  simpa using hn
 obtain⟨g',cap,rfl,xY,IW⟩:=hsh;unfold Oper.wp execOp;simp only[ho,resolve,invoke,builtin,Sem.run_bind,Sem.run_pure,Result.andThen_ok,List.map_toArray,List.map_cons,List.map_nil,hs,hx];rw[show (Builtin.append_ #[27,27] o.type #[v,.slice (some ⟨g,0,none⟩) 1 1]).run aj w=_ from hr];exact hK _ _ _ h2 h3 h4 h5 hf xY IW
structure RU where
 o:Int
 b:Bool
 ao:Option cB
 l:Nat
 c:Nat
 nm:ByteArray
 ko:Option cB
 kl:Nat
 kc:Nat
def rC (x:RU):List aq:=[.int .i64 x.o,.bool x.b,.slice x.ao x.l x.c,.string x.nm,.slice x.ko x.kl x.kc]
def rV (x:RU):aq:=.agg #[.int .i64 x.o,.bool x.b,.slice x.ao x.l x.c,.string x.nm,.slice x.ko x.kl x.kc]
def pg (w:ag):Nat->RU->Prop
 | 0,_=>True
 | d+1,x=>IR x.o/\ux w (.slice x.ao x.l x.c)/\x.nm.size<=9223372036854775807/\(x.kl<=x.kc/\x.kc<=bI)/\∀ i,i<x.kl->∃ y,Mk 5 w x.ko i (rC y)/\pg w d y
theorem pg.below {w w':ag} (hb:aA w.heap.size w w'):∀ {d:Nat} {x:RU},pg w d x->pg w' d x
 | 0,_,h=>h
 | d+1,x,⟨h1,h2,h3,h4,h5⟩=>by
  refine⟨h1,h2.below hb,h3,h4,fun i hi=>?_⟩;obtain⟨y,a1,a2⟩:=h5 i hi;exact⟨y,a1.keep fun a ha=>hb.block _ (a1.lt a ha),a2.below hb⟩
def Wi:RU:=⟨0,false,none,0,0,⟨#[]⟩,none,0,0⟩
theorem JG (w:ag) (d:Nat):pg w d Wi:=by
 cases d with
 | zero=>trivial
 | succ d=>exact⟨by unfold IR Wi;decide,⟨[],Sl.nil _ _,eV.nil _⟩,by decide,⟨ai _,au _⟩,fun i hi=>absurd hi (Nat.not_lt_zero i)⟩
def gW (o:Int) (nm:ByteArray):Prop:=
 if o=1 then nm=⟨#[105,48]⟩\/nm=⟨#[105,49]⟩\/nm=⟨#[105,50]⟩
 else if o=8 then nm=⟨#[108,48]⟩\/nm=⟨#[108,49]⟩
 else if o=14 then nm=⟨#[98,48]⟩\/nm=⟨#[98,49]⟩
 else nm=⟨#[]⟩
def Tm:Nat->F->Prop
 | 0,_=>False
 | d+1,t=>gW t.op t.name/\t.num.natAbs<aG ^ 4/\(t.op≠0->t.op≠3->t.op≠5->t.num=0)/\t.kids.length<=3/\∀ k ∈ t.kids,Tm d k
def mO (d:Nat) (s:Int) (w:ag) (e:Ending) (w':ag):Prop:=∃ v t,e=.returned v/\FC w' (fun b=>w.heap.size<=b) d v t/\rt t=true/\eI t.op=s/\Tm d t/\aA w.heap.size w w'
structure iA (w:ag) (B kf kd kr ko:Nat) (x:RU) (dd:Int) (op:Int) (sg:Bool) (ao:Option cB) (l c:Nat) (nm:ByteArray) (z:Int) (d:Nat) (ts:List F) (v:aq) (us:List FU) (wr:ag):Prop where
 ho:wr.heap[ko]?=some (.cells #[.int .i64 op,.bool sg,.slice ao l c,.string nm,v] 29 (0,0))
 hf:wr.heap[kf]?=some (.cells #[.int .i64 x.o,.bool x.b,.slice x.ao x.l x.c,.string x.nm,.slice x.ko x.kl x.kc] 29 (0,0))
 hd:wr.heap[kd]?=some (.cells #[.int .i64 dd] 3 (0,0))
 hr:wr.heap[kr]?=some (.cells #[.int .i64 0,.bool false,.slice none 0 0,.string ⟨#[]⟩,.slice none 0 0] 29 (0,0))
 hz:CI wr (.agg #[.bool sg,.slice ao l c]) z 600
 row:fR.Row wr B v us
 len:us.length=ts.length
 tr:∀ q (h1:q<us.length) (h2:q<ts.length),FT wr (fun b=>B<=b/\v.ownBlock≠some b) d us[q] ts[q]
 good:∀ t ∈ ts,rt t=true/\Tm d t
 low:kf<B/\kd<B/\kr<B/\ko<B
 VS:kf≠ko/\kd≠ko/\kr≠ko
 hi:w.heap.size<=ko
 be:aA w.heap.size w wr
 sz:B<=wr.heap.size
theorem iA.next {w:ag} {B kf kd kr ko:Nat} {x:RU} {dd op:Int} {sg:Bool} {ao:Option cB} {l c:Nat} {nm:ByteArray} {z:Int} {d:Nat} {ts:List F} {v:aq} {us:List FU} {wr:ag} (h:iA w B kf kd kr ko x dd op sg ao l c nm z d ts v us wr)
  {w5 w6 w8 wc:ag} (hb:aA wr.heap.size wr w5) (hc:wr.heap.size<=wc.heap.size) {y:FU} {t:F} (hy:FT w5 (fun b=>wc.heap.size<=b) d y t) (To:rt t=true/\Tm d t) {g cap:Nat} (hfr:Fr 29 w5 w6) (hg:w5.grownBy w6 v.ownBlock) (hfresh:mX w5 v (.slice (some ⟨g,0,none⟩) (us.length+1) cap))
  (OG:fR.Row w8 B (.slice (some ⟨g,0,none⟩) (us.length+1) cap) (us++[y])) (xN:w8.heap[ko]?=some (.cells #[.int .i64 op,.bool sg,.slice ao l c,.string nm,.slice (some ⟨g,0,none⟩) (us.length+1) cap] 29 (0,0))) (Qa:∀ k,k<w6.heap.size->k≠g->k≠ko->w8.heap[k]?=w6.heap[k]?) (hkn:KN w6 w8) (hos:w8.os=w6.os) (htp:w8.tape=w6.tape) (hou:w8.output=w6.output) (hsz:w6.heap.size<=w8.heap.size) :
  iA w B kf kd kr ko x dd op sg ao l c nm z d (ts++[t]) (.slice (some ⟨g,0,none⟩) (us.length+1) cap) (us++[y]) w8:=by
 have hgB:B<=g:=(OG.ge rfl).1;have RC:=hb.size;have P7:=hg.size;have hB:=h.sz;have hown:∀ j,v.ownBlock=some j->B<=j/\j<wr.heap.size:=fun j hj=>h.row.ge hj
 have low:∀ k,k<B->k≠ko->w8.heap[k]?=wr.heap[k]?:=fun k hk H_=>by
  rw[Qa k (by omega) (by omega) H_,hg.block k (by omega) (fun e=>by have:=(hown k e.symm).1;omega),hb.block k (by omega)]
 obtain⟨l1,l2,l3,l4⟩:=h.low;obtain⟨d1,d2,d3⟩:=h.VS;have kn:KN wr w8:=((KN.aN hb).trans (KN.gS hfr)).trans hkn;refine⟨xN,(low _ l1 d1).trans h.hf,(low _ l2 d2).trans h.hd,(low _ l3 d3).trans h.hr,h.hz.kn kn,OG,by simp[h.len],fun q h1 h2=>?_,fun u hu=>?_,h.low,h.VS,h.hi,?_,by omega⟩
 ·by_cases hq:q<us.length
  ·have e1:(us++[y])[q]=us[q]:=tR hq;have hq2:q<ts.length:=by rw[<-h.len];exact hq
   have e2:(ts++[t])[q]=ts[q]:=tR hq2;rw[e1,e2];have hne:∀ b,(B<=b/\v.ownBlock≠some b)/\b<wr.heap.size->b≠g:=fun b hb' e=>by
    subst e;rcases hfresh b rfl with h' | h'
    ·exact hb'.1.2 h'
    omega
   refine ((h.tr q hq hq2).lt.keep (w':=w8) (fun b hb'=>?_) kn).mono fun b hb'=>⟨hb'.1.1,fun e=>hne b hb' (by injection e with e;exact e.symm)⟩
   rw[Qa b (by omega) (hne b hb') (by omega),hg.block b (by omega) (fun e=>hb'.1.2 e.symm),hb.block b hb'.2]
  have hqe:q=us.length:=by simp at h1;omega
  subst hqe;have e1:(us++[y])[us.length]=y:=by rw[DD (ai _)];simp
  have e2:(ts++[t])[us.length]=t:=by rw[DD (by rw[h.len];exact ai _)];simp[h.len]
  rw[e1,e2];have hne:∀ b,wc.heap.size<=b/\b<w5.heap.size->b≠g:=fun b hb' e=>by
   subst e;rcases hfresh b rfl with h' | h'
   ·have:=(hown b h').2;omega
   omega
  refine (hy.lt.keep (w':=w8) (fun b hb'=>?_) ((KN.gS hfr).trans hkn)).mono fun b hb'=>⟨by omega,fun e=>hne b hb' (by injection e with e;exact e.symm)⟩
  rw[Qa b (by omega) (hne b hb') (by omega),hg.block b hb'.2 (fun e=>by have:=(hown b e.symm).2;omega)]
 ·rcases List.mem_append.1 hu with hu | hu
  ·exact h.good u hu
  rw[aZ] at hu;subst hu;exact To
 have hwo:=h.hi;have iY:=h.be;have LZ:=iY.size;refine⟨(hos.trans (hg.os.trans hb.os)).trans iY.os,(htp.trans (hg.tape.trans hb.tape)).trans iY.tape,(hou.trans (hg.output.trans hb.output)).trans iY.output,by omega,fun k hk=>?_⟩;rw[low k (by omega) (by omega)];exact iY.block k hk
def rQ:List Bs:=[[78,117,109],[73,86,97,114],[65,100,100],[83,99,97,108,101],[77,117,108],[81,117,111],[76,101,110],[72,100],[76,86,97,114],[78,105,108],[67,111,110,115],[84,108],[84,114,117,101],[70,97,108,115,101],[66,86,97,114],[76,101],[69,113],[78,111,116],[65,110,100],[79,114],[73,102,102]]
def wd (o:Int):Bs:=rQ.getD o.toNat []
def qt (nm:ByteArray):Bs:=34::(nm.data.toList++[34])
def nw (o z:Int):Bs:=if o=0\/z≠0 then 32::lW z else []
def ot (nm:ByteArray):Bs:=if nm=⟨#[]⟩ then [] else 32::qt nm
mutual
def mz:F->Bs
 | .node o z nm ks=>wd o++(nw o z++(ot nm++nU ks))
def nU:List F->Bs
 | []=>[]
 | k::l=>40::(mz k++rR l)
def rR:List F->Bs
 | []=>[41]
 | k::l=>44::32::(mz k++rR l)
end
theorem Pm (o:Int):(wd o).length<=5:=by
 unfold wd;by_cases h:o.toNat<21
 ·have:o.toNat=0\/o.toNat=1\/o.toNat=2\/o.toNat=3\/o.toNat=4\/o.toNat=5\/o.toNat=6\/o.toNat=7\/o.toNat=8\/o.toNat=9\/o.toNat=10\/o.toNat=11\/o.toNat=12\/o.toNat=13\/o.toNat=14\/o.toNat=15\/o.toNat=16\/o.toNat=17\/o.toNat=18\/o.toNat=19\/o.toNat=20:=by omega
  rcases this with e | e | e | e | e | e | e | e | e | e | e | e | e | e | e | e | e | e | e | e | e<;>rw[e]<;>decide
 have hn:rQ.length<=o.toNat:=by show 21<=_;omega
 have:rQ.getD o.toNat []=[]:=by simp[List.getD,List.getElem?_eq_none hn]
 rw[this];exact au _
theorem Ml {z:Int} (h:z.natAbs<aG ^ 4):(lW z).length<=41:=by
 have h1:z.natAbs<10 ^ 40:=az h (by decide);have h2:=mD h1 (by decide);unfold lW;split
 ·rw[mS];omega
 omega
theorem Mr (a:List F) (b:List F):rR (a++b)=(rR a).dropLast++rR b:=by
 induction a with
 | nil=>simp[rR]
 | cons k l ih =>
  have hne:rR l ≠ []:=by cases l<;>simp[rR]
  rw[aR,rR,rR,ih,fj (by simp),fj (by simp[hne]),iN hne];simp
def uL (ks:List F) (j:Nat):Bs:=(nU (ks.take j)).dropLast
theorem uK (ks:List F):uL ks 0=[]:=by simp[uL,nU]
theorem Ms (k:F) (l:List F) (b:F):nU (k::l++[b])=(nU (k::l)).dropLast++(44::32::(mz b++[41])):=by
 have hne:rR l ≠ []:=by cases l<;>simp[rR]
 rw[aR,nU,nU,Mr,fj (by simp[hne]),iN hne];simp[rR]
theorem Mt (ks:List F) (h:0<ks.length):uL ks 1=40::mz ks[0]:=by
 cases ks with
 | nil=>simp at h
 | cons a l =>
  have e:nU [a]=(40::mz a)++[41]:=rfl;show (nU [a]).dropLast=_
  rw[e,List.dropLast_concat];rfl
theorem Cy (ks:List F) (j:Nat) (h0:0<j) (h:j<ks.length):uL ks (j+1)=uL ks j++(44::32::mz ks[j]):=by
 unfold uL;rw[bH h];obtain⟨k,l,hk⟩:∃ k l,ks.take j=k::l:=by
  cases hks:ks.take j with
  | nil =>
   have h9:min j ks.length=0:=by rw[<-List.length_take,hks];rfl
   omega
  | cons k l=>exact⟨k,l,rfl⟩
 rw[hk,Ms,show (44::32::(mz ks[j]++[41]):Bs)=(44::32::mz ks[j])++[41] from rfl,<-bg,List.dropLast_concat]
theorem Bq (ks:List F) (h:0<ks.length):uL ks ks.length++[41]=nU ks:=by
 unfold uL;rw[bK];have hl:∀ l:List F,rR l=(rR l).dropLast++[41]:=by
  intro l;induction l with
  | nil=>simp[rR]
  | cons a l ih =>
   have hne:rR l ≠ []:=by cases l<;>simp[rR]
   rw[rR,fj (by simp),fj (by simp[hne]),iN hne];simp only[aR,bg];rw[<-ih]
 cases ks with
 | nil=>simp at h
 | cons a l =>
  have hne:rR l ≠ []:=by cases l<;>simp[rR]
  rw[nU,fj (by simp[hne]),iN hne,aR,bg,<-hl l]
def AR:List ByteArray:=[⟨#[105,48]⟩,⟨#[105,49]⟩,⟨#[105,50]⟩,⟨#[108,48]⟩,⟨#[108,49]⟩,⟨#[98,48]⟩,⟨#[98,49]⟩]
attribute [local go_sem] eF eE eC eB
structure AA (w:ag):Prop where
 Si : Lib.TabIs aj w "internal/strconv.uint64pow10" .u64 Lib.pow10Tab
 wds:∀ i,i<21->w.cell? ⟨1,i,none⟩=some (.string ⟨(rQ.getD i []).toArray⟩)
 WA:Lib.PrintTabsAt 6 7 8 9 Lib.goPrintTabs w
 Wo:Lib.Utf8Tabs 4 5 w
theorem tabSlice_below {g:Nat} {k:IntKind} {t:List Nat} {w w':ag} (h:Lib.TabSlice g k t w) (hb:aA w.heap.size w w'):Lib.TabSlice g k t w':=by
 obtain⟨R,o,c,h1,h2⟩:=h;exact⟨R,o,c,by rw[hb.cell (cu h1)];exact h1,fun j hj=>by rw[hb.cell (cu (h2 j hj))];exact h2 j hj⟩
theorem AA.below {w w':ag} (h:AA w) (hb:aA w.heap.size w w'):AA w' where
 Si:=sS h.Si hb
 wds i hi:=by rw[hb.cell (cu (h.wds i hi))];exact h.wds i hi
 WA:=by
  obtain⟨a,b,c,d,e⟩:=h.WA;exact⟨tabSlice_below a hb,tabSlice_below b hb,tabSlice_below c hb,tabSlice_below d hb,e⟩
 Wo:=by
  obtain⟨a,b⟩:=h.Wo;exact⟨fun c hc=>by rw[hb.cell (cu (a c hc))];exact a c hc,fun i hi=>⟨by rw[hb.cell (cu (b i hi).1)];exact (b i hi).1,by rw[hb.cell (cu (b i hi).2)];exact (b i hi).2⟩⟩
theorem yz (o:Int) (h0:0<=o) (h1:o<=20) (w:ag) (ht:AA w) :
  aW aj 115 #[.int .i64 o] w fun e w'=>e=.returned (.string ⟨(wd o).toArray⟩)/\aA w.heap.size w w':=by
 obtain⟨k,rfl⟩:∃ k:Nat,o=k:=⟨o.toNat,by omega⟩;have hk:k<21:=by omega
 have c:=ht.wds k hk;have e:wd (k:Int)=rQ.getD k []:=rfl;rw[e];generalize rQ.getD k []=s at c ⊢;clear ht e;go_enter Tryz.func115,Tryz.ntmps115;go_wp2;go_ret;exact⟨rfl,ax _ _⟩
theorem Cz (ks:List F) (j:Nat):∀ m,j+m<=ks.length->(uL ks j).length<=(uL ks (j+m)).length
 | 0,_=>ai _
 | m+1,h=>by
  have ih:=Cz ks j m (by omega)
  by_cases h0:j+m=0
  ·have hj:j=0:=by omega
   subst hj;rw[uK];exact au _
  rw[show j+(m+1)=(j+m)+1 by omega,Cy ks (j+m) (by omega) (by omega),eY];omega
theorem Je (ks:List F) (j:Nat) (h:j<=ks.length) (h0:0<ks.length):(uL ks j).length+1<=(nU ks).length:=by
 have h1:=Cz ks j (ks.length - j) (by omega);rw[show j+(ks.length - j)=ks.length by omega] at h1;have h2:=congrArg d_ (Bq ks h0);rw[eY] at h2;simp only[mS,uA] at h2
 omega
theorem Cx (ks:List F) (j:Nat) (h:j<ks.length):∃ m:Bs,uL ks (j+1)=uL ks j++(m++mz ks[j])/\((j=0/\m=[40])\/(0<j/\m=[44,32])):=by
 by_cases h0:j=0
 ·subst h0;exact⟨[40],by rw[Mt ks h,uK];rfl,.inl ⟨rfl,rfl⟩⟩
 exact⟨[44,32],Cy ks j (by omega) h,.inr ⟨by omega,rfl⟩⟩
theorem fF {B:Nat} {a b c:ag} (h:aA B a b) (hB:B<=b.heap.size) (k:aA b.heap.size b c):aA B a c:=h.trans (k.mono hB)
theorem O6 (a:cB):a.add 0=a:=by simp[nM]
open Classical in
theorem Fm (z:Int):∀ c ∈ lW z,45<=c.toNat:=by
 have hd:=(wB z.natAbs).1;unfold lW;split
 ·intro c hc;rcases List.mem_cons.1 hc with rfl | hc
  ·exact ai _
  have:=hd c hc;omega
 intro c hc;have:=hd c hc;omega
theorem DP {z w:Int} (h:lW z=lW w):z=w:=by
 have a:=wB z.natAbs;have b:=wB w.natAbs;unfold lW at h;by_cases hz:z<0<;>by_cases hw:w<0
 ·rw[if_pos hz,if_pos hw] at h;injection h with _ h;have:=congrArg dn h;rw[a.2.1,b.2.1] at this;omega
 ·rw[if_pos hz,if_neg hw] at h;have:=b.1 45 (by rw[<-h];exact pZ ..);simp at this
 ·rw[if_neg hz,if_pos hw] at h;have:=a.1 45 (by rw[h];exact pZ ..);simp at this
 rw[if_neg hz,if_neg hw] at h;have:=congrArg dn h;rw[a.2.1,b.2.1] at this;omega
def Cut (m:Nat) (l:Bs):Prop:=∀ c r,l=c::r->c.toNat<m
theorem yL (m:Nat):∀ (a b x y:Bs),(∀ c ∈ a,m<=c.toNat)->(∀ c ∈ b,m<=c.toNat)->Cut m x->Cut m y->a++x=b++y->a=b/\x=y
 | [],[],x,y,_,_,_,_,h=>⟨rfl,h⟩
 | [],c::b,x,y,_,hb,hx,_,h=>by
  have h1:=hb c (pZ ..);have h2:=hx c (b++y) (by simpa using h)
  omega
 | c::a,[],x,y,ha,_,_,hy,h=>by
  have h1:=ha c (pZ ..);have h2:=hy c (a++x) (by simpa using h.symm)
  omega
 | c::a,d::b,x,y,ha,hb,hx,hy,h=>by
  rw[aR,aR] at h;injection h with h1 h2;obtain⟨h3,h4⟩:=yL m a b x y (fun c hc=>ha c (I8 _ hc)) (fun c hc=>hb c (I8 _ hc)) hx hy h2;exact⟨by rw[h1,h3],h4⟩
def tY (r:Bs):Prop:=r=[]\/∃ l,r=44::l\/r=41::l
theorem tY.cut {r:Bs} (h:tY r) {m:Nat} (hm:45<=m):Cut m r:=by
 intro c l e;rcases h with rfl | ⟨q,rfl | rfl⟩
 ·cases e
 ·injection e with e1;subst e1;show 44<m;omega
 injection e with e1;subst e1;show 41<m;omega
theorem uN (l:List F) (r:Bs):tY (rR l++r):=by
 cases l with
 | nil=>exact .inr ⟨r,.inr rfl⟩
 | cons a l=>exact .inr ⟨32::(mz a++rR l)++r,.inl rfl⟩
theorem B5 (ks:List F) (r:Bs) (hr:tY r) {m:Nat} (hm:45<=m):Cut m (nU ks++r):=by
 cases ks with
 | nil=>exact hr.cut hm
 | cons a l =>
  intro c q e;rw[nU,aR] at e;injection e with e1;subst e1;show 40<m
  omega
theorem Gy:∀ i,i<21->∀ j,j<21->rQ.getD i []=rQ.getD j []->i=j:=by decide
theorem Pn {o p:Int} (ho:0<=o/\o<=20) (hp:0<=p/\p<=20) (h:wd o=wd p):o=p:=by
 have:=Gy o.toNat (by omega) p.toNat (by omega) h
 omega
theorem Gx:∀ i,i<21->∀ c ∈ rQ.getD i [],65<=c.toNat:=by decide
theorem Jd {o:Int} (ho:0<=o/\o<=20):∀ c ∈ wd o,65<=c.toNat:=Gx o.toNat (by omega)
theorem Dm (o z:Int) (nm:ByteArray) (ks:List F) (r:Bs) (hr:tY r):Cut 45 (nw o z++(ot nm++(nU ks++r))):=by
 unfold nw;split
 ·intro c q e;rw[aR] at e;injection e with e1;subst e1;decide
 unfold ot;split
 ·exact B5 ks r hr (ai _)
 intro c q e;rw[ew,aR] at e;injection e with e1;subst e1;decide
theorem Cut.up {m n:Nat} {l:Bs} (h:Cut m l) (hn:m<=n):Cut n l:=fun c r e=>az (h c r e) hn
theorem M0 {o:Int} {nm:ByteArray} (ho:¬(o=1\/o=8\/o=14)) (h:gW o nm):nm=⟨#[]⟩:=by
 unfold gW at h
 rwa [if_neg (by omega),if_neg (by omega),if_neg (by omega)] at h
theorem JT {o z w:Int} {x y:Bs} (hx:Cut 45 x) (hy:Cut 45 y) (h1:¬(o=0\/z≠0)->(o=0\/w≠0)->∀ q,x≠32::q) (h2:¬(o=0\/w≠0)->(o=0\/z≠0)->∀ q,y≠32::q) (h:nw o z++x=nw o w++y):z=w/\x=y:=by
 unfold nw at h;by_cases a:o=0\/z≠0<;>by_cases b:o=0\/w≠0
 ·rw[if_pos a,if_pos b,aR,aR] at h;injection h with _ h;obtain⟨e1,e2⟩:=yL 45 _ _ _ _ (Fm z) (Fm w) hx hy h;exact⟨DP e1,e2⟩
 ·rw[if_pos a,if_neg b,ew,aR] at h;exact absurd h.symm (h2 b a _)
 ·rw[if_neg a,if_pos b,ew,aR] at h;exact absurd h (h1 a b _)
 rw[if_neg a,if_neg b] at h;exact⟨by omega,h⟩
theorem OB {ks:List F} {r:Bs} (hr:tY r) (q:Bs):nU ks++r≠32::q:=by
 cases ks with
 | nil =>
  intro e;rcases hr with rfl | ⟨l,rfl | rfl⟩
  ·cases e
  ·injection e with e;cases e
  injection e with e;cases e
 | cons a l=>intro e;rw[nU,aR] at e;injection e with e;cases e
theorem yY {o z:Int} {ks:List F} (ho:o=1\/o=8\/o=14) (h:dP o z (eR ks)=true):ks=[]:=by
 rcases ho with rfl | rfl | rfl<;>exact yK (by simpa [dP,bF] using h)
def pI (c:UInt8):Prop:=48<=c.toNat/\c.toNat<=122/\c.toNat≠92
theorem Uc (c:UInt8) (l:Bs) (h:pI c):Utf8.decode ⟨(c::l).toArray⟩ 0=(c.toNat,1):=by
 rw[Lib.decode_at];have e:(⟨(c::l).toArray⟩:ByteArray).get! 0=c:=rfl;rw[e];unfold Lib.decodeN;obtain⟨h1,h2,h3⟩:=h;rw[if_pos (by omega)]
theorem step0 (T:Lib.PrintTabs) (c:UInt8) (l:Bs) (h:pI c):Lib.quoteStep T ⟨(c::l).toArray⟩=[(c.toNat:Int)]:=by
 unfold Lib.quoteStep;rw[Uc c l h];obtain⟨h1,h2,h3⟩:=h;rw[if_neg (by simp only;omega)];simp only;unfold Lib.escRune;rw[if_neg (by omega),if_pos (by unfold Lib.isPrintR Lib.isPrintLatin;rw[if_pos (by omega)];simp;left;omega)];unfold Lib.encodeRuneZ;rw[if_pos (by omega)]
theorem OX (T:Lib.PrintTabs):∀ l:Bs,(∀ c ∈ l,pI c)->Lib.quoteFrom T l.length ⟨l.toArray⟩=l.map fun c=>(c.toNat:Int)
 | [],_=>rfl
 | c::l,h=>by
  rw[mS,Lib.quoteFrom,if_pos (show 0<(⟨(c::l).toArray⟩:ByteArray).size from Nat.succ_pos _),step0 T c l (h c (by simp)),Uc c l (h c (by simp))]
  have e:(⟨(c::l).toArray⟩:ByteArray).extract 1 (⟨(c::l).toArray⟩:ByteArray).size=⟨l.toArray⟩:=by
   apply ByteArray.ext;rw[ByteArray.data_extract];show (c::l).toArray.extract 1 (c::l).length=l.toArray
   simp
  simp only;rw[e,OX T l (fun d hd=>h d (by simp[hd]))];rfl
theorem MQ (T:Lib.PrintTabs) (nm:ByteArray) (h:∀ c ∈ nm.data.toList,pI c):strOfNums (Lib.quoteZ T nm)=⟨(qt nm).toArray⟩:=by
 obtain⟨⟨l⟩⟩:=nm;have e:=OX T l h;unfold Lib.quoteZ;rw[show (⟨⟨l⟩⟩:ByteArray).size=l.length from rfl,e];unfold strOfNums qt
 simp[Function.comp_def]
structure Mc (nm:ByteArray):Prop where
 ne:nm ≠ ⟨#[]⟩
 sz:nm.data.toList.length<=20
 pl:∀ c ∈ nm.data.toList,pI c
theorem Mc.emp {nm:ByteArray} (h:Mc nm):nm.toList.isEmpty=false:=by
 rw[Bool.eq_false_iff];intro he;apply h.ne;have h2:nm.toList=[]:=List.isEmpty_iff.1 he;have h3:nm.toList=nm.data.toList:=by rw[ByteArray.toList_eq]
 rw[h3] at h2;exact ByteArray.ext (Array.toList_inj.1 h2)
def Md (o:Int) (nm:ByteArray):Prop:=if o=1\/o=8\/o=14 then Mc nm else nm=⟨#[]⟩
theorem oh {o:Int} {nm:ByteArray} (h:¬ (o=1\/o=8\/o=14)) (k:Md o nm):nm=⟨#[]⟩:=by unfold Md at k;rwa [if_neg h] at k
theorem sW {o:Int} {nm:ByteArray} (h:o=1\/o=8\/o=14) (k:Md o nm):Mc nm:=by unfold Md at k;rwa [if_pos h] at k
theorem M1 {nm:ByteArray} (h:nm ∈ AR):Mc nm:=by
 simp only[AR,bz,aU,or_false] at h;rcases h with rfl | rfl | rfl | rfl | rfl | rfl | rfl<;>exact⟨by decide,by decide,by unfold pI;decide⟩
theorem JU {o:Int} {nm:ByteArray} (ho:o=1\/o=8\/o=14) (h:gW o nm):nm ∈ AR:=by
 rcases ho with rfl | rfl | rfl
 ·rcases (show nm=_\/nm=_\/nm=_ from h) with rfl | rfl | rfl<;>simp[AR]
 ·rcases (show nm=_\/nm=_ from h) with rfl | rfl<;>simp[AR]
 rcases (show nm=_\/nm=_ from h) with rfl | rfl<;>simp[AR]
theorem gW.g {o:Int} {nm:ByteArray} (h:gW o nm):Md o nm:=by
 unfold Md;split
 ·rename_i ho;exact M1 (JU ho h)
 rename_i ho;exact M0 ho h
def Tg:Nat->F->Prop
 | 0,_=>False
 | d+1,t=>Md t.op t.name/\t.num.natAbs<aG ^ 4/\(t.op≠0->t.op≠3->t.op≠5->t.num=0)/\t.kids.length<=8/\∀ k ∈ t.kids,Tg d k
theorem Tm.g:∀ {d:Nat} {t:F},Tm d t->Tg d t
 | 0,_,h=>h
 | d+1,_,⟨h1,h2,h3,h4,h5⟩=>⟨h1.g,h2,h3,ah h4 (by decide),fun k hk=>(h5 k hk).g⟩
theorem Tm.LR:∀ {d:Nat} {t:F},Tm d t->Tm (d+1) t
 | 0,_,h=>absurd h id
 | d+1,_,⟨h1,h2,h3,h4,h5⟩=>⟨h1,h2,h3,h4,fun k hk=>(h5 k hk).LR⟩
theorem Tm.up {d:Nat} {t:F} (h:Tm d t):∀ {d':Nat},d<=d'->Tm d' t
 | 0,hd=>by cases d with | zero=>exact h | succ d=>omega
 | d'+1,hd=>by
  by_cases e:d=d'+1
  ·rw[<-e];exact h
  exact (Tm.up h (by omega)).LR
theorem Tg.LR:∀ {d:Nat} {t:F},Tg d t->Tg (d+1) t
 | 0,_,h=>absurd h id
 | d+1,_,⟨h1,h2,h3,h4,h5⟩=>⟨h1,h2,h3,h4,fun k hk=>(h5 k hk).LR⟩
def CS:Nat->Nat
 | 0=>0
 | d+1=>80+8*(CS d+2)
theorem FI:∀ d,d<=2->CS d<=900000:=by decide
theorem JZ {o:Int} {nm:ByteArray} (h:Md o nm):(ot nm).length<=23:=by
 unfold ot;split
 ·exact au _
 rename_i hne;by_cases ho:o=1\/o=8\/o=14
 ·have:=(sW ho h).sz;unfold qt;simp only[mS,eY,uA];omega
 exact absurd (oh ho h) hne
theorem xU:∀ (d:Nat) (t:F),Tg d t->(mz t).length<=CS d
 | 0,t,h=>absurd h id
 | d+1,.node o z nm ks,h=>by
  obtain⟨h1,h2,h3,h4,h5⟩:=h;have hw:=Pm o
  have hn:(nw o z).length<=42:=by
   unfold nw;split
   ·rw[mS];have:=Ml h2;show _+1<=42;simp only[F.num] at this;omega
   exact au _
  have hm:=JZ h1;simp only[F.name] at hm;have key:∀ l:List F,(∀ k ∈ l,Tg d k)->(rR l).length<=l.length*(CS d+2)+1:=by
   intro l;induction l with
   | nil=>intro _;simp[rR]
   | cons a l ih =>
    intro hl;have:=ih (fun k hk=>hl k (by simp[hk]));have ha:=xU d a (hl a (by simp));rw[rR];simp only[mS,eY,Nat.add_mul,Nat.one_mul];omega
  simp only[F.kids] at h4 h5;have hk:(nU ks).length<=8*(CS d+2)+1:=by
   cases ks with
   | nil=>simp[nU]
   | cons a l =>
    have h6:=key l (fun k hk=>h5 k (by simp[hk]));have ha:=xU d a (h5 a (by simp));have h7:l.length*(CS d+2)<=7*(CS d+2):=Nat.mul_le_mul_right _ (by rw[mS] at h4;omega);rw[nU];simp only[mS,eY];omega
  rw[mz,CS];simp only[eY];omega
theorem CM:∀ (a b x y:Bs),(∀ c ∈ a,pI c)->(∀ c ∈ b,pI c)->a++(34::x)=b++(34::y)->a=b/\x=y
 | [],[],x,y,_,_,h=>by injection h with _ h;exact⟨rfl,h⟩
 | [],c::b,x,y,_,hb,h=>by
  injection h with h _;have:=(hb c (by simp)).1;rw[<-h] at this;exact absurd this (by decide)
 | c::a,[],x,y,ha,_,h=>by
  injection h with h _;have:=(ha c (by simp)).1;rw[h] at this;exact absurd this (by decide)
 | c::a,d::b,x,y,ha,hb,h=>by
  injection h with h1 h2;obtain⟨h3,h4⟩:=CM a b x y (fun q hq=>ha q (by simp[hq])) (fun q hq=>hb q (by simp[hq])) h2;exact⟨by rw[h1,h3],h4⟩
theorem MT {p q:ByteArray} {x y:Bs} (hp:Mc p) (hq:Mc q) (h:qt p++x=qt q++y):p=q/\x=y:=by
 unfold qt at h;simp only[aR,bg,ew] at h;injection h with _ h;obtain⟨h1,h2⟩:=CM _ _ _ _ hp.pl hq.pl h;exact⟨ByteArray.ext (Array.toList_inj.1 h1),h2⟩
theorem Bp:∀ (d:Nat) (t s:F),Tg d t->Tg d s->rt t=true->rt s=true->∀ r r':Bs,tY r->tY r'->mz t++r=mz s++r'->t=s/\r=r'
 | 0,t,s,h,_,_,_=>absurd h id
 | d+1,.node o z nm ks,.node o' z' Sq ks',ht,hs,Ww,Wv=>by
  intro r r' hr hr' h;obtain⟨hf,hk⟩:=iX Ww;obtain⟨ZL,hk'⟩:=iX Wv;have ho:=jJ hf;have ji:=jJ ZL;obtain⟨n1,n2,n3,-,n5⟩:=ht;obtain⟨m1,m2,m3,-,m5⟩:=hs;simp only[F.op,F.num,F.name,F.kids] at n1 n3 n5 m1 m3 m5;rw[mz,mz,bg,bg,bg,bg,bg,bg] at h;obtain⟨e1,e2⟩:=yL 65 _ _ _ _ (Jd ho) (Jd ji) ((Dm o z nm ks r hr).up (by decide)) ((Dm o' z' Sq ks' r' hr').up (by decide)) h;have eo:=Pn ho ji e1;subst eo
  -- the kids
  have kids:∀ (l l':List F),(∀ k ∈ l,Tg d k/\rt k=true)->(∀ k ∈ l',Tg d k/\rt k=true)->∀ x y:Bs,tY x->tY y->rR l++x=rR l'++y->l=l'/\x=y:=by
   intro l;induction l with
   | nil =>
    intro l' _ _ x y _ _ e;cases l' with
    | nil=>rw[rR,aR,aR] at e;injection e with _ e;exact⟨rfl,e⟩
    | cons a m=>rw[rR,rR,aR,aR] at e;injection e with e;cases e
   | cons a m ih =>
    intro l' hl hl' x y hx hy e;cases l' with
    | nil=>rw[rR,rR,aR,aR] at e;injection e with e;cases e
    | cons b n =>
     rw[rR,rR,aR,aR,aR,aR] at e;injection e with _ e;injection e with _ e;rw[bg,bg] at e;obtain⟨q1,q2⟩:=Bp d a b (hl a (by simp)).1 (hl' b (by simp)).1 (hl a (by simp)).2 (hl' b (by simp)).2 _ _ (uN m x) (uN n y) e;obtain⟨q3,q4⟩:=ih n (fun k hk=>hl k (by simp[hk])) (fun k hk=>hl' k (by simp[hk])) x y hx hy q2;exact⟨by rw[q1,q3],q4⟩
  have Sz:nU ks++r=nU ks'++r'->ks=ks'/\r=r':=by
   intro e;cases ks with
   | nil =>
    cases ks' with
    | nil=>exact⟨rfl,e⟩
    | cons b n =>
     rw[nU,nU,ew,aR] at e;rcases hr with rfl | ⟨l,rfl | rfl⟩
     ·cases e
     ·injection e with e;cases e
     injection e with e;cases e
   | cons a m =>
    cases ks' with
    | nil =>
     rw[nU,nU,ew,aR] at e;rcases hr' with rfl | ⟨l,rfl | rfl⟩
     ·cases e
     ·injection e with e;cases e
     injection e with e;cases e
    | cons b n =>
     rw[nU,nU,aR,aR] at e;injection e with _ e;rw[bg,bg] at e;obtain⟨q1,q2⟩:=Bp d a b (n5 a (by simp)) (m5 b (by simp)) (hk a (by simp)) (hk' b (by simp)) _ _ (uN m r) (uN n r') e;obtain⟨q3,q4⟩:=kids m n (fun k h=>⟨n5 k (by simp[h]),hk k (by simp[h])⟩) (fun k h=>⟨m5 k (by simp[h]),hk' k (by simp[h])⟩) r r' hr hr' q2;exact⟨by rw[q1,q3],q4⟩
  by_cases hn:o=1\/o=8\/o=14
  ·have k1:=yY hn hf;have k2:=yY hn ZL;have z1:z=0:=n3 (by omega) (by omega) (by omega);have z2:z'=0:=m3 (by omega) (by omega) (by omega);have a1:=sW hn n1;have b1:=sW hn m1;subst k1 k2 z1 z2;rw[show nw o 0=[] from if_neg (by omega),ew,ew,show ot nm=32::qt nm from if_neg a1.ne,show ot Sq=32::qt Sq from if_neg b1.ne,aR,aR] at e2;injection e2 with _ e2;obtain⟨q1,q2⟩:=MT a1 b1 e2;exact⟨by rw[q1],q2⟩
  have a1:=oh hn n1;have b1:=oh hn m1;subst a1 b1;rw[show ot ⟨#[]⟩=[] from rfl,ew,ew] at e2;obtain⟨q1,q2⟩:=JT (B5 ks r hr (ai _)) (B5 ks' r' hr' (ai _)) (fun _ _ q=>OB hr q) (fun _ _ q=>OB hr' q) e2;obtain⟨q3,q4⟩:=Sz q2;exact⟨by rw[q1,q3],q4⟩
theorem GB {d:Nat} {t s:F} (h1:Tg d t) (h2:Tg d s) (h3:rt t=true) (h4:rt s=true) (h:mz t=mz s):t=s:=
 (Bp d t s h1 h2 h3 h4 [] [] (.inl rfl) (.inl rfl) (by rw[dJ,dJ,h])).1
attribute [local go_sem] eF eE eC eB
def uy:Prop:=∀ nm,Mc nm->∀ w:ag,AA w->aW aj 117 #[.string nm] w fun e w'=>e=.returned (.string ⟨(qt nm).toArray⟩)/\aA w.heap.size w w'
def wD (d:Nat):Prop:=∀ (w0 w:ag) (v:aq) (t:F) (B b:Nat) (l:Bs),FC w0 tS d v t->AA w0->rt t=true->Tg d t->w0.heap.size<=B->aA w0.heap.size w0 w->uE B b l w->B<=w.heap.size->l.length+(mz t).length<=1000000 ->
 aW aj 67 #[.pointer (some ⟨b,0,none⟩),v] w (sP B b (l++mz t) w)
theorem DR (HQ:uy) (d:Nat) (IH:wD d) (w0 w:ag) (v:aq) (t:F) (B b:Nat) (l:Bs) (ho:t.op=0):FC w0 tS (d+1) v t->AA w0->rt t=true->Tg (d+1) t->w0.heap.size<=B->aA w0.heap.size w0 w->uE B b l w->B<=w.heap.size->l.length+(mz t).length<=1000000 ->
  aW aj 67 #[.pointer (some ⟨b,0,none⟩),v] w (sP B b (l++mz t) w):=by
 intro hf ht qg BP hB kD dw hBw hlen;obtain⟨b2,ao,la,c,ko,kl,kc,rfl,⟨-,hz,iy,hkc,hkm⟩,-,hk⟩:=hf.open;obtain⟨o,z,nm,ks⟩:=t;simp only[F.op,F.num,F.name,F.kids] at hz hk iy ho ⊢;rw[show d+1 - 1=d from rfl] at hk;obtain⟨hfit,jT⟩:=iX qg;have Aq:=jJ hfit;obtain⟨hnm,BK,hz0,-,zj⟩:=BP;simp only[F.op,F.num,F.name,F.kids] at hnm BK hz0 zj;have As:kc<=9223372036854775807:=hkm;have KQ:kl<=9223372036854775807:=ah hkc hkm;have pD:l.length+((wd o).length+((nw o z).length+((ot nm).length+(nU ks).length)))<=1000000:=by have h:=hlen;rw[mz,eY,eY,eY] at h;omega
 have HN:=aa iy;have HZ:=aa hz;have HT:=aa ht;have sO:=aa pD;have Gp:=aa Aq;have jz:=aa hB;have HW:=aa kD;have gb:=aa dw;have cr:Hid (B<=w.heap.size):=aa hBw;have fW:=aa (ax B w);have gA:=aa (Cj.refl w);have zR:Hid (mz (.node o z nm ks)=wd o++(nw o z++(ot nm++nU ks))):=aa (by rw[mz]);clear hf ht qg hB kD dw hBw hlen pD iy hk hz jT zj HQ IH;subst ho;have NA:ks=[]:=yK (by simpa [dP,bF] using hfit);have U1:Hid (nU ks=[]):=aa (by rw[NA];rfl);have KR:kl=0:=by rw[HN.out,NA];rfl
 subst KR;have Ta:nm=⟨#[]⟩:=oh (by omega) hnm;subst Ta;have zT:Hid (nw 0 z=32::lW z):=aa (if_pos (.inl rfl));have Mg:Hid (ot ⟨#[]⟩=[]):=aa rfl;clear hfit hnm BK hz0 Aq hkc hkm;go_enter Tryz.func67,Tryz.ntmps67;obtain⟨x1,kf,ef,jK,bL,jc,aE⟩:=aM w #[.int .i64 0,.bool b2,.slice ao la c,.string ⟨#[]⟩,.slice ko 0 kc] 29;replace HW:=aa (HW.out.trans (bL.out.mono HW.out.size));replace gb:=aa (gb.out.below bL.out);replace fW:=aa (fF fW.out cr.out bL.out);replace gA:=aa (gA.out.trans (fe bL.out));replace cr:=aa (ah cr.out bL.out.size);obtain⟨⟨c0,c1,c2,c3,c4⟩,cA,cG,cF,cE,cC⟩:=ak aE.out;go_wp2_with fail;refine (yz 0 Gp.out.1 Gp.out.2 x1 (HT.out.below HW.out)).mono ?_
 rintro e x2 ⟨rfl,hb⟩;clear c0 cA c1 cG c2 cF c3 cE c4 cC;replace aE:=aS hb aE;replace HW:=aa (HW.out.trans (hb.mono HW.out.size));replace gb:=aa (gb.out.below hb);replace fW:=aa (fF fW.out cr.out hb);replace gA:=aa (gA.out.trans (fe hb));replace cr:=aa (ah cr.out hb.size);clear hb;go_wp2_with fail;refine (pO B b l (wd 0) x2 gb.out (by have:=sO.out;omega) cr.out).mono ?_;rintro e x3 ⟨⟨v,rfl⟩,dw,hb,hfr⟩;replace aE:=aa (hfr _ _ _ _ aE.out (by decide) (by decide));replace HW:=aa (HW.out.trans (hb.mono jz.out));replace fW:=aa (fW.out.trans hb);replace gA:=aa (gA.out.trans hfr);replace cr:Hid (B<=x3.heap.size):=aa (ah cr.out hb.size);replace gb:=aa dw;clear dw hb hfr
 obtain⟨⟨c0,c1,c2,c3,c4⟩,cA,cG,cF,cE,cC⟩:=ak aE.out;go_wp2_with fail;refine (qU B b (l++wd 0) 32 32 rfl x3 gb.out (by have:=sO.out;have h3:=zT.out;rw[h3] at this;rw[eY];simp only[mS] at this;omega) cr.out).mono ?_;rintro e x4 ⟨⟨v,rfl⟩,dw,hb,hfr⟩;clear c0 cA c1 cG c2 cF c3 cE c4 cC;replace aE:=aa (hfr _ _ _ _ aE.out (by decide) (by decide));replace HW:=aa (HW.out.trans (hb.mono jz.out));replace fW:=aa (fW.out.trans hb);replace gA:=aa (gA.out.trans hfr);replace cr:Hid (B<=x4.heap.size):=aa (ah cr.out hb.size);replace gb:=aa dw;clear dw hb hfr;obtain⟨⟨c0,c1,c2,c3,c4⟩,cA,cG,cF,cE,cC⟩:=ak aE.out;go_wp2_with fail
 refine (AE _ z 600 x4 (HT.out.below HW.out).Si ((HZ.out.below HW.out).gi) (by decide)).mono ?_;rintro e x5 ⟨rfl,hb⟩;clear c0 cA c1 cG c2 cF c3 cE c4 cC;replace aE:=aS hb aE;replace gb:=aa (gb.out.below hb);replace fW:=aa (fF fW.out cr.out hb);replace gA:=aa (gA.out.trans (fe hb));replace cr:=aa (ah cr.out hb.size);clear hb;go_wp2_with fail;refine (pO B b (l++wd 0++[32]) (lW z) x5 gb.out (by have:=sO.out;have h3:=zT.out;rw[h3] at this;rw[eY,eY];simp only[mS,uA] at this ⊢;omega) cr.out).mono ?_;rintro e x6 ⟨⟨v,rfl⟩,dw,hb,hfr⟩;replace aE:=aa (hfr _ _ _ _ aE.out (by decide) (by decide));replace fW:=aa (fW.out.trans hb);replace gA:=aa (gA.out.trans hfr)
 replace cr:Hid (B<=x6.heap.size):=aa (ah cr.out hb.size);replace gb:=aa dw;clear dw hb hfr;obtain⟨⟨c0,c1,c2,c3,c4⟩,cA,cG,cF,cE,cC⟩:=ak aE.out;go_wp2_with fail;go_end0;exact⟨⟨_,rfl⟩,by rw[zR.out,zT.out,Mg.out,U1.out];simpa using gb.out,fW.out,gA.out⟩
theorem DS (HQ:uy) (d:Nat) (IH:wD d) (w0 w:ag) (v:aq) (t:F) (B b:Nat) (l:Bs) (ho:t.op=1\/t.op=8\/t.op=14):FC w0 tS (d+1) v t->AA w0->rt t=true->Tg (d+1) t->w0.heap.size<=B->aA w0.heap.size w0 w->uE B b l w->B<=w.heap.size->l.length+(mz t).length<=1000000 ->
  aW aj 67 #[.pointer (some ⟨b,0,none⟩),v] w (sP B b (l++mz t) w):=by
 intro hf ht qg BP hB kD dw hBw hlen;obtain⟨b2,ao,la,c,ko,kl,kc,rfl,⟨-,hz,iy,hkc,hkm⟩,-,hk⟩:=hf.open;obtain⟨o,z,nm,ks⟩:=t;simp only[F.op,F.num,F.name,F.kids] at hz hk iy ho ⊢;rw[show d+1 - 1=d from rfl] at hk;obtain⟨hfit,jT⟩:=iX qg;have Aq:=jJ hfit;obtain⟨hnm,BK,hz0,-,zj⟩:=BP;simp only[F.op,F.num,F.name,F.kids] at hnm BK hz0 zj;have As:kc<=9223372036854775807:=hkm;have KQ:kl<=9223372036854775807:=ah hkc hkm;have pD:l.length+((wd o).length+((nw o z).length+((ot nm).length+(nU ks).length)))<=1000000:=by have h:=hlen;rw[mz,eY,eY,eY] at h;omega
 have HN:=aa iy;have HZ:=aa hz;have HT:=aa ht;have sO:=aa pD;have HQU:=aa HQ;have Gp:=aa Aq;have jz:=aa hB;have HW:=aa kD;have gb:=aa dw;have cr:Hid (B<=w.heap.size):=aa hBw;have fW:=aa (ax B w);have gA:=aa (Cj.refl w);have zR:Hid (mz (.node o z nm ks)=wd o++(nw o z++(ot nm++nU ks))):=aa (by rw[mz]);clear hf ht qg hB kD dw hBw hlen pD iy hk hz jT zj HQ IH;have NA:ks=[]:=by rcases ho with rfl | rfl | rfl<;>exact yK (by simpa [dP,bF] using hfit)
 have U1:Hid (nU ks=[]):=aa (by rw[NA];rfl);have KR:kl=0:=by rw[HN.out,NA];rfl
 subst KR;have gV:z=0:=hz0 (by omega) (by omega) (by omega);subst gV;have xY:Mc nm:=sW ho hnm;have Ys:=aa xY;have hne:nm ≠ ⟨#[]⟩:=xY.ne;have hnb:=xY.emp;have zT:Hid (nw o 0=[]):=aa (if_neg (by omega));have Mg:Hid (ot nm=32::qt nm):=aa (if_neg hne);have W6:(o==0)=false:=beq_eq_false_iff_ne.2 (by omega);have Ra:Hid (eX 0=0):=aa rfl;clear hfit hnm BK hz0 Aq hkc hkm;clear ho hne xY NA;go_enter Tryz.func67,Tryz.ntmps67;obtain⟨x1,kf,ef,jK,bL,jc,aE⟩:=aM w #[.int .i64 o,.bool b2,.slice ao la c,.string nm,.slice ko 0 kc] 29;replace HW:=aa (HW.out.trans (bL.out.mono HW.out.size));replace gb:=aa (gb.out.below bL.out);replace fW:=aa (fF fW.out cr.out bL.out);replace gA:=aa (gA.out.trans (fe bL.out))
 replace cr:=aa (ah cr.out bL.out.size);obtain⟨⟨c0,c1,c2,c3,c4⟩,cA,cG,cF,cE,cC⟩:=ak aE.out;go_wp2_with fail;refine (yz o Gp.out.1 Gp.out.2 x1 (HT.out.below HW.out)).mono ?_;rintro e x2 ⟨rfl,hb⟩;clear c0 cA c1 cG c2 cF c3 cE c4 cC;replace aE:=aS hb aE;replace HW:=aa (HW.out.trans (hb.mono HW.out.size));replace gb:=aa (gb.out.below hb);replace fW:=aa (fF fW.out cr.out hb);replace gA:=aa (gA.out.trans (fe hb));replace cr:=aa (ah cr.out hb.size);clear hb;go_wp2_with fail;refine (pO B b l (wd o) x2 gb.out (by have:=sO.out;omega) cr.out).mono ?_;rintro e x3 ⟨⟨v,rfl⟩,dw,hb,hfr⟩;replace aE:=aa (hfr _ _ _ _ aE.out (by decide) (by decide))
 replace HW:=aa (HW.out.trans (hb.mono jz.out));replace fW:=aa (fW.out.trans hb);replace gA:=aa (gA.out.trans hfr);replace cr:Hid (B<=x3.heap.size):=aa (ah cr.out hb.size);replace gb:=aa dw;clear dw hb hfr;obtain⟨⟨c0,c1,c2,c3,c4⟩,cA,cG,cF,cE,cC⟩:=ak aE.out;go_wp2_with fail;refine (gY _ 0 600 x3 ((HZ.out.below HW.out).gi) (by decide)).mono ?_;rintro e x4 ⟨rfl,hb⟩;clear c0 cA c1 cG c2 cF c3 cE c4 cC;replace aE:=aS hb aE;replace HW:=aa (HW.out.trans (hb.mono HW.out.size));replace gb:=aa (gb.out.below hb);replace fW:=aa (fF fW.out cr.out hb);replace gA:=aa (gA.out.trans (fe hb));replace cr:=aa (ah cr.out hb.size);clear hb;rw[Ra.out]
 obtain⟨⟨c0,c1,c2,c3,c4⟩,cA,cG,cF,cE,cC⟩:=ak aE.out;go_wp2_with fail;refine (qU B b (l++wd o) 32 32 rfl x4 gb.out (by have:=sO.out;rw[eY];omega) cr.out).mono ?_;rintro e x5 ⟨⟨v,rfl⟩,dw,hb,hfr⟩;clear c0 cA c1 cG c2 cF c3 cE c4 cC;replace aE:=aa (hfr _ _ _ _ aE.out (by decide) (by decide));replace HW:=aa (HW.out.trans (hb.mono jz.out));replace fW:=aa (fW.out.trans hb);replace gA:=aa (gA.out.trans hfr);replace cr:Hid (B<=x5.heap.size):=aa (ah cr.out hb.size);replace gb:=aa dw;clear dw hb hfr;obtain⟨⟨c0,c1,c2,c3,c4⟩,cA,cG,cF,cE,cC⟩:=ak aE.out;go_wp2_with fail;refine (HQU.out nm Ys.out x5 (HT.out.below HW.out)).mono ?_;rintro e x6 ⟨rfl,hb⟩;clear c0 cA c1 cG c2 cF c3 cE c4 cC
 replace aE:=aS hb aE;replace gb:=aa (gb.out.below hb);replace fW:=aa (fF fW.out cr.out hb);replace gA:=aa (gA.out.trans (fe hb));replace cr:=aa (ah cr.out hb.size);clear hb;go_wp2_with fail;refine (pO B b (l++wd o++[32]) (qt nm) x6 gb.out (by have:=sO.out;have h3:=Mg.out;rw[h3] at this;rw[eY,eY];simp only[mS,uA] at this ⊢;omega) cr.out).mono ?_;rintro e x7 ⟨⟨v,rfl⟩,dw,hb,hfr⟩;replace aE:=aa (hfr _ _ _ _ aE.out (by decide) (by decide));replace fW:=aa (fW.out.trans hb);replace gA:=aa (gA.out.trans hfr);replace cr:Hid (B<=x7.heap.size):=aa (ah cr.out hb.size);replace gb:=aa dw;clear dw hb hfr;obtain⟨⟨c0,c1,c2,c3,c4⟩,cA,cG,cF,cE,cC⟩:=ak aE.out;go_wp2_with fail;go_end0
 exact⟨⟨_,rfl⟩,by rw[zR.out,zT.out,Mg.out,U1.out];simpa using gb.out,fW.out,gA.out⟩
theorem Gt (HQ:uy) (d:Nat) (IH:wD d) (w0 w:ag) (v:aq) (t:F) (B b:Nat) (l:Bs) (ho:t.op≠0/\t.op≠1/\t.op≠8/\t.op≠14) (Hr:t.num=0) (hks:t.kids.length≠0):FC w0 tS (d+1) v t->AA w0->rt t=true->Tg (d+1) t->w0.heap.size<=B->aA w0.heap.size w0 w->uE B b l w->B<=w.heap.size->l.length+(mz t).length<=1000000 ->
  aW aj 67 #[.pointer (some ⟨b,0,none⟩),v] w (sP B b (l++mz t) w):=by
 intro hf ht qg BP hB kD dw hBw hlen;obtain⟨b2,ao,la,c,ko,kl,kc,rfl,⟨-,hz,iy,hkc,hkm⟩,-,hk⟩:=hf.open;obtain⟨o,z,nm,ks⟩:=t;simp only[F.op,F.num,F.name,F.kids] at hz hk iy ho Hr hks ⊢;rw[show d+1 - 1=d from rfl] at hk;obtain⟨hfit,jT⟩:=iX qg;have Aq:=jJ hfit;obtain⟨hnm,BK,hz0,-,zj⟩:=BP;simp only[F.op,F.num,F.name,F.kids] at hnm BK hz0 zj;have As:kc<=9223372036854775807:=hkm;have KQ:kl<=9223372036854775807:=ah hkc hkm;have pD:l.length+((wd o).length+((nw o z).length+((ot nm).length+(nU ks).length)))<=1000000:=by have h:=hlen;rw[mz,eY,eY,eY] at h;omega
 have HN:=aa iy;have HX:=aa hk;have HZ:=aa hz;have HT:=aa ht;have qq:=aa zj;have Od:=aa jT;have sO:=aa pD;have U3:=aa IH;have Gp:=aa Aq;have jz:=aa hB;have HW:=aa kD;have gb:=aa dw;have cr:Hid (B<=w.heap.size):=aa hBw;have fW:=aa (ax B w);have gA:=aa (Cj.refl w);have zR:Hid (mz (.node o z nm ks)=wd o++(nw o z++(ot nm++nU ks))):=aa (by rw[mz]);clear hf ht qg hB kD dw hBw hlen pD iy hk hz jT zj HQ IH;have xY:nm=⟨#[]⟩:=oh (by omega) hnm;subst xY;have Mg:Hid (ot ⟨#[]⟩=[]):=aa rfl;have W6:(o==0)=false:=beq_eq_false_iff_ne.2 (by omega);subst Hr;have zT:Hid (nw o 0=[]):=aa (if_neg (by omega));have Ra:Hid (eX 0=0):=aa rfl
 have hkp:kl≠0:=by rw[HN.out];exact hks
 have hkb:(((kl:Nat):Int)==0)=false:=beq_eq_false_iff_ne.2 (by omega);clear hks;clear hfit hnm BK hz0 Aq hkc hkm;clear ho;go_enter Tryz.func67,Tryz.ntmps67;obtain⟨x1,kf,ef,jK,bL,jc,aE⟩:=aM w #[.int .i64 o,.bool b2,.slice ao la c,.string ⟨#[]⟩,.slice ko kl kc] 29;replace HW:=aa (HW.out.trans (bL.out.mono HW.out.size));replace gb:=aa (gb.out.below bL.out);replace fW:=aa (fF fW.out cr.out bL.out);replace gA:=aa (gA.out.trans (fe bL.out));replace cr:=aa (ah cr.out bL.out.size);obtain⟨⟨c0,c1,c2,c3,c4⟩,cA,cG,cF,cE,cC⟩:=ak aE.out;go_wp2_with fail;refine (yz o Gp.out.1 Gp.out.2 x1 (HT.out.below HW.out)).mono ?_;rintro e x2 ⟨rfl,hb⟩;clear c0 cA c1 cG c2 cF c3 cE c4 cC;replace aE:=aS hb aE
 replace HW:=aa (HW.out.trans (hb.mono HW.out.size));replace gb:=aa (gb.out.below hb);replace fW:=aa (fF fW.out cr.out hb);replace gA:=aa (gA.out.trans (fe hb));replace cr:=aa (ah cr.out hb.size);clear hb;go_wp2_with fail;refine (pO B b l (wd o) x2 gb.out (by have:=sO.out;omega) cr.out).mono ?_;rintro e x3 ⟨⟨v,rfl⟩,dw,hb,hfr⟩;replace aE:=aa (hfr _ _ _ _ aE.out (by decide) (by decide));replace HW:=aa (HW.out.trans (hb.mono jz.out));replace fW:=aa (fW.out.trans hb);replace gA:=aa (gA.out.trans hfr);replace cr:Hid (B<=x3.heap.size):=aa (ah cr.out hb.size);replace gb:=aa dw;clear dw hb hfr;obtain⟨⟨c0,c1,c2,c3,c4⟩,cA,cG,cF,cE,cC⟩:=ak aE.out;go_wp2_with fail
 refine (gY _ 0 600 x3 ((HZ.out.below HW.out).gi) (by decide)).mono ?_;rintro e x4 ⟨rfl,hb⟩;clear c0 cA c1 cG c2 cF c3 cE c4 cC;replace aE:=aS hb aE;replace HW:=aa (HW.out.trans (hb.mono HW.out.size));replace gb:=aa (gb.out.below hb);replace fW:=aa (fF fW.out cr.out hb);replace gA:=aa (gA.out.trans (fe hb));replace cr:=aa (ah cr.out hb.size);clear hb;rw[Ra.out];obtain⟨⟨c0,c1,c2,c3,c4⟩,cA,cG,cF,cE,cC⟩:=ak aE.out;go_wp2_with fail;clear c0 cA c1 cG c2 cF c3 cE c4 cC;obtain⟨L,hL⟩:∃ L,L=l++wd o:=⟨_,rfl⟩;rw[<-hL] at gb;have UT:Hid (l++mz (.node o 0 ⟨#[]⟩ ks)=L++nU ks):=aa (by rw[zR.out,zT.out,Mg.out,hL];simp)
 have Ff:Hid (L.length+(nU ks).length<=1000000):=aa (by have h3:=congrArg d_ UT.out;rw[eY,eY] at h3;have h4:=sO.out;have h5:=congrArg d_ zR.out;rw[eY,eY,eY] at h5;omega);clear hL;replace gb:Hid (uE B b (L++uL ks 0) x4):=aa (by rw[uK,dJ];exact gb.out);go_loopw [44] (fun i wr=>∃ j:Nat,i=.int .i64 (j:Nat)/\j<=kl/\Hid (uE B b (L++uL ks j) wr)/\Hid (aA B w wr)/\Hid (Cj w wr)/\Hid (aA w0.heap.size w0 wr)/\Hid (B<=wr.heap.size)) (fun i _=>kl - (ei i).toNat)
 case atStart=>exact⟨0,rfl,au _,gb,fW,gA,HW,cr⟩
 case round =>
  obtain⟨wl,Hv⟩:∃ q,q=wr:=⟨_,rfl⟩;subst Hv;clear gb fW gA HW cr;obtain⟨j,rfl,hj,gb,fW,gA,HW,cr⟩:=hrel;by_cases hlt:j<kl
  ·have rF:j<ks.length:=by rw[<-HN.out];exact hlt
   have LH:=aa rF;obtain⟨m,Td,DH⟩:=Cx ks j rF;have HM:=aa Td;have KO:=Je ks (j+1) rF (by omega);have Fg:=aa KO;have hin:(ks[j]'rF) ∈ ks:=ct rF;have DA:=aa hin;obtain⟨kd,BT⟩:∃ y,y=(ks[j]'rF):=⟨_,rfl⟩;rw[<-BT] at HM DA;have HKD:Hid (kd=ks[j]'LH.out):=aa BT;obtain⟨a,bb,qo,ql,qc,po,pl,pc,rfl,Ex,NC⟩:=HX.out.cells j rF;rw[<-BT] at Ex NC;obtain⟨x,vA⟩:∃ x,x=kd.op:=⟨_,rfl⟩;obtain⟨ym,Nl⟩:∃ x,x=kd.name:=⟨_,rfl⟩;rw[<-vA,<-Nl] at Ex NC;have U6:=aa NC;obtain⟨c0,c1,c2,c3,c4⟩:=Ex;rw[<-HW.out.cell (cu c0)] at c0;rw[<-HW.out.cell (cu c1)] at c1;rw[<-HW.out.cell (cu c2)] at c2;rw[<-HW.out.cell (cu c3)] at c3;rw[<-HW.out.cell (cu c4)] at c4
   clear Td KO hin BT NC vA Nl rF;obtain⟨x5,k7,e7,XX,x_,Xc,AB⟩:=aM wl #[.int .i64 x,.bool bb,.slice qo ql qc,.string ym,.slice po pl pc] 29;replace HW:=aa (HW.out.trans (x_.out.mono HW.out.size));replace gb:=aa (gb.out.below x_.out);replace fW:=aa (fF fW.out cr.out x_.out);replace gA:=aa (gA.out.trans (fe x_.out));replace cr:=aa (ah cr.out x_.out.size);rcases DH with ⟨rfl,rfl⟩ | ⟨Xh,rfl⟩
   ·simp only[rK,O6] at c0 c1 c2 c3 c4;obtain⟨⟨g0,g1,g2,g3,g4⟩,ni,nh,oH,oG,oF⟩:=ak AB.out;go_wp2_with fail;refine (qU B b (L++uL ks 0) 40 40 rfl x5 gb.out (by rw[eY];have h3:=Fg.out;have h4:=congrArg d_ HM.out;rw[eY,eY] at h4;have h5:=Ff.out;simp only[eY,mS,uA] at *;omega) cr.out).mono ?_;rintro e x6 ⟨⟨v,rfl⟩,dw,hb,hfr⟩;clear g0 ni g1 nh g2 oH g3 oG g4 oF;replace AB:=aa (hfr _ _ _ _ AB.out (by decide) (by decide));replace HW:=aa (HW.out.trans (hb.mono jz.out));replace fW:=aa (fW.out.trans hb);replace gA:=aa (gA.out.trans hfr);replace cr:Hid (B<=x6.heap.size):=aa (ah cr.out hb.size);replace gb:=aa dw;clear dw hb hfr;obtain⟨⟨g0,g1,g2,g3,g4⟩,ni,nh,oH,oG,oF⟩:=ak AB.out
    clear c0 c1 c2 c3 c4;go_wp2_with fail;refine (U3.out w0 x6 _ kd B b (L++uL ks 0++[40]) U6.out HT.out (Od.out kd DA.out) (qq.out kd DA.out) jz.out HW.out gb.out cr.out (by rw[eY,eY];have h3:=Fg.out;have h4:=congrArg d_ HM.out;rw[eY,eY] at h4;have h5:=Ff.out;simp only[eY,mS,uA] at *;omega)).mono ?_;rintro e x7 ⟨⟨v,rfl⟩,dw,hb,hfr⟩;clear g0 ni g1 nh g2 oH g3 oG g4 oF;replace HW:=aa (HW.out.trans (hb.mono jz.out));replace fW:=aa (fW.out.trans hb);replace gA:=aa (gA.out.trans hfr);replace cr:Hid (B<=x7.heap.size):=aa (ah cr.out hb.size);replace gb:=aa dw;clear dw hb hfr;go_wp2_with fail;go_roundw
    case rel=>exact⟨1,by go_num,hlt,aa (by rw[HM.out];simpa using gb.out),fW,gA,HW,cr⟩
    case measure=>simp[ei];omega
   have Tj:(((j:Nat):Int)==0)=false:=beq_eq_false_iff_ne.2 (by omega);clear Xh;obtain⟨⟨g0,g1,g2,g3,g4⟩,ni,nh,oH,oG,oF⟩:=ak AB.out;go_wp2_with fail;refine (pO B b (L++uL ks j) [44,32] x5 gb.out (by rw[eY];have h3:=Fg.out;have h4:=congrArg d_ HM.out;rw[eY,eY] at h4;have h5:=Ff.out;simp only[eY,mS,uA] at *;omega) cr.out).mono ?_;rintro e x6 ⟨⟨v,rfl⟩,dw,hb,hfr⟩;clear g0 ni g1 nh g2 oH g3 oG g4 oF;replace AB:=aa (hfr _ _ _ _ AB.out (by decide) (by decide));replace HW:=aa (HW.out.trans (hb.mono jz.out));replace fW:=aa (fW.out.trans hb);replace gA:=aa (gA.out.trans hfr);replace cr:Hid (B<=x6.heap.size):=aa (ah cr.out hb.size);replace gb:=aa dw;clear dw hb hfr
   obtain⟨⟨g0,g1,g2,g3,g4⟩,ni,nh,oH,oG,oF⟩:=ak AB.out;clear c0 c1 c2 c3 c4;go_wp2_with fail;refine (U3.out w0 x6 _ kd B b (L++uL ks j++[44,32]) U6.out HT.out (Od.out kd DA.out) (qq.out kd DA.out) jz.out HW.out gb.out cr.out (by rw[eY,eY];have h3:=Fg.out;have h4:=congrArg d_ HM.out;rw[eY,eY] at h4;have h5:=Ff.out;simp only[eY,mS,uA] at *;omega)).mono ?_;rintro e x7 ⟨⟨v,rfl⟩,dw,hb,hfr⟩;clear g0 ni g1 nh g2 oH g3 oG g4 oF;replace HW:=aa (HW.out.trans (hb.mono jz.out));replace fW:=aa (fW.out.trans hb);replace gA:=aa (gA.out.trans hfr);replace cr:Hid (B<=x7.heap.size):=aa (ah cr.out hb.size);replace gb:=aa dw;clear dw hb hfr;go_wp2_with fail;go_roundw
   case rel=>exact⟨j+1,by go_num,hlt,aa (by rw[HM.out];simpa using gb.out),fW,gA,HW,cr⟩
   case measure=>simp[ei];omega
  have DJ:j=kl:=by omega
  have U2:Hid (uL ks j++[41]=nU ks):=aa (by have h4:=Bq ks (by rw[<-HN.out];omega);rw[<-HN.out,<-DJ] at h4;exact h4);clear DJ;go_wp2_with fail;refine (qU B b (L++uL ks j) 41 41 rfl wl gb.out (by rw[eY];have h3:=congrArg d_ U2.out;rw[eY] at h3;have h5:=Ff.out;omega) cr.out).mono ?_;rintro e x5 ⟨⟨v,rfl⟩,dw,hb,hfr⟩;replace fW:=aa (fW.out.trans hb);replace gA:=aa (gA.out.trans hfr);replace cr:Hid (B<=x5.heap.size):=aa (ah cr.out hb.size);replace gb:=aa dw;clear dw hb hfr;go_wp2_with fail;go_end0;exact⟨⟨_,rfl⟩,by rw[UT.out,<-U2.out,<-bg];exact gb.out,fW.out,gA.out⟩
theorem Gv (HQ:uy) (d:Nat) (IH:wD d) (w0 w:ag) (v:aq) (t:F) (B b:Nat) (l:Bs) (ho:t.op≠0/\t.op≠1/\t.op≠8/\t.op≠14) (Hr:t.num≠0) (hks:t.kids.length≠0):FC w0 tS (d+1) v t->AA w0->rt t=true->Tg (d+1) t->w0.heap.size<=B->aA w0.heap.size w0 w->uE B b l w->B<=w.heap.size->l.length+(mz t).length<=1000000 ->
  aW aj 67 #[.pointer (some ⟨b,0,none⟩),v] w (sP B b (l++mz t) w):=by
 intro hf ht qg BP hB kD dw hBw hlen;obtain⟨b2,ao,la,c,ko,kl,kc,rfl,⟨-,hz,iy,hkc,hkm⟩,-,hk⟩:=hf.open;obtain⟨o,z,nm,ks⟩:=t;simp only[F.op,F.num,F.name,F.kids] at hz hk iy ho Hr hks ⊢;rw[show d+1 - 1=d from rfl] at hk;obtain⟨hfit,jT⟩:=iX qg;have Aq:=jJ hfit;obtain⟨hnm,BK,hz0,-,zj⟩:=BP;simp only[F.op,F.num,F.name,F.kids] at hnm BK hz0 zj;have As:kc<=9223372036854775807:=hkm;have KQ:kl<=9223372036854775807:=ah hkc hkm;have pD:l.length+((wd o).length+((nw o z).length+((ot nm).length+(nU ks).length)))<=1000000:=by have h:=hlen;rw[mz,eY,eY,eY] at h;omega
 have HN:=aa iy;have HX:=aa hk;have HZ:=aa hz;have HT:=aa ht;have qq:=aa zj;have Od:=aa jT;have sO:=aa pD;have U3:=aa IH;have Gp:=aa Aq;have jz:=aa hB;have HW:=aa kD;have gb:=aa dw;have cr:Hid (B<=w.heap.size):=aa hBw;have fW:=aa (ax B w);have gA:=aa (Cj.refl w);have zR:Hid (mz (.node o z nm ks)=wd o++(nw o z++(ot nm++nU ks))):=aa (by rw[mz]);clear hf ht qg hB kD dw hBw hlen pD iy hk hz jT zj HQ IH;have xY:nm=⟨#[]⟩:=oh (by omega) hnm;subst xY;have Mg:Hid (ot ⟨#[]⟩=[]):=aa rfl;have W6:(o==0)=false:=beq_eq_false_iff_ne.2 (by omega);have zT:Hid (nw o z=32::lW z):=aa (if_pos (.inr Hr));obtain⟨Y0,P6⟩:∃ s,s=eX z:=⟨_,rfl⟩
 have hsn:(Y0==0)=false:=beq_eq_false_iff_ne.2 (by rw[P6];unfold eX;(repeat' split)<;>omega);have Ra:Hid (eX z=Y0):=aa P6.symm;clear P6;have hkp:kl≠0:=by rw[HN.out];exact hks
 have hkb:(((kl:Nat):Int)==0)=false:=beq_eq_false_iff_ne.2 (by omega);clear hks;clear hfit hnm BK hz0 Aq hkc hkm;clear ho Hr;go_enter Tryz.func67,Tryz.ntmps67;obtain⟨x1,kf,ef,jK,bL,jc,aE⟩:=aM w #[.int .i64 o,.bool b2,.slice ao la c,.string ⟨#[]⟩,.slice ko kl kc] 29;replace HW:=aa (HW.out.trans (bL.out.mono HW.out.size));replace gb:=aa (gb.out.below bL.out);replace fW:=aa (fF fW.out cr.out bL.out);replace gA:=aa (gA.out.trans (fe bL.out));replace cr:=aa (ah cr.out bL.out.size);obtain⟨⟨c0,c1,c2,c3,c4⟩,cA,cG,cF,cE,cC⟩:=ak aE.out;go_wp2_with fail;refine (yz o Gp.out.1 Gp.out.2 x1 (HT.out.below HW.out)).mono ?_;rintro e x2 ⟨rfl,hb⟩;clear c0 cA c1 cG c2 cF c3 cE c4 cC;replace aE:=aS hb aE
 replace HW:=aa (HW.out.trans (hb.mono HW.out.size));replace gb:=aa (gb.out.below hb);replace fW:=aa (fF fW.out cr.out hb);replace gA:=aa (gA.out.trans (fe hb));replace cr:=aa (ah cr.out hb.size);clear hb;go_wp2_with fail;refine (pO B b l (wd o) x2 gb.out (by have:=sO.out;omega) cr.out).mono ?_;rintro e x3 ⟨⟨v,rfl⟩,dw,hb,hfr⟩;replace aE:=aa (hfr _ _ _ _ aE.out (by decide) (by decide));replace HW:=aa (HW.out.trans (hb.mono jz.out));replace fW:=aa (fW.out.trans hb);replace gA:=aa (gA.out.trans hfr);replace cr:Hid (B<=x3.heap.size):=aa (ah cr.out hb.size);replace gb:=aa dw;clear dw hb hfr;obtain⟨⟨c0,c1,c2,c3,c4⟩,cA,cG,cF,cE,cC⟩:=ak aE.out;go_wp2_with fail
 refine (gY _ z 600 x3 ((HZ.out.below HW.out).gi) (by decide)).mono ?_;rintro e x4 ⟨rfl,hb⟩;clear c0 cA c1 cG c2 cF c3 cE c4 cC;replace aE:=aS hb aE;replace HW:=aa (HW.out.trans (hb.mono HW.out.size));replace gb:=aa (gb.out.below hb);replace fW:=aa (fF fW.out cr.out hb);replace gA:=aa (gA.out.trans (fe hb));replace cr:=aa (ah cr.out hb.size);clear hb;rw[Ra.out];obtain⟨⟨c0,c1,c2,c3,c4⟩,cA,cG,cF,cE,cC⟩:=ak aE.out;go_wp2_with fail;refine (qU B b (l++wd o) 32 32 rfl x4 gb.out (by have:=sO.out;have h3:=zT.out;rw[h3] at this;rw[eY];simp only[mS] at this;omega) cr.out).mono ?_;rintro e x5 ⟨⟨v,rfl⟩,dw,hb,hfr⟩;clear c0 cA c1 cG c2 cF c3 cE c4 cC
 replace aE:=aa (hfr _ _ _ _ aE.out (by decide) (by decide));replace HW:=aa (HW.out.trans (hb.mono jz.out));replace fW:=aa (fW.out.trans hb);replace gA:=aa (gA.out.trans hfr);replace cr:Hid (B<=x5.heap.size):=aa (ah cr.out hb.size);replace gb:=aa dw;clear dw hb hfr;obtain⟨⟨c0,c1,c2,c3,c4⟩,cA,cG,cF,cE,cC⟩:=ak aE.out;go_wp2_with fail;refine (AE _ z 600 x5 (HT.out.below HW.out).Si ((HZ.out.below HW.out).gi) (by decide)).mono ?_;rintro e x6 ⟨rfl,hb⟩;clear c0 cA c1 cG c2 cF c3 cE c4 cC;replace aE:=aS hb aE;replace HW:=aa (HW.out.trans (hb.mono HW.out.size));replace gb:=aa (gb.out.below hb);replace fW:=aa (fF fW.out cr.out hb);replace gA:=aa (gA.out.trans (fe hb))
 replace cr:=aa (ah cr.out hb.size);clear hb;go_wp2_with fail;refine (pO B b (l++wd o++[32]) (lW z) x6 gb.out (by have:=sO.out;have h3:=zT.out;rw[h3] at this;rw[eY,eY];simp only[mS,uA] at this ⊢;omega) cr.out).mono ?_;rintro e x7 ⟨⟨v,rfl⟩,dw,hb,hfr⟩;replace aE:=aa (hfr _ _ _ _ aE.out (by decide) (by decide));replace HW:=aa (HW.out.trans (hb.mono jz.out));replace fW:=aa (fW.out.trans hb);replace gA:=aa (gA.out.trans hfr);replace cr:Hid (B<=x7.heap.size):=aa (ah cr.out hb.size);replace gb:=aa dw;clear dw hb hfr;obtain⟨⟨c0,c1,c2,c3,c4⟩,cA,cG,cF,cE,cC⟩:=ak aE.out;go_wp2_with fail;clear c0 cA c1 cG c2 cF c3 cE c4 cC;obtain⟨L,hL⟩:∃ L,L=l++wd o++[32]++lW z:=⟨_,rfl⟩;rw[<-hL] at gb
 have UT:Hid (l++mz (.node o z ⟨#[]⟩ ks)=L++nU ks):=aa (by rw[zR.out,zT.out,Mg.out,hL];simp);have Ff:Hid (L.length+(nU ks).length<=1000000):=aa (by have h3:=congrArg d_ UT.out;rw[eY,eY] at h3;have h4:=sO.out;have h5:=congrArg d_ zR.out;rw[eY,eY,eY] at h5;omega);clear hL;replace gb:Hid (uE B b (L++uL ks 0) x7):=aa (by rw[uK,dJ];exact gb.out);go_loopw [44] (fun i wr=>∃ j:Nat,i=.int .i64 (j:Nat)/\j<=kl/\Hid (uE B b (L++uL ks j) wr)/\Hid (aA B w wr)/\Hid (Cj w wr)/\Hid (aA w0.heap.size w0 wr)/\Hid (B<=wr.heap.size)) (fun i _=>kl - (ei i).toNat)
 case atStart=>exact⟨0,rfl,au _,gb,fW,gA,HW,cr⟩
 case round =>
  obtain⟨wl,Hv⟩:∃ q,q=wr:=⟨_,rfl⟩;subst Hv;clear gb fW gA HW cr;obtain⟨j,rfl,hj,gb,fW,gA,HW,cr⟩:=hrel;by_cases hlt:j<kl
  ·have rF:j<ks.length:=by rw[<-HN.out];exact hlt
   have LH:=aa rF;obtain⟨m,Td,DH⟩:=Cx ks j rF;have HM:=aa Td;have KO:=Je ks (j+1) rF (by omega);have Fg:=aa KO;have hin:(ks[j]'rF) ∈ ks:=ct rF;have DA:=aa hin;obtain⟨kd,BT⟩:∃ y,y=(ks[j]'rF):=⟨_,rfl⟩;rw[<-BT] at HM DA;have HKD:Hid (kd=ks[j]'LH.out):=aa BT;obtain⟨a,bb,qo,ql,qc,po,pl,pc,rfl,Ex,NC⟩:=HX.out.cells j rF;rw[<-BT] at Ex NC;obtain⟨x,vA⟩:∃ x,x=kd.op:=⟨_,rfl⟩;obtain⟨ym,Nl⟩:∃ x,x=kd.name:=⟨_,rfl⟩;rw[<-vA,<-Nl] at Ex NC;have U6:=aa NC;obtain⟨c0,c1,c2,c3,c4⟩:=Ex;rw[<-HW.out.cell (cu c0)] at c0;rw[<-HW.out.cell (cu c1)] at c1;rw[<-HW.out.cell (cu c2)] at c2;rw[<-HW.out.cell (cu c3)] at c3;rw[<-HW.out.cell (cu c4)] at c4
   clear Td KO hin BT NC vA Nl rF;obtain⟨x8,k7,e7,XX,x_,Xc,AB⟩:=aM wl #[.int .i64 x,.bool bb,.slice qo ql qc,.string ym,.slice po pl pc] 29;replace HW:=aa (HW.out.trans (x_.out.mono HW.out.size));replace gb:=aa (gb.out.below x_.out);replace fW:=aa (fF fW.out cr.out x_.out);replace gA:=aa (gA.out.trans (fe x_.out));replace cr:=aa (ah cr.out x_.out.size);rcases DH with ⟨rfl,rfl⟩ | ⟨Xh,rfl⟩
   ·simp only[rK,O6] at c0 c1 c2 c3 c4;obtain⟨⟨g0,g1,g2,g3,g4⟩,ni,nh,oH,oG,oF⟩:=ak AB.out;go_wp2_with fail;refine (qU B b (L++uL ks 0) 40 40 rfl x8 gb.out (by rw[eY];have h3:=Fg.out;have h4:=congrArg d_ HM.out;rw[eY,eY] at h4;have h5:=Ff.out;simp only[eY,mS,uA] at *;omega) cr.out).mono ?_;rintro e x9 ⟨⟨v,rfl⟩,dw,hb,hfr⟩;clear g0 ni g1 nh g2 oH g3 oG g4 oF;replace AB:=aa (hfr _ _ _ _ AB.out (by decide) (by decide));replace HW:=aa (HW.out.trans (hb.mono jz.out));replace fW:=aa (fW.out.trans hb);replace gA:=aa (gA.out.trans hfr);replace cr:Hid (B<=x9.heap.size):=aa (ah cr.out hb.size);replace gb:=aa dw;clear dw hb hfr;obtain⟨⟨g0,g1,g2,g3,g4⟩,ni,nh,oH,oG,oF⟩:=ak AB.out
    clear c0 c1 c2 c3 c4;go_wp2_with fail;refine (U3.out w0 x9 _ kd B b (L++uL ks 0++[40]) U6.out HT.out (Od.out kd DA.out) (qq.out kd DA.out) jz.out HW.out gb.out cr.out (by rw[eY,eY];have h3:=Fg.out;have h4:=congrArg d_ HM.out;rw[eY,eY] at h4;have h5:=Ff.out;simp only[eY,mS,uA] at *;omega)).mono ?_;rintro e RV ⟨⟨v,rfl⟩,dw,hb,hfr⟩;clear g0 ni g1 nh g2 oH g3 oG g4 oF;replace HW:=aa (HW.out.trans (hb.mono jz.out));replace fW:=aa (fW.out.trans hb);replace gA:=aa (gA.out.trans hfr);replace cr:Hid (B<=RV.heap.size):=aa (ah cr.out hb.size);replace gb:=aa dw;clear dw hb hfr;go_wp2_with fail;go_roundw
    case rel=>exact⟨1,by go_num,hlt,aa (by rw[HM.out];simpa using gb.out),fW,gA,HW,cr⟩
    case measure=>simp[ei];omega
   have Tj:(((j:Nat):Int)==0)=false:=beq_eq_false_iff_ne.2 (by omega);clear Xh;obtain⟨⟨g0,g1,g2,g3,g4⟩,ni,nh,oH,oG,oF⟩:=ak AB.out;go_wp2_with fail;refine (pO B b (L++uL ks j) [44,32] x8 gb.out (by rw[eY];have h3:=Fg.out;have h4:=congrArg d_ HM.out;rw[eY,eY] at h4;have h5:=Ff.out;simp only[eY,mS,uA] at *;omega) cr.out).mono ?_;rintro e x9 ⟨⟨v,rfl⟩,dw,hb,hfr⟩;clear g0 ni g1 nh g2 oH g3 oG g4 oF;replace AB:=aa (hfr _ _ _ _ AB.out (by decide) (by decide));replace HW:=aa (HW.out.trans (hb.mono jz.out));replace fW:=aa (fW.out.trans hb);replace gA:=aa (gA.out.trans hfr);replace cr:Hid (B<=x9.heap.size):=aa (ah cr.out hb.size);replace gb:=aa dw;clear dw hb hfr
   obtain⟨⟨g0,g1,g2,g3,g4⟩,ni,nh,oH,oG,oF⟩:=ak AB.out;clear c0 c1 c2 c3 c4;go_wp2_with fail;refine (U3.out w0 x9 _ kd B b (L++uL ks j++[44,32]) U6.out HT.out (Od.out kd DA.out) (qq.out kd DA.out) jz.out HW.out gb.out cr.out (by rw[eY,eY];have h3:=Fg.out;have h4:=congrArg d_ HM.out;rw[eY,eY] at h4;have h5:=Ff.out;simp only[eY,mS,uA] at *;omega)).mono ?_;rintro e RV ⟨⟨v,rfl⟩,dw,hb,hfr⟩;clear g0 ni g1 nh g2 oH g3 oG g4 oF;replace HW:=aa (HW.out.trans (hb.mono jz.out));replace fW:=aa (fW.out.trans hb);replace gA:=aa (gA.out.trans hfr);replace cr:Hid (B<=RV.heap.size):=aa (ah cr.out hb.size);replace gb:=aa dw;clear dw hb hfr;go_wp2_with fail;go_roundw
   case rel=>exact⟨j+1,by go_num,hlt,aa (by rw[HM.out];simpa using gb.out),fW,gA,HW,cr⟩
   case measure=>simp[ei];omega
  have DJ:j=kl:=by omega
  have U2:Hid (uL ks j++[41]=nU ks):=aa (by have h4:=Bq ks (by rw[<-HN.out];omega);rw[<-HN.out,<-DJ] at h4;exact h4);clear DJ;go_wp2_with fail;refine (qU B b (L++uL ks j) 41 41 rfl wl gb.out (by rw[eY];have h3:=congrArg d_ U2.out;rw[eY] at h3;have h5:=Ff.out;omega) cr.out).mono ?_;rintro e x8 ⟨⟨v,rfl⟩,dw,hb,hfr⟩;replace fW:=aa (fW.out.trans hb);replace gA:=aa (gA.out.trans hfr);replace cr:Hid (B<=x8.heap.size):=aa (ah cr.out hb.size);replace gb:=aa dw;clear dw hb hfr;go_wp2_with fail;go_end0;exact⟨⟨_,rfl⟩,by rw[UT.out,<-U2.out,<-bg];exact gb.out,fW.out,gA.out⟩
theorem Gu (HQ:uy) (d:Nat) (IH:wD d) (w0 w:ag) (v:aq) (t:F) (B b:Nat) (l:Bs) (ho:t.op≠0/\t.op≠1/\t.op≠8/\t.op≠14) (Hr:t.num=0) (hks:t.kids.length=0):FC w0 tS (d+1) v t->AA w0->rt t=true->Tg (d+1) t->w0.heap.size<=B->aA w0.heap.size w0 w->uE B b l w->B<=w.heap.size->l.length+(mz t).length<=1000000 ->
  aW aj 67 #[.pointer (some ⟨b,0,none⟩),v] w (sP B b (l++mz t) w):=by
 intro hf ht qg BP hB kD dw hBw hlen;obtain⟨b2,ao,la,c,ko,kl,kc,rfl,⟨-,hz,iy,hkc,hkm⟩,-,hk⟩:=hf.open;obtain⟨o,z,nm,ks⟩:=t;simp only[F.op,F.num,F.name,F.kids] at hz hk iy ho Hr hks ⊢;rw[show d+1 - 1=d from rfl] at hk;obtain⟨hfit,jT⟩:=iX qg;have Aq:=jJ hfit;obtain⟨hnm,BK,hz0,-,zj⟩:=BP;simp only[F.op,F.num,F.name,F.kids] at hnm BK hz0 zj;have As:kc<=9223372036854775807:=hkm;have KQ:kl<=9223372036854775807:=ah hkc hkm;have pD:l.length+((wd o).length+((nw o z).length+((ot nm).length+(nU ks).length)))<=1000000:=by have h:=hlen;rw[mz,eY,eY,eY] at h;omega
 have HN:=aa iy;have HZ:=aa hz;have HT:=aa ht;have sO:=aa pD;have Gp:=aa Aq;have jz:=aa hB;have HW:=aa kD;have gb:=aa dw;have cr:Hid (B<=w.heap.size):=aa hBw;have fW:=aa (ax B w);have gA:=aa (Cj.refl w);have zR:Hid (mz (.node o z nm ks)=wd o++(nw o z++(ot nm++nU ks))):=aa (by rw[mz]);clear hf ht qg hB kD dw hBw hlen pD iy hk hz jT zj HQ IH;have xY:nm=⟨#[]⟩:=oh (by omega) hnm;subst xY;have Mg:Hid (ot ⟨#[]⟩=[]):=aa rfl;have W6:(o==0)=false:=beq_eq_false_iff_ne.2 (by omega);subst Hr;have zT:Hid (nw o 0=[]):=aa (if_neg (by omega));have Ra:Hid (eX 0=0):=aa rfl;have NA:ks=[]:=gK hks;have U1:Hid (nU ks=[]):=aa (by rw[NA];rfl)
 have KR:kl=0:=by rw[HN.out,hks]
 subst KR;clear NA hks;clear hfit hnm BK hz0 Aq hkc hkm;clear ho;go_enter Tryz.func67,Tryz.ntmps67;obtain⟨x1,kf,ef,jK,bL,jc,aE⟩:=aM w #[.int .i64 o,.bool b2,.slice ao la c,.string ⟨#[]⟩,.slice ko 0 kc] 29;replace HW:=aa (HW.out.trans (bL.out.mono HW.out.size));replace gb:=aa (gb.out.below bL.out);replace fW:=aa (fF fW.out cr.out bL.out);replace gA:=aa (gA.out.trans (fe bL.out));replace cr:=aa (ah cr.out bL.out.size);obtain⟨⟨c0,c1,c2,c3,c4⟩,cA,cG,cF,cE,cC⟩:=ak aE.out;go_wp2_with fail;refine (yz o Gp.out.1 Gp.out.2 x1 (HT.out.below HW.out)).mono ?_;rintro e x2 ⟨rfl,hb⟩;clear c0 cA c1 cG c2 cF c3 cE c4 cC;replace aE:=aS hb aE;replace HW:=aa (HW.out.trans (hb.mono HW.out.size))
 replace gb:=aa (gb.out.below hb);replace fW:=aa (fF fW.out cr.out hb);replace gA:=aa (gA.out.trans (fe hb));replace cr:=aa (ah cr.out hb.size);clear hb;go_wp2_with fail;refine (pO B b l (wd o) x2 gb.out (by have:=sO.out;omega) cr.out).mono ?_;rintro e x3 ⟨⟨v,rfl⟩,dw,hb,hfr⟩;replace aE:=aa (hfr _ _ _ _ aE.out (by decide) (by decide));replace HW:=aa (HW.out.trans (hb.mono jz.out));replace fW:=aa (fW.out.trans hb);replace gA:=aa (gA.out.trans hfr);replace cr:Hid (B<=x3.heap.size):=aa (ah cr.out hb.size);replace gb:=aa dw;clear dw hb hfr;obtain⟨⟨c0,c1,c2,c3,c4⟩,cA,cG,cF,cE,cC⟩:=ak aE.out;go_wp2_with fail
 refine (gY _ 0 600 x3 ((HZ.out.below HW.out).gi) (by decide)).mono ?_;rintro e x4 ⟨rfl,hb⟩;clear c0 cA c1 cG c2 cF c3 cE c4 cC;replace aE:=aS hb aE;replace gb:=aa (gb.out.below hb);replace fW:=aa (fF fW.out cr.out hb);replace gA:=aa (gA.out.trans (fe hb));clear hb;rw[Ra.out];obtain⟨⟨c0,c1,c2,c3,c4⟩,cA,cG,cF,cE,cC⟩:=ak aE.out;go_wp2_with fail;go_end0;exact⟨⟨_,rfl⟩,by rw[zR.out,zT.out,Mg.out,U1.out];simpa using gb.out,fW.out,gA.out⟩
theorem yx (HQ:uy):∀ d:Nat,wD d
 | 0=>by
  intro w0 w v t B b l h;obtain⟨_,_,_,_,_,_,_,_,_,h0,_⟩:=h.open
  omega
 | d+1=>by
  intro w0 w v t B b l h1 h2 h3 h4 h5 h6 h7 h8 h9;have IH:=yx HQ d
  by_cases e0:t.op=0
  ·exact DR HQ d IH w0 w v t B b l e0 h1 h2 h3 h4 h5 h6 h7 h8 h9
  by_cases e1:t.op=1\/t.op=8\/t.op=14
  ·exact DS HQ d IH w0 w v t B b l e1 h1 h2 h3 h4 h5 h6 h7 h8 h9
  have e2:t.op≠0/\t.op≠1/\t.op≠8/\t.op≠14:=by omega
  by_cases e3:t.num=0
  ·by_cases e4:t.kids.length=0
   ·exact Gu HQ d IH w0 w v t B b l e2 e3 e4 h1 h2 h3 h4 h5 h6 h7 h8 h9
   exact Gt HQ d IH w0 w v t B b l e2 e3 e4 h1 h2 h3 h4 h5 h6 h7 h8 h9
  by_cases e4:t.kids.length=0
  ·exfalso
   obtain⟨o,z,nm,ks⟩:=t;have hn:=h4.2.2.1;have hf:=(iX h3).1;simp only[F.op,F.num,F.kids] at hn e2 e3 e4;have hks:ks=[]:=gK e4;subst hks
   have h35:o=3\/o=5:=by
    by_cases a3:o=3
    ·exact .inl a3
    by_cases a5:o=5
    ·exact .inr a5
    exact absurd (hn e2.1 a3 a5) e3
   rcases h35 with rfl | rfl<;>simp[dP,bF,eR] at hf
  exact Gv HQ d IH w0 w v t B b l e2 e3 e4 h1 h2 h3 h4 h5 h6 h7 h8 h9
end Go.Proofs.YtoncclhbdkjhmaaGreatDoor
namespace Go.Proofs
open Go.Shelf
def Tryz.qJ:Go.Shelf.Ren:=⟨fun | 177=>117 | 250=>165 | 289=>193 | 197=>206 | 323=>207 | 260=>223 | 339=>224 | 340=>225 | 242=>226 | 119=>227 | 345=>235 | 346=>236 | 278=>237 | n=>n,fun | 9=>9 | 5=>5 | 4=>4 | 3=>3 | 37=>99 | 21=>21 | 105=>244 | 46=>183 | 119=>267 | 0=>0 | 139=>270 | 138=>269 | 49=>271 | 234=>272 | 131=>179 | 51=>153 | 236=>23 | n=>n,fun | 3=>4 | 4=>5 | 20=>6 | 21=>7 | 22=>8 | 23=>9 | 24=>10 | n=>n⟩
theorem Tryz.ze:Go.Proofs.Lays.n177 aj Tryz.qJ:={
 mixed:=by kernel_rfl
 f119:=Tryz.func227.trans (congrArg some (by kernel_rfl))
 f177:=Tryz.func117.trans (congrArg some (by kernel_rfl))
 f197:=Tryz.func206.trans (congrArg some (by kernel_rfl))
 f242:=Tryz.func226.trans (congrArg some (by kernel_rfl))
 f250:=Tryz.func165.trans (congrArg some (by kernel_rfl))
 f260:=Tryz.func223.trans (congrArg some (by kernel_rfl))
 f278:=Tryz.func237.trans (congrArg some (by kernel_rfl))
 f289:=Tryz.func193.trans (congrArg some (by kernel_rfl))
 f323:=Tryz.func207.trans (congrArg some (by kernel_rfl))
 f339:=Tryz.func224.trans (congrArg some (by kernel_rfl))
 f340:=Tryz.func225.trans (congrArg some (by kernel_rfl))
 f345:=Tryz.func235.trans (congrArg some (by kernel_rfl))
 f346:=Tryz.func236.trans (congrArg some (by kernel_rfl))
 t0:=Tryz.underlying0
 a0:=Tryz.isAgg0
 z0:=Tryz.sizeOf0
 v0:=Tryz.zeroValue0
 t3:=Tryz.underlying3
 a3:=Tryz.isAgg3
 z3:=Tryz.sizeOf3
 v3:=Tryz.zeroValue3
 t4:=Tryz.underlying4
 a4:=Tryz.isAgg4
 z4:=Tryz.sizeOf4
 v4:=Tryz.zeroValue4
 t5:=Tryz.underlying5
 a5:=Tryz.isAgg5
 z5:=Tryz.sizeOf5
 v5:=Tryz.zeroValue5
 t9:=Tryz.underlying9
 a9:=Tryz.isAgg9
 z9:=Tryz.sizeOf9
 v9:=Tryz.zeroValue9
 t21:=Tryz.underlying21
 a21:=Tryz.isAgg21
 z21:=Tryz.sizeOf21
 v21:=Tryz.zeroValue21
 t37:=Tryz.underlying99
 a37:=Tryz.isAgg99
 z37:=Tryz.sizeOf99
 v37:=Tryz.zeroValue99
 t46:=Tryz.underlying183
 a46:=Tryz.isAgg183
 z46:=Tryz.sizeOf183
 v46:=Tryz.zeroValue183
 t49:=Tryz.underlying271
 a49:=Tryz.isAgg271
 z49:=Tryz.sizeOf271
 v49:=Tryz.zeroValue271
 t51:=Tryz.underlying153
 a51:=Tryz.isAgg153
 z51:=Tryz.sizeOf153
 v51:=Tryz.zeroValue153
 t105:=Tryz.underlying244
 a105:=Tryz.isAgg244
 z105:=Tryz.sizeOf244
 v105:=Tryz.zeroValue244
 t119:=Tryz.underlying267
 a119:=Tryz.isAgg267
 z119:=Tryz.sizeOf267
 t131:=Tryz.underlying179
 a131:=Tryz.isAgg179
 z131:=Tryz.sizeOf179
 v131:=Tryz.zeroValue179
 t138:=Tryz.underlying269
 a138:=Tryz.isAgg269
 z138:=Tryz.sizeOf269
 v138:=Tryz.zeroValue269
 t139:=Tryz.underlying270
 a139:=Tryz.isAgg270
 z139:=Tryz.sizeOf270
 v139:=Tryz.zeroValue270
 t234:=Tryz.underlying272
 a234:=Tryz.isAgg272
 z234:=Tryz.sizeOf272
 v234:=Tryz.zeroValue272
 t236:=Tryz.underlying23
 a236:=Tryz.isAgg23
 z236:=Tryz.sizeOf23
 v236:=Tryz.zeroValue23
 g3:=by kernel_rfl
 g4:=by kernel_rfl
 g20:=by kernel_rfl
 g21:=by kernel_rfl
 g22:=by kernel_rfl
 g23:=by kernel_rfl
 g24:=by kernel_rfl }
open Go.RowKit in
theorem Tryz.yJ (T:Lib.PrintTabs) (s:ByteArray) (w:ag) (hlen:10*s.size+12<=140737488355328) (hT:Lib.PrintTabsAt 6 7 8 9 T w) (hU:Lib.Utf8Tabs 4 5 w) :
  aW aj 117 #[.string s] w fun e w'=>e=.returned (.string (strOfNums (Lib.quoteZ T s)))/\aA w.heap.size w w':=Any.strconv_Quote Tryz.ze (by kernel_rfl) T s w hlen hT hU
end Go.Proofs
namespace Go.Proofs.YtoncclhbdkjhmaaGreatDoor
open Go.RowKit
set_option maxRecDepth 100000
set_option linter.unusedVariables false
set_option linter.unusedSimpArgs false
theorem RX (o:Int) (h0:0<=o) (h1:o<=20):wd o ≠ []:=by
 have:o=0\/o=1\/o=2\/o=3\/o=4\/o=5\/o=6\/o=7\/o=8\/o=9\/o=10\/o=11\/o=12\/o=13\/o=14\/o=15\/o=16\/o=17\/o=18\/o=19\/o=20:=by omega
 rcases this with rfl | rfl | rfl | rfl | rfl | rfl | rfl | rfl | rfl | rfl | rfl | rfl | rfl | rfl | rfl | rfl | rfl | rfl | rfl | rfl | rfl<;>decide
theorem R8 {t:F} (h:rt t=true):mz t ≠ []:=by
 obtain⟨o,z,nm,ks⟩:=t;have hr:=jJ (iX h).1;rw[mz];intro e;exact RX o hr.1 hr.2 (List.append_eq_nil_iff.1 e).1
end Go.Proofs.YtoncclhbdkjhmaaGreatDoor
