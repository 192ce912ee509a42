/-
 Joined texts: KWhoA,KWhoF,R7,VlA,VlB.
-/
import Derived.Deep.RegionHeld3
import Derived.Deep.DeepCutAuto
import Derived.OwnWalk
import Derived.Laws.OwnMore
import Derived.Deep.AppendLies
import Derived.Deep.DrawnRows
import Derived.Test.YtdkfnbbebpbhaaaJLogicJoins1
set_option maxHeartbeats 32000000
namespace Go.Proofs.Ytdkfnbbebpbhaaa
open Go.RowKit
set_option maxRecDepth 100000
def sg (b:Bool) (n:Nat):Int:=if b then -(n:Int) else (n:Int)
theorem sg_natAbs (b:Bool) (n:Nat):(sg b n).natAbs=n:=by cases b<;>simp[sg]
theorem sg_neg (b:Bool) (n:Nat):decide (sg b n<0)=(b && decide (0<n)):=by
 cases b
 ·simp[sg]
 simp[sg]

def GI (w:World) (v:Value) (z:Int) (k:Nat):Prop:=∃ b va n,v=.agg #[.bool b,va]/\GN w va n k/\z=sg b n
def CI (w:World) (v:Value) (z:Int) (k:Nat):Prop:=∃ va,v=.agg #[.bool (decide (z<0)),va]/\Sl w .u32 va (dig L32 z.natAbs)/\z.natAbs<L32 ^ k

theorem GI.below {w w':World} {v:Value} {z:Int} {k:Nat} (h:GI w v z k) (hb:Below w.heap.size w w'):GI w' v z k:=by
 obtain⟨b,va,n,rfl,h,rfl⟩:=h;exact⟨b,va,n,rfl,h.below hb,rfl⟩
theorem CI.below {w w':World} {v:Value} {z:Int} {k:Nat} (h:CI w v z k) (hb:Below w.heap.size w w'):CI w' v z k:=by
 obtain⟨va,rfl,h,h2⟩:=h;exact⟨va,rfl,h.below hb,h2⟩
theorem CI.gi {w:World} {v:Value} {z:Int} {k:Nat} (h:CI w v z k):GI w v z k:=by
 obtain⟨va,rfl,h,h2⟩:=h;refine⟨_,va,_,rfl,gn_dig h h2,?_⟩;unfold sg
 by_cases hz:z<0
 ·rw[if_pos (by simpa using hz)];omega
 rw[if_neg (by simpa using hz)];omega
theorem ci_mk {w:World} {b:Bool} {n k:Nat} {va:Value} (h:Sl w .u32 va (dig L32 n)) (hn:n<L32 ^ k):CI w (.agg #[.bool (b && decide (0<n)),va]) (sg b n) k:=
 ⟨va,by rw[sg_neg],by rw[sg_natAbs];exact h,by rw[sg_natAbs];exact hn⟩

theorem dig_len_pos {n:Nat}:0<n->0<(dig L32 n).length:=fun h=>by
 rcases Nat.eq_zero_or_pos (dig L32 n).length with h0 | h0
 ·have:=val_dig (B:=L32) (by decide) n;rw[List.eq_nil_of_length_eq_zero h0] at this
  simp[val] at this;omega
 exact h0
theorem signed_any (b:Bool) (va:Value) (n k:Nat) (w:World) (hs:Sl w .u32 va (dig L32 n)) (hn:n<L32 ^ k) :
  Calls Try.prog 52 #[.bool b,va] w fun e w'=>∃ v,e=.returned v/\CI w' v (sg b n) k/\Below w.heap.size w w':=by
 have hci:∀ w' B,B=(b && decide (0<n))->Below w.heap.size w w'->CI w' (.agg #[.bool B,va]) (sg b n) k:=fun w' B e hb=>by subst e;exact ci_mk (hs.below hb) hn
 obtain⟨ao,ac,rfl⟩:=sl_shape hs;have HS:=Lib.hid hci;clear hci hs hn
 cases b
 ·go_enter Try.func52,Try.ntmps52
  go_wp2
  exact bodyPost_ret (v:=.agg #[.bool false,.slice ao (dig L32 n).length ac]) (by simp[results,Try.results52,go_sem]) rfl ⟨_,rfl,HS.out _ _ rfl ((Below.refl _ _).alloc (Nat.le_refl _) _),(Below.refl _ _).alloc (Nat.le_refl _) _⟩
 by_cases h0:0<n
 ·have hl:=dig_len_pos h0;have HD:=Lib.hid (show true=(true && decide (0<n)) by simp[h0]);go_enter Try.func52,Try.ntmps52
  go_wp2
  exact bodyPost_ret (v:=.agg #[.bool true,.slice ao (dig L32 n).length ac]) (by simp[results,Try.results52,go_sem]) rfl ⟨_,rfl,HS.out _ _ HD.out ((Below.refl _ _).alloc (Nat.le_refl _) _),(Below.refl _ _).alloc (Nat.le_refl _) _⟩
 obtain rfl:n=0:=by omega
 have HD:=Lib.hid (show false=(true && decide (0<0)) by simp);have hl:(dig L32 0).length<=0:=by rw[dig_zero];exact Nat.le_refl _
 have hd:decide (0<(dig L32 0).length)=false:=by rw[decide_eq_false_iff_not];omega
 go_enter Try.func52,Try.ntmps52
 go_wp2
 exact bodyPost_ret (v:=.agg #[.bool false,.slice ao (dig L32 0).length ac]) (by simp[results,Try.results52,go_sem]) rfl ⟨_,rfl,HS.out _ _ HD.out ((Below.refl _ _).alloc (Nat.le_refl _) _),(Below.refl _ _).alloc (Nat.le_refl _) _⟩
theorem GN.shape {w:World} {v:Value} {n k:Nat} (h:GN w v n k):∃ ao l c,v=.slice ao l c/\l<=k:=by
 obtain⟨xs,h,_,_,hk⟩:=h;obtain⟨ao,c,rfl⟩:=sl_shape h;exact⟨ao,_,c,rfl,hk⟩
theorem trim_n {va:Value} {n k:Nat} {w:World} (hx:GN w va n k) (hk:k<=1000000) :
  Calls Try.prog 54 #[va] w fun e w'=>∃ v,e=.returned v/\Sl w' .u32 v (dig L32 n)/\Below w.heap.size w w':=by
 obtain⟨xs,hx,dx,rfl,lx⟩:=hx;exact (trim_any _ xs w hx dx (by omega)).mono fun _ _ ⟨v,he,hs,hb⟩=>⟨v,he,hs.sl,hb⟩
theorem CI.shape {w:World} {v:Value} {z:Int} {k:Nat} (h:CI w v z k):∃ b ao l c,v=.agg #[.bool b,.slice ao l c]:=by
 obtain⟨va,rfl,h,_⟩:=h;obtain⟨ao,c,rfl⟩:=sl_shape h;exact⟨_,ao,_,c,rfl⟩
theorem GI.shape {w:World} {v:Value} {z:Int} {k:Nat} (h:GI w v z k):∃ b ao l c n,v=.agg #[.bool b,.slice ao l c]/\GN w (.slice ao l c) n k/\z=sg b n:=by
 obtain⟨b,va,n,rfl,h,rfl⟩:=h;obtain⟨ao,l,c,rfl,_⟩:=h.shape;exact⟨b,ao,l,c,n,rfl,h,rfl⟩
theorem two_cells {w:World} {g:Nat} {T:TypeId} {a b:Value} (h:w.heap[g]?=some (.cells #[a,b] T (0,0))) :
  w.cell? ⟨g,0,none⟩=some a/\w.cell? ⟨g,1,none⟩=some b/\w.frozen? ⟨g,0,none⟩=false/\w.frozen? ⟨g,1,none⟩=false:=
 ⟨by rw[cell_of_row w g 0 _ T (0,0) h];rfl,by rw[cell_of_row w g 1 _ T (0,0) h];rfl,frozen_of_row w g 0 _ T h,frozen_of_row w g 1 _ T h⟩
theorem Sl.set {w:World} {k:IntKind} {v:Value} {xs:List Nat} (h:Sl w k v xs) {p:Addr} {u:Value} (hc:w.cell? p=some u) (hu:∀ k z,u ≠ .int k z) (x:Value):Sl (w.setCell p x) k v xs:=by
 obtain⟨ao,cap,rfl,h1,h2,h3,h4⟩:=h;refine⟨ao,cap,rfl,h1,h2,h3,fun i hi=>?_⟩;obtain⟨a,ha,hq⟩:=h4 i hi;refine⟨a,ha,?_⟩;rw[World.cell?_setCell_other w p (a.add i) x (fun e=>by rw[<-e,hc] at hq;injection hq with hq;exact hu _ _ hq)];exact hq
theorem Sl.set2 {w:World} {k:IntKind} {v:Value} {xs:List Nat} (h:Sl w k v xs) {g:Nat} {T:TypeId} {b0:Bool} {a0:Option Addr} {n0 c0:Nat} (hB:w.heap[g]?=some (.cells #[.bool b0,.slice a0 n0 c0] T (0,0))) (x y:Value) :
  Sl ((w.setCell ⟨g,0,none⟩ x).setCell ⟨g,1,none⟩ y) k v xs:=by
 obtain⟨q0,q1,_,_⟩:=two_cells hB;refine (h.set q0 (by intro k z e;cases e) x).set (u:=.slice a0 n0 c0) ?_ (by intro k z e;cases e) y;rw[World.cell?_setCell_other w _ _ x (by intro e;injection e with _ e;omega)];exact q1
theorem CI.set2 {w:World} {v:Value} {z:Int} {k:Nat} (h:CI w v z k) {g:Nat} {T:TypeId} {b0:Bool} {a0:Option Addr} {n0 c0:Nat} (hB:w.heap[g]?=some (.cells #[.bool b0,.slice a0 n0 c0] T (0,0))) (x y:Value) :
  CI ((w.setCell ⟨g,0,none⟩ x).setCell ⟨g,1,none⟩ y) v z k:=by
 obtain⟨va,rfl,h,h2⟩:=h;exact⟨va,rfl,h.set2 hB x y,h2⟩
theorem below_set2 {B:Nat} {w w':World} (h:Below B w w') (hB:B<=w.heap.size) (x y:Value):Below B w ((w'.setCell ⟨w.heap.size,0,none⟩ x).setCell ⟨w.heap.size,1,none⟩ y):=
 (h.setCell (by simpa using hB) _).setCell (by simpa using hB) _
theorem big_any (b:Bool) (va:Value) (n k:Nat) (w:World) (hx:GN w va n k) (hk:k<=1000000) :
  Calls Try.prog 32 #[.bool b,va] w fun e w'=>∃ v,e=.returned v/\CI w' v (sg b n) k/\Below w.heap.size w w':=by
 have hn:=hx.lt;have hx':=hx;obtain⟨ao,l,c,rfl,hl⟩:=hx.shape;go_enter Try.func32,Try.ntmps32
 go_wp2_with fail
 refine (trim_n (hx'.below ((Below.refl _ _).alloc (Nat.le_refl _) _)) hk).mono ?_;rintro e w1 ⟨v1,rfl,s1,hb1⟩;have hB1:=(hb1.block w.heap.size (by simp)).trans (heap_alloc_new w _);have hb1t:Below w.heap.size w w1:=((Below.refl _ _).alloc (Nat.le_refl _) _).trans (hb1.mono (by simp));go_wp2_with fail
 refine (signed_any b v1 n k w1 s1 hn).mono ?_;rintro e w2 ⟨v2,rfl,c2,hb2⟩;have hB2:=(hb2.block w.heap.size (lt_of_block hB1)).trans hB1;have hb2t:Below w.heap.size w w2:=hb1t.trans (hb2.mono hb1t.size);obtain⟨bb,bo,bl,bc,rfl⟩:=c2.shape;obtain⟨q0,q1,f0,f1⟩:=two_cells hB2;have HB:=Lib.hid hB2;clear hB1 hB2;go_wp2_with fail
 exact bodyPost_ret (v:=.agg #[.bool bb,.slice bo bl bc]) (by simp[results,Try.results32,go_sem,q0,q1]) rfl ⟨_,rfl,c2.set2 HB.out _ _,below_set2 hb2t (Nat.le_refl _) _ _⟩
theorem Sl.keeps {w w':World} {k:IntKind} {v:Value} {xs:List Nat} (h:Sl w k v xs) (hk:Keeps w w'):Sl w' k v xs:=by
 obtain⟨ao,cap,rfl,h1,h2,h3,h4⟩:=h;refine⟨ao,cap,rfl,h1,h2,h3,fun i hi=>?_⟩;obtain⟨a,ha,hq⟩:=h4 i hi;exact⟨a,ha,hk _ _ _ hq⟩
theorem GN.keeps {w w':World} {v:Value} {n k:Nat} (h:GN w v n k) (hk:Keeps w w'):GN w' v n k:=by
 obtain⟨xs,h1,h2⟩:=h;exact⟨xs,h1.keeps hk,h2⟩
theorem CI.keeps {w w':World} {v:Value} {z:Int} {k:Nat} (h:CI w v z k) (hk:Keeps w w'):CI w' v z k:=by
 obtain⟨va,rfl,h,h2⟩:=h;exact⟨va,rfl,h.keeps hk,h2⟩
theorem mul_d {va vb:Value} {m n k1 k2:Nat} {w:World} (hx:GN w va m k1) (hy:GN w vb n k2) (h1:k1<=1000000) (h2:k2<=1000000) :
  Calls Try.prog 63 #[va,vb] w fun e w'=>∃ v,e=.returned v/\Sl w' .u32 v (dig L32 (m*n))/\Below w.heap.size w w':=by
 obtain⟨xs,hx,dx,rfl,lx⟩:=hx;obtain⟨ys,hy,dy,rfl,ly⟩:=hy;exact mul_any _ _ _ _ w hx hy dx dy (by omega) (by omega)
theorem add_d {va vb:Value} {m n k1 k2:Nat} {w:World} (hx:GN w va m k1) (hy:GN w vb n k2) (h1:k1<=1000000) (h2:k2<=1000000) :
  Calls Try.prog 55 #[va,vb] w fun e w'=>∃ v,e=.returned v/\Sl w' .u32 v (dig L32 (m+n))/\Below w.heap.size w w':=by
 obtain⟨xs,hx,dx,rfl,lx⟩:=hx;obtain⟨ys,hy,dy,rfl,ly⟩:=hy;exact add_any _ _ _ _ w hx hy dx dy (by omega) (by omega)
theorem GN.drew {w:World} {v:Value} {n k:Nat} (h:GN w v n k):GN w.drew v n k:=h
theorem GN.alloc {w:World} {v:Value} {n k:Nat} (h:GN w v n k) (o:Obj):GN (w.alloc o) v n k:=h.below ((Below.refl _ _).alloc (Nat.le_refl _) _)
theorem undrew {B:Nat} {w w1:World} (h:Below B w.drew w1):Below B w w1:=⟨h.os,h.tape,h.output,h.size,h.block⟩
theorem blocks2 {w w1:World} {T1 T2:TypeId} {c1 c2:Array Value} (hb:Below (w.heap.size+2) ((w.alloc (.cells c1 T1)).alloc (.cells c2 T2)) w1) :
  w1.heap[w.heap.size]?=some (.cells c1 T1 (0,0))/\w1.heap[w.heap.size+1]?=some (.cells c2 T2 (0,0)):=by
 have h1:=heap_alloc_new (w.alloc (.cells c1 T1)) (.cells c2 T2);refine⟨(hb.block _ (by omega)).trans ?_,(hb.block _ (by omega)).trans (by simpa using h1)⟩;rw[Below.heap_alloc _ _ _ (by simp)];exact heap_alloc_new w _
theorem blocks3 {w w1:World} {T1 T2 T3:TypeId} {c1 c2 c3:Array Value} (hb:Below (w.heap.size+3) (((w.alloc (.cells c1 T1)).alloc (.cells c2 T2)).alloc (.cells c3 T3)) w1) :
  w1.heap[w.heap.size]?=some (.cells c1 T1 (0,0))/\w1.heap[w.heap.size+1]?=some (.cells c2 T2 (0,0))/\w1.heap[w.heap.size+2]?=some (.cells c3 T3 (0,0)):=by
 have h1:=heap_alloc_new ((w.alloc (.cells c1 T1)).alloc (.cells c2 T2)) (.cells c3 T3);obtain⟨a,b⟩:=blocks2 (Below.refl (w.heap.size+2) ((w.alloc (.cells c1 T1)).alloc (.cells c2 T2)));refine⟨(hb.block _ (by omega)).trans ?_,(hb.block _ (by omega)).trans ?_,(hb.block _ (by omega)).trans (by simpa using h1)⟩
 ·rw[Below.heap_alloc _ _ _ (by simp;omega)];exact a
 rw[Below.heap_alloc _ _ _ (by simp)];exact b
theorem below2 (w:World) (o1 o2:Obj):Below w.heap.size w ((w.alloc o1).alloc o2):=((Below.refl _ _).alloc (Nat.le_refl _) _).alloc (by simp) _
theorem below3 (w:World) (o1 o2 o3:Obj):Below w.heap.size w (((w.alloc o1).alloc o2).alloc o3):=(below2 w o1 o2).alloc (by simp;omega) _
theorem below_setg {B g:Nat} {w w':World} (h:Below B w w') (hB:B<=g) (x y:Value):Below B w ((w'.setCell ⟨g,0,none⟩ x).setCell ⟨g,1,none⟩ y):=
 (h.setCell (by simpa using hB) _).setCell (by simpa using hB) _
theorem far2 {w:World} {g g' o:Nat} {x y:Value} (h:g'≠g):((w.setCell ⟨g,0,none⟩ x).setCell ⟨g,1,none⟩ y).cell? ⟨g',o,none⟩=w.cell? ⟨g',o,none⟩:=by
 rw[World.cell?_setCell_other _ _ _ _ (by intro e;injection e with e;omega),World.cell?_setCell_other _ _ _ _ (by intro e;injection e with e;omega)]
theorem sg_mul (a b:Bool) (m n:Nat):sg a m*sg b n=sg (a != b) (m*n):=by
 cases a<;>cases b<;>simp[sg,Int.neg_mul,Int.mul_neg]
theorem wmul_any (va vb:Value) (y z:Int) (k1 k2:Nat) (w:World) (hx:GI w va y k1) (hy:GI w vb z k2) (h1:k1<=1000000) (h2:k2<=1000000) :
  Calls Try.prog 42 #[va,vb] w fun e w'=>∃ v,e=.returned v/\CI w' v (y*z) (k1+k2)/\Below w.heap.size w w':=by
 obtain⟨b,ao,l,c,m,rfl,hg,rfl⟩:=hx.shape;obtain⟨d,po,pl,pc,n,rfl,hg2,rfl⟩:=hy.shape;have hn:m*n<L32 ^ (k1+k2):=by rw[Nat.pow_add];exact Nat.mul_lt_mul'' hg.lt hg2.lt
 rw[sg_mul];have hW:=below3 w (.cells #[.bool b,.slice ao l c] 26) (.cells #[.bool d,.slice po pl pc] 26) (.cells #[.bool false,.slice none 0 0] 26);go_enter Try.func42,Try.ntmps42
 go_wp2_with fail
 go_region_held3 (fun w'=>w'.cell? ⟨w.heap.size,0,none⟩=some (.bool b)/\w'.cell? ⟨w.heap.size,1,none⟩=some (.slice ao l c)/\w'.cell? ⟨w.heap.size+1,0,none⟩=some (.bool d)/\w'.cell? ⟨w.heap.size+1,1,none⟩=some (.slice po pl pc))
  (first | exact⟨kc0,kc1,kd0,kd1⟩ | exact⟨(far2 (by omega)).trans kc0,(far2 (by omega)).trans kc1,(far2 (by omega)).trans kd0,(far2 (by omega)).trans kd1⟩ | go_keep)
  (first
   | (go_at_call 63;refine (mul_d (((hg.alloc _).alloc _).alloc _).drew (((hg2.alloc _).alloc _).alloc _).drew h1 h2).mono ?_;rintro e w2 ⟨v2,rfl,s2,hb2⟩;have hk2:=blocks3 (undrew (hb2.mono (by simp)));have hb2t:=hW.trans (undrew (hb2.mono (by simp;omega)));clear hb2;obtain⟨kc0,kc1,_,_⟩:=two_cells hk2.1;obtain⟨kd0,kd1,_,_⟩:=two_cells hk2.2.1)
   | (
     go_at_call 52;refine (signed_any _ v2 _ (k1+k2) w2 s2 hn).mono ?_;rintro e w3 ⟨v3,rfl,c3,hb3⟩;obtain⟨bb,bo,bl,bc,rfl⟩:=c3.shape
     have hk0:=(hb3.block _ (lt_of_block hk2.1)).trans hk2.1;have hk1:=(hb3.block _ (lt_of_block hk2.2.1)).trans hk2.2.1;have hk3:=(hb3.block _ (lt_of_block hk2.2.2)).trans hk2.2.2;have hb3t:=hb2t.trans (hb3.mono hb2t.size);clear hb3 hk2 hb2t kc0 kc1 kd0 kd1
     obtain⟨kc0,kc1,_,_⟩:=two_cells hk0;obtain⟨kd0,kd1,_,_⟩:=two_cells hk1;obtain⟨q0,q1,f0,f1⟩:=two_cells hk3;have HB:=Lib.hid hk3;clear hk0 hk1 hk3))
 go_wp2_with fail
 exact bodyPost_ret (v:=.agg #[.bool bb,.slice bo bl bc]) (by simp[results,Try.results42,go_sem,q0,q1]) rfl ⟨_,rfl,c3.set2 HB.out _ _,below_setg hb3t (by omega) _ _⟩
theorem bl_eq0 {n:Nat}:bl n=0 ↔ n=0:=⟨fun h=>by rcases Nat.eq_zero_or_pos n with h0 | h0;exact h0;exact absurd h (by have:=bl_pos h0;omega),fun h=>by rw[h,bl_zero]⟩
def sgnZ (z:Int):Int:=if z=0 then 0 else if z<0 then -1 else 1
theorem wsign_any (va:Value) (z:Int) (k:Nat) (w:World) (hx:GI w va z k) (hk:k<=1000000) :
  Calls Try.prog 45 #[va] w fun e w'=>e=.returned (.int .i64 (sgnZ z))/\Below w.heap.size w w':=by
 obtain⟨b,ao,l,c,n,rfl,hg,rfl⟩:=hx.shape
 by_cases h0:n=0
 ·subst h0;have HB:=Lib.hid (show sgnZ (sg b 0)=0 by cases b<;>simp[sgnZ,sg]);have hz:(((bl 0:Nat):Int)==0)=true:=by rw[bl_zero];rfl
  go_enter Try.func45,Try.ntmps45
  go_wp2_with fail
  refine (bits_n (hg.alloc _) hk).mono ?_;rintro e w3 ⟨rfl,rfl⟩;go_wp2_with fail
  go_ret
  exact⟨by rw[HB.out];rfl,(Below.refl _ _).alloc (Nat.le_refl _) _⟩
 have hz:(((bl n:Nat):Int)==0)=false:=by rw[beq_eq_false_iff_ne];have:=mt bl_eq0.1 h0;omega
 have hp:0<n:=by omega
 cases b
 ·have HB:=Lib.hid (show sgnZ (sg false n)=1 by unfold sgnZ sg;simp only[Bool.false_eq_true,if_false];rw[if_neg (by omega),if_neg (by omega)]);go_enter Try.func45,Try.ntmps45
  go_wp2_with fail
  refine (bits_n (hg.alloc _) hk).mono ?_;rintro e w3 ⟨rfl,rfl⟩;go_wp2_with fail
  go_ret
  exact⟨by rw[HB.out];rfl,(Below.refl _ _).alloc (Nat.le_refl _) _⟩
 have HB:=Lib.hid (show sgnZ (sg true n) = -1 by unfold sgnZ sg;simp only[if_true];rw[if_neg (by omega),if_pos (by omega)]);go_enter Try.func45,Try.ntmps45
 go_wp2_with fail
 refine (bits_n (hg.alloc _) hk).mono ?_;rintro e w3 ⟨rfl,rfl⟩;go_wp2_with fail
 go_ret
 exact⟨by rw[HB.out];rfl,(Below.refl _ _).alloc (Nat.le_refl _) _⟩
theorem sub_d {va vb:Value} {m n k1 k2:Nat} {w:World} (hx:GN w va m k1) (hy:GN w vb n k2) (h1:k1<=1000000) (hle:n<=m) :
  Calls Try.prog 56 #[va,vb] w fun e w'=>∃ v,e=.returned (.tuple #[v,.bool true])/\Sl w' .u32 v (dig L32 (m - n))/\Below w.heap.size w w':=by
 obtain⟨xs,hx,dx,rfl,lx⟩:=hx;obtain⟨ys,hy,dy,rfl,ly⟩:=hy;exact sub_ge _ _ _ _ w hx hy dx dy (by omega) hle
theorem sub_no {va vb:Value} {m n k1 k2:Nat} {w:World} (hx:GN w va m k1) (hy:GN w vb n k2) (hlt:m<n) :
  Calls Try.prog 56 #[va,vb] w fun e w'=>e=.returned (.tuple #[.slice none 0 0,.bool false])/\Below w.heap.size w w':=by
 obtain⟨xs,hx,dx,rfl,lx⟩:=hx;obtain⟨ys,hy,dy,rfl,ly⟩:=hy;exact sub_lt _ _ _ _ w hx hy dx dy hlt
theorem lt_pow_more {m k k':Nat} (h:m<L32 ^ k) (hk:k<=k'):m<L32 ^ k':=Nat.lt_of_lt_of_le h (Nat.pow_le_pow_right (by decide) hk)
theorem sg_add (b:Bool) (m n:Nat):sg b m+sg b n=sg b (m+n):=by
 cases b<;>simp[sg];omega
theorem sg_sub1 {b d:Bool} (h:b≠d) {m n:Nat} (hle:n<=m):sg b m+sg d n=sg b (m - n):=by
 cases b<;>cases d<;>simp[sg] at *<;>omega
theorem sg_sub2 {b d:Bool} (h:b≠d) {m n:Nat} (hle:m<=n):sg b m+sg d n=sg d (n - m):=by
 cases b<;>cases d<;>simp[sg] at *<;>omega
theorem wadd_any (va vb:Value) (y z:Int) (k1 k2:Nat) (w:World) (hx:GI w va y k1) (hy:GI w vb z k2) (h1:k1<=1000000) (h2:k2<=1000000) :
  Calls Try.prog 33 #[va,vb] w fun e w'=>∃ v,e=.returned v/\CI w' v (y+z) (k1+k2+1)/\Below w.heap.size w w':=by
 obtain⟨b,ao,l,c,m,rfl,hg,rfl⟩:=hx.shape;obtain⟨d,po,pl,pc,n,rfl,hg2,rfl⟩:=hy.shape;have hlm:=hg.lt;have hln:=hg2.lt;have hW:=below3 w (.cells #[.bool b,.slice ao l c] 26) (.cells #[.bool d,.slice po pl pc] 26) (.cells #[.bool false,.slice none 0 0] 26)
 by_cases hbd:b=d
 ·subst hbd;have hn:=pow_add_lt hlm hln;rw[sg_add];have heq:(b==b)=true:=by cases b<;>rfl
  go_enter Try.func33,Try.ntmps33
  go_wp2_with fail
  go_region_held3 (fun w'=>w'.cell? ⟨w.heap.size,0,none⟩=some (.bool b)/\w'.cell? ⟨w.heap.size,1,none⟩=some (.slice ao l c)/\w'.cell? ⟨w.heap.size+1,1,none⟩=some (.slice po pl pc))
   (first | exact⟨kc0,kc1,kd1⟩ | exact⟨(far2 (by omega)).trans kc0,(far2 (by omega)).trans kc1,(far2 (by omega)).trans kd1⟩ | go_keep)
   (first
    | (go_at_call 55;refine (add_d (((hg.alloc _).alloc _).alloc _).drew (((hg2.alloc _).alloc _).alloc _).drew h1 h2).mono ?_;rintro e w2 ⟨v2,rfl,s2,hb2⟩;have hk2:=blocks3 (undrew (hb2.mono (by simp)));have hb2t:=hW.trans (undrew (hb2.mono (by simp;omega)));clear hb2;obtain⟨kc0,kc1,_,_⟩:=two_cells hk2.1;obtain⟨kd0,kd1,_,_⟩:=two_cells hk2.2.1)
    | (
      go_at_call 52;refine (signed_any _ v2 _ (k1+k2+1) w2 s2 hn).mono ?_;rintro e w3 ⟨v3,rfl,c3,hb3⟩;obtain⟨bb,bo,bl,bc,rfl⟩:=c3.shape
      have hk0:=(hb3.block _ (lt_of_block hk2.1)).trans hk2.1;have hk1:=(hb3.block _ (lt_of_block hk2.2.1)).trans hk2.2.1;have hk3:=(hb3.block _ (lt_of_block hk2.2.2)).trans hk2.2.2;have hb3t:=hb2t.trans (hb3.mono hb2t.size);clear hb3 hk2 hb2t kc0 kc1 kd0 kd1
      obtain⟨kc0,kc1,_,_⟩:=two_cells hk0;obtain⟨kd0,kd1,_,_⟩:=two_cells hk1;obtain⟨q0,q1,f0,f1⟩:=two_cells hk3;have HB:=Lib.hid hk3;clear hk0 hk1 hk3))
  go_wp2_with fail
  exact bodyPost_ret (v:=.agg #[.bool bb,.slice bo bl bc]) (by simp[results,Try.results33,go_sem,q0,q1]) rfl ⟨_,rfl,c3.set2 HB.out _ _,below_setg hb3t (by omega) _ _⟩
 have heq:(b==d)=false:=by cases b<;>cases d<;>simp at hbd ⊢
 by_cases hle:n<=m
 ·have hn:m - n<L32 ^ (k1+k2+1):=lt_pow_more (k:=k1) (by omega) (by omega);rw[sg_sub1 hbd hle];clear hbd;go_enter Try.func33,Try.ntmps33
  go_wp2_with fail
  refine (sub_d (((hg.alloc _).alloc _).alloc _) (((hg2.alloc _).alloc _).alloc _) h1 hle).mono ?_;rintro e w2 ⟨v2,rfl,s2,hb2⟩;have hk2:=blocks3 (hb2.mono (by simp));have hb2t:=hW.trans (hb2.mono (by simp;omega));clear hb2;obtain⟨kc0,kc1,_,_⟩:=two_cells hk2.1;obtain⟨kd0,kd1,_,_⟩:=two_cells hk2.2.1;have HK:=Lib.hid hk2.2.2;clear hk2;obtain⟨vo,vc,rfl⟩:=sl_shape s2;go_wp2_with fail
  refine (signed_any _ _ _ (k1+k2+1) w2 s2 hn).mono ?_;rintro e w3 ⟨v3,rfl,c3,hb3⟩;obtain⟨bb,bo,bl,bc,rfl⟩:=c3.shape;have hk3:=(hb3.block _ (lt_of_block HK.out)).trans HK.out;have hb3t:=hb2t.trans (hb3.mono hb2t.size);clear hb3 hb2t kc0 kc1 kd0 kd1;obtain⟨q0,q1,f0,f1⟩:=two_cells hk3;have HB:=Lib.hid hk3;clear hk3;go_wp2_with fail
  exact bodyPost_ret (v:=.agg #[.bool bb,.slice bo bl bc]) (by simp[results,Try.results33,go_sem,q0,q1]) rfl ⟨_,rfl,c3.set2 HB.out _ _,below_setg hb3t (by omega) _ _⟩
 have hn:n - m<L32 ^ (k1+k2+1):=lt_pow_more (k:=k2) (by omega) (by omega);have hlt:m<n:=by omega
 have hle2:m<=n:=by omega
 rw[sg_sub2 hbd hle2];clear hbd hle;go_enter Try.func33,Try.ntmps33
 go_wp2_with fail
 refine (sub_no (((hg.alloc _).alloc _).alloc _) (((hg2.alloc _).alloc _).alloc _) hlt).mono ?_;rintro e w2 ⟨rfl,hb2⟩;have hk2:=blocks3 (hb2.mono (by simp));have hb2t:=hW.trans (hb2.mono (by simp;omega));clear hb2;obtain⟨kc0,kc1,_,_⟩:=two_cells hk2.1;obtain⟨kd0,kd1,_,_⟩:=two_cells hk2.2.1;have HK:=Lib.hid hk2;clear hk2;go_wp2_with fail
 refine (sub_d (hg2.below hb2t) (hg.below hb2t) h2 hle2).mono ?_;rintro e w4 ⟨v4,rfl,s4,hb4⟩;have hk0:=(hb4.block _ (lt_of_block HK.out.1)).trans HK.out.1;have hk1:=(hb4.block _ (lt_of_block HK.out.2.1)).trans HK.out.2.1;have hk2:=(hb4.block _ (lt_of_block HK.out.2.2)).trans HK.out.2.2;have hb4t:=hb2t.trans (hb4.mono hb2t.size);clear hb4 kc0 kc1 kd0 kd1;obtain⟨kc0,kc1,_,_⟩:=two_cells hk0;obtain⟨kd0,kd1,_,_⟩:=two_cells hk1;have HK2:=Lib.hid hk2;clear hk0 hk1 hk2;obtain⟨vo,vc,rfl⟩:=sl_shape s4;go_wp2_with fail
 refine (signed_any _ _ _ (k1+k2+1) w4 s4 hn).mono ?_;rintro e w3 ⟨v3,rfl,c3,hb3⟩;obtain⟨bb,bo,bl,bc,rfl⟩:=c3.shape;have hk3:=(hb3.block _ (lt_of_block HK2.out)).trans HK2.out;have hb3t:=hb4t.trans (hb3.mono hb4t.size);clear hb3 hb4t hb2t kc0 kc1 kd0 kd1;obtain⟨q0,q1,f0,f1⟩:=two_cells hk3;have HB:=Lib.hid hk3;clear hk3;go_wp2_with fail
 exact bodyPost_ret (v:=.agg #[.bool bb,.slice bo bl bc]) (by simp[results,Try.results33,go_sem,q0,q1]) rfl ⟨_,rfl,c3.set2 HB.out _ _,below_setg hb3t (by omega) _ _⟩
theorem GI.alloc {w:World} {v:Value} {z:Int} {k:Nat} (h:GI w v z k) (o:Obj):GI (w.alloc o) v z k:=h.below ((Below.refl _ _).alloc (Nat.le_refl _) _)
theorem gi_mk {w:World} {va:Value} {n k:Nat} (h:GN w va n k) (b:Bool):GI w (.agg #[.bool b,va]) (sg b n) k:=⟨b,va,n,rfl,h,rfl⟩
theorem wsub_any (va vb:Value) (y z:Int) (k1 k2:Nat) (w:World) (hx:GI w va y k1) (hy:GI w vb z k2) (h1:k1<=1000000) (h2:k2<=1000000) :
  Calls Try.prog 26 #[va,vb] w fun e w'=>∃ v,e=.returned v/\CI w' v (y - z) (k1+k2+1)/\Below w.heap.size w w':=by
 obtain⟨b,ao,l,c,m,rfl,hg,rfl⟩:=hx.shape;obtain⟨d,po,pl,pc,n,rfl,hg2,rfl⟩:=hy.shape;have hW:=below3 w (.cells #[.bool b,.slice ao l c] 26) (.cells #[.bool d,.slice po pl pc] 26) (.cells #[.bool false,.slice none 0 0] 26);rw[show sg b m - sg d n=sg b m+sg (!d) n by cases d<;>simp[sg]<;>omega];go_enter Try.func26,Try.ntmps26
 go_wp2_with fail
 refine (wadd_any _ _ _ _ k1 k2 _ (((hx.alloc _).alloc _).alloc _) (gi_mk (((hg2.alloc _).alloc _).alloc _) (!d)) h1 h2).mono ?_;rintro e w3 ⟨v3,rfl,c3,hb3⟩;obtain⟨bb,bo,bl,bc,rfl⟩:=c3.shape;have hk3:=(blocks3 (hb3.mono (by simp))).2.2;have hb3t:=hW.trans (hb3.mono (by simp;omega));clear hb3;obtain⟨q0,q1,f0,f1⟩:=two_cells hk3;have HB:=Lib.hid hk3;clear hk3;go_wp2_with fail
 exact bodyPost_ret (v:=.agg #[.bool bb,.slice bo bl bc]) (by simp[results,Try.results26,go_sem,q0,q1]) rfl ⟨_,rfl,c3.set2 HB.out _ _,below_setg hb3t (by omega) _ _⟩
theorem compare_any (a b:Int) (w:World):Calls Try.prog 48 #[.int .i64 a,.int .i64 b] w fun e w'=>e=.returned (.int .i64 (sgnZ (a - b)))/\w=w':=by
 have HN:∀ (x:Int) (w:World),Calls Try.prog 66 #[.int .i64 x] w fun e w'=>e=.returned (.bool false)/\w=w':=by
  intro x w;go_enter Try.func66,Try.ntmps66
  go_wp2
  go_ret
  exact⟨by simp,rfl⟩
 rcases Int.lt_trichotomy a b with h | h | h
 ·have HS:=Lib.hid (show sgnZ (a - b) = -1 by unfold sgnZ;rw[if_neg (by omega),if_pos (by omega)]);have H:=Lib.hid HN;clear HN;go_enter Try.func48,Try.ntmps48
  go_wp2_with fail
  refine (H.out a _).mono ?_;rintro e w' ⟨rfl,rfl⟩;go_wp2_with fail
  refine (H.out b _).mono ?_;rintro e w' ⟨rfl,rfl⟩;go_wp2_with fail
  go_ret
  exact⟨by rw[HS.out];rfl,rfl⟩
 ·subst h;have HS:=Lib.hid (show sgnZ (a - a)=0 by unfold sgnZ;rw[if_pos (by omega)]);have H:=Lib.hid HN;clear HN;go_enter Try.func48,Try.ntmps48
  go_wp2_with fail
  refine (H.out a _).mono ?_;rintro e w' ⟨rfl,rfl⟩;go_wp2_with fail
  refine (H.out a _).mono ?_;rintro e w' ⟨rfl,rfl⟩;go_wp2_with fail
  go_ret
  exact⟨by rw[HS.out];rfl,rfl⟩
 have HS:=Lib.hid (show sgnZ (a - b)=1 by unfold sgnZ;rw[if_neg (by omega),if_neg (by omega)]);have H:=Lib.hid HN;clear HN;have h':¬ a<b:=by omega
 go_enter Try.func48,Try.ntmps48
 go_wp2_with fail
 refine (H.out a _).mono ?_;rintro e w' ⟨rfl,rfl⟩;go_wp2_with fail
 refine (H.out b _).mono ?_;rintro e w' ⟨rfl,rfl⟩;go_wp2_with fail
 go_ret
 exact⟨by rw[HS.out];rfl,rfl⟩
theorem of_d (n:Nat) (z:Int) (w:World) (hz:z=(n:Int)) (hn:n<18446744073709551616) :
  Calls Try.prog 53 #[.int .u64 z] w fun e w'=>∃ v,e=.returned v/\Sl w' .u32 v (dig L32 n)/\n<L32 ^ 2/\Below w.heap.size w w':=
 (of_any n z w hz hn).mono fun _ _ ⟨v,he,hs,hb⟩=>⟨v,he,hs,Nat.lt_of_lt_of_eq hn (by decide),hb⟩
theorem wof_any (z:Int) (w:World) (h1 : -9223372036854775808<=z) (h2:z<=9223372036854775807) :
  Calls Try.prog 29 #[.int .i64 z] w fun e w'=>∃ v,e=.returned v/\CI w' v z 2/\Below w.heap.size w w':=by
 have hW:Below w.heap.size w (w.alloc (.cells #[.bool false,.slice none 0 0] 26)):=(Below.refl _ _).alloc (Nat.le_refl _) _
 by_cases hz:z<0
 ·have HZ:=Lib.hid (show sg true z.natAbs=z by simp[sg];omega);go_enter Try.func29,Try.ntmps29
  go_wp2_with fail
  refine (of_d z.natAbs _ _ (by simp only[IntKind.wrap_u64];omega) (by omega)).mono ?_;rintro e w2 ⟨v2,rfl,s2,hn,hb2⟩;have hk2:=(hb2.block w.heap.size (by simp)).trans (heap_alloc_new w _);have hb2t:=hW.trans (hb2.mono (by simp));clear hb2;obtain⟨vo,vc,rfl⟩:=sl_shape s2;go_wp2_with fail
  refine (signed_any _ _ _ 2 w2 s2 hn).mono ?_;rintro e w3 ⟨v3,rfl,c3,hb3⟩;obtain⟨bb,bo,bl,bc,rfl⟩:=c3.shape;have hk3:=(hb3.block _ (lt_of_block hk2)).trans hk2;have hb3t:=hb2t.trans (hb3.mono hb2t.size);clear hb3 hk2 hb2t;obtain⟨q0,q1,f0,f1⟩:=two_cells hk3;have HB:=Lib.hid hk3;clear hk3;rw[HZ.out] at c3;go_wp2_with fail
  exact bodyPost_ret (v:=.agg #[.bool bb,.slice bo bl bc]) (by simp[results,Try.results29,go_sem,q0,q1]) rfl ⟨_,rfl,c3.set2 HB.out _ _,below_setg hb3t (by omega) _ _⟩
 have HZ:=Lib.hid (show sg false z.natAbs=z by simp[sg];omega);go_enter Try.func29,Try.ntmps29
 go_wp2_with fail
 refine (of_d z.natAbs _ _ (by omega) (by omega)).mono ?_;rintro e w2 ⟨v2,rfl,s2,hn,hb2⟩;have hk2:=(hb2.block w.heap.size (by simp)).trans (heap_alloc_new w _);have hb2t:=hW.trans (hb2.mono (by simp));clear hb2;obtain⟨vo,vc,rfl⟩:=sl_shape s2;go_wp2_with fail
 refine (signed_any _ _ _ 2 w2 s2 hn).mono ?_;rintro e w3 ⟨v3,rfl,c3,hb3⟩;obtain⟨bb,bo,bl,bc,rfl⟩:=c3.shape;have hk3:=(hb3.block _ (lt_of_block hk2)).trans hk2;have hb3t:=hb2t.trans (hb3.mono hb2t.size);clear hb3 hk2 hb2t;obtain⟨q0,q1,f0,f1⟩:=two_cells hk3;have HB:=Lib.hid hk3;clear hk3;rw[HZ.out] at c3;go_wp2_with fail
 exact bodyPost_ret (v:=.agg #[.bool bb,.slice bo bl bc]) (by simp[results,Try.results29,go_sem,q0,q1]) rfl ⟨_,rfl,c3.set2 HB.out _ _,below_setg hb3t (by omega) _ _⟩
theorem sgnZ_le (z:Int) : -1<=sgnZ z/\sgnZ z<=1:=by unfold sgnZ;split;omega;split<;>omega
theorem sgnZ_diff {y z:Int} (h:sgnZ y≠sgnZ z):sgnZ (sgnZ y - sgnZ z)=sgnZ (y - z):=by
 unfold sgnZ at h ⊢
 split at h<;>split at h<;>(try split at h)<;>(try split at h)<;>simp_all<;>first | omega | (rw[if_neg (by omega)];first | rw[if_pos (by omega)] | rw[if_neg (by omega)])
theorem sgnZ_same {b d:Bool} {m n:Nat} (h:sgnZ (sg b m)=sgnZ (sg d n)):sgnZ (sg b m)*cmpN m n=sgnZ (sg b m - sg d n):=by
 unfold sgnZ sg cmpN at *
 cases b<;>cases d<;>simp at h ⊢<;>(repeat' split at h)<;>(repeat' split)<;>first | rfl | omega
theorem wcmp_any (va vb:Value) (y z:Int) (k1 k2:Nat) (w:World) (hx:GI w va y k1) (hy:GI w vb z k2) (h1:k1<=1000000) (h2:k2<=1000000) :
  Calls Try.prog 23 #[va,vb] w fun e w'=>e=.returned (.int .i64 (sgnZ (y - z)))/\Below w.heap.size w w':=by
 have hgx:=hx;have hgy:=hy;obtain⟨b,ao,l,c,m,rfl,hg,rfl⟩:=hx.shape;obtain⟨d,po,pl,pc,n,rfl,hg2,rfl⟩:=hy.shape;have hW:=below2 w (.cells #[.bool b,.slice ao l c] 26) (.cells #[.bool d,.slice po pl pc] 26)
 by_cases hs:sgnZ (sg b m)=sgnZ (sg d n)
 ·have HE:=Lib.hid (sgnZ_same hs);have HS:=Lib.hid hs;have hbs:=sgnZ_le (sg b m);have hbp:=sgnZ_le (sg b m - sg d n);have hne:(sgnZ (sg d n) != sgnZ (sg d n))=false:=by simp
  clear hs;go_enter Try.func23,Try.ntmps23
  go_wp2_with fail
  refine (wsign_any _ _ k1 _ ((hgx.alloc _).alloc _) h1).mono ?_;rintro e w2 ⟨rfl,hb2⟩;have hk2:=blocks2 (hb2.mono (by simp));have hb2t:=hW.trans (hb2.mono (by simp;omega));clear hb2;obtain⟨kc0,kc1,_,_⟩:=two_cells hk2.1;obtain⟨kd0,kd1,_,_⟩:=two_cells hk2.2;have HK:=Lib.hid hk2;clear hk2;rw[HS.out];go_wp2_with fail
  refine (wsign_any _ _ k2 _ (hgy.below hb2t) h2).mono ?_;rintro e w4 ⟨rfl,hb4⟩;have hk0:=(hb4.block _ (lt_of_block HK.out.1)).trans HK.out.1;have hk1:=(hb4.block _ (lt_of_block HK.out.2)).trans HK.out.2;have hb4t:=hb2t.trans (hb4.mono hb2t.size);clear hb4 kc0 kc1 kd0 kd1;obtain⟨kc0,kc1,_,_⟩:=two_cells hk0;obtain⟨kd0,kd1,_,_⟩:=two_cells hk1;have HK0:=Lib.hid hk0;have HK1:=Lib.hid hk1;clear hk0 hk1;go_wp2_with fail
  refine (cmp_n (hg.below hb4t) (hg2.below hb4t)).mono ?_;rintro e w5 ⟨rfl,hb5⟩;have hb5t:=hb4t.trans (hb5.mono hb4t.size);have HP:=Lib.hid (show sgnZ (sg d n)*cmpN m n=sgnZ (sg b m - sg d n) by rw[<-HS.out];exact HE.out);have p1 : -9223372036854775808<=sgnZ (sg d n)*cmpN m n:=by rw[HP.out];omega
  have p2:sgnZ (sg d n)*cmpN m n<=9223372036854775807:=by rw[HP.out];omega
  clear hb5;go_wp2_with fail
  go_ret
  exact⟨by rw[<-HP.out];rfl,hb5t⟩
 have HD:=Lib.hid (sgnZ_diff hs);have hne:(sgnZ (sg b m) != sgnZ (sg d n))=true:=by rw[bne_iff_ne];exact hs
 clear hs;go_enter Try.func23,Try.ntmps23
 go_wp2_with fail
 refine (wsign_any _ _ k1 _ ((hgx.alloc _).alloc _) h1).mono ?_;rintro e w2 ⟨rfl,hb2⟩;have hk2:=blocks2 (hb2.mono (by simp));have hb2t:=hW.trans (hb2.mono (by simp;omega));clear hb2;obtain⟨kd0,kd1,_,_⟩:=two_cells hk2.2;have HK:=Lib.hid hk2.2;clear hk2;go_wp2_with fail
 refine (wsign_any _ _ k2 _ (hgy.below hb2t) h2).mono ?_;rintro e w4 ⟨rfl,hb4⟩;have hk1:=(hb4.block _ (lt_of_block HK.out)).trans HK.out;have hb4t:=hb2t.trans (hb4.mono hb2t.size);clear hb4 kd0 kd1;obtain⟨kd0,kd1,_,_⟩:=two_cells hk1;clear hk1;go_wp2_with fail
 refine (wsign_any _ _ k2 _ (hgy.below hb4t) h2).mono ?_;rintro e w5 ⟨rfl,hb5⟩;have hb5t:=hb4t.trans (hb5.mono hb4t.size);clear hb5 kd0 kd1;go_wp2_with fail
 refine (compare_any _ _ _).mono ?_;rintro e w6 ⟨rfl,rfl⟩;rw[HD.out];go_wp2_with fail
 go_ret
 exact⟨rfl,hb5t⟩
def zn (l:List UInt8):Int:=if l.head?=some 45 then -(dn (l.drop 1):Int) else (dn l:Int)
theorem div_d {va vb:Value} {m n k1 k2:Nat} {w:World} (hx:GN w va m k1) (hy:GN w vb n k2) (h1:k1<=900000) (h0:0<n) :
  Calls Try.prog 64 #[va,vb] w fun e w'=>∃ q r,e=.returned (.tuple #[q,r,.bool true])/\Sl w' .u32 q (dig L32 (m / n))/\Sl w' .u32 r (dig L32 (m % n))/\Below w.heap.size w w':=div_n hx hy h1 h0
theorem sg_div {b d:Bool} {m n:Nat} (hn:0<n) (h:b=d\/m % n=0):Int.fdiv (sg b m) (sg d n)=sg (b != d) (m / n)/\Int.fmod (sg b m) (sg d n)=sg d (m % n):=by
 have hd:=Nat.div_add_mod m n;have hl:=Nat.mod_lt m hn;generalize m / n=q at *;generalize m % n=r at *;have hdz:(n:Int)*q+r=m:=by exact_mod_cast hd
 cases d
 ·have hp:sg false n > 0:=by simp[sg];omega
  refine (Int.fdiv_fmod_unique hp).2 ?_
  cases b<;>simp[sg,Int.mul_neg] at *<;>(try subst h)<;>omega
 have hp:sg true n<0:=by simp[sg];omega
 refine (Int.fdiv_fmod_unique' hp).2 ?_
 cases b<;>simp[sg,Int.neg_mul,Int.mul_neg] at *<;>(try subst h)<;>omega
theorem sg_div2 {b d:Bool} {m n:Nat} (hn:0<n) (h:b≠d) (hr:0<m % n):Int.fdiv (sg b m) (sg d n)=sg (b != d) (m / n+1)/\Int.fmod (sg b m) (sg d n)=sg d (n - m % n):=by
 have hd:=Nat.div_add_mod m n;have hl:=Nat.mod_lt m hn;generalize m / n=q at *;generalize m % n=r at *;have hdz:(n:Int)*q+r=m:=by exact_mod_cast hd
 cases d
 ·have hp:sg false n > 0:=by simp[sg];omega
  refine (Int.fdiv_fmod_unique hp).2 ?_
  cases b<;>simp[sg,Int.mul_neg,Int.mul_add] at *<;>omega
 have hp:sg true n<0:=by simp[sg];omega
 refine (Int.fdiv_fmod_unique' hp).2 ?_
 cases b<;>simp[sg,Int.neg_mul,Int.mul_neg,Int.mul_add] at *<;>omega
theorem wdiv_plain (b d s:Bool) (ao po:Option Addr) (l c pl pc m n k1 k2:Nat) (w:World) (hg:GN w (.slice ao l c) m k1) (hg2:GN w (.slice po pl pc) n k2) (h1:k1<=900000) (h0:0<n) (hs:s=(b != d)) (h:b=d\/m % n=0) :
  Calls Try.prog 43 #[.agg #[.bool b,.slice ao l c],.agg #[.bool d,.slice po pl pc]] w fun e w'=>∃ q r,e=.returned (.tuple #[q,r,.bool true])/\CI w' q (sg s (m / n)) (k1+3)/\CI w' r (sg d (m % n)) k2/\Below w.heap.size w w':=by
 have hqn:m / n<L32 ^ (k1+3):=lt_pow_more (k:=k1) (Nat.lt_of_le_of_lt (Nat.div_le_self _ _) hg.lt) (by omega);have hrn:m % n<L32 ^ k2:=Nat.lt_trans (Nat.mod_lt _ h0) hg2.lt
 cases b<;>cases d
 ·obtain rfl:s=false:=hs;clear h;have hbt:=Below.refl w.heap.size w;go_enter Try.func43,Try.ntmps43
  go_wp2_with fail
  have hbx:Below w.heap.size w ((((w.alloc (.cells #[.bool false,.slice ao l c] 26)).alloc (.cells #[.bool false,.slice po pl pc] 26)).alloc (.cells #[.bool false,.slice none 0 0] 26)).alloc (.cells #[.bool false,.slice none 0 0] 26)):=(((((Below.refl _ _).alloc (by simp) _).alloc (by simp) _).alloc (by simp;omega) _).alloc (by simp;omega) _)
  replace hg:=hg.below hbx;replace hg2:=hg2.below hbx;replace hbt:=hbt.trans (hbx.mono hbt.size);clear hbx;have HB_xa:Hid (((((w.alloc (.cells #[.bool false,.slice ao l c] 26)).alloc (.cells #[.bool false,.slice po pl pc] 26)).alloc (.cells #[.bool false,.slice none 0 0] 26)).alloc (.cells #[.bool false,.slice none 0 0] 26)).heap[w.heap.size]?=some (.cells #[.bool false,.slice ao l c] 26 (0,0))):=Lib.hid (made_more (made_more (made_more (made_at w (.cells #[.bool false,.slice ao l c] 26) _ (by first | rfl | simp)) _) _) _)
  have HB_xb:Hid (((((w.alloc (.cells #[.bool false,.slice ao l c] 26)).alloc (.cells #[.bool false,.slice po pl pc] 26)).alloc (.cells #[.bool false,.slice none 0 0] 26)).alloc (.cells #[.bool false,.slice none 0 0] 26)).heap[w.heap.size+1]?=some (.cells #[.bool false,.slice po pl pc] 26 (0,0))):=Lib.hid (made_more (made_more (made_at (w.alloc (.cells #[.bool false,.slice ao l c] 26)) (.cells #[.bool false,.slice po pl pc] 26) _ (by first | rfl | simp)) _) _)
  have HB_q:Hid (((((w.alloc (.cells #[.bool false,.slice ao l c] 26)).alloc (.cells #[.bool false,.slice po pl pc] 26)).alloc (.cells #[.bool false,.slice none 0 0] 26)).alloc (.cells #[.bool false,.slice none 0 0] 26)).heap[w.heap.size+2]?=some (.cells #[.bool false,.slice none 0 0] 26 (0,0))):=Lib.hid (made_more (made_at ((w.alloc (.cells #[.bool false,.slice ao l c] 26)).alloc (.cells #[.bool false,.slice po pl pc] 26)) (.cells #[.bool false,.slice none 0 0] 26) _ (by first | rfl | simp)) _)
  have HB_r:Hid (((((w.alloc (.cells #[.bool false,.slice ao l c] 26)).alloc (.cells #[.bool false,.slice po pl pc] 26)).alloc (.cells #[.bool false,.slice none 0 0] 26)).alloc (.cells #[.bool false,.slice none 0 0] 26)).heap[w.heap.size+3]?=some (.cells #[.bool false,.slice none 0 0] 26 (0,0))):=Lib.hid (made_at (((w.alloc (.cells #[.bool false,.slice ao l c] 26)).alloc (.cells #[.bool false,.slice po pl pc] 26)).alloc (.cells #[.bool false,.slice none 0 0] 26)) (.cells #[.bool false,.slice none 0 0] 26) _ (by first | rfl | simp));generalize ((((w.alloc (.cells #[.bool false,.slice ao l c] 26)).alloc (.cells #[.bool false,.slice po pl pc] 26)).alloc (.cells #[.bool false,.slice none 0 0] 26)).alloc (.cells #[.bool false,.slice none 0 0] 26))=wx1 at *;have xa0:=cell_at (v:=.bool false) HB_xa.out 0 rfl;have xa1:=cell_at (v:=.slice ao l c) HB_xa.out 1 rfl
  have xb0:=cell_at (v:=.bool false) HB_xb.out 0 rfl;have xb1:=cell_at (v:=.slice po pl pc) HB_xb.out 1 rfl;have q0:=cell_at (v:=.bool false) HB_q.out 0 rfl;have q1:=cell_at (v:=.slice none 0 0) HB_q.out 1 rfl;have r0:=cell_at (v:=.bool false) HB_r.out 0 rfl;have r1:=cell_at (v:=.slice none 0 0) HB_r.out 1 rfl;refine (div_d hg hg2 h1 h0).mono ?_;rintro e wx2 ⟨vq,vr,rfl,sq,sr,hbx⟩;replace hg:=hg.below hbx;replace hg2:=hg2.below hbx;replace hbt:=hbt.trans (hbx.mono hbt.size);replace HB_xa:=Lib.hid ((hbx.block _ (lt_of_block HB_xa.out)).trans HB_xa.out);replace HB_xb:=Lib.hid ((hbx.block _ (lt_of_block HB_xb.out)).trans HB_xb.out);replace HB_q:=Lib.hid ((hbx.block _ (lt_of_block HB_q.out)).trans HB_q.out);replace HB_r:=Lib.hid ((hbx.block _ (lt_of_block HB_r.out)).trans HB_r.out);clear hbx;replace xa0:=cell_at (v:=.bool false) HB_xa.out 0 rfl
  replace xa1:=cell_at (v:=.slice ao l c) HB_xa.out 1 rfl;replace xb0:=cell_at (v:=.bool false) HB_xb.out 0 rfl;replace xb1:=cell_at (v:=.slice po pl pc) HB_xb.out 1 rfl;replace q0:=cell_at (v:=.bool false) HB_q.out 0 rfl;replace q1:=cell_at (v:=.slice none 0 0) HB_q.out 1 rfl;replace r0:=cell_at (v:=.bool false) HB_r.out 0 rfl;replace r1:=cell_at (v:=.slice none 0 0) HB_r.out 1 rfl;obtain⟨qo,qc,rfl⟩:=sl_shape sq;obtain⟨ro,rc,rfl⟩:=sl_shape sr;go_wp2_with fail
  have hlt_xa:=lt_of_block HB_xa.out;have hlt_xb:=lt_of_block HB_xb.out;have hlt_q:=lt_of_block HB_q.out;have hlt_r:=lt_of_block HB_r.out;have hszb:=hbt.size
  refine Rely.region (by kernel_rfl) [[],[0],[],[2],[0,1,2,3],[],[0,1,2,3,4,5],[],[7],[],[0,1,2,3,4,5,6,7,8,9],[0,1,2,3,4,5,6,7,8,9,10],[0,1,2,3,4,5,6,7,8,9,10,11],[0,1,2,3,4,5,6,7,8,9,10,11,12]] [] [(11,1000),(12,1001)] (fun q=>[w.heap.size+2,w.heap.size+3].getD q 0) 2 14 (by kernel_rfl) (by kernel_rfl) (fun q hq=>by match q,hq with | 0,_=>exact hlt_q | 1,_=>exact hlt_r) (fun q r hq hr hne=>by match q,r,hq,hr,hne with | 0,0,_,_,h=>exact absurd rfl h | 0,1,_,_,h=>exact (by show w.heap.size+2≠w.heap.size+3;omega) | 1,0,_,_,h=>exact (by show w.heap.size+3≠w.heap.size+2;omega) | 1,1,_,_,h=>exact absurd rfl h) ?_;refine Rely.Chain.det ?_ (by rfl) (fun T xs wr hA=>?_) ?_
  rotate_left 1
  ·have e2:=hA.pre 2 (by kernel_rfl);simp only[gsa,gsc,gsz] at e2;clear hA;refine⟨(by rfl),?_⟩;go_simp<;>(try with_reducible rfl)
  refine Rely.Chain.det ?_ (by rfl) (fun T xs wr hA=>?_) ?_
  rotate_left 1
  ·have e43:=hA.tm 0 43 (by rfl) (by rfl);have f43:xs 0=_:=hA.fa 0 (by rfl)
   (try simp (disch:=rfl) only [Rely.mask_in] at f43)
   rw[f43] at e43;clear f43;have hBq:wr.heap[w.heap.size]?=_:=(hA.bl _ hlt_xa (fun q hq=>by match q,hq with | 0,_=>exact (by show w.heap.size+2≠w.heap.size;omega) | 1,_=>exact (by show w.heap.size+3≠w.heap.size;omega))).trans HB_xa.out;have q0:=cell_at (v:=.bool false) hBq 0 rfl;have q1:=cell_at (v:=.slice ao l c) hBq 1 rfl;clear hBq;clear hA;refine⟨(by rfl),?_⟩;go_simp<;>(try with_reducible rfl)
  refine Rely.Chain.det ?_ (by rfl) (fun T xs wr hA=>?_) ?_
  rotate_left 1
  ·have e3:=hA.pre 3 (by kernel_rfl);simp only[gsa,gsc,gsz] at e3;clear hA;refine⟨(by rfl),?_⟩;go_simp<;>(try with_reducible rfl)
  refine Rely.Chain.det ?_ (by rfl) (fun T xs wr hA=>?_) ?_
  rotate_left 1
  ·have e45:=hA.tm 2 45 (by rfl) (by rfl);have f45:xs 2=_:=hA.fa 2 (by rfl)
   (try simp (disch:=rfl) only [Rely.mask_in] at f45)
   rw[f45] at e45;clear f45;have hBq:wr.heap[w.heap.size+1]?=_:=(hA.bl _ hlt_xb (fun q hq=>by match q,hq with | 0,_=>exact (by show w.heap.size+2≠w.heap.size+1;omega) | 1,_=>exact (by show w.heap.size+3≠w.heap.size+1;omega))).trans HB_xb.out;have q0:=cell_at (v:=.bool false) hBq 0 rfl;have q1:=cell_at (v:=.slice po pl pc) hBq 1 rfl;clear hBq;clear hA;refine⟨(by rfl),?_⟩;go_simp<;>(try with_reducible rfl)
  refine Rely.Chain.det ?_ (by rfl) (fun T xs wr hA=>?_) ?_
  rotate_left 1
  ·have e44:=hA.tm 1 44 (by rfl) (by rfl);have f44:xs 1=_:=hA.fa 1 (by rfl)
   (try simp (disch:=rfl) only [Rely.mask_in] at f44)
   rw[f44] at e44;clear f44;have e46:=hA.tm 3 46 (by rfl) (by rfl);have f46:xs 3=_:=hA.fa 3 (by rfl)
   (try simp (disch:=rfl) only [Rely.mask_in] at f46)
   rw[f46] at e46;clear f46;clear hA;refine⟨(by rfl),?_⟩;go_simp<;>(try with_reducible rfl)
  refine Rely.Chain.det ?_ (by rfl) (fun T xs wr hA=>?_) ?_
  rotate_left 1
  ·have e7:=hA.pre 7 (by kernel_rfl);simp only[gsa,gsc,gsz] at e7;clear hA;refine⟨(by rfl),?_⟩;go_simp<;>(try with_reducible rfl)
  refine Rely.Chain.call (fun _ v w=>CI w v (sg false (m / n)) (k1+3)) (fun _ _ _ _ h hb=>h.below hb) (fun _ _ _ _ _ h hp=>h.keeps hp.keeps) (by rfl) (fun T xs wr hA=>?_) ?_
  ·have e47:=hA.tm 4 47 (by rfl) (by rfl);have f47:xs 4=_:=hA.fa 4 (by rfl)
   (try simp (disch:=rfl) only [Rely.mask_in] at f47)
   rw[f47] at e47;clear f47;have e48:=hA.tm 5 48 (by rfl) (by rfl);have f48:xs 5=_:=hA.fa 5 (by rfl)
   (try simp (disch:=rfl) only [Rely.mask_in] at f48)
   rw[f48] at e48;clear f48;have hkp:=undrewK hA.kp;have hbt':=hbt.trans (undrew (hA.be w.heap.size hszb (fun q hq=>by match q,hq with | 0,_=>exact (by show w.heap.size<=w.heap.size+2;omega) | 1,_=>exact (by show w.heap.size<=w.heap.size+3;omega))));have sq:=sq.keeps hkp;clear hA;refine⟨(by rfl),fun K hK=>?_⟩;go_simp
   refine (signed_any false (.slice qo _ qc) (m / n) (k1+3) _ sq hqn).mono ?_;rintro e wq ⟨v,rfl,c,hb⟩;exact hK.out _ _ c hb
  refine Rely.Chain.det ?_ (by rfl) (fun T xs wr hA=>?_) ?_
  rotate_left 1
  ·have e3:=hA.pre 3 (by kernel_rfl);simp only[gsa,gsc,gsz] at e3;clear hA;refine⟨(by rfl),?_⟩;go_simp<;>(try with_reducible rfl)
  refine Rely.Chain.det ?_ (by rfl) (fun T xs wr hA=>?_) ?_
  rotate_left 1
  ·have e50:=hA.tm 7 50 (by rfl) (by rfl);have f50:xs 7=_:=hA.fa 7 (by rfl)
   (try simp (disch:=rfl) only [Rely.mask_in] at f50)
   rw[f50] at e50;clear f50;have hBq:wr.heap[w.heap.size+1]?=_:=(hA.bl _ hlt_xb (fun q hq=>by match q,hq with | 0,_=>exact (by show w.heap.size+2≠w.heap.size+1;omega) | 1,_=>exact (by show w.heap.size+3≠w.heap.size+1;omega))).trans HB_xb.out;have q0:=cell_at (v:=.bool false) hBq 0 rfl;have q1:=cell_at (v:=.slice po pl pc) hBq 1 rfl;clear hBq;clear hA;refine⟨(by rfl),?_⟩;go_simp<;>(try with_reducible rfl)
  refine Rely.Chain.det ?_ (by rfl) (fun T xs wr hA=>?_) ?_
  rotate_left 1
  ·have e8:=hA.pre 8 (by kernel_rfl);simp only[gsa,gsc,gsz] at e8;clear hA;refine⟨(by rfl),?_⟩;go_simp<;>(try with_reducible rfl)
  refine Rely.Chain.call (fun _ v w=>CI w v (sg false (m % n)) k2) (fun _ _ _ _ h hb=>h.below hb) (fun _ _ _ _ _ h hp=>h.keeps hp.keeps) (by rfl) (fun T xs wr hA=>?_) ?_
  ·have e51:=hA.tm 8 51 (by rfl) (by rfl);have f51:xs 8=_:=hA.fa 8 (by rfl)
   (try simp (disch:=rfl) only [Rely.mask_in] at f51)
   rw[f51] at e51;clear f51;have e52:=hA.tm 9 52 (by rfl) (by rfl);have f52:xs 9=_:=hA.fa 9 (by rfl)
   (try simp (disch:=rfl) only [Rely.mask_in] at f52)
   rw[f52] at e52;clear f52;have hkp:=undrewK hA.kp;have hbt':=hbt.trans (undrew (hA.be w.heap.size hszb (fun q hq=>by match q,hq with | 0,_=>exact (by show w.heap.size<=w.heap.size+2;omega) | 1,_=>exact (by show w.heap.size<=w.heap.size+3;omega))));have sr:=sr.keeps hkp;clear hA;refine⟨(by rfl),fun K hK=>?_⟩;go_simp
   refine (signed_any false (.slice ro _ rc) (m % n) k2 _ sr hrn).mono ?_;rintro e wq ⟨v,rfl,c,hb⟩;exact hK.out _ _ c hb
  refine Rely.Chain.storeOld 0 6 26 (by rfl) (by rfl) (by decide) (Rely.own_one (by rfl)) (fun T xs wr hA hB0=>?_) ?_
  ·have e4:=hA.pre 4 (by kernel_rfl);simp only[gsa,gsc,gsz] at e4;have hB:wr.heap[w.heap.size+2]?=_:=hB0.trans HB_q.out;clear hB0;have e49:=hA.tm 6 49 (by rfl) (by rfl);have hc:CI wr (xs 6) (sg false (m / n)) (k1+3):=hA.fa 6 (by rfl);obtain⟨b_h,o_h,l_h,k_h,hv⟩:=hc.shape;clear hc;rw[hv] at e49;have z0:=cell_at hB 0 rfl;have z1:=cell_at hB 1 rfl;have fz0:=froz_at hB 0;have fz1:=froz_at hB 1;clear hA;refine⟨(by rfl),fun K hK=>?_⟩;go_simp
   exact hK.out _ _ hv (hset2 hB _ _) (priv2 hB (by rfl) (by rfl))
  refine Rely.Chain.storeOld 1 10 26 (by rfl) (by rfl) (by decide) (Rely.own_one (by rfl)) (fun T xs wr hA hB0=>?_) ?_
  ·have e5:=hA.pre 5 (by kernel_rfl);simp only[gsa,gsc,gsz] at e5;have hB:wr.heap[w.heap.size+3]?=_:=hB0.trans HB_r.out;clear hB0;have e53:=hA.tm 10 53 (by rfl) (by rfl);have hc:CI wr (xs 10) (sg false (m % n)) k2:=hA.fa 10 (by rfl);obtain⟨b_h,o_h,l_h,k_h,hv⟩:=hc.shape;clear hc;rw[hv] at e53;have z0:=cell_at hB 0 rfl;have z1:=cell_at hB 1 rfl;have fz0:=froz_at hB 0;have fz1:=froz_at hB 1;clear hA;refine⟨(by rfl),fun K hK=>?_⟩;go_simp
   exact hK.out _ _ hv (hset2 hB _ _) (priv2 hB (by rfl) (by rfl))
  refine Rely.Chain.det ?_ (by rfl) (fun T xs wr hA=>?_) ?_
  rotate_left 1
  ·clear hA;refine⟨(by rfl),?_⟩;go_simp<;>(try with_reducible rfl)
  refine Rely.Chain.done (fun xs wx3 hL=>?_);obtain⟨⟨hbe,hbl,hkp0⟩,hf,hp,hn⟩:=hL;have f0:xs 0=_:=hf 0 (by decide)
  (try simp (disch:=rfl) only [Rely.mask_in] at f0)
  have f1:xs 1=_:=hf 1 (by decide)
  (try simp (disch:=rfl) only [Rely.mask_in] at f1)
  have f2:xs 2=_:=hf 2 (by decide)
  (try simp (disch:=rfl) only [Rely.mask_in] at f2)
  have f3:xs 3=_:=hf 3 (by decide)
  (try simp (disch:=rfl) only [Rely.mask_in] at f3)
  have f4:xs 4=_:=hf 4 (by decide)
  (try simp (disch:=rfl) only [Rely.mask_in] at f4)
  have f5:xs 5=_:=hf 5 (by decide)
  (try simp (disch:=rfl) only [Rely.mask_in] at f5)
  have c_q2:CI wx3 (xs 6) (sg false (m / n)) (k1+3):=hf 6 (by decide);have f7:xs 7=_:=hf 7 (by decide)
  (try simp (disch:=rfl) only [Rely.mask_in] at f7)
  have f8:xs 8=_:=hf 8 (by decide)
  (try simp (disch:=rfl) only [Rely.mask_in] at f8)
  have f9:xs 9=_:=hf 9 (by decide)
  (try simp (disch:=rfl) only [Rely.mask_in] at f9)
  have c_r2:CI wx3 (xs 10) (sg false (m % n)) k2:=hf 10 (by decide);obtain⟨cc,hv,hB_q⟩:=hf 11 (by decide);change xs 6=_ at hv;obtain⟨b_q2,o_q2,l_q2,k_q2,hs_q2⟩:=c_q2.shape;rw[hs_q2] at hv;injection hv with hv;subst hv;obtain⟨cc,hv,hB_r⟩:=hf 12 (by decide);change xs 10=_ at hv;obtain⟨b_r2,o_r2,l_r2,k_r2,hs_r2⟩:=c_r2.shape;rw[hs_r2] at hv;injection hv with hv;subst hv;have f13:xs 13=_:=hf 13 (by decide)
  (try simp (disch:=rfl) only [Rely.mask_in] at f13)
  clear hf hp hn;refine Rely.rest_done ?_;rw[hs_q2] at c_q2;rw[hs_r2] at c_r2;simp only[Rely.fill,List.setIfInBounds_toArray,List.set_cons_zero,List.set_cons_succ,f0,f1,f2,f3,f4,f5,f7,f8,f9,f13,hs_q2,hs_r2];clear f0 f1 f2 f3 f4 f5 f7 f8 f9 f13 hs_q2 hs_r2;clear xs;replace hkp0:=undrewK hkp0;replace hg:=hg.keeps hkp0;replace hg2:=hg2.keeps hkp0;replace sq:=sq.keeps hkp0;replace sr:=sr.keeps hkp0;replace hbt:=hbt.trans (undrew (hbe w.heap.size hszb (fun q hq=>by match q,hq with | 0,_=>exact (by show w.heap.size<=w.heap.size+2;omega) | 1,_=>exact (by show w.heap.size<=w.heap.size+3;omega))));replace HB_xa:=Lib.hid ((hbl _ hlt_xa (fun q hq=>by match q,hq with | 0,_=>exact (by show w.heap.size+2≠w.heap.size;omega) | 1,_=>exact (by show w.heap.size+3≠w.heap.size;omega))).trans HB_xa.out)
  replace HB_xb:=Lib.hid ((hbl _ hlt_xb (fun q hq=>by match q,hq with | 0,_=>exact (by show w.heap.size+2≠w.heap.size+1;omega) | 1,_=>exact (by show w.heap.size+3≠w.heap.size+1;omega))).trans HB_xb.out);replace HB_q:=Lib.hid (show wx3.heap[w.heap.size+2]?=some (.cells #[.bool b_q2,.slice o_q2 l_q2 k_q2] 26 (0,0)) from hB_q);clear hB_q;replace HB_r:=Lib.hid (show wx3.heap[w.heap.size+3]?=some (.cells #[.bool b_r2,.slice o_r2 l_r2 k_r2] 26 (0,0)) from hB_r);clear hB_r;clear hkp0 hbe hbl hszb;replace xa0:=cell_at (v:=.bool false) HB_xa.out 0 rfl;replace xa1:=cell_at (v:=.slice ao l c) HB_xa.out 1 rfl;replace xb0:=cell_at (v:=.bool false) HB_xb.out 0 rfl;replace xb1:=cell_at (v:=.slice po pl pc) HB_xb.out 1 rfl;replace q0:=cell_at (v:=.bool b_q2) HB_q.out 0 rfl;replace q1:=cell_at (v:=.slice o_q2 l_q2 k_q2) HB_q.out 1 rfl
  replace r0:=cell_at (v:=.bool b_r2) HB_r.out 0 rfl;replace r1:=cell_at (v:=.slice o_r2 l_r2 k_r2) HB_r.out 1 rfl;clear hlt_xa hlt_xb hlt_q hlt_r;go_wp2_with fail
  exact bodyPost_ret (v:=.tuple #[.agg #[.bool b_q2,.slice o_q2 l_q2 k_q2],.agg #[.bool b_r2,.slice o_r2 l_r2 k_r2],.bool true]) (by simp[results,Try.results43,go_sem,q0,q1,r0,r1]) rfl ⟨_,_,rfl,c_q2,c_r2,hbt⟩
 ·obtain rfl:s=true:=hs
  have hl0:(dig L32 (m % n)).length<=0:=by
   rcases h with h | h
   ·cases h
   rw[h,dig_zero];exact Nat.le_refl _
  clear h;have hbt:=Below.refl w.heap.size w;go_enter Try.func43,Try.ntmps43
  go_wp2_with fail
  have hbx:Below w.heap.size w ((((w.alloc (.cells #[.bool false,.slice ao l c] 26)).alloc (.cells #[.bool true,.slice po pl pc] 26)).alloc (.cells #[.bool false,.slice none 0 0] 26)).alloc (.cells #[.bool false,.slice none 0 0] 26)):=(((((Below.refl _ _).alloc (by simp) _).alloc (by simp) _).alloc (by simp;omega) _).alloc (by simp;omega) _)
  replace hg:=hg.below hbx;replace hg2:=hg2.below hbx;replace hbt:=hbt.trans (hbx.mono hbt.size);clear hbx;have HB_xa:Hid (((((w.alloc (.cells #[.bool false,.slice ao l c] 26)).alloc (.cells #[.bool true,.slice po pl pc] 26)).alloc (.cells #[.bool false,.slice none 0 0] 26)).alloc (.cells #[.bool false,.slice none 0 0] 26)).heap[w.heap.size]?=some (.cells #[.bool false,.slice ao l c] 26 (0,0))):=Lib.hid (made_more (made_more (made_more (made_at w (.cells #[.bool false,.slice ao l c] 26) _ (by first | rfl | simp)) _) _) _)
  have HB_xb:Hid (((((w.alloc (.cells #[.bool false,.slice ao l c] 26)).alloc (.cells #[.bool true,.slice po pl pc] 26)).alloc (.cells #[.bool false,.slice none 0 0] 26)).alloc (.cells #[.bool false,.slice none 0 0] 26)).heap[w.heap.size+1]?=some (.cells #[.bool true,.slice po pl pc] 26 (0,0))):=Lib.hid (made_more (made_more (made_at (w.alloc (.cells #[.bool false,.slice ao l c] 26)) (.cells #[.bool true,.slice po pl pc] 26) _ (by first | rfl | simp)) _) _)
  have HB_q:Hid (((((w.alloc (.cells #[.bool false,.slice ao l c] 26)).alloc (.cells #[.bool true,.slice po pl pc] 26)).alloc (.cells #[.bool false,.slice none 0 0] 26)).alloc (.cells #[.bool false,.slice none 0 0] 26)).heap[w.heap.size+2]?=some (.cells #[.bool false,.slice none 0 0] 26 (0,0))):=Lib.hid (made_more (made_at ((w.alloc (.cells #[.bool false,.slice ao l c] 26)).alloc (.cells #[.bool true,.slice po pl pc] 26)) (.cells #[.bool false,.slice none 0 0] 26) _ (by first | rfl | simp)) _)
  have HB_r:Hid (((((w.alloc (.cells #[.bool false,.slice ao l c] 26)).alloc (.cells #[.bool true,.slice po pl pc] 26)).alloc (.cells #[.bool false,.slice none 0 0] 26)).alloc (.cells #[.bool false,.slice none 0 0] 26)).heap[w.heap.size+3]?=some (.cells #[.bool false,.slice none 0 0] 26 (0,0))):=Lib.hid (made_at (((w.alloc (.cells #[.bool false,.slice ao l c] 26)).alloc (.cells #[.bool true,.slice po pl pc] 26)).alloc (.cells #[.bool false,.slice none 0 0] 26)) (.cells #[.bool false,.slice none 0 0] 26) _ (by first | rfl | simp));generalize ((((w.alloc (.cells #[.bool false,.slice ao l c] 26)).alloc (.cells #[.bool true,.slice po pl pc] 26)).alloc (.cells #[.bool false,.slice none 0 0] 26)).alloc (.cells #[.bool false,.slice none 0 0] 26))=wx1 at *;have xa0:=cell_at (v:=.bool false) HB_xa.out 0 rfl;have xa1:=cell_at (v:=.slice ao l c) HB_xa.out 1 rfl
  have xb0:=cell_at (v:=.bool true) HB_xb.out 0 rfl;have xb1:=cell_at (v:=.slice po pl pc) HB_xb.out 1 rfl;have q0:=cell_at (v:=.bool false) HB_q.out 0 rfl;have q1:=cell_at (v:=.slice none 0 0) HB_q.out 1 rfl;have r0:=cell_at (v:=.bool false) HB_r.out 0 rfl;have r1:=cell_at (v:=.slice none 0 0) HB_r.out 1 rfl;refine (div_d hg hg2 h1 h0).mono ?_;rintro e wx2 ⟨vq,vr,rfl,sq,sr,hbx⟩;replace hg:=hg.below hbx;replace hg2:=hg2.below hbx;replace hbt:=hbt.trans (hbx.mono hbt.size);replace HB_xa:=Lib.hid ((hbx.block _ (lt_of_block HB_xa.out)).trans HB_xa.out);replace HB_xb:=Lib.hid ((hbx.block _ (lt_of_block HB_xb.out)).trans HB_xb.out);replace HB_q:=Lib.hid ((hbx.block _ (lt_of_block HB_q.out)).trans HB_q.out);replace HB_r:=Lib.hid ((hbx.block _ (lt_of_block HB_r.out)).trans HB_r.out);clear hbx;replace xa0:=cell_at (v:=.bool false) HB_xa.out 0 rfl
  replace xa1:=cell_at (v:=.slice ao l c) HB_xa.out 1 rfl;replace xb0:=cell_at (v:=.bool true) HB_xb.out 0 rfl;replace xb1:=cell_at (v:=.slice po pl pc) HB_xb.out 1 rfl;replace q0:=cell_at (v:=.bool false) HB_q.out 0 rfl;replace q1:=cell_at (v:=.slice none 0 0) HB_q.out 1 rfl;replace r0:=cell_at (v:=.bool false) HB_r.out 0 rfl;replace r1:=cell_at (v:=.slice none 0 0) HB_r.out 1 rfl;obtain⟨qo,qc,rfl⟩:=sl_shape sq;obtain⟨ro,rc,rfl⟩:=sl_shape sr;go_wp2_with fail
  have hlt_xa:=lt_of_block HB_xa.out;have hlt_xb:=lt_of_block HB_xb.out;have hlt_q:=lt_of_block HB_q.out;have hlt_r:=lt_of_block HB_r.out;have hszb:=hbt.size
  refine Rely.region (by kernel_rfl) [[],[0],[],[2],[0,1,2,3],[],[0,1,2,3,4,5],[],[7],[],[0,1,2,3,4,5,6,7,8,9],[0,1,2,3,4,5,6,7,8,9,10],[0,1,2,3,4,5,6,7,8,9,10,11],[0,1,2,3,4,5,6,7,8,9,10,11,12]] [] [(11,1000),(12,1001)] (fun q=>[w.heap.size+2,w.heap.size+3].getD q 0) 2 14 (by kernel_rfl) (by kernel_rfl) (fun q hq=>by match q,hq with | 0,_=>exact hlt_q | 1,_=>exact hlt_r) (fun q r hq hr hne=>by match q,r,hq,hr,hne with | 0,0,_,_,h=>exact absurd rfl h | 0,1,_,_,h=>exact (by show w.heap.size+2≠w.heap.size+3;omega) | 1,0,_,_,h=>exact (by show w.heap.size+3≠w.heap.size+2;omega) | 1,1,_,_,h=>exact absurd rfl h) ?_;refine Rely.Chain.det ?_ (by rfl) (fun T xs wr hA=>?_) ?_
  rotate_left 1
  ·have e2:=hA.pre 2 (by kernel_rfl);simp only[gsa,gsc,gsz] at e2;clear hA;refine⟨(by rfl),?_⟩;go_simp<;>(try with_reducible rfl)
  refine Rely.Chain.det ?_ (by rfl) (fun T xs wr hA=>?_) ?_
  rotate_left 1
  ·have e43:=hA.tm 0 43 (by rfl) (by rfl);have f43:xs 0=_:=hA.fa 0 (by rfl)
   (try simp (disch:=rfl) only [Rely.mask_in] at f43)
   rw[f43] at e43;clear f43;have hBq:wr.heap[w.heap.size]?=_:=(hA.bl _ hlt_xa (fun q hq=>by match q,hq with | 0,_=>exact (by show w.heap.size+2≠w.heap.size;omega) | 1,_=>exact (by show w.heap.size+3≠w.heap.size;omega))).trans HB_xa.out;have q0:=cell_at (v:=.bool false) hBq 0 rfl;have q1:=cell_at (v:=.slice ao l c) hBq 1 rfl;clear hBq;clear hA;refine⟨(by rfl),?_⟩;go_simp<;>(try with_reducible rfl)
  refine Rely.Chain.det ?_ (by rfl) (fun T xs wr hA=>?_) ?_
  rotate_left 1
  ·have e3:=hA.pre 3 (by kernel_rfl);simp only[gsa,gsc,gsz] at e3;clear hA;refine⟨(by rfl),?_⟩;go_simp<;>(try with_reducible rfl)
  refine Rely.Chain.det ?_ (by rfl) (fun T xs wr hA=>?_) ?_
  rotate_left 1
  ·have e45:=hA.tm 2 45 (by rfl) (by rfl);have f45:xs 2=_:=hA.fa 2 (by rfl)
   (try simp (disch:=rfl) only [Rely.mask_in] at f45)
   rw[f45] at e45;clear f45;have hBq:wr.heap[w.heap.size+1]?=_:=(hA.bl _ hlt_xb (fun q hq=>by match q,hq with | 0,_=>exact (by show w.heap.size+2≠w.heap.size+1;omega) | 1,_=>exact (by show w.heap.size+3≠w.heap.size+1;omega))).trans HB_xb.out;have q0:=cell_at (v:=.bool true) hBq 0 rfl;have q1:=cell_at (v:=.slice po pl pc) hBq 1 rfl;clear hBq;clear hA;refine⟨(by rfl),?_⟩;go_simp<;>(try with_reducible rfl)
  refine Rely.Chain.det ?_ (by rfl) (fun T xs wr hA=>?_) ?_
  rotate_left 1
  ·have e44:=hA.tm 1 44 (by rfl) (by rfl);have f44:xs 1=_:=hA.fa 1 (by rfl)
   (try simp (disch:=rfl) only [Rely.mask_in] at f44)
   rw[f44] at e44;clear f44;have e46:=hA.tm 3 46 (by rfl) (by rfl);have f46:xs 3=_:=hA.fa 3 (by rfl)
   (try simp (disch:=rfl) only [Rely.mask_in] at f46)
   rw[f46] at e46;clear f46;clear hA;refine⟨(by rfl),?_⟩;go_simp<;>(try with_reducible rfl)
  refine Rely.Chain.det ?_ (by rfl) (fun T xs wr hA=>?_) ?_
  rotate_left 1
  ·have e7:=hA.pre 7 (by kernel_rfl);simp only[gsa,gsc,gsz] at e7;clear hA;refine⟨(by rfl),?_⟩;go_simp<;>(try with_reducible rfl)
  refine Rely.Chain.call (fun _ v w=>CI w v (sg true (m / n)) (k1+3)) (fun _ _ _ _ h hb=>h.below hb) (fun _ _ _ _ _ h hp=>h.keeps hp.keeps) (by rfl) (fun T xs wr hA=>?_) ?_
  ·have e47:=hA.tm 4 47 (by rfl) (by rfl);have f47:xs 4=_:=hA.fa 4 (by rfl)
   (try simp (disch:=rfl) only [Rely.mask_in] at f47)
   rw[f47] at e47;clear f47;have e48:=hA.tm 5 48 (by rfl) (by rfl);have f48:xs 5=_:=hA.fa 5 (by rfl)
   (try simp (disch:=rfl) only [Rely.mask_in] at f48)
   rw[f48] at e48;clear f48;have hkp:=undrewK hA.kp;have hbt':=hbt.trans (undrew (hA.be w.heap.size hszb (fun q hq=>by match q,hq with | 0,_=>exact (by show w.heap.size<=w.heap.size+2;omega) | 1,_=>exact (by show w.heap.size<=w.heap.size+3;omega))));have sq:=sq.keeps hkp;clear hA;refine⟨(by rfl),fun K hK=>?_⟩;go_simp
   refine (signed_any true (.slice qo _ qc) (m / n) (k1+3) _ sq hqn).mono ?_;rintro e wq ⟨v,rfl,c,hb⟩;exact hK.out _ _ c hb
  refine Rely.Chain.det ?_ (by rfl) (fun T xs wr hA=>?_) ?_
  rotate_left 1
  ·have e3:=hA.pre 3 (by kernel_rfl);simp only[gsa,gsc,gsz] at e3;clear hA;refine⟨(by rfl),?_⟩;go_simp<;>(try with_reducible rfl)
  refine Rely.Chain.det ?_ (by rfl) (fun T xs wr hA=>?_) ?_
  rotate_left 1
  ·have e50:=hA.tm 7 50 (by rfl) (by rfl);have f50:xs 7=_:=hA.fa 7 (by rfl)
   (try simp (disch:=rfl) only [Rely.mask_in] at f50)
   rw[f50] at e50;clear f50;have hBq:wr.heap[w.heap.size+1]?=_:=(hA.bl _ hlt_xb (fun q hq=>by match q,hq with | 0,_=>exact (by show w.heap.size+2≠w.heap.size+1;omega) | 1,_=>exact (by show w.heap.size+3≠w.heap.size+1;omega))).trans HB_xb.out;have q0:=cell_at (v:=.bool true) hBq 0 rfl;have q1:=cell_at (v:=.slice po pl pc) hBq 1 rfl;clear hBq;clear hA;refine⟨(by rfl),?_⟩;go_simp<;>(try with_reducible rfl)
  refine Rely.Chain.det ?_ (by rfl) (fun T xs wr hA=>?_) ?_
  rotate_left 1
  ·have e8:=hA.pre 8 (by kernel_rfl);simp only[gsa,gsc,gsz] at e8;clear hA;refine⟨(by rfl),?_⟩;go_simp<;>(try with_reducible rfl)
  refine Rely.Chain.call (fun _ v w=>CI w v (sg true (m % n)) k2) (fun _ _ _ _ h hb=>h.below hb) (fun _ _ _ _ _ h hp=>h.keeps hp.keeps) (by rfl) (fun T xs wr hA=>?_) ?_
  ·have e51:=hA.tm 8 51 (by rfl) (by rfl);have f51:xs 8=_:=hA.fa 8 (by rfl)
   (try simp (disch:=rfl) only [Rely.mask_in] at f51)
   rw[f51] at e51;clear f51;have e52:=hA.tm 9 52 (by rfl) (by rfl);have f52:xs 9=_:=hA.fa 9 (by rfl)
   (try simp (disch:=rfl) only [Rely.mask_in] at f52)
   rw[f52] at e52;clear f52;have hkp:=undrewK hA.kp;have hbt':=hbt.trans (undrew (hA.be w.heap.size hszb (fun q hq=>by match q,hq with | 0,_=>exact (by show w.heap.size<=w.heap.size+2;omega) | 1,_=>exact (by show w.heap.size<=w.heap.size+3;omega))));have sr:=sr.keeps hkp;clear hA;refine⟨(by rfl),fun K hK=>?_⟩;go_simp
   refine (signed_any true (.slice ro _ rc) (m % n) k2 _ sr hrn).mono ?_;rintro e wq ⟨v,rfl,c,hb⟩;exact hK.out _ _ c hb
  refine Rely.Chain.storeOld 0 6 26 (by rfl) (by rfl) (by decide) (Rely.own_one (by rfl)) (fun T xs wr hA hB0=>?_) ?_
  ·have e4:=hA.pre 4 (by kernel_rfl);simp only[gsa,gsc,gsz] at e4;have hB:wr.heap[w.heap.size+2]?=_:=hB0.trans HB_q.out;clear hB0;have e49:=hA.tm 6 49 (by rfl) (by rfl);have hc:CI wr (xs 6) (sg true (m / n)) (k1+3):=hA.fa 6 (by rfl);obtain⟨b_h,o_h,l_h,k_h,hv⟩:=hc.shape;clear hc;rw[hv] at e49;have z0:=cell_at hB 0 rfl;have z1:=cell_at hB 1 rfl;have fz0:=froz_at hB 0;have fz1:=froz_at hB 1;clear hA;refine⟨(by rfl),fun K hK=>?_⟩;go_simp
   exact hK.out _ _ hv (hset2 hB _ _) (priv2 hB (by rfl) (by rfl))
  refine Rely.Chain.storeOld 1 10 26 (by rfl) (by rfl) (by decide) (Rely.own_one (by rfl)) (fun T xs wr hA hB0=>?_) ?_
  ·have e5:=hA.pre 5 (by kernel_rfl);simp only[gsa,gsc,gsz] at e5;have hB:wr.heap[w.heap.size+3]?=_:=hB0.trans HB_r.out;clear hB0;have e53:=hA.tm 10 53 (by rfl) (by rfl);have hc:CI wr (xs 10) (sg true (m % n)) k2:=hA.fa 10 (by rfl);obtain⟨b_h,o_h,l_h,k_h,hv⟩:=hc.shape;clear hc;rw[hv] at e53;have z0:=cell_at hB 0 rfl;have z1:=cell_at hB 1 rfl;have fz0:=froz_at hB 0;have fz1:=froz_at hB 1;clear hA;refine⟨(by rfl),fun K hK=>?_⟩;go_simp
   exact hK.out _ _ hv (hset2 hB _ _) (priv2 hB (by rfl) (by rfl))
  refine Rely.Chain.det ?_ (by rfl) (fun T xs wr hA=>?_) ?_
  rotate_left 1
  ·clear hA;refine⟨(by rfl),?_⟩;go_simp<;>(try with_reducible rfl)
  refine Rely.Chain.done (fun xs wx3 hL=>?_);obtain⟨⟨hbe,hbl,hkp0⟩,hf,hp,hn⟩:=hL;have f0:xs 0=_:=hf 0 (by decide)
  (try simp (disch:=rfl) only [Rely.mask_in] at f0)
  have f1:xs 1=_:=hf 1 (by decide)
  (try simp (disch:=rfl) only [Rely.mask_in] at f1)
  have f2:xs 2=_:=hf 2 (by decide)
  (try simp (disch:=rfl) only [Rely.mask_in] at f2)
  have f3:xs 3=_:=hf 3 (by decide)
  (try simp (disch:=rfl) only [Rely.mask_in] at f3)
  have f4:xs 4=_:=hf 4 (by decide)
  (try simp (disch:=rfl) only [Rely.mask_in] at f4)
  have f5:xs 5=_:=hf 5 (by decide)
  (try simp (disch:=rfl) only [Rely.mask_in] at f5)
  have c_q2:CI wx3 (xs 6) (sg true (m / n)) (k1+3):=hf 6 (by decide);have f7:xs 7=_:=hf 7 (by decide)
  (try simp (disch:=rfl) only [Rely.mask_in] at f7)
  have f8:xs 8=_:=hf 8 (by decide)
  (try simp (disch:=rfl) only [Rely.mask_in] at f8)
  have f9:xs 9=_:=hf 9 (by decide)
  (try simp (disch:=rfl) only [Rely.mask_in] at f9)
  have c_r2:CI wx3 (xs 10) (sg true (m % n)) k2:=hf 10 (by decide);obtain⟨cc,hv,hB_q⟩:=hf 11 (by decide);change xs 6=_ at hv;obtain⟨b_q2,o_q2,l_q2,k_q2,hs_q2⟩:=c_q2.shape;rw[hs_q2] at hv;injection hv with hv;subst hv;obtain⟨cc,hv,hB_r⟩:=hf 12 (by decide);change xs 10=_ at hv;obtain⟨b_r2,o_r2,l_r2,k_r2,hs_r2⟩:=c_r2.shape;rw[hs_r2] at hv;injection hv with hv;subst hv;have f13:xs 13=_:=hf 13 (by decide)
  (try simp (disch:=rfl) only [Rely.mask_in] at f13)
  clear hf hp hn;refine Rely.rest_done ?_;rw[hs_q2] at c_q2;rw[hs_r2] at c_r2;simp only[Rely.fill,List.setIfInBounds_toArray,List.set_cons_zero,List.set_cons_succ,f0,f1,f2,f3,f4,f5,f7,f8,f9,f13,hs_q2,hs_r2];clear f0 f1 f2 f3 f4 f5 f7 f8 f9 f13 hs_q2 hs_r2;clear xs;replace hkp0:=undrewK hkp0;replace hg:=hg.keeps hkp0;replace hg2:=hg2.keeps hkp0;replace sq:=sq.keeps hkp0;replace sr:=sr.keeps hkp0;replace hbt:=hbt.trans (undrew (hbe w.heap.size hszb (fun q hq=>by match q,hq with | 0,_=>exact (by show w.heap.size<=w.heap.size+2;omega) | 1,_=>exact (by show w.heap.size<=w.heap.size+3;omega))));replace HB_xa:=Lib.hid ((hbl _ hlt_xa (fun q hq=>by match q,hq with | 0,_=>exact (by show w.heap.size+2≠w.heap.size;omega) | 1,_=>exact (by show w.heap.size+3≠w.heap.size;omega))).trans HB_xa.out)
  replace HB_xb:=Lib.hid ((hbl _ hlt_xb (fun q hq=>by match q,hq with | 0,_=>exact (by show w.heap.size+2≠w.heap.size+1;omega) | 1,_=>exact (by show w.heap.size+3≠w.heap.size+1;omega))).trans HB_xb.out);replace HB_q:=Lib.hid (show wx3.heap[w.heap.size+2]?=some (.cells #[.bool b_q2,.slice o_q2 l_q2 k_q2] 26 (0,0)) from hB_q);clear hB_q;replace HB_r:=Lib.hid (show wx3.heap[w.heap.size+3]?=some (.cells #[.bool b_r2,.slice o_r2 l_r2 k_r2] 26 (0,0)) from hB_r);clear hB_r;clear hkp0 hbe hbl hszb;replace xa0:=cell_at (v:=.bool false) HB_xa.out 0 rfl;replace xa1:=cell_at (v:=.slice ao l c) HB_xa.out 1 rfl;replace xb0:=cell_at (v:=.bool true) HB_xb.out 0 rfl;replace xb1:=cell_at (v:=.slice po pl pc) HB_xb.out 1 rfl;replace q0:=cell_at (v:=.bool b_q2) HB_q.out 0 rfl;replace q1:=cell_at (v:=.slice o_q2 l_q2 k_q2) HB_q.out 1 rfl
  replace r0:=cell_at (v:=.bool b_r2) HB_r.out 0 rfl;replace r1:=cell_at (v:=.slice o_r2 l_r2 k_r2) HB_r.out 1 rfl;clear hlt_xa hlt_xb hlt_q hlt_r;go_wp2_with fail
  exact bodyPost_ret (v:=.tuple #[.agg #[.bool b_q2,.slice o_q2 l_q2 k_q2],.agg #[.bool b_r2,.slice o_r2 l_r2 k_r2],.bool true]) (by simp[results,Try.results43,go_sem,q0,q1,r0,r1]) rfl ⟨_,_,rfl,c_q2,c_r2,hbt⟩
 ·obtain rfl:s=true:=hs
  have hl0:(dig L32 (m % n)).length<=0:=by
   rcases h with h | h
   ·cases h
   rw[h,dig_zero];exact Nat.le_refl _
  clear h;have hbt:=Below.refl w.heap.size w;go_enter Try.func43,Try.ntmps43
  go_wp2_with fail
  have hbx:Below w.heap.size w ((((w.alloc (.cells #[.bool true,.slice ao l c] 26)).alloc (.cells #[.bool false,.slice po pl pc] 26)).alloc (.cells #[.bool false,.slice none 0 0] 26)).alloc (.cells #[.bool false,.slice none 0 0] 26)):=(((((Below.refl _ _).alloc (by simp) _).alloc (by simp) _).alloc (by simp;omega) _).alloc (by simp;omega) _)
  replace hg:=hg.below hbx;replace hg2:=hg2.below hbx;replace hbt:=hbt.trans (hbx.mono hbt.size);clear hbx;have HB_xa:Hid (((((w.alloc (.cells #[.bool true,.slice ao l c] 26)).alloc (.cells #[.bool false,.slice po pl pc] 26)).alloc (.cells #[.bool false,.slice none 0 0] 26)).alloc (.cells #[.bool false,.slice none 0 0] 26)).heap[w.heap.size]?=some (.cells #[.bool true,.slice ao l c] 26 (0,0))):=Lib.hid (made_more (made_more (made_more (made_at w (.cells #[.bool true,.slice ao l c] 26) _ (by first | rfl | simp)) _) _) _)
  have HB_xb:Hid (((((w.alloc (.cells #[.bool true,.slice ao l c] 26)).alloc (.cells #[.bool false,.slice po pl pc] 26)).alloc (.cells #[.bool false,.slice none 0 0] 26)).alloc (.cells #[.bool false,.slice none 0 0] 26)).heap[w.heap.size+1]?=some (.cells #[.bool false,.slice po pl pc] 26 (0,0))):=Lib.hid (made_more (made_more (made_at (w.alloc (.cells #[.bool true,.slice ao l c] 26)) (.cells #[.bool false,.slice po pl pc] 26) _ (by first | rfl | simp)) _) _)
  have HB_q:Hid (((((w.alloc (.cells #[.bool true,.slice ao l c] 26)).alloc (.cells #[.bool false,.slice po pl pc] 26)).alloc (.cells #[.bool false,.slice none 0 0] 26)).alloc (.cells #[.bool false,.slice none 0 0] 26)).heap[w.heap.size+2]?=some (.cells #[.bool false,.slice none 0 0] 26 (0,0))):=Lib.hid (made_more (made_at ((w.alloc (.cells #[.bool true,.slice ao l c] 26)).alloc (.cells #[.bool false,.slice po pl pc] 26)) (.cells #[.bool false,.slice none 0 0] 26) _ (by first | rfl | simp)) _)
  have HB_r:Hid (((((w.alloc (.cells #[.bool true,.slice ao l c] 26)).alloc (.cells #[.bool false,.slice po pl pc] 26)).alloc (.cells #[.bool false,.slice none 0 0] 26)).alloc (.cells #[.bool false,.slice none 0 0] 26)).heap[w.heap.size+3]?=some (.cells #[.bool false,.slice none 0 0] 26 (0,0))):=Lib.hid (made_at (((w.alloc (.cells #[.bool true,.slice ao l c] 26)).alloc (.cells #[.bool false,.slice po pl pc] 26)).alloc (.cells #[.bool false,.slice none 0 0] 26)) (.cells #[.bool false,.slice none 0 0] 26) _ (by first | rfl | simp));generalize ((((w.alloc (.cells #[.bool true,.slice ao l c] 26)).alloc (.cells #[.bool false,.slice po pl pc] 26)).alloc (.cells #[.bool false,.slice none 0 0] 26)).alloc (.cells #[.bool false,.slice none 0 0] 26))=wx1 at *;have xa0:=cell_at (v:=.bool true) HB_xa.out 0 rfl;have xa1:=cell_at (v:=.slice ao l c) HB_xa.out 1 rfl
  have xb0:=cell_at (v:=.bool false) HB_xb.out 0 rfl;have xb1:=cell_at (v:=.slice po pl pc) HB_xb.out 1 rfl;have q0:=cell_at (v:=.bool false) HB_q.out 0 rfl;have q1:=cell_at (v:=.slice none 0 0) HB_q.out 1 rfl;have r0:=cell_at (v:=.bool false) HB_r.out 0 rfl;have r1:=cell_at (v:=.slice none 0 0) HB_r.out 1 rfl;refine (div_d hg hg2 h1 h0).mono ?_;rintro e wx2 ⟨vq,vr,rfl,sq,sr,hbx⟩;replace hg:=hg.below hbx;replace hg2:=hg2.below hbx;replace hbt:=hbt.trans (hbx.mono hbt.size);replace HB_xa:=Lib.hid ((hbx.block _ (lt_of_block HB_xa.out)).trans HB_xa.out);replace HB_xb:=Lib.hid ((hbx.block _ (lt_of_block HB_xb.out)).trans HB_xb.out);replace HB_q:=Lib.hid ((hbx.block _ (lt_of_block HB_q.out)).trans HB_q.out);replace HB_r:=Lib.hid ((hbx.block _ (lt_of_block HB_r.out)).trans HB_r.out);clear hbx;replace xa0:=cell_at (v:=.bool true) HB_xa.out 0 rfl
  replace xa1:=cell_at (v:=.slice ao l c) HB_xa.out 1 rfl;replace xb0:=cell_at (v:=.bool false) HB_xb.out 0 rfl;replace xb1:=cell_at (v:=.slice po pl pc) HB_xb.out 1 rfl;replace q0:=cell_at (v:=.bool false) HB_q.out 0 rfl;replace q1:=cell_at (v:=.slice none 0 0) HB_q.out 1 rfl;replace r0:=cell_at (v:=.bool false) HB_r.out 0 rfl;replace r1:=cell_at (v:=.slice none 0 0) HB_r.out 1 rfl;obtain⟨qo,qc,rfl⟩:=sl_shape sq;obtain⟨ro,rc,rfl⟩:=sl_shape sr;go_wp2_with fail
  have hlt_xa:=lt_of_block HB_xa.out;have hlt_xb:=lt_of_block HB_xb.out;have hlt_q:=lt_of_block HB_q.out;have hlt_r:=lt_of_block HB_r.out;have hszb:=hbt.size
  refine Rely.region (by kernel_rfl) [[],[0],[],[2],[0,1,2,3],[],[0,1,2,3,4,5],[],[7],[],[0,1,2,3,4,5,6,7,8,9],[0,1,2,3,4,5,6,7,8,9,10],[0,1,2,3,4,5,6,7,8,9,10,11],[0,1,2,3,4,5,6,7,8,9,10,11,12]] [] [(11,1000),(12,1001)] (fun q=>[w.heap.size+2,w.heap.size+3].getD q 0) 2 14 (by kernel_rfl) (by kernel_rfl) (fun q hq=>by match q,hq with | 0,_=>exact hlt_q | 1,_=>exact hlt_r) (fun q r hq hr hne=>by match q,r,hq,hr,hne with | 0,0,_,_,h=>exact absurd rfl h | 0,1,_,_,h=>exact (by show w.heap.size+2≠w.heap.size+3;omega) | 1,0,_,_,h=>exact (by show w.heap.size+3≠w.heap.size+2;omega) | 1,1,_,_,h=>exact absurd rfl h) ?_;refine Rely.Chain.det ?_ (by rfl) (fun T xs wr hA=>?_) ?_
  rotate_left 1
  ·have e2:=hA.pre 2 (by kernel_rfl);simp only[gsa,gsc,gsz] at e2;clear hA;refine⟨(by rfl),?_⟩;go_simp<;>(try with_reducible rfl)
  refine Rely.Chain.det ?_ (by rfl) (fun T xs wr hA=>?_) ?_
  rotate_left 1
  ·have e43:=hA.tm 0 43 (by rfl) (by rfl);have f43:xs 0=_:=hA.fa 0 (by rfl)
   (try simp (disch:=rfl) only [Rely.mask_in] at f43)
   rw[f43] at e43;clear f43;have hBq:wr.heap[w.heap.size]?=_:=(hA.bl _ hlt_xa (fun q hq=>by match q,hq with | 0,_=>exact (by show w.heap.size+2≠w.heap.size;omega) | 1,_=>exact (by show w.heap.size+3≠w.heap.size;omega))).trans HB_xa.out;have q0:=cell_at (v:=.bool true) hBq 0 rfl;have q1:=cell_at (v:=.slice ao l c) hBq 1 rfl;clear hBq;clear hA;refine⟨(by rfl),?_⟩;go_simp<;>(try with_reducible rfl)
  refine Rely.Chain.det ?_ (by rfl) (fun T xs wr hA=>?_) ?_
  rotate_left 1
  ·have e3:=hA.pre 3 (by kernel_rfl);simp only[gsa,gsc,gsz] at e3;clear hA;refine⟨(by rfl),?_⟩;go_simp<;>(try with_reducible rfl)
  refine Rely.Chain.det ?_ (by rfl) (fun T xs wr hA=>?_) ?_
  rotate_left 1
  ·have e45:=hA.tm 2 45 (by rfl) (by rfl);have f45:xs 2=_:=hA.fa 2 (by rfl)
   (try simp (disch:=rfl) only [Rely.mask_in] at f45)
   rw[f45] at e45;clear f45;have hBq:wr.heap[w.heap.size+1]?=_:=(hA.bl _ hlt_xb (fun q hq=>by match q,hq with | 0,_=>exact (by show w.heap.size+2≠w.heap.size+1;omega) | 1,_=>exact (by show w.heap.size+3≠w.heap.size+1;omega))).trans HB_xb.out;have q0:=cell_at (v:=.bool false) hBq 0 rfl;have q1:=cell_at (v:=.slice po pl pc) hBq 1 rfl;clear hBq;clear hA;refine⟨(by rfl),?_⟩;go_simp<;>(try with_reducible rfl)
  refine Rely.Chain.det ?_ (by rfl) (fun T xs wr hA=>?_) ?_
  rotate_left 1
  ·have e44:=hA.tm 1 44 (by rfl) (by rfl);have f44:xs 1=_:=hA.fa 1 (by rfl)
   (try simp (disch:=rfl) only [Rely.mask_in] at f44)
   rw[f44] at e44;clear f44;have e46:=hA.tm 3 46 (by rfl) (by rfl);have f46:xs 3=_:=hA.fa 3 (by rfl)
   (try simp (disch:=rfl) only [Rely.mask_in] at f46)
   rw[f46] at e46;clear f46;clear hA;refine⟨(by rfl),?_⟩;go_simp<;>(try with_reducible rfl)
  refine Rely.Chain.det ?_ (by rfl) (fun T xs wr hA=>?_) ?_
  rotate_left 1
  ·have e7:=hA.pre 7 (by kernel_rfl);simp only[gsa,gsc,gsz] at e7;clear hA;refine⟨(by rfl),?_⟩;go_simp<;>(try with_reducible rfl)
  refine Rely.Chain.call (fun _ v w=>CI w v (sg true (m / n)) (k1+3)) (fun _ _ _ _ h hb=>h.below hb) (fun _ _ _ _ _ h hp=>h.keeps hp.keeps) (by rfl) (fun T xs wr hA=>?_) ?_
  ·have e47:=hA.tm 4 47 (by rfl) (by rfl);have f47:xs 4=_:=hA.fa 4 (by rfl)
   (try simp (disch:=rfl) only [Rely.mask_in] at f47)
   rw[f47] at e47;clear f47;have e48:=hA.tm 5 48 (by rfl) (by rfl);have f48:xs 5=_:=hA.fa 5 (by rfl)
   (try simp (disch:=rfl) only [Rely.mask_in] at f48)
   rw[f48] at e48;clear f48;have hkp:=undrewK hA.kp;have hbt':=hbt.trans (undrew (hA.be w.heap.size hszb (fun q hq=>by match q,hq with | 0,_=>exact (by show w.heap.size<=w.heap.size+2;omega) | 1,_=>exact (by show w.heap.size<=w.heap.size+3;omega))));have sq:=sq.keeps hkp;clear hA;refine⟨(by rfl),fun K hK=>?_⟩;go_simp
   refine (signed_any true (.slice qo _ qc) (m / n) (k1+3) _ sq hqn).mono ?_;rintro e wq ⟨v,rfl,c,hb⟩;exact hK.out _ _ c hb
  refine Rely.Chain.det ?_ (by rfl) (fun T xs wr hA=>?_) ?_
  rotate_left 1
  ·have e3:=hA.pre 3 (by kernel_rfl);simp only[gsa,gsc,gsz] at e3;clear hA;refine⟨(by rfl),?_⟩;go_simp<;>(try with_reducible rfl)
  refine Rely.Chain.det ?_ (by rfl) (fun T xs wr hA=>?_) ?_
  rotate_left 1
  ·have e50:=hA.tm 7 50 (by rfl) (by rfl);have f50:xs 7=_:=hA.fa 7 (by rfl)
   (try simp (disch:=rfl) only [Rely.mask_in] at f50)
   rw[f50] at e50;clear f50;have hBq:wr.heap[w.heap.size+1]?=_:=(hA.bl _ hlt_xb (fun q hq=>by match q,hq with | 0,_=>exact (by show w.heap.size+2≠w.heap.size+1;omega) | 1,_=>exact (by show w.heap.size+3≠w.heap.size+1;omega))).trans HB_xb.out;have q0:=cell_at (v:=.bool false) hBq 0 rfl;have q1:=cell_at (v:=.slice po pl pc) hBq 1 rfl;clear hBq;clear hA;refine⟨(by rfl),?_⟩;go_simp<;>(try with_reducible rfl)
  refine Rely.Chain.det ?_ (by rfl) (fun T xs wr hA=>?_) ?_
  rotate_left 1
  ·have e8:=hA.pre 8 (by kernel_rfl);simp only[gsa,gsc,gsz] at e8;clear hA;refine⟨(by rfl),?_⟩;go_simp<;>(try with_reducible rfl)
  refine Rely.Chain.call (fun _ v w=>CI w v (sg false (m % n)) k2) (fun _ _ _ _ h hb=>h.below hb) (fun _ _ _ _ _ h hp=>h.keeps hp.keeps) (by rfl) (fun T xs wr hA=>?_) ?_
  ·have e51:=hA.tm 8 51 (by rfl) (by rfl);have f51:xs 8=_:=hA.fa 8 (by rfl)
   (try simp (disch:=rfl) only [Rely.mask_in] at f51)
   rw[f51] at e51;clear f51;have e52:=hA.tm 9 52 (by rfl) (by rfl);have f52:xs 9=_:=hA.fa 9 (by rfl)
   (try simp (disch:=rfl) only [Rely.mask_in] at f52)
   rw[f52] at e52;clear f52;have hkp:=undrewK hA.kp;have hbt':=hbt.trans (undrew (hA.be w.heap.size hszb (fun q hq=>by match q,hq with | 0,_=>exact (by show w.heap.size<=w.heap.size+2;omega) | 1,_=>exact (by show w.heap.size<=w.heap.size+3;omega))));have sr:=sr.keeps hkp;clear hA;refine⟨(by rfl),fun K hK=>?_⟩;go_simp
   refine (signed_any false (.slice ro _ rc) (m % n) k2 _ sr hrn).mono ?_;rintro e wq ⟨v,rfl,c,hb⟩;exact hK.out _ _ c hb
  refine Rely.Chain.storeOld 0 6 26 (by rfl) (by rfl) (by decide) (Rely.own_one (by rfl)) (fun T xs wr hA hB0=>?_) ?_
  ·have e4:=hA.pre 4 (by kernel_rfl);simp only[gsa,gsc,gsz] at e4;have hB:wr.heap[w.heap.size+2]?=_:=hB0.trans HB_q.out;clear hB0;have e49:=hA.tm 6 49 (by rfl) (by rfl);have hc:CI wr (xs 6) (sg true (m / n)) (k1+3):=hA.fa 6 (by rfl);obtain⟨b_h,o_h,l_h,k_h,hv⟩:=hc.shape;clear hc;rw[hv] at e49;have z0:=cell_at hB 0 rfl;have z1:=cell_at hB 1 rfl;have fz0:=froz_at hB 0;have fz1:=froz_at hB 1;clear hA;refine⟨(by rfl),fun K hK=>?_⟩;go_simp
   exact hK.out _ _ hv (hset2 hB _ _) (priv2 hB (by rfl) (by rfl))
  refine Rely.Chain.storeOld 1 10 26 (by rfl) (by rfl) (by decide) (Rely.own_one (by rfl)) (fun T xs wr hA hB0=>?_) ?_
  ·have e5:=hA.pre 5 (by kernel_rfl);simp only[gsa,gsc,gsz] at e5;have hB:wr.heap[w.heap.size+3]?=_:=hB0.trans HB_r.out;clear hB0;have e53:=hA.tm 10 53 (by rfl) (by rfl);have hc:CI wr (xs 10) (sg false (m % n)) k2:=hA.fa 10 (by rfl);obtain⟨b_h,o_h,l_h,k_h,hv⟩:=hc.shape;clear hc;rw[hv] at e53;have z0:=cell_at hB 0 rfl;have z1:=cell_at hB 1 rfl;have fz0:=froz_at hB 0;have fz1:=froz_at hB 1;clear hA;refine⟨(by rfl),fun K hK=>?_⟩;go_simp
   exact hK.out _ _ hv (hset2 hB _ _) (priv2 hB (by rfl) (by rfl))
  refine Rely.Chain.det ?_ (by rfl) (fun T xs wr hA=>?_) ?_
  rotate_left 1
  ·clear hA;refine⟨(by rfl),?_⟩;go_simp<;>(try with_reducible rfl)
  refine Rely.Chain.done (fun xs wx3 hL=>?_);obtain⟨⟨hbe,hbl,hkp0⟩,hf,hp,hn⟩:=hL;have f0:xs 0=_:=hf 0 (by decide)
  (try simp (disch:=rfl) only [Rely.mask_in] at f0)
  have f1:xs 1=_:=hf 1 (by decide)
  (try simp (disch:=rfl) only [Rely.mask_in] at f1)
  have f2:xs 2=_:=hf 2 (by decide)
  (try simp (disch:=rfl) only [Rely.mask_in] at f2)
  have f3:xs 3=_:=hf 3 (by decide)
  (try simp (disch:=rfl) only [Rely.mask_in] at f3)
  have f4:xs 4=_:=hf 4 (by decide)
  (try simp (disch:=rfl) only [Rely.mask_in] at f4)
  have f5:xs 5=_:=hf 5 (by decide)
  (try simp (disch:=rfl) only [Rely.mask_in] at f5)
  have c_q2:CI wx3 (xs 6) (sg true (m / n)) (k1+3):=hf 6 (by decide);have f7:xs 7=_:=hf 7 (by decide)
  (try simp (disch:=rfl) only [Rely.mask_in] at f7)
  have f8:xs 8=_:=hf 8 (by decide)
  (try simp (disch:=rfl) only [Rely.mask_in] at f8)
  have f9:xs 9=_:=hf 9 (by decide)
  (try simp (disch:=rfl) only [Rely.mask_in] at f9)
  have c_r2:CI wx3 (xs 10) (sg false (m % n)) k2:=hf 10 (by decide);obtain⟨cc,hv,hB_q⟩:=hf 11 (by decide);change xs 6=_ at hv;obtain⟨b_q2,o_q2,l_q2,k_q2,hs_q2⟩:=c_q2.shape;rw[hs_q2] at hv;injection hv with hv;subst hv;obtain⟨cc,hv,hB_r⟩:=hf 12 (by decide);change xs 10=_ at hv;obtain⟨b_r2,o_r2,l_r2,k_r2,hs_r2⟩:=c_r2.shape;rw[hs_r2] at hv;injection hv with hv;subst hv;have f13:xs 13=_:=hf 13 (by decide)
  (try simp (disch:=rfl) only [Rely.mask_in] at f13)
  clear hf hp hn;refine Rely.rest_done ?_;rw[hs_q2] at c_q2;rw[hs_r2] at c_r2;simp only[Rely.fill,List.setIfInBounds_toArray,List.set_cons_zero,List.set_cons_succ,f0,f1,f2,f3,f4,f5,f7,f8,f9,f13,hs_q2,hs_r2];clear f0 f1 f2 f3 f4 f5 f7 f8 f9 f13 hs_q2 hs_r2;clear xs;replace hkp0:=undrewK hkp0;replace hg:=hg.keeps hkp0;replace hg2:=hg2.keeps hkp0;replace sq:=sq.keeps hkp0;replace sr:=sr.keeps hkp0;replace hbt:=hbt.trans (undrew (hbe w.heap.size hszb (fun q hq=>by match q,hq with | 0,_=>exact (by show w.heap.size<=w.heap.size+2;omega) | 1,_=>exact (by show w.heap.size<=w.heap.size+3;omega))));replace HB_xa:=Lib.hid ((hbl _ hlt_xa (fun q hq=>by match q,hq with | 0,_=>exact (by show w.heap.size+2≠w.heap.size;omega) | 1,_=>exact (by show w.heap.size+3≠w.heap.size;omega))).trans HB_xa.out)
  replace HB_xb:=Lib.hid ((hbl _ hlt_xb (fun q hq=>by match q,hq with | 0,_=>exact (by show w.heap.size+2≠w.heap.size+1;omega) | 1,_=>exact (by show w.heap.size+3≠w.heap.size+1;omega))).trans HB_xb.out);replace HB_q:=Lib.hid (show wx3.heap[w.heap.size+2]?=some (.cells #[.bool b_q2,.slice o_q2 l_q2 k_q2] 26 (0,0)) from hB_q);clear hB_q;replace HB_r:=Lib.hid (show wx3.heap[w.heap.size+3]?=some (.cells #[.bool b_r2,.slice o_r2 l_r2 k_r2] 26 (0,0)) from hB_r);clear hB_r;clear hkp0 hbe hbl hszb;replace xa0:=cell_at (v:=.bool true) HB_xa.out 0 rfl;replace xa1:=cell_at (v:=.slice ao l c) HB_xa.out 1 rfl;replace xb0:=cell_at (v:=.bool false) HB_xb.out 0 rfl;replace xb1:=cell_at (v:=.slice po pl pc) HB_xb.out 1 rfl;replace q0:=cell_at (v:=.bool b_q2) HB_q.out 0 rfl;replace q1:=cell_at (v:=.slice o_q2 l_q2 k_q2) HB_q.out 1 rfl
  replace r0:=cell_at (v:=.bool b_r2) HB_r.out 0 rfl;replace r1:=cell_at (v:=.slice o_r2 l_r2 k_r2) HB_r.out 1 rfl;clear hlt_xa hlt_xb hlt_q hlt_r;go_wp2_with fail
  exact bodyPost_ret (v:=.tuple #[.agg #[.bool b_q2,.slice o_q2 l_q2 k_q2],.agg #[.bool b_r2,.slice o_r2 l_r2 k_r2],.bool true]) (by simp[results,Try.results43,go_sem,q0,q1,r0,r1]) rfl ⟨_,_,rfl,c_q2,c_r2,hbt⟩
 obtain rfl:s=false:=hs;clear h;have hbt:=Below.refl w.heap.size w;go_enter Try.func43,Try.ntmps43
 go_wp2_with fail
 have hbx:Below w.heap.size w ((((w.alloc (.cells #[.bool true,.slice ao l c] 26)).alloc (.cells #[.bool true,.slice po pl pc] 26)).alloc (.cells #[.bool false,.slice none 0 0] 26)).alloc (.cells #[.bool false,.slice none 0 0] 26)):=(((((Below.refl _ _).alloc (by simp) _).alloc (by simp) _).alloc (by simp;omega) _).alloc (by simp;omega) _)
 replace hg:=hg.below hbx;replace hg2:=hg2.below hbx;replace hbt:=hbt.trans (hbx.mono hbt.size);clear hbx;have HB_xa:Hid (((((w.alloc (.cells #[.bool true,.slice ao l c] 26)).alloc (.cells #[.bool true,.slice po pl pc] 26)).alloc (.cells #[.bool false,.slice none 0 0] 26)).alloc (.cells #[.bool false,.slice none 0 0] 26)).heap[w.heap.size]?=some (.cells #[.bool true,.slice ao l c] 26 (0,0))):=Lib.hid (made_more (made_more (made_more (made_at w (.cells #[.bool true,.slice ao l c] 26) _ (by first | rfl | simp)) _) _) _)
 have HB_xb:Hid (((((w.alloc (.cells #[.bool true,.slice ao l c] 26)).alloc (.cells #[.bool true,.slice po pl pc] 26)).alloc (.cells #[.bool false,.slice none 0 0] 26)).alloc (.cells #[.bool false,.slice none 0 0] 26)).heap[w.heap.size+1]?=some (.cells #[.bool true,.slice po pl pc] 26 (0,0))):=Lib.hid (made_more (made_more (made_at (w.alloc (.cells #[.bool true,.slice ao l c] 26)) (.cells #[.bool true,.slice po pl pc] 26) _ (by first | rfl | simp)) _) _)
 have HB_q:Hid (((((w.alloc (.cells #[.bool true,.slice ao l c] 26)).alloc (.cells #[.bool true,.slice po pl pc] 26)).alloc (.cells #[.bool false,.slice none 0 0] 26)).alloc (.cells #[.bool false,.slice none 0 0] 26)).heap[w.heap.size+2]?=some (.cells #[.bool false,.slice none 0 0] 26 (0,0))):=Lib.hid (made_more (made_at ((w.alloc (.cells #[.bool true,.slice ao l c] 26)).alloc (.cells #[.bool true,.slice po pl pc] 26)) (.cells #[.bool false,.slice none 0 0] 26) _ (by first | rfl | simp)) _)
 have HB_r:Hid (((((w.alloc (.cells #[.bool true,.slice ao l c] 26)).alloc (.cells #[.bool true,.slice po pl pc] 26)).alloc (.cells #[.bool false,.slice none 0 0] 26)).alloc (.cells #[.bool false,.slice none 0 0] 26)).heap[w.heap.size+3]?=some (.cells #[.bool false,.slice none 0 0] 26 (0,0))):=Lib.hid (made_at (((w.alloc (.cells #[.bool true,.slice ao l c] 26)).alloc (.cells #[.bool true,.slice po pl pc] 26)).alloc (.cells #[.bool false,.slice none 0 0] 26)) (.cells #[.bool false,.slice none 0 0] 26) _ (by first | rfl | simp));generalize ((((w.alloc (.cells #[.bool true,.slice ao l c] 26)).alloc (.cells #[.bool true,.slice po pl pc] 26)).alloc (.cells #[.bool false,.slice none 0 0] 26)).alloc (.cells #[.bool false,.slice none 0 0] 26))=wx1 at *;have xa0:=cell_at (v:=.bool true) HB_xa.out 0 rfl;have xa1:=cell_at (v:=.slice ao l c) HB_xa.out 1 rfl
 have xb0:=cell_at (v:=.bool true) HB_xb.out 0 rfl;have xb1:=cell_at (v:=.slice po pl pc) HB_xb.out 1 rfl;have q0:=cell_at (v:=.bool false) HB_q.out 0 rfl;have q1:=cell_at (v:=.slice none 0 0) HB_q.out 1 rfl;have r0:=cell_at (v:=.bool false) HB_r.out 0 rfl;have r1:=cell_at (v:=.slice none 0 0) HB_r.out 1 rfl;refine (div_d hg hg2 h1 h0).mono ?_;rintro e wx2 ⟨vq,vr,rfl,sq,sr,hbx⟩;replace hg:=hg.below hbx;replace hg2:=hg2.below hbx;replace hbt:=hbt.trans (hbx.mono hbt.size);replace HB_xa:=Lib.hid ((hbx.block _ (lt_of_block HB_xa.out)).trans HB_xa.out);replace HB_xb:=Lib.hid ((hbx.block _ (lt_of_block HB_xb.out)).trans HB_xb.out);replace HB_q:=Lib.hid ((hbx.block _ (lt_of_block HB_q.out)).trans HB_q.out);replace HB_r:=Lib.hid ((hbx.block _ (lt_of_block HB_r.out)).trans HB_r.out);clear hbx;replace xa0:=cell_at (v:=.bool true) HB_xa.out 0 rfl
 replace xa1:=cell_at (v:=.slice ao l c) HB_xa.out 1 rfl;replace xb0:=cell_at (v:=.bool true) HB_xb.out 0 rfl;replace xb1:=cell_at (v:=.slice po pl pc) HB_xb.out 1 rfl;replace q0:=cell_at (v:=.bool false) HB_q.out 0 rfl;replace q1:=cell_at (v:=.slice none 0 0) HB_q.out 1 rfl;replace r0:=cell_at (v:=.bool false) HB_r.out 0 rfl;replace r1:=cell_at (v:=.slice none 0 0) HB_r.out 1 rfl;obtain⟨qo,qc,rfl⟩:=sl_shape sq;obtain⟨ro,rc,rfl⟩:=sl_shape sr;go_wp2_with fail
 have hlt_xa:=lt_of_block HB_xa.out;have hlt_xb:=lt_of_block HB_xb.out;have hlt_q:=lt_of_block HB_q.out;have hlt_r:=lt_of_block HB_r.out;have hszb:=hbt.size
 refine Rely.region (by kernel_rfl) [[],[0],[],[2],[0,1,2,3],[],[0,1,2,3,4,5],[],[7],[],[0,1,2,3,4,5,6,7,8,9],[0,1,2,3,4,5,6,7,8,9,10],[0,1,2,3,4,5,6,7,8,9,10,11],[0,1,2,3,4,5,6,7,8,9,10,11,12]] [] [(11,1000),(12,1001)] (fun q=>[w.heap.size+2,w.heap.size+3].getD q 0) 2 14 (by kernel_rfl) (by kernel_rfl) (fun q hq=>by match q,hq with | 0,_=>exact hlt_q | 1,_=>exact hlt_r) (fun q r hq hr hne=>by match q,r,hq,hr,hne with | 0,0,_,_,h=>exact absurd rfl h | 0,1,_,_,h=>exact (by show w.heap.size+2≠w.heap.size+3;omega) | 1,0,_,_,h=>exact (by show w.heap.size+3≠w.heap.size+2;omega) | 1,1,_,_,h=>exact absurd rfl h) ?_;refine Rely.Chain.det ?_ (by rfl) (fun T xs wr hA=>?_) ?_
 rotate_left 1
 ·have e2:=hA.pre 2 (by kernel_rfl);simp only[gsa,gsc,gsz] at e2;clear hA;refine⟨(by rfl),?_⟩;go_simp<;>(try with_reducible rfl)
 refine Rely.Chain.det ?_ (by rfl) (fun T xs wr hA=>?_) ?_
 rotate_left 1
 ·have e43:=hA.tm 0 43 (by rfl) (by rfl);have f43:xs 0=_:=hA.fa 0 (by rfl)
  (try simp (disch:=rfl) only [Rely.mask_in] at f43)
  rw[f43] at e43;clear f43;have hBq:wr.heap[w.heap.size]?=_:=(hA.bl _ hlt_xa (fun q hq=>by match q,hq with | 0,_=>exact (by show w.heap.size+2≠w.heap.size;omega) | 1,_=>exact (by show w.heap.size+3≠w.heap.size;omega))).trans HB_xa.out;have q0:=cell_at (v:=.bool true) hBq 0 rfl;have q1:=cell_at (v:=.slice ao l c) hBq 1 rfl;clear hBq;clear hA;refine⟨(by rfl),?_⟩;go_simp<;>(try with_reducible rfl)
 refine Rely.Chain.det ?_ (by rfl) (fun T xs wr hA=>?_) ?_
 rotate_left 1
 ·have e3:=hA.pre 3 (by kernel_rfl);simp only[gsa,gsc,gsz] at e3;clear hA;refine⟨(by rfl),?_⟩;go_simp<;>(try with_reducible rfl)
 refine Rely.Chain.det ?_ (by rfl) (fun T xs wr hA=>?_) ?_
 rotate_left 1
 ·have e45:=hA.tm 2 45 (by rfl) (by rfl);have f45:xs 2=_:=hA.fa 2 (by rfl)
  (try simp (disch:=rfl) only [Rely.mask_in] at f45)
  rw[f45] at e45;clear f45;have hBq:wr.heap[w.heap.size+1]?=_:=(hA.bl _ hlt_xb (fun q hq=>by match q,hq with | 0,_=>exact (by show w.heap.size+2≠w.heap.size+1;omega) | 1,_=>exact (by show w.heap.size+3≠w.heap.size+1;omega))).trans HB_xb.out;have q0:=cell_at (v:=.bool true) hBq 0 rfl;have q1:=cell_at (v:=.slice po pl pc) hBq 1 rfl;clear hBq;clear hA;refine⟨(by rfl),?_⟩;go_simp<;>(try with_reducible rfl)
 refine Rely.Chain.det ?_ (by rfl) (fun T xs wr hA=>?_) ?_
 rotate_left 1
 ·have e44:=hA.tm 1 44 (by rfl) (by rfl);have f44:xs 1=_:=hA.fa 1 (by rfl)
  (try simp (disch:=rfl) only [Rely.mask_in] at f44)
  rw[f44] at e44;clear f44;have e46:=hA.tm 3 46 (by rfl) (by rfl);have f46:xs 3=_:=hA.fa 3 (by rfl)
  (try simp (disch:=rfl) only [Rely.mask_in] at f46)
  rw[f46] at e46;clear f46;clear hA;refine⟨(by rfl),?_⟩;go_simp<;>(try with_reducible rfl)
 refine Rely.Chain.det ?_ (by rfl) (fun T xs wr hA=>?_) ?_
 rotate_left 1
 ·have e7:=hA.pre 7 (by kernel_rfl);simp only[gsa,gsc,gsz] at e7;clear hA;refine⟨(by rfl),?_⟩;go_simp<;>(try with_reducible rfl)
 refine Rely.Chain.call (fun _ v w=>CI w v (sg false (m / n)) (k1+3)) (fun _ _ _ _ h hb=>h.below hb) (fun _ _ _ _ _ h hp=>h.keeps hp.keeps) (by rfl) (fun T xs wr hA=>?_) ?_
 ·have e47:=hA.tm 4 47 (by rfl) (by rfl);have f47:xs 4=_:=hA.fa 4 (by rfl)
  (try simp (disch:=rfl) only [Rely.mask_in] at f47)
  rw[f47] at e47;clear f47;have e48:=hA.tm 5 48 (by rfl) (by rfl);have f48:xs 5=_:=hA.fa 5 (by rfl)
  (try simp (disch:=rfl) only [Rely.mask_in] at f48)
  rw[f48] at e48;clear f48;have hkp:=undrewK hA.kp;have hbt':=hbt.trans (undrew (hA.be w.heap.size hszb (fun q hq=>by match q,hq with | 0,_=>exact (by show w.heap.size<=w.heap.size+2;omega) | 1,_=>exact (by show w.heap.size<=w.heap.size+3;omega))));have sq:=sq.keeps hkp;clear hA;refine⟨(by rfl),fun K hK=>?_⟩;go_simp
  refine (signed_any false (.slice qo _ qc) (m / n) (k1+3) _ sq hqn).mono ?_;rintro e wq ⟨v,rfl,c,hb⟩;exact hK.out _ _ c hb
 refine Rely.Chain.det ?_ (by rfl) (fun T xs wr hA=>?_) ?_
 rotate_left 1
 ·have e3:=hA.pre 3 (by kernel_rfl);simp only[gsa,gsc,gsz] at e3;clear hA;refine⟨(by rfl),?_⟩;go_simp<;>(try with_reducible rfl)
 refine Rely.Chain.det ?_ (by rfl) (fun T xs wr hA=>?_) ?_
 rotate_left 1
 ·have e50:=hA.tm 7 50 (by rfl) (by rfl);have f50:xs 7=_:=hA.fa 7 (by rfl)
  (try simp (disch:=rfl) only [Rely.mask_in] at f50)
  rw[f50] at e50;clear f50;have hBq:wr.heap[w.heap.size+1]?=_:=(hA.bl _ hlt_xb (fun q hq=>by match q,hq with | 0,_=>exact (by show w.heap.size+2≠w.heap.size+1;omega) | 1,_=>exact (by show w.heap.size+3≠w.heap.size+1;omega))).trans HB_xb.out;have q0:=cell_at (v:=.bool true) hBq 0 rfl;have q1:=cell_at (v:=.slice po pl pc) hBq 1 rfl;clear hBq;clear hA;refine⟨(by rfl),?_⟩;go_simp<;>(try with_reducible rfl)
 refine Rely.Chain.det ?_ (by rfl) (fun T xs wr hA=>?_) ?_
 rotate_left 1
 ·have e8:=hA.pre 8 (by kernel_rfl);simp only[gsa,gsc,gsz] at e8;clear hA;refine⟨(by rfl),?_⟩;go_simp<;>(try with_reducible rfl)
 refine Rely.Chain.call (fun _ v w=>CI w v (sg true (m % n)) k2) (fun _ _ _ _ h hb=>h.below hb) (fun _ _ _ _ _ h hp=>h.keeps hp.keeps) (by rfl) (fun T xs wr hA=>?_) ?_
 ·have e51:=hA.tm 8 51 (by rfl) (by rfl);have f51:xs 8=_:=hA.fa 8 (by rfl)
  (try simp (disch:=rfl) only [Rely.mask_in] at f51)
  rw[f51] at e51;clear f51;have e52:=hA.tm 9 52 (by rfl) (by rfl);have f52:xs 9=_:=hA.fa 9 (by rfl)
  (try simp (disch:=rfl) only [Rely.mask_in] at f52)
  rw[f52] at e52;clear f52;have hkp:=undrewK hA.kp;have hbt':=hbt.trans (undrew (hA.be w.heap.size hszb (fun q hq=>by match q,hq with | 0,_=>exact (by show w.heap.size<=w.heap.size+2;omega) | 1,_=>exact (by show w.heap.size<=w.heap.size+3;omega))));have sr:=sr.keeps hkp;clear hA;refine⟨(by rfl),fun K hK=>?_⟩;go_simp
  refine (signed_any true (.slice ro _ rc) (m % n) k2 _ sr hrn).mono ?_;rintro e wq ⟨v,rfl,c,hb⟩;exact hK.out _ _ c hb
 refine Rely.Chain.storeOld 0 6 26 (by rfl) (by rfl) (by decide) (Rely.own_one (by rfl)) (fun T xs wr hA hB0=>?_) ?_
 ·have e4:=hA.pre 4 (by kernel_rfl);simp only[gsa,gsc,gsz] at e4;have hB:wr.heap[w.heap.size+2]?=_:=hB0.trans HB_q.out;clear hB0;have e49:=hA.tm 6 49 (by rfl) (by rfl);have hc:CI wr (xs 6) (sg false (m / n)) (k1+3):=hA.fa 6 (by rfl);obtain⟨b_h,o_h,l_h,k_h,hv⟩:=hc.shape;clear hc;rw[hv] at e49;have z0:=cell_at hB 0 rfl;have z1:=cell_at hB 1 rfl;have fz0:=froz_at hB 0;have fz1:=froz_at hB 1;clear hA;refine⟨(by rfl),fun K hK=>?_⟩;go_simp
  exact hK.out _ _ hv (hset2 hB _ _) (priv2 hB (by rfl) (by rfl))
 refine Rely.Chain.storeOld 1 10 26 (by rfl) (by rfl) (by decide) (Rely.own_one (by rfl)) (fun T xs wr hA hB0=>?_) ?_
 ·have e5:=hA.pre 5 (by kernel_rfl);simp only[gsa,gsc,gsz] at e5;have hB:wr.heap[w.heap.size+3]?=_:=hB0.trans HB_r.out;clear hB0;have e53:=hA.tm 10 53 (by rfl) (by rfl);have hc:CI wr (xs 10) (sg true (m % n)) k2:=hA.fa 10 (by rfl);obtain⟨b_h,o_h,l_h,k_h,hv⟩:=hc.shape;clear hc;rw[hv] at e53;have z0:=cell_at hB 0 rfl;have z1:=cell_at hB 1 rfl;have fz0:=froz_at hB 0;have fz1:=froz_at hB 1;clear hA;refine⟨(by rfl),fun K hK=>?_⟩;go_simp
  exact hK.out _ _ hv (hset2 hB _ _) (priv2 hB (by rfl) (by rfl))
 refine Rely.Chain.det ?_ (by rfl) (fun T xs wr hA=>?_) ?_
 rotate_left 1
 ·clear hA;refine⟨(by rfl),?_⟩;go_simp<;>(try with_reducible rfl)
 refine Rely.Chain.done (fun xs wx3 hL=>?_);obtain⟨⟨hbe,hbl,hkp0⟩,hf,hp,hn⟩:=hL;have f0:xs 0=_:=hf 0 (by decide)
 (try simp (disch:=rfl) only [Rely.mask_in] at f0)
 have f1:xs 1=_:=hf 1 (by decide)
 (try simp (disch:=rfl) only [Rely.mask_in] at f1)
 have f2:xs 2=_:=hf 2 (by decide)
 (try simp (disch:=rfl) only [Rely.mask_in] at f2)
 have f3:xs 3=_:=hf 3 (by decide)
 (try simp (disch:=rfl) only [Rely.mask_in] at f3)
 have f4:xs 4=_:=hf 4 (by decide)
 (try simp (disch:=rfl) only [Rely.mask_in] at f4)
 have f5:xs 5=_:=hf 5 (by decide)
 (try simp (disch:=rfl) only [Rely.mask_in] at f5)
 have c_q2:CI wx3 (xs 6) (sg false (m / n)) (k1+3):=hf 6 (by decide);have f7:xs 7=_:=hf 7 (by decide)
 (try simp (disch:=rfl) only [Rely.mask_in] at f7)
 have f8:xs 8=_:=hf 8 (by decide)
 (try simp (disch:=rfl) only [Rely.mask_in] at f8)
 have f9:xs 9=_:=hf 9 (by decide)
 (try simp (disch:=rfl) only [Rely.mask_in] at f9)
 have c_r2:CI wx3 (xs 10) (sg true (m % n)) k2:=hf 10 (by decide);obtain⟨cc,hv,hB_q⟩:=hf 11 (by decide);change xs 6=_ at hv;obtain⟨b_q2,o_q2,l_q2,k_q2,hs_q2⟩:=c_q2.shape;rw[hs_q2] at hv;injection hv with hv;subst hv;obtain⟨cc,hv,hB_r⟩:=hf 12 (by decide);change xs 10=_ at hv;obtain⟨b_r2,o_r2,l_r2,k_r2,hs_r2⟩:=c_r2.shape;rw[hs_r2] at hv;injection hv with hv;subst hv;have f13:xs 13=_:=hf 13 (by decide)
 (try simp (disch:=rfl) only [Rely.mask_in] at f13)
 clear hf hp hn;refine Rely.rest_done ?_;rw[hs_q2] at c_q2;rw[hs_r2] at c_r2;simp only[Rely.fill,List.setIfInBounds_toArray,List.set_cons_zero,List.set_cons_succ,f0,f1,f2,f3,f4,f5,f7,f8,f9,f13,hs_q2,hs_r2];clear f0 f1 f2 f3 f4 f5 f7 f8 f9 f13 hs_q2 hs_r2;clear xs;replace hkp0:=undrewK hkp0;replace hg:=hg.keeps hkp0;replace hg2:=hg2.keeps hkp0;replace sq:=sq.keeps hkp0;replace sr:=sr.keeps hkp0;replace hbt:=hbt.trans (undrew (hbe w.heap.size hszb (fun q hq=>by match q,hq with | 0,_=>exact (by show w.heap.size<=w.heap.size+2;omega) | 1,_=>exact (by show w.heap.size<=w.heap.size+3;omega))));replace HB_xa:=Lib.hid ((hbl _ hlt_xa (fun q hq=>by match q,hq with | 0,_=>exact (by show w.heap.size+2≠w.heap.size;omega) | 1,_=>exact (by show w.heap.size+3≠w.heap.size;omega))).trans HB_xa.out)
 replace HB_xb:=Lib.hid ((hbl _ hlt_xb (fun q hq=>by match q,hq with | 0,_=>exact (by show w.heap.size+2≠w.heap.size+1;omega) | 1,_=>exact (by show w.heap.size+3≠w.heap.size+1;omega))).trans HB_xb.out);replace HB_q:=Lib.hid (show wx3.heap[w.heap.size+2]?=some (.cells #[.bool b_q2,.slice o_q2 l_q2 k_q2] 26 (0,0)) from hB_q);clear hB_q;replace HB_r:=Lib.hid (show wx3.heap[w.heap.size+3]?=some (.cells #[.bool b_r2,.slice o_r2 l_r2 k_r2] 26 (0,0)) from hB_r);clear hB_r;clear hkp0 hbe hbl hszb;replace xa0:=cell_at (v:=.bool true) HB_xa.out 0 rfl;replace xa1:=cell_at (v:=.slice ao l c) HB_xa.out 1 rfl;replace xb0:=cell_at (v:=.bool true) HB_xb.out 0 rfl;replace xb1:=cell_at (v:=.slice po pl pc) HB_xb.out 1 rfl;replace q0:=cell_at (v:=.bool b_q2) HB_q.out 0 rfl;replace q1:=cell_at (v:=.slice o_q2 l_q2 k_q2) HB_q.out 1 rfl
 replace r0:=cell_at (v:=.bool b_r2) HB_r.out 0 rfl;replace r1:=cell_at (v:=.slice o_r2 l_r2 k_r2) HB_r.out 1 rfl;clear hlt_xa hlt_xb hlt_q hlt_r;go_wp2_with fail
 exact bodyPost_ret (v:=.tuple #[.agg #[.bool b_q2,.slice o_q2 l_q2 k_q2],.agg #[.bool b_r2,.slice o_r2 l_r2 k_r2],.bool true]) (by simp[results,Try.results43,go_sem,q0,q1,r0,r1]) rfl ⟨_,_,rfl,c_q2,c_r2,hbt⟩
theorem wdiv_adj (b d:Bool) (ao po:Option Addr) (l c pl pc m n k1 k2:Nat) (w:World) (hg:GN w (.slice ao l c) m k1) (hg2:GN w (.slice po pl pc) n k2) (h1:k1<=900000) (h2:k2<=900000) (h0:0<n) (h:b≠d) (hr:0<m % n) :
  Calls Try.prog 43 #[.agg #[.bool b,.slice ao l c],.agg #[.bool d,.slice po pl pc]] w fun e w'=>∃ q r,e=.returned (.tuple #[q,r,.bool true])/\CI w' q (sg true (m / n+1)) (k1+3)/\CI w' r (sg d (n - m % n)) k2/\Below w.heap.size w w':=by
 have hqn0:m / n<L32 ^ k1:=Nat.lt_of_le_of_lt (Nat.div_le_self _ _) hg.lt
 have hqn:m / n+1<L32 ^ (k1+3):=by
  have h3:1<L32 ^ 2:=by decide
  have:=pow_add_lt hqn0 h3;exact lt_pow_more this (by omega)
 have hrn0:m % n<L32 ^ k2:=Nat.lt_trans (Nat.mod_lt _ h0) hg2.lt;have hle:m % n<=n:=Nat.le_of_lt (Nat.mod_lt _ h0);have hrn:n - m % n<L32 ^ k2:=Nat.lt_of_le_of_lt (Nat.sub_le _ _) hg2.lt;have hl1:=dig_len_pos hr;have h2':k2<=1000000:=by omega
 cases b<;>cases d
 ·exact absurd rfl h
 rotate_left 2
 ·exact absurd rfl h
 all_goals clear h
 ·have hbt:=Below.refl w.heap.size w;go_enter Try.func43,Try.ntmps43
  go_wp2_with fail
  have hbx:Below w.heap.size w ((((w.alloc (.cells #[.bool false,.slice ao l c] 26)).alloc (.cells #[.bool true,.slice po pl pc] 26)).alloc (.cells #[.bool false,.slice none 0 0] 26)).alloc (.cells #[.bool false,.slice none 0 0] 26)):=(((((Below.refl _ _).alloc (by simp) _).alloc (by simp) _).alloc (by simp;omega) _).alloc (by simp;omega) _)
  replace hg:=hg.below hbx;replace hg2:=hg2.below hbx;replace hbt:=hbt.trans (hbx.mono hbt.size);clear hbx;have HB_xa:Hid (((((w.alloc (.cells #[.bool false,.slice ao l c] 26)).alloc (.cells #[.bool true,.slice po pl pc] 26)).alloc (.cells #[.bool false,.slice none 0 0] 26)).alloc (.cells #[.bool false,.slice none 0 0] 26)).heap[w.heap.size]?=some (.cells #[.bool false,.slice ao l c] 26 (0,0))):=Lib.hid (made_more (made_more (made_more (made_at w (.cells #[.bool false,.slice ao l c] 26) _ (by first | rfl | simp)) _) _) _)
  have HB_xb:Hid (((((w.alloc (.cells #[.bool false,.slice ao l c] 26)).alloc (.cells #[.bool true,.slice po pl pc] 26)).alloc (.cells #[.bool false,.slice none 0 0] 26)).alloc (.cells #[.bool false,.slice none 0 0] 26)).heap[w.heap.size+1]?=some (.cells #[.bool true,.slice po pl pc] 26 (0,0))):=Lib.hid (made_more (made_more (made_at (w.alloc (.cells #[.bool false,.slice ao l c] 26)) (.cells #[.bool true,.slice po pl pc] 26) _ (by first | rfl | simp)) _) _)
  have HB_q:Hid (((((w.alloc (.cells #[.bool false,.slice ao l c] 26)).alloc (.cells #[.bool true,.slice po pl pc] 26)).alloc (.cells #[.bool false,.slice none 0 0] 26)).alloc (.cells #[.bool false,.slice none 0 0] 26)).heap[w.heap.size+2]?=some (.cells #[.bool false,.slice none 0 0] 26 (0,0))):=Lib.hid (made_more (made_at ((w.alloc (.cells #[.bool false,.slice ao l c] 26)).alloc (.cells #[.bool true,.slice po pl pc] 26)) (.cells #[.bool false,.slice none 0 0] 26) _ (by first | rfl | simp)) _)
  have HB_r:Hid (((((w.alloc (.cells #[.bool false,.slice ao l c] 26)).alloc (.cells #[.bool true,.slice po pl pc] 26)).alloc (.cells #[.bool false,.slice none 0 0] 26)).alloc (.cells #[.bool false,.slice none 0 0] 26)).heap[w.heap.size+3]?=some (.cells #[.bool false,.slice none 0 0] 26 (0,0))):=Lib.hid (made_at (((w.alloc (.cells #[.bool false,.slice ao l c] 26)).alloc (.cells #[.bool true,.slice po pl pc] 26)).alloc (.cells #[.bool false,.slice none 0 0] 26)) (.cells #[.bool false,.slice none 0 0] 26) _ (by first | rfl | simp));generalize ((((w.alloc (.cells #[.bool false,.slice ao l c] 26)).alloc (.cells #[.bool true,.slice po pl pc] 26)).alloc (.cells #[.bool false,.slice none 0 0] 26)).alloc (.cells #[.bool false,.slice none 0 0] 26))=wx1 at *;have xa0:=cell_at (v:=.bool false) HB_xa.out 0 rfl;have xa1:=cell_at (v:=.slice ao l c) HB_xa.out 1 rfl
  have xb0:=cell_at (v:=.bool true) HB_xb.out 0 rfl;have xb1:=cell_at (v:=.slice po pl pc) HB_xb.out 1 rfl;have q0:=cell_at (v:=.bool false) HB_q.out 0 rfl;have q1:=cell_at (v:=.slice none 0 0) HB_q.out 1 rfl;have r0:=cell_at (v:=.bool false) HB_r.out 0 rfl;have r1:=cell_at (v:=.slice none 0 0) HB_r.out 1 rfl;refine (div_d hg hg2 h1 h0).mono ?_;rintro e wx2 ⟨vq,vr,rfl,sq,sr,hbx⟩;replace hg:=hg.below hbx;replace hg2:=hg2.below hbx;replace hbt:=hbt.trans (hbx.mono hbt.size);replace HB_xa:=Lib.hid ((hbx.block _ (lt_of_block HB_xa.out)).trans HB_xa.out);replace HB_xb:=Lib.hid ((hbx.block _ (lt_of_block HB_xb.out)).trans HB_xb.out);replace HB_q:=Lib.hid ((hbx.block _ (lt_of_block HB_q.out)).trans HB_q.out);replace HB_r:=Lib.hid ((hbx.block _ (lt_of_block HB_r.out)).trans HB_r.out);clear hbx;replace xa0:=cell_at (v:=.bool false) HB_xa.out 0 rfl
  replace xa1:=cell_at (v:=.slice ao l c) HB_xa.out 1 rfl;replace xb0:=cell_at (v:=.bool true) HB_xb.out 0 rfl;replace xb1:=cell_at (v:=.slice po pl pc) HB_xb.out 1 rfl;replace q0:=cell_at (v:=.bool false) HB_q.out 0 rfl;replace q1:=cell_at (v:=.slice none 0 0) HB_q.out 1 rfl;replace r0:=cell_at (v:=.bool false) HB_r.out 0 rfl;replace r1:=cell_at (v:=.slice none 0 0) HB_r.out 1 rfl;obtain⟨qo0,qc0,rfl⟩:=sl_shape sq;obtain⟨ro0,rc0,rfl⟩:=sl_shape sr;have gq:=gn_dig sq hqn0;have gr:=gn_dig sr hrn0;clear sq sr;go_wp2_with fail
  refine (of_n 1 _ _ rfl (by decide)).mono ?_;rintro e wx3 ⟨v7,rfl,g7,hbx⟩;replace hg:=hg.below hbx;replace hg2:=hg2.below hbx;replace gq:=gq.below hbx;replace gr:=gr.below hbx;replace hbt:=hbt.trans (hbx.mono hbt.size);replace HB_xa:=Lib.hid ((hbx.block _ (lt_of_block HB_xa.out)).trans HB_xa.out);replace HB_xb:=Lib.hid ((hbx.block _ (lt_of_block HB_xb.out)).trans HB_xb.out);replace HB_q:=Lib.hid ((hbx.block _ (lt_of_block HB_q.out)).trans HB_q.out);replace HB_r:=Lib.hid ((hbx.block _ (lt_of_block HB_r.out)).trans HB_r.out);clear hbx;replace xa0:=cell_at (v:=.bool false) HB_xa.out 0 rfl;replace xa1:=cell_at (v:=.slice ao l c) HB_xa.out 1 rfl;replace xb0:=cell_at (v:=.bool true) HB_xb.out 0 rfl;replace xb1:=cell_at (v:=.slice po pl pc) HB_xb.out 1 rfl;replace q0:=cell_at (v:=.bool false) HB_q.out 0 rfl
  replace q1:=cell_at (v:=.slice none 0 0) HB_q.out 1 rfl;replace r0:=cell_at (v:=.bool false) HB_r.out 0 rfl;replace r1:=cell_at (v:=.slice none 0 0) HB_r.out 1 rfl;go_wp2_with fail
  refine (add_d gq g7 (by omega) (by omega)).mono ?_;rintro e wx4 ⟨v8,rfl,sq,hbx⟩;replace hg:=hg.below hbx;replace hg2:=hg2.below hbx;replace gq:=gq.below hbx;replace gr:=gr.below hbx;replace g7:=g7.below hbx;replace hbt:=hbt.trans (hbx.mono hbt.size);replace HB_xa:=Lib.hid ((hbx.block _ (lt_of_block HB_xa.out)).trans HB_xa.out);replace HB_xb:=Lib.hid ((hbx.block _ (lt_of_block HB_xb.out)).trans HB_xb.out);replace HB_q:=Lib.hid ((hbx.block _ (lt_of_block HB_q.out)).trans HB_q.out);replace HB_r:=Lib.hid ((hbx.block _ (lt_of_block HB_r.out)).trans HB_r.out);clear hbx;replace xa0:=cell_at (v:=.bool false) HB_xa.out 0 rfl;replace xa1:=cell_at (v:=.slice ao l c) HB_xa.out 1 rfl;replace xb0:=cell_at (v:=.bool true) HB_xb.out 0 rfl;replace xb1:=cell_at (v:=.slice po pl pc) HB_xb.out 1 rfl;replace q0:=cell_at (v:=.bool false) HB_q.out 0 rfl
  replace q1:=cell_at (v:=.slice none 0 0) HB_q.out 1 rfl;replace r0:=cell_at (v:=.bool false) HB_r.out 0 rfl;replace r1:=cell_at (v:=.slice none 0 0) HB_r.out 1 rfl;obtain⟨qo,qc,rfl⟩:=sl_shape sq;go_wp2_with fail
  refine (sub_d hg2 gr h2' hle).mono ?_;rintro e wx5 ⟨v9,rfl,sr,hbx⟩;replace hg:=hg.below hbx;replace hg2:=hg2.below hbx;replace gq:=gq.below hbx;replace gr:=gr.below hbx;replace g7:=g7.below hbx;replace sq:=sq.below hbx;replace hbt:=hbt.trans (hbx.mono hbt.size);replace HB_xa:=Lib.hid ((hbx.block _ (lt_of_block HB_xa.out)).trans HB_xa.out);replace HB_xb:=Lib.hid ((hbx.block _ (lt_of_block HB_xb.out)).trans HB_xb.out);replace HB_q:=Lib.hid ((hbx.block _ (lt_of_block HB_q.out)).trans HB_q.out);replace HB_r:=Lib.hid ((hbx.block _ (lt_of_block HB_r.out)).trans HB_r.out);clear hbx;replace xa0:=cell_at (v:=.bool false) HB_xa.out 0 rfl;replace xa1:=cell_at (v:=.slice ao l c) HB_xa.out 1 rfl;replace xb0:=cell_at (v:=.bool true) HB_xb.out 0 rfl;replace xb1:=cell_at (v:=.slice po pl pc) HB_xb.out 1 rfl
  replace q0:=cell_at (v:=.bool false) HB_q.out 0 rfl;replace q1:=cell_at (v:=.slice none 0 0) HB_q.out 1 rfl;replace r0:=cell_at (v:=.bool false) HB_r.out 0 rfl;replace r1:=cell_at (v:=.slice none 0 0) HB_r.out 1 rfl;obtain⟨ro,rc,rfl⟩:=sl_shape sr;clear hl1 g7 gq gr;go_wp2_with fail
  have hlt_xa:=lt_of_block HB_xa.out;have hlt_xb:=lt_of_block HB_xb.out;have hlt_q:=lt_of_block HB_q.out;have hlt_r:=lt_of_block HB_r.out;have hszb:=hbt.size
  refine Rely.region (by kernel_rfl) [[],[0],[],[2],[0,1,2,3],[],[0,1,2,3,4,5],[],[7],[],[0,1,2,3,4,5,6,7,8,9],[0,1,2,3,4,5,6,7,8,9,10],[0,1,2,3,4,5,6,7,8,9,10,11],[0,1,2,3,4,5,6,7,8,9,10,11,12]] [] [(11,1000),(12,1001)] (fun q=>[w.heap.size+2,w.heap.size+3].getD q 0) 2 14 (by kernel_rfl) (by kernel_rfl) (fun q hq=>by match q,hq with | 0,_=>exact hlt_q | 1,_=>exact hlt_r) (fun q r hq hr hne=>by match q,r,hq,hr,hne with | 0,0,_,_,h=>exact absurd rfl h | 0,1,_,_,h=>exact (by show w.heap.size+2≠w.heap.size+3;omega) | 1,0,_,_,h=>exact (by show w.heap.size+3≠w.heap.size+2;omega) | 1,1,_,_,h=>exact absurd rfl h) ?_;refine Rely.Chain.det ?_ (by rfl) (fun T xs wr hA=>?_) ?_
  rotate_left 1
  ·have e2:=hA.pre 2 (by kernel_rfl);simp only[gsa,gsc,gsz] at e2;clear hA;refine⟨(by rfl),?_⟩;go_simp<;>(try with_reducible rfl)
  refine Rely.Chain.det ?_ (by rfl) (fun T xs wr hA=>?_) ?_
  rotate_left 1
  ·have e43:=hA.tm 0 43 (by rfl) (by rfl);have f43:xs 0=_:=hA.fa 0 (by rfl)
   (try simp (disch:=rfl) only [Rely.mask_in] at f43)
   rw[f43] at e43;clear f43;have hBq:wr.heap[w.heap.size]?=_:=(hA.bl _ hlt_xa (fun q hq=>by match q,hq with | 0,_=>exact (by show w.heap.size+2≠w.heap.size;omega) | 1,_=>exact (by show w.heap.size+3≠w.heap.size;omega))).trans HB_xa.out;have q0:=cell_at (v:=.bool false) hBq 0 rfl;have q1:=cell_at (v:=.slice ao l c) hBq 1 rfl;clear hBq;clear hA;refine⟨(by rfl),?_⟩;go_simp<;>(try with_reducible rfl)
  refine Rely.Chain.det ?_ (by rfl) (fun T xs wr hA=>?_) ?_
  rotate_left 1
  ·have e3:=hA.pre 3 (by kernel_rfl);simp only[gsa,gsc,gsz] at e3;clear hA;refine⟨(by rfl),?_⟩;go_simp<;>(try with_reducible rfl)
  refine Rely.Chain.det ?_ (by rfl) (fun T xs wr hA=>?_) ?_
  rotate_left 1
  ·have e45:=hA.tm 2 45 (by rfl) (by rfl);have f45:xs 2=_:=hA.fa 2 (by rfl)
   (try simp (disch:=rfl) only [Rely.mask_in] at f45)
   rw[f45] at e45;clear f45;have hBq:wr.heap[w.heap.size+1]?=_:=(hA.bl _ hlt_xb (fun q hq=>by match q,hq with | 0,_=>exact (by show w.heap.size+2≠w.heap.size+1;omega) | 1,_=>exact (by show w.heap.size+3≠w.heap.size+1;omega))).trans HB_xb.out;have q0:=cell_at (v:=.bool true) hBq 0 rfl;have q1:=cell_at (v:=.slice po pl pc) hBq 1 rfl;clear hBq;clear hA;refine⟨(by rfl),?_⟩;go_simp<;>(try with_reducible rfl)
  refine Rely.Chain.det ?_ (by rfl) (fun T xs wr hA=>?_) ?_
  rotate_left 1
  ·have e44:=hA.tm 1 44 (by rfl) (by rfl);have f44:xs 1=_:=hA.fa 1 (by rfl)
   (try simp (disch:=rfl) only [Rely.mask_in] at f44)
   rw[f44] at e44;clear f44;have e46:=hA.tm 3 46 (by rfl) (by rfl);have f46:xs 3=_:=hA.fa 3 (by rfl)
   (try simp (disch:=rfl) only [Rely.mask_in] at f46)
   rw[f46] at e46;clear f46;clear hA;refine⟨(by rfl),?_⟩;go_simp<;>(try with_reducible rfl)
  refine Rely.Chain.det ?_ (by rfl) (fun T xs wr hA=>?_) ?_
  rotate_left 1
  ·have e7:=hA.pre 7 (by kernel_rfl);simp only[gsa,gsc,gsz] at e7;clear hA;refine⟨(by rfl),?_⟩;go_simp<;>(try with_reducible rfl)
  refine Rely.Chain.call (fun _ v w=>CI w v (sg true (m / n+1)) (k1+3)) (fun _ _ _ _ h hb=>h.below hb) (fun _ _ _ _ _ h hp=>h.keeps hp.keeps) (by rfl) (fun T xs wr hA=>?_) ?_
  ·have e47:=hA.tm 4 47 (by rfl) (by rfl);have f47:xs 4=_:=hA.fa 4 (by rfl)
   (try simp (disch:=rfl) only [Rely.mask_in] at f47)
   rw[f47] at e47;clear f47;have e48:=hA.tm 5 48 (by rfl) (by rfl);have f48:xs 5=_:=hA.fa 5 (by rfl)
   (try simp (disch:=rfl) only [Rely.mask_in] at f48)
   rw[f48] at e48;clear f48;have hkp:=undrewK hA.kp;have hbt':=hbt.trans (undrew (hA.be w.heap.size hszb (fun q hq=>by match q,hq with | 0,_=>exact (by show w.heap.size<=w.heap.size+2;omega) | 1,_=>exact (by show w.heap.size<=w.heap.size+3;omega))));have sq:=sq.keeps hkp;clear hA;refine⟨(by rfl),fun K hK=>?_⟩;go_simp
   refine (signed_any true (.slice qo _ qc) (m / n+1) (k1+3) _ sq hqn).mono ?_;rintro e wq ⟨v,rfl,c,hb⟩;exact hK.out _ _ c hb
  refine Rely.Chain.det ?_ (by rfl) (fun T xs wr hA=>?_) ?_
  rotate_left 1
  ·have e3:=hA.pre 3 (by kernel_rfl);simp only[gsa,gsc,gsz] at e3;clear hA;refine⟨(by rfl),?_⟩;go_simp<;>(try with_reducible rfl)
  refine Rely.Chain.det ?_ (by rfl) (fun T xs wr hA=>?_) ?_
  rotate_left 1
  ·have e50:=hA.tm 7 50 (by rfl) (by rfl);have f50:xs 7=_:=hA.fa 7 (by rfl)
   (try simp (disch:=rfl) only [Rely.mask_in] at f50)
   rw[f50] at e50;clear f50;have hBq:wr.heap[w.heap.size+1]?=_:=(hA.bl _ hlt_xb (fun q hq=>by match q,hq with | 0,_=>exact (by show w.heap.size+2≠w.heap.size+1;omega) | 1,_=>exact (by show w.heap.size+3≠w.heap.size+1;omega))).trans HB_xb.out;have q0:=cell_at (v:=.bool true) hBq 0 rfl;have q1:=cell_at (v:=.slice po pl pc) hBq 1 rfl;clear hBq;clear hA;refine⟨(by rfl),?_⟩;go_simp<;>(try with_reducible rfl)
  refine Rely.Chain.det ?_ (by rfl) (fun T xs wr hA=>?_) ?_
  rotate_left 1
  ·have e8:=hA.pre 8 (by kernel_rfl);simp only[gsa,gsc,gsz] at e8;clear hA;refine⟨(by rfl),?_⟩;go_simp<;>(try with_reducible rfl)
  refine Rely.Chain.call (fun _ v w=>CI w v (sg true (n - m % n)) k2) (fun _ _ _ _ h hb=>h.below hb) (fun _ _ _ _ _ h hp=>h.keeps hp.keeps) (by rfl) (fun T xs wr hA=>?_) ?_
  ·have e51:=hA.tm 8 51 (by rfl) (by rfl);have f51:xs 8=_:=hA.fa 8 (by rfl)
   (try simp (disch:=rfl) only [Rely.mask_in] at f51)
   rw[f51] at e51;clear f51;have e52:=hA.tm 9 52 (by rfl) (by rfl);have f52:xs 9=_:=hA.fa 9 (by rfl)
   (try simp (disch:=rfl) only [Rely.mask_in] at f52)
   rw[f52] at e52;clear f52;have hkp:=undrewK hA.kp;have hbt':=hbt.trans (undrew (hA.be w.heap.size hszb (fun q hq=>by match q,hq with | 0,_=>exact (by show w.heap.size<=w.heap.size+2;omega) | 1,_=>exact (by show w.heap.size<=w.heap.size+3;omega))));have sr:=sr.keeps hkp;clear hA;refine⟨(by rfl),fun K hK=>?_⟩;go_simp
   refine (signed_any true (.slice ro _ rc) (n - m % n) k2 _ sr hrn).mono ?_;rintro e wq ⟨v,rfl,c,hb⟩;exact hK.out _ _ c hb
  refine Rely.Chain.storeOld 0 6 26 (by rfl) (by rfl) (by decide) (Rely.own_one (by rfl)) (fun T xs wr hA hB0=>?_) ?_
  ·have e4:=hA.pre 4 (by kernel_rfl);simp only[gsa,gsc,gsz] at e4;have hB:wr.heap[w.heap.size+2]?=_:=hB0.trans HB_q.out;clear hB0;have e49:=hA.tm 6 49 (by rfl) (by rfl);have hc:CI wr (xs 6) (sg true (m / n+1)) (k1+3):=hA.fa 6 (by rfl);obtain⟨b_h,o_h,l_h,k_h,hv⟩:=hc.shape;clear hc;rw[hv] at e49;have z0:=cell_at hB 0 rfl;have z1:=cell_at hB 1 rfl;have fz0:=froz_at hB 0;have fz1:=froz_at hB 1;clear hA;refine⟨(by rfl),fun K hK=>?_⟩;go_simp
   exact hK.out _ _ hv (hset2 hB _ _) (priv2 hB (by rfl) (by rfl))
  refine Rely.Chain.storeOld 1 10 26 (by rfl) (by rfl) (by decide) (Rely.own_one (by rfl)) (fun T xs wr hA hB0=>?_) ?_
  ·have e5:=hA.pre 5 (by kernel_rfl);simp only[gsa,gsc,gsz] at e5;have hB:wr.heap[w.heap.size+3]?=_:=hB0.trans HB_r.out;clear hB0;have e53:=hA.tm 10 53 (by rfl) (by rfl);have hc:CI wr (xs 10) (sg true (n - m % n)) k2:=hA.fa 10 (by rfl);obtain⟨b_h,o_h,l_h,k_h,hv⟩:=hc.shape;clear hc;rw[hv] at e53;have z0:=cell_at hB 0 rfl;have z1:=cell_at hB 1 rfl;have fz0:=froz_at hB 0;have fz1:=froz_at hB 1;clear hA;refine⟨(by rfl),fun K hK=>?_⟩;go_simp
   exact hK.out _ _ hv (hset2 hB _ _) (priv2 hB (by rfl) (by rfl))
  refine Rely.Chain.det ?_ (by rfl) (fun T xs wr hA=>?_) ?_
  rotate_left 1
  ·clear hA;refine⟨(by rfl),?_⟩;go_simp<;>(try with_reducible rfl)
  refine Rely.Chain.done (fun xs wx6 hL=>?_);obtain⟨⟨hbe,hbl,hkp0⟩,hf,hp,hn⟩:=hL;have f0:xs 0=_:=hf 0 (by decide)
  (try simp (disch:=rfl) only [Rely.mask_in] at f0)
  have f1:xs 1=_:=hf 1 (by decide)
  (try simp (disch:=rfl) only [Rely.mask_in] at f1)
  have f2:xs 2=_:=hf 2 (by decide)
  (try simp (disch:=rfl) only [Rely.mask_in] at f2)
  have f3:xs 3=_:=hf 3 (by decide)
  (try simp (disch:=rfl) only [Rely.mask_in] at f3)
  have f4:xs 4=_:=hf 4 (by decide)
  (try simp (disch:=rfl) only [Rely.mask_in] at f4)
  have f5:xs 5=_:=hf 5 (by decide)
  (try simp (disch:=rfl) only [Rely.mask_in] at f5)
  have c_q2:CI wx6 (xs 6) (sg true (m / n+1)) (k1+3):=hf 6 (by decide);have f7:xs 7=_:=hf 7 (by decide)
  (try simp (disch:=rfl) only [Rely.mask_in] at f7)
  have f8:xs 8=_:=hf 8 (by decide)
  (try simp (disch:=rfl) only [Rely.mask_in] at f8)
  have f9:xs 9=_:=hf 9 (by decide)
  (try simp (disch:=rfl) only [Rely.mask_in] at f9)
  have c_r2:CI wx6 (xs 10) (sg true (n - m % n)) k2:=hf 10 (by decide);obtain⟨cc,hv,hB_q⟩:=hf 11 (by decide);change xs 6=_ at hv;obtain⟨b_q2,o_q2,l_q2,k_q2,hs_q2⟩:=c_q2.shape;rw[hs_q2] at hv;injection hv with hv;subst hv;obtain⟨cc,hv,hB_r⟩:=hf 12 (by decide);change xs 10=_ at hv;obtain⟨b_r2,o_r2,l_r2,k_r2,hs_r2⟩:=c_r2.shape;rw[hs_r2] at hv;injection hv with hv;subst hv;have f13:xs 13=_:=hf 13 (by decide)
  (try simp (disch:=rfl) only [Rely.mask_in] at f13)
  clear hf hp hn;refine Rely.rest_done ?_;rw[hs_q2] at c_q2;rw[hs_r2] at c_r2;simp only[Rely.fill,List.setIfInBounds_toArray,List.set_cons_zero,List.set_cons_succ,f0,f1,f2,f3,f4,f5,f7,f8,f9,f13,hs_q2,hs_r2];clear f0 f1 f2 f3 f4 f5 f7 f8 f9 f13 hs_q2 hs_r2;clear xs;replace hkp0:=undrewK hkp0;replace hg:=hg.keeps hkp0;replace hg2:=hg2.keeps hkp0;replace sq:=sq.keeps hkp0;replace sr:=sr.keeps hkp0;replace hbt:=hbt.trans (undrew (hbe w.heap.size hszb (fun q hq=>by match q,hq with | 0,_=>exact (by show w.heap.size<=w.heap.size+2;omega) | 1,_=>exact (by show w.heap.size<=w.heap.size+3;omega))));replace HB_xa:=Lib.hid ((hbl _ hlt_xa (fun q hq=>by match q,hq with | 0,_=>exact (by show w.heap.size+2≠w.heap.size;omega) | 1,_=>exact (by show w.heap.size+3≠w.heap.size;omega))).trans HB_xa.out)
  replace HB_xb:=Lib.hid ((hbl _ hlt_xb (fun q hq=>by match q,hq with | 0,_=>exact (by show w.heap.size+2≠w.heap.size+1;omega) | 1,_=>exact (by show w.heap.size+3≠w.heap.size+1;omega))).trans HB_xb.out);replace HB_q:=Lib.hid (show wx6.heap[w.heap.size+2]?=some (.cells #[.bool b_q2,.slice o_q2 l_q2 k_q2] 26 (0,0)) from hB_q);clear hB_q;replace HB_r:=Lib.hid (show wx6.heap[w.heap.size+3]?=some (.cells #[.bool b_r2,.slice o_r2 l_r2 k_r2] 26 (0,0)) from hB_r);clear hB_r;clear hkp0 hbe hbl hszb;replace xa0:=cell_at (v:=.bool false) HB_xa.out 0 rfl;replace xa1:=cell_at (v:=.slice ao l c) HB_xa.out 1 rfl;replace xb0:=cell_at (v:=.bool true) HB_xb.out 0 rfl;replace xb1:=cell_at (v:=.slice po pl pc) HB_xb.out 1 rfl;replace q0:=cell_at (v:=.bool b_q2) HB_q.out 0 rfl;replace q1:=cell_at (v:=.slice o_q2 l_q2 k_q2) HB_q.out 1 rfl
  replace r0:=cell_at (v:=.bool b_r2) HB_r.out 0 rfl;replace r1:=cell_at (v:=.slice o_r2 l_r2 k_r2) HB_r.out 1 rfl;clear hlt_xa hlt_xb hlt_q hlt_r;go_wp2_with fail
  exact bodyPost_ret (v:=.tuple #[.agg #[.bool b_q2,.slice o_q2 l_q2 k_q2],.agg #[.bool b_r2,.slice o_r2 l_r2 k_r2],.bool true]) (by simp[results,Try.results43,go_sem,q0,q1,r0,r1]) rfl ⟨_,_,rfl,c_q2,c_r2,hbt⟩
 have hbt:=Below.refl w.heap.size w;go_enter Try.func43,Try.ntmps43
 go_wp2_with fail
 have hbx:Below w.heap.size w ((((w.alloc (.cells #[.bool true,.slice ao l c] 26)).alloc (.cells #[.bool false,.slice po pl pc] 26)).alloc (.cells #[.bool false,.slice none 0 0] 26)).alloc (.cells #[.bool false,.slice none 0 0] 26)):=(((((Below.refl _ _).alloc (by simp) _).alloc (by simp) _).alloc (by simp;omega) _).alloc (by simp;omega) _)
 replace hg:=hg.below hbx;replace hg2:=hg2.below hbx;replace hbt:=hbt.trans (hbx.mono hbt.size);clear hbx;have HB_xa:Hid (((((w.alloc (.cells #[.bool true,.slice ao l c] 26)).alloc (.cells #[.bool false,.slice po pl pc] 26)).alloc (.cells #[.bool false,.slice none 0 0] 26)).alloc (.cells #[.bool false,.slice none 0 0] 26)).heap[w.heap.size]?=some (.cells #[.bool true,.slice ao l c] 26 (0,0))):=Lib.hid (made_more (made_more (made_more (made_at w (.cells #[.bool true,.slice ao l c] 26) _ (by first | rfl | simp)) _) _) _)
 have HB_xb:Hid (((((w.alloc (.cells #[.bool true,.slice ao l c] 26)).alloc (.cells #[.bool false,.slice po pl pc] 26)).alloc (.cells #[.bool false,.slice none 0 0] 26)).alloc (.cells #[.bool false,.slice none 0 0] 26)).heap[w.heap.size+1]?=some (.cells #[.bool false,.slice po pl pc] 26 (0,0))):=Lib.hid (made_more (made_more (made_at (w.alloc (.cells #[.bool true,.slice ao l c] 26)) (.cells #[.bool false,.slice po pl pc] 26) _ (by first | rfl | simp)) _) _)
 have HB_q:Hid (((((w.alloc (.cells #[.bool true,.slice ao l c] 26)).alloc (.cells #[.bool false,.slice po pl pc] 26)).alloc (.cells #[.bool false,.slice none 0 0] 26)).alloc (.cells #[.bool false,.slice none 0 0] 26)).heap[w.heap.size+2]?=some (.cells #[.bool false,.slice none 0 0] 26 (0,0))):=Lib.hid (made_more (made_at ((w.alloc (.cells #[.bool true,.slice ao l c] 26)).alloc (.cells #[.bool false,.slice po pl pc] 26)) (.cells #[.bool false,.slice none 0 0] 26) _ (by first | rfl | simp)) _)
 have HB_r:Hid (((((w.alloc (.cells #[.bool true,.slice ao l c] 26)).alloc (.cells #[.bool false,.slice po pl pc] 26)).alloc (.cells #[.bool false,.slice none 0 0] 26)).alloc (.cells #[.bool false,.slice none 0 0] 26)).heap[w.heap.size+3]?=some (.cells #[.bool false,.slice none 0 0] 26 (0,0))):=Lib.hid (made_at (((w.alloc (.cells #[.bool true,.slice ao l c] 26)).alloc (.cells #[.bool false,.slice po pl pc] 26)).alloc (.cells #[.bool false,.slice none 0 0] 26)) (.cells #[.bool false,.slice none 0 0] 26) _ (by first | rfl | simp));generalize ((((w.alloc (.cells #[.bool true,.slice ao l c] 26)).alloc (.cells #[.bool false,.slice po pl pc] 26)).alloc (.cells #[.bool false,.slice none 0 0] 26)).alloc (.cells #[.bool false,.slice none 0 0] 26))=wx1 at *;have xa0:=cell_at (v:=.bool true) HB_xa.out 0 rfl;have xa1:=cell_at (v:=.slice ao l c) HB_xa.out 1 rfl
 have xb0:=cell_at (v:=.bool false) HB_xb.out 0 rfl;have xb1:=cell_at (v:=.slice po pl pc) HB_xb.out 1 rfl;have q0:=cell_at (v:=.bool false) HB_q.out 0 rfl;have q1:=cell_at (v:=.slice none 0 0) HB_q.out 1 rfl;have r0:=cell_at (v:=.bool false) HB_r.out 0 rfl;have r1:=cell_at (v:=.slice none 0 0) HB_r.out 1 rfl;refine (div_d hg hg2 h1 h0).mono ?_;rintro e wx2 ⟨vq,vr,rfl,sq,sr,hbx⟩;replace hg:=hg.below hbx;replace hg2:=hg2.below hbx;replace hbt:=hbt.trans (hbx.mono hbt.size);replace HB_xa:=Lib.hid ((hbx.block _ (lt_of_block HB_xa.out)).trans HB_xa.out);replace HB_xb:=Lib.hid ((hbx.block _ (lt_of_block HB_xb.out)).trans HB_xb.out);replace HB_q:=Lib.hid ((hbx.block _ (lt_of_block HB_q.out)).trans HB_q.out);replace HB_r:=Lib.hid ((hbx.block _ (lt_of_block HB_r.out)).trans HB_r.out);clear hbx;replace xa0:=cell_at (v:=.bool true) HB_xa.out 0 rfl
 replace xa1:=cell_at (v:=.slice ao l c) HB_xa.out 1 rfl;replace xb0:=cell_at (v:=.bool false) HB_xb.out 0 rfl;replace xb1:=cell_at (v:=.slice po pl pc) HB_xb.out 1 rfl;replace q0:=cell_at (v:=.bool false) HB_q.out 0 rfl;replace q1:=cell_at (v:=.slice none 0 0) HB_q.out 1 rfl;replace r0:=cell_at (v:=.bool false) HB_r.out 0 rfl;replace r1:=cell_at (v:=.slice none 0 0) HB_r.out 1 rfl;obtain⟨qo0,qc0,rfl⟩:=sl_shape sq;obtain⟨ro0,rc0,rfl⟩:=sl_shape sr;have gq:=gn_dig sq hqn0;have gr:=gn_dig sr hrn0;clear sq sr;go_wp2_with fail
 refine (of_n 1 _ _ rfl (by decide)).mono ?_;rintro e wx3 ⟨v7,rfl,g7,hbx⟩;replace hg:=hg.below hbx;replace hg2:=hg2.below hbx;replace gq:=gq.below hbx;replace gr:=gr.below hbx;replace hbt:=hbt.trans (hbx.mono hbt.size);replace HB_xa:=Lib.hid ((hbx.block _ (lt_of_block HB_xa.out)).trans HB_xa.out);replace HB_xb:=Lib.hid ((hbx.block _ (lt_of_block HB_xb.out)).trans HB_xb.out);replace HB_q:=Lib.hid ((hbx.block _ (lt_of_block HB_q.out)).trans HB_q.out);replace HB_r:=Lib.hid ((hbx.block _ (lt_of_block HB_r.out)).trans HB_r.out);clear hbx;replace xa0:=cell_at (v:=.bool true) HB_xa.out 0 rfl;replace xa1:=cell_at (v:=.slice ao l c) HB_xa.out 1 rfl;replace xb0:=cell_at (v:=.bool false) HB_xb.out 0 rfl;replace xb1:=cell_at (v:=.slice po pl pc) HB_xb.out 1 rfl;replace q0:=cell_at (v:=.bool false) HB_q.out 0 rfl
 replace q1:=cell_at (v:=.slice none 0 0) HB_q.out 1 rfl;replace r0:=cell_at (v:=.bool false) HB_r.out 0 rfl;replace r1:=cell_at (v:=.slice none 0 0) HB_r.out 1 rfl;go_wp2_with fail
 refine (add_d gq g7 (by omega) (by omega)).mono ?_;rintro e wx4 ⟨v8,rfl,sq,hbx⟩;replace hg:=hg.below hbx;replace hg2:=hg2.below hbx;replace gq:=gq.below hbx;replace gr:=gr.below hbx;replace g7:=g7.below hbx;replace hbt:=hbt.trans (hbx.mono hbt.size);replace HB_xa:=Lib.hid ((hbx.block _ (lt_of_block HB_xa.out)).trans HB_xa.out);replace HB_xb:=Lib.hid ((hbx.block _ (lt_of_block HB_xb.out)).trans HB_xb.out);replace HB_q:=Lib.hid ((hbx.block _ (lt_of_block HB_q.out)).trans HB_q.out);replace HB_r:=Lib.hid ((hbx.block _ (lt_of_block HB_r.out)).trans HB_r.out);clear hbx;replace xa0:=cell_at (v:=.bool true) HB_xa.out 0 rfl;replace xa1:=cell_at (v:=.slice ao l c) HB_xa.out 1 rfl;replace xb0:=cell_at (v:=.bool false) HB_xb.out 0 rfl;replace xb1:=cell_at (v:=.slice po pl pc) HB_xb.out 1 rfl;replace q0:=cell_at (v:=.bool false) HB_q.out 0 rfl
 replace q1:=cell_at (v:=.slice none 0 0) HB_q.out 1 rfl;replace r0:=cell_at (v:=.bool false) HB_r.out 0 rfl;replace r1:=cell_at (v:=.slice none 0 0) HB_r.out 1 rfl;obtain⟨qo,qc,rfl⟩:=sl_shape sq;go_wp2_with fail
 refine (sub_d hg2 gr h2' hle).mono ?_;rintro e wx5 ⟨v9,rfl,sr,hbx⟩;replace hg:=hg.below hbx;replace hg2:=hg2.below hbx;replace gq:=gq.below hbx;replace gr:=gr.below hbx;replace g7:=g7.below hbx;replace sq:=sq.below hbx;replace hbt:=hbt.trans (hbx.mono hbt.size);replace HB_xa:=Lib.hid ((hbx.block _ (lt_of_block HB_xa.out)).trans HB_xa.out);replace HB_xb:=Lib.hid ((hbx.block _ (lt_of_block HB_xb.out)).trans HB_xb.out);replace HB_q:=Lib.hid ((hbx.block _ (lt_of_block HB_q.out)).trans HB_q.out);replace HB_r:=Lib.hid ((hbx.block _ (lt_of_block HB_r.out)).trans HB_r.out);clear hbx;replace xa0:=cell_at (v:=.bool true) HB_xa.out 0 rfl;replace xa1:=cell_at (v:=.slice ao l c) HB_xa.out 1 rfl;replace xb0:=cell_at (v:=.bool false) HB_xb.out 0 rfl;replace xb1:=cell_at (v:=.slice po pl pc) HB_xb.out 1 rfl
 replace q0:=cell_at (v:=.bool false) HB_q.out 0 rfl;replace q1:=cell_at (v:=.slice none 0 0) HB_q.out 1 rfl;replace r0:=cell_at (v:=.bool false) HB_r.out 0 rfl;replace r1:=cell_at (v:=.slice none 0 0) HB_r.out 1 rfl;obtain⟨ro,rc,rfl⟩:=sl_shape sr;clear hl1 g7 gq gr;go_wp2_with fail
 have hlt_xa:=lt_of_block HB_xa.out;have hlt_xb:=lt_of_block HB_xb.out;have hlt_q:=lt_of_block HB_q.out;have hlt_r:=lt_of_block HB_r.out;have hszb:=hbt.size
 refine Rely.region (by kernel_rfl) [[],[0],[],[2],[0,1,2,3],[],[0,1,2,3,4,5],[],[7],[],[0,1,2,3,4,5,6,7,8,9],[0,1,2,3,4,5,6,7,8,9,10],[0,1,2,3,4,5,6,7,8,9,10,11],[0,1,2,3,4,5,6,7,8,9,10,11,12]] [] [(11,1000),(12,1001)] (fun q=>[w.heap.size+2,w.heap.size+3].getD q 0) 2 14 (by kernel_rfl) (by kernel_rfl) (fun q hq=>by match q,hq with | 0,_=>exact hlt_q | 1,_=>exact hlt_r) (fun q r hq hr hne=>by match q,r,hq,hr,hne with | 0,0,_,_,h=>exact absurd rfl h | 0,1,_,_,h=>exact (by show w.heap.size+2≠w.heap.size+3;omega) | 1,0,_,_,h=>exact (by show w.heap.size+3≠w.heap.size+2;omega) | 1,1,_,_,h=>exact absurd rfl h) ?_;refine Rely.Chain.det ?_ (by rfl) (fun T xs wr hA=>?_) ?_
 rotate_left 1
 ·have e2:=hA.pre 2 (by kernel_rfl);simp only[gsa,gsc,gsz] at e2;clear hA;refine⟨(by rfl),?_⟩;go_simp<;>(try with_reducible rfl)
 refine Rely.Chain.det ?_ (by rfl) (fun T xs wr hA=>?_) ?_
 rotate_left 1
 ·have e43:=hA.tm 0 43 (by rfl) (by rfl);have f43:xs 0=_:=hA.fa 0 (by rfl)
  (try simp (disch:=rfl) only [Rely.mask_in] at f43)
  rw[f43] at e43;clear f43;have hBq:wr.heap[w.heap.size]?=_:=(hA.bl _ hlt_xa (fun q hq=>by match q,hq with | 0,_=>exact (by show w.heap.size+2≠w.heap.size;omega) | 1,_=>exact (by show w.heap.size+3≠w.heap.size;omega))).trans HB_xa.out;have q0:=cell_at (v:=.bool true) hBq 0 rfl;have q1:=cell_at (v:=.slice ao l c) hBq 1 rfl;clear hBq;clear hA;refine⟨(by rfl),?_⟩;go_simp<;>(try with_reducible rfl)
 refine Rely.Chain.det ?_ (by rfl) (fun T xs wr hA=>?_) ?_
 rotate_left 1
 ·have e3:=hA.pre 3 (by kernel_rfl);simp only[gsa,gsc,gsz] at e3;clear hA;refine⟨(by rfl),?_⟩;go_simp<;>(try with_reducible rfl)
 refine Rely.Chain.det ?_ (by rfl) (fun T xs wr hA=>?_) ?_
 rotate_left 1
 ·have e45:=hA.tm 2 45 (by rfl) (by rfl);have f45:xs 2=_:=hA.fa 2 (by rfl)
  (try simp (disch:=rfl) only [Rely.mask_in] at f45)
  rw[f45] at e45;clear f45;have hBq:wr.heap[w.heap.size+1]?=_:=(hA.bl _ hlt_xb (fun q hq=>by match q,hq with | 0,_=>exact (by show w.heap.size+2≠w.heap.size+1;omega) | 1,_=>exact (by show w.heap.size+3≠w.heap.size+1;omega))).trans HB_xb.out;have q0:=cell_at (v:=.bool false) hBq 0 rfl;have q1:=cell_at (v:=.slice po pl pc) hBq 1 rfl;clear hBq;clear hA;refine⟨(by rfl),?_⟩;go_simp<;>(try with_reducible rfl)
 refine Rely.Chain.det ?_ (by rfl) (fun T xs wr hA=>?_) ?_
 rotate_left 1
 ·have e44:=hA.tm 1 44 (by rfl) (by rfl);have f44:xs 1=_:=hA.fa 1 (by rfl)
  (try simp (disch:=rfl) only [Rely.mask_in] at f44)
  rw[f44] at e44;clear f44;have e46:=hA.tm 3 46 (by rfl) (by rfl);have f46:xs 3=_:=hA.fa 3 (by rfl)
  (try simp (disch:=rfl) only [Rely.mask_in] at f46)
  rw[f46] at e46;clear f46;clear hA;refine⟨(by rfl),?_⟩;go_simp<;>(try with_reducible rfl)
 refine Rely.Chain.det ?_ (by rfl) (fun T xs wr hA=>?_) ?_
 rotate_left 1
 ·have e7:=hA.pre 7 (by kernel_rfl);simp only[gsa,gsc,gsz] at e7;clear hA;refine⟨(by rfl),?_⟩;go_simp<;>(try with_reducible rfl)
 refine Rely.Chain.call (fun _ v w=>CI w v (sg true (m / n+1)) (k1+3)) (fun _ _ _ _ h hb=>h.below hb) (fun _ _ _ _ _ h hp=>h.keeps hp.keeps) (by rfl) (fun T xs wr hA=>?_) ?_
 ·have e47:=hA.tm 4 47 (by rfl) (by rfl);have f47:xs 4=_:=hA.fa 4 (by rfl)
  (try simp (disch:=rfl) only [Rely.mask_in] at f47)
  rw[f47] at e47;clear f47;have e48:=hA.tm 5 48 (by rfl) (by rfl);have f48:xs 5=_:=hA.fa 5 (by rfl)
  (try simp (disch:=rfl) only [Rely.mask_in] at f48)
  rw[f48] at e48;clear f48;have hkp:=undrewK hA.kp;have hbt':=hbt.trans (undrew (hA.be w.heap.size hszb (fun q hq=>by match q,hq with | 0,_=>exact (by show w.heap.size<=w.heap.size+2;omega) | 1,_=>exact (by show w.heap.size<=w.heap.size+3;omega))));have sq:=sq.keeps hkp;clear hA;refine⟨(by rfl),fun K hK=>?_⟩;go_simp
  refine (signed_any true (.slice qo _ qc) (m / n+1) (k1+3) _ sq hqn).mono ?_;rintro e wq ⟨v,rfl,c,hb⟩;exact hK.out _ _ c hb
 refine Rely.Chain.det ?_ (by rfl) (fun T xs wr hA=>?_) ?_
 rotate_left 1
 ·have e3:=hA.pre 3 (by kernel_rfl);simp only[gsa,gsc,gsz] at e3;clear hA;refine⟨(by rfl),?_⟩;go_simp<;>(try with_reducible rfl)
 refine Rely.Chain.det ?_ (by rfl) (fun T xs wr hA=>?_) ?_
 rotate_left 1
 ·have e50:=hA.tm 7 50 (by rfl) (by rfl);have f50:xs 7=_:=hA.fa 7 (by rfl)
  (try simp (disch:=rfl) only [Rely.mask_in] at f50)
  rw[f50] at e50;clear f50;have hBq:wr.heap[w.heap.size+1]?=_:=(hA.bl _ hlt_xb (fun q hq=>by match q,hq with | 0,_=>exact (by show w.heap.size+2≠w.heap.size+1;omega) | 1,_=>exact (by show w.heap.size+3≠w.heap.size+1;omega))).trans HB_xb.out;have q0:=cell_at (v:=.bool false) hBq 0 rfl;have q1:=cell_at (v:=.slice po pl pc) hBq 1 rfl;clear hBq;clear hA;refine⟨(by rfl),?_⟩;go_simp<;>(try with_reducible rfl)
 refine Rely.Chain.det ?_ (by rfl) (fun T xs wr hA=>?_) ?_
 rotate_left 1
 ·have e8:=hA.pre 8 (by kernel_rfl);simp only[gsa,gsc,gsz] at e8;clear hA;refine⟨(by rfl),?_⟩;go_simp<;>(try with_reducible rfl)
 refine Rely.Chain.call (fun _ v w=>CI w v (sg false (n - m % n)) k2) (fun _ _ _ _ h hb=>h.below hb) (fun _ _ _ _ _ h hp=>h.keeps hp.keeps) (by rfl) (fun T xs wr hA=>?_) ?_
 ·have e51:=hA.tm 8 51 (by rfl) (by rfl);have f51:xs 8=_:=hA.fa 8 (by rfl)
  (try simp (disch:=rfl) only [Rely.mask_in] at f51)
  rw[f51] at e51;clear f51;have e52:=hA.tm 9 52 (by rfl) (by rfl);have f52:xs 9=_:=hA.fa 9 (by rfl)
  (try simp (disch:=rfl) only [Rely.mask_in] at f52)
  rw[f52] at e52;clear f52;have hkp:=undrewK hA.kp;have hbt':=hbt.trans (undrew (hA.be w.heap.size hszb (fun q hq=>by match q,hq with | 0,_=>exact (by show w.heap.size<=w.heap.size+2;omega) | 1,_=>exact (by show w.heap.size<=w.heap.size+3;omega))));have sr:=sr.keeps hkp;clear hA;refine⟨(by rfl),fun K hK=>?_⟩;go_simp
  refine (signed_any false (.slice ro _ rc) (n - m % n) k2 _ sr hrn).mono ?_;rintro e wq ⟨v,rfl,c,hb⟩;exact hK.out _ _ c hb
 refine Rely.Chain.storeOld 0 6 26 (by rfl) (by rfl) (by decide) (Rely.own_one (by rfl)) (fun T xs wr hA hB0=>?_) ?_
 ·have e4:=hA.pre 4 (by kernel_rfl);simp only[gsa,gsc,gsz] at e4;have hB:wr.heap[w.heap.size+2]?=_:=hB0.trans HB_q.out;clear hB0;have e49:=hA.tm 6 49 (by rfl) (by rfl);have hc:CI wr (xs 6) (sg true (m / n+1)) (k1+3):=hA.fa 6 (by rfl);obtain⟨b_h,o_h,l_h,k_h,hv⟩:=hc.shape;clear hc;rw[hv] at e49;have z0:=cell_at hB 0 rfl;have z1:=cell_at hB 1 rfl;have fz0:=froz_at hB 0;have fz1:=froz_at hB 1;clear hA;refine⟨(by rfl),fun K hK=>?_⟩;go_simp
  exact hK.out _ _ hv (hset2 hB _ _) (priv2 hB (by rfl) (by rfl))
 refine Rely.Chain.storeOld 1 10 26 (by rfl) (by rfl) (by decide) (Rely.own_one (by rfl)) (fun T xs wr hA hB0=>?_) ?_
 ·have e5:=hA.pre 5 (by kernel_rfl);simp only[gsa,gsc,gsz] at e5;have hB:wr.heap[w.heap.size+3]?=_:=hB0.trans HB_r.out;clear hB0;have e53:=hA.tm 10 53 (by rfl) (by rfl);have hc:CI wr (xs 10) (sg false (n - m % n)) k2:=hA.fa 10 (by rfl);obtain⟨b_h,o_h,l_h,k_h,hv⟩:=hc.shape;clear hc;rw[hv] at e53;have z0:=cell_at hB 0 rfl;have z1:=cell_at hB 1 rfl;have fz0:=froz_at hB 0;have fz1:=froz_at hB 1;clear hA;refine⟨(by rfl),fun K hK=>?_⟩;go_simp
  exact hK.out _ _ hv (hset2 hB _ _) (priv2 hB (by rfl) (by rfl))
 refine Rely.Chain.det ?_ (by rfl) (fun T xs wr hA=>?_) ?_
 rotate_left 1
 ·clear hA;refine⟨(by rfl),?_⟩;go_simp<;>(try with_reducible rfl)
 refine Rely.Chain.done (fun xs wx6 hL=>?_);obtain⟨⟨hbe,hbl,hkp0⟩,hf,hp,hn⟩:=hL;have f0:xs 0=_:=hf 0 (by decide)
 (try simp (disch:=rfl) only [Rely.mask_in] at f0)
 have f1:xs 1=_:=hf 1 (by decide)
 (try simp (disch:=rfl) only [Rely.mask_in] at f1)
 have f2:xs 2=_:=hf 2 (by decide)
 (try simp (disch:=rfl) only [Rely.mask_in] at f2)
 have f3:xs 3=_:=hf 3 (by decide)
 (try simp (disch:=rfl) only [Rely.mask_in] at f3)
 have f4:xs 4=_:=hf 4 (by decide)
 (try simp (disch:=rfl) only [Rely.mask_in] at f4)
 have f5:xs 5=_:=hf 5 (by decide)
 (try simp (disch:=rfl) only [Rely.mask_in] at f5)
 have c_q2:CI wx6 (xs 6) (sg true (m / n+1)) (k1+3):=hf 6 (by decide);have f7:xs 7=_:=hf 7 (by decide)
 (try simp (disch:=rfl) only [Rely.mask_in] at f7)
 have f8:xs 8=_:=hf 8 (by decide)
 (try simp (disch:=rfl) only [Rely.mask_in] at f8)
 have f9:xs 9=_:=hf 9 (by decide)
 (try simp (disch:=rfl) only [Rely.mask_in] at f9)
 have c_r2:CI wx6 (xs 10) (sg false (n - m % n)) k2:=hf 10 (by decide);obtain⟨cc,hv,hB_q⟩:=hf 11 (by decide);change xs 6=_ at hv;obtain⟨b_q2,o_q2,l_q2,k_q2,hs_q2⟩:=c_q2.shape;rw[hs_q2] at hv;injection hv with hv;subst hv;obtain⟨cc,hv,hB_r⟩:=hf 12 (by decide);change xs 10=_ at hv;obtain⟨b_r2,o_r2,l_r2,k_r2,hs_r2⟩:=c_r2.shape;rw[hs_r2] at hv;injection hv with hv;subst hv;have f13:xs 13=_:=hf 13 (by decide)
 (try simp (disch:=rfl) only [Rely.mask_in] at f13)
 clear hf hp hn;refine Rely.rest_done ?_;rw[hs_q2] at c_q2;rw[hs_r2] at c_r2;simp only[Rely.fill,List.setIfInBounds_toArray,List.set_cons_zero,List.set_cons_succ,f0,f1,f2,f3,f4,f5,f7,f8,f9,f13,hs_q2,hs_r2];clear f0 f1 f2 f3 f4 f5 f7 f8 f9 f13 hs_q2 hs_r2;clear xs;replace hkp0:=undrewK hkp0;replace hg:=hg.keeps hkp0;replace hg2:=hg2.keeps hkp0;replace sq:=sq.keeps hkp0;replace sr:=sr.keeps hkp0;replace hbt:=hbt.trans (undrew (hbe w.heap.size hszb (fun q hq=>by match q,hq with | 0,_=>exact (by show w.heap.size<=w.heap.size+2;omega) | 1,_=>exact (by show w.heap.size<=w.heap.size+3;omega))));replace HB_xa:=Lib.hid ((hbl _ hlt_xa (fun q hq=>by match q,hq with | 0,_=>exact (by show w.heap.size+2≠w.heap.size;omega) | 1,_=>exact (by show w.heap.size+3≠w.heap.size;omega))).trans HB_xa.out)
 replace HB_xb:=Lib.hid ((hbl _ hlt_xb (fun q hq=>by match q,hq with | 0,_=>exact (by show w.heap.size+2≠w.heap.size+1;omega) | 1,_=>exact (by show w.heap.size+3≠w.heap.size+1;omega))).trans HB_xb.out);replace HB_q:=Lib.hid (show wx6.heap[w.heap.size+2]?=some (.cells #[.bool b_q2,.slice o_q2 l_q2 k_q2] 26 (0,0)) from hB_q);clear hB_q;replace HB_r:=Lib.hid (show wx6.heap[w.heap.size+3]?=some (.cells #[.bool b_r2,.slice o_r2 l_r2 k_r2] 26 (0,0)) from hB_r);clear hB_r;clear hkp0 hbe hbl hszb;replace xa0:=cell_at (v:=.bool true) HB_xa.out 0 rfl;replace xa1:=cell_at (v:=.slice ao l c) HB_xa.out 1 rfl;replace xb0:=cell_at (v:=.bool false) HB_xb.out 0 rfl;replace xb1:=cell_at (v:=.slice po pl pc) HB_xb.out 1 rfl;replace q0:=cell_at (v:=.bool b_q2) HB_q.out 0 rfl;replace q1:=cell_at (v:=.slice o_q2 l_q2 k_q2) HB_q.out 1 rfl
 replace r0:=cell_at (v:=.bool b_r2) HB_r.out 0 rfl;replace r1:=cell_at (v:=.slice o_r2 l_r2 k_r2) HB_r.out 1 rfl;clear hlt_xa hlt_xb hlt_q hlt_r;go_wp2_with fail
 exact bodyPost_ret (v:=.tuple #[.agg #[.bool b_q2,.slice o_q2 l_q2 k_q2],.agg #[.bool b_r2,.slice o_r2 l_r2 k_r2],.bool true]) (by simp[results,Try.results43,go_sem,q0,q1,r0,r1]) rfl ⟨_,_,rfl,c_q2,c_r2,hbt⟩
theorem wdiv_any (va vb:Value) (y z:Int) (k1 k2:Nat) (w:World) (hx:GI w va y k1) (hy:GI w vb z k2) (h1:k1<=900000) (h2:k2<=900000) (h0:z≠0) :
  Calls Try.prog 43 #[va,vb] w fun e w'=>∃ q r,e=.returned (.tuple #[q,r,.bool true])/\CI w' q (Int.fdiv y z) (k1+3)/\CI w' r (Int.fmod y z) k2/\Below w.heap.size w w':=by
 obtain⟨b,ao,l,c,m,rfl,hg,rfl⟩:=hx.shape;obtain⟨d,po,pl,pc,n,rfl,hg2,rfl⟩:=hy.shape
 have hn:0<n:=by
  rcases Nat.eq_zero_or_pos n with h | h
  ·subst h;exact absurd (by cases d<;>rfl) h0
  exact h
 by_cases h:b=d\/m % n=0
 ·obtain⟨e1,e2⟩:=sg_div (b:=b) (d:=d) hn h;rw[e1,e2];exact wdiv_plain b d _ ao po l c pl pc m n k1 k2 w hg hg2 h1 hn rfl h
 have hbd:b≠d:=fun e=>h (Or.inl e)
 have hr:0<m % n:=by
  rcases Nat.eq_zero_or_pos (m % n) with e | e
  ·exact absurd (Or.inr e) h
  exact e
 obtain⟨e1,e2⟩:=sg_div2 (b:=b) (d:=d) hn hbd hr;rw[e1,e2,show (b != d)=true by simpa using hbd];exact wdiv_adj b d ao po l c pl pc m n k1 k2 w hg hg2 h1 h2 hn hbd hr
namespace R7
structure Priv (g:Nat) (w w':World):Prop where
 os:w'.os=w.os
 tape:w'.tape=w.tape
 output:w'.output=w.output
 size:w.heap.size<=w'.heap.size
 block:∀ k,k<w.heap.size->k≠g->w'.heap[k]?=w.heap[k]?
abbrev Fact:=(Nat->Value)->Value->World->Prop
def mask (L:List Nat) (x:Nat->Value):Nat->Value:=fun j=>if L.contains j then x j else undef
theorem mask_in {L:List Nat} {x:Nat->Value} {j:Nat} (h:L.contains j=true):mask L x j=x j:=by
 unfold mask;rw[if_pos h]
def upd (x:Nat->Value) (k:Nat) (v:Value):Nat->Value:=fun j=>if j=k then v else x j
theorem upd_same (x:Nat->Value) (k:Nat) (v:Value):upd x k v k=v:=if_pos rfl
theorem upd_ne (x:Nat->Value) {k j:Nat} (v:Value) (h:j≠k):upd x k v j=x j:=if_neg h
theorem mask_upd {L:List Nat} {x:Nat->Value} {k:Nat} (v:Value) (h:L.contains k=false):mask L (upd x k v)=mask L x:=by
 funext j
 unfold mask
 by_cases hj:L.contains j=true
 ·rw[if_pos hj,if_pos hj,upd_ne];intro e;subst e;rw[h] at hj;cases hj
 rw[if_neg hj,if_neg hj]
def dstOf (ops:List Oper) (j:Nat):Option Tmp:=(ops[j]?).bind (·.dst)
def dep (D:List (List Nat)) (k:Nat):List Nat:=D.getD k []
def ok (ops:List Oper) (D:List (List Nat)) (m size:Nat):Bool:=
 decide (m<=ops.length) && (List.range ops.length).all fun k =>
  match ops[k]? with
  | none=>false
  | some o =>
   (o.after.all fun e=>!Region.binds .any e || decide (e.on<k)) &&
   ((dep D k).all fun j=>(o.after.any fun e=>Region.binds .any e && (e.on==j || (dep D e.on).contains j)) && ((dep D j).all fun i=>(dep D k).contains i) && decide (j<k)) &&
   (decide (k<m) || (List.range m).all fun j=>(dep D k).contains j) &&
   (match o.dst with | none=>true | some d=>decide (d<size) && (List.range k).all fun j=>dstOf ops j != some d)
def okSt (ops:List Oper) (D:List (List Nat)) (al:List Nat) (st:List (Nat × Nat)) (nq:Nat):Bool:=
 (List.range ops.length).all fun k=>match st.lookup k with
  | none=>true
  | some i=>(if i<1000 then (dep D k).contains i && al.contains i else decide (i - 1000<nq)) && (List.range ops.length).all fun j=>j==k || st.lookup j != some i
def pre (ops:List Oper) (D:List (List Nat)) (k t:Nat):Bool:=
 (List.range ops.length).all fun j=>dstOf ops j != some t || j==k || (dep D j).contains k
def fill:List Oper->(Nat->Value)->Nat->Array Value->Array Value
 | [],_,_,t=>t
 | o::l,x,k,t=>fill l x (k+1) (match o.dst with | some d=>t.setIfInBounds d (x k) | none=>t)
theorem fill_eq:∀ (l:List Oper) (x:Nat->Value) (k:Nat) (t T:Array Value),T.size=t.size ->
  (∀ j d,dstOf l j=some d->T[d]?=some (x (k+j)))->(∀ s,(∀ j,dstOf l j≠some s)->T[s]?=t[s]?)->fill l x k t=T
 | [],x,k,t,T,hs,_,hp=>by
  refine Array.ext_getElem? (fun i=>?_);rw[hp i (fun j=>by simp[dstOf])]
  rfl
 | o::l,x,k,t,T,hs,hd,hp=>by
  have hd':∀ j d,dstOf l j=some d->T[d]?=some (x (k+1+j)):=fun j d h=>by
   rw[hd (j+1) d (by simpa [dstOf] using h),Nat.add_right_comm,Nat.add_assoc]
  unfold fill
  cases ho:o.dst with
  | none =>
   refine fill_eq l x (k+1) t T hs hd' (fun s h=>hp s (fun j=>?_))
   cases j with
   | zero=>simp[dstOf,ho]
   | succ j=>simpa [dstOf] using h j
  | some d =>
   have h0:T[d]?=some (x k):=hd 0 d (by simp[dstOf,ho]);have hlt:d<t.size:=by rw[<-hs];exact (Array.getElem?_eq_some_iff.1 h0).1
   refine fill_eq l x (k+1) _ T (by simpa using hs) hd' (fun s h=>?_)
   by_cases e:d=s
   ·subst e;rw[h0]
    simp[hlt]
   rw[Array.getElem?_setIfInBounds_ne e];refine hp s (fun j=>?_)
   cases j with
   | zero=>simp[dstOf,ho,e]
   | succ j=>simpa [dstOf] using h j
def noQ:Exit->Act->World->Prop:=fun _ _ _=>False
def fact (F:List Fact) (j:Nat):Fact:=(F.reverse[j]?).getD fun _ _ _=>True
section
variable (P:Program) (ops:List Oper) (D:List (List Nat)) (al:List Nat) (st:List (Nat × Nat)) (og:Nat->Nat) (nq:Nat) (t0:Array Value) (ds:List Deferred) (w0:World)
def own (k:Nat):Option Nat:=st.lookup k
def tv (x:Nat->Value) (i:Nat):Value:=if i<1000 then x i else .pointer (some ⟨og (i - 1000),0,none⟩)
structure At (F:Nat->Fact) (k:Nat) (T:Array Value) (x:Nat->Value) (w:World):Prop where
 be:∀ B,B<=w0.heap.size->(∀ q,q<nq->B<=og q)->Below B w0 w
 bl:∀ b,b<w0.heap.size->(∀ q,q<nq->og q≠b)->w.heap[b]?=w0.heap[b]?
 od:∀ q,q<nq->(∀ k',own st k'=some (1000+q)->k'=k\/(dep D k').contains k=true)->w.heap[og q]?=w0.heap[og q]?
 tm:∀ j d,(dep D k).contains j=true->dstOf ops j=some d->T[d]?=some (x j)
 fa:∀ j,(dep D k).contains j=true->F j (mask (dep D j) x) (x j) w
 pre:∀ t,R7.pre ops D k t=true->T[t]?=t0[t]?
structure Next (V:Fact) (k:Nat) (x:Nat->Value) (w:World) (v:Value) (w':World):Prop where
 is:V x v w'
 bw:own st k=none->Below w.heap.size w w'
 pv:∀ i,own st k=some i->∃ g,tv og x i=.pointer (some ⟨g,0,none⟩)/\Priv g w w'
 al:al.contains k=true->∃ g,v=.pointer (some ⟨g,0,none⟩)/\w.heap.size<=g/\g<w'.heap.size
def Runs (F:Nat->Fact) (k:Nat) (o:Oper) (V:Fact):Prop:=
 ∀ (T:Array Value) (x:Nat->Value) (w:World),At ops D st og nq t0 w0 F k T x w ->
  ∀ K:Act->World->Prop,Hid (∀ v w',Next al st og V k x w v w'->K ((⟨T,ds⟩:Act).put o.dst v) w') ->
   if Region.wanted o (yielded ops.toArray T)=true then o.wp P ⟨T,ds⟩ w K noQ else K ((⟨T,ds⟩:Act).put o.dst undef) w
def Stays (k:Nat) (V:Fact):Prop:=(∀ x v w w',V x v w->Below w.heap.size w w'->V x v w')/\(st ≠ []->∀ x v w w' g,V x v w->(∀ i,own st k=some i->tv og x i ≠ .pointer (some ⟨g,0,none⟩))->(∃ q,q<nq/\g=og q)->Priv g w w'->V x v w')
def Left (F:Nat->Fact) (m:Nat) (x:Nat->Value) (w:World):Prop:=
 ((∀ B,B<=w0.heap.size->(∀ q,q<nq->B<=og q)->Below B w0 w)/\(∀ b,b<w0.heap.size->(∀ q,q<nq->og q≠b)->w.heap[b]?=w0.heap[b]?) )/\(∀ j,j<m->F j (mask (dep D j) x) (x j) w) /\
 (∀ i,al.contains i=true->i<m->∃ g,x i=.pointer (some ⟨g,0,none⟩)/\w0.heap.size<=g/\g<w.heap.size) /\
 (∀ i j,al.contains i=true->al.contains j=true->i<m->j<m->i≠j->x i≠x j)
def Chain (m:Nat) (G:(Nat->Value)->World->Prop):List Oper->Nat->List Fact->Prop
 | [],k,F=>k=m/\∀ x w,Left D al og nq w0 (fact F) m x w->G x w
 | o::rest,k,F=>(k=m/\∀ x w,Left D al og nq w0 (fact F) m x w->G x w) \/
  ∃ V,Stays st og nq k V/\Runs P ops D al st og nq t0 ds w0 (fact F) k o V/\Chain m G rest (k+1) (V::F)
variable {P ops D al st og nq t0 ds w0}
theorem Chain.done {m:Nat} {G:(Nat->Value)->World->Prop} {l:List Oper} {F:List Fact} (h:∀ x w,Left D al og nq w0 (fact F) m x w->G x w):Chain P ops D al st og nq t0 ds w0 m G l m F:=by
 cases l with
 | nil=>exact⟨rfl,h⟩
 | cons o l=>exact Or.inl ⟨rfl,h⟩
theorem Chain.step {m k:Nat} {G:(Nat->Value)->World->Prop} {o:Oper} {l:List Oper} {F:List Fact} (V:Fact) (hs:Stays st og nq k V) (hr:Runs P ops D al st og nq t0 ds w0 (fact F) k o V)
  (h:Chain P ops D al st og nq t0 ds w0 m G l (k+1) (V::F)):Chain P ops D al st og nq t0 ds w0 m G (o::l) k F:=Or.inr ⟨V,hs,hr,h⟩
def plain (al:List Nat) (st:List (Nat × Nat)) (k:Nat):Bool:=!al.contains k && (own st k).isNone
theorem Next.plain {V:Fact} {k:Nat} {x:Nat->Value} {w:World} {v:Value} {w':World} (hp:plain al st k=true) (h:V x v w') (hb:Below w.heap.size w w'):Next al st og V k x w v w':=by
 unfold R7.plain at hp;simp only[Bool.and_eq_true,Bool.not_eq_true',Option.isNone_iff_eq_none] at hp;exact⟨h,fun _=>hb,fun i hi=>(by rw[hp.2] at hi;cases hi),fun e=>(by rw[hp.1] at e;cases e)⟩
theorem Chain.det {m k:Nat} {G:(Nat->Value)->World->Prop} {o:Oper} {l:List Oper} {F:List Fact} (f:(Nat->Value)->Value) (hp:plain al st k=true)
  (hr:∀ (T:Array Value) (x:Nat->Value) (w:World),At ops D st og nq t0 w0 (fact F) k T x w->Region.wanted o (yielded ops.toArray T)=true/\(execOp (Act.eval ⟨T,ds⟩) o).run P w=.ok (.value (f x)) w)
  (h:Chain P ops D al st og nq t0 ds w0 m G l (k+1) ((fun x v _=>v=f x)::F)):Chain P ops D al st og nq t0 ds w0 m G (o::l) k F:=by
 refine Chain.step (fun x v _=>v=f x) ⟨fun _ _ _ _ e _=>e,fun _ _ _ _ _ _ e _ _ _=>e⟩ (fun T x w hA K hK=>?_) h;obtain⟨hw,he⟩:=hr T x w hA;rw[if_pos hw];unfold Oper.wp;rw[he];exact hK.out _ _ (Next.plain hp rfl (Below.refl _ _))
theorem Chain.call {m k:Nat} {G:(Nat->Value)->World->Prop} {o:Oper} {l:List Oper} {F:List Fact} (V:Fact) (hs:∀ x v w w',V x v w->Below w.heap.size w w'->V x v w') (hs2:∀ x v w w' g,V x v w->(∃ q,q<nq/\g=og q)->Priv g w w'->V x v w') (hp:plain al st k=true)
  (hr:∀ (T:Array Value) (x:Nat->Value) (w:World),At ops D st og nq t0 w0 (fact F) k T x w->Region.wanted o (yielded ops.toArray T)=true /\
   ∀ K:Act->World->Prop,Hid (∀ v w',V x v w'->Below w.heap.size w w'->K ((⟨T,ds⟩:Act).put o.dst v) w')->o.wp P ⟨T,ds⟩ w K noQ)
  (h:Chain P ops D al st og nq t0 ds w0 m G l (k+1) (V::F)):Chain P ops D al st og nq t0 ds w0 m G (o::l) k F:=by
 refine Chain.step V ⟨hs,fun _ x v w w' g h _ hq hp=>hs2 x v w w' g h hq hp⟩ (fun T x w hA K hK=>?_) h;obtain⟨hw,he⟩:=hr T x w hA;rw[if_pos hw];exact he K fun v w' hv hb=>hK.out v w' (Next.plain hp hv hb)
theorem own_one {st:List (Nat × Nat)} {i k:Nat} (h:(st.all fun p=>p.2 != i || p.1==k)=true):∀ k',own st k'=some i->k'=k:=by
 intro k' hk;unfold own at hk;rw[List.all_eq_true] at h
 have:∀ (l:List (Nat × Nat)),(∀ p ∈ l,(p.2 != i || p.1==k)=true)->l.lookup k'=some i->k'=k:=by
  intro l
  induction l with
  | nil=>intro _ h;cases h
  | cons p l ih =>
   intro hp hl;obtain⟨a,b⟩:=p;rw[List.lookup_cons] at hl
   split at hl
   ·rename_i he
    injection hl with hl;have h1:=hp (a,b) (List.mem_cons_self ..);simp only[Bool.or_eq_true,bne_iff_ne,ne_eq,beq_iff_eq] at h1;rw[beq_iff_eq] at he;rcases h1 with h1 | h1
    ·exact absurd hl h1
    exact he.trans h1
   exact ih (fun p hp'=>hp p (List.mem_cons_of_mem _ hp')) hl
 exact this st h hk
theorem fact_lt {V:Fact} {F:List Fact} {j:Nat} (h:j<F.length):fact (V::F) j=fact F j:=by
 unfold fact;rw[List.reverse_cons,List.getElem?_append_left (by simpa using h)]
theorem fact_len {V:Fact} {F:List Fact}:fact (V::F) F.length=V:=by
 unfold fact;rw[List.reverse_cons,List.getElem?_append_right (by simp)]
 simp
theorem At.congr {F F':Nat->Fact} {k:Nat} {T:Array Value} {x:Nat->Value} {w:World} (h:At ops D st og nq t0 w0 F k T x w) (e:∀ j,(dep D k).contains j=true->F j=F' j):At ops D st og nq t0 w0 F' k T x w:=
 ⟨h.be,h.bl,h.od,h.tm,fun j hj=>by rw[<-e j hj];exact h.fa j hj,h.pre⟩
theorem Chain.all {m:Nat} {G:(Nat->Value)->World->Prop} (hlt:∀ k j,k<m->(dep D k).contains j=true->j<k):∀ (l:List Oper) (k:Nat) (F:List Fact),F.length=k->k<=m->(∀ j,l[j]?=ops[k+j]?) ->
  Chain P ops D al st og nq t0 ds w0 m G l k F->∃ H:Nat->Fact,(∀ j,j<k->H j=fact F j) /\
   (∀ j,k<=j->j<m->Stays st og nq j (H j)/\∃ o,ops[j]?=some o/\Runs P ops D al st og nq t0 ds w0 H j o (H j))/\∀ x w,Left D al og nq w0 H m x w->G x w:=by
 intro l
 induction l with
 | nil=>intro k F hF hk hl h;exact⟨fact F,fun _ _=>rfl,fun j h1 h2=>by have:=h.1;omega,h.2⟩
 | cons o l ih =>
  intro k F hF hk hl h;rcases h with ⟨rfl,h⟩ | ⟨V,hs,hr,h⟩
  ·exact⟨fact F,fun _ _=>rfl,fun j h1 h2=>by omega,h⟩
  by_cases hkm:k<m
  ·obtain⟨H,h1,h2,h3⟩:=ih (k+1) (V::F) (by simp[hF]) hkm (fun j=>by have:=hl (j+1);simp at this;rw[this,Nat.add_right_comm,Nat.add_assoc]) h;refine⟨H,fun j hj=>by rw[h1 j (by omega),fact_lt (by omega)],fun j hj hjm=>?_,h3⟩;rcases Nat.lt_or_ge k j with hkj | hkj
   ·exact h2 j hkj hjm
   obtain rfl:j=k:=by omega
   have hH:H j=V:=by rw[h1 j (by omega),<-hF,fact_len]
   refine⟨by rw[hH];exact hs,o,by have:=hl 0;simpa using this.symm,?_⟩;rw[hH];intro T x w hA;exact hr T x w (hA.congr (fun i hi=>by have:=hlt j i hkm hi;rw[h1 i (by omega),fact_lt (by omega)]))
  obtain rfl:k=m:=by omega
  have hl0:∀ (l:List Oper) (k':Nat) (F:List Fact),k<k'->¬ Chain P ops D al st og nq t0 ds w0 k G l k' F:=by
   intro l
   induction l with
   | nil=>intro k' F hk' h;have:=h.1;omega
   | cons o l ih=>intro k' F hk' h;rcases h with ⟨e,_⟩ | ⟨_,_,_,h⟩;(omega);exact ih _ _ (by omega) h
  exact absurd h (hl0 _ _ _ (by omega))
theorem Oper.wp_noQ {o:Oper} {a:Act} {w:World} {K:Act->World->Prop} {Q:Exit->Act->World->Prop} (h:o.wp P a w K noQ):o.wp P a w K Q:=by
 unfold Oper.wp at *;generalize (execOp a.eval o).run P w=r at *
 cases r with
 | ok n w' =>
  cases n<;>simp only[Oper.upon] at h ⊢ <;>
   first
    | exact h
    | exact Calls.mono h (fun e w'' he=>by
      cases e with
      | returned v=>exact he
      | panicked c=>exact False.elim he
      | outgrown=>obtain⟨_,_,hh⟩:=he;exact False.elim hh)
 | halt x w'=>cases x<;>simp only[Oper.upon] at h ⊢<;>exact False.elim h
structure Inv (H:Nat->Fact) (m:Nat) (listed:Array Bool) (a:Act) (w:World) (x:Nat->Value):Prop where
 tm:∀ j d,listed.getD j false=true->dstOf ops j=some d->a.tmps[d]?=some (x j)
 pre:∀ t,(∀ j,listed.getD j false=true->dstOf ops j≠some t)->a.tmps[t]?=t0[t]?
 sz:a.tmps.size=t0.size
 df:a.defers=ds
 be:∀ B,B<=w0.heap.size->(∀ q,q<nq->B<=og q)->Below B w0 w
 bl:∀ b,b<w0.heap.size->(∀ q,q<nq->og q≠b)->w.heap[b]?=w0.heap[b]?
 od:∀ q,q<nq->(∀ k',listed.getD k' false=true->own st k'≠some (1000+q))->w.heap[og q]?=w0.heap[og q]?
 sw:w0.heap.size<=w.heap.size
 ls:listed.size=ops.length
 dn:∀ j,listed.getD j false=true->∀ i,(dep D j).contains i=true->listed.getD i false=true
 lt:∀ j,listed.getD j false=true->j<m
 fa:∀ j,listed.getD j false=true->H j (mask (dep D j) x) (x j) w
 pt:∀ i,al.contains i=true->listed.getD i false=true->∃ g,x i=.pointer (some ⟨g,0,none⟩)/\w0.heap.size<=g/\g<w.heap.size
 ne:∀ i j,al.contains i=true->al.contains j=true->listed.getD i false=true->listed.getD j false=true->i≠j->x i≠x j
section
variable {m size:Nat} (hok:ok ops D m size=true)
include hok
theorem ok_len:m<=ops.length:=by
 unfold ok at hok;simp only[Bool.and_eq_true,decide_eq_true_eq] at hok;exact hok.1
theorem ok_at {k:Nat} {o:Oper} (ho:ops[k]?=some o) :
  (∀ e ∈ o.after,Region.binds .any e=true->e.on<k) /\
  (∀ j,(dep D k).contains j=true->(∃ e ∈ o.after,Region.binds .any e=true/\(e.on=j\/(dep D e.on).contains j=true))/\(∀ i,(dep D j).contains i=true->(dep D k).contains i=true)/\j<k) /\
  (k<m\/∀ j,j<m->(dep D k).contains j=true) /\
  (∀ d,o.dst=some d->d<size/\∀ j,j<k->dstOf ops j≠some d):=by
 unfold ok at hok;simp only[Bool.and_eq_true,decide_eq_true_eq,List.all_eq_true,List.mem_range] at hok;have h:=hok.2 k (List.getElem?_eq_some_iff.1 ho).1;rw[ho] at h;simp only[Bool.and_eq_true,Bool.or_eq_true,Bool.not_eq_true',decide_eq_true_eq,List.all_eq_true,List.mem_range,Array.all_eq_true_iff_forall_mem] at h;obtain⟨⟨⟨h1,h2⟩,h3⟩,h4⟩:=h;refine⟨fun e he hb=>(h1 e he).resolve_left (by rw[hb];exact Bool.noConfusion),fun j hj=>?_,h3,fun d hd=>?_⟩
 ·obtain⟨⟨h5,h6⟩,h7⟩:=h2 j (by simpa using hj);obtain⟨e,he,hb⟩:=Array.any_eq_true'.1 h5;simp only[Bool.and_eq_true,Bool.or_eq_true,beq_iff_eq] at hb;exact⟨⟨e,he,hb.1,hb.2⟩,fun i hi=>h6 i (by simpa using hi),h7⟩
 rw[hd] at h4;simp only[Bool.and_eq_true,decide_eq_true_eq,List.all_eq_true,List.mem_range,bne_iff_ne,ne_eq] at h4;exact h4
theorem ok_lt {k j:Nat} (h:(dep D k).contains j=true) (hk:k<ops.length):j<k:=((ok_at hok (List.getElem?_eq_getElem hk)).2.1 j h).2.2
end
theorem okSt_at (h:okSt ops D al st nq=true) {k:Nat} (hk:k<ops.length):∀ i,own st k=some i->(i<1000->(dep D k).contains i=true/\al.contains i=true)/\(¬ i<1000->i - 1000<nq)/\∀ j,j<ops.length->j≠k->own st j≠some i:=by
 intro i hi;unfold okSt at h;rw[List.all_eq_true] at h;have h1:=h k (List.mem_range.2 hk);unfold own at hi;rw[hi] at h1;simp only[Bool.and_eq_true,List.all_eq_true,List.mem_range,Bool.or_eq_true,beq_iff_eq,bne_iff_ne,ne_eq] at h1;refine⟨fun h2=>?_,fun h2=>?_,fun j hj hjk=>(h1.2 j hj).resolve_left hjk⟩
 ·have h3:=h1.1;rw[if_pos h2] at h3
  simpa using h3
 have h3:=h1.1;rw[if_neg h2] at h3
 simpa using h3
theorem tv_mask {L:List Nat} {x:Nat->Value} {i:Nat} (h:i<1000->L.contains i=true):tv og (mask L x) i=tv og x i:=by
 unfold tv
 split
 ·rename_i hi;exact mask_in (h hi)
 rfl
theorem getD_set {l:Array Bool} {i j:Nat} (h:i<l.size):(l.setIfInBounds i true).getD j false=(decide (j=i) || l.getD j false):=by
 by_cases e:i=j
 ·subst e;simp[h]
 rw[getD_set_ne false e]
 simp[show ¬ j=i from fun x=>e x.symm]
theorem count_false {l:List Bool} {i:Nat} (h:l[i]?=some false):(l.set i true).count false+1=l.count false:=by
 obtain⟨hi,hv⟩:=List.getElem?_eq_some_iff.1 h;rw[List.count_set hi,hv];have:0<l.count false:=List.count_pos_iff.2 (hv ▸ List.getElem_mem hi)
 simp
 omega
section
variable {m:Nat} {Q:Exit->Act->World->Prop} {H:Nat->Fact}
theorem Inv.step (hok:ok ops D m t0.size=true) (hoks:okSt ops D al st nq=true) (h1000:∀ k i,own st k=some i->¬ i<1000) (hog:∀ q,q<nq->og q<w0.heap.size) (hod:∀ q q',q<nq->q'<nq->q≠q'->og q≠og q') (hst:∀ j,j<m->Stays st og nq j (H j)) {listed:Array Bool} {a:Act} {w:World} {x:Nat->Value} (I:Inv (ops:=ops) (D:=D) (al:=al) (st:=st) (og:=og) (nq:=nq) (t0:=t0) (ds:=ds) (w0:=w0) H m listed a w x)
  {k:Nat} {o:Oper} (ho:ops[k]?=some o) (hkm:k<m) (hun:listed.getD k false=false) (hdep:∀ j,(dep D k).contains j=true->listed.getD j false=true) {v:Value} {w':World}
  (hN:Next al st og (H k) k (mask (dep D k) x) w v w'):Inv (ops:=ops) (D:=D) (al:=al) (st:=st) (og:=og) (nq:=nq) (t0:=t0) (ds:=ds) (w0:=w0) H m (listed.setIfInBounds k true) (a.put o.dst v) w' (upd x k v):=by
 have hkl:k<ops.length:=(List.getElem?_eq_some_iff.1 ho).1;have hks:k<listed.size:=by rw[I.ls];exact hkl
 obtain⟨c1,c2,c3,c4⟩:=ok_at hok ho;have hdk:dstOf ops k=o.dst:=by simp[dstOf,ho]
 have hsp:=okSt_at hoks hkl
 -- where operation k stores
 have hpv:∀ i,own st k=some i->∃ g,tv og x i=.pointer (some ⟨g,0,none⟩)/\Priv g w w'/\((i<1000/\w0.heap.size<=g)\/(¬ i<1000/\i - 1000<nq/\g=og (i - 1000))):=by
  intro i ho';obtain⟨g,hg,hp⟩:=hN.pv i ho';obtain⟨h1,h2,h3⟩:=hsp i ho';rw[tv_mask (fun h=>(h1 h).1)] at hg;refine⟨g,hg,hp,?_⟩
  by_cases hi:i<1000
  ·obtain⟨g',e,h4,h5⟩:=I.pt i (h1 hi).2 (hdep i (h1 hi).1);unfold tv at hg;rw[if_pos hi] at hg;rw[hg] at e;injection e with e;injection e with e;injection e with e;subst e;exact Or.inl ⟨hi,h4⟩
  unfold tv at hg;rw[if_neg hi] at hg;injection hg with e;injection e with e;injection e with e;exact Or.inr ⟨hi,h2 hi,e.symm⟩
 have hsw:w.heap.size<=w'.heap.size:=by
  cases ho':own st k with
  | none=>exact (hN.bw ho').size
  | some i=>obtain⟨g,hg,hp,_⟩:=hpv i ho';exact hp.size
 have hbe:∀ B,B<=w0.heap.size->(∀ q,q<nq->B<=og q)->Below B w0 w':=fun B hB hq=>by
  refine (I.be B hB hq).trans ?_
  cases ho':own st k with
  | none=>exact (hN.bw ho').mono (by have:=I.sw;omega)
  | some i =>
   obtain⟨g,hg,hp,hc⟩:=hpv i ho';refine⟨hp.os,hp.tape,hp.output,hsw,fun q hqB=>hp.block q (by have:=I.sw;omega) ?_⟩;rcases hc with ⟨_,hc⟩ | ⟨_,h1,hc⟩
   ·omega
   have:=hq _ h1;omega
 have hbl:∀ b,b<w0.heap.size->(∀ q,q<nq->og q≠b)->w'.heap[b]?=w0.heap[b]?:=fun b hb hq=>by
  rw[<-I.bl b hb hq]
  cases ho':own st k with
  | none=>exact (hN.bw ho').block b (by have:=I.sw;omega)
  | some i =>
   obtain⟨g,hg,hp,hc⟩:=hpv i ho';refine hp.block b (by have:=I.sw;omega) ?_;rcases hc with ⟨_,hc⟩ | ⟨_,h1,hc⟩
   ·omega
   rw[hc];exact fun e=>hq _ h1 e.symm
 have hne:∀ j,listed.getD j false=true->j≠k:=fun j hj e=>by subst e;rw[hun] at hj;cases hj
 have hset:∀ j,(listed.setIfInBounds k true).getD j false=true->j=k\/listed.getD j false=true:=fun j hj=>by
  rw[getD_set hks] at hj;simpa using hj
 have hput:(a.put o.dst v).tmps=match o.dst with | some d=>a.tmps.setIfInBounds d v | none=>a.tmps:=by cases o.dst<;>rfl
 have hself:(dep D k).contains k=false:=by
  cases h:(dep D k).contains k with
  | false=>rfl
  | true=>have:=(c2 k h).2.2;omega
 -- two operations write two slots
 have hds:∀ j d,dstOf ops j=some d->o.dst=some d->j=k:=fun j d h1 h2=>by
  rcases Nat.lt_trichotomy j k with h | h | h
  ·exact absurd h1 ((c4 d h2).2 j h)
  ·exact h
  cases hoj:ops[j]? with
  | none=>simp[dstOf,hoj] at h1
  | some oj=>exact absurd (hdk.trans h2) (((ok_at hok hoj).2.2.2 d (by simpa [dstOf,hoj] using h1)).2 k h)
 refine⟨fun j d hj hd=>?_,fun t ht=>?_,?_,?_,hbe,hbl,fun q hq hl=>?_,Nat.le_trans I.sw hsw,by simpa using I.ls,fun j hj i hi=>?_,fun j hj=>?_,fun j hj=>?_,fun i hi hl=>?_,fun i j hi hj hli hlj hij=>?_⟩
 ·rw[hput];rcases hset j hj with rfl | hj'
  ·rw[hdk] at hd;rw[hd,upd_same];have:=(c4 d hd).1;rw[<-I.sz] at this
   simp[this]
  rw[upd_ne _ _ (hne j hj')]
  cases hod:o.dst with
  | none=>exact I.tm j d hj' hd
  | some e =>
   by_cases hde:e=d
   ·subst hde;exact absurd (hds j e hd hod) (hne j hj')
   simp only[];rw[Array.getElem?_setIfInBounds_ne hde];exact I.tm j d hj' hd
 ·rw[hput];have h1:a.tmps[t]?=t0[t]?:=I.pre t fun j hj=>ht j (by rw[getD_set hks];simp only[hj,Bool.or_true])
  cases hod:o.dst with
  | none=>exact h1
  | some e =>
   have:=ht k (by rw[getD_set hks];simp);rw[hdk,hod] at this;simp only[];rw[Array.getElem?_setIfInBounds_ne (fun h=>this (by rw[h]))];exact h1
 ·rw[hput,<-I.sz];cases o.dst<;>simp
 ·rw[<-I.df];cases o.dst<;>rfl
 ·rw[<-I.od q hq fun k' hk'=>hl k' (by rw[getD_set hks];simp only[hk',Bool.or_true])];have hlt:=hog q hq
  cases ho':own st k with
  | none=>exact (hN.bw ho').block _ (by have:=I.sw;omega)
  | some i =>
   obtain⟨g,hg,hp,hc⟩:=hpv i ho';refine hp.block _ (by have:=I.sw;omega) ?_;rcases hc with ⟨_,hc⟩ | ⟨hi,h1,hc⟩
   ·omega
   rw[hc];refine hod q _ hq h1 (fun e=>hl k (by rw[getD_set hks];simp) ?_);rw[ho',e];congr 1;omega
 ·rw[getD_set hks];rcases hset j hj with rfl | hj'
  ·simp only[hdep i hi,Bool.or_true]
  simp only[I.dn j hj' i hi,Bool.or_true]
 ·rcases hset j hj with rfl | hj'
  ·exact hkm
  exact I.lt j hj'
 ·rcases hset j hj with rfl | hj'
  ·rw[mask_upd _ hself,upd_same];exact hN.is
  rw[upd_ne _ _ (hne j hj'),mask_upd]
  ·cases ho':own st k with
   | none=>exact (hst j (I.lt j hj')).1 _ _ _ _ (I.fa j hj') (hN.bw ho')
   | some i =>
    obtain⟨g,hg,hp,hc⟩:=hpv i ho';obtain⟨h1,h2,h3⟩:=hsp i ho';refine (hst j (I.lt j hj')).2 (fun e=>by subst e;cases ho') _ _ _ _ g (I.fa j hj') (fun i' hi'=>?_) (by rcases hc with ⟨hx,_⟩ | ⟨_,hx,hy⟩;exact absurd hx (h1000 k i ho');exact⟨_,hx,hy⟩) hp;have hjl:j<ops.length:=by have:=I.lt j hj';have:=ok_len hok;omega
    obtain⟨h4,h5,h6⟩:=okSt_at hoks hjl i' hi';have hii:i'≠i:=fun e=>by subst e;exact h3 j hjl (hne j hj') hi'
    rw[tv_mask (fun h=>(h4 h).1)]
    by_cases hi1:i'<1000
    ·obtain⟨g',e',q1,q2⟩:=I.pt i' (h4 hi1).2 (I.dn j hj' i' (h4 hi1).1);have ht:tv og x i'=x i':=if_pos hi1;rw[ht];rcases hc with ⟨hi2,hc⟩ | ⟨hi2,hq2,hc⟩
     ·have ht2:tv og x i=x i:=if_pos hi2;rw[ht2] at hg;exact fun e=>I.ne i' i (h4 hi1).2 (h1 hi2).2 (I.dn j hj' i' (h4 hi1).1) (hdep i (h1 hi2).1) hii (e.trans hg.symm)
     intro e;rw[e'] at e;injection e with e;injection e with e;injection e with e;have:=hog _ hq2;omega
    have ht:tv og x i'=.pointer (some ⟨og (i' - 1000),0,none⟩):=if_neg hi1;rw[ht];intro e;injection e with e;injection e with e;injection e with e;have hl':=hog _ (h5 hi1);rcases hc with ⟨hi2,hc⟩ | ⟨hi2,hq2,hc⟩
    ·omega
    exact hod _ _ (h5 hi1) hq2 (by omega) (e.trans hc)
  cases h:(dep D j).contains k with
  | false=>rfl
  | true=>have:=I.dn j hj' k h;rw[hun] at this;cases this
 ·rcases hset i hl with rfl | hl'
  ·obtain⟨g,h1,h2,h3⟩:=hN.al hi;exact⟨g,by rw[upd_same];exact h1,by have:=I.sw;omega,h3⟩
  obtain⟨g,h1,h2,h3⟩:=I.pt i hi hl';exact⟨g,by rw[upd_ne _ _ (hne i hl')];exact h1,h2,by omega⟩
 rcases hset i hli with rfl | hli'<;>rcases hset j hlj with rfl | hlj'
 ·exact absurd rfl hij
 ·obtain⟨g,h1,h2,h3⟩:=hN.al hi;obtain⟨g',h1',h2',h3'⟩:=I.pt j hj hlj';rw[upd_same,upd_ne _ _ (hne j hlj'),h1,h1'];intro e;injection e with e;injection e with e;injection e with e;omega
 ·obtain⟨g,h1,h2,h3⟩:=hN.al hj;obtain⟨g',h1',h2',h3'⟩:=I.pt i hi hli';rw[upd_same,upd_ne _ _ (hne i hli'),h1,h1'];intro e;injection e with e;injection e with e;injection e with e;omega
 rw[upd_ne _ _ (hne i hli'),upd_ne _ _ (hne j hlj')];exact I.ne i j hi hj hli' hlj' hij
def Rest (P:Program) (ops:List Oper) (Q:Exit->Act->World->Prop) (t0:Array Value) (ds:List Deferred) (m:Nat) (x:Nat->Value) (w:World):Prop:=
 wpAny P .any ops.toArray Q (ops.length - m) (List.replicate m true++List.replicate (ops.length - m) false).toArray ⟨fill (ops.take m) x 0 t0,ds⟩ w
theorem dstOf_take {m j:Nat} (h:j<m):dstOf (ops.take m) j=dstOf ops j:=by
 unfold dstOf;rw[List.getElem?_take_of_lt h]
theorem dstOf_take_ge {m j:Nat} (h:m<=j):dstOf (ops.take m) j=none:=by
 unfold dstOf;rw[List.getElem?_eq_none (by simp;omega)];rfl
theorem finish (hml:m<=ops.length) {listed:Array Bool} {a:Act} {w:World} {x:Nat->Value}
  (I:Inv (ops:=ops) (D:=D) (al:=al) (st:=st) (og:=og) (nq:=nq) (t0:=t0) (ds:=ds) (w0:=w0) H m listed a w x) (hall:∀ j,j<m->listed.getD j false=true)
  (hG:∀ x w,Left D al og nq w0 H m x w->Rest P ops Q t0 ds m x w):wpAny P .any ops.toArray Q (listed.toList.count false) listed a w:=by
 have h:=hG x w ⟨⟨I.be,I.bl⟩,fun j hj=>I.fa j (hall j hj),fun i hi him=>I.pt i hi (hall i him),fun i j hi hj him hjm hij=>I.ne i j hi hj (hall i him) (hall j hjm) hij⟩
 have hl:listed=(List.replicate m true++List.replicate (ops.length - m) false).toArray:=by
  apply Array.ext
  ·rw[I.ls];simp;omega
  intro i h1 h2;rw[I.ls] at h1
  by_cases hi:i<m
  ·have:=hall i hi;rw[Array.getD_eq_getD_getElem?,Array.getElem?_eq_getElem (by rw[I.ls];exact h1)] at this;simp only[Option.getD_some] at this;rw[this]
   simp[List.getElem_append_left,hi]
  have h3:listed.getD i false=false:=by
   cases h:listed.getD i false with
   | false=>rfl
   | true=>exact absurd (I.lt i h) hi
  rw[Array.getD_eq_getD_getElem?,Array.getElem?_eq_getElem (by rw[I.ls];exact h1)] at h3;simp only[Option.getD_some] at h3;rw[h3]
  simp[List.getElem_append,hi]
 have ha:a=⟨fill (ops.take m) x 0 t0,ds⟩:=by
  have e:fill (ops.take m) x 0 t0=a.tmps:=by
   refine fill_eq _ x 0 t0 a.tmps I.sz (fun j d hd=>?_) (fun t ht=>?_)
   ·rcases Nat.lt_or_ge j m with hj | hj
    ·rw[dstOf_take hj] at hd;rw[Nat.zero_add];exact I.tm j d (hall j hj) hd
    rw[dstOf_take_ge hj] at hd;cases hd
   refine I.pre t fun j hj=>?_
   have:=ht j
   rwa [dstOf_take (I.lt j hj)] at this
  rw[e,<-I.df]
 have hc:listed.toList.count false=ops.length - m:=by rw[hl];simp[List.count_replicate]
 rw[hc,hl,ha];exact h
theorem main (hok:ok ops D m t0.size=true) (hoks:okSt ops D al st nq=true) (h1000:∀ k i,own st k=some i->¬ i<1000) (hog:∀ q,q<nq->og q<w0.heap.size) (hod:∀ q q',q<nq->q'<nq->q≠q'->og q≠og q') (hst:∀ j,j<m->Stays st og nq j (H j)) (hrun:∀ j,j<m->∃ o,ops[j]?=some o/\Runs P ops D al st og nq t0 ds w0 H j o (H j))
  (hG:∀ x w,Left D al og nq w0 H m x w->Rest P ops Q t0 ds m x w) :
  ∀ (fuel:Nat) (listed:Array Bool) (a:Act) (w:World) (x:Nat->Value),listed.toList.count false=fuel->Inv (ops:=ops) (D:=D) (al:=al) (st:=st) (og:=og) (nq:=nq) (t0:=t0) (ds:=ds) (w0:=w0) H m listed a w x->wpAny P .any ops.toArray Q fuel listed a w:=by
 have hml:=ok_len hok;intro fuel
 induction fuel with
 | zero =>
  intro listed a w x hc I;rw[<-hc];refine finish hml I (fun j hj=>?_) hG;rw[Array.getD_eq_getD_getElem?,Array.getElem?_eq_getElem (by rw[I.ls];omega)];simp only[Option.getD_some];have h0:=List.count_eq_zero.1 hc
  cases h:listed[j]'(by rw[I.ls];omega) with
  | true=>rfl
  | false=>exact absurd (by rw[<-h];simp) h0
 | succ fuel ih =>
  intro listed a w x hc I
  by_cases hall:∀ j,j<m->listed.getD j false=true
  ·rw[<-hc];exact finish hml I hall hG
  -- what may come up is one of the first m
  have hready:∀ i,i ∈ Region.ready .any ops.toArray listed->listed.getD i false=false/\∃ o,ops[i]?=some o/\(∀ j,(dep D i).contains j=true->listed.getD j false=true)/\i<m:=by
   intro i hi;obtain⟨h1,o,ho,h2⟩:=mem_ready.1 hi;have ho':ops[i]?=some o:=by simpa using ho
   have hlt:i<ops.length:=(List.getElem?_eq_some_iff.1 ho').1;obtain⟨c1,c2,c3,c4⟩:=ok_at hok ho'
   have hd:∀ j,(dep D i).contains j=true->listed.getD j false=true:=fun j hj=>by
    obtain⟨⟨e,he,hb,h3⟩,_⟩:=c2 j hj;rcases h3 with rfl | h3
    ·exact h2 e he hb
    exact I.dn _ (h2 e he hb) j h3
   refine⟨?_,o,ho',hd,c3.resolve_right fun h=>hall fun j hj=>hd j (h j hj)⟩;rw[Array.getD_eq_getD_getElem?,Array.getElem?_eq_getElem (by rw[I.ls];exact hlt)] at h1 ⊢;exact h1
  refine⟨fun hr=>?_,fun i hi=>?_⟩
  ·-- the least that has not come up may come up
   exfalso
   have hex:∃ j,listed.getD j false=false/\j<m:=by
    refine Classical.byContradiction fun h=>hall fun j hj=>?_
    cases h2:listed.getD j false with
    | true=>rfl
    | false=>exact absurd ⟨j,h2,hj⟩ h
   have hmin:∃ j,(listed.getD j false=false/\j<m)/\∀ i,i<j->listed.getD i false=true:=by
    obtain⟨j,h1,h2⟩:=hex
    induction j using Nat.strongRecOn with
    | ind j ihj =>
     by_cases hlow:∃ i,i<j/\listed.getD i false=false
     ·obtain⟨i,h3,h4⟩:=hlow;exact ihj i h3 h4 (by omega)
     refine⟨j,⟨h1,h2⟩,fun i hi=>?_⟩
     cases h5:listed.getD i false with
     | true=>rfl
     | false=>exact absurd ⟨i,hi,h5⟩ hlow
   obtain⟨j,⟨h1,h2⟩,h3⟩:=hmin;have hjo:ops[j]?=some (ops[j]'(by omega)):=List.getElem?_eq_getElem (by omega)
   have:j ∈ Region.ready .any ops.toArray listed:=mem_ready.2 ⟨by
    rw[Array.getD_eq_getD_getElem?,Array.getElem?_eq_getElem (by rw[I.ls];omega)] at h1 ⊢
    exact h1,_,by rw[gsa];exact hjo,fun e he hb=>h3 _ ((ok_at hok hjo).1 e he hb)⟩
   rw[hr] at this;cases this
  obtain⟨hun,o,ho,hd,him⟩:=hready i hi;obtain⟨o',ho',hR⟩:=hrun i him;obtain rfl:o=o':=by rw[ho] at ho';exact Option.some.inj ho'
  have hil:i<ops.length:=(List.getElem?_eq_some_iff.1 ho).1
  have hA:At ops D st og nq t0 w0 H i a.tmps (mask (dep D i) x) w:=by
   obtain⟨c1,c2,c3,c4⟩:=ok_at hok ho;refine⟨I.be,I.bl,fun q hq hk'=>I.od q hq fun k' hlk hok'=>?_,fun j d hj hd'=>?_,fun j hj=>?_,fun t ht=>I.pre t fun j hj hjt=>?_⟩
   ·rcases hk' k' hok' with e | e
    ·subst e;rw[hun] at hlk;cases hlk
    have:=I.dn k' hlk i e;rw[hun] at this;cases this
   ·rw[mask_in hj];exact I.tm j d (hd j hj) hd'
   ·have e:mask (dep D j) (mask (dep D i) x)=mask (dep D j) x:=by
     funext q
     unfold mask
     by_cases hq:(dep D j).contains q=true
     ·rw[if_pos hq,if_pos hq,if_pos ((c2 j hj).2.1 q hq)]
     rw[if_neg hq,if_neg hq]
    rw[e,mask_in hj];exact I.fa j (hd j hj)
   have hjl:j<ops.length:=by have:=I.lt j hj;omega
   unfold R7.pre at ht;rw[List.all_eq_true] at ht;have h1:=ht j (List.mem_range.2 hjl);simp only[Bool.or_eq_true,bne_iff_ne,ne_eq,beq_iff_eq] at h1;rcases h1 with (h1 | h1) | h1
   ·exact h1 hjt
   ·subst h1;rw[hun] at hj;cases hj
   have:=I.dn j hj i h1;rw[hun] at this;cases this
  have hrun1:=hR a.tmps (mask (dep D i) x) w hA (fun a' w'=>∃ v,a'=(a.put o.dst v)/\Next al st og (H i) i (mask (dep D i) x) w v w') (fun v w' hN=>⟨v,by rw[<-I.df],hN⟩);have hil':i<listed.size:=by rw[I.ls];exact hil
  have hcount:(listed.setIfInBounds i true).toList.count false=fuel:=by
   have h1:listed.toList[i]?=some false:=by
    rw[Array.getD_eq_getD_getElem?,Array.getElem?_eq_getElem (by rw[I.ls];exact hil)] at hun;rw[List.getElem?_eq_getElem (by simpa using hil')]
    simpa using hun
   have:=count_false h1;rw[hc] at this;rw[Array.toList_setIfInBounds]
   omega
  have hgo:∀ a' w',(∃ v,a'=(a.put o.dst v)/\Next al st og (H i) i (mask (dep D i) x) w v w')->wpAny P .any ops.toArray Q fuel (listed.setIfInBounds i true) a' w':=by
   rintro a' w' ⟨v,rfl,hN⟩;exact ih _ _ _ _ hcount (I.step hok hoks h1000 hog hod hst ho him hun hd hN)
  unfold wpOp;rw[show ops.toArray[i]?=some o by simpa using ho];simp only[];have hae:(⟨a.tmps,ds⟩:Act)=a:=by rw[<-I.df]
  rw[hae] at hrun1
  split
  ·rename_i hw
   rw[if_pos hw] at hrun1;exact Or.inl (Oper.wp_noQ (Go.Oper.wp_mono hgo hrun1))
  rename_i hw
  rw[if_neg hw] at hrun1;exact hgo _ _ hrun1
theorem own_big {st:List (Nat × Nat)} (h:(st.all fun p=>decide (1000<=p.2))=true):∀ k i,own st k=some i->¬ i<1000:=by
 intro k i hi;unfold own at hi
 induction st with
 | nil=>cases hi
 | cons p l ih =>
  obtain⟨a,b⟩:=p;rw[List.all_cons,Bool.and_eq_true,decide_eq_true_eq] at h;rw[List.lookup_cons] at hi
  split at hi
  ·injection hi with hi;subst hi;have:=h.1;omega
  exact ih h.2 hi
theorem region {id:Nat} {w:World} (hm:P.follows .mixedOrders=true) (D:List (List Nat)) (al:List Nat) (st:List (Nat × Nat)) (og:Nat->Nat) (nq:Nat) (m:Nat) (hok:ok ops D m t0.size=true) (hoks:okSt ops D al st nq=true) (h1000:(st.all fun p=>decide (1000<=p.2))=true) (hog:∀ q,q<nq->og q<w.heap.size) (hod:∀ q q',q<nq->q'<nq->q≠q'->og q≠og q')
  (h:Chain P ops D al st og nq t0 ds w.drew m (Rest P ops Q t0 ds m) ops 0 []):(Code.region id ops.toArray true).wp P Q ⟨t0,ds⟩ w:=by
 refine wp_region_any hm ?_;have hml:=ok_len hok;obtain⟨H,_,h2,h3⟩:=Chain.all (fun k j hk hj=>ok_lt hok hj (by omega)) ops 0 [] rfl (Nat.zero_le _) (fun j=>by rw[Nat.zero_add]) h;have hc:(Array.replicate ops.toArray.size false).toList.count false=ops.toArray.size:=by simp
 refine main (w0:=w.drew) hok hoks (own_big h1000) hog hod (fun j hj=>(h2 j (Nat.zero_le _) hj).1) (fun j hj=>(h2 j (Nat.zero_le _) hj).2) h3 _ _ _ _ (fun _=>undef) hc ?_
 have hno:∀ j,(Array.replicate ops.toArray.size false).getD j false=true->False:=fun j hj=>by
  rw[Array.getD_eq_getD_getElem?] at hj
  by_cases h:j<ops.length<;>simp[h] at hj
 exact⟨fun j _ hj=>(hno j hj).elim,fun _ _=>rfl,rfl,rfl,fun B _ _=>Below.refl _ _,fun _ _ _=>rfl,fun _ _ _=>rfl,Nat.le_refl _,by simp,fun j hj=>(hno j hj).elim,fun j hj=>(hno j hj).elim,fun j hj=>(hno j hj).elim,fun j _ hj=>(hno j hj).elim,fun i j _ _ hj=>(hno i hj).elim⟩
theorem rest_done {x:Nat->Value} {w:World} (h:Q .normal ⟨fill ops x 0 t0,ds⟩ w):Rest P ops Q t0 ds ops.length x w:=by
 unfold Rest;rw[Nat.sub_self,List.take_length];refine⟨?_,h⟩;simp only[List.replicate_zero,List.append_nil];refine List.eq_nil_iff_forall_not_mem.2 (fun i hi=>?_);obtain⟨h1,o,ho,_⟩:=mem_ready.1 hi;have hlt:i<ops.length:=by have:=(Array.getElem?_eq_some_iff.1 ho).1;simpa using this
 simp[Array.getD_eq_getD_getElem?,hlt] at h1
end
end
def lst (n m:Nat):Array Bool:=(List.replicate m true++List.replicate (n - m) false).toArray
def inOrder (ops:List Oper) (m:Nat):Bool:=(List.range ops.length).all fun i=>decide (i<m) || Region.ready .any ops.toArray (lst ops.length i)==[i]
theorem lst_set {n m:Nat} (h:m<n):(lst n m).setIfInBounds m true=lst n (m+1):=by
 unfold lst
 apply Array.ext'
 rw[Array.toList_setIfInBounds]
 show (List.replicate m true++List.replicate (n - m) false).set m true=List.replicate (m+1) true++List.replicate (n - (m+1)) false
 rw[List.set_append_right _ _ (by simp)];simp only[List.length_replicate,Nat.sub_self];obtain⟨r,hr⟩:∃ r,n - m=r+1:=⟨n - m - 1,by omega⟩
 rw[hr,show n - (m+1)=r by omega,List.replicate_succ,List.set_cons_zero,List.replicate_succ',List.append_assoc]
 rfl
theorem ready_full (ops:List Oper):Region.ready .any ops.toArray (lst ops.length ops.length)=[]:=by
 refine List.eq_nil_iff_forall_not_mem.2 (fun i hi=>?_);obtain⟨h1,o,ho,_⟩:=mem_ready.1 hi;have hlt:i<ops.length:=by have:=(Array.getElem?_eq_some_iff.1 ho).1;simpa using this
 simp[lst,Array.getD_eq_getD_getElem?,hlt] at h1
theorem rest_any {P:Program} {ops:List Oper} {Q:Exit->Act->World->Prop}:∀ (r m:Nat),m+r=ops.length->(∀ i,m<=i->i<ops.length->Region.ready .any ops.toArray (lst ops.length i)=[i])->∀ a w,wpList P ops.toArray Q (ops.drop m) a w->wpAny P .any ops.toArray Q r (lst ops.length m) a w
 | 0,m,hm,_,a,w,h=>by
  have e:m=ops.length:=by omega
  subst e;rw[List.drop_length] at h;exact⟨ready_full ops,h⟩
 | r+1,m,hm,hr,a,w,h=>by
  have hlt:m<ops.length:=by omega
  have h0:=hr m (Nat.le_refl _) hlt;refine⟨(fun hn=>by rw[h0] at hn;cases hn),fun i hi=>?_⟩;rw[h0,List.mem_singleton] at hi;subst hi;rw[List.drop_eq_getElem_cons hlt] at h;have ho:ops.toArray[i]?=some ops[i]:=by simp[hlt]
  have ih:=rest_any (P:=P) (Q:=Q) r (i+1) (by omega) (fun j hj hj'=>hr j (by omega) hj');unfold wpOp;rw[ho,lst_set hlt];simp only[wpList] at h ⊢
  split
  ·rename_i hw
   rw[if_pos hw] at h;rcases h with h | h
   ·exact .inl (Go.Oper.wp_mono (fun a' w' h'=>ih a' w' h') h)
   exact .inr h
  rename_i hw
  rw[if_neg hw] at h;exact ih _ _ h
theorem rest_list {P:Program} {ops:List Oper} {Q:Exit->Act->World->Prop} {t0:Array Value} {ds:List Deferred} {m:Nat} {x:Nat->Value} {w:World} (hm:m<=ops.length) (hi:inOrder ops m=true)
  (h:wpList P ops.toArray Q (ops.drop m) ⟨fill (ops.take m) x 0 t0,ds⟩ w):Rest P ops Q t0 ds m x w:=by
 unfold Rest;refine rest_any (ops.length - m) m (by omega) (fun i h1 h2=>?_) _ _ h;unfold inOrder at hi;have:=List.all_eq_true.1 hi i (List.mem_range.2 h2);simp only[Bool.or_eq_true,decide_eq_true_eq,beq_iff_eq] at this;exact this.resolve_left (by omega)
section
variable {P:Program} {ops:List Oper} {D:List (List Nat)} {al:List Nat} {st:List (Nat × Nat)} {og:Nat → Nat} {nq:Nat} {t0:Array Value} {ds:List Deferred} {w0:World}
theorem mi {L:List Nat} {x:Nat → Value} {j:Nat} (h:L.contains j=true):mask L x j=x j:=mask_in h
theorem cd {m k:Nat} {G:(Nat → Value) → World → Prop} {o:Oper} {l:List Oper} {F:List Fact} (f:(Nat → Value) → Value) (hr:∀ (T:Array Value) (x:Nat → Value) (w:World),At ops D st og nq t0 w0 (fact F) k T x w → (execOp (Act.eval ⟨T,ds⟩) o).run P w=.ok (.value (f x)) w)
    (h:Chain P ops D al st og nq t0 ds w0 m G l (k+1) ((fun x v _=>v=f x)::F)) (hp:plain al st k=true:=by rfl) (hw:∀ T:Array Value,Region.wanted o (yielded ops.toArray T)=true:=by (intro T;rfl)):Chain P ops D al st og nq t0 ds w0 m G (o::l) k F:=Chain.det f hp (fun T x w hA=>⟨hw T,hr T x w hA⟩) h
theorem At.tq {F:Nat → Fact} {k:Nat} {T:Array Value} {x:Nat → Value} {w:World} (h:At ops D st og nq t0 w0 F k T x w) (j d:Nat) (h1:(dep D k).contains j=true:=by rfl) (h2:dstOf ops j=some d:=by rfl):T[d]?=some (x j):=h.tm j d h1 h2
theorem At.fq {F:Nat → Fact} {k:Nat} {T:Array Value} {x:Nat → Value} {w:World} (h:At ops D st og nq t0 w0 F k T x w) (j:Nat) (h1:(dep D k).contains j=true:=by rfl):F j (mask (dep D j) x) (x j) w:=h.fa j h1
theorem At.pq {F:Nat → Fact} {k:Nat} {T:Array Value} {x:Nat → Value} {w:World} (h:At ops D st og nq t0 w0 F k T x w) (t:Nat) (h1:R7.pre ops D k t=true:=by kernel_rfl):T[t]?=t0[t]?:=h.pre t h1
theorem b0_ {cur new:World} (h:∀ B,B ≤ cur.drew.heap.size → (∀ q,q<0 → B ≤ og q) → Below B cur.drew new):Below cur.heap.size cur new:=(fun k:Below cur.heap.size cur.drew new=>⟨k.os,k.tape,k.output,k.size,k.block⟩) (h cur.heap.size (Nat.le_refl _) (fun _ h=>absurd h (Nat.not_lt_zero _)))
theorem r0 {id:Nat} {w:World} {Q:Exit → Act → World → Prop} (D:List (List Nat)) (m:Nat) (h:Chain P ops D [] [] (fun _=>0) 0 t0 ds w.drew m (Rest P ops Q t0 ds m) ops 0 []) (hm:P.follows .mixedOrders=true:=by kernel_rfl) (hok:ok ops D m t0.size=true:=by kernel_rfl) (hoks:okSt ops D [] [] 0=true:=by kernel_rfl):(Code.region id ops.toArray true).wp P Q ⟨t0,ds⟩ w:=
  region hm D [] [] (fun _=>0) 0 m hok hoks rfl (fun q h=>absurd h (Nat.not_lt_zero _)) (fun q q' h=>absurd h (Nat.not_lt_zero _)) h
end
end R7
set_option linter.unusedVariables false
set_option linter.unusedSimpArgs false
theorem add_blockV (a:Addr) (i:Nat):(a.add i).block=a.block:=by unfold Addr.add;split<;>rfl
theorem add_litV (g o i:Nat):(⟨g,o,none⟩:Addr).add i=⟨g,o+i,none⟩:=by simp[Addr.add]
theorem add_addV (a:Addr) (i j:Nat):(a.add i).add j=a.add (i+j):=addr_add_add a i j
def N32 (l:List Value):Prop:=∀ u ∈ l,∀ z,u ≠ .int .u32 z
theorem below_grownV {w w':World} (h:Below w.heap.size w w') (row:Option Nat):w.grownBy w' row:=⟨h.os,h.tape,h.output,h.size,fun k hk _=>h.block k hk⟩
theorem N32.app {a b:List Value} (h:N32 a) (k:N32 b):N32 (a++b):=fun u hu=>by
 rcases List.mem_append.1 hu with hu | hu
 ·exact h u hu
 exact k u hu
theorem N32.take {a:List Value} (h:N32 a) (n:Nat):N32 (a.take n):=fun u hu=>h u (List.mem_of_mem_take hu)
theorem N32.drop {a:List Value} (h:N32 a) (n:Nat):N32 (a.drop n):=fun u hu=>h u (List.mem_of_mem_drop hu)
theorem N32.zeros {c:Array Value} (h:N32 c.toList) (n:Nat):N32 (Builtin.zeroCells c n).toList:=by
 intro u hu;unfold Builtin.zeroCells at hu;rw[Array.mem_toList_iff,Array.mem_map] at hu;obtain⟨i,hi,rfl⟩:=hu;rw[Array.mem_range] at hi
 have h0:0<c.size:=by
  rcases Nat.eq_zero_or_pos c.size with h0 | h0
  ·rw[h0] at hi;omega
  exact h0
 have hl:=Nat.mod_lt i h0;rw[getElem!_pos c _ hl];exact h _ (Array.mem_toList_iff.2 (Array.getElem_mem hl))
theorem N32.flat {α:Type} {f:α->List Value} {l:List α} (h:∀ a,N32 (f a)):N32 (l.flatMap f):=fun u hu=>by
 obtain⟨a,_,ha⟩:=List.mem_flatMap.1 hu;exact h a u ha
structure Fr (e:TypeId) (w w':World):Prop where
 block:∀ (g:Nat) (c:Array Value) (T:TypeId),w.heap[g]?=some (.cells c T (0,0))->T≠e->w'.heap[g]?=some (.cells c T (0,0))
 num:∀ (a:Addr) (z:Int),w.cell? a=some (.int .u32 z)->w'.cell? a=some (.int .u32 z)
theorem Fr.refl (e:TypeId) (w:World):Fr e w w:=⟨fun _ _ _ h _=>h,fun _ _ h=>h⟩
theorem Fr.of_below {e:TypeId} {w w':World} (h:Below w.heap.size w w'):Fr e w w':=
 ⟨fun g c T hg _=>by rw[h.block g (lt_of_block hg)];exact hg,fun a z hc=>by rw[h.cell (World.block_lt_of_cell? w a hc)];exact hc⟩
theorem cell_n32 {w:World} {g:Nat} {c:Array Value} {T:TypeId} {fz:Nat × Nat} (h:w.heap[g]?=some (.cells c T fz)) (h32:N32 c.toList) {a:Addr} (ha:a.block=g) (z:Int):w.cell? a≠some (.int .u32 z):=by
 intro hc;unfold World.cell? at hc;rw[ha,h] at hc;simp only at hc
 split at hc
 ·cases hc
 exact h32 _ (Array.mem_toList_iff.2 (Array.mem_of_getElem? hc)) z rfl
theorem Fr.of_grown {e:TypeId} {w w':World} {r:Option Nat} (hg:w.grownBy w' r) (hr:∀ g,r=some g->∃ c,w.heap[g]?=some (.cells c e (0,0))/\N32 c.toList):Fr e w w':=
 ⟨fun g x T hx hT=>by
  rw[hg.block g (lt_of_block hx) (fun h=>by
   obtain⟨c,hc,-⟩:=hr g h.symm
   rw[hx] at hc;injection hc with hc;injection hc with _ hc;exact hT hc)];exact hx,
  fun a z hc=>by
  refine hg.cell hc (fun h=>?_);obtain⟨c,hcc,h32⟩:=hr _ h.symm
  exact cell_n32 hcc h32 rfl z hc⟩
theorem Sl.fr {e:TypeId} {w w':World} {v:Value} {xs:List Nat} (h:Sl w .u32 v xs) (k:Fr e w w'):Sl w' .u32 v xs:=by
 obtain⟨ao,cap,e1,h1,h2,h3,h4⟩:=h;refine⟨ao,cap,e1,h1,h2,h3,fun i hi=>?_⟩;obtain⟨a,ha,hc⟩:=h4 i hi;exact⟨a,ha,k.num _ _ hc⟩
theorem CI.fr {e:TypeId} {w w':World} {v:Value} {z:Int} {k:Nat} (h:CI w v z k) (f:Fr e w w'):CI w' v z k:=by
 obtain⟨va,h1,h2,h3⟩:=h;exact⟨va,h1,h2.fr f,h3⟩
theorem CI.mono {w:World} {v:Value} {z:Int} {k k':Nat} (h:CI w v z k) (hk:k<=k'):CI w v z k':=by
 obtain⟨va,h1,h2,h3⟩:=h;exact⟨va,h1,h2,lt_pow_more h3 hk⟩
structure El (α:Type) where
 e:TypeId
 t:TypeId
 n:Nat
 b:Nat
 z:Value
 f:α->List Value
 R:World->α->Prop
 ok:TypeId->Prop
 pos:0<n
 by_:b<=1000
 zs:z.cells.size=n
 z32:N32 z.cells.toList
 ht:Try.prog.underlying t=some (.slice e)
 info:(Try.prog.info? e).map (fun i=>(i.zero,i.size,i.bytes))=some (some z,n,b)
 len:∀ a,(f a).length=n
 one:∀ a,∀ u ∈ f a,u.oneCell'=true
 n32:∀ a,N32 (f a)
 fr:∀ {e':TypeId} {w w':World} {a:α},ok e'->Fr e' w w'->R w a->R w' a
 own:ok e
section
variable {α:Type} (E:El α)
theorem El.below {w w':World} {a:α} (h:E.R w a) (hb:Below w.heap.size w w'):E.R w' a:=E.fr E.own (Fr.of_below hb) h
theorem flat_atV {α:Type} {n:Nat} (f:α->List Value) (hf:∀ a,(f a).length=n):∀ (l:List α) (i j:Nat) (hi:i<l.length),j<n->(l.flatMap f)[i*n+j]?=(f l[i])[j]?:=by
 intro l
 induction l with
 | nil=>intro i j hi;simp at hi
 | cons a l ih =>
  intro i j hi hj;rw[List.flatMap_cons]
  cases i with
  | zero=>rw[Nat.zero_mul,Nat.zero_add,List.getElem?_append_left (by rw[hf];exact hj)];rfl
  | succ i =>
   rw[List.getElem?_append_right (by rw[hf,Nat.add_mul];omega),hf,show (i+1)*n+j - n=i*n+j by rw[Nat.add_mul];omega,List.getElem_cons_succ];exact ih i j (by simpa using hi) hj
theorem flat_lenV {α:Type} {n:Nat} (f:α->List Value) (hf:∀ a,(f a).length=n):∀ l:List α,(l.flatMap f).length=l.length*n:=by
 intro l
 induction l with
 | nil=>simp
 | cons a l ih=>rw[List.flatMap_cons,lsa,ih,hf,lsc,Nat.add_mul];omega
structure El.Row (w:World) (B:Nat) (v:Value) (el:List α):Prop where
 own:w.ownsRow B E.e E.n v el.length (el.flatMap E.f)
 n32:∀ g,v.ownBlock=some g->∃ c,w.heap[g]?=some (.cells c E.e (0,0))/\N32 c.toList
 rd:∀ a ∈ el,E.R w a
def El.At (w:World) (v:Value) (el:List α):Prop:=∃ ko kc,v=.slice ko el.length kc/\(el.length<=kc/\kc<=maxLen/\(ko=none->kc=0)) /\
 ∀ i (h:i<el.length),∃ a,ko=some a/\(∃ c,w.heap[a.block]?=some (.cells c E.e (0,0)))/\(∀ j u,(E.f el[i])[j]?=some u->w.cell? (a.add (i*E.n+j))=some u)/\E.R w el[i]
variable {E}
theorem El.Row.nil (w:World) (B:Nat):E.Row w B (.slice none 0 0) []:=⟨World.ownsRow_nil _ _ _ _,fun _ h=>(by cases h),fun q h=>(by cases h)⟩
theorem El.Row.form {w:World} {B:Nat} {v:Value} {el:List α} (h:E.Row w B v el):∃ ko kc,v=.slice ko el.length kc/\el.length<=kc/\kc<=maxLen/\(ko=none->kc=0):=by
 rcases h.own.2 with ⟨rfl,h1⟩ | ⟨g,cap,cur,rfl,_,_,h1,h2,_⟩
 ·rw[h1];exact⟨_,_,rfl,Nat.le_refl _,Nat.zero_le _,fun _=>rfl⟩
 exact⟨_,_,rfl,h1,h2,fun h=>by cases h⟩
theorem El.Row.ge {w:World} {B:Nat} {v:Value} {el:List α} (h:E.Row w B v el) {j:Nat} (hj:v.ownBlock=some j):B<=j/\j<w.heap.size:=World.ownsRow.lt h.own j hj
theorem El.Row.below {w w':World} {B:Nat} {v:Value} {el:List α} (h:E.Row w B v el) (hb:Below w.heap.size w w'):E.Row w' B v el:=by
 refine⟨?_,fun g hg=>?_,fun q hq=>E.below (h.rd q hq) hb⟩
 ·rcases hr:v.ownBlock with _ | j
  ·exact World.ownsRow.kept h.own (below_grownV hb none) (.inl hr)
  exact World.ownsRow.kept h.own (below_grownV hb none) (.inr (by rw[hr];intro e;cases e))
 obtain⟨c,hc,h32⟩:=h.n32 g hg;exact⟨c,by rw[hb.block g (lt_of_block hc)];exact hc,h32⟩
theorem El.Row.at {w:World} {B:Nat} {v:Value} {el:List α} (h:E.Row w B v el):E.At w v el:=by
 obtain⟨ko,kc,rfl,h1⟩:=h.form;refine⟨ko,kc,rfl,h1,fun i hi=>?_⟩;rcases h.own.2 with ⟨hv,h0⟩ | ⟨g,cap,cur,hv,_,hg,h2,h3,h4,h5⟩
 ·omega
 injection hv with e1 e2 e3;subst e1;subst e3;refine⟨_,rfl,⟨cur,hg⟩,fun j u hu=>?_,h.rd _ (List.getElem_mem hi)⟩;have hj:j<E.n:=by have:=(List.getElem?_eq_some_iff.1 hu).1;rwa [E.len] at this
 rw[add_litV,Nat.zero_add,World.ownsRow.cellAt h.own (i*E.n+j) (by
  calc i*E.n+j<i*E.n+E.n:=by omega
   _=(i+1)*E.n:=by rw[Nat.add_mul];omega
   _<=el.length*E.n:=Nat.mul_le_mul_right _ hi),flat_atV E.f E.len el i j hi hj]
 exact hu
theorem El.At.nil (w:World):E.At w (.slice none 0 0) []:=(El.Row.nil w 0).at
theorem El.At.fr {e':TypeId} {w w':World} {v:Value} {el:List α} (h:E.At w v el) (hok:E.ok e') (hne:E.e≠e') (f:Fr e' w w'):E.At w' v el:=by
 obtain⟨ko,kc,rfl,h1,h2⟩:=h;refine⟨ko,kc,rfl,h1,fun i hi=>?_⟩;obtain⟨a,ha,⟨c,hc⟩,h3,h4⟩:=h2 i hi;have hc':=f.block _ _ _ hc hne;refine⟨a,ha,⟨c,hc'⟩,fun j u hu=>?_,E.fr hok f h4⟩;rw[World.cell?_of_block (w:=w) (by rw[add_blockV,hc,hc'])];exact h3 j u hu
theorem El.At.below {w w':World} {v:Value} {el:List α} (h:E.At w v el) (hb:Below w.heap.size w w'):E.At w' v el:=by
 obtain⟨ko,kc,rfl,h1,h2⟩:=h;refine⟨ko,kc,rfl,h1,fun i hi=>?_⟩;obtain⟨a,ha,⟨c,hc⟩,h3,h4⟩:=h2 i hi;have hc':=hb.block _ (lt_of_block hc);refine⟨a,ha,⟨c,by rw[hc'];exact hc⟩,fun j u hu=>?_,E.below h4 hb⟩;rw[World.cell?_of_block (w:=w) (by rw[add_blockV,hc'])];exact h3 j u hu
theorem El.At.block {w:World} {g:Nat} {el:List α} (h:w.heap[g]?=some (.cells (el.flatMap E.f).toArray E.e (0,0))) (hl:el.length<=maxLen) (hR:∀ a ∈ el,E.R w a):E.At w (.slice (some ⟨g,0,none⟩) el.length el.length) el:=by
 refine⟨_,_,rfl,⟨Nat.le_refl _,hl,fun h=>by cases h⟩,fun i hi=>⟨_,rfl,⟨_,h⟩,fun j u hu=>?_,hR _ (List.getElem_mem hi)⟩⟩;have hj:j<E.n:=by have:=(List.getElem?_eq_some_iff.1 hu).1;rwa [E.len] at this
 rw[add_litV,Nat.zero_add,cell_of_row w g _ _ _ _ h,gsa,flat_atV E.f E.len el i j hi hj];exact hu
theorem El.At.sub {w:World} {ko:Option Addr} {n kc:Nat} {el:List α} (h:E.At w (.slice ko n kc) el) {i j:Nat} (hij:i<=j) (hj:j<=el.length) :
  E.At w (sliced ko i j kc E.n) ((el.drop i).take (j - i)):=by
 obtain⟨ko',kc',e,⟨h1,h2,h3⟩,h4⟩:=h;injection e with e1 e2 e3;subst e1;subst e3;have hlen:((el.drop i).take (j - i)).length=j - i:=by simp;omega
 unfold sliced;refine⟨if kc=i then ko else ko.map (·.add (i*E.n)),kc - i,by rw[hlen],⟨by omega,by omega,fun h=>?_⟩,fun q hq=>?_⟩
 ·split at h
  ·omega
  cases ko with
  | none=>have:=h3 rfl;omega
  | some a=>cases h
 have hq':i+q<el.length:=by omega
 obtain⟨a,rfl,hc,h5,h6⟩:=h4 (i+q) hq';have hne:¬ kc=i:=by omega
 have hel:((el.drop i).take (j - i))[q]=el[i+q]:=by rw[List.getElem_take,List.getElem_drop]
 rw[if_neg hne,hel];refine⟨a.add (i*E.n),rfl,by rw[add_blockV];exact hc,fun p u hu=>?_,h6⟩;rw[add_addV,show i*E.n+(q*E.n+p)=(i+q)*E.n+p by rw[Nat.add_mul];omega];exact h5 p u hu
theorem El.At.news {w:World} {a:Addr} {n kc:Nat} {el:List α} (h:E.At w (.slice (some a) n kc) el):∀ j u,(el.flatMap E.f)[j]?=some u->w.cell? (a.add j)=some u:=by
 intro j u hu;obtain⟨ko',kc',e,h1,h4⟩:=h;injection e with e1 e2 e3;have hjl:j<el.length*E.n:=by have:=(List.getElem?_eq_some_iff.1 hu).1;rwa [flat_lenV E.f E.len] at this
 have hp:=E.pos;have hi:j / E.n<el.length:=(Nat.div_lt_iff_lt_mul hp).2 hjl;have hm:j % E.n<E.n:=Nat.mod_lt _ hp;have hd:j / E.n*E.n+j % E.n=j:=by rw[Nat.mul_comm];exact Nat.div_add_mod j E.n
 obtain⟨b,hb,-,h5,-⟩:=h4 _ hi;rw[<-e1] at hb;injection hb with hb;subst hb;have:=h5 (j % E.n) u (by rw[<-flat_atV E.f E.len el (j / E.n) (j % E.n) hi hm,hd];exact hu)
 rwa [hd] at this
theorem El.Row.run {w:World} {B:Nat} {v x:Value} {el ns:List α} (h:E.Row w B v el) (hx:E.At w x ns) (ty:TypeId) (hlen:el.length+ns.length<=1000000) (hB:B<=w.heap.size) :
  ∃ v' w',(Builtin.append_ #[E.t,E.t] ty #[v,x]).run Try.prog w=.ok v' w'/\E.Row w' B v' (el++ns)/\Fr E.e w w'/\Below B w w'/\w.grownBy w' v.ownBlock:=by
 obtain⟨i,hi,hz,hz1,hz2⟩:=info_parts E.info;have ht:=E.ht;have hzs:=E.zs;have hbyte:=E.by_;have hsz:=E.pos;rcases x with _ | _ | _ | _ | _ | _ | ⟨ao,m,c⟩ | _ | _ | _ | _ | _ | _ | _ | _ | _<;>first | (obtain⟨_,_,e,_⟩:=hx;cases e;done) | skip
 have hm:m=ns.length:=by obtain⟨_,_,e,_⟩:=hx;injection e
 have fin:∀ v' w',E.Row w' B v' (el++ns)->w.grownBy w' v.ownBlock->E.Row w' B v' (el++ns)/\Fr E.e w w'/\Below B w w'/\w.grownBy w' v.ownBlock:=fun v' w' h1 h2 =>
  ⟨h1,.of_grown h2 h.n32,⟨h2.os,h2.tape,h2.output,h2.size,fun k hk=>h2.block k (by omega) (fun e=>by have:=(h.ge e.symm).1;omega)⟩,h2⟩
 cases ao with
 | none =>
  have h0:ns=[]:=by
   cases ns with
   | nil=>rfl
   | cons a l=>obtain⟨_,_,e,_,h4⟩:=hx;injection e with e1 e2 e3;subst e1;obtain⟨_,hb,_⟩:=h4 0 (by simp);cases hb
  have hc:c=0:=by obtain⟨_,_,e,⟨_,_,h3⟩,_⟩:=hx;injection e with e1 e2 e3;subst e1;subst e3;exact h3 rfl
  subst h0;subst hc;subst hm;refine⟨v,w,run_append_owned_none w B E.t ty E.e i E.n ht hi v el.length _ h.own,?_⟩;rw[List.append_nil];exact⟨h,Fr.refl _ _,Below.refl _ _,World.grownBy.refl _ _⟩
 | some a =>
  subst hm;have hnews:=hx.news;have hl:=flat_lenV E.f E.len ns
  have h1:∀ u ∈ ns.flatMap E.f,u.oneCell'=true:=fun u hu=>by
   obtain⟨b,_,hb⟩:=List.mem_flatMap.1 hu;exact E.one b u hb
  have h32:N32 (ns.flatMap E.f):=N32.flat E.n32
  have hb2:(el.length+ns.length)*i.bytes<=140737488355328:=by
   rw[hz2];exact Nat.le_trans (Nat.mul_le_mul hlen hbyte) (by decide)
  have hmx:el.length+ns.length<=maxLen:=by unfold maxLen;omega
  obtain⟨v',w',hr,h2,h3,h4⟩:=run_append_own (P:=Try.prog) w B E.t ty E.e i E.z E.n E.b ht hi hz hz1 hz2 hzs hsz v el.length _ h.own a ns.length c _ hl hnews h1 hmx (by rw[<-hz2];exact hb2) hB;refine⟨v',w',hr,fin v' w' ⟨?_,?_,?_⟩ h3⟩
  ·rw[lsa,List.flatMap_append];exact h2
  ·rw[<-hz1] at hl;have hown1:(el.flatMap E.f).length=el.length*i.size:=by rw[hz1];exact h.own.1
   intro g hg;rcases h.own.2 with ⟨rfl,h0⟩ | ⟨q,cap,cur,rfl,hbg,hgq,hnc,hcm,hcs,htake⟩
   ·by_cases hm:ns.length=0
    ·have hnone:=h4.2 ⟨rfl,hm⟩;rw[hnone] at hg;cases hg
    have hr2:=run_append_nil (P:=Try.prog) w E.t ty E.e i E.z ht hi hz a ns.length c _ hl hnews (by omega) (by omega) (by have hb3:=Nat.mul_le_mul_right i.bytes (Nat.le_add_left ns.length el.length);omega);rw[hr] at hr2;injection hr2 with e1 e2;subst e1 e2;injection hg with hg;subst hg;exact⟨_,heap_alloc_new w.drew _,by simp only[Array.toList_append,List.toList_toArray];exact h32.app (N32.zeros E.z32 _)⟩
   obtain⟨cc,hcc,hc32⟩:=h.n32 q rfl;rw[hgq] at hcc;injection hcc with hcc;injection hcc with hcc;subst hcc
   by_cases hroom:el.length+ns.length<=cap
   ·have hfit:el.length*i.size+(ns.flatMap E.f).length<=cur.size:=by rw[hl,hcs,<-hz1,<-Nat.add_mul];exact Nat.mul_le_mul_right _ hroom
    have hr2:=run_append_room (P:=Try.prog) w E.t ty E.e i ht hi q el.length cap cur hgq a ns.length c _ hl hnews h1 hroom hfit;rw[hr] at hr2;injection hr2 with e1 e2;subst e1 e2;injection hg with hg;subst hg;exact⟨_,setRow_heap w q cur _ E.e _ hgq,by simp only[List.toList_toArray];exact ((hc32.take _).app h32).app (hc32.drop _)⟩
   have hr2:=run_append_grow (P:=Try.prog) w E.t ty E.e i E.z ht hi hz ⟨q,0,none⟩ el.length cap _ hown1 (h.own.cells (g:=q) rfl) a ns.length c _ hl hnews (by omega) (by omega) (growslice_fits (by omega) hb2);rw[hr] at hr2;injection hr2 with e1 e2;subst e1 e2;injection hg with hg;subst hg;exact⟨_,heap_alloc_new w.drew _,by simp only[Array.toList_append,List.toList_toArray];exact ((N32.flat E.n32).app h32).app (N32.zeros E.z32 _)⟩
  have f:Fr E.e w w':=.of_grown h3 h.n32;intro q hq;rcases List.mem_append.1 hq with hq | hq
  ·exact E.fr E.own f (h.rd q hq)
  obtain⟨k,hk,rfl⟩:=List.getElem_of_mem hq;obtain⟨_,_,_,_,h5⟩:=hx;obtain⟨_,_,_,_,h6⟩:=h5 k hk;exact E.fr E.own f h6
theorem El.Row.append {w:World} {B:Nat} {v x:Value} {el ns:List α} (h:E.Row w B v el) {ops:Array Oper} {rest:List Oper} {o:Oper} {a:Act} {Q:Exit->Act->World->Prop} (hgd:o.guard=none) (s y:Operand)
  (ho:o.op=.call { callee:=.builtin .append,args:=#[s,y],argTypes:=#[E.t,E.t] }) (hs:a.eval s=v) (hx:a.eval y=x) (hxs:E.At w x ns) (hlen:el.length+ns.length<=1000000) (hB:B<=w.heap.size)
  (hK:∀ v' w',E.Row w' B v' (el++ns)->Fr E.e w w'->Below B w w'->w.grownBy w' v.ownBlock->wpList Try.prog ops Q rest (a.put o.dst v') w'):wpList Try.prog ops Q (o::rest) a w:=by
 refine wpList_plain hgd fun K hk=>?_
 obtain⟨v',w',hr,h1,h2,h3,h4⟩:=h.run hxs o.type hlen hB;unfold Oper.wp execOp;simp only[ho,resolve,invoke,builtin,Sem.run_bind,Sem.run_pure,Result.andThen_ok,List.map_toArray,List.map_cons,List.map_nil,hs,hx,hr];exact hk _ _ (hK v' w' h1 h2 h3 h4)
end
inductive V where
 | I (z:Int)
 | B (b:Bool)
 | L (l:List Int)
 deriving DecidableEq
def lesser (z:Int):List Int:=if z=0 then [] else 0::(if Int.tdiv z 2=0 then [] else [Int.tdiv z 2])
def shorter (l:List Int):List (List Int):=(List.range l.length).map fun i=>l.take i++l.drop (i+1)
def smaller (l:List Int):List (List Int):=(List.range l.length).flatMap fun i=>(lesser (l.getD i 0)).map fun m=>l.take i++[m]++l.drop (i+1)
def stepsV:V->List V
 | .I z=>(lesser z).map .I
 | .B _=>[]
 | .L l=>(shorter l).map .L++(smaller l).map .L
structure NU where
 o:Option Addr
 l:Nat
 c:Nat
 z:Int
def nC (n:NU):List Value:=[.bool (decide (n.z<0)),.slice n.o n.l n.c]
def nV (n:NU):Value:=.agg #[.bool (decide (n.z<0)),.slice n.o n.l n.c]
def NR (w:World) (n:NU):Prop:=CI w (nV n) n.z 600
theorem ci_nu {w:World} {v:Value} {z:Int} {k:Nat} (h:CI w v z k) (hk:k<=600):∃ n:NU,v=nV n/\n.z=z/\NR w n:=by
 have h0:=h;obtain⟨b,o,l,c,rfl⟩:=h.shape;obtain⟨va,e,_⟩:=h;injection e with e;have e0:=congrArg (fun t:Array Value=>t[0]?) e;injection e0 with e0;injection e0 with e0;refine⟨⟨o,l,c,z⟩,?_,rfl,?_⟩
 ·simp only[nV,e0]
 unfold NR nV;simp only;rw[<-e0];exact h0.mono hk
theorem infoIntV:(Try.prog.info? 26).map (fun i=>(i.zero,i.size,i.bytes))=some (some (.agg #[.bool false,.slice none 0 0]),2,32):=by kernel_rfl
theorem infoVal:(Try.prog.info? 41).map (fun i=>(i.zero,i.size,i.bytes))=some (some (.agg #[.int .i64 0,.bool false,.slice none 0 0,.bool false,.slice none 0 0]),5,72):=by kernel_rfl
def nE:El NU where
 e:=26
 t:=39
 n:=2
 b:=32
 z:=.agg #[.bool false,.slice none 0 0]
 f:=nC
 R:=NR
 ok _:=True
 pos:=by decide
 by_:=by decide
 zs:=rfl
 z32:=by intro u hu z;simp only[Value.cells,List.mem_cons,List.not_mem_nil,or_false] at hu;rcases hu with rfl | rfl<;>(intro h;cases h)
 ht:=Try.underlying39
 info:=infoIntV
 len _:=rfl
 one n:=by
  intro u hu;simp only[nC,List.mem_cons,List.not_mem_nil,or_false] at hu;rcases hu with rfl | rfl<;>rfl
 n32 n:=by
  intro u hu z;simp only[nC,List.mem_cons,List.not_mem_nil,or_false] at hu;rcases hu with rfl | rfl<;>(intro h;cases h)
 fr _ f h:=CI.fr h f
 own:=trivial
structure VU where
 k:Int
 n:NU
 b:Bool
 lo:Option Addr
 ll:Nat
 lc:Nat
 x:V
def vC (u:VU):List Value:=[.int .i64 u.k,.bool (decide (u.n.z<0)),.slice u.n.o u.n.l u.n.c,.bool u.b,.slice u.lo u.ll u.lc]
def vV (u:VU):Value:=.agg #[.int .i64 u.k,.bool (decide (u.n.z<0)),.slice u.n.o u.n.l u.n.c,.bool u.b,.slice u.lo u.ll u.lc]
def n0:NU:=⟨none,0,0,0⟩
def NL (w:World) (v:Value) (zs:List Int):Prop:=∃ ns,nE.At w v ns/\ns.map (·.z)=zs
def VR (w:World) (u:VU):Prop:=
 match u.x with
 | .I z=>u.k=0/\u.n.z=z/\NR w u.n/\u.b=false/\u.lo=none/\u.ll=0/\u.lc=0
 | .B b=>u.k=1/\u.n=n0/\u.b=b/\u.lo=none/\u.ll=0/\u.lc=0
 | .L zs=>u.k=2/\u.n=n0/\u.b=false/\NL w (.slice u.lo u.ll u.lc) zs
theorem NL.fr {e':TypeId} {w w':World} {v:Value} {zs:List Int} (h:NL w v zs) (hne:26≠e') (f:Fr e' w w'):NL w' v zs:=by
 obtain⟨ns,h1,h2⟩:=h;exact⟨ns,h1.fr trivial hne f,h2⟩
theorem NL.below {w w':World} {v:Value} {zs:List Int} (h:NL w v zs) (hb:Below w.heap.size w w'):NL w' v zs:=by
 obtain⟨ns,h1,h2⟩:=h;exact⟨ns,h1.below hb,h2⟩
theorem VR.fr {e':TypeId} {w w':World} {u:VU} (h:VR w u) (hne:26≠e') (f:Fr e' w w'):VR w' u:=by
 unfold VR at h ⊢
 split at h
 ·obtain⟨h1,h2,h3,h4⟩:=h;exact⟨h1,h2,CI.fr h3 f,h4⟩
 ·exact h
 obtain⟨h1,h2,h3,h4⟩:=h;exact⟨h1,h2,h3,h4.fr hne f⟩
theorem VR.below {w w':World} {u:VU} (h:VR w u) (hb:Below w.heap.size w w'):VR w' u:=h.fr (e':=95) (by decide) (Fr.of_below hb)
def vE:El VU where
 e:=41
 t:=30
 n:=5
 b:=72
 z:=.agg #[.int .i64 0,.bool false,.slice none 0 0,.bool false,.slice none 0 0]
 f:=vC
 R:=VR
 ok e':=26≠e'
 pos:=by decide
 by_:=by decide
 zs:=rfl
 z32:=by intro u hu z;simp only[Value.cells,List.mem_cons,List.not_mem_nil,or_false] at hu;rcases hu with rfl | rfl | rfl | rfl | rfl<;>(intro h;cases h)
 ht:=Try.underlying30
 info:=infoVal
 len _:=rfl
 one n:=by
  intro u hu;simp only[vC,List.mem_cons,List.not_mem_nil,or_false] at hu;rcases hu with rfl | rfl | rfl | rfl | rfl<;>rfl
 n32 n:=by
  intro u hu z;simp only[vC,List.mem_cons,List.not_mem_nil,or_false] at hu;rcases hu with rfl | rfl | rfl | rfl | rfl<;>(intro h;cases h)
 fr ok f h:=VR.fr h ok f
 own:=by decide
def VC (w:World) (v:Value) (x:V):Prop:=∃ u:VU,v=vV u/\u.x=x/\VR w u
theorem VC.fr {e':TypeId} {w w':World} {v:Value} {x:V} (h:VC w v x) (hne:26≠e') (f:Fr e' w w'):VC w' v x:=by
 obtain⟨u,h1,h2,h3⟩:=h;exact⟨u,h1,h2,h3.fr hne f⟩
theorem VC.below {w w':World} {v:Value} {x:V} (h:VC w v x) (hb:Below w.heap.size w w'):VC w' v x:=by
 obtain⟨u,h1,h2,h3⟩:=h;exact⟨u,h1,h2,h3.below hb⟩
def VL (w:World) (v:Value) (xs:List V):Prop:=∃ us,vE.At w v us/\us.map (·.x)=xs
theorem VC.int {w:World} {v:Value} {z:Int} (h:VC w v (.I z)):∃ o l c,v=.agg #[.int .i64 0,.bool (decide (z<0)),.slice o l c,.bool false,.slice none 0 0]/\CI w (.agg #[.bool (decide (z<0)),.slice o l c]) z 600:=by
 obtain⟨u,rfl,h1,h2⟩:=h;unfold VR at h2;rw[h1] at h2;obtain⟨h3,h4,h5,h6,h7,h8,h9⟩:=h2;refine⟨u.n.o,u.n.l,u.n.c,?_,?_⟩
 ·unfold vV;rw[h3,h4,h6,h7,h8,h9]
 unfold NR nV at h5;rw[h4] at h5;exact h5
theorem VC.bool {w:World} {v:Value} {b:Bool} (h:VC w v (.B b)):v=.agg #[.int .i64 1,.bool false,.slice none 0 0,.bool b,.slice none 0 0]:=by
 obtain⟨u,rfl,h1,h2⟩:=h;unfold VR at h2;rw[h1] at h2;obtain⟨h3,h4,h5,h7,h8,h9⟩:=h2;unfold vV;rw[h3,h4,h5,h7,h8,h9];rfl
theorem VC.list {w:World} {v:Value} {zs:List Int} (h:VC w v (.L zs)):∃ o l c,v=.agg #[.int .i64 2,.bool false,.slice none 0 0,.bool false,.slice o l c]/\NL w (.slice o l c) zs:=by
 obtain⟨u,rfl,h1,h2⟩:=h;unfold VR at h2;rw[h1] at h2;obtain⟨h3,h4,h5,h6⟩:=h2;refine⟨u.lo,u.ll,u.lc,?_,h6⟩;unfold vV;rw[h3,h4,h5];rfl
theorem VC.mkI {w:World} {v:Value} {z:Int} {k:Nat} (h:CI w v z k) (hk:k<=600):∃ o l c,v=.agg #[.bool (decide (z<0)),.slice o l c]/\VC w (.agg #[.int .i64 0,.bool (decide (z<0)),.slice o l c,.bool false,.slice none 0 0]) (.I z):=by
 obtain⟨n,rfl,rfl,hn⟩:=ci_nu h hk;exact⟨n.o,n.l,n.c,rfl,⟨0,n,false,none,0,0,.I n.z⟩,rfl,rfl,rfl,rfl,hn,rfl,rfl,rfl,rfl⟩
theorem VC.mkB (w:World) (b:Bool):VC w (.agg #[.int .i64 1,.bool false,.slice none 0 0,.bool b,.slice none 0 0]) (.B b):=⟨⟨1,n0,b,none,0,0,.B b⟩,rfl,rfl,rfl,rfl,rfl,rfl,rfl,rfl⟩
theorem VC.mkL {w:World} {o:Option Addr} {l c:Nat} {zs:List Int} (h:NL w (.slice o l c) zs):VC w (.agg #[.int .i64 2,.bool false,.slice none 0 0,.bool false,.slice o l c]) (.L zs):=⟨⟨2,n0,false,o,l,c,.L zs⟩,rfl,rfl,rfl,rfl,rfl,h⟩
theorem NL.form {w:World} {v:Value} {zs:List Int} (h:NL w v zs):∃ ko kc,v=.slice ko zs.length kc/\(zs.length<=kc/\kc<=maxLen)/\∀ i (hi:i<zs.length),∃ a o l c,ko=some a/\w.cell? (a.add (i*2))=some (.bool (decide (zs[i]<0)))/\w.cell? ⟨(a.add (i*2)).block,(a.add (i*2)).off+1,none⟩=some (.slice o l c)/\CI w (.agg #[.bool (decide (zs[i]<0)),.slice o l c]) zs[i] 600:=by
 obtain⟨ns,⟨ko,kc,rfl,⟨h1,h2,_⟩,h3⟩,rfl⟩:=h;refine⟨ko,kc,by simp,⟨by simpa using h1,h2⟩,fun i hi=>?_⟩;obtain⟨a,ha,-,h4,h5⟩:=h3 i (by simpa using hi);simp only[List.getElem_map];exact⟨a,_,_,_,ha,h4 0 _ rfl,by have:=h4 1 _ rfl;rw[<-add_addV] at this;exact this,h5⟩
theorem VL.form {w:World} {v:Value} {xs:List V} (h:VL w v xs):∃ ko kc,v=.slice ko xs.length kc/\(xs.length<=kc/\kc<=maxLen)/\∀ i (hi:i<xs.length),∃ a k b o l c d p m q,ko=some a /\
  (w.cell? (a.add (i*5))=some (.int .i64 k)/\w.cell? ⟨(a.add (i*5)).block,(a.add (i*5)).off+1,none⟩=some (.bool b)/\w.cell? ⟨(a.add (i*5)).block,(a.add (i*5)).off+2,none⟩=some (.slice o l c)/\w.cell? ⟨(a.add (i*5)).block,(a.add (i*5)).off+3,none⟩=some (.bool d)/\w.cell? ⟨(a.add (i*5)).block,(a.add (i*5)).off+4,none⟩=some (.slice p m q)) /\
  VC w (.agg #[.int .i64 k,.bool b,.slice o l c,.bool d,.slice p m q]) xs[i]:=by
 obtain⟨us,⟨ko,kc,rfl,⟨h1,h2,_⟩,h3⟩,rfl⟩:=h;refine⟨ko,kc,by simp,⟨by simpa using h1,h2⟩,fun i hi=>?_⟩;obtain⟨a,ha,-,h4,h5⟩:=h3 i (by simpa using hi);have hi':i<us.length:=by simpa using hi
 have g:∀ j q,(vC us[i])[j]?=some q->w.cell? ((a.add (i*5)).add j)=some q:=fun j q hj=>by rw[add_addV];exact h4 j q hj
 simp only[List.getElem_map];exact⟨a,_,_,_,_,_,_,_,_,_,ha,⟨g 0 _ rfl,g 1 _ rfl,g 2 _ rfl,g 3 _ rfl,g 4 _ rfl⟩,_,rfl,rfl,h5⟩
end Go.Proofs.Ytdkfnbbebpbhaaa
