/-
  Joined: WhoA, Keep, WhoB, WhoC, WhoD.
-/
import Derived.Test.YtinfbmnimkcdjaaKMul
import Derived.Deep.RegionHeld3
import Derived.Deep.DeepCutAuto
import Derived.Test.YtinfbmnimkcdjaaRely
import Derived.Test.YtinfbmnimkcdjaaKSh
import Derived.Test.YtinfbmnimkcdjaaKDiv
import Derived.Test.YtinfbmnimkcdjaaKPar
/- Contracts of package whole: signed, Big, Of: what each call returns. Integers as values: a sign and limbs. -/
namespace Go.Proofs.Ytinfbmnimkcdjaa
open Go.RowKit
set_option maxRecDepth 100000

/-- n, or -n if b. -/
def sg (b : Bool) (n : Nat) : Int := if b then -(n : Int) else (n : Int)
theorem sg_natAbs (b : Bool) (n : Nat) : (sg b n).natAbs = n := by cases b <;> simp [sg]
theorem sg_neg (b : Bool) (n : Nat) : decide (sg b n < 0) = (b && decide (0 < n)) := by
  cases b
  · simp [sg]
  · simp [sg]

/-- The value reads, in w, as the integer z, in any form, by at most k limbs. -/
def GI (w : World) (v : Value) (z : Int) (k : Nat) : Prop := ∃ b va n, v = .agg #[.bool b, va] ∧ GN w va n k ∧ z = sg b n
/-- The value is, in w, the canonical form of the integer z, which has at most k limbs. -/
def CI (w : World) (v : Value) (z : Int) (k : Nat) : Prop := ∃ va, v = .agg #[.bool (decide (z < 0)), va] ∧ Sl w .u32 va (dig L32 z.natAbs) ∧ z.natAbs < L32 ^ k

theorem GI.below {w w' : World} {v : Value} {z : Int} {k : Nat} (h : GI w v z k) (hb : Below w.heap.size w w') : GI w' v z k := by
  obtain ⟨b, va, n, rfl, h, rfl⟩ := h; exact ⟨b, va, n, rfl, h.below hb, rfl⟩
theorem CI.below {w w' : World} {v : Value} {z : Int} {k : Nat} (h : CI w v z k) (hb : Below w.heap.size w w') : CI w' v z k := by
  obtain ⟨va, rfl, h, h2⟩ := h; exact ⟨va, rfl, h.below hb, h2⟩
theorem CI.gi {w : World} {v : Value} {z : Int} {k : Nat} (h : CI w v z k) : GI w v z k := by
  obtain ⟨va, rfl, h, h2⟩ := h
  refine ⟨_, va, _, rfl, gn_dig h h2, ?_⟩
  unfold sg
  by_cases hz : z < 0
  · rw [if_pos (by simpa using hz)]; omega
  · rw [if_neg (by simpa using hz)]; omega
theorem GI.lt {w : World} {v : Value} {z : Int} {k : Nat} (h : GI w v z k) : z.natAbs < L32 ^ k := by
  obtain ⟨b, va, n, rfl, h, rfl⟩ := h; rw [sg_natAbs]; exact h.lt
theorem ci_mk {w : World} {b : Bool} {n k : Nat} {va : Value} (h : Sl w .u32 va (dig L32 n)) (hn : n < L32 ^ k) : CI w (.agg #[.bool (b && decide (0 < n)), va]) (sg b n) k :=
  ⟨va, by rw [sg_neg], by rw [sg_natAbs]; exact h, by rw [sg_natAbs]; exact hn⟩

theorem dig_len_pos {n : Nat} : 0 < n → 0 < (dig L32 n).length := fun h => by
  rcases Nat.eq_zero_or_pos (dig L32 n).length with h0 | h0
  · have := val_dig (B := L32) (by decide) n
    rw [List.eq_nil_of_length_eq_zero h0] at this
    simp [val] at this; omega
  · exact h0

set_option maxHeartbeats 1000000 in
theorem signed_any (b : Bool) (va : Value) (n k : Nat) (w : World) (hs : Sl w .u32 va (dig L32 n)) (hn : n < L32 ^ k) :
    Calls Try.prog 53 #[.bool b, va] w fun e w' => ∃ v, e = .returned v ∧ CI w' v (sg b n) k ∧ Below w.heap.size w w' := by
  have hci : ∀ w' B, B = (b && decide (0 < n)) → Below w.heap.size w w' → CI w' (.agg #[.bool B, va]) (sg b n) k := fun w' B e hb => by subst e; exact ci_mk (hs.below hb) hn
  obtain ⟨ao, ac, rfl⟩ := sl_shape hs
  have HS := Lib.hid hci
  clear hci hs hn
  cases b
  · go_enter Try.func53, Try.ntmps53
    go_wp2
    exact bodyPost_ret (v := .agg #[.bool false, .slice ao (dig L32 n).length ac]) (by simp [results, Try.results53, go_sem]) rfl ⟨_, rfl, HS.out _ _ rfl ((Below.refl _ _).alloc (Nat.le_refl _) _), (Below.refl _ _).alloc (Nat.le_refl _) _⟩
  · by_cases h0 : 0 < n
    · have hl := dig_len_pos h0
      have HD := Lib.hid (show true = (true && decide (0 < n)) by simp [h0])
      go_enter Try.func53, Try.ntmps53
      go_wp2
      exact bodyPost_ret (v := .agg #[.bool true, .slice ao (dig L32 n).length ac]) (by simp [results, Try.results53, go_sem]) rfl ⟨_, rfl, HS.out _ _ HD.out ((Below.refl _ _).alloc (Nat.le_refl _) _), (Below.refl _ _).alloc (Nat.le_refl _) _⟩
    · obtain rfl : n = 0 := by omega
      have HD := Lib.hid (show false = (true && decide (0 < 0)) by simp)
      have hl : (dig L32 0).length ≤ 0 := by rw [dig_zero]; exact Nat.le_refl _
      have hd : decide (0 < (dig L32 0).length) = false := by rw [decide_eq_false_iff_not]; omega
      go_enter Try.func53, Try.ntmps53
      go_wp2
      exact bodyPost_ret (v := .agg #[.bool false, .slice ao (dig L32 0).length ac]) (by simp [results, Try.results53, go_sem]) rfl ⟨_, rfl, HS.out _ _ HD.out ((Below.refl _ _).alloc (Nat.le_refl _) _), (Below.refl _ _).alloc (Nat.le_refl _) _⟩

theorem GN.shape {w : World} {v : Value} {n k : Nat} (h : GN w v n k) : ∃ ao l c, v = .slice ao l c ∧ l ≤ k := by
  obtain ⟨xs, h, _, _, hk⟩ := h
  obtain ⟨ao, c, rfl⟩ := sl_shape h
  exact ⟨ao, _, c, rfl, hk⟩
theorem trim_n {va : Value} {n k : Nat} {w : World} (hx : GN w va n k) (hk : k ≤ 1000000) :
    Calls Try.prog 56 #[va] w fun e w' => ∃ v, e = .returned v ∧ Sl w' .u32 v (dig L32 n) ∧ Below w.heap.size w w' := by
  obtain ⟨xs, hx, dx, rfl, lx⟩ := hx
  exact (trim_any _ xs w hx dx (by omega)).mono fun _ _ ⟨v, he, hs, hb⟩ => ⟨v, he, hs.sl, hb⟩

theorem CI.shape {w : World} {v : Value} {z : Int} {k : Nat} (h : CI w v z k) : ∃ b ao l c, v = .agg #[.bool b, .slice ao l c] := by
  obtain ⟨va, rfl, h, _⟩ := h
  obtain ⟨ao, c, rfl⟩ := sl_shape h
  exact ⟨_, ao, _, c, rfl⟩
theorem GI.shape {w : World} {v : Value} {z : Int} {k : Nat} (h : GI w v z k) : ∃ b ao l c n, v = .agg #[.bool b, .slice ao l c] ∧ GN w (.slice ao l c) n k ∧ z = sg b n := by
  obtain ⟨b, va, n, rfl, h, rfl⟩ := h
  obtain ⟨ao, l, c, rfl, _⟩ := h.shape
  exact ⟨b, ao, l, c, n, rfl, h, rfl⟩

/-- The block of a struct of two cells that was made for a result. -/
theorem two_cells {w : World} {g : Nat} {T : TypeId} {a b : Value} (h : w.heap[g]? = some (.cells #[a, b] T (0, 0))) :
    w.cell? ⟨g, 0, none⟩ = some a ∧ w.cell? ⟨g, 1, none⟩ = some b ∧ w.frozen? ⟨g, 0, none⟩ = false ∧ w.frozen? ⟨g, 1, none⟩ = false :=
  ⟨by rw [cell_of_row w g 0 _ T (0, 0) h]; rfl, by rw [cell_of_row w g 1 _ T (0, 0) h]; rfl, frozen_of_row w g 0 _ T h, frozen_of_row w g 1 _ T h⟩
theorem Sl.set {w : World} {k : IntKind} {v : Value} {xs : List Nat} (h : Sl w k v xs) {p : Addr} {u : Value} (hc : w.cell? p = some u) (hu : ∀ k z, u ≠ .int k z) (x : Value) : Sl (w.setCell p x) k v xs := by
  obtain ⟨ao, cap, rfl, h1, h2, h3, h4⟩ := h
  refine ⟨ao, cap, rfl, h1, h2, h3, fun i hi => ?_⟩
  obtain ⟨a, ha, hq⟩ := h4 i hi
  refine ⟨a, ha, ?_⟩
  rw [World.cell?_setCell_other w p (a.add i) x (fun e => by rw [← e, hc] at hq; injection hq with hq; exact hu _ _ hq)]
  exact hq
theorem Sl.set2 {w : World} {k : IntKind} {v : Value} {xs : List Nat} (h : Sl w k v xs) {g : Nat} {T : TypeId} {b0 : Bool} {a0 : Option Addr} {n0 c0 : Nat} (hB : w.heap[g]? = some (.cells #[.bool b0, .slice a0 n0 c0] T (0, 0))) (x y : Value) :
    Sl ((w.setCell ⟨g, 0, none⟩ x).setCell ⟨g, 1, none⟩ y) k v xs := by
  obtain ⟨q0, q1, _, _⟩ := two_cells hB
  refine (h.set q0 (by intro k z e; cases e) x).set (u := .slice a0 n0 c0) ?_ (by intro k z e; cases e) y
  rw [World.cell?_setCell_other w _ _ x (by intro e; injection e with _ e; omega)]
  exact q1
theorem CI.set2 {w : World} {v : Value} {z : Int} {k : Nat} (h : CI w v z k) {g : Nat} {T : TypeId} {b0 : Bool} {a0 : Option Addr} {n0 c0 : Nat} (hB : w.heap[g]? = some (.cells #[.bool b0, .slice a0 n0 c0] T (0, 0))) (x y : Value) :
    CI ((w.setCell ⟨g, 0, none⟩ x).setCell ⟨g, 1, none⟩ y) v z k := by
  obtain ⟨va, rfl, h, h2⟩ := h
  exact ⟨va, rfl, h.set2 hB x y, h2⟩
theorem below_set2 {B : Nat} {w w' : World} (h : Below B w w') (hB : B ≤ w.heap.size) (x y : Value) : Below B w ((w'.setCell ⟨w.heap.size, 0, none⟩ x).setCell ⟨w.heap.size, 1, none⟩ y) :=
  (h.setCell (by simpa using hB) _).setCell (by simpa using hB) _

set_option maxHeartbeats 1000000 in
theorem big_any (b : Bool) (va : Value) (n k : Nat) (w : World) (hx : GN w va n k) (hk : k ≤ 1000000) :
    Calls Try.prog 34 #[.bool b, va] w fun e w' => ∃ v, e = .returned v ∧ CI w' v (sg b n) k ∧ Below w.heap.size w w' := by
  have hn := hx.lt
  have hx' := hx
  obtain ⟨ao, l, c, rfl, hl⟩ := hx.shape
  go_enter Try.func34, Try.ntmps34
  go_wp2_with fail
  refine (trim_n (hx'.below ((Below.refl _ _).alloc (Nat.le_refl _) _)) hk).mono ?_
  rintro e w1 ⟨v1, rfl, s1, hb1⟩
  have hB1 := (hb1.block w.heap.size (by simp)).trans (heap_alloc_new w _)
  have hb1t : Below w.heap.size w w1 := ((Below.refl _ _).alloc (Nat.le_refl _) _).trans (hb1.mono (by simp))
  go_wp2_with fail
  refine (signed_any b v1 n k w1 s1 hn).mono ?_
  rintro e w2 ⟨v2, rfl, c2, hb2⟩
  have hB2 := (hb2.block w.heap.size (lt_of_block hB1)).trans hB1
  have hb2t : Below w.heap.size w w2 := hb1t.trans (hb2.mono hb1t.size)
  obtain ⟨bb, bo, bl, bc, rfl⟩ := c2.shape
  obtain ⟨q0, q1, f0, f1⟩ := two_cells hB2
  have HB := Lib.hid hB2
  clear hB1 hB2
  go_wp2_with fail
  exact bodyPost_ret (v := .agg #[.bool bb, .slice bo bl bc]) (by simp [results, Try.results34, go_sem, q0, q1]) rfl ⟨_, rfl, c2.set2 HB.out _ _, below_set2 hb2t (Nat.le_refl _) _ _⟩
end Go.Proofs.Ytinfbmnimkcdjaa

/- What reads on where every number stands. -/
namespace Go.Proofs.Ytinfbmnimkcdjaa
open Go.RowKit
set_option maxRecDepth 100000

theorem Sl.keeps {w w' : World} {k : IntKind} {v : Value} {xs : List Nat} (h : Sl w k v xs) (hk : Keeps w w') : Sl w' k v xs := by
  obtain ⟨ao, cap, rfl, h1, h2, h3, h4⟩ := h
  refine ⟨ao, cap, rfl, h1, h2, h3, fun i hi => ?_⟩
  obtain ⟨a, ha, hq⟩ := h4 i hi
  exact ⟨a, ha, hk _ _ _ hq⟩
theorem GN.keeps {w w' : World} {v : Value} {n k : Nat} (h : GN w v n k) (hk : Keeps w w') : GN w' v n k := by
  obtain ⟨xs, h1, h2⟩ := h; exact ⟨xs, h1.keeps hk, h2⟩
theorem GI.keeps {w w' : World} {v : Value} {z : Int} {k : Nat} (h : GI w v z k) (hk : Keeps w w') : GI w' v z k := by
  obtain ⟨b, va, n, rfl, h, rfl⟩ := h
  exact ⟨b, va, n, rfl, h.keeps hk, rfl⟩
theorem CI.keeps {w w' : World} {v : Value} {z : Int} {k : Nat} (h : CI w v z k) (hk : Keeps w w') : CI w' v z k := by
  obtain ⟨va, rfl, h, h2⟩ := h; exact ⟨va, rfl, h.keeps hk, h2⟩
end Go.Proofs.Ytinfbmnimkcdjaa

/- Contracts of package whole: Half, Neg, Sign, Bits, Mul, Gcd. -/
namespace Go.Proofs.Ytinfbmnimkcdjaa
open Go.RowKit
set_option maxRecDepth 100000

theorem shr_n {va : Value} {n k : Nat} {z : Int} {w : World} (hx : GN w va n k) (hk : k ≤ 1000000) :
    Calls Try.prog 91 #[va, .int .i64 z] w fun e w' => ∃ v, e = .returned v ∧ Sl w' .u32 v (dig L32 (n / 2 ^ clampN z)) ∧ Below w.heap.size w w' := by
  obtain ⟨xs, hx, dx, rfl, lx⟩ := hx
  exact (shr_any _ xs z w hx dx (by omega)).mono fun _ _ ⟨v, he, hs, hb⟩ => ⟨v, he, hs, hb⟩
theorem mul_d {va vb : Value} {m n k1 k2 : Nat} {w : World} (hx : GN w va m k1) (hy : GN w vb n k2) (h1 : k1 ≤ 1000000) (h2 : k2 ≤ 1000000) :
    Calls Try.prog 65 #[va, vb] w fun e w' => ∃ v, e = .returned v ∧ Sl w' .u32 v (dig L32 (m * n)) ∧ Below w.heap.size w w' := by
  obtain ⟨xs, hx, dx, rfl, lx⟩ := hx
  obtain ⟨ys, hy, dy, rfl, ly⟩ := hy
  exact mul_any _ _ _ _ w hx hy dx dy (by omega) (by omega)
theorem add_d {va vb : Value} {m n k1 k2 : Nat} {w : World} (hx : GN w va m k1) (hy : GN w vb n k2) (h1 : k1 ≤ 1000000) (h2 : k2 ≤ 1000000) :
    Calls Try.prog 57 #[va, vb] w fun e w' => ∃ v, e = .returned v ∧ Sl w' .u32 v (dig L32 (m + n)) ∧ Below w.heap.size w w' := by
  obtain ⟨xs, hx, dx, rfl, lx⟩ := hx
  obtain ⟨ys, hy, dy, rfl, ly⟩ := hy
  exact add_any _ _ _ _ w hx hy dx dy (by omega) (by omega)
theorem GN.drew {w : World} {v : Value} {n k : Nat} (h : GN w v n k) : GN w.drew v n k := h
theorem GN.alloc {w : World} {v : Value} {n k : Nat} (h : GN w v n k) (o : Obj) : GN (w.alloc o) v n k := h.below ((Below.refl _ _).alloc (Nat.le_refl _) _)
theorem undrew {B : Nat} {w w1 : World} (h : Below B w.drew w1) : Below B w w1 := ⟨h.os, h.tape, h.output, h.size, h.block⟩

/-- The blocks that a function made at its beginning, behind what leaves them alone. -/
theorem blocks2 {w w1 : World} {T1 T2 : TypeId} {c1 c2 : Array Value} (hb : Below (w.heap.size + 2) ((w.alloc (.cells c1 T1)).alloc (.cells c2 T2)) w1) :
    w1.heap[w.heap.size]? = some (.cells c1 T1 (0, 0)) ∧ w1.heap[w.heap.size + 1]? = some (.cells c2 T2 (0, 0)) := by
  have h1 := heap_alloc_new (w.alloc (.cells c1 T1)) (.cells c2 T2)
  refine ⟨(hb.block _ (by omega)).trans ?_, (hb.block _ (by omega)).trans (by simpa using h1)⟩
  rw [Below.heap_alloc _ _ _ (by simp)]; exact heap_alloc_new w _
theorem blocks3 {w w1 : World} {T1 T2 T3 : TypeId} {c1 c2 c3 : Array Value} (hb : Below (w.heap.size + 3) (((w.alloc (.cells c1 T1)).alloc (.cells c2 T2)).alloc (.cells c3 T3)) w1) :
    w1.heap[w.heap.size]? = some (.cells c1 T1 (0, 0)) ∧ w1.heap[w.heap.size + 1]? = some (.cells c2 T2 (0, 0)) ∧ w1.heap[w.heap.size + 2]? = some (.cells c3 T3 (0, 0)) := by
  have h1 := heap_alloc_new ((w.alloc (.cells c1 T1)).alloc (.cells c2 T2)) (.cells c3 T3)
  obtain ⟨a, b⟩ := blocks2 (Below.refl (w.heap.size + 2) ((w.alloc (.cells c1 T1)).alloc (.cells c2 T2)))
  refine ⟨(hb.block _ (by omega)).trans ?_, (hb.block _ (by omega)).trans ?_, (hb.block _ (by omega)).trans (by simpa using h1)⟩
  · rw [Below.heap_alloc _ _ _ (by simp; omega)]; exact a
  · rw [Below.heap_alloc _ _ _ (by simp)]; exact b
theorem below2 (w : World) (o1 o2 : Obj) : Below w.heap.size w ((w.alloc o1).alloc o2) := ((Below.refl _ _).alloc (Nat.le_refl _) _).alloc (by simp) _
theorem below3 (w : World) (o1 o2 o3 : Obj) : Below w.heap.size w (((w.alloc o1).alloc o2).alloc o3) := (below2 w o1 o2).alloc (by simp; omega) _
theorem below_setg {B g : Nat} {w w' : World} (h : Below B w w') (hB : B ≤ g) (x y : Value) : Below B w ((w'.setCell ⟨g, 0, none⟩ x).setCell ⟨g, 1, none⟩ y) :=
  (h.setCell (by simpa using hB) _).setCell (by simpa using hB) _

/-- A store of a pair elsewhere. -/
theorem far2 {w : World} {g g' o : Nat} {x y : Value} (h : g' ≠ g) : ((w.setCell ⟨g, 0, none⟩ x).setCell ⟨g, 1, none⟩ y).cell? ⟨g', o, none⟩ = w.cell? ⟨g', o, none⟩ := by
  rw [World.cell?_setCell_other _ _ _ _ (by intro e; injection e with e; omega), World.cell?_setCell_other _ _ _ _ (by intro e; injection e with e; omega)]

theorem sg_half (b : Bool) (n : Nat) : Int.tdiv (sg b n) 2 = sg b (n / 2) := by
  cases b <;> simp [sg]

theorem sg_mul (a b : Bool) (m n : Nat) : sg a m * sg b n = sg (a != b) (m * n) := by
  cases a <;> cases b <;> simp [sg, Int.neg_mul, Int.mul_neg]

set_option maxHeartbeats 1000000 in
theorem wmul_any (va vb : Value) (y z : Int) (k1 k2 : Nat) (w : World) (hx : GI w va y k1) (hy : GI w vb z k2) (h1 : k1 ≤ 1000000) (h2 : k2 ≤ 1000000) :
    Calls Try.prog 44 #[va, vb] w fun e w' => ∃ v, e = .returned v ∧ CI w' v (y * z) (k1 + k2) ∧ Below w.heap.size w w' := by
  obtain ⟨b, ao, l, c, m, rfl, hg, rfl⟩ := hx.shape
  obtain ⟨d, po, pl, pc, n, rfl, hg2, rfl⟩ := hy.shape
  have hn : m * n < L32 ^ (k1 + k2) := by rw [Nat.pow_add]; exact Nat.mul_lt_mul'' hg.lt hg2.lt
  rw [sg_mul]
  have hW := below3 w (.cells #[.bool b, .slice ao l c] 26) (.cells #[.bool d, .slice po pl pc] 26) (.cells #[.bool false, .slice none 0 0] 26)
  go_enter Try.func44, Try.ntmps44
  go_wp2_with fail
  go_region_held3 (fun w' => w'.cell? ⟨w.heap.size, 0, none⟩ = some (.bool b) ∧ w'.cell? ⟨w.heap.size, 1, none⟩ = some (.slice ao l c) ∧ w'.cell? ⟨w.heap.size + 1, 0, none⟩ = some (.bool d) ∧ w'.cell? ⟨w.heap.size + 1, 1, none⟩ = some (.slice po pl pc))
    (first | exact ⟨kc0, kc1, kd0, kd1⟩ | exact ⟨(far2 (by omega)).trans kc0, (far2 (by omega)).trans kc1, (far2 (by omega)).trans kd0, (far2 (by omega)).trans kd1⟩ | go_keep)
    (first
      | (go_at_call 65; refine (mul_d (((hg.alloc _).alloc _).alloc _).drew (((hg2.alloc _).alloc _).alloc _).drew h1 h2).mono ?_; rintro e w2 ⟨v2, rfl, s2, hb2⟩; have hk2 := blocks3 (undrew (hb2.mono (by simp))); have hb2t := hW.trans (undrew (hb2.mono (by simp; omega))); clear hb2; obtain ⟨kc0, kc1, _, _⟩ := two_cells hk2.1; obtain ⟨kd0, kd1, _, _⟩ := two_cells hk2.2.1)
      | (go_at_call 53; refine (signed_any _ v2 _ (k1 + k2) w2 s2 hn).mono ?_; rintro e w3 ⟨v3, rfl, c3, hb3⟩; obtain ⟨bb, bo, bl, bc, rfl⟩ := c3.shape
         have hk0 := (hb3.block _ (lt_of_block hk2.1)).trans hk2.1; have hk1 := (hb3.block _ (lt_of_block hk2.2.1)).trans hk2.2.1; have hk3 := (hb3.block _ (lt_of_block hk2.2.2)).trans hk2.2.2; have hb3t := hb2t.trans (hb3.mono hb2t.size); clear hb3 hk2 hb2t kc0 kc1 kd0 kd1
         obtain ⟨kc0, kc1, _, _⟩ := two_cells hk0; obtain ⟨kd0, kd1, _, _⟩ := two_cells hk1; obtain ⟨q0, q1, f0, f1⟩ := two_cells hk3; have HB := Lib.hid hk3; clear hk0 hk1 hk3))
  go_wp2_with fail
  exact bodyPost_ret (v := .agg #[.bool bb, .slice bo bl bc]) (by simp [results, Try.results44, go_sem, q0, q1]) rfl ⟨_, rfl, c3.set2 HB.out _ _, below_setg hb3t (by omega) _ _⟩

theorem bl_eq0 {n : Nat} : bl n = 0 ↔ n = 0 := ⟨fun h => by rcases Nat.eq_zero_or_pos n with h0 | h0; exact h0; exact absurd h (by have := bl_pos h0; omega), fun h => by rw [h, bl_zero]⟩

/-- The sign, as a plain function. -/
def sgnZ (z : Int) : Int := if z = 0 then 0 else if z < 0 then -1 else 1

set_option maxHeartbeats 1000000 in
theorem wsign_any (va : Value) (z : Int) (k : Nat) (w : World) (hx : GI w va z k) (hk : k ≤ 1000000) :
    Calls Try.prog 28 #[va] w fun e w' => e = .returned (.int .i64 (sgnZ z)) ∧ Below w.heap.size w w' := by
  obtain ⟨b, ao, l, c, n, rfl, hg, rfl⟩ := hx.shape
  by_cases h0 : n = 0
  · subst h0
    have HB := Lib.hid (show sgnZ (sg b 0) = 0 by cases b <;> simp [sgnZ, sg])
    have hz : (((bl 0 : Nat) : Int) == 0) = true := by rw [bl_zero]; rfl
    go_enter Try.func28, Try.ntmps28
    go_wp2_with fail
    refine (bits_n (hg.alloc _) hk).mono ?_
    rintro e w3 ⟨rfl, rfl⟩
    go_wp2_with fail
    go_ret
    exact ⟨by rw [HB.out]; rfl, (Below.refl _ _).alloc (Nat.le_refl _) _⟩
  · have hz : (((bl n : Nat) : Int) == 0) = false := by rw [beq_eq_false_iff_ne]; have := mt bl_eq0.1 h0; omega
    have hp : 0 < n := by omega
    cases b
    · have HB := Lib.hid (show sgnZ (sg false n) = 1 by unfold sgnZ sg; simp only [Bool.false_eq_true, if_false]; rw [if_neg (by omega), if_neg (by omega)])
      go_enter Try.func28, Try.ntmps28
      go_wp2_with fail
      refine (bits_n (hg.alloc _) hk).mono ?_
      rintro e w3 ⟨rfl, rfl⟩
      go_wp2_with fail
      go_ret
      exact ⟨by rw [HB.out]; rfl, (Below.refl _ _).alloc (Nat.le_refl _) _⟩
    · have HB := Lib.hid (show sgnZ (sg true n) = -1 by unfold sgnZ sg; simp only [if_true]; rw [if_neg (by omega), if_pos (by omega)])
      go_enter Try.func28, Try.ntmps28
      go_wp2_with fail
      refine (bits_n (hg.alloc _) hk).mono ?_
      rintro e w3 ⟨rfl, rfl⟩
      go_wp2_with fail
      go_ret
      exact ⟨by rw [HB.out]; rfl, (Below.refl _ _).alloc (Nat.le_refl _) _⟩
end Go.Proofs.Ytinfbmnimkcdjaa

/- Contracts of package whole: Add, Sub, Of, Compare, Cmp. -/
namespace Go.Proofs.Ytinfbmnimkcdjaa
open Go.RowKit
set_option maxRecDepth 100000

theorem sub_d {va vb : Value} {m n k1 k2 : Nat} {w : World} (hx : GN w va m k1) (hy : GN w vb n k2) (h1 : k1 ≤ 1000000) (hle : n ≤ m) :
    Calls Try.prog 58 #[va, vb] w fun e w' => ∃ v, e = .returned (.tuple #[v, .bool true]) ∧ Sl w' .u32 v (dig L32 (m - n)) ∧ Below w.heap.size w w' := by
  obtain ⟨xs, hx, dx, rfl, lx⟩ := hx
  obtain ⟨ys, hy, dy, rfl, ly⟩ := hy
  exact sub_ge _ _ _ _ w hx hy dx dy (by omega) hle
theorem sub_no {va vb : Value} {m n k1 k2 : Nat} {w : World} (hx : GN w va m k1) (hy : GN w vb n k2) (hlt : m < n) :
    Calls Try.prog 58 #[va, vb] w fun e w' => e = .returned (.tuple #[.slice none 0 0, .bool false]) ∧ Below w.heap.size w w' := by
  obtain ⟨xs, hx, dx, rfl, lx⟩ := hx
  obtain ⟨ys, hy, dy, rfl, ly⟩ := hy
  exact sub_lt _ _ _ _ w hx hy dx dy hlt
theorem lt_pow_more {m k k' : Nat} (h : m < L32 ^ k) (hk : k ≤ k') : m < L32 ^ k' := Nat.lt_of_lt_of_le h (Nat.pow_le_pow_right (by decide) hk)

theorem sg_add (b : Bool) (m n : Nat) : sg b m + sg b n = sg b (m + n) := by
  cases b <;> simp [sg]; omega
theorem sg_sub1 {b d : Bool} (h : b ≠ d) {m n : Nat} (hle : n ≤ m) : sg b m + sg d n = sg b (m - n) := by
  cases b <;> cases d <;> simp [sg] at * <;> omega
theorem sg_sub2 {b d : Bool} (h : b ≠ d) {m n : Nat} (hle : m ≤ n) : sg b m + sg d n = sg d (n - m) := by
  cases b <;> cases d <;> simp [sg] at * <;> omega

set_option maxHeartbeats 2000000 in
theorem wadd_any (va vb : Value) (y z : Int) (k1 k2 : Nat) (w : World) (hx : GI w va y k1) (hy : GI w vb z k2) (h1 : k1 ≤ 1000000) (h2 : k2 ≤ 1000000) :
    Calls Try.prog 35 #[va, vb] w fun e w' => ∃ v, e = .returned v ∧ CI w' v (y + z) (k1 + k2 + 1) ∧ Below w.heap.size w w' := by
  obtain ⟨b, ao, l, c, m, rfl, hg, rfl⟩ := hx.shape
  obtain ⟨d, po, pl, pc, n, rfl, hg2, rfl⟩ := hy.shape
  have hlm := hg.lt
  have hln := hg2.lt
  have hW := below3 w (.cells #[.bool b, .slice ao l c] 26) (.cells #[.bool d, .slice po pl pc] 26) (.cells #[.bool false, .slice none 0 0] 26)
  by_cases hbd : b = d
  · subst hbd
    have hn := pow_add_lt hlm hln
    rw [sg_add]
    have heq : (b == b) = true := by cases b <;> rfl
    go_enter Try.func35, Try.ntmps35
    go_wp2_with fail
    go_region_held3 (fun w' => w'.cell? ⟨w.heap.size, 0, none⟩ = some (.bool b) ∧ w'.cell? ⟨w.heap.size, 1, none⟩ = some (.slice ao l c) ∧ w'.cell? ⟨w.heap.size + 1, 1, none⟩ = some (.slice po pl pc))
      (first | exact ⟨kc0, kc1, kd1⟩ | exact ⟨(far2 (by omega)).trans kc0, (far2 (by omega)).trans kc1, (far2 (by omega)).trans kd1⟩ | go_keep)
      (first
        | (go_at_call 57; refine (add_d (((hg.alloc _).alloc _).alloc _).drew (((hg2.alloc _).alloc _).alloc _).drew h1 h2).mono ?_; rintro e w2 ⟨v2, rfl, s2, hb2⟩; have hk2 := blocks3 (undrew (hb2.mono (by simp))); have hb2t := hW.trans (undrew (hb2.mono (by simp; omega))); clear hb2; obtain ⟨kc0, kc1, _, _⟩ := two_cells hk2.1; obtain ⟨kd0, kd1, _, _⟩ := two_cells hk2.2.1)
        | (go_at_call 53; refine (signed_any _ v2 _ (k1 + k2 + 1) w2 s2 hn).mono ?_; rintro e w3 ⟨v3, rfl, c3, hb3⟩; obtain ⟨bb, bo, bl, bc, rfl⟩ := c3.shape
           have hk0 := (hb3.block _ (lt_of_block hk2.1)).trans hk2.1; have hk1 := (hb3.block _ (lt_of_block hk2.2.1)).trans hk2.2.1; have hk3 := (hb3.block _ (lt_of_block hk2.2.2)).trans hk2.2.2; have hb3t := hb2t.trans (hb3.mono hb2t.size); clear hb3 hk2 hb2t kc0 kc1 kd0 kd1
           obtain ⟨kc0, kc1, _, _⟩ := two_cells hk0; obtain ⟨kd0, kd1, _, _⟩ := two_cells hk1; obtain ⟨q0, q1, f0, f1⟩ := two_cells hk3; have HB := Lib.hid hk3; clear hk0 hk1 hk3))
    go_wp2_with fail
    exact bodyPost_ret (v := .agg #[.bool bb, .slice bo bl bc]) (by simp [results, Try.results35, go_sem, q0, q1]) rfl ⟨_, rfl, c3.set2 HB.out _ _, below_setg hb3t (by omega) _ _⟩
  · have heq : (b == d) = false := by cases b <;> cases d <;> simp at hbd ⊢
    by_cases hle : n ≤ m
    · have hn : m - n < L32 ^ (k1 + k2 + 1) := lt_pow_more (k := k1) (by omega) (by omega)
      rw [sg_sub1 hbd hle]
      clear hbd
      go_enter Try.func35, Try.ntmps35
      go_wp2_with fail
      refine (sub_d (((hg.alloc _).alloc _).alloc _) (((hg2.alloc _).alloc _).alloc _) h1 hle).mono ?_
      rintro e w2 ⟨v2, rfl, s2, hb2⟩
      have hk2 := blocks3 (hb2.mono (by simp))
      have hb2t := hW.trans (hb2.mono (by simp; omega))
      clear hb2
      obtain ⟨kc0, kc1, _, _⟩ := two_cells hk2.1
      obtain ⟨kd0, kd1, _, _⟩ := two_cells hk2.2.1
      have HK := Lib.hid hk2.2.2
      clear hk2
      obtain ⟨vo, vc, rfl⟩ := sl_shape s2
      go_wp2_with fail
      refine (signed_any _ _ _ (k1 + k2 + 1) w2 s2 hn).mono ?_
      rintro e w3 ⟨v3, rfl, c3, hb3⟩
      obtain ⟨bb, bo, bl, bc, rfl⟩ := c3.shape
      have hk3 := (hb3.block _ (lt_of_block HK.out)).trans HK.out
      have hb3t := hb2t.trans (hb3.mono hb2t.size)
      clear hb3 hb2t kc0 kc1 kd0 kd1
      obtain ⟨q0, q1, f0, f1⟩ := two_cells hk3
      have HB := Lib.hid hk3
      clear hk3
      go_wp2_with fail
      exact bodyPost_ret (v := .agg #[.bool bb, .slice bo bl bc]) (by simp [results, Try.results35, go_sem, q0, q1]) rfl ⟨_, rfl, c3.set2 HB.out _ _, below_setg hb3t (by omega) _ _⟩
    · have hn : n - m < L32 ^ (k1 + k2 + 1) := lt_pow_more (k := k2) (by omega) (by omega)
      have hlt : m < n := by omega
      have hle2 : m ≤ n := by omega
      rw [sg_sub2 hbd hle2]
      clear hbd hle
      go_enter Try.func35, Try.ntmps35
      go_wp2_with fail
      refine (sub_no (((hg.alloc _).alloc _).alloc _) (((hg2.alloc _).alloc _).alloc _) hlt).mono ?_
      rintro e w2 ⟨rfl, hb2⟩
      have hk2 := blocks3 (hb2.mono (by simp))
      have hb2t := hW.trans (hb2.mono (by simp; omega))
      clear hb2
      obtain ⟨kc0, kc1, _, _⟩ := two_cells hk2.1
      obtain ⟨kd0, kd1, _, _⟩ := two_cells hk2.2.1
      have HK := Lib.hid hk2
      clear hk2
      go_wp2_with fail
      refine (sub_d (hg2.below hb2t) (hg.below hb2t) h2 hle2).mono ?_
      rintro e w4 ⟨v4, rfl, s4, hb4⟩
      have hk0 := (hb4.block _ (lt_of_block HK.out.1)).trans HK.out.1
      have hk1 := (hb4.block _ (lt_of_block HK.out.2.1)).trans HK.out.2.1
      have hk2 := (hb4.block _ (lt_of_block HK.out.2.2)).trans HK.out.2.2
      have hb4t := hb2t.trans (hb4.mono hb2t.size)
      clear hb4 kc0 kc1 kd0 kd1
      obtain ⟨kc0, kc1, _, _⟩ := two_cells hk0
      obtain ⟨kd0, kd1, _, _⟩ := two_cells hk1
      have HK2 := Lib.hid hk2
      clear hk0 hk1 hk2
      obtain ⟨vo, vc, rfl⟩ := sl_shape s4
      go_wp2_with fail
      refine (signed_any _ _ _ (k1 + k2 + 1) w4 s4 hn).mono ?_
      rintro e w3 ⟨v3, rfl, c3, hb3⟩
      obtain ⟨bb, bo, bl, bc, rfl⟩ := c3.shape
      have hk3 := (hb3.block _ (lt_of_block HK2.out)).trans HK2.out
      have hb3t := hb4t.trans (hb3.mono hb4t.size)
      clear hb3 hb4t hb2t kc0 kc1 kd0 kd1
      obtain ⟨q0, q1, f0, f1⟩ := two_cells hk3
      have HB := Lib.hid hk3
      clear hk3
      go_wp2_with fail
      exact bodyPost_ret (v := .agg #[.bool bb, .slice bo bl bc]) (by simp [results, Try.results35, go_sem, q0, q1]) rfl ⟨_, rfl, c3.set2 HB.out _ _, below_setg hb3t (by omega) _ _⟩

theorem GI.alloc {w : World} {v : Value} {z : Int} {k : Nat} (h : GI w v z k) (o : Obj) : GI (w.alloc o) v z k := h.below ((Below.refl _ _).alloc (Nat.le_refl _) _)
theorem gi_mk {w : World} {va : Value} {n k : Nat} (h : GN w va n k) (b : Bool) : GI w (.agg #[.bool b, va]) (sg b n) k := ⟨b, va, n, rfl, h, rfl⟩

set_option maxHeartbeats 1000000 in
theorem wsub_any (va vb : Value) (y z : Int) (k1 k2 : Nat) (w : World) (hx : GI w va y k1) (hy : GI w vb z k2) (h1 : k1 ≤ 1000000) (h2 : k2 ≤ 1000000) :
    Calls Try.prog 27 #[va, vb] w fun e w' => ∃ v, e = .returned v ∧ CI w' v (y - z) (k1 + k2 + 1) ∧ Below w.heap.size w w' := by
  obtain ⟨b, ao, l, c, m, rfl, hg, rfl⟩ := hx.shape
  obtain ⟨d, po, pl, pc, n, rfl, hg2, rfl⟩ := hy.shape
  have hW := below3 w (.cells #[.bool b, .slice ao l c] 26) (.cells #[.bool d, .slice po pl pc] 26) (.cells #[.bool false, .slice none 0 0] 26)
  rw [show sg b m - sg d n = sg b m + sg (!d) n by cases d <;> simp [sg] <;> omega]
  go_enter Try.func27, Try.ntmps27
  go_wp2_with fail
  refine (wadd_any _ _ _ _ k1 k2 _ (((hx.alloc _).alloc _).alloc _) (gi_mk (((hg2.alloc _).alloc _).alloc _) (!d)) h1 h2).mono ?_
  rintro e w3 ⟨v3, rfl, c3, hb3⟩
  obtain ⟨bb, bo, bl, bc, rfl⟩ := c3.shape
  have hk3 := (blocks3 (hb3.mono (by simp))).2.2
  have hb3t := hW.trans (hb3.mono (by simp; omega))
  clear hb3
  obtain ⟨q0, q1, f0, f1⟩ := two_cells hk3
  have HB := Lib.hid hk3
  clear hk3
  go_wp2_with fail
  exact bodyPost_ret (v := .agg #[.bool bb, .slice bo bl bc]) (by simp [results, Try.results27, go_sem, q0, q1]) rfl ⟨_, rfl, c3.set2 HB.out _ _, below_setg hb3t (by omega) _ _⟩

set_option maxHeartbeats 1000000 in
theorem compare_any (a b : Int) (w : World) : Calls Try.prog 49 #[.int .i64 a, .int .i64 b] w fun e w' => e = .returned (.int .i64 (sgnZ (a - b))) ∧ w = w' := by
  have HN : ∀ (x : Int) (w : World), Calls Try.prog 67 #[.int .i64 x] w fun e w' => e = .returned (.bool false) ∧ w = w' := by
    intro x w
    go_enter Try.func67, Try.ntmps67
    go_wp2
    go_ret
    exact ⟨by simp, rfl⟩
  rcases Int.lt_trichotomy a b with h | h | h
  · have HS := Lib.hid (show sgnZ (a - b) = -1 by unfold sgnZ; rw [if_neg (by omega), if_pos (by omega)])
    have H := Lib.hid HN
    clear HN
    go_enter Try.func49, Try.ntmps49
    go_wp2_with fail
    refine (H.out a _).mono ?_; rintro e w' ⟨rfl, rfl⟩
    go_wp2_with fail
    refine (H.out b _).mono ?_; rintro e w' ⟨rfl, rfl⟩
    go_wp2_with fail
    go_ret
    exact ⟨by rw [HS.out]; rfl, rfl⟩
  · subst h
    have HS := Lib.hid (show sgnZ (a - a) = 0 by unfold sgnZ; rw [if_pos (by omega)])
    have H := Lib.hid HN
    clear HN
    go_enter Try.func49, Try.ntmps49
    go_wp2_with fail
    refine (H.out a _).mono ?_; rintro e w' ⟨rfl, rfl⟩
    go_wp2_with fail
    refine (H.out a _).mono ?_; rintro e w' ⟨rfl, rfl⟩
    go_wp2_with fail
    go_ret
    exact ⟨by rw [HS.out]; rfl, rfl⟩
  · have HS := Lib.hid (show sgnZ (a - b) = 1 by unfold sgnZ; rw [if_neg (by omega), if_neg (by omega)])
    have H := Lib.hid HN
    clear HN
    have h' : ¬ a < b := by omega
    go_enter Try.func49, Try.ntmps49
    go_wp2_with fail
    refine (H.out a _).mono ?_; rintro e w' ⟨rfl, rfl⟩
    go_wp2_with fail
    refine (H.out b _).mono ?_; rintro e w' ⟨rfl, rfl⟩
    go_wp2_with fail
    go_ret
    exact ⟨by rw [HS.out]; rfl, rfl⟩
end Go.Proofs.Ytinfbmnimkcdjaa

/- Contracts of package whole: Of, Cmp, Text. -/
namespace Go.Proofs.Ytinfbmnimkcdjaa
open Go.RowKit
set_option maxRecDepth 100000

theorem of_d (n : Nat) (z : Int) (w : World) (hz : z = (n : Int)) (hn : n < 18446744073709551616) :
    Calls Try.prog 54 #[.int .u64 z] w fun e w' => ∃ v, e = .returned v ∧ Sl w' .u32 v (dig L32 n) ∧ n < L32 ^ 2 ∧ Below w.heap.size w w' :=
  (of_any n z w hz hn).mono fun _ _ ⟨v, he, hs, hb⟩ => ⟨v, he, hs, Nat.lt_of_lt_of_eq hn (by decide), hb⟩

set_option maxHeartbeats 1000000 in
theorem wof_any (z : Int) (w : World) (h1 : -9223372036854775808 ≤ z) (h2 : z ≤ 9223372036854775807) :
    Calls Try.prog 30 #[.int .i64 z] w fun e w' => ∃ v, e = .returned v ∧ CI w' v z 2 ∧ Below w.heap.size w w' := by
  have hW : Below w.heap.size w (w.alloc (.cells #[.bool false, .slice none 0 0] 26)) := (Below.refl _ _).alloc (Nat.le_refl _) _
  by_cases hz : z < 0
  · have HZ := Lib.hid (show sg true z.natAbs = z by simp [sg]; omega)
    go_enter Try.func30, Try.ntmps30
    go_wp2_with fail
    refine (of_d z.natAbs _ _ (by simp only [IntKind.wrap_u64]; omega) (by omega)).mono ?_
    rintro e w2 ⟨v2, rfl, s2, hn, hb2⟩
    have hk2 := (hb2.block w.heap.size (by simp)).trans (heap_alloc_new w _)
    have hb2t := hW.trans (hb2.mono (by simp))
    clear hb2
    obtain ⟨vo, vc, rfl⟩ := sl_shape s2
    go_wp2_with fail
    refine (signed_any _ _ _ 2 w2 s2 hn).mono ?_
    rintro e w3 ⟨v3, rfl, c3, hb3⟩
    obtain ⟨bb, bo, bl, bc, rfl⟩ := c3.shape
    have hk3 := (hb3.block _ (lt_of_block hk2)).trans hk2
    have hb3t := hb2t.trans (hb3.mono hb2t.size)
    clear hb3 hk2 hb2t
    obtain ⟨q0, q1, f0, f1⟩ := two_cells hk3
    have HB := Lib.hid hk3
    clear hk3
    rw [HZ.out] at c3
    go_wp2_with fail
    exact bodyPost_ret (v := .agg #[.bool bb, .slice bo bl bc]) (by simp [results, Try.results30, go_sem, q0, q1]) rfl ⟨_, rfl, c3.set2 HB.out _ _, below_setg hb3t (by omega) _ _⟩
  · have HZ := Lib.hid (show sg false z.natAbs = z by simp [sg]; omega)
    go_enter Try.func30, Try.ntmps30
    go_wp2_with fail
    refine (of_d z.natAbs _ _ (by omega) (by omega)).mono ?_
    rintro e w2 ⟨v2, rfl, s2, hn, hb2⟩
    have hk2 := (hb2.block w.heap.size (by simp)).trans (heap_alloc_new w _)
    have hb2t := hW.trans (hb2.mono (by simp))
    clear hb2
    obtain ⟨vo, vc, rfl⟩ := sl_shape s2
    go_wp2_with fail
    refine (signed_any _ _ _ 2 w2 s2 hn).mono ?_
    rintro e w3 ⟨v3, rfl, c3, hb3⟩
    obtain ⟨bb, bo, bl, bc, rfl⟩ := c3.shape
    have hk3 := (hb3.block _ (lt_of_block hk2)).trans hk2
    have hb3t := hb2t.trans (hb3.mono hb2t.size)
    clear hb3 hk2 hb2t
    obtain ⟨q0, q1, f0, f1⟩ := two_cells hk3
    have HB := Lib.hid hk3
    clear hk3
    rw [HZ.out] at c3
    go_wp2_with fail
    exact bodyPost_ret (v := .agg #[.bool bb, .slice bo bl bc]) (by simp [results, Try.results30, go_sem, q0, q1]) rfl ⟨_, rfl, c3.set2 HB.out _ _, below_setg hb3t (by omega) _ _⟩

theorem sgnZ_le (z : Int) : -1 ≤ sgnZ z ∧ sgnZ z ≤ 1 := by unfold sgnZ; split; omega; split <;> omega
theorem sgnZ_sg {b : Bool} {n : Nat} (h : 0 < n) : sgnZ (sg b n) = if b then -1 else 1 := by
  cases b
  · simp only [sg, Bool.false_eq_true, if_false]; unfold sgnZ; rw [if_neg (by omega), if_neg (by omega)]
  · simp only [sg, if_true]; unfold sgnZ; rw [if_neg (by omega), if_pos (by omega)]
theorem sgnZ_zero : sgnZ 0 = 0 := rfl
theorem sgnZ_diff {y z : Int} (h : sgnZ y ≠ sgnZ z) : sgnZ (sgnZ y - sgnZ z) = sgnZ (y - z) := by
  unfold sgnZ at h ⊢
  split at h <;> split at h <;> (try split at h) <;> (try split at h) <;> simp_all <;> first | omega | (rw [if_neg (by omega)]; first | rw [if_pos (by omega)] | rw [if_neg (by omega)])
theorem sgnZ_same {b d : Bool} {m n : Nat} (h : sgnZ (sg b m) = sgnZ (sg d n)) : sgnZ (sg b m) * cmpN m n = sgnZ (sg b m - sg d n) := by
  unfold sgnZ sg cmpN at *
  cases b <;> cases d <;> simp at h ⊢ <;> (repeat' split at h) <;> (repeat' split) <;> first | rfl | omega

set_option maxHeartbeats 2000000 in
theorem wcmp_any (va vb : Value) (y z : Int) (k1 k2 : Nat) (w : World) (hx : GI w va y k1) (hy : GI w vb z k2) (h1 : k1 ≤ 1000000) (h2 : k2 ≤ 1000000) :
    Calls Try.prog 24 #[va, vb] w fun e w' => e = .returned (.int .i64 (sgnZ (y - z))) ∧ Below w.heap.size w w' := by
  have hgx := hx
  have hgy := hy
  obtain ⟨b, ao, l, c, m, rfl, hg, rfl⟩ := hx.shape
  obtain ⟨d, po, pl, pc, n, rfl, hg2, rfl⟩ := hy.shape
  have hW := below2 w (.cells #[.bool b, .slice ao l c] 26) (.cells #[.bool d, .slice po pl pc] 26)
  by_cases hs : sgnZ (sg b m) = sgnZ (sg d n)
  · have HE := Lib.hid (sgnZ_same hs)
    have HS := Lib.hid hs
    have hbs := sgnZ_le (sg b m)
    have hbp := sgnZ_le (sg b m - sg d n)
    have hne : (sgnZ (sg d n) != sgnZ (sg d n)) = false := by simp
    clear hs
    go_enter Try.func24, Try.ntmps24
    go_wp2_with fail
    refine (wsign_any _ _ k1 _ ((hgx.alloc _).alloc _) h1).mono ?_
    rintro e w2 ⟨rfl, hb2⟩
    have hk2 := blocks2 (hb2.mono (by simp))
    have hb2t := hW.trans (hb2.mono (by simp; omega))
    clear hb2
    obtain ⟨kc0, kc1, _, _⟩ := two_cells hk2.1
    obtain ⟨kd0, kd1, _, _⟩ := two_cells hk2.2
    have HK := Lib.hid hk2
    clear hk2
    rw [HS.out]
    go_wp2_with fail
    refine (wsign_any _ _ k2 _ (hgy.below hb2t) h2).mono ?_
    rintro e w4 ⟨rfl, hb4⟩
    have hk0 := (hb4.block _ (lt_of_block HK.out.1)).trans HK.out.1
    have hk1 := (hb4.block _ (lt_of_block HK.out.2)).trans HK.out.2
    have hb4t := hb2t.trans (hb4.mono hb2t.size)
    clear hb4 kc0 kc1 kd0 kd1
    obtain ⟨kc0, kc1, _, _⟩ := two_cells hk0
    obtain ⟨kd0, kd1, _, _⟩ := two_cells hk1
    have HK0 := Lib.hid hk0
    have HK1 := Lib.hid hk1
    clear hk0 hk1
    go_wp2_with fail
    refine (cmp_n (hg.below hb4t) (hg2.below hb4t)).mono ?_
    rintro e w5 ⟨rfl, hb5⟩
    have hb5t := hb4t.trans (hb5.mono hb4t.size)
    have HP := Lib.hid (show sgnZ (sg d n) * cmpN m n = sgnZ (sg b m - sg d n) by rw [← HS.out]; exact HE.out)
    have p1 : -9223372036854775808 ≤ sgnZ (sg d n) * cmpN m n := by rw [HP.out]; omega
    have p2 : sgnZ (sg d n) * cmpN m n ≤ 9223372036854775807 := by rw [HP.out]; omega
    clear hb5
    go_wp2_with fail
    go_ret
    exact ⟨by rw [← HP.out]; rfl, hb5t⟩
  · have HD := Lib.hid (sgnZ_diff hs)
    have hne : (sgnZ (sg b m) != sgnZ (sg d n)) = true := by rw [bne_iff_ne]; exact hs
    clear hs
    go_enter Try.func24, Try.ntmps24
    go_wp2_with fail
    refine (wsign_any _ _ k1 _ ((hgx.alloc _).alloc _) h1).mono ?_
    rintro e w2 ⟨rfl, hb2⟩
    have hk2 := blocks2 (hb2.mono (by simp))
    have hb2t := hW.trans (hb2.mono (by simp; omega))
    clear hb2
    obtain ⟨kd0, kd1, _, _⟩ := two_cells hk2.2
    have HK := Lib.hid hk2.2
    clear hk2
    go_wp2_with fail
    refine (wsign_any _ _ k2 _ (hgy.below hb2t) h2).mono ?_
    rintro e w4 ⟨rfl, hb4⟩
    have hk1 := (hb4.block _ (lt_of_block HK.out)).trans HK.out
    have hb4t := hb2t.trans (hb4.mono hb2t.size)
    clear hb4 kd0 kd1
    obtain ⟨kd0, kd1, _, _⟩ := two_cells hk1
    clear hk1
    go_wp2_with fail
    refine (wsign_any _ _ k2 _ (hgy.below hb4t) h2).mono ?_
    rintro e w5 ⟨rfl, hb5⟩
    have hb5t := hb4t.trans (hb5.mono hb4t.size)
    clear hb5 kd0 kd1
    go_wp2_with fail
    refine (compare_any _ _ _).mono ?_
    rintro e w6 ⟨rfl, rfl⟩
    rw [HD.out]
    go_wp2_with fail
    go_ret
    exact ⟨rfl, hb5t⟩
end Go.Proofs.Ytinfbmnimkcdjaa
