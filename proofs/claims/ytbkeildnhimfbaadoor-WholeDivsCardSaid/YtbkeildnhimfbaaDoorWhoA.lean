/-
  Contracts of package whole: signed, Big, Of: what each call returns. Integers as values: a sign and limbs.
-/
import Derived.Test.YtbkeildnhimfbaaDoorNum
import Derived.Deep.RegionHeld3
import Derived.Deep.DeepCutAuto
namespace Go.Proofs.YtbkeildnhimfbaaDoor
open Go.RowKit
set_option maxRecDepth 100000

/-- n, or -n if b. -/
def sg (b : Bool) (n : Nat) : Int := if b then -(n : Int) else (n : Int)
theorem sg_natAbs (b : Bool) (n : Nat) : (sg b n).natAbs = n := by cases b <;> simp [sg]
theorem sg_neg (b : Bool) (n : Nat) : decide (sg b n < 0) = (b && decide (0 < n)) := by
  cases b
  · simp [sg]
  · simp [sg]

/-- The value reads, in w, as the integer z, in any form, by at most k limbs. -/
def GI (w : World) (v : Value) (z : Int) (k : Nat) : Prop := ∃ b va n, v = .agg #[.bool b, va] ∧ GN w va n k ∧ z = sg b n
/-- The value is, in w, the canonical form of the integer z, which has at most k limbs. -/
def CI (w : World) (v : Value) (z : Int) (k : Nat) : Prop := ∃ va, v = .agg #[.bool (decide (z < 0)), va] ∧ Sl w .u32 va (dig L32 z.natAbs) ∧ z.natAbs < L32 ^ k

theorem GI.below {w w' : World} {v : Value} {z : Int} {k : Nat} (h : GI w v z k) (hb : Below w.heap.size w w') : GI w' v z k := by
  obtain ⟨b, va, n, rfl, h, rfl⟩ := h; exact ⟨b, va, n, rfl, h.below hb, rfl⟩
theorem CI.below {w w' : World} {v : Value} {z : Int} {k : Nat} (h : CI w v z k) (hb : Below w.heap.size w w') : CI w' v z k := by
  obtain ⟨va, rfl, h, h2⟩ := h; exact ⟨va, rfl, h.below hb, h2⟩
theorem CI.gi {w : World} {v : Value} {z : Int} {k : Nat} (h : CI w v z k) : GI w v z k := by
  obtain ⟨va, rfl, h, h2⟩ := h
  refine ⟨_, va, _, rfl, gn_dig h h2, ?_⟩
  unfold sg
  by_cases hz : z < 0
  · rw [if_pos (by simpa using hz)]; omega
  · rw [if_neg (by simpa using hz)]; omega
theorem GI.lt {w : World} {v : Value} {z : Int} {k : Nat} (h : GI w v z k) : z.natAbs < L32 ^ k := by
  obtain ⟨b, va, n, rfl, h, rfl⟩ := h; rw [sg_natAbs]; exact h.lt
theorem ci_mk {w : World} {b : Bool} {n k : Nat} {va : Value} (h : Sl w .u32 va (dig L32 n)) (hn : n < L32 ^ k) : CI w (.agg #[.bool (b && decide (0 < n)), va]) (sg b n) k :=
  ⟨va, by rw [sg_neg], by rw [sg_natAbs]; exact h, by rw [sg_natAbs]; exact hn⟩

theorem dig_len_pos {n : Nat} : 0 < n → 0 < (dig L32 n).length := fun h => by
  rcases Nat.eq_zero_or_pos (dig L32 n).length with h0 | h0
  · have := val_dig (B := L32) (by decide) n
    rw [List.eq_nil_of_length_eq_zero h0] at this
    simp [val] at this; omega
  · exact h0

set_option maxHeartbeats 1000000 in
theorem signed_any (b : Bool) (va : Value) (n k : Nat) (w : World) (hs : Sl w .u32 va (dig L32 n)) (hn : n < L32 ^ k) :
    Calls Tryd.prog 38 #[.bool b, va] w fun e w' => ∃ v, e = .returned v ∧ CI w' v (sg b n) k ∧ Below w.heap.size w w' := by
  have hci : ∀ w' B, B = (b && decide (0 < n)) → Below w.heap.size w w' → CI w' (.agg #[.bool B, va]) (sg b n) k := fun w' B e hb => by subst e; exact ci_mk (hs.below hb) hn
  obtain ⟨ao, ac, rfl⟩ := sl_shape hs
  have HS := Lib.hid hci
  clear hci hs hn
  cases b
  · go_enter Tryd.func38, Tryd.ntmps38
    go_wp2
    exact bodyPost_ret (v := .agg #[.bool false, .slice ao (dig L32 n).length ac]) (by simp [results, Tryd.results38, go_sem]) rfl ⟨_, rfl, HS.out _ _ rfl ((Below.refl _ _).alloc (Nat.le_refl _) _), (Below.refl _ _).alloc (Nat.le_refl _) _⟩
  · by_cases h0 : 0 < n
    · have hl := dig_len_pos h0
      have HD := Lib.hid (show true = (true && decide (0 < n)) by simp [h0])
      go_enter Tryd.func38, Tryd.ntmps38
      go_wp2
      exact bodyPost_ret (v := .agg #[.bool true, .slice ao (dig L32 n).length ac]) (by simp [results, Tryd.results38, go_sem]) rfl ⟨_, rfl, HS.out _ _ HD.out ((Below.refl _ _).alloc (Nat.le_refl _) _), (Below.refl _ _).alloc (Nat.le_refl _) _⟩
    · obtain rfl : n = 0 := by omega
      have HD := Lib.hid (show false = (true && decide (0 < 0)) by simp)
      have hl : (dig L32 0).length ≤ 0 := by rw [dig_zero]; exact Nat.le_refl _
      have hd : decide (0 < (dig L32 0).length) = false := by rw [decide_eq_false_iff_not]; omega
      go_enter Tryd.func38, Tryd.ntmps38
      go_wp2
      exact bodyPost_ret (v := .agg #[.bool false, .slice ao (dig L32 0).length ac]) (by simp [results, Tryd.results38, go_sem]) rfl ⟨_, rfl, HS.out _ _ HD.out ((Below.refl _ _).alloc (Nat.le_refl _) _), (Below.refl _ _).alloc (Nat.le_refl _) _⟩

theorem GN.shape {w : World} {v : Value} {n k : Nat} (h : GN w v n k) : ∃ ao l c, v = .slice ao l c ∧ l ≤ k := by
  obtain ⟨xs, h, _, _, hk⟩ := h
  obtain ⟨ao, c, rfl⟩ := sl_shape h
  exact ⟨ao, _, c, rfl, hk⟩
theorem trim_n {va : Value} {n k : Nat} {w : World} (hx : GN w va n k) (hk : k ≤ 1000000) :
    Calls Tryd.prog 69 #[va] w fun e w' => ∃ v, e = .returned v ∧ Sl w' .u32 v (dig L32 n) ∧ Below w.heap.size w w' := by
  obtain ⟨xs, hx, dx, rfl, lx⟩ := hx
  exact (trim_any _ xs w hx dx (by omega)).mono fun _ _ ⟨v, he, hs, hb⟩ => ⟨v, he, hs.sl, hb⟩

theorem CI.shape {w : World} {v : Value} {z : Int} {k : Nat} (h : CI w v z k) : ∃ b ao l c, v = .agg #[.bool b, .slice ao l c] := by
  obtain ⟨va, rfl, h, _⟩ := h
  obtain ⟨ao, c, rfl⟩ := sl_shape h
  exact ⟨_, ao, _, c, rfl⟩
theorem GI.shape {w : World} {v : Value} {z : Int} {k : Nat} (h : GI w v z k) : ∃ b ao l c n, v = .agg #[.bool b, .slice ao l c] ∧ GN w (.slice ao l c) n k ∧ z = sg b n := by
  obtain ⟨b, va, n, rfl, h, rfl⟩ := h
  obtain ⟨ao, l, c, rfl, _⟩ := h.shape
  exact ⟨b, ao, l, c, n, rfl, h, rfl⟩

/-- The block of a struct of two cells that was made for a result. -/
theorem two_cells {w : World} {g : Nat} {T : TypeId} {a b : Value} (h : w.heap[g]? = some (.cells #[a, b] T (0, 0))) :
    w.cell? ⟨g, 0, none⟩ = some a ∧ w.cell? ⟨g, 1, none⟩ = some b ∧ w.frozen? ⟨g, 0, none⟩ = false ∧ w.frozen? ⟨g, 1, none⟩ = false :=
  ⟨by rw [cell_of_row w g 0 _ T (0, 0) h]; rfl, by rw [cell_of_row w g 1 _ T (0, 0) h]; rfl, frozen_of_row w g 0 _ T h, frozen_of_row w g 1 _ T h⟩
theorem Sl.set {w : World} {k : IntKind} {v : Value} {xs : List Nat} (h : Sl w k v xs) {p : Addr} {u : Value} (hc : w.cell? p = some u) (hu : ∀ k z, u ≠ .int k z) (x : Value) : Sl (w.setCell p x) k v xs := by
  obtain ⟨ao, cap, rfl, h1, h2, h3, h4⟩ := h
  refine ⟨ao, cap, rfl, h1, h2, h3, fun i hi => ?_⟩
  obtain ⟨a, ha, hq⟩ := h4 i hi
  refine ⟨a, ha, ?_⟩
  rw [World.cell?_setCell_other w p (a.add i) x (fun e => by rw [← e, hc] at hq; injection hq with hq; exact hu _ _ hq)]
  exact hq
theorem Sl.set2 {w : World} {k : IntKind} {v : Value} {xs : List Nat} (h : Sl w k v xs) {g : Nat} {T : TypeId} {b0 : Bool} {a0 : Option Addr} {n0 c0 : Nat} (hB : w.heap[g]? = some (.cells #[.bool b0, .slice a0 n0 c0] T (0, 0))) (x y : Value) :
    Sl ((w.setCell ⟨g, 0, none⟩ x).setCell ⟨g, 1, none⟩ y) k v xs := by
  obtain ⟨q0, q1, _, _⟩ := two_cells hB
  refine (h.set q0 (by intro k z e; cases e) x).set (u := .slice a0 n0 c0) ?_ (by intro k z e; cases e) y
  rw [World.cell?_setCell_other w _ _ x (by intro e; injection e with _ e; omega)]
  exact q1
theorem CI.set2 {w : World} {v : Value} {z : Int} {k : Nat} (h : CI w v z k) {g : Nat} {T : TypeId} {b0 : Bool} {a0 : Option Addr} {n0 c0 : Nat} (hB : w.heap[g]? = some (.cells #[.bool b0, .slice a0 n0 c0] T (0, 0))) (x y : Value) :
    CI ((w.setCell ⟨g, 0, none⟩ x).setCell ⟨g, 1, none⟩ y) v z k := by
  obtain ⟨va, rfl, h, h2⟩ := h
  exact ⟨va, rfl, h.set2 hB x y, h2⟩
theorem below_set2 {B : Nat} {w w' : World} (h : Below B w w') (hB : B ≤ w.heap.size) (x y : Value) : Below B w ((w'.setCell ⟨w.heap.size, 0, none⟩ x).setCell ⟨w.heap.size, 1, none⟩ y) :=
  (h.setCell (by simpa using hB) _).setCell (by simpa using hB) _

set_option maxHeartbeats 1000000 in
theorem big_any (b : Bool) (va : Value) (n k : Nat) (w : World) (hx : GN w va n k) (hk : k ≤ 1000000) :
    Calls Tryd.prog 48 #[.bool b, va] w fun e w' => ∃ v, e = .returned v ∧ CI w' v (sg b n) k ∧ Below w.heap.size w w' := by
  have hn := hx.lt
  have hx' := hx
  obtain ⟨ao, l, c, rfl, hl⟩ := hx.shape
  go_enter Tryd.func48, Tryd.ntmps48
  go_wp2_with fail
  refine (trim_n (hx'.below ((Below.refl _ _).alloc (Nat.le_refl _) _)) hk).mono ?_
  rintro e w1 ⟨v1, rfl, s1, hb1⟩
  have hB1 := (hb1.block w.heap.size (by simp)).trans (heap_alloc_new w _)
  have hb1t : Below w.heap.size w w1 := ((Below.refl _ _).alloc (Nat.le_refl _) _).trans (hb1.mono (by simp))
  go_wp2_with fail
  refine (signed_any b v1 n k w1 s1 hn).mono ?_
  rintro e w2 ⟨v2, rfl, c2, hb2⟩
  have hB2 := (hb2.block w.heap.size (lt_of_block hB1)).trans hB1
  have hb2t : Below w.heap.size w w2 := hb1t.trans (hb2.mono hb1t.size)
  obtain ⟨bb, bo, bl, bc, rfl⟩ := c2.shape
  obtain ⟨q0, q1, f0, f1⟩ := two_cells hB2
  have HB := Lib.hid hB2
  clear hB1 hB2
  go_wp2_with fail
  exact bodyPost_ret (v := .agg #[.bool bb, .slice bo bl bc]) (by simp [results, Tryd.results48, go_sem, q0, q1]) rfl ⟨_, rfl, c2.set2 HB.out _ _, below_set2 hb2t (Nat.le_refl _) _ _⟩
end Go.Proofs.YtbkeildnhimfbaaDoor
