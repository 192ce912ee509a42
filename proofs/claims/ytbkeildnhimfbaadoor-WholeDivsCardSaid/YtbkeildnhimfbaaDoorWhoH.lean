/-
  Contracts of the laws' helpers for integers: short, same.
-/
import Derived.Test.YtbkeildnhimfbaaDoorWhoF
namespace Go.Proofs.YtbkeildnhimfbaaDoor
open Go.RowKit
set_option maxRecDepth 100000

/-- m integers lie one behind the other from cell 0 of block g on, of L 0, L 1, .. limbs. -/
def RowsI (w : World) (g m : Nat) (L : Nat → Nat) : Prop := ∀ j, j < m → ∃ b ao c, w.cell? ⟨g, j * 2, none⟩ = some (.bool b) ∧ w.cell? ⟨g, j * 2 + 1, none⟩ = some (.slice ao (L j) c)

set_option maxHeartbeats 1000000 in
theorem wshort_true (z : Int) (most g m : Nat) (L : Nat → Nat) (w : World) (hz : z = (most : Int)) (hr : RowsI w g m L) (hm : m ≤ 100) (hg : g < w.heap.size) (h : ∀ j, j < m → L j ≤ most) :
    Calls Tryd.prog 11 #[.int .i64 z, .slice (some ⟨g, 0, none⟩) m m] w fun e w' => e = .returned (.bool true) ∧ Below w.heap.size w w' := by
  subst hz
  go_enter Tryd.func11, Tryd.ntmps11
  go_wp2
  go_loopw [9] (fun i wr => ∃ k : Nat, k ≤ m ∧ i = .int .i64 k ∧ Below w.heap.size w wr) (fun i _ => m - (intOf i).toNat)
  case atStart => exact ⟨0, Nat.zero_le _, rfl, Below.refl _ _⟩
  case round =>
    obtain ⟨k, hk, rfl, hb⟩ := hrel
    by_cases hlt : k < m
    · obtain ⟨b, ao, c, hc1, hc2⟩ := hr k hlt
      rw [← hb.cell (p := ⟨g, k * 2, none⟩) hg] at hc1
      rw [← hb.cell (p := ⟨g, k * 2 + 1, none⟩) hg] at hc2
      have hle := h k hlt
      have hbs := hb.size
      clear h
      go_wp2
      go_roundw
      case rel => exact ⟨k + 1, by omega, by go_num, hb.alloc hbs _⟩
      case measure => simp [intOf]; omega
    · go_wp2
      go_ret
      exact ⟨rfl, hb⟩

set_option maxHeartbeats 1000000 in
theorem wshort_false (z : Int) (most g m : Nat) (L : Nat → Nat) (w : World) (hz : z = (most : Int)) (hr : RowsI w g m L) (hm : m ≤ 100) (hg : g < w.heap.size) (j : Nat) (hj : j < m) (h : most < L j) :
    Calls Tryd.prog 11 #[.int .i64 z, .slice (some ⟨g, 0, none⟩) m m] w fun e w' => e = .returned (.bool false) ∧ Below w.heap.size w w' := by
  subst hz
  go_enter Tryd.func11, Tryd.ntmps11
  go_wp2
  go_loopw [9] (fun i wr => ∃ k : Nat, k ≤ j ∧ i = .int .i64 k ∧ Below w.heap.size w wr) (fun i _ => m - (intOf i).toNat)
  case atStart => exact ⟨0, Nat.zero_le _, rfl, Below.refl _ _⟩
  case round =>
    obtain ⟨k, hk, rfl, hb⟩ := hrel
    obtain ⟨b, ao, c, hc1, hc2⟩ := hr k (by omega)
    rw [← hb.cell (p := ⟨g, k * 2, none⟩) hg] at hc1
    rw [← hb.cell (p := ⟨g, k * 2 + 1, none⟩) hg] at hc2
    have hbs := hb.size
    by_cases hle : L k ≤ most
    · have hne : k ≠ j := fun e => by subst e; omega
      clear h
      go_wp2
      go_roundw
      case rel => exact ⟨k + 1, by omega, by go_num, hb.alloc hbs _⟩
      case measure => simp [intOf]; omega
    · clear h
      go_wp2
      go_ret
      exact ⟨rfl, hb.alloc hbs _⟩

theorem sgnZ_self (z : Int) : sgnZ (z - z) = 0 := by unfold sgnZ; rw [if_pos (by omega)]

set_option maxHeartbeats 1000000 in
theorem same_true (va vb : Value) (z : Int) (k1 k2 : Nat) (w : World) (hx : CI w va z k1) (hy : CI w vb z k2) (h1 : k1 ≤ 1000000) (h2 : k2 ≤ 1000000) :
    Calls Tryd.prog 25 #[va, vb] w fun e w' => e = .returned (.bool true) ∧ Below w.heap.size w w' := by
  have gx := hx.gi
  have gy := hy.gi
  obtain ⟨va, rfl, hx, _⟩ := hx
  obtain ⟨vb, rfl, hy, _⟩ := hy
  obtain ⟨ao, ac, rfl⟩ := sl_shape hx
  obtain ⟨bo, bc, rfl⟩ := sl_shape hy
  have HS := Lib.hid (sgnZ_self z)
  clear hx hy
  generalize decide (z < 0) = b at *
  generalize (dig L32 z.natAbs).length = l at *
  have hW := below2 w (.cells #[.bool b, .slice ao l ac] 25) (.cells #[.bool b, .slice bo l bc] 25)
  go_enter Tryd.func25, Tryd.ntmps25
  go_wp2_with fail
  refine (wcmp_any _ _ z z k1 k2 _ ((gx.alloc _).alloc _) ((gy.alloc _).alloc _) h1 h2).mono ?_
  rintro e w2 ⟨rfl, hb2⟩
  rw [HS.out]
  obtain ⟨hk0, hk1⟩ := blocks2 (hb2.mono (by simp))
  have hb2t := hW.trans (hb2.mono (by simp; omega))
  obtain ⟨p0, p1, _, _⟩ := two_cells hk0
  obtain ⟨q0, q1, _, _⟩ := two_cells hk1
  clear hb2 hk0 hk1
  have hbb : (b == b) = true := by cases b <;> rfl
  go_wp2_with fail
  go_ret
  exact ⟨rfl, hb2t⟩
end Go.Proofs.YtbkeildnhimfbaaDoor
