/-
  Contracts of the laws' helpers: Is, short.
-/
import Derived.Test.YtdbpcfelibcgiaaDoorRefC
namespace Go.Proofs.YtdbpcfelibcgiaaDoor
open Go.RowKit

theorem dig_last {B n : Nat} (hB : 2 ≤ B) (h : 0 < (dig B n).length) : (dig B n).getD ((dig B n).length - 1) 0 ≠ 0 := by
  intro h0
  have h1 := take_nz hB (Dig_dig hB n)
  rw [val_dig hB] at h1
  have h2 := congrArg List.length h1
  rw [List.length_take] at h2
  have h3 := nz_zero (xs := dig B n) (k := (dig B n).length - 1) (by omega) h0
  rw [show (dig B n).length - 1 + 1 = (dig B n).length by omega, List.take_length] at h3
  have h4 := nz_le ((dig B n).take ((dig B n).length - 1))
  rw [List.length_take] at h4
  omega

set_option maxHeartbeats 1000000 in
theorem is_true (va vb : Value) (n : Nat) (w : World) (hx : Sl w .u32 va (dig L32 n)) (hy : Sl w .i64 vb (dig 2 n)) (hl : (dig L32 n).length ≤ 10000) :
    Calls Tryd.prog 16 #[va, vb] w fun e w' => e = .returned (.bool true) ∧ Below w.heap.size w w' := by
  have HX := Lib.hid hx
  have dx := Dig_dig (B := L32) (by decide) n
  have HV := Lib.hid (val_dig (B := L32) (by decide) n)
  have hlast : 0 < (dig L32 n).length → nth (dig L32 n) ((dig L32 n).length - 1) ≠ 0 := fun h => by
    have := dig_last (B := L32) (n := n) (by decide) h
    unfold nth; omega
  have HC := Lib.hid (cmpN_eq (a := n) (b := n) rfl)
  have HLA := Lib.hid hlast
  clear hlast
  generalize hxs : dig L32 n = xs at *
  clear hxs
  obtain ⟨ao, ac, rfl, a1, a2, a3, a4⟩ := hx
  by_cases h0 : 0 < xs.length
  · obtain ⟨a, rfl, hca⟩ := a4 (xs.length - 1) (by omega)
    have hz : (nth xs (xs.length - 1) == 0) = false := by have := HLA.out h0; simpa using this
    clear a4
    go_enter Tryd.func16, Tryd.ntmps16
    go_wp2_with fail
    refine (bits_any _ xs w HX.out dx (by omega)).mono ?_; rintro e w1 ⟨v1, rfl, hs1, hb1⟩
    rw [HV.out] at hs1
    go_wp2_with fail
    refine (rcmp_any _ _ n n w1 hs1 (hy.below hb1)).mono ?_; rintro e w2 ⟨rfl, hb2⟩
    rw [HC.out]
    go_wp2_with fail
    go_ret
    exact ⟨rfl, hb1.trans (hb2.mono hb1.size)⟩
  · clear a4
    go_enter Tryd.func16, Tryd.ntmps16
    go_wp2_with fail
    refine (bits_any _ xs w HX.out dx (by omega)).mono ?_; rintro e w1 ⟨v1, rfl, hs1, hb1⟩
    rw [HV.out] at hs1
    go_wp2_with fail
    refine (rcmp_any _ _ n n w1 hs1 (hy.below hb1)).mono ?_; rintro e w2 ⟨rfl, hb2⟩
    rw [HC.out]
    go_wp2_with fail
    go_ret
    exact ⟨rfl, hb1.trans (hb2.mono hb1.size)⟩

/-- m slice values lie one behind the other from cell 0 of block g on, of lengths L 0, L 1, .. -/
def Rows2 (w : World) (g m : Nat) (L : Nat → Nat) : Prop := ∀ j, j < m → ∃ ao c, w.cell? ⟨g, j, none⟩ = some (.slice ao (L j) c)

set_option maxHeartbeats 1000000 in
theorem short_true (z : Int) (most g m : Nat) (L : Nat → Nat) (w : World) (hz : z = (most : Int)) (hr : Rows2 w g m L) (hm : m ≤ 100) (h : ∀ j, j < m → L j ≤ most) :
    Calls Tryd.prog 15 #[.int .i64 z, .slice (some ⟨g, 0, none⟩) m m] w fun e w' => e = .returned (.bool true) ∧ w = w' := by
  subst hz
  go_enter Tryd.func15, Tryd.ntmps15
  go_wp2
  go_loop [9] (fun i => ∃ k : Nat, k ≤ m ∧ i = .int .i64 k) (fun i => m - (intOf i).toNat)
  case atStart => exact ⟨0, Nat.zero_le _, rfl⟩
  case round =>
    obtain ⟨k, hk, rfl⟩ := hrel
    by_cases hlt : k < m
    · obtain ⟨ao, c, hc⟩ := hr k hlt
      have hle := h k hlt
      clear h
      go_wp2
      go_round
      case rel => exact ⟨k + 1, by omega, by go_num⟩
      case measure => simp [intOf]; omega
    · go_wp2
      go_ret
      exact ⟨rfl, rfl⟩

set_option maxHeartbeats 1000000 in
theorem short_false (z : Int) (most g m : Nat) (L : Nat → Nat) (w : World) (hz : z = (most : Int)) (hr : Rows2 w g m L) (hm : m ≤ 100) (j : Nat) (hj : j < m) (h : most < L j) :
    Calls Tryd.prog 15 #[.int .i64 z, .slice (some ⟨g, 0, none⟩) m m] w fun e w' => e = .returned (.bool false) ∧ w = w' := by
  subst hz
  go_enter Tryd.func15, Tryd.ntmps15
  go_wp2
  go_loop [9] (fun i => ∃ k : Nat, k ≤ j ∧ i = .int .i64 k) (fun i => m - (intOf i).toNat)
  case atStart => exact ⟨0, Nat.zero_le _, rfl⟩
  case round =>
    obtain ⟨k, hk, rfl⟩ := hrel
    obtain ⟨ao, c, hc⟩ := hr k (by omega)
    by_cases hle : L k ≤ most
    · have hne : k ≠ j := fun e => by subst e; omega
      clear h
      go_wp2
      go_round
      case rel => exact ⟨k + 1, by omega, by go_num⟩
      case measure => simp [intOf]; omega
    · clear h
      go_wp2
      go_ret
      exact ⟨rfl, rfl⟩
end Go.Proofs.YtdbpcfelibcgiaaDoor
