/-
  The walk of the law NatSubs.
-/
import Derived.Test.YtdbpcfelibcgiaaDoorFit
namespace Go.Proofs.YtdbpcfelibcgiaaDoor
open Go.RowKit

theorem bits_le {m n : Nat} (h : ¬ m < n) : (dig 2 n).length ≤ (dig 2 m).length :=
  length_dig_le (by decide) (by
    have h1 := val_lt (Dig_dig (B := 2) (by decide) m)
    rw [val_dig (by decide)] at h1
    omega)
theorem diff_lt {xs : List Nat} {n m : Nat} (dx : Dig L32 xs) (lx : xs.length ≤ n) : val L32 xs - m < L32 ^ n := by
  have h1 := Nat.lt_of_lt_of_le (val_lt dx) (Nat.pow_le_pow_right (n := L32) (by decide) lx)
  omega

set_option maxHeartbeats 2000000 in
theorem natSubs_walk (va vb : Value) (xs ys : List Nat) (w : World) (hx : Sl w .u32 va xs) (hy : Sl w .u32 vb ys) (dx : Dig L32 xs) (dy : Dig L32 ys) :
    Calls Tryd.prog 4 #[va, vb] w fun e w' => e = .returned (.bool true) ∧ Below w.heap.size w w' := by
  have HF := Lib.hid fitOk
  obtain ⟨ao, ac, rfl⟩ := sl_shape hx
  obtain ⟨bo, bc, rfl⟩ := sl_shape hy
  by_cases hs : xs.length ≤ 60 ∧ ys.length ≤ 60
  · obtain ⟨lx, ly⟩ := hs
    go_enter Tryd.func4, Tryd.ntmps4
    go_wp2_with fail
    refine (HF.out _).mono ?_; rintro e w1 ⟨rfl, hb1⟩
    go_wp2_with fail
    refine (short_true _ 60 w1.heap.size 2 (fun j => if j = 0 then xs.length else ys.length) _ rfl (rows2_two 22 (heap_alloc_new _ _)) (by omega) (by intro j _; show (if j = 0 then xs.length else ys.length) ≤ 60; split <;> omega)).mono ?_
    rintro e w2 ⟨rfl, rfl⟩
    have hb2 : Below w.heap.size w (w1.alloc (.cells #[.slice ao xs.length ac, .slice bo ys.length bc] 22)) := hb1.alloc hb1.size _
    generalize (w1.alloc (.cells #[.slice ao xs.length ac, .slice bo ys.length bc] 22)) = w2 at *
    go_wp2_with fail
    refine (bits_any _ xs w2 (hx.below hb2) dx (by omega)).mono ?_
    rintro e w3 ⟨v3, rfl, hsx, hb3⟩
    have hb3t : Below w.heap.size w w3 := hb2.trans (hb3.mono hb2.size)
    go_wp2_with fail
    refine (bits_any _ ys w3 (hy.below hb3t) dy (by omega)).mono ?_
    rintro e w4 ⟨v4, rfl, hsy, hb4⟩
    have hb4t : Below w.heap.size w w4 := hb3t.trans (hb4.mono hb3t.size)
    have hsx4 := hsx.below hb4
    have VX := Lib.hid (val_dig (B := 2) (by decide) (val L32 xs))
    have VY := Lib.hid (val_dig (B := 2) (by decide) (val L32 ys))
    by_cases hlt : val L32 xs < val L32 ys
    · have HC := Lib.hid (cmpN_lt hlt)
      go_wp2_with fail
      refine (sub_lt _ _ xs ys w4 (hx.below hb4t) (hy.below hb4t) dx dy hlt).mono ?_
      rintro e w5 ⟨rfl, hb5⟩
      have hb5t : Below w.heap.size w w5 := hb4t.trans (hb5.mono hb4t.size)
      go_wp2_with fail
      refine (rcmp_any _ _ (val L32 xs) (val L32 ys) w5 (hsx4.below hb5) (hsy.below hb5)).mono ?_
      rintro e w6 ⟨rfl, hb6⟩
      have hb6t : Below w.heap.size w w6 := hb5t.trans (hb6.mono hb5t.size)
      rw [HC.out]
      go_wp2_with fail
      refine (cmp_any _ _ xs ys w6 (hx.below hb6t) (hy.below hb6t) dx dy).mono ?_
      rintro e w7 ⟨rfl, hb7⟩
      have hb7t : Below w.heap.size w w7 := hb6t.trans (hb7.mono hb6t.size)
      rw [HC.out]
      go_wp2_with fail
      go_ret
      exact ⟨rfl, hb7t⟩
    · have hc : 0 ≤ cmpN (val L32 xs) (val L32 ys) := by unfold cmpN; rw [if_neg hlt]; split <;> omega
      go_wp2_with fail
      refine (sub_ge _ _ xs ys w4 (hx.below hb4t) (hy.below hb4t) dx dy (by omega) (by omega)).mono ?_
      rintro e w5 ⟨v5, rfl, hsd, hb5⟩
      have hb5t : Below w.heap.size w w5 := hb4t.trans (hb5.mono hb4t.size)
      go_wp2_with fail
      refine (rcmp_any _ _ (val L32 xs) (val L32 ys) w5 (hsx4.below hb5) (hsy.below hb5)).mono ?_
      rintro e w6 ⟨rfl, hb6⟩
      have hb6t : Below w.heap.size w w6 := hb5t.trans (hb6.mono hb5t.size)
      go_wp2_with fail
      refine (cmp_any _ _ xs ys w6 (hx.below hb6t) (hy.below hb6t) dx dy).mono ?_
      rintro e w7 ⟨rfl, hb7⟩
      have hb7t : Below w.heap.size w w7 := hb6t.trans (hb7.mono hb6t.size)
      go_wp2_with fail
      refine (rsub_any _ _ _ _ w7 (((hsx4.below hb5).below hb6).below hb7) (((hsy.below hb5).below hb6).below hb7) (Dig_dig (by decide) _) (Dig_dig (by decide) _) (bits_len dx (by omega)) (bits_le hlt) (by rw [VX.out, VY.out]; omega)).mono ?_
      rintro e w8 ⟨v8, rfl, hs8, hb8⟩
      have hb8t : Below w.heap.size w w8 := hb7t.trans (hb8.mono hb7t.size)
      rw [VX.out, VY.out] at hs8
      go_wp2_with fail
      refine (is_true _ _ (val L32 xs - val L32 ys) w8 (((hsd.below hb6).below hb7).below hb8) hs8 (Nat.le_trans (length_dig_le (B := L32) (k := 60) (by decide) (diff_lt dx lx)) (by omega))).mono ?_
      rintro e w9 ⟨rfl, hb9⟩
      have hb9t : Below w.heap.size w w9 := hb8t.trans (hb9.mono hb8t.size)
      go_wp2_with fail
      go_ret
      exact ⟨rfl, hb9t⟩
  · obtain ⟨j, hj, hlj⟩ : ∃ j, j < 2 ∧ 60 < (if j = 0 then xs.length else ys.length) := by
      by_cases h : xs.length ≤ 60
      · exact ⟨1, by omega, by rw [if_neg (by omega)]; omega⟩
      · exact ⟨0, by omega, by rw [if_pos rfl]; omega⟩
    have HLJ := Lib.hid hlj
    clear hs hlj
    go_enter Tryd.func4, Tryd.ntmps4
    go_wp2_with fail
    refine (HF.out _).mono ?_; rintro e w1 ⟨rfl, hb1⟩
    go_wp2_with fail
    refine (short_false _ 60 w1.heap.size 2 (fun j => if j = 0 then xs.length else ys.length) _ rfl (rows2_two 22 (heap_alloc_new _ _)) (by omega) j hj HLJ.out).mono ?_
    rintro e w2 ⟨rfl, rfl⟩
    go_wp2_with fail
    go_ret
    exact ⟨rfl, hb1.alloc hb1.size _⟩
end Go.Proofs.YtdbpcfelibcgiaaDoor
