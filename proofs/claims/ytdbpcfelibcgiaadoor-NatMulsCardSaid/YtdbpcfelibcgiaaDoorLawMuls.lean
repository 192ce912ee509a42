/-
  The walk of the law NatMuls.
-/
import Derived.Test.YtdbpcfelibcgiaaDoorFit
import Derived.Test.YtdbpcfelibcgiaaDoorRefD
namespace Go.Proofs.YtdbpcfelibcgiaaDoor
open Go.RowKit

theorem prod_lt {xs ys : List Nat} {n : Nat} (dx : Dig L32 xs) (dy : Dig L32 ys) (lx : xs.length ≤ n) (ly : ys.length ≤ n) : val L32 xs * val L32 ys < L32 ^ (n + n) := by
  rw [Nat.pow_add]
  exact Nat.mul_lt_mul'' (Nat.lt_of_lt_of_le (val_lt dx) (Nat.pow_le_pow_right (n := L32) (by decide) lx)) (Nat.lt_of_lt_of_le (val_lt dy) (Nat.pow_le_pow_right (n := L32) (by decide) ly))

set_option maxHeartbeats 2000000 in
theorem natMuls_walk (va vb : Value) (xs ys : List Nat) (w : World) (hx : Sl w .u32 va xs) (hy : Sl w .u32 vb ys) (dx : Dig L32 xs) (dy : Dig L32 ys) :
    Calls Tryd.prog 5 #[va, vb] w fun e w' => e = .returned (.bool true) ∧ Below w.heap.size w w' := by
  have HF := Lib.hid fitOk
  obtain ⟨ao, ac, rfl⟩ := sl_shape hx
  obtain ⟨bo, bc, rfl⟩ := sl_shape hy
  by_cases hs : xs.length ≤ 12 ∧ ys.length ≤ 12
  · obtain ⟨lx, ly⟩ := hs
    go_enter Tryd.func5, Tryd.ntmps5
    go_wp2_with fail
    refine (HF.out _).mono ?_; rintro e w1 ⟨rfl, hb1⟩
    go_wp2_with fail
    refine (short_true _ 12 w1.heap.size 2 (fun j => if j = 0 then xs.length else ys.length) _ rfl (rows2_two 22 (heap_alloc_new _ _)) (by omega) (by intro j _; show (if j = 0 then xs.length else ys.length) ≤ 12; split <;> omega)).mono ?_
    rintro e w2 ⟨rfl, rfl⟩
    have hb2 : Below w.heap.size w (w1.alloc (.cells #[.slice ao xs.length ac, .slice bo ys.length bc] 22)) := hb1.alloc hb1.size _
    generalize (w1.alloc (.cells #[.slice ao xs.length ac, .slice bo ys.length bc] 22)) = w2 at *
    go_wp2_with fail
    refine (mul_any _ _ xs ys w2 (hx.below hb2) (hy.below hb2) dx dy (by omega) (by omega)).mono ?_
    rintro e w3 ⟨v3, rfl, hsm, hb3⟩
    have hb3t : Below w.heap.size w w3 := hb2.trans (hb3.mono hb2.size)
    go_wp2_with fail
    refine (bits_any _ xs w3 (hx.below hb3t) dx (by omega)).mono ?_
    rintro e w4 ⟨v4, rfl, hsx, hb4⟩
    have hb4t : Below w.heap.size w w4 := hb3t.trans (hb4.mono hb3t.size)
    go_wp2_with fail
    refine (bits_any _ ys w4 (hy.below hb4t) dy (by omega)).mono ?_
    rintro e w5 ⟨v5, rfl, hsy, hb5⟩
    have hb5t : Below w.heap.size w w5 := hb4t.trans (hb5.mono hb4t.size)
    go_wp2_with fail
    refine (rmul_any _ _ _ _ w5 (hsx.below hb5) hsy (Dig_dig (by decide) _) (Dig_dig (by decide) _) (bits_len dx (by omega)) (bits_len dy (by omega))).mono ?_
    rintro e w6 ⟨v6, rfl, hsr, hb6⟩
    have hb6t : Below w.heap.size w w6 := hb5t.trans (hb6.mono hb5t.size)
    rw [val_dig (by decide), val_dig (by decide)] at hsr
    go_wp2_with fail
    refine (is_true _ _ (val L32 xs * val L32 ys) w6 (((hsm.below hb4).below hb5).below hb6) hsr (Nat.le_trans (length_dig_le (B := L32) (k := 12 + 12) (by decide) (prod_lt dx dy lx ly)) (by omega))).mono ?_
    rintro e w7 ⟨rfl, hb7⟩
    have hb7t : Below w.heap.size w w7 := hb6t.trans (hb7.mono hb6t.size)
    go_wp2_with fail
    go_ret
    exact ⟨rfl, hb7t⟩
  · obtain ⟨j, hj, hlj⟩ : ∃ j, j < 2 ∧ 12 < (if j = 0 then xs.length else ys.length) := by
      by_cases h : xs.length ≤ 12
      · exact ⟨1, by omega, by rw [if_neg (by omega)]; omega⟩
      · exact ⟨0, by omega, by rw [if_pos rfl]; omega⟩
    have HLJ := Lib.hid hlj
    clear hs hlj
    go_enter Tryd.func5, Tryd.ntmps5
    go_wp2_with fail
    refine (HF.out _).mono ?_; rintro e w1 ⟨rfl, hb1⟩
    go_wp2_with fail
    refine (short_false _ 12 w1.heap.size 2 (fun j => if j = 0 then xs.length else ys.length) _ rfl (rows2_two 22 (heap_alloc_new _ _)) (by omega) j hj HLJ.out).mono ?_
    rintro e w2 ⟨rfl, rfl⟩
    go_wp2_with fail
    go_ret
    exact ⟨rfl, hb1.alloc hb1.size _⟩
end Go.Proofs.YtdbpcfelibcgiaaDoor
