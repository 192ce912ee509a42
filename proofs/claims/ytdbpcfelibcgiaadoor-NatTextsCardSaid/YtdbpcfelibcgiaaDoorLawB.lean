/-
  The walk of the law NatAdds, from the contract of its anchor.
-/
import Derived.Test.YtdbpcfelibcgiaaDoorLawA
namespace Go.Proofs.YtdbpcfelibcgiaaDoor
open Go.RowKit

/-- What the anchor does. -/
def FitOk : Prop := ∀ w : World, Calls Tryd.prog 14 #[] w fun e w' => e = .returned (.bool true) ∧ Below w.heap.size w w'

theorem rows2_two {w : World} {g : Nat} {ao bo : Option Addr} {n m ac bc : Nat} (T : TypeId) (h : w.heap[g]? = some (.cells #[.slice ao n ac, .slice bo m bc] T (0, 0))) :
    Rows2 w g 2 (fun j => if j = 0 then n else m) := by
  intro j hj
  match j, hj with
  | 0, _ => exact ⟨ao, ac, by rw [cell_of_row w g 0 _ T (0, 0) h]; rfl⟩
  | 1, _ => exact ⟨bo, bc, by rw [cell_of_row w g 1 _ T (0, 0) h]; rfl⟩

theorem limb_bits {xs : List Nat} (dx : Dig L32 xs) : val L32 xs < 2 ^ (32 * xs.length) := by
  have h := val_lt dx
  rwa [Nat.pow_mul]
theorem bits_len {xs : List Nat} {n : Nat} (dx : Dig L32 xs) (h : 32 * xs.length ≤ n) : (dig 2 (val L32 xs)).length ≤ n :=
  Nat.le_trans (length_dig_le (by decide) (limb_bits dx)) h
theorem sum_lt {xs ys : List Nat} {n : Nat} (dx : Dig L32 xs) (dy : Dig L32 ys) (lx : xs.length ≤ n) (ly : ys.length ≤ n) : val L32 xs + val L32 ys < L32 ^ (n + 1) := by
  have h1 := Nat.lt_of_lt_of_le (val_lt dx) (Nat.pow_le_pow_right (n := L32) (by decide) lx)
  have h2 := Nat.lt_of_lt_of_le (val_lt dy) (Nat.pow_le_pow_right (n := L32) (by decide) ly)
  rw [Nat.pow_succ]
  have : L32 ^ n * 2 ≤ L32 ^ n * L32 := Nat.mul_le_mul_left _ (by decide)
  omega

set_option maxHeartbeats 1000000 in
theorem natAdds_walk (fit : FitOk) (va vb : Value) (xs ys : List Nat) (w : World) (hx : Sl w .u32 va xs) (hy : Sl w .u32 vb ys) (dx : Dig L32 xs) (dy : Dig L32 ys) :
    Calls Tryd.prog 3 #[va, vb] w fun e w' => e = .returned (.bool true) ∧ Below w.heap.size w w' := by
  have HF := Lib.hid fit
  clear fit
  obtain ⟨ao, ac, rfl⟩ := sl_shape hx
  obtain ⟨bo, bc, rfl⟩ := sl_shape hy
  by_cases hs : xs.length ≤ 60 ∧ ys.length ≤ 60
  · obtain ⟨lx, ly⟩ := hs
    go_enter Tryd.func3, Tryd.ntmps3
    go_wp2_with fail
    refine (HF.out _).mono ?_; rintro e w1 ⟨rfl, hb1⟩
    go_wp2_with fail
    refine (short_true _ 60 w1.heap.size 2 (fun j => if j = 0 then xs.length else ys.length) _ rfl (rows2_two 22 (heap_alloc_new _ _)) (by omega) (by intro j _; show (if j = 0 then xs.length else ys.length) ≤ 60; split <;> omega)).mono ?_
    rintro e w2 ⟨rfl, rfl⟩
    have hb2 : Below w.heap.size w (w1.alloc (.cells #[.slice ao xs.length ac, .slice bo ys.length bc] 22)) := hb1.alloc hb1.size _
    generalize (w1.alloc (.cells #[.slice ao xs.length ac, .slice bo ys.length bc] 22)) = w2 at *
    go_wp2_with fail
    refine (add_any _ _ xs ys w2 (hx.below hb2) (hy.below hb2) dx dy (by omega) (by omega)).mono ?_
    rintro e w3 ⟨v3, rfl, hs3, hb3⟩
    have hb3' : Below w.heap.size w w3 := hb2.trans (hb3.mono hb2.size)
    go_wp2_with fail
    refine (bits_any _ xs w3 (hx.below hb3') dx (by omega)).mono ?_
    rintro e w4 ⟨v4, rfl, hs4, hb4⟩
    have hb4' : Below w.heap.size w w4 := hb3'.trans (hb4.mono hb3'.size)
    go_wp2_with fail
    refine (bits_any _ ys w4 (hy.below hb4') dy (by omega)).mono ?_
    rintro e w5 ⟨v5, rfl, hs5, hb5⟩
    have hb5' : Below w.heap.size w w5 := hb4'.trans (hb5.mono hb4'.size)
    go_wp2_with fail
    refine (radd_any _ _ _ _ w5 (hs4.below hb5) hs5 (Dig_dig (by decide) _) (Dig_dig (by decide) _) (bits_len dx (by omega)) (bits_len dy (by omega))).mono ?_
    rintro e w6 ⟨v6, rfl, hs6, hb6⟩
    have hb6' : Below w.heap.size w w6 := hb5'.trans (hb6.mono hb5'.size)
    rw [val_dig (by decide), val_dig (by decide)] at hs6
    go_wp2_with fail
    refine (is_true _ _ _ w6 (((hs3.below hb4).below hb5).below hb6) hs6 ?_).mono ?_
    · exact Nat.le_trans (length_dig_le (B := L32) (k := 61) (by decide) (sum_lt dx dy lx ly)) (by omega)
    rintro e w7 ⟨rfl, hb7⟩
    go_wp2_with fail
    go_ret
    exact ⟨rfl, hb6'.trans (hb7.mono hb6'.size)⟩
  · obtain ⟨j, hj, hlj⟩ : ∃ j, j < 2 ∧ 60 < (if j = 0 then xs.length else ys.length) := by
      by_cases h : xs.length ≤ 60
      · exact ⟨1, by omega, by rw [if_neg (by omega)]; omega⟩
      · exact ⟨0, by omega, by rw [if_pos rfl]; omega⟩
    have HLJ := Lib.hid hlj
    clear hs hlj
    go_enter Tryd.func3, Tryd.ntmps3
    go_wp2_with fail
    refine (HF.out _).mono ?_; rintro e w1 ⟨rfl, hb1⟩
    go_wp2_with fail
    refine (short_false _ 60 w1.heap.size 2 (fun j => if j = 0 then xs.length else ys.length) _ rfl (rows2_two 22 (heap_alloc_new _ _)) (by omega) j hj HLJ.out).mono ?_
    rintro e w2 ⟨rfl, rfl⟩
    go_wp2_with fail
    go_ret
    exact ⟨rfl, hb1.alloc hb1.size _⟩
end Go.Proofs.YtdbpcfelibcgiaaDoor
