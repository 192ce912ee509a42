/-
  The walk of the law NatDivs.
-/
import Derived.Test.YtdbpcfelibcgiaaDoorDivE
import Derived.Test.YtdbpcfelibcgiaaDoorRefE
namespace Go.Proofs.YtdbpcfelibcgiaaDoor
open Go.RowKit

set_option maxHeartbeats 2000000 in
theorem natDivs_walk (va vb : Value) (xs ys : List Nat) (w : World) (hx : Sl w .u32 va xs) (hy : Sl w .u32 vb ys) (dx : Dig L32 xs) (dy : Dig L32 ys) :
    Calls Tryd.prog 6 #[va, vb] w fun e w' => e = .returned (.bool true) ∧ Below w.heap.size w w' := by
  have HF := Lib.hid fitOk
  obtain ⟨ao, ac, rfl⟩ := sl_shape hx
  obtain ⟨bo, bc, rfl⟩ := sl_shape hy
  by_cases hs : xs.length ≤ 12 ∧ ys.length ≤ 12
  · obtain ⟨lx, ly⟩ := hs
    go_enter Tryd.func6, Tryd.ntmps6
    go_wp2_with fail
    refine (HF.out _).mono ?_; rintro e w1 ⟨rfl, hb1⟩
    go_wp2_with fail
    refine (short_true _ 12 w1.heap.size 2 (fun j => if j = 0 then xs.length else ys.length) _ rfl (rows2_two 22 (heap_alloc_new _ _)) (by omega) (by intro j _; show (if j = 0 then xs.length else ys.length) ≤ 12; split <;> omega)).mono ?_
    rintro e w2 ⟨rfl, rfl⟩
    have hb2 : Below w.heap.size w (w1.alloc (.cells #[.slice ao xs.length ac, .slice bo ys.length bc] 22)) := hb1.alloc hb1.size _
    generalize (w1.alloc (.cells #[.slice ao xs.length ac, .slice bo ys.length bc] 22)) = w2 at *
    go_wp2_with fail
    refine (bits_any _ xs w2 (hx.below hb2) dx (by omega)).mono ?_
    rintro e w3 ⟨v3, rfl, hsx, hb3⟩
    have hb3t : Below w.heap.size w w3 := hb2.trans (hb3.mono hb2.size)
    go_wp2_with fail
    refine (bits_any _ ys w3 (hy.below hb3t) dy (by omega)).mono ?_
    rintro e w4 ⟨v4, rfl, hsy, hb4⟩
    have hb4t : Below w.heap.size w w4 := hb3t.trans (hb4.mono hb3t.size)
    have hsx4 := hsx.below hb4
    have VX := Lib.hid (val_dig (B := 2) (by decide) (val L32 xs))
    have VY := Lib.hid (val_dig (B := 2) (by decide) (val L32 ys))
    by_cases h0 : val L32 ys = 0
    · have HL0 := Lib.hid (show (dig 2 (val L32 ys)).length = 0 by rw [h0, dig_zero]; rfl)
      obtain ⟨o4, c4, rfl⟩ := sl_shape hsy
      rw [HL0.out]
      go_wp2_with fail
      refine (div_zero _ _ xs ys w4 (hx.below hb4t) (hy.below hb4t) dy h0).mono ?_
      rintro e w5 ⟨rfl, hb5⟩
      have hb5t : Below w.heap.size w w5 := hb4t.trans (hb5.mono hb4t.size)
      go_wp2_with fail
      go_ret
      exact ⟨rfl, hb5t⟩
    · have hpos : 0 < val L32 ys := by omega
      have hlp : 0 < (dig 2 (val L32 ys)).length := by rw [dig_pos (by decide) hpos]; simp
      have hz : ((((dig 2 (val L32 ys)).length : Nat) : Int) == 0) = false := by rw [beq_eq_false_iff_ne]; omega
      have hl1 := Lib.hid (bits_len (n := 100000) dx (by omega))
      have hl2 : Hid (bl (val L32 ys) ≤ 100000) := Lib.hid (bits_len (n := 100000) dy (by omega))
      have HQ := Lib.hid (Nat.le_trans (length_dig_le (B := L32) (k := 12) (by decide) (Nat.lt_of_le_of_lt (Nat.div_le_self (val L32 xs) (val L32 ys)) (Nat.lt_of_lt_of_le (val_lt dx) (Nat.pow_le_pow_right (n := L32) (by decide) lx)))) (show 12 ≤ 10000 by omega))
      have HR := Lib.hid (Nat.le_trans (length_dig_le (B := L32) (k := 12) (by decide) (Nat.lt_of_le_of_lt (Nat.mod_le (val L32 xs) (val L32 ys)) (Nat.lt_of_lt_of_le (val_lt dx) (Nat.pow_le_pow_right (n := L32) (by decide) lx)))) (show 12 ≤ 10000 by omega))
      obtain ⟨o4, c4, rfl⟩ := sl_shape hsy
      have HP := Lib.hid hpos
      clear h0 hpos
      go_wp2_with fail
      refine (div_any _ _ xs ys w4 (hx.below hb4t) (hy.below hb4t) dx dy (by omega) HP.out).mono ?_
      rintro e w5 ⟨q, r, rfl, hq, hr, hb5⟩
      have hb5t : Below w.heap.size w w5 := hb4t.trans (hb5.mono hb4t.size)
      go_wp2_with fail
      refine (rdiv_any _ _ _ (val L32 ys) w5 (hsx4.below hb5) (hsy.below hb5) (Dig_dig (by decide) _) HP.out hl1.out hl2.out).mono ?_
      rintro e w6 ⟨s, t, rfl, hs, ht, hb6⟩
      have hb6t : Below w.heap.size w w6 := hb5t.trans (hb6.mono hb5t.size)
      rw [VX.out] at hs ht
      have hq6 := hq.below hb6
      have hr6 := hr.below hb6
      go_wp2_with fail
      refine (is_true _ _ _ w6 hq6 hs HQ.out).mono ?_
      rintro e w7 ⟨rfl, hb7⟩
      have hb7t : Below w.heap.size w w7 := hb6t.trans (hb7.mono hb6t.size)
      go_wp2_with fail
      refine (is_true _ _ _ w7 (hr6.below hb7) (ht.below hb7) HR.out).mono ?_
      rintro e w8 ⟨rfl, hb8⟩
      have hb8t : Below w.heap.size w w8 := hb7t.trans (hb8.mono hb7t.size)
      go_wp2_with fail
      go_ret
      exact ⟨rfl, hb8t⟩
  · obtain ⟨j, hj, hlj⟩ : ∃ j, j < 2 ∧ 12 < (if j = 0 then xs.length else ys.length) := by
      by_cases h : xs.length ≤ 12
      · exact ⟨1, by omega, by rw [if_neg (by omega)]; omega⟩
      · exact ⟨0, by omega, by rw [if_pos rfl]; omega⟩
    have HLJ := Lib.hid hlj
    clear hs hlj
    go_enter Tryd.func6, Tryd.ntmps6
    go_wp2_with fail
    refine (HF.out _).mono ?_; rintro e w1 ⟨rfl, hb1⟩
    go_wp2_with fail
    refine (short_false _ 12 w1.heap.size 2 (fun j => if j = 0 then xs.length else ys.length) _ rfl (rows2_two 22 (heap_alloc_new _ _)) (by omega) j hj HLJ.out).mono ?_
    rintro e w2 ⟨rfl, rfl⟩
    go_wp2_with fail
    go_ret
    exact ⟨rfl, hb1.alloc hb1.size _⟩
end Go.Proofs.YtdbpcfelibcgiaaDoor
