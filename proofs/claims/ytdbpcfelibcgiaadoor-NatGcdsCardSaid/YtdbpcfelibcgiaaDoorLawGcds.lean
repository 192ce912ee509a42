/-
  The walk of the law NatGcds.
-/
import Derived.Test.YtdbpcfelibcgiaaDoorGcdA
import Derived.Test.YtdbpcfelibcgiaaDoorLawOrders
namespace Go.Proofs.YtdbpcfelibcgiaaDoor
open Go.RowKit

theorem gcd_n {va vb : Value} {m n k1 k2 : Nat} {w : World} (hx : GN w va m k1) (hy : GN w vb n k2) (h1 : k1 ≤ 900000) (h2 : k2 ≤ 900000) :
    Calls Tryd.prog 28 #[va, vb] w fun e w' => ∃ v, e = .returned v ∧ Sl w' .u32 v (dig L32 (Nat.gcd m n)) ∧ Below w.heap.size w w' := by
  obtain ⟨xs, hx, dx, rfl, lx⟩ := hx
  obtain ⟨ys, hy, dy, rfl, ly⟩ := hy
  exact gcd_any _ _ _ _ w hx hy dx dy (by omega) (by omega)
theorem gcd_lt {m n B : Nat} (hm : m < B) (hn : n < B) : Nat.gcd m n < B := by
  rcases Nat.eq_zero_or_pos m with h | h
  · rw [h, Nat.gcd_zero_left]; exact hn
  · exact Nat.lt_of_le_of_lt (Nat.gcd_le_left n h) hm
theorem bl_pos {n : Nat} (h : 0 < n) : 0 < bl n := by rw [bl_half h]; omega

set_option maxHeartbeats 2000000 in
theorem natGcds_walk (va vb : Value) (xs ys : List Nat) (w : World) (hx : Sl w .u32 va xs) (hy : Sl w .u32 vb ys) (dx : Dig L32 xs) (dy : Dig L32 ys) :
    Calls Tryd.prog 9 #[va, vb] w fun e w' => e = .returned (.bool true) ∧ Below w.heap.size w w' := by
  have HF := Lib.hid fitOk
  obtain ⟨ao, ac, rfl⟩ := sl_shape hx
  obtain ⟨bo, bc, rfl⟩ := sl_shape hy
  by_cases hs : xs.length ≤ 12 ∧ ys.length ≤ 12
  · obtain ⟨lx, ly⟩ := hs
    have ga := gn_of hx dx lx
    have gb := gn_of hy dy ly
    generalize val L32 xs = A at *
    generalize val L32 ys = Bn at *
    have HGL := Lib.hid (gcd_lt ga.lt gb.lt)
    go_enter Tryd.func9, Tryd.ntmps9
    go_wp2_with fail
    refine (HF.out _).mono ?_; rintro e w1 ⟨rfl, hb1⟩
    go_wp2_with fail
    refine (short_true _ 12 w1.heap.size 2 (fun j => if j = 0 then xs.length else ys.length) _ rfl (rows2_two 22 (heap_alloc_new _ _)) (by omega) (by intro j _; show (if j = 0 then xs.length else ys.length) ≤ 12; split <;> omega)).mono ?_
    rintro e w2 ⟨rfl, rfl⟩
    have hb2 : Below w.heap.size w (w1.alloc (.cells #[.slice ao xs.length ac, .slice bo ys.length bc] 22)) := hb1.alloc hb1.size _
    generalize (w1.alloc (.cells #[.slice ao xs.length ac, .slice bo ys.length bc] 22)) = w2 at *
    go_wp2_with fail
    refine (gcd_n (ga.below hb2) (gb.below hb2) (by omega) (by omega)).mono ?_
    rintro e w3 ⟨vg, rfl, sg, hb3⟩
    have hb3t : Below w.heap.size w w3 := hb2.trans (hb3.mono hb2.size)
    have gg := gn_dig sg HGL.out
    by_cases hA : A = 0
    · have HA0 := Lib.hid (show bl A = 0 by rw [hA, bl_zero])
      have HG := Lib.hid (show Nat.gcd A Bn = A + Bn by rw [hA]; simp)
      go_wp2_with fail
      refine (bits_n (ga.below hb3t) (by omega)).mono ?_
      rintro e w_ ⟨rfl, rfl⟩
      rw [HA0.out]
      go_wp2_with fail
      refine (add_n (ga.below hb3t) (gb.below hb3t) (by omega) (by omega)).mono ?_
      rintro e w4 ⟨v4, rfl, s4, hb4⟩
      have hb4t : Below w.heap.size w w4 := hb3t.trans (hb4.mono hb3t.size)
      go_wp2_with fail
      refine (cmp_n (gg.below hb4) s4).mono ?_
      rintro e w5 ⟨rfl, hb5⟩
      have hb5t : Below w.heap.size w w5 := hb4t.trans (hb5.mono hb4t.size)
      rw [cmpN_eq HG.out]
      go_wp2_with fail
      go_ret
      exact ⟨rfl, hb5t⟩
    by_cases hB : Bn = 0
    · have HB0 := Lib.hid (show bl Bn = 0 by rw [hB, bl_zero])
      have hAp : ((((bl A : Nat)) : Int) == 0) = false := by rw [beq_eq_false_iff_ne]; have := bl_pos (n := A) (by omega); omega
      have HG := Lib.hid (show Nat.gcd A Bn = A + Bn by rw [hB]; simp)
      go_wp2_with fail
      refine (bits_n (ga.below hb3t) (by omega)).mono ?_
      rintro e w_ ⟨rfl, rfl⟩
      go_wp2_with fail
      refine (bits_n (gb.below hb3t) (by omega)).mono ?_
      rintro e w_ ⟨rfl, rfl⟩
      rw [HB0.out]
      go_wp2_with fail
      refine (add_n (ga.below hb3t) (gb.below hb3t) (by omega) (by omega)).mono ?_
      rintro e w4 ⟨v4, rfl, s4, hb4⟩
      have hb4t : Below w.heap.size w w4 := hb3t.trans (hb4.mono hb3t.size)
      go_wp2_with fail
      refine (cmp_n (gg.below hb4) s4).mono ?_
      rintro e w5 ⟨rfl, hb5⟩
      have hb5t : Below w.heap.size w w5 := hb4t.trans (hb5.mono hb4t.size)
      rw [cmpN_eq HG.out]
      go_wp2_with fail
      go_ret
      exact ⟨rfl, hb5t⟩
    have hAp : ((((bl A : Nat)) : Int) == 0) = false := by rw [beq_eq_false_iff_ne]; have := bl_pos (n := A) (by omega); omega
    have hBp : ((((bl Bn : Nat)) : Int) == 0) = false := by rw [beq_eq_false_iff_ne]; have := bl_pos (n := Bn) (by omega); omega
    have HGP := Lib.hid (Nat.gcd_pos_of_pos_left Bn (show 0 < A by omega))
    have HR := Lib.hid (show dig L32 (A % Nat.gcd A Bn) = [] by rw [Nat.mod_eq_zero_of_dvd (Nat.gcd_dvd_left A Bn), dig_zero])
    have HS := Lib.hid (show dig L32 (Bn % Nat.gcd A Bn) = [] by rw [Nat.mod_eq_zero_of_dvd (Nat.gcd_dvd_right A Bn), dig_zero])
    have HC := Lib.hid (Nat.gcd_div_gcd_div_gcd_of_pos_left (m := Bn) (show 0 < A by omega))
    have HQA := Lib.hid (Nat.lt_of_le_of_lt (Nat.div_le_self A (Nat.gcd A Bn)) ga.lt)
    have HQB := Lib.hid (Nat.lt_of_le_of_lt (Nat.div_le_self Bn (Nat.gcd A Bn)) gb.lt)
    have HCM := Lib.hid (Nat.gcd_comm Bn A)
    clear hA hB
    go_wp2_with fail
    refine (bits_n (ga.below hb3t) (by omega)).mono ?_
    rintro e w_ ⟨rfl, rfl⟩
    go_wp2_with fail
    refine (bits_n (gb.below hb3t) (by omega)).mono ?_
    rintro e w_ ⟨rfl, rfl⟩
    go_wp2_with fail
    refine (div_n (ga.below hb3t) gg (by omega) HGP.out).mono ?_
    rintro e w4 ⟨x, r, rfl, hx4, hr4, hb4⟩
    have hb4t : Below w.heap.size w w4 := hb3t.trans (hb4.mono hb3t.size)
    rw [HR.out] at hr4
    obtain ⟨o4, c4, rfl⟩ := sl_shape hr4
    have gx := gn_dig hx4 HQA.out
    go_wp2_with fail
    refine (div_n (gb.below hb4t) (gg.below hb4) (by omega) HGP.out).mono ?_
    rintro e w5 ⟨y, s, rfl, hy5, hs5, hb5⟩
    have hb5t : Below w.heap.size w w5 := hb4t.trans (hb5.mono hb4t.size)
    rw [HS.out] at hs5
    obtain ⟨o5, c5, rfl⟩ := sl_shape hs5
    have gy := gn_dig hy5 HQB.out
    go_wp2_with fail
    refine (gcd_n (gx.below hb5) gy (by omega) (by omega)).mono ?_
    rintro e w6 ⟨v6, rfl, s6, hb6⟩
    have hb6t : Below w.heap.size w w6 := hb5t.trans (hb6.mono hb5t.size)
    rw [HC.out] at s6
    have g6 := gn_dig (k := 1) s6 (by decide)
    go_wp2_with fail
    refine (of_n 1 _ _ rfl (by decide)).mono ?_
    rintro e w7 ⟨v7, rfl, s7, hb7⟩
    have hb7t : Below w.heap.size w w7 := hb6t.trans (hb7.mono hb6t.size)
    go_wp2_with fail
    refine (cmp_n (g6.below hb7) s7).mono ?_
    rintro e w8 ⟨rfl, hb8⟩
    have hb8t : Below w.heap.size w w8 := hb7t.trans (hb8.mono hb7t.size)
    rw [cmpN_eq rfl]
    go_wp2_with fail
    refine (gcd_n (gb.below hb8t) (ga.below hb8t) (by omega) (by omega)).mono ?_
    rintro e w9 ⟨v9, rfl, s9, hb9⟩
    have hb9t : Below w.heap.size w w9 := hb8t.trans (hb9.mono hb8t.size)
    rw [HCM.out] at s9
    have g9 := gn_dig s9 HGL.out
    have gg9 := (((((gg.below hb4).below hb5).below hb6).below hb7).below hb8).below hb9
    go_wp2_with fail
    refine (cmp_n g9 gg9).mono ?_
    rintro e w10 ⟨rfl, hb10⟩
    have hb10t : Below w.heap.size w w10 := hb9t.trans (hb10.mono hb9t.size)
    rw [cmpN_eq rfl]
    go_wp2_with fail
    go_ret
    exact ⟨rfl, hb10t⟩
  · obtain ⟨j, hj, hlj⟩ : ∃ j, j < 2 ∧ 12 < (if j = 0 then xs.length else ys.length) := by
      by_cases h : xs.length ≤ 12
      · exact ⟨1, by omega, by rw [if_neg (by omega)]; omega⟩
      · exact ⟨0, by omega, by rw [if_pos rfl]; omega⟩
    have HLJ := Lib.hid hlj
    clear hs hlj
    go_enter Tryd.func9, Tryd.ntmps9
    go_wp2_with fail
    refine (HF.out _).mono ?_; rintro e w1 ⟨rfl, hb1⟩
    go_wp2_with fail
    refine (short_false _ 12 w1.heap.size 2 (fun j => if j = 0 then xs.length else ys.length) _ rfl (rows2_two 22 (heap_alloc_new _ _)) (by omega) j hj HLJ.out).mono ?_
    rintro e w2 ⟨rfl, rfl⟩
    go_wp2_with fail
    go_ret
    exact ⟨rfl, hb1.alloc hb1.size _⟩
end Go.Proofs.YtdbpcfelibcgiaaDoor
