/-
  The walk of the law NatOrders.
-/
import Derived.Test.YtdbpcfelibcgiaaDoorBitsN
namespace Go.Proofs.YtdbpcfelibcgiaaDoor
open Go.RowKit

theorem cmpN_add (a b c : Nat) : cmpN (a + c) (b + c) = cmpN a b := by
  unfold cmpN
  by_cases h : a < b
  · rw [if_pos h, if_pos (by omega)]
  · rw [if_neg h, if_neg (by omega)]
    by_cases h2 : a = b
    · rw [if_pos h2, if_pos (by omega)]
    · rw [if_neg h2, if_neg (by omega)]
theorem bits_n {va : Value} {n k : Nat} {w : World} (hx : GN w va n k) (hk : k ≤ 1000000) :
    Calls Tryd.prog 29 #[va] w fun e w' => e = .returned (.int .i64 ((bl n : Nat) : Int)) ∧ w = w' := by
  obtain ⟨xs, hx, dx, rfl, lx⟩ := hx
  exact bits_nat _ _ w hx dx (by omega)

set_option maxHeartbeats 2000000 in
theorem natOrders_walk (va vb vc : Value) (xs ys zs : List Nat) (w : World) (hx : Sl w .u32 va xs) (hy : Sl w .u32 vb ys) (hz : Sl w .u32 vc zs) (dx : Dig L32 xs) (dy : Dig L32 ys) (dz : Dig L32 zs) :
    Calls Tryd.prog 13 #[va, vb, vc] w fun e w' => e = .returned (.bool true) ∧ Below w.heap.size w w' := by
  have HF := Lib.hid fitOk
  obtain ⟨ao, ac, rfl⟩ := sl_shape hx
  obtain ⟨bo, bc, rfl⟩ := sl_shape hy
  obtain ⟨co, cc, rfl⟩ := sl_shape hz
  by_cases hs : xs.length ≤ 40 ∧ ys.length ≤ 40 ∧ zs.length ≤ 40
  · obtain ⟨lx, ly, lz⟩ := hs
    have ga := gn_of hx dx lx
    have gb := gn_of hy dy ly
    have gc := gn_of hz dz lz
    generalize val L32 xs = A at *
    generalize val L32 ys = Bn at *
    generalize val L32 zs = C at *
    have BL := Lib.hid (fun h => bl_lt (m := A) (n := Bn) h)
    rcases Nat.lt_trichotomy A Bn with hAB | hAB | hAB
    · have HX1 := Lib.hid (cmpN_lt hAB)
      have HX2 := Lib.hid (cmpN_gt hAB)
      by_cases hbl : bl A < bl Bn
      · clear hAB
        go_enter Tryd.func13, Tryd.ntmps13
        go_wp2_with fail
        refine (HF.out _).mono ?_; rintro e w1 ⟨rfl, hb1⟩
        go_wp2_with fail
        refine (short_true _ 40 w1.heap.size 3 (three xs.length ys.length zs.length) _ rfl (rows2_three 22 (heap_alloc_new _ _)) (by omega) (by intro j hj; match j, hj with | 0, _ => exact lx | 1, _ => exact ly | 2, _ => exact lz)).mono ?_
        rintro e w2 ⟨rfl, rfl⟩
        have hb2 : Below w.heap.size w (w1.alloc (.cells #[.slice ao xs.length ac, .slice bo ys.length bc, .slice co zs.length cc] 22)) := hb1.alloc hb1.size _
        generalize (w1.alloc (.cells #[.slice ao xs.length ac, .slice bo ys.length bc, .slice co zs.length cc] 22)) = w2 at *
        go_wp2_with fail
        refine (cmp_n (ga.below hb2) (gb.below hb2)).mono ?_
        rintro e w3 ⟨rfl, hb3⟩
        have hb3t : Below w.heap.size w w3 := hb2.trans (hb3.mono hb2.size)
        rw [HX1.out]
        go_wp2_with fail
        refine (cmp_n (gb.below hb3t) (gc.below hb3t)).mono ?_
        rintro e w4 ⟨rfl, hb4⟩
        have hb4t : Below w.heap.size w w4 := hb3t.trans (hb4.mono hb3t.size)
        skip
        go_wp2_with fail
        refine (cmp_n (gb.below hb4t) (ga.below hb4t)).mono ?_
        rintro e w5 ⟨rfl, hb5⟩
        have hb5t : Below w.heap.size w w5 := hb4t.trans (hb5.mono hb4t.size)
        rw [HX2.out]
        go_wp2_with fail
        refine (cmp_n (ga.below hb5t) (ga.below hb5t)).mono ?_
        rintro e w6 ⟨rfl, hb6⟩
        have hb6t : Below w.heap.size w w6 := hb5t.trans (hb6.mono hb5t.size)
        rw [cmpN_eq rfl]
        go_wp2_with fail
        refine (add_n (ga.below hb6t) (gc.below hb6t) (by omega) (by omega)).mono ?_
        rintro e w7 ⟨v7, rfl, s1, hb7⟩
        have hb7t : Below w.heap.size w w7 := hb6t.trans (hb7.mono hb6t.size)
        go_wp2_with fail
        refine (add_n (gb.below hb7t) (gc.below hb7t) (by omega) (by omega)).mono ?_
        rintro e w8 ⟨v8, rfl, s2, hb8⟩
        have hb8t : Below w.heap.size w w8 := hb7t.trans (hb8.mono hb7t.size)
        go_wp2_with fail
        refine (cmp_n (s1.below hb8) s2).mono ?_
        rintro e w9 ⟨rfl, hb9⟩
        have hb9t : Below w.heap.size w w9 := hb8t.trans (hb9.mono hb8t.size)
        rw [cmpN_add, HX1.out]
        go_wp2_with fail
        refine (bits_n (ga.below hb9t) (by omega)).mono ?_
        rintro e w_ ⟨rfl, rfl⟩
        go_wp2_with fail
        refine (bits_n (gb.below hb9t) (by omega)).mono ?_
        rintro e w_ ⟨rfl, rfl⟩
        go_wp2_with fail
        go_ret
        exact ⟨rfl, hb9t⟩
      · clear hAB
        go_enter Tryd.func13, Tryd.ntmps13
        go_wp2_with fail
        refine (HF.out _).mono ?_; rintro e w1 ⟨rfl, hb1⟩
        go_wp2_with fail
        refine (short_true _ 40 w1.heap.size 3 (three xs.length ys.length zs.length) _ rfl (rows2_three 22 (heap_alloc_new _ _)) (by omega) (by intro j hj; match j, hj with | 0, _ => exact lx | 1, _ => exact ly | 2, _ => exact lz)).mono ?_
        rintro e w2 ⟨rfl, rfl⟩
        have hb2 : Below w.heap.size w (w1.alloc (.cells #[.slice ao xs.length ac, .slice bo ys.length bc, .slice co zs.length cc] 22)) := hb1.alloc hb1.size _
        generalize (w1.alloc (.cells #[.slice ao xs.length ac, .slice bo ys.length bc, .slice co zs.length cc] 22)) = w2 at *
        go_wp2_with fail
        refine (cmp_n (ga.below hb2) (gb.below hb2)).mono ?_
        rintro e w3 ⟨rfl, hb3⟩
        have hb3t : Below w.heap.size w w3 := hb2.trans (hb3.mono hb2.size)
        rw [HX1.out]
        go_wp2_with fail
        refine (cmp_n (gb.below hb3t) (gc.below hb3t)).mono ?_
        rintro e w4 ⟨rfl, hb4⟩
        have hb4t : Below w.heap.size w w4 := hb3t.trans (hb4.mono hb3t.size)
        skip
        go_wp2_with fail
        refine (cmp_n (gb.below hb4t) (ga.below hb4t)).mono ?_
        rintro e w5 ⟨rfl, hb5⟩
        have hb5t : Below w.heap.size w w5 := hb4t.trans (hb5.mono hb4t.size)
        rw [HX2.out]
        go_wp2_with fail
        refine (cmp_n (ga.below hb5t) (ga.below hb5t)).mono ?_
        rintro e w6 ⟨rfl, hb6⟩
        have hb6t : Below w.heap.size w w6 := hb5t.trans (hb6.mono hb5t.size)
        rw [cmpN_eq rfl]
        go_wp2_with fail
        refine (add_n (ga.below hb6t) (gc.below hb6t) (by omega) (by omega)).mono ?_
        rintro e w7 ⟨v7, rfl, s1, hb7⟩
        have hb7t : Below w.heap.size w w7 := hb6t.trans (hb7.mono hb6t.size)
        go_wp2_with fail
        refine (add_n (gb.below hb7t) (gc.below hb7t) (by omega) (by omega)).mono ?_
        rintro e w8 ⟨v8, rfl, s2, hb8⟩
        have hb8t : Below w.heap.size w w8 := hb7t.trans (hb8.mono hb7t.size)
        go_wp2_with fail
        refine (cmp_n (s1.below hb8) s2).mono ?_
        rintro e w9 ⟨rfl, hb9⟩
        have hb9t : Below w.heap.size w w9 := hb8t.trans (hb9.mono hb8t.size)
        rw [cmpN_add, HX1.out]
        go_wp2_with fail
        refine (bits_n (ga.below hb9t) (by omega)).mono ?_
        rintro e w_ ⟨rfl, rfl⟩
        go_wp2_with fail
        refine (bits_n (gb.below hb9t) (by omega)).mono ?_
        rintro e w_ ⟨rfl, rfl⟩
        go_wp2_with fail
        go_ret
        exact ⟨rfl, hb9t⟩
    · have HX1 := Lib.hid (cmpN_eq hAB)
      have HX2 := Lib.hid (cmpN_eq hAB.symm)
      have hbl : bl Bn ≤ bl A := by rw [hAB]; exact Nat.le_refl _
      have HAB := Lib.hid hAB
      clear hAB
      by_cases hBC : Bn < C
      · have HY := Lib.hid (cmpN_lt hBC)
        go_enter Tryd.func13, Tryd.ntmps13
        go_wp2_with fail
        refine (HF.out _).mono ?_; rintro e w1 ⟨rfl, hb1⟩
        go_wp2_with fail
        refine (short_true _ 40 w1.heap.size 3 (three xs.length ys.length zs.length) _ rfl (rows2_three 22 (heap_alloc_new _ _)) (by omega) (by intro j hj; match j, hj with | 0, _ => exact lx | 1, _ => exact ly | 2, _ => exact lz)).mono ?_
        rintro e w2 ⟨rfl, rfl⟩
        have hb2 : Below w.heap.size w (w1.alloc (.cells #[.slice ao xs.length ac, .slice bo ys.length bc, .slice co zs.length cc] 22)) := hb1.alloc hb1.size _
        generalize (w1.alloc (.cells #[.slice ao xs.length ac, .slice bo ys.length bc, .slice co zs.length cc] 22)) = w2 at *
        go_wp2_with fail
        refine (cmp_n (ga.below hb2) (gb.below hb2)).mono ?_
        rintro e w3 ⟨rfl, hb3⟩
        have hb3t : Below w.heap.size w w3 := hb2.trans (hb3.mono hb2.size)
        rw [HX1.out]
        go_wp2_with fail
        refine (cmp_n (gb.below hb3t) (gc.below hb3t)).mono ?_
        rintro e w4 ⟨rfl, hb4⟩
        have hb4t : Below w.heap.size w w4 := hb3t.trans (hb4.mono hb3t.size)
        rw [HY.out]
        go_wp2_with fail
        refine (cmp_n (gb.below hb4t) (ga.below hb4t)).mono ?_
        rintro e w5 ⟨rfl, hb5⟩
        have hb5t : Below w.heap.size w w5 := hb4t.trans (hb5.mono hb4t.size)
        rw [HX2.out]
        go_wp2_with fail
        refine (cmp_n (ga.below hb5t) (ga.below hb5t)).mono ?_
        rintro e w6 ⟨rfl, hb6⟩
        have hb6t : Below w.heap.size w w6 := hb5t.trans (hb6.mono hb5t.size)
        rw [cmpN_eq rfl]
        go_wp2_with fail
        refine (add_n (ga.below hb6t) (gc.below hb6t) (by omega) (by omega)).mono ?_
        rintro e w7 ⟨v7, rfl, s1, hb7⟩
        have hb7t : Below w.heap.size w w7 := hb6t.trans (hb7.mono hb6t.size)
        go_wp2_with fail
        refine (add_n (gb.below hb7t) (gc.below hb7t) (by omega) (by omega)).mono ?_
        rintro e w8 ⟨v8, rfl, s2, hb8⟩
        have hb8t : Below w.heap.size w w8 := hb7t.trans (hb8.mono hb7t.size)
        go_wp2_with fail
        refine (cmp_n (s1.below hb8) s2).mono ?_
        rintro e w9 ⟨rfl, hb9⟩
        have hb9t : Below w.heap.size w w9 := hb8t.trans (hb9.mono hb8t.size)
        rw [cmpN_add, HX1.out]
        go_wp2_with fail
        refine (bits_n (ga.below hb9t) (by omega)).mono ?_
        rintro e w_ ⟨rfl, rfl⟩
        go_wp2_with fail
        refine (bits_n (gb.below hb9t) (by omega)).mono ?_
        rintro e w_ ⟨rfl, rfl⟩
        go_wp2_with fail
        go_ret
        exact ⟨rfl, hb9t⟩
      · have hy0 : 0 ≤ cmpN Bn C := by unfold cmpN; rw [if_neg hBC]; split <;> omega
        have HL : 0 ≤ cmpN A C := by rw [HAB.out]; exact hy0
        go_enter Tryd.func13, Tryd.ntmps13
        go_wp2_with fail
        refine (HF.out _).mono ?_; rintro e w1 ⟨rfl, hb1⟩
        go_wp2_with fail
        refine (short_true _ 40 w1.heap.size 3 (three xs.length ys.length zs.length) _ rfl (rows2_three 22 (heap_alloc_new _ _)) (by omega) (by intro j hj; match j, hj with | 0, _ => exact lx | 1, _ => exact ly | 2, _ => exact lz)).mono ?_
        rintro e w2 ⟨rfl, rfl⟩
        have hb2 : Below w.heap.size w (w1.alloc (.cells #[.slice ao xs.length ac, .slice bo ys.length bc, .slice co zs.length cc] 22)) := hb1.alloc hb1.size _
        generalize (w1.alloc (.cells #[.slice ao xs.length ac, .slice bo ys.length bc, .slice co zs.length cc] 22)) = w2 at *
        go_wp2_with fail
        refine (cmp_n (ga.below hb2) (gb.below hb2)).mono ?_
        rintro e w3 ⟨rfl, hb3⟩
        have hb3t : Below w.heap.size w w3 := hb2.trans (hb3.mono hb2.size)
        rw [HX1.out]
        go_wp2_with fail
        refine (cmp_n (gb.below hb3t) (gc.below hb3t)).mono ?_
        rintro e w4 ⟨rfl, hb4⟩
        have hb4t : Below w.heap.size w w4 := hb3t.trans (hb4.mono hb3t.size)
        skip
        go_wp2_with fail
        refine (cmp_n (gb.below hb4t) (ga.below hb4t)).mono ?_
        rintro e w5 ⟨rfl, hb5⟩
        have hb5t : Below w.heap.size w w5 := hb4t.trans (hb5.mono hb4t.size)
        rw [HX2.out]
        go_wp2_with fail
        refine (cmp_n (ga.below hb5t) (ga.below hb5t)).mono ?_
        rintro e w6 ⟨rfl, hb6⟩
        have hb6t : Below w.heap.size w w6 := hb5t.trans (hb6.mono hb5t.size)
        rw [cmpN_eq rfl]
        go_wp2_with fail
        refine (add_n (ga.below hb6t) (gc.below hb6t) (by omega) (by omega)).mono ?_
        rintro e w7 ⟨v7, rfl, s1, hb7⟩
        have hb7t : Below w.heap.size w w7 := hb6t.trans (hb7.mono hb6t.size)
        go_wp2_with fail
        refine (add_n (gb.below hb7t) (gc.below hb7t) (by omega) (by omega)).mono ?_
        rintro e w8 ⟨v8, rfl, s2, hb8⟩
        have hb8t : Below w.heap.size w w8 := hb7t.trans (hb8.mono hb7t.size)
        go_wp2_with fail
        refine (cmp_n (s1.below hb8) s2).mono ?_
        rintro e w9 ⟨rfl, hb9⟩
        have hb9t : Below w.heap.size w w9 := hb8t.trans (hb9.mono hb8t.size)
        rw [cmpN_add, HX1.out]
        go_wp2_with fail
        refine (bits_n (ga.below hb9t) (by omega)).mono ?_
        rintro e w_ ⟨rfl, rfl⟩
        go_wp2_with fail
        refine (bits_n (gb.below hb9t) (by omega)).mono ?_
        rintro e w_ ⟨rfl, rfl⟩
        go_wp2_with fail
        refine (cmp_n (ga.below hb9t) (gc.below hb9t)).mono ?_
        rintro e w10 ⟨rfl, hb10⟩
        have hb10t : Below w.heap.size w w10 := hb9t.trans (hb10.mono hb9t.size)
        skip
        go_wp2_with fail
        go_ret
        exact ⟨rfl, hb10t⟩
    · have HX1 := Lib.hid (cmpN_gt hAB)
      have HX2 := Lib.hid (cmpN_lt hAB)
      have hbl : bl Bn ≤ bl A := by
        rcases Nat.lt_or_ge (bl A) (bl Bn) with h | h
        · have := BL.out h; omega
        · exact h
      by_cases hBC : Bn < C
      · have HY := Lib.hid (cmpN_lt hBC)
        clear hAB
        go_enter Tryd.func13, Tryd.ntmps13
        go_wp2_with fail
        refine (HF.out _).mono ?_; rintro e w1 ⟨rfl, hb1⟩
        go_wp2_with fail
        refine (short_true _ 40 w1.heap.size 3 (three xs.length ys.length zs.length) _ rfl (rows2_three 22 (heap_alloc_new _ _)) (by omega) (by intro j hj; match j, hj with | 0, _ => exact lx | 1, _ => exact ly | 2, _ => exact lz)).mono ?_
        rintro e w2 ⟨rfl, rfl⟩
        have hb2 : Below w.heap.size w (w1.alloc (.cells #[.slice ao xs.length ac, .slice bo ys.length bc, .slice co zs.length cc] 22)) := hb1.alloc hb1.size _
        generalize (w1.alloc (.cells #[.slice ao xs.length ac, .slice bo ys.length bc, .slice co zs.length cc] 22)) = w2 at *
        go_wp2_with fail
        refine (cmp_n (ga.below hb2) (gb.below hb2)).mono ?_
        rintro e w3 ⟨rfl, hb3⟩
        have hb3t : Below w.heap.size w w3 := hb2.trans (hb3.mono hb2.size)
        rw [HX1.out]
        go_wp2_with fail
        refine (cmp_n (gb.below hb3t) (gc.below hb3t)).mono ?_
        rintro e w4 ⟨rfl, hb4⟩
        have hb4t : Below w.heap.size w w4 := hb3t.trans (hb4.mono hb3t.size)
        rw [HY.out]
        go_wp2_with fail
        refine (cmp_n (gb.below hb4t) (ga.below hb4t)).mono ?_
        rintro e w5 ⟨rfl, hb5⟩
        have hb5t : Below w.heap.size w w5 := hb4t.trans (hb5.mono hb4t.size)
        rw [HX2.out]
        go_wp2_with fail
        refine (cmp_n (ga.below hb5t) (ga.below hb5t)).mono ?_
        rintro e w6 ⟨rfl, hb6⟩
        have hb6t : Below w.heap.size w w6 := hb5t.trans (hb6.mono hb5t.size)
        rw [cmpN_eq rfl]
        go_wp2_with fail
        refine (add_n (ga.below hb6t) (gc.below hb6t) (by omega) (by omega)).mono ?_
        rintro e w7 ⟨v7, rfl, s1, hb7⟩
        have hb7t : Below w.heap.size w w7 := hb6t.trans (hb7.mono hb6t.size)
        go_wp2_with fail
        refine (add_n (gb.below hb7t) (gc.below hb7t) (by omega) (by omega)).mono ?_
        rintro e w8 ⟨v8, rfl, s2, hb8⟩
        have hb8t : Below w.heap.size w w8 := hb7t.trans (hb8.mono hb7t.size)
        go_wp2_with fail
        refine (cmp_n (s1.below hb8) s2).mono ?_
        rintro e w9 ⟨rfl, hb9⟩
        have hb9t : Below w.heap.size w w9 := hb8t.trans (hb9.mono hb8t.size)
        rw [cmpN_add, HX1.out]
        go_wp2_with fail
        refine (bits_n (ga.below hb9t) (by omega)).mono ?_
        rintro e w_ ⟨rfl, rfl⟩
        go_wp2_with fail
        refine (bits_n (gb.below hb9t) (by omega)).mono ?_
        rintro e w_ ⟨rfl, rfl⟩
        go_wp2_with fail
        go_ret
        exact ⟨rfl, hb9t⟩
      · have hy0 : 0 ≤ cmpN Bn C := by unfold cmpN; rw [if_neg hBC]; split <;> omega
        have HL : 0 ≤ cmpN A C := by unfold cmpN; rw [if_neg (by omega)]; split <;> omega
        clear hAB
        go_enter Tryd.func13, Tryd.ntmps13
        go_wp2_with fail
        refine (HF.out _).mono ?_; rintro e w1 ⟨rfl, hb1⟩
        go_wp2_with fail
        refine (short_true _ 40 w1.heap.size 3 (three xs.length ys.length zs.length) _ rfl (rows2_three 22 (heap_alloc_new _ _)) (by omega) (by intro j hj; match j, hj with | 0, _ => exact lx | 1, _ => exact ly | 2, _ => exact lz)).mono ?_
        rintro e w2 ⟨rfl, rfl⟩
        have hb2 : Below w.heap.size w (w1.alloc (.cells #[.slice ao xs.length ac, .slice bo ys.length bc, .slice co zs.length cc] 22)) := hb1.alloc hb1.size _
        generalize (w1.alloc (.cells #[.slice ao xs.length ac, .slice bo ys.length bc, .slice co zs.length cc] 22)) = w2 at *
        go_wp2_with fail
        refine (cmp_n (ga.below hb2) (gb.below hb2)).mono ?_
        rintro e w3 ⟨rfl, hb3⟩
        have hb3t : Below w.heap.size w w3 := hb2.trans (hb3.mono hb2.size)
        rw [HX1.out]
        go_wp2_with fail
        refine (cmp_n (gb.below hb3t) (gc.below hb3t)).mono ?_
        rintro e w4 ⟨rfl, hb4⟩
        have hb4t : Below w.heap.size w w4 := hb3t.trans (hb4.mono hb3t.size)
        skip
        go_wp2_with fail
        refine (cmp_n (gb.below hb4t) (ga.below hb4t)).mono ?_
        rintro e w5 ⟨rfl, hb5⟩
        have hb5t : Below w.heap.size w w5 := hb4t.trans (hb5.mono hb4t.size)
        rw [HX2.out]
        go_wp2_with fail
        refine (cmp_n (ga.below hb5t) (ga.below hb5t)).mono ?_
        rintro e w6 ⟨rfl, hb6⟩
        have hb6t : Below w.heap.size w w6 := hb5t.trans (hb6.mono hb5t.size)
        rw [cmpN_eq rfl]
        go_wp2_with fail
        refine (add_n (ga.below hb6t) (gc.below hb6t) (by omega) (by omega)).mono ?_
        rintro e w7 ⟨v7, rfl, s1, hb7⟩
        have hb7t : Below w.heap.size w w7 := hb6t.trans (hb7.mono hb6t.size)
        go_wp2_with fail
        refine (add_n (gb.below hb7t) (gc.below hb7t) (by omega) (by omega)).mono ?_
        rintro e w8 ⟨v8, rfl, s2, hb8⟩
        have hb8t : Below w.heap.size w w8 := hb7t.trans (hb8.mono hb7t.size)
        go_wp2_with fail
        refine (cmp_n (s1.below hb8) s2).mono ?_
        rintro e w9 ⟨rfl, hb9⟩
        have hb9t : Below w.heap.size w w9 := hb8t.trans (hb9.mono hb8t.size)
        rw [cmpN_add, HX1.out]
        go_wp2_with fail
        refine (bits_n (ga.below hb9t) (by omega)).mono ?_
        rintro e w_ ⟨rfl, rfl⟩
        go_wp2_with fail
        refine (bits_n (gb.below hb9t) (by omega)).mono ?_
        rintro e w_ ⟨rfl, rfl⟩
        go_wp2_with fail
        refine (cmp_n (ga.below hb9t) (gc.below hb9t)).mono ?_
        rintro e w10 ⟨rfl, hb10⟩
        have hb10t : Below w.heap.size w w10 := hb9t.trans (hb10.mono hb9t.size)
        skip
        go_wp2_with fail
        go_ret
        exact ⟨rfl, hb10t⟩
  · obtain ⟨j, hj, hlj⟩ : ∃ j, j < 3 ∧ 40 < three xs.length ys.length zs.length j := by
      by_cases h : xs.length ≤ 40
      · by_cases h2 : ys.length ≤ 40
        · exact ⟨2, by omega, by show _ < zs.length; omega⟩
        · exact ⟨1, by omega, by show _ < ys.length; omega⟩
      · exact ⟨0, by omega, by show _ < xs.length; omega⟩
    have HLJ := Lib.hid hlj
    clear hs hlj
    go_enter Tryd.func13, Tryd.ntmps13
    go_wp2_with fail
    refine (HF.out _).mono ?_; rintro e w1 ⟨rfl, hb1⟩
    go_wp2_with fail
    refine (short_false _ 40 w1.heap.size 3 (three xs.length ys.length zs.length) _ rfl (rows2_three 22 (heap_alloc_new _ _)) (by omega) j hj HLJ.out).mono ?_
    rintro e w2 ⟨rfl, rfl⟩
    go_wp2_with fail
    go_ret
    exact ⟨rfl, hb1.alloc hb1.size _⟩
end Go.Proofs.YtdbpcfelibcgiaaDoor
