/-
  The walk of the law NatBack.
-/
import Derived.Test.YtdbpcfelibcgiaaDoorDivE
namespace Go.Proofs.YtdbpcfelibcgiaaDoor
open Go.RowKit

theorem back_div {A B C : Nat} (h : C < B) : (A * B + C) / B = A ∧ (A * B + C) % B = C := by
  have hp : 0 < B := by omega
  constructor
  · rw [Nat.add_comm, Nat.add_mul_div_right _ _ hp, Nat.div_eq_of_lt h, Nat.zero_add]
  · rw [Nat.add_comm, Nat.add_mul_mod_self_right, Nat.mod_eq_of_lt h]
set_option maxHeartbeats 2000000 in
theorem natBack_walk (va vb vc : Value) (xs ys zs : List Nat) (w : World) (hx : Sl w .u32 va xs) (hy : Sl w .u32 vb ys) (hz : Sl w .u32 vc zs) (dx : Dig L32 xs) (dy : Dig L32 ys) (dz : Dig L32 zs) :
    Calls Tryd.prog 7 #[va, vb, vc] w fun e w' => e = .returned (.bool true) ∧ Below w.heap.size w w' := by
  have HF := Lib.hid fitOk
  obtain ⟨ao, ac, rfl⟩ := sl_shape hx
  obtain ⟨bo, bc, rfl⟩ := sl_shape hy
  obtain ⟨co, cc, rfl⟩ := sl_shape hz
  by_cases hs : xs.length ≤ 40 ∧ ys.length ≤ 40 ∧ zs.length ≤ 40
  · obtain ⟨lx, ly, lz⟩ := hs
    have ga := gn_of hx dx lx
    have gb := gn_of hy dy ly
    have gc := gn_of hz dz lz
    generalize val L32 xs = A at *
    generalize val L32 ys = Bn at *
    generalize val L32 zs = C at *
    go_enter Tryd.func7, Tryd.ntmps7
    go_wp2_with fail
    refine (HF.out _).mono ?_; rintro e w1 ⟨rfl, hb1⟩
    go_wp2_with fail
    refine (short_true _ 40 w1.heap.size 3 (three xs.length ys.length zs.length) _ rfl (rows2_three 22 (heap_alloc_new _ _)) (by omega) (by intro j hj; match j, hj with | 0, _ => exact lx | 1, _ => exact ly | 2, _ => exact lz)).mono ?_
    rintro e w2 ⟨rfl, rfl⟩
    have hb2 : Below w.heap.size w (w1.alloc (.cells #[.slice ao xs.length ac, .slice bo ys.length bc, .slice co zs.length cc] 22)) := hb1.alloc hb1.size _
    generalize (w1.alloc (.cells #[.slice ao xs.length ac, .slice bo ys.length bc, .slice co zs.length cc] 22)) = w2 at *
    by_cases hlt : C < Bn
    · have HC := Lib.hid (cmpN_lt hlt)
      obtain ⟨e1, e2⟩ := back_div (A := A) hlt
      have E1 := Lib.hid e1
      have E2 := Lib.hid e2
      clear e1 e2
      go_wp2_with fail
      refine (cmp_n (gc.below hb2) (gb.below hb2)).mono ?_
      rintro e w3 ⟨rfl, hb3⟩
      have hb3t : Below w.heap.size w w3 := hb2.trans (hb3.mono hb2.size)
      rw [HC.out]
      go_wp2_with fail
      refine (mul_n (ga.below hb3t) (gb.below hb3t) (by omega) (by omega)).mono ?_
      rintro e w4 ⟨v4, rfl, s4, hb4⟩
      have hb4t : Below w.heap.size w w4 := hb3t.trans (hb4.mono hb3t.size)
      go_wp2_with fail
      refine (add_n s4 (gc.below hb4t) (by omega) (by omega)).mono ?_
      rintro e w5 ⟨v5, rfl, s5, hb5⟩
      have hb5t : Below w.heap.size w w5 := hb4t.trans (hb5.mono hb4t.size)
      go_wp2_with fail
      refine (div_n s5 (gb.below hb5t) (by omega) (by omega)).mono ?_
      rintro e w6 ⟨q, r, rfl, hq, hr, hb6⟩
      have hb6t : Below w.heap.size w w6 := hb5t.trans (hb6.mono hb5t.size)
      rw [E1.out] at hq
      rw [E2.out] at hr
      have gq := gn_dig hq ga.lt
      have gr := gn_dig hr gc.lt
      go_wp2_with fail
      refine (cmp_n gq (ga.below hb6t)).mono ?_
      rintro e w7 ⟨rfl, hb7⟩
      have hb7t : Below w.heap.size w w7 := hb6t.trans (hb7.mono hb6t.size)
      rw [cmpN_eq rfl]
      go_wp2_with fail
      refine (cmp_n (gr.below hb7) (gc.below hb7t)).mono ?_
      rintro e w8 ⟨rfl, hb8⟩
      have hb8t : Below w.heap.size w w8 := hb7t.trans (hb8.mono hb7t.size)
      rw [cmpN_eq rfl]
      go_wp2_with fail
      go_ret
      exact ⟨rfl, hb8t⟩
    · have hc : 0 ≤ cmpN C Bn := by unfold cmpN; rw [if_neg hlt]; split <;> omega
      go_wp2_with fail
      refine (cmp_n (gc.below hb2) (gb.below hb2)).mono ?_
      rintro e w3 ⟨rfl, hb3⟩
      have hb3t : Below w.heap.size w w3 := hb2.trans (hb3.mono hb2.size)
      go_wp2_with fail
      go_ret
      exact ⟨rfl, hb3t⟩
  · obtain ⟨j, hj, hlj⟩ : ∃ j, j < 3 ∧ 40 < three xs.length ys.length zs.length j := by
      by_cases h : xs.length ≤ 40
      · by_cases h2 : ys.length ≤ 40
        · exact ⟨2, by omega, by show _ < zs.length; omega⟩
        · exact ⟨1, by omega, by show _ < ys.length; omega⟩
      · exact ⟨0, by omega, by show _ < xs.length; omega⟩
    have HLJ := Lib.hid hlj
    clear hs hlj
    go_enter Tryd.func7, Tryd.ntmps7
    go_wp2_with fail
    refine (HF.out _).mono ?_; rintro e w1 ⟨rfl, hb1⟩
    go_wp2_with fail
    refine (short_false _ 40 w1.heap.size 3 (three xs.length ys.length zs.length) _ rfl (rows2_three 22 (heap_alloc_new _ _)) (by omega) j hj HLJ.out).mono ?_
    rintro e w2 ⟨rfl, rfl⟩
    go_wp2_with fail
    go_ret
    exact ⟨rfl, hb1.alloc hb1.size _⟩
end Go.Proofs.YtdbpcfelibcgiaaDoor
