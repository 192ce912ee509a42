/-
  The walk of the law NatLaws.
-/
import Derived.Test.YtdbpcfelibcgiaaDoorNum
namespace Go.Proofs.YtdbpcfelibcgiaaDoor
open Go.RowKit

set_option maxHeartbeats 2000000 in
theorem natLaws_walk (va vb vc : Value) (xs ys zs : List Nat) (w : World) (hx : Sl w .u32 va xs) (hy : Sl w .u32 vb ys) (hz : Sl w .u32 vc zs) (dx : Dig L32 xs) (dy : Dig L32 ys) (dz : Dig L32 zs) :
    Calls Tryd.prog 8 #[va, vb, vc] w fun e w' => e = .returned (.bool true) ∧ Below w.heap.size w w' := by
  have HF := Lib.hid fitOk
  obtain ⟨ao, ac, rfl⟩ := sl_shape hx
  obtain ⟨bo, bc, rfl⟩ := sl_shape hy
  obtain ⟨co, cc, rfl⟩ := sl_shape hz
  by_cases hs : xs.length ≤ 60 ∧ ys.length ≤ 60 ∧ zs.length ≤ 60
  · obtain ⟨lx, ly, lz⟩ := hs
    have ga := gn_of hx dx lx
    have gb := gn_of hy dy ly
    have gc := gn_of hz dz lz
    generalize val L32 xs = A at *
    generalize val L32 ys = Bn at *
    generalize val L32 zs = C at *
    have e1 : A * (Bn + C) = A * Bn + C * A := by rw [Nat.mul_add, Nat.mul_comm C A]
    have e2 : A + Bn + C = A + (C + Bn) := by omega
    have E1h := Lib.hid e1
    have E2h := Lib.hid e2
    clear e1 e2
    go_enter Tryd.func8, Tryd.ntmps8
    go_wp2_with fail
    refine (HF.out _).mono ?_; rintro e w1 ⟨rfl, hb1⟩
    go_wp2_with fail
    refine (short_true _ 60 w1.heap.size 3 (three xs.length ys.length zs.length) _ rfl (rows2_three 22 (heap_alloc_new _ _)) (by omega) (by intro j hj; match j, hj with | 0, _ => exact lx | 1, _ => exact ly | 2, _ => exact lz)).mono ?_
    rintro e w2 ⟨rfl, rfl⟩
    have hb2 : Below w.heap.size w (w1.alloc (.cells #[.slice ao xs.length ac, .slice bo ys.length bc, .slice co zs.length cc] 22)) := hb1.alloc hb1.size _
    generalize (w1.alloc (.cells #[.slice ao xs.length ac, .slice bo ys.length bc, .slice co zs.length cc] 22)) = w2 at *
    go_wp2_with fail
    refine (add_n (gb.below hb2) (gc.below hb2) (by omega) (by omega)).mono ?_
    rintro e w3 ⟨v3, rfl, s1, hb3⟩
    have hb3t : Below w.heap.size w w3 := hb2.trans (hb3.mono hb2.size)
    go_wp2_with fail
    refine (mul_n (ga.below hb3t) s1 (by omega) (by omega)).mono ?_
    rintro e w4 ⟨v4, rfl, one, hb4⟩
    have hb4t : Below w.heap.size w w4 := hb3t.trans (hb4.mono hb3t.size)
    go_wp2_with fail
    refine (mul_n (ga.below hb4t) (gb.below hb4t) (by omega) (by omega)).mono ?_
    rintro e w5 ⟨v5, rfl, s2, hb5⟩
    have hb5t : Below w.heap.size w w5 := hb4t.trans (hb5.mono hb4t.size)
    go_wp2_with fail
    refine (mul_n (gc.below hb5t) (ga.below hb5t) (by omega) (by omega)).mono ?_
    rintro e w6 ⟨v6, rfl, s3, hb6⟩
    have hb6t : Below w.heap.size w w6 := hb5t.trans (hb6.mono hb5t.size)
    go_wp2_with fail
    refine (add_n (s2.below hb6) s3 (by omega) (by omega)).mono ?_
    rintro e w7 ⟨v7, rfl, twoo, hb7⟩
    have hb7t : Below w.heap.size w w7 := hb6t.trans (hb7.mono hb6t.size)
    go_wp2_with fail
    refine (add_n (ga.below hb7t) (gb.below hb7t) (by omega) (by omega)).mono ?_
    rintro e w8 ⟨v8, rfl, s4, hb8⟩
    have hb8t : Below w.heap.size w w8 := hb7t.trans (hb8.mono hb7t.size)
    go_wp2_with fail
    refine (add_n s4 (gc.below hb8t) (by omega) (by omega)).mono ?_
    rintro e w9 ⟨v9, rfl, thre, hb9⟩
    have hb9t : Below w.heap.size w w9 := hb8t.trans (hb9.mono hb8t.size)
    go_wp2_with fail
    refine (add_n (gc.below hb9t) (gb.below hb9t) (by omega) (by omega)).mono ?_
    rintro e w10 ⟨v10, rfl, s5, hb10⟩
    have hb10t : Below w.heap.size w w10 := hb9t.trans (hb10.mono hb9t.size)
    go_wp2_with fail
    refine (add_n (ga.below hb10t) s5 (by omega) (by omega)).mono ?_
    rintro e w11 ⟨v11, rfl, four, hb11⟩
    have hb11t : Below w.heap.size w w11 := hb10t.trans (hb11.mono hb10t.size)
    go_wp2_with fail
    refine (sub_n ((thre.below hb10).below hb11) (gc.below hb11t) (by omega) (by omega)).mono ?_
    rintro e w12 ⟨v12, rfl, back, hb12⟩
    have hb12t : Below w.heap.size w w12 := hb11t.trans (hb12.mono hb11t.size)
    go_wp2_with fail
    refine (cmp_n ((((((((one.below hb5).below hb6).below hb7).below hb8).below hb9).below hb10).below hb11).below hb12) (((((twoo.below hb8).below hb9).below hb10).below hb11).below hb12)).mono ?_
    rintro e w13 ⟨rfl, hb13⟩
    have hb13t : Below w.heap.size w w13 := hb12t.trans (hb13.mono hb12t.size)
    rw [cmpN_eq E1h.out]
    go_wp2_with fail
    refine (cmp_n ((((thre.below hb10).below hb11).below hb12).below hb13) ((four.below hb12).below hb13)).mono ?_
    rintro e w14 ⟨rfl, hb14⟩
    have hb14t : Below w.heap.size w w14 := hb13t.trans (hb14.mono hb13t.size)
    rw [cmpN_eq E2h.out]
    go_wp2_with fail
    refine (mul_n (ga.below hb14t) (gb.below hb14t) (by omega) (by omega)).mono ?_
    rintro e w15 ⟨v15, rfl, p1, hb15⟩
    have hb15t : Below w.heap.size w w15 := hb14t.trans (hb15.mono hb14t.size)
    go_wp2_with fail
    refine (mul_n p1 (gc.below hb15t) (by omega) (by omega)).mono ?_
    rintro e w16 ⟨v16, rfl, p2, hb16⟩
    have hb16t : Below w.heap.size w w16 := hb15t.trans (hb16.mono hb15t.size)
    go_wp2_with fail
    refine (mul_n (gb.below hb16t) (gc.below hb16t) (by omega) (by omega)).mono ?_
    rintro e w17 ⟨v17, rfl, p3, hb17⟩
    have hb17t : Below w.heap.size w w17 := hb16t.trans (hb17.mono hb16t.size)
    go_wp2_with fail
    refine (mul_n (ga.below hb17t) p3 (by omega) (by omega)).mono ?_
    rintro e w18 ⟨v18, rfl, p4, hb18⟩
    have hb18t : Below w.heap.size w w18 := hb17t.trans (hb18.mono hb17t.size)
    go_wp2_with fail
    refine (cmp_n ((p2.below hb17).below hb18) p4).mono ?_
    rintro e w19 ⟨rfl, hb19⟩
    have hb19t : Below w.heap.size w w19 := hb18t.trans (hb19.mono hb18t.size)
    rw [cmpN_eq (Nat.mul_assoc _ _ _)]
    go_wp2_with fail
    refine (add_n (ga.below hb19t) (gb.below hb19t) (by omega) (by omega)).mono ?_
    rintro e w20 ⟨v20, rfl, s6, hb20⟩
    have hb20t : Below w.heap.size w w20 := hb19t.trans (hb20.mono hb19t.size)
    go_wp2_with fail
    refine (cmp_n ((((((((back.below hb13).below hb14).below hb15).below hb16).below hb17).below hb18).below hb19).below hb20) s6).mono ?_
    rintro e w21 ⟨rfl, hb21⟩
    have hb21t : Below w.heap.size w w21 := hb20t.trans (hb21.mono hb20t.size)
    rw [cmpN_eq (Nat.add_sub_cancel _ _)]
    go_wp2_with fail
    go_ret
    exact ⟨rfl, hb21t⟩
  · obtain ⟨j, hj, hlj⟩ : ∃ j, j < 3 ∧ 60 < three xs.length ys.length zs.length j := by
      by_cases h : xs.length ≤ 60
      · by_cases h2 : ys.length ≤ 60
        · exact ⟨2, by omega, by show _ < zs.length; omega⟩
        · exact ⟨1, by omega, by show _ < ys.length; omega⟩
      · exact ⟨0, by omega, by show _ < xs.length; omega⟩
    have HLJ := Lib.hid hlj
    clear hs hlj
    go_enter Tryd.func8, Tryd.ntmps8
    go_wp2_with fail
    refine (HF.out _).mono ?_; rintro e w1 ⟨rfl, hb1⟩
    go_wp2_with fail
    refine (short_false _ 60 w1.heap.size 3 (three xs.length ys.length zs.length) _ rfl (rows2_three 22 (heap_alloc_new _ _)) (by omega) j hj HLJ.out).mono ?_
    rintro e w2 ⟨rfl, rfl⟩
    go_wp2_with fail
    go_ret
    exact ⟨rfl, hb1.alloc hb1.size _⟩
end Go.Proofs.YtdbpcfelibcgiaaDoor
