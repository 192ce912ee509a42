/-
  The walk of the law WholeAdds.
-/
import Derived.Test.YtbkeildnhimfbaaDoorWhoW
import Derived.Test.YtbkeildnhimfbaaDoorRely
namespace Go.Proofs.YtbkeildnhimfbaaDoor
open Go.RowKit
set_option maxRecDepth 100000

theorem bl_gi {w : World} {v : Value} {z : Int} {k n : Nat} (h : GI w v z k) (hk : 32 * k ≤ n) : bl z.natAbs ≤ n :=
  Nat.le_trans (bl_le (by have := h.lt; rwa [show L32 = 2 ^ 32 from rfl, ← Nat.pow_mul] at this)) hk
theorem ri_zero (w : World) : RI w (.agg #[.bool false, .slice none 0 0]) 0 :=
  ⟨_, rfl, by rw [Int.natAbs_zero, dig_zero]; exact Sl.nil _ _⟩

set_option maxHeartbeats 8000000 in
theorem wholeAdds_walk (b0 : Bool) (o0 : Option Addr) (n0 m0 : Nat) (xs0 : List Nat) (b1 : Bool) (o1 : Option Addr) (n1 m1 : Nat) (xs1 : List Nat) (w : World) (a0 : Arg w b0 o0 n0 m0 xs0) (a1 : Arg w b1 o1 n1 m1 xs1) (htab : Lib.TabIs Tryd.prog w "internal/strconv.uint64pow10" .u64 Lib.pow10Tab) :
    Calls Tryd.prog 3 #[.agg #[.bool b0, .slice o0 n0 m0], .agg #[.bool b1, .slice o1 n1 m1]] w fun e w' => e = .returned (.bool true) ∧ Below w.heap.size w w' := by
  have HF := Lib.hid wfitOk
  have HTB := Lib.hid htab
  clear htab
  by_cases hs : n0 ≤ 10 ∧ n1 ≤ 10
  · obtain ⟨l0, l1⟩ := hs
    obtain ⟨A, g0⟩ := a0.gi l0
    obtain ⟨B, g1⟩ := a1.gi l1
    clear a0 a1
    have ha := bl_gi g0 (show 32 * 10 ≤ 1000 by decide)
    have hb := bl_gi g1 (show 32 * 10 ≤ 1000 by decide)
    have ha' : bl A.natAbs ≤ 1000000 := by omega
    have hb' : bl B.natAbs ≤ 1000000 := by omega
    have hnb : bl (-B).natAbs ≤ 1000000 := by rw [Int.natAbs_neg]; exact hb'
    have h0b : bl (0 : Int).natAbs ≤ 1000000 := by rw [Int.natAbs_zero, bl_zero]; omega
    have HSB := Lib.hid (show A + -B = A - B by omega)
    have HS0 := Lib.hid (show A - 0 = A by omega)
    have hbt := below2 w (.cells #[.bool b0, .slice o0 n0 m0] 25) (.cells #[.bool b1, .slice o1 n1 m1] 25)
    have hbk := blocks2 (Below.refl (w.heap.size + 2) ((w.alloc (.cells #[.bool b0, .slice o0 n0 m0] 25)).alloc (.cells #[.bool b1, .slice o1 n1 m1] 25)))
    have HB_x0 := Lib.hid hbk.1
    have HB_x1 := Lib.hid hbk.2
    clear hbk
    replace g0 := g0.below hbt
    have x00 := (two_cells HB_x0.out).1
    have x01 := (two_cells HB_x0.out).2.1
    replace g1 := g1.below hbt
    have x10 := (two_cells HB_x1.out).1
    have x11 := (two_cells HB_x1.out).2.1
    go_enter Tryd.func3, Tryd.ntmps3
    go_wp2_with fail
    generalize ((w.alloc (.cells #[.bool b0, .slice o0 n0 m0] 25)).alloc (.cells #[.bool b1, .slice o1 n1 m1] 25)) = w0 at *
    refine (HF.out _ (tab_below HTB.out hbt)).mono ?_
    rintro e wx1 ⟨rfl, hbx⟩
    replace g0 := g0.below hbx
    replace g1 := g1.below hbx
    replace hbt := hbt.trans (hbx.mono hbt.size)
    replace HB_x0 := Lib.hid ((hbx.block _ (lt_of_block HB_x0.out)).trans HB_x0.out)
    replace HB_x1 := Lib.hid ((hbx.block _ (lt_of_block HB_x1.out)).trans HB_x1.out)
    clear hbx
    replace x00 := (two_cells HB_x0.out).1
    replace x01 := (two_cells HB_x0.out).2.1
    replace x10 := (two_cells HB_x1.out).1
    replace x11 := (two_cells HB_x1.out).2.1
    go_wp2_with fail
    refine (short_t2 10 _ rfl l0 l1).mono ?_
    rintro e wx2 ⟨rfl, hbx⟩
    replace g0 := g0.below hbx
    replace g1 := g1.below hbx
    replace hbt := hbt.trans (hbx.mono hbt.size)
    replace HB_x0 := Lib.hid ((hbx.block _ (lt_of_block HB_x0.out)).trans HB_x0.out)
    replace HB_x1 := Lib.hid ((hbx.block _ (lt_of_block HB_x1.out)).trans HB_x1.out)
    clear hbx
    replace x00 := (two_cells HB_x0.out).1
    replace x01 := (two_cells HB_x0.out).2.1
    replace x10 := (two_cells HB_x1.out).1
    replace x11 := (two_cells HB_x1.out).2.1
    go_wp2_with fail
    have HSx := Lib.hid (show ∀ w', Below wx2.drew.heap.size wx2.drew w' → w'.cell? ⟨w.heap.size, 0, none⟩ = some (.bool b0) ∧ w'.cell? ⟨w.heap.size, 1, none⟩ = some (.slice o0 n0 m0) ∧ w'.cell? ⟨w.heap.size + 1, 0, none⟩ = some (.bool b1) ∧ w'.cell? ⟨w.heap.size + 1, 1, none⟩ = some (.slice o1 n1 m1) from fun w' hb => ⟨(hb.cell (lt_of_block HB_x0.out)).trans x00, (hb.cell (lt_of_block HB_x0.out)).trans x01, (hb.cell (lt_of_block HB_x1.out)).trans x10, (hb.cell (lt_of_block HB_x1.out)).trans x11⟩)
    have hszc := hbt.size
    have hlt_x0 := lt_of_block HB_x0.out
    have hlt_x1 := lt_of_block HB_x1.out
    refine Rely.region (by kernel_rfl) [[], [0], [], [0, 1, 2], [], [], [0, 1, 2, 3, 4, 5], [0, 1, 2, 3, 4, 5, 6]] [4, 5] 6 (by kernel_rfl) ?_
    refine Rely.Chain.det ?_ (by rfl) (fun T xs wr hA => ?_) ?_
    rotate_left 1
    · obtain ⟨x00, x01, x10, x11⟩ := HSx.out wr hA.bw
      have e2 := hA.pre 2 (by kernel_rfl)
      simp only [List.getElem?_toArray, List.getElem?_cons_succ, List.getElem?_cons_zero] at e2
      clear hA
      refine ⟨(by rfl), ?_⟩
      go_simp <;> (try with_reducible rfl)
    refine Rely.Chain.call (fun _ v w => RI w v A) (fun _ _ _ _ h hb => h.below hb) (by rfl) (fun T xs wr hA => ?_) ?_
    · have hbw := undrew hA.bw
      have e14 := hA.tm 0 14 (by rfl) (by rfl)
      have f14 : xs 0 = _ := hA.fa 0 (by rfl)
      (try simp (disch := rfl) only [Rely.mask_in] at f14)
      rw [f14] at e14
      clear f14
      have g0 := g0.below hbw
      clear hA
      refine ⟨(by rfl), fun K hK => ?_⟩
      go_simp
      refine (lof_any _ A 10 _ g0 (by omega)).mono ?_
      rintro e wq ⟨v, rfl, c, hb⟩
      exact hK.out _ _ c hb
    refine Rely.Chain.det ?_ (by rfl) (fun T xs wr hA => ?_) ?_
    rotate_left 1
    · obtain ⟨x00, x01, x10, x11⟩ := HSx.out wr hA.bw
      have e3 := hA.pre 3 (by kernel_rfl)
      simp only [List.getElem?_toArray, List.getElem?_cons_succ, List.getElem?_cons_zero] at e3
      clear hA
      refine ⟨(by rfl), ?_⟩
      go_simp <;> (try with_reducible rfl)
    refine Rely.Chain.call (fun _ v w => RI w v B) (fun _ _ _ _ h hb => h.below hb) (by rfl) (fun T xs wr hA => ?_) ?_
    · have hbw := undrew hA.bw
      have e16 := hA.tm 2 16 (by rfl) (by rfl)
      have f16 : xs 2 = _ := hA.fa 2 (by rfl)
      (try simp (disch := rfl) only [Rely.mask_in] at f16)
      rw [f16] at e16
      clear f16
      have g1 := g1.below hbw
      clear hA
      refine ⟨(by rfl), fun K hK => ?_⟩
      go_simp
      refine (lof_any _ B 10 _ g1 (by omega)).mono ?_
      rintro e wq ⟨v, rfl, c, hb⟩
      exact hK.out _ _ c hb
    refine Rely.Chain.alloc ?_ (fun T xs wr hA => ?_) ?_
    rotate_left 1
    · clear hA
      refine ⟨(by rfl), fun K hK => ?_⟩
      go_simp
      exact hK.out
    refine Rely.Chain.alloc ?_ (fun T xs wr hA => ?_) ?_
    rotate_left 1
    · clear hA
      refine ⟨(by rfl), fun K hK => ?_⟩
      go_simp
      exact hK.out
    refine Rely.Chain.done (fun xs wx3 hL => ?_)
    obtain ⟨hbx', hf, hp, hn⟩ := hL
    have f0 : xs 0 = _ := hf 0 (by decide)
    (try simp (disch := rfl) only [Rely.mask_in] at f0)
    have c_y1 : RI wx3 (xs 1) A := hf 1 (by decide)
    have f2 : xs 2 = _ := hf 2 (by decide)
    (try simp (disch := rfl) only [Rely.mask_in] at f2)
    have c_y2 : RI wx3 (xs 3) B := hf 3 (by decide)
    obtain ⟨g_y1, f4, hB_y1⟩ : ∃ g, xs 4 = .pointer (some ⟨g, 0, none⟩) ∧ _ := hf 4 (by decide)
    have hg_y1 : wx2.heap.size ≤ g_y1 := by obtain ⟨g, h1, h2, -⟩ := hp 4 (by rfl) (by decide); rw [f4] at h1; injection h1 with h1; injection h1 with h1; injection h1 with h1; subst h1; exact h2
    obtain ⟨g_y2, f5, hB_y2⟩ : ∃ g, xs 5 = .pointer (some ⟨g, 0, none⟩) ∧ _ := hf 5 (by decide)
    have hg_y2 : wx2.heap.size ≤ g_y2 := by obtain ⟨g, h1, h2, -⟩ := hp 5 (by rfl) (by decide); rw [f5] at h1; injection h1 with h1; injection h1 with h1; injection h1 with h1; subst h1; exact h2
    have hne_y1_y2 : g_y1 ≠ g_y2 := fun h => hn 4 5 (by rfl) (by rfl) (by decide) (by decide) (by decide) (by rw [f4, f5, h])
    clear hf hp hn
    unfold Rely.Rest
    simp only [Rely.fill, List.take_succ_cons, List.take_zero, List.setIfInBounds_toArray, List.set_cons_zero, List.set_cons_succ, f0, f2, f4, f5]
    clear f0 f2 f4 f5
    generalize xs 1 = v_y1 at c_y1 ⊢
    generalize xs 3 = v_y2 at c_y2 ⊢
    clear xs
    obtain ⟨b_y1, o_y1, l_y1, k_y1, n_y1, rfl, -, -⟩ := c_y1.shape
    obtain ⟨b_y2, o_y2, l_y2, k_y2, n_y2, rfl, -, -⟩ := c_y2.shape
    have hbx := undrew hbx'
    clear hbx'
    clear HSx
    replace g0 := g0.below hbx
    replace g1 := g1.below hbx
    replace hbt := hbt.trans (hbx.mono hbt.size)
    replace HB_x0 := Lib.hid ((hbx.block _ (lt_of_block HB_x0.out)).trans HB_x0.out)
    replace HB_x1 := Lib.hid ((hbx.block _ (lt_of_block HB_x1.out)).trans HB_x1.out)
    clear hbx
    replace x00 := (two_cells HB_x0.out).1
    replace x01 := (two_cells HB_x0.out).2.1
    replace x10 := (two_cells HB_x1.out).1
    replace x11 := (two_cells HB_x1.out).2.1
    have HB_y1 := Lib.hid hB_y1
    clear hB_y1
    have HB_y2 := Lib.hid hB_y2
    clear hB_y2
    obtain ⟨z0, z1, fz0, fz1⟩ := two_cells HB_y1.out
    have hne_x0 : w.heap.size ≠ g_y1 := by omega
    have hne_x1 : w.heap.size + 1 ≠ g_y1 := by omega
    have hne_y2 : g_y2 ≠ g_y1 := fun h => hne_y1_y2 h.symm
    refine Rely.rest_step (i := 6) (by kernel_rfl) rfl (fun K hK => ?_)
    go_simp
    refine hK.out _ _ ?_
    clear hK K
    replace g0 := g0.set2 HB_y1.out (.bool b_y1) (.slice o_y1 l_y1 k_y1)
    replace g1 := g1.set2 HB_y1.out (.bool b_y1) (.slice o_y1 l_y1 k_y1)
    replace c_y1 := c_y1.set2 HB_y1.out (.bool b_y1) (.slice o_y1 l_y1 k_y1)
    replace c_y2 := c_y2.set2 HB_y1.out (.bool b_y1) (.slice o_y1 l_y1 k_y1)
    replace hbt := below_setg (g := g_y1) hbt (by omega) (.bool b_y1) (.slice o_y1 l_y1 k_y1)
    replace HB_x0 := Lib.hid ((heap_far2 (g := g_y1) (x := .bool b_y1) (y := .slice o_y1 l_y1 k_y1) hne_x0).trans HB_x0.out)
    replace HB_x1 := Lib.hid ((heap_far2 (g := g_y1) (x := .bool b_y1) (y := .slice o_y1 l_y1 k_y1) hne_x1).trans HB_x1.out)
    replace HB_y2 := Lib.hid ((heap_far2 (g := g_y1) (x := .bool b_y1) (y := .slice o_y1 l_y1 k_y1) hne_y2).trans HB_y2.out)
    replace HB_y1 := Lib.hid (heap_set2 HB_y1.out (.bool b_y1) (.slice o_y1 l_y1 k_y1))
    clear z0 z1 fz0 fz1 hne_x0 hne_x1 hne_y2
    clear x00 x01
    have x00 := (two_cells HB_x0.out).1
    have x01 := (two_cells HB_x0.out).2.1
    clear x10 x11
    have x10 := (two_cells HB_x1.out).1
    have x11 := (two_cells HB_x1.out).2.1
    generalize ((wx3.setCell ⟨g_y1, 0, none⟩ (.bool b_y1)).setCell ⟨g_y1, 1, none⟩ (.slice o_y1 l_y1 k_y1)) = wx4 at *
    obtain ⟨z0, z1, fz0, fz1⟩ := two_cells HB_y2.out
    have hne_x0 : w.heap.size ≠ g_y2 := by omega
    have hne_x1 : w.heap.size + 1 ≠ g_y2 := by omega
    have hne_y1 : g_y1 ≠ g_y2 := hne_y1_y2
    refine Rely.rest_step (i := 7) (by kernel_rfl) rfl (fun K hK => ?_)
    go_simp
    refine hK.out _ _ ?_
    clear hK K
    replace g0 := g0.set2 HB_y2.out (.bool b_y2) (.slice o_y2 l_y2 k_y2)
    replace g1 := g1.set2 HB_y2.out (.bool b_y2) (.slice o_y2 l_y2 k_y2)
    replace c_y1 := c_y1.set2 HB_y2.out (.bool b_y2) (.slice o_y2 l_y2 k_y2)
    replace c_y2 := c_y2.set2 HB_y2.out (.bool b_y2) (.slice o_y2 l_y2 k_y2)
    replace hbt := below_setg (g := g_y2) hbt (by omega) (.bool b_y2) (.slice o_y2 l_y2 k_y2)
    replace HB_x0 := Lib.hid ((heap_far2 (g := g_y2) (x := .bool b_y2) (y := .slice o_y2 l_y2 k_y2) hne_x0).trans HB_x0.out)
    replace HB_x1 := Lib.hid ((heap_far2 (g := g_y2) (x := .bool b_y2) (y := .slice o_y2 l_y2 k_y2) hne_x1).trans HB_x1.out)
    replace HB_y1 := Lib.hid ((heap_far2 (g := g_y2) (x := .bool b_y2) (y := .slice o_y2 l_y2 k_y2) hne_y1).trans HB_y1.out)
    replace HB_y2 := Lib.hid (heap_set2 HB_y2.out (.bool b_y2) (.slice o_y2 l_y2 k_y2))
    clear z0 z1 fz0 fz1 hne_x0 hne_x1 hne_y1
    clear x00 x01
    have x00 := (two_cells HB_x0.out).1
    have x01 := (two_cells HB_x0.out).2.1
    clear x10 x11
    have x10 := (two_cells HB_x1.out).1
    have x11 := (two_cells HB_x1.out).2.1
    generalize ((wx4.setCell ⟨g_y2, 0, none⟩ (.bool b_y2)).setCell ⟨g_y2, 1, none⟩ (.slice o_y2 l_y2 k_y2)) = wx5 at *
    have y10 := (two_cells HB_y1.out).1
    have y11 := (two_cells HB_y1.out).2.1
    have y20 := (two_cells HB_y2.out).1
    have y21 := (two_cells HB_y2.out).2.1
    clear hszc hlt_x0 hlt_x1
    refine wpAny_done (by kernel_rfl) ?_ _
    go_wp2_with fail
    have HSx := Lib.hid (show ∀ w', Below wx5.drew.heap.size wx5.drew w' → w'.cell? ⟨w.heap.size, 0, none⟩ = some (.bool b0) ∧ w'.cell? ⟨w.heap.size, 1, none⟩ = some (.slice o0 n0 m0) ∧ w'.cell? ⟨w.heap.size + 1, 0, none⟩ = some (.bool b1) ∧ w'.cell? ⟨w.heap.size + 1, 1, none⟩ = some (.slice o1 n1 m1) ∧ w'.cell? ⟨g_y1, 0, none⟩ = some (.bool b_y1) ∧ w'.cell? ⟨g_y1, 1, none⟩ = some (.slice o_y1 l_y1 k_y1) ∧ w'.cell? ⟨g_y2, 0, none⟩ = some (.bool b_y2) ∧ w'.cell? ⟨g_y2, 1, none⟩ = some (.slice o_y2 l_y2 k_y2) from fun w' hb => ⟨(hb.cell (lt_of_block HB_x0.out)).trans x00, (hb.cell (lt_of_block HB_x0.out)).trans x01, (hb.cell (lt_of_block HB_x1.out)).trans x10, (hb.cell (lt_of_block HB_x1.out)).trans x11, (hb.cell (lt_of_block HB_y1.out)).trans y10, (hb.cell (lt_of_block HB_y1.out)).trans y11, (hb.cell (lt_of_block HB_y2.out)).trans y20, (hb.cell (lt_of_block HB_y2.out)).trans y21⟩)
    refine Rely.region (by kernel_rfl) [[], [], [0, 1], [], [], [0, 1, 2, 3, 4], [0, 1, 2, 3, 4, 5], [0, 1, 2, 3, 4, 5, 6], [0, 1, 2, 3, 4, 5, 6, 7], [0, 1, 2, 3, 4, 5, 6, 7, 8], [0, 1, 2, 3, 4, 5, 6, 7, 8], [0, 1, 2, 3, 4, 5, 6, 7, 8, 9, 10], [0, 1, 2, 3, 4, 5, 6, 7, 8], [0, 1, 2, 3, 4, 5, 6, 7, 8], [0, 1, 2, 3, 4, 5, 6, 7, 8, 9, 10, 11, 13], [0, 1, 2, 3, 4, 5, 6, 7, 8, 9, 10, 11, 12, 13, 14], [0, 1, 2, 3, 4, 5, 6, 7, 8, 9, 10, 11, 12, 13, 14, 15], [0, 1, 2, 3, 4, 5, 6, 7, 8, 9, 10, 11, 12, 13, 14, 15, 16], [0, 1, 2, 3, 4, 5, 6, 7, 8, 9, 10, 11, 12, 13, 14, 15, 16, 17], [0, 1, 2, 3, 4, 5, 6, 7, 8, 9, 10, 11, 12, 13, 14, 15, 16, 17, 18], [0, 1, 2, 3, 4, 5, 6, 7, 8, 9, 10, 11, 12, 13, 14, 15, 16, 17, 18, 19], [0, 1, 2, 3, 4, 5, 6, 7, 8, 9, 10, 11, 12, 13, 14, 15, 16, 17, 18, 19], [0, 1, 2, 3, 4, 5, 6, 7, 8, 9, 10, 11, 12, 13, 14, 15, 16, 17, 18, 19, 20, 21], [0, 1, 2, 3, 4, 5, 6, 7, 8, 9, 10, 11, 12, 13, 14, 15, 16, 17, 18, 19], [0, 1, 2, 3, 4, 5, 6, 7, 8, 9, 10, 11, 12, 13, 14, 15, 16, 17, 18, 19], [0, 1, 2, 3, 4, 5, 6, 7, 8, 9, 10, 11, 12, 13, 14, 15, 16, 17, 18, 19, 20, 21, 22, 23, 24], [0, 1, 2, 3, 4, 5, 6, 7, 8, 9, 10, 11, 12, 13, 14, 15, 16, 17, 18, 19, 20, 21, 22, 23, 24, 25], [0, 1, 2, 3, 4, 5, 6, 7, 8, 9, 10, 11, 12, 13, 14, 15, 16, 17, 18, 19, 20, 21, 22, 23, 24, 25, 26], [0, 1, 2, 3, 4, 5, 6, 7, 8, 9, 10, 11, 12, 13, 14, 15, 16, 17, 18, 19, 20, 21, 22, 23, 24, 25, 26, 27]] [] 29 (by kernel_rfl) ?_
    refine Rely.Chain.det ?_ (by rfl) (fun T xs wr hA => ?_) ?_
    rotate_left 1
    · obtain ⟨x00, x01, x10, x11, y10, y11, y20, y21⟩ := HSx.out wr hA.bw
      have e2 := hA.pre 2 (by kernel_rfl)
      simp only [List.getElem?_toArray, List.getElem?_cons_succ, List.getElem?_cons_zero] at e2
      clear hA
      refine ⟨(by rfl), ?_⟩
      go_simp <;> (try with_reducible rfl)
    refine Rely.Chain.det ?_ (by rfl) (fun T xs wr hA => ?_) ?_
    rotate_left 1
    · obtain ⟨x00, x01, x10, x11, y10, y11, y20, y21⟩ := HSx.out wr hA.bw
      have e3 := hA.pre 3 (by kernel_rfl)
      simp only [List.getElem?_toArray, List.getElem?_cons_succ, List.getElem?_cons_zero] at e3
      clear hA
      refine ⟨(by rfl), ?_⟩
      go_simp <;> (try with_reducible rfl)
    refine Rely.Chain.call (fun _ v w => CI w v (A + B) 21) (fun _ _ _ _ h hb => h.below hb) (by rfl) (fun T xs wr hA => ?_) ?_
    · have hbw := undrew hA.bw
      have e18 := hA.tm 0 18 (by rfl) (by rfl)
      have f18 : xs 0 = _ := hA.fa 0 (by rfl)
      (try simp (disch := rfl) only [Rely.mask_in] at f18)
      rw [f18] at e18
      clear f18
      have e19 := hA.tm 1 19 (by rfl) (by rfl)
      have f19 : xs 1 = _ := hA.fa 1 (by rfl)
      (try simp (disch := rfl) only [Rely.mask_in] at f19)
      rw [f19] at e19
      clear f19
      have g0 := g0.below hbw
      have g1 := g1.below hbw
      clear hA
      refine ⟨(by rfl), fun K hK => ?_⟩
      go_simp
      refine (wadd_any _ _ A B 10 10 _ g0 g1 (by omega) (by omega)).mono ?_
      rintro e wq ⟨v, rfl, c, hb⟩
      exact hK.out _ _ c hb
    refine Rely.Chain.det ?_ (by rfl) (fun T xs wr hA => ?_) ?_
    rotate_left 1
    · obtain ⟨x00, x01, x10, x11, y10, y11, y20, y21⟩ := HSx.out wr hA.bw
      have e5 := hA.pre 5 (by kernel_rfl)
      simp only [List.getElem?_toArray, List.getElem?_cons_succ, List.getElem?_cons_zero] at e5
      clear hA
      refine ⟨(by rfl), ?_⟩
      go_simp <;> (try with_reducible rfl)
    refine Rely.Chain.det ?_ (by rfl) (fun T xs wr hA => ?_) ?_
    rotate_left 1
    · obtain ⟨x00, x01, x10, x11, y10, y11, y20, y21⟩ := HSx.out wr hA.bw
      have e6 := hA.pre 6 (by kernel_rfl)
      simp only [List.getElem?_toArray, List.getElem?_cons_succ, List.getElem?_cons_zero] at e6
      clear hA
      refine ⟨(by rfl), ?_⟩
      go_simp <;> (try with_reducible rfl)
    refine Rely.Chain.call (fun _ v w => RI w v (A + B)) (fun _ _ _ _ h hb => h.below hb) (by rfl) (fun T xs wr hA => ?_) ?_
    · have hbw := undrew hA.bw
      have e21 := hA.tm 3 21 (by rfl) (by rfl)
      have f21 : xs 3 = _ := hA.fa 3 (by rfl)
      (try simp (disch := rfl) only [Rely.mask_in] at f21)
      rw [f21] at e21
      clear f21
      have e22 := hA.tm 4 22 (by rfl) (by rfl)
      have f22 : xs 4 = _ := hA.fa 4 (by rfl)
      (try simp (disch := rfl) only [Rely.mask_in] at f22)
      rw [f22] at e22
      clear f22
      have c_y1 := c_y1.below hbw
      have c_y2 := c_y2.below hbw
      clear hA
      refine ⟨(by rfl), fun K hK => ?_⟩
      go_simp
      refine (rzadd_any _ _ A B _ c_y1 c_y2 ha' hb').mono ?_
      rintro e wq ⟨v, rfl, c, hb⟩
      exact hK.out _ _ c hb
    refine Rely.Chain.call (fun _ v _ => v = .bool true) (fun _ _ _ _ h _ => h) (by rfl) (fun T xs wr hA => ?_) ?_
    · have hbw := undrew hA.bw
      have e20 := hA.tm 2 20 (by rfl) (by rfl)
      have e23 := hA.tm 5 23 (by rfl) (by rfl)
      have c_a1 : CI wr (xs 2) (A + B) 21 := hA.fa 2 (by rfl)
      have c_ra1 : RI wr (xs 5) (A + B) := hA.fa 5 (by rfl)
      clear hA
      refine ⟨(by rfl), fun K hK => ?_⟩
      go_simp
      refine (lis_true _ _ (A + B) 21 _ c_a1 c_ra1 (by omega)).mono ?_
      rintro e wq ⟨rfl, hb⟩
      exact hK.out _ _ rfl hb
    refine Rely.Chain.det ?_ (by rfl) (fun T xs wr hA => ?_) ?_
    rotate_left 1
    · have e24 := hA.tm 6 24 (by rfl) (by rfl)
      have f24 : xs 6 = (.bool true) := hA.fa 6 (by rfl)
      rw [f24] at e24
      clear f24
      clear hA
      refine ⟨(by rfl), ?_⟩
      go_simp <;> (try with_reducible rfl)
    refine Rely.Chain.det ?_ (by rfl) (fun T xs wr hA => ?_) ?_
    rotate_left 1
    · have e25 := hA.tm 7 25 (by rfl) (by rfl)
      have f25 : xs 7 = _ := hA.fa 7 (by rfl)
      (try simp (disch := rfl) only [Rely.mask_in] at f25)
      rw [f25] at e25
      clear f25
      clear hA
      refine ⟨(by rfl), ?_⟩
      go_simp <;> (try with_reducible rfl)
    refine Rely.Chain.det ?_ (by rfl) (fun T xs wr hA => ?_) ?_
    rotate_left 1
    · obtain ⟨x00, x01, x10, x11, y10, y11, y20, y21⟩ := HSx.out wr hA.bw
      have e26 := hA.tm 8 26 (by rfl) (by rfl)
      have f26 : xs 8 = _ := hA.fa 8 (by rfl)
      (try simp (disch := rfl) only [Rely.mask_in] at f26)
      rw [f26] at e26
      clear f26
      have e2 := hA.pre 2 (by kernel_rfl)
      simp only [List.getElem?_toArray, List.getElem?_cons_succ, List.getElem?_cons_zero] at e2
      clear hA
      refine ⟨((Rely.wanted_at rfl (by rfl) e26).trans (by rfl)), ?_⟩
      go_simp <;> (try with_reducible rfl)
    refine Rely.Chain.det ?_ (by rfl) (fun T xs wr hA => ?_) ?_
    rotate_left 1
    · obtain ⟨x00, x01, x10, x11, y10, y11, y20, y21⟩ := HSx.out wr hA.bw
      have e26 := hA.tm 8 26 (by rfl) (by rfl)
      have f26 : xs 8 = _ := hA.fa 8 (by rfl)
      (try simp (disch := rfl) only [Rely.mask_in] at f26)
      rw [f26] at e26
      clear f26
      have e3 := hA.pre 3 (by kernel_rfl)
      simp only [List.getElem?_toArray, List.getElem?_cons_succ, List.getElem?_cons_zero] at e3
      clear hA
      refine ⟨((Rely.wanted_at rfl (by rfl) e26).trans (by rfl)), ?_⟩
      go_simp <;> (try with_reducible rfl)
    refine Rely.Chain.call (fun _ v w => CI w v (A - B) 21) (fun _ _ _ _ h hb => h.below hb) (by rfl) (fun T xs wr hA => ?_) ?_
    · have hbw := undrew hA.bw
      have e26 := hA.tm 8 26 (by rfl) (by rfl)
      have f26 : xs 8 = _ := hA.fa 8 (by rfl)
      (try simp (disch := rfl) only [Rely.mask_in] at f26)
      rw [f26] at e26
      clear f26
      have e27 := hA.tm 9 27 (by rfl) (by rfl)
      have f27 : xs 9 = _ := hA.fa 9 (by rfl)
      (try simp (disch := rfl) only [Rely.mask_in] at f27)
      rw [f27] at e27
      clear f27
      have e28 := hA.tm 10 28 (by rfl) (by rfl)
      have f28 : xs 10 = _ := hA.fa 10 (by rfl)
      (try simp (disch := rfl) only [Rely.mask_in] at f28)
      rw [f28] at e28
      clear f28
      have g0 := g0.below hbw
      have g1 := g1.below hbw
      clear hA
      refine ⟨((Rely.wanted_at rfl (by rfl) e26).trans (by rfl)), fun K hK => ?_⟩
      clear e26
      go_simp
      refine (wsub_any _ _ A B 10 10 _ g0 g1 (by omega) (by omega)).mono ?_
      rintro e wq ⟨v, rfl, c, hb⟩
      exact hK.out _ _ c hb
    refine Rely.Chain.det ?_ (by rfl) (fun T xs wr hA => ?_) ?_
    rotate_left 1
    · obtain ⟨x00, x01, x10, x11, y10, y11, y20, y21⟩ := HSx.out wr hA.bw
      have e26 := hA.tm 8 26 (by rfl) (by rfl)
      have f26 : xs 8 = _ := hA.fa 8 (by rfl)
      (try simp (disch := rfl) only [Rely.mask_in] at f26)
      rw [f26] at e26
      clear f26
      have e5 := hA.pre 5 (by kernel_rfl)
      simp only [List.getElem?_toArray, List.getElem?_cons_succ, List.getElem?_cons_zero] at e5
      clear hA
      refine ⟨((Rely.wanted_at rfl (by rfl) e26).trans (by rfl)), ?_⟩
      go_simp <;> (try with_reducible rfl)
    refine Rely.Chain.det ?_ (by rfl) (fun T xs wr hA => ?_) ?_
    rotate_left 1
    · obtain ⟨x00, x01, x10, x11, y10, y11, y20, y21⟩ := HSx.out wr hA.bw
      have e26 := hA.tm 8 26 (by rfl) (by rfl)
      have f26 : xs 8 = _ := hA.fa 8 (by rfl)
      (try simp (disch := rfl) only [Rely.mask_in] at f26)
      rw [f26] at e26
      clear f26
      have e6 := hA.pre 6 (by kernel_rfl)
      simp only [List.getElem?_toArray, List.getElem?_cons_succ, List.getElem?_cons_zero] at e6
      clear hA
      refine ⟨((Rely.wanted_at rfl (by rfl) e26).trans (by rfl)), ?_⟩
      go_simp <;> (try with_reducible rfl)
    refine Rely.Chain.call (fun _ v w => RI w v (-B)) (fun _ _ _ _ h hb => h.below hb) (by rfl) (fun T xs wr hA => ?_) ?_
    · have hbw := undrew hA.bw
      have e26 := hA.tm 8 26 (by rfl) (by rfl)
      have f26 : xs 8 = _ := hA.fa 8 (by rfl)
      (try simp (disch := rfl) only [Rely.mask_in] at f26)
      rw [f26] at e26
      clear f26
      have e31 := hA.tm 13 31 (by rfl) (by rfl)
      have f31 : xs 13 = _ := hA.fa 13 (by rfl)
      (try simp (disch := rfl) only [Rely.mask_in] at f31)
      rw [f31] at e31
      clear f31
      have c_y2 := c_y2.below hbw
      clear hA
      refine ⟨((Rely.wanted_at rfl (by rfl) e26).trans (by rfl)), fun K hK => ?_⟩
      clear e26
      go_simp
      refine (rzneg_any _ B _ c_y2).mono ?_
      rintro e wq ⟨v, rfl, c, hb⟩
      exact hK.out _ _ c hb
    refine Rely.Chain.call (fun _ v w => RI w v (A + -B)) (fun _ _ _ _ h hb => h.below hb) (by rfl) (fun T xs wr hA => ?_) ?_
    · have hbw := undrew hA.bw
      have e26 := hA.tm 8 26 (by rfl) (by rfl)
      have f26 : xs 8 = _ := hA.fa 8 (by rfl)
      (try simp (disch := rfl) only [Rely.mask_in] at f26)
      rw [f26] at e26
      clear f26
      have e30 := hA.tm 12 30 (by rfl) (by rfl)
      have f30 : xs 12 = _ := hA.fa 12 (by rfl)
      (try simp (disch := rfl) only [Rely.mask_in] at f30)
      rw [f30] at e30
      clear f30
      have e32 := hA.tm 14 32 (by rfl) (by rfl)
      have c_y1 := c_y1.below hbw
      have c_rn : RI wr (xs 14) (-B) := hA.fa 14 (by rfl)
      clear hA
      refine ⟨((Rely.wanted_at rfl (by rfl) e26).trans (by rfl)), fun K hK => ?_⟩
      clear e26
      go_simp
      refine (rzadd_any _ _ A (-B) _ c_y1 c_rn ha' hnb).mono ?_
      rintro e wq ⟨v, rfl, c, hb⟩
      exact hK.out _ _ c hb
    refine Rely.Chain.call (fun _ v _ => v = .bool true) (fun _ _ _ _ h _ => h) (by rfl) (fun T xs wr hA => ?_) ?_
    · have hbw := undrew hA.bw
      have e26 := hA.tm 8 26 (by rfl) (by rfl)
      have f26 : xs 8 = _ := hA.fa 8 (by rfl)
      (try simp (disch := rfl) only [Rely.mask_in] at f26)
      rw [f26] at e26
      clear f26
      have e29 := hA.tm 11 29 (by rfl) (by rfl)
      have e33 := hA.tm 15 33 (by rfl) (by rfl)
      have c_a2 : CI wr (xs 11) (A - B) 21 := hA.fa 11 (by rfl)
      have c_ra2 : RI wr (xs 15) (A + -B) := hA.fa 15 (by rfl)
      clear hA
      refine ⟨((Rely.wanted_at rfl (by rfl) e26).trans (by rfl)), fun K hK => ?_⟩
      clear e26
      go_simp
      refine (lis_true _ _ (A - B) 21 _ c_a2 (c_ra2.to HSB.out) (by omega)).mono ?_
      rintro e wq ⟨rfl, hb⟩
      exact hK.out _ _ rfl hb
    refine Rely.Chain.det ?_ (by rfl) (fun T xs wr hA => ?_) ?_
    rotate_left 1
    · have e26 := hA.tm 8 26 (by rfl) (by rfl)
      have f26 : xs 8 = _ := hA.fa 8 (by rfl)
      (try simp (disch := rfl) only [Rely.mask_in] at f26)
      rw [f26] at e26
      clear f26
      have e34 := hA.tm 16 34 (by rfl) (by rfl)
      have f34 : xs 16 = (.bool true) := hA.fa 16 (by rfl)
      rw [f34] at e34
      clear f34
      clear hA
      refine ⟨((Rely.wanted_at rfl (by rfl) e26).trans (by rfl)), ?_⟩
      go_simp <;> (try with_reducible rfl)
    refine Rely.Chain.det ?_ (by rfl) (fun T xs wr hA => ?_) ?_
    rotate_left 1
    · have e26 := hA.tm 8 26 (by rfl) (by rfl)
      have f26 : xs 8 = _ := hA.fa 8 (by rfl)
      (try simp (disch := rfl) only [Rely.mask_in] at f26)
      rw [f26] at e26
      clear f26
      have e35 := hA.tm 17 35 (by rfl) (by rfl)
      have f35 : xs 17 = _ := hA.fa 17 (by rfl)
      (try simp (disch := rfl) only [Rely.mask_in] at f35)
      rw [f35] at e35
      clear f35
      clear hA
      refine ⟨(by rfl), ?_⟩
      go_simp <;> (try with_reducible rfl)
    refine Rely.Chain.det ?_ (by rfl) (fun T xs wr hA => ?_) ?_
    rotate_left 1
    · have e36 := hA.tm 18 36 (by rfl) (by rfl)
      have f36 : xs 18 = _ := hA.fa 18 (by rfl)
      (try simp (disch := rfl) only [Rely.mask_in] at f36)
      rw [f36] at e36
      clear f36
      clear hA
      refine ⟨(by rfl), ?_⟩
      go_simp <;> (try with_reducible rfl)
    refine Rely.Chain.det ?_ (by rfl) (fun T xs wr hA => ?_) ?_
    rotate_left 1
    · obtain ⟨x00, x01, x10, x11, y10, y11, y20, y21⟩ := HSx.out wr hA.bw
      have e37 := hA.tm 19 37 (by rfl) (by rfl)
      have f37 : xs 19 = _ := hA.fa 19 (by rfl)
      (try simp (disch := rfl) only [Rely.mask_in] at f37)
      rw [f37] at e37
      clear f37
      have e2 := hA.pre 2 (by kernel_rfl)
      simp only [List.getElem?_toArray, List.getElem?_cons_succ, List.getElem?_cons_zero] at e2
      clear hA
      refine ⟨((Rely.wanted_at rfl (by rfl) e37).trans (by rfl)), ?_⟩
      go_simp <;> (try with_reducible rfl)
    refine Rely.Chain.det ?_ (by rfl) (fun T xs wr hA => ?_) ?_
    rotate_left 1
    · obtain ⟨x00, x01, x10, x11, y10, y11, y20, y21⟩ := HSx.out wr hA.bw
      have e37 := hA.tm 19 37 (by rfl) (by rfl)
      have f37 : xs 19 = _ := hA.fa 19 (by rfl)
      (try simp (disch := rfl) only [Rely.mask_in] at f37)
      rw [f37] at e37
      clear f37
      have e3 := hA.pre 3 (by kernel_rfl)
      simp only [List.getElem?_toArray, List.getElem?_cons_succ, List.getElem?_cons_zero] at e3
      clear hA
      refine ⟨((Rely.wanted_at rfl (by rfl) e37).trans (by rfl)), ?_⟩
      go_simp <;> (try with_reducible rfl)
    refine Rely.Chain.call (fun _ v w => CI w v (A * B) 20) (fun _ _ _ _ h hb => h.below hb) (by rfl) (fun T xs wr hA => ?_) ?_
    · have hbw := undrew hA.bw
      have e37 := hA.tm 19 37 (by rfl) (by rfl)
      have f37 : xs 19 = _ := hA.fa 19 (by rfl)
      (try simp (disch := rfl) only [Rely.mask_in] at f37)
      rw [f37] at e37
      clear f37
      have e38 := hA.tm 20 38 (by rfl) (by rfl)
      have f38 : xs 20 = _ := hA.fa 20 (by rfl)
      (try simp (disch := rfl) only [Rely.mask_in] at f38)
      rw [f38] at e38
      clear f38
      have e39 := hA.tm 21 39 (by rfl) (by rfl)
      have f39 : xs 21 = _ := hA.fa 21 (by rfl)
      (try simp (disch := rfl) only [Rely.mask_in] at f39)
      rw [f39] at e39
      clear f39
      have g0 := g0.below hbw
      have g1 := g1.below hbw
      clear hA
      refine ⟨((Rely.wanted_at rfl (by rfl) e37).trans (by rfl)), fun K hK => ?_⟩
      clear e37
      go_simp
      refine (wmul_any _ _ A B 10 10 _ g0 g1 (by omega) (by omega)).mono ?_
      rintro e wq ⟨v, rfl, c, hb⟩
      exact hK.out _ _ c hb
    refine Rely.Chain.det ?_ (by rfl) (fun T xs wr hA => ?_) ?_
    rotate_left 1
    · obtain ⟨x00, x01, x10, x11, y10, y11, y20, y21⟩ := HSx.out wr hA.bw
      have e37 := hA.tm 19 37 (by rfl) (by rfl)
      have f37 : xs 19 = _ := hA.fa 19 (by rfl)
      (try simp (disch := rfl) only [Rely.mask_in] at f37)
      rw [f37] at e37
      clear f37
      have e5 := hA.pre 5 (by kernel_rfl)
      simp only [List.getElem?_toArray, List.getElem?_cons_succ, List.getElem?_cons_zero] at e5
      clear hA
      refine ⟨((Rely.wanted_at rfl (by rfl) e37).trans (by rfl)), ?_⟩
      go_simp <;> (try with_reducible rfl)
    refine Rely.Chain.det ?_ (by rfl) (fun T xs wr hA => ?_) ?_
    rotate_left 1
    · obtain ⟨x00, x01, x10, x11, y10, y11, y20, y21⟩ := HSx.out wr hA.bw
      have e37 := hA.tm 19 37 (by rfl) (by rfl)
      have f37 : xs 19 = _ := hA.fa 19 (by rfl)
      (try simp (disch := rfl) only [Rely.mask_in] at f37)
      rw [f37] at e37
      clear f37
      have e6 := hA.pre 6 (by kernel_rfl)
      simp only [List.getElem?_toArray, List.getElem?_cons_succ, List.getElem?_cons_zero] at e6
      clear hA
      refine ⟨((Rely.wanted_at rfl (by rfl) e37).trans (by rfl)), ?_⟩
      go_simp <;> (try with_reducible rfl)
    refine Rely.Chain.call (fun _ v w => RI w v (A * B)) (fun _ _ _ _ h hb => h.below hb) (by rfl) (fun T xs wr hA => ?_) ?_
    · have hbw := undrew hA.bw
      have e37 := hA.tm 19 37 (by rfl) (by rfl)
      have f37 : xs 19 = _ := hA.fa 19 (by rfl)
      (try simp (disch := rfl) only [Rely.mask_in] at f37)
      rw [f37] at e37
      clear f37
      have e41 := hA.tm 23 41 (by rfl) (by rfl)
      have f41 : xs 23 = _ := hA.fa 23 (by rfl)
      (try simp (disch := rfl) only [Rely.mask_in] at f41)
      rw [f41] at e41
      clear f41
      have e42 := hA.tm 24 42 (by rfl) (by rfl)
      have f42 : xs 24 = _ := hA.fa 24 (by rfl)
      (try simp (disch := rfl) only [Rely.mask_in] at f42)
      rw [f42] at e42
      clear f42
      have c_y1 := c_y1.below hbw
      have c_y2 := c_y2.below hbw
      clear hA
      refine ⟨((Rely.wanted_at rfl (by rfl) e37).trans (by rfl)), fun K hK => ?_⟩
      clear e37
      go_simp
      refine (rzmul_any _ _ A B _ c_y1 c_y2 ha hb).mono ?_
      rintro e wq ⟨v, rfl, c, hb⟩
      exact hK.out _ _ c hb
    refine Rely.Chain.call (fun _ v _ => v = .bool true) (fun _ _ _ _ h _ => h) (by rfl) (fun T xs wr hA => ?_) ?_
    · have hbw := undrew hA.bw
      have e37 := hA.tm 19 37 (by rfl) (by rfl)
      have f37 : xs 19 = _ := hA.fa 19 (by rfl)
      (try simp (disch := rfl) only [Rely.mask_in] at f37)
      rw [f37] at e37
      clear f37
      have e40 := hA.tm 22 40 (by rfl) (by rfl)
      have e43 := hA.tm 25 43 (by rfl) (by rfl)
      have c_a3 : CI wr (xs 22) (A * B) 20 := hA.fa 22 (by rfl)
      have c_ra3 : RI wr (xs 25) (A * B) := hA.fa 25 (by rfl)
      clear hA
      refine ⟨((Rely.wanted_at rfl (by rfl) e37).trans (by rfl)), fun K hK => ?_⟩
      clear e37
      go_simp
      refine (lis_true _ _ (A * B) 20 _ c_a3 c_ra3 (by omega)).mono ?_
      rintro e wq ⟨rfl, hb⟩
      exact hK.out _ _ rfl hb
    refine Rely.Chain.det ?_ (by rfl) (fun T xs wr hA => ?_) ?_
    rotate_left 1
    · have e37 := hA.tm 19 37 (by rfl) (by rfl)
      have f37 : xs 19 = _ := hA.fa 19 (by rfl)
      (try simp (disch := rfl) only [Rely.mask_in] at f37)
      rw [f37] at e37
      clear f37
      have e44 := hA.tm 26 44 (by rfl) (by rfl)
      have f44 : xs 26 = (.bool true) := hA.fa 26 (by rfl)
      rw [f44] at e44
      clear f44
      clear hA
      refine ⟨((Rely.wanted_at rfl (by rfl) e37).trans (by rfl)), ?_⟩
      go_simp <;> (try with_reducible rfl)
    refine Rely.Chain.det ?_ (by rfl) (fun T xs wr hA => ?_) ?_
    rotate_left 1
    · have e37 := hA.tm 19 37 (by rfl) (by rfl)
      have f37 : xs 19 = _ := hA.fa 19 (by rfl)
      (try simp (disch := rfl) only [Rely.mask_in] at f37)
      rw [f37] at e37
      clear f37
      have e45 := hA.tm 27 45 (by rfl) (by rfl)
      have f45 : xs 27 = _ := hA.fa 27 (by rfl)
      (try simp (disch := rfl) only [Rely.mask_in] at f45)
      rw [f45] at e45
      clear f45
      clear hA
      refine ⟨(by rfl), ?_⟩
      go_simp <;> (try with_reducible rfl)
    refine Rely.Chain.done (fun xs wx6 hL => ?_)
    obtain ⟨hbx', hf, hp, hn⟩ := hL
    have f0 : xs 0 = _ := hf 0 (by decide)
    (try simp (disch := rfl) only [Rely.mask_in] at f0)
    have f1 : xs 1 = _ := hf 1 (by decide)
    (try simp (disch := rfl) only [Rely.mask_in] at f1)
    have c_a1 : CI wx6 (xs 2) (A + B) 21 := hf 2 (by decide)
    have f3 : xs 3 = _ := hf 3 (by decide)
    (try simp (disch := rfl) only [Rely.mask_in] at f3)
    have f4 : xs 4 = _ := hf 4 (by decide)
    (try simp (disch := rfl) only [Rely.mask_in] at f4)
    have c_ra1 : RI wx6 (xs 5) (A + B) := hf 5 (by decide)
    have f6 : xs 6 = (.bool true) := hf 6 (by decide)
    (try simp (disch := rfl) only [Rely.mask_in] at f6)
    have f7 : xs 7 = _ := hf 7 (by decide)
    (try simp (disch := rfl) only [Rely.mask_in] at f7)
    have f8 : xs 8 = _ := hf 8 (by decide)
    (try simp (disch := rfl) only [Rely.mask_in] at f8)
    have f9 : xs 9 = _ := hf 9 (by decide)
    (try simp (disch := rfl) only [Rely.mask_in] at f9)
    have f10 : xs 10 = _ := hf 10 (by decide)
    (try simp (disch := rfl) only [Rely.mask_in] at f10)
    have c_a2 : CI wx6 (xs 11) (A - B) 21 := hf 11 (by decide)
    have f12 : xs 12 = _ := hf 12 (by decide)
    (try simp (disch := rfl) only [Rely.mask_in] at f12)
    have f13 : xs 13 = _ := hf 13 (by decide)
    (try simp (disch := rfl) only [Rely.mask_in] at f13)
    have c_rn : RI wx6 (xs 14) (-B) := hf 14 (by decide)
    have c_ra2 : RI wx6 (xs 15) (A + -B) := hf 15 (by decide)
    have f16 : xs 16 = (.bool true) := hf 16 (by decide)
    (try simp (disch := rfl) only [Rely.mask_in] at f16)
    have f17 : xs 17 = _ := hf 17 (by decide)
    (try simp (disch := rfl) only [Rely.mask_in] at f17)
    have f18 : xs 18 = _ := hf 18 (by decide)
    (try simp (disch := rfl) only [Rely.mask_in] at f18)
    have f19 : xs 19 = _ := hf 19 (by decide)
    (try simp (disch := rfl) only [Rely.mask_in] at f19)
    have f20 : xs 20 = _ := hf 20 (by decide)
    (try simp (disch := rfl) only [Rely.mask_in] at f20)
    have f21 : xs 21 = _ := hf 21 (by decide)
    (try simp (disch := rfl) only [Rely.mask_in] at f21)
    have c_a3 : CI wx6 (xs 22) (A * B) 20 := hf 22 (by decide)
    have f23 : xs 23 = _ := hf 23 (by decide)
    (try simp (disch := rfl) only [Rely.mask_in] at f23)
    have f24 : xs 24 = _ := hf 24 (by decide)
    (try simp (disch := rfl) only [Rely.mask_in] at f24)
    have c_ra3 : RI wx6 (xs 25) (A * B) := hf 25 (by decide)
    have f26 : xs 26 = (.bool true) := hf 26 (by decide)
    (try simp (disch := rfl) only [Rely.mask_in] at f26)
    have f27 : xs 27 = _ := hf 27 (by decide)
    (try simp (disch := rfl) only [Rely.mask_in] at f27)
    have f28 : xs 28 = _ := hf 28 (by decide)
    (try simp (disch := rfl) only [Rely.mask_in] at f28)
    clear hf hp hn
    refine Rely.rest_done ?_
    simp only [Rely.fill, List.setIfInBounds_toArray, List.set_cons_zero, List.set_cons_succ, f0, f1, f3, f4, f6, f7, f8, f9, f10, f12, f13, f16, f17, f18, f19, f20, f21, f23, f24, f26, f27, f28]
    clear f0 f1 f3 f4 f6 f7 f8 f9 f10 f12 f13 f16 f17 f18 f19 f20 f21 f23 f24 f26 f27 f28
    generalize xs 2 = v_a1 at c_a1 ⊢
    generalize xs 5 = v_ra1 at c_ra1 ⊢
    generalize xs 11 = v_a2 at c_a2 ⊢
    generalize xs 14 = v_rn at c_rn ⊢
    generalize xs 15 = v_ra2 at c_ra2 ⊢
    generalize xs 22 = v_a3 at c_a3 ⊢
    generalize xs 25 = v_ra3 at c_ra3 ⊢
    clear xs
    obtain ⟨b_a1, o_a1, l_a1, k_a1, rfl⟩ := c_a1.shape
    obtain ⟨b_ra1, o_ra1, l_ra1, k_ra1, n_ra1, rfl, -, -⟩ := c_ra1.shape
    obtain ⟨b_a2, o_a2, l_a2, k_a2, rfl⟩ := c_a2.shape
    obtain ⟨b_rn, o_rn, l_rn, k_rn, n_rn, rfl, -, -⟩ := c_rn.shape
    obtain ⟨b_ra2, o_ra2, l_ra2, k_ra2, n_ra2, rfl, -, -⟩ := c_ra2.shape
    obtain ⟨b_a3, o_a3, l_a3, k_a3, rfl⟩ := c_a3.shape
    obtain ⟨b_ra3, o_ra3, l_ra3, k_ra3, n_ra3, rfl, -, -⟩ := c_ra3.shape
    have hbx := undrew hbx'
    clear hbx'
    clear HSx
    replace g0 := g0.below hbx
    replace g1 := g1.below hbx
    replace c_y1 := c_y1.below hbx
    replace c_y2 := c_y2.below hbx
    replace hbt := hbt.trans (hbx.mono hbt.size)
    replace HB_x0 := Lib.hid ((hbx.block _ (lt_of_block HB_x0.out)).trans HB_x0.out)
    replace HB_x1 := Lib.hid ((hbx.block _ (lt_of_block HB_x1.out)).trans HB_x1.out)
    replace HB_y1 := Lib.hid ((hbx.block _ (lt_of_block HB_y1.out)).trans HB_y1.out)
    replace HB_y2 := Lib.hid ((hbx.block _ (lt_of_block HB_y2.out)).trans HB_y2.out)
    clear hbx
    replace x00 := (two_cells HB_x0.out).1
    replace x01 := (two_cells HB_x0.out).2.1
    replace x10 := (two_cells HB_x1.out).1
    replace x11 := (two_cells HB_x1.out).2.1
    replace y10 := (two_cells HB_y1.out).1
    replace y11 := (two_cells HB_y1.out).2.1
    replace y20 := (two_cells HB_y2.out).1
    replace y21 := (two_cells HB_y2.out).2.1
    go_wp2_with fail
    have HSx := Lib.hid (show ∀ w', Below wx6.drew.heap.size wx6.drew w' → w'.cell? ⟨w.heap.size, 0, none⟩ = some (.bool b0) ∧ w'.cell? ⟨w.heap.size, 1, none⟩ = some (.slice o0 n0 m0) ∧ w'.cell? ⟨w.heap.size + 1, 0, none⟩ = some (.bool b1) ∧ w'.cell? ⟨w.heap.size + 1, 1, none⟩ = some (.slice o1 n1 m1) ∧ w'.cell? ⟨g_y1, 0, none⟩ = some (.bool b_y1) ∧ w'.cell? ⟨g_y1, 1, none⟩ = some (.slice o_y1 l_y1 k_y1) ∧ w'.cell? ⟨g_y2, 0, none⟩ = some (.bool b_y2) ∧ w'.cell? ⟨g_y2, 1, none⟩ = some (.slice o_y2 l_y2 k_y2) from fun w' hb => ⟨(hb.cell (lt_of_block HB_x0.out)).trans x00, (hb.cell (lt_of_block HB_x0.out)).trans x01, (hb.cell (lt_of_block HB_x1.out)).trans x10, (hb.cell (lt_of_block HB_x1.out)).trans x11, (hb.cell (lt_of_block HB_y1.out)).trans y10, (hb.cell (lt_of_block HB_y1.out)).trans y11, (hb.cell (lt_of_block HB_y2.out)).trans y20, (hb.cell (lt_of_block HB_y2.out)).trans y21⟩)
    refine Rely.region (by kernel_rfl) [[], [], [0, 1], [], [], [0, 1, 2, 3, 4], [0, 1, 2, 3, 4, 5], [0, 1, 2, 3, 4, 5, 6], [0, 1, 2, 3, 4, 5, 6, 7], [0, 1, 2, 3, 4, 5, 6, 7, 8], [0, 1, 2, 3, 4, 5, 6, 7], [0, 1, 2, 3, 4, 5, 6, 7, 8, 9, 10], [0, 1, 2, 3, 4, 5, 6, 7, 8, 9, 10, 11], [0, 1, 2, 3, 4, 5, 6, 7, 8, 9, 10, 11, 12], [0, 1, 2, 3, 4, 5, 6, 7, 8, 9, 10, 11, 12, 13], [0, 1, 2, 3, 4, 5, 6, 7, 8, 9, 10, 11, 12, 13, 14], [0, 1, 2, 3, 4, 5, 6, 7, 8, 9, 10, 11, 12, 13, 14, 15], [0, 1, 2, 3, 4, 5, 6, 7, 8, 9, 10, 11, 12, 13, 14], [0, 1, 2, 3, 4, 5, 6, 7, 8, 9, 10, 11, 12, 13, 14], [0, 1, 2, 3, 4, 5, 6, 7, 8, 9, 10, 11, 12, 13, 14, 15, 16, 17, 18], [0, 1, 2, 3, 4, 5, 6, 7, 8, 9, 10, 11, 12, 13, 14, 15, 16, 17, 18, 19], [0, 1, 2, 3, 4, 5, 6, 7, 8, 9, 10, 11, 12, 13, 14, 15, 16, 17, 18, 19, 20], [0, 1, 2, 3, 4, 5, 6, 7, 8, 9, 10, 11, 12, 13, 14, 15, 16, 17, 18, 19, 20, 21]] [] 23 (by kernel_rfl) ?_
    refine Rely.Chain.det ?_ (by rfl) (fun T xs wr hA => ?_) ?_
    rotate_left 1
    · obtain ⟨x00, x01, x10, x11, y10, y11, y20, y21⟩ := HSx.out wr hA.bw
      have e2 := hA.pre 2 (by kernel_rfl)
      simp only [List.getElem?_toArray, List.getElem?_cons_succ, List.getElem?_cons_zero] at e2
      clear hA
      refine ⟨(by rfl), ?_⟩
      go_simp <;> (try with_reducible rfl)
    refine Rely.Chain.det ?_ (by rfl) (fun T xs wr hA => ?_) ?_
    rotate_left 1
    · obtain ⟨x00, x01, x10, x11, y10, y11, y20, y21⟩ := HSx.out wr hA.bw
      have e3 := hA.pre 3 (by kernel_rfl)
      simp only [List.getElem?_toArray, List.getElem?_cons_succ, List.getElem?_cons_zero] at e3
      clear hA
      refine ⟨(by rfl), ?_⟩
      go_simp <;> (try with_reducible rfl)
    refine Rely.Chain.call (fun _ v _ => v = .int .i64 (sgnZ (A - B))) (fun _ _ _ _ h _ => h) (by rfl) (fun T xs wr hA => ?_) ?_
    · have hbw := undrew hA.bw
      have e47 := hA.tm 0 47 (by rfl) (by rfl)
      have f47 : xs 0 = _ := hA.fa 0 (by rfl)
      (try simp (disch := rfl) only [Rely.mask_in] at f47)
      rw [f47] at e47
      clear f47
      have e48 := hA.tm 1 48 (by rfl) (by rfl)
      have f48 : xs 1 = _ := hA.fa 1 (by rfl)
      (try simp (disch := rfl) only [Rely.mask_in] at f48)
      rw [f48] at e48
      clear f48
      have g0 := g0.below hbw
      have g1 := g1.below hbw
      clear hA
      refine ⟨(by rfl), fun K hK => ?_⟩
      go_simp
      refine (wcmp_any _ _ A B 10 10 _ g0 g1 (by omega) (by omega)).mono ?_
      rintro e wq ⟨rfl, hb⟩
      exact hK.out _ _ rfl hb
    refine Rely.Chain.det ?_ (by rfl) (fun T xs wr hA => ?_) ?_
    rotate_left 1
    · obtain ⟨x00, x01, x10, x11, y10, y11, y20, y21⟩ := HSx.out wr hA.bw
      have e5 := hA.pre 5 (by kernel_rfl)
      simp only [List.getElem?_toArray, List.getElem?_cons_succ, List.getElem?_cons_zero] at e5
      clear hA
      refine ⟨(by rfl), ?_⟩
      go_simp <;> (try with_reducible rfl)
    refine Rely.Chain.det ?_ (by rfl) (fun T xs wr hA => ?_) ?_
    rotate_left 1
    · obtain ⟨x00, x01, x10, x11, y10, y11, y20, y21⟩ := HSx.out wr hA.bw
      have e6 := hA.pre 6 (by kernel_rfl)
      simp only [List.getElem?_toArray, List.getElem?_cons_succ, List.getElem?_cons_zero] at e6
      clear hA
      refine ⟨(by rfl), ?_⟩
      go_simp <;> (try with_reducible rfl)
    refine Rely.Chain.call (fun _ v _ => v = .int .i64 (sgnZ (A - B))) (fun _ _ _ _ h _ => h) (by rfl) (fun T xs wr hA => ?_) ?_
    · have hbw := undrew hA.bw
      have e50 := hA.tm 3 50 (by rfl) (by rfl)
      have f50 : xs 3 = _ := hA.fa 3 (by rfl)
      (try simp (disch := rfl) only [Rely.mask_in] at f50)
      rw [f50] at e50
      clear f50
      have e51 := hA.tm 4 51 (by rfl) (by rfl)
      have f51 : xs 4 = _ := hA.fa 4 (by rfl)
      (try simp (disch := rfl) only [Rely.mask_in] at f51)
      rw [f51] at e51
      clear f51
      have c_y1 := c_y1.below hbw
      have c_y2 := c_y2.below hbw
      clear hA
      refine ⟨(by rfl), fun K hK => ?_⟩
      go_simp
      refine (rzcmp_any _ _ A B _ c_y1 c_y2 ha' hb').mono ?_
      rintro e wq ⟨rfl, hb⟩
      exact hK.out _ _ rfl hb
    refine Rely.Chain.det ?_ (by rfl) (fun T xs wr hA => ?_) ?_
    rotate_left 1
    · have e49 := hA.tm 2 49 (by rfl) (by rfl)
      have f49 : xs 2 = (.int .i64 (sgnZ (A - B))) := hA.fa 2 (by rfl)
      rw [f49] at e49
      clear f49
      have e52 := hA.tm 5 52 (by rfl) (by rfl)
      have f52 : xs 5 = (.int .i64 (sgnZ (A - B))) := hA.fa 5 (by rfl)
      rw [f52] at e52
      clear f52
      clear hA
      refine ⟨(by rfl), ?_⟩
      go_simp <;> (try with_reducible rfl)
    refine Rely.Chain.det ?_ (by rfl) (fun T xs wr hA => ?_) ?_
    rotate_left 1
    · have e53 := hA.tm 6 53 (by rfl) (by rfl)
      have f53 : xs 6 = _ := hA.fa 6 (by rfl)
      (try simp (disch := rfl) only [Rely.mask_in] at f53)
      rw [f53] at e53
      clear f53
      clear hA
      refine ⟨(by rfl), ?_⟩
      go_simp <;> (try with_reducible rfl)
    refine Rely.Chain.det ?_ (by rfl) (fun T xs wr hA => ?_) ?_
    rotate_left 1
    · obtain ⟨x00, x01, x10, x11, y10, y11, y20, y21⟩ := HSx.out wr hA.bw
      have e54 := hA.tm 7 54 (by rfl) (by rfl)
      have f54 : xs 7 = _ := hA.fa 7 (by rfl)
      (try simp (disch := rfl) only [Rely.mask_in] at f54)
      rw [f54] at e54
      clear f54
      have e2 := hA.pre 2 (by kernel_rfl)
      simp only [List.getElem?_toArray, List.getElem?_cons_succ, List.getElem?_cons_zero] at e2
      clear hA
      refine ⟨((Rely.wanted_at rfl (by rfl) e54).trans (by rfl)), ?_⟩
      go_simp <;> (try with_reducible rfl)
    refine Rely.Chain.call (fun _ v w => CI w v (-A) 10) (fun _ _ _ _ h hb => h.below hb) (by rfl) (fun T xs wr hA => ?_) ?_
    · have hbw := undrew hA.bw
      have e54 := hA.tm 7 54 (by rfl) (by rfl)
      have f54 : xs 7 = _ := hA.fa 7 (by rfl)
      (try simp (disch := rfl) only [Rely.mask_in] at f54)
      rw [f54] at e54
      clear f54
      have e55 := hA.tm 8 55 (by rfl) (by rfl)
      have f55 : xs 8 = _ := hA.fa 8 (by rfl)
      (try simp (disch := rfl) only [Rely.mask_in] at f55)
      rw [f55] at e55
      clear f55
      have g0 := g0.below hbw
      clear hA
      refine ⟨((Rely.wanted_at rfl (by rfl) e54).trans (by rfl)), fun K hK => ?_⟩
      clear e54
      go_simp
      refine (wneg_any _ A 10 _ g0 (by omega)).mono ?_
      rintro e wq ⟨v, rfl, c, hb⟩
      exact hK.out _ _ c hb
    refine Rely.Chain.det ?_ (by rfl) (fun T xs wr hA => ?_) ?_
    rotate_left 1
    · obtain ⟨x00, x01, x10, x11, y10, y11, y20, y21⟩ := HSx.out wr hA.bw
      have e54 := hA.tm 7 54 (by rfl) (by rfl)
      have f54 : xs 7 = _ := hA.fa 7 (by rfl)
      (try simp (disch := rfl) only [Rely.mask_in] at f54)
      rw [f54] at e54
      clear f54
      have e5 := hA.pre 5 (by kernel_rfl)
      simp only [List.getElem?_toArray, List.getElem?_cons_succ, List.getElem?_cons_zero] at e5
      clear hA
      refine ⟨((Rely.wanted_at rfl (by rfl) e54).trans (by rfl)), ?_⟩
      go_simp <;> (try with_reducible rfl)
    refine Rely.Chain.call (fun _ v w => RI w v (-A)) (fun _ _ _ _ h hb => h.below hb) (by rfl) (fun T xs wr hA => ?_) ?_
    · have hbw := undrew hA.bw
      have e54 := hA.tm 7 54 (by rfl) (by rfl)
      have f54 : xs 7 = _ := hA.fa 7 (by rfl)
      (try simp (disch := rfl) only [Rely.mask_in] at f54)
      rw [f54] at e54
      clear f54
      have e57 := hA.tm 10 57 (by rfl) (by rfl)
      have f57 : xs 10 = _ := hA.fa 10 (by rfl)
      (try simp (disch := rfl) only [Rely.mask_in] at f57)
      rw [f57] at e57
      clear f57
      have c_y1 := c_y1.below hbw
      clear hA
      refine ⟨((Rely.wanted_at rfl (by rfl) e54).trans (by rfl)), fun K hK => ?_⟩
      clear e54
      go_simp
      refine (rzneg_any _ A _ c_y1).mono ?_
      rintro e wq ⟨v, rfl, c, hb⟩
      exact hK.out _ _ c hb
    refine Rely.Chain.call (fun _ v _ => v = .bool true) (fun _ _ _ _ h _ => h) (by rfl) (fun T xs wr hA => ?_) ?_
    · have hbw := undrew hA.bw
      have e54 := hA.tm 7 54 (by rfl) (by rfl)
      have f54 : xs 7 = _ := hA.fa 7 (by rfl)
      (try simp (disch := rfl) only [Rely.mask_in] at f54)
      rw [f54] at e54
      clear f54
      have e56 := hA.tm 9 56 (by rfl) (by rfl)
      have e58 := hA.tm 11 58 (by rfl) (by rfl)
      have c_na : CI wr (xs 9) (-A) 10 := hA.fa 9 (by rfl)
      have c_rna : RI wr (xs 11) (-A) := hA.fa 11 (by rfl)
      clear hA
      refine ⟨((Rely.wanted_at rfl (by rfl) e54).trans (by rfl)), fun K hK => ?_⟩
      clear e54
      go_simp
      refine (lis_true _ _ (-A) 10 _ c_na c_rna (by omega)).mono ?_
      rintro e wq ⟨rfl, hb⟩
      exact hK.out _ _ rfl hb
    refine Rely.Chain.det ?_ (by rfl) (fun T xs wr hA => ?_) ?_
    rotate_left 1
    · have e54 := hA.tm 7 54 (by rfl) (by rfl)
      have f54 : xs 7 = _ := hA.fa 7 (by rfl)
      (try simp (disch := rfl) only [Rely.mask_in] at f54)
      rw [f54] at e54
      clear f54
      have e59 := hA.tm 12 59 (by rfl) (by rfl)
      have f59 : xs 12 = (.bool true) := hA.fa 12 (by rfl)
      rw [f59] at e59
      clear f59
      clear hA
      refine ⟨(by rfl), ?_⟩
      go_simp <;> (try with_reducible rfl)
    refine Rely.Chain.det ?_ (by rfl) (fun T xs wr hA => ?_) ?_
    rotate_left 1
    · have e60 := hA.tm 13 60 (by rfl) (by rfl)
      have f60 : xs 13 = _ := hA.fa 13 (by rfl)
      (try simp (disch := rfl) only [Rely.mask_in] at f60)
      rw [f60] at e60
      clear f60
      clear hA
      refine ⟨(by rfl), ?_⟩
      go_simp <;> (try with_reducible rfl)
    refine Rely.Chain.det ?_ (by rfl) (fun T xs wr hA => ?_) ?_
    rotate_left 1
    · obtain ⟨x00, x01, x10, x11, y10, y11, y20, y21⟩ := HSx.out wr hA.bw
      have e61 := hA.tm 14 61 (by rfl) (by rfl)
      have f61 : xs 14 = _ := hA.fa 14 (by rfl)
      (try simp (disch := rfl) only [Rely.mask_in] at f61)
      rw [f61] at e61
      clear f61
      have e2 := hA.pre 2 (by kernel_rfl)
      simp only [List.getElem?_toArray, List.getElem?_cons_succ, List.getElem?_cons_zero] at e2
      clear hA
      refine ⟨((Rely.wanted_at rfl (by rfl) e61).trans (by rfl)), ?_⟩
      go_simp <;> (try with_reducible rfl)
    refine Rely.Chain.call (fun _ v _ => v = .int .i64 (sgnZ A)) (fun _ _ _ _ h _ => h) (by rfl) (fun T xs wr hA => ?_) ?_
    · have hbw := undrew hA.bw
      have e61 := hA.tm 14 61 (by rfl) (by rfl)
      have f61 : xs 14 = _ := hA.fa 14 (by rfl)
      (try simp (disch := rfl) only [Rely.mask_in] at f61)
      rw [f61] at e61
      clear f61
      have e62 := hA.tm 15 62 (by rfl) (by rfl)
      have f62 : xs 15 = _ := hA.fa 15 (by rfl)
      (try simp (disch := rfl) only [Rely.mask_in] at f62)
      rw [f62] at e62
      clear f62
      have g0 := g0.below hbw
      clear hA
      refine ⟨((Rely.wanted_at rfl (by rfl) e61).trans (by rfl)), fun K hK => ?_⟩
      clear e61
      go_simp
      refine (wsign_any _ A 10 _ g0 (by omega)).mono ?_
      rintro e wq ⟨rfl, hb⟩
      exact hK.out _ _ rfl hb
    refine Rely.Chain.det ?_ (by rfl) (fun T xs wr hA => ?_) ?_
    rotate_left 1
    · obtain ⟨x00, x01, x10, x11, y10, y11, y20, y21⟩ := HSx.out wr hA.bw
      have e61 := hA.tm 14 61 (by rfl) (by rfl)
      have f61 : xs 14 = _ := hA.fa 14 (by rfl)
      (try simp (disch := rfl) only [Rely.mask_in] at f61)
      rw [f61] at e61
      clear f61
      have e5 := hA.pre 5 (by kernel_rfl)
      simp only [List.getElem?_toArray, List.getElem?_cons_succ, List.getElem?_cons_zero] at e5
      clear hA
      refine ⟨((Rely.wanted_at rfl (by rfl) e61).trans (by rfl)), ?_⟩
      go_simp <;> (try with_reducible rfl)
    refine Rely.Chain.det ?_ (by rfl) (fun T xs wr hA => ?_) ?_
    rotate_left 1
    · have e61 := hA.tm 14 61 (by rfl) (by rfl)
      have f61 : xs 14 = _ := hA.fa 14 (by rfl)
      (try simp (disch := rfl) only [Rely.mask_in] at f61)
      rw [f61] at e61
      clear f61
      clear hA
      refine ⟨((Rely.wanted_at rfl (by rfl) e61).trans (by rfl)), ?_⟩
      go_simp <;> (try with_reducible rfl)
    refine Rely.Chain.call (fun _ v _ => v = .int .i64 (sgnZ A)) (fun _ _ _ _ h _ => h) (by rfl) (fun T xs wr hA => ?_) ?_
    · have hbw := undrew hA.bw
      have e61 := hA.tm 14 61 (by rfl) (by rfl)
      have f61 : xs 14 = _ := hA.fa 14 (by rfl)
      (try simp (disch := rfl) only [Rely.mask_in] at f61)
      rw [f61] at e61
      clear f61
      have e64 := hA.tm 17 64 (by rfl) (by rfl)
      have f64 : xs 17 = _ := hA.fa 17 (by rfl)
      (try simp (disch := rfl) only [Rely.mask_in] at f64)
      rw [f64] at e64
      clear f64
      have e65 := hA.tm 18 65 (by rfl) (by rfl)
      have f65 : xs 18 = _ := hA.fa 18 (by rfl)
      (try simp (disch := rfl) only [Rely.mask_in] at f65)
      rw [f65] at e65
      clear f65
      have c_y1 := c_y1.below hbw
      clear hA
      refine ⟨((Rely.wanted_at rfl (by rfl) e61).trans (by rfl)), fun K hK => ?_⟩
      clear e61
      go_simp
      refine (rzcmp_s _ _ A 0 (sgnZ A) _ c_y1 (ri_zero _) (by rw [HS0.out]) ha' h0b).mono ?_
      rintro e wq ⟨rfl, hb⟩
      exact hK.out _ _ rfl hb
    refine Rely.Chain.det ?_ (by rfl) (fun T xs wr hA => ?_) ?_
    rotate_left 1
    · have e61 := hA.tm 14 61 (by rfl) (by rfl)
      have f61 : xs 14 = _ := hA.fa 14 (by rfl)
      (try simp (disch := rfl) only [Rely.mask_in] at f61)
      rw [f61] at e61
      clear f61
      have e63 := hA.tm 16 63 (by rfl) (by rfl)
      have f63 : xs 16 = (.int .i64 (sgnZ A)) := hA.fa 16 (by rfl)
      rw [f63] at e63
      clear f63
      have e66 := hA.tm 19 66 (by rfl) (by rfl)
      have f66 : xs 19 = (.int .i64 (sgnZ A)) := hA.fa 19 (by rfl)
      rw [f66] at e66
      clear f66
      clear hA
      refine ⟨((Rely.wanted_at rfl (by rfl) e61).trans (by rfl)), ?_⟩
      go_simp <;> (try with_reducible rfl)
    refine Rely.Chain.det ?_ (by rfl) (fun T xs wr hA => ?_) ?_
    rotate_left 1
    · have e61 := hA.tm 14 61 (by rfl) (by rfl)
      have f61 : xs 14 = _ := hA.fa 14 (by rfl)
      (try simp (disch := rfl) only [Rely.mask_in] at f61)
      rw [f61] at e61
      clear f61
      have e67 := hA.tm 20 67 (by rfl) (by rfl)
      have f67 : xs 20 = _ := hA.fa 20 (by rfl)
      (try simp (disch := rfl) only [Rely.mask_in] at f67)
      rw [f67] at e67
      clear f67
      clear hA
      refine ⟨(by rfl), ?_⟩
      go_simp <;> (try with_reducible rfl)
    refine Rely.Chain.det ?_ (by rfl) (fun T xs wr hA => ?_) ?_
    rotate_left 1
    · have e68 := hA.tm 21 68 (by rfl) (by rfl)
      have f68 : xs 21 = _ := hA.fa 21 (by rfl)
      (try simp (disch := rfl) only [Rely.mask_in] at f68)
      rw [f68] at e68
      clear f68
      clear hA
      refine ⟨(by rfl), ?_⟩
      go_simp <;> (try with_reducible rfl)
    refine Rely.Chain.done (fun xs wx7 hL => ?_)
    obtain ⟨hbx', hf, hp, hn⟩ := hL
    have f0 : xs 0 = _ := hf 0 (by decide)
    (try simp (disch := rfl) only [Rely.mask_in] at f0)
    have f1 : xs 1 = _ := hf 1 (by decide)
    (try simp (disch := rfl) only [Rely.mask_in] at f1)
    have f2 : xs 2 = (.int .i64 (sgnZ (A - B))) := hf 2 (by decide)
    (try simp (disch := rfl) only [Rely.mask_in] at f2)
    have f3 : xs 3 = _ := hf 3 (by decide)
    (try simp (disch := rfl) only [Rely.mask_in] at f3)
    have f4 : xs 4 = _ := hf 4 (by decide)
    (try simp (disch := rfl) only [Rely.mask_in] at f4)
    have f5 : xs 5 = (.int .i64 (sgnZ (A - B))) := hf 5 (by decide)
    (try simp (disch := rfl) only [Rely.mask_in] at f5)
    have f6 : xs 6 = _ := hf 6 (by decide)
    (try simp (disch := rfl) only [Rely.mask_in] at f6)
    have f7 : xs 7 = _ := hf 7 (by decide)
    (try simp (disch := rfl) only [Rely.mask_in] at f7)
    have f8 : xs 8 = _ := hf 8 (by decide)
    (try simp (disch := rfl) only [Rely.mask_in] at f8)
    have c_na : CI wx7 (xs 9) (-A) 10 := hf 9 (by decide)
    have f10 : xs 10 = _ := hf 10 (by decide)
    (try simp (disch := rfl) only [Rely.mask_in] at f10)
    have c_rna : RI wx7 (xs 11) (-A) := hf 11 (by decide)
    have f12 : xs 12 = (.bool true) := hf 12 (by decide)
    (try simp (disch := rfl) only [Rely.mask_in] at f12)
    have f13 : xs 13 = _ := hf 13 (by decide)
    (try simp (disch := rfl) only [Rely.mask_in] at f13)
    have f14 : xs 14 = _ := hf 14 (by decide)
    (try simp (disch := rfl) only [Rely.mask_in] at f14)
    have f15 : xs 15 = _ := hf 15 (by decide)
    (try simp (disch := rfl) only [Rely.mask_in] at f15)
    have f16 : xs 16 = (.int .i64 (sgnZ A)) := hf 16 (by decide)
    (try simp (disch := rfl) only [Rely.mask_in] at f16)
    have f17 : xs 17 = _ := hf 17 (by decide)
    (try simp (disch := rfl) only [Rely.mask_in] at f17)
    have f18 : xs 18 = _ := hf 18 (by decide)
    (try simp (disch := rfl) only [Rely.mask_in] at f18)
    have f19 : xs 19 = (.int .i64 (sgnZ A)) := hf 19 (by decide)
    (try simp (disch := rfl) only [Rely.mask_in] at f19)
    have f20 : xs 20 = _ := hf 20 (by decide)
    (try simp (disch := rfl) only [Rely.mask_in] at f20)
    have f21 : xs 21 = _ := hf 21 (by decide)
    (try simp (disch := rfl) only [Rely.mask_in] at f21)
    have f22 : xs 22 = _ := hf 22 (by decide)
    (try simp (disch := rfl) only [Rely.mask_in] at f22)
    clear hf hp hn
    refine Rely.rest_done ?_
    simp only [Rely.fill, List.setIfInBounds_toArray, List.set_cons_zero, List.set_cons_succ, f0, f1, f2, f3, f4, f5, f6, f7, f8, f10, f12, f13, f14, f15, f16, f17, f18, f19, f20, f21, f22]
    clear f0 f1 f2 f3 f4 f5 f6 f7 f8 f10 f12 f13 f14 f15 f16 f17 f18 f19 f20 f21 f22
    generalize xs 9 = v_na at c_na ⊢
    generalize xs 11 = v_rna at c_rna ⊢
    clear xs
    obtain ⟨b_na, o_na, l_na, k_na, rfl⟩ := c_na.shape
    obtain ⟨b_rna, o_rna, l_rna, k_rna, n_rna, rfl, -, -⟩ := c_rna.shape
    have hbx := undrew hbx'
    clear hbx'
    clear HSx
    replace g0 := g0.below hbx
    replace g1 := g1.below hbx
    replace c_y1 := c_y1.below hbx
    replace c_y2 := c_y2.below hbx
    replace c_a1 := c_a1.below hbx
    replace c_ra1 := c_ra1.below hbx
    replace c_a2 := c_a2.below hbx
    replace c_rn := c_rn.below hbx
    replace c_ra2 := c_ra2.below hbx
    replace c_a3 := c_a3.below hbx
    replace c_ra3 := c_ra3.below hbx
    replace hbt := hbt.trans (hbx.mono hbt.size)
    replace HB_x0 := Lib.hid ((hbx.block _ (lt_of_block HB_x0.out)).trans HB_x0.out)
    replace HB_x1 := Lib.hid ((hbx.block _ (lt_of_block HB_x1.out)).trans HB_x1.out)
    replace HB_y1 := Lib.hid ((hbx.block _ (lt_of_block HB_y1.out)).trans HB_y1.out)
    replace HB_y2 := Lib.hid ((hbx.block _ (lt_of_block HB_y2.out)).trans HB_y2.out)
    clear hbx
    replace x00 := (two_cells HB_x0.out).1
    replace x01 := (two_cells HB_x0.out).2.1
    replace x10 := (two_cells HB_x1.out).1
    replace x11 := (two_cells HB_x1.out).2.1
    replace y10 := (two_cells HB_y1.out).1
    replace y11 := (two_cells HB_y1.out).2.1
    replace y20 := (two_cells HB_y2.out).1
    replace y21 := (two_cells HB_y2.out).2.1
    go_wp2_with fail
    go_ret
    exact ⟨rfl, hbt⟩
  · have HS := Lib.hid hs
    clear hs
    have hbt := below2 w (.cells #[.bool b0, .slice o0 n0 m0] 25) (.cells #[.bool b1, .slice o1 n1 m1] 25)
    clear a0
    clear a1
    have hbk := blocks2 (Below.refl (w.heap.size + 2) ((w.alloc (.cells #[.bool b0, .slice o0 n0 m0] 25)).alloc (.cells #[.bool b1, .slice o1 n1 m1] 25)))
    have HB_x0 := Lib.hid hbk.1
    have HB_x1 := Lib.hid hbk.2
    clear hbk
    have x00 := (two_cells HB_x0.out).1
    have x01 := (two_cells HB_x0.out).2.1
    have x10 := (two_cells HB_x1.out).1
    have x11 := (two_cells HB_x1.out).2.1
    go_enter Tryd.func3, Tryd.ntmps3
    go_wp2_with fail
    generalize ((w.alloc (.cells #[.bool b0, .slice o0 n0 m0] 25)).alloc (.cells #[.bool b1, .slice o1 n1 m1] 25)) = w0 at *
    refine (HF.out _ (tab_below HTB.out hbt)).mono ?_
    rintro e wx1 ⟨rfl, hbx⟩
    replace hbt := hbt.trans (hbx.mono hbt.size)
    replace HB_x0 := Lib.hid ((hbx.block _ (lt_of_block HB_x0.out)).trans HB_x0.out)
    replace HB_x1 := Lib.hid ((hbx.block _ (lt_of_block HB_x1.out)).trans HB_x1.out)
    clear hbx
    replace x00 := (two_cells HB_x0.out).1
    replace x01 := (two_cells HB_x0.out).2.1
    replace x10 := (two_cells HB_x1.out).1
    replace x11 := (two_cells HB_x1.out).2.1
    go_wp2_with fail
    refine (short_f2 10 _ rfl HS.out).mono ?_
    rintro e wx2 ⟨rfl, hbx⟩
    replace hbt := hbt.trans (hbx.mono hbt.size)
    replace HB_x0 := Lib.hid ((hbx.block _ (lt_of_block HB_x0.out)).trans HB_x0.out)
    replace HB_x1 := Lib.hid ((hbx.block _ (lt_of_block HB_x1.out)).trans HB_x1.out)
    clear hbx
    replace x00 := (two_cells HB_x0.out).1
    replace x01 := (two_cells HB_x0.out).2.1
    replace x10 := (two_cells HB_x1.out).1
    replace x11 := (two_cells HB_x1.out).2.1
    go_wp2_with fail
    go_ret
    exact ⟨rfl, hbt⟩
end Go.Proofs.YtbkeildnhimfbaaDoor
