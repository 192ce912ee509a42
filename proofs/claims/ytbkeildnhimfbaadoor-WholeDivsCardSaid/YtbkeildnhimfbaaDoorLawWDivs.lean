/-
  The walk of the law WholeDivs.
-/
import Derived.Test.YtbkeildnhimfbaaDoorWhoW
import Derived.Test.YtbkeildnhimfbaaDoorRely
namespace Go.Proofs.YtbkeildnhimfbaaDoor
open Go.RowKit
set_option maxRecDepth 100000

theorem ci_zero0 (w : World) : CI w (.agg #[.bool false, .slice none 0 0]) 0 1 :=
  ⟨_, rfl, by rw [Int.natAbs_zero, dig_zero]; exact Sl.nil _ _, by decide⟩
theorem CI.abs {w : World} {b : Bool} {s : Value} {z : Int} {k : Nat} (h : CI w (.agg #[.bool b, s]) z k) : GI w (.agg #[.bool false, s]) ((z.natAbs : Nat) : Int) k := by
  obtain ⟨va, e, h, h2⟩ := h
  simp only [Value.agg.injEq, Array.mk.injEq, List.cons.injEq, and_true] at e
  obtain ⟨-, rfl⟩ := e
  exact gi_mk (gn_dig h h2) false
theorem GI.abs {w : World} {b : Bool} {s : Value} {z : Int} {k : Nat} (h : GI w (.agg #[.bool b, s]) z k) : GI w (.agg #[.bool false, s]) ((z.natAbs : Nat) : Int) k := by
  obtain ⟨b', va, n, e, h, rfl⟩ := h
  simp only [Value.agg.injEq, Array.mk.injEq, List.cons.injEq, and_true] at e
  obtain ⟨-, rfl⟩ := e
  rw [sg_natAbs]; exact gi_mk h false
theorem heap_set1 {w : World} {g : Nat} {T : TypeId} {a b : Value} (h : w.heap[g]? = some (.cells #[a, b] T (0, 0))) (x : Value) :
    (w.setCell ⟨g, 0, none⟩ x).heap[g]? = some (.cells #[x, b] T (0, 0)) := by
  rw [heap_setCell_same w g 0 _ T x h]; rfl
theorem heap_far1 {w : World} {g a : Nat} {x : Value} (h : a ≠ g) : (w.setCell ⟨g, 0, none⟩ x).heap[a]? = w.heap[a]? := Below.heap_setCell _ _ _ _ (by simpa using h)
theorem keeps_set1 {w : World} {g : Nat} {T : TypeId} {b0 : Bool} {y : Value} (hB : w.heap[g]? = some (.cells #[.bool b0, y] T (0, 0))) (x : Value) : Keeps w (w.setCell ⟨g, 0, none⟩ x) :=
  (Keeps.refl w).set (two_cells hB).1 (by intro k z e; cases e) x
theorem div_facts {A B : Int} (h : B ≠ 0) : ∃ Q R : Int, Int.fdiv A B = Q ∧ Int.fmod A B = R ∧ sgnZ (Q * B + R - A) = 0 ∧ sgnZ (((R : Int).natAbs : Int) - ((B : Int).natAbs : Int)) = -1 ∧ (R = 0 ∨ (R ≠ 0 ∧ sgnZ R = sgnZ B)) := by
  have hsum := Int.mul_fdiv_add_fmod A B
  rw [Int.mul_comm] at hsum
  rcases Int.lt_or_gt_of_ne h with h0 | h0
  · have h1 := Int.fmod_nonneg_of_pos (-A) (b := -B) (by omega)
    have h2 := Int.fmod_lt_of_pos (-A) (b := -B) (by omega)
    rw [Int.neg_fmod_neg] at h1 h2
    refine ⟨_, _, rfl, rfl, ?_, ?_, ?_⟩
    · rw [hsum]; exact sgnZ_self A
    · unfold sgnZ; (repeat' split) <;> omega
    · by_cases hr : Int.fmod A B = 0
      · exact Or.inl hr
      · exact Or.inr ⟨hr, by unfold sgnZ; (repeat' split) <;> omega⟩
  · have h1 := Int.fmod_nonneg_of_pos A h0
    have h2 := Int.fmod_lt_of_pos A h0
    refine ⟨_, _, rfl, rfl, ?_, ?_, ?_⟩
    · rw [hsum]; exact sgnZ_self A
    · unfold sgnZ; (repeat' split) <;> omega
    · by_cases hr : Int.fmod A B = 0
      · exact Or.inl hr
      · exact Or.inr ⟨hr, by unfold sgnZ; (repeat' split) <;> omega⟩
theorem sgnZ_pm {B : Int} (h : B ≠ 0) : sgnZ B = 1 ∨ sgnZ B = -1 := by unfold sgnZ; (repeat' split) <;> omega

set_option maxHeartbeats 8000000 in
theorem wholeDivs_walk (b0 : Bool) (o0 : Option Addr) (n0 m0 : Nat) (xs0 : List Nat) (b1 : Bool) (o1 : Option Addr) (n1 m1 : Nat) (xs1 : List Nat) (w : World) (a0 : Arg w b0 o0 n0 m0 xs0) (a1 : Arg w b1 o1 n1 m1 xs1) (htab : Lib.TabIs Tryd.prog w "internal/strconv.uint64pow10" .u64 Lib.pow10Tab) :
    Calls Tryd.prog 4 #[.agg #[.bool b0, .slice o0 n0 m0], .agg #[.bool b1, .slice o1 n1 m1]] w fun e w' => e = .returned (.bool true) ∧ Below w.heap.size w w' := by
  have HF := Lib.hid wfitOk
  have HTB := Lib.hid htab
  clear htab
  by_cases hs : n0 ≤ 20 ∧ n1 ≤ 20
  · obtain ⟨l0, l1⟩ := hs
    obtain ⟨A, g0⟩ := a0.gi l0
    obtain ⟨B, g1⟩ := a1.gi l1
    clear a0 a1
    by_cases hB0 : B = 0
    · subst hB0
      have hbt := below2 w (.cells #[.bool b0, .slice o0 n0 m0] 25) (.cells #[.bool b1, .slice o1 n1 m1] 25)
      have hbk := blocks2 (Below.refl (w.heap.size + 2) ((w.alloc (.cells #[.bool b0, .slice o0 n0 m0] 25)).alloc (.cells #[.bool b1, .slice o1 n1 m1] 25)))
      have HB_x0 := Lib.hid hbk.1
      have HB_x1 := Lib.hid hbk.2
      clear hbk
      replace g0 := g0.below hbt
      have x00 := (two_cells HB_x0.out).1
      have x01 := (two_cells HB_x0.out).2.1
      replace g1 := g1.below hbt
      have x10 := (two_cells HB_x1.out).1
      have x11 := (two_cells HB_x1.out).2.1
      go_enter Tryd.func4, Tryd.ntmps4
      go_wp2_with fail
      generalize ((w.alloc (.cells #[.bool b0, .slice o0 n0 m0] 25)).alloc (.cells #[.bool b1, .slice o1 n1 m1] 25)) = w0 at *
      refine (HF.out _ (tab_below HTB.out hbt)).mono ?_
      rintro e wx1 ⟨rfl, hbx⟩
      replace g0 := g0.below hbx
      replace g1 := g1.below hbx
      replace hbt := hbt.trans (hbx.mono hbt.size)
      replace HB_x0 := Lib.hid ((hbx.block _ (lt_of_block HB_x0.out)).trans HB_x0.out)
      replace HB_x1 := Lib.hid ((hbx.block _ (lt_of_block HB_x1.out)).trans HB_x1.out)
      clear hbx
      replace x00 := (two_cells HB_x0.out).1
      replace x01 := (two_cells HB_x0.out).2.1
      replace x10 := (two_cells HB_x1.out).1
      replace x11 := (two_cells HB_x1.out).2.1
      go_wp2_with fail
      refine (short_t2 20 _ rfl l0 l1).mono ?_
      rintro e wx2 ⟨rfl, hbx⟩
      replace g0 := g0.below hbx
      replace g1 := g1.below hbx
      replace hbt := hbt.trans (hbx.mono hbt.size)
      replace HB_x0 := Lib.hid ((hbx.block _ (lt_of_block HB_x0.out)).trans HB_x0.out)
      replace HB_x1 := Lib.hid ((hbx.block _ (lt_of_block HB_x1.out)).trans HB_x1.out)
      clear hbx
      replace x00 := (two_cells HB_x0.out).1
      replace x01 := (two_cells HB_x0.out).2.1
      replace x10 := (two_cells HB_x1.out).1
      replace x11 := (two_cells HB_x1.out).2.1
      go_wp2_with fail
      refine (wdiv_zero _ _ A 20 20 _ g0 g1).mono ?_
      rintro e wx3 ⟨rfl, hbx⟩
      replace g0 := g0.below hbx
      replace g1 := g1.below hbx
      replace hbt := hbt.trans (hbx.mono hbt.size)
      replace HB_x0 := Lib.hid ((hbx.block _ (lt_of_block HB_x0.out)).trans HB_x0.out)
      replace HB_x1 := Lib.hid ((hbx.block _ (lt_of_block HB_x1.out)).trans HB_x1.out)
      clear hbx
      replace x00 := (two_cells HB_x0.out).1
      replace x01 := (two_cells HB_x0.out).2.1
      replace x10 := (two_cells HB_x1.out).1
      replace x11 := (two_cells HB_x1.out).2.1
      have hlt_x0 := lt_of_block HB_x0.out
      have hlu_x0 : w.heap.size < wx3.heap.size + 1 := Nat.lt_succ_of_lt hlt_x0
      have hlt_x1 := lt_of_block HB_x1.out
      have hlu_x1 : w.heap.size + 1 < wx3.heap.size + 1 := Nat.lt_succ_of_lt hlt_x1
      go_wp2_with fail
      clear hlt_x0 hlu_x0 hlt_x1 hlu_x1
      have hbx : Below wx3.heap.size wx3 ((wx3.alloc (.cells #[.bool false, .slice none 0 0] 25)).alloc (.cells #[.bool false, .slice none 0 0] 25)) := below2 wx3 (.cells #[.bool false, .slice none 0 0] 25) (.cells #[.bool false, .slice none 0 0] 25)
      replace g0 := g0.below hbx
      replace g1 := g1.below hbx
      replace hbt := hbt.trans (hbx.mono hbt.size)
      replace HB_x0 := Lib.hid ((hbx.block _ (lt_of_block HB_x0.out)).trans HB_x0.out)
      replace HB_x1 := Lib.hid ((hbx.block _ (lt_of_block HB_x1.out)).trans HB_x1.out)
      clear hbx
      replace x00 := (two_cells HB_x0.out).1
      replace x01 := (two_cells HB_x0.out).2.1
      replace x10 := (two_cells HB_x1.out).1
      replace x11 := (two_cells HB_x1.out).2.1
      have hbk := blocks2 (Below.refl (wx3.heap.size + 2) ((wx3.alloc (.cells #[.bool false, .slice none 0 0] 25)).alloc (.cells #[.bool false, .slice none 0 0] 25)))
      have HB_y1 := Lib.hid hbk.1
      have HB_y2 := Lib.hid hbk.2
      clear hbk
      have y10 := (two_cells HB_y1.out).1
      have y11 := (two_cells HB_y1.out).2.1
      have y20 := (two_cells HB_y2.out).1
      have y21 := (two_cells HB_y2.out).2.1
      generalize ((wx3.alloc (.cells #[.bool false, .slice none 0 0] 25)).alloc (.cells #[.bool false, .slice none 0 0] 25)) = wx4 at *
      refine (wsign_s _ 0 20 0 _ g1 rfl (by omega)).mono ?_
      rintro e wx5 ⟨rfl, hbx⟩
      replace g0 := g0.below hbx
      replace g1 := g1.below hbx
      replace hbt := hbt.trans (hbx.mono hbt.size)
      replace HB_x0 := Lib.hid ((hbx.block _ (lt_of_block HB_x0.out)).trans HB_x0.out)
      replace HB_x1 := Lib.hid ((hbx.block _ (lt_of_block HB_x1.out)).trans HB_x1.out)
      replace HB_y1 := Lib.hid ((hbx.block _ (lt_of_block HB_y1.out)).trans HB_y1.out)
      replace HB_y2 := Lib.hid ((hbx.block _ (lt_of_block HB_y2.out)).trans HB_y2.out)
      clear hbx
      replace x00 := (two_cells HB_x0.out).1
      replace x01 := (two_cells HB_x0.out).2.1
      replace x10 := (two_cells HB_x1.out).1
      replace x11 := (two_cells HB_x1.out).2.1
      replace y10 := (two_cells HB_y1.out).1
      replace y11 := (two_cells HB_y1.out).2.1
      replace y20 := (two_cells HB_y2.out).1
      replace y21 := (two_cells HB_y2.out).2.1
      go_wp2_with fail
      refine (same_true _ _ 0 1 1 _ (ci_zero0 _) (ci_zero0 _) (by omega) (by omega)).mono ?_
      rintro e wx6 ⟨rfl, hbx⟩
      replace g0 := g0.below hbx
      replace g1 := g1.below hbx
      replace hbt := hbt.trans (hbx.mono hbt.size)
      replace HB_x0 := Lib.hid ((hbx.block _ (lt_of_block HB_x0.out)).trans HB_x0.out)
      replace HB_x1 := Lib.hid ((hbx.block _ (lt_of_block HB_x1.out)).trans HB_x1.out)
      replace HB_y1 := Lib.hid ((hbx.block _ (lt_of_block HB_y1.out)).trans HB_y1.out)
      replace HB_y2 := Lib.hid ((hbx.block _ (lt_of_block HB_y2.out)).trans HB_y2.out)
      clear hbx
      replace x00 := (two_cells HB_x0.out).1
      replace x01 := (two_cells HB_x0.out).2.1
      replace x10 := (two_cells HB_x1.out).1
      replace x11 := (two_cells HB_x1.out).2.1
      replace y10 := (two_cells HB_y1.out).1
      replace y11 := (two_cells HB_y1.out).2.1
      replace y20 := (two_cells HB_y2.out).1
      replace y21 := (two_cells HB_y2.out).2.1
      go_wp2_with fail
      refine (same_true _ _ 0 1 1 _ (ci_zero0 _) (ci_zero0 _) (by omega) (by omega)).mono ?_
      rintro e wx7 ⟨rfl, hbx⟩
      replace g0 := g0.below hbx
      replace g1 := g1.below hbx
      replace hbt := hbt.trans (hbx.mono hbt.size)
      replace HB_x0 := Lib.hid ((hbx.block _ (lt_of_block HB_x0.out)).trans HB_x0.out)
      replace HB_x1 := Lib.hid ((hbx.block _ (lt_of_block HB_x1.out)).trans HB_x1.out)
      replace HB_y1 := Lib.hid ((hbx.block _ (lt_of_block HB_y1.out)).trans HB_y1.out)
      replace HB_y2 := Lib.hid ((hbx.block _ (lt_of_block HB_y2.out)).trans HB_y2.out)
      clear hbx
      replace x00 := (two_cells HB_x0.out).1
      replace x01 := (two_cells HB_x0.out).2.1
      replace x10 := (two_cells HB_x1.out).1
      replace x11 := (two_cells HB_x1.out).2.1
      replace y10 := (two_cells HB_y1.out).1
      replace y11 := (two_cells HB_y1.out).2.1
      replace y20 := (two_cells HB_y2.out).1
      replace y21 := (two_cells HB_y2.out).2.1
      go_wp2_with fail
      go_ret
      exact ⟨rfl, hbt⟩
    · obtain ⟨Q, R, hQ, hR, hsum, habs, hsr⟩ := div_facts (A := A) hB0
      have HB0 := Lib.hid hB0
      have HQ := Lib.hid hQ
      have HR := Lib.hid hR
      have HSUM := Lib.hid hsum
      have HABS := Lib.hid habs
      have HPM := Lib.hid (sgnZ_pm hB0)
      have HSR := Lib.hid hsr
      clear hB0 hQ hR hsum habs hsr
      rcases HPM.out with hsb | hsb
      all_goals
        have HSB := Lib.hid hsb
        clear hsb HPM
      · rcases HSR.out with hr | ⟨-, hr⟩
        · have HSGR : Hid (sgnZ R = 0) := Lib.hid (by rw [hr]; rfl)
          clear hr HSR
          have hbt := below2 w (.cells #[.bool b0, .slice o0 n0 m0] 25) (.cells #[.bool b1, .slice o1 n1 m1] 25)
          have hbk := blocks2 (Below.refl (w.heap.size + 2) ((w.alloc (.cells #[.bool b0, .slice o0 n0 m0] 25)).alloc (.cells #[.bool b1, .slice o1 n1 m1] 25)))
          have HB_x0 := Lib.hid hbk.1
          have HB_x1 := Lib.hid hbk.2
          clear hbk
          replace g0 := g0.below hbt
          have x00 := (two_cells HB_x0.out).1
          have x01 := (two_cells HB_x0.out).2.1
          replace g1 := g1.below hbt
          have x10 := (two_cells HB_x1.out).1
          have x11 := (two_cells HB_x1.out).2.1
          go_enter Tryd.func4, Tryd.ntmps4
          go_wp2_with fail
          generalize ((w.alloc (.cells #[.bool b0, .slice o0 n0 m0] 25)).alloc (.cells #[.bool b1, .slice o1 n1 m1] 25)) = w0 at *
          refine (HF.out _ (tab_below HTB.out hbt)).mono ?_
          rintro e wx1 ⟨rfl, hbx⟩
          replace g0 := g0.below hbx
          replace g1 := g1.below hbx
          replace hbt := hbt.trans (hbx.mono hbt.size)
          replace HB_x0 := Lib.hid ((hbx.block _ (lt_of_block HB_x0.out)).trans HB_x0.out)
          replace HB_x1 := Lib.hid ((hbx.block _ (lt_of_block HB_x1.out)).trans HB_x1.out)
          clear hbx
          replace x00 := (two_cells HB_x0.out).1
          replace x01 := (two_cells HB_x0.out).2.1
          replace x10 := (two_cells HB_x1.out).1
          replace x11 := (two_cells HB_x1.out).2.1
          go_wp2_with fail
          refine (short_t2 20 _ rfl l0 l1).mono ?_
          rintro e wx2 ⟨rfl, hbx⟩
          replace g0 := g0.below hbx
          replace g1 := g1.below hbx
          replace hbt := hbt.trans (hbx.mono hbt.size)
          replace HB_x0 := Lib.hid ((hbx.block _ (lt_of_block HB_x0.out)).trans HB_x0.out)
          replace HB_x1 := Lib.hid ((hbx.block _ (lt_of_block HB_x1.out)).trans HB_x1.out)
          clear hbx
          replace x00 := (two_cells HB_x0.out).1
          replace x01 := (two_cells HB_x0.out).2.1
          replace x10 := (two_cells HB_x1.out).1
          replace x11 := (two_cells HB_x1.out).2.1
          go_wp2_with fail
          refine (wdiv_any _ _ A B 20 20 _ g0 g1 (by omega) (by omega) HB0.out).mono ?_
          rintro e wx3 ⟨v_q, v_r, rfl, c_q, c_r, hbx⟩
          rw [HQ.out] at c_q
          rw [HR.out] at c_r
          replace g0 := g0.below hbx
          replace g1 := g1.below hbx
          replace hbt := hbt.trans (hbx.mono hbt.size)
          replace HB_x0 := Lib.hid ((hbx.block _ (lt_of_block HB_x0.out)).trans HB_x0.out)
          replace HB_x1 := Lib.hid ((hbx.block _ (lt_of_block HB_x1.out)).trans HB_x1.out)
          clear hbx
          replace x00 := (two_cells HB_x0.out).1
          replace x01 := (two_cells HB_x0.out).2.1
          replace x10 := (two_cells HB_x1.out).1
          replace x11 := (two_cells HB_x1.out).2.1
          obtain ⟨b_q, o_q, l_q, k_q, rfl⟩ := c_q.shape
          obtain ⟨b_r, o_r, l_r, k_r, rfl⟩ := c_r.shape
          have hlt_x0 := lt_of_block HB_x0.out
          have hlu_x0 : w.heap.size < wx3.heap.size + 1 := Nat.lt_succ_of_lt hlt_x0
          have hlt_x1 := lt_of_block HB_x1.out
          have hlu_x1 : w.heap.size + 1 < wx3.heap.size + 1 := Nat.lt_succ_of_lt hlt_x1
          go_wp2_with fail
          clear hlt_x0 hlu_x0 hlt_x1 hlu_x1
          have hbx : Below wx3.heap.size wx3 ((wx3.alloc (.cells #[.bool b_q, .slice o_q l_q k_q] 25)).alloc (.cells #[.bool b_r, .slice o_r l_r k_r] 25)) := below2 wx3 (.cells #[.bool b_q, .slice o_q l_q k_q] 25) (.cells #[.bool b_r, .slice o_r l_r k_r] 25)
          replace g0 := g0.below hbx
          replace g1 := g1.below hbx
          replace c_q := c_q.below hbx
          replace c_r := c_r.below hbx
          replace hbt := hbt.trans (hbx.mono hbt.size)
          replace HB_x0 := Lib.hid ((hbx.block _ (lt_of_block HB_x0.out)).trans HB_x0.out)
          replace HB_x1 := Lib.hid ((hbx.block _ (lt_of_block HB_x1.out)).trans HB_x1.out)
          clear hbx
          replace x00 := (two_cells HB_x0.out).1
          replace x01 := (two_cells HB_x0.out).2.1
          replace x10 := (two_cells HB_x1.out).1
          replace x11 := (two_cells HB_x1.out).2.1
          have hbk := blocks2 (Below.refl (wx3.heap.size + 2) ((wx3.alloc (.cells #[.bool b_q, .slice o_q l_q k_q] 25)).alloc (.cells #[.bool b_r, .slice o_r l_r k_r] 25)))
          have HB_y1 := Lib.hid hbk.1
          have HB_y2 := Lib.hid hbk.2
          clear hbk
          have y10 := (two_cells HB_y1.out).1
          have y11 := (two_cells HB_y1.out).2.1
          have y20 := (two_cells HB_y2.out).1
          have y21 := (two_cells HB_y2.out).2.1
          generalize ((wx3.alloc (.cells #[.bool b_q, .slice o_q l_q k_q] 25)).alloc (.cells #[.bool b_r, .slice o_r l_r k_r] 25)) = wx4 at *
          refine (wsign_s _ B 20 1 _ g1 HSB.out (by omega)).mono ?_
          rintro e wx5 ⟨rfl, hbx⟩
          replace g0 := g0.below hbx
          replace g1 := g1.below hbx
          replace c_q := c_q.below hbx
          replace c_r := c_r.below hbx
          replace hbt := hbt.trans (hbx.mono hbt.size)
          replace HB_x0 := Lib.hid ((hbx.block _ (lt_of_block HB_x0.out)).trans HB_x0.out)
          replace HB_x1 := Lib.hid ((hbx.block _ (lt_of_block HB_x1.out)).trans HB_x1.out)
          replace HB_y1 := Lib.hid ((hbx.block _ (lt_of_block HB_y1.out)).trans HB_y1.out)
          replace HB_y2 := Lib.hid ((hbx.block _ (lt_of_block HB_y2.out)).trans HB_y2.out)
          clear hbx
          replace x00 := (two_cells HB_x0.out).1
          replace x01 := (two_cells HB_x0.out).2.1
          replace x10 := (two_cells HB_x1.out).1
          replace x11 := (two_cells HB_x1.out).2.1
          replace y10 := (two_cells HB_y1.out).1
          replace y11 := (two_cells HB_y1.out).2.1
          replace y20 := (two_cells HB_y2.out).1
          replace y21 := (two_cells HB_y2.out).2.1
          go_wp2_with fail
          have HSx := Lib.hid (show ∀ w', Below wx5.drew.heap.size wx5.drew w' → w'.cell? ⟨w.heap.size, 0, none⟩ = some (.bool b0) ∧ w'.cell? ⟨w.heap.size, 1, none⟩ = some (.slice o0 n0 m0) ∧ w'.cell? ⟨w.heap.size + 1, 0, none⟩ = some (.bool b1) ∧ w'.cell? ⟨w.heap.size + 1, 1, none⟩ = some (.slice o1 n1 m1) ∧ w'.cell? ⟨wx3.heap.size, 0, none⟩ = some (.bool b_q) ∧ w'.cell? ⟨wx3.heap.size, 1, none⟩ = some (.slice o_q l_q k_q) ∧ w'.cell? ⟨wx3.heap.size + 1, 0, none⟩ = some (.bool b_r) ∧ w'.cell? ⟨wx3.heap.size + 1, 1, none⟩ = some (.slice o_r l_r k_r) from fun w' hb => ⟨(hb.cell (lt_of_block HB_x0.out)).trans x00, (hb.cell (lt_of_block HB_x0.out)).trans x01, (hb.cell (lt_of_block HB_x1.out)).trans x10, (hb.cell (lt_of_block HB_x1.out)).trans x11, (hb.cell (lt_of_block HB_y1.out)).trans y10, (hb.cell (lt_of_block HB_y1.out)).trans y11, (hb.cell (lt_of_block HB_y2.out)).trans y20, (hb.cell (lt_of_block HB_y2.out)).trans y21⟩)
          refine Rely.region (by kernel_rfl) [[], [0], [0, 1], [0, 1, 2], [0, 1, 2], [0, 1, 2, 3, 4], [0, 1, 2], [0, 1, 2, 3, 4, 5, 6], [0, 1, 2], [0, 1, 2, 3, 4, 5, 6, 7, 8], [0, 1, 2, 3, 4, 5, 6, 7, 8, 9], [0, 1, 2, 3, 4, 5, 6, 7, 8, 9, 10], [0, 1, 2, 3, 4, 5, 6, 7, 8, 9, 10, 11], [0, 1, 2, 3, 4, 5, 6, 7, 8, 9, 10, 11, 12], [0, 1, 2, 3, 4, 5, 6, 7, 8, 9, 10, 11, 12, 13], [0, 1, 2, 3, 4, 5, 6, 7, 8, 9, 10, 11, 12, 13, 14], [0, 1, 2, 3, 4, 5, 6, 7, 8, 9, 10, 11, 12, 13, 14, 15], [0, 1, 2, 3, 4, 5, 6, 7, 8, 9, 10, 11, 12, 13, 14, 15, 16], [0, 1, 2, 3, 4, 5, 6, 7, 8, 9, 10, 11, 12, 13, 14, 15, 16, 17], [0, 1, 2, 3, 4, 5, 6, 7, 8, 9, 10, 11, 12, 13, 14, 15, 16], [0, 1, 2, 3, 4, 5, 6, 7, 8, 9, 10, 11, 12, 13, 14, 15, 16, 17, 18, 19], [0, 1, 2, 3, 4, 5, 6, 7, 8, 9, 10, 11, 12, 13, 14, 15, 16, 17, 18, 19, 20], [0, 1, 2, 3, 4, 5, 6, 7, 8, 9, 10, 11, 12, 13, 14, 15, 16, 17, 18, 19, 20, 21], [0, 1, 2, 3, 4, 5, 6, 7, 8, 9, 10, 11, 12, 13, 14, 15, 16, 17, 18, 19, 20, 21, 22]] [] [] 24 (by kernel_rfl) (by kernel_rfl) ?_
          refine Rely.Chain.det ?_ (by rfl) (fun T xs wr hA => ?_) ?_
          rotate_left 1
          · have e7 := hA.pre 7 (by kernel_rfl)
            simp only [List.getElem?_toArray, List.getElem?_cons_succ, List.getElem?_cons_zero] at e7
            clear hA
            refine ⟨(by rfl), ?_⟩
            go_simp <;> (try with_reducible rfl)
          refine Rely.Chain.det ?_ (by rfl) (fun T xs wr hA => ?_) ?_
          rotate_left 1
          · have e39 := hA.tm 0 39 (by rfl) (by rfl)
            have f39 : xs 0 = _ := hA.fa 0 (by rfl)
            (try simp (disch := rfl) only [Rely.mask_in] at f39)
            rw [f39] at e39
            clear f39
            clear hA
            refine ⟨(by rfl), ?_⟩
            go_simp <;> (try with_reducible rfl)
          refine Rely.Chain.det ?_ (by rfl) (fun T xs wr hA => ?_) ?_
          rotate_left 1
          · have e40 := hA.tm 1 40 (by rfl) (by rfl)
            have f40 : xs 1 = _ := hA.fa 1 (by rfl)
            (try simp (disch := rfl) only [Rely.mask_in] at f40)
            rw [f40] at e40
            clear f40
            clear hA
            refine ⟨(by rfl), ?_⟩
            go_simp <;> (try with_reducible rfl)
          refine Rely.Chain.det ?_ (by rfl) (fun T xs wr hA => ?_) ?_
          rotate_left 1
          · obtain ⟨x00, x01, x10, x11, y10, y11, y20, y21⟩ := HSx.out wr hA.bw
            have e41 := hA.tm 2 41 (by rfl) (by rfl)
            have f41 : xs 2 = _ := hA.fa 2 (by rfl)
            (try simp (disch := rfl) only [Rely.mask_in] at f41)
            rw [f41] at e41
            clear f41
            have e5 := hA.pre 5 (by kernel_rfl)
            simp only [List.getElem?_toArray, List.getElem?_cons_succ, List.getElem?_cons_zero] at e5
            clear hA
            refine ⟨((Rely.wanted_at rfl (by rfl) e41).trans (by rfl)), ?_⟩
            go_simp <;> (try with_reducible rfl)
          refine Rely.Chain.det ?_ (by rfl) (fun T xs wr hA => ?_) ?_
          rotate_left 1
          · obtain ⟨x00, x01, x10, x11, y10, y11, y20, y21⟩ := HSx.out wr hA.bw
            have e41 := hA.tm 2 41 (by rfl) (by rfl)
            have f41 : xs 2 = _ := hA.fa 2 (by rfl)
            (try simp (disch := rfl) only [Rely.mask_in] at f41)
            rw [f41] at e41
            clear f41
            have e3 := hA.pre 3 (by kernel_rfl)
            simp only [List.getElem?_toArray, List.getElem?_cons_succ, List.getElem?_cons_zero] at e3
            clear hA
            refine ⟨((Rely.wanted_at rfl (by rfl) e41).trans (by rfl)), ?_⟩
            go_simp <;> (try with_reducible rfl)
          refine Rely.Chain.call (fun _ v w => CI w v (Q * B) 43) (fun _ _ _ _ h hb => h.below hb) (fun _ _ _ _ _ h hp => h.keeps hp.keeps) (by rfl) (fun T xs wr hA => ?_) ?_
          · have hbw := undrew hA.bw
            have e41 := hA.tm 2 41 (by rfl) (by rfl)
            have f41 : xs 2 = _ := hA.fa 2 (by rfl)
            (try simp (disch := rfl) only [Rely.mask_in] at f41)
            rw [f41] at e41
            clear f41
            have e42 := hA.tm 3 42 (by rfl) (by rfl)
            have f42 : xs 3 = _ := hA.fa 3 (by rfl)
            (try simp (disch := rfl) only [Rely.mask_in] at f42)
            rw [f42] at e42
            clear f42
            have e43 := hA.tm 4 43 (by rfl) (by rfl)
            have f43 : xs 4 = _ := hA.fa 4 (by rfl)
            (try simp (disch := rfl) only [Rely.mask_in] at f43)
            rw [f43] at e43
            clear f43
            have c_q := c_q.below hbw
            have g1 := g1.below hbw
            clear hA
            refine ⟨((Rely.wanted_at rfl (by rfl) e41).trans (by rfl)), fun K hK => ?_⟩
            clear e41
            go_simp
            refine (wmul_any _ _ Q B 23 20 _ c_q.gi g1 (by omega) (by omega)).mono ?_
            rintro e wq ⟨v, rfl, c, hb⟩
            exact hK.out _ _ c hb
          refine Rely.Chain.det ?_ (by rfl) (fun T xs wr hA => ?_) ?_
          rotate_left 1
          · obtain ⟨x00, x01, x10, x11, y10, y11, y20, y21⟩ := HSx.out wr hA.bw
            have e41 := hA.tm 2 41 (by rfl) (by rfl)
            have f41 : xs 2 = _ := hA.fa 2 (by rfl)
            (try simp (disch := rfl) only [Rely.mask_in] at f41)
            rw [f41] at e41
            clear f41
            have e6 := hA.pre 6 (by kernel_rfl)
            simp only [List.getElem?_toArray, List.getElem?_cons_succ, List.getElem?_cons_zero] at e6
            clear hA
            refine ⟨((Rely.wanted_at rfl (by rfl) e41).trans (by rfl)), ?_⟩
            go_simp <;> (try with_reducible rfl)
          refine Rely.Chain.call (fun _ v w => CI w v (Q * B + R) 64) (fun _ _ _ _ h hb => h.below hb) (fun _ _ _ _ _ h hp => h.keeps hp.keeps) (by rfl) (fun T xs wr hA => ?_) ?_
          · have hbw := undrew hA.bw
            have e41 := hA.tm 2 41 (by rfl) (by rfl)
            have f41 : xs 2 = _ := hA.fa 2 (by rfl)
            (try simp (disch := rfl) only [Rely.mask_in] at f41)
            rw [f41] at e41
            clear f41
            have e44 := hA.tm 5 44 (by rfl) (by rfl)
            have e45 := hA.tm 6 45 (by rfl) (by rfl)
            have f45 : xs 6 = _ := hA.fa 6 (by rfl)
            (try simp (disch := rfl) only [Rely.mask_in] at f45)
            rw [f45] at e45
            clear f45
            have c_m : CI wr (xs 5) (Q * B) 43 := hA.fa 5 (by rfl)
            have c_r := c_r.below hbw
            clear hA
            refine ⟨((Rely.wanted_at rfl (by rfl) e41).trans (by rfl)), fun K hK => ?_⟩
            clear e41
            go_simp
            refine (wadd_any _ _ (Q * B) R 43 20 _ c_m.gi c_r.gi (by omega) (by omega)).mono ?_
            rintro e wq ⟨v, rfl, c, hb⟩
            exact hK.out _ _ c hb
          refine Rely.Chain.det ?_ (by rfl) (fun T xs wr hA => ?_) ?_
          rotate_left 1
          · obtain ⟨x00, x01, x10, x11, y10, y11, y20, y21⟩ := HSx.out wr hA.bw
            have e41 := hA.tm 2 41 (by rfl) (by rfl)
            have f41 : xs 2 = _ := hA.fa 2 (by rfl)
            (try simp (disch := rfl) only [Rely.mask_in] at f41)
            rw [f41] at e41
            clear f41
            have e2 := hA.pre 2 (by kernel_rfl)
            simp only [List.getElem?_toArray, List.getElem?_cons_succ, List.getElem?_cons_zero] at e2
            clear hA
            refine ⟨((Rely.wanted_at rfl (by rfl) e41).trans (by rfl)), ?_⟩
            go_simp <;> (try with_reducible rfl)
          refine Rely.Chain.call (fun _ v _ => v = .int .i64 0) (fun _ _ _ _ h _ => h) (fun _ _ _ _ _ h _ => h) (by rfl) (fun T xs wr hA => ?_) ?_
          · have hbw := undrew hA.bw
            have e41 := hA.tm 2 41 (by rfl) (by rfl)
            have f41 : xs 2 = _ := hA.fa 2 (by rfl)
            (try simp (disch := rfl) only [Rely.mask_in] at f41)
            rw [f41] at e41
            clear f41
            have e46 := hA.tm 7 46 (by rfl) (by rfl)
            have e47 := hA.tm 8 47 (by rfl) (by rfl)
            have f47 : xs 8 = _ := hA.fa 8 (by rfl)
            (try simp (disch := rfl) only [Rely.mask_in] at f47)
            rw [f47] at e47
            clear f47
            have c_a : CI wr (xs 7) (Q * B + R) 64 := hA.fa 7 (by rfl)
            have g0 := g0.below hbw
            clear hA
            refine ⟨((Rely.wanted_at rfl (by rfl) e41).trans (by rfl)), fun K hK => ?_⟩
            clear e41
            go_simp
            refine (wcmp_s _ _ (Q * B + R) A 64 20 0 _ c_a.gi g0 HSUM.out (by omega) (by omega)).mono ?_
            rintro e wq ⟨rfl, hb⟩
            exact hK.out _ _ rfl hb
          refine Rely.Chain.det ?_ (by rfl) (fun T xs wr hA => ?_) ?_
          rotate_left 1
          · have e41 := hA.tm 2 41 (by rfl) (by rfl)
            have f41 : xs 2 = _ := hA.fa 2 (by rfl)
            (try simp (disch := rfl) only [Rely.mask_in] at f41)
            rw [f41] at e41
            clear f41
            have e48 := hA.tm 9 48 (by rfl) (by rfl)
            have f48 : xs 9 = (.int .i64 0) := hA.fa 9 (by rfl)
            rw [f48] at e48
            clear f48
            clear hA
            refine ⟨((Rely.wanted_at rfl (by rfl) e41).trans (by rfl)), ?_⟩
            go_simp <;> (try with_reducible rfl)
          refine Rely.Chain.det ?_ (by rfl) (fun T xs wr hA => ?_) ?_
          rotate_left 1
          · have e41 := hA.tm 2 41 (by rfl) (by rfl)
            have f41 : xs 2 = _ := hA.fa 2 (by rfl)
            (try simp (disch := rfl) only [Rely.mask_in] at f41)
            rw [f41] at e41
            clear f41
            have e49 := hA.tm 10 49 (by rfl) (by rfl)
            have f49 : xs 10 = _ := hA.fa 10 (by rfl)
            (try simp (disch := rfl) only [Rely.mask_in] at f49)
            rw [f49] at e49
            clear f49
            clear hA
            refine ⟨(by rfl), ?_⟩
            go_simp <;> (try with_reducible rfl)
          refine Rely.Chain.det ?_ (by rfl) (fun T xs wr hA => ?_) ?_
          rotate_left 1
          · have e50 := hA.tm 11 50 (by rfl) (by rfl)
            have f50 : xs 11 = _ := hA.fa 11 (by rfl)
            (try simp (disch := rfl) only [Rely.mask_in] at f50)
            rw [f50] at e50
            clear f50
            clear hA
            refine ⟨(by rfl), ?_⟩
            go_simp <;> (try with_reducible rfl)
          refine Rely.Chain.det ?_ (by rfl) (fun T xs wr hA => ?_) ?_
          rotate_left 1
          · obtain ⟨x00, x01, x10, x11, y10, y11, y20, y21⟩ := HSx.out wr hA.bw
            have e51 := hA.tm 12 51 (by rfl) (by rfl)
            have f51 : xs 12 = _ := hA.fa 12 (by rfl)
            (try simp (disch := rfl) only [Rely.mask_in] at f51)
            rw [f51] at e51
            clear f51
            have e6 := hA.pre 6 (by kernel_rfl)
            simp only [List.getElem?_toArray, List.getElem?_cons_succ, List.getElem?_cons_zero] at e6
            clear hA
            refine ⟨((Rely.wanted_at rfl (by rfl) e51).trans (by rfl)), ?_⟩
            go_simp <;> (try with_reducible rfl)
          refine Rely.Chain.call (fun _ v _ => v = .int .i64 0) (fun _ _ _ _ h _ => h) (fun _ _ _ _ _ h _ => h) (by rfl) (fun T xs wr hA => ?_) ?_
          · have hbw := undrew hA.bw
            have e51 := hA.tm 12 51 (by rfl) (by rfl)
            have f51 : xs 12 = _ := hA.fa 12 (by rfl)
            (try simp (disch := rfl) only [Rely.mask_in] at f51)
            rw [f51] at e51
            clear f51
            have e52 := hA.tm 13 52 (by rfl) (by rfl)
            have f52 : xs 13 = _ := hA.fa 13 (by rfl)
            (try simp (disch := rfl) only [Rely.mask_in] at f52)
            rw [f52] at e52
            clear f52
            have c_r := c_r.below hbw
            clear hA
            refine ⟨((Rely.wanted_at rfl (by rfl) e51).trans (by rfl)), fun K hK => ?_⟩
            clear e51
            go_simp
            refine (wsign_s _ R 20 0 _ c_r.gi HSGR.out (by omega)).mono ?_
            rintro e wq ⟨rfl, hb⟩
            exact hK.out _ _ rfl hb
          refine Rely.Chain.det ?_ (by rfl) (fun T xs wr hA => ?_) ?_
          rotate_left 1
          · have e51 := hA.tm 12 51 (by rfl) (by rfl)
            have f51 : xs 12 = _ := hA.fa 12 (by rfl)
            (try simp (disch := rfl) only [Rely.mask_in] at f51)
            rw [f51] at e51
            clear f51
            have e53 := hA.tm 14 53 (by rfl) (by rfl)
            have f53 : xs 14 = (.int .i64 0) := hA.fa 14 (by rfl)
            rw [f53] at e53
            clear f53
            clear hA
            refine ⟨((Rely.wanted_at rfl (by rfl) e51).trans (by rfl)), ?_⟩
            go_simp <;> (try with_reducible rfl)
          refine Rely.Chain.det ?_ (by rfl) (fun T xs wr hA => ?_) ?_
          rotate_left 1
          · have e51 := hA.tm 12 51 (by rfl) (by rfl)
            have f51 : xs 12 = _ := hA.fa 12 (by rfl)
            (try simp (disch := rfl) only [Rely.mask_in] at f51)
            rw [f51] at e51
            clear f51
            have e54 := hA.tm 15 54 (by rfl) (by rfl)
            have f54 : xs 15 = _ := hA.fa 15 (by rfl)
            (try simp (disch := rfl) only [Rely.mask_in] at f54)
            rw [f54] at e54
            clear f54
            clear hA
            refine ⟨((Rely.wanted_at rfl (by rfl) e51).trans (by rfl)), ?_⟩
            go_simp <;> (try with_reducible rfl)
          refine Rely.Chain.skip (by rfl) (fun T xs wr hA => ?_) ?_
          · have e55 := hA.tm 16 55 (by rfl) (by rfl)
            have f55 : xs 16 = _ := hA.fa 16 (by rfl)
            (try simp (disch := rfl) only [Rely.mask_in] at f55)
            rw [f55] at e55
            clear f55
            exact ((Rely.wanted_at rfl (by rfl) e55).trans (by rfl))
          refine Rely.Chain.skip (by rfl) (fun T xs wr hA => ?_) ?_
          · have e55 := hA.tm 16 55 (by rfl) (by rfl)
            have f55 : xs 16 = _ := hA.fa 16 (by rfl)
            (try simp (disch := rfl) only [Rely.mask_in] at f55)
            rw [f55] at e55
            clear f55
            exact ((Rely.wanted_at rfl (by rfl) e55).trans (by rfl))
          refine Rely.Chain.skip (by rfl) (fun T xs wr hA => ?_) ?_
          · have e55 := hA.tm 16 55 (by rfl) (by rfl)
            have f55 : xs 16 = _ := hA.fa 16 (by rfl)
            (try simp (disch := rfl) only [Rely.mask_in] at f55)
            rw [f55] at e55
            clear f55
            exact ((Rely.wanted_at rfl (by rfl) e55).trans (by rfl))
          refine Rely.Chain.skip (by rfl) (fun T xs wr hA => ?_) ?_
          · have e55 := hA.tm 16 55 (by rfl) (by rfl)
            have f55 : xs 16 = _ := hA.fa 16 (by rfl)
            (try simp (disch := rfl) only [Rely.mask_in] at f55)
            rw [f55] at e55
            clear f55
            exact ((Rely.wanted_at rfl (by rfl) e55).trans (by rfl))
          refine Rely.Chain.skip (by rfl) (fun T xs wr hA => ?_) ?_
          · have e55 := hA.tm 16 55 (by rfl) (by rfl)
            have f55 : xs 16 = _ := hA.fa 16 (by rfl)
            (try simp (disch := rfl) only [Rely.mask_in] at f55)
            rw [f55] at e55
            clear f55
            exact ((Rely.wanted_at rfl (by rfl) e55).trans (by rfl))
          refine Rely.Chain.det ?_ (by rfl) (fun T xs wr hA => ?_) ?_
          rotate_left 1
          · have e51 := hA.tm 12 51 (by rfl) (by rfl)
            have f51 : xs 12 = _ := hA.fa 12 (by rfl)
            (try simp (disch := rfl) only [Rely.mask_in] at f51)
            rw [f51] at e51
            clear f51
            have e55 := hA.tm 16 55 (by rfl) (by rfl)
            have f55 : xs 16 = _ := hA.fa 16 (by rfl)
            (try simp (disch := rfl) only [Rely.mask_in] at f55)
            rw [f55] at e55
            clear f55
            have e60 := hA.tm 21 60 (by rfl) (by rfl)
            have f60 : xs 21 = undef := hA.fa 21 (by rfl)
            rw [f60] at e60
            clear f60
            clear hA
            refine ⟨((Rely.wanted_at rfl (by rfl) e51).trans (by rfl)), ?_⟩
            go_simp <;> (try with_reducible rfl)
          refine Rely.Chain.det ?_ (by rfl) (fun T xs wr hA => ?_) ?_
          rotate_left 1
          · have e51 := hA.tm 12 51 (by rfl) (by rfl)
            have f51 : xs 12 = _ := hA.fa 12 (by rfl)
            (try simp (disch := rfl) only [Rely.mask_in] at f51)
            rw [f51] at e51
            clear f51
            have e61 := hA.tm 22 61 (by rfl) (by rfl)
            have f61 : xs 22 = _ := hA.fa 22 (by rfl)
            (try simp (disch := rfl) only [Rely.mask_in] at f61)
            rw [f61] at e61
            clear f61
            clear hA
            refine ⟨(by rfl), ?_⟩
            go_simp <;> (try with_reducible rfl)
          refine Rely.Chain.done (fun xs wx6 hL => ?_)
          obtain ⟨hbx', hf, hp, hn⟩ := hL
          have f0 : xs 0 = _ := hf 0 (by decide)
          (try simp (disch := rfl) only [Rely.mask_in] at f0)
          have f1 : xs 1 = _ := hf 1 (by decide)
          (try simp (disch := rfl) only [Rely.mask_in] at f1)
          have f2 : xs 2 = _ := hf 2 (by decide)
          (try simp (disch := rfl) only [Rely.mask_in] at f2)
          have f3 : xs 3 = _ := hf 3 (by decide)
          (try simp (disch := rfl) only [Rely.mask_in] at f3)
          have f4 : xs 4 = _ := hf 4 (by decide)
          (try simp (disch := rfl) only [Rely.mask_in] at f4)
          have c_m : CI wx6 (xs 5) (Q * B) 43 := hf 5 (by decide)
          have f6 : xs 6 = _ := hf 6 (by decide)
          (try simp (disch := rfl) only [Rely.mask_in] at f6)
          have c_a : CI wx6 (xs 7) (Q * B + R) 64 := hf 7 (by decide)
          have f8 : xs 8 = _ := hf 8 (by decide)
          (try simp (disch := rfl) only [Rely.mask_in] at f8)
          have f9 : xs 9 = (.int .i64 0) := hf 9 (by decide)
          (try simp (disch := rfl) only [Rely.mask_in] at f9)
          have f10 : xs 10 = _ := hf 10 (by decide)
          (try simp (disch := rfl) only [Rely.mask_in] at f10)
          have f11 : xs 11 = _ := hf 11 (by decide)
          (try simp (disch := rfl) only [Rely.mask_in] at f11)
          have f12 : xs 12 = _ := hf 12 (by decide)
          (try simp (disch := rfl) only [Rely.mask_in] at f12)
          have f13 : xs 13 = _ := hf 13 (by decide)
          (try simp (disch := rfl) only [Rely.mask_in] at f13)
          have f14 : xs 14 = (.int .i64 0) := hf 14 (by decide)
          (try simp (disch := rfl) only [Rely.mask_in] at f14)
          have f15 : xs 15 = _ := hf 15 (by decide)
          (try simp (disch := rfl) only [Rely.mask_in] at f15)
          have f16 : xs 16 = _ := hf 16 (by decide)
          (try simp (disch := rfl) only [Rely.mask_in] at f16)
          have f17 : xs 17 = _ := hf 17 (by decide)
          (try simp (disch := rfl) only [Rely.mask_in] at f17)
          have f18 : xs 18 = _ := hf 18 (by decide)
          (try simp (disch := rfl) only [Rely.mask_in] at f18)
          have f19 : xs 19 = _ := hf 19 (by decide)
          (try simp (disch := rfl) only [Rely.mask_in] at f19)
          have f20 : xs 20 = _ := hf 20 (by decide)
          (try simp (disch := rfl) only [Rely.mask_in] at f20)
          have f21 : xs 21 = _ := hf 21 (by decide)
          (try simp (disch := rfl) only [Rely.mask_in] at f21)
          have f22 : xs 22 = _ := hf 22 (by decide)
          (try simp (disch := rfl) only [Rely.mask_in] at f22)
          have f23 : xs 23 = _ := hf 23 (by decide)
          (try simp (disch := rfl) only [Rely.mask_in] at f23)
          clear hf hp hn
          refine Rely.rest_done ?_
          simp only [Rely.fill, List.setIfInBounds_toArray, List.set_cons_zero, List.set_cons_succ, f0, f1, f2, f3, f4, f6, f8, f9, f10, f11, f12, f13, f14, f15, f16, f17, f18, f19, f20, f21, f22, f23]
          clear f0 f1 f2 f3 f4 f6 f8 f9 f10 f11 f12 f13 f14 f15 f16 f17 f18 f19 f20 f21 f22 f23
          generalize xs 5 = v_m at c_m ⊢
          generalize xs 7 = v_a at c_a ⊢
          clear xs
          obtain ⟨b_m, o_m, l_m, k_m, rfl⟩ := c_m.shape
          obtain ⟨b_a, o_a, l_a, k_a, rfl⟩ := c_a.shape
          have hbx := undrew hbx'
          clear hbx'
          clear HSx
          replace g0 := g0.below hbx
          replace g1 := g1.below hbx
          replace c_q := c_q.below hbx
          replace c_r := c_r.below hbx
          replace hbt := hbt.trans (hbx.mono hbt.size)
          replace HB_x0 := Lib.hid ((hbx.block _ (lt_of_block HB_x0.out)).trans HB_x0.out)
          replace HB_x1 := Lib.hid ((hbx.block _ (lt_of_block HB_x1.out)).trans HB_x1.out)
          replace HB_y1 := Lib.hid ((hbx.block _ (lt_of_block HB_y1.out)).trans HB_y1.out)
          replace HB_y2 := Lib.hid ((hbx.block _ (lt_of_block HB_y2.out)).trans HB_y2.out)
          clear hbx
          replace x00 := (two_cells HB_x0.out).1
          replace x01 := (two_cells HB_x0.out).2.1
          replace x10 := (two_cells HB_x1.out).1
          replace x11 := (two_cells HB_x1.out).2.1
          replace y10 := (two_cells HB_y1.out).1
          replace y11 := (two_cells HB_y1.out).2.1
          replace y20 := (two_cells HB_y2.out).1
          replace y21 := (two_cells HB_y2.out).2.1
          go_wp2_with fail
          have HSx := Lib.hid (show ∀ w', Below wx6.drew.heap.size wx6.drew w' → w'.cell? ⟨w.heap.size, 0, none⟩ = some (.bool b0) ∧ w'.cell? ⟨w.heap.size, 1, none⟩ = some (.slice o0 n0 m0) ∧ w'.cell? ⟨w.heap.size + 1, 0, none⟩ = some (.bool b1) ∧ w'.cell? ⟨w.heap.size + 1, 1, none⟩ = some (.slice o1 n1 m1) ∧ w'.cell? ⟨wx3.heap.size, 0, none⟩ = some (.bool b_q) ∧ w'.cell? ⟨wx3.heap.size, 1, none⟩ = some (.slice o_q l_q k_q) ∧ w'.cell? ⟨wx3.heap.size + 1, 0, none⟩ = some (.bool b_r) ∧ w'.cell? ⟨wx3.heap.size + 1, 1, none⟩ = some (.slice o_r l_r k_r) from fun w' hb => ⟨(hb.cell (lt_of_block HB_x0.out)).trans x00, (hb.cell (lt_of_block HB_x0.out)).trans x01, (hb.cell (lt_of_block HB_x1.out)).trans x10, (hb.cell (lt_of_block HB_x1.out)).trans x11, (hb.cell (lt_of_block HB_y1.out)).trans y10, (hb.cell (lt_of_block HB_y1.out)).trans y11, (hb.cell (lt_of_block HB_y2.out)).trans y20, (hb.cell (lt_of_block HB_y2.out)).trans y21⟩)
          have hszc := hbt.size
          have hlt_x0 := lt_of_block HB_x0.out
          have hlt_x1 := lt_of_block HB_x1.out
          have hlt_y1 := lt_of_block HB_y1.out
          have hlt_y2 := lt_of_block HB_y2.out
          refine Rely.region (by kernel_rfl) [[], [], [], [], [0, 2, 3], [0, 1, 2, 3, 4]] [2, 3] [(4, 2), (5, 3)] 6 (by kernel_rfl) (by kernel_rfl) ?_
          refine Rely.Chain.det ?_ (by rfl) (fun T xs wr hA => ?_) ?_
          rotate_left 1
          · obtain ⟨x00, x01, x10, x11, y10, y11, y20, y21⟩ := HSx.out wr hA.bw
            have e6 := hA.pre 6 (by kernel_rfl)
            simp only [List.getElem?_toArray, List.getElem?_cons_succ, List.getElem?_cons_zero] at e6
            clear hA
            refine ⟨(by rfl), ?_⟩
            go_simp <;> (try with_reducible rfl)
          refine Rely.Chain.det ?_ (by rfl) (fun T xs wr hA => ?_) ?_
          rotate_left 1
          · obtain ⟨x00, x01, x10, x11, y10, y11, y20, y21⟩ := HSx.out wr hA.bw
            have e3 := hA.pre 3 (by kernel_rfl)
            simp only [List.getElem?_toArray, List.getElem?_cons_succ, List.getElem?_cons_zero] at e3
            clear hA
            refine ⟨(by rfl), ?_⟩
            go_simp <;> (try with_reducible rfl)
          refine Rely.Chain.alloc ?_ ?_ (by rfl) (fun Ts xs wr hA => ?_) ?_ ?_
          rotate_left 2
          · clear hA
            refine ⟨(by rfl), fun K hK => ?_⟩
            go_simp
            exact hK.out
          · rfl
          refine Rely.Chain.alloc ?_ ?_ (by rfl) (fun Ts xs wr hA => ?_) ?_ ?_
          rotate_left 2
          · clear hA
            refine ⟨(by rfl), fun K hK => ?_⟩
            go_simp
            exact hK.out
          · rfl
          refine Rely.Chain.store 2 0 25 2 (by rfl) (by rfl) (by rfl) rfl (fun T xs wr g c hA hx hB hn hi => ?_) ?_
          · have e8 := hA.tm 2 8 (by rfl) (by rfl)
            rw [hx] at e8
            have e63 := hA.tm 0 63 (by rfl) (by rfl)
            have hv : xs 0 = _ := hA.fa 0 (by rfl)
            (try simp (disch := rfl) only [Rely.mask_in] at hv)
            rw [hv] at e63
            obtain ⟨c0, c1, rfl⟩ := two_of hn
            have z0 := cell_at hB 0 rfl
            have z1 := cell_at hB 1 rfl
            have fz0 := froz_at hB 0
            have fz1 := froz_at hB 1
            clear hA hn
            refine ⟨by rfl, fun K hK => ?_⟩
            go_simp
            exact hK.out _ _ hv (hset2 hB _ _) (priv2 hB hi (by rfl))
          refine Rely.Chain.store 3 1 25 2 (by rfl) (by rfl) (by rfl) rfl (fun T xs wr g c hA hx hB hn hi => ?_) ?_
          · have e9 := hA.tm 3 9 (by rfl) (by rfl)
            rw [hx] at e9
            have e64 := hA.tm 1 64 (by rfl) (by rfl)
            have hv : xs 1 = _ := hA.fa 1 (by rfl)
            (try simp (disch := rfl) only [Rely.mask_in] at hv)
            rw [hv] at e64
            obtain ⟨c0, c1, rfl⟩ := two_of hn
            have z0 := cell_at hB 0 rfl
            have z1 := cell_at hB 1 rfl
            have fz0 := froz_at hB 0
            have fz1 := froz_at hB 1
            clear hA hn
            refine ⟨by rfl, fun K hK => ?_⟩
            go_simp
            exact hK.out _ _ hv (hset2 hB _ _) (priv2 hB hi (by rfl))
          refine Rely.Chain.done (fun xs wx7 hL => ?_)
          obtain ⟨hbx', hf, hp, hn⟩ := hL
          have f0 : xs 0 = _ := hf 0 (by decide)
          (try simp (disch := rfl) only [Rely.mask_in] at f0)
          have f1 : xs 1 = _ := hf 1 (by decide)
          (try simp (disch := rfl) only [Rely.mask_in] at f1)
          obtain ⟨g_y3, cc, f2, hv, hB_y3⟩ := hf 4 (by decide)
          change xs 2 = _ at f2
          change xs 0 = _ at hv
          rw [f0] at hv
          injection hv with hv
          subst hv
          have hg_y3 : wx6.heap.size ≤ g_y3 := by obtain ⟨g, h1, h2, -⟩ := hp 2 (by rfl) (by decide); rw [f2] at h1; injection h1 with h1; injection h1 with h1; injection h1 with h1; subst h1; exact h2
          obtain ⟨g_y4, cc, f3, hv, hB_y4⟩ := hf 5 (by decide)
          change xs 3 = _ at f3
          change xs 1 = _ at hv
          rw [f1] at hv
          injection hv with hv
          subst hv
          have hg_y4 : wx6.heap.size ≤ g_y4 := by obtain ⟨g, h1, h2, -⟩ := hp 3 (by rfl) (by decide); rw [f3] at h1; injection h1 with h1; injection h1 with h1; injection h1 with h1; subst h1; exact h2
          have hne_y3_y4 : g_y3 ≠ g_y4 := fun h => hn 2 3 (by rfl) (by rfl) (by decide) (by decide) (by decide) (by rw [f2, f3, h])
          clear hf hp hn
          refine Rely.rest_done ?_
          simp only [Rely.fill, List.setIfInBounds_toArray, List.set_cons_zero, List.set_cons_succ, f0, f1, f2, f3]
          clear f0 f1 f2 f3
          clear xs
          have hbx := undrew hbx'
          clear hbx'
          clear HSx
          replace g0 := g0.below hbx
          replace g1 := g1.below hbx
          replace c_q := c_q.below hbx
          replace c_r := c_r.below hbx
          replace c_m := c_m.below hbx
          replace c_a := c_a.below hbx
          replace hbt := hbt.trans (hbx.mono hbt.size)
          replace HB_x0 := Lib.hid ((hbx.block _ (lt_of_block HB_x0.out)).trans HB_x0.out)
          replace HB_x1 := Lib.hid ((hbx.block _ (lt_of_block HB_x1.out)).trans HB_x1.out)
          replace HB_y1 := Lib.hid ((hbx.block _ (lt_of_block HB_y1.out)).trans HB_y1.out)
          replace HB_y2 := Lib.hid ((hbx.block _ (lt_of_block HB_y2.out)).trans HB_y2.out)
          clear hbx
          replace x00 := (two_cells HB_x0.out).1
          replace x01 := (two_cells HB_x0.out).2.1
          replace x10 := (two_cells HB_x1.out).1
          replace x11 := (two_cells HB_x1.out).2.1
          replace y10 := (two_cells HB_y1.out).1
          replace y11 := (two_cells HB_y1.out).2.1
          replace y20 := (two_cells HB_y2.out).1
          replace y21 := (two_cells HB_y2.out).2.1
          have HB_y3 := Lib.hid hB_y3
          clear hB_y3
          have y30 := cell_at HB_y3.out 0 rfl
          have y31 := cell_at HB_y3.out 1 rfl
          have HB_y4 := Lib.hid hB_y4
          clear hB_y4
          have y40 := cell_at HB_y4.out 0 rfl
          have y41 := cell_at HB_y4.out 1 rfl
          have hszt := hbt.size
          obtain ⟨-, -, fz0, fz1⟩ := two_cells HB_y3.out
          obtain ⟨-, -, fz2, fz3⟩ := two_cells HB_y4.out
          go_wp2_with fail
          clear fz0 fz1 fz2 fz3
          have hk := keeps_set1 HB_y3.out (.bool false)
          replace g0 := g0.keeps hk
          replace g1 := g1.keeps hk
          replace c_q := c_q.keeps hk
          replace c_r := c_r.keeps hk
          replace c_m := c_m.keeps hk
          replace c_a := c_a.keeps hk
          clear hk
          replace hbt := hbt.setCell (p := ⟨g_y3, 0, none⟩) (by simp; omega) (.bool false)
          replace HB_x0 := Lib.hid ((heap_far1 (w := wx7) (g := g_y3) (x := .bool false) (by omega)).trans HB_x0.out)
          replace HB_x1 := Lib.hid ((heap_far1 (w := wx7) (g := g_y3) (x := .bool false) (by omega)).trans HB_x1.out)
          replace HB_y1 := Lib.hid ((heap_far1 (w := wx7) (g := g_y3) (x := .bool false) (by omega)).trans HB_y1.out)
          replace HB_y2 := Lib.hid ((heap_far1 (w := wx7) (g := g_y3) (x := .bool false) (by omega)).trans HB_y2.out)
          replace HB_y4 := Lib.hid ((heap_far1 (w := wx7) (g := g_y3) (x := .bool false) (by omega)).trans HB_y4.out)
          replace HB_y3 := Lib.hid (heap_set1 HB_y3.out (.bool false))
          replace x00 := (two_cells HB_x0.out).1
          replace x01 := (two_cells HB_x0.out).2.1
          replace x10 := (two_cells HB_x1.out).1
          replace x11 := (two_cells HB_x1.out).2.1
          replace y10 := (two_cells HB_y1.out).1
          replace y11 := (two_cells HB_y1.out).2.1
          replace y20 := (two_cells HB_y2.out).1
          replace y21 := (two_cells HB_y2.out).2.1
          replace y30 := (two_cells HB_y3.out).1
          replace y31 := (two_cells HB_y3.out).2.1
          replace y40 := (two_cells HB_y4.out).1
          replace y41 := (two_cells HB_y4.out).2.1
          generalize (wx7.setCell ⟨g_y3, 0, none⟩ (.bool false)) = wx8 at *
          have hk := keeps_set1 HB_y4.out (.bool false)
          replace g0 := g0.keeps hk
          replace g1 := g1.keeps hk
          replace c_q := c_q.keeps hk
          replace c_r := c_r.keeps hk
          replace c_m := c_m.keeps hk
          replace c_a := c_a.keeps hk
          clear hk
          replace hbt := hbt.setCell (p := ⟨g_y4, 0, none⟩) (by simp; omega) (.bool false)
          replace HB_x0 := Lib.hid ((heap_far1 (w := wx8) (g := g_y4) (x := .bool false) (by omega)).trans HB_x0.out)
          replace HB_x1 := Lib.hid ((heap_far1 (w := wx8) (g := g_y4) (x := .bool false) (by omega)).trans HB_x1.out)
          replace HB_y1 := Lib.hid ((heap_far1 (w := wx8) (g := g_y4) (x := .bool false) (by omega)).trans HB_y1.out)
          replace HB_y2 := Lib.hid ((heap_far1 (w := wx8) (g := g_y4) (x := .bool false) (by omega)).trans HB_y2.out)
          replace HB_y3 := Lib.hid ((heap_far1 (w := wx8) (g := g_y4) (x := .bool false) (by omega)).trans HB_y3.out)
          replace HB_y4 := Lib.hid (heap_set1 HB_y4.out (.bool false))
          replace x00 := (two_cells HB_x0.out).1
          replace x01 := (two_cells HB_x0.out).2.1
          replace x10 := (two_cells HB_x1.out).1
          replace x11 := (two_cells HB_x1.out).2.1
          replace y10 := (two_cells HB_y1.out).1
          replace y11 := (two_cells HB_y1.out).2.1
          replace y20 := (two_cells HB_y2.out).1
          replace y21 := (two_cells HB_y2.out).2.1
          replace y30 := (two_cells HB_y3.out).1
          replace y31 := (two_cells HB_y3.out).2.1
          replace y40 := (two_cells HB_y4.out).1
          replace y41 := (two_cells HB_y4.out).2.1
          generalize (wx8.setCell ⟨g_y4, 0, none⟩ (.bool false)) = wx9 at *
          clear hszc hszt hlt_x0 hlt_x1 hlt_y1 hlt_y2
          have g_x := c_r.abs
          have g_y := g1.abs
          have HSx := Lib.hid (show ∀ w', Below wx9.drew.heap.size wx9.drew w' → w'.cell? ⟨w.heap.size, 0, none⟩ = some (.bool b0) ∧ w'.cell? ⟨w.heap.size, 1, none⟩ = some (.slice o0 n0 m0) ∧ w'.cell? ⟨w.heap.size + 1, 0, none⟩ = some (.bool b1) ∧ w'.cell? ⟨w.heap.size + 1, 1, none⟩ = some (.slice o1 n1 m1) ∧ w'.cell? ⟨wx3.heap.size, 0, none⟩ = some (.bool b_q) ∧ w'.cell? ⟨wx3.heap.size, 1, none⟩ = some (.slice o_q l_q k_q) ∧ w'.cell? ⟨wx3.heap.size + 1, 0, none⟩ = some (.bool b_r) ∧ w'.cell? ⟨wx3.heap.size + 1, 1, none⟩ = some (.slice o_r l_r k_r) ∧ w'.cell? ⟨g_y3, 0, none⟩ = some (.bool false) ∧ w'.cell? ⟨g_y3, 1, none⟩ = some (.slice o_r l_r k_r) ∧ w'.cell? ⟨g_y4, 0, none⟩ = some (.bool false) ∧ w'.cell? ⟨g_y4, 1, none⟩ = some (.slice o1 n1 m1) from fun w' hb => ⟨(hb.cell (lt_of_block HB_x0.out)).trans x00, (hb.cell (lt_of_block HB_x0.out)).trans x01, (hb.cell (lt_of_block HB_x1.out)).trans x10, (hb.cell (lt_of_block HB_x1.out)).trans x11, (hb.cell (lt_of_block HB_y1.out)).trans y10, (hb.cell (lt_of_block HB_y1.out)).trans y11, (hb.cell (lt_of_block HB_y2.out)).trans y20, (hb.cell (lt_of_block HB_y2.out)).trans y21, (hb.cell (lt_of_block HB_y3.out)).trans y30, (hb.cell (lt_of_block HB_y3.out)).trans y31, (hb.cell (lt_of_block HB_y4.out)).trans y40, (hb.cell (lt_of_block HB_y4.out)).trans y41⟩)
          refine Rely.region (by kernel_rfl) [[], [], [0, 1], [0, 1, 2], [0, 1, 2, 3], [0, 1, 2, 3, 4], [0, 1, 2, 3, 4], [0, 1, 2, 3, 4], [0, 1, 2, 3, 4, 6, 7], [0, 1, 2, 3, 4, 5, 6, 7, 8], [0, 1, 2, 3, 4, 5, 6, 7, 8, 9], [0, 1, 2, 3, 4, 5, 6, 7, 8, 9, 10], [0, 1, 2, 3, 4, 5, 6, 7, 8, 9, 10, 11], [0, 1, 2, 3, 4, 5, 6, 7, 8, 9, 10, 11], [0, 1, 2, 3, 4, 5, 6, 7, 8, 9, 10, 11], [0, 1, 2, 3, 4, 5, 6, 7, 8, 9, 10, 11, 13, 14], [0, 1, 2, 3, 4, 5, 6, 7, 8, 9, 10, 11, 12, 13, 14, 15], [0, 1, 2, 3, 4, 5, 6, 7, 8, 9, 10, 11, 12, 13, 14, 15, 16], [0, 1, 2, 3, 4, 5, 6, 7, 8, 9, 10, 11, 12, 13, 14, 15, 16, 17]] [] [] 19 (by kernel_rfl) (by kernel_rfl) ?_
          refine Rely.Chain.det ?_ (by rfl) (fun T xs wr hA => ?_) ?_
          rotate_left 1
          · obtain ⟨x00, x01, x10, x11, y10, y11, y20, y21, y30, y31, y40, y41⟩ := HSx.out wr hA.bw
            have e8 := hA.pre 8 (by kernel_rfl)
            simp only [List.getElem?_toArray, List.getElem?_cons_succ, List.getElem?_cons_zero] at e8
            clear hA
            refine ⟨(by rfl), ?_⟩
            go_simp <;> (try with_reducible rfl)
          refine Rely.Chain.det ?_ (by rfl) (fun T xs wr hA => ?_) ?_
          rotate_left 1
          · obtain ⟨x00, x01, x10, x11, y10, y11, y20, y21, y30, y31, y40, y41⟩ := HSx.out wr hA.bw
            have e9 := hA.pre 9 (by kernel_rfl)
            simp only [List.getElem?_toArray, List.getElem?_cons_succ, List.getElem?_cons_zero] at e9
            clear hA
            refine ⟨(by rfl), ?_⟩
            go_simp <;> (try with_reducible rfl)
          refine Rely.Chain.call (fun _ v _ => v = .int .i64 (-1)) (fun _ _ _ _ h _ => h) (fun _ _ _ _ _ h _ => h) (by rfl) (fun T xs wr hA => ?_) ?_
          · have hbw := undrew hA.bw
            have e67 := hA.tm 0 67 (by rfl) (by rfl)
            have f67 : xs 0 = _ := hA.fa 0 (by rfl)
            (try simp (disch := rfl) only [Rely.mask_in] at f67)
            rw [f67] at e67
            clear f67
            have e68 := hA.tm 1 68 (by rfl) (by rfl)
            have f68 : xs 1 = _ := hA.fa 1 (by rfl)
            (try simp (disch := rfl) only [Rely.mask_in] at f68)
            rw [f68] at e68
            clear f68
            have g_x := g_x.below hbw
            have g_y := g_y.below hbw
            clear hA
            refine ⟨(by rfl), fun K hK => ?_⟩
            go_simp
            refine (wcmp_s _ _ (R.natAbs : Int) (B.natAbs : Int) 20 20 (-1) _ g_x g_y HABS.out (by omega) (by omega)).mono ?_
            rintro e wq ⟨rfl, hb⟩
            exact hK.out _ _ rfl hb
          refine Rely.Chain.det ?_ (by rfl) (fun T xs wr hA => ?_) ?_
          rotate_left 1
          · have e69 := hA.tm 2 69 (by rfl) (by rfl)
            have f69 : xs 2 = (.int .i64 (-1)) := hA.fa 2 (by rfl)
            rw [f69] at e69
            clear f69
            clear hA
            refine ⟨(by rfl), ?_⟩
            go_simp <;> (try with_reducible rfl)
          refine Rely.Chain.det ?_ (by rfl) (fun T xs wr hA => ?_) ?_
          rotate_left 1
          · have e70 := hA.tm 3 70 (by rfl) (by rfl)
            have f70 : xs 3 = _ := hA.fa 3 (by rfl)
            (try simp (disch := rfl) only [Rely.mask_in] at f70)
            rw [f70] at e70
            clear f70
            clear hA
            refine ⟨(by rfl), ?_⟩
            go_simp <;> (try with_reducible rfl)
          refine Rely.Chain.det ?_ (by rfl) (fun T xs wr hA => ?_) ?_
          rotate_left 1
          · obtain ⟨x00, x01, x10, x11, y10, y11, y20, y21, y30, y31, y40, y41⟩ := HSx.out wr hA.bw
            have e71 := hA.tm 4 71 (by rfl) (by rfl)
            have f71 : xs 4 = _ := hA.fa 4 (by rfl)
            (try simp (disch := rfl) only [Rely.mask_in] at f71)
            rw [f71] at e71
            clear f71
            have e5 := hA.pre 5 (by kernel_rfl)
            simp only [List.getElem?_toArray, List.getElem?_cons_succ, List.getElem?_cons_zero] at e5
            clear hA
            refine ⟨((Rely.wanted_at rfl (by rfl) e71).trans (by rfl)), ?_⟩
            go_simp <;> (try with_reducible rfl)
          refine Rely.Chain.det ?_ (by rfl) (fun T xs wr hA => ?_) ?_
          rotate_left 1
          · obtain ⟨x00, x01, x10, x11, y10, y11, y20, y21, y30, y31, y40, y41⟩ := HSx.out wr hA.bw
            have e71 := hA.tm 4 71 (by rfl) (by rfl)
            have f71 : xs 4 = _ := hA.fa 4 (by rfl)
            (try simp (disch := rfl) only [Rely.mask_in] at f71)
            rw [f71] at e71
            clear f71
            have e5 := hA.pre 5 (by kernel_rfl)
            simp only [List.getElem?_toArray, List.getElem?_cons_succ, List.getElem?_cons_zero] at e5
            clear hA
            refine ⟨((Rely.wanted_at rfl (by rfl) e71).trans (by rfl)), ?_⟩
            go_simp <;> (try with_reducible rfl)
          refine Rely.Chain.call (fun _ v w => CI w v 0 2) (fun _ _ _ _ h hb => h.below hb) (fun _ _ _ _ _ h hp => h.keeps hp.keeps) (by rfl) (fun T xs wr hA => ?_) ?_
          · have hbw := undrew hA.bw
            have e71 := hA.tm 4 71 (by rfl) (by rfl)
            have f71 : xs 4 = _ := hA.fa 4 (by rfl)
            (try simp (disch := rfl) only [Rely.mask_in] at f71)
            rw [f71] at e71
            clear f71
            clear hA
            refine ⟨((Rely.wanted_at rfl (by rfl) e71).trans (by rfl)), fun K hK => ?_⟩
            clear e71
            go_simp
            refine (wof_any 0 _ (by omega) (by omega)).mono ?_
            rintro e wq ⟨v, rfl, c, hb⟩
            exact hK.out _ _ c hb
          refine Rely.Chain.call (fun _ v w => CI w v (Q + 0) 26) (fun _ _ _ _ h hb => h.below hb) (fun _ _ _ _ _ h hp => h.keeps hp.keeps) (by rfl) (fun T xs wr hA => ?_) ?_
          · have hbw := undrew hA.bw
            have e71 := hA.tm 4 71 (by rfl) (by rfl)
            have f71 : xs 4 = _ := hA.fa 4 (by rfl)
            (try simp (disch := rfl) only [Rely.mask_in] at f71)
            rw [f71] at e71
            clear f71
            have e73 := hA.tm 6 73 (by rfl) (by rfl)
            have f73 : xs 6 = _ := hA.fa 6 (by rfl)
            (try simp (disch := rfl) only [Rely.mask_in] at f73)
            rw [f73] at e73
            clear f73
            have e74 := hA.tm 7 74 (by rfl) (by rfl)
            have c_q := c_q.below hbw
            have c_z : CI wr (xs 7) 0 2 := hA.fa 7 (by rfl)
            clear hA
            refine ⟨((Rely.wanted_at rfl (by rfl) e71).trans (by rfl)), fun K hK => ?_⟩
            clear e71
            go_simp
            refine (wadd_any _ _ Q 0 23 2 _ c_q.gi c_z.gi (by omega) (by omega)).mono ?_
            rintro e wq ⟨v, rfl, c, hb⟩
            exact hK.out _ _ c hb
          refine Rely.Chain.call (fun _ v _ => v = .bool true) (fun _ _ _ _ h _ => h) (fun _ _ _ _ _ h _ => h) (by rfl) (fun T xs wr hA => ?_) ?_
          · have hbw := undrew hA.bw
            have e71 := hA.tm 4 71 (by rfl) (by rfl)
            have f71 : xs 4 = _ := hA.fa 4 (by rfl)
            (try simp (disch := rfl) only [Rely.mask_in] at f71)
            rw [f71] at e71
            clear f71
            have e72 := hA.tm 5 72 (by rfl) (by rfl)
            have f72 : xs 5 = _ := hA.fa 5 (by rfl)
            (try simp (disch := rfl) only [Rely.mask_in] at f72)
            rw [f72] at e72
            clear f72
            have e75 := hA.tm 8 75 (by rfl) (by rfl)
            have c_q := c_q.below hbw
            have c_u : CI wr (xs 8) (Q + 0) 26 := hA.fa 8 (by rfl)
            clear hA
            refine ⟨((Rely.wanted_at rfl (by rfl) e71).trans (by rfl)), fun K hK => ?_⟩
            clear e71
            go_simp
            refine (same_true _ _ Q 23 26 _ c_q (c_u.to (Int.add_zero Q)) (by omega) (by omega)).mono ?_
            rintro e wq ⟨rfl, hb⟩
            exact hK.out _ _ rfl hb
          refine Rely.Chain.det ?_ (by rfl) (fun T xs wr hA => ?_) ?_
          rotate_left 1
          · have e71 := hA.tm 4 71 (by rfl) (by rfl)
            have f71 : xs 4 = _ := hA.fa 4 (by rfl)
            (try simp (disch := rfl) only [Rely.mask_in] at f71)
            rw [f71] at e71
            clear f71
            have e76 := hA.tm 9 76 (by rfl) (by rfl)
            have f76 : xs 9 = (.bool true) := hA.fa 9 (by rfl)
            rw [f76] at e76
            clear f76
            clear hA
            refine ⟨(by rfl), ?_⟩
            go_simp <;> (try with_reducible rfl)
          refine Rely.Chain.det ?_ (by rfl) (fun T xs wr hA => ?_) ?_
          rotate_left 1
          · have e77 := hA.tm 10 77 (by rfl) (by rfl)
            have f77 : xs 10 = _ := hA.fa 10 (by rfl)
            (try simp (disch := rfl) only [Rely.mask_in] at f77)
            rw [f77] at e77
            clear f77
            clear hA
            refine ⟨(by rfl), ?_⟩
            go_simp <;> (try with_reducible rfl)
          refine Rely.Chain.det ?_ (by rfl) (fun T xs wr hA => ?_) ?_
          rotate_left 1
          · obtain ⟨x00, x01, x10, x11, y10, y11, y20, y21, y30, y31, y40, y41⟩ := HSx.out wr hA.bw
            have e78 := hA.tm 11 78 (by rfl) (by rfl)
            have f78 : xs 11 = _ := hA.fa 11 (by rfl)
            (try simp (disch := rfl) only [Rely.mask_in] at f78)
            rw [f78] at e78
            clear f78
            have e6 := hA.pre 6 (by kernel_rfl)
            simp only [List.getElem?_toArray, List.getElem?_cons_succ, List.getElem?_cons_zero] at e6
            clear hA
            refine ⟨((Rely.wanted_at rfl (by rfl) e78).trans (by rfl)), ?_⟩
            go_simp <;> (try with_reducible rfl)
          refine Rely.Chain.det ?_ (by rfl) (fun T xs wr hA => ?_) ?_
          rotate_left 1
          · obtain ⟨x00, x01, x10, x11, y10, y11, y20, y21, y30, y31, y40, y41⟩ := HSx.out wr hA.bw
            have e78 := hA.tm 11 78 (by rfl) (by rfl)
            have f78 : xs 11 = _ := hA.fa 11 (by rfl)
            (try simp (disch := rfl) only [Rely.mask_in] at f78)
            rw [f78] at e78
            clear f78
            have e6 := hA.pre 6 (by kernel_rfl)
            simp only [List.getElem?_toArray, List.getElem?_cons_succ, List.getElem?_cons_zero] at e6
            clear hA
            refine ⟨((Rely.wanted_at rfl (by rfl) e78).trans (by rfl)), ?_⟩
            go_simp <;> (try with_reducible rfl)
          refine Rely.Chain.call (fun _ v w => CI w v 0 2) (fun _ _ _ _ h hb => h.below hb) (fun _ _ _ _ _ h hp => h.keeps hp.keeps) (by rfl) (fun T xs wr hA => ?_) ?_
          · have hbw := undrew hA.bw
            have e78 := hA.tm 11 78 (by rfl) (by rfl)
            have f78 : xs 11 = _ := hA.fa 11 (by rfl)
            (try simp (disch := rfl) only [Rely.mask_in] at f78)
            rw [f78] at e78
            clear f78
            clear hA
            refine ⟨((Rely.wanted_at rfl (by rfl) e78).trans (by rfl)), fun K hK => ?_⟩
            clear e78
            go_simp
            refine (wof_any 0 _ (by omega) (by omega)).mono ?_
            rintro e wq ⟨v, rfl, c, hb⟩
            exact hK.out _ _ c hb
          refine Rely.Chain.call (fun _ v w => CI w v (R + 0) 23) (fun _ _ _ _ h hb => h.below hb) (fun _ _ _ _ _ h hp => h.keeps hp.keeps) (by rfl) (fun T xs wr hA => ?_) ?_
          · have hbw := undrew hA.bw
            have e78 := hA.tm 11 78 (by rfl) (by rfl)
            have f78 : xs 11 = _ := hA.fa 11 (by rfl)
            (try simp (disch := rfl) only [Rely.mask_in] at f78)
            rw [f78] at e78
            clear f78
            have e80 := hA.tm 13 80 (by rfl) (by rfl)
            have f80 : xs 13 = _ := hA.fa 13 (by rfl)
            (try simp (disch := rfl) only [Rely.mask_in] at f80)
            rw [f80] at e80
            clear f80
            have e81 := hA.tm 14 81 (by rfl) (by rfl)
            have c_r := c_r.below hbw
            have c_z2 : CI wr (xs 14) 0 2 := hA.fa 14 (by rfl)
            clear hA
            refine ⟨((Rely.wanted_at rfl (by rfl) e78).trans (by rfl)), fun K hK => ?_⟩
            clear e78
            go_simp
            refine (wadd_any _ _ R 0 20 2 _ c_r.gi c_z2.gi (by omega) (by omega)).mono ?_
            rintro e wq ⟨v, rfl, c, hb⟩
            exact hK.out _ _ c hb
          refine Rely.Chain.call (fun _ v _ => v = .bool true) (fun _ _ _ _ h _ => h) (fun _ _ _ _ _ h _ => h) (by rfl) (fun T xs wr hA => ?_) ?_
          · have hbw := undrew hA.bw
            have e78 := hA.tm 11 78 (by rfl) (by rfl)
            have f78 : xs 11 = _ := hA.fa 11 (by rfl)
            (try simp (disch := rfl) only [Rely.mask_in] at f78)
            rw [f78] at e78
            clear f78
            have e79 := hA.tm 12 79 (by rfl) (by rfl)
            have f79 : xs 12 = _ := hA.fa 12 (by rfl)
            (try simp (disch := rfl) only [Rely.mask_in] at f79)
            rw [f79] at e79
            clear f79
            have e82 := hA.tm 15 82 (by rfl) (by rfl)
            have c_r := c_r.below hbw
            have c_u2 : CI wr (xs 15) (R + 0) 23 := hA.fa 15 (by rfl)
            clear hA
            refine ⟨((Rely.wanted_at rfl (by rfl) e78).trans (by rfl)), fun K hK => ?_⟩
            clear e78
            go_simp
            refine (same_true _ _ R 20 23 _ c_r (c_u2.to (Int.add_zero R)) (by omega) (by omega)).mono ?_
            rintro e wq ⟨rfl, hb⟩
            exact hK.out _ _ rfl hb
          refine Rely.Chain.det ?_ (by rfl) (fun T xs wr hA => ?_) ?_
          rotate_left 1
          · have e78 := hA.tm 11 78 (by rfl) (by rfl)
            have f78 : xs 11 = _ := hA.fa 11 (by rfl)
            (try simp (disch := rfl) only [Rely.mask_in] at f78)
            rw [f78] at e78
            clear f78
            have e83 := hA.tm 16 83 (by rfl) (by rfl)
            have f83 : xs 16 = (.bool true) := hA.fa 16 (by rfl)
            rw [f83] at e83
            clear f83
            clear hA
            refine ⟨(by rfl), ?_⟩
            go_simp <;> (try with_reducible rfl)
          refine Rely.Chain.det ?_ (by rfl) (fun T xs wr hA => ?_) ?_
          rotate_left 1
          · have e84 := hA.tm 17 84 (by rfl) (by rfl)
            have f84 : xs 17 = _ := hA.fa 17 (by rfl)
            (try simp (disch := rfl) only [Rely.mask_in] at f84)
            rw [f84] at e84
            clear f84
            clear hA
            refine ⟨(by rfl), ?_⟩
            go_simp <;> (try with_reducible rfl)
          refine Rely.Chain.done (fun xs wx10 hL => ?_)
          obtain ⟨hbx', hf, hp, hn⟩ := hL
          have f0 : xs 0 = _ := hf 0 (by decide)
          (try simp (disch := rfl) only [Rely.mask_in] at f0)
          have f1 : xs 1 = _ := hf 1 (by decide)
          (try simp (disch := rfl) only [Rely.mask_in] at f1)
          have f2 : xs 2 = (.int .i64 (-1)) := hf 2 (by decide)
          (try simp (disch := rfl) only [Rely.mask_in] at f2)
          have f3 : xs 3 = _ := hf 3 (by decide)
          (try simp (disch := rfl) only [Rely.mask_in] at f3)
          have f4 : xs 4 = _ := hf 4 (by decide)
          (try simp (disch := rfl) only [Rely.mask_in] at f4)
          have f5 : xs 5 = _ := hf 5 (by decide)
          (try simp (disch := rfl) only [Rely.mask_in] at f5)
          have f6 : xs 6 = _ := hf 6 (by decide)
          (try simp (disch := rfl) only [Rely.mask_in] at f6)
          have c_z : CI wx10 (xs 7) 0 2 := hf 7 (by decide)
          have c_u : CI wx10 (xs 8) (Q + 0) 26 := hf 8 (by decide)
          have f9 : xs 9 = (.bool true) := hf 9 (by decide)
          (try simp (disch := rfl) only [Rely.mask_in] at f9)
          have f10 : xs 10 = _ := hf 10 (by decide)
          (try simp (disch := rfl) only [Rely.mask_in] at f10)
          have f11 : xs 11 = _ := hf 11 (by decide)
          (try simp (disch := rfl) only [Rely.mask_in] at f11)
          have f12 : xs 12 = _ := hf 12 (by decide)
          (try simp (disch := rfl) only [Rely.mask_in] at f12)
          have f13 : xs 13 = _ := hf 13 (by decide)
          (try simp (disch := rfl) only [Rely.mask_in] at f13)
          have c_z2 : CI wx10 (xs 14) 0 2 := hf 14 (by decide)
          have c_u2 : CI wx10 (xs 15) (R + 0) 23 := hf 15 (by decide)
          have f16 : xs 16 = (.bool true) := hf 16 (by decide)
          (try simp (disch := rfl) only [Rely.mask_in] at f16)
          have f17 : xs 17 = _ := hf 17 (by decide)
          (try simp (disch := rfl) only [Rely.mask_in] at f17)
          have f18 : xs 18 = _ := hf 18 (by decide)
          (try simp (disch := rfl) only [Rely.mask_in] at f18)
          clear hf hp hn
          refine Rely.rest_done ?_
          simp only [Rely.fill, List.setIfInBounds_toArray, List.set_cons_zero, List.set_cons_succ, f0, f1, f2, f3, f4, f5, f6, f9, f10, f11, f12, f13, f16, f17, f18]
          clear f0 f1 f2 f3 f4 f5 f6 f9 f10 f11 f12 f13 f16 f17 f18
          generalize xs 7 = v_z at c_z ⊢
          generalize xs 8 = v_u at c_u ⊢
          generalize xs 14 = v_z2 at c_z2 ⊢
          generalize xs 15 = v_u2 at c_u2 ⊢
          clear xs
          obtain ⟨b_z, o_z, l_z, k_z, rfl⟩ := c_z.shape
          obtain ⟨b_u, o_u, l_u, k_u, rfl⟩ := c_u.shape
          obtain ⟨b_z2, o_z2, l_z2, k_z2, rfl⟩ := c_z2.shape
          obtain ⟨b_u2, o_u2, l_u2, k_u2, rfl⟩ := c_u2.shape
          have hbx := undrew hbx'
          clear hbx'
          clear HSx
          replace g0 := g0.below hbx
          replace g1 := g1.below hbx
          replace c_q := c_q.below hbx
          replace c_r := c_r.below hbx
          replace c_m := c_m.below hbx
          replace c_a := c_a.below hbx
          replace g_x := g_x.below hbx
          replace g_y := g_y.below hbx
          replace hbt := hbt.trans (hbx.mono hbt.size)
          replace HB_x0 := Lib.hid ((hbx.block _ (lt_of_block HB_x0.out)).trans HB_x0.out)
          replace HB_x1 := Lib.hid ((hbx.block _ (lt_of_block HB_x1.out)).trans HB_x1.out)
          replace HB_y1 := Lib.hid ((hbx.block _ (lt_of_block HB_y1.out)).trans HB_y1.out)
          replace HB_y2 := Lib.hid ((hbx.block _ (lt_of_block HB_y2.out)).trans HB_y2.out)
          replace HB_y3 := Lib.hid ((hbx.block _ (lt_of_block HB_y3.out)).trans HB_y3.out)
          replace HB_y4 := Lib.hid ((hbx.block _ (lt_of_block HB_y4.out)).trans HB_y4.out)
          clear hbx
          replace x00 := (two_cells HB_x0.out).1
          replace x01 := (two_cells HB_x0.out).2.1
          replace x10 := (two_cells HB_x1.out).1
          replace x11 := (two_cells HB_x1.out).2.1
          replace y10 := (two_cells HB_y1.out).1
          replace y11 := (two_cells HB_y1.out).2.1
          replace y20 := (two_cells HB_y2.out).1
          replace y21 := (two_cells HB_y2.out).2.1
          replace y30 := (two_cells HB_y3.out).1
          replace y31 := (two_cells HB_y3.out).2.1
          replace y40 := (two_cells HB_y4.out).1
          replace y41 := (two_cells HB_y4.out).2.1
          go_wp2_with fail
          go_ret
          exact ⟨rfl, hbt⟩
        · have HSGR : Hid (sgnZ R = 1) := Lib.hid (hr.trans HSB.out)
          clear hr HSR
          have hbt := below2 w (.cells #[.bool b0, .slice o0 n0 m0] 25) (.cells #[.bool b1, .slice o1 n1 m1] 25)
          have hbk := blocks2 (Below.refl (w.heap.size + 2) ((w.alloc (.cells #[.bool b0, .slice o0 n0 m0] 25)).alloc (.cells #[.bool b1, .slice o1 n1 m1] 25)))
          have HB_x0 := Lib.hid hbk.1
          have HB_x1 := Lib.hid hbk.2
          clear hbk
          replace g0 := g0.below hbt
          have x00 := (two_cells HB_x0.out).1
          have x01 := (two_cells HB_x0.out).2.1
          replace g1 := g1.below hbt
          have x10 := (two_cells HB_x1.out).1
          have x11 := (two_cells HB_x1.out).2.1
          go_enter Tryd.func4, Tryd.ntmps4
          go_wp2_with fail
          generalize ((w.alloc (.cells #[.bool b0, .slice o0 n0 m0] 25)).alloc (.cells #[.bool b1, .slice o1 n1 m1] 25)) = w0 at *
          refine (HF.out _ (tab_below HTB.out hbt)).mono ?_
          rintro e wx1 ⟨rfl, hbx⟩
          replace g0 := g0.below hbx
          replace g1 := g1.below hbx
          replace hbt := hbt.trans (hbx.mono hbt.size)
          replace HB_x0 := Lib.hid ((hbx.block _ (lt_of_block HB_x0.out)).trans HB_x0.out)
          replace HB_x1 := Lib.hid ((hbx.block _ (lt_of_block HB_x1.out)).trans HB_x1.out)
          clear hbx
          replace x00 := (two_cells HB_x0.out).1
          replace x01 := (two_cells HB_x0.out).2.1
          replace x10 := (two_cells HB_x1.out).1
          replace x11 := (two_cells HB_x1.out).2.1
          go_wp2_with fail
          refine (short_t2 20 _ rfl l0 l1).mono ?_
          rintro e wx2 ⟨rfl, hbx⟩
          replace g0 := g0.below hbx
          replace g1 := g1.below hbx
          replace hbt := hbt.trans (hbx.mono hbt.size)
          replace HB_x0 := Lib.hid ((hbx.block _ (lt_of_block HB_x0.out)).trans HB_x0.out)
          replace HB_x1 := Lib.hid ((hbx.block _ (lt_of_block HB_x1.out)).trans HB_x1.out)
          clear hbx
          replace x00 := (two_cells HB_x0.out).1
          replace x01 := (two_cells HB_x0.out).2.1
          replace x10 := (two_cells HB_x1.out).1
          replace x11 := (two_cells HB_x1.out).2.1
          go_wp2_with fail
          refine (wdiv_any _ _ A B 20 20 _ g0 g1 (by omega) (by omega) HB0.out).mono ?_
          rintro e wx3 ⟨v_q, v_r, rfl, c_q, c_r, hbx⟩
          rw [HQ.out] at c_q
          rw [HR.out] at c_r
          replace g0 := g0.below hbx
          replace g1 := g1.below hbx
          replace hbt := hbt.trans (hbx.mono hbt.size)
          replace HB_x0 := Lib.hid ((hbx.block _ (lt_of_block HB_x0.out)).trans HB_x0.out)
          replace HB_x1 := Lib.hid ((hbx.block _ (lt_of_block HB_x1.out)).trans HB_x1.out)
          clear hbx
          replace x00 := (two_cells HB_x0.out).1
          replace x01 := (two_cells HB_x0.out).2.1
          replace x10 := (two_cells HB_x1.out).1
          replace x11 := (two_cells HB_x1.out).2.1
          obtain ⟨b_q, o_q, l_q, k_q, rfl⟩ := c_q.shape
          obtain ⟨b_r, o_r, l_r, k_r, rfl⟩ := c_r.shape
          have hlt_x0 := lt_of_block HB_x0.out
          have hlu_x0 : w.heap.size < wx3.heap.size + 1 := Nat.lt_succ_of_lt hlt_x0
          have hlt_x1 := lt_of_block HB_x1.out
          have hlu_x1 : w.heap.size + 1 < wx3.heap.size + 1 := Nat.lt_succ_of_lt hlt_x1
          go_wp2_with fail
          clear hlt_x0 hlu_x0 hlt_x1 hlu_x1
          have hbx : Below wx3.heap.size wx3 ((wx3.alloc (.cells #[.bool b_q, .slice o_q l_q k_q] 25)).alloc (.cells #[.bool b_r, .slice o_r l_r k_r] 25)) := below2 wx3 (.cells #[.bool b_q, .slice o_q l_q k_q] 25) (.cells #[.bool b_r, .slice o_r l_r k_r] 25)
          replace g0 := g0.below hbx
          replace g1 := g1.below hbx
          replace c_q := c_q.below hbx
          replace c_r := c_r.below hbx
          replace hbt := hbt.trans (hbx.mono hbt.size)
          replace HB_x0 := Lib.hid ((hbx.block _ (lt_of_block HB_x0.out)).trans HB_x0.out)
          replace HB_x1 := Lib.hid ((hbx.block _ (lt_of_block HB_x1.out)).trans HB_x1.out)
          clear hbx
          replace x00 := (two_cells HB_x0.out).1
          replace x01 := (two_cells HB_x0.out).2.1
          replace x10 := (two_cells HB_x1.out).1
          replace x11 := (two_cells HB_x1.out).2.1
          have hbk := blocks2 (Below.refl (wx3.heap.size + 2) ((wx3.alloc (.cells #[.bool b_q, .slice o_q l_q k_q] 25)).alloc (.cells #[.bool b_r, .slice o_r l_r k_r] 25)))
          have HB_y1 := Lib.hid hbk.1
          have HB_y2 := Lib.hid hbk.2
          clear hbk
          have y10 := (two_cells HB_y1.out).1
          have y11 := (two_cells HB_y1.out).2.1
          have y20 := (two_cells HB_y2.out).1
          have y21 := (two_cells HB_y2.out).2.1
          generalize ((wx3.alloc (.cells #[.bool b_q, .slice o_q l_q k_q] 25)).alloc (.cells #[.bool b_r, .slice o_r l_r k_r] 25)) = wx4 at *
          refine (wsign_s _ B 20 1 _ g1 HSB.out (by omega)).mono ?_
          rintro e wx5 ⟨rfl, hbx⟩
          replace g0 := g0.below hbx
          replace g1 := g1.below hbx
          replace c_q := c_q.below hbx
          replace c_r := c_r.below hbx
          replace hbt := hbt.trans (hbx.mono hbt.size)
          replace HB_x0 := Lib.hid ((hbx.block _ (lt_of_block HB_x0.out)).trans HB_x0.out)
          replace HB_x1 := Lib.hid ((hbx.block _ (lt_of_block HB_x1.out)).trans HB_x1.out)
          replace HB_y1 := Lib.hid ((hbx.block _ (lt_of_block HB_y1.out)).trans HB_y1.out)
          replace HB_y2 := Lib.hid ((hbx.block _ (lt_of_block HB_y2.out)).trans HB_y2.out)
          clear hbx
          replace x00 := (two_cells HB_x0.out).1
          replace x01 := (two_cells HB_x0.out).2.1
          replace x10 := (two_cells HB_x1.out).1
          replace x11 := (two_cells HB_x1.out).2.1
          replace y10 := (two_cells HB_y1.out).1
          replace y11 := (two_cells HB_y1.out).2.1
          replace y20 := (two_cells HB_y2.out).1
          replace y21 := (two_cells HB_y2.out).2.1
          go_wp2_with fail
          have HSx := Lib.hid (show ∀ w', Below wx5.drew.heap.size wx5.drew w' → w'.cell? ⟨w.heap.size, 0, none⟩ = some (.bool b0) ∧ w'.cell? ⟨w.heap.size, 1, none⟩ = some (.slice o0 n0 m0) ∧ w'.cell? ⟨w.heap.size + 1, 0, none⟩ = some (.bool b1) ∧ w'.cell? ⟨w.heap.size + 1, 1, none⟩ = some (.slice o1 n1 m1) ∧ w'.cell? ⟨wx3.heap.size, 0, none⟩ = some (.bool b_q) ∧ w'.cell? ⟨wx3.heap.size, 1, none⟩ = some (.slice o_q l_q k_q) ∧ w'.cell? ⟨wx3.heap.size + 1, 0, none⟩ = some (.bool b_r) ∧ w'.cell? ⟨wx3.heap.size + 1, 1, none⟩ = some (.slice o_r l_r k_r) from fun w' hb => ⟨(hb.cell (lt_of_block HB_x0.out)).trans x00, (hb.cell (lt_of_block HB_x0.out)).trans x01, (hb.cell (lt_of_block HB_x1.out)).trans x10, (hb.cell (lt_of_block HB_x1.out)).trans x11, (hb.cell (lt_of_block HB_y1.out)).trans y10, (hb.cell (lt_of_block HB_y1.out)).trans y11, (hb.cell (lt_of_block HB_y2.out)).trans y20, (hb.cell (lt_of_block HB_y2.out)).trans y21⟩)
          refine Rely.region (by kernel_rfl) [[], [0], [0, 1], [0, 1, 2], [0, 1, 2], [0, 1, 2, 3, 4], [0, 1, 2], [0, 1, 2, 3, 4, 5, 6], [0, 1, 2], [0, 1, 2, 3, 4, 5, 6, 7, 8], [0, 1, 2, 3, 4, 5, 6, 7, 8, 9], [0, 1, 2, 3, 4, 5, 6, 7, 8, 9, 10], [0, 1, 2, 3, 4, 5, 6, 7, 8, 9, 10, 11], [0, 1, 2, 3, 4, 5, 6, 7, 8, 9, 10, 11, 12], [0, 1, 2, 3, 4, 5, 6, 7, 8, 9, 10, 11, 12, 13], [0, 1, 2, 3, 4, 5, 6, 7, 8, 9, 10, 11, 12, 13, 14], [0, 1, 2, 3, 4, 5, 6, 7, 8, 9, 10, 11, 12, 13, 14, 15], [0, 1, 2, 3, 4, 5, 6, 7, 8, 9, 10, 11, 12, 13, 14, 15, 16], [0, 1, 2, 3, 4, 5, 6, 7, 8, 9, 10, 11, 12, 13, 14, 15, 16, 17], [0, 1, 2, 3, 4, 5, 6, 7, 8, 9, 10, 11, 12, 13, 14, 15, 16], [0, 1, 2, 3, 4, 5, 6, 7, 8, 9, 10, 11, 12, 13, 14, 15, 16, 17, 18, 19], [0, 1, 2, 3, 4, 5, 6, 7, 8, 9, 10, 11, 12, 13, 14, 15, 16, 17, 18, 19, 20], [0, 1, 2, 3, 4, 5, 6, 7, 8, 9, 10, 11, 12, 13, 14, 15, 16, 17, 18, 19, 20, 21], [0, 1, 2, 3, 4, 5, 6, 7, 8, 9, 10, 11, 12, 13, 14, 15, 16, 17, 18, 19, 20, 21, 22]] [] [] 24 (by kernel_rfl) (by kernel_rfl) ?_
          refine Rely.Chain.det ?_ (by rfl) (fun T xs wr hA => ?_) ?_
          rotate_left 1
          · have e7 := hA.pre 7 (by kernel_rfl)
            simp only [List.getElem?_toArray, List.getElem?_cons_succ, List.getElem?_cons_zero] at e7
            clear hA
            refine ⟨(by rfl), ?_⟩
            go_simp <;> (try with_reducible rfl)
          refine Rely.Chain.det ?_ (by rfl) (fun T xs wr hA => ?_) ?_
          rotate_left 1
          · have e39 := hA.tm 0 39 (by rfl) (by rfl)
            have f39 : xs 0 = _ := hA.fa 0 (by rfl)
            (try simp (disch := rfl) only [Rely.mask_in] at f39)
            rw [f39] at e39
            clear f39
            clear hA
            refine ⟨(by rfl), ?_⟩
            go_simp <;> (try with_reducible rfl)
          refine Rely.Chain.det ?_ (by rfl) (fun T xs wr hA => ?_) ?_
          rotate_left 1
          · have e40 := hA.tm 1 40 (by rfl) (by rfl)
            have f40 : xs 1 = _ := hA.fa 1 (by rfl)
            (try simp (disch := rfl) only [Rely.mask_in] at f40)
            rw [f40] at e40
            clear f40
            clear hA
            refine ⟨(by rfl), ?_⟩
            go_simp <;> (try with_reducible rfl)
          refine Rely.Chain.det ?_ (by rfl) (fun T xs wr hA => ?_) ?_
          rotate_left 1
          · obtain ⟨x00, x01, x10, x11, y10, y11, y20, y21⟩ := HSx.out wr hA.bw
            have e41 := hA.tm 2 41 (by rfl) (by rfl)
            have f41 : xs 2 = _ := hA.fa 2 (by rfl)
            (try simp (disch := rfl) only [Rely.mask_in] at f41)
            rw [f41] at e41
            clear f41
            have e5 := hA.pre 5 (by kernel_rfl)
            simp only [List.getElem?_toArray, List.getElem?_cons_succ, List.getElem?_cons_zero] at e5
            clear hA
            refine ⟨((Rely.wanted_at rfl (by rfl) e41).trans (by rfl)), ?_⟩
            go_simp <;> (try with_reducible rfl)
          refine Rely.Chain.det ?_ (by rfl) (fun T xs wr hA => ?_) ?_
          rotate_left 1
          · obtain ⟨x00, x01, x10, x11, y10, y11, y20, y21⟩ := HSx.out wr hA.bw
            have e41 := hA.tm 2 41 (by rfl) (by rfl)
            have f41 : xs 2 = _ := hA.fa 2 (by rfl)
            (try simp (disch := rfl) only [Rely.mask_in] at f41)
            rw [f41] at e41
            clear f41
            have e3 := hA.pre 3 (by kernel_rfl)
            simp only [List.getElem?_toArray, List.getElem?_cons_succ, List.getElem?_cons_zero] at e3
            clear hA
            refine ⟨((Rely.wanted_at rfl (by rfl) e41).trans (by rfl)), ?_⟩
            go_simp <;> (try with_reducible rfl)
          refine Rely.Chain.call (fun _ v w => CI w v (Q * B) 43) (fun _ _ _ _ h hb => h.below hb) (fun _ _ _ _ _ h hp => h.keeps hp.keeps) (by rfl) (fun T xs wr hA => ?_) ?_
          · have hbw := undrew hA.bw
            have e41 := hA.tm 2 41 (by rfl) (by rfl)
            have f41 : xs 2 = _ := hA.fa 2 (by rfl)
            (try simp (disch := rfl) only [Rely.mask_in] at f41)
            rw [f41] at e41
            clear f41
            have e42 := hA.tm 3 42 (by rfl) (by rfl)
            have f42 : xs 3 = _ := hA.fa 3 (by rfl)
            (try simp (disch := rfl) only [Rely.mask_in] at f42)
            rw [f42] at e42
            clear f42
            have e43 := hA.tm 4 43 (by rfl) (by rfl)
            have f43 : xs 4 = _ := hA.fa 4 (by rfl)
            (try simp (disch := rfl) only [Rely.mask_in] at f43)
            rw [f43] at e43
            clear f43
            have c_q := c_q.below hbw
            have g1 := g1.below hbw
            clear hA
            refine ⟨((Rely.wanted_at rfl (by rfl) e41).trans (by rfl)), fun K hK => ?_⟩
            clear e41
            go_simp
            refine (wmul_any _ _ Q B 23 20 _ c_q.gi g1 (by omega) (by omega)).mono ?_
            rintro e wq ⟨v, rfl, c, hb⟩
            exact hK.out _ _ c hb
          refine Rely.Chain.det ?_ (by rfl) (fun T xs wr hA => ?_) ?_
          rotate_left 1
          · obtain ⟨x00, x01, x10, x11, y10, y11, y20, y21⟩ := HSx.out wr hA.bw
            have e41 := hA.tm 2 41 (by rfl) (by rfl)
            have f41 : xs 2 = _ := hA.fa 2 (by rfl)
            (try simp (disch := rfl) only [Rely.mask_in] at f41)
            rw [f41] at e41
            clear f41
            have e6 := hA.pre 6 (by kernel_rfl)
            simp only [List.getElem?_toArray, List.getElem?_cons_succ, List.getElem?_cons_zero] at e6
            clear hA
            refine ⟨((Rely.wanted_at rfl (by rfl) e41).trans (by rfl)), ?_⟩
            go_simp <;> (try with_reducible rfl)
          refine Rely.Chain.call (fun _ v w => CI w v (Q * B + R) 64) (fun _ _ _ _ h hb => h.below hb) (fun _ _ _ _ _ h hp => h.keeps hp.keeps) (by rfl) (fun T xs wr hA => ?_) ?_
          · have hbw := undrew hA.bw
            have e41 := hA.tm 2 41 (by rfl) (by rfl)
            have f41 : xs 2 = _ := hA.fa 2 (by rfl)
            (try simp (disch := rfl) only [Rely.mask_in] at f41)
            rw [f41] at e41
            clear f41
            have e44 := hA.tm 5 44 (by rfl) (by rfl)
            have e45 := hA.tm 6 45 (by rfl) (by rfl)
            have f45 : xs 6 = _ := hA.fa 6 (by rfl)
            (try simp (disch := rfl) only [Rely.mask_in] at f45)
            rw [f45] at e45
            clear f45
            have c_m : CI wr (xs 5) (Q * B) 43 := hA.fa 5 (by rfl)
            have c_r := c_r.below hbw
            clear hA
            refine ⟨((Rely.wanted_at rfl (by rfl) e41).trans (by rfl)), fun K hK => ?_⟩
            clear e41
            go_simp
            refine (wadd_any _ _ (Q * B) R 43 20 _ c_m.gi c_r.gi (by omega) (by omega)).mono ?_
            rintro e wq ⟨v, rfl, c, hb⟩
            exact hK.out _ _ c hb
          refine Rely.Chain.det ?_ (by rfl) (fun T xs wr hA => ?_) ?_
          rotate_left 1
          · obtain ⟨x00, x01, x10, x11, y10, y11, y20, y21⟩ := HSx.out wr hA.bw
            have e41 := hA.tm 2 41 (by rfl) (by rfl)
            have f41 : xs 2 = _ := hA.fa 2 (by rfl)
            (try simp (disch := rfl) only [Rely.mask_in] at f41)
            rw [f41] at e41
            clear f41
            have e2 := hA.pre 2 (by kernel_rfl)
            simp only [List.getElem?_toArray, List.getElem?_cons_succ, List.getElem?_cons_zero] at e2
            clear hA
            refine ⟨((Rely.wanted_at rfl (by rfl) e41).trans (by rfl)), ?_⟩
            go_simp <;> (try with_reducible rfl)
          refine Rely.Chain.call (fun _ v _ => v = .int .i64 0) (fun _ _ _ _ h _ => h) (fun _ _ _ _ _ h _ => h) (by rfl) (fun T xs wr hA => ?_) ?_
          · have hbw := undrew hA.bw
            have e41 := hA.tm 2 41 (by rfl) (by rfl)
            have f41 : xs 2 = _ := hA.fa 2 (by rfl)
            (try simp (disch := rfl) only [Rely.mask_in] at f41)
            rw [f41] at e41
            clear f41
            have e46 := hA.tm 7 46 (by rfl) (by rfl)
            have e47 := hA.tm 8 47 (by rfl) (by rfl)
            have f47 : xs 8 = _ := hA.fa 8 (by rfl)
            (try simp (disch := rfl) only [Rely.mask_in] at f47)
            rw [f47] at e47
            clear f47
            have c_a : CI wr (xs 7) (Q * B + R) 64 := hA.fa 7 (by rfl)
            have g0 := g0.below hbw
            clear hA
            refine ⟨((Rely.wanted_at rfl (by rfl) e41).trans (by rfl)), fun K hK => ?_⟩
            clear e41
            go_simp
            refine (wcmp_s _ _ (Q * B + R) A 64 20 0 _ c_a.gi g0 HSUM.out (by omega) (by omega)).mono ?_
            rintro e wq ⟨rfl, hb⟩
            exact hK.out _ _ rfl hb
          refine Rely.Chain.det ?_ (by rfl) (fun T xs wr hA => ?_) ?_
          rotate_left 1
          · have e41 := hA.tm 2 41 (by rfl) (by rfl)
            have f41 : xs 2 = _ := hA.fa 2 (by rfl)
            (try simp (disch := rfl) only [Rely.mask_in] at f41)
            rw [f41] at e41
            clear f41
            have e48 := hA.tm 9 48 (by rfl) (by rfl)
            have f48 : xs 9 = (.int .i64 0) := hA.fa 9 (by rfl)
            rw [f48] at e48
            clear f48
            clear hA
            refine ⟨((Rely.wanted_at rfl (by rfl) e41).trans (by rfl)), ?_⟩
            go_simp <;> (try with_reducible rfl)
          refine Rely.Chain.det ?_ (by rfl) (fun T xs wr hA => ?_) ?_
          rotate_left 1
          · have e41 := hA.tm 2 41 (by rfl) (by rfl)
            have f41 : xs 2 = _ := hA.fa 2 (by rfl)
            (try simp (disch := rfl) only [Rely.mask_in] at f41)
            rw [f41] at e41
            clear f41
            have e49 := hA.tm 10 49 (by rfl) (by rfl)
            have f49 : xs 10 = _ := hA.fa 10 (by rfl)
            (try simp (disch := rfl) only [Rely.mask_in] at f49)
            rw [f49] at e49
            clear f49
            clear hA
            refine ⟨(by rfl), ?_⟩
            go_simp <;> (try with_reducible rfl)
          refine Rely.Chain.det ?_ (by rfl) (fun T xs wr hA => ?_) ?_
          rotate_left 1
          · have e50 := hA.tm 11 50 (by rfl) (by rfl)
            have f50 : xs 11 = _ := hA.fa 11 (by rfl)
            (try simp (disch := rfl) only [Rely.mask_in] at f50)
            rw [f50] at e50
            clear f50
            clear hA
            refine ⟨(by rfl), ?_⟩
            go_simp <;> (try with_reducible rfl)
          refine Rely.Chain.det ?_ (by rfl) (fun T xs wr hA => ?_) ?_
          rotate_left 1
          · obtain ⟨x00, x01, x10, x11, y10, y11, y20, y21⟩ := HSx.out wr hA.bw
            have e51 := hA.tm 12 51 (by rfl) (by rfl)
            have f51 : xs 12 = _ := hA.fa 12 (by rfl)
            (try simp (disch := rfl) only [Rely.mask_in] at f51)
            rw [f51] at e51
            clear f51
            have e6 := hA.pre 6 (by kernel_rfl)
            simp only [List.getElem?_toArray, List.getElem?_cons_succ, List.getElem?_cons_zero] at e6
            clear hA
            refine ⟨((Rely.wanted_at rfl (by rfl) e51).trans (by rfl)), ?_⟩
            go_simp <;> (try with_reducible rfl)
          refine Rely.Chain.call (fun _ v _ => v = .int .i64 1) (fun _ _ _ _ h _ => h) (fun _ _ _ _ _ h _ => h) (by rfl) (fun T xs wr hA => ?_) ?_
          · have hbw := undrew hA.bw
            have e51 := hA.tm 12 51 (by rfl) (by rfl)
            have f51 : xs 12 = _ := hA.fa 12 (by rfl)
            (try simp (disch := rfl) only [Rely.mask_in] at f51)
            rw [f51] at e51
            clear f51
            have e52 := hA.tm 13 52 (by rfl) (by rfl)
            have f52 : xs 13 = _ := hA.fa 13 (by rfl)
            (try simp (disch := rfl) only [Rely.mask_in] at f52)
            rw [f52] at e52
            clear f52
            have c_r := c_r.below hbw
            clear hA
            refine ⟨((Rely.wanted_at rfl (by rfl) e51).trans (by rfl)), fun K hK => ?_⟩
            clear e51
            go_simp
            refine (wsign_s _ R 20 1 _ c_r.gi HSGR.out (by omega)).mono ?_
            rintro e wq ⟨rfl, hb⟩
            exact hK.out _ _ rfl hb
          refine Rely.Chain.det ?_ (by rfl) (fun T xs wr hA => ?_) ?_
          rotate_left 1
          · have e51 := hA.tm 12 51 (by rfl) (by rfl)
            have f51 : xs 12 = _ := hA.fa 12 (by rfl)
            (try simp (disch := rfl) only [Rely.mask_in] at f51)
            rw [f51] at e51
            clear f51
            have e53 := hA.tm 14 53 (by rfl) (by rfl)
            have f53 : xs 14 = (.int .i64 1) := hA.fa 14 (by rfl)
            rw [f53] at e53
            clear f53
            clear hA
            refine ⟨((Rely.wanted_at rfl (by rfl) e51).trans (by rfl)), ?_⟩
            go_simp <;> (try with_reducible rfl)
          refine Rely.Chain.det ?_ (by rfl) (fun T xs wr hA => ?_) ?_
          rotate_left 1
          · have e51 := hA.tm 12 51 (by rfl) (by rfl)
            have f51 : xs 12 = _ := hA.fa 12 (by rfl)
            (try simp (disch := rfl) only [Rely.mask_in] at f51)
            rw [f51] at e51
            clear f51
            have e54 := hA.tm 15 54 (by rfl) (by rfl)
            have f54 : xs 15 = _ := hA.fa 15 (by rfl)
            (try simp (disch := rfl) only [Rely.mask_in] at f54)
            rw [f54] at e54
            clear f54
            clear hA
            refine ⟨((Rely.wanted_at rfl (by rfl) e51).trans (by rfl)), ?_⟩
            go_simp <;> (try with_reducible rfl)
          refine Rely.Chain.det ?_ (by rfl) (fun T xs wr hA => ?_) ?_
          rotate_left 1
          · obtain ⟨x00, x01, x10, x11, y10, y11, y20, y21⟩ := HSx.out wr hA.bw
            have e55 := hA.tm 16 55 (by rfl) (by rfl)
            have f55 : xs 16 = _ := hA.fa 16 (by rfl)
            (try simp (disch := rfl) only [Rely.mask_in] at f55)
            rw [f55] at e55
            clear f55
            have e6 := hA.pre 6 (by kernel_rfl)
            simp only [List.getElem?_toArray, List.getElem?_cons_succ, List.getElem?_cons_zero] at e6
            clear hA
            refine ⟨((Rely.wanted_at rfl (by rfl) e55).trans (by rfl)), ?_⟩
            go_simp <;> (try with_reducible rfl)
          refine Rely.Chain.call (fun _ v _ => v = .int .i64 1) (fun _ _ _ _ h _ => h) (fun _ _ _ _ _ h _ => h) (by rfl) (fun T xs wr hA => ?_) ?_
          · have hbw := undrew hA.bw
            have e55 := hA.tm 16 55 (by rfl) (by rfl)
            have f55 : xs 16 = _ := hA.fa 16 (by rfl)
            (try simp (disch := rfl) only [Rely.mask_in] at f55)
            rw [f55] at e55
            clear f55
            have e56 := hA.tm 17 56 (by rfl) (by rfl)
            have f56 : xs 17 = _ := hA.fa 17 (by rfl)
            (try simp (disch := rfl) only [Rely.mask_in] at f56)
            rw [f56] at e56
            clear f56
            have c_r := c_r.below hbw
            clear hA
            refine ⟨((Rely.wanted_at rfl (by rfl) e55).trans (by rfl)), fun K hK => ?_⟩
            clear e55
            go_simp
            refine (wsign_s _ R 20 1 _ c_r.gi HSGR.out (by omega)).mono ?_
            rintro e wq ⟨rfl, hb⟩
            exact hK.out _ _ rfl hb
          refine Rely.Chain.det ?_ (by rfl) (fun T xs wr hA => ?_) ?_
          rotate_left 1
          · obtain ⟨x00, x01, x10, x11, y10, y11, y20, y21⟩ := HSx.out wr hA.bw
            have e55 := hA.tm 16 55 (by rfl) (by rfl)
            have f55 : xs 16 = _ := hA.fa 16 (by rfl)
            (try simp (disch := rfl) only [Rely.mask_in] at f55)
            rw [f55] at e55
            clear f55
            have e3 := hA.pre 3 (by kernel_rfl)
            simp only [List.getElem?_toArray, List.getElem?_cons_succ, List.getElem?_cons_zero] at e3
            clear hA
            refine ⟨((Rely.wanted_at rfl (by rfl) e55).trans (by rfl)), ?_⟩
            go_simp <;> (try with_reducible rfl)
          refine Rely.Chain.call (fun _ v _ => v = .int .i64 1) (fun _ _ _ _ h _ => h) (fun _ _ _ _ _ h _ => h) (by rfl) (fun T xs wr hA => ?_) ?_
          · have hbw := undrew hA.bw
            have e55 := hA.tm 16 55 (by rfl) (by rfl)
            have f55 : xs 16 = _ := hA.fa 16 (by rfl)
            (try simp (disch := rfl) only [Rely.mask_in] at f55)
            rw [f55] at e55
            clear f55
            have e58 := hA.tm 19 58 (by rfl) (by rfl)
            have f58 : xs 19 = _ := hA.fa 19 (by rfl)
            (try simp (disch := rfl) only [Rely.mask_in] at f58)
            rw [f58] at e58
            clear f58
            have g1 := g1.below hbw
            clear hA
            refine ⟨((Rely.wanted_at rfl (by rfl) e55).trans (by rfl)), fun K hK => ?_⟩
            clear e55
            go_simp
            refine (wsign_s _ B 20 1 _ g1 HSB.out (by omega)).mono ?_
            rintro e wq ⟨rfl, hb⟩
            exact hK.out _ _ rfl hb
          refine Rely.Chain.det ?_ (by rfl) (fun T xs wr hA => ?_) ?_
          rotate_left 1
          · have e55 := hA.tm 16 55 (by rfl) (by rfl)
            have f55 : xs 16 = _ := hA.fa 16 (by rfl)
            (try simp (disch := rfl) only [Rely.mask_in] at f55)
            rw [f55] at e55
            clear f55
            have e57 := hA.tm 18 57 (by rfl) (by rfl)
            have f57 : xs 18 = (.int .i64 1) := hA.fa 18 (by rfl)
            rw [f57] at e57
            clear f57
            have e59 := hA.tm 20 59 (by rfl) (by rfl)
            have f59 : xs 20 = (.int .i64 1) := hA.fa 20 (by rfl)
            rw [f59] at e59
            clear f59
            clear hA
            refine ⟨((Rely.wanted_at rfl (by rfl) e55).trans (by rfl)), ?_⟩
            go_simp <;> (try with_reducible rfl)
          refine Rely.Chain.det ?_ (by rfl) (fun T xs wr hA => ?_) ?_
          rotate_left 1
          · have e51 := hA.tm 12 51 (by rfl) (by rfl)
            have f51 : xs 12 = _ := hA.fa 12 (by rfl)
            (try simp (disch := rfl) only [Rely.mask_in] at f51)
            rw [f51] at e51
            clear f51
            have e55 := hA.tm 16 55 (by rfl) (by rfl)
            have f55 : xs 16 = _ := hA.fa 16 (by rfl)
            (try simp (disch := rfl) only [Rely.mask_in] at f55)
            rw [f55] at e55
            clear f55
            have e60 := hA.tm 21 60 (by rfl) (by rfl)
            have f60 : xs 21 = _ := hA.fa 21 (by rfl)
            (try simp (disch := rfl) only [Rely.mask_in] at f60)
            rw [f60] at e60
            clear f60
            clear hA
            refine ⟨((Rely.wanted_at rfl (by rfl) e51).trans (by rfl)), ?_⟩
            go_simp <;> (try with_reducible rfl)
          refine Rely.Chain.det ?_ (by rfl) (fun T xs wr hA => ?_) ?_
          rotate_left 1
          · have e51 := hA.tm 12 51 (by rfl) (by rfl)
            have f51 : xs 12 = _ := hA.fa 12 (by rfl)
            (try simp (disch := rfl) only [Rely.mask_in] at f51)
            rw [f51] at e51
            clear f51
            have e61 := hA.tm 22 61 (by rfl) (by rfl)
            have f61 : xs 22 = _ := hA.fa 22 (by rfl)
            (try simp (disch := rfl) only [Rely.mask_in] at f61)
            rw [f61] at e61
            clear f61
            clear hA
            refine ⟨(by rfl), ?_⟩
            go_simp <;> (try with_reducible rfl)
          refine Rely.Chain.done (fun xs wx6 hL => ?_)
          obtain ⟨hbx', hf, hp, hn⟩ := hL
          have f0 : xs 0 = _ := hf 0 (by decide)
          (try simp (disch := rfl) only [Rely.mask_in] at f0)
          have f1 : xs 1 = _ := hf 1 (by decide)
          (try simp (disch := rfl) only [Rely.mask_in] at f1)
          have f2 : xs 2 = _ := hf 2 (by decide)
          (try simp (disch := rfl) only [Rely.mask_in] at f2)
          have f3 : xs 3 = _ := hf 3 (by decide)
          (try simp (disch := rfl) only [Rely.mask_in] at f3)
          have f4 : xs 4 = _ := hf 4 (by decide)
          (try simp (disch := rfl) only [Rely.mask_in] at f4)
          have c_m : CI wx6 (xs 5) (Q * B) 43 := hf 5 (by decide)
          have f6 : xs 6 = _ := hf 6 (by decide)
          (try simp (disch := rfl) only [Rely.mask_in] at f6)
          have c_a : CI wx6 (xs 7) (Q * B + R) 64 := hf 7 (by decide)
          have f8 : xs 8 = _ := hf 8 (by decide)
          (try simp (disch := rfl) only [Rely.mask_in] at f8)
          have f9 : xs 9 = (.int .i64 0) := hf 9 (by decide)
          (try simp (disch := rfl) only [Rely.mask_in] at f9)
          have f10 : xs 10 = _ := hf 10 (by decide)
          (try simp (disch := rfl) only [Rely.mask_in] at f10)
          have f11 : xs 11 = _ := hf 11 (by decide)
          (try simp (disch := rfl) only [Rely.mask_in] at f11)
          have f12 : xs 12 = _ := hf 12 (by decide)
          (try simp (disch := rfl) only [Rely.mask_in] at f12)
          have f13 : xs 13 = _ := hf 13 (by decide)
          (try simp (disch := rfl) only [Rely.mask_in] at f13)
          have f14 : xs 14 = (.int .i64 1) := hf 14 (by decide)
          (try simp (disch := rfl) only [Rely.mask_in] at f14)
          have f15 : xs 15 = _ := hf 15 (by decide)
          (try simp (disch := rfl) only [Rely.mask_in] at f15)
          have f16 : xs 16 = _ := hf 16 (by decide)
          (try simp (disch := rfl) only [Rely.mask_in] at f16)
          have f17 : xs 17 = _ := hf 17 (by decide)
          (try simp (disch := rfl) only [Rely.mask_in] at f17)
          have f18 : xs 18 = (.int .i64 1) := hf 18 (by decide)
          (try simp (disch := rfl) only [Rely.mask_in] at f18)
          have f19 : xs 19 = _ := hf 19 (by decide)
          (try simp (disch := rfl) only [Rely.mask_in] at f19)
          have f20 : xs 20 = (.int .i64 1) := hf 20 (by decide)
          (try simp (disch := rfl) only [Rely.mask_in] at f20)
          have f21 : xs 21 = _ := hf 21 (by decide)
          (try simp (disch := rfl) only [Rely.mask_in] at f21)
          have f22 : xs 22 = _ := hf 22 (by decide)
          (try simp (disch := rfl) only [Rely.mask_in] at f22)
          have f23 : xs 23 = _ := hf 23 (by decide)
          (try simp (disch := rfl) only [Rely.mask_in] at f23)
          clear hf hp hn
          refine Rely.rest_done ?_
          simp only [Rely.fill, List.setIfInBounds_toArray, List.set_cons_zero, List.set_cons_succ, f0, f1, f2, f3, f4, f6, f8, f9, f10, f11, f12, f13, f14, f15, f16, f17, f18, f19, f20, f21, f22, f23]
          clear f0 f1 f2 f3 f4 f6 f8 f9 f10 f11 f12 f13 f14 f15 f16 f17 f18 f19 f20 f21 f22 f23
          generalize xs 5 = v_m at c_m ⊢
          generalize xs 7 = v_a at c_a ⊢
          clear xs
          obtain ⟨b_m, o_m, l_m, k_m, rfl⟩ := c_m.shape
          obtain ⟨b_a, o_a, l_a, k_a, rfl⟩ := c_a.shape
          have hbx := undrew hbx'
          clear hbx'
          clear HSx
          replace g0 := g0.below hbx
          replace g1 := g1.below hbx
          replace c_q := c_q.below hbx
          replace c_r := c_r.below hbx
          replace hbt := hbt.trans (hbx.mono hbt.size)
          replace HB_x0 := Lib.hid ((hbx.block _ (lt_of_block HB_x0.out)).trans HB_x0.out)
          replace HB_x1 := Lib.hid ((hbx.block _ (lt_of_block HB_x1.out)).trans HB_x1.out)
          replace HB_y1 := Lib.hid ((hbx.block _ (lt_of_block HB_y1.out)).trans HB_y1.out)
          replace HB_y2 := Lib.hid ((hbx.block _ (lt_of_block HB_y2.out)).trans HB_y2.out)
          clear hbx
          replace x00 := (two_cells HB_x0.out).1
          replace x01 := (two_cells HB_x0.out).2.1
          replace x10 := (two_cells HB_x1.out).1
          replace x11 := (two_cells HB_x1.out).2.1
          replace y10 := (two_cells HB_y1.out).1
          replace y11 := (two_cells HB_y1.out).2.1
          replace y20 := (two_cells HB_y2.out).1
          replace y21 := (two_cells HB_y2.out).2.1
          go_wp2_with fail
          have HSx := Lib.hid (show ∀ w', Below wx6.drew.heap.size wx6.drew w' → w'.cell? ⟨w.heap.size, 0, none⟩ = some (.bool b0) ∧ w'.cell? ⟨w.heap.size, 1, none⟩ = some (.slice o0 n0 m0) ∧ w'.cell? ⟨w.heap.size + 1, 0, none⟩ = some (.bool b1) ∧ w'.cell? ⟨w.heap.size + 1, 1, none⟩ = some (.slice o1 n1 m1) ∧ w'.cell? ⟨wx3.heap.size, 0, none⟩ = some (.bool b_q) ∧ w'.cell? ⟨wx3.heap.size, 1, none⟩ = some (.slice o_q l_q k_q) ∧ w'.cell? ⟨wx3.heap.size + 1, 0, none⟩ = some (.bool b_r) ∧ w'.cell? ⟨wx3.heap.size + 1, 1, none⟩ = some (.slice o_r l_r k_r) from fun w' hb => ⟨(hb.cell (lt_of_block HB_x0.out)).trans x00, (hb.cell (lt_of_block HB_x0.out)).trans x01, (hb.cell (lt_of_block HB_x1.out)).trans x10, (hb.cell (lt_of_block HB_x1.out)).trans x11, (hb.cell (lt_of_block HB_y1.out)).trans y10, (hb.cell (lt_of_block HB_y1.out)).trans y11, (hb.cell (lt_of_block HB_y2.out)).trans y20, (hb.cell (lt_of_block HB_y2.out)).trans y21⟩)
          have hszc := hbt.size
          have hlt_x0 := lt_of_block HB_x0.out
          have hlt_x1 := lt_of_block HB_x1.out
          have hlt_y1 := lt_of_block HB_y1.out
          have hlt_y2 := lt_of_block HB_y2.out
          refine Rely.region (by kernel_rfl) [[], [], [], [], [0, 2, 3], [0, 1, 2, 3, 4]] [2, 3] [(4, 2), (5, 3)] 6 (by kernel_rfl) (by kernel_rfl) ?_
          refine Rely.Chain.det ?_ (by rfl) (fun T xs wr hA => ?_) ?_
          rotate_left 1
          · obtain ⟨x00, x01, x10, x11, y10, y11, y20, y21⟩ := HSx.out wr hA.bw
            have e6 := hA.pre 6 (by kernel_rfl)
            simp only [List.getElem?_toArray, List.getElem?_cons_succ, List.getElem?_cons_zero] at e6
            clear hA
            refine ⟨(by rfl), ?_⟩
            go_simp <;> (try with_reducible rfl)
          refine Rely.Chain.det ?_ (by rfl) (fun T xs wr hA => ?_) ?_
          rotate_left 1
          · obtain ⟨x00, x01, x10, x11, y10, y11, y20, y21⟩ := HSx.out wr hA.bw
            have e3 := hA.pre 3 (by kernel_rfl)
            simp only [List.getElem?_toArray, List.getElem?_cons_succ, List.getElem?_cons_zero] at e3
            clear hA
            refine ⟨(by rfl), ?_⟩
            go_simp <;> (try with_reducible rfl)
          refine Rely.Chain.alloc ?_ ?_ (by rfl) (fun Ts xs wr hA => ?_) ?_ ?_
          rotate_left 2
          · clear hA
            refine ⟨(by rfl), fun K hK => ?_⟩
            go_simp
            exact hK.out
          · rfl
          refine Rely.Chain.alloc ?_ ?_ (by rfl) (fun Ts xs wr hA => ?_) ?_ ?_
          rotate_left 2
          · clear hA
            refine ⟨(by rfl), fun K hK => ?_⟩
            go_simp
            exact hK.out
          · rfl
          refine Rely.Chain.store 2 0 25 2 (by rfl) (by rfl) (by rfl) rfl (fun T xs wr g c hA hx hB hn hi => ?_) ?_
          · have e8 := hA.tm 2 8 (by rfl) (by rfl)
            rw [hx] at e8
            have e63 := hA.tm 0 63 (by rfl) (by rfl)
            have hv : xs 0 = _ := hA.fa 0 (by rfl)
            (try simp (disch := rfl) only [Rely.mask_in] at hv)
            rw [hv] at e63
            obtain ⟨c0, c1, rfl⟩ := two_of hn
            have z0 := cell_at hB 0 rfl
            have z1 := cell_at hB 1 rfl
            have fz0 := froz_at hB 0
            have fz1 := froz_at hB 1
            clear hA hn
            refine ⟨by rfl, fun K hK => ?_⟩
            go_simp
            exact hK.out _ _ hv (hset2 hB _ _) (priv2 hB hi (by rfl))
          refine Rely.Chain.store 3 1 25 2 (by rfl) (by rfl) (by rfl) rfl (fun T xs wr g c hA hx hB hn hi => ?_) ?_
          · have e9 := hA.tm 3 9 (by rfl) (by rfl)
            rw [hx] at e9
            have e64 := hA.tm 1 64 (by rfl) (by rfl)
            have hv : xs 1 = _ := hA.fa 1 (by rfl)
            (try simp (disch := rfl) only [Rely.mask_in] at hv)
            rw [hv] at e64
            obtain ⟨c0, c1, rfl⟩ := two_of hn
            have z0 := cell_at hB 0 rfl
            have z1 := cell_at hB 1 rfl
            have fz0 := froz_at hB 0
            have fz1 := froz_at hB 1
            clear hA hn
            refine ⟨by rfl, fun K hK => ?_⟩
            go_simp
            exact hK.out _ _ hv (hset2 hB _ _) (priv2 hB hi (by rfl))
          refine Rely.Chain.done (fun xs wx7 hL => ?_)
          obtain ⟨hbx', hf, hp, hn⟩ := hL
          have f0 : xs 0 = _ := hf 0 (by decide)
          (try simp (disch := rfl) only [Rely.mask_in] at f0)
          have f1 : xs 1 = _ := hf 1 (by decide)
          (try simp (disch := rfl) only [Rely.mask_in] at f1)
          obtain ⟨g_y3, cc, f2, hv, hB_y3⟩ := hf 4 (by decide)
          change xs 2 = _ at f2
          change xs 0 = _ at hv
          rw [f0] at hv
          injection hv with hv
          subst hv
          have hg_y3 : wx6.heap.size ≤ g_y3 := by obtain ⟨g, h1, h2, -⟩ := hp 2 (by rfl) (by decide); rw [f2] at h1; injection h1 with h1; injection h1 with h1; injection h1 with h1; subst h1; exact h2
          obtain ⟨g_y4, cc, f3, hv, hB_y4⟩ := hf 5 (by decide)
          change xs 3 = _ at f3
          change xs 1 = _ at hv
          rw [f1] at hv
          injection hv with hv
          subst hv
          have hg_y4 : wx6.heap.size ≤ g_y4 := by obtain ⟨g, h1, h2, -⟩ := hp 3 (by rfl) (by decide); rw [f3] at h1; injection h1 with h1; injection h1 with h1; injection h1 with h1; subst h1; exact h2
          have hne_y3_y4 : g_y3 ≠ g_y4 := fun h => hn 2 3 (by rfl) (by rfl) (by decide) (by decide) (by decide) (by rw [f2, f3, h])
          clear hf hp hn
          refine Rely.rest_done ?_
          simp only [Rely.fill, List.setIfInBounds_toArray, List.set_cons_zero, List.set_cons_succ, f0, f1, f2, f3]
          clear f0 f1 f2 f3
          clear xs
          have hbx := undrew hbx'
          clear hbx'
          clear HSx
          replace g0 := g0.below hbx
          replace g1 := g1.below hbx
          replace c_q := c_q.below hbx
          replace c_r := c_r.below hbx
          replace c_m := c_m.below hbx
          replace c_a := c_a.below hbx
          replace hbt := hbt.trans (hbx.mono hbt.size)
          replace HB_x0 := Lib.hid ((hbx.block _ (lt_of_block HB_x0.out)).trans HB_x0.out)
          replace HB_x1 := Lib.hid ((hbx.block _ (lt_of_block HB_x1.out)).trans HB_x1.out)
          replace HB_y1 := Lib.hid ((hbx.block _ (lt_of_block HB_y1.out)).trans HB_y1.out)
          replace HB_y2 := Lib.hid ((hbx.block _ (lt_of_block HB_y2.out)).trans HB_y2.out)
          clear hbx
          replace x00 := (two_cells HB_x0.out).1
          replace x01 := (two_cells HB_x0.out).2.1
          replace x10 := (two_cells HB_x1.out).1
          replace x11 := (two_cells HB_x1.out).2.1
          replace y10 := (two_cells HB_y1.out).1
          replace y11 := (two_cells HB_y1.out).2.1
          replace y20 := (two_cells HB_y2.out).1
          replace y21 := (two_cells HB_y2.out).2.1
          have HB_y3 := Lib.hid hB_y3
          clear hB_y3
          have y30 := cell_at HB_y3.out 0 rfl
          have y31 := cell_at HB_y3.out 1 rfl
          have HB_y4 := Lib.hid hB_y4
          clear hB_y4
          have y40 := cell_at HB_y4.out 0 rfl
          have y41 := cell_at HB_y4.out 1 rfl
          have hszt := hbt.size
          obtain ⟨-, -, fz0, fz1⟩ := two_cells HB_y3.out
          obtain ⟨-, -, fz2, fz3⟩ := two_cells HB_y4.out
          go_wp2_with fail
          clear fz0 fz1 fz2 fz3
          have hk := keeps_set1 HB_y3.out (.bool false)
          replace g0 := g0.keeps hk
          replace g1 := g1.keeps hk
          replace c_q := c_q.keeps hk
          replace c_r := c_r.keeps hk
          replace c_m := c_m.keeps hk
          replace c_a := c_a.keeps hk
          clear hk
          replace hbt := hbt.setCell (p := ⟨g_y3, 0, none⟩) (by simp; omega) (.bool false)
          replace HB_x0 := Lib.hid ((heap_far1 (w := wx7) (g := g_y3) (x := .bool false) (by omega)).trans HB_x0.out)
          replace HB_x1 := Lib.hid ((heap_far1 (w := wx7) (g := g_y3) (x := .bool false) (by omega)).trans HB_x1.out)
          replace HB_y1 := Lib.hid ((heap_far1 (w := wx7) (g := g_y3) (x := .bool false) (by omega)).trans HB_y1.out)
          replace HB_y2 := Lib.hid ((heap_far1 (w := wx7) (g := g_y3) (x := .bool false) (by omega)).trans HB_y2.out)
          replace HB_y4 := Lib.hid ((heap_far1 (w := wx7) (g := g_y3) (x := .bool false) (by omega)).trans HB_y4.out)
          replace HB_y3 := Lib.hid (heap_set1 HB_y3.out (.bool false))
          replace x00 := (two_cells HB_x0.out).1
          replace x01 := (two_cells HB_x0.out).2.1
          replace x10 := (two_cells HB_x1.out).1
          replace x11 := (two_cells HB_x1.out).2.1
          replace y10 := (two_cells HB_y1.out).1
          replace y11 := (two_cells HB_y1.out).2.1
          replace y20 := (two_cells HB_y2.out).1
          replace y21 := (two_cells HB_y2.out).2.1
          replace y30 := (two_cells HB_y3.out).1
          replace y31 := (two_cells HB_y3.out).2.1
          replace y40 := (two_cells HB_y4.out).1
          replace y41 := (two_cells HB_y4.out).2.1
          generalize (wx7.setCell ⟨g_y3, 0, none⟩ (.bool false)) = wx8 at *
          have hk := keeps_set1 HB_y4.out (.bool false)
          replace g0 := g0.keeps hk
          replace g1 := g1.keeps hk
          replace c_q := c_q.keeps hk
          replace c_r := c_r.keeps hk
          replace c_m := c_m.keeps hk
          replace c_a := c_a.keeps hk
          clear hk
          replace hbt := hbt.setCell (p := ⟨g_y4, 0, none⟩) (by simp; omega) (.bool false)
          replace HB_x0 := Lib.hid ((heap_far1 (w := wx8) (g := g_y4) (x := .bool false) (by omega)).trans HB_x0.out)
          replace HB_x1 := Lib.hid ((heap_far1 (w := wx8) (g := g_y4) (x := .bool false) (by omega)).trans HB_x1.out)
          replace HB_y1 := Lib.hid ((heap_far1 (w := wx8) (g := g_y4) (x := .bool false) (by omega)).trans HB_y1.out)
          replace HB_y2 := Lib.hid ((heap_far1 (w := wx8) (g := g_y4) (x := .bool false) (by omega)).trans HB_y2.out)
          replace HB_y3 := Lib.hid ((heap_far1 (w := wx8) (g := g_y4) (x := .bool false) (by omega)).trans HB_y3.out)
          replace HB_y4 := Lib.hid (heap_set1 HB_y4.out (.bool false))
          replace x00 := (two_cells HB_x0.out).1
          replace x01 := (two_cells HB_x0.out).2.1
          replace x10 := (two_cells HB_x1.out).1
          replace x11 := (two_cells HB_x1.out).2.1
          replace y10 := (two_cells HB_y1.out).1
          replace y11 := (two_cells HB_y1.out).2.1
          replace y20 := (two_cells HB_y2.out).1
          replace y21 := (two_cells HB_y2.out).2.1
          replace y30 := (two_cells HB_y3.out).1
          replace y31 := (two_cells HB_y3.out).2.1
          replace y40 := (two_cells HB_y4.out).1
          replace y41 := (two_cells HB_y4.out).2.1
          generalize (wx8.setCell ⟨g_y4, 0, none⟩ (.bool false)) = wx9 at *
          clear hszc hszt hlt_x0 hlt_x1 hlt_y1 hlt_y2
          have g_x := c_r.abs
          have g_y := g1.abs
          have HSx := Lib.hid (show ∀ w', Below wx9.drew.heap.size wx9.drew w' → w'.cell? ⟨w.heap.size, 0, none⟩ = some (.bool b0) ∧ w'.cell? ⟨w.heap.size, 1, none⟩ = some (.slice o0 n0 m0) ∧ w'.cell? ⟨w.heap.size + 1, 0, none⟩ = some (.bool b1) ∧ w'.cell? ⟨w.heap.size + 1, 1, none⟩ = some (.slice o1 n1 m1) ∧ w'.cell? ⟨wx3.heap.size, 0, none⟩ = some (.bool b_q) ∧ w'.cell? ⟨wx3.heap.size, 1, none⟩ = some (.slice o_q l_q k_q) ∧ w'.cell? ⟨wx3.heap.size + 1, 0, none⟩ = some (.bool b_r) ∧ w'.cell? ⟨wx3.heap.size + 1, 1, none⟩ = some (.slice o_r l_r k_r) ∧ w'.cell? ⟨g_y3, 0, none⟩ = some (.bool false) ∧ w'.cell? ⟨g_y3, 1, none⟩ = some (.slice o_r l_r k_r) ∧ w'.cell? ⟨g_y4, 0, none⟩ = some (.bool false) ∧ w'.cell? ⟨g_y4, 1, none⟩ = some (.slice o1 n1 m1) from fun w' hb => ⟨(hb.cell (lt_of_block HB_x0.out)).trans x00, (hb.cell (lt_of_block HB_x0.out)).trans x01, (hb.cell (lt_of_block HB_x1.out)).trans x10, (hb.cell (lt_of_block HB_x1.out)).trans x11, (hb.cell (lt_of_block HB_y1.out)).trans y10, (hb.cell (lt_of_block HB_y1.out)).trans y11, (hb.cell (lt_of_block HB_y2.out)).trans y20, (hb.cell (lt_of_block HB_y2.out)).trans y21, (hb.cell (lt_of_block HB_y3.out)).trans y30, (hb.cell (lt_of_block HB_y3.out)).trans y31, (hb.cell (lt_of_block HB_y4.out)).trans y40, (hb.cell (lt_of_block HB_y4.out)).trans y41⟩)
          refine Rely.region (by kernel_rfl) [[], [], [0, 1], [0, 1, 2], [0, 1, 2, 3], [0, 1, 2, 3, 4], [0, 1, 2, 3, 4], [0, 1, 2, 3, 4], [0, 1, 2, 3, 4, 6, 7], [0, 1, 2, 3, 4, 5, 6, 7, 8], [0, 1, 2, 3, 4, 5, 6, 7, 8, 9], [0, 1, 2, 3, 4, 5, 6, 7, 8, 9, 10], [0, 1, 2, 3, 4, 5, 6, 7, 8, 9, 10, 11], [0, 1, 2, 3, 4, 5, 6, 7, 8, 9, 10, 11], [0, 1, 2, 3, 4, 5, 6, 7, 8, 9, 10, 11], [0, 1, 2, 3, 4, 5, 6, 7, 8, 9, 10, 11, 13, 14], [0, 1, 2, 3, 4, 5, 6, 7, 8, 9, 10, 11, 12, 13, 14, 15], [0, 1, 2, 3, 4, 5, 6, 7, 8, 9, 10, 11, 12, 13, 14, 15, 16], [0, 1, 2, 3, 4, 5, 6, 7, 8, 9, 10, 11, 12, 13, 14, 15, 16, 17]] [] [] 19 (by kernel_rfl) (by kernel_rfl) ?_
          refine Rely.Chain.det ?_ (by rfl) (fun T xs wr hA => ?_) ?_
          rotate_left 1
          · obtain ⟨x00, x01, x10, x11, y10, y11, y20, y21, y30, y31, y40, y41⟩ := HSx.out wr hA.bw
            have e8 := hA.pre 8 (by kernel_rfl)
            simp only [List.getElem?_toArray, List.getElem?_cons_succ, List.getElem?_cons_zero] at e8
            clear hA
            refine ⟨(by rfl), ?_⟩
            go_simp <;> (try with_reducible rfl)
          refine Rely.Chain.det ?_ (by rfl) (fun T xs wr hA => ?_) ?_
          rotate_left 1
          · obtain ⟨x00, x01, x10, x11, y10, y11, y20, y21, y30, y31, y40, y41⟩ := HSx.out wr hA.bw
            have e9 := hA.pre 9 (by kernel_rfl)
            simp only [List.getElem?_toArray, List.getElem?_cons_succ, List.getElem?_cons_zero] at e9
            clear hA
            refine ⟨(by rfl), ?_⟩
            go_simp <;> (try with_reducible rfl)
          refine Rely.Chain.call (fun _ v _ => v = .int .i64 (-1)) (fun _ _ _ _ h _ => h) (fun _ _ _ _ _ h _ => h) (by rfl) (fun T xs wr hA => ?_) ?_
          · have hbw := undrew hA.bw
            have e67 := hA.tm 0 67 (by rfl) (by rfl)
            have f67 : xs 0 = _ := hA.fa 0 (by rfl)
            (try simp (disch := rfl) only [Rely.mask_in] at f67)
            rw [f67] at e67
            clear f67
            have e68 := hA.tm 1 68 (by rfl) (by rfl)
            have f68 : xs 1 = _ := hA.fa 1 (by rfl)
            (try simp (disch := rfl) only [Rely.mask_in] at f68)
            rw [f68] at e68
            clear f68
            have g_x := g_x.below hbw
            have g_y := g_y.below hbw
            clear hA
            refine ⟨(by rfl), fun K hK => ?_⟩
            go_simp
            refine (wcmp_s _ _ (R.natAbs : Int) (B.natAbs : Int) 20 20 (-1) _ g_x g_y HABS.out (by omega) (by omega)).mono ?_
            rintro e wq ⟨rfl, hb⟩
            exact hK.out _ _ rfl hb
          refine Rely.Chain.det ?_ (by rfl) (fun T xs wr hA => ?_) ?_
          rotate_left 1
          · have e69 := hA.tm 2 69 (by rfl) (by rfl)
            have f69 : xs 2 = (.int .i64 (-1)) := hA.fa 2 (by rfl)
            rw [f69] at e69
            clear f69
            clear hA
            refine ⟨(by rfl), ?_⟩
            go_simp <;> (try with_reducible rfl)
          refine Rely.Chain.det ?_ (by rfl) (fun T xs wr hA => ?_) ?_
          rotate_left 1
          · have e70 := hA.tm 3 70 (by rfl) (by rfl)
            have f70 : xs 3 = _ := hA.fa 3 (by rfl)
            (try simp (disch := rfl) only [Rely.mask_in] at f70)
            rw [f70] at e70
            clear f70
            clear hA
            refine ⟨(by rfl), ?_⟩
            go_simp <;> (try with_reducible rfl)
          refine Rely.Chain.det ?_ (by rfl) (fun T xs wr hA => ?_) ?_
          rotate_left 1
          · obtain ⟨x00, x01, x10, x11, y10, y11, y20, y21, y30, y31, y40, y41⟩ := HSx.out wr hA.bw
            have e71 := hA.tm 4 71 (by rfl) (by rfl)
            have f71 : xs 4 = _ := hA.fa 4 (by rfl)
            (try simp (disch := rfl) only [Rely.mask_in] at f71)
            rw [f71] at e71
            clear f71
            have e5 := hA.pre 5 (by kernel_rfl)
            simp only [List.getElem?_toArray, List.getElem?_cons_succ, List.getElem?_cons_zero] at e5
            clear hA
            refine ⟨((Rely.wanted_at rfl (by rfl) e71).trans (by rfl)), ?_⟩
            go_simp <;> (try with_reducible rfl)
          refine Rely.Chain.det ?_ (by rfl) (fun T xs wr hA => ?_) ?_
          rotate_left 1
          · obtain ⟨x00, x01, x10, x11, y10, y11, y20, y21, y30, y31, y40, y41⟩ := HSx.out wr hA.bw
            have e71 := hA.tm 4 71 (by rfl) (by rfl)
            have f71 : xs 4 = _ := hA.fa 4 (by rfl)
            (try simp (disch := rfl) only [Rely.mask_in] at f71)
            rw [f71] at e71
            clear f71
            have e5 := hA.pre 5 (by kernel_rfl)
            simp only [List.getElem?_toArray, List.getElem?_cons_succ, List.getElem?_cons_zero] at e5
            clear hA
            refine ⟨((Rely.wanted_at rfl (by rfl) e71).trans (by rfl)), ?_⟩
            go_simp <;> (try with_reducible rfl)
          refine Rely.Chain.call (fun _ v w => CI w v 0 2) (fun _ _ _ _ h hb => h.below hb) (fun _ _ _ _ _ h hp => h.keeps hp.keeps) (by rfl) (fun T xs wr hA => ?_) ?_
          · have hbw := undrew hA.bw
            have e71 := hA.tm 4 71 (by rfl) (by rfl)
            have f71 : xs 4 = _ := hA.fa 4 (by rfl)
            (try simp (disch := rfl) only [Rely.mask_in] at f71)
            rw [f71] at e71
            clear f71
            clear hA
            refine ⟨((Rely.wanted_at rfl (by rfl) e71).trans (by rfl)), fun K hK => ?_⟩
            clear e71
            go_simp
            refine (wof_any 0 _ (by omega) (by omega)).mono ?_
            rintro e wq ⟨v, rfl, c, hb⟩
            exact hK.out _ _ c hb
          refine Rely.Chain.call (fun _ v w => CI w v (Q + 0) 26) (fun _ _ _ _ h hb => h.below hb) (fun _ _ _ _ _ h hp => h.keeps hp.keeps) (by rfl) (fun T xs wr hA => ?_) ?_
          · have hbw := undrew hA.bw
            have e71 := hA.tm 4 71 (by rfl) (by rfl)
            have f71 : xs 4 = _ := hA.fa 4 (by rfl)
            (try simp (disch := rfl) only [Rely.mask_in] at f71)
            rw [f71] at e71
            clear f71
            have e73 := hA.tm 6 73 (by rfl) (by rfl)
            have f73 : xs 6 = _ := hA.fa 6 (by rfl)
            (try simp (disch := rfl) only [Rely.mask_in] at f73)
            rw [f73] at e73
            clear f73
            have e74 := hA.tm 7 74 (by rfl) (by rfl)
            have c_q := c_q.below hbw
            have c_z : CI wr (xs 7) 0 2 := hA.fa 7 (by rfl)
            clear hA
            refine ⟨((Rely.wanted_at rfl (by rfl) e71).trans (by rfl)), fun K hK => ?_⟩
            clear e71
            go_simp
            refine (wadd_any _ _ Q 0 23 2 _ c_q.gi c_z.gi (by omega) (by omega)).mono ?_
            rintro e wq ⟨v, rfl, c, hb⟩
            exact hK.out _ _ c hb
          refine Rely.Chain.call (fun _ v _ => v = .bool true) (fun _ _ _ _ h _ => h) (fun _ _ _ _ _ h _ => h) (by rfl) (fun T xs wr hA => ?_) ?_
          · have hbw := undrew hA.bw
            have e71 := hA.tm 4 71 (by rfl) (by rfl)
            have f71 : xs 4 = _ := hA.fa 4 (by rfl)
            (try simp (disch := rfl) only [Rely.mask_in] at f71)
            rw [f71] at e71
            clear f71
            have e72 := hA.tm 5 72 (by rfl) (by rfl)
            have f72 : xs 5 = _ := hA.fa 5 (by rfl)
            (try simp (disch := rfl) only [Rely.mask_in] at f72)
            rw [f72] at e72
            clear f72
            have e75 := hA.tm 8 75 (by rfl) (by rfl)
            have c_q := c_q.below hbw
            have c_u : CI wr (xs 8) (Q + 0) 26 := hA.fa 8 (by rfl)
            clear hA
            refine ⟨((Rely.wanted_at rfl (by rfl) e71).trans (by rfl)), fun K hK => ?_⟩
            clear e71
            go_simp
            refine (same_true _ _ Q 23 26 _ c_q (c_u.to (Int.add_zero Q)) (by omega) (by omega)).mono ?_
            rintro e wq ⟨rfl, hb⟩
            exact hK.out _ _ rfl hb
          refine Rely.Chain.det ?_ (by rfl) (fun T xs wr hA => ?_) ?_
          rotate_left 1
          · have e71 := hA.tm 4 71 (by rfl) (by rfl)
            have f71 : xs 4 = _ := hA.fa 4 (by rfl)
            (try simp (disch := rfl) only [Rely.mask_in] at f71)
            rw [f71] at e71
            clear f71
            have e76 := hA.tm 9 76 (by rfl) (by rfl)
            have f76 : xs 9 = (.bool true) := hA.fa 9 (by rfl)
            rw [f76] at e76
            clear f76
            clear hA
            refine ⟨(by rfl), ?_⟩
            go_simp <;> (try with_reducible rfl)
          refine Rely.Chain.det ?_ (by rfl) (fun T xs wr hA => ?_) ?_
          rotate_left 1
          · have e77 := hA.tm 10 77 (by rfl) (by rfl)
            have f77 : xs 10 = _ := hA.fa 10 (by rfl)
            (try simp (disch := rfl) only [Rely.mask_in] at f77)
            rw [f77] at e77
            clear f77
            clear hA
            refine ⟨(by rfl), ?_⟩
            go_simp <;> (try with_reducible rfl)
          refine Rely.Chain.det ?_ (by rfl) (fun T xs wr hA => ?_) ?_
          rotate_left 1
          · obtain ⟨x00, x01, x10, x11, y10, y11, y20, y21, y30, y31, y40, y41⟩ := HSx.out wr hA.bw
            have e78 := hA.tm 11 78 (by rfl) (by rfl)
            have f78 : xs 11 = _ := hA.fa 11 (by rfl)
            (try simp (disch := rfl) only [Rely.mask_in] at f78)
            rw [f78] at e78
            clear f78
            have e6 := hA.pre 6 (by kernel_rfl)
            simp only [List.getElem?_toArray, List.getElem?_cons_succ, List.getElem?_cons_zero] at e6
            clear hA
            refine ⟨((Rely.wanted_at rfl (by rfl) e78).trans (by rfl)), ?_⟩
            go_simp <;> (try with_reducible rfl)
          refine Rely.Chain.det ?_ (by rfl) (fun T xs wr hA => ?_) ?_
          rotate_left 1
          · obtain ⟨x00, x01, x10, x11, y10, y11, y20, y21, y30, y31, y40, y41⟩ := HSx.out wr hA.bw
            have e78 := hA.tm 11 78 (by rfl) (by rfl)
            have f78 : xs 11 = _ := hA.fa 11 (by rfl)
            (try simp (disch := rfl) only [Rely.mask_in] at f78)
            rw [f78] at e78
            clear f78
            have e6 := hA.pre 6 (by kernel_rfl)
            simp only [List.getElem?_toArray, List.getElem?_cons_succ, List.getElem?_cons_zero] at e6
            clear hA
            refine ⟨((Rely.wanted_at rfl (by rfl) e78).trans (by rfl)), ?_⟩
            go_simp <;> (try with_reducible rfl)
          refine Rely.Chain.call (fun _ v w => CI w v 0 2) (fun _ _ _ _ h hb => h.below hb) (fun _ _ _ _ _ h hp => h.keeps hp.keeps) (by rfl) (fun T xs wr hA => ?_) ?_
          · have hbw := undrew hA.bw
            have e78 := hA.tm 11 78 (by rfl) (by rfl)
            have f78 : xs 11 = _ := hA.fa 11 (by rfl)
            (try simp (disch := rfl) only [Rely.mask_in] at f78)
            rw [f78] at e78
            clear f78
            clear hA
            refine ⟨((Rely.wanted_at rfl (by rfl) e78).trans (by rfl)), fun K hK => ?_⟩
            clear e78
            go_simp
            refine (wof_any 0 _ (by omega) (by omega)).mono ?_
            rintro e wq ⟨v, rfl, c, hb⟩
            exact hK.out _ _ c hb
          refine Rely.Chain.call (fun _ v w => CI w v (R + 0) 23) (fun _ _ _ _ h hb => h.below hb) (fun _ _ _ _ _ h hp => h.keeps hp.keeps) (by rfl) (fun T xs wr hA => ?_) ?_
          · have hbw := undrew hA.bw
            have e78 := hA.tm 11 78 (by rfl) (by rfl)
            have f78 : xs 11 = _ := hA.fa 11 (by rfl)
            (try simp (disch := rfl) only [Rely.mask_in] at f78)
            rw [f78] at e78
            clear f78
            have e80 := hA.tm 13 80 (by rfl) (by rfl)
            have f80 : xs 13 = _ := hA.fa 13 (by rfl)
            (try simp (disch := rfl) only [Rely.mask_in] at f80)
            rw [f80] at e80
            clear f80
            have e81 := hA.tm 14 81 (by rfl) (by rfl)
            have c_r := c_r.below hbw
            have c_z2 : CI wr (xs 14) 0 2 := hA.fa 14 (by rfl)
            clear hA
            refine ⟨((Rely.wanted_at rfl (by rfl) e78).trans (by rfl)), fun K hK => ?_⟩
            clear e78
            go_simp
            refine (wadd_any _ _ R 0 20 2 _ c_r.gi c_z2.gi (by omega) (by omega)).mono ?_
            rintro e wq ⟨v, rfl, c, hb⟩
            exact hK.out _ _ c hb
          refine Rely.Chain.call (fun _ v _ => v = .bool true) (fun _ _ _ _ h _ => h) (fun _ _ _ _ _ h _ => h) (by rfl) (fun T xs wr hA => ?_) ?_
          · have hbw := undrew hA.bw
            have e78 := hA.tm 11 78 (by rfl) (by rfl)
            have f78 : xs 11 = _ := hA.fa 11 (by rfl)
            (try simp (disch := rfl) only [Rely.mask_in] at f78)
            rw [f78] at e78
            clear f78
            have e79 := hA.tm 12 79 (by rfl) (by rfl)
            have f79 : xs 12 = _ := hA.fa 12 (by rfl)
            (try simp (disch := rfl) only [Rely.mask_in] at f79)
            rw [f79] at e79
            clear f79
            have e82 := hA.tm 15 82 (by rfl) (by rfl)
            have c_r := c_r.below hbw
            have c_u2 : CI wr (xs 15) (R + 0) 23 := hA.fa 15 (by rfl)
            clear hA
            refine ⟨((Rely.wanted_at rfl (by rfl) e78).trans (by rfl)), fun K hK => ?_⟩
            clear e78
            go_simp
            refine (same_true _ _ R 20 23 _ c_r (c_u2.to (Int.add_zero R)) (by omega) (by omega)).mono ?_
            rintro e wq ⟨rfl, hb⟩
            exact hK.out _ _ rfl hb
          refine Rely.Chain.det ?_ (by rfl) (fun T xs wr hA => ?_) ?_
          rotate_left 1
          · have e78 := hA.tm 11 78 (by rfl) (by rfl)
            have f78 : xs 11 = _ := hA.fa 11 (by rfl)
            (try simp (disch := rfl) only [Rely.mask_in] at f78)
            rw [f78] at e78
            clear f78
            have e83 := hA.tm 16 83 (by rfl) (by rfl)
            have f83 : xs 16 = (.bool true) := hA.fa 16 (by rfl)
            rw [f83] at e83
            clear f83
            clear hA
            refine ⟨(by rfl), ?_⟩
            go_simp <;> (try with_reducible rfl)
          refine Rely.Chain.det ?_ (by rfl) (fun T xs wr hA => ?_) ?_
          rotate_left 1
          · have e84 := hA.tm 17 84 (by rfl) (by rfl)
            have f84 : xs 17 = _ := hA.fa 17 (by rfl)
            (try simp (disch := rfl) only [Rely.mask_in] at f84)
            rw [f84] at e84
            clear f84
            clear hA
            refine ⟨(by rfl), ?_⟩
            go_simp <;> (try with_reducible rfl)
          refine Rely.Chain.done (fun xs wx10 hL => ?_)
          obtain ⟨hbx', hf, hp, hn⟩ := hL
          have f0 : xs 0 = _ := hf 0 (by decide)
          (try simp (disch := rfl) only [Rely.mask_in] at f0)
          have f1 : xs 1 = _ := hf 1 (by decide)
          (try simp (disch := rfl) only [Rely.mask_in] at f1)
          have f2 : xs 2 = (.int .i64 (-1)) := hf 2 (by decide)
          (try simp (disch := rfl) only [Rely.mask_in] at f2)
          have f3 : xs 3 = _ := hf 3 (by decide)
          (try simp (disch := rfl) only [Rely.mask_in] at f3)
          have f4 : xs 4 = _ := hf 4 (by decide)
          (try simp (disch := rfl) only [Rely.mask_in] at f4)
          have f5 : xs 5 = _ := hf 5 (by decide)
          (try simp (disch := rfl) only [Rely.mask_in] at f5)
          have f6 : xs 6 = _ := hf 6 (by decide)
          (try simp (disch := rfl) only [Rely.mask_in] at f6)
          have c_z : CI wx10 (xs 7) 0 2 := hf 7 (by decide)
          have c_u : CI wx10 (xs 8) (Q + 0) 26 := hf 8 (by decide)
          have f9 : xs 9 = (.bool true) := hf 9 (by decide)
          (try simp (disch := rfl) only [Rely.mask_in] at f9)
          have f10 : xs 10 = _ := hf 10 (by decide)
          (try simp (disch := rfl) only [Rely.mask_in] at f10)
          have f11 : xs 11 = _ := hf 11 (by decide)
          (try simp (disch := rfl) only [Rely.mask_in] at f11)
          have f12 : xs 12 = _ := hf 12 (by decide)
          (try simp (disch := rfl) only [Rely.mask_in] at f12)
          have f13 : xs 13 = _ := hf 13 (by decide)
          (try simp (disch := rfl) only [Rely.mask_in] at f13)
          have c_z2 : CI wx10 (xs 14) 0 2 := hf 14 (by decide)
          have c_u2 : CI wx10 (xs 15) (R + 0) 23 := hf 15 (by decide)
          have f16 : xs 16 = (.bool true) := hf 16 (by decide)
          (try simp (disch := rfl) only [Rely.mask_in] at f16)
          have f17 : xs 17 = _ := hf 17 (by decide)
          (try simp (disch := rfl) only [Rely.mask_in] at f17)
          have f18 : xs 18 = _ := hf 18 (by decide)
          (try simp (disch := rfl) only [Rely.mask_in] at f18)
          clear hf hp hn
          refine Rely.rest_done ?_
          simp only [Rely.fill, List.setIfInBounds_toArray, List.set_cons_zero, List.set_cons_succ, f0, f1, f2, f3, f4, f5, f6, f9, f10, f11, f12, f13, f16, f17, f18]
          clear f0 f1 f2 f3 f4 f5 f6 f9 f10 f11 f12 f13 f16 f17 f18
          generalize xs 7 = v_z at c_z ⊢
          generalize xs 8 = v_u at c_u ⊢
          generalize xs 14 = v_z2 at c_z2 ⊢
          generalize xs 15 = v_u2 at c_u2 ⊢
          clear xs
          obtain ⟨b_z, o_z, l_z, k_z, rfl⟩ := c_z.shape
          obtain ⟨b_u, o_u, l_u, k_u, rfl⟩ := c_u.shape
          obtain ⟨b_z2, o_z2, l_z2, k_z2, rfl⟩ := c_z2.shape
          obtain ⟨b_u2, o_u2, l_u2, k_u2, rfl⟩ := c_u2.shape
          have hbx := undrew hbx'
          clear hbx'
          clear HSx
          replace g0 := g0.below hbx
          replace g1 := g1.below hbx
          replace c_q := c_q.below hbx
          replace c_r := c_r.below hbx
          replace c_m := c_m.below hbx
          replace c_a := c_a.below hbx
          replace g_x := g_x.below hbx
          replace g_y := g_y.below hbx
          replace hbt := hbt.trans (hbx.mono hbt.size)
          replace HB_x0 := Lib.hid ((hbx.block _ (lt_of_block HB_x0.out)).trans HB_x0.out)
          replace HB_x1 := Lib.hid ((hbx.block _ (lt_of_block HB_x1.out)).trans HB_x1.out)
          replace HB_y1 := Lib.hid ((hbx.block _ (lt_of_block HB_y1.out)).trans HB_y1.out)
          replace HB_y2 := Lib.hid ((hbx.block _ (lt_of_block HB_y2.out)).trans HB_y2.out)
          replace HB_y3 := Lib.hid ((hbx.block _ (lt_of_block HB_y3.out)).trans HB_y3.out)
          replace HB_y4 := Lib.hid ((hbx.block _ (lt_of_block HB_y4.out)).trans HB_y4.out)
          clear hbx
          replace x00 := (two_cells HB_x0.out).1
          replace x01 := (two_cells HB_x0.out).2.1
          replace x10 := (two_cells HB_x1.out).1
          replace x11 := (two_cells HB_x1.out).2.1
          replace y10 := (two_cells HB_y1.out).1
          replace y11 := (two_cells HB_y1.out).2.1
          replace y20 := (two_cells HB_y2.out).1
          replace y21 := (two_cells HB_y2.out).2.1
          replace y30 := (two_cells HB_y3.out).1
          replace y31 := (two_cells HB_y3.out).2.1
          replace y40 := (two_cells HB_y4.out).1
          replace y41 := (two_cells HB_y4.out).2.1
          go_wp2_with fail
          go_ret
          exact ⟨rfl, hbt⟩
      · rcases HSR.out with hr | ⟨-, hr⟩
        · have HSGR : Hid (sgnZ R = 0) := Lib.hid (by rw [hr]; rfl)
          clear hr HSR
          have hbt := below2 w (.cells #[.bool b0, .slice o0 n0 m0] 25) (.cells #[.bool b1, .slice o1 n1 m1] 25)
          have hbk := blocks2 (Below.refl (w.heap.size + 2) ((w.alloc (.cells #[.bool b0, .slice o0 n0 m0] 25)).alloc (.cells #[.bool b1, .slice o1 n1 m1] 25)))
          have HB_x0 := Lib.hid hbk.1
          have HB_x1 := Lib.hid hbk.2
          clear hbk
          replace g0 := g0.below hbt
          have x00 := (two_cells HB_x0.out).1
          have x01 := (two_cells HB_x0.out).2.1
          replace g1 := g1.below hbt
          have x10 := (two_cells HB_x1.out).1
          have x11 := (two_cells HB_x1.out).2.1
          go_enter Tryd.func4, Tryd.ntmps4
          go_wp2_with fail
          generalize ((w.alloc (.cells #[.bool b0, .slice o0 n0 m0] 25)).alloc (.cells #[.bool b1, .slice o1 n1 m1] 25)) = w0 at *
          refine (HF.out _ (tab_below HTB.out hbt)).mono ?_
          rintro e wx1 ⟨rfl, hbx⟩
          replace g0 := g0.below hbx
          replace g1 := g1.below hbx
          replace hbt := hbt.trans (hbx.mono hbt.size)
          replace HB_x0 := Lib.hid ((hbx.block _ (lt_of_block HB_x0.out)).trans HB_x0.out)
          replace HB_x1 := Lib.hid ((hbx.block _ (lt_of_block HB_x1.out)).trans HB_x1.out)
          clear hbx
          replace x00 := (two_cells HB_x0.out).1
          replace x01 := (two_cells HB_x0.out).2.1
          replace x10 := (two_cells HB_x1.out).1
          replace x11 := (two_cells HB_x1.out).2.1
          go_wp2_with fail
          refine (short_t2 20 _ rfl l0 l1).mono ?_
          rintro e wx2 ⟨rfl, hbx⟩
          replace g0 := g0.below hbx
          replace g1 := g1.below hbx
          replace hbt := hbt.trans (hbx.mono hbt.size)
          replace HB_x0 := Lib.hid ((hbx.block _ (lt_of_block HB_x0.out)).trans HB_x0.out)
          replace HB_x1 := Lib.hid ((hbx.block _ (lt_of_block HB_x1.out)).trans HB_x1.out)
          clear hbx
          replace x00 := (two_cells HB_x0.out).1
          replace x01 := (two_cells HB_x0.out).2.1
          replace x10 := (two_cells HB_x1.out).1
          replace x11 := (two_cells HB_x1.out).2.1
          go_wp2_with fail
          refine (wdiv_any _ _ A B 20 20 _ g0 g1 (by omega) (by omega) HB0.out).mono ?_
          rintro e wx3 ⟨v_q, v_r, rfl, c_q, c_r, hbx⟩
          rw [HQ.out] at c_q
          rw [HR.out] at c_r
          replace g0 := g0.below hbx
          replace g1 := g1.below hbx
          replace hbt := hbt.trans (hbx.mono hbt.size)
          replace HB_x0 := Lib.hid ((hbx.block _ (lt_of_block HB_x0.out)).trans HB_x0.out)
          replace HB_x1 := Lib.hid ((hbx.block _ (lt_of_block HB_x1.out)).trans HB_x1.out)
          clear hbx
          replace x00 := (two_cells HB_x0.out).1
          replace x01 := (two_cells HB_x0.out).2.1
          replace x10 := (two_cells HB_x1.out).1
          replace x11 := (two_cells HB_x1.out).2.1
          obtain ⟨b_q, o_q, l_q, k_q, rfl⟩ := c_q.shape
          obtain ⟨b_r, o_r, l_r, k_r, rfl⟩ := c_r.shape
          have hlt_x0 := lt_of_block HB_x0.out
          have hlu_x0 : w.heap.size < wx3.heap.size + 1 := Nat.lt_succ_of_lt hlt_x0
          have hlt_x1 := lt_of_block HB_x1.out
          have hlu_x1 : w.heap.size + 1 < wx3.heap.size + 1 := Nat.lt_succ_of_lt hlt_x1
          go_wp2_with fail
          clear hlt_x0 hlu_x0 hlt_x1 hlu_x1
          have hbx : Below wx3.heap.size wx3 ((wx3.alloc (.cells #[.bool b_q, .slice o_q l_q k_q] 25)).alloc (.cells #[.bool b_r, .slice o_r l_r k_r] 25)) := below2 wx3 (.cells #[.bool b_q, .slice o_q l_q k_q] 25) (.cells #[.bool b_r, .slice o_r l_r k_r] 25)
          replace g0 := g0.below hbx
          replace g1 := g1.below hbx
          replace c_q := c_q.below hbx
          replace c_r := c_r.below hbx
          replace hbt := hbt.trans (hbx.mono hbt.size)
          replace HB_x0 := Lib.hid ((hbx.block _ (lt_of_block HB_x0.out)).trans HB_x0.out)
          replace HB_x1 := Lib.hid ((hbx.block _ (lt_of_block HB_x1.out)).trans HB_x1.out)
          clear hbx
          replace x00 := (two_cells HB_x0.out).1
          replace x01 := (two_cells HB_x0.out).2.1
          replace x10 := (two_cells HB_x1.out).1
          replace x11 := (two_cells HB_x1.out).2.1
          have hbk := blocks2 (Below.refl (wx3.heap.size + 2) ((wx3.alloc (.cells #[.bool b_q, .slice o_q l_q k_q] 25)).alloc (.cells #[.bool b_r, .slice o_r l_r k_r] 25)))
          have HB_y1 := Lib.hid hbk.1
          have HB_y2 := Lib.hid hbk.2
          clear hbk
          have y10 := (two_cells HB_y1.out).1
          have y11 := (two_cells HB_y1.out).2.1
          have y20 := (two_cells HB_y2.out).1
          have y21 := (two_cells HB_y2.out).2.1
          generalize ((wx3.alloc (.cells #[.bool b_q, .slice o_q l_q k_q] 25)).alloc (.cells #[.bool b_r, .slice o_r l_r k_r] 25)) = wx4 at *
          refine (wsign_s _ B 20 (-1) _ g1 HSB.out (by omega)).mono ?_
          rintro e wx5 ⟨rfl, hbx⟩
          replace g0 := g0.below hbx
          replace g1 := g1.below hbx
          replace c_q := c_q.below hbx
          replace c_r := c_r.below hbx
          replace hbt := hbt.trans (hbx.mono hbt.size)
          replace HB_x0 := Lib.hid ((hbx.block _ (lt_of_block HB_x0.out)).trans HB_x0.out)
          replace HB_x1 := Lib.hid ((hbx.block _ (lt_of_block HB_x1.out)).trans HB_x1.out)
          replace HB_y1 := Lib.hid ((hbx.block _ (lt_of_block HB_y1.out)).trans HB_y1.out)
          replace HB_y2 := Lib.hid ((hbx.block _ (lt_of_block HB_y2.out)).trans HB_y2.out)
          clear hbx
          replace x00 := (two_cells HB_x0.out).1
          replace x01 := (two_cells HB_x0.out).2.1
          replace x10 := (two_cells HB_x1.out).1
          replace x11 := (two_cells HB_x1.out).2.1
          replace y10 := (two_cells HB_y1.out).1
          replace y11 := (two_cells HB_y1.out).2.1
          replace y20 := (two_cells HB_y2.out).1
          replace y21 := (two_cells HB_y2.out).2.1
          go_wp2_with fail
          have HSx := Lib.hid (show ∀ w', Below wx5.drew.heap.size wx5.drew w' → w'.cell? ⟨w.heap.size, 0, none⟩ = some (.bool b0) ∧ w'.cell? ⟨w.heap.size, 1, none⟩ = some (.slice o0 n0 m0) ∧ w'.cell? ⟨w.heap.size + 1, 0, none⟩ = some (.bool b1) ∧ w'.cell? ⟨w.heap.size + 1, 1, none⟩ = some (.slice o1 n1 m1) ∧ w'.cell? ⟨wx3.heap.size, 0, none⟩ = some (.bool b_q) ∧ w'.cell? ⟨wx3.heap.size, 1, none⟩ = some (.slice o_q l_q k_q) ∧ w'.cell? ⟨wx3.heap.size + 1, 0, none⟩ = some (.bool b_r) ∧ w'.cell? ⟨wx3.heap.size + 1, 1, none⟩ = some (.slice o_r l_r k_r) from fun w' hb => ⟨(hb.cell (lt_of_block HB_x0.out)).trans x00, (hb.cell (lt_of_block HB_x0.out)).trans x01, (hb.cell (lt_of_block HB_x1.out)).trans x10, (hb.cell (lt_of_block HB_x1.out)).trans x11, (hb.cell (lt_of_block HB_y1.out)).trans y10, (hb.cell (lt_of_block HB_y1.out)).trans y11, (hb.cell (lt_of_block HB_y2.out)).trans y20, (hb.cell (lt_of_block HB_y2.out)).trans y21⟩)
          refine Rely.region (by kernel_rfl) [[], [0], [0, 1], [0, 1, 2], [0, 1, 2], [0, 1, 2, 3, 4], [0, 1, 2], [0, 1, 2, 3, 4, 5, 6], [0, 1, 2], [0, 1, 2, 3, 4, 5, 6, 7, 8], [0, 1, 2, 3, 4, 5, 6, 7, 8, 9], [0, 1, 2, 3, 4, 5, 6, 7, 8, 9, 10], [0, 1, 2, 3, 4, 5, 6, 7, 8, 9, 10, 11], [0, 1, 2, 3, 4, 5, 6, 7, 8, 9, 10, 11, 12], [0, 1, 2, 3, 4, 5, 6, 7, 8, 9, 10, 11, 12, 13], [0, 1, 2, 3, 4, 5, 6, 7, 8, 9, 10, 11, 12, 13, 14], [0, 1, 2, 3, 4, 5, 6, 7, 8, 9, 10, 11, 12, 13, 14, 15], [0, 1, 2, 3, 4, 5, 6, 7, 8, 9, 10, 11, 12, 13, 14, 15, 16], [0, 1, 2, 3, 4, 5, 6, 7, 8, 9, 10, 11, 12, 13, 14, 15, 16, 17], [0, 1, 2, 3, 4, 5, 6, 7, 8, 9, 10, 11, 12, 13, 14, 15, 16], [0, 1, 2, 3, 4, 5, 6, 7, 8, 9, 10, 11, 12, 13, 14, 15, 16, 17, 18, 19], [0, 1, 2, 3, 4, 5, 6, 7, 8, 9, 10, 11, 12, 13, 14, 15, 16, 17, 18, 19, 20], [0, 1, 2, 3, 4, 5, 6, 7, 8, 9, 10, 11, 12, 13, 14, 15, 16, 17, 18, 19, 20, 21], [0, 1, 2, 3, 4, 5, 6, 7, 8, 9, 10, 11, 12, 13, 14, 15, 16, 17, 18, 19, 20, 21, 22]] [] [] 24 (by kernel_rfl) (by kernel_rfl) ?_
          refine Rely.Chain.det ?_ (by rfl) (fun T xs wr hA => ?_) ?_
          rotate_left 1
          · have e7 := hA.pre 7 (by kernel_rfl)
            simp only [List.getElem?_toArray, List.getElem?_cons_succ, List.getElem?_cons_zero] at e7
            clear hA
            refine ⟨(by rfl), ?_⟩
            go_simp <;> (try with_reducible rfl)
          refine Rely.Chain.det ?_ (by rfl) (fun T xs wr hA => ?_) ?_
          rotate_left 1
          · have e39 := hA.tm 0 39 (by rfl) (by rfl)
            have f39 : xs 0 = _ := hA.fa 0 (by rfl)
            (try simp (disch := rfl) only [Rely.mask_in] at f39)
            rw [f39] at e39
            clear f39
            clear hA
            refine ⟨(by rfl), ?_⟩
            go_simp <;> (try with_reducible rfl)
          refine Rely.Chain.det ?_ (by rfl) (fun T xs wr hA => ?_) ?_
          rotate_left 1
          · have e40 := hA.tm 1 40 (by rfl) (by rfl)
            have f40 : xs 1 = _ := hA.fa 1 (by rfl)
            (try simp (disch := rfl) only [Rely.mask_in] at f40)
            rw [f40] at e40
            clear f40
            clear hA
            refine ⟨(by rfl), ?_⟩
            go_simp <;> (try with_reducible rfl)
          refine Rely.Chain.det ?_ (by rfl) (fun T xs wr hA => ?_) ?_
          rotate_left 1
          · obtain ⟨x00, x01, x10, x11, y10, y11, y20, y21⟩ := HSx.out wr hA.bw
            have e41 := hA.tm 2 41 (by rfl) (by rfl)
            have f41 : xs 2 = _ := hA.fa 2 (by rfl)
            (try simp (disch := rfl) only [Rely.mask_in] at f41)
            rw [f41] at e41
            clear f41
            have e5 := hA.pre 5 (by kernel_rfl)
            simp only [List.getElem?_toArray, List.getElem?_cons_succ, List.getElem?_cons_zero] at e5
            clear hA
            refine ⟨((Rely.wanted_at rfl (by rfl) e41).trans (by rfl)), ?_⟩
            go_simp <;> (try with_reducible rfl)
          refine Rely.Chain.det ?_ (by rfl) (fun T xs wr hA => ?_) ?_
          rotate_left 1
          · obtain ⟨x00, x01, x10, x11, y10, y11, y20, y21⟩ := HSx.out wr hA.bw
            have e41 := hA.tm 2 41 (by rfl) (by rfl)
            have f41 : xs 2 = _ := hA.fa 2 (by rfl)
            (try simp (disch := rfl) only [Rely.mask_in] at f41)
            rw [f41] at e41
            clear f41
            have e3 := hA.pre 3 (by kernel_rfl)
            simp only [List.getElem?_toArray, List.getElem?_cons_succ, List.getElem?_cons_zero] at e3
            clear hA
            refine ⟨((Rely.wanted_at rfl (by rfl) e41).trans (by rfl)), ?_⟩
            go_simp <;> (try with_reducible rfl)
          refine Rely.Chain.call (fun _ v w => CI w v (Q * B) 43) (fun _ _ _ _ h hb => h.below hb) (fun _ _ _ _ _ h hp => h.keeps hp.keeps) (by rfl) (fun T xs wr hA => ?_) ?_
          · have hbw := undrew hA.bw
            have e41 := hA.tm 2 41 (by rfl) (by rfl)
            have f41 : xs 2 = _ := hA.fa 2 (by rfl)
            (try simp (disch := rfl) only [Rely.mask_in] at f41)
            rw [f41] at e41
            clear f41
            have e42 := hA.tm 3 42 (by rfl) (by rfl)
            have f42 : xs 3 = _ := hA.fa 3 (by rfl)
            (try simp (disch := rfl) only [Rely.mask_in] at f42)
            rw [f42] at e42
            clear f42
            have e43 := hA.tm 4 43 (by rfl) (by rfl)
            have f43 : xs 4 = _ := hA.fa 4 (by rfl)
            (try simp (disch := rfl) only [Rely.mask_in] at f43)
            rw [f43] at e43
            clear f43
            have c_q := c_q.below hbw
            have g1 := g1.below hbw
            clear hA
            refine ⟨((Rely.wanted_at rfl (by rfl) e41).trans (by rfl)), fun K hK => ?_⟩
            clear e41
            go_simp
            refine (wmul_any _ _ Q B 23 20 _ c_q.gi g1 (by omega) (by omega)).mono ?_
            rintro e wq ⟨v, rfl, c, hb⟩
            exact hK.out _ _ c hb
          refine Rely.Chain.det ?_ (by rfl) (fun T xs wr hA => ?_) ?_
          rotate_left 1
          · obtain ⟨x00, x01, x10, x11, y10, y11, y20, y21⟩ := HSx.out wr hA.bw
            have e41 := hA.tm 2 41 (by rfl) (by rfl)
            have f41 : xs 2 = _ := hA.fa 2 (by rfl)
            (try simp (disch := rfl) only [Rely.mask_in] at f41)
            rw [f41] at e41
            clear f41
            have e6 := hA.pre 6 (by kernel_rfl)
            simp only [List.getElem?_toArray, List.getElem?_cons_succ, List.getElem?_cons_zero] at e6
            clear hA
            refine ⟨((Rely.wanted_at rfl (by rfl) e41).trans (by rfl)), ?_⟩
            go_simp <;> (try with_reducible rfl)
          refine Rely.Chain.call (fun _ v w => CI w v (Q * B + R) 64) (fun _ _ _ _ h hb => h.below hb) (fun _ _ _ _ _ h hp => h.keeps hp.keeps) (by rfl) (fun T xs wr hA => ?_) ?_
          · have hbw := undrew hA.bw
            have e41 := hA.tm 2 41 (by rfl) (by rfl)
            have f41 : xs 2 = _ := hA.fa 2 (by rfl)
            (try simp (disch := rfl) only [Rely.mask_in] at f41)
            rw [f41] at e41
            clear f41
            have e44 := hA.tm 5 44 (by rfl) (by rfl)
            have e45 := hA.tm 6 45 (by rfl) (by rfl)
            have f45 : xs 6 = _ := hA.fa 6 (by rfl)
            (try simp (disch := rfl) only [Rely.mask_in] at f45)
            rw [f45] at e45
            clear f45
            have c_m : CI wr (xs 5) (Q * B) 43 := hA.fa 5 (by rfl)
            have c_r := c_r.below hbw
            clear hA
            refine ⟨((Rely.wanted_at rfl (by rfl) e41).trans (by rfl)), fun K hK => ?_⟩
            clear e41
            go_simp
            refine (wadd_any _ _ (Q * B) R 43 20 _ c_m.gi c_r.gi (by omega) (by omega)).mono ?_
            rintro e wq ⟨v, rfl, c, hb⟩
            exact hK.out _ _ c hb
          refine Rely.Chain.det ?_ (by rfl) (fun T xs wr hA => ?_) ?_
          rotate_left 1
          · obtain ⟨x00, x01, x10, x11, y10, y11, y20, y21⟩ := HSx.out wr hA.bw
            have e41 := hA.tm 2 41 (by rfl) (by rfl)
            have f41 : xs 2 = _ := hA.fa 2 (by rfl)
            (try simp (disch := rfl) only [Rely.mask_in] at f41)
            rw [f41] at e41
            clear f41
            have e2 := hA.pre 2 (by kernel_rfl)
            simp only [List.getElem?_toArray, List.getElem?_cons_succ, List.getElem?_cons_zero] at e2
            clear hA
            refine ⟨((Rely.wanted_at rfl (by rfl) e41).trans (by rfl)), ?_⟩
            go_simp <;> (try with_reducible rfl)
          refine Rely.Chain.call (fun _ v _ => v = .int .i64 0) (fun _ _ _ _ h _ => h) (fun _ _ _ _ _ h _ => h) (by rfl) (fun T xs wr hA => ?_) ?_
          · have hbw := undrew hA.bw
            have e41 := hA.tm 2 41 (by rfl) (by rfl)
            have f41 : xs 2 = _ := hA.fa 2 (by rfl)
            (try simp (disch := rfl) only [Rely.mask_in] at f41)
            rw [f41] at e41
            clear f41
            have e46 := hA.tm 7 46 (by rfl) (by rfl)
            have e47 := hA.tm 8 47 (by rfl) (by rfl)
            have f47 : xs 8 = _ := hA.fa 8 (by rfl)
            (try simp (disch := rfl) only [Rely.mask_in] at f47)
            rw [f47] at e47
            clear f47
            have c_a : CI wr (xs 7) (Q * B + R) 64 := hA.fa 7 (by rfl)
            have g0 := g0.below hbw
            clear hA
            refine ⟨((Rely.wanted_at rfl (by rfl) e41).trans (by rfl)), fun K hK => ?_⟩
            clear e41
            go_simp
            refine (wcmp_s _ _ (Q * B + R) A 64 20 0 _ c_a.gi g0 HSUM.out (by omega) (by omega)).mono ?_
            rintro e wq ⟨rfl, hb⟩
            exact hK.out _ _ rfl hb
          refine Rely.Chain.det ?_ (by rfl) (fun T xs wr hA => ?_) ?_
          rotate_left 1
          · have e41 := hA.tm 2 41 (by rfl) (by rfl)
            have f41 : xs 2 = _ := hA.fa 2 (by rfl)
            (try simp (disch := rfl) only [Rely.mask_in] at f41)
            rw [f41] at e41
            clear f41
            have e48 := hA.tm 9 48 (by rfl) (by rfl)
            have f48 : xs 9 = (.int .i64 0) := hA.fa 9 (by rfl)
            rw [f48] at e48
            clear f48
            clear hA
            refine ⟨((Rely.wanted_at rfl (by rfl) e41).trans (by rfl)), ?_⟩
            go_simp <;> (try with_reducible rfl)
          refine Rely.Chain.det ?_ (by rfl) (fun T xs wr hA => ?_) ?_
          rotate_left 1
          · have e41 := hA.tm 2 41 (by rfl) (by rfl)
            have f41 : xs 2 = _ := hA.fa 2 (by rfl)
            (try simp (disch := rfl) only [Rely.mask_in] at f41)
            rw [f41] at e41
            clear f41
            have e49 := hA.tm 10 49 (by rfl) (by rfl)
            have f49 : xs 10 = _ := hA.fa 10 (by rfl)
            (try simp (disch := rfl) only [Rely.mask_in] at f49)
            rw [f49] at e49
            clear f49
            clear hA
            refine ⟨(by rfl), ?_⟩
            go_simp <;> (try with_reducible rfl)
          refine Rely.Chain.det ?_ (by rfl) (fun T xs wr hA => ?_) ?_
          rotate_left 1
          · have e50 := hA.tm 11 50 (by rfl) (by rfl)
            have f50 : xs 11 = _ := hA.fa 11 (by rfl)
            (try simp (disch := rfl) only [Rely.mask_in] at f50)
            rw [f50] at e50
            clear f50
            clear hA
            refine ⟨(by rfl), ?_⟩
            go_simp <;> (try with_reducible rfl)
          refine Rely.Chain.det ?_ (by rfl) (fun T xs wr hA => ?_) ?_
          rotate_left 1
          · obtain ⟨x00, x01, x10, x11, y10, y11, y20, y21⟩ := HSx.out wr hA.bw
            have e51 := hA.tm 12 51 (by rfl) (by rfl)
            have f51 : xs 12 = _ := hA.fa 12 (by rfl)
            (try simp (disch := rfl) only [Rely.mask_in] at f51)
            rw [f51] at e51
            clear f51
            have e6 := hA.pre 6 (by kernel_rfl)
            simp only [List.getElem?_toArray, List.getElem?_cons_succ, List.getElem?_cons_zero] at e6
            clear hA
            refine ⟨((Rely.wanted_at rfl (by rfl) e51).trans (by rfl)), ?_⟩
            go_simp <;> (try with_reducible rfl)
          refine Rely.Chain.call (fun _ v _ => v = .int .i64 0) (fun _ _ _ _ h _ => h) (fun _ _ _ _ _ h _ => h) (by rfl) (fun T xs wr hA => ?_) ?_
          · have hbw := undrew hA.bw
            have e51 := hA.tm 12 51 (by rfl) (by rfl)
            have f51 : xs 12 = _ := hA.fa 12 (by rfl)
            (try simp (disch := rfl) only [Rely.mask_in] at f51)
            rw [f51] at e51
            clear f51
            have e52 := hA.tm 13 52 (by rfl) (by rfl)
            have f52 : xs 13 = _ := hA.fa 13 (by rfl)
            (try simp (disch := rfl) only [Rely.mask_in] at f52)
            rw [f52] at e52
            clear f52
            have c_r := c_r.below hbw
            clear hA
            refine ⟨((Rely.wanted_at rfl (by rfl) e51).trans (by rfl)), fun K hK => ?_⟩
            clear e51
            go_simp
            refine (wsign_s _ R 20 0 _ c_r.gi HSGR.out (by omega)).mono ?_
            rintro e wq ⟨rfl, hb⟩
            exact hK.out _ _ rfl hb
          refine Rely.Chain.det ?_ (by rfl) (fun T xs wr hA => ?_) ?_
          rotate_left 1
          · have e51 := hA.tm 12 51 (by rfl) (by rfl)
            have f51 : xs 12 = _ := hA.fa 12 (by rfl)
            (try simp (disch := rfl) only [Rely.mask_in] at f51)
            rw [f51] at e51
            clear f51
            have e53 := hA.tm 14 53 (by rfl) (by rfl)
            have f53 : xs 14 = (.int .i64 0) := hA.fa 14 (by rfl)
            rw [f53] at e53
            clear f53
            clear hA
            refine ⟨((Rely.wanted_at rfl (by rfl) e51).trans (by rfl)), ?_⟩
            go_simp <;> (try with_reducible rfl)
          refine Rely.Chain.det ?_ (by rfl) (fun T xs wr hA => ?_) ?_
          rotate_left 1
          · have e51 := hA.tm 12 51 (by rfl) (by rfl)
            have f51 : xs 12 = _ := hA.fa 12 (by rfl)
            (try simp (disch := rfl) only [Rely.mask_in] at f51)
            rw [f51] at e51
            clear f51
            have e54 := hA.tm 15 54 (by rfl) (by rfl)
            have f54 : xs 15 = _ := hA.fa 15 (by rfl)
            (try simp (disch := rfl) only [Rely.mask_in] at f54)
            rw [f54] at e54
            clear f54
            clear hA
            refine ⟨((Rely.wanted_at rfl (by rfl) e51).trans (by rfl)), ?_⟩
            go_simp <;> (try with_reducible rfl)
          refine Rely.Chain.skip (by rfl) (fun T xs wr hA => ?_) ?_
          · have e55 := hA.tm 16 55 (by rfl) (by rfl)
            have f55 : xs 16 = _ := hA.fa 16 (by rfl)
            (try simp (disch := rfl) only [Rely.mask_in] at f55)
            rw [f55] at e55
            clear f55
            exact ((Rely.wanted_at rfl (by rfl) e55).trans (by rfl))
          refine Rely.Chain.skip (by rfl) (fun T xs wr hA => ?_) ?_
          · have e55 := hA.tm 16 55 (by rfl) (by rfl)
            have f55 : xs 16 = _ := hA.fa 16 (by rfl)
            (try simp (disch := rfl) only [Rely.mask_in] at f55)
            rw [f55] at e55
            clear f55
            exact ((Rely.wanted_at rfl (by rfl) e55).trans (by rfl))
          refine Rely.Chain.skip (by rfl) (fun T xs wr hA => ?_) ?_
          · have e55 := hA.tm 16 55 (by rfl) (by rfl)
            have f55 : xs 16 = _ := hA.fa 16 (by rfl)
            (try simp (disch := rfl) only [Rely.mask_in] at f55)
            rw [f55] at e55
            clear f55
            exact ((Rely.wanted_at rfl (by rfl) e55).trans (by rfl))
          refine Rely.Chain.skip (by rfl) (fun T xs wr hA => ?_) ?_
          · have e55 := hA.tm 16 55 (by rfl) (by rfl)
            have f55 : xs 16 = _ := hA.fa 16 (by rfl)
            (try simp (disch := rfl) only [Rely.mask_in] at f55)
            rw [f55] at e55
            clear f55
            exact ((Rely.wanted_at rfl (by rfl) e55).trans (by rfl))
          refine Rely.Chain.skip (by rfl) (fun T xs wr hA => ?_) ?_
          · have e55 := hA.tm 16 55 (by rfl) (by rfl)
            have f55 : xs 16 = _ := hA.fa 16 (by rfl)
            (try simp (disch := rfl) only [Rely.mask_in] at f55)
            rw [f55] at e55
            clear f55
            exact ((Rely.wanted_at rfl (by rfl) e55).trans (by rfl))
          refine Rely.Chain.det ?_ (by rfl) (fun T xs wr hA => ?_) ?_
          rotate_left 1
          · have e51 := hA.tm 12 51 (by rfl) (by rfl)
            have f51 : xs 12 = _ := hA.fa 12 (by rfl)
            (try simp (disch := rfl) only [Rely.mask_in] at f51)
            rw [f51] at e51
            clear f51
            have e55 := hA.tm 16 55 (by rfl) (by rfl)
            have f55 : xs 16 = _ := hA.fa 16 (by rfl)
            (try simp (disch := rfl) only [Rely.mask_in] at f55)
            rw [f55] at e55
            clear f55
            have e60 := hA.tm 21 60 (by rfl) (by rfl)
            have f60 : xs 21 = undef := hA.fa 21 (by rfl)
            rw [f60] at e60
            clear f60
            clear hA
            refine ⟨((Rely.wanted_at rfl (by rfl) e51).trans (by rfl)), ?_⟩
            go_simp <;> (try with_reducible rfl)
          refine Rely.Chain.det ?_ (by rfl) (fun T xs wr hA => ?_) ?_
          rotate_left 1
          · have e51 := hA.tm 12 51 (by rfl) (by rfl)
            have f51 : xs 12 = _ := hA.fa 12 (by rfl)
            (try simp (disch := rfl) only [Rely.mask_in] at f51)
            rw [f51] at e51
            clear f51
            have e61 := hA.tm 22 61 (by rfl) (by rfl)
            have f61 : xs 22 = _ := hA.fa 22 (by rfl)
            (try simp (disch := rfl) only [Rely.mask_in] at f61)
            rw [f61] at e61
            clear f61
            clear hA
            refine ⟨(by rfl), ?_⟩
            go_simp <;> (try with_reducible rfl)
          refine Rely.Chain.done (fun xs wx6 hL => ?_)
          obtain ⟨hbx', hf, hp, hn⟩ := hL
          have f0 : xs 0 = _ := hf 0 (by decide)
          (try simp (disch := rfl) only [Rely.mask_in] at f0)
          have f1 : xs 1 = _ := hf 1 (by decide)
          (try simp (disch := rfl) only [Rely.mask_in] at f1)
          have f2 : xs 2 = _ := hf 2 (by decide)
          (try simp (disch := rfl) only [Rely.mask_in] at f2)
          have f3 : xs 3 = _ := hf 3 (by decide)
          (try simp (disch := rfl) only [Rely.mask_in] at f3)
          have f4 : xs 4 = _ := hf 4 (by decide)
          (try simp (disch := rfl) only [Rely.mask_in] at f4)
          have c_m : CI wx6 (xs 5) (Q * B) 43 := hf 5 (by decide)
          have f6 : xs 6 = _ := hf 6 (by decide)
          (try simp (disch := rfl) only [Rely.mask_in] at f6)
          have c_a : CI wx6 (xs 7) (Q * B + R) 64 := hf 7 (by decide)
          have f8 : xs 8 = _ := hf 8 (by decide)
          (try simp (disch := rfl) only [Rely.mask_in] at f8)
          have f9 : xs 9 = (.int .i64 0) := hf 9 (by decide)
          (try simp (disch := rfl) only [Rely.mask_in] at f9)
          have f10 : xs 10 = _ := hf 10 (by decide)
          (try simp (disch := rfl) only [Rely.mask_in] at f10)
          have f11 : xs 11 = _ := hf 11 (by decide)
          (try simp (disch := rfl) only [Rely.mask_in] at f11)
          have f12 : xs 12 = _ := hf 12 (by decide)
          (try simp (disch := rfl) only [Rely.mask_in] at f12)
          have f13 : xs 13 = _ := hf 13 (by decide)
          (try simp (disch := rfl) only [Rely.mask_in] at f13)
          have f14 : xs 14 = (.int .i64 0) := hf 14 (by decide)
          (try simp (disch := rfl) only [Rely.mask_in] at f14)
          have f15 : xs 15 = _ := hf 15 (by decide)
          (try simp (disch := rfl) only [Rely.mask_in] at f15)
          have f16 : xs 16 = _ := hf 16 (by decide)
          (try simp (disch := rfl) only [Rely.mask_in] at f16)
          have f17 : xs 17 = _ := hf 17 (by decide)
          (try simp (disch := rfl) only [Rely.mask_in] at f17)
          have f18 : xs 18 = _ := hf 18 (by decide)
          (try simp (disch := rfl) only [Rely.mask_in] at f18)
          have f19 : xs 19 = _ := hf 19 (by decide)
          (try simp (disch := rfl) only [Rely.mask_in] at f19)
          have f20 : xs 20 = _ := hf 20 (by decide)
          (try simp (disch := rfl) only [Rely.mask_in] at f20)
          have f21 : xs 21 = _ := hf 21 (by decide)
          (try simp (disch := rfl) only [Rely.mask_in] at f21)
          have f22 : xs 22 = _ := hf 22 (by decide)
          (try simp (disch := rfl) only [Rely.mask_in] at f22)
          have f23 : xs 23 = _ := hf 23 (by decide)
          (try simp (disch := rfl) only [Rely.mask_in] at f23)
          clear hf hp hn
          refine Rely.rest_done ?_
          simp only [Rely.fill, List.setIfInBounds_toArray, List.set_cons_zero, List.set_cons_succ, f0, f1, f2, f3, f4, f6, f8, f9, f10, f11, f12, f13, f14, f15, f16, f17, f18, f19, f20, f21, f22, f23]
          clear f0 f1 f2 f3 f4 f6 f8 f9 f10 f11 f12 f13 f14 f15 f16 f17 f18 f19 f20 f21 f22 f23
          generalize xs 5 = v_m at c_m ⊢
          generalize xs 7 = v_a at c_a ⊢
          clear xs
          obtain ⟨b_m, o_m, l_m, k_m, rfl⟩ := c_m.shape
          obtain ⟨b_a, o_a, l_a, k_a, rfl⟩ := c_a.shape
          have hbx := undrew hbx'
          clear hbx'
          clear HSx
          replace g0 := g0.below hbx
          replace g1 := g1.below hbx
          replace c_q := c_q.below hbx
          replace c_r := c_r.below hbx
          replace hbt := hbt.trans (hbx.mono hbt.size)
          replace HB_x0 := Lib.hid ((hbx.block _ (lt_of_block HB_x0.out)).trans HB_x0.out)
          replace HB_x1 := Lib.hid ((hbx.block _ (lt_of_block HB_x1.out)).trans HB_x1.out)
          replace HB_y1 := Lib.hid ((hbx.block _ (lt_of_block HB_y1.out)).trans HB_y1.out)
          replace HB_y2 := Lib.hid ((hbx.block _ (lt_of_block HB_y2.out)).trans HB_y2.out)
          clear hbx
          replace x00 := (two_cells HB_x0.out).1
          replace x01 := (two_cells HB_x0.out).2.1
          replace x10 := (two_cells HB_x1.out).1
          replace x11 := (two_cells HB_x1.out).2.1
          replace y10 := (two_cells HB_y1.out).1
          replace y11 := (two_cells HB_y1.out).2.1
          replace y20 := (two_cells HB_y2.out).1
          replace y21 := (two_cells HB_y2.out).2.1
          go_wp2_with fail
          have HSx := Lib.hid (show ∀ w', Below wx6.drew.heap.size wx6.drew w' → w'.cell? ⟨w.heap.size, 0, none⟩ = some (.bool b0) ∧ w'.cell? ⟨w.heap.size, 1, none⟩ = some (.slice o0 n0 m0) ∧ w'.cell? ⟨w.heap.size + 1, 0, none⟩ = some (.bool b1) ∧ w'.cell? ⟨w.heap.size + 1, 1, none⟩ = some (.slice o1 n1 m1) ∧ w'.cell? ⟨wx3.heap.size, 0, none⟩ = some (.bool b_q) ∧ w'.cell? ⟨wx3.heap.size, 1, none⟩ = some (.slice o_q l_q k_q) ∧ w'.cell? ⟨wx3.heap.size + 1, 0, none⟩ = some (.bool b_r) ∧ w'.cell? ⟨wx3.heap.size + 1, 1, none⟩ = some (.slice o_r l_r k_r) from fun w' hb => ⟨(hb.cell (lt_of_block HB_x0.out)).trans x00, (hb.cell (lt_of_block HB_x0.out)).trans x01, (hb.cell (lt_of_block HB_x1.out)).trans x10, (hb.cell (lt_of_block HB_x1.out)).trans x11, (hb.cell (lt_of_block HB_y1.out)).trans y10, (hb.cell (lt_of_block HB_y1.out)).trans y11, (hb.cell (lt_of_block HB_y2.out)).trans y20, (hb.cell (lt_of_block HB_y2.out)).trans y21⟩)
          have hszc := hbt.size
          have hlt_x0 := lt_of_block HB_x0.out
          have hlt_x1 := lt_of_block HB_x1.out
          have hlt_y1 := lt_of_block HB_y1.out
          have hlt_y2 := lt_of_block HB_y2.out
          refine Rely.region (by kernel_rfl) [[], [], [], [], [0, 2, 3], [0, 1, 2, 3, 4]] [2, 3] [(4, 2), (5, 3)] 6 (by kernel_rfl) (by kernel_rfl) ?_
          refine Rely.Chain.det ?_ (by rfl) (fun T xs wr hA => ?_) ?_
          rotate_left 1
          · obtain ⟨x00, x01, x10, x11, y10, y11, y20, y21⟩ := HSx.out wr hA.bw
            have e6 := hA.pre 6 (by kernel_rfl)
            simp only [List.getElem?_toArray, List.getElem?_cons_succ, List.getElem?_cons_zero] at e6
            clear hA
            refine ⟨(by rfl), ?_⟩
            go_simp <;> (try with_reducible rfl)
          refine Rely.Chain.det ?_ (by rfl) (fun T xs wr hA => ?_) ?_
          rotate_left 1
          · obtain ⟨x00, x01, x10, x11, y10, y11, y20, y21⟩ := HSx.out wr hA.bw
            have e3 := hA.pre 3 (by kernel_rfl)
            simp only [List.getElem?_toArray, List.getElem?_cons_succ, List.getElem?_cons_zero] at e3
            clear hA
            refine ⟨(by rfl), ?_⟩
            go_simp <;> (try with_reducible rfl)
          refine Rely.Chain.alloc ?_ ?_ (by rfl) (fun Ts xs wr hA => ?_) ?_ ?_
          rotate_left 2
          · clear hA
            refine ⟨(by rfl), fun K hK => ?_⟩
            go_simp
            exact hK.out
          · rfl
          refine Rely.Chain.alloc ?_ ?_ (by rfl) (fun Ts xs wr hA => ?_) ?_ ?_
          rotate_left 2
          · clear hA
            refine ⟨(by rfl), fun K hK => ?_⟩
            go_simp
            exact hK.out
          · rfl
          refine Rely.Chain.store 2 0 25 2 (by rfl) (by rfl) (by rfl) rfl (fun T xs wr g c hA hx hB hn hi => ?_) ?_
          · have e8 := hA.tm 2 8 (by rfl) (by rfl)
            rw [hx] at e8
            have e63 := hA.tm 0 63 (by rfl) (by rfl)
            have hv : xs 0 = _ := hA.fa 0 (by rfl)
            (try simp (disch := rfl) only [Rely.mask_in] at hv)
            rw [hv] at e63
            obtain ⟨c0, c1, rfl⟩ := two_of hn
            have z0 := cell_at hB 0 rfl
            have z1 := cell_at hB 1 rfl
            have fz0 := froz_at hB 0
            have fz1 := froz_at hB 1
            clear hA hn
            refine ⟨by rfl, fun K hK => ?_⟩
            go_simp
            exact hK.out _ _ hv (hset2 hB _ _) (priv2 hB hi (by rfl))
          refine Rely.Chain.store 3 1 25 2 (by rfl) (by rfl) (by rfl) rfl (fun T xs wr g c hA hx hB hn hi => ?_) ?_
          · have e9 := hA.tm 3 9 (by rfl) (by rfl)
            rw [hx] at e9
            have e64 := hA.tm 1 64 (by rfl) (by rfl)
            have hv : xs 1 = _ := hA.fa 1 (by rfl)
            (try simp (disch := rfl) only [Rely.mask_in] at hv)
            rw [hv] at e64
            obtain ⟨c0, c1, rfl⟩ := two_of hn
            have z0 := cell_at hB 0 rfl
            have z1 := cell_at hB 1 rfl
            have fz0 := froz_at hB 0
            have fz1 := froz_at hB 1
            clear hA hn
            refine ⟨by rfl, fun K hK => ?_⟩
            go_simp
            exact hK.out _ _ hv (hset2 hB _ _) (priv2 hB hi (by rfl))
          refine Rely.Chain.done (fun xs wx7 hL => ?_)
          obtain ⟨hbx', hf, hp, hn⟩ := hL
          have f0 : xs 0 = _ := hf 0 (by decide)
          (try simp (disch := rfl) only [Rely.mask_in] at f0)
          have f1 : xs 1 = _ := hf 1 (by decide)
          (try simp (disch := rfl) only [Rely.mask_in] at f1)
          obtain ⟨g_y3, cc, f2, hv, hB_y3⟩ := hf 4 (by decide)
          change xs 2 = _ at f2
          change xs 0 = _ at hv
          rw [f0] at hv
          injection hv with hv
          subst hv
          have hg_y3 : wx6.heap.size ≤ g_y3 := by obtain ⟨g, h1, h2, -⟩ := hp 2 (by rfl) (by decide); rw [f2] at h1; injection h1 with h1; injection h1 with h1; injection h1 with h1; subst h1; exact h2
          obtain ⟨g_y4, cc, f3, hv, hB_y4⟩ := hf 5 (by decide)
          change xs 3 = _ at f3
          change xs 1 = _ at hv
          rw [f1] at hv
          injection hv with hv
          subst hv
          have hg_y4 : wx6.heap.size ≤ g_y4 := by obtain ⟨g, h1, h2, -⟩ := hp 3 (by rfl) (by decide); rw [f3] at h1; injection h1 with h1; injection h1 with h1; injection h1 with h1; subst h1; exact h2
          have hne_y3_y4 : g_y3 ≠ g_y4 := fun h => hn 2 3 (by rfl) (by rfl) (by decide) (by decide) (by decide) (by rw [f2, f3, h])
          clear hf hp hn
          refine Rely.rest_done ?_
          simp only [Rely.fill, List.setIfInBounds_toArray, List.set_cons_zero, List.set_cons_succ, f0, f1, f2, f3]
          clear f0 f1 f2 f3
          clear xs
          have hbx := undrew hbx'
          clear hbx'
          clear HSx
          replace g0 := g0.below hbx
          replace g1 := g1.below hbx
          replace c_q := c_q.below hbx
          replace c_r := c_r.below hbx
          replace c_m := c_m.below hbx
          replace c_a := c_a.below hbx
          replace hbt := hbt.trans (hbx.mono hbt.size)
          replace HB_x0 := Lib.hid ((hbx.block _ (lt_of_block HB_x0.out)).trans HB_x0.out)
          replace HB_x1 := Lib.hid ((hbx.block _ (lt_of_block HB_x1.out)).trans HB_x1.out)
          replace HB_y1 := Lib.hid ((hbx.block _ (lt_of_block HB_y1.out)).trans HB_y1.out)
          replace HB_y2 := Lib.hid ((hbx.block _ (lt_of_block HB_y2.out)).trans HB_y2.out)
          clear hbx
          replace x00 := (two_cells HB_x0.out).1
          replace x01 := (two_cells HB_x0.out).2.1
          replace x10 := (two_cells HB_x1.out).1
          replace x11 := (two_cells HB_x1.out).2.1
          replace y10 := (two_cells HB_y1.out).1
          replace y11 := (two_cells HB_y1.out).2.1
          replace y20 := (two_cells HB_y2.out).1
          replace y21 := (two_cells HB_y2.out).2.1
          have HB_y3 := Lib.hid hB_y3
          clear hB_y3
          have y30 := cell_at HB_y3.out 0 rfl
          have y31 := cell_at HB_y3.out 1 rfl
          have HB_y4 := Lib.hid hB_y4
          clear hB_y4
          have y40 := cell_at HB_y4.out 0 rfl
          have y41 := cell_at HB_y4.out 1 rfl
          have hszt := hbt.size
          obtain ⟨-, -, fz0, fz1⟩ := two_cells HB_y3.out
          obtain ⟨-, -, fz2, fz3⟩ := two_cells HB_y4.out
          go_wp2_with fail
          clear fz0 fz1 fz2 fz3
          have hk := keeps_set1 HB_y3.out (.bool false)
          replace g0 := g0.keeps hk
          replace g1 := g1.keeps hk
          replace c_q := c_q.keeps hk
          replace c_r := c_r.keeps hk
          replace c_m := c_m.keeps hk
          replace c_a := c_a.keeps hk
          clear hk
          replace hbt := hbt.setCell (p := ⟨g_y3, 0, none⟩) (by simp; omega) (.bool false)
          replace HB_x0 := Lib.hid ((heap_far1 (w := wx7) (g := g_y3) (x := .bool false) (by omega)).trans HB_x0.out)
          replace HB_x1 := Lib.hid ((heap_far1 (w := wx7) (g := g_y3) (x := .bool false) (by omega)).trans HB_x1.out)
          replace HB_y1 := Lib.hid ((heap_far1 (w := wx7) (g := g_y3) (x := .bool false) (by omega)).trans HB_y1.out)
          replace HB_y2 := Lib.hid ((heap_far1 (w := wx7) (g := g_y3) (x := .bool false) (by omega)).trans HB_y2.out)
          replace HB_y4 := Lib.hid ((heap_far1 (w := wx7) (g := g_y3) (x := .bool false) (by omega)).trans HB_y4.out)
          replace HB_y3 := Lib.hid (heap_set1 HB_y3.out (.bool false))
          replace x00 := (two_cells HB_x0.out).1
          replace x01 := (two_cells HB_x0.out).2.1
          replace x10 := (two_cells HB_x1.out).1
          replace x11 := (two_cells HB_x1.out).2.1
          replace y10 := (two_cells HB_y1.out).1
          replace y11 := (two_cells HB_y1.out).2.1
          replace y20 := (two_cells HB_y2.out).1
          replace y21 := (two_cells HB_y2.out).2.1
          replace y30 := (two_cells HB_y3.out).1
          replace y31 := (two_cells HB_y3.out).2.1
          replace y40 := (two_cells HB_y4.out).1
          replace y41 := (two_cells HB_y4.out).2.1
          generalize (wx7.setCell ⟨g_y3, 0, none⟩ (.bool false)) = wx8 at *
          have hk := keeps_set1 HB_y4.out (.bool false)
          replace g0 := g0.keeps hk
          replace g1 := g1.keeps hk
          replace c_q := c_q.keeps hk
          replace c_r := c_r.keeps hk
          replace c_m := c_m.keeps hk
          replace c_a := c_a.keeps hk
          clear hk
          replace hbt := hbt.setCell (p := ⟨g_y4, 0, none⟩) (by simp; omega) (.bool false)
          replace HB_x0 := Lib.hid ((heap_far1 (w := wx8) (g := g_y4) (x := .bool false) (by omega)).trans HB_x0.out)
          replace HB_x1 := Lib.hid ((heap_far1 (w := wx8) (g := g_y4) (x := .bool false) (by omega)).trans HB_x1.out)
          replace HB_y1 := Lib.hid ((heap_far1 (w := wx8) (g := g_y4) (x := .bool false) (by omega)).trans HB_y1.out)
          replace HB_y2 := Lib.hid ((heap_far1 (w := wx8) (g := g_y4) (x := .bool false) (by omega)).trans HB_y2.out)
          replace HB_y3 := Lib.hid ((heap_far1 (w := wx8) (g := g_y4) (x := .bool false) (by omega)).trans HB_y3.out)
          replace HB_y4 := Lib.hid (heap_set1 HB_y4.out (.bool false))
          replace x00 := (two_cells HB_x0.out).1
          replace x01 := (two_cells HB_x0.out).2.1
          replace x10 := (two_cells HB_x1.out).1
          replace x11 := (two_cells HB_x1.out).2.1
          replace y10 := (two_cells HB_y1.out).1
          replace y11 := (two_cells HB_y1.out).2.1
          replace y20 := (two_cells HB_y2.out).1
          replace y21 := (two_cells HB_y2.out).2.1
          replace y30 := (two_cells HB_y3.out).1
          replace y31 := (two_cells HB_y3.out).2.1
          replace y40 := (two_cells HB_y4.out).1
          replace y41 := (two_cells HB_y4.out).2.1
          generalize (wx8.setCell ⟨g_y4, 0, none⟩ (.bool false)) = wx9 at *
          clear hszc hszt hlt_x0 hlt_x1 hlt_y1 hlt_y2
          have g_x := c_r.abs
          have g_y := g1.abs
          have HSx := Lib.hid (show ∀ w', Below wx9.drew.heap.size wx9.drew w' → w'.cell? ⟨w.heap.size, 0, none⟩ = some (.bool b0) ∧ w'.cell? ⟨w.heap.size, 1, none⟩ = some (.slice o0 n0 m0) ∧ w'.cell? ⟨w.heap.size + 1, 0, none⟩ = some (.bool b1) ∧ w'.cell? ⟨w.heap.size + 1, 1, none⟩ = some (.slice o1 n1 m1) ∧ w'.cell? ⟨wx3.heap.size, 0, none⟩ = some (.bool b_q) ∧ w'.cell? ⟨wx3.heap.size, 1, none⟩ = some (.slice o_q l_q k_q) ∧ w'.cell? ⟨wx3.heap.size + 1, 0, none⟩ = some (.bool b_r) ∧ w'.cell? ⟨wx3.heap.size + 1, 1, none⟩ = some (.slice o_r l_r k_r) ∧ w'.cell? ⟨g_y3, 0, none⟩ = some (.bool false) ∧ w'.cell? ⟨g_y3, 1, none⟩ = some (.slice o_r l_r k_r) ∧ w'.cell? ⟨g_y4, 0, none⟩ = some (.bool false) ∧ w'.cell? ⟨g_y4, 1, none⟩ = some (.slice o1 n1 m1) from fun w' hb => ⟨(hb.cell (lt_of_block HB_x0.out)).trans x00, (hb.cell (lt_of_block HB_x0.out)).trans x01, (hb.cell (lt_of_block HB_x1.out)).trans x10, (hb.cell (lt_of_block HB_x1.out)).trans x11, (hb.cell (lt_of_block HB_y1.out)).trans y10, (hb.cell (lt_of_block HB_y1.out)).trans y11, (hb.cell (lt_of_block HB_y2.out)).trans y20, (hb.cell (lt_of_block HB_y2.out)).trans y21, (hb.cell (lt_of_block HB_y3.out)).trans y30, (hb.cell (lt_of_block HB_y3.out)).trans y31, (hb.cell (lt_of_block HB_y4.out)).trans y40, (hb.cell (lt_of_block HB_y4.out)).trans y41⟩)
          refine Rely.region (by kernel_rfl) [[], [], [0, 1], [0, 1, 2], [0, 1, 2, 3], [0, 1, 2, 3, 4], [0, 1, 2, 3, 4], [0, 1, 2, 3, 4], [0, 1, 2, 3, 4, 6, 7], [0, 1, 2, 3, 4, 5, 6, 7, 8], [0, 1, 2, 3, 4, 5, 6, 7, 8, 9], [0, 1, 2, 3, 4, 5, 6, 7, 8, 9, 10], [0, 1, 2, 3, 4, 5, 6, 7, 8, 9, 10, 11], [0, 1, 2, 3, 4, 5, 6, 7, 8, 9, 10, 11], [0, 1, 2, 3, 4, 5, 6, 7, 8, 9, 10, 11], [0, 1, 2, 3, 4, 5, 6, 7, 8, 9, 10, 11, 13, 14], [0, 1, 2, 3, 4, 5, 6, 7, 8, 9, 10, 11, 12, 13, 14, 15], [0, 1, 2, 3, 4, 5, 6, 7, 8, 9, 10, 11, 12, 13, 14, 15, 16], [0, 1, 2, 3, 4, 5, 6, 7, 8, 9, 10, 11, 12, 13, 14, 15, 16, 17]] [] [] 19 (by kernel_rfl) (by kernel_rfl) ?_
          refine Rely.Chain.det ?_ (by rfl) (fun T xs wr hA => ?_) ?_
          rotate_left 1
          · obtain ⟨x00, x01, x10, x11, y10, y11, y20, y21, y30, y31, y40, y41⟩ := HSx.out wr hA.bw
            have e8 := hA.pre 8 (by kernel_rfl)
            simp only [List.getElem?_toArray, List.getElem?_cons_succ, List.getElem?_cons_zero] at e8
            clear hA
            refine ⟨(by rfl), ?_⟩
            go_simp <;> (try with_reducible rfl)
          refine Rely.Chain.det ?_ (by rfl) (fun T xs wr hA => ?_) ?_
          rotate_left 1
          · obtain ⟨x00, x01, x10, x11, y10, y11, y20, y21, y30, y31, y40, y41⟩ := HSx.out wr hA.bw
            have e9 := hA.pre 9 (by kernel_rfl)
            simp only [List.getElem?_toArray, List.getElem?_cons_succ, List.getElem?_cons_zero] at e9
            clear hA
            refine ⟨(by rfl), ?_⟩
            go_simp <;> (try with_reducible rfl)
          refine Rely.Chain.call (fun _ v _ => v = .int .i64 (-1)) (fun _ _ _ _ h _ => h) (fun _ _ _ _ _ h _ => h) (by rfl) (fun T xs wr hA => ?_) ?_
          · have hbw := undrew hA.bw
            have e67 := hA.tm 0 67 (by rfl) (by rfl)
            have f67 : xs 0 = _ := hA.fa 0 (by rfl)
            (try simp (disch := rfl) only [Rely.mask_in] at f67)
            rw [f67] at e67
            clear f67
            have e68 := hA.tm 1 68 (by rfl) (by rfl)
            have f68 : xs 1 = _ := hA.fa 1 (by rfl)
            (try simp (disch := rfl) only [Rely.mask_in] at f68)
            rw [f68] at e68
            clear f68
            have g_x := g_x.below hbw
            have g_y := g_y.below hbw
            clear hA
            refine ⟨(by rfl), fun K hK => ?_⟩
            go_simp
            refine (wcmp_s _ _ (R.natAbs : Int) (B.natAbs : Int) 20 20 (-1) _ g_x g_y HABS.out (by omega) (by omega)).mono ?_
            rintro e wq ⟨rfl, hb⟩
            exact hK.out _ _ rfl hb
          refine Rely.Chain.det ?_ (by rfl) (fun T xs wr hA => ?_) ?_
          rotate_left 1
          · have e69 := hA.tm 2 69 (by rfl) (by rfl)
            have f69 : xs 2 = (.int .i64 (-1)) := hA.fa 2 (by rfl)
            rw [f69] at e69
            clear f69
            clear hA
            refine ⟨(by rfl), ?_⟩
            go_simp <;> (try with_reducible rfl)
          refine Rely.Chain.det ?_ (by rfl) (fun T xs wr hA => ?_) ?_
          rotate_left 1
          · have e70 := hA.tm 3 70 (by rfl) (by rfl)
            have f70 : xs 3 = _ := hA.fa 3 (by rfl)
            (try simp (disch := rfl) only [Rely.mask_in] at f70)
            rw [f70] at e70
            clear f70
            clear hA
            refine ⟨(by rfl), ?_⟩
            go_simp <;> (try with_reducible rfl)
          refine Rely.Chain.det ?_ (by rfl) (fun T xs wr hA => ?_) ?_
          rotate_left 1
          · obtain ⟨x00, x01, x10, x11, y10, y11, y20, y21, y30, y31, y40, y41⟩ := HSx.out wr hA.bw
            have e71 := hA.tm 4 71 (by rfl) (by rfl)
            have f71 : xs 4 = _ := hA.fa 4 (by rfl)
            (try simp (disch := rfl) only [Rely.mask_in] at f71)
            rw [f71] at e71
            clear f71
            have e5 := hA.pre 5 (by kernel_rfl)
            simp only [List.getElem?_toArray, List.getElem?_cons_succ, List.getElem?_cons_zero] at e5
            clear hA
            refine ⟨((Rely.wanted_at rfl (by rfl) e71).trans (by rfl)), ?_⟩
            go_simp <;> (try with_reducible rfl)
          refine Rely.Chain.det ?_ (by rfl) (fun T xs wr hA => ?_) ?_
          rotate_left 1
          · obtain ⟨x00, x01, x10, x11, y10, y11, y20, y21, y30, y31, y40, y41⟩ := HSx.out wr hA.bw
            have e71 := hA.tm 4 71 (by rfl) (by rfl)
            have f71 : xs 4 = _ := hA.fa 4 (by rfl)
            (try simp (disch := rfl) only [Rely.mask_in] at f71)
            rw [f71] at e71
            clear f71
            have e5 := hA.pre 5 (by kernel_rfl)
            simp only [List.getElem?_toArray, List.getElem?_cons_succ, List.getElem?_cons_zero] at e5
            clear hA
            refine ⟨((Rely.wanted_at rfl (by rfl) e71).trans (by rfl)), ?_⟩
            go_simp <;> (try with_reducible rfl)
          refine Rely.Chain.call (fun _ v w => CI w v 0 2) (fun _ _ _ _ h hb => h.below hb) (fun _ _ _ _ _ h hp => h.keeps hp.keeps) (by rfl) (fun T xs wr hA => ?_) ?_
          · have hbw := undrew hA.bw
            have e71 := hA.tm 4 71 (by rfl) (by rfl)
            have f71 : xs 4 = _ := hA.fa 4 (by rfl)
            (try simp (disch := rfl) only [Rely.mask_in] at f71)
            rw [f71] at e71
            clear f71
            clear hA
            refine ⟨((Rely.wanted_at rfl (by rfl) e71).trans (by rfl)), fun K hK => ?_⟩
            clear e71
            go_simp
            refine (wof_any 0 _ (by omega) (by omega)).mono ?_
            rintro e wq ⟨v, rfl, c, hb⟩
            exact hK.out _ _ c hb
          refine Rely.Chain.call (fun _ v w => CI w v (Q + 0) 26) (fun _ _ _ _ h hb => h.below hb) (fun _ _ _ _ _ h hp => h.keeps hp.keeps) (by rfl) (fun T xs wr hA => ?_) ?_
          · have hbw := undrew hA.bw
            have e71 := hA.tm 4 71 (by rfl) (by rfl)
            have f71 : xs 4 = _ := hA.fa 4 (by rfl)
            (try simp (disch := rfl) only [Rely.mask_in] at f71)
            rw [f71] at e71
            clear f71
            have e73 := hA.tm 6 73 (by rfl) (by rfl)
            have f73 : xs 6 = _ := hA.fa 6 (by rfl)
            (try simp (disch := rfl) only [Rely.mask_in] at f73)
            rw [f73] at e73
            clear f73
            have e74 := hA.tm 7 74 (by rfl) (by rfl)
            have c_q := c_q.below hbw
            have c_z : CI wr (xs 7) 0 2 := hA.fa 7 (by rfl)
            clear hA
            refine ⟨((Rely.wanted_at rfl (by rfl) e71).trans (by rfl)), fun K hK => ?_⟩
            clear e71
            go_simp
            refine (wadd_any _ _ Q 0 23 2 _ c_q.gi c_z.gi (by omega) (by omega)).mono ?_
            rintro e wq ⟨v, rfl, c, hb⟩
            exact hK.out _ _ c hb
          refine Rely.Chain.call (fun _ v _ => v = .bool true) (fun _ _ _ _ h _ => h) (fun _ _ _ _ _ h _ => h) (by rfl) (fun T xs wr hA => ?_) ?_
          · have hbw := undrew hA.bw
            have e71 := hA.tm 4 71 (by rfl) (by rfl)
            have f71 : xs 4 = _ := hA.fa 4 (by rfl)
            (try simp (disch := rfl) only [Rely.mask_in] at f71)
            rw [f71] at e71
            clear f71
            have e72 := hA.tm 5 72 (by rfl) (by rfl)
            have f72 : xs 5 = _ := hA.fa 5 (by rfl)
            (try simp (disch := rfl) only [Rely.mask_in] at f72)
            rw [f72] at e72
            clear f72
            have e75 := hA.tm 8 75 (by rfl) (by rfl)
            have c_q := c_q.below hbw
            have c_u : CI wr (xs 8) (Q + 0) 26 := hA.fa 8 (by rfl)
            clear hA
            refine ⟨((Rely.wanted_at rfl (by rfl) e71).trans (by rfl)), fun K hK => ?_⟩
            clear e71
            go_simp
            refine (same_true _ _ Q 23 26 _ c_q (c_u.to (Int.add_zero Q)) (by omega) (by omega)).mono ?_
            rintro e wq ⟨rfl, hb⟩
            exact hK.out _ _ rfl hb
          refine Rely.Chain.det ?_ (by rfl) (fun T xs wr hA => ?_) ?_
          rotate_left 1
          · have e71 := hA.tm 4 71 (by rfl) (by rfl)
            have f71 : xs 4 = _ := hA.fa 4 (by rfl)
            (try simp (disch := rfl) only [Rely.mask_in] at f71)
            rw [f71] at e71
            clear f71
            have e76 := hA.tm 9 76 (by rfl) (by rfl)
            have f76 : xs 9 = (.bool true) := hA.fa 9 (by rfl)
            rw [f76] at e76
            clear f76
            clear hA
            refine ⟨(by rfl), ?_⟩
            go_simp <;> (try with_reducible rfl)
          refine Rely.Chain.det ?_ (by rfl) (fun T xs wr hA => ?_) ?_
          rotate_left 1
          · have e77 := hA.tm 10 77 (by rfl) (by rfl)
            have f77 : xs 10 = _ := hA.fa 10 (by rfl)
            (try simp (disch := rfl) only [Rely.mask_in] at f77)
            rw [f77] at e77
            clear f77
            clear hA
            refine ⟨(by rfl), ?_⟩
            go_simp <;> (try with_reducible rfl)
          refine Rely.Chain.det ?_ (by rfl) (fun T xs wr hA => ?_) ?_
          rotate_left 1
          · obtain ⟨x00, x01, x10, x11, y10, y11, y20, y21, y30, y31, y40, y41⟩ := HSx.out wr hA.bw
            have e78 := hA.tm 11 78 (by rfl) (by rfl)
            have f78 : xs 11 = _ := hA.fa 11 (by rfl)
            (try simp (disch := rfl) only [Rely.mask_in] at f78)
            rw [f78] at e78
            clear f78
            have e6 := hA.pre 6 (by kernel_rfl)
            simp only [List.getElem?_toArray, List.getElem?_cons_succ, List.getElem?_cons_zero] at e6
            clear hA
            refine ⟨((Rely.wanted_at rfl (by rfl) e78).trans (by rfl)), ?_⟩
            go_simp <;> (try with_reducible rfl)
          refine Rely.Chain.det ?_ (by rfl) (fun T xs wr hA => ?_) ?_
          rotate_left 1
          · obtain ⟨x00, x01, x10, x11, y10, y11, y20, y21, y30, y31, y40, y41⟩ := HSx.out wr hA.bw
            have e78 := hA.tm 11 78 (by rfl) (by rfl)
            have f78 : xs 11 = _ := hA.fa 11 (by rfl)
            (try simp (disch := rfl) only [Rely.mask_in] at f78)
            rw [f78] at e78
            clear f78
            have e6 := hA.pre 6 (by kernel_rfl)
            simp only [List.getElem?_toArray, List.getElem?_cons_succ, List.getElem?_cons_zero] at e6
            clear hA
            refine ⟨((Rely.wanted_at rfl (by rfl) e78).trans (by rfl)), ?_⟩
            go_simp <;> (try with_reducible rfl)
          refine Rely.Chain.call (fun _ v w => CI w v 0 2) (fun _ _ _ _ h hb => h.below hb) (fun _ _ _ _ _ h hp => h.keeps hp.keeps) (by rfl) (fun T xs wr hA => ?_) ?_
          · have hbw := undrew hA.bw
            have e78 := hA.tm 11 78 (by rfl) (by rfl)
            have f78 : xs 11 = _ := hA.fa 11 (by rfl)
            (try simp (disch := rfl) only [Rely.mask_in] at f78)
            rw [f78] at e78
            clear f78
            clear hA
            refine ⟨((Rely.wanted_at rfl (by rfl) e78).trans (by rfl)), fun K hK => ?_⟩
            clear e78
            go_simp
            refine (wof_any 0 _ (by omega) (by omega)).mono ?_
            rintro e wq ⟨v, rfl, c, hb⟩
            exact hK.out _ _ c hb
          refine Rely.Chain.call (fun _ v w => CI w v (R + 0) 23) (fun _ _ _ _ h hb => h.below hb) (fun _ _ _ _ _ h hp => h.keeps hp.keeps) (by rfl) (fun T xs wr hA => ?_) ?_
          · have hbw := undrew hA.bw
            have e78 := hA.tm 11 78 (by rfl) (by rfl)
            have f78 : xs 11 = _ := hA.fa 11 (by rfl)
            (try simp (disch := rfl) only [Rely.mask_in] at f78)
            rw [f78] at e78
            clear f78
            have e80 := hA.tm 13 80 (by rfl) (by rfl)
            have f80 : xs 13 = _ := hA.fa 13 (by rfl)
            (try simp (disch := rfl) only [Rely.mask_in] at f80)
            rw [f80] at e80
            clear f80
            have e81 := hA.tm 14 81 (by rfl) (by rfl)
            have c_r := c_r.below hbw
            have c_z2 : CI wr (xs 14) 0 2 := hA.fa 14 (by rfl)
            clear hA
            refine ⟨((Rely.wanted_at rfl (by rfl) e78).trans (by rfl)), fun K hK => ?_⟩
            clear e78
            go_simp
            refine (wadd_any _ _ R 0 20 2 _ c_r.gi c_z2.gi (by omega) (by omega)).mono ?_
            rintro e wq ⟨v, rfl, c, hb⟩
            exact hK.out _ _ c hb
          refine Rely.Chain.call (fun _ v _ => v = .bool true) (fun _ _ _ _ h _ => h) (fun _ _ _ _ _ h _ => h) (by rfl) (fun T xs wr hA => ?_) ?_
          · have hbw := undrew hA.bw
            have e78 := hA.tm 11 78 (by rfl) (by rfl)
            have f78 : xs 11 = _ := hA.fa 11 (by rfl)
            (try simp (disch := rfl) only [Rely.mask_in] at f78)
            rw [f78] at e78
            clear f78
            have e79 := hA.tm 12 79 (by rfl) (by rfl)
            have f79 : xs 12 = _ := hA.fa 12 (by rfl)
            (try simp (disch := rfl) only [Rely.mask_in] at f79)
            rw [f79] at e79
            clear f79
            have e82 := hA.tm 15 82 (by rfl) (by rfl)
            have c_r := c_r.below hbw
            have c_u2 : CI wr (xs 15) (R + 0) 23 := hA.fa 15 (by rfl)
            clear hA
            refine ⟨((Rely.wanted_at rfl (by rfl) e78).trans (by rfl)), fun K hK => ?_⟩
            clear e78
            go_simp
            refine (same_true _ _ R 20 23 _ c_r (c_u2.to (Int.add_zero R)) (by omega) (by omega)).mono ?_
            rintro e wq ⟨rfl, hb⟩
            exact hK.out _ _ rfl hb
          refine Rely.Chain.det ?_ (by rfl) (fun T xs wr hA => ?_) ?_
          rotate_left 1
          · have e78 := hA.tm 11 78 (by rfl) (by rfl)
            have f78 : xs 11 = _ := hA.fa 11 (by rfl)
            (try simp (disch := rfl) only [Rely.mask_in] at f78)
            rw [f78] at e78
            clear f78
            have e83 := hA.tm 16 83 (by rfl) (by rfl)
            have f83 : xs 16 = (.bool true) := hA.fa 16 (by rfl)
            rw [f83] at e83
            clear f83
            clear hA
            refine ⟨(by rfl), ?_⟩
            go_simp <;> (try with_reducible rfl)
          refine Rely.Chain.det ?_ (by rfl) (fun T xs wr hA => ?_) ?_
          rotate_left 1
          · have e84 := hA.tm 17 84 (by rfl) (by rfl)
            have f84 : xs 17 = _ := hA.fa 17 (by rfl)
            (try simp (disch := rfl) only [Rely.mask_in] at f84)
            rw [f84] at e84
            clear f84
            clear hA
            refine ⟨(by rfl), ?_⟩
            go_simp <;> (try with_reducible rfl)
          refine Rely.Chain.done (fun xs wx10 hL => ?_)
          obtain ⟨hbx', hf, hp, hn⟩ := hL
          have f0 : xs 0 = _ := hf 0 (by decide)
          (try simp (disch := rfl) only [Rely.mask_in] at f0)
          have f1 : xs 1 = _ := hf 1 (by decide)
          (try simp (disch := rfl) only [Rely.mask_in] at f1)
          have f2 : xs 2 = (.int .i64 (-1)) := hf 2 (by decide)
          (try simp (disch := rfl) only [Rely.mask_in] at f2)
          have f3 : xs 3 = _ := hf 3 (by decide)
          (try simp (disch := rfl) only [Rely.mask_in] at f3)
          have f4 : xs 4 = _ := hf 4 (by decide)
          (try simp (disch := rfl) only [Rely.mask_in] at f4)
          have f5 : xs 5 = _ := hf 5 (by decide)
          (try simp (disch := rfl) only [Rely.mask_in] at f5)
          have f6 : xs 6 = _ := hf 6 (by decide)
          (try simp (disch := rfl) only [Rely.mask_in] at f6)
          have c_z : CI wx10 (xs 7) 0 2 := hf 7 (by decide)
          have c_u : CI wx10 (xs 8) (Q + 0) 26 := hf 8 (by decide)
          have f9 : xs 9 = (.bool true) := hf 9 (by decide)
          (try simp (disch := rfl) only [Rely.mask_in] at f9)
          have f10 : xs 10 = _ := hf 10 (by decide)
          (try simp (disch := rfl) only [Rely.mask_in] at f10)
          have f11 : xs 11 = _ := hf 11 (by decide)
          (try simp (disch := rfl) only [Rely.mask_in] at f11)
          have f12 : xs 12 = _ := hf 12 (by decide)
          (try simp (disch := rfl) only [Rely.mask_in] at f12)
          have f13 : xs 13 = _ := hf 13 (by decide)
          (try simp (disch := rfl) only [Rely.mask_in] at f13)
          have c_z2 : CI wx10 (xs 14) 0 2 := hf 14 (by decide)
          have c_u2 : CI wx10 (xs 15) (R + 0) 23 := hf 15 (by decide)
          have f16 : xs 16 = (.bool true) := hf 16 (by decide)
          (try simp (disch := rfl) only [Rely.mask_in] at f16)
          have f17 : xs 17 = _ := hf 17 (by decide)
          (try simp (disch := rfl) only [Rely.mask_in] at f17)
          have f18 : xs 18 = _ := hf 18 (by decide)
          (try simp (disch := rfl) only [Rely.mask_in] at f18)
          clear hf hp hn
          refine Rely.rest_done ?_
          simp only [Rely.fill, List.setIfInBounds_toArray, List.set_cons_zero, List.set_cons_succ, f0, f1, f2, f3, f4, f5, f6, f9, f10, f11, f12, f13, f16, f17, f18]
          clear f0 f1 f2 f3 f4 f5 f6 f9 f10 f11 f12 f13 f16 f17 f18
          generalize xs 7 = v_z at c_z ⊢
          generalize xs 8 = v_u at c_u ⊢
          generalize xs 14 = v_z2 at c_z2 ⊢
          generalize xs 15 = v_u2 at c_u2 ⊢
          clear xs
          obtain ⟨b_z, o_z, l_z, k_z, rfl⟩ := c_z.shape
          obtain ⟨b_u, o_u, l_u, k_u, rfl⟩ := c_u.shape
          obtain ⟨b_z2, o_z2, l_z2, k_z2, rfl⟩ := c_z2.shape
          obtain ⟨b_u2, o_u2, l_u2, k_u2, rfl⟩ := c_u2.shape
          have hbx := undrew hbx'
          clear hbx'
          clear HSx
          replace g0 := g0.below hbx
          replace g1 := g1.below hbx
          replace c_q := c_q.below hbx
          replace c_r := c_r.below hbx
          replace c_m := c_m.below hbx
          replace c_a := c_a.below hbx
          replace g_x := g_x.below hbx
          replace g_y := g_y.below hbx
          replace hbt := hbt.trans (hbx.mono hbt.size)
          replace HB_x0 := Lib.hid ((hbx.block _ (lt_of_block HB_x0.out)).trans HB_x0.out)
          replace HB_x1 := Lib.hid ((hbx.block _ (lt_of_block HB_x1.out)).trans HB_x1.out)
          replace HB_y1 := Lib.hid ((hbx.block _ (lt_of_block HB_y1.out)).trans HB_y1.out)
          replace HB_y2 := Lib.hid ((hbx.block _ (lt_of_block HB_y2.out)).trans HB_y2.out)
          replace HB_y3 := Lib.hid ((hbx.block _ (lt_of_block HB_y3.out)).trans HB_y3.out)
          replace HB_y4 := Lib.hid ((hbx.block _ (lt_of_block HB_y4.out)).trans HB_y4.out)
          clear hbx
          replace x00 := (two_cells HB_x0.out).1
          replace x01 := (two_cells HB_x0.out).2.1
          replace x10 := (two_cells HB_x1.out).1
          replace x11 := (two_cells HB_x1.out).2.1
          replace y10 := (two_cells HB_y1.out).1
          replace y11 := (two_cells HB_y1.out).2.1
          replace y20 := (two_cells HB_y2.out).1
          replace y21 := (two_cells HB_y2.out).2.1
          replace y30 := (two_cells HB_y3.out).1
          replace y31 := (two_cells HB_y3.out).2.1
          replace y40 := (two_cells HB_y4.out).1
          replace y41 := (two_cells HB_y4.out).2.1
          go_wp2_with fail
          go_ret
          exact ⟨rfl, hbt⟩
        · have HSGR : Hid (sgnZ R = (-1)) := Lib.hid (hr.trans HSB.out)
          clear hr HSR
          have hbt := below2 w (.cells #[.bool b0, .slice o0 n0 m0] 25) (.cells #[.bool b1, .slice o1 n1 m1] 25)
          have hbk := blocks2 (Below.refl (w.heap.size + 2) ((w.alloc (.cells #[.bool b0, .slice o0 n0 m0] 25)).alloc (.cells #[.bool b1, .slice o1 n1 m1] 25)))
          have HB_x0 := Lib.hid hbk.1
          have HB_x1 := Lib.hid hbk.2
          clear hbk
          replace g0 := g0.below hbt
          have x00 := (two_cells HB_x0.out).1
          have x01 := (two_cells HB_x0.out).2.1
          replace g1 := g1.below hbt
          have x10 := (two_cells HB_x1.out).1
          have x11 := (two_cells HB_x1.out).2.1
          go_enter Tryd.func4, Tryd.ntmps4
          go_wp2_with fail
          generalize ((w.alloc (.cells #[.bool b0, .slice o0 n0 m0] 25)).alloc (.cells #[.bool b1, .slice o1 n1 m1] 25)) = w0 at *
          refine (HF.out _ (tab_below HTB.out hbt)).mono ?_
          rintro e wx1 ⟨rfl, hbx⟩
          replace g0 := g0.below hbx
          replace g1 := g1.below hbx
          replace hbt := hbt.trans (hbx.mono hbt.size)
          replace HB_x0 := Lib.hid ((hbx.block _ (lt_of_block HB_x0.out)).trans HB_x0.out)
          replace HB_x1 := Lib.hid ((hbx.block _ (lt_of_block HB_x1.out)).trans HB_x1.out)
          clear hbx
          replace x00 := (two_cells HB_x0.out).1
          replace x01 := (two_cells HB_x0.out).2.1
          replace x10 := (two_cells HB_x1.out).1
          replace x11 := (two_cells HB_x1.out).2.1
          go_wp2_with fail
          refine (short_t2 20 _ rfl l0 l1).mono ?_
          rintro e wx2 ⟨rfl, hbx⟩
          replace g0 := g0.below hbx
          replace g1 := g1.below hbx
          replace hbt := hbt.trans (hbx.mono hbt.size)
          replace HB_x0 := Lib.hid ((hbx.block _ (lt_of_block HB_x0.out)).trans HB_x0.out)
          replace HB_x1 := Lib.hid ((hbx.block _ (lt_of_block HB_x1.out)).trans HB_x1.out)
          clear hbx
          replace x00 := (two_cells HB_x0.out).1
          replace x01 := (two_cells HB_x0.out).2.1
          replace x10 := (two_cells HB_x1.out).1
          replace x11 := (two_cells HB_x1.out).2.1
          go_wp2_with fail
          refine (wdiv_any _ _ A B 20 20 _ g0 g1 (by omega) (by omega) HB0.out).mono ?_
          rintro e wx3 ⟨v_q, v_r, rfl, c_q, c_r, hbx⟩
          rw [HQ.out] at c_q
          rw [HR.out] at c_r
          replace g0 := g0.below hbx
          replace g1 := g1.below hbx
          replace hbt := hbt.trans (hbx.mono hbt.size)
          replace HB_x0 := Lib.hid ((hbx.block _ (lt_of_block HB_x0.out)).trans HB_x0.out)
          replace HB_x1 := Lib.hid ((hbx.block _ (lt_of_block HB_x1.out)).trans HB_x1.out)
          clear hbx
          replace x00 := (two_cells HB_x0.out).1
          replace x01 := (two_cells HB_x0.out).2.1
          replace x10 := (two_cells HB_x1.out).1
          replace x11 := (two_cells HB_x1.out).2.1
          obtain ⟨b_q, o_q, l_q, k_q, rfl⟩ := c_q.shape
          obtain ⟨b_r, o_r, l_r, k_r, rfl⟩ := c_r.shape
          have hlt_x0 := lt_of_block HB_x0.out
          have hlu_x0 : w.heap.size < wx3.heap.size + 1 := Nat.lt_succ_of_lt hlt_x0
          have hlt_x1 := lt_of_block HB_x1.out
          have hlu_x1 : w.heap.size + 1 < wx3.heap.size + 1 := Nat.lt_succ_of_lt hlt_x1
          go_wp2_with fail
          clear hlt_x0 hlu_x0 hlt_x1 hlu_x1
          have hbx : Below wx3.heap.size wx3 ((wx3.alloc (.cells #[.bool b_q, .slice o_q l_q k_q] 25)).alloc (.cells #[.bool b_r, .slice o_r l_r k_r] 25)) := below2 wx3 (.cells #[.bool b_q, .slice o_q l_q k_q] 25) (.cells #[.bool b_r, .slice o_r l_r k_r] 25)
          replace g0 := g0.below hbx
          replace g1 := g1.below hbx
          replace c_q := c_q.below hbx
          replace c_r := c_r.below hbx
          replace hbt := hbt.trans (hbx.mono hbt.size)
          replace HB_x0 := Lib.hid ((hbx.block _ (lt_of_block HB_x0.out)).trans HB_x0.out)
          replace HB_x1 := Lib.hid ((hbx.block _ (lt_of_block HB_x1.out)).trans HB_x1.out)
          clear hbx
          replace x00 := (two_cells HB_x0.out).1
          replace x01 := (two_cells HB_x0.out).2.1
          replace x10 := (two_cells HB_x1.out).1
          replace x11 := (two_cells HB_x1.out).2.1
          have hbk := blocks2 (Below.refl (wx3.heap.size + 2) ((wx3.alloc (.cells #[.bool b_q, .slice o_q l_q k_q] 25)).alloc (.cells #[.bool b_r, .slice o_r l_r k_r] 25)))
          have HB_y1 := Lib.hid hbk.1
          have HB_y2 := Lib.hid hbk.2
          clear hbk
          have y10 := (two_cells HB_y1.out).1
          have y11 := (two_cells HB_y1.out).2.1
          have y20 := (two_cells HB_y2.out).1
          have y21 := (two_cells HB_y2.out).2.1
          generalize ((wx3.alloc (.cells #[.bool b_q, .slice o_q l_q k_q] 25)).alloc (.cells #[.bool b_r, .slice o_r l_r k_r] 25)) = wx4 at *
          refine (wsign_s _ B 20 (-1) _ g1 HSB.out (by omega)).mono ?_
          rintro e wx5 ⟨rfl, hbx⟩
          replace g0 := g0.below hbx
          replace g1 := g1.below hbx
          replace c_q := c_q.below hbx
          replace c_r := c_r.below hbx
          replace hbt := hbt.trans (hbx.mono hbt.size)
          replace HB_x0 := Lib.hid ((hbx.block _ (lt_of_block HB_x0.out)).trans HB_x0.out)
          replace HB_x1 := Lib.hid ((hbx.block _ (lt_of_block HB_x1.out)).trans HB_x1.out)
          replace HB_y1 := Lib.hid ((hbx.block _ (lt_of_block HB_y1.out)).trans HB_y1.out)
          replace HB_y2 := Lib.hid ((hbx.block _ (lt_of_block HB_y2.out)).trans HB_y2.out)
          clear hbx
          replace x00 := (two_cells HB_x0.out).1
          replace x01 := (two_cells HB_x0.out).2.1
          replace x10 := (two_cells HB_x1.out).1
          replace x11 := (two_cells HB_x1.out).2.1
          replace y10 := (two_cells HB_y1.out).1
          replace y11 := (two_cells HB_y1.out).2.1
          replace y20 := (two_cells HB_y2.out).1
          replace y21 := (two_cells HB_y2.out).2.1
          go_wp2_with fail
          have HSx := Lib.hid (show ∀ w', Below wx5.drew.heap.size wx5.drew w' → w'.cell? ⟨w.heap.size, 0, none⟩ = some (.bool b0) ∧ w'.cell? ⟨w.heap.size, 1, none⟩ = some (.slice o0 n0 m0) ∧ w'.cell? ⟨w.heap.size + 1, 0, none⟩ = some (.bool b1) ∧ w'.cell? ⟨w.heap.size + 1, 1, none⟩ = some (.slice o1 n1 m1) ∧ w'.cell? ⟨wx3.heap.size, 0, none⟩ = some (.bool b_q) ∧ w'.cell? ⟨wx3.heap.size, 1, none⟩ = some (.slice o_q l_q k_q) ∧ w'.cell? ⟨wx3.heap.size + 1, 0, none⟩ = some (.bool b_r) ∧ w'.cell? ⟨wx3.heap.size + 1, 1, none⟩ = some (.slice o_r l_r k_r) from fun w' hb => ⟨(hb.cell (lt_of_block HB_x0.out)).trans x00, (hb.cell (lt_of_block HB_x0.out)).trans x01, (hb.cell (lt_of_block HB_x1.out)).trans x10, (hb.cell (lt_of_block HB_x1.out)).trans x11, (hb.cell (lt_of_block HB_y1.out)).trans y10, (hb.cell (lt_of_block HB_y1.out)).trans y11, (hb.cell (lt_of_block HB_y2.out)).trans y20, (hb.cell (lt_of_block HB_y2.out)).trans y21⟩)
          refine Rely.region (by kernel_rfl) [[], [0], [0, 1], [0, 1, 2], [0, 1, 2], [0, 1, 2, 3, 4], [0, 1, 2], [0, 1, 2, 3, 4, 5, 6], [0, 1, 2], [0, 1, 2, 3, 4, 5, 6, 7, 8], [0, 1, 2, 3, 4, 5, 6, 7, 8, 9], [0, 1, 2, 3, 4, 5, 6, 7, 8, 9, 10], [0, 1, 2, 3, 4, 5, 6, 7, 8, 9, 10, 11], [0, 1, 2, 3, 4, 5, 6, 7, 8, 9, 10, 11, 12], [0, 1, 2, 3, 4, 5, 6, 7, 8, 9, 10, 11, 12, 13], [0, 1, 2, 3, 4, 5, 6, 7, 8, 9, 10, 11, 12, 13, 14], [0, 1, 2, 3, 4, 5, 6, 7, 8, 9, 10, 11, 12, 13, 14, 15], [0, 1, 2, 3, 4, 5, 6, 7, 8, 9, 10, 11, 12, 13, 14, 15, 16], [0, 1, 2, 3, 4, 5, 6, 7, 8, 9, 10, 11, 12, 13, 14, 15, 16, 17], [0, 1, 2, 3, 4, 5, 6, 7, 8, 9, 10, 11, 12, 13, 14, 15, 16], [0, 1, 2, 3, 4, 5, 6, 7, 8, 9, 10, 11, 12, 13, 14, 15, 16, 17, 18, 19], [0, 1, 2, 3, 4, 5, 6, 7, 8, 9, 10, 11, 12, 13, 14, 15, 16, 17, 18, 19, 20], [0, 1, 2, 3, 4, 5, 6, 7, 8, 9, 10, 11, 12, 13, 14, 15, 16, 17, 18, 19, 20, 21], [0, 1, 2, 3, 4, 5, 6, 7, 8, 9, 10, 11, 12, 13, 14, 15, 16, 17, 18, 19, 20, 21, 22]] [] [] 24 (by kernel_rfl) (by kernel_rfl) ?_
          refine Rely.Chain.det ?_ (by rfl) (fun T xs wr hA => ?_) ?_
          rotate_left 1
          · have e7 := hA.pre 7 (by kernel_rfl)
            simp only [List.getElem?_toArray, List.getElem?_cons_succ, List.getElem?_cons_zero] at e7
            clear hA
            refine ⟨(by rfl), ?_⟩
            go_simp <;> (try with_reducible rfl)
          refine Rely.Chain.det ?_ (by rfl) (fun T xs wr hA => ?_) ?_
          rotate_left 1
          · have e39 := hA.tm 0 39 (by rfl) (by rfl)
            have f39 : xs 0 = _ := hA.fa 0 (by rfl)
            (try simp (disch := rfl) only [Rely.mask_in] at f39)
            rw [f39] at e39
            clear f39
            clear hA
            refine ⟨(by rfl), ?_⟩
            go_simp <;> (try with_reducible rfl)
          refine Rely.Chain.det ?_ (by rfl) (fun T xs wr hA => ?_) ?_
          rotate_left 1
          · have e40 := hA.tm 1 40 (by rfl) (by rfl)
            have f40 : xs 1 = _ := hA.fa 1 (by rfl)
            (try simp (disch := rfl) only [Rely.mask_in] at f40)
            rw [f40] at e40
            clear f40
            clear hA
            refine ⟨(by rfl), ?_⟩
            go_simp <;> (try with_reducible rfl)
          refine Rely.Chain.det ?_ (by rfl) (fun T xs wr hA => ?_) ?_
          rotate_left 1
          · obtain ⟨x00, x01, x10, x11, y10, y11, y20, y21⟩ := HSx.out wr hA.bw
            have e41 := hA.tm 2 41 (by rfl) (by rfl)
            have f41 : xs 2 = _ := hA.fa 2 (by rfl)
            (try simp (disch := rfl) only [Rely.mask_in] at f41)
            rw [f41] at e41
            clear f41
            have e5 := hA.pre 5 (by kernel_rfl)
            simp only [List.getElem?_toArray, List.getElem?_cons_succ, List.getElem?_cons_zero] at e5
            clear hA
            refine ⟨((Rely.wanted_at rfl (by rfl) e41).trans (by rfl)), ?_⟩
            go_simp <;> (try with_reducible rfl)
          refine Rely.Chain.det ?_ (by rfl) (fun T xs wr hA => ?_) ?_
          rotate_left 1
          · obtain ⟨x00, x01, x10, x11, y10, y11, y20, y21⟩ := HSx.out wr hA.bw
            have e41 := hA.tm 2 41 (by rfl) (by rfl)
            have f41 : xs 2 = _ := hA.fa 2 (by rfl)
            (try simp (disch := rfl) only [Rely.mask_in] at f41)
            rw [f41] at e41
            clear f41
            have e3 := hA.pre 3 (by kernel_rfl)
            simp only [List.getElem?_toArray, List.getElem?_cons_succ, List.getElem?_cons_zero] at e3
            clear hA
            refine ⟨((Rely.wanted_at rfl (by rfl) e41).trans (by rfl)), ?_⟩
            go_simp <;> (try with_reducible rfl)
          refine Rely.Chain.call (fun _ v w => CI w v (Q * B) 43) (fun _ _ _ _ h hb => h.below hb) (fun _ _ _ _ _ h hp => h.keeps hp.keeps) (by rfl) (fun T xs wr hA => ?_) ?_
          · have hbw := undrew hA.bw
            have e41 := hA.tm 2 41 (by rfl) (by rfl)
            have f41 : xs 2 = _ := hA.fa 2 (by rfl)
            (try simp (disch := rfl) only [Rely.mask_in] at f41)
            rw [f41] at e41
            clear f41
            have e42 := hA.tm 3 42 (by rfl) (by rfl)
            have f42 : xs 3 = _ := hA.fa 3 (by rfl)
            (try simp (disch := rfl) only [Rely.mask_in] at f42)
            rw [f42] at e42
            clear f42
            have e43 := hA.tm 4 43 (by rfl) (by rfl)
            have f43 : xs 4 = _ := hA.fa 4 (by rfl)
            (try simp (disch := rfl) only [Rely.mask_in] at f43)
            rw [f43] at e43
            clear f43
            have c_q := c_q.below hbw
            have g1 := g1.below hbw
            clear hA
            refine ⟨((Rely.wanted_at rfl (by rfl) e41).trans (by rfl)), fun K hK => ?_⟩
            clear e41
            go_simp
            refine (wmul_any _ _ Q B 23 20 _ c_q.gi g1 (by omega) (by omega)).mono ?_
            rintro e wq ⟨v, rfl, c, hb⟩
            exact hK.out _ _ c hb
          refine Rely.Chain.det ?_ (by rfl) (fun T xs wr hA => ?_) ?_
          rotate_left 1
          · obtain ⟨x00, x01, x10, x11, y10, y11, y20, y21⟩ := HSx.out wr hA.bw
            have e41 := hA.tm 2 41 (by rfl) (by rfl)
            have f41 : xs 2 = _ := hA.fa 2 (by rfl)
            (try simp (disch := rfl) only [Rely.mask_in] at f41)
            rw [f41] at e41
            clear f41
            have e6 := hA.pre 6 (by kernel_rfl)
            simp only [List.getElem?_toArray, List.getElem?_cons_succ, List.getElem?_cons_zero] at e6
            clear hA
            refine ⟨((Rely.wanted_at rfl (by rfl) e41).trans (by rfl)), ?_⟩
            go_simp <;> (try with_reducible rfl)
          refine Rely.Chain.call (fun _ v w => CI w v (Q * B + R) 64) (fun _ _ _ _ h hb => h.below hb) (fun _ _ _ _ _ h hp => h.keeps hp.keeps) (by rfl) (fun T xs wr hA => ?_) ?_
          · have hbw := undrew hA.bw
            have e41 := hA.tm 2 41 (by rfl) (by rfl)
            have f41 : xs 2 = _ := hA.fa 2 (by rfl)
            (try simp (disch := rfl) only [Rely.mask_in] at f41)
            rw [f41] at e41
            clear f41
            have e44 := hA.tm 5 44 (by rfl) (by rfl)
            have e45 := hA.tm 6 45 (by rfl) (by rfl)
            have f45 : xs 6 = _ := hA.fa 6 (by rfl)
            (try simp (disch := rfl) only [Rely.mask_in] at f45)
            rw [f45] at e45
            clear f45
            have c_m : CI wr (xs 5) (Q * B) 43 := hA.fa 5 (by rfl)
            have c_r := c_r.below hbw
            clear hA
            refine ⟨((Rely.wanted_at rfl (by rfl) e41).trans (by rfl)), fun K hK => ?_⟩
            clear e41
            go_simp
            refine (wadd_any _ _ (Q * B) R 43 20 _ c_m.gi c_r.gi (by omega) (by omega)).mono ?_
            rintro e wq ⟨v, rfl, c, hb⟩
            exact hK.out _ _ c hb
          refine Rely.Chain.det ?_ (by rfl) (fun T xs wr hA => ?_) ?_
          rotate_left 1
          · obtain ⟨x00, x01, x10, x11, y10, y11, y20, y21⟩ := HSx.out wr hA.bw
            have e41 := hA.tm 2 41 (by rfl) (by rfl)
            have f41 : xs 2 = _ := hA.fa 2 (by rfl)
            (try simp (disch := rfl) only [Rely.mask_in] at f41)
            rw [f41] at e41
            clear f41
            have e2 := hA.pre 2 (by kernel_rfl)
            simp only [List.getElem?_toArray, List.getElem?_cons_succ, List.getElem?_cons_zero] at e2
            clear hA
            refine ⟨((Rely.wanted_at rfl (by rfl) e41).trans (by rfl)), ?_⟩
            go_simp <;> (try with_reducible rfl)
          refine Rely.Chain.call (fun _ v _ => v = .int .i64 0) (fun _ _ _ _ h _ => h) (fun _ _ _ _ _ h _ => h) (by rfl) (fun T xs wr hA => ?_) ?_
          · have hbw := undrew hA.bw
            have e41 := hA.tm 2 41 (by rfl) (by rfl)
            have f41 : xs 2 = _ := hA.fa 2 (by rfl)
            (try simp (disch := rfl) only [Rely.mask_in] at f41)
            rw [f41] at e41
            clear f41
            have e46 := hA.tm 7 46 (by rfl) (by rfl)
            have e47 := hA.tm 8 47 (by rfl) (by rfl)
            have f47 : xs 8 = _ := hA.fa 8 (by rfl)
            (try simp (disch := rfl) only [Rely.mask_in] at f47)
            rw [f47] at e47
            clear f47
            have c_a : CI wr (xs 7) (Q * B + R) 64 := hA.fa 7 (by rfl)
            have g0 := g0.below hbw
            clear hA
            refine ⟨((Rely.wanted_at rfl (by rfl) e41).trans (by rfl)), fun K hK => ?_⟩
            clear e41
            go_simp
            refine (wcmp_s _ _ (Q * B + R) A 64 20 0 _ c_a.gi g0 HSUM.out (by omega) (by omega)).mono ?_
            rintro e wq ⟨rfl, hb⟩
            exact hK.out _ _ rfl hb
          refine Rely.Chain.det ?_ (by rfl) (fun T xs wr hA => ?_) ?_
          rotate_left 1
          · have e41 := hA.tm 2 41 (by rfl) (by rfl)
            have f41 : xs 2 = _ := hA.fa 2 (by rfl)
            (try simp (disch := rfl) only [Rely.mask_in] at f41)
            rw [f41] at e41
            clear f41
            have e48 := hA.tm 9 48 (by rfl) (by rfl)
            have f48 : xs 9 = (.int .i64 0) := hA.fa 9 (by rfl)
            rw [f48] at e48
            clear f48
            clear hA
            refine ⟨((Rely.wanted_at rfl (by rfl) e41).trans (by rfl)), ?_⟩
            go_simp <;> (try with_reducible rfl)
          refine Rely.Chain.det ?_ (by rfl) (fun T xs wr hA => ?_) ?_
          rotate_left 1
          · have e41 := hA.tm 2 41 (by rfl) (by rfl)
            have f41 : xs 2 = _ := hA.fa 2 (by rfl)
            (try simp (disch := rfl) only [Rely.mask_in] at f41)
            rw [f41] at e41
            clear f41
            have e49 := hA.tm 10 49 (by rfl) (by rfl)
            have f49 : xs 10 = _ := hA.fa 10 (by rfl)
            (try simp (disch := rfl) only [Rely.mask_in] at f49)
            rw [f49] at e49
            clear f49
            clear hA
            refine ⟨(by rfl), ?_⟩
            go_simp <;> (try with_reducible rfl)
          refine Rely.Chain.det ?_ (by rfl) (fun T xs wr hA => ?_) ?_
          rotate_left 1
          · have e50 := hA.tm 11 50 (by rfl) (by rfl)
            have f50 : xs 11 = _ := hA.fa 11 (by rfl)
            (try simp (disch := rfl) only [Rely.mask_in] at f50)
            rw [f50] at e50
            clear f50
            clear hA
            refine ⟨(by rfl), ?_⟩
            go_simp <;> (try with_reducible rfl)
          refine Rely.Chain.det ?_ (by rfl) (fun T xs wr hA => ?_) ?_
          rotate_left 1
          · obtain ⟨x00, x01, x10, x11, y10, y11, y20, y21⟩ := HSx.out wr hA.bw
            have e51 := hA.tm 12 51 (by rfl) (by rfl)
            have f51 : xs 12 = _ := hA.fa 12 (by rfl)
            (try simp (disch := rfl) only [Rely.mask_in] at f51)
            rw [f51] at e51
            clear f51
            have e6 := hA.pre 6 (by kernel_rfl)
            simp only [List.getElem?_toArray, List.getElem?_cons_succ, List.getElem?_cons_zero] at e6
            clear hA
            refine ⟨((Rely.wanted_at rfl (by rfl) e51).trans (by rfl)), ?_⟩
            go_simp <;> (try with_reducible rfl)
          refine Rely.Chain.call (fun _ v _ => v = .int .i64 (-1)) (fun _ _ _ _ h _ => h) (fun _ _ _ _ _ h _ => h) (by rfl) (fun T xs wr hA => ?_) ?_
          · have hbw := undrew hA.bw
            have e51 := hA.tm 12 51 (by rfl) (by rfl)
            have f51 : xs 12 = _ := hA.fa 12 (by rfl)
            (try simp (disch := rfl) only [Rely.mask_in] at f51)
            rw [f51] at e51
            clear f51
            have e52 := hA.tm 13 52 (by rfl) (by rfl)
            have f52 : xs 13 = _ := hA.fa 13 (by rfl)
            (try simp (disch := rfl) only [Rely.mask_in] at f52)
            rw [f52] at e52
            clear f52
            have c_r := c_r.below hbw
            clear hA
            refine ⟨((Rely.wanted_at rfl (by rfl) e51).trans (by rfl)), fun K hK => ?_⟩
            clear e51
            go_simp
            refine (wsign_s _ R 20 (-1) _ c_r.gi HSGR.out (by omega)).mono ?_
            rintro e wq ⟨rfl, hb⟩
            exact hK.out _ _ rfl hb
          refine Rely.Chain.det ?_ (by rfl) (fun T xs wr hA => ?_) ?_
          rotate_left 1
          · have e51 := hA.tm 12 51 (by rfl) (by rfl)
            have f51 : xs 12 = _ := hA.fa 12 (by rfl)
            (try simp (disch := rfl) only [Rely.mask_in] at f51)
            rw [f51] at e51
            clear f51
            have e53 := hA.tm 14 53 (by rfl) (by rfl)
            have f53 : xs 14 = (.int .i64 (-1)) := hA.fa 14 (by rfl)
            rw [f53] at e53
            clear f53
            clear hA
            refine ⟨((Rely.wanted_at rfl (by rfl) e51).trans (by rfl)), ?_⟩
            go_simp <;> (try with_reducible rfl)
          refine Rely.Chain.det ?_ (by rfl) (fun T xs wr hA => ?_) ?_
          rotate_left 1
          · have e51 := hA.tm 12 51 (by rfl) (by rfl)
            have f51 : xs 12 = _ := hA.fa 12 (by rfl)
            (try simp (disch := rfl) only [Rely.mask_in] at f51)
            rw [f51] at e51
            clear f51
            have e54 := hA.tm 15 54 (by rfl) (by rfl)
            have f54 : xs 15 = _ := hA.fa 15 (by rfl)
            (try simp (disch := rfl) only [Rely.mask_in] at f54)
            rw [f54] at e54
            clear f54
            clear hA
            refine ⟨((Rely.wanted_at rfl (by rfl) e51).trans (by rfl)), ?_⟩
            go_simp <;> (try with_reducible rfl)
          refine Rely.Chain.det ?_ (by rfl) (fun T xs wr hA => ?_) ?_
          rotate_left 1
          · obtain ⟨x00, x01, x10, x11, y10, y11, y20, y21⟩ := HSx.out wr hA.bw
            have e55 := hA.tm 16 55 (by rfl) (by rfl)
            have f55 : xs 16 = _ := hA.fa 16 (by rfl)
            (try simp (disch := rfl) only [Rely.mask_in] at f55)
            rw [f55] at e55
            clear f55
            have e6 := hA.pre 6 (by kernel_rfl)
            simp only [List.getElem?_toArray, List.getElem?_cons_succ, List.getElem?_cons_zero] at e6
            clear hA
            refine ⟨((Rely.wanted_at rfl (by rfl) e55).trans (by rfl)), ?_⟩
            go_simp <;> (try with_reducible rfl)
          refine Rely.Chain.call (fun _ v _ => v = .int .i64 (-1)) (fun _ _ _ _ h _ => h) (fun _ _ _ _ _ h _ => h) (by rfl) (fun T xs wr hA => ?_) ?_
          · have hbw := undrew hA.bw
            have e55 := hA.tm 16 55 (by rfl) (by rfl)
            have f55 : xs 16 = _ := hA.fa 16 (by rfl)
            (try simp (disch := rfl) only [Rely.mask_in] at f55)
            rw [f55] at e55
            clear f55
            have e56 := hA.tm 17 56 (by rfl) (by rfl)
            have f56 : xs 17 = _ := hA.fa 17 (by rfl)
            (try simp (disch := rfl) only [Rely.mask_in] at f56)
            rw [f56] at e56
            clear f56
            have c_r := c_r.below hbw
            clear hA
            refine ⟨((Rely.wanted_at rfl (by rfl) e55).trans (by rfl)), fun K hK => ?_⟩
            clear e55
            go_simp
            refine (wsign_s _ R 20 (-1) _ c_r.gi HSGR.out (by omega)).mono ?_
            rintro e wq ⟨rfl, hb⟩
            exact hK.out _ _ rfl hb
          refine Rely.Chain.det ?_ (by rfl) (fun T xs wr hA => ?_) ?_
          rotate_left 1
          · obtain ⟨x00, x01, x10, x11, y10, y11, y20, y21⟩ := HSx.out wr hA.bw
            have e55 := hA.tm 16 55 (by rfl) (by rfl)
            have f55 : xs 16 = _ := hA.fa 16 (by rfl)
            (try simp (disch := rfl) only [Rely.mask_in] at f55)
            rw [f55] at e55
            clear f55
            have e3 := hA.pre 3 (by kernel_rfl)
            simp only [List.getElem?_toArray, List.getElem?_cons_succ, List.getElem?_cons_zero] at e3
            clear hA
            refine ⟨((Rely.wanted_at rfl (by rfl) e55).trans (by rfl)), ?_⟩
            go_simp <;> (try with_reducible rfl)
          refine Rely.Chain.call (fun _ v _ => v = .int .i64 (-1)) (fun _ _ _ _ h _ => h) (fun _ _ _ _ _ h _ => h) (by rfl) (fun T xs wr hA => ?_) ?_
          · have hbw := undrew hA.bw
            have e55 := hA.tm 16 55 (by rfl) (by rfl)
            have f55 : xs 16 = _ := hA.fa 16 (by rfl)
            (try simp (disch := rfl) only [Rely.mask_in] at f55)
            rw [f55] at e55
            clear f55
            have e58 := hA.tm 19 58 (by rfl) (by rfl)
            have f58 : xs 19 = _ := hA.fa 19 (by rfl)
            (try simp (disch := rfl) only [Rely.mask_in] at f58)
            rw [f58] at e58
            clear f58
            have g1 := g1.below hbw
            clear hA
            refine ⟨((Rely.wanted_at rfl (by rfl) e55).trans (by rfl)), fun K hK => ?_⟩
            clear e55
            go_simp
            refine (wsign_s _ B 20 (-1) _ g1 HSB.out (by omega)).mono ?_
            rintro e wq ⟨rfl, hb⟩
            exact hK.out _ _ rfl hb
          refine Rely.Chain.det ?_ (by rfl) (fun T xs wr hA => ?_) ?_
          rotate_left 1
          · have e55 := hA.tm 16 55 (by rfl) (by rfl)
            have f55 : xs 16 = _ := hA.fa 16 (by rfl)
            (try simp (disch := rfl) only [Rely.mask_in] at f55)
            rw [f55] at e55
            clear f55
            have e57 := hA.tm 18 57 (by rfl) (by rfl)
            have f57 : xs 18 = (.int .i64 (-1)) := hA.fa 18 (by rfl)
            rw [f57] at e57
            clear f57
            have e59 := hA.tm 20 59 (by rfl) (by rfl)
            have f59 : xs 20 = (.int .i64 (-1)) := hA.fa 20 (by rfl)
            rw [f59] at e59
            clear f59
            clear hA
            refine ⟨((Rely.wanted_at rfl (by rfl) e55).trans (by rfl)), ?_⟩
            go_simp <;> (try with_reducible rfl)
          refine Rely.Chain.det ?_ (by rfl) (fun T xs wr hA => ?_) ?_
          rotate_left 1
          · have e51 := hA.tm 12 51 (by rfl) (by rfl)
            have f51 : xs 12 = _ := hA.fa 12 (by rfl)
            (try simp (disch := rfl) only [Rely.mask_in] at f51)
            rw [f51] at e51
            clear f51
            have e55 := hA.tm 16 55 (by rfl) (by rfl)
            have f55 : xs 16 = _ := hA.fa 16 (by rfl)
            (try simp (disch := rfl) only [Rely.mask_in] at f55)
            rw [f55] at e55
            clear f55
            have e60 := hA.tm 21 60 (by rfl) (by rfl)
            have f60 : xs 21 = _ := hA.fa 21 (by rfl)
            (try simp (disch := rfl) only [Rely.mask_in] at f60)
            rw [f60] at e60
            clear f60
            clear hA
            refine ⟨((Rely.wanted_at rfl (by rfl) e51).trans (by rfl)), ?_⟩
            go_simp <;> (try with_reducible rfl)
          refine Rely.Chain.det ?_ (by rfl) (fun T xs wr hA => ?_) ?_
          rotate_left 1
          · have e51 := hA.tm 12 51 (by rfl) (by rfl)
            have f51 : xs 12 = _ := hA.fa 12 (by rfl)
            (try simp (disch := rfl) only [Rely.mask_in] at f51)
            rw [f51] at e51
            clear f51
            have e61 := hA.tm 22 61 (by rfl) (by rfl)
            have f61 : xs 22 = _ := hA.fa 22 (by rfl)
            (try simp (disch := rfl) only [Rely.mask_in] at f61)
            rw [f61] at e61
            clear f61
            clear hA
            refine ⟨(by rfl), ?_⟩
            go_simp <;> (try with_reducible rfl)
          refine Rely.Chain.done (fun xs wx6 hL => ?_)
          obtain ⟨hbx', hf, hp, hn⟩ := hL
          have f0 : xs 0 = _ := hf 0 (by decide)
          (try simp (disch := rfl) only [Rely.mask_in] at f0)
          have f1 : xs 1 = _ := hf 1 (by decide)
          (try simp (disch := rfl) only [Rely.mask_in] at f1)
          have f2 : xs 2 = _ := hf 2 (by decide)
          (try simp (disch := rfl) only [Rely.mask_in] at f2)
          have f3 : xs 3 = _ := hf 3 (by decide)
          (try simp (disch := rfl) only [Rely.mask_in] at f3)
          have f4 : xs 4 = _ := hf 4 (by decide)
          (try simp (disch := rfl) only [Rely.mask_in] at f4)
          have c_m : CI wx6 (xs 5) (Q * B) 43 := hf 5 (by decide)
          have f6 : xs 6 = _ := hf 6 (by decide)
          (try simp (disch := rfl) only [Rely.mask_in] at f6)
          have c_a : CI wx6 (xs 7) (Q * B + R) 64 := hf 7 (by decide)
          have f8 : xs 8 = _ := hf 8 (by decide)
          (try simp (disch := rfl) only [Rely.mask_in] at f8)
          have f9 : xs 9 = (.int .i64 0) := hf 9 (by decide)
          (try simp (disch := rfl) only [Rely.mask_in] at f9)
          have f10 : xs 10 = _ := hf 10 (by decide)
          (try simp (disch := rfl) only [Rely.mask_in] at f10)
          have f11 : xs 11 = _ := hf 11 (by decide)
          (try simp (disch := rfl) only [Rely.mask_in] at f11)
          have f12 : xs 12 = _ := hf 12 (by decide)
          (try simp (disch := rfl) only [Rely.mask_in] at f12)
          have f13 : xs 13 = _ := hf 13 (by decide)
          (try simp (disch := rfl) only [Rely.mask_in] at f13)
          have f14 : xs 14 = (.int .i64 (-1)) := hf 14 (by decide)
          (try simp (disch := rfl) only [Rely.mask_in] at f14)
          have f15 : xs 15 = _ := hf 15 (by decide)
          (try simp (disch := rfl) only [Rely.mask_in] at f15)
          have f16 : xs 16 = _ := hf 16 (by decide)
          (try simp (disch := rfl) only [Rely.mask_in] at f16)
          have f17 : xs 17 = _ := hf 17 (by decide)
          (try simp (disch := rfl) only [Rely.mask_in] at f17)
          have f18 : xs 18 = (.int .i64 (-1)) := hf 18 (by decide)
          (try simp (disch := rfl) only [Rely.mask_in] at f18)
          have f19 : xs 19 = _ := hf 19 (by decide)
          (try simp (disch := rfl) only [Rely.mask_in] at f19)
          have f20 : xs 20 = (.int .i64 (-1)) := hf 20 (by decide)
          (try simp (disch := rfl) only [Rely.mask_in] at f20)
          have f21 : xs 21 = _ := hf 21 (by decide)
          (try simp (disch := rfl) only [Rely.mask_in] at f21)
          have f22 : xs 22 = _ := hf 22 (by decide)
          (try simp (disch := rfl) only [Rely.mask_in] at f22)
          have f23 : xs 23 = _ := hf 23 (by decide)
          (try simp (disch := rfl) only [Rely.mask_in] at f23)
          clear hf hp hn
          refine Rely.rest_done ?_
          simp only [Rely.fill, List.setIfInBounds_toArray, List.set_cons_zero, List.set_cons_succ, f0, f1, f2, f3, f4, f6, f8, f9, f10, f11, f12, f13, f14, f15, f16, f17, f18, f19, f20, f21, f22, f23]
          clear f0 f1 f2 f3 f4 f6 f8 f9 f10 f11 f12 f13 f14 f15 f16 f17 f18 f19 f20 f21 f22 f23
          generalize xs 5 = v_m at c_m ⊢
          generalize xs 7 = v_a at c_a ⊢
          clear xs
          obtain ⟨b_m, o_m, l_m, k_m, rfl⟩ := c_m.shape
          obtain ⟨b_a, o_a, l_a, k_a, rfl⟩ := c_a.shape
          have hbx := undrew hbx'
          clear hbx'
          clear HSx
          replace g0 := g0.below hbx
          replace g1 := g1.below hbx
          replace c_q := c_q.below hbx
          replace c_r := c_r.below hbx
          replace hbt := hbt.trans (hbx.mono hbt.size)
          replace HB_x0 := Lib.hid ((hbx.block _ (lt_of_block HB_x0.out)).trans HB_x0.out)
          replace HB_x1 := Lib.hid ((hbx.block _ (lt_of_block HB_x1.out)).trans HB_x1.out)
          replace HB_y1 := Lib.hid ((hbx.block _ (lt_of_block HB_y1.out)).trans HB_y1.out)
          replace HB_y2 := Lib.hid ((hbx.block _ (lt_of_block HB_y2.out)).trans HB_y2.out)
          clear hbx
          replace x00 := (two_cells HB_x0.out).1
          replace x01 := (two_cells HB_x0.out).2.1
          replace x10 := (two_cells HB_x1.out).1
          replace x11 := (two_cells HB_x1.out).2.1
          replace y10 := (two_cells HB_y1.out).1
          replace y11 := (two_cells HB_y1.out).2.1
          replace y20 := (two_cells HB_y2.out).1
          replace y21 := (two_cells HB_y2.out).2.1
          go_wp2_with fail
          have HSx := Lib.hid (show ∀ w', Below wx6.drew.heap.size wx6.drew w' → w'.cell? ⟨w.heap.size, 0, none⟩ = some (.bool b0) ∧ w'.cell? ⟨w.heap.size, 1, none⟩ = some (.slice o0 n0 m0) ∧ w'.cell? ⟨w.heap.size + 1, 0, none⟩ = some (.bool b1) ∧ w'.cell? ⟨w.heap.size + 1, 1, none⟩ = some (.slice o1 n1 m1) ∧ w'.cell? ⟨wx3.heap.size, 0, none⟩ = some (.bool b_q) ∧ w'.cell? ⟨wx3.heap.size, 1, none⟩ = some (.slice o_q l_q k_q) ∧ w'.cell? ⟨wx3.heap.size + 1, 0, none⟩ = some (.bool b_r) ∧ w'.cell? ⟨wx3.heap.size + 1, 1, none⟩ = some (.slice o_r l_r k_r) from fun w' hb => ⟨(hb.cell (lt_of_block HB_x0.out)).trans x00, (hb.cell (lt_of_block HB_x0.out)).trans x01, (hb.cell (lt_of_block HB_x1.out)).trans x10, (hb.cell (lt_of_block HB_x1.out)).trans x11, (hb.cell (lt_of_block HB_y1.out)).trans y10, (hb.cell (lt_of_block HB_y1.out)).trans y11, (hb.cell (lt_of_block HB_y2.out)).trans y20, (hb.cell (lt_of_block HB_y2.out)).trans y21⟩)
          have hszc := hbt.size
          have hlt_x0 := lt_of_block HB_x0.out
          have hlt_x1 := lt_of_block HB_x1.out
          have hlt_y1 := lt_of_block HB_y1.out
          have hlt_y2 := lt_of_block HB_y2.out
          refine Rely.region (by kernel_rfl) [[], [], [], [], [0, 2, 3], [0, 1, 2, 3, 4]] [2, 3] [(4, 2), (5, 3)] 6 (by kernel_rfl) (by kernel_rfl) ?_
          refine Rely.Chain.det ?_ (by rfl) (fun T xs wr hA => ?_) ?_
          rotate_left 1
          · obtain ⟨x00, x01, x10, x11, y10, y11, y20, y21⟩ := HSx.out wr hA.bw
            have e6 := hA.pre 6 (by kernel_rfl)
            simp only [List.getElem?_toArray, List.getElem?_cons_succ, List.getElem?_cons_zero] at e6
            clear hA
            refine ⟨(by rfl), ?_⟩
            go_simp <;> (try with_reducible rfl)
          refine Rely.Chain.det ?_ (by rfl) (fun T xs wr hA => ?_) ?_
          rotate_left 1
          · obtain ⟨x00, x01, x10, x11, y10, y11, y20, y21⟩ := HSx.out wr hA.bw
            have e3 := hA.pre 3 (by kernel_rfl)
            simp only [List.getElem?_toArray, List.getElem?_cons_succ, List.getElem?_cons_zero] at e3
            clear hA
            refine ⟨(by rfl), ?_⟩
            go_simp <;> (try with_reducible rfl)
          refine Rely.Chain.alloc ?_ ?_ (by rfl) (fun Ts xs wr hA => ?_) ?_ ?_
          rotate_left 2
          · clear hA
            refine ⟨(by rfl), fun K hK => ?_⟩
            go_simp
            exact hK.out
          · rfl
          refine Rely.Chain.alloc ?_ ?_ (by rfl) (fun Ts xs wr hA => ?_) ?_ ?_
          rotate_left 2
          · clear hA
            refine ⟨(by rfl), fun K hK => ?_⟩
            go_simp
            exact hK.out
          · rfl
          refine Rely.Chain.store 2 0 25 2 (by rfl) (by rfl) (by rfl) rfl (fun T xs wr g c hA hx hB hn hi => ?_) ?_
          · have e8 := hA.tm 2 8 (by rfl) (by rfl)
            rw [hx] at e8
            have e63 := hA.tm 0 63 (by rfl) (by rfl)
            have hv : xs 0 = _ := hA.fa 0 (by rfl)
            (try simp (disch := rfl) only [Rely.mask_in] at hv)
            rw [hv] at e63
            obtain ⟨c0, c1, rfl⟩ := two_of hn
            have z0 := cell_at hB 0 rfl
            have z1 := cell_at hB 1 rfl
            have fz0 := froz_at hB 0
            have fz1 := froz_at hB 1
            clear hA hn
            refine ⟨by rfl, fun K hK => ?_⟩
            go_simp
            exact hK.out _ _ hv (hset2 hB _ _) (priv2 hB hi (by rfl))
          refine Rely.Chain.store 3 1 25 2 (by rfl) (by rfl) (by rfl) rfl (fun T xs wr g c hA hx hB hn hi => ?_) ?_
          · have e9 := hA.tm 3 9 (by rfl) (by rfl)
            rw [hx] at e9
            have e64 := hA.tm 1 64 (by rfl) (by rfl)
            have hv : xs 1 = _ := hA.fa 1 (by rfl)
            (try simp (disch := rfl) only [Rely.mask_in] at hv)
            rw [hv] at e64
            obtain ⟨c0, c1, rfl⟩ := two_of hn
            have z0 := cell_at hB 0 rfl
            have z1 := cell_at hB 1 rfl
            have fz0 := froz_at hB 0
            have fz1 := froz_at hB 1
            clear hA hn
            refine ⟨by rfl, fun K hK => ?_⟩
            go_simp
            exact hK.out _ _ hv (hset2 hB _ _) (priv2 hB hi (by rfl))
          refine Rely.Chain.done (fun xs wx7 hL => ?_)
          obtain ⟨hbx', hf, hp, hn⟩ := hL
          have f0 : xs 0 = _ := hf 0 (by decide)
          (try simp (disch := rfl) only [Rely.mask_in] at f0)
          have f1 : xs 1 = _ := hf 1 (by decide)
          (try simp (disch := rfl) only [Rely.mask_in] at f1)
          obtain ⟨g_y3, cc, f2, hv, hB_y3⟩ := hf 4 (by decide)
          change xs 2 = _ at f2
          change xs 0 = _ at hv
          rw [f0] at hv
          injection hv with hv
          subst hv
          have hg_y3 : wx6.heap.size ≤ g_y3 := by obtain ⟨g, h1, h2, -⟩ := hp 2 (by rfl) (by decide); rw [f2] at h1; injection h1 with h1; injection h1 with h1; injection h1 with h1; subst h1; exact h2
          obtain ⟨g_y4, cc, f3, hv, hB_y4⟩ := hf 5 (by decide)
          change xs 3 = _ at f3
          change xs 1 = _ at hv
          rw [f1] at hv
          injection hv with hv
          subst hv
          have hg_y4 : wx6.heap.size ≤ g_y4 := by obtain ⟨g, h1, h2, -⟩ := hp 3 (by rfl) (by decide); rw [f3] at h1; injection h1 with h1; injection h1 with h1; injection h1 with h1; subst h1; exact h2
          have hne_y3_y4 : g_y3 ≠ g_y4 := fun h => hn 2 3 (by rfl) (by rfl) (by decide) (by decide) (by decide) (by rw [f2, f3, h])
          clear hf hp hn
          refine Rely.rest_done ?_
          simp only [Rely.fill, List.setIfInBounds_toArray, List.set_cons_zero, List.set_cons_succ, f0, f1, f2, f3]
          clear f0 f1 f2 f3
          clear xs
          have hbx := undrew hbx'
          clear hbx'
          clear HSx
          replace g0 := g0.below hbx
          replace g1 := g1.below hbx
          replace c_q := c_q.below hbx
          replace c_r := c_r.below hbx
          replace c_m := c_m.below hbx
          replace c_a := c_a.below hbx
          replace hbt := hbt.trans (hbx.mono hbt.size)
          replace HB_x0 := Lib.hid ((hbx.block _ (lt_of_block HB_x0.out)).trans HB_x0.out)
          replace HB_x1 := Lib.hid ((hbx.block _ (lt_of_block HB_x1.out)).trans HB_x1.out)
          replace HB_y1 := Lib.hid ((hbx.block _ (lt_of_block HB_y1.out)).trans HB_y1.out)
          replace HB_y2 := Lib.hid ((hbx.block _ (lt_of_block HB_y2.out)).trans HB_y2.out)
          clear hbx
          replace x00 := (two_cells HB_x0.out).1
          replace x01 := (two_cells HB_x0.out).2.1
          replace x10 := (two_cells HB_x1.out).1
          replace x11 := (two_cells HB_x1.out).2.1
          replace y10 := (two_cells HB_y1.out).1
          replace y11 := (two_cells HB_y1.out).2.1
          replace y20 := (two_cells HB_y2.out).1
          replace y21 := (two_cells HB_y2.out).2.1
          have HB_y3 := Lib.hid hB_y3
          clear hB_y3
          have y30 := cell_at HB_y3.out 0 rfl
          have y31 := cell_at HB_y3.out 1 rfl
          have HB_y4 := Lib.hid hB_y4
          clear hB_y4
          have y40 := cell_at HB_y4.out 0 rfl
          have y41 := cell_at HB_y4.out 1 rfl
          have hszt := hbt.size
          obtain ⟨-, -, fz0, fz1⟩ := two_cells HB_y3.out
          obtain ⟨-, -, fz2, fz3⟩ := two_cells HB_y4.out
          go_wp2_with fail
          clear fz0 fz1 fz2 fz3
          have hk := keeps_set1 HB_y3.out (.bool false)
          replace g0 := g0.keeps hk
          replace g1 := g1.keeps hk
          replace c_q := c_q.keeps hk
          replace c_r := c_r.keeps hk
          replace c_m := c_m.keeps hk
          replace c_a := c_a.keeps hk
          clear hk
          replace hbt := hbt.setCell (p := ⟨g_y3, 0, none⟩) (by simp; omega) (.bool false)
          replace HB_x0 := Lib.hid ((heap_far1 (w := wx7) (g := g_y3) (x := .bool false) (by omega)).trans HB_x0.out)
          replace HB_x1 := Lib.hid ((heap_far1 (w := wx7) (g := g_y3) (x := .bool false) (by omega)).trans HB_x1.out)
          replace HB_y1 := Lib.hid ((heap_far1 (w := wx7) (g := g_y3) (x := .bool false) (by omega)).trans HB_y1.out)
          replace HB_y2 := Lib.hid ((heap_far1 (w := wx7) (g := g_y3) (x := .bool false) (by omega)).trans HB_y2.out)
          replace HB_y4 := Lib.hid ((heap_far1 (w := wx7) (g := g_y3) (x := .bool false) (by omega)).trans HB_y4.out)
          replace HB_y3 := Lib.hid (heap_set1 HB_y3.out (.bool false))
          replace x00 := (two_cells HB_x0.out).1
          replace x01 := (two_cells HB_x0.out).2.1
          replace x10 := (two_cells HB_x1.out).1
          replace x11 := (two_cells HB_x1.out).2.1
          replace y10 := (two_cells HB_y1.out).1
          replace y11 := (two_cells HB_y1.out).2.1
          replace y20 := (two_cells HB_y2.out).1
          replace y21 := (two_cells HB_y2.out).2.1
          replace y30 := (two_cells HB_y3.out).1
          replace y31 := (two_cells HB_y3.out).2.1
          replace y40 := (two_cells HB_y4.out).1
          replace y41 := (two_cells HB_y4.out).2.1
          generalize (wx7.setCell ⟨g_y3, 0, none⟩ (.bool false)) = wx8 at *
          have hk := keeps_set1 HB_y4.out (.bool false)
          replace g0 := g0.keeps hk
          replace g1 := g1.keeps hk
          replace c_q := c_q.keeps hk
          replace c_r := c_r.keeps hk
          replace c_m := c_m.keeps hk
          replace c_a := c_a.keeps hk
          clear hk
          replace hbt := hbt.setCell (p := ⟨g_y4, 0, none⟩) (by simp; omega) (.bool false)
          replace HB_x0 := Lib.hid ((heap_far1 (w := wx8) (g := g_y4) (x := .bool false) (by omega)).trans HB_x0.out)
          replace HB_x1 := Lib.hid ((heap_far1 (w := wx8) (g := g_y4) (x := .bool false) (by omega)).trans HB_x1.out)
          replace HB_y1 := Lib.hid ((heap_far1 (w := wx8) (g := g_y4) (x := .bool false) (by omega)).trans HB_y1.out)
          replace HB_y2 := Lib.hid ((heap_far1 (w := wx8) (g := g_y4) (x := .bool false) (by omega)).trans HB_y2.out)
          replace HB_y3 := Lib.hid ((heap_far1 (w := wx8) (g := g_y4) (x := .bool false) (by omega)).trans HB_y3.out)
          replace HB_y4 := Lib.hid (heap_set1 HB_y4.out (.bool false))
          replace x00 := (two_cells HB_x0.out).1
          replace x01 := (two_cells HB_x0.out).2.1
          replace x10 := (two_cells HB_x1.out).1
          replace x11 := (two_cells HB_x1.out).2.1
          replace y10 := (two_cells HB_y1.out).1
          replace y11 := (two_cells HB_y1.out).2.1
          replace y20 := (two_cells HB_y2.out).1
          replace y21 := (two_cells HB_y2.out).2.1
          replace y30 := (two_cells HB_y3.out).1
          replace y31 := (two_cells HB_y3.out).2.1
          replace y40 := (two_cells HB_y4.out).1
          replace y41 := (two_cells HB_y4.out).2.1
          generalize (wx8.setCell ⟨g_y4, 0, none⟩ (.bool false)) = wx9 at *
          clear hszc hszt hlt_x0 hlt_x1 hlt_y1 hlt_y2
          have g_x := c_r.abs
          have g_y := g1.abs
          have HSx := Lib.hid (show ∀ w', Below wx9.drew.heap.size wx9.drew w' → w'.cell? ⟨w.heap.size, 0, none⟩ = some (.bool b0) ∧ w'.cell? ⟨w.heap.size, 1, none⟩ = some (.slice o0 n0 m0) ∧ w'.cell? ⟨w.heap.size + 1, 0, none⟩ = some (.bool b1) ∧ w'.cell? ⟨w.heap.size + 1, 1, none⟩ = some (.slice o1 n1 m1) ∧ w'.cell? ⟨wx3.heap.size, 0, none⟩ = some (.bool b_q) ∧ w'.cell? ⟨wx3.heap.size, 1, none⟩ = some (.slice o_q l_q k_q) ∧ w'.cell? ⟨wx3.heap.size + 1, 0, none⟩ = some (.bool b_r) ∧ w'.cell? ⟨wx3.heap.size + 1, 1, none⟩ = some (.slice o_r l_r k_r) ∧ w'.cell? ⟨g_y3, 0, none⟩ = some (.bool false) ∧ w'.cell? ⟨g_y3, 1, none⟩ = some (.slice o_r l_r k_r) ∧ w'.cell? ⟨g_y4, 0, none⟩ = some (.bool false) ∧ w'.cell? ⟨g_y4, 1, none⟩ = some (.slice o1 n1 m1) from fun w' hb => ⟨(hb.cell (lt_of_block HB_x0.out)).trans x00, (hb.cell (lt_of_block HB_x0.out)).trans x01, (hb.cell (lt_of_block HB_x1.out)).trans x10, (hb.cell (lt_of_block HB_x1.out)).trans x11, (hb.cell (lt_of_block HB_y1.out)).trans y10, (hb.cell (lt_of_block HB_y1.out)).trans y11, (hb.cell (lt_of_block HB_y2.out)).trans y20, (hb.cell (lt_of_block HB_y2.out)).trans y21, (hb.cell (lt_of_block HB_y3.out)).trans y30, (hb.cell (lt_of_block HB_y3.out)).trans y31, (hb.cell (lt_of_block HB_y4.out)).trans y40, (hb.cell (lt_of_block HB_y4.out)).trans y41⟩)
          refine Rely.region (by kernel_rfl) [[], [], [0, 1], [0, 1, 2], [0, 1, 2, 3], [0, 1, 2, 3, 4], [0, 1, 2, 3, 4], [0, 1, 2, 3, 4], [0, 1, 2, 3, 4, 6, 7], [0, 1, 2, 3, 4, 5, 6, 7, 8], [0, 1, 2, 3, 4, 5, 6, 7, 8, 9], [0, 1, 2, 3, 4, 5, 6, 7, 8, 9, 10], [0, 1, 2, 3, 4, 5, 6, 7, 8, 9, 10, 11], [0, 1, 2, 3, 4, 5, 6, 7, 8, 9, 10, 11], [0, 1, 2, 3, 4, 5, 6, 7, 8, 9, 10, 11], [0, 1, 2, 3, 4, 5, 6, 7, 8, 9, 10, 11, 13, 14], [0, 1, 2, 3, 4, 5, 6, 7, 8, 9, 10, 11, 12, 13, 14, 15], [0, 1, 2, 3, 4, 5, 6, 7, 8, 9, 10, 11, 12, 13, 14, 15, 16], [0, 1, 2, 3, 4, 5, 6, 7, 8, 9, 10, 11, 12, 13, 14, 15, 16, 17]] [] [] 19 (by kernel_rfl) (by kernel_rfl) ?_
          refine Rely.Chain.det ?_ (by rfl) (fun T xs wr hA => ?_) ?_
          rotate_left 1
          · obtain ⟨x00, x01, x10, x11, y10, y11, y20, y21, y30, y31, y40, y41⟩ := HSx.out wr hA.bw
            have e8 := hA.pre 8 (by kernel_rfl)
            simp only [List.getElem?_toArray, List.getElem?_cons_succ, List.getElem?_cons_zero] at e8
            clear hA
            refine ⟨(by rfl), ?_⟩
            go_simp <;> (try with_reducible rfl)
          refine Rely.Chain.det ?_ (by rfl) (fun T xs wr hA => ?_) ?_
          rotate_left 1
          · obtain ⟨x00, x01, x10, x11, y10, y11, y20, y21, y30, y31, y40, y41⟩ := HSx.out wr hA.bw
            have e9 := hA.pre 9 (by kernel_rfl)
            simp only [List.getElem?_toArray, List.getElem?_cons_succ, List.getElem?_cons_zero] at e9
            clear hA
            refine ⟨(by rfl), ?_⟩
            go_simp <;> (try with_reducible rfl)
          refine Rely.Chain.call (fun _ v _ => v = .int .i64 (-1)) (fun _ _ _ _ h _ => h) (fun _ _ _ _ _ h _ => h) (by rfl) (fun T xs wr hA => ?_) ?_
          · have hbw := undrew hA.bw
            have e67 := hA.tm 0 67 (by rfl) (by rfl)
            have f67 : xs 0 = _ := hA.fa 0 (by rfl)
            (try simp (disch := rfl) only [Rely.mask_in] at f67)
            rw [f67] at e67
            clear f67
            have e68 := hA.tm 1 68 (by rfl) (by rfl)
            have f68 : xs 1 = _ := hA.fa 1 (by rfl)
            (try simp (disch := rfl) only [Rely.mask_in] at f68)
            rw [f68] at e68
            clear f68
            have g_x := g_x.below hbw
            have g_y := g_y.below hbw
            clear hA
            refine ⟨(by rfl), fun K hK => ?_⟩
            go_simp
            refine (wcmp_s _ _ (R.natAbs : Int) (B.natAbs : Int) 20 20 (-1) _ g_x g_y HABS.out (by omega) (by omega)).mono ?_
            rintro e wq ⟨rfl, hb⟩
            exact hK.out _ _ rfl hb
          refine Rely.Chain.det ?_ (by rfl) (fun T xs wr hA => ?_) ?_
          rotate_left 1
          · have e69 := hA.tm 2 69 (by rfl) (by rfl)
            have f69 : xs 2 = (.int .i64 (-1)) := hA.fa 2 (by rfl)
            rw [f69] at e69
            clear f69
            clear hA
            refine ⟨(by rfl), ?_⟩
            go_simp <;> (try with_reducible rfl)
          refine Rely.Chain.det ?_ (by rfl) (fun T xs wr hA => ?_) ?_
          rotate_left 1
          · have e70 := hA.tm 3 70 (by rfl) (by rfl)
            have f70 : xs 3 = _ := hA.fa 3 (by rfl)
            (try simp (disch := rfl) only [Rely.mask_in] at f70)
            rw [f70] at e70
            clear f70
            clear hA
            refine ⟨(by rfl), ?_⟩
            go_simp <;> (try with_reducible rfl)
          refine Rely.Chain.det ?_ (by rfl) (fun T xs wr hA => ?_) ?_
          rotate_left 1
          · obtain ⟨x00, x01, x10, x11, y10, y11, y20, y21, y30, y31, y40, y41⟩ := HSx.out wr hA.bw
            have e71 := hA.tm 4 71 (by rfl) (by rfl)
            have f71 : xs 4 = _ := hA.fa 4 (by rfl)
            (try simp (disch := rfl) only [Rely.mask_in] at f71)
            rw [f71] at e71
            clear f71
            have e5 := hA.pre 5 (by kernel_rfl)
            simp only [List.getElem?_toArray, List.getElem?_cons_succ, List.getElem?_cons_zero] at e5
            clear hA
            refine ⟨((Rely.wanted_at rfl (by rfl) e71).trans (by rfl)), ?_⟩
            go_simp <;> (try with_reducible rfl)
          refine Rely.Chain.det ?_ (by rfl) (fun T xs wr hA => ?_) ?_
          rotate_left 1
          · obtain ⟨x00, x01, x10, x11, y10, y11, y20, y21, y30, y31, y40, y41⟩ := HSx.out wr hA.bw
            have e71 := hA.tm 4 71 (by rfl) (by rfl)
            have f71 : xs 4 = _ := hA.fa 4 (by rfl)
            (try simp (disch := rfl) only [Rely.mask_in] at f71)
            rw [f71] at e71
            clear f71
            have e5 := hA.pre 5 (by kernel_rfl)
            simp only [List.getElem?_toArray, List.getElem?_cons_succ, List.getElem?_cons_zero] at e5
            clear hA
            refine ⟨((Rely.wanted_at rfl (by rfl) e71).trans (by rfl)), ?_⟩
            go_simp <;> (try with_reducible rfl)
          refine Rely.Chain.call (fun _ v w => CI w v 0 2) (fun _ _ _ _ h hb => h.below hb) (fun _ _ _ _ _ h hp => h.keeps hp.keeps) (by rfl) (fun T xs wr hA => ?_) ?_
          · have hbw := undrew hA.bw
            have e71 := hA.tm 4 71 (by rfl) (by rfl)
            have f71 : xs 4 = _ := hA.fa 4 (by rfl)
            (try simp (disch := rfl) only [Rely.mask_in] at f71)
            rw [f71] at e71
            clear f71
            clear hA
            refine ⟨((Rely.wanted_at rfl (by rfl) e71).trans (by rfl)), fun K hK => ?_⟩
            clear e71
            go_simp
            refine (wof_any 0 _ (by omega) (by omega)).mono ?_
            rintro e wq ⟨v, rfl, c, hb⟩
            exact hK.out _ _ c hb
          refine Rely.Chain.call (fun _ v w => CI w v (Q + 0) 26) (fun _ _ _ _ h hb => h.below hb) (fun _ _ _ _ _ h hp => h.keeps hp.keeps) (by rfl) (fun T xs wr hA => ?_) ?_
          · have hbw := undrew hA.bw
            have e71 := hA.tm 4 71 (by rfl) (by rfl)
            have f71 : xs 4 = _ := hA.fa 4 (by rfl)
            (try simp (disch := rfl) only [Rely.mask_in] at f71)
            rw [f71] at e71
            clear f71
            have e73 := hA.tm 6 73 (by rfl) (by rfl)
            have f73 : xs 6 = _ := hA.fa 6 (by rfl)
            (try simp (disch := rfl) only [Rely.mask_in] at f73)
            rw [f73] at e73
            clear f73
            have e74 := hA.tm 7 74 (by rfl) (by rfl)
            have c_q := c_q.below hbw
            have c_z : CI wr (xs 7) 0 2 := hA.fa 7 (by rfl)
            clear hA
            refine ⟨((Rely.wanted_at rfl (by rfl) e71).trans (by rfl)), fun K hK => ?_⟩
            clear e71
            go_simp
            refine (wadd_any _ _ Q 0 23 2 _ c_q.gi c_z.gi (by omega) (by omega)).mono ?_
            rintro e wq ⟨v, rfl, c, hb⟩
            exact hK.out _ _ c hb
          refine Rely.Chain.call (fun _ v _ => v = .bool true) (fun _ _ _ _ h _ => h) (fun _ _ _ _ _ h _ => h) (by rfl) (fun T xs wr hA => ?_) ?_
          · have hbw := undrew hA.bw
            have e71 := hA.tm 4 71 (by rfl) (by rfl)
            have f71 : xs 4 = _ := hA.fa 4 (by rfl)
            (try simp (disch := rfl) only [Rely.mask_in] at f71)
            rw [f71] at e71
            clear f71
            have e72 := hA.tm 5 72 (by rfl) (by rfl)
            have f72 : xs 5 = _ := hA.fa 5 (by rfl)
            (try simp (disch := rfl) only [Rely.mask_in] at f72)
            rw [f72] at e72
            clear f72
            have e75 := hA.tm 8 75 (by rfl) (by rfl)
            have c_q := c_q.below hbw
            have c_u : CI wr (xs 8) (Q + 0) 26 := hA.fa 8 (by rfl)
            clear hA
            refine ⟨((Rely.wanted_at rfl (by rfl) e71).trans (by rfl)), fun K hK => ?_⟩
            clear e71
            go_simp
            refine (same_true _ _ Q 23 26 _ c_q (c_u.to (Int.add_zero Q)) (by omega) (by omega)).mono ?_
            rintro e wq ⟨rfl, hb⟩
            exact hK.out _ _ rfl hb
          refine Rely.Chain.det ?_ (by rfl) (fun T xs wr hA => ?_) ?_
          rotate_left 1
          · have e71 := hA.tm 4 71 (by rfl) (by rfl)
            have f71 : xs 4 = _ := hA.fa 4 (by rfl)
            (try simp (disch := rfl) only [Rely.mask_in] at f71)
            rw [f71] at e71
            clear f71
            have e76 := hA.tm 9 76 (by rfl) (by rfl)
            have f76 : xs 9 = (.bool true) := hA.fa 9 (by rfl)
            rw [f76] at e76
            clear f76
            clear hA
            refine ⟨(by rfl), ?_⟩
            go_simp <;> (try with_reducible rfl)
          refine Rely.Chain.det ?_ (by rfl) (fun T xs wr hA => ?_) ?_
          rotate_left 1
          · have e77 := hA.tm 10 77 (by rfl) (by rfl)
            have f77 : xs 10 = _ := hA.fa 10 (by rfl)
            (try simp (disch := rfl) only [Rely.mask_in] at f77)
            rw [f77] at e77
            clear f77
            clear hA
            refine ⟨(by rfl), ?_⟩
            go_simp <;> (try with_reducible rfl)
          refine Rely.Chain.det ?_ (by rfl) (fun T xs wr hA => ?_) ?_
          rotate_left 1
          · obtain ⟨x00, x01, x10, x11, y10, y11, y20, y21, y30, y31, y40, y41⟩ := HSx.out wr hA.bw
            have e78 := hA.tm 11 78 (by rfl) (by rfl)
            have f78 : xs 11 = _ := hA.fa 11 (by rfl)
            (try simp (disch := rfl) only [Rely.mask_in] at f78)
            rw [f78] at e78
            clear f78
            have e6 := hA.pre 6 (by kernel_rfl)
            simp only [List.getElem?_toArray, List.getElem?_cons_succ, List.getElem?_cons_zero] at e6
            clear hA
            refine ⟨((Rely.wanted_at rfl (by rfl) e78).trans (by rfl)), ?_⟩
            go_simp <;> (try with_reducible rfl)
          refine Rely.Chain.det ?_ (by rfl) (fun T xs wr hA => ?_) ?_
          rotate_left 1
          · obtain ⟨x00, x01, x10, x11, y10, y11, y20, y21, y30, y31, y40, y41⟩ := HSx.out wr hA.bw
            have e78 := hA.tm 11 78 (by rfl) (by rfl)
            have f78 : xs 11 = _ := hA.fa 11 (by rfl)
            (try simp (disch := rfl) only [Rely.mask_in] at f78)
            rw [f78] at e78
            clear f78
            have e6 := hA.pre 6 (by kernel_rfl)
            simp only [List.getElem?_toArray, List.getElem?_cons_succ, List.getElem?_cons_zero] at e6
            clear hA
            refine ⟨((Rely.wanted_at rfl (by rfl) e78).trans (by rfl)), ?_⟩
            go_simp <;> (try with_reducible rfl)
          refine Rely.Chain.call (fun _ v w => CI w v 0 2) (fun _ _ _ _ h hb => h.below hb) (fun _ _ _ _ _ h hp => h.keeps hp.keeps) (by rfl) (fun T xs wr hA => ?_) ?_
          · have hbw := undrew hA.bw
            have e78 := hA.tm 11 78 (by rfl) (by rfl)
            have f78 : xs 11 = _ := hA.fa 11 (by rfl)
            (try simp (disch := rfl) only [Rely.mask_in] at f78)
            rw [f78] at e78
            clear f78
            clear hA
            refine ⟨((Rely.wanted_at rfl (by rfl) e78).trans (by rfl)), fun K hK => ?_⟩
            clear e78
            go_simp
            refine (wof_any 0 _ (by omega) (by omega)).mono ?_
            rintro e wq ⟨v, rfl, c, hb⟩
            exact hK.out _ _ c hb
          refine Rely.Chain.call (fun _ v w => CI w v (R + 0) 23) (fun _ _ _ _ h hb => h.below hb) (fun _ _ _ _ _ h hp => h.keeps hp.keeps) (by rfl) (fun T xs wr hA => ?_) ?_
          · have hbw := undrew hA.bw
            have e78 := hA.tm 11 78 (by rfl) (by rfl)
            have f78 : xs 11 = _ := hA.fa 11 (by rfl)
            (try simp (disch := rfl) only [Rely.mask_in] at f78)
            rw [f78] at e78
            clear f78
            have e80 := hA.tm 13 80 (by rfl) (by rfl)
            have f80 : xs 13 = _ := hA.fa 13 (by rfl)
            (try simp (disch := rfl) only [Rely.mask_in] at f80)
            rw [f80] at e80
            clear f80
            have e81 := hA.tm 14 81 (by rfl) (by rfl)
            have c_r := c_r.below hbw
            have c_z2 : CI wr (xs 14) 0 2 := hA.fa 14 (by rfl)
            clear hA
            refine ⟨((Rely.wanted_at rfl (by rfl) e78).trans (by rfl)), fun K hK => ?_⟩
            clear e78
            go_simp
            refine (wadd_any _ _ R 0 20 2 _ c_r.gi c_z2.gi (by omega) (by omega)).mono ?_
            rintro e wq ⟨v, rfl, c, hb⟩
            exact hK.out _ _ c hb
          refine Rely.Chain.call (fun _ v _ => v = .bool true) (fun _ _ _ _ h _ => h) (fun _ _ _ _ _ h _ => h) (by rfl) (fun T xs wr hA => ?_) ?_
          · have hbw := undrew hA.bw
            have e78 := hA.tm 11 78 (by rfl) (by rfl)
            have f78 : xs 11 = _ := hA.fa 11 (by rfl)
            (try simp (disch := rfl) only [Rely.mask_in] at f78)
            rw [f78] at e78
            clear f78
            have e79 := hA.tm 12 79 (by rfl) (by rfl)
            have f79 : xs 12 = _ := hA.fa 12 (by rfl)
            (try simp (disch := rfl) only [Rely.mask_in] at f79)
            rw [f79] at e79
            clear f79
            have e82 := hA.tm 15 82 (by rfl) (by rfl)
            have c_r := c_r.below hbw
            have c_u2 : CI wr (xs 15) (R + 0) 23 := hA.fa 15 (by rfl)
            clear hA
            refine ⟨((Rely.wanted_at rfl (by rfl) e78).trans (by rfl)), fun K hK => ?_⟩
            clear e78
            go_simp
            refine (same_true _ _ R 20 23 _ c_r (c_u2.to (Int.add_zero R)) (by omega) (by omega)).mono ?_
            rintro e wq ⟨rfl, hb⟩
            exact hK.out _ _ rfl hb
          refine Rely.Chain.det ?_ (by rfl) (fun T xs wr hA => ?_) ?_
          rotate_left 1
          · have e78 := hA.tm 11 78 (by rfl) (by rfl)
            have f78 : xs 11 = _ := hA.fa 11 (by rfl)
            (try simp (disch := rfl) only [Rely.mask_in] at f78)
            rw [f78] at e78
            clear f78
            have e83 := hA.tm 16 83 (by rfl) (by rfl)
            have f83 : xs 16 = (.bool true) := hA.fa 16 (by rfl)
            rw [f83] at e83
            clear f83
            clear hA
            refine ⟨(by rfl), ?_⟩
            go_simp <;> (try with_reducible rfl)
          refine Rely.Chain.det ?_ (by rfl) (fun T xs wr hA => ?_) ?_
          rotate_left 1
          · have e84 := hA.tm 17 84 (by rfl) (by rfl)
            have f84 : xs 17 = _ := hA.fa 17 (by rfl)
            (try simp (disch := rfl) only [Rely.mask_in] at f84)
            rw [f84] at e84
            clear f84
            clear hA
            refine ⟨(by rfl), ?_⟩
            go_simp <;> (try with_reducible rfl)
          refine Rely.Chain.done (fun xs wx10 hL => ?_)
          obtain ⟨hbx', hf, hp, hn⟩ := hL
          have f0 : xs 0 = _ := hf 0 (by decide)
          (try simp (disch := rfl) only [Rely.mask_in] at f0)
          have f1 : xs 1 = _ := hf 1 (by decide)
          (try simp (disch := rfl) only [Rely.mask_in] at f1)
          have f2 : xs 2 = (.int .i64 (-1)) := hf 2 (by decide)
          (try simp (disch := rfl) only [Rely.mask_in] at f2)
          have f3 : xs 3 = _ := hf 3 (by decide)
          (try simp (disch := rfl) only [Rely.mask_in] at f3)
          have f4 : xs 4 = _ := hf 4 (by decide)
          (try simp (disch := rfl) only [Rely.mask_in] at f4)
          have f5 : xs 5 = _ := hf 5 (by decide)
          (try simp (disch := rfl) only [Rely.mask_in] at f5)
          have f6 : xs 6 = _ := hf 6 (by decide)
          (try simp (disch := rfl) only [Rely.mask_in] at f6)
          have c_z : CI wx10 (xs 7) 0 2 := hf 7 (by decide)
          have c_u : CI wx10 (xs 8) (Q + 0) 26 := hf 8 (by decide)
          have f9 : xs 9 = (.bool true) := hf 9 (by decide)
          (try simp (disch := rfl) only [Rely.mask_in] at f9)
          have f10 : xs 10 = _ := hf 10 (by decide)
          (try simp (disch := rfl) only [Rely.mask_in] at f10)
          have f11 : xs 11 = _ := hf 11 (by decide)
          (try simp (disch := rfl) only [Rely.mask_in] at f11)
          have f12 : xs 12 = _ := hf 12 (by decide)
          (try simp (disch := rfl) only [Rely.mask_in] at f12)
          have f13 : xs 13 = _ := hf 13 (by decide)
          (try simp (disch := rfl) only [Rely.mask_in] at f13)
          have c_z2 : CI wx10 (xs 14) 0 2 := hf 14 (by decide)
          have c_u2 : CI wx10 (xs 15) (R + 0) 23 := hf 15 (by decide)
          have f16 : xs 16 = (.bool true) := hf 16 (by decide)
          (try simp (disch := rfl) only [Rely.mask_in] at f16)
          have f17 : xs 17 = _ := hf 17 (by decide)
          (try simp (disch := rfl) only [Rely.mask_in] at f17)
          have f18 : xs 18 = _ := hf 18 (by decide)
          (try simp (disch := rfl) only [Rely.mask_in] at f18)
          clear hf hp hn
          refine Rely.rest_done ?_
          simp only [Rely.fill, List.setIfInBounds_toArray, List.set_cons_zero, List.set_cons_succ, f0, f1, f2, f3, f4, f5, f6, f9, f10, f11, f12, f13, f16, f17, f18]
          clear f0 f1 f2 f3 f4 f5 f6 f9 f10 f11 f12 f13 f16 f17 f18
          generalize xs 7 = v_z at c_z ⊢
          generalize xs 8 = v_u at c_u ⊢
          generalize xs 14 = v_z2 at c_z2 ⊢
          generalize xs 15 = v_u2 at c_u2 ⊢
          clear xs
          obtain ⟨b_z, o_z, l_z, k_z, rfl⟩ := c_z.shape
          obtain ⟨b_u, o_u, l_u, k_u, rfl⟩ := c_u.shape
          obtain ⟨b_z2, o_z2, l_z2, k_z2, rfl⟩ := c_z2.shape
          obtain ⟨b_u2, o_u2, l_u2, k_u2, rfl⟩ := c_u2.shape
          have hbx := undrew hbx'
          clear hbx'
          clear HSx
          replace g0 := g0.below hbx
          replace g1 := g1.below hbx
          replace c_q := c_q.below hbx
          replace c_r := c_r.below hbx
          replace c_m := c_m.below hbx
          replace c_a := c_a.below hbx
          replace g_x := g_x.below hbx
          replace g_y := g_y.below hbx
          replace hbt := hbt.trans (hbx.mono hbt.size)
          replace HB_x0 := Lib.hid ((hbx.block _ (lt_of_block HB_x0.out)).trans HB_x0.out)
          replace HB_x1 := Lib.hid ((hbx.block _ (lt_of_block HB_x1.out)).trans HB_x1.out)
          replace HB_y1 := Lib.hid ((hbx.block _ (lt_of_block HB_y1.out)).trans HB_y1.out)
          replace HB_y2 := Lib.hid ((hbx.block _ (lt_of_block HB_y2.out)).trans HB_y2.out)
          replace HB_y3 := Lib.hid ((hbx.block _ (lt_of_block HB_y3.out)).trans HB_y3.out)
          replace HB_y4 := Lib.hid ((hbx.block _ (lt_of_block HB_y4.out)).trans HB_y4.out)
          clear hbx
          replace x00 := (two_cells HB_x0.out).1
          replace x01 := (two_cells HB_x0.out).2.1
          replace x10 := (two_cells HB_x1.out).1
          replace x11 := (two_cells HB_x1.out).2.1
          replace y10 := (two_cells HB_y1.out).1
          replace y11 := (two_cells HB_y1.out).2.1
          replace y20 := (two_cells HB_y2.out).1
          replace y21 := (two_cells HB_y2.out).2.1
          replace y30 := (two_cells HB_y3.out).1
          replace y31 := (two_cells HB_y3.out).2.1
          replace y40 := (two_cells HB_y4.out).1
          replace y41 := (two_cells HB_y4.out).2.1
          go_wp2_with fail
          go_ret
          exact ⟨rfl, hbt⟩
  · have HS := Lib.hid hs
    clear hs
    have hbt := below2 w (.cells #[.bool b0, .slice o0 n0 m0] 25) (.cells #[.bool b1, .slice o1 n1 m1] 25)
    clear a0
    clear a1
    have hbk := blocks2 (Below.refl (w.heap.size + 2) ((w.alloc (.cells #[.bool b0, .slice o0 n0 m0] 25)).alloc (.cells #[.bool b1, .slice o1 n1 m1] 25)))
    have HB_x0 := Lib.hid hbk.1
    have HB_x1 := Lib.hid hbk.2
    clear hbk
    have x00 := (two_cells HB_x0.out).1
    have x01 := (two_cells HB_x0.out).2.1
    have x10 := (two_cells HB_x1.out).1
    have x11 := (two_cells HB_x1.out).2.1
    go_enter Tryd.func4, Tryd.ntmps4
    go_wp2_with fail
    generalize ((w.alloc (.cells #[.bool b0, .slice o0 n0 m0] 25)).alloc (.cells #[.bool b1, .slice o1 n1 m1] 25)) = w0 at *
    refine (HF.out _ (tab_below HTB.out hbt)).mono ?_
    rintro e wx1 ⟨rfl, hbx⟩
    replace hbt := hbt.trans (hbx.mono hbt.size)
    replace HB_x0 := Lib.hid ((hbx.block _ (lt_of_block HB_x0.out)).trans HB_x0.out)
    replace HB_x1 := Lib.hid ((hbx.block _ (lt_of_block HB_x1.out)).trans HB_x1.out)
    clear hbx
    replace x00 := (two_cells HB_x0.out).1
    replace x01 := (two_cells HB_x0.out).2.1
    replace x10 := (two_cells HB_x1.out).1
    replace x11 := (two_cells HB_x1.out).2.1
    go_wp2_with fail
    refine (short_f2 20 _ rfl HS.out).mono ?_
    rintro e wx2 ⟨rfl, hbx⟩
    replace hbt := hbt.trans (hbx.mono hbt.size)
    replace HB_x0 := Lib.hid ((hbx.block _ (lt_of_block HB_x0.out)).trans HB_x0.out)
    replace HB_x1 := Lib.hid ((hbx.block _ (lt_of_block HB_x1.out)).trans HB_x1.out)
    clear hbx
    replace x00 := (two_cells HB_x0.out).1
    replace x01 := (two_cells HB_x0.out).2.1
    replace x10 := (two_cells HB_x1.out).1
    replace x11 := (two_cells HB_x1.out).2.1
    go_wp2_with fail
    go_ret
    exact ⟨rfl, hbt⟩
end Go.Proofs.YtbkeildnhimfbaaDoor
