/-
  The walk of the law WholeOrders.
-/
import Derived.Test.YtbkeildnhimfbaaDoorWhoU
namespace Go.Proofs.YtbkeildnhimfbaaDoor
open Go.RowKit
set_option maxRecDepth 100000

theorem sgnZ_neg {z s : Int} (h : sgnZ z = s) : sgnZ (-z) = -s := by
  subst h; unfold sgnZ
  by_cases h0 : z = 0
  · rw [if_pos (by omega), if_pos h0]; rfl
  · by_cases h1 : z < 0
    · rw [if_neg (by omega), if_neg (by omega), if_neg h0, if_pos h1]; rfl
    · rw [if_neg (by omega), if_pos (by omega), if_neg h0, if_neg h1]
theorem sgnZ_cases (z : Int) : sgnZ z = -1 ∨ sgnZ z = 0 ∨ sgnZ z = 1 := by
  unfold sgnZ; split
  · exact Or.inr (Or.inl rfl)
  · split
    · exact Or.inl rfl
    · exact Or.inr (Or.inr rfl)
theorem sgnZ_trans {A B C : Int} (h1 : 0 ≤ sgnZ (A - B)) (h2 : 0 ≤ sgnZ (B - C)) : 0 ≤ sgnZ (A - C) := by
  unfold sgnZ at *
  split at h1 <;> split at h2 <;> (try split at h1) <;> (try split at h2) <;> (try omega) <;> (split; omega; split <;> omega)

set_option maxHeartbeats 8000000 in
theorem wholeOrders_walk (b0 : Bool) (o0 : Option Addr) (n0 m0 : Nat) (xs0 : List Nat) (b1 : Bool) (o1 : Option Addr) (n1 m1 : Nat) (xs1 : List Nat) (b2 : Bool) (o2 : Option Addr) (n2 m2 : Nat) (xs2 : List Nat) (w : World) (a0 : Arg w b0 o0 n0 m0 xs0) (a1 : Arg w b1 o1 n1 m1 xs1) (a2 : Arg w b2 o2 n2 m2 xs2) (htab : Lib.TabIs Tryd.prog w "internal/strconv.uint64pow10" .u64 Lib.pow10Tab) :
    Calls Tryd.prog 6 #[.agg #[.bool b0, .slice o0 n0 m0], .agg #[.bool b1, .slice o1 n1 m1], .agg #[.bool b2, .slice o2 n2 m2]] w fun e w' => e = .returned (.bool true) ∧ Below w.heap.size w w' := by
  have HF := Lib.hid wfitOk
  have HTB := Lib.hid htab
  clear htab
  by_cases hs : n0 ≤ 30 ∧ n1 ≤ 30 ∧ n2 ≤ 30
  · obtain ⟨l0, l1, l2⟩ := hs
    obtain ⟨A, g0⟩ := a0.gi l0
    obtain ⟨B, g1⟩ := a1.gi l1
    obtain ⟨C, g2⟩ := a2.gi l2
    clear a0 a1 a2
    have HT := Lib.hid (fun h1 h2 => sgnZ_trans (A := A) (B := B) (C := C) h1 h2)
    rcases sgnZ_cases (A - B) with hx | hx | hx <;> rcases sgnZ_cases (B - C) with hy | hy | hy
    all_goals
      have HX := Lib.hid hx
      have HY := Lib.hid hy
      have HN := Lib.hid (sgnZ_neg hx)
      have HP := Lib.hid hx
      rw [show -(A - B) = B - A by omega] at HN
      rw [show A - B = A + C - (B + C) by omega] at HP
      clear hx hy
      have hw1 : IntKind.i64.wrap (-1) = -1 := by decide
      have hw2 : IntKind.i64.wrap 1 = 1 := by decide
      have hw3 : IntKind.i64.wrap (- -1) = 1 := by decide
      have hw4 : IntKind.i64.wrap 0 = 0 := by decide
    · clear HT
      have hbt := below3 w (.cells #[.bool b0, .slice o0 n0 m0] 25) (.cells #[.bool b1, .slice o1 n1 m1] 25) (.cells #[.bool b2, .slice o2 n2 m2] 25)
      have hbk := blocks3 (Below.refl (w.heap.size + 3) (((w.alloc (.cells #[.bool b0, .slice o0 n0 m0] 25)).alloc (.cells #[.bool b1, .slice o1 n1 m1] 25)).alloc (.cells #[.bool b2, .slice o2 n2 m2] 25)))
      have HB_x0 := Lib.hid hbk.1
      have HB_x1 := Lib.hid hbk.2.1
      have HB_x2 := Lib.hid hbk.2.2
      clear hbk
      replace g0 := g0.below hbt
      have x00 := (two_cells HB_x0.out).1
      have x01 := (two_cells HB_x0.out).2.1
      replace g1 := g1.below hbt
      have x10 := (two_cells HB_x1.out).1
      have x11 := (two_cells HB_x1.out).2.1
      replace g2 := g2.below hbt
      have x20 := (two_cells HB_x2.out).1
      have x21 := (two_cells HB_x2.out).2.1
      go_enter Tryd.func6, Tryd.ntmps6
      go_wp2_with fail
      generalize (((w.alloc (.cells #[.bool b0, .slice o0 n0 m0] 25)).alloc (.cells #[.bool b1, .slice o1 n1 m1] 25)).alloc (.cells #[.bool b2, .slice o2 n2 m2] 25)) = w0 at *
      refine (HF.out _ (tab_below HTB.out hbt)).mono ?_
      rintro e wx1 ⟨rfl, hbx⟩
      replace g0 := g0.below hbx
      replace g1 := g1.below hbx
      replace g2 := g2.below hbx
      replace hbt := hbt.trans (hbx.mono hbt.size)
      replace HB_x0 := Lib.hid ((hbx.block _ (lt_of_block HB_x0.out)).trans HB_x0.out)
      replace HB_x1 := Lib.hid ((hbx.block _ (lt_of_block HB_x1.out)).trans HB_x1.out)
      replace HB_x2 := Lib.hid ((hbx.block _ (lt_of_block HB_x2.out)).trans HB_x2.out)
      clear hbx
      replace x00 := (two_cells HB_x0.out).1
      replace x01 := (two_cells HB_x0.out).2.1
      replace x10 := (two_cells HB_x1.out).1
      replace x11 := (two_cells HB_x1.out).2.1
      replace x20 := (two_cells HB_x2.out).1
      replace x21 := (two_cells HB_x2.out).2.1
      go_wp2_with fail
      refine (short_t3 30 _ rfl l0 l1 l2).mono ?_
      rintro e wx2 ⟨rfl, hbx⟩
      replace g0 := g0.below hbx
      replace g1 := g1.below hbx
      replace g2 := g2.below hbx
      replace hbt := hbt.trans (hbx.mono hbt.size)
      replace HB_x0 := Lib.hid ((hbx.block _ (lt_of_block HB_x0.out)).trans HB_x0.out)
      replace HB_x1 := Lib.hid ((hbx.block _ (lt_of_block HB_x1.out)).trans HB_x1.out)
      replace HB_x2 := Lib.hid ((hbx.block _ (lt_of_block HB_x2.out)).trans HB_x2.out)
      clear hbx
      replace x00 := (two_cells HB_x0.out).1
      replace x01 := (two_cells HB_x0.out).2.1
      replace x10 := (two_cells HB_x1.out).1
      replace x11 := (two_cells HB_x1.out).2.1
      replace x20 := (two_cells HB_x2.out).1
      replace x21 := (two_cells HB_x2.out).2.1
      go_wp2_with fail
      go_region_held3 (fun w' => w'.cell? ⟨w.heap.size, 0, none⟩ = some (.bool b0) ∧ w'.cell? ⟨w.heap.size, 1, none⟩ = some (.slice o0 n0 m0) ∧ w'.cell? ⟨w.heap.size + 1, 0, none⟩ = some (.bool b1) ∧ w'.cell? ⟨w.heap.size + 1, 1, none⟩ = some (.slice o1 n1 m1) ∧ w'.cell? ⟨w.heap.size + 2, 0, none⟩ = some (.bool b2) ∧ w'.cell? ⟨w.heap.size + 2, 1, none⟩ = some (.slice o2 n2 m2))
        (first | exact ⟨x00, x01, x10, x11, x20, x21⟩ | go_keep)
        (first
          | (have := tok0; go_at_call 20; refine (wcmp_s _ _ B C 30 30 (-1) _ g1 g2 HY.out (by omega) (by omega)).mono ?_; rintro e wx4 ⟨rfl, hbx⟩; replace g0 := g0.below hbx; replace g1 := g1.below hbx; replace g2 := g2.below hbx; replace hbt := hbt.trans (hbx.mono hbt.size); replace HB_x0 := Lib.hid ((hbx.block _ (lt_of_block HB_x0.out)).trans HB_x0.out); replace HB_x1 := Lib.hid ((hbx.block _ (lt_of_block HB_x1.out)).trans HB_x1.out); replace HB_x2 := Lib.hid ((hbx.block _ (lt_of_block HB_x2.out)).trans HB_x2.out); clear hbx; replace x00 := (two_cells HB_x0.out).1; replace x01 := (two_cells HB_x0.out).2.1; replace x10 := (two_cells HB_x1.out).1; replace x11 := (two_cells HB_x1.out).2.1; replace x20 := (two_cells HB_x2.out).1; replace x21 := (two_cells HB_x2.out).2.1; have tok1 := Lib.hid trivial)
          | (skip; go_at_call 20; refine (wcmp_s _ _ A B 30 30 (-1) _ g0.drew g1.drew HX.out (by omega) (by omega)).mono ?_; rintro e wx3 ⟨rfl, hbx'⟩; have hbx := undrew hbx'; clear hbx'; replace g0 := g0.below hbx; replace g1 := g1.below hbx; replace g2 := g2.below hbx; replace hbt := hbt.trans (hbx.mono hbt.size); replace HB_x0 := Lib.hid ((hbx.block _ (lt_of_block HB_x0.out)).trans HB_x0.out); replace HB_x1 := Lib.hid ((hbx.block _ (lt_of_block HB_x1.out)).trans HB_x1.out); replace HB_x2 := Lib.hid ((hbx.block _ (lt_of_block HB_x2.out)).trans HB_x2.out); clear hbx; replace x00 := (two_cells HB_x0.out).1; replace x01 := (two_cells HB_x0.out).2.1; replace x10 := (two_cells HB_x1.out).1; replace x11 := (two_cells HB_x1.out).2.1; replace x20 := (two_cells HB_x2.out).1; replace x21 := (two_cells HB_x2.out).2.1; have tok0 := Lib.hid trivial))
      go_wp2_with fail
      go_region_held3 (fun w' => w'.cell? ⟨w.heap.size, 0, none⟩ = some (.bool b0) ∧ w'.cell? ⟨w.heap.size, 1, none⟩ = some (.slice o0 n0 m0) ∧ w'.cell? ⟨w.heap.size + 1, 0, none⟩ = some (.bool b1) ∧ w'.cell? ⟨w.heap.size + 1, 1, none⟩ = some (.slice o1 n1 m1) ∧ w'.cell? ⟨w.heap.size + 2, 0, none⟩ = some (.bool b2) ∧ w'.cell? ⟨w.heap.size + 2, 1, none⟩ = some (.slice o2 n2 m2))
        (first | exact ⟨x00, x01, x10, x11, x20, x21⟩ | go_keep)
        (first
          | (have := tok4; go_at_call 20; refine (wcmp_s _ _ (A + C) (B + C) _ _ (-1) _ c_p.gi c_q.gi HP.out (by omega) (by omega)).mono ?_; rintro e wx10 ⟨rfl, hbx⟩; replace g0 := g0.below hbx; replace g1 := g1.below hbx; replace g2 := g2.below hbx; replace c_s := c_s.below hbx; replace c_p := c_p.below hbx; replace c_q := c_q.below hbx; replace hbt := hbt.trans (hbx.mono hbt.size); replace HB_x0 := Lib.hid ((hbx.block _ (lt_of_block HB_x0.out)).trans HB_x0.out); replace HB_x1 := Lib.hid ((hbx.block _ (lt_of_block HB_x1.out)).trans HB_x1.out); replace HB_x2 := Lib.hid ((hbx.block _ (lt_of_block HB_x2.out)).trans HB_x2.out); clear hbx; replace x00 := (two_cells HB_x0.out).1; replace x01 := (two_cells HB_x0.out).2.1; replace x10 := (two_cells HB_x1.out).1; replace x11 := (two_cells HB_x1.out).2.1; replace x20 := (two_cells HB_x2.out).1; replace x21 := (two_cells HB_x2.out).2.1; have tok5 := Lib.hid trivial)
          | (have := tok3; go_at_call 14; refine (wadd_any _ _ B C 30 30 _ g1 g2 (by omega) (by omega)).mono ?_; rintro e wx9 ⟨v_q, rfl, c_q, hbx⟩; replace g0 := g0.below hbx; replace g1 := g1.below hbx; replace g2 := g2.below hbx; replace c_s := c_s.below hbx; replace c_p := c_p.below hbx; replace hbt := hbt.trans (hbx.mono hbt.size); replace HB_x0 := Lib.hid ((hbx.block _ (lt_of_block HB_x0.out)).trans HB_x0.out); replace HB_x1 := Lib.hid ((hbx.block _ (lt_of_block HB_x1.out)).trans HB_x1.out); replace HB_x2 := Lib.hid ((hbx.block _ (lt_of_block HB_x2.out)).trans HB_x2.out); clear hbx; replace x00 := (two_cells HB_x0.out).1; replace x01 := (two_cells HB_x0.out).2.1; replace x10 := (two_cells HB_x1.out).1; replace x11 := (two_cells HB_x1.out).2.1; replace x20 := (two_cells HB_x2.out).1; replace x21 := (two_cells HB_x2.out).2.1; obtain ⟨b_q, o_q, l_q, k_q, rfl⟩ := c_q.shape; have tok4 := Lib.hid trivial)
          | (have := tok2; go_at_call 14; refine (wadd_any _ _ A C 30 30 _ g0 g2 (by omega) (by omega)).mono ?_; rintro e wx8 ⟨v_p, rfl, c_p, hbx⟩; replace g0 := g0.below hbx; replace g1 := g1.below hbx; replace g2 := g2.below hbx; replace c_s := c_s.below hbx; replace hbt := hbt.trans (hbx.mono hbt.size); replace HB_x0 := Lib.hid ((hbx.block _ (lt_of_block HB_x0.out)).trans HB_x0.out); replace HB_x1 := Lib.hid ((hbx.block _ (lt_of_block HB_x1.out)).trans HB_x1.out); replace HB_x2 := Lib.hid ((hbx.block _ (lt_of_block HB_x2.out)).trans HB_x2.out); clear hbx; replace x00 := (two_cells HB_x0.out).1; replace x01 := (two_cells HB_x0.out).2.1; replace x10 := (two_cells HB_x1.out).1; replace x11 := (two_cells HB_x1.out).2.1; replace x20 := (two_cells HB_x2.out).1; replace x21 := (two_cells HB_x2.out).2.1; obtain ⟨b_p, o_p, l_p, k_p, rfl⟩ := c_p.shape; have tok3 := Lib.hid trivial)
          | (have := tok1; go_at_call 20; refine (wcmp_s _ _ B A 30 30 (1) _ g1 g0 HN.out (by omega) (by omega)).mono ?_; rintro e wx7 ⟨rfl, hbx⟩; replace g0 := g0.below hbx; replace g1 := g1.below hbx; replace g2 := g2.below hbx; replace c_s := c_s.below hbx; replace hbt := hbt.trans (hbx.mono hbt.size); replace HB_x0 := Lib.hid ((hbx.block _ (lt_of_block HB_x0.out)).trans HB_x0.out); replace HB_x1 := Lib.hid ((hbx.block _ (lt_of_block HB_x1.out)).trans HB_x1.out); replace HB_x2 := Lib.hid ((hbx.block _ (lt_of_block HB_x2.out)).trans HB_x2.out); clear hbx; replace x00 := (two_cells HB_x0.out).1; replace x01 := (two_cells HB_x0.out).2.1; replace x10 := (two_cells HB_x1.out).1; replace x11 := (two_cells HB_x1.out).2.1; replace x20 := (two_cells HB_x2.out).1; replace x21 := (two_cells HB_x2.out).2.1; have tok2 := Lib.hid trivial)
          | (have := tok0; go_at_call 23; refine (wsign_s _ (A - B) _ (-1) _ c_s.gi HX.out (by omega)).mono ?_; rintro e wx6 ⟨rfl, hbx⟩; replace g0 := g0.below hbx; replace g1 := g1.below hbx; replace g2 := g2.below hbx; replace c_s := c_s.below hbx; replace hbt := hbt.trans (hbx.mono hbt.size); replace HB_x0 := Lib.hid ((hbx.block _ (lt_of_block HB_x0.out)).trans HB_x0.out); replace HB_x1 := Lib.hid ((hbx.block _ (lt_of_block HB_x1.out)).trans HB_x1.out); replace HB_x2 := Lib.hid ((hbx.block _ (lt_of_block HB_x2.out)).trans HB_x2.out); clear hbx; replace x00 := (two_cells HB_x0.out).1; replace x01 := (two_cells HB_x0.out).2.1; replace x10 := (two_cells HB_x1.out).1; replace x11 := (two_cells HB_x1.out).2.1; replace x20 := (two_cells HB_x2.out).1; replace x21 := (two_cells HB_x2.out).2.1; have tok1 := Lib.hid trivial)
          | (skip; go_at_call 16; refine (wsub_any _ _ A B 30 30 _ g0.drew g1.drew (by omega) (by omega)).mono ?_; rintro e wx5 ⟨v_s, rfl, c_s, hbx'⟩; have hbx := undrew hbx'; clear hbx'; replace g0 := g0.below hbx; replace g1 := g1.below hbx; replace g2 := g2.below hbx; replace hbt := hbt.trans (hbx.mono hbt.size); replace HB_x0 := Lib.hid ((hbx.block _ (lt_of_block HB_x0.out)).trans HB_x0.out); replace HB_x1 := Lib.hid ((hbx.block _ (lt_of_block HB_x1.out)).trans HB_x1.out); replace HB_x2 := Lib.hid ((hbx.block _ (lt_of_block HB_x2.out)).trans HB_x2.out); clear hbx; replace x00 := (two_cells HB_x0.out).1; replace x01 := (two_cells HB_x0.out).2.1; replace x10 := (two_cells HB_x1.out).1; replace x11 := (two_cells HB_x1.out).2.1; replace x20 := (two_cells HB_x2.out).1; replace x21 := (two_cells HB_x2.out).2.1; obtain ⟨b_s, o_s, l_s, k_s, rfl⟩ := c_s.shape; have tok0 := Lib.hid trivial))
      go_wp2_with fail
      go_ret
      exact ⟨rfl, hbt⟩
    · clear HT
      have hbt := below3 w (.cells #[.bool b0, .slice o0 n0 m0] 25) (.cells #[.bool b1, .slice o1 n1 m1] 25) (.cells #[.bool b2, .slice o2 n2 m2] 25)
      have hbk := blocks3 (Below.refl (w.heap.size + 3) (((w.alloc (.cells #[.bool b0, .slice o0 n0 m0] 25)).alloc (.cells #[.bool b1, .slice o1 n1 m1] 25)).alloc (.cells #[.bool b2, .slice o2 n2 m2] 25)))
      have HB_x0 := Lib.hid hbk.1
      have HB_x1 := Lib.hid hbk.2.1
      have HB_x2 := Lib.hid hbk.2.2
      clear hbk
      replace g0 := g0.below hbt
      have x00 := (two_cells HB_x0.out).1
      have x01 := (two_cells HB_x0.out).2.1
      replace g1 := g1.below hbt
      have x10 := (two_cells HB_x1.out).1
      have x11 := (two_cells HB_x1.out).2.1
      replace g2 := g2.below hbt
      have x20 := (two_cells HB_x2.out).1
      have x21 := (two_cells HB_x2.out).2.1
      go_enter Tryd.func6, Tryd.ntmps6
      go_wp2_with fail
      generalize (((w.alloc (.cells #[.bool b0, .slice o0 n0 m0] 25)).alloc (.cells #[.bool b1, .slice o1 n1 m1] 25)).alloc (.cells #[.bool b2, .slice o2 n2 m2] 25)) = w0 at *
      refine (HF.out _ (tab_below HTB.out hbt)).mono ?_
      rintro e wx1 ⟨rfl, hbx⟩
      replace g0 := g0.below hbx
      replace g1 := g1.below hbx
      replace g2 := g2.below hbx
      replace hbt := hbt.trans (hbx.mono hbt.size)
      replace HB_x0 := Lib.hid ((hbx.block _ (lt_of_block HB_x0.out)).trans HB_x0.out)
      replace HB_x1 := Lib.hid ((hbx.block _ (lt_of_block HB_x1.out)).trans HB_x1.out)
      replace HB_x2 := Lib.hid ((hbx.block _ (lt_of_block HB_x2.out)).trans HB_x2.out)
      clear hbx
      replace x00 := (two_cells HB_x0.out).1
      replace x01 := (two_cells HB_x0.out).2.1
      replace x10 := (two_cells HB_x1.out).1
      replace x11 := (two_cells HB_x1.out).2.1
      replace x20 := (two_cells HB_x2.out).1
      replace x21 := (two_cells HB_x2.out).2.1
      go_wp2_with fail
      refine (short_t3 30 _ rfl l0 l1 l2).mono ?_
      rintro e wx2 ⟨rfl, hbx⟩
      replace g0 := g0.below hbx
      replace g1 := g1.below hbx
      replace g2 := g2.below hbx
      replace hbt := hbt.trans (hbx.mono hbt.size)
      replace HB_x0 := Lib.hid ((hbx.block _ (lt_of_block HB_x0.out)).trans HB_x0.out)
      replace HB_x1 := Lib.hid ((hbx.block _ (lt_of_block HB_x1.out)).trans HB_x1.out)
      replace HB_x2 := Lib.hid ((hbx.block _ (lt_of_block HB_x2.out)).trans HB_x2.out)
      clear hbx
      replace x00 := (two_cells HB_x0.out).1
      replace x01 := (two_cells HB_x0.out).2.1
      replace x10 := (two_cells HB_x1.out).1
      replace x11 := (two_cells HB_x1.out).2.1
      replace x20 := (two_cells HB_x2.out).1
      replace x21 := (two_cells HB_x2.out).2.1
      go_wp2_with fail
      go_region_held3 (fun w' => w'.cell? ⟨w.heap.size, 0, none⟩ = some (.bool b0) ∧ w'.cell? ⟨w.heap.size, 1, none⟩ = some (.slice o0 n0 m0) ∧ w'.cell? ⟨w.heap.size + 1, 0, none⟩ = some (.bool b1) ∧ w'.cell? ⟨w.heap.size + 1, 1, none⟩ = some (.slice o1 n1 m1) ∧ w'.cell? ⟨w.heap.size + 2, 0, none⟩ = some (.bool b2) ∧ w'.cell? ⟨w.heap.size + 2, 1, none⟩ = some (.slice o2 n2 m2))
        (first | exact ⟨x00, x01, x10, x11, x20, x21⟩ | go_keep)
        (first
          | (have := tok0; go_at_call 20; refine (wcmp_s _ _ B C 30 30 (0) _ g1 g2 HY.out (by omega) (by omega)).mono ?_; rintro e wx4 ⟨rfl, hbx⟩; replace g0 := g0.below hbx; replace g1 := g1.below hbx; replace g2 := g2.below hbx; replace hbt := hbt.trans (hbx.mono hbt.size); replace HB_x0 := Lib.hid ((hbx.block _ (lt_of_block HB_x0.out)).trans HB_x0.out); replace HB_x1 := Lib.hid ((hbx.block _ (lt_of_block HB_x1.out)).trans HB_x1.out); replace HB_x2 := Lib.hid ((hbx.block _ (lt_of_block HB_x2.out)).trans HB_x2.out); clear hbx; replace x00 := (two_cells HB_x0.out).1; replace x01 := (two_cells HB_x0.out).2.1; replace x10 := (two_cells HB_x1.out).1; replace x11 := (two_cells HB_x1.out).2.1; replace x20 := (two_cells HB_x2.out).1; replace x21 := (two_cells HB_x2.out).2.1; have tok1 := Lib.hid trivial)
          | (skip; go_at_call 20; refine (wcmp_s _ _ A B 30 30 (-1) _ g0.drew g1.drew HX.out (by omega) (by omega)).mono ?_; rintro e wx3 ⟨rfl, hbx'⟩; have hbx := undrew hbx'; clear hbx'; replace g0 := g0.below hbx; replace g1 := g1.below hbx; replace g2 := g2.below hbx; replace hbt := hbt.trans (hbx.mono hbt.size); replace HB_x0 := Lib.hid ((hbx.block _ (lt_of_block HB_x0.out)).trans HB_x0.out); replace HB_x1 := Lib.hid ((hbx.block _ (lt_of_block HB_x1.out)).trans HB_x1.out); replace HB_x2 := Lib.hid ((hbx.block _ (lt_of_block HB_x2.out)).trans HB_x2.out); clear hbx; replace x00 := (two_cells HB_x0.out).1; replace x01 := (two_cells HB_x0.out).2.1; replace x10 := (two_cells HB_x1.out).1; replace x11 := (two_cells HB_x1.out).2.1; replace x20 := (two_cells HB_x2.out).1; replace x21 := (two_cells HB_x2.out).2.1; have tok0 := Lib.hid trivial))
      go_wp2_with fail
      go_region_held3 (fun w' => w'.cell? ⟨w.heap.size, 0, none⟩ = some (.bool b0) ∧ w'.cell? ⟨w.heap.size, 1, none⟩ = some (.slice o0 n0 m0) ∧ w'.cell? ⟨w.heap.size + 1, 0, none⟩ = some (.bool b1) ∧ w'.cell? ⟨w.heap.size + 1, 1, none⟩ = some (.slice o1 n1 m1) ∧ w'.cell? ⟨w.heap.size + 2, 0, none⟩ = some (.bool b2) ∧ w'.cell? ⟨w.heap.size + 2, 1, none⟩ = some (.slice o2 n2 m2))
        (first | exact ⟨x00, x01, x10, x11, x20, x21⟩ | go_keep)
        (first
          | (have := tok4; go_at_call 20; refine (wcmp_s _ _ (A + C) (B + C) _ _ (-1) _ c_p.gi c_q.gi HP.out (by omega) (by omega)).mono ?_; rintro e wx10 ⟨rfl, hbx⟩; replace g0 := g0.below hbx; replace g1 := g1.below hbx; replace g2 := g2.below hbx; replace c_s := c_s.below hbx; replace c_p := c_p.below hbx; replace c_q := c_q.below hbx; replace hbt := hbt.trans (hbx.mono hbt.size); replace HB_x0 := Lib.hid ((hbx.block _ (lt_of_block HB_x0.out)).trans HB_x0.out); replace HB_x1 := Lib.hid ((hbx.block _ (lt_of_block HB_x1.out)).trans HB_x1.out); replace HB_x2 := Lib.hid ((hbx.block _ (lt_of_block HB_x2.out)).trans HB_x2.out); clear hbx; replace x00 := (two_cells HB_x0.out).1; replace x01 := (two_cells HB_x0.out).2.1; replace x10 := (two_cells HB_x1.out).1; replace x11 := (two_cells HB_x1.out).2.1; replace x20 := (two_cells HB_x2.out).1; replace x21 := (two_cells HB_x2.out).2.1; have tok5 := Lib.hid trivial)
          | (have := tok3; go_at_call 14; refine (wadd_any _ _ B C 30 30 _ g1 g2 (by omega) (by omega)).mono ?_; rintro e wx9 ⟨v_q, rfl, c_q, hbx⟩; replace g0 := g0.below hbx; replace g1 := g1.below hbx; replace g2 := g2.below hbx; replace c_s := c_s.below hbx; replace c_p := c_p.below hbx; replace hbt := hbt.trans (hbx.mono hbt.size); replace HB_x0 := Lib.hid ((hbx.block _ (lt_of_block HB_x0.out)).trans HB_x0.out); replace HB_x1 := Lib.hid ((hbx.block _ (lt_of_block HB_x1.out)).trans HB_x1.out); replace HB_x2 := Lib.hid ((hbx.block _ (lt_of_block HB_x2.out)).trans HB_x2.out); clear hbx; replace x00 := (two_cells HB_x0.out).1; replace x01 := (two_cells HB_x0.out).2.1; replace x10 := (two_cells HB_x1.out).1; replace x11 := (two_cells HB_x1.out).2.1; replace x20 := (two_cells HB_x2.out).1; replace x21 := (two_cells HB_x2.out).2.1; obtain ⟨b_q, o_q, l_q, k_q, rfl⟩ := c_q.shape; have tok4 := Lib.hid trivial)
          | (have := tok2; go_at_call 14; refine (wadd_any _ _ A C 30 30 _ g0 g2 (by omega) (by omega)).mono ?_; rintro e wx8 ⟨v_p, rfl, c_p, hbx⟩; replace g0 := g0.below hbx; replace g1 := g1.below hbx; replace g2 := g2.below hbx; replace c_s := c_s.below hbx; replace hbt := hbt.trans (hbx.mono hbt.size); replace HB_x0 := Lib.hid ((hbx.block _ (lt_of_block HB_x0.out)).trans HB_x0.out); replace HB_x1 := Lib.hid ((hbx.block _ (lt_of_block HB_x1.out)).trans HB_x1.out); replace HB_x2 := Lib.hid ((hbx.block _ (lt_of_block HB_x2.out)).trans HB_x2.out); clear hbx; replace x00 := (two_cells HB_x0.out).1; replace x01 := (two_cells HB_x0.out).2.1; replace x10 := (two_cells HB_x1.out).1; replace x11 := (two_cells HB_x1.out).2.1; replace x20 := (two_cells HB_x2.out).1; replace x21 := (two_cells HB_x2.out).2.1; obtain ⟨b_p, o_p, l_p, k_p, rfl⟩ := c_p.shape; have tok3 := Lib.hid trivial)
          | (have := tok1; go_at_call 20; refine (wcmp_s _ _ B A 30 30 (1) _ g1 g0 HN.out (by omega) (by omega)).mono ?_; rintro e wx7 ⟨rfl, hbx⟩; replace g0 := g0.below hbx; replace g1 := g1.below hbx; replace g2 := g2.below hbx; replace c_s := c_s.below hbx; replace hbt := hbt.trans (hbx.mono hbt.size); replace HB_x0 := Lib.hid ((hbx.block _ (lt_of_block HB_x0.out)).trans HB_x0.out); replace HB_x1 := Lib.hid ((hbx.block _ (lt_of_block HB_x1.out)).trans HB_x1.out); replace HB_x2 := Lib.hid ((hbx.block _ (lt_of_block HB_x2.out)).trans HB_x2.out); clear hbx; replace x00 := (two_cells HB_x0.out).1; replace x01 := (two_cells HB_x0.out).2.1; replace x10 := (two_cells HB_x1.out).1; replace x11 := (two_cells HB_x1.out).2.1; replace x20 := (two_cells HB_x2.out).1; replace x21 := (two_cells HB_x2.out).2.1; have tok2 := Lib.hid trivial)
          | (have := tok0; go_at_call 23; refine (wsign_s _ (A - B) _ (-1) _ c_s.gi HX.out (by omega)).mono ?_; rintro e wx6 ⟨rfl, hbx⟩; replace g0 := g0.below hbx; replace g1 := g1.below hbx; replace g2 := g2.below hbx; replace c_s := c_s.below hbx; replace hbt := hbt.trans (hbx.mono hbt.size); replace HB_x0 := Lib.hid ((hbx.block _ (lt_of_block HB_x0.out)).trans HB_x0.out); replace HB_x1 := Lib.hid ((hbx.block _ (lt_of_block HB_x1.out)).trans HB_x1.out); replace HB_x2 := Lib.hid ((hbx.block _ (lt_of_block HB_x2.out)).trans HB_x2.out); clear hbx; replace x00 := (two_cells HB_x0.out).1; replace x01 := (two_cells HB_x0.out).2.1; replace x10 := (two_cells HB_x1.out).1; replace x11 := (two_cells HB_x1.out).2.1; replace x20 := (two_cells HB_x2.out).1; replace x21 := (two_cells HB_x2.out).2.1; have tok1 := Lib.hid trivial)
          | (skip; go_at_call 16; refine (wsub_any _ _ A B 30 30 _ g0.drew g1.drew (by omega) (by omega)).mono ?_; rintro e wx5 ⟨v_s, rfl, c_s, hbx'⟩; have hbx := undrew hbx'; clear hbx'; replace g0 := g0.below hbx; replace g1 := g1.below hbx; replace g2 := g2.below hbx; replace hbt := hbt.trans (hbx.mono hbt.size); replace HB_x0 := Lib.hid ((hbx.block _ (lt_of_block HB_x0.out)).trans HB_x0.out); replace HB_x1 := Lib.hid ((hbx.block _ (lt_of_block HB_x1.out)).trans HB_x1.out); replace HB_x2 := Lib.hid ((hbx.block _ (lt_of_block HB_x2.out)).trans HB_x2.out); clear hbx; replace x00 := (two_cells HB_x0.out).1; replace x01 := (two_cells HB_x0.out).2.1; replace x10 := (two_cells HB_x1.out).1; replace x11 := (two_cells HB_x1.out).2.1; replace x20 := (two_cells HB_x2.out).1; replace x21 := (two_cells HB_x2.out).2.1; obtain ⟨b_s, o_s, l_s, k_s, rfl⟩ := c_s.shape; have tok0 := Lib.hid trivial))
      go_wp2_with fail
      go_ret
      exact ⟨rfl, hbt⟩
    · clear HT
      have hbt := below3 w (.cells #[.bool b0, .slice o0 n0 m0] 25) (.cells #[.bool b1, .slice o1 n1 m1] 25) (.cells #[.bool b2, .slice o2 n2 m2] 25)
      have hbk := blocks3 (Below.refl (w.heap.size + 3) (((w.alloc (.cells #[.bool b0, .slice o0 n0 m0] 25)).alloc (.cells #[.bool b1, .slice o1 n1 m1] 25)).alloc (.cells #[.bool b2, .slice o2 n2 m2] 25)))
      have HB_x0 := Lib.hid hbk.1
      have HB_x1 := Lib.hid hbk.2.1
      have HB_x2 := Lib.hid hbk.2.2
      clear hbk
      replace g0 := g0.below hbt
      have x00 := (two_cells HB_x0.out).1
      have x01 := (two_cells HB_x0.out).2.1
      replace g1 := g1.below hbt
      have x10 := (two_cells HB_x1.out).1
      have x11 := (two_cells HB_x1.out).2.1
      replace g2 := g2.below hbt
      have x20 := (two_cells HB_x2.out).1
      have x21 := (two_cells HB_x2.out).2.1
      go_enter Tryd.func6, Tryd.ntmps6
      go_wp2_with fail
      generalize (((w.alloc (.cells #[.bool b0, .slice o0 n0 m0] 25)).alloc (.cells #[.bool b1, .slice o1 n1 m1] 25)).alloc (.cells #[.bool b2, .slice o2 n2 m2] 25)) = w0 at *
      refine (HF.out _ (tab_below HTB.out hbt)).mono ?_
      rintro e wx1 ⟨rfl, hbx⟩
      replace g0 := g0.below hbx
      replace g1 := g1.below hbx
      replace g2 := g2.below hbx
      replace hbt := hbt.trans (hbx.mono hbt.size)
      replace HB_x0 := Lib.hid ((hbx.block _ (lt_of_block HB_x0.out)).trans HB_x0.out)
      replace HB_x1 := Lib.hid ((hbx.block _ (lt_of_block HB_x1.out)).trans HB_x1.out)
      replace HB_x2 := Lib.hid ((hbx.block _ (lt_of_block HB_x2.out)).trans HB_x2.out)
      clear hbx
      replace x00 := (two_cells HB_x0.out).1
      replace x01 := (two_cells HB_x0.out).2.1
      replace x10 := (two_cells HB_x1.out).1
      replace x11 := (two_cells HB_x1.out).2.1
      replace x20 := (two_cells HB_x2.out).1
      replace x21 := (two_cells HB_x2.out).2.1
      go_wp2_with fail
      refine (short_t3 30 _ rfl l0 l1 l2).mono ?_
      rintro e wx2 ⟨rfl, hbx⟩
      replace g0 := g0.below hbx
      replace g1 := g1.below hbx
      replace g2 := g2.below hbx
      replace hbt := hbt.trans (hbx.mono hbt.size)
      replace HB_x0 := Lib.hid ((hbx.block _ (lt_of_block HB_x0.out)).trans HB_x0.out)
      replace HB_x1 := Lib.hid ((hbx.block _ (lt_of_block HB_x1.out)).trans HB_x1.out)
      replace HB_x2 := Lib.hid ((hbx.block _ (lt_of_block HB_x2.out)).trans HB_x2.out)
      clear hbx
      replace x00 := (two_cells HB_x0.out).1
      replace x01 := (two_cells HB_x0.out).2.1
      replace x10 := (two_cells HB_x1.out).1
      replace x11 := (two_cells HB_x1.out).2.1
      replace x20 := (two_cells HB_x2.out).1
      replace x21 := (two_cells HB_x2.out).2.1
      go_wp2_with fail
      go_region_held3 (fun w' => w'.cell? ⟨w.heap.size, 0, none⟩ = some (.bool b0) ∧ w'.cell? ⟨w.heap.size, 1, none⟩ = some (.slice o0 n0 m0) ∧ w'.cell? ⟨w.heap.size + 1, 0, none⟩ = some (.bool b1) ∧ w'.cell? ⟨w.heap.size + 1, 1, none⟩ = some (.slice o1 n1 m1) ∧ w'.cell? ⟨w.heap.size + 2, 0, none⟩ = some (.bool b2) ∧ w'.cell? ⟨w.heap.size + 2, 1, none⟩ = some (.slice o2 n2 m2))
        (first | exact ⟨x00, x01, x10, x11, x20, x21⟩ | go_keep)
        (first
          | (have := tok0; go_at_call 20; refine (wcmp_s _ _ B C 30 30 (1) _ g1 g2 HY.out (by omega) (by omega)).mono ?_; rintro e wx4 ⟨rfl, hbx⟩; replace g0 := g0.below hbx; replace g1 := g1.below hbx; replace g2 := g2.below hbx; replace hbt := hbt.trans (hbx.mono hbt.size); replace HB_x0 := Lib.hid ((hbx.block _ (lt_of_block HB_x0.out)).trans HB_x0.out); replace HB_x1 := Lib.hid ((hbx.block _ (lt_of_block HB_x1.out)).trans HB_x1.out); replace HB_x2 := Lib.hid ((hbx.block _ (lt_of_block HB_x2.out)).trans HB_x2.out); clear hbx; replace x00 := (two_cells HB_x0.out).1; replace x01 := (two_cells HB_x0.out).2.1; replace x10 := (two_cells HB_x1.out).1; replace x11 := (two_cells HB_x1.out).2.1; replace x20 := (two_cells HB_x2.out).1; replace x21 := (two_cells HB_x2.out).2.1; have tok1 := Lib.hid trivial)
          | (skip; go_at_call 20; refine (wcmp_s _ _ A B 30 30 (-1) _ g0.drew g1.drew HX.out (by omega) (by omega)).mono ?_; rintro e wx3 ⟨rfl, hbx'⟩; have hbx := undrew hbx'; clear hbx'; replace g0 := g0.below hbx; replace g1 := g1.below hbx; replace g2 := g2.below hbx; replace hbt := hbt.trans (hbx.mono hbt.size); replace HB_x0 := Lib.hid ((hbx.block _ (lt_of_block HB_x0.out)).trans HB_x0.out); replace HB_x1 := Lib.hid ((hbx.block _ (lt_of_block HB_x1.out)).trans HB_x1.out); replace HB_x2 := Lib.hid ((hbx.block _ (lt_of_block HB_x2.out)).trans HB_x2.out); clear hbx; replace x00 := (two_cells HB_x0.out).1; replace x01 := (two_cells HB_x0.out).2.1; replace x10 := (two_cells HB_x1.out).1; replace x11 := (two_cells HB_x1.out).2.1; replace x20 := (two_cells HB_x2.out).1; replace x21 := (two_cells HB_x2.out).2.1; have tok0 := Lib.hid trivial))
      go_wp2_with fail
      go_region_held3 (fun w' => w'.cell? ⟨w.heap.size, 0, none⟩ = some (.bool b0) ∧ w'.cell? ⟨w.heap.size, 1, none⟩ = some (.slice o0 n0 m0) ∧ w'.cell? ⟨w.heap.size + 1, 0, none⟩ = some (.bool b1) ∧ w'.cell? ⟨w.heap.size + 1, 1, none⟩ = some (.slice o1 n1 m1) ∧ w'.cell? ⟨w.heap.size + 2, 0, none⟩ = some (.bool b2) ∧ w'.cell? ⟨w.heap.size + 2, 1, none⟩ = some (.slice o2 n2 m2))
        (first | exact ⟨x00, x01, x10, x11, x20, x21⟩ | go_keep)
        (first
          | (have := tok4; go_at_call 20; refine (wcmp_s _ _ (A + C) (B + C) _ _ (-1) _ c_p.gi c_q.gi HP.out (by omega) (by omega)).mono ?_; rintro e wx10 ⟨rfl, hbx⟩; replace g0 := g0.below hbx; replace g1 := g1.below hbx; replace g2 := g2.below hbx; replace c_s := c_s.below hbx; replace c_p := c_p.below hbx; replace c_q := c_q.below hbx; replace hbt := hbt.trans (hbx.mono hbt.size); replace HB_x0 := Lib.hid ((hbx.block _ (lt_of_block HB_x0.out)).trans HB_x0.out); replace HB_x1 := Lib.hid ((hbx.block _ (lt_of_block HB_x1.out)).trans HB_x1.out); replace HB_x2 := Lib.hid ((hbx.block _ (lt_of_block HB_x2.out)).trans HB_x2.out); clear hbx; replace x00 := (two_cells HB_x0.out).1; replace x01 := (two_cells HB_x0.out).2.1; replace x10 := (two_cells HB_x1.out).1; replace x11 := (two_cells HB_x1.out).2.1; replace x20 := (two_cells HB_x2.out).1; replace x21 := (two_cells HB_x2.out).2.1; have tok5 := Lib.hid trivial)
          | (have := tok3; go_at_call 14; refine (wadd_any _ _ B C 30 30 _ g1 g2 (by omega) (by omega)).mono ?_; rintro e wx9 ⟨v_q, rfl, c_q, hbx⟩; replace g0 := g0.below hbx; replace g1 := g1.below hbx; replace g2 := g2.below hbx; replace c_s := c_s.below hbx; replace c_p := c_p.below hbx; replace hbt := hbt.trans (hbx.mono hbt.size); replace HB_x0 := Lib.hid ((hbx.block _ (lt_of_block HB_x0.out)).trans HB_x0.out); replace HB_x1 := Lib.hid ((hbx.block _ (lt_of_block HB_x1.out)).trans HB_x1.out); replace HB_x2 := Lib.hid ((hbx.block _ (lt_of_block HB_x2.out)).trans HB_x2.out); clear hbx; replace x00 := (two_cells HB_x0.out).1; replace x01 := (two_cells HB_x0.out).2.1; replace x10 := (two_cells HB_x1.out).1; replace x11 := (two_cells HB_x1.out).2.1; replace x20 := (two_cells HB_x2.out).1; replace x21 := (two_cells HB_x2.out).2.1; obtain ⟨b_q, o_q, l_q, k_q, rfl⟩ := c_q.shape; have tok4 := Lib.hid trivial)
          | (have := tok2; go_at_call 14; refine (wadd_any _ _ A C 30 30 _ g0 g2 (by omega) (by omega)).mono ?_; rintro e wx8 ⟨v_p, rfl, c_p, hbx⟩; replace g0 := g0.below hbx; replace g1 := g1.below hbx; replace g2 := g2.below hbx; replace c_s := c_s.below hbx; replace hbt := hbt.trans (hbx.mono hbt.size); replace HB_x0 := Lib.hid ((hbx.block _ (lt_of_block HB_x0.out)).trans HB_x0.out); replace HB_x1 := Lib.hid ((hbx.block _ (lt_of_block HB_x1.out)).trans HB_x1.out); replace HB_x2 := Lib.hid ((hbx.block _ (lt_of_block HB_x2.out)).trans HB_x2.out); clear hbx; replace x00 := (two_cells HB_x0.out).1; replace x01 := (two_cells HB_x0.out).2.1; replace x10 := (two_cells HB_x1.out).1; replace x11 := (two_cells HB_x1.out).2.1; replace x20 := (two_cells HB_x2.out).1; replace x21 := (two_cells HB_x2.out).2.1; obtain ⟨b_p, o_p, l_p, k_p, rfl⟩ := c_p.shape; have tok3 := Lib.hid trivial)
          | (have := tok1; go_at_call 20; refine (wcmp_s _ _ B A 30 30 (1) _ g1 g0 HN.out (by omega) (by omega)).mono ?_; rintro e wx7 ⟨rfl, hbx⟩; replace g0 := g0.below hbx; replace g1 := g1.below hbx; replace g2 := g2.below hbx; replace c_s := c_s.below hbx; replace hbt := hbt.trans (hbx.mono hbt.size); replace HB_x0 := Lib.hid ((hbx.block _ (lt_of_block HB_x0.out)).trans HB_x0.out); replace HB_x1 := Lib.hid ((hbx.block _ (lt_of_block HB_x1.out)).trans HB_x1.out); replace HB_x2 := Lib.hid ((hbx.block _ (lt_of_block HB_x2.out)).trans HB_x2.out); clear hbx; replace x00 := (two_cells HB_x0.out).1; replace x01 := (two_cells HB_x0.out).2.1; replace x10 := (two_cells HB_x1.out).1; replace x11 := (two_cells HB_x1.out).2.1; replace x20 := (two_cells HB_x2.out).1; replace x21 := (two_cells HB_x2.out).2.1; have tok2 := Lib.hid trivial)
          | (have := tok0; go_at_call 23; refine (wsign_s _ (A - B) _ (-1) _ c_s.gi HX.out (by omega)).mono ?_; rintro e wx6 ⟨rfl, hbx⟩; replace g0 := g0.below hbx; replace g1 := g1.below hbx; replace g2 := g2.below hbx; replace c_s := c_s.below hbx; replace hbt := hbt.trans (hbx.mono hbt.size); replace HB_x0 := Lib.hid ((hbx.block _ (lt_of_block HB_x0.out)).trans HB_x0.out); replace HB_x1 := Lib.hid ((hbx.block _ (lt_of_block HB_x1.out)).trans HB_x1.out); replace HB_x2 := Lib.hid ((hbx.block _ (lt_of_block HB_x2.out)).trans HB_x2.out); clear hbx; replace x00 := (two_cells HB_x0.out).1; replace x01 := (two_cells HB_x0.out).2.1; replace x10 := (two_cells HB_x1.out).1; replace x11 := (two_cells HB_x1.out).2.1; replace x20 := (two_cells HB_x2.out).1; replace x21 := (two_cells HB_x2.out).2.1; have tok1 := Lib.hid trivial)
          | (skip; go_at_call 16; refine (wsub_any _ _ A B 30 30 _ g0.drew g1.drew (by omega) (by omega)).mono ?_; rintro e wx5 ⟨v_s, rfl, c_s, hbx'⟩; have hbx := undrew hbx'; clear hbx'; replace g0 := g0.below hbx; replace g1 := g1.below hbx; replace g2 := g2.below hbx; replace hbt := hbt.trans (hbx.mono hbt.size); replace HB_x0 := Lib.hid ((hbx.block _ (lt_of_block HB_x0.out)).trans HB_x0.out); replace HB_x1 := Lib.hid ((hbx.block _ (lt_of_block HB_x1.out)).trans HB_x1.out); replace HB_x2 := Lib.hid ((hbx.block _ (lt_of_block HB_x2.out)).trans HB_x2.out); clear hbx; replace x00 := (two_cells HB_x0.out).1; replace x01 := (two_cells HB_x0.out).2.1; replace x10 := (two_cells HB_x1.out).1; replace x11 := (two_cells HB_x1.out).2.1; replace x20 := (two_cells HB_x2.out).1; replace x21 := (two_cells HB_x2.out).2.1; obtain ⟨b_s, o_s, l_s, k_s, rfl⟩ := c_s.shape; have tok0 := Lib.hid trivial))
      go_wp2_with fail
      go_ret
      exact ⟨rfl, hbt⟩
    · clear HT
      have hbt := below3 w (.cells #[.bool b0, .slice o0 n0 m0] 25) (.cells #[.bool b1, .slice o1 n1 m1] 25) (.cells #[.bool b2, .slice o2 n2 m2] 25)
      have hbk := blocks3 (Below.refl (w.heap.size + 3) (((w.alloc (.cells #[.bool b0, .slice o0 n0 m0] 25)).alloc (.cells #[.bool b1, .slice o1 n1 m1] 25)).alloc (.cells #[.bool b2, .slice o2 n2 m2] 25)))
      have HB_x0 := Lib.hid hbk.1
      have HB_x1 := Lib.hid hbk.2.1
      have HB_x2 := Lib.hid hbk.2.2
      clear hbk
      replace g0 := g0.below hbt
      have x00 := (two_cells HB_x0.out).1
      have x01 := (two_cells HB_x0.out).2.1
      replace g1 := g1.below hbt
      have x10 := (two_cells HB_x1.out).1
      have x11 := (two_cells HB_x1.out).2.1
      replace g2 := g2.below hbt
      have x20 := (two_cells HB_x2.out).1
      have x21 := (two_cells HB_x2.out).2.1
      go_enter Tryd.func6, Tryd.ntmps6
      go_wp2_with fail
      generalize (((w.alloc (.cells #[.bool b0, .slice o0 n0 m0] 25)).alloc (.cells #[.bool b1, .slice o1 n1 m1] 25)).alloc (.cells #[.bool b2, .slice o2 n2 m2] 25)) = w0 at *
      refine (HF.out _ (tab_below HTB.out hbt)).mono ?_
      rintro e wx1 ⟨rfl, hbx⟩
      replace g0 := g0.below hbx
      replace g1 := g1.below hbx
      replace g2 := g2.below hbx
      replace hbt := hbt.trans (hbx.mono hbt.size)
      replace HB_x0 := Lib.hid ((hbx.block _ (lt_of_block HB_x0.out)).trans HB_x0.out)
      replace HB_x1 := Lib.hid ((hbx.block _ (lt_of_block HB_x1.out)).trans HB_x1.out)
      replace HB_x2 := Lib.hid ((hbx.block _ (lt_of_block HB_x2.out)).trans HB_x2.out)
      clear hbx
      replace x00 := (two_cells HB_x0.out).1
      replace x01 := (two_cells HB_x0.out).2.1
      replace x10 := (two_cells HB_x1.out).1
      replace x11 := (two_cells HB_x1.out).2.1
      replace x20 := (two_cells HB_x2.out).1
      replace x21 := (two_cells HB_x2.out).2.1
      go_wp2_with fail
      refine (short_t3 30 _ rfl l0 l1 l2).mono ?_
      rintro e wx2 ⟨rfl, hbx⟩
      replace g0 := g0.below hbx
      replace g1 := g1.below hbx
      replace g2 := g2.below hbx
      replace hbt := hbt.trans (hbx.mono hbt.size)
      replace HB_x0 := Lib.hid ((hbx.block _ (lt_of_block HB_x0.out)).trans HB_x0.out)
      replace HB_x1 := Lib.hid ((hbx.block _ (lt_of_block HB_x1.out)).trans HB_x1.out)
      replace HB_x2 := Lib.hid ((hbx.block _ (lt_of_block HB_x2.out)).trans HB_x2.out)
      clear hbx
      replace x00 := (two_cells HB_x0.out).1
      replace x01 := (two_cells HB_x0.out).2.1
      replace x10 := (two_cells HB_x1.out).1
      replace x11 := (two_cells HB_x1.out).2.1
      replace x20 := (two_cells HB_x2.out).1
      replace x21 := (two_cells HB_x2.out).2.1
      go_wp2_with fail
      go_region_held3 (fun w' => w'.cell? ⟨w.heap.size, 0, none⟩ = some (.bool b0) ∧ w'.cell? ⟨w.heap.size, 1, none⟩ = some (.slice o0 n0 m0) ∧ w'.cell? ⟨w.heap.size + 1, 0, none⟩ = some (.bool b1) ∧ w'.cell? ⟨w.heap.size + 1, 1, none⟩ = some (.slice o1 n1 m1) ∧ w'.cell? ⟨w.heap.size + 2, 0, none⟩ = some (.bool b2) ∧ w'.cell? ⟨w.heap.size + 2, 1, none⟩ = some (.slice o2 n2 m2))
        (first | exact ⟨x00, x01, x10, x11, x20, x21⟩ | go_keep)
        (first
          | (have := tok0; go_at_call 20; refine (wcmp_s _ _ B C 30 30 (-1) _ g1 g2 HY.out (by omega) (by omega)).mono ?_; rintro e wx4 ⟨rfl, hbx⟩; replace g0 := g0.below hbx; replace g1 := g1.below hbx; replace g2 := g2.below hbx; replace hbt := hbt.trans (hbx.mono hbt.size); replace HB_x0 := Lib.hid ((hbx.block _ (lt_of_block HB_x0.out)).trans HB_x0.out); replace HB_x1 := Lib.hid ((hbx.block _ (lt_of_block HB_x1.out)).trans HB_x1.out); replace HB_x2 := Lib.hid ((hbx.block _ (lt_of_block HB_x2.out)).trans HB_x2.out); clear hbx; replace x00 := (two_cells HB_x0.out).1; replace x01 := (two_cells HB_x0.out).2.1; replace x10 := (two_cells HB_x1.out).1; replace x11 := (two_cells HB_x1.out).2.1; replace x20 := (two_cells HB_x2.out).1; replace x21 := (two_cells HB_x2.out).2.1; have tok1 := Lib.hid trivial)
          | (skip; go_at_call 20; refine (wcmp_s _ _ A B 30 30 (0) _ g0.drew g1.drew HX.out (by omega) (by omega)).mono ?_; rintro e wx3 ⟨rfl, hbx'⟩; have hbx := undrew hbx'; clear hbx'; replace g0 := g0.below hbx; replace g1 := g1.below hbx; replace g2 := g2.below hbx; replace hbt := hbt.trans (hbx.mono hbt.size); replace HB_x0 := Lib.hid ((hbx.block _ (lt_of_block HB_x0.out)).trans HB_x0.out); replace HB_x1 := Lib.hid ((hbx.block _ (lt_of_block HB_x1.out)).trans HB_x1.out); replace HB_x2 := Lib.hid ((hbx.block _ (lt_of_block HB_x2.out)).trans HB_x2.out); clear hbx; replace x00 := (two_cells HB_x0.out).1; replace x01 := (two_cells HB_x0.out).2.1; replace x10 := (two_cells HB_x1.out).1; replace x11 := (two_cells HB_x1.out).2.1; replace x20 := (two_cells HB_x2.out).1; replace x21 := (two_cells HB_x2.out).2.1; have tok0 := Lib.hid trivial))
      go_wp2_with fail
      go_region_held3 (fun w' => w'.cell? ⟨w.heap.size, 0, none⟩ = some (.bool b0) ∧ w'.cell? ⟨w.heap.size, 1, none⟩ = some (.slice o0 n0 m0) ∧ w'.cell? ⟨w.heap.size + 1, 0, none⟩ = some (.bool b1) ∧ w'.cell? ⟨w.heap.size + 1, 1, none⟩ = some (.slice o1 n1 m1) ∧ w'.cell? ⟨w.heap.size + 2, 0, none⟩ = some (.bool b2) ∧ w'.cell? ⟨w.heap.size + 2, 1, none⟩ = some (.slice o2 n2 m2))
        (first | exact ⟨x00, x01, x10, x11, x20, x21⟩ | go_keep)
        (first
          | (have := tok4; go_at_call 20; refine (wcmp_s _ _ (A + C) (B + C) _ _ (0) _ c_p.gi c_q.gi HP.out (by omega) (by omega)).mono ?_; rintro e wx10 ⟨rfl, hbx⟩; replace g0 := g0.below hbx; replace g1 := g1.below hbx; replace g2 := g2.below hbx; replace c_s := c_s.below hbx; replace c_p := c_p.below hbx; replace c_q := c_q.below hbx; replace hbt := hbt.trans (hbx.mono hbt.size); replace HB_x0 := Lib.hid ((hbx.block _ (lt_of_block HB_x0.out)).trans HB_x0.out); replace HB_x1 := Lib.hid ((hbx.block _ (lt_of_block HB_x1.out)).trans HB_x1.out); replace HB_x2 := Lib.hid ((hbx.block _ (lt_of_block HB_x2.out)).trans HB_x2.out); clear hbx; replace x00 := (two_cells HB_x0.out).1; replace x01 := (two_cells HB_x0.out).2.1; replace x10 := (two_cells HB_x1.out).1; replace x11 := (two_cells HB_x1.out).2.1; replace x20 := (two_cells HB_x2.out).1; replace x21 := (two_cells HB_x2.out).2.1; have tok5 := Lib.hid trivial)
          | (have := tok3; go_at_call 14; refine (wadd_any _ _ B C 30 30 _ g1 g2 (by omega) (by omega)).mono ?_; rintro e wx9 ⟨v_q, rfl, c_q, hbx⟩; replace g0 := g0.below hbx; replace g1 := g1.below hbx; replace g2 := g2.below hbx; replace c_s := c_s.below hbx; replace c_p := c_p.below hbx; replace hbt := hbt.trans (hbx.mono hbt.size); replace HB_x0 := Lib.hid ((hbx.block _ (lt_of_block HB_x0.out)).trans HB_x0.out); replace HB_x1 := Lib.hid ((hbx.block _ (lt_of_block HB_x1.out)).trans HB_x1.out); replace HB_x2 := Lib.hid ((hbx.block _ (lt_of_block HB_x2.out)).trans HB_x2.out); clear hbx; replace x00 := (two_cells HB_x0.out).1; replace x01 := (two_cells HB_x0.out).2.1; replace x10 := (two_cells HB_x1.out).1; replace x11 := (two_cells HB_x1.out).2.1; replace x20 := (two_cells HB_x2.out).1; replace x21 := (two_cells HB_x2.out).2.1; obtain ⟨b_q, o_q, l_q, k_q, rfl⟩ := c_q.shape; have tok4 := Lib.hid trivial)
          | (have := tok2; go_at_call 14; refine (wadd_any _ _ A C 30 30 _ g0 g2 (by omega) (by omega)).mono ?_; rintro e wx8 ⟨v_p, rfl, c_p, hbx⟩; replace g0 := g0.below hbx; replace g1 := g1.below hbx; replace g2 := g2.below hbx; replace c_s := c_s.below hbx; replace hbt := hbt.trans (hbx.mono hbt.size); replace HB_x0 := Lib.hid ((hbx.block _ (lt_of_block HB_x0.out)).trans HB_x0.out); replace HB_x1 := Lib.hid ((hbx.block _ (lt_of_block HB_x1.out)).trans HB_x1.out); replace HB_x2 := Lib.hid ((hbx.block _ (lt_of_block HB_x2.out)).trans HB_x2.out); clear hbx; replace x00 := (two_cells HB_x0.out).1; replace x01 := (two_cells HB_x0.out).2.1; replace x10 := (two_cells HB_x1.out).1; replace x11 := (two_cells HB_x1.out).2.1; replace x20 := (two_cells HB_x2.out).1; replace x21 := (two_cells HB_x2.out).2.1; obtain ⟨b_p, o_p, l_p, k_p, rfl⟩ := c_p.shape; have tok3 := Lib.hid trivial)
          | (have := tok1; go_at_call 20; refine (wcmp_s _ _ B A 30 30 (0) _ g1 g0 HN.out (by omega) (by omega)).mono ?_; rintro e wx7 ⟨rfl, hbx⟩; replace g0 := g0.below hbx; replace g1 := g1.below hbx; replace g2 := g2.below hbx; replace c_s := c_s.below hbx; replace hbt := hbt.trans (hbx.mono hbt.size); replace HB_x0 := Lib.hid ((hbx.block _ (lt_of_block HB_x0.out)).trans HB_x0.out); replace HB_x1 := Lib.hid ((hbx.block _ (lt_of_block HB_x1.out)).trans HB_x1.out); replace HB_x2 := Lib.hid ((hbx.block _ (lt_of_block HB_x2.out)).trans HB_x2.out); clear hbx; replace x00 := (two_cells HB_x0.out).1; replace x01 := (two_cells HB_x0.out).2.1; replace x10 := (two_cells HB_x1.out).1; replace x11 := (two_cells HB_x1.out).2.1; replace x20 := (two_cells HB_x2.out).1; replace x21 := (two_cells HB_x2.out).2.1; have tok2 := Lib.hid trivial)
          | (have := tok0; go_at_call 23; refine (wsign_s _ (A - B) _ (0) _ c_s.gi HX.out (by omega)).mono ?_; rintro e wx6 ⟨rfl, hbx⟩; replace g0 := g0.below hbx; replace g1 := g1.below hbx; replace g2 := g2.below hbx; replace c_s := c_s.below hbx; replace hbt := hbt.trans (hbx.mono hbt.size); replace HB_x0 := Lib.hid ((hbx.block _ (lt_of_block HB_x0.out)).trans HB_x0.out); replace HB_x1 := Lib.hid ((hbx.block _ (lt_of_block HB_x1.out)).trans HB_x1.out); replace HB_x2 := Lib.hid ((hbx.block _ (lt_of_block HB_x2.out)).trans HB_x2.out); clear hbx; replace x00 := (two_cells HB_x0.out).1; replace x01 := (two_cells HB_x0.out).2.1; replace x10 := (two_cells HB_x1.out).1; replace x11 := (two_cells HB_x1.out).2.1; replace x20 := (two_cells HB_x2.out).1; replace x21 := (two_cells HB_x2.out).2.1; have tok1 := Lib.hid trivial)
          | (skip; go_at_call 16; refine (wsub_any _ _ A B 30 30 _ g0.drew g1.drew (by omega) (by omega)).mono ?_; rintro e wx5 ⟨v_s, rfl, c_s, hbx'⟩; have hbx := undrew hbx'; clear hbx'; replace g0 := g0.below hbx; replace g1 := g1.below hbx; replace g2 := g2.below hbx; replace hbt := hbt.trans (hbx.mono hbt.size); replace HB_x0 := Lib.hid ((hbx.block _ (lt_of_block HB_x0.out)).trans HB_x0.out); replace HB_x1 := Lib.hid ((hbx.block _ (lt_of_block HB_x1.out)).trans HB_x1.out); replace HB_x2 := Lib.hid ((hbx.block _ (lt_of_block HB_x2.out)).trans HB_x2.out); clear hbx; replace x00 := (two_cells HB_x0.out).1; replace x01 := (two_cells HB_x0.out).2.1; replace x10 := (two_cells HB_x1.out).1; replace x11 := (two_cells HB_x1.out).2.1; replace x20 := (two_cells HB_x2.out).1; replace x21 := (two_cells HB_x2.out).2.1; obtain ⟨b_s, o_s, l_s, k_s, rfl⟩ := c_s.shape; have tok0 := Lib.hid trivial))
      go_wp2_with fail
      go_ret
      exact ⟨rfl, hbt⟩
    · replace HT := Lib.hid (HT.out (by rw [HX.out]; decide) (by rw [HY.out]; decide))
      have hbt := below3 w (.cells #[.bool b0, .slice o0 n0 m0] 25) (.cells #[.bool b1, .slice o1 n1 m1] 25) (.cells #[.bool b2, .slice o2 n2 m2] 25)
      have hbk := blocks3 (Below.refl (w.heap.size + 3) (((w.alloc (.cells #[.bool b0, .slice o0 n0 m0] 25)).alloc (.cells #[.bool b1, .slice o1 n1 m1] 25)).alloc (.cells #[.bool b2, .slice o2 n2 m2] 25)))
      have HB_x0 := Lib.hid hbk.1
      have HB_x1 := Lib.hid hbk.2.1
      have HB_x2 := Lib.hid hbk.2.2
      clear hbk
      replace g0 := g0.below hbt
      have x00 := (two_cells HB_x0.out).1
      have x01 := (two_cells HB_x0.out).2.1
      replace g1 := g1.below hbt
      have x10 := (two_cells HB_x1.out).1
      have x11 := (two_cells HB_x1.out).2.1
      replace g2 := g2.below hbt
      have x20 := (two_cells HB_x2.out).1
      have x21 := (two_cells HB_x2.out).2.1
      go_enter Tryd.func6, Tryd.ntmps6
      go_wp2_with fail
      generalize (((w.alloc (.cells #[.bool b0, .slice o0 n0 m0] 25)).alloc (.cells #[.bool b1, .slice o1 n1 m1] 25)).alloc (.cells #[.bool b2, .slice o2 n2 m2] 25)) = w0 at *
      refine (HF.out _ (tab_below HTB.out hbt)).mono ?_
      rintro e wx1 ⟨rfl, hbx⟩
      replace g0 := g0.below hbx
      replace g1 := g1.below hbx
      replace g2 := g2.below hbx
      replace hbt := hbt.trans (hbx.mono hbt.size)
      replace HB_x0 := Lib.hid ((hbx.block _ (lt_of_block HB_x0.out)).trans HB_x0.out)
      replace HB_x1 := Lib.hid ((hbx.block _ (lt_of_block HB_x1.out)).trans HB_x1.out)
      replace HB_x2 := Lib.hid ((hbx.block _ (lt_of_block HB_x2.out)).trans HB_x2.out)
      clear hbx
      replace x00 := (two_cells HB_x0.out).1
      replace x01 := (two_cells HB_x0.out).2.1
      replace x10 := (two_cells HB_x1.out).1
      replace x11 := (two_cells HB_x1.out).2.1
      replace x20 := (two_cells HB_x2.out).1
      replace x21 := (two_cells HB_x2.out).2.1
      go_wp2_with fail
      refine (short_t3 30 _ rfl l0 l1 l2).mono ?_
      rintro e wx2 ⟨rfl, hbx⟩
      replace g0 := g0.below hbx
      replace g1 := g1.below hbx
      replace g2 := g2.below hbx
      replace hbt := hbt.trans (hbx.mono hbt.size)
      replace HB_x0 := Lib.hid ((hbx.block _ (lt_of_block HB_x0.out)).trans HB_x0.out)
      replace HB_x1 := Lib.hid ((hbx.block _ (lt_of_block HB_x1.out)).trans HB_x1.out)
      replace HB_x2 := Lib.hid ((hbx.block _ (lt_of_block HB_x2.out)).trans HB_x2.out)
      clear hbx
      replace x00 := (two_cells HB_x0.out).1
      replace x01 := (two_cells HB_x0.out).2.1
      replace x10 := (two_cells HB_x1.out).1
      replace x11 := (two_cells HB_x1.out).2.1
      replace x20 := (two_cells HB_x2.out).1
      replace x21 := (two_cells HB_x2.out).2.1
      go_wp2_with fail
      go_region_held3 (fun w' => w'.cell? ⟨w.heap.size, 0, none⟩ = some (.bool b0) ∧ w'.cell? ⟨w.heap.size, 1, none⟩ = some (.slice o0 n0 m0) ∧ w'.cell? ⟨w.heap.size + 1, 0, none⟩ = some (.bool b1) ∧ w'.cell? ⟨w.heap.size + 1, 1, none⟩ = some (.slice o1 n1 m1) ∧ w'.cell? ⟨w.heap.size + 2, 0, none⟩ = some (.bool b2) ∧ w'.cell? ⟨w.heap.size + 2, 1, none⟩ = some (.slice o2 n2 m2))
        (first | exact ⟨x00, x01, x10, x11, x20, x21⟩ | go_keep)
        (first
          | (have := tok0; go_at_call 20; refine (wcmp_s _ _ B C 30 30 (0) _ g1 g2 HY.out (by omega) (by omega)).mono ?_; rintro e wx4 ⟨rfl, hbx⟩; replace g0 := g0.below hbx; replace g1 := g1.below hbx; replace g2 := g2.below hbx; replace hbt := hbt.trans (hbx.mono hbt.size); replace HB_x0 := Lib.hid ((hbx.block _ (lt_of_block HB_x0.out)).trans HB_x0.out); replace HB_x1 := Lib.hid ((hbx.block _ (lt_of_block HB_x1.out)).trans HB_x1.out); replace HB_x2 := Lib.hid ((hbx.block _ (lt_of_block HB_x2.out)).trans HB_x2.out); clear hbx; replace x00 := (two_cells HB_x0.out).1; replace x01 := (two_cells HB_x0.out).2.1; replace x10 := (two_cells HB_x1.out).1; replace x11 := (two_cells HB_x1.out).2.1; replace x20 := (two_cells HB_x2.out).1; replace x21 := (two_cells HB_x2.out).2.1; have tok1 := Lib.hid trivial)
          | (skip; go_at_call 20; refine (wcmp_s _ _ A B 30 30 (0) _ g0.drew g1.drew HX.out (by omega) (by omega)).mono ?_; rintro e wx3 ⟨rfl, hbx'⟩; have hbx := undrew hbx'; clear hbx'; replace g0 := g0.below hbx; replace g1 := g1.below hbx; replace g2 := g2.below hbx; replace hbt := hbt.trans (hbx.mono hbt.size); replace HB_x0 := Lib.hid ((hbx.block _ (lt_of_block HB_x0.out)).trans HB_x0.out); replace HB_x1 := Lib.hid ((hbx.block _ (lt_of_block HB_x1.out)).trans HB_x1.out); replace HB_x2 := Lib.hid ((hbx.block _ (lt_of_block HB_x2.out)).trans HB_x2.out); clear hbx; replace x00 := (two_cells HB_x0.out).1; replace x01 := (two_cells HB_x0.out).2.1; replace x10 := (two_cells HB_x1.out).1; replace x11 := (two_cells HB_x1.out).2.1; replace x20 := (two_cells HB_x2.out).1; replace x21 := (two_cells HB_x2.out).2.1; have tok0 := Lib.hid trivial))
      go_wp2_with fail
      go_region_held3 (fun w' => w'.cell? ⟨w.heap.size, 0, none⟩ = some (.bool b0) ∧ w'.cell? ⟨w.heap.size, 1, none⟩ = some (.slice o0 n0 m0) ∧ w'.cell? ⟨w.heap.size + 1, 0, none⟩ = some (.bool b1) ∧ w'.cell? ⟨w.heap.size + 1, 1, none⟩ = some (.slice o1 n1 m1) ∧ w'.cell? ⟨w.heap.size + 2, 0, none⟩ = some (.bool b2) ∧ w'.cell? ⟨w.heap.size + 2, 1, none⟩ = some (.slice o2 n2 m2))
        (first | exact ⟨x00, x01, x10, x11, x20, x21⟩ | go_keep)
        (first
          | (have := tok4; go_at_call 20; refine (wcmp_s _ _ (A + C) (B + C) _ _ (0) _ c_p.gi c_q.gi HP.out (by omega) (by omega)).mono ?_; rintro e wx10 ⟨rfl, hbx⟩; replace g0 := g0.below hbx; replace g1 := g1.below hbx; replace g2 := g2.below hbx; replace c_s := c_s.below hbx; replace c_p := c_p.below hbx; replace c_q := c_q.below hbx; replace hbt := hbt.trans (hbx.mono hbt.size); replace HB_x0 := Lib.hid ((hbx.block _ (lt_of_block HB_x0.out)).trans HB_x0.out); replace HB_x1 := Lib.hid ((hbx.block _ (lt_of_block HB_x1.out)).trans HB_x1.out); replace HB_x2 := Lib.hid ((hbx.block _ (lt_of_block HB_x2.out)).trans HB_x2.out); clear hbx; replace x00 := (two_cells HB_x0.out).1; replace x01 := (two_cells HB_x0.out).2.1; replace x10 := (two_cells HB_x1.out).1; replace x11 := (two_cells HB_x1.out).2.1; replace x20 := (two_cells HB_x2.out).1; replace x21 := (two_cells HB_x2.out).2.1; have tok5 := Lib.hid trivial)
          | (have := tok3; go_at_call 14; refine (wadd_any _ _ B C 30 30 _ g1 g2 (by omega) (by omega)).mono ?_; rintro e wx9 ⟨v_q, rfl, c_q, hbx⟩; replace g0 := g0.below hbx; replace g1 := g1.below hbx; replace g2 := g2.below hbx; replace c_s := c_s.below hbx; replace c_p := c_p.below hbx; replace hbt := hbt.trans (hbx.mono hbt.size); replace HB_x0 := Lib.hid ((hbx.block _ (lt_of_block HB_x0.out)).trans HB_x0.out); replace HB_x1 := Lib.hid ((hbx.block _ (lt_of_block HB_x1.out)).trans HB_x1.out); replace HB_x2 := Lib.hid ((hbx.block _ (lt_of_block HB_x2.out)).trans HB_x2.out); clear hbx; replace x00 := (two_cells HB_x0.out).1; replace x01 := (two_cells HB_x0.out).2.1; replace x10 := (two_cells HB_x1.out).1; replace x11 := (two_cells HB_x1.out).2.1; replace x20 := (two_cells HB_x2.out).1; replace x21 := (two_cells HB_x2.out).2.1; obtain ⟨b_q, o_q, l_q, k_q, rfl⟩ := c_q.shape; have tok4 := Lib.hid trivial)
          | (have := tok2; go_at_call 14; refine (wadd_any _ _ A C 30 30 _ g0 g2 (by omega) (by omega)).mono ?_; rintro e wx8 ⟨v_p, rfl, c_p, hbx⟩; replace g0 := g0.below hbx; replace g1 := g1.below hbx; replace g2 := g2.below hbx; replace c_s := c_s.below hbx; replace hbt := hbt.trans (hbx.mono hbt.size); replace HB_x0 := Lib.hid ((hbx.block _ (lt_of_block HB_x0.out)).trans HB_x0.out); replace HB_x1 := Lib.hid ((hbx.block _ (lt_of_block HB_x1.out)).trans HB_x1.out); replace HB_x2 := Lib.hid ((hbx.block _ (lt_of_block HB_x2.out)).trans HB_x2.out); clear hbx; replace x00 := (two_cells HB_x0.out).1; replace x01 := (two_cells HB_x0.out).2.1; replace x10 := (two_cells HB_x1.out).1; replace x11 := (two_cells HB_x1.out).2.1; replace x20 := (two_cells HB_x2.out).1; replace x21 := (two_cells HB_x2.out).2.1; obtain ⟨b_p, o_p, l_p, k_p, rfl⟩ := c_p.shape; have tok3 := Lib.hid trivial)
          | (have := tok1; go_at_call 20; refine (wcmp_s _ _ B A 30 30 (0) _ g1 g0 HN.out (by omega) (by omega)).mono ?_; rintro e wx7 ⟨rfl, hbx⟩; replace g0 := g0.below hbx; replace g1 := g1.below hbx; replace g2 := g2.below hbx; replace c_s := c_s.below hbx; replace hbt := hbt.trans (hbx.mono hbt.size); replace HB_x0 := Lib.hid ((hbx.block _ (lt_of_block HB_x0.out)).trans HB_x0.out); replace HB_x1 := Lib.hid ((hbx.block _ (lt_of_block HB_x1.out)).trans HB_x1.out); replace HB_x2 := Lib.hid ((hbx.block _ (lt_of_block HB_x2.out)).trans HB_x2.out); clear hbx; replace x00 := (two_cells HB_x0.out).1; replace x01 := (two_cells HB_x0.out).2.1; replace x10 := (two_cells HB_x1.out).1; replace x11 := (two_cells HB_x1.out).2.1; replace x20 := (two_cells HB_x2.out).1; replace x21 := (two_cells HB_x2.out).2.1; have tok2 := Lib.hid trivial)
          | (have := tok0; go_at_call 23; refine (wsign_s _ (A - B) _ (0) _ c_s.gi HX.out (by omega)).mono ?_; rintro e wx6 ⟨rfl, hbx⟩; replace g0 := g0.below hbx; replace g1 := g1.below hbx; replace g2 := g2.below hbx; replace c_s := c_s.below hbx; replace hbt := hbt.trans (hbx.mono hbt.size); replace HB_x0 := Lib.hid ((hbx.block _ (lt_of_block HB_x0.out)).trans HB_x0.out); replace HB_x1 := Lib.hid ((hbx.block _ (lt_of_block HB_x1.out)).trans HB_x1.out); replace HB_x2 := Lib.hid ((hbx.block _ (lt_of_block HB_x2.out)).trans HB_x2.out); clear hbx; replace x00 := (two_cells HB_x0.out).1; replace x01 := (two_cells HB_x0.out).2.1; replace x10 := (two_cells HB_x1.out).1; replace x11 := (two_cells HB_x1.out).2.1; replace x20 := (two_cells HB_x2.out).1; replace x21 := (two_cells HB_x2.out).2.1; have tok1 := Lib.hid trivial)
          | (skip; go_at_call 16; refine (wsub_any _ _ A B 30 30 _ g0.drew g1.drew (by omega) (by omega)).mono ?_; rintro e wx5 ⟨v_s, rfl, c_s, hbx'⟩; have hbx := undrew hbx'; clear hbx'; replace g0 := g0.below hbx; replace g1 := g1.below hbx; replace g2 := g2.below hbx; replace hbt := hbt.trans (hbx.mono hbt.size); replace HB_x0 := Lib.hid ((hbx.block _ (lt_of_block HB_x0.out)).trans HB_x0.out); replace HB_x1 := Lib.hid ((hbx.block _ (lt_of_block HB_x1.out)).trans HB_x1.out); replace HB_x2 := Lib.hid ((hbx.block _ (lt_of_block HB_x2.out)).trans HB_x2.out); clear hbx; replace x00 := (two_cells HB_x0.out).1; replace x01 := (two_cells HB_x0.out).2.1; replace x10 := (two_cells HB_x1.out).1; replace x11 := (two_cells HB_x1.out).2.1; replace x20 := (two_cells HB_x2.out).1; replace x21 := (two_cells HB_x2.out).2.1; obtain ⟨b_s, o_s, l_s, k_s, rfl⟩ := c_s.shape; have tok0 := Lib.hid trivial))
      go_wp2_with fail
      refine (wcmp_any _ _ A C 30 30 _ g0 g2 (by omega) (by omega)).mono ?_
      rintro e wx11 ⟨rfl, hbx⟩
      replace g0 := g0.below hbx
      replace g1 := g1.below hbx
      replace g2 := g2.below hbx
      replace c_s := c_s.below hbx
      replace c_p := c_p.below hbx
      replace c_q := c_q.below hbx
      replace hbt := hbt.trans (hbx.mono hbt.size)
      replace HB_x0 := Lib.hid ((hbx.block _ (lt_of_block HB_x0.out)).trans HB_x0.out)
      replace HB_x1 := Lib.hid ((hbx.block _ (lt_of_block HB_x1.out)).trans HB_x1.out)
      replace HB_x2 := Lib.hid ((hbx.block _ (lt_of_block HB_x2.out)).trans HB_x2.out)
      clear hbx
      replace x00 := (two_cells HB_x0.out).1
      replace x01 := (two_cells HB_x0.out).2.1
      replace x10 := (two_cells HB_x1.out).1
      replace x11 := (two_cells HB_x1.out).2.1
      replace x20 := (two_cells HB_x2.out).1
      replace x21 := (two_cells HB_x2.out).2.1
      have hfin := HT.out
      go_wp2_with fail
      go_ret
      exact ⟨rfl, hbt⟩
    · replace HT := Lib.hid (HT.out (by rw [HX.out]; decide) (by rw [HY.out]; decide))
      have hbt := below3 w (.cells #[.bool b0, .slice o0 n0 m0] 25) (.cells #[.bool b1, .slice o1 n1 m1] 25) (.cells #[.bool b2, .slice o2 n2 m2] 25)
      have hbk := blocks3 (Below.refl (w.heap.size + 3) (((w.alloc (.cells #[.bool b0, .slice o0 n0 m0] 25)).alloc (.cells #[.bool b1, .slice o1 n1 m1] 25)).alloc (.cells #[.bool b2, .slice o2 n2 m2] 25)))
      have HB_x0 := Lib.hid hbk.1
      have HB_x1 := Lib.hid hbk.2.1
      have HB_x2 := Lib.hid hbk.2.2
      clear hbk
      replace g0 := g0.below hbt
      have x00 := (two_cells HB_x0.out).1
      have x01 := (two_cells HB_x0.out).2.1
      replace g1 := g1.below hbt
      have x10 := (two_cells HB_x1.out).1
      have x11 := (two_cells HB_x1.out).2.1
      replace g2 := g2.below hbt
      have x20 := (two_cells HB_x2.out).1
      have x21 := (two_cells HB_x2.out).2.1
      go_enter Tryd.func6, Tryd.ntmps6
      go_wp2_with fail
      generalize (((w.alloc (.cells #[.bool b0, .slice o0 n0 m0] 25)).alloc (.cells #[.bool b1, .slice o1 n1 m1] 25)).alloc (.cells #[.bool b2, .slice o2 n2 m2] 25)) = w0 at *
      refine (HF.out _ (tab_below HTB.out hbt)).mono ?_
      rintro e wx1 ⟨rfl, hbx⟩
      replace g0 := g0.below hbx
      replace g1 := g1.below hbx
      replace g2 := g2.below hbx
      replace hbt := hbt.trans (hbx.mono hbt.size)
      replace HB_x0 := Lib.hid ((hbx.block _ (lt_of_block HB_x0.out)).trans HB_x0.out)
      replace HB_x1 := Lib.hid ((hbx.block _ (lt_of_block HB_x1.out)).trans HB_x1.out)
      replace HB_x2 := Lib.hid ((hbx.block _ (lt_of_block HB_x2.out)).trans HB_x2.out)
      clear hbx
      replace x00 := (two_cells HB_x0.out).1
      replace x01 := (two_cells HB_x0.out).2.1
      replace x10 := (two_cells HB_x1.out).1
      replace x11 := (two_cells HB_x1.out).2.1
      replace x20 := (two_cells HB_x2.out).1
      replace x21 := (two_cells HB_x2.out).2.1
      go_wp2_with fail
      refine (short_t3 30 _ rfl l0 l1 l2).mono ?_
      rintro e wx2 ⟨rfl, hbx⟩
      replace g0 := g0.below hbx
      replace g1 := g1.below hbx
      replace g2 := g2.below hbx
      replace hbt := hbt.trans (hbx.mono hbt.size)
      replace HB_x0 := Lib.hid ((hbx.block _ (lt_of_block HB_x0.out)).trans HB_x0.out)
      replace HB_x1 := Lib.hid ((hbx.block _ (lt_of_block HB_x1.out)).trans HB_x1.out)
      replace HB_x2 := Lib.hid ((hbx.block _ (lt_of_block HB_x2.out)).trans HB_x2.out)
      clear hbx
      replace x00 := (two_cells HB_x0.out).1
      replace x01 := (two_cells HB_x0.out).2.1
      replace x10 := (two_cells HB_x1.out).1
      replace x11 := (two_cells HB_x1.out).2.1
      replace x20 := (two_cells HB_x2.out).1
      replace x21 := (two_cells HB_x2.out).2.1
      go_wp2_with fail
      go_region_held3 (fun w' => w'.cell? ⟨w.heap.size, 0, none⟩ = some (.bool b0) ∧ w'.cell? ⟨w.heap.size, 1, none⟩ = some (.slice o0 n0 m0) ∧ w'.cell? ⟨w.heap.size + 1, 0, none⟩ = some (.bool b1) ∧ w'.cell? ⟨w.heap.size + 1, 1, none⟩ = some (.slice o1 n1 m1) ∧ w'.cell? ⟨w.heap.size + 2, 0, none⟩ = some (.bool b2) ∧ w'.cell? ⟨w.heap.size + 2, 1, none⟩ = some (.slice o2 n2 m2))
        (first | exact ⟨x00, x01, x10, x11, x20, x21⟩ | go_keep)
        (first
          | (have := tok0; go_at_call 20; refine (wcmp_s _ _ B C 30 30 (1) _ g1 g2 HY.out (by omega) (by omega)).mono ?_; rintro e wx4 ⟨rfl, hbx⟩; replace g0 := g0.below hbx; replace g1 := g1.below hbx; replace g2 := g2.below hbx; replace hbt := hbt.trans (hbx.mono hbt.size); replace HB_x0 := Lib.hid ((hbx.block _ (lt_of_block HB_x0.out)).trans HB_x0.out); replace HB_x1 := Lib.hid ((hbx.block _ (lt_of_block HB_x1.out)).trans HB_x1.out); replace HB_x2 := Lib.hid ((hbx.block _ (lt_of_block HB_x2.out)).trans HB_x2.out); clear hbx; replace x00 := (two_cells HB_x0.out).1; replace x01 := (two_cells HB_x0.out).2.1; replace x10 := (two_cells HB_x1.out).1; replace x11 := (two_cells HB_x1.out).2.1; replace x20 := (two_cells HB_x2.out).1; replace x21 := (two_cells HB_x2.out).2.1; have tok1 := Lib.hid trivial)
          | (skip; go_at_call 20; refine (wcmp_s _ _ A B 30 30 (0) _ g0.drew g1.drew HX.out (by omega) (by omega)).mono ?_; rintro e wx3 ⟨rfl, hbx'⟩; have hbx := undrew hbx'; clear hbx'; replace g0 := g0.below hbx; replace g1 := g1.below hbx; replace g2 := g2.below hbx; replace hbt := hbt.trans (hbx.mono hbt.size); replace HB_x0 := Lib.hid ((hbx.block _ (lt_of_block HB_x0.out)).trans HB_x0.out); replace HB_x1 := Lib.hid ((hbx.block _ (lt_of_block HB_x1.out)).trans HB_x1.out); replace HB_x2 := Lib.hid ((hbx.block _ (lt_of_block HB_x2.out)).trans HB_x2.out); clear hbx; replace x00 := (two_cells HB_x0.out).1; replace x01 := (two_cells HB_x0.out).2.1; replace x10 := (two_cells HB_x1.out).1; replace x11 := (two_cells HB_x1.out).2.1; replace x20 := (two_cells HB_x2.out).1; replace x21 := (two_cells HB_x2.out).2.1; have tok0 := Lib.hid trivial))
      go_wp2_with fail
      go_region_held3 (fun w' => w'.cell? ⟨w.heap.size, 0, none⟩ = some (.bool b0) ∧ w'.cell? ⟨w.heap.size, 1, none⟩ = some (.slice o0 n0 m0) ∧ w'.cell? ⟨w.heap.size + 1, 0, none⟩ = some (.bool b1) ∧ w'.cell? ⟨w.heap.size + 1, 1, none⟩ = some (.slice o1 n1 m1) ∧ w'.cell? ⟨w.heap.size + 2, 0, none⟩ = some (.bool b2) ∧ w'.cell? ⟨w.heap.size + 2, 1, none⟩ = some (.slice o2 n2 m2))
        (first | exact ⟨x00, x01, x10, x11, x20, x21⟩ | go_keep)
        (first
          | (have := tok4; go_at_call 20; refine (wcmp_s _ _ (A + C) (B + C) _ _ (0) _ c_p.gi c_q.gi HP.out (by omega) (by omega)).mono ?_; rintro e wx10 ⟨rfl, hbx⟩; replace g0 := g0.below hbx; replace g1 := g1.below hbx; replace g2 := g2.below hbx; replace c_s := c_s.below hbx; replace c_p := c_p.below hbx; replace c_q := c_q.below hbx; replace hbt := hbt.trans (hbx.mono hbt.size); replace HB_x0 := Lib.hid ((hbx.block _ (lt_of_block HB_x0.out)).trans HB_x0.out); replace HB_x1 := Lib.hid ((hbx.block _ (lt_of_block HB_x1.out)).trans HB_x1.out); replace HB_x2 := Lib.hid ((hbx.block _ (lt_of_block HB_x2.out)).trans HB_x2.out); clear hbx; replace x00 := (two_cells HB_x0.out).1; replace x01 := (two_cells HB_x0.out).2.1; replace x10 := (two_cells HB_x1.out).1; replace x11 := (two_cells HB_x1.out).2.1; replace x20 := (two_cells HB_x2.out).1; replace x21 := (two_cells HB_x2.out).2.1; have tok5 := Lib.hid trivial)
          | (have := tok3; go_at_call 14; refine (wadd_any _ _ B C 30 30 _ g1 g2 (by omega) (by omega)).mono ?_; rintro e wx9 ⟨v_q, rfl, c_q, hbx⟩; replace g0 := g0.below hbx; replace g1 := g1.below hbx; replace g2 := g2.below hbx; replace c_s := c_s.below hbx; replace c_p := c_p.below hbx; replace hbt := hbt.trans (hbx.mono hbt.size); replace HB_x0 := Lib.hid ((hbx.block _ (lt_of_block HB_x0.out)).trans HB_x0.out); replace HB_x1 := Lib.hid ((hbx.block _ (lt_of_block HB_x1.out)).trans HB_x1.out); replace HB_x2 := Lib.hid ((hbx.block _ (lt_of_block HB_x2.out)).trans HB_x2.out); clear hbx; replace x00 := (two_cells HB_x0.out).1; replace x01 := (two_cells HB_x0.out).2.1; replace x10 := (two_cells HB_x1.out).1; replace x11 := (two_cells HB_x1.out).2.1; replace x20 := (two_cells HB_x2.out).1; replace x21 := (two_cells HB_x2.out).2.1; obtain ⟨b_q, o_q, l_q, k_q, rfl⟩ := c_q.shape; have tok4 := Lib.hid trivial)
          | (have := tok2; go_at_call 14; refine (wadd_any _ _ A C 30 30 _ g0 g2 (by omega) (by omega)).mono ?_; rintro e wx8 ⟨v_p, rfl, c_p, hbx⟩; replace g0 := g0.below hbx; replace g1 := g1.below hbx; replace g2 := g2.below hbx; replace c_s := c_s.below hbx; replace hbt := hbt.trans (hbx.mono hbt.size); replace HB_x0 := Lib.hid ((hbx.block _ (lt_of_block HB_x0.out)).trans HB_x0.out); replace HB_x1 := Lib.hid ((hbx.block _ (lt_of_block HB_x1.out)).trans HB_x1.out); replace HB_x2 := Lib.hid ((hbx.block _ (lt_of_block HB_x2.out)).trans HB_x2.out); clear hbx; replace x00 := (two_cells HB_x0.out).1; replace x01 := (two_cells HB_x0.out).2.1; replace x10 := (two_cells HB_x1.out).1; replace x11 := (two_cells HB_x1.out).2.1; replace x20 := (two_cells HB_x2.out).1; replace x21 := (two_cells HB_x2.out).2.1; obtain ⟨b_p, o_p, l_p, k_p, rfl⟩ := c_p.shape; have tok3 := Lib.hid trivial)
          | (have := tok1; go_at_call 20; refine (wcmp_s _ _ B A 30 30 (0) _ g1 g0 HN.out (by omega) (by omega)).mono ?_; rintro e wx7 ⟨rfl, hbx⟩; replace g0 := g0.below hbx; replace g1 := g1.below hbx; replace g2 := g2.below hbx; replace c_s := c_s.below hbx; replace hbt := hbt.trans (hbx.mono hbt.size); replace HB_x0 := Lib.hid ((hbx.block _ (lt_of_block HB_x0.out)).trans HB_x0.out); replace HB_x1 := Lib.hid ((hbx.block _ (lt_of_block HB_x1.out)).trans HB_x1.out); replace HB_x2 := Lib.hid ((hbx.block _ (lt_of_block HB_x2.out)).trans HB_x2.out); clear hbx; replace x00 := (two_cells HB_x0.out).1; replace x01 := (two_cells HB_x0.out).2.1; replace x10 := (two_cells HB_x1.out).1; replace x11 := (two_cells HB_x1.out).2.1; replace x20 := (two_cells HB_x2.out).1; replace x21 := (two_cells HB_x2.out).2.1; have tok2 := Lib.hid trivial)
          | (have := tok0; go_at_call 23; refine (wsign_s _ (A - B) _ (0) _ c_s.gi HX.out (by omega)).mono ?_; rintro e wx6 ⟨rfl, hbx⟩; replace g0 := g0.below hbx; replace g1 := g1.below hbx; replace g2 := g2.below hbx; replace c_s := c_s.below hbx; replace hbt := hbt.trans (hbx.mono hbt.size); replace HB_x0 := Lib.hid ((hbx.block _ (lt_of_block HB_x0.out)).trans HB_x0.out); replace HB_x1 := Lib.hid ((hbx.block _ (lt_of_block HB_x1.out)).trans HB_x1.out); replace HB_x2 := Lib.hid ((hbx.block _ (lt_of_block HB_x2.out)).trans HB_x2.out); clear hbx; replace x00 := (two_cells HB_x0.out).1; replace x01 := (two_cells HB_x0.out).2.1; replace x10 := (two_cells HB_x1.out).1; replace x11 := (two_cells HB_x1.out).2.1; replace x20 := (two_cells HB_x2.out).1; replace x21 := (two_cells HB_x2.out).2.1; have tok1 := Lib.hid trivial)
          | (skip; go_at_call 16; refine (wsub_any _ _ A B 30 30 _ g0.drew g1.drew (by omega) (by omega)).mono ?_; rintro e wx5 ⟨v_s, rfl, c_s, hbx'⟩; have hbx := undrew hbx'; clear hbx'; replace g0 := g0.below hbx; replace g1 := g1.below hbx; replace g2 := g2.below hbx; replace hbt := hbt.trans (hbx.mono hbt.size); replace HB_x0 := Lib.hid ((hbx.block _ (lt_of_block HB_x0.out)).trans HB_x0.out); replace HB_x1 := Lib.hid ((hbx.block _ (lt_of_block HB_x1.out)).trans HB_x1.out); replace HB_x2 := Lib.hid ((hbx.block _ (lt_of_block HB_x2.out)).trans HB_x2.out); clear hbx; replace x00 := (two_cells HB_x0.out).1; replace x01 := (two_cells HB_x0.out).2.1; replace x10 := (two_cells HB_x1.out).1; replace x11 := (two_cells HB_x1.out).2.1; replace x20 := (two_cells HB_x2.out).1; replace x21 := (two_cells HB_x2.out).2.1; obtain ⟨b_s, o_s, l_s, k_s, rfl⟩ := c_s.shape; have tok0 := Lib.hid trivial))
      go_wp2_with fail
      refine (wcmp_any _ _ A C 30 30 _ g0 g2 (by omega) (by omega)).mono ?_
      rintro e wx11 ⟨rfl, hbx⟩
      replace g0 := g0.below hbx
      replace g1 := g1.below hbx
      replace g2 := g2.below hbx
      replace c_s := c_s.below hbx
      replace c_p := c_p.below hbx
      replace c_q := c_q.below hbx
      replace hbt := hbt.trans (hbx.mono hbt.size)
      replace HB_x0 := Lib.hid ((hbx.block _ (lt_of_block HB_x0.out)).trans HB_x0.out)
      replace HB_x1 := Lib.hid ((hbx.block _ (lt_of_block HB_x1.out)).trans HB_x1.out)
      replace HB_x2 := Lib.hid ((hbx.block _ (lt_of_block HB_x2.out)).trans HB_x2.out)
      clear hbx
      replace x00 := (two_cells HB_x0.out).1
      replace x01 := (two_cells HB_x0.out).2.1
      replace x10 := (two_cells HB_x1.out).1
      replace x11 := (two_cells HB_x1.out).2.1
      replace x20 := (two_cells HB_x2.out).1
      replace x21 := (two_cells HB_x2.out).2.1
      have hfin := HT.out
      go_wp2_with fail
      go_ret
      exact ⟨rfl, hbt⟩
    · clear HT
      have hbt := below3 w (.cells #[.bool b0, .slice o0 n0 m0] 25) (.cells #[.bool b1, .slice o1 n1 m1] 25) (.cells #[.bool b2, .slice o2 n2 m2] 25)
      have hbk := blocks3 (Below.refl (w.heap.size + 3) (((w.alloc (.cells #[.bool b0, .slice o0 n0 m0] 25)).alloc (.cells #[.bool b1, .slice o1 n1 m1] 25)).alloc (.cells #[.bool b2, .slice o2 n2 m2] 25)))
      have HB_x0 := Lib.hid hbk.1
      have HB_x1 := Lib.hid hbk.2.1
      have HB_x2 := Lib.hid hbk.2.2
      clear hbk
      replace g0 := g0.below hbt
      have x00 := (two_cells HB_x0.out).1
      have x01 := (two_cells HB_x0.out).2.1
      replace g1 := g1.below hbt
      have x10 := (two_cells HB_x1.out).1
      have x11 := (two_cells HB_x1.out).2.1
      replace g2 := g2.below hbt
      have x20 := (two_cells HB_x2.out).1
      have x21 := (two_cells HB_x2.out).2.1
      go_enter Tryd.func6, Tryd.ntmps6
      go_wp2_with fail
      generalize (((w.alloc (.cells #[.bool b0, .slice o0 n0 m0] 25)).alloc (.cells #[.bool b1, .slice o1 n1 m1] 25)).alloc (.cells #[.bool b2, .slice o2 n2 m2] 25)) = w0 at *
      refine (HF.out _ (tab_below HTB.out hbt)).mono ?_
      rintro e wx1 ⟨rfl, hbx⟩
      replace g0 := g0.below hbx
      replace g1 := g1.below hbx
      replace g2 := g2.below hbx
      replace hbt := hbt.trans (hbx.mono hbt.size)
      replace HB_x0 := Lib.hid ((hbx.block _ (lt_of_block HB_x0.out)).trans HB_x0.out)
      replace HB_x1 := Lib.hid ((hbx.block _ (lt_of_block HB_x1.out)).trans HB_x1.out)
      replace HB_x2 := Lib.hid ((hbx.block _ (lt_of_block HB_x2.out)).trans HB_x2.out)
      clear hbx
      replace x00 := (two_cells HB_x0.out).1
      replace x01 := (two_cells HB_x0.out).2.1
      replace x10 := (two_cells HB_x1.out).1
      replace x11 := (two_cells HB_x1.out).2.1
      replace x20 := (two_cells HB_x2.out).1
      replace x21 := (two_cells HB_x2.out).2.1
      go_wp2_with fail
      refine (short_t3 30 _ rfl l0 l1 l2).mono ?_
      rintro e wx2 ⟨rfl, hbx⟩
      replace g0 := g0.below hbx
      replace g1 := g1.below hbx
      replace g2 := g2.below hbx
      replace hbt := hbt.trans (hbx.mono hbt.size)
      replace HB_x0 := Lib.hid ((hbx.block _ (lt_of_block HB_x0.out)).trans HB_x0.out)
      replace HB_x1 := Lib.hid ((hbx.block _ (lt_of_block HB_x1.out)).trans HB_x1.out)
      replace HB_x2 := Lib.hid ((hbx.block _ (lt_of_block HB_x2.out)).trans HB_x2.out)
      clear hbx
      replace x00 := (two_cells HB_x0.out).1
      replace x01 := (two_cells HB_x0.out).2.1
      replace x10 := (two_cells HB_x1.out).1
      replace x11 := (two_cells HB_x1.out).2.1
      replace x20 := (two_cells HB_x2.out).1
      replace x21 := (two_cells HB_x2.out).2.1
      go_wp2_with fail
      go_region_held3 (fun w' => w'.cell? ⟨w.heap.size, 0, none⟩ = some (.bool b0) ∧ w'.cell? ⟨w.heap.size, 1, none⟩ = some (.slice o0 n0 m0) ∧ w'.cell? ⟨w.heap.size + 1, 0, none⟩ = some (.bool b1) ∧ w'.cell? ⟨w.heap.size + 1, 1, none⟩ = some (.slice o1 n1 m1) ∧ w'.cell? ⟨w.heap.size + 2, 0, none⟩ = some (.bool b2) ∧ w'.cell? ⟨w.heap.size + 2, 1, none⟩ = some (.slice o2 n2 m2))
        (first | exact ⟨x00, x01, x10, x11, x20, x21⟩ | go_keep)
        (first
          | (have := tok0; go_at_call 20; refine (wcmp_s _ _ B C 30 30 (-1) _ g1 g2 HY.out (by omega) (by omega)).mono ?_; rintro e wx4 ⟨rfl, hbx⟩; replace g0 := g0.below hbx; replace g1 := g1.below hbx; replace g2 := g2.below hbx; replace hbt := hbt.trans (hbx.mono hbt.size); replace HB_x0 := Lib.hid ((hbx.block _ (lt_of_block HB_x0.out)).trans HB_x0.out); replace HB_x1 := Lib.hid ((hbx.block _ (lt_of_block HB_x1.out)).trans HB_x1.out); replace HB_x2 := Lib.hid ((hbx.block _ (lt_of_block HB_x2.out)).trans HB_x2.out); clear hbx; replace x00 := (two_cells HB_x0.out).1; replace x01 := (two_cells HB_x0.out).2.1; replace x10 := (two_cells HB_x1.out).1; replace x11 := (two_cells HB_x1.out).2.1; replace x20 := (two_cells HB_x2.out).1; replace x21 := (two_cells HB_x2.out).2.1; have tok1 := Lib.hid trivial)
          | (skip; go_at_call 20; refine (wcmp_s _ _ A B 30 30 (1) _ g0.drew g1.drew HX.out (by omega) (by omega)).mono ?_; rintro e wx3 ⟨rfl, hbx'⟩; have hbx := undrew hbx'; clear hbx'; replace g0 := g0.below hbx; replace g1 := g1.below hbx; replace g2 := g2.below hbx; replace hbt := hbt.trans (hbx.mono hbt.size); replace HB_x0 := Lib.hid ((hbx.block _ (lt_of_block HB_x0.out)).trans HB_x0.out); replace HB_x1 := Lib.hid ((hbx.block _ (lt_of_block HB_x1.out)).trans HB_x1.out); replace HB_x2 := Lib.hid ((hbx.block _ (lt_of_block HB_x2.out)).trans HB_x2.out); clear hbx; replace x00 := (two_cells HB_x0.out).1; replace x01 := (two_cells HB_x0.out).2.1; replace x10 := (two_cells HB_x1.out).1; replace x11 := (two_cells HB_x1.out).2.1; replace x20 := (two_cells HB_x2.out).1; replace x21 := (two_cells HB_x2.out).2.1; have tok0 := Lib.hid trivial))
      go_wp2_with fail
      go_region_held3 (fun w' => w'.cell? ⟨w.heap.size, 0, none⟩ = some (.bool b0) ∧ w'.cell? ⟨w.heap.size, 1, none⟩ = some (.slice o0 n0 m0) ∧ w'.cell? ⟨w.heap.size + 1, 0, none⟩ = some (.bool b1) ∧ w'.cell? ⟨w.heap.size + 1, 1, none⟩ = some (.slice o1 n1 m1) ∧ w'.cell? ⟨w.heap.size + 2, 0, none⟩ = some (.bool b2) ∧ w'.cell? ⟨w.heap.size + 2, 1, none⟩ = some (.slice o2 n2 m2))
        (first | exact ⟨x00, x01, x10, x11, x20, x21⟩ | go_keep)
        (first
          | (have := tok4; go_at_call 20; refine (wcmp_s _ _ (A + C) (B + C) _ _ (1) _ c_p.gi c_q.gi HP.out (by omega) (by omega)).mono ?_; rintro e wx10 ⟨rfl, hbx⟩; replace g0 := g0.below hbx; replace g1 := g1.below hbx; replace g2 := g2.below hbx; replace c_s := c_s.below hbx; replace c_p := c_p.below hbx; replace c_q := c_q.below hbx; replace hbt := hbt.trans (hbx.mono hbt.size); replace HB_x0 := Lib.hid ((hbx.block _ (lt_of_block HB_x0.out)).trans HB_x0.out); replace HB_x1 := Lib.hid ((hbx.block _ (lt_of_block HB_x1.out)).trans HB_x1.out); replace HB_x2 := Lib.hid ((hbx.block _ (lt_of_block HB_x2.out)).trans HB_x2.out); clear hbx; replace x00 := (two_cells HB_x0.out).1; replace x01 := (two_cells HB_x0.out).2.1; replace x10 := (two_cells HB_x1.out).1; replace x11 := (two_cells HB_x1.out).2.1; replace x20 := (two_cells HB_x2.out).1; replace x21 := (two_cells HB_x2.out).2.1; have tok5 := Lib.hid trivial)
          | (have := tok3; go_at_call 14; refine (wadd_any _ _ B C 30 30 _ g1 g2 (by omega) (by omega)).mono ?_; rintro e wx9 ⟨v_q, rfl, c_q, hbx⟩; replace g0 := g0.below hbx; replace g1 := g1.below hbx; replace g2 := g2.below hbx; replace c_s := c_s.below hbx; replace c_p := c_p.below hbx; replace hbt := hbt.trans (hbx.mono hbt.size); replace HB_x0 := Lib.hid ((hbx.block _ (lt_of_block HB_x0.out)).trans HB_x0.out); replace HB_x1 := Lib.hid ((hbx.block _ (lt_of_block HB_x1.out)).trans HB_x1.out); replace HB_x2 := Lib.hid ((hbx.block _ (lt_of_block HB_x2.out)).trans HB_x2.out); clear hbx; replace x00 := (two_cells HB_x0.out).1; replace x01 := (two_cells HB_x0.out).2.1; replace x10 := (two_cells HB_x1.out).1; replace x11 := (two_cells HB_x1.out).2.1; replace x20 := (two_cells HB_x2.out).1; replace x21 := (two_cells HB_x2.out).2.1; obtain ⟨b_q, o_q, l_q, k_q, rfl⟩ := c_q.shape; have tok4 := Lib.hid trivial)
          | (have := tok2; go_at_call 14; refine (wadd_any _ _ A C 30 30 _ g0 g2 (by omega) (by omega)).mono ?_; rintro e wx8 ⟨v_p, rfl, c_p, hbx⟩; replace g0 := g0.below hbx; replace g1 := g1.below hbx; replace g2 := g2.below hbx; replace c_s := c_s.below hbx; replace hbt := hbt.trans (hbx.mono hbt.size); replace HB_x0 := Lib.hid ((hbx.block _ (lt_of_block HB_x0.out)).trans HB_x0.out); replace HB_x1 := Lib.hid ((hbx.block _ (lt_of_block HB_x1.out)).trans HB_x1.out); replace HB_x2 := Lib.hid ((hbx.block _ (lt_of_block HB_x2.out)).trans HB_x2.out); clear hbx; replace x00 := (two_cells HB_x0.out).1; replace x01 := (two_cells HB_x0.out).2.1; replace x10 := (two_cells HB_x1.out).1; replace x11 := (two_cells HB_x1.out).2.1; replace x20 := (two_cells HB_x2.out).1; replace x21 := (two_cells HB_x2.out).2.1; obtain ⟨b_p, o_p, l_p, k_p, rfl⟩ := c_p.shape; have tok3 := Lib.hid trivial)
          | (have := tok1; go_at_call 20; refine (wcmp_s _ _ B A 30 30 (-1) _ g1 g0 HN.out (by omega) (by omega)).mono ?_; rintro e wx7 ⟨rfl, hbx⟩; replace g0 := g0.below hbx; replace g1 := g1.below hbx; replace g2 := g2.below hbx; replace c_s := c_s.below hbx; replace hbt := hbt.trans (hbx.mono hbt.size); replace HB_x0 := Lib.hid ((hbx.block _ (lt_of_block HB_x0.out)).trans HB_x0.out); replace HB_x1 := Lib.hid ((hbx.block _ (lt_of_block HB_x1.out)).trans HB_x1.out); replace HB_x2 := Lib.hid ((hbx.block _ (lt_of_block HB_x2.out)).trans HB_x2.out); clear hbx; replace x00 := (two_cells HB_x0.out).1; replace x01 := (two_cells HB_x0.out).2.1; replace x10 := (two_cells HB_x1.out).1; replace x11 := (two_cells HB_x1.out).2.1; replace x20 := (two_cells HB_x2.out).1; replace x21 := (two_cells HB_x2.out).2.1; have tok2 := Lib.hid trivial)
          | (have := tok0; go_at_call 23; refine (wsign_s _ (A - B) _ (1) _ c_s.gi HX.out (by omega)).mono ?_; rintro e wx6 ⟨rfl, hbx⟩; replace g0 := g0.below hbx; replace g1 := g1.below hbx; replace g2 := g2.below hbx; replace c_s := c_s.below hbx; replace hbt := hbt.trans (hbx.mono hbt.size); replace HB_x0 := Lib.hid ((hbx.block _ (lt_of_block HB_x0.out)).trans HB_x0.out); replace HB_x1 := Lib.hid ((hbx.block _ (lt_of_block HB_x1.out)).trans HB_x1.out); replace HB_x2 := Lib.hid ((hbx.block _ (lt_of_block HB_x2.out)).trans HB_x2.out); clear hbx; replace x00 := (two_cells HB_x0.out).1; replace x01 := (two_cells HB_x0.out).2.1; replace x10 := (two_cells HB_x1.out).1; replace x11 := (two_cells HB_x1.out).2.1; replace x20 := (two_cells HB_x2.out).1; replace x21 := (two_cells HB_x2.out).2.1; have tok1 := Lib.hid trivial)
          | (skip; go_at_call 16; refine (wsub_any _ _ A B 30 30 _ g0.drew g1.drew (by omega) (by omega)).mono ?_; rintro e wx5 ⟨v_s, rfl, c_s, hbx'⟩; have hbx := undrew hbx'; clear hbx'; replace g0 := g0.below hbx; replace g1 := g1.below hbx; replace g2 := g2.below hbx; replace hbt := hbt.trans (hbx.mono hbt.size); replace HB_x0 := Lib.hid ((hbx.block _ (lt_of_block HB_x0.out)).trans HB_x0.out); replace HB_x1 := Lib.hid ((hbx.block _ (lt_of_block HB_x1.out)).trans HB_x1.out); replace HB_x2 := Lib.hid ((hbx.block _ (lt_of_block HB_x2.out)).trans HB_x2.out); clear hbx; replace x00 := (two_cells HB_x0.out).1; replace x01 := (two_cells HB_x0.out).2.1; replace x10 := (two_cells HB_x1.out).1; replace x11 := (two_cells HB_x1.out).2.1; replace x20 := (two_cells HB_x2.out).1; replace x21 := (two_cells HB_x2.out).2.1; obtain ⟨b_s, o_s, l_s, k_s, rfl⟩ := c_s.shape; have tok0 := Lib.hid trivial))
      go_wp2_with fail
      go_ret
      exact ⟨rfl, hbt⟩
    · replace HT := Lib.hid (HT.out (by rw [HX.out]; decide) (by rw [HY.out]; decide))
      have hbt := below3 w (.cells #[.bool b0, .slice o0 n0 m0] 25) (.cells #[.bool b1, .slice o1 n1 m1] 25) (.cells #[.bool b2, .slice o2 n2 m2] 25)
      have hbk := blocks3 (Below.refl (w.heap.size + 3) (((w.alloc (.cells #[.bool b0, .slice o0 n0 m0] 25)).alloc (.cells #[.bool b1, .slice o1 n1 m1] 25)).alloc (.cells #[.bool b2, .slice o2 n2 m2] 25)))
      have HB_x0 := Lib.hid hbk.1
      have HB_x1 := Lib.hid hbk.2.1
      have HB_x2 := Lib.hid hbk.2.2
      clear hbk
      replace g0 := g0.below hbt
      have x00 := (two_cells HB_x0.out).1
      have x01 := (two_cells HB_x0.out).2.1
      replace g1 := g1.below hbt
      have x10 := (two_cells HB_x1.out).1
      have x11 := (two_cells HB_x1.out).2.1
      replace g2 := g2.below hbt
      have x20 := (two_cells HB_x2.out).1
      have x21 := (two_cells HB_x2.out).2.1
      go_enter Tryd.func6, Tryd.ntmps6
      go_wp2_with fail
      generalize (((w.alloc (.cells #[.bool b0, .slice o0 n0 m0] 25)).alloc (.cells #[.bool b1, .slice o1 n1 m1] 25)).alloc (.cells #[.bool b2, .slice o2 n2 m2] 25)) = w0 at *
      refine (HF.out _ (tab_below HTB.out hbt)).mono ?_
      rintro e wx1 ⟨rfl, hbx⟩
      replace g0 := g0.below hbx
      replace g1 := g1.below hbx
      replace g2 := g2.below hbx
      replace hbt := hbt.trans (hbx.mono hbt.size)
      replace HB_x0 := Lib.hid ((hbx.block _ (lt_of_block HB_x0.out)).trans HB_x0.out)
      replace HB_x1 := Lib.hid ((hbx.block _ (lt_of_block HB_x1.out)).trans HB_x1.out)
      replace HB_x2 := Lib.hid ((hbx.block _ (lt_of_block HB_x2.out)).trans HB_x2.out)
      clear hbx
      replace x00 := (two_cells HB_x0.out).1
      replace x01 := (two_cells HB_x0.out).2.1
      replace x10 := (two_cells HB_x1.out).1
      replace x11 := (two_cells HB_x1.out).2.1
      replace x20 := (two_cells HB_x2.out).1
      replace x21 := (two_cells HB_x2.out).2.1
      go_wp2_with fail
      refine (short_t3 30 _ rfl l0 l1 l2).mono ?_
      rintro e wx2 ⟨rfl, hbx⟩
      replace g0 := g0.below hbx
      replace g1 := g1.below hbx
      replace g2 := g2.below hbx
      replace hbt := hbt.trans (hbx.mono hbt.size)
      replace HB_x0 := Lib.hid ((hbx.block _ (lt_of_block HB_x0.out)).trans HB_x0.out)
      replace HB_x1 := Lib.hid ((hbx.block _ (lt_of_block HB_x1.out)).trans HB_x1.out)
      replace HB_x2 := Lib.hid ((hbx.block _ (lt_of_block HB_x2.out)).trans HB_x2.out)
      clear hbx
      replace x00 := (two_cells HB_x0.out).1
      replace x01 := (two_cells HB_x0.out).2.1
      replace x10 := (two_cells HB_x1.out).1
      replace x11 := (two_cells HB_x1.out).2.1
      replace x20 := (two_cells HB_x2.out).1
      replace x21 := (two_cells HB_x2.out).2.1
      go_wp2_with fail
      go_region_held3 (fun w' => w'.cell? ⟨w.heap.size, 0, none⟩ = some (.bool b0) ∧ w'.cell? ⟨w.heap.size, 1, none⟩ = some (.slice o0 n0 m0) ∧ w'.cell? ⟨w.heap.size + 1, 0, none⟩ = some (.bool b1) ∧ w'.cell? ⟨w.heap.size + 1, 1, none⟩ = some (.slice o1 n1 m1) ∧ w'.cell? ⟨w.heap.size + 2, 0, none⟩ = some (.bool b2) ∧ w'.cell? ⟨w.heap.size + 2, 1, none⟩ = some (.slice o2 n2 m2))
        (first | exact ⟨x00, x01, x10, x11, x20, x21⟩ | go_keep)
        (first
          | (have := tok0; go_at_call 20; refine (wcmp_s _ _ B C 30 30 (0) _ g1 g2 HY.out (by omega) (by omega)).mono ?_; rintro e wx4 ⟨rfl, hbx⟩; replace g0 := g0.below hbx; replace g1 := g1.below hbx; replace g2 := g2.below hbx; replace hbt := hbt.trans (hbx.mono hbt.size); replace HB_x0 := Lib.hid ((hbx.block _ (lt_of_block HB_x0.out)).trans HB_x0.out); replace HB_x1 := Lib.hid ((hbx.block _ (lt_of_block HB_x1.out)).trans HB_x1.out); replace HB_x2 := Lib.hid ((hbx.block _ (lt_of_block HB_x2.out)).trans HB_x2.out); clear hbx; replace x00 := (two_cells HB_x0.out).1; replace x01 := (two_cells HB_x0.out).2.1; replace x10 := (two_cells HB_x1.out).1; replace x11 := (two_cells HB_x1.out).2.1; replace x20 := (two_cells HB_x2.out).1; replace x21 := (two_cells HB_x2.out).2.1; have tok1 := Lib.hid trivial)
          | (skip; go_at_call 20; refine (wcmp_s _ _ A B 30 30 (1) _ g0.drew g1.drew HX.out (by omega) (by omega)).mono ?_; rintro e wx3 ⟨rfl, hbx'⟩; have hbx := undrew hbx'; clear hbx'; replace g0 := g0.below hbx; replace g1 := g1.below hbx; replace g2 := g2.below hbx; replace hbt := hbt.trans (hbx.mono hbt.size); replace HB_x0 := Lib.hid ((hbx.block _ (lt_of_block HB_x0.out)).trans HB_x0.out); replace HB_x1 := Lib.hid ((hbx.block _ (lt_of_block HB_x1.out)).trans HB_x1.out); replace HB_x2 := Lib.hid ((hbx.block _ (lt_of_block HB_x2.out)).trans HB_x2.out); clear hbx; replace x00 := (two_cells HB_x0.out).1; replace x01 := (two_cells HB_x0.out).2.1; replace x10 := (two_cells HB_x1.out).1; replace x11 := (two_cells HB_x1.out).2.1; replace x20 := (two_cells HB_x2.out).1; replace x21 := (two_cells HB_x2.out).2.1; have tok0 := Lib.hid trivial))
      go_wp2_with fail
      go_region_held3 (fun w' => w'.cell? ⟨w.heap.size, 0, none⟩ = some (.bool b0) ∧ w'.cell? ⟨w.heap.size, 1, none⟩ = some (.slice o0 n0 m0) ∧ w'.cell? ⟨w.heap.size + 1, 0, none⟩ = some (.bool b1) ∧ w'.cell? ⟨w.heap.size + 1, 1, none⟩ = some (.slice o1 n1 m1) ∧ w'.cell? ⟨w.heap.size + 2, 0, none⟩ = some (.bool b2) ∧ w'.cell? ⟨w.heap.size + 2, 1, none⟩ = some (.slice o2 n2 m2))
        (first | exact ⟨x00, x01, x10, x11, x20, x21⟩ | go_keep)
        (first
          | (have := tok4; go_at_call 20; refine (wcmp_s _ _ (A + C) (B + C) _ _ (1) _ c_p.gi c_q.gi HP.out (by omega) (by omega)).mono ?_; rintro e wx10 ⟨rfl, hbx⟩; replace g0 := g0.below hbx; replace g1 := g1.below hbx; replace g2 := g2.below hbx; replace c_s := c_s.below hbx; replace c_p := c_p.below hbx; replace c_q := c_q.below hbx; replace hbt := hbt.trans (hbx.mono hbt.size); replace HB_x0 := Lib.hid ((hbx.block _ (lt_of_block HB_x0.out)).trans HB_x0.out); replace HB_x1 := Lib.hid ((hbx.block _ (lt_of_block HB_x1.out)).trans HB_x1.out); replace HB_x2 := Lib.hid ((hbx.block _ (lt_of_block HB_x2.out)).trans HB_x2.out); clear hbx; replace x00 := (two_cells HB_x0.out).1; replace x01 := (two_cells HB_x0.out).2.1; replace x10 := (two_cells HB_x1.out).1; replace x11 := (two_cells HB_x1.out).2.1; replace x20 := (two_cells HB_x2.out).1; replace x21 := (two_cells HB_x2.out).2.1; have tok5 := Lib.hid trivial)
          | (have := tok3; go_at_call 14; refine (wadd_any _ _ B C 30 30 _ g1 g2 (by omega) (by omega)).mono ?_; rintro e wx9 ⟨v_q, rfl, c_q, hbx⟩; replace g0 := g0.below hbx; replace g1 := g1.below hbx; replace g2 := g2.below hbx; replace c_s := c_s.below hbx; replace c_p := c_p.below hbx; replace hbt := hbt.trans (hbx.mono hbt.size); replace HB_x0 := Lib.hid ((hbx.block _ (lt_of_block HB_x0.out)).trans HB_x0.out); replace HB_x1 := Lib.hid ((hbx.block _ (lt_of_block HB_x1.out)).trans HB_x1.out); replace HB_x2 := Lib.hid ((hbx.block _ (lt_of_block HB_x2.out)).trans HB_x2.out); clear hbx; replace x00 := (two_cells HB_x0.out).1; replace x01 := (two_cells HB_x0.out).2.1; replace x10 := (two_cells HB_x1.out).1; replace x11 := (two_cells HB_x1.out).2.1; replace x20 := (two_cells HB_x2.out).1; replace x21 := (two_cells HB_x2.out).2.1; obtain ⟨b_q, o_q, l_q, k_q, rfl⟩ := c_q.shape; have tok4 := Lib.hid trivial)
          | (have := tok2; go_at_call 14; refine (wadd_any _ _ A C 30 30 _ g0 g2 (by omega) (by omega)).mono ?_; rintro e wx8 ⟨v_p, rfl, c_p, hbx⟩; replace g0 := g0.below hbx; replace g1 := g1.below hbx; replace g2 := g2.below hbx; replace c_s := c_s.below hbx; replace hbt := hbt.trans (hbx.mono hbt.size); replace HB_x0 := Lib.hid ((hbx.block _ (lt_of_block HB_x0.out)).trans HB_x0.out); replace HB_x1 := Lib.hid ((hbx.block _ (lt_of_block HB_x1.out)).trans HB_x1.out); replace HB_x2 := Lib.hid ((hbx.block _ (lt_of_block HB_x2.out)).trans HB_x2.out); clear hbx; replace x00 := (two_cells HB_x0.out).1; replace x01 := (two_cells HB_x0.out).2.1; replace x10 := (two_cells HB_x1.out).1; replace x11 := (two_cells HB_x1.out).2.1; replace x20 := (two_cells HB_x2.out).1; replace x21 := (two_cells HB_x2.out).2.1; obtain ⟨b_p, o_p, l_p, k_p, rfl⟩ := c_p.shape; have tok3 := Lib.hid trivial)
          | (have := tok1; go_at_call 20; refine (wcmp_s _ _ B A 30 30 (-1) _ g1 g0 HN.out (by omega) (by omega)).mono ?_; rintro e wx7 ⟨rfl, hbx⟩; replace g0 := g0.below hbx; replace g1 := g1.below hbx; replace g2 := g2.below hbx; replace c_s := c_s.below hbx; replace hbt := hbt.trans (hbx.mono hbt.size); replace HB_x0 := Lib.hid ((hbx.block _ (lt_of_block HB_x0.out)).trans HB_x0.out); replace HB_x1 := Lib.hid ((hbx.block _ (lt_of_block HB_x1.out)).trans HB_x1.out); replace HB_x2 := Lib.hid ((hbx.block _ (lt_of_block HB_x2.out)).trans HB_x2.out); clear hbx; replace x00 := (two_cells HB_x0.out).1; replace x01 := (two_cells HB_x0.out).2.1; replace x10 := (two_cells HB_x1.out).1; replace x11 := (two_cells HB_x1.out).2.1; replace x20 := (two_cells HB_x2.out).1; replace x21 := (two_cells HB_x2.out).2.1; have tok2 := Lib.hid trivial)
          | (have := tok0; go_at_call 23; refine (wsign_s _ (A - B) _ (1) _ c_s.gi HX.out (by omega)).mono ?_; rintro e wx6 ⟨rfl, hbx⟩; replace g0 := g0.below hbx; replace g1 := g1.below hbx; replace g2 := g2.below hbx; replace c_s := c_s.below hbx; replace hbt := hbt.trans (hbx.mono hbt.size); replace HB_x0 := Lib.hid ((hbx.block _ (lt_of_block HB_x0.out)).trans HB_x0.out); replace HB_x1 := Lib.hid ((hbx.block _ (lt_of_block HB_x1.out)).trans HB_x1.out); replace HB_x2 := Lib.hid ((hbx.block _ (lt_of_block HB_x2.out)).trans HB_x2.out); clear hbx; replace x00 := (two_cells HB_x0.out).1; replace x01 := (two_cells HB_x0.out).2.1; replace x10 := (two_cells HB_x1.out).1; replace x11 := (two_cells HB_x1.out).2.1; replace x20 := (two_cells HB_x2.out).1; replace x21 := (two_cells HB_x2.out).2.1; have tok1 := Lib.hid trivial)
          | (skip; go_at_call 16; refine (wsub_any _ _ A B 30 30 _ g0.drew g1.drew (by omega) (by omega)).mono ?_; rintro e wx5 ⟨v_s, rfl, c_s, hbx'⟩; have hbx := undrew hbx'; clear hbx'; replace g0 := g0.below hbx; replace g1 := g1.below hbx; replace g2 := g2.below hbx; replace hbt := hbt.trans (hbx.mono hbt.size); replace HB_x0 := Lib.hid ((hbx.block _ (lt_of_block HB_x0.out)).trans HB_x0.out); replace HB_x1 := Lib.hid ((hbx.block _ (lt_of_block HB_x1.out)).trans HB_x1.out); replace HB_x2 := Lib.hid ((hbx.block _ (lt_of_block HB_x2.out)).trans HB_x2.out); clear hbx; replace x00 := (two_cells HB_x0.out).1; replace x01 := (two_cells HB_x0.out).2.1; replace x10 := (two_cells HB_x1.out).1; replace x11 := (two_cells HB_x1.out).2.1; replace x20 := (two_cells HB_x2.out).1; replace x21 := (two_cells HB_x2.out).2.1; obtain ⟨b_s, o_s, l_s, k_s, rfl⟩ := c_s.shape; have tok0 := Lib.hid trivial))
      go_wp2_with fail
      refine (wcmp_any _ _ A C 30 30 _ g0 g2 (by omega) (by omega)).mono ?_
      rintro e wx11 ⟨rfl, hbx⟩
      replace g0 := g0.below hbx
      replace g1 := g1.below hbx
      replace g2 := g2.below hbx
      replace c_s := c_s.below hbx
      replace c_p := c_p.below hbx
      replace c_q := c_q.below hbx
      replace hbt := hbt.trans (hbx.mono hbt.size)
      replace HB_x0 := Lib.hid ((hbx.block _ (lt_of_block HB_x0.out)).trans HB_x0.out)
      replace HB_x1 := Lib.hid ((hbx.block _ (lt_of_block HB_x1.out)).trans HB_x1.out)
      replace HB_x2 := Lib.hid ((hbx.block _ (lt_of_block HB_x2.out)).trans HB_x2.out)
      clear hbx
      replace x00 := (two_cells HB_x0.out).1
      replace x01 := (two_cells HB_x0.out).2.1
      replace x10 := (two_cells HB_x1.out).1
      replace x11 := (two_cells HB_x1.out).2.1
      replace x20 := (two_cells HB_x2.out).1
      replace x21 := (two_cells HB_x2.out).2.1
      have hfin := HT.out
      go_wp2_with fail
      go_ret
      exact ⟨rfl, hbt⟩
    · replace HT := Lib.hid (HT.out (by rw [HX.out]; decide) (by rw [HY.out]; decide))
      have hbt := below3 w (.cells #[.bool b0, .slice o0 n0 m0] 25) (.cells #[.bool b1, .slice o1 n1 m1] 25) (.cells #[.bool b2, .slice o2 n2 m2] 25)
      have hbk := blocks3 (Below.refl (w.heap.size + 3) (((w.alloc (.cells #[.bool b0, .slice o0 n0 m0] 25)).alloc (.cells #[.bool b1, .slice o1 n1 m1] 25)).alloc (.cells #[.bool b2, .slice o2 n2 m2] 25)))
      have HB_x0 := Lib.hid hbk.1
      have HB_x1 := Lib.hid hbk.2.1
      have HB_x2 := Lib.hid hbk.2.2
      clear hbk
      replace g0 := g0.below hbt
      have x00 := (two_cells HB_x0.out).1
      have x01 := (two_cells HB_x0.out).2.1
      replace g1 := g1.below hbt
      have x10 := (two_cells HB_x1.out).1
      have x11 := (two_cells HB_x1.out).2.1
      replace g2 := g2.below hbt
      have x20 := (two_cells HB_x2.out).1
      have x21 := (two_cells HB_x2.out).2.1
      go_enter Tryd.func6, Tryd.ntmps6
      go_wp2_with fail
      generalize (((w.alloc (.cells #[.bool b0, .slice o0 n0 m0] 25)).alloc (.cells #[.bool b1, .slice o1 n1 m1] 25)).alloc (.cells #[.bool b2, .slice o2 n2 m2] 25)) = w0 at *
      refine (HF.out _ (tab_below HTB.out hbt)).mono ?_
      rintro e wx1 ⟨rfl, hbx⟩
      replace g0 := g0.below hbx
      replace g1 := g1.below hbx
      replace g2 := g2.below hbx
      replace hbt := hbt.trans (hbx.mono hbt.size)
      replace HB_x0 := Lib.hid ((hbx.block _ (lt_of_block HB_x0.out)).trans HB_x0.out)
      replace HB_x1 := Lib.hid ((hbx.block _ (lt_of_block HB_x1.out)).trans HB_x1.out)
      replace HB_x2 := Lib.hid ((hbx.block _ (lt_of_block HB_x2.out)).trans HB_x2.out)
      clear hbx
      replace x00 := (two_cells HB_x0.out).1
      replace x01 := (two_cells HB_x0.out).2.1
      replace x10 := (two_cells HB_x1.out).1
      replace x11 := (two_cells HB_x1.out).2.1
      replace x20 := (two_cells HB_x2.out).1
      replace x21 := (two_cells HB_x2.out).2.1
      go_wp2_with fail
      refine (short_t3 30 _ rfl l0 l1 l2).mono ?_
      rintro e wx2 ⟨rfl, hbx⟩
      replace g0 := g0.below hbx
      replace g1 := g1.below hbx
      replace g2 := g2.below hbx
      replace hbt := hbt.trans (hbx.mono hbt.size)
      replace HB_x0 := Lib.hid ((hbx.block _ (lt_of_block HB_x0.out)).trans HB_x0.out)
      replace HB_x1 := Lib.hid ((hbx.block _ (lt_of_block HB_x1.out)).trans HB_x1.out)
      replace HB_x2 := Lib.hid ((hbx.block _ (lt_of_block HB_x2.out)).trans HB_x2.out)
      clear hbx
      replace x00 := (two_cells HB_x0.out).1
      replace x01 := (two_cells HB_x0.out).2.1
      replace x10 := (two_cells HB_x1.out).1
      replace x11 := (two_cells HB_x1.out).2.1
      replace x20 := (two_cells HB_x2.out).1
      replace x21 := (two_cells HB_x2.out).2.1
      go_wp2_with fail
      go_region_held3 (fun w' => w'.cell? ⟨w.heap.size, 0, none⟩ = some (.bool b0) ∧ w'.cell? ⟨w.heap.size, 1, none⟩ = some (.slice o0 n0 m0) ∧ w'.cell? ⟨w.heap.size + 1, 0, none⟩ = some (.bool b1) ∧ w'.cell? ⟨w.heap.size + 1, 1, none⟩ = some (.slice o1 n1 m1) ∧ w'.cell? ⟨w.heap.size + 2, 0, none⟩ = some (.bool b2) ∧ w'.cell? ⟨w.heap.size + 2, 1, none⟩ = some (.slice o2 n2 m2))
        (first | exact ⟨x00, x01, x10, x11, x20, x21⟩ | go_keep)
        (first
          | (have := tok0; go_at_call 20; refine (wcmp_s _ _ B C 30 30 (1) _ g1 g2 HY.out (by omega) (by omega)).mono ?_; rintro e wx4 ⟨rfl, hbx⟩; replace g0 := g0.below hbx; replace g1 := g1.below hbx; replace g2 := g2.below hbx; replace hbt := hbt.trans (hbx.mono hbt.size); replace HB_x0 := Lib.hid ((hbx.block _ (lt_of_block HB_x0.out)).trans HB_x0.out); replace HB_x1 := Lib.hid ((hbx.block _ (lt_of_block HB_x1.out)).trans HB_x1.out); replace HB_x2 := Lib.hid ((hbx.block _ (lt_of_block HB_x2.out)).trans HB_x2.out); clear hbx; replace x00 := (two_cells HB_x0.out).1; replace x01 := (two_cells HB_x0.out).2.1; replace x10 := (two_cells HB_x1.out).1; replace x11 := (two_cells HB_x1.out).2.1; replace x20 := (two_cells HB_x2.out).1; replace x21 := (two_cells HB_x2.out).2.1; have tok1 := Lib.hid trivial)
          | (skip; go_at_call 20; refine (wcmp_s _ _ A B 30 30 (1) _ g0.drew g1.drew HX.out (by omega) (by omega)).mono ?_; rintro e wx3 ⟨rfl, hbx'⟩; have hbx := undrew hbx'; clear hbx'; replace g0 := g0.below hbx; replace g1 := g1.below hbx; replace g2 := g2.below hbx; replace hbt := hbt.trans (hbx.mono hbt.size); replace HB_x0 := Lib.hid ((hbx.block _ (lt_of_block HB_x0.out)).trans HB_x0.out); replace HB_x1 := Lib.hid ((hbx.block _ (lt_of_block HB_x1.out)).trans HB_x1.out); replace HB_x2 := Lib.hid ((hbx.block _ (lt_of_block HB_x2.out)).trans HB_x2.out); clear hbx; replace x00 := (two_cells HB_x0.out).1; replace x01 := (two_cells HB_x0.out).2.1; replace x10 := (two_cells HB_x1.out).1; replace x11 := (two_cells HB_x1.out).2.1; replace x20 := (two_cells HB_x2.out).1; replace x21 := (two_cells HB_x2.out).2.1; have tok0 := Lib.hid trivial))
      go_wp2_with fail
      go_region_held3 (fun w' => w'.cell? ⟨w.heap.size, 0, none⟩ = some (.bool b0) ∧ w'.cell? ⟨w.heap.size, 1, none⟩ = some (.slice o0 n0 m0) ∧ w'.cell? ⟨w.heap.size + 1, 0, none⟩ = some (.bool b1) ∧ w'.cell? ⟨w.heap.size + 1, 1, none⟩ = some (.slice o1 n1 m1) ∧ w'.cell? ⟨w.heap.size + 2, 0, none⟩ = some (.bool b2) ∧ w'.cell? ⟨w.heap.size + 2, 1, none⟩ = some (.slice o2 n2 m2))
        (first | exact ⟨x00, x01, x10, x11, x20, x21⟩ | go_keep)
        (first
          | (have := tok4; go_at_call 20; refine (wcmp_s _ _ (A + C) (B + C) _ _ (1) _ c_p.gi c_q.gi HP.out (by omega) (by omega)).mono ?_; rintro e wx10 ⟨rfl, hbx⟩; replace g0 := g0.below hbx; replace g1 := g1.below hbx; replace g2 := g2.below hbx; replace c_s := c_s.below hbx; replace c_p := c_p.below hbx; replace c_q := c_q.below hbx; replace hbt := hbt.trans (hbx.mono hbt.size); replace HB_x0 := Lib.hid ((hbx.block _ (lt_of_block HB_x0.out)).trans HB_x0.out); replace HB_x1 := Lib.hid ((hbx.block _ (lt_of_block HB_x1.out)).trans HB_x1.out); replace HB_x2 := Lib.hid ((hbx.block _ (lt_of_block HB_x2.out)).trans HB_x2.out); clear hbx; replace x00 := (two_cells HB_x0.out).1; replace x01 := (two_cells HB_x0.out).2.1; replace x10 := (two_cells HB_x1.out).1; replace x11 := (two_cells HB_x1.out).2.1; replace x20 := (two_cells HB_x2.out).1; replace x21 := (two_cells HB_x2.out).2.1; have tok5 := Lib.hid trivial)
          | (have := tok3; go_at_call 14; refine (wadd_any _ _ B C 30 30 _ g1 g2 (by omega) (by omega)).mono ?_; rintro e wx9 ⟨v_q, rfl, c_q, hbx⟩; replace g0 := g0.below hbx; replace g1 := g1.below hbx; replace g2 := g2.below hbx; replace c_s := c_s.below hbx; replace c_p := c_p.below hbx; replace hbt := hbt.trans (hbx.mono hbt.size); replace HB_x0 := Lib.hid ((hbx.block _ (lt_of_block HB_x0.out)).trans HB_x0.out); replace HB_x1 := Lib.hid ((hbx.block _ (lt_of_block HB_x1.out)).trans HB_x1.out); replace HB_x2 := Lib.hid ((hbx.block _ (lt_of_block HB_x2.out)).trans HB_x2.out); clear hbx; replace x00 := (two_cells HB_x0.out).1; replace x01 := (two_cells HB_x0.out).2.1; replace x10 := (two_cells HB_x1.out).1; replace x11 := (two_cells HB_x1.out).2.1; replace x20 := (two_cells HB_x2.out).1; replace x21 := (two_cells HB_x2.out).2.1; obtain ⟨b_q, o_q, l_q, k_q, rfl⟩ := c_q.shape; have tok4 := Lib.hid trivial)
          | (have := tok2; go_at_call 14; refine (wadd_any _ _ A C 30 30 _ g0 g2 (by omega) (by omega)).mono ?_; rintro e wx8 ⟨v_p, rfl, c_p, hbx⟩; replace g0 := g0.below hbx; replace g1 := g1.below hbx; replace g2 := g2.below hbx; replace c_s := c_s.below hbx; replace hbt := hbt.trans (hbx.mono hbt.size); replace HB_x0 := Lib.hid ((hbx.block _ (lt_of_block HB_x0.out)).trans HB_x0.out); replace HB_x1 := Lib.hid ((hbx.block _ (lt_of_block HB_x1.out)).trans HB_x1.out); replace HB_x2 := Lib.hid ((hbx.block _ (lt_of_block HB_x2.out)).trans HB_x2.out); clear hbx; replace x00 := (two_cells HB_x0.out).1; replace x01 := (two_cells HB_x0.out).2.1; replace x10 := (two_cells HB_x1.out).1; replace x11 := (two_cells HB_x1.out).2.1; replace x20 := (two_cells HB_x2.out).1; replace x21 := (two_cells HB_x2.out).2.1; obtain ⟨b_p, o_p, l_p, k_p, rfl⟩ := c_p.shape; have tok3 := Lib.hid trivial)
          | (have := tok1; go_at_call 20; refine (wcmp_s _ _ B A 30 30 (-1) _ g1 g0 HN.out (by omega) (by omega)).mono ?_; rintro e wx7 ⟨rfl, hbx⟩; replace g0 := g0.below hbx; replace g1 := g1.below hbx; replace g2 := g2.below hbx; replace c_s := c_s.below hbx; replace hbt := hbt.trans (hbx.mono hbt.size); replace HB_x0 := Lib.hid ((hbx.block _ (lt_of_block HB_x0.out)).trans HB_x0.out); replace HB_x1 := Lib.hid ((hbx.block _ (lt_of_block HB_x1.out)).trans HB_x1.out); replace HB_x2 := Lib.hid ((hbx.block _ (lt_of_block HB_x2.out)).trans HB_x2.out); clear hbx; replace x00 := (two_cells HB_x0.out).1; replace x01 := (two_cells HB_x0.out).2.1; replace x10 := (two_cells HB_x1.out).1; replace x11 := (two_cells HB_x1.out).2.1; replace x20 := (two_cells HB_x2.out).1; replace x21 := (two_cells HB_x2.out).2.1; have tok2 := Lib.hid trivial)
          | (have := tok0; go_at_call 23; refine (wsign_s _ (A - B) _ (1) _ c_s.gi HX.out (by omega)).mono ?_; rintro e wx6 ⟨rfl, hbx⟩; replace g0 := g0.below hbx; replace g1 := g1.below hbx; replace g2 := g2.below hbx; replace c_s := c_s.below hbx; replace hbt := hbt.trans (hbx.mono hbt.size); replace HB_x0 := Lib.hid ((hbx.block _ (lt_of_block HB_x0.out)).trans HB_x0.out); replace HB_x1 := Lib.hid ((hbx.block _ (lt_of_block HB_x1.out)).trans HB_x1.out); replace HB_x2 := Lib.hid ((hbx.block _ (lt_of_block HB_x2.out)).trans HB_x2.out); clear hbx; replace x00 := (two_cells HB_x0.out).1; replace x01 := (two_cells HB_x0.out).2.1; replace x10 := (two_cells HB_x1.out).1; replace x11 := (two_cells HB_x1.out).2.1; replace x20 := (two_cells HB_x2.out).1; replace x21 := (two_cells HB_x2.out).2.1; have tok1 := Lib.hid trivial)
          | (skip; go_at_call 16; refine (wsub_any _ _ A B 30 30 _ g0.drew g1.drew (by omega) (by omega)).mono ?_; rintro e wx5 ⟨v_s, rfl, c_s, hbx'⟩; have hbx := undrew hbx'; clear hbx'; replace g0 := g0.below hbx; replace g1 := g1.below hbx; replace g2 := g2.below hbx; replace hbt := hbt.trans (hbx.mono hbt.size); replace HB_x0 := Lib.hid ((hbx.block _ (lt_of_block HB_x0.out)).trans HB_x0.out); replace HB_x1 := Lib.hid ((hbx.block _ (lt_of_block HB_x1.out)).trans HB_x1.out); replace HB_x2 := Lib.hid ((hbx.block _ (lt_of_block HB_x2.out)).trans HB_x2.out); clear hbx; replace x00 := (two_cells HB_x0.out).1; replace x01 := (two_cells HB_x0.out).2.1; replace x10 := (two_cells HB_x1.out).1; replace x11 := (two_cells HB_x1.out).2.1; replace x20 := (two_cells HB_x2.out).1; replace x21 := (two_cells HB_x2.out).2.1; obtain ⟨b_s, o_s, l_s, k_s, rfl⟩ := c_s.shape; have tok0 := Lib.hid trivial))
      go_wp2_with fail
      refine (wcmp_any _ _ A C 30 30 _ g0 g2 (by omega) (by omega)).mono ?_
      rintro e wx11 ⟨rfl, hbx⟩
      replace g0 := g0.below hbx
      replace g1 := g1.below hbx
      replace g2 := g2.below hbx
      replace c_s := c_s.below hbx
      replace c_p := c_p.below hbx
      replace c_q := c_q.below hbx
      replace hbt := hbt.trans (hbx.mono hbt.size)
      replace HB_x0 := Lib.hid ((hbx.block _ (lt_of_block HB_x0.out)).trans HB_x0.out)
      replace HB_x1 := Lib.hid ((hbx.block _ (lt_of_block HB_x1.out)).trans HB_x1.out)
      replace HB_x2 := Lib.hid ((hbx.block _ (lt_of_block HB_x2.out)).trans HB_x2.out)
      clear hbx
      replace x00 := (two_cells HB_x0.out).1
      replace x01 := (two_cells HB_x0.out).2.1
      replace x10 := (two_cells HB_x1.out).1
      replace x11 := (two_cells HB_x1.out).2.1
      replace x20 := (two_cells HB_x2.out).1
      replace x21 := (two_cells HB_x2.out).2.1
      have hfin := HT.out
      go_wp2_with fail
      go_ret
      exact ⟨rfl, hbt⟩
  · have HS := Lib.hid hs
    clear hs
    have hbt := below3 w (.cells #[.bool b0, .slice o0 n0 m0] 25) (.cells #[.bool b1, .slice o1 n1 m1] 25) (.cells #[.bool b2, .slice o2 n2 m2] 25)
    clear a0
    clear a1
    clear a2
    have hbk := blocks3 (Below.refl (w.heap.size + 3) (((w.alloc (.cells #[.bool b0, .slice o0 n0 m0] 25)).alloc (.cells #[.bool b1, .slice o1 n1 m1] 25)).alloc (.cells #[.bool b2, .slice o2 n2 m2] 25)))
    have HB_x0 := Lib.hid hbk.1
    have HB_x1 := Lib.hid hbk.2.1
    have HB_x2 := Lib.hid hbk.2.2
    clear hbk
    have x00 := (two_cells HB_x0.out).1
    have x01 := (two_cells HB_x0.out).2.1
    have x10 := (two_cells HB_x1.out).1
    have x11 := (two_cells HB_x1.out).2.1
    have x20 := (two_cells HB_x2.out).1
    have x21 := (two_cells HB_x2.out).2.1
    go_enter Tryd.func6, Tryd.ntmps6
    go_wp2_with fail
    generalize (((w.alloc (.cells #[.bool b0, .slice o0 n0 m0] 25)).alloc (.cells #[.bool b1, .slice o1 n1 m1] 25)).alloc (.cells #[.bool b2, .slice o2 n2 m2] 25)) = w0 at *
    refine (HF.out _ (tab_below HTB.out hbt)).mono ?_
    rintro e wx1 ⟨rfl, hbx⟩
    replace hbt := hbt.trans (hbx.mono hbt.size)
    replace HB_x0 := Lib.hid ((hbx.block _ (lt_of_block HB_x0.out)).trans HB_x0.out)
    replace HB_x1 := Lib.hid ((hbx.block _ (lt_of_block HB_x1.out)).trans HB_x1.out)
    replace HB_x2 := Lib.hid ((hbx.block _ (lt_of_block HB_x2.out)).trans HB_x2.out)
    clear hbx
    replace x00 := (two_cells HB_x0.out).1
    replace x01 := (two_cells HB_x0.out).2.1
    replace x10 := (two_cells HB_x1.out).1
    replace x11 := (two_cells HB_x1.out).2.1
    replace x20 := (two_cells HB_x2.out).1
    replace x21 := (two_cells HB_x2.out).2.1
    go_wp2_with fail
    refine (short_f3 30 _ rfl HS.out).mono ?_
    rintro e wx2 ⟨rfl, hbx⟩
    replace hbt := hbt.trans (hbx.mono hbt.size)
    replace HB_x0 := Lib.hid ((hbx.block _ (lt_of_block HB_x0.out)).trans HB_x0.out)
    replace HB_x1 := Lib.hid ((hbx.block _ (lt_of_block HB_x1.out)).trans HB_x1.out)
    replace HB_x2 := Lib.hid ((hbx.block _ (lt_of_block HB_x2.out)).trans HB_x2.out)
    clear hbx
    replace x00 := (two_cells HB_x0.out).1
    replace x01 := (two_cells HB_x0.out).2.1
    replace x10 := (two_cells HB_x1.out).1
    replace x11 := (two_cells HB_x1.out).2.1
    replace x20 := (two_cells HB_x2.out).1
    replace x21 := (two_cells HB_x2.out).2.1
    go_wp2_with fail
    go_ret
    exact ⟨rfl, hbt⟩
end Go.Proofs.YtbkeildnhimfbaaDoor
