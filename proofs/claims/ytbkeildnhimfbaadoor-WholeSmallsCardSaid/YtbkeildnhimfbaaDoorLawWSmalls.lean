/-
  The walk of the law WholeSmalls.
-/
import Derived.Test.YtbkeildnhimfbaaDoorItoa
import Derived.Deep.QuietTactic
import Derived.BigQuiet
namespace Go.Proofs.YtbkeildnhimfbaaDoor
open Go.RowKit
set_option maxRecDepth 100000

set_option maxHeartbeats 8000000 in
theorem wholeSmalls_walk (b0 : Bool) (o0 : Option Addr) (n0 m0 : Nat) (xs0 : List Nat) (z : Int) (w : World) (a0 : Arg w b0 o0 n0 m0 xs0) (hwf : (Lit.int .i64 z).wf = true) (htab : Lib.TabIs Tryd.prog w "internal/strconv.uint64pow10" .u64 Lib.pow10Tab) :
    Calls Tryd.prog 7 #[.int .i64 z, .agg #[.bool b0, .slice o0 n0 m0]] w fun e w' => e = .returned (.bool true) ∧ Below w.heap.size w w' := by
  have HF := Lib.hid wfitOk
  have HTB := Lib.hid htab
  clear htab
  have hz : -9223372036854775808 ≤ z ∧ z ≤ 9223372036854775807 := by
    simp [Lit.wf, IntKind.min, IntKind.max, IntKind.bits, IntKind.signed] at hwf
    omega
  obtain ⟨hz1, hz2⟩ := hz
  clear hwf
  by_cases hs : n0 ≤ 20
  · have l0 := hs
    clear hs
    obtain ⟨A, g0⟩ := a0.gi l0
    clear a0
    have hzz : (z != z) = false := by simp
    have hpart : Hid ((-9223372036854775808 ≤ A ∧ A ≤ 9223372036854775807) ∨ A < -9223372036854775808 ∨ 9223372036854775807 < A) := Lib.hid (by omega)
    rcases hpart.out with ⟨hr1, hr2⟩ | hr | hr
    all_goals clear hpart
    · obtain ⟨s1, hs1, HS1⟩ : ∃ s1, 0 ≤ s1 ∧ Hid (sgnZ (A - -9223372036854775808) = s1) := ⟨_, by unfold sgnZ; split; omega; rw [if_neg (by omega)]; omega, rfl⟩
      obtain ⟨s2, hs2, HS2⟩ : ∃ s2, s2 ≤ 0 ∧ Hid (sgnZ (A - 9223372036854775807) = s2) := ⟨_, by unfold sgnZ; split; omega; rw [if_pos (by omega)]; omega, rfl⟩
      have HSS := Lib.hid (sgnZ_self A)
      have hbt := (Below.refl w.heap.size w).alloc (Nat.le_refl _) (.cells #[.bool b0, .slice o0 n0 m0] 25)
      have HB_x0 := Lib.hid (heap_alloc_new w (.cells #[.bool b0, .slice o0 n0 m0] 25))
      replace g0 := g0.below hbt
      have x00 := (two_cells HB_x0.out).1
      have x01 := (two_cells HB_x0.out).2.1
      go_enter Tryd.func7, Tryd.ntmps7
      go_wp2_with fail
      generalize (w.alloc (.cells #[.bool b0, .slice o0 n0 m0] 25)) = w0 at *
      refine (HF.out _ (tab_below HTB.out hbt)).mono ?_
      rintro e wx1 ⟨rfl, hbx⟩
      replace g0 := g0.below hbx
      replace hbt := hbt.trans (hbx.mono hbt.size)
      replace HB_x0 := Lib.hid ((hbx.block _ (lt_of_block HB_x0.out)).trans HB_x0.out)
      clear hbx
      replace x00 := (two_cells HB_x0.out).1
      replace x01 := (two_cells HB_x0.out).2.1
      go_wp2_with fail
      refine (short_t1 20 _ rfl l0).mono ?_
      rintro e wx2 ⟨rfl, hbx⟩
      replace g0 := g0.below hbx
      replace hbt := hbt.trans (hbx.mono hbt.size)
      replace HB_x0 := Lib.hid ((hbx.block _ (lt_of_block HB_x0.out)).trans HB_x0.out)
      clear hbx
      replace x00 := (two_cells HB_x0.out).1
      replace x01 := (two_cells HB_x0.out).2.1
      go_wp2_with fail
      refine (wof_any z _ hz1 hz2).mono ?_
      rintro e wx3 ⟨v_x, rfl, c_x, hbx⟩
      replace g0 := g0.below hbx
      replace hbt := hbt.trans (hbx.mono hbt.size)
      replace HB_x0 := Lib.hid ((hbx.block _ (lt_of_block HB_x0.out)).trans HB_x0.out)
      clear hbx
      replace x00 := (two_cells HB_x0.out).1
      replace x01 := (two_cells HB_x0.out).2.1
      obtain ⟨b_x, o_x, l_x, k_x, rfl⟩ := c_x.shape
      have hlt_x0 := lt_of_block HB_x0.out
      go_wp2_with fail
      clear hlt_x0
      have hbx : Below wx3.heap.size wx3 (wx3.alloc (.cells #[.bool b_x, .slice o_x l_x k_x] 25)) := (Below.refl _ _).alloc (Nat.le_refl _) _
      replace g0 := g0.below hbx
      replace c_x := c_x.below hbx
      replace hbt := hbt.trans (hbx.mono hbt.size)
      replace HB_x0 := Lib.hid ((hbx.block _ (lt_of_block HB_x0.out)).trans HB_x0.out)
      clear hbx
      replace x00 := (two_cells HB_x0.out).1
      replace x01 := (two_cells HB_x0.out).2.1
      have HB_xx := Lib.hid (heap_alloc_new wx3 (.cells #[.bool b_x, .slice o_x l_x k_x] 25))
      have xx0 := (two_cells HB_xx.out).1
      have xx1 := (two_cells HB_xx.out).2.1
      generalize (wx3.alloc (.cells #[.bool b_x, .slice o_x l_x k_x] 25)) = wx4 at *
      refine (wsmall_yes _ z 2 _ c_x.gi (by omega) hz1 hz2).mono ?_
      rintro e wx5 ⟨rfl, hbx⟩
      replace g0 := g0.below hbx
      replace c_x := c_x.below hbx
      replace hbt := hbt.trans (hbx.mono hbt.size)
      replace HB_x0 := Lib.hid ((hbx.block _ (lt_of_block HB_x0.out)).trans HB_x0.out)
      replace HB_xx := Lib.hid ((hbx.block _ (lt_of_block HB_xx.out)).trans HB_xx.out)
      clear hbx
      replace x00 := (two_cells HB_x0.out).1
      replace x01 := (two_cells HB_x0.out).2.1
      replace xx0 := (two_cells HB_xx.out).1
      replace xx1 := (two_cells HB_xx.out).2.1
      go_wp2_with fail
      refine (wtext_any _ z 2 _ (tab_below HTB.out hbt) c_x.gi (by omega)).mono ?_
      rintro e wx6 ⟨rfl, hbx⟩
      replace g0 := g0.below hbx
      replace c_x := c_x.below hbx
      replace hbt := hbt.trans (hbx.mono hbt.size)
      replace HB_x0 := Lib.hid ((hbx.block _ (lt_of_block HB_x0.out)).trans HB_x0.out)
      replace HB_xx := Lib.hid ((hbx.block _ (lt_of_block HB_xx.out)).trans HB_xx.out)
      clear hbx
      replace x00 := (two_cells HB_x0.out).1
      replace x01 := (two_cells HB_x0.out).2.1
      replace xx0 := (two_cells HB_xx.out).1
      replace xx1 := (two_cells HB_xx.out).2.1
      go_wp2_with fail
      refine (itoa_any z _ hz1 hz2 (tab_below HTB.out hbt)).mono ?_
      rintro e wx7 ⟨rfl, hbx⟩
      replace g0 := g0.below hbx
      replace c_x := c_x.below hbx
      replace hbt := hbt.trans (hbx.mono hbt.size)
      replace HB_x0 := Lib.hid ((hbx.block _ (lt_of_block HB_x0.out)).trans HB_x0.out)
      replace HB_xx := Lib.hid ((hbx.block _ (lt_of_block HB_xx.out)).trans HB_xx.out)
      clear hbx
      replace x00 := (two_cells HB_x0.out).1
      replace x01 := (two_cells HB_x0.out).2.1
      replace xx0 := (two_cells HB_xx.out).1
      replace xx1 := (two_cells HB_xx.out).2.1
      go_wp2_with fail
      refine (wsmall_yes _ A 20 _ g0 (by omega) hr1 hr2).mono ?_
      rintro e wx8 ⟨rfl, hbx⟩
      replace g0 := g0.below hbx
      replace c_x := c_x.below hbx
      replace hbt := hbt.trans (hbx.mono hbt.size)
      replace HB_x0 := Lib.hid ((hbx.block _ (lt_of_block HB_x0.out)).trans HB_x0.out)
      replace HB_xx := Lib.hid ((hbx.block _ (lt_of_block HB_xx.out)).trans HB_xx.out)
      clear hbx
      replace x00 := (two_cells HB_x0.out).1
      replace x01 := (two_cells HB_x0.out).2.1
      replace xx0 := (two_cells HB_xx.out).1
      replace xx1 := (two_cells HB_xx.out).2.1
      go_wp2_with fail
      go_region_held3 (fun w' => w'.cell? ⟨w.heap.size, 0, none⟩ = some (.bool b0) ∧ w'.cell? ⟨w.heap.size, 1, none⟩ = some (.slice o0 n0 m0))
        (first | exact ⟨x00, x01⟩ | go_keep)
        (first
          | (have := tok2; go_at_call 20; refine (wcmp_s _ _ A 9223372036854775807 20 2 s2 _ g0 c_p.gi HS2.out (by omega) (by omega)).mono ?_; rintro e wx12 ⟨rfl, hbx⟩; replace g0 := g0.below hbx; replace c_x := c_x.below hbx; replace c_m := c_m.below hbx; replace c_p := c_p.below hbx; replace hbt := hbt.trans (hbx.mono hbt.size); replace HB_x0 := Lib.hid ((hbx.block _ (lt_of_block HB_x0.out)).trans HB_x0.out); replace HB_xx := Lib.hid ((hbx.block _ (lt_of_block HB_xx.out)).trans HB_xx.out); clear hbx; replace x00 := (two_cells HB_x0.out).1; replace x01 := (two_cells HB_x0.out).2.1; replace xx0 := (two_cells HB_xx.out).1; replace xx1 := (two_cells HB_xx.out).2.1; have tok3 := Lib.hid trivial)
          | (have := tok1; go_at_call 26; refine (wof_any 9223372036854775807 _ (by omega) (by omega)).mono ?_; rintro e wx11 ⟨v_p, rfl, c_p, hbx⟩; replace g0 := g0.below hbx; replace c_x := c_x.below hbx; replace c_m := c_m.below hbx; replace hbt := hbt.trans (hbx.mono hbt.size); replace HB_x0 := Lib.hid ((hbx.block _ (lt_of_block HB_x0.out)).trans HB_x0.out); replace HB_xx := Lib.hid ((hbx.block _ (lt_of_block HB_xx.out)).trans HB_xx.out); clear hbx; replace x00 := (two_cells HB_x0.out).1; replace x01 := (two_cells HB_x0.out).2.1; replace xx0 := (two_cells HB_xx.out).1; replace xx1 := (two_cells HB_xx.out).2.1; obtain ⟨b_p, o_p, l_p, k_p, rfl⟩ := c_p.shape; have tok2 := Lib.hid trivial)
          | (have := tok0; go_at_call 20; refine (wcmp_s _ _ A (-9223372036854775808) 20 2 s1 _ g0 c_m.gi HS1.out (by omega) (by omega)).mono ?_; rintro e wx10 ⟨rfl, hbx⟩; replace g0 := g0.below hbx; replace c_x := c_x.below hbx; replace c_m := c_m.below hbx; replace hbt := hbt.trans (hbx.mono hbt.size); replace HB_x0 := Lib.hid ((hbx.block _ (lt_of_block HB_x0.out)).trans HB_x0.out); replace HB_xx := Lib.hid ((hbx.block _ (lt_of_block HB_xx.out)).trans HB_xx.out); clear hbx; replace x00 := (two_cells HB_x0.out).1; replace x01 := (two_cells HB_x0.out).2.1; replace xx0 := (two_cells HB_xx.out).1; replace xx1 := (two_cells HB_xx.out).2.1; have tok1 := Lib.hid trivial)
          | (skip; go_at_call 26; refine (wof_any (-9223372036854775808) _ (by omega) (by omega)).mono ?_; rintro e wx9 ⟨v_m, rfl, c_m, hbx'⟩; have hbx := undrew hbx'; clear hbx'; replace g0 := g0.below hbx; replace c_x := c_x.below hbx; replace hbt := hbt.trans (hbx.mono hbt.size); replace HB_x0 := Lib.hid ((hbx.block _ (lt_of_block HB_x0.out)).trans HB_x0.out); replace HB_xx := Lib.hid ((hbx.block _ (lt_of_block HB_xx.out)).trans HB_xx.out); clear hbx; replace x00 := (two_cells HB_x0.out).1; replace x01 := (two_cells HB_x0.out).2.1; replace xx0 := (two_cells HB_xx.out).1; replace xx1 := (two_cells HB_xx.out).2.1; obtain ⟨b_m, o_m, l_m, k_m, rfl⟩ := c_m.shape; have tok0 := Lib.hid trivial))
      go_wp2_with fail
      refine wp_region_noPanic ?_
      refine wp_region_held_drew (S := fun w' => w'.cell? ⟨w.heap.size, 0, none⟩ = some (.bool b0) ∧ w'.cell? ⟨w.heap.size, 1, none⟩ = some (.slice o0 n0 m0)) (by kernel_rfl) ⟨x00, x01⟩ (fun hHeld => ?_)
      refine wpAnyH_take (i := 0) (v := ?_) (by simp only [List.getElem?_toArray, List.getElem?_cons_zero]; rfl) (by kernel_rfl) (by kernel_rfl) (by kernel_rfl) (fun _ _ _ h => h) (Or.inl ⟨by rfl, ?_⟩) (by assumption) ?_
      rotate_left 1
      · ((intro w hSw; (try dsimp only at hSw); go_simp) <;> (try with_reducible rfl))
      try simp only [Act.put, List.setIfInBounds_toArray, List.set_cons_zero, List.set_cons_succ]
      refine wpAnyH_take (i := 1) (v := ?_) (by simp only [List.getElem?_toArray, List.getElem?_cons_succ, List.getElem?_cons_zero]; rfl) (by kernel_rfl) (by kernel_rfl) (by kernel_rfl) (fun _ _ _ h => h) (Or.inl ⟨by rfl, ?_⟩) (by assumption) ?_
      rotate_left 1
      · ((intro w hSw; (try dsimp only at hSw); go_simp) <;> (try with_reducible rfl))
      try simp only [Act.put, List.setIfInBounds_toArray, List.set_cons_zero, List.set_cons_succ]
      refine wpAnyH_take (i := 2) (v := ?_) (by simp only [List.getElem?_toArray, List.getElem?_cons_succ, List.getElem?_cons_zero]; rfl) (by kernel_rfl) (by kernel_rfl) (by kernel_rfl) (fun _ _ _ h => h) (Or.inl ⟨by rfl, ?_⟩) (by assumption) ?_
      rotate_left 1
      · ((intro w hSw; (try dsimp only at hSw); go_simp) <;> (try with_reducible rfl))
      try simp only [Act.put, List.setIfInBounds_toArray, List.set_cons_zero, List.set_cons_succ]
      refine wpAnyH_take (i := 3) (v := ?_) (by simp only [List.getElem?_toArray, List.getElem?_cons_succ, List.getElem?_cons_zero]; rfl) (by kernel_rfl) (by kernel_rfl) (by kernel_rfl) (fun _ _ _ h => h) (Or.inl ⟨by rfl, ?_⟩) (by assumption) ?_
      rotate_left 1
      · ((intro w hSw; (try dsimp only at hSw); go_simp) <;> (try with_reducible rfl))
      try simp only [Act.put, List.setIfInBounds_toArray, List.set_cons_zero, List.set_cons_succ]
      refine wpAnyH_take (i := 4) (v := ?_) (by simp only [List.getElem?_toArray, List.getElem?_cons_succ, List.getElem?_cons_zero]; rfl) (by kernel_rfl) (by kernel_rfl) (by kernel_rfl) (fun _ _ _ h => h) (Or.inl ⟨by rfl, ?_⟩) (by assumption) ?_
      rotate_left 1
      · ((intro w hSw; (try dsimp only at hSw); go_simp) <;> (try with_reducible rfl))
      try simp only [Act.put, List.setIfInBounds_toArray, List.set_cons_zero, List.set_cons_succ]
      refine wpAnyH_take (i := 5) (v := ?_) (by simp only [List.getElem?_toArray, List.getElem?_cons_succ, List.getElem?_cons_zero]; rfl) (by kernel_rfl) (by kernel_rfl) (by kernel_rfl) (fun _ _ _ h => h) (Or.inl ⟨by rfl, ?_⟩) (by assumption) ?_
      rotate_left 1
      · ((intro w hSw; (try dsimp only at hSw); go_simp) <;> (try with_reducible rfl))
      try simp only [Act.put, List.setIfInBounds_toArray, List.set_cons_zero, List.set_cons_succ]
      refine wpAnyH_take (i := 6) (v := ?_) (by simp only [List.getElem?_toArray, List.getElem?_cons_succ, List.getElem?_cons_zero]; rfl) (by kernel_rfl) (by kernel_rfl) (by kernel_rfl) (fun _ _ _ h => h) (Or.inl ⟨by rfl, ?_⟩) (by assumption) ?_
      rotate_left 1
      · ((intro w hSw; (try dsimp only at hSw); go_simp) <;> (try with_reducible rfl))
      try simp only [Act.put, List.setIfInBounds_toArray, List.set_cons_zero, List.set_cons_succ]
      refine wpAnyH_take (i := 8) (v := ?_) (by simp only [List.getElem?_toArray, List.getElem?_cons_succ, List.getElem?_cons_zero]; rfl) (by kernel_rfl) (by kernel_rfl) (by kernel_rfl) (fun _ _ _ h => h) (Or.inl ⟨by rfl, ?_⟩) (by assumption) ?_
      rotate_left 1
      · ((intro w hSw; (try dsimp only at hSw); go_simp) <;> (try with_reducible rfl))
      try simp only [Act.put, List.setIfInBounds_toArray, List.set_cons_zero, List.set_cons_succ]
      refine wpAnyH_ready (rs := [7]) (by kernel_rfl) (by simp) ?_
      refine AllReadyH.cons (by simp only [List.getElem?_toArray, List.getElem?_cons_succ, List.getElem?_cons_zero]; rfl) (fun K hK => ?_) AllReadyH.nil
      go_simp
      refine (wof_any A _ hr1 hr2).mono ?_
      rintro e wx13 ⟨v_q, rfl, c_q, hbx'⟩
      have hbx := undrew hbx'
      clear hbx'
      replace g0 := g0.below hbx
      replace c_x := c_x.below hbx
      replace c_m := c_m.below hbx
      replace c_p := c_p.below hbx
      replace hbt := hbt.trans (hbx.mono hbt.size)
      replace HB_x0 := Lib.hid ((hbx.block _ (lt_of_block HB_x0.out)).trans HB_x0.out)
      replace HB_xx := Lib.hid ((hbx.block _ (lt_of_block HB_xx.out)).trans HB_xx.out)
      clear hbx
      replace x00 := (two_cells HB_x0.out).1
      replace x01 := (two_cells HB_x0.out).2.1
      replace xx0 := (two_cells HB_xx.out).1
      replace xx1 := (two_cells HB_xx.out).2.1
      obtain ⟨b_q, o_q, l_q, k_q, rfl⟩ := c_q.shape
      clear hHeld
      refine hK.out _ _ ⟨x00, x01⟩ (fun hHeld => ?_)
      clear hK K
      try simp only [Act.put, List.setIfInBounds_toArray, List.set_cons_zero, List.set_cons_succ]
      refine wpAnyH_ready (rs := [9]) (by kernel_rfl) (by simp) ?_
      refine AllReadyH.cons (by simp only [List.getElem?_toArray, List.getElem?_cons_succ, List.getElem?_cons_zero]; rfl) (fun K hK => ?_) AllReadyH.nil
      go_simp
      refine (wcmp_s _ _ A A 2 20 0 _ c_q.gi g0 HSS.out (by omega) (by omega)).mono ?_
      rintro e wx14 ⟨rfl, hbx⟩
      replace g0 := g0.below hbx
      replace c_x := c_x.below hbx
      replace c_m := c_m.below hbx
      replace c_p := c_p.below hbx
      replace c_q := c_q.below hbx
      replace hbt := hbt.trans (hbx.mono hbt.size)
      replace HB_x0 := Lib.hid ((hbx.block _ (lt_of_block HB_x0.out)).trans HB_x0.out)
      replace HB_xx := Lib.hid ((hbx.block _ (lt_of_block HB_xx.out)).trans HB_xx.out)
      clear hbx
      replace x00 := (two_cells HB_x0.out).1
      replace x01 := (two_cells HB_x0.out).2.1
      replace xx0 := (two_cells HB_xx.out).1
      replace xx1 := (two_cells HB_xx.out).2.1
      clear hHeld
      refine hK.out _ _ ⟨x00, x01⟩ (fun hHeld => ?_)
      clear hK K
      try simp only [Act.put, List.setIfInBounds_toArray, List.set_cons_zero, List.set_cons_succ]
      refine wpAnyH_take (i := 10) (v := ?_) (by simp only [List.getElem?_toArray, List.getElem?_cons_succ, List.getElem?_cons_zero]; rfl) (by kernel_rfl) (by kernel_rfl) (by kernel_rfl) (fun _ _ _ h => h) (Or.inl ⟨by rfl, ?_⟩) (by assumption) ?_
      rotate_left 1
      · ((intro w hSw; (try dsimp only at hSw); go_simp) <;> (try with_reducible rfl))
      try simp only [Act.put, List.setIfInBounds_toArray, List.set_cons_zero, List.set_cons_succ]
      refine wpAnyH_take (i := 11) (v := ?_) (by simp only [List.getElem?_toArray, List.getElem?_cons_succ, List.getElem?_cons_zero]; rfl) (by kernel_rfl) (by kernel_rfl) (by kernel_rfl) (fun _ _ _ h => h) (Or.inl ⟨by rfl, ?_⟩) (by assumption) ?_
      rotate_left 1
      · ((intro w hSw; (try dsimp only at hSw); go_simp) <;> (try with_reducible rfl))
      try simp only [Act.put, List.setIfInBounds_toArray, List.set_cons_zero, List.set_cons_succ]
      refine wpAnyH_take (i := 12) (v := ?_) (by simp only [List.getElem?_toArray, List.getElem?_cons_succ, List.getElem?_cons_zero]; rfl) (by kernel_rfl) (by kernel_rfl) (by kernel_rfl) (fun _ _ _ h => h) (Or.inl ⟨by rfl, ?_⟩) (by assumption) ?_
      rotate_left 1
      · ((intro w hSw; (try dsimp only at hSw); go_simp) <;> (try with_reducible rfl))
      try simp only [Act.put, List.setIfInBounds_toArray, List.set_cons_zero, List.set_cons_succ]
      refine wpAnyH_take (i := 13) (by simp only [List.getElem?_toArray, List.getElem?_cons_succ, List.getElem?_cons_zero]; rfl) (by kernel_rfl) (by kernel_rfl) (by kernel_rfl) (fun _ _ _ h => h) (Or.inr ⟨by rfl, rfl⟩) (by assumption) ?_
      try simp only [Act.put, List.setIfInBounds_toArray, List.set_cons_zero, List.set_cons_succ]
      refine wpAnyH_take (i := 14) (by simp only [List.getElem?_toArray, List.getElem?_cons_succ, List.getElem?_cons_zero]; rfl) (by kernel_rfl) (by kernel_rfl) (by kernel_rfl) (fun _ _ _ h => h) (Or.inr ⟨by rfl, rfl⟩) (by assumption) ?_
      try simp only [Act.put, List.setIfInBounds_toArray, List.set_cons_zero, List.set_cons_succ]
      refine wpAnyH_take (i := 15) (by simp only [List.getElem?_toArray, List.getElem?_cons_succ, List.getElem?_cons_zero]; rfl) (by kernel_rfl) (by kernel_rfl) (by kernel_rfl) (fun _ _ _ h => h) (Or.inr ⟨by rfl, rfl⟩) (by assumption) ?_
      try simp only [Act.put, List.setIfInBounds_toArray, List.set_cons_zero, List.set_cons_succ]
      refine wpAnyH_take (i := 16) (by simp only [List.getElem?_toArray, List.getElem?_cons_succ, List.getElem?_cons_zero]; rfl) (by kernel_rfl) (by kernel_rfl) (by kernel_rfl) (fun _ _ _ h => h) (Or.inr ⟨by rfl, rfl⟩) (by assumption) ?_
      try simp only [Act.put, List.setIfInBounds_toArray, List.set_cons_zero, List.set_cons_succ]
      refine wpAnyH_take (i := 17) (by simp only [List.getElem?_toArray, List.getElem?_cons_succ, List.getElem?_cons_zero]; rfl) (by kernel_rfl) (by kernel_rfl) (by kernel_rfl) (fun _ _ _ h => h) (Or.inr ⟨by rfl, rfl⟩) (by assumption) ?_
      try simp only [Act.put, List.setIfInBounds_toArray, List.set_cons_zero, List.set_cons_succ]
      refine wpAnyH_take (i := 18) (by simp only [List.getElem?_toArray, List.getElem?_cons_succ, List.getElem?_cons_zero]; rfl) (by kernel_rfl) (by kernel_rfl) (by kernel_rfl) (fun _ _ _ h => h) (Or.inr ⟨by rfl, rfl⟩) (by assumption) ?_
      try simp only [Act.put, List.setIfInBounds_toArray, List.set_cons_zero, List.set_cons_succ]
      refine wpAnyH_take (i := 19) (v := ?_) (by simp only [List.getElem?_toArray, List.getElem?_cons_succ, List.getElem?_cons_zero]; rfl) (by kernel_rfl) (by kernel_rfl) (by kernel_rfl) (fun _ _ _ h => h) (Or.inl ⟨by rfl, ?_⟩) (by assumption) ?_
      rotate_left 1
      · ((intro w hSw; (try dsimp only at hSw); go_simp) <;> (try with_reducible rfl))
      try simp only [Act.put, List.setIfInBounds_toArray, List.set_cons_zero, List.set_cons_succ]
      refine wpAnyH_take (i := 20) (v := ?_) (by simp only [List.getElem?_toArray, List.getElem?_cons_succ, List.getElem?_cons_zero]; rfl) (by kernel_rfl) (by kernel_rfl) (by kernel_rfl) (fun _ _ _ h => h) (Or.inl ⟨by rfl, ?_⟩) (by assumption) ?_
      rotate_left 1
      · ((intro w hSw; (try dsimp only at hSw); go_simp) <;> (try with_reducible rfl))
      try simp only [Act.put, List.setIfInBounds_toArray, List.set_cons_zero, List.set_cons_succ]
      refine wpAnyH_take (i := 21) (v := ?_) (by simp only [List.getElem?_toArray, List.getElem?_cons_succ, List.getElem?_cons_zero]; rfl) (by kernel_rfl) (by kernel_rfl) (by kernel_rfl) (fun _ _ _ h => h) (Or.inl ⟨by rfl, ?_⟩) (by assumption) ?_
      rotate_left 1
      · ((intro w hSw; (try dsimp only at hSw); go_simp) <;> (try with_reducible rfl))
      try simp only [Act.put, List.setIfInBounds_toArray, List.set_cons_zero, List.set_cons_succ]
      refine wpAnyH_done (by kernel_rfl) ?_ _
      refine NoPanic.normal ?_
      go_wp2_with fail
      go_ret
      exact ⟨rfl, hbt⟩
    · obtain ⟨s1, rfl, HS1⟩ : ∃ s1, s1 = -1 ∧ Hid (sgnZ (A - -9223372036854775808) = s1) := ⟨-1, rfl, by show sgnZ (A - -9223372036854775808) = -1; unfold sgnZ; rw [if_neg (by omega), if_pos (by omega)]⟩
      have hbt := (Below.refl w.heap.size w).alloc (Nat.le_refl _) (.cells #[.bool b0, .slice o0 n0 m0] 25)
      have HB_x0 := Lib.hid (heap_alloc_new w (.cells #[.bool b0, .slice o0 n0 m0] 25))
      replace g0 := g0.below hbt
      have x00 := (two_cells HB_x0.out).1
      have x01 := (two_cells HB_x0.out).2.1
      go_enter Tryd.func7, Tryd.ntmps7
      go_wp2_with fail
      generalize (w.alloc (.cells #[.bool b0, .slice o0 n0 m0] 25)) = w0 at *
      refine (HF.out _ (tab_below HTB.out hbt)).mono ?_
      rintro e wx1 ⟨rfl, hbx⟩
      replace g0 := g0.below hbx
      replace hbt := hbt.trans (hbx.mono hbt.size)
      replace HB_x0 := Lib.hid ((hbx.block _ (lt_of_block HB_x0.out)).trans HB_x0.out)
      clear hbx
      replace x00 := (two_cells HB_x0.out).1
      replace x01 := (two_cells HB_x0.out).2.1
      go_wp2_with fail
      refine (short_t1 20 _ rfl l0).mono ?_
      rintro e wx2 ⟨rfl, hbx⟩
      replace g0 := g0.below hbx
      replace hbt := hbt.trans (hbx.mono hbt.size)
      replace HB_x0 := Lib.hid ((hbx.block _ (lt_of_block HB_x0.out)).trans HB_x0.out)
      clear hbx
      replace x00 := (two_cells HB_x0.out).1
      replace x01 := (two_cells HB_x0.out).2.1
      go_wp2_with fail
      refine (wof_any z _ hz1 hz2).mono ?_
      rintro e wx3 ⟨v_x, rfl, c_x, hbx⟩
      replace g0 := g0.below hbx
      replace hbt := hbt.trans (hbx.mono hbt.size)
      replace HB_x0 := Lib.hid ((hbx.block _ (lt_of_block HB_x0.out)).trans HB_x0.out)
      clear hbx
      replace x00 := (two_cells HB_x0.out).1
      replace x01 := (two_cells HB_x0.out).2.1
      obtain ⟨b_x, o_x, l_x, k_x, rfl⟩ := c_x.shape
      have hlt_x0 := lt_of_block HB_x0.out
      go_wp2_with fail
      clear hlt_x0
      have hbx : Below wx3.heap.size wx3 (wx3.alloc (.cells #[.bool b_x, .slice o_x l_x k_x] 25)) := (Below.refl _ _).alloc (Nat.le_refl _) _
      replace g0 := g0.below hbx
      replace c_x := c_x.below hbx
      replace hbt := hbt.trans (hbx.mono hbt.size)
      replace HB_x0 := Lib.hid ((hbx.block _ (lt_of_block HB_x0.out)).trans HB_x0.out)
      clear hbx
      replace x00 := (two_cells HB_x0.out).1
      replace x01 := (two_cells HB_x0.out).2.1
      have HB_xx := Lib.hid (heap_alloc_new wx3 (.cells #[.bool b_x, .slice o_x l_x k_x] 25))
      have xx0 := (two_cells HB_xx.out).1
      have xx1 := (two_cells HB_xx.out).2.1
      generalize (wx3.alloc (.cells #[.bool b_x, .slice o_x l_x k_x] 25)) = wx4 at *
      refine (wsmall_yes _ z 2 _ c_x.gi (by omega) hz1 hz2).mono ?_
      rintro e wx5 ⟨rfl, hbx⟩
      replace g0 := g0.below hbx
      replace c_x := c_x.below hbx
      replace hbt := hbt.trans (hbx.mono hbt.size)
      replace HB_x0 := Lib.hid ((hbx.block _ (lt_of_block HB_x0.out)).trans HB_x0.out)
      replace HB_xx := Lib.hid ((hbx.block _ (lt_of_block HB_xx.out)).trans HB_xx.out)
      clear hbx
      replace x00 := (two_cells HB_x0.out).1
      replace x01 := (two_cells HB_x0.out).2.1
      replace xx0 := (two_cells HB_xx.out).1
      replace xx1 := (two_cells HB_xx.out).2.1
      go_wp2_with fail
      refine (wtext_any _ z 2 _ (tab_below HTB.out hbt) c_x.gi (by omega)).mono ?_
      rintro e wx6 ⟨rfl, hbx⟩
      replace g0 := g0.below hbx
      replace c_x := c_x.below hbx
      replace hbt := hbt.trans (hbx.mono hbt.size)
      replace HB_x0 := Lib.hid ((hbx.block _ (lt_of_block HB_x0.out)).trans HB_x0.out)
      replace HB_xx := Lib.hid ((hbx.block _ (lt_of_block HB_xx.out)).trans HB_xx.out)
      clear hbx
      replace x00 := (two_cells HB_x0.out).1
      replace x01 := (two_cells HB_x0.out).2.1
      replace xx0 := (two_cells HB_xx.out).1
      replace xx1 := (two_cells HB_xx.out).2.1
      go_wp2_with fail
      refine (itoa_any z _ hz1 hz2 (tab_below HTB.out hbt)).mono ?_
      rintro e wx7 ⟨rfl, hbx⟩
      replace g0 := g0.below hbx
      replace c_x := c_x.below hbx
      replace hbt := hbt.trans (hbx.mono hbt.size)
      replace HB_x0 := Lib.hid ((hbx.block _ (lt_of_block HB_x0.out)).trans HB_x0.out)
      replace HB_xx := Lib.hid ((hbx.block _ (lt_of_block HB_xx.out)).trans HB_xx.out)
      clear hbx
      replace x00 := (two_cells HB_x0.out).1
      replace x01 := (two_cells HB_x0.out).2.1
      replace xx0 := (two_cells HB_xx.out).1
      replace xx1 := (two_cells HB_xx.out).2.1
      go_wp2_with fail
      refine (wsmall_no _ A 20 _ g0 (Or.inl hr)).mono ?_
      rintro e wx8 ⟨rfl, hbx⟩
      replace g0 := g0.below hbx
      replace c_x := c_x.below hbx
      replace hbt := hbt.trans (hbx.mono hbt.size)
      replace HB_x0 := Lib.hid ((hbx.block _ (lt_of_block HB_x0.out)).trans HB_x0.out)
      replace HB_xx := Lib.hid ((hbx.block _ (lt_of_block HB_xx.out)).trans HB_xx.out)
      clear hbx
      replace x00 := (two_cells HB_x0.out).1
      replace x01 := (two_cells HB_x0.out).2.1
      replace xx0 := (two_cells HB_xx.out).1
      replace xx1 := (two_cells HB_xx.out).2.1
      go_wp2_with fail
      refine wp_region_noPanic ?_
      refine wp_region_held_drew (S := fun w' => w'.cell? ⟨w.heap.size, 0, none⟩ = some (.bool b0) ∧ w'.cell? ⟨w.heap.size, 1, none⟩ = some (.slice o0 n0 m0)) (by kernel_rfl) ⟨x00, x01⟩ (fun hHeld => ?_)
      refine wpAnyH_take (i := 0) (v := ?_) (by simp only [List.getElem?_toArray, List.getElem?_cons_zero]; rfl) (by kernel_rfl) (by kernel_rfl) (by kernel_rfl) (fun _ _ _ h => h) (Or.inl ⟨by rfl, ?_⟩) (by assumption) ?_
      rotate_left 1
      · ((intro w hSw; (try dsimp only at hSw); go_simp) <;> (try with_reducible rfl))
      try simp only [Act.put, List.setIfInBounds_toArray, List.set_cons_zero, List.set_cons_succ]
      refine wpAnyH_ready (rs := [1]) (by kernel_rfl) (by simp) ?_
      refine AllReadyH.cons (by simp only [List.getElem?_toArray, List.getElem?_cons_succ, List.getElem?_cons_zero]; rfl) (fun K hK => ?_) AllReadyH.nil
      go_simp
      refine (wof_any (-9223372036854775808) _ (by omega) (by omega)).mono ?_
      rintro e wx9 ⟨v_m, rfl, c_m, hbx'⟩
      have hbx := undrew hbx'
      clear hbx'
      replace g0 := g0.below hbx
      replace c_x := c_x.below hbx
      replace hbt := hbt.trans (hbx.mono hbt.size)
      replace HB_x0 := Lib.hid ((hbx.block _ (lt_of_block HB_x0.out)).trans HB_x0.out)
      replace HB_xx := Lib.hid ((hbx.block _ (lt_of_block HB_xx.out)).trans HB_xx.out)
      clear hbx
      replace x00 := (two_cells HB_x0.out).1
      replace x01 := (two_cells HB_x0.out).2.1
      replace xx0 := (two_cells HB_xx.out).1
      replace xx1 := (two_cells HB_xx.out).2.1
      obtain ⟨b_m, o_m, l_m, k_m, rfl⟩ := c_m.shape
      clear hHeld
      refine hK.out _ _ ⟨x00, x01⟩ (fun hHeld => ?_)
      clear hK K
      try simp only [Act.put, List.setIfInBounds_toArray, List.set_cons_zero, List.set_cons_succ]
      refine wpAnyH_ready (rs := [2]) (by kernel_rfl) (by simp) ?_
      refine AllReadyH.cons (by simp only [List.getElem?_toArray, List.getElem?_cons_succ, List.getElem?_cons_zero]; rfl) (fun K hK => ?_) AllReadyH.nil
      go_simp
      refine (wcmp_s _ _ A (-9223372036854775808) 20 2 (-1) _ g0 c_m.gi HS1.out (by omega) (by omega)).mono ?_
      rintro e wx10 ⟨rfl, hbx⟩
      replace g0 := g0.below hbx
      replace c_x := c_x.below hbx
      replace c_m := c_m.below hbx
      replace hbt := hbt.trans (hbx.mono hbt.size)
      replace HB_x0 := Lib.hid ((hbx.block _ (lt_of_block HB_x0.out)).trans HB_x0.out)
      replace HB_xx := Lib.hid ((hbx.block _ (lt_of_block HB_xx.out)).trans HB_xx.out)
      clear hbx
      replace x00 := (two_cells HB_x0.out).1
      replace x01 := (two_cells HB_x0.out).2.1
      replace xx0 := (two_cells HB_xx.out).1
      replace xx1 := (two_cells HB_xx.out).2.1
      clear hHeld
      refine hK.out _ _ ⟨x00, x01⟩ (fun hHeld => ?_)
      clear hK K
      try simp only [Act.put, List.setIfInBounds_toArray, List.set_cons_zero, List.set_cons_succ]
      refine wpAnyH_take (i := 3) (v := ?_) (by simp only [List.getElem?_toArray, List.getElem?_cons_succ, List.getElem?_cons_zero]; rfl) (by kernel_rfl) (by kernel_rfl) (by kernel_rfl) (fun _ _ _ h => h) (Or.inl ⟨by rfl, ?_⟩) (by assumption) ?_
      rotate_left 1
      · ((intro w hSw; (try dsimp only at hSw); go_simp) <;> (try with_reducible rfl))
      try simp only [Act.put, List.setIfInBounds_toArray, List.set_cons_zero, List.set_cons_succ]
      refine wpAnyH_take (i := 4) (v := ?_) (by simp only [List.getElem?_toArray, List.getElem?_cons_succ, List.getElem?_cons_zero]; rfl) (by kernel_rfl) (by kernel_rfl) (by kernel_rfl) (fun _ _ _ h => h) (Or.inl ⟨by rfl, ?_⟩) (by assumption) ?_
      rotate_left 1
      · ((intro w hSw; (try dsimp only at hSw); go_simp) <;> (try with_reducible rfl))
      try simp only [Act.put, List.setIfInBounds_toArray, List.set_cons_zero, List.set_cons_succ]
      refine wpAnyH_take (i := 5) (by simp only [List.getElem?_toArray, List.getElem?_cons_succ, List.getElem?_cons_zero]; rfl) (by kernel_rfl) (by kernel_rfl) (by kernel_rfl) (fun _ _ _ h => h) (Or.inr ⟨by rfl, rfl⟩) (by assumption) ?_
      try simp only [Act.put, List.setIfInBounds_toArray, List.set_cons_zero, List.set_cons_succ]
      refine wpAnyH_take (i := 6) (by simp only [List.getElem?_toArray, List.getElem?_cons_succ, List.getElem?_cons_zero]; rfl) (by kernel_rfl) (by kernel_rfl) (by kernel_rfl) (fun _ _ _ h => h) (Or.inr ⟨by rfl, rfl⟩) (by assumption) ?_
      try simp only [Act.put, List.setIfInBounds_toArray, List.set_cons_zero, List.set_cons_succ]
      refine wpAnyH_take (i := 7) (by simp only [List.getElem?_toArray, List.getElem?_cons_succ, List.getElem?_cons_zero]; rfl) (by kernel_rfl) (by kernel_rfl) (by kernel_rfl) (fun _ _ _ h => h) (Or.inr ⟨by rfl, rfl⟩) (by assumption) ?_
      try simp only [Act.put, List.setIfInBounds_toArray, List.set_cons_zero, List.set_cons_succ]
      refine wpAnyH_take (i := 8) (by simp only [List.getElem?_toArray, List.getElem?_cons_succ, List.getElem?_cons_zero]; rfl) (by kernel_rfl) (by kernel_rfl) (by kernel_rfl) (fun _ _ _ h => h) (Or.inr ⟨by rfl, rfl⟩) (by assumption) ?_
      try simp only [Act.put, List.setIfInBounds_toArray, List.set_cons_zero, List.set_cons_succ]
      refine wpAnyH_take (i := 9) (v := ?_) (by simp only [List.getElem?_toArray, List.getElem?_cons_succ, List.getElem?_cons_zero]; rfl) (by kernel_rfl) (by kernel_rfl) (by kernel_rfl) (fun _ _ _ h => h) (Or.inl ⟨by rfl, ?_⟩) (by assumption) ?_
      rotate_left 1
      · ((intro w hSw; (try dsimp only at hSw); go_simp) <;> (try with_reducible rfl))
      try simp only [Act.put, List.setIfInBounds_toArray, List.set_cons_zero, List.set_cons_succ]
      refine wpAnyH_take (i := 10) (v := ?_) (by simp only [List.getElem?_toArray, List.getElem?_cons_succ, List.getElem?_cons_zero]; rfl) (by kernel_rfl) (by kernel_rfl) (by kernel_rfl) (fun _ _ _ h => h) (Or.inl ⟨by rfl, ?_⟩) (by assumption) ?_
      rotate_left 1
      · ((intro w hSw; (try dsimp only at hSw); go_simp) <;> (try with_reducible rfl))
      try simp only [Act.put, List.setIfInBounds_toArray, List.set_cons_zero, List.set_cons_succ]
      refine wpAnyH_done (by kernel_rfl) ?_ _
      refine NoPanic.normal ?_
      go_wp2_with fail
      go_quiet (fail)
      go_wp2_with fail
      go_ret
      exact ⟨rfl, hbt.trans ⟨rfl, rfl, rfl, Nat.le_refl _, fun _ _ => rfl⟩⟩
    · obtain ⟨s1, hs1, HS1⟩ : ∃ s1, 0 ≤ s1 ∧ Hid (sgnZ (A - -9223372036854775808) = s1) := ⟨_, by unfold sgnZ; split; omega; rw [if_neg (by omega)]; omega, rfl⟩
      obtain ⟨s2, rfl, HS2⟩ : ∃ s2, s2 = 1 ∧ Hid (sgnZ (A - 9223372036854775807) = s2) := ⟨1, rfl, by show sgnZ (A - 9223372036854775807) = 1; unfold sgnZ; rw [if_neg (by omega), if_neg (by omega)]⟩
      have hbt := (Below.refl w.heap.size w).alloc (Nat.le_refl _) (.cells #[.bool b0, .slice o0 n0 m0] 25)
      have HB_x0 := Lib.hid (heap_alloc_new w (.cells #[.bool b0, .slice o0 n0 m0] 25))
      replace g0 := g0.below hbt
      have x00 := (two_cells HB_x0.out).1
      have x01 := (two_cells HB_x0.out).2.1
      go_enter Tryd.func7, Tryd.ntmps7
      go_wp2_with fail
      generalize (w.alloc (.cells #[.bool b0, .slice o0 n0 m0] 25)) = w0 at *
      refine (HF.out _ (tab_below HTB.out hbt)).mono ?_
      rintro e wx1 ⟨rfl, hbx⟩
      replace g0 := g0.below hbx
      replace hbt := hbt.trans (hbx.mono hbt.size)
      replace HB_x0 := Lib.hid ((hbx.block _ (lt_of_block HB_x0.out)).trans HB_x0.out)
      clear hbx
      replace x00 := (two_cells HB_x0.out).1
      replace x01 := (two_cells HB_x0.out).2.1
      go_wp2_with fail
      refine (short_t1 20 _ rfl l0).mono ?_
      rintro e wx2 ⟨rfl, hbx⟩
      replace g0 := g0.below hbx
      replace hbt := hbt.trans (hbx.mono hbt.size)
      replace HB_x0 := Lib.hid ((hbx.block _ (lt_of_block HB_x0.out)).trans HB_x0.out)
      clear hbx
      replace x00 := (two_cells HB_x0.out).1
      replace x01 := (two_cells HB_x0.out).2.1
      go_wp2_with fail
      refine (wof_any z _ hz1 hz2).mono ?_
      rintro e wx3 ⟨v_x, rfl, c_x, hbx⟩
      replace g0 := g0.below hbx
      replace hbt := hbt.trans (hbx.mono hbt.size)
      replace HB_x0 := Lib.hid ((hbx.block _ (lt_of_block HB_x0.out)).trans HB_x0.out)
      clear hbx
      replace x00 := (two_cells HB_x0.out).1
      replace x01 := (two_cells HB_x0.out).2.1
      obtain ⟨b_x, o_x, l_x, k_x, rfl⟩ := c_x.shape
      have hlt_x0 := lt_of_block HB_x0.out
      go_wp2_with fail
      clear hlt_x0
      have hbx : Below wx3.heap.size wx3 (wx3.alloc (.cells #[.bool b_x, .slice o_x l_x k_x] 25)) := (Below.refl _ _).alloc (Nat.le_refl _) _
      replace g0 := g0.below hbx
      replace c_x := c_x.below hbx
      replace hbt := hbt.trans (hbx.mono hbt.size)
      replace HB_x0 := Lib.hid ((hbx.block _ (lt_of_block HB_x0.out)).trans HB_x0.out)
      clear hbx
      replace x00 := (two_cells HB_x0.out).1
      replace x01 := (two_cells HB_x0.out).2.1
      have HB_xx := Lib.hid (heap_alloc_new wx3 (.cells #[.bool b_x, .slice o_x l_x k_x] 25))
      have xx0 := (two_cells HB_xx.out).1
      have xx1 := (two_cells HB_xx.out).2.1
      generalize (wx3.alloc (.cells #[.bool b_x, .slice o_x l_x k_x] 25)) = wx4 at *
      refine (wsmall_yes _ z 2 _ c_x.gi (by omega) hz1 hz2).mono ?_
      rintro e wx5 ⟨rfl, hbx⟩
      replace g0 := g0.below hbx
      replace c_x := c_x.below hbx
      replace hbt := hbt.trans (hbx.mono hbt.size)
      replace HB_x0 := Lib.hid ((hbx.block _ (lt_of_block HB_x0.out)).trans HB_x0.out)
      replace HB_xx := Lib.hid ((hbx.block _ (lt_of_block HB_xx.out)).trans HB_xx.out)
      clear hbx
      replace x00 := (two_cells HB_x0.out).1
      replace x01 := (two_cells HB_x0.out).2.1
      replace xx0 := (two_cells HB_xx.out).1
      replace xx1 := (two_cells HB_xx.out).2.1
      go_wp2_with fail
      refine (wtext_any _ z 2 _ (tab_below HTB.out hbt) c_x.gi (by omega)).mono ?_
      rintro e wx6 ⟨rfl, hbx⟩
      replace g0 := g0.below hbx
      replace c_x := c_x.below hbx
      replace hbt := hbt.trans (hbx.mono hbt.size)
      replace HB_x0 := Lib.hid ((hbx.block _ (lt_of_block HB_x0.out)).trans HB_x0.out)
      replace HB_xx := Lib.hid ((hbx.block _ (lt_of_block HB_xx.out)).trans HB_xx.out)
      clear hbx
      replace x00 := (two_cells HB_x0.out).1
      replace x01 := (two_cells HB_x0.out).2.1
      replace xx0 := (two_cells HB_xx.out).1
      replace xx1 := (two_cells HB_xx.out).2.1
      go_wp2_with fail
      refine (itoa_any z _ hz1 hz2 (tab_below HTB.out hbt)).mono ?_
      rintro e wx7 ⟨rfl, hbx⟩
      replace g0 := g0.below hbx
      replace c_x := c_x.below hbx
      replace hbt := hbt.trans (hbx.mono hbt.size)
      replace HB_x0 := Lib.hid ((hbx.block _ (lt_of_block HB_x0.out)).trans HB_x0.out)
      replace HB_xx := Lib.hid ((hbx.block _ (lt_of_block HB_xx.out)).trans HB_xx.out)
      clear hbx
      replace x00 := (two_cells HB_x0.out).1
      replace x01 := (two_cells HB_x0.out).2.1
      replace xx0 := (two_cells HB_xx.out).1
      replace xx1 := (two_cells HB_xx.out).2.1
      go_wp2_with fail
      refine (wsmall_no _ A 20 _ g0 (Or.inr hr)).mono ?_
      rintro e wx8 ⟨rfl, hbx⟩
      replace g0 := g0.below hbx
      replace c_x := c_x.below hbx
      replace hbt := hbt.trans (hbx.mono hbt.size)
      replace HB_x0 := Lib.hid ((hbx.block _ (lt_of_block HB_x0.out)).trans HB_x0.out)
      replace HB_xx := Lib.hid ((hbx.block _ (lt_of_block HB_xx.out)).trans HB_xx.out)
      clear hbx
      replace x00 := (two_cells HB_x0.out).1
      replace x01 := (two_cells HB_x0.out).2.1
      replace xx0 := (two_cells HB_xx.out).1
      replace xx1 := (two_cells HB_xx.out).2.1
      go_wp2_with fail
      go_region_held3 (fun w' => w'.cell? ⟨w.heap.size, 0, none⟩ = some (.bool b0) ∧ w'.cell? ⟨w.heap.size, 1, none⟩ = some (.slice o0 n0 m0))
        (first | exact ⟨x00, x01⟩ | go_keep)
        (first
          | (have := tok2; go_at_call 20; refine (wcmp_s _ _ A 9223372036854775807 20 2 1 _ g0 c_p.gi HS2.out (by omega) (by omega)).mono ?_; rintro e wx12 ⟨rfl, hbx⟩; replace g0 := g0.below hbx; replace c_x := c_x.below hbx; replace c_m := c_m.below hbx; replace c_p := c_p.below hbx; replace hbt := hbt.trans (hbx.mono hbt.size); replace HB_x0 := Lib.hid ((hbx.block _ (lt_of_block HB_x0.out)).trans HB_x0.out); replace HB_xx := Lib.hid ((hbx.block _ (lt_of_block HB_xx.out)).trans HB_xx.out); clear hbx; replace x00 := (two_cells HB_x0.out).1; replace x01 := (two_cells HB_x0.out).2.1; replace xx0 := (two_cells HB_xx.out).1; replace xx1 := (two_cells HB_xx.out).2.1; have tok3 := Lib.hid trivial)
          | (have := tok1; go_at_call 26; refine (wof_any 9223372036854775807 _ (by omega) (by omega)).mono ?_; rintro e wx11 ⟨v_p, rfl, c_p, hbx⟩; replace g0 := g0.below hbx; replace c_x := c_x.below hbx; replace c_m := c_m.below hbx; replace hbt := hbt.trans (hbx.mono hbt.size); replace HB_x0 := Lib.hid ((hbx.block _ (lt_of_block HB_x0.out)).trans HB_x0.out); replace HB_xx := Lib.hid ((hbx.block _ (lt_of_block HB_xx.out)).trans HB_xx.out); clear hbx; replace x00 := (two_cells HB_x0.out).1; replace x01 := (two_cells HB_x0.out).2.1; replace xx0 := (two_cells HB_xx.out).1; replace xx1 := (two_cells HB_xx.out).2.1; obtain ⟨b_p, o_p, l_p, k_p, rfl⟩ := c_p.shape; have tok2 := Lib.hid trivial)
          | (have := tok0; go_at_call 20; refine (wcmp_s _ _ A (-9223372036854775808) 20 2 s1 _ g0 c_m.gi HS1.out (by omega) (by omega)).mono ?_; rintro e wx10 ⟨rfl, hbx⟩; replace g0 := g0.below hbx; replace c_x := c_x.below hbx; replace c_m := c_m.below hbx; replace hbt := hbt.trans (hbx.mono hbt.size); replace HB_x0 := Lib.hid ((hbx.block _ (lt_of_block HB_x0.out)).trans HB_x0.out); replace HB_xx := Lib.hid ((hbx.block _ (lt_of_block HB_xx.out)).trans HB_xx.out); clear hbx; replace x00 := (two_cells HB_x0.out).1; replace x01 := (two_cells HB_x0.out).2.1; replace xx0 := (two_cells HB_xx.out).1; replace xx1 := (two_cells HB_xx.out).2.1; have tok1 := Lib.hid trivial)
          | (skip; go_at_call 26; refine (wof_any (-9223372036854775808) _ (by omega) (by omega)).mono ?_; rintro e wx9 ⟨v_m, rfl, c_m, hbx'⟩; have hbx := undrew hbx'; clear hbx'; replace g0 := g0.below hbx; replace c_x := c_x.below hbx; replace hbt := hbt.trans (hbx.mono hbt.size); replace HB_x0 := Lib.hid ((hbx.block _ (lt_of_block HB_x0.out)).trans HB_x0.out); replace HB_xx := Lib.hid ((hbx.block _ (lt_of_block HB_xx.out)).trans HB_xx.out); clear hbx; replace x00 := (two_cells HB_x0.out).1; replace x01 := (two_cells HB_x0.out).2.1; replace xx0 := (two_cells HB_xx.out).1; replace xx1 := (two_cells HB_xx.out).2.1; obtain ⟨b_m, o_m, l_m, k_m, rfl⟩ := c_m.shape; have tok0 := Lib.hid trivial))
      go_wp2_with fail
      go_quiet (fail)
      go_wp2_with fail
      go_ret
      exact ⟨rfl, hbt.trans ⟨rfl, rfl, rfl, Nat.le_refl _, fun _ _ => rfl⟩⟩
  · have HS := Lib.hid hs
    clear hs
    have hbt := (Below.refl w.heap.size w).alloc (Nat.le_refl _) (.cells #[.bool b0, .slice o0 n0 m0] 25)
    clear a0
    have HB_x0 := Lib.hid (heap_alloc_new w (.cells #[.bool b0, .slice o0 n0 m0] 25))
    have x00 := (two_cells HB_x0.out).1
    have x01 := (two_cells HB_x0.out).2.1
    go_enter Tryd.func7, Tryd.ntmps7
    go_wp2_with fail
    generalize (w.alloc (.cells #[.bool b0, .slice o0 n0 m0] 25)) = w0 at *
    refine (HF.out _ (tab_below HTB.out hbt)).mono ?_
    rintro e wx1 ⟨rfl, hbx⟩
    replace hbt := hbt.trans (hbx.mono hbt.size)
    replace HB_x0 := Lib.hid ((hbx.block _ (lt_of_block HB_x0.out)).trans HB_x0.out)
    clear hbx
    replace x00 := (two_cells HB_x0.out).1
    replace x01 := (two_cells HB_x0.out).2.1
    go_wp2_with fail
    refine (short_f1 20 _ rfl HS.out).mono ?_
    rintro e wx2 ⟨rfl, hbx⟩
    replace hbt := hbt.trans (hbx.mono hbt.size)
    replace HB_x0 := Lib.hid ((hbx.block _ (lt_of_block HB_x0.out)).trans HB_x0.out)
    clear hbx
    replace x00 := (two_cells HB_x0.out).1
    replace x01 := (two_cells HB_x0.out).2.1
    go_wp2_with fail
    go_ret
    exact ⟨rfl, hbt⟩
end Go.Proofs.YtbkeildnhimfbaaDoor
