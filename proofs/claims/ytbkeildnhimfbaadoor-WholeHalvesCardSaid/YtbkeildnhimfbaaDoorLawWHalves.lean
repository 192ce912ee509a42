/-
  The walk of the law WholeHalves.
-/
import Derived.Test.YtbkeildnhimfbaaDoorWhoW
import Derived.Test.YtbkeildnhimfbaaDoorWhoG
namespace Go.Proofs.YtbkeildnhimfbaaDoor
open Go.RowKit
set_option maxRecDepth 100000

theorem GI.gn {w : World} {b : Bool} {s : Value} {z : Int} {k : Nat} (h : GI w (.agg #[.bool b, s]) z k) : GN w s z.natAbs k := by
  obtain ⟨b', va, n, e, h, rfl⟩ := h
  injection e with e
  simp at e
  obtain ⟨rfl, rfl⟩ := e
  rw [sg_natAbs]; exact h
theorem half_rest (A : Int) : 0 ≤ A → A - (Int.tdiv A 2 + Int.tdiv A 2) = 0 ∨ A - (Int.tdiv A 2 + Int.tdiv A 2) = 1 := by
  intro h; rw [Int.tdiv_eq_ediv_of_nonneg h]; omega
theorem half_rest_neg (A : Int) : A < 0 → -(A - (Int.tdiv A 2 + Int.tdiv A 2)) = 0 ∨ -(A - (Int.tdiv A 2 + Int.tdiv A 2)) = 1 := by
  intro h
  have e : Int.tdiv A 2 = -(Int.tdiv (-A) 2) := by rw [Int.neg_tdiv, Int.neg_neg]
  rw [e, Int.tdiv_eq_ediv_of_nonneg (by omega)]; omega
theorem bl_pow2 {n k : Nat} (h : n < L32 ^ k) : bl n ≤ 32 * k := bl_le (by rwa [show L32 = 2 ^ 32 from rfl, ← Nat.pow_mul] at h)
theorem half_bits (A : Int) : ((bl (Int.tdiv A 2).natAbs : Nat) : Int) = max (((bl A.natAbs : Nat) : Int) - 1) 0 := by
  have e : (Int.tdiv A 2).natAbs = A.natAbs / 2 := by rw [Int.natAbs_tdiv]; rfl
  rw [e]
  rcases Nat.eq_zero_or_pos A.natAbs with h | h
  · rw [h, bl_zero]; rfl
  · have := bl_half h; omega

set_option maxHeartbeats 8000000 in
theorem wholeHalves_walk (b0 : Bool) (o0 : Option Addr) (n0 m0 : Nat) (xs0 : List Nat) (b1 : Bool) (o1 : Option Addr) (n1 m1 : Nat) (xs1 : List Nat) (w : World) (a0 : Arg w b0 o0 n0 m0 xs0) (a1 : Arg w b1 o1 n1 m1 xs1) (htab : Lib.TabIs Tryd.prog w "internal/strconv.uint64pow10" .u64 Lib.pow10Tab) :
    Calls Tryd.prog 8 #[.agg #[.bool b0, .slice o0 n0 m0], .agg #[.bool b1, .slice o1 n1 m1]] w fun e w' => e = .returned (.bool true) ∧ Below w.heap.size w w' := by
  have HF := Lib.hid wfitOk
  have HTB := Lib.hid htab
  clear htab
  by_cases hs : n0 ≤ 12 ∧ n1 ≤ 12
  · obtain ⟨l0, l1⟩ := hs
    obtain ⟨A, g0⟩ := a0.gi l0
    obtain ⟨B, g1⟩ := a1.gi l1
    clear a0 a1
    have HG0 := Lib.hid (show 0 ≤ sgnZ ((Nat.gcd A.natAbs B.natAbs : Nat) : Int) by unfold sgnZ; (repeat' split) <;> omega)
    have HGN := Lib.hid (show ((Nat.gcd (-A).natAbs B.natAbs : Nat) : Int) = ((Nat.gcd A.natAbs B.natAbs : Nat) : Int) by rw [Int.natAbs_neg])
    have HGC := Lib.hid (show ((Nat.gcd B.natAbs A.natAbs : Nat) : Int) = ((Nat.gcd A.natAbs B.natAbs : Nat) : Int) by rw [Nat.gcd_comm])
    have HBT := Lib.hid (half_bits A)
    have HBL : Hid ((dig 2 A.natAbs).length = bl A.natAbs) := Lib.hid rfl
    have hb0 : bl A.natAbs ≤ 384 := Nat.le_trans (bl_pow2 g0.lt) (by decide)
    have hb1 : bl (Int.tdiv A 2).natAbs ≤ 1000 := by have := HBT.out; omega
    obtain ⟨sgx, hsgx, HSGX⟩ : ∃ s, 0 ≤ s ∧ Hid (sgnZ ((Nat.gcd A.natAbs B.natAbs : Nat) : Int) = s) := ⟨_, HG0.out, rfl⟩
    clear HG0
    obtain ⟨M, hM, HM⟩ : ∃ M : Int, (0 ≤ M ∧ M ≤ 384) ∧ Hid (((bl A.natAbs : Nat) : Int) = M) := ⟨_, ⟨by omega, by omega⟩, rfl⟩
    have hM1 := hM.1
    have hM2 := hM.2
    have hwM : IntKind.i64.wrap (M - 1) = M - 1 := by rw [IntKind.wrap_i64]; omega
    clear hM hb0 hb1
    rw [HM.out] at HBT
    have HR1 := Lib.hid (half_rest A)
    have HR2 := Lib.hid (half_rest_neg A)
    have hpart : Hid ((0 ≤ sgnZ A ∧ (A - (Int.tdiv A 2 + Int.tdiv A 2) = 0 ∨ A - (Int.tdiv A 2 + Int.tdiv A 2) = 1)) ∨ (sgnZ A = -1 ∧ (-(A - (Int.tdiv A 2 + Int.tdiv A 2)) = 0 ∨ -(A - (Int.tdiv A 2 + Int.tdiv A 2)) = 1))) := Lib.hid (by
      by_cases hA : A < 0
      · exact Or.inr ⟨by unfold sgnZ; rw [if_neg (by omega), if_pos hA], HR2.out hA⟩
      · exact Or.inl ⟨by unfold sgnZ; (repeat' split) <;> omega, HR1.out (by omega)⟩)
    clear HR1 HR2
    rcases hpart.out with ⟨hsg, hr | hr⟩ | ⟨hsg, hr | hr⟩
    all_goals
      have HRR := Lib.hid hr
      clear hpart hr
    · have hsg0 := hsg
      have hbt := below2 w (.cells #[.bool b0, .slice o0 n0 m0] 25) (.cells #[.bool b1, .slice o1 n1 m1] 25)
      have hbk := blocks2 (Below.refl (w.heap.size + 2) ((w.alloc (.cells #[.bool b0, .slice o0 n0 m0] 25)).alloc (.cells #[.bool b1, .slice o1 n1 m1] 25)))
      have HB_x0 := Lib.hid hbk.1
      have HB_x1 := Lib.hid hbk.2
      clear hbk
      replace g0 := g0.below hbt
      have x00 := (two_cells HB_x0.out).1
      have x01 := (two_cells HB_x0.out).2.1
      replace g1 := g1.below hbt
      have x10 := (two_cells HB_x1.out).1
      have x11 := (two_cells HB_x1.out).2.1
      go_enter Tryd.func8, Tryd.ntmps8
      go_wp2_with fail
      generalize ((w.alloc (.cells #[.bool b0, .slice o0 n0 m0] 25)).alloc (.cells #[.bool b1, .slice o1 n1 m1] 25)) = w0 at *
      refine (HF.out _ (tab_below HTB.out hbt)).mono ?_
      rintro e wx1 ⟨rfl, hbx⟩
      replace g0 := g0.below hbx
      replace g1 := g1.below hbx
      replace hbt := hbt.trans (hbx.mono hbt.size)
      replace HB_x0 := Lib.hid ((hbx.block _ (lt_of_block HB_x0.out)).trans HB_x0.out)
      replace HB_x1 := Lib.hid ((hbx.block _ (lt_of_block HB_x1.out)).trans HB_x1.out)
      clear hbx
      replace x00 := (two_cells HB_x0.out).1
      replace x01 := (two_cells HB_x0.out).2.1
      replace x10 := (two_cells HB_x1.out).1
      replace x11 := (two_cells HB_x1.out).2.1
      go_wp2_with fail
      refine (short_t2 12 _ rfl l0 l1).mono ?_
      rintro e wx2 ⟨rfl, hbx⟩
      replace g0 := g0.below hbx
      replace g1 := g1.below hbx
      replace hbt := hbt.trans (hbx.mono hbt.size)
      replace HB_x0 := Lib.hid ((hbx.block _ (lt_of_block HB_x0.out)).trans HB_x0.out)
      replace HB_x1 := Lib.hid ((hbx.block _ (lt_of_block HB_x1.out)).trans HB_x1.out)
      clear hbx
      replace x00 := (two_cells HB_x0.out).1
      replace x01 := (two_cells HB_x0.out).2.1
      replace x10 := (two_cells HB_x1.out).1
      replace x11 := (two_cells HB_x1.out).2.1
      go_wp2_with fail
      refine (half_any _ A 12 _ g0 (by omega)).mono ?_
      rintro e wx3 ⟨v_h, rfl, c_h, hbx⟩
      replace g0 := g0.below hbx
      replace g1 := g1.below hbx
      replace hbt := hbt.trans (hbx.mono hbt.size)
      replace HB_x0 := Lib.hid ((hbx.block _ (lt_of_block HB_x0.out)).trans HB_x0.out)
      replace HB_x1 := Lib.hid ((hbx.block _ (lt_of_block HB_x1.out)).trans HB_x1.out)
      clear hbx
      replace x00 := (two_cells HB_x0.out).1
      replace x01 := (two_cells HB_x0.out).2.1
      replace x10 := (two_cells HB_x1.out).1
      replace x11 := (two_cells HB_x1.out).2.1
      obtain ⟨b_h, o_h, l_h, k_h, rfl⟩ := c_h.shape
      have hlt_x0 := lt_of_block HB_x0.out
      have hlt_x1 := lt_of_block HB_x1.out
      go_wp2_with fail
      clear hlt_x0 hlt_x1
      have hbx : Below wx3.heap.size wx3 (wx3.alloc (.cells #[.bool b_h, .slice o_h l_h k_h] 25)) := (Below.refl _ _).alloc (Nat.le_refl _) _
      replace g0 := g0.below hbx
      replace g1 := g1.below hbx
      replace c_h := c_h.below hbx
      replace hbt := hbt.trans (hbx.mono hbt.size)
      replace HB_x0 := Lib.hid ((hbx.block _ (lt_of_block HB_x0.out)).trans HB_x0.out)
      replace HB_x1 := Lib.hid ((hbx.block _ (lt_of_block HB_x1.out)).trans HB_x1.out)
      clear hbx
      replace x00 := (two_cells HB_x0.out).1
      replace x01 := (two_cells HB_x0.out).2.1
      replace x10 := (two_cells HB_x1.out).1
      replace x11 := (two_cells HB_x1.out).2.1
      have HB_y1 := Lib.hid (heap_alloc_new wx3 (.cells #[.bool b_h, .slice o_h l_h k_h] 25))
      have y10 := (two_cells HB_y1.out).1
      have y11 := (two_cells HB_y1.out).2.1
      generalize (wx3.alloc (.cells #[.bool b_h, .slice o_h l_h k_h] 25)) = wx4 at *
      have hlt_x0 := lt_of_block HB_x0.out
      have hlt_x1 := lt_of_block HB_x1.out
      have hlt_y1 := lt_of_block HB_y1.out
      go_upto_region 6 with fail
      go_cut [6] (fun s6 wx => ∃ g_y2 b_y2 o_y2 l_y2 k_y2, s6 = .pointer (some ⟨g_y2, 0, none⟩) ∧ wx4.heap.size ≤ g_y2 ∧ wx.heap[g_y2]? = some (.cells #[.bool b_y2, .slice o_y2 l_y2 k_y2] 25 (0, 0)) ∧ CI wx (.agg #[.bool b_y2, .slice o_y2 l_y2 k_y2]) (A - (Int.tdiv A 2 + Int.tdiv A 2)) 38 ∧ Below wx4.heap.size wx4 wx)
      case first =>
        go_region_held3 (fun w' => w'.cell? ⟨w.heap.size, 0, none⟩ = some (.bool b0) ∧ w'.cell? ⟨w.heap.size, 1, none⟩ = some (.slice o0 n0 m0) ∧ w'.cell? ⟨wx3.heap.size, 0, none⟩ = some (.bool b_h) ∧ w'.cell? ⟨wx3.heap.size, 1, none⟩ = some (.slice o_h l_h k_h))
          (first | exact ⟨x00, x01, y10, y11⟩ | exact ⟨(far2 (by omega)).trans x00, (far2 (by omega)).trans x01, (far2 (by omega)).trans y10, (far2 (by omega)).trans y11⟩ | go_keep)
          (first
            | (have := tok0; go_at_call 16; refine (wsub_any _ _ A (Int.tdiv A 2 + Int.tdiv A 2) 12 25 _ (g0.below (by first | exact Below.refl _ _ | (repeat (first | exact Below.refl _ _ | refine Below.drew ?_ | refine Below.alloc ?_ (by first | exact Nat.le_refl _ | (simp; done) | (simp; omega)) _)))) (c_s.gi.below (by first | exact Below.refl _ _ | (repeat (first | exact Below.refl _ _ | refine Below.drew ?_ | refine Below.alloc ?_ (by first | exact Nat.le_refl _ | (simp; done) | (simp; omega)) _)))) (by omega) (by omega)).mono ?_; rintro e wx6 ⟨v_m, rfl, c_m, hbq⟩; have hbx : Below wx5.heap.size wx5 wx6 := trans2 hbq (by first | exact Below.refl _ _ | (repeat (first | exact Below.refl _ _ | refine Below.drew ?_ | refine Below.alloc ?_ (by first | exact Nat.le_refl _ | (simp; done) | (simp; omega)) _))); (first | (have HL_y2 := Lib.hid ((hbx.block _ (lt_of_block HL_y2.out)).trans HL_y2.out)) | (have hlk := kept_heap (T := 25) hbq; have HL_y2 := Lib.hid hlk) | (have hlk := kept_heap (T := 25) (undrew hbq); have HL_y2 := Lib.hid hlk) | skip); replace g0 := g0.below hbx; replace g1 := g1.below hbx; replace c_h := c_h.below hbx; replace c_s := c_s.below hbx; replace hbr := hbr.trans (hbx.mono hbr.size); replace HB_x0 := Lib.hid ((hbx.block _ (lt_of_block HB_x0.out)).trans HB_x0.out); have hlt_x0 := lt_of_block HB_x0.out; replace HB_x1 := Lib.hid ((hbx.block _ (lt_of_block HB_x1.out)).trans HB_x1.out); have hlt_x1 := lt_of_block HB_x1.out; replace HB_y1 := Lib.hid ((hbx.block _ (lt_of_block HB_y1.out)).trans HB_y1.out); have hlt_y1 := lt_of_block HB_y1.out; have hsz1 := hbx.size; clear hbx; replace x00 := (two_cells HB_x0.out).1; replace x01 := (two_cells HB_x0.out).2.1; replace y10 := (two_cells HB_y1.out).1; replace y11 := (two_cells HB_y1.out).2.1; (first | (have hl4 := two_cells HL_y2.out; obtain ⟨la_y2, lb_y2, lc_y2, ld_y2⟩ := hl4; (try simp at la_y2 lb_y2 lc_y2 ld_y2)) | skip); obtain ⟨b_m, o_m, l_m, k_m, rfl⟩ := c_m.shape; have tok1 := Lib.hid trivial)
            | (skip; go_at_call 14; refine (wadd_any _ _ (Int.tdiv A 2) (Int.tdiv A 2) 12 12 _ (c_h.gi.below (by first | exact Below.refl _ _ | (repeat (first | exact Below.refl _ _ | refine Below.drew ?_ | refine Below.alloc ?_ (by first | exact Nat.le_refl _ | (simp; done) | (simp; omega)) _)))) (c_h.gi.below (by first | exact Below.refl _ _ | (repeat (first | exact Below.refl _ _ | refine Below.drew ?_ | refine Below.alloc ?_ (by first | exact Nat.le_refl _ | (simp; done) | (simp; omega)) _)))) (by omega) (by omega)).mono ?_; rintro e wx5 ⟨v_s, rfl, c_s, hbq⟩; have hbx : Below wx4.heap.size wx4 wx5 := trans2 hbq (by first | exact Below.refl _ _ | (repeat (first | exact Below.refl _ _ | refine Below.drew ?_ | refine Below.alloc ?_ (by first | exact Nat.le_refl _ | (simp; done) | (simp; omega)) _))); (first | (have HL_y2 := Lib.hid ((hbx.block _ (lt_of_block HL_y2.out)).trans HL_y2.out)) | (have hlk := kept_heap (T := 25) hbq; have HL_y2 := Lib.hid hlk) | (have hlk := kept_heap (T := 25) (undrew hbq); have HL_y2 := Lib.hid hlk) | skip); replace g0 := g0.below hbx; replace g1 := g1.below hbx; replace c_h := c_h.below hbx; have hbr := hbx; replace HB_x0 := Lib.hid ((hbx.block _ (lt_of_block HB_x0.out)).trans HB_x0.out); have hlt_x0 := lt_of_block HB_x0.out; replace HB_x1 := Lib.hid ((hbx.block _ (lt_of_block HB_x1.out)).trans HB_x1.out); have hlt_x1 := lt_of_block HB_x1.out; replace HB_y1 := Lib.hid ((hbx.block _ (lt_of_block HB_y1.out)).trans HB_y1.out); have hlt_y1 := lt_of_block HB_y1.out; have hsz0 := hbx.size; clear hbx; replace x00 := (two_cells HB_x0.out).1; replace x01 := (two_cells HB_x0.out).2.1; replace y10 := (two_cells HB_y1.out).1; replace y11 := (two_cells HB_y1.out).2.1; (first | (have hl4 := two_cells HL_y2.out; obtain ⟨la_y2, lb_y2, lc_y2, ld_y2⟩ := hl4; (try simp at la_y2 lb_y2 lc_y2 ld_y2)) | skip); obtain ⟨b_s, o_s, l_s, k_s, rfl⟩ := c_s.shape; have tok0 := Lib.hid trivial))
        all_goals
          go_wp2_with fail
          go_meet
          first
            | exact ⟨_, _, _, _, _, rfl, hbr.size, heap_alloc_new _ _, c_m.below ((Below.refl _ _).alloc (Nat.le_refl _) _), hbr.alloc hbr.size _⟩
            | exact ⟨_, _, _, _, _, rfl, by omega, heap_set2 HL_y2.out _ _, c_m.set2 HL_y2.out _ _, below_setg hbr (by omega) _ _⟩
      case rest =>
        obtain ⟨g_y2, b_y2, o_y2, l_y2, k_y2, rfl, hg_y2, hB_y2, c_y2, hbx⟩ := hcut
        obtain ⟨wx7, he⟩ : ∃ x, x = wc := ⟨wc, rfl⟩
        subst he
        have HB_y2 := Lib.hid hB_y2
        clear hB_y2
        have y20 := (two_cells HB_y2.out).1
        have y21 := (two_cells HB_y2.out).2.1
        replace g0 := g0.below hbx
        replace g1 := g1.below hbx
        replace c_h := c_h.below hbx
        replace hbt := hbt.trans (hbx.mono hbt.size)
        replace HB_x0 := Lib.hid ((hbx.block _ (lt_of_block HB_x0.out)).trans HB_x0.out)
        replace HB_x1 := Lib.hid ((hbx.block _ (lt_of_block HB_x1.out)).trans HB_x1.out)
        replace HB_y1 := Lib.hid ((hbx.block _ (lt_of_block HB_y1.out)).trans HB_y1.out)
        clear hbx
        replace x00 := (two_cells HB_x0.out).1
        replace x01 := (two_cells HB_x0.out).2.1
        replace x10 := (two_cells HB_x1.out).1
        replace x11 := (two_cells HB_x1.out).2.1
        replace y10 := (two_cells HB_y1.out).1
        replace y11 := (two_cells HB_y1.out).2.1
        go_wp2_with fail
        refine (wsign_any _ A 12 _ g0 (by omega)).mono ?_
        rintro e wx8 ⟨rfl, hbx⟩
        replace g0 := g0.below hbx
        replace g1 := g1.below hbx
        replace c_h := c_h.below hbx
        replace c_y2 := c_y2.below hbx
        replace hbt := hbt.trans (hbx.mono hbt.size)
        replace HB_x0 := Lib.hid ((hbx.block _ (lt_of_block HB_x0.out)).trans HB_x0.out)
        replace HB_x1 := Lib.hid ((hbx.block _ (lt_of_block HB_x1.out)).trans HB_x1.out)
        replace HB_y1 := Lib.hid ((hbx.block _ (lt_of_block HB_y1.out)).trans HB_y1.out)
        replace HB_y2 := Lib.hid ((hbx.block _ (lt_of_block HB_y2.out)).trans HB_y2.out)
        clear hbx
        replace x00 := (two_cells HB_x0.out).1
        replace x01 := (two_cells HB_x0.out).2.1
        replace x10 := (two_cells HB_x1.out).1
        replace x11 := (two_cells HB_x1.out).2.1
        replace y10 := (two_cells HB_y1.out).1
        replace y11 := (two_cells HB_y1.out).2.1
        replace y20 := (two_cells HB_y2.out).1
        replace y21 := (two_cells HB_y2.out).2.1
        go_wp2_with fail
        refine (wsmall_yes _ 0 38 _ (c_y2.to HRR.out).gi (by omega) (by omega) (by omega)).mono ?_
        rintro e wx9 ⟨rfl, hbx⟩
        replace g0 := g0.below hbx
        replace g1 := g1.below hbx
        replace c_h := c_h.below hbx
        replace c_y2 := c_y2.below hbx
        replace hbt := hbt.trans (hbx.mono hbt.size)
        replace HB_x0 := Lib.hid ((hbx.block _ (lt_of_block HB_x0.out)).trans HB_x0.out)
        replace HB_x1 := Lib.hid ((hbx.block _ (lt_of_block HB_x1.out)).trans HB_x1.out)
        replace HB_y1 := Lib.hid ((hbx.block _ (lt_of_block HB_y1.out)).trans HB_y1.out)
        replace HB_y2 := Lib.hid ((hbx.block _ (lt_of_block HB_y2.out)).trans HB_y2.out)
        clear hbx
        replace x00 := (two_cells HB_x0.out).1
        replace x01 := (two_cells HB_x0.out).2.1
        replace x10 := (two_cells HB_x1.out).1
        replace x11 := (two_cells HB_x1.out).2.1
        replace y10 := (two_cells HB_y1.out).1
        replace y11 := (two_cells HB_y1.out).2.1
        replace y20 := (two_cells HB_y2.out).1
        replace y21 := (two_cells HB_y2.out).2.1
        go_wp2_with fail
        go_region_held3 (fun w' => w'.cell? ⟨w.heap.size, 0, none⟩ = some (.bool b0) ∧ w'.cell? ⟨w.heap.size, 1, none⟩ = some (.slice o0 n0 m0) ∧ w'.cell? ⟨w.heap.size + 1, 0, none⟩ = some (.bool b1) ∧ w'.cell? ⟨w.heap.size + 1, 1, none⟩ = some (.slice o1 n1 m1) ∧ w'.cell? ⟨wx3.heap.size, 0, none⟩ = some (.bool b_h) ∧ w'.cell? ⟨wx3.heap.size, 1, none⟩ = some (.slice o_h l_h k_h) ∧ w'.cell? ⟨g_y2, 0, none⟩ = some (.bool b_y2) ∧ w'.cell? ⟨g_y2, 1, none⟩ = some (.slice o_y2 l_y2 k_y2))
          (first | exact ⟨x00, x01, x10, x11, y10, y11, y20, y21⟩ | go_keep)
          (first
            | (have := tok0; go_at_call 31; refine (wbits_s _ A 12 M _ g0 HM.out (by omega)).mono ?_; rintro e wx11 ⟨rfl, hbx⟩; replace g0 := g0.below hbx; replace g1 := g1.below hbx; replace c_h := c_h.below hbx; replace c_y2 := c_y2.below hbx; replace hbt := hbt.trans (hbx.mono hbt.size); replace HB_x0 := Lib.hid ((hbx.block _ (lt_of_block HB_x0.out)).trans HB_x0.out); replace HB_x1 := Lib.hid ((hbx.block _ (lt_of_block HB_x1.out)).trans HB_x1.out); replace HB_y1 := Lib.hid ((hbx.block _ (lt_of_block HB_y1.out)).trans HB_y1.out); replace HB_y2 := Lib.hid ((hbx.block _ (lt_of_block HB_y2.out)).trans HB_y2.out); clear hbx; replace x00 := (two_cells HB_x0.out).1; replace x01 := (two_cells HB_x0.out).2.1; replace x10 := (two_cells HB_x1.out).1; replace x11 := (two_cells HB_x1.out).2.1; replace y10 := (two_cells HB_y1.out).1; replace y11 := (two_cells HB_y1.out).2.1; replace y20 := (two_cells HB_y2.out).1; replace y21 := (two_cells HB_y2.out).2.1; have tok1 := Lib.hid trivial)
            | (skip; go_at_call 31; refine (wbits_s _ (Int.tdiv A 2) 12 (max (M - 1) 0) _ c_h.drew.gi HBT.out (by omega)).mono ?_; rintro e wx10 ⟨rfl, hbx'⟩; have hbx := undrew hbx'; clear hbx'; replace g0 := g0.below hbx; replace g1 := g1.below hbx; replace c_h := c_h.below hbx; replace c_y2 := c_y2.below hbx; replace hbt := hbt.trans (hbx.mono hbt.size); replace HB_x0 := Lib.hid ((hbx.block _ (lt_of_block HB_x0.out)).trans HB_x0.out); replace HB_x1 := Lib.hid ((hbx.block _ (lt_of_block HB_x1.out)).trans HB_x1.out); replace HB_y1 := Lib.hid ((hbx.block _ (lt_of_block HB_y1.out)).trans HB_y1.out); replace HB_y2 := Lib.hid ((hbx.block _ (lt_of_block HB_y2.out)).trans HB_y2.out); clear hbx; replace x00 := (two_cells HB_x0.out).1; replace x01 := (two_cells HB_x0.out).2.1; replace x10 := (two_cells HB_x1.out).1; replace x11 := (two_cells HB_x1.out).2.1; replace y10 := (two_cells HB_y1.out).1; replace y11 := (two_cells HB_y1.out).2.1; replace y20 := (two_cells HB_y2.out).1; replace y21 := (two_cells HB_y2.out).2.1; have tok0 := Lib.hid trivial))
        go_wp2_with fail
        refine (wgcd_any _ _ A B 12 12 _ g0 g1 (by omega) (by omega)).mono ?_
        rintro e wx12 ⟨v_g, rfl, c_g, hbx⟩
        replace g0 := g0.below hbx
        replace g1 := g1.below hbx
        replace c_h := c_h.below hbx
        replace c_y2 := c_y2.below hbx
        replace hbt := hbt.trans (hbx.mono hbt.size)
        replace HB_x0 := Lib.hid ((hbx.block _ (lt_of_block HB_x0.out)).trans HB_x0.out)
        replace HB_x1 := Lib.hid ((hbx.block _ (lt_of_block HB_x1.out)).trans HB_x1.out)
        replace HB_y1 := Lib.hid ((hbx.block _ (lt_of_block HB_y1.out)).trans HB_y1.out)
        replace HB_y2 := Lib.hid ((hbx.block _ (lt_of_block HB_y2.out)).trans HB_y2.out)
        clear hbx
        replace x00 := (two_cells HB_x0.out).1
        replace x01 := (two_cells HB_x0.out).2.1
        replace x10 := (two_cells HB_x1.out).1
        replace x11 := (two_cells HB_x1.out).2.1
        replace y10 := (two_cells HB_y1.out).1
        replace y11 := (two_cells HB_y1.out).2.1
        replace y20 := (two_cells HB_y2.out).1
        replace y21 := (two_cells HB_y2.out).2.1
        obtain ⟨b_g, o_g, l_g, k_g, rfl⟩ := c_g.shape
        have hlt_x0 := lt_of_block HB_x0.out
        have hlt_x1 := lt_of_block HB_x1.out
        have hlt_y1 := lt_of_block HB_y1.out
        have hlt_y2 := lt_of_block HB_y2.out
        go_wp2_with fail
        clear hlt_x0 hlt_x1 hlt_y1 hlt_y2
        have hbx : Below wx12.heap.size wx12 (wx12.alloc (.cells #[.bool b_g, .slice o_g l_g k_g] 25)) := (Below.refl _ _).alloc (Nat.le_refl _) _
        replace g0 := g0.below hbx
        replace g1 := g1.below hbx
        replace c_h := c_h.below hbx
        replace c_y2 := c_y2.below hbx
        replace c_g := c_g.below hbx
        replace hbt := hbt.trans (hbx.mono hbt.size)
        replace HB_x0 := Lib.hid ((hbx.block _ (lt_of_block HB_x0.out)).trans HB_x0.out)
        replace HB_x1 := Lib.hid ((hbx.block _ (lt_of_block HB_x1.out)).trans HB_x1.out)
        replace HB_y1 := Lib.hid ((hbx.block _ (lt_of_block HB_y1.out)).trans HB_y1.out)
        replace HB_y2 := Lib.hid ((hbx.block _ (lt_of_block HB_y2.out)).trans HB_y2.out)
        clear hbx
        replace x00 := (two_cells HB_x0.out).1
        replace x01 := (two_cells HB_x0.out).2.1
        replace x10 := (two_cells HB_x1.out).1
        replace x11 := (two_cells HB_x1.out).2.1
        replace y10 := (two_cells HB_y1.out).1
        replace y11 := (two_cells HB_y1.out).2.1
        replace y20 := (two_cells HB_y2.out).1
        replace y21 := (two_cells HB_y2.out).2.1
        have HB_y3 := Lib.hid (heap_alloc_new wx12 (.cells #[.bool b_g, .slice o_g l_g k_g] 25))
        have y30 := (two_cells HB_y3.out).1
        have y31 := (two_cells HB_y3.out).2.1
        generalize (wx12.alloc (.cells #[.bool b_g, .slice o_g l_g k_g] 25)) = wx13 at *
        go_region_held3 (fun w' => w'.cell? ⟨w.heap.size, 0, none⟩ = some (.bool b0) ∧ w'.cell? ⟨w.heap.size, 1, none⟩ = some (.slice o0 n0 m0) ∧ w'.cell? ⟨w.heap.size + 1, 0, none⟩ = some (.bool b1) ∧ w'.cell? ⟨w.heap.size + 1, 1, none⟩ = some (.slice o1 n1 m1) ∧ w'.cell? ⟨wx3.heap.size, 0, none⟩ = some (.bool b_h) ∧ w'.cell? ⟨wx3.heap.size, 1, none⟩ = some (.slice o_h l_h k_h) ∧ w'.cell? ⟨g_y2, 0, none⟩ = some (.bool b_y2) ∧ w'.cell? ⟨g_y2, 1, none⟩ = some (.slice o_y2 l_y2 k_y2) ∧ w'.cell? ⟨wx12.heap.size, 0, none⟩ = some (.bool b_g) ∧ w'.cell? ⟨wx12.heap.size, 1, none⟩ = some (.slice o_g l_g k_g))
          (first | exact ⟨x00, x01, x10, x11, y10, y11, y20, y21, y30, y31⟩ | go_keep)
          (first
            | (have := tok6; go_at_call 33; refine (bits_g g0.gn (by omega)).mono ?_; rintro e wx21 ⟨v_bb, rfl, c_bb, hbx⟩; obtain ⟨o_bb, k_bb, rfl⟩ := sl_shape c_bb; rw [HBL.out]; clear c_bb; replace g0 := g0.below hbx; replace g1 := g1.below hbx; replace c_h := c_h.below hbx; replace c_y2 := c_y2.below hbx; replace c_g := c_g.below hbx; replace c_na := c_na.below hbx; replace c_g2 := c_g2.below hbx; replace c_g3 := c_g3.below hbx; replace hbt := hbt.trans (hbx.mono hbt.size); replace HB_x0 := Lib.hid ((hbx.block _ (lt_of_block HB_x0.out)).trans HB_x0.out); replace HB_x1 := Lib.hid ((hbx.block _ (lt_of_block HB_x1.out)).trans HB_x1.out); replace HB_y1 := Lib.hid ((hbx.block _ (lt_of_block HB_y1.out)).trans HB_y1.out); replace HB_y2 := Lib.hid ((hbx.block _ (lt_of_block HB_y2.out)).trans HB_y2.out); replace HB_y3 := Lib.hid ((hbx.block _ (lt_of_block HB_y3.out)).trans HB_y3.out); clear hbx; replace x00 := (two_cells HB_x0.out).1; replace x01 := (two_cells HB_x0.out).2.1; replace x10 := (two_cells HB_x1.out).1; replace x11 := (two_cells HB_x1.out).2.1; replace y10 := (two_cells HB_y1.out).1; replace y11 := (two_cells HB_y1.out).2.1; replace y20 := (two_cells HB_y2.out).1; replace y21 := (two_cells HB_y2.out).2.1; replace y30 := (two_cells HB_y3.out).1; replace y31 := (two_cells HB_y3.out).2.1; have tok7 := Lib.hid trivial)
            | (have := tok5; go_at_call 31; refine (wbits_any _ A 12 _ g0 (by omega)).mono ?_; rintro e wx20 ⟨rfl, hbx⟩; replace g0 := g0.below hbx; replace g1 := g1.below hbx; replace c_h := c_h.below hbx; replace c_y2 := c_y2.below hbx; replace c_g := c_g.below hbx; replace c_na := c_na.below hbx; replace c_g2 := c_g2.below hbx; replace c_g3 := c_g3.below hbx; replace hbt := hbt.trans (hbx.mono hbt.size); replace HB_x0 := Lib.hid ((hbx.block _ (lt_of_block HB_x0.out)).trans HB_x0.out); replace HB_x1 := Lib.hid ((hbx.block _ (lt_of_block HB_x1.out)).trans HB_x1.out); replace HB_y1 := Lib.hid ((hbx.block _ (lt_of_block HB_y1.out)).trans HB_y1.out); replace HB_y2 := Lib.hid ((hbx.block _ (lt_of_block HB_y2.out)).trans HB_y2.out); replace HB_y3 := Lib.hid ((hbx.block _ (lt_of_block HB_y3.out)).trans HB_y3.out); clear hbx; replace x00 := (two_cells HB_x0.out).1; replace x01 := (two_cells HB_x0.out).2.1; replace x10 := (two_cells HB_x1.out).1; replace x11 := (two_cells HB_x1.out).2.1; replace y10 := (two_cells HB_y1.out).1; replace y11 := (two_cells HB_y1.out).2.1; replace y20 := (two_cells HB_y2.out).1; replace y21 := (two_cells HB_y2.out).2.1; replace y30 := (two_cells HB_y3.out).1; replace y31 := (two_cells HB_y3.out).2.1; have tok6 := Lib.hid trivial)
            | (have := tok4; go_at_call 25; refine (same_true _ _ ((Nat.gcd A.natAbs B.natAbs : Nat) : Int) 12 12 _ c_g (c_g3.to HGC.out) (by omega) (by omega)).mono ?_; rintro e wx19 ⟨rfl, hbx⟩; replace g0 := g0.below hbx; replace g1 := g1.below hbx; replace c_h := c_h.below hbx; replace c_y2 := c_y2.below hbx; replace c_g := c_g.below hbx; replace c_na := c_na.below hbx; replace c_g2 := c_g2.below hbx; replace c_g3 := c_g3.below hbx; replace hbt := hbt.trans (hbx.mono hbt.size); replace HB_x0 := Lib.hid ((hbx.block _ (lt_of_block HB_x0.out)).trans HB_x0.out); replace HB_x1 := Lib.hid ((hbx.block _ (lt_of_block HB_x1.out)).trans HB_x1.out); replace HB_y1 := Lib.hid ((hbx.block _ (lt_of_block HB_y1.out)).trans HB_y1.out); replace HB_y2 := Lib.hid ((hbx.block _ (lt_of_block HB_y2.out)).trans HB_y2.out); replace HB_y3 := Lib.hid ((hbx.block _ (lt_of_block HB_y3.out)).trans HB_y3.out); clear hbx; replace x00 := (two_cells HB_x0.out).1; replace x01 := (two_cells HB_x0.out).2.1; replace x10 := (two_cells HB_x1.out).1; replace x11 := (two_cells HB_x1.out).2.1; replace y10 := (two_cells HB_y1.out).1; replace y11 := (two_cells HB_y1.out).2.1; replace y20 := (two_cells HB_y2.out).1; replace y21 := (two_cells HB_y2.out).2.1; replace y30 := (two_cells HB_y3.out).1; replace y31 := (two_cells HB_y3.out).2.1; have tok5 := Lib.hid trivial)
            | (have := tok3; go_at_call 32; refine (wgcd_any _ _ B A 12 12 _ g1 g0 (by omega) (by omega)).mono ?_; rintro e wx18 ⟨v_g3, rfl, c_g3, hbx⟩; replace g0 := g0.below hbx; replace g1 := g1.below hbx; replace c_h := c_h.below hbx; replace c_y2 := c_y2.below hbx; replace c_g := c_g.below hbx; replace c_na := c_na.below hbx; replace c_g2 := c_g2.below hbx; replace hbt := hbt.trans (hbx.mono hbt.size); replace HB_x0 := Lib.hid ((hbx.block _ (lt_of_block HB_x0.out)).trans HB_x0.out); replace HB_x1 := Lib.hid ((hbx.block _ (lt_of_block HB_x1.out)).trans HB_x1.out); replace HB_y1 := Lib.hid ((hbx.block _ (lt_of_block HB_y1.out)).trans HB_y1.out); replace HB_y2 := Lib.hid ((hbx.block _ (lt_of_block HB_y2.out)).trans HB_y2.out); replace HB_y3 := Lib.hid ((hbx.block _ (lt_of_block HB_y3.out)).trans HB_y3.out); clear hbx; replace x00 := (two_cells HB_x0.out).1; replace x01 := (two_cells HB_x0.out).2.1; replace x10 := (two_cells HB_x1.out).1; replace x11 := (two_cells HB_x1.out).2.1; replace y10 := (two_cells HB_y1.out).1; replace y11 := (two_cells HB_y1.out).2.1; replace y20 := (two_cells HB_y2.out).1; replace y21 := (two_cells HB_y2.out).2.1; replace y30 := (two_cells HB_y3.out).1; replace y31 := (two_cells HB_y3.out).2.1; obtain ⟨b_g3, o_g3, l_g3, k_g3, rfl⟩ := c_g3.shape; have tok4 := Lib.hid trivial)
            | (have := tok2; go_at_call 25; refine (same_true _ _ ((Nat.gcd A.natAbs B.natAbs : Nat) : Int) 12 12 _ c_g (c_g2.to HGN.out) (by omega) (by omega)).mono ?_; rintro e wx17 ⟨rfl, hbx⟩; replace g0 := g0.below hbx; replace g1 := g1.below hbx; replace c_h := c_h.below hbx; replace c_y2 := c_y2.below hbx; replace c_g := c_g.below hbx; replace c_na := c_na.below hbx; replace c_g2 := c_g2.below hbx; replace hbt := hbt.trans (hbx.mono hbt.size); replace HB_x0 := Lib.hid ((hbx.block _ (lt_of_block HB_x0.out)).trans HB_x0.out); replace HB_x1 := Lib.hid ((hbx.block _ (lt_of_block HB_x1.out)).trans HB_x1.out); replace HB_y1 := Lib.hid ((hbx.block _ (lt_of_block HB_y1.out)).trans HB_y1.out); replace HB_y2 := Lib.hid ((hbx.block _ (lt_of_block HB_y2.out)).trans HB_y2.out); replace HB_y3 := Lib.hid ((hbx.block _ (lt_of_block HB_y3.out)).trans HB_y3.out); clear hbx; replace x00 := (two_cells HB_x0.out).1; replace x01 := (two_cells HB_x0.out).2.1; replace x10 := (two_cells HB_x1.out).1; replace x11 := (two_cells HB_x1.out).2.1; replace y10 := (two_cells HB_y1.out).1; replace y11 := (two_cells HB_y1.out).2.1; replace y20 := (two_cells HB_y2.out).1; replace y21 := (two_cells HB_y2.out).2.1; replace y30 := (two_cells HB_y3.out).1; replace y31 := (two_cells HB_y3.out).2.1; have tok3 := Lib.hid trivial)
            | (have := tok1; go_at_call 32; refine (wgcd_any _ _ (-A) B 12 12 _ c_na.gi g1 (by omega) (by omega)).mono ?_; rintro e wx16 ⟨v_g2, rfl, c_g2, hbx⟩; replace g0 := g0.below hbx; replace g1 := g1.below hbx; replace c_h := c_h.below hbx; replace c_y2 := c_y2.below hbx; replace c_g := c_g.below hbx; replace c_na := c_na.below hbx; replace hbt := hbt.trans (hbx.mono hbt.size); replace HB_x0 := Lib.hid ((hbx.block _ (lt_of_block HB_x0.out)).trans HB_x0.out); replace HB_x1 := Lib.hid ((hbx.block _ (lt_of_block HB_x1.out)).trans HB_x1.out); replace HB_y1 := Lib.hid ((hbx.block _ (lt_of_block HB_y1.out)).trans HB_y1.out); replace HB_y2 := Lib.hid ((hbx.block _ (lt_of_block HB_y2.out)).trans HB_y2.out); replace HB_y3 := Lib.hid ((hbx.block _ (lt_of_block HB_y3.out)).trans HB_y3.out); clear hbx; replace x00 := (two_cells HB_x0.out).1; replace x01 := (two_cells HB_x0.out).2.1; replace x10 := (two_cells HB_x1.out).1; replace x11 := (two_cells HB_x1.out).2.1; replace y10 := (two_cells HB_y1.out).1; replace y11 := (two_cells HB_y1.out).2.1; replace y20 := (two_cells HB_y2.out).1; replace y21 := (two_cells HB_y2.out).2.1; replace y30 := (two_cells HB_y3.out).1; replace y31 := (two_cells HB_y3.out).2.1; obtain ⟨b_g2, o_g2, l_g2, k_g2, rfl⟩ := c_g2.shape; have tok2 := Lib.hid trivial)
            | (have := tok0; go_at_call 22; refine (wneg_any _ A 12 _ g0 (by omega)).mono ?_; rintro e wx15 ⟨v_na, rfl, c_na, hbx⟩; replace g0 := g0.below hbx; replace g1 := g1.below hbx; replace c_h := c_h.below hbx; replace c_y2 := c_y2.below hbx; replace c_g := c_g.below hbx; replace hbt := hbt.trans (hbx.mono hbt.size); replace HB_x0 := Lib.hid ((hbx.block _ (lt_of_block HB_x0.out)).trans HB_x0.out); replace HB_x1 := Lib.hid ((hbx.block _ (lt_of_block HB_x1.out)).trans HB_x1.out); replace HB_y1 := Lib.hid ((hbx.block _ (lt_of_block HB_y1.out)).trans HB_y1.out); replace HB_y2 := Lib.hid ((hbx.block _ (lt_of_block HB_y2.out)).trans HB_y2.out); replace HB_y3 := Lib.hid ((hbx.block _ (lt_of_block HB_y3.out)).trans HB_y3.out); clear hbx; replace x00 := (two_cells HB_x0.out).1; replace x01 := (two_cells HB_x0.out).2.1; replace x10 := (two_cells HB_x1.out).1; replace x11 := (two_cells HB_x1.out).2.1; replace y10 := (two_cells HB_y1.out).1; replace y11 := (two_cells HB_y1.out).2.1; replace y20 := (two_cells HB_y2.out).1; replace y21 := (two_cells HB_y2.out).2.1; replace y30 := (two_cells HB_y3.out).1; replace y31 := (two_cells HB_y3.out).2.1; obtain ⟨b_na, o_na, l_na, k_na, rfl⟩ := c_na.shape; have tok1 := Lib.hid trivial)
            | (skip; go_at_call 23; refine (wsign_s _ ((Nat.gcd A.natAbs B.natAbs : Nat) : Int) 12 sgx _ c_g.drew.gi HSGX.out (by omega)).mono ?_; rintro e wx14 ⟨rfl, hbx'⟩; have hbx := undrew hbx'; clear hbx'; replace g0 := g0.below hbx; replace g1 := g1.below hbx; replace c_h := c_h.below hbx; replace c_y2 := c_y2.below hbx; replace c_g := c_g.below hbx; replace hbt := hbt.trans (hbx.mono hbt.size); replace HB_x0 := Lib.hid ((hbx.block _ (lt_of_block HB_x0.out)).trans HB_x0.out); replace HB_x1 := Lib.hid ((hbx.block _ (lt_of_block HB_x1.out)).trans HB_x1.out); replace HB_y1 := Lib.hid ((hbx.block _ (lt_of_block HB_y1.out)).trans HB_y1.out); replace HB_y2 := Lib.hid ((hbx.block _ (lt_of_block HB_y2.out)).trans HB_y2.out); replace HB_y3 := Lib.hid ((hbx.block _ (lt_of_block HB_y3.out)).trans HB_y3.out); clear hbx; replace x00 := (two_cells HB_x0.out).1; replace x01 := (two_cells HB_x0.out).2.1; replace x10 := (two_cells HB_x1.out).1; replace x11 := (two_cells HB_x1.out).2.1; replace y10 := (two_cells HB_y1.out).1; replace y11 := (two_cells HB_y1.out).2.1; replace y20 := (two_cells HB_y2.out).1; replace y21 := (two_cells HB_y2.out).2.1; replace y30 := (two_cells HB_y3.out).1; replace y31 := (two_cells HB_y3.out).2.1; have tok0 := Lib.hid trivial))
        go_wp2_with fail
        go_ret
        exact ⟨rfl, hbt⟩
    · have hsg0 := hsg
      have hbt := below2 w (.cells #[.bool b0, .slice o0 n0 m0] 25) (.cells #[.bool b1, .slice o1 n1 m1] 25)
      have hbk := blocks2 (Below.refl (w.heap.size + 2) ((w.alloc (.cells #[.bool b0, .slice o0 n0 m0] 25)).alloc (.cells #[.bool b1, .slice o1 n1 m1] 25)))
      have HB_x0 := Lib.hid hbk.1
      have HB_x1 := Lib.hid hbk.2
      clear hbk
      replace g0 := g0.below hbt
      have x00 := (two_cells HB_x0.out).1
      have x01 := (two_cells HB_x0.out).2.1
      replace g1 := g1.below hbt
      have x10 := (two_cells HB_x1.out).1
      have x11 := (two_cells HB_x1.out).2.1
      go_enter Tryd.func8, Tryd.ntmps8
      go_wp2_with fail
      generalize ((w.alloc (.cells #[.bool b0, .slice o0 n0 m0] 25)).alloc (.cells #[.bool b1, .slice o1 n1 m1] 25)) = w0 at *
      refine (HF.out _ (tab_below HTB.out hbt)).mono ?_
      rintro e wx1 ⟨rfl, hbx⟩
      replace g0 := g0.below hbx
      replace g1 := g1.below hbx
      replace hbt := hbt.trans (hbx.mono hbt.size)
      replace HB_x0 := Lib.hid ((hbx.block _ (lt_of_block HB_x0.out)).trans HB_x0.out)
      replace HB_x1 := Lib.hid ((hbx.block _ (lt_of_block HB_x1.out)).trans HB_x1.out)
      clear hbx
      replace x00 := (two_cells HB_x0.out).1
      replace x01 := (two_cells HB_x0.out).2.1
      replace x10 := (two_cells HB_x1.out).1
      replace x11 := (two_cells HB_x1.out).2.1
      go_wp2_with fail
      refine (short_t2 12 _ rfl l0 l1).mono ?_
      rintro e wx2 ⟨rfl, hbx⟩
      replace g0 := g0.below hbx
      replace g1 := g1.below hbx
      replace hbt := hbt.trans (hbx.mono hbt.size)
      replace HB_x0 := Lib.hid ((hbx.block _ (lt_of_block HB_x0.out)).trans HB_x0.out)
      replace HB_x1 := Lib.hid ((hbx.block _ (lt_of_block HB_x1.out)).trans HB_x1.out)
      clear hbx
      replace x00 := (two_cells HB_x0.out).1
      replace x01 := (two_cells HB_x0.out).2.1
      replace x10 := (two_cells HB_x1.out).1
      replace x11 := (two_cells HB_x1.out).2.1
      go_wp2_with fail
      refine (half_any _ A 12 _ g0 (by omega)).mono ?_
      rintro e wx3 ⟨v_h, rfl, c_h, hbx⟩
      replace g0 := g0.below hbx
      replace g1 := g1.below hbx
      replace hbt := hbt.trans (hbx.mono hbt.size)
      replace HB_x0 := Lib.hid ((hbx.block _ (lt_of_block HB_x0.out)).trans HB_x0.out)
      replace HB_x1 := Lib.hid ((hbx.block _ (lt_of_block HB_x1.out)).trans HB_x1.out)
      clear hbx
      replace x00 := (two_cells HB_x0.out).1
      replace x01 := (two_cells HB_x0.out).2.1
      replace x10 := (two_cells HB_x1.out).1
      replace x11 := (two_cells HB_x1.out).2.1
      obtain ⟨b_h, o_h, l_h, k_h, rfl⟩ := c_h.shape
      have hlt_x0 := lt_of_block HB_x0.out
      have hlt_x1 := lt_of_block HB_x1.out
      go_wp2_with fail
      clear hlt_x0 hlt_x1
      have hbx : Below wx3.heap.size wx3 (wx3.alloc (.cells #[.bool b_h, .slice o_h l_h k_h] 25)) := (Below.refl _ _).alloc (Nat.le_refl _) _
      replace g0 := g0.below hbx
      replace g1 := g1.below hbx
      replace c_h := c_h.below hbx
      replace hbt := hbt.trans (hbx.mono hbt.size)
      replace HB_x0 := Lib.hid ((hbx.block _ (lt_of_block HB_x0.out)).trans HB_x0.out)
      replace HB_x1 := Lib.hid ((hbx.block _ (lt_of_block HB_x1.out)).trans HB_x1.out)
      clear hbx
      replace x00 := (two_cells HB_x0.out).1
      replace x01 := (two_cells HB_x0.out).2.1
      replace x10 := (two_cells HB_x1.out).1
      replace x11 := (two_cells HB_x1.out).2.1
      have HB_y1 := Lib.hid (heap_alloc_new wx3 (.cells #[.bool b_h, .slice o_h l_h k_h] 25))
      have y10 := (two_cells HB_y1.out).1
      have y11 := (two_cells HB_y1.out).2.1
      generalize (wx3.alloc (.cells #[.bool b_h, .slice o_h l_h k_h] 25)) = wx4 at *
      have hlt_x0 := lt_of_block HB_x0.out
      have hlt_x1 := lt_of_block HB_x1.out
      have hlt_y1 := lt_of_block HB_y1.out
      go_upto_region 6 with fail
      go_cut [6] (fun s6 wx => ∃ g_y2 b_y2 o_y2 l_y2 k_y2, s6 = .pointer (some ⟨g_y2, 0, none⟩) ∧ wx4.heap.size ≤ g_y2 ∧ wx.heap[g_y2]? = some (.cells #[.bool b_y2, .slice o_y2 l_y2 k_y2] 25 (0, 0)) ∧ CI wx (.agg #[.bool b_y2, .slice o_y2 l_y2 k_y2]) (A - (Int.tdiv A 2 + Int.tdiv A 2)) 38 ∧ Below wx4.heap.size wx4 wx)
      case first =>
        go_region_held3 (fun w' => w'.cell? ⟨w.heap.size, 0, none⟩ = some (.bool b0) ∧ w'.cell? ⟨w.heap.size, 1, none⟩ = some (.slice o0 n0 m0) ∧ w'.cell? ⟨wx3.heap.size, 0, none⟩ = some (.bool b_h) ∧ w'.cell? ⟨wx3.heap.size, 1, none⟩ = some (.slice o_h l_h k_h))
          (first | exact ⟨x00, x01, y10, y11⟩ | exact ⟨(far2 (by omega)).trans x00, (far2 (by omega)).trans x01, (far2 (by omega)).trans y10, (far2 (by omega)).trans y11⟩ | go_keep)
          (first
            | (have := tok0; go_at_call 16; refine (wsub_any _ _ A (Int.tdiv A 2 + Int.tdiv A 2) 12 25 _ (g0.below (by first | exact Below.refl _ _ | (repeat (first | exact Below.refl _ _ | refine Below.drew ?_ | refine Below.alloc ?_ (by first | exact Nat.le_refl _ | (simp; done) | (simp; omega)) _)))) (c_s.gi.below (by first | exact Below.refl _ _ | (repeat (first | exact Below.refl _ _ | refine Below.drew ?_ | refine Below.alloc ?_ (by first | exact Nat.le_refl _ | (simp; done) | (simp; omega)) _)))) (by omega) (by omega)).mono ?_; rintro e wx6 ⟨v_m, rfl, c_m, hbq⟩; have hbx : Below wx5.heap.size wx5 wx6 := trans2 hbq (by first | exact Below.refl _ _ | (repeat (first | exact Below.refl _ _ | refine Below.drew ?_ | refine Below.alloc ?_ (by first | exact Nat.le_refl _ | (simp; done) | (simp; omega)) _))); (first | (have HL_y2 := Lib.hid ((hbx.block _ (lt_of_block HL_y2.out)).trans HL_y2.out)) | (have hlk := kept_heap (T := 25) hbq; have HL_y2 := Lib.hid hlk) | (have hlk := kept_heap (T := 25) (undrew hbq); have HL_y2 := Lib.hid hlk) | skip); replace g0 := g0.below hbx; replace g1 := g1.below hbx; replace c_h := c_h.below hbx; replace c_s := c_s.below hbx; replace hbr := hbr.trans (hbx.mono hbr.size); replace HB_x0 := Lib.hid ((hbx.block _ (lt_of_block HB_x0.out)).trans HB_x0.out); have hlt_x0 := lt_of_block HB_x0.out; replace HB_x1 := Lib.hid ((hbx.block _ (lt_of_block HB_x1.out)).trans HB_x1.out); have hlt_x1 := lt_of_block HB_x1.out; replace HB_y1 := Lib.hid ((hbx.block _ (lt_of_block HB_y1.out)).trans HB_y1.out); have hlt_y1 := lt_of_block HB_y1.out; have hsz1 := hbx.size; clear hbx; replace x00 := (two_cells HB_x0.out).1; replace x01 := (two_cells HB_x0.out).2.1; replace y10 := (two_cells HB_y1.out).1; replace y11 := (two_cells HB_y1.out).2.1; (first | (have hl4 := two_cells HL_y2.out; obtain ⟨la_y2, lb_y2, lc_y2, ld_y2⟩ := hl4; (try simp at la_y2 lb_y2 lc_y2 ld_y2)) | skip); obtain ⟨b_m, o_m, l_m, k_m, rfl⟩ := c_m.shape; have tok1 := Lib.hid trivial)
            | (skip; go_at_call 14; refine (wadd_any _ _ (Int.tdiv A 2) (Int.tdiv A 2) 12 12 _ (c_h.gi.below (by first | exact Below.refl _ _ | (repeat (first | exact Below.refl _ _ | refine Below.drew ?_ | refine Below.alloc ?_ (by first | exact Nat.le_refl _ | (simp; done) | (simp; omega)) _)))) (c_h.gi.below (by first | exact Below.refl _ _ | (repeat (first | exact Below.refl _ _ | refine Below.drew ?_ | refine Below.alloc ?_ (by first | exact Nat.le_refl _ | (simp; done) | (simp; omega)) _)))) (by omega) (by omega)).mono ?_; rintro e wx5 ⟨v_s, rfl, c_s, hbq⟩; have hbx : Below wx4.heap.size wx4 wx5 := trans2 hbq (by first | exact Below.refl _ _ | (repeat (first | exact Below.refl _ _ | refine Below.drew ?_ | refine Below.alloc ?_ (by first | exact Nat.le_refl _ | (simp; done) | (simp; omega)) _))); (first | (have HL_y2 := Lib.hid ((hbx.block _ (lt_of_block HL_y2.out)).trans HL_y2.out)) | (have hlk := kept_heap (T := 25) hbq; have HL_y2 := Lib.hid hlk) | (have hlk := kept_heap (T := 25) (undrew hbq); have HL_y2 := Lib.hid hlk) | skip); replace g0 := g0.below hbx; replace g1 := g1.below hbx; replace c_h := c_h.below hbx; have hbr := hbx; replace HB_x0 := Lib.hid ((hbx.block _ (lt_of_block HB_x0.out)).trans HB_x0.out); have hlt_x0 := lt_of_block HB_x0.out; replace HB_x1 := Lib.hid ((hbx.block _ (lt_of_block HB_x1.out)).trans HB_x1.out); have hlt_x1 := lt_of_block HB_x1.out; replace HB_y1 := Lib.hid ((hbx.block _ (lt_of_block HB_y1.out)).trans HB_y1.out); have hlt_y1 := lt_of_block HB_y1.out; have hsz0 := hbx.size; clear hbx; replace x00 := (two_cells HB_x0.out).1; replace x01 := (two_cells HB_x0.out).2.1; replace y10 := (two_cells HB_y1.out).1; replace y11 := (two_cells HB_y1.out).2.1; (first | (have hl4 := two_cells HL_y2.out; obtain ⟨la_y2, lb_y2, lc_y2, ld_y2⟩ := hl4; (try simp at la_y2 lb_y2 lc_y2 ld_y2)) | skip); obtain ⟨b_s, o_s, l_s, k_s, rfl⟩ := c_s.shape; have tok0 := Lib.hid trivial))
        all_goals
          go_wp2_with fail
          go_meet
          first
            | exact ⟨_, _, _, _, _, rfl, hbr.size, heap_alloc_new _ _, c_m.below ((Below.refl _ _).alloc (Nat.le_refl _) _), hbr.alloc hbr.size _⟩
            | exact ⟨_, _, _, _, _, rfl, by omega, heap_set2 HL_y2.out _ _, c_m.set2 HL_y2.out _ _, below_setg hbr (by omega) _ _⟩
      case rest =>
        obtain ⟨g_y2, b_y2, o_y2, l_y2, k_y2, rfl, hg_y2, hB_y2, c_y2, hbx⟩ := hcut
        obtain ⟨wx7, he⟩ : ∃ x, x = wc := ⟨wc, rfl⟩
        subst he
        have HB_y2 := Lib.hid hB_y2
        clear hB_y2
        have y20 := (two_cells HB_y2.out).1
        have y21 := (two_cells HB_y2.out).2.1
        replace g0 := g0.below hbx
        replace g1 := g1.below hbx
        replace c_h := c_h.below hbx
        replace hbt := hbt.trans (hbx.mono hbt.size)
        replace HB_x0 := Lib.hid ((hbx.block _ (lt_of_block HB_x0.out)).trans HB_x0.out)
        replace HB_x1 := Lib.hid ((hbx.block _ (lt_of_block HB_x1.out)).trans HB_x1.out)
        replace HB_y1 := Lib.hid ((hbx.block _ (lt_of_block HB_y1.out)).trans HB_y1.out)
        clear hbx
        replace x00 := (two_cells HB_x0.out).1
        replace x01 := (two_cells HB_x0.out).2.1
        replace x10 := (two_cells HB_x1.out).1
        replace x11 := (two_cells HB_x1.out).2.1
        replace y10 := (two_cells HB_y1.out).1
        replace y11 := (two_cells HB_y1.out).2.1
        go_wp2_with fail
        refine (wsign_any _ A 12 _ g0 (by omega)).mono ?_
        rintro e wx8 ⟨rfl, hbx⟩
        replace g0 := g0.below hbx
        replace g1 := g1.below hbx
        replace c_h := c_h.below hbx
        replace c_y2 := c_y2.below hbx
        replace hbt := hbt.trans (hbx.mono hbt.size)
        replace HB_x0 := Lib.hid ((hbx.block _ (lt_of_block HB_x0.out)).trans HB_x0.out)
        replace HB_x1 := Lib.hid ((hbx.block _ (lt_of_block HB_x1.out)).trans HB_x1.out)
        replace HB_y1 := Lib.hid ((hbx.block _ (lt_of_block HB_y1.out)).trans HB_y1.out)
        replace HB_y2 := Lib.hid ((hbx.block _ (lt_of_block HB_y2.out)).trans HB_y2.out)
        clear hbx
        replace x00 := (two_cells HB_x0.out).1
        replace x01 := (two_cells HB_x0.out).2.1
        replace x10 := (two_cells HB_x1.out).1
        replace x11 := (two_cells HB_x1.out).2.1
        replace y10 := (two_cells HB_y1.out).1
        replace y11 := (two_cells HB_y1.out).2.1
        replace y20 := (two_cells HB_y2.out).1
        replace y21 := (two_cells HB_y2.out).2.1
        go_wp2_with fail
        refine (wsmall_yes _ 1 38 _ (c_y2.to HRR.out).gi (by omega) (by omega) (by omega)).mono ?_
        rintro e wx9 ⟨rfl, hbx⟩
        replace g0 := g0.below hbx
        replace g1 := g1.below hbx
        replace c_h := c_h.below hbx
        replace c_y2 := c_y2.below hbx
        replace hbt := hbt.trans (hbx.mono hbt.size)
        replace HB_x0 := Lib.hid ((hbx.block _ (lt_of_block HB_x0.out)).trans HB_x0.out)
        replace HB_x1 := Lib.hid ((hbx.block _ (lt_of_block HB_x1.out)).trans HB_x1.out)
        replace HB_y1 := Lib.hid ((hbx.block _ (lt_of_block HB_y1.out)).trans HB_y1.out)
        replace HB_y2 := Lib.hid ((hbx.block _ (lt_of_block HB_y2.out)).trans HB_y2.out)
        clear hbx
        replace x00 := (two_cells HB_x0.out).1
        replace x01 := (two_cells HB_x0.out).2.1
        replace x10 := (two_cells HB_x1.out).1
        replace x11 := (two_cells HB_x1.out).2.1
        replace y10 := (two_cells HB_y1.out).1
        replace y11 := (two_cells HB_y1.out).2.1
        replace y20 := (two_cells HB_y2.out).1
        replace y21 := (two_cells HB_y2.out).2.1
        go_wp2_with fail
        go_region_held3 (fun w' => w'.cell? ⟨w.heap.size, 0, none⟩ = some (.bool b0) ∧ w'.cell? ⟨w.heap.size, 1, none⟩ = some (.slice o0 n0 m0) ∧ w'.cell? ⟨w.heap.size + 1, 0, none⟩ = some (.bool b1) ∧ w'.cell? ⟨w.heap.size + 1, 1, none⟩ = some (.slice o1 n1 m1) ∧ w'.cell? ⟨wx3.heap.size, 0, none⟩ = some (.bool b_h) ∧ w'.cell? ⟨wx3.heap.size, 1, none⟩ = some (.slice o_h l_h k_h) ∧ w'.cell? ⟨g_y2, 0, none⟩ = some (.bool b_y2) ∧ w'.cell? ⟨g_y2, 1, none⟩ = some (.slice o_y2 l_y2 k_y2))
          (first | exact ⟨x00, x01, x10, x11, y10, y11, y20, y21⟩ | go_keep)
          (first
            | (have := tok0; go_at_call 31; refine (wbits_s _ A 12 M _ g0 HM.out (by omega)).mono ?_; rintro e wx11 ⟨rfl, hbx⟩; replace g0 := g0.below hbx; replace g1 := g1.below hbx; replace c_h := c_h.below hbx; replace c_y2 := c_y2.below hbx; replace hbt := hbt.trans (hbx.mono hbt.size); replace HB_x0 := Lib.hid ((hbx.block _ (lt_of_block HB_x0.out)).trans HB_x0.out); replace HB_x1 := Lib.hid ((hbx.block _ (lt_of_block HB_x1.out)).trans HB_x1.out); replace HB_y1 := Lib.hid ((hbx.block _ (lt_of_block HB_y1.out)).trans HB_y1.out); replace HB_y2 := Lib.hid ((hbx.block _ (lt_of_block HB_y2.out)).trans HB_y2.out); clear hbx; replace x00 := (two_cells HB_x0.out).1; replace x01 := (two_cells HB_x0.out).2.1; replace x10 := (two_cells HB_x1.out).1; replace x11 := (two_cells HB_x1.out).2.1; replace y10 := (two_cells HB_y1.out).1; replace y11 := (two_cells HB_y1.out).2.1; replace y20 := (two_cells HB_y2.out).1; replace y21 := (two_cells HB_y2.out).2.1; have tok1 := Lib.hid trivial)
            | (skip; go_at_call 31; refine (wbits_s _ (Int.tdiv A 2) 12 (max (M - 1) 0) _ c_h.drew.gi HBT.out (by omega)).mono ?_; rintro e wx10 ⟨rfl, hbx'⟩; have hbx := undrew hbx'; clear hbx'; replace g0 := g0.below hbx; replace g1 := g1.below hbx; replace c_h := c_h.below hbx; replace c_y2 := c_y2.below hbx; replace hbt := hbt.trans (hbx.mono hbt.size); replace HB_x0 := Lib.hid ((hbx.block _ (lt_of_block HB_x0.out)).trans HB_x0.out); replace HB_x1 := Lib.hid ((hbx.block _ (lt_of_block HB_x1.out)).trans HB_x1.out); replace HB_y1 := Lib.hid ((hbx.block _ (lt_of_block HB_y1.out)).trans HB_y1.out); replace HB_y2 := Lib.hid ((hbx.block _ (lt_of_block HB_y2.out)).trans HB_y2.out); clear hbx; replace x00 := (two_cells HB_x0.out).1; replace x01 := (two_cells HB_x0.out).2.1; replace x10 := (two_cells HB_x1.out).1; replace x11 := (two_cells HB_x1.out).2.1; replace y10 := (two_cells HB_y1.out).1; replace y11 := (two_cells HB_y1.out).2.1; replace y20 := (two_cells HB_y2.out).1; replace y21 := (two_cells HB_y2.out).2.1; have tok0 := Lib.hid trivial))
        go_wp2_with fail
        refine (wgcd_any _ _ A B 12 12 _ g0 g1 (by omega) (by omega)).mono ?_
        rintro e wx12 ⟨v_g, rfl, c_g, hbx⟩
        replace g0 := g0.below hbx
        replace g1 := g1.below hbx
        replace c_h := c_h.below hbx
        replace c_y2 := c_y2.below hbx
        replace hbt := hbt.trans (hbx.mono hbt.size)
        replace HB_x0 := Lib.hid ((hbx.block _ (lt_of_block HB_x0.out)).trans HB_x0.out)
        replace HB_x1 := Lib.hid ((hbx.block _ (lt_of_block HB_x1.out)).trans HB_x1.out)
        replace HB_y1 := Lib.hid ((hbx.block _ (lt_of_block HB_y1.out)).trans HB_y1.out)
        replace HB_y2 := Lib.hid ((hbx.block _ (lt_of_block HB_y2.out)).trans HB_y2.out)
        clear hbx
        replace x00 := (two_cells HB_x0.out).1
        replace x01 := (two_cells HB_x0.out).2.1
        replace x10 := (two_cells HB_x1.out).1
        replace x11 := (two_cells HB_x1.out).2.1
        replace y10 := (two_cells HB_y1.out).1
        replace y11 := (two_cells HB_y1.out).2.1
        replace y20 := (two_cells HB_y2.out).1
        replace y21 := (two_cells HB_y2.out).2.1
        obtain ⟨b_g, o_g, l_g, k_g, rfl⟩ := c_g.shape
        have hlt_x0 := lt_of_block HB_x0.out
        have hlt_x1 := lt_of_block HB_x1.out
        have hlt_y1 := lt_of_block HB_y1.out
        have hlt_y2 := lt_of_block HB_y2.out
        go_wp2_with fail
        clear hlt_x0 hlt_x1 hlt_y1 hlt_y2
        have hbx : Below wx12.heap.size wx12 (wx12.alloc (.cells #[.bool b_g, .slice o_g l_g k_g] 25)) := (Below.refl _ _).alloc (Nat.le_refl _) _
        replace g0 := g0.below hbx
        replace g1 := g1.below hbx
        replace c_h := c_h.below hbx
        replace c_y2 := c_y2.below hbx
        replace c_g := c_g.below hbx
        replace hbt := hbt.trans (hbx.mono hbt.size)
        replace HB_x0 := Lib.hid ((hbx.block _ (lt_of_block HB_x0.out)).trans HB_x0.out)
        replace HB_x1 := Lib.hid ((hbx.block _ (lt_of_block HB_x1.out)).trans HB_x1.out)
        replace HB_y1 := Lib.hid ((hbx.block _ (lt_of_block HB_y1.out)).trans HB_y1.out)
        replace HB_y2 := Lib.hid ((hbx.block _ (lt_of_block HB_y2.out)).trans HB_y2.out)
        clear hbx
        replace x00 := (two_cells HB_x0.out).1
        replace x01 := (two_cells HB_x0.out).2.1
        replace x10 := (two_cells HB_x1.out).1
        replace x11 := (two_cells HB_x1.out).2.1
        replace y10 := (two_cells HB_y1.out).1
        replace y11 := (two_cells HB_y1.out).2.1
        replace y20 := (two_cells HB_y2.out).1
        replace y21 := (two_cells HB_y2.out).2.1
        have HB_y3 := Lib.hid (heap_alloc_new wx12 (.cells #[.bool b_g, .slice o_g l_g k_g] 25))
        have y30 := (two_cells HB_y3.out).1
        have y31 := (two_cells HB_y3.out).2.1
        generalize (wx12.alloc (.cells #[.bool b_g, .slice o_g l_g k_g] 25)) = wx13 at *
        go_region_held3 (fun w' => w'.cell? ⟨w.heap.size, 0, none⟩ = some (.bool b0) ∧ w'.cell? ⟨w.heap.size, 1, none⟩ = some (.slice o0 n0 m0) ∧ w'.cell? ⟨w.heap.size + 1, 0, none⟩ = some (.bool b1) ∧ w'.cell? ⟨w.heap.size + 1, 1, none⟩ = some (.slice o1 n1 m1) ∧ w'.cell? ⟨wx3.heap.size, 0, none⟩ = some (.bool b_h) ∧ w'.cell? ⟨wx3.heap.size, 1, none⟩ = some (.slice o_h l_h k_h) ∧ w'.cell? ⟨g_y2, 0, none⟩ = some (.bool b_y2) ∧ w'.cell? ⟨g_y2, 1, none⟩ = some (.slice o_y2 l_y2 k_y2) ∧ w'.cell? ⟨wx12.heap.size, 0, none⟩ = some (.bool b_g) ∧ w'.cell? ⟨wx12.heap.size, 1, none⟩ = some (.slice o_g l_g k_g))
          (first | exact ⟨x00, x01, x10, x11, y10, y11, y20, y21, y30, y31⟩ | go_keep)
          (first
            | (have := tok6; go_at_call 33; refine (bits_g g0.gn (by omega)).mono ?_; rintro e wx21 ⟨v_bb, rfl, c_bb, hbx⟩; obtain ⟨o_bb, k_bb, rfl⟩ := sl_shape c_bb; rw [HBL.out]; clear c_bb; replace g0 := g0.below hbx; replace g1 := g1.below hbx; replace c_h := c_h.below hbx; replace c_y2 := c_y2.below hbx; replace c_g := c_g.below hbx; replace c_na := c_na.below hbx; replace c_g2 := c_g2.below hbx; replace c_g3 := c_g3.below hbx; replace hbt := hbt.trans (hbx.mono hbt.size); replace HB_x0 := Lib.hid ((hbx.block _ (lt_of_block HB_x0.out)).trans HB_x0.out); replace HB_x1 := Lib.hid ((hbx.block _ (lt_of_block HB_x1.out)).trans HB_x1.out); replace HB_y1 := Lib.hid ((hbx.block _ (lt_of_block HB_y1.out)).trans HB_y1.out); replace HB_y2 := Lib.hid ((hbx.block _ (lt_of_block HB_y2.out)).trans HB_y2.out); replace HB_y3 := Lib.hid ((hbx.block _ (lt_of_block HB_y3.out)).trans HB_y3.out); clear hbx; replace x00 := (two_cells HB_x0.out).1; replace x01 := (two_cells HB_x0.out).2.1; replace x10 := (two_cells HB_x1.out).1; replace x11 := (two_cells HB_x1.out).2.1; replace y10 := (two_cells HB_y1.out).1; replace y11 := (two_cells HB_y1.out).2.1; replace y20 := (two_cells HB_y2.out).1; replace y21 := (two_cells HB_y2.out).2.1; replace y30 := (two_cells HB_y3.out).1; replace y31 := (two_cells HB_y3.out).2.1; have tok7 := Lib.hid trivial)
            | (have := tok5; go_at_call 31; refine (wbits_any _ A 12 _ g0 (by omega)).mono ?_; rintro e wx20 ⟨rfl, hbx⟩; replace g0 := g0.below hbx; replace g1 := g1.below hbx; replace c_h := c_h.below hbx; replace c_y2 := c_y2.below hbx; replace c_g := c_g.below hbx; replace c_na := c_na.below hbx; replace c_g2 := c_g2.below hbx; replace c_g3 := c_g3.below hbx; replace hbt := hbt.trans (hbx.mono hbt.size); replace HB_x0 := Lib.hid ((hbx.block _ (lt_of_block HB_x0.out)).trans HB_x0.out); replace HB_x1 := Lib.hid ((hbx.block _ (lt_of_block HB_x1.out)).trans HB_x1.out); replace HB_y1 := Lib.hid ((hbx.block _ (lt_of_block HB_y1.out)).trans HB_y1.out); replace HB_y2 := Lib.hid ((hbx.block _ (lt_of_block HB_y2.out)).trans HB_y2.out); replace HB_y3 := Lib.hid ((hbx.block _ (lt_of_block HB_y3.out)).trans HB_y3.out); clear hbx; replace x00 := (two_cells HB_x0.out).1; replace x01 := (two_cells HB_x0.out).2.1; replace x10 := (two_cells HB_x1.out).1; replace x11 := (two_cells HB_x1.out).2.1; replace y10 := (two_cells HB_y1.out).1; replace y11 := (two_cells HB_y1.out).2.1; replace y20 := (two_cells HB_y2.out).1; replace y21 := (two_cells HB_y2.out).2.1; replace y30 := (two_cells HB_y3.out).1; replace y31 := (two_cells HB_y3.out).2.1; have tok6 := Lib.hid trivial)
            | (have := tok4; go_at_call 25; refine (same_true _ _ ((Nat.gcd A.natAbs B.natAbs : Nat) : Int) 12 12 _ c_g (c_g3.to HGC.out) (by omega) (by omega)).mono ?_; rintro e wx19 ⟨rfl, hbx⟩; replace g0 := g0.below hbx; replace g1 := g1.below hbx; replace c_h := c_h.below hbx; replace c_y2 := c_y2.below hbx; replace c_g := c_g.below hbx; replace c_na := c_na.below hbx; replace c_g2 := c_g2.below hbx; replace c_g3 := c_g3.below hbx; replace hbt := hbt.trans (hbx.mono hbt.size); replace HB_x0 := Lib.hid ((hbx.block _ (lt_of_block HB_x0.out)).trans HB_x0.out); replace HB_x1 := Lib.hid ((hbx.block _ (lt_of_block HB_x1.out)).trans HB_x1.out); replace HB_y1 := Lib.hid ((hbx.block _ (lt_of_block HB_y1.out)).trans HB_y1.out); replace HB_y2 := Lib.hid ((hbx.block _ (lt_of_block HB_y2.out)).trans HB_y2.out); replace HB_y3 := Lib.hid ((hbx.block _ (lt_of_block HB_y3.out)).trans HB_y3.out); clear hbx; replace x00 := (two_cells HB_x0.out).1; replace x01 := (two_cells HB_x0.out).2.1; replace x10 := (two_cells HB_x1.out).1; replace x11 := (two_cells HB_x1.out).2.1; replace y10 := (two_cells HB_y1.out).1; replace y11 := (two_cells HB_y1.out).2.1; replace y20 := (two_cells HB_y2.out).1; replace y21 := (two_cells HB_y2.out).2.1; replace y30 := (two_cells HB_y3.out).1; replace y31 := (two_cells HB_y3.out).2.1; have tok5 := Lib.hid trivial)
            | (have := tok3; go_at_call 32; refine (wgcd_any _ _ B A 12 12 _ g1 g0 (by omega) (by omega)).mono ?_; rintro e wx18 ⟨v_g3, rfl, c_g3, hbx⟩; replace g0 := g0.below hbx; replace g1 := g1.below hbx; replace c_h := c_h.below hbx; replace c_y2 := c_y2.below hbx; replace c_g := c_g.below hbx; replace c_na := c_na.below hbx; replace c_g2 := c_g2.below hbx; replace hbt := hbt.trans (hbx.mono hbt.size); replace HB_x0 := Lib.hid ((hbx.block _ (lt_of_block HB_x0.out)).trans HB_x0.out); replace HB_x1 := Lib.hid ((hbx.block _ (lt_of_block HB_x1.out)).trans HB_x1.out); replace HB_y1 := Lib.hid ((hbx.block _ (lt_of_block HB_y1.out)).trans HB_y1.out); replace HB_y2 := Lib.hid ((hbx.block _ (lt_of_block HB_y2.out)).trans HB_y2.out); replace HB_y3 := Lib.hid ((hbx.block _ (lt_of_block HB_y3.out)).trans HB_y3.out); clear hbx; replace x00 := (two_cells HB_x0.out).1; replace x01 := (two_cells HB_x0.out).2.1; replace x10 := (two_cells HB_x1.out).1; replace x11 := (two_cells HB_x1.out).2.1; replace y10 := (two_cells HB_y1.out).1; replace y11 := (two_cells HB_y1.out).2.1; replace y20 := (two_cells HB_y2.out).1; replace y21 := (two_cells HB_y2.out).2.1; replace y30 := (two_cells HB_y3.out).1; replace y31 := (two_cells HB_y3.out).2.1; obtain ⟨b_g3, o_g3, l_g3, k_g3, rfl⟩ := c_g3.shape; have tok4 := Lib.hid trivial)
            | (have := tok2; go_at_call 25; refine (same_true _ _ ((Nat.gcd A.natAbs B.natAbs : Nat) : Int) 12 12 _ c_g (c_g2.to HGN.out) (by omega) (by omega)).mono ?_; rintro e wx17 ⟨rfl, hbx⟩; replace g0 := g0.below hbx; replace g1 := g1.below hbx; replace c_h := c_h.below hbx; replace c_y2 := c_y2.below hbx; replace c_g := c_g.below hbx; replace c_na := c_na.below hbx; replace c_g2 := c_g2.below hbx; replace hbt := hbt.trans (hbx.mono hbt.size); replace HB_x0 := Lib.hid ((hbx.block _ (lt_of_block HB_x0.out)).trans HB_x0.out); replace HB_x1 := Lib.hid ((hbx.block _ (lt_of_block HB_x1.out)).trans HB_x1.out); replace HB_y1 := Lib.hid ((hbx.block _ (lt_of_block HB_y1.out)).trans HB_y1.out); replace HB_y2 := Lib.hid ((hbx.block _ (lt_of_block HB_y2.out)).trans HB_y2.out); replace HB_y3 := Lib.hid ((hbx.block _ (lt_of_block HB_y3.out)).trans HB_y3.out); clear hbx; replace x00 := (two_cells HB_x0.out).1; replace x01 := (two_cells HB_x0.out).2.1; replace x10 := (two_cells HB_x1.out).1; replace x11 := (two_cells HB_x1.out).2.1; replace y10 := (two_cells HB_y1.out).1; replace y11 := (two_cells HB_y1.out).2.1; replace y20 := (two_cells HB_y2.out).1; replace y21 := (two_cells HB_y2.out).2.1; replace y30 := (two_cells HB_y3.out).1; replace y31 := (two_cells HB_y3.out).2.1; have tok3 := Lib.hid trivial)
            | (have := tok1; go_at_call 32; refine (wgcd_any _ _ (-A) B 12 12 _ c_na.gi g1 (by omega) (by omega)).mono ?_; rintro e wx16 ⟨v_g2, rfl, c_g2, hbx⟩; replace g0 := g0.below hbx; replace g1 := g1.below hbx; replace c_h := c_h.below hbx; replace c_y2 := c_y2.below hbx; replace c_g := c_g.below hbx; replace c_na := c_na.below hbx; replace hbt := hbt.trans (hbx.mono hbt.size); replace HB_x0 := Lib.hid ((hbx.block _ (lt_of_block HB_x0.out)).trans HB_x0.out); replace HB_x1 := Lib.hid ((hbx.block _ (lt_of_block HB_x1.out)).trans HB_x1.out); replace HB_y1 := Lib.hid ((hbx.block _ (lt_of_block HB_y1.out)).trans HB_y1.out); replace HB_y2 := Lib.hid ((hbx.block _ (lt_of_block HB_y2.out)).trans HB_y2.out); replace HB_y3 := Lib.hid ((hbx.block _ (lt_of_block HB_y3.out)).trans HB_y3.out); clear hbx; replace x00 := (two_cells HB_x0.out).1; replace x01 := (two_cells HB_x0.out).2.1; replace x10 := (two_cells HB_x1.out).1; replace x11 := (two_cells HB_x1.out).2.1; replace y10 := (two_cells HB_y1.out).1; replace y11 := (two_cells HB_y1.out).2.1; replace y20 := (two_cells HB_y2.out).1; replace y21 := (two_cells HB_y2.out).2.1; replace y30 := (two_cells HB_y3.out).1; replace y31 := (two_cells HB_y3.out).2.1; obtain ⟨b_g2, o_g2, l_g2, k_g2, rfl⟩ := c_g2.shape; have tok2 := Lib.hid trivial)
            | (have := tok0; go_at_call 22; refine (wneg_any _ A 12 _ g0 (by omega)).mono ?_; rintro e wx15 ⟨v_na, rfl, c_na, hbx⟩; replace g0 := g0.below hbx; replace g1 := g1.below hbx; replace c_h := c_h.below hbx; replace c_y2 := c_y2.below hbx; replace c_g := c_g.below hbx; replace hbt := hbt.trans (hbx.mono hbt.size); replace HB_x0 := Lib.hid ((hbx.block _ (lt_of_block HB_x0.out)).trans HB_x0.out); replace HB_x1 := Lib.hid ((hbx.block _ (lt_of_block HB_x1.out)).trans HB_x1.out); replace HB_y1 := Lib.hid ((hbx.block _ (lt_of_block HB_y1.out)).trans HB_y1.out); replace HB_y2 := Lib.hid ((hbx.block _ (lt_of_block HB_y2.out)).trans HB_y2.out); replace HB_y3 := Lib.hid ((hbx.block _ (lt_of_block HB_y3.out)).trans HB_y3.out); clear hbx; replace x00 := (two_cells HB_x0.out).1; replace x01 := (two_cells HB_x0.out).2.1; replace x10 := (two_cells HB_x1.out).1; replace x11 := (two_cells HB_x1.out).2.1; replace y10 := (two_cells HB_y1.out).1; replace y11 := (two_cells HB_y1.out).2.1; replace y20 := (two_cells HB_y2.out).1; replace y21 := (two_cells HB_y2.out).2.1; replace y30 := (two_cells HB_y3.out).1; replace y31 := (two_cells HB_y3.out).2.1; obtain ⟨b_na, o_na, l_na, k_na, rfl⟩ := c_na.shape; have tok1 := Lib.hid trivial)
            | (skip; go_at_call 23; refine (wsign_s _ ((Nat.gcd A.natAbs B.natAbs : Nat) : Int) 12 sgx _ c_g.drew.gi HSGX.out (by omega)).mono ?_; rintro e wx14 ⟨rfl, hbx'⟩; have hbx := undrew hbx'; clear hbx'; replace g0 := g0.below hbx; replace g1 := g1.below hbx; replace c_h := c_h.below hbx; replace c_y2 := c_y2.below hbx; replace c_g := c_g.below hbx; replace hbt := hbt.trans (hbx.mono hbt.size); replace HB_x0 := Lib.hid ((hbx.block _ (lt_of_block HB_x0.out)).trans HB_x0.out); replace HB_x1 := Lib.hid ((hbx.block _ (lt_of_block HB_x1.out)).trans HB_x1.out); replace HB_y1 := Lib.hid ((hbx.block _ (lt_of_block HB_y1.out)).trans HB_y1.out); replace HB_y2 := Lib.hid ((hbx.block _ (lt_of_block HB_y2.out)).trans HB_y2.out); replace HB_y3 := Lib.hid ((hbx.block _ (lt_of_block HB_y3.out)).trans HB_y3.out); clear hbx; replace x00 := (two_cells HB_x0.out).1; replace x01 := (two_cells HB_x0.out).2.1; replace x10 := (two_cells HB_x1.out).1; replace x11 := (two_cells HB_x1.out).2.1; replace y10 := (two_cells HB_y1.out).1; replace y11 := (two_cells HB_y1.out).2.1; replace y20 := (two_cells HB_y2.out).1; replace y21 := (two_cells HB_y2.out).2.1; replace y30 := (two_cells HB_y3.out).1; replace y31 := (two_cells HB_y3.out).2.1; have tok0 := Lib.hid trivial))
        go_wp2_with fail
        go_ret
        exact ⟨rfl, hbt⟩
    · have HSG := Lib.hid hsg
      clear hsg
      have hbt := below2 w (.cells #[.bool b0, .slice o0 n0 m0] 25) (.cells #[.bool b1, .slice o1 n1 m1] 25)
      have hbk := blocks2 (Below.refl (w.heap.size + 2) ((w.alloc (.cells #[.bool b0, .slice o0 n0 m0] 25)).alloc (.cells #[.bool b1, .slice o1 n1 m1] 25)))
      have HB_x0 := Lib.hid hbk.1
      have HB_x1 := Lib.hid hbk.2
      clear hbk
      replace g0 := g0.below hbt
      have x00 := (two_cells HB_x0.out).1
      have x01 := (two_cells HB_x0.out).2.1
      replace g1 := g1.below hbt
      have x10 := (two_cells HB_x1.out).1
      have x11 := (two_cells HB_x1.out).2.1
      go_enter Tryd.func8, Tryd.ntmps8
      go_wp2_with fail
      generalize ((w.alloc (.cells #[.bool b0, .slice o0 n0 m0] 25)).alloc (.cells #[.bool b1, .slice o1 n1 m1] 25)) = w0 at *
      refine (HF.out _ (tab_below HTB.out hbt)).mono ?_
      rintro e wx1 ⟨rfl, hbx⟩
      replace g0 := g0.below hbx
      replace g1 := g1.below hbx
      replace hbt := hbt.trans (hbx.mono hbt.size)
      replace HB_x0 := Lib.hid ((hbx.block _ (lt_of_block HB_x0.out)).trans HB_x0.out)
      replace HB_x1 := Lib.hid ((hbx.block _ (lt_of_block HB_x1.out)).trans HB_x1.out)
      clear hbx
      replace x00 := (two_cells HB_x0.out).1
      replace x01 := (two_cells HB_x0.out).2.1
      replace x10 := (two_cells HB_x1.out).1
      replace x11 := (two_cells HB_x1.out).2.1
      go_wp2_with fail
      refine (short_t2 12 _ rfl l0 l1).mono ?_
      rintro e wx2 ⟨rfl, hbx⟩
      replace g0 := g0.below hbx
      replace g1 := g1.below hbx
      replace hbt := hbt.trans (hbx.mono hbt.size)
      replace HB_x0 := Lib.hid ((hbx.block _ (lt_of_block HB_x0.out)).trans HB_x0.out)
      replace HB_x1 := Lib.hid ((hbx.block _ (lt_of_block HB_x1.out)).trans HB_x1.out)
      clear hbx
      replace x00 := (two_cells HB_x0.out).1
      replace x01 := (two_cells HB_x0.out).2.1
      replace x10 := (two_cells HB_x1.out).1
      replace x11 := (two_cells HB_x1.out).2.1
      go_wp2_with fail
      refine (half_any _ A 12 _ g0 (by omega)).mono ?_
      rintro e wx3 ⟨v_h, rfl, c_h, hbx⟩
      replace g0 := g0.below hbx
      replace g1 := g1.below hbx
      replace hbt := hbt.trans (hbx.mono hbt.size)
      replace HB_x0 := Lib.hid ((hbx.block _ (lt_of_block HB_x0.out)).trans HB_x0.out)
      replace HB_x1 := Lib.hid ((hbx.block _ (lt_of_block HB_x1.out)).trans HB_x1.out)
      clear hbx
      replace x00 := (two_cells HB_x0.out).1
      replace x01 := (two_cells HB_x0.out).2.1
      replace x10 := (two_cells HB_x1.out).1
      replace x11 := (two_cells HB_x1.out).2.1
      obtain ⟨b_h, o_h, l_h, k_h, rfl⟩ := c_h.shape
      have hlt_x0 := lt_of_block HB_x0.out
      have hlt_x1 := lt_of_block HB_x1.out
      go_wp2_with fail
      clear hlt_x0 hlt_x1
      have hbx : Below wx3.heap.size wx3 (wx3.alloc (.cells #[.bool b_h, .slice o_h l_h k_h] 25)) := (Below.refl _ _).alloc (Nat.le_refl _) _
      replace g0 := g0.below hbx
      replace g1 := g1.below hbx
      replace c_h := c_h.below hbx
      replace hbt := hbt.trans (hbx.mono hbt.size)
      replace HB_x0 := Lib.hid ((hbx.block _ (lt_of_block HB_x0.out)).trans HB_x0.out)
      replace HB_x1 := Lib.hid ((hbx.block _ (lt_of_block HB_x1.out)).trans HB_x1.out)
      clear hbx
      replace x00 := (two_cells HB_x0.out).1
      replace x01 := (two_cells HB_x0.out).2.1
      replace x10 := (two_cells HB_x1.out).1
      replace x11 := (two_cells HB_x1.out).2.1
      have HB_y1 := Lib.hid (heap_alloc_new wx3 (.cells #[.bool b_h, .slice o_h l_h k_h] 25))
      have y10 := (two_cells HB_y1.out).1
      have y11 := (two_cells HB_y1.out).2.1
      generalize (wx3.alloc (.cells #[.bool b_h, .slice o_h l_h k_h] 25)) = wx4 at *
      have hlt_x0 := lt_of_block HB_x0.out
      have hlt_x1 := lt_of_block HB_x1.out
      have hlt_y1 := lt_of_block HB_y1.out
      go_upto_region 6 with fail
      go_cut [6] (fun s6 wx => ∃ g_y2 b_y2 o_y2 l_y2 k_y2, s6 = .pointer (some ⟨g_y2, 0, none⟩) ∧ wx4.heap.size ≤ g_y2 ∧ wx.heap[g_y2]? = some (.cells #[.bool b_y2, .slice o_y2 l_y2 k_y2] 25 (0, 0)) ∧ CI wx (.agg #[.bool b_y2, .slice o_y2 l_y2 k_y2]) (A - (Int.tdiv A 2 + Int.tdiv A 2)) 38 ∧ Below wx4.heap.size wx4 wx)
      case first =>
        go_region_held3 (fun w' => w'.cell? ⟨w.heap.size, 0, none⟩ = some (.bool b0) ∧ w'.cell? ⟨w.heap.size, 1, none⟩ = some (.slice o0 n0 m0) ∧ w'.cell? ⟨wx3.heap.size, 0, none⟩ = some (.bool b_h) ∧ w'.cell? ⟨wx3.heap.size, 1, none⟩ = some (.slice o_h l_h k_h))
          (first | exact ⟨x00, x01, y10, y11⟩ | exact ⟨(far2 (by omega)).trans x00, (far2 (by omega)).trans x01, (far2 (by omega)).trans y10, (far2 (by omega)).trans y11⟩ | go_keep)
          (first
            | (have := tok0; go_at_call 16; refine (wsub_any _ _ A (Int.tdiv A 2 + Int.tdiv A 2) 12 25 _ (g0.below (by first | exact Below.refl _ _ | (repeat (first | exact Below.refl _ _ | refine Below.drew ?_ | refine Below.alloc ?_ (by first | exact Nat.le_refl _ | (simp; done) | (simp; omega)) _)))) (c_s.gi.below (by first | exact Below.refl _ _ | (repeat (first | exact Below.refl _ _ | refine Below.drew ?_ | refine Below.alloc ?_ (by first | exact Nat.le_refl _ | (simp; done) | (simp; omega)) _)))) (by omega) (by omega)).mono ?_; rintro e wx6 ⟨v_m, rfl, c_m, hbq⟩; have hbx : Below wx5.heap.size wx5 wx6 := trans2 hbq (by first | exact Below.refl _ _ | (repeat (first | exact Below.refl _ _ | refine Below.drew ?_ | refine Below.alloc ?_ (by first | exact Nat.le_refl _ | (simp; done) | (simp; omega)) _))); (first | (have HL_y2 := Lib.hid ((hbx.block _ (lt_of_block HL_y2.out)).trans HL_y2.out)) | (have hlk := kept_heap (T := 25) hbq; have HL_y2 := Lib.hid hlk) | (have hlk := kept_heap (T := 25) (undrew hbq); have HL_y2 := Lib.hid hlk) | skip); replace g0 := g0.below hbx; replace g1 := g1.below hbx; replace c_h := c_h.below hbx; replace c_s := c_s.below hbx; replace hbr := hbr.trans (hbx.mono hbr.size); replace HB_x0 := Lib.hid ((hbx.block _ (lt_of_block HB_x0.out)).trans HB_x0.out); have hlt_x0 := lt_of_block HB_x0.out; replace HB_x1 := Lib.hid ((hbx.block _ (lt_of_block HB_x1.out)).trans HB_x1.out); have hlt_x1 := lt_of_block HB_x1.out; replace HB_y1 := Lib.hid ((hbx.block _ (lt_of_block HB_y1.out)).trans HB_y1.out); have hlt_y1 := lt_of_block HB_y1.out; have hsz1 := hbx.size; clear hbx; replace x00 := (two_cells HB_x0.out).1; replace x01 := (two_cells HB_x0.out).2.1; replace y10 := (two_cells HB_y1.out).1; replace y11 := (two_cells HB_y1.out).2.1; (first | (have hl4 := two_cells HL_y2.out; obtain ⟨la_y2, lb_y2, lc_y2, ld_y2⟩ := hl4; (try simp at la_y2 lb_y2 lc_y2 ld_y2)) | skip); obtain ⟨b_m, o_m, l_m, k_m, rfl⟩ := c_m.shape; have tok1 := Lib.hid trivial)
            | (skip; go_at_call 14; refine (wadd_any _ _ (Int.tdiv A 2) (Int.tdiv A 2) 12 12 _ (c_h.gi.below (by first | exact Below.refl _ _ | (repeat (first | exact Below.refl _ _ | refine Below.drew ?_ | refine Below.alloc ?_ (by first | exact Nat.le_refl _ | (simp; done) | (simp; omega)) _)))) (c_h.gi.below (by first | exact Below.refl _ _ | (repeat (first | exact Below.refl _ _ | refine Below.drew ?_ | refine Below.alloc ?_ (by first | exact Nat.le_refl _ | (simp; done) | (simp; omega)) _)))) (by omega) (by omega)).mono ?_; rintro e wx5 ⟨v_s, rfl, c_s, hbq⟩; have hbx : Below wx4.heap.size wx4 wx5 := trans2 hbq (by first | exact Below.refl _ _ | (repeat (first | exact Below.refl _ _ | refine Below.drew ?_ | refine Below.alloc ?_ (by first | exact Nat.le_refl _ | (simp; done) | (simp; omega)) _))); (first | (have HL_y2 := Lib.hid ((hbx.block _ (lt_of_block HL_y2.out)).trans HL_y2.out)) | (have hlk := kept_heap (T := 25) hbq; have HL_y2 := Lib.hid hlk) | (have hlk := kept_heap (T := 25) (undrew hbq); have HL_y2 := Lib.hid hlk) | skip); replace g0 := g0.below hbx; replace g1 := g1.below hbx; replace c_h := c_h.below hbx; have hbr := hbx; replace HB_x0 := Lib.hid ((hbx.block _ (lt_of_block HB_x0.out)).trans HB_x0.out); have hlt_x0 := lt_of_block HB_x0.out; replace HB_x1 := Lib.hid ((hbx.block _ (lt_of_block HB_x1.out)).trans HB_x1.out); have hlt_x1 := lt_of_block HB_x1.out; replace HB_y1 := Lib.hid ((hbx.block _ (lt_of_block HB_y1.out)).trans HB_y1.out); have hlt_y1 := lt_of_block HB_y1.out; have hsz0 := hbx.size; clear hbx; replace x00 := (two_cells HB_x0.out).1; replace x01 := (two_cells HB_x0.out).2.1; replace y10 := (two_cells HB_y1.out).1; replace y11 := (two_cells HB_y1.out).2.1; (first | (have hl4 := two_cells HL_y2.out; obtain ⟨la_y2, lb_y2, lc_y2, ld_y2⟩ := hl4; (try simp at la_y2 lb_y2 lc_y2 ld_y2)) | skip); obtain ⟨b_s, o_s, l_s, k_s, rfl⟩ := c_s.shape; have tok0 := Lib.hid trivial))
        all_goals
          go_wp2_with fail
          go_meet
          first
            | exact ⟨_, _, _, _, _, rfl, hbr.size, heap_alloc_new _ _, c_m.below ((Below.refl _ _).alloc (Nat.le_refl _) _), hbr.alloc hbr.size _⟩
            | exact ⟨_, _, _, _, _, rfl, by omega, heap_set2 HL_y2.out _ _, c_m.set2 HL_y2.out _ _, below_setg hbr (by omega) _ _⟩
      case rest =>
        obtain ⟨g_y2, b_y2, o_y2, l_y2, k_y2, rfl, hg_y2, hB_y2, c_y2, hbx⟩ := hcut
        obtain ⟨wx7, he⟩ : ∃ x, x = wc := ⟨wc, rfl⟩
        subst he
        have HB_y2 := Lib.hid hB_y2
        clear hB_y2
        have y20 := (two_cells HB_y2.out).1
        have y21 := (two_cells HB_y2.out).2.1
        replace g0 := g0.below hbx
        replace g1 := g1.below hbx
        replace c_h := c_h.below hbx
        replace hbt := hbt.trans (hbx.mono hbt.size)
        replace HB_x0 := Lib.hid ((hbx.block _ (lt_of_block HB_x0.out)).trans HB_x0.out)
        replace HB_x1 := Lib.hid ((hbx.block _ (lt_of_block HB_x1.out)).trans HB_x1.out)
        replace HB_y1 := Lib.hid ((hbx.block _ (lt_of_block HB_y1.out)).trans HB_y1.out)
        clear hbx
        replace x00 := (two_cells HB_x0.out).1
        replace x01 := (two_cells HB_x0.out).2.1
        replace x10 := (two_cells HB_x1.out).1
        replace x11 := (two_cells HB_x1.out).2.1
        replace y10 := (two_cells HB_y1.out).1
        replace y11 := (two_cells HB_y1.out).2.1
        go_wp2_with fail
        refine (wsign_s _ A 12 (-1) _ g0 HSG.out (by omega)).mono ?_
        rintro e wx8 ⟨rfl, hbx⟩
        replace g0 := g0.below hbx
        replace g1 := g1.below hbx
        replace c_h := c_h.below hbx
        replace c_y2 := c_y2.below hbx
        replace hbt := hbt.trans (hbx.mono hbt.size)
        replace HB_x0 := Lib.hid ((hbx.block _ (lt_of_block HB_x0.out)).trans HB_x0.out)
        replace HB_x1 := Lib.hid ((hbx.block _ (lt_of_block HB_x1.out)).trans HB_x1.out)
        replace HB_y1 := Lib.hid ((hbx.block _ (lt_of_block HB_y1.out)).trans HB_y1.out)
        replace HB_y2 := Lib.hid ((hbx.block _ (lt_of_block HB_y2.out)).trans HB_y2.out)
        clear hbx
        replace x00 := (two_cells HB_x0.out).1
        replace x01 := (two_cells HB_x0.out).2.1
        replace x10 := (two_cells HB_x1.out).1
        replace x11 := (two_cells HB_x1.out).2.1
        replace y10 := (two_cells HB_y1.out).1
        replace y11 := (two_cells HB_y1.out).2.1
        replace y20 := (two_cells HB_y2.out).1
        replace y21 := (two_cells HB_y2.out).2.1
        go_wp2_with fail
        refine (wneg_any _ (A - (Int.tdiv A 2 + Int.tdiv A 2)) 38 _ c_y2.gi (by omega)).mono ?_
        rintro e wx9 ⟨v_n, rfl, c_n, hbx⟩
        replace g0 := g0.below hbx
        replace g1 := g1.below hbx
        replace c_h := c_h.below hbx
        replace c_y2 := c_y2.below hbx
        replace hbt := hbt.trans (hbx.mono hbt.size)
        replace HB_x0 := Lib.hid ((hbx.block _ (lt_of_block HB_x0.out)).trans HB_x0.out)
        replace HB_x1 := Lib.hid ((hbx.block _ (lt_of_block HB_x1.out)).trans HB_x1.out)
        replace HB_y1 := Lib.hid ((hbx.block _ (lt_of_block HB_y1.out)).trans HB_y1.out)
        replace HB_y2 := Lib.hid ((hbx.block _ (lt_of_block HB_y2.out)).trans HB_y2.out)
        clear hbx
        replace x00 := (two_cells HB_x0.out).1
        replace x01 := (two_cells HB_x0.out).2.1
        replace x10 := (two_cells HB_x1.out).1
        replace x11 := (two_cells HB_x1.out).2.1
        replace y10 := (two_cells HB_y1.out).1
        replace y11 := (two_cells HB_y1.out).2.1
        replace y20 := (two_cells HB_y2.out).1
        replace y21 := (two_cells HB_y2.out).2.1
        obtain ⟨b_n, o_n, l_n, k_n, rfl⟩ := c_n.shape
        obtain ⟨-, -, fz0, fz1⟩ := two_cells HB_y2.out
        have hne_x0 : w.heap.size ≠ g_y2 := by omega
        have hne_x1 : w.heap.size + 1 ≠ g_y2 := by omega
        have hne_y1 : wx3.heap.size ≠ g_y2 := by omega
        go_wp2_with fail
        replace g0 := g0.set2 HB_y2.out (.bool b_n) (.slice o_n l_n k_n)
        replace g1 := g1.set2 HB_y2.out (.bool b_n) (.slice o_n l_n k_n)
        replace c_h := c_h.set2 HB_y2.out (.bool b_n) (.slice o_n l_n k_n)
        replace c_y2 := c_y2.set2 HB_y2.out (.bool b_n) (.slice o_n l_n k_n)
        replace c_n := c_n.set2 HB_y2.out (.bool b_n) (.slice o_n l_n k_n)
        replace hbt := below_setg (g := g_y2) hbt (by omega) (.bool b_n) (.slice o_n l_n k_n)
        replace HB_x0 := Lib.hid ((heap_far2 (g := g_y2) (x := .bool b_n) (y := .slice o_n l_n k_n) hne_x0).trans HB_x0.out)
        replace HB_x1 := Lib.hid ((heap_far2 (g := g_y2) (x := .bool b_n) (y := .slice o_n l_n k_n) hne_x1).trans HB_x1.out)
        replace HB_y1 := Lib.hid ((heap_far2 (g := g_y2) (x := .bool b_n) (y := .slice o_n l_n k_n) hne_y1).trans HB_y1.out)
        replace HB_y2 := Lib.hid (heap_set2 HB_y2.out (.bool b_n) (.slice o_n l_n k_n))
        clear fz0 fz1 hne_x0 hne_x1 hne_y1
        replace x00 := (two_cells HB_x0.out).1
        replace x01 := (two_cells HB_x0.out).2.1
        replace x10 := (two_cells HB_x1.out).1
        replace x11 := (two_cells HB_x1.out).2.1
        replace y10 := (two_cells HB_y1.out).1
        replace y11 := (two_cells HB_y1.out).2.1
        replace y20 := (two_cells HB_y2.out).1
        replace y21 := (two_cells HB_y2.out).2.1
        generalize ((wx9.setCell ⟨g_y2, 0, none⟩ (.bool b_n)).setCell ⟨g_y2, 1, none⟩ (.slice o_n l_n k_n)) = wx10 at *
        refine (wsmall_yes _ 0 38 _ (c_n.to HRR.out).gi (by omega) (by omega) (by omega)).mono ?_
        rintro e wx11 ⟨rfl, hbx⟩
        replace g0 := g0.below hbx
        replace g1 := g1.below hbx
        replace c_h := c_h.below hbx
        replace c_y2 := c_y2.below hbx
        replace c_n := c_n.below hbx
        replace hbt := hbt.trans (hbx.mono hbt.size)
        replace HB_x0 := Lib.hid ((hbx.block _ (lt_of_block HB_x0.out)).trans HB_x0.out)
        replace HB_x1 := Lib.hid ((hbx.block _ (lt_of_block HB_x1.out)).trans HB_x1.out)
        replace HB_y1 := Lib.hid ((hbx.block _ (lt_of_block HB_y1.out)).trans HB_y1.out)
        replace HB_y2 := Lib.hid ((hbx.block _ (lt_of_block HB_y2.out)).trans HB_y2.out)
        clear hbx
        replace x00 := (two_cells HB_x0.out).1
        replace x01 := (two_cells HB_x0.out).2.1
        replace x10 := (two_cells HB_x1.out).1
        replace x11 := (two_cells HB_x1.out).2.1
        replace y10 := (two_cells HB_y1.out).1
        replace y11 := (two_cells HB_y1.out).2.1
        replace y20 := (two_cells HB_y2.out).1
        replace y21 := (two_cells HB_y2.out).2.1
        go_wp2_with fail
        go_region_held3 (fun w' => w'.cell? ⟨w.heap.size, 0, none⟩ = some (.bool b0) ∧ w'.cell? ⟨w.heap.size, 1, none⟩ = some (.slice o0 n0 m0) ∧ w'.cell? ⟨w.heap.size + 1, 0, none⟩ = some (.bool b1) ∧ w'.cell? ⟨w.heap.size + 1, 1, none⟩ = some (.slice o1 n1 m1) ∧ w'.cell? ⟨wx3.heap.size, 0, none⟩ = some (.bool b_h) ∧ w'.cell? ⟨wx3.heap.size, 1, none⟩ = some (.slice o_h l_h k_h) ∧ w'.cell? ⟨g_y2, 0, none⟩ = some (.bool b_n) ∧ w'.cell? ⟨g_y2, 1, none⟩ = some (.slice o_n l_n k_n))
          (first | exact ⟨x00, x01, x10, x11, y10, y11, y20, y21⟩ | go_keep)
          (first
            | (have := tok0; go_at_call 31; refine (wbits_s _ A 12 M _ g0 HM.out (by omega)).mono ?_; rintro e wx13 ⟨rfl, hbx⟩; replace g0 := g0.below hbx; replace g1 := g1.below hbx; replace c_h := c_h.below hbx; replace c_y2 := c_y2.below hbx; replace c_n := c_n.below hbx; replace hbt := hbt.trans (hbx.mono hbt.size); replace HB_x0 := Lib.hid ((hbx.block _ (lt_of_block HB_x0.out)).trans HB_x0.out); replace HB_x1 := Lib.hid ((hbx.block _ (lt_of_block HB_x1.out)).trans HB_x1.out); replace HB_y1 := Lib.hid ((hbx.block _ (lt_of_block HB_y1.out)).trans HB_y1.out); replace HB_y2 := Lib.hid ((hbx.block _ (lt_of_block HB_y2.out)).trans HB_y2.out); clear hbx; replace x00 := (two_cells HB_x0.out).1; replace x01 := (two_cells HB_x0.out).2.1; replace x10 := (two_cells HB_x1.out).1; replace x11 := (two_cells HB_x1.out).2.1; replace y10 := (two_cells HB_y1.out).1; replace y11 := (two_cells HB_y1.out).2.1; replace y20 := (two_cells HB_y2.out).1; replace y21 := (two_cells HB_y2.out).2.1; have tok1 := Lib.hid trivial)
            | (skip; go_at_call 31; refine (wbits_s _ (Int.tdiv A 2) 12 (max (M - 1) 0) _ c_h.drew.gi HBT.out (by omega)).mono ?_; rintro e wx12 ⟨rfl, hbx'⟩; have hbx := undrew hbx'; clear hbx'; replace g0 := g0.below hbx; replace g1 := g1.below hbx; replace c_h := c_h.below hbx; replace c_y2 := c_y2.below hbx; replace c_n := c_n.below hbx; replace hbt := hbt.trans (hbx.mono hbt.size); replace HB_x0 := Lib.hid ((hbx.block _ (lt_of_block HB_x0.out)).trans HB_x0.out); replace HB_x1 := Lib.hid ((hbx.block _ (lt_of_block HB_x1.out)).trans HB_x1.out); replace HB_y1 := Lib.hid ((hbx.block _ (lt_of_block HB_y1.out)).trans HB_y1.out); replace HB_y2 := Lib.hid ((hbx.block _ (lt_of_block HB_y2.out)).trans HB_y2.out); clear hbx; replace x00 := (two_cells HB_x0.out).1; replace x01 := (two_cells HB_x0.out).2.1; replace x10 := (two_cells HB_x1.out).1; replace x11 := (two_cells HB_x1.out).2.1; replace y10 := (two_cells HB_y1.out).1; replace y11 := (two_cells HB_y1.out).2.1; replace y20 := (two_cells HB_y2.out).1; replace y21 := (two_cells HB_y2.out).2.1; have tok0 := Lib.hid trivial))
        go_wp2_with fail
        refine (wgcd_any _ _ A B 12 12 _ g0 g1 (by omega) (by omega)).mono ?_
        rintro e wx14 ⟨v_g, rfl, c_g, hbx⟩
        replace g0 := g0.below hbx
        replace g1 := g1.below hbx
        replace c_h := c_h.below hbx
        replace c_y2 := c_y2.below hbx
        replace c_n := c_n.below hbx
        replace hbt := hbt.trans (hbx.mono hbt.size)
        replace HB_x0 := Lib.hid ((hbx.block _ (lt_of_block HB_x0.out)).trans HB_x0.out)
        replace HB_x1 := Lib.hid ((hbx.block _ (lt_of_block HB_x1.out)).trans HB_x1.out)
        replace HB_y1 := Lib.hid ((hbx.block _ (lt_of_block HB_y1.out)).trans HB_y1.out)
        replace HB_y2 := Lib.hid ((hbx.block _ (lt_of_block HB_y2.out)).trans HB_y2.out)
        clear hbx
        replace x00 := (two_cells HB_x0.out).1
        replace x01 := (two_cells HB_x0.out).2.1
        replace x10 := (two_cells HB_x1.out).1
        replace x11 := (two_cells HB_x1.out).2.1
        replace y10 := (two_cells HB_y1.out).1
        replace y11 := (two_cells HB_y1.out).2.1
        replace y20 := (two_cells HB_y2.out).1
        replace y21 := (two_cells HB_y2.out).2.1
        obtain ⟨b_g, o_g, l_g, k_g, rfl⟩ := c_g.shape
        have hlt_x0 := lt_of_block HB_x0.out
        have hlt_x1 := lt_of_block HB_x1.out
        have hlt_y1 := lt_of_block HB_y1.out
        have hlt_y2 := lt_of_block HB_y2.out
        go_wp2_with fail
        clear hlt_x0 hlt_x1 hlt_y1 hlt_y2
        have hbx : Below wx14.heap.size wx14 (wx14.alloc (.cells #[.bool b_g, .slice o_g l_g k_g] 25)) := (Below.refl _ _).alloc (Nat.le_refl _) _
        replace g0 := g0.below hbx
        replace g1 := g1.below hbx
        replace c_h := c_h.below hbx
        replace c_y2 := c_y2.below hbx
        replace c_n := c_n.below hbx
        replace c_g := c_g.below hbx
        replace hbt := hbt.trans (hbx.mono hbt.size)
        replace HB_x0 := Lib.hid ((hbx.block _ (lt_of_block HB_x0.out)).trans HB_x0.out)
        replace HB_x1 := Lib.hid ((hbx.block _ (lt_of_block HB_x1.out)).trans HB_x1.out)
        replace HB_y1 := Lib.hid ((hbx.block _ (lt_of_block HB_y1.out)).trans HB_y1.out)
        replace HB_y2 := Lib.hid ((hbx.block _ (lt_of_block HB_y2.out)).trans HB_y2.out)
        clear hbx
        replace x00 := (two_cells HB_x0.out).1
        replace x01 := (two_cells HB_x0.out).2.1
        replace x10 := (two_cells HB_x1.out).1
        replace x11 := (two_cells HB_x1.out).2.1
        replace y10 := (two_cells HB_y1.out).1
        replace y11 := (two_cells HB_y1.out).2.1
        replace y20 := (two_cells HB_y2.out).1
        replace y21 := (two_cells HB_y2.out).2.1
        have HB_y3 := Lib.hid (heap_alloc_new wx14 (.cells #[.bool b_g, .slice o_g l_g k_g] 25))
        have y30 := (two_cells HB_y3.out).1
        have y31 := (two_cells HB_y3.out).2.1
        generalize (wx14.alloc (.cells #[.bool b_g, .slice o_g l_g k_g] 25)) = wx15 at *
        go_region_held3 (fun w' => w'.cell? ⟨w.heap.size, 0, none⟩ = some (.bool b0) ∧ w'.cell? ⟨w.heap.size, 1, none⟩ = some (.slice o0 n0 m0) ∧ w'.cell? ⟨w.heap.size + 1, 0, none⟩ = some (.bool b1) ∧ w'.cell? ⟨w.heap.size + 1, 1, none⟩ = some (.slice o1 n1 m1) ∧ w'.cell? ⟨wx3.heap.size, 0, none⟩ = some (.bool b_h) ∧ w'.cell? ⟨wx3.heap.size, 1, none⟩ = some (.slice o_h l_h k_h) ∧ w'.cell? ⟨g_y2, 0, none⟩ = some (.bool b_n) ∧ w'.cell? ⟨g_y2, 1, none⟩ = some (.slice o_n l_n k_n) ∧ w'.cell? ⟨wx14.heap.size, 0, none⟩ = some (.bool b_g) ∧ w'.cell? ⟨wx14.heap.size, 1, none⟩ = some (.slice o_g l_g k_g))
          (first | exact ⟨x00, x01, x10, x11, y10, y11, y20, y21, y30, y31⟩ | go_keep)
          (first
            | (have := tok6; go_at_call 33; refine (bits_g g0.gn (by omega)).mono ?_; rintro e wx23 ⟨v_bb, rfl, c_bb, hbx⟩; obtain ⟨o_bb, k_bb, rfl⟩ := sl_shape c_bb; rw [HBL.out]; clear c_bb; replace g0 := g0.below hbx; replace g1 := g1.below hbx; replace c_h := c_h.below hbx; replace c_y2 := c_y2.below hbx; replace c_n := c_n.below hbx; replace c_g := c_g.below hbx; replace c_na := c_na.below hbx; replace c_g2 := c_g2.below hbx; replace c_g3 := c_g3.below hbx; replace hbt := hbt.trans (hbx.mono hbt.size); replace HB_x0 := Lib.hid ((hbx.block _ (lt_of_block HB_x0.out)).trans HB_x0.out); replace HB_x1 := Lib.hid ((hbx.block _ (lt_of_block HB_x1.out)).trans HB_x1.out); replace HB_y1 := Lib.hid ((hbx.block _ (lt_of_block HB_y1.out)).trans HB_y1.out); replace HB_y2 := Lib.hid ((hbx.block _ (lt_of_block HB_y2.out)).trans HB_y2.out); replace HB_y3 := Lib.hid ((hbx.block _ (lt_of_block HB_y3.out)).trans HB_y3.out); clear hbx; replace x00 := (two_cells HB_x0.out).1; replace x01 := (two_cells HB_x0.out).2.1; replace x10 := (two_cells HB_x1.out).1; replace x11 := (two_cells HB_x1.out).2.1; replace y10 := (two_cells HB_y1.out).1; replace y11 := (two_cells HB_y1.out).2.1; replace y20 := (two_cells HB_y2.out).1; replace y21 := (two_cells HB_y2.out).2.1; replace y30 := (two_cells HB_y3.out).1; replace y31 := (two_cells HB_y3.out).2.1; have tok7 := Lib.hid trivial)
            | (have := tok5; go_at_call 31; refine (wbits_any _ A 12 _ g0 (by omega)).mono ?_; rintro e wx22 ⟨rfl, hbx⟩; replace g0 := g0.below hbx; replace g1 := g1.below hbx; replace c_h := c_h.below hbx; replace c_y2 := c_y2.below hbx; replace c_n := c_n.below hbx; replace c_g := c_g.below hbx; replace c_na := c_na.below hbx; replace c_g2 := c_g2.below hbx; replace c_g3 := c_g3.below hbx; replace hbt := hbt.trans (hbx.mono hbt.size); replace HB_x0 := Lib.hid ((hbx.block _ (lt_of_block HB_x0.out)).trans HB_x0.out); replace HB_x1 := Lib.hid ((hbx.block _ (lt_of_block HB_x1.out)).trans HB_x1.out); replace HB_y1 := Lib.hid ((hbx.block _ (lt_of_block HB_y1.out)).trans HB_y1.out); replace HB_y2 := Lib.hid ((hbx.block _ (lt_of_block HB_y2.out)).trans HB_y2.out); replace HB_y3 := Lib.hid ((hbx.block _ (lt_of_block HB_y3.out)).trans HB_y3.out); clear hbx; replace x00 := (two_cells HB_x0.out).1; replace x01 := (two_cells HB_x0.out).2.1; replace x10 := (two_cells HB_x1.out).1; replace x11 := (two_cells HB_x1.out).2.1; replace y10 := (two_cells HB_y1.out).1; replace y11 := (two_cells HB_y1.out).2.1; replace y20 := (two_cells HB_y2.out).1; replace y21 := (two_cells HB_y2.out).2.1; replace y30 := (two_cells HB_y3.out).1; replace y31 := (two_cells HB_y3.out).2.1; have tok6 := Lib.hid trivial)
            | (have := tok4; go_at_call 25; refine (same_true _ _ ((Nat.gcd A.natAbs B.natAbs : Nat) : Int) 12 12 _ c_g (c_g3.to HGC.out) (by omega) (by omega)).mono ?_; rintro e wx21 ⟨rfl, hbx⟩; replace g0 := g0.below hbx; replace g1 := g1.below hbx; replace c_h := c_h.below hbx; replace c_y2 := c_y2.below hbx; replace c_n := c_n.below hbx; replace c_g := c_g.below hbx; replace c_na := c_na.below hbx; replace c_g2 := c_g2.below hbx; replace c_g3 := c_g3.below hbx; replace hbt := hbt.trans (hbx.mono hbt.size); replace HB_x0 := Lib.hid ((hbx.block _ (lt_of_block HB_x0.out)).trans HB_x0.out); replace HB_x1 := Lib.hid ((hbx.block _ (lt_of_block HB_x1.out)).trans HB_x1.out); replace HB_y1 := Lib.hid ((hbx.block _ (lt_of_block HB_y1.out)).trans HB_y1.out); replace HB_y2 := Lib.hid ((hbx.block _ (lt_of_block HB_y2.out)).trans HB_y2.out); replace HB_y3 := Lib.hid ((hbx.block _ (lt_of_block HB_y3.out)).trans HB_y3.out); clear hbx; replace x00 := (two_cells HB_x0.out).1; replace x01 := (two_cells HB_x0.out).2.1; replace x10 := (two_cells HB_x1.out).1; replace x11 := (two_cells HB_x1.out).2.1; replace y10 := (two_cells HB_y1.out).1; replace y11 := (two_cells HB_y1.out).2.1; replace y20 := (two_cells HB_y2.out).1; replace y21 := (two_cells HB_y2.out).2.1; replace y30 := (two_cells HB_y3.out).1; replace y31 := (two_cells HB_y3.out).2.1; have tok5 := Lib.hid trivial)
            | (have := tok3; go_at_call 32; refine (wgcd_any _ _ B A 12 12 _ g1 g0 (by omega) (by omega)).mono ?_; rintro e wx20 ⟨v_g3, rfl, c_g3, hbx⟩; replace g0 := g0.below hbx; replace g1 := g1.below hbx; replace c_h := c_h.below hbx; replace c_y2 := c_y2.below hbx; replace c_n := c_n.below hbx; replace c_g := c_g.below hbx; replace c_na := c_na.below hbx; replace c_g2 := c_g2.below hbx; replace hbt := hbt.trans (hbx.mono hbt.size); replace HB_x0 := Lib.hid ((hbx.block _ (lt_of_block HB_x0.out)).trans HB_x0.out); replace HB_x1 := Lib.hid ((hbx.block _ (lt_of_block HB_x1.out)).trans HB_x1.out); replace HB_y1 := Lib.hid ((hbx.block _ (lt_of_block HB_y1.out)).trans HB_y1.out); replace HB_y2 := Lib.hid ((hbx.block _ (lt_of_block HB_y2.out)).trans HB_y2.out); replace HB_y3 := Lib.hid ((hbx.block _ (lt_of_block HB_y3.out)).trans HB_y3.out); clear hbx; replace x00 := (two_cells HB_x0.out).1; replace x01 := (two_cells HB_x0.out).2.1; replace x10 := (two_cells HB_x1.out).1; replace x11 := (two_cells HB_x1.out).2.1; replace y10 := (two_cells HB_y1.out).1; replace y11 := (two_cells HB_y1.out).2.1; replace y20 := (two_cells HB_y2.out).1; replace y21 := (two_cells HB_y2.out).2.1; replace y30 := (two_cells HB_y3.out).1; replace y31 := (two_cells HB_y3.out).2.1; obtain ⟨b_g3, o_g3, l_g3, k_g3, rfl⟩ := c_g3.shape; have tok4 := Lib.hid trivial)
            | (have := tok2; go_at_call 25; refine (same_true _ _ ((Nat.gcd A.natAbs B.natAbs : Nat) : Int) 12 12 _ c_g (c_g2.to HGN.out) (by omega) (by omega)).mono ?_; rintro e wx19 ⟨rfl, hbx⟩; replace g0 := g0.below hbx; replace g1 := g1.below hbx; replace c_h := c_h.below hbx; replace c_y2 := c_y2.below hbx; replace c_n := c_n.below hbx; replace c_g := c_g.below hbx; replace c_na := c_na.below hbx; replace c_g2 := c_g2.below hbx; replace hbt := hbt.trans (hbx.mono hbt.size); replace HB_x0 := Lib.hid ((hbx.block _ (lt_of_block HB_x0.out)).trans HB_x0.out); replace HB_x1 := Lib.hid ((hbx.block _ (lt_of_block HB_x1.out)).trans HB_x1.out); replace HB_y1 := Lib.hid ((hbx.block _ (lt_of_block HB_y1.out)).trans HB_y1.out); replace HB_y2 := Lib.hid ((hbx.block _ (lt_of_block HB_y2.out)).trans HB_y2.out); replace HB_y3 := Lib.hid ((hbx.block _ (lt_of_block HB_y3.out)).trans HB_y3.out); clear hbx; replace x00 := (two_cells HB_x0.out).1; replace x01 := (two_cells HB_x0.out).2.1; replace x10 := (two_cells HB_x1.out).1; replace x11 := (two_cells HB_x1.out).2.1; replace y10 := (two_cells HB_y1.out).1; replace y11 := (two_cells HB_y1.out).2.1; replace y20 := (two_cells HB_y2.out).1; replace y21 := (two_cells HB_y2.out).2.1; replace y30 := (two_cells HB_y3.out).1; replace y31 := (two_cells HB_y3.out).2.1; have tok3 := Lib.hid trivial)
            | (have := tok1; go_at_call 32; refine (wgcd_any _ _ (-A) B 12 12 _ c_na.gi g1 (by omega) (by omega)).mono ?_; rintro e wx18 ⟨v_g2, rfl, c_g2, hbx⟩; replace g0 := g0.below hbx; replace g1 := g1.below hbx; replace c_h := c_h.below hbx; replace c_y2 := c_y2.below hbx; replace c_n := c_n.below hbx; replace c_g := c_g.below hbx; replace c_na := c_na.below hbx; replace hbt := hbt.trans (hbx.mono hbt.size); replace HB_x0 := Lib.hid ((hbx.block _ (lt_of_block HB_x0.out)).trans HB_x0.out); replace HB_x1 := Lib.hid ((hbx.block _ (lt_of_block HB_x1.out)).trans HB_x1.out); replace HB_y1 := Lib.hid ((hbx.block _ (lt_of_block HB_y1.out)).trans HB_y1.out); replace HB_y2 := Lib.hid ((hbx.block _ (lt_of_block HB_y2.out)).trans HB_y2.out); replace HB_y3 := Lib.hid ((hbx.block _ (lt_of_block HB_y3.out)).trans HB_y3.out); clear hbx; replace x00 := (two_cells HB_x0.out).1; replace x01 := (two_cells HB_x0.out).2.1; replace x10 := (two_cells HB_x1.out).1; replace x11 := (two_cells HB_x1.out).2.1; replace y10 := (two_cells HB_y1.out).1; replace y11 := (two_cells HB_y1.out).2.1; replace y20 := (two_cells HB_y2.out).1; replace y21 := (two_cells HB_y2.out).2.1; replace y30 := (two_cells HB_y3.out).1; replace y31 := (two_cells HB_y3.out).2.1; obtain ⟨b_g2, o_g2, l_g2, k_g2, rfl⟩ := c_g2.shape; have tok2 := Lib.hid trivial)
            | (have := tok0; go_at_call 22; refine (wneg_any _ A 12 _ g0 (by omega)).mono ?_; rintro e wx17 ⟨v_na, rfl, c_na, hbx⟩; replace g0 := g0.below hbx; replace g1 := g1.below hbx; replace c_h := c_h.below hbx; replace c_y2 := c_y2.below hbx; replace c_n := c_n.below hbx; replace c_g := c_g.below hbx; replace hbt := hbt.trans (hbx.mono hbt.size); replace HB_x0 := Lib.hid ((hbx.block _ (lt_of_block HB_x0.out)).trans HB_x0.out); replace HB_x1 := Lib.hid ((hbx.block _ (lt_of_block HB_x1.out)).trans HB_x1.out); replace HB_y1 := Lib.hid ((hbx.block _ (lt_of_block HB_y1.out)).trans HB_y1.out); replace HB_y2 := Lib.hid ((hbx.block _ (lt_of_block HB_y2.out)).trans HB_y2.out); replace HB_y3 := Lib.hid ((hbx.block _ (lt_of_block HB_y3.out)).trans HB_y3.out); clear hbx; replace x00 := (two_cells HB_x0.out).1; replace x01 := (two_cells HB_x0.out).2.1; replace x10 := (two_cells HB_x1.out).1; replace x11 := (two_cells HB_x1.out).2.1; replace y10 := (two_cells HB_y1.out).1; replace y11 := (two_cells HB_y1.out).2.1; replace y20 := (two_cells HB_y2.out).1; replace y21 := (two_cells HB_y2.out).2.1; replace y30 := (two_cells HB_y3.out).1; replace y31 := (two_cells HB_y3.out).2.1; obtain ⟨b_na, o_na, l_na, k_na, rfl⟩ := c_na.shape; have tok1 := Lib.hid trivial)
            | (skip; go_at_call 23; refine (wsign_s _ ((Nat.gcd A.natAbs B.natAbs : Nat) : Int) 12 sgx _ c_g.drew.gi HSGX.out (by omega)).mono ?_; rintro e wx16 ⟨rfl, hbx'⟩; have hbx := undrew hbx'; clear hbx'; replace g0 := g0.below hbx; replace g1 := g1.below hbx; replace c_h := c_h.below hbx; replace c_y2 := c_y2.below hbx; replace c_n := c_n.below hbx; replace c_g := c_g.below hbx; replace hbt := hbt.trans (hbx.mono hbt.size); replace HB_x0 := Lib.hid ((hbx.block _ (lt_of_block HB_x0.out)).trans HB_x0.out); replace HB_x1 := Lib.hid ((hbx.block _ (lt_of_block HB_x1.out)).trans HB_x1.out); replace HB_y1 := Lib.hid ((hbx.block _ (lt_of_block HB_y1.out)).trans HB_y1.out); replace HB_y2 := Lib.hid ((hbx.block _ (lt_of_block HB_y2.out)).trans HB_y2.out); replace HB_y3 := Lib.hid ((hbx.block _ (lt_of_block HB_y3.out)).trans HB_y3.out); clear hbx; replace x00 := (two_cells HB_x0.out).1; replace x01 := (two_cells HB_x0.out).2.1; replace x10 := (two_cells HB_x1.out).1; replace x11 := (two_cells HB_x1.out).2.1; replace y10 := (two_cells HB_y1.out).1; replace y11 := (two_cells HB_y1.out).2.1; replace y20 := (two_cells HB_y2.out).1; replace y21 := (two_cells HB_y2.out).2.1; replace y30 := (two_cells HB_y3.out).1; replace y31 := (two_cells HB_y3.out).2.1; have tok0 := Lib.hid trivial))
        go_wp2_with fail
        go_ret
        exact ⟨rfl, hbt⟩
    · have HSG := Lib.hid hsg
      clear hsg
      have hbt := below2 w (.cells #[.bool b0, .slice o0 n0 m0] 25) (.cells #[.bool b1, .slice o1 n1 m1] 25)
      have hbk := blocks2 (Below.refl (w.heap.size + 2) ((w.alloc (.cells #[.bool b0, .slice o0 n0 m0] 25)).alloc (.cells #[.bool b1, .slice o1 n1 m1] 25)))
      have HB_x0 := Lib.hid hbk.1
      have HB_x1 := Lib.hid hbk.2
      clear hbk
      replace g0 := g0.below hbt
      have x00 := (two_cells HB_x0.out).1
      have x01 := (two_cells HB_x0.out).2.1
      replace g1 := g1.below hbt
      have x10 := (two_cells HB_x1.out).1
      have x11 := (two_cells HB_x1.out).2.1
      go_enter Tryd.func8, Tryd.ntmps8
      go_wp2_with fail
      generalize ((w.alloc (.cells #[.bool b0, .slice o0 n0 m0] 25)).alloc (.cells #[.bool b1, .slice o1 n1 m1] 25)) = w0 at *
      refine (HF.out _ (tab_below HTB.out hbt)).mono ?_
      rintro e wx1 ⟨rfl, hbx⟩
      replace g0 := g0.below hbx
      replace g1 := g1.below hbx
      replace hbt := hbt.trans (hbx.mono hbt.size)
      replace HB_x0 := Lib.hid ((hbx.block _ (lt_of_block HB_x0.out)).trans HB_x0.out)
      replace HB_x1 := Lib.hid ((hbx.block _ (lt_of_block HB_x1.out)).trans HB_x1.out)
      clear hbx
      replace x00 := (two_cells HB_x0.out).1
      replace x01 := (two_cells HB_x0.out).2.1
      replace x10 := (two_cells HB_x1.out).1
      replace x11 := (two_cells HB_x1.out).2.1
      go_wp2_with fail
      refine (short_t2 12 _ rfl l0 l1).mono ?_
      rintro e wx2 ⟨rfl, hbx⟩
      replace g0 := g0.below hbx
      replace g1 := g1.below hbx
      replace hbt := hbt.trans (hbx.mono hbt.size)
      replace HB_x0 := Lib.hid ((hbx.block _ (lt_of_block HB_x0.out)).trans HB_x0.out)
      replace HB_x1 := Lib.hid ((hbx.block _ (lt_of_block HB_x1.out)).trans HB_x1.out)
      clear hbx
      replace x00 := (two_cells HB_x0.out).1
      replace x01 := (two_cells HB_x0.out).2.1
      replace x10 := (two_cells HB_x1.out).1
      replace x11 := (two_cells HB_x1.out).2.1
      go_wp2_with fail
      refine (half_any _ A 12 _ g0 (by omega)).mono ?_
      rintro e wx3 ⟨v_h, rfl, c_h, hbx⟩
      replace g0 := g0.below hbx
      replace g1 := g1.below hbx
      replace hbt := hbt.trans (hbx.mono hbt.size)
      replace HB_x0 := Lib.hid ((hbx.block _ (lt_of_block HB_x0.out)).trans HB_x0.out)
      replace HB_x1 := Lib.hid ((hbx.block _ (lt_of_block HB_x1.out)).trans HB_x1.out)
      clear hbx
      replace x00 := (two_cells HB_x0.out).1
      replace x01 := (two_cells HB_x0.out).2.1
      replace x10 := (two_cells HB_x1.out).1
      replace x11 := (two_cells HB_x1.out).2.1
      obtain ⟨b_h, o_h, l_h, k_h, rfl⟩ := c_h.shape
      have hlt_x0 := lt_of_block HB_x0.out
      have hlt_x1 := lt_of_block HB_x1.out
      go_wp2_with fail
      clear hlt_x0 hlt_x1
      have hbx : Below wx3.heap.size wx3 (wx3.alloc (.cells #[.bool b_h, .slice o_h l_h k_h] 25)) := (Below.refl _ _).alloc (Nat.le_refl _) _
      replace g0 := g0.below hbx
      replace g1 := g1.below hbx
      replace c_h := c_h.below hbx
      replace hbt := hbt.trans (hbx.mono hbt.size)
      replace HB_x0 := Lib.hid ((hbx.block _ (lt_of_block HB_x0.out)).trans HB_x0.out)
      replace HB_x1 := Lib.hid ((hbx.block _ (lt_of_block HB_x1.out)).trans HB_x1.out)
      clear hbx
      replace x00 := (two_cells HB_x0.out).1
      replace x01 := (two_cells HB_x0.out).2.1
      replace x10 := (two_cells HB_x1.out).1
      replace x11 := (two_cells HB_x1.out).2.1
      have HB_y1 := Lib.hid (heap_alloc_new wx3 (.cells #[.bool b_h, .slice o_h l_h k_h] 25))
      have y10 := (two_cells HB_y1.out).1
      have y11 := (two_cells HB_y1.out).2.1
      generalize (wx3.alloc (.cells #[.bool b_h, .slice o_h l_h k_h] 25)) = wx4 at *
      have hlt_x0 := lt_of_block HB_x0.out
      have hlt_x1 := lt_of_block HB_x1.out
      have hlt_y1 := lt_of_block HB_y1.out
      go_upto_region 6 with fail
      go_cut [6] (fun s6 wx => ∃ g_y2 b_y2 o_y2 l_y2 k_y2, s6 = .pointer (some ⟨g_y2, 0, none⟩) ∧ wx4.heap.size ≤ g_y2 ∧ wx.heap[g_y2]? = some (.cells #[.bool b_y2, .slice o_y2 l_y2 k_y2] 25 (0, 0)) ∧ CI wx (.agg #[.bool b_y2, .slice o_y2 l_y2 k_y2]) (A - (Int.tdiv A 2 + Int.tdiv A 2)) 38 ∧ Below wx4.heap.size wx4 wx)
      case first =>
        go_region_held3 (fun w' => w'.cell? ⟨w.heap.size, 0, none⟩ = some (.bool b0) ∧ w'.cell? ⟨w.heap.size, 1, none⟩ = some (.slice o0 n0 m0) ∧ w'.cell? ⟨wx3.heap.size, 0, none⟩ = some (.bool b_h) ∧ w'.cell? ⟨wx3.heap.size, 1, none⟩ = some (.slice o_h l_h k_h))
          (first | exact ⟨x00, x01, y10, y11⟩ | exact ⟨(far2 (by omega)).trans x00, (far2 (by omega)).trans x01, (far2 (by omega)).trans y10, (far2 (by omega)).trans y11⟩ | go_keep)
          (first
            | (have := tok0; go_at_call 16; refine (wsub_any _ _ A (Int.tdiv A 2 + Int.tdiv A 2) 12 25 _ (g0.below (by first | exact Below.refl _ _ | (repeat (first | exact Below.refl _ _ | refine Below.drew ?_ | refine Below.alloc ?_ (by first | exact Nat.le_refl _ | (simp; done) | (simp; omega)) _)))) (c_s.gi.below (by first | exact Below.refl _ _ | (repeat (first | exact Below.refl _ _ | refine Below.drew ?_ | refine Below.alloc ?_ (by first | exact Nat.le_refl _ | (simp; done) | (simp; omega)) _)))) (by omega) (by omega)).mono ?_; rintro e wx6 ⟨v_m, rfl, c_m, hbq⟩; have hbx : Below wx5.heap.size wx5 wx6 := trans2 hbq (by first | exact Below.refl _ _ | (repeat (first | exact Below.refl _ _ | refine Below.drew ?_ | refine Below.alloc ?_ (by first | exact Nat.le_refl _ | (simp; done) | (simp; omega)) _))); (first | (have HL_y2 := Lib.hid ((hbx.block _ (lt_of_block HL_y2.out)).trans HL_y2.out)) | (have hlk := kept_heap (T := 25) hbq; have HL_y2 := Lib.hid hlk) | (have hlk := kept_heap (T := 25) (undrew hbq); have HL_y2 := Lib.hid hlk) | skip); replace g0 := g0.below hbx; replace g1 := g1.below hbx; replace c_h := c_h.below hbx; replace c_s := c_s.below hbx; replace hbr := hbr.trans (hbx.mono hbr.size); replace HB_x0 := Lib.hid ((hbx.block _ (lt_of_block HB_x0.out)).trans HB_x0.out); have hlt_x0 := lt_of_block HB_x0.out; replace HB_x1 := Lib.hid ((hbx.block _ (lt_of_block HB_x1.out)).trans HB_x1.out); have hlt_x1 := lt_of_block HB_x1.out; replace HB_y1 := Lib.hid ((hbx.block _ (lt_of_block HB_y1.out)).trans HB_y1.out); have hlt_y1 := lt_of_block HB_y1.out; have hsz1 := hbx.size; clear hbx; replace x00 := (two_cells HB_x0.out).1; replace x01 := (two_cells HB_x0.out).2.1; replace y10 := (two_cells HB_y1.out).1; replace y11 := (two_cells HB_y1.out).2.1; (first | (have hl4 := two_cells HL_y2.out; obtain ⟨la_y2, lb_y2, lc_y2, ld_y2⟩ := hl4; (try simp at la_y2 lb_y2 lc_y2 ld_y2)) | skip); obtain ⟨b_m, o_m, l_m, k_m, rfl⟩ := c_m.shape; have tok1 := Lib.hid trivial)
            | (skip; go_at_call 14; refine (wadd_any _ _ (Int.tdiv A 2) (Int.tdiv A 2) 12 12 _ (c_h.gi.below (by first | exact Below.refl _ _ | (repeat (first | exact Below.refl _ _ | refine Below.drew ?_ | refine Below.alloc ?_ (by first | exact Nat.le_refl _ | (simp; done) | (simp; omega)) _)))) (c_h.gi.below (by first | exact Below.refl _ _ | (repeat (first | exact Below.refl _ _ | refine Below.drew ?_ | refine Below.alloc ?_ (by first | exact Nat.le_refl _ | (simp; done) | (simp; omega)) _)))) (by omega) (by omega)).mono ?_; rintro e wx5 ⟨v_s, rfl, c_s, hbq⟩; have hbx : Below wx4.heap.size wx4 wx5 := trans2 hbq (by first | exact Below.refl _ _ | (repeat (first | exact Below.refl _ _ | refine Below.drew ?_ | refine Below.alloc ?_ (by first | exact Nat.le_refl _ | (simp; done) | (simp; omega)) _))); (first | (have HL_y2 := Lib.hid ((hbx.block _ (lt_of_block HL_y2.out)).trans HL_y2.out)) | (have hlk := kept_heap (T := 25) hbq; have HL_y2 := Lib.hid hlk) | (have hlk := kept_heap (T := 25) (undrew hbq); have HL_y2 := Lib.hid hlk) | skip); replace g0 := g0.below hbx; replace g1 := g1.below hbx; replace c_h := c_h.below hbx; have hbr := hbx; replace HB_x0 := Lib.hid ((hbx.block _ (lt_of_block HB_x0.out)).trans HB_x0.out); have hlt_x0 := lt_of_block HB_x0.out; replace HB_x1 := Lib.hid ((hbx.block _ (lt_of_block HB_x1.out)).trans HB_x1.out); have hlt_x1 := lt_of_block HB_x1.out; replace HB_y1 := Lib.hid ((hbx.block _ (lt_of_block HB_y1.out)).trans HB_y1.out); have hlt_y1 := lt_of_block HB_y1.out; have hsz0 := hbx.size; clear hbx; replace x00 := (two_cells HB_x0.out).1; replace x01 := (two_cells HB_x0.out).2.1; replace y10 := (two_cells HB_y1.out).1; replace y11 := (two_cells HB_y1.out).2.1; (first | (have hl4 := two_cells HL_y2.out; obtain ⟨la_y2, lb_y2, lc_y2, ld_y2⟩ := hl4; (try simp at la_y2 lb_y2 lc_y2 ld_y2)) | skip); obtain ⟨b_s, o_s, l_s, k_s, rfl⟩ := c_s.shape; have tok0 := Lib.hid trivial))
        all_goals
          go_wp2_with fail
          go_meet
          first
            | exact ⟨_, _, _, _, _, rfl, hbr.size, heap_alloc_new _ _, c_m.below ((Below.refl _ _).alloc (Nat.le_refl _) _), hbr.alloc hbr.size _⟩
            | exact ⟨_, _, _, _, _, rfl, by omega, heap_set2 HL_y2.out _ _, c_m.set2 HL_y2.out _ _, below_setg hbr (by omega) _ _⟩
      case rest =>
        obtain ⟨g_y2, b_y2, o_y2, l_y2, k_y2, rfl, hg_y2, hB_y2, c_y2, hbx⟩ := hcut
        obtain ⟨wx7, he⟩ : ∃ x, x = wc := ⟨wc, rfl⟩
        subst he
        have HB_y2 := Lib.hid hB_y2
        clear hB_y2
        have y20 := (two_cells HB_y2.out).1
        have y21 := (two_cells HB_y2.out).2.1
        replace g0 := g0.below hbx
        replace g1 := g1.below hbx
        replace c_h := c_h.below hbx
        replace hbt := hbt.trans (hbx.mono hbt.size)
        replace HB_x0 := Lib.hid ((hbx.block _ (lt_of_block HB_x0.out)).trans HB_x0.out)
        replace HB_x1 := Lib.hid ((hbx.block _ (lt_of_block HB_x1.out)).trans HB_x1.out)
        replace HB_y1 := Lib.hid ((hbx.block _ (lt_of_block HB_y1.out)).trans HB_y1.out)
        clear hbx
        replace x00 := (two_cells HB_x0.out).1
        replace x01 := (two_cells HB_x0.out).2.1
        replace x10 := (two_cells HB_x1.out).1
        replace x11 := (two_cells HB_x1.out).2.1
        replace y10 := (two_cells HB_y1.out).1
        replace y11 := (two_cells HB_y1.out).2.1
        go_wp2_with fail
        refine (wsign_s _ A 12 (-1) _ g0 HSG.out (by omega)).mono ?_
        rintro e wx8 ⟨rfl, hbx⟩
        replace g0 := g0.below hbx
        replace g1 := g1.below hbx
        replace c_h := c_h.below hbx
        replace c_y2 := c_y2.below hbx
        replace hbt := hbt.trans (hbx.mono hbt.size)
        replace HB_x0 := Lib.hid ((hbx.block _ (lt_of_block HB_x0.out)).trans HB_x0.out)
        replace HB_x1 := Lib.hid ((hbx.block _ (lt_of_block HB_x1.out)).trans HB_x1.out)
        replace HB_y1 := Lib.hid ((hbx.block _ (lt_of_block HB_y1.out)).trans HB_y1.out)
        replace HB_y2 := Lib.hid ((hbx.block _ (lt_of_block HB_y2.out)).trans HB_y2.out)
        clear hbx
        replace x00 := (two_cells HB_x0.out).1
        replace x01 := (two_cells HB_x0.out).2.1
        replace x10 := (two_cells HB_x1.out).1
        replace x11 := (two_cells HB_x1.out).2.1
        replace y10 := (two_cells HB_y1.out).1
        replace y11 := (two_cells HB_y1.out).2.1
        replace y20 := (two_cells HB_y2.out).1
        replace y21 := (two_cells HB_y2.out).2.1
        go_wp2_with fail
        refine (wneg_any _ (A - (Int.tdiv A 2 + Int.tdiv A 2)) 38 _ c_y2.gi (by omega)).mono ?_
        rintro e wx9 ⟨v_n, rfl, c_n, hbx⟩
        replace g0 := g0.below hbx
        replace g1 := g1.below hbx
        replace c_h := c_h.below hbx
        replace c_y2 := c_y2.below hbx
        replace hbt := hbt.trans (hbx.mono hbt.size)
        replace HB_x0 := Lib.hid ((hbx.block _ (lt_of_block HB_x0.out)).trans HB_x0.out)
        replace HB_x1 := Lib.hid ((hbx.block _ (lt_of_block HB_x1.out)).trans HB_x1.out)
        replace HB_y1 := Lib.hid ((hbx.block _ (lt_of_block HB_y1.out)).trans HB_y1.out)
        replace HB_y2 := Lib.hid ((hbx.block _ (lt_of_block HB_y2.out)).trans HB_y2.out)
        clear hbx
        replace x00 := (two_cells HB_x0.out).1
        replace x01 := (two_cells HB_x0.out).2.1
        replace x10 := (two_cells HB_x1.out).1
        replace x11 := (two_cells HB_x1.out).2.1
        replace y10 := (two_cells HB_y1.out).1
        replace y11 := (two_cells HB_y1.out).2.1
        replace y20 := (two_cells HB_y2.out).1
        replace y21 := (two_cells HB_y2.out).2.1
        obtain ⟨b_n, o_n, l_n, k_n, rfl⟩ := c_n.shape
        obtain ⟨-, -, fz0, fz1⟩ := two_cells HB_y2.out
        have hne_x0 : w.heap.size ≠ g_y2 := by omega
        have hne_x1 : w.heap.size + 1 ≠ g_y2 := by omega
        have hne_y1 : wx3.heap.size ≠ g_y2 := by omega
        go_wp2_with fail
        replace g0 := g0.set2 HB_y2.out (.bool b_n) (.slice o_n l_n k_n)
        replace g1 := g1.set2 HB_y2.out (.bool b_n) (.slice o_n l_n k_n)
        replace c_h := c_h.set2 HB_y2.out (.bool b_n) (.slice o_n l_n k_n)
        replace c_y2 := c_y2.set2 HB_y2.out (.bool b_n) (.slice o_n l_n k_n)
        replace c_n := c_n.set2 HB_y2.out (.bool b_n) (.slice o_n l_n k_n)
        replace hbt := below_setg (g := g_y2) hbt (by omega) (.bool b_n) (.slice o_n l_n k_n)
        replace HB_x0 := Lib.hid ((heap_far2 (g := g_y2) (x := .bool b_n) (y := .slice o_n l_n k_n) hne_x0).trans HB_x0.out)
        replace HB_x1 := Lib.hid ((heap_far2 (g := g_y2) (x := .bool b_n) (y := .slice o_n l_n k_n) hne_x1).trans HB_x1.out)
        replace HB_y1 := Lib.hid ((heap_far2 (g := g_y2) (x := .bool b_n) (y := .slice o_n l_n k_n) hne_y1).trans HB_y1.out)
        replace HB_y2 := Lib.hid (heap_set2 HB_y2.out (.bool b_n) (.slice o_n l_n k_n))
        clear fz0 fz1 hne_x0 hne_x1 hne_y1
        replace x00 := (two_cells HB_x0.out).1
        replace x01 := (two_cells HB_x0.out).2.1
        replace x10 := (two_cells HB_x1.out).1
        replace x11 := (two_cells HB_x1.out).2.1
        replace y10 := (two_cells HB_y1.out).1
        replace y11 := (two_cells HB_y1.out).2.1
        replace y20 := (two_cells HB_y2.out).1
        replace y21 := (two_cells HB_y2.out).2.1
        generalize ((wx9.setCell ⟨g_y2, 0, none⟩ (.bool b_n)).setCell ⟨g_y2, 1, none⟩ (.slice o_n l_n k_n)) = wx10 at *
        refine (wsmall_yes _ 1 38 _ (c_n.to HRR.out).gi (by omega) (by omega) (by omega)).mono ?_
        rintro e wx11 ⟨rfl, hbx⟩
        replace g0 := g0.below hbx
        replace g1 := g1.below hbx
        replace c_h := c_h.below hbx
        replace c_y2 := c_y2.below hbx
        replace c_n := c_n.below hbx
        replace hbt := hbt.trans (hbx.mono hbt.size)
        replace HB_x0 := Lib.hid ((hbx.block _ (lt_of_block HB_x0.out)).trans HB_x0.out)
        replace HB_x1 := Lib.hid ((hbx.block _ (lt_of_block HB_x1.out)).trans HB_x1.out)
        replace HB_y1 := Lib.hid ((hbx.block _ (lt_of_block HB_y1.out)).trans HB_y1.out)
        replace HB_y2 := Lib.hid ((hbx.block _ (lt_of_block HB_y2.out)).trans HB_y2.out)
        clear hbx
        replace x00 := (two_cells HB_x0.out).1
        replace x01 := (two_cells HB_x0.out).2.1
        replace x10 := (two_cells HB_x1.out).1
        replace x11 := (two_cells HB_x1.out).2.1
        replace y10 := (two_cells HB_y1.out).1
        replace y11 := (two_cells HB_y1.out).2.1
        replace y20 := (two_cells HB_y2.out).1
        replace y21 := (two_cells HB_y2.out).2.1
        go_wp2_with fail
        go_region_held3 (fun w' => w'.cell? ⟨w.heap.size, 0, none⟩ = some (.bool b0) ∧ w'.cell? ⟨w.heap.size, 1, none⟩ = some (.slice o0 n0 m0) ∧ w'.cell? ⟨w.heap.size + 1, 0, none⟩ = some (.bool b1) ∧ w'.cell? ⟨w.heap.size + 1, 1, none⟩ = some (.slice o1 n1 m1) ∧ w'.cell? ⟨wx3.heap.size, 0, none⟩ = some (.bool b_h) ∧ w'.cell? ⟨wx3.heap.size, 1, none⟩ = some (.slice o_h l_h k_h) ∧ w'.cell? ⟨g_y2, 0, none⟩ = some (.bool b_n) ∧ w'.cell? ⟨g_y2, 1, none⟩ = some (.slice o_n l_n k_n))
          (first | exact ⟨x00, x01, x10, x11, y10, y11, y20, y21⟩ | go_keep)
          (first
            | (have := tok0; go_at_call 31; refine (wbits_s _ A 12 M _ g0 HM.out (by omega)).mono ?_; rintro e wx13 ⟨rfl, hbx⟩; replace g0 := g0.below hbx; replace g1 := g1.below hbx; replace c_h := c_h.below hbx; replace c_y2 := c_y2.below hbx; replace c_n := c_n.below hbx; replace hbt := hbt.trans (hbx.mono hbt.size); replace HB_x0 := Lib.hid ((hbx.block _ (lt_of_block HB_x0.out)).trans HB_x0.out); replace HB_x1 := Lib.hid ((hbx.block _ (lt_of_block HB_x1.out)).trans HB_x1.out); replace HB_y1 := Lib.hid ((hbx.block _ (lt_of_block HB_y1.out)).trans HB_y1.out); replace HB_y2 := Lib.hid ((hbx.block _ (lt_of_block HB_y2.out)).trans HB_y2.out); clear hbx; replace x00 := (two_cells HB_x0.out).1; replace x01 := (two_cells HB_x0.out).2.1; replace x10 := (two_cells HB_x1.out).1; replace x11 := (two_cells HB_x1.out).2.1; replace y10 := (two_cells HB_y1.out).1; replace y11 := (two_cells HB_y1.out).2.1; replace y20 := (two_cells HB_y2.out).1; replace y21 := (two_cells HB_y2.out).2.1; have tok1 := Lib.hid trivial)
            | (skip; go_at_call 31; refine (wbits_s _ (Int.tdiv A 2) 12 (max (M - 1) 0) _ c_h.drew.gi HBT.out (by omega)).mono ?_; rintro e wx12 ⟨rfl, hbx'⟩; have hbx := undrew hbx'; clear hbx'; replace g0 := g0.below hbx; replace g1 := g1.below hbx; replace c_h := c_h.below hbx; replace c_y2 := c_y2.below hbx; replace c_n := c_n.below hbx; replace hbt := hbt.trans (hbx.mono hbt.size); replace HB_x0 := Lib.hid ((hbx.block _ (lt_of_block HB_x0.out)).trans HB_x0.out); replace HB_x1 := Lib.hid ((hbx.block _ (lt_of_block HB_x1.out)).trans HB_x1.out); replace HB_y1 := Lib.hid ((hbx.block _ (lt_of_block HB_y1.out)).trans HB_y1.out); replace HB_y2 := Lib.hid ((hbx.block _ (lt_of_block HB_y2.out)).trans HB_y2.out); clear hbx; replace x00 := (two_cells HB_x0.out).1; replace x01 := (two_cells HB_x0.out).2.1; replace x10 := (two_cells HB_x1.out).1; replace x11 := (two_cells HB_x1.out).2.1; replace y10 := (two_cells HB_y1.out).1; replace y11 := (two_cells HB_y1.out).2.1; replace y20 := (two_cells HB_y2.out).1; replace y21 := (two_cells HB_y2.out).2.1; have tok0 := Lib.hid trivial))
        go_wp2_with fail
        refine (wgcd_any _ _ A B 12 12 _ g0 g1 (by omega) (by omega)).mono ?_
        rintro e wx14 ⟨v_g, rfl, c_g, hbx⟩
        replace g0 := g0.below hbx
        replace g1 := g1.below hbx
        replace c_h := c_h.below hbx
        replace c_y2 := c_y2.below hbx
        replace c_n := c_n.below hbx
        replace hbt := hbt.trans (hbx.mono hbt.size)
        replace HB_x0 := Lib.hid ((hbx.block _ (lt_of_block HB_x0.out)).trans HB_x0.out)
        replace HB_x1 := Lib.hid ((hbx.block _ (lt_of_block HB_x1.out)).trans HB_x1.out)
        replace HB_y1 := Lib.hid ((hbx.block _ (lt_of_block HB_y1.out)).trans HB_y1.out)
        replace HB_y2 := Lib.hid ((hbx.block _ (lt_of_block HB_y2.out)).trans HB_y2.out)
        clear hbx
        replace x00 := (two_cells HB_x0.out).1
        replace x01 := (two_cells HB_x0.out).2.1
        replace x10 := (two_cells HB_x1.out).1
        replace x11 := (two_cells HB_x1.out).2.1
        replace y10 := (two_cells HB_y1.out).1
        replace y11 := (two_cells HB_y1.out).2.1
        replace y20 := (two_cells HB_y2.out).1
        replace y21 := (two_cells HB_y2.out).2.1
        obtain ⟨b_g, o_g, l_g, k_g, rfl⟩ := c_g.shape
        have hlt_x0 := lt_of_block HB_x0.out
        have hlt_x1 := lt_of_block HB_x1.out
        have hlt_y1 := lt_of_block HB_y1.out
        have hlt_y2 := lt_of_block HB_y2.out
        go_wp2_with fail
        clear hlt_x0 hlt_x1 hlt_y1 hlt_y2
        have hbx : Below wx14.heap.size wx14 (wx14.alloc (.cells #[.bool b_g, .slice o_g l_g k_g] 25)) := (Below.refl _ _).alloc (Nat.le_refl _) _
        replace g0 := g0.below hbx
        replace g1 := g1.below hbx
        replace c_h := c_h.below hbx
        replace c_y2 := c_y2.below hbx
        replace c_n := c_n.below hbx
        replace c_g := c_g.below hbx
        replace hbt := hbt.trans (hbx.mono hbt.size)
        replace HB_x0 := Lib.hid ((hbx.block _ (lt_of_block HB_x0.out)).trans HB_x0.out)
        replace HB_x1 := Lib.hid ((hbx.block _ (lt_of_block HB_x1.out)).trans HB_x1.out)
        replace HB_y1 := Lib.hid ((hbx.block _ (lt_of_block HB_y1.out)).trans HB_y1.out)
        replace HB_y2 := Lib.hid ((hbx.block _ (lt_of_block HB_y2.out)).trans HB_y2.out)
        clear hbx
        replace x00 := (two_cells HB_x0.out).1
        replace x01 := (two_cells HB_x0.out).2.1
        replace x10 := (two_cells HB_x1.out).1
        replace x11 := (two_cells HB_x1.out).2.1
        replace y10 := (two_cells HB_y1.out).1
        replace y11 := (two_cells HB_y1.out).2.1
        replace y20 := (two_cells HB_y2.out).1
        replace y21 := (two_cells HB_y2.out).2.1
        have HB_y3 := Lib.hid (heap_alloc_new wx14 (.cells #[.bool b_g, .slice o_g l_g k_g] 25))
        have y30 := (two_cells HB_y3.out).1
        have y31 := (two_cells HB_y3.out).2.1
        generalize (wx14.alloc (.cells #[.bool b_g, .slice o_g l_g k_g] 25)) = wx15 at *
        go_region_held3 (fun w' => w'.cell? ⟨w.heap.size, 0, none⟩ = some (.bool b0) ∧ w'.cell? ⟨w.heap.size, 1, none⟩ = some (.slice o0 n0 m0) ∧ w'.cell? ⟨w.heap.size + 1, 0, none⟩ = some (.bool b1) ∧ w'.cell? ⟨w.heap.size + 1, 1, none⟩ = some (.slice o1 n1 m1) ∧ w'.cell? ⟨wx3.heap.size, 0, none⟩ = some (.bool b_h) ∧ w'.cell? ⟨wx3.heap.size, 1, none⟩ = some (.slice o_h l_h k_h) ∧ w'.cell? ⟨g_y2, 0, none⟩ = some (.bool b_n) ∧ w'.cell? ⟨g_y2, 1, none⟩ = some (.slice o_n l_n k_n) ∧ w'.cell? ⟨wx14.heap.size, 0, none⟩ = some (.bool b_g) ∧ w'.cell? ⟨wx14.heap.size, 1, none⟩ = some (.slice o_g l_g k_g))
          (first | exact ⟨x00, x01, x10, x11, y10, y11, y20, y21, y30, y31⟩ | go_keep)
          (first
            | (have := tok6; go_at_call 33; refine (bits_g g0.gn (by omega)).mono ?_; rintro e wx23 ⟨v_bb, rfl, c_bb, hbx⟩; obtain ⟨o_bb, k_bb, rfl⟩ := sl_shape c_bb; rw [HBL.out]; clear c_bb; replace g0 := g0.below hbx; replace g1 := g1.below hbx; replace c_h := c_h.below hbx; replace c_y2 := c_y2.below hbx; replace c_n := c_n.below hbx; replace c_g := c_g.below hbx; replace c_na := c_na.below hbx; replace c_g2 := c_g2.below hbx; replace c_g3 := c_g3.below hbx; replace hbt := hbt.trans (hbx.mono hbt.size); replace HB_x0 := Lib.hid ((hbx.block _ (lt_of_block HB_x0.out)).trans HB_x0.out); replace HB_x1 := Lib.hid ((hbx.block _ (lt_of_block HB_x1.out)).trans HB_x1.out); replace HB_y1 := Lib.hid ((hbx.block _ (lt_of_block HB_y1.out)).trans HB_y1.out); replace HB_y2 := Lib.hid ((hbx.block _ (lt_of_block HB_y2.out)).trans HB_y2.out); replace HB_y3 := Lib.hid ((hbx.block _ (lt_of_block HB_y3.out)).trans HB_y3.out); clear hbx; replace x00 := (two_cells HB_x0.out).1; replace x01 := (two_cells HB_x0.out).2.1; replace x10 := (two_cells HB_x1.out).1; replace x11 := (two_cells HB_x1.out).2.1; replace y10 := (two_cells HB_y1.out).1; replace y11 := (two_cells HB_y1.out).2.1; replace y20 := (two_cells HB_y2.out).1; replace y21 := (two_cells HB_y2.out).2.1; replace y30 := (two_cells HB_y3.out).1; replace y31 := (two_cells HB_y3.out).2.1; have tok7 := Lib.hid trivial)
            | (have := tok5; go_at_call 31; refine (wbits_any _ A 12 _ g0 (by omega)).mono ?_; rintro e wx22 ⟨rfl, hbx⟩; replace g0 := g0.below hbx; replace g1 := g1.below hbx; replace c_h := c_h.below hbx; replace c_y2 := c_y2.below hbx; replace c_n := c_n.below hbx; replace c_g := c_g.below hbx; replace c_na := c_na.below hbx; replace c_g2 := c_g2.below hbx; replace c_g3 := c_g3.below hbx; replace hbt := hbt.trans (hbx.mono hbt.size); replace HB_x0 := Lib.hid ((hbx.block _ (lt_of_block HB_x0.out)).trans HB_x0.out); replace HB_x1 := Lib.hid ((hbx.block _ (lt_of_block HB_x1.out)).trans HB_x1.out); replace HB_y1 := Lib.hid ((hbx.block _ (lt_of_block HB_y1.out)).trans HB_y1.out); replace HB_y2 := Lib.hid ((hbx.block _ (lt_of_block HB_y2.out)).trans HB_y2.out); replace HB_y3 := Lib.hid ((hbx.block _ (lt_of_block HB_y3.out)).trans HB_y3.out); clear hbx; replace x00 := (two_cells HB_x0.out).1; replace x01 := (two_cells HB_x0.out).2.1; replace x10 := (two_cells HB_x1.out).1; replace x11 := (two_cells HB_x1.out).2.1; replace y10 := (two_cells HB_y1.out).1; replace y11 := (two_cells HB_y1.out).2.1; replace y20 := (two_cells HB_y2.out).1; replace y21 := (two_cells HB_y2.out).2.1; replace y30 := (two_cells HB_y3.out).1; replace y31 := (two_cells HB_y3.out).2.1; have tok6 := Lib.hid trivial)
            | (have := tok4; go_at_call 25; refine (same_true _ _ ((Nat.gcd A.natAbs B.natAbs : Nat) : Int) 12 12 _ c_g (c_g3.to HGC.out) (by omega) (by omega)).mono ?_; rintro e wx21 ⟨rfl, hbx⟩; replace g0 := g0.below hbx; replace g1 := g1.below hbx; replace c_h := c_h.below hbx; replace c_y2 := c_y2.below hbx; replace c_n := c_n.below hbx; replace c_g := c_g.below hbx; replace c_na := c_na.below hbx; replace c_g2 := c_g2.below hbx; replace c_g3 := c_g3.below hbx; replace hbt := hbt.trans (hbx.mono hbt.size); replace HB_x0 := Lib.hid ((hbx.block _ (lt_of_block HB_x0.out)).trans HB_x0.out); replace HB_x1 := Lib.hid ((hbx.block _ (lt_of_block HB_x1.out)).trans HB_x1.out); replace HB_y1 := Lib.hid ((hbx.block _ (lt_of_block HB_y1.out)).trans HB_y1.out); replace HB_y2 := Lib.hid ((hbx.block _ (lt_of_block HB_y2.out)).trans HB_y2.out); replace HB_y3 := Lib.hid ((hbx.block _ (lt_of_block HB_y3.out)).trans HB_y3.out); clear hbx; replace x00 := (two_cells HB_x0.out).1; replace x01 := (two_cells HB_x0.out).2.1; replace x10 := (two_cells HB_x1.out).1; replace x11 := (two_cells HB_x1.out).2.1; replace y10 := (two_cells HB_y1.out).1; replace y11 := (two_cells HB_y1.out).2.1; replace y20 := (two_cells HB_y2.out).1; replace y21 := (two_cells HB_y2.out).2.1; replace y30 := (two_cells HB_y3.out).1; replace y31 := (two_cells HB_y3.out).2.1; have tok5 := Lib.hid trivial)
            | (have := tok3; go_at_call 32; refine (wgcd_any _ _ B A 12 12 _ g1 g0 (by omega) (by omega)).mono ?_; rintro e wx20 ⟨v_g3, rfl, c_g3, hbx⟩; replace g0 := g0.below hbx; replace g1 := g1.below hbx; replace c_h := c_h.below hbx; replace c_y2 := c_y2.below hbx; replace c_n := c_n.below hbx; replace c_g := c_g.below hbx; replace c_na := c_na.below hbx; replace c_g2 := c_g2.below hbx; replace hbt := hbt.trans (hbx.mono hbt.size); replace HB_x0 := Lib.hid ((hbx.block _ (lt_of_block HB_x0.out)).trans HB_x0.out); replace HB_x1 := Lib.hid ((hbx.block _ (lt_of_block HB_x1.out)).trans HB_x1.out); replace HB_y1 := Lib.hid ((hbx.block _ (lt_of_block HB_y1.out)).trans HB_y1.out); replace HB_y2 := Lib.hid ((hbx.block _ (lt_of_block HB_y2.out)).trans HB_y2.out); replace HB_y3 := Lib.hid ((hbx.block _ (lt_of_block HB_y3.out)).trans HB_y3.out); clear hbx; replace x00 := (two_cells HB_x0.out).1; replace x01 := (two_cells HB_x0.out).2.1; replace x10 := (two_cells HB_x1.out).1; replace x11 := (two_cells HB_x1.out).2.1; replace y10 := (two_cells HB_y1.out).1; replace y11 := (two_cells HB_y1.out).2.1; replace y20 := (two_cells HB_y2.out).1; replace y21 := (two_cells HB_y2.out).2.1; replace y30 := (two_cells HB_y3.out).1; replace y31 := (two_cells HB_y3.out).2.1; obtain ⟨b_g3, o_g3, l_g3, k_g3, rfl⟩ := c_g3.shape; have tok4 := Lib.hid trivial)
            | (have := tok2; go_at_call 25; refine (same_true _ _ ((Nat.gcd A.natAbs B.natAbs : Nat) : Int) 12 12 _ c_g (c_g2.to HGN.out) (by omega) (by omega)).mono ?_; rintro e wx19 ⟨rfl, hbx⟩; replace g0 := g0.below hbx; replace g1 := g1.below hbx; replace c_h := c_h.below hbx; replace c_y2 := c_y2.below hbx; replace c_n := c_n.below hbx; replace c_g := c_g.below hbx; replace c_na := c_na.below hbx; replace c_g2 := c_g2.below hbx; replace hbt := hbt.trans (hbx.mono hbt.size); replace HB_x0 := Lib.hid ((hbx.block _ (lt_of_block HB_x0.out)).trans HB_x0.out); replace HB_x1 := Lib.hid ((hbx.block _ (lt_of_block HB_x1.out)).trans HB_x1.out); replace HB_y1 := Lib.hid ((hbx.block _ (lt_of_block HB_y1.out)).trans HB_y1.out); replace HB_y2 := Lib.hid ((hbx.block _ (lt_of_block HB_y2.out)).trans HB_y2.out); replace HB_y3 := Lib.hid ((hbx.block _ (lt_of_block HB_y3.out)).trans HB_y3.out); clear hbx; replace x00 := (two_cells HB_x0.out).1; replace x01 := (two_cells HB_x0.out).2.1; replace x10 := (two_cells HB_x1.out).1; replace x11 := (two_cells HB_x1.out).2.1; replace y10 := (two_cells HB_y1.out).1; replace y11 := (two_cells HB_y1.out).2.1; replace y20 := (two_cells HB_y2.out).1; replace y21 := (two_cells HB_y2.out).2.1; replace y30 := (two_cells HB_y3.out).1; replace y31 := (two_cells HB_y3.out).2.1; have tok3 := Lib.hid trivial)
            | (have := tok1; go_at_call 32; refine (wgcd_any _ _ (-A) B 12 12 _ c_na.gi g1 (by omega) (by omega)).mono ?_; rintro e wx18 ⟨v_g2, rfl, c_g2, hbx⟩; replace g0 := g0.below hbx; replace g1 := g1.below hbx; replace c_h := c_h.below hbx; replace c_y2 := c_y2.below hbx; replace c_n := c_n.below hbx; replace c_g := c_g.below hbx; replace c_na := c_na.below hbx; replace hbt := hbt.trans (hbx.mono hbt.size); replace HB_x0 := Lib.hid ((hbx.block _ (lt_of_block HB_x0.out)).trans HB_x0.out); replace HB_x1 := Lib.hid ((hbx.block _ (lt_of_block HB_x1.out)).trans HB_x1.out); replace HB_y1 := Lib.hid ((hbx.block _ (lt_of_block HB_y1.out)).trans HB_y1.out); replace HB_y2 := Lib.hid ((hbx.block _ (lt_of_block HB_y2.out)).trans HB_y2.out); replace HB_y3 := Lib.hid ((hbx.block _ (lt_of_block HB_y3.out)).trans HB_y3.out); clear hbx; replace x00 := (two_cells HB_x0.out).1; replace x01 := (two_cells HB_x0.out).2.1; replace x10 := (two_cells HB_x1.out).1; replace x11 := (two_cells HB_x1.out).2.1; replace y10 := (two_cells HB_y1.out).1; replace y11 := (two_cells HB_y1.out).2.1; replace y20 := (two_cells HB_y2.out).1; replace y21 := (two_cells HB_y2.out).2.1; replace y30 := (two_cells HB_y3.out).1; replace y31 := (two_cells HB_y3.out).2.1; obtain ⟨b_g2, o_g2, l_g2, k_g2, rfl⟩ := c_g2.shape; have tok2 := Lib.hid trivial)
            | (have := tok0; go_at_call 22; refine (wneg_any _ A 12 _ g0 (by omega)).mono ?_; rintro e wx17 ⟨v_na, rfl, c_na, hbx⟩; replace g0 := g0.below hbx; replace g1 := g1.below hbx; replace c_h := c_h.below hbx; replace c_y2 := c_y2.below hbx; replace c_n := c_n.below hbx; replace c_g := c_g.below hbx; replace hbt := hbt.trans (hbx.mono hbt.size); replace HB_x0 := Lib.hid ((hbx.block _ (lt_of_block HB_x0.out)).trans HB_x0.out); replace HB_x1 := Lib.hid ((hbx.block _ (lt_of_block HB_x1.out)).trans HB_x1.out); replace HB_y1 := Lib.hid ((hbx.block _ (lt_of_block HB_y1.out)).trans HB_y1.out); replace HB_y2 := Lib.hid ((hbx.block _ (lt_of_block HB_y2.out)).trans HB_y2.out); replace HB_y3 := Lib.hid ((hbx.block _ (lt_of_block HB_y3.out)).trans HB_y3.out); clear hbx; replace x00 := (two_cells HB_x0.out).1; replace x01 := (two_cells HB_x0.out).2.1; replace x10 := (two_cells HB_x1.out).1; replace x11 := (two_cells HB_x1.out).2.1; replace y10 := (two_cells HB_y1.out).1; replace y11 := (two_cells HB_y1.out).2.1; replace y20 := (two_cells HB_y2.out).1; replace y21 := (two_cells HB_y2.out).2.1; replace y30 := (two_cells HB_y3.out).1; replace y31 := (two_cells HB_y3.out).2.1; obtain ⟨b_na, o_na, l_na, k_na, rfl⟩ := c_na.shape; have tok1 := Lib.hid trivial)
            | (skip; go_at_call 23; refine (wsign_s _ ((Nat.gcd A.natAbs B.natAbs : Nat) : Int) 12 sgx _ c_g.drew.gi HSGX.out (by omega)).mono ?_; rintro e wx16 ⟨rfl, hbx'⟩; have hbx := undrew hbx'; clear hbx'; replace g0 := g0.below hbx; replace g1 := g1.below hbx; replace c_h := c_h.below hbx; replace c_y2 := c_y2.below hbx; replace c_n := c_n.below hbx; replace c_g := c_g.below hbx; replace hbt := hbt.trans (hbx.mono hbt.size); replace HB_x0 := Lib.hid ((hbx.block _ (lt_of_block HB_x0.out)).trans HB_x0.out); replace HB_x1 := Lib.hid ((hbx.block _ (lt_of_block HB_x1.out)).trans HB_x1.out); replace HB_y1 := Lib.hid ((hbx.block _ (lt_of_block HB_y1.out)).trans HB_y1.out); replace HB_y2 := Lib.hid ((hbx.block _ (lt_of_block HB_y2.out)).trans HB_y2.out); replace HB_y3 := Lib.hid ((hbx.block _ (lt_of_block HB_y3.out)).trans HB_y3.out); clear hbx; replace x00 := (two_cells HB_x0.out).1; replace x01 := (two_cells HB_x0.out).2.1; replace x10 := (two_cells HB_x1.out).1; replace x11 := (two_cells HB_x1.out).2.1; replace y10 := (two_cells HB_y1.out).1; replace y11 := (two_cells HB_y1.out).2.1; replace y20 := (two_cells HB_y2.out).1; replace y21 := (two_cells HB_y2.out).2.1; replace y30 := (two_cells HB_y3.out).1; replace y31 := (two_cells HB_y3.out).2.1; have tok0 := Lib.hid trivial))
        go_wp2_with fail
        go_ret
        exact ⟨rfl, hbt⟩
  · have HS := Lib.hid hs
    clear hs
    have hbt := below2 w (.cells #[.bool b0, .slice o0 n0 m0] 25) (.cells #[.bool b1, .slice o1 n1 m1] 25)
    clear a0
    clear a1
    have hbk := blocks2 (Below.refl (w.heap.size + 2) ((w.alloc (.cells #[.bool b0, .slice o0 n0 m0] 25)).alloc (.cells #[.bool b1, .slice o1 n1 m1] 25)))
    have HB_x0 := Lib.hid hbk.1
    have HB_x1 := Lib.hid hbk.2
    clear hbk
    have x00 := (two_cells HB_x0.out).1
    have x01 := (two_cells HB_x0.out).2.1
    have x10 := (two_cells HB_x1.out).1
    have x11 := (two_cells HB_x1.out).2.1
    go_enter Tryd.func8, Tryd.ntmps8
    go_wp2_with fail
    generalize ((w.alloc (.cells #[.bool b0, .slice o0 n0 m0] 25)).alloc (.cells #[.bool b1, .slice o1 n1 m1] 25)) = w0 at *
    refine (HF.out _ (tab_below HTB.out hbt)).mono ?_
    rintro e wx1 ⟨rfl, hbx⟩
    replace hbt := hbt.trans (hbx.mono hbt.size)
    replace HB_x0 := Lib.hid ((hbx.block _ (lt_of_block HB_x0.out)).trans HB_x0.out)
    replace HB_x1 := Lib.hid ((hbx.block _ (lt_of_block HB_x1.out)).trans HB_x1.out)
    clear hbx
    replace x00 := (two_cells HB_x0.out).1
    replace x01 := (two_cells HB_x0.out).2.1
    replace x10 := (two_cells HB_x1.out).1
    replace x11 := (two_cells HB_x1.out).2.1
    go_wp2_with fail
    refine (short_f2 12 _ rfl HS.out).mono ?_
    rintro e wx2 ⟨rfl, hbx⟩
    replace hbt := hbt.trans (hbx.mono hbt.size)
    replace HB_x0 := Lib.hid ((hbx.block _ (lt_of_block HB_x0.out)).trans HB_x0.out)
    replace HB_x1 := Lib.hid ((hbx.block _ (lt_of_block HB_x1.out)).trans HB_x1.out)
    clear hbx
    replace x00 := (two_cells HB_x0.out).1
    replace x01 := (two_cells HB_x0.out).2.1
    replace x10 := (two_cells HB_x1.out).1
    replace x11 := (two_cells HB_x1.out).2.1
    go_wp2_with fail
    go_ret
    exact ⟨rfl, hbt⟩
end Go.Proofs.YtbkeildnhimfbaaDoor
