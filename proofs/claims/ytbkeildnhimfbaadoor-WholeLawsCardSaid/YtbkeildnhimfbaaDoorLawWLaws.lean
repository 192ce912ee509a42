/-
  The walk of the law WholeLaws.
-/
import Derived.Test.YtbkeildnhimfbaaDoorWhoV
import Derived.Test.YtbkeildnhimfbaaDoorLawWOrders
namespace Go.Proofs.YtbkeildnhimfbaaDoor
open Go.RowKit
set_option maxRecDepth 100000

set_option maxHeartbeats 8000000 in
theorem wholeLaws_walk (b0 : Bool) (o0 : Option Addr) (n0 m0 : Nat) (xs0 : List Nat) (b1 : Bool) (o1 : Option Addr) (n1 m1 : Nat) (xs1 : List Nat) (b2 : Bool) (o2 : Option Addr) (n2 m2 : Nat) (xs2 : List Nat) (w : World) (a0 : Arg w b0 o0 n0 m0 xs0) (a1 : Arg w b1 o1 n1 m1 xs1) (a2 : Arg w b2 o2 n2 m2 xs2) (htab : Lib.TabIs Tryd.prog w "internal/strconv.uint64pow10" .u64 Lib.pow10Tab) :
    Calls Tryd.prog 5 #[.agg #[.bool b0, .slice o0 n0 m0], .agg #[.bool b1, .slice o1 n1 m1], .agg #[.bool b2, .slice o2 n2 m2]] w fun e w' => e = .returned (.bool true) ∧ Below w.heap.size w w' := by
  have HF := Lib.hid wfitOk
  have HTB := Lib.hid htab
  clear htab
  by_cases hs : n0 ≤ 30 ∧ n1 ≤ 30 ∧ n2 ≤ 30
  · obtain ⟨l0, l1, l2⟩ := hs
    obtain ⟨A, g0⟩ := a0.gi l0
    obtain ⟨B, g1⟩ := a1.gi l1
    obtain ⟨C, g2⟩ := a2.gi l2
    clear a0 a1 a2
    have H12 := Lib.hid (show C * A + A * B = A * (B + C) by rw [Int.mul_add, Int.mul_comm C A, Int.add_comm])
    have H3 := Lib.hid (show C + A = A - B + (B + C) by omega)
    have H4 := Lib.hid (show B * (C * A) = A * B * C by rw [Int.mul_comm A B, Int.mul_assoc, Int.mul_comm C A])
    have HS0 := Lib.hid (sgnZ_self A)
    have hbt := below3 w (.cells #[.bool b0, .slice o0 n0 m0] 25) (.cells #[.bool b1, .slice o1 n1 m1] 25) (.cells #[.bool b2, .slice o2 n2 m2] 25)
    have hbk := blocks3 (Below.refl (w.heap.size + 3) (((w.alloc (.cells #[.bool b0, .slice o0 n0 m0] 25)).alloc (.cells #[.bool b1, .slice o1 n1 m1] 25)).alloc (.cells #[.bool b2, .slice o2 n2 m2] 25)))
    have HB_x0 := Lib.hid hbk.1
    have HB_x1 := Lib.hid hbk.2.1
    have HB_x2 := Lib.hid hbk.2.2
    clear hbk
    replace g0 := g0.below hbt
    have x00 := (two_cells HB_x0.out).1
    have x01 := (two_cells HB_x0.out).2.1
    replace g1 := g1.below hbt
    have x10 := (two_cells HB_x1.out).1
    have x11 := (two_cells HB_x1.out).2.1
    replace g2 := g2.below hbt
    have x20 := (two_cells HB_x2.out).1
    have x21 := (two_cells HB_x2.out).2.1
    go_enter Tryd.func5, Tryd.ntmps5
    go_wp2_with fail
    generalize (((w.alloc (.cells #[.bool b0, .slice o0 n0 m0] 25)).alloc (.cells #[.bool b1, .slice o1 n1 m1] 25)).alloc (.cells #[.bool b2, .slice o2 n2 m2] 25)) = w0 at *
    refine (HF.out _ (tab_below HTB.out hbt)).mono ?_
    rintro e wx1 ⟨rfl, hbx⟩
    replace g0 := g0.below hbx
    replace g1 := g1.below hbx
    replace g2 := g2.below hbx
    replace hbt := hbt.trans (hbx.mono hbt.size)
    replace HB_x0 := Lib.hid ((hbx.block _ (lt_of_block HB_x0.out)).trans HB_x0.out)
    replace HB_x1 := Lib.hid ((hbx.block _ (lt_of_block HB_x1.out)).trans HB_x1.out)
    replace HB_x2 := Lib.hid ((hbx.block _ (lt_of_block HB_x2.out)).trans HB_x2.out)
    clear hbx
    replace x00 := (two_cells HB_x0.out).1
    replace x01 := (two_cells HB_x0.out).2.1
    replace x10 := (two_cells HB_x1.out).1
    replace x11 := (two_cells HB_x1.out).2.1
    replace x20 := (two_cells HB_x2.out).1
    replace x21 := (two_cells HB_x2.out).2.1
    go_wp2_with fail
    refine (short_t3 30 _ rfl l0 l1 l2).mono ?_
    rintro e wx2 ⟨rfl, hbx⟩
    replace g0 := g0.below hbx
    replace g1 := g1.below hbx
    replace g2 := g2.below hbx
    replace hbt := hbt.trans (hbx.mono hbt.size)
    replace HB_x0 := Lib.hid ((hbx.block _ (lt_of_block HB_x0.out)).trans HB_x0.out)
    replace HB_x1 := Lib.hid ((hbx.block _ (lt_of_block HB_x1.out)).trans HB_x1.out)
    replace HB_x2 := Lib.hid ((hbx.block _ (lt_of_block HB_x2.out)).trans HB_x2.out)
    clear hbx
    replace x00 := (two_cells HB_x0.out).1
    replace x01 := (two_cells HB_x0.out).2.1
    replace x10 := (two_cells HB_x1.out).1
    replace x11 := (two_cells HB_x1.out).2.1
    replace x20 := (two_cells HB_x2.out).1
    replace x21 := (two_cells HB_x2.out).2.1
    have hlt_x0 := lt_of_block HB_x0.out
    have hlt_x1 := lt_of_block HB_x1.out
    have hlt_x2 := lt_of_block HB_x2.out
    go_upto_region 5 with fail
    go_cut [7] (fun s7 wx => ∃ g_y1 b_y1 o_y1 l_y1 k_y1, s7 = .pointer (some ⟨g_y1, 0, none⟩) ∧ wx2.heap.size ≤ g_y1 ∧ wx.heap[g_y1]? = some (.cells #[.bool b_y1, .slice o_y1 l_y1 k_y1] 25 (0, 0)) ∧ CI wx (.agg #[.bool b_y1, .slice o_y1 l_y1 k_y1]) (A * (B + C)) 91 ∧ Below wx2.heap.size wx2 wx)
    case first =>
      go_region_held3 (fun w' => w'.cell? ⟨w.heap.size, 0, none⟩ = some (.bool b0) ∧ w'.cell? ⟨w.heap.size, 1, none⟩ = some (.slice o0 n0 m0) ∧ w'.cell? ⟨w.heap.size + 1, 0, none⟩ = some (.bool b1) ∧ w'.cell? ⟨w.heap.size + 1, 1, none⟩ = some (.slice o1 n1 m1) ∧ w'.cell? ⟨w.heap.size + 2, 0, none⟩ = some (.bool b2) ∧ w'.cell? ⟨w.heap.size + 2, 1, none⟩ = some (.slice o2 n2 m2))
        (first | exact ⟨x00, x01, x10, x11, x20, x21⟩ | exact ⟨(far2 (by omega)).trans x00, (far2 (by omega)).trans x01, (far2 (by omega)).trans x10, (far2 (by omega)).trans x11, (far2 (by omega)).trans x20, (far2 (by omega)).trans x21⟩ | go_keep)
        (first
          | (have := tok0; go_at_call 18; refine (wmul_any _ _ A (B + C) 30 61 _ (g0.below (by first | exact Below.refl _ _ | (repeat (first | exact Below.refl _ _ | refine Below.drew ?_ | refine Below.alloc ?_ (by first | exact Nat.le_refl _ | (simp; done) | (simp; omega)) _)))) (c_s.gi.below (by first | exact Below.refl _ _ | (repeat (first | exact Below.refl _ _ | refine Below.drew ?_ | refine Below.alloc ?_ (by first | exact Nat.le_refl _ | (simp; done) | (simp; omega)) _)))) (by omega) (by omega)).mono ?_; rintro e wx4 ⟨v_m, rfl, c_m, hbq⟩; have hbx : Below wx3.heap.size wx3 wx4 := trans2 hbq (by first | exact Below.refl _ _ | (repeat (first | exact Below.refl _ _ | refine Below.drew ?_ | refine Below.alloc ?_ (by first | exact Nat.le_refl _ | (simp; done) | (simp; omega)) _))); (first | (have HL_y1 := Lib.hid ((hbx.block _ (lt_of_block HL_y1.out)).trans HL_y1.out)) | (have hlk := kept_heap (T := 25) hbq; have HL_y1 := Lib.hid hlk) | (have hlk := kept_heap (T := 25) (undrew hbq); have HL_y1 := Lib.hid hlk) | skip); replace g0 := g0.below hbx; replace g1 := g1.below hbx; replace g2 := g2.below hbx; replace c_s := c_s.below hbx; replace hbr := hbr.trans (hbx.mono hbr.size); replace HB_x0 := Lib.hid ((hbx.block _ (lt_of_block HB_x0.out)).trans HB_x0.out); have hlt_x0 := lt_of_block HB_x0.out; replace HB_x1 := Lib.hid ((hbx.block _ (lt_of_block HB_x1.out)).trans HB_x1.out); have hlt_x1 := lt_of_block HB_x1.out; replace HB_x2 := Lib.hid ((hbx.block _ (lt_of_block HB_x2.out)).trans HB_x2.out); have hlt_x2 := lt_of_block HB_x2.out; have hsz1 := hbx.size; clear hbx; replace x00 := (two_cells HB_x0.out).1; replace x01 := (two_cells HB_x0.out).2.1; replace x10 := (two_cells HB_x1.out).1; replace x11 := (two_cells HB_x1.out).2.1; replace x20 := (two_cells HB_x2.out).1; replace x21 := (two_cells HB_x2.out).2.1; (first | (have hl4 := two_cells HL_y1.out; obtain ⟨la_y1, lb_y1, lc_y1, ld_y1⟩ := hl4; (try simp at la_y1 lb_y1 lc_y1 ld_y1)) | skip); obtain ⟨b_m, o_m, l_m, k_m, rfl⟩ := c_m.shape; have tok1 := Lib.hid trivial)
          | (skip; go_at_call 14; refine (wadd_any _ _ B C 30 30 _ (g1.below (by first | exact Below.refl _ _ | (repeat (first | exact Below.refl _ _ | refine Below.drew ?_ | refine Below.alloc ?_ (by first | exact Nat.le_refl _ | (simp; done) | (simp; omega)) _)))) (g2.below (by first | exact Below.refl _ _ | (repeat (first | exact Below.refl _ _ | refine Below.drew ?_ | refine Below.alloc ?_ (by first | exact Nat.le_refl _ | (simp; done) | (simp; omega)) _)))) (by omega) (by omega)).mono ?_; rintro e wx3 ⟨v_s, rfl, c_s, hbq⟩; have hbx : Below wx2.heap.size wx2 wx3 := trans2 hbq (by first | exact Below.refl _ _ | (repeat (first | exact Below.refl _ _ | refine Below.drew ?_ | refine Below.alloc ?_ (by first | exact Nat.le_refl _ | (simp; done) | (simp; omega)) _))); (first | (have HL_y1 := Lib.hid ((hbx.block _ (lt_of_block HL_y1.out)).trans HL_y1.out)) | (have hlk := kept_heap (T := 25) hbq; have HL_y1 := Lib.hid hlk) | (have hlk := kept_heap (T := 25) (undrew hbq); have HL_y1 := Lib.hid hlk) | skip); replace g0 := g0.below hbx; replace g1 := g1.below hbx; replace g2 := g2.below hbx; have hbr := hbx; replace HB_x0 := Lib.hid ((hbx.block _ (lt_of_block HB_x0.out)).trans HB_x0.out); have hlt_x0 := lt_of_block HB_x0.out; replace HB_x1 := Lib.hid ((hbx.block _ (lt_of_block HB_x1.out)).trans HB_x1.out); have hlt_x1 := lt_of_block HB_x1.out; replace HB_x2 := Lib.hid ((hbx.block _ (lt_of_block HB_x2.out)).trans HB_x2.out); have hlt_x2 := lt_of_block HB_x2.out; have hsz0 := hbx.size; clear hbx; replace x00 := (two_cells HB_x0.out).1; replace x01 := (two_cells HB_x0.out).2.1; replace x10 := (two_cells HB_x1.out).1; replace x11 := (two_cells HB_x1.out).2.1; replace x20 := (two_cells HB_x2.out).1; replace x21 := (two_cells HB_x2.out).2.1; (first | (have hl4 := two_cells HL_y1.out; obtain ⟨la_y1, lb_y1, lc_y1, ld_y1⟩ := hl4; (try simp at la_y1 lb_y1 lc_y1 ld_y1)) | skip); obtain ⟨b_s, o_s, l_s, k_s, rfl⟩ := c_s.shape; have tok0 := Lib.hid trivial))
      all_goals
        go_wp2_with fail
        go_meet
        first
          | exact ⟨_, _, _, _, _, rfl, hbr.size, heap_alloc_new _ _, c_m.below ((Below.refl _ _).alloc (Nat.le_refl _) _), hbr.alloc hbr.size _⟩
          | exact ⟨_, _, _, _, _, rfl, by omega, heap_set2 HL_y1.out _ _, c_m.set2 HL_y1.out _ _, below_setg hbr (by omega) _ _⟩
    case rest =>
      obtain ⟨g_y1, b_y1, o_y1, l_y1, k_y1, rfl, hg_y1, hB_y1, c_y1, hbx⟩ := hcut
      obtain ⟨wx5, he⟩ : ∃ x, x = wc := ⟨wc, rfl⟩
      subst he
      clear hlt_x0
      clear hlt_x1
      clear hlt_x2
      have HB_y1 := Lib.hid hB_y1
      clear hB_y1
      have y10 := (two_cells HB_y1.out).1
      have y11 := (two_cells HB_y1.out).2.1
      replace g0 := g0.below hbx
      replace g1 := g1.below hbx
      replace g2 := g2.below hbx
      replace hbt := hbt.trans (hbx.mono hbt.size)
      replace HB_x0 := Lib.hid ((hbx.block _ (lt_of_block HB_x0.out)).trans HB_x0.out)
      replace HB_x1 := Lib.hid ((hbx.block _ (lt_of_block HB_x1.out)).trans HB_x1.out)
      replace HB_x2 := Lib.hid ((hbx.block _ (lt_of_block HB_x2.out)).trans HB_x2.out)
      clear hbx
      replace x00 := (two_cells HB_x0.out).1
      replace x01 := (two_cells HB_x0.out).2.1
      replace x10 := (two_cells HB_x1.out).1
      replace x11 := (two_cells HB_x1.out).2.1
      replace x20 := (two_cells HB_x2.out).1
      replace x21 := (two_cells HB_x2.out).2.1
      have hlt_x0 := lt_of_block HB_x0.out
      have hlt_x1 := lt_of_block HB_x1.out
      have hlt_x2 := lt_of_block HB_x2.out
      have hlt_y1 := lt_of_block HB_y1.out
      go_upto_region 6 with fail
      go_cut [8] (fun s8 wx => ∃ g_y2 b_y2 o_y2 l_y2 k_y2, s8 = .pointer (some ⟨g_y2, 0, none⟩) ∧ wx5.heap.size ≤ g_y2 ∧ wx.heap[g_y2]? = some (.cells #[.bool b_y2, .slice o_y2 l_y2 k_y2] 25 (0, 0)) ∧ CI wx (.agg #[.bool b_y2, .slice o_y2 l_y2 k_y2]) (C * A + A * B) 121 ∧ Below wx5.heap.size wx5 wx)
      case first =>
        go_region_held3 (fun w' => w'.cell? ⟨w.heap.size, 0, none⟩ = some (.bool b0) ∧ w'.cell? ⟨w.heap.size, 1, none⟩ = some (.slice o0 n0 m0) ∧ w'.cell? ⟨w.heap.size + 1, 0, none⟩ = some (.bool b1) ∧ w'.cell? ⟨w.heap.size + 1, 1, none⟩ = some (.slice o1 n1 m1) ∧ w'.cell? ⟨w.heap.size + 2, 0, none⟩ = some (.bool b2) ∧ w'.cell? ⟨w.heap.size + 2, 1, none⟩ = some (.slice o2 n2 m2))
          (first | exact ⟨x00, x01, x10, x11, x20, x21⟩ | exact ⟨(far2 (by omega)).trans x00, (far2 (by omega)).trans x01, (far2 (by omega)).trans x10, (far2 (by omega)).trans x11, (far2 (by omega)).trans x20, (far2 (by omega)).trans x21⟩ | go_keep)
          (first
            | (have := tok1; go_at_call 14; refine (wadd_any _ _ (C * A) (A * B) 60 60 _ (c_p2.gi.below (by first | exact Below.refl _ _ | (repeat (first | exact Below.refl _ _ | refine Below.drew ?_ | refine Below.alloc ?_ (by first | exact Nat.le_refl _ | (simp; done) | (simp; omega)) _)))) (c_q2.gi.below (by first | exact Below.refl _ _ | (repeat (first | exact Below.refl _ _ | refine Below.drew ?_ | refine Below.alloc ?_ (by first | exact Nat.le_refl _ | (simp; done) | (simp; omega)) _)))) (by omega) (by omega)).mono ?_; rintro e wx8 ⟨v_m2, rfl, c_m2, hbq⟩; have hbx : Below wx7.heap.size wx7 wx8 := trans2 hbq (by first | exact Below.refl _ _ | (repeat (first | exact Below.refl _ _ | refine Below.drew ?_ | refine Below.alloc ?_ (by first | exact Nat.le_refl _ | (simp; done) | (simp; omega)) _))); (first | (have HL_y2 := Lib.hid ((hbx.block _ (lt_of_block HL_y2.out)).trans HL_y2.out)) | (have hlk := kept_heap (T := 25) hbq; have HL_y2 := Lib.hid hlk) | (have hlk := kept_heap (T := 25) (undrew hbq); have HL_y2 := Lib.hid hlk) | skip); replace g0 := g0.below hbx; replace g1 := g1.below hbx; replace g2 := g2.below hbx; replace c_y1 := c_y1.below hbx; replace c_p2 := c_p2.below hbx; replace c_q2 := c_q2.below hbx; replace hbr := hbr.trans (hbx.mono hbr.size); replace HB_x0 := Lib.hid ((hbx.block _ (lt_of_block HB_x0.out)).trans HB_x0.out); have hlt_x0 := lt_of_block HB_x0.out; replace HB_x1 := Lib.hid ((hbx.block _ (lt_of_block HB_x1.out)).trans HB_x1.out); have hlt_x1 := lt_of_block HB_x1.out; replace HB_x2 := Lib.hid ((hbx.block _ (lt_of_block HB_x2.out)).trans HB_x2.out); have hlt_x2 := lt_of_block HB_x2.out; replace HB_y1 := Lib.hid ((hbx.block _ (lt_of_block HB_y1.out)).trans HB_y1.out); have hlt_y1 := lt_of_block HB_y1.out; have hsz2 := hbx.size; clear hbx; replace x00 := (two_cells HB_x0.out).1; replace x01 := (two_cells HB_x0.out).2.1; replace x10 := (two_cells HB_x1.out).1; replace x11 := (two_cells HB_x1.out).2.1; replace x20 := (two_cells HB_x2.out).1; replace x21 := (two_cells HB_x2.out).2.1; (first | (have hl4 := two_cells HL_y2.out; obtain ⟨la_y2, lb_y2, lc_y2, ld_y2⟩ := hl4; (try simp at la_y2 lb_y2 lc_y2 ld_y2)) | skip); obtain ⟨b_m2, o_m2, l_m2, k_m2, rfl⟩ := c_m2.shape; have tok2 := Lib.hid trivial)
            | (have := tok0; go_at_call 18; refine (wmul_any _ _ A B 30 30 _ (g0.below (by first | exact Below.refl _ _ | (repeat (first | exact Below.refl _ _ | refine Below.drew ?_ | refine Below.alloc ?_ (by first | exact Nat.le_refl _ | (simp; done) | (simp; omega)) _)))) (g1.below (by first | exact Below.refl _ _ | (repeat (first | exact Below.refl _ _ | refine Below.drew ?_ | refine Below.alloc ?_ (by first | exact Nat.le_refl _ | (simp; done) | (simp; omega)) _)))) (by omega) (by omega)).mono ?_; rintro e wx7 ⟨v_q2, rfl, c_q2, hbq⟩; have hbx : Below wx6.heap.size wx6 wx7 := trans2 hbq (by first | exact Below.refl _ _ | (repeat (first | exact Below.refl _ _ | refine Below.drew ?_ | refine Below.alloc ?_ (by first | exact Nat.le_refl _ | (simp; done) | (simp; omega)) _))); (first | (have HL_y2 := Lib.hid ((hbx.block _ (lt_of_block HL_y2.out)).trans HL_y2.out)) | (have hlk := kept_heap (T := 25) hbq; have HL_y2 := Lib.hid hlk) | (have hlk := kept_heap (T := 25) (undrew hbq); have HL_y2 := Lib.hid hlk) | skip); replace g0 := g0.below hbx; replace g1 := g1.below hbx; replace g2 := g2.below hbx; replace c_y1 := c_y1.below hbx; replace c_p2 := c_p2.below hbx; replace hbr := hbr.trans (hbx.mono hbr.size); replace HB_x0 := Lib.hid ((hbx.block _ (lt_of_block HB_x0.out)).trans HB_x0.out); have hlt_x0 := lt_of_block HB_x0.out; replace HB_x1 := Lib.hid ((hbx.block _ (lt_of_block HB_x1.out)).trans HB_x1.out); have hlt_x1 := lt_of_block HB_x1.out; replace HB_x2 := Lib.hid ((hbx.block _ (lt_of_block HB_x2.out)).trans HB_x2.out); have hlt_x2 := lt_of_block HB_x2.out; replace HB_y1 := Lib.hid ((hbx.block _ (lt_of_block HB_y1.out)).trans HB_y1.out); have hlt_y1 := lt_of_block HB_y1.out; have hsz1 := hbx.size; clear hbx; replace x00 := (two_cells HB_x0.out).1; replace x01 := (two_cells HB_x0.out).2.1; replace x10 := (two_cells HB_x1.out).1; replace x11 := (two_cells HB_x1.out).2.1; replace x20 := (two_cells HB_x2.out).1; replace x21 := (two_cells HB_x2.out).2.1; (first | (have hl4 := two_cells HL_y2.out; obtain ⟨la_y2, lb_y2, lc_y2, ld_y2⟩ := hl4; (try simp at la_y2 lb_y2 lc_y2 ld_y2)) | skip); obtain ⟨b_q2, o_q2, l_q2, k_q2, rfl⟩ := c_q2.shape; have tok1 := Lib.hid trivial)
            | (skip; go_at_call 18; refine (wmul_any _ _ C A 30 30 _ (g2.below (by first | exact Below.refl _ _ | (repeat (first | exact Below.refl _ _ | refine Below.drew ?_ | refine Below.alloc ?_ (by first | exact Nat.le_refl _ | (simp; done) | (simp; omega)) _)))) (g0.below (by first | exact Below.refl _ _ | (repeat (first | exact Below.refl _ _ | refine Below.drew ?_ | refine Below.alloc ?_ (by first | exact Nat.le_refl _ | (simp; done) | (simp; omega)) _)))) (by omega) (by omega)).mono ?_; rintro e wx6 ⟨v_p2, rfl, c_p2, hbq⟩; have hbx : Below wx5.heap.size wx5 wx6 := trans2 hbq (by first | exact Below.refl _ _ | (repeat (first | exact Below.refl _ _ | refine Below.drew ?_ | refine Below.alloc ?_ (by first | exact Nat.le_refl _ | (simp; done) | (simp; omega)) _))); (first | (have HL_y2 := Lib.hid ((hbx.block _ (lt_of_block HL_y2.out)).trans HL_y2.out)) | (have hlk := kept_heap (T := 25) hbq; have HL_y2 := Lib.hid hlk) | (have hlk := kept_heap (T := 25) (undrew hbq); have HL_y2 := Lib.hid hlk) | skip); replace g0 := g0.below hbx; replace g1 := g1.below hbx; replace g2 := g2.below hbx; replace c_y1 := c_y1.below hbx; have hbr := hbx; replace HB_x0 := Lib.hid ((hbx.block _ (lt_of_block HB_x0.out)).trans HB_x0.out); have hlt_x0 := lt_of_block HB_x0.out; replace HB_x1 := Lib.hid ((hbx.block _ (lt_of_block HB_x1.out)).trans HB_x1.out); have hlt_x1 := lt_of_block HB_x1.out; replace HB_x2 := Lib.hid ((hbx.block _ (lt_of_block HB_x2.out)).trans HB_x2.out); have hlt_x2 := lt_of_block HB_x2.out; replace HB_y1 := Lib.hid ((hbx.block _ (lt_of_block HB_y1.out)).trans HB_y1.out); have hlt_y1 := lt_of_block HB_y1.out; have hsz0 := hbx.size; clear hbx; replace x00 := (two_cells HB_x0.out).1; replace x01 := (two_cells HB_x0.out).2.1; replace x10 := (two_cells HB_x1.out).1; replace x11 := (two_cells HB_x1.out).2.1; replace x20 := (two_cells HB_x2.out).1; replace x21 := (two_cells HB_x2.out).2.1; (first | (have hl4 := two_cells HL_y2.out; obtain ⟨la_y2, lb_y2, lc_y2, ld_y2⟩ := hl4; (try simp at la_y2 lb_y2 lc_y2 ld_y2)) | skip); obtain ⟨b_p2, o_p2, l_p2, k_p2, rfl⟩ := c_p2.shape; have tok0 := Lib.hid trivial))
        all_goals
          go_wp2_with fail
          go_meet
          first
            | exact ⟨_, _, _, _, _, rfl, hbr.size, heap_alloc_new _ _, c_m2.below ((Below.refl _ _).alloc (Nat.le_refl _) _), hbr.alloc hbr.size _⟩
            | exact ⟨_, _, _, _, _, rfl, by omega, heap_set2 HL_y2.out _ _, c_m2.set2 HL_y2.out _ _, below_setg hbr (by omega) _ _⟩
      case rest =>
        obtain ⟨g_y2, b_y2, o_y2, l_y2, k_y2, rfl, hg_y2, hB_y2, c_y2, hbx⟩ := hcut
        obtain ⟨wx9, he⟩ : ∃ x, x = wc := ⟨wc, rfl⟩
        subst he
        clear hlt_x0
        clear hlt_x1
        clear hlt_x2
        clear hlt_y1
        have HB_y2 := Lib.hid hB_y2
        clear hB_y2
        have y20 := (two_cells HB_y2.out).1
        have y21 := (two_cells HB_y2.out).2.1
        replace g0 := g0.below hbx
        replace g1 := g1.below hbx
        replace g2 := g2.below hbx
        replace c_y1 := c_y1.below hbx
        replace hbt := hbt.trans (hbx.mono hbt.size)
        replace HB_x0 := Lib.hid ((hbx.block _ (lt_of_block HB_x0.out)).trans HB_x0.out)
        replace HB_x1 := Lib.hid ((hbx.block _ (lt_of_block HB_x1.out)).trans HB_x1.out)
        replace HB_x2 := Lib.hid ((hbx.block _ (lt_of_block HB_x2.out)).trans HB_x2.out)
        replace HB_y1 := Lib.hid ((hbx.block _ (lt_of_block HB_y1.out)).trans HB_y1.out)
        clear hbx
        replace x00 := (two_cells HB_x0.out).1
        replace x01 := (two_cells HB_x0.out).2.1
        replace x10 := (two_cells HB_x1.out).1
        replace x11 := (two_cells HB_x1.out).2.1
        replace x20 := (two_cells HB_x2.out).1
        replace x21 := (two_cells HB_x2.out).2.1
        replace y10 := (two_cells HB_y1.out).1
        replace y11 := (two_cells HB_y1.out).2.1
        have hlt_x0 := lt_of_block HB_x0.out
        have hlt_x1 := lt_of_block HB_x1.out
        have hlt_x2 := lt_of_block HB_x2.out
        have hlt_y1 := lt_of_block HB_y1.out
        have hlt_y2 := lt_of_block HB_y2.out
        go_upto_region 7 with fail
        go_cut [9] (fun s9 wx => ∃ g_y3 b_y3 o_y3 l_y3 k_y3, s9 = .pointer (some ⟨g_y3, 0, none⟩) ∧ wx9.heap.size ≤ g_y3 ∧ wx.heap[g_y3]? = some (.cells #[.bool b_y3, .slice o_y3 l_y3 k_y3] 25 (0, 0)) ∧ CI wx (.agg #[.bool b_y3, .slice o_y3 l_y3 k_y3]) (A - B + (B + C)) 123 ∧ Below wx9.heap.size wx9 wx)
        case first =>
          go_region_held3 (fun w' => w'.cell? ⟨w.heap.size, 0, none⟩ = some (.bool b0) ∧ w'.cell? ⟨w.heap.size, 1, none⟩ = some (.slice o0 n0 m0) ∧ w'.cell? ⟨w.heap.size + 1, 0, none⟩ = some (.bool b1) ∧ w'.cell? ⟨w.heap.size + 1, 1, none⟩ = some (.slice o1 n1 m1) ∧ w'.cell? ⟨w.heap.size + 2, 0, none⟩ = some (.bool b2) ∧ w'.cell? ⟨w.heap.size + 2, 1, none⟩ = some (.slice o2 n2 m2))
            (first | exact ⟨x00, x01, x10, x11, x20, x21⟩ | exact ⟨(far2 (by omega)).trans x00, (far2 (by omega)).trans x01, (far2 (by omega)).trans x10, (far2 (by omega)).trans x11, (far2 (by omega)).trans x20, (far2 (by omega)).trans x21⟩ | go_keep)
            (first
              | (have := tok1; go_at_call 14; refine (wadd_any _ _ (A - B) (B + C) 61 61 _ (c_p3.gi.below (by first | exact Below.refl _ _ | (repeat (first | exact Below.refl _ _ | refine Below.drew ?_ | refine Below.alloc ?_ (by first | exact Nat.le_refl _ | (simp; done) | (simp; omega)) _)))) (c_q3.gi.below (by first | exact Below.refl _ _ | (repeat (first | exact Below.refl _ _ | refine Below.drew ?_ | refine Below.alloc ?_ (by first | exact Nat.le_refl _ | (simp; done) | (simp; omega)) _)))) (by omega) (by omega)).mono ?_; rintro e wx12 ⟨v_m3, rfl, c_m3, hbq⟩; have hbx : Below wx11.heap.size wx11 wx12 := trans2 hbq (by first | exact Below.refl _ _ | (repeat (first | exact Below.refl _ _ | refine Below.drew ?_ | refine Below.alloc ?_ (by first | exact Nat.le_refl _ | (simp; done) | (simp; omega)) _))); (first | (have HL_y3 := Lib.hid ((hbx.block _ (lt_of_block HL_y3.out)).trans HL_y3.out)) | (have hlk := kept_heap (T := 25) hbq; have HL_y3 := Lib.hid hlk) | (have hlk := kept_heap (T := 25) (undrew hbq); have HL_y3 := Lib.hid hlk) | skip); replace g0 := g0.below hbx; replace g1 := g1.below hbx; replace g2 := g2.below hbx; replace c_y1 := c_y1.below hbx; replace c_y2 := c_y2.below hbx; replace c_p3 := c_p3.below hbx; replace c_q3 := c_q3.below hbx; replace hbr := hbr.trans (hbx.mono hbr.size); replace HB_x0 := Lib.hid ((hbx.block _ (lt_of_block HB_x0.out)).trans HB_x0.out); have hlt_x0 := lt_of_block HB_x0.out; replace HB_x1 := Lib.hid ((hbx.block _ (lt_of_block HB_x1.out)).trans HB_x1.out); have hlt_x1 := lt_of_block HB_x1.out; replace HB_x2 := Lib.hid ((hbx.block _ (lt_of_block HB_x2.out)).trans HB_x2.out); have hlt_x2 := lt_of_block HB_x2.out; replace HB_y1 := Lib.hid ((hbx.block _ (lt_of_block HB_y1.out)).trans HB_y1.out); have hlt_y1 := lt_of_block HB_y1.out; replace HB_y2 := Lib.hid ((hbx.block _ (lt_of_block HB_y2.out)).trans HB_y2.out); have hlt_y2 := lt_of_block HB_y2.out; have hsz2 := hbx.size; clear hbx; replace x00 := (two_cells HB_x0.out).1; replace x01 := (two_cells HB_x0.out).2.1; replace x10 := (two_cells HB_x1.out).1; replace x11 := (two_cells HB_x1.out).2.1; replace x20 := (two_cells HB_x2.out).1; replace x21 := (two_cells HB_x2.out).2.1; (first | (have hl4 := two_cells HL_y3.out; obtain ⟨la_y3, lb_y3, lc_y3, ld_y3⟩ := hl4; (try simp at la_y3 lb_y3 lc_y3 ld_y3)) | skip); obtain ⟨b_m3, o_m3, l_m3, k_m3, rfl⟩ := c_m3.shape; have tok2 := Lib.hid trivial)
              | (have := tok0; go_at_call 14; refine (wadd_any _ _ B C 30 30 _ (g1.below (by first | exact Below.refl _ _ | (repeat (first | exact Below.refl _ _ | refine Below.drew ?_ | refine Below.alloc ?_ (by first | exact Nat.le_refl _ | (simp; done) | (simp; omega)) _)))) (g2.below (by first | exact Below.refl _ _ | (repeat (first | exact Below.refl _ _ | refine Below.drew ?_ | refine Below.alloc ?_ (by first | exact Nat.le_refl _ | (simp; done) | (simp; omega)) _)))) (by omega) (by omega)).mono ?_; rintro e wx11 ⟨v_q3, rfl, c_q3, hbq⟩; have hbx : Below wx10.heap.size wx10 wx11 := trans2 hbq (by first | exact Below.refl _ _ | (repeat (first | exact Below.refl _ _ | refine Below.drew ?_ | refine Below.alloc ?_ (by first | exact Nat.le_refl _ | (simp; done) | (simp; omega)) _))); (first | (have HL_y3 := Lib.hid ((hbx.block _ (lt_of_block HL_y3.out)).trans HL_y3.out)) | (have hlk := kept_heap (T := 25) hbq; have HL_y3 := Lib.hid hlk) | (have hlk := kept_heap (T := 25) (undrew hbq); have HL_y3 := Lib.hid hlk) | skip); replace g0 := g0.below hbx; replace g1 := g1.below hbx; replace g2 := g2.below hbx; replace c_y1 := c_y1.below hbx; replace c_y2 := c_y2.below hbx; replace c_p3 := c_p3.below hbx; replace hbr := hbr.trans (hbx.mono hbr.size); replace HB_x0 := Lib.hid ((hbx.block _ (lt_of_block HB_x0.out)).trans HB_x0.out); have hlt_x0 := lt_of_block HB_x0.out; replace HB_x1 := Lib.hid ((hbx.block _ (lt_of_block HB_x1.out)).trans HB_x1.out); have hlt_x1 := lt_of_block HB_x1.out; replace HB_x2 := Lib.hid ((hbx.block _ (lt_of_block HB_x2.out)).trans HB_x2.out); have hlt_x2 := lt_of_block HB_x2.out; replace HB_y1 := Lib.hid ((hbx.block _ (lt_of_block HB_y1.out)).trans HB_y1.out); have hlt_y1 := lt_of_block HB_y1.out; replace HB_y2 := Lib.hid ((hbx.block _ (lt_of_block HB_y2.out)).trans HB_y2.out); have hlt_y2 := lt_of_block HB_y2.out; have hsz1 := hbx.size; clear hbx; replace x00 := (two_cells HB_x0.out).1; replace x01 := (two_cells HB_x0.out).2.1; replace x10 := (two_cells HB_x1.out).1; replace x11 := (two_cells HB_x1.out).2.1; replace x20 := (two_cells HB_x2.out).1; replace x21 := (two_cells HB_x2.out).2.1; (first | (have hl4 := two_cells HL_y3.out; obtain ⟨la_y3, lb_y3, lc_y3, ld_y3⟩ := hl4; (try simp at la_y3 lb_y3 lc_y3 ld_y3)) | skip); obtain ⟨b_q3, o_q3, l_q3, k_q3, rfl⟩ := c_q3.shape; have tok1 := Lib.hid trivial)
              | (skip; go_at_call 16; refine (wsub_any _ _ A B 30 30 _ (g0.below (by first | exact Below.refl _ _ | (repeat (first | exact Below.refl _ _ | refine Below.drew ?_ | refine Below.alloc ?_ (by first | exact Nat.le_refl _ | (simp; done) | (simp; omega)) _)))) (g1.below (by first | exact Below.refl _ _ | (repeat (first | exact Below.refl _ _ | refine Below.drew ?_ | refine Below.alloc ?_ (by first | exact Nat.le_refl _ | (simp; done) | (simp; omega)) _)))) (by omega) (by omega)).mono ?_; rintro e wx10 ⟨v_p3, rfl, c_p3, hbq⟩; have hbx : Below wx9.heap.size wx9 wx10 := trans2 hbq (by first | exact Below.refl _ _ | (repeat (first | exact Below.refl _ _ | refine Below.drew ?_ | refine Below.alloc ?_ (by first | exact Nat.le_refl _ | (simp; done) | (simp; omega)) _))); (first | (have HL_y3 := Lib.hid ((hbx.block _ (lt_of_block HL_y3.out)).trans HL_y3.out)) | (have hlk := kept_heap (T := 25) hbq; have HL_y3 := Lib.hid hlk) | (have hlk := kept_heap (T := 25) (undrew hbq); have HL_y3 := Lib.hid hlk) | skip); replace g0 := g0.below hbx; replace g1 := g1.below hbx; replace g2 := g2.below hbx; replace c_y1 := c_y1.below hbx; replace c_y2 := c_y2.below hbx; have hbr := hbx; replace HB_x0 := Lib.hid ((hbx.block _ (lt_of_block HB_x0.out)).trans HB_x0.out); have hlt_x0 := lt_of_block HB_x0.out; replace HB_x1 := Lib.hid ((hbx.block _ (lt_of_block HB_x1.out)).trans HB_x1.out); have hlt_x1 := lt_of_block HB_x1.out; replace HB_x2 := Lib.hid ((hbx.block _ (lt_of_block HB_x2.out)).trans HB_x2.out); have hlt_x2 := lt_of_block HB_x2.out; replace HB_y1 := Lib.hid ((hbx.block _ (lt_of_block HB_y1.out)).trans HB_y1.out); have hlt_y1 := lt_of_block HB_y1.out; replace HB_y2 := Lib.hid ((hbx.block _ (lt_of_block HB_y2.out)).trans HB_y2.out); have hlt_y2 := lt_of_block HB_y2.out; have hsz0 := hbx.size; clear hbx; replace x00 := (two_cells HB_x0.out).1; replace x01 := (two_cells HB_x0.out).2.1; replace x10 := (two_cells HB_x1.out).1; replace x11 := (two_cells HB_x1.out).2.1; replace x20 := (two_cells HB_x2.out).1; replace x21 := (two_cells HB_x2.out).2.1; (first | (have hl4 := two_cells HL_y3.out; obtain ⟨la_y3, lb_y3, lc_y3, ld_y3⟩ := hl4; (try simp at la_y3 lb_y3 lc_y3 ld_y3)) | skip); obtain ⟨b_p3, o_p3, l_p3, k_p3, rfl⟩ := c_p3.shape; have tok0 := Lib.hid trivial))
          all_goals
            go_wp2_with fail
            go_meet
            first
              | exact ⟨_, _, _, _, _, rfl, hbr.size, heap_alloc_new _ _, c_m3.below ((Below.refl _ _).alloc (Nat.le_refl _) _), hbr.alloc hbr.size _⟩
              | exact ⟨_, _, _, _, _, rfl, by omega, heap_set2 HL_y3.out _ _, c_m3.set2 HL_y3.out _ _, below_setg hbr (by omega) _ _⟩
        case rest =>
          obtain ⟨g_y3, b_y3, o_y3, l_y3, k_y3, rfl, hg_y3, hB_y3, c_y3, hbx⟩ := hcut
          obtain ⟨wx13, he⟩ : ∃ x, x = wc := ⟨wc, rfl⟩
          subst he
          clear hlt_x0
          clear hlt_x1
          clear hlt_x2
          clear hlt_y1
          clear hlt_y2
          have HB_y3 := Lib.hid hB_y3
          clear hB_y3
          have y30 := (two_cells HB_y3.out).1
          have y31 := (two_cells HB_y3.out).2.1
          replace g0 := g0.below hbx
          replace g1 := g1.below hbx
          replace g2 := g2.below hbx
          replace c_y1 := c_y1.below hbx
          replace c_y2 := c_y2.below hbx
          replace hbt := hbt.trans (hbx.mono hbt.size)
          replace HB_x0 := Lib.hid ((hbx.block _ (lt_of_block HB_x0.out)).trans HB_x0.out)
          replace HB_x1 := Lib.hid ((hbx.block _ (lt_of_block HB_x1.out)).trans HB_x1.out)
          replace HB_x2 := Lib.hid ((hbx.block _ (lt_of_block HB_x2.out)).trans HB_x2.out)
          replace HB_y1 := Lib.hid ((hbx.block _ (lt_of_block HB_y1.out)).trans HB_y1.out)
          replace HB_y2 := Lib.hid ((hbx.block _ (lt_of_block HB_y2.out)).trans HB_y2.out)
          clear hbx
          replace x00 := (two_cells HB_x0.out).1
          replace x01 := (two_cells HB_x0.out).2.1
          replace x10 := (two_cells HB_x1.out).1
          replace x11 := (two_cells HB_x1.out).2.1
          replace x20 := (two_cells HB_x2.out).1
          replace x21 := (two_cells HB_x2.out).2.1
          replace y10 := (two_cells HB_y1.out).1
          replace y11 := (two_cells HB_y1.out).2.1
          replace y20 := (two_cells HB_y2.out).1
          replace y21 := (two_cells HB_y2.out).2.1
          go_wp2_with fail
          go_region_held3 (fun w' => w'.cell? ⟨w.heap.size, 0, none⟩ = some (.bool b0) ∧ w'.cell? ⟨w.heap.size, 1, none⟩ = some (.slice o0 n0 m0) ∧ w'.cell? ⟨w.heap.size + 1, 0, none⟩ = some (.bool b1) ∧ w'.cell? ⟨w.heap.size + 1, 1, none⟩ = some (.slice o1 n1 m1) ∧ w'.cell? ⟨w.heap.size + 2, 0, none⟩ = some (.bool b2) ∧ w'.cell? ⟨w.heap.size + 2, 1, none⟩ = some (.slice o2 n2 m2) ∧ w'.cell? ⟨g_y1, 0, none⟩ = some (.bool b_y1) ∧ w'.cell? ⟨g_y1, 1, none⟩ = some (.slice o_y1 l_y1 k_y1) ∧ w'.cell? ⟨g_y2, 0, none⟩ = some (.bool b_y2) ∧ w'.cell? ⟨g_y2, 1, none⟩ = some (.slice o_y2 l_y2 k_y2) ∧ w'.cell? ⟨g_y3, 0, none⟩ = some (.bool b_y3) ∧ w'.cell? ⟨g_y3, 1, none⟩ = some (.slice o_y3 l_y3 k_y3))
            (first | exact ⟨x00, x01, x10, x11, x20, x21, y10, y11, y20, y21, y30, y31⟩ | go_keep)
            (first
              | (have := tok8; go_at_call 23; refine (wsign_s _ (A - A) _ 0 _ c_aa.gi HS0.out (by omega)).mono ?_; rintro e wx23 ⟨rfl, hbx⟩; replace g0 := g0.below hbx; replace g1 := g1.below hbx; replace g2 := g2.below hbx; replace c_y1 := c_y1.below hbx; replace c_y2 := c_y2.below hbx; replace c_y3 := c_y3.below hbx; replace c_ca := c_ca.below hbx; replace c_ab := c_ab.below hbx; replace c_abc := c_abc.below hbx; replace c_ca2 := c_ca2.below hbx; replace c_bca := c_bca.below hbx; replace c_aa := c_aa.below hbx; replace hbt := hbt.trans (hbx.mono hbt.size); replace HB_x0 := Lib.hid ((hbx.block _ (lt_of_block HB_x0.out)).trans HB_x0.out); replace HB_x1 := Lib.hid ((hbx.block _ (lt_of_block HB_x1.out)).trans HB_x1.out); replace HB_x2 := Lib.hid ((hbx.block _ (lt_of_block HB_x2.out)).trans HB_x2.out); replace HB_y1 := Lib.hid ((hbx.block _ (lt_of_block HB_y1.out)).trans HB_y1.out); replace HB_y2 := Lib.hid ((hbx.block _ (lt_of_block HB_y2.out)).trans HB_y2.out); replace HB_y3 := Lib.hid ((hbx.block _ (lt_of_block HB_y3.out)).trans HB_y3.out); clear hbx; replace x00 := (two_cells HB_x0.out).1; replace x01 := (two_cells HB_x0.out).2.1; replace x10 := (two_cells HB_x1.out).1; replace x11 := (two_cells HB_x1.out).2.1; replace x20 := (two_cells HB_x2.out).1; replace x21 := (two_cells HB_x2.out).2.1; replace y10 := (two_cells HB_y1.out).1; replace y11 := (two_cells HB_y1.out).2.1; replace y20 := (two_cells HB_y2.out).1; replace y21 := (two_cells HB_y2.out).2.1; replace y30 := (two_cells HB_y3.out).1; replace y31 := (two_cells HB_y3.out).2.1; have tok9 := Lib.hid trivial)
              | (have := tok7; go_at_call 16; refine (wsub_any _ _ A A 30 30 _ g0 g0 (by omega) (by omega)).mono ?_; rintro e wx22 ⟨v_aa, rfl, c_aa, hbx⟩; replace g0 := g0.below hbx; replace g1 := g1.below hbx; replace g2 := g2.below hbx; replace c_y1 := c_y1.below hbx; replace c_y2 := c_y2.below hbx; replace c_y3 := c_y3.below hbx; replace c_ca := c_ca.below hbx; replace c_ab := c_ab.below hbx; replace c_abc := c_abc.below hbx; replace c_ca2 := c_ca2.below hbx; replace c_bca := c_bca.below hbx; replace hbt := hbt.trans (hbx.mono hbt.size); replace HB_x0 := Lib.hid ((hbx.block _ (lt_of_block HB_x0.out)).trans HB_x0.out); replace HB_x1 := Lib.hid ((hbx.block _ (lt_of_block HB_x1.out)).trans HB_x1.out); replace HB_x2 := Lib.hid ((hbx.block _ (lt_of_block HB_x2.out)).trans HB_x2.out); replace HB_y1 := Lib.hid ((hbx.block _ (lt_of_block HB_y1.out)).trans HB_y1.out); replace HB_y2 := Lib.hid ((hbx.block _ (lt_of_block HB_y2.out)).trans HB_y2.out); replace HB_y3 := Lib.hid ((hbx.block _ (lt_of_block HB_y3.out)).trans HB_y3.out); clear hbx; replace x00 := (two_cells HB_x0.out).1; replace x01 := (two_cells HB_x0.out).2.1; replace x10 := (two_cells HB_x1.out).1; replace x11 := (two_cells HB_x1.out).2.1; replace x20 := (two_cells HB_x2.out).1; replace x21 := (two_cells HB_x2.out).2.1; replace y10 := (two_cells HB_y1.out).1; replace y11 := (two_cells HB_y1.out).2.1; replace y20 := (two_cells HB_y2.out).1; replace y21 := (two_cells HB_y2.out).2.1; replace y30 := (two_cells HB_y3.out).1; replace y31 := (two_cells HB_y3.out).2.1; obtain ⟨b_aa, o_aa, l_aa, k_aa, rfl⟩ := c_aa.shape; have tok8 := Lib.hid trivial)
              | (have := tok6; go_at_call 25; refine (same_true _ _ (A * B * C) 90 90 _ c_abc (c_bca.to H4.out) (by omega) (by omega)).mono ?_; rintro e wx21 ⟨rfl, hbx⟩; replace g0 := g0.below hbx; replace g1 := g1.below hbx; replace g2 := g2.below hbx; replace c_y1 := c_y1.below hbx; replace c_y2 := c_y2.below hbx; replace c_y3 := c_y3.below hbx; replace c_ca := c_ca.below hbx; replace c_ab := c_ab.below hbx; replace c_abc := c_abc.below hbx; replace c_ca2 := c_ca2.below hbx; replace c_bca := c_bca.below hbx; replace hbt := hbt.trans (hbx.mono hbt.size); replace HB_x0 := Lib.hid ((hbx.block _ (lt_of_block HB_x0.out)).trans HB_x0.out); replace HB_x1 := Lib.hid ((hbx.block _ (lt_of_block HB_x1.out)).trans HB_x1.out); replace HB_x2 := Lib.hid ((hbx.block _ (lt_of_block HB_x2.out)).trans HB_x2.out); replace HB_y1 := Lib.hid ((hbx.block _ (lt_of_block HB_y1.out)).trans HB_y1.out); replace HB_y2 := Lib.hid ((hbx.block _ (lt_of_block HB_y2.out)).trans HB_y2.out); replace HB_y3 := Lib.hid ((hbx.block _ (lt_of_block HB_y3.out)).trans HB_y3.out); clear hbx; replace x00 := (two_cells HB_x0.out).1; replace x01 := (two_cells HB_x0.out).2.1; replace x10 := (two_cells HB_x1.out).1; replace x11 := (two_cells HB_x1.out).2.1; replace x20 := (two_cells HB_x2.out).1; replace x21 := (two_cells HB_x2.out).2.1; replace y10 := (two_cells HB_y1.out).1; replace y11 := (two_cells HB_y1.out).2.1; replace y20 := (two_cells HB_y2.out).1; replace y21 := (two_cells HB_y2.out).2.1; replace y30 := (two_cells HB_y3.out).1; replace y31 := (two_cells HB_y3.out).2.1; have tok7 := Lib.hid trivial)
              | (have := tok5; go_at_call 18; refine (wmul_any _ _ B (C * A) 30 60 _ g1 c_ca2.gi (by omega) (by omega)).mono ?_; rintro e wx20 ⟨v_bca, rfl, c_bca, hbx⟩; replace g0 := g0.below hbx; replace g1 := g1.below hbx; replace g2 := g2.below hbx; replace c_y1 := c_y1.below hbx; replace c_y2 := c_y2.below hbx; replace c_y3 := c_y3.below hbx; replace c_ca := c_ca.below hbx; replace c_ab := c_ab.below hbx; replace c_abc := c_abc.below hbx; replace c_ca2 := c_ca2.below hbx; replace hbt := hbt.trans (hbx.mono hbt.size); replace HB_x0 := Lib.hid ((hbx.block _ (lt_of_block HB_x0.out)).trans HB_x0.out); replace HB_x1 := Lib.hid ((hbx.block _ (lt_of_block HB_x1.out)).trans HB_x1.out); replace HB_x2 := Lib.hid ((hbx.block _ (lt_of_block HB_x2.out)).trans HB_x2.out); replace HB_y1 := Lib.hid ((hbx.block _ (lt_of_block HB_y1.out)).trans HB_y1.out); replace HB_y2 := Lib.hid ((hbx.block _ (lt_of_block HB_y2.out)).trans HB_y2.out); replace HB_y3 := Lib.hid ((hbx.block _ (lt_of_block HB_y3.out)).trans HB_y3.out); clear hbx; replace x00 := (two_cells HB_x0.out).1; replace x01 := (two_cells HB_x0.out).2.1; replace x10 := (two_cells HB_x1.out).1; replace x11 := (two_cells HB_x1.out).2.1; replace x20 := (two_cells HB_x2.out).1; replace x21 := (two_cells HB_x2.out).2.1; replace y10 := (two_cells HB_y1.out).1; replace y11 := (two_cells HB_y1.out).2.1; replace y20 := (two_cells HB_y2.out).1; replace y21 := (two_cells HB_y2.out).2.1; replace y30 := (two_cells HB_y3.out).1; replace y31 := (two_cells HB_y3.out).2.1; obtain ⟨b_bca, o_bca, l_bca, k_bca, rfl⟩ := c_bca.shape; have tok6 := Lib.hid trivial)
              | (have := tok4; go_at_call 18; refine (wmul_any _ _ C A 30 30 _ g2 g0 (by omega) (by omega)).mono ?_; rintro e wx19 ⟨v_ca2, rfl, c_ca2, hbx⟩; replace g0 := g0.below hbx; replace g1 := g1.below hbx; replace g2 := g2.below hbx; replace c_y1 := c_y1.below hbx; replace c_y2 := c_y2.below hbx; replace c_y3 := c_y3.below hbx; replace c_ca := c_ca.below hbx; replace c_ab := c_ab.below hbx; replace c_abc := c_abc.below hbx; replace hbt := hbt.trans (hbx.mono hbt.size); replace HB_x0 := Lib.hid ((hbx.block _ (lt_of_block HB_x0.out)).trans HB_x0.out); replace HB_x1 := Lib.hid ((hbx.block _ (lt_of_block HB_x1.out)).trans HB_x1.out); replace HB_x2 := Lib.hid ((hbx.block _ (lt_of_block HB_x2.out)).trans HB_x2.out); replace HB_y1 := Lib.hid ((hbx.block _ (lt_of_block HB_y1.out)).trans HB_y1.out); replace HB_y2 := Lib.hid ((hbx.block _ (lt_of_block HB_y2.out)).trans HB_y2.out); replace HB_y3 := Lib.hid ((hbx.block _ (lt_of_block HB_y3.out)).trans HB_y3.out); clear hbx; replace x00 := (two_cells HB_x0.out).1; replace x01 := (two_cells HB_x0.out).2.1; replace x10 := (two_cells HB_x1.out).1; replace x11 := (two_cells HB_x1.out).2.1; replace x20 := (two_cells HB_x2.out).1; replace x21 := (two_cells HB_x2.out).2.1; replace y10 := (two_cells HB_y1.out).1; replace y11 := (two_cells HB_y1.out).2.1; replace y20 := (two_cells HB_y2.out).1; replace y21 := (two_cells HB_y2.out).2.1; replace y30 := (two_cells HB_y3.out).1; replace y31 := (two_cells HB_y3.out).2.1; obtain ⟨b_ca2, o_ca2, l_ca2, k_ca2, rfl⟩ := c_ca2.shape; have tok5 := Lib.hid trivial)
              | (have := tok3; go_at_call 18; refine (wmul_any _ _ (A * B) C 60 30 _ c_ab.gi g2 (by omega) (by omega)).mono ?_; rintro e wx18 ⟨v_abc, rfl, c_abc, hbx⟩; replace g0 := g0.below hbx; replace g1 := g1.below hbx; replace g2 := g2.below hbx; replace c_y1 := c_y1.below hbx; replace c_y2 := c_y2.below hbx; replace c_y3 := c_y3.below hbx; replace c_ca := c_ca.below hbx; replace c_ab := c_ab.below hbx; replace hbt := hbt.trans (hbx.mono hbt.size); replace HB_x0 := Lib.hid ((hbx.block _ (lt_of_block HB_x0.out)).trans HB_x0.out); replace HB_x1 := Lib.hid ((hbx.block _ (lt_of_block HB_x1.out)).trans HB_x1.out); replace HB_x2 := Lib.hid ((hbx.block _ (lt_of_block HB_x2.out)).trans HB_x2.out); replace HB_y1 := Lib.hid ((hbx.block _ (lt_of_block HB_y1.out)).trans HB_y1.out); replace HB_y2 := Lib.hid ((hbx.block _ (lt_of_block HB_y2.out)).trans HB_y2.out); replace HB_y3 := Lib.hid ((hbx.block _ (lt_of_block HB_y3.out)).trans HB_y3.out); clear hbx; replace x00 := (two_cells HB_x0.out).1; replace x01 := (two_cells HB_x0.out).2.1; replace x10 := (two_cells HB_x1.out).1; replace x11 := (two_cells HB_x1.out).2.1; replace x20 := (two_cells HB_x2.out).1; replace x21 := (two_cells HB_x2.out).2.1; replace y10 := (two_cells HB_y1.out).1; replace y11 := (two_cells HB_y1.out).2.1; replace y20 := (two_cells HB_y2.out).1; replace y21 := (two_cells HB_y2.out).2.1; replace y30 := (two_cells HB_y3.out).1; replace y31 := (two_cells HB_y3.out).2.1; obtain ⟨b_abc, o_abc, l_abc, k_abc, rfl⟩ := c_abc.shape; have tok4 := Lib.hid trivial)
              | (have := tok2; go_at_call 18; refine (wmul_any _ _ A B 30 30 _ g0 g1 (by omega) (by omega)).mono ?_; rintro e wx17 ⟨v_ab, rfl, c_ab, hbx⟩; replace g0 := g0.below hbx; replace g1 := g1.below hbx; replace g2 := g2.below hbx; replace c_y1 := c_y1.below hbx; replace c_y2 := c_y2.below hbx; replace c_y3 := c_y3.below hbx; replace c_ca := c_ca.below hbx; replace hbt := hbt.trans (hbx.mono hbt.size); replace HB_x0 := Lib.hid ((hbx.block _ (lt_of_block HB_x0.out)).trans HB_x0.out); replace HB_x1 := Lib.hid ((hbx.block _ (lt_of_block HB_x1.out)).trans HB_x1.out); replace HB_x2 := Lib.hid ((hbx.block _ (lt_of_block HB_x2.out)).trans HB_x2.out); replace HB_y1 := Lib.hid ((hbx.block _ (lt_of_block HB_y1.out)).trans HB_y1.out); replace HB_y2 := Lib.hid ((hbx.block _ (lt_of_block HB_y2.out)).trans HB_y2.out); replace HB_y3 := Lib.hid ((hbx.block _ (lt_of_block HB_y3.out)).trans HB_y3.out); clear hbx; replace x00 := (two_cells HB_x0.out).1; replace x01 := (two_cells HB_x0.out).2.1; replace x10 := (two_cells HB_x1.out).1; replace x11 := (two_cells HB_x1.out).2.1; replace x20 := (two_cells HB_x2.out).1; replace x21 := (two_cells HB_x2.out).2.1; replace y10 := (two_cells HB_y1.out).1; replace y11 := (two_cells HB_y1.out).2.1; replace y20 := (two_cells HB_y2.out).1; replace y21 := (two_cells HB_y2.out).2.1; replace y30 := (two_cells HB_y3.out).1; replace y31 := (two_cells HB_y3.out).2.1; obtain ⟨b_ab, o_ab, l_ab, k_ab, rfl⟩ := c_ab.shape; have tok3 := Lib.hid trivial)
              | (have := tok1; go_at_call 25; refine (same_true _ _ (A - B + (B + C)) 123 61 _ c_y3 (c_ca.to H3.out) (by omega) (by omega)).mono ?_; rintro e wx16 ⟨rfl, hbx⟩; replace g0 := g0.below hbx; replace g1 := g1.below hbx; replace g2 := g2.below hbx; replace c_y1 := c_y1.below hbx; replace c_y2 := c_y2.below hbx; replace c_y3 := c_y3.below hbx; replace c_ca := c_ca.below hbx; replace hbt := hbt.trans (hbx.mono hbt.size); replace HB_x0 := Lib.hid ((hbx.block _ (lt_of_block HB_x0.out)).trans HB_x0.out); replace HB_x1 := Lib.hid ((hbx.block _ (lt_of_block HB_x1.out)).trans HB_x1.out); replace HB_x2 := Lib.hid ((hbx.block _ (lt_of_block HB_x2.out)).trans HB_x2.out); replace HB_y1 := Lib.hid ((hbx.block _ (lt_of_block HB_y1.out)).trans HB_y1.out); replace HB_y2 := Lib.hid ((hbx.block _ (lt_of_block HB_y2.out)).trans HB_y2.out); replace HB_y3 := Lib.hid ((hbx.block _ (lt_of_block HB_y3.out)).trans HB_y3.out); clear hbx; replace x00 := (two_cells HB_x0.out).1; replace x01 := (two_cells HB_x0.out).2.1; replace x10 := (two_cells HB_x1.out).1; replace x11 := (two_cells HB_x1.out).2.1; replace x20 := (two_cells HB_x2.out).1; replace x21 := (two_cells HB_x2.out).2.1; replace y10 := (two_cells HB_y1.out).1; replace y11 := (two_cells HB_y1.out).2.1; replace y20 := (two_cells HB_y2.out).1; replace y21 := (two_cells HB_y2.out).2.1; replace y30 := (two_cells HB_y3.out).1; replace y31 := (two_cells HB_y3.out).2.1; have tok2 := Lib.hid trivial)
              | (have := tok0; go_at_call 14; refine (wadd_any _ _ C A 30 30 _ g2 g0 (by omega) (by omega)).mono ?_; rintro e wx15 ⟨v_ca, rfl, c_ca, hbx⟩; replace g0 := g0.below hbx; replace g1 := g1.below hbx; replace g2 := g2.below hbx; replace c_y1 := c_y1.below hbx; replace c_y2 := c_y2.below hbx; replace c_y3 := c_y3.below hbx; replace hbt := hbt.trans (hbx.mono hbt.size); replace HB_x0 := Lib.hid ((hbx.block _ (lt_of_block HB_x0.out)).trans HB_x0.out); replace HB_x1 := Lib.hid ((hbx.block _ (lt_of_block HB_x1.out)).trans HB_x1.out); replace HB_x2 := Lib.hid ((hbx.block _ (lt_of_block HB_x2.out)).trans HB_x2.out); replace HB_y1 := Lib.hid ((hbx.block _ (lt_of_block HB_y1.out)).trans HB_y1.out); replace HB_y2 := Lib.hid ((hbx.block _ (lt_of_block HB_y2.out)).trans HB_y2.out); replace HB_y3 := Lib.hid ((hbx.block _ (lt_of_block HB_y3.out)).trans HB_y3.out); clear hbx; replace x00 := (two_cells HB_x0.out).1; replace x01 := (two_cells HB_x0.out).2.1; replace x10 := (two_cells HB_x1.out).1; replace x11 := (two_cells HB_x1.out).2.1; replace x20 := (two_cells HB_x2.out).1; replace x21 := (two_cells HB_x2.out).2.1; replace y10 := (two_cells HB_y1.out).1; replace y11 := (two_cells HB_y1.out).2.1; replace y20 := (two_cells HB_y2.out).1; replace y21 := (two_cells HB_y2.out).2.1; replace y30 := (two_cells HB_y3.out).1; replace y31 := (two_cells HB_y3.out).2.1; obtain ⟨b_ca, o_ca, l_ca, k_ca, rfl⟩ := c_ca.shape; have tok1 := Lib.hid trivial)
              | (skip; go_at_call 25; refine (same_true _ _ (A * (B + C)) 91 121 _ c_y1.drew (c_y2.drew.to H12.out) (by omega) (by omega)).mono ?_; rintro e wx14 ⟨rfl, hbx'⟩; have hbx := undrew hbx'; clear hbx'; replace g0 := g0.below hbx; replace g1 := g1.below hbx; replace g2 := g2.below hbx; replace c_y1 := c_y1.below hbx; replace c_y2 := c_y2.below hbx; replace c_y3 := c_y3.below hbx; replace hbt := hbt.trans (hbx.mono hbt.size); replace HB_x0 := Lib.hid ((hbx.block _ (lt_of_block HB_x0.out)).trans HB_x0.out); replace HB_x1 := Lib.hid ((hbx.block _ (lt_of_block HB_x1.out)).trans HB_x1.out); replace HB_x2 := Lib.hid ((hbx.block _ (lt_of_block HB_x2.out)).trans HB_x2.out); replace HB_y1 := Lib.hid ((hbx.block _ (lt_of_block HB_y1.out)).trans HB_y1.out); replace HB_y2 := Lib.hid ((hbx.block _ (lt_of_block HB_y2.out)).trans HB_y2.out); replace HB_y3 := Lib.hid ((hbx.block _ (lt_of_block HB_y3.out)).trans HB_y3.out); clear hbx; replace x00 := (two_cells HB_x0.out).1; replace x01 := (two_cells HB_x0.out).2.1; replace x10 := (two_cells HB_x1.out).1; replace x11 := (two_cells HB_x1.out).2.1; replace x20 := (two_cells HB_x2.out).1; replace x21 := (two_cells HB_x2.out).2.1; replace y10 := (two_cells HB_y1.out).1; replace y11 := (two_cells HB_y1.out).2.1; replace y20 := (two_cells HB_y2.out).1; replace y21 := (two_cells HB_y2.out).2.1; replace y30 := (two_cells HB_y3.out).1; replace y31 := (two_cells HB_y3.out).2.1; have tok0 := Lib.hid trivial))
          go_wp2_with fail
          go_ret
          exact ⟨rfl, hbt⟩
  · have HS := Lib.hid hs
    clear hs
    have hbt := below3 w (.cells #[.bool b0, .slice o0 n0 m0] 25) (.cells #[.bool b1, .slice o1 n1 m1] 25) (.cells #[.bool b2, .slice o2 n2 m2] 25)
    clear a0
    clear a1
    clear a2
    have hbk := blocks3 (Below.refl (w.heap.size + 3) (((w.alloc (.cells #[.bool b0, .slice o0 n0 m0] 25)).alloc (.cells #[.bool b1, .slice o1 n1 m1] 25)).alloc (.cells #[.bool b2, .slice o2 n2 m2] 25)))
    have HB_x0 := Lib.hid hbk.1
    have HB_x1 := Lib.hid hbk.2.1
    have HB_x2 := Lib.hid hbk.2.2
    clear hbk
    have x00 := (two_cells HB_x0.out).1
    have x01 := (two_cells HB_x0.out).2.1
    have x10 := (two_cells HB_x1.out).1
    have x11 := (two_cells HB_x1.out).2.1
    have x20 := (two_cells HB_x2.out).1
    have x21 := (two_cells HB_x2.out).2.1
    go_enter Tryd.func5, Tryd.ntmps5
    go_wp2_with fail
    generalize (((w.alloc (.cells #[.bool b0, .slice o0 n0 m0] 25)).alloc (.cells #[.bool b1, .slice o1 n1 m1] 25)).alloc (.cells #[.bool b2, .slice o2 n2 m2] 25)) = w0 at *
    refine (HF.out _ (tab_below HTB.out hbt)).mono ?_
    rintro e wx1 ⟨rfl, hbx⟩
    replace hbt := hbt.trans (hbx.mono hbt.size)
    replace HB_x0 := Lib.hid ((hbx.block _ (lt_of_block HB_x0.out)).trans HB_x0.out)
    replace HB_x1 := Lib.hid ((hbx.block _ (lt_of_block HB_x1.out)).trans HB_x1.out)
    replace HB_x2 := Lib.hid ((hbx.block _ (lt_of_block HB_x2.out)).trans HB_x2.out)
    clear hbx
    replace x00 := (two_cells HB_x0.out).1
    replace x01 := (two_cells HB_x0.out).2.1
    replace x10 := (two_cells HB_x1.out).1
    replace x11 := (two_cells HB_x1.out).2.1
    replace x20 := (two_cells HB_x2.out).1
    replace x21 := (two_cells HB_x2.out).2.1
    go_wp2_with fail
    refine (short_f3 30 _ rfl HS.out).mono ?_
    rintro e wx2 ⟨rfl, hbx⟩
    replace hbt := hbt.trans (hbx.mono hbt.size)
    replace HB_x0 := Lib.hid ((hbx.block _ (lt_of_block HB_x0.out)).trans HB_x0.out)
    replace HB_x1 := Lib.hid ((hbx.block _ (lt_of_block HB_x1.out)).trans HB_x1.out)
    replace HB_x2 := Lib.hid ((hbx.block _ (lt_of_block HB_x2.out)).trans HB_x2.out)
    clear hbx
    replace x00 := (two_cells HB_x0.out).1
    replace x01 := (two_cells HB_x0.out).2.1
    replace x10 := (two_cells HB_x1.out).1
    replace x11 := (two_cells HB_x1.out).2.1
    replace x20 := (two_cells HB_x2.out).1
    replace x21 := (two_cells HB_x2.out).2.1
    go_wp2_with fail
    go_ret
    exact ⟨rfl, hbt⟩
end Go.Proofs.YtbkeildnhimfbaaDoor
