/-
  The walk of the law RatioQuos.
-/
import Derived.Test.YtmindndmegiaaaaDoorQQuo
namespace Go.Proofs.YtmindndmegiaaaaDoor
open Go.RowKit
set_option maxRecDepth 100000

theorem quo_back {a b : Rat} (h : b ≠ 0) : cmpQ (a / b * b) a = 0 := by rw [Rat.div_mul_cancel h]; exact cmpQ_self a
theorem quo_is {n1 n2 : Int} (h : n2 ≠ 0) (s : Int) : (Rat.divInt n1 n2).num * (n2 * s) = n1 * s * ((Rat.divInt n1 n2).den : Int) := by
  have e : Rat.divInt (Rat.divInt n1 n2).num ((Rat.divInt n1 n2).den : Int) = Rat.divInt n1 n2 := by rw [Rat.divInt_ofNat, Rat.mkRat_self]
  have h1 := (Rat.divInt_eq_divInt_iff (by have := (Rat.divInt n1 n2).den_pos; omega) h).1 e
  rw [← Int.mul_assoc, h1, Int.mul_assoc, Int.mul_assoc, Int.mul_comm s]
theorem quo_nz {n : Int} {d : Nat} (hd : 0 < d) (h : n ≠ 0) : mkRat n d ≠ 0 := fun e => h ((Rat.mkRat_eq_zero (Nat.ne_of_gt hd)).1 e)

set_option maxHeartbeats 8000000 in
theorem ratioQuos_walk (b0 : Bool) (o0 : Option Addr) (n0 m0 : Nat) (p0 : Option Addr) (l0 e0 : Nat) (xs0 ys0 : List Nat) (b1 : Bool) (o1 : Option Addr) (n1 m1 : Nat) (p1 : Option Addr) (l1 e1 : Nat) (xs1 ys1 : List Nat) (w : World) (a0 : ArgQ w b0 o0 n0 m0 p0 l0 e0 xs0 ys0) (a1 : ArgQ w b1 o1 n1 m1 p1 l1 e1 xs1 ys1) (htab : Lib.TabIs Tryd.prog w "internal/strconv.uint64pow10" .u64 Lib.pow10Tab) :
    Calls Tryd.prog 4 #[.agg #[.bool b0, .slice o0 n0 m0, .slice p0 l0 e0], .agg #[.bool b1, .slice o1 n1 m1, .slice p1 l1 e1]] w fun e w' => e = .returned (.bool true) ∧ Below w.heap.size w w' := by
  have HF := Lib.hid qfitOk
  have HTB := Lib.hid htab
  clear htab
  by_cases hs : (n0 ≤ 6 ∧ l0 ≤ 6) ∧ (n1 ≤ 6 ∧ l1 ≤ 6)
  · obtain ⟨h0, h1⟩ := hs
    obtain ⟨N0, D0, g0⟩ := a0.gq h0
    obtain ⟨N1, D1, g1⟩ := a1.gq h1
    clear a0 a1
    have z0 := g0.num
    have z1 := g1.num
    by_cases hn : N1 = 0
    · subst hn
      have hbt := Below.refl w.heap.size w
      go_enter Tryd.func4, Tryd.ntmps4
      go_wp2_with fail
      have hbx : Below w.heap.size w ((w.alloc (.cells #[.bool b0, .slice o0 n0 m0, .slice p0 l0 e0] 27)).alloc (.cells #[.bool b1, .slice o1 n1 m1, .slice p1 l1 e1] 27)) := (((Below.refl _ _).alloc (by simp) _).alloc (by simp) _)
      replace g0 := g0.below hbx
      replace g1 := g1.below hbx
      replace z0 := z0.below hbx
      replace z1 := z1.below hbx
      replace hbt := hbt.trans (hbx.mono hbt.size)
      clear hbx
      have HB_x0 : Hid (((w.alloc (.cells #[.bool b0, .slice o0 n0 m0, .slice p0 l0 e0] 27)).alloc (.cells #[.bool b1, .slice o1 n1 m1, .slice p1 l1 e1] 27)).heap[w.heap.size]? = some (.cells #[.bool b0, .slice o0 n0 m0, .slice p0 l0 e0] 27 (0, 0))) := Lib.hid (made_more (made_at w (.cells #[.bool b0, .slice o0 n0 m0, .slice p0 l0 e0] 27) _ (by first | rfl | simp)) _)
      have HB_x1 : Hid (((w.alloc (.cells #[.bool b0, .slice o0 n0 m0, .slice p0 l0 e0] 27)).alloc (.cells #[.bool b1, .slice o1 n1 m1, .slice p1 l1 e1] 27)).heap[w.heap.size + 1]? = some (.cells #[.bool b1, .slice o1 n1 m1, .slice p1 l1 e1] 27 (0, 0))) := Lib.hid (made_at (w.alloc (.cells #[.bool b0, .slice o0 n0 m0, .slice p0 l0 e0] 27)) (.cells #[.bool b1, .slice o1 n1 m1, .slice p1 l1 e1] 27) _ (by first | rfl | simp))
      generalize ((w.alloc (.cells #[.bool b0, .slice o0 n0 m0, .slice p0 l0 e0] 27)).alloc (.cells #[.bool b1, .slice o1 n1 m1, .slice p1 l1 e1] 27)) = wx1 at *
      have x00 := cell_at (v := .bool b0) HB_x0.out 0 rfl
      have x01 := cell_at (v := .slice o0 n0 m0) HB_x0.out 1 rfl
      have x02 := cell_at (v := .slice p0 l0 e0) HB_x0.out 2 rfl
      have x10 := cell_at (v := .bool b1) HB_x1.out 0 rfl
      have x11 := cell_at (v := .slice o1 n1 m1) HB_x1.out 1 rfl
      have x12 := cell_at (v := .slice p1 l1 e1) HB_x1.out 2 rfl
      refine (HF.out _ (tab_below HTB.out hbt)).mono ?_
      rintro e wx2 ⟨rfl, hbx⟩
      replace g0 := g0.below hbx
      replace g1 := g1.below hbx
      replace z0 := z0.below hbx
      replace z1 := z1.below hbx
      replace hbt := hbt.trans (hbx.mono hbt.size)
      replace HB_x0 := Lib.hid ((hbx.block _ (lt_of_block HB_x0.out)).trans HB_x0.out)
      replace HB_x1 := Lib.hid ((hbx.block _ (lt_of_block HB_x1.out)).trans HB_x1.out)
      clear hbx
      replace x00 := cell_at (v := .bool b0) HB_x0.out 0 rfl
      replace x01 := cell_at (v := .slice o0 n0 m0) HB_x0.out 1 rfl
      replace x02 := cell_at (v := .slice p0 l0 e0) HB_x0.out 2 rfl
      replace x10 := cell_at (v := .bool b1) HB_x1.out 0 rfl
      replace x11 := cell_at (v := .slice o1 n1 m1) HB_x1.out 1 rfl
      replace x12 := cell_at (v := .slice p1 l1 e1) HB_x1.out 2 rfl
      go_wp2_with fail
      refine (qshort_t2 6 _ rfl h0 h1).mono ?_
      rintro e wx3 ⟨rfl, hbx⟩
      replace g0 := g0.below hbx
      replace g1 := g1.below hbx
      replace z0 := z0.below hbx
      replace z1 := z1.below hbx
      replace hbt := hbt.trans (hbx.mono hbt.size)
      replace HB_x0 := Lib.hid ((hbx.block _ (lt_of_block HB_x0.out)).trans HB_x0.out)
      replace HB_x1 := Lib.hid ((hbx.block _ (lt_of_block HB_x1.out)).trans HB_x1.out)
      clear hbx
      replace x00 := cell_at (v := .bool b0) HB_x0.out 0 rfl
      replace x01 := cell_at (v := .slice o0 n0 m0) HB_x0.out 1 rfl
      replace x02 := cell_at (v := .slice p0 l0 e0) HB_x0.out 2 rfl
      replace x10 := cell_at (v := .bool b1) HB_x1.out 0 rfl
      replace x11 := cell_at (v := .slice o1 n1 m1) HB_x1.out 1 rfl
      replace x12 := cell_at (v := .slice p1 l1 e1) HB_x1.out 2 rfl
      go_wp2_with fail
      refine (qquo_zero g0 g1 (by omega) (by omega)).mono ?_
      rintro e wx4 ⟨v_q, rfl, c_q, hbx⟩
      replace g0 := g0.below hbx
      replace g1 := g1.below hbx
      replace z0 := z0.below hbx
      replace z1 := z1.below hbx
      replace hbt := hbt.trans (hbx.mono hbt.size)
      replace HB_x0 := Lib.hid ((hbx.block _ (lt_of_block HB_x0.out)).trans HB_x0.out)
      replace HB_x1 := Lib.hid ((hbx.block _ (lt_of_block HB_x1.out)).trans HB_x1.out)
      clear hbx
      replace x00 := cell_at (v := .bool b0) HB_x0.out 0 rfl
      replace x01 := cell_at (v := .slice o0 n0 m0) HB_x0.out 1 rfl
      replace x02 := cell_at (v := .slice p0 l0 e0) HB_x0.out 2 rfl
      replace x10 := cell_at (v := .bool b1) HB_x1.out 0 rfl
      replace x11 := cell_at (v := .slice o1 n1 m1) HB_x1.out 1 rfl
      replace x12 := cell_at (v := .slice p1 l1 e1) HB_x1.out 2 rfl
      obtain ⟨b_q, o_q, l_q, k_q, p_q, m_q, u_q, rfl⟩ := c_q.shape
      have hlt_x0 := lt_of_block HB_x0.out
      have hlt_x1 := lt_of_block HB_x1.out
      go_wp2_with fail
      have hla_x0_wx4 : w.heap.size < wx4.heap.size := hlt_x0
      have hla_x1_wx4 : w.heap.size + 1 < wx4.heap.size := hlt_x1
      clear hlt_x0 hlt_x1
      have hbx : Below wx4.heap.size wx4 (wx4.alloc (.cells #[.bool b_q, .slice o_q l_q k_q, .slice p_q m_q u_q] 27)) := ((Below.refl _ _).alloc (by simp) _)
      replace g0 := g0.below hbx
      replace g1 := g1.below hbx
      replace z0 := z0.below hbx
      replace z1 := z1.below hbx
      replace c_q := c_q.below hbx
      replace hbt := hbt.trans (hbx.mono hbt.size)
      replace HB_x0 := Lib.hid ((hbx.block _ (lt_of_block HB_x0.out)).trans HB_x0.out)
      replace HB_x1 := Lib.hid ((hbx.block _ (lt_of_block HB_x1.out)).trans HB_x1.out)
      clear hbx
      replace x00 := cell_at (v := .bool b0) HB_x0.out 0 rfl
      replace x01 := cell_at (v := .slice o0 n0 m0) HB_x0.out 1 rfl
      replace x02 := cell_at (v := .slice p0 l0 e0) HB_x0.out 2 rfl
      replace x10 := cell_at (v := .bool b1) HB_x1.out 0 rfl
      replace x11 := cell_at (v := .slice o1 n1 m1) HB_x1.out 1 rfl
      replace x12 := cell_at (v := .slice p1 l1 e1) HB_x1.out 2 rfl
      have HB_q : Hid ((wx4.alloc (.cells #[.bool b_q, .slice o_q l_q k_q, .slice p_q m_q u_q] 27)).heap[wx4.heap.size]? = some (.cells #[.bool b_q, .slice o_q l_q k_q, .slice p_q m_q u_q] 27 (0, 0))) := Lib.hid (made_at wx4 (.cells #[.bool b_q, .slice o_q l_q k_q, .slice p_q m_q u_q] 27) _ (by first | rfl | simp))
      generalize (wx4.alloc (.cells #[.bool b_q, .slice o_q l_q k_q, .slice p_q m_q u_q] 27)) = wx5 at *
      have q0 := cell_at (v := .bool b_q) HB_q.out 0 rfl
      have q1 := cell_at (v := .slice o_q l_q k_q) HB_q.out 1 rfl
      have q2 := cell_at (v := .slice p_q m_q u_q) HB_q.out 2 rfl
      refine (qfrac_zero z0 z1 (by omega)).mono ?_
      rintro e wx6 ⟨v_f, rfl, c_f, hbx⟩
      replace g0 := g0.below hbx
      replace g1 := g1.below hbx
      replace z0 := z0.below hbx
      replace z1 := z1.below hbx
      replace c_q := c_q.below hbx
      replace hbt := hbt.trans (hbx.mono hbt.size)
      replace HB_x0 := Lib.hid ((hbx.block _ (lt_of_block HB_x0.out)).trans HB_x0.out)
      replace HB_x1 := Lib.hid ((hbx.block _ (lt_of_block HB_x1.out)).trans HB_x1.out)
      replace HB_q := Lib.hid ((hbx.block _ (lt_of_block HB_q.out)).trans HB_q.out)
      clear hbx
      replace x00 := cell_at (v := .bool b0) HB_x0.out 0 rfl
      replace x01 := cell_at (v := .slice o0 n0 m0) HB_x0.out 1 rfl
      replace x02 := cell_at (v := .slice p0 l0 e0) HB_x0.out 2 rfl
      replace x10 := cell_at (v := .bool b1) HB_x1.out 0 rfl
      replace x11 := cell_at (v := .slice o1 n1 m1) HB_x1.out 1 rfl
      replace x12 := cell_at (v := .slice p1 l1 e1) HB_x1.out 2 rfl
      replace q0 := cell_at (v := .bool b_q) HB_q.out 0 rfl
      replace q1 := cell_at (v := .slice o_q l_q k_q) HB_q.out 1 rfl
      replace q2 := cell_at (v := .slice p_q m_q u_q) HB_q.out 2 rfl
      obtain ⟨b_f, o_f, l_f, k_f, p_f, m_f, u_f, rfl⟩ := c_f.shape
      have hlt_x0 := lt_of_block HB_x0.out
      have hlt_x1 := lt_of_block HB_x1.out
      have hlt_q := lt_of_block HB_q.out
      go_wp2_with fail
      have hla_x0_wx6 : w.heap.size < wx6.heap.size := hlt_x0
      have hla_x1_wx6 : w.heap.size + 1 < wx6.heap.size := hlt_x1
      have hla_q_wx6 : wx4.heap.size < wx6.heap.size := hlt_q
      clear hlt_x0 hlt_x1 hlt_q
      have hbx : Below wx6.heap.size wx6 (wx6.alloc (.cells #[.bool b_f, .slice o_f l_f k_f, .slice p_f m_f u_f] 27)) := ((Below.refl _ _).alloc (by simp) _)
      replace g0 := g0.below hbx
      replace g1 := g1.below hbx
      replace z0 := z0.below hbx
      replace z1 := z1.below hbx
      replace c_q := c_q.below hbx
      replace c_f := c_f.below hbx
      replace hbt := hbt.trans (hbx.mono hbt.size)
      replace HB_x0 := Lib.hid ((hbx.block _ (lt_of_block HB_x0.out)).trans HB_x0.out)
      replace HB_x1 := Lib.hid ((hbx.block _ (lt_of_block HB_x1.out)).trans HB_x1.out)
      replace HB_q := Lib.hid ((hbx.block _ (lt_of_block HB_q.out)).trans HB_q.out)
      clear hbx
      replace x00 := cell_at (v := .bool b0) HB_x0.out 0 rfl
      replace x01 := cell_at (v := .slice o0 n0 m0) HB_x0.out 1 rfl
      replace x02 := cell_at (v := .slice p0 l0 e0) HB_x0.out 2 rfl
      replace x10 := cell_at (v := .bool b1) HB_x1.out 0 rfl
      replace x11 := cell_at (v := .slice o1 n1 m1) HB_x1.out 1 rfl
      replace x12 := cell_at (v := .slice p1 l1 e1) HB_x1.out 2 rfl
      replace q0 := cell_at (v := .bool b_q) HB_q.out 0 rfl
      replace q1 := cell_at (v := .slice o_q l_q k_q) HB_q.out 1 rfl
      replace q2 := cell_at (v := .slice p_q m_q u_q) HB_q.out 2 rfl
      have HB_f : Hid ((wx6.alloc (.cells #[.bool b_f, .slice o_f l_f k_f, .slice p_f m_f u_f] 27)).heap[wx6.heap.size]? = some (.cells #[.bool b_f, .slice o_f l_f k_f, .slice p_f m_f u_f] 27 (0, 0))) := Lib.hid (made_at wx6 (.cells #[.bool b_f, .slice o_f l_f k_f, .slice p_f m_f u_f] 27) _ (by first | rfl | simp))
      generalize (wx6.alloc (.cells #[.bool b_f, .slice o_f l_f k_f, .slice p_f m_f u_f] 27)) = wx7 at *
      have f0 := cell_at (v := .bool b_f) HB_f.out 0 rfl
      have f1 := cell_at (v := .slice o_f l_f k_f) HB_f.out 1 rfl
      have f2 := cell_at (v := .slice p_f m_f u_f) HB_f.out 2 rfl
      refine (qsign_any g1 (by omega)).mono ?_
      rintro e wx8 ⟨rfl, hbx⟩
      replace g0 := g0.below hbx
      replace g1 := g1.below hbx
      replace z0 := z0.below hbx
      replace z1 := z1.below hbx
      replace c_q := c_q.below hbx
      replace c_f := c_f.below hbx
      replace hbt := hbt.trans (hbx.mono hbt.size)
      replace HB_x0 := Lib.hid ((hbx.block _ (lt_of_block HB_x0.out)).trans HB_x0.out)
      replace HB_x1 := Lib.hid ((hbx.block _ (lt_of_block HB_x1.out)).trans HB_x1.out)
      replace HB_q := Lib.hid ((hbx.block _ (lt_of_block HB_q.out)).trans HB_q.out)
      replace HB_f := Lib.hid ((hbx.block _ (lt_of_block HB_f.out)).trans HB_f.out)
      clear hbx
      replace x00 := cell_at (v := .bool b0) HB_x0.out 0 rfl
      replace x01 := cell_at (v := .slice o0 n0 m0) HB_x0.out 1 rfl
      replace x02 := cell_at (v := .slice p0 l0 e0) HB_x0.out 2 rfl
      replace x10 := cell_at (v := .bool b1) HB_x1.out 0 rfl
      replace x11 := cell_at (v := .slice o1 n1 m1) HB_x1.out 1 rfl
      replace x12 := cell_at (v := .slice p1 l1 e1) HB_x1.out 2 rfl
      replace q0 := cell_at (v := .bool b_q) HB_q.out 0 rfl
      replace q1 := cell_at (v := .slice o_q l_q k_q) HB_q.out 1 rfl
      replace q2 := cell_at (v := .slice p_q m_q u_q) HB_q.out 2 rfl
      replace f0 := cell_at (v := .bool b_f) HB_f.out 0 rfl
      replace f1 := cell_at (v := .slice o_f l_f k_f) HB_f.out 1 rfl
      replace f2 := cell_at (v := .slice p_f m_f u_f) HB_f.out 2 rfl
      rw [sgnZ_zero]
      go_wp2_with fail
      have hlt_x0 := lt_of_block HB_x0.out
      have hlt_x1 := lt_of_block HB_x1.out
      have hlt_q := lt_of_block HB_q.out
      have hlt_f := lt_of_block HB_f.out
      refine Rely.region (by kernel_rfl) [[], [0], [0, 1], [0, 1, 2], [0, 1, 2, 3], [0, 1, 2, 3, 4], [0, 1, 2, 3, 4, 5], [0, 1, 2, 3, 4, 5, 6], [0, 1, 2, 3, 4, 5, 6], [0, 1, 2, 3, 4, 5, 6, 8], [0, 1, 2, 3, 4, 5, 6, 7, 8, 9], [0, 1, 2, 3, 4, 5, 6, 7, 8, 9, 10], [0, 1, 2, 3, 4, 5, 6, 7, 8, 9, 10, 11], [0, 1, 2, 3, 4, 5, 6, 7, 8, 9, 10, 11, 12], [0, 1, 2, 3, 4, 5, 6, 7, 8, 9, 10, 11, 12], [0, 1, 2, 3, 4, 5, 6, 7, 8, 9, 10, 11, 12, 13, 14], [0, 1, 2, 3, 4, 5, 6, 7, 8, 9, 10, 11, 12, 13, 14, 15], [0, 1, 2, 3, 4, 5, 6, 7, 8, 9, 10, 11, 12, 13, 14, 15, 16]] [] [] (fun q => [].getD q 0) 0 18 (by kernel_rfl) (by kernel_rfl) (fun q h => absurd h (Nat.not_lt_zero q)) (fun q _ h => absurd h (Nat.not_lt_zero q)) ?_
      refine Rely.Chain.det ?_ (by rfl) (fun T xs wr hA => ?_) ?_
      rotate_left 1
      · have e6 := hA.pre 6 (by kernel_rfl)
        simp only [List.getElem?_toArray, List.getElem?_cons_succ, List.getElem?_cons_zero] at e6
        clear hA
        refine ⟨(by rfl), ?_⟩
        go_simp <;> (try with_reducible rfl)
      refine Rely.Chain.det ?_ (by rfl) (fun T xs wr hA => ?_) ?_
      rotate_left 1
      · have e34 := hA.tm 0 34 (by rfl) (by rfl)
        have f34 : xs 0 = _ := hA.fa 0 (by rfl)
        (try simp (disch := first | rfl | decide) only [Rely.mask_in] at f34)
        rw [f34] at e34
        clear f34
        clear hA
        refine ⟨(by rfl), ?_⟩
        go_simp <;> (try with_reducible rfl)
      refine Rely.Chain.det ?_ (by rfl) (fun T xs wr hA => ?_) ?_
      rotate_left 1
      · have e35 := hA.tm 1 35 (by rfl) (by rfl)
        have f35 : xs 1 = _ := hA.fa 1 (by rfl)
        (try simp (disch := first | rfl | decide) only [Rely.mask_in] at f35)
        rw [f35] at e35
        clear f35
        clear hA
        refine ⟨(by rfl), ?_⟩
        go_simp <;> (try with_reducible rfl)
      refine Rely.Chain.det ?_ (by rfl) (fun T xs wr hA => ?_) ?_
      rotate_left 1
      · have e36 := hA.tm 2 36 (by rfl) (by rfl)
        have f36 : xs 2 = _ := hA.fa 2 (by rfl)
        (try simp (disch := first | rfl | decide) only [Rely.mask_in] at f36)
        rw [f36] at e36
        clear f36
        have e8 := hA.pre 8 (by kernel_rfl)
        simp only [List.getElem?_toArray, List.getElem?_cons_succ, List.getElem?_cons_zero] at e8
        clear hA
        refine ⟨((Rely.wanted_at rfl (by rfl) e36).trans (by rfl)), ?_⟩
        go_simp <;> (try with_reducible rfl)
      refine Rely.Chain.det ?_ (by rfl) (fun T xs wr hA => ?_) ?_
      rotate_left 1
      · have e36 := hA.tm 2 36 (by rfl) (by rfl)
        have f36 : xs 2 = _ := hA.fa 2 (by rfl)
        (try simp (disch := first | rfl | decide) only [Rely.mask_in] at f36)
        rw [f36] at e36
        clear f36
        have e37 := hA.tm 3 37 (by rfl) (by rfl)
        have f37 : xs 3 = _ := hA.fa 3 (by rfl)
        (try simp (disch := first | rfl | decide) only [Rely.mask_in] at f37)
        rw [f37] at e37
        clear f37
        clear hA
        refine ⟨((Rely.wanted_at rfl (by rfl) e36).trans (by rfl)), ?_⟩
        go_simp <;> (try with_reducible rfl)
      refine Rely.Chain.det ?_ (by rfl) (fun T xs wr hA => ?_) ?_
      rotate_left 1
      · have e36 := hA.tm 2 36 (by rfl) (by rfl)
        have f36 : xs 2 = _ := hA.fa 2 (by rfl)
        (try simp (disch := first | rfl | decide) only [Rely.mask_in] at f36)
        rw [f36] at e36
        clear f36
        have e38 := hA.tm 4 38 (by rfl) (by rfl)
        have f38 : xs 4 = _ := hA.fa 4 (by rfl)
        (try simp (disch := first | rfl | decide) only [Rely.mask_in] at f38)
        rw [f38] at e38
        clear f38
        clear hA
        refine ⟨(by rfl), ?_⟩
        go_simp <;> (try with_reducible rfl)
      refine Rely.Chain.det ?_ (by rfl) (fun T xs wr hA => ?_) ?_
      rotate_left 1
      · have e39 := hA.tm 5 39 (by rfl) (by rfl)
        have f39 : xs 5 = _ := hA.fa 5 (by rfl)
        (try simp (disch := first | rfl | decide) only [Rely.mask_in] at f39)
        rw [f39] at e39
        clear f39
        clear hA
        refine ⟨(by rfl), ?_⟩
        go_simp <;> (try with_reducible rfl)
      refine Rely.Chain.det ?_ (by rfl) (fun T xs wr hA => ?_) ?_
      rotate_left 1
      · have e40 := hA.tm 6 40 (by rfl) (by rfl)
        have f40 : xs 6 = _ := hA.fa 6 (by rfl)
        (try simp (disch := first | rfl | decide) only [Rely.mask_in] at f40)
        rw [f40] at e40
        clear f40
        have e5 := hA.pre 5 (by kernel_rfl)
        simp only [List.getElem?_toArray, List.getElem?_cons_succ, List.getElem?_cons_zero] at e5
        have hBq : wr.heap[wx4.heap.size]? = _ := (hA.bl _ hlt_q (fun q h => absurd h (Nat.not_lt_zero q))).trans HB_q.out
        have q0 := cell_at (v := .bool b_q) hBq 0 rfl
        have q1 := cell_at (v := .slice o_q l_q k_q) hBq 1 rfl
        have q2 := cell_at (v := .slice p_q m_q u_q) hBq 2 rfl
        clear hBq
        clear hA
        refine ⟨((Rely.wanted_at rfl (by rfl) e40).trans (by rfl)), ?_⟩
        go_simp <;> (try with_reducible rfl)
      refine Rely.Chain.call (fun _ v w => CI w v 0 2) (fun _ _ _ _ h hb => h.below hb) (fun _ _ _ _ _ h hp => h.keeps hp.keeps) (by rfl) (fun T xs wr hA => ?_) ?_
      · have e40 := hA.tm 6 40 (by rfl) (by rfl)
        have f40 : xs 6 = _ := hA.fa 6 (by rfl)
        (try simp (disch := first | rfl | decide) only [Rely.mask_in] at f40)
        rw [f40] at e40
        clear f40
        have hkp := undrewK hA.kp
        have hbw := undrew (hA.be _ (Nat.le_refl _) (fun q h => absurd h (Nat.not_lt_zero q)))
        clear hA
        refine ⟨((Rely.wanted_at rfl (by rfl) e40).trans (by rfl)), fun K hK => ?_⟩
        clear e40
        go_simp
        refine (wof_any 0 _ (by decide) (by decide)).mono ?_
        rintro e wq ⟨v, rfl, c, hb⟩
        exact hK.out _ _ c hb
      refine Rely.Chain.call (fun _ v w => CQ w v ((0 : Int) : Rat) 3) (fun _ _ _ _ h hb => h.below hb) (fun _ _ _ _ _ h hp => h.keeps hp.keeps) (by rfl) (fun T xs wr hA => ?_) ?_
      · have e40 := hA.tm 6 40 (by rfl) (by rfl)
        have f40 : xs 6 = _ := hA.fa 6 (by rfl)
        (try simp (disch := first | rfl | decide) only [Rely.mask_in] at f40)
        rw [f40] at e40
        clear f40
        have e42 := hA.tm 8 42 (by rfl) (by rfl)
        have hkp := undrewK hA.kp
        have hbw := undrew (hA.be _ (Nat.le_refl _) (fun q h => absurd h (Nat.not_lt_zero q)))
        have c_o : CI wr (xs 8) 0 2 := hA.fa 8 (by rfl)
        clear hA
        refine ⟨((Rely.wanted_at rfl (by rfl) e40).trans (by rfl)), fun K hK => ?_⟩
        clear e40
        go_simp
        refine (qof_any c_o.gi (by omega)).mono ?_
        rintro e wq ⟨v, rfl, c, hb⟩
        exact hK.out _ _ c hb
      refine Rely.Chain.call (fun _ v _ => v = .bool true) (fun _ _ _ _ h _ => h) (fun _ _ _ _ _ h _ => h) (by rfl) (fun T xs wr hA => ?_) ?_
      · have e40 := hA.tm 6 40 (by rfl) (by rfl)
        have f40 : xs 6 = _ := hA.fa 6 (by rfl)
        (try simp (disch := first | rfl | decide) only [Rely.mask_in] at f40)
        rw [f40] at e40
        clear f40
        have e41 := hA.tm 7 41 (by rfl) (by rfl)
        have f41 : xs 7 = _ := hA.fa 7 (by rfl)
        (try simp (disch := first | rfl | decide) only [Rely.mask_in] at f41)
        rw [f41] at e41
        clear f41
        have e43 := hA.tm 9 43 (by rfl) (by rfl)
        have hkp := undrewK hA.kp
        have hbw := undrew (hA.be _ (Nat.le_refl _) (fun q h => absurd h (Nat.not_lt_zero q)))
        have c_q := c_q.keeps hkp
        have c_oo : CQ wr (xs 9) ((0 : Int) : Rat) 3 := hA.fa 9 (by rfl)
        clear hA
        refine ⟨((Rely.wanted_at rfl (by rfl) e40).trans (by rfl)), fun K hK => ?_⟩
        clear e40
        go_simp
        refine (qsame_true c_q c_oo (by omega) (by omega)).mono ?_
        rintro e wq ⟨rfl, hb⟩
        exact hK.out _ _ rfl hb
      refine Rely.Chain.det ?_ (by rfl) (fun T xs wr hA => ?_) ?_
      rotate_left 1
      · have e40 := hA.tm 6 40 (by rfl) (by rfl)
        have f40 : xs 6 = _ := hA.fa 6 (by rfl)
        (try simp (disch := first | rfl | decide) only [Rely.mask_in] at f40)
        rw [f40] at e40
        clear f40
        have e44 := hA.tm 10 44 (by rfl) (by rfl)
        have f44 : xs 10 = (.bool true) := hA.fa 10 (by rfl)
        rw [f44] at e44
        clear f44
        clear hA
        refine ⟨(by rfl), ?_⟩
        go_simp <;> (try with_reducible rfl)
      refine Rely.Chain.det ?_ (by rfl) (fun T xs wr hA => ?_) ?_
      rotate_left 1
      · have e45 := hA.tm 11 45 (by rfl) (by rfl)
        have f45 : xs 11 = _ := hA.fa 11 (by rfl)
        (try simp (disch := first | rfl | decide) only [Rely.mask_in] at f45)
        rw [f45] at e45
        clear f45
        clear hA
        refine ⟨(by rfl), ?_⟩
        go_simp <;> (try with_reducible rfl)
      refine Rely.Chain.det ?_ (by rfl) (fun T xs wr hA => ?_) ?_
      rotate_left 1
      · have e46 := hA.tm 12 46 (by rfl) (by rfl)
        have f46 : xs 12 = _ := hA.fa 12 (by rfl)
        (try simp (disch := first | rfl | decide) only [Rely.mask_in] at f46)
        rw [f46] at e46
        clear f46
        have e7 := hA.pre 7 (by kernel_rfl)
        simp only [List.getElem?_toArray, List.getElem?_cons_succ, List.getElem?_cons_zero] at e7
        have hBq : wr.heap[wx6.heap.size]? = _ := (hA.bl _ hlt_f (fun q h => absurd h (Nat.not_lt_zero q))).trans HB_f.out
        have q0 := cell_at (v := .bool b_f) hBq 0 rfl
        have q1 := cell_at (v := .slice o_f l_f k_f) hBq 1 rfl
        have q2 := cell_at (v := .slice p_f m_f u_f) hBq 2 rfl
        clear hBq
        clear hA
        refine ⟨((Rely.wanted_at rfl (by rfl) e46).trans (by rfl)), ?_⟩
        go_simp <;> (try with_reducible rfl)
      refine Rely.Chain.det ?_ (by rfl) (fun T xs wr hA => ?_) ?_
      rotate_left 1
      · have e46 := hA.tm 12 46 (by rfl) (by rfl)
        have f46 : xs 12 = _ := hA.fa 12 (by rfl)
        (try simp (disch := first | rfl | decide) only [Rely.mask_in] at f46)
        rw [f46] at e46
        clear f46
        have e5 := hA.pre 5 (by kernel_rfl)
        simp only [List.getElem?_toArray, List.getElem?_cons_succ, List.getElem?_cons_zero] at e5
        have hBq : wr.heap[wx4.heap.size]? = _ := (hA.bl _ hlt_q (fun q h => absurd h (Nat.not_lt_zero q))).trans HB_q.out
        have q0 := cell_at (v := .bool b_q) hBq 0 rfl
        have q1 := cell_at (v := .slice o_q l_q k_q) hBq 1 rfl
        have q2 := cell_at (v := .slice p_q m_q u_q) hBq 2 rfl
        clear hBq
        clear hA
        refine ⟨((Rely.wanted_at rfl (by rfl) e46).trans (by rfl)), ?_⟩
        go_simp <;> (try with_reducible rfl)
      refine Rely.Chain.call (fun _ v _ => v = .bool true) (fun _ _ _ _ h _ => h) (fun _ _ _ _ _ h _ => h) (by rfl) (fun T xs wr hA => ?_) ?_
      · have e46 := hA.tm 12 46 (by rfl) (by rfl)
        have f46 : xs 12 = _ := hA.fa 12 (by rfl)
        (try simp (disch := first | rfl | decide) only [Rely.mask_in] at f46)
        rw [f46] at e46
        clear f46
        have e47 := hA.tm 13 47 (by rfl) (by rfl)
        have f47 : xs 13 = _ := hA.fa 13 (by rfl)
        (try simp (disch := first | rfl | decide) only [Rely.mask_in] at f47)
        rw [f47] at e47
        clear f47
        have e48 := hA.tm 14 48 (by rfl) (by rfl)
        have f48 : xs 14 = _ := hA.fa 14 (by rfl)
        (try simp (disch := first | rfl | decide) only [Rely.mask_in] at f48)
        rw [f48] at e48
        clear f48
        have hkp := undrewK hA.kp
        have hbw := undrew (hA.be _ (Nat.le_refl _) (fun q h => absurd h (Nat.not_lt_zero q)))
        have c_f := c_f.keeps hkp
        have c_q := c_q.keeps hkp
        clear hA
        refine ⟨((Rely.wanted_at rfl (by rfl) e46).trans (by rfl)), fun K hK => ?_⟩
        clear e46
        go_simp
        refine (qsame_true c_f c_q (by omega) (by omega)).mono ?_
        rintro e wq ⟨rfl, hb⟩
        exact hK.out _ _ rfl hb
      refine Rely.Chain.det ?_ (by rfl) (fun T xs wr hA => ?_) ?_
      rotate_left 1
      · have e46 := hA.tm 12 46 (by rfl) (by rfl)
        have f46 : xs 12 = _ := hA.fa 12 (by rfl)
        (try simp (disch := first | rfl | decide) only [Rely.mask_in] at f46)
        rw [f46] at e46
        clear f46
        have e49 := hA.tm 15 49 (by rfl) (by rfl)
        have f49 : xs 15 = (.bool true) := hA.fa 15 (by rfl)
        rw [f49] at e49
        clear f49
        clear hA
        refine ⟨(by rfl), ?_⟩
        go_simp <;> (try with_reducible rfl)
      refine Rely.Chain.det ?_ (by rfl) (fun T xs wr hA => ?_) ?_
      rotate_left 1
      · have e50 := hA.tm 16 50 (by rfl) (by rfl)
        have f50 : xs 16 = _ := hA.fa 16 (by rfl)
        (try simp (disch := first | rfl | decide) only [Rely.mask_in] at f50)
        rw [f50] at e50
        clear f50
        clear hA
        refine ⟨(by rfl), ?_⟩
        go_simp <;> (try with_reducible rfl)
      refine Rely.Chain.done (fun xs wx9 hL => ?_)
      obtain ⟨⟨hbe, hbl, hkp0⟩, hf, hp, hn⟩ := hL
      have f0 : xs 0 = _ := hf 0 (by decide)
      (try simp (disch := first | rfl | decide) only [Rely.mask_in] at f0)
      have f1 : xs 1 = _ := hf 1 (by decide)
      (try simp (disch := first | rfl | decide) only [Rely.mask_in] at f1)
      have f2 : xs 2 = _ := hf 2 (by decide)
      (try simp (disch := first | rfl | decide) only [Rely.mask_in] at f2)
      have f3 : xs 3 = _ := hf 3 (by decide)
      (try simp (disch := first | rfl | decide) only [Rely.mask_in] at f3)
      have f4 : xs 4 = _ := hf 4 (by decide)
      (try simp (disch := first | rfl | decide) only [Rely.mask_in] at f4)
      have f5 : xs 5 = _ := hf 5 (by decide)
      (try simp (disch := first | rfl | decide) only [Rely.mask_in] at f5)
      have f6 : xs 6 = _ := hf 6 (by decide)
      (try simp (disch := first | rfl | decide) only [Rely.mask_in] at f6)
      have f7 : xs 7 = _ := hf 7 (by decide)
      (try simp (disch := first | rfl | decide) only [Rely.mask_in] at f7)
      have c_o : CI wx9 (xs 8) 0 2 := hf 8 (by decide)
      have c_oo : CQ wx9 (xs 9) ((0 : Int) : Rat) 3 := hf 9 (by decide)
      have f10 : xs 10 = (.bool true) := hf 10 (by decide)
      have f11 : xs 11 = _ := hf 11 (by decide)
      (try simp (disch := first | rfl | decide) only [Rely.mask_in] at f11)
      have f12 : xs 12 = _ := hf 12 (by decide)
      (try simp (disch := first | rfl | decide) only [Rely.mask_in] at f12)
      have f13 : xs 13 = _ := hf 13 (by decide)
      (try simp (disch := first | rfl | decide) only [Rely.mask_in] at f13)
      have f14 : xs 14 = _ := hf 14 (by decide)
      (try simp (disch := first | rfl | decide) only [Rely.mask_in] at f14)
      have f15 : xs 15 = (.bool true) := hf 15 (by decide)
      have f16 : xs 16 = _ := hf 16 (by decide)
      (try simp (disch := first | rfl | decide) only [Rely.mask_in] at f16)
      have f17 : xs 17 = _ := hf 17 (by decide)
      (try simp (disch := first | rfl | decide) only [Rely.mask_in] at f17)
      clear hf hp hn
      refine Rely.rest_done ?_
      simp only [Rely.fill, List.setIfInBounds_toArray, List.set_cons_zero, List.set_cons_succ, f0, f1, f2, f3, f4, f5, f6, f7, f10, f11, f12, f13, f14, f15, f16, f17]
      clear f0 f1 f2 f3 f4 f5 f6 f7 f10 f11 f12 f13 f14 f15 f16 f17
      generalize xs 8 = v_o at c_o ⊢
      generalize xs 9 = v_oo at c_oo ⊢
      clear xs
      obtain ⟨b_o, o_o, l_o, k_o, rfl⟩ := c_o.shape
      obtain ⟨b_oo, o_oo, l_oo, k_oo, p_oo, m_oo, u_oo, rfl⟩ := c_oo.shape
      have hbx := undrew (hbe _ (Nat.le_refl _) (fun q h => absurd h (Nat.not_lt_zero q)))
      clear hbe hbl hkp0
      replace g0 := g0.below hbx
      replace g1 := g1.below hbx
      replace z0 := z0.below hbx
      replace z1 := z1.below hbx
      replace c_q := c_q.below hbx
      replace c_f := c_f.below hbx
      replace hbt := hbt.trans (hbx.mono hbt.size)
      replace HB_x0 := Lib.hid ((hbx.block _ (lt_of_block HB_x0.out)).trans HB_x0.out)
      replace HB_x1 := Lib.hid ((hbx.block _ (lt_of_block HB_x1.out)).trans HB_x1.out)
      replace HB_q := Lib.hid ((hbx.block _ (lt_of_block HB_q.out)).trans HB_q.out)
      replace HB_f := Lib.hid ((hbx.block _ (lt_of_block HB_f.out)).trans HB_f.out)
      clear hbx
      replace x00 := cell_at (v := .bool b0) HB_x0.out 0 rfl
      replace x01 := cell_at (v := .slice o0 n0 m0) HB_x0.out 1 rfl
      replace x02 := cell_at (v := .slice p0 l0 e0) HB_x0.out 2 rfl
      replace x10 := cell_at (v := .bool b1) HB_x1.out 0 rfl
      replace x11 := cell_at (v := .slice o1 n1 m1) HB_x1.out 1 rfl
      replace x12 := cell_at (v := .slice p1 l1 e1) HB_x1.out 2 rfl
      replace q0 := cell_at (v := .bool b_q) HB_q.out 0 rfl
      replace q1 := cell_at (v := .slice o_q l_q k_q) HB_q.out 1 rfl
      replace q2 := cell_at (v := .slice p_q m_q u_q) HB_q.out 2 rfl
      replace f0 := cell_at (v := .bool b_f) HB_f.out 0 rfl
      replace f1 := cell_at (v := .slice o_f l_f k_f) HB_f.out 1 rfl
      replace f2 := cell_at (v := .slice p_f m_f u_f) HB_f.out 2 rfl
      clear hlt_x0 hlt_x1 hlt_q hlt_f
      go_wp2_with fail
      go_ret
      exact ⟨rfl, hbt⟩
    · have HN := Lib.hid hn
      have HC := Lib.hid (quo_back (a := mkRat N0 D0) (quo_nz g1.pos hn))
      have HI := Lib.hid (quo_is (n1 := N0) hn (sgnZ N1))
      have hz : (sgnZ N1 == 0) = false := by rw [beq_eq_false_iff_ne]; exact mt sgnZ_eq0.1 hn
      have HS := Lib.hid (sgnZ_le N1)
      clear hn
      have hbt := Below.refl w.heap.size w
      go_enter Tryd.func4, Tryd.ntmps4
      go_wp2_with fail
      have hbx : Below w.heap.size w ((w.alloc (.cells #[.bool b0, .slice o0 n0 m0, .slice p0 l0 e0] 27)).alloc (.cells #[.bool b1, .slice o1 n1 m1, .slice p1 l1 e1] 27)) := (((Below.refl _ _).alloc (by simp) _).alloc (by simp) _)
      replace g0 := g0.below hbx
      replace g1 := g1.below hbx
      replace z0 := z0.below hbx
      replace z1 := z1.below hbx
      replace hbt := hbt.trans (hbx.mono hbt.size)
      clear hbx
      have HB_x0 : Hid (((w.alloc (.cells #[.bool b0, .slice o0 n0 m0, .slice p0 l0 e0] 27)).alloc (.cells #[.bool b1, .slice o1 n1 m1, .slice p1 l1 e1] 27)).heap[w.heap.size]? = some (.cells #[.bool b0, .slice o0 n0 m0, .slice p0 l0 e0] 27 (0, 0))) := Lib.hid (made_more (made_at w (.cells #[.bool b0, .slice o0 n0 m0, .slice p0 l0 e0] 27) _ (by first | rfl | simp)) _)
      have HB_x1 : Hid (((w.alloc (.cells #[.bool b0, .slice o0 n0 m0, .slice p0 l0 e0] 27)).alloc (.cells #[.bool b1, .slice o1 n1 m1, .slice p1 l1 e1] 27)).heap[w.heap.size + 1]? = some (.cells #[.bool b1, .slice o1 n1 m1, .slice p1 l1 e1] 27 (0, 0))) := Lib.hid (made_at (w.alloc (.cells #[.bool b0, .slice o0 n0 m0, .slice p0 l0 e0] 27)) (.cells #[.bool b1, .slice o1 n1 m1, .slice p1 l1 e1] 27) _ (by first | rfl | simp))
      generalize ((w.alloc (.cells #[.bool b0, .slice o0 n0 m0, .slice p0 l0 e0] 27)).alloc (.cells #[.bool b1, .slice o1 n1 m1, .slice p1 l1 e1] 27)) = wx1 at *
      have x00 := cell_at (v := .bool b0) HB_x0.out 0 rfl
      have x01 := cell_at (v := .slice o0 n0 m0) HB_x0.out 1 rfl
      have x02 := cell_at (v := .slice p0 l0 e0) HB_x0.out 2 rfl
      have x10 := cell_at (v := .bool b1) HB_x1.out 0 rfl
      have x11 := cell_at (v := .slice o1 n1 m1) HB_x1.out 1 rfl
      have x12 := cell_at (v := .slice p1 l1 e1) HB_x1.out 2 rfl
      refine (HF.out _ (tab_below HTB.out hbt)).mono ?_
      rintro e wx2 ⟨rfl, hbx⟩
      replace g0 := g0.below hbx
      replace g1 := g1.below hbx
      replace z0 := z0.below hbx
      replace z1 := z1.below hbx
      replace hbt := hbt.trans (hbx.mono hbt.size)
      replace HB_x0 := Lib.hid ((hbx.block _ (lt_of_block HB_x0.out)).trans HB_x0.out)
      replace HB_x1 := Lib.hid ((hbx.block _ (lt_of_block HB_x1.out)).trans HB_x1.out)
      clear hbx
      replace x00 := cell_at (v := .bool b0) HB_x0.out 0 rfl
      replace x01 := cell_at (v := .slice o0 n0 m0) HB_x0.out 1 rfl
      replace x02 := cell_at (v := .slice p0 l0 e0) HB_x0.out 2 rfl
      replace x10 := cell_at (v := .bool b1) HB_x1.out 0 rfl
      replace x11 := cell_at (v := .slice o1 n1 m1) HB_x1.out 1 rfl
      replace x12 := cell_at (v := .slice p1 l1 e1) HB_x1.out 2 rfl
      go_wp2_with fail
      refine (qshort_t2 6 _ rfl h0 h1).mono ?_
      rintro e wx3 ⟨rfl, hbx⟩
      replace g0 := g0.below hbx
      replace g1 := g1.below hbx
      replace z0 := z0.below hbx
      replace z1 := z1.below hbx
      replace hbt := hbt.trans (hbx.mono hbt.size)
      replace HB_x0 := Lib.hid ((hbx.block _ (lt_of_block HB_x0.out)).trans HB_x0.out)
      replace HB_x1 := Lib.hid ((hbx.block _ (lt_of_block HB_x1.out)).trans HB_x1.out)
      clear hbx
      replace x00 := cell_at (v := .bool b0) HB_x0.out 0 rfl
      replace x01 := cell_at (v := .slice o0 n0 m0) HB_x0.out 1 rfl
      replace x02 := cell_at (v := .slice p0 l0 e0) HB_x0.out 2 rfl
      replace x10 := cell_at (v := .bool b1) HB_x1.out 0 rfl
      replace x11 := cell_at (v := .slice o1 n1 m1) HB_x1.out 1 rfl
      replace x12 := cell_at (v := .slice p1 l1 e1) HB_x1.out 2 rfl
      go_wp2_with fail
      refine (qquo_any g0 g1 (by omega) (by omega) HN.out).mono ?_
      rintro e wx4 ⟨v_q, rfl, c_q, hbx⟩
      replace g0 := g0.below hbx
      replace g1 := g1.below hbx
      replace z0 := z0.below hbx
      replace z1 := z1.below hbx
      replace hbt := hbt.trans (hbx.mono hbt.size)
      replace HB_x0 := Lib.hid ((hbx.block _ (lt_of_block HB_x0.out)).trans HB_x0.out)
      replace HB_x1 := Lib.hid ((hbx.block _ (lt_of_block HB_x1.out)).trans HB_x1.out)
      clear hbx
      replace x00 := cell_at (v := .bool b0) HB_x0.out 0 rfl
      replace x01 := cell_at (v := .slice o0 n0 m0) HB_x0.out 1 rfl
      replace x02 := cell_at (v := .slice p0 l0 e0) HB_x0.out 2 rfl
      replace x10 := cell_at (v := .bool b1) HB_x1.out 0 rfl
      replace x11 := cell_at (v := .slice o1 n1 m1) HB_x1.out 1 rfl
      replace x12 := cell_at (v := .slice p1 l1 e1) HB_x1.out 2 rfl
      obtain ⟨b_q, o_q, l_q, k_q, p_q, m_q, u_q, rfl⟩ := c_q.shape
      have hlt_x0 := lt_of_block HB_x0.out
      have hlt_x1 := lt_of_block HB_x1.out
      go_wp2_with fail
      have hla_x0_wx4 : w.heap.size < wx4.heap.size := hlt_x0
      have hla_x1_wx4 : w.heap.size + 1 < wx4.heap.size := hlt_x1
      clear hlt_x0 hlt_x1
      have hbx : Below wx4.heap.size wx4 (wx4.alloc (.cells #[.bool b_q, .slice o_q l_q k_q, .slice p_q m_q u_q] 27)) := ((Below.refl _ _).alloc (by simp) _)
      replace g0 := g0.below hbx
      replace g1 := g1.below hbx
      replace z0 := z0.below hbx
      replace z1 := z1.below hbx
      replace c_q := c_q.below hbx
      replace hbt := hbt.trans (hbx.mono hbt.size)
      replace HB_x0 := Lib.hid ((hbx.block _ (lt_of_block HB_x0.out)).trans HB_x0.out)
      replace HB_x1 := Lib.hid ((hbx.block _ (lt_of_block HB_x1.out)).trans HB_x1.out)
      clear hbx
      replace x00 := cell_at (v := .bool b0) HB_x0.out 0 rfl
      replace x01 := cell_at (v := .slice o0 n0 m0) HB_x0.out 1 rfl
      replace x02 := cell_at (v := .slice p0 l0 e0) HB_x0.out 2 rfl
      replace x10 := cell_at (v := .bool b1) HB_x1.out 0 rfl
      replace x11 := cell_at (v := .slice o1 n1 m1) HB_x1.out 1 rfl
      replace x12 := cell_at (v := .slice p1 l1 e1) HB_x1.out 2 rfl
      have HB_q : Hid ((wx4.alloc (.cells #[.bool b_q, .slice o_q l_q k_q, .slice p_q m_q u_q] 27)).heap[wx4.heap.size]? = some (.cells #[.bool b_q, .slice o_q l_q k_q, .slice p_q m_q u_q] 27 (0, 0))) := Lib.hid (made_at wx4 (.cells #[.bool b_q, .slice o_q l_q k_q, .slice p_q m_q u_q] 27) _ (by first | rfl | simp))
      generalize (wx4.alloc (.cells #[.bool b_q, .slice o_q l_q k_q, .slice p_q m_q u_q] 27)) = wx5 at *
      have q0 := cell_at (v := .bool b_q) HB_q.out 0 rfl
      have q1 := cell_at (v := .slice o_q l_q k_q) HB_q.out 1 rfl
      have q2 := cell_at (v := .slice p_q m_q u_q) HB_q.out 2 rfl
      refine (qfrac_any z0 z1 (by omega) (by omega) HN.out).mono ?_
      rintro e wx6 ⟨v_f, rfl, c_f, hbx⟩
      replace g0 := g0.below hbx
      replace g1 := g1.below hbx
      replace z0 := z0.below hbx
      replace z1 := z1.below hbx
      replace c_q := c_q.below hbx
      replace hbt := hbt.trans (hbx.mono hbt.size)
      replace HB_x0 := Lib.hid ((hbx.block _ (lt_of_block HB_x0.out)).trans HB_x0.out)
      replace HB_x1 := Lib.hid ((hbx.block _ (lt_of_block HB_x1.out)).trans HB_x1.out)
      replace HB_q := Lib.hid ((hbx.block _ (lt_of_block HB_q.out)).trans HB_q.out)
      clear hbx
      replace x00 := cell_at (v := .bool b0) HB_x0.out 0 rfl
      replace x01 := cell_at (v := .slice o0 n0 m0) HB_x0.out 1 rfl
      replace x02 := cell_at (v := .slice p0 l0 e0) HB_x0.out 2 rfl
      replace x10 := cell_at (v := .bool b1) HB_x1.out 0 rfl
      replace x11 := cell_at (v := .slice o1 n1 m1) HB_x1.out 1 rfl
      replace x12 := cell_at (v := .slice p1 l1 e1) HB_x1.out 2 rfl
      replace q0 := cell_at (v := .bool b_q) HB_q.out 0 rfl
      replace q1 := cell_at (v := .slice o_q l_q k_q) HB_q.out 1 rfl
      replace q2 := cell_at (v := .slice p_q m_q u_q) HB_q.out 2 rfl
      obtain ⟨b_f, o_f, l_f, k_f, p_f, m_f, u_f, rfl⟩ := c_f.shape
      have hlt_x0 := lt_of_block HB_x0.out
      have hlt_x1 := lt_of_block HB_x1.out
      have hlt_q := lt_of_block HB_q.out
      go_wp2_with fail
      have hla_x0_wx6 : w.heap.size < wx6.heap.size := hlt_x0
      have hla_x1_wx6 : w.heap.size + 1 < wx6.heap.size := hlt_x1
      have hla_q_wx6 : wx4.heap.size < wx6.heap.size := hlt_q
      clear hlt_x0 hlt_x1 hlt_q
      have hbx : Below wx6.heap.size wx6 (wx6.alloc (.cells #[.bool b_f, .slice o_f l_f k_f, .slice p_f m_f u_f] 27)) := ((Below.refl _ _).alloc (by simp) _)
      replace g0 := g0.below hbx
      replace g1 := g1.below hbx
      replace z0 := z0.below hbx
      replace z1 := z1.below hbx
      replace c_q := c_q.below hbx
      replace c_f := c_f.below hbx
      replace hbt := hbt.trans (hbx.mono hbt.size)
      replace HB_x0 := Lib.hid ((hbx.block _ (lt_of_block HB_x0.out)).trans HB_x0.out)
      replace HB_x1 := Lib.hid ((hbx.block _ (lt_of_block HB_x1.out)).trans HB_x1.out)
      replace HB_q := Lib.hid ((hbx.block _ (lt_of_block HB_q.out)).trans HB_q.out)
      clear hbx
      replace x00 := cell_at (v := .bool b0) HB_x0.out 0 rfl
      replace x01 := cell_at (v := .slice o0 n0 m0) HB_x0.out 1 rfl
      replace x02 := cell_at (v := .slice p0 l0 e0) HB_x0.out 2 rfl
      replace x10 := cell_at (v := .bool b1) HB_x1.out 0 rfl
      replace x11 := cell_at (v := .slice o1 n1 m1) HB_x1.out 1 rfl
      replace x12 := cell_at (v := .slice p1 l1 e1) HB_x1.out 2 rfl
      replace q0 := cell_at (v := .bool b_q) HB_q.out 0 rfl
      replace q1 := cell_at (v := .slice o_q l_q k_q) HB_q.out 1 rfl
      replace q2 := cell_at (v := .slice p_q m_q u_q) HB_q.out 2 rfl
      have HB_f : Hid ((wx6.alloc (.cells #[.bool b_f, .slice o_f l_f k_f, .slice p_f m_f u_f] 27)).heap[wx6.heap.size]? = some (.cells #[.bool b_f, .slice o_f l_f k_f, .slice p_f m_f u_f] 27 (0, 0))) := Lib.hid (made_at wx6 (.cells #[.bool b_f, .slice o_f l_f k_f, .slice p_f m_f u_f] 27) _ (by first | rfl | simp))
      generalize (wx6.alloc (.cells #[.bool b_f, .slice o_f l_f k_f, .slice p_f m_f u_f] 27)) = wx7 at *
      have f0 := cell_at (v := .bool b_f) HB_f.out 0 rfl
      have f1 := cell_at (v := .slice o_f l_f k_f) HB_f.out 1 rfl
      have f2 := cell_at (v := .slice p_f m_f u_f) HB_f.out 2 rfl
      refine (qsign_any g1 (by omega)).mono ?_
      rintro e wx8 ⟨rfl, hbx⟩
      replace g0 := g0.below hbx
      replace g1 := g1.below hbx
      replace z0 := z0.below hbx
      replace z1 := z1.below hbx
      replace c_q := c_q.below hbx
      replace c_f := c_f.below hbx
      replace hbt := hbt.trans (hbx.mono hbt.size)
      replace HB_x0 := Lib.hid ((hbx.block _ (lt_of_block HB_x0.out)).trans HB_x0.out)
      replace HB_x1 := Lib.hid ((hbx.block _ (lt_of_block HB_x1.out)).trans HB_x1.out)
      replace HB_q := Lib.hid ((hbx.block _ (lt_of_block HB_q.out)).trans HB_q.out)
      replace HB_f := Lib.hid ((hbx.block _ (lt_of_block HB_f.out)).trans HB_f.out)
      clear hbx
      replace x00 := cell_at (v := .bool b0) HB_x0.out 0 rfl
      replace x01 := cell_at (v := .slice o0 n0 m0) HB_x0.out 1 rfl
      replace x02 := cell_at (v := .slice p0 l0 e0) HB_x0.out 2 rfl
      replace x10 := cell_at (v := .bool b1) HB_x1.out 0 rfl
      replace x11 := cell_at (v := .slice o1 n1 m1) HB_x1.out 1 rfl
      replace x12 := cell_at (v := .slice p1 l1 e1) HB_x1.out 2 rfl
      replace q0 := cell_at (v := .bool b_q) HB_q.out 0 rfl
      replace q1 := cell_at (v := .slice o_q l_q k_q) HB_q.out 1 rfl
      replace q2 := cell_at (v := .slice p_q m_q u_q) HB_q.out 2 rfl
      replace f0 := cell_at (v := .bool b_f) HB_f.out 0 rfl
      replace f1 := cell_at (v := .slice o_f l_f k_f) HB_f.out 1 rfl
      replace f2 := cell_at (v := .slice p_f m_f u_f) HB_f.out 2 rfl
      go_wp2_with fail
      refine (wsign_any _ N1 6 _ z1 (by omega)).mono ?_
      rintro e wx9 ⟨rfl, hbx⟩
      replace g0 := g0.below hbx
      replace g1 := g1.below hbx
      replace z0 := z0.below hbx
      replace z1 := z1.below hbx
      replace c_q := c_q.below hbx
      replace c_f := c_f.below hbx
      replace hbt := hbt.trans (hbx.mono hbt.size)
      replace HB_x0 := Lib.hid ((hbx.block _ (lt_of_block HB_x0.out)).trans HB_x0.out)
      replace HB_x1 := Lib.hid ((hbx.block _ (lt_of_block HB_x1.out)).trans HB_x1.out)
      replace HB_q := Lib.hid ((hbx.block _ (lt_of_block HB_q.out)).trans HB_q.out)
      replace HB_f := Lib.hid ((hbx.block _ (lt_of_block HB_f.out)).trans HB_f.out)
      clear hbx
      replace x00 := cell_at (v := .bool b0) HB_x0.out 0 rfl
      replace x01 := cell_at (v := .slice o0 n0 m0) HB_x0.out 1 rfl
      replace x02 := cell_at (v := .slice p0 l0 e0) HB_x0.out 2 rfl
      replace x10 := cell_at (v := .bool b1) HB_x1.out 0 rfl
      replace x11 := cell_at (v := .slice o1 n1 m1) HB_x1.out 1 rfl
      replace x12 := cell_at (v := .slice p1 l1 e1) HB_x1.out 2 rfl
      replace q0 := cell_at (v := .bool b_q) HB_q.out 0 rfl
      replace q1 := cell_at (v := .slice o_q l_q k_q) HB_q.out 1 rfl
      replace q2 := cell_at (v := .slice p_q m_q u_q) HB_q.out 2 rfl
      replace f0 := cell_at (v := .bool b_f) HB_f.out 0 rfl
      replace f1 := cell_at (v := .slice o_f l_f k_f) HB_f.out 1 rfl
      replace f2 := cell_at (v := .slice p_f m_f u_f) HB_f.out 2 rfl
      go_wp2_with fail
      refine (wof_any (sgnZ N1) _ (by have := HS.out; omega) (by have := HS.out; omega)).mono ?_
      rintro e wx10 ⟨v_s, rfl, c_s, hbx⟩
      replace g0 := g0.below hbx
      replace g1 := g1.below hbx
      replace z0 := z0.below hbx
      replace z1 := z1.below hbx
      replace c_q := c_q.below hbx
      replace c_f := c_f.below hbx
      replace hbt := hbt.trans (hbx.mono hbt.size)
      replace HB_x0 := Lib.hid ((hbx.block _ (lt_of_block HB_x0.out)).trans HB_x0.out)
      replace HB_x1 := Lib.hid ((hbx.block _ (lt_of_block HB_x1.out)).trans HB_x1.out)
      replace HB_q := Lib.hid ((hbx.block _ (lt_of_block HB_q.out)).trans HB_q.out)
      replace HB_f := Lib.hid ((hbx.block _ (lt_of_block HB_f.out)).trans HB_f.out)
      clear hbx
      replace x00 := cell_at (v := .bool b0) HB_x0.out 0 rfl
      replace x01 := cell_at (v := .slice o0 n0 m0) HB_x0.out 1 rfl
      replace x02 := cell_at (v := .slice p0 l0 e0) HB_x0.out 2 rfl
      replace x10 := cell_at (v := .bool b1) HB_x1.out 0 rfl
      replace x11 := cell_at (v := .slice o1 n1 m1) HB_x1.out 1 rfl
      replace x12 := cell_at (v := .slice p1 l1 e1) HB_x1.out 2 rfl
      replace q0 := cell_at (v := .bool b_q) HB_q.out 0 rfl
      replace q1 := cell_at (v := .slice o_q l_q k_q) HB_q.out 1 rfl
      replace q2 := cell_at (v := .slice p_q m_q u_q) HB_q.out 2 rfl
      replace f0 := cell_at (v := .bool b_f) HB_f.out 0 rfl
      replace f1 := cell_at (v := .slice o_f l_f k_f) HB_f.out 1 rfl
      replace f2 := cell_at (v := .slice p_f m_f u_f) HB_f.out 2 rfl
      obtain ⟨b_s, o_s, l_s, k_s, rfl⟩ := c_s.shape
      have hlt_x0 := lt_of_block HB_x0.out
      have hlt_x1 := lt_of_block HB_x1.out
      have hlt_q := lt_of_block HB_q.out
      have hlt_f := lt_of_block HB_f.out
      go_wp2_with fail
      have hla_x0_wx10 : w.heap.size < wx10.heap.size := hlt_x0
      have hla_x1_wx10 : w.heap.size + 1 < wx10.heap.size := hlt_x1
      have hla_q_wx10 : wx4.heap.size < wx10.heap.size := hlt_q
      have hla_f_wx10 : wx6.heap.size < wx10.heap.size := hlt_f
      clear hlt_x0 hlt_x1 hlt_q hlt_f
      have hbx : Below wx10.heap.size wx10 (wx10.alloc (.cells #[.bool b_s, .slice o_s l_s k_s] 25)) := ((Below.refl _ _).alloc (by simp) _)
      replace g0 := g0.below hbx
      replace g1 := g1.below hbx
      replace z0 := z0.below hbx
      replace z1 := z1.below hbx
      replace c_q := c_q.below hbx
      replace c_f := c_f.below hbx
      replace c_s := c_s.below hbx
      replace hbt := hbt.trans (hbx.mono hbt.size)
      replace HB_x0 := Lib.hid ((hbx.block _ (lt_of_block HB_x0.out)).trans HB_x0.out)
      replace HB_x1 := Lib.hid ((hbx.block _ (lt_of_block HB_x1.out)).trans HB_x1.out)
      replace HB_q := Lib.hid ((hbx.block _ (lt_of_block HB_q.out)).trans HB_q.out)
      replace HB_f := Lib.hid ((hbx.block _ (lt_of_block HB_f.out)).trans HB_f.out)
      clear hbx
      replace x00 := cell_at (v := .bool b0) HB_x0.out 0 rfl
      replace x01 := cell_at (v := .slice o0 n0 m0) HB_x0.out 1 rfl
      replace x02 := cell_at (v := .slice p0 l0 e0) HB_x0.out 2 rfl
      replace x10 := cell_at (v := .bool b1) HB_x1.out 0 rfl
      replace x11 := cell_at (v := .slice o1 n1 m1) HB_x1.out 1 rfl
      replace x12 := cell_at (v := .slice p1 l1 e1) HB_x1.out 2 rfl
      replace q0 := cell_at (v := .bool b_q) HB_q.out 0 rfl
      replace q1 := cell_at (v := .slice o_q l_q k_q) HB_q.out 1 rfl
      replace q2 := cell_at (v := .slice p_q m_q u_q) HB_q.out 2 rfl
      replace f0 := cell_at (v := .bool b_f) HB_f.out 0 rfl
      replace f1 := cell_at (v := .slice o_f l_f k_f) HB_f.out 1 rfl
      replace f2 := cell_at (v := .slice p_f m_f u_f) HB_f.out 2 rfl
      have HB_s : Hid ((wx10.alloc (.cells #[.bool b_s, .slice o_s l_s k_s] 25)).heap[wx10.heap.size]? = some (.cells #[.bool b_s, .slice o_s l_s k_s] 25 (0, 0))) := Lib.hid (made_at wx10 (.cells #[.bool b_s, .slice o_s l_s k_s] 25) _ (by first | rfl | simp))
      generalize (wx10.alloc (.cells #[.bool b_s, .slice o_s l_s k_s] 25)) = wx11 at *
      have s0 := cell_at (v := .bool b_s) HB_s.out 0 rfl
      have s1 := cell_at (v := .slice o_s l_s k_s) HB_s.out 1 rfl
      have hlt_x0 := lt_of_block HB_x0.out
      have hlt_x1 := lt_of_block HB_x1.out
      have hlt_q := lt_of_block HB_q.out
      have hlt_f := lt_of_block HB_f.out
      have hlt_s := lt_of_block HB_s.out
      refine Rely.region (by kernel_rfl) [[], [0], [0, 1], [0, 1, 2], [0, 1, 2, 3], [0, 1, 2, 3, 4], [0, 1, 2, 3, 4, 5], [0, 1, 2, 3, 4, 5, 6], [0, 1, 2, 3, 4, 5, 6, 7], [0, 1, 2, 3, 4, 5, 6, 7, 8], [0, 1, 2, 3, 4, 5, 6, 7, 8], [0, 1, 2, 3, 4, 5, 6, 7, 8, 9, 10], [0, 1, 2, 3, 4, 5, 6, 7, 8], [0, 1, 2, 3, 4, 5, 6, 7, 8, 9, 10, 11, 12], [0, 1, 2, 3, 4, 5, 6, 7, 8, 9, 10, 11, 12, 13], [0, 1, 2, 3, 4, 5, 6, 7, 8, 9, 10, 11, 12, 13, 14], [0, 1, 2, 3, 4, 5, 6, 7, 8, 9, 10, 11, 12, 13, 14, 15], [0, 1, 2, 3, 4, 5, 6, 7, 8, 9, 10, 11, 12, 13, 14, 15, 16], [0, 1, 2, 3, 4, 5, 6, 7, 8, 9, 10, 11, 12, 13, 14, 15, 16], [0, 1, 2, 3, 4, 5, 6, 7, 8, 9, 10, 11, 12, 13, 14, 15, 16, 18], [0, 1, 2, 3, 4, 5, 6, 7, 8, 9, 10, 11, 12, 13, 14, 15, 16], [0, 1, 2, 3, 4, 5, 6, 7, 8, 9, 10, 11, 12, 13, 14, 15, 16, 18, 19, 20], [0, 1, 2, 3, 4, 5, 6, 7, 8, 9, 10, 11, 12, 13, 14, 15, 16], [0, 1, 2, 3, 4, 5, 6, 7, 8, 9, 10, 11, 12, 13, 14, 15, 16, 22], [0, 1, 2, 3, 4, 5, 6, 7, 8, 9, 10, 11, 12, 13, 14, 15, 16], [0, 1, 2, 3, 4, 5, 6, 7, 8, 9, 10, 11, 12, 13, 14, 15, 16, 18, 19, 20, 21, 22, 23, 24], [0, 1, 2, 3, 4, 5, 6, 7, 8, 9, 10, 11, 12, 13, 14, 15, 16, 17, 18, 19, 20, 21, 22, 23, 24, 25], [0, 1, 2, 3, 4, 5, 6, 7, 8, 9, 10, 11, 12, 13, 14, 15, 16, 17, 18, 19, 20, 21, 22, 23, 24, 25, 26], [0, 1, 2, 3, 4, 5, 6, 7, 8, 9, 10, 11, 12, 13, 14, 15, 16, 17, 18, 19, 20, 21, 22, 23, 24, 25, 26, 27]] [] [] (fun q => [].getD q 0) 0 29 (by kernel_rfl) (by kernel_rfl) (fun q h => absurd h (Nat.not_lt_zero q)) (fun q _ h => absurd h (Nat.not_lt_zero q)) ?_
      refine Rely.Chain.det ?_ (by rfl) (fun T xs wr hA => ?_) ?_
      rotate_left 1
      · have e6 := hA.pre 6 (by kernel_rfl)
        simp only [List.getElem?_toArray, List.getElem?_cons_succ, List.getElem?_cons_zero] at e6
        clear hA
        refine ⟨(by rfl), ?_⟩
        go_simp <;> (try with_reducible rfl)
      refine Rely.Chain.det ?_ (by rfl) (fun T xs wr hA => ?_) ?_
      rotate_left 1
      · have e55 := hA.tm 0 55 (by rfl) (by rfl)
        have f55 : xs 0 = _ := hA.fa 0 (by rfl)
        (try simp (disch := first | rfl | decide) only [Rely.mask_in] at f55)
        rw [f55] at e55
        clear f55
        clear hA
        refine ⟨(by rfl), ?_⟩
        go_simp <;> (try with_reducible rfl)
      refine Rely.Chain.det ?_ (by rfl) (fun T xs wr hA => ?_) ?_
      rotate_left 1
      · have e56 := hA.tm 1 56 (by rfl) (by rfl)
        have f56 : xs 1 = _ := hA.fa 1 (by rfl)
        (try simp (disch := first | rfl | decide) only [Rely.mask_in] at f56)
        rw [f56] at e56
        clear f56
        have e8 := hA.pre 8 (by kernel_rfl)
        simp only [List.getElem?_toArray, List.getElem?_cons_succ, List.getElem?_cons_zero] at e8
        clear hA
        refine ⟨((Rely.wanted_at rfl (by rfl) e56).trans (by rfl)), ?_⟩
        go_simp <;> (try with_reducible rfl)
      refine Rely.Chain.det ?_ (by rfl) (fun T xs wr hA => ?_) ?_
      rotate_left 1
      · have e56 := hA.tm 1 56 (by rfl) (by rfl)
        have f56 : xs 1 = _ := hA.fa 1 (by rfl)
        (try simp (disch := first | rfl | decide) only [Rely.mask_in] at f56)
        rw [f56] at e56
        clear f56
        have e57 := hA.tm 2 57 (by rfl) (by rfl)
        have f57 : xs 2 = _ := hA.fa 2 (by rfl)
        (try simp (disch := first | rfl | decide) only [Rely.mask_in] at f57)
        rw [f57] at e57
        clear f57
        clear hA
        refine ⟨(by rfl), ?_⟩
        go_simp <;> (try with_reducible rfl)
      refine Rely.Chain.det ?_ (by rfl) (fun T xs wr hA => ?_) ?_
      rotate_left 1
      · have e58 := hA.tm 3 58 (by rfl) (by rfl)
        have f58 : xs 3 = _ := hA.fa 3 (by rfl)
        (try simp (disch := first | rfl | decide) only [Rely.mask_in] at f58)
        rw [f58] at e58
        clear f58
        clear hA
        refine ⟨(by rfl), ?_⟩
        go_simp <;> (try with_reducible rfl)
      refine Rely.Chain.det ?_ (by rfl) (fun T xs wr hA => ?_) ?_
      rotate_left 1
      · have e59 := hA.tm 4 59 (by rfl) (by rfl)
        have f59 : xs 4 = _ := hA.fa 4 (by rfl)
        (try simp (disch := first | rfl | decide) only [Rely.mask_in] at f59)
        rw [f59] at e59
        clear f59
        have e5 := hA.pre 5 (by kernel_rfl)
        simp only [List.getElem?_toArray, List.getElem?_cons_succ, List.getElem?_cons_zero] at e5
        have hBq : wr.heap[wx4.heap.size]? = _ := (hA.bl _ hlt_q (fun q h => absurd h (Nat.not_lt_zero q))).trans HB_q.out
        have q0 := cell_at (v := .bool b_q) hBq 0 rfl
        have q1 := cell_at (v := .slice o_q l_q k_q) hBq 1 rfl
        have q2 := cell_at (v := .slice p_q m_q u_q) hBq 2 rfl
        clear hBq
        clear hA
        refine ⟨((Rely.wanted_at rfl (by rfl) e59).trans (by rfl)), ?_⟩
        go_simp <;> (try with_reducible rfl)
      refine Rely.Chain.call (fun _ v _ => v = .bool true) (fun _ _ _ _ h _ => h) (fun _ _ _ _ _ h _ => h) (by rfl) (fun T xs wr hA => ?_) ?_
      · have e59 := hA.tm 4 59 (by rfl) (by rfl)
        have f59 : xs 4 = _ := hA.fa 4 (by rfl)
        (try simp (disch := first | rfl | decide) only [Rely.mask_in] at f59)
        rw [f59] at e59
        clear f59
        have e60 := hA.tm 5 60 (by rfl) (by rfl)
        have f60 : xs 5 = _ := hA.fa 5 (by rfl)
        (try simp (disch := first | rfl | decide) only [Rely.mask_in] at f60)
        rw [f60] at e60
        clear f60
        have hkp := undrewK hA.kp
        have hbw := undrew (hA.be _ (Nat.le_refl _) (fun q h => absurd h (Nat.not_lt_zero q)))
        have c_q := c_q.keeps hkp
        clear hA
        refine ⟨((Rely.wanted_at rfl (by rfl) e59).trans (by rfl)), fun K hK => ?_⟩
        clear e59
        go_simp
        refine (right_any c_q (by omega)).mono ?_
        rintro e wq ⟨rfl, hb⟩
        exact hK.out _ _ rfl hb
      refine Rely.Chain.det ?_ (by rfl) (fun T xs wr hA => ?_) ?_
      rotate_left 1
      · have e59 := hA.tm 4 59 (by rfl) (by rfl)
        have f59 : xs 4 = _ := hA.fa 4 (by rfl)
        (try simp (disch := first | rfl | decide) only [Rely.mask_in] at f59)
        rw [f59] at e59
        clear f59
        have e61 := hA.tm 6 61 (by rfl) (by rfl)
        have f61 : xs 6 = (.bool true) := hA.fa 6 (by rfl)
        rw [f61] at e61
        clear f61
        clear hA
        refine ⟨(by rfl), ?_⟩
        go_simp <;> (try with_reducible rfl)
      refine Rely.Chain.det ?_ (by rfl) (fun T xs wr hA => ?_) ?_
      rotate_left 1
      · have e62 := hA.tm 7 62 (by rfl) (by rfl)
        have f62 : xs 7 = _ := hA.fa 7 (by rfl)
        (try simp (disch := first | rfl | decide) only [Rely.mask_in] at f62)
        rw [f62] at e62
        clear f62
        clear hA
        refine ⟨(by rfl), ?_⟩
        go_simp <;> (try with_reducible rfl)
      refine Rely.Chain.det ?_ (by rfl) (fun T xs wr hA => ?_) ?_
      rotate_left 1
      · have e63 := hA.tm 8 63 (by rfl) (by rfl)
        have f63 : xs 8 = _ := hA.fa 8 (by rfl)
        (try simp (disch := first | rfl | decide) only [Rely.mask_in] at f63)
        rw [f63] at e63
        clear f63
        have e5 := hA.pre 5 (by kernel_rfl)
        simp only [List.getElem?_toArray, List.getElem?_cons_succ, List.getElem?_cons_zero] at e5
        have hBq : wr.heap[wx4.heap.size]? = _ := (hA.bl _ hlt_q (fun q h => absurd h (Nat.not_lt_zero q))).trans HB_q.out
        have q0 := cell_at (v := .bool b_q) hBq 0 rfl
        have q1 := cell_at (v := .slice o_q l_q k_q) hBq 1 rfl
        have q2 := cell_at (v := .slice p_q m_q u_q) hBq 2 rfl
        clear hBq
        clear hA
        refine ⟨((Rely.wanted_at rfl (by rfl) e63).trans (by rfl)), ?_⟩
        go_simp <;> (try with_reducible rfl)
      refine Rely.Chain.det ?_ (by rfl) (fun T xs wr hA => ?_) ?_
      rotate_left 1
      · have e63 := hA.tm 8 63 (by rfl) (by rfl)
        have f63 : xs 8 = _ := hA.fa 8 (by rfl)
        (try simp (disch := first | rfl | decide) only [Rely.mask_in] at f63)
        rw [f63] at e63
        clear f63
        have e3 := hA.pre 3 (by kernel_rfl)
        simp only [List.getElem?_toArray, List.getElem?_cons_succ, List.getElem?_cons_zero] at e3
        have hBq : wr.heap[w.heap.size + 1]? = _ := (hA.bl _ hlt_x1 (fun q h => absurd h (Nat.not_lt_zero q))).trans HB_x1.out
        have q0 := cell_at (v := .bool b1) hBq 0 rfl
        have q1 := cell_at (v := .slice o1 n1 m1) hBq 1 rfl
        have q2 := cell_at (v := .slice p1 l1 e1) hBq 2 rfl
        clear hBq
        clear hA
        refine ⟨((Rely.wanted_at rfl (by rfl) e63).trans (by rfl)), ?_⟩
        go_simp <;> (try with_reducible rfl)
      refine Rely.Chain.call (fun _ v w => CQ w v (mkRat N0 D0 / mkRat N1 D1 * mkRat N1 D1) 74) (fun _ _ _ _ h hb => h.below hb) (fun _ _ _ _ _ h hp => h.keeps hp.keeps) (by rfl) (fun T xs wr hA => ?_) ?_
      · have e63 := hA.tm 8 63 (by rfl) (by rfl)
        have f63 : xs 8 = _ := hA.fa 8 (by rfl)
        (try simp (disch := first | rfl | decide) only [Rely.mask_in] at f63)
        rw [f63] at e63
        clear f63
        have e64 := hA.tm 9 64 (by rfl) (by rfl)
        have f64 : xs 9 = _ := hA.fa 9 (by rfl)
        (try simp (disch := first | rfl | decide) only [Rely.mask_in] at f64)
        rw [f64] at e64
        clear f64
        have e65 := hA.tm 10 65 (by rfl) (by rfl)
        have f65 : xs 10 = _ := hA.fa 10 (by rfl)
        (try simp (disch := first | rfl | decide) only [Rely.mask_in] at f65)
        rw [f65] at e65
        clear f65
        have hkp := undrewK hA.kp
        have hbw := undrew (hA.be _ (Nat.le_refl _) (fun q h => absurd h (Nat.not_lt_zero q)))
        have c_q := c_q.keeps hkp
        have g1 := g1.keeps hkp
        clear hA
        refine ⟨((Rely.wanted_at rfl (by rfl) e63).trans (by rfl)), fun K hK => ?_⟩
        clear e63
        go_simp
        refine (hmul_any c_q.hq g1.hq (by omega) (by omega)).mono ?_
        rintro e wq ⟨v, rfl, c, hb⟩
        exact hK.out _ _ c hb
      refine Rely.Chain.det ?_ (by rfl) (fun T xs wr hA => ?_) ?_
      rotate_left 1
      · have e63 := hA.tm 8 63 (by rfl) (by rfl)
        have f63 : xs 8 = _ := hA.fa 8 (by rfl)
        (try simp (disch := first | rfl | decide) only [Rely.mask_in] at f63)
        rw [f63] at e63
        clear f63
        have e2 := hA.pre 2 (by kernel_rfl)
        simp only [List.getElem?_toArray, List.getElem?_cons_succ, List.getElem?_cons_zero] at e2
        have hBq : wr.heap[w.heap.size]? = _ := (hA.bl _ hlt_x0 (fun q h => absurd h (Nat.not_lt_zero q))).trans HB_x0.out
        have q0 := cell_at (v := .bool b0) hBq 0 rfl
        have q1 := cell_at (v := .slice o0 n0 m0) hBq 1 rfl
        have q2 := cell_at (v := .slice p0 l0 e0) hBq 2 rfl
        clear hBq
        clear hA
        refine ⟨((Rely.wanted_at rfl (by rfl) e63).trans (by rfl)), ?_⟩
        go_simp <;> (try with_reducible rfl)
      refine Rely.Chain.call (fun _ v _ => v = .int .i64 0) (fun _ _ _ _ h _ => h) (fun _ _ _ _ _ h _ => h) (by rfl) (fun T xs wr hA => ?_) ?_
      · have e63 := hA.tm 8 63 (by rfl) (by rfl)
        have f63 : xs 8 = _ := hA.fa 8 (by rfl)
        (try simp (disch := first | rfl | decide) only [Rely.mask_in] at f63)
        rw [f63] at e63
        clear f63
        have e66 := hA.tm 11 66 (by rfl) (by rfl)
        have e67 := hA.tm 12 67 (by rfl) (by rfl)
        have f67 : xs 12 = _ := hA.fa 12 (by rfl)
        (try simp (disch := first | rfl | decide) only [Rely.mask_in] at f67)
        rw [f67] at e67
        clear f67
        have hkp := undrewK hA.kp
        have hbw := undrew (hA.be _ (Nat.le_refl _) (fun q h => absurd h (Nat.not_lt_zero q)))
        have c_p : CQ wr (xs 11) (mkRat N0 D0 / mkRat N1 D1 * mkRat N1 D1) 74 := hA.fa 11 (by rfl)
        have g0 := g0.keeps hkp
        clear hA
        refine ⟨((Rely.wanted_at rfl (by rfl) e63).trans (by rfl)), fun K hK => ?_⟩
        clear e63
        go_simp
        refine (hcmp_s c_p.hq g0.hq HC.out (by omega) (by omega)).mono ?_
        rintro e wq ⟨rfl, hb⟩
        exact hK.out _ _ rfl hb
      refine Rely.Chain.det ?_ (by rfl) (fun T xs wr hA => ?_) ?_
      rotate_left 1
      · have e63 := hA.tm 8 63 (by rfl) (by rfl)
        have f63 : xs 8 = _ := hA.fa 8 (by rfl)
        (try simp (disch := first | rfl | decide) only [Rely.mask_in] at f63)
        rw [f63] at e63
        clear f63
        have e68 := hA.tm 13 68 (by rfl) (by rfl)
        have f68 : xs 13 = (.int .i64 0) := hA.fa 13 (by rfl)
        rw [f68] at e68
        clear f68
        clear hA
        refine ⟨((Rely.wanted_at rfl (by rfl) e63).trans (by rfl)), ?_⟩
        go_simp <;> (try with_reducible rfl)
      refine Rely.Chain.det ?_ (by rfl) (fun T xs wr hA => ?_) ?_
      rotate_left 1
      · have e63 := hA.tm 8 63 (by rfl) (by rfl)
        have f63 : xs 8 = _ := hA.fa 8 (by rfl)
        (try simp (disch := first | rfl | decide) only [Rely.mask_in] at f63)
        rw [f63] at e63
        clear f63
        have e69 := hA.tm 14 69 (by rfl) (by rfl)
        have f69 : xs 14 = _ := hA.fa 14 (by rfl)
        (try simp (disch := first | rfl | decide) only [Rely.mask_in] at f69)
        rw [f69] at e69
        clear f69
        clear hA
        refine ⟨(by rfl), ?_⟩
        go_simp <;> (try with_reducible rfl)
      refine Rely.Chain.det ?_ (by rfl) (fun T xs wr hA => ?_) ?_
      rotate_left 1
      · have e70 := hA.tm 15 70 (by rfl) (by rfl)
        have f70 : xs 15 = _ := hA.fa 15 (by rfl)
        (try simp (disch := first | rfl | decide) only [Rely.mask_in] at f70)
        rw [f70] at e70
        clear f70
        clear hA
        refine ⟨(by rfl), ?_⟩
        go_simp <;> (try with_reducible rfl)
      refine Rely.Chain.det ?_ (by rfl) (fun T xs wr hA => ?_) ?_
      rotate_left 1
      · have e71 := hA.tm 16 71 (by rfl) (by rfl)
        have f71 : xs 16 = _ := hA.fa 16 (by rfl)
        (try simp (disch := first | rfl | decide) only [Rely.mask_in] at f71)
        rw [f71] at e71
        clear f71
        have e7 := hA.pre 7 (by kernel_rfl)
        simp only [List.getElem?_toArray, List.getElem?_cons_succ, List.getElem?_cons_zero] at e7
        have hBq : wr.heap[wx6.heap.size]? = _ := (hA.bl _ hlt_f (fun q h => absurd h (Nat.not_lt_zero q))).trans HB_f.out
        have q0 := cell_at (v := .bool b_f) hBq 0 rfl
        have q1 := cell_at (v := .slice o_f l_f k_f) hBq 1 rfl
        have q2 := cell_at (v := .slice p_f m_f u_f) hBq 2 rfl
        clear hBq
        clear hA
        refine ⟨((Rely.wanted_at rfl (by rfl) e71).trans (by rfl)), ?_⟩
        go_simp <;> (try with_reducible rfl)
      refine Rely.Chain.det ?_ (by rfl) (fun T xs wr hA => ?_) ?_
      rotate_left 1
      · have e71 := hA.tm 16 71 (by rfl) (by rfl)
        have f71 : xs 16 = _ := hA.fa 16 (by rfl)
        (try simp (disch := first | rfl | decide) only [Rely.mask_in] at f71)
        rw [f71] at e71
        clear f71
        have e2 := hA.pre 2 (by kernel_rfl)
        simp only [List.getElem?_toArray, List.getElem?_cons_succ, List.getElem?_cons_zero] at e2
        clear hA
        refine ⟨((Rely.wanted_at rfl (by rfl) e71).trans (by rfl)), ?_⟩
        go_simp <;> (try with_reducible rfl)
      refine Rely.Chain.det ?_ (by rfl) (fun T xs wr hA => ?_) ?_
      rotate_left 1
      · have e71 := hA.tm 16 71 (by rfl) (by rfl)
        have f71 : xs 16 = _ := hA.fa 16 (by rfl)
        (try simp (disch := first | rfl | decide) only [Rely.mask_in] at f71)
        rw [f71] at e71
        clear f71
        have e73 := hA.tm 18 73 (by rfl) (by rfl)
        have f73 : xs 18 = _ := hA.fa 18 (by rfl)
        (try simp (disch := first | rfl | decide) only [Rely.mask_in] at f73)
        rw [f73] at e73
        clear f73
        have hBq : wr.heap[w.heap.size]? = _ := (hA.bl _ hlt_x0 (fun q h => absurd h (Nat.not_lt_zero q))).trans HB_x0.out
        have q0 := cell_at (v := .bool b0) hBq 0 rfl
        have q1 := cell_at (v := .slice o0 n0 m0) hBq 1 rfl
        have q2 := cell_at (v := .slice p0 l0 e0) hBq 2 rfl
        clear hBq
        clear hA
        refine ⟨((Rely.wanted_at rfl (by rfl) e71).trans (by rfl)), ?_⟩
        go_simp <;> (try with_reducible rfl)
      refine Rely.Chain.det ?_ (by rfl) (fun T xs wr hA => ?_) ?_
      rotate_left 1
      · have e71 := hA.tm 16 71 (by rfl) (by rfl)
        have f71 : xs 16 = _ := hA.fa 16 (by rfl)
        (try simp (disch := first | rfl | decide) only [Rely.mask_in] at f71)
        rw [f71] at e71
        clear f71
        have e9 := hA.pre 9 (by kernel_rfl)
        simp only [List.getElem?_toArray, List.getElem?_cons_succ, List.getElem?_cons_zero] at e9
        have hBq : wr.heap[wx10.heap.size]? = _ := (hA.bl _ hlt_s (fun q h => absurd h (Nat.not_lt_zero q))).trans HB_s.out
        have q0 := cell_at (v := .bool b_s) hBq 0 rfl
        have q1 := cell_at (v := .slice o_s l_s k_s) hBq 1 rfl
        clear hBq
        clear hA
        refine ⟨((Rely.wanted_at rfl (by rfl) e71).trans (by rfl)), ?_⟩
        go_simp <;> (try with_reducible rfl)
      refine Rely.Chain.call (fun _ v w => CI w v (N0 * sgnZ N1) 8) (fun _ _ _ _ h hb => h.below hb) (fun _ _ _ _ _ h hp => h.keeps hp.keeps) (by rfl) (fun T xs wr hA => ?_) ?_
      · have e71 := hA.tm 16 71 (by rfl) (by rfl)
        have f71 : xs 16 = _ := hA.fa 16 (by rfl)
        (try simp (disch := first | rfl | decide) only [Rely.mask_in] at f71)
        rw [f71] at e71
        clear f71
        have e74 := hA.tm 19 74 (by rfl) (by rfl)
        have f74 : xs 19 = _ := hA.fa 19 (by rfl)
        (try simp (disch := first | rfl | decide) only [Rely.mask_in] at f74)
        rw [f74] at e74
        clear f74
        have e75 := hA.tm 20 75 (by rfl) (by rfl)
        have f75 : xs 20 = _ := hA.fa 20 (by rfl)
        (try simp (disch := first | rfl | decide) only [Rely.mask_in] at f75)
        rw [f75] at e75
        clear f75
        have hkp := undrewK hA.kp
        have hbw := undrew (hA.be _ (Nat.le_refl _) (fun q h => absurd h (Nat.not_lt_zero q)))
        have z0 := z0.keeps hkp
        have c_s := c_s.keeps hkp
        clear hA
        refine ⟨((Rely.wanted_at rfl (by rfl) e71).trans (by rfl)), fun K hK => ?_⟩
        clear e71
        go_simp
        refine (wmul_any _ _ N0 (sgnZ N1) 6 2 _ z0 c_s.gi (by omega) (by omega)).mono ?_
        rintro e wq ⟨v, rfl, c, hb⟩
        exact hK.out _ _ c hb
      refine Rely.Chain.det ?_ (by rfl) (fun T xs wr hA => ?_) ?_
      rotate_left 1
      · have e71 := hA.tm 16 71 (by rfl) (by rfl)
        have f71 : xs 16 = _ := hA.fa 16 (by rfl)
        (try simp (disch := first | rfl | decide) only [Rely.mask_in] at f71)
        rw [f71] at e71
        clear f71
        have e3 := hA.pre 3 (by kernel_rfl)
        simp only [List.getElem?_toArray, List.getElem?_cons_succ, List.getElem?_cons_zero] at e3
        clear hA
        refine ⟨((Rely.wanted_at rfl (by rfl) e71).trans (by rfl)), ?_⟩
        go_simp <;> (try with_reducible rfl)
      refine Rely.Chain.det ?_ (by rfl) (fun T xs wr hA => ?_) ?_
      rotate_left 1
      · have e71 := hA.tm 16 71 (by rfl) (by rfl)
        have f71 : xs 16 = _ := hA.fa 16 (by rfl)
        (try simp (disch := first | rfl | decide) only [Rely.mask_in] at f71)
        rw [f71] at e71
        clear f71
        have e77 := hA.tm 22 77 (by rfl) (by rfl)
        have f77 : xs 22 = _ := hA.fa 22 (by rfl)
        (try simp (disch := first | rfl | decide) only [Rely.mask_in] at f77)
        rw [f77] at e77
        clear f77
        have hBq : wr.heap[w.heap.size + 1]? = _ := (hA.bl _ hlt_x1 (fun q h => absurd h (Nat.not_lt_zero q))).trans HB_x1.out
        have q0 := cell_at (v := .bool b1) hBq 0 rfl
        have q1 := cell_at (v := .slice o1 n1 m1) hBq 1 rfl
        have q2 := cell_at (v := .slice p1 l1 e1) hBq 2 rfl
        clear hBq
        clear hA
        refine ⟨((Rely.wanted_at rfl (by rfl) e71).trans (by rfl)), ?_⟩
        go_simp <;> (try with_reducible rfl)
      refine Rely.Chain.det ?_ (by rfl) (fun T xs wr hA => ?_) ?_
      rotate_left 1
      · have e71 := hA.tm 16 71 (by rfl) (by rfl)
        have f71 : xs 16 = _ := hA.fa 16 (by rfl)
        (try simp (disch := first | rfl | decide) only [Rely.mask_in] at f71)
        rw [f71] at e71
        clear f71
        have e9 := hA.pre 9 (by kernel_rfl)
        simp only [List.getElem?_toArray, List.getElem?_cons_succ, List.getElem?_cons_zero] at e9
        have hBq : wr.heap[wx10.heap.size]? = _ := (hA.bl _ hlt_s (fun q h => absurd h (Nat.not_lt_zero q))).trans HB_s.out
        have q0 := cell_at (v := .bool b_s) hBq 0 rfl
        have q1 := cell_at (v := .slice o_s l_s k_s) hBq 1 rfl
        clear hBq
        clear hA
        refine ⟨((Rely.wanted_at rfl (by rfl) e71).trans (by rfl)), ?_⟩
        go_simp <;> (try with_reducible rfl)
      refine Rely.Chain.call (fun _ v w => CI w v (N1 * sgnZ N1) 8) (fun _ _ _ _ h hb => h.below hb) (fun _ _ _ _ _ h hp => h.keeps hp.keeps) (by rfl) (fun T xs wr hA => ?_) ?_
      · have e71 := hA.tm 16 71 (by rfl) (by rfl)
        have f71 : xs 16 = _ := hA.fa 16 (by rfl)
        (try simp (disch := first | rfl | decide) only [Rely.mask_in] at f71)
        rw [f71] at e71
        clear f71
        have e78 := hA.tm 23 78 (by rfl) (by rfl)
        have f78 : xs 23 = _ := hA.fa 23 (by rfl)
        (try simp (disch := first | rfl | decide) only [Rely.mask_in] at f78)
        rw [f78] at e78
        clear f78
        have e79 := hA.tm 24 79 (by rfl) (by rfl)
        have f79 : xs 24 = _ := hA.fa 24 (by rfl)
        (try simp (disch := first | rfl | decide) only [Rely.mask_in] at f79)
        rw [f79] at e79
        clear f79
        have hkp := undrewK hA.kp
        have hbw := undrew (hA.be _ (Nat.le_refl _) (fun q h => absurd h (Nat.not_lt_zero q)))
        have z1 := z1.keeps hkp
        have c_s := c_s.keeps hkp
        clear hA
        refine ⟨((Rely.wanted_at rfl (by rfl) e71).trans (by rfl)), fun K hK => ?_⟩
        clear e71
        go_simp
        refine (wmul_any _ _ N1 (sgnZ N1) 6 2 _ z1 c_s.gi (by omega) (by omega)).mono ?_
        rintro e wq ⟨v, rfl, c, hb⟩
        exact hK.out _ _ c hb
      refine Rely.Chain.call (fun _ v _ => v = .bool true) (fun _ _ _ _ h _ => h) (fun _ _ _ _ _ h _ => h) (by rfl) (fun T xs wr hA => ?_) ?_
      · have e71 := hA.tm 16 71 (by rfl) (by rfl)
        have f71 : xs 16 = _ := hA.fa 16 (by rfl)
        (try simp (disch := first | rfl | decide) only [Rely.mask_in] at f71)
        rw [f71] at e71
        clear f71
        have e72 := hA.tm 17 72 (by rfl) (by rfl)
        have f72 : xs 17 = _ := hA.fa 17 (by rfl)
        (try simp (disch := first | rfl | decide) only [Rely.mask_in] at f72)
        rw [f72] at e72
        clear f72
        have e76 := hA.tm 21 76 (by rfl) (by rfl)
        have e80 := hA.tm 25 80 (by rfl) (by rfl)
        have hkp := undrewK hA.kp
        have hbw := undrew (hA.be _ (Nat.le_refl _) (fun q h => absurd h (Nat.not_lt_zero q)))
        have c_f := c_f.keeps hkp
        have c_x : CI wr (xs 21) (N0 * sgnZ N1) 8 := hA.fa 21 (by rfl)
        have c_y : CI wr (xs 25) (N1 * sgnZ N1) 8 := hA.fa 25 (by rfl)
        clear hA
        refine ⟨((Rely.wanted_at rfl (by rfl) e71).trans (by rfl)), fun K hK => ?_⟩
        clear e71
        go_simp
        refine (is_right c_f c_x.gi c_y.gi (by omega) (by omega) (by omega) HI.out).mono ?_
        rintro e wq ⟨rfl, hb⟩
        exact hK.out _ _ rfl hb
      refine Rely.Chain.det ?_ (by rfl) (fun T xs wr hA => ?_) ?_
      rotate_left 1
      · have e71 := hA.tm 16 71 (by rfl) (by rfl)
        have f71 : xs 16 = _ := hA.fa 16 (by rfl)
        (try simp (disch := first | rfl | decide) only [Rely.mask_in] at f71)
        rw [f71] at e71
        clear f71
        have e81 := hA.tm 26 81 (by rfl) (by rfl)
        have f81 : xs 26 = (.bool true) := hA.fa 26 (by rfl)
        rw [f81] at e81
        clear f81
        clear hA
        refine ⟨(by rfl), ?_⟩
        go_simp <;> (try with_reducible rfl)
      refine Rely.Chain.det ?_ (by rfl) (fun T xs wr hA => ?_) ?_
      rotate_left 1
      · have e82 := hA.tm 27 82 (by rfl) (by rfl)
        have f82 : xs 27 = _ := hA.fa 27 (by rfl)
        (try simp (disch := first | rfl | decide) only [Rely.mask_in] at f82)
        rw [f82] at e82
        clear f82
        clear hA
        refine ⟨(by rfl), ?_⟩
        go_simp <;> (try with_reducible rfl)
      refine Rely.Chain.done (fun xs wx12 hL => ?_)
      obtain ⟨⟨hbe, hbl, hkp0⟩, hf, hp, hn⟩ := hL
      have f0 : xs 0 = _ := hf 0 (by decide)
      (try simp (disch := first | rfl | decide) only [Rely.mask_in] at f0)
      have f1 : xs 1 = _ := hf 1 (by decide)
      (try simp (disch := first | rfl | decide) only [Rely.mask_in] at f1)
      have f2 : xs 2 = _ := hf 2 (by decide)
      (try simp (disch := first | rfl | decide) only [Rely.mask_in] at f2)
      have f3 : xs 3 = _ := hf 3 (by decide)
      (try simp (disch := first | rfl | decide) only [Rely.mask_in] at f3)
      have f4 : xs 4 = _ := hf 4 (by decide)
      (try simp (disch := first | rfl | decide) only [Rely.mask_in] at f4)
      have f5 : xs 5 = _ := hf 5 (by decide)
      (try simp (disch := first | rfl | decide) only [Rely.mask_in] at f5)
      have f6 : xs 6 = (.bool true) := hf 6 (by decide)
      have f7 : xs 7 = _ := hf 7 (by decide)
      (try simp (disch := first | rfl | decide) only [Rely.mask_in] at f7)
      have f8 : xs 8 = _ := hf 8 (by decide)
      (try simp (disch := first | rfl | decide) only [Rely.mask_in] at f8)
      have f9 : xs 9 = _ := hf 9 (by decide)
      (try simp (disch := first | rfl | decide) only [Rely.mask_in] at f9)
      have f10 : xs 10 = _ := hf 10 (by decide)
      (try simp (disch := first | rfl | decide) only [Rely.mask_in] at f10)
      have c_p : CQ wx12 (xs 11) (mkRat N0 D0 / mkRat N1 D1 * mkRat N1 D1) 74 := hf 11 (by decide)
      have f12 : xs 12 = _ := hf 12 (by decide)
      (try simp (disch := first | rfl | decide) only [Rely.mask_in] at f12)
      have f13 : xs 13 = (.int .i64 0) := hf 13 (by decide)
      have f14 : xs 14 = _ := hf 14 (by decide)
      (try simp (disch := first | rfl | decide) only [Rely.mask_in] at f14)
      have f15 : xs 15 = _ := hf 15 (by decide)
      (try simp (disch := first | rfl | decide) only [Rely.mask_in] at f15)
      have f16 : xs 16 = _ := hf 16 (by decide)
      (try simp (disch := first | rfl | decide) only [Rely.mask_in] at f16)
      have f17 : xs 17 = _ := hf 17 (by decide)
      (try simp (disch := first | rfl | decide) only [Rely.mask_in] at f17)
      have f18 : xs 18 = _ := hf 18 (by decide)
      (try simp (disch := first | rfl | decide) only [Rely.mask_in] at f18)
      have f19 : xs 19 = _ := hf 19 (by decide)
      (try simp (disch := first | rfl | decide) only [Rely.mask_in] at f19)
      have f20 : xs 20 = _ := hf 20 (by decide)
      (try simp (disch := first | rfl | decide) only [Rely.mask_in] at f20)
      have c_x : CI wx12 (xs 21) (N0 * sgnZ N1) 8 := hf 21 (by decide)
      have f22 : xs 22 = _ := hf 22 (by decide)
      (try simp (disch := first | rfl | decide) only [Rely.mask_in] at f22)
      have f23 : xs 23 = _ := hf 23 (by decide)
      (try simp (disch := first | rfl | decide) only [Rely.mask_in] at f23)
      have f24 : xs 24 = _ := hf 24 (by decide)
      (try simp (disch := first | rfl | decide) only [Rely.mask_in] at f24)
      have c_y : CI wx12 (xs 25) (N1 * sgnZ N1) 8 := hf 25 (by decide)
      have f26 : xs 26 = (.bool true) := hf 26 (by decide)
      have f27 : xs 27 = _ := hf 27 (by decide)
      (try simp (disch := first | rfl | decide) only [Rely.mask_in] at f27)
      have f28 : xs 28 = _ := hf 28 (by decide)
      (try simp (disch := first | rfl | decide) only [Rely.mask_in] at f28)
      clear hf hp hn
      refine Rely.rest_done ?_
      simp only [Rely.fill, List.setIfInBounds_toArray, List.set_cons_zero, List.set_cons_succ, f0, f1, f2, f3, f4, f5, f6, f7, f8, f9, f10, f12, f13, f14, f15, f16, f17, f18, f19, f20, f22, f23, f24, f26, f27, f28]
      clear f0 f1 f2 f3 f4 f5 f6 f7 f8 f9 f10 f12 f13 f14 f15 f16 f17 f18 f19 f20 f22 f23 f24 f26 f27 f28
      generalize xs 11 = v_p at c_p ⊢
      generalize xs 21 = v_x at c_x ⊢
      generalize xs 25 = v_y at c_y ⊢
      clear xs
      obtain ⟨b_p, o_p, l_p, k_p, p_p, m_p, u_p, rfl⟩ := c_p.shape
      obtain ⟨b_x, o_x, l_x, k_x, rfl⟩ := c_x.shape
      obtain ⟨b_y, o_y, l_y, k_y, rfl⟩ := c_y.shape
      have hbx := undrew (hbe _ (Nat.le_refl _) (fun q h => absurd h (Nat.not_lt_zero q)))
      clear hbe hbl hkp0
      replace g0 := g0.below hbx
      replace g1 := g1.below hbx
      replace z0 := z0.below hbx
      replace z1 := z1.below hbx
      replace c_q := c_q.below hbx
      replace c_f := c_f.below hbx
      replace c_s := c_s.below hbx
      replace hbt := hbt.trans (hbx.mono hbt.size)
      replace HB_x0 := Lib.hid ((hbx.block _ (lt_of_block HB_x0.out)).trans HB_x0.out)
      replace HB_x1 := Lib.hid ((hbx.block _ (lt_of_block HB_x1.out)).trans HB_x1.out)
      replace HB_q := Lib.hid ((hbx.block _ (lt_of_block HB_q.out)).trans HB_q.out)
      replace HB_f := Lib.hid ((hbx.block _ (lt_of_block HB_f.out)).trans HB_f.out)
      replace HB_s := Lib.hid ((hbx.block _ (lt_of_block HB_s.out)).trans HB_s.out)
      clear hbx
      replace x00 := cell_at (v := .bool b0) HB_x0.out 0 rfl
      replace x01 := cell_at (v := .slice o0 n0 m0) HB_x0.out 1 rfl
      replace x02 := cell_at (v := .slice p0 l0 e0) HB_x0.out 2 rfl
      replace x10 := cell_at (v := .bool b1) HB_x1.out 0 rfl
      replace x11 := cell_at (v := .slice o1 n1 m1) HB_x1.out 1 rfl
      replace x12 := cell_at (v := .slice p1 l1 e1) HB_x1.out 2 rfl
      replace q0 := cell_at (v := .bool b_q) HB_q.out 0 rfl
      replace q1 := cell_at (v := .slice o_q l_q k_q) HB_q.out 1 rfl
      replace q2 := cell_at (v := .slice p_q m_q u_q) HB_q.out 2 rfl
      replace f0 := cell_at (v := .bool b_f) HB_f.out 0 rfl
      replace f1 := cell_at (v := .slice o_f l_f k_f) HB_f.out 1 rfl
      replace f2 := cell_at (v := .slice p_f m_f u_f) HB_f.out 2 rfl
      replace s0 := cell_at (v := .bool b_s) HB_s.out 0 rfl
      replace s1 := cell_at (v := .slice o_s l_s k_s) HB_s.out 1 rfl
      clear hlt_x0 hlt_x1 hlt_q hlt_f hlt_s
      go_wp2_with fail
      go_ret
      exact ⟨rfl, hbt⟩
  · have HS := Lib.hid hs
    clear hs a0 a1
    have hbt := Below.refl w.heap.size w
    go_enter Tryd.func4, Tryd.ntmps4
    go_wp2_with fail
    have hbx : Below w.heap.size w ((w.alloc (.cells #[.bool b0, .slice o0 n0 m0, .slice p0 l0 e0] 27)).alloc (.cells #[.bool b1, .slice o1 n1 m1, .slice p1 l1 e1] 27)) := (((Below.refl _ _).alloc (by simp) _).alloc (by simp) _)
    replace hbt := hbt.trans (hbx.mono hbt.size)
    clear hbx
    have HB_x0 : Hid (((w.alloc (.cells #[.bool b0, .slice o0 n0 m0, .slice p0 l0 e0] 27)).alloc (.cells #[.bool b1, .slice o1 n1 m1, .slice p1 l1 e1] 27)).heap[w.heap.size]? = some (.cells #[.bool b0, .slice o0 n0 m0, .slice p0 l0 e0] 27 (0, 0))) := Lib.hid (made_more (made_at w (.cells #[.bool b0, .slice o0 n0 m0, .slice p0 l0 e0] 27) _ (by first | rfl | simp)) _)
    have HB_x1 : Hid (((w.alloc (.cells #[.bool b0, .slice o0 n0 m0, .slice p0 l0 e0] 27)).alloc (.cells #[.bool b1, .slice o1 n1 m1, .slice p1 l1 e1] 27)).heap[w.heap.size + 1]? = some (.cells #[.bool b1, .slice o1 n1 m1, .slice p1 l1 e1] 27 (0, 0))) := Lib.hid (made_at (w.alloc (.cells #[.bool b0, .slice o0 n0 m0, .slice p0 l0 e0] 27)) (.cells #[.bool b1, .slice o1 n1 m1, .slice p1 l1 e1] 27) _ (by first | rfl | simp))
    generalize ((w.alloc (.cells #[.bool b0, .slice o0 n0 m0, .slice p0 l0 e0] 27)).alloc (.cells #[.bool b1, .slice o1 n1 m1, .slice p1 l1 e1] 27)) = wx1 at *
    have x00 := cell_at (v := .bool b0) HB_x0.out 0 rfl
    have x01 := cell_at (v := .slice o0 n0 m0) HB_x0.out 1 rfl
    have x02 := cell_at (v := .slice p0 l0 e0) HB_x0.out 2 rfl
    have x10 := cell_at (v := .bool b1) HB_x1.out 0 rfl
    have x11 := cell_at (v := .slice o1 n1 m1) HB_x1.out 1 rfl
    have x12 := cell_at (v := .slice p1 l1 e1) HB_x1.out 2 rfl
    refine (HF.out _ (tab_below HTB.out hbt)).mono ?_
    rintro e wx2 ⟨rfl, hbx⟩
    replace hbt := hbt.trans (hbx.mono hbt.size)
    replace HB_x0 := Lib.hid ((hbx.block _ (lt_of_block HB_x0.out)).trans HB_x0.out)
    replace HB_x1 := Lib.hid ((hbx.block _ (lt_of_block HB_x1.out)).trans HB_x1.out)
    clear hbx
    replace x00 := cell_at (v := .bool b0) HB_x0.out 0 rfl
    replace x01 := cell_at (v := .slice o0 n0 m0) HB_x0.out 1 rfl
    replace x02 := cell_at (v := .slice p0 l0 e0) HB_x0.out 2 rfl
    replace x10 := cell_at (v := .bool b1) HB_x1.out 0 rfl
    replace x11 := cell_at (v := .slice o1 n1 m1) HB_x1.out 1 rfl
    replace x12 := cell_at (v := .slice p1 l1 e1) HB_x1.out 2 rfl
    go_wp2_with fail
    refine (qshort_f2 6 _ rfl HS.out).mono ?_
    rintro e wx3 ⟨rfl, hbx⟩
    replace hbt := hbt.trans (hbx.mono hbt.size)
    replace HB_x0 := Lib.hid ((hbx.block _ (lt_of_block HB_x0.out)).trans HB_x0.out)
    replace HB_x1 := Lib.hid ((hbx.block _ (lt_of_block HB_x1.out)).trans HB_x1.out)
    clear hbx
    replace x00 := cell_at (v := .bool b0) HB_x0.out 0 rfl
    replace x01 := cell_at (v := .slice o0 n0 m0) HB_x0.out 1 rfl
    replace x02 := cell_at (v := .slice p0 l0 e0) HB_x0.out 2 rfl
    replace x10 := cell_at (v := .bool b1) HB_x1.out 0 rfl
    replace x11 := cell_at (v := .slice o1 n1 m1) HB_x1.out 1 rfl
    replace x12 := cell_at (v := .slice p1 l1 e1) HB_x1.out 2 rfl
    go_wp2_with fail
    go_ret
    exact ⟨rfl, hbt⟩
end Go.Proofs.YtmindndmegiaaaaDoor
