/-
  The walk of the law RatioFloors.
-/
import Derived.Test.YtmindndmegiaaaaDoorQHat
namespace Go.Proofs.YtmindndmegiaaaaDoor
open Go.RowKit
set_option maxRecDepth 100000

set_option maxHeartbeats 8000000 in
theorem ratioFloors_walk (b0 : Bool) (o0 : Option Addr) (n0 m0 : Nat) (p0 : Option Addr) (l0 e0 : Nat) (xs0 ys0 : List Nat) (w : World) (a0 : ArgQ w b0 o0 n0 m0 p0 l0 e0 xs0 ys0) (htab : Lib.TabIs Tryd.prog w "internal/strconv.uint64pow10" .u64 Lib.pow10Tab) :
    Calls Tryd.prog 6 #[.agg #[.bool b0, .slice o0 n0 m0, .slice p0 l0 e0]] w fun e w' => e = .returned (.bool true) ∧ Below w.heap.size w w' := by
  have HF := Lib.hid qfitOk
  have HTB := Lib.hid htab
  clear htab
  by_cases hs : (n0 ≤ 10 ∧ l0 ≤ 10)
  · have h0 := hs
    obtain ⟨N, D, g0⟩ := a0.gq h0
    clear a0
    have q0 := g0.hq
    have hD := g0.pos
    have HW := Lib.hid (ceil_same N D)
    have e1 : decide (0 < cmpQ ((Int.fdiv N D : Int) : Rat) (mkRat N D)) = false := decide_eq_false (mt cmpQ_pos.1 (Rat.not_lt.2 (floor_le N hD)))
    have e2 : decide (cmpQ ((ceilZ N D : Int) : Rat) (mkRat N D) < 0) = false := decide_eq_false (mt cmpQ_neg.1 (Rat.not_lt.2 (le_ceil N hD)))
    have e3 : decide (cmpQ (((Int.fdiv N D : Int) : Rat) + (1 : Rat)) (mkRat N D) ≤ 0) = false := by
      refine decide_eq_false (Int.not_le.2 (cmpQ_pos.2 ?_))
      rw [← Rat.intCast_one, ← Rat.intCast_add]; exact lt_floor N hD
    have e4 : decide (0 ≤ cmpQ (((ceilZ N D : Int) : Rat) - (1 : Rat)) (mkRat N D)) = false := decide_eq_false (Int.not_le.2 (cmpQ_neg.2 (ceil_lt N hD)))
    clear hD
    have hbt := Below.refl w.heap.size w
    go_enter Tryd.func6, Tryd.ntmps6
    go_wp2_with fail
    have hbx : Below w.heap.size w (w.alloc (.cells #[.bool b0, .slice o0 n0 m0, .slice p0 l0 e0] 27)) := ((Below.refl _ _).alloc (by simp) _)
    replace g0 := g0.below hbx
    replace q0 := q0.below hbx
    replace hbt := hbt.trans (hbx.mono hbt.size)
    clear hbx
    have HB_x0 : Hid ((w.alloc (.cells #[.bool b0, .slice o0 n0 m0, .slice p0 l0 e0] 27)).heap[w.heap.size]? = some (.cells #[.bool b0, .slice o0 n0 m0, .slice p0 l0 e0] 27 (0, 0))) := Lib.hid (made_at w (.cells #[.bool b0, .slice o0 n0 m0, .slice p0 l0 e0] 27) _ (by first | rfl | simp))
    generalize (w.alloc (.cells #[.bool b0, .slice o0 n0 m0, .slice p0 l0 e0] 27)) = wx1 at *
    have x00 := cell_at (v := .bool b0) HB_x0.out 0 rfl
    have x01 := cell_at (v := .slice o0 n0 m0) HB_x0.out 1 rfl
    have x02 := cell_at (v := .slice p0 l0 e0) HB_x0.out 2 rfl
    refine (HF.out _ (tab_below HTB.out hbt)).mono ?_
    rintro e wx2 ⟨rfl, hbx⟩
    replace g0 := g0.below hbx
    replace q0 := q0.below hbx
    replace hbt := hbt.trans (hbx.mono hbt.size)
    replace HB_x0 := Lib.hid ((hbx.block _ (lt_of_block HB_x0.out)).trans HB_x0.out)
    clear hbx
    replace x00 := cell_at (v := .bool b0) HB_x0.out 0 rfl
    replace x01 := cell_at (v := .slice o0 n0 m0) HB_x0.out 1 rfl
    replace x02 := cell_at (v := .slice p0 l0 e0) HB_x0.out 2 rfl
    go_wp2_with fail
    refine (qshort_t1 10 _ rfl h0).mono ?_
    rintro e wx3 ⟨rfl, hbx⟩
    replace g0 := g0.below hbx
    replace q0 := q0.below hbx
    replace hbt := hbt.trans (hbx.mono hbt.size)
    replace HB_x0 := Lib.hid ((hbx.block _ (lt_of_block HB_x0.out)).trans HB_x0.out)
    clear hbx
    replace x00 := cell_at (v := .bool b0) HB_x0.out 0 rfl
    replace x01 := cell_at (v := .slice o0 n0 m0) HB_x0.out 1 rfl
    replace x02 := cell_at (v := .slice p0 l0 e0) HB_x0.out 2 rfl
    go_wp2_with fail
    have hlt_x0 := lt_of_block HB_x0.out
    have hla_x0_wx3 : w.heap.size < wx3.heap.size := hlt_x0
    refine Rely.region (by kernel_rfl) [[], [0], [], [0, 1, 2], [], [], [0, 1, 2, 3, 4, 5], [0, 1, 2, 3, 4, 5, 6]] [4, 5] [(6, 4), (7, 5)] (fun q => [].getD q 0) 0 8 (by kernel_rfl) (by kernel_rfl) (fun q h => absurd h (Nat.not_lt_zero q)) (fun q _ h => absurd h (Nat.not_lt_zero q)) ?_
    refine Rely.Chain.det ?_ (by rfl) (fun T xs wr hA => ?_) ?_
    rotate_left 1
    · have e1 := hA.pre 1 (by kernel_rfl)
      simp only [List.getElem?_toArray, List.getElem?_cons_succ, List.getElem?_cons_zero] at e1
      have hBq : wr.heap[w.heap.size]? = _ := (hA.bl _ hlt_x0 (fun q h => absurd h (Nat.not_lt_zero q))).trans HB_x0.out
      have q0 := cell_at (v := .bool b0) hBq 0 rfl
      have q1 := cell_at (v := .slice o0 n0 m0) hBq 1 rfl
      have q2 := cell_at (v := .slice p0 l0 e0) hBq 2 rfl
      clear hBq
      clear hA
      refine ⟨(by rfl), ?_⟩
      go_simp <;> (try with_reducible rfl)
    refine Rely.Chain.call (fun _ v w => CI w v (Int.fdiv N D) 14) (fun _ _ _ _ h hb => h.below hb) (fun _ _ _ _ _ h hp => h.keeps hp.keeps) (by rfl) (fun T xs wr hA => ?_) ?_
    · have e14 := hA.tm 0 14 (by rfl) (by rfl)
      have f14 : xs 0 = _ := hA.fa 0 (by rfl)
      (try simp (disch := first | rfl | decide) only [Rely.mask_in] at f14)
      rw [f14] at e14
      clear f14
      have hkp := undrewK hA.kp
      have hbw := undrew (hA.be _ (Nat.le_refl _) (fun q h => absurd h (Nat.not_lt_zero q)))
      have g0 := g0.keeps hkp
      clear hA
      refine ⟨(by rfl), fun K hK => ?_⟩
      go_simp
      refine (qfloor_any g0 (by omega)).mono ?_
      rintro e wq ⟨v, rfl, c, hb⟩
      exact hK.out _ _ c hb
    refine Rely.Chain.det ?_ (by rfl) (fun T xs wr hA => ?_) ?_
    rotate_left 1
    · have e1 := hA.pre 1 (by kernel_rfl)
      simp only [List.getElem?_toArray, List.getElem?_cons_succ, List.getElem?_cons_zero] at e1
      have hBq : wr.heap[w.heap.size]? = _ := (hA.bl _ hlt_x0 (fun q h => absurd h (Nat.not_lt_zero q))).trans HB_x0.out
      have q0 := cell_at (v := .bool b0) hBq 0 rfl
      have q1 := cell_at (v := .slice o0 n0 m0) hBq 1 rfl
      have q2 := cell_at (v := .slice p0 l0 e0) hBq 2 rfl
      clear hBq
      clear hA
      refine ⟨(by rfl), ?_⟩
      go_simp <;> (try with_reducible rfl)
    refine Rely.Chain.call (fun _ v w => CI w v (ceilZ N D) 16) (fun _ _ _ _ h hb => h.below hb) (fun _ _ _ _ _ h hp => h.keeps hp.keeps) (by rfl) (fun T xs wr hA => ?_) ?_
    · have e16 := hA.tm 2 16 (by rfl) (by rfl)
      have f16 : xs 2 = _ := hA.fa 2 (by rfl)
      (try simp (disch := first | rfl | decide) only [Rely.mask_in] at f16)
      rw [f16] at e16
      clear f16
      have hkp := undrewK hA.kp
      have hbw := undrew (hA.be _ (Nat.le_refl _) (fun q h => absurd h (Nat.not_lt_zero q)))
      have g0 := g0.keeps hkp
      clear hA
      refine ⟨(by rfl), fun K hK => ?_⟩
      go_simp
      refine (qceil_any g0 (by omega)).mono ?_
      rintro e wq ⟨v, rfl, c, hb⟩
      exact hK.out _ _ c hb
    refine Rely.Chain.alloc ?_ ?_ (by rfl) (fun Ts xs wr hA => ?_) ?_ ?_
    rotate_left 2
    · clear hA
      refine ⟨(by rfl), fun K hK => ?_⟩
      go_simp
      exact hK.out
    · rfl
    refine Rely.Chain.alloc ?_ ?_ (by rfl) (fun Ts xs wr hA => ?_) ?_ ?_
    rotate_left 2
    · clear hA
      refine ⟨(by rfl), fun K hK => ?_⟩
      go_simp
      exact hK.out
    · rfl
    refine Rely.Chain.store 4 1 25 2 (by rfl) (by rfl) (by decide) (by rfl) rfl (fun T xs wr g c hA hx hB hn hi => ?_) ?_
    · have e3 := hA.tm 4 3 (by rfl) (by rfl)
      rw [hx] at e3
      have e15 := hA.tm 1 15 (by rfl) (by rfl)
      have hc : CI wr (xs 1) (Int.fdiv N D) 14 := hA.fa 1 (by rfl)
      obtain ⟨b_h, o_h, l_h, k_h, hv⟩ := hc.shape
      clear hc
      rw [hv] at e15
      obtain ⟨c0, c1, rfl⟩ := two_of hn
      have z0 := cell_at hB 0 rfl
      have z1 := cell_at hB 1 rfl
      have fz0 := froz_at hB 0
      have fz1 := froz_at hB 1
      clear hA hn
      refine ⟨(by rfl), fun K hK => ?_⟩
      go_simp
      exact hK.out _ _ hv (hset2 hB _ _) (priv2 hB hi (by rfl))
    refine Rely.Chain.store 5 3 25 2 (by rfl) (by rfl) (by decide) (by rfl) rfl (fun T xs wr g c hA hx hB hn hi => ?_) ?_
    · have e4 := hA.tm 5 4 (by rfl) (by rfl)
      rw [hx] at e4
      have e17 := hA.tm 3 17 (by rfl) (by rfl)
      have hc : CI wr (xs 3) (ceilZ N D) 16 := hA.fa 3 (by rfl)
      obtain ⟨b_h, o_h, l_h, k_h, hv⟩ := hc.shape
      clear hc
      rw [hv] at e17
      obtain ⟨c0, c1, rfl⟩ := two_of hn
      have z0 := cell_at hB 0 rfl
      have z1 := cell_at hB 1 rfl
      have fz0 := froz_at hB 0
      have fz1 := froz_at hB 1
      clear hA hn
      refine ⟨(by rfl), fun K hK => ?_⟩
      go_simp
      exact hK.out _ _ hv (hset2 hB _ _) (priv2 hB hi (by rfl))
    refine Rely.Chain.done (fun xs wx4 hL => ?_)
    obtain ⟨⟨hbe, hbl, hkp0⟩, hf, hp, hn⟩ := hL
    have f0 : xs 0 = _ := hf 0 (by decide)
    (try simp (disch := first | rfl | decide) only [Rely.mask_in] at f0)
    have c_f : CI wx4 (xs 1) (Int.fdiv N D) 14 := hf 1 (by decide)
    have f2 : xs 2 = _ := hf 2 (by decide)
    (try simp (disch := first | rfl | decide) only [Rely.mask_in] at f2)
    have c_c : CI wx4 (xs 3) (ceilZ N D) 16 := hf 3 (by decide)
    obtain ⟨g_f, cc, f4, hv, hB_f⟩ := hf 6 (by decide)
    change xs 4 = _ at f4
    change xs 1 = _ at hv
    obtain ⟨b_f, o_f, l_f, k_f, hs_f⟩ := c_f.shape
    rw [hs_f] at hv
    injection hv with hv
    subst hv
    have hg_f : wx3.heap.size ≤ g_f := by obtain ⟨g, h1, h2, -⟩ := hp 4 (by rfl) (by decide); rw [f4] at h1; injection h1 with h1; injection h1 with h1; injection h1 with h1; subst h1; exact h2
    obtain ⟨g_c, cc, f5, hv, hB_c⟩ := hf 7 (by decide)
    change xs 5 = _ at f5
    change xs 3 = _ at hv
    obtain ⟨b_c, o_c, l_c, k_c, hs_c⟩ := c_c.shape
    rw [hs_c] at hv
    injection hv with hv
    subst hv
    have hg_c : wx3.heap.size ≤ g_c := by obtain ⟨g, h1, h2, -⟩ := hp 5 (by rfl) (by decide); rw [f5] at h1; injection h1 with h1; injection h1 with h1; injection h1 with h1; subst h1; exact h2
    have hne_f_c : g_f ≠ g_c := fun h => hn 4 5 (by rfl) (by rfl) (by decide) (by decide) (by decide) (by rw [f4, f5, h])
    clear hf hp hn
    refine Rely.rest_done ?_
    rw [hs_f] at c_f
    rw [hs_c] at c_c
    simp only [Rely.fill, List.setIfInBounds_toArray, List.set_cons_zero, List.set_cons_succ, f0, f2, f4, f5, hs_f, hs_c]
    clear f0 f2 f4 f5 hs_f hs_c
    clear xs
    have hbx := undrew (hbe _ (Nat.le_refl _) (fun q h => absurd h (Nat.not_lt_zero q)))
    clear hbe hbl hkp0
    replace g0 := g0.below hbx
    replace q0 := q0.below hbx
    replace hbt := hbt.trans (hbx.mono hbt.size)
    replace HB_x0 := Lib.hid ((hbx.block _ (lt_of_block HB_x0.out)).trans HB_x0.out)
    clear hbx
    replace x00 := cell_at (v := .bool b0) HB_x0.out 0 rfl
    replace x01 := cell_at (v := .slice o0 n0 m0) HB_x0.out 1 rfl
    replace x02 := cell_at (v := .slice p0 l0 e0) HB_x0.out 2 rfl
    have HB_f := Lib.hid hB_f
    clear hB_f
    have f0 := cell_at (v := .bool b_f) HB_f.out 0 rfl
    have f1 := cell_at (v := .slice o_f l_f k_f) HB_f.out 1 rfl
    have HB_c := Lib.hid hB_c
    clear hB_c
    have c0 := cell_at (v := .bool b_c) HB_c.out 0 rfl
    have c1 := cell_at (v := .slice o_c l_c k_c) HB_c.out 1 rfl
    clear hlt_x0
    go_wp2_with fail
    refine (wof_any 1 _ (by decide) (by decide)).mono ?_
    rintro e wx5 ⟨v_u, rfl, c_u, hbx⟩
    replace g0 := g0.below hbx
    replace q0 := q0.below hbx
    replace c_f := c_f.below hbx
    replace c_c := c_c.below hbx
    replace hbt := hbt.trans (hbx.mono hbt.size)
    replace HB_x0 := Lib.hid ((hbx.block _ (lt_of_block HB_x0.out)).trans HB_x0.out)
    replace HB_f := Lib.hid ((hbx.block _ (lt_of_block HB_f.out)).trans HB_f.out)
    replace HB_c := Lib.hid ((hbx.block _ (lt_of_block HB_c.out)).trans HB_c.out)
    clear hbx
    replace x00 := cell_at (v := .bool b0) HB_x0.out 0 rfl
    replace x01 := cell_at (v := .slice o0 n0 m0) HB_x0.out 1 rfl
    replace x02 := cell_at (v := .slice p0 l0 e0) HB_x0.out 2 rfl
    replace f0 := cell_at (v := .bool b_f) HB_f.out 0 rfl
    replace f1 := cell_at (v := .slice o_f l_f k_f) HB_f.out 1 rfl
    replace c0 := cell_at (v := .bool b_c) HB_c.out 0 rfl
    replace c1 := cell_at (v := .slice o_c l_c k_c) HB_c.out 1 rfl
    obtain ⟨b_u, o_u, l_u, k_u, rfl⟩ := c_u.shape
    go_wp2_with fail
    refine (qof_any c_u.gi (by omega)).mono ?_
    rintro e wx6 ⟨v_v, rfl, c_v, hbx⟩
    replace g0 := g0.below hbx
    replace q0 := q0.below hbx
    replace c_f := c_f.below hbx
    replace c_c := c_c.below hbx
    replace c_u := c_u.below hbx
    replace hbt := hbt.trans (hbx.mono hbt.size)
    replace HB_x0 := Lib.hid ((hbx.block _ (lt_of_block HB_x0.out)).trans HB_x0.out)
    replace HB_f := Lib.hid ((hbx.block _ (lt_of_block HB_f.out)).trans HB_f.out)
    replace HB_c := Lib.hid ((hbx.block _ (lt_of_block HB_c.out)).trans HB_c.out)
    clear hbx
    replace x00 := cell_at (v := .bool b0) HB_x0.out 0 rfl
    replace x01 := cell_at (v := .slice o0 n0 m0) HB_x0.out 1 rfl
    replace x02 := cell_at (v := .slice p0 l0 e0) HB_x0.out 2 rfl
    replace f0 := cell_at (v := .bool b_f) HB_f.out 0 rfl
    replace f1 := cell_at (v := .slice o_f l_f k_f) HB_f.out 1 rfl
    replace c0 := cell_at (v := .bool b_c) HB_c.out 0 rfl
    replace c1 := cell_at (v := .slice o_c l_c k_c) HB_c.out 1 rfl
    obtain ⟨b_v, o_v, l_v, k_v, p_v, m_v, u_v, rfl⟩ := c_v.shape
    replace c_v := c_v.to (show ((1 : Int) : Rat) = 1 from rfl)
    have hlt_x0 := lt_of_block HB_x0.out
    have hlt_f := lt_of_block HB_f.out
    have hlt_c := lt_of_block HB_c.out
    go_wp2_with fail
    have hla_x0_wx6 : w.heap.size < wx6.heap.size := hlt_x0
    have hla_f_wx6 : g_f < wx6.heap.size := hlt_f
    have hla_c_wx6 : g_c < wx6.heap.size := hlt_c
    clear hlt_x0 hlt_f hlt_c
    have hbx : Below wx6.heap.size wx6 (wx6.alloc (.cells #[.bool b_v, .slice o_v l_v k_v, .slice p_v m_v u_v] 27)) := ((Below.refl _ _).alloc (by simp) _)
    replace g0 := g0.below hbx
    replace q0 := q0.below hbx
    replace c_f := c_f.below hbx
    replace c_c := c_c.below hbx
    replace c_u := c_u.below hbx
    replace c_v := c_v.below hbx
    replace hbt := hbt.trans (hbx.mono hbt.size)
    replace HB_x0 := Lib.hid ((hbx.block _ (lt_of_block HB_x0.out)).trans HB_x0.out)
    replace HB_f := Lib.hid ((hbx.block _ (lt_of_block HB_f.out)).trans HB_f.out)
    replace HB_c := Lib.hid ((hbx.block _ (lt_of_block HB_c.out)).trans HB_c.out)
    clear hbx
    replace x00 := cell_at (v := .bool b0) HB_x0.out 0 rfl
    replace x01 := cell_at (v := .slice o0 n0 m0) HB_x0.out 1 rfl
    replace x02 := cell_at (v := .slice p0 l0 e0) HB_x0.out 2 rfl
    replace f0 := cell_at (v := .bool b_f) HB_f.out 0 rfl
    replace f1 := cell_at (v := .slice o_f l_f k_f) HB_f.out 1 rfl
    replace c0 := cell_at (v := .bool b_c) HB_c.out 0 rfl
    replace c1 := cell_at (v := .slice o_c l_c k_c) HB_c.out 1 rfl
    have HB_v : Hid ((wx6.alloc (.cells #[.bool b_v, .slice o_v l_v k_v, .slice p_v m_v u_v] 27)).heap[wx6.heap.size]? = some (.cells #[.bool b_v, .slice o_v l_v k_v, .slice p_v m_v u_v] 27 (0, 0))) := Lib.hid (made_at wx6 (.cells #[.bool b_v, .slice o_v l_v k_v, .slice p_v m_v u_v] 27) _ (by first | rfl | simp))
    generalize (wx6.alloc (.cells #[.bool b_v, .slice o_v l_v k_v, .slice p_v m_v u_v] 27)) = wx7 at *
    have v0 := cell_at (v := .bool b_v) HB_v.out 0 rfl
    have v1 := cell_at (v := .slice o_v l_v k_v) HB_v.out 1 rfl
    have v2 := cell_at (v := .slice p_v m_v u_v) HB_v.out 2 rfl
    have hlt_x0 := lt_of_block HB_x0.out
    have hlt_f := lt_of_block HB_f.out
    have hlt_c := lt_of_block HB_c.out
    have hlt_v := lt_of_block HB_v.out
    refine Rely.region (by kernel_rfl) [[], [0], [], [0, 1, 2], [0, 1, 2, 3], [0, 1, 2, 3, 4], [0, 1, 2, 3, 4, 5], [0, 1, 2, 3, 4, 5, 6], [0, 1, 2, 3, 4, 5], [0, 1, 2, 3, 4, 5, 6, 7, 8], [0, 1, 2, 3, 4, 5, 6, 7, 8, 9], [0, 1, 2, 3, 4, 5, 6, 7, 8, 9, 10], [0, 1, 2, 3, 4, 5, 6, 7, 8, 9, 10, 11], [0, 1, 2, 3, 4, 5, 6, 7, 8, 9, 10, 11, 12], [0, 1, 2, 3, 4, 5, 6, 7, 8, 9, 10, 11, 12, 13], [0, 1, 2, 3, 4, 5, 6, 7, 8, 9, 10, 11, 12], [0, 1, 2, 3, 4, 5, 6, 7, 8, 9, 10, 11, 12, 13, 14, 15], [0, 1, 2, 3, 4, 5, 6, 7, 8, 9, 10, 11, 12], [0, 1, 2, 3, 4, 5, 6, 7, 8, 9, 10, 11, 12, 13, 14, 15, 16, 17], [0, 1, 2, 3, 4, 5, 6, 7, 8, 9, 10, 11, 12, 13, 14, 15, 16, 17, 18], [0, 1, 2, 3, 4, 5, 6, 7, 8, 9, 10, 11, 12, 13, 14, 15, 16, 17, 18, 19], [0, 1, 2, 3, 4, 5, 6, 7, 8, 9, 10, 11, 12, 13, 14, 15, 16, 17, 18, 19, 20], [0, 1, 2, 3, 4, 5, 6, 7, 8, 9, 10, 11, 12, 13, 14, 15, 16, 17, 18, 19, 20, 21], [0, 1, 2, 3, 4, 5, 6, 7, 8, 9, 10, 11, 12, 13, 14, 15, 16, 17, 18, 19, 20, 21, 22], [0, 1, 2, 3, 4, 5, 6, 7, 8, 9, 10, 11, 12, 13, 14, 15, 16, 17, 18, 19, 20, 21], [0, 1, 2, 3, 4, 5, 6, 7, 8, 9, 10, 11, 12, 13, 14, 15, 16, 17, 18, 19, 20, 21, 22, 23, 24], [0, 1, 2, 3, 4, 5, 6, 7, 8, 9, 10, 11, 12, 13, 14, 15, 16, 17, 18, 19, 20, 21], [0, 1, 2, 3, 4, 5, 6, 7, 8, 9, 10, 11, 12, 13, 14, 15, 16, 17, 18, 19, 20, 21, 22, 23, 24, 25, 26], [0, 1, 2, 3, 4, 5, 6, 7, 8, 9, 10, 11, 12, 13, 14, 15, 16, 17, 18, 19, 20, 21, 22, 23, 24, 25, 26, 27], [0, 1, 2, 3, 4, 5, 6, 7, 8, 9, 10, 11, 12, 13, 14, 15, 16, 17, 18, 19, 20, 21, 22, 23, 24, 25, 26, 27, 28]] [] [] (fun q => [].getD q 0) 0 30 (by kernel_rfl) (by kernel_rfl) (fun q h => absurd h (Nat.not_lt_zero q)) (fun q _ h => absurd h (Nat.not_lt_zero q)) ?_
    refine Rely.Chain.det ?_ (by rfl) (fun T xs wr hA => ?_) ?_
    rotate_left 1
    · have e3 := hA.pre 3 (by kernel_rfl)
      simp only [List.getElem?_toArray, List.getElem?_cons_succ, List.getElem?_cons_zero] at e3
      have hBq : wr.heap[g_f]? = _ := (hA.bl _ hlt_f (fun q h => absurd h (Nat.not_lt_zero q))).trans HB_f.out
      have q0 := cell_at (v := .bool b_f) hBq 0 rfl
      have q1 := cell_at (v := .slice o_f l_f k_f) hBq 1 rfl
      clear hBq
      clear hA
      refine ⟨(by rfl), ?_⟩
      go_simp <;> (try with_reducible rfl)
    refine Rely.Chain.call (fun _ v w => CQ w v ((Int.fdiv N D : Int) : Rat) 15) (fun _ _ _ _ h hb => h.below hb) (fun _ _ _ _ _ h hp => h.keeps hp.keeps) (by rfl) (fun T xs wr hA => ?_) ?_
    · have e20 := hA.tm 0 20 (by rfl) (by rfl)
      have f20 : xs 0 = _ := hA.fa 0 (by rfl)
      (try simp (disch := first | rfl | decide) only [Rely.mask_in] at f20)
      rw [f20] at e20
      clear f20
      have hkp := undrewK hA.kp
      have hbw := undrew (hA.be _ (Nat.le_refl _) (fun q h => absurd h (Nat.not_lt_zero q)))
      have c_f := c_f.keeps hkp
      clear hA
      refine ⟨(by rfl), fun K hK => ?_⟩
      go_simp
      refine (qof_any c_f.gi (by omega)).mono ?_
      rintro e wq ⟨v, rfl, c, hb⟩
      exact hK.out _ _ c hb
    refine Rely.Chain.det ?_ (by rfl) (fun T xs wr hA => ?_) ?_
    rotate_left 1
    · have e1 := hA.pre 1 (by kernel_rfl)
      simp only [List.getElem?_toArray, List.getElem?_cons_succ, List.getElem?_cons_zero] at e1
      have hBq : wr.heap[w.heap.size]? = _ := (hA.bl _ hlt_x0 (fun q h => absurd h (Nat.not_lt_zero q))).trans HB_x0.out
      have q0 := cell_at (v := .bool b0) hBq 0 rfl
      have q1 := cell_at (v := .slice o0 n0 m0) hBq 1 rfl
      have q2 := cell_at (v := .slice p0 l0 e0) hBq 2 rfl
      clear hBq
      clear hA
      refine ⟨(by rfl), ?_⟩
      go_simp <;> (try with_reducible rfl)
    refine Rely.Chain.call (fun _ v _ => v = .int .i64 (cmpQ ((Int.fdiv N D : Int) : Rat) (mkRat N D))) (fun _ _ _ _ h _ => h) (fun _ _ _ _ _ h _ => h) (by rfl) (fun T xs wr hA => ?_) ?_
    · have e21 := hA.tm 1 21 (by rfl) (by rfl)
      have e22 := hA.tm 2 22 (by rfl) (by rfl)
      have f22 : xs 2 = _ := hA.fa 2 (by rfl)
      (try simp (disch := first | rfl | decide) only [Rely.mask_in] at f22)
      rw [f22] at e22
      clear f22
      have hkp := undrewK hA.kp
      have hbw := undrew (hA.be _ (Nat.le_refl _) (fun q h => absurd h (Nat.not_lt_zero q)))
      have c_r1 : CQ wr (xs 1) ((Int.fdiv N D : Int) : Rat) 15 := hA.fa 1 (by rfl)
      have q0 := q0.keeps hkp
      clear hA
      refine ⟨(by rfl), fun K hK => ?_⟩
      go_simp
      refine (hcmp_any c_r1.hq q0 (by omega) (by omega)).mono ?_
      rintro e wq ⟨rfl, hb⟩
      exact hK.out _ _ rfl hb
    refine Rely.Chain.det ?_ (by rfl) (fun T xs wr hA => ?_) ?_
    rotate_left 1
    · have e23 := hA.tm 3 23 (by rfl) (by rfl)
      have f23 : xs 3 = (.int .i64 (cmpQ ((Int.fdiv N D : Int) : Rat) (mkRat N D))) := hA.fa 3 (by rfl)
      rw [f23] at e23
      clear f23
      clear hA
      refine ⟨(by rfl), ?_⟩
      go_simp <;> (try with_reducible rfl)
    refine Rely.Chain.det ?_ (by rfl) (fun T xs wr hA => ?_) ?_
    rotate_left 1
    · have e24 := hA.tm 4 24 (by rfl) (by rfl)
      have f24 : xs 4 = _ := hA.fa 4 (by rfl)
      (try simp (disch := first | rfl | decide) only [Rely.mask_in] at f24)
      rw [f24] at e24
      clear f24
      clear hA
      refine ⟨(by rfl), ?_⟩
      go_simp <;> (try with_reducible rfl)
    refine Rely.Chain.det ?_ (by rfl) (fun T xs wr hA => ?_) ?_
    rotate_left 1
    · have e25 := hA.tm 5 25 (by rfl) (by rfl)
      have f25 : xs 5 = _ := hA.fa 5 (by rfl)
      (try simp (disch := first | rfl | decide) only [Rely.mask_in] at f25)
      rw [f25] at e25
      clear f25
      have e4 := hA.pre 4 (by kernel_rfl)
      simp only [List.getElem?_toArray, List.getElem?_cons_succ, List.getElem?_cons_zero] at e4
      have hBq : wr.heap[g_c]? = _ := (hA.bl _ hlt_c (fun q h => absurd h (Nat.not_lt_zero q))).trans HB_c.out
      have q0 := cell_at (v := .bool b_c) hBq 0 rfl
      have q1 := cell_at (v := .slice o_c l_c k_c) hBq 1 rfl
      clear hBq
      clear hA
      refine ⟨((Rely.wanted_at rfl (by rfl) e25).trans (by rfl)), ?_⟩
      go_simp <;> (try with_reducible rfl)
    refine Rely.Chain.call (fun _ v w => CQ w v ((ceilZ N D : Int) : Rat) 17) (fun _ _ _ _ h hb => h.below hb) (fun _ _ _ _ _ h hp => h.keeps hp.keeps) (by rfl) (fun T xs wr hA => ?_) ?_
    · have e25 := hA.tm 5 25 (by rfl) (by rfl)
      have f25 : xs 5 = _ := hA.fa 5 (by rfl)
      (try simp (disch := first | rfl | decide) only [Rely.mask_in] at f25)
      rw [f25] at e25
      clear f25
      have e26 := hA.tm 6 26 (by rfl) (by rfl)
      have f26 : xs 6 = _ := hA.fa 6 (by rfl)
      (try simp (disch := first | rfl | decide) only [Rely.mask_in] at f26)
      rw [f26] at e26
      clear f26
      have hkp := undrewK hA.kp
      have hbw := undrew (hA.be _ (Nat.le_refl _) (fun q h => absurd h (Nat.not_lt_zero q)))
      have c_c := c_c.keeps hkp
      clear hA
      refine ⟨((Rely.wanted_at rfl (by rfl) e25).trans (by rfl)), fun K hK => ?_⟩
      clear e25
      go_simp
      refine (qof_any c_c.gi (by omega)).mono ?_
      rintro e wq ⟨v, rfl, c, hb⟩
      exact hK.out _ _ c hb
    refine Rely.Chain.det ?_ (by rfl) (fun T xs wr hA => ?_) ?_
    rotate_left 1
    · have e25 := hA.tm 5 25 (by rfl) (by rfl)
      have f25 : xs 5 = _ := hA.fa 5 (by rfl)
      (try simp (disch := first | rfl | decide) only [Rely.mask_in] at f25)
      rw [f25] at e25
      clear f25
      have e1 := hA.pre 1 (by kernel_rfl)
      simp only [List.getElem?_toArray, List.getElem?_cons_succ, List.getElem?_cons_zero] at e1
      have hBq : wr.heap[w.heap.size]? = _ := (hA.bl _ hlt_x0 (fun q h => absurd h (Nat.not_lt_zero q))).trans HB_x0.out
      have q0 := cell_at (v := .bool b0) hBq 0 rfl
      have q1 := cell_at (v := .slice o0 n0 m0) hBq 1 rfl
      have q2 := cell_at (v := .slice p0 l0 e0) hBq 2 rfl
      clear hBq
      clear hA
      refine ⟨((Rely.wanted_at rfl (by rfl) e25).trans (by rfl)), ?_⟩
      go_simp <;> (try with_reducible rfl)
    refine Rely.Chain.call (fun _ v _ => v = .int .i64 (cmpQ ((ceilZ N D : Int) : Rat) (mkRat N D))) (fun _ _ _ _ h _ => h) (fun _ _ _ _ _ h _ => h) (by rfl) (fun T xs wr hA => ?_) ?_
    · have e25 := hA.tm 5 25 (by rfl) (by rfl)
      have f25 : xs 5 = _ := hA.fa 5 (by rfl)
      (try simp (disch := first | rfl | decide) only [Rely.mask_in] at f25)
      rw [f25] at e25
      clear f25
      have e27 := hA.tm 7 27 (by rfl) (by rfl)
      have e28 := hA.tm 8 28 (by rfl) (by rfl)
      have f28 : xs 8 = _ := hA.fa 8 (by rfl)
      (try simp (disch := first | rfl | decide) only [Rely.mask_in] at f28)
      rw [f28] at e28
      clear f28
      have hkp := undrewK hA.kp
      have hbw := undrew (hA.be _ (Nat.le_refl _) (fun q h => absurd h (Nat.not_lt_zero q)))
      have c_r2 : CQ wr (xs 7) ((ceilZ N D : Int) : Rat) 17 := hA.fa 7 (by rfl)
      have q0 := q0.keeps hkp
      clear hA
      refine ⟨((Rely.wanted_at rfl (by rfl) e25).trans (by rfl)), fun K hK => ?_⟩
      clear e25
      go_simp
      refine (hcmp_any c_r2.hq q0 (by omega) (by omega)).mono ?_
      rintro e wq ⟨rfl, hb⟩
      exact hK.out _ _ rfl hb
    refine Rely.Chain.det ?_ (by rfl) (fun T xs wr hA => ?_) ?_
    rotate_left 1
    · have e25 := hA.tm 5 25 (by rfl) (by rfl)
      have f25 : xs 5 = _ := hA.fa 5 (by rfl)
      (try simp (disch := first | rfl | decide) only [Rely.mask_in] at f25)
      rw [f25] at e25
      clear f25
      have e29 := hA.tm 9 29 (by rfl) (by rfl)
      have f29 : xs 9 = (.int .i64 (cmpQ ((ceilZ N D : Int) : Rat) (mkRat N D))) := hA.fa 9 (by rfl)
      rw [f29] at e29
      clear f29
      clear hA
      refine ⟨((Rely.wanted_at rfl (by rfl) e25).trans (by rfl)), ?_⟩
      go_simp <;> (try with_reducible rfl)
    refine Rely.Chain.det ?_ (by rfl) (fun T xs wr hA => ?_) ?_
    rotate_left 1
    · have e25 := hA.tm 5 25 (by rfl) (by rfl)
      have f25 : xs 5 = _ := hA.fa 5 (by rfl)
      (try simp (disch := first | rfl | decide) only [Rely.mask_in] at f25)
      rw [f25] at e25
      clear f25
      have e30 := hA.tm 10 30 (by rfl) (by rfl)
      have f30 : xs 10 = _ := hA.fa 10 (by rfl)
      (try simp (disch := first | rfl | decide) only [Rely.mask_in] at f30)
      rw [f30] at e30
      clear f30
      clear hA
      refine ⟨(by rfl), ?_⟩
      go_simp <;> (try with_reducible rfl)
    refine Rely.Chain.det ?_ (by rfl) (fun T xs wr hA => ?_) ?_
    rotate_left 1
    · have e31 := hA.tm 11 31 (by rfl) (by rfl)
      have f31 : xs 11 = _ := hA.fa 11 (by rfl)
      (try simp (disch := first | rfl | decide) only [Rely.mask_in] at f31)
      rw [f31] at e31
      clear f31
      clear hA
      refine ⟨(by rfl), ?_⟩
      go_simp <;> (try with_reducible rfl)
    refine Rely.Chain.det ?_ (by rfl) (fun T xs wr hA => ?_) ?_
    rotate_left 1
    · have e32 := hA.tm 12 32 (by rfl) (by rfl)
      have f32 : xs 12 = _ := hA.fa 12 (by rfl)
      (try simp (disch := first | rfl | decide) only [Rely.mask_in] at f32)
      rw [f32] at e32
      clear f32
      have e3 := hA.pre 3 (by kernel_rfl)
      simp only [List.getElem?_toArray, List.getElem?_cons_succ, List.getElem?_cons_zero] at e3
      have hBq : wr.heap[g_f]? = _ := (hA.bl _ hlt_f (fun q h => absurd h (Nat.not_lt_zero q))).trans HB_f.out
      have q0 := cell_at (v := .bool b_f) hBq 0 rfl
      have q1 := cell_at (v := .slice o_f l_f k_f) hBq 1 rfl
      clear hBq
      clear hA
      refine ⟨((Rely.wanted_at rfl (by rfl) e32).trans (by rfl)), ?_⟩
      go_simp <;> (try with_reducible rfl)
    refine Rely.Chain.call (fun _ v w => CQ w v ((Int.fdiv N D : Int) : Rat) 15) (fun _ _ _ _ h hb => h.below hb) (fun _ _ _ _ _ h hp => h.keeps hp.keeps) (by rfl) (fun T xs wr hA => ?_) ?_
    · have e32 := hA.tm 12 32 (by rfl) (by rfl)
      have f32 : xs 12 = _ := hA.fa 12 (by rfl)
      (try simp (disch := first | rfl | decide) only [Rely.mask_in] at f32)
      rw [f32] at e32
      clear f32
      have e33 := hA.tm 13 33 (by rfl) (by rfl)
      have f33 : xs 13 = _ := hA.fa 13 (by rfl)
      (try simp (disch := first | rfl | decide) only [Rely.mask_in] at f33)
      rw [f33] at e33
      clear f33
      have hkp := undrewK hA.kp
      have hbw := undrew (hA.be _ (Nat.le_refl _) (fun q h => absurd h (Nat.not_lt_zero q)))
      have c_f := c_f.keeps hkp
      clear hA
      refine ⟨((Rely.wanted_at rfl (by rfl) e32).trans (by rfl)), fun K hK => ?_⟩
      clear e32
      go_simp
      refine (qof_any c_f.gi (by omega)).mono ?_
      rintro e wq ⟨v, rfl, c, hb⟩
      exact hK.out _ _ c hb
    refine Rely.Chain.det ?_ (by rfl) (fun T xs wr hA => ?_) ?_
    rotate_left 1
    · have e32 := hA.tm 12 32 (by rfl) (by rfl)
      have f32 : xs 12 = _ := hA.fa 12 (by rfl)
      (try simp (disch := first | rfl | decide) only [Rely.mask_in] at f32)
      rw [f32] at e32
      clear f32
      have e5 := hA.pre 5 (by kernel_rfl)
      simp only [List.getElem?_toArray, List.getElem?_cons_succ, List.getElem?_cons_zero] at e5
      have hBq : wr.heap[wx6.heap.size]? = _ := (hA.bl _ hlt_v (fun q h => absurd h (Nat.not_lt_zero q))).trans HB_v.out
      have q0 := cell_at (v := .bool b_v) hBq 0 rfl
      have q1 := cell_at (v := .slice o_v l_v k_v) hBq 1 rfl
      have q2 := cell_at (v := .slice p_v m_v u_v) hBq 2 rfl
      clear hBq
      clear hA
      refine ⟨((Rely.wanted_at rfl (by rfl) e32).trans (by rfl)), ?_⟩
      go_simp <;> (try with_reducible rfl)
    refine Rely.Chain.call (fun _ v w => CQ w v (((Int.fdiv N D : Int) : Rat) + (1 : Rat)) 62) (fun _ _ _ _ h hb => h.below hb) (fun _ _ _ _ _ h hp => h.keeps hp.keeps) (by rfl) (fun T xs wr hA => ?_) ?_
    · have e32 := hA.tm 12 32 (by rfl) (by rfl)
      have f32 : xs 12 = _ := hA.fa 12 (by rfl)
      (try simp (disch := first | rfl | decide) only [Rely.mask_in] at f32)
      rw [f32] at e32
      clear f32
      have e34 := hA.tm 14 34 (by rfl) (by rfl)
      have e35 := hA.tm 15 35 (by rfl) (by rfl)
      have f35 : xs 15 = _ := hA.fa 15 (by rfl)
      (try simp (disch := first | rfl | decide) only [Rely.mask_in] at f35)
      rw [f35] at e35
      clear f35
      have hkp := undrewK hA.kp
      have hbw := undrew (hA.be _ (Nat.le_refl _) (fun q h => absurd h (Nat.not_lt_zero q)))
      have c_r3 : CQ wr (xs 14) ((Int.fdiv N D : Int) : Rat) 15 := hA.fa 14 (by rfl)
      have c_v := c_v.keeps hkp
      clear hA
      refine ⟨((Rely.wanted_at rfl (by rfl) e32).trans (by rfl)), fun K hK => ?_⟩
      clear e32
      go_simp
      refine (hadd_any c_r3.hq c_v.hq (by omega) (by omega)).mono ?_
      rintro e wq ⟨v, rfl, c, hb⟩
      exact hK.out _ _ c hb
    refine Rely.Chain.det ?_ (by rfl) (fun T xs wr hA => ?_) ?_
    rotate_left 1
    · have e32 := hA.tm 12 32 (by rfl) (by rfl)
      have f32 : xs 12 = _ := hA.fa 12 (by rfl)
      (try simp (disch := first | rfl | decide) only [Rely.mask_in] at f32)
      rw [f32] at e32
      clear f32
      have e1 := hA.pre 1 (by kernel_rfl)
      simp only [List.getElem?_toArray, List.getElem?_cons_succ, List.getElem?_cons_zero] at e1
      have hBq : wr.heap[w.heap.size]? = _ := (hA.bl _ hlt_x0 (fun q h => absurd h (Nat.not_lt_zero q))).trans HB_x0.out
      have q0 := cell_at (v := .bool b0) hBq 0 rfl
      have q1 := cell_at (v := .slice o0 n0 m0) hBq 1 rfl
      have q2 := cell_at (v := .slice p0 l0 e0) hBq 2 rfl
      clear hBq
      clear hA
      refine ⟨((Rely.wanted_at rfl (by rfl) e32).trans (by rfl)), ?_⟩
      go_simp <;> (try with_reducible rfl)
    refine Rely.Chain.call (fun _ v _ => v = .int .i64 (cmpQ (((Int.fdiv N D : Int) : Rat) + (1 : Rat)) (mkRat N D))) (fun _ _ _ _ h _ => h) (fun _ _ _ _ _ h _ => h) (by rfl) (fun T xs wr hA => ?_) ?_
    · have e32 := hA.tm 12 32 (by rfl) (by rfl)
      have f32 : xs 12 = _ := hA.fa 12 (by rfl)
      (try simp (disch := first | rfl | decide) only [Rely.mask_in] at f32)
      rw [f32] at e32
      clear f32
      have e36 := hA.tm 16 36 (by rfl) (by rfl)
      have e37 := hA.tm 17 37 (by rfl) (by rfl)
      have f37 : xs 17 = _ := hA.fa 17 (by rfl)
      (try simp (disch := first | rfl | decide) only [Rely.mask_in] at f37)
      rw [f37] at e37
      clear f37
      have hkp := undrewK hA.kp
      have hbw := undrew (hA.be _ (Nat.le_refl _) (fun q h => absurd h (Nat.not_lt_zero q)))
      have c_r4 : CQ wr (xs 16) (((Int.fdiv N D : Int) : Rat) + (1 : Rat)) 62 := hA.fa 16 (by rfl)
      have q0 := q0.keeps hkp
      clear hA
      refine ⟨((Rely.wanted_at rfl (by rfl) e32).trans (by rfl)), fun K hK => ?_⟩
      clear e32
      go_simp
      refine (hcmp_any c_r4.hq q0 (by omega) (by omega)).mono ?_
      rintro e wq ⟨rfl, hb⟩
      exact hK.out _ _ rfl hb
    refine Rely.Chain.det ?_ (by rfl) (fun T xs wr hA => ?_) ?_
    rotate_left 1
    · have e32 := hA.tm 12 32 (by rfl) (by rfl)
      have f32 : xs 12 = _ := hA.fa 12 (by rfl)
      (try simp (disch := first | rfl | decide) only [Rely.mask_in] at f32)
      rw [f32] at e32
      clear f32
      have e38 := hA.tm 18 38 (by rfl) (by rfl)
      have f38 : xs 18 = (.int .i64 (cmpQ (((Int.fdiv N D : Int) : Rat) + (1 : Rat)) (mkRat N D))) := hA.fa 18 (by rfl)
      rw [f38] at e38
      clear f38
      clear hA
      refine ⟨((Rely.wanted_at rfl (by rfl) e32).trans (by rfl)), ?_⟩
      go_simp <;> (try with_reducible rfl)
    refine Rely.Chain.det ?_ (by rfl) (fun T xs wr hA => ?_) ?_
    rotate_left 1
    · have e32 := hA.tm 12 32 (by rfl) (by rfl)
      have f32 : xs 12 = _ := hA.fa 12 (by rfl)
      (try simp (disch := first | rfl | decide) only [Rely.mask_in] at f32)
      rw [f32] at e32
      clear f32
      have e39 := hA.tm 19 39 (by rfl) (by rfl)
      have f39 : xs 19 = _ := hA.fa 19 (by rfl)
      (try simp (disch := first | rfl | decide) only [Rely.mask_in] at f39)
      rw [f39] at e39
      clear f39
      clear hA
      refine ⟨(by rfl), ?_⟩
      go_simp <;> (try with_reducible rfl)
    refine Rely.Chain.det ?_ (by rfl) (fun T xs wr hA => ?_) ?_
    rotate_left 1
    · have e40 := hA.tm 20 40 (by rfl) (by rfl)
      have f40 : xs 20 = _ := hA.fa 20 (by rfl)
      (try simp (disch := first | rfl | decide) only [Rely.mask_in] at f40)
      rw [f40] at e40
      clear f40
      clear hA
      refine ⟨(by rfl), ?_⟩
      go_simp <;> (try with_reducible rfl)
    refine Rely.Chain.det ?_ (by rfl) (fun T xs wr hA => ?_) ?_
    rotate_left 1
    · have e41 := hA.tm 21 41 (by rfl) (by rfl)
      have f41 : xs 21 = _ := hA.fa 21 (by rfl)
      (try simp (disch := first | rfl | decide) only [Rely.mask_in] at f41)
      rw [f41] at e41
      clear f41
      have e4 := hA.pre 4 (by kernel_rfl)
      simp only [List.getElem?_toArray, List.getElem?_cons_succ, List.getElem?_cons_zero] at e4
      have hBq : wr.heap[g_c]? = _ := (hA.bl _ hlt_c (fun q h => absurd h (Nat.not_lt_zero q))).trans HB_c.out
      have q0 := cell_at (v := .bool b_c) hBq 0 rfl
      have q1 := cell_at (v := .slice o_c l_c k_c) hBq 1 rfl
      clear hBq
      clear hA
      refine ⟨((Rely.wanted_at rfl (by rfl) e41).trans (by rfl)), ?_⟩
      go_simp <;> (try with_reducible rfl)
    refine Rely.Chain.call (fun _ v w => CQ w v ((ceilZ N D : Int) : Rat) 17) (fun _ _ _ _ h hb => h.below hb) (fun _ _ _ _ _ h hp => h.keeps hp.keeps) (by rfl) (fun T xs wr hA => ?_) ?_
    · have e41 := hA.tm 21 41 (by rfl) (by rfl)
      have f41 : xs 21 = _ := hA.fa 21 (by rfl)
      (try simp (disch := first | rfl | decide) only [Rely.mask_in] at f41)
      rw [f41] at e41
      clear f41
      have e42 := hA.tm 22 42 (by rfl) (by rfl)
      have f42 : xs 22 = _ := hA.fa 22 (by rfl)
      (try simp (disch := first | rfl | decide) only [Rely.mask_in] at f42)
      rw [f42] at e42
      clear f42
      have hkp := undrewK hA.kp
      have hbw := undrew (hA.be _ (Nat.le_refl _) (fun q h => absurd h (Nat.not_lt_zero q)))
      have c_c := c_c.keeps hkp
      clear hA
      refine ⟨((Rely.wanted_at rfl (by rfl) e41).trans (by rfl)), fun K hK => ?_⟩
      clear e41
      go_simp
      refine (qof_any c_c.gi (by omega)).mono ?_
      rintro e wq ⟨v, rfl, c, hb⟩
      exact hK.out _ _ c hb
    refine Rely.Chain.det ?_ (by rfl) (fun T xs wr hA => ?_) ?_
    rotate_left 1
    · have e41 := hA.tm 21 41 (by rfl) (by rfl)
      have f41 : xs 21 = _ := hA.fa 21 (by rfl)
      (try simp (disch := first | rfl | decide) only [Rely.mask_in] at f41)
      rw [f41] at e41
      clear f41
      have e5 := hA.pre 5 (by kernel_rfl)
      simp only [List.getElem?_toArray, List.getElem?_cons_succ, List.getElem?_cons_zero] at e5
      have hBq : wr.heap[wx6.heap.size]? = _ := (hA.bl _ hlt_v (fun q h => absurd h (Nat.not_lt_zero q))).trans HB_v.out
      have q0 := cell_at (v := .bool b_v) hBq 0 rfl
      have q1 := cell_at (v := .slice o_v l_v k_v) hBq 1 rfl
      have q2 := cell_at (v := .slice p_v m_v u_v) hBq 2 rfl
      clear hBq
      clear hA
      refine ⟨((Rely.wanted_at rfl (by rfl) e41).trans (by rfl)), ?_⟩
      go_simp <;> (try with_reducible rfl)
    refine Rely.Chain.call (fun _ v w => CQ w v (((ceilZ N D : Int) : Rat) - (1 : Rat)) 68) (fun _ _ _ _ h hb => h.below hb) (fun _ _ _ _ _ h hp => h.keeps hp.keeps) (by rfl) (fun T xs wr hA => ?_) ?_
    · have e41 := hA.tm 21 41 (by rfl) (by rfl)
      have f41 : xs 21 = _ := hA.fa 21 (by rfl)
      (try simp (disch := first | rfl | decide) only [Rely.mask_in] at f41)
      rw [f41] at e41
      clear f41
      have e43 := hA.tm 23 43 (by rfl) (by rfl)
      have e44 := hA.tm 24 44 (by rfl) (by rfl)
      have f44 : xs 24 = _ := hA.fa 24 (by rfl)
      (try simp (disch := first | rfl | decide) only [Rely.mask_in] at f44)
      rw [f44] at e44
      clear f44
      have hkp := undrewK hA.kp
      have hbw := undrew (hA.be _ (Nat.le_refl _) (fun q h => absurd h (Nat.not_lt_zero q)))
      have c_r5 : CQ wr (xs 23) ((ceilZ N D : Int) : Rat) 17 := hA.fa 23 (by rfl)
      have c_v := c_v.keeps hkp
      clear hA
      refine ⟨((Rely.wanted_at rfl (by rfl) e41).trans (by rfl)), fun K hK => ?_⟩
      clear e41
      go_simp
      refine (hsub_any c_r5.hq c_v.hq (by omega) (by omega)).mono ?_
      rintro e wq ⟨v, rfl, c, hb⟩
      exact hK.out _ _ c hb
    refine Rely.Chain.det ?_ (by rfl) (fun T xs wr hA => ?_) ?_
    rotate_left 1
    · have e41 := hA.tm 21 41 (by rfl) (by rfl)
      have f41 : xs 21 = _ := hA.fa 21 (by rfl)
      (try simp (disch := first | rfl | decide) only [Rely.mask_in] at f41)
      rw [f41] at e41
      clear f41
      have e1 := hA.pre 1 (by kernel_rfl)
      simp only [List.getElem?_toArray, List.getElem?_cons_succ, List.getElem?_cons_zero] at e1
      have hBq : wr.heap[w.heap.size]? = _ := (hA.bl _ hlt_x0 (fun q h => absurd h (Nat.not_lt_zero q))).trans HB_x0.out
      have q0 := cell_at (v := .bool b0) hBq 0 rfl
      have q1 := cell_at (v := .slice o0 n0 m0) hBq 1 rfl
      have q2 := cell_at (v := .slice p0 l0 e0) hBq 2 rfl
      clear hBq
      clear hA
      refine ⟨((Rely.wanted_at rfl (by rfl) e41).trans (by rfl)), ?_⟩
      go_simp <;> (try with_reducible rfl)
    refine Rely.Chain.call (fun _ v _ => v = .int .i64 (cmpQ (((ceilZ N D : Int) : Rat) - (1 : Rat)) (mkRat N D))) (fun _ _ _ _ h _ => h) (fun _ _ _ _ _ h _ => h) (by rfl) (fun T xs wr hA => ?_) ?_
    · have e41 := hA.tm 21 41 (by rfl) (by rfl)
      have f41 : xs 21 = _ := hA.fa 21 (by rfl)
      (try simp (disch := first | rfl | decide) only [Rely.mask_in] at f41)
      rw [f41] at e41
      clear f41
      have e45 := hA.tm 25 45 (by rfl) (by rfl)
      have e46 := hA.tm 26 46 (by rfl) (by rfl)
      have f46 : xs 26 = _ := hA.fa 26 (by rfl)
      (try simp (disch := first | rfl | decide) only [Rely.mask_in] at f46)
      rw [f46] at e46
      clear f46
      have hkp := undrewK hA.kp
      have hbw := undrew (hA.be _ (Nat.le_refl _) (fun q h => absurd h (Nat.not_lt_zero q)))
      have c_r6 : CQ wr (xs 25) (((ceilZ N D : Int) : Rat) - (1 : Rat)) 68 := hA.fa 25 (by rfl)
      have q0 := q0.keeps hkp
      clear hA
      refine ⟨((Rely.wanted_at rfl (by rfl) e41).trans (by rfl)), fun K hK => ?_⟩
      clear e41
      go_simp
      refine (hcmp_any c_r6.hq q0 (by omega) (by omega)).mono ?_
      rintro e wq ⟨rfl, hb⟩
      exact hK.out _ _ rfl hb
    refine Rely.Chain.det ?_ (by rfl) (fun T xs wr hA => ?_) ?_
    rotate_left 1
    · have e41 := hA.tm 21 41 (by rfl) (by rfl)
      have f41 : xs 21 = _ := hA.fa 21 (by rfl)
      (try simp (disch := first | rfl | decide) only [Rely.mask_in] at f41)
      rw [f41] at e41
      clear f41
      have e47 := hA.tm 27 47 (by rfl) (by rfl)
      have f47 : xs 27 = (.int .i64 (cmpQ (((ceilZ N D : Int) : Rat) - (1 : Rat)) (mkRat N D))) := hA.fa 27 (by rfl)
      rw [f47] at e47
      clear f47
      clear hA
      refine ⟨((Rely.wanted_at rfl (by rfl) e41).trans (by rfl)), ?_⟩
      go_simp <;> (try with_reducible rfl)
    refine Rely.Chain.det ?_ (by rfl) (fun T xs wr hA => ?_) ?_
    rotate_left 1
    · have e41 := hA.tm 21 41 (by rfl) (by rfl)
      have f41 : xs 21 = _ := hA.fa 21 (by rfl)
      (try simp (disch := first | rfl | decide) only [Rely.mask_in] at f41)
      rw [f41] at e41
      clear f41
      have e48 := hA.tm 28 48 (by rfl) (by rfl)
      have f48 : xs 28 = _ := hA.fa 28 (by rfl)
      (try simp (disch := first | rfl | decide) only [Rely.mask_in] at f48)
      rw [f48] at e48
      clear f48
      clear hA
      refine ⟨(by rfl), ?_⟩
      go_simp <;> (try with_reducible rfl)
    refine Rely.Chain.done (fun xs wx8 hL => ?_)
    obtain ⟨⟨hbe, hbl, hkp0⟩, hf, hp, hn⟩ := hL
    have f0 : xs 0 = _ := hf 0 (by decide)
    (try simp (disch := first | rfl | decide) only [Rely.mask_in] at f0)
    have c_r1 : CQ wx8 (xs 1) ((Int.fdiv N D : Int) : Rat) 15 := hf 1 (by decide)
    have f2 : xs 2 = _ := hf 2 (by decide)
    (try simp (disch := first | rfl | decide) only [Rely.mask_in] at f2)
    have f3 : xs 3 = (.int .i64 (cmpQ ((Int.fdiv N D : Int) : Rat) (mkRat N D))) := hf 3 (by decide)
    have f4 : xs 4 = _ := hf 4 (by decide)
    (try simp (disch := first | rfl | decide) only [Rely.mask_in] at f4)
    have f5 : xs 5 = _ := hf 5 (by decide)
    (try simp (disch := first | rfl | decide) only [Rely.mask_in] at f5)
    have f6 : xs 6 = _ := hf 6 (by decide)
    (try simp (disch := first | rfl | decide) only [Rely.mask_in] at f6)
    have c_r2 : CQ wx8 (xs 7) ((ceilZ N D : Int) : Rat) 17 := hf 7 (by decide)
    have f8 : xs 8 = _ := hf 8 (by decide)
    (try simp (disch := first | rfl | decide) only [Rely.mask_in] at f8)
    have f9 : xs 9 = (.int .i64 (cmpQ ((ceilZ N D : Int) : Rat) (mkRat N D))) := hf 9 (by decide)
    have f10 : xs 10 = _ := hf 10 (by decide)
    (try simp (disch := first | rfl | decide) only [Rely.mask_in] at f10)
    have f11 : xs 11 = _ := hf 11 (by decide)
    (try simp (disch := first | rfl | decide) only [Rely.mask_in] at f11)
    have f12 : xs 12 = _ := hf 12 (by decide)
    (try simp (disch := first | rfl | decide) only [Rely.mask_in] at f12)
    have f13 : xs 13 = _ := hf 13 (by decide)
    (try simp (disch := first | rfl | decide) only [Rely.mask_in] at f13)
    have c_r3 : CQ wx8 (xs 14) ((Int.fdiv N D : Int) : Rat) 15 := hf 14 (by decide)
    have f15 : xs 15 = _ := hf 15 (by decide)
    (try simp (disch := first | rfl | decide) only [Rely.mask_in] at f15)
    have c_r4 : CQ wx8 (xs 16) (((Int.fdiv N D : Int) : Rat) + (1 : Rat)) 62 := hf 16 (by decide)
    have f17 : xs 17 = _ := hf 17 (by decide)
    (try simp (disch := first | rfl | decide) only [Rely.mask_in] at f17)
    have f18 : xs 18 = (.int .i64 (cmpQ (((Int.fdiv N D : Int) : Rat) + (1 : Rat)) (mkRat N D))) := hf 18 (by decide)
    have f19 : xs 19 = _ := hf 19 (by decide)
    (try simp (disch := first | rfl | decide) only [Rely.mask_in] at f19)
    have f20 : xs 20 = _ := hf 20 (by decide)
    (try simp (disch := first | rfl | decide) only [Rely.mask_in] at f20)
    have f21 : xs 21 = _ := hf 21 (by decide)
    (try simp (disch := first | rfl | decide) only [Rely.mask_in] at f21)
    have f22 : xs 22 = _ := hf 22 (by decide)
    (try simp (disch := first | rfl | decide) only [Rely.mask_in] at f22)
    have c_r5 : CQ wx8 (xs 23) ((ceilZ N D : Int) : Rat) 17 := hf 23 (by decide)
    have f24 : xs 24 = _ := hf 24 (by decide)
    (try simp (disch := first | rfl | decide) only [Rely.mask_in] at f24)
    have c_r6 : CQ wx8 (xs 25) (((ceilZ N D : Int) : Rat) - (1 : Rat)) 68 := hf 25 (by decide)
    have f26 : xs 26 = _ := hf 26 (by decide)
    (try simp (disch := first | rfl | decide) only [Rely.mask_in] at f26)
    have f27 : xs 27 = (.int .i64 (cmpQ (((ceilZ N D : Int) : Rat) - (1 : Rat)) (mkRat N D))) := hf 27 (by decide)
    have f28 : xs 28 = _ := hf 28 (by decide)
    (try simp (disch := first | rfl | decide) only [Rely.mask_in] at f28)
    have f29 : xs 29 = _ := hf 29 (by decide)
    (try simp (disch := first | rfl | decide) only [Rely.mask_in] at f29)
    clear hf hp hn
    refine Rely.rest_done ?_
    simp only [Rely.fill, List.setIfInBounds_toArray, List.set_cons_zero, List.set_cons_succ, f0, f2, f3, f4, f5, f6, f8, f9, f10, f11, f12, f13, f15, f17, f18, f19, f20, f21, f22, f24, f26, f27, f28, f29]
    clear f0 f2 f3 f4 f5 f6 f8 f9 f10 f11 f12 f13 f15 f17 f18 f19 f20 f21 f22 f24 f26 f27 f28 f29
    generalize xs 1 = v_r1 at c_r1 ⊢
    generalize xs 7 = v_r2 at c_r2 ⊢
    generalize xs 14 = v_r3 at c_r3 ⊢
    generalize xs 16 = v_r4 at c_r4 ⊢
    generalize xs 23 = v_r5 at c_r5 ⊢
    generalize xs 25 = v_r6 at c_r6 ⊢
    clear xs
    obtain ⟨b_r1, o_r1, l_r1, k_r1, p_r1, m_r1, u_r1, rfl⟩ := c_r1.shape
    obtain ⟨b_r2, o_r2, l_r2, k_r2, p_r2, m_r2, u_r2, rfl⟩ := c_r2.shape
    obtain ⟨b_r3, o_r3, l_r3, k_r3, p_r3, m_r3, u_r3, rfl⟩ := c_r3.shape
    obtain ⟨b_r4, o_r4, l_r4, k_r4, p_r4, m_r4, u_r4, rfl⟩ := c_r4.shape
    obtain ⟨b_r5, o_r5, l_r5, k_r5, p_r5, m_r5, u_r5, rfl⟩ := c_r5.shape
    obtain ⟨b_r6, o_r6, l_r6, k_r6, p_r6, m_r6, u_r6, rfl⟩ := c_r6.shape
    have hbx := undrew (hbe _ (Nat.le_refl _) (fun q h => absurd h (Nat.not_lt_zero q)))
    clear hbe hbl hkp0
    replace g0 := g0.below hbx
    replace q0 := q0.below hbx
    replace c_f := c_f.below hbx
    replace c_c := c_c.below hbx
    replace c_u := c_u.below hbx
    replace c_v := c_v.below hbx
    replace hbt := hbt.trans (hbx.mono hbt.size)
    replace HB_x0 := Lib.hid ((hbx.block _ (lt_of_block HB_x0.out)).trans HB_x0.out)
    replace HB_f := Lib.hid ((hbx.block _ (lt_of_block HB_f.out)).trans HB_f.out)
    replace HB_c := Lib.hid ((hbx.block _ (lt_of_block HB_c.out)).trans HB_c.out)
    replace HB_v := Lib.hid ((hbx.block _ (lt_of_block HB_v.out)).trans HB_v.out)
    clear hbx
    replace x00 := cell_at (v := .bool b0) HB_x0.out 0 rfl
    replace x01 := cell_at (v := .slice o0 n0 m0) HB_x0.out 1 rfl
    replace x02 := cell_at (v := .slice p0 l0 e0) HB_x0.out 2 rfl
    replace f0 := cell_at (v := .bool b_f) HB_f.out 0 rfl
    replace f1 := cell_at (v := .slice o_f l_f k_f) HB_f.out 1 rfl
    replace c0 := cell_at (v := .bool b_c) HB_c.out 0 rfl
    replace c1 := cell_at (v := .slice o_c l_c k_c) HB_c.out 1 rfl
    replace v0 := cell_at (v := .bool b_v) HB_v.out 0 rfl
    replace v1 := cell_at (v := .slice o_v l_v k_v) HB_v.out 1 rfl
    replace v2 := cell_at (v := .slice p_v m_v u_v) HB_v.out 2 rfl
    clear hlt_x0 hlt_v
    clear e1 e2 e3 e4
    by_cases hm : Int.fmod N D = 0
    · have hz : (sgnZ (Int.fdiv N D - ceilZ N D) == 0) = true := by rw [beq_iff_eq]; exact sgnZ_eq0.2 (HW.out.2 hm)
      go_wp2_with fail
      refine (qwhole_yes g0 (by omega) hm).mono ?_
      rintro e wx9 ⟨v_w, rfl, c_w, hbx⟩
      replace g0 := g0.below hbx
      replace q0 := q0.below hbx
      replace c_f := c_f.below hbx
      replace c_c := c_c.below hbx
      replace c_u := c_u.below hbx
      replace c_v := c_v.below hbx
      replace c_r1 := c_r1.below hbx
      replace c_r2 := c_r2.below hbx
      replace c_r3 := c_r3.below hbx
      replace c_r4 := c_r4.below hbx
      replace c_r5 := c_r5.below hbx
      replace c_r6 := c_r6.below hbx
      replace hbt := hbt.trans (hbx.mono hbt.size)
      replace HB_x0 := Lib.hid ((hbx.block _ (lt_of_block HB_x0.out)).trans HB_x0.out)
      replace HB_f := Lib.hid ((hbx.block _ (lt_of_block HB_f.out)).trans HB_f.out)
      replace HB_c := Lib.hid ((hbx.block _ (lt_of_block HB_c.out)).trans HB_c.out)
      replace HB_v := Lib.hid ((hbx.block _ (lt_of_block HB_v.out)).trans HB_v.out)
      clear hbx
      replace x00 := cell_at (v := .bool b0) HB_x0.out 0 rfl
      replace x01 := cell_at (v := .slice o0 n0 m0) HB_x0.out 1 rfl
      replace x02 := cell_at (v := .slice p0 l0 e0) HB_x0.out 2 rfl
      replace f0 := cell_at (v := .bool b_f) HB_f.out 0 rfl
      replace f1 := cell_at (v := .slice o_f l_f k_f) HB_f.out 1 rfl
      replace c0 := cell_at (v := .bool b_c) HB_c.out 0 rfl
      replace c1 := cell_at (v := .slice o_c l_c k_c) HB_c.out 1 rfl
      replace v0 := cell_at (v := .bool b_v) HB_v.out 0 rfl
      replace v1 := cell_at (v := .slice o_v l_v k_v) HB_v.out 1 rfl
      replace v2 := cell_at (v := .slice p_v m_v u_v) HB_v.out 2 rfl
      obtain ⟨b_w, o_w, l_w, k_w, rfl⟩ := c_w.shape
      clear hm
      have hlt_x0 := lt_of_block HB_x0.out
      have hlt_f := lt_of_block HB_f.out
      have hlt_c := lt_of_block HB_c.out
      have hlt_v := lt_of_block HB_v.out
      go_wp2_with fail
      have hla_x0_wx9 : w.heap.size < wx9.heap.size := hlt_x0
      have hla_f_wx9 : g_f < wx9.heap.size := hlt_f
      have hla_c_wx9 : g_c < wx9.heap.size := hlt_c
      have hla_v_wx9 : wx6.heap.size < wx9.heap.size := hlt_v
      clear hlt_x0 hlt_f hlt_c hlt_v
      have hbx : Below wx9.heap.size wx9 (wx9.alloc (.cells #[.bool b_w, .slice o_w l_w k_w] 25)) := ((Below.refl _ _).alloc (by simp) _)
      replace g0 := g0.below hbx
      replace q0 := q0.below hbx
      replace c_f := c_f.below hbx
      replace c_c := c_c.below hbx
      replace c_u := c_u.below hbx
      replace c_v := c_v.below hbx
      replace c_r1 := c_r1.below hbx
      replace c_r2 := c_r2.below hbx
      replace c_r3 := c_r3.below hbx
      replace c_r4 := c_r4.below hbx
      replace c_r5 := c_r5.below hbx
      replace c_r6 := c_r6.below hbx
      replace c_w := c_w.below hbx
      replace hbt := hbt.trans (hbx.mono hbt.size)
      replace HB_x0 := Lib.hid ((hbx.block _ (lt_of_block HB_x0.out)).trans HB_x0.out)
      replace HB_f := Lib.hid ((hbx.block _ (lt_of_block HB_f.out)).trans HB_f.out)
      replace HB_c := Lib.hid ((hbx.block _ (lt_of_block HB_c.out)).trans HB_c.out)
      replace HB_v := Lib.hid ((hbx.block _ (lt_of_block HB_v.out)).trans HB_v.out)
      clear hbx
      replace x00 := cell_at (v := .bool b0) HB_x0.out 0 rfl
      replace x01 := cell_at (v := .slice o0 n0 m0) HB_x0.out 1 rfl
      replace x02 := cell_at (v := .slice p0 l0 e0) HB_x0.out 2 rfl
      replace f0 := cell_at (v := .bool b_f) HB_f.out 0 rfl
      replace f1 := cell_at (v := .slice o_f l_f k_f) HB_f.out 1 rfl
      replace c0 := cell_at (v := .bool b_c) HB_c.out 0 rfl
      replace c1 := cell_at (v := .slice o_c l_c k_c) HB_c.out 1 rfl
      replace v0 := cell_at (v := .bool b_v) HB_v.out 0 rfl
      replace v1 := cell_at (v := .slice o_v l_v k_v) HB_v.out 1 rfl
      replace v2 := cell_at (v := .slice p_v m_v u_v) HB_v.out 2 rfl
      have HB_w : Hid ((wx9.alloc (.cells #[.bool b_w, .slice o_w l_w k_w] 25)).heap[wx9.heap.size]? = some (.cells #[.bool b_w, .slice o_w l_w k_w] 25 (0, 0))) := Lib.hid (made_at wx9 (.cells #[.bool b_w, .slice o_w l_w k_w] 25) _ (by first | rfl | simp))
      generalize (wx9.alloc (.cells #[.bool b_w, .slice o_w l_w k_w] 25)) = wx10 at *
      have w0 := cell_at (v := .bool b_w) HB_w.out 0 rfl
      have w1 := cell_at (v := .slice o_w l_w k_w) HB_w.out 1 rfl
      refine (wcmp_any _ _ (Int.fdiv N D) (ceilZ N D) _ _ _ c_f.gi c_c.gi (by omega) (by omega)).mono ?_
      rintro e wx11 ⟨rfl, hbx⟩
      replace g0 := g0.below hbx
      replace q0 := q0.below hbx
      replace c_f := c_f.below hbx
      replace c_c := c_c.below hbx
      replace c_u := c_u.below hbx
      replace c_v := c_v.below hbx
      replace c_r1 := c_r1.below hbx
      replace c_r2 := c_r2.below hbx
      replace c_r3 := c_r3.below hbx
      replace c_r4 := c_r4.below hbx
      replace c_r5 := c_r5.below hbx
      replace c_r6 := c_r6.below hbx
      replace c_w := c_w.below hbx
      replace hbt := hbt.trans (hbx.mono hbt.size)
      replace HB_x0 := Lib.hid ((hbx.block _ (lt_of_block HB_x0.out)).trans HB_x0.out)
      replace HB_f := Lib.hid ((hbx.block _ (lt_of_block HB_f.out)).trans HB_f.out)
      replace HB_c := Lib.hid ((hbx.block _ (lt_of_block HB_c.out)).trans HB_c.out)
      replace HB_v := Lib.hid ((hbx.block _ (lt_of_block HB_v.out)).trans HB_v.out)
      replace HB_w := Lib.hid ((hbx.block _ (lt_of_block HB_w.out)).trans HB_w.out)
      clear hbx
      replace x00 := cell_at (v := .bool b0) HB_x0.out 0 rfl
      replace x01 := cell_at (v := .slice o0 n0 m0) HB_x0.out 1 rfl
      replace x02 := cell_at (v := .slice p0 l0 e0) HB_x0.out 2 rfl
      replace f0 := cell_at (v := .bool b_f) HB_f.out 0 rfl
      replace f1 := cell_at (v := .slice o_f l_f k_f) HB_f.out 1 rfl
      replace c0 := cell_at (v := .bool b_c) HB_c.out 0 rfl
      replace c1 := cell_at (v := .slice o_c l_c k_c) HB_c.out 1 rfl
      replace v0 := cell_at (v := .bool b_v) HB_v.out 0 rfl
      replace v1 := cell_at (v := .slice o_v l_v k_v) HB_v.out 1 rfl
      replace v2 := cell_at (v := .slice p_v m_v u_v) HB_v.out 2 rfl
      replace w0 := cell_at (v := .bool b_w) HB_w.out 0 rfl
      replace w1 := cell_at (v := .slice o_w l_w k_w) HB_w.out 1 rfl
      go_wp2_with fail
      refine (wcmp_any _ _ (Int.fdiv N D) (Int.fdiv N D) _ _ _ c_w.gi c_f.gi (by omega) (by omega)).mono ?_
      rintro e wx12 ⟨rfl, hbx⟩
      replace g0 := g0.below hbx
      replace q0 := q0.below hbx
      replace c_f := c_f.below hbx
      replace c_c := c_c.below hbx
      replace c_u := c_u.below hbx
      replace c_v := c_v.below hbx
      replace c_r1 := c_r1.below hbx
      replace c_r2 := c_r2.below hbx
      replace c_r3 := c_r3.below hbx
      replace c_r4 := c_r4.below hbx
      replace c_r5 := c_r5.below hbx
      replace c_r6 := c_r6.below hbx
      replace c_w := c_w.below hbx
      replace hbt := hbt.trans (hbx.mono hbt.size)
      replace HB_x0 := Lib.hid ((hbx.block _ (lt_of_block HB_x0.out)).trans HB_x0.out)
      replace HB_f := Lib.hid ((hbx.block _ (lt_of_block HB_f.out)).trans HB_f.out)
      replace HB_c := Lib.hid ((hbx.block _ (lt_of_block HB_c.out)).trans HB_c.out)
      replace HB_v := Lib.hid ((hbx.block _ (lt_of_block HB_v.out)).trans HB_v.out)
      replace HB_w := Lib.hid ((hbx.block _ (lt_of_block HB_w.out)).trans HB_w.out)
      clear hbx
      replace x00 := cell_at (v := .bool b0) HB_x0.out 0 rfl
      replace x01 := cell_at (v := .slice o0 n0 m0) HB_x0.out 1 rfl
      replace x02 := cell_at (v := .slice p0 l0 e0) HB_x0.out 2 rfl
      replace f0 := cell_at (v := .bool b_f) HB_f.out 0 rfl
      replace f1 := cell_at (v := .slice o_f l_f k_f) HB_f.out 1 rfl
      replace c0 := cell_at (v := .bool b_c) HB_c.out 0 rfl
      replace c1 := cell_at (v := .slice o_c l_c k_c) HB_c.out 1 rfl
      replace v0 := cell_at (v := .bool b_v) HB_v.out 0 rfl
      replace v1 := cell_at (v := .slice o_v l_v k_v) HB_v.out 1 rfl
      replace v2 := cell_at (v := .slice p_v m_v u_v) HB_v.out 2 rfl
      replace w0 := cell_at (v := .bool b_w) HB_w.out 0 rfl
      replace w1 := cell_at (v := .slice o_w l_w k_w) HB_w.out 1 rfl
      rw [sgnZ_self]
      go_wp2_with fail
      go_ret
      exact ⟨rfl, hbt⟩
    · have hz : (sgnZ (Int.fdiv N D - ceilZ N D) == 0) = false := by rw [beq_eq_false_iff_ne]; exact mt sgnZ_eq0.1 (mt HW.out.1 hm)
      go_wp2_with fail
      refine (qwhole_no g0 (by omega) hm).mono ?_
      rintro e wx9 ⟨v_w, rfl, c_w, hbx⟩
      replace g0 := g0.below hbx
      replace q0 := q0.below hbx
      replace c_f := c_f.below hbx
      replace c_c := c_c.below hbx
      replace c_u := c_u.below hbx
      replace c_v := c_v.below hbx
      replace c_r1 := c_r1.below hbx
      replace c_r2 := c_r2.below hbx
      replace c_r3 := c_r3.below hbx
      replace c_r4 := c_r4.below hbx
      replace c_r5 := c_r5.below hbx
      replace c_r6 := c_r6.below hbx
      replace hbt := hbt.trans (hbx.mono hbt.size)
      replace HB_x0 := Lib.hid ((hbx.block _ (lt_of_block HB_x0.out)).trans HB_x0.out)
      replace HB_f := Lib.hid ((hbx.block _ (lt_of_block HB_f.out)).trans HB_f.out)
      replace HB_c := Lib.hid ((hbx.block _ (lt_of_block HB_c.out)).trans HB_c.out)
      replace HB_v := Lib.hid ((hbx.block _ (lt_of_block HB_v.out)).trans HB_v.out)
      clear hbx
      replace x00 := cell_at (v := .bool b0) HB_x0.out 0 rfl
      replace x01 := cell_at (v := .slice o0 n0 m0) HB_x0.out 1 rfl
      replace x02 := cell_at (v := .slice p0 l0 e0) HB_x0.out 2 rfl
      replace f0 := cell_at (v := .bool b_f) HB_f.out 0 rfl
      replace f1 := cell_at (v := .slice o_f l_f k_f) HB_f.out 1 rfl
      replace c0 := cell_at (v := .bool b_c) HB_c.out 0 rfl
      replace c1 := cell_at (v := .slice o_c l_c k_c) HB_c.out 1 rfl
      replace v0 := cell_at (v := .bool b_v) HB_v.out 0 rfl
      replace v1 := cell_at (v := .slice o_v l_v k_v) HB_v.out 1 rfl
      replace v2 := cell_at (v := .slice p_v m_v u_v) HB_v.out 2 rfl
      obtain ⟨b_w, o_w, l_w, k_w, rfl⟩ := c_w.shape
      clear hm
      have hlt_x0 := lt_of_block HB_x0.out
      have hlt_f := lt_of_block HB_f.out
      have hlt_c := lt_of_block HB_c.out
      have hlt_v := lt_of_block HB_v.out
      go_wp2_with fail
      have hla_x0_wx9 : w.heap.size < wx9.heap.size := hlt_x0
      have hla_f_wx9 : g_f < wx9.heap.size := hlt_f
      have hla_c_wx9 : g_c < wx9.heap.size := hlt_c
      have hla_v_wx9 : wx6.heap.size < wx9.heap.size := hlt_v
      clear hlt_x0 hlt_f hlt_c hlt_v
      have hbx : Below wx9.heap.size wx9 (wx9.alloc (.cells #[.bool b_w, .slice o_w l_w k_w] 25)) := ((Below.refl _ _).alloc (by simp) _)
      replace g0 := g0.below hbx
      replace q0 := q0.below hbx
      replace c_f := c_f.below hbx
      replace c_c := c_c.below hbx
      replace c_u := c_u.below hbx
      replace c_v := c_v.below hbx
      replace c_r1 := c_r1.below hbx
      replace c_r2 := c_r2.below hbx
      replace c_r3 := c_r3.below hbx
      replace c_r4 := c_r4.below hbx
      replace c_r5 := c_r5.below hbx
      replace c_r6 := c_r6.below hbx
      replace c_w := c_w.below hbx
      replace hbt := hbt.trans (hbx.mono hbt.size)
      replace HB_x0 := Lib.hid ((hbx.block _ (lt_of_block HB_x0.out)).trans HB_x0.out)
      replace HB_f := Lib.hid ((hbx.block _ (lt_of_block HB_f.out)).trans HB_f.out)
      replace HB_c := Lib.hid ((hbx.block _ (lt_of_block HB_c.out)).trans HB_c.out)
      replace HB_v := Lib.hid ((hbx.block _ (lt_of_block HB_v.out)).trans HB_v.out)
      clear hbx
      replace x00 := cell_at (v := .bool b0) HB_x0.out 0 rfl
      replace x01 := cell_at (v := .slice o0 n0 m0) HB_x0.out 1 rfl
      replace x02 := cell_at (v := .slice p0 l0 e0) HB_x0.out 2 rfl
      replace f0 := cell_at (v := .bool b_f) HB_f.out 0 rfl
      replace f1 := cell_at (v := .slice o_f l_f k_f) HB_f.out 1 rfl
      replace c0 := cell_at (v := .bool b_c) HB_c.out 0 rfl
      replace c1 := cell_at (v := .slice o_c l_c k_c) HB_c.out 1 rfl
      replace v0 := cell_at (v := .bool b_v) HB_v.out 0 rfl
      replace v1 := cell_at (v := .slice o_v l_v k_v) HB_v.out 1 rfl
      replace v2 := cell_at (v := .slice p_v m_v u_v) HB_v.out 2 rfl
      have HB_w : Hid ((wx9.alloc (.cells #[.bool b_w, .slice o_w l_w k_w] 25)).heap[wx9.heap.size]? = some (.cells #[.bool b_w, .slice o_w l_w k_w] 25 (0, 0))) := Lib.hid (made_at wx9 (.cells #[.bool b_w, .slice o_w l_w k_w] 25) _ (by first | rfl | simp))
      generalize (wx9.alloc (.cells #[.bool b_w, .slice o_w l_w k_w] 25)) = wx10 at *
      have w0 := cell_at (v := .bool b_w) HB_w.out 0 rfl
      have w1 := cell_at (v := .slice o_w l_w k_w) HB_w.out 1 rfl
      refine (wcmp_any _ _ (Int.fdiv N D) (ceilZ N D) _ _ _ c_f.gi c_c.gi (by omega) (by omega)).mono ?_
      rintro e wx11 ⟨rfl, hbx⟩
      replace g0 := g0.below hbx
      replace q0 := q0.below hbx
      replace c_f := c_f.below hbx
      replace c_c := c_c.below hbx
      replace c_u := c_u.below hbx
      replace c_v := c_v.below hbx
      replace c_r1 := c_r1.below hbx
      replace c_r2 := c_r2.below hbx
      replace c_r3 := c_r3.below hbx
      replace c_r4 := c_r4.below hbx
      replace c_r5 := c_r5.below hbx
      replace c_r6 := c_r6.below hbx
      replace c_w := c_w.below hbx
      replace hbt := hbt.trans (hbx.mono hbt.size)
      replace HB_x0 := Lib.hid ((hbx.block _ (lt_of_block HB_x0.out)).trans HB_x0.out)
      replace HB_f := Lib.hid ((hbx.block _ (lt_of_block HB_f.out)).trans HB_f.out)
      replace HB_c := Lib.hid ((hbx.block _ (lt_of_block HB_c.out)).trans HB_c.out)
      replace HB_v := Lib.hid ((hbx.block _ (lt_of_block HB_v.out)).trans HB_v.out)
      replace HB_w := Lib.hid ((hbx.block _ (lt_of_block HB_w.out)).trans HB_w.out)
      clear hbx
      replace x00 := cell_at (v := .bool b0) HB_x0.out 0 rfl
      replace x01 := cell_at (v := .slice o0 n0 m0) HB_x0.out 1 rfl
      replace x02 := cell_at (v := .slice p0 l0 e0) HB_x0.out 2 rfl
      replace f0 := cell_at (v := .bool b_f) HB_f.out 0 rfl
      replace f1 := cell_at (v := .slice o_f l_f k_f) HB_f.out 1 rfl
      replace c0 := cell_at (v := .bool b_c) HB_c.out 0 rfl
      replace c1 := cell_at (v := .slice o_c l_c k_c) HB_c.out 1 rfl
      replace v0 := cell_at (v := .bool b_v) HB_v.out 0 rfl
      replace v1 := cell_at (v := .slice o_v l_v k_v) HB_v.out 1 rfl
      replace v2 := cell_at (v := .slice p_v m_v u_v) HB_v.out 2 rfl
      replace w0 := cell_at (v := .bool b_w) HB_w.out 0 rfl
      replace w1 := cell_at (v := .slice o_w l_w k_w) HB_w.out 1 rfl
      go_wp2_with fail
      refine (wsign_any _ 0 _ _ c_w.gi (by omega)).mono ?_
      rintro e wx12 ⟨rfl, hbx⟩
      replace g0 := g0.below hbx
      replace q0 := q0.below hbx
      replace c_f := c_f.below hbx
      replace c_c := c_c.below hbx
      replace c_u := c_u.below hbx
      replace c_v := c_v.below hbx
      replace c_r1 := c_r1.below hbx
      replace c_r2 := c_r2.below hbx
      replace c_r3 := c_r3.below hbx
      replace c_r4 := c_r4.below hbx
      replace c_r5 := c_r5.below hbx
      replace c_r6 := c_r6.below hbx
      replace c_w := c_w.below hbx
      replace hbt := hbt.trans (hbx.mono hbt.size)
      replace HB_x0 := Lib.hid ((hbx.block _ (lt_of_block HB_x0.out)).trans HB_x0.out)
      replace HB_f := Lib.hid ((hbx.block _ (lt_of_block HB_f.out)).trans HB_f.out)
      replace HB_c := Lib.hid ((hbx.block _ (lt_of_block HB_c.out)).trans HB_c.out)
      replace HB_v := Lib.hid ((hbx.block _ (lt_of_block HB_v.out)).trans HB_v.out)
      replace HB_w := Lib.hid ((hbx.block _ (lt_of_block HB_w.out)).trans HB_w.out)
      clear hbx
      replace x00 := cell_at (v := .bool b0) HB_x0.out 0 rfl
      replace x01 := cell_at (v := .slice o0 n0 m0) HB_x0.out 1 rfl
      replace x02 := cell_at (v := .slice p0 l0 e0) HB_x0.out 2 rfl
      replace f0 := cell_at (v := .bool b_f) HB_f.out 0 rfl
      replace f1 := cell_at (v := .slice o_f l_f k_f) HB_f.out 1 rfl
      replace c0 := cell_at (v := .bool b_c) HB_c.out 0 rfl
      replace c1 := cell_at (v := .slice o_c l_c k_c) HB_c.out 1 rfl
      replace v0 := cell_at (v := .bool b_v) HB_v.out 0 rfl
      replace v1 := cell_at (v := .slice o_v l_v k_v) HB_v.out 1 rfl
      replace v2 := cell_at (v := .slice p_v m_v u_v) HB_v.out 2 rfl
      replace w0 := cell_at (v := .bool b_w) HB_w.out 0 rfl
      replace w1 := cell_at (v := .slice o_w l_w k_w) HB_w.out 1 rfl
      rw [sgnZ_zero]
      go_wp2_with fail
      go_ret
      exact ⟨rfl, hbt⟩
  · have HS := Lib.hid hs
    clear hs a0
    have hbt := Below.refl w.heap.size w
    go_enter Tryd.func6, Tryd.ntmps6
    go_wp2_with fail
    have hbx : Below w.heap.size w (w.alloc (.cells #[.bool b0, .slice o0 n0 m0, .slice p0 l0 e0] 27)) := ((Below.refl _ _).alloc (by simp) _)
    replace hbt := hbt.trans (hbx.mono hbt.size)
    clear hbx
    have HB_x0 : Hid ((w.alloc (.cells #[.bool b0, .slice o0 n0 m0, .slice p0 l0 e0] 27)).heap[w.heap.size]? = some (.cells #[.bool b0, .slice o0 n0 m0, .slice p0 l0 e0] 27 (0, 0))) := Lib.hid (made_at w (.cells #[.bool b0, .slice o0 n0 m0, .slice p0 l0 e0] 27) _ (by first | rfl | simp))
    generalize (w.alloc (.cells #[.bool b0, .slice o0 n0 m0, .slice p0 l0 e0] 27)) = wx1 at *
    have x00 := cell_at (v := .bool b0) HB_x0.out 0 rfl
    have x01 := cell_at (v := .slice o0 n0 m0) HB_x0.out 1 rfl
    have x02 := cell_at (v := .slice p0 l0 e0) HB_x0.out 2 rfl
    refine (HF.out _ (tab_below HTB.out hbt)).mono ?_
    rintro e wx2 ⟨rfl, hbx⟩
    replace hbt := hbt.trans (hbx.mono hbt.size)
    replace HB_x0 := Lib.hid ((hbx.block _ (lt_of_block HB_x0.out)).trans HB_x0.out)
    clear hbx
    replace x00 := cell_at (v := .bool b0) HB_x0.out 0 rfl
    replace x01 := cell_at (v := .slice o0 n0 m0) HB_x0.out 1 rfl
    replace x02 := cell_at (v := .slice p0 l0 e0) HB_x0.out 2 rfl
    go_wp2_with fail
    refine (qshort_f1 10 _ rfl HS.out).mono ?_
    rintro e wx3 ⟨rfl, hbx⟩
    replace hbt := hbt.trans (hbx.mono hbt.size)
    replace HB_x0 := Lib.hid ((hbx.block _ (lt_of_block HB_x0.out)).trans HB_x0.out)
    clear hbx
    replace x00 := cell_at (v := .bool b0) HB_x0.out 0 rfl
    replace x01 := cell_at (v := .slice o0 n0 m0) HB_x0.out 1 rfl
    replace x02 := cell_at (v := .slice p0 l0 e0) HB_x0.out 2 rfl
    go_wp2_with fail
    go_ret
    exact ⟨rfl, hbt⟩
end Go.Proofs.YtmindndmegiaaaaDoor
