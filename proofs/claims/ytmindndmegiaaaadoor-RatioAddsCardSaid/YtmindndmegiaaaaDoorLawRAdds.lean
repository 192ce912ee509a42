/-
  The walk of the law RatioAdds.
-/
import Derived.Test.YtmindndmegiaaaaDoorQLaw
namespace Go.Proofs.YtmindndmegiaaaaDoor
open Go.RowKit
set_option maxRecDepth 100000

theorem adds_add (N0 N1 : Int) {D0 D1 : Nat} (h0 : 0 < D0) (h1 : 0 < D1) : (mkRat N0 D0 + mkRat N1 D1).num * ((D0 : Int) * (D1 : Int)) = (N0 * (D1 : Int) + N1 * (D0 : Int)) * ((mkRat N0 D0 + mkRat N1 D1).den : Int) := by
  rw [← mk_add N0 N1 h0 h1, ← Int.natCast_mul]; exact num_cross _ (Nat.mul_pos h0 h1)
theorem adds_sub (N0 N1 : Int) {D0 D1 : Nat} (h0 : 0 < D0) (h1 : 0 < D1) : (mkRat N0 D0 - mkRat N1 D1).num * ((D0 : Int) * (D1 : Int)) = (N0 * (D1 : Int) - N1 * (D0 : Int)) * ((mkRat N0 D0 - mkRat N1 D1).den : Int) := by
  rw [← mk_sub N0 N1 h0 h1, ← Int.natCast_mul]; exact num_cross _ (Nat.mul_pos h0 h1)
theorem adds_mul (N0 N1 : Int) {D0 D1 : Nat} (h0 : 0 < D0) (h1 : 0 < D1) : (mkRat N0 D0 * mkRat N1 D1).num * ((D0 : Int) * (D1 : Int)) = (N0 * N1) * ((mkRat N0 D0 * mkRat N1 D1).den : Int) := by
  rw [← mk_mul N0 N1 D0 D1, ← Int.natCast_mul]; exact num_cross _ (Nat.mul_pos h0 h1)
theorem adds_neg (N : Int) {D : Nat} (h : 0 < D) : (-mkRat N D).num * (D : Int) = (-N) * ((-mkRat N D).den : Int) := by
  rw [← mk_neg N D]; exact num_cross _ h

set_option maxHeartbeats 8000000 in
theorem ratioAdds_walk (b0 : Bool) (o0 : Option Addr) (n0 m0 : Nat) (p0 : Option Addr) (l0 e0 : Nat) (xs0 ys0 : List Nat) (b1 : Bool) (o1 : Option Addr) (n1 m1 : Nat) (p1 : Option Addr) (l1 e1 : Nat) (xs1 ys1 : List Nat) (w : World) (a0 : ArgQ w b0 o0 n0 m0 p0 l0 e0 xs0 ys0) (a1 : ArgQ w b1 o1 n1 m1 p1 l1 e1 xs1 ys1) (htab : Lib.TabIs Tryd.prog w "internal/strconv.uint64pow10" .u64 Lib.pow10Tab) :
    Calls Tryd.prog 3 #[.agg #[.bool b0, .slice o0 n0 m0, .slice p0 l0 e0], .agg #[.bool b1, .slice o1 n1 m1, .slice p1 l1 e1]] w fun e w' => e = .returned (.bool true) ∧ Below w.heap.size w w' := by
  have HF := Lib.hid qfitOk
  have HTB := Lib.hid htab
  clear htab
  by_cases hs : (n0 ≤ 6 ∧ l0 ≤ 6) ∧ (n1 ≤ 6 ∧ l1 ≤ 6)
  · obtain ⟨h0, h1⟩ := hs
    obtain ⟨N0, D0, g0⟩ := a0.gq h0
    obtain ⟨N1, D1, g1⟩ := a1.gq h1
    clear a0 a1
    have z0 := g0.num
    have z1 := g1.num
    have HA := Lib.hid (adds_add N0 N1 g0.pos g1.pos)
    have HB := Lib.hid (adds_sub N0 N1 g0.pos g1.pos)
    have HM := Lib.hid (adds_mul N0 N1 g0.pos g1.pos)
    have HN := Lib.hid (adds_neg N0 g0.pos)
    have HC := Lib.hid (cmp_mk N0 N1 g0.pos g1.pos)
    have hbt := Below.refl w.heap.size w
    go_enter Tryd.func3, Tryd.ntmps3
    go_wp2_with fail
    have hbx : Below w.heap.size w ((w.alloc (.cells #[.bool b0, .slice o0 n0 m0, .slice p0 l0 e0] 27)).alloc (.cells #[.bool b1, .slice o1 n1 m1, .slice p1 l1 e1] 27)) := (((Below.refl _ _).alloc (by simp) _).alloc (by simp) _)
    replace g0 := g0.below hbx
    replace g1 := g1.below hbx
    replace z0 := z0.below hbx
    replace z1 := z1.below hbx
    replace hbt := hbt.trans (hbx.mono hbt.size)
    clear hbx
    have HB_x0 : Hid (((w.alloc (.cells #[.bool b0, .slice o0 n0 m0, .slice p0 l0 e0] 27)).alloc (.cells #[.bool b1, .slice o1 n1 m1, .slice p1 l1 e1] 27)).heap[w.heap.size]? = some (.cells #[.bool b0, .slice o0 n0 m0, .slice p0 l0 e0] 27 (0, 0))) := Lib.hid (made_more (made_at w (.cells #[.bool b0, .slice o0 n0 m0, .slice p0 l0 e0] 27) _ (by first | rfl | simp)) _)
    have HB_x1 : Hid (((w.alloc (.cells #[.bool b0, .slice o0 n0 m0, .slice p0 l0 e0] 27)).alloc (.cells #[.bool b1, .slice o1 n1 m1, .slice p1 l1 e1] 27)).heap[w.heap.size + 1]? = some (.cells #[.bool b1, .slice o1 n1 m1, .slice p1 l1 e1] 27 (0, 0))) := Lib.hid (made_at (w.alloc (.cells #[.bool b0, .slice o0 n0 m0, .slice p0 l0 e0] 27)) (.cells #[.bool b1, .slice o1 n1 m1, .slice p1 l1 e1] 27) _ (by first | rfl | simp))
    generalize ((w.alloc (.cells #[.bool b0, .slice o0 n0 m0, .slice p0 l0 e0] 27)).alloc (.cells #[.bool b1, .slice o1 n1 m1, .slice p1 l1 e1] 27)) = wx1 at *
    have x00 := cell_at (v := .bool b0) HB_x0.out 0 rfl
    have x01 := cell_at (v := .slice o0 n0 m0) HB_x0.out 1 rfl
    have x02 := cell_at (v := .slice p0 l0 e0) HB_x0.out 2 rfl
    have x10 := cell_at (v := .bool b1) HB_x1.out 0 rfl
    have x11 := cell_at (v := .slice o1 n1 m1) HB_x1.out 1 rfl
    have x12 := cell_at (v := .slice p1 l1 e1) HB_x1.out 2 rfl
    refine (HF.out _ (tab_below HTB.out hbt)).mono ?_
    rintro e wx2 ⟨rfl, hbx⟩
    replace g0 := g0.below hbx
    replace g1 := g1.below hbx
    replace z0 := z0.below hbx
    replace z1 := z1.below hbx
    replace hbt := hbt.trans (hbx.mono hbt.size)
    replace HB_x0 := Lib.hid ((hbx.block _ (lt_of_block HB_x0.out)).trans HB_x0.out)
    replace HB_x1 := Lib.hid ((hbx.block _ (lt_of_block HB_x1.out)).trans HB_x1.out)
    clear hbx
    replace x00 := cell_at (v := .bool b0) HB_x0.out 0 rfl
    replace x01 := cell_at (v := .slice o0 n0 m0) HB_x0.out 1 rfl
    replace x02 := cell_at (v := .slice p0 l0 e0) HB_x0.out 2 rfl
    replace x10 := cell_at (v := .bool b1) HB_x1.out 0 rfl
    replace x11 := cell_at (v := .slice o1 n1 m1) HB_x1.out 1 rfl
    replace x12 := cell_at (v := .slice p1 l1 e1) HB_x1.out 2 rfl
    go_wp2_with fail
    refine (qshort_t2 6 _ rfl h0 h1).mono ?_
    rintro e wx3 ⟨rfl, hbx⟩
    replace g0 := g0.below hbx
    replace g1 := g1.below hbx
    replace z0 := z0.below hbx
    replace z1 := z1.below hbx
    replace hbt := hbt.trans (hbx.mono hbt.size)
    replace HB_x0 := Lib.hid ((hbx.block _ (lt_of_block HB_x0.out)).trans HB_x0.out)
    replace HB_x1 := Lib.hid ((hbx.block _ (lt_of_block HB_x1.out)).trans HB_x1.out)
    clear hbx
    replace x00 := cell_at (v := .bool b0) HB_x0.out 0 rfl
    replace x01 := cell_at (v := .slice o0 n0 m0) HB_x0.out 1 rfl
    replace x02 := cell_at (v := .slice p0 l0 e0) HB_x0.out 2 rfl
    replace x10 := cell_at (v := .bool b1) HB_x1.out 0 rfl
    replace x11 := cell_at (v := .slice o1 n1 m1) HB_x1.out 1 rfl
    replace x12 := cell_at (v := .slice p1 l1 e1) HB_x1.out 2 rfl
    go_wp2_with fail
    have hlt_x0 := lt_of_block HB_x0.out
    have hlt_x1 := lt_of_block HB_x1.out
    have hla_x0_wx3 : w.heap.size < wx3.heap.size := hlt_x0
    have hla_x1_wx3 : w.heap.size + 1 < wx3.heap.size := hlt_x1
    refine Rely.region (by kernel_rfl) [[], [0], [], [0, 1, 2], [], [], [0, 1, 2, 3, 4, 5], [0, 1, 2, 3, 4, 5, 6]] [4, 5] [(6, 4), (7, 5)] (fun q => [].getD q 0) 0 8 (by kernel_rfl) (by kernel_rfl) (fun q h => absurd h (Nat.not_lt_zero q)) (fun q _ h => absurd h (Nat.not_lt_zero q)) ?_
    refine Rely.Chain.det ?_ (by rfl) (fun T xs wr hA => ?_) ?_
    rotate_left 1
    · have e2 := hA.pre 2 (by kernel_rfl)
      simp only [List.getElem?_toArray, List.getElem?_cons_succ, List.getElem?_cons_zero] at e2
      have hBq : wr.heap[w.heap.size]? = _ := (hA.bl _ hlt_x0 (fun q h => absurd h (Nat.not_lt_zero q))).trans HB_x0.out
      have q0 := cell_at (v := .bool b0) hBq 0 rfl
      have q1 := cell_at (v := .slice o0 n0 m0) hBq 1 rfl
      have q2 := cell_at (v := .slice p0 l0 e0) hBq 2 rfl
      clear hBq
      clear hA
      refine ⟨(by rfl), ?_⟩
      go_simp <;> (try with_reducible rfl)
    refine Rely.Chain.call (fun _ v w => CI w v (D0 : Int) 8) (fun _ _ _ _ h hb => h.below hb) (fun _ _ _ _ _ h hp => h.keeps hp.keeps) (by rfl) (fun T xs wr hA => ?_) ?_
    · have e17 := hA.tm 0 17 (by rfl) (by rfl)
      have f17 : xs 0 = _ := hA.fa 0 (by rfl)
      (try simp (disch := first | rfl | decide) only [Rely.mask_in] at f17)
      rw [f17] at e17
      clear f17
      have hkp := undrewK hA.kp
      have hbw := undrew (hA.be _ (Nat.le_refl _) (fun q h => absurd h (Nat.not_lt_zero q)))
      have g0 := g0.keeps hkp
      clear hA
      refine ⟨(by rfl), fun K hK => ?_⟩
      go_simp
      refine (below_any g0 (by omega)).mono ?_
      rintro e wq ⟨v, rfl, c, hb⟩
      exact hK.out _ _ c hb
    refine Rely.Chain.det ?_ (by rfl) (fun T xs wr hA => ?_) ?_
    rotate_left 1
    · have e3 := hA.pre 3 (by kernel_rfl)
      simp only [List.getElem?_toArray, List.getElem?_cons_succ, List.getElem?_cons_zero] at e3
      have hBq : wr.heap[w.heap.size + 1]? = _ := (hA.bl _ hlt_x1 (fun q h => absurd h (Nat.not_lt_zero q))).trans HB_x1.out
      have q0 := cell_at (v := .bool b1) hBq 0 rfl
      have q1 := cell_at (v := .slice o1 n1 m1) hBq 1 rfl
      have q2 := cell_at (v := .slice p1 l1 e1) hBq 2 rfl
      clear hBq
      clear hA
      refine ⟨(by rfl), ?_⟩
      go_simp <;> (try with_reducible rfl)
    refine Rely.Chain.call (fun _ v w => CI w v (D1 : Int) 8) (fun _ _ _ _ h hb => h.below hb) (fun _ _ _ _ _ h hp => h.keeps hp.keeps) (by rfl) (fun T xs wr hA => ?_) ?_
    · have e19 := hA.tm 2 19 (by rfl) (by rfl)
      have f19 : xs 2 = _ := hA.fa 2 (by rfl)
      (try simp (disch := first | rfl | decide) only [Rely.mask_in] at f19)
      rw [f19] at e19
      clear f19
      have hkp := undrewK hA.kp
      have hbw := undrew (hA.be _ (Nat.le_refl _) (fun q h => absurd h (Nat.not_lt_zero q)))
      have g1 := g1.keeps hkp
      clear hA
      refine ⟨(by rfl), fun K hK => ?_⟩
      go_simp
      refine (below_any g1 (by omega)).mono ?_
      rintro e wq ⟨v, rfl, c, hb⟩
      exact hK.out _ _ c hb
    refine Rely.Chain.alloc ?_ ?_ (by rfl) (fun Ts xs wr hA => ?_) ?_ ?_
    rotate_left 2
    · clear hA
      refine ⟨(by rfl), fun K hK => ?_⟩
      go_simp
      exact hK.out
    · rfl
    refine Rely.Chain.alloc ?_ ?_ (by rfl) (fun Ts xs wr hA => ?_) ?_ ?_
    rotate_left 2
    · clear hA
      refine ⟨(by rfl), fun K hK => ?_⟩
      go_simp
      exact hK.out
    · rfl
    refine Rely.Chain.store 4 1 25 2 (by rfl) (by rfl) (by decide) (by rfl) rfl (fun T xs wr g c hA hx hB hn hi => ?_) ?_
    · have e5 := hA.tm 4 5 (by rfl) (by rfl)
      rw [hx] at e5
      have e18 := hA.tm 1 18 (by rfl) (by rfl)
      have hc : CI wr (xs 1) (D0 : Int) 8 := hA.fa 1 (by rfl)
      obtain ⟨b_h, o_h, l_h, k_h, hv⟩ := hc.shape
      clear hc
      rw [hv] at e18
      obtain ⟨c0, c1, rfl⟩ := two_of hn
      have z0 := cell_at hB 0 rfl
      have z1 := cell_at hB 1 rfl
      have fz0 := froz_at hB 0
      have fz1 := froz_at hB 1
      clear hA hn
      refine ⟨(by rfl), fun K hK => ?_⟩
      go_simp
      exact hK.out _ _ hv (hset2 hB _ _) (priv2 hB hi (by rfl))
    refine Rely.Chain.store 5 3 25 2 (by rfl) (by rfl) (by decide) (by rfl) rfl (fun T xs wr g c hA hx hB hn hi => ?_) ?_
    · have e6 := hA.tm 5 6 (by rfl) (by rfl)
      rw [hx] at e6
      have e20 := hA.tm 3 20 (by rfl) (by rfl)
      have hc : CI wr (xs 3) (D1 : Int) 8 := hA.fa 3 (by rfl)
      obtain ⟨b_h, o_h, l_h, k_h, hv⟩ := hc.shape
      clear hc
      rw [hv] at e20
      obtain ⟨c0, c1, rfl⟩ := two_of hn
      have z0 := cell_at hB 0 rfl
      have z1 := cell_at hB 1 rfl
      have fz0 := froz_at hB 0
      have fz1 := froz_at hB 1
      clear hA hn
      refine ⟨(by rfl), fun K hK => ?_⟩
      go_simp
      exact hK.out _ _ hv (hset2 hB _ _) (priv2 hB hi (by rfl))
    refine Rely.Chain.done (fun xs wx4 hL => ?_)
    obtain ⟨⟨hbe, hbl, hkp0⟩, hf, hp, hn⟩ := hL
    have f0 : xs 0 = _ := hf 0 (by decide)
    (try simp (disch := first | rfl | decide) only [Rely.mask_in] at f0)
    have c_c : CI wx4 (xs 1) (D0 : Int) 8 := hf 1 (by decide)
    have f2 : xs 2 = _ := hf 2 (by decide)
    (try simp (disch := first | rfl | decide) only [Rely.mask_in] at f2)
    have c_d : CI wx4 (xs 3) (D1 : Int) 8 := hf 3 (by decide)
    obtain ⟨g_c, cc, f4, hv, hB_c⟩ := hf 6 (by decide)
    change xs 4 = _ at f4
    change xs 1 = _ at hv
    obtain ⟨b_c, o_c, l_c, k_c, hs_c⟩ := c_c.shape
    rw [hs_c] at hv
    injection hv with hv
    subst hv
    have hg_c : wx3.heap.size ≤ g_c := by obtain ⟨g, h1, h2, -⟩ := hp 4 (by rfl) (by decide); rw [f4] at h1; injection h1 with h1; injection h1 with h1; injection h1 with h1; subst h1; exact h2
    obtain ⟨g_d, cc, f5, hv, hB_d⟩ := hf 7 (by decide)
    change xs 5 = _ at f5
    change xs 3 = _ at hv
    obtain ⟨b_d, o_d, l_d, k_d, hs_d⟩ := c_d.shape
    rw [hs_d] at hv
    injection hv with hv
    subst hv
    have hg_d : wx3.heap.size ≤ g_d := by obtain ⟨g, h1, h2, -⟩ := hp 5 (by rfl) (by decide); rw [f5] at h1; injection h1 with h1; injection h1 with h1; injection h1 with h1; subst h1; exact h2
    have hne_c_d : g_c ≠ g_d := fun h => hn 4 5 (by rfl) (by rfl) (by decide) (by decide) (by decide) (by rw [f4, f5, h])
    clear hf hp hn
    refine Rely.rest_done ?_
    rw [hs_c] at c_c
    rw [hs_d] at c_d
    simp only [Rely.fill, List.setIfInBounds_toArray, List.set_cons_zero, List.set_cons_succ, f0, f2, f4, f5, hs_c, hs_d]
    clear f0 f2 f4 f5 hs_c hs_d
    clear xs
    have hbx := undrew (hbe _ (Nat.le_refl _) (fun q h => absurd h (Nat.not_lt_zero q)))
    clear hbe hbl hkp0
    replace g0 := g0.below hbx
    replace g1 := g1.below hbx
    replace z0 := z0.below hbx
    replace z1 := z1.below hbx
    replace hbt := hbt.trans (hbx.mono hbt.size)
    replace HB_x0 := Lib.hid ((hbx.block _ (lt_of_block HB_x0.out)).trans HB_x0.out)
    replace HB_x1 := Lib.hid ((hbx.block _ (lt_of_block HB_x1.out)).trans HB_x1.out)
    clear hbx
    replace x00 := cell_at (v := .bool b0) HB_x0.out 0 rfl
    replace x01 := cell_at (v := .slice o0 n0 m0) HB_x0.out 1 rfl
    replace x02 := cell_at (v := .slice p0 l0 e0) HB_x0.out 2 rfl
    replace x10 := cell_at (v := .bool b1) HB_x1.out 0 rfl
    replace x11 := cell_at (v := .slice o1 n1 m1) HB_x1.out 1 rfl
    replace x12 := cell_at (v := .slice p1 l1 e1) HB_x1.out 2 rfl
    have HB_c := Lib.hid hB_c
    clear hB_c
    have c0 := cell_at (v := .bool b_c) HB_c.out 0 rfl
    have c1 := cell_at (v := .slice o_c l_c k_c) HB_c.out 1 rfl
    have HB_d := Lib.hid hB_d
    clear hB_d
    have d0 := cell_at (v := .bool b_d) HB_d.out 0 rfl
    have d1 := cell_at (v := .slice o_d l_d k_d) HB_d.out 1 rfl
    clear hlt_x0 hlt_x1
    go_wp2_with fail
    refine (wmul_any _ _ (D0 : Int) (D1 : Int) 8 8 _ c_c.gi c_d.gi (by omega) (by omega)).mono ?_
    rintro e wx5 ⟨v_t, rfl, c_t, hbx⟩
    replace g0 := g0.below hbx
    replace g1 := g1.below hbx
    replace z0 := z0.below hbx
    replace z1 := z1.below hbx
    replace c_c := c_c.below hbx
    replace c_d := c_d.below hbx
    replace hbt := hbt.trans (hbx.mono hbt.size)
    replace HB_x0 := Lib.hid ((hbx.block _ (lt_of_block HB_x0.out)).trans HB_x0.out)
    replace HB_x1 := Lib.hid ((hbx.block _ (lt_of_block HB_x1.out)).trans HB_x1.out)
    replace HB_c := Lib.hid ((hbx.block _ (lt_of_block HB_c.out)).trans HB_c.out)
    replace HB_d := Lib.hid ((hbx.block _ (lt_of_block HB_d.out)).trans HB_d.out)
    clear hbx
    replace x00 := cell_at (v := .bool b0) HB_x0.out 0 rfl
    replace x01 := cell_at (v := .slice o0 n0 m0) HB_x0.out 1 rfl
    replace x02 := cell_at (v := .slice p0 l0 e0) HB_x0.out 2 rfl
    replace x10 := cell_at (v := .bool b1) HB_x1.out 0 rfl
    replace x11 := cell_at (v := .slice o1 n1 m1) HB_x1.out 1 rfl
    replace x12 := cell_at (v := .slice p1 l1 e1) HB_x1.out 2 rfl
    replace c0 := cell_at (v := .bool b_c) HB_c.out 0 rfl
    replace c1 := cell_at (v := .slice o_c l_c k_c) HB_c.out 1 rfl
    replace d0 := cell_at (v := .bool b_d) HB_d.out 0 rfl
    replace d1 := cell_at (v := .slice o_d l_d k_d) HB_d.out 1 rfl
    obtain ⟨b_t, o_t, l_t, k_t, rfl⟩ := c_t.shape
    have hlt_x0 := lt_of_block HB_x0.out
    have hlt_x1 := lt_of_block HB_x1.out
    have hlt_c := lt_of_block HB_c.out
    have hlt_d := lt_of_block HB_d.out
    go_wp2_with fail
    have hla_x0_wx5 : w.heap.size < wx5.heap.size := hlt_x0
    have hla_x1_wx5 : w.heap.size + 1 < wx5.heap.size := hlt_x1
    have hla_c_wx5 : g_c < wx5.heap.size := hlt_c
    have hla_d_wx5 : g_d < wx5.heap.size := hlt_d
    clear hlt_x0 hlt_x1 hlt_c hlt_d
    have hbx : Below wx5.heap.size wx5 (wx5.alloc (.cells #[.bool b_t, .slice o_t l_t k_t] 25)) := ((Below.refl _ _).alloc (by simp) _)
    replace g0 := g0.below hbx
    replace g1 := g1.below hbx
    replace z0 := z0.below hbx
    replace z1 := z1.below hbx
    replace c_c := c_c.below hbx
    replace c_d := c_d.below hbx
    replace c_t := c_t.below hbx
    replace hbt := hbt.trans (hbx.mono hbt.size)
    replace HB_x0 := Lib.hid ((hbx.block _ (lt_of_block HB_x0.out)).trans HB_x0.out)
    replace HB_x1 := Lib.hid ((hbx.block _ (lt_of_block HB_x1.out)).trans HB_x1.out)
    replace HB_c := Lib.hid ((hbx.block _ (lt_of_block HB_c.out)).trans HB_c.out)
    replace HB_d := Lib.hid ((hbx.block _ (lt_of_block HB_d.out)).trans HB_d.out)
    clear hbx
    replace x00 := cell_at (v := .bool b0) HB_x0.out 0 rfl
    replace x01 := cell_at (v := .slice o0 n0 m0) HB_x0.out 1 rfl
    replace x02 := cell_at (v := .slice p0 l0 e0) HB_x0.out 2 rfl
    replace x10 := cell_at (v := .bool b1) HB_x1.out 0 rfl
    replace x11 := cell_at (v := .slice o1 n1 m1) HB_x1.out 1 rfl
    replace x12 := cell_at (v := .slice p1 l1 e1) HB_x1.out 2 rfl
    replace c0 := cell_at (v := .bool b_c) HB_c.out 0 rfl
    replace c1 := cell_at (v := .slice o_c l_c k_c) HB_c.out 1 rfl
    replace d0 := cell_at (v := .bool b_d) HB_d.out 0 rfl
    replace d1 := cell_at (v := .slice o_d l_d k_d) HB_d.out 1 rfl
    have HB_t : Hid ((wx5.alloc (.cells #[.bool b_t, .slice o_t l_t k_t] 25)).heap[wx5.heap.size]? = some (.cells #[.bool b_t, .slice o_t l_t k_t] 25 (0, 0))) := Lib.hid (made_at wx5 (.cells #[.bool b_t, .slice o_t l_t k_t] 25) _ (by first | rfl | simp))
    generalize (wx5.alloc (.cells #[.bool b_t, .slice o_t l_t k_t] 25)) = wx6 at *
    have t0 := cell_at (v := .bool b_t) HB_t.out 0 rfl
    have t1 := cell_at (v := .slice o_t l_t k_t) HB_t.out 1 rfl
    have hlt_x0 := lt_of_block HB_x0.out
    have hlt_x1 := lt_of_block HB_x1.out
    have hlt_c := lt_of_block HB_c.out
    have hlt_d := lt_of_block HB_d.out
    have hlt_t := lt_of_block HB_t.out
    have hla_x0_wx6 : w.heap.size < wx6.heap.size := hlt_x0
    have hla_x1_wx6 : w.heap.size + 1 < wx6.heap.size := hlt_x1
    have hla_c_wx6 : g_c < wx6.heap.size := hlt_c
    have hla_d_wx6 : g_d < wx6.heap.size := hlt_d
    have hla_t_wx6 : wx5.heap.size < wx6.heap.size := hlt_t
    refine Rely.region (by kernel_rfl) [[], [0], [], [0, 1, 2], [], [4], [], [0, 1, 2, 3, 4, 5, 6], [], [], [0, 1, 2, 3, 4, 5, 6, 7, 8, 9], [0, 1, 2, 3, 4, 5, 6, 7, 8, 9, 10]] [8, 9] [(10, 8), (11, 9)] (fun q => [].getD q 0) 0 12 (by kernel_rfl) (by kernel_rfl) (fun q h => absurd h (Nat.not_lt_zero q)) (fun q _ h => absurd h (Nat.not_lt_zero q)) ?_
    refine Rely.Chain.det ?_ (by rfl) (fun T xs wr hA => ?_) ?_
    rotate_left 1
    · have e2 := hA.pre 2 (by kernel_rfl)
      simp only [List.getElem?_toArray, List.getElem?_cons_succ, List.getElem?_cons_zero] at e2
      clear hA
      refine ⟨(by rfl), ?_⟩
      go_simp <;> (try with_reducible rfl)
    refine Rely.Chain.det ?_ (by rfl) (fun T xs wr hA => ?_) ?_
    rotate_left 1
    · have e24 := hA.tm 0 24 (by rfl) (by rfl)
      have f24 : xs 0 = _ := hA.fa 0 (by rfl)
      (try simp (disch := first | rfl | decide) only [Rely.mask_in] at f24)
      rw [f24] at e24
      clear f24
      have hBq : wr.heap[w.heap.size]? = _ := (hA.bl _ hlt_x0 (fun q h => absurd h (Nat.not_lt_zero q))).trans HB_x0.out
      have q0 := cell_at (v := .bool b0) hBq 0 rfl
      have q1 := cell_at (v := .slice o0 n0 m0) hBq 1 rfl
      have q2 := cell_at (v := .slice p0 l0 e0) hBq 2 rfl
      clear hBq
      clear hA
      refine ⟨(by rfl), ?_⟩
      go_simp <;> (try with_reducible rfl)
    refine Rely.Chain.det ?_ (by rfl) (fun T xs wr hA => ?_) ?_
    rotate_left 1
    · have e6 := hA.pre 6 (by kernel_rfl)
      simp only [List.getElem?_toArray, List.getElem?_cons_succ, List.getElem?_cons_zero] at e6
      have hBq : wr.heap[g_d]? = _ := (hA.bl _ hlt_d (fun q h => absurd h (Nat.not_lt_zero q))).trans HB_d.out
      have q0 := cell_at (v := .bool b_d) hBq 0 rfl
      have q1 := cell_at (v := .slice o_d l_d k_d) hBq 1 rfl
      clear hBq
      clear hA
      refine ⟨(by rfl), ?_⟩
      go_simp <;> (try with_reducible rfl)
    refine Rely.Chain.call (fun _ v w => CI w v (N0 * (D1 : Int)) 14) (fun _ _ _ _ h hb => h.below hb) (fun _ _ _ _ _ h hp => h.keeps hp.keeps) (by rfl) (fun T xs wr hA => ?_) ?_
    · have e25 := hA.tm 1 25 (by rfl) (by rfl)
      have f25 : xs 1 = _ := hA.fa 1 (by rfl)
      (try simp (disch := first | rfl | decide) only [Rely.mask_in] at f25)
      rw [f25] at e25
      clear f25
      have e26 := hA.tm 2 26 (by rfl) (by rfl)
      have f26 : xs 2 = _ := hA.fa 2 (by rfl)
      (try simp (disch := first | rfl | decide) only [Rely.mask_in] at f26)
      rw [f26] at e26
      clear f26
      have hkp := undrewK hA.kp
      have hbw := undrew (hA.be _ (Nat.le_refl _) (fun q h => absurd h (Nat.not_lt_zero q)))
      have z0 := z0.keeps hkp
      have c_d := c_d.keeps hkp
      clear hA
      refine ⟨(by rfl), fun K hK => ?_⟩
      go_simp
      refine (wmul_any _ _ N0 (D1 : Int) 6 8 _ z0 c_d.gi (by omega) (by omega)).mono ?_
      rintro e wq ⟨v, rfl, c, hb⟩
      exact hK.out _ _ c hb
    refine Rely.Chain.det ?_ (by rfl) (fun T xs wr hA => ?_) ?_
    rotate_left 1
    · have e3 := hA.pre 3 (by kernel_rfl)
      simp only [List.getElem?_toArray, List.getElem?_cons_succ, List.getElem?_cons_zero] at e3
      clear hA
      refine ⟨(by rfl), ?_⟩
      go_simp <;> (try with_reducible rfl)
    refine Rely.Chain.det ?_ (by rfl) (fun T xs wr hA => ?_) ?_
    rotate_left 1
    · have e28 := hA.tm 4 28 (by rfl) (by rfl)
      have f28 : xs 4 = _ := hA.fa 4 (by rfl)
      (try simp (disch := first | rfl | decide) only [Rely.mask_in] at f28)
      rw [f28] at e28
      clear f28
      have hBq : wr.heap[w.heap.size + 1]? = _ := (hA.bl _ hlt_x1 (fun q h => absurd h (Nat.not_lt_zero q))).trans HB_x1.out
      have q0 := cell_at (v := .bool b1) hBq 0 rfl
      have q1 := cell_at (v := .slice o1 n1 m1) hBq 1 rfl
      have q2 := cell_at (v := .slice p1 l1 e1) hBq 2 rfl
      clear hBq
      clear hA
      refine ⟨(by rfl), ?_⟩
      go_simp <;> (try with_reducible rfl)
    refine Rely.Chain.det ?_ (by rfl) (fun T xs wr hA => ?_) ?_
    rotate_left 1
    · have e5 := hA.pre 5 (by kernel_rfl)
      simp only [List.getElem?_toArray, List.getElem?_cons_succ, List.getElem?_cons_zero] at e5
      have hBq : wr.heap[g_c]? = _ := (hA.bl _ hlt_c (fun q h => absurd h (Nat.not_lt_zero q))).trans HB_c.out
      have q0 := cell_at (v := .bool b_c) hBq 0 rfl
      have q1 := cell_at (v := .slice o_c l_c k_c) hBq 1 rfl
      clear hBq
      clear hA
      refine ⟨(by rfl), ?_⟩
      go_simp <;> (try with_reducible rfl)
    refine Rely.Chain.call (fun _ v w => CI w v (N1 * (D0 : Int)) 14) (fun _ _ _ _ h hb => h.below hb) (fun _ _ _ _ _ h hp => h.keeps hp.keeps) (by rfl) (fun T xs wr hA => ?_) ?_
    · have e29 := hA.tm 5 29 (by rfl) (by rfl)
      have f29 : xs 5 = _ := hA.fa 5 (by rfl)
      (try simp (disch := first | rfl | decide) only [Rely.mask_in] at f29)
      rw [f29] at e29
      clear f29
      have e30 := hA.tm 6 30 (by rfl) (by rfl)
      have f30 : xs 6 = _ := hA.fa 6 (by rfl)
      (try simp (disch := first | rfl | decide) only [Rely.mask_in] at f30)
      rw [f30] at e30
      clear f30
      have hkp := undrewK hA.kp
      have hbw := undrew (hA.be _ (Nat.le_refl _) (fun q h => absurd h (Nat.not_lt_zero q)))
      have z1 := z1.keeps hkp
      have c_c := c_c.keeps hkp
      clear hA
      refine ⟨(by rfl), fun K hK => ?_⟩
      go_simp
      refine (wmul_any _ _ N1 (D0 : Int) 6 8 _ z1 c_c.gi (by omega) (by omega)).mono ?_
      rintro e wq ⟨v, rfl, c, hb⟩
      exact hK.out _ _ c hb
    refine Rely.Chain.alloc ?_ ?_ (by rfl) (fun Ts xs wr hA => ?_) ?_ ?_
    rotate_left 2
    · clear hA
      refine ⟨(by rfl), fun K hK => ?_⟩
      go_simp
      exact hK.out
    · rfl
    refine Rely.Chain.alloc ?_ ?_ (by rfl) (fun Ts xs wr hA => ?_) ?_ ?_
    rotate_left 2
    · clear hA
      refine ⟨(by rfl), fun K hK => ?_⟩
      go_simp
      exact hK.out
    · rfl
    refine Rely.Chain.store 8 3 25 2 (by rfl) (by rfl) (by decide) (by rfl) rfl (fun T xs wr g c hA hx hB hn hi => ?_) ?_
    · have e8 := hA.tm 8 8 (by rfl) (by rfl)
      rw [hx] at e8
      have e27 := hA.tm 3 27 (by rfl) (by rfl)
      have hc : CI wr (xs 3) (N0 * (D1 : Int)) 14 := hA.fa 3 (by rfl)
      obtain ⟨b_h, o_h, l_h, k_h, hv⟩ := hc.shape
      clear hc
      rw [hv] at e27
      obtain ⟨c0, c1, rfl⟩ := two_of hn
      have z0 := cell_at hB 0 rfl
      have z1 := cell_at hB 1 rfl
      have fz0 := froz_at hB 0
      have fz1 := froz_at hB 1
      clear hA hn
      refine ⟨(by rfl), fun K hK => ?_⟩
      go_simp
      exact hK.out _ _ hv (hset2 hB _ _) (priv2 hB hi (by rfl))
    refine Rely.Chain.store 9 7 25 2 (by rfl) (by rfl) (by decide) (by rfl) rfl (fun T xs wr g c hA hx hB hn hi => ?_) ?_
    · have e9 := hA.tm 9 9 (by rfl) (by rfl)
      rw [hx] at e9
      have e31 := hA.tm 7 31 (by rfl) (by rfl)
      have hc : CI wr (xs 7) (N1 * (D0 : Int)) 14 := hA.fa 7 (by rfl)
      obtain ⟨b_h, o_h, l_h, k_h, hv⟩ := hc.shape
      clear hc
      rw [hv] at e31
      obtain ⟨c0, c1, rfl⟩ := two_of hn
      have z0 := cell_at hB 0 rfl
      have z1 := cell_at hB 1 rfl
      have fz0 := froz_at hB 0
      have fz1 := froz_at hB 1
      clear hA hn
      refine ⟨(by rfl), fun K hK => ?_⟩
      go_simp
      exact hK.out _ _ hv (hset2 hB _ _) (priv2 hB hi (by rfl))
    refine Rely.Chain.done (fun xs wx7 hL => ?_)
    obtain ⟨⟨hbe, hbl, hkp0⟩, hf, hp, hn⟩ := hL
    have f0 : xs 0 = _ := hf 0 (by decide)
    (try simp (disch := first | rfl | decide) only [Rely.mask_in] at f0)
    have f1 : xs 1 = _ := hf 1 (by decide)
    (try simp (disch := first | rfl | decide) only [Rely.mask_in] at f1)
    have f2 : xs 2 = _ := hf 2 (by decide)
    (try simp (disch := first | rfl | decide) only [Rely.mask_in] at f2)
    have c_x : CI wx7 (xs 3) (N0 * (D1 : Int)) 14 := hf 3 (by decide)
    have f4 : xs 4 = _ := hf 4 (by decide)
    (try simp (disch := first | rfl | decide) only [Rely.mask_in] at f4)
    have f5 : xs 5 = _ := hf 5 (by decide)
    (try simp (disch := first | rfl | decide) only [Rely.mask_in] at f5)
    have f6 : xs 6 = _ := hf 6 (by decide)
    (try simp (disch := first | rfl | decide) only [Rely.mask_in] at f6)
    have c_y : CI wx7 (xs 7) (N1 * (D0 : Int)) 14 := hf 7 (by decide)
    obtain ⟨g_x, cc, f8, hv, hB_x⟩ := hf 10 (by decide)
    change xs 8 = _ at f8
    change xs 3 = _ at hv
    obtain ⟨b_x, o_x, l_x, k_x, hs_x⟩ := c_x.shape
    rw [hs_x] at hv
    injection hv with hv
    subst hv
    have hg_x : wx6.heap.size ≤ g_x := by obtain ⟨g, h1, h2, -⟩ := hp 8 (by rfl) (by decide); rw [f8] at h1; injection h1 with h1; injection h1 with h1; injection h1 with h1; subst h1; exact h2
    obtain ⟨g_y, cc, f9, hv, hB_y⟩ := hf 11 (by decide)
    change xs 9 = _ at f9
    change xs 7 = _ at hv
    obtain ⟨b_y, o_y, l_y, k_y, hs_y⟩ := c_y.shape
    rw [hs_y] at hv
    injection hv with hv
    subst hv
    have hg_y : wx6.heap.size ≤ g_y := by obtain ⟨g, h1, h2, -⟩ := hp 9 (by rfl) (by decide); rw [f9] at h1; injection h1 with h1; injection h1 with h1; injection h1 with h1; subst h1; exact h2
    have hne_x_y : g_x ≠ g_y := fun h => hn 8 9 (by rfl) (by rfl) (by decide) (by decide) (by decide) (by rw [f8, f9, h])
    clear hf hp hn
    refine Rely.rest_done ?_
    rw [hs_x] at c_x
    rw [hs_y] at c_y
    simp only [Rely.fill, List.setIfInBounds_toArray, List.set_cons_zero, List.set_cons_succ, f0, f1, f2, f4, f5, f6, f8, f9, hs_x, hs_y]
    clear f0 f1 f2 f4 f5 f6 f8 f9 hs_x hs_y
    clear xs
    have hbx := undrew (hbe _ (Nat.le_refl _) (fun q h => absurd h (Nat.not_lt_zero q)))
    clear hbe hbl hkp0
    replace g0 := g0.below hbx
    replace g1 := g1.below hbx
    replace z0 := z0.below hbx
    replace z1 := z1.below hbx
    replace c_c := c_c.below hbx
    replace c_d := c_d.below hbx
    replace c_t := c_t.below hbx
    replace hbt := hbt.trans (hbx.mono hbt.size)
    replace HB_x0 := Lib.hid ((hbx.block _ (lt_of_block HB_x0.out)).trans HB_x0.out)
    replace HB_x1 := Lib.hid ((hbx.block _ (lt_of_block HB_x1.out)).trans HB_x1.out)
    replace HB_c := Lib.hid ((hbx.block _ (lt_of_block HB_c.out)).trans HB_c.out)
    replace HB_d := Lib.hid ((hbx.block _ (lt_of_block HB_d.out)).trans HB_d.out)
    replace HB_t := Lib.hid ((hbx.block _ (lt_of_block HB_t.out)).trans HB_t.out)
    clear hbx
    replace x00 := cell_at (v := .bool b0) HB_x0.out 0 rfl
    replace x01 := cell_at (v := .slice o0 n0 m0) HB_x0.out 1 rfl
    replace x02 := cell_at (v := .slice p0 l0 e0) HB_x0.out 2 rfl
    replace x10 := cell_at (v := .bool b1) HB_x1.out 0 rfl
    replace x11 := cell_at (v := .slice o1 n1 m1) HB_x1.out 1 rfl
    replace x12 := cell_at (v := .slice p1 l1 e1) HB_x1.out 2 rfl
    replace c0 := cell_at (v := .bool b_c) HB_c.out 0 rfl
    replace c1 := cell_at (v := .slice o_c l_c k_c) HB_c.out 1 rfl
    replace d0 := cell_at (v := .bool b_d) HB_d.out 0 rfl
    replace d1 := cell_at (v := .slice o_d l_d k_d) HB_d.out 1 rfl
    replace t0 := cell_at (v := .bool b_t) HB_t.out 0 rfl
    replace t1 := cell_at (v := .slice o_t l_t k_t) HB_t.out 1 rfl
    have HB_x := Lib.hid hB_x
    clear hB_x
    have x0 := cell_at (v := .bool b_x) HB_x.out 0 rfl
    have x1 := cell_at (v := .slice o_x l_x k_x) HB_x.out 1 rfl
    have HB_y := Lib.hid hB_y
    clear hB_y
    have y0 := cell_at (v := .bool b_y) HB_y.out 0 rfl
    have y1 := cell_at (v := .slice o_y l_y k_y) HB_y.out 1 rfl
    clear hlt_x0 hlt_x1 hlt_t
    go_wp2_with fail
    have hlt_x0 := lt_of_block HB_x0.out
    have hlt_x1 := lt_of_block HB_x1.out
    have hlt_c := lt_of_block HB_c.out
    have hlt_d := lt_of_block HB_d.out
    have hlt_t := lt_of_block HB_t.out
    have hlt_x := lt_of_block HB_x.out
    have hlt_y := lt_of_block HB_y.out
    refine Rely.region (by kernel_rfl) [[], [], [0, 1], [], [], [0, 1, 2, 3, 4], [], [0, 1, 2, 3, 4, 5, 6], [0, 1, 2, 3, 4, 5, 6, 7], [0, 1, 2, 3, 4, 5, 6, 7, 8], [0, 1, 2, 3, 4, 5, 6, 7, 8, 9], [0, 1, 2, 3, 4, 5, 6, 7, 8, 9], [0, 1, 2, 3, 4, 5, 6, 7, 8, 9, 10, 11], [0, 1, 2, 3, 4, 5, 6, 7, 8, 9], [0, 1, 2, 3, 4, 5, 6, 7, 8, 9], [0, 1, 2, 3, 4, 5, 6, 7, 8, 9, 10, 11, 12, 13, 14], [0, 1, 2, 3, 4, 5, 6, 7, 8, 9], [0, 1, 2, 3, 4, 5, 6, 7, 8, 9, 10, 11, 12, 13, 14, 15, 16], [0, 1, 2, 3, 4, 5, 6, 7, 8, 9, 10, 11, 12, 13, 14, 15, 16, 17], [0, 1, 2, 3, 4, 5, 6, 7, 8, 9, 10, 11, 12, 13, 14, 15, 16, 17, 18], [0, 1, 2, 3, 4, 5, 6, 7, 8, 9, 10, 11, 12, 13, 14, 15, 16, 17, 18, 19], [0, 1, 2, 3, 4, 5, 6, 7, 8, 9, 10, 11, 12, 13, 14, 15, 16, 17, 18, 19, 20], [0, 1, 2, 3, 4, 5, 6, 7, 8, 9, 10, 11, 12, 13, 14, 15, 16, 17, 18, 19, 20], [0, 1, 2, 3, 4, 5, 6, 7, 8, 9, 10, 11, 12, 13, 14, 15, 16, 17, 18, 19, 20, 21, 22], [0, 1, 2, 3, 4, 5, 6, 7, 8, 9, 10, 11, 12, 13, 14, 15, 16, 17, 18, 19, 20], [0, 1, 2, 3, 4, 5, 6, 7, 8, 9, 10, 11, 12, 13, 14, 15, 16, 17, 18, 19, 20, 24], [0, 1, 2, 3, 4, 5, 6, 7, 8, 9, 10, 11, 12, 13, 14, 15, 16, 17, 18, 19, 20], [0, 1, 2, 3, 4, 5, 6, 7, 8, 9, 10, 11, 12, 13, 14, 15, 16, 17, 18, 19, 20, 26], [0, 1, 2, 3, 4, 5, 6, 7, 8, 9, 10, 11, 12, 13, 14, 15, 16, 17, 18, 19, 20, 21, 22, 23, 24, 25, 26, 27], [0, 1, 2, 3, 4, 5, 6, 7, 8, 9, 10, 11, 12, 13, 14, 15, 16, 17, 18, 19, 20], [0, 1, 2, 3, 4, 5, 6, 7, 8, 9, 10, 11, 12, 13, 14, 15, 16, 17, 18, 19, 20, 21, 22, 23, 24, 25, 26, 27, 28, 29], [0, 1, 2, 3, 4, 5, 6, 7, 8, 9, 10, 11, 12, 13, 14, 15, 16, 17, 18, 19, 20, 21, 22, 23, 24, 25, 26, 27, 28, 29, 30], [0, 1, 2, 3, 4, 5, 6, 7, 8, 9, 10, 11, 12, 13, 14, 15, 16, 17, 18, 19, 20, 21, 22, 23, 24, 25, 26, 27, 28, 29, 30, 31]] [] [] (fun q => [].getD q 0) 0 33 (by kernel_rfl) (by kernel_rfl) (fun q h => absurd h (Nat.not_lt_zero q)) (fun q _ h => absurd h (Nat.not_lt_zero q)) ?_
    refine Rely.Chain.det ?_ (by rfl) (fun T xs wr hA => ?_) ?_
    rotate_left 1
    · have e2 := hA.pre 2 (by kernel_rfl)
      simp only [List.getElem?_toArray, List.getElem?_cons_succ, List.getElem?_cons_zero] at e2
      have hBq : wr.heap[w.heap.size]? = _ := (hA.bl _ hlt_x0 (fun q h => absurd h (Nat.not_lt_zero q))).trans HB_x0.out
      have q0 := cell_at (v := .bool b0) hBq 0 rfl
      have q1 := cell_at (v := .slice o0 n0 m0) hBq 1 rfl
      have q2 := cell_at (v := .slice p0 l0 e0) hBq 2 rfl
      clear hBq
      clear hA
      refine ⟨(by rfl), ?_⟩
      go_simp <;> (try with_reducible rfl)
    refine Rely.Chain.det ?_ (by rfl) (fun T xs wr hA => ?_) ?_
    rotate_left 1
    · have e3 := hA.pre 3 (by kernel_rfl)
      simp only [List.getElem?_toArray, List.getElem?_cons_succ, List.getElem?_cons_zero] at e3
      have hBq : wr.heap[w.heap.size + 1]? = _ := (hA.bl _ hlt_x1 (fun q h => absurd h (Nat.not_lt_zero q))).trans HB_x1.out
      have q0 := cell_at (v := .bool b1) hBq 0 rfl
      have q1 := cell_at (v := .slice o1 n1 m1) hBq 1 rfl
      have q2 := cell_at (v := .slice p1 l1 e1) hBq 2 rfl
      clear hBq
      clear hA
      refine ⟨(by rfl), ?_⟩
      go_simp <;> (try with_reducible rfl)
    refine Rely.Chain.call (fun _ v w => CQ w v (mkRat N0 D0 + mkRat N1 D1) 44) (fun _ _ _ _ h hb => h.below hb) (fun _ _ _ _ _ h hp => h.keeps hp.keeps) (by rfl) (fun T xs wr hA => ?_) ?_
    · have e32 := hA.tm 0 32 (by rfl) (by rfl)
      have f32 : xs 0 = _ := hA.fa 0 (by rfl)
      (try simp (disch := first | rfl | decide) only [Rely.mask_in] at f32)
      rw [f32] at e32
      clear f32
      have e33 := hA.tm 1 33 (by rfl) (by rfl)
      have f33 : xs 1 = _ := hA.fa 1 (by rfl)
      (try simp (disch := first | rfl | decide) only [Rely.mask_in] at f33)
      rw [f33] at e33
      clear f33
      have hkp := undrewK hA.kp
      have hbw := undrew (hA.be _ (Nat.le_refl _) (fun q h => absurd h (Nat.not_lt_zero q)))
      have g0 := g0.keeps hkp
      have g1 := g1.keeps hkp
      clear hA
      refine ⟨(by rfl), fun K hK => ?_⟩
      go_simp
      refine (qadd_any g0 g1 (by omega) (by omega)).mono ?_
      rintro e wq ⟨v, rfl, c, hb⟩
      exact hK.out _ _ c hb
    refine Rely.Chain.det ?_ (by rfl) (fun T xs wr hA => ?_) ?_
    rotate_left 1
    · have e8 := hA.pre 8 (by kernel_rfl)
      simp only [List.getElem?_toArray, List.getElem?_cons_succ, List.getElem?_cons_zero] at e8
      have hBq : wr.heap[g_x]? = _ := (hA.bl _ hlt_x (fun q h => absurd h (Nat.not_lt_zero q))).trans HB_x.out
      have q0 := cell_at (v := .bool b_x) hBq 0 rfl
      have q1 := cell_at (v := .slice o_x l_x k_x) hBq 1 rfl
      clear hBq
      clear hA
      refine ⟨(by rfl), ?_⟩
      go_simp <;> (try with_reducible rfl)
    refine Rely.Chain.det ?_ (by rfl) (fun T xs wr hA => ?_) ?_
    rotate_left 1
    · have e9 := hA.pre 9 (by kernel_rfl)
      simp only [List.getElem?_toArray, List.getElem?_cons_succ, List.getElem?_cons_zero] at e9
      have hBq : wr.heap[g_y]? = _ := (hA.bl _ hlt_y (fun q h => absurd h (Nat.not_lt_zero q))).trans HB_y.out
      have q0 := cell_at (v := .bool b_y) hBq 0 rfl
      have q1 := cell_at (v := .slice o_y l_y k_y) hBq 1 rfl
      clear hBq
      clear hA
      refine ⟨(by rfl), ?_⟩
      go_simp <;> (try with_reducible rfl)
    refine Rely.Chain.call (fun _ v w => CI w v (N0 * (D1 : Int) + N1 * (D0 : Int)) 29) (fun _ _ _ _ h hb => h.below hb) (fun _ _ _ _ _ h hp => h.keeps hp.keeps) (by rfl) (fun T xs wr hA => ?_) ?_
    · have e35 := hA.tm 3 35 (by rfl) (by rfl)
      have f35 : xs 3 = _ := hA.fa 3 (by rfl)
      (try simp (disch := first | rfl | decide) only [Rely.mask_in] at f35)
      rw [f35] at e35
      clear f35
      have e36 := hA.tm 4 36 (by rfl) (by rfl)
      have f36 : xs 4 = _ := hA.fa 4 (by rfl)
      (try simp (disch := first | rfl | decide) only [Rely.mask_in] at f36)
      rw [f36] at e36
      clear f36
      have hkp := undrewK hA.kp
      have hbw := undrew (hA.be _ (Nat.le_refl _) (fun q h => absurd h (Nat.not_lt_zero q)))
      have c_x := c_x.keeps hkp
      have c_y := c_y.keeps hkp
      clear hA
      refine ⟨(by rfl), fun K hK => ?_⟩
      go_simp
      refine (wadd_any _ _ _ _ _ _ _ c_x.gi c_y.gi (by omega) (by omega)).mono ?_
      rintro e wq ⟨v, rfl, c, hb⟩
      exact hK.out _ _ c hb
    refine Rely.Chain.det ?_ (by rfl) (fun T xs wr hA => ?_) ?_
    rotate_left 1
    · have e7 := hA.pre 7 (by kernel_rfl)
      simp only [List.getElem?_toArray, List.getElem?_cons_succ, List.getElem?_cons_zero] at e7
      have hBq : wr.heap[wx5.heap.size]? = _ := (hA.bl _ hlt_t (fun q h => absurd h (Nat.not_lt_zero q))).trans HB_t.out
      have q0 := cell_at (v := .bool b_t) hBq 0 rfl
      have q1 := cell_at (v := .slice o_t l_t k_t) hBq 1 rfl
      clear hBq
      clear hA
      refine ⟨(by rfl), ?_⟩
      go_simp <;> (try with_reducible rfl)
    refine Rely.Chain.call (fun _ v _ => v = .bool true) (fun _ _ _ _ h _ => h) (fun _ _ _ _ _ h _ => h) (by rfl) (fun T xs wr hA => ?_) ?_
    · have e34 := hA.tm 2 34 (by rfl) (by rfl)
      have e37 := hA.tm 5 37 (by rfl) (by rfl)
      have e38 := hA.tm 6 38 (by rfl) (by rfl)
      have f38 : xs 6 = _ := hA.fa 6 (by rfl)
      (try simp (disch := first | rfl | decide) only [Rely.mask_in] at f38)
      rw [f38] at e38
      clear f38
      have hkp := undrewK hA.kp
      have hbw := undrew (hA.be _ (Nat.le_refl _) (fun q h => absurd h (Nat.not_lt_zero q)))
      have c_q1 : CQ wr (xs 2) (mkRat N0 D0 + mkRat N1 D1) 44 := hA.fa 2 (by rfl)
      have c_s1 : CI wr (xs 5) (N0 * (D1 : Int) + N1 * (D0 : Int)) 29 := hA.fa 5 (by rfl)
      have c_t := c_t.keeps hkp
      clear hA
      refine ⟨(by rfl), fun K hK => ?_⟩
      go_simp
      refine (is_right c_q1 c_s1.gi c_t.gi (by omega) (by omega) (by omega) HA.out).mono ?_
      rintro e wq ⟨rfl, hb⟩
      exact hK.out _ _ rfl hb
    refine Rely.Chain.det ?_ (by rfl) (fun T xs wr hA => ?_) ?_
    rotate_left 1
    · have e39 := hA.tm 7 39 (by rfl) (by rfl)
      have f39 : xs 7 = (.bool true) := hA.fa 7 (by rfl)
      rw [f39] at e39
      clear f39
      clear hA
      refine ⟨(by rfl), ?_⟩
      go_simp <;> (try with_reducible rfl)
    refine Rely.Chain.det ?_ (by rfl) (fun T xs wr hA => ?_) ?_
    rotate_left 1
    · have e40 := hA.tm 8 40 (by rfl) (by rfl)
      have f40 : xs 8 = _ := hA.fa 8 (by rfl)
      (try simp (disch := first | rfl | decide) only [Rely.mask_in] at f40)
      rw [f40] at e40
      clear f40
      clear hA
      refine ⟨(by rfl), ?_⟩
      go_simp <;> (try with_reducible rfl)
    refine Rely.Chain.det ?_ (by rfl) (fun T xs wr hA => ?_) ?_
    rotate_left 1
    · have e41 := hA.tm 9 41 (by rfl) (by rfl)
      have f41 : xs 9 = _ := hA.fa 9 (by rfl)
      (try simp (disch := first | rfl | decide) only [Rely.mask_in] at f41)
      rw [f41] at e41
      clear f41
      have e2 := hA.pre 2 (by kernel_rfl)
      simp only [List.getElem?_toArray, List.getElem?_cons_succ, List.getElem?_cons_zero] at e2
      have hBq : wr.heap[w.heap.size]? = _ := (hA.bl _ hlt_x0 (fun q h => absurd h (Nat.not_lt_zero q))).trans HB_x0.out
      have q0 := cell_at (v := .bool b0) hBq 0 rfl
      have q1 := cell_at (v := .slice o0 n0 m0) hBq 1 rfl
      have q2 := cell_at (v := .slice p0 l0 e0) hBq 2 rfl
      clear hBq
      clear hA
      refine ⟨((Rely.wanted_at rfl (by rfl) e41).trans (by rfl)), ?_⟩
      go_simp <;> (try with_reducible rfl)
    refine Rely.Chain.det ?_ (by rfl) (fun T xs wr hA => ?_) ?_
    rotate_left 1
    · have e41 := hA.tm 9 41 (by rfl) (by rfl)
      have f41 : xs 9 = _ := hA.fa 9 (by rfl)
      (try simp (disch := first | rfl | decide) only [Rely.mask_in] at f41)
      rw [f41] at e41
      clear f41
      have e3 := hA.pre 3 (by kernel_rfl)
      simp only [List.getElem?_toArray, List.getElem?_cons_succ, List.getElem?_cons_zero] at e3
      have hBq : wr.heap[w.heap.size + 1]? = _ := (hA.bl _ hlt_x1 (fun q h => absurd h (Nat.not_lt_zero q))).trans HB_x1.out
      have q0 := cell_at (v := .bool b1) hBq 0 rfl
      have q1 := cell_at (v := .slice o1 n1 m1) hBq 1 rfl
      have q2 := cell_at (v := .slice p1 l1 e1) hBq 2 rfl
      clear hBq
      clear hA
      refine ⟨((Rely.wanted_at rfl (by rfl) e41).trans (by rfl)), ?_⟩
      go_simp <;> (try with_reducible rfl)
    refine Rely.Chain.call (fun _ v w => CQ w v (mkRat N0 D0 - mkRat N1 D1) 44) (fun _ _ _ _ h hb => h.below hb) (fun _ _ _ _ _ h hp => h.keeps hp.keeps) (by rfl) (fun T xs wr hA => ?_) ?_
    · have e41 := hA.tm 9 41 (by rfl) (by rfl)
      have f41 : xs 9 = _ := hA.fa 9 (by rfl)
      (try simp (disch := first | rfl | decide) only [Rely.mask_in] at f41)
      rw [f41] at e41
      clear f41
      have e42 := hA.tm 10 42 (by rfl) (by rfl)
      have f42 : xs 10 = _ := hA.fa 10 (by rfl)
      (try simp (disch := first | rfl | decide) only [Rely.mask_in] at f42)
      rw [f42] at e42
      clear f42
      have e43 := hA.tm 11 43 (by rfl) (by rfl)
      have f43 : xs 11 = _ := hA.fa 11 (by rfl)
      (try simp (disch := first | rfl | decide) only [Rely.mask_in] at f43)
      rw [f43] at e43
      clear f43
      have hkp := undrewK hA.kp
      have hbw := undrew (hA.be _ (Nat.le_refl _) (fun q h => absurd h (Nat.not_lt_zero q)))
      have g0 := g0.keeps hkp
      have g1 := g1.keeps hkp
      clear hA
      refine ⟨((Rely.wanted_at rfl (by rfl) e41).trans (by rfl)), fun K hK => ?_⟩
      clear e41
      go_simp
      refine (qsub_any g0 g1 (by omega) (by omega)).mono ?_
      rintro e wq ⟨v, rfl, c, hb⟩
      exact hK.out _ _ c hb
    refine Rely.Chain.det ?_ (by rfl) (fun T xs wr hA => ?_) ?_
    rotate_left 1
    · have e41 := hA.tm 9 41 (by rfl) (by rfl)
      have f41 : xs 9 = _ := hA.fa 9 (by rfl)
      (try simp (disch := first | rfl | decide) only [Rely.mask_in] at f41)
      rw [f41] at e41
      clear f41
      have e8 := hA.pre 8 (by kernel_rfl)
      simp only [List.getElem?_toArray, List.getElem?_cons_succ, List.getElem?_cons_zero] at e8
      have hBq : wr.heap[g_x]? = _ := (hA.bl _ hlt_x (fun q h => absurd h (Nat.not_lt_zero q))).trans HB_x.out
      have q0 := cell_at (v := .bool b_x) hBq 0 rfl
      have q1 := cell_at (v := .slice o_x l_x k_x) hBq 1 rfl
      clear hBq
      clear hA
      refine ⟨((Rely.wanted_at rfl (by rfl) e41).trans (by rfl)), ?_⟩
      go_simp <;> (try with_reducible rfl)
    refine Rely.Chain.det ?_ (by rfl) (fun T xs wr hA => ?_) ?_
    rotate_left 1
    · have e41 := hA.tm 9 41 (by rfl) (by rfl)
      have f41 : xs 9 = _ := hA.fa 9 (by rfl)
      (try simp (disch := first | rfl | decide) only [Rely.mask_in] at f41)
      rw [f41] at e41
      clear f41
      have e9 := hA.pre 9 (by kernel_rfl)
      simp only [List.getElem?_toArray, List.getElem?_cons_succ, List.getElem?_cons_zero] at e9
      have hBq : wr.heap[g_y]? = _ := (hA.bl _ hlt_y (fun q h => absurd h (Nat.not_lt_zero q))).trans HB_y.out
      have q0 := cell_at (v := .bool b_y) hBq 0 rfl
      have q1 := cell_at (v := .slice o_y l_y k_y) hBq 1 rfl
      clear hBq
      clear hA
      refine ⟨((Rely.wanted_at rfl (by rfl) e41).trans (by rfl)), ?_⟩
      go_simp <;> (try with_reducible rfl)
    refine Rely.Chain.call (fun _ v w => CI w v (N0 * (D1 : Int) - N1 * (D0 : Int)) 29) (fun _ _ _ _ h hb => h.below hb) (fun _ _ _ _ _ h hp => h.keeps hp.keeps) (by rfl) (fun T xs wr hA => ?_) ?_
    · have e41 := hA.tm 9 41 (by rfl) (by rfl)
      have f41 : xs 9 = _ := hA.fa 9 (by rfl)
      (try simp (disch := first | rfl | decide) only [Rely.mask_in] at f41)
      rw [f41] at e41
      clear f41
      have e45 := hA.tm 13 45 (by rfl) (by rfl)
      have f45 : xs 13 = _ := hA.fa 13 (by rfl)
      (try simp (disch := first | rfl | decide) only [Rely.mask_in] at f45)
      rw [f45] at e45
      clear f45
      have e46 := hA.tm 14 46 (by rfl) (by rfl)
      have f46 : xs 14 = _ := hA.fa 14 (by rfl)
      (try simp (disch := first | rfl | decide) only [Rely.mask_in] at f46)
      rw [f46] at e46
      clear f46
      have hkp := undrewK hA.kp
      have hbw := undrew (hA.be _ (Nat.le_refl _) (fun q h => absurd h (Nat.not_lt_zero q)))
      have c_x := c_x.keeps hkp
      have c_y := c_y.keeps hkp
      clear hA
      refine ⟨((Rely.wanted_at rfl (by rfl) e41).trans (by rfl)), fun K hK => ?_⟩
      clear e41
      go_simp
      refine (wsub_any _ _ _ _ _ _ _ c_x.gi c_y.gi (by omega) (by omega)).mono ?_
      rintro e wq ⟨v, rfl, c, hb⟩
      exact hK.out _ _ c hb
    refine Rely.Chain.det ?_ (by rfl) (fun T xs wr hA => ?_) ?_
    rotate_left 1
    · have e41 := hA.tm 9 41 (by rfl) (by rfl)
      have f41 : xs 9 = _ := hA.fa 9 (by rfl)
      (try simp (disch := first | rfl | decide) only [Rely.mask_in] at f41)
      rw [f41] at e41
      clear f41
      have e7 := hA.pre 7 (by kernel_rfl)
      simp only [List.getElem?_toArray, List.getElem?_cons_succ, List.getElem?_cons_zero] at e7
      have hBq : wr.heap[wx5.heap.size]? = _ := (hA.bl _ hlt_t (fun q h => absurd h (Nat.not_lt_zero q))).trans HB_t.out
      have q0 := cell_at (v := .bool b_t) hBq 0 rfl
      have q1 := cell_at (v := .slice o_t l_t k_t) hBq 1 rfl
      clear hBq
      clear hA
      refine ⟨((Rely.wanted_at rfl (by rfl) e41).trans (by rfl)), ?_⟩
      go_simp <;> (try with_reducible rfl)
    refine Rely.Chain.call (fun _ v _ => v = .bool true) (fun _ _ _ _ h _ => h) (fun _ _ _ _ _ h _ => h) (by rfl) (fun T xs wr hA => ?_) ?_
    · have e41 := hA.tm 9 41 (by rfl) (by rfl)
      have f41 : xs 9 = _ := hA.fa 9 (by rfl)
      (try simp (disch := first | rfl | decide) only [Rely.mask_in] at f41)
      rw [f41] at e41
      clear f41
      have e44 := hA.tm 12 44 (by rfl) (by rfl)
      have e47 := hA.tm 15 47 (by rfl) (by rfl)
      have e48 := hA.tm 16 48 (by rfl) (by rfl)
      have f48 : xs 16 = _ := hA.fa 16 (by rfl)
      (try simp (disch := first | rfl | decide) only [Rely.mask_in] at f48)
      rw [f48] at e48
      clear f48
      have hkp := undrewK hA.kp
      have hbw := undrew (hA.be _ (Nat.le_refl _) (fun q h => absurd h (Nat.not_lt_zero q)))
      have c_q2 : CQ wr (xs 12) (mkRat N0 D0 - mkRat N1 D1) 44 := hA.fa 12 (by rfl)
      have c_s2 : CI wr (xs 15) (N0 * (D1 : Int) - N1 * (D0 : Int)) 29 := hA.fa 15 (by rfl)
      have c_t := c_t.keeps hkp
      clear hA
      refine ⟨((Rely.wanted_at rfl (by rfl) e41).trans (by rfl)), fun K hK => ?_⟩
      clear e41
      go_simp
      refine (is_right c_q2 c_s2.gi c_t.gi (by omega) (by omega) (by omega) HB.out).mono ?_
      rintro e wq ⟨rfl, hb⟩
      exact hK.out _ _ rfl hb
    refine Rely.Chain.det ?_ (by rfl) (fun T xs wr hA => ?_) ?_
    rotate_left 1
    · have e41 := hA.tm 9 41 (by rfl) (by rfl)
      have f41 : xs 9 = _ := hA.fa 9 (by rfl)
      (try simp (disch := first | rfl | decide) only [Rely.mask_in] at f41)
      rw [f41] at e41
      clear f41
      have e49 := hA.tm 17 49 (by rfl) (by rfl)
      have f49 : xs 17 = (.bool true) := hA.fa 17 (by rfl)
      rw [f49] at e49
      clear f49
      clear hA
      refine ⟨((Rely.wanted_at rfl (by rfl) e41).trans (by rfl)), ?_⟩
      go_simp <;> (try with_reducible rfl)
    refine Rely.Chain.det ?_ (by rfl) (fun T xs wr hA => ?_) ?_
    rotate_left 1
    · have e41 := hA.tm 9 41 (by rfl) (by rfl)
      have f41 : xs 9 = _ := hA.fa 9 (by rfl)
      (try simp (disch := first | rfl | decide) only [Rely.mask_in] at f41)
      rw [f41] at e41
      clear f41
      have e50 := hA.tm 18 50 (by rfl) (by rfl)
      have f50 : xs 18 = _ := hA.fa 18 (by rfl)
      (try simp (disch := first | rfl | decide) only [Rely.mask_in] at f50)
      rw [f50] at e50
      clear f50
      clear hA
      refine ⟨(by rfl), ?_⟩
      go_simp <;> (try with_reducible rfl)
    refine Rely.Chain.det ?_ (by rfl) (fun T xs wr hA => ?_) ?_
    rotate_left 1
    · have e51 := hA.tm 19 51 (by rfl) (by rfl)
      have f51 : xs 19 = _ := hA.fa 19 (by rfl)
      (try simp (disch := first | rfl | decide) only [Rely.mask_in] at f51)
      rw [f51] at e51
      clear f51
      clear hA
      refine ⟨(by rfl), ?_⟩
      go_simp <;> (try with_reducible rfl)
    refine Rely.Chain.det ?_ (by rfl) (fun T xs wr hA => ?_) ?_
    rotate_left 1
    · have e52 := hA.tm 20 52 (by rfl) (by rfl)
      have f52 : xs 20 = _ := hA.fa 20 (by rfl)
      (try simp (disch := first | rfl | decide) only [Rely.mask_in] at f52)
      rw [f52] at e52
      clear f52
      have e2 := hA.pre 2 (by kernel_rfl)
      simp only [List.getElem?_toArray, List.getElem?_cons_succ, List.getElem?_cons_zero] at e2
      have hBq : wr.heap[w.heap.size]? = _ := (hA.bl _ hlt_x0 (fun q h => absurd h (Nat.not_lt_zero q))).trans HB_x0.out
      have q0 := cell_at (v := .bool b0) hBq 0 rfl
      have q1 := cell_at (v := .slice o0 n0 m0) hBq 1 rfl
      have q2 := cell_at (v := .slice p0 l0 e0) hBq 2 rfl
      clear hBq
      clear hA
      refine ⟨((Rely.wanted_at rfl (by rfl) e52).trans (by rfl)), ?_⟩
      go_simp <;> (try with_reducible rfl)
    refine Rely.Chain.det ?_ (by rfl) (fun T xs wr hA => ?_) ?_
    rotate_left 1
    · have e52 := hA.tm 20 52 (by rfl) (by rfl)
      have f52 : xs 20 = _ := hA.fa 20 (by rfl)
      (try simp (disch := first | rfl | decide) only [Rely.mask_in] at f52)
      rw [f52] at e52
      clear f52
      have e3 := hA.pre 3 (by kernel_rfl)
      simp only [List.getElem?_toArray, List.getElem?_cons_succ, List.getElem?_cons_zero] at e3
      have hBq : wr.heap[w.heap.size + 1]? = _ := (hA.bl _ hlt_x1 (fun q h => absurd h (Nat.not_lt_zero q))).trans HB_x1.out
      have q0 := cell_at (v := .bool b1) hBq 0 rfl
      have q1 := cell_at (v := .slice o1 n1 m1) hBq 1 rfl
      have q2 := cell_at (v := .slice p1 l1 e1) hBq 2 rfl
      clear hBq
      clear hA
      refine ⟨((Rely.wanted_at rfl (by rfl) e52).trans (by rfl)), ?_⟩
      go_simp <;> (try with_reducible rfl)
    refine Rely.Chain.call (fun _ v w => CQ w v (mkRat N0 D0 * mkRat N1 D1) 32) (fun _ _ _ _ h hb => h.below hb) (fun _ _ _ _ _ h hp => h.keeps hp.keeps) (by rfl) (fun T xs wr hA => ?_) ?_
    · have e52 := hA.tm 20 52 (by rfl) (by rfl)
      have f52 : xs 20 = _ := hA.fa 20 (by rfl)
      (try simp (disch := first | rfl | decide) only [Rely.mask_in] at f52)
      rw [f52] at e52
      clear f52
      have e53 := hA.tm 21 53 (by rfl) (by rfl)
      have f53 : xs 21 = _ := hA.fa 21 (by rfl)
      (try simp (disch := first | rfl | decide) only [Rely.mask_in] at f53)
      rw [f53] at e53
      clear f53
      have e54 := hA.tm 22 54 (by rfl) (by rfl)
      have f54 : xs 22 = _ := hA.fa 22 (by rfl)
      (try simp (disch := first | rfl | decide) only [Rely.mask_in] at f54)
      rw [f54] at e54
      clear f54
      have hkp := undrewK hA.kp
      have hbw := undrew (hA.be _ (Nat.le_refl _) (fun q h => absurd h (Nat.not_lt_zero q)))
      have g0 := g0.keeps hkp
      have g1 := g1.keeps hkp
      clear hA
      refine ⟨((Rely.wanted_at rfl (by rfl) e52).trans (by rfl)), fun K hK => ?_⟩
      clear e52
      go_simp
      refine (qmul_any g0 g1 (by omega) (by omega)).mono ?_
      rintro e wq ⟨v, rfl, c, hb⟩
      exact hK.out _ _ c hb
    refine Rely.Chain.det ?_ (by rfl) (fun T xs wr hA => ?_) ?_
    rotate_left 1
    · have e52 := hA.tm 20 52 (by rfl) (by rfl)
      have f52 : xs 20 = _ := hA.fa 20 (by rfl)
      (try simp (disch := first | rfl | decide) only [Rely.mask_in] at f52)
      rw [f52] at e52
      clear f52
      have e2 := hA.pre 2 (by kernel_rfl)
      simp only [List.getElem?_toArray, List.getElem?_cons_succ, List.getElem?_cons_zero] at e2
      clear hA
      refine ⟨((Rely.wanted_at rfl (by rfl) e52).trans (by rfl)), ?_⟩
      go_simp <;> (try with_reducible rfl)
    refine Rely.Chain.det ?_ (by rfl) (fun T xs wr hA => ?_) ?_
    rotate_left 1
    · have e52 := hA.tm 20 52 (by rfl) (by rfl)
      have f52 : xs 20 = _ := hA.fa 20 (by rfl)
      (try simp (disch := first | rfl | decide) only [Rely.mask_in] at f52)
      rw [f52] at e52
      clear f52
      have e56 := hA.tm 24 56 (by rfl) (by rfl)
      have f56 : xs 24 = _ := hA.fa 24 (by rfl)
      (try simp (disch := first | rfl | decide) only [Rely.mask_in] at f56)
      rw [f56] at e56
      clear f56
      have hBq : wr.heap[w.heap.size]? = _ := (hA.bl _ hlt_x0 (fun q h => absurd h (Nat.not_lt_zero q))).trans HB_x0.out
      have q0 := cell_at (v := .bool b0) hBq 0 rfl
      have q1 := cell_at (v := .slice o0 n0 m0) hBq 1 rfl
      have q2 := cell_at (v := .slice p0 l0 e0) hBq 2 rfl
      clear hBq
      clear hA
      refine ⟨((Rely.wanted_at rfl (by rfl) e52).trans (by rfl)), ?_⟩
      go_simp <;> (try with_reducible rfl)
    refine Rely.Chain.det ?_ (by rfl) (fun T xs wr hA => ?_) ?_
    rotate_left 1
    · have e52 := hA.tm 20 52 (by rfl) (by rfl)
      have f52 : xs 20 = _ := hA.fa 20 (by rfl)
      (try simp (disch := first | rfl | decide) only [Rely.mask_in] at f52)
      rw [f52] at e52
      clear f52
      have e3 := hA.pre 3 (by kernel_rfl)
      simp only [List.getElem?_toArray, List.getElem?_cons_succ, List.getElem?_cons_zero] at e3
      clear hA
      refine ⟨((Rely.wanted_at rfl (by rfl) e52).trans (by rfl)), ?_⟩
      go_simp <;> (try with_reducible rfl)
    refine Rely.Chain.det ?_ (by rfl) (fun T xs wr hA => ?_) ?_
    rotate_left 1
    · have e52 := hA.tm 20 52 (by rfl) (by rfl)
      have f52 : xs 20 = _ := hA.fa 20 (by rfl)
      (try simp (disch := first | rfl | decide) only [Rely.mask_in] at f52)
      rw [f52] at e52
      clear f52
      have e58 := hA.tm 26 58 (by rfl) (by rfl)
      have f58 : xs 26 = _ := hA.fa 26 (by rfl)
      (try simp (disch := first | rfl | decide) only [Rely.mask_in] at f58)
      rw [f58] at e58
      clear f58
      have hBq : wr.heap[w.heap.size + 1]? = _ := (hA.bl _ hlt_x1 (fun q h => absurd h (Nat.not_lt_zero q))).trans HB_x1.out
      have q0 := cell_at (v := .bool b1) hBq 0 rfl
      have q1 := cell_at (v := .slice o1 n1 m1) hBq 1 rfl
      have q2 := cell_at (v := .slice p1 l1 e1) hBq 2 rfl
      clear hBq
      clear hA
      refine ⟨((Rely.wanted_at rfl (by rfl) e52).trans (by rfl)), ?_⟩
      go_simp <;> (try with_reducible rfl)
    refine Rely.Chain.call (fun _ v w => CI w v (N0 * N1) 12) (fun _ _ _ _ h hb => h.below hb) (fun _ _ _ _ _ h hp => h.keeps hp.keeps) (by rfl) (fun T xs wr hA => ?_) ?_
    · have e52 := hA.tm 20 52 (by rfl) (by rfl)
      have f52 : xs 20 = _ := hA.fa 20 (by rfl)
      (try simp (disch := first | rfl | decide) only [Rely.mask_in] at f52)
      rw [f52] at e52
      clear f52
      have e57 := hA.tm 25 57 (by rfl) (by rfl)
      have f57 : xs 25 = _ := hA.fa 25 (by rfl)
      (try simp (disch := first | rfl | decide) only [Rely.mask_in] at f57)
      rw [f57] at e57
      clear f57
      have e59 := hA.tm 27 59 (by rfl) (by rfl)
      have f59 : xs 27 = _ := hA.fa 27 (by rfl)
      (try simp (disch := first | rfl | decide) only [Rely.mask_in] at f59)
      rw [f59] at e59
      clear f59
      have hkp := undrewK hA.kp
      have hbw := undrew (hA.be _ (Nat.le_refl _) (fun q h => absurd h (Nat.not_lt_zero q)))
      have z0 := z0.keeps hkp
      have z1 := z1.keeps hkp
      clear hA
      refine ⟨((Rely.wanted_at rfl (by rfl) e52).trans (by rfl)), fun K hK => ?_⟩
      clear e52
      go_simp
      refine (wmul_any _ _ N0 N1 6 6 _ z0 z1 (by omega) (by omega)).mono ?_
      rintro e wq ⟨v, rfl, c, hb⟩
      exact hK.out _ _ c hb
    refine Rely.Chain.det ?_ (by rfl) (fun T xs wr hA => ?_) ?_
    rotate_left 1
    · have e52 := hA.tm 20 52 (by rfl) (by rfl)
      have f52 : xs 20 = _ := hA.fa 20 (by rfl)
      (try simp (disch := first | rfl | decide) only [Rely.mask_in] at f52)
      rw [f52] at e52
      clear f52
      have e7 := hA.pre 7 (by kernel_rfl)
      simp only [List.getElem?_toArray, List.getElem?_cons_succ, List.getElem?_cons_zero] at e7
      have hBq : wr.heap[wx5.heap.size]? = _ := (hA.bl _ hlt_t (fun q h => absurd h (Nat.not_lt_zero q))).trans HB_t.out
      have q0 := cell_at (v := .bool b_t) hBq 0 rfl
      have q1 := cell_at (v := .slice o_t l_t k_t) hBq 1 rfl
      clear hBq
      clear hA
      refine ⟨((Rely.wanted_at rfl (by rfl) e52).trans (by rfl)), ?_⟩
      go_simp <;> (try with_reducible rfl)
    refine Rely.Chain.call (fun _ v _ => v = .bool true) (fun _ _ _ _ h _ => h) (fun _ _ _ _ _ h _ => h) (by rfl) (fun T xs wr hA => ?_) ?_
    · have e52 := hA.tm 20 52 (by rfl) (by rfl)
      have f52 : xs 20 = _ := hA.fa 20 (by rfl)
      (try simp (disch := first | rfl | decide) only [Rely.mask_in] at f52)
      rw [f52] at e52
      clear f52
      have e55 := hA.tm 23 55 (by rfl) (by rfl)
      have e60 := hA.tm 28 60 (by rfl) (by rfl)
      have e61 := hA.tm 29 61 (by rfl) (by rfl)
      have f61 : xs 29 = _ := hA.fa 29 (by rfl)
      (try simp (disch := first | rfl | decide) only [Rely.mask_in] at f61)
      rw [f61] at e61
      clear f61
      have hkp := undrewK hA.kp
      have hbw := undrew (hA.be _ (Nat.le_refl _) (fun q h => absurd h (Nat.not_lt_zero q)))
      have c_q3 : CQ wr (xs 23) (mkRat N0 D0 * mkRat N1 D1) 32 := hA.fa 23 (by rfl)
      have c_s3 : CI wr (xs 28) (N0 * N1) 12 := hA.fa 28 (by rfl)
      have c_t := c_t.keeps hkp
      clear hA
      refine ⟨((Rely.wanted_at rfl (by rfl) e52).trans (by rfl)), fun K hK => ?_⟩
      clear e52
      go_simp
      refine (is_right c_q3 c_s3.gi c_t.gi (by omega) (by omega) (by omega) HM.out).mono ?_
      rintro e wq ⟨rfl, hb⟩
      exact hK.out _ _ rfl hb
    refine Rely.Chain.det ?_ (by rfl) (fun T xs wr hA => ?_) ?_
    rotate_left 1
    · have e52 := hA.tm 20 52 (by rfl) (by rfl)
      have f52 : xs 20 = _ := hA.fa 20 (by rfl)
      (try simp (disch := first | rfl | decide) only [Rely.mask_in] at f52)
      rw [f52] at e52
      clear f52
      have e62 := hA.tm 30 62 (by rfl) (by rfl)
      have f62 : xs 30 = (.bool true) := hA.fa 30 (by rfl)
      rw [f62] at e62
      clear f62
      clear hA
      refine ⟨((Rely.wanted_at rfl (by rfl) e52).trans (by rfl)), ?_⟩
      go_simp <;> (try with_reducible rfl)
    refine Rely.Chain.det ?_ (by rfl) (fun T xs wr hA => ?_) ?_
    rotate_left 1
    · have e52 := hA.tm 20 52 (by rfl) (by rfl)
      have f52 : xs 20 = _ := hA.fa 20 (by rfl)
      (try simp (disch := first | rfl | decide) only [Rely.mask_in] at f52)
      rw [f52] at e52
      clear f52
      have e63 := hA.tm 31 63 (by rfl) (by rfl)
      have f63 : xs 31 = _ := hA.fa 31 (by rfl)
      (try simp (disch := first | rfl | decide) only [Rely.mask_in] at f63)
      rw [f63] at e63
      clear f63
      clear hA
      refine ⟨(by rfl), ?_⟩
      go_simp <;> (try with_reducible rfl)
    refine Rely.Chain.done (fun xs wx8 hL => ?_)
    obtain ⟨⟨hbe, hbl, hkp0⟩, hf, hp, hn⟩ := hL
    have f0 : xs 0 = _ := hf 0 (by decide)
    (try simp (disch := first | rfl | decide) only [Rely.mask_in] at f0)
    have f1 : xs 1 = _ := hf 1 (by decide)
    (try simp (disch := first | rfl | decide) only [Rely.mask_in] at f1)
    have c_q1 : CQ wx8 (xs 2) (mkRat N0 D0 + mkRat N1 D1) 44 := hf 2 (by decide)
    have f3 : xs 3 = _ := hf 3 (by decide)
    (try simp (disch := first | rfl | decide) only [Rely.mask_in] at f3)
    have f4 : xs 4 = _ := hf 4 (by decide)
    (try simp (disch := first | rfl | decide) only [Rely.mask_in] at f4)
    have c_s1 : CI wx8 (xs 5) (N0 * (D1 : Int) + N1 * (D0 : Int)) 29 := hf 5 (by decide)
    have f6 : xs 6 = _ := hf 6 (by decide)
    (try simp (disch := first | rfl | decide) only [Rely.mask_in] at f6)
    have f7 : xs 7 = (.bool true) := hf 7 (by decide)
    have f8 : xs 8 = _ := hf 8 (by decide)
    (try simp (disch := first | rfl | decide) only [Rely.mask_in] at f8)
    have f9 : xs 9 = _ := hf 9 (by decide)
    (try simp (disch := first | rfl | decide) only [Rely.mask_in] at f9)
    have f10 : xs 10 = _ := hf 10 (by decide)
    (try simp (disch := first | rfl | decide) only [Rely.mask_in] at f10)
    have f11 : xs 11 = _ := hf 11 (by decide)
    (try simp (disch := first | rfl | decide) only [Rely.mask_in] at f11)
    have c_q2 : CQ wx8 (xs 12) (mkRat N0 D0 - mkRat N1 D1) 44 := hf 12 (by decide)
    have f13 : xs 13 = _ := hf 13 (by decide)
    (try simp (disch := first | rfl | decide) only [Rely.mask_in] at f13)
    have f14 : xs 14 = _ := hf 14 (by decide)
    (try simp (disch := first | rfl | decide) only [Rely.mask_in] at f14)
    have c_s2 : CI wx8 (xs 15) (N0 * (D1 : Int) - N1 * (D0 : Int)) 29 := hf 15 (by decide)
    have f16 : xs 16 = _ := hf 16 (by decide)
    (try simp (disch := first | rfl | decide) only [Rely.mask_in] at f16)
    have f17 : xs 17 = (.bool true) := hf 17 (by decide)
    have f18 : xs 18 = _ := hf 18 (by decide)
    (try simp (disch := first | rfl | decide) only [Rely.mask_in] at f18)
    have f19 : xs 19 = _ := hf 19 (by decide)
    (try simp (disch := first | rfl | decide) only [Rely.mask_in] at f19)
    have f20 : xs 20 = _ := hf 20 (by decide)
    (try simp (disch := first | rfl | decide) only [Rely.mask_in] at f20)
    have f21 : xs 21 = _ := hf 21 (by decide)
    (try simp (disch := first | rfl | decide) only [Rely.mask_in] at f21)
    have f22 : xs 22 = _ := hf 22 (by decide)
    (try simp (disch := first | rfl | decide) only [Rely.mask_in] at f22)
    have c_q3 : CQ wx8 (xs 23) (mkRat N0 D0 * mkRat N1 D1) 32 := hf 23 (by decide)
    have f24 : xs 24 = _ := hf 24 (by decide)
    (try simp (disch := first | rfl | decide) only [Rely.mask_in] at f24)
    have f25 : xs 25 = _ := hf 25 (by decide)
    (try simp (disch := first | rfl | decide) only [Rely.mask_in] at f25)
    have f26 : xs 26 = _ := hf 26 (by decide)
    (try simp (disch := first | rfl | decide) only [Rely.mask_in] at f26)
    have f27 : xs 27 = _ := hf 27 (by decide)
    (try simp (disch := first | rfl | decide) only [Rely.mask_in] at f27)
    have c_s3 : CI wx8 (xs 28) (N0 * N1) 12 := hf 28 (by decide)
    have f29 : xs 29 = _ := hf 29 (by decide)
    (try simp (disch := first | rfl | decide) only [Rely.mask_in] at f29)
    have f30 : xs 30 = (.bool true) := hf 30 (by decide)
    have f31 : xs 31 = _ := hf 31 (by decide)
    (try simp (disch := first | rfl | decide) only [Rely.mask_in] at f31)
    have f32 : xs 32 = _ := hf 32 (by decide)
    (try simp (disch := first | rfl | decide) only [Rely.mask_in] at f32)
    clear hf hp hn
    refine Rely.rest_done ?_
    simp only [Rely.fill, List.setIfInBounds_toArray, List.set_cons_zero, List.set_cons_succ, f0, f1, f3, f4, f6, f7, f8, f9, f10, f11, f13, f14, f16, f17, f18, f19, f20, f21, f22, f24, f25, f26, f27, f29, f30, f31, f32]
    clear f0 f1 f3 f4 f6 f7 f8 f9 f10 f11 f13 f14 f16 f17 f18 f19 f20 f21 f22 f24 f25 f26 f27 f29 f30 f31 f32
    generalize xs 2 = v_q1 at c_q1 ⊢
    generalize xs 5 = v_s1 at c_s1 ⊢
    generalize xs 12 = v_q2 at c_q2 ⊢
    generalize xs 15 = v_s2 at c_s2 ⊢
    generalize xs 23 = v_q3 at c_q3 ⊢
    generalize xs 28 = v_s3 at c_s3 ⊢
    clear xs
    obtain ⟨b_q1, o_q1, l_q1, k_q1, p_q1, m_q1, u_q1, rfl⟩ := c_q1.shape
    obtain ⟨b_s1, o_s1, l_s1, k_s1, rfl⟩ := c_s1.shape
    obtain ⟨b_q2, o_q2, l_q2, k_q2, p_q2, m_q2, u_q2, rfl⟩ := c_q2.shape
    obtain ⟨b_s2, o_s2, l_s2, k_s2, rfl⟩ := c_s2.shape
    obtain ⟨b_q3, o_q3, l_q3, k_q3, p_q3, m_q3, u_q3, rfl⟩ := c_q3.shape
    obtain ⟨b_s3, o_s3, l_s3, k_s3, rfl⟩ := c_s3.shape
    have hbx := undrew (hbe _ (Nat.le_refl _) (fun q h => absurd h (Nat.not_lt_zero q)))
    clear hbe hbl hkp0
    replace g0 := g0.below hbx
    replace g1 := g1.below hbx
    replace z0 := z0.below hbx
    replace z1 := z1.below hbx
    replace c_c := c_c.below hbx
    replace c_d := c_d.below hbx
    replace c_t := c_t.below hbx
    replace c_x := c_x.below hbx
    replace c_y := c_y.below hbx
    replace hbt := hbt.trans (hbx.mono hbt.size)
    replace HB_x0 := Lib.hid ((hbx.block _ (lt_of_block HB_x0.out)).trans HB_x0.out)
    replace HB_x1 := Lib.hid ((hbx.block _ (lt_of_block HB_x1.out)).trans HB_x1.out)
    replace HB_c := Lib.hid ((hbx.block _ (lt_of_block HB_c.out)).trans HB_c.out)
    replace HB_d := Lib.hid ((hbx.block _ (lt_of_block HB_d.out)).trans HB_d.out)
    replace HB_t := Lib.hid ((hbx.block _ (lt_of_block HB_t.out)).trans HB_t.out)
    replace HB_x := Lib.hid ((hbx.block _ (lt_of_block HB_x.out)).trans HB_x.out)
    replace HB_y := Lib.hid ((hbx.block _ (lt_of_block HB_y.out)).trans HB_y.out)
    clear hbx
    replace x00 := cell_at (v := .bool b0) HB_x0.out 0 rfl
    replace x01 := cell_at (v := .slice o0 n0 m0) HB_x0.out 1 rfl
    replace x02 := cell_at (v := .slice p0 l0 e0) HB_x0.out 2 rfl
    replace x10 := cell_at (v := .bool b1) HB_x1.out 0 rfl
    replace x11 := cell_at (v := .slice o1 n1 m1) HB_x1.out 1 rfl
    replace x12 := cell_at (v := .slice p1 l1 e1) HB_x1.out 2 rfl
    replace c0 := cell_at (v := .bool b_c) HB_c.out 0 rfl
    replace c1 := cell_at (v := .slice o_c l_c k_c) HB_c.out 1 rfl
    replace d0 := cell_at (v := .bool b_d) HB_d.out 0 rfl
    replace d1 := cell_at (v := .slice o_d l_d k_d) HB_d.out 1 rfl
    replace t0 := cell_at (v := .bool b_t) HB_t.out 0 rfl
    replace t1 := cell_at (v := .slice o_t l_t k_t) HB_t.out 1 rfl
    replace x0 := cell_at (v := .bool b_x) HB_x.out 0 rfl
    replace x1 := cell_at (v := .slice o_x l_x k_x) HB_x.out 1 rfl
    replace y0 := cell_at (v := .bool b_y) HB_y.out 0 rfl
    replace y1 := cell_at (v := .slice o_y l_y k_y) HB_y.out 1 rfl
    clear hlt_x0 hlt_x1 hlt_t
    go_wp2_with fail
    have hlt_x0 := lt_of_block HB_x0.out
    have hlt_x1 := lt_of_block HB_x1.out
    have hlt_c := lt_of_block HB_c.out
    have hlt_d := lt_of_block HB_d.out
    have hlt_t := lt_of_block HB_t.out
    have hlt_x := lt_of_block HB_x.out
    have hlt_y := lt_of_block HB_y.out
    refine Rely.region (by kernel_rfl) [[], [0], [], [2], [0, 1, 2, 3], [], [0, 1, 2, 3, 4, 5], [0, 1, 2, 3, 4, 5, 6], [0, 1, 2, 3, 4, 5, 6, 7], [0, 1, 2, 3, 4, 5, 6, 7], [0, 1, 2, 3, 4, 5, 6, 7, 8, 9], [0, 1, 2, 3, 4, 5, 6, 7], [0, 1, 2, 3, 4, 5, 6, 7], [0, 1, 2, 3, 4, 5, 6, 7, 8, 9, 10, 11, 12], [0, 1, 2, 3, 4, 5, 6, 7, 8, 9, 10, 11, 12, 13], [0, 1, 2, 3, 4, 5, 6, 7, 8, 9, 10, 11, 12, 13, 14], [0, 1, 2, 3, 4, 5, 6, 7, 8, 9, 10, 11, 12, 13, 14, 15], [0, 1, 2, 3, 4, 5, 6, 7, 8, 9, 10, 11, 12, 13, 14, 15, 16], [0, 1, 2, 3, 4, 5, 6, 7, 8, 9, 10, 11, 12, 13, 14, 15, 16, 17], [0, 1, 2, 3, 4, 5, 6, 7, 8, 9, 10, 11, 12, 13, 14, 15, 16], [0, 1, 2, 3, 4, 5, 6, 7, 8, 9, 10, 11, 12, 13, 14, 15, 16, 19], [0, 1, 2, 3, 4, 5, 6, 7, 8, 9, 10, 11, 12, 13, 14, 15, 16, 17, 18, 19, 20], [0, 1, 2, 3, 4, 5, 6, 7, 8, 9, 10, 11, 12, 13, 14, 15, 16, 17, 18, 19, 20, 21], [0, 1, 2, 3, 4, 5, 6, 7, 8, 9, 10, 11, 12, 13, 14, 15, 16, 17, 18, 19, 20, 21, 22], [0, 1, 2, 3, 4, 5, 6, 7, 8, 9, 10, 11, 12, 13, 14, 15, 16, 17, 18, 19, 20, 21, 22, 23]] [] [] (fun q => [].getD q 0) 0 25 (by kernel_rfl) (by kernel_rfl) (fun q h => absurd h (Nat.not_lt_zero q)) (fun q _ h => absurd h (Nat.not_lt_zero q)) ?_
    refine Rely.Chain.det ?_ (by rfl) (fun T xs wr hA => ?_) ?_
    rotate_left 1
    · have e2 := hA.pre 2 (by kernel_rfl)
      simp only [List.getElem?_toArray, List.getElem?_cons_succ, List.getElem?_cons_zero] at e2
      have hBq : wr.heap[w.heap.size]? = _ := (hA.bl _ hlt_x0 (fun q h => absurd h (Nat.not_lt_zero q))).trans HB_x0.out
      have q0 := cell_at (v := .bool b0) hBq 0 rfl
      have q1 := cell_at (v := .slice o0 n0 m0) hBq 1 rfl
      have q2 := cell_at (v := .slice p0 l0 e0) hBq 2 rfl
      clear hBq
      clear hA
      refine ⟨(by rfl), ?_⟩
      go_simp <;> (try with_reducible rfl)
    refine Rely.Chain.call (fun _ v w => CQ w v (-mkRat N0 D0) 26) (fun _ _ _ _ h hb => h.below hb) (fun _ _ _ _ _ h hp => h.keeps hp.keeps) (by rfl) (fun T xs wr hA => ?_) ?_
    · have e65 := hA.tm 0 65 (by rfl) (by rfl)
      have f65 : xs 0 = _ := hA.fa 0 (by rfl)
      (try simp (disch := first | rfl | decide) only [Rely.mask_in] at f65)
      rw [f65] at e65
      clear f65
      have hkp := undrewK hA.kp
      have hbw := undrew (hA.be _ (Nat.le_refl _) (fun q h => absurd h (Nat.not_lt_zero q)))
      have g0 := g0.keeps hkp
      clear hA
      refine ⟨(by rfl), fun K hK => ?_⟩
      go_simp
      refine (qneg_any g0 (by omega)).mono ?_
      rintro e wq ⟨v, rfl, c, hb⟩
      exact hK.out _ _ c hb
    refine Rely.Chain.det ?_ (by rfl) (fun T xs wr hA => ?_) ?_
    rotate_left 1
    · have e2 := hA.pre 2 (by kernel_rfl)
      simp only [List.getElem?_toArray, List.getElem?_cons_succ, List.getElem?_cons_zero] at e2
      clear hA
      refine ⟨(by rfl), ?_⟩
      go_simp <;> (try with_reducible rfl)
    refine Rely.Chain.det ?_ (by rfl) (fun T xs wr hA => ?_) ?_
    rotate_left 1
    · have e67 := hA.tm 2 67 (by rfl) (by rfl)
      have f67 : xs 2 = _ := hA.fa 2 (by rfl)
      (try simp (disch := first | rfl | decide) only [Rely.mask_in] at f67)
      rw [f67] at e67
      clear f67
      have hBq : wr.heap[w.heap.size]? = _ := (hA.bl _ hlt_x0 (fun q h => absurd h (Nat.not_lt_zero q))).trans HB_x0.out
      have q0 := cell_at (v := .bool b0) hBq 0 rfl
      have q1 := cell_at (v := .slice o0 n0 m0) hBq 1 rfl
      have q2 := cell_at (v := .slice p0 l0 e0) hBq 2 rfl
      clear hBq
      clear hA
      refine ⟨(by rfl), ?_⟩
      go_simp <;> (try with_reducible rfl)
    refine Rely.Chain.call (fun _ v w => CI w v (-N0) 6) (fun _ _ _ _ h hb => h.below hb) (fun _ _ _ _ _ h hp => h.keeps hp.keeps) (by rfl) (fun T xs wr hA => ?_) ?_
    · have e68 := hA.tm 3 68 (by rfl) (by rfl)
      have f68 : xs 3 = _ := hA.fa 3 (by rfl)
      (try simp (disch := first | rfl | decide) only [Rely.mask_in] at f68)
      rw [f68] at e68
      clear f68
      have hkp := undrewK hA.kp
      have hbw := undrew (hA.be _ (Nat.le_refl _) (fun q h => absurd h (Nat.not_lt_zero q)))
      have z0 := z0.keeps hkp
      clear hA
      refine ⟨(by rfl), fun K hK => ?_⟩
      go_simp
      refine (wneg_any _ N0 6 _ z0 (by omega)).mono ?_
      rintro e wq ⟨v, rfl, c, hb⟩
      exact hK.out _ _ c hb
    refine Rely.Chain.det ?_ (by rfl) (fun T xs wr hA => ?_) ?_
    rotate_left 1
    · have e5 := hA.pre 5 (by kernel_rfl)
      simp only [List.getElem?_toArray, List.getElem?_cons_succ, List.getElem?_cons_zero] at e5
      have hBq : wr.heap[g_c]? = _ := (hA.bl _ hlt_c (fun q h => absurd h (Nat.not_lt_zero q))).trans HB_c.out
      have q0 := cell_at (v := .bool b_c) hBq 0 rfl
      have q1 := cell_at (v := .slice o_c l_c k_c) hBq 1 rfl
      clear hBq
      clear hA
      refine ⟨(by rfl), ?_⟩
      go_simp <;> (try with_reducible rfl)
    refine Rely.Chain.call (fun _ v _ => v = .bool true) (fun _ _ _ _ h _ => h) (fun _ _ _ _ _ h _ => h) (by rfl) (fun T xs wr hA => ?_) ?_
    · have e66 := hA.tm 1 66 (by rfl) (by rfl)
      have e69 := hA.tm 4 69 (by rfl) (by rfl)
      have e70 := hA.tm 5 70 (by rfl) (by rfl)
      have f70 : xs 5 = _ := hA.fa 5 (by rfl)
      (try simp (disch := first | rfl | decide) only [Rely.mask_in] at f70)
      rw [f70] at e70
      clear f70
      have hkp := undrewK hA.kp
      have hbw := undrew (hA.be _ (Nat.le_refl _) (fun q h => absurd h (Nat.not_lt_zero q)))
      have c_q4 : CQ wr (xs 1) (-mkRat N0 D0) 26 := hA.fa 1 (by rfl)
      have c_s4 : CI wr (xs 4) (-N0) 6 := hA.fa 4 (by rfl)
      have c_c := c_c.keeps hkp
      clear hA
      refine ⟨(by rfl), fun K hK => ?_⟩
      go_simp
      refine (is_right c_q4 c_s4.gi c_c.gi (by omega) (by omega) (by omega) HN.out).mono ?_
      rintro e wq ⟨rfl, hb⟩
      exact hK.out _ _ rfl hb
    refine Rely.Chain.det ?_ (by rfl) (fun T xs wr hA => ?_) ?_
    rotate_left 1
    · have e71 := hA.tm 6 71 (by rfl) (by rfl)
      have f71 : xs 6 = (.bool true) := hA.fa 6 (by rfl)
      rw [f71] at e71
      clear f71
      clear hA
      refine ⟨(by rfl), ?_⟩
      go_simp <;> (try with_reducible rfl)
    refine Rely.Chain.det ?_ (by rfl) (fun T xs wr hA => ?_) ?_
    rotate_left 1
    · have e72 := hA.tm 7 72 (by rfl) (by rfl)
      have f72 : xs 7 = _ := hA.fa 7 (by rfl)
      (try simp (disch := first | rfl | decide) only [Rely.mask_in] at f72)
      rw [f72] at e72
      clear f72
      have e2 := hA.pre 2 (by kernel_rfl)
      simp only [List.getElem?_toArray, List.getElem?_cons_succ, List.getElem?_cons_zero] at e2
      have hBq : wr.heap[w.heap.size]? = _ := (hA.bl _ hlt_x0 (fun q h => absurd h (Nat.not_lt_zero q))).trans HB_x0.out
      have q0 := cell_at (v := .bool b0) hBq 0 rfl
      have q1 := cell_at (v := .slice o0 n0 m0) hBq 1 rfl
      have q2 := cell_at (v := .slice p0 l0 e0) hBq 2 rfl
      clear hBq
      clear hA
      refine ⟨((Rely.wanted_at rfl (by rfl) e72).trans (by rfl)), ?_⟩
      go_simp <;> (try with_reducible rfl)
    refine Rely.Chain.det ?_ (by rfl) (fun T xs wr hA => ?_) ?_
    rotate_left 1
    · have e72 := hA.tm 7 72 (by rfl) (by rfl)
      have f72 : xs 7 = _ := hA.fa 7 (by rfl)
      (try simp (disch := first | rfl | decide) only [Rely.mask_in] at f72)
      rw [f72] at e72
      clear f72
      have e3 := hA.pre 3 (by kernel_rfl)
      simp only [List.getElem?_toArray, List.getElem?_cons_succ, List.getElem?_cons_zero] at e3
      have hBq : wr.heap[w.heap.size + 1]? = _ := (hA.bl _ hlt_x1 (fun q h => absurd h (Nat.not_lt_zero q))).trans HB_x1.out
      have q0 := cell_at (v := .bool b1) hBq 0 rfl
      have q1 := cell_at (v := .slice o1 n1 m1) hBq 1 rfl
      have q2 := cell_at (v := .slice p1 l1 e1) hBq 2 rfl
      clear hBq
      clear hA
      refine ⟨((Rely.wanted_at rfl (by rfl) e72).trans (by rfl)), ?_⟩
      go_simp <;> (try with_reducible rfl)
    refine Rely.Chain.call (fun _ v _ => v = .int .i64 (cmpQ (mkRat N0 D0) (mkRat N1 D1))) (fun _ _ _ _ h _ => h) (fun _ _ _ _ _ h _ => h) (by rfl) (fun T xs wr hA => ?_) ?_
    · have e72 := hA.tm 7 72 (by rfl) (by rfl)
      have f72 : xs 7 = _ := hA.fa 7 (by rfl)
      (try simp (disch := first | rfl | decide) only [Rely.mask_in] at f72)
      rw [f72] at e72
      clear f72
      have e73 := hA.tm 8 73 (by rfl) (by rfl)
      have f73 : xs 8 = _ := hA.fa 8 (by rfl)
      (try simp (disch := first | rfl | decide) only [Rely.mask_in] at f73)
      rw [f73] at e73
      clear f73
      have e74 := hA.tm 9 74 (by rfl) (by rfl)
      have f74 : xs 9 = _ := hA.fa 9 (by rfl)
      (try simp (disch := first | rfl | decide) only [Rely.mask_in] at f74)
      rw [f74] at e74
      clear f74
      have hkp := undrewK hA.kp
      have hbw := undrew (hA.be _ (Nat.le_refl _) (fun q h => absurd h (Nat.not_lt_zero q)))
      have g0 := g0.keeps hkp
      have g1 := g1.keeps hkp
      clear hA
      refine ⟨((Rely.wanted_at rfl (by rfl) e72).trans (by rfl)), fun K hK => ?_⟩
      clear e72
      go_simp
      refine (qcmp_any g0 g1 (by omega) (by omega)).mono ?_
      rintro e wq ⟨rfl, hb⟩
      exact hK.out _ _ rfl hb
    refine Rely.Chain.det ?_ (by rfl) (fun T xs wr hA => ?_) ?_
    rotate_left 1
    · have e72 := hA.tm 7 72 (by rfl) (by rfl)
      have f72 : xs 7 = _ := hA.fa 7 (by rfl)
      (try simp (disch := first | rfl | decide) only [Rely.mask_in] at f72)
      rw [f72] at e72
      clear f72
      have e8 := hA.pre 8 (by kernel_rfl)
      simp only [List.getElem?_toArray, List.getElem?_cons_succ, List.getElem?_cons_zero] at e8
      have hBq : wr.heap[g_x]? = _ := (hA.bl _ hlt_x (fun q h => absurd h (Nat.not_lt_zero q))).trans HB_x.out
      have q0 := cell_at (v := .bool b_x) hBq 0 rfl
      have q1 := cell_at (v := .slice o_x l_x k_x) hBq 1 rfl
      clear hBq
      clear hA
      refine ⟨((Rely.wanted_at rfl (by rfl) e72).trans (by rfl)), ?_⟩
      go_simp <;> (try with_reducible rfl)
    refine Rely.Chain.det ?_ (by rfl) (fun T xs wr hA => ?_) ?_
    rotate_left 1
    · have e72 := hA.tm 7 72 (by rfl) (by rfl)
      have f72 : xs 7 = _ := hA.fa 7 (by rfl)
      (try simp (disch := first | rfl | decide) only [Rely.mask_in] at f72)
      rw [f72] at e72
      clear f72
      have e9 := hA.pre 9 (by kernel_rfl)
      simp only [List.getElem?_toArray, List.getElem?_cons_succ, List.getElem?_cons_zero] at e9
      have hBq : wr.heap[g_y]? = _ := (hA.bl _ hlt_y (fun q h => absurd h (Nat.not_lt_zero q))).trans HB_y.out
      have q0 := cell_at (v := .bool b_y) hBq 0 rfl
      have q1 := cell_at (v := .slice o_y l_y k_y) hBq 1 rfl
      clear hBq
      clear hA
      refine ⟨((Rely.wanted_at rfl (by rfl) e72).trans (by rfl)), ?_⟩
      go_simp <;> (try with_reducible rfl)
    refine Rely.Chain.call (fun _ v _ => v = .int .i64 (cmpQ (mkRat N0 D0) (mkRat N1 D1))) (fun _ _ _ _ h _ => h) (fun _ _ _ _ _ h _ => h) (by rfl) (fun T xs wr hA => ?_) ?_
    · have e72 := hA.tm 7 72 (by rfl) (by rfl)
      have f72 : xs 7 = _ := hA.fa 7 (by rfl)
      (try simp (disch := first | rfl | decide) only [Rely.mask_in] at f72)
      rw [f72] at e72
      clear f72
      have e76 := hA.tm 11 76 (by rfl) (by rfl)
      have f76 : xs 11 = _ := hA.fa 11 (by rfl)
      (try simp (disch := first | rfl | decide) only [Rely.mask_in] at f76)
      rw [f76] at e76
      clear f76
      have e77 := hA.tm 12 77 (by rfl) (by rfl)
      have f77 : xs 12 = _ := hA.fa 12 (by rfl)
      (try simp (disch := first | rfl | decide) only [Rely.mask_in] at f77)
      rw [f77] at e77
      clear f77
      have hkp := undrewK hA.kp
      have hbw := undrew (hA.be _ (Nat.le_refl _) (fun q h => absurd h (Nat.not_lt_zero q)))
      have c_x := c_x.keeps hkp
      have c_y := c_y.keeps hkp
      clear hA
      refine ⟨((Rely.wanted_at rfl (by rfl) e72).trans (by rfl)), fun K hK => ?_⟩
      clear e72
      go_simp
      refine (wcmp_s _ _ _ _ _ _ _ _ c_x.gi c_y.gi HC.out (by omega) (by omega)).mono ?_
      rintro e wq ⟨rfl, hb⟩
      exact hK.out _ _ rfl hb
    refine Rely.Chain.det ?_ (by rfl) (fun T xs wr hA => ?_) ?_
    rotate_left 1
    · have e72 := hA.tm 7 72 (by rfl) (by rfl)
      have f72 : xs 7 = _ := hA.fa 7 (by rfl)
      (try simp (disch := first | rfl | decide) only [Rely.mask_in] at f72)
      rw [f72] at e72
      clear f72
      have e75 := hA.tm 10 75 (by rfl) (by rfl)
      have f75 : xs 10 = (.int .i64 (cmpQ (mkRat N0 D0) (mkRat N1 D1))) := hA.fa 10 (by rfl)
      rw [f75] at e75
      clear f75
      have e78 := hA.tm 13 78 (by rfl) (by rfl)
      have f78 : xs 13 = (.int .i64 (cmpQ (mkRat N0 D0) (mkRat N1 D1))) := hA.fa 13 (by rfl)
      rw [f78] at e78
      clear f78
      clear hA
      refine ⟨((Rely.wanted_at rfl (by rfl) e72).trans (by rfl)), ?_⟩
      go_simp <;> (try with_reducible rfl)
    refine Rely.Chain.det ?_ (by rfl) (fun T xs wr hA => ?_) ?_
    rotate_left 1
    · have e72 := hA.tm 7 72 (by rfl) (by rfl)
      have f72 : xs 7 = _ := hA.fa 7 (by rfl)
      (try simp (disch := first | rfl | decide) only [Rely.mask_in] at f72)
      rw [f72] at e72
      clear f72
      have e79 := hA.tm 14 79 (by rfl) (by rfl)
      have f79 : xs 14 = _ := hA.fa 14 (by rfl)
      (try simp (disch := first | rfl | decide) only [Rely.mask_in] at f79)
      rw [f79] at e79
      clear f79
      clear hA
      refine ⟨(by rfl), ?_⟩
      go_simp <;> (try with_reducible rfl)
    refine Rely.Chain.det ?_ (by rfl) (fun T xs wr hA => ?_) ?_
    rotate_left 1
    · have e80 := hA.tm 15 80 (by rfl) (by rfl)
      have f80 : xs 15 = _ := hA.fa 15 (by rfl)
      (try simp (disch := first | rfl | decide) only [Rely.mask_in] at f80)
      rw [f80] at e80
      clear f80
      clear hA
      refine ⟨(by rfl), ?_⟩
      go_simp <;> (try with_reducible rfl)
    refine Rely.Chain.det ?_ (by rfl) (fun T xs wr hA => ?_) ?_
    rotate_left 1
    · have e81 := hA.tm 16 81 (by rfl) (by rfl)
      have f81 : xs 16 = _ := hA.fa 16 (by rfl)
      (try simp (disch := first | rfl | decide) only [Rely.mask_in] at f81)
      rw [f81] at e81
      clear f81
      have e2 := hA.pre 2 (by kernel_rfl)
      simp only [List.getElem?_toArray, List.getElem?_cons_succ, List.getElem?_cons_zero] at e2
      have hBq : wr.heap[w.heap.size]? = _ := (hA.bl _ hlt_x0 (fun q h => absurd h (Nat.not_lt_zero q))).trans HB_x0.out
      have q0 := cell_at (v := .bool b0) hBq 0 rfl
      have q1 := cell_at (v := .slice o0 n0 m0) hBq 1 rfl
      have q2 := cell_at (v := .slice p0 l0 e0) hBq 2 rfl
      clear hBq
      clear hA
      refine ⟨((Rely.wanted_at rfl (by rfl) e81).trans (by rfl)), ?_⟩
      go_simp <;> (try with_reducible rfl)
    refine Rely.Chain.call (fun _ v _ => v = .int .i64 (sgnZ N0)) (fun _ _ _ _ h _ => h) (fun _ _ _ _ _ h _ => h) (by rfl) (fun T xs wr hA => ?_) ?_
    · have e81 := hA.tm 16 81 (by rfl) (by rfl)
      have f81 : xs 16 = _ := hA.fa 16 (by rfl)
      (try simp (disch := first | rfl | decide) only [Rely.mask_in] at f81)
      rw [f81] at e81
      clear f81
      have e82 := hA.tm 17 82 (by rfl) (by rfl)
      have f82 : xs 17 = _ := hA.fa 17 (by rfl)
      (try simp (disch := first | rfl | decide) only [Rely.mask_in] at f82)
      rw [f82] at e82
      clear f82
      have hkp := undrewK hA.kp
      have hbw := undrew (hA.be _ (Nat.le_refl _) (fun q h => absurd h (Nat.not_lt_zero q)))
      have g0 := g0.keeps hkp
      clear hA
      refine ⟨((Rely.wanted_at rfl (by rfl) e81).trans (by rfl)), fun K hK => ?_⟩
      clear e81
      go_simp
      refine (qsign_any g0 (by omega)).mono ?_
      rintro e wq ⟨rfl, hb⟩
      exact hK.out _ _ rfl hb
    refine Rely.Chain.det ?_ (by rfl) (fun T xs wr hA => ?_) ?_
    rotate_left 1
    · have e81 := hA.tm 16 81 (by rfl) (by rfl)
      have f81 : xs 16 = _ := hA.fa 16 (by rfl)
      (try simp (disch := first | rfl | decide) only [Rely.mask_in] at f81)
      rw [f81] at e81
      clear f81
      have e2 := hA.pre 2 (by kernel_rfl)
      simp only [List.getElem?_toArray, List.getElem?_cons_succ, List.getElem?_cons_zero] at e2
      clear hA
      refine ⟨((Rely.wanted_at rfl (by rfl) e81).trans (by rfl)), ?_⟩
      go_simp <;> (try with_reducible rfl)
    refine Rely.Chain.det ?_ (by rfl) (fun T xs wr hA => ?_) ?_
    rotate_left 1
    · have e81 := hA.tm 16 81 (by rfl) (by rfl)
      have f81 : xs 16 = _ := hA.fa 16 (by rfl)
      (try simp (disch := first | rfl | decide) only [Rely.mask_in] at f81)
      rw [f81] at e81
      clear f81
      have e84 := hA.tm 19 84 (by rfl) (by rfl)
      have f84 : xs 19 = _ := hA.fa 19 (by rfl)
      (try simp (disch := first | rfl | decide) only [Rely.mask_in] at f84)
      rw [f84] at e84
      clear f84
      have hBq : wr.heap[w.heap.size]? = _ := (hA.bl _ hlt_x0 (fun q h => absurd h (Nat.not_lt_zero q))).trans HB_x0.out
      have q0 := cell_at (v := .bool b0) hBq 0 rfl
      have q1 := cell_at (v := .slice o0 n0 m0) hBq 1 rfl
      have q2 := cell_at (v := .slice p0 l0 e0) hBq 2 rfl
      clear hBq
      clear hA
      refine ⟨((Rely.wanted_at rfl (by rfl) e81).trans (by rfl)), ?_⟩
      go_simp <;> (try with_reducible rfl)
    refine Rely.Chain.call (fun _ v _ => v = .int .i64 (sgnZ N0)) (fun _ _ _ _ h _ => h) (fun _ _ _ _ _ h _ => h) (by rfl) (fun T xs wr hA => ?_) ?_
    · have e81 := hA.tm 16 81 (by rfl) (by rfl)
      have f81 : xs 16 = _ := hA.fa 16 (by rfl)
      (try simp (disch := first | rfl | decide) only [Rely.mask_in] at f81)
      rw [f81] at e81
      clear f81
      have e85 := hA.tm 20 85 (by rfl) (by rfl)
      have f85 : xs 20 = _ := hA.fa 20 (by rfl)
      (try simp (disch := first | rfl | decide) only [Rely.mask_in] at f85)
      rw [f85] at e85
      clear f85
      have hkp := undrewK hA.kp
      have hbw := undrew (hA.be _ (Nat.le_refl _) (fun q h => absurd h (Nat.not_lt_zero q)))
      have z0 := z0.keeps hkp
      clear hA
      refine ⟨((Rely.wanted_at rfl (by rfl) e81).trans (by rfl)), fun K hK => ?_⟩
      clear e81
      go_simp
      refine (wsign_any _ N0 6 _ z0 (by omega)).mono ?_
      rintro e wq ⟨rfl, hb⟩
      exact hK.out _ _ rfl hb
    refine Rely.Chain.det ?_ (by rfl) (fun T xs wr hA => ?_) ?_
    rotate_left 1
    · have e81 := hA.tm 16 81 (by rfl) (by rfl)
      have f81 : xs 16 = _ := hA.fa 16 (by rfl)
      (try simp (disch := first | rfl | decide) only [Rely.mask_in] at f81)
      rw [f81] at e81
      clear f81
      have e83 := hA.tm 18 83 (by rfl) (by rfl)
      have f83 : xs 18 = (.int .i64 (sgnZ N0)) := hA.fa 18 (by rfl)
      rw [f83] at e83
      clear f83
      have e86 := hA.tm 21 86 (by rfl) (by rfl)
      have f86 : xs 21 = (.int .i64 (sgnZ N0)) := hA.fa 21 (by rfl)
      rw [f86] at e86
      clear f86
      clear hA
      refine ⟨((Rely.wanted_at rfl (by rfl) e81).trans (by rfl)), ?_⟩
      go_simp <;> (try with_reducible rfl)
    refine Rely.Chain.det ?_ (by rfl) (fun T xs wr hA => ?_) ?_
    rotate_left 1
    · have e81 := hA.tm 16 81 (by rfl) (by rfl)
      have f81 : xs 16 = _ := hA.fa 16 (by rfl)
      (try simp (disch := first | rfl | decide) only [Rely.mask_in] at f81)
      rw [f81] at e81
      clear f81
      have e87 := hA.tm 22 87 (by rfl) (by rfl)
      have f87 : xs 22 = _ := hA.fa 22 (by rfl)
      (try simp (disch := first | rfl | decide) only [Rely.mask_in] at f87)
      rw [f87] at e87
      clear f87
      clear hA
      refine ⟨(by rfl), ?_⟩
      go_simp <;> (try with_reducible rfl)
    refine Rely.Chain.det ?_ (by rfl) (fun T xs wr hA => ?_) ?_
    rotate_left 1
    · have e88 := hA.tm 23 88 (by rfl) (by rfl)
      have f88 : xs 23 = _ := hA.fa 23 (by rfl)
      (try simp (disch := first | rfl | decide) only [Rely.mask_in] at f88)
      rw [f88] at e88
      clear f88
      clear hA
      refine ⟨(by rfl), ?_⟩
      go_simp <;> (try with_reducible rfl)
    refine Rely.Chain.done (fun xs wx9 hL => ?_)
    obtain ⟨⟨hbe, hbl, hkp0⟩, hf, hp, hn⟩ := hL
    have f0 : xs 0 = _ := hf 0 (by decide)
    (try simp (disch := first | rfl | decide) only [Rely.mask_in] at f0)
    have c_q4 : CQ wx9 (xs 1) (-mkRat N0 D0) 26 := hf 1 (by decide)
    have f2 : xs 2 = _ := hf 2 (by decide)
    (try simp (disch := first | rfl | decide) only [Rely.mask_in] at f2)
    have f3 : xs 3 = _ := hf 3 (by decide)
    (try simp (disch := first | rfl | decide) only [Rely.mask_in] at f3)
    have c_s4 : CI wx9 (xs 4) (-N0) 6 := hf 4 (by decide)
    have f5 : xs 5 = _ := hf 5 (by decide)
    (try simp (disch := first | rfl | decide) only [Rely.mask_in] at f5)
    have f6 : xs 6 = (.bool true) := hf 6 (by decide)
    have f7 : xs 7 = _ := hf 7 (by decide)
    (try simp (disch := first | rfl | decide) only [Rely.mask_in] at f7)
    have f8 : xs 8 = _ := hf 8 (by decide)
    (try simp (disch := first | rfl | decide) only [Rely.mask_in] at f8)
    have f9 : xs 9 = _ := hf 9 (by decide)
    (try simp (disch := first | rfl | decide) only [Rely.mask_in] at f9)
    have f10 : xs 10 = (.int .i64 (cmpQ (mkRat N0 D0) (mkRat N1 D1))) := hf 10 (by decide)
    have f11 : xs 11 = _ := hf 11 (by decide)
    (try simp (disch := first | rfl | decide) only [Rely.mask_in] at f11)
    have f12 : xs 12 = _ := hf 12 (by decide)
    (try simp (disch := first | rfl | decide) only [Rely.mask_in] at f12)
    have f13 : xs 13 = (.int .i64 (cmpQ (mkRat N0 D0) (mkRat N1 D1))) := hf 13 (by decide)
    have f14 : xs 14 = _ := hf 14 (by decide)
    (try simp (disch := first | rfl | decide) only [Rely.mask_in] at f14)
    have f15 : xs 15 = _ := hf 15 (by decide)
    (try simp (disch := first | rfl | decide) only [Rely.mask_in] at f15)
    have f16 : xs 16 = _ := hf 16 (by decide)
    (try simp (disch := first | rfl | decide) only [Rely.mask_in] at f16)
    have f17 : xs 17 = _ := hf 17 (by decide)
    (try simp (disch := first | rfl | decide) only [Rely.mask_in] at f17)
    have f18 : xs 18 = (.int .i64 (sgnZ N0)) := hf 18 (by decide)
    have f19 : xs 19 = _ := hf 19 (by decide)
    (try simp (disch := first | rfl | decide) only [Rely.mask_in] at f19)
    have f20 : xs 20 = _ := hf 20 (by decide)
    (try simp (disch := first | rfl | decide) only [Rely.mask_in] at f20)
    have f21 : xs 21 = (.int .i64 (sgnZ N0)) := hf 21 (by decide)
    have f22 : xs 22 = _ := hf 22 (by decide)
    (try simp (disch := first | rfl | decide) only [Rely.mask_in] at f22)
    have f23 : xs 23 = _ := hf 23 (by decide)
    (try simp (disch := first | rfl | decide) only [Rely.mask_in] at f23)
    have f24 : xs 24 = _ := hf 24 (by decide)
    (try simp (disch := first | rfl | decide) only [Rely.mask_in] at f24)
    clear hf hp hn
    refine Rely.rest_done ?_
    simp only [Rely.fill, List.setIfInBounds_toArray, List.set_cons_zero, List.set_cons_succ, f0, f2, f3, f5, f6, f7, f8, f9, f10, f11, f12, f13, f14, f15, f16, f17, f18, f19, f20, f21, f22, f23, f24]
    clear f0 f2 f3 f5 f6 f7 f8 f9 f10 f11 f12 f13 f14 f15 f16 f17 f18 f19 f20 f21 f22 f23 f24
    generalize xs 1 = v_q4 at c_q4 ⊢
    generalize xs 4 = v_s4 at c_s4 ⊢
    clear xs
    obtain ⟨b_q4, o_q4, l_q4, k_q4, p_q4, m_q4, u_q4, rfl⟩ := c_q4.shape
    obtain ⟨b_s4, o_s4, l_s4, k_s4, rfl⟩ := c_s4.shape
    have hbx := undrew (hbe _ (Nat.le_refl _) (fun q h => absurd h (Nat.not_lt_zero q)))
    clear hbe hbl hkp0
    replace g0 := g0.below hbx
    replace g1 := g1.below hbx
    replace z0 := z0.below hbx
    replace z1 := z1.below hbx
    replace c_c := c_c.below hbx
    replace c_d := c_d.below hbx
    replace c_t := c_t.below hbx
    replace c_x := c_x.below hbx
    replace c_y := c_y.below hbx
    replace c_q1 := c_q1.below hbx
    replace c_s1 := c_s1.below hbx
    replace c_q2 := c_q2.below hbx
    replace c_s2 := c_s2.below hbx
    replace c_q3 := c_q3.below hbx
    replace c_s3 := c_s3.below hbx
    replace hbt := hbt.trans (hbx.mono hbt.size)
    replace HB_x0 := Lib.hid ((hbx.block _ (lt_of_block HB_x0.out)).trans HB_x0.out)
    replace HB_x1 := Lib.hid ((hbx.block _ (lt_of_block HB_x1.out)).trans HB_x1.out)
    replace HB_c := Lib.hid ((hbx.block _ (lt_of_block HB_c.out)).trans HB_c.out)
    replace HB_d := Lib.hid ((hbx.block _ (lt_of_block HB_d.out)).trans HB_d.out)
    replace HB_t := Lib.hid ((hbx.block _ (lt_of_block HB_t.out)).trans HB_t.out)
    replace HB_x := Lib.hid ((hbx.block _ (lt_of_block HB_x.out)).trans HB_x.out)
    replace HB_y := Lib.hid ((hbx.block _ (lt_of_block HB_y.out)).trans HB_y.out)
    clear hbx
    replace x00 := cell_at (v := .bool b0) HB_x0.out 0 rfl
    replace x01 := cell_at (v := .slice o0 n0 m0) HB_x0.out 1 rfl
    replace x02 := cell_at (v := .slice p0 l0 e0) HB_x0.out 2 rfl
    replace x10 := cell_at (v := .bool b1) HB_x1.out 0 rfl
    replace x11 := cell_at (v := .slice o1 n1 m1) HB_x1.out 1 rfl
    replace x12 := cell_at (v := .slice p1 l1 e1) HB_x1.out 2 rfl
    replace c0 := cell_at (v := .bool b_c) HB_c.out 0 rfl
    replace c1 := cell_at (v := .slice o_c l_c k_c) HB_c.out 1 rfl
    replace d0 := cell_at (v := .bool b_d) HB_d.out 0 rfl
    replace d1 := cell_at (v := .slice o_d l_d k_d) HB_d.out 1 rfl
    replace t0 := cell_at (v := .bool b_t) HB_t.out 0 rfl
    replace t1 := cell_at (v := .slice o_t l_t k_t) HB_t.out 1 rfl
    replace x0 := cell_at (v := .bool b_x) HB_x.out 0 rfl
    replace x1 := cell_at (v := .slice o_x l_x k_x) HB_x.out 1 rfl
    replace y0 := cell_at (v := .bool b_y) HB_y.out 0 rfl
    replace y1 := cell_at (v := .slice o_y l_y k_y) HB_y.out 1 rfl
    clear hlt_x0 hlt_x1 hlt_t
    go_wp2_with fail
    go_ret
    exact ⟨rfl, hbt⟩
  · have HS := Lib.hid hs
    clear hs a0 a1
    have hbt := Below.refl w.heap.size w
    go_enter Tryd.func3, Tryd.ntmps3
    go_wp2_with fail
    have hbx : Below w.heap.size w ((w.alloc (.cells #[.bool b0, .slice o0 n0 m0, .slice p0 l0 e0] 27)).alloc (.cells #[.bool b1, .slice o1 n1 m1, .slice p1 l1 e1] 27)) := (((Below.refl _ _).alloc (by simp) _).alloc (by simp) _)
    replace hbt := hbt.trans (hbx.mono hbt.size)
    clear hbx
    have HB_x0 : Hid (((w.alloc (.cells #[.bool b0, .slice o0 n0 m0, .slice p0 l0 e0] 27)).alloc (.cells #[.bool b1, .slice o1 n1 m1, .slice p1 l1 e1] 27)).heap[w.heap.size]? = some (.cells #[.bool b0, .slice o0 n0 m0, .slice p0 l0 e0] 27 (0, 0))) := Lib.hid (made_more (made_at w (.cells #[.bool b0, .slice o0 n0 m0, .slice p0 l0 e0] 27) _ (by first | rfl | simp)) _)
    have HB_x1 : Hid (((w.alloc (.cells #[.bool b0, .slice o0 n0 m0, .slice p0 l0 e0] 27)).alloc (.cells #[.bool b1, .slice o1 n1 m1, .slice p1 l1 e1] 27)).heap[w.heap.size + 1]? = some (.cells #[.bool b1, .slice o1 n1 m1, .slice p1 l1 e1] 27 (0, 0))) := Lib.hid (made_at (w.alloc (.cells #[.bool b0, .slice o0 n0 m0, .slice p0 l0 e0] 27)) (.cells #[.bool b1, .slice o1 n1 m1, .slice p1 l1 e1] 27) _ (by first | rfl | simp))
    generalize ((w.alloc (.cells #[.bool b0, .slice o0 n0 m0, .slice p0 l0 e0] 27)).alloc (.cells #[.bool b1, .slice o1 n1 m1, .slice p1 l1 e1] 27)) = wx1 at *
    have x00 := cell_at (v := .bool b0) HB_x0.out 0 rfl
    have x01 := cell_at (v := .slice o0 n0 m0) HB_x0.out 1 rfl
    have x02 := cell_at (v := .slice p0 l0 e0) HB_x0.out 2 rfl
    have x10 := cell_at (v := .bool b1) HB_x1.out 0 rfl
    have x11 := cell_at (v := .slice o1 n1 m1) HB_x1.out 1 rfl
    have x12 := cell_at (v := .slice p1 l1 e1) HB_x1.out 2 rfl
    refine (HF.out _ (tab_below HTB.out hbt)).mono ?_
    rintro e wx2 ⟨rfl, hbx⟩
    replace hbt := hbt.trans (hbx.mono hbt.size)
    replace HB_x0 := Lib.hid ((hbx.block _ (lt_of_block HB_x0.out)).trans HB_x0.out)
    replace HB_x1 := Lib.hid ((hbx.block _ (lt_of_block HB_x1.out)).trans HB_x1.out)
    clear hbx
    replace x00 := cell_at (v := .bool b0) HB_x0.out 0 rfl
    replace x01 := cell_at (v := .slice o0 n0 m0) HB_x0.out 1 rfl
    replace x02 := cell_at (v := .slice p0 l0 e0) HB_x0.out 2 rfl
    replace x10 := cell_at (v := .bool b1) HB_x1.out 0 rfl
    replace x11 := cell_at (v := .slice o1 n1 m1) HB_x1.out 1 rfl
    replace x12 := cell_at (v := .slice p1 l1 e1) HB_x1.out 2 rfl
    go_wp2_with fail
    refine (qshort_f2 6 _ rfl HS.out).mono ?_
    rintro e wx3 ⟨rfl, hbx⟩
    replace hbt := hbt.trans (hbx.mono hbt.size)
    replace HB_x0 := Lib.hid ((hbx.block _ (lt_of_block HB_x0.out)).trans HB_x0.out)
    replace HB_x1 := Lib.hid ((hbx.block _ (lt_of_block HB_x1.out)).trans HB_x1.out)
    clear hbx
    replace x00 := cell_at (v := .bool b0) HB_x0.out 0 rfl
    replace x01 := cell_at (v := .slice o0 n0 m0) HB_x0.out 1 rfl
    replace x02 := cell_at (v := .slice p0 l0 e0) HB_x0.out 2 rfl
    replace x10 := cell_at (v := .bool b1) HB_x1.out 0 rfl
    replace x11 := cell_at (v := .slice o1 n1 m1) HB_x1.out 1 rfl
    replace x12 := cell_at (v := .slice p1 l1 e1) HB_x1.out 2 rfl
    go_wp2_with fail
    go_ret
    exact ⟨rfl, hbt⟩
end Go.Proofs.YtmindndmegiaaaaDoor
