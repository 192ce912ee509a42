/-
  The walk of the law RatioTexts.
-/
import Derived.Test.YtmindndmegiaaaaDoorQHat
namespace Go.Proofs.YtmindndmegiaaaaDoor
open Go.RowKit
set_option maxRecDepth 100000

theorem app_q2 (l m : List UInt8) : ((⟨l.toArray⟩ : ByteArray) ++ ((⟨#[47]⟩ : ByteArray) ++ (⟨m.toArray⟩ : ByteArray))) = ⟨(l ++ 47 :: m).toArray⟩ := by
  apply ByteArray.ext
  simp [ByteArray.data_append]
theorem cmp_one {n : Nat} (h : 0 < n) : cmpN n 1 = 0 ↔ n = 1 := by
  unfold cmpN; rw [if_neg (by omega)]; split <;> simp_all

set_option maxHeartbeats 8000000 in
theorem ratioTexts_walk (b0 : Bool) (o0 : Option Addr) (n0 m0 : Nat) (p0 : Option Addr) (l0 e0 : Nat) (xs0 ys0 : List Nat) (w : World) (a0 : ArgQ w b0 o0 n0 m0 p0 l0 e0 xs0 ys0) (htab : Lib.TabIs Tryd.prog w "internal/strconv.uint64pow10" .u64 Lib.pow10Tab) :
    Calls Tryd.prog 7 #[.agg #[.bool b0, .slice o0 n0 m0, .slice p0 l0 e0]] w fun e w' => e = .returned (.bool true) ∧ Below w.heap.size w w' := by
  have HF := Lib.hid qfitOk
  have HTB := Lib.hid htab
  clear htab
  by_cases hs : (n0 ≤ 8 ∧ l0 ≤ 8)
  · have h0 := hs
    obtain ⟨A, g0⟩ := a0.hq h0
    clear a0
    have HX := Lib.hid (show A + ((0 : Int) : Rat) = A from Rat.add_zero A)
    have HC := Lib.hid (cmpQ_self A)
    have hbt := Below.refl w.heap.size w
    go_enter Tryd.func7, Tryd.ntmps7
    go_wp2_with fail
    have hbx : Below w.heap.size w (w.alloc (.cells #[.bool b0, .slice o0 n0 m0, .slice p0 l0 e0] 27)) := ((Below.refl _ _).alloc (by simp) _)
    replace g0 := g0.below hbx
    replace hbt := hbt.trans (hbx.mono hbt.size)
    clear hbx
    have HB_x0 : Hid ((w.alloc (.cells #[.bool b0, .slice o0 n0 m0, .slice p0 l0 e0] 27)).heap[w.heap.size]? = some (.cells #[.bool b0, .slice o0 n0 m0, .slice p0 l0 e0] 27 (0, 0))) := Lib.hid (made_at w (.cells #[.bool b0, .slice o0 n0 m0, .slice p0 l0 e0] 27) _ (by first | rfl | simp))
    generalize (w.alloc (.cells #[.bool b0, .slice o0 n0 m0, .slice p0 l0 e0] 27)) = wx1 at *
    have x00 := cell_at (v := .bool b0) HB_x0.out 0 rfl
    have x01 := cell_at (v := .slice o0 n0 m0) HB_x0.out 1 rfl
    have x02 := cell_at (v := .slice p0 l0 e0) HB_x0.out 2 rfl
    refine (HF.out _ (tab_below HTB.out hbt)).mono ?_
    rintro e wx2 ⟨rfl, hbx⟩
    replace g0 := g0.below hbx
    replace hbt := hbt.trans (hbx.mono hbt.size)
    replace HB_x0 := Lib.hid ((hbx.block _ (lt_of_block HB_x0.out)).trans HB_x0.out)
    clear hbx
    replace x00 := cell_at (v := .bool b0) HB_x0.out 0 rfl
    replace x01 := cell_at (v := .slice o0 n0 m0) HB_x0.out 1 rfl
    replace x02 := cell_at (v := .slice p0 l0 e0) HB_x0.out 2 rfl
    go_wp2_with fail
    refine (qshort_t1 8 _ rfl h0).mono ?_
    rintro e wx3 ⟨rfl, hbx⟩
    replace g0 := g0.below hbx
    replace hbt := hbt.trans (hbx.mono hbt.size)
    replace HB_x0 := Lib.hid ((hbx.block _ (lt_of_block HB_x0.out)).trans HB_x0.out)
    clear hbx
    replace x00 := cell_at (v := .bool b0) HB_x0.out 0 rfl
    replace x01 := cell_at (v := .slice o0 n0 m0) HB_x0.out 1 rfl
    replace x02 := cell_at (v := .slice p0 l0 e0) HB_x0.out 2 rfl
    go_wp2_with fail
    have hlt_x0 := lt_of_block HB_x0.out
    have hla_x0_wx3 : w.heap.size < wx3.heap.size := hlt_x0
    refine Rely.region (by kernel_rfl) [[], [], [1], [0, 1, 2], [], [0, 1, 2, 3, 4]] [4] [(5, 4)] (fun q => [].getD q 0) 0 6 (by kernel_rfl) (by kernel_rfl) (fun q h => absurd h (Nat.not_lt_zero q)) (fun q _ h => absurd h (Nat.not_lt_zero q)) ?_
    refine Rely.Chain.det ?_ (by rfl) (fun T xs wr hA => ?_) ?_
    rotate_left 1
    · have e1 := hA.pre 1 (by kernel_rfl)
      simp only [List.getElem?_toArray, List.getElem?_cons_succ, List.getElem?_cons_zero] at e1
      have hBq : wr.heap[w.heap.size]? = _ := (hA.bl _ hlt_x0 (fun q h => absurd h (Nat.not_lt_zero q))).trans HB_x0.out
      have q0 := cell_at (v := .bool b0) hBq 0 rfl
      have q1 := cell_at (v := .slice o0 n0 m0) hBq 1 rfl
      have q2 := cell_at (v := .slice p0 l0 e0) hBq 2 rfl
      clear hBq
      clear hA
      refine ⟨(by rfl), ?_⟩
      go_simp <;> (try with_reducible rfl)
    refine Rely.Chain.call (fun _ v w => CI w v 0 2) (fun _ _ _ _ h hb => h.below hb) (fun _ _ _ _ _ h hp => h.keeps hp.keeps) (by rfl) (fun T xs wr hA => ?_) ?_
    · have hkp := undrewK hA.kp
      have hbw := undrew (hA.be _ (Nat.le_refl _) (fun q h => absurd h (Nat.not_lt_zero q)))
      clear hA
      refine ⟨(by rfl), fun K hK => ?_⟩
      go_simp
      refine (wof_any 0 _ (by decide) (by decide)).mono ?_
      rintro e wq ⟨v, rfl, c, hb⟩
      exact hK.out _ _ c hb
    refine Rely.Chain.call (fun _ v w => CQ w v ((0 : Int) : Rat) 3) (fun _ _ _ _ h hb => h.below hb) (fun _ _ _ _ _ h hp => h.keeps hp.keeps) (by rfl) (fun T xs wr hA => ?_) ?_
    · have e12 := hA.tm 1 12 (by rfl) (by rfl)
      have hkp := undrewK hA.kp
      have hbw := undrew (hA.be _ (Nat.le_refl _) (fun q h => absurd h (Nat.not_lt_zero q)))
      have c_z : CI wr (xs 1) 0 2 := hA.fa 1 (by rfl)
      clear hA
      refine ⟨(by rfl), fun K hK => ?_⟩
      go_simp
      refine (qof_any c_z.gi (by omega)).mono ?_
      rintro e wq ⟨v, rfl, c, hb⟩
      exact hK.out _ _ c hb
    refine Rely.Chain.call (fun _ v w => CQ w v (A + ((0 : Int) : Rat)) 41) (fun _ _ _ _ h hb => h.below hb) (fun _ _ _ _ _ h hp => h.keeps hp.keeps) (by rfl) (fun T xs wr hA => ?_) ?_
    · have e11 := hA.tm 0 11 (by rfl) (by rfl)
      have f11 : xs 0 = _ := hA.fa 0 (by rfl)
      (try simp (disch := first | rfl | decide) only [Rely.mask_in] at f11)
      rw [f11] at e11
      clear f11
      have e13 := hA.tm 2 13 (by rfl) (by rfl)
      have hkp := undrewK hA.kp
      have hbw := undrew (hA.be _ (Nat.le_refl _) (fun q h => absurd h (Nat.not_lt_zero q)))
      have g0 := g0.keeps hkp
      have c_o : CQ wr (xs 2) ((0 : Int) : Rat) 3 := hA.fa 2 (by rfl)
      clear hA
      refine ⟨(by rfl), fun K hK => ?_⟩
      go_simp
      refine (hadd_any g0 c_o.hq (by omega) (by omega)).mono ?_
      rintro e wq ⟨v, rfl, c, hb⟩
      exact hK.out _ _ c hb
    refine Rely.Chain.alloc ?_ ?_ (by rfl) (fun Ts xs wr hA => ?_) ?_ ?_
    rotate_left 2
    · clear hA
      refine ⟨(by rfl), fun K hK => ?_⟩
      go_simp
      exact hK.out
    · rfl
    refine Rely.Chain.store 4 3 27 3 (by rfl) (by rfl) (by decide) (by rfl) rfl (fun T xs wr g c hA hx hB hn hi => ?_) ?_
    · have e3 := hA.tm 4 3 (by rfl) (by rfl)
      rw [hx] at e3
      have e14 := hA.tm 3 14 (by rfl) (by rfl)
      have hc : CQ wr (xs 3) (A + ((0 : Int) : Rat)) 41 := hA.fa 3 (by rfl)
      obtain ⟨b_h, o_h, l_h, k_h, p_h, m_h, u_h, hv⟩ := hc.shape
      clear hc
      rw [hv] at e14
      obtain ⟨c0, c1, c2, rfl⟩ := three_of hn
      have z0 := cell_at hB 0 rfl
      have z1 := cell_at hB 1 rfl
      have z2 := cell_at hB 2 rfl
      have fz0 := froz_at hB 0
      have fz1 := froz_at hB 1
      have fz2 := froz_at hB 2
      clear hA hn
      refine ⟨(by rfl), fun K hK => ?_⟩
      go_simp
      exact hK.out _ _ hv (hset3 hB _ _ _) (priv3 hB hi (by rfl))
    refine Rely.Chain.done (fun xs wx4 hL => ?_)
    obtain ⟨⟨hbe, hbl, hkp0⟩, hf, hp, hn⟩ := hL
    have f0 : xs 0 = _ := hf 0 (by decide)
    (try simp (disch := first | rfl | decide) only [Rely.mask_in] at f0)
    have c_z : CI wx4 (xs 1) 0 2 := hf 1 (by decide)
    have c_o : CQ wx4 (xs 2) ((0 : Int) : Rat) 3 := hf 2 (by decide)
    have c_bb : CQ wx4 (xs 3) (A + ((0 : Int) : Rat)) 41 := hf 3 (by decide)
    obtain ⟨g_bb, cc, f4, hv, hB_bb⟩ := hf 5 (by decide)
    change xs 4 = _ at f4
    change xs 3 = _ at hv
    obtain ⟨b_bb, o_bb, l_bb, k_bb, p_bb, m_bb, u_bb, hs_bb⟩ := c_bb.shape
    rw [hs_bb] at hv
    injection hv with hv
    subst hv
    have hg_bb : wx3.heap.size ≤ g_bb := by obtain ⟨g, h1, h2, -⟩ := hp 4 (by rfl) (by decide); rw [f4] at h1; injection h1 with h1; injection h1 with h1; injection h1 with h1; subst h1; exact h2
    clear hf hp hn
    refine Rely.rest_done ?_
    rw [hs_bb] at c_bb
    simp only [Rely.fill, List.setIfInBounds_toArray, List.set_cons_zero, List.set_cons_succ, f0, f4, hs_bb]
    clear f0 f4 hs_bb
    generalize xs 1 = v_z at c_z ⊢
    generalize xs 2 = v_o at c_o ⊢
    clear xs
    obtain ⟨b_z, o_z, l_z, k_z, rfl⟩ := c_z.shape
    obtain ⟨b_o, o_o, l_o, k_o, p_o, m_o, u_o, rfl⟩ := c_o.shape
    have hbx := undrew (hbe _ (Nat.le_refl _) (fun q h => absurd h (Nat.not_lt_zero q)))
    clear hbe hbl hkp0
    replace g0 := g0.below hbx
    replace hbt := hbt.trans (hbx.mono hbt.size)
    replace HB_x0 := Lib.hid ((hbx.block _ (lt_of_block HB_x0.out)).trans HB_x0.out)
    clear hbx
    replace x00 := cell_at (v := .bool b0) HB_x0.out 0 rfl
    replace x01 := cell_at (v := .slice o0 n0 m0) HB_x0.out 1 rfl
    replace x02 := cell_at (v := .slice p0 l0 e0) HB_x0.out 2 rfl
    have HB_bb := Lib.hid hB_bb
    clear hB_bb
    have bb0 := cell_at (v := .bool b_bb) HB_bb.out 0 rfl
    have bb1 := cell_at (v := .slice o_bb l_bb k_bb) HB_bb.out 1 rfl
    have bb2 := cell_at (v := .slice p_bb m_bb u_bb) HB_bb.out 2 rfl
    clear hlt_x0
    rw [HX.out] at c_bb
    have nb := c_bb.num
    have db := c_bb.den
    have hlz := zText_len nb.lt (show 41 ≤ 10000 by omega)
    have hld := dec_len db.lt (show 41 ≤ 10000 by omega)
    go_wp2_with fail
    refine (wtext_any _ A.num 41 _ (tab_below HTB.out hbt) nb (by omega)).mono ?_
    rintro e wx5 ⟨rfl, hbx⟩
    replace g0 := g0.below hbx
    replace c_z := c_z.below hbx
    replace c_o := c_o.below hbx
    replace c_bb := c_bb.below hbx
    replace nb := nb.below hbx
    replace db := db.below hbx
    replace hbt := hbt.trans (hbx.mono hbt.size)
    replace HB_x0 := Lib.hid ((hbx.block _ (lt_of_block HB_x0.out)).trans HB_x0.out)
    replace HB_bb := Lib.hid ((hbx.block _ (lt_of_block HB_bb.out)).trans HB_bb.out)
    clear hbx
    replace x00 := cell_at (v := .bool b0) HB_x0.out 0 rfl
    replace x01 := cell_at (v := .slice o0 n0 m0) HB_x0.out 1 rfl
    replace x02 := cell_at (v := .slice p0 l0 e0) HB_x0.out 2 rfl
    replace bb0 := cell_at (v := .bool b_bb) HB_bb.out 0 rfl
    replace bb1 := cell_at (v := .slice o_bb l_bb k_bb) HB_bb.out 1 rfl
    replace bb2 := cell_at (v := .slice p_bb m_bb u_bb) HB_bb.out 2 rfl
    by_cases hA : A.den = 1
    · have hz : (cmpN A.den 1 == 0) = true := by rw [beq_iff_eq]; exact (cmp_one A.den_pos).2 hA
      have HT := Lib.hid (show qText A = zText A.num by unfold qText; exact if_pos hA)
      clear hA
      go_wp2_with fail
      have hlt_x0 := lt_of_block HB_x0.out
      have hlt_bb := lt_of_block HB_bb.out
      refine Rely.region (by kernel_rfl) [[], [0], [], [0, 1, 2], [0, 1, 2, 3]] [] [] (fun q => [].getD q 0) 0 5 (by kernel_rfl) (by kernel_rfl) (fun q h => absurd h (Nat.not_lt_zero q)) (fun q _ h => absurd h (Nat.not_lt_zero q)) ?_
      refine Rely.Chain.det ?_ (by rfl) (fun T xs wr hA => ?_) ?_
      rotate_left 1
      · have e3 := hA.pre 3 (by kernel_rfl)
        simp only [List.getElem?_toArray, List.getElem?_cons_succ, List.getElem?_cons_zero] at e3
        clear hA
        refine ⟨(by rfl), ?_⟩
        go_simp <;> (try with_reducible rfl)
      refine Rely.Chain.det ?_ (by rfl) (fun T xs wr hA => ?_) ?_
      rotate_left 1
      · have e18 := hA.tm 0 18 (by rfl) (by rfl)
        have f18 : xs 0 = _ := hA.fa 0 (by rfl)
        (try simp (disch := first | rfl | decide) only [Rely.mask_in] at f18)
        rw [f18] at e18
        clear f18
        have hBq : wr.heap[g_bb]? = _ := (hA.bl _ hlt_bb (fun q h => absurd h (Nat.not_lt_zero q))).trans HB_bb.out
        have q0 := cell_at (v := .bool b_bb) hBq 0 rfl
        have q1 := cell_at (v := .slice o_bb l_bb k_bb) hBq 1 rfl
        have q2 := cell_at (v := .slice p_bb m_bb u_bb) hBq 2 rfl
        clear hBq
        clear hA
        refine ⟨(by rfl), ?_⟩
        go_simp <;> (try with_reducible rfl)
      refine Rely.Chain.call (fun _ v w => GN w v 1 2) (fun _ _ _ _ h hb => h.below hb) (fun _ _ _ _ _ h hp => h.keeps hp.keeps) (by rfl) (fun T xs wr hA => ?_) ?_
      · have hkp := undrewK hA.kp
        have hbw := undrew (hA.be _ (Nat.le_refl _) (fun q h => absurd h (Nat.not_lt_zero q)))
        clear hA
        refine ⟨(by rfl), fun K hK => ?_⟩
        go_simp
        refine (of_n 1 1 _ rfl (by decide)).mono ?_
        rintro e wq ⟨v, rfl, c, hb⟩
        exact hK.out _ _ c hb
      refine Rely.Chain.call (fun _ v _ => v = .int .i64 (cmpN A.den 1)) (fun _ _ _ _ h _ => h) (fun _ _ _ _ _ h _ => h) (by rfl) (fun T xs wr hA => ?_) ?_
      · have e19 := hA.tm 1 19 (by rfl) (by rfl)
        have f19 : xs 1 = _ := hA.fa 1 (by rfl)
        (try simp (disch := first | rfl | decide) only [Rely.mask_in] at f19)
        rw [f19] at e19
        clear f19
        have e20 := hA.tm 2 20 (by rfl) (by rfl)
        have hkp := undrewK hA.kp
        have hbw := undrew (hA.be _ (Nat.le_refl _) (fun q h => absurd h (Nat.not_lt_zero q)))
        have db := db.keeps hkp
        have c_u : GN wr (xs 2) 1 2 := hA.fa 2 (by rfl)
        clear hA
        refine ⟨(by rfl), fun K hK => ?_⟩
        go_simp
        refine (cmp_n db c_u).mono ?_
        rintro e wq ⟨rfl, hb⟩
        exact hK.out _ _ rfl hb
      refine Rely.Chain.det ?_ (by rfl) (fun T xs wr hA => ?_) ?_
      rotate_left 1
      · have e21 := hA.tm 3 21 (by rfl) (by rfl)
        have f21 : xs 3 = (.int .i64 (cmpN A.den 1)) := hA.fa 3 (by rfl)
        rw [f21] at e21
        clear f21
        clear hA
        refine ⟨(by rfl), ?_⟩
        go_simp <;> (try with_reducible rfl)
      refine Rely.Chain.done (fun xs wx6 hL => ?_)
      obtain ⟨⟨hbe, hbl, hkp0⟩, hf, hp, hn⟩ := hL
      have f0 : xs 0 = _ := hf 0 (by decide)
      (try simp (disch := first | rfl | decide) only [Rely.mask_in] at f0)
      have f1 : xs 1 = _ := hf 1 (by decide)
      (try simp (disch := first | rfl | decide) only [Rely.mask_in] at f1)
      have c_u : GN wx6 (xs 2) 1 2 := hf 2 (by decide)
      have f3 : xs 3 = (.int .i64 (cmpN A.den 1)) := hf 3 (by decide)
      have f4 : xs 4 = _ := hf 4 (by decide)
      (try simp (disch := first | rfl | decide) only [Rely.mask_in] at f4)
      clear hf hp hn
      refine Rely.rest_done ?_
      simp only [Rely.fill, List.setIfInBounds_toArray, List.set_cons_zero, List.set_cons_succ, f0, f1, f3, f4]
      clear f0 f1 f3 f4
      generalize xs 2 = v_u at c_u ⊢
      clear xs
      obtain ⟨o_u, l_u, k_u, rfl, -⟩ := c_u.shape
      have hbx := undrew (hbe _ (Nat.le_refl _) (fun q h => absurd h (Nat.not_lt_zero q)))
      clear hbe hbl hkp0
      replace g0 := g0.below hbx
      replace c_z := c_z.below hbx
      replace c_o := c_o.below hbx
      replace c_bb := c_bb.below hbx
      replace nb := nb.below hbx
      replace db := db.below hbx
      replace hbt := hbt.trans (hbx.mono hbt.size)
      replace HB_x0 := Lib.hid ((hbx.block _ (lt_of_block HB_x0.out)).trans HB_x0.out)
      replace HB_bb := Lib.hid ((hbx.block _ (lt_of_block HB_bb.out)).trans HB_bb.out)
      clear hbx
      replace x00 := cell_at (v := .bool b0) HB_x0.out 0 rfl
      replace x01 := cell_at (v := .slice o0 n0 m0) HB_x0.out 1 rfl
      replace x02 := cell_at (v := .slice p0 l0 e0) HB_x0.out 2 rfl
      replace bb0 := cell_at (v := .bool b_bb) HB_bb.out 0 rfl
      replace bb1 := cell_at (v := .slice o_bb l_bb k_bb) HB_bb.out 1 rfl
      replace bb2 := cell_at (v := .slice p_bb m_bb u_bb) HB_bb.out 2 rfl
      clear hlt_x0
      go_wp2_with fail
      refine (right_any c_bb (by omega)).mono ?_
      rintro e wx7 ⟨rfl, hbx⟩
      replace g0 := g0.below hbx
      replace c_z := c_z.below hbx
      replace c_o := c_o.below hbx
      replace c_bb := c_bb.below hbx
      replace nb := nb.below hbx
      replace db := db.below hbx
      replace c_u := c_u.below hbx
      replace hbt := hbt.trans (hbx.mono hbt.size)
      replace HB_x0 := Lib.hid ((hbx.block _ (lt_of_block HB_x0.out)).trans HB_x0.out)
      replace HB_bb := Lib.hid ((hbx.block _ (lt_of_block HB_bb.out)).trans HB_bb.out)
      clear hbx
      replace x00 := cell_at (v := .bool b0) HB_x0.out 0 rfl
      replace x01 := cell_at (v := .slice o0 n0 m0) HB_x0.out 1 rfl
      replace x02 := cell_at (v := .slice p0 l0 e0) HB_x0.out 2 rfl
      replace bb0 := cell_at (v := .bool b_bb) HB_bb.out 0 rfl
      replace bb1 := cell_at (v := .slice o_bb l_bb k_bb) HB_bb.out 1 rfl
      replace bb2 := cell_at (v := .slice p_bb m_bb u_bb) HB_bb.out 2 rfl
      go_wp2_with fail
      refine (hcmp_any g0 c_bb.hq (by omega) (by omega)).mono ?_
      rintro e wx8 ⟨rfl, hbx⟩
      replace g0 := g0.below hbx
      replace c_z := c_z.below hbx
      replace c_o := c_o.below hbx
      replace c_bb := c_bb.below hbx
      replace nb := nb.below hbx
      replace db := db.below hbx
      replace c_u := c_u.below hbx
      replace hbt := hbt.trans (hbx.mono hbt.size)
      replace HB_x0 := Lib.hid ((hbx.block _ (lt_of_block HB_x0.out)).trans HB_x0.out)
      replace HB_bb := Lib.hid ((hbx.block _ (lt_of_block HB_bb.out)).trans HB_bb.out)
      clear hbx
      replace x00 := cell_at (v := .bool b0) HB_x0.out 0 rfl
      replace x01 := cell_at (v := .slice o0 n0 m0) HB_x0.out 1 rfl
      replace x02 := cell_at (v := .slice p0 l0 e0) HB_x0.out 2 rfl
      replace bb0 := cell_at (v := .bool b_bb) HB_bb.out 0 rfl
      replace bb1 := cell_at (v := .slice o_bb l_bb k_bb) HB_bb.out 1 rfl
      replace bb2 := cell_at (v := .slice p_bb m_bb u_bb) HB_bb.out 2 rfl
      rw [HC.out]
      go_wp2_with fail
      refine (htext_any (tab_below HTB.out hbt) g0 (by omega)).mono ?_
      rintro e wx9 ⟨rfl, hbx⟩
      replace g0 := g0.below hbx
      replace c_z := c_z.below hbx
      replace c_o := c_o.below hbx
      replace c_bb := c_bb.below hbx
      replace nb := nb.below hbx
      replace db := db.below hbx
      replace c_u := c_u.below hbx
      replace hbt := hbt.trans (hbx.mono hbt.size)
      replace HB_x0 := Lib.hid ((hbx.block _ (lt_of_block HB_x0.out)).trans HB_x0.out)
      replace HB_bb := Lib.hid ((hbx.block _ (lt_of_block HB_bb.out)).trans HB_bb.out)
      clear hbx
      replace x00 := cell_at (v := .bool b0) HB_x0.out 0 rfl
      replace x01 := cell_at (v := .slice o0 n0 m0) HB_x0.out 1 rfl
      replace x02 := cell_at (v := .slice p0 l0 e0) HB_x0.out 2 rfl
      replace bb0 := cell_at (v := .bool b_bb) HB_bb.out 0 rfl
      replace bb1 := cell_at (v := .slice o_bb l_bb k_bb) HB_bb.out 1 rfl
      replace bb2 := cell_at (v := .slice p_bb m_bb u_bb) HB_bb.out 2 rfl
      rw [HT.out]
      go_wp2_with fail
      refine (htext_any (tab_below HTB.out hbt) c_bb.hq (by omega)).mono ?_
      rintro e wx10 ⟨rfl, hbx⟩
      replace g0 := g0.below hbx
      replace c_z := c_z.below hbx
      replace c_o := c_o.below hbx
      replace c_bb := c_bb.below hbx
      replace nb := nb.below hbx
      replace db := db.below hbx
      replace c_u := c_u.below hbx
      replace hbt := hbt.trans (hbx.mono hbt.size)
      replace HB_x0 := Lib.hid ((hbx.block _ (lt_of_block HB_x0.out)).trans HB_x0.out)
      replace HB_bb := Lib.hid ((hbx.block _ (lt_of_block HB_bb.out)).trans HB_bb.out)
      clear hbx
      replace x00 := cell_at (v := .bool b0) HB_x0.out 0 rfl
      replace x01 := cell_at (v := .slice o0 n0 m0) HB_x0.out 1 rfl
      replace x02 := cell_at (v := .slice p0 l0 e0) HB_x0.out 2 rfl
      replace bb0 := cell_at (v := .bool b_bb) HB_bb.out 0 rfl
      replace bb1 := cell_at (v := .slice o_bb l_bb k_bb) HB_bb.out 1 rfl
      replace bb2 := cell_at (v := .slice p_bb m_bb u_bb) HB_bb.out 2 rfl
      rw [HT.out]
      go_wp2_with fail
      go_ret
      exact ⟨rfl, hbt⟩
    · have hz : (cmpN A.den 1 == 0) = false := by rw [beq_eq_false_iff_ne]; exact mt (cmp_one A.den_pos).1 hA
      have HT := Lib.hid (show qText A = zText A.num ++ 47 :: Lib.decDigits A.den by unfold qText; exact if_neg hA)
      clear hA
      go_wp2_with fail
      have hlt_x0 := lt_of_block HB_x0.out
      have hlt_bb := lt_of_block HB_bb.out
      refine Rely.region (by kernel_rfl) [[], [0], [], [0, 1, 2], [0, 1, 2, 3]] [] [] (fun q => [].getD q 0) 0 5 (by kernel_rfl) (by kernel_rfl) (fun q h => absurd h (Nat.not_lt_zero q)) (fun q _ h => absurd h (Nat.not_lt_zero q)) ?_
      refine Rely.Chain.det ?_ (by rfl) (fun T xs wr hA => ?_) ?_
      rotate_left 1
      · have e3 := hA.pre 3 (by kernel_rfl)
        simp only [List.getElem?_toArray, List.getElem?_cons_succ, List.getElem?_cons_zero] at e3
        clear hA
        refine ⟨(by rfl), ?_⟩
        go_simp <;> (try with_reducible rfl)
      refine Rely.Chain.det ?_ (by rfl) (fun T xs wr hA => ?_) ?_
      rotate_left 1
      · have e18 := hA.tm 0 18 (by rfl) (by rfl)
        have f18 : xs 0 = _ := hA.fa 0 (by rfl)
        (try simp (disch := first | rfl | decide) only [Rely.mask_in] at f18)
        rw [f18] at e18
        clear f18
        have hBq : wr.heap[g_bb]? = _ := (hA.bl _ hlt_bb (fun q h => absurd h (Nat.not_lt_zero q))).trans HB_bb.out
        have q0 := cell_at (v := .bool b_bb) hBq 0 rfl
        have q1 := cell_at (v := .slice o_bb l_bb k_bb) hBq 1 rfl
        have q2 := cell_at (v := .slice p_bb m_bb u_bb) hBq 2 rfl
        clear hBq
        clear hA
        refine ⟨(by rfl), ?_⟩
        go_simp <;> (try with_reducible rfl)
      refine Rely.Chain.call (fun _ v w => GN w v 1 2) (fun _ _ _ _ h hb => h.below hb) (fun _ _ _ _ _ h hp => h.keeps hp.keeps) (by rfl) (fun T xs wr hA => ?_) ?_
      · have hkp := undrewK hA.kp
        have hbw := undrew (hA.be _ (Nat.le_refl _) (fun q h => absurd h (Nat.not_lt_zero q)))
        clear hA
        refine ⟨(by rfl), fun K hK => ?_⟩
        go_simp
        refine (of_n 1 1 _ rfl (by decide)).mono ?_
        rintro e wq ⟨v, rfl, c, hb⟩
        exact hK.out _ _ c hb
      refine Rely.Chain.call (fun _ v _ => v = .int .i64 (cmpN A.den 1)) (fun _ _ _ _ h _ => h) (fun _ _ _ _ _ h _ => h) (by rfl) (fun T xs wr hA => ?_) ?_
      · have e19 := hA.tm 1 19 (by rfl) (by rfl)
        have f19 : xs 1 = _ := hA.fa 1 (by rfl)
        (try simp (disch := first | rfl | decide) only [Rely.mask_in] at f19)
        rw [f19] at e19
        clear f19
        have e20 := hA.tm 2 20 (by rfl) (by rfl)
        have hkp := undrewK hA.kp
        have hbw := undrew (hA.be _ (Nat.le_refl _) (fun q h => absurd h (Nat.not_lt_zero q)))
        have db := db.keeps hkp
        have c_u : GN wr (xs 2) 1 2 := hA.fa 2 (by rfl)
        clear hA
        refine ⟨(by rfl), fun K hK => ?_⟩
        go_simp
        refine (cmp_n db c_u).mono ?_
        rintro e wq ⟨rfl, hb⟩
        exact hK.out _ _ rfl hb
      refine Rely.Chain.det ?_ (by rfl) (fun T xs wr hA => ?_) ?_
      rotate_left 1
      · have e21 := hA.tm 3 21 (by rfl) (by rfl)
        have f21 : xs 3 = (.int .i64 (cmpN A.den 1)) := hA.fa 3 (by rfl)
        rw [f21] at e21
        clear f21
        clear hA
        refine ⟨(by rfl), ?_⟩
        go_simp <;> (try with_reducible rfl)
      refine Rely.Chain.done (fun xs wx6 hL => ?_)
      obtain ⟨⟨hbe, hbl, hkp0⟩, hf, hp, hn⟩ := hL
      have f0 : xs 0 = _ := hf 0 (by decide)
      (try simp (disch := first | rfl | decide) only [Rely.mask_in] at f0)
      have f1 : xs 1 = _ := hf 1 (by decide)
      (try simp (disch := first | rfl | decide) only [Rely.mask_in] at f1)
      have c_u : GN wx6 (xs 2) 1 2 := hf 2 (by decide)
      have f3 : xs 3 = (.int .i64 (cmpN A.den 1)) := hf 3 (by decide)
      have f4 : xs 4 = _ := hf 4 (by decide)
      (try simp (disch := first | rfl | decide) only [Rely.mask_in] at f4)
      clear hf hp hn
      refine Rely.rest_done ?_
      simp only [Rely.fill, List.setIfInBounds_toArray, List.set_cons_zero, List.set_cons_succ, f0, f1, f3, f4]
      clear f0 f1 f3 f4
      generalize xs 2 = v_u at c_u ⊢
      clear xs
      obtain ⟨o_u, l_u, k_u, rfl, -⟩ := c_u.shape
      have hbx := undrew (hbe _ (Nat.le_refl _) (fun q h => absurd h (Nat.not_lt_zero q)))
      clear hbe hbl hkp0
      replace g0 := g0.below hbx
      replace c_z := c_z.below hbx
      replace c_o := c_o.below hbx
      replace c_bb := c_bb.below hbx
      replace nb := nb.below hbx
      replace db := db.below hbx
      replace hbt := hbt.trans (hbx.mono hbt.size)
      replace HB_x0 := Lib.hid ((hbx.block _ (lt_of_block HB_x0.out)).trans HB_x0.out)
      replace HB_bb := Lib.hid ((hbx.block _ (lt_of_block HB_bb.out)).trans HB_bb.out)
      clear hbx
      replace x00 := cell_at (v := .bool b0) HB_x0.out 0 rfl
      replace x01 := cell_at (v := .slice o0 n0 m0) HB_x0.out 1 rfl
      replace x02 := cell_at (v := .slice p0 l0 e0) HB_x0.out 2 rfl
      replace bb0 := cell_at (v := .bool b_bb) HB_bb.out 0 rfl
      replace bb1 := cell_at (v := .slice o_bb l_bb k_bb) HB_bb.out 1 rfl
      replace bb2 := cell_at (v := .slice p_bb m_bb u_bb) HB_bb.out 2 rfl
      clear hlt_x0
      go_wp2_with fail
      refine (text_n (tab_below HTB.out hbt) db (by omega)).mono ?_
      rintro e wx7 ⟨rfl, hbx⟩
      replace g0 := g0.below hbx
      replace c_z := c_z.below hbx
      replace c_o := c_o.below hbx
      replace c_bb := c_bb.below hbx
      replace nb := nb.below hbx
      replace db := db.below hbx
      replace c_u := c_u.below hbx
      replace hbt := hbt.trans (hbx.mono hbt.size)
      replace HB_x0 := Lib.hid ((hbx.block _ (lt_of_block HB_x0.out)).trans HB_x0.out)
      replace HB_bb := Lib.hid ((hbx.block _ (lt_of_block HB_bb.out)).trans HB_bb.out)
      clear hbx
      replace x00 := cell_at (v := .bool b0) HB_x0.out 0 rfl
      replace x01 := cell_at (v := .slice o0 n0 m0) HB_x0.out 1 rfl
      replace x02 := cell_at (v := .slice p0 l0 e0) HB_x0.out 2 rfl
      replace bb0 := cell_at (v := .bool b_bb) HB_bb.out 0 rfl
      replace bb1 := cell_at (v := .slice o_bb l_bb k_bb) HB_bb.out 1 rfl
      replace bb2 := cell_at (v := .slice p_bb m_bb u_bb) HB_bb.out 2 rfl
      go_wp2_with fail
      refine (right_any c_bb (by omega)).mono ?_
      rintro e wx8 ⟨rfl, hbx⟩
      replace g0 := g0.below hbx
      replace c_z := c_z.below hbx
      replace c_o := c_o.below hbx
      replace c_bb := c_bb.below hbx
      replace nb := nb.below hbx
      replace db := db.below hbx
      replace c_u := c_u.below hbx
      replace hbt := hbt.trans (hbx.mono hbt.size)
      replace HB_x0 := Lib.hid ((hbx.block _ (lt_of_block HB_x0.out)).trans HB_x0.out)
      replace HB_bb := Lib.hid ((hbx.block _ (lt_of_block HB_bb.out)).trans HB_bb.out)
      clear hbx
      replace x00 := cell_at (v := .bool b0) HB_x0.out 0 rfl
      replace x01 := cell_at (v := .slice o0 n0 m0) HB_x0.out 1 rfl
      replace x02 := cell_at (v := .slice p0 l0 e0) HB_x0.out 2 rfl
      replace bb0 := cell_at (v := .bool b_bb) HB_bb.out 0 rfl
      replace bb1 := cell_at (v := .slice o_bb l_bb k_bb) HB_bb.out 1 rfl
      replace bb2 := cell_at (v := .slice p_bb m_bb u_bb) HB_bb.out 2 rfl
      go_wp2_with fail
      refine (hcmp_any g0 c_bb.hq (by omega) (by omega)).mono ?_
      rintro e wx9 ⟨rfl, hbx⟩
      replace g0 := g0.below hbx
      replace c_z := c_z.below hbx
      replace c_o := c_o.below hbx
      replace c_bb := c_bb.below hbx
      replace nb := nb.below hbx
      replace db := db.below hbx
      replace c_u := c_u.below hbx
      replace hbt := hbt.trans (hbx.mono hbt.size)
      replace HB_x0 := Lib.hid ((hbx.block _ (lt_of_block HB_x0.out)).trans HB_x0.out)
      replace HB_bb := Lib.hid ((hbx.block _ (lt_of_block HB_bb.out)).trans HB_bb.out)
      clear hbx
      replace x00 := cell_at (v := .bool b0) HB_x0.out 0 rfl
      replace x01 := cell_at (v := .slice o0 n0 m0) HB_x0.out 1 rfl
      replace x02 := cell_at (v := .slice p0 l0 e0) HB_x0.out 2 rfl
      replace bb0 := cell_at (v := .bool b_bb) HB_bb.out 0 rfl
      replace bb1 := cell_at (v := .slice o_bb l_bb k_bb) HB_bb.out 1 rfl
      replace bb2 := cell_at (v := .slice p_bb m_bb u_bb) HB_bb.out 2 rfl
      rw [HC.out]
      go_wp2_with fail
      refine (htext_any (tab_below HTB.out hbt) g0 (by omega)).mono ?_
      rintro e wx10 ⟨rfl, hbx⟩
      replace g0 := g0.below hbx
      replace c_z := c_z.below hbx
      replace c_o := c_o.below hbx
      replace c_bb := c_bb.below hbx
      replace nb := nb.below hbx
      replace db := db.below hbx
      replace c_u := c_u.below hbx
      replace hbt := hbt.trans (hbx.mono hbt.size)
      replace HB_x0 := Lib.hid ((hbx.block _ (lt_of_block HB_x0.out)).trans HB_x0.out)
      replace HB_bb := Lib.hid ((hbx.block _ (lt_of_block HB_bb.out)).trans HB_bb.out)
      clear hbx
      replace x00 := cell_at (v := .bool b0) HB_x0.out 0 rfl
      replace x01 := cell_at (v := .slice o0 n0 m0) HB_x0.out 1 rfl
      replace x02 := cell_at (v := .slice p0 l0 e0) HB_x0.out 2 rfl
      replace bb0 := cell_at (v := .bool b_bb) HB_bb.out 0 rfl
      replace bb1 := cell_at (v := .slice o_bb l_bb k_bb) HB_bb.out 1 rfl
      replace bb2 := cell_at (v := .slice p_bb m_bb u_bb) HB_bb.out 2 rfl
      rw [HT.out, ← app_q2]
      go_wp2_with fail
      refine (htext_any (tab_below HTB.out hbt) c_bb.hq (by omega)).mono ?_
      rintro e wx11 ⟨rfl, hbx⟩
      replace g0 := g0.below hbx
      replace c_z := c_z.below hbx
      replace c_o := c_o.below hbx
      replace c_bb := c_bb.below hbx
      replace nb := nb.below hbx
      replace db := db.below hbx
      replace c_u := c_u.below hbx
      replace hbt := hbt.trans (hbx.mono hbt.size)
      replace HB_x0 := Lib.hid ((hbx.block _ (lt_of_block HB_x0.out)).trans HB_x0.out)
      replace HB_bb := Lib.hid ((hbx.block _ (lt_of_block HB_bb.out)).trans HB_bb.out)
      clear hbx
      replace x00 := cell_at (v := .bool b0) HB_x0.out 0 rfl
      replace x01 := cell_at (v := .slice o0 n0 m0) HB_x0.out 1 rfl
      replace x02 := cell_at (v := .slice p0 l0 e0) HB_x0.out 2 rfl
      replace bb0 := cell_at (v := .bool b_bb) HB_bb.out 0 rfl
      replace bb1 := cell_at (v := .slice o_bb l_bb k_bb) HB_bb.out 1 rfl
      replace bb2 := cell_at (v := .slice p_bb m_bb u_bb) HB_bb.out 2 rfl
      rw [HT.out, ← app_q2]
      go_wp2_with fail
      go_ret
      exact ⟨rfl, hbt⟩
  · have HS := Lib.hid hs
    clear hs a0
    have hbt := Below.refl w.heap.size w
    go_enter Tryd.func7, Tryd.ntmps7
    go_wp2_with fail
    have hbx : Below w.heap.size w (w.alloc (.cells #[.bool b0, .slice o0 n0 m0, .slice p0 l0 e0] 27)) := ((Below.refl _ _).alloc (by simp) _)
    replace hbt := hbt.trans (hbx.mono hbt.size)
    clear hbx
    have HB_x0 : Hid ((w.alloc (.cells #[.bool b0, .slice o0 n0 m0, .slice p0 l0 e0] 27)).heap[w.heap.size]? = some (.cells #[.bool b0, .slice o0 n0 m0, .slice p0 l0 e0] 27 (0, 0))) := Lib.hid (made_at w (.cells #[.bool b0, .slice o0 n0 m0, .slice p0 l0 e0] 27) _ (by first | rfl | simp))
    generalize (w.alloc (.cells #[.bool b0, .slice o0 n0 m0, .slice p0 l0 e0] 27)) = wx1 at *
    have x00 := cell_at (v := .bool b0) HB_x0.out 0 rfl
    have x01 := cell_at (v := .slice o0 n0 m0) HB_x0.out 1 rfl
    have x02 := cell_at (v := .slice p0 l0 e0) HB_x0.out 2 rfl
    refine (HF.out _ (tab_below HTB.out hbt)).mono ?_
    rintro e wx2 ⟨rfl, hbx⟩
    replace hbt := hbt.trans (hbx.mono hbt.size)
    replace HB_x0 := Lib.hid ((hbx.block _ (lt_of_block HB_x0.out)).trans HB_x0.out)
    clear hbx
    replace x00 := cell_at (v := .bool b0) HB_x0.out 0 rfl
    replace x01 := cell_at (v := .slice o0 n0 m0) HB_x0.out 1 rfl
    replace x02 := cell_at (v := .slice p0 l0 e0) HB_x0.out 2 rfl
    go_wp2_with fail
    refine (qshort_f1 8 _ rfl HS.out).mono ?_
    rintro e wx3 ⟨rfl, hbx⟩
    replace hbt := hbt.trans (hbx.mono hbt.size)
    replace HB_x0 := Lib.hid ((hbx.block _ (lt_of_block HB_x0.out)).trans HB_x0.out)
    clear hbx
    replace x00 := cell_at (v := .bool b0) HB_x0.out 0 rfl
    replace x01 := cell_at (v := .slice o0 n0 m0) HB_x0.out 1 rfl
    replace x02 := cell_at (v := .slice p0 l0 e0) HB_x0.out 2 rfl
    go_wp2_with fail
    go_ret
    exact ⟨rfl, hbt⟩
end Go.Proofs.YtmindndmegiaaaaDoor
