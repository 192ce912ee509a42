/-
  The walk of the law RatioParts.
-/
import Derived.Test.YtmindndmegiaaaaDoorQHat
namespace Go.Proofs.YtmindndmegiaaaaDoor
open Go.RowKit
set_option maxRecDepth 100000

theorem cmp_1 {n : Nat} (h : 0 < n) : cmpN n 1 = 0 ↔ n = 1 := by
  unfold cmpN; rw [if_neg (by omega)]; split <;> simp_all
theorem whole_yes {va : Value} {q : Rat} {k : Nat} {w : World} (ha : CQ w va q k) (hk : k ≤ 100000) (h : q.den = 1) :
    Calls Tryd.prog 33 #[va] w fun e w' => ∃ v, e = .returned (.tuple #[v, .bool true]) ∧ CI w' v q.num (k + 3) ∧ Below w.heap.size w w' := by
  have h1 := (fmod_den q.num q.den_pos).2 (by rw [Rat.mkRat_self]; exact h)
  have h2 : Int.fdiv q.num (q.den : Int) = q.num := by rw [h, show ((1 : Nat) : Int) = 1 from rfl, Int.fdiv_one]
  have h3 := qwhole_yes ha.gq hk h1
  rwa [h2] at h3
theorem whole_no {va : Value} {q : Rat} {k : Nat} {w : World} (ha : CQ w va q k) (hk : k ≤ 100000) (h : q.den ≠ 1) :
    Calls Tryd.prog 33 #[va] w fun e w' => ∃ v, e = .returned (.tuple #[v, .bool false]) ∧ CI w' v 0 (k + 3) ∧ Below w.heap.size w w' :=
  qwhole_no ha.gq hk (fun x => h (by have := (fmod_den q.num q.den_pos).1 x; rwa [Rat.mkRat_self] at this))
theorem divInt_self (q : Rat) : Rat.divInt q.num (q.den : Int) = q := by rw [Rat.divInt_ofNat, Rat.mkRat_self]
theorem sub_cmp (q : Rat) : cmpQ (q - q) 0 = 0 := by rw [Rat.sub_self]; exact cmpQ_self 0

set_option maxHeartbeats 8000000 in
theorem ratioParts_walk (b0 : Bool) (o0 : Option Addr) (n0 m0 : Nat) (p0 : Option Addr) (l0 e0 : Nat) (xs0 ys0 : List Nat) (b1 : Bool) (o1 : Option Addr) (n1 m1 : Nat) (xs1 : List Nat) (w : World) (a0 : ArgQ w b0 o0 n0 m0 p0 l0 e0 xs0 ys0) (a1 : Arg w b1 o1 n1 m1 xs1) (htab : Lib.TabIs Tryd.prog w "internal/strconv.uint64pow10" .u64 Lib.pow10Tab) :
    Calls Tryd.prog 8 #[.agg #[.bool b0, .slice o0 n0 m0, .slice p0 l0 e0], .agg #[.bool b1, .slice o1 n1 m1]] w fun e w' => e = .returned (.bool true) ∧ Below w.heap.size w w' := by
  have HF := Lib.hid qfitOk
  have HTB := Lib.hid htab
  clear htab
  by_cases hs : (n0 ≤ 8 ∧ l0 ≤ 8)
  · have h0 := hs
    by_cases hn : n1 ≤ 8
    · obtain ⟨A, g0⟩ := a0.hq h0
      obtain ⟨Z, z1⟩ := a1.gi hn
      clear a0 a1
      have HX := Lib.hid (show A + ((0 : Int) : Rat) = A from Rat.add_zero A)
      have HD := Lib.hid (divInt_self A)
      have HP := Lib.hid (show (A.den : Int) ≠ 0 by have := A.den_pos; omega)
      have HU := Lib.hid (sub_cmp A)
      have HZ := Lib.hid (sgnZ_self Z)
      have hl1 : decide ((8 : Int) < (n1 : Int)) = false := decide_eq_false (by omega)
      have hbt := Below.refl w.heap.size w
      go_enter Tryd.func8, Tryd.ntmps8
      go_wp2_with fail
      have hbx : Below w.heap.size w ((w.alloc (.cells #[.bool b0, .slice o0 n0 m0, .slice p0 l0 e0] 27)).alloc (.cells #[.bool b1, .slice o1 n1 m1] 25)) := (((Below.refl _ _).alloc (by simp) _).alloc (by simp) _)
      replace g0 := g0.below hbx
      replace z1 := z1.below hbx
      replace hbt := hbt.trans (hbx.mono hbt.size)
      clear hbx
      have HB_x0 : Hid (((w.alloc (.cells #[.bool b0, .slice o0 n0 m0, .slice p0 l0 e0] 27)).alloc (.cells #[.bool b1, .slice o1 n1 m1] 25)).heap[w.heap.size]? = some (.cells #[.bool b0, .slice o0 n0 m0, .slice p0 l0 e0] 27 (0, 0))) := Lib.hid (made_more (made_at w (.cells #[.bool b0, .slice o0 n0 m0, .slice p0 l0 e0] 27) _ (by first | rfl | simp)) _)
      have HB_x1 : Hid (((w.alloc (.cells #[.bool b0, .slice o0 n0 m0, .slice p0 l0 e0] 27)).alloc (.cells #[.bool b1, .slice o1 n1 m1] 25)).heap[w.heap.size + 1]? = some (.cells #[.bool b1, .slice o1 n1 m1] 25 (0, 0))) := Lib.hid (made_at (w.alloc (.cells #[.bool b0, .slice o0 n0 m0, .slice p0 l0 e0] 27)) (.cells #[.bool b1, .slice o1 n1 m1] 25) _ (by first | rfl | simp))
      generalize ((w.alloc (.cells #[.bool b0, .slice o0 n0 m0, .slice p0 l0 e0] 27)).alloc (.cells #[.bool b1, .slice o1 n1 m1] 25)) = wx1 at *
      have x00 := cell_at (v := .bool b0) HB_x0.out 0 rfl
      have x01 := cell_at (v := .slice o0 n0 m0) HB_x0.out 1 rfl
      have x02 := cell_at (v := .slice p0 l0 e0) HB_x0.out 2 rfl
      have x10 := cell_at (v := .bool b1) HB_x1.out 0 rfl
      have x11 := cell_at (v := .slice o1 n1 m1) HB_x1.out 1 rfl
      refine (HF.out _ (tab_below HTB.out hbt)).mono ?_
      rintro e wx2 ⟨rfl, hbx⟩
      replace g0 := g0.below hbx
      replace z1 := z1.below hbx
      replace hbt := hbt.trans (hbx.mono hbt.size)
      replace HB_x0 := Lib.hid ((hbx.block _ (lt_of_block HB_x0.out)).trans HB_x0.out)
      replace HB_x1 := Lib.hid ((hbx.block _ (lt_of_block HB_x1.out)).trans HB_x1.out)
      clear hbx
      replace x00 := cell_at (v := .bool b0) HB_x0.out 0 rfl
      replace x01 := cell_at (v := .slice o0 n0 m0) HB_x0.out 1 rfl
      replace x02 := cell_at (v := .slice p0 l0 e0) HB_x0.out 2 rfl
      replace x10 := cell_at (v := .bool b1) HB_x1.out 0 rfl
      replace x11 := cell_at (v := .slice o1 n1 m1) HB_x1.out 1 rfl
      go_wp2_with fail
      refine (qshort_t1 8 _ rfl h0).mono ?_
      rintro e wx3 ⟨rfl, hbx⟩
      replace g0 := g0.below hbx
      replace z1 := z1.below hbx
      replace hbt := hbt.trans (hbx.mono hbt.size)
      replace HB_x0 := Lib.hid ((hbx.block _ (lt_of_block HB_x0.out)).trans HB_x0.out)
      replace HB_x1 := Lib.hid ((hbx.block _ (lt_of_block HB_x1.out)).trans HB_x1.out)
      clear hbx
      replace x00 := cell_at (v := .bool b0) HB_x0.out 0 rfl
      replace x01 := cell_at (v := .slice o0 n0 m0) HB_x0.out 1 rfl
      replace x02 := cell_at (v := .slice p0 l0 e0) HB_x0.out 2 rfl
      replace x10 := cell_at (v := .bool b1) HB_x1.out 0 rfl
      replace x11 := cell_at (v := .slice o1 n1 m1) HB_x1.out 1 rfl
      go_wp2_with fail
      have hlt_x0 := lt_of_block HB_x0.out
      have hlt_x1 := lt_of_block HB_x1.out
      have hla_x0_wx3 : w.heap.size < wx3.heap.size := hlt_x0
      have hla_x1_wx3 : w.heap.size + 1 < wx3.heap.size := hlt_x1
      refine Rely.region (by kernel_rfl) [[], [], [1], [0, 1, 2], [], [0, 1, 2, 3, 4]] [4] [(5, 4)] (fun q => [].getD q 0) 0 6 (by kernel_rfl) (by kernel_rfl) (fun q h => absurd h (Nat.not_lt_zero q)) (fun q _ h => absurd h (Nat.not_lt_zero q)) ?_
      refine Rely.Chain.det ?_ (by rfl) (fun T xs wr hA => ?_) ?_
      rotate_left 1
      · have e2 := hA.pre 2 (by kernel_rfl)
        simp only [List.getElem?_toArray, List.getElem?_cons_succ, List.getElem?_cons_zero] at e2
        have hBq : wr.heap[w.heap.size]? = _ := (hA.bl _ hlt_x0 (fun q h => absurd h (Nat.not_lt_zero q))).trans HB_x0.out
        have q0 := cell_at (v := .bool b0) hBq 0 rfl
        have q1 := cell_at (v := .slice o0 n0 m0) hBq 1 rfl
        have q2 := cell_at (v := .slice p0 l0 e0) hBq 2 rfl
        clear hBq
        clear hA
        refine ⟨(by rfl), ?_⟩
        go_simp <;> (try with_reducible rfl)
      refine Rely.Chain.call (fun _ v w => CI w v 0 2) (fun _ _ _ _ h hb => h.below hb) (fun _ _ _ _ _ h hp => h.keeps hp.keeps) (by rfl) (fun T xs wr hA => ?_) ?_
      · have hkp := undrewK hA.kp
        have hbw := undrew (hA.be _ (Nat.le_refl _) (fun q h => absurd h (Nat.not_lt_zero q)))
        clear hA
        refine ⟨(by rfl), fun K hK => ?_⟩
        go_simp
        refine (wof_any 0 _ (by decide) (by decide)).mono ?_
        rintro e wq ⟨v, rfl, c, hb⟩
        exact hK.out _ _ c hb
      refine Rely.Chain.call (fun _ v w => CQ w v ((0 : Int) : Rat) 3) (fun _ _ _ _ h hb => h.below hb) (fun _ _ _ _ _ h hp => h.keeps hp.keeps) (by rfl) (fun T xs wr hA => ?_) ?_
      · have e25 := hA.tm 1 25 (by rfl) (by rfl)
        have hkp := undrewK hA.kp
        have hbw := undrew (hA.be _ (Nat.le_refl _) (fun q h => absurd h (Nat.not_lt_zero q)))
        have c_z : CI wr (xs 1) 0 2 := hA.fa 1 (by rfl)
        clear hA
        refine ⟨(by rfl), fun K hK => ?_⟩
        go_simp
        refine (qof_any c_z.gi (by omega)).mono ?_
        rintro e wq ⟨v, rfl, c, hb⟩
        exact hK.out _ _ c hb
      refine Rely.Chain.call (fun _ v w => CQ w v (A + ((0 : Int) : Rat)) 41) (fun _ _ _ _ h hb => h.below hb) (fun _ _ _ _ _ h hp => h.keeps hp.keeps) (by rfl) (fun T xs wr hA => ?_) ?_
      · have e24 := hA.tm 0 24 (by rfl) (by rfl)
        have f24 : xs 0 = _ := hA.fa 0 (by rfl)
        (try simp (disch := first | rfl | decide) only [Rely.mask_in] at f24)
        rw [f24] at e24
        clear f24
        have e26 := hA.tm 2 26 (by rfl) (by rfl)
        have hkp := undrewK hA.kp
        have hbw := undrew (hA.be _ (Nat.le_refl _) (fun q h => absurd h (Nat.not_lt_zero q)))
        have g0 := g0.keeps hkp
        have c_o : CQ wr (xs 2) ((0 : Int) : Rat) 3 := hA.fa 2 (by rfl)
        clear hA
        refine ⟨(by rfl), fun K hK => ?_⟩
        go_simp
        refine (hadd_any g0 c_o.hq (by omega) (by omega)).mono ?_
        rintro e wq ⟨v, rfl, c, hb⟩
        exact hK.out _ _ c hb
      refine Rely.Chain.alloc ?_ ?_ (by rfl) (fun Ts xs wr hA => ?_) ?_ ?_
      rotate_left 2
      · clear hA
        refine ⟨(by rfl), fun K hK => ?_⟩
        go_simp
        exact hK.out
      · rfl
      refine Rely.Chain.store 4 3 27 3 (by rfl) (by rfl) (by decide) (by rfl) rfl (fun T xs wr g c hA hx hB hn hi => ?_) ?_
      · have e5 := hA.tm 4 5 (by rfl) (by rfl)
        rw [hx] at e5
        have e27 := hA.tm 3 27 (by rfl) (by rfl)
        have hc : CQ wr (xs 3) (A + ((0 : Int) : Rat)) 41 := hA.fa 3 (by rfl)
        obtain ⟨b_h, o_h, l_h, k_h, p_h, m_h, u_h, hv⟩ := hc.shape
        clear hc
        rw [hv] at e27
        obtain ⟨c0, c1, c2, rfl⟩ := three_of hn
        have z0 := cell_at hB 0 rfl
        have z1 := cell_at hB 1 rfl
        have z2 := cell_at hB 2 rfl
        have fz0 := froz_at hB 0
        have fz1 := froz_at hB 1
        have fz2 := froz_at hB 2
        clear hA hn
        refine ⟨(by rfl), fun K hK => ?_⟩
        go_simp
        exact hK.out _ _ hv (hset3 hB _ _ _) (priv3 hB hi (by rfl))
      refine Rely.Chain.done (fun xs wx4 hL => ?_)
      obtain ⟨⟨hbe, hbl, hkp0⟩, hf, hp, hn⟩ := hL
      have f0 : xs 0 = _ := hf 0 (by decide)
      (try simp (disch := first | rfl | decide) only [Rely.mask_in] at f0)
      have c_z : CI wx4 (xs 1) 0 2 := hf 1 (by decide)
      have c_o : CQ wx4 (xs 2) ((0 : Int) : Rat) 3 := hf 2 (by decide)
      have c_bb : CQ wx4 (xs 3) (A + ((0 : Int) : Rat)) 41 := hf 3 (by decide)
      obtain ⟨g_bb, cc, f4, hv, hB_bb⟩ := hf 5 (by decide)
      change xs 4 = _ at f4
      change xs 3 = _ at hv
      obtain ⟨b_bb, o_bb, l_bb, k_bb, p_bb, m_bb, u_bb, hs_bb⟩ := c_bb.shape
      rw [hs_bb] at hv
      injection hv with hv
      subst hv
      have hg_bb : wx3.heap.size ≤ g_bb := by obtain ⟨g, h1, h2, -⟩ := hp 4 (by rfl) (by decide); rw [f4] at h1; injection h1 with h1; injection h1 with h1; injection h1 with h1; subst h1; exact h2
      clear hf hp hn
      refine Rely.rest_done ?_
      rw [hs_bb] at c_bb
      simp only [Rely.fill, List.setIfInBounds_toArray, List.set_cons_zero, List.set_cons_succ, f0, f4, hs_bb]
      clear f0 f4 hs_bb
      generalize xs 1 = v_z at c_z ⊢
      generalize xs 2 = v_o at c_o ⊢
      clear xs
      obtain ⟨b_z, o_z, l_z, k_z, rfl⟩ := c_z.shape
      obtain ⟨b_o, o_o, l_o, k_o, p_o, m_o, u_o, rfl⟩ := c_o.shape
      have hbx := undrew (hbe _ (Nat.le_refl _) (fun q h => absurd h (Nat.not_lt_zero q)))
      clear hbe hbl hkp0
      replace g0 := g0.below hbx
      replace z1 := z1.below hbx
      replace hbt := hbt.trans (hbx.mono hbt.size)
      replace HB_x0 := Lib.hid ((hbx.block _ (lt_of_block HB_x0.out)).trans HB_x0.out)
      replace HB_x1 := Lib.hid ((hbx.block _ (lt_of_block HB_x1.out)).trans HB_x1.out)
      clear hbx
      replace x00 := cell_at (v := .bool b0) HB_x0.out 0 rfl
      replace x01 := cell_at (v := .slice o0 n0 m0) HB_x0.out 1 rfl
      replace x02 := cell_at (v := .slice p0 l0 e0) HB_x0.out 2 rfl
      replace x10 := cell_at (v := .bool b1) HB_x1.out 0 rfl
      replace x11 := cell_at (v := .slice o1 n1 m1) HB_x1.out 1 rfl
      have HB_bb := Lib.hid hB_bb
      clear hB_bb
      have bb0 := cell_at (v := .bool b_bb) HB_bb.out 0 rfl
      have bb1 := cell_at (v := .slice o_bb l_bb k_bb) HB_bb.out 1 rfl
      have bb2 := cell_at (v := .slice p_bb m_bb u_bb) HB_bb.out 2 rfl
      clear hlt_x0 hlt_x1
      rw [HX.out] at c_bb
      have nb := c_bb.num
      have db := c_bb.den
      go_wp2_with fail
      have hlt_x0 := lt_of_block HB_x0.out
      have hlt_x1 := lt_of_block HB_x1.out
      have hlt_bb := lt_of_block HB_bb.out
      have hla_x0_wx4 : w.heap.size < wx4.heap.size := hlt_x0
      have hla_x1_wx4 : w.heap.size + 1 < wx4.heap.size := hlt_x1
      have hla_bb_wx4 : g_bb < wx4.heap.size := hlt_bb
      refine Rely.region (by kernel_rfl) [[], [0], [], [2], [2, 3], [0, 1, 2, 3, 4], [0, 1, 2, 3, 4, 5], [0, 1, 2, 3, 4, 5, 6], [0, 1, 2, 3, 4, 5, 6], [], [0, 1, 2, 3, 4, 5, 6, 7, 9], [0, 1, 2, 3, 4, 5, 6, 7, 8, 9, 10]] [9] [(10, 9)] (fun q => [].getD q 0) 0 12 (by kernel_rfl) (by kernel_rfl) (fun q h => absurd h (Nat.not_lt_zero q)) (fun q _ h => absurd h (Nat.not_lt_zero q)) ?_
      refine Rely.Chain.det ?_ (by rfl) (fun T xs wr hA => ?_) ?_
      rotate_left 1
      · have e5 := hA.pre 5 (by kernel_rfl)
        simp only [List.getElem?_toArray, List.getElem?_cons_succ, List.getElem?_cons_zero] at e5
        clear hA
        refine ⟨(by rfl), ?_⟩
        go_simp <;> (try with_reducible rfl)
      refine Rely.Chain.det ?_ (by rfl) (fun T xs wr hA => ?_) ?_
      rotate_left 1
      · have e29 := hA.tm 0 29 (by rfl) (by rfl)
        have f29 : xs 0 = _ := hA.fa 0 (by rfl)
        (try simp (disch := first | rfl | decide) only [Rely.mask_in] at f29)
        rw [f29] at e29
        clear f29
        have hBq : wr.heap[g_bb]? = _ := (hA.bl _ hlt_bb (fun q h => absurd h (Nat.not_lt_zero q))).trans HB_bb.out
        have q0 := cell_at (v := .bool b_bb) hBq 0 rfl
        have q1 := cell_at (v := .slice o_bb l_bb k_bb) hBq 1 rfl
        have q2 := cell_at (v := .slice p_bb m_bb u_bb) hBq 2 rfl
        clear hBq
        clear hA
        refine ⟨(by rfl), ?_⟩
        go_simp <;> (try with_reducible rfl)
      refine Rely.Chain.det ?_ (by rfl) (fun T xs wr hA => ?_) ?_
      rotate_left 1
      · have e5 := hA.pre 5 (by kernel_rfl)
        simp only [List.getElem?_toArray, List.getElem?_cons_succ, List.getElem?_cons_zero] at e5
        clear hA
        refine ⟨(by rfl), ?_⟩
        go_simp <;> (try with_reducible rfl)
      refine Rely.Chain.det ?_ (by rfl) (fun T xs wr hA => ?_) ?_
      rotate_left 1
      · have e31 := hA.tm 2 31 (by rfl) (by rfl)
        have f31 : xs 2 = _ := hA.fa 2 (by rfl)
        (try simp (disch := first | rfl | decide) only [Rely.mask_in] at f31)
        rw [f31] at e31
        clear f31
        have hBq : wr.heap[g_bb]? = _ := (hA.bl _ hlt_bb (fun q h => absurd h (Nat.not_lt_zero q))).trans HB_bb.out
        have q0 := cell_at (v := .bool b_bb) hBq 0 rfl
        have q1 := cell_at (v := .slice o_bb l_bb k_bb) hBq 1 rfl
        have q2 := cell_at (v := .slice p_bb m_bb u_bb) hBq 2 rfl
        clear hBq
        clear hA
        refine ⟨(by rfl), ?_⟩
        go_simp <;> (try with_reducible rfl)
      refine Rely.Chain.call (fun _ v w => CI w v (A.den : Int) 41) (fun _ _ _ _ h hb => h.below hb) (fun _ _ _ _ _ h hp => h.keeps hp.keeps) (by rfl) (fun T xs wr hA => ?_) ?_
      · have e32 := hA.tm 3 32 (by rfl) (by rfl)
        have f32 : xs 3 = _ := hA.fa 3 (by rfl)
        (try simp (disch := first | rfl | decide) only [Rely.mask_in] at f32)
        rw [f32] at e32
        clear f32
        have hkp := undrewK hA.kp
        have hbw := undrew (hA.be _ (Nat.le_refl _) (fun q h => absurd h (Nat.not_lt_zero q)))
        have db := db.keeps hkp
        clear hA
        refine ⟨(by rfl), fun K hK => ?_⟩
        go_simp
        refine (big_any false _ A.den 41 _ db (by omega)).mono ?_
        rintro e wq ⟨v, rfl, c, hb⟩
        exact hK.out _ _ c hb
      refine Rely.Chain.call (fun _ v w => FV w v A 83) (fun _ _ _ _ h hb => h.below hb) (fun _ _ _ _ _ h hp => h.keeps hp.keeps) (by rfl) (fun T xs wr hA => ?_) ?_
      · have e30 := hA.tm 1 30 (by rfl) (by rfl)
        have f30 : xs 1 = _ := hA.fa 1 (by rfl)
        (try simp (disch := first | rfl | decide) only [Rely.mask_in] at f30)
        rw [f30] at e30
        clear f30
        have e33 := hA.tm 4 33 (by rfl) (by rfl)
        have hkp := undrewK hA.kp
        have hbw := undrew (hA.be _ (Nat.le_refl _) (fun q h => absurd h (Nat.not_lt_zero q)))
        have nb := nb.keeps hkp
        have c_kk : CI wr (xs 4) (A.den : Int) 41 := hA.fa 4 (by rfl)
        clear hA
        refine ⟨(by rfl), fun K hK => ?_⟩
        go_simp
        refine (qfrac_fv nb c_kk.gi HD.out (by omega) (by omega) HP.out).mono ?_
        rintro e wq ⟨v, rfl, c, hb⟩
        exact hK.out _ _ c hb
      refine Rely.Chain.det ?_ (by rfl) (fun T xs wr hA => ?_) ?_
      rotate_left 1
      · have e34 := hA.tm 5 34 (by rfl) (by rfl)
        clear hA
        refine ⟨(by rfl), ?_⟩
        go_simp <;> (try with_reducible rfl)
      refine Rely.Chain.call (fun _ v w => CQ w v A 83) (fun _ _ _ _ h hb => h.below hb) (fun _ _ _ _ _ h hp => h.keeps hp.keeps) (by rfl) (fun T xs wr hA => ?_) ?_
      · have e28 := hA.tm 6 28 (by rfl) (by rfl)
        have f28 : xs 6 = _ := hA.fa 6 (by rfl)
        (try simp (disch := first | rfl | decide) only [Rely.mask_in] at f28)
        rw [f28] at e28
        clear f28
        have hc : FV wr (xs 5) A 83 := hA.fa 5 (by rfl)
        obtain ⟨vr, hv, cr⟩ := hc
        rw [hv] at e28
        clear hA
        refine ⟨(by rfl), fun K hK => ?_⟩
        go_simp
        exact hK.out _ _ cr (Below.refl _ _)
      refine Rely.Chain.call (fun _ v _ => v = .bool true) (fun _ _ _ _ h _ => h) (fun _ _ _ _ _ h _ => h) (by rfl) (fun T xs wr hA => ?_) ?_
      · have e28 := hA.tm 6 28 (by rfl) (by rfl)
        have f28 : xs 6 = _ := hA.fa 6 (by rfl)
        (try simp (disch := first | rfl | decide) only [Rely.mask_in] at f28)
        rw [f28] at e28
        clear f28
        have hc : FV wr (xs 5) A 83 := hA.fa 5 (by rfl)
        obtain ⟨vr, hv, cr⟩ := hc
        rw [hv] at e28
        clear hA
        refine ⟨(by rfl), fun K hK => ?_⟩
        go_simp
        exact hK.out _ _ rfl (Below.refl _ _)
      refine Rely.Chain.alloc ?_ ?_ (by rfl) (fun Ts xs wr hA => ?_) ?_ ?_
      rotate_left 2
      · clear hA
        refine ⟨(by rfl), fun K hK => ?_⟩
        go_simp
        exact hK.out
      · rfl
      refine Rely.Chain.store 9 7 27 3 (by rfl) (by rfl) (by decide) (by rfl) rfl (fun T xs wr g c hA hx hB hn hi => ?_) ?_
      · have e6 := hA.tm 9 6 (by rfl) (by rfl)
        rw [hx] at e6
        have e35 := hA.tm 7 35 (by rfl) (by rfl)
        have hc : CQ wr (xs 7) A 83 := hA.fa 7 (by rfl)
        obtain ⟨b_h, o_h, l_h, k_h, p_h, m_h, u_h, hv⟩ := hc.shape
        clear hc
        rw [hv] at e35
        obtain ⟨c0, c1, c2, rfl⟩ := three_of hn
        have z0 := cell_at hB 0 rfl
        have z1 := cell_at hB 1 rfl
        have z2 := cell_at hB 2 rfl
        have fz0 := froz_at hB 0
        have fz1 := froz_at hB 1
        have fz2 := froz_at hB 2
        clear hA hn
        refine ⟨(by rfl), fun K hK => ?_⟩
        go_simp
        exact hK.out _ _ hv (hset3 hB _ _ _) (priv3 hB hi (by rfl))
      refine Rely.Chain.det ?_ (by rfl) (fun T xs wr hA => ?_) ?_
      rotate_left 1
      · have e36 := hA.tm 8 36 (by rfl) (by rfl)
        have f36 : xs 8 = (.bool true) := hA.fa 8 (by rfl)
        rw [f36] at e36
        clear f36
        clear hA
        refine ⟨(by rfl), ?_⟩
        go_simp <;> (try with_reducible rfl)
      refine Rely.Chain.done (fun xs wx5 hL => ?_)
      obtain ⟨⟨hbe, hbl, hkp0⟩, hf, hp, hn⟩ := hL
      have f0 : xs 0 = _ := hf 0 (by decide)
      (try simp (disch := first | rfl | decide) only [Rely.mask_in] at f0)
      have f1 : xs 1 = _ := hf 1 (by decide)
      (try simp (disch := first | rfl | decide) only [Rely.mask_in] at f1)
      have f2 : xs 2 = _ := hf 2 (by decide)
      (try simp (disch := first | rfl | decide) only [Rely.mask_in] at f2)
      have f3 : xs 3 = _ := hf 3 (by decide)
      (try simp (disch := first | rfl | decide) only [Rely.mask_in] at f3)
      have c_kk : CI wx5 (xs 4) (A.den : Int) 41 := hf 4 (by decide)
      have c_ff : FV wx5 (xs 5) A 83 := hf 5 (by decide)
      have f6 : xs 6 = _ := hf 6 (by decide)
      (try simp (disch := first | rfl | decide) only [Rely.mask_in] at f6)
      have c_cc : CQ wx5 (xs 7) A 83 := hf 7 (by decide)
      have f8 : xs 8 = (.bool true) := hf 8 (by decide)
      obtain ⟨g_cc, cc, f9, hv, hB_cc⟩ := hf 10 (by decide)
      change xs 9 = _ at f9
      change xs 7 = _ at hv
      obtain ⟨b_cc, o_cc, l_cc, k_cc, p_cc, m_cc, u_cc, hs_cc⟩ := c_cc.shape
      rw [hs_cc] at hv
      injection hv with hv
      subst hv
      have hg_cc : wx4.heap.size ≤ g_cc := by obtain ⟨g, h1, h2, -⟩ := hp 9 (by rfl) (by decide); rw [f9] at h1; injection h1 with h1; injection h1 with h1; injection h1 with h1; subst h1; exact h2
      have f11 : xs 11 = _ := hf 11 (by decide)
      (try simp (disch := first | rfl | decide) only [Rely.mask_in] at f11)
      clear hf hp hn
      refine Rely.rest_done ?_
      rw [hs_cc] at c_cc
      simp only [Rely.fill, List.setIfInBounds_toArray, List.set_cons_zero, List.set_cons_succ, f0, f1, f2, f3, f6, f8, f9, f11, hs_cc]
      clear f0 f1 f2 f3 f6 f8 f9 f11 hs_cc
      generalize xs 4 = v_kk at c_kk ⊢
      generalize xs 5 = v_ff at c_ff ⊢
      clear xs
      obtain ⟨b_kk, o_kk, l_kk, k_kk, rfl⟩ := c_kk.shape
      have hbx := undrew (hbe _ (Nat.le_refl _) (fun q h => absurd h (Nat.not_lt_zero q)))
      clear hbe hbl hkp0
      replace g0 := g0.below hbx
      replace z1 := z1.below hbx
      replace c_z := c_z.below hbx
      replace c_o := c_o.below hbx
      replace c_bb := c_bb.below hbx
      replace nb := nb.below hbx
      replace db := db.below hbx
      replace hbt := hbt.trans (hbx.mono hbt.size)
      replace HB_x0 := Lib.hid ((hbx.block _ (lt_of_block HB_x0.out)).trans HB_x0.out)
      replace HB_x1 := Lib.hid ((hbx.block _ (lt_of_block HB_x1.out)).trans HB_x1.out)
      replace HB_bb := Lib.hid ((hbx.block _ (lt_of_block HB_bb.out)).trans HB_bb.out)
      clear hbx
      replace x00 := cell_at (v := .bool b0) HB_x0.out 0 rfl
      replace x01 := cell_at (v := .slice o0 n0 m0) HB_x0.out 1 rfl
      replace x02 := cell_at (v := .slice p0 l0 e0) HB_x0.out 2 rfl
      replace x10 := cell_at (v := .bool b1) HB_x1.out 0 rfl
      replace x11 := cell_at (v := .slice o1 n1 m1) HB_x1.out 1 rfl
      replace bb0 := cell_at (v := .bool b_bb) HB_bb.out 0 rfl
      replace bb1 := cell_at (v := .slice o_bb l_bb k_bb) HB_bb.out 1 rfl
      replace bb2 := cell_at (v := .slice p_bb m_bb u_bb) HB_bb.out 2 rfl
      have HB_cc := Lib.hid hB_cc
      clear hB_cc
      have cc0 := cell_at (v := .bool b_cc) HB_cc.out 0 rfl
      have cc1 := cell_at (v := .slice o_cc l_cc k_cc) HB_cc.out 1 rfl
      have cc2 := cell_at (v := .slice p_cc m_cc u_cc) HB_cc.out 2 rfl
      clear hlt_x0 hlt_x1
      go_wp2_with fail
      refine (qof_any z1 (by omega)).mono ?_
      rintro e wx6 ⟨v_y, rfl, c_y, hbx⟩
      replace g0 := g0.below hbx
      replace z1 := z1.below hbx
      replace c_z := c_z.below hbx
      replace c_o := c_o.below hbx
      replace c_bb := c_bb.below hbx
      replace nb := nb.below hbx
      replace db := db.below hbx
      replace c_kk := c_kk.below hbx
      replace c_ff := c_ff.below hbx
      replace c_cc := c_cc.below hbx
      replace hbt := hbt.trans (hbx.mono hbt.size)
      replace HB_x0 := Lib.hid ((hbx.block _ (lt_of_block HB_x0.out)).trans HB_x0.out)
      replace HB_x1 := Lib.hid ((hbx.block _ (lt_of_block HB_x1.out)).trans HB_x1.out)
      replace HB_bb := Lib.hid ((hbx.block _ (lt_of_block HB_bb.out)).trans HB_bb.out)
      replace HB_cc := Lib.hid ((hbx.block _ (lt_of_block HB_cc.out)).trans HB_cc.out)
      clear hbx
      replace x00 := cell_at (v := .bool b0) HB_x0.out 0 rfl
      replace x01 := cell_at (v := .slice o0 n0 m0) HB_x0.out 1 rfl
      replace x02 := cell_at (v := .slice p0 l0 e0) HB_x0.out 2 rfl
      replace x10 := cell_at (v := .bool b1) HB_x1.out 0 rfl
      replace x11 := cell_at (v := .slice o1 n1 m1) HB_x1.out 1 rfl
      replace bb0 := cell_at (v := .bool b_bb) HB_bb.out 0 rfl
      replace bb1 := cell_at (v := .slice o_bb l_bb k_bb) HB_bb.out 1 rfl
      replace bb2 := cell_at (v := .slice p_bb m_bb u_bb) HB_bb.out 2 rfl
      replace cc0 := cell_at (v := .bool b_cc) HB_cc.out 0 rfl
      replace cc1 := cell_at (v := .slice o_cc l_cc k_cc) HB_cc.out 1 rfl
      replace cc2 := cell_at (v := .slice p_cc m_cc u_cc) HB_cc.out 2 rfl
      obtain ⟨b_y, o_y, l_y, k_y, p_y, m_y, u_y, rfl⟩ := c_y.shape
      go_wp2_with fail
      refine (whole_yes c_y (by omega) rfl).mono ?_
      rintro e wx7 ⟨v_ww, rfl, c_ww, hbx⟩
      replace g0 := g0.below hbx
      replace z1 := z1.below hbx
      replace c_z := c_z.below hbx
      replace c_o := c_o.below hbx
      replace c_bb := c_bb.below hbx
      replace nb := nb.below hbx
      replace db := db.below hbx
      replace c_kk := c_kk.below hbx
      replace c_ff := c_ff.below hbx
      replace c_cc := c_cc.below hbx
      replace c_y := c_y.below hbx
      replace hbt := hbt.trans (hbx.mono hbt.size)
      replace HB_x0 := Lib.hid ((hbx.block _ (lt_of_block HB_x0.out)).trans HB_x0.out)
      replace HB_x1 := Lib.hid ((hbx.block _ (lt_of_block HB_x1.out)).trans HB_x1.out)
      replace HB_bb := Lib.hid ((hbx.block _ (lt_of_block HB_bb.out)).trans HB_bb.out)
      replace HB_cc := Lib.hid ((hbx.block _ (lt_of_block HB_cc.out)).trans HB_cc.out)
      clear hbx
      replace x00 := cell_at (v := .bool b0) HB_x0.out 0 rfl
      replace x01 := cell_at (v := .slice o0 n0 m0) HB_x0.out 1 rfl
      replace x02 := cell_at (v := .slice p0 l0 e0) HB_x0.out 2 rfl
      replace x10 := cell_at (v := .bool b1) HB_x1.out 0 rfl
      replace x11 := cell_at (v := .slice o1 n1 m1) HB_x1.out 1 rfl
      replace bb0 := cell_at (v := .bool b_bb) HB_bb.out 0 rfl
      replace bb1 := cell_at (v := .slice o_bb l_bb k_bb) HB_bb.out 1 rfl
      replace bb2 := cell_at (v := .slice p_bb m_bb u_bb) HB_bb.out 2 rfl
      replace cc0 := cell_at (v := .bool b_cc) HB_cc.out 0 rfl
      replace cc1 := cell_at (v := .slice o_cc l_cc k_cc) HB_cc.out 1 rfl
      replace cc2 := cell_at (v := .slice p_cc m_cc u_cc) HB_cc.out 2 rfl
      obtain ⟨b_ww, o_ww, l_ww, k_ww, rfl⟩ := c_ww.shape
      rw [Rat.num_intCast] at c_ww
      have hlt_x0 := lt_of_block HB_x0.out
      have hlt_x1 := lt_of_block HB_x1.out
      have hlt_bb := lt_of_block HB_bb.out
      have hlt_cc := lt_of_block HB_cc.out
      go_wp2_with fail
      have hla_x0_wx7 : w.heap.size < wx7.heap.size := hlt_x0
      have hla_x1_wx7 : w.heap.size + 1 < wx7.heap.size := hlt_x1
      have hla_bb_wx7 : g_bb < wx7.heap.size := hlt_bb
      have hla_cc_wx7 : g_cc < wx7.heap.size := hlt_cc
      clear hlt_x0 hlt_x1 hlt_bb hlt_cc
      have hbx : Below wx7.heap.size wx7 (wx7.alloc (.cells #[.bool b_ww, .slice o_ww l_ww k_ww] 25)) := ((Below.refl _ _).alloc (by simp) _)
      replace g0 := g0.below hbx
      replace z1 := z1.below hbx
      replace c_z := c_z.below hbx
      replace c_o := c_o.below hbx
      replace c_bb := c_bb.below hbx
      replace nb := nb.below hbx
      replace db := db.below hbx
      replace c_kk := c_kk.below hbx
      replace c_ff := c_ff.below hbx
      replace c_cc := c_cc.below hbx
      replace c_y := c_y.below hbx
      replace c_ww := c_ww.below hbx
      replace hbt := hbt.trans (hbx.mono hbt.size)
      replace HB_x0 := Lib.hid ((hbx.block _ (lt_of_block HB_x0.out)).trans HB_x0.out)
      replace HB_x1 := Lib.hid ((hbx.block _ (lt_of_block HB_x1.out)).trans HB_x1.out)
      replace HB_bb := Lib.hid ((hbx.block _ (lt_of_block HB_bb.out)).trans HB_bb.out)
      replace HB_cc := Lib.hid ((hbx.block _ (lt_of_block HB_cc.out)).trans HB_cc.out)
      clear hbx
      replace x00 := cell_at (v := .bool b0) HB_x0.out 0 rfl
      replace x01 := cell_at (v := .slice o0 n0 m0) HB_x0.out 1 rfl
      replace x02 := cell_at (v := .slice p0 l0 e0) HB_x0.out 2 rfl
      replace x10 := cell_at (v := .bool b1) HB_x1.out 0 rfl
      replace x11 := cell_at (v := .slice o1 n1 m1) HB_x1.out 1 rfl
      replace bb0 := cell_at (v := .bool b_bb) HB_bb.out 0 rfl
      replace bb1 := cell_at (v := .slice o_bb l_bb k_bb) HB_bb.out 1 rfl
      replace bb2 := cell_at (v := .slice p_bb m_bb u_bb) HB_bb.out 2 rfl
      replace cc0 := cell_at (v := .bool b_cc) HB_cc.out 0 rfl
      replace cc1 := cell_at (v := .slice o_cc l_cc k_cc) HB_cc.out 1 rfl
      replace cc2 := cell_at (v := .slice p_cc m_cc u_cc) HB_cc.out 2 rfl
      have HB_ww : Hid ((wx7.alloc (.cells #[.bool b_ww, .slice o_ww l_ww k_ww] 25)).heap[wx7.heap.size]? = some (.cells #[.bool b_ww, .slice o_ww l_ww k_ww] 25 (0, 0))) := Lib.hid (made_at wx7 (.cells #[.bool b_ww, .slice o_ww l_ww k_ww] 25) _ (by first | rfl | simp))
      generalize (wx7.alloc (.cells #[.bool b_ww, .slice o_ww l_ww k_ww] 25)) = wx8 at *
      have ww0 := cell_at (v := .bool b_ww) HB_ww.out 0 rfl
      have ww1 := cell_at (v := .slice o_ww l_ww k_ww) HB_ww.out 1 rfl
      by_cases hA : A.den = 1
      · have hz : (cmpN A.den 1 == 0) = true := by rw [beq_iff_eq]; exact (cmp_1 A.den_pos).2 hA
        refine (whole_yes c_bb (by omega) hA).mono ?_
        rintro e wx9 ⟨v_oo, rfl, c_oo, hbx⟩
        replace g0 := g0.below hbx
        replace z1 := z1.below hbx
        replace c_z := c_z.below hbx
        replace c_o := c_o.below hbx
        replace c_bb := c_bb.below hbx
        replace nb := nb.below hbx
        replace db := db.below hbx
        replace c_kk := c_kk.below hbx
        replace c_ff := c_ff.below hbx
        replace c_cc := c_cc.below hbx
        replace c_y := c_y.below hbx
        replace c_ww := c_ww.below hbx
        replace hbt := hbt.trans (hbx.mono hbt.size)
        replace HB_x0 := Lib.hid ((hbx.block _ (lt_of_block HB_x0.out)).trans HB_x0.out)
        replace HB_x1 := Lib.hid ((hbx.block _ (lt_of_block HB_x1.out)).trans HB_x1.out)
        replace HB_bb := Lib.hid ((hbx.block _ (lt_of_block HB_bb.out)).trans HB_bb.out)
        replace HB_cc := Lib.hid ((hbx.block _ (lt_of_block HB_cc.out)).trans HB_cc.out)
        replace HB_ww := Lib.hid ((hbx.block _ (lt_of_block HB_ww.out)).trans HB_ww.out)
        clear hbx
        replace x00 := cell_at (v := .bool b0) HB_x0.out 0 rfl
        replace x01 := cell_at (v := .slice o0 n0 m0) HB_x0.out 1 rfl
        replace x02 := cell_at (v := .slice p0 l0 e0) HB_x0.out 2 rfl
        replace x10 := cell_at (v := .bool b1) HB_x1.out 0 rfl
        replace x11 := cell_at (v := .slice o1 n1 m1) HB_x1.out 1 rfl
        replace bb0 := cell_at (v := .bool b_bb) HB_bb.out 0 rfl
        replace bb1 := cell_at (v := .slice o_bb l_bb k_bb) HB_bb.out 1 rfl
        replace bb2 := cell_at (v := .slice p_bb m_bb u_bb) HB_bb.out 2 rfl
        replace cc0 := cell_at (v := .bool b_cc) HB_cc.out 0 rfl
        replace cc1 := cell_at (v := .slice o_cc l_cc k_cc) HB_cc.out 1 rfl
        replace cc2 := cell_at (v := .slice p_cc m_cc u_cc) HB_cc.out 2 rfl
        replace ww0 := cell_at (v := .bool b_ww) HB_ww.out 0 rfl
        replace ww1 := cell_at (v := .slice o_ww l_ww k_ww) HB_ww.out 1 rfl
        obtain ⟨b_oo, o_oo, l_oo, k_oo, rfl⟩ := c_oo.shape
        clear hA
        have hlt_x0 := lt_of_block HB_x0.out
        have hlt_x1 := lt_of_block HB_x1.out
        have hlt_bb := lt_of_block HB_bb.out
        have hlt_cc := lt_of_block HB_cc.out
        have hlt_ww := lt_of_block HB_ww.out
        go_wp2_with fail
        have hla_x0_wx9 : w.heap.size < wx9.heap.size := hlt_x0
        have hla_x1_wx9 : w.heap.size + 1 < wx9.heap.size := hlt_x1
        have hla_bb_wx9 : g_bb < wx9.heap.size := hlt_bb
        have hla_cc_wx9 : g_cc < wx9.heap.size := hlt_cc
        have hla_ww_wx9 : wx7.heap.size < wx9.heap.size := hlt_ww
        clear hlt_x0 hlt_x1 hlt_bb hlt_cc hlt_ww
        have hbx : Below wx9.heap.size wx9 (wx9.alloc (.cells #[.bool b_oo, .slice o_oo l_oo k_oo] 25)) := ((Below.refl _ _).alloc (by simp) _)
        replace g0 := g0.below hbx
        replace z1 := z1.below hbx
        replace c_z := c_z.below hbx
        replace c_o := c_o.below hbx
        replace c_bb := c_bb.below hbx
        replace nb := nb.below hbx
        replace db := db.below hbx
        replace c_kk := c_kk.below hbx
        replace c_ff := c_ff.below hbx
        replace c_cc := c_cc.below hbx
        replace c_y := c_y.below hbx
        replace c_ww := c_ww.below hbx
        replace c_oo := c_oo.below hbx
        replace hbt := hbt.trans (hbx.mono hbt.size)
        replace HB_x0 := Lib.hid ((hbx.block _ (lt_of_block HB_x0.out)).trans HB_x0.out)
        replace HB_x1 := Lib.hid ((hbx.block _ (lt_of_block HB_x1.out)).trans HB_x1.out)
        replace HB_bb := Lib.hid ((hbx.block _ (lt_of_block HB_bb.out)).trans HB_bb.out)
        replace HB_cc := Lib.hid ((hbx.block _ (lt_of_block HB_cc.out)).trans HB_cc.out)
        replace HB_ww := Lib.hid ((hbx.block _ (lt_of_block HB_ww.out)).trans HB_ww.out)
        clear hbx
        replace x00 := cell_at (v := .bool b0) HB_x0.out 0 rfl
        replace x01 := cell_at (v := .slice o0 n0 m0) HB_x0.out 1 rfl
        replace x02 := cell_at (v := .slice p0 l0 e0) HB_x0.out 2 rfl
        replace x10 := cell_at (v := .bool b1) HB_x1.out 0 rfl
        replace x11 := cell_at (v := .slice o1 n1 m1) HB_x1.out 1 rfl
        replace bb0 := cell_at (v := .bool b_bb) HB_bb.out 0 rfl
        replace bb1 := cell_at (v := .slice o_bb l_bb k_bb) HB_bb.out 1 rfl
        replace bb2 := cell_at (v := .slice p_bb m_bb u_bb) HB_bb.out 2 rfl
        replace cc0 := cell_at (v := .bool b_cc) HB_cc.out 0 rfl
        replace cc1 := cell_at (v := .slice o_cc l_cc k_cc) HB_cc.out 1 rfl
        replace cc2 := cell_at (v := .slice p_cc m_cc u_cc) HB_cc.out 2 rfl
        replace ww0 := cell_at (v := .bool b_ww) HB_ww.out 0 rfl
        replace ww1 := cell_at (v := .slice o_ww l_ww k_ww) HB_ww.out 1 rfl
        have HB_oo : Hid ((wx9.alloc (.cells #[.bool b_oo, .slice o_oo l_oo k_oo] 25)).heap[wx9.heap.size]? = some (.cells #[.bool b_oo, .slice o_oo l_oo k_oo] 25 (0, 0))) := Lib.hid (made_at wx9 (.cells #[.bool b_oo, .slice o_oo l_oo k_oo] 25) _ (by first | rfl | simp))
        generalize (wx9.alloc (.cells #[.bool b_oo, .slice o_oo l_oo k_oo] 25)) = wx10 at *
        have oo0 := cell_at (v := .bool b_oo) HB_oo.out 0 rfl
        have oo1 := cell_at (v := .slice o_oo l_oo k_oo) HB_oo.out 1 rfl
        have hlt_x0 := lt_of_block HB_x0.out
        have hlt_x1 := lt_of_block HB_x1.out
        have hlt_bb := lt_of_block HB_bb.out
        have hlt_cc := lt_of_block HB_cc.out
        have hlt_ww := lt_of_block HB_ww.out
        have hlt_oo := lt_of_block HB_oo.out
        refine Rely.region (by kernel_rfl) [[], [0], [0, 1], [0, 1], [0, 1, 2, 3], [0, 1, 2, 3, 4], [0, 1, 2, 3, 4, 5], [0, 1, 2, 3, 4, 5, 6], [0, 1, 2, 3, 4, 5, 6, 7], [0, 1, 2, 3, 4, 5, 6, 7, 8], [0, 1, 2, 3, 4, 5, 6, 7, 8, 9], [0, 1, 2, 3, 4, 5, 6, 7, 8, 9], [0, 1, 2, 3, 4, 5, 6, 7, 8, 9, 10, 11], [0, 1, 2, 3, 4, 5, 6, 7, 8, 9, 10, 11, 12], [0, 1, 2, 3, 4, 5, 6, 7, 8, 9, 10, 11, 12, 13], [0, 1, 2, 3, 4, 5, 6, 7, 8, 9, 10, 11, 12, 13, 14], [0, 1, 2, 3, 4, 5, 6, 7, 8, 9, 10, 11, 12, 13, 14, 15], [0, 1, 2, 3, 4, 5, 6, 7, 8, 9, 10, 11, 12, 13, 14, 15], [0, 1, 2, 3, 4, 5, 6, 7, 8, 9, 10, 11, 12, 13, 14, 15, 17], [0, 1, 2, 3, 4, 5, 6, 7, 8, 9, 10, 11, 12, 13, 14, 15], [0, 1, 2, 3, 4, 5, 6, 7, 8, 9, 10, 11, 12, 13, 14, 15, 17, 18, 19], [0, 1, 2, 3, 4, 5, 6, 7, 8, 9, 10, 11, 12, 13, 14, 15, 17, 18, 19, 20], [0, 1, 2, 3, 4, 5, 6, 7, 8, 9, 10, 11, 12, 13, 14, 15, 16, 17, 18, 19, 20, 21], [0, 1, 2, 3, 4, 5, 6, 7, 8, 9, 10, 11, 12, 13, 14, 15, 16, 17, 18, 19, 20, 21, 22], [0, 1, 2, 3, 4, 5, 6, 7, 8, 9, 10, 11, 12, 13, 14, 15, 16, 17, 18, 19, 20, 21, 22, 23], [0, 1, 2, 3, 4, 5, 6, 7, 8, 9, 10, 11, 12, 13, 14, 15, 16, 17, 18, 19, 20, 21, 22, 23, 24], [0, 1, 2, 3, 4, 5, 6, 7, 8, 9, 10, 11, 12, 13, 14, 15, 16, 17, 18, 19, 20, 21, 22, 23, 24], [0, 1, 2, 3, 4, 5, 6, 7, 8, 9, 10, 11, 12, 13, 14, 15, 16, 17, 18, 19, 20, 21, 22, 23, 24, 25, 26], [0, 1, 2, 3, 4, 5, 6, 7, 8, 9, 10, 11, 12, 13, 14, 15, 16, 17, 18, 19, 20, 21, 22, 23, 24, 25, 26, 27], [0, 1, 2, 3, 4, 5, 6, 7, 8, 9, 10, 11, 12, 13, 14, 15, 16, 17, 18, 19, 20, 21, 22, 23, 24, 25, 26, 27, 28], [0, 1, 2, 3, 4, 5, 6, 7, 8, 9, 10, 11, 12, 13, 14, 15, 16, 17, 18, 19, 20, 21, 22, 23, 24, 25, 26, 27, 28, 29], [0, 1, 2, 3, 4, 5, 6, 7, 8, 9, 10, 11, 12, 13, 14, 15, 16, 17, 18, 19, 20, 21, 22, 23, 24, 25, 26, 27, 28, 29, 30]] [] [] (fun q => [].getD q 0) 0 32 (by kernel_rfl) (by kernel_rfl) (fun q h => absurd h (Nat.not_lt_zero q)) (fun q _ h => absurd h (Nat.not_lt_zero q)) ?_
        refine Rely.Chain.det ?_ (by rfl) (fun T xs wr hA => ?_) ?_
        rotate_left 1
        · have e7 := hA.pre 7 (by kernel_rfl)
          simp only [List.getElem?_toArray, List.getElem?_cons_succ, List.getElem?_cons_zero] at e7
          clear hA
          refine ⟨(by rfl), ?_⟩
          go_simp <;> (try with_reducible rfl)
        refine Rely.Chain.det ?_ (by rfl) (fun T xs wr hA => ?_) ?_
        rotate_left 1
        · have e48 := hA.tm 0 48 (by rfl) (by rfl)
          have f48 : xs 0 = _ := hA.fa 0 (by rfl)
          (try simp (disch := first | rfl | decide) only [Rely.mask_in] at f48)
          rw [f48] at e48
          clear f48
          clear hA
          refine ⟨(by rfl), ?_⟩
          go_simp <;> (try with_reducible rfl)
        refine Rely.Chain.det ?_ (by rfl) (fun T xs wr hA => ?_) ?_
        rotate_left 1
        · have e49 := hA.tm 1 49 (by rfl) (by rfl)
          have f49 : xs 1 = _ := hA.fa 1 (by rfl)
          (try simp (disch := first | rfl | decide) only [Rely.mask_in] at f49)
          rw [f49] at e49
          clear f49
          have e5 := hA.pre 5 (by kernel_rfl)
          simp only [List.getElem?_toArray, List.getElem?_cons_succ, List.getElem?_cons_zero] at e5
          have hBq : wr.heap[g_bb]? = _ := (hA.bl _ hlt_bb (fun q h => absurd h (Nat.not_lt_zero q))).trans HB_bb.out
          have q0 := cell_at (v := .bool b_bb) hBq 0 rfl
          have q1 := cell_at (v := .slice o_bb l_bb k_bb) hBq 1 rfl
          have q2 := cell_at (v := .slice p_bb m_bb u_bb) hBq 2 rfl
          clear hBq
          clear hA
          refine ⟨((Rely.wanted_at rfl (by rfl) e49).trans (by rfl)), ?_⟩
          go_simp <;> (try with_reducible rfl)
        refine Rely.Chain.det ?_ (by rfl) (fun T xs wr hA => ?_) ?_
        rotate_left 1
        · have e49 := hA.tm 1 49 (by rfl) (by rfl)
          have f49 : xs 1 = _ := hA.fa 1 (by rfl)
          (try simp (disch := first | rfl | decide) only [Rely.mask_in] at f49)
          rw [f49] at e49
          clear f49
          have e6 := hA.pre 6 (by kernel_rfl)
          simp only [List.getElem?_toArray, List.getElem?_cons_succ, List.getElem?_cons_zero] at e6
          have hBq : wr.heap[g_cc]? = _ := (hA.bl _ hlt_cc (fun q h => absurd h (Nat.not_lt_zero q))).trans HB_cc.out
          have q0 := cell_at (v := .bool b_cc) hBq 0 rfl
          have q1 := cell_at (v := .slice o_cc l_cc k_cc) hBq 1 rfl
          have q2 := cell_at (v := .slice p_cc m_cc u_cc) hBq 2 rfl
          clear hBq
          clear hA
          refine ⟨((Rely.wanted_at rfl (by rfl) e49).trans (by rfl)), ?_⟩
          go_simp <;> (try with_reducible rfl)
        refine Rely.Chain.call (fun _ v _ => v = .bool true) (fun _ _ _ _ h _ => h) (fun _ _ _ _ _ h _ => h) (by rfl) (fun T xs wr hA => ?_) ?_
        · have e49 := hA.tm 1 49 (by rfl) (by rfl)
          have f49 : xs 1 = _ := hA.fa 1 (by rfl)
          (try simp (disch := first | rfl | decide) only [Rely.mask_in] at f49)
          rw [f49] at e49
          clear f49
          have e50 := hA.tm 2 50 (by rfl) (by rfl)
          have f50 : xs 2 = _ := hA.fa 2 (by rfl)
          (try simp (disch := first | rfl | decide) only [Rely.mask_in] at f50)
          rw [f50] at e50
          clear f50
          have e51 := hA.tm 3 51 (by rfl) (by rfl)
          have f51 : xs 3 = _ := hA.fa 3 (by rfl)
          (try simp (disch := first | rfl | decide) only [Rely.mask_in] at f51)
          rw [f51] at e51
          clear f51
          have hkp := undrewK hA.kp
          have hbw := undrew (hA.be _ (Nat.le_refl _) (fun q h => absurd h (Nat.not_lt_zero q)))
          have c_bb := c_bb.keeps hkp
          have c_cc := c_cc.keeps hkp
          clear hA
          refine ⟨((Rely.wanted_at rfl (by rfl) e49).trans (by rfl)), fun K hK => ?_⟩
          clear e49
          go_simp
          refine (qsame_true c_bb c_cc (by omega) (by omega)).mono ?_
          rintro e wq ⟨rfl, hb⟩
          exact hK.out _ _ rfl hb
        refine Rely.Chain.det ?_ (by rfl) (fun T xs wr hA => ?_) ?_
        rotate_left 1
        · have e49 := hA.tm 1 49 (by rfl) (by rfl)
          have f49 : xs 1 = _ := hA.fa 1 (by rfl)
          (try simp (disch := first | rfl | decide) only [Rely.mask_in] at f49)
          rw [f49] at e49
          clear f49
          have e52 := hA.tm 4 52 (by rfl) (by rfl)
          have f52 : xs 4 = (.bool true) := hA.fa 4 (by rfl)
          rw [f52] at e52
          clear f52
          clear hA
          refine ⟨(by rfl), ?_⟩
          go_simp <;> (try with_reducible rfl)
        refine Rely.Chain.det ?_ (by rfl) (fun T xs wr hA => ?_) ?_
        rotate_left 1
        · have e53 := hA.tm 5 53 (by rfl) (by rfl)
          have f53 : xs 5 = _ := hA.fa 5 (by rfl)
          (try simp (disch := first | rfl | decide) only [Rely.mask_in] at f53)
          rw [f53] at e53
          clear f53
          clear hA
          refine ⟨(by rfl), ?_⟩
          go_simp <;> (try with_reducible rfl)
        refine Rely.Chain.det ?_ (by rfl) (fun T xs wr hA => ?_) ?_
        rotate_left 1
        · have e54 := hA.tm 6 54 (by rfl) (by rfl)
          have f54 : xs 6 = _ := hA.fa 6 (by rfl)
          (try simp (disch := first | rfl | decide) only [Rely.mask_in] at f54)
          rw [f54] at e54
          clear f54
          have e9 := hA.pre 9 (by kernel_rfl)
          simp only [List.getElem?_toArray, List.getElem?_cons_succ, List.getElem?_cons_zero] at e9
          clear hA
          refine ⟨((Rely.wanted_at rfl (by rfl) e54).trans (by rfl)), ?_⟩
          go_simp <;> (try with_reducible rfl)
        refine Rely.Chain.det ?_ (by rfl) (fun T xs wr hA => ?_) ?_
        rotate_left 1
        · have e54 := hA.tm 6 54 (by rfl) (by rfl)
          have f54 : xs 6 = _ := hA.fa 6 (by rfl)
          (try simp (disch := first | rfl | decide) only [Rely.mask_in] at f54)
          rw [f54] at e54
          clear f54
          have e55 := hA.tm 7 55 (by rfl) (by rfl)
          have f55 : xs 7 = _ := hA.fa 7 (by rfl)
          (try simp (disch := first | rfl | decide) only [Rely.mask_in] at f55)
          rw [f55] at e55
          clear f55
          clear hA
          refine ⟨(by rfl), ?_⟩
          go_simp <;> (try with_reducible rfl)
        refine Rely.Chain.det ?_ (by rfl) (fun T xs wr hA => ?_) ?_
        rotate_left 1
        · have e56 := hA.tm 8 56 (by rfl) (by rfl)
          have f56 : xs 8 = _ := hA.fa 8 (by rfl)
          (try simp (disch := first | rfl | decide) only [Rely.mask_in] at f56)
          rw [f56] at e56
          clear f56
          clear hA
          refine ⟨(by rfl), ?_⟩
          go_simp <;> (try with_reducible rfl)
        refine Rely.Chain.det ?_ (by rfl) (fun T xs wr hA => ?_) ?_
        rotate_left 1
        · have e57 := hA.tm 9 57 (by rfl) (by rfl)
          have f57 : xs 9 = _ := hA.fa 9 (by rfl)
          (try simp (disch := first | rfl | decide) only [Rely.mask_in] at f57)
          rw [f57] at e57
          clear f57
          have e8 := hA.pre 8 (by kernel_rfl)
          simp only [List.getElem?_toArray, List.getElem?_cons_succ, List.getElem?_cons_zero] at e8
          have hBq : wr.heap[wx7.heap.size]? = _ := (hA.bl _ hlt_ww (fun q h => absurd h (Nat.not_lt_zero q))).trans HB_ww.out
          have q0 := cell_at (v := .bool b_ww) hBq 0 rfl
          have q1 := cell_at (v := .slice o_ww l_ww k_ww) hBq 1 rfl
          clear hBq
          clear hA
          refine ⟨((Rely.wanted_at rfl (by rfl) e57).trans (by rfl)), ?_⟩
          go_simp <;> (try with_reducible rfl)
        refine Rely.Chain.det ?_ (by rfl) (fun T xs wr hA => ?_) ?_
        rotate_left 1
        · have e57 := hA.tm 9 57 (by rfl) (by rfl)
          have f57 : xs 9 = _ := hA.fa 9 (by rfl)
          (try simp (disch := first | rfl | decide) only [Rely.mask_in] at f57)
          rw [f57] at e57
          clear f57
          have e3 := hA.pre 3 (by kernel_rfl)
          simp only [List.getElem?_toArray, List.getElem?_cons_succ, List.getElem?_cons_zero] at e3
          have hBq : wr.heap[w.heap.size + 1]? = _ := (hA.bl _ hlt_x1 (fun q h => absurd h (Nat.not_lt_zero q))).trans HB_x1.out
          have q0 := cell_at (v := .bool b1) hBq 0 rfl
          have q1 := cell_at (v := .slice o1 n1 m1) hBq 1 rfl
          clear hBq
          clear hA
          refine ⟨((Rely.wanted_at rfl (by rfl) e57).trans (by rfl)), ?_⟩
          go_simp <;> (try with_reducible rfl)
        refine Rely.Chain.call (fun _ v _ => v = .int .i64 0) (fun _ _ _ _ h _ => h) (fun _ _ _ _ _ h _ => h) (by rfl) (fun T xs wr hA => ?_) ?_
        · have e57 := hA.tm 9 57 (by rfl) (by rfl)
          have f57 : xs 9 = _ := hA.fa 9 (by rfl)
          (try simp (disch := first | rfl | decide) only [Rely.mask_in] at f57)
          rw [f57] at e57
          clear f57
          have e58 := hA.tm 10 58 (by rfl) (by rfl)
          have f58 : xs 10 = _ := hA.fa 10 (by rfl)
          (try simp (disch := first | rfl | decide) only [Rely.mask_in] at f58)
          rw [f58] at e58
          clear f58
          have e59 := hA.tm 11 59 (by rfl) (by rfl)
          have f59 : xs 11 = _ := hA.fa 11 (by rfl)
          (try simp (disch := first | rfl | decide) only [Rely.mask_in] at f59)
          rw [f59] at e59
          clear f59
          have hkp := undrewK hA.kp
          have hbw := undrew (hA.be _ (Nat.le_refl _) (fun q h => absurd h (Nat.not_lt_zero q)))
          have c_ww := c_ww.keeps hkp
          have z1 := z1.keeps hkp
          clear hA
          refine ⟨((Rely.wanted_at rfl (by rfl) e57).trans (by rfl)), fun K hK => ?_⟩
          clear e57
          go_simp
          refine (wcmp_s _ _ Z Z _ _ 0 _ c_ww.gi z1 HZ.out (by omega) (by omega)).mono ?_
          rintro e wq ⟨rfl, hb⟩
          exact hK.out _ _ rfl hb
        refine Rely.Chain.det ?_ (by rfl) (fun T xs wr hA => ?_) ?_
        rotate_left 1
        · have e57 := hA.tm 9 57 (by rfl) (by rfl)
          have f57 : xs 9 = _ := hA.fa 9 (by rfl)
          (try simp (disch := first | rfl | decide) only [Rely.mask_in] at f57)
          rw [f57] at e57
          clear f57
          have e60 := hA.tm 12 60 (by rfl) (by rfl)
          have f60 : xs 12 = (.int .i64 0) := hA.fa 12 (by rfl)
          rw [f60] at e60
          clear f60
          clear hA
          refine ⟨((Rely.wanted_at rfl (by rfl) e57).trans (by rfl)), ?_⟩
          go_simp <;> (try with_reducible rfl)
        refine Rely.Chain.det ?_ (by rfl) (fun T xs wr hA => ?_) ?_
        rotate_left 1
        · have e57 := hA.tm 9 57 (by rfl) (by rfl)
          have f57 : xs 9 = _ := hA.fa 9 (by rfl)
          (try simp (disch := first | rfl | decide) only [Rely.mask_in] at f57)
          rw [f57] at e57
          clear f57
          have e61 := hA.tm 13 61 (by rfl) (by rfl)
          have f61 : xs 13 = _ := hA.fa 13 (by rfl)
          (try simp (disch := first | rfl | decide) only [Rely.mask_in] at f61)
          rw [f61] at e61
          clear f61
          clear hA
          refine ⟨(by rfl), ?_⟩
          go_simp <;> (try with_reducible rfl)
        refine Rely.Chain.det ?_ (by rfl) (fun T xs wr hA => ?_) ?_
        rotate_left 1
        · have e62 := hA.tm 14 62 (by rfl) (by rfl)
          have f62 : xs 14 = _ := hA.fa 14 (by rfl)
          (try simp (disch := first | rfl | decide) only [Rely.mask_in] at f62)
          rw [f62] at e62
          clear f62
          clear hA
          refine ⟨(by rfl), ?_⟩
          go_simp <;> (try with_reducible rfl)
        refine Rely.Chain.det ?_ (by rfl) (fun T xs wr hA => ?_) ?_
        rotate_left 1
        · have e63 := hA.tm 15 63 (by rfl) (by rfl)
          have f63 : xs 15 = _ := hA.fa 15 (by rfl)
          (try simp (disch := first | rfl | decide) only [Rely.mask_in] at f63)
          rw [f63] at e63
          clear f63
          have e11 := hA.pre 11 (by kernel_rfl)
          simp only [List.getElem?_toArray, List.getElem?_cons_succ, List.getElem?_cons_zero] at e11
          clear hA
          refine ⟨((Rely.wanted_at rfl (by rfl) e63).trans (by rfl)), ?_⟩
          go_simp <;> (try with_reducible rfl)
        refine Rely.Chain.det ?_ (by rfl) (fun T xs wr hA => ?_) ?_
        rotate_left 1
        · have e63 := hA.tm 15 63 (by rfl) (by rfl)
          have f63 : xs 15 = _ := hA.fa 15 (by rfl)
          (try simp (disch := first | rfl | decide) only [Rely.mask_in] at f63)
          rw [f63] at e63
          clear f63
          have e5 := hA.pre 5 (by kernel_rfl)
          simp only [List.getElem?_toArray, List.getElem?_cons_succ, List.getElem?_cons_zero] at e5
          clear hA
          refine ⟨((Rely.wanted_at rfl (by rfl) e63).trans (by rfl)), ?_⟩
          go_simp <;> (try with_reducible rfl)
        refine Rely.Chain.det ?_ (by rfl) (fun T xs wr hA => ?_) ?_
        rotate_left 1
        · have e63 := hA.tm 15 63 (by rfl) (by rfl)
          have f63 : xs 15 = _ := hA.fa 15 (by rfl)
          (try simp (disch := first | rfl | decide) only [Rely.mask_in] at f63)
          rw [f63] at e63
          clear f63
          have e65 := hA.tm 17 65 (by rfl) (by rfl)
          have f65 : xs 17 = _ := hA.fa 17 (by rfl)
          (try simp (disch := first | rfl | decide) only [Rely.mask_in] at f65)
          rw [f65] at e65
          clear f65
          have hBq : wr.heap[g_bb]? = _ := (hA.bl _ hlt_bb (fun q h => absurd h (Nat.not_lt_zero q))).trans HB_bb.out
          have q0 := cell_at (v := .bool b_bb) hBq 0 rfl
          have q1 := cell_at (v := .slice o_bb l_bb k_bb) hBq 1 rfl
          have q2 := cell_at (v := .slice p_bb m_bb u_bb) hBq 2 rfl
          clear hBq
          clear hA
          refine ⟨((Rely.wanted_at rfl (by rfl) e63).trans (by rfl)), ?_⟩
          go_simp <;> (try with_reducible rfl)
        refine Rely.Chain.call (fun _ v w => GN w v 1 2) (fun _ _ _ _ h hb => h.below hb) (fun _ _ _ _ _ h hp => h.keeps hp.keeps) (by rfl) (fun T xs wr hA => ?_) ?_
        · have e63 := hA.tm 15 63 (by rfl) (by rfl)
          have f63 : xs 15 = _ := hA.fa 15 (by rfl)
          (try simp (disch := first | rfl | decide) only [Rely.mask_in] at f63)
          rw [f63] at e63
          clear f63
          have hkp := undrewK hA.kp
          have hbw := undrew (hA.be _ (Nat.le_refl _) (fun q h => absurd h (Nat.not_lt_zero q)))
          clear hA
          refine ⟨((Rely.wanted_at rfl (by rfl) e63).trans (by rfl)), fun K hK => ?_⟩
          clear e63
          go_simp
          refine (of_n 1 1 _ rfl (by decide)).mono ?_
          rintro e wq ⟨v, rfl, c, hb⟩
          exact hK.out _ _ c hb
        refine Rely.Chain.call (fun _ v _ => v = .int .i64 (cmpN A.den 1)) (fun _ _ _ _ h _ => h) (fun _ _ _ _ _ h _ => h) (by rfl) (fun T xs wr hA => ?_) ?_
        · have e63 := hA.tm 15 63 (by rfl) (by rfl)
          have f63 : xs 15 = _ := hA.fa 15 (by rfl)
          (try simp (disch := first | rfl | decide) only [Rely.mask_in] at f63)
          rw [f63] at e63
          clear f63
          have e66 := hA.tm 18 66 (by rfl) (by rfl)
          have f66 : xs 18 = _ := hA.fa 18 (by rfl)
          (try simp (disch := first | rfl | decide) only [Rely.mask_in] at f66)
          rw [f66] at e66
          clear f66
          have e67 := hA.tm 19 67 (by rfl) (by rfl)
          have hkp := undrewK hA.kp
          have hbw := undrew (hA.be _ (Nat.le_refl _) (fun q h => absurd h (Nat.not_lt_zero q)))
          have db := db.keeps hkp
          have c_uu : GN wr (xs 19) 1 2 := hA.fa 19 (by rfl)
          clear hA
          refine ⟨((Rely.wanted_at rfl (by rfl) e63).trans (by rfl)), fun K hK => ?_⟩
          clear e63
          go_simp
          refine (cmp_n db c_uu).mono ?_
          rintro e wq ⟨rfl, hb⟩
          exact hK.out _ _ rfl hb
        refine Rely.Chain.det ?_ (by rfl) (fun T xs wr hA => ?_) ?_
        rotate_left 1
        · have e63 := hA.tm 15 63 (by rfl) (by rfl)
          have f63 : xs 15 = _ := hA.fa 15 (by rfl)
          (try simp (disch := first | rfl | decide) only [Rely.mask_in] at f63)
          rw [f63] at e63
          clear f63
          have e68 := hA.tm 20 68 (by rfl) (by rfl)
          have f68 : xs 20 = (.int .i64 (cmpN A.den 1)) := hA.fa 20 (by rfl)
          rw [f68] at e68
          clear f68
          clear hA
          refine ⟨((Rely.wanted_at rfl (by rfl) e63).trans (by rfl)), ?_⟩
          go_simp <;> (try with_reducible rfl)
        refine Rely.Chain.det ?_ (by rfl) (fun T xs wr hA => ?_) ?_
        rotate_left 1
        · have e63 := hA.tm 15 63 (by rfl) (by rfl)
          have f63 : xs 15 = _ := hA.fa 15 (by rfl)
          (try simp (disch := first | rfl | decide) only [Rely.mask_in] at f63)
          rw [f63] at e63
          clear f63
          have e64 := hA.tm 16 64 (by rfl) (by rfl)
          have f64 : xs 16 = _ := hA.fa 16 (by rfl)
          (try simp (disch := first | rfl | decide) only [Rely.mask_in] at f64)
          rw [f64] at e64
          clear f64
          have e69 := hA.tm 21 69 (by rfl) (by rfl)
          have f69 : xs 21 = _ := hA.fa 21 (by rfl)
          (try simp (disch := first | rfl | decide) only [Rely.mask_in] at f69)
          rw [f69] at e69
          clear f69
          clear hA
          refine ⟨((Rely.wanted_at rfl (by rfl) e63).trans (by rfl)), ?_⟩
          go_simp <;> (try with_reducible rfl)
        refine Rely.Chain.det ?_ (by rfl) (fun T xs wr hA => ?_) ?_
        rotate_left 1
        · have e63 := hA.tm 15 63 (by rfl) (by rfl)
          have f63 : xs 15 = _ := hA.fa 15 (by rfl)
          (try simp (disch := first | rfl | decide) only [Rely.mask_in] at f63)
          rw [f63] at e63
          clear f63
          have e70 := hA.tm 22 70 (by rfl) (by rfl)
          have f70 : xs 22 = _ := hA.fa 22 (by rfl)
          (try simp (disch := first | rfl | decide) only [Rely.mask_in] at f70)
          rw [f70] at e70
          clear f70
          clear hA
          refine ⟨(by rfl), ?_⟩
          go_simp <;> (try with_reducible rfl)
        refine Rely.Chain.det ?_ (by rfl) (fun T xs wr hA => ?_) ?_
        rotate_left 1
        · have e71 := hA.tm 23 71 (by rfl) (by rfl)
          have f71 : xs 23 = _ := hA.fa 23 (by rfl)
          (try simp (disch := first | rfl | decide) only [Rely.mask_in] at f71)
          rw [f71] at e71
          clear f71
          clear hA
          refine ⟨(by rfl), ?_⟩
          go_simp <;> (try with_reducible rfl)
        refine Rely.Chain.det ?_ (by rfl) (fun T xs wr hA => ?_) ?_
        rotate_left 1
        · have e72 := hA.tm 24 72 (by rfl) (by rfl)
          have f72 : xs 24 = _ := hA.fa 24 (by rfl)
          (try simp (disch := first | rfl | decide) only [Rely.mask_in] at f72)
          rw [f72] at e72
          clear f72
          have e2 := hA.pre 2 (by kernel_rfl)
          simp only [List.getElem?_toArray, List.getElem?_cons_succ, List.getElem?_cons_zero] at e2
          have hBq : wr.heap[w.heap.size]? = _ := (hA.bl _ hlt_x0 (fun q h => absurd h (Nat.not_lt_zero q))).trans HB_x0.out
          have q0 := cell_at (v := .bool b0) hBq 0 rfl
          have q1 := cell_at (v := .slice o0 n0 m0) hBq 1 rfl
          have q2 := cell_at (v := .slice p0 l0 e0) hBq 2 rfl
          clear hBq
          clear hA
          refine ⟨((Rely.wanted_at rfl (by rfl) e72).trans (by rfl)), ?_⟩
          go_simp <;> (try with_reducible rfl)
        refine Rely.Chain.det ?_ (by rfl) (fun T xs wr hA => ?_) ?_
        rotate_left 1
        · have e72 := hA.tm 24 72 (by rfl) (by rfl)
          have f72 : xs 24 = _ := hA.fa 24 (by rfl)
          (try simp (disch := first | rfl | decide) only [Rely.mask_in] at f72)
          rw [f72] at e72
          clear f72
          have e5 := hA.pre 5 (by kernel_rfl)
          simp only [List.getElem?_toArray, List.getElem?_cons_succ, List.getElem?_cons_zero] at e5
          have hBq : wr.heap[g_bb]? = _ := (hA.bl _ hlt_bb (fun q h => absurd h (Nat.not_lt_zero q))).trans HB_bb.out
          have q0 := cell_at (v := .bool b_bb) hBq 0 rfl
          have q1 := cell_at (v := .slice o_bb l_bb k_bb) hBq 1 rfl
          have q2 := cell_at (v := .slice p_bb m_bb u_bb) hBq 2 rfl
          clear hBq
          clear hA
          refine ⟨((Rely.wanted_at rfl (by rfl) e72).trans (by rfl)), ?_⟩
          go_simp <;> (try with_reducible rfl)
        refine Rely.Chain.call (fun _ v w => CQ w v (A - A) 155) (fun _ _ _ _ h hb => h.below hb) (fun _ _ _ _ _ h hp => h.keeps hp.keeps) (by rfl) (fun T xs wr hA => ?_) ?_
        · have e72 := hA.tm 24 72 (by rfl) (by rfl)
          have f72 : xs 24 = _ := hA.fa 24 (by rfl)
          (try simp (disch := first | rfl | decide) only [Rely.mask_in] at f72)
          rw [f72] at e72
          clear f72
          have e73 := hA.tm 25 73 (by rfl) (by rfl)
          have f73 : xs 25 = _ := hA.fa 25 (by rfl)
          (try simp (disch := first | rfl | decide) only [Rely.mask_in] at f73)
          rw [f73] at e73
          clear f73
          have e74 := hA.tm 26 74 (by rfl) (by rfl)
          have f74 : xs 26 = _ := hA.fa 26 (by rfl)
          (try simp (disch := first | rfl | decide) only [Rely.mask_in] at f74)
          rw [f74] at e74
          clear f74
          have hkp := undrewK hA.kp
          have hbw := undrew (hA.be _ (Nat.le_refl _) (fun q h => absurd h (Nat.not_lt_zero q)))
          have g0 := g0.keeps hkp
          have c_bb := c_bb.keeps hkp
          clear hA
          refine ⟨((Rely.wanted_at rfl (by rfl) e72).trans (by rfl)), fun K hK => ?_⟩
          clear e72
          go_simp
          refine (hsub_any g0 c_bb.hq (by omega) (by omega)).mono ?_
          rintro e wq ⟨v, rfl, c, hb⟩
          exact hK.out _ _ c hb
        refine Rely.Chain.call (fun _ v _ => v = .int .i64 0) (fun _ _ _ _ h _ => h) (fun _ _ _ _ _ h _ => h) (by rfl) (fun T xs wr hA => ?_) ?_
        · have e72 := hA.tm 24 72 (by rfl) (by rfl)
          have f72 : xs 24 = _ := hA.fa 24 (by rfl)
          (try simp (disch := first | rfl | decide) only [Rely.mask_in] at f72)
          rw [f72] at e72
          clear f72
          have e75 := hA.tm 27 75 (by rfl) (by rfl)
          have hkp := undrewK hA.kp
          have hbw := undrew (hA.be _ (Nat.le_refl _) (fun q h => absurd h (Nat.not_lt_zero q)))
          have c_dd : CQ wr (xs 27) (A - A) 155 := hA.fa 27 (by rfl)
          clear hA
          refine ⟨((Rely.wanted_at rfl (by rfl) e72).trans (by rfl)), fun K hK => ?_⟩
          clear e72
          go_simp
          refine (hsign_s c_dd.hq HU.out (by omega)).mono ?_
          rintro e wq ⟨rfl, hb⟩
          exact hK.out _ _ rfl hb
        refine Rely.Chain.det ?_ (by rfl) (fun T xs wr hA => ?_) ?_
        rotate_left 1
        · have e72 := hA.tm 24 72 (by rfl) (by rfl)
          have f72 : xs 24 = _ := hA.fa 24 (by rfl)
          (try simp (disch := first | rfl | decide) only [Rely.mask_in] at f72)
          rw [f72] at e72
          clear f72
          have e76 := hA.tm 28 76 (by rfl) (by rfl)
          have f76 : xs 28 = (.int .i64 0) := hA.fa 28 (by rfl)
          rw [f76] at e76
          clear f76
          clear hA
          refine ⟨((Rely.wanted_at rfl (by rfl) e72).trans (by rfl)), ?_⟩
          go_simp <;> (try with_reducible rfl)
        refine Rely.Chain.det ?_ (by rfl) (fun T xs wr hA => ?_) ?_
        rotate_left 1
        · have e72 := hA.tm 24 72 (by rfl) (by rfl)
          have f72 : xs 24 = _ := hA.fa 24 (by rfl)
          (try simp (disch := first | rfl | decide) only [Rely.mask_in] at f72)
          rw [f72] at e72
          clear f72
          have e77 := hA.tm 29 77 (by rfl) (by rfl)
          have f77 : xs 29 = _ := hA.fa 29 (by rfl)
          (try simp (disch := first | rfl | decide) only [Rely.mask_in] at f77)
          rw [f77] at e77
          clear f77
          clear hA
          refine ⟨(by rfl), ?_⟩
          go_simp <;> (try with_reducible rfl)
        refine Rely.Chain.det ?_ (by rfl) (fun T xs wr hA => ?_) ?_
        rotate_left 1
        · have e78 := hA.tm 30 78 (by rfl) (by rfl)
          have f78 : xs 30 = _ := hA.fa 30 (by rfl)
          (try simp (disch := first | rfl | decide) only [Rely.mask_in] at f78)
          rw [f78] at e78
          clear f78
          clear hA
          refine ⟨(by rfl), ?_⟩
          go_simp <;> (try with_reducible rfl)
        refine Rely.Chain.done (fun xs wx11 hL => ?_)
        obtain ⟨⟨hbe, hbl, hkp0⟩, hf, hp, hn⟩ := hL
        have f0 : xs 0 = _ := hf 0 (by decide)
        (try simp (disch := first | rfl | decide) only [Rely.mask_in] at f0)
        have f1 : xs 1 = _ := hf 1 (by decide)
        (try simp (disch := first | rfl | decide) only [Rely.mask_in] at f1)
        have f2 : xs 2 = _ := hf 2 (by decide)
        (try simp (disch := first | rfl | decide) only [Rely.mask_in] at f2)
        have f3 : xs 3 = _ := hf 3 (by decide)
        (try simp (disch := first | rfl | decide) only [Rely.mask_in] at f3)
        have f4 : xs 4 = (.bool true) := hf 4 (by decide)
        have f5 : xs 5 = _ := hf 5 (by decide)
        (try simp (disch := first | rfl | decide) only [Rely.mask_in] at f5)
        have f6 : xs 6 = _ := hf 6 (by decide)
        (try simp (disch := first | rfl | decide) only [Rely.mask_in] at f6)
        have f7 : xs 7 = _ := hf 7 (by decide)
        (try simp (disch := first | rfl | decide) only [Rely.mask_in] at f7)
        have f8 : xs 8 = _ := hf 8 (by decide)
        (try simp (disch := first | rfl | decide) only [Rely.mask_in] at f8)
        have f9 : xs 9 = _ := hf 9 (by decide)
        (try simp (disch := first | rfl | decide) only [Rely.mask_in] at f9)
        have f10 : xs 10 = _ := hf 10 (by decide)
        (try simp (disch := first | rfl | decide) only [Rely.mask_in] at f10)
        have f11 : xs 11 = _ := hf 11 (by decide)
        (try simp (disch := first | rfl | decide) only [Rely.mask_in] at f11)
        have f12 : xs 12 = (.int .i64 0) := hf 12 (by decide)
        have f13 : xs 13 = _ := hf 13 (by decide)
        (try simp (disch := first | rfl | decide) only [Rely.mask_in] at f13)
        have f14 : xs 14 = _ := hf 14 (by decide)
        (try simp (disch := first | rfl | decide) only [Rely.mask_in] at f14)
        have f15 : xs 15 = _ := hf 15 (by decide)
        (try simp (disch := first | rfl | decide) only [Rely.mask_in] at f15)
        have f16 : xs 16 = _ := hf 16 (by decide)
        (try simp (disch := first | rfl | decide) only [Rely.mask_in] at f16)
        have f17 : xs 17 = _ := hf 17 (by decide)
        (try simp (disch := first | rfl | decide) only [Rely.mask_in] at f17)
        have f18 : xs 18 = _ := hf 18 (by decide)
        (try simp (disch := first | rfl | decide) only [Rely.mask_in] at f18)
        have c_uu : GN wx11 (xs 19) 1 2 := hf 19 (by decide)
        have f20 : xs 20 = (.int .i64 (cmpN A.den 1)) := hf 20 (by decide)
        have f21 : xs 21 = _ := hf 21 (by decide)
        (try simp (disch := first | rfl | decide) only [Rely.mask_in] at f21)
        have f22 : xs 22 = _ := hf 22 (by decide)
        (try simp (disch := first | rfl | decide) only [Rely.mask_in] at f22)
        have f23 : xs 23 = _ := hf 23 (by decide)
        (try simp (disch := first | rfl | decide) only [Rely.mask_in] at f23)
        have f24 : xs 24 = _ := hf 24 (by decide)
        (try simp (disch := first | rfl | decide) only [Rely.mask_in] at f24)
        have f25 : xs 25 = _ := hf 25 (by decide)
        (try simp (disch := first | rfl | decide) only [Rely.mask_in] at f25)
        have f26 : xs 26 = _ := hf 26 (by decide)
        (try simp (disch := first | rfl | decide) only [Rely.mask_in] at f26)
        have c_dd : CQ wx11 (xs 27) (A - A) 155 := hf 27 (by decide)
        have f28 : xs 28 = (.int .i64 0) := hf 28 (by decide)
        have f29 : xs 29 = _ := hf 29 (by decide)
        (try simp (disch := first | rfl | decide) only [Rely.mask_in] at f29)
        have f30 : xs 30 = _ := hf 30 (by decide)
        (try simp (disch := first | rfl | decide) only [Rely.mask_in] at f30)
        have f31 : xs 31 = _ := hf 31 (by decide)
        (try simp (disch := first | rfl | decide) only [Rely.mask_in] at f31)
        clear hf hp hn
        refine Rely.rest_done ?_
        simp only [Rely.fill, List.setIfInBounds_toArray, List.set_cons_zero, List.set_cons_succ, f0, f1, f2, f3, f4, f5, f6, f7, f8, f9, f10, f11, f12, f13, f14, f15, f16, f17, f18, f20, f21, f22, f23, f24, f25, f26, f28, f29, f30, f31]
        clear f0 f1 f2 f3 f4 f5 f6 f7 f8 f9 f10 f11 f12 f13 f14 f15 f16 f17 f18 f20 f21 f22 f23 f24 f25 f26 f28 f29 f30 f31
        generalize xs 19 = v_uu at c_uu ⊢
        generalize xs 27 = v_dd at c_dd ⊢
        clear xs
        obtain ⟨o_uu, l_uu, k_uu, rfl, -⟩ := c_uu.shape
        obtain ⟨b_dd, o_dd, l_dd, k_dd, p_dd, m_dd, u_dd, rfl⟩ := c_dd.shape
        have hbx := undrew (hbe _ (Nat.le_refl _) (fun q h => absurd h (Nat.not_lt_zero q)))
        clear hbe hbl hkp0
        replace g0 := g0.below hbx
        replace z1 := z1.below hbx
        replace c_z := c_z.below hbx
        replace c_o := c_o.below hbx
        replace c_bb := c_bb.below hbx
        replace nb := nb.below hbx
        replace db := db.below hbx
        replace c_kk := c_kk.below hbx
        replace c_ff := c_ff.below hbx
        replace c_cc := c_cc.below hbx
        replace c_y := c_y.below hbx
        replace c_ww := c_ww.below hbx
        replace c_oo := c_oo.below hbx
        replace hbt := hbt.trans (hbx.mono hbt.size)
        replace HB_x0 := Lib.hid ((hbx.block _ (lt_of_block HB_x0.out)).trans HB_x0.out)
        replace HB_x1 := Lib.hid ((hbx.block _ (lt_of_block HB_x1.out)).trans HB_x1.out)
        replace HB_bb := Lib.hid ((hbx.block _ (lt_of_block HB_bb.out)).trans HB_bb.out)
        replace HB_cc := Lib.hid ((hbx.block _ (lt_of_block HB_cc.out)).trans HB_cc.out)
        replace HB_ww := Lib.hid ((hbx.block _ (lt_of_block HB_ww.out)).trans HB_ww.out)
        replace HB_oo := Lib.hid ((hbx.block _ (lt_of_block HB_oo.out)).trans HB_oo.out)
        clear hbx
        replace x00 := cell_at (v := .bool b0) HB_x0.out 0 rfl
        replace x01 := cell_at (v := .slice o0 n0 m0) HB_x0.out 1 rfl
        replace x02 := cell_at (v := .slice p0 l0 e0) HB_x0.out 2 rfl
        replace x10 := cell_at (v := .bool b1) HB_x1.out 0 rfl
        replace x11 := cell_at (v := .slice o1 n1 m1) HB_x1.out 1 rfl
        replace bb0 := cell_at (v := .bool b_bb) HB_bb.out 0 rfl
        replace bb1 := cell_at (v := .slice o_bb l_bb k_bb) HB_bb.out 1 rfl
        replace bb2 := cell_at (v := .slice p_bb m_bb u_bb) HB_bb.out 2 rfl
        replace cc0 := cell_at (v := .bool b_cc) HB_cc.out 0 rfl
        replace cc1 := cell_at (v := .slice o_cc l_cc k_cc) HB_cc.out 1 rfl
        replace cc2 := cell_at (v := .slice p_cc m_cc u_cc) HB_cc.out 2 rfl
        replace ww0 := cell_at (v := .bool b_ww) HB_ww.out 0 rfl
        replace ww1 := cell_at (v := .slice o_ww l_ww k_ww) HB_ww.out 1 rfl
        replace oo0 := cell_at (v := .bool b_oo) HB_oo.out 0 rfl
        replace oo1 := cell_at (v := .slice o_oo l_oo k_oo) HB_oo.out 1 rfl
        clear hlt_x0 hlt_x1 hlt_ww hlt_oo
        go_wp2_with fail
        go_ret
        exact ⟨rfl, hbt⟩
      · have hz : (cmpN A.den 1 == 0) = false := by rw [beq_eq_false_iff_ne]; exact mt (cmp_1 A.den_pos).1 hA
        refine (whole_no c_bb (by omega) hA).mono ?_
        rintro e wx9 ⟨v_oo, rfl, c_oo, hbx⟩
        replace g0 := g0.below hbx
        replace z1 := z1.below hbx
        replace c_z := c_z.below hbx
        replace c_o := c_o.below hbx
        replace c_bb := c_bb.below hbx
        replace nb := nb.below hbx
        replace db := db.below hbx
        replace c_kk := c_kk.below hbx
        replace c_ff := c_ff.below hbx
        replace c_cc := c_cc.below hbx
        replace c_y := c_y.below hbx
        replace c_ww := c_ww.below hbx
        replace hbt := hbt.trans (hbx.mono hbt.size)
        replace HB_x0 := Lib.hid ((hbx.block _ (lt_of_block HB_x0.out)).trans HB_x0.out)
        replace HB_x1 := Lib.hid ((hbx.block _ (lt_of_block HB_x1.out)).trans HB_x1.out)
        replace HB_bb := Lib.hid ((hbx.block _ (lt_of_block HB_bb.out)).trans HB_bb.out)
        replace HB_cc := Lib.hid ((hbx.block _ (lt_of_block HB_cc.out)).trans HB_cc.out)
        replace HB_ww := Lib.hid ((hbx.block _ (lt_of_block HB_ww.out)).trans HB_ww.out)
        clear hbx
        replace x00 := cell_at (v := .bool b0) HB_x0.out 0 rfl
        replace x01 := cell_at (v := .slice o0 n0 m0) HB_x0.out 1 rfl
        replace x02 := cell_at (v := .slice p0 l0 e0) HB_x0.out 2 rfl
        replace x10 := cell_at (v := .bool b1) HB_x1.out 0 rfl
        replace x11 := cell_at (v := .slice o1 n1 m1) HB_x1.out 1 rfl
        replace bb0 := cell_at (v := .bool b_bb) HB_bb.out 0 rfl
        replace bb1 := cell_at (v := .slice o_bb l_bb k_bb) HB_bb.out 1 rfl
        replace bb2 := cell_at (v := .slice p_bb m_bb u_bb) HB_bb.out 2 rfl
        replace cc0 := cell_at (v := .bool b_cc) HB_cc.out 0 rfl
        replace cc1 := cell_at (v := .slice o_cc l_cc k_cc) HB_cc.out 1 rfl
        replace cc2 := cell_at (v := .slice p_cc m_cc u_cc) HB_cc.out 2 rfl
        replace ww0 := cell_at (v := .bool b_ww) HB_ww.out 0 rfl
        replace ww1 := cell_at (v := .slice o_ww l_ww k_ww) HB_ww.out 1 rfl
        obtain ⟨b_oo, o_oo, l_oo, k_oo, rfl⟩ := c_oo.shape
        clear hA
        have hlt_x0 := lt_of_block HB_x0.out
        have hlt_x1 := lt_of_block HB_x1.out
        have hlt_bb := lt_of_block HB_bb.out
        have hlt_cc := lt_of_block HB_cc.out
        have hlt_ww := lt_of_block HB_ww.out
        go_wp2_with fail
        have hla_x0_wx9 : w.heap.size < wx9.heap.size := hlt_x0
        have hla_x1_wx9 : w.heap.size + 1 < wx9.heap.size := hlt_x1
        have hla_bb_wx9 : g_bb < wx9.heap.size := hlt_bb
        have hla_cc_wx9 : g_cc < wx9.heap.size := hlt_cc
        have hla_ww_wx9 : wx7.heap.size < wx9.heap.size := hlt_ww
        clear hlt_x0 hlt_x1 hlt_bb hlt_cc hlt_ww
        have hbx : Below wx9.heap.size wx9 (wx9.alloc (.cells #[.bool b_oo, .slice o_oo l_oo k_oo] 25)) := ((Below.refl _ _).alloc (by simp) _)
        replace g0 := g0.below hbx
        replace z1 := z1.below hbx
        replace c_z := c_z.below hbx
        replace c_o := c_o.below hbx
        replace c_bb := c_bb.below hbx
        replace nb := nb.below hbx
        replace db := db.below hbx
        replace c_kk := c_kk.below hbx
        replace c_ff := c_ff.below hbx
        replace c_cc := c_cc.below hbx
        replace c_y := c_y.below hbx
        replace c_ww := c_ww.below hbx
        replace c_oo := c_oo.below hbx
        replace hbt := hbt.trans (hbx.mono hbt.size)
        replace HB_x0 := Lib.hid ((hbx.block _ (lt_of_block HB_x0.out)).trans HB_x0.out)
        replace HB_x1 := Lib.hid ((hbx.block _ (lt_of_block HB_x1.out)).trans HB_x1.out)
        replace HB_bb := Lib.hid ((hbx.block _ (lt_of_block HB_bb.out)).trans HB_bb.out)
        replace HB_cc := Lib.hid ((hbx.block _ (lt_of_block HB_cc.out)).trans HB_cc.out)
        replace HB_ww := Lib.hid ((hbx.block _ (lt_of_block HB_ww.out)).trans HB_ww.out)
        clear hbx
        replace x00 := cell_at (v := .bool b0) HB_x0.out 0 rfl
        replace x01 := cell_at (v := .slice o0 n0 m0) HB_x0.out 1 rfl
        replace x02 := cell_at (v := .slice p0 l0 e0) HB_x0.out 2 rfl
        replace x10 := cell_at (v := .bool b1) HB_x1.out 0 rfl
        replace x11 := cell_at (v := .slice o1 n1 m1) HB_x1.out 1 rfl
        replace bb0 := cell_at (v := .bool b_bb) HB_bb.out 0 rfl
        replace bb1 := cell_at (v := .slice o_bb l_bb k_bb) HB_bb.out 1 rfl
        replace bb2 := cell_at (v := .slice p_bb m_bb u_bb) HB_bb.out 2 rfl
        replace cc0 := cell_at (v := .bool b_cc) HB_cc.out 0 rfl
        replace cc1 := cell_at (v := .slice o_cc l_cc k_cc) HB_cc.out 1 rfl
        replace cc2 := cell_at (v := .slice p_cc m_cc u_cc) HB_cc.out 2 rfl
        replace ww0 := cell_at (v := .bool b_ww) HB_ww.out 0 rfl
        replace ww1 := cell_at (v := .slice o_ww l_ww k_ww) HB_ww.out 1 rfl
        have HB_oo : Hid ((wx9.alloc (.cells #[.bool b_oo, .slice o_oo l_oo k_oo] 25)).heap[wx9.heap.size]? = some (.cells #[.bool b_oo, .slice o_oo l_oo k_oo] 25 (0, 0))) := Lib.hid (made_at wx9 (.cells #[.bool b_oo, .slice o_oo l_oo k_oo] 25) _ (by first | rfl | simp))
        generalize (wx9.alloc (.cells #[.bool b_oo, .slice o_oo l_oo k_oo] 25)) = wx10 at *
        have oo0 := cell_at (v := .bool b_oo) HB_oo.out 0 rfl
        have oo1 := cell_at (v := .slice o_oo l_oo k_oo) HB_oo.out 1 rfl
        have hlt_x0 := lt_of_block HB_x0.out
        have hlt_x1 := lt_of_block HB_x1.out
        have hlt_bb := lt_of_block HB_bb.out
        have hlt_cc := lt_of_block HB_cc.out
        have hlt_ww := lt_of_block HB_ww.out
        have hlt_oo := lt_of_block HB_oo.out
        refine Rely.region (by kernel_rfl) [[], [0], [0, 1], [0, 1], [0, 1, 2, 3], [0, 1, 2, 3, 4], [0, 1, 2, 3, 4, 5], [0, 1, 2, 3, 4, 5, 6], [0, 1, 2, 3, 4, 5, 6, 7], [0, 1, 2, 3, 4, 5, 6, 7, 8], [0, 1, 2, 3, 4, 5, 6, 7, 8, 9], [0, 1, 2, 3, 4, 5, 6, 7, 8, 9], [0, 1, 2, 3, 4, 5, 6, 7, 8, 9, 10, 11], [0, 1, 2, 3, 4, 5, 6, 7, 8, 9, 10, 11, 12], [0, 1, 2, 3, 4, 5, 6, 7, 8, 9, 10, 11, 12, 13], [0, 1, 2, 3, 4, 5, 6, 7, 8, 9, 10, 11, 12, 13, 14], [0, 1, 2, 3, 4, 5, 6, 7, 8, 9, 10, 11, 12, 13, 14, 15], [0, 1, 2, 3, 4, 5, 6, 7, 8, 9, 10, 11, 12, 13, 14, 15], [0, 1, 2, 3, 4, 5, 6, 7, 8, 9, 10, 11, 12, 13, 14, 15, 17], [0, 1, 2, 3, 4, 5, 6, 7, 8, 9, 10, 11, 12, 13, 14, 15], [0, 1, 2, 3, 4, 5, 6, 7, 8, 9, 10, 11, 12, 13, 14, 15, 17, 18, 19], [0, 1, 2, 3, 4, 5, 6, 7, 8, 9, 10, 11, 12, 13, 14, 15, 17, 18, 19, 20], [0, 1, 2, 3, 4, 5, 6, 7, 8, 9, 10, 11, 12, 13, 14, 15, 16, 17, 18, 19, 20, 21], [0, 1, 2, 3, 4, 5, 6, 7, 8, 9, 10, 11, 12, 13, 14, 15, 16, 17, 18, 19, 20, 21, 22], [0, 1, 2, 3, 4, 5, 6, 7, 8, 9, 10, 11, 12, 13, 14, 15, 16, 17, 18, 19, 20, 21, 22, 23], [0, 1, 2, 3, 4, 5, 6, 7, 8, 9, 10, 11, 12, 13, 14, 15, 16, 17, 18, 19, 20, 21, 22, 23, 24], [0, 1, 2, 3, 4, 5, 6, 7, 8, 9, 10, 11, 12, 13, 14, 15, 16, 17, 18, 19, 20, 21, 22, 23, 24], [0, 1, 2, 3, 4, 5, 6, 7, 8, 9, 10, 11, 12, 13, 14, 15, 16, 17, 18, 19, 20, 21, 22, 23, 24, 25, 26], [0, 1, 2, 3, 4, 5, 6, 7, 8, 9, 10, 11, 12, 13, 14, 15, 16, 17, 18, 19, 20, 21, 22, 23, 24, 25, 26, 27], [0, 1, 2, 3, 4, 5, 6, 7, 8, 9, 10, 11, 12, 13, 14, 15, 16, 17, 18, 19, 20, 21, 22, 23, 24, 25, 26, 27, 28], [0, 1, 2, 3, 4, 5, 6, 7, 8, 9, 10, 11, 12, 13, 14, 15, 16, 17, 18, 19, 20, 21, 22, 23, 24, 25, 26, 27, 28, 29], [0, 1, 2, 3, 4, 5, 6, 7, 8, 9, 10, 11, 12, 13, 14, 15, 16, 17, 18, 19, 20, 21, 22, 23, 24, 25, 26, 27, 28, 29, 30]] [] [] (fun q => [].getD q 0) 0 32 (by kernel_rfl) (by kernel_rfl) (fun q h => absurd h (Nat.not_lt_zero q)) (fun q _ h => absurd h (Nat.not_lt_zero q)) ?_
        refine Rely.Chain.det ?_ (by rfl) (fun T xs wr hA => ?_) ?_
        rotate_left 1
        · have e7 := hA.pre 7 (by kernel_rfl)
          simp only [List.getElem?_toArray, List.getElem?_cons_succ, List.getElem?_cons_zero] at e7
          clear hA
          refine ⟨(by rfl), ?_⟩
          go_simp <;> (try with_reducible rfl)
        refine Rely.Chain.det ?_ (by rfl) (fun T xs wr hA => ?_) ?_
        rotate_left 1
        · have e48 := hA.tm 0 48 (by rfl) (by rfl)
          have f48 : xs 0 = _ := hA.fa 0 (by rfl)
          (try simp (disch := first | rfl | decide) only [Rely.mask_in] at f48)
          rw [f48] at e48
          clear f48
          clear hA
          refine ⟨(by rfl), ?_⟩
          go_simp <;> (try with_reducible rfl)
        refine Rely.Chain.det ?_ (by rfl) (fun T xs wr hA => ?_) ?_
        rotate_left 1
        · have e49 := hA.tm 1 49 (by rfl) (by rfl)
          have f49 : xs 1 = _ := hA.fa 1 (by rfl)
          (try simp (disch := first | rfl | decide) only [Rely.mask_in] at f49)
          rw [f49] at e49
          clear f49
          have e5 := hA.pre 5 (by kernel_rfl)
          simp only [List.getElem?_toArray, List.getElem?_cons_succ, List.getElem?_cons_zero] at e5
          have hBq : wr.heap[g_bb]? = _ := (hA.bl _ hlt_bb (fun q h => absurd h (Nat.not_lt_zero q))).trans HB_bb.out
          have q0 := cell_at (v := .bool b_bb) hBq 0 rfl
          have q1 := cell_at (v := .slice o_bb l_bb k_bb) hBq 1 rfl
          have q2 := cell_at (v := .slice p_bb m_bb u_bb) hBq 2 rfl
          clear hBq
          clear hA
          refine ⟨((Rely.wanted_at rfl (by rfl) e49).trans (by rfl)), ?_⟩
          go_simp <;> (try with_reducible rfl)
        refine Rely.Chain.det ?_ (by rfl) (fun T xs wr hA => ?_) ?_
        rotate_left 1
        · have e49 := hA.tm 1 49 (by rfl) (by rfl)
          have f49 : xs 1 = _ := hA.fa 1 (by rfl)
          (try simp (disch := first | rfl | decide) only [Rely.mask_in] at f49)
          rw [f49] at e49
          clear f49
          have e6 := hA.pre 6 (by kernel_rfl)
          simp only [List.getElem?_toArray, List.getElem?_cons_succ, List.getElem?_cons_zero] at e6
          have hBq : wr.heap[g_cc]? = _ := (hA.bl _ hlt_cc (fun q h => absurd h (Nat.not_lt_zero q))).trans HB_cc.out
          have q0 := cell_at (v := .bool b_cc) hBq 0 rfl
          have q1 := cell_at (v := .slice o_cc l_cc k_cc) hBq 1 rfl
          have q2 := cell_at (v := .slice p_cc m_cc u_cc) hBq 2 rfl
          clear hBq
          clear hA
          refine ⟨((Rely.wanted_at rfl (by rfl) e49).trans (by rfl)), ?_⟩
          go_simp <;> (try with_reducible rfl)
        refine Rely.Chain.call (fun _ v _ => v = .bool true) (fun _ _ _ _ h _ => h) (fun _ _ _ _ _ h _ => h) (by rfl) (fun T xs wr hA => ?_) ?_
        · have e49 := hA.tm 1 49 (by rfl) (by rfl)
          have f49 : xs 1 = _ := hA.fa 1 (by rfl)
          (try simp (disch := first | rfl | decide) only [Rely.mask_in] at f49)
          rw [f49] at e49
          clear f49
          have e50 := hA.tm 2 50 (by rfl) (by rfl)
          have f50 : xs 2 = _ := hA.fa 2 (by rfl)
          (try simp (disch := first | rfl | decide) only [Rely.mask_in] at f50)
          rw [f50] at e50
          clear f50
          have e51 := hA.tm 3 51 (by rfl) (by rfl)
          have f51 : xs 3 = _ := hA.fa 3 (by rfl)
          (try simp (disch := first | rfl | decide) only [Rely.mask_in] at f51)
          rw [f51] at e51
          clear f51
          have hkp := undrewK hA.kp
          have hbw := undrew (hA.be _ (Nat.le_refl _) (fun q h => absurd h (Nat.not_lt_zero q)))
          have c_bb := c_bb.keeps hkp
          have c_cc := c_cc.keeps hkp
          clear hA
          refine ⟨((Rely.wanted_at rfl (by rfl) e49).trans (by rfl)), fun K hK => ?_⟩
          clear e49
          go_simp
          refine (qsame_true c_bb c_cc (by omega) (by omega)).mono ?_
          rintro e wq ⟨rfl, hb⟩
          exact hK.out _ _ rfl hb
        refine Rely.Chain.det ?_ (by rfl) (fun T xs wr hA => ?_) ?_
        rotate_left 1
        · have e49 := hA.tm 1 49 (by rfl) (by rfl)
          have f49 : xs 1 = _ := hA.fa 1 (by rfl)
          (try simp (disch := first | rfl | decide) only [Rely.mask_in] at f49)
          rw [f49] at e49
          clear f49
          have e52 := hA.tm 4 52 (by rfl) (by rfl)
          have f52 : xs 4 = (.bool true) := hA.fa 4 (by rfl)
          rw [f52] at e52
          clear f52
          clear hA
          refine ⟨(by rfl), ?_⟩
          go_simp <;> (try with_reducible rfl)
        refine Rely.Chain.det ?_ (by rfl) (fun T xs wr hA => ?_) ?_
        rotate_left 1
        · have e53 := hA.tm 5 53 (by rfl) (by rfl)
          have f53 : xs 5 = _ := hA.fa 5 (by rfl)
          (try simp (disch := first | rfl | decide) only [Rely.mask_in] at f53)
          rw [f53] at e53
          clear f53
          clear hA
          refine ⟨(by rfl), ?_⟩
          go_simp <;> (try with_reducible rfl)
        refine Rely.Chain.det ?_ (by rfl) (fun T xs wr hA => ?_) ?_
        rotate_left 1
        · have e54 := hA.tm 6 54 (by rfl) (by rfl)
          have f54 : xs 6 = _ := hA.fa 6 (by rfl)
          (try simp (disch := first | rfl | decide) only [Rely.mask_in] at f54)
          rw [f54] at e54
          clear f54
          have e9 := hA.pre 9 (by kernel_rfl)
          simp only [List.getElem?_toArray, List.getElem?_cons_succ, List.getElem?_cons_zero] at e9
          clear hA
          refine ⟨((Rely.wanted_at rfl (by rfl) e54).trans (by rfl)), ?_⟩
          go_simp <;> (try with_reducible rfl)
        refine Rely.Chain.det ?_ (by rfl) (fun T xs wr hA => ?_) ?_
        rotate_left 1
        · have e54 := hA.tm 6 54 (by rfl) (by rfl)
          have f54 : xs 6 = _ := hA.fa 6 (by rfl)
          (try simp (disch := first | rfl | decide) only [Rely.mask_in] at f54)
          rw [f54] at e54
          clear f54
          have e55 := hA.tm 7 55 (by rfl) (by rfl)
          have f55 : xs 7 = _ := hA.fa 7 (by rfl)
          (try simp (disch := first | rfl | decide) only [Rely.mask_in] at f55)
          rw [f55] at e55
          clear f55
          clear hA
          refine ⟨(by rfl), ?_⟩
          go_simp <;> (try with_reducible rfl)
        refine Rely.Chain.det ?_ (by rfl) (fun T xs wr hA => ?_) ?_
        rotate_left 1
        · have e56 := hA.tm 8 56 (by rfl) (by rfl)
          have f56 : xs 8 = _ := hA.fa 8 (by rfl)
          (try simp (disch := first | rfl | decide) only [Rely.mask_in] at f56)
          rw [f56] at e56
          clear f56
          clear hA
          refine ⟨(by rfl), ?_⟩
          go_simp <;> (try with_reducible rfl)
        refine Rely.Chain.det ?_ (by rfl) (fun T xs wr hA => ?_) ?_
        rotate_left 1
        · have e57 := hA.tm 9 57 (by rfl) (by rfl)
          have f57 : xs 9 = _ := hA.fa 9 (by rfl)
          (try simp (disch := first | rfl | decide) only [Rely.mask_in] at f57)
          rw [f57] at e57
          clear f57
          have e8 := hA.pre 8 (by kernel_rfl)
          simp only [List.getElem?_toArray, List.getElem?_cons_succ, List.getElem?_cons_zero] at e8
          have hBq : wr.heap[wx7.heap.size]? = _ := (hA.bl _ hlt_ww (fun q h => absurd h (Nat.not_lt_zero q))).trans HB_ww.out
          have q0 := cell_at (v := .bool b_ww) hBq 0 rfl
          have q1 := cell_at (v := .slice o_ww l_ww k_ww) hBq 1 rfl
          clear hBq
          clear hA
          refine ⟨((Rely.wanted_at rfl (by rfl) e57).trans (by rfl)), ?_⟩
          go_simp <;> (try with_reducible rfl)
        refine Rely.Chain.det ?_ (by rfl) (fun T xs wr hA => ?_) ?_
        rotate_left 1
        · have e57 := hA.tm 9 57 (by rfl) (by rfl)
          have f57 : xs 9 = _ := hA.fa 9 (by rfl)
          (try simp (disch := first | rfl | decide) only [Rely.mask_in] at f57)
          rw [f57] at e57
          clear f57
          have e3 := hA.pre 3 (by kernel_rfl)
          simp only [List.getElem?_toArray, List.getElem?_cons_succ, List.getElem?_cons_zero] at e3
          have hBq : wr.heap[w.heap.size + 1]? = _ := (hA.bl _ hlt_x1 (fun q h => absurd h (Nat.not_lt_zero q))).trans HB_x1.out
          have q0 := cell_at (v := .bool b1) hBq 0 rfl
          have q1 := cell_at (v := .slice o1 n1 m1) hBq 1 rfl
          clear hBq
          clear hA
          refine ⟨((Rely.wanted_at rfl (by rfl) e57).trans (by rfl)), ?_⟩
          go_simp <;> (try with_reducible rfl)
        refine Rely.Chain.call (fun _ v _ => v = .int .i64 0) (fun _ _ _ _ h _ => h) (fun _ _ _ _ _ h _ => h) (by rfl) (fun T xs wr hA => ?_) ?_
        · have e57 := hA.tm 9 57 (by rfl) (by rfl)
          have f57 : xs 9 = _ := hA.fa 9 (by rfl)
          (try simp (disch := first | rfl | decide) only [Rely.mask_in] at f57)
          rw [f57] at e57
          clear f57
          have e58 := hA.tm 10 58 (by rfl) (by rfl)
          have f58 : xs 10 = _ := hA.fa 10 (by rfl)
          (try simp (disch := first | rfl | decide) only [Rely.mask_in] at f58)
          rw [f58] at e58
          clear f58
          have e59 := hA.tm 11 59 (by rfl) (by rfl)
          have f59 : xs 11 = _ := hA.fa 11 (by rfl)
          (try simp (disch := first | rfl | decide) only [Rely.mask_in] at f59)
          rw [f59] at e59
          clear f59
          have hkp := undrewK hA.kp
          have hbw := undrew (hA.be _ (Nat.le_refl _) (fun q h => absurd h (Nat.not_lt_zero q)))
          have c_ww := c_ww.keeps hkp
          have z1 := z1.keeps hkp
          clear hA
          refine ⟨((Rely.wanted_at rfl (by rfl) e57).trans (by rfl)), fun K hK => ?_⟩
          clear e57
          go_simp
          refine (wcmp_s _ _ Z Z _ _ 0 _ c_ww.gi z1 HZ.out (by omega) (by omega)).mono ?_
          rintro e wq ⟨rfl, hb⟩
          exact hK.out _ _ rfl hb
        refine Rely.Chain.det ?_ (by rfl) (fun T xs wr hA => ?_) ?_
        rotate_left 1
        · have e57 := hA.tm 9 57 (by rfl) (by rfl)
          have f57 : xs 9 = _ := hA.fa 9 (by rfl)
          (try simp (disch := first | rfl | decide) only [Rely.mask_in] at f57)
          rw [f57] at e57
          clear f57
          have e60 := hA.tm 12 60 (by rfl) (by rfl)
          have f60 : xs 12 = (.int .i64 0) := hA.fa 12 (by rfl)
          rw [f60] at e60
          clear f60
          clear hA
          refine ⟨((Rely.wanted_at rfl (by rfl) e57).trans (by rfl)), ?_⟩
          go_simp <;> (try with_reducible rfl)
        refine Rely.Chain.det ?_ (by rfl) (fun T xs wr hA => ?_) ?_
        rotate_left 1
        · have e57 := hA.tm 9 57 (by rfl) (by rfl)
          have f57 : xs 9 = _ := hA.fa 9 (by rfl)
          (try simp (disch := first | rfl | decide) only [Rely.mask_in] at f57)
          rw [f57] at e57
          clear f57
          have e61 := hA.tm 13 61 (by rfl) (by rfl)
          have f61 : xs 13 = _ := hA.fa 13 (by rfl)
          (try simp (disch := first | rfl | decide) only [Rely.mask_in] at f61)
          rw [f61] at e61
          clear f61
          clear hA
          refine ⟨(by rfl), ?_⟩
          go_simp <;> (try with_reducible rfl)
        refine Rely.Chain.det ?_ (by rfl) (fun T xs wr hA => ?_) ?_
        rotate_left 1
        · have e62 := hA.tm 14 62 (by rfl) (by rfl)
          have f62 : xs 14 = _ := hA.fa 14 (by rfl)
          (try simp (disch := first | rfl | decide) only [Rely.mask_in] at f62)
          rw [f62] at e62
          clear f62
          clear hA
          refine ⟨(by rfl), ?_⟩
          go_simp <;> (try with_reducible rfl)
        refine Rely.Chain.det ?_ (by rfl) (fun T xs wr hA => ?_) ?_
        rotate_left 1
        · have e63 := hA.tm 15 63 (by rfl) (by rfl)
          have f63 : xs 15 = _ := hA.fa 15 (by rfl)
          (try simp (disch := first | rfl | decide) only [Rely.mask_in] at f63)
          rw [f63] at e63
          clear f63
          have e11 := hA.pre 11 (by kernel_rfl)
          simp only [List.getElem?_toArray, List.getElem?_cons_succ, List.getElem?_cons_zero] at e11
          clear hA
          refine ⟨((Rely.wanted_at rfl (by rfl) e63).trans (by rfl)), ?_⟩
          go_simp <;> (try with_reducible rfl)
        refine Rely.Chain.det ?_ (by rfl) (fun T xs wr hA => ?_) ?_
        rotate_left 1
        · have e63 := hA.tm 15 63 (by rfl) (by rfl)
          have f63 : xs 15 = _ := hA.fa 15 (by rfl)
          (try simp (disch := first | rfl | decide) only [Rely.mask_in] at f63)
          rw [f63] at e63
          clear f63
          have e5 := hA.pre 5 (by kernel_rfl)
          simp only [List.getElem?_toArray, List.getElem?_cons_succ, List.getElem?_cons_zero] at e5
          clear hA
          refine ⟨((Rely.wanted_at rfl (by rfl) e63).trans (by rfl)), ?_⟩
          go_simp <;> (try with_reducible rfl)
        refine Rely.Chain.det ?_ (by rfl) (fun T xs wr hA => ?_) ?_
        rotate_left 1
        · have e63 := hA.tm 15 63 (by rfl) (by rfl)
          have f63 : xs 15 = _ := hA.fa 15 (by rfl)
          (try simp (disch := first | rfl | decide) only [Rely.mask_in] at f63)
          rw [f63] at e63
          clear f63
          have e65 := hA.tm 17 65 (by rfl) (by rfl)
          have f65 : xs 17 = _ := hA.fa 17 (by rfl)
          (try simp (disch := first | rfl | decide) only [Rely.mask_in] at f65)
          rw [f65] at e65
          clear f65
          have hBq : wr.heap[g_bb]? = _ := (hA.bl _ hlt_bb (fun q h => absurd h (Nat.not_lt_zero q))).trans HB_bb.out
          have q0 := cell_at (v := .bool b_bb) hBq 0 rfl
          have q1 := cell_at (v := .slice o_bb l_bb k_bb) hBq 1 rfl
          have q2 := cell_at (v := .slice p_bb m_bb u_bb) hBq 2 rfl
          clear hBq
          clear hA
          refine ⟨((Rely.wanted_at rfl (by rfl) e63).trans (by rfl)), ?_⟩
          go_simp <;> (try with_reducible rfl)
        refine Rely.Chain.call (fun _ v w => GN w v 1 2) (fun _ _ _ _ h hb => h.below hb) (fun _ _ _ _ _ h hp => h.keeps hp.keeps) (by rfl) (fun T xs wr hA => ?_) ?_
        · have e63 := hA.tm 15 63 (by rfl) (by rfl)
          have f63 : xs 15 = _ := hA.fa 15 (by rfl)
          (try simp (disch := first | rfl | decide) only [Rely.mask_in] at f63)
          rw [f63] at e63
          clear f63
          have hkp := undrewK hA.kp
          have hbw := undrew (hA.be _ (Nat.le_refl _) (fun q h => absurd h (Nat.not_lt_zero q)))
          clear hA
          refine ⟨((Rely.wanted_at rfl (by rfl) e63).trans (by rfl)), fun K hK => ?_⟩
          clear e63
          go_simp
          refine (of_n 1 1 _ rfl (by decide)).mono ?_
          rintro e wq ⟨v, rfl, c, hb⟩
          exact hK.out _ _ c hb
        refine Rely.Chain.call (fun _ v _ => v = .int .i64 (cmpN A.den 1)) (fun _ _ _ _ h _ => h) (fun _ _ _ _ _ h _ => h) (by rfl) (fun T xs wr hA => ?_) ?_
        · have e63 := hA.tm 15 63 (by rfl) (by rfl)
          have f63 : xs 15 = _ := hA.fa 15 (by rfl)
          (try simp (disch := first | rfl | decide) only [Rely.mask_in] at f63)
          rw [f63] at e63
          clear f63
          have e66 := hA.tm 18 66 (by rfl) (by rfl)
          have f66 : xs 18 = _ := hA.fa 18 (by rfl)
          (try simp (disch := first | rfl | decide) only [Rely.mask_in] at f66)
          rw [f66] at e66
          clear f66
          have e67 := hA.tm 19 67 (by rfl) (by rfl)
          have hkp := undrewK hA.kp
          have hbw := undrew (hA.be _ (Nat.le_refl _) (fun q h => absurd h (Nat.not_lt_zero q)))
          have db := db.keeps hkp
          have c_uu : GN wr (xs 19) 1 2 := hA.fa 19 (by rfl)
          clear hA
          refine ⟨((Rely.wanted_at rfl (by rfl) e63).trans (by rfl)), fun K hK => ?_⟩
          clear e63
          go_simp
          refine (cmp_n db c_uu).mono ?_
          rintro e wq ⟨rfl, hb⟩
          exact hK.out _ _ rfl hb
        refine Rely.Chain.det ?_ (by rfl) (fun T xs wr hA => ?_) ?_
        rotate_left 1
        · have e63 := hA.tm 15 63 (by rfl) (by rfl)
          have f63 : xs 15 = _ := hA.fa 15 (by rfl)
          (try simp (disch := first | rfl | decide) only [Rely.mask_in] at f63)
          rw [f63] at e63
          clear f63
          have e68 := hA.tm 20 68 (by rfl) (by rfl)
          have f68 : xs 20 = (.int .i64 (cmpN A.den 1)) := hA.fa 20 (by rfl)
          rw [f68] at e68
          clear f68
          clear hA
          refine ⟨((Rely.wanted_at rfl (by rfl) e63).trans (by rfl)), ?_⟩
          go_simp <;> (try with_reducible rfl)
        refine Rely.Chain.det ?_ (by rfl) (fun T xs wr hA => ?_) ?_
        rotate_left 1
        · have e63 := hA.tm 15 63 (by rfl) (by rfl)
          have f63 : xs 15 = _ := hA.fa 15 (by rfl)
          (try simp (disch := first | rfl | decide) only [Rely.mask_in] at f63)
          rw [f63] at e63
          clear f63
          have e64 := hA.tm 16 64 (by rfl) (by rfl)
          have f64 : xs 16 = _ := hA.fa 16 (by rfl)
          (try simp (disch := first | rfl | decide) only [Rely.mask_in] at f64)
          rw [f64] at e64
          clear f64
          have e69 := hA.tm 21 69 (by rfl) (by rfl)
          have f69 : xs 21 = _ := hA.fa 21 (by rfl)
          (try simp (disch := first | rfl | decide) only [Rely.mask_in] at f69)
          rw [f69] at e69
          clear f69
          clear hA
          refine ⟨((Rely.wanted_at rfl (by rfl) e63).trans (by rfl)), ?_⟩
          go_simp <;> (try with_reducible rfl)
        refine Rely.Chain.det ?_ (by rfl) (fun T xs wr hA => ?_) ?_
        rotate_left 1
        · have e63 := hA.tm 15 63 (by rfl) (by rfl)
          have f63 : xs 15 = _ := hA.fa 15 (by rfl)
          (try simp (disch := first | rfl | decide) only [Rely.mask_in] at f63)
          rw [f63] at e63
          clear f63
          have e70 := hA.tm 22 70 (by rfl) (by rfl)
          have f70 : xs 22 = _ := hA.fa 22 (by rfl)
          (try simp (disch := first | rfl | decide) only [Rely.mask_in] at f70)
          rw [f70] at e70
          clear f70
          clear hA
          refine ⟨(by rfl), ?_⟩
          go_simp <;> (try with_reducible rfl)
        refine Rely.Chain.det ?_ (by rfl) (fun T xs wr hA => ?_) ?_
        rotate_left 1
        · have e71 := hA.tm 23 71 (by rfl) (by rfl)
          have f71 : xs 23 = _ := hA.fa 23 (by rfl)
          (try simp (disch := first | rfl | decide) only [Rely.mask_in] at f71)
          rw [f71] at e71
          clear f71
          clear hA
          refine ⟨(by rfl), ?_⟩
          go_simp <;> (try with_reducible rfl)
        refine Rely.Chain.det ?_ (by rfl) (fun T xs wr hA => ?_) ?_
        rotate_left 1
        · have e72 := hA.tm 24 72 (by rfl) (by rfl)
          have f72 : xs 24 = _ := hA.fa 24 (by rfl)
          (try simp (disch := first | rfl | decide) only [Rely.mask_in] at f72)
          rw [f72] at e72
          clear f72
          have e2 := hA.pre 2 (by kernel_rfl)
          simp only [List.getElem?_toArray, List.getElem?_cons_succ, List.getElem?_cons_zero] at e2
          have hBq : wr.heap[w.heap.size]? = _ := (hA.bl _ hlt_x0 (fun q h => absurd h (Nat.not_lt_zero q))).trans HB_x0.out
          have q0 := cell_at (v := .bool b0) hBq 0 rfl
          have q1 := cell_at (v := .slice o0 n0 m0) hBq 1 rfl
          have q2 := cell_at (v := .slice p0 l0 e0) hBq 2 rfl
          clear hBq
          clear hA
          refine ⟨((Rely.wanted_at rfl (by rfl) e72).trans (by rfl)), ?_⟩
          go_simp <;> (try with_reducible rfl)
        refine Rely.Chain.det ?_ (by rfl) (fun T xs wr hA => ?_) ?_
        rotate_left 1
        · have e72 := hA.tm 24 72 (by rfl) (by rfl)
          have f72 : xs 24 = _ := hA.fa 24 (by rfl)
          (try simp (disch := first | rfl | decide) only [Rely.mask_in] at f72)
          rw [f72] at e72
          clear f72
          have e5 := hA.pre 5 (by kernel_rfl)
          simp only [List.getElem?_toArray, List.getElem?_cons_succ, List.getElem?_cons_zero] at e5
          have hBq : wr.heap[g_bb]? = _ := (hA.bl _ hlt_bb (fun q h => absurd h (Nat.not_lt_zero q))).trans HB_bb.out
          have q0 := cell_at (v := .bool b_bb) hBq 0 rfl
          have q1 := cell_at (v := .slice o_bb l_bb k_bb) hBq 1 rfl
          have q2 := cell_at (v := .slice p_bb m_bb u_bb) hBq 2 rfl
          clear hBq
          clear hA
          refine ⟨((Rely.wanted_at rfl (by rfl) e72).trans (by rfl)), ?_⟩
          go_simp <;> (try with_reducible rfl)
        refine Rely.Chain.call (fun _ v w => CQ w v (A - A) 155) (fun _ _ _ _ h hb => h.below hb) (fun _ _ _ _ _ h hp => h.keeps hp.keeps) (by rfl) (fun T xs wr hA => ?_) ?_
        · have e72 := hA.tm 24 72 (by rfl) (by rfl)
          have f72 : xs 24 = _ := hA.fa 24 (by rfl)
          (try simp (disch := first | rfl | decide) only [Rely.mask_in] at f72)
          rw [f72] at e72
          clear f72
          have e73 := hA.tm 25 73 (by rfl) (by rfl)
          have f73 : xs 25 = _ := hA.fa 25 (by rfl)
          (try simp (disch := first | rfl | decide) only [Rely.mask_in] at f73)
          rw [f73] at e73
          clear f73
          have e74 := hA.tm 26 74 (by rfl) (by rfl)
          have f74 : xs 26 = _ := hA.fa 26 (by rfl)
          (try simp (disch := first | rfl | decide) only [Rely.mask_in] at f74)
          rw [f74] at e74
          clear f74
          have hkp := undrewK hA.kp
          have hbw := undrew (hA.be _ (Nat.le_refl _) (fun q h => absurd h (Nat.not_lt_zero q)))
          have g0 := g0.keeps hkp
          have c_bb := c_bb.keeps hkp
          clear hA
          refine ⟨((Rely.wanted_at rfl (by rfl) e72).trans (by rfl)), fun K hK => ?_⟩
          clear e72
          go_simp
          refine (hsub_any g0 c_bb.hq (by omega) (by omega)).mono ?_
          rintro e wq ⟨v, rfl, c, hb⟩
          exact hK.out _ _ c hb
        refine Rely.Chain.call (fun _ v _ => v = .int .i64 0) (fun _ _ _ _ h _ => h) (fun _ _ _ _ _ h _ => h) (by rfl) (fun T xs wr hA => ?_) ?_
        · have e72 := hA.tm 24 72 (by rfl) (by rfl)
          have f72 : xs 24 = _ := hA.fa 24 (by rfl)
          (try simp (disch := first | rfl | decide) only [Rely.mask_in] at f72)
          rw [f72] at e72
          clear f72
          have e75 := hA.tm 27 75 (by rfl) (by rfl)
          have hkp := undrewK hA.kp
          have hbw := undrew (hA.be _ (Nat.le_refl _) (fun q h => absurd h (Nat.not_lt_zero q)))
          have c_dd : CQ wr (xs 27) (A - A) 155 := hA.fa 27 (by rfl)
          clear hA
          refine ⟨((Rely.wanted_at rfl (by rfl) e72).trans (by rfl)), fun K hK => ?_⟩
          clear e72
          go_simp
          refine (hsign_s c_dd.hq HU.out (by omega)).mono ?_
          rintro e wq ⟨rfl, hb⟩
          exact hK.out _ _ rfl hb
        refine Rely.Chain.det ?_ (by rfl) (fun T xs wr hA => ?_) ?_
        rotate_left 1
        · have e72 := hA.tm 24 72 (by rfl) (by rfl)
          have f72 : xs 24 = _ := hA.fa 24 (by rfl)
          (try simp (disch := first | rfl | decide) only [Rely.mask_in] at f72)
          rw [f72] at e72
          clear f72
          have e76 := hA.tm 28 76 (by rfl) (by rfl)
          have f76 : xs 28 = (.int .i64 0) := hA.fa 28 (by rfl)
          rw [f76] at e76
          clear f76
          clear hA
          refine ⟨((Rely.wanted_at rfl (by rfl) e72).trans (by rfl)), ?_⟩
          go_simp <;> (try with_reducible rfl)
        refine Rely.Chain.det ?_ (by rfl) (fun T xs wr hA => ?_) ?_
        rotate_left 1
        · have e72 := hA.tm 24 72 (by rfl) (by rfl)
          have f72 : xs 24 = _ := hA.fa 24 (by rfl)
          (try simp (disch := first | rfl | decide) only [Rely.mask_in] at f72)
          rw [f72] at e72
          clear f72
          have e77 := hA.tm 29 77 (by rfl) (by rfl)
          have f77 : xs 29 = _ := hA.fa 29 (by rfl)
          (try simp (disch := first | rfl | decide) only [Rely.mask_in] at f77)
          rw [f77] at e77
          clear f77
          clear hA
          refine ⟨(by rfl), ?_⟩
          go_simp <;> (try with_reducible rfl)
        refine Rely.Chain.det ?_ (by rfl) (fun T xs wr hA => ?_) ?_
        rotate_left 1
        · have e78 := hA.tm 30 78 (by rfl) (by rfl)
          have f78 : xs 30 = _ := hA.fa 30 (by rfl)
          (try simp (disch := first | rfl | decide) only [Rely.mask_in] at f78)
          rw [f78] at e78
          clear f78
          clear hA
          refine ⟨(by rfl), ?_⟩
          go_simp <;> (try with_reducible rfl)
        refine Rely.Chain.done (fun xs wx11 hL => ?_)
        obtain ⟨⟨hbe, hbl, hkp0⟩, hf, hp, hn⟩ := hL
        have f0 : xs 0 = _ := hf 0 (by decide)
        (try simp (disch := first | rfl | decide) only [Rely.mask_in] at f0)
        have f1 : xs 1 = _ := hf 1 (by decide)
        (try simp (disch := first | rfl | decide) only [Rely.mask_in] at f1)
        have f2 : xs 2 = _ := hf 2 (by decide)
        (try simp (disch := first | rfl | decide) only [Rely.mask_in] at f2)
        have f3 : xs 3 = _ := hf 3 (by decide)
        (try simp (disch := first | rfl | decide) only [Rely.mask_in] at f3)
        have f4 : xs 4 = (.bool true) := hf 4 (by decide)
        have f5 : xs 5 = _ := hf 5 (by decide)
        (try simp (disch := first | rfl | decide) only [Rely.mask_in] at f5)
        have f6 : xs 6 = _ := hf 6 (by decide)
        (try simp (disch := first | rfl | decide) only [Rely.mask_in] at f6)
        have f7 : xs 7 = _ := hf 7 (by decide)
        (try simp (disch := first | rfl | decide) only [Rely.mask_in] at f7)
        have f8 : xs 8 = _ := hf 8 (by decide)
        (try simp (disch := first | rfl | decide) only [Rely.mask_in] at f8)
        have f9 : xs 9 = _ := hf 9 (by decide)
        (try simp (disch := first | rfl | decide) only [Rely.mask_in] at f9)
        have f10 : xs 10 = _ := hf 10 (by decide)
        (try simp (disch := first | rfl | decide) only [Rely.mask_in] at f10)
        have f11 : xs 11 = _ := hf 11 (by decide)
        (try simp (disch := first | rfl | decide) only [Rely.mask_in] at f11)
        have f12 : xs 12 = (.int .i64 0) := hf 12 (by decide)
        have f13 : xs 13 = _ := hf 13 (by decide)
        (try simp (disch := first | rfl | decide) only [Rely.mask_in] at f13)
        have f14 : xs 14 = _ := hf 14 (by decide)
        (try simp (disch := first | rfl | decide) only [Rely.mask_in] at f14)
        have f15 : xs 15 = _ := hf 15 (by decide)
        (try simp (disch := first | rfl | decide) only [Rely.mask_in] at f15)
        have f16 : xs 16 = _ := hf 16 (by decide)
        (try simp (disch := first | rfl | decide) only [Rely.mask_in] at f16)
        have f17 : xs 17 = _ := hf 17 (by decide)
        (try simp (disch := first | rfl | decide) only [Rely.mask_in] at f17)
        have f18 : xs 18 = _ := hf 18 (by decide)
        (try simp (disch := first | rfl | decide) only [Rely.mask_in] at f18)
        have c_uu : GN wx11 (xs 19) 1 2 := hf 19 (by decide)
        have f20 : xs 20 = (.int .i64 (cmpN A.den 1)) := hf 20 (by decide)
        have f21 : xs 21 = _ := hf 21 (by decide)
        (try simp (disch := first | rfl | decide) only [Rely.mask_in] at f21)
        have f22 : xs 22 = _ := hf 22 (by decide)
        (try simp (disch := first | rfl | decide) only [Rely.mask_in] at f22)
        have f23 : xs 23 = _ := hf 23 (by decide)
        (try simp (disch := first | rfl | decide) only [Rely.mask_in] at f23)
        have f24 : xs 24 = _ := hf 24 (by decide)
        (try simp (disch := first | rfl | decide) only [Rely.mask_in] at f24)
        have f25 : xs 25 = _ := hf 25 (by decide)
        (try simp (disch := first | rfl | decide) only [Rely.mask_in] at f25)
        have f26 : xs 26 = _ := hf 26 (by decide)
        (try simp (disch := first | rfl | decide) only [Rely.mask_in] at f26)
        have c_dd : CQ wx11 (xs 27) (A - A) 155 := hf 27 (by decide)
        have f28 : xs 28 = (.int .i64 0) := hf 28 (by decide)
        have f29 : xs 29 = _ := hf 29 (by decide)
        (try simp (disch := first | rfl | decide) only [Rely.mask_in] at f29)
        have f30 : xs 30 = _ := hf 30 (by decide)
        (try simp (disch := first | rfl | decide) only [Rely.mask_in] at f30)
        have f31 : xs 31 = _ := hf 31 (by decide)
        (try simp (disch := first | rfl | decide) only [Rely.mask_in] at f31)
        clear hf hp hn
        refine Rely.rest_done ?_
        simp only [Rely.fill, List.setIfInBounds_toArray, List.set_cons_zero, List.set_cons_succ, f0, f1, f2, f3, f4, f5, f6, f7, f8, f9, f10, f11, f12, f13, f14, f15, f16, f17, f18, f20, f21, f22, f23, f24, f25, f26, f28, f29, f30, f31]
        clear f0 f1 f2 f3 f4 f5 f6 f7 f8 f9 f10 f11 f12 f13 f14 f15 f16 f17 f18 f20 f21 f22 f23 f24 f25 f26 f28 f29 f30 f31
        generalize xs 19 = v_uu at c_uu ⊢
        generalize xs 27 = v_dd at c_dd ⊢
        clear xs
        obtain ⟨o_uu, l_uu, k_uu, rfl, -⟩ := c_uu.shape
        obtain ⟨b_dd, o_dd, l_dd, k_dd, p_dd, m_dd, u_dd, rfl⟩ := c_dd.shape
        have hbx := undrew (hbe _ (Nat.le_refl _) (fun q h => absurd h (Nat.not_lt_zero q)))
        clear hbe hbl hkp0
        replace g0 := g0.below hbx
        replace z1 := z1.below hbx
        replace c_z := c_z.below hbx
        replace c_o := c_o.below hbx
        replace c_bb := c_bb.below hbx
        replace nb := nb.below hbx
        replace db := db.below hbx
        replace c_kk := c_kk.below hbx
        replace c_ff := c_ff.below hbx
        replace c_cc := c_cc.below hbx
        replace c_y := c_y.below hbx
        replace c_ww := c_ww.below hbx
        replace c_oo := c_oo.below hbx
        replace hbt := hbt.trans (hbx.mono hbt.size)
        replace HB_x0 := Lib.hid ((hbx.block _ (lt_of_block HB_x0.out)).trans HB_x0.out)
        replace HB_x1 := Lib.hid ((hbx.block _ (lt_of_block HB_x1.out)).trans HB_x1.out)
        replace HB_bb := Lib.hid ((hbx.block _ (lt_of_block HB_bb.out)).trans HB_bb.out)
        replace HB_cc := Lib.hid ((hbx.block _ (lt_of_block HB_cc.out)).trans HB_cc.out)
        replace HB_ww := Lib.hid ((hbx.block _ (lt_of_block HB_ww.out)).trans HB_ww.out)
        replace HB_oo := Lib.hid ((hbx.block _ (lt_of_block HB_oo.out)).trans HB_oo.out)
        clear hbx
        replace x00 := cell_at (v := .bool b0) HB_x0.out 0 rfl
        replace x01 := cell_at (v := .slice o0 n0 m0) HB_x0.out 1 rfl
        replace x02 := cell_at (v := .slice p0 l0 e0) HB_x0.out 2 rfl
        replace x10 := cell_at (v := .bool b1) HB_x1.out 0 rfl
        replace x11 := cell_at (v := .slice o1 n1 m1) HB_x1.out 1 rfl
        replace bb0 := cell_at (v := .bool b_bb) HB_bb.out 0 rfl
        replace bb1 := cell_at (v := .slice o_bb l_bb k_bb) HB_bb.out 1 rfl
        replace bb2 := cell_at (v := .slice p_bb m_bb u_bb) HB_bb.out 2 rfl
        replace cc0 := cell_at (v := .bool b_cc) HB_cc.out 0 rfl
        replace cc1 := cell_at (v := .slice o_cc l_cc k_cc) HB_cc.out 1 rfl
        replace cc2 := cell_at (v := .slice p_cc m_cc u_cc) HB_cc.out 2 rfl
        replace ww0 := cell_at (v := .bool b_ww) HB_ww.out 0 rfl
        replace ww1 := cell_at (v := .slice o_ww l_ww k_ww) HB_ww.out 1 rfl
        replace oo0 := cell_at (v := .bool b_oo) HB_oo.out 0 rfl
        replace oo1 := cell_at (v := .slice o_oo l_oo k_oo) HB_oo.out 1 rfl
        clear hlt_x0 hlt_x1 hlt_ww hlt_oo
        go_wp2_with fail
        go_ret
        exact ⟨rfl, hbt⟩
    · have hl1 : decide ((8 : Int) < (n1 : Int)) = true := decide_eq_true (by omega)
      clear a0 a1 hn
      have hbt := Below.refl w.heap.size w
      go_enter Tryd.func8, Tryd.ntmps8
      go_wp2_with fail
      have hbx : Below w.heap.size w ((w.alloc (.cells #[.bool b0, .slice o0 n0 m0, .slice p0 l0 e0] 27)).alloc (.cells #[.bool b1, .slice o1 n1 m1] 25)) := (((Below.refl _ _).alloc (by simp) _).alloc (by simp) _)
      replace hbt := hbt.trans (hbx.mono hbt.size)
      clear hbx
      have HB_x0 : Hid (((w.alloc (.cells #[.bool b0, .slice o0 n0 m0, .slice p0 l0 e0] 27)).alloc (.cells #[.bool b1, .slice o1 n1 m1] 25)).heap[w.heap.size]? = some (.cells #[.bool b0, .slice o0 n0 m0, .slice p0 l0 e0] 27 (0, 0))) := Lib.hid (made_more (made_at w (.cells #[.bool b0, .slice o0 n0 m0, .slice p0 l0 e0] 27) _ (by first | rfl | simp)) _)
      have HB_x1 : Hid (((w.alloc (.cells #[.bool b0, .slice o0 n0 m0, .slice p0 l0 e0] 27)).alloc (.cells #[.bool b1, .slice o1 n1 m1] 25)).heap[w.heap.size + 1]? = some (.cells #[.bool b1, .slice o1 n1 m1] 25 (0, 0))) := Lib.hid (made_at (w.alloc (.cells #[.bool b0, .slice o0 n0 m0, .slice p0 l0 e0] 27)) (.cells #[.bool b1, .slice o1 n1 m1] 25) _ (by first | rfl | simp))
      generalize ((w.alloc (.cells #[.bool b0, .slice o0 n0 m0, .slice p0 l0 e0] 27)).alloc (.cells #[.bool b1, .slice o1 n1 m1] 25)) = wx1 at *
      have x00 := cell_at (v := .bool b0) HB_x0.out 0 rfl
      have x01 := cell_at (v := .slice o0 n0 m0) HB_x0.out 1 rfl
      have x02 := cell_at (v := .slice p0 l0 e0) HB_x0.out 2 rfl
      have x10 := cell_at (v := .bool b1) HB_x1.out 0 rfl
      have x11 := cell_at (v := .slice o1 n1 m1) HB_x1.out 1 rfl
      refine (HF.out _ (tab_below HTB.out hbt)).mono ?_
      rintro e wx2 ⟨rfl, hbx⟩
      replace hbt := hbt.trans (hbx.mono hbt.size)
      replace HB_x0 := Lib.hid ((hbx.block _ (lt_of_block HB_x0.out)).trans HB_x0.out)
      replace HB_x1 := Lib.hid ((hbx.block _ (lt_of_block HB_x1.out)).trans HB_x1.out)
      clear hbx
      replace x00 := cell_at (v := .bool b0) HB_x0.out 0 rfl
      replace x01 := cell_at (v := .slice o0 n0 m0) HB_x0.out 1 rfl
      replace x02 := cell_at (v := .slice p0 l0 e0) HB_x0.out 2 rfl
      replace x10 := cell_at (v := .bool b1) HB_x1.out 0 rfl
      replace x11 := cell_at (v := .slice o1 n1 m1) HB_x1.out 1 rfl
      go_wp2_with fail
      refine (qshort_t1 8 _ rfl h0).mono ?_
      rintro e wx3 ⟨rfl, hbx⟩
      replace hbt := hbt.trans (hbx.mono hbt.size)
      replace HB_x0 := Lib.hid ((hbx.block _ (lt_of_block HB_x0.out)).trans HB_x0.out)
      replace HB_x1 := Lib.hid ((hbx.block _ (lt_of_block HB_x1.out)).trans HB_x1.out)
      clear hbx
      replace x00 := cell_at (v := .bool b0) HB_x0.out 0 rfl
      replace x01 := cell_at (v := .slice o0 n0 m0) HB_x0.out 1 rfl
      replace x02 := cell_at (v := .slice p0 l0 e0) HB_x0.out 2 rfl
      replace x10 := cell_at (v := .bool b1) HB_x1.out 0 rfl
      replace x11 := cell_at (v := .slice o1 n1 m1) HB_x1.out 1 rfl
      go_wp2_with fail
      go_ret
      exact ⟨rfl, hbt⟩
  · have HS := Lib.hid hs
    clear hs a0 a1
    have hbt := Below.refl w.heap.size w
    go_enter Tryd.func8, Tryd.ntmps8
    go_wp2_with fail
    have hbx : Below w.heap.size w ((w.alloc (.cells #[.bool b0, .slice o0 n0 m0, .slice p0 l0 e0] 27)).alloc (.cells #[.bool b1, .slice o1 n1 m1] 25)) := (((Below.refl _ _).alloc (by simp) _).alloc (by simp) _)
    replace hbt := hbt.trans (hbx.mono hbt.size)
    clear hbx
    have HB_x0 : Hid (((w.alloc (.cells #[.bool b0, .slice o0 n0 m0, .slice p0 l0 e0] 27)).alloc (.cells #[.bool b1, .slice o1 n1 m1] 25)).heap[w.heap.size]? = some (.cells #[.bool b0, .slice o0 n0 m0, .slice p0 l0 e0] 27 (0, 0))) := Lib.hid (made_more (made_at w (.cells #[.bool b0, .slice o0 n0 m0, .slice p0 l0 e0] 27) _ (by first | rfl | simp)) _)
    have HB_x1 : Hid (((w.alloc (.cells #[.bool b0, .slice o0 n0 m0, .slice p0 l0 e0] 27)).alloc (.cells #[.bool b1, .slice o1 n1 m1] 25)).heap[w.heap.size + 1]? = some (.cells #[.bool b1, .slice o1 n1 m1] 25 (0, 0))) := Lib.hid (made_at (w.alloc (.cells #[.bool b0, .slice o0 n0 m0, .slice p0 l0 e0] 27)) (.cells #[.bool b1, .slice o1 n1 m1] 25) _ (by first | rfl | simp))
    generalize ((w.alloc (.cells #[.bool b0, .slice o0 n0 m0, .slice p0 l0 e0] 27)).alloc (.cells #[.bool b1, .slice o1 n1 m1] 25)) = wx1 at *
    have x00 := cell_at (v := .bool b0) HB_x0.out 0 rfl
    have x01 := cell_at (v := .slice o0 n0 m0) HB_x0.out 1 rfl
    have x02 := cell_at (v := .slice p0 l0 e0) HB_x0.out 2 rfl
    have x10 := cell_at (v := .bool b1) HB_x1.out 0 rfl
    have x11 := cell_at (v := .slice o1 n1 m1) HB_x1.out 1 rfl
    refine (HF.out _ (tab_below HTB.out hbt)).mono ?_
    rintro e wx2 ⟨rfl, hbx⟩
    replace hbt := hbt.trans (hbx.mono hbt.size)
    replace HB_x0 := Lib.hid ((hbx.block _ (lt_of_block HB_x0.out)).trans HB_x0.out)
    replace HB_x1 := Lib.hid ((hbx.block _ (lt_of_block HB_x1.out)).trans HB_x1.out)
    clear hbx
    replace x00 := cell_at (v := .bool b0) HB_x0.out 0 rfl
    replace x01 := cell_at (v := .slice o0 n0 m0) HB_x0.out 1 rfl
    replace x02 := cell_at (v := .slice p0 l0 e0) HB_x0.out 2 rfl
    replace x10 := cell_at (v := .bool b1) HB_x1.out 0 rfl
    replace x11 := cell_at (v := .slice o1 n1 m1) HB_x1.out 1 rfl
    go_wp2_with fail
    refine (qshort_f1 8 _ rfl HS.out).mono ?_
    rintro e wx3 ⟨rfl, hbx⟩
    replace hbt := hbt.trans (hbx.mono hbt.size)
    replace HB_x0 := Lib.hid ((hbx.block _ (lt_of_block HB_x0.out)).trans HB_x0.out)
    replace HB_x1 := Lib.hid ((hbx.block _ (lt_of_block HB_x1.out)).trans HB_x1.out)
    clear hbx
    replace x00 := cell_at (v := .bool b0) HB_x0.out 0 rfl
    replace x01 := cell_at (v := .slice o0 n0 m0) HB_x0.out 1 rfl
    replace x02 := cell_at (v := .slice p0 l0 e0) HB_x0.out 2 rfl
    replace x10 := cell_at (v := .bool b1) HB_x1.out 0 rfl
    replace x11 := cell_at (v := .slice o1 n1 m1) HB_x1.out 1 rfl
    go_wp2_with fail
    go_ret
    exact ⟨rfl, hbt⟩
end Go.Proofs.YtmindndmegiaaaaDoor
