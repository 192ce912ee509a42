/-
  The helpers of the laws: Right, below, is, same, short, fit.
-/
import Derived.Test.YtmindndmegiaaaaDoorQRatD
namespace Go.Proofs.YtmindndmegiaaaaDoor
open Go.RowKit
set_option maxRecDepth 100000

theorem last_at {w : World} {ao : Option Addr} {n l c k : Nat} (h : Sl w .u32 (.slice ao l c) (dig L32 n)) (hn : 0 < n) (hk : n < L32 ^ k) : 1 ≤ l ∧ l ≤ k ∧ ∃ a z, ao = some a ∧ At1 w (a.add (l - 1)) .u32 z ∧ (z == 0) = false := by
  have hl := sl_len h
  have h1 := dig_len_pos hn
  subst hl
  obtain ⟨ao', cap, e, -, -, -, q⟩ := h
  injection e with e1 e2 e3
  subst e1
  obtain ⟨a, rfl, hc⟩ := q ((dig L32 n).length - 1) (by omega)
  refine ⟨h1, length_dig_le (by decide) hk, a, _, rfl, hc, ?_⟩
  have := dig_last (B := L32) (by decide) h1
  rw [beq_eq_false_iff_ne]
  unfold nth
  omega
theorem right_any {va : Value} {q : Rat} {k : Nat} {w : World} (hx : CQ w va q k) (hk : k ≤ 100000) :
    Calls Tryd.prog 30 #[va] w fun e w' => e = .returned (.bool true) ∧ Below w.heap.size w w' := by
  obtain ⟨ao, l, c, po, m, e, rfl, s1, s2, l1, l2⟩ := hx
  have g1 := gn_dig s1 l1
  have g2 := gn_dig s2 l2
  obtain ⟨hm, hmk, ad, yd, hpo, cd, hyd⟩ := last_at s2 q.den_pos l2
  by_cases hz : q.num = 0
  · refine right_zero _ ao po l c m e k _ _ ad yd w g1 g2 hk q.reduced hm (by omega) hpo cd hyd (by rw [hz]; rfl) ?_
    have hl := sl_len s1
    rw [hz, Int.natAbs_zero, dig_zero] at hl
    exact hl
  · obtain ⟨hl, hlk, an, yn, hao, cn, hyn⟩ := last_at s1 (show 0 < q.num.natAbs by omega) l1
    exact right_more _ ao po l c m e k _ _ ad an yd yn w g1 g2 hk q.reduced hm (by omega) hpo cd hyd hl (by omega) hao cn hyn

set_option maxHeartbeats 2000000 in
theorem below_any {va : Value} {n : Int} {d k : Nat} {w : World} (ha : GQ w va n d k) (hk : k ≤ 100000) :
    Calls Tryd.prog 11 #[va] w fun e w' => ∃ v, e = .returned v ∧ CI w' v (d : Int) (k + 2) ∧ Below w.heap.size w w' := by
  obtain ⟨ba, oa, la, ka, pa, ma, ca, x, y, rfl, g1, g2, -, rfl⟩ := ha
  clear g1
  by_cases h0 : y = 0
  · subst h0
    have hz : (((bl 0 : Nat) : Int) == 0) = true := by rw [bl_zero]; rfl
    have hbt := Below.refl w.heap.size w
    go_enter Tryd.func11, Tryd.ntmps11
    go_wp2_with fail
    have hbx : Below w.heap.size w ((w.alloc (.cells #[.bool ba, .slice oa la ka, .slice pa ma ca] 27)).alloc (.cells #[.bool false, .slice none 0 0] 25)) := (((Below.refl _ _).alloc (by simp) _).alloc (by simp) _)
    replace g2 := g2.below hbx
    replace hbt := hbt.trans (hbx.mono hbt.size)
    clear hbx
    have HB_xa : Hid (((w.alloc (.cells #[.bool ba, .slice oa la ka, .slice pa ma ca] 27)).alloc (.cells #[.bool false, .slice none 0 0] 25)).heap[w.heap.size]? = some (.cells #[.bool ba, .slice oa la ka, .slice pa ma ca] 27 (0, 0))) := Lib.hid (made_more (made_at w (.cells #[.bool ba, .slice oa la ka, .slice pa ma ca] 27) _ (by first | rfl | simp)) _)
    have HB_q : Hid (((w.alloc (.cells #[.bool ba, .slice oa la ka, .slice pa ma ca] 27)).alloc (.cells #[.bool false, .slice none 0 0] 25)).heap[w.heap.size + 1]? = some (.cells #[.bool false, .slice none 0 0] 25 (0, 0))) := Lib.hid (made_at (w.alloc (.cells #[.bool ba, .slice oa la ka, .slice pa ma ca] 27)) (.cells #[.bool false, .slice none 0 0] 25) _ (by first | rfl | simp))
    generalize ((w.alloc (.cells #[.bool ba, .slice oa la ka, .slice pa ma ca] 27)).alloc (.cells #[.bool false, .slice none 0 0] 25)) = wx1 at *
    have xa0 := cell_at (v := .bool ba) HB_xa.out 0 rfl
    have xa1 := cell_at (v := .slice oa la ka) HB_xa.out 1 rfl
    have xa2 := cell_at (v := .slice pa ma ca) HB_xa.out 2 rfl
    have q0 := cell_at (v := .bool false) HB_q.out 0 rfl
    have q1 := cell_at (v := .slice none 0 0) HB_q.out 1 rfl
    refine (bits_n g2 (by omega)).mono ?_
    rintro e wi ⟨rfl, rfl⟩
    go_wp2_with fail
    refine (wof_any 1 _ (by decide) (by decide)).mono ?_
    rintro e wx2 ⟨v_p, rfl, c_p, hbx⟩
    replace g2 := g2.below hbx
    replace hbt := hbt.trans (hbx.mono hbt.size)
    replace HB_xa := Lib.hid ((hbx.block _ (lt_of_block HB_xa.out)).trans HB_xa.out)
    replace HB_q := Lib.hid ((hbx.block _ (lt_of_block HB_q.out)).trans HB_q.out)
    clear hbx
    replace xa0 := cell_at (v := .bool ba) HB_xa.out 0 rfl
    replace xa1 := cell_at (v := .slice oa la ka) HB_xa.out 1 rfl
    replace xa2 := cell_at (v := .slice pa ma ca) HB_xa.out 2 rfl
    replace q0 := cell_at (v := .bool false) HB_q.out 0 rfl
    replace q1 := cell_at (v := .slice none 0 0) HB_q.out 1 rfl
    obtain ⟨b_p, o_p, l_p, k_p, rfl⟩ := c_p.shape
    replace c_p := c_p.more (show 2 ≤ k + 2 by omega)
    have fz_q0 := froz_at HB_q.out 0
    have fz_q1 := froz_at HB_q.out 1
    go_wp2_with fail
    exact bodyPost_ret (v := .agg #[.bool b_p, .slice o_p l_p k_p]) (by simp [results, Tryd.results11, go_sem, q0, q1]) rfl ⟨_, rfl, c_p.keeps (priv2 HB_q.out (by rfl) (by rfl)).keeps, below_setg hbt (by omega) _ _ ⟩
  · have hz : (((bl y : Nat) : Int) == 0) = false := by rw [beq_eq_false_iff_ne]; have := mt bl_eq0.1 h0; omega
    rw [if_neg h0]
    clear h0
    have hbt := Below.refl w.heap.size w
    go_enter Tryd.func11, Tryd.ntmps11
    go_wp2_with fail
    have hbx : Below w.heap.size w ((w.alloc (.cells #[.bool ba, .slice oa la ka, .slice pa ma ca] 27)).alloc (.cells #[.bool false, .slice none 0 0] 25)) := (((Below.refl _ _).alloc (by simp) _).alloc (by simp) _)
    replace g2 := g2.below hbx
    replace hbt := hbt.trans (hbx.mono hbt.size)
    clear hbx
    have HB_xa : Hid (((w.alloc (.cells #[.bool ba, .slice oa la ka, .slice pa ma ca] 27)).alloc (.cells #[.bool false, .slice none 0 0] 25)).heap[w.heap.size]? = some (.cells #[.bool ba, .slice oa la ka, .slice pa ma ca] 27 (0, 0))) := Lib.hid (made_more (made_at w (.cells #[.bool ba, .slice oa la ka, .slice pa ma ca] 27) _ (by first | rfl | simp)) _)
    have HB_q : Hid (((w.alloc (.cells #[.bool ba, .slice oa la ka, .slice pa ma ca] 27)).alloc (.cells #[.bool false, .slice none 0 0] 25)).heap[w.heap.size + 1]? = some (.cells #[.bool false, .slice none 0 0] 25 (0, 0))) := Lib.hid (made_at (w.alloc (.cells #[.bool ba, .slice oa la ka, .slice pa ma ca] 27)) (.cells #[.bool false, .slice none 0 0] 25) _ (by first | rfl | simp))
    generalize ((w.alloc (.cells #[.bool ba, .slice oa la ka, .slice pa ma ca] 27)).alloc (.cells #[.bool false, .slice none 0 0] 25)) = wx1 at *
    have xa0 := cell_at (v := .bool ba) HB_xa.out 0 rfl
    have xa1 := cell_at (v := .slice oa la ka) HB_xa.out 1 rfl
    have xa2 := cell_at (v := .slice pa ma ca) HB_xa.out 2 rfl
    have q0 := cell_at (v := .bool false) HB_q.out 0 rfl
    have q1 := cell_at (v := .slice none 0 0) HB_q.out 1 rfl
    refine (bits_n g2 (by omega)).mono ?_
    rintro e wi ⟨rfl, rfl⟩
    go_wp2_with fail
    refine (big_any false _ y k _ g2 (by omega)).mono ?_
    rintro e wx2 ⟨v_p, rfl, c_p, hbx⟩
    replace g2 := g2.below hbx
    replace hbt := hbt.trans (hbx.mono hbt.size)
    replace HB_xa := Lib.hid ((hbx.block _ (lt_of_block HB_xa.out)).trans HB_xa.out)
    replace HB_q := Lib.hid ((hbx.block _ (lt_of_block HB_q.out)).trans HB_q.out)
    clear hbx
    replace xa0 := cell_at (v := .bool ba) HB_xa.out 0 rfl
    replace xa1 := cell_at (v := .slice oa la ka) HB_xa.out 1 rfl
    replace xa2 := cell_at (v := .slice pa ma ca) HB_xa.out 2 rfl
    replace q0 := cell_at (v := .bool false) HB_q.out 0 rfl
    replace q1 := cell_at (v := .slice none 0 0) HB_q.out 1 rfl
    obtain ⟨b_p, o_p, l_p, k_p, rfl⟩ := c_p.shape
    replace c_p := c_p.more (show k ≤ k + 2 by omega)
    have fz_q0 := froz_at HB_q.out 0
    have fz_q1 := froz_at HB_q.out 1
    go_wp2_with fail
    exact bodyPost_ret (v := .agg #[.bool b_p, .slice o_p l_p k_p]) (by simp [results, Tryd.results11, go_sem, q0, q1]) rfl ⟨_, rfl, c_p.keeps (priv2 HB_q.out (by rfl) (by rfl)).keeps, below_setg hbt (by omega) _ _ ⟩

set_option maxHeartbeats 2000000 in
theorem is_right {va vb vc : Value} {q : Rat} {y z : Int} {k k1 k2 : Nat} {w : World} (ha : CQ w va q k) (hb : GI w vb y k1) (hc : GI w vc z k2) (h0 : k ≤ 100000) (h1 : k1 ≤ 100000) (h2 : k2 ≤ 100000) (h : q.num * z = y * (q.den : Int)) :
    Calls Tryd.prog 13 #[va, vb, vc] w fun e w' => e = .returned (.bool true) ∧ Below w.heap.size w w' := by
  obtain ⟨ba, oa, la, ka, pa, ma, ca, rfl⟩ := ha.shape
  obtain ⟨bb, ob, lb, kb, x1, rfl, -, -⟩ := hb.shape
  obtain ⟨bc, oc, lc, kc, x2, rfl, -, -⟩ := hc.shape
  have na := ha.num
  have ga := ha.gq
  have HE := Lib.hid (show sgnZ (q.num * z - y * (q.den : Int)) = 0 by rw [h]; exact sgnZ_self _)
  clear h
  have hbt := Below.refl w.heap.size w
  go_enter Tryd.func13, Tryd.ntmps13
  go_wp2_with fail
  have hbx : Below w.heap.size w (((w.alloc (.cells #[.bool ba, .slice oa la ka, .slice pa ma ca] 27)).alloc (.cells #[.bool bb, .slice ob lb kb] 25)).alloc (.cells #[.bool bc, .slice oc lc kc] 25)) := ((((Below.refl _ _).alloc (by simp) _).alloc (by simp) _).alloc (by simp; omega) _)
  replace ha := ha.below hbx
  replace na := na.below hbx
  replace hb := hb.below hbx
  replace hc := hc.below hbx
  replace ga := ga.below hbx
  replace hbt := hbt.trans (hbx.mono hbt.size)
  clear hbx
  have HB_xa : Hid ((((w.alloc (.cells #[.bool ba, .slice oa la ka, .slice pa ma ca] 27)).alloc (.cells #[.bool bb, .slice ob lb kb] 25)).alloc (.cells #[.bool bc, .slice oc lc kc] 25)).heap[w.heap.size]? = some (.cells #[.bool ba, .slice oa la ka, .slice pa ma ca] 27 (0, 0))) := Lib.hid (made_more (made_more (made_at w (.cells #[.bool ba, .slice oa la ka, .slice pa ma ca] 27) _ (by first | rfl | simp)) _) _)
  have HB_xb : Hid ((((w.alloc (.cells #[.bool ba, .slice oa la ka, .slice pa ma ca] 27)).alloc (.cells #[.bool bb, .slice ob lb kb] 25)).alloc (.cells #[.bool bc, .slice oc lc kc] 25)).heap[w.heap.size + 1]? = some (.cells #[.bool bb, .slice ob lb kb] 25 (0, 0))) := Lib.hid (made_more (made_at (w.alloc (.cells #[.bool ba, .slice oa la ka, .slice pa ma ca] 27)) (.cells #[.bool bb, .slice ob lb kb] 25) _ (by first | rfl | simp)) _)
  have HB_xc : Hid ((((w.alloc (.cells #[.bool ba, .slice oa la ka, .slice pa ma ca] 27)).alloc (.cells #[.bool bb, .slice ob lb kb] 25)).alloc (.cells #[.bool bc, .slice oc lc kc] 25)).heap[w.heap.size + 2]? = some (.cells #[.bool bc, .slice oc lc kc] 25 (0, 0))) := Lib.hid (made_at ((w.alloc (.cells #[.bool ba, .slice oa la ka, .slice pa ma ca] 27)).alloc (.cells #[.bool bb, .slice ob lb kb] 25)) (.cells #[.bool bc, .slice oc lc kc] 25) _ (by first | rfl | simp))
  generalize (((w.alloc (.cells #[.bool ba, .slice oa la ka, .slice pa ma ca] 27)).alloc (.cells #[.bool bb, .slice ob lb kb] 25)).alloc (.cells #[.bool bc, .slice oc lc kc] 25)) = wx1 at *
  have xa0 := cell_at (v := .bool ba) HB_xa.out 0 rfl
  have xa1 := cell_at (v := .slice oa la ka) HB_xa.out 1 rfl
  have xa2 := cell_at (v := .slice pa ma ca) HB_xa.out 2 rfl
  have xb0 := cell_at (v := .bool bb) HB_xb.out 0 rfl
  have xb1 := cell_at (v := .slice ob lb kb) HB_xb.out 1 rfl
  have xc0 := cell_at (v := .bool bc) HB_xc.out 0 rfl
  have xc1 := cell_at (v := .slice oc lc kc) HB_xc.out 1 rfl
  have hlt_xa := lt_of_block HB_xa.out
  have hlt_xb := lt_of_block HB_xb.out
  have hlt_xc := lt_of_block HB_xc.out
  refine Rely.region (by kernel_rfl) [[], [0], [0, 1], [0, 1, 2], [0, 1, 2, 3], [0, 1, 2], [0, 1, 2, 3, 4, 5], [0, 1, 2], [0, 1, 2], [0, 1, 2, 3, 4, 5, 6, 8], [0, 1, 2, 3, 4, 5, 6, 7, 8, 9], [0, 1, 2, 3, 4, 5, 6, 7, 8, 9, 10], [0, 1, 2, 3, 4, 5, 6, 7, 8, 9, 10, 11], [0, 1, 2, 3, 4, 5, 6, 7, 8, 9, 10, 11, 12], [0, 1, 2, 3, 4, 5, 6, 7, 8, 9, 10, 11, 12, 13]] [] [] (fun q => [].getD q 0) 0 15 (by kernel_rfl) (by kernel_rfl) (fun q h => absurd h (Nat.not_lt_zero q)) (fun q _ h => absurd h (Nat.not_lt_zero q)) ?_
  refine Rely.Chain.det ?_ (by rfl) (fun T xs wr hA => ?_) ?_
  rotate_left 1
  · have e3 := hA.pre 3 (by kernel_rfl)
    simp only [List.getElem?_toArray, List.getElem?_cons_succ, List.getElem?_cons_zero] at e3
    have hBq : wr.heap[w.heap.size]? = _ := (hA.bl _ hlt_xa (fun q h => absurd h (Nat.not_lt_zero q))).trans HB_xa.out
    have q0 := cell_at (v := .bool ba) hBq 0 rfl
    have q1 := cell_at (v := .slice oa la ka) hBq 1 rfl
    have q2 := cell_at (v := .slice pa ma ca) hBq 2 rfl
    clear hBq
    clear hA
    refine ⟨(by rfl), ?_⟩
    go_simp <;> (try with_reducible rfl)
  refine Rely.Chain.call (fun _ v _ => v = .bool true) (fun _ _ _ _ h _ => h) (fun _ _ _ _ _ h _ => h) (by rfl) (fun T xs wr hA => ?_) ?_
  · have e7 := hA.tm 0 7 (by rfl) (by rfl)
    have f7 : xs 0 = _ := hA.fa 0 (by rfl)
    (try simp (disch := first | rfl | decide) only [Rely.mask_in] at f7)
    rw [f7] at e7
    clear f7
    have hkp := undrewK hA.kp
    have hbw := undrew (hA.be _ (Nat.le_refl _) (fun q h => absurd h (Nat.not_lt_zero q)))
    have ha := ha.keeps hkp
    clear hA
    refine ⟨(by rfl), fun K hK => ?_⟩
    go_simp
    refine (right_any ha h0).mono ?_
    rintro e wq ⟨rfl, hb⟩
    exact hK.out _ _ rfl hb
  refine Rely.Chain.det ?_ (by rfl) (fun T xs wr hA => ?_) ?_
  rotate_left 1
  · have e8 := hA.tm 1 8 (by rfl) (by rfl)
    have f8 : xs 1 = (.bool true) := hA.fa 1 (by rfl)
    rw [f8] at e8
    clear f8
    clear hA
    refine ⟨(by rfl), ?_⟩
    go_simp <;> (try with_reducible rfl)
  refine Rely.Chain.det ?_ (by rfl) (fun T xs wr hA => ?_) ?_
  rotate_left 1
  · have e9 := hA.tm 2 9 (by rfl) (by rfl)
    have f9 : xs 2 = _ := hA.fa 2 (by rfl)
    (try simp (disch := first | rfl | decide) only [Rely.mask_in] at f9)
    rw [f9] at e9
    clear f9
    have e3 := hA.pre 3 (by kernel_rfl)
    simp only [List.getElem?_toArray, List.getElem?_cons_succ, List.getElem?_cons_zero] at e3
    clear hA
    refine ⟨((Rely.wanted_at rfl (by rfl) e9).trans (by rfl)), ?_⟩
    go_simp <;> (try with_reducible rfl)
  refine Rely.Chain.det ?_ (by rfl) (fun T xs wr hA => ?_) ?_
  rotate_left 1
  · have e9 := hA.tm 2 9 (by rfl) (by rfl)
    have f9 : xs 2 = _ := hA.fa 2 (by rfl)
    (try simp (disch := first | rfl | decide) only [Rely.mask_in] at f9)
    rw [f9] at e9
    clear f9
    have e10 := hA.tm 3 10 (by rfl) (by rfl)
    have f10 : xs 3 = _ := hA.fa 3 (by rfl)
    (try simp (disch := first | rfl | decide) only [Rely.mask_in] at f10)
    rw [f10] at e10
    clear f10
    have hBq : wr.heap[w.heap.size]? = _ := (hA.bl _ hlt_xa (fun q h => absurd h (Nat.not_lt_zero q))).trans HB_xa.out
    have q0 := cell_at (v := .bool ba) hBq 0 rfl
    have q1 := cell_at (v := .slice oa la ka) hBq 1 rfl
    have q2 := cell_at (v := .slice pa ma ca) hBq 2 rfl
    clear hBq
    clear hA
    refine ⟨((Rely.wanted_at rfl (by rfl) e9).trans (by rfl)), ?_⟩
    go_simp <;> (try with_reducible rfl)
  refine Rely.Chain.det ?_ (by rfl) (fun T xs wr hA => ?_) ?_
  rotate_left 1
  · have e9 := hA.tm 2 9 (by rfl) (by rfl)
    have f9 : xs 2 = _ := hA.fa 2 (by rfl)
    (try simp (disch := first | rfl | decide) only [Rely.mask_in] at f9)
    rw [f9] at e9
    clear f9
    have e5 := hA.pre 5 (by kernel_rfl)
    simp only [List.getElem?_toArray, List.getElem?_cons_succ, List.getElem?_cons_zero] at e5
    have hBq : wr.heap[w.heap.size + 2]? = _ := (hA.bl _ hlt_xc (fun q h => absurd h (Nat.not_lt_zero q))).trans HB_xc.out
    have q0 := cell_at (v := .bool bc) hBq 0 rfl
    have q1 := cell_at (v := .slice oc lc kc) hBq 1 rfl
    clear hBq
    clear hA
    refine ⟨((Rely.wanted_at rfl (by rfl) e9).trans (by rfl)), ?_⟩
    go_simp <;> (try with_reducible rfl)
  refine Rely.Chain.call (fun _ v w => CI w v (q.num * z) (k + k2)) (fun _ _ _ _ h hb => h.below hb) (fun _ _ _ _ _ h hp => h.keeps hp.keeps) (by rfl) (fun T xs wr hA => ?_) ?_
  · have e9 := hA.tm 2 9 (by rfl) (by rfl)
    have f9 : xs 2 = _ := hA.fa 2 (by rfl)
    (try simp (disch := first | rfl | decide) only [Rely.mask_in] at f9)
    rw [f9] at e9
    clear f9
    have e11 := hA.tm 4 11 (by rfl) (by rfl)
    have f11 : xs 4 = _ := hA.fa 4 (by rfl)
    (try simp (disch := first | rfl | decide) only [Rely.mask_in] at f11)
    rw [f11] at e11
    clear f11
    have e12 := hA.tm 5 12 (by rfl) (by rfl)
    have f12 : xs 5 = _ := hA.fa 5 (by rfl)
    (try simp (disch := first | rfl | decide) only [Rely.mask_in] at f12)
    rw [f12] at e12
    clear f12
    have hkp := undrewK hA.kp
    have hbw := undrew (hA.be _ (Nat.le_refl _) (fun q h => absurd h (Nat.not_lt_zero q)))
    have na := na.keeps hkp
    have hc := hc.keeps hkp
    clear hA
    refine ⟨((Rely.wanted_at rfl (by rfl) e9).trans (by rfl)), fun K hK => ?_⟩
    clear e9
    go_simp
    refine (wmul_any _ _ q.num z k k2 _ na hc (by omega) (by omega)).mono ?_
    rintro e wq ⟨v, rfl, c, hb⟩
    exact hK.out _ _ c hb
  refine Rely.Chain.det ?_ (by rfl) (fun T xs wr hA => ?_) ?_
  rotate_left 1
  · have e9 := hA.tm 2 9 (by rfl) (by rfl)
    have f9 : xs 2 = _ := hA.fa 2 (by rfl)
    (try simp (disch := first | rfl | decide) only [Rely.mask_in] at f9)
    rw [f9] at e9
    clear f9
    have e4 := hA.pre 4 (by kernel_rfl)
    simp only [List.getElem?_toArray, List.getElem?_cons_succ, List.getElem?_cons_zero] at e4
    have hBq : wr.heap[w.heap.size + 1]? = _ := (hA.bl _ hlt_xb (fun q h => absurd h (Nat.not_lt_zero q))).trans HB_xb.out
    have q0 := cell_at (v := .bool bb) hBq 0 rfl
    have q1 := cell_at (v := .slice ob lb kb) hBq 1 rfl
    clear hBq
    clear hA
    refine ⟨((Rely.wanted_at rfl (by rfl) e9).trans (by rfl)), ?_⟩
    go_simp <;> (try with_reducible rfl)
  refine Rely.Chain.det ?_ (by rfl) (fun T xs wr hA => ?_) ?_
  rotate_left 1
  · have e9 := hA.tm 2 9 (by rfl) (by rfl)
    have f9 : xs 2 = _ := hA.fa 2 (by rfl)
    (try simp (disch := first | rfl | decide) only [Rely.mask_in] at f9)
    rw [f9] at e9
    clear f9
    have e3 := hA.pre 3 (by kernel_rfl)
    simp only [List.getElem?_toArray, List.getElem?_cons_succ, List.getElem?_cons_zero] at e3
    have hBq : wr.heap[w.heap.size]? = _ := (hA.bl _ hlt_xa (fun q h => absurd h (Nat.not_lt_zero q))).trans HB_xa.out
    have q0 := cell_at (v := .bool ba) hBq 0 rfl
    have q1 := cell_at (v := .slice oa la ka) hBq 1 rfl
    have q2 := cell_at (v := .slice pa ma ca) hBq 2 rfl
    clear hBq
    clear hA
    refine ⟨((Rely.wanted_at rfl (by rfl) e9).trans (by rfl)), ?_⟩
    go_simp <;> (try with_reducible rfl)
  refine Rely.Chain.call (fun _ v w => CI w v (q.den : Int) (k + 2)) (fun _ _ _ _ h hb => h.below hb) (fun _ _ _ _ _ h hp => h.keeps hp.keeps) (by rfl) (fun T xs wr hA => ?_) ?_
  · have e9 := hA.tm 2 9 (by rfl) (by rfl)
    have f9 : xs 2 = _ := hA.fa 2 (by rfl)
    (try simp (disch := first | rfl | decide) only [Rely.mask_in] at f9)
    rw [f9] at e9
    clear f9
    have e15 := hA.tm 8 15 (by rfl) (by rfl)
    have f15 : xs 8 = _ := hA.fa 8 (by rfl)
    (try simp (disch := first | rfl | decide) only [Rely.mask_in] at f15)
    rw [f15] at e15
    clear f15
    have hkp := undrewK hA.kp
    have hbw := undrew (hA.be _ (Nat.le_refl _) (fun q h => absurd h (Nat.not_lt_zero q)))
    have ga := ga.keeps hkp
    clear hA
    refine ⟨((Rely.wanted_at rfl (by rfl) e9).trans (by rfl)), fun K hK => ?_⟩
    clear e9
    go_simp
    refine (below_any ga h0).mono ?_
    rintro e wq ⟨v, rfl, c, hb⟩
    exact hK.out _ _ c hb
  refine Rely.Chain.call (fun _ v w => CI w v (y * (q.den : Int)) (k1 + (k + 2))) (fun _ _ _ _ h hb => h.below hb) (fun _ _ _ _ _ h hp => h.keeps hp.keeps) (by rfl) (fun T xs wr hA => ?_) ?_
  · have e9 := hA.tm 2 9 (by rfl) (by rfl)
    have f9 : xs 2 = _ := hA.fa 2 (by rfl)
    (try simp (disch := first | rfl | decide) only [Rely.mask_in] at f9)
    rw [f9] at e9
    clear f9
    have e14 := hA.tm 7 14 (by rfl) (by rfl)
    have f14 : xs 7 = _ := hA.fa 7 (by rfl)
    (try simp (disch := first | rfl | decide) only [Rely.mask_in] at f14)
    rw [f14] at e14
    clear f14
    have e16 := hA.tm 9 16 (by rfl) (by rfl)
    have hkp := undrewK hA.kp
    have hbw := undrew (hA.be _ (Nat.le_refl _) (fun q h => absurd h (Nat.not_lt_zero q)))
    have hb := hb.keeps hkp
    have c_d : CI wr (xs 9) (q.den : Int) (k + 2) := hA.fa 9 (by rfl)
    clear hA
    refine ⟨((Rely.wanted_at rfl (by rfl) e9).trans (by rfl)), fun K hK => ?_⟩
    clear e9
    go_simp
    refine (wmul_any _ _ y (q.den : Int) k1 (k + 2) _ hb c_d.gi (by omega) (by omega)).mono ?_
    rintro e wq ⟨v, rfl, c, hb⟩
    exact hK.out _ _ c hb
  refine Rely.Chain.call (fun _ v _ => v = .int .i64 0) (fun _ _ _ _ h _ => h) (fun _ _ _ _ _ h _ => h) (by rfl) (fun T xs wr hA => ?_) ?_
  · have e9 := hA.tm 2 9 (by rfl) (by rfl)
    have f9 : xs 2 = _ := hA.fa 2 (by rfl)
    (try simp (disch := first | rfl | decide) only [Rely.mask_in] at f9)
    rw [f9] at e9
    clear f9
    have e13 := hA.tm 6 13 (by rfl) (by rfl)
    have e17 := hA.tm 10 17 (by rfl) (by rfl)
    have hkp := undrewK hA.kp
    have hbw := undrew (hA.be _ (Nat.le_refl _) (fun q h => absurd h (Nat.not_lt_zero q)))
    have c_s : CI wr (xs 6) (q.num * z) (k + k2) := hA.fa 6 (by rfl)
    have c_r : CI wr (xs 10) (y * (q.den : Int)) (k1 + (k + 2)) := hA.fa 10 (by rfl)
    clear hA
    refine ⟨((Rely.wanted_at rfl (by rfl) e9).trans (by rfl)), fun K hK => ?_⟩
    clear e9
    go_simp
    refine (wcmp_s _ _ _ _ _ _ 0 _ c_s.gi c_r.gi HE.out (by omega) (by omega)).mono ?_
    rintro e wq ⟨rfl, hb⟩
    exact hK.out _ _ rfl hb
  refine Rely.Chain.det ?_ (by rfl) (fun T xs wr hA => ?_) ?_
  rotate_left 1
  · have e9 := hA.tm 2 9 (by rfl) (by rfl)
    have f9 : xs 2 = _ := hA.fa 2 (by rfl)
    (try simp (disch := first | rfl | decide) only [Rely.mask_in] at f9)
    rw [f9] at e9
    clear f9
    have e18 := hA.tm 11 18 (by rfl) (by rfl)
    have f18 : xs 11 = (.int .i64 0) := hA.fa 11 (by rfl)
    rw [f18] at e18
    clear f18
    clear hA
    refine ⟨((Rely.wanted_at rfl (by rfl) e9).trans (by rfl)), ?_⟩
    go_simp <;> (try with_reducible rfl)
  refine Rely.Chain.det ?_ (by rfl) (fun T xs wr hA => ?_) ?_
  rotate_left 1
  · have e9 := hA.tm 2 9 (by rfl) (by rfl)
    have f9 : xs 2 = _ := hA.fa 2 (by rfl)
    (try simp (disch := first | rfl | decide) only [Rely.mask_in] at f9)
    rw [f9] at e9
    clear f9
    have e19 := hA.tm 12 19 (by rfl) (by rfl)
    have f19 : xs 12 = _ := hA.fa 12 (by rfl)
    (try simp (disch := first | rfl | decide) only [Rely.mask_in] at f19)
    rw [f19] at e19
    clear f19
    clear hA
    refine ⟨(by rfl), ?_⟩
    go_simp <;> (try with_reducible rfl)
  refine Rely.Chain.det ?_ (by rfl) (fun T xs wr hA => ?_) ?_
  rotate_left 1
  · have e20 := hA.tm 13 20 (by rfl) (by rfl)
    have f20 : xs 13 = _ := hA.fa 13 (by rfl)
    (try simp (disch := first | rfl | decide) only [Rely.mask_in] at f20)
    rw [f20] at e20
    clear f20
    clear hA
    refine ⟨(by rfl), ?_⟩
    go_simp <;> (try with_reducible rfl)
  refine Rely.Chain.done (fun xs wx2 hL => ?_)
  obtain ⟨⟨hbe, hbl, hkp0⟩, hf, hp, hn⟩ := hL
  have f0 : xs 0 = _ := hf 0 (by decide)
  (try simp (disch := first | rfl | decide) only [Rely.mask_in] at f0)
  have f1 : xs 1 = (.bool true) := hf 1 (by decide)
  have f2 : xs 2 = _ := hf 2 (by decide)
  (try simp (disch := first | rfl | decide) only [Rely.mask_in] at f2)
  have f3 : xs 3 = _ := hf 3 (by decide)
  (try simp (disch := first | rfl | decide) only [Rely.mask_in] at f3)
  have f4 : xs 4 = _ := hf 4 (by decide)
  (try simp (disch := first | rfl | decide) only [Rely.mask_in] at f4)
  have f5 : xs 5 = _ := hf 5 (by decide)
  (try simp (disch := first | rfl | decide) only [Rely.mask_in] at f5)
  have c_s : CI wx2 (xs 6) (q.num * z) (k + k2) := hf 6 (by decide)
  have f7 : xs 7 = _ := hf 7 (by decide)
  (try simp (disch := first | rfl | decide) only [Rely.mask_in] at f7)
  have f8 : xs 8 = _ := hf 8 (by decide)
  (try simp (disch := first | rfl | decide) only [Rely.mask_in] at f8)
  have c_d : CI wx2 (xs 9) (q.den : Int) (k + 2) := hf 9 (by decide)
  have c_r : CI wx2 (xs 10) (y * (q.den : Int)) (k1 + (k + 2)) := hf 10 (by decide)
  have f11 : xs 11 = (.int .i64 0) := hf 11 (by decide)
  have f12 : xs 12 = _ := hf 12 (by decide)
  (try simp (disch := first | rfl | decide) only [Rely.mask_in] at f12)
  have f13 : xs 13 = _ := hf 13 (by decide)
  (try simp (disch := first | rfl | decide) only [Rely.mask_in] at f13)
  have f14 : xs 14 = _ := hf 14 (by decide)
  (try simp (disch := first | rfl | decide) only [Rely.mask_in] at f14)
  clear hf hp hn
  refine Rely.rest_done ?_
  simp only [Rely.fill, List.setIfInBounds_toArray, List.set_cons_zero, List.set_cons_succ, f0, f1, f2, f3, f4, f5, f7, f8, f11, f12, f13, f14]
  clear f0 f1 f2 f3 f4 f5 f7 f8 f11 f12 f13 f14
  generalize xs 6 = v_s at c_s ⊢
  generalize xs 9 = v_d at c_d ⊢
  generalize xs 10 = v_r at c_r ⊢
  clear xs
  obtain ⟨b_s, o_s, l_s, k_s, rfl⟩ := c_s.shape
  obtain ⟨b_d, o_d, l_d, k_d, rfl⟩ := c_d.shape
  obtain ⟨b_r, o_r, l_r, k_r, rfl⟩ := c_r.shape
  have hbx := undrew (hbe _ (Nat.le_refl _) (fun q h => absurd h (Nat.not_lt_zero q)))
  clear hbe hbl hkp0
  replace ha := ha.below hbx
  replace na := na.below hbx
  replace hb := hb.below hbx
  replace hc := hc.below hbx
  replace ga := ga.below hbx
  replace hbt := hbt.trans (hbx.mono hbt.size)
  replace HB_xa := Lib.hid ((hbx.block _ (lt_of_block HB_xa.out)).trans HB_xa.out)
  replace HB_xb := Lib.hid ((hbx.block _ (lt_of_block HB_xb.out)).trans HB_xb.out)
  replace HB_xc := Lib.hid ((hbx.block _ (lt_of_block HB_xc.out)).trans HB_xc.out)
  clear hbx
  replace xa0 := cell_at (v := .bool ba) HB_xa.out 0 rfl
  replace xa1 := cell_at (v := .slice oa la ka) HB_xa.out 1 rfl
  replace xa2 := cell_at (v := .slice pa ma ca) HB_xa.out 2 rfl
  replace xb0 := cell_at (v := .bool bb) HB_xb.out 0 rfl
  replace xb1 := cell_at (v := .slice ob lb kb) HB_xb.out 1 rfl
  replace xc0 := cell_at (v := .bool bc) HB_xc.out 0 rfl
  replace xc1 := cell_at (v := .slice oc lc kc) HB_xc.out 1 rfl
  clear hlt_xa hlt_xb hlt_xc
  go_wp2_with fail
  go_ret
  exact ⟨rfl, hbt⟩

theorem cmpN_self (n : Nat) : cmpN n n = 0 := by unfold cmpN; rw [if_neg (by omega), if_pos rfl]

set_option maxHeartbeats 2000000 in
theorem qsame_true {va vb : Value} {q : Rat} {k1 k2 : Nat} {w : World} (ha : CQ w va q k1) (hb : CQ w vb q k2) (h1 : k1 ≤ 100000) (h2 : k2 ≤ 100000) :
    Calls Tryd.prog 27 #[va, vb] w fun e w' => e = .returned (.bool true) ∧ Below w.heap.size w w' := by
  have ha0 := ha
  have hb0 := hb
  obtain ⟨oa, la, ka, pa, ma, ca, rfl, sa1, sa2, l1, l2⟩ := ha0
  obtain ⟨ob, lb, kb, pb, mb, cb, rfl, sb1, sb2, l3, l4⟩ := hb0
  have ga1 := gn_dig sa1 l1
  have ga2 := gn_dig sa2 l2
  have gb1 := gn_dig sb1 l3
  have gb2 := gn_dig sb2 l4
  clear sa1 sa2 sb1 sb2 l1 l2 l3 l4
  generalize decide (q.num < 0) = b at *
  have HC1 := Lib.hid (cmpN_self q.num.natAbs)
  have HC2 := Lib.hid (cmpN_self q.den)
  have hbb : (b == b) = true := by simp
  have hbt := Below.refl w.heap.size w
  go_enter Tryd.func27, Tryd.ntmps27
  go_wp2_with fail
  have hbx : Below w.heap.size w ((w.alloc (.cells #[.bool b, .slice oa la ka, .slice pa ma ca] 27)).alloc (.cells #[.bool b, .slice ob lb kb, .slice pb mb cb] 27)) := (((Below.refl _ _).alloc (by simp) _).alloc (by simp) _)
  replace ha := ha.below hbx
  replace hb := hb.below hbx
  replace ga1 := ga1.below hbx
  replace ga2 := ga2.below hbx
  replace gb1 := gb1.below hbx
  replace gb2 := gb2.below hbx
  replace hbt := hbt.trans (hbx.mono hbt.size)
  clear hbx
  have HB_xa : Hid (((w.alloc (.cells #[.bool b, .slice oa la ka, .slice pa ma ca] 27)).alloc (.cells #[.bool b, .slice ob lb kb, .slice pb mb cb] 27)).heap[w.heap.size]? = some (.cells #[.bool b, .slice oa la ka, .slice pa ma ca] 27 (0, 0))) := Lib.hid (made_more (made_at w (.cells #[.bool b, .slice oa la ka, .slice pa ma ca] 27) _ (by first | rfl | simp)) _)
  have HB_xb : Hid (((w.alloc (.cells #[.bool b, .slice oa la ka, .slice pa ma ca] 27)).alloc (.cells #[.bool b, .slice ob lb kb, .slice pb mb cb] 27)).heap[w.heap.size + 1]? = some (.cells #[.bool b, .slice ob lb kb, .slice pb mb cb] 27 (0, 0))) := Lib.hid (made_at (w.alloc (.cells #[.bool b, .slice oa la ka, .slice pa ma ca] 27)) (.cells #[.bool b, .slice ob lb kb, .slice pb mb cb] 27) _ (by first | rfl | simp))
  generalize ((w.alloc (.cells #[.bool b, .slice oa la ka, .slice pa ma ca] 27)).alloc (.cells #[.bool b, .slice ob lb kb, .slice pb mb cb] 27)) = wx1 at *
  have xa0 := cell_at (v := .bool b) HB_xa.out 0 rfl
  have xa1 := cell_at (v := .slice oa la ka) HB_xa.out 1 rfl
  have xa2 := cell_at (v := .slice pa ma ca) HB_xa.out 2 rfl
  have xb0 := cell_at (v := .bool b) HB_xb.out 0 rfl
  have xb1 := cell_at (v := .slice ob lb kb) HB_xb.out 1 rfl
  have xb2 := cell_at (v := .slice pb mb cb) HB_xb.out 2 rfl
  refine (right_any ha h1).mono ?_
  rintro e wx2 ⟨rfl, hbx⟩
  replace ha := ha.below hbx
  replace hb := hb.below hbx
  replace ga1 := ga1.below hbx
  replace ga2 := ga2.below hbx
  replace gb1 := gb1.below hbx
  replace gb2 := gb2.below hbx
  replace hbt := hbt.trans (hbx.mono hbt.size)
  replace HB_xa := Lib.hid ((hbx.block _ (lt_of_block HB_xa.out)).trans HB_xa.out)
  replace HB_xb := Lib.hid ((hbx.block _ (lt_of_block HB_xb.out)).trans HB_xb.out)
  clear hbx
  replace xa0 := cell_at (v := .bool b) HB_xa.out 0 rfl
  replace xa1 := cell_at (v := .slice oa la ka) HB_xa.out 1 rfl
  replace xa2 := cell_at (v := .slice pa ma ca) HB_xa.out 2 rfl
  replace xb0 := cell_at (v := .bool b) HB_xb.out 0 rfl
  replace xb1 := cell_at (v := .slice ob lb kb) HB_xb.out 1 rfl
  replace xb2 := cell_at (v := .slice pb mb cb) HB_xb.out 2 rfl
  go_wp2_with fail
  refine (right_any hb h2).mono ?_
  rintro e wx3 ⟨rfl, hbx⟩
  replace ha := ha.below hbx
  replace hb := hb.below hbx
  replace ga1 := ga1.below hbx
  replace ga2 := ga2.below hbx
  replace gb1 := gb1.below hbx
  replace gb2 := gb2.below hbx
  replace hbt := hbt.trans (hbx.mono hbt.size)
  replace HB_xa := Lib.hid ((hbx.block _ (lt_of_block HB_xa.out)).trans HB_xa.out)
  replace HB_xb := Lib.hid ((hbx.block _ (lt_of_block HB_xb.out)).trans HB_xb.out)
  clear hbx
  replace xa0 := cell_at (v := .bool b) HB_xa.out 0 rfl
  replace xa1 := cell_at (v := .slice oa la ka) HB_xa.out 1 rfl
  replace xa2 := cell_at (v := .slice pa ma ca) HB_xa.out 2 rfl
  replace xb0 := cell_at (v := .bool b) HB_xb.out 0 rfl
  replace xb1 := cell_at (v := .slice ob lb kb) HB_xb.out 1 rfl
  replace xb2 := cell_at (v := .slice pb mb cb) HB_xb.out 2 rfl
  go_wp2_with fail
  refine (cmp_n ga1 gb1).mono ?_
  rintro e wx4 ⟨rfl, hbx⟩
  replace ha := ha.below hbx
  replace hb := hb.below hbx
  replace ga1 := ga1.below hbx
  replace ga2 := ga2.below hbx
  replace gb1 := gb1.below hbx
  replace gb2 := gb2.below hbx
  replace hbt := hbt.trans (hbx.mono hbt.size)
  replace HB_xa := Lib.hid ((hbx.block _ (lt_of_block HB_xa.out)).trans HB_xa.out)
  replace HB_xb := Lib.hid ((hbx.block _ (lt_of_block HB_xb.out)).trans HB_xb.out)
  clear hbx
  replace xa0 := cell_at (v := .bool b) HB_xa.out 0 rfl
  replace xa1 := cell_at (v := .slice oa la ka) HB_xa.out 1 rfl
  replace xa2 := cell_at (v := .slice pa ma ca) HB_xa.out 2 rfl
  replace xb0 := cell_at (v := .bool b) HB_xb.out 0 rfl
  replace xb1 := cell_at (v := .slice ob lb kb) HB_xb.out 1 rfl
  replace xb2 := cell_at (v := .slice pb mb cb) HB_xb.out 2 rfl
  rw [HC1.out]
  go_wp2_with fail
  refine (cmp_n ga2 gb2).mono ?_
  rintro e wx5 ⟨rfl, hbx⟩
  replace ha := ha.below hbx
  replace hb := hb.below hbx
  replace ga1 := ga1.below hbx
  replace ga2 := ga2.below hbx
  replace gb1 := gb1.below hbx
  replace gb2 := gb2.below hbx
  replace hbt := hbt.trans (hbx.mono hbt.size)
  replace HB_xa := Lib.hid ((hbx.block _ (lt_of_block HB_xa.out)).trans HB_xa.out)
  replace HB_xb := Lib.hid ((hbx.block _ (lt_of_block HB_xb.out)).trans HB_xb.out)
  clear hbx
  replace xa0 := cell_at (v := .bool b) HB_xa.out 0 rfl
  replace xa1 := cell_at (v := .slice oa la ka) HB_xa.out 1 rfl
  replace xa2 := cell_at (v := .slice pa ma ca) HB_xa.out 2 rfl
  replace xb0 := cell_at (v := .bool b) HB_xb.out 0 rfl
  replace xb1 := cell_at (v := .slice ob lb kb) HB_xb.out 1 rfl
  replace xb2 := cell_at (v := .slice pb mb cb) HB_xb.out 2 rfl
  rw [HC2.out]
  go_wp2_with fail
  go_ret
  exact ⟨rfl, hbt⟩

/-- A slice of rational numbers: their parts' lengths. -/
def RowsQ (w : World) (g m : Nat) (L M : Nat → Nat) : Prop := ∀ j, j < m → ∃ b ao c po e, w.cell? ⟨g, j * 3, none⟩ = some (.bool b) ∧ w.cell? ⟨g, j * 3 + 1, none⟩ = some (.slice ao (L j) c) ∧ w.cell? ⟨g, j * 3 + 2, none⟩ = some (.slice po (M j) e)

set_option maxHeartbeats 1000000 in
theorem qshort_true (z : Int) (most g m : Nat) (L M : Nat → Nat) (w : World) (hz : z = (most : Int)) (hr : RowsQ w g m L M) (hm : m ≤ 100) (hg : g < w.heap.size) (h : ∀ j, j < m → L j ≤ most) (h' : ∀ j, j < m → M j ≤ most) :
    Calls Tryd.prog 10 #[.int .i64 z, .slice (some ⟨g, 0, none⟩) m m] w fun e w' => e = .returned (.bool true) ∧ Below w.heap.size w w' := by
  subst hz
  go_enter Tryd.func10, Tryd.ntmps10
  go_wp2
  go_loopw [9] (fun i wr => ∃ k : Nat, k ≤ m ∧ i = .int .i64 k ∧ Below w.heap.size w wr) (fun i _ => m - (intOf i).toNat)
  case atStart => exact ⟨0, Nat.zero_le _, rfl, Below.refl _ _⟩
  case round =>
    obtain ⟨k, hk, rfl, hb⟩ := hrel
    by_cases hlt : k < m
    · obtain ⟨b, ao, c, po, e, hc1, hc2, hc3⟩ := hr k hlt
      rw [← hb.cell (p := ⟨g, k * 3, none⟩) hg] at hc1
      rw [← hb.cell (p := ⟨g, k * 3 + 1, none⟩) hg] at hc2
      rw [← hb.cell (p := ⟨g, k * 3 + 2, none⟩) hg] at hc3
      have hle := h k hlt
      have hle' := h' k hlt
      have hd1 : decide ((most : Int) < (L k : Int)) = false := by rw [decide_eq_false_iff_not]; omega
      have hd2 : decide ((most : Int) < (M k : Int)) = false := by rw [decide_eq_false_iff_not]; omega
      have hbs := hb.size
      clear h h'
      go_wp2
      go_roundw
      case rel => exact ⟨k + 1, by omega, by go_num, hb.alloc hbs _⟩
      case measure => simp [intOf]; omega
    · go_wp2
      go_ret
      exact ⟨rfl, hb⟩

set_option maxHeartbeats 1000000 in
theorem qshort_false (z : Int) (most g m : Nat) (L M : Nat → Nat) (w : World) (hz : z = (most : Int)) (hr : RowsQ w g m L M) (hm : m ≤ 100) (hg : g < w.heap.size) (j : Nat) (hj : j < m) (h : ¬ (L j ≤ most ∧ M j ≤ most)) :
    Calls Tryd.prog 10 #[.int .i64 z, .slice (some ⟨g, 0, none⟩) m m] w fun e w' => e = .returned (.bool false) ∧ Below w.heap.size w w' := by
  subst hz
  go_enter Tryd.func10, Tryd.ntmps10
  go_wp2
  go_loopw [9] (fun i wr => ∃ k : Nat, k ≤ j ∧ i = .int .i64 k ∧ Below w.heap.size w wr) (fun i _ => m - (intOf i).toNat)
  case atStart => exact ⟨0, Nat.zero_le _, rfl, Below.refl _ _⟩
  case round =>
    obtain ⟨k, hk, rfl, hb⟩ := hrel
    obtain ⟨b, ao, c, po, e, hc1, hc2, hc3⟩ := hr k (by omega)
    rw [← hb.cell (p := ⟨g, k * 3, none⟩) hg] at hc1
    rw [← hb.cell (p := ⟨g, k * 3 + 1, none⟩) hg] at hc2
    rw [← hb.cell (p := ⟨g, k * 3 + 2, none⟩) hg] at hc3
    have hbs := hb.size
    by_cases hle : L k ≤ most
    · have hd1 : decide ((most : Int) < (L k : Int)) = false := by rw [decide_eq_false_iff_not]; omega
      by_cases hle' : M k ≤ most
      · have hd2 : decide ((most : Int) < (M k : Int)) = false := by rw [decide_eq_false_iff_not]; omega
        have hne : k ≠ j := fun e => by subst e; exact h ⟨hle, hle'⟩
        clear h
        go_wp2
        go_roundw
        case rel => exact ⟨k + 1, by omega, by go_num, hb.alloc hbs _⟩
        case measure => simp [intOf]; omega
      · have hd2 : decide ((most : Int) < (M k : Int)) = true := by rw [decide_eq_true_iff]; omega
        clear h
        go_wp2
        go_ret
        exact ⟨rfl, hb.alloc hbs _⟩
    · have hd1 : decide ((most : Int) < (L k : Int)) = true := by rw [decide_eq_true_iff]; omega
      clear h
      go_wp2
      go_ret
      exact ⟨rfl, hb.alloc hbs _⟩

theorem rowsQ_1 {w : World} {g : Nat} {T : TypeId} {b0 : Bool} {o0 p0 : Option Addr} {n0 m0 l0 e0 : Nat} (h : w.heap[g]? = some (.cells #[.bool b0, .slice o0 n0 m0, .slice p0 l0 e0] T (0, 0))) : RowsQ w g 1 (three n0 0 0) (three l0 0 0) := by
  intro j hj
  match j, hj with
  | 0, _ => exact ⟨_, _, _, _, _, by rw [cell_of_row w g 0 _ T (0, 0) h]; rfl, by rw [cell_of_row w g 1 _ T (0, 0) h]; rfl, by rw [cell_of_row w g 2 _ T (0, 0) h]; rfl⟩
theorem qshort_t1 {z : Int} (most : Nat) {b0 : Bool} {o0 p0 : Option Addr} {n0 m0 l0 e0 : Nat} {T : TypeId} (w : World) (hz : z = (most : Int)) (h0 : n0 ≤ most ∧ l0 ≤ most) :
    Calls Tryd.prog 10 #[.int .i64 z, .slice (some ⟨w.heap.size, 0, none⟩) 1 1] (w.alloc (.cells #[.bool b0, .slice o0 n0 m0, .slice p0 l0 e0] T)) fun e w' => e = .returned (.bool true) ∧ Below w.heap.size w w' :=
  (qshort_true z most w.heap.size 1 _ _ _ hz (rowsQ_1 (heap_alloc_new w _)) (by omega) (by simp) (fun j hj => by match j, hj with | 0, _ => exact h0.1) (fun j hj => by match j, hj with | 0, _ => exact h0.2)).mono fun _ _ ⟨he, hb⟩ => ⟨he, trans2 hb ((Below.refl _ _).alloc (Nat.le_refl _) _)⟩
theorem qshort_f1 {z : Int} (most : Nat) {b0 : Bool} {o0 p0 : Option Addr} {n0 m0 l0 e0 : Nat} {T : TypeId} (w : World) (hz : z = (most : Int)) (h : ¬ ((n0 ≤ most ∧ l0 ≤ most))) :
    Calls Tryd.prog 10 #[.int .i64 z, .slice (some ⟨w.heap.size, 0, none⟩) 1 1] (w.alloc (.cells #[.bool b0, .slice o0 n0 m0, .slice p0 l0 e0] T)) fun e w' => e = .returned (.bool false) ∧ Below w.heap.size w w' := by
  obtain ⟨j, hj, hlj⟩ : ∃ j, j < 1 ∧ ¬ ((three n0 0 0) j ≤ most ∧ (three l0 0 0) j ≤ most) := by
    exact ⟨0, by omega, fun x => h x⟩
  exact (qshort_false z most w.heap.size 1 _ _ _ hz (rowsQ_1 (heap_alloc_new w _)) (by omega) (by simp) j hj hlj).mono fun _ _ ⟨he, hb⟩ => ⟨he, trans2 hb ((Below.refl _ _).alloc (Nat.le_refl _) _)⟩
theorem rowsQ_2 {w : World} {g : Nat} {T : TypeId} {b0 : Bool} {o0 p0 : Option Addr} {n0 m0 l0 e0 : Nat} {b1 : Bool} {o1 p1 : Option Addr} {n1 m1 l1 e1 : Nat} (h : w.heap[g]? = some (.cells #[.bool b0, .slice o0 n0 m0, .slice p0 l0 e0, .bool b1, .slice o1 n1 m1, .slice p1 l1 e1] T (0, 0))) : RowsQ w g 2 (three n0 n1 0) (three l0 l1 0) := by
  intro j hj
  match j, hj with
  | 0, _ => exact ⟨_, _, _, _, _, by rw [cell_of_row w g 0 _ T (0, 0) h]; rfl, by rw [cell_of_row w g 1 _ T (0, 0) h]; rfl, by rw [cell_of_row w g 2 _ T (0, 0) h]; rfl⟩
  | 1, _ => exact ⟨_, _, _, _, _, by rw [cell_of_row w g 3 _ T (0, 0) h]; rfl, by rw [cell_of_row w g 4 _ T (0, 0) h]; rfl, by rw [cell_of_row w g 5 _ T (0, 0) h]; rfl⟩
theorem qshort_t2 {z : Int} (most : Nat) {b0 : Bool} {o0 p0 : Option Addr} {n0 m0 l0 e0 : Nat} {b1 : Bool} {o1 p1 : Option Addr} {n1 m1 l1 e1 : Nat} {T : TypeId} (w : World) (hz : z = (most : Int)) (h0 : n0 ≤ most ∧ l0 ≤ most) (h1 : n1 ≤ most ∧ l1 ≤ most) :
    Calls Tryd.prog 10 #[.int .i64 z, .slice (some ⟨w.heap.size, 0, none⟩) 2 2] (w.alloc (.cells #[.bool b0, .slice o0 n0 m0, .slice p0 l0 e0, .bool b1, .slice o1 n1 m1, .slice p1 l1 e1] T)) fun e w' => e = .returned (.bool true) ∧ Below w.heap.size w w' :=
  (qshort_true z most w.heap.size 2 _ _ _ hz (rowsQ_2 (heap_alloc_new w _)) (by omega) (by simp) (fun j hj => by match j, hj with | 0, _ => exact h0.1 | 1, _ => exact h1.1) (fun j hj => by match j, hj with | 0, _ => exact h0.2 | 1, _ => exact h1.2)).mono fun _ _ ⟨he, hb⟩ => ⟨he, trans2 hb ((Below.refl _ _).alloc (Nat.le_refl _) _)⟩
theorem qshort_f2 {z : Int} (most : Nat) {b0 : Bool} {o0 p0 : Option Addr} {n0 m0 l0 e0 : Nat} {b1 : Bool} {o1 p1 : Option Addr} {n1 m1 l1 e1 : Nat} {T : TypeId} (w : World) (hz : z = (most : Int)) (h : ¬ ((n0 ≤ most ∧ l0 ≤ most) ∧ (n1 ≤ most ∧ l1 ≤ most))) :
    Calls Tryd.prog 10 #[.int .i64 z, .slice (some ⟨w.heap.size, 0, none⟩) 2 2] (w.alloc (.cells #[.bool b0, .slice o0 n0 m0, .slice p0 l0 e0, .bool b1, .slice o1 n1 m1, .slice p1 l1 e1] T)) fun e w' => e = .returned (.bool false) ∧ Below w.heap.size w w' := by
  obtain ⟨j, hj, hlj⟩ : ∃ j, j < 2 ∧ ¬ ((three n0 n1 0) j ≤ most ∧ (three l0 l1 0) j ≤ most) := by
    by_cases h0 : n0 ≤ most ∧ l0 ≤ most
    · exact ⟨1, by omega, fun x => h ⟨h0, x⟩⟩
    · exact ⟨0, by omega, fun x => h0 x⟩
  exact (qshort_false z most w.heap.size 2 _ _ _ hz (rowsQ_2 (heap_alloc_new w _)) (by omega) (by simp) j hj hlj).mono fun _ _ ⟨he, hb⟩ => ⟨he, trans2 hb ((Below.refl _ _).alloc (Nat.le_refl _) _)⟩
theorem rowsQ_3 {w : World} {g : Nat} {T : TypeId} {b0 : Bool} {o0 p0 : Option Addr} {n0 m0 l0 e0 : Nat} {b1 : Bool} {o1 p1 : Option Addr} {n1 m1 l1 e1 : Nat} {b2 : Bool} {o2 p2 : Option Addr} {n2 m2 l2 e2 : Nat} (h : w.heap[g]? = some (.cells #[.bool b0, .slice o0 n0 m0, .slice p0 l0 e0, .bool b1, .slice o1 n1 m1, .slice p1 l1 e1, .bool b2, .slice o2 n2 m2, .slice p2 l2 e2] T (0, 0))) : RowsQ w g 3 (three n0 n1 n2) (three l0 l1 l2) := by
  intro j hj
  match j, hj with
  | 0, _ => exact ⟨_, _, _, _, _, by rw [cell_of_row w g 0 _ T (0, 0) h]; rfl, by rw [cell_of_row w g 1 _ T (0, 0) h]; rfl, by rw [cell_of_row w g 2 _ T (0, 0) h]; rfl⟩
  | 1, _ => exact ⟨_, _, _, _, _, by rw [cell_of_row w g 3 _ T (0, 0) h]; rfl, by rw [cell_of_row w g 4 _ T (0, 0) h]; rfl, by rw [cell_of_row w g 5 _ T (0, 0) h]; rfl⟩
  | 2, _ => exact ⟨_, _, _, _, _, by rw [cell_of_row w g 6 _ T (0, 0) h]; rfl, by rw [cell_of_row w g 7 _ T (0, 0) h]; rfl, by rw [cell_of_row w g 8 _ T (0, 0) h]; rfl⟩
theorem qshort_t3 {z : Int} (most : Nat) {b0 : Bool} {o0 p0 : Option Addr} {n0 m0 l0 e0 : Nat} {b1 : Bool} {o1 p1 : Option Addr} {n1 m1 l1 e1 : Nat} {b2 : Bool} {o2 p2 : Option Addr} {n2 m2 l2 e2 : Nat} {T : TypeId} (w : World) (hz : z = (most : Int)) (h0 : n0 ≤ most ∧ l0 ≤ most) (h1 : n1 ≤ most ∧ l1 ≤ most) (h2 : n2 ≤ most ∧ l2 ≤ most) :
    Calls Tryd.prog 10 #[.int .i64 z, .slice (some ⟨w.heap.size, 0, none⟩) 3 3] (w.alloc (.cells #[.bool b0, .slice o0 n0 m0, .slice p0 l0 e0, .bool b1, .slice o1 n1 m1, .slice p1 l1 e1, .bool b2, .slice o2 n2 m2, .slice p2 l2 e2] T)) fun e w' => e = .returned (.bool true) ∧ Below w.heap.size w w' :=
  (qshort_true z most w.heap.size 3 _ _ _ hz (rowsQ_3 (heap_alloc_new w _)) (by omega) (by simp) (fun j hj => by match j, hj with | 0, _ => exact h0.1 | 1, _ => exact h1.1 | 2, _ => exact h2.1) (fun j hj => by match j, hj with | 0, _ => exact h0.2 | 1, _ => exact h1.2 | 2, _ => exact h2.2)).mono fun _ _ ⟨he, hb⟩ => ⟨he, trans2 hb ((Below.refl _ _).alloc (Nat.le_refl _) _)⟩
theorem qshort_f3 {z : Int} (most : Nat) {b0 : Bool} {o0 p0 : Option Addr} {n0 m0 l0 e0 : Nat} {b1 : Bool} {o1 p1 : Option Addr} {n1 m1 l1 e1 : Nat} {b2 : Bool} {o2 p2 : Option Addr} {n2 m2 l2 e2 : Nat} {T : TypeId} (w : World) (hz : z = (most : Int)) (h : ¬ ((n0 ≤ most ∧ l0 ≤ most) ∧ (n1 ≤ most ∧ l1 ≤ most) ∧ (n2 ≤ most ∧ l2 ≤ most))) :
    Calls Tryd.prog 10 #[.int .i64 z, .slice (some ⟨w.heap.size, 0, none⟩) 3 3] (w.alloc (.cells #[.bool b0, .slice o0 n0 m0, .slice p0 l0 e0, .bool b1, .slice o1 n1 m1, .slice p1 l1 e1, .bool b2, .slice o2 n2 m2, .slice p2 l2 e2] T)) fun e w' => e = .returned (.bool false) ∧ Below w.heap.size w w' := by
  obtain ⟨j, hj, hlj⟩ : ∃ j, j < 3 ∧ ¬ ((three n0 n1 n2) j ≤ most ∧ (three l0 l1 l2) j ≤ most) := by
    by_cases h0 : n0 ≤ most ∧ l0 ≤ most
    · by_cases h1 : n1 ≤ most ∧ l1 ≤ most
      · exact ⟨2, by omega, fun x => h ⟨h0, h1, x⟩⟩
      · exact ⟨1, by omega, fun x => h1 x⟩
    · exact ⟨0, by omega, fun x => h0 x⟩
  exact (qshort_false z most w.heap.size 3 _ _ _ hz (rowsQ_3 (heap_alloc_new w _)) (by omega) (by simp) j hj hlj).mono fun _ _ ⟨he, hb⟩ => ⟨he, trans2 hb ((Below.refl _ _).alloc (Nat.le_refl _) _)⟩

/-- An argument: a rational number's sign and the limbs of its two parts. -/
structure ArgQ (w : World) (b : Bool) (o : Option Addr) (n m : Nat) (p : Option Addr) (l e : Nat) (xs ys : List Nat) : Prop where
  sl : Sl w .u32 (.slice o n m) xs
  dig : Dig L32 xs
  sl2 : Sl w .u32 (.slice p l e) ys
  dig2 : Dig L32 ys
theorem ArgQ.gq {w : World} {b : Bool} {o p : Option Addr} {n m l e : Nat} {xs ys : List Nat} (h : ArgQ w b o n m p l e xs ys) {k : Nat} (hk : n ≤ k ∧ l ≤ k) : ∃ N D, GQ w (.agg #[.bool b, .slice o n m, .slice p l e]) N D k := by
  have h1 := sl_len h.sl
  have h2 := sl_len h.sl2
  exact ⟨_, _, b, o, n, m, p, l, e, _, _, rfl, gn_of h.sl h.dig (by omega), gn_of h.sl2 h.dig2 (by omega), rfl, rfl⟩

/-- The laws' anchor: three halves, below 0. -/
def QFitOk : Prop := ∀ w : World, Lib.TabIs Tryd.prog w "internal/strconv.uint64pow10" .u64 Lib.pow10Tab → Calls Tryd.prog 9 #[] w fun e w' => e = .returned (.bool true) ∧ Below w.heap.size w w'

theorem fit_num : (Rat.divInt 6 (-4)).num = -3 := by decide +kernel
theorem fit_den : (Rat.divInt 6 (-4)).den = 2 := by decide +kernel
theorem fit_text : qText (mkRat (Rat.divInt 6 (-4)).num (Rat.divInt 6 (-4)).den) = [45, 51, 47, 50] := by
  rw [Rat.mkRat_self]
  unfold qText zText
  rw [fit_num, fit_den, if_neg (by decide), if_pos (by decide), show (-3 : Int).natAbs = 3 from rfl, Lib.decDigits_one (by decide), Lib.decDigits_one (by decide)]
  rfl
theorem fit_floor : Int.fdiv (Rat.divInt 6 (-4)).num (((Rat.divInt 6 (-4)).den : Nat) : Int) = -2 := by
  rw [fit_num, fit_den]; decide
theorem zText_m2 : zText (-2) = [45, 50] := by
  unfold zText
  rw [if_pos (by decide), show (-2 : Int).natAbs = 2 from rfl, Lib.decDigits_one (by decide)]
  rfl

set_option maxHeartbeats 2000000 in
theorem qfitOk : QFitOk := by
  intro w htab
  have HT := Lib.hid fit_text
  have HF := Lib.hid fit_floor
  have HU := Lib.hid zText_m2
  have HTB := Lib.hid htab
  clear htab
  have hbt := Below.refl w.heap.size w
  go_enter Tryd.func9, Tryd.ntmps9
  go_wp2_with fail
  refine (wof_any 6 _ (by decide) (by decide)).mono ?_
  rintro e wx1 ⟨v_a, rfl, c_a, hbx⟩
  replace hbt := hbt.trans (hbx.mono hbt.size)
  clear hbx
  obtain ⟨b_a, o_a, l_a, k_a, rfl⟩ := c_a.shape
  go_wp2_with fail
  refine (wof_any (-4) _ (by decide) (by decide)).mono ?_
  rintro e wx2 ⟨v_b, rfl, c_b, hbx⟩
  replace c_a := c_a.below hbx
  replace hbt := hbt.trans (hbx.mono hbt.size)
  clear hbx
  obtain ⟨b_b, o_b, l_b, k_b, rfl⟩ := c_b.shape
  go_wp2_with fail
  refine (qfrac_any c_a.gi c_b.gi (by omega) (by omega) (by decide)).mono ?_
  rintro e wx3 ⟨v_q, rfl, c_q, hbx⟩
  replace c_a := c_a.below hbx
  replace c_b := c_b.below hbx
  replace hbt := hbt.trans (hbx.mono hbt.size)
  clear hbx
  obtain ⟨b_q, o_q, l_q, k_q, p_q, m_q, u_q, rfl⟩ := c_q.shape
  go_wp2_with fail
  have hbx : Below wx3.heap.size wx3 (wx3.alloc (.cells #[.bool b_q, .slice o_q l_q k_q, .slice p_q m_q u_q] 27)) := ((Below.refl _ _).alloc (by simp) _)
  replace c_a := c_a.below hbx
  replace c_b := c_b.below hbx
  replace c_q := c_q.below hbx
  replace hbt := hbt.trans (hbx.mono hbt.size)
  clear hbx
  have HB_x : Hid ((wx3.alloc (.cells #[.bool b_q, .slice o_q l_q k_q, .slice p_q m_q u_q] 27)).heap[wx3.heap.size]? = some (.cells #[.bool b_q, .slice o_q l_q k_q, .slice p_q m_q u_q] 27 (0, 0))) := Lib.hid (made_at wx3 (.cells #[.bool b_q, .slice o_q l_q k_q, .slice p_q m_q u_q] 27) _ (by first | rfl | simp))
  generalize (wx3.alloc (.cells #[.bool b_q, .slice o_q l_q k_q, .slice p_q m_q u_q] 27)) = wx4 at *
  have x0 := cell_at (v := .bool b_q) HB_x.out 0 rfl
  have x1 := cell_at (v := .slice o_q l_q k_q) HB_x.out 1 rfl
  have x2 := cell_at (v := .slice p_q m_q u_q) HB_x.out 2 rfl
  refine (qtext_any (tab_below HTB.out hbt) c_q.gq (by omega)).mono ?_
  rintro e wx5 ⟨rfl, hbx⟩
  replace c_a := c_a.below hbx
  replace c_b := c_b.below hbx
  replace c_q := c_q.below hbx
  replace hbt := hbt.trans (hbx.mono hbt.size)
  replace HB_x := Lib.hid ((hbx.block _ (lt_of_block HB_x.out)).trans HB_x.out)
  clear hbx
  replace x0 := cell_at (v := .bool b_q) HB_x.out 0 rfl
  replace x1 := cell_at (v := .slice o_q l_q k_q) HB_x.out 1 rfl
  replace x2 := cell_at (v := .slice p_q m_q u_q) HB_x.out 2 rfl
  rw [HT.out]
  go_wp2_with fail
  refine (qfloor_any c_q.gq (by omega)).mono ?_
  rintro e wx6 ⟨v_f, rfl, c_f, hbx⟩
  replace c_a := c_a.below hbx
  replace c_b := c_b.below hbx
  replace c_q := c_q.below hbx
  replace hbt := hbt.trans (hbx.mono hbt.size)
  replace HB_x := Lib.hid ((hbx.block _ (lt_of_block HB_x.out)).trans HB_x.out)
  clear hbx
  replace x0 := cell_at (v := .bool b_q) HB_x.out 0 rfl
  replace x1 := cell_at (v := .slice o_q l_q k_q) HB_x.out 1 rfl
  replace x2 := cell_at (v := .slice p_q m_q u_q) HB_x.out 2 rfl
  obtain ⟨b_f, o_f, l_f, k_f, rfl⟩ := c_f.shape
  rw [HF.out] at c_f
  go_wp2_with fail
  refine (wtext_any _ (-2) (2 + 2 + 1 + 4) _ (tab_below HTB.out hbt) c_f.gi (by omega)).mono ?_
  rintro e wx7 ⟨rfl, hbx⟩
  replace c_a := c_a.below hbx
  replace c_b := c_b.below hbx
  replace c_q := c_q.below hbx
  replace c_f := c_f.below hbx
  replace hbt := hbt.trans (hbx.mono hbt.size)
  replace HB_x := Lib.hid ((hbx.block _ (lt_of_block HB_x.out)).trans HB_x.out)
  clear hbx
  replace x0 := cell_at (v := .bool b_q) HB_x.out 0 rfl
  replace x1 := cell_at (v := .slice o_q l_q k_q) HB_x.out 1 rfl
  replace x2 := cell_at (v := .slice p_q m_q u_q) HB_x.out 2 rfl
  rw [HU.out]
  go_wp2_with fail
  go_ret
  exact ⟨rfl, hbt⟩

end Go.Proofs.YtmindndmegiaaaaDoor
