/-
  Contracts of package ratio: isOne, divisor, times, crossed, Of, reduced.
-/
import Derived.Test.YtmindndmegiaaaaDoorQBase
import Derived.Test.YtmindndmegiaaaaDoorKWhoU
namespace Go.Proofs.YtmindndmegiaaaaDoor
open Go.RowKit
set_option maxRecDepth 100000

theorem bl_eq1 {n : Nat} : bl n = 1 ↔ n = 1 := by
  constructor
  · intro h
    rcases Nat.eq_zero_or_pos n with h0 | h0
    · rw [h0, bl_zero] at h; cases h
    · have h1 := bl_half h0
      have h2 := (bl_eq0 (n := n / 2)).1 (by omega)
      omega
  · rintro rfl
    rw [bl_half (by decide), show 1 / 2 = 0 from rfl, bl_zero]
theorem GN.more {w : World} {v : Value} {n k k' : Nat} (h : GN w v n k) (hk : k ≤ k') : GN w v n k' := by
  obtain ⟨xs, h1, h2, h3, h4⟩ := h; exact ⟨xs, h1, h2, h3, Nat.le_trans h4 hk⟩
theorem CI.more {w : World} {v : Value} {z : Int} {k k' : Nat} (h : CI w v z k) (hk : k ≤ k') : CI w v z k' := by
  obtain ⟨va, rfl, h, h2⟩ := h; exact ⟨va, rfl, h, lt_pow_more h2 hk⟩
theorem gi_nat {w : World} {va : Value} {n k : Nat} (h : GN w va n k) : GI w (.agg #[.bool false, va]) (n : Int) k := gi_mk h false

set_option maxHeartbeats 1000000 in
theorem isone_any {va : Value} {n k : Nat} {w : World} (hx : GN w va n k) (hk : k ≤ 1000000) :
    Calls Tryd.prog 58 #[va] w fun e w' => e = .returned (.bool (decide (n = 1))) ∧ w = w' := by
  have hz : (((bl n : Nat) : Int) == 1) = decide (n = 1) := by
    have := @bl_eq1 n
    by_cases h : n = 1
    · rw [decide_eq_true h, beq_iff_eq, this.2 h]; rfl
    · rw [decide_eq_false h, beq_eq_false_iff_ne]; have := mt this.1 h; omega
  go_enter Tryd.func58, Tryd.ntmps58
  go_wp2_with fail
  refine (bits_n hx hk).mono ?_
  rintro e w3 ⟨rfl, rfl⟩
  go_wp2_with fail
  go_ret
  exact ⟨rfl, rfl⟩

set_option maxHeartbeats 1000000 in
theorem divisor_any {va : Value} {n : Int} {d k : Nat} {w : World} (hx : GQ w va n d k) (hk : k ≤ 900000) :
    Calls Tryd.prog 45 #[va] w fun e w' => ∃ v, e = .returned v ∧ GN w' v d (k + 1) ∧ Below w.heap.size w w' := by
  obtain ⟨b, ao, l, c, po, m, e, x, y, rfl, g1, g2, -, rfl⟩ := hx
  have hW : Below w.heap.size w (w.alloc (.cells #[.bool b, .slice ao l c, .slice po m e] 27)) := (Below.refl _ _).alloc (Nat.le_refl _) _
  by_cases h0 : y = 0
  · subst h0
    have hz : (((bl 0 : Nat) : Int) == 0) = true := by rw [bl_zero]; rfl
    go_enter Tryd.func45, Tryd.ntmps45
    go_wp2_with fail
    refine (bits_n (g2.alloc _) (by omega)).mono ?_
    rintro e w3 ⟨rfl, rfl⟩
    go_wp2_with fail
    refine (of_d 1 1 _ rfl (by decide)).mono ?_
    rintro e w3 ⟨v, rfl, c1, -, hb⟩
    go_wp2_with fail
    go_ret
    exact ⟨_, rfl, gn_dig c1 (lt_pow_more (k := 1) (by decide) (by omega)), hW.trans (hb.mono hW.size)⟩
  · have hz : (((bl y : Nat) : Int) == 0) = false := by rw [beq_eq_false_iff_ne]; have := mt bl_eq0.1 h0; omega
    go_enter Tryd.func45, Tryd.ntmps45
    go_wp2_with fail
    refine (bits_n (g2.alloc _) (by omega)).mono ?_
    rintro e w3 ⟨rfl, rfl⟩
    go_wp2_with fail
    go_ret
    exact ⟨_, rfl, (g2.alloc _).more (by omega), hW⟩

set_option maxHeartbeats 2000000 in
theorem times_any {va vb : Value} {z : Int} {n k1 k2 : Nat} {w : World} (hx : GI w va z k1) (hy : GN w vb n k2) (h1 : k1 ≤ 1000000) (h2 : k2 ≤ 1000000) :
    Calls Tryd.prog 62 #[va, vb] w fun e w' => ∃ v, e = .returned v ∧ CI w' v (z * (n : Int)) (k1 + k2) ∧ Below w.heap.size w w' := by
  obtain ⟨ba, oa, la, ka, x, rfl, -, -⟩ := hx.shape
  obtain ⟨pb, mb, cb, rfl, -⟩ := hy.shape
  have hbt := Below.refl w.heap.size w
  go_enter Tryd.func62, Tryd.ntmps62
  go_wp2_with fail
  have hbx : Below w.heap.size w ((w.alloc (.cells #[.bool ba, .slice oa la ka] 25)).alloc (.cells #[.bool false, .slice none 0 0] 25)) := (((Below.refl _ _).alloc (by simp) _).alloc (by simp) _)
  replace hx := hx.below hbx
  replace hy := hy.below hbx
  replace hbt := hbt.trans (hbx.mono hbt.size)
  clear hbx
  have HB_xa : Hid (((w.alloc (.cells #[.bool ba, .slice oa la ka] 25)).alloc (.cells #[.bool false, .slice none 0 0] 25)).heap[w.heap.size]? = some (.cells #[.bool ba, .slice oa la ka] 25 (0, 0))) := Lib.hid (made_more (made_at w (.cells #[.bool ba, .slice oa la ka] 25) _ (by first | rfl | simp)) _)
  have HB_q : Hid (((w.alloc (.cells #[.bool ba, .slice oa la ka] 25)).alloc (.cells #[.bool false, .slice none 0 0] 25)).heap[w.heap.size + 1]? = some (.cells #[.bool false, .slice none 0 0] 25 (0, 0))) := Lib.hid (made_at (w.alloc (.cells #[.bool ba, .slice oa la ka] 25)) (.cells #[.bool false, .slice none 0 0] 25) _ (by first | rfl | simp))
  generalize ((w.alloc (.cells #[.bool ba, .slice oa la ka] 25)).alloc (.cells #[.bool false, .slice none 0 0] 25)) = wx1 at *
  have xa0 := cell_at (v := .bool ba) HB_xa.out 0 rfl
  have xa1 := cell_at (v := .slice oa la ka) HB_xa.out 1 rfl
  have q0 := cell_at (v := .bool false) HB_q.out 0 rfl
  have q1 := cell_at (v := .slice none 0 0) HB_q.out 1 rfl
  refine (wmul_any _ _ z (n : Int) k1 k2 _ hx (gi_nat hy) h1 h2).mono ?_
  rintro e wx2 ⟨v_p, rfl, c_p, hbx⟩
  replace hx := hx.below hbx
  replace hy := hy.below hbx
  replace hbt := hbt.trans (hbx.mono hbt.size)
  replace HB_xa := Lib.hid ((hbx.block _ (lt_of_block HB_xa.out)).trans HB_xa.out)
  replace HB_q := Lib.hid ((hbx.block _ (lt_of_block HB_q.out)).trans HB_q.out)
  clear hbx
  replace xa0 := cell_at (v := .bool ba) HB_xa.out 0 rfl
  replace xa1 := cell_at (v := .slice oa la ka) HB_xa.out 1 rfl
  replace q0 := cell_at (v := .bool false) HB_q.out 0 rfl
  replace q1 := cell_at (v := .slice none 0 0) HB_q.out 1 rfl
  obtain ⟨b_p, o_p, l_p, k_p, rfl⟩ := c_p.shape
  have fz_q0 := froz_at HB_q.out 0
  have fz_q1 := froz_at HB_q.out 1
  go_wp2_with fail
  exact bodyPost_ret (v := .agg #[.bool b_p, .slice o_p l_p k_p]) (by simp [results, Tryd.results62, go_sem, q0, q1]) rfl ⟨_, rfl, c_p.keeps (priv2 HB_q.out (by rfl) (by rfl)).keeps, below_setg hbt (by omega) _ _ ⟩

set_option maxHeartbeats 2000000 in
theorem crossed_any {va vb : Value} {n1 n2 : Int} {d1 d2 k1 k2 : Nat} {w : World} (ha : GQ w va n1 d1 k1) (hb : GQ w vb n2 d2 k2) (h1 : k1 ≤ 100000) (h2 : k2 ≤ 100000) :
    Calls Tryd.prog 43 #[va, vb] w fun e w' => ∃ x y, e = .returned (.tuple #[x, y]) ∧ CI w' x (n1 * (d2 : Int)) (k1 + (k2 + 1)) ∧ CI w' y (n2 * (d1 : Int)) (k2 + (k1 + 1)) ∧ Below w.heap.size w w' := by
  obtain ⟨ba, oa, la, ka, pa, ma, ca, rfl⟩ := ha.shape
  obtain ⟨bb, ob, lb, kb, pb, mb, cb, rfl⟩ := hb.shape
  have na := ha.num
  have nb := hb.num
  have hbt := Below.refl w.heap.size w
  go_enter Tryd.func43, Tryd.ntmps43
  go_wp2_with fail
  have hbx : Below w.heap.size w ((((w.alloc (.cells #[.bool ba, .slice oa la ka, .slice pa ma ca] 27)).alloc (.cells #[.bool bb, .slice ob lb kb, .slice pb mb cb] 27)).alloc (.cells #[.bool false, .slice none 0 0] 25)).alloc (.cells #[.bool false, .slice none 0 0] 25)) := (((((Below.refl _ _).alloc (by simp) _).alloc (by simp) _).alloc (by simp; omega) _).alloc (by simp; omega) _)
  replace ha := ha.below hbx
  replace hb := hb.below hbx
  replace na := na.below hbx
  replace nb := nb.below hbx
  replace hbt := hbt.trans (hbx.mono hbt.size)
  clear hbx
  have HB_xa : Hid (((((w.alloc (.cells #[.bool ba, .slice oa la ka, .slice pa ma ca] 27)).alloc (.cells #[.bool bb, .slice ob lb kb, .slice pb mb cb] 27)).alloc (.cells #[.bool false, .slice none 0 0] 25)).alloc (.cells #[.bool false, .slice none 0 0] 25)).heap[w.heap.size]? = some (.cells #[.bool ba, .slice oa la ka, .slice pa ma ca] 27 (0, 0))) := Lib.hid (made_more (made_more (made_more (made_at w (.cells #[.bool ba, .slice oa la ka, .slice pa ma ca] 27) _ (by first | rfl | simp)) _) _) _)
  have HB_xb : Hid (((((w.alloc (.cells #[.bool ba, .slice oa la ka, .slice pa ma ca] 27)).alloc (.cells #[.bool bb, .slice ob lb kb, .slice pb mb cb] 27)).alloc (.cells #[.bool false, .slice none 0 0] 25)).alloc (.cells #[.bool false, .slice none 0 0] 25)).heap[w.heap.size + 1]? = some (.cells #[.bool bb, .slice ob lb kb, .slice pb mb cb] 27 (0, 0))) := Lib.hid (made_more (made_more (made_at (w.alloc (.cells #[.bool ba, .slice oa la ka, .slice pa ma ca] 27)) (.cells #[.bool bb, .slice ob lb kb, .slice pb mb cb] 27) _ (by first | rfl | simp)) _) _)
  have HB_q : Hid (((((w.alloc (.cells #[.bool ba, .slice oa la ka, .slice pa ma ca] 27)).alloc (.cells #[.bool bb, .slice ob lb kb, .slice pb mb cb] 27)).alloc (.cells #[.bool false, .slice none 0 0] 25)).alloc (.cells #[.bool false, .slice none 0 0] 25)).heap[w.heap.size + 2]? = some (.cells #[.bool false, .slice none 0 0] 25 (0, 0))) := Lib.hid (made_more (made_at ((w.alloc (.cells #[.bool ba, .slice oa la ka, .slice pa ma ca] 27)).alloc (.cells #[.bool bb, .slice ob lb kb, .slice pb mb cb] 27)) (.cells #[.bool false, .slice none 0 0] 25) _ (by first | rfl | simp)) _)
  have HB_r : Hid (((((w.alloc (.cells #[.bool ba, .slice oa la ka, .slice pa ma ca] 27)).alloc (.cells #[.bool bb, .slice ob lb kb, .slice pb mb cb] 27)).alloc (.cells #[.bool false, .slice none 0 0] 25)).alloc (.cells #[.bool false, .slice none 0 0] 25)).heap[w.heap.size + 3]? = some (.cells #[.bool false, .slice none 0 0] 25 (0, 0))) := Lib.hid (made_at (((w.alloc (.cells #[.bool ba, .slice oa la ka, .slice pa ma ca] 27)).alloc (.cells #[.bool bb, .slice ob lb kb, .slice pb mb cb] 27)).alloc (.cells #[.bool false, .slice none 0 0] 25)) (.cells #[.bool false, .slice none 0 0] 25) _ (by first | rfl | simp))
  generalize ((((w.alloc (.cells #[.bool ba, .slice oa la ka, .slice pa ma ca] 27)).alloc (.cells #[.bool bb, .slice ob lb kb, .slice pb mb cb] 27)).alloc (.cells #[.bool false, .slice none 0 0] 25)).alloc (.cells #[.bool false, .slice none 0 0] 25)) = wx1 at *
  have xa0 := cell_at (v := .bool ba) HB_xa.out 0 rfl
  have xa1 := cell_at (v := .slice oa la ka) HB_xa.out 1 rfl
  have xa2 := cell_at (v := .slice pa ma ca) HB_xa.out 2 rfl
  have xb0 := cell_at (v := .bool bb) HB_xb.out 0 rfl
  have xb1 := cell_at (v := .slice ob lb kb) HB_xb.out 1 rfl
  have xb2 := cell_at (v := .slice pb mb cb) HB_xb.out 2 rfl
  have q0 := cell_at (v := .bool false) HB_q.out 0 rfl
  have q1 := cell_at (v := .slice none 0 0) HB_q.out 1 rfl
  have r0 := cell_at (v := .bool false) HB_r.out 0 rfl
  have r1 := cell_at (v := .slice none 0 0) HB_r.out 1 rfl
  have hlt_xa := lt_of_block HB_xa.out
  have hlt_xb := lt_of_block HB_xb.out
  have hlt_q := lt_of_block HB_q.out
  have hlt_r := lt_of_block HB_r.out
  have hszb := hbt.size
  refine Rely.region (by kernel_rfl) [[], [0], [], [2], [0, 1, 2, 3], [], [5], [], [0, 1, 2, 3, 4, 7], [0, 1, 2, 3, 4, 5, 6, 7, 8], [0, 1, 2, 3, 4, 5, 6, 7, 8, 9], [0, 1, 2, 3, 4, 5, 6, 7, 8, 9, 10]] [] [(10, 1000), (11, 1001)] (fun q => [w.heap.size + 2, w.heap.size + 3].getD q 0) 2 12 (by kernel_rfl) (by kernel_rfl) (fun q hq => by match q, hq with | 0, _ => exact hlt_q | 1, _ => exact hlt_r) (fun q r hq hr hne => by match q, r, hq, hr, hne with | 0, 0, _, _, h => exact absurd rfl h | 0, 1, _, _, h => exact (by show w.heap.size + 2 ≠ w.heap.size + 3; omega) | 1, 0, _, _, h => exact (by show w.heap.size + 3 ≠ w.heap.size + 2; omega) | 1, 1, _, _, h => exact absurd rfl h) ?_
  refine Rely.Chain.det ?_ (by rfl) (fun T xs wr hA => ?_) ?_
  rotate_left 1
  · have e2 := hA.pre 2 (by kernel_rfl)
    simp only [List.getElem?_toArray, List.getElem?_cons_succ, List.getElem?_cons_zero] at e2
    clear hA
    refine ⟨(by rfl), ?_⟩
    go_simp <;> (try with_reducible rfl)
  refine Rely.Chain.det ?_ (by rfl) (fun T xs wr hA => ?_) ?_
  rotate_left 1
  · have e6 := hA.tm 0 6 (by rfl) (by rfl)
    have f6 : xs 0 = _ := hA.fa 0 (by rfl)
    (try simp (disch := first | rfl | decide) only [Rely.mask_in] at f6)
    rw [f6] at e6
    clear f6
    have hBq : wr.heap[w.heap.size]? = _ := (hA.bl _ hlt_xa (fun q hq => by match q, hq with | 0, _ => exact (by show w.heap.size + 2 ≠ w.heap.size; omega) | 1, _ => exact (by show w.heap.size + 3 ≠ w.heap.size; omega))).trans HB_xa.out
    have q0 := cell_at (v := .bool ba) hBq 0 rfl
    have q1 := cell_at (v := .slice oa la ka) hBq 1 rfl
    have q2 := cell_at (v := .slice pa ma ca) hBq 2 rfl
    clear hBq
    clear hA
    refine ⟨(by rfl), ?_⟩
    go_simp <;> (try with_reducible rfl)
  refine Rely.Chain.det ?_ (by rfl) (fun T xs wr hA => ?_) ?_
  rotate_left 1
  · have e3 := hA.pre 3 (by kernel_rfl)
    simp only [List.getElem?_toArray, List.getElem?_cons_succ, List.getElem?_cons_zero] at e3
    have hBq : wr.heap[w.heap.size + 1]? = _ := (hA.bl _ hlt_xb (fun q hq => by match q, hq with | 0, _ => exact (by show w.heap.size + 2 ≠ w.heap.size + 1; omega) | 1, _ => exact (by show w.heap.size + 3 ≠ w.heap.size + 1; omega))).trans HB_xb.out
    have q0 := cell_at (v := .bool bb) hBq 0 rfl
    have q1 := cell_at (v := .slice ob lb kb) hBq 1 rfl
    have q2 := cell_at (v := .slice pb mb cb) hBq 2 rfl
    clear hBq
    clear hA
    refine ⟨(by rfl), ?_⟩
    go_simp <;> (try with_reducible rfl)
  refine Rely.Chain.call (fun _ v w => GN w v d2 (k2 + 1)) (fun _ _ _ _ h hb => h.below hb) (fun _ _ _ _ _ h hp => h.keeps hp.keeps) (by rfl) (fun T xs wr hA => ?_) ?_
  · have e8 := hA.tm 2 8 (by rfl) (by rfl)
    have f8 : xs 2 = _ := hA.fa 2 (by rfl)
    (try simp (disch := first | rfl | decide) only [Rely.mask_in] at f8)
    rw [f8] at e8
    clear f8
    have hkp := undrewK hA.kp
    have hbt' := hbt.trans (undrew (hA.be w.heap.size hszb (fun q hq => by match q, hq with | 0, _ => exact (by show w.heap.size ≤ w.heap.size + 2; omega) | 1, _ => exact (by show w.heap.size ≤ w.heap.size + 3; omega))))
    have hb := hb.keeps hkp
    clear hA
    refine ⟨(by rfl), fun K hK => ?_⟩
    go_simp
    refine (divisor_any hb (by omega)).mono ?_
    rintro e wq ⟨v, rfl, c, hb⟩
    exact hK.out _ _ c hb
  refine Rely.Chain.call (fun _ v w => CI w v (n1 * (d2 : Int)) (k1 + (k2 + 1))) (fun _ _ _ _ h hb => h.below hb) (fun _ _ _ _ _ h hp => h.keeps hp.keeps) (by rfl) (fun T xs wr hA => ?_) ?_
  · have e7 := hA.tm 1 7 (by rfl) (by rfl)
    have f7 : xs 1 = _ := hA.fa 1 (by rfl)
    (try simp (disch := first | rfl | decide) only [Rely.mask_in] at f7)
    rw [f7] at e7
    clear f7
    have e9 := hA.tm 3 9 (by rfl) (by rfl)
    have hkp := undrewK hA.kp
    have hbt' := hbt.trans (undrew (hA.be w.heap.size hszb (fun q hq => by match q, hq with | 0, _ => exact (by show w.heap.size ≤ w.heap.size + 2; omega) | 1, _ => exact (by show w.heap.size ≤ w.heap.size + 3; omega))))
    have na := na.keeps hkp
    have c_dv : GN wr (xs 3) d2 (k2 + 1) := hA.fa 3 (by rfl)
    clear hA
    refine ⟨(by rfl), fun K hK => ?_⟩
    go_simp
    refine (times_any na c_dv (by omega) (by omega)).mono ?_
    rintro e wq ⟨v, rfl, c, hb⟩
    exact hK.out _ _ c hb
  refine Rely.Chain.det ?_ (by rfl) (fun T xs wr hA => ?_) ?_
  rotate_left 1
  · have e3 := hA.pre 3 (by kernel_rfl)
    simp only [List.getElem?_toArray, List.getElem?_cons_succ, List.getElem?_cons_zero] at e3
    clear hA
    refine ⟨(by rfl), ?_⟩
    go_simp <;> (try with_reducible rfl)
  refine Rely.Chain.det ?_ (by rfl) (fun T xs wr hA => ?_) ?_
  rotate_left 1
  · have e11 := hA.tm 5 11 (by rfl) (by rfl)
    have f11 : xs 5 = _ := hA.fa 5 (by rfl)
    (try simp (disch := first | rfl | decide) only [Rely.mask_in] at f11)
    rw [f11] at e11
    clear f11
    have hBq : wr.heap[w.heap.size + 1]? = _ := (hA.bl _ hlt_xb (fun q hq => by match q, hq with | 0, _ => exact (by show w.heap.size + 2 ≠ w.heap.size + 1; omega) | 1, _ => exact (by show w.heap.size + 3 ≠ w.heap.size + 1; omega))).trans HB_xb.out
    have q0 := cell_at (v := .bool bb) hBq 0 rfl
    have q1 := cell_at (v := .slice ob lb kb) hBq 1 rfl
    have q2 := cell_at (v := .slice pb mb cb) hBq 2 rfl
    clear hBq
    clear hA
    refine ⟨(by rfl), ?_⟩
    go_simp <;> (try with_reducible rfl)
  refine Rely.Chain.det ?_ (by rfl) (fun T xs wr hA => ?_) ?_
  rotate_left 1
  · have e2 := hA.pre 2 (by kernel_rfl)
    simp only [List.getElem?_toArray, List.getElem?_cons_succ, List.getElem?_cons_zero] at e2
    have hBq : wr.heap[w.heap.size]? = _ := (hA.bl _ hlt_xa (fun q hq => by match q, hq with | 0, _ => exact (by show w.heap.size + 2 ≠ w.heap.size; omega) | 1, _ => exact (by show w.heap.size + 3 ≠ w.heap.size; omega))).trans HB_xa.out
    have q0 := cell_at (v := .bool ba) hBq 0 rfl
    have q1 := cell_at (v := .slice oa la ka) hBq 1 rfl
    have q2 := cell_at (v := .slice pa ma ca) hBq 2 rfl
    clear hBq
    clear hA
    refine ⟨(by rfl), ?_⟩
    go_simp <;> (try with_reducible rfl)
  refine Rely.Chain.call (fun _ v w => GN w v d1 (k1 + 1)) (fun _ _ _ _ h hb => h.below hb) (fun _ _ _ _ _ h hp => h.keeps hp.keeps) (by rfl) (fun T xs wr hA => ?_) ?_
  · have e13 := hA.tm 7 13 (by rfl) (by rfl)
    have f13 : xs 7 = _ := hA.fa 7 (by rfl)
    (try simp (disch := first | rfl | decide) only [Rely.mask_in] at f13)
    rw [f13] at e13
    clear f13
    have hkp := undrewK hA.kp
    have hbt' := hbt.trans (undrew (hA.be w.heap.size hszb (fun q hq => by match q, hq with | 0, _ => exact (by show w.heap.size ≤ w.heap.size + 2; omega) | 1, _ => exact (by show w.heap.size ≤ w.heap.size + 3; omega))))
    have ha := ha.keeps hkp
    clear hA
    refine ⟨(by rfl), fun K hK => ?_⟩
    go_simp
    refine (divisor_any ha (by omega)).mono ?_
    rintro e wq ⟨v, rfl, c, hb⟩
    exact hK.out _ _ c hb
  refine Rely.Chain.call (fun _ v w => CI w v (n2 * (d1 : Int)) (k2 + (k1 + 1))) (fun _ _ _ _ h hb => h.below hb) (fun _ _ _ _ _ h hp => h.keeps hp.keeps) (by rfl) (fun T xs wr hA => ?_) ?_
  · have e12 := hA.tm 6 12 (by rfl) (by rfl)
    have f12 : xs 6 = _ := hA.fa 6 (by rfl)
    (try simp (disch := first | rfl | decide) only [Rely.mask_in] at f12)
    rw [f12] at e12
    clear f12
    have e14 := hA.tm 8 14 (by rfl) (by rfl)
    have hkp := undrewK hA.kp
    have hbt' := hbt.trans (undrew (hA.be w.heap.size hszb (fun q hq => by match q, hq with | 0, _ => exact (by show w.heap.size ≤ w.heap.size + 2; omega) | 1, _ => exact (by show w.heap.size ≤ w.heap.size + 3; omega))))
    have nb := nb.keeps hkp
    have c_du : GN wr (xs 8) d1 (k1 + 1) := hA.fa 8 (by rfl)
    clear hA
    refine ⟨(by rfl), fun K hK => ?_⟩
    go_simp
    refine (times_any nb c_du (by omega) (by omega)).mono ?_
    rintro e wq ⟨v, rfl, c, hb⟩
    exact hK.out _ _ c hb
  refine Rely.Chain.storeOld 0 4 25 (by rfl) (by rfl) (by decide) (Rely.own_one (by rfl)) (fun T xs wr hA hB0 => ?_) ?_
  · have e4 := hA.pre 4 (by kernel_rfl)
    simp only [List.getElem?_toArray, List.getElem?_cons_succ, List.getElem?_cons_zero] at e4
    have hB : wr.heap[w.heap.size + 2]? = _ := hB0.trans HB_q.out
    clear hB0
    have e10 := hA.tm 4 10 (by rfl) (by rfl)
    have hc : CI wr (xs 4) (n1 * (d2 : Int)) (k1 + (k2 + 1)) := hA.fa 4 (by rfl)
    obtain ⟨b_h, o_h, l_h, k_h, hv⟩ := hc.shape
    clear hc
    rw [hv] at e10
    have z0 := cell_at hB 0 rfl
    have z1 := cell_at hB 1 rfl
    have fz0 := froz_at hB 0
    have fz1 := froz_at hB 1
    clear hA
    refine ⟨(by rfl), fun K hK => ?_⟩
    go_simp
    exact hK.out _ _ hv (hset2 hB _ _) (priv2 hB (by rfl) (by rfl))
  refine Rely.Chain.storeOld 1 9 25 (by rfl) (by rfl) (by decide) (Rely.own_one (by rfl)) (fun T xs wr hA hB0 => ?_) ?_
  · have e5 := hA.pre 5 (by kernel_rfl)
    simp only [List.getElem?_toArray, List.getElem?_cons_succ, List.getElem?_cons_zero] at e5
    have hB : wr.heap[w.heap.size + 3]? = _ := hB0.trans HB_r.out
    clear hB0
    have e15 := hA.tm 9 15 (by rfl) (by rfl)
    have hc : CI wr (xs 9) (n2 * (d1 : Int)) (k2 + (k1 + 1)) := hA.fa 9 (by rfl)
    obtain ⟨b_h, o_h, l_h, k_h, hv⟩ := hc.shape
    clear hc
    rw [hv] at e15
    have z0 := cell_at hB 0 rfl
    have z1 := cell_at hB 1 rfl
    have fz0 := froz_at hB 0
    have fz1 := froz_at hB 1
    clear hA
    refine ⟨(by rfl), fun K hK => ?_⟩
    go_simp
    exact hK.out _ _ hv (hset2 hB _ _) (priv2 hB (by rfl) (by rfl))
  refine Rely.Chain.done (fun xs wx2 hL => ?_)
  obtain ⟨⟨hbe, hbl, hkp0⟩, hf, hp, hn⟩ := hL
  have f0 : xs 0 = _ := hf 0 (by decide)
  (try simp (disch := first | rfl | decide) only [Rely.mask_in] at f0)
  have f1 : xs 1 = _ := hf 1 (by decide)
  (try simp (disch := first | rfl | decide) only [Rely.mask_in] at f1)
  have f2 : xs 2 = _ := hf 2 (by decide)
  (try simp (disch := first | rfl | decide) only [Rely.mask_in] at f2)
  have c_dv : GN wx2 (xs 3) d2 (k2 + 1) := hf 3 (by decide)
  have c_x : CI wx2 (xs 4) (n1 * (d2 : Int)) (k1 + (k2 + 1)) := hf 4 (by decide)
  have f5 : xs 5 = _ := hf 5 (by decide)
  (try simp (disch := first | rfl | decide) only [Rely.mask_in] at f5)
  have f6 : xs 6 = _ := hf 6 (by decide)
  (try simp (disch := first | rfl | decide) only [Rely.mask_in] at f6)
  have f7 : xs 7 = _ := hf 7 (by decide)
  (try simp (disch := first | rfl | decide) only [Rely.mask_in] at f7)
  have c_du : GN wx2 (xs 8) d1 (k1 + 1) := hf 8 (by decide)
  have c_y : CI wx2 (xs 9) (n2 * (d1 : Int)) (k2 + (k1 + 1)) := hf 9 (by decide)
  obtain ⟨cc, hv, hB_q⟩ := hf 10 (by decide)
  change xs 4 = _ at hv
  obtain ⟨b_x, o_x, l_x, k_x, hs_x⟩ := c_x.shape
  rw [hs_x] at hv
  injection hv with hv
  subst hv
  obtain ⟨cc, hv, hB_r⟩ := hf 11 (by decide)
  change xs 9 = _ at hv
  obtain ⟨b_y, o_y, l_y, k_y, hs_y⟩ := c_y.shape
  rw [hs_y] at hv
  injection hv with hv
  subst hv
  clear hf hp hn
  refine Rely.rest_done ?_
  rw [hs_x] at c_x
  rw [hs_y] at c_y
  simp only [Rely.fill, List.setIfInBounds_toArray, List.set_cons_zero, List.set_cons_succ, f0, f1, f2, f5, f6, f7, hs_x, hs_y]
  clear f0 f1 f2 f5 f6 f7 hs_x hs_y
  generalize xs 3 = v_dv at c_dv ⊢
  generalize xs 8 = v_du at c_du ⊢
  clear xs
  obtain ⟨o_dv, l_dv, k_dv, rfl, -⟩ := c_dv.shape
  obtain ⟨o_du, l_du, k_du, rfl, -⟩ := c_du.shape
  replace hkp0 := undrewK hkp0
  replace ha := ha.keeps hkp0
  replace hb := hb.keeps hkp0
  replace na := na.keeps hkp0
  replace nb := nb.keeps hkp0
  replace hbt := hbt.trans (undrew (hbe w.heap.size hszb (fun q hq => by match q, hq with | 0, _ => exact (by show w.heap.size ≤ w.heap.size + 2; omega) | 1, _ => exact (by show w.heap.size ≤ w.heap.size + 3; omega))))
  replace HB_xa := Lib.hid ((hbl _ hlt_xa (fun q hq => by match q, hq with | 0, _ => exact (by show w.heap.size + 2 ≠ w.heap.size; omega) | 1, _ => exact (by show w.heap.size + 3 ≠ w.heap.size; omega))).trans HB_xa.out)
  replace HB_xb := Lib.hid ((hbl _ hlt_xb (fun q hq => by match q, hq with | 0, _ => exact (by show w.heap.size + 2 ≠ w.heap.size + 1; omega) | 1, _ => exact (by show w.heap.size + 3 ≠ w.heap.size + 1; omega))).trans HB_xb.out)
  replace HB_q := Lib.hid (show wx2.heap[w.heap.size + 2]? = some (.cells #[.bool b_x, .slice o_x l_x k_x] 25 (0, 0)) from hB_q)
  clear hB_q
  replace HB_r := Lib.hid (show wx2.heap[w.heap.size + 3]? = some (.cells #[.bool b_y, .slice o_y l_y k_y] 25 (0, 0)) from hB_r)
  clear hB_r
  clear hkp0 hbe hbl hszb
  replace xa0 := cell_at (v := .bool ba) HB_xa.out 0 rfl
  replace xa1 := cell_at (v := .slice oa la ka) HB_xa.out 1 rfl
  replace xa2 := cell_at (v := .slice pa ma ca) HB_xa.out 2 rfl
  replace xb0 := cell_at (v := .bool bb) HB_xb.out 0 rfl
  replace xb1 := cell_at (v := .slice ob lb kb) HB_xb.out 1 rfl
  replace xb2 := cell_at (v := .slice pb mb cb) HB_xb.out 2 rfl
  replace q0 := cell_at (v := .bool b_x) HB_q.out 0 rfl
  replace q1 := cell_at (v := .slice o_x l_x k_x) HB_q.out 1 rfl
  replace r0 := cell_at (v := .bool b_y) HB_r.out 0 rfl
  replace r1 := cell_at (v := .slice o_y l_y k_y) HB_r.out 1 rfl
  clear hlt_xa hlt_xb hlt_q hlt_r
  go_wp2_with fail
  exact bodyPost_ret (v := .tuple #[.agg #[.bool b_x, .slice o_x l_x k_x], .agg #[.bool b_y, .slice o_y l_y k_y]]) (by simp [results, Tryd.results43, go_sem, q0, q1, r0, r1]) rfl ⟨_, _, rfl, c_x, c_y, hbt⟩

set_option maxHeartbeats 2000000 in
theorem qof_any {va : Value} {z : Int} {k : Nat} {w : World} (hx : GI w va z k) (hk : k ≤ 900000) :
    Calls Tryd.prog 28 #[va] w fun e w' => ∃ v, e = .returned v ∧ CQ w' v (z : Rat) (k + 1) ∧ Below w.heap.size w w' := by
  obtain ⟨ba, oa, la, ka, x, rfl, g0, hzz⟩ := hx.shape
  clear hx
  have hbt := Below.refl w.heap.size w
  go_enter Tryd.func28, Tryd.ntmps28
  go_wp2_with fail
  have hbx : Below w.heap.size w ((w.alloc (.cells #[.bool ba, .slice oa la ka] 25)).alloc (.cells #[.bool false, .slice none 0 0, .slice none 0 0] 27)) := (((Below.refl _ _).alloc (by simp) _).alloc (by simp) _)
  replace g0 := g0.below hbx
  replace hbt := hbt.trans (hbx.mono hbt.size)
  clear hbx
  have HB_xa : Hid (((w.alloc (.cells #[.bool ba, .slice oa la ka] 25)).alloc (.cells #[.bool false, .slice none 0 0, .slice none 0 0] 27)).heap[w.heap.size]? = some (.cells #[.bool ba, .slice oa la ka] 25 (0, 0))) := Lib.hid (made_more (made_at w (.cells #[.bool ba, .slice oa la ka] 25) _ (by first | rfl | simp)) _)
  have HB_q : Hid (((w.alloc (.cells #[.bool ba, .slice oa la ka] 25)).alloc (.cells #[.bool false, .slice none 0 0, .slice none 0 0] 27)).heap[w.heap.size + 1]? = some (.cells #[.bool false, .slice none 0 0, .slice none 0 0] 27 (0, 0))) := Lib.hid (made_at (w.alloc (.cells #[.bool ba, .slice oa la ka] 25)) (.cells #[.bool false, .slice none 0 0, .slice none 0 0] 27) _ (by first | rfl | simp))
  generalize ((w.alloc (.cells #[.bool ba, .slice oa la ka] 25)).alloc (.cells #[.bool false, .slice none 0 0, .slice none 0 0] 27)) = wx1 at *
  have xa0 := cell_at (v := .bool ba) HB_xa.out 0 rfl
  have xa1 := cell_at (v := .slice oa la ka) HB_xa.out 1 rfl
  have q0 := cell_at (v := .bool false) HB_q.out 0 rfl
  have q1 := cell_at (v := .slice none 0 0) HB_q.out 1 rfl
  have q2 := cell_at (v := .slice none 0 0) HB_q.out 2 rfl
  refine (big_any _ _ x k _ g0 (by omega)).mono ?_
  rintro e wx2 ⟨v_p, rfl, c_p, hbx⟩
  replace g0 := g0.below hbx
  replace hbt := hbt.trans (hbx.mono hbt.size)
  replace HB_xa := Lib.hid ((hbx.block _ (lt_of_block HB_xa.out)).trans HB_xa.out)
  replace HB_q := Lib.hid ((hbx.block _ (lt_of_block HB_q.out)).trans HB_q.out)
  clear hbx
  replace xa0 := cell_at (v := .bool ba) HB_xa.out 0 rfl
  replace xa1 := cell_at (v := .slice oa la ka) HB_xa.out 1 rfl
  replace q0 := cell_at (v := .bool false) HB_q.out 0 rfl
  replace q1 := cell_at (v := .slice none 0 0) HB_q.out 1 rfl
  replace q2 := cell_at (v := .slice none 0 0) HB_q.out 2 rfl
  obtain ⟨b_p, o_p, l_p, k_p, rfl⟩ := c_p.shape
  go_wp2_with fail
  refine (of_d 1 1 _ rfl (by decide)).mono ?_
  rintro e wx3 ⟨v_u, rfl, c_u, -, hbx⟩
  replace g0 := g0.below hbx
  replace c_p := c_p.below hbx
  replace hbt := hbt.trans (hbx.mono hbt.size)
  replace HB_xa := Lib.hid ((hbx.block _ (lt_of_block HB_xa.out)).trans HB_xa.out)
  replace HB_q := Lib.hid ((hbx.block _ (lt_of_block HB_q.out)).trans HB_q.out)
  clear hbx
  replace xa0 := cell_at (v := .bool ba) HB_xa.out 0 rfl
  replace xa1 := cell_at (v := .slice oa la ka) HB_xa.out 1 rfl
  replace q0 := cell_at (v := .bool false) HB_q.out 0 rfl
  replace q1 := cell_at (v := .slice none 0 0) HB_q.out 1 rfl
  replace q2 := cell_at (v := .slice none 0 0) HB_q.out 2 rfl
  obtain ⟨p_u, m_u, rfl⟩ := sl_shape c_u
  have fz_q0 := froz_at HB_q.out 0
  have fz_q1 := froz_at HB_q.out 1
  have fz_q2 := froz_at HB_q.out 2
  have c_q := CQ.mk (q := (z : Rat)) (c_p.more (show k ≤ k + 1 by omega)) c_u (lt_pow_more (k := 1) (by decide) (by omega)) (by rw [Rat.num_intCast, hzz]) rfl
  go_wp2_with fail
  exact bodyPost_ret (v := .agg #[.bool b_p, .slice o_p l_p k_p, .slice p_u (dig L32 1).length m_u]) (by simp [results, Tryd.results28, go_sem, q0, q1, q2]) rfl ⟨_, rfl, c_q.keeps (priv3 HB_q.out (by rfl) (by rfl)).keeps, below_setg3 hbt (by omega) _ _ _ ⟩

set_option maxHeartbeats 2000000 in
theorem reduced_one (b : Bool) (ao : Option Addr) (l c x d k1 k2 : Nat) (vd : Value) (w : World) (g0 : GN w (.slice ao l c) x k1) (hy : GN w vd d k2) (h1 : k1 ≤ 900000) (h2 : k2 ≤ 900000) (h : d = 1) :
    Calls Tryd.prog 44 #[.agg #[.bool b, .slice ao l c], vd] w fun e w' => ∃ v, e = .returned v ∧ CQ w' v (mkRat (sg b x) d) (k1 + k2 + 1) ∧ Below w.heap.size w w' := by
  obtain ⟨pb, mb, cb, rfl, -⟩ := hy.shape
  have H1 := Lib.hid (decide_eq_true h)
  have HE := Lib.hid (show ((sg b x : Int) : Rat) = mkRat (sg b x) d by rw [h, mk_one])
  clear h
  have hbt := Below.refl w.heap.size w
  go_enter Tryd.func44, Tryd.ntmps44
  go_wp2_with fail
  have hbx : Below w.heap.size w ((w.alloc (.cells #[.bool b, .slice ao l c] 25)).alloc (.cells #[.bool false, .slice none 0 0, .slice none 0 0] 27)) := (((Below.refl _ _).alloc (by simp) _).alloc (by simp) _)
  replace g0 := g0.below hbx
  replace hy := hy.below hbx
  replace hbt := hbt.trans (hbx.mono hbt.size)
  clear hbx
  have HB_xa : Hid (((w.alloc (.cells #[.bool b, .slice ao l c] 25)).alloc (.cells #[.bool false, .slice none 0 0, .slice none 0 0] 27)).heap[w.heap.size]? = some (.cells #[.bool b, .slice ao l c] 25 (0, 0))) := Lib.hid (made_more (made_at w (.cells #[.bool b, .slice ao l c] 25) _ (by first | rfl | simp)) _)
  have HB_q : Hid (((w.alloc (.cells #[.bool b, .slice ao l c] 25)).alloc (.cells #[.bool false, .slice none 0 0, .slice none 0 0] 27)).heap[w.heap.size + 1]? = some (.cells #[.bool false, .slice none 0 0, .slice none 0 0] 27 (0, 0))) := Lib.hid (made_at (w.alloc (.cells #[.bool b, .slice ao l c] 25)) (.cells #[.bool false, .slice none 0 0, .slice none 0 0] 27) _ (by first | rfl | simp))
  generalize ((w.alloc (.cells #[.bool b, .slice ao l c] 25)).alloc (.cells #[.bool false, .slice none 0 0, .slice none 0 0] 27)) = wx1 at *
  have xa0 := cell_at (v := .bool b) HB_xa.out 0 rfl
  have xa1 := cell_at (v := .slice ao l c) HB_xa.out 1 rfl
  have q0 := cell_at (v := .bool false) HB_q.out 0 rfl
  have q1 := cell_at (v := .slice none 0 0) HB_q.out 1 rfl
  have q2 := cell_at (v := .slice none 0 0) HB_q.out 2 rfl
  refine (isone_any hy (by omega)).mono ?_
  rintro e wi ⟨rfl, rfl⟩
  rw [H1.out]
  go_wp2_with fail
  refine (qof_any (gi_mk g0 b) h1).mono ?_
  rintro e wx2 ⟨v_p, rfl, c_p, hbx⟩
  replace g0 := g0.below hbx
  replace hy := hy.below hbx
  replace hbt := hbt.trans (hbx.mono hbt.size)
  replace HB_xa := Lib.hid ((hbx.block _ (lt_of_block HB_xa.out)).trans HB_xa.out)
  replace HB_q := Lib.hid ((hbx.block _ (lt_of_block HB_q.out)).trans HB_q.out)
  clear hbx
  replace xa0 := cell_at (v := .bool b) HB_xa.out 0 rfl
  replace xa1 := cell_at (v := .slice ao l c) HB_xa.out 1 rfl
  replace q0 := cell_at (v := .bool false) HB_q.out 0 rfl
  replace q1 := cell_at (v := .slice none 0 0) HB_q.out 1 rfl
  replace q2 := cell_at (v := .slice none 0 0) HB_q.out 2 rfl
  obtain ⟨b_p, o_p, l_p, k_p, p_p, m_p, u_p, rfl⟩ := c_p.shape
  rw [HE.out] at c_p
  replace c_p := c_p.more (show k1 + 1 ≤ k1 + k2 + 1 by omega)
  have fz_q0 := froz_at HB_q.out 0
  have fz_q1 := froz_at HB_q.out 1
  have fz_q2 := froz_at HB_q.out 2
  go_wp2_with fail
  exact bodyPost_ret (v := .agg #[.bool b_p, .slice o_p l_p k_p, .slice p_p m_p u_p]) (by simp [results, Tryd.results44, go_sem, q0, q1, q2]) rfl ⟨_, rfl, c_p.keeps (priv3 HB_q.out (by rfl) (by rfl)).keeps, below_setg3 hbt (by omega) _ _ _ ⟩

set_option maxHeartbeats 2000000 in
theorem reduced_more (b : Bool) (ao : Option Addr) (l c x d k1 k2 : Nat) (vd : Value) (w : World) (g0 : GN w (.slice ao l c) x k1) (hy : GN w vd d k2) (h1 : k1 ≤ 900000) (h2 : k2 ≤ 900000) (hd : 0 < d) (h : d ≠ 1) :
    Calls Tryd.prog 44 #[.agg #[.bool b, .slice ao l c], vd] w fun e w' => ∃ v, e = .returned v ∧ CQ w' v (mkRat (sg b x) d) (k1 + k2 + 1) ∧ Below w.heap.size w w' := by
  obtain ⟨pb, mb, cb, rfl, -⟩ := hy.shape
  have H1 := Lib.hid (decide_eq_false h)
  have hg : 0 < Nat.gcd x d := Nat.gcd_pos_of_pos_right _ hd
  have hgl : Nat.gcd x d < L32 ^ k2 := Nat.lt_of_le_of_lt (Nat.le_of_dvd hd (Nat.gcd_dvd_right _ _)) hy.lt
  have hql : x / Nat.gcd x d < L32 ^ k1 := Nat.lt_of_le_of_lt (Nat.div_le_self _ _) g0.lt
  have hdl : d / Nat.gcd x d < L32 ^ k2 := Nat.lt_of_le_of_lt (Nat.div_le_self _ _) hy.lt
  have HN := Lib.hid (mk_num b x hd).symm
  have HD := Lib.hid (mk_den (sg b x) hd).symm
  rw [sg_natAbs] at HD
  clear h
  have hbt := Below.refl w.heap.size w
  go_enter Tryd.func44, Tryd.ntmps44
  go_wp2_with fail
  have hbx : Below w.heap.size w ((w.alloc (.cells #[.bool b, .slice ao l c] 25)).alloc (.cells #[.bool false, .slice none 0 0, .slice none 0 0] 27)) := (((Below.refl _ _).alloc (by simp) _).alloc (by simp) _)
  replace g0 := g0.below hbx
  replace hy := hy.below hbx
  replace hbt := hbt.trans (hbx.mono hbt.size)
  clear hbx
  have HB_xa : Hid (((w.alloc (.cells #[.bool b, .slice ao l c] 25)).alloc (.cells #[.bool false, .slice none 0 0, .slice none 0 0] 27)).heap[w.heap.size]? = some (.cells #[.bool b, .slice ao l c] 25 (0, 0))) := Lib.hid (made_more (made_at w (.cells #[.bool b, .slice ao l c] 25) _ (by first | rfl | simp)) _)
  have HB_q : Hid (((w.alloc (.cells #[.bool b, .slice ao l c] 25)).alloc (.cells #[.bool false, .slice none 0 0, .slice none 0 0] 27)).heap[w.heap.size + 1]? = some (.cells #[.bool false, .slice none 0 0, .slice none 0 0] 27 (0, 0))) := Lib.hid (made_at (w.alloc (.cells #[.bool b, .slice ao l c] 25)) (.cells #[.bool false, .slice none 0 0, .slice none 0 0] 27) _ (by first | rfl | simp))
  generalize ((w.alloc (.cells #[.bool b, .slice ao l c] 25)).alloc (.cells #[.bool false, .slice none 0 0, .slice none 0 0] 27)) = wx1 at *
  have xa0 := cell_at (v := .bool b) HB_xa.out 0 rfl
  have xa1 := cell_at (v := .slice ao l c) HB_xa.out 1 rfl
  have q0 := cell_at (v := .bool false) HB_q.out 0 rfl
  have q1 := cell_at (v := .slice none 0 0) HB_q.out 1 rfl
  have q2 := cell_at (v := .slice none 0 0) HB_q.out 2 rfl
  refine (isone_any hy (by omega)).mono ?_
  rintro e wi ⟨rfl, rfl⟩
  rw [H1.out]
  go_wp2_with fail
  refine (gcd_d g0 hy h1 h2).mono ?_
  rintro e wx2 ⟨v_g, rfl, c_g, hbx⟩
  replace g0 := g0.below hbx
  replace hy := hy.below hbx
  replace hbt := hbt.trans (hbx.mono hbt.size)
  replace HB_xa := Lib.hid ((hbx.block _ (lt_of_block HB_xa.out)).trans HB_xa.out)
  replace HB_q := Lib.hid ((hbx.block _ (lt_of_block HB_q.out)).trans HB_q.out)
  clear hbx
  replace xa0 := cell_at (v := .bool b) HB_xa.out 0 rfl
  replace xa1 := cell_at (v := .slice ao l c) HB_xa.out 1 rfl
  replace q0 := cell_at (v := .bool false) HB_q.out 0 rfl
  replace q1 := cell_at (v := .slice none 0 0) HB_q.out 1 rfl
  replace q2 := cell_at (v := .slice none 0 0) HB_q.out 2 rfl
  obtain ⟨o_g, k_g, rfl⟩ := sl_shape c_g
  replace c_g := gn_dig c_g hgl
  go_wp2_with fail
  refine (div_d g0 c_g h1 hg).mono ?_
  rintro e wx3 ⟨v_a, v_r, rfl, c_a, c_r, hbx⟩
  replace g0 := g0.below hbx
  replace hy := hy.below hbx
  replace c_g := c_g.below hbx
  replace hbt := hbt.trans (hbx.mono hbt.size)
  replace HB_xa := Lib.hid ((hbx.block _ (lt_of_block HB_xa.out)).trans HB_xa.out)
  replace HB_q := Lib.hid ((hbx.block _ (lt_of_block HB_q.out)).trans HB_q.out)
  clear hbx
  replace xa0 := cell_at (v := .bool b) HB_xa.out 0 rfl
  replace xa1 := cell_at (v := .slice ao l c) HB_xa.out 1 rfl
  replace q0 := cell_at (v := .bool false) HB_q.out 0 rfl
  replace q1 := cell_at (v := .slice none 0 0) HB_q.out 1 rfl
  replace q2 := cell_at (v := .slice none 0 0) HB_q.out 2 rfl
  obtain ⟨o_a, k_a, rfl⟩ := sl_shape c_a
  obtain ⟨o_r, k_r, rfl⟩ := sl_shape c_r
  clear c_r
  replace c_a := gn_dig c_a hql
  go_wp2_with fail
  refine (div_d hy c_g h2 hg).mono ?_
  rintro e wx4 ⟨v_t, v_s, rfl, c_t, c_s, hbx⟩
  replace g0 := g0.below hbx
  replace hy := hy.below hbx
  replace c_g := c_g.below hbx
  replace c_a := c_a.below hbx
  replace hbt := hbt.trans (hbx.mono hbt.size)
  replace HB_xa := Lib.hid ((hbx.block _ (lt_of_block HB_xa.out)).trans HB_xa.out)
  replace HB_q := Lib.hid ((hbx.block _ (lt_of_block HB_q.out)).trans HB_q.out)
  clear hbx
  replace xa0 := cell_at (v := .bool b) HB_xa.out 0 rfl
  replace xa1 := cell_at (v := .slice ao l c) HB_xa.out 1 rfl
  replace q0 := cell_at (v := .bool false) HB_q.out 0 rfl
  replace q1 := cell_at (v := .slice none 0 0) HB_q.out 1 rfl
  replace q2 := cell_at (v := .slice none 0 0) HB_q.out 2 rfl
  obtain ⟨o_t, k_t, rfl⟩ := sl_shape c_t
  obtain ⟨o_s, k_s, rfl⟩ := sl_shape c_s
  clear c_s
  go_wp2_with fail
  refine (big_any _ _ _ k1 _ c_a (by omega)).mono ?_
  rintro e wx5 ⟨v_p, rfl, c_p, hbx⟩
  replace g0 := g0.below hbx
  replace hy := hy.below hbx
  replace c_g := c_g.below hbx
  replace c_a := c_a.below hbx
  replace c_t := c_t.below hbx
  replace hbt := hbt.trans (hbx.mono hbt.size)
  replace HB_xa := Lib.hid ((hbx.block _ (lt_of_block HB_xa.out)).trans HB_xa.out)
  replace HB_q := Lib.hid ((hbx.block _ (lt_of_block HB_q.out)).trans HB_q.out)
  clear hbx
  replace xa0 := cell_at (v := .bool b) HB_xa.out 0 rfl
  replace xa1 := cell_at (v := .slice ao l c) HB_xa.out 1 rfl
  replace q0 := cell_at (v := .bool false) HB_q.out 0 rfl
  replace q1 := cell_at (v := .slice none 0 0) HB_q.out 1 rfl
  replace q2 := cell_at (v := .slice none 0 0) HB_q.out 2 rfl
  obtain ⟨b_p, o_p, l_p, k_p, rfl⟩ := c_p.shape
  have c_q := CQ.mk (q := mkRat (sg b x) d) (c_p.more (show k1 ≤ k1 + k2 + 1 by omega)) c_t (lt_pow_more hdl (by omega)) HN.out HD.out
  have fz_q0 := froz_at HB_q.out 0
  have fz_q1 := froz_at HB_q.out 1
  have fz_q2 := froz_at HB_q.out 2
  go_wp2_with fail
  exact bodyPost_ret (v := .agg #[.bool b_p, .slice o_p l_p k_p, .slice o_t (dig L32 (d / Nat.gcd x d)).length k_t]) (by simp [results, Tryd.results44, go_sem, q0, q1, q2]) rfl ⟨_, rfl, c_q.keeps (priv3 HB_q.out (by rfl) (by rfl)).keeps, below_setg3 hbt (by omega) _ _ _ ⟩

theorem reduced_any {va vd : Value} {n : Int} {d k1 k2 : Nat} {w : World} (hx : GI w va n k1) (hy : GN w vd d k2) (h1 : k1 ≤ 900000) (h2 : k2 ≤ 900000) (hd : 0 < d) :
    Calls Tryd.prog 44 #[va, vd] w fun e w' => ∃ v, e = .returned v ∧ CQ w' v (mkRat n d) (k1 + k2 + 1) ∧ Below w.heap.size w w' := by
  obtain ⟨b, ao, l, c, x, rfl, g0, rfl⟩ := hx.shape
  by_cases h : d = 1
  · exact reduced_one b ao l c x d k1 k2 vd w g0 hy h1 h2 h
  · exact reduced_more b ao l c x d k1 k2 vd w g0 hy h1 h2 hd h

end Go.Proofs.YtmindndmegiaaaaDoor
