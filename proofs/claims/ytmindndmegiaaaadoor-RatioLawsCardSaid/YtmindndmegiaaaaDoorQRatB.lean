/-
  Contracts of package ratio: Add, Sub, Neg, Mul, Frac, Cmp, Sign, divided, Floor, Ceil, Whole.
-/
import Derived.Test.YtmindndmegiaaaaDoorQRatA
namespace Go.Proofs.YtmindndmegiaaaaDoor
open Go.RowKit
set_option maxRecDepth 100000

set_option maxHeartbeats 2000000 in
theorem qadd_any {va vb : Value} {n1 n2 : Int} {d1 d2 k1 k2 : Nat} {w : World} (ha : GQ w va n1 d1 k1) (hb : GQ w vb n2 d2 k2) (h1 : k1 ≤ 100000) (h2 : k2 ≤ 100000) :
    Calls Tryd.prog 14 #[va, vb] w fun e w' => ∃ v, e = .returned v ∧ CQ w' v (mkRat n1 d1 + mkRat n2 d2) (3 * k1 + 3 * k2 + 8) ∧ Below w.heap.size w w' := by
  obtain ⟨ba, oa, la, ka, pa, ma, ca, rfl⟩ := ha.shape
  obtain ⟨bb, ob, lb, kb, pb, mb, cb, rfl⟩ := hb.shape
  have hdd := Nat.mul_pos ha.pos hb.pos
  have HE := Lib.hid (mk_add n1 n2 ha.pos hb.pos)
  have hbt := Below.refl w.heap.size w
  go_enter Tryd.func14, Tryd.ntmps14
  go_wp2_with fail
  have hbx : Below w.heap.size w (((w.alloc (.cells #[.bool ba, .slice oa la ka, .slice pa ma ca] 27)).alloc (.cells #[.bool bb, .slice ob lb kb, .slice pb mb cb] 27)).alloc (.cells #[.bool false, .slice none 0 0, .slice none 0 0] 27)) := ((((Below.refl _ _).alloc (by simp) _).alloc (by simp) _).alloc (by simp; omega) _)
  replace ha := ha.below hbx
  replace hb := hb.below hbx
  replace hbt := hbt.trans (hbx.mono hbt.size)
  clear hbx
  have HB_xa : Hid ((((w.alloc (.cells #[.bool ba, .slice oa la ka, .slice pa ma ca] 27)).alloc (.cells #[.bool bb, .slice ob lb kb, .slice pb mb cb] 27)).alloc (.cells #[.bool false, .slice none 0 0, .slice none 0 0] 27)).heap[w.heap.size]? = some (.cells #[.bool ba, .slice oa la ka, .slice pa ma ca] 27 (0, 0))) := Lib.hid (made_more (made_more (made_at w (.cells #[.bool ba, .slice oa la ka, .slice pa ma ca] 27) _ (by first | rfl | simp)) _) _)
  have HB_xb : Hid ((((w.alloc (.cells #[.bool ba, .slice oa la ka, .slice pa ma ca] 27)).alloc (.cells #[.bool bb, .slice ob lb kb, .slice pb mb cb] 27)).alloc (.cells #[.bool false, .slice none 0 0, .slice none 0 0] 27)).heap[w.heap.size + 1]? = some (.cells #[.bool bb, .slice ob lb kb, .slice pb mb cb] 27 (0, 0))) := Lib.hid (made_more (made_at (w.alloc (.cells #[.bool ba, .slice oa la ka, .slice pa ma ca] 27)) (.cells #[.bool bb, .slice ob lb kb, .slice pb mb cb] 27) _ (by first | rfl | simp)) _)
  have HB_q : Hid ((((w.alloc (.cells #[.bool ba, .slice oa la ka, .slice pa ma ca] 27)).alloc (.cells #[.bool bb, .slice ob lb kb, .slice pb mb cb] 27)).alloc (.cells #[.bool false, .slice none 0 0, .slice none 0 0] 27)).heap[w.heap.size + 2]? = some (.cells #[.bool false, .slice none 0 0, .slice none 0 0] 27 (0, 0))) := Lib.hid (made_at ((w.alloc (.cells #[.bool ba, .slice oa la ka, .slice pa ma ca] 27)).alloc (.cells #[.bool bb, .slice ob lb kb, .slice pb mb cb] 27)) (.cells #[.bool false, .slice none 0 0, .slice none 0 0] 27) _ (by first | rfl | simp))
  generalize (((w.alloc (.cells #[.bool ba, .slice oa la ka, .slice pa ma ca] 27)).alloc (.cells #[.bool bb, .slice ob lb kb, .slice pb mb cb] 27)).alloc (.cells #[.bool false, .slice none 0 0, .slice none 0 0] 27)) = wx1 at *
  have xa0 := cell_at (v := .bool ba) HB_xa.out 0 rfl
  have xa1 := cell_at (v := .slice oa la ka) HB_xa.out 1 rfl
  have xa2 := cell_at (v := .slice pa ma ca) HB_xa.out 2 rfl
  have xb0 := cell_at (v := .bool bb) HB_xb.out 0 rfl
  have xb1 := cell_at (v := .slice ob lb kb) HB_xb.out 1 rfl
  have xb2 := cell_at (v := .slice pb mb cb) HB_xb.out 2 rfl
  have q0 := cell_at (v := .bool false) HB_q.out 0 rfl
  have q1 := cell_at (v := .slice none 0 0) HB_q.out 1 rfl
  have q2 := cell_at (v := .slice none 0 0) HB_q.out 2 rfl
  refine (crossed_any ha hb h1 h2).mono ?_
  rintro e wx2 ⟨v_x, v_y, rfl, c_x, c_y, hbx⟩
  replace ha := ha.below hbx
  replace hb := hb.below hbx
  replace hbt := hbt.trans (hbx.mono hbt.size)
  replace HB_xa := Lib.hid ((hbx.block _ (lt_of_block HB_xa.out)).trans HB_xa.out)
  replace HB_xb := Lib.hid ((hbx.block _ (lt_of_block HB_xb.out)).trans HB_xb.out)
  replace HB_q := Lib.hid ((hbx.block _ (lt_of_block HB_q.out)).trans HB_q.out)
  clear hbx
  replace xa0 := cell_at (v := .bool ba) HB_xa.out 0 rfl
  replace xa1 := cell_at (v := .slice oa la ka) HB_xa.out 1 rfl
  replace xa2 := cell_at (v := .slice pa ma ca) HB_xa.out 2 rfl
  replace xb0 := cell_at (v := .bool bb) HB_xb.out 0 rfl
  replace xb1 := cell_at (v := .slice ob lb kb) HB_xb.out 1 rfl
  replace xb2 := cell_at (v := .slice pb mb cb) HB_xb.out 2 rfl
  replace q0 := cell_at (v := .bool false) HB_q.out 0 rfl
  replace q1 := cell_at (v := .slice none 0 0) HB_q.out 1 rfl
  replace q2 := cell_at (v := .slice none 0 0) HB_q.out 2 rfl
  obtain ⟨b_x, o_x, l_x, k_x, rfl⟩ := c_x.shape
  obtain ⟨b_y, o_y, l_y, k_y, rfl⟩ := c_y.shape
  have hlt_xa := lt_of_block HB_xa.out
  have hlu1_xa : w.heap.size < wx2.heap.size + 1 := Nat.lt_of_lt_of_le hlt_xa (Nat.le_add_right _ _)
  have hlt_xb := lt_of_block HB_xb.out
  have hlu1_xb : w.heap.size + 1 < wx2.heap.size + 1 := Nat.lt_of_lt_of_le hlt_xb (Nat.le_add_right _ _)
  have hlt_q := lt_of_block HB_q.out
  have hlu1_q : w.heap.size + 2 < wx2.heap.size + 1 := Nat.lt_of_lt_of_le hlt_q (Nat.le_add_right _ _)
  go_wp2_with fail
  have hla_xa_wx2 : w.heap.size < wx2.heap.size := hlt_xa
  have hla_xb_wx2 : w.heap.size + 1 < wx2.heap.size := hlt_xb
  have hla_q_wx2 : w.heap.size + 2 < wx2.heap.size := hlt_q
  clear hlt_xa hlt_xb hlt_q hlu1_xa hlu1_xb hlu1_q
  have hbx : Below wx2.heap.size wx2 ((wx2.alloc (.cells #[.bool b_x, .slice o_x l_x k_x] 25)).alloc (.cells #[.bool b_y, .slice o_y l_y k_y] 25)) := (((Below.refl _ _).alloc (by simp) _).alloc (by simp) _)
  replace ha := ha.below hbx
  replace hb := hb.below hbx
  replace c_x := c_x.below hbx
  replace c_y := c_y.below hbx
  replace hbt := hbt.trans (hbx.mono hbt.size)
  replace HB_xa := Lib.hid ((hbx.block _ (lt_of_block HB_xa.out)).trans HB_xa.out)
  replace HB_xb := Lib.hid ((hbx.block _ (lt_of_block HB_xb.out)).trans HB_xb.out)
  replace HB_q := Lib.hid ((hbx.block _ (lt_of_block HB_q.out)).trans HB_q.out)
  clear hbx
  replace xa0 := cell_at (v := .bool ba) HB_xa.out 0 rfl
  replace xa1 := cell_at (v := .slice oa la ka) HB_xa.out 1 rfl
  replace xa2 := cell_at (v := .slice pa ma ca) HB_xa.out 2 rfl
  replace xb0 := cell_at (v := .bool bb) HB_xb.out 0 rfl
  replace xb1 := cell_at (v := .slice ob lb kb) HB_xb.out 1 rfl
  replace xb2 := cell_at (v := .slice pb mb cb) HB_xb.out 2 rfl
  replace q0 := cell_at (v := .bool false) HB_q.out 0 rfl
  replace q1 := cell_at (v := .slice none 0 0) HB_q.out 1 rfl
  replace q2 := cell_at (v := .slice none 0 0) HB_q.out 2 rfl
  have HB_x : Hid (((wx2.alloc (.cells #[.bool b_x, .slice o_x l_x k_x] 25)).alloc (.cells #[.bool b_y, .slice o_y l_y k_y] 25)).heap[wx2.heap.size]? = some (.cells #[.bool b_x, .slice o_x l_x k_x] 25 (0, 0))) := Lib.hid (made_more (made_at wx2 (.cells #[.bool b_x, .slice o_x l_x k_x] 25) _ (by first | rfl | simp)) _)
  have HB_y : Hid (((wx2.alloc (.cells #[.bool b_x, .slice o_x l_x k_x] 25)).alloc (.cells #[.bool b_y, .slice o_y l_y k_y] 25)).heap[wx2.heap.size + 1]? = some (.cells #[.bool b_y, .slice o_y l_y k_y] 25 (0, 0))) := Lib.hid (made_at (wx2.alloc (.cells #[.bool b_x, .slice o_x l_x k_x] 25)) (.cells #[.bool b_y, .slice o_y l_y k_y] 25) _ (by first | rfl | simp))
  generalize ((wx2.alloc (.cells #[.bool b_x, .slice o_x l_x k_x] 25)).alloc (.cells #[.bool b_y, .slice o_y l_y k_y] 25)) = wx3 at *
  have x0 := cell_at (v := .bool b_x) HB_x.out 0 rfl
  have x1 := cell_at (v := .slice o_x l_x k_x) HB_x.out 1 rfl
  have y0 := cell_at (v := .bool b_y) HB_y.out 0 rfl
  have y1 := cell_at (v := .slice o_y l_y k_y) HB_y.out 1 rfl
  have hlt_xa := lt_of_block HB_xa.out
  have hlt_xb := lt_of_block HB_xb.out
  have hlt_q := lt_of_block HB_q.out
  have hlt_x := lt_of_block HB_x.out
  have hlt_y := lt_of_block HB_y.out
  have hszb := hbt.size
  refine Rely.region (by kernel_rfl) [[], [], [0, 1], [], [0, 1, 2, 3], [], [0, 1, 2, 3, 4, 5], [0, 1, 2, 3, 4, 5, 6], [0, 1, 2, 3, 4, 5, 6, 7], [0, 1, 2, 3, 4, 5, 6, 7, 8]] [] [(9, 1000)] (fun q => [w.heap.size + 2].getD q 0) 1 10 (by kernel_rfl) (by kernel_rfl) (fun q hq => by match q, hq with | 0, _ => exact hlt_q) (fun q r hq hr hne => by match q, r, hq, hr, hne with | 0, 0, _, _, h => exact absurd rfl h) ?_
  refine Rely.Chain.det ?_ (by rfl) (fun T xs wr hA => ?_) ?_
  rotate_left 1
  · have e5 := hA.pre 5 (by kernel_rfl)
    simp only [List.getElem?_toArray, List.getElem?_cons_succ, List.getElem?_cons_zero] at e5
    have hBq : wr.heap[wx2.heap.size]? = _ := (hA.bl _ hlt_x (fun q hq => by match q, hq with | 0, _ => exact (by show w.heap.size + 2 ≠ wx2.heap.size; omega))).trans HB_x.out
    have q0 := cell_at (v := .bool b_x) hBq 0 rfl
    have q1 := cell_at (v := .slice o_x l_x k_x) hBq 1 rfl
    clear hBq
    clear hA
    refine ⟨(by rfl), ?_⟩
    go_simp <;> (try with_reducible rfl)
  refine Rely.Chain.det ?_ (by rfl) (fun T xs wr hA => ?_) ?_
  rotate_left 1
  · have e6 := hA.pre 6 (by kernel_rfl)
    simp only [List.getElem?_toArray, List.getElem?_cons_succ, List.getElem?_cons_zero] at e6
    have hBq : wr.heap[wx2.heap.size + 1]? = _ := (hA.bl _ hlt_y (fun q hq => by match q, hq with | 0, _ => exact (by show w.heap.size + 2 ≠ wx2.heap.size + 1; omega))).trans HB_y.out
    have q0 := cell_at (v := .bool b_y) hBq 0 rfl
    have q1 := cell_at (v := .slice o_y l_y k_y) hBq 1 rfl
    clear hBq
    clear hA
    refine ⟨(by rfl), ?_⟩
    go_simp <;> (try with_reducible rfl)
  refine Rely.Chain.call (fun _ v w => CI w v (n1 * (d2 : Int) + n2 * (d1 : Int)) (k1 + (k2 + 1) + (k2 + (k1 + 1)) + 1)) (fun _ _ _ _ h hb => h.below hb) (fun _ _ _ _ _ h hp => h.keeps hp.keeps) (by rfl) (fun T xs wr hA => ?_) ?_
  · have e13 := hA.tm 0 13 (by rfl) (by rfl)
    have f13 : xs 0 = _ := hA.fa 0 (by rfl)
    (try simp (disch := first | rfl | decide) only [Rely.mask_in] at f13)
    rw [f13] at e13
    clear f13
    have e14 := hA.tm 1 14 (by rfl) (by rfl)
    have f14 : xs 1 = _ := hA.fa 1 (by rfl)
    (try simp (disch := first | rfl | decide) only [Rely.mask_in] at f14)
    rw [f14] at e14
    clear f14
    have hkp := undrewK hA.kp
    have hbt' := hbt.trans (undrew (hA.be w.heap.size hszb (fun q hq => by match q, hq with | 0, _ => exact (by show w.heap.size ≤ w.heap.size + 2; omega))))
    have c_x := c_x.keeps hkp
    have c_y := c_y.keeps hkp
    clear hA
    refine ⟨(by rfl), fun K hK => ?_⟩
    go_simp
    refine (wadd_any _ _ (n1 * (d2 : Int)) (n2 * (d1 : Int)) (k1 + (k2 + 1)) (k2 + (k1 + 1)) _ c_x.gi c_y.gi (by omega) (by omega)).mono ?_
    rintro e wq ⟨v, rfl, c, hb⟩
    exact hK.out _ _ c hb
  refine Rely.Chain.det ?_ (by rfl) (fun T xs wr hA => ?_) ?_
  rotate_left 1
  · have e2 := hA.pre 2 (by kernel_rfl)
    simp only [List.getElem?_toArray, List.getElem?_cons_succ, List.getElem?_cons_zero] at e2
    have hBq : wr.heap[w.heap.size]? = _ := (hA.bl _ hlt_xa (fun q hq => by match q, hq with | 0, _ => exact (by show w.heap.size + 2 ≠ w.heap.size; omega))).trans HB_xa.out
    have q0 := cell_at (v := .bool ba) hBq 0 rfl
    have q1 := cell_at (v := .slice oa la ka) hBq 1 rfl
    have q2 := cell_at (v := .slice pa ma ca) hBq 2 rfl
    clear hBq
    clear hA
    refine ⟨(by rfl), ?_⟩
    go_simp <;> (try with_reducible rfl)
  refine Rely.Chain.call (fun _ v w => GN w v d1 (k1 + 1)) (fun _ _ _ _ h hb => h.below hb) (fun _ _ _ _ _ h hp => h.keeps hp.keeps) (by rfl) (fun T xs wr hA => ?_) ?_
  · have e16 := hA.tm 3 16 (by rfl) (by rfl)
    have f16 : xs 3 = _ := hA.fa 3 (by rfl)
    (try simp (disch := first | rfl | decide) only [Rely.mask_in] at f16)
    rw [f16] at e16
    clear f16
    have hkp := undrewK hA.kp
    have hbt' := hbt.trans (undrew (hA.be w.heap.size hszb (fun q hq => by match q, hq with | 0, _ => exact (by show w.heap.size ≤ w.heap.size + 2; omega))))
    have ha := ha.keeps hkp
    clear hA
    refine ⟨(by rfl), fun K hK => ?_⟩
    go_simp
    refine (divisor_any ha (by omega)).mono ?_
    rintro e wq ⟨v, rfl, c, hb⟩
    exact hK.out _ _ c hb
  refine Rely.Chain.det ?_ (by rfl) (fun T xs wr hA => ?_) ?_
  rotate_left 1
  · have e3 := hA.pre 3 (by kernel_rfl)
    simp only [List.getElem?_toArray, List.getElem?_cons_succ, List.getElem?_cons_zero] at e3
    have hBq : wr.heap[w.heap.size + 1]? = _ := (hA.bl _ hlt_xb (fun q hq => by match q, hq with | 0, _ => exact (by show w.heap.size + 2 ≠ w.heap.size + 1; omega))).trans HB_xb.out
    have q0 := cell_at (v := .bool bb) hBq 0 rfl
    have q1 := cell_at (v := .slice ob lb kb) hBq 1 rfl
    have q2 := cell_at (v := .slice pb mb cb) hBq 2 rfl
    clear hBq
    clear hA
    refine ⟨(by rfl), ?_⟩
    go_simp <;> (try with_reducible rfl)
  refine Rely.Chain.call (fun _ v w => GN w v d2 (k2 + 1)) (fun _ _ _ _ h hb => h.below hb) (fun _ _ _ _ _ h hp => h.keeps hp.keeps) (by rfl) (fun T xs wr hA => ?_) ?_
  · have e18 := hA.tm 5 18 (by rfl) (by rfl)
    have f18 : xs 5 = _ := hA.fa 5 (by rfl)
    (try simp (disch := first | rfl | decide) only [Rely.mask_in] at f18)
    rw [f18] at e18
    clear f18
    have hkp := undrewK hA.kp
    have hbt' := hbt.trans (undrew (hA.be w.heap.size hszb (fun q hq => by match q, hq with | 0, _ => exact (by show w.heap.size ≤ w.heap.size + 2; omega))))
    have hb := hb.keeps hkp
    clear hA
    refine ⟨(by rfl), fun K hK => ?_⟩
    go_simp
    refine (divisor_any hb (by omega)).mono ?_
    rintro e wq ⟨v, rfl, c, hb⟩
    exact hK.out _ _ c hb
  refine Rely.Chain.call (fun _ v w => GN w v (d1 * d2) (k1 + 1 + (k2 + 1))) (fun _ _ _ _ h hb => h.below hb) (fun _ _ _ _ _ h hp => h.keeps hp.keeps) (by rfl) (fun T xs wr hA => ?_) ?_
  · have e17 := hA.tm 4 17 (by rfl) (by rfl)
    have e19 := hA.tm 6 19 (by rfl) (by rfl)
    have hkp := undrewK hA.kp
    have hbt' := hbt.trans (undrew (hA.be w.heap.size hszb (fun q hq => by match q, hq with | 0, _ => exact (by show w.heap.size ≤ w.heap.size + 2; omega))))
    have c_du : GN wr (xs 4) d1 (k1 + 1) := hA.fa 4 (by rfl)
    have c_dv : GN wr (xs 6) d2 (k2 + 1) := hA.fa 6 (by rfl)
    clear hA
    refine ⟨(by rfl), fun K hK => ?_⟩
    go_simp
    refine (mul_n c_du c_dv (by omega) (by omega)).mono ?_
    rintro e wq ⟨v, rfl, c, hb⟩
    exact hK.out _ _ c hb
  refine Rely.Chain.call (fun _ v w => CQ w v (mkRat (n1 * (d2 : Int) + n2 * (d1 : Int)) (d1 * d2)) ((k1 + (k2 + 1) + (k2 + (k1 + 1)) + 1) + (k1 + 1 + (k2 + 1)) + 1)) (fun _ _ _ _ h hb => h.below hb) (fun _ _ _ _ _ h hp => h.keeps hp.keeps) (by rfl) (fun T xs wr hA => ?_) ?_
  · have e15 := hA.tm 2 15 (by rfl) (by rfl)
    have e20 := hA.tm 7 20 (by rfl) (by rfl)
    have hkp := undrewK hA.kp
    have hbt' := hbt.trans (undrew (hA.be w.heap.size hszb (fun q hq => by match q, hq with | 0, _ => exact (by show w.heap.size ≤ w.heap.size + 2; omega))))
    have c_s : CI wr (xs 2) (n1 * (d2 : Int) + n2 * (d1 : Int)) (k1 + (k2 + 1) + (k2 + (k1 + 1)) + 1) := hA.fa 2 (by rfl)
    have c_m : GN wr (xs 7) (d1 * d2) (k1 + 1 + (k2 + 1)) := hA.fa 7 (by rfl)
    clear hA
    refine ⟨(by rfl), fun K hK => ?_⟩
    go_simp
    refine (reduced_any c_s.gi c_m (by omega) (by omega) hdd).mono ?_
    rintro e wq ⟨v, rfl, c, hb⟩
    exact hK.out _ _ c hb
  refine Rely.Chain.storeOld 0 8 27 (by rfl) (by rfl) (by decide) (Rely.own_one (by rfl)) (fun T xs wr hA hB0 => ?_) ?_
  · have e4 := hA.pre 4 (by kernel_rfl)
    simp only [List.getElem?_toArray, List.getElem?_cons_succ, List.getElem?_cons_zero] at e4
    have hB : wr.heap[w.heap.size + 2]? = _ := hB0.trans HB_q.out
    clear hB0
    have e21 := hA.tm 8 21 (by rfl) (by rfl)
    have hc : CQ wr (xs 8) (mkRat (n1 * (d2 : Int) + n2 * (d1 : Int)) (d1 * d2)) ((k1 + (k2 + 1) + (k2 + (k1 + 1)) + 1) + (k1 + 1 + (k2 + 1)) + 1) := hA.fa 8 (by rfl)
    obtain ⟨b_h, o_h, l_h, k_h, p_h, m_h, u_h, hv⟩ := hc.shape
    clear hc
    rw [hv] at e21
    have z0 := cell_at hB 0 rfl
    have z1 := cell_at hB 1 rfl
    have z2 := cell_at hB 2 rfl
    have fz0 := froz_at hB 0
    have fz1 := froz_at hB 1
    have fz2 := froz_at hB 2
    clear hA
    refine ⟨(by rfl), fun K hK => ?_⟩
    go_simp
    exact hK.out _ _ hv (hset3 hB _ _ _) (priv3 hB (by rfl) (by rfl))
  refine Rely.Chain.done (fun xs wx4 hL => ?_)
  obtain ⟨⟨hbe, hbl, hkp0⟩, hf, hp, hn⟩ := hL
  have f0 : xs 0 = _ := hf 0 (by decide)
  (try simp (disch := first | rfl | decide) only [Rely.mask_in] at f0)
  have f1 : xs 1 = _ := hf 1 (by decide)
  (try simp (disch := first | rfl | decide) only [Rely.mask_in] at f1)
  have c_s : CI wx4 (xs 2) (n1 * (d2 : Int) + n2 * (d1 : Int)) (k1 + (k2 + 1) + (k2 + (k1 + 1)) + 1) := hf 2 (by decide)
  have f3 : xs 3 = _ := hf 3 (by decide)
  (try simp (disch := first | rfl | decide) only [Rely.mask_in] at f3)
  have c_du : GN wx4 (xs 4) d1 (k1 + 1) := hf 4 (by decide)
  have f5 : xs 5 = _ := hf 5 (by decide)
  (try simp (disch := first | rfl | decide) only [Rely.mask_in] at f5)
  have c_dv : GN wx4 (xs 6) d2 (k2 + 1) := hf 6 (by decide)
  have c_m : GN wx4 (xs 7) (d1 * d2) (k1 + 1 + (k2 + 1)) := hf 7 (by decide)
  have c_z : CQ wx4 (xs 8) (mkRat (n1 * (d2 : Int) + n2 * (d1 : Int)) (d1 * d2)) ((k1 + (k2 + 1) + (k2 + (k1 + 1)) + 1) + (k1 + 1 + (k2 + 1)) + 1) := hf 8 (by decide)
  obtain ⟨cc, hv, hB_q⟩ := hf 9 (by decide)
  change xs 8 = _ at hv
  obtain ⟨b_z, o_z, l_z, k_z, p_z, m_z, u_z, hs_z⟩ := c_z.shape
  rw [hs_z] at hv
  injection hv with hv
  subst hv
  clear hf hp hn
  refine Rely.rest_done ?_
  rw [hs_z] at c_z
  simp only [Rely.fill, List.setIfInBounds_toArray, List.set_cons_zero, List.set_cons_succ, f0, f1, f3, f5, hs_z]
  clear f0 f1 f3 f5 hs_z
  generalize xs 2 = v_s at c_s ⊢
  generalize xs 4 = v_du at c_du ⊢
  generalize xs 6 = v_dv at c_dv ⊢
  generalize xs 7 = v_m at c_m ⊢
  clear xs
  obtain ⟨b_s, o_s, l_s, k_s, rfl⟩ := c_s.shape
  obtain ⟨o_du, l_du, k_du, rfl, -⟩ := c_du.shape
  obtain ⟨o_dv, l_dv, k_dv, rfl, -⟩ := c_dv.shape
  obtain ⟨o_m, l_m, k_m, rfl, -⟩ := c_m.shape
  replace hkp0 := undrewK hkp0
  replace ha := ha.keeps hkp0
  replace hb := hb.keeps hkp0
  replace c_x := c_x.keeps hkp0
  replace c_y := c_y.keeps hkp0
  replace hbt := hbt.trans (undrew (hbe w.heap.size hszb (fun q hq => by match q, hq with | 0, _ => exact (by show w.heap.size ≤ w.heap.size + 2; omega))))
  replace HB_xa := Lib.hid ((hbl _ hlt_xa (fun q hq => by match q, hq with | 0, _ => exact (by show w.heap.size + 2 ≠ w.heap.size; omega))).trans HB_xa.out)
  replace HB_xb := Lib.hid ((hbl _ hlt_xb (fun q hq => by match q, hq with | 0, _ => exact (by show w.heap.size + 2 ≠ w.heap.size + 1; omega))).trans HB_xb.out)
  replace HB_q := Lib.hid (show wx4.heap[w.heap.size + 2]? = some (.cells #[.bool b_z, .slice o_z l_z k_z, .slice p_z m_z u_z] 27 (0, 0)) from hB_q)
  clear hB_q
  replace HB_x := Lib.hid ((hbl _ hlt_x (fun q hq => by match q, hq with | 0, _ => exact (by show w.heap.size + 2 ≠ wx2.heap.size; omega))).trans HB_x.out)
  replace HB_y := Lib.hid ((hbl _ hlt_y (fun q hq => by match q, hq with | 0, _ => exact (by show w.heap.size + 2 ≠ wx2.heap.size + 1; omega))).trans HB_y.out)
  clear hkp0 hbe hbl hszb
  replace xa0 := cell_at (v := .bool ba) HB_xa.out 0 rfl
  replace xa1 := cell_at (v := .slice oa la ka) HB_xa.out 1 rfl
  replace xa2 := cell_at (v := .slice pa ma ca) HB_xa.out 2 rfl
  replace xb0 := cell_at (v := .bool bb) HB_xb.out 0 rfl
  replace xb1 := cell_at (v := .slice ob lb kb) HB_xb.out 1 rfl
  replace xb2 := cell_at (v := .slice pb mb cb) HB_xb.out 2 rfl
  replace q0 := cell_at (v := .bool b_z) HB_q.out 0 rfl
  replace q1 := cell_at (v := .slice o_z l_z k_z) HB_q.out 1 rfl
  replace q2 := cell_at (v := .slice p_z m_z u_z) HB_q.out 2 rfl
  replace x0 := cell_at (v := .bool b_x) HB_x.out 0 rfl
  replace x1 := cell_at (v := .slice o_x l_x k_x) HB_x.out 1 rfl
  replace y0 := cell_at (v := .bool b_y) HB_y.out 0 rfl
  replace y1 := cell_at (v := .slice o_y l_y k_y) HB_y.out 1 rfl
  clear hlt_xa hlt_xb hlt_q hlt_x hlt_y
  go_wp2_with fail
  exact bodyPost_ret (v := .agg #[.bool b_z, .slice o_z l_z k_z, .slice p_z m_z u_z]) (by simp [results, Tryd.results14, go_sem, q0, q1, q2]) rfl ⟨_, rfl, (c_z.to HE.out).more (by omega), hbt⟩

set_option maxHeartbeats 2000000 in
theorem qsub_any {va vb : Value} {n1 n2 : Int} {d1 d2 k1 k2 : Nat} {w : World} (ha : GQ w va n1 d1 k1) (hb : GQ w vb n2 d2 k2) (h1 : k1 ≤ 100000) (h2 : k2 ≤ 100000) :
    Calls Tryd.prog 16 #[va, vb] w fun e w' => ∃ v, e = .returned v ∧ CQ w' v (mkRat n1 d1 - mkRat n2 d2) (3 * k1 + 3 * k2 + 8) ∧ Below w.heap.size w w' := by
  obtain ⟨ba, oa, la, ka, pa, ma, ca, rfl⟩ := ha.shape
  obtain ⟨bb, ob, lb, kb, pb, mb, cb, rfl⟩ := hb.shape
  have hdd := Nat.mul_pos ha.pos hb.pos
  have HE := Lib.hid (mk_sub n1 n2 ha.pos hb.pos)
  have hbt := Below.refl w.heap.size w
  go_enter Tryd.func16, Tryd.ntmps16
  go_wp2_with fail
  have hbx : Below w.heap.size w (((w.alloc (.cells #[.bool ba, .slice oa la ka, .slice pa ma ca] 27)).alloc (.cells #[.bool bb, .slice ob lb kb, .slice pb mb cb] 27)).alloc (.cells #[.bool false, .slice none 0 0, .slice none 0 0] 27)) := ((((Below.refl _ _).alloc (by simp) _).alloc (by simp) _).alloc (by simp; omega) _)
  replace ha := ha.below hbx
  replace hb := hb.below hbx
  replace hbt := hbt.trans (hbx.mono hbt.size)
  clear hbx
  have HB_xa : Hid ((((w.alloc (.cells #[.bool ba, .slice oa la ka, .slice pa ma ca] 27)).alloc (.cells #[.bool bb, .slice ob lb kb, .slice pb mb cb] 27)).alloc (.cells #[.bool false, .slice none 0 0, .slice none 0 0] 27)).heap[w.heap.size]? = some (.cells #[.bool ba, .slice oa la ka, .slice pa ma ca] 27 (0, 0))) := Lib.hid (made_more (made_more (made_at w (.cells #[.bool ba, .slice oa la ka, .slice pa ma ca] 27) _ (by first | rfl | simp)) _) _)
  have HB_xb : Hid ((((w.alloc (.cells #[.bool ba, .slice oa la ka, .slice pa ma ca] 27)).alloc (.cells #[.bool bb, .slice ob lb kb, .slice pb mb cb] 27)).alloc (.cells #[.bool false, .slice none 0 0, .slice none 0 0] 27)).heap[w.heap.size + 1]? = some (.cells #[.bool bb, .slice ob lb kb, .slice pb mb cb] 27 (0, 0))) := Lib.hid (made_more (made_at (w.alloc (.cells #[.bool ba, .slice oa la ka, .slice pa ma ca] 27)) (.cells #[.bool bb, .slice ob lb kb, .slice pb mb cb] 27) _ (by first | rfl | simp)) _)
  have HB_q : Hid ((((w.alloc (.cells #[.bool ba, .slice oa la ka, .slice pa ma ca] 27)).alloc (.cells #[.bool bb, .slice ob lb kb, .slice pb mb cb] 27)).alloc (.cells #[.bool false, .slice none 0 0, .slice none 0 0] 27)).heap[w.heap.size + 2]? = some (.cells #[.bool false, .slice none 0 0, .slice none 0 0] 27 (0, 0))) := Lib.hid (made_at ((w.alloc (.cells #[.bool ba, .slice oa la ka, .slice pa ma ca] 27)).alloc (.cells #[.bool bb, .slice ob lb kb, .slice pb mb cb] 27)) (.cells #[.bool false, .slice none 0 0, .slice none 0 0] 27) _ (by first | rfl | simp))
  generalize (((w.alloc (.cells #[.bool ba, .slice oa la ka, .slice pa ma ca] 27)).alloc (.cells #[.bool bb, .slice ob lb kb, .slice pb mb cb] 27)).alloc (.cells #[.bool false, .slice none 0 0, .slice none 0 0] 27)) = wx1 at *
  have xa0 := cell_at (v := .bool ba) HB_xa.out 0 rfl
  have xa1 := cell_at (v := .slice oa la ka) HB_xa.out 1 rfl
  have xa2 := cell_at (v := .slice pa ma ca) HB_xa.out 2 rfl
  have xb0 := cell_at (v := .bool bb) HB_xb.out 0 rfl
  have xb1 := cell_at (v := .slice ob lb kb) HB_xb.out 1 rfl
  have xb2 := cell_at (v := .slice pb mb cb) HB_xb.out 2 rfl
  have q0 := cell_at (v := .bool false) HB_q.out 0 rfl
  have q1 := cell_at (v := .slice none 0 0) HB_q.out 1 rfl
  have q2 := cell_at (v := .slice none 0 0) HB_q.out 2 rfl
  refine (crossed_any ha hb h1 h2).mono ?_
  rintro e wx2 ⟨v_x, v_y, rfl, c_x, c_y, hbx⟩
  replace ha := ha.below hbx
  replace hb := hb.below hbx
  replace hbt := hbt.trans (hbx.mono hbt.size)
  replace HB_xa := Lib.hid ((hbx.block _ (lt_of_block HB_xa.out)).trans HB_xa.out)
  replace HB_xb := Lib.hid ((hbx.block _ (lt_of_block HB_xb.out)).trans HB_xb.out)
  replace HB_q := Lib.hid ((hbx.block _ (lt_of_block HB_q.out)).trans HB_q.out)
  clear hbx
  replace xa0 := cell_at (v := .bool ba) HB_xa.out 0 rfl
  replace xa1 := cell_at (v := .slice oa la ka) HB_xa.out 1 rfl
  replace xa2 := cell_at (v := .slice pa ma ca) HB_xa.out 2 rfl
  replace xb0 := cell_at (v := .bool bb) HB_xb.out 0 rfl
  replace xb1 := cell_at (v := .slice ob lb kb) HB_xb.out 1 rfl
  replace xb2 := cell_at (v := .slice pb mb cb) HB_xb.out 2 rfl
  replace q0 := cell_at (v := .bool false) HB_q.out 0 rfl
  replace q1 := cell_at (v := .slice none 0 0) HB_q.out 1 rfl
  replace q2 := cell_at (v := .slice none 0 0) HB_q.out 2 rfl
  obtain ⟨b_x, o_x, l_x, k_x, rfl⟩ := c_x.shape
  obtain ⟨b_y, o_y, l_y, k_y, rfl⟩ := c_y.shape
  have hlt_xa := lt_of_block HB_xa.out
  have hlu1_xa : w.heap.size < wx2.heap.size + 1 := Nat.lt_of_lt_of_le hlt_xa (Nat.le_add_right _ _)
  have hlt_xb := lt_of_block HB_xb.out
  have hlu1_xb : w.heap.size + 1 < wx2.heap.size + 1 := Nat.lt_of_lt_of_le hlt_xb (Nat.le_add_right _ _)
  have hlt_q := lt_of_block HB_q.out
  have hlu1_q : w.heap.size + 2 < wx2.heap.size + 1 := Nat.lt_of_lt_of_le hlt_q (Nat.le_add_right _ _)
  go_wp2_with fail
  have hla_xa_wx2 : w.heap.size < wx2.heap.size := hlt_xa
  have hla_xb_wx2 : w.heap.size + 1 < wx2.heap.size := hlt_xb
  have hla_q_wx2 : w.heap.size + 2 < wx2.heap.size := hlt_q
  clear hlt_xa hlt_xb hlt_q hlu1_xa hlu1_xb hlu1_q
  have hbx : Below wx2.heap.size wx2 ((wx2.alloc (.cells #[.bool b_x, .slice o_x l_x k_x] 25)).alloc (.cells #[.bool b_y, .slice o_y l_y k_y] 25)) := (((Below.refl _ _).alloc (by simp) _).alloc (by simp) _)
  replace ha := ha.below hbx
  replace hb := hb.below hbx
  replace c_x := c_x.below hbx
  replace c_y := c_y.below hbx
  replace hbt := hbt.trans (hbx.mono hbt.size)
  replace HB_xa := Lib.hid ((hbx.block _ (lt_of_block HB_xa.out)).trans HB_xa.out)
  replace HB_xb := Lib.hid ((hbx.block _ (lt_of_block HB_xb.out)).trans HB_xb.out)
  replace HB_q := Lib.hid ((hbx.block _ (lt_of_block HB_q.out)).trans HB_q.out)
  clear hbx
  replace xa0 := cell_at (v := .bool ba) HB_xa.out 0 rfl
  replace xa1 := cell_at (v := .slice oa la ka) HB_xa.out 1 rfl
  replace xa2 := cell_at (v := .slice pa ma ca) HB_xa.out 2 rfl
  replace xb0 := cell_at (v := .bool bb) HB_xb.out 0 rfl
  replace xb1 := cell_at (v := .slice ob lb kb) HB_xb.out 1 rfl
  replace xb2 := cell_at (v := .slice pb mb cb) HB_xb.out 2 rfl
  replace q0 := cell_at (v := .bool false) HB_q.out 0 rfl
  replace q1 := cell_at (v := .slice none 0 0) HB_q.out 1 rfl
  replace q2 := cell_at (v := .slice none 0 0) HB_q.out 2 rfl
  have HB_x : Hid (((wx2.alloc (.cells #[.bool b_x, .slice o_x l_x k_x] 25)).alloc (.cells #[.bool b_y, .slice o_y l_y k_y] 25)).heap[wx2.heap.size]? = some (.cells #[.bool b_x, .slice o_x l_x k_x] 25 (0, 0))) := Lib.hid (made_more (made_at wx2 (.cells #[.bool b_x, .slice o_x l_x k_x] 25) _ (by first | rfl | simp)) _)
  have HB_y : Hid (((wx2.alloc (.cells #[.bool b_x, .slice o_x l_x k_x] 25)).alloc (.cells #[.bool b_y, .slice o_y l_y k_y] 25)).heap[wx2.heap.size + 1]? = some (.cells #[.bool b_y, .slice o_y l_y k_y] 25 (0, 0))) := Lib.hid (made_at (wx2.alloc (.cells #[.bool b_x, .slice o_x l_x k_x] 25)) (.cells #[.bool b_y, .slice o_y l_y k_y] 25) _ (by first | rfl | simp))
  generalize ((wx2.alloc (.cells #[.bool b_x, .slice o_x l_x k_x] 25)).alloc (.cells #[.bool b_y, .slice o_y l_y k_y] 25)) = wx3 at *
  have x0 := cell_at (v := .bool b_x) HB_x.out 0 rfl
  have x1 := cell_at (v := .slice o_x l_x k_x) HB_x.out 1 rfl
  have y0 := cell_at (v := .bool b_y) HB_y.out 0 rfl
  have y1 := cell_at (v := .slice o_y l_y k_y) HB_y.out 1 rfl
  have hlt_xa := lt_of_block HB_xa.out
  have hlt_xb := lt_of_block HB_xb.out
  have hlt_q := lt_of_block HB_q.out
  have hlt_x := lt_of_block HB_x.out
  have hlt_y := lt_of_block HB_y.out
  have hszb := hbt.size
  refine Rely.region (by kernel_rfl) [[], [], [0, 1], [], [0, 1, 2, 3], [], [0, 1, 2, 3, 4, 5], [0, 1, 2, 3, 4, 5, 6], [0, 1, 2, 3, 4, 5, 6, 7], [0, 1, 2, 3, 4, 5, 6, 7, 8]] [] [(9, 1000)] (fun q => [w.heap.size + 2].getD q 0) 1 10 (by kernel_rfl) (by kernel_rfl) (fun q hq => by match q, hq with | 0, _ => exact hlt_q) (fun q r hq hr hne => by match q, r, hq, hr, hne with | 0, 0, _, _, h => exact absurd rfl h) ?_
  refine Rely.Chain.det ?_ (by rfl) (fun T xs wr hA => ?_) ?_
  rotate_left 1
  · have e5 := hA.pre 5 (by kernel_rfl)
    simp only [List.getElem?_toArray, List.getElem?_cons_succ, List.getElem?_cons_zero] at e5
    have hBq : wr.heap[wx2.heap.size]? = _ := (hA.bl _ hlt_x (fun q hq => by match q, hq with | 0, _ => exact (by show w.heap.size + 2 ≠ wx2.heap.size; omega))).trans HB_x.out
    have q0 := cell_at (v := .bool b_x) hBq 0 rfl
    have q1 := cell_at (v := .slice o_x l_x k_x) hBq 1 rfl
    clear hBq
    clear hA
    refine ⟨(by rfl), ?_⟩
    go_simp <;> (try with_reducible rfl)
  refine Rely.Chain.det ?_ (by rfl) (fun T xs wr hA => ?_) ?_
  rotate_left 1
  · have e6 := hA.pre 6 (by kernel_rfl)
    simp only [List.getElem?_toArray, List.getElem?_cons_succ, List.getElem?_cons_zero] at e6
    have hBq : wr.heap[wx2.heap.size + 1]? = _ := (hA.bl _ hlt_y (fun q hq => by match q, hq with | 0, _ => exact (by show w.heap.size + 2 ≠ wx2.heap.size + 1; omega))).trans HB_y.out
    have q0 := cell_at (v := .bool b_y) hBq 0 rfl
    have q1 := cell_at (v := .slice o_y l_y k_y) hBq 1 rfl
    clear hBq
    clear hA
    refine ⟨(by rfl), ?_⟩
    go_simp <;> (try with_reducible rfl)
  refine Rely.Chain.call (fun _ v w => CI w v (n1 * (d2 : Int) - n2 * (d1 : Int)) (k1 + (k2 + 1) + (k2 + (k1 + 1)) + 1)) (fun _ _ _ _ h hb => h.below hb) (fun _ _ _ _ _ h hp => h.keeps hp.keeps) (by rfl) (fun T xs wr hA => ?_) ?_
  · have e13 := hA.tm 0 13 (by rfl) (by rfl)
    have f13 : xs 0 = _ := hA.fa 0 (by rfl)
    (try simp (disch := first | rfl | decide) only [Rely.mask_in] at f13)
    rw [f13] at e13
    clear f13
    have e14 := hA.tm 1 14 (by rfl) (by rfl)
    have f14 : xs 1 = _ := hA.fa 1 (by rfl)
    (try simp (disch := first | rfl | decide) only [Rely.mask_in] at f14)
    rw [f14] at e14
    clear f14
    have hkp := undrewK hA.kp
    have hbt' := hbt.trans (undrew (hA.be w.heap.size hszb (fun q hq => by match q, hq with | 0, _ => exact (by show w.heap.size ≤ w.heap.size + 2; omega))))
    have c_x := c_x.keeps hkp
    have c_y := c_y.keeps hkp
    clear hA
    refine ⟨(by rfl), fun K hK => ?_⟩
    go_simp
    refine (wsub_any _ _ (n1 * (d2 : Int)) (n2 * (d1 : Int)) (k1 + (k2 + 1)) (k2 + (k1 + 1)) _ c_x.gi c_y.gi (by omega) (by omega)).mono ?_
    rintro e wq ⟨v, rfl, c, hb⟩
    exact hK.out _ _ c hb
  refine Rely.Chain.det ?_ (by rfl) (fun T xs wr hA => ?_) ?_
  rotate_left 1
  · have e2 := hA.pre 2 (by kernel_rfl)
    simp only [List.getElem?_toArray, List.getElem?_cons_succ, List.getElem?_cons_zero] at e2
    have hBq : wr.heap[w.heap.size]? = _ := (hA.bl _ hlt_xa (fun q hq => by match q, hq with | 0, _ => exact (by show w.heap.size + 2 ≠ w.heap.size; omega))).trans HB_xa.out
    have q0 := cell_at (v := .bool ba) hBq 0 rfl
    have q1 := cell_at (v := .slice oa la ka) hBq 1 rfl
    have q2 := cell_at (v := .slice pa ma ca) hBq 2 rfl
    clear hBq
    clear hA
    refine ⟨(by rfl), ?_⟩
    go_simp <;> (try with_reducible rfl)
  refine Rely.Chain.call (fun _ v w => GN w v d1 (k1 + 1)) (fun _ _ _ _ h hb => h.below hb) (fun _ _ _ _ _ h hp => h.keeps hp.keeps) (by rfl) (fun T xs wr hA => ?_) ?_
  · have e16 := hA.tm 3 16 (by rfl) (by rfl)
    have f16 : xs 3 = _ := hA.fa 3 (by rfl)
    (try simp (disch := first | rfl | decide) only [Rely.mask_in] at f16)
    rw [f16] at e16
    clear f16
    have hkp := undrewK hA.kp
    have hbt' := hbt.trans (undrew (hA.be w.heap.size hszb (fun q hq => by match q, hq with | 0, _ => exact (by show w.heap.size ≤ w.heap.size + 2; omega))))
    have ha := ha.keeps hkp
    clear hA
    refine ⟨(by rfl), fun K hK => ?_⟩
    go_simp
    refine (divisor_any ha (by omega)).mono ?_
    rintro e wq ⟨v, rfl, c, hb⟩
    exact hK.out _ _ c hb
  refine Rely.Chain.det ?_ (by rfl) (fun T xs wr hA => ?_) ?_
  rotate_left 1
  · have e3 := hA.pre 3 (by kernel_rfl)
    simp only [List.getElem?_toArray, List.getElem?_cons_succ, List.getElem?_cons_zero] at e3
    have hBq : wr.heap[w.heap.size + 1]? = _ := (hA.bl _ hlt_xb (fun q hq => by match q, hq with | 0, _ => exact (by show w.heap.size + 2 ≠ w.heap.size + 1; omega))).trans HB_xb.out
    have q0 := cell_at (v := .bool bb) hBq 0 rfl
    have q1 := cell_at (v := .slice ob lb kb) hBq 1 rfl
    have q2 := cell_at (v := .slice pb mb cb) hBq 2 rfl
    clear hBq
    clear hA
    refine ⟨(by rfl), ?_⟩
    go_simp <;> (try with_reducible rfl)
  refine Rely.Chain.call (fun _ v w => GN w v d2 (k2 + 1)) (fun _ _ _ _ h hb => h.below hb) (fun _ _ _ _ _ h hp => h.keeps hp.keeps) (by rfl) (fun T xs wr hA => ?_) ?_
  · have e18 := hA.tm 5 18 (by rfl) (by rfl)
    have f18 : xs 5 = _ := hA.fa 5 (by rfl)
    (try simp (disch := first | rfl | decide) only [Rely.mask_in] at f18)
    rw [f18] at e18
    clear f18
    have hkp := undrewK hA.kp
    have hbt' := hbt.trans (undrew (hA.be w.heap.size hszb (fun q hq => by match q, hq with | 0, _ => exact (by show w.heap.size ≤ w.heap.size + 2; omega))))
    have hb := hb.keeps hkp
    clear hA
    refine ⟨(by rfl), fun K hK => ?_⟩
    go_simp
    refine (divisor_any hb (by omega)).mono ?_
    rintro e wq ⟨v, rfl, c, hb⟩
    exact hK.out _ _ c hb
  refine Rely.Chain.call (fun _ v w => GN w v (d1 * d2) (k1 + 1 + (k2 + 1))) (fun _ _ _ _ h hb => h.below hb) (fun _ _ _ _ _ h hp => h.keeps hp.keeps) (by rfl) (fun T xs wr hA => ?_) ?_
  · have e17 := hA.tm 4 17 (by rfl) (by rfl)
    have e19 := hA.tm 6 19 (by rfl) (by rfl)
    have hkp := undrewK hA.kp
    have hbt' := hbt.trans (undrew (hA.be w.heap.size hszb (fun q hq => by match q, hq with | 0, _ => exact (by show w.heap.size ≤ w.heap.size + 2; omega))))
    have c_du : GN wr (xs 4) d1 (k1 + 1) := hA.fa 4 (by rfl)
    have c_dv : GN wr (xs 6) d2 (k2 + 1) := hA.fa 6 (by rfl)
    clear hA
    refine ⟨(by rfl), fun K hK => ?_⟩
    go_simp
    refine (mul_n c_du c_dv (by omega) (by omega)).mono ?_
    rintro e wq ⟨v, rfl, c, hb⟩
    exact hK.out _ _ c hb
  refine Rely.Chain.call (fun _ v w => CQ w v (mkRat (n1 * (d2 : Int) - n2 * (d1 : Int)) (d1 * d2)) ((k1 + (k2 + 1) + (k2 + (k1 + 1)) + 1) + (k1 + 1 + (k2 + 1)) + 1)) (fun _ _ _ _ h hb => h.below hb) (fun _ _ _ _ _ h hp => h.keeps hp.keeps) (by rfl) (fun T xs wr hA => ?_) ?_
  · have e15 := hA.tm 2 15 (by rfl) (by rfl)
    have e20 := hA.tm 7 20 (by rfl) (by rfl)
    have hkp := undrewK hA.kp
    have hbt' := hbt.trans (undrew (hA.be w.heap.size hszb (fun q hq => by match q, hq with | 0, _ => exact (by show w.heap.size ≤ w.heap.size + 2; omega))))
    have c_s : CI wr (xs 2) (n1 * (d2 : Int) - n2 * (d1 : Int)) (k1 + (k2 + 1) + (k2 + (k1 + 1)) + 1) := hA.fa 2 (by rfl)
    have c_m : GN wr (xs 7) (d1 * d2) (k1 + 1 + (k2 + 1)) := hA.fa 7 (by rfl)
    clear hA
    refine ⟨(by rfl), fun K hK => ?_⟩
    go_simp
    refine (reduced_any c_s.gi c_m (by omega) (by omega) hdd).mono ?_
    rintro e wq ⟨v, rfl, c, hb⟩
    exact hK.out _ _ c hb
  refine Rely.Chain.storeOld 0 8 27 (by rfl) (by rfl) (by decide) (Rely.own_one (by rfl)) (fun T xs wr hA hB0 => ?_) ?_
  · have e4 := hA.pre 4 (by kernel_rfl)
    simp only [List.getElem?_toArray, List.getElem?_cons_succ, List.getElem?_cons_zero] at e4
    have hB : wr.heap[w.heap.size + 2]? = _ := hB0.trans HB_q.out
    clear hB0
    have e21 := hA.tm 8 21 (by rfl) (by rfl)
    have hc : CQ wr (xs 8) (mkRat (n1 * (d2 : Int) - n2 * (d1 : Int)) (d1 * d2)) ((k1 + (k2 + 1) + (k2 + (k1 + 1)) + 1) + (k1 + 1 + (k2 + 1)) + 1) := hA.fa 8 (by rfl)
    obtain ⟨b_h, o_h, l_h, k_h, p_h, m_h, u_h, hv⟩ := hc.shape
    clear hc
    rw [hv] at e21
    have z0 := cell_at hB 0 rfl
    have z1 := cell_at hB 1 rfl
    have z2 := cell_at hB 2 rfl
    have fz0 := froz_at hB 0
    have fz1 := froz_at hB 1
    have fz2 := froz_at hB 2
    clear hA
    refine ⟨(by rfl), fun K hK => ?_⟩
    go_simp
    exact hK.out _ _ hv (hset3 hB _ _ _) (priv3 hB (by rfl) (by rfl))
  refine Rely.Chain.done (fun xs wx4 hL => ?_)
  obtain ⟨⟨hbe, hbl, hkp0⟩, hf, hp, hn⟩ := hL
  have f0 : xs 0 = _ := hf 0 (by decide)
  (try simp (disch := first | rfl | decide) only [Rely.mask_in] at f0)
  have f1 : xs 1 = _ := hf 1 (by decide)
  (try simp (disch := first | rfl | decide) only [Rely.mask_in] at f1)
  have c_s : CI wx4 (xs 2) (n1 * (d2 : Int) - n2 * (d1 : Int)) (k1 + (k2 + 1) + (k2 + (k1 + 1)) + 1) := hf 2 (by decide)
  have f3 : xs 3 = _ := hf 3 (by decide)
  (try simp (disch := first | rfl | decide) only [Rely.mask_in] at f3)
  have c_du : GN wx4 (xs 4) d1 (k1 + 1) := hf 4 (by decide)
  have f5 : xs 5 = _ := hf 5 (by decide)
  (try simp (disch := first | rfl | decide) only [Rely.mask_in] at f5)
  have c_dv : GN wx4 (xs 6) d2 (k2 + 1) := hf 6 (by decide)
  have c_m : GN wx4 (xs 7) (d1 * d2) (k1 + 1 + (k2 + 1)) := hf 7 (by decide)
  have c_z : CQ wx4 (xs 8) (mkRat (n1 * (d2 : Int) - n2 * (d1 : Int)) (d1 * d2)) ((k1 + (k2 + 1) + (k2 + (k1 + 1)) + 1) + (k1 + 1 + (k2 + 1)) + 1) := hf 8 (by decide)
  obtain ⟨cc, hv, hB_q⟩ := hf 9 (by decide)
  change xs 8 = _ at hv
  obtain ⟨b_z, o_z, l_z, k_z, p_z, m_z, u_z, hs_z⟩ := c_z.shape
  rw [hs_z] at hv
  injection hv with hv
  subst hv
  clear hf hp hn
  refine Rely.rest_done ?_
  rw [hs_z] at c_z
  simp only [Rely.fill, List.setIfInBounds_toArray, List.set_cons_zero, List.set_cons_succ, f0, f1, f3, f5, hs_z]
  clear f0 f1 f3 f5 hs_z
  generalize xs 2 = v_s at c_s ⊢
  generalize xs 4 = v_du at c_du ⊢
  generalize xs 6 = v_dv at c_dv ⊢
  generalize xs 7 = v_m at c_m ⊢
  clear xs
  obtain ⟨b_s, o_s, l_s, k_s, rfl⟩ := c_s.shape
  obtain ⟨o_du, l_du, k_du, rfl, -⟩ := c_du.shape
  obtain ⟨o_dv, l_dv, k_dv, rfl, -⟩ := c_dv.shape
  obtain ⟨o_m, l_m, k_m, rfl, -⟩ := c_m.shape
  replace hkp0 := undrewK hkp0
  replace ha := ha.keeps hkp0
  replace hb := hb.keeps hkp0
  replace c_x := c_x.keeps hkp0
  replace c_y := c_y.keeps hkp0
  replace hbt := hbt.trans (undrew (hbe w.heap.size hszb (fun q hq => by match q, hq with | 0, _ => exact (by show w.heap.size ≤ w.heap.size + 2; omega))))
  replace HB_xa := Lib.hid ((hbl _ hlt_xa (fun q hq => by match q, hq with | 0, _ => exact (by show w.heap.size + 2 ≠ w.heap.size; omega))).trans HB_xa.out)
  replace HB_xb := Lib.hid ((hbl _ hlt_xb (fun q hq => by match q, hq with | 0, _ => exact (by show w.heap.size + 2 ≠ w.heap.size + 1; omega))).trans HB_xb.out)
  replace HB_q := Lib.hid (show wx4.heap[w.heap.size + 2]? = some (.cells #[.bool b_z, .slice o_z l_z k_z, .slice p_z m_z u_z] 27 (0, 0)) from hB_q)
  clear hB_q
  replace HB_x := Lib.hid ((hbl _ hlt_x (fun q hq => by match q, hq with | 0, _ => exact (by show w.heap.size + 2 ≠ wx2.heap.size; omega))).trans HB_x.out)
  replace HB_y := Lib.hid ((hbl _ hlt_y (fun q hq => by match q, hq with | 0, _ => exact (by show w.heap.size + 2 ≠ wx2.heap.size + 1; omega))).trans HB_y.out)
  clear hkp0 hbe hbl hszb
  replace xa0 := cell_at (v := .bool ba) HB_xa.out 0 rfl
  replace xa1 := cell_at (v := .slice oa la ka) HB_xa.out 1 rfl
  replace xa2 := cell_at (v := .slice pa ma ca) HB_xa.out 2 rfl
  replace xb0 := cell_at (v := .bool bb) HB_xb.out 0 rfl
  replace xb1 := cell_at (v := .slice ob lb kb) HB_xb.out 1 rfl
  replace xb2 := cell_at (v := .slice pb mb cb) HB_xb.out 2 rfl
  replace q0 := cell_at (v := .bool b_z) HB_q.out 0 rfl
  replace q1 := cell_at (v := .slice o_z l_z k_z) HB_q.out 1 rfl
  replace q2 := cell_at (v := .slice p_z m_z u_z) HB_q.out 2 rfl
  replace x0 := cell_at (v := .bool b_x) HB_x.out 0 rfl
  replace x1 := cell_at (v := .slice o_x l_x k_x) HB_x.out 1 rfl
  replace y0 := cell_at (v := .bool b_y) HB_y.out 0 rfl
  replace y1 := cell_at (v := .slice o_y l_y k_y) HB_y.out 1 rfl
  clear hlt_xa hlt_xb hlt_q hlt_x hlt_y
  go_wp2_with fail
  exact bodyPost_ret (v := .agg #[.bool b_z, .slice o_z l_z k_z, .slice p_z m_z u_z]) (by simp [results, Tryd.results16, go_sem, q0, q1, q2]) rfl ⟨_, rfl, (c_z.to HE.out).more (by omega), hbt⟩

set_option maxHeartbeats 2000000 in
theorem qneg_any {va : Value} {n : Int} {d k : Nat} {w : World} (ha : GQ w va n d k) (hk : k ≤ 100000) :
    Calls Tryd.prog 19 #[va] w fun e w' => ∃ v, e = .returned v ∧ CQ w' v (-mkRat n d) (3 * k + 8) ∧ Below w.heap.size w w' := by
  obtain ⟨ba, oa, la, ka, pa, ma, ca, rfl⟩ := ha.shape
  have hdd := ha.pos
  have na := ha.num
  have HE := Lib.hid (mk_neg n d)
  have hbt := Below.refl w.heap.size w
  go_enter Tryd.func19, Tryd.ntmps19
  go_wp2_with fail
  have hbx : Below w.heap.size w ((w.alloc (.cells #[.bool ba, .slice oa la ka, .slice pa ma ca] 27)).alloc (.cells #[.bool false, .slice none 0 0, .slice none 0 0] 27)) := (((Below.refl _ _).alloc (by simp) _).alloc (by simp) _)
  replace ha := ha.below hbx
  replace na := na.below hbx
  replace hbt := hbt.trans (hbx.mono hbt.size)
  clear hbx
  have HB_xa : Hid (((w.alloc (.cells #[.bool ba, .slice oa la ka, .slice pa ma ca] 27)).alloc (.cells #[.bool false, .slice none 0 0, .slice none 0 0] 27)).heap[w.heap.size]? = some (.cells #[.bool ba, .slice oa la ka, .slice pa ma ca] 27 (0, 0))) := Lib.hid (made_more (made_at w (.cells #[.bool ba, .slice oa la ka, .slice pa ma ca] 27) _ (by first | rfl | simp)) _)
  have HB_q : Hid (((w.alloc (.cells #[.bool ba, .slice oa la ka, .slice pa ma ca] 27)).alloc (.cells #[.bool false, .slice none 0 0, .slice none 0 0] 27)).heap[w.heap.size + 1]? = some (.cells #[.bool false, .slice none 0 0, .slice none 0 0] 27 (0, 0))) := Lib.hid (made_at (w.alloc (.cells #[.bool ba, .slice oa la ka, .slice pa ma ca] 27)) (.cells #[.bool false, .slice none 0 0, .slice none 0 0] 27) _ (by first | rfl | simp))
  generalize ((w.alloc (.cells #[.bool ba, .slice oa la ka, .slice pa ma ca] 27)).alloc (.cells #[.bool false, .slice none 0 0, .slice none 0 0] 27)) = wx1 at *
  have xa0 := cell_at (v := .bool ba) HB_xa.out 0 rfl
  have xa1 := cell_at (v := .slice oa la ka) HB_xa.out 1 rfl
  have xa2 := cell_at (v := .slice pa ma ca) HB_xa.out 2 rfl
  have q0 := cell_at (v := .bool false) HB_q.out 0 rfl
  have q1 := cell_at (v := .slice none 0 0) HB_q.out 1 rfl
  have q2 := cell_at (v := .slice none 0 0) HB_q.out 2 rfl
  have hlt_xa := lt_of_block HB_xa.out
  have hlt_q := lt_of_block HB_q.out
  have hszb := hbt.size
  refine Rely.region (by kernel_rfl) [[], [0], [0, 1], [], [0, 1, 2, 3], [0, 1, 2, 3, 4], [0, 1, 2, 3, 4, 5]] [] [(6, 1000)] (fun q => [w.heap.size + 1].getD q 0) 1 7 (by kernel_rfl) (by kernel_rfl) (fun q hq => by match q, hq with | 0, _ => exact hlt_q) (fun q r hq hr hne => by match q, r, hq, hr, hne with | 0, 0, _, _, h => exact absurd rfl h) ?_
  refine Rely.Chain.det ?_ (by rfl) (fun T xs wr hA => ?_) ?_
  rotate_left 1
  · have e1 := hA.pre 1 (by kernel_rfl)
    simp only [List.getElem?_toArray, List.getElem?_cons_succ, List.getElem?_cons_zero] at e1
    clear hA
    refine ⟨(by rfl), ?_⟩
    go_simp <;> (try with_reducible rfl)
  refine Rely.Chain.det ?_ (by rfl) (fun T xs wr hA => ?_) ?_
  rotate_left 1
  · have e3 := hA.tm 0 3 (by rfl) (by rfl)
    have f3 : xs 0 = _ := hA.fa 0 (by rfl)
    (try simp (disch := first | rfl | decide) only [Rely.mask_in] at f3)
    rw [f3] at e3
    clear f3
    have hBq : wr.heap[w.heap.size]? = _ := (hA.bl _ hlt_xa (fun q hq => by match q, hq with | 0, _ => exact (by show w.heap.size + 1 ≠ w.heap.size; omega))).trans HB_xa.out
    have q0 := cell_at (v := .bool ba) hBq 0 rfl
    have q1 := cell_at (v := .slice oa la ka) hBq 1 rfl
    have q2 := cell_at (v := .slice pa ma ca) hBq 2 rfl
    clear hBq
    clear hA
    refine ⟨(by rfl), ?_⟩
    go_simp <;> (try with_reducible rfl)
  refine Rely.Chain.call (fun _ v w => CI w v (-n) k) (fun _ _ _ _ h hb => h.below hb) (fun _ _ _ _ _ h hp => h.keeps hp.keeps) (by rfl) (fun T xs wr hA => ?_) ?_
  · have e4 := hA.tm 1 4 (by rfl) (by rfl)
    have f4 : xs 1 = _ := hA.fa 1 (by rfl)
    (try simp (disch := first | rfl | decide) only [Rely.mask_in] at f4)
    rw [f4] at e4
    clear f4
    have hkp := undrewK hA.kp
    have hbt' := hbt.trans (undrew (hA.be w.heap.size hszb (fun q hq => by match q, hq with | 0, _ => exact (by show w.heap.size ≤ w.heap.size + 1; omega))))
    have na := na.keeps hkp
    clear hA
    refine ⟨(by rfl), fun K hK => ?_⟩
    go_simp
    refine (wneg_any _ n k _ na (by omega)).mono ?_
    rintro e wq ⟨v, rfl, c, hb⟩
    exact hK.out _ _ c hb
  refine Rely.Chain.det ?_ (by rfl) (fun T xs wr hA => ?_) ?_
  rotate_left 1
  · have e1 := hA.pre 1 (by kernel_rfl)
    simp only [List.getElem?_toArray, List.getElem?_cons_succ, List.getElem?_cons_zero] at e1
    have hBq : wr.heap[w.heap.size]? = _ := (hA.bl _ hlt_xa (fun q hq => by match q, hq with | 0, _ => exact (by show w.heap.size + 1 ≠ w.heap.size; omega))).trans HB_xa.out
    have q0 := cell_at (v := .bool ba) hBq 0 rfl
    have q1 := cell_at (v := .slice oa la ka) hBq 1 rfl
    have q2 := cell_at (v := .slice pa ma ca) hBq 2 rfl
    clear hBq
    clear hA
    refine ⟨(by rfl), ?_⟩
    go_simp <;> (try with_reducible rfl)
  refine Rely.Chain.call (fun _ v w => GN w v d (k + 1)) (fun _ _ _ _ h hb => h.below hb) (fun _ _ _ _ _ h hp => h.keeps hp.keeps) (by rfl) (fun T xs wr hA => ?_) ?_
  · have e6 := hA.tm 3 6 (by rfl) (by rfl)
    have f6 : xs 3 = _ := hA.fa 3 (by rfl)
    (try simp (disch := first | rfl | decide) only [Rely.mask_in] at f6)
    rw [f6] at e6
    clear f6
    have hkp := undrewK hA.kp
    have hbt' := hbt.trans (undrew (hA.be w.heap.size hszb (fun q hq => by match q, hq with | 0, _ => exact (by show w.heap.size ≤ w.heap.size + 1; omega))))
    have ha := ha.keeps hkp
    clear hA
    refine ⟨(by rfl), fun K hK => ?_⟩
    go_simp
    refine (divisor_any ha (by omega)).mono ?_
    rintro e wq ⟨v, rfl, c, hb⟩
    exact hK.out _ _ c hb
  refine Rely.Chain.call (fun _ v w => CQ w v (mkRat (-n) d) (k + (k + 1) + 1)) (fun _ _ _ _ h hb => h.below hb) (fun _ _ _ _ _ h hp => h.keeps hp.keeps) (by rfl) (fun T xs wr hA => ?_) ?_
  · have e5 := hA.tm 2 5 (by rfl) (by rfl)
    have e7 := hA.tm 4 7 (by rfl) (by rfl)
    have hkp := undrewK hA.kp
    have hbt' := hbt.trans (undrew (hA.be w.heap.size hszb (fun q hq => by match q, hq with | 0, _ => exact (by show w.heap.size ≤ w.heap.size + 1; omega))))
    have c_s : CI wr (xs 2) (-n) k := hA.fa 2 (by rfl)
    have c_du : GN wr (xs 4) d (k + 1) := hA.fa 4 (by rfl)
    clear hA
    refine ⟨(by rfl), fun K hK => ?_⟩
    go_simp
    refine (reduced_any c_s.gi c_du (by omega) (by omega) hdd).mono ?_
    rintro e wq ⟨v, rfl, c, hb⟩
    exact hK.out _ _ c hb
  refine Rely.Chain.storeOld 0 5 27 (by rfl) (by rfl) (by decide) (Rely.own_one (by rfl)) (fun T xs wr hA hB0 => ?_) ?_
  · have e2 := hA.pre 2 (by kernel_rfl)
    simp only [List.getElem?_toArray, List.getElem?_cons_succ, List.getElem?_cons_zero] at e2
    have hB : wr.heap[w.heap.size + 1]? = _ := hB0.trans HB_q.out
    clear hB0
    have e8 := hA.tm 5 8 (by rfl) (by rfl)
    have hc : CQ wr (xs 5) (mkRat (-n) d) (k + (k + 1) + 1) := hA.fa 5 (by rfl)
    obtain ⟨b_h, o_h, l_h, k_h, p_h, m_h, u_h, hv⟩ := hc.shape
    clear hc
    rw [hv] at e8
    have z0 := cell_at hB 0 rfl
    have z1 := cell_at hB 1 rfl
    have z2 := cell_at hB 2 rfl
    have fz0 := froz_at hB 0
    have fz1 := froz_at hB 1
    have fz2 := froz_at hB 2
    clear hA
    refine ⟨(by rfl), fun K hK => ?_⟩
    go_simp
    exact hK.out _ _ hv (hset3 hB _ _ _) (priv3 hB (by rfl) (by rfl))
  refine Rely.Chain.done (fun xs wx2 hL => ?_)
  obtain ⟨⟨hbe, hbl, hkp0⟩, hf, hp, hn⟩ := hL
  have f0 : xs 0 = _ := hf 0 (by decide)
  (try simp (disch := first | rfl | decide) only [Rely.mask_in] at f0)
  have f1 : xs 1 = _ := hf 1 (by decide)
  (try simp (disch := first | rfl | decide) only [Rely.mask_in] at f1)
  have c_s : CI wx2 (xs 2) (-n) k := hf 2 (by decide)
  have f3 : xs 3 = _ := hf 3 (by decide)
  (try simp (disch := first | rfl | decide) only [Rely.mask_in] at f3)
  have c_du : GN wx2 (xs 4) d (k + 1) := hf 4 (by decide)
  have c_z : CQ wx2 (xs 5) (mkRat (-n) d) (k + (k + 1) + 1) := hf 5 (by decide)
  obtain ⟨cc, hv, hB_q⟩ := hf 6 (by decide)
  change xs 5 = _ at hv
  obtain ⟨b_z, o_z, l_z, k_z, p_z, m_z, u_z, hs_z⟩ := c_z.shape
  rw [hs_z] at hv
  injection hv with hv
  subst hv
  clear hf hp hn
  refine Rely.rest_done ?_
  rw [hs_z] at c_z
  simp only [Rely.fill, List.setIfInBounds_toArray, List.set_cons_zero, List.set_cons_succ, f0, f1, f3, hs_z]
  clear f0 f1 f3 hs_z
  generalize xs 2 = v_s at c_s ⊢
  generalize xs 4 = v_du at c_du ⊢
  clear xs
  obtain ⟨b_s, o_s, l_s, k_s, rfl⟩ := c_s.shape
  obtain ⟨o_du, l_du, k_du, rfl, -⟩ := c_du.shape
  replace hkp0 := undrewK hkp0
  replace ha := ha.keeps hkp0
  replace na := na.keeps hkp0
  replace hbt := hbt.trans (undrew (hbe w.heap.size hszb (fun q hq => by match q, hq with | 0, _ => exact (by show w.heap.size ≤ w.heap.size + 1; omega))))
  replace HB_xa := Lib.hid ((hbl _ hlt_xa (fun q hq => by match q, hq with | 0, _ => exact (by show w.heap.size + 1 ≠ w.heap.size; omega))).trans HB_xa.out)
  replace HB_q := Lib.hid (show wx2.heap[w.heap.size + 1]? = some (.cells #[.bool b_z, .slice o_z l_z k_z, .slice p_z m_z u_z] 27 (0, 0)) from hB_q)
  clear hB_q
  clear hkp0 hbe hbl hszb
  replace xa0 := cell_at (v := .bool ba) HB_xa.out 0 rfl
  replace xa1 := cell_at (v := .slice oa la ka) HB_xa.out 1 rfl
  replace xa2 := cell_at (v := .slice pa ma ca) HB_xa.out 2 rfl
  replace q0 := cell_at (v := .bool b_z) HB_q.out 0 rfl
  replace q1 := cell_at (v := .slice o_z l_z k_z) HB_q.out 1 rfl
  replace q2 := cell_at (v := .slice p_z m_z u_z) HB_q.out 2 rfl
  clear hlt_xa hlt_q
  go_wp2_with fail
  exact bodyPost_ret (v := .agg #[.bool b_z, .slice o_z l_z k_z, .slice p_z m_z u_z]) (by simp [results, Tryd.results19, go_sem, q0, q1, q2]) rfl ⟨_, rfl, (c_z.to HE.out).more (by omega), hbt⟩

set_option maxHeartbeats 2000000 in
theorem qmul_any {va vb : Value} {n1 n2 : Int} {d1 d2 k1 k2 : Nat} {w : World} (ha : GQ w va n1 d1 k1) (hb : GQ w vb n2 d2 k2) (h1 : k1 ≤ 100000) (h2 : k2 ≤ 100000) :
    Calls Tryd.prog 18 #[va, vb] w fun e w' => ∃ v, e = .returned v ∧ CQ w' v (mkRat n1 d1 * mkRat n2 d2) (2 * k1 + 2 * k2 + 8) ∧ Below w.heap.size w w' := by
  obtain ⟨ba, oa, la, ka, pa, ma, ca, rfl⟩ := ha.shape
  obtain ⟨bb, ob, lb, kb, pb, mb, cb, rfl⟩ := hb.shape
  have hdd := Nat.mul_pos ha.pos hb.pos
  have na := ha.num
  have nb := hb.num
  have HE := Lib.hid (mk_mul n1 n2 d1 d2)
  have hbt := Below.refl w.heap.size w
  go_enter Tryd.func18, Tryd.ntmps18
  go_wp2_with fail
  have hbx : Below w.heap.size w (((w.alloc (.cells #[.bool ba, .slice oa la ka, .slice pa ma ca] 27)).alloc (.cells #[.bool bb, .slice ob lb kb, .slice pb mb cb] 27)).alloc (.cells #[.bool false, .slice none 0 0, .slice none 0 0] 27)) := ((((Below.refl _ _).alloc (by simp) _).alloc (by simp) _).alloc (by simp; omega) _)
  replace ha := ha.below hbx
  replace hb := hb.below hbx
  replace na := na.below hbx
  replace nb := nb.below hbx
  replace hbt := hbt.trans (hbx.mono hbt.size)
  clear hbx
  have HB_xa : Hid ((((w.alloc (.cells #[.bool ba, .slice oa la ka, .slice pa ma ca] 27)).alloc (.cells #[.bool bb, .slice ob lb kb, .slice pb mb cb] 27)).alloc (.cells #[.bool false, .slice none 0 0, .slice none 0 0] 27)).heap[w.heap.size]? = some (.cells #[.bool ba, .slice oa la ka, .slice pa ma ca] 27 (0, 0))) := Lib.hid (made_more (made_more (made_at w (.cells #[.bool ba, .slice oa la ka, .slice pa ma ca] 27) _ (by first | rfl | simp)) _) _)
  have HB_xb : Hid ((((w.alloc (.cells #[.bool ba, .slice oa la ka, .slice pa ma ca] 27)).alloc (.cells #[.bool bb, .slice ob lb kb, .slice pb mb cb] 27)).alloc (.cells #[.bool false, .slice none 0 0, .slice none 0 0] 27)).heap[w.heap.size + 1]? = some (.cells #[.bool bb, .slice ob lb kb, .slice pb mb cb] 27 (0, 0))) := Lib.hid (made_more (made_at (w.alloc (.cells #[.bool ba, .slice oa la ka, .slice pa ma ca] 27)) (.cells #[.bool bb, .slice ob lb kb, .slice pb mb cb] 27) _ (by first | rfl | simp)) _)
  have HB_q : Hid ((((w.alloc (.cells #[.bool ba, .slice oa la ka, .slice pa ma ca] 27)).alloc (.cells #[.bool bb, .slice ob lb kb, .slice pb mb cb] 27)).alloc (.cells #[.bool false, .slice none 0 0, .slice none 0 0] 27)).heap[w.heap.size + 2]? = some (.cells #[.bool false, .slice none 0 0, .slice none 0 0] 27 (0, 0))) := Lib.hid (made_at ((w.alloc (.cells #[.bool ba, .slice oa la ka, .slice pa ma ca] 27)).alloc (.cells #[.bool bb, .slice ob lb kb, .slice pb mb cb] 27)) (.cells #[.bool false, .slice none 0 0, .slice none 0 0] 27) _ (by first | rfl | simp))
  generalize (((w.alloc (.cells #[.bool ba, .slice oa la ka, .slice pa ma ca] 27)).alloc (.cells #[.bool bb, .slice ob lb kb, .slice pb mb cb] 27)).alloc (.cells #[.bool false, .slice none 0 0, .slice none 0 0] 27)) = wx1 at *
  have xa0 := cell_at (v := .bool ba) HB_xa.out 0 rfl
  have xa1 := cell_at (v := .slice oa la ka) HB_xa.out 1 rfl
  have xa2 := cell_at (v := .slice pa ma ca) HB_xa.out 2 rfl
  have xb0 := cell_at (v := .bool bb) HB_xb.out 0 rfl
  have xb1 := cell_at (v := .slice ob lb kb) HB_xb.out 1 rfl
  have xb2 := cell_at (v := .slice pb mb cb) HB_xb.out 2 rfl
  have q0 := cell_at (v := .bool false) HB_q.out 0 rfl
  have q1 := cell_at (v := .slice none 0 0) HB_q.out 1 rfl
  have q2 := cell_at (v := .slice none 0 0) HB_q.out 2 rfl
  have hlt_xa := lt_of_block HB_xa.out
  have hlt_xb := lt_of_block HB_xb.out
  have hlt_q := lt_of_block HB_q.out
  have hszb := hbt.size
  refine Rely.region (by kernel_rfl) [[], [0], [], [2], [0, 1, 2, 3], [], [0, 1, 2, 3, 4, 5], [], [0, 1, 2, 3, 4, 5, 6, 7], [0, 1, 2, 3, 4, 5, 6, 7, 8], [0, 1, 2, 3, 4, 5, 6, 7, 8, 9], [0, 1, 2, 3, 4, 5, 6, 7, 8, 9, 10]] [] [(11, 1000)] (fun q => [w.heap.size + 2].getD q 0) 1 12 (by kernel_rfl) (by kernel_rfl) (fun q hq => by match q, hq with | 0, _ => exact hlt_q) (fun q r hq hr hne => by match q, r, hq, hr, hne with | 0, 0, _, _, h => exact absurd rfl h) ?_
  refine Rely.Chain.det ?_ (by rfl) (fun T xs wr hA => ?_) ?_
  rotate_left 1
  · have e2 := hA.pre 2 (by kernel_rfl)
    simp only [List.getElem?_toArray, List.getElem?_cons_succ, List.getElem?_cons_zero] at e2
    clear hA
    refine ⟨(by rfl), ?_⟩
    go_simp <;> (try with_reducible rfl)
  refine Rely.Chain.det ?_ (by rfl) (fun T xs wr hA => ?_) ?_
  rotate_left 1
  · have e5 := hA.tm 0 5 (by rfl) (by rfl)
    have f5 : xs 0 = _ := hA.fa 0 (by rfl)
    (try simp (disch := first | rfl | decide) only [Rely.mask_in] at f5)
    rw [f5] at e5
    clear f5
    have hBq : wr.heap[w.heap.size]? = _ := (hA.bl _ hlt_xa (fun q hq => by match q, hq with | 0, _ => exact (by show w.heap.size + 2 ≠ w.heap.size; omega))).trans HB_xa.out
    have q0 := cell_at (v := .bool ba) hBq 0 rfl
    have q1 := cell_at (v := .slice oa la ka) hBq 1 rfl
    have q2 := cell_at (v := .slice pa ma ca) hBq 2 rfl
    clear hBq
    clear hA
    refine ⟨(by rfl), ?_⟩
    go_simp <;> (try with_reducible rfl)
  refine Rely.Chain.det ?_ (by rfl) (fun T xs wr hA => ?_) ?_
  rotate_left 1
  · have e3 := hA.pre 3 (by kernel_rfl)
    simp only [List.getElem?_toArray, List.getElem?_cons_succ, List.getElem?_cons_zero] at e3
    clear hA
    refine ⟨(by rfl), ?_⟩
    go_simp <;> (try with_reducible rfl)
  refine Rely.Chain.det ?_ (by rfl) (fun T xs wr hA => ?_) ?_
  rotate_left 1
  · have e7 := hA.tm 2 7 (by rfl) (by rfl)
    have f7 : xs 2 = _ := hA.fa 2 (by rfl)
    (try simp (disch := first | rfl | decide) only [Rely.mask_in] at f7)
    rw [f7] at e7
    clear f7
    have hBq : wr.heap[w.heap.size + 1]? = _ := (hA.bl _ hlt_xb (fun q hq => by match q, hq with | 0, _ => exact (by show w.heap.size + 2 ≠ w.heap.size + 1; omega))).trans HB_xb.out
    have q0 := cell_at (v := .bool bb) hBq 0 rfl
    have q1 := cell_at (v := .slice ob lb kb) hBq 1 rfl
    have q2 := cell_at (v := .slice pb mb cb) hBq 2 rfl
    clear hBq
    clear hA
    refine ⟨(by rfl), ?_⟩
    go_simp <;> (try with_reducible rfl)
  refine Rely.Chain.call (fun _ v w => CI w v (n1 * n2) (k1 + k2)) (fun _ _ _ _ h hb => h.below hb) (fun _ _ _ _ _ h hp => h.keeps hp.keeps) (by rfl) (fun T xs wr hA => ?_) ?_
  · have e6 := hA.tm 1 6 (by rfl) (by rfl)
    have f6 : xs 1 = _ := hA.fa 1 (by rfl)
    (try simp (disch := first | rfl | decide) only [Rely.mask_in] at f6)
    rw [f6] at e6
    clear f6
    have e8 := hA.tm 3 8 (by rfl) (by rfl)
    have f8 : xs 3 = _ := hA.fa 3 (by rfl)
    (try simp (disch := first | rfl | decide) only [Rely.mask_in] at f8)
    rw [f8] at e8
    clear f8
    have hkp := undrewK hA.kp
    have hbt' := hbt.trans (undrew (hA.be w.heap.size hszb (fun q hq => by match q, hq with | 0, _ => exact (by show w.heap.size ≤ w.heap.size + 2; omega))))
    have na := na.keeps hkp
    have nb := nb.keeps hkp
    clear hA
    refine ⟨(by rfl), fun K hK => ?_⟩
    go_simp
    refine (wmul_any _ _ n1 n2 k1 k2 _ na nb (by omega) (by omega)).mono ?_
    rintro e wq ⟨v, rfl, c, hb⟩
    exact hK.out _ _ c hb
  refine Rely.Chain.det ?_ (by rfl) (fun T xs wr hA => ?_) ?_
  rotate_left 1
  · have e2 := hA.pre 2 (by kernel_rfl)
    simp only [List.getElem?_toArray, List.getElem?_cons_succ, List.getElem?_cons_zero] at e2
    have hBq : wr.heap[w.heap.size]? = _ := (hA.bl _ hlt_xa (fun q hq => by match q, hq with | 0, _ => exact (by show w.heap.size + 2 ≠ w.heap.size; omega))).trans HB_xa.out
    have q0 := cell_at (v := .bool ba) hBq 0 rfl
    have q1 := cell_at (v := .slice oa la ka) hBq 1 rfl
    have q2 := cell_at (v := .slice pa ma ca) hBq 2 rfl
    clear hBq
    clear hA
    refine ⟨(by rfl), ?_⟩
    go_simp <;> (try with_reducible rfl)
  refine Rely.Chain.call (fun _ v w => GN w v d1 (k1 + 1)) (fun _ _ _ _ h hb => h.below hb) (fun _ _ _ _ _ h hp => h.keeps hp.keeps) (by rfl) (fun T xs wr hA => ?_) ?_
  · have e10 := hA.tm 5 10 (by rfl) (by rfl)
    have f10 : xs 5 = _ := hA.fa 5 (by rfl)
    (try simp (disch := first | rfl | decide) only [Rely.mask_in] at f10)
    rw [f10] at e10
    clear f10
    have hkp := undrewK hA.kp
    have hbt' := hbt.trans (undrew (hA.be w.heap.size hszb (fun q hq => by match q, hq with | 0, _ => exact (by show w.heap.size ≤ w.heap.size + 2; omega))))
    have ha := ha.keeps hkp
    clear hA
    refine ⟨(by rfl), fun K hK => ?_⟩
    go_simp
    refine (divisor_any ha (by omega)).mono ?_
    rintro e wq ⟨v, rfl, c, hb⟩
    exact hK.out _ _ c hb
  refine Rely.Chain.det ?_ (by rfl) (fun T xs wr hA => ?_) ?_
  rotate_left 1
  · have e3 := hA.pre 3 (by kernel_rfl)
    simp only [List.getElem?_toArray, List.getElem?_cons_succ, List.getElem?_cons_zero] at e3
    have hBq : wr.heap[w.heap.size + 1]? = _ := (hA.bl _ hlt_xb (fun q hq => by match q, hq with | 0, _ => exact (by show w.heap.size + 2 ≠ w.heap.size + 1; omega))).trans HB_xb.out
    have q0 := cell_at (v := .bool bb) hBq 0 rfl
    have q1 := cell_at (v := .slice ob lb kb) hBq 1 rfl
    have q2 := cell_at (v := .slice pb mb cb) hBq 2 rfl
    clear hBq
    clear hA
    refine ⟨(by rfl), ?_⟩
    go_simp <;> (try with_reducible rfl)
  refine Rely.Chain.call (fun _ v w => GN w v d2 (k2 + 1)) (fun _ _ _ _ h hb => h.below hb) (fun _ _ _ _ _ h hp => h.keeps hp.keeps) (by rfl) (fun T xs wr hA => ?_) ?_
  · have e12 := hA.tm 7 12 (by rfl) (by rfl)
    have f12 : xs 7 = _ := hA.fa 7 (by rfl)
    (try simp (disch := first | rfl | decide) only [Rely.mask_in] at f12)
    rw [f12] at e12
    clear f12
    have hkp := undrewK hA.kp
    have hbt' := hbt.trans (undrew (hA.be w.heap.size hszb (fun q hq => by match q, hq with | 0, _ => exact (by show w.heap.size ≤ w.heap.size + 2; omega))))
    have hb := hb.keeps hkp
    clear hA
    refine ⟨(by rfl), fun K hK => ?_⟩
    go_simp
    refine (divisor_any hb (by omega)).mono ?_
    rintro e wq ⟨v, rfl, c, hb⟩
    exact hK.out _ _ c hb
  refine Rely.Chain.call (fun _ v w => GN w v (d1 * d2) (k1 + 1 + (k2 + 1))) (fun _ _ _ _ h hb => h.below hb) (fun _ _ _ _ _ h hp => h.keeps hp.keeps) (by rfl) (fun T xs wr hA => ?_) ?_
  · have e11 := hA.tm 6 11 (by rfl) (by rfl)
    have e13 := hA.tm 8 13 (by rfl) (by rfl)
    have hkp := undrewK hA.kp
    have hbt' := hbt.trans (undrew (hA.be w.heap.size hszb (fun q hq => by match q, hq with | 0, _ => exact (by show w.heap.size ≤ w.heap.size + 2; omega))))
    have c_du : GN wr (xs 6) d1 (k1 + 1) := hA.fa 6 (by rfl)
    have c_dv : GN wr (xs 8) d2 (k2 + 1) := hA.fa 8 (by rfl)
    clear hA
    refine ⟨(by rfl), fun K hK => ?_⟩
    go_simp
    refine (mul_n c_du c_dv (by omega) (by omega)).mono ?_
    rintro e wq ⟨v, rfl, c, hb⟩
    exact hK.out _ _ c hb
  refine Rely.Chain.call (fun _ v w => CQ w v (mkRat (n1 * n2) (d1 * d2)) (k1 + k2 + (k1 + 1 + (k2 + 1)) + 1)) (fun _ _ _ _ h hb => h.below hb) (fun _ _ _ _ _ h hp => h.keeps hp.keeps) (by rfl) (fun T xs wr hA => ?_) ?_
  · have e9 := hA.tm 4 9 (by rfl) (by rfl)
    have e14 := hA.tm 9 14 (by rfl) (by rfl)
    have hkp := undrewK hA.kp
    have hbt' := hbt.trans (undrew (hA.be w.heap.size hszb (fun q hq => by match q, hq with | 0, _ => exact (by show w.heap.size ≤ w.heap.size + 2; omega))))
    have c_s : CI wr (xs 4) (n1 * n2) (k1 + k2) := hA.fa 4 (by rfl)
    have c_m : GN wr (xs 9) (d1 * d2) (k1 + 1 + (k2 + 1)) := hA.fa 9 (by rfl)
    clear hA
    refine ⟨(by rfl), fun K hK => ?_⟩
    go_simp
    refine (reduced_any c_s.gi c_m (by omega) (by omega) hdd).mono ?_
    rintro e wq ⟨v, rfl, c, hb⟩
    exact hK.out _ _ c hb
  refine Rely.Chain.storeOld 0 10 27 (by rfl) (by rfl) (by decide) (Rely.own_one (by rfl)) (fun T xs wr hA hB0 => ?_) ?_
  · have e4 := hA.pre 4 (by kernel_rfl)
    simp only [List.getElem?_toArray, List.getElem?_cons_succ, List.getElem?_cons_zero] at e4
    have hB : wr.heap[w.heap.size + 2]? = _ := hB0.trans HB_q.out
    clear hB0
    have e15 := hA.tm 10 15 (by rfl) (by rfl)
    have hc : CQ wr (xs 10) (mkRat (n1 * n2) (d1 * d2)) (k1 + k2 + (k1 + 1 + (k2 + 1)) + 1) := hA.fa 10 (by rfl)
    obtain ⟨b_h, o_h, l_h, k_h, p_h, m_h, u_h, hv⟩ := hc.shape
    clear hc
    rw [hv] at e15
    have z0 := cell_at hB 0 rfl
    have z1 := cell_at hB 1 rfl
    have z2 := cell_at hB 2 rfl
    have fz0 := froz_at hB 0
    have fz1 := froz_at hB 1
    have fz2 := froz_at hB 2
    clear hA
    refine ⟨(by rfl), fun K hK => ?_⟩
    go_simp
    exact hK.out _ _ hv (hset3 hB _ _ _) (priv3 hB (by rfl) (by rfl))
  refine Rely.Chain.done (fun xs wx2 hL => ?_)
  obtain ⟨⟨hbe, hbl, hkp0⟩, hf, hp, hn⟩ := hL
  have f0 : xs 0 = _ := hf 0 (by decide)
  (try simp (disch := first | rfl | decide) only [Rely.mask_in] at f0)
  have f1 : xs 1 = _ := hf 1 (by decide)
  (try simp (disch := first | rfl | decide) only [Rely.mask_in] at f1)
  have f2 : xs 2 = _ := hf 2 (by decide)
  (try simp (disch := first | rfl | decide) only [Rely.mask_in] at f2)
  have f3 : xs 3 = _ := hf 3 (by decide)
  (try simp (disch := first | rfl | decide) only [Rely.mask_in] at f3)
  have c_s : CI wx2 (xs 4) (n1 * n2) (k1 + k2) := hf 4 (by decide)
  have f5 : xs 5 = _ := hf 5 (by decide)
  (try simp (disch := first | rfl | decide) only [Rely.mask_in] at f5)
  have c_du : GN wx2 (xs 6) d1 (k1 + 1) := hf 6 (by decide)
  have f7 : xs 7 = _ := hf 7 (by decide)
  (try simp (disch := first | rfl | decide) only [Rely.mask_in] at f7)
  have c_dv : GN wx2 (xs 8) d2 (k2 + 1) := hf 8 (by decide)
  have c_m : GN wx2 (xs 9) (d1 * d2) (k1 + 1 + (k2 + 1)) := hf 9 (by decide)
  have c_z : CQ wx2 (xs 10) (mkRat (n1 * n2) (d1 * d2)) (k1 + k2 + (k1 + 1 + (k2 + 1)) + 1) := hf 10 (by decide)
  obtain ⟨cc, hv, hB_q⟩ := hf 11 (by decide)
  change xs 10 = _ at hv
  obtain ⟨b_z, o_z, l_z, k_z, p_z, m_z, u_z, hs_z⟩ := c_z.shape
  rw [hs_z] at hv
  injection hv with hv
  subst hv
  clear hf hp hn
  refine Rely.rest_done ?_
  rw [hs_z] at c_z
  simp only [Rely.fill, List.setIfInBounds_toArray, List.set_cons_zero, List.set_cons_succ, f0, f1, f2, f3, f5, f7, hs_z]
  clear f0 f1 f2 f3 f5 f7 hs_z
  generalize xs 4 = v_s at c_s ⊢
  generalize xs 6 = v_du at c_du ⊢
  generalize xs 8 = v_dv at c_dv ⊢
  generalize xs 9 = v_m at c_m ⊢
  clear xs
  obtain ⟨b_s, o_s, l_s, k_s, rfl⟩ := c_s.shape
  obtain ⟨o_du, l_du, k_du, rfl, -⟩ := c_du.shape
  obtain ⟨o_dv, l_dv, k_dv, rfl, -⟩ := c_dv.shape
  obtain ⟨o_m, l_m, k_m, rfl, -⟩ := c_m.shape
  replace hkp0 := undrewK hkp0
  replace ha := ha.keeps hkp0
  replace hb := hb.keeps hkp0
  replace na := na.keeps hkp0
  replace nb := nb.keeps hkp0
  replace hbt := hbt.trans (undrew (hbe w.heap.size hszb (fun q hq => by match q, hq with | 0, _ => exact (by show w.heap.size ≤ w.heap.size + 2; omega))))
  replace HB_xa := Lib.hid ((hbl _ hlt_xa (fun q hq => by match q, hq with | 0, _ => exact (by show w.heap.size + 2 ≠ w.heap.size; omega))).trans HB_xa.out)
  replace HB_xb := Lib.hid ((hbl _ hlt_xb (fun q hq => by match q, hq with | 0, _ => exact (by show w.heap.size + 2 ≠ w.heap.size + 1; omega))).trans HB_xb.out)
  replace HB_q := Lib.hid (show wx2.heap[w.heap.size + 2]? = some (.cells #[.bool b_z, .slice o_z l_z k_z, .slice p_z m_z u_z] 27 (0, 0)) from hB_q)
  clear hB_q
  clear hkp0 hbe hbl hszb
  replace xa0 := cell_at (v := .bool ba) HB_xa.out 0 rfl
  replace xa1 := cell_at (v := .slice oa la ka) HB_xa.out 1 rfl
  replace xa2 := cell_at (v := .slice pa ma ca) HB_xa.out 2 rfl
  replace xb0 := cell_at (v := .bool bb) HB_xb.out 0 rfl
  replace xb1 := cell_at (v := .slice ob lb kb) HB_xb.out 1 rfl
  replace xb2 := cell_at (v := .slice pb mb cb) HB_xb.out 2 rfl
  replace q0 := cell_at (v := .bool b_z) HB_q.out 0 rfl
  replace q1 := cell_at (v := .slice o_z l_z k_z) HB_q.out 1 rfl
  replace q2 := cell_at (v := .slice p_z m_z u_z) HB_q.out 2 rfl
  clear hlt_xa hlt_xb hlt_q
  go_wp2_with fail
  exact bodyPost_ret (v := .agg #[.bool b_z, .slice o_z l_z k_z, .slice p_z m_z u_z]) (by simp [results, Tryd.results18, go_sem, q0, q1, q2]) rfl ⟨_, rfl, (c_z.to HE.out).more (by omega), hbt⟩

set_option maxHeartbeats 2000000 in
theorem qcmp_any {va vb : Value} {n1 n2 : Int} {d1 d2 k1 k2 : Nat} {w : World} (ha : GQ w va n1 d1 k1) (hb : GQ w vb n2 d2 k2) (h1 : k1 ≤ 100000) (h2 : k2 ≤ 100000) :
    Calls Tryd.prog 21 #[va, vb] w fun e w' => e = .returned (.int .i64 (cmpQ (mkRat n1 d1) (mkRat n2 d2))) ∧ Below w.heap.size w w' := by
  obtain ⟨ba, oa, la, ka, pa, ma, ca, rfl⟩ := ha.shape
  obtain ⟨bb, ob, lb, kb, pb, mb, cb, rfl⟩ := hb.shape
  have HE := Lib.hid (cmp_mk n1 n2 ha.pos hb.pos)
  have hbt := Below.refl w.heap.size w
  go_enter Tryd.func21, Tryd.ntmps21
  go_wp2_with fail
  have hbx : Below w.heap.size w ((w.alloc (.cells #[.bool ba, .slice oa la ka, .slice pa ma ca] 27)).alloc (.cells #[.bool bb, .slice ob lb kb, .slice pb mb cb] 27)) := (((Below.refl _ _).alloc (by simp) _).alloc (by simp) _)
  replace ha := ha.below hbx
  replace hb := hb.below hbx
  replace hbt := hbt.trans (hbx.mono hbt.size)
  clear hbx
  have HB_xa : Hid (((w.alloc (.cells #[.bool ba, .slice oa la ka, .slice pa ma ca] 27)).alloc (.cells #[.bool bb, .slice ob lb kb, .slice pb mb cb] 27)).heap[w.heap.size]? = some (.cells #[.bool ba, .slice oa la ka, .slice pa ma ca] 27 (0, 0))) := Lib.hid (made_more (made_at w (.cells #[.bool ba, .slice oa la ka, .slice pa ma ca] 27) _ (by first | rfl | simp)) _)
  have HB_xb : Hid (((w.alloc (.cells #[.bool ba, .slice oa la ka, .slice pa ma ca] 27)).alloc (.cells #[.bool bb, .slice ob lb kb, .slice pb mb cb] 27)).heap[w.heap.size + 1]? = some (.cells #[.bool bb, .slice ob lb kb, .slice pb mb cb] 27 (0, 0))) := Lib.hid (made_at (w.alloc (.cells #[.bool ba, .slice oa la ka, .slice pa ma ca] 27)) (.cells #[.bool bb, .slice ob lb kb, .slice pb mb cb] 27) _ (by first | rfl | simp))
  generalize ((w.alloc (.cells #[.bool ba, .slice oa la ka, .slice pa ma ca] 27)).alloc (.cells #[.bool bb, .slice ob lb kb, .slice pb mb cb] 27)) = wx1 at *
  have xa0 := cell_at (v := .bool ba) HB_xa.out 0 rfl
  have xa1 := cell_at (v := .slice oa la ka) HB_xa.out 1 rfl
  have xa2 := cell_at (v := .slice pa ma ca) HB_xa.out 2 rfl
  have xb0 := cell_at (v := .bool bb) HB_xb.out 0 rfl
  have xb1 := cell_at (v := .slice ob lb kb) HB_xb.out 1 rfl
  have xb2 := cell_at (v := .slice pb mb cb) HB_xb.out 2 rfl
  refine (crossed_any ha hb h1 h2).mono ?_
  rintro e wx2 ⟨v_x, v_y, rfl, c_x, c_y, hbx⟩
  replace ha := ha.below hbx
  replace hb := hb.below hbx
  replace hbt := hbt.trans (hbx.mono hbt.size)
  replace HB_xa := Lib.hid ((hbx.block _ (lt_of_block HB_xa.out)).trans HB_xa.out)
  replace HB_xb := Lib.hid ((hbx.block _ (lt_of_block HB_xb.out)).trans HB_xb.out)
  clear hbx
  replace xa0 := cell_at (v := .bool ba) HB_xa.out 0 rfl
  replace xa1 := cell_at (v := .slice oa la ka) HB_xa.out 1 rfl
  replace xa2 := cell_at (v := .slice pa ma ca) HB_xa.out 2 rfl
  replace xb0 := cell_at (v := .bool bb) HB_xb.out 0 rfl
  replace xb1 := cell_at (v := .slice ob lb kb) HB_xb.out 1 rfl
  replace xb2 := cell_at (v := .slice pb mb cb) HB_xb.out 2 rfl
  obtain ⟨b_x, o_x, l_x, k_x, rfl⟩ := c_x.shape
  obtain ⟨b_y, o_y, l_y, k_y, rfl⟩ := c_y.shape
  go_wp2_with fail
  refine (wcmp_any _ _ (n1 * (d2 : Int)) (n2 * (d1 : Int)) (k1 + (k2 + 1)) (k2 + (k1 + 1)) _ c_x.gi c_y.gi (by omega) (by omega)).mono ?_
  rintro e wx3 ⟨rfl, hbx⟩
  replace ha := ha.below hbx
  replace hb := hb.below hbx
  replace c_x := c_x.below hbx
  replace c_y := c_y.below hbx
  replace hbt := hbt.trans (hbx.mono hbt.size)
  replace HB_xa := Lib.hid ((hbx.block _ (lt_of_block HB_xa.out)).trans HB_xa.out)
  replace HB_xb := Lib.hid ((hbx.block _ (lt_of_block HB_xb.out)).trans HB_xb.out)
  clear hbx
  replace xa0 := cell_at (v := .bool ba) HB_xa.out 0 rfl
  replace xa1 := cell_at (v := .slice oa la ka) HB_xa.out 1 rfl
  replace xa2 := cell_at (v := .slice pa ma ca) HB_xa.out 2 rfl
  replace xb0 := cell_at (v := .bool bb) HB_xb.out 0 rfl
  replace xb1 := cell_at (v := .slice ob lb kb) HB_xb.out 1 rfl
  replace xb2 := cell_at (v := .slice pb mb cb) HB_xb.out 2 rfl
  rw [HE.out]
  go_wp2_with fail
  go_ret
  exact ⟨rfl, hbt⟩

set_option maxHeartbeats 2000000 in
theorem qsign_any {va : Value} {n : Int} {d k : Nat} {w : World} (ha : GQ w va n d k) (hk : k ≤ 100000) :
    Calls Tryd.prog 23 #[va] w fun e w' => e = .returned (.int .i64 (sgnZ n)) ∧ Below w.heap.size w w' := by
  obtain ⟨ba, oa, la, ka, pa, ma, ca, rfl⟩ := ha.shape
  have na := ha.num
  have hbt := Below.refl w.heap.size w
  go_enter Tryd.func23, Tryd.ntmps23
  go_wp2_with fail
  have hbx : Below w.heap.size w (w.alloc (.cells #[.bool ba, .slice oa la ka, .slice pa ma ca] 27)) := ((Below.refl _ _).alloc (by simp) _)
  replace ha := ha.below hbx
  replace na := na.below hbx
  replace hbt := hbt.trans (hbx.mono hbt.size)
  clear hbx
  have HB_xa : Hid ((w.alloc (.cells #[.bool ba, .slice oa la ka, .slice pa ma ca] 27)).heap[w.heap.size]? = some (.cells #[.bool ba, .slice oa la ka, .slice pa ma ca] 27 (0, 0))) := Lib.hid (made_at w (.cells #[.bool ba, .slice oa la ka, .slice pa ma ca] 27) _ (by first | rfl | simp))
  generalize (w.alloc (.cells #[.bool ba, .slice oa la ka, .slice pa ma ca] 27)) = wx1 at *
  have xa0 := cell_at (v := .bool ba) HB_xa.out 0 rfl
  have xa1 := cell_at (v := .slice oa la ka) HB_xa.out 1 rfl
  have xa2 := cell_at (v := .slice pa ma ca) HB_xa.out 2 rfl
  refine (wsign_any _ n k _ na (by omega)).mono ?_
  rintro e wx2 ⟨rfl, hbx⟩
  replace ha := ha.below hbx
  replace na := na.below hbx
  replace hbt := hbt.trans (hbx.mono hbt.size)
  replace HB_xa := Lib.hid ((hbx.block _ (lt_of_block HB_xa.out)).trans HB_xa.out)
  clear hbx
  replace xa0 := cell_at (v := .bool ba) HB_xa.out 0 rfl
  replace xa1 := cell_at (v := .slice oa la ka) HB_xa.out 1 rfl
  replace xa2 := cell_at (v := .slice pa ma ca) HB_xa.out 2 rfl
  go_wp2_with fail
  go_ret
  exact ⟨rfl, hbt⟩

theorem sg_frac {ba bb : Bool} {x1 x2 : Nat} : mkRat (sg (ba != bb) x1) x2 = Rat.divInt (sg ba x1) (sg bb x2) := by
  cases ba <;> cases bb <;> simp [sg, Rat.divInt_neg']

set_option maxHeartbeats 2000000 in
theorem qfrac_any {va vb : Value} {n1 n2 : Int} {k1 k2 : Nat} {w : World} (ha : GI w va n1 k1) (hb : GI w vb n2 k2) (h1 : k1 ≤ 100000) (h2 : k2 ≤ 100000) (hne : n2 ≠ 0) :
    Calls Tryd.prog 26 #[va, vb] w fun e w' => ∃ v, e = .returned (.tuple #[v, .bool true]) ∧ CQ w' v (Rat.divInt n1 n2) (k1 + k2 + 1) ∧ Below w.heap.size w w' := by
  obtain ⟨ba, oa, la, ka, x1, rfl, ga, rfl⟩ := ha.shape
  obtain ⟨bb, ob, lb, kb, x2, rfl, gb, rfl⟩ := hb.shape
  have hdd : 0 < x2 := by rcases Nat.eq_zero_or_pos x2 with h0 | h0; exact absurd (by rw [h0]; cases bb <;> rfl) hne; exact h0
  have hz : (sgnZ (sg bb x2) == 0) = false := by rw [beq_eq_false_iff_ne]; intro e; unfold sgnZ at e; rw [if_neg hne] at e; split at e <;> cases e
  clear hne
  have HE := Lib.hid (sg_frac (ba := ba) (bb := bb) (x1 := x1) (x2 := x2))
  have hbt := Below.refl w.heap.size w
  go_enter Tryd.func26, Tryd.ntmps26
  go_wp2_with fail
  have hbx : Below w.heap.size w (((w.alloc (.cells #[.bool ba, .slice oa la ka] 25)).alloc (.cells #[.bool bb, .slice ob lb kb] 25)).alloc (.cells #[.bool false, .slice none 0 0, .slice none 0 0] 27)) := ((((Below.refl _ _).alloc (by simp) _).alloc (by simp) _).alloc (by simp; omega) _)
  replace hb := hb.below hbx
  replace ga := ga.below hbx
  replace gb := gb.below hbx
  replace hbt := hbt.trans (hbx.mono hbt.size)
  clear hbx
  have HB_xa : Hid ((((w.alloc (.cells #[.bool ba, .slice oa la ka] 25)).alloc (.cells #[.bool bb, .slice ob lb kb] 25)).alloc (.cells #[.bool false, .slice none 0 0, .slice none 0 0] 27)).heap[w.heap.size]? = some (.cells #[.bool ba, .slice oa la ka] 25 (0, 0))) := Lib.hid (made_more (made_more (made_at w (.cells #[.bool ba, .slice oa la ka] 25) _ (by first | rfl | simp)) _) _)
  have HB_xb : Hid ((((w.alloc (.cells #[.bool ba, .slice oa la ka] 25)).alloc (.cells #[.bool bb, .slice ob lb kb] 25)).alloc (.cells #[.bool false, .slice none 0 0, .slice none 0 0] 27)).heap[w.heap.size + 1]? = some (.cells #[.bool bb, .slice ob lb kb] 25 (0, 0))) := Lib.hid (made_more (made_at (w.alloc (.cells #[.bool ba, .slice oa la ka] 25)) (.cells #[.bool bb, .slice ob lb kb] 25) _ (by first | rfl | simp)) _)
  have HB_q : Hid ((((w.alloc (.cells #[.bool ba, .slice oa la ka] 25)).alloc (.cells #[.bool bb, .slice ob lb kb] 25)).alloc (.cells #[.bool false, .slice none 0 0, .slice none 0 0] 27)).heap[w.heap.size + 2]? = some (.cells #[.bool false, .slice none 0 0, .slice none 0 0] 27 (0, 0))) := Lib.hid (made_at ((w.alloc (.cells #[.bool ba, .slice oa la ka] 25)).alloc (.cells #[.bool bb, .slice ob lb kb] 25)) (.cells #[.bool false, .slice none 0 0, .slice none 0 0] 27) _ (by first | rfl | simp))
  generalize (((w.alloc (.cells #[.bool ba, .slice oa la ka] 25)).alloc (.cells #[.bool bb, .slice ob lb kb] 25)).alloc (.cells #[.bool false, .slice none 0 0, .slice none 0 0] 27)) = wx1 at *
  have xa0 := cell_at (v := .bool ba) HB_xa.out 0 rfl
  have xa1 := cell_at (v := .slice oa la ka) HB_xa.out 1 rfl
  have xb0 := cell_at (v := .bool bb) HB_xb.out 0 rfl
  have xb1 := cell_at (v := .slice ob lb kb) HB_xb.out 1 rfl
  have q0 := cell_at (v := .bool false) HB_q.out 0 rfl
  have q1 := cell_at (v := .slice none 0 0) HB_q.out 1 rfl
  have q2 := cell_at (v := .slice none 0 0) HB_q.out 2 rfl
  refine (wsign_any _ _ k2 _ hb (by omega)).mono ?_
  rintro e wx2 ⟨rfl, hbx⟩
  replace hb := hb.below hbx
  replace ga := ga.below hbx
  replace gb := gb.below hbx
  replace hbt := hbt.trans (hbx.mono hbt.size)
  replace HB_xa := Lib.hid ((hbx.block _ (lt_of_block HB_xa.out)).trans HB_xa.out)
  replace HB_xb := Lib.hid ((hbx.block _ (lt_of_block HB_xb.out)).trans HB_xb.out)
  replace HB_q := Lib.hid ((hbx.block _ (lt_of_block HB_q.out)).trans HB_q.out)
  clear hbx
  replace xa0 := cell_at (v := .bool ba) HB_xa.out 0 rfl
  replace xa1 := cell_at (v := .slice oa la ka) HB_xa.out 1 rfl
  replace xb0 := cell_at (v := .bool bb) HB_xb.out 0 rfl
  replace xb1 := cell_at (v := .slice ob lb kb) HB_xb.out 1 rfl
  replace q0 := cell_at (v := .bool false) HB_q.out 0 rfl
  replace q1 := cell_at (v := .slice none 0 0) HB_q.out 1 rfl
  replace q2 := cell_at (v := .slice none 0 0) HB_q.out 2 rfl
  clear hb
  go_wp2_with fail
  have hlt_xa := lt_of_block HB_xa.out
  have hlt_xb := lt_of_block HB_xb.out
  have hlt_q := lt_of_block HB_q.out
  have hszb := hbt.size
  refine Rely.region (by kernel_rfl) [[], [0], [], [2], [0, 1, 2, 3], [], [5], [0, 1, 2, 3, 4, 5, 6], [], [8], [0, 1, 2, 3, 4, 5, 6, 7, 8, 9], [0, 1, 2, 3, 4, 5, 6, 7, 8, 9, 10], [0, 1, 2, 3, 4, 5, 6, 7, 8, 9, 10, 11]] [] [(11, 1000)] (fun q => [w.heap.size + 2].getD q 0) 1 13 (by kernel_rfl) (by kernel_rfl) (fun q hq => by match q, hq with | 0, _ => exact hlt_q) (fun q r hq hr hne => by match q, r, hq, hr, hne with | 0, 0, _, _, h => exact absurd rfl h) ?_
  refine Rely.Chain.det ?_ (by rfl) (fun T xs wr hA => ?_) ?_
  rotate_left 1
  · have e2 := hA.pre 2 (by kernel_rfl)
    simp only [List.getElem?_toArray, List.getElem?_cons_succ, List.getElem?_cons_zero] at e2
    clear hA
    refine ⟨(by rfl), ?_⟩
    go_simp <;> (try with_reducible rfl)
  refine Rely.Chain.det ?_ (by rfl) (fun T xs wr hA => ?_) ?_
  rotate_left 1
  · have e11 := hA.tm 0 11 (by rfl) (by rfl)
    have f11 : xs 0 = _ := hA.fa 0 (by rfl)
    (try simp (disch := first | rfl | decide) only [Rely.mask_in] at f11)
    rw [f11] at e11
    clear f11
    have hBq : wr.heap[w.heap.size]? = _ := (hA.bl _ hlt_xa (fun q hq => by match q, hq with | 0, _ => exact (by show w.heap.size + 2 ≠ w.heap.size; omega))).trans HB_xa.out
    have q0 := cell_at (v := .bool ba) hBq 0 rfl
    have q1 := cell_at (v := .slice oa la ka) hBq 1 rfl
    clear hBq
    clear hA
    refine ⟨(by rfl), ?_⟩
    go_simp <;> (try with_reducible rfl)
  refine Rely.Chain.det ?_ (by rfl) (fun T xs wr hA => ?_) ?_
  rotate_left 1
  · have e3 := hA.pre 3 (by kernel_rfl)
    simp only [List.getElem?_toArray, List.getElem?_cons_succ, List.getElem?_cons_zero] at e3
    clear hA
    refine ⟨(by rfl), ?_⟩
    go_simp <;> (try with_reducible rfl)
  refine Rely.Chain.det ?_ (by rfl) (fun T xs wr hA => ?_) ?_
  rotate_left 1
  · have e13 := hA.tm 2 13 (by rfl) (by rfl)
    have f13 : xs 2 = _ := hA.fa 2 (by rfl)
    (try simp (disch := first | rfl | decide) only [Rely.mask_in] at f13)
    rw [f13] at e13
    clear f13
    have hBq : wr.heap[w.heap.size + 1]? = _ := (hA.bl _ hlt_xb (fun q hq => by match q, hq with | 0, _ => exact (by show w.heap.size + 2 ≠ w.heap.size + 1; omega))).trans HB_xb.out
    have q0 := cell_at (v := .bool bb) hBq 0 rfl
    have q1 := cell_at (v := .slice ob lb kb) hBq 1 rfl
    clear hBq
    clear hA
    refine ⟨(by rfl), ?_⟩
    go_simp <;> (try with_reducible rfl)
  refine Rely.Chain.det ?_ (by rfl) (fun T xs wr hA => ?_) ?_
  rotate_left 1
  · have e12 := hA.tm 1 12 (by rfl) (by rfl)
    have f12 : xs 1 = _ := hA.fa 1 (by rfl)
    (try simp (disch := first | rfl | decide) only [Rely.mask_in] at f12)
    rw [f12] at e12
    clear f12
    have e14 := hA.tm 3 14 (by rfl) (by rfl)
    have f14 : xs 3 = _ := hA.fa 3 (by rfl)
    (try simp (disch := first | rfl | decide) only [Rely.mask_in] at f14)
    rw [f14] at e14
    clear f14
    clear hA
    refine ⟨(by rfl), ?_⟩
    go_simp <;> (try with_reducible rfl)
  refine Rely.Chain.det ?_ (by rfl) (fun T xs wr hA => ?_) ?_
  rotate_left 1
  · have e2 := hA.pre 2 (by kernel_rfl)
    simp only [List.getElem?_toArray, List.getElem?_cons_succ, List.getElem?_cons_zero] at e2
    clear hA
    refine ⟨(by rfl), ?_⟩
    go_simp <;> (try with_reducible rfl)
  refine Rely.Chain.det ?_ (by rfl) (fun T xs wr hA => ?_) ?_
  rotate_left 1
  · have e16 := hA.tm 5 16 (by rfl) (by rfl)
    have f16 : xs 5 = _ := hA.fa 5 (by rfl)
    (try simp (disch := first | rfl | decide) only [Rely.mask_in] at f16)
    rw [f16] at e16
    clear f16
    have hBq : wr.heap[w.heap.size]? = _ := (hA.bl _ hlt_xa (fun q hq => by match q, hq with | 0, _ => exact (by show w.heap.size + 2 ≠ w.heap.size; omega))).trans HB_xa.out
    have q0 := cell_at (v := .bool ba) hBq 0 rfl
    have q1 := cell_at (v := .slice oa la ka) hBq 1 rfl
    clear hBq
    clear hA
    refine ⟨(by rfl), ?_⟩
    go_simp <;> (try with_reducible rfl)
  refine Rely.Chain.call (fun _ v w => CI w v (sg (ba != bb) x1) k1) (fun _ _ _ _ h hb => h.below hb) (fun _ _ _ _ _ h hp => h.keeps hp.keeps) (by rfl) (fun T xs wr hA => ?_) ?_
  · have e15 := hA.tm 4 15 (by rfl) (by rfl)
    have f15 : xs 4 = _ := hA.fa 4 (by rfl)
    (try simp (disch := first | rfl | decide) only [Rely.mask_in] at f15)
    rw [f15] at e15
    clear f15
    have e17 := hA.tm 6 17 (by rfl) (by rfl)
    have f17 : xs 6 = _ := hA.fa 6 (by rfl)
    (try simp (disch := first | rfl | decide) only [Rely.mask_in] at f17)
    rw [f17] at e17
    clear f17
    have hkp := undrewK hA.kp
    have hbt' := hbt.trans (undrew (hA.be w.heap.size hszb (fun q hq => by match q, hq with | 0, _ => exact (by show w.heap.size ≤ w.heap.size + 2; omega))))
    have ga := ga.keeps hkp
    clear hA
    refine ⟨(by rfl), fun K hK => ?_⟩
    go_simp
    refine (big_any (ba != bb) _ x1 k1 _ ga (by omega)).mono ?_
    rintro e wq ⟨v, rfl, c, hb⟩
    exact hK.out _ _ c hb
  refine Rely.Chain.det ?_ (by rfl) (fun T xs wr hA => ?_) ?_
  rotate_left 1
  · have e3 := hA.pre 3 (by kernel_rfl)
    simp only [List.getElem?_toArray, List.getElem?_cons_succ, List.getElem?_cons_zero] at e3
    clear hA
    refine ⟨(by rfl), ?_⟩
    go_simp <;> (try with_reducible rfl)
  refine Rely.Chain.det ?_ (by rfl) (fun T xs wr hA => ?_) ?_
  rotate_left 1
  · have e19 := hA.tm 8 19 (by rfl) (by rfl)
    have f19 : xs 8 = _ := hA.fa 8 (by rfl)
    (try simp (disch := first | rfl | decide) only [Rely.mask_in] at f19)
    rw [f19] at e19
    clear f19
    have hBq : wr.heap[w.heap.size + 1]? = _ := (hA.bl _ hlt_xb (fun q hq => by match q, hq with | 0, _ => exact (by show w.heap.size + 2 ≠ w.heap.size + 1; omega))).trans HB_xb.out
    have q0 := cell_at (v := .bool bb) hBq 0 rfl
    have q1 := cell_at (v := .slice ob lb kb) hBq 1 rfl
    clear hBq
    clear hA
    refine ⟨(by rfl), ?_⟩
    go_simp <;> (try with_reducible rfl)
  refine Rely.Chain.call (fun _ v w => CQ w v (mkRat (sg (ba != bb) x1) x2) (k1 + k2 + 1)) (fun _ _ _ _ h hb => h.below hb) (fun _ _ _ _ _ h hp => h.keeps hp.keeps) (by rfl) (fun T xs wr hA => ?_) ?_
  · have e18 := hA.tm 7 18 (by rfl) (by rfl)
    have e20 := hA.tm 9 20 (by rfl) (by rfl)
    have f20 : xs 9 = _ := hA.fa 9 (by rfl)
    (try simp (disch := first | rfl | decide) only [Rely.mask_in] at f20)
    rw [f20] at e20
    clear f20
    have hkp := undrewK hA.kp
    have hbt' := hbt.trans (undrew (hA.be w.heap.size hszb (fun q hq => by match q, hq with | 0, _ => exact (by show w.heap.size ≤ w.heap.size + 2; omega))))
    have c_s : CI wr (xs 7) (sg (ba != bb) x1) k1 := hA.fa 7 (by rfl)
    have gb := gb.keeps hkp
    clear hA
    refine ⟨(by rfl), fun K hK => ?_⟩
    go_simp
    refine (reduced_any c_s.gi gb (by omega) (by omega) hdd).mono ?_
    rintro e wq ⟨v, rfl, c, hb⟩
    exact hK.out _ _ c hb
  refine Rely.Chain.storeOld 0 10 27 (by rfl) (by rfl) (by decide) (Rely.own_one (by rfl)) (fun T xs wr hA hB0 => ?_) ?_
  · have e4 := hA.pre 4 (by kernel_rfl)
    simp only [List.getElem?_toArray, List.getElem?_cons_succ, List.getElem?_cons_zero] at e4
    have hB : wr.heap[w.heap.size + 2]? = _ := hB0.trans HB_q.out
    clear hB0
    have e21 := hA.tm 10 21 (by rfl) (by rfl)
    have hc : CQ wr (xs 10) (mkRat (sg (ba != bb) x1) x2) (k1 + k2 + 1) := hA.fa 10 (by rfl)
    obtain ⟨b_h, o_h, l_h, k_h, p_h, m_h, u_h, hv⟩ := hc.shape
    clear hc
    rw [hv] at e21
    have z0 := cell_at hB 0 rfl
    have z1 := cell_at hB 1 rfl
    have z2 := cell_at hB 2 rfl
    have fz0 := froz_at hB 0
    have fz1 := froz_at hB 1
    have fz2 := froz_at hB 2
    clear hA
    refine ⟨(by rfl), fun K hK => ?_⟩
    go_simp
    exact hK.out _ _ hv (hset3 hB _ _ _) (priv3 hB (by rfl) (by rfl))
  refine Rely.Chain.det ?_ (by rfl) (fun T xs wr hA => ?_) ?_
  rotate_left 1
  · clear hA
    refine ⟨(by rfl), ?_⟩
    go_simp <;> (try with_reducible rfl)
  refine Rely.Chain.done (fun xs wx3 hL => ?_)
  obtain ⟨⟨hbe, hbl, hkp0⟩, hf, hp, hn⟩ := hL
  have f0 : xs 0 = _ := hf 0 (by decide)
  (try simp (disch := first | rfl | decide) only [Rely.mask_in] at f0)
  have f1 : xs 1 = _ := hf 1 (by decide)
  (try simp (disch := first | rfl | decide) only [Rely.mask_in] at f1)
  have f2 : xs 2 = _ := hf 2 (by decide)
  (try simp (disch := first | rfl | decide) only [Rely.mask_in] at f2)
  have f3 : xs 3 = _ := hf 3 (by decide)
  (try simp (disch := first | rfl | decide) only [Rely.mask_in] at f3)
  have f4 : xs 4 = _ := hf 4 (by decide)
  (try simp (disch := first | rfl | decide) only [Rely.mask_in] at f4)
  have f5 : xs 5 = _ := hf 5 (by decide)
  (try simp (disch := first | rfl | decide) only [Rely.mask_in] at f5)
  have f6 : xs 6 = _ := hf 6 (by decide)
  (try simp (disch := first | rfl | decide) only [Rely.mask_in] at f6)
  have c_s : CI wx3 (xs 7) (sg (ba != bb) x1) k1 := hf 7 (by decide)
  have f8 : xs 8 = _ := hf 8 (by decide)
  (try simp (disch := first | rfl | decide) only [Rely.mask_in] at f8)
  have f9 : xs 9 = _ := hf 9 (by decide)
  (try simp (disch := first | rfl | decide) only [Rely.mask_in] at f9)
  have c_z : CQ wx3 (xs 10) (mkRat (sg (ba != bb) x1) x2) (k1 + k2 + 1) := hf 10 (by decide)
  obtain ⟨cc, hv, hB_q⟩ := hf 11 (by decide)
  change xs 10 = _ at hv
  obtain ⟨b_z, o_z, l_z, k_z, p_z, m_z, u_z, hs_z⟩ := c_z.shape
  rw [hs_z] at hv
  injection hv with hv
  subst hv
  have f12 : xs 12 = _ := hf 12 (by decide)
  (try simp (disch := first | rfl | decide) only [Rely.mask_in] at f12)
  clear hf hp hn
  refine Rely.rest_done ?_
  rw [hs_z] at c_z
  simp only [Rely.fill, List.setIfInBounds_toArray, List.set_cons_zero, List.set_cons_succ, f0, f1, f2, f3, f4, f5, f6, f8, f9, f12, hs_z]
  clear f0 f1 f2 f3 f4 f5 f6 f8 f9 f12 hs_z
  generalize xs 7 = v_s at c_s ⊢
  clear xs
  obtain ⟨b_s, o_s, l_s, k_s, rfl⟩ := c_s.shape
  replace hkp0 := undrewK hkp0
  replace ga := ga.keeps hkp0
  replace gb := gb.keeps hkp0
  replace hbt := hbt.trans (undrew (hbe w.heap.size hszb (fun q hq => by match q, hq with | 0, _ => exact (by show w.heap.size ≤ w.heap.size + 2; omega))))
  replace HB_xa := Lib.hid ((hbl _ hlt_xa (fun q hq => by match q, hq with | 0, _ => exact (by show w.heap.size + 2 ≠ w.heap.size; omega))).trans HB_xa.out)
  replace HB_xb := Lib.hid ((hbl _ hlt_xb (fun q hq => by match q, hq with | 0, _ => exact (by show w.heap.size + 2 ≠ w.heap.size + 1; omega))).trans HB_xb.out)
  replace HB_q := Lib.hid (show wx3.heap[w.heap.size + 2]? = some (.cells #[.bool b_z, .slice o_z l_z k_z, .slice p_z m_z u_z] 27 (0, 0)) from hB_q)
  clear hB_q
  clear hkp0 hbe hbl hszb
  replace xa0 := cell_at (v := .bool ba) HB_xa.out 0 rfl
  replace xa1 := cell_at (v := .slice oa la ka) HB_xa.out 1 rfl
  replace xb0 := cell_at (v := .bool bb) HB_xb.out 0 rfl
  replace xb1 := cell_at (v := .slice ob lb kb) HB_xb.out 1 rfl
  replace q0 := cell_at (v := .bool b_z) HB_q.out 0 rfl
  replace q1 := cell_at (v := .slice o_z l_z k_z) HB_q.out 1 rfl
  replace q2 := cell_at (v := .slice p_z m_z u_z) HB_q.out 2 rfl
  clear hlt_xa hlt_xb hlt_q
  go_wp2_with fail
  exact bodyPost_ret (v := .tuple #[.agg #[.bool b_z, .slice o_z l_z k_z, .slice p_z m_z u_z], .bool true]) (by simp [results, Tryd.results26, go_sem, q0, q1, q2]) rfl ⟨_, rfl, c_z.to HE.out, hbt⟩

end Go.Proofs.YtmindndmegiaaaaDoor
