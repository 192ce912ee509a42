/-
  Contracts of package ratio: Frac by 0, Quo.
-/
import Derived.Test.YtmindndmegiaaaaDoorQHat
namespace Go.Proofs.YtmindndmegiaaaaDoor
open Go.RowKit
set_option maxRecDepth 100000

theorem div_mk (n1 n2 : Int) (d1 d2 : Nat) : Rat.divInt (n1 * (d2 : Int)) (n2 * (d1 : Int)) = mkRat n1 d1 / mkRat n2 d2 := by
  rw [Rat.div_def, ← Rat.divInt_ofNat, ← Rat.divInt_ofNat, Rat.inv_divInt, Rat.divInt_mul_divInt, Int.mul_comm n2]

set_option maxHeartbeats 2000000 in
theorem qfrac_zero {va vb : Value} {n1 : Int} {k1 k2 : Nat} {w : World} (ha : GI w va n1 k1) (hb : GI w vb 0 k2) (h2 : k2 ≤ 100000) :
    Calls Tryd.prog 26 #[va, vb] w fun e w' => ∃ v, e = .returned (.tuple #[v, .bool false]) ∧ CQ w' v ((0 : Int) : Rat) 2 ∧ Below w.heap.size w w' := by
  obtain ⟨ba, oa, la, ka, x1, rfl, -, -⟩ := ha.shape
  obtain ⟨bb, ob, lb, kb, x2, rfl, -, -⟩ := hb.shape
  clear ha
  have hbt := Below.refl w.heap.size w
  go_enter Tryd.func26, Tryd.ntmps26
  go_wp2_with fail
  have hbx : Below w.heap.size w (((w.alloc (.cells #[.bool ba, .slice oa la ka] 25)).alloc (.cells #[.bool bb, .slice ob lb kb] 25)).alloc (.cells #[.bool false, .slice none 0 0, .slice none 0 0] 27)) := ((((Below.refl _ _).alloc (by simp) _).alloc (by simp) _).alloc (by simp; omega) _)
  replace hb := hb.below hbx
  replace hbt := hbt.trans (hbx.mono hbt.size)
  clear hbx
  have HB_xa : Hid ((((w.alloc (.cells #[.bool ba, .slice oa la ka] 25)).alloc (.cells #[.bool bb, .slice ob lb kb] 25)).alloc (.cells #[.bool false, .slice none 0 0, .slice none 0 0] 27)).heap[w.heap.size]? = some (.cells #[.bool ba, .slice oa la ka] 25 (0, 0))) := Lib.hid (made_more (made_more (made_at w (.cells #[.bool ba, .slice oa la ka] 25) _ (by first | rfl | simp)) _) _)
  have HB_xb : Hid ((((w.alloc (.cells #[.bool ba, .slice oa la ka] 25)).alloc (.cells #[.bool bb, .slice ob lb kb] 25)).alloc (.cells #[.bool false, .slice none 0 0, .slice none 0 0] 27)).heap[w.heap.size + 1]? = some (.cells #[.bool bb, .slice ob lb kb] 25 (0, 0))) := Lib.hid (made_more (made_at (w.alloc (.cells #[.bool ba, .slice oa la ka] 25)) (.cells #[.bool bb, .slice ob lb kb] 25) _ (by first | rfl | simp)) _)
  have HB_q : Hid ((((w.alloc (.cells #[.bool ba, .slice oa la ka] 25)).alloc (.cells #[.bool bb, .slice ob lb kb] 25)).alloc (.cells #[.bool false, .slice none 0 0, .slice none 0 0] 27)).heap[w.heap.size + 2]? = some (.cells #[.bool false, .slice none 0 0, .slice none 0 0] 27 (0, 0))) := Lib.hid (made_at ((w.alloc (.cells #[.bool ba, .slice oa la ka] 25)).alloc (.cells #[.bool bb, .slice ob lb kb] 25)) (.cells #[.bool false, .slice none 0 0, .slice none 0 0] 27) _ (by first | rfl | simp))
  generalize (((w.alloc (.cells #[.bool ba, .slice oa la ka] 25)).alloc (.cells #[.bool bb, .slice ob lb kb] 25)).alloc (.cells #[.bool false, .slice none 0 0, .slice none 0 0] 27)) = wx1 at *
  have xa0 := cell_at (v := .bool ba) HB_xa.out 0 rfl
  have xa1 := cell_at (v := .slice oa la ka) HB_xa.out 1 rfl
  have xb0 := cell_at (v := .bool bb) HB_xb.out 0 rfl
  have xb1 := cell_at (v := .slice ob lb kb) HB_xb.out 1 rfl
  have q0 := cell_at (v := .bool false) HB_q.out 0 rfl
  have q1 := cell_at (v := .slice none 0 0) HB_q.out 1 rfl
  have q2 := cell_at (v := .slice none 0 0) HB_q.out 2 rfl
  refine (wsign_any _ 0 k2 _ hb (by omega)).mono ?_
  rintro e wx2 ⟨rfl, hbx⟩
  replace hb := hb.below hbx
  replace hbt := hbt.trans (hbx.mono hbt.size)
  replace HB_xa := Lib.hid ((hbx.block _ (lt_of_block HB_xa.out)).trans HB_xa.out)
  replace HB_xb := Lib.hid ((hbx.block _ (lt_of_block HB_xb.out)).trans HB_xb.out)
  replace HB_q := Lib.hid ((hbx.block _ (lt_of_block HB_q.out)).trans HB_q.out)
  clear hbx
  replace xa0 := cell_at (v := .bool ba) HB_xa.out 0 rfl
  replace xa1 := cell_at (v := .slice oa la ka) HB_xa.out 1 rfl
  replace xb0 := cell_at (v := .bool bb) HB_xb.out 0 rfl
  replace xb1 := cell_at (v := .slice ob lb kb) HB_xb.out 1 rfl
  replace q0 := cell_at (v := .bool false) HB_q.out 0 rfl
  replace q1 := cell_at (v := .slice none 0 0) HB_q.out 1 rfl
  replace q2 := cell_at (v := .slice none 0 0) HB_q.out 2 rfl
  rw [sgnZ_zero]
  clear hb
  go_wp2_with fail
  refine (qof_any (ci_zero _ 1).gi (by omega)).mono ?_
  rintro e wx3 ⟨v_z, rfl, c_z, hbx⟩
  replace hbt := hbt.trans (hbx.mono hbt.size)
  replace HB_xa := Lib.hid ((hbx.block _ (lt_of_block HB_xa.out)).trans HB_xa.out)
  replace HB_xb := Lib.hid ((hbx.block _ (lt_of_block HB_xb.out)).trans HB_xb.out)
  replace HB_q := Lib.hid ((hbx.block _ (lt_of_block HB_q.out)).trans HB_q.out)
  clear hbx
  replace xa0 := cell_at (v := .bool ba) HB_xa.out 0 rfl
  replace xa1 := cell_at (v := .slice oa la ka) HB_xa.out 1 rfl
  replace xb0 := cell_at (v := .bool bb) HB_xb.out 0 rfl
  replace xb1 := cell_at (v := .slice ob lb kb) HB_xb.out 1 rfl
  replace q0 := cell_at (v := .bool false) HB_q.out 0 rfl
  replace q1 := cell_at (v := .slice none 0 0) HB_q.out 1 rfl
  replace q2 := cell_at (v := .slice none 0 0) HB_q.out 2 rfl
  obtain ⟨b_z, o_z, l_z, k_z, p_z, m_z, u_z, rfl⟩ := c_z.shape
  have fz_q0 := froz_at HB_q.out 0
  have fz_q1 := froz_at HB_q.out 1
  have fz_q2 := froz_at HB_q.out 2
  go_wp2_with fail
  exact bodyPost_ret (v := .tuple #[.agg #[.bool b_z, .slice o_z l_z k_z, .slice p_z m_z u_z], .bool false]) (by simp [results, Tryd.results26, go_sem, q0, q1, q2]) rfl ⟨_, rfl, c_z.keeps (priv3 HB_q.out (by rfl) (by rfl)).keeps, below_setg3 hbt (by omega) _ _ _⟩

set_option maxHeartbeats 2000000 in
theorem qquo_any {va vb : Value} {n1 n2 : Int} {d1 d2 k1 k2 : Nat} {w : World} (ha : GQ w va n1 d1 k1) (hb : GQ w vb n2 d2 k2) (h3 : k1 ≤ 40000) (h4 : k2 ≤ 40000) (hne : n2 ≠ 0) :
    Calls Tryd.prog 25 #[va, vb] w fun e w' => ∃ v, e = .returned (.tuple #[v, .bool true]) ∧ CQ w' v (mkRat n1 d1 / mkRat n2 d2) (2 * k1 + 2 * k2 + 3) ∧ Below w.heap.size w w' := by
  obtain ⟨ba, oa, la, ka, pa, ma, ca, rfl⟩ := ha.shape
  obtain ⟨bb, ob, lb, kb, pb, mb, cb, rfl⟩ := hb.shape
  have HE := Lib.hid (div_mk n1 n2 d1 d2)
  have HN := Lib.hid (Int.mul_ne_zero hne (show (d1 : Int) ≠ 0 by have := ha.pos; omega))
  clear hne
  have hbt := Below.refl w.heap.size w
  go_enter Tryd.func25, Tryd.ntmps25
  go_wp2_with fail
  have hbx : Below w.heap.size w (((w.alloc (.cells #[.bool ba, .slice oa la ka, .slice pa ma ca] 27)).alloc (.cells #[.bool bb, .slice ob lb kb, .slice pb mb cb] 27)).alloc (.cells #[.bool false, .slice none 0 0, .slice none 0 0] 27)) := ((((Below.refl _ _).alloc (by simp) _).alloc (by simp) _).alloc (by simp; omega) _)
  replace ha := ha.below hbx
  replace hb := hb.below hbx
  replace hbt := hbt.trans (hbx.mono hbt.size)
  clear hbx
  have HB_xa : Hid ((((w.alloc (.cells #[.bool ba, .slice oa la ka, .slice pa ma ca] 27)).alloc (.cells #[.bool bb, .slice ob lb kb, .slice pb mb cb] 27)).alloc (.cells #[.bool false, .slice none 0 0, .slice none 0 0] 27)).heap[w.heap.size]? = some (.cells #[.bool ba, .slice oa la ka, .slice pa ma ca] 27 (0, 0))) := Lib.hid (made_more (made_more (made_at w (.cells #[.bool ba, .slice oa la ka, .slice pa ma ca] 27) _ (by first | rfl | simp)) _) _)
  have HB_xb : Hid ((((w.alloc (.cells #[.bool ba, .slice oa la ka, .slice pa ma ca] 27)).alloc (.cells #[.bool bb, .slice ob lb kb, .slice pb mb cb] 27)).alloc (.cells #[.bool false, .slice none 0 0, .slice none 0 0] 27)).heap[w.heap.size + 1]? = some (.cells #[.bool bb, .slice ob lb kb, .slice pb mb cb] 27 (0, 0))) := Lib.hid (made_more (made_at (w.alloc (.cells #[.bool ba, .slice oa la ka, .slice pa ma ca] 27)) (.cells #[.bool bb, .slice ob lb kb, .slice pb mb cb] 27) _ (by first | rfl | simp)) _)
  have HB_q : Hid ((((w.alloc (.cells #[.bool ba, .slice oa la ka, .slice pa ma ca] 27)).alloc (.cells #[.bool bb, .slice ob lb kb, .slice pb mb cb] 27)).alloc (.cells #[.bool false, .slice none 0 0, .slice none 0 0] 27)).heap[w.heap.size + 2]? = some (.cells #[.bool false, .slice none 0 0, .slice none 0 0] 27 (0, 0))) := Lib.hid (made_at ((w.alloc (.cells #[.bool ba, .slice oa la ka, .slice pa ma ca] 27)).alloc (.cells #[.bool bb, .slice ob lb kb, .slice pb mb cb] 27)) (.cells #[.bool false, .slice none 0 0, .slice none 0 0] 27) _ (by first | rfl | simp))
  generalize (((w.alloc (.cells #[.bool ba, .slice oa la ka, .slice pa ma ca] 27)).alloc (.cells #[.bool bb, .slice ob lb kb, .slice pb mb cb] 27)).alloc (.cells #[.bool false, .slice none 0 0, .slice none 0 0] 27)) = wx1 at *
  have xa0 := cell_at (v := .bool ba) HB_xa.out 0 rfl
  have xa1 := cell_at (v := .slice oa la ka) HB_xa.out 1 rfl
  have xa2 := cell_at (v := .slice pa ma ca) HB_xa.out 2 rfl
  have xb0 := cell_at (v := .bool bb) HB_xb.out 0 rfl
  have xb1 := cell_at (v := .slice ob lb kb) HB_xb.out 1 rfl
  have xb2 := cell_at (v := .slice pb mb cb) HB_xb.out 2 rfl
  have q0 := cell_at (v := .bool false) HB_q.out 0 rfl
  have q1 := cell_at (v := .slice none 0 0) HB_q.out 1 rfl
  have q2 := cell_at (v := .slice none 0 0) HB_q.out 2 rfl
  have h1 : k1 ≤ 100000 := by omega
  have h2 : k2 ≤ 100000 := by omega
  refine (crossed_any ha hb h1 h2).mono ?_
  rintro e wx2 ⟨v_x, v_y, rfl, c_x, c_y, hbx⟩
  replace ha := ha.below hbx
  replace hb := hb.below hbx
  replace hbt := hbt.trans (hbx.mono hbt.size)
  replace HB_xa := Lib.hid ((hbx.block _ (lt_of_block HB_xa.out)).trans HB_xa.out)
  replace HB_xb := Lib.hid ((hbx.block _ (lt_of_block HB_xb.out)).trans HB_xb.out)
  replace HB_q := Lib.hid ((hbx.block _ (lt_of_block HB_q.out)).trans HB_q.out)
  clear hbx
  replace xa0 := cell_at (v := .bool ba) HB_xa.out 0 rfl
  replace xa1 := cell_at (v := .slice oa la ka) HB_xa.out 1 rfl
  replace xa2 := cell_at (v := .slice pa ma ca) HB_xa.out 2 rfl
  replace xb0 := cell_at (v := .bool bb) HB_xb.out 0 rfl
  replace xb1 := cell_at (v := .slice ob lb kb) HB_xb.out 1 rfl
  replace xb2 := cell_at (v := .slice pb mb cb) HB_xb.out 2 rfl
  replace q0 := cell_at (v := .bool false) HB_q.out 0 rfl
  replace q1 := cell_at (v := .slice none 0 0) HB_q.out 1 rfl
  replace q2 := cell_at (v := .slice none 0 0) HB_q.out 2 rfl
  obtain ⟨b_x, o_x, l_x, k_x, rfl⟩ := c_x.shape
  obtain ⟨b_y, o_y, l_y, k_y, rfl⟩ := c_y.shape
  go_wp2_with fail
  refine (qfrac_any c_x.gi c_y.gi (by omega) (by omega) HN.out).mono ?_
  rintro e wx3 ⟨v_z, rfl, c_z, hbx⟩
  replace ha := ha.below hbx
  replace hb := hb.below hbx
  replace c_x := c_x.below hbx
  replace c_y := c_y.below hbx
  replace hbt := hbt.trans (hbx.mono hbt.size)
  replace HB_xa := Lib.hid ((hbx.block _ (lt_of_block HB_xa.out)).trans HB_xa.out)
  replace HB_xb := Lib.hid ((hbx.block _ (lt_of_block HB_xb.out)).trans HB_xb.out)
  replace HB_q := Lib.hid ((hbx.block _ (lt_of_block HB_q.out)).trans HB_q.out)
  clear hbx
  replace xa0 := cell_at (v := .bool ba) HB_xa.out 0 rfl
  replace xa1 := cell_at (v := .slice oa la ka) HB_xa.out 1 rfl
  replace xa2 := cell_at (v := .slice pa ma ca) HB_xa.out 2 rfl
  replace xb0 := cell_at (v := .bool bb) HB_xb.out 0 rfl
  replace xb1 := cell_at (v := .slice ob lb kb) HB_xb.out 1 rfl
  replace xb2 := cell_at (v := .slice pb mb cb) HB_xb.out 2 rfl
  replace q0 := cell_at (v := .bool false) HB_q.out 0 rfl
  replace q1 := cell_at (v := .slice none 0 0) HB_q.out 1 rfl
  replace q2 := cell_at (v := .slice none 0 0) HB_q.out 2 rfl
  obtain ⟨b_z, o_z, l_z, k_z, p_z, m_z, u_z, rfl⟩ := c_z.shape
  have fz_q0 := froz_at HB_q.out 0
  have fz_q1 := froz_at HB_q.out 1
  have fz_q2 := froz_at HB_q.out 2
  go_wp2_with fail
  exact bodyPost_ret (v := .tuple #[.agg #[.bool b_z, .slice o_z l_z k_z, .slice p_z m_z u_z], .bool true]) (by simp [results, Tryd.results25, go_sem, q0, q1, q2]) rfl ⟨_, rfl, ((c_z.to HE.out).more (show k1 + (k2 + 1) + (k2 + (k1 + 1)) + 1 ≤ 2 * k1 + 2 * k2 + 3 by omega)).keeps (priv3 HB_q.out (by rfl) (by rfl)).keeps, below_setg3 hbt (by omega) _ _ _⟩

set_option maxHeartbeats 2000000 in
theorem qquo_zero {va vb : Value} {n1 : Int} {d1 d2 k1 k2 : Nat} {w : World} (ha : GQ w va n1 d1 k1) (hb : GQ w vb 0 d2 k2) (h3 : k1 ≤ 40000) (h4 : k2 ≤ 40000) :
    Calls Tryd.prog 25 #[va, vb] w fun e w' => ∃ v, e = .returned (.tuple #[v, .bool false]) ∧ CQ w' v ((0 : Int) : Rat) 2 ∧ Below w.heap.size w w' := by
  obtain ⟨ba, oa, la, ka, pa, ma, ca, rfl⟩ := ha.shape
  obtain ⟨bb, ob, lb, kb, pb, mb, cb, rfl⟩ := hb.shape
  have HE := Lib.hid (Int.zero_mul (d1 : Int))
  have hbt := Below.refl w.heap.size w
  go_enter Tryd.func25, Tryd.ntmps25
  go_wp2_with fail
  have hbx : Below w.heap.size w (((w.alloc (.cells #[.bool ba, .slice oa la ka, .slice pa ma ca] 27)).alloc (.cells #[.bool bb, .slice ob lb kb, .slice pb mb cb] 27)).alloc (.cells #[.bool false, .slice none 0 0, .slice none 0 0] 27)) := ((((Below.refl _ _).alloc (by simp) _).alloc (by simp) _).alloc (by simp; omega) _)
  replace ha := ha.below hbx
  replace hb := hb.below hbx
  replace hbt := hbt.trans (hbx.mono hbt.size)
  clear hbx
  have HB_xa : Hid ((((w.alloc (.cells #[.bool ba, .slice oa la ka, .slice pa ma ca] 27)).alloc (.cells #[.bool bb, .slice ob lb kb, .slice pb mb cb] 27)).alloc (.cells #[.bool false, .slice none 0 0, .slice none 0 0] 27)).heap[w.heap.size]? = some (.cells #[.bool ba, .slice oa la ka, .slice pa ma ca] 27 (0, 0))) := Lib.hid (made_more (made_more (made_at w (.cells #[.bool ba, .slice oa la ka, .slice pa ma ca] 27) _ (by first | rfl | simp)) _) _)
  have HB_xb : Hid ((((w.alloc (.cells #[.bool ba, .slice oa la ka, .slice pa ma ca] 27)).alloc (.cells #[.bool bb, .slice ob lb kb, .slice pb mb cb] 27)).alloc (.cells #[.bool false, .slice none 0 0, .slice none 0 0] 27)).heap[w.heap.size + 1]? = some (.cells #[.bool bb, .slice ob lb kb, .slice pb mb cb] 27 (0, 0))) := Lib.hid (made_more (made_at (w.alloc (.cells #[.bool ba, .slice oa la ka, .slice pa ma ca] 27)) (.cells #[.bool bb, .slice ob lb kb, .slice pb mb cb] 27) _ (by first | rfl | simp)) _)
  have HB_q : Hid ((((w.alloc (.cells #[.bool ba, .slice oa la ka, .slice pa ma ca] 27)).alloc (.cells #[.bool bb, .slice ob lb kb, .slice pb mb cb] 27)).alloc (.cells #[.bool false, .slice none 0 0, .slice none 0 0] 27)).heap[w.heap.size + 2]? = some (.cells #[.bool false, .slice none 0 0, .slice none 0 0] 27 (0, 0))) := Lib.hid (made_at ((w.alloc (.cells #[.bool ba, .slice oa la ka, .slice pa ma ca] 27)).alloc (.cells #[.bool bb, .slice ob lb kb, .slice pb mb cb] 27)) (.cells #[.bool false, .slice none 0 0, .slice none 0 0] 27) _ (by first | rfl | simp))
  generalize (((w.alloc (.cells #[.bool ba, .slice oa la ka, .slice pa ma ca] 27)).alloc (.cells #[.bool bb, .slice ob lb kb, .slice pb mb cb] 27)).alloc (.cells #[.bool false, .slice none 0 0, .slice none 0 0] 27)) = wx1 at *
  have xa0 := cell_at (v := .bool ba) HB_xa.out 0 rfl
  have xa1 := cell_at (v := .slice oa la ka) HB_xa.out 1 rfl
  have xa2 := cell_at (v := .slice pa ma ca) HB_xa.out 2 rfl
  have xb0 := cell_at (v := .bool bb) HB_xb.out 0 rfl
  have xb1 := cell_at (v := .slice ob lb kb) HB_xb.out 1 rfl
  have xb2 := cell_at (v := .slice pb mb cb) HB_xb.out 2 rfl
  have q0 := cell_at (v := .bool false) HB_q.out 0 rfl
  have q1 := cell_at (v := .slice none 0 0) HB_q.out 1 rfl
  have q2 := cell_at (v := .slice none 0 0) HB_q.out 2 rfl
  have h1 : k1 ≤ 100000 := by omega
  have h2 : k2 ≤ 100000 := by omega
  refine (crossed_any ha hb h1 h2).mono ?_
  rintro e wx2 ⟨v_x, v_y, rfl, c_x, c_y, hbx⟩
  replace ha := ha.below hbx
  replace hb := hb.below hbx
  replace hbt := hbt.trans (hbx.mono hbt.size)
  replace HB_xa := Lib.hid ((hbx.block _ (lt_of_block HB_xa.out)).trans HB_xa.out)
  replace HB_xb := Lib.hid ((hbx.block _ (lt_of_block HB_xb.out)).trans HB_xb.out)
  replace HB_q := Lib.hid ((hbx.block _ (lt_of_block HB_q.out)).trans HB_q.out)
  clear hbx
  replace xa0 := cell_at (v := .bool ba) HB_xa.out 0 rfl
  replace xa1 := cell_at (v := .slice oa la ka) HB_xa.out 1 rfl
  replace xa2 := cell_at (v := .slice pa ma ca) HB_xa.out 2 rfl
  replace xb0 := cell_at (v := .bool bb) HB_xb.out 0 rfl
  replace xb1 := cell_at (v := .slice ob lb kb) HB_xb.out 1 rfl
  replace xb2 := cell_at (v := .slice pb mb cb) HB_xb.out 2 rfl
  replace q0 := cell_at (v := .bool false) HB_q.out 0 rfl
  replace q1 := cell_at (v := .slice none 0 0) HB_q.out 1 rfl
  replace q2 := cell_at (v := .slice none 0 0) HB_q.out 2 rfl
  obtain ⟨b_x, o_x, l_x, k_x, rfl⟩ := c_x.shape
  obtain ⟨b_y, o_y, l_y, k_y, rfl⟩ := c_y.shape
  rw [HE.out] at c_y
  go_wp2_with fail
  refine (qfrac_zero c_x.gi c_y.gi (by omega)).mono ?_
  rintro e wx3 ⟨v_z, rfl, c_z, hbx⟩
  replace ha := ha.below hbx
  replace hb := hb.below hbx
  replace c_x := c_x.below hbx
  replace c_y := c_y.below hbx
  replace hbt := hbt.trans (hbx.mono hbt.size)
  replace HB_xa := Lib.hid ((hbx.block _ (lt_of_block HB_xa.out)).trans HB_xa.out)
  replace HB_xb := Lib.hid ((hbx.block _ (lt_of_block HB_xb.out)).trans HB_xb.out)
  replace HB_q := Lib.hid ((hbx.block _ (lt_of_block HB_q.out)).trans HB_q.out)
  clear hbx
  replace xa0 := cell_at (v := .bool ba) HB_xa.out 0 rfl
  replace xa1 := cell_at (v := .slice oa la ka) HB_xa.out 1 rfl
  replace xa2 := cell_at (v := .slice pa ma ca) HB_xa.out 2 rfl
  replace xb0 := cell_at (v := .bool bb) HB_xb.out 0 rfl
  replace xb1 := cell_at (v := .slice ob lb kb) HB_xb.out 1 rfl
  replace xb2 := cell_at (v := .slice pb mb cb) HB_xb.out 2 rfl
  replace q0 := cell_at (v := .bool false) HB_q.out 0 rfl
  replace q1 := cell_at (v := .slice none 0 0) HB_q.out 1 rfl
  replace q2 := cell_at (v := .slice none 0 0) HB_q.out 2 rfl
  obtain ⟨b_z, o_z, l_z, k_z, p_z, m_z, u_z, rfl⟩ := c_z.shape
  have fz_q0 := froz_at HB_q.out 0
  have fz_q1 := froz_at HB_q.out 1
  have fz_q2 := froz_at HB_q.out 2
  go_wp2_with fail
  exact bodyPost_ret (v := .tuple #[.agg #[.bool b_z, .slice o_z l_z k_z, .slice p_z m_z u_z], .bool false]) (by simp [results, Tryd.results25, go_sem, q0, q1, q2]) rfl ⟨_, rfl, c_z.keeps (priv3 HB_q.out (by rfl) (by rfl)).keeps, below_setg3 hbt (by omega) _ _ _⟩

end Go.Proofs.YtmindndmegiaaaaDoor
