/-
  Contracts of package ratio: divided, Floor, Ceil, Whole, Text.
-/
import Derived.Test.YtmindndmegiaaaaDoorQRatB
namespace Go.Proofs.YtmindndmegiaaaaDoor
open Go.RowKit
set_option maxRecDepth 100000

/-- A division's three results. -/
def DV (w : World) (v : Value) (y z : Int) (k1 k2 : Nat) : Prop := ∃ q r, v = .tuple #[q, r, .bool true] ∧ CI w q y k1 ∧ CI w r z k2
theorem DV.below {w w' : World} {v : Value} {y z : Int} {k1 k2 : Nat} (h : DV w v y z k1 k2) (hb : Below w.heap.size w w') : DV w' v y z k1 k2 := by
  obtain ⟨q, r, rfl, h1, h2⟩ := h; exact ⟨q, r, rfl, h1.below hb, h2.below hb⟩
theorem DV.keeps {w w' : World} {v : Value} {y z : Int} {k1 k2 : Nat} (h : DV w v y z k1 k2) (hb : Keeps w w') : DV w' v y z k1 k2 := by
  obtain ⟨q, r, rfl, h1, h2⟩ := h; exact ⟨q, r, rfl, h1.keeps hb, h2.keeps hb⟩
theorem wdiv_dv (va vb : Value) (y z : Int) (k1 k2 : Nat) (w : World) (hx : GI w va y k1) (hy : GI w vb z k2) (h1 : k1 ≤ 900000) (h2 : k2 ≤ 900000) (h0 : z ≠ 0) :
    Calls Tryd.prog 69 #[va, vb] w fun e w' => ∃ v, e = .returned v ∧ DV w' v (Int.fdiv y z) (Int.fmod y z) (k1 + 3) k2 ∧ Below w.heap.size w w' :=
  (wdiv_any va vb y z k1 k2 w hx hy h1 h2 h0).mono fun _ _ ⟨q, r, he, hq, hr, hb⟩ => ⟨_, he, ⟨q, r, rfl, hq, hr⟩, hb⟩

set_option maxHeartbeats 2000000 in
theorem divided_any {va : Value} {n : Int} {d k : Nat} {w : World} (ha : GQ w va n d k) (hk : k ≤ 100000) :
    Calls Tryd.prog 50 #[va] w fun e w' => ∃ q r, e = .returned (.tuple #[q, r]) ∧ CI w' q (Int.fdiv n d) (k + 3) ∧ CI w' r (Int.fmod n d) (k + 1) ∧ Below w.heap.size w w' := by
  obtain ⟨ba, oa, la, ka, pa, ma, ca, rfl⟩ := ha.shape
  have hdd : (d : Int) ≠ 0 := by have := ha.pos; omega
  have na := ha.num
  have hbt := Below.refl w.heap.size w
  go_enter Tryd.func50, Tryd.ntmps50
  go_wp2_with fail
  have hbx : Below w.heap.size w (((w.alloc (.cells #[.bool ba, .slice oa la ka, .slice pa ma ca] 27)).alloc (.cells #[.bool false, .slice none 0 0] 25)).alloc (.cells #[.bool false, .slice none 0 0] 25)) := ((((Below.refl _ _).alloc (by simp) _).alloc (by simp) _).alloc (by simp; omega) _)
  replace ha := ha.below hbx
  replace na := na.below hbx
  replace hbt := hbt.trans (hbx.mono hbt.size)
  clear hbx
  have HB_xa : Hid ((((w.alloc (.cells #[.bool ba, .slice oa la ka, .slice pa ma ca] 27)).alloc (.cells #[.bool false, .slice none 0 0] 25)).alloc (.cells #[.bool false, .slice none 0 0] 25)).heap[w.heap.size]? = some (.cells #[.bool ba, .slice oa la ka, .slice pa ma ca] 27 (0, 0))) := Lib.hid (made_more (made_more (made_at w (.cells #[.bool ba, .slice oa la ka, .slice pa ma ca] 27) _ (by first | rfl | simp)) _) _)
  have HB_q : Hid ((((w.alloc (.cells #[.bool ba, .slice oa la ka, .slice pa ma ca] 27)).alloc (.cells #[.bool false, .slice none 0 0] 25)).alloc (.cells #[.bool false, .slice none 0 0] 25)).heap[w.heap.size + 1]? = some (.cells #[.bool false, .slice none 0 0] 25 (0, 0))) := Lib.hid (made_more (made_at (w.alloc (.cells #[.bool ba, .slice oa la ka, .slice pa ma ca] 27)) (.cells #[.bool false, .slice none 0 0] 25) _ (by first | rfl | simp)) _)
  have HB_r : Hid ((((w.alloc (.cells #[.bool ba, .slice oa la ka, .slice pa ma ca] 27)).alloc (.cells #[.bool false, .slice none 0 0] 25)).alloc (.cells #[.bool false, .slice none 0 0] 25)).heap[w.heap.size + 2]? = some (.cells #[.bool false, .slice none 0 0] 25 (0, 0))) := Lib.hid (made_at ((w.alloc (.cells #[.bool ba, .slice oa la ka, .slice pa ma ca] 27)).alloc (.cells #[.bool false, .slice none 0 0] 25)) (.cells #[.bool false, .slice none 0 0] 25) _ (by first | rfl | simp))
  generalize (((w.alloc (.cells #[.bool ba, .slice oa la ka, .slice pa ma ca] 27)).alloc (.cells #[.bool false, .slice none 0 0] 25)).alloc (.cells #[.bool false, .slice none 0 0] 25)) = wx1 at *
  have xa0 := cell_at (v := .bool ba) HB_xa.out 0 rfl
  have xa1 := cell_at (v := .slice oa la ka) HB_xa.out 1 rfl
  have xa2 := cell_at (v := .slice pa ma ca) HB_xa.out 2 rfl
  have q0 := cell_at (v := .bool false) HB_q.out 0 rfl
  have q1 := cell_at (v := .slice none 0 0) HB_q.out 1 rfl
  have r0 := cell_at (v := .bool false) HB_r.out 0 rfl
  have r1 := cell_at (v := .slice none 0 0) HB_r.out 1 rfl
  have hlt_xa := lt_of_block HB_xa.out
  have hlt_q := lt_of_block HB_q.out
  have hlt_r := lt_of_block HB_r.out
  have hla_xa_wx1 : w.heap.size < wx1.heap.size := hlt_xa
  have hla_q_wx1 : w.heap.size + 1 < wx1.heap.size := hlt_q
  have hla_r_wx1 : w.heap.size + 2 < wx1.heap.size := hlt_r
  refine Rely.region (by kernel_rfl) [[], [0], [], [2], [2, 3], [0, 1, 2, 3, 4], [0, 1, 2, 3, 4, 5], [0, 1, 2, 3, 4, 5, 6], [0, 1, 2, 3, 4, 5, 6], [0, 1, 2, 3, 4, 5, 6], [], [], [0, 1, 2, 3, 4, 5, 6, 7, 10, 11], [0, 1, 2, 3, 4, 5, 6, 7, 8, 10, 11, 12], [0, 1, 2, 3, 4, 5, 6, 7, 8, 9, 10, 11, 12, 13]] [10, 11] [(12, 10), (13, 11)] (fun q => [].getD q 0) 0 15 (by kernel_rfl) (by kernel_rfl) (fun q h => absurd h (Nat.not_lt_zero q)) (fun q _ h => absurd h (Nat.not_lt_zero q)) ?_
  refine Rely.Chain.det ?_ (by rfl) (fun T xs wr hA => ?_) ?_
  rotate_left 1
  · have e1 := hA.pre 1 (by kernel_rfl)
    simp only [List.getElem?_toArray, List.getElem?_cons_succ, List.getElem?_cons_zero] at e1
    clear hA
    refine ⟨(by rfl), ?_⟩
    go_simp <;> (try with_reducible rfl)
  refine Rely.Chain.det ?_ (by rfl) (fun T xs wr hA => ?_) ?_
  rotate_left 1
  · have e8 := hA.tm 0 8 (by rfl) (by rfl)
    have f8 : xs 0 = _ := hA.fa 0 (by rfl)
    (try simp (disch := first | rfl | decide) only [Rely.mask_in] at f8)
    rw [f8] at e8
    clear f8
    have hBq : wr.heap[w.heap.size]? = _ := (hA.bl _ hlt_xa (fun q h => absurd h (Nat.not_lt_zero q))).trans HB_xa.out
    have q0 := cell_at (v := .bool ba) hBq 0 rfl
    have q1 := cell_at (v := .slice oa la ka) hBq 1 rfl
    have q2 := cell_at (v := .slice pa ma ca) hBq 2 rfl
    clear hBq
    clear hA
    refine ⟨(by rfl), ?_⟩
    go_simp <;> (try with_reducible rfl)
  refine Rely.Chain.det ?_ (by rfl) (fun T xs wr hA => ?_) ?_
  rotate_left 1
  · have e1 := hA.pre 1 (by kernel_rfl)
    simp only [List.getElem?_toArray, List.getElem?_cons_succ, List.getElem?_cons_zero] at e1
    have hBq : wr.heap[w.heap.size]? = _ := (hA.bl _ hlt_xa (fun q h => absurd h (Nat.not_lt_zero q))).trans HB_xa.out
    have q0 := cell_at (v := .bool ba) hBq 0 rfl
    have q1 := cell_at (v := .slice oa la ka) hBq 1 rfl
    have q2 := cell_at (v := .slice pa ma ca) hBq 2 rfl
    clear hBq
    clear hA
    refine ⟨(by rfl), ?_⟩
    go_simp <;> (try with_reducible rfl)
  refine Rely.Chain.call (fun _ v w => GN w v d (k + 1)) (fun _ _ _ _ h hb => h.below hb) (fun _ _ _ _ _ h hp => h.keeps hp.keeps) (by rfl) (fun T xs wr hA => ?_) ?_
  · have e10 := hA.tm 2 10 (by rfl) (by rfl)
    have f10 : xs 2 = _ := hA.fa 2 (by rfl)
    (try simp (disch := first | rfl | decide) only [Rely.mask_in] at f10)
    rw [f10] at e10
    clear f10
    have hkp := undrewK hA.kp
    have hbw := undrew (hA.be _ (Nat.le_refl _) (fun q h => absurd h (Nat.not_lt_zero q)))
    have ha := ha.keeps hkp
    clear hA
    refine ⟨(by rfl), fun K hK => ?_⟩
    go_simp
    refine (divisor_any ha (by omega)).mono ?_
    rintro e wq ⟨v, rfl, c, hb⟩
    exact hK.out _ _ c hb
  refine Rely.Chain.call (fun _ v w => GI w v (d : Int) (k + 1)) (fun _ _ _ _ h hb => h.below hb) (fun _ _ _ _ _ h hp => h.keeps hp.keeps) (by rfl) (fun T xs wr hA => ?_) ?_
  · have e11 := hA.tm 3 11 (by rfl) (by rfl)
    have hc : GN wr (xs 3) d (k + 1) := hA.fa 3 (by rfl)
    obtain ⟨oh, lh, kh, hv, -⟩ := hc.shape
    rw [hv] at e11
    rw [hv] at hc
    clear hA
    refine ⟨(by rfl), fun K hK => ?_⟩
    go_simp
    exact hK.out _ _ (gi_nat hc) (Below.refl _ _)
  refine Rely.Chain.call (fun _ v w => DV w v (Int.fdiv n d) (Int.fmod n d) (k + 3) (k + 1)) (fun _ _ _ _ h hb => h.below hb) (fun _ _ _ _ _ h hp => h.keeps hp.keeps) (by rfl) (fun T xs wr hA => ?_) ?_
  · have e9 := hA.tm 1 9 (by rfl) (by rfl)
    have f9 : xs 1 = _ := hA.fa 1 (by rfl)
    (try simp (disch := first | rfl | decide) only [Rely.mask_in] at f9)
    rw [f9] at e9
    clear f9
    have e12 := hA.tm 4 12 (by rfl) (by rfl)
    have hkp := undrewK hA.kp
    have hbw := undrew (hA.be _ (Nat.le_refl _) (fun q h => absurd h (Nat.not_lt_zero q)))
    have na := na.keeps hkp
    have c_bd : GI wr (xs 4) (d : Int) (k + 1) := hA.fa 4 (by rfl)
    clear hA
    refine ⟨(by rfl), fun K hK => ?_⟩
    go_simp
    refine (wdiv_dv _ _ n (d : Int) k (k + 1) _ na c_bd (by omega) (by omega) hdd).mono ?_
    rintro e wq ⟨v, rfl, c, hb⟩
    exact hK.out _ _ c hb
  refine Rely.Chain.det ?_ (by rfl) (fun T xs wr hA => ?_) ?_
  rotate_left 1
  · have e13 := hA.tm 5 13 (by rfl) (by rfl)
    clear hA
    refine ⟨(by rfl), ?_⟩
    go_simp <;> (try with_reducible rfl)
  refine Rely.Chain.call (fun _ v w => CI w v (Int.fdiv n d) (k + 3)) (fun _ _ _ _ h hb => h.below hb) (fun _ _ _ _ _ h hp => h.keeps hp.keeps) (by rfl) (fun T xs wr hA => ?_) ?_
  · have e7 := hA.tm 6 7 (by rfl) (by rfl)
    have f7 : xs 6 = _ := hA.fa 6 (by rfl)
    (try simp (disch := first | rfl | decide) only [Rely.mask_in] at f7)
    rw [f7] at e7
    clear f7
    have hc : DV wr (xs 5) (Int.fdiv n d) (Int.fmod n d) (k + 3) (k + 1) := hA.fa 5 (by rfl)
    obtain ⟨vq, vr, hv, cq, cr⟩ := hc
    rw [hv] at e7
    clear hA
    refine ⟨(by rfl), fun K hK => ?_⟩
    go_simp
    exact hK.out _ _ cq (Below.refl _ _)
  refine Rely.Chain.call (fun _ v w => CI w v (Int.fmod n d) (k + 1)) (fun _ _ _ _ h hb => h.below hb) (fun _ _ _ _ _ h hp => h.keeps hp.keeps) (by rfl) (fun T xs wr hA => ?_) ?_
  · have e7 := hA.tm 6 7 (by rfl) (by rfl)
    have f7 : xs 6 = _ := hA.fa 6 (by rfl)
    (try simp (disch := first | rfl | decide) only [Rely.mask_in] at f7)
    rw [f7] at e7
    clear f7
    have hc : DV wr (xs 5) (Int.fdiv n d) (Int.fmod n d) (k + 3) (k + 1) := hA.fa 5 (by rfl)
    obtain ⟨vq, vr, hv, cq, cr⟩ := hc
    rw [hv] at e7
    clear hA
    refine ⟨(by rfl), fun K hK => ?_⟩
    go_simp
    exact hK.out _ _ cr (Below.refl _ _)
  refine Rely.Chain.call (fun _ v _ => v = .bool true) (fun _ _ _ _ h _ => h) (fun _ _ _ _ _ h _ => h) (by rfl) (fun T xs wr hA => ?_) ?_
  · have e7 := hA.tm 6 7 (by rfl) (by rfl)
    have f7 : xs 6 = _ := hA.fa 6 (by rfl)
    (try simp (disch := first | rfl | decide) only [Rely.mask_in] at f7)
    rw [f7] at e7
    clear f7
    have hc : DV wr (xs 5) (Int.fdiv n d) (Int.fmod n d) (k + 3) (k + 1) := hA.fa 5 (by rfl)
    obtain ⟨vq, vr, hv, cq, cr⟩ := hc
    rw [hv] at e7
    clear hA
    refine ⟨(by rfl), fun K hK => ?_⟩
    go_simp
    exact hK.out _ _ rfl (Below.refl _ _)
  refine Rely.Chain.alloc ?_ ?_ (by rfl) (fun Ts xs wr hA => ?_) ?_ ?_
  rotate_left 2
  · clear hA
    refine ⟨(by rfl), fun K hK => ?_⟩
    go_simp
    exact hK.out
  · rfl
  refine Rely.Chain.alloc ?_ ?_ (by rfl) (fun Ts xs wr hA => ?_) ?_ ?_
  rotate_left 2
  · clear hA
    refine ⟨(by rfl), fun K hK => ?_⟩
    go_simp
    exact hK.out
  · rfl
  refine Rely.Chain.store 10 7 25 2 (by rfl) (by rfl) (by decide) (by rfl) rfl (fun T xs wr g c hA hx hB hn hi => ?_) ?_
  · have e4 := hA.tm 10 4 (by rfl) (by rfl)
    rw [hx] at e4
    have e14 := hA.tm 7 14 (by rfl) (by rfl)
    have hc : CI wr (xs 7) (Int.fdiv n d) (k + 3) := hA.fa 7 (by rfl)
    obtain ⟨b_h, o_h, l_h, k_h, hv⟩ := hc.shape
    clear hc
    rw [hv] at e14
    obtain ⟨c0, c1, rfl⟩ := two_of hn
    have z0 := cell_at hB 0 rfl
    have z1 := cell_at hB 1 rfl
    have fz0 := froz_at hB 0
    have fz1 := froz_at hB 1
    clear hA hn
    refine ⟨(by rfl), fun K hK => ?_⟩
    go_simp
    exact hK.out _ _ hv (hset2 hB _ _) (priv2 hB hi (by rfl))
  refine Rely.Chain.store 11 8 25 2 (by rfl) (by rfl) (by decide) (by rfl) rfl (fun T xs wr g c hA hx hB hn hi => ?_) ?_
  · have e5 := hA.tm 11 5 (by rfl) (by rfl)
    rw [hx] at e5
    have e15 := hA.tm 8 15 (by rfl) (by rfl)
    have hc : CI wr (xs 8) (Int.fmod n d) (k + 1) := hA.fa 8 (by rfl)
    obtain ⟨b_h, o_h, l_h, k_h, hv⟩ := hc.shape
    clear hc
    rw [hv] at e15
    obtain ⟨c0, c1, rfl⟩ := two_of hn
    have z0 := cell_at hB 0 rfl
    have z1 := cell_at hB 1 rfl
    have fz0 := froz_at hB 0
    have fz1 := froz_at hB 1
    clear hA hn
    refine ⟨(by rfl), fun K hK => ?_⟩
    go_simp
    exact hK.out _ _ hv (hset2 hB _ _) (priv2 hB hi (by rfl))
  refine Rely.Chain.det ?_ (by rfl) (fun T xs wr hA => ?_) ?_
  rotate_left 1
  · have e16 := hA.tm 9 16 (by rfl) (by rfl)
    have f16 : xs 9 = (.bool true) := hA.fa 9 (by rfl)
    rw [f16] at e16
    clear f16
    clear hA
    refine ⟨(by rfl), ?_⟩
    go_simp <;> (try with_reducible rfl)
  refine Rely.Chain.done (fun xs wx2 hL => ?_)
  obtain ⟨⟨hbe, hbl, hkp0⟩, hf, hp, hn⟩ := hL
  have f0 : xs 0 = _ := hf 0 (by decide)
  (try simp (disch := first | rfl | decide) only [Rely.mask_in] at f0)
  have f1 : xs 1 = _ := hf 1 (by decide)
  (try simp (disch := first | rfl | decide) only [Rely.mask_in] at f1)
  have f2 : xs 2 = _ := hf 2 (by decide)
  (try simp (disch := first | rfl | decide) only [Rely.mask_in] at f2)
  have c_dv : GN wx2 (xs 3) d (k + 1) := hf 3 (by decide)
  have c_bd : GI wx2 (xs 4) (d : Int) (k + 1) := hf 4 (by decide)
  have c_dd : DV wx2 (xs 5) (Int.fdiv n d) (Int.fmod n d) (k + 3) (k + 1) := hf 5 (by decide)
  have f6 : xs 6 = _ := hf 6 (by decide)
  (try simp (disch := first | rfl | decide) only [Rely.mask_in] at f6)
  have c_x : CI wx2 (xs 7) (Int.fdiv n d) (k + 3) := hf 7 (by decide)
  have c_y : CI wx2 (xs 8) (Int.fmod n d) (k + 1) := hf 8 (by decide)
  have f9 : xs 9 = (.bool true) := hf 9 (by decide)
  obtain ⟨g_x, cc, f10, hv, hB_x⟩ := hf 12 (by decide)
  change xs 10 = _ at f10
  change xs 7 = _ at hv
  obtain ⟨b_x, o_x, l_x, k_x, hs_x⟩ := c_x.shape
  rw [hs_x] at hv
  injection hv with hv
  subst hv
  have hg_x : wx1.heap.size ≤ g_x := by obtain ⟨g, h1, h2, -⟩ := hp 10 (by rfl) (by decide); rw [f10] at h1; injection h1 with h1; injection h1 with h1; injection h1 with h1; subst h1; exact h2
  obtain ⟨g_y, cc, f11, hv, hB_y⟩ := hf 13 (by decide)
  change xs 11 = _ at f11
  change xs 8 = _ at hv
  obtain ⟨b_y, o_y, l_y, k_y, hs_y⟩ := c_y.shape
  rw [hs_y] at hv
  injection hv with hv
  subst hv
  have hg_y : wx1.heap.size ≤ g_y := by obtain ⟨g, h1, h2, -⟩ := hp 11 (by rfl) (by decide); rw [f11] at h1; injection h1 with h1; injection h1 with h1; injection h1 with h1; subst h1; exact h2
  have f14 : xs 14 = _ := hf 14 (by decide)
  (try simp (disch := first | rfl | decide) only [Rely.mask_in] at f14)
  have hne_x_y : g_x ≠ g_y := fun h => hn 10 11 (by rfl) (by rfl) (by decide) (by decide) (by decide) (by rw [f10, f11, h])
  clear hf hp hn
  refine Rely.rest_done ?_
  rw [hs_x] at c_x
  rw [hs_y] at c_y
  simp only [Rely.fill, List.setIfInBounds_toArray, List.set_cons_zero, List.set_cons_succ, f0, f1, f2, f6, f9, f10, f11, f14, hs_x, hs_y]
  clear f0 f1 f2 f6 f9 f10 f11 f14 hs_x hs_y
  generalize xs 3 = v_dv at c_dv ⊢
  generalize xs 4 = v_bd at c_bd ⊢
  generalize xs 5 = v_dd at c_dd ⊢
  clear xs
  obtain ⟨o_dv, l_dv, k_dv, rfl, -⟩ := c_dv.shape
  obtain ⟨b_bd, o_bd, l_bd, k_bd, n_bd, rfl, -, -⟩ := c_bd.shape
  have hbx := undrew (hbe _ (Nat.le_refl _) (fun q h => absurd h (Nat.not_lt_zero q)))
  clear hbe hbl hkp0
  replace ha := ha.below hbx
  replace na := na.below hbx
  replace hbt := hbt.trans (hbx.mono hbt.size)
  replace HB_xa := Lib.hid ((hbx.block _ (lt_of_block HB_xa.out)).trans HB_xa.out)
  replace HB_q := Lib.hid ((hbx.block _ (lt_of_block HB_q.out)).trans HB_q.out)
  replace HB_r := Lib.hid ((hbx.block _ (lt_of_block HB_r.out)).trans HB_r.out)
  clear hbx
  replace xa0 := cell_at (v := .bool ba) HB_xa.out 0 rfl
  replace xa1 := cell_at (v := .slice oa la ka) HB_xa.out 1 rfl
  replace xa2 := cell_at (v := .slice pa ma ca) HB_xa.out 2 rfl
  replace q0 := cell_at (v := .bool false) HB_q.out 0 rfl
  replace q1 := cell_at (v := .slice none 0 0) HB_q.out 1 rfl
  replace r0 := cell_at (v := .bool false) HB_r.out 0 rfl
  replace r1 := cell_at (v := .slice none 0 0) HB_r.out 1 rfl
  have HB_x := Lib.hid hB_x
  clear hB_x
  have x0 := cell_at (v := .bool b_x) HB_x.out 0 rfl
  have x1 := cell_at (v := .slice o_x l_x k_x) HB_x.out 1 rfl
  have HB_y := Lib.hid hB_y
  clear hB_y
  have y0 := cell_at (v := .bool b_y) HB_y.out 0 rfl
  have y1 := cell_at (v := .slice o_y l_y k_y) HB_y.out 1 rfl
  clear hlt_xa hlt_q hlt_r
  go_wp2_with fail
  have hlt_xa := lt_of_block HB_xa.out
  have hlt_q := lt_of_block HB_q.out
  have hlt_r := lt_of_block HB_r.out
  have hlt_x := lt_of_block HB_x.out
  have hlt_y := lt_of_block HB_y.out
  have hszb := hbt.size
  refine Rely.region (by kernel_rfl) [[], [], [0], [0, 1, 2]] [] [(2, 1000), (3, 1001)] (fun q => [w.heap.size + 1, w.heap.size + 2].getD q 0) 2 4 (by kernel_rfl) (by kernel_rfl) (fun q hq => by match q, hq with | 0, _ => exact hlt_q | 1, _ => exact hlt_r) (fun q r hq hr hne => by match q, r, hq, hr, hne with | 0, 0, _, _, h => exact absurd rfl h | 0, 1, _, _, h => exact (by show w.heap.size + 1 ≠ w.heap.size + 2; omega) | 1, 0, _, _, h => exact (by show w.heap.size + 2 ≠ w.heap.size + 1; omega) | 1, 1, _, _, h => exact absurd rfl h) ?_
  refine Rely.Chain.det ?_ (by rfl) (fun T xs wr hA => ?_) ?_
  rotate_left 1
  · have e4 := hA.pre 4 (by kernel_rfl)
    simp only [List.getElem?_toArray, List.getElem?_cons_succ, List.getElem?_cons_zero] at e4
    have hBq : wr.heap[g_x]? = _ := (hA.bl _ hlt_x (fun q hq => by match q, hq with | 0, _ => exact (by show w.heap.size + 1 ≠ g_x; omega) | 1, _ => exact (by show w.heap.size + 2 ≠ g_x; omega))).trans HB_x.out
    have q0 := cell_at (v := .bool b_x) hBq 0 rfl
    have q1 := cell_at (v := .slice o_x l_x k_x) hBq 1 rfl
    clear hBq
    clear hA
    refine ⟨(by rfl), ?_⟩
    go_simp <;> (try with_reducible rfl)
  refine Rely.Chain.det ?_ (by rfl) (fun T xs wr hA => ?_) ?_
  rotate_left 1
  · have e5 := hA.pre 5 (by kernel_rfl)
    simp only [List.getElem?_toArray, List.getElem?_cons_succ, List.getElem?_cons_zero] at e5
    have hBq : wr.heap[g_y]? = _ := (hA.bl _ hlt_y (fun q hq => by match q, hq with | 0, _ => exact (by show w.heap.size + 1 ≠ g_y; omega) | 1, _ => exact (by show w.heap.size + 2 ≠ g_y; omega))).trans HB_y.out
    have q0 := cell_at (v := .bool b_y) hBq 0 rfl
    have q1 := cell_at (v := .slice o_y l_y k_y) hBq 1 rfl
    clear hBq
    clear hA
    refine ⟨(by rfl), ?_⟩
    go_simp <;> (try with_reducible rfl)
  refine Rely.Chain.storeOld 0 0 25 (by rfl) (by rfl) (by decide) (Rely.own_one (by rfl)) (fun T xs wr hA hB0 => ?_) ?_
  · have e2 := hA.pre 2 (by kernel_rfl)
    simp only [List.getElem?_toArray, List.getElem?_cons_succ, List.getElem?_cons_zero] at e2
    have hB : wr.heap[w.heap.size + 1]? = _ := hB0.trans HB_q.out
    clear hB0
    have e17 := hA.tm 0 17 (by rfl) (by rfl)
    have hv : xs 0 = _ := hA.fa 0 (by rfl)
    (try simp (disch := first | rfl | decide) only [Rely.mask_in] at hv)
    rw [hv] at e17
    have z0 := cell_at hB 0 rfl
    have z1 := cell_at hB 1 rfl
    have fz0 := froz_at hB 0
    have fz1 := froz_at hB 1
    clear hA
    refine ⟨(by rfl), fun K hK => ?_⟩
    go_simp
    exact hK.out _ _ hv (hset2 hB _ _) (priv2 hB (by rfl) (by rfl))
  refine Rely.Chain.storeOld 1 1 25 (by rfl) (by rfl) (by decide) (Rely.own_one (by rfl)) (fun T xs wr hA hB0 => ?_) ?_
  · have e3 := hA.pre 3 (by kernel_rfl)
    simp only [List.getElem?_toArray, List.getElem?_cons_succ, List.getElem?_cons_zero] at e3
    have hB : wr.heap[w.heap.size + 2]? = _ := hB0.trans HB_r.out
    clear hB0
    have e18 := hA.tm 1 18 (by rfl) (by rfl)
    have hv : xs 1 = _ := hA.fa 1 (by rfl)
    (try simp (disch := first | rfl | decide) only [Rely.mask_in] at hv)
    rw [hv] at e18
    have z0 := cell_at hB 0 rfl
    have z1 := cell_at hB 1 rfl
    have fz0 := froz_at hB 0
    have fz1 := froz_at hB 1
    clear hA
    refine ⟨(by rfl), fun K hK => ?_⟩
    go_simp
    exact hK.out _ _ hv (hset2 hB _ _) (priv2 hB (by rfl) (by rfl))
  refine Rely.Chain.done (fun xs wx3 hL => ?_)
  obtain ⟨⟨hbe, hbl, hkp0⟩, hf, hp, hn⟩ := hL
  have f0 : xs 0 = _ := hf 0 (by decide)
  (try simp (disch := first | rfl | decide) only [Rely.mask_in] at f0)
  have f1 : xs 1 = _ := hf 1 (by decide)
  (try simp (disch := first | rfl | decide) only [Rely.mask_in] at f1)
  obtain ⟨cc, hv, hB_q⟩ := hf 2 (by decide)
  change xs 0 = _ at hv
  rw [f0] at hv
  injection hv with hv
  subst hv
  obtain ⟨cc, hv, hB_r⟩ := hf 3 (by decide)
  change xs 1 = _ at hv
  rw [f1] at hv
  injection hv with hv
  subst hv
  clear hf hp hn
  refine Rely.rest_done ?_
  simp only [Rely.fill, List.setIfInBounds_toArray, List.set_cons_zero, List.set_cons_succ, f0, f1]
  clear f0 f1
  clear xs
  replace hkp0 := undrewK hkp0
  replace ha := ha.keeps hkp0
  replace na := na.keeps hkp0
  replace c_dv := c_dv.keeps hkp0
  replace c_bd := c_bd.keeps hkp0
  replace c_dd := c_dd.keeps hkp0
  replace c_x := c_x.keeps hkp0
  replace c_y := c_y.keeps hkp0
  replace hbt := hbt.trans (undrew (hbe w.heap.size hszb (fun q hq => by match q, hq with | 0, _ => exact (by show w.heap.size ≤ w.heap.size + 1; omega) | 1, _ => exact (by show w.heap.size ≤ w.heap.size + 2; omega))))
  replace HB_xa := Lib.hid ((hbl _ hlt_xa (fun q hq => by match q, hq with | 0, _ => exact (by show w.heap.size + 1 ≠ w.heap.size; omega) | 1, _ => exact (by show w.heap.size + 2 ≠ w.heap.size; omega))).trans HB_xa.out)
  replace HB_q := Lib.hid (show wx3.heap[w.heap.size + 1]? = some (.cells #[.bool b_x, .slice o_x l_x k_x] 25 (0, 0)) from hB_q)
  clear hB_q
  replace HB_r := Lib.hid (show wx3.heap[w.heap.size + 2]? = some (.cells #[.bool b_y, .slice o_y l_y k_y] 25 (0, 0)) from hB_r)
  clear hB_r
  replace HB_x := Lib.hid ((hbl _ hlt_x (fun q hq => by match q, hq with | 0, _ => exact (by show w.heap.size + 1 ≠ g_x; omega) | 1, _ => exact (by show w.heap.size + 2 ≠ g_x; omega))).trans HB_x.out)
  replace HB_y := Lib.hid ((hbl _ hlt_y (fun q hq => by match q, hq with | 0, _ => exact (by show w.heap.size + 1 ≠ g_y; omega) | 1, _ => exact (by show w.heap.size + 2 ≠ g_y; omega))).trans HB_y.out)
  clear hkp0 hbe hbl hszb
  replace xa0 := cell_at (v := .bool ba) HB_xa.out 0 rfl
  replace xa1 := cell_at (v := .slice oa la ka) HB_xa.out 1 rfl
  replace xa2 := cell_at (v := .slice pa ma ca) HB_xa.out 2 rfl
  replace q0 := cell_at (v := .bool b_x) HB_q.out 0 rfl
  replace q1 := cell_at (v := .slice o_x l_x k_x) HB_q.out 1 rfl
  replace r0 := cell_at (v := .bool b_y) HB_r.out 0 rfl
  replace r1 := cell_at (v := .slice o_y l_y k_y) HB_r.out 1 rfl
  replace x0 := cell_at (v := .bool b_x) HB_x.out 0 rfl
  replace x1 := cell_at (v := .slice o_x l_x k_x) HB_x.out 1 rfl
  replace y0 := cell_at (v := .bool b_y) HB_y.out 0 rfl
  replace y1 := cell_at (v := .slice o_y l_y k_y) HB_y.out 1 rfl
  clear hlt_xa hlt_q hlt_r
  go_wp2_with fail
  exact bodyPost_ret (v := .tuple #[.agg #[.bool b_x, .slice o_x l_x k_x], .agg #[.bool b_y, .slice o_y l_y k_y]]) (by simp [results, Tryd.results50, go_sem, q0, q1, r0, r1]) rfl ⟨_, _, rfl, c_x, c_y, hbt⟩

set_option maxHeartbeats 2000000 in
theorem qfloor_any {va : Value} {n : Int} {d k : Nat} {w : World} (ha : GQ w va n d k) (hk : k ≤ 100000) :
    Calls Tryd.prog 31 #[va] w fun e w' => ∃ v, e = .returned v ∧ CI w' v (Int.fdiv n d) (k + 4) ∧ Below w.heap.size w w' := by
  obtain ⟨ba, oa, la, ka, pa, ma, ca, rfl⟩ := ha.shape
  have hbt := Below.refl w.heap.size w
  go_enter Tryd.func31, Tryd.ntmps31
  go_wp2_with fail
  have hbx : Below w.heap.size w ((w.alloc (.cells #[.bool ba, .slice oa la ka, .slice pa ma ca] 27)).alloc (.cells #[.bool false, .slice none 0 0] 25)) := (((Below.refl _ _).alloc (by simp) _).alloc (by simp) _)
  replace ha := ha.below hbx
  replace hbt := hbt.trans (hbx.mono hbt.size)
  clear hbx
  have HB_xa : Hid (((w.alloc (.cells #[.bool ba, .slice oa la ka, .slice pa ma ca] 27)).alloc (.cells #[.bool false, .slice none 0 0] 25)).heap[w.heap.size]? = some (.cells #[.bool ba, .slice oa la ka, .slice pa ma ca] 27 (0, 0))) := Lib.hid (made_more (made_at w (.cells #[.bool ba, .slice oa la ka, .slice pa ma ca] 27) _ (by first | rfl | simp)) _)
  have HB_q : Hid (((w.alloc (.cells #[.bool ba, .slice oa la ka, .slice pa ma ca] 27)).alloc (.cells #[.bool false, .slice none 0 0] 25)).heap[w.heap.size + 1]? = some (.cells #[.bool false, .slice none 0 0] 25 (0, 0))) := Lib.hid (made_at (w.alloc (.cells #[.bool ba, .slice oa la ka, .slice pa ma ca] 27)) (.cells #[.bool false, .slice none 0 0] 25) _ (by first | rfl | simp))
  generalize ((w.alloc (.cells #[.bool ba, .slice oa la ka, .slice pa ma ca] 27)).alloc (.cells #[.bool false, .slice none 0 0] 25)) = wx1 at *
  have xa0 := cell_at (v := .bool ba) HB_xa.out 0 rfl
  have xa1 := cell_at (v := .slice oa la ka) HB_xa.out 1 rfl
  have xa2 := cell_at (v := .slice pa ma ca) HB_xa.out 2 rfl
  have q0 := cell_at (v := .bool false) HB_q.out 0 rfl
  have q1 := cell_at (v := .slice none 0 0) HB_q.out 1 rfl
  refine (divided_any ha hk).mono ?_
  rintro e wx2 ⟨v_x, v_y, rfl, c_x, c_y, hbx⟩
  replace ha := ha.below hbx
  replace hbt := hbt.trans (hbx.mono hbt.size)
  replace HB_xa := Lib.hid ((hbx.block _ (lt_of_block HB_xa.out)).trans HB_xa.out)
  replace HB_q := Lib.hid ((hbx.block _ (lt_of_block HB_q.out)).trans HB_q.out)
  clear hbx
  replace xa0 := cell_at (v := .bool ba) HB_xa.out 0 rfl
  replace xa1 := cell_at (v := .slice oa la ka) HB_xa.out 1 rfl
  replace xa2 := cell_at (v := .slice pa ma ca) HB_xa.out 2 rfl
  replace q0 := cell_at (v := .bool false) HB_q.out 0 rfl
  replace q1 := cell_at (v := .slice none 0 0) HB_q.out 1 rfl
  obtain ⟨b_x, o_x, l_x, k_x, rfl⟩ := c_x.shape
  obtain ⟨b_y, o_y, l_y, k_y, rfl⟩ := c_y.shape
  replace c_x := c_x.more (show k + 3 ≤ k + 4 by omega)
  have hlt_q := lt_of_block HB_q.out
  have hlu_q : w.heap.size + 1 < wx2.heap.size + 1 := Nat.lt_succ_of_lt hlt_q
  have hlt_xa := lt_of_block HB_xa.out
  have hlu_xa : w.heap.size < wx2.heap.size + 1 := Nat.lt_succ_of_lt hlt_xa
  have fz_q0 := froz_at HB_q.out 0
  have fz_q1 := froz_at HB_q.out 1
  go_wp2_with fail
  have hs := below_setg hbt (show w.heap.size ≤ w.heap.size + 1 by omega) (.bool b_x) (.slice o_x l_x k_x)
  have hc := c_x.keeps (priv2 HB_q.out (by rfl) (show noInt #[.bool b_x, .slice o_x l_x k_x] = true by rfl)).keeps
  have hb2 := below2 ((wx2.setCell ⟨w.heap.size + 1, 0, none⟩ (.bool b_x)).setCell ⟨w.heap.size + 1, 1, none⟩ (.slice o_x l_x k_x)) (.cells #[.bool b_x, .slice o_x l_x k_x] 25) (.cells #[.bool b_y, .slice o_y l_y k_y] 25)
  have hQ := (hb2.block (w.heap.size + 1) (by simpa [World.setCell] using hlt_q)).trans (hset2 HB_q.out (.bool b_x) (.slice o_x l_x k_x))
  replace hs := hs.trans (hb2.mono hs.size)
  replace hc := hc.below hb2
  have e0 := cell_at (v := .bool b_x) hQ 0 rfl
  have e1 := cell_at (v := .slice o_x l_x k_x) hQ 1 rfl
  exact bodyPost_ret (v := .agg #[.bool b_x, .slice o_x l_x k_x]) (by simp [results, Tryd.results31, go_sem, e0, e1]) rfl ⟨_, rfl, hc, hs⟩

theorem ci_zero (w : World) (k : Nat) : CI w (.agg #[.bool false, .slice none 0 0]) 0 k :=
  ⟨_, rfl, by rw [Int.natAbs_zero, dig_zero]; exact Sl.nil _ _, Nat.pow_pos (by decide)⟩
theorem sgnZ_eq0 {z : Int} : sgnZ z = 0 ↔ z = 0 := by
  unfold sgnZ; by_cases h : z = 0
  · simp [h]
  · rw [if_neg h]; simp only [h, iff_false]; split <;> omega

set_option maxHeartbeats 2000000 in
theorem qceil_yes {va : Value} {n : Int} {d k : Nat} {w : World} (ha : GQ w va n d k) (hk : k ≤ 100000) (h : Int.fmod n d = 0) :
    Calls Tryd.prog 32 #[va] w fun e w' => ∃ v, e = .returned v ∧ CI w' v (Int.fdiv n d) (k + 6) ∧ Below w.heap.size w w' := by
  obtain ⟨ba, oa, la, ka, pa, ma, ca, rfl⟩ := ha.shape
  have hz : (sgnZ (Int.fmod n d) == 0) = true := by rw [beq_iff_eq]; exact sgnZ_eq0.2 h
  clear h
  have hbt := Below.refl w.heap.size w
  go_enter Tryd.func32, Tryd.ntmps32
  go_wp2_with fail
  have hbx : Below w.heap.size w ((w.alloc (.cells #[.bool ba, .slice oa la ka, .slice pa ma ca] 27)).alloc (.cells #[.bool false, .slice none 0 0] 25)) := (((Below.refl _ _).alloc (by simp) _).alloc (by simp) _)
  replace ha := ha.below hbx
  replace hbt := hbt.trans (hbx.mono hbt.size)
  clear hbx
  have HB_xa : Hid (((w.alloc (.cells #[.bool ba, .slice oa la ka, .slice pa ma ca] 27)).alloc (.cells #[.bool false, .slice none 0 0] 25)).heap[w.heap.size]? = some (.cells #[.bool ba, .slice oa la ka, .slice pa ma ca] 27 (0, 0))) := Lib.hid (made_more (made_at w (.cells #[.bool ba, .slice oa la ka, .slice pa ma ca] 27) _ (by first | rfl | simp)) _)
  have HB_q : Hid (((w.alloc (.cells #[.bool ba, .slice oa la ka, .slice pa ma ca] 27)).alloc (.cells #[.bool false, .slice none 0 0] 25)).heap[w.heap.size + 1]? = some (.cells #[.bool false, .slice none 0 0] 25 (0, 0))) := Lib.hid (made_at (w.alloc (.cells #[.bool ba, .slice oa la ka, .slice pa ma ca] 27)) (.cells #[.bool false, .slice none 0 0] 25) _ (by first | rfl | simp))
  generalize ((w.alloc (.cells #[.bool ba, .slice oa la ka, .slice pa ma ca] 27)).alloc (.cells #[.bool false, .slice none 0 0] 25)) = wx1 at *
  have xa0 := cell_at (v := .bool ba) HB_xa.out 0 rfl
  have xa1 := cell_at (v := .slice oa la ka) HB_xa.out 1 rfl
  have xa2 := cell_at (v := .slice pa ma ca) HB_xa.out 2 rfl
  have q0 := cell_at (v := .bool false) HB_q.out 0 rfl
  have q1 := cell_at (v := .slice none 0 0) HB_q.out 1 rfl
  refine (divided_any ha hk).mono ?_
  rintro e wx2 ⟨v_x, v_y, rfl, c_x, c_y, hbx⟩
  replace ha := ha.below hbx
  replace hbt := hbt.trans (hbx.mono hbt.size)
  replace HB_xa := Lib.hid ((hbx.block _ (lt_of_block HB_xa.out)).trans HB_xa.out)
  replace HB_q := Lib.hid ((hbx.block _ (lt_of_block HB_q.out)).trans HB_q.out)
  clear hbx
  replace xa0 := cell_at (v := .bool ba) HB_xa.out 0 rfl
  replace xa1 := cell_at (v := .slice oa la ka) HB_xa.out 1 rfl
  replace xa2 := cell_at (v := .slice pa ma ca) HB_xa.out 2 rfl
  replace q0 := cell_at (v := .bool false) HB_q.out 0 rfl
  replace q1 := cell_at (v := .slice none 0 0) HB_q.out 1 rfl
  obtain ⟨b_x, o_x, l_x, k_x, rfl⟩ := c_x.shape
  obtain ⟨b_y, o_y, l_y, k_y, rfl⟩ := c_y.shape
  have hlt_xa := lt_of_block HB_xa.out
  have hlu1_xa : w.heap.size < wx2.heap.size + 1 := Nat.lt_of_lt_of_le hlt_xa (Nat.le_add_right _ _)
  have hlt_q := lt_of_block HB_q.out
  have hlu1_q : w.heap.size + 1 < wx2.heap.size + 1 := Nat.lt_of_lt_of_le hlt_q (Nat.le_add_right _ _)
  go_wp2_with fail
  have hla_xa_wx2 : w.heap.size < wx2.heap.size := hlt_xa
  have hla_q_wx2 : w.heap.size + 1 < wx2.heap.size := hlt_q
  clear hlt_xa hlt_q hlu1_xa hlu1_q
  have hbx : Below wx2.heap.size wx2 ((wx2.alloc (.cells #[.bool b_x, .slice o_x l_x k_x] 25)).alloc (.cells #[.bool b_y, .slice o_y l_y k_y] 25)) := (((Below.refl _ _).alloc (by simp) _).alloc (by simp) _)
  replace ha := ha.below hbx
  replace c_x := c_x.below hbx
  replace c_y := c_y.below hbx
  replace hbt := hbt.trans (hbx.mono hbt.size)
  replace HB_xa := Lib.hid ((hbx.block _ (lt_of_block HB_xa.out)).trans HB_xa.out)
  replace HB_q := Lib.hid ((hbx.block _ (lt_of_block HB_q.out)).trans HB_q.out)
  clear hbx
  replace xa0 := cell_at (v := .bool ba) HB_xa.out 0 rfl
  replace xa1 := cell_at (v := .slice oa la ka) HB_xa.out 1 rfl
  replace xa2 := cell_at (v := .slice pa ma ca) HB_xa.out 2 rfl
  replace q0 := cell_at (v := .bool false) HB_q.out 0 rfl
  replace q1 := cell_at (v := .slice none 0 0) HB_q.out 1 rfl
  have HB_x : Hid (((wx2.alloc (.cells #[.bool b_x, .slice o_x l_x k_x] 25)).alloc (.cells #[.bool b_y, .slice o_y l_y k_y] 25)).heap[wx2.heap.size]? = some (.cells #[.bool b_x, .slice o_x l_x k_x] 25 (0, 0))) := Lib.hid (made_more (made_at wx2 (.cells #[.bool b_x, .slice o_x l_x k_x] 25) _ (by first | rfl | simp)) _)
  have HB_y : Hid (((wx2.alloc (.cells #[.bool b_x, .slice o_x l_x k_x] 25)).alloc (.cells #[.bool b_y, .slice o_y l_y k_y] 25)).heap[wx2.heap.size + 1]? = some (.cells #[.bool b_y, .slice o_y l_y k_y] 25 (0, 0))) := Lib.hid (made_at (wx2.alloc (.cells #[.bool b_x, .slice o_x l_x k_x] 25)) (.cells #[.bool b_y, .slice o_y l_y k_y] 25) _ (by first | rfl | simp))
  generalize ((wx2.alloc (.cells #[.bool b_x, .slice o_x l_x k_x] 25)).alloc (.cells #[.bool b_y, .slice o_y l_y k_y] 25)) = wx3 at *
  have x0 := cell_at (v := .bool b_x) HB_x.out 0 rfl
  have x1 := cell_at (v := .slice o_x l_x k_x) HB_x.out 1 rfl
  have y0 := cell_at (v := .bool b_y) HB_y.out 0 rfl
  have y1 := cell_at (v := .slice o_y l_y k_y) HB_y.out 1 rfl
  refine (wsign_any _ (Int.fmod n d) (k + 1) _ c_y.gi (by omega)).mono ?_
  rintro e wx4 ⟨rfl, hbx⟩
  replace ha := ha.below hbx
  replace c_x := c_x.below hbx
  replace c_y := c_y.below hbx
  replace hbt := hbt.trans (hbx.mono hbt.size)
  replace HB_xa := Lib.hid ((hbx.block _ (lt_of_block HB_xa.out)).trans HB_xa.out)
  replace HB_q := Lib.hid ((hbx.block _ (lt_of_block HB_q.out)).trans HB_q.out)
  replace HB_x := Lib.hid ((hbx.block _ (lt_of_block HB_x.out)).trans HB_x.out)
  replace HB_y := Lib.hid ((hbx.block _ (lt_of_block HB_y.out)).trans HB_y.out)
  clear hbx
  replace xa0 := cell_at (v := .bool ba) HB_xa.out 0 rfl
  replace xa1 := cell_at (v := .slice oa la ka) HB_xa.out 1 rfl
  replace xa2 := cell_at (v := .slice pa ma ca) HB_xa.out 2 rfl
  replace q0 := cell_at (v := .bool false) HB_q.out 0 rfl
  replace q1 := cell_at (v := .slice none 0 0) HB_q.out 1 rfl
  replace x0 := cell_at (v := .bool b_x) HB_x.out 0 rfl
  replace x1 := cell_at (v := .slice o_x l_x k_x) HB_x.out 1 rfl
  replace y0 := cell_at (v := .bool b_y) HB_y.out 0 rfl
  replace y1 := cell_at (v := .slice o_y l_y k_y) HB_y.out 1 rfl
  replace c_x := c_x.more (show k + 3 ≤ k + 6 by omega)
  have fz_q0 := froz_at HB_q.out 0
  have fz_q1 := froz_at HB_q.out 1
  go_wp2_with fail
  exact bodyPost_ret (v := .agg #[.bool b_x, .slice o_x l_x k_x]) (by simp [results, Tryd.results32, go_sem, q0, q1]) rfl ⟨_, rfl, c_x.keeps (priv2 HB_q.out (by rfl) (by rfl)).keeps, below_setg hbt (by omega) _ _ ⟩

set_option maxHeartbeats 2000000 in
theorem qwhole_yes {va : Value} {n : Int} {d k : Nat} {w : World} (ha : GQ w va n d k) (hk : k ≤ 100000) (h : Int.fmod n d = 0) :
    Calls Tryd.prog 33 #[va] w fun e w' => ∃ v, e = .returned (.tuple #[v, .bool true]) ∧ CI w' v (Int.fdiv n d) (k + 3) ∧ Below w.heap.size w w' := by
  obtain ⟨ba, oa, la, ka, pa, ma, ca, rfl⟩ := ha.shape
  have hz : (sgnZ (Int.fmod n d) == 0) = true := by rw [beq_iff_eq]; exact sgnZ_eq0.2 h
  clear h
  have hbt := Below.refl w.heap.size w
  go_enter Tryd.func33, Tryd.ntmps33
  go_wp2_with fail
  have hbx : Below w.heap.size w ((w.alloc (.cells #[.bool ba, .slice oa la ka, .slice pa ma ca] 27)).alloc (.cells #[.bool false, .slice none 0 0] 25)) := (((Below.refl _ _).alloc (by simp) _).alloc (by simp) _)
  replace ha := ha.below hbx
  replace hbt := hbt.trans (hbx.mono hbt.size)
  clear hbx
  have HB_xa : Hid (((w.alloc (.cells #[.bool ba, .slice oa la ka, .slice pa ma ca] 27)).alloc (.cells #[.bool false, .slice none 0 0] 25)).heap[w.heap.size]? = some (.cells #[.bool ba, .slice oa la ka, .slice pa ma ca] 27 (0, 0))) := Lib.hid (made_more (made_at w (.cells #[.bool ba, .slice oa la ka, .slice pa ma ca] 27) _ (by first | rfl | simp)) _)
  have HB_q : Hid (((w.alloc (.cells #[.bool ba, .slice oa la ka, .slice pa ma ca] 27)).alloc (.cells #[.bool false, .slice none 0 0] 25)).heap[w.heap.size + 1]? = some (.cells #[.bool false, .slice none 0 0] 25 (0, 0))) := Lib.hid (made_at (w.alloc (.cells #[.bool ba, .slice oa la ka, .slice pa ma ca] 27)) (.cells #[.bool false, .slice none 0 0] 25) _ (by first | rfl | simp))
  generalize ((w.alloc (.cells #[.bool ba, .slice oa la ka, .slice pa ma ca] 27)).alloc (.cells #[.bool false, .slice none 0 0] 25)) = wx1 at *
  have xa0 := cell_at (v := .bool ba) HB_xa.out 0 rfl
  have xa1 := cell_at (v := .slice oa la ka) HB_xa.out 1 rfl
  have xa2 := cell_at (v := .slice pa ma ca) HB_xa.out 2 rfl
  have q0 := cell_at (v := .bool false) HB_q.out 0 rfl
  have q1 := cell_at (v := .slice none 0 0) HB_q.out 1 rfl
  refine (divided_any ha hk).mono ?_
  rintro e wx2 ⟨v_x, v_y, rfl, c_x, c_y, hbx⟩
  replace ha := ha.below hbx
  replace hbt := hbt.trans (hbx.mono hbt.size)
  replace HB_xa := Lib.hid ((hbx.block _ (lt_of_block HB_xa.out)).trans HB_xa.out)
  replace HB_q := Lib.hid ((hbx.block _ (lt_of_block HB_q.out)).trans HB_q.out)
  clear hbx
  replace xa0 := cell_at (v := .bool ba) HB_xa.out 0 rfl
  replace xa1 := cell_at (v := .slice oa la ka) HB_xa.out 1 rfl
  replace xa2 := cell_at (v := .slice pa ma ca) HB_xa.out 2 rfl
  replace q0 := cell_at (v := .bool false) HB_q.out 0 rfl
  replace q1 := cell_at (v := .slice none 0 0) HB_q.out 1 rfl
  obtain ⟨b_x, o_x, l_x, k_x, rfl⟩ := c_x.shape
  obtain ⟨b_y, o_y, l_y, k_y, rfl⟩ := c_y.shape
  have hlt_xa := lt_of_block HB_xa.out
  have hlu1_xa : w.heap.size < wx2.heap.size + 1 := Nat.lt_of_lt_of_le hlt_xa (Nat.le_add_right _ _)
  have hlt_q := lt_of_block HB_q.out
  have hlu1_q : w.heap.size + 1 < wx2.heap.size + 1 := Nat.lt_of_lt_of_le hlt_q (Nat.le_add_right _ _)
  go_wp2_with fail
  have hla_xa_wx2 : w.heap.size < wx2.heap.size := hlt_xa
  have hla_q_wx2 : w.heap.size + 1 < wx2.heap.size := hlt_q
  clear hlt_xa hlt_q hlu1_xa hlu1_q
  have hbx : Below wx2.heap.size wx2 ((wx2.alloc (.cells #[.bool b_x, .slice o_x l_x k_x] 25)).alloc (.cells #[.bool b_y, .slice o_y l_y k_y] 25)) := (((Below.refl _ _).alloc (by simp) _).alloc (by simp) _)
  replace ha := ha.below hbx
  replace c_x := c_x.below hbx
  replace c_y := c_y.below hbx
  replace hbt := hbt.trans (hbx.mono hbt.size)
  replace HB_xa := Lib.hid ((hbx.block _ (lt_of_block HB_xa.out)).trans HB_xa.out)
  replace HB_q := Lib.hid ((hbx.block _ (lt_of_block HB_q.out)).trans HB_q.out)
  clear hbx
  replace xa0 := cell_at (v := .bool ba) HB_xa.out 0 rfl
  replace xa1 := cell_at (v := .slice oa la ka) HB_xa.out 1 rfl
  replace xa2 := cell_at (v := .slice pa ma ca) HB_xa.out 2 rfl
  replace q0 := cell_at (v := .bool false) HB_q.out 0 rfl
  replace q1 := cell_at (v := .slice none 0 0) HB_q.out 1 rfl
  have HB_x : Hid (((wx2.alloc (.cells #[.bool b_x, .slice o_x l_x k_x] 25)).alloc (.cells #[.bool b_y, .slice o_y l_y k_y] 25)).heap[wx2.heap.size]? = some (.cells #[.bool b_x, .slice o_x l_x k_x] 25 (0, 0))) := Lib.hid (made_more (made_at wx2 (.cells #[.bool b_x, .slice o_x l_x k_x] 25) _ (by first | rfl | simp)) _)
  have HB_y : Hid (((wx2.alloc (.cells #[.bool b_x, .slice o_x l_x k_x] 25)).alloc (.cells #[.bool b_y, .slice o_y l_y k_y] 25)).heap[wx2.heap.size + 1]? = some (.cells #[.bool b_y, .slice o_y l_y k_y] 25 (0, 0))) := Lib.hid (made_at (wx2.alloc (.cells #[.bool b_x, .slice o_x l_x k_x] 25)) (.cells #[.bool b_y, .slice o_y l_y k_y] 25) _ (by first | rfl | simp))
  generalize ((wx2.alloc (.cells #[.bool b_x, .slice o_x l_x k_x] 25)).alloc (.cells #[.bool b_y, .slice o_y l_y k_y] 25)) = wx3 at *
  have x0 := cell_at (v := .bool b_x) HB_x.out 0 rfl
  have x1 := cell_at (v := .slice o_x l_x k_x) HB_x.out 1 rfl
  have y0 := cell_at (v := .bool b_y) HB_y.out 0 rfl
  have y1 := cell_at (v := .slice o_y l_y k_y) HB_y.out 1 rfl
  refine (wsign_any _ (Int.fmod n d) (k + 1) _ c_y.gi (by omega)).mono ?_
  rintro e wx4 ⟨rfl, hbx⟩
  replace ha := ha.below hbx
  replace c_x := c_x.below hbx
  replace c_y := c_y.below hbx
  replace hbt := hbt.trans (hbx.mono hbt.size)
  replace HB_xa := Lib.hid ((hbx.block _ (lt_of_block HB_xa.out)).trans HB_xa.out)
  replace HB_q := Lib.hid ((hbx.block _ (lt_of_block HB_q.out)).trans HB_q.out)
  replace HB_x := Lib.hid ((hbx.block _ (lt_of_block HB_x.out)).trans HB_x.out)
  replace HB_y := Lib.hid ((hbx.block _ (lt_of_block HB_y.out)).trans HB_y.out)
  clear hbx
  replace xa0 := cell_at (v := .bool ba) HB_xa.out 0 rfl
  replace xa1 := cell_at (v := .slice oa la ka) HB_xa.out 1 rfl
  replace xa2 := cell_at (v := .slice pa ma ca) HB_xa.out 2 rfl
  replace q0 := cell_at (v := .bool false) HB_q.out 0 rfl
  replace q1 := cell_at (v := .slice none 0 0) HB_q.out 1 rfl
  replace x0 := cell_at (v := .bool b_x) HB_x.out 0 rfl
  replace x1 := cell_at (v := .slice o_x l_x k_x) HB_x.out 1 rfl
  replace y0 := cell_at (v := .bool b_y) HB_y.out 0 rfl
  replace y1 := cell_at (v := .slice o_y l_y k_y) HB_y.out 1 rfl
  have fz_q0 := froz_at HB_q.out 0
  have fz_q1 := froz_at HB_q.out 1
  go_wp2_with fail
  exact bodyPost_ret (v := .tuple #[.agg #[.bool b_x, .slice o_x l_x k_x], .bool true]) (by simp [results, Tryd.results33, go_sem, q0, q1]) rfl ⟨_, rfl, c_x.keeps (priv2 HB_q.out (by rfl) (by rfl)).keeps, below_setg hbt (by omega) _ _⟩

set_option maxHeartbeats 2000000 in
theorem qceil_no {va : Value} {n : Int} {d k : Nat} {w : World} (ha : GQ w va n d k) (hk : k ≤ 100000) (h : Int.fmod n d ≠ 0) :
    Calls Tryd.prog 32 #[va] w fun e w' => ∃ v, e = .returned v ∧ CI w' v (Int.fdiv n d + 1) (k + 6) ∧ Below w.heap.size w w' := by
  obtain ⟨ba, oa, la, ka, pa, ma, ca, rfl⟩ := ha.shape
  have hz : (sgnZ (Int.fmod n d) == 0) = false := by rw [beq_eq_false_iff_ne]; exact mt sgnZ_eq0.1 h
  clear h
  have hbt := Below.refl w.heap.size w
  go_enter Tryd.func32, Tryd.ntmps32
  go_wp2_with fail
  have hbx : Below w.heap.size w ((w.alloc (.cells #[.bool ba, .slice oa la ka, .slice pa ma ca] 27)).alloc (.cells #[.bool false, .slice none 0 0] 25)) := (((Below.refl _ _).alloc (by simp) _).alloc (by simp) _)
  replace ha := ha.below hbx
  replace hbt := hbt.trans (hbx.mono hbt.size)
  clear hbx
  have HB_xa : Hid (((w.alloc (.cells #[.bool ba, .slice oa la ka, .slice pa ma ca] 27)).alloc (.cells #[.bool false, .slice none 0 0] 25)).heap[w.heap.size]? = some (.cells #[.bool ba, .slice oa la ka, .slice pa ma ca] 27 (0, 0))) := Lib.hid (made_more (made_at w (.cells #[.bool ba, .slice oa la ka, .slice pa ma ca] 27) _ (by first | rfl | simp)) _)
  have HB_q : Hid (((w.alloc (.cells #[.bool ba, .slice oa la ka, .slice pa ma ca] 27)).alloc (.cells #[.bool false, .slice none 0 0] 25)).heap[w.heap.size + 1]? = some (.cells #[.bool false, .slice none 0 0] 25 (0, 0))) := Lib.hid (made_at (w.alloc (.cells #[.bool ba, .slice oa la ka, .slice pa ma ca] 27)) (.cells #[.bool false, .slice none 0 0] 25) _ (by first | rfl | simp))
  generalize ((w.alloc (.cells #[.bool ba, .slice oa la ka, .slice pa ma ca] 27)).alloc (.cells #[.bool false, .slice none 0 0] 25)) = wx1 at *
  have xa0 := cell_at (v := .bool ba) HB_xa.out 0 rfl
  have xa1 := cell_at (v := .slice oa la ka) HB_xa.out 1 rfl
  have xa2 := cell_at (v := .slice pa ma ca) HB_xa.out 2 rfl
  have q0 := cell_at (v := .bool false) HB_q.out 0 rfl
  have q1 := cell_at (v := .slice none 0 0) HB_q.out 1 rfl
  refine (divided_any ha hk).mono ?_
  rintro e wx2 ⟨v_x, v_y, rfl, c_x, c_y, hbx⟩
  replace ha := ha.below hbx
  replace hbt := hbt.trans (hbx.mono hbt.size)
  replace HB_xa := Lib.hid ((hbx.block _ (lt_of_block HB_xa.out)).trans HB_xa.out)
  replace HB_q := Lib.hid ((hbx.block _ (lt_of_block HB_q.out)).trans HB_q.out)
  clear hbx
  replace xa0 := cell_at (v := .bool ba) HB_xa.out 0 rfl
  replace xa1 := cell_at (v := .slice oa la ka) HB_xa.out 1 rfl
  replace xa2 := cell_at (v := .slice pa ma ca) HB_xa.out 2 rfl
  replace q0 := cell_at (v := .bool false) HB_q.out 0 rfl
  replace q1 := cell_at (v := .slice none 0 0) HB_q.out 1 rfl
  obtain ⟨b_x, o_x, l_x, k_x, rfl⟩ := c_x.shape
  obtain ⟨b_y, o_y, l_y, k_y, rfl⟩ := c_y.shape
  have hlt_xa := lt_of_block HB_xa.out
  have hlu1_xa : w.heap.size < wx2.heap.size + 1 := Nat.lt_of_lt_of_le hlt_xa (Nat.le_add_right _ _)
  have hlt_q := lt_of_block HB_q.out
  have hlu1_q : w.heap.size + 1 < wx2.heap.size + 1 := Nat.lt_of_lt_of_le hlt_q (Nat.le_add_right _ _)
  go_wp2_with fail
  have hla_xa_wx2 : w.heap.size < wx2.heap.size := hlt_xa
  have hla_q_wx2 : w.heap.size + 1 < wx2.heap.size := hlt_q
  clear hlt_xa hlt_q hlu1_xa hlu1_q
  have hbx : Below wx2.heap.size wx2 ((wx2.alloc (.cells #[.bool b_x, .slice o_x l_x k_x] 25)).alloc (.cells #[.bool b_y, .slice o_y l_y k_y] 25)) := (((Below.refl _ _).alloc (by simp) _).alloc (by simp) _)
  replace ha := ha.below hbx
  replace c_x := c_x.below hbx
  replace c_y := c_y.below hbx
  replace hbt := hbt.trans (hbx.mono hbt.size)
  replace HB_xa := Lib.hid ((hbx.block _ (lt_of_block HB_xa.out)).trans HB_xa.out)
  replace HB_q := Lib.hid ((hbx.block _ (lt_of_block HB_q.out)).trans HB_q.out)
  clear hbx
  replace xa0 := cell_at (v := .bool ba) HB_xa.out 0 rfl
  replace xa1 := cell_at (v := .slice oa la ka) HB_xa.out 1 rfl
  replace xa2 := cell_at (v := .slice pa ma ca) HB_xa.out 2 rfl
  replace q0 := cell_at (v := .bool false) HB_q.out 0 rfl
  replace q1 := cell_at (v := .slice none 0 0) HB_q.out 1 rfl
  have HB_x : Hid (((wx2.alloc (.cells #[.bool b_x, .slice o_x l_x k_x] 25)).alloc (.cells #[.bool b_y, .slice o_y l_y k_y] 25)).heap[wx2.heap.size]? = some (.cells #[.bool b_x, .slice o_x l_x k_x] 25 (0, 0))) := Lib.hid (made_more (made_at wx2 (.cells #[.bool b_x, .slice o_x l_x k_x] 25) _ (by first | rfl | simp)) _)
  have HB_y : Hid (((wx2.alloc (.cells #[.bool b_x, .slice o_x l_x k_x] 25)).alloc (.cells #[.bool b_y, .slice o_y l_y k_y] 25)).heap[wx2.heap.size + 1]? = some (.cells #[.bool b_y, .slice o_y l_y k_y] 25 (0, 0))) := Lib.hid (made_at (wx2.alloc (.cells #[.bool b_x, .slice o_x l_x k_x] 25)) (.cells #[.bool b_y, .slice o_y l_y k_y] 25) _ (by first | rfl | simp))
  generalize ((wx2.alloc (.cells #[.bool b_x, .slice o_x l_x k_x] 25)).alloc (.cells #[.bool b_y, .slice o_y l_y k_y] 25)) = wx3 at *
  have x0 := cell_at (v := .bool b_x) HB_x.out 0 rfl
  have x1 := cell_at (v := .slice o_x l_x k_x) HB_x.out 1 rfl
  have y0 := cell_at (v := .bool b_y) HB_y.out 0 rfl
  have y1 := cell_at (v := .slice o_y l_y k_y) HB_y.out 1 rfl
  refine (wsign_any _ (Int.fmod n d) (k + 1) _ c_y.gi (by omega)).mono ?_
  rintro e wx4 ⟨rfl, hbx⟩
  replace ha := ha.below hbx
  replace c_x := c_x.below hbx
  replace c_y := c_y.below hbx
  replace hbt := hbt.trans (hbx.mono hbt.size)
  replace HB_xa := Lib.hid ((hbx.block _ (lt_of_block HB_xa.out)).trans HB_xa.out)
  replace HB_q := Lib.hid ((hbx.block _ (lt_of_block HB_q.out)).trans HB_q.out)
  replace HB_x := Lib.hid ((hbx.block _ (lt_of_block HB_x.out)).trans HB_x.out)
  replace HB_y := Lib.hid ((hbx.block _ (lt_of_block HB_y.out)).trans HB_y.out)
  clear hbx
  replace xa0 := cell_at (v := .bool ba) HB_xa.out 0 rfl
  replace xa1 := cell_at (v := .slice oa la ka) HB_xa.out 1 rfl
  replace xa2 := cell_at (v := .slice pa ma ca) HB_xa.out 2 rfl
  replace q0 := cell_at (v := .bool false) HB_q.out 0 rfl
  replace q1 := cell_at (v := .slice none 0 0) HB_q.out 1 rfl
  replace x0 := cell_at (v := .bool b_x) HB_x.out 0 rfl
  replace x1 := cell_at (v := .slice o_x l_x k_x) HB_x.out 1 rfl
  replace y0 := cell_at (v := .bool b_y) HB_y.out 0 rfl
  replace y1 := cell_at (v := .slice o_y l_y k_y) HB_y.out 1 rfl
  go_wp2_with fail
  have hlt_xa := lt_of_block HB_xa.out
  have hlt_q := lt_of_block HB_q.out
  have hlt_x := lt_of_block HB_x.out
  have hlt_y := lt_of_block HB_y.out
  have hszb := hbt.size
  refine Rely.region (by kernel_rfl) [[], [], [0, 1], [0, 1, 2]] [] [(3, 1000)] (fun q => [w.heap.size + 1].getD q 0) 1 4 (by kernel_rfl) (by kernel_rfl) (fun q hq => by match q, hq with | 0, _ => exact hlt_q) (fun q r hq hr hne => by match q, r, hq, hr, hne with | 0, 0, _, _, h => exact absurd rfl h) ?_
  refine Rely.Chain.det ?_ (by rfl) (fun T xs wr hA => ?_) ?_
  rotate_left 1
  · have e3 := hA.pre 3 (by kernel_rfl)
    simp only [List.getElem?_toArray, List.getElem?_cons_succ, List.getElem?_cons_zero] at e3
    have hBq : wr.heap[wx2.heap.size]? = _ := (hA.bl _ hlt_x (fun q hq => by match q, hq with | 0, _ => exact (by show w.heap.size + 1 ≠ wx2.heap.size; omega))).trans HB_x.out
    have q0 := cell_at (v := .bool b_x) hBq 0 rfl
    have q1 := cell_at (v := .slice o_x l_x k_x) hBq 1 rfl
    clear hBq
    clear hA
    refine ⟨(by rfl), ?_⟩
    go_simp <;> (try with_reducible rfl)
  refine Rely.Chain.call (fun _ v w => CI w v 1 2) (fun _ _ _ _ h hb => h.below hb) (fun _ _ _ _ _ h hp => h.keeps hp.keeps) (by rfl) (fun T xs wr hA => ?_) ?_
  · have hkp := undrewK hA.kp
    have hbt' := hbt.trans (undrew (hA.be w.heap.size hszb (fun q hq => by match q, hq with | 0, _ => exact (by show w.heap.size ≤ w.heap.size + 1; omega))))
    clear hA
    refine ⟨(by rfl), fun K hK => ?_⟩
    go_simp
    refine (wof_any 1 _ (by decide) (by decide)).mono ?_
    rintro e wq ⟨v, rfl, c, hb⟩
    exact hK.out _ _ c hb
  refine Rely.Chain.call (fun _ v w => CI w v (Int.fdiv n d + 1) (k + 3 + 2 + 1)) (fun _ _ _ _ h hb => h.below hb) (fun _ _ _ _ _ h hp => h.keeps hp.keeps) (by rfl) (fun T xs wr hA => ?_) ?_
  · have e14 := hA.tm 0 14 (by rfl) (by rfl)
    have f14 : xs 0 = _ := hA.fa 0 (by rfl)
    (try simp (disch := first | rfl | decide) only [Rely.mask_in] at f14)
    rw [f14] at e14
    clear f14
    have e15 := hA.tm 1 15 (by rfl) (by rfl)
    have hkp := undrewK hA.kp
    have hbt' := hbt.trans (undrew (hA.be w.heap.size hszb (fun q hq => by match q, hq with | 0, _ => exact (by show w.heap.size ≤ w.heap.size + 1; omega))))
    have c_x := c_x.keeps hkp
    have c_u : CI wr (xs 1) 1 2 := hA.fa 1 (by rfl)
    clear hA
    refine ⟨(by rfl), fun K hK => ?_⟩
    go_simp
    refine (wadd_any _ _ (Int.fdiv n d) 1 (k + 3) 2 _ c_x.gi c_u.gi (by omega) (by omega)).mono ?_
    rintro e wq ⟨v, rfl, c, hb⟩
    exact hK.out _ _ c hb
  refine Rely.Chain.storeOld 0 2 25 (by rfl) (by rfl) (by decide) (Rely.own_one (by rfl)) (fun T xs wr hA hB0 => ?_) ?_
  · have e2 := hA.pre 2 (by kernel_rfl)
    simp only [List.getElem?_toArray, List.getElem?_cons_succ, List.getElem?_cons_zero] at e2
    have hB : wr.heap[w.heap.size + 1]? = _ := hB0.trans HB_q.out
    clear hB0
    have e16 := hA.tm 2 16 (by rfl) (by rfl)
    have hc : CI wr (xs 2) (Int.fdiv n d + 1) (k + 3 + 2 + 1) := hA.fa 2 (by rfl)
    obtain ⟨b_h, o_h, l_h, k_h, hv⟩ := hc.shape
    clear hc
    rw [hv] at e16
    have z0 := cell_at hB 0 rfl
    have z1 := cell_at hB 1 rfl
    have fz0 := froz_at hB 0
    have fz1 := froz_at hB 1
    clear hA
    refine ⟨(by rfl), fun K hK => ?_⟩
    go_simp
    exact hK.out _ _ hv (hset2 hB _ _) (priv2 hB (by rfl) (by rfl))
  refine Rely.Chain.done (fun xs wx5 hL => ?_)
  obtain ⟨⟨hbe, hbl, hkp0⟩, hf, hp, hn⟩ := hL
  have f0 : xs 0 = _ := hf 0 (by decide)
  (try simp (disch := first | rfl | decide) only [Rely.mask_in] at f0)
  have c_u : CI wx5 (xs 1) 1 2 := hf 1 (by decide)
  have c_z : CI wx5 (xs 2) (Int.fdiv n d + 1) (k + 3 + 2 + 1) := hf 2 (by decide)
  obtain ⟨cc, hv, hB_q⟩ := hf 3 (by decide)
  change xs 2 = _ at hv
  obtain ⟨b_z, o_z, l_z, k_z, hs_z⟩ := c_z.shape
  rw [hs_z] at hv
  injection hv with hv
  subst hv
  clear hf hp hn
  refine Rely.rest_done ?_
  rw [hs_z] at c_z
  simp only [Rely.fill, List.setIfInBounds_toArray, List.set_cons_zero, List.set_cons_succ, f0, hs_z]
  clear f0 hs_z
  generalize xs 1 = v_u at c_u ⊢
  clear xs
  obtain ⟨b_u, o_u, l_u, k_u, rfl⟩ := c_u.shape
  replace hkp0 := undrewK hkp0
  replace ha := ha.keeps hkp0
  replace c_x := c_x.keeps hkp0
  replace c_y := c_y.keeps hkp0
  replace hbt := hbt.trans (undrew (hbe w.heap.size hszb (fun q hq => by match q, hq with | 0, _ => exact (by show w.heap.size ≤ w.heap.size + 1; omega))))
  replace HB_xa := Lib.hid ((hbl _ hlt_xa (fun q hq => by match q, hq with | 0, _ => exact (by show w.heap.size + 1 ≠ w.heap.size; omega))).trans HB_xa.out)
  replace HB_q := Lib.hid (show wx5.heap[w.heap.size + 1]? = some (.cells #[.bool b_z, .slice o_z l_z k_z] 25 (0, 0)) from hB_q)
  clear hB_q
  replace HB_x := Lib.hid ((hbl _ hlt_x (fun q hq => by match q, hq with | 0, _ => exact (by show w.heap.size + 1 ≠ wx2.heap.size; omega))).trans HB_x.out)
  replace HB_y := Lib.hid ((hbl _ hlt_y (fun q hq => by match q, hq with | 0, _ => exact (by show w.heap.size + 1 ≠ wx2.heap.size + 1; omega))).trans HB_y.out)
  clear hkp0 hbe hbl hszb
  replace xa0 := cell_at (v := .bool ba) HB_xa.out 0 rfl
  replace xa1 := cell_at (v := .slice oa la ka) HB_xa.out 1 rfl
  replace xa2 := cell_at (v := .slice pa ma ca) HB_xa.out 2 rfl
  replace q0 := cell_at (v := .bool b_z) HB_q.out 0 rfl
  replace q1 := cell_at (v := .slice o_z l_z k_z) HB_q.out 1 rfl
  replace x0 := cell_at (v := .bool b_x) HB_x.out 0 rfl
  replace x1 := cell_at (v := .slice o_x l_x k_x) HB_x.out 1 rfl
  replace y0 := cell_at (v := .bool b_y) HB_y.out 0 rfl
  replace y1 := cell_at (v := .slice o_y l_y k_y) HB_y.out 1 rfl
  clear hlt_xa hlt_q hlt_x hlt_y
  go_wp2_with fail
  exact bodyPost_ret (v := .agg #[.bool b_z, .slice o_z l_z k_z]) (by simp [results, Tryd.results32, go_sem, q0, q1]) rfl ⟨_, rfl, c_z, hbt⟩

set_option maxHeartbeats 2000000 in
theorem qwhole_no {va : Value} {n : Int} {d k : Nat} {w : World} (ha : GQ w va n d k) (hk : k ≤ 100000) (h : Int.fmod n d ≠ 0) :
    Calls Tryd.prog 33 #[va] w fun e w' => ∃ v, e = .returned (.tuple #[v, .bool false]) ∧ CI w' v (0) (k + 3) ∧ Below w.heap.size w w' := by
  obtain ⟨ba, oa, la, ka, pa, ma, ca, rfl⟩ := ha.shape
  have hz : (sgnZ (Int.fmod n d) == 0) = false := by rw [beq_eq_false_iff_ne]; exact mt sgnZ_eq0.1 h
  clear h
  have hbt := Below.refl w.heap.size w
  go_enter Tryd.func33, Tryd.ntmps33
  go_wp2_with fail
  have hbx : Below w.heap.size w ((w.alloc (.cells #[.bool ba, .slice oa la ka, .slice pa ma ca] 27)).alloc (.cells #[.bool false, .slice none 0 0] 25)) := (((Below.refl _ _).alloc (by simp) _).alloc (by simp) _)
  replace ha := ha.below hbx
  replace hbt := hbt.trans (hbx.mono hbt.size)
  clear hbx
  have HB_xa : Hid (((w.alloc (.cells #[.bool ba, .slice oa la ka, .slice pa ma ca] 27)).alloc (.cells #[.bool false, .slice none 0 0] 25)).heap[w.heap.size]? = some (.cells #[.bool ba, .slice oa la ka, .slice pa ma ca] 27 (0, 0))) := Lib.hid (made_more (made_at w (.cells #[.bool ba, .slice oa la ka, .slice pa ma ca] 27) _ (by first | rfl | simp)) _)
  have HB_q : Hid (((w.alloc (.cells #[.bool ba, .slice oa la ka, .slice pa ma ca] 27)).alloc (.cells #[.bool false, .slice none 0 0] 25)).heap[w.heap.size + 1]? = some (.cells #[.bool false, .slice none 0 0] 25 (0, 0))) := Lib.hid (made_at (w.alloc (.cells #[.bool ba, .slice oa la ka, .slice pa ma ca] 27)) (.cells #[.bool false, .slice none 0 0] 25) _ (by first | rfl | simp))
  generalize ((w.alloc (.cells #[.bool ba, .slice oa la ka, .slice pa ma ca] 27)).alloc (.cells #[.bool false, .slice none 0 0] 25)) = wx1 at *
  have xa0 := cell_at (v := .bool ba) HB_xa.out 0 rfl
  have xa1 := cell_at (v := .slice oa la ka) HB_xa.out 1 rfl
  have xa2 := cell_at (v := .slice pa ma ca) HB_xa.out 2 rfl
  have q0 := cell_at (v := .bool false) HB_q.out 0 rfl
  have q1 := cell_at (v := .slice none 0 0) HB_q.out 1 rfl
  refine (divided_any ha hk).mono ?_
  rintro e wx2 ⟨v_x, v_y, rfl, c_x, c_y, hbx⟩
  replace ha := ha.below hbx
  replace hbt := hbt.trans (hbx.mono hbt.size)
  replace HB_xa := Lib.hid ((hbx.block _ (lt_of_block HB_xa.out)).trans HB_xa.out)
  replace HB_q := Lib.hid ((hbx.block _ (lt_of_block HB_q.out)).trans HB_q.out)
  clear hbx
  replace xa0 := cell_at (v := .bool ba) HB_xa.out 0 rfl
  replace xa1 := cell_at (v := .slice oa la ka) HB_xa.out 1 rfl
  replace xa2 := cell_at (v := .slice pa ma ca) HB_xa.out 2 rfl
  replace q0 := cell_at (v := .bool false) HB_q.out 0 rfl
  replace q1 := cell_at (v := .slice none 0 0) HB_q.out 1 rfl
  obtain ⟨b_x, o_x, l_x, k_x, rfl⟩ := c_x.shape
  obtain ⟨b_y, o_y, l_y, k_y, rfl⟩ := c_y.shape
  have hlt_xa := lt_of_block HB_xa.out
  have hlu1_xa : w.heap.size < wx2.heap.size + 1 := Nat.lt_of_lt_of_le hlt_xa (Nat.le_add_right _ _)
  have hlt_q := lt_of_block HB_q.out
  have hlu1_q : w.heap.size + 1 < wx2.heap.size + 1 := Nat.lt_of_lt_of_le hlt_q (Nat.le_add_right _ _)
  go_wp2_with fail
  have hla_xa_wx2 : w.heap.size < wx2.heap.size := hlt_xa
  have hla_q_wx2 : w.heap.size + 1 < wx2.heap.size := hlt_q
  clear hlt_xa hlt_q hlu1_xa hlu1_q
  have hbx : Below wx2.heap.size wx2 ((wx2.alloc (.cells #[.bool b_x, .slice o_x l_x k_x] 25)).alloc (.cells #[.bool b_y, .slice o_y l_y k_y] 25)) := (((Below.refl _ _).alloc (by simp) _).alloc (by simp) _)
  replace ha := ha.below hbx
  replace c_x := c_x.below hbx
  replace c_y := c_y.below hbx
  replace hbt := hbt.trans (hbx.mono hbt.size)
  replace HB_xa := Lib.hid ((hbx.block _ (lt_of_block HB_xa.out)).trans HB_xa.out)
  replace HB_q := Lib.hid ((hbx.block _ (lt_of_block HB_q.out)).trans HB_q.out)
  clear hbx
  replace xa0 := cell_at (v := .bool ba) HB_xa.out 0 rfl
  replace xa1 := cell_at (v := .slice oa la ka) HB_xa.out 1 rfl
  replace xa2 := cell_at (v := .slice pa ma ca) HB_xa.out 2 rfl
  replace q0 := cell_at (v := .bool false) HB_q.out 0 rfl
  replace q1 := cell_at (v := .slice none 0 0) HB_q.out 1 rfl
  have HB_x : Hid (((wx2.alloc (.cells #[.bool b_x, .slice o_x l_x k_x] 25)).alloc (.cells #[.bool b_y, .slice o_y l_y k_y] 25)).heap[wx2.heap.size]? = some (.cells #[.bool b_x, .slice o_x l_x k_x] 25 (0, 0))) := Lib.hid (made_more (made_at wx2 (.cells #[.bool b_x, .slice o_x l_x k_x] 25) _ (by first | rfl | simp)) _)
  have HB_y : Hid (((wx2.alloc (.cells #[.bool b_x, .slice o_x l_x k_x] 25)).alloc (.cells #[.bool b_y, .slice o_y l_y k_y] 25)).heap[wx2.heap.size + 1]? = some (.cells #[.bool b_y, .slice o_y l_y k_y] 25 (0, 0))) := Lib.hid (made_at (wx2.alloc (.cells #[.bool b_x, .slice o_x l_x k_x] 25)) (.cells #[.bool b_y, .slice o_y l_y k_y] 25) _ (by first | rfl | simp))
  generalize ((wx2.alloc (.cells #[.bool b_x, .slice o_x l_x k_x] 25)).alloc (.cells #[.bool b_y, .slice o_y l_y k_y] 25)) = wx3 at *
  have x0 := cell_at (v := .bool b_x) HB_x.out 0 rfl
  have x1 := cell_at (v := .slice o_x l_x k_x) HB_x.out 1 rfl
  have y0 := cell_at (v := .bool b_y) HB_y.out 0 rfl
  have y1 := cell_at (v := .slice o_y l_y k_y) HB_y.out 1 rfl
  refine (wsign_any _ (Int.fmod n d) (k + 1) _ c_y.gi (by omega)).mono ?_
  rintro e wx4 ⟨rfl, hbx⟩
  replace ha := ha.below hbx
  replace c_x := c_x.below hbx
  replace c_y := c_y.below hbx
  replace hbt := hbt.trans (hbx.mono hbt.size)
  replace HB_xa := Lib.hid ((hbx.block _ (lt_of_block HB_xa.out)).trans HB_xa.out)
  replace HB_q := Lib.hid ((hbx.block _ (lt_of_block HB_q.out)).trans HB_q.out)
  replace HB_x := Lib.hid ((hbx.block _ (lt_of_block HB_x.out)).trans HB_x.out)
  replace HB_y := Lib.hid ((hbx.block _ (lt_of_block HB_y.out)).trans HB_y.out)
  clear hbx
  replace xa0 := cell_at (v := .bool ba) HB_xa.out 0 rfl
  replace xa1 := cell_at (v := .slice oa la ka) HB_xa.out 1 rfl
  replace xa2 := cell_at (v := .slice pa ma ca) HB_xa.out 2 rfl
  replace q0 := cell_at (v := .bool false) HB_q.out 0 rfl
  replace q1 := cell_at (v := .slice none 0 0) HB_q.out 1 rfl
  replace x0 := cell_at (v := .bool b_x) HB_x.out 0 rfl
  replace x1 := cell_at (v := .slice o_x l_x k_x) HB_x.out 1 rfl
  replace y0 := cell_at (v := .bool b_y) HB_y.out 0 rfl
  replace y1 := cell_at (v := .slice o_y l_y k_y) HB_y.out 1 rfl
  have fz_q0 := froz_at HB_q.out 0
  have fz_q1 := froz_at HB_q.out 1
  have c_0 := ci_zero wx4 (k + 3)
  go_wp2_with fail
  exact bodyPost_ret (v := .tuple #[.agg #[.bool false, .slice none 0 0], .bool false]) (by simp [results, Tryd.results33, go_sem, q0, q1]) rfl ⟨_, rfl, c_0.keeps (priv2 HB_q.out (by rfl) (by rfl)).keeps, below_setg hbt (by omega) _ _⟩

end Go.Proofs.YtmindndmegiaaaaDoor
