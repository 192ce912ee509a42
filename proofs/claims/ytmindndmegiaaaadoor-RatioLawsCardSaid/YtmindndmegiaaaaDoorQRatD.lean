/-
  Contract of package ratio: Text. The helpers of the laws: Right, below, is, same.
-/
import Derived.Test.YtmindndmegiaaaaDoorQRatC
namespace Go.Proofs.YtmindndmegiaaaaDoor
open Go.RowKit
set_option maxRecDepth 100000

/-- A rational number's text. -/
def qText (q : Rat) : List UInt8 := if q.den = 1 then zText q.num else zText q.num ++ 47 :: Lib.decDigits q.den
theorem app_q (l m : List UInt8) : ((⟨l.toArray⟩ : ByteArray) ++ (⟨#[47]⟩ : ByteArray) ++ (⟨m.toArray⟩ : ByteArray)) = ⟨(l ++ 47 :: m).toArray⟩ := by
  apply ByteArray.ext
  simp [ByteArray.data_append]
theorem CQ.num {w : World} {b : Bool} {ao po : Option Addr} {l c m e : Nat} {q : Rat} {k : Nat} (h : CQ w (.agg #[.bool b, .slice ao l c, .slice po m e]) q k) : GI w (.agg #[.bool b, .slice ao l c]) q.num k := h.gq.num
theorem CQ.den {w : World} {b : Bool} {ao po : Option Addr} {l c m e : Nat} {q : Rat} {k : Nat} (h : CQ w (.agg #[.bool b, .slice ao l c, .slice po m e]) q k) : GN w (.slice po m e) q.den k := by
  obtain ⟨x, y, h1, h2, h3, h4⟩ := h.gq.parts
  split at h4
  · rename_i h0; subst h0
    obtain ⟨ao', l', c', po', m', e', hv, s1, s2, l1, l2⟩ := h
    injection hv with hv
    have e2 := congrArg (fun t : Array Value => t[2]?) hv
    injection e2 with e2; injection e2 with e2 e3 e4; subst e2; subst e3; subst e4
    exact gn_dig s2 l2
  · rw [h4]; exact h2
theorem zText_len {z : Int} {k : Nat} (h : z.natAbs < L32 ^ k) (hk : k ≤ 10000) : (zText z).length ≤ 100002 := by
  have := dec_len h hk
  unfold zText; split
  · rw [List.length_cons]; omega
  · omega
theorem text_n {va : Value} {n k : Nat} {w : World} (htab : Lib.TabIs Tryd.prog w "internal/strconv.uint64pow10" .u64 Lib.pow10Tab) (hx : GN w va n k) (hk : k ≤ 10000) :
    Calls Tryd.prog 37 #[va] w fun e w' => e = .returned (.string ⟨(Lib.decDigits n).toArray⟩) ∧ Below w.heap.size w w' := by
  obtain ⟨xs, hs, dx, rfl, lx⟩ := hx
  exact text_any va xs w htab hs dx (by omega)

set_option maxHeartbeats 2000000 in
theorem qtext_one {va : Value} {n : Int} {d k : Nat} {w : World} (htab : Lib.TabIs Tryd.prog w "internal/strconv.uint64pow10" .u64 Lib.pow10Tab) (ha : GQ w va n d k) (hk : k ≤ 1000) (h : (mkRat n d).den = 1) :
    Calls Tryd.prog 38 #[va] w fun e w' => e = .returned (.string ⟨(qText (mkRat n d)).toArray⟩) ∧ Below w.heap.size w w' := by
  obtain ⟨ba, oa, la, ka, pa, ma, ca, rfl⟩ := ha.shape
  have hdd := ha.pos
  have na := ha.num
  have HTB := Lib.hid htab
  clear htab
  have HT := Lib.hid (show qText (mkRat n d) = zText (mkRat n d).num by unfold qText; exact if_pos h)
  have H1 := Lib.hid (decide_eq_true h)
  clear h
  have hbt := Below.refl w.heap.size w
  go_enter Tryd.func38, Tryd.ntmps38
  go_wp2_with fail
  have hbx : Below w.heap.size w (w.alloc (.cells #[.bool ba, .slice oa la ka, .slice pa ma ca] 27)) := ((Below.refl _ _).alloc (by simp) _)
  replace ha := ha.below hbx
  replace na := na.below hbx
  replace hbt := hbt.trans (hbx.mono hbt.size)
  clear hbx
  have HB_xa : Hid ((w.alloc (.cells #[.bool ba, .slice oa la ka, .slice pa ma ca] 27)).heap[w.heap.size]? = some (.cells #[.bool ba, .slice oa la ka, .slice pa ma ca] 27 (0, 0))) := Lib.hid (made_at w (.cells #[.bool ba, .slice oa la ka, .slice pa ma ca] 27) _ (by first | rfl | simp))
  generalize (w.alloc (.cells #[.bool ba, .slice oa la ka, .slice pa ma ca] 27)) = wx1 at *
  have xa0 := cell_at (v := .bool ba) HB_xa.out 0 rfl
  have xa1 := cell_at (v := .slice oa la ka) HB_xa.out 1 rfl
  have xa2 := cell_at (v := .slice pa ma ca) HB_xa.out 2 rfl
  have hlt_xa := lt_of_block HB_xa.out
  have hszb := hbt.size
  refine Rely.region (by kernel_rfl) [[], [0], [], [2], [0, 1, 2, 3], [0, 1, 2, 3, 4]] [] [(5, 1000)] (fun q => [w.heap.size].getD q 0) 1 6 (by kernel_rfl) (by kernel_rfl) (fun q hq => by match q, hq with | 0, _ => exact hlt_xa) (fun q r hq hr hne => by match q, r, hq, hr, hne with | 0, 0, _, _, h => exact absurd rfl h) ?_
  refine Rely.Chain.det ?_ (by rfl) (fun T xs wr hA => ?_) ?_
  rotate_left 1
  · have e1 := hA.pre 1 (by kernel_rfl)
    simp only [List.getElem?_toArray, List.getElem?_cons_succ, List.getElem?_cons_zero] at e1
    clear hA
    refine ⟨(by rfl), ?_⟩
    go_simp <;> (try with_reducible rfl)
  refine Rely.Chain.det ?_ (by rfl) (fun T xs wr hA => ?_) ?_
  rotate_left 1
  · have e3 := hA.tm 0 3 (by rfl) (by rfl)
    have f3 : xs 0 = _ := hA.fa 0 (by rfl)
    (try simp (disch := first | rfl | decide) only [Rely.mask_in] at f3)
    rw [f3] at e3
    clear f3
    have hBq : wr.heap[w.heap.size]? = _ := (hA.od 0 (by decide) (fun k' hk' => by obtain rfl := Rely.own_one (i := 1000) (k := 5) (by rfl) k' hk'; exact Or.inr (by rfl))).trans HB_xa.out
    have q0 := cell_at (v := .bool ba) hBq 0 rfl
    have q1 := cell_at (v := .slice oa la ka) hBq 1 rfl
    have q2 := cell_at (v := .slice pa ma ca) hBq 2 rfl
    clear hBq
    clear hA
    refine ⟨(by rfl), ?_⟩
    go_simp <;> (try with_reducible rfl)
  refine Rely.Chain.det ?_ (by rfl) (fun T xs wr hA => ?_) ?_
  rotate_left 1
  · have e1 := hA.pre 1 (by kernel_rfl)
    simp only [List.getElem?_toArray, List.getElem?_cons_succ, List.getElem?_cons_zero] at e1
    have hBq : wr.heap[w.heap.size]? = _ := (hA.od 0 (by decide) (fun k' hk' => by obtain rfl := Rely.own_one (i := 1000) (k := 5) (by rfl) k' hk'; exact Or.inr (by rfl))).trans HB_xa.out
    have q0 := cell_at (v := .bool ba) hBq 0 rfl
    have q1 := cell_at (v := .slice oa la ka) hBq 1 rfl
    have q2 := cell_at (v := .slice pa ma ca) hBq 2 rfl
    clear hBq
    clear hA
    refine ⟨(by rfl), ?_⟩
    go_simp <;> (try with_reducible rfl)
  refine Rely.Chain.call (fun _ v w => GN w v d (k + 1)) (fun _ _ _ _ h hb => h.below hb) (fun _ _ _ _ _ h hp => h.keeps hp.keeps) (by rfl) (fun T xs wr hA => ?_) ?_
  · have e5 := hA.tm 2 5 (by rfl) (by rfl)
    have f5 : xs 2 = _ := hA.fa 2 (by rfl)
    (try simp (disch := first | rfl | decide) only [Rely.mask_in] at f5)
    rw [f5] at e5
    clear f5
    have hkp := undrewK hA.kp
    have hbt' := hbt.trans (undrew (hA.be w.heap.size hszb (fun q hq => by match q, hq with | 0, _ => exact (by show w.heap.size ≤ w.heap.size; omega))))
    have ha := ha.keeps hkp
    clear hA
    refine ⟨(by rfl), fun K hK => ?_⟩
    go_simp
    refine (divisor_any ha (by omega)).mono ?_
    rintro e wq ⟨v, rfl, c, hb⟩
    exact hK.out _ _ c hb
  refine Rely.Chain.call (fun _ v w => CQ w v (mkRat n d) (k + (k + 1) + 1)) (fun _ _ _ _ h hb => h.below hb) (fun _ _ _ _ _ h hp => h.keeps hp.keeps) (by rfl) (fun T xs wr hA => ?_) ?_
  · have e4 := hA.tm 1 4 (by rfl) (by rfl)
    have f4 : xs 1 = _ := hA.fa 1 (by rfl)
    (try simp (disch := first | rfl | decide) only [Rely.mask_in] at f4)
    rw [f4] at e4
    clear f4
    have e6 := hA.tm 3 6 (by rfl) (by rfl)
    have hkp := undrewK hA.kp
    have hbt' := hbt.trans (undrew (hA.be w.heap.size hszb (fun q hq => by match q, hq with | 0, _ => exact (by show w.heap.size ≤ w.heap.size; omega))))
    have na := na.keeps hkp
    have c_dv : GN wr (xs 3) d (k + 1) := hA.fa 3 (by rfl)
    clear hA
    refine ⟨(by rfl), fun K hK => ?_⟩
    go_simp
    refine (reduced_any na c_dv (by omega) (by omega) hdd).mono ?_
    rintro e wq ⟨v, rfl, c, hb⟩
    exact hK.out _ _ c hb
  refine Rely.Chain.storeOld 0 4 27 (by rfl) (by rfl) (by decide) (Rely.own_one (by rfl)) (fun T xs wr hA hB0 => ?_) ?_
  · have e1 := hA.pre 1 (by kernel_rfl)
    simp only [List.getElem?_toArray, List.getElem?_cons_succ, List.getElem?_cons_zero] at e1
    have hB : wr.heap[w.heap.size]? = _ := hB0.trans HB_xa.out
    clear hB0
    have e7 := hA.tm 4 7 (by rfl) (by rfl)
    have hc : CQ wr (xs 4) (mkRat n d) (k + (k + 1) + 1) := hA.fa 4 (by rfl)
    obtain ⟨b_h, o_h, l_h, k_h, p_h, m_h, u_h, hv⟩ := hc.shape
    clear hc
    rw [hv] at e7
    have z0 := cell_at hB 0 rfl
    have z1 := cell_at hB 1 rfl
    have z2 := cell_at hB 2 rfl
    have fz0 := froz_at hB 0
    have fz1 := froz_at hB 1
    have fz2 := froz_at hB 2
    clear hA
    refine ⟨(by rfl), fun K hK => ?_⟩
    go_simp
    exact hK.out _ _ hv (hset3 hB _ _ _) (priv3 hB (by rfl) (by rfl))
  refine Rely.Chain.done (fun xs wx2 hL => ?_)
  obtain ⟨⟨hbe, hbl, hkp0⟩, hf, hp, hn⟩ := hL
  have f0 : xs 0 = _ := hf 0 (by decide)
  (try simp (disch := first | rfl | decide) only [Rely.mask_in] at f0)
  have f1 : xs 1 = _ := hf 1 (by decide)
  (try simp (disch := first | rfl | decide) only [Rely.mask_in] at f1)
  have f2 : xs 2 = _ := hf 2 (by decide)
  (try simp (disch := first | rfl | decide) only [Rely.mask_in] at f2)
  have c_dv : GN wx2 (xs 3) d (k + 1) := hf 3 (by decide)
  have c_z : CQ wx2 (xs 4) (mkRat n d) (k + (k + 1) + 1) := hf 4 (by decide)
  obtain ⟨cc, hv, hB_xa⟩ := hf 5 (by decide)
  change xs 4 = _ at hv
  obtain ⟨b_z, o_z, l_z, k_z, p_z, m_z, u_z, hs_z⟩ := c_z.shape
  rw [hs_z] at hv
  injection hv with hv
  subst hv
  clear hf hp hn
  refine Rely.rest_done ?_
  rw [hs_z] at c_z
  simp only [Rely.fill, List.setIfInBounds_toArray, List.set_cons_zero, List.set_cons_succ, f0, f1, f2, hs_z]
  clear f0 f1 f2 hs_z
  generalize xs 3 = v_dv at c_dv ⊢
  clear xs
  obtain ⟨o_dv, l_dv, k_dv, rfl, -⟩ := c_dv.shape
  replace hkp0 := undrewK hkp0
  replace ha := ha.keeps hkp0
  replace na := na.keeps hkp0
  replace hbt := hbt.trans (undrew (hbe w.heap.size hszb (fun q hq => by match q, hq with | 0, _ => exact (by show w.heap.size ≤ w.heap.size; omega))))
  replace HB_xa := Lib.hid (show wx2.heap[w.heap.size]? = some (.cells #[.bool b_z, .slice o_z l_z k_z, .slice p_z m_z u_z] 27 (0, 0)) from hB_xa)
  clear hB_xa
  clear hkp0 hbe hbl hszb
  replace xa0 := cell_at (v := .bool b_z) HB_xa.out 0 rfl
  replace xa1 := cell_at (v := .slice o_z l_z k_z) HB_xa.out 1 rfl
  replace xa2 := cell_at (v := .slice p_z m_z u_z) HB_xa.out 2 rfl
  clear hlt_xa
  have hlz := zText_len c_z.num.lt (show k + (k + 1) + 1 ≤ 10000 by omega)
  have hld := dec_len c_z.den.lt (show k + (k + 1) + 1 ≤ 10000 by omega)
  have nz := c_z.num
  have dz := c_z.den
  go_wp2_with fail
  refine (isone_any dz (by omega)).mono ?_
  rintro e wi ⟨rfl, rfl⟩
  rw [H1.out]
  go_wp2_with fail
  refine (wtext_any _ _ (k + (k + 1) + 1) _ (tab_below HTB.out hbt) nz (by omega)).mono ?_
  rintro e wx3 ⟨rfl, hbx⟩
  replace ha := ha.below hbx
  replace na := na.below hbx
  replace c_dv := c_dv.below hbx
  replace c_z := c_z.below hbx
  replace nz := nz.below hbx
  replace dz := dz.below hbx
  replace hbt := hbt.trans (hbx.mono hbt.size)
  replace HB_xa := Lib.hid ((hbx.block _ (lt_of_block HB_xa.out)).trans HB_xa.out)
  clear hbx
  replace xa0 := cell_at (v := .bool b_z) HB_xa.out 0 rfl
  replace xa1 := cell_at (v := .slice o_z l_z k_z) HB_xa.out 1 rfl
  replace xa2 := cell_at (v := .slice p_z m_z u_z) HB_xa.out 2 rfl
  go_wp2_with fail
  go_ret
  exact ⟨by rw [HT.out]; rfl, hbt⟩

set_option maxHeartbeats 2000000 in
theorem qtext_more {va : Value} {n : Int} {d k : Nat} {w : World} (htab : Lib.TabIs Tryd.prog w "internal/strconv.uint64pow10" .u64 Lib.pow10Tab) (ha : GQ w va n d k) (hk : k ≤ 1000) (h : (mkRat n d).den ≠ 1) :
    Calls Tryd.prog 38 #[va] w fun e w' => e = .returned (.string ⟨(qText (mkRat n d)).toArray⟩) ∧ Below w.heap.size w w' := by
  obtain ⟨ba, oa, la, ka, pa, ma, ca, rfl⟩ := ha.shape
  have hdd := ha.pos
  have na := ha.num
  have HTB := Lib.hid htab
  clear htab
  have HT := Lib.hid (show qText (mkRat n d) = zText (mkRat n d).num ++ 47 :: Lib.decDigits (mkRat n d).den by unfold qText; exact if_neg h)
  have H1 := Lib.hid (decide_eq_false h)
  clear h
  have hbt := Below.refl w.heap.size w
  go_enter Tryd.func38, Tryd.ntmps38
  go_wp2_with fail
  have hbx : Below w.heap.size w (w.alloc (.cells #[.bool ba, .slice oa la ka, .slice pa ma ca] 27)) := ((Below.refl _ _).alloc (by simp) _)
  replace ha := ha.below hbx
  replace na := na.below hbx
  replace hbt := hbt.trans (hbx.mono hbt.size)
  clear hbx
  have HB_xa : Hid ((w.alloc (.cells #[.bool ba, .slice oa la ka, .slice pa ma ca] 27)).heap[w.heap.size]? = some (.cells #[.bool ba, .slice oa la ka, .slice pa ma ca] 27 (0, 0))) := Lib.hid (made_at w (.cells #[.bool ba, .slice oa la ka, .slice pa ma ca] 27) _ (by first | rfl | simp))
  generalize (w.alloc (.cells #[.bool ba, .slice oa la ka, .slice pa ma ca] 27)) = wx1 at *
  have xa0 := cell_at (v := .bool ba) HB_xa.out 0 rfl
  have xa1 := cell_at (v := .slice oa la ka) HB_xa.out 1 rfl
  have xa2 := cell_at (v := .slice pa ma ca) HB_xa.out 2 rfl
  have hlt_xa := lt_of_block HB_xa.out
  have hszb := hbt.size
  refine Rely.region (by kernel_rfl) [[], [0], [], [2], [0, 1, 2, 3], [0, 1, 2, 3, 4]] [] [(5, 1000)] (fun q => [w.heap.size].getD q 0) 1 6 (by kernel_rfl) (by kernel_rfl) (fun q hq => by match q, hq with | 0, _ => exact hlt_xa) (fun q r hq hr hne => by match q, r, hq, hr, hne with | 0, 0, _, _, h => exact absurd rfl h) ?_
  refine Rely.Chain.det ?_ (by rfl) (fun T xs wr hA => ?_) ?_
  rotate_left 1
  · have e1 := hA.pre 1 (by kernel_rfl)
    simp only [List.getElem?_toArray, List.getElem?_cons_succ, List.getElem?_cons_zero] at e1
    clear hA
    refine ⟨(by rfl), ?_⟩
    go_simp <;> (try with_reducible rfl)
  refine Rely.Chain.det ?_ (by rfl) (fun T xs wr hA => ?_) ?_
  rotate_left 1
  · have e3 := hA.tm 0 3 (by rfl) (by rfl)
    have f3 : xs 0 = _ := hA.fa 0 (by rfl)
    (try simp (disch := first | rfl | decide) only [Rely.mask_in] at f3)
    rw [f3] at e3
    clear f3
    have hBq : wr.heap[w.heap.size]? = _ := (hA.od 0 (by decide) (fun k' hk' => by obtain rfl := Rely.own_one (i := 1000) (k := 5) (by rfl) k' hk'; exact Or.inr (by rfl))).trans HB_xa.out
    have q0 := cell_at (v := .bool ba) hBq 0 rfl
    have q1 := cell_at (v := .slice oa la ka) hBq 1 rfl
    have q2 := cell_at (v := .slice pa ma ca) hBq 2 rfl
    clear hBq
    clear hA
    refine ⟨(by rfl), ?_⟩
    go_simp <;> (try with_reducible rfl)
  refine Rely.Chain.det ?_ (by rfl) (fun T xs wr hA => ?_) ?_
  rotate_left 1
  · have e1 := hA.pre 1 (by kernel_rfl)
    simp only [List.getElem?_toArray, List.getElem?_cons_succ, List.getElem?_cons_zero] at e1
    have hBq : wr.heap[w.heap.size]? = _ := (hA.od 0 (by decide) (fun k' hk' => by obtain rfl := Rely.own_one (i := 1000) (k := 5) (by rfl) k' hk'; exact Or.inr (by rfl))).trans HB_xa.out
    have q0 := cell_at (v := .bool ba) hBq 0 rfl
    have q1 := cell_at (v := .slice oa la ka) hBq 1 rfl
    have q2 := cell_at (v := .slice pa ma ca) hBq 2 rfl
    clear hBq
    clear hA
    refine ⟨(by rfl), ?_⟩
    go_simp <;> (try with_reducible rfl)
  refine Rely.Chain.call (fun _ v w => GN w v d (k + 1)) (fun _ _ _ _ h hb => h.below hb) (fun _ _ _ _ _ h hp => h.keeps hp.keeps) (by rfl) (fun T xs wr hA => ?_) ?_
  · have e5 := hA.tm 2 5 (by rfl) (by rfl)
    have f5 : xs 2 = _ := hA.fa 2 (by rfl)
    (try simp (disch := first | rfl | decide) only [Rely.mask_in] at f5)
    rw [f5] at e5
    clear f5
    have hkp := undrewK hA.kp
    have hbt' := hbt.trans (undrew (hA.be w.heap.size hszb (fun q hq => by match q, hq with | 0, _ => exact (by show w.heap.size ≤ w.heap.size; omega))))
    have ha := ha.keeps hkp
    clear hA
    refine ⟨(by rfl), fun K hK => ?_⟩
    go_simp
    refine (divisor_any ha (by omega)).mono ?_
    rintro e wq ⟨v, rfl, c, hb⟩
    exact hK.out _ _ c hb
  refine Rely.Chain.call (fun _ v w => CQ w v (mkRat n d) (k + (k + 1) + 1)) (fun _ _ _ _ h hb => h.below hb) (fun _ _ _ _ _ h hp => h.keeps hp.keeps) (by rfl) (fun T xs wr hA => ?_) ?_
  · have e4 := hA.tm 1 4 (by rfl) (by rfl)
    have f4 : xs 1 = _ := hA.fa 1 (by rfl)
    (try simp (disch := first | rfl | decide) only [Rely.mask_in] at f4)
    rw [f4] at e4
    clear f4
    have e6 := hA.tm 3 6 (by rfl) (by rfl)
    have hkp := undrewK hA.kp
    have hbt' := hbt.trans (undrew (hA.be w.heap.size hszb (fun q hq => by match q, hq with | 0, _ => exact (by show w.heap.size ≤ w.heap.size; omega))))
    have na := na.keeps hkp
    have c_dv : GN wr (xs 3) d (k + 1) := hA.fa 3 (by rfl)
    clear hA
    refine ⟨(by rfl), fun K hK => ?_⟩
    go_simp
    refine (reduced_any na c_dv (by omega) (by omega) hdd).mono ?_
    rintro e wq ⟨v, rfl, c, hb⟩
    exact hK.out _ _ c hb
  refine Rely.Chain.storeOld 0 4 27 (by rfl) (by rfl) (by decide) (Rely.own_one (by rfl)) (fun T xs wr hA hB0 => ?_) ?_
  · have e1 := hA.pre 1 (by kernel_rfl)
    simp only [List.getElem?_toArray, List.getElem?_cons_succ, List.getElem?_cons_zero] at e1
    have hB : wr.heap[w.heap.size]? = _ := hB0.trans HB_xa.out
    clear hB0
    have e7 := hA.tm 4 7 (by rfl) (by rfl)
    have hc : CQ wr (xs 4) (mkRat n d) (k + (k + 1) + 1) := hA.fa 4 (by rfl)
    obtain ⟨b_h, o_h, l_h, k_h, p_h, m_h, u_h, hv⟩ := hc.shape
    clear hc
    rw [hv] at e7
    have z0 := cell_at hB 0 rfl
    have z1 := cell_at hB 1 rfl
    have z2 := cell_at hB 2 rfl
    have fz0 := froz_at hB 0
    have fz1 := froz_at hB 1
    have fz2 := froz_at hB 2
    clear hA
    refine ⟨(by rfl), fun K hK => ?_⟩
    go_simp
    exact hK.out _ _ hv (hset3 hB _ _ _) (priv3 hB (by rfl) (by rfl))
  refine Rely.Chain.done (fun xs wx2 hL => ?_)
  obtain ⟨⟨hbe, hbl, hkp0⟩, hf, hp, hn⟩ := hL
  have f0 : xs 0 = _ := hf 0 (by decide)
  (try simp (disch := first | rfl | decide) only [Rely.mask_in] at f0)
  have f1 : xs 1 = _ := hf 1 (by decide)
  (try simp (disch := first | rfl | decide) only [Rely.mask_in] at f1)
  have f2 : xs 2 = _ := hf 2 (by decide)
  (try simp (disch := first | rfl | decide) only [Rely.mask_in] at f2)
  have c_dv : GN wx2 (xs 3) d (k + 1) := hf 3 (by decide)
  have c_z : CQ wx2 (xs 4) (mkRat n d) (k + (k + 1) + 1) := hf 4 (by decide)
  obtain ⟨cc, hv, hB_xa⟩ := hf 5 (by decide)
  change xs 4 = _ at hv
  obtain ⟨b_z, o_z, l_z, k_z, p_z, m_z, u_z, hs_z⟩ := c_z.shape
  rw [hs_z] at hv
  injection hv with hv
  subst hv
  clear hf hp hn
  refine Rely.rest_done ?_
  rw [hs_z] at c_z
  simp only [Rely.fill, List.setIfInBounds_toArray, List.set_cons_zero, List.set_cons_succ, f0, f1, f2, hs_z]
  clear f0 f1 f2 hs_z
  generalize xs 3 = v_dv at c_dv ⊢
  clear xs
  obtain ⟨o_dv, l_dv, k_dv, rfl, -⟩ := c_dv.shape
  replace hkp0 := undrewK hkp0
  replace ha := ha.keeps hkp0
  replace na := na.keeps hkp0
  replace hbt := hbt.trans (undrew (hbe w.heap.size hszb (fun q hq => by match q, hq with | 0, _ => exact (by show w.heap.size ≤ w.heap.size; omega))))
  replace HB_xa := Lib.hid (show wx2.heap[w.heap.size]? = some (.cells #[.bool b_z, .slice o_z l_z k_z, .slice p_z m_z u_z] 27 (0, 0)) from hB_xa)
  clear hB_xa
  clear hkp0 hbe hbl hszb
  replace xa0 := cell_at (v := .bool b_z) HB_xa.out 0 rfl
  replace xa1 := cell_at (v := .slice o_z l_z k_z) HB_xa.out 1 rfl
  replace xa2 := cell_at (v := .slice p_z m_z u_z) HB_xa.out 2 rfl
  clear hlt_xa
  have hlz := zText_len c_z.num.lt (show k + (k + 1) + 1 ≤ 10000 by omega)
  have hld := dec_len c_z.den.lt (show k + (k + 1) + 1 ≤ 10000 by omega)
  have nz := c_z.num
  have dz := c_z.den
  go_wp2_with fail
  refine (isone_any dz (by omega)).mono ?_
  rintro e wi ⟨rfl, rfl⟩
  rw [H1.out]
  go_wp2_with fail
  have hlt_xa := lt_of_block HB_xa.out
  refine Rely.region (by kernel_rfl) [[], [0], [0, 1], [0, 1, 2], [], [4], [0, 1, 2, 4, 5], [0, 1, 2, 3, 4, 5, 6], [0, 1, 2, 3, 4, 5, 6, 7]] [] [] (fun q => [].getD q 0) 0 9 (by kernel_rfl) (by kernel_rfl) (fun q h => absurd h (Nat.not_lt_zero q)) (fun q _ h => absurd h (Nat.not_lt_zero q)) ?_
  refine Rely.Chain.det ?_ (by rfl) (fun T xs wr hA => ?_) ?_
  rotate_left 1
  · have e1 := hA.pre 1 (by kernel_rfl)
    simp only [List.getElem?_toArray, List.getElem?_cons_succ, List.getElem?_cons_zero] at e1
    clear hA
    refine ⟨(by rfl), ?_⟩
    go_simp <;> (try with_reducible rfl)
  refine Rely.Chain.det ?_ (by rfl) (fun T xs wr hA => ?_) ?_
  rotate_left 1
  · have e14 := hA.tm 0 14 (by rfl) (by rfl)
    have f14 : xs 0 = _ := hA.fa 0 (by rfl)
    (try simp (disch := first | rfl | decide) only [Rely.mask_in] at f14)
    rw [f14] at e14
    clear f14
    have hBq : wr.heap[w.heap.size]? = _ := (hA.bl _ hlt_xa (fun q h => absurd h (Nat.not_lt_zero q))).trans HB_xa.out
    have q0 := cell_at (v := .bool b_z) hBq 0 rfl
    have q1 := cell_at (v := .slice o_z l_z k_z) hBq 1 rfl
    have q2 := cell_at (v := .slice p_z m_z u_z) hBq 2 rfl
    clear hBq
    clear hA
    refine ⟨(by rfl), ?_⟩
    go_simp <;> (try with_reducible rfl)
  refine Rely.Chain.call (fun _ v _ => v = .string ⟨(zText (mkRat n d).num).toArray⟩) (fun _ _ _ _ h _ => h) (fun _ _ _ _ _ h _ => h) (by rfl) (fun T xs wr hA => ?_) ?_
  · have e15 := hA.tm 1 15 (by rfl) (by rfl)
    have f15 : xs 1 = _ := hA.fa 1 (by rfl)
    (try simp (disch := first | rfl | decide) only [Rely.mask_in] at f15)
    rw [f15] at e15
    clear f15
    have hkp := undrewK hA.kp
    have hbw := undrew (hA.be _ (Nat.le_refl _) (fun q h => absurd h (Nat.not_lt_zero q)))
    have nz := nz.keeps hkp
    clear hA
    refine ⟨(by rfl), fun K hK => ?_⟩
    go_simp
    refine (wtext_any _ _ (k + (k + 1) + 1) _ (tab_below HTB.out (hbt.trans (hbw.mono hbt.size))) nz (by omega)).mono ?_
    rintro e wq ⟨rfl, hb⟩
    exact hK.out _ _ rfl hb
  refine Rely.Chain.det ?_ (by rfl) (fun T xs wr hA => ?_) ?_
  rotate_left 1
  · have e16 := hA.tm 2 16 (by rfl) (by rfl)
    have f16 : xs 2 = (.string ⟨(zText (mkRat n d).num).toArray⟩) := hA.fa 2 (by rfl)
    rw [f16] at e16
    clear f16
    clear hA
    refine ⟨(by rfl), ?_⟩
    go_simp
    rw [if_neg (by omega)]
  refine Rely.Chain.det ?_ (by rfl) (fun T xs wr hA => ?_) ?_
  rotate_left 1
  · have e1 := hA.pre 1 (by kernel_rfl)
    simp only [List.getElem?_toArray, List.getElem?_cons_succ, List.getElem?_cons_zero] at e1
    clear hA
    refine ⟨(by rfl), ?_⟩
    go_simp <;> (try with_reducible rfl)
  refine Rely.Chain.det ?_ (by rfl) (fun T xs wr hA => ?_) ?_
  rotate_left 1
  · have e18 := hA.tm 4 18 (by rfl) (by rfl)
    have f18 : xs 4 = _ := hA.fa 4 (by rfl)
    (try simp (disch := first | rfl | decide) only [Rely.mask_in] at f18)
    rw [f18] at e18
    clear f18
    have hBq : wr.heap[w.heap.size]? = _ := (hA.bl _ hlt_xa (fun q h => absurd h (Nat.not_lt_zero q))).trans HB_xa.out
    have q0 := cell_at (v := .bool b_z) hBq 0 rfl
    have q1 := cell_at (v := .slice o_z l_z k_z) hBq 1 rfl
    have q2 := cell_at (v := .slice p_z m_z u_z) hBq 2 rfl
    clear hBq
    clear hA
    refine ⟨(by rfl), ?_⟩
    go_simp <;> (try with_reducible rfl)
  refine Rely.Chain.call (fun _ v _ => v = .string ⟨(Lib.decDigits (mkRat n d).den).toArray⟩) (fun _ _ _ _ h _ => h) (fun _ _ _ _ _ h _ => h) (by rfl) (fun T xs wr hA => ?_) ?_
  · have e19 := hA.tm 5 19 (by rfl) (by rfl)
    have f19 : xs 5 = _ := hA.fa 5 (by rfl)
    (try simp (disch := first | rfl | decide) only [Rely.mask_in] at f19)
    rw [f19] at e19
    clear f19
    have hkp := undrewK hA.kp
    have hbw := undrew (hA.be _ (Nat.le_refl _) (fun q h => absurd h (Nat.not_lt_zero q)))
    have dz := dz.keeps hkp
    clear hA
    refine ⟨(by rfl), fun K hK => ?_⟩
    go_simp
    refine (text_n (tab_below HTB.out (hbt.trans (hbw.mono hbt.size))) dz (by omega)).mono ?_
    rintro e wq ⟨rfl, hb⟩
    exact hK.out _ _ rfl hb
  refine Rely.Chain.det ?_ (by rfl) (fun T xs wr hA => ?_) ?_
  rotate_left 1
  · have e17 := hA.tm 3 17 (by rfl) (by rfl)
    have f17 : xs 3 = _ := hA.fa 3 (by rfl)
    (try simp (disch := first | rfl | decide) only [Rely.mask_in] at f17)
    rw [f17] at e17
    clear f17
    have e20 := hA.tm 6 20 (by rfl) (by rfl)
    have f20 : xs 6 = (.string ⟨(Lib.decDigits (mkRat n d).den).toArray⟩) := hA.fa 6 (by rfl)
    rw [f20] at e20
    clear f20
    clear hA
    refine ⟨(by rfl), ?_⟩
    go_simp
    rw [if_neg (by simp; omega)]
  refine Rely.Chain.det ?_ (by rfl) (fun T xs wr hA => ?_) ?_
  rotate_left 1
  · have e21 := hA.tm 7 21 (by rfl) (by rfl)
    have f21 : xs 7 = _ := hA.fa 7 (by rfl)
    (try simp (disch := first | rfl | decide) only [Rely.mask_in] at f21)
    rw [f21] at e21
    clear f21
    clear hA
    refine ⟨(by rfl), ?_⟩
    go_simp <;> (try with_reducible rfl)
  refine Rely.Chain.done (fun xs wx3 hL => ?_)
  obtain ⟨⟨hbe, hbl, hkp0⟩, hf, hp, hn⟩ := hL
  have f0 : xs 0 = _ := hf 0 (by decide)
  (try simp (disch := first | rfl | decide) only [Rely.mask_in] at f0)
  have f1 : xs 1 = _ := hf 1 (by decide)
  (try simp (disch := first | rfl | decide) only [Rely.mask_in] at f1)
  have f2 : xs 2 = (.string ⟨(zText (mkRat n d).num).toArray⟩) := hf 2 (by decide)
  have f3 : xs 3 = _ := hf 3 (by decide)
  (try simp (disch := first | rfl | decide) only [Rely.mask_in] at f3)
  have f4 : xs 4 = _ := hf 4 (by decide)
  (try simp (disch := first | rfl | decide) only [Rely.mask_in] at f4)
  have f5 : xs 5 = _ := hf 5 (by decide)
  (try simp (disch := first | rfl | decide) only [Rely.mask_in] at f5)
  have f6 : xs 6 = (.string ⟨(Lib.decDigits (mkRat n d).den).toArray⟩) := hf 6 (by decide)
  have f7 : xs 7 = _ := hf 7 (by decide)
  (try simp (disch := first | rfl | decide) only [Rely.mask_in] at f7)
  have f8 : xs 8 = _ := hf 8 (by decide)
  (try simp (disch := first | rfl | decide) only [Rely.mask_in] at f8)
  clear hf hp hn
  refine Rely.rest_done ?_
  simp only [Rely.fill, List.setIfInBounds_toArray, List.set_cons_zero, List.set_cons_succ, f0, f1, f2, f3, f4, f5, f6, f7, f8]
  clear f0 f1 f2 f3 f4 f5 f6 f7 f8
  clear xs
  have hbx := undrew (hbe _ (Nat.le_refl _) (fun q h => absurd h (Nat.not_lt_zero q)))
  clear hbe hbl hkp0
  replace ha := ha.below hbx
  replace na := na.below hbx
  replace c_dv := c_dv.below hbx
  replace c_z := c_z.below hbx
  replace nz := nz.below hbx
  replace dz := dz.below hbx
  replace hbt := hbt.trans (hbx.mono hbt.size)
  replace HB_xa := Lib.hid ((hbx.block _ (lt_of_block HB_xa.out)).trans HB_xa.out)
  clear hbx
  replace xa0 := cell_at (v := .bool b_z) HB_xa.out 0 rfl
  replace xa1 := cell_at (v := .slice o_z l_z k_z) HB_xa.out 1 rfl
  replace xa2 := cell_at (v := .slice p_z m_z u_z) HB_xa.out 2 rfl
  clear hlt_xa
  go_wp2_with fail
  go_ret
  exact ⟨by rw [HT.out, ← app_q]; rfl, hbt⟩

theorem qtext_any {va : Value} {n : Int} {d k : Nat} {w : World} (htab : Lib.TabIs Tryd.prog w "internal/strconv.uint64pow10" .u64 Lib.pow10Tab) (ha : GQ w va n d k) (hk : k ≤ 1000) :
    Calls Tryd.prog 38 #[va] w fun e w' => e = .returned (.string ⟨(qText (mkRat n d)).toArray⟩) ∧ Below w.heap.size w w' := by
  by_cases h : (mkRat n d).den = 1
  · exact qtext_one htab ha hk h
  · exact qtext_more htab ha hk h

/-- A cell with a number. -/
def At1 (w : World) (a : Addr) (k : IntKind) (z : Int) : Prop := w.cell? a = some (.int k z)
theorem At1.keeps {w w' : World} {a : Addr} {k : IntKind} {z : Int} (h : At1 w a k z) (hk : Keeps w w') : At1 w' a k z := hk _ _ _ h
theorem At1.below {w w' : World} {a : Addr} {k : IntKind} {z : Int} (h : At1 w a k z) (hb : Below w.heap.size w w') : At1 w' a k z := h.keeps (Below.keeps hb)

set_option maxHeartbeats 2000000 in
theorem right_zero (b : Bool) (ao po : Option Addr) (l c m e k x d : Nat) (ad : Addr) (yd : Int) (w : World) (g1 : GN w (.slice ao l c) x k) (g2 : GN w (.slice po m e) d k) (hk : k ≤ 100000) (hg : Nat.gcd x d = 1) (hm : 1 ≤ m) (hml : m ≤ 100000) (hpo : po = some ad) (cd : At1 w (ad.add (m - 1)) .u32 yd) (hyd : (yd == 0) = false) (hb : b = false) (hl : l = 0) :
    Calls Tryd.prog 30 #[.agg #[.bool b, .slice ao l c, .slice po m e]] w fun e w' => e = .returned (.bool true) ∧ Below w.heap.size w w' := by
  subst hpo
  have HG := Lib.hid hg
  clear hg
  have HC := Lib.hid (show cmpN 1 1 = 0 from rfl)
  have hz : (((m : Nat) : Int) == 0) = false := by rw [beq_eq_false_iff_ne]; omega
  subst hb; subst hl
  have hbt := Below.refl w.heap.size w
  go_enter Tryd.func30, Tryd.ntmps30
  go_wp2_with fail
  have hbx : Below w.heap.size w (w.alloc (.cells #[.bool false, .slice ao 0 c, .slice (some ad) m e] 27)) := ((Below.refl _ _).alloc (by simp) _)
  replace g1 := g1.below hbx
  replace g2 := g2.below hbx
  replace cd := cd.below hbx
  replace hbt := hbt.trans (hbx.mono hbt.size)
  clear hbx
  have HB_xa : Hid ((w.alloc (.cells #[.bool false, .slice ao 0 c, .slice (some ad) m e] 27)).heap[w.heap.size]? = some (.cells #[.bool false, .slice ao 0 c, .slice (some ad) m e] 27 (0, 0))) := Lib.hid (made_at w (.cells #[.bool false, .slice ao 0 c, .slice (some ad) m e] 27) _ (by first | rfl | simp))
  generalize (w.alloc (.cells #[.bool false, .slice ao 0 c, .slice (some ad) m e] 27)) = wx1 at *
  have xa0 := cell_at (v := .bool false) HB_xa.out 0 rfl
  have xa1 := cell_at (v := .slice ao 0 c) HB_xa.out 1 rfl
  have xa2 := cell_at (v := .slice (some ad) m e) HB_xa.out 2 rfl
  have hlt_xa := lt_of_block HB_xa.out
  refine Rely.region (by kernel_rfl) [[], [0], [0, 1], [], [3], [0, 1, 2], [0, 1, 2, 3, 4, 5]] [] [] (fun q => [].getD q 0) 0 7 (by kernel_rfl) (by kernel_rfl) (fun q h => absurd h (Nat.not_lt_zero q)) (fun q _ h => absurd h (Nat.not_lt_zero q)) ?_
  refine Rely.Chain.det ?_ (by rfl) (fun T xs wr hA => ?_) ?_
  rotate_left 1
  · have e1 := hA.pre 1 (by kernel_rfl)
    simp only [List.getElem?_toArray, List.getElem?_cons_succ, List.getElem?_cons_zero] at e1
    clear hA
    refine ⟨(by rfl), ?_⟩
    go_simp <;> (try with_reducible rfl)
  refine Rely.Chain.det ?_ (by rfl) (fun T xs wr hA => ?_) ?_
  rotate_left 1
  · have e5 := hA.tm 0 5 (by rfl) (by rfl)
    have f5 : xs 0 = _ := hA.fa 0 (by rfl)
    (try simp (disch := first | rfl | decide) only [Rely.mask_in] at f5)
    rw [f5] at e5
    clear f5
    clear hA
    refine ⟨(by rfl), ?_⟩
    go_simp <;> (try with_reducible rfl)
  refine Rely.Chain.det ?_ (by rfl) (fun T xs wr hA => ?_) ?_
  rotate_left 1
  · have e6 := hA.tm 1 6 (by rfl) (by rfl)
    have f6 : xs 1 = _ := hA.fa 1 (by rfl)
    (try simp (disch := first | rfl | decide) only [Rely.mask_in] at f6)
    rw [f6] at e6
    clear f6
    have hBq : wr.heap[w.heap.size]? = _ := (hA.bl _ hlt_xa (fun q h => absurd h (Nat.not_lt_zero q))).trans HB_xa.out
    have q0 := cell_at (v := .bool false) hBq 0 rfl
    have q1 := cell_at (v := .slice ao 0 c) hBq 1 rfl
    have q2 := cell_at (v := .slice (some ad) m e) hBq 2 rfl
    clear hBq
    clear hA
    refine ⟨(by rfl), ?_⟩
    go_simp <;> (try with_reducible rfl)
  refine Rely.Chain.det ?_ (by rfl) (fun T xs wr hA => ?_) ?_
  rotate_left 1
  · have e1 := hA.pre 1 (by kernel_rfl)
    simp only [List.getElem?_toArray, List.getElem?_cons_succ, List.getElem?_cons_zero] at e1
    clear hA
    refine ⟨(by rfl), ?_⟩
    go_simp <;> (try with_reducible rfl)
  refine Rely.Chain.det ?_ (by rfl) (fun T xs wr hA => ?_) ?_
  rotate_left 1
  · have e8 := hA.tm 3 8 (by rfl) (by rfl)
    have f8 : xs 3 = _ := hA.fa 3 (by rfl)
    (try simp (disch := first | rfl | decide) only [Rely.mask_in] at f8)
    rw [f8] at e8
    clear f8
    have hBq : wr.heap[w.heap.size]? = _ := (hA.bl _ hlt_xa (fun q h => absurd h (Nat.not_lt_zero q))).trans HB_xa.out
    have q0 := cell_at (v := .bool false) hBq 0 rfl
    have q1 := cell_at (v := .slice ao 0 c) hBq 1 rfl
    have q2 := cell_at (v := .slice (some ad) m e) hBq 2 rfl
    clear hBq
    clear hA
    refine ⟨(by rfl), ?_⟩
    go_simp <;> (try with_reducible rfl)
  refine Rely.Chain.det ?_ (by rfl) (fun T xs wr hA => ?_) ?_
  rotate_left 1
  · have e7 := hA.tm 2 7 (by rfl) (by rfl)
    have f7 : xs 2 = _ := hA.fa 2 (by rfl)
    (try simp (disch := first | rfl | decide) only [Rely.mask_in] at f7)
    rw [f7] at e7
    clear f7
    clear hA
    refine ⟨(by rfl), ?_⟩
    go_simp <;> (try with_reducible rfl)
  refine Rely.Chain.det ?_ (by rfl) (fun T xs wr hA => ?_) ?_
  rotate_left 1
  · have e9 := hA.tm 4 9 (by rfl) (by rfl)
    have f9 : xs 4 = _ := hA.fa 4 (by rfl)
    (try simp (disch := first | rfl | decide) only [Rely.mask_in] at f9)
    rw [f9] at e9
    clear f9
    clear hA
    refine ⟨(by rfl), ?_⟩
    go_simp <;> (try with_reducible rfl)
  refine Rely.Chain.done (fun xs wx2 hL => ?_)
  obtain ⟨⟨hbe, hbl, hkp0⟩, hf, hp, hn⟩ := hL
  have f0 : xs 0 = _ := hf 0 (by decide)
  (try simp (disch := first | rfl | decide) only [Rely.mask_in] at f0)
  have f1 : xs 1 = _ := hf 1 (by decide)
  (try simp (disch := first | rfl | decide) only [Rely.mask_in] at f1)
  have f2 : xs 2 = _ := hf 2 (by decide)
  (try simp (disch := first | rfl | decide) only [Rely.mask_in] at f2)
  have f3 : xs 3 = _ := hf 3 (by decide)
  (try simp (disch := first | rfl | decide) only [Rely.mask_in] at f3)
  have f4 : xs 4 = _ := hf 4 (by decide)
  (try simp (disch := first | rfl | decide) only [Rely.mask_in] at f4)
  have f5 : xs 5 = _ := hf 5 (by decide)
  (try simp (disch := first | rfl | decide) only [Rely.mask_in] at f5)
  have f6 : xs 6 = _ := hf 6 (by decide)
  (try simp (disch := first | rfl | decide) only [Rely.mask_in] at f6)
  clear hf hp hn
  refine Rely.rest_done ?_
  simp only [Rely.fill, List.setIfInBounds_toArray, List.set_cons_zero, List.set_cons_succ, f0, f1, f2, f3, f4, f5, f6]
  clear f0 f1 f2 f3 f4 f5 f6
  clear xs
  have hbx := undrew (hbe _ (Nat.le_refl _) (fun q h => absurd h (Nat.not_lt_zero q)))
  clear hbe hbl hkp0
  replace g1 := g1.below hbx
  replace g2 := g2.below hbx
  replace cd := cd.below hbx
  replace hbt := hbt.trans (hbx.mono hbt.size)
  replace HB_xa := Lib.hid ((hbx.block _ (lt_of_block HB_xa.out)).trans HB_xa.out)
  clear hbx
  replace xa0 := cell_at (v := .bool false) HB_xa.out 0 rfl
  replace xa1 := cell_at (v := .slice ao 0 c) HB_xa.out 1 rfl
  replace xa2 := cell_at (v := .slice (some ad) m e) HB_xa.out 2 rfl
  clear hlt_xa
  have cd0 := cd
  unfold At1 at cd0
  go_wp2_with fail
  refine (gcd_d g1 g2 (by omega) (by omega)).mono ?_
  rintro e wx3 ⟨v_g, rfl, c_g, hbx⟩
  replace g1 := g1.below hbx
  replace g2 := g2.below hbx
  replace cd := cd.below hbx
  replace hbt := hbt.trans (hbx.mono hbt.size)
  replace HB_xa := Lib.hid ((hbx.block _ (lt_of_block HB_xa.out)).trans HB_xa.out)
  clear hbx
  replace xa0 := cell_at (v := .bool false) HB_xa.out 0 rfl
  replace xa1 := cell_at (v := .slice ao 0 c) HB_xa.out 1 rfl
  replace xa2 := cell_at (v := .slice (some ad) m e) HB_xa.out 2 rfl
  rw [HG.out] at c_g
  obtain ⟨o_g, k_g, rfl⟩ := sl_shape c_g
  replace c_g := gn_dig c_g (show 1 < L32 ^ 1 by decide)
  go_wp2_with fail
  refine (of_n 1 1 _ rfl (by decide)).mono ?_
  rintro e wx4 ⟨v_u, rfl, c_u, hbx⟩
  replace g1 := g1.below hbx
  replace g2 := g2.below hbx
  replace cd := cd.below hbx
  replace c_g := c_g.below hbx
  replace hbt := hbt.trans (hbx.mono hbt.size)
  replace HB_xa := Lib.hid ((hbx.block _ (lt_of_block HB_xa.out)).trans HB_xa.out)
  clear hbx
  replace xa0 := cell_at (v := .bool false) HB_xa.out 0 rfl
  replace xa1 := cell_at (v := .slice ao 0 c) HB_xa.out 1 rfl
  replace xa2 := cell_at (v := .slice (some ad) m e) HB_xa.out 2 rfl
  obtain ⟨o_u, l_u, k_u, rfl, -⟩ := c_u.shape
  go_wp2_with fail
  refine (cmp_n c_g c_u).mono ?_
  rintro e wx5 ⟨rfl, hbx⟩
  replace g1 := g1.below hbx
  replace g2 := g2.below hbx
  replace cd := cd.below hbx
  replace c_g := c_g.below hbx
  replace c_u := c_u.below hbx
  replace hbt := hbt.trans (hbx.mono hbt.size)
  replace HB_xa := Lib.hid ((hbx.block _ (lt_of_block HB_xa.out)).trans HB_xa.out)
  clear hbx
  replace xa0 := cell_at (v := .bool false) HB_xa.out 0 rfl
  replace xa1 := cell_at (v := .slice ao 0 c) HB_xa.out 1 rfl
  replace xa2 := cell_at (v := .slice (some ad) m e) HB_xa.out 2 rfl
  rw [HC.out]
  go_wp2_with fail
  go_ret
  exact ⟨rfl, hbt⟩

set_option maxHeartbeats 2000000 in
theorem right_more (b : Bool) (ao po : Option Addr) (l c m e k x d : Nat) (ad an : Addr) (yd yn : Int) (w : World) (g1 : GN w (.slice ao l c) x k) (g2 : GN w (.slice po m e) d k) (hk : k ≤ 100000) (hg : Nat.gcd x d = 1) (hm : 1 ≤ m) (hml : m ≤ 100000) (hpo : po = some ad) (cd : At1 w (ad.add (m - 1)) .u32 yd) (hyd : (yd == 0) = false) (hl : 1 ≤ l) (hll : l ≤ 100000) (hao : ao = some an) (cn : At1 w (an.add (l - 1)) .u32 yn) (hyn : (yn == 0) = false) :
    Calls Tryd.prog 30 #[.agg #[.bool b, .slice ao l c, .slice po m e]] w fun e w' => e = .returned (.bool true) ∧ Below w.heap.size w w' := by
  subst hpo
  have HG := Lib.hid hg
  clear hg
  have HC := Lib.hid (show cmpN 1 1 = 0 from rfl)
  have hz : (((m : Nat) : Int) == 0) = false := by rw [beq_eq_false_iff_ne]; omega
  subst hao
  have hz2 : (((l : Nat) : Int) == 0) = false := by rw [beq_eq_false_iff_ne]; omega
  cases b
  · have hbt := Below.refl w.heap.size w
    go_enter Tryd.func30, Tryd.ntmps30
    go_wp2_with fail
    have hbx : Below w.heap.size w (w.alloc (.cells #[.bool false, .slice (some an) l c, .slice (some ad) m e] 27)) := ((Below.refl _ _).alloc (by simp) _)
    replace g1 := g1.below hbx
    replace g2 := g2.below hbx
    replace cd := cd.below hbx
    replace cn := cn.below hbx
    replace hbt := hbt.trans (hbx.mono hbt.size)
    clear hbx
    have HB_xa : Hid ((w.alloc (.cells #[.bool false, .slice (some an) l c, .slice (some ad) m e] 27)).heap[w.heap.size]? = some (.cells #[.bool false, .slice (some an) l c, .slice (some ad) m e] 27 (0, 0))) := Lib.hid (made_at w (.cells #[.bool false, .slice (some an) l c, .slice (some ad) m e] 27) _ (by first | rfl | simp))
    generalize (w.alloc (.cells #[.bool false, .slice (some an) l c, .slice (some ad) m e] 27)) = wx1 at *
    have xa0 := cell_at (v := .bool false) HB_xa.out 0 rfl
    have xa1 := cell_at (v := .slice (some an) l c) HB_xa.out 1 rfl
    have xa2 := cell_at (v := .slice (some ad) m e) HB_xa.out 2 rfl
    have hlt_xa := lt_of_block HB_xa.out
    refine Rely.region (by kernel_rfl) [[], [0], [0, 1], [], [3], [0, 1, 2], [0, 1, 2, 3, 4, 5]] [] [] (fun q => [].getD q 0) 0 7 (by kernel_rfl) (by kernel_rfl) (fun q h => absurd h (Nat.not_lt_zero q)) (fun q _ h => absurd h (Nat.not_lt_zero q)) ?_
    refine Rely.Chain.det ?_ (by rfl) (fun T xs wr hA => ?_) ?_
    rotate_left 1
    · have e1 := hA.pre 1 (by kernel_rfl)
      simp only [List.getElem?_toArray, List.getElem?_cons_succ, List.getElem?_cons_zero] at e1
      clear hA
      refine ⟨(by rfl), ?_⟩
      go_simp <;> (try with_reducible rfl)
    refine Rely.Chain.det ?_ (by rfl) (fun T xs wr hA => ?_) ?_
    rotate_left 1
    · have e5 := hA.tm 0 5 (by rfl) (by rfl)
      have f5 : xs 0 = _ := hA.fa 0 (by rfl)
      (try simp (disch := first | rfl | decide) only [Rely.mask_in] at f5)
      rw [f5] at e5
      clear f5
      clear hA
      refine ⟨(by rfl), ?_⟩
      go_simp <;> (try with_reducible rfl)
    refine Rely.Chain.det ?_ (by rfl) (fun T xs wr hA => ?_) ?_
    rotate_left 1
    · have e6 := hA.tm 1 6 (by rfl) (by rfl)
      have f6 : xs 1 = _ := hA.fa 1 (by rfl)
      (try simp (disch := first | rfl | decide) only [Rely.mask_in] at f6)
      rw [f6] at e6
      clear f6
      have hBq : wr.heap[w.heap.size]? = _ := (hA.bl _ hlt_xa (fun q h => absurd h (Nat.not_lt_zero q))).trans HB_xa.out
      have q0 := cell_at (v := .bool false) hBq 0 rfl
      have q1 := cell_at (v := .slice (some an) l c) hBq 1 rfl
      have q2 := cell_at (v := .slice (some ad) m e) hBq 2 rfl
      clear hBq
      clear hA
      refine ⟨(by rfl), ?_⟩
      go_simp <;> (try with_reducible rfl)
    refine Rely.Chain.det ?_ (by rfl) (fun T xs wr hA => ?_) ?_
    rotate_left 1
    · have e1 := hA.pre 1 (by kernel_rfl)
      simp only [List.getElem?_toArray, List.getElem?_cons_succ, List.getElem?_cons_zero] at e1
      clear hA
      refine ⟨(by rfl), ?_⟩
      go_simp <;> (try with_reducible rfl)
    refine Rely.Chain.det ?_ (by rfl) (fun T xs wr hA => ?_) ?_
    rotate_left 1
    · have e8 := hA.tm 3 8 (by rfl) (by rfl)
      have f8 : xs 3 = _ := hA.fa 3 (by rfl)
      (try simp (disch := first | rfl | decide) only [Rely.mask_in] at f8)
      rw [f8] at e8
      clear f8
      have hBq : wr.heap[w.heap.size]? = _ := (hA.bl _ hlt_xa (fun q h => absurd h (Nat.not_lt_zero q))).trans HB_xa.out
      have q0 := cell_at (v := .bool false) hBq 0 rfl
      have q1 := cell_at (v := .slice (some an) l c) hBq 1 rfl
      have q2 := cell_at (v := .slice (some ad) m e) hBq 2 rfl
      clear hBq
      clear hA
      refine ⟨(by rfl), ?_⟩
      go_simp <;> (try with_reducible rfl)
    refine Rely.Chain.det ?_ (by rfl) (fun T xs wr hA => ?_) ?_
    rotate_left 1
    · have e7 := hA.tm 2 7 (by rfl) (by rfl)
      have f7 : xs 2 = _ := hA.fa 2 (by rfl)
      (try simp (disch := first | rfl | decide) only [Rely.mask_in] at f7)
      rw [f7] at e7
      clear f7
      clear hA
      refine ⟨(by rfl), ?_⟩
      go_simp <;> (try with_reducible rfl)
    refine Rely.Chain.det ?_ (by rfl) (fun T xs wr hA => ?_) ?_
    rotate_left 1
    · have e9 := hA.tm 4 9 (by rfl) (by rfl)
      have f9 : xs 4 = _ := hA.fa 4 (by rfl)
      (try simp (disch := first | rfl | decide) only [Rely.mask_in] at f9)
      rw [f9] at e9
      clear f9
      clear hA
      refine ⟨(by rfl), ?_⟩
      go_simp <;> (try with_reducible rfl)
    refine Rely.Chain.done (fun xs wx2 hL => ?_)
    obtain ⟨⟨hbe, hbl, hkp0⟩, hf, hp, hn⟩ := hL
    have f0 : xs 0 = _ := hf 0 (by decide)
    (try simp (disch := first | rfl | decide) only [Rely.mask_in] at f0)
    have f1 : xs 1 = _ := hf 1 (by decide)
    (try simp (disch := first | rfl | decide) only [Rely.mask_in] at f1)
    have f2 : xs 2 = _ := hf 2 (by decide)
    (try simp (disch := first | rfl | decide) only [Rely.mask_in] at f2)
    have f3 : xs 3 = _ := hf 3 (by decide)
    (try simp (disch := first | rfl | decide) only [Rely.mask_in] at f3)
    have f4 : xs 4 = _ := hf 4 (by decide)
    (try simp (disch := first | rfl | decide) only [Rely.mask_in] at f4)
    have f5 : xs 5 = _ := hf 5 (by decide)
    (try simp (disch := first | rfl | decide) only [Rely.mask_in] at f5)
    have f6 : xs 6 = _ := hf 6 (by decide)
    (try simp (disch := first | rfl | decide) only [Rely.mask_in] at f6)
    clear hf hp hn
    refine Rely.rest_done ?_
    simp only [Rely.fill, List.setIfInBounds_toArray, List.set_cons_zero, List.set_cons_succ, f0, f1, f2, f3, f4, f5, f6]
    clear f0 f1 f2 f3 f4 f5 f6
    clear xs
    have hbx := undrew (hbe _ (Nat.le_refl _) (fun q h => absurd h (Nat.not_lt_zero q)))
    clear hbe hbl hkp0
    replace g1 := g1.below hbx
    replace g2 := g2.below hbx
    replace cd := cd.below hbx
    replace cn := cn.below hbx
    replace hbt := hbt.trans (hbx.mono hbt.size)
    replace HB_xa := Lib.hid ((hbx.block _ (lt_of_block HB_xa.out)).trans HB_xa.out)
    clear hbx
    replace xa0 := cell_at (v := .bool false) HB_xa.out 0 rfl
    replace xa1 := cell_at (v := .slice (some an) l c) HB_xa.out 1 rfl
    replace xa2 := cell_at (v := .slice (some ad) m e) HB_xa.out 2 rfl
    clear hlt_xa
    have cd0 := cd
    unfold At1 at cd0
    have cn0 := cn
    unfold At1 at cn0
    go_wp2_with fail
    refine (gcd_d g1 g2 (by omega) (by omega)).mono ?_
    rintro e wx3 ⟨v_g, rfl, c_g, hbx⟩
    replace g1 := g1.below hbx
    replace g2 := g2.below hbx
    replace cd := cd.below hbx
    replace cn := cn.below hbx
    replace hbt := hbt.trans (hbx.mono hbt.size)
    replace HB_xa := Lib.hid ((hbx.block _ (lt_of_block HB_xa.out)).trans HB_xa.out)
    clear hbx
    replace xa0 := cell_at (v := .bool false) HB_xa.out 0 rfl
    replace xa1 := cell_at (v := .slice (some an) l c) HB_xa.out 1 rfl
    replace xa2 := cell_at (v := .slice (some ad) m e) HB_xa.out 2 rfl
    rw [HG.out] at c_g
    obtain ⟨o_g, k_g, rfl⟩ := sl_shape c_g
    replace c_g := gn_dig c_g (show 1 < L32 ^ 1 by decide)
    go_wp2_with fail
    refine (of_n 1 1 _ rfl (by decide)).mono ?_
    rintro e wx4 ⟨v_u, rfl, c_u, hbx⟩
    replace g1 := g1.below hbx
    replace g2 := g2.below hbx
    replace cd := cd.below hbx
    replace cn := cn.below hbx
    replace c_g := c_g.below hbx
    replace hbt := hbt.trans (hbx.mono hbt.size)
    replace HB_xa := Lib.hid ((hbx.block _ (lt_of_block HB_xa.out)).trans HB_xa.out)
    clear hbx
    replace xa0 := cell_at (v := .bool false) HB_xa.out 0 rfl
    replace xa1 := cell_at (v := .slice (some an) l c) HB_xa.out 1 rfl
    replace xa2 := cell_at (v := .slice (some ad) m e) HB_xa.out 2 rfl
    obtain ⟨o_u, l_u, k_u, rfl, -⟩ := c_u.shape
    go_wp2_with fail
    refine (cmp_n c_g c_u).mono ?_
    rintro e wx5 ⟨rfl, hbx⟩
    replace g1 := g1.below hbx
    replace g2 := g2.below hbx
    replace cd := cd.below hbx
    replace cn := cn.below hbx
    replace c_g := c_g.below hbx
    replace c_u := c_u.below hbx
    replace hbt := hbt.trans (hbx.mono hbt.size)
    replace HB_xa := Lib.hid ((hbx.block _ (lt_of_block HB_xa.out)).trans HB_xa.out)
    clear hbx
    replace xa0 := cell_at (v := .bool false) HB_xa.out 0 rfl
    replace xa1 := cell_at (v := .slice (some an) l c) HB_xa.out 1 rfl
    replace xa2 := cell_at (v := .slice (some ad) m e) HB_xa.out 2 rfl
    rw [HC.out]
    go_wp2_with fail
    go_ret
    exact ⟨rfl, hbt⟩
  · have hbt := Below.refl w.heap.size w
    go_enter Tryd.func30, Tryd.ntmps30
    go_wp2_with fail
    have hbx : Below w.heap.size w (w.alloc (.cells #[.bool true, .slice (some an) l c, .slice (some ad) m e] 27)) := ((Below.refl _ _).alloc (by simp) _)
    replace g1 := g1.below hbx
    replace g2 := g2.below hbx
    replace cd := cd.below hbx
    replace cn := cn.below hbx
    replace hbt := hbt.trans (hbx.mono hbt.size)
    clear hbx
    have HB_xa : Hid ((w.alloc (.cells #[.bool true, .slice (some an) l c, .slice (some ad) m e] 27)).heap[w.heap.size]? = some (.cells #[.bool true, .slice (some an) l c, .slice (some ad) m e] 27 (0, 0))) := Lib.hid (made_at w (.cells #[.bool true, .slice (some an) l c, .slice (some ad) m e] 27) _ (by first | rfl | simp))
    generalize (w.alloc (.cells #[.bool true, .slice (some an) l c, .slice (some ad) m e] 27)) = wx1 at *
    have xa0 := cell_at (v := .bool true) HB_xa.out 0 rfl
    have xa1 := cell_at (v := .slice (some an) l c) HB_xa.out 1 rfl
    have xa2 := cell_at (v := .slice (some ad) m e) HB_xa.out 2 rfl
    have hlt_xa := lt_of_block HB_xa.out
    refine Rely.region (by kernel_rfl) [[], [0], [0, 1], [], [3], [0, 1, 2], [0, 1, 2, 3, 4, 5]] [] [] (fun q => [].getD q 0) 0 7 (by kernel_rfl) (by kernel_rfl) (fun q h => absurd h (Nat.not_lt_zero q)) (fun q _ h => absurd h (Nat.not_lt_zero q)) ?_
    refine Rely.Chain.det ?_ (by rfl) (fun T xs wr hA => ?_) ?_
    rotate_left 1
    · have e1 := hA.pre 1 (by kernel_rfl)
      simp only [List.getElem?_toArray, List.getElem?_cons_succ, List.getElem?_cons_zero] at e1
      clear hA
      refine ⟨(by rfl), ?_⟩
      go_simp <;> (try with_reducible rfl)
    refine Rely.Chain.det ?_ (by rfl) (fun T xs wr hA => ?_) ?_
    rotate_left 1
    · have e5 := hA.tm 0 5 (by rfl) (by rfl)
      have f5 : xs 0 = _ := hA.fa 0 (by rfl)
      (try simp (disch := first | rfl | decide) only [Rely.mask_in] at f5)
      rw [f5] at e5
      clear f5
      clear hA
      refine ⟨(by rfl), ?_⟩
      go_simp <;> (try with_reducible rfl)
    refine Rely.Chain.det ?_ (by rfl) (fun T xs wr hA => ?_) ?_
    rotate_left 1
    · have e6 := hA.tm 1 6 (by rfl) (by rfl)
      have f6 : xs 1 = _ := hA.fa 1 (by rfl)
      (try simp (disch := first | rfl | decide) only [Rely.mask_in] at f6)
      rw [f6] at e6
      clear f6
      have hBq : wr.heap[w.heap.size]? = _ := (hA.bl _ hlt_xa (fun q h => absurd h (Nat.not_lt_zero q))).trans HB_xa.out
      have q0 := cell_at (v := .bool true) hBq 0 rfl
      have q1 := cell_at (v := .slice (some an) l c) hBq 1 rfl
      have q2 := cell_at (v := .slice (some ad) m e) hBq 2 rfl
      clear hBq
      clear hA
      refine ⟨(by rfl), ?_⟩
      go_simp <;> (try with_reducible rfl)
    refine Rely.Chain.det ?_ (by rfl) (fun T xs wr hA => ?_) ?_
    rotate_left 1
    · have e1 := hA.pre 1 (by kernel_rfl)
      simp only [List.getElem?_toArray, List.getElem?_cons_succ, List.getElem?_cons_zero] at e1
      clear hA
      refine ⟨(by rfl), ?_⟩
      go_simp <;> (try with_reducible rfl)
    refine Rely.Chain.det ?_ (by rfl) (fun T xs wr hA => ?_) ?_
    rotate_left 1
    · have e8 := hA.tm 3 8 (by rfl) (by rfl)
      have f8 : xs 3 = _ := hA.fa 3 (by rfl)
      (try simp (disch := first | rfl | decide) only [Rely.mask_in] at f8)
      rw [f8] at e8
      clear f8
      have hBq : wr.heap[w.heap.size]? = _ := (hA.bl _ hlt_xa (fun q h => absurd h (Nat.not_lt_zero q))).trans HB_xa.out
      have q0 := cell_at (v := .bool true) hBq 0 rfl
      have q1 := cell_at (v := .slice (some an) l c) hBq 1 rfl
      have q2 := cell_at (v := .slice (some ad) m e) hBq 2 rfl
      clear hBq
      clear hA
      refine ⟨(by rfl), ?_⟩
      go_simp <;> (try with_reducible rfl)
    refine Rely.Chain.det ?_ (by rfl) (fun T xs wr hA => ?_) ?_
    rotate_left 1
    · have e7 := hA.tm 2 7 (by rfl) (by rfl)
      have f7 : xs 2 = _ := hA.fa 2 (by rfl)
      (try simp (disch := first | rfl | decide) only [Rely.mask_in] at f7)
      rw [f7] at e7
      clear f7
      clear hA
      refine ⟨(by rfl), ?_⟩
      go_simp <;> (try with_reducible rfl)
    refine Rely.Chain.det ?_ (by rfl) (fun T xs wr hA => ?_) ?_
    rotate_left 1
    · have e9 := hA.tm 4 9 (by rfl) (by rfl)
      have f9 : xs 4 = _ := hA.fa 4 (by rfl)
      (try simp (disch := first | rfl | decide) only [Rely.mask_in] at f9)
      rw [f9] at e9
      clear f9
      clear hA
      refine ⟨(by rfl), ?_⟩
      go_simp <;> (try with_reducible rfl)
    refine Rely.Chain.done (fun xs wx2 hL => ?_)
    obtain ⟨⟨hbe, hbl, hkp0⟩, hf, hp, hn⟩ := hL
    have f0 : xs 0 = _ := hf 0 (by decide)
    (try simp (disch := first | rfl | decide) only [Rely.mask_in] at f0)
    have f1 : xs 1 = _ := hf 1 (by decide)
    (try simp (disch := first | rfl | decide) only [Rely.mask_in] at f1)
    have f2 : xs 2 = _ := hf 2 (by decide)
    (try simp (disch := first | rfl | decide) only [Rely.mask_in] at f2)
    have f3 : xs 3 = _ := hf 3 (by decide)
    (try simp (disch := first | rfl | decide) only [Rely.mask_in] at f3)
    have f4 : xs 4 = _ := hf 4 (by decide)
    (try simp (disch := first | rfl | decide) only [Rely.mask_in] at f4)
    have f5 : xs 5 = _ := hf 5 (by decide)
    (try simp (disch := first | rfl | decide) only [Rely.mask_in] at f5)
    have f6 : xs 6 = _ := hf 6 (by decide)
    (try simp (disch := first | rfl | decide) only [Rely.mask_in] at f6)
    clear hf hp hn
    refine Rely.rest_done ?_
    simp only [Rely.fill, List.setIfInBounds_toArray, List.set_cons_zero, List.set_cons_succ, f0, f1, f2, f3, f4, f5, f6]
    clear f0 f1 f2 f3 f4 f5 f6
    clear xs
    have hbx := undrew (hbe _ (Nat.le_refl _) (fun q h => absurd h (Nat.not_lt_zero q)))
    clear hbe hbl hkp0
    replace g1 := g1.below hbx
    replace g2 := g2.below hbx
    replace cd := cd.below hbx
    replace cn := cn.below hbx
    replace hbt := hbt.trans (hbx.mono hbt.size)
    replace HB_xa := Lib.hid ((hbx.block _ (lt_of_block HB_xa.out)).trans HB_xa.out)
    clear hbx
    replace xa0 := cell_at (v := .bool true) HB_xa.out 0 rfl
    replace xa1 := cell_at (v := .slice (some an) l c) HB_xa.out 1 rfl
    replace xa2 := cell_at (v := .slice (some ad) m e) HB_xa.out 2 rfl
    clear hlt_xa
    have cd0 := cd
    unfold At1 at cd0
    have cn0 := cn
    unfold At1 at cn0
    go_wp2_with fail
    refine (gcd_d g1 g2 (by omega) (by omega)).mono ?_
    rintro e wx3 ⟨v_g, rfl, c_g, hbx⟩
    replace g1 := g1.below hbx
    replace g2 := g2.below hbx
    replace cd := cd.below hbx
    replace cn := cn.below hbx
    replace hbt := hbt.trans (hbx.mono hbt.size)
    replace HB_xa := Lib.hid ((hbx.block _ (lt_of_block HB_xa.out)).trans HB_xa.out)
    clear hbx
    replace xa0 := cell_at (v := .bool true) HB_xa.out 0 rfl
    replace xa1 := cell_at (v := .slice (some an) l c) HB_xa.out 1 rfl
    replace xa2 := cell_at (v := .slice (some ad) m e) HB_xa.out 2 rfl
    rw [HG.out] at c_g
    obtain ⟨o_g, k_g, rfl⟩ := sl_shape c_g
    replace c_g := gn_dig c_g (show 1 < L32 ^ 1 by decide)
    go_wp2_with fail
    refine (of_n 1 1 _ rfl (by decide)).mono ?_
    rintro e wx4 ⟨v_u, rfl, c_u, hbx⟩
    replace g1 := g1.below hbx
    replace g2 := g2.below hbx
    replace cd := cd.below hbx
    replace cn := cn.below hbx
    replace c_g := c_g.below hbx
    replace hbt := hbt.trans (hbx.mono hbt.size)
    replace HB_xa := Lib.hid ((hbx.block _ (lt_of_block HB_xa.out)).trans HB_xa.out)
    clear hbx
    replace xa0 := cell_at (v := .bool true) HB_xa.out 0 rfl
    replace xa1 := cell_at (v := .slice (some an) l c) HB_xa.out 1 rfl
    replace xa2 := cell_at (v := .slice (some ad) m e) HB_xa.out 2 rfl
    obtain ⟨o_u, l_u, k_u, rfl, -⟩ := c_u.shape
    go_wp2_with fail
    refine (cmp_n c_g c_u).mono ?_
    rintro e wx5 ⟨rfl, hbx⟩
    replace g1 := g1.below hbx
    replace g2 := g2.below hbx
    replace cd := cd.below hbx
    replace cn := cn.below hbx
    replace c_g := c_g.below hbx
    replace c_u := c_u.below hbx
    replace hbt := hbt.trans (hbx.mono hbt.size)
    replace HB_xa := Lib.hid ((hbx.block _ (lt_of_block HB_xa.out)).trans HB_xa.out)
    clear hbx
    replace xa0 := cell_at (v := .bool true) HB_xa.out 0 rfl
    replace xa1 := cell_at (v := .slice (some an) l c) HB_xa.out 1 rfl
    replace xa2 := cell_at (v := .slice (some ad) m e) HB_xa.out 2 rfl
    rw [HC.out]
    go_wp2_with fail
    go_ret
    exact ⟨rfl, hbt⟩

end Go.Proofs.YtmindndmegiaaaaDoor
