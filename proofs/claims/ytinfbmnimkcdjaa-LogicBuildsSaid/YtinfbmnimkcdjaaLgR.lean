/-
  The anchor of the laws of layer 10.
-/
import Derived.Test.YtinfbmnimkcdjaaLgQ
namespace Go.Proofs.Ytinfbmnimkcdjaa
open Go.RowKit
set_option maxRecDepth 100000
set_option linter.unusedVariables false
set_option linter.unusedSimpArgs false

attribute [local go_sem] fieldV0 fieldV1 fieldV2 fieldV3

theorem EL.one {w : World} {g : Nat} {nm : ByteArray} {k : Int} {b d : Bool} {o p : Option Addr} {l c m q : Nat} {x : V} (hB : w.heap[g]? = some (.cells #[.string nm, .int .i64 k, .bool b, .slice o l c, .bool d, .slice p m q] 61 (0, 0))) (hv : VC w (.agg #[.int .i64 k, .bool b, .slice o l c, .bool d, .slice p m q]) x) : EL w (.slice (some ⟨g, 0, none⟩) 1 1) [(nm, x)] := by
  obtain ⟨u, _, _, _, _, _, _, _, _, _, e, hu, hx, hR⟩ := hv.unit
  injection e with e
  have e2 := congrArg Array.toList e
  refine ⟨[⟨nm, u⟩], El.At.block (E := bE) (el := [⟨nm, u⟩]) ?_ (show 1 ≤ maxLen by decide) (fun a ha => by rw [List.mem_singleton] at ha; subst ha; exact hR), by unfold envOf; simp [hx]⟩
  rw [hB]
  have : bE.f ⟨nm, u⟩ = .string nm :: vC u := rfl
  simp only [List.flatMap_cons, List.flatMap_nil, List.append_nil, this, hu]
  simp only [List.cons.injEq] at e2
  obtain ⟨h1, h2, h3, h4, h5, -⟩ := e2
  rw [h1, h2, h3, h4, h5]; rfl
/-- x + 1 <= 3. -/
def FX : F := .node 15 0 ⟨#[]⟩ [.node 2 0 ⟨#[]⟩ [.node 1 0 ⟨#[120]⟩ [], .node 0 1 ⟨#[]⟩ []], .node 0 3 ⟨#[]⟩ []]
theorem rtFX : rt FX = true := by decide
theorem szFX : szF FX = 5 := by decide
theorem evFX (r : ByteArray → V) : ev r FX = .B (decide (asI (r ⟨#[120]⟩) + 1 ≤ 3)) := by
  simp only [FX, ev, evs, opV, at0, at1]; rfl
theorem small600 {n : Nat} (h : n < 1000) : n < L32 ^ 600 := lt_pow_more (k := 1) (k' := 600) (Nat.lt_of_lt_of_le h (by decide)) (by decide)
theorem smFX (r : ByteArray → V) (h : (asI (r ⟨#[120]⟩)).natAbs ≤ 10) : Sm r FX := by
  simp only [FX, Sm, Sms, and_true, true_and, opV, evs, ev, at0, at1]
  exact ⟨trivial, ⟨small600 (by show (asI (r ⟨#[120]⟩) + 1).natAbs < 1000; omega), small600 (by show (asI (r ⟨#[120]⟩)).natAbs < 1000; omega), small600 (by decide)⟩, small600 (by decide)⟩
theorem rho_x (z : Int) : rho [((⟨#[120]⟩ : ByteArray), V.I z)] ⟨#[120]⟩ = .I z := by
  rw [show [((⟨#[120]⟩ : ByteArray), V.I z)] = [] ++ [((⟨#[120]⟩ : ByteArray), V.I z)] from rfl, rho_app, if_pos rfl]
set_option maxHeartbeats 8000000 in
theorem fit_p (w : World) : Calls Try.prog 7 #[] w fun e w' => e = .returned (.bool true) ∧ Below w.heap.size w w' := by
  have HW := Lib.hid (Below.refl w.heap.size w)
  go_enter Try.func7, Try.ntmps7
  go_wp2_with fail
  refine (var_p ⟨#[120]⟩ 0 w).mono ?_
  rintro e x1 ⟨rfl, hb⟩
  replace HW := Lib.hid (HW.out.trans (hb.mono HW.out.size))
  go_wp2_with fail
  refine (int_p 3 x1 (by decide) (by decide)).mono ?_
  rintro e x2 ⟨b1, o1, l1, c1, rfl, hc, hb⟩
  replace HW := Lib.hid (HW.out.trans (hb.mono HW.out.size))
  have HC := Lib.hid hc
  clear hc
  go_wp2_with fail
  refine (less_p _ _ (.node 1 0 ⟨#[120]⟩ []) (.node 0 3 ⟨#[]⟩ []) 1 x2 (Nat.le_refl _) (FC.mk (d := 0) (by unfold IR; decide) (nr0 _) (FL.nil _ _ _)) ((FC.mk (d := 0) (by unfold IR; decide) HC.out (FL.nil _ _ _)).up (by decide))).mono ?_
  rintro e x3 ⟨v, rfl, hf, hb⟩
  replace HW := Lib.hid (HW.out.trans (hb.mono HW.out.size))
  replace HC := Lib.hid (HC.out.below hb)
  obtain ⟨b, ao, l, c, ko, kl, kc, rfl, -, -, -⟩ := hf.open
  have HF : Hid (FC x3 tS 3 (.agg #[.int .i64 15, .bool b, .slice ao l c, .string ⟨#[]⟩, .slice ko kl kc]) FX) := Lib.hid hf
  clear hf HC
  simp only [F.op, F.name]
  obtain ⟨x4, kf, ef, ekf, hbf, hkf, HBf⟩ := newV x3 #[.int .i64 15, .bool b, .slice ao l c, .string ⟨#[]⟩, .slice ko kl kc] 29
  replace HW := Lib.hid (HW.out.trans (hbf.out.mono HW.out.size))
  replace HF := Lib.hid (HF.out.below hbf.out)
  go_wp2_with fail
  refine (wof_any 2 x4 (by decide) (by decide)).mono ?_
  rintro e x5 ⟨x, rfl, hx, hb⟩
  replace HBf := kBV hb HBf
  replace HW := Lib.hid (HW.out.trans (hb.mono HW.out.size))
  replace HF := Lib.hid (HF.out.below hb)
  have HX := Lib.hid hx
  clear hx
  obtain ⟨xb, xo, xl, xc, rfl⟩ := HX.out.shape
  go_wp2_with fail
  refine (ofInt_p _ _ 2 x5 HX.out.gi (by decide)).mono ?_
  rintro e x6 ⟨v, rfl, hv, hb⟩
  replace HBf := kBV hb HBf
  replace HW := Lib.hid (HW.out.trans (hb.mono HW.out.size))
  replace HF := Lib.hid (HF.out.below hb)
  obtain ⟨o2, l2, c2, rfl, hn⟩ := hv.int
  have hd2 : decide ((2 : Int) < 0) = false := rfl
  rw [hd2] at hv ⊢
  clear hd2
  have HV := Lib.hid hv
  clear hv hn HX
  obtain ⟨x7, ky, ey, eky, hby, hky, HBy⟩ := newV x6 #[.string ⟨#[120]⟩, .int .i64 0, .bool false, .slice o2 l2 c2, .bool false, .slice none 0 0] 61
  replace HBf := kBV hby.out HBf
  replace HW := Lib.hid (HW.out.trans (hby.out.mono HW.out.size))
  replace HF := Lib.hid (HF.out.below hby.out)
  replace HV := Lib.hid (HV.out.below hby.out)
  have HEL := Lib.hid (EL.one HBy.out HV.out)
  clear HV
  go_upto_region 3 with fail
  have hlt_f := lt_of_block HBf.out
  have hog : Hid (∀ q, q < 0 → (fun q => 0) q < x7.heap.size) := Lib.hid (fun q h => absurd h (Nat.not_lt_zero _))
  refine Rel7.region (by kernel_rfl) [[], [0], [0, 1], [0, 1, 2], [0, 1, 2], [0, 1, 2, 3, 4], [0, 1, 2, 3, 4, 5], [0, 1, 2, 3, 4, 5, 6], [0, 1, 2, 3, 4, 5, 6, 7], [0, 1, 2, 3, 4, 5, 6, 7], [0, 1, 2, 3, 4, 5, 6, 7, 9], [0, 1, 2, 3, 4, 5, 6, 7, 9, 10], [0, 1, 2, 3, 4, 5, 6, 7, 9, 10, 11], [0, 1, 2, 3, 4, 5, 6, 7, 8, 9, 10, 11, 12], [0, 1, 2, 3, 4, 5, 6, 7, 8, 9, 10, 11, 12, 13], [0, 1, 2, 3, 4, 5, 6, 7, 8, 9, 10, 11, 12, 13, 14], [0, 1, 2, 3, 4, 5, 6, 7, 8, 9, 10, 11, 12, 13, 14, 15], [0, 1, 2, 3, 4, 5, 6, 7, 8, 9, 10, 11, 12, 13, 14, 15, 16], [0, 1, 2, 3, 4, 5, 6, 7, 8, 9, 10, 11, 12, 13, 14, 15, 16, 17], [0, 1, 2, 3, 4, 5, 6, 7, 8, 9, 10, 11, 12, 13, 14, 15, 16, 17, 18], [0, 1, 2, 3, 4, 5, 6, 7, 8, 9, 10, 11, 12, 13, 14, 15, 16, 17, 18, 19], [0, 1, 2, 3, 4, 5, 6, 7, 8, 9, 10, 11, 12, 13, 14, 15, 16, 17, 18, 19, 20]] [] [] (fun q => 0) 0 22 (by kernel_rfl) (by kernel_rfl) (by rfl) hog.out (fun q q' h h' hn => absurd hn (by omega)) ?_
  refine Rel7.Chain.det ?_ (by rfl) (fun T xs wr hA => ?_) ?_
  rotate_left 1
  · have e1 := hA.pre 1 (by kernel_rfl)
    simp only [List.getElem?_toArray, List.getElem?_cons_succ, List.getElem?_cons_zero] at e1
    have hBq : wr.heap[kf]? = _ := (hA.bl _ hlt_f (fun q h => absurd h (Nat.not_lt_zero _))).trans HBf.out
    have q0 := cell_at (v := .int .i64 15) hBq 0 rfl
    have q1 := cell_at (v := .bool b) hBq 1 rfl
    have q2 := cell_at (v := .slice ao l c) hBq 2 rfl
    have q3 := cell_at (v := .string ⟨#[]⟩) hBq 3 rfl
    have q4 := cell_at (v := .slice ko kl kc) hBq 4 rfl
    clear hBq
    clear hA
    refine ⟨(by rfl), ?_⟩
    go_simp <;> (try with_reducible rfl)
  refine Rel7.Chain.call (fun xs v w => v = .bool true) (fun _ _ _ _ h _ => h) (fun _ _ _ _ _ h _ _ => h) (by rfl) (fun T xs wr hA => ?_) ?_
  · have hsw := (hA.be 0 (Nat.zero_le _) (fun _ _ => Nat.zero_le _)).size
    have e10 := hA.tm 0 10 (by rfl) (by rfl)
    have f10 : xs 0 = _ := hA.fa 0 (by rfl)
    (try simp (disch := first | rfl | decide) only [Rel7.mask_in] at f10)
    rw [f10] at e10
    clear f10
    have hbw := undrew (hA.be x7.heap.size (Nat.le_refl _) (fun q h => absurd h (Nat.not_lt_zero q)))
    have hfw := HF.out.below hbw
    clear hA
    refine ⟨(by rfl), fun K hK => ?_⟩
    go_simp
    refine (right_p 3 _ FX tS _ hfw).mono ?_
    rintro e w' ⟨rfl, hb'⟩
    exact hK.out _ _ (by rw [rtFX]) hb'
  refine Rel7.Chain.det ?_ (by rfl) (fun T xs wr hA => ?_) ?_
  rotate_left 1
  · have e11 := hA.tm 1 11 (by rfl) (by rfl)
    have f11 : xs 1 = (.bool true) := hA.fa 1 (by rfl)
    rw [f11] at e11
    clear f11
    clear hA
    refine ⟨(by rfl), ?_⟩
    go_simp <;> (try with_reducible rfl)
  refine Rel7.Chain.det ?_ (by rfl) (fun T xs wr hA => ?_) ?_
  rotate_left 1
  · have e12 := hA.tm 2 12 (by rfl) (by rfl)
    have f12 : xs 2 = _ := hA.fa 2 (by rfl)
    (try simp (disch := first | rfl | decide) only [Rel7.mask_in] at f12)
    rw [f12] at e12
    clear f12
    have e1 := hA.pre 1 (by kernel_rfl)
    simp only [List.getElem?_toArray, List.getElem?_cons_succ, List.getElem?_cons_zero] at e1
    have hBq : wr.heap[kf]? = _ := (hA.bl _ hlt_f (fun q h => absurd h (Nat.not_lt_zero _))).trans HBf.out
    have q0 := cell_at (v := .int .i64 15) hBq 0 rfl
    have q1 := cell_at (v := .bool b) hBq 1 rfl
    have q2 := cell_at (v := .slice ao l c) hBq 2 rfl
    have q3 := cell_at (v := .string ⟨#[]⟩) hBq 3 rfl
    have q4 := cell_at (v := .slice ko kl kc) hBq 4 rfl
    clear hBq
    clear hA
    refine ⟨((Rely.wanted_at rfl (by rfl) e12).trans (by rfl)), ?_⟩
    go_simp <;> (try with_reducible rfl)
  refine Rel7.Chain.det ?_ (by rfl) (fun T xs wr hA => ?_) ?_
  rotate_left 1
  · have e12 := hA.tm 2 12 (by rfl) (by rfl)
    have f12 : xs 2 = _ := hA.fa 2 (by rfl)
    (try simp (disch := first | rfl | decide) only [Rel7.mask_in] at f12)
    rw [f12] at e12
    clear f12
    have e2 := hA.pre 2 (by kernel_rfl)
    simp only [List.getElem?_toArray, List.getElem?_cons_succ, List.getElem?_cons_zero] at e2
    clear hA
    refine ⟨((Rely.wanted_at rfl (by rfl) e12).trans (by rfl)), ?_⟩
    go_simp <;> (try with_reducible rfl)
  refine Rel7.Chain.call (fun xs v w => v = .bool true) (fun _ _ _ _ h _ => h) (fun _ _ _ _ _ h _ _ => h) (by rfl) (fun T xs wr hA => ?_) ?_
  · have e12 := hA.tm 2 12 (by rfl) (by rfl)
    have f12 : xs 2 = _ := hA.fa 2 (by rfl)
    (try simp (disch := first | rfl | decide) only [Rel7.mask_in] at f12)
    rw [f12] at e12
    clear f12
    have hsw := (hA.be 0 (Nat.zero_le _) (fun _ _ => Nat.zero_le _)).size
    have e13 := hA.tm 3 13 (by rfl) (by rfl)
    have f13 : xs 3 = _ := hA.fa 3 (by rfl)
    (try simp (disch := first | rfl | decide) only [Rel7.mask_in] at f13)
    rw [f13] at e13
    clear f13
    have e14 := hA.tm 4 14 (by rfl) (by rfl)
    have f14 : xs 4 = _ := hA.fa 4 (by rfl)
    (try simp (disch := first | rfl | decide) only [Rel7.mask_in] at f14)
    rw [f14] at e14
    clear f14
    have hbw := undrew (hA.be x7.heap.size (Nat.le_refl _) (fun q h => absurd h (Nat.not_lt_zero q)))
    have hfw := HF.out.below hbw
    clear hA
    refine ⟨((Rely.wanted_at rfl (by rfl) e12).trans (by rfl)), fun K hK => ?_⟩
    go_simp
    refine (holds_p 3 _ _ [(⟨#[120]⟩, .I 2)] FX tS _ hfw (HEL.out.below hbw) rtFX (smFX _ (by rw [rho_x]; decide))).mono ?_
    rintro e w' ⟨rfl, hb'⟩
    exact hK.out _ _ (by rw [evFX, rho_x]; rfl) hb'
  refine Rel7.Chain.det ?_ (by rfl) (fun T xs wr hA => ?_) ?_
  rotate_left 1
  · have e12 := hA.tm 2 12 (by rfl) (by rfl)
    have f12 : xs 2 = _ := hA.fa 2 (by rfl)
    (try simp (disch := first | rfl | decide) only [Rel7.mask_in] at f12)
    rw [f12] at e12
    clear f12
    have e15 := hA.tm 5 15 (by rfl) (by rfl)
    have f15 : xs 5 = (.bool true) := hA.fa 5 (by rfl)
    rw [f15] at e15
    clear f15
    clear hA
    refine ⟨(by rfl), ?_⟩
    go_simp <;> (try with_reducible rfl)
  refine Rel7.Chain.det ?_ (by rfl) (fun T xs wr hA => ?_) ?_
  rotate_left 1
  · have e16 := hA.tm 6 16 (by rfl) (by rfl)
    have f16 : xs 6 = _ := hA.fa 6 (by rfl)
    (try simp (disch := first | rfl | decide) only [Rel7.mask_in] at f16)
    rw [f16] at e16
    clear f16
    clear hA
    refine ⟨(by rfl), ?_⟩
    go_simp <;> (try with_reducible rfl)
  refine Rel7.Chain.det ?_ (by rfl) (fun T xs wr hA => ?_) ?_
  rotate_left 1
  · have e17 := hA.tm 7 17 (by rfl) (by rfl)
    have f17 : xs 7 = _ := hA.fa 7 (by rfl)
    (try simp (disch := first | rfl | decide) only [Rel7.mask_in] at f17)
    rw [f17] at e17
    clear f17
    have e1 := hA.pre 1 (by kernel_rfl)
    simp only [List.getElem?_toArray, List.getElem?_cons_succ, List.getElem?_cons_zero] at e1
    have hBq : wr.heap[kf]? = _ := (hA.bl _ hlt_f (fun q h => absurd h (Nat.not_lt_zero _))).trans HBf.out
    have q0 := cell_at (v := .int .i64 15) hBq 0 rfl
    have q1 := cell_at (v := .bool b) hBq 1 rfl
    have q2 := cell_at (v := .slice ao l c) hBq 2 rfl
    have q3 := cell_at (v := .string ⟨#[]⟩) hBq 3 rfl
    have q4 := cell_at (v := .slice ko kl kc) hBq 4 rfl
    clear hBq
    clear hA
    refine ⟨((Rely.wanted_at rfl (by rfl) e17).trans (by rfl)), ?_⟩
    go_simp <;> (try with_reducible rfl)
  refine Rel7.Chain.call (fun xs v w => ∃ b o l c, v = .agg #[.bool b, .slice o l c] ∧ CI w (.agg #[.bool b, .slice o l c]) 3 2) (fun _ _ _ _ h hb => by obtain ⟨b, o, l, c, h1, h2⟩ := h; exact ⟨b, o, l, c, h1, h2.below hb⟩) (fun _ _ _ _ _ _ h _ => by obtain ⟨q, hq, _⟩ := h; exact absurd hq (Nat.not_lt_zero _)) (by rfl) (fun T xs wr hA => ?_) ?_
  · have e17 := hA.tm 7 17 (by rfl) (by rfl)
    have f17 : xs 7 = _ := hA.fa 7 (by rfl)
    (try simp (disch := first | rfl | decide) only [Rel7.mask_in] at f17)
    rw [f17] at e17
    clear f17
    have hsw := (hA.be 0 (Nat.zero_le _) (fun _ _ => Nat.zero_le _)).size
    have hbw := undrew (hA.be x7.heap.size (Nat.le_refl _) (fun q h => absurd h (Nat.not_lt_zero q)))
    clear hA
    refine ⟨((Rely.wanted_at rfl (by rfl) e17).trans (by rfl)), fun K hK => ?_⟩
    go_simp
    refine (wof_any 3 _ (by decide) (by decide)).mono ?_
    rintro e w' ⟨x, rfl, hx, hb'⟩
    obtain ⟨b, o, l, c, rfl⟩ := hx.shape
    exact hK.out _ _ ⟨b, o, l, c, rfl, hx⟩ hb'
  refine Rel7.Chain.call (fun xs v w => ∃ o l c, v = .agg #[.int .i64 0, .bool false, .slice o l c, .bool false, .slice none 0 0] ∧ VC w (.agg #[.int .i64 0, .bool false, .slice o l c, .bool false, .slice none 0 0]) (.I 3)) (fun _ _ _ _ h hb => by obtain ⟨o, l, c, h1, h2⟩ := h; exact ⟨o, l, c, h1, h2.below hb⟩) (fun _ _ _ _ _ _ h _ => by obtain ⟨q, hq, _⟩ := h; exact absurd hq (Nat.not_lt_zero _)) (by rfl) (fun T xs wr hA => ?_) ?_
  · have e17 := hA.tm 7 17 (by rfl) (by rfl)
    have f17 : xs 7 = _ := hA.fa 7 (by rfl)
    (try simp (disch := first | rfl | decide) only [Rel7.mask_in] at f17)
    rw [f17] at e17
    clear f17
    have hsw := (hA.be 0 (Nat.zero_le _) (fun _ _ => Nat.zero_le _)).size
    have e19 := hA.tm 9 19 (by rfl) (by rfl)
    have hbw := undrew (hA.be x7.heap.size (Nat.le_refl _) (fun q h => absurd h (Nat.not_lt_zero q)))
    have hF9 : ∃ b o l c, (xs 9) = .agg #[.bool b, .slice o l c] ∧ CI wr (.agg #[.bool b, .slice o l c]) 3 2 := hA.fa 9 (by rfl)
    obtain ⟨b9, o9, l9, c9, e9, hc9⟩ := hF9
    clear hA
    refine ⟨((Rely.wanted_at rfl (by rfl) e17).trans (by rfl)), fun K hK => ?_⟩
    go_simp
    refine (ofInt_p _ 3 2 _ hc9.gi (by decide)).mono ?_
    rintro e w' ⟨x, rfl, hx, hb'⟩
    obtain ⟨o, l, c, rfl, -⟩ := hx.int
    exact hK.out _ _ ⟨o, l, c, rfl, hx⟩ hb'
  refine Rel7.Chain.call (fun xs v w => ∃ o l c, v = .agg #[.string ⟨#[120]⟩, .int .i64 0, .bool false, .slice o l c, .bool false, .slice none 0 0] ∧ VC w (.agg #[.int .i64 0, .bool false, .slice o l c, .bool false, .slice none 0 0]) (.I 3)) (fun _ _ _ _ h hb => by obtain ⟨o, l, c, h1, h2⟩ := h; exact ⟨o, l, c, h1, h2.below hb⟩) (fun _ _ _ _ _ _ h _ => by obtain ⟨q, hq, _⟩ := h; exact absurd hq (Nat.not_lt_zero _)) (by rfl) (fun T xs wr hA => ?_) ?_
  · have e17 := hA.tm 7 17 (by rfl) (by rfl)
    have f17 : xs 7 = _ := hA.fa 7 (by rfl)
    (try simp (disch := first | rfl | decide) only [Rel7.mask_in] at f17)
    rw [f17] at e17
    clear f17
    have hsw := (hA.be 0 (Nat.zero_le _) (fun _ _ => Nat.zero_le _)).size
    have e20 := hA.tm 10 20 (by rfl) (by rfl)
    have hF10 : ∃ o l c, (xs 10) = .agg #[.int .i64 0, .bool false, .slice o l c, .bool false, .slice none 0 0] ∧ VC wr (.agg #[.int .i64 0, .bool false, .slice o l c, .bool false, .slice none 0 0]) (.I 3) := hA.fa 10 (by rfl)
    obtain ⟨o10, l10, c10, e10, hc10⟩ := hF10
    clear hA
    refine ⟨((Rely.wanted_at rfl (by rfl) e17).trans (by rfl)), fun K hK => ?_⟩
    go_simp
    exact hK.out _ _ ⟨_, _, _, rfl, hc10⟩ (Below.refl _ _)
  refine Rel7.Chain.call (fun xs v w => ∃ g, v = .slice (some ⟨g, 0, none⟩) 1 1 ∧ EL w (.slice (some ⟨g, 0, none⟩) 1 1) [(⟨#[120]⟩, .I 3)]) (fun _ _ _ _ h hb => by obtain ⟨g, h1, h2⟩ := h; exact ⟨g, h1, h2.below hb⟩) (fun _ _ _ _ _ _ h _ => by obtain ⟨q, hq, _⟩ := h; exact absurd hq (Nat.not_lt_zero _)) (by rfl) (fun T xs wr hA => ?_) ?_
  · have e17 := hA.tm 7 17 (by rfl) (by rfl)
    have f17 : xs 7 = _ := hA.fa 7 (by rfl)
    (try simp (disch := first | rfl | decide) only [Rel7.mask_in] at f17)
    rw [f17] at e17
    clear f17
    have hsw := (hA.be 0 (Nat.zero_le _) (fun _ _ => Nat.zero_le _)).size
    have e21 := hA.tm 11 21 (by rfl) (by rfl)
    have hF11 : ∃ o l c, (xs 11) = .agg #[.string ⟨#[120]⟩, .int .i64 0, .bool false, .slice o l c, .bool false, .slice none 0 0] ∧ VC wr (.agg #[.int .i64 0, .bool false, .slice o l c, .bool false, .slice none 0 0]) (.I 3) := hA.fa 11 (by rfl)
    obtain ⟨o11, l11, c11, e11, hc11⟩ := hF11
    clear hA
    refine ⟨((Rely.wanted_at rfl (by rfl) e17).trans (by rfl)), fun K hK => ?_⟩
    go_simp
    exact hK.out _ _ ⟨_, rfl, EL.one (made_at _ _ _ rfl) (hc11.below ((Below.refl _ _).alloc (Nat.le_refl _) _))⟩ ((Below.refl _ _).alloc (Nat.le_refl _) _)
  refine Rel7.Chain.call (fun xs v w => v = .bool false) (fun _ _ _ _ h _ => h) (fun _ _ _ _ _ h _ _ => h) (by rfl) (fun T xs wr hA => ?_) ?_
  · have e17 := hA.tm 7 17 (by rfl) (by rfl)
    have f17 : xs 7 = _ := hA.fa 7 (by rfl)
    (try simp (disch := first | rfl | decide) only [Rel7.mask_in] at f17)
    rw [f17] at e17
    clear f17
    have hsw := (hA.be 0 (Nat.zero_le _) (fun _ _ => Nat.zero_le _)).size
    have e18 := hA.tm 8 18 (by rfl) (by rfl)
    have f18 : xs 8 = _ := hA.fa 8 (by rfl)
    (try simp (disch := first | rfl | decide) only [Rel7.mask_in] at f18)
    rw [f18] at e18
    clear f18
    have e22 := hA.tm 12 22 (by rfl) (by rfl)
    have hbw := undrew (hA.be x7.heap.size (Nat.le_refl _) (fun q h => absurd h (Nat.not_lt_zero q)))
    have hfw := HF.out.below hbw
    have hF12 : ∃ g, (xs 12) = .slice (some ⟨g, 0, none⟩) 1 1 ∧ EL wr (.slice (some ⟨g, 0, none⟩) 1 1) [(⟨#[120]⟩, .I 3)] := hA.fa 12 (by rfl)
    obtain ⟨g12, e12, hc12⟩ := hF12
    clear hA
    refine ⟨((Rely.wanted_at rfl (by rfl) e17).trans (by rfl)), fun K hK => ?_⟩
    go_simp
    refine (holds_p 3 _ _ [(⟨#[120]⟩, .I 3)] FX tS _ hfw hc12 rtFX (smFX _ (by rw [rho_x]; decide))).mono ?_
    rintro e w' ⟨rfl, hb'⟩
    exact hK.out _ _ (by rw [evFX, rho_x]; rfl) hb'
  refine Rel7.Chain.det ?_ (by rfl) (fun T xs wr hA => ?_) ?_
  rotate_left 1
  · have e17 := hA.tm 7 17 (by rfl) (by rfl)
    have f17 : xs 7 = _ := hA.fa 7 (by rfl)
    (try simp (disch := first | rfl | decide) only [Rel7.mask_in] at f17)
    rw [f17] at e17
    clear f17
    have e23 := hA.tm 13 23 (by rfl) (by rfl)
    have f23 : xs 13 = (.bool false) := hA.fa 13 (by rfl)
    rw [f23] at e23
    clear f23
    clear hA
    refine ⟨((Rely.wanted_at rfl (by rfl) e17).trans (by rfl)), ?_⟩
    go_simp <;> (try with_reducible rfl)
  refine Rel7.Chain.det ?_ (by rfl) (fun T xs wr hA => ?_) ?_
  rotate_left 1
  · have e17 := hA.tm 7 17 (by rfl) (by rfl)
    have f17 : xs 7 = _ := hA.fa 7 (by rfl)
    (try simp (disch := first | rfl | decide) only [Rel7.mask_in] at f17)
    rw [f17] at e17
    clear f17
    have e24 := hA.tm 14 24 (by rfl) (by rfl)
    have f24 : xs 14 = _ := hA.fa 14 (by rfl)
    (try simp (disch := first | rfl | decide) only [Rel7.mask_in] at f24)
    rw [f24] at e24
    clear f24
    clear hA
    refine ⟨(by rfl), ?_⟩
    go_simp <;> (try with_reducible rfl)
  refine Rel7.Chain.det ?_ (by rfl) (fun T xs wr hA => ?_) ?_
  rotate_left 1
  · have e25 := hA.tm 15 25 (by rfl) (by rfl)
    have f25 : xs 15 = _ := hA.fa 15 (by rfl)
    (try simp (disch := first | rfl | decide) only [Rel7.mask_in] at f25)
    rw [f25] at e25
    clear f25
    clear hA
    refine ⟨(by rfl), ?_⟩
    go_simp <;> (try with_reducible rfl)
  refine Rel7.Chain.det ?_ (by rfl) (fun T xs wr hA => ?_) ?_
  rotate_left 1
  · have e26 := hA.tm 16 26 (by rfl) (by rfl)
    have f26 : xs 16 = _ := hA.fa 16 (by rfl)
    (try simp (disch := first | rfl | decide) only [Rel7.mask_in] at f26)
    rw [f26] at e26
    clear f26
    have e1 := hA.pre 1 (by kernel_rfl)
    simp only [List.getElem?_toArray, List.getElem?_cons_succ, List.getElem?_cons_zero] at e1
    have hBq : wr.heap[kf]? = _ := (hA.bl _ hlt_f (fun q h => absurd h (Nat.not_lt_zero _))).trans HBf.out
    have q0 := cell_at (v := .int .i64 15) hBq 0 rfl
    have q1 := cell_at (v := .bool b) hBq 1 rfl
    have q2 := cell_at (v := .slice ao l c) hBq 2 rfl
    have q3 := cell_at (v := .string ⟨#[]⟩) hBq 3 rfl
    have q4 := cell_at (v := .slice ko kl kc) hBq 4 rfl
    clear hBq
    clear hA
    refine ⟨((Rely.wanted_at rfl (by rfl) e26).trans (by rfl)), ?_⟩
    go_simp <;> (try with_reducible rfl)
  refine Rel7.Chain.call (fun xs v w => v = .int .i64 5) (fun _ _ _ _ h _ => h) (fun _ _ _ _ _ h _ _ => h) (by rfl) (fun T xs wr hA => ?_) ?_
  · have e26 := hA.tm 16 26 (by rfl) (by rfl)
    have f26 : xs 16 = _ := hA.fa 16 (by rfl)
    (try simp (disch := first | rfl | decide) only [Rel7.mask_in] at f26)
    rw [f26] at e26
    clear f26
    have hsw := (hA.be 0 (Nat.zero_le _) (fun _ _ => Nat.zero_le _)).size
    have e27 := hA.tm 17 27 (by rfl) (by rfl)
    have f27 : xs 17 = _ := hA.fa 17 (by rfl)
    (try simp (disch := first | rfl | decide) only [Rel7.mask_in] at f27)
    rw [f27] at e27
    clear f27
    have hbw := undrew (hA.be x7.heap.size (Nat.le_refl _) (fun q h => absurd h (Nat.not_lt_zero q)))
    have hfw := HF.out.below hbw
    clear hA
    refine ⟨((Rely.wanted_at rfl (by rfl) e26).trans (by rfl)), fun K hK => ?_⟩
    go_simp
    refine (size_p 3 _ FX tS _ hfw (by rw [szFX]; decide)).mono ?_
    rintro e w' ⟨rfl, hb'⟩
    exact hK.out _ _ (by rw [szFX]; rfl) hb'
  refine Rel7.Chain.det ?_ (by rfl) (fun T xs wr hA => ?_) ?_
  rotate_left 1
  · have e26 := hA.tm 16 26 (by rfl) (by rfl)
    have f26 : xs 16 = _ := hA.fa 16 (by rfl)
    (try simp (disch := first | rfl | decide) only [Rel7.mask_in] at f26)
    rw [f26] at e26
    clear f26
    have e28 := hA.tm 18 28 (by rfl) (by rfl)
    have f28 : xs 18 = (.int .i64 5) := hA.fa 18 (by rfl)
    rw [f28] at e28
    clear f28
    clear hA
    refine ⟨((Rely.wanted_at rfl (by rfl) e26).trans (by rfl)), ?_⟩
    go_simp <;> (try with_reducible rfl)
  refine Rel7.Chain.det ?_ (by rfl) (fun T xs wr hA => ?_) ?_
  rotate_left 1
  · have e26 := hA.tm 16 26 (by rfl) (by rfl)
    have f26 : xs 16 = _ := hA.fa 16 (by rfl)
    (try simp (disch := first | rfl | decide) only [Rel7.mask_in] at f26)
    rw [f26] at e26
    clear f26
    have e29 := hA.tm 19 29 (by rfl) (by rfl)
    have f29 : xs 19 = _ := hA.fa 19 (by rfl)
    (try simp (disch := first | rfl | decide) only [Rel7.mask_in] at f29)
    rw [f29] at e29
    clear f29
    clear hA
    refine ⟨(by rfl), ?_⟩
    go_simp <;> (try with_reducible rfl)
  refine Rel7.Chain.det ?_ (by rfl) (fun T xs wr hA => ?_) ?_
  rotate_left 1
  · have e30 := hA.tm 20 30 (by rfl) (by rfl)
    have f30 : xs 20 = _ := hA.fa 20 (by rfl)
    (try simp (disch := first | rfl | decide) only [Rel7.mask_in] at f30)
    rw [f30] at e30
    clear f30
    clear hA
    refine ⟨(by rfl), ?_⟩
    go_simp <;> (try with_reducible rfl)
  refine Rel7.Chain.done (fun xs x8 hL => ?_)
  obtain ⟨⟨hbe, hbl⟩, hf, -, -⟩ := hL
  have f0 : xs 0 = _ := hf 0 (by decide)
  (try simp (disch := first | rfl | decide) only [Rel7.mask_in] at f0)
  have f1 : xs 1 = (.bool true) := hf 1 (by decide)
  have f2 : xs 2 = _ := hf 2 (by decide)
  (try simp (disch := first | rfl | decide) only [Rel7.mask_in] at f2)
  have f3 : xs 3 = _ := hf 3 (by decide)
  (try simp (disch := first | rfl | decide) only [Rel7.mask_in] at f3)
  have f4 : xs 4 = _ := hf 4 (by decide)
  (try simp (disch := first | rfl | decide) only [Rel7.mask_in] at f4)
  have f5 : xs 5 = (.bool true) := hf 5 (by decide)
  have f6 : xs 6 = _ := hf 6 (by decide)
  (try simp (disch := first | rfl | decide) only [Rel7.mask_in] at f6)
  have f7 : xs 7 = _ := hf 7 (by decide)
  (try simp (disch := first | rfl | decide) only [Rel7.mask_in] at f7)
  have f8 : xs 8 = _ := hf 8 (by decide)
  (try simp (disch := first | rfl | decide) only [Rel7.mask_in] at f8)
  have F9 : ∃ b o l c, (xs 9) = .agg #[.bool b, .slice o l c] ∧ CI x8 (.agg #[.bool b, .slice o l c]) 3 2 := hf 9 (by decide)
  have F10 : ∃ o l c, (xs 10) = .agg #[.int .i64 0, .bool false, .slice o l c, .bool false, .slice none 0 0] ∧ VC x8 (.agg #[.int .i64 0, .bool false, .slice o l c, .bool false, .slice none 0 0]) (.I 3) := hf 10 (by decide)
  have F11 : ∃ o l c, (xs 11) = .agg #[.string ⟨#[120]⟩, .int .i64 0, .bool false, .slice o l c, .bool false, .slice none 0 0] ∧ VC x8 (.agg #[.int .i64 0, .bool false, .slice o l c, .bool false, .slice none 0 0]) (.I 3) := hf 11 (by decide)
  have F12 : ∃ g, (xs 12) = .slice (some ⟨g, 0, none⟩) 1 1 ∧ EL x8 (.slice (some ⟨g, 0, none⟩) 1 1) [(⟨#[120]⟩, .I 3)] := hf 12 (by decide)
  have f13 : xs 13 = (.bool false) := hf 13 (by decide)
  have f14 : xs 14 = _ := hf 14 (by decide)
  (try simp (disch := first | rfl | decide) only [Rel7.mask_in] at f14)
  have f15 : xs 15 = _ := hf 15 (by decide)
  (try simp (disch := first | rfl | decide) only [Rel7.mask_in] at f15)
  have f16 : xs 16 = _ := hf 16 (by decide)
  (try simp (disch := first | rfl | decide) only [Rel7.mask_in] at f16)
  have f17 : xs 17 = _ := hf 17 (by decide)
  (try simp (disch := first | rfl | decide) only [Rel7.mask_in] at f17)
  have f18 : xs 18 = (.int .i64 5) := hf 18 (by decide)
  have f19 : xs 19 = _ := hf 19 (by decide)
  (try simp (disch := first | rfl | decide) only [Rel7.mask_in] at f19)
  have f20 : xs 20 = _ := hf 20 (by decide)
  (try simp (disch := first | rfl | decide) only [Rel7.mask_in] at f20)
  have f21 : xs 21 = _ := hf 21 (by decide)
  (try simp (disch := first | rfl | decide) only [Rel7.mask_in] at f21)
  have hb0 : Below 0 x7 x8 := undrew (hbe 0 (Nat.zero_le _) (fun _ _ => Nat.zero_le _))
  have hgr : ∀ j, j < x7.heap.size → (∀ q, q < 0 → (fun q => 0) q ≠ j) → x8.heap[j]? = x7.heap[j]? := hbl
  clear hbe hbl hf
  have hb : Below x7.heap.size x7 x8 := ⟨hb0.os, hb0.tape, hb0.output, hb0.size, fun q hq => hgr q hq (fun q h => absurd h (Nat.not_lt_zero _))⟩
  refine Rel7.rest_done ?_
  simp only [Rel7.fill, List.setIfInBounds_toArray, List.set_cons_zero, List.set_cons_succ, f0, f1, f2, f3, f4, f5, f6, f7, f8, f13, f14, f15, f16, f17, f18, f19, f20, f21]
  clear hb0 hgr hog hlt_f f0 f1 f2 f3 f4 f5 f6 f7 f8 f13 f14 f15 f16 f17 f18 f19 f20 f21
  replace HBf := kBV hb HBf
  replace HBy := kBV hb HBy
  replace HW := Lib.hid (HW.out.trans (hb.mono HW.out.size))
  replace HF := Lib.hid (HF.out.below hb)
  replace HEL := Lib.hid (HEL.out.below hb)
  replace hb := Lib.hid hb
  go_wp2_with fail
  go_ret
  exact ⟨rfl, HW.out⟩
end Go.Proofs.Ytinfbmnimkcdjaa
