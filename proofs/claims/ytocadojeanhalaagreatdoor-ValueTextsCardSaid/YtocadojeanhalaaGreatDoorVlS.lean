/-
  The anchor.
-/
import Derived.Test.YtocadojeanhalaaGreatDoorVlR
namespace Go.Proofs.YtocadojeanhalaaGreatDoor
open Go.RowKit
set_option maxRecDepth 100000
set_option linter.unusedVariables false
set_option linter.unusedSimpArgs false

theorem zText_1v : zText 1 = [49] := by
  unfold zText
  rw [if_neg (by decide), show (1 : Int).natAbs = 1 from rfl, Lib.decDigits_one (by decide)]
  rfl
theorem zText_m2v : zText (-2) = [45, 50] := by
  unfold zText
  rw [if_pos (by decide), show (-2 : Int).natAbs = 2 from rfl, Lib.decDigits_one (by decide)]
  rfl
theorem text_fit : vText (.L [1, -2]) = [91, 49, 44, 32, 45, 50, 93] := by
  show 91 :: (joinB [zText 1, zText (-2)] ++ [93]) = _
  rw [zText_1v, zText_m2v]; rfl
theorem red_fit : reduceV [.I 3] = [[.I 0], [.I 1]] := by decide
theorem two_atN {w : World} {g : Nat} {u v : NU} {b d : Bool} {o p : Option Addr} {l c m q : Nat} (hB : w.heap[g]? = some (.cells #[.bool b, .slice o l c, .bool d, .slice p m q] 29 (0, 0))) (hu : nC u = [.bool b, .slice o l c]) (hv : nC v = [.bool d, .slice p m q]) (hR : NR w u) (hS : NR w v) : nE.At w (.slice (some ⟨g, 0, none⟩) 2 2) [u, v] :=
  El.At.block (E := nE) (el := [u, v]) (by show _ = some (Obj.cells (([u, v] : List NU).flatMap nC).toArray _ _); rw [List.flatMap_cons, List.flatMap_cons, hu, hv]; exact hB) (by simp [maxLen]) (fun a ha => by
    rcases List.mem_cons.1 ha with rfl | ha
    · exact hR
    · rw [List.mem_singleton] at ha; subst ha; exact hS)
def FitV : Prop := ∀ we : World, Lib.TabIs Tryz.prog we "internal/strconv.uint64pow10" .u64 Lib.pow10Tab → Calls Tryz.prog 4 #[] we fun e w' => e = .returned (.bool true) ∧ Below we.heap.size we w'
set_option maxHeartbeats 8000000 in
theorem fitV : FitV := by
  intro we htab
  have HTB := Lib.hid htab
  have HW := Lib.hid (Below.refl we.heap.size we)
  clear htab
  go_enter Tryz.func4, Tryz.ntmps4
  go_wp2_with fail
  refine (wof_any 3 we (by decide) (by decide)).mono ?_
  rintro e x1 ⟨v, rfl, hc, hb⟩
  replace HW := Lib.hid (HW.out.trans (hb.mono HW.out.size))
  clear hb
  have HC := Lib.hid hc.gi
  clear hc
  go_wp2_with fail
  refine (ofInt_p _ 3 2 x1 HC.out (by decide)).mono ?_
  rintro e x2 ⟨v, rfl, hc, hb⟩
  replace HW := Lib.hid (HW.out.trans (hb.mono HW.out.size))
  replace HC := Lib.hid (HC.out.below hb)
  clear hb
  obtain ⟨u, uk, ub, uo, ul, uc, ud, up, um, uq, rfl, hue, hux, hur⟩ := hc.unit
  have HUE := Lib.hid hue
  have HUX := Lib.hid hux
  have HUR := Lib.hid hur
  clear hc hue hux hur
  obtain ⟨x3, k4, e4, ek4, hb4, hk4, HB4⟩ := newV x2 #[.int .i64 uk, .bool ub, .slice uo ul uc, .bool ud, .slice up um uq] 32
  replace HW := Lib.hid (HW.out.trans (hb4.out.mono HW.out.size))
  replace HUR := Lib.hid (HUR.out.below hb4.out)
  have HAT : Hid (VL x3 (.slice (some ⟨k4, 0, none⟩) 1 1) [.I 3]) := Lib.hid ⟨[u], one_atV HB4.out HUE.out HUR.out, by simp [HUX.out]⟩
  go_wp2_with fail
  refine (reduce_p _ [.I 3] x3 HAT.out (by decide) (by intro x hx l e; simp at hx; subst hx; cases e)).mono ?_
  rintro e x4 ⟨v, rfl, hc, hb⟩
  replace HB4 := kBV hb HB4
  replace HW := Lib.hid (HW.out.trans (hb.mono HW.out.size))
  replace HUR := Lib.hid (HUR.out.below hb)
  clear hb
  rw [red_fit] at hc
  obtain ⟨ko, kc, rfl, ⟨hq1, hq2⟩, -⟩ := hc.form
  have HWL := Lib.hid hc
  clear hc
  simp only [List.length_cons, List.length_nil] at HWL hq1 ⊢
  obtain ⟨a, o1, l1, c1, rfl, d0, hv1⟩ := HWL.out.cells.2 1 (by decide)
  have hl1 : l1 = 1 := hv1.cells.1.1
  subst hl1
  obtain ⟨b, bk, bb, bo, bl, bc, bd, bp, bm, bq, rfl, ⟨g0, g1, g2, g3, g4⟩, hi⟩ := hv1.cells.2 0 (by decide)
  obtain ⟨zo, zl, zc, hze, hci⟩ := hi.int
  injection hze with hze
  simp only [Array.mk.injEq, List.cons.injEq, Value.int.injEq, Value.bool.injEq, Value.slice.injEq, true_and, and_true] at hze
  obtain ⟨rfl, rfl, ⟨rfl, rfl, rfl⟩, rfl, rfl, rfl, rfl⟩ := hze
  have hb0 : b.add 0 = b := rfl
  replace g1 : x4.cell? ⟨b.block, b.off + 1, none⟩ = some (.bool (decide ((1 : Int) < 0))) := g1
  replace g2 : x4.cell? ⟨b.block, b.off + 2, none⟩ = some (.slice bo bl bc) := g2
  replace d0 : x4.cell? ⟨a.block, a.off + 1, none⟩ = some (.slice (some b) 1 c1) := d0
  have D0 := Lib.hid d0
  have G1 := Lib.hid g1
  have G2 := Lib.hid g2
  have CI1 := Lib.hid hci
  clear d0 hv1 g0 g1 g2 g3 g4 hi hci hb0 HWL
  go_upto_region 2 with fail
  have hog : Hid (∀ q, q < 0 → (fun q => 0) q < x4.heap.size) := Lib.hid (fun q h => absurd h (Nat.not_lt_zero _))
  refine Rel7.region (by kernel_rfl) [[], [0], [0, 1], [0, 1, 2], [0, 1, 2, 3], [0, 1, 2, 3, 4], [0, 1, 2, 3, 4, 5], [0, 1, 2, 3, 4, 5, 6], [0, 1, 2, 3, 4, 5, 6, 7], [0, 1, 2, 3, 4, 5, 6, 7, 8], [0, 1, 2, 3, 4, 5, 6, 7, 8, 9], [0, 1, 2, 3, 4, 5, 6, 7, 8, 9, 10], [0, 1, 2, 3, 4, 5, 6, 7, 8, 9, 10, 11], [0, 1, 2, 3, 4, 5, 6, 7, 8, 9, 10, 11, 12], [0, 1, 2, 3, 4, 5, 6, 7, 8, 9, 10, 11, 12, 13], [0, 1, 2, 3, 4, 5, 6, 7, 8, 9, 10, 11, 12, 13, 14], [0, 1, 2, 3, 4, 5, 6, 7, 8, 9, 10, 11, 12, 13, 14, 15], [0, 1, 2, 3, 4, 5, 6, 7, 8, 9, 10, 11, 12, 13, 14, 15, 16], [0, 1, 2, 3, 4, 5, 6, 7, 8, 9, 10, 11, 12, 13, 14, 15, 16, 17], [0, 1, 2, 3, 4, 5, 6, 7, 8, 9, 10, 11, 12, 13, 14, 15, 16, 17, 18], [0, 1, 2, 3, 4, 5, 6, 7, 8, 9, 10, 11, 12, 13, 14, 15, 16, 17, 18, 19], [0, 1, 2, 3, 4, 5, 6, 7, 8, 9, 10, 11, 12, 13, 14, 15, 16, 17, 18, 19, 20], [0, 1, 2, 3, 4, 5, 6, 7, 8, 9, 10, 11, 12, 13, 14, 15, 16, 17, 18, 19, 20, 21], [0, 1, 2, 3, 4, 5, 6, 7, 8, 9, 10, 11, 12, 13, 14, 15, 16, 17, 18, 19, 20, 21, 22], [0, 1, 2, 3, 4, 5, 6, 7, 8, 9, 10, 11, 12, 13, 14, 15, 16, 17, 18, 19, 20, 21, 22, 23], [0, 1, 2, 3, 4, 5, 6, 7, 8, 9, 10, 11, 12, 13, 14, 15, 16, 17, 18], [0, 1, 2, 3, 4, 5, 6, 7, 8, 9, 10, 11, 12, 13, 14, 15, 16, 17, 18, 19, 20, 21, 22, 23, 24, 25], [0, 1, 2, 3, 4, 5, 6, 7, 8, 9, 10, 11, 12, 13, 14, 15, 16, 17, 18, 19, 20, 21, 22, 23, 24, 25, 26], [0, 1, 2, 3, 4, 5, 6, 7, 8, 9, 10, 11, 12, 13, 14, 15, 16, 17, 18, 19, 20, 21, 22, 23, 24, 25, 26, 27], [0, 1, 2, 3, 4, 5, 6, 7, 8, 9, 10, 11, 12, 13, 14, 15, 16, 17, 18, 19, 20, 21, 22, 23, 24, 25, 26, 27, 28]] [] [] (fun q => 0) 0 26 (by kernel_rfl) (by kernel_rfl) (by rfl) hog.out (fun q q' h h' hn => absurd hn (by omega)) ?_
  refine Rel7.Chain.call (fun xs v w => CI w v (1) 2) (fun _ _ _ _ h hb => CI.below h hb) (fun _ _ _ _ _ _ h _ => by obtain ⟨q, hq, _⟩ := h; exact absurd hq (Nat.not_lt_zero _)) (by rfl) (fun T xs wr hA => ?_) ?_
  · have hsw := (hA.be 0 (Nat.zero_le _) (fun _ _ => Nat.zero_le _)).size
    have hbw := undrew (hA.be x4.heap.size (Nat.le_refl _) (fun q h => absurd h (Nat.not_lt_zero q)))
    clear hA
    refine ⟨(by rfl), fun K hK => ?_⟩
    go_simp
    refine (wof_any (1) wr (by decide) (by decide)).mono ?_
    rintro e w' ⟨v, rfl, hc, hb'⟩
    exact hK.out _ _ hc hb'
  refine Rel7.Chain.call (fun xs v w => CI w v (-2) 2) (fun _ _ _ _ h hb => CI.below h hb) (fun _ _ _ _ _ _ h _ => by obtain ⟨q, hq, _⟩ := h; exact absurd hq (Nat.not_lt_zero _)) (by rfl) (fun T xs wr hA => ?_) ?_
  · have hsw := (hA.be 0 (Nat.zero_le _) (fun _ _ => Nat.zero_le _)).size
    have hbw := undrew (hA.be x4.heap.size (Nat.le_refl _) (fun q h => absurd h (Nat.not_lt_zero q)))
    clear hA
    refine ⟨(by rfl), fun K hK => ?_⟩
    go_simp
    refine (wof_any (-2) wr (by decide) (by decide)).mono ?_
    rintro e w' ⟨v, rfl, hc, hb'⟩
    exact hK.out _ _ hc hb'
  refine Rel7.Chain.call (fun xs v w => NL w v [1, -2]) (fun _ _ _ _ h hb => NL.below h hb) (fun _ _ _ _ _ _ h _ => by obtain ⟨q, hq, _⟩ := h; exact absurd hq (Nat.not_lt_zero _)) (by rfl) (fun T xs wr hA => ?_) ?_
  · have hsw := (hA.be 0 (Nat.zero_le _) (fun _ _ => Nat.zero_le _)).size
    have e6 := hA.tm 0 6 (by rfl) (by rfl)
    have e7 := hA.tm 1 7 (by rfl) (by rfl)
    have hbw := undrew (hA.be x4.heap.size (Nat.le_refl _) (fun q h => absurd h (Nat.not_lt_zero q)))
    have hF0 : CI wr (xs 0) (1) 2 := hA.fa 0 (by rfl)
    have h0 := hF0
    have hF1 : CI wr (xs 1) (-2) 2 := hA.fa 1 (by rfl)
    have h1 := hF1
    obtain ⟨u0, b0, p0, l0, q0, hv0, he0, hz0, hr0⟩ := h0.unit (by decide)
    obtain ⟨u1, b1, p1, l2, q1, hv1, he1, hz1, hr1⟩ := h1.unit (by decide)
    rw [hv0] at e6
    rw [hv1] at e7
    clear hA
    refine ⟨(by rfl), fun K hK => ?_⟩
    go_simp
    exact hK.out _ _ ⟨[u0, u1], two_atN (heap_alloc_new wr _) he0 he1 (nE.below hr0 ((Below.refl _ _).alloc (Nat.le_refl _) _)) (nE.below hr1 ((Below.refl _ _).alloc (Nat.le_refl _) _)), by simp [hz0, hz1]⟩ ((Below.refl _ _).alloc (Nat.le_refl _) _)
  refine Rel7.Chain.call (fun xs v w => VC w v (.L [1, -2])) (fun _ _ _ _ h hb => VC.below h hb) (fun _ _ _ _ _ _ h _ => by obtain ⟨q, hq, _⟩ := h; exact absurd hq (Nat.not_lt_zero _)) (by rfl) (fun T xs wr hA => ?_) ?_
  · have hsw := (hA.be 0 (Nat.zero_le _) (fun _ _ => Nat.zero_le _)).size
    have e8 := hA.tm 2 8 (by rfl) (by rfl)
    have hbw := undrew (hA.be x4.heap.size (Nat.le_refl _) (fun q h => absurd h (Nat.not_lt_zero q)))
    have hF2 : NL wr (xs 2) [1, -2] := hA.fa 2 (by rfl)
    have h2 := hF2
    clear hA
    refine ⟨(by rfl), fun K hK => ?_⟩
    go_simp
    refine (ofList_p _ [1, -2] wr h2 (by decide)).mono ?_
    rintro e w' ⟨v, rfl, hc, hb'⟩
    exact hK.out _ _ hc hb'
  refine Rel7.Chain.call (fun xs v w => v = .string ⟨#[91, 49, 44, 32, 45, 50, 93]⟩) (fun _ _ _ _ h _ => h) (fun _ _ _ _ _ h _ _ => h) (by rfl) (fun T xs wr hA => ?_) ?_
  · have hsw := (hA.be 0 (Nat.zero_le _) (fun _ _ => Nat.zero_le _)).size
    have e9 := hA.tm 3 9 (by rfl) (by rfl)
    have hbw := undrew (hA.be x4.heap.size (Nat.le_refl _) (fun q h => absurd h (Nat.not_lt_zero q)))
    have hF3 : VC wr (xs 3) (.L [1, -2]) := hA.fa 3 (by rfl)
    have h3 := hF3
    clear hA
    refine ⟨(by rfl), fun K hK => ?_⟩
    go_simp
    refine (text_p _ (.L [1, -2]) wr (tab_below HTB.out (HW.out.trans (hbw.mono HW.out.size))) h3 (by intro l e; injection e with e; subst e; decide)).mono ?_
    rintro e w' ⟨rfl, hb'⟩
    exact hK.out _ _ (by rw [text_fit]) hb'
  refine Rel7.Chain.call (fun xs v w => v = .bool true) (fun _ _ _ _ h _ => h) (fun _ _ _ _ _ h _ _ => h) (by rfl) (fun T xs wr hA => ?_) ?_
  · have hsw := (hA.be 0 (Nat.zero_le _) (fun _ _ => Nat.zero_le _)).size
    have e10 := hA.tm 4 10 (by rfl) (by rfl)
    have f10 : xs 4 = (.string ⟨#[91, 49, 44, 32, 45, 50, 93]⟩) := hA.fa 4 (by rfl)
    rw [f10] at e10
    clear f10
    clear hA
    refine ⟨(by rfl), fun K hK => ?_⟩
    go_simp
    exact hK.out _ _ (by first | rfl | decide | simp) (Below.refl _ _)
  refine Rel7.Chain.det ?_ (by rfl) (fun T xs wr hA => ?_) ?_
  rotate_left 1
  · have e11 := hA.tm 5 11 (by rfl) (by rfl)
    have f11 : xs 5 = (.bool true) := hA.fa 5 (by rfl)
    rw [f11] at e11
    clear f11
    clear hA
    refine ⟨(by rfl), ?_⟩
    go_simp <;> (try with_reducible rfl)
  refine Rel7.Chain.det ?_ (by rfl) (fun T xs wr hA => ?_) ?_
  rotate_left 1
  · have e12 := hA.tm 6 12 (by rfl) (by rfl)
    have f12 : xs 6 = _ := hA.fa 6 (by rfl)
    (try simp (disch := first | rfl | decide) only [Rel7.mask_in] at f12)
    rw [f12] at e12
    clear f12
    have e1 := hA.pre 1 (by kernel_rfl)
    simp only [List.getElem?_toArray, List.getElem?_cons_succ, List.getElem?_cons_zero] at e1
    clear hA
    refine ⟨((Rely.wanted_at rfl (by rfl) e12).trans (by rfl)), ?_⟩
    go_simp <;> (try with_reducible rfl)
  refine Rel7.Chain.det ?_ (by rfl) (fun T xs wr hA => ?_) ?_
  rotate_left 1
  · have e12 := hA.tm 6 12 (by rfl) (by rfl)
    have f12 : xs 6 = _ := hA.fa 6 (by rfl)
    (try simp (disch := first | rfl | decide) only [Rel7.mask_in] at f12)
    rw [f12] at e12
    clear f12
    have e13 := hA.tm 7 13 (by rfl) (by rfl)
    have f13 : xs 7 = _ := hA.fa 7 (by rfl)
    (try simp (disch := first | rfl | decide) only [Rel7.mask_in] at f13)
    rw [f13] at e13
    clear f13
    clear hA
    refine ⟨((Rely.wanted_at rfl (by rfl) e12).trans (by rfl)), ?_⟩
    go_simp <;> (try with_reducible rfl)
  refine Rel7.Chain.det ?_ (by rfl) (fun T xs wr hA => ?_) ?_
  rotate_left 1
  · have e12 := hA.tm 6 12 (by rfl) (by rfl)
    have f12 : xs 6 = _ := hA.fa 6 (by rfl)
    (try simp (disch := first | rfl | decide) only [Rel7.mask_in] at f12)
    rw [f12] at e12
    clear f12
    have e14 := hA.tm 8 14 (by rfl) (by rfl)
    have f14 : xs 8 = _ := hA.fa 8 (by rfl)
    (try simp (disch := first | rfl | decide) only [Rel7.mask_in] at f14)
    rw [f14] at e14
    clear f14
    clear hA
    refine ⟨((Rely.wanted_at rfl (by rfl) e12).trans (by rfl)), ?_⟩
    go_simp <;> (try with_reducible rfl)
  refine Rel7.Chain.det ?_ (by rfl) (fun T xs wr hA => ?_) ?_
  rotate_left 1
  · have e12 := hA.tm 6 12 (by rfl) (by rfl)
    have f12 : xs 6 = _ := hA.fa 6 (by rfl)
    (try simp (disch := first | rfl | decide) only [Rel7.mask_in] at f12)
    rw [f12] at e12
    clear f12
    have e15 := hA.tm 9 15 (by rfl) (by rfl)
    have f15 : xs 9 = _ := hA.fa 9 (by rfl)
    (try simp (disch := first | rfl | decide) only [Rel7.mask_in] at f15)
    rw [f15] at e15
    clear f15
    clear hA
    refine ⟨(by rfl), ?_⟩
    go_simp <;> (try with_reducible rfl)
  refine Rel7.Chain.det ?_ (by rfl) (fun T xs wr hA => ?_) ?_
  rotate_left 1
  · have e16 := hA.tm 10 16 (by rfl) (by rfl)
    have f16 : xs 10 = _ := hA.fa 10 (by rfl)
    (try simp (disch := first | rfl | decide) only [Rel7.mask_in] at f16)
    rw [f16] at e16
    clear f16
    clear hA
    refine ⟨(by rfl), ?_⟩
    go_simp <;> (try with_reducible rfl)
  refine Rel7.Chain.det ?_ (by rfl) (fun T xs wr hA => ?_) ?_
  rotate_left 1
  · have e17 := hA.tm 11 17 (by rfl) (by rfl)
    have f17 : xs 11 = _ := hA.fa 11 (by rfl)
    (try simp (disch := first | rfl | decide) only [Rel7.mask_in] at f17)
    rw [f17] at e17
    clear f17
    have e1 := hA.pre 1 (by kernel_rfl)
    simp only [List.getElem?_toArray, List.getElem?_cons_succ, List.getElem?_cons_zero] at e1
    clear hA
    refine ⟨((Rely.wanted_at rfl (by rfl) e17).trans (by rfl)), ?_⟩
    go_simp <;> (try with_reducible rfl)
  refine Rel7.Chain.det ?_ (by rfl) (fun T xs wr hA => ?_) ?_
  rotate_left 1
  · have e17 := hA.tm 11 17 (by rfl) (by rfl)
    have f17 : xs 11 = _ := hA.fa 11 (by rfl)
    (try simp (disch := first | rfl | decide) only [Rel7.mask_in] at f17)
    rw [f17] at e17
    clear f17
    have e18 := hA.tm 12 18 (by rfl) (by rfl)
    have f18 : xs 12 = _ := hA.fa 12 (by rfl)
    (try simp (disch := first | rfl | decide) only [Rel7.mask_in] at f18)
    rw [f18] at e18
    clear f18
    clear hA
    refine ⟨((Rely.wanted_at rfl (by rfl) e17).trans (by rfl)), ?_⟩
    go_simp <;> (try with_reducible rfl)
  refine Rel7.Chain.det ?_ (by rfl) (fun T xs wr hA => ?_) ?_
  rotate_left 1
  · have e17 := hA.tm 11 17 (by rfl) (by rfl)
    have f17 : xs 11 = _ := hA.fa 11 (by rfl)
    (try simp (disch := first | rfl | decide) only [Rel7.mask_in] at f17)
    rw [f17] at e17
    clear f17
    have e19 := hA.tm 13 19 (by rfl) (by rfl)
    have f19 : xs 13 = _ := hA.fa 13 (by rfl)
    (try simp (disch := first | rfl | decide) only [Rel7.mask_in] at f19)
    rw [f19] at e19
    clear f19
    have hbw := undrew (hA.be x4.heap.size (Nat.le_refl _) (fun q h => absurd h (Nat.not_lt_zero q)))
    have qd := (hbw.cell (by have := cell_lt D0.out; exact this)).trans D0.out
    clear hA
    refine ⟨((Rely.wanted_at rfl (by rfl) e17).trans (by rfl)), ?_⟩
    go_simp <;> (try with_reducible rfl)
  refine Rel7.Chain.det ?_ (by rfl) (fun T xs wr hA => ?_) ?_
  rotate_left 1
  · have e17 := hA.tm 11 17 (by rfl) (by rfl)
    have f17 : xs 11 = _ := hA.fa 11 (by rfl)
    (try simp (disch := first | rfl | decide) only [Rel7.mask_in] at f17)
    rw [f17] at e17
    clear f17
    have e20 := hA.tm 14 20 (by rfl) (by rfl)
    have f20 : xs 14 = _ := hA.fa 14 (by rfl)
    (try simp (disch := first | rfl | decide) only [Rel7.mask_in] at f20)
    rw [f20] at e20
    clear f20
    clear hA
    refine ⟨((Rely.wanted_at rfl (by rfl) e17).trans (by rfl)), ?_⟩
    go_simp <;> (try with_reducible rfl)
  refine Rel7.Chain.det ?_ (by rfl) (fun T xs wr hA => ?_) ?_
  rotate_left 1
  · have e17 := hA.tm 11 17 (by rfl) (by rfl)
    have f17 : xs 11 = _ := hA.fa 11 (by rfl)
    (try simp (disch := first | rfl | decide) only [Rel7.mask_in] at f17)
    rw [f17] at e17
    clear f17
    have e21 := hA.tm 15 21 (by rfl) (by rfl)
    have f21 : xs 15 = _ := hA.fa 15 (by rfl)
    (try simp (disch := first | rfl | decide) only [Rel7.mask_in] at f21)
    rw [f21] at e21
    clear f21
    clear hA
    refine ⟨((Rely.wanted_at rfl (by rfl) e17).trans (by rfl)), ?_⟩
    go_simp <;> (try with_reducible rfl)
  refine Rel7.Chain.det ?_ (by rfl) (fun T xs wr hA => ?_) ?_
  rotate_left 1
  · have e17 := hA.tm 11 17 (by rfl) (by rfl)
    have f17 : xs 11 = _ := hA.fa 11 (by rfl)
    (try simp (disch := first | rfl | decide) only [Rel7.mask_in] at f17)
    rw [f17] at e17
    clear f17
    have e22 := hA.tm 16 22 (by rfl) (by rfl)
    have f22 : xs 16 = _ := hA.fa 16 (by rfl)
    (try simp (disch := first | rfl | decide) only [Rel7.mask_in] at f22)
    rw [f22] at e22
    clear f22
    clear hA
    refine ⟨(by rfl), ?_⟩
    go_simp <;> (try with_reducible rfl)
  refine Rel7.Chain.det ?_ (by rfl) (fun T xs wr hA => ?_) ?_
  rotate_left 1
  · have e23 := hA.tm 17 23 (by rfl) (by rfl)
    have f23 : xs 17 = _ := hA.fa 17 (by rfl)
    (try simp (disch := first | rfl | decide) only [Rel7.mask_in] at f23)
    rw [f23] at e23
    clear f23
    clear hA
    refine ⟨(by rfl), ?_⟩
    go_simp <;> (try with_reducible rfl)
  refine Rel7.Chain.det ?_ (by rfl) (fun T xs wr hA => ?_) ?_
  rotate_left 1
  · have e24 := hA.tm 18 24 (by rfl) (by rfl)
    have f24 : xs 18 = _ := hA.fa 18 (by rfl)
    (try simp (disch := first | rfl | decide) only [Rel7.mask_in] at f24)
    rw [f24] at e24
    clear f24
    have e1 := hA.pre 1 (by kernel_rfl)
    simp only [List.getElem?_toArray, List.getElem?_cons_succ, List.getElem?_cons_zero] at e1
    clear hA
    refine ⟨((Rely.wanted_at rfl (by rfl) e24).trans (by rfl)), ?_⟩
    go_simp <;> (try with_reducible rfl)
  refine Rel7.Chain.det ?_ (by rfl) (fun T xs wr hA => ?_) ?_
  rotate_left 1
  · have e24 := hA.tm 18 24 (by rfl) (by rfl)
    have f24 : xs 18 = _ := hA.fa 18 (by rfl)
    (try simp (disch := first | rfl | decide) only [Rel7.mask_in] at f24)
    rw [f24] at e24
    clear f24
    have e25 := hA.tm 19 25 (by rfl) (by rfl)
    have f25 : xs 19 = _ := hA.fa 19 (by rfl)
    (try simp (disch := first | rfl | decide) only [Rel7.mask_in] at f25)
    rw [f25] at e25
    clear f25
    clear hA
    refine ⟨((Rely.wanted_at rfl (by rfl) e24).trans (by rfl)), ?_⟩
    go_simp <;> (try with_reducible rfl)
  refine Rel7.Chain.det ?_ (by rfl) (fun T xs wr hA => ?_) ?_
  rotate_left 1
  · have e24 := hA.tm 18 24 (by rfl) (by rfl)
    have f24 : xs 18 = _ := hA.fa 18 (by rfl)
    (try simp (disch := first | rfl | decide) only [Rel7.mask_in] at f24)
    rw [f24] at e24
    clear f24
    have e26 := hA.tm 20 26 (by rfl) (by rfl)
    have f26 : xs 20 = _ := hA.fa 20 (by rfl)
    (try simp (disch := first | rfl | decide) only [Rel7.mask_in] at f26)
    rw [f26] at e26
    clear f26
    have hbw := undrew (hA.be x4.heap.size (Nat.le_refl _) (fun q h => absurd h (Nat.not_lt_zero q)))
    have qd := (hbw.cell (by have := cell_lt D0.out; exact this)).trans D0.out
    clear hA
    refine ⟨((Rely.wanted_at rfl (by rfl) e24).trans (by rfl)), ?_⟩
    go_simp <;> (try with_reducible rfl)
  refine Rel7.Chain.det ?_ (by rfl) (fun T xs wr hA => ?_) ?_
  rotate_left 1
  · have e24 := hA.tm 18 24 (by rfl) (by rfl)
    have f24 : xs 18 = _ := hA.fa 18 (by rfl)
    (try simp (disch := first | rfl | decide) only [Rel7.mask_in] at f24)
    rw [f24] at e24
    clear f24
    have e27 := hA.tm 21 27 (by rfl) (by rfl)
    have f27 : xs 21 = _ := hA.fa 21 (by rfl)
    (try simp (disch := first | rfl | decide) only [Rel7.mask_in] at f27)
    rw [f27] at e27
    clear f27
    clear hA
    refine ⟨((Rely.wanted_at rfl (by rfl) e24).trans (by rfl)), ?_⟩
    go_simp <;> (try with_reducible rfl)
  refine Rel7.Chain.det ?_ (by rfl) (fun T xs wr hA => ?_) ?_
  rotate_left 1
  · have e24 := hA.tm 18 24 (by rfl) (by rfl)
    have f24 : xs 18 = _ := hA.fa 18 (by rfl)
    (try simp (disch := first | rfl | decide) only [Rel7.mask_in] at f24)
    rw [f24] at e24
    clear f24
    have e28 := hA.tm 22 28 (by rfl) (by rfl)
    have f28 : xs 22 = _ := hA.fa 22 (by rfl)
    (try simp (disch := first | rfl | decide) only [Rel7.mask_in] at f28)
    rw [f28] at e28
    clear f28
    clear hA
    refine ⟨((Rely.wanted_at rfl (by rfl) e24).trans (by rfl)), ?_⟩
    go_simp <;> (try with_reducible rfl)
  refine Rel7.Chain.det ?_ (by rfl) (fun T xs wr hA => ?_) ?_
  rotate_left 1
  · have e24 := hA.tm 18 24 (by rfl) (by rfl)
    have f24 : xs 18 = _ := hA.fa 18 (by rfl)
    (try simp (disch := first | rfl | decide) only [Rel7.mask_in] at f24)
    rw [f24] at e24
    clear f24
    have e29 := hA.tm 23 29 (by rfl) (by rfl)
    have f29 : xs 23 = _ := hA.fa 23 (by rfl)
    (try simp (disch := first | rfl | decide) only [Rel7.mask_in] at f29)
    rw [f29] at e29
    clear f29
    have hbw := undrew (hA.be x4.heap.size (Nat.le_refl _) (fun q h => absurd h (Nat.not_lt_zero q)))
    have qd1 := (hbw.cell (by have := cell_lt G1.out; exact this)).trans G1.out
    have qd2 := (hbw.cell (by have := cell_lt G2.out; exact this)).trans G2.out
    clear hA
    refine ⟨((Rely.wanted_at rfl (by rfl) e24).trans (by rfl)), ?_⟩
    go_simp <;> (try with_reducible rfl)
  refine Rel7.Chain.call (fun xs v w => CI w v (1) 2) (fun _ _ _ _ h hb => CI.below h hb) (fun _ _ _ _ _ _ h _ => by obtain ⟨q, hq, _⟩ := h; exact absurd hq (Nat.not_lt_zero _)) (by rfl) (fun T xs wr hA => ?_) ?_
  · have e24 := hA.tm 18 24 (by rfl) (by rfl)
    have f24 : xs 18 = _ := hA.fa 18 (by rfl)
    (try simp (disch := first | rfl | decide) only [Rel7.mask_in] at f24)
    rw [f24] at e24
    clear f24
    have hsw := (hA.be 0 (Nat.zero_le _) (fun _ _ => Nat.zero_le _)).size
    have hbw := undrew (hA.be x4.heap.size (Nat.le_refl _) (fun q h => absurd h (Nat.not_lt_zero q)))
    clear hA
    refine ⟨((Rely.wanted_at rfl (by rfl) e24).trans (by rfl)), fun K hK => ?_⟩
    go_simp
    refine (wof_any (1) wr (by decide) (by decide)).mono ?_
    rintro e w' ⟨v, rfl, hc, hb'⟩
    exact hK.out _ _ hc hb'
  refine Rel7.Chain.done (fun xs x5 hL => ?_)
  obtain ⟨⟨hbe, hbl⟩, hf, -, -⟩ := hL
  have F0 : CI x5 (xs 0) (1) 2 := hf 0 (by decide)
  have F1 : CI x5 (xs 1) (-2) 2 := hf 1 (by decide)
  have F2 : NL x5 (xs 2) [1, -2] := hf 2 (by decide)
  have F3 : VC x5 (xs 3) (.L [1, -2]) := hf 3 (by decide)
  have f4 : xs 4 = (.string ⟨#[91, 49, 44, 32, 45, 50, 93]⟩) := hf 4 (by decide)
  have f5 : xs 5 = (.bool true) := hf 5 (by decide)
  have f6 : xs 6 = _ := hf 6 (by decide)
  (try simp (disch := first | rfl | decide) only [Rel7.mask_in] at f6)
  have f7 : xs 7 = _ := hf 7 (by decide)
  (try simp (disch := first | rfl | decide) only [Rel7.mask_in] at f7)
  have f8 : xs 8 = _ := hf 8 (by decide)
  (try simp (disch := first | rfl | decide) only [Rel7.mask_in] at f8)
  have f9 : xs 9 = _ := hf 9 (by decide)
  (try simp (disch := first | rfl | decide) only [Rel7.mask_in] at f9)
  have f10 : xs 10 = _ := hf 10 (by decide)
  (try simp (disch := first | rfl | decide) only [Rel7.mask_in] at f10)
  have f11 : xs 11 = _ := hf 11 (by decide)
  (try simp (disch := first | rfl | decide) only [Rel7.mask_in] at f11)
  have f12 : xs 12 = _ := hf 12 (by decide)
  (try simp (disch := first | rfl | decide) only [Rel7.mask_in] at f12)
  have f13 : xs 13 = _ := hf 13 (by decide)
  (try simp (disch := first | rfl | decide) only [Rel7.mask_in] at f13)
  have f14 : xs 14 = _ := hf 14 (by decide)
  (try simp (disch := first | rfl | decide) only [Rel7.mask_in] at f14)
  have f15 : xs 15 = _ := hf 15 (by decide)
  (try simp (disch := first | rfl | decide) only [Rel7.mask_in] at f15)
  have f16 : xs 16 = _ := hf 16 (by decide)
  (try simp (disch := first | rfl | decide) only [Rel7.mask_in] at f16)
  have f17 : xs 17 = _ := hf 17 (by decide)
  (try simp (disch := first | rfl | decide) only [Rel7.mask_in] at f17)
  have f18 : xs 18 = _ := hf 18 (by decide)
  (try simp (disch := first | rfl | decide) only [Rel7.mask_in] at f18)
  have f19 : xs 19 = _ := hf 19 (by decide)
  (try simp (disch := first | rfl | decide) only [Rel7.mask_in] at f19)
  have f20 : xs 20 = _ := hf 20 (by decide)
  (try simp (disch := first | rfl | decide) only [Rel7.mask_in] at f20)
  have f21 : xs 21 = _ := hf 21 (by decide)
  (try simp (disch := first | rfl | decide) only [Rel7.mask_in] at f21)
  have f22 : xs 22 = _ := hf 22 (by decide)
  (try simp (disch := first | rfl | decide) only [Rel7.mask_in] at f22)
  have f23 : xs 23 = _ := hf 23 (by decide)
  (try simp (disch := first | rfl | decide) only [Rel7.mask_in] at f23)
  have f24 : xs 24 = _ := hf 24 (by decide)
  (try simp (disch := first | rfl | decide) only [Rel7.mask_in] at f24)
  have F25 : CI x5 (xs 25) (1) 2 := hf 25 (by decide)
  have hb0 : Below 0 x4 x5 := undrew (hbe 0 (Nat.zero_le _) (fun _ _ => Nat.zero_le _))
  have hgr : ∀ j, j < x4.heap.size → (∀ q, q < 0 → (fun q => 0) q ≠ j) → x5.heap[j]? = x4.heap[j]? := hbl
  clear hbe hbl hf
  have hb : Below x4.heap.size x4 x5 := ⟨hb0.os, hb0.tape, hb0.output, hb0.size, fun q hq => hgr q hq (fun q h => absurd h (Nat.not_lt_zero _))⟩
  refine Rel7.rest_list (by decide) (by kernel_rfl) ?_
  simp only [Rel7.fill, List.take_succ_cons, List.take_zero, List.drop_succ_cons, List.drop_zero, List.setIfInBounds_toArray, List.set_cons_zero, List.set_cons_succ, f4, f5, f6, f7, f8, f9, f10, f11, f12, f13, f14, f15, f16, f17, f18, f19, f20, f21, f22, f23, f24]
  clear hb0 hgr hog  f4 f5 f6 f7 f8 f9 f10 f11 f12 f13 f14 f15 f16 f17 f18 f19 f20 f21 f22 f23 f24
  replace HW := Lib.hid (HW.out.trans (hb.mono HW.out.size))
  replace HUR := Lib.hid (HUR.out.below hb)
  replace CI1 := Lib.hid (CI1.out.below hb)
  replace hb := Lib.hid hb
  rw [show (0 + 1 + 1 + 1 + 1 + 1 + 1 + 1 + 1 + 1 + 1 + 1 + 1 + 1 + 1 + 1 + 1 + 1 + 1 + 1 + 1 + 1 + 1 + 1 + 1 + 1 : Nat) = 25 from rfl]
  have H25 := Lib.hid F25.gi
  clear F0 F1 F2 F3 F25
  have CI2 := Lib.hid (show GI x5 (.agg #[.bool false, .slice bo bl bc]) 1 40 from CI1.out.gi)
  go_wp2_with fail
  refine (wcmp_any _ _ 1 1 40 2 x5 CI2.out H25.out (by decide) (by decide)).mono ?_
  rintro e x6 ⟨rfl, hb2⟩
  rw [show sgnZ (1 - 1) = 0 from rfl]
  replace HW := Lib.hid (HW.out.trans (hb2.mono HW.out.size))
  clear hb2
  go_wp2_with fail
  go_ret
  exact ⟨rfl, HW.out⟩
end Go.Proofs.YtocadojeanhalaaGreatDoor
