/-
  shorter, smaller, steps.
-/
import Derived.Test.YtocadojeanhalaaGreatDoorVlP
namespace Go.Proofs.YtocadojeanhalaaGreatDoor
open Go.RowKit
set_option maxRecDepth 100000
set_option linter.unusedVariables false
set_option linter.unusedSimpArgs false

theorem El.At.len {α : Type} {E : El α} {w : World} {ko : Option Addr} {n kc : Nat} {el : List α} (h : E.At w (.slice ko n kc) el) : n = el.length ∧ n ≤ kc ∧ kc ≤ maxLen := by
  obtain ⟨_, _, e, ⟨h1, h2, _⟩, _⟩ := h
  injection e with e1 e2 e3
  subst e2; subst e3
  exact ⟨rfl, h1, h2⟩
theorem El.At.pre {α : Type} {E : El α} {w : World} {ko : Option Addr} {n kc : Nat} {el : List α} (h : E.At w (.slice ko n kc) el) {j : Nat} (hj : j ≤ n) : E.At w (.slice ko j kc) (el.take j) := by
  obtain ⟨ko', kc', e, ⟨h1, h2, h3⟩, h4⟩ := h
  injection e with e1 e2 e3
  subst e1; subst e3
  have hl : (el.take j).length = j := by rw [List.length_take]; omega
  refine ⟨ko, kc, by rw [hl], ⟨by omega, h2, h3⟩, fun i hi => ?_⟩
  rw [hl] at hi
  obtain ⟨a, ha, hc, h5, h6⟩ := h4 i (by omega)
  rw [List.getElem_take]
  exact ⟨a, ha, hc, h5, h6⟩
/-- Where a slice's tail begins. -/
def tailA (ko : Option Addr) (j kc m : Nat) : Option Addr := if kc = j then ko else ko.map (·.add (j * m))
theorem El.At.tail {α : Type} {E : El α} {w : World} {ko : Option Addr} {n kc : Nat} {el : List α} (h : E.At w (.slice ko n kc) el) {j : Nat} (hj : j ≤ n) : E.At w (.slice (tailA ko j kc E.n) (n - j) (kc - j)) (el.drop j) := by
  obtain ⟨hn, -⟩ := h.len
  have h1 := h.sub (i := j) (j := n) hj (by omega)
  unfold sliced at h1
  rw [List.take_of_length_le (by rw [List.length_drop]; omega)] at h1
  exact h1
theorem ls_two {α : Type} {E : El α} {w : World} {g : Nat} {T : TypeId} {o1 o2 : Option Addr} {l1 l2 c1 c2 : Nat} {e1 e2 : List α} (h : w.heap[g]? = some (.cells #[.slice o1 l1 c1, .slice o2 l2 c2] T (0, 0))) (h1 : E.At w (.slice o1 l1 c1) e1) (h2 : E.At w (.slice o2 l2 c2) e2) : Ls E w ⟨g, 0, none⟩ [e1, e2] := by
  intro i hi
  match i, hi with
  | 0, _ => exact ⟨_, _, _, by rw [add_litV]; exact cell_at h 0 rfl, h1⟩
  | 1, _ => exact ⟨_, _, _, by rw [add_litV]; exact cell_at h 1 rfl, h2⟩
theorem ls_three {α : Type} {E : El α} {w : World} {g : Nat} {T : TypeId} {o1 o2 o3 : Option Addr} {l1 l2 l3 c1 c2 c3 : Nat} {e1 e2 e3 : List α} (h : w.heap[g]? = some (.cells #[.slice o1 l1 c1, .slice o2 l2 c2, .slice o3 l3 c3] T (0, 0))) (h1 : E.At w (.slice o1 l1 c1) e1) (h2 : E.At w (.slice o2 l2 c2) e2) (h3 : E.At w (.slice o3 l3 c3) e3) : Ls E w ⟨g, 0, none⟩ [e1, e2, e3] := by
  intro i hi
  match i, hi with
  | 0, _ => exact ⟨_, _, _, by rw [add_litV]; exact cell_at h 0 rfl, h1⟩
  | 1, _ => exact ⟨_, _, _, by rw [add_litV]; exact cell_at h 1 rfl, h2⟩
  | 2, _ => exact ⟨_, _, _, by rw [add_litV]; exact cell_at h 2 rfl, h3⟩
theorem shorter_len (zs : List Int) : (shorter zs).length = zs.length := by simp [shorter]
theorem shorter_at (zs : List Int) (j : Nat) (h : j < (shorter zs).length) : (shorter zs)[j] = zs.take j ++ zs.drop (j + 1) := by simp [shorter]
set_option maxHeartbeats 8000000 in
theorem shorter_p (va : Value) (zs : List Int) (we : World) (hx : NL we va zs) (hlen : zs.length ≤ 1000) :
    Calls Tryz.prog 42 #[va] we fun e w' => ∃ v us, e = .returned v ∧ vE.Row w' we.heap.size v us ∧ us.map (·.x) = (shorter zs).map .L ∧ Below we.heap.size we w' := by
  obtain ⟨ko, kc, rfl, ⟨hq1, hq2⟩, -⟩ := hx.form
  obtain ⟨ns, hat, hzs⟩ := hx
  have HX := Lib.hid hat
  have HZ := Lib.hid hzs
  obtain ⟨n, hn⟩ : ∃ n, n = zs.length := ⟨_, rfl⟩
  rw [← hn] at hlen hq1 HX ⊢
  have hmx : kc ≤ 9223372036854775807 := hq2
  have HN := Lib.hid hn
  clear hn hat hzs
  go_enter Tryz.func42, Tryz.ntmps42
  go_wp2_with fail
  go_loopw [3, 7] (MKrel we n ((shorter zs).map .L)) (fun _ i _ => n - (intOf i).toNat)
  case atStart => exact ⟨0, [], rfl, Nat.zero_le _, Lib.hid rfl, Lib.hid (El.Row.nil _ _), Lib.hid (Below.refl _ _)⟩
  case round =>
    obtain ⟨j, us, rfl, hj, HU, HR, HW⟩ := hrel
    obtain ⟨oo, oc, rfl, hol, hoc, -⟩ := HR.out.form
    have hyl : ((shorter zs).map V.L).length = n := by rw [List.length_map, shorter_len, ← HN.out]
    have hul := mk_len HU.out (by omega)
    have HUL := Lib.hid hul
    have HYL := Lib.hid hyl
    rw [hul] at hol
    clear hul hyl
    by_cases hlt : j < n
    · obtain ⟨wq, rfl⟩ : ∃ q, q = wr := ⟨_, rfl⟩
      obtain ⟨ta, hta⟩ : ∃ t, t = tailA ko (j + 1) kc 2 := ⟨_, rfl⟩
      have htb : (if kc = j + 1 then ko else Option.map (fun x => x.add ((j + 1) * 2)) ko) = ta := hta.symm
      have HTA := Lib.hid hta
      have hj1 : j + 1 ≤ n := hlt
      have hwj : IntKind.i64.wrap ((j : Int) + 1) = ((j + 1 : Nat) : Int) := by rw [IntKind.wrap_i64]; omega
      have hij1 : (0 : Int) ≤ (j : Int) + 1 := by omega
      have hij2 : (j : Int) + 1 ≤ (n : Int) := by omega
      have hjk : j ≤ kc := by omega
      clear hta
      go_upto_region 5 with fail
      have HP := Lib.hid ((HX.out.pre (j := j) (by omega)).below HW.out)
      have HQ : Hid (nE.At wq (.slice ta (n - (j + 1)) (kc - (j + 1))) (ns.drop (j + 1))) := Lib.hid (by rw [HTA.out]; exact ((HX.out.tail (j := j + 1) hj1).below HW.out))
      have hnl : ns.length ≤ 1000 := by have := HX.out.len.1; omega
      have hog : Hid (∀ q, q < 0 → (fun q => 0) q < wq.heap.size) := Lib.hid (fun q h => absurd h (Nat.not_lt_zero _))
      refine Rel7.region (by kernel_rfl) [[], [], [], [1, 2], [], [], [5], [4, 5, 6], [1, 2, 3, 4, 5, 6, 7], [1, 2, 3, 4, 5, 6, 7, 8], [1, 2, 3, 4, 5, 6, 7, 8, 9], [1, 2, 3, 4, 5, 6, 7, 8, 9, 10], [0, 1, 2, 3, 4, 5, 6, 7, 8, 9, 10, 11], [0, 1, 2, 3, 4, 5, 6, 7, 8, 9, 10, 11, 12]] [] [] (fun q => 0) 0 12 (by kernel_rfl) (by kernel_rfl) (by rfl) hog.out (fun q q' h h' hn => absurd hn (by omega)) ?_
      refine Rel7.Chain.det ?_ (by rfl) (fun T xs wr hA => ?_) ?_
      rotate_left 1
      · have e3 := hA.pre 3 (by kernel_rfl)
        simp only [List.getElem?_toArray, List.getElem?_cons_succ, List.getElem?_cons_zero] at e3
        clear hA
        refine ⟨(by rfl), ?_⟩
        go_simp <;> (try with_reducible rfl)
      refine Rel7.Chain.det ?_ (by rfl) (fun T xs wr hA => ?_) ?_
      rotate_left 1
      · have e0 := hA.pre 0 (by kernel_rfl)
        simp only [List.getElem?_toArray, List.getElem?_cons_zero] at e0
        clear hA
        refine ⟨(by rfl), ?_⟩
        go_simp <;> (try with_reducible rfl)
      refine Rel7.Chain.det ?_ (by rfl) (fun T xs wr hA => ?_) ?_
      rotate_left 1
      · have e4 := hA.pre 4 (by kernel_rfl)
        simp only [List.getElem?_toArray, List.getElem?_cons_succ, List.getElem?_cons_zero] at e4
        clear hA
        refine ⟨(by rfl), ?_⟩
        go_simp <;> (try with_reducible rfl)
      refine Rel7.Chain.det ?_ (by rfl) (fun T xs wr hA => ?_) ?_
      rotate_left 1
      · have e11 := hA.tm 1 11 (by rfl) (by rfl)
        have f11 : xs 1 = _ := hA.fa 1 (by rfl)
        (try simp (disch := first | rfl | decide) only [Rel7.mask_in] at f11)
        rw [f11] at e11
        clear f11
        have e12 := hA.tm 2 12 (by rfl) (by rfl)
        have f12 : xs 2 = _ := hA.fa 2 (by rfl)
        (try simp (disch := first | rfl | decide) only [Rel7.mask_in] at f12)
        rw [f12] at e12
        clear f12
        clear hA
        refine ⟨(by rfl), ?_⟩
        go_simp <;> (try with_reducible rfl)
      refine Rel7.Chain.det ?_ (by rfl) (fun T xs wr hA => ?_) ?_
      rotate_left 1
      · have e0 := hA.pre 0 (by kernel_rfl)
        simp only [List.getElem?_toArray, List.getElem?_cons_zero] at e0
        clear hA
        refine ⟨(by rfl), ?_⟩
        go_simp <;> (try with_reducible rfl)
      refine Rel7.Chain.det ?_ (by rfl) (fun T xs wr hA => ?_) ?_
      rotate_left 1
      · have e4 := hA.pre 4 (by kernel_rfl)
        simp only [List.getElem?_toArray, List.getElem?_cons_succ, List.getElem?_cons_zero] at e4
        clear hA
        refine ⟨(by rfl), ?_⟩
        go_simp <;> (try with_reducible rfl)
      refine Rel7.Chain.det ?_ (by rfl) (fun T xs wr hA => ?_) ?_
      rotate_left 1
      · have e15 := hA.tm 5 15 (by rfl) (by rfl)
        have f15 : xs 5 = _ := hA.fa 5 (by rfl)
        (try simp (disch := first | rfl | decide) only [Rel7.mask_in] at f15)
        rw [f15] at e15
        clear f15
        clear hA
        refine ⟨(by rfl), ?_⟩
        go_simp <;> (try with_reducible rfl)
      refine Rel7.Chain.det ?_ (by rfl) (fun T xs wr hA => ?_) ?_
      rotate_left 1
      · have e14 := hA.tm 4 14 (by rfl) (by rfl)
        have f14 : xs 4 = _ := hA.fa 4 (by rfl)
        (try simp (disch := first | rfl | decide) only [Rel7.mask_in] at f14)
        rw [f14] at e14
        clear f14
        have e16 := hA.tm 6 16 (by rfl) (by rfl)
        have f16 : xs 6 = _ := hA.fa 6 (by rfl)
        (try simp (disch := first | rfl | decide) only [Rel7.mask_in] at f16)
        rw [f16] at e16
        clear f16
        clear hA
        refine ⟨(by rfl), ?_⟩
        go_simp <;> (try with_reducible rfl)
      refine Rel7.Chain.call (fun xs v w => ∃ g, v = .slice (some ⟨g, 0, none⟩) 2 2 ∧ Ls nE w ⟨g, 0, none⟩ [ns.take j, ns.drop (j + 1)]) (fun _ _ _ _ h hb => by obtain ⟨g, h1, h2⟩ := h; exact ⟨g, h1, h2.below hb⟩) (fun _ _ _ _ _ _ h _ => by obtain ⟨q, hq, _⟩ := h; exact absurd hq (Nat.not_lt_zero _)) (by rfl) (fun T xs wr hA => ?_) ?_
      · have hsw := (hA.be 0 (Nat.zero_le _) (fun _ _ => Nat.zero_le _)).size
        have e13 := hA.tm 3 13 (by rfl) (by rfl)
        have f13 : xs 3 = _ := hA.fa 3 (by rfl)
        (try simp (disch := first | rfl | decide) only [Rel7.mask_in] at f13)
        rw [f13] at e13
        clear f13
        have e17 := hA.tm 7 17 (by rfl) (by rfl)
        have f17 : xs 7 = _ := hA.fa 7 (by rfl)
        (try simp (disch := first | rfl | decide) only [Rel7.mask_in] at f17)
        rw [f17] at e17
        clear f17
        have hbw := undrew (hA.be wq.heap.size (Nat.le_refl _) (fun q h => absurd h (Nat.not_lt_zero q)))
        clear hA
        refine ⟨(by rfl), fun K hK => ?_⟩
        go_simp
        exact hK.out _ _ ⟨_, rfl, ls_two (heap_alloc_new wr _) ((HP.out.below hbw).below ((Below.refl _ _).alloc (Nat.le_refl _) _)) ((HQ.out.below hbw).below ((Below.refl _ _).alloc (Nat.le_refl _) _))⟩ ((Below.refl _ _).alloc (Nat.le_refl _) _)
      refine Rel7.Chain.call (fun xs v w => nE.At w v (ns.take j ++ ns.drop (j + 1))) (fun _ _ _ _ h hb => El.At.below h hb) (fun _ _ _ _ _ _ h _ => by obtain ⟨q, hq, _⟩ := h; exact absurd hq (Nat.not_lt_zero _)) (by rfl) (fun T xs wr hA => ?_) ?_
      · have hsw := (hA.be 0 (Nat.zero_le _) (fun _ _ => Nat.zero_le _)).size
        have e18 := hA.tm 8 18 (by rfl) (by rfl)
        have hbw := undrew (hA.be wq.heap.size (Nat.le_refl _) (fun q h => absurd h (Nat.not_lt_zero q)))
        have hF8 : ∃ g, (xs 8) = .slice (some ⟨g, 0, none⟩) 2 2 ∧ Ls nE wr ⟨g, 0, none⟩ [ns.take j, ns.drop (j + 1)] := hA.fa 8 (by rfl)
        obtain ⟨g, hv, hls⟩ := hF8
        rw [hv] at e18
        clear hA
        refine ⟨(by rfl), fun K hK => ?_⟩
        go_simp
        refine (concatN_p ⟨g, 0, none⟩ 2 2 [ns.take j, ns.drop (j + 1)] wr hls rfl (by simp [maxLen]) (by simp [lenL]; omega) (by decide)).mono ?_
        rintro e w' ⟨v, rfl, ha, hb'⟩
        exact hK.out _ _ (by simpa using ha) hb'
      refine Rel7.Chain.call (fun xs v w => VC w v (.L (zs.take j ++ zs.drop (j + 1)))) (fun _ _ _ _ h hb => VC.below h hb) (fun _ _ _ _ _ _ h _ => by obtain ⟨q, hq, _⟩ := h; exact absurd hq (Nat.not_lt_zero _)) (by rfl) (fun T xs wr hA => ?_) ?_
      · have hsw := (hA.be 0 (Nat.zero_le _) (fun _ _ => Nat.zero_le _)).size
        have e19 := hA.tm 9 19 (by rfl) (by rfl)
        have hbw := undrew (hA.be wq.heap.size (Nat.le_refl _) (fun q h => absurd h (Nat.not_lt_zero q)))
        have hF9 : nE.At wr (xs 9) (ns.take j ++ ns.drop (j + 1)) := hA.fa 9 (by rfl)
        have ha9 := hF9
        clear hA
        refine ⟨(by rfl), fun K hK => ?_⟩
        go_simp
        refine (ofList_p _ (zs.take j ++ zs.drop (j + 1)) wr ⟨_, ha9, by rw [← HZ.out, List.map_append, List.map_take, List.map_drop]⟩ (by have := HN.out; simp; omega)).mono ?_
        rintro e w' ⟨v, rfl, ha, hb'⟩
        exact hK.out _ _ ha hb'
      refine Rel7.Chain.call (fun xs v w => ∃ u, vE.At w v [u] ∧ u.x = .L (zs.take j ++ zs.drop (j + 1))) (fun _ _ _ _ h hb => by obtain ⟨u, h1, h2⟩ := h; exact ⟨u, El.At.below h1 hb, h2⟩) (fun _ _ _ _ _ _ h _ => by obtain ⟨q, hq, _⟩ := h; exact absurd hq (Nat.not_lt_zero _)) (by rfl) (fun T xs wr hA => ?_) ?_
      · have hsw := (hA.be 0 (Nat.zero_le _) (fun _ _ => Nat.zero_le _)).size
        have e20 := hA.tm 10 20 (by rfl) (by rfl)
        have hbw := undrew (hA.be wq.heap.size (Nat.le_refl _) (fun q h => absurd h (Nat.not_lt_zero q)))
        have hF10 : VC wr (xs 10) (.L (zs.take j ++ zs.drop (j + 1))) := hA.fa 10 (by rfl)
        obtain ⟨u, uk, ub, uo, ul, uc, ud, up, um, uq, hv, hue, hux, hur⟩ := hF10.unit
        rw [hv] at e20
        clear hA
        refine ⟨(by rfl), fun K hK => ?_⟩
        go_simp
        exact hK.out _ _ ⟨u, one_atV (heap_alloc_new wr _) hue (hur.below ((Below.refl _ _).alloc (Nat.le_refl _) _)), hux⟩ ((Below.refl _ _).alloc (Nat.le_refl _) _)
      refine Rel7.Chain.done (fun xs x11 hL => ?_)
      obtain ⟨⟨hbe, hbl⟩, hf, -, -⟩ := hL
      have f0 : xs 0 = _ := hf 0 (by decide)
      (try simp (disch := first | rfl | decide) only [Rel7.mask_in] at f0)
      have f1 : xs 1 = _ := hf 1 (by decide)
      (try simp (disch := first | rfl | decide) only [Rel7.mask_in] at f1)
      have f2 : xs 2 = _ := hf 2 (by decide)
      (try simp (disch := first | rfl | decide) only [Rel7.mask_in] at f2)
      have f3 : xs 3 = _ := hf 3 (by decide)
      (try simp (disch := first | rfl | decide) only [Rel7.mask_in] at f3)
      have f4 : xs 4 = _ := hf 4 (by decide)
      (try simp (disch := first | rfl | decide) only [Rel7.mask_in] at f4)
      have f5 : xs 5 = _ := hf 5 (by decide)
      (try simp (disch := first | rfl | decide) only [Rel7.mask_in] at f5)
      have f6 : xs 6 = _ := hf 6 (by decide)
      (try simp (disch := first | rfl | decide) only [Rel7.mask_in] at f6)
      have f7 : xs 7 = _ := hf 7 (by decide)
      (try simp (disch := first | rfl | decide) only [Rel7.mask_in] at f7)
      have F8 : ∃ g, (xs 8) = .slice (some ⟨g, 0, none⟩) 2 2 ∧ Ls nE x11 ⟨g, 0, none⟩ [ns.take j, ns.drop (j + 1)] := hf 8 (by decide)
      have F9 : nE.At x11 (xs 9) (ns.take j ++ ns.drop (j + 1)) := hf 9 (by decide)
      have F10 : VC x11 (xs 10) (.L (zs.take j ++ zs.drop (j + 1))) := hf 10 (by decide)
      have F11 : ∃ u, vE.At x11 (xs 11) [u] ∧ u.x = .L (zs.take j ++ zs.drop (j + 1)) := hf 11 (by decide)
      have hb0 : Below 0 wq x11 := undrew (hbe 0 (Nat.zero_le _) (fun _ _ => Nat.zero_le _))
      have hgr : ∀ j, j < wq.heap.size → (∀ q, q < 0 → (fun q => 0) q ≠ j) → x11.heap[j]? = wq.heap[j]? := hbl
      clear hbe hbl hf
      have hb : Below wq.heap.size wq x11 := ⟨hb0.os, hb0.tape, hb0.output, hb0.size, fun q hq => hgr q hq (fun q h => absurd h (Nat.not_lt_zero _))⟩
      refine Rel7.rest_list (by decide) (by kernel_rfl) ?_
      simp only [Rel7.fill, List.take_succ_cons, List.take_zero, List.drop_succ_cons, List.drop_zero, List.setIfInBounds_toArray, List.set_cons_zero, List.set_cons_succ, f0, f1, f2, f3, f4, f5, f6, f7]
      clear hb0 hgr hog  f0 f1 f2 f3 f4 f5 f6 f7
      replace HR := Lib.hid (HR.out.below hb)
      replace HW := Lib.hid (HW.out.trans (hb.mono HW.out.size))
      replace hb := Lib.hid hb
      obtain ⟨u, hat, hux⟩ := F11
      rw [show (0 + 1 + 1 + 1 + 1 + 1 + 1 + 1 + 1 + 1 + 1 + 1 : Nat) = 11 from rfl]
      have HAT := Lib.hid hat
      have HUX := Lib.hid hux
      clear hat hux
      go_wp2_with (at_builtin; refine El.Row.append (E := vE) HR.out rfl (.tmp 10) (.tmp 21) rfl rfl rfl HAT.out (by have := HUL.out; simp; omega) HW.out.size ?_; intro v9 w9 r1 r2 r3 r4)
      go_roundw
      case rel => exact ⟨j + 1, us ++ [u], by go_num, hlt, Lib.hid (mk_next HU.out (by rw [HYL.out]; exact hlt) (by rw [HUX.out, List.getElem_map, shorter_at])), Lib.hid r1, Lib.hid (HW.out.trans r3)⟩
      case measure => simp [intOf]; omega
    · go_wp2_with fail
      exact bodyPost_ret (results_tmp Tryz.results42 _ _ _) rfl ⟨_, us, rfl, HR.out, by rw [HU.out, show j = ((shorter zs).map V.L).length by rw [HYL.out]; omega, List.take_length], HW.out⟩
theorem El.Row.base {α : Type} {E : El α} {w : World} {B B' : Nat} {v : Value} {el : List α} (h : E.Row w B v el) (hb : B' ≤ B) : E.Row w B' v el := by
  refine ⟨⟨h.own.1, ?_⟩, h.n32, h.rd⟩
  rcases h.own.2 with h1 | ⟨g, cap, cur, h1, h2, h3⟩
  · exact .inl h1
  · exact .inr ⟨g, cap, cur, h1, Nat.le_trans hb h2, h3⟩
theorem NL.unitAt {w : World} {ko : Option Addr} {n kc : Nat} {zs : List Int} (h : NL w (.slice ko n kc) zs) {i : Nat} (hi : i < zs.length) : ∃ (a : Addr) (u : NU) (b : Bool) (o : Option Addr) (l c : Nat), ko = some a ∧ nC u = [.bool b, .slice o l c] ∧ w.cell? (a.add (i * 2)) = some (.bool b) ∧ w.cell? ⟨(a.add (i * 2)).block, (a.add (i * 2)).off + 1, none⟩ = some (.slice o l c) ∧ u.z = zs[i] ∧ NR w u ∧ nV u = .agg #[.bool b, .slice o l c] := by
  obtain ⟨ns, hat, rfl⟩ := h
  obtain ⟨_, _, e, _, h3⟩ := hat
  injection e with e1 e2 e3
  subst e1
  have hi' : i < ns.length := by simpa using hi
  obtain ⟨a, ha, -, h4, h5⟩ := h3 i hi'
  exact ⟨a, ns[i], _, _, _, _, ha, rfl, h4 0 _ rfl, by have := h4 1 _ rfl; rw [← add_addV] at this; exact this, by simp, h5, rfl⟩
theorem VL.unitAt {w : World} {ko : Option Addr} {n kc : Nat} {xs : List V} (h : VL w (.slice ko n kc) xs) {i : Nat} (hi : i < xs.length) : ∃ (a : Addr) (u : VU) (k : Int) (b : Bool) (o : Option Addr) (l c : Nat) (d : Bool) (p : Option Addr) (m q : Nat), ko = some a ∧ vC u = [.int .i64 k, .bool b, .slice o l c, .bool d, .slice p m q] ∧
    (w.cell? (a.add (i * 5)) = some (.int .i64 k) ∧ w.cell? ⟨(a.add (i * 5)).block, (a.add (i * 5)).off + 1, none⟩ = some (.bool b) ∧ w.cell? ⟨(a.add (i * 5)).block, (a.add (i * 5)).off + 2, none⟩ = some (.slice o l c) ∧ w.cell? ⟨(a.add (i * 5)).block, (a.add (i * 5)).off + 3, none⟩ = some (.bool d) ∧ w.cell? ⟨(a.add (i * 5)).block, (a.add (i * 5)).off + 4, none⟩ = some (.slice p m q)) ∧
    u.x = xs[i] ∧ VR w u ∧ vV u = .agg #[.int .i64 k, .bool b, .slice o l c, .bool d, .slice p m q] := by
  obtain ⟨us, hat, rfl⟩ := h
  obtain ⟨_, _, e, _, h3⟩ := hat
  injection e with e1 e2 e3
  subst e1
  have hi' : i < us.length := by simpa using hi
  obtain ⟨a, ha, -, h4, h5⟩ := h3 i hi'
  have g : ∀ j q, (vC us[i])[j]? = some q → w.cell? ((a.add (i * 5)).add j) = some q := fun j q hj => by rw [add_addV]; exact h4 j q hj
  exact ⟨a, us[i], _, _, _, _, _, _, _, _, _, ha, rfl, ⟨g 0 _ rfl, g 1 _ rfl, g 2 _ rfl, g 3 _ rfl, g 4 _ rfl⟩, by simp, h5, rfl⟩
/-- The heads of two loops, one within the other, that append to one list. -/
def SOrel {α β : Type} (E : El α) (g : α → β) (we : World) (n : Nat) (P : Nat → List β) (ov iv : Value) (wr : World) : Prop :=
  ∃ (j : Nat) (us : List α), iv = .int .i64 (j : Nat) ∧ j ≤ n ∧ Hid (us.map g = P j) ∧ Hid (us.length ≤ 3000 * j) ∧ Hid (E.Row wr we.heap.size ov us) ∧ Hid (Below we.heap.size we wr)
def SMrel {α β γ : Type} (E : El α) (g : α → β) (we xL : World) (M b : Nat) (Pre : List β) (F : γ → β) (L : List γ) (ov iv : Value) (wr : World) : Prop :=
  ∃ (i : Nat) (us : List α), iv = .int .i64 (i : Nat) ∧ i ≤ M ∧ Hid (us.map g = Pre ++ (L.take i).map F) ∧ Hid (us.length ≤ b + i) ∧ Hid (E.Row wr we.heap.size ov us) ∧ Hid (Below we.heap.size we wr) ∧ Hid (Fr E.e xL wr)
def smallTo (zs : List Int) (j : Nat) : List (List Int) := (List.range j).flatMap fun i => (lesser (zs.getD i 0)).map fun m => zs.take i ++ [m] ++ zs.drop (i + 1)
theorem small_next (zs : List Int) (j : Nat) (hj : j < zs.length) : (smallTo zs (j + 1)).map V.L = (smallTo zs j).map V.L ++ (lesser zs[j]).map fun m => V.L (zs.take j ++ [m] ++ zs.drop (j + 1)) := by
  unfold smallTo
  rw [List.range_succ, List.flatMap_append, List.map_append]
  have e : zs.getD j 0 = zs[j] := by simp [List.getD, hj]
  simp only [List.flatMap_cons, List.flatMap_nil, List.append_nil, e, List.map_map]
  rfl
theorem lesser_le (z : Int) : (lesser z).length ≤ 2 := by unfold lesser; split; exact Nat.zero_le _; split <;> simp
theorem sm_next {α β γ : Type} {g : α → β} {us : List α} {u : α} {Pre : List β} {F : γ → β} {L : List γ} {i : Nat} (h : us.map g = Pre ++ (L.take i).map F) (hi : i < L.length) (hu : g u = F L[i]) : (us ++ [u]).map g = Pre ++ (L.take (i + 1)).map F := by
  rw [List.map_append, h, List.take_succ_eq_append_getElem hi, List.map_append, List.append_assoc]; simp [hu]
set_option maxHeartbeats 8000000 in
theorem smaller_p (va : Value) (zs : List Int) (we : World) (hx : NL we va zs) (hlen : zs.length ≤ 100) :
    Calls Tryz.prog 43 #[va] we fun e w' => ∃ v, e = .returned v ∧ VL w' v ((smaller zs).map .L) ∧ Below we.heap.size we w' := by
  obtain ⟨ko, kc, rfl, ⟨hq1, hq2⟩, -⟩ := hx.form
  have HN0 := Lib.hid hx
  obtain ⟨ns, hat, hzs⟩ := hx
  have HX := Lib.hid hat
  have HZ := Lib.hid hzs
  obtain ⟨n, hn⟩ : ∃ n, n = zs.length := ⟨_, rfl⟩
  rw [← hn] at hlen hq1 HX HN0 ⊢
  have hmx : kc ≤ 9223372036854775807 := hq2
  have HN := Lib.hid hn
  clear hn hat hzs
  go_enter Tryz.func43, Tryz.ntmps43
  go_wp2_with fail
  go_loopw [3, 10] (SOrel vE (·.x) we n (fun j => (smallTo zs j).map V.L)) (fun _ i _ => n - (intOf i).toNat)
  case atStart => exact ⟨0, [], rfl, Nat.zero_le _, Lib.hid rfl, Lib.hid (Nat.le_refl _), Lib.hid (El.Row.nil _ _), Lib.hid (Below.refl _ _)⟩
  case round =>
    obtain ⟨j, us, rfl, hj, HU, HUL, HR, HW⟩ := hrel
    obtain ⟨oo, oc, rfl, hol, hoc, -⟩ := HR.out.form
    by_cases hlt : j < n
    · obtain ⟨wq, rfl⟩ : ∃ q, q = wr := ⟨_, rfl⟩
      have hz : j < zs.length := by rw [← HN.out]; exact hlt
      obtain ⟨a, o, l, cc, rfl, c0, c1, hc⟩ := (HN0.out.below HW.out).cells.2 j hz
      obtain ⟨z, hzz⟩ : ∃ z, z = zs[j] := ⟨_, rfl⟩
      rw [← hzz] at c0 hc
      obtain ⟨sz, hsz⟩ : ∃ s, s = decide (z < 0) := ⟨_, rfl⟩
      rw [← hsz] at c0 hc
      have HZZ := Lib.hid hzz
      have HC := Lib.hid hc
      clear hzz hsz hc
      obtain ⟨x11, k5, e5, ek5, hb5, hk5, HB5⟩ := newV wq #[.bool sz, .slice o l cc] 29
      replace HR := Lib.hid (HR.out.below hb5.out)
      replace HW := Lib.hid (HW.out.trans (hb5.out.mono HW.out.size))
      replace HC := Lib.hid (HC.out.below hb5.out)
      have g0 := cell_at (v := .bool sz) HB5.out 0 rfl
      have fg0 := froz_at HB5.out 0
      have g1 := cell_at (v := .slice o l cc) HB5.out 1 rfl
      have fg1 := froz_at HB5.out 1
      go_wp2_with fail
      refine (lesser_p _ z x11 HC.out.gi).mono ?_
      rintro e x12 ⟨v, rfl, hL, hb⟩
      clear g0 fg0 g1 fg1
      replace HB5 := kBV hb HB5
      replace HR := Lib.hid (HR.out.below hb)
      replace HW := Lib.hid (HW.out.trans (hb.mono HW.out.size))
      replace HC := Lib.hid (HC.out.below hb)
      clear hb
      obtain ⟨po, pc, rfl, ⟨hp1, hp2⟩, -⟩ := hL.form
      have HL := Lib.hid hL
      obtain ⟨M, hM⟩ : ∃ M, M = (lesser z).length := ⟨_, rfl⟩
      have hM2 : M ≤ 2 := by rw [hM]; exact lesser_le z
      rw [← hM] at HL hp1 ⊢
      have hmp : pc ≤ 9223372036854775807 := hp2
      have HM := Lib.hid hM
      clear hL hM HB5
      go_wp2_with fail
      go_loopw [3, 18] (SMrel vE (·.x) we x12 M (3000 * j) ((smallTo zs j).map V.L) (fun m => V.L (zs.take j ++ [m] ++ zs.drop (j + 1))) (lesser z)) (fun _ i _ => M - (intOf i).toNat)
      case atStart => exact ⟨0, us, rfl, Nat.zero_le _, Lib.hid (by rw [HU.out]; simp), Lib.hid HUL.out, HR, HW, Lib.hid (Fr.refl _ _)⟩
      case round =>
        clear HR HW HU HUL
        obtain ⟨i, us, rfl, hi, HU, HUL, HR, HW, HF⟩ := hrel
        obtain ⟨oo, oc, rfl, hol, hoc, -⟩ := HR.out.form
        by_cases hli : i < M
        · obtain ⟨wp, rfl⟩ : ∃ q, q = wr := ⟨_, rfl⟩
          have hiL : i < (lesser z).length := by rw [← HM.out]; exact hli
          obtain ⟨pa, nu, nb, no, nl, ncc, rfl, hne, d0, d1, hnz, hnr, -⟩ := (HL.out.fr (by decide) HF.out).unitAt hiL
          have HNE := Lib.hid hne
          have HNZ := Lib.hid hnz
          have HNR := Lib.hid hnr
          clear hne hnz hnr
          obtain ⟨x31, k7, e7, ek7, hb7, hk7, HB7⟩ := newV wp #[.bool nb, .slice no nl ncc] 29
          replace HR := Lib.hid (HR.out.below hb7.out)
          replace HW := Lib.hid (HW.out.trans (hb7.out.mono HW.out.size))
          replace HF := Lib.hid (HF.out.trans (Fr.of_below hb7.out))
          replace HNR := Lib.hid (nE.below HNR.out hb7.out)
          obtain ⟨ta, hta⟩ : ∃ t, t = tailA (some a) (j + 1) kc 2 := ⟨_, rfl⟩
          have htb : (if kc = j + 1 then some a else some (a.add ((j + 1) * 2))) = ta := hta.symm
          have HTA := Lib.hid hta
          have hj1 : j + 1 ≤ n := hlt
          have hwj : IntKind.i64.wrap ((j : Int) + 1) = ((j + 1 : Nat) : Int) := by rw [IntKind.wrap_i64]; omega
          have hij1 : (0 : Int) ≤ (j : Int) + 1 := by omega
          have hij2 : (j : Int) + 1 ≤ (n : Int) := by omega
          have hjk : j ≤ kc := by omega
          clear hta
          go_upto_region 8 with fail
          clear d0 d1
          have HP := Lib.hid ((HX.out.pre (j := j) (by omega)).below HW.out)
          have HQ : Hid (nE.At x31 (.slice ta (n - (j + 1)) (kc - (j + 1))) (ns.drop (j + 1))) := Lib.hid (by rw [HTA.out]; exact ((HX.out.tail (j := j + 1) hj1).below HW.out))
          have hnl : ns.length ≤ 100 := by have := HX.out.len.1; omega
          have hlt_7 := lt_of_block HB7.out
          have hog : Hid (∀ q, q < 0 → (fun q => 0) q < x31.heap.size) := Lib.hid (fun q h => absurd h (Nat.not_lt_zero _))
          refine Rel7.region (by kernel_rfl) [[], [], [], [1, 2], [], [4], [], [], [7], [6, 7, 8], [1, 2, 3, 4, 5, 6, 7, 8, 9], [1, 2, 3, 4, 5, 6, 7, 8, 9, 10], [1, 2, 3, 4, 5, 6, 7, 8, 9, 10, 11], [1, 2, 3, 4, 5, 6, 7, 8, 9, 10, 11, 12], [0, 1, 2, 3, 4, 5, 6, 7, 8, 9, 10, 11, 12, 13], [0, 1, 2, 3, 4, 5, 6, 7, 8, 9, 10, 11, 12, 13, 14]] [] [] (fun q => 0) 0 14 (by kernel_rfl) (by kernel_rfl) (by rfl) hog.out (fun q q' h h' hn => absurd hn (by omega)) ?_
          refine Rel7.Chain.det ?_ (by rfl) (fun T xs wr hA => ?_) ?_
          rotate_left 1
          · have e3 := hA.pre 3 (by kernel_rfl)
            simp only [List.getElem?_toArray, List.getElem?_cons_succ, List.getElem?_cons_zero] at e3
            clear hA
            refine ⟨(by rfl), ?_⟩
            go_simp <;> (try with_reducible rfl)
          refine Rel7.Chain.det ?_ (by rfl) (fun T xs wr hA => ?_) ?_
          rotate_left 1
          · have e0 := hA.pre 0 (by kernel_rfl)
            simp only [List.getElem?_toArray, List.getElem?_cons_zero] at e0
            clear hA
            refine ⟨(by rfl), ?_⟩
            go_simp <;> (try with_reducible rfl)
          refine Rel7.Chain.det ?_ (by rfl) (fun T xs wr hA => ?_) ?_
          rotate_left 1
          · have e4 := hA.pre 4 (by kernel_rfl)
            simp only [List.getElem?_toArray, List.getElem?_cons_succ, List.getElem?_cons_zero] at e4
            clear hA
            refine ⟨(by rfl), ?_⟩
            go_simp <;> (try with_reducible rfl)
          refine Rel7.Chain.det ?_ (by rfl) (fun T xs wr hA => ?_) ?_
          rotate_left 1
          · have e23 := hA.tm 1 23 (by rfl) (by rfl)
            have f23 : xs 1 = _ := hA.fa 1 (by rfl)
            (try simp (disch := first | rfl | decide) only [Rel7.mask_in] at f23)
            rw [f23] at e23
            clear f23
            have e24 := hA.tm 2 24 (by rfl) (by rfl)
            have f24 : xs 2 = _ := hA.fa 2 (by rfl)
            (try simp (disch := first | rfl | decide) only [Rel7.mask_in] at f24)
            rw [f24] at e24
            clear f24
            clear hA
            refine ⟨(by rfl), ?_⟩
            go_simp <;> (try with_reducible rfl)
          refine Rel7.Chain.det ?_ (by rfl) (fun T xs wr hA => ?_) ?_
          rotate_left 1
          · have e7 := hA.pre 7 (by kernel_rfl)
            simp only [List.getElem?_toArray, List.getElem?_cons_succ, List.getElem?_cons_zero] at e7
            have hBq : wr.heap[k7]? = _ := (hA.bl _ hlt_7 (fun q h => absurd h (Nat.not_lt_zero _))).trans HB7.out
            have q0 := cell_at (v := .bool nb) hBq 0 rfl
            have q1 := cell_at (v := .slice no nl ncc) hBq 1 rfl
            clear hBq
            clear hA
            refine ⟨(by rfl), ?_⟩
            go_simp <;> (try with_reducible rfl)
          refine Rel7.Chain.call (fun xs v w => nE.At w v [nu]) (fun _ _ _ _ h hb => El.At.below h hb) (fun _ _ _ _ _ _ h _ => by obtain ⟨q, hq, _⟩ := h; exact absurd hq (Nat.not_lt_zero _)) (by rfl) (fun T xs wr hA => ?_) ?_
          · have hsw := (hA.be 0 (Nat.zero_le _) (fun _ _ => Nat.zero_le _)).size
            have e26 := hA.tm 4 26 (by rfl) (by rfl)
            have f26 : xs 4 = _ := hA.fa 4 (by rfl)
            (try simp (disch := first | rfl | decide) only [Rel7.mask_in] at f26)
            rw [f26] at e26
            clear f26
            have hbw := undrew (hA.be x31.heap.size (Nat.le_refl _) (fun q h => absurd h (Nat.not_lt_zero q)))
            clear hA
            refine ⟨(by rfl), fun K hK => ?_⟩
            go_simp
            exact hK.out _ _ (one_atN (heap_alloc_new wr _) HNE.out (nE.below (nE.below HNR.out hbw) ((Below.refl _ _).alloc (Nat.le_refl _) _))) ((Below.refl _ _).alloc (Nat.le_refl _) _)
          refine Rel7.Chain.det ?_ (by rfl) (fun T xs wr hA => ?_) ?_
          rotate_left 1
          · have e0 := hA.pre 0 (by kernel_rfl)
            simp only [List.getElem?_toArray, List.getElem?_cons_zero] at e0
            clear hA
            refine ⟨(by rfl), ?_⟩
            go_simp <;> (try with_reducible rfl)
          refine Rel7.Chain.det ?_ (by rfl) (fun T xs wr hA => ?_) ?_
          rotate_left 1
          · have e4 := hA.pre 4 (by kernel_rfl)
            simp only [List.getElem?_toArray, List.getElem?_cons_succ, List.getElem?_cons_zero] at e4
            clear hA
            refine ⟨(by rfl), ?_⟩
            go_simp <;> (try with_reducible rfl)
          refine Rel7.Chain.det ?_ (by rfl) (fun T xs wr hA => ?_) ?_
          rotate_left 1
          · have e29 := hA.tm 7 29 (by rfl) (by rfl)
            have f29 : xs 7 = _ := hA.fa 7 (by rfl)
            (try simp (disch := first | rfl | decide) only [Rel7.mask_in] at f29)
            rw [f29] at e29
            clear f29
            clear hA
            refine ⟨(by rfl), ?_⟩
            go_simp <;> (try with_reducible rfl)
          refine Rel7.Chain.det ?_ (by rfl) (fun T xs wr hA => ?_) ?_
          rotate_left 1
          · have e28 := hA.tm 6 28 (by rfl) (by rfl)
            have f28 : xs 6 = _ := hA.fa 6 (by rfl)
            (try simp (disch := first | rfl | decide) only [Rel7.mask_in] at f28)
            rw [f28] at e28
            clear f28
            have e30 := hA.tm 8 30 (by rfl) (by rfl)
            have f30 : xs 8 = _ := hA.fa 8 (by rfl)
            (try simp (disch := first | rfl | decide) only [Rel7.mask_in] at f30)
            rw [f30] at e30
            clear f30
            clear hA
            refine ⟨(by rfl), ?_⟩
            go_simp <;> (try with_reducible rfl)
          refine Rel7.Chain.call (fun xs v w => ∃ g, v = .slice (some ⟨g, 0, none⟩) 3 3 ∧ Ls nE w ⟨g, 0, none⟩ [ns.take j, [nu], ns.drop (j + 1)]) (fun _ _ _ _ h hb => by obtain ⟨g, h1, h2⟩ := h; exact ⟨g, h1, h2.below hb⟩) (fun _ _ _ _ _ _ h _ => by obtain ⟨q, hq, _⟩ := h; exact absurd hq (Nat.not_lt_zero _)) (by rfl) (fun T xs wr hA => ?_) ?_
          · have hsw := (hA.be 0 (Nat.zero_le _) (fun _ _ => Nat.zero_le _)).size
            have e25 := hA.tm 3 25 (by rfl) (by rfl)
            have f25 : xs 3 = _ := hA.fa 3 (by rfl)
            (try simp (disch := first | rfl | decide) only [Rel7.mask_in] at f25)
            rw [f25] at e25
            clear f25
            have e27 := hA.tm 5 27 (by rfl) (by rfl)
            have e31 := hA.tm 9 31 (by rfl) (by rfl)
            have f31 : xs 9 = _ := hA.fa 9 (by rfl)
            (try simp (disch := first | rfl | decide) only [Rel7.mask_in] at f31)
            rw [f31] at e31
            clear f31
            have hbw := undrew (hA.be x31.heap.size (Nat.le_refl _) (fun q h => absurd h (Nat.not_lt_zero q)))
            have hF5 : nE.At wr (xs 5) [nu] := hA.fa 5 (by rfl)
            have h5 := hF5
            obtain ⟨o5, c5, hv5, -⟩ := id h5
            rw [hv5] at e27 h5
            clear hA
            refine ⟨(by rfl), fun K hK => ?_⟩
            go_simp
            exact hK.out _ _ ⟨_, rfl, ls_three (heap_alloc_new wr _) ((HP.out.below hbw).below ((Below.refl _ _).alloc (Nat.le_refl _) _)) (h5.below ((Below.refl _ _).alloc (Nat.le_refl _) _)) ((HQ.out.below hbw).below ((Below.refl _ _).alloc (Nat.le_refl _) _))⟩ ((Below.refl _ _).alloc (Nat.le_refl _) _)
          refine Rel7.Chain.call (fun xs v w => nE.At w v (ns.take j ++ ([nu] ++ ns.drop (j + 1)))) (fun _ _ _ _ h hb => El.At.below h hb) (fun _ _ _ _ _ _ h _ => by obtain ⟨q, hq, _⟩ := h; exact absurd hq (Nat.not_lt_zero _)) (by rfl) (fun T xs wr hA => ?_) ?_
          · have hsw := (hA.be 0 (Nat.zero_le _) (fun _ _ => Nat.zero_le _)).size
            have e32 := hA.tm 10 32 (by rfl) (by rfl)
            have hbw := undrew (hA.be x31.heap.size (Nat.le_refl _) (fun q h => absurd h (Nat.not_lt_zero q)))
            have hF10 : ∃ g, (xs 10) = .slice (some ⟨g, 0, none⟩) 3 3 ∧ Ls nE wr ⟨g, 0, none⟩ [ns.take j, [nu], ns.drop (j + 1)] := hA.fa 10 (by rfl)
            obtain ⟨g, hv, hls⟩ := hF10
            rw [hv] at e32
            clear hA
            refine ⟨(by rfl), fun K hK => ?_⟩
            go_simp
            refine (concatN_p ⟨g, 0, none⟩ 3 3 [ns.take j, [nu], ns.drop (j + 1)] wr hls rfl (by simp [maxLen]) (by simp [lenL]; omega) (by decide)).mono ?_
            rintro e w' ⟨v, rfl, ha, hb'⟩
            exact hK.out _ _ (by simpa using ha) hb'
          refine Rel7.Chain.call (fun xs v w => VC w v (.L (zs.take j ++ [nu.z] ++ zs.drop (j + 1)))) (fun _ _ _ _ h hb => VC.below h hb) (fun _ _ _ _ _ _ h _ => by obtain ⟨q, hq, _⟩ := h; exact absurd hq (Nat.not_lt_zero _)) (by rfl) (fun T xs wr hA => ?_) ?_
          · have hsw := (hA.be 0 (Nat.zero_le _) (fun _ _ => Nat.zero_le _)).size
            have e33 := hA.tm 11 33 (by rfl) (by rfl)
            have hbw := undrew (hA.be x31.heap.size (Nat.le_refl _) (fun q h => absurd h (Nat.not_lt_zero q)))
            have hF11 : nE.At wr (xs 11) (ns.take j ++ ([nu] ++ ns.drop (j + 1))) := hA.fa 11 (by rfl)
            have ha9 := hF11
            clear hA
            refine ⟨(by rfl), fun K hK => ?_⟩
            go_simp
            refine (ofList_p _ (zs.take j ++ [nu.z] ++ zs.drop (j + 1)) wr ⟨_, ha9, by rw [← HZ.out]; simp⟩ (by have := HN.out; simp; omega)).mono ?_
            rintro e w' ⟨v, rfl, ha, hb'⟩
            exact hK.out _ _ ha hb'
          refine Rel7.Chain.call (fun xs v w => ∃ u, vE.At w v [u] ∧ u.x = .L (zs.take j ++ [nu.z] ++ zs.drop (j + 1))) (fun _ _ _ _ h hb => by obtain ⟨u, h1, h2⟩ := h; exact ⟨u, El.At.below h1 hb, h2⟩) (fun _ _ _ _ _ _ h _ => by obtain ⟨q, hq, _⟩ := h; exact absurd hq (Nat.not_lt_zero _)) (by rfl) (fun T xs wr hA => ?_) ?_
          · have hsw := (hA.be 0 (Nat.zero_le _) (fun _ _ => Nat.zero_le _)).size
            have e34 := hA.tm 12 34 (by rfl) (by rfl)
            have hbw := undrew (hA.be x31.heap.size (Nat.le_refl _) (fun q h => absurd h (Nat.not_lt_zero q)))
            have hF12 : VC wr (xs 12) (.L (zs.take j ++ [nu.z] ++ zs.drop (j + 1))) := hA.fa 12 (by rfl)
            obtain ⟨u, uk, ub, uo, ul, uc, ud, up, um, uq, hv, hue, hux, hur⟩ := hF12.unit
            rw [hv] at e34
            clear hA
            refine ⟨(by rfl), fun K hK => ?_⟩
            go_simp
            exact hK.out _ _ ⟨u, one_atV (heap_alloc_new wr _) hue (hur.below ((Below.refl _ _).alloc (Nat.le_refl _) _)), hux⟩ ((Below.refl _ _).alloc (Nat.le_refl _) _)
          refine Rel7.Chain.done (fun xs x32 hL => ?_)
          obtain ⟨⟨hbe, hbl⟩, hf, -, -⟩ := hL
          have f0 : xs 0 = _ := hf 0 (by decide)
          (try simp (disch := first | rfl | decide) only [Rel7.mask_in] at f0)
          have f1 : xs 1 = _ := hf 1 (by decide)
          (try simp (disch := first | rfl | decide) only [Rel7.mask_in] at f1)
          have f2 : xs 2 = _ := hf 2 (by decide)
          (try simp (disch := first | rfl | decide) only [Rel7.mask_in] at f2)
          have f3 : xs 3 = _ := hf 3 (by decide)
          (try simp (disch := first | rfl | decide) only [Rel7.mask_in] at f3)
          have f4 : xs 4 = _ := hf 4 (by decide)
          (try simp (disch := first | rfl | decide) only [Rel7.mask_in] at f4)
          have F5 : nE.At x32 (xs 5) [nu] := hf 5 (by decide)
          have f6 : xs 6 = _ := hf 6 (by decide)
          (try simp (disch := first | rfl | decide) only [Rel7.mask_in] at f6)
          have f7 : xs 7 = _ := hf 7 (by decide)
          (try simp (disch := first | rfl | decide) only [Rel7.mask_in] at f7)
          have f8 : xs 8 = _ := hf 8 (by decide)
          (try simp (disch := first | rfl | decide) only [Rel7.mask_in] at f8)
          have f9 : xs 9 = _ := hf 9 (by decide)
          (try simp (disch := first | rfl | decide) only [Rel7.mask_in] at f9)
          have F10 : ∃ g, (xs 10) = .slice (some ⟨g, 0, none⟩) 3 3 ∧ Ls nE x32 ⟨g, 0, none⟩ [ns.take j, [nu], ns.drop (j + 1)] := hf 10 (by decide)
          have F11 : nE.At x32 (xs 11) (ns.take j ++ ([nu] ++ ns.drop (j + 1))) := hf 11 (by decide)
          have F12 : VC x32 (xs 12) (.L (zs.take j ++ [nu.z] ++ zs.drop (j + 1))) := hf 12 (by decide)
          have F13 : ∃ u, vE.At x32 (xs 13) [u] ∧ u.x = .L (zs.take j ++ [nu.z] ++ zs.drop (j + 1)) := hf 13 (by decide)
          have hb0 : Below 0 x31 x32 := undrew (hbe 0 (Nat.zero_le _) (fun _ _ => Nat.zero_le _))
          have hgr : ∀ j, j < x31.heap.size → (∀ q, q < 0 → (fun q => 0) q ≠ j) → x32.heap[j]? = x31.heap[j]? := hbl
          clear hbe hbl hf
          have hb : Below x31.heap.size x31 x32 := ⟨hb0.os, hb0.tape, hb0.output, hb0.size, fun q hq => hgr q hq (fun q h => absurd h (Nat.not_lt_zero _))⟩
          refine Rel7.rest_list (by decide) (by kernel_rfl) ?_
          simp only [Rel7.fill, List.take_succ_cons, List.take_zero, List.drop_succ_cons, List.drop_zero, List.setIfInBounds_toArray, List.set_cons_zero, List.set_cons_succ, f0, f1, f2, f3, f4, f6, f7, f8, f9]
          clear hb0 hgr hog hlt_7 f0 f1 f2 f3 f4 f6 f7 f8 f9
          replace HB7 := kBV hb HB7
          replace HR := Lib.hid (HR.out.below hb)
          replace HW := Lib.hid (HW.out.trans (hb.mono HW.out.size))
          replace HF := Lib.hid (HF.out.trans (Fr.of_below hb))
          replace HNR := Lib.hid (nE.below HNR.out hb)
          replace hb := Lib.hid hb
          obtain ⟨u, hat, hux⟩ := F13
          rw [show (0 + 1 + 1 + 1 + 1 + 1 + 1 + 1 + 1 + 1 + 1 + 1 + 1 + 1 : Nat) = 13 from rfl]
          have HAT := Lib.hid hat
          have HUX := Lib.hid hux
          clear hat hux
          go_wp2_with (at_builtin; refine El.Row.append (E := vE) HR.out rfl (.tmp 22) (.tmp 35) rfl rfl rfl HAT.out (by have := HUL.out; simp; omega) HW.out.size ?_; intro v9 w9 r1 r2 r3 r4)
          go_roundw
          case rel => exact ⟨i + 1, us ++ [u], by go_num, hli, Lib.hid (sm_next HU.out hiL (by rw [HUX.out, HNZ.out])), Lib.hid (by have := HUL.out; simp; omega), Lib.hid r1, Lib.hid (HW.out.trans r3), Lib.hid (HF.out.trans r2)⟩
          case measure => simp [intOf]; omega
        · go_wp2_with fail
          go_roundw
          case rel => exact ⟨j + 1, us, by go_num, hlt, Lib.hid (by show _ = List.map V.L (smallTo zs (j + 1)); rw [HU.out, small_next zs j hz, ← HZZ.out, show i = (lesser z).length by rw [← HM.out]; omega, List.take_length]), Lib.hid (by have := HUL.out; omega), HR, HW⟩
          case measure => simp [intOf]; omega
    · go_wp2_with fail
      exact bodyPost_ret (results_tmp Tryz.results43 _ _ _) rfl ⟨_, rfl, ⟨us, HR.out.at, by rw [HU.out, show j = zs.length by rw [← HN.out]; omega]; rfl⟩, HW.out⟩
end Go.Proofs.YtocadojeanhalaaGreatDoor
