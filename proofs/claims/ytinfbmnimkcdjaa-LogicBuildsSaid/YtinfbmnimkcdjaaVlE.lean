/-
  The contract of value.OfList.
-/
import Derived.Test.YtinfbmnimkcdjaaVlD
namespace Go.Proofs.Ytinfbmnimkcdjaa
open Go.RowKit
set_option maxRecDepth 100000
set_option linter.unusedVariables false
set_option linter.unusedSimpArgs false

theorem NL.cells {w : World} {ko : Option Addr} {n kc : Nat} {zs : List Int} (h : NL w (.slice ko n kc) zs) : (n = zs.length ∧ n ≤ kc ∧ kc ≤ maxLen) ∧ ∀ i (hi : i < zs.length), ∃ a o l c, ko = some a ∧ w.cell? (a.add (i * 2)) = some (.bool (decide (zs[i] < 0))) ∧ w.cell? ⟨(a.add (i * 2)).block, (a.add (i * 2)).off + 1, none⟩ = some (.slice o l c) ∧ CI w (.agg #[.bool (decide (zs[i] < 0)), .slice o l c]) zs[i] 600 := by
  obtain ⟨ko', kc', e, ⟨h1, h2⟩, h3⟩ := h.form
  injection e with e1 e2 e3
  subst e1; subst e2; subst e3
  exact ⟨⟨rfl, h1, h2⟩, h3⟩
theorem VL.cells {w : World} {ko : Option Addr} {n kc : Nat} {xs : List V} (h : VL w (.slice ko n kc) xs) : (n = xs.length ∧ n ≤ kc ∧ kc ≤ maxLen) ∧ ∀ i (hi : i < xs.length), ∃ a k b o l c d p m q, ko = some a ∧
    (w.cell? (a.add (i * 5)) = some (.int .i64 k) ∧ w.cell? ⟨(a.add (i * 5)).block, (a.add (i * 5)).off + 1, none⟩ = some (.bool b) ∧ w.cell? ⟨(a.add (i * 5)).block, (a.add (i * 5)).off + 2, none⟩ = some (.slice o l c) ∧ w.cell? ⟨(a.add (i * 5)).block, (a.add (i * 5)).off + 3, none⟩ = some (.bool d) ∧ w.cell? ⟨(a.add (i * 5)).block, (a.add (i * 5)).off + 4, none⟩ = some (.slice p m q)) ∧
    VC w (.agg #[.int .i64 k, .bool b, .slice o l c, .bool d, .slice p m q]) xs[i] := by
  obtain ⟨ko', kc', e, ⟨h1, h2⟩, h3⟩ := h.form
  injection e with e1 e2 e3
  subst e1; subst e2; subst e3
  exact ⟨⟨rfl, h1, h2⟩, h3⟩
theorem take_set_map {el : List NU} {zs : List Int} {j : Nat} {n : NU} (h : (el.take j).map (·.z) = zs.take j) (hj : j < el.length) (hz : j < zs.length) (hn : n.z = zs[j]) : ((el.set j n).take (j + 1)).map (·.z) = zs.take (j + 1) := by
  rw [List.take_succ_eq_append_getElem (by simpa using hj), List.take_set_of_le (Nat.le_refl _), List.getElem_set_self, List.map_append, h, List.take_succ_eq_append_getElem hz]
  simp [hn]
theorem Row.at2 {w : World} {B g n kc : Nat} {el : List NU} (h : nE.Row w B (.slice (some ⟨g, 0, none⟩) n kc) el) (hn : n = el.length) {i : Nat} (hi : i < n) : ∃ q : NU, w.cell? ⟨g, i * 2, none⟩ = some (.bool (decide (q.z < 0))) ∧ w.cell? ⟨g, i * 2 + 1, none⟩ = some (.slice q.o q.l q.c) ∧ w.frozen? ⟨g, i * 2, none⟩ = false ∧ w.frozen? ⟨g, i * 2 + 1, none⟩ = false := by
  have h0 := h.own
  rw [← hn] at h0
  refine ⟨el[i]'(by omega), ?_, ?_, World.ownsRow.frozenAt h0 _, World.ownsRow.frozenAt h0 _⟩
  · rw [World.ownsRow.cellAt h0 (i * 2) (by show i * 2 < n * 2; omega)]
    exact flat_atV (n := 2) nC (fun _ => rfl) el i 0 (by omega) (by decide)
  · rw [World.ownsRow.cellAt h0 (i * 2 + 1) (by show i * 2 + 1 < n * 2; omega)]
    exact flat_atV (n := 2) nC (fun _ => rfl) el i 1 (by omega) (by decide)
/-- What holds at the head of OfList's loop. -/
def OLrel (w : World) (k1 k2 k3 n : Nat) (zs : List Int) (i : Value) (wr : World) : Prop :=
  ∃ (j : Nat) (el : List NU), i = .int .i64 (j : Nat) ∧ j ≤ n ∧ Hid (el.length = n ∧ (el.take j).map (·.z) = zs.take j) ∧ Hid (nE.Row wr w.heap.size (.slice (some ⟨k2, 0, none⟩) n n) el) ∧
    Hid (wr.heap[k1]? = some (.cells #[.int .i64 0, .bool false, .slice none 0 0, .bool false, .slice none 0 0] 41 (0, 0))) ∧ Hid (wr.heap[k3]? = some (.cells #[.int .i64 2, .bool false, .slice none 0 0, .bool false, .slice (some ⟨k2, 0, none⟩) n n] 41 (0, 0))) ∧ Hid (Below w.heap.size w wr)

set_option maxHeartbeats 4000000 in
theorem ofList_p (va : Value) (zs : List Int) (w : World) (hx : NL w va zs) (hlen : zs.length ≤ 100000) :
    Calls Try.prog 42 #[va] w fun e w' => ∃ v, e = .returned v ∧ VC w' v (.L zs) ∧ Below w.heap.size w w' := by
  obtain ⟨ko, kc, rfl, ⟨hq1, hq2⟩, -⟩ := hx.form
  have HX := Lib.hid hx
  clear hx
  obtain ⟨n, hn⟩ : ∃ n, n = zs.length := ⟨_, rfl⟩
  rw [← hn] at hlen hq1 HX ⊢
  have hmx : kc ≤ 9223372036854775807 := hq2
  have HN := Lib.hid hn
  clear hn
  go_enter Try.func42, Try.ntmps42
  obtain ⟨x1, k1, e1, ek1, hb1, hk1, HB1⟩ := newV w #[.int .i64 0, .bool false, .slice none 0 0, .bool false, .slice none 0 0] 41
  obtain ⟨k2, hk2'⟩ : ∃ k, x1.heap.size = k := ⟨_, rfl⟩
  have hk02 : w.heap.size ≤ k2 := by rw [← hk2']; exact hb1.out.size
  have hk12 : k1 < k2 := by rw [← hk2']; exact lt_of_block HB1.out
  go_wp2_with (first | (at_make; refine wpList_make_El nE n0 rfl nr0 _ rfl _ _ rfl w.heap.size _ _ _ _ n rfl rfl (by first | rfl | simp) (by first | rfl | simp) (by omega) hb1.out.size ?_; intro y2 hrow hb2) | fail)
  rw [hk2'] at hrow hb2
  replace hb2 : Below x1.heap.size x1 y2 := by rw [hk2']; exact hb2
  obtain ⟨x3, k3, e3, ek3, hb3, hk3, HB3⟩ := newV y2 #[.int .i64 2, .bool false, .slice none 0 0, .bool false, .slice (some ⟨k2, 0, none⟩) n n] 41
  replace HB1 := kBV hb3.out (kBV hb2 HB1)
  have HW := Lib.hid (hb1.out.trans ((hb2.trans (hb3.out.mono hb2.size)).mono hb1.out.size))
  have HR := Lib.hid (hrow.below hb3.out)
  skip
  have h23 : k2 < k3 := by rw [← ek3]; exact (hrow.ge rfl).2
  have h23 := h23
  clear hrow hb2
  try rw [hk2']
  rw [e3, ek3]
  clear e3 ek3 e1 ek1
  go_loopw [12] (OLrel w k1 k2 k3 n zs) (fun i _ => n - (intOf i).toNat)
  case atStart => exact ⟨0, _, rfl, Nat.zero_le _, Lib.hid ⟨List.length_replicate, rfl⟩, HR, HB1, HB3, HW⟩
  case round =>
    clear HR HB1 HB3 HW hb1 hb3
    obtain ⟨j, el, rfl, hj, HE, HR, HB1, HB3, HW⟩ := hrel
    by_cases hlt : j < n
    · have hz : j < zs.length := by rw [← HN.out]; exact hlt
      obtain ⟨a, o, l, c, rfl, c0, c1, hc⟩ := (HX.out.below HW.out).cells.2 j hz
      obtain ⟨z, hzz⟩ : ∃ z, z = zs[j] := ⟨_, rfl⟩
      rw [← hzz] at c0 hc
      have HZ := Lib.hid hzz
      have HC := Lib.hid hc
      clear hzz hc
      obtain ⟨x11, k5, e5, ek5, hb5, hk5, HB5⟩ := newV wr #[.bool (decide (z < 0)), .slice o l c] 26
      replace HB1 := kBV hb5.out HB1
      replace HB3 := kBV hb5.out HB3
      replace HC := Lib.hid (HC.out.below hb5.out)
      replace HR := Lib.hid (HR.out.below hb5.out)
      replace HW := Lib.hid (HW.out.trans (hb5.out.mono HW.out.size))
      go_upto_region 5 with fail
      clear c0 c1
      have hlt_3 := lt_of_block HB3.out
      have hlt_5 := lt_of_block HB5.out
      have hog : Hid (∀ q, q < 0 → (fun q => 0) q < x11.heap.size) := Lib.hid (fun q h => absurd h (Nat.not_lt_zero _))
      refine Rel7.region (by kernel_rfl) [[], [0], [], [], [3], [0, 1, 2, 3, 4], [0, 1, 2, 3, 4, 5]] [] [] (fun q => 0) 0 6 (by kernel_rfl) (by kernel_rfl) (by rfl) hog.out (fun q q' h h' hn => absurd hn (by omega)) ?_
      refine Rel7.Chain.det ?_ (by rfl) (fun T xs wr hA => ?_) ?_
      rotate_left 1
      · have e3 := hA.pre 3 (by kernel_rfl)
        simp only [List.getElem?_toArray, List.getElem?_cons_succ, List.getElem?_cons_zero] at e3
        clear hA
        refine ⟨(by rfl), ?_⟩
        go_simp <;> (try with_reducible rfl)
      refine Rel7.Chain.det ?_ (by rfl) (fun T xs wr hA => ?_) ?_
      rotate_left 1
      · have e17 := hA.tm 0 17 (by rfl) (by rfl)
        have f17 : xs 0 = _ := hA.fa 0 (by rfl)
        (try simp (disch := first | rfl | decide) only [Rel7.mask_in] at f17)
        rw [f17] at e17
        clear f17
        have hBq : wr.heap[k3]? = _ := (hA.bl _ hlt_3 (fun q h => absurd h (Nat.not_lt_zero _))).trans HB3.out
        have q0 := cell_at (v := .int .i64 2) hBq 0 rfl
        have q1 := cell_at (v := .bool false) hBq 1 rfl
        have q2 := cell_at (v := .slice none 0 0) hBq 2 rfl
        have q3 := cell_at (v := .bool false) hBq 3 rfl
        have q4 := cell_at (v := .slice (some ⟨k2, 0, none⟩) n n) hBq 4 rfl
        clear hBq
        clear hA
        refine ⟨(by rfl), ?_⟩
        go_simp <;> (try with_reducible rfl)
      refine Rel7.Chain.det ?_ (by rfl) (fun T xs wr hA => ?_) ?_
      rotate_left 1
      · have e4 := hA.pre 4 (by kernel_rfl)
        simp only [List.getElem?_toArray, List.getElem?_cons_succ, List.getElem?_cons_zero] at e4
        clear hA
        refine ⟨(by rfl), ?_⟩
        go_simp <;> (try with_reducible rfl)
      refine Rel7.Chain.det ?_ (by rfl) (fun T xs wr hA => ?_) ?_
      rotate_left 1
      · have e5 := hA.pre 5 (by kernel_rfl)
        simp only [List.getElem?_toArray, List.getElem?_cons_succ, List.getElem?_cons_zero] at e5
        have hBq : wr.heap[k5]? = _ := (hA.bl _ hlt_5 (fun q h => absurd h (Nat.not_lt_zero _))).trans HB5.out
        have q0 := cell_at (v := .bool (decide (z < 0))) hBq 0 rfl
        have q1 := cell_at (v := .slice o l c) hBq 1 rfl
        clear hBq
        clear hA
        refine ⟨(by rfl), ?_⟩
        go_simp <;> (try with_reducible rfl)
      refine Rel7.Chain.call (fun xs v w => ∃ m : NU, v = nV m ∧ m.z = z ∧ NR w m) (fun _ _ _ _ h hb => by obtain ⟨m, h1, h2, h3⟩ := h; exact ⟨m, h1, h2, nE.below h3 hb⟩) (fun _ _ _ _ _ _ h _ => by obtain ⟨q, hq, _⟩ := h; exact absurd hq (Nat.not_lt_zero _)) (by rfl) (fun T xs wr hA => ?_) ?_
      · have hsw := (hA.be 0 (Nat.zero_le _) (fun _ _ => Nat.zero_le _)).size
        have e20 := hA.tm 3 20 (by rfl) (by rfl)
        have f20 : xs 3 = _ := hA.fa 3 (by rfl)
        (try simp (disch := first | rfl | decide) only [Rel7.mask_in] at f20)
        rw [f20] at e20
        clear f20
        have hbw := undrew (hA.be x11.heap.size (Nat.le_refl _) (fun q h => absurd h (Nat.not_lt_zero q)))
        clear hA
        refine ⟨(by rfl), fun K hK => ?_⟩
        go_simp
        refine (copied_p _ z 600 wr (HC.out.below hbw).gi (by decide)).mono ?_
        rintro e w' ⟨v, rfl, hc, hb'⟩
        exact hK.out _ _ (ci_nu hc (by decide)) hb'
      refine Rel7.Chain.det ?_ (by rfl) (fun T xs wr hA => ?_) ?_
      rotate_left 1
      · have e18 := hA.tm 1 18 (by rfl) (by rfl)
        have f18 : xs 1 = _ := hA.fa 1 (by rfl)
        (try simp (disch := first | rfl | decide) only [Rel7.mask_in] at f18)
        rw [f18] at e18
        clear f18
        have e19 := hA.tm 2 19 (by rfl) (by rfl)
        have f19 : xs 2 = _ := hA.fa 2 (by rfl)
        (try simp (disch := first | rfl | decide) only [Rel7.mask_in] at f19)
        rw [f19] at e19
        clear f19
        clear hA
        refine ⟨(by rfl), ?_⟩
        go_simp <;> (try with_reducible rfl)
      refine Rel7.Chain.done (fun xs x12 hL => ?_)
      obtain ⟨⟨hbe, hbl⟩, hf, -, -⟩ := hL
      have f0 : xs 0 = _ := hf 0 (by decide)
      (try simp (disch := first | rfl | decide) only [Rel7.mask_in] at f0)
      have f1 : xs 1 = _ := hf 1 (by decide)
      (try simp (disch := first | rfl | decide) only [Rel7.mask_in] at f1)
      have f2 : xs 2 = _ := hf 2 (by decide)
      (try simp (disch := first | rfl | decide) only [Rel7.mask_in] at f2)
      have f3 : xs 3 = _ := hf 3 (by decide)
      (try simp (disch := first | rfl | decide) only [Rel7.mask_in] at f3)
      have F4 : ∃ m : NU, (xs 4) = nV m ∧ m.z = z ∧ NR x12 m := hf 4 (by decide)
      have f5 : xs 5 = _ := hf 5 (by decide)
      (try simp (disch := first | rfl | decide) only [Rel7.mask_in] at f5)
      have hb0 : Below 0 x11 x12 := undrew (hbe 0 (Nat.zero_le _) (fun _ _ => Nat.zero_le _))
      have hgr : ∀ j, j < x11.heap.size → (∀ q, q < 0 → (fun q => 0) q ≠ j) → x12.heap[j]? = x11.heap[j]? := hbl
      clear hbe hbl hf
      have hb : Below x11.heap.size x11 x12 := ⟨hb0.os, hb0.tape, hb0.output, hb0.size, fun q hq => hgr q hq (fun q h => absurd h (Nat.not_lt_zero _))⟩
      refine Rel7.rest_list (by decide) (by kernel_rfl) ?_
      simp only [Rel7.fill, List.take_succ_cons, List.take_zero, List.drop_succ_cons, List.drop_zero, List.setIfInBounds_toArray, List.set_cons_zero, List.set_cons_succ, f0, f1, f2, f3, f5]
      clear hb0 hgr hog hlt_3 hlt_5 f0 f1 f2 f3 f5
      replace HB1 := kBV hb HB1
      replace HB3 := kBV hb HB3
      replace HB5 := kBV hb HB5
      replace HC := Lib.hid (HC.out.below hb)
      replace HR := Lib.hid (HR.out.below hb)
      replace HW := Lib.hid (HW.out.trans (hb.mono HW.out.size))
      replace hb := Lib.hid hb
      obtain ⟨m, hv, hm, hr⟩ := F4
      rw [show (0 + 1 + 1 + 1 + 1 : Nat) = 4 from rfl, hv]
      have HM := Lib.hid hm
      have HMR := Lib.hid hr
      have hel := HE.out.1
      have HEL := Lib.hid hel
      obtain ⟨q, g0, g1, g2, g3⟩ := Row.at2 HR.out hel.symm hlt
      clear hv hm hr hel
      simp only [nV]
      go_wp2_with fail
      go_roundw
      case rel =>
        obtain ⟨r1, r2, r3⟩ := Row.set2 HR.out j (by rw [HEL.out]; exact hlt) HEL.out.symm m HMR.out
        skip
        refine ⟨j + 1, el.set j m, by go_num, hlt, Lib.hid ⟨by rw [List.length_set]; exact HEL.out, take_set_map HE.out.2 (by rw [HEL.out]; exact hlt) hz (by rw [HM.out, HZ.out])⟩, Lib.hid r1, Lib.hid ((r3.block _ (lt_of_block HB1.out) (fun e => by injection e with e; omega)).trans HB1.out), Lib.hid ((r3.block _ (lt_of_block HB3.out) (fun e => by injection e with e; omega)).trans HB3.out), Lib.hid (HW.out.trans ((grown_belowV r3 HW.out.size hk02).mono (Nat.le_refl _)))⟩
      case measure => simp [intOf]; omega
    · have e : j = n := by omega
      subst e
      clear hlt
      have c0 := cell_at (v := .int .i64 0) HB1.out 0 rfl
      have fc0 := froz_at HB1.out 0
      have c1 := cell_at (v := .bool false) HB1.out 1 rfl
      have fc1 := froz_at HB1.out 1
      have c2 := cell_at (v := .slice none 0 0) HB1.out 2 rfl
      have fc2 := froz_at HB1.out 2
      have c3 := cell_at (v := .bool false) HB1.out 3 rfl
      have fc3 := froz_at HB1.out 3
      have c4 := cell_at (v := .slice none 0 0) HB1.out 4 rfl
      have fc4 := froz_at HB1.out 4
      have d0 := cell_at (v := .int .i64 2) HB3.out 0 rfl
      have fd0 := froz_at HB3.out 0
      have d1 := cell_at (v := .bool false) HB3.out 1 rfl
      have fd1 := froz_at HB3.out 1
      have d2 := cell_at (v := .slice none 0 0) HB3.out 2 rfl
      have fd2 := froz_at HB3.out 2
      have d3 := cell_at (v := .bool false) HB3.out 3 rfl
      have fd3 := froz_at HB3.out 3
      have d4 := cell_at (v := .slice (some ⟨k2, 0, none⟩) j j) HB3.out 4 rfl
      have fd4 := froz_at HB3.out 4
      go_wp2_with fail
      obtain ⟨r1, r2⟩ := res5V HW.out HB1.out n32_5 hk1.out (.int .i64 2) (.bool false) (.slice none 0 0) (.bool false) (.slice (some ⟨k2, 0, none⟩) j j)
      have ht : NL wr (.slice (some ⟨k2, 0, none⟩) j j) zs := ⟨el, HR.out.at, by have e := HE.out.2; rwa [← HE.out.1, List.take_length, HE.out.1, HN.out, List.take_length] at e⟩
      exact bodyPost_ret (v := .agg #[.int .i64 2, .bool false, .slice none 0 0, .bool false, .slice (some ⟨k2, 0, none⟩) j j]) (by simp [results, Try.results42, go_sem, c0, c1, c2, c3, c4]) rfl ⟨_, rfl, (VC.mkL ht).fr (by decide) r1, r2⟩
end Go.Proofs.Ytinfbmnimkcdjaa
