/-
  intSteps, copyOf, copies.
-/
import Derived.Test.YtocadojeanhalaaGreatDoorVlN
namespace Go.Proofs.YtocadojeanhalaaGreatDoor
open Go.RowKit
set_option maxRecDepth 100000
set_option linter.unusedVariables false
set_option linter.unusedSimpArgs false

/-- The head of a loop that makes values, one for each. -/
def MKrel (w : World) (n : Nat) (ys : List V) (ov iv : Value) (wr : World) : Prop :=
  ∃ (j : Nat) (us : List VU), iv = .int .i64 (j : Nat) ∧ j ≤ n ∧ Hid (us.map (·.x) = ys.take j) ∧ Hid (vE.Row wr w.heap.size ov us) ∧ Hid (Below w.heap.size w wr)
theorem mk_next {us : List VU} {ys : List V} {j : Nat} {u : VU} (h : us.map (·.x) = ys.take j) (hj : j < ys.length) (hu : u.x = ys[j]) : (us ++ [u]).map (·.x) = ys.take (j + 1) := by
  rw [List.map_append, h, List.take_succ_eq_append_getElem hj, ← hu]; rfl
theorem mk_len {us : List VU} {ys : List V} {j : Nat} (h : us.map (·.x) = ys.take j) (hj : j ≤ ys.length) : us.length = j := by
  have := congrArg List.length h; rw [List.length_map, List.length_take] at this; omega
set_option maxHeartbeats 4000000 in
theorem intSteps_p (va : Value) (z : Int) (w : World) (hx : GI w va z 40) :
    Calls Tryz.prog 41 #[va] w fun e w' => ∃ v, e = .returned v ∧ VL w' v (stepsV (.I z)) ∧ Below w.heap.size w w' := by
  obtain ⟨b, ao, l, c, n0, rfl, hg, hz⟩ := hx.shape
  have HX := Lib.hid hx
  have HW := Lib.hid (Below.refl w.heap.size w)
  clear hx hg hz
  go_enter Tryz.func41, Tryz.ntmps41
  obtain ⟨x1, k1, e1, ek1, hb1, hk1, HB1⟩ := newV w #[.bool b, .slice ao l c] 29
  replace HX := Lib.hid (HX.out.below hb1.out)
  replace HW := Lib.hid (HW.out.trans (hb1.out.mono HW.out.size))
  have c0 := cell_at (v := .bool b) HB1.out 0 rfl
  have fc0 := froz_at HB1.out 0
  have c1 := cell_at (v := .slice ao l c) HB1.out 1 rfl
  have fc1 := froz_at HB1.out 1
  go_wp2_with fail
  refine (lesser_p _ z x1 HX.out).mono ?_
  rintro e x2 ⟨v, rfl, hc, hb⟩
  clear c0 fc0 c1 fc1
  replace HB1 := kBV hb HB1
  replace HX := Lib.hid (HX.out.below hb)
  replace HW := Lib.hid (HW.out.trans (hb.mono HW.out.size))
  clear hb
  obtain ⟨ko, kc, rfl, ⟨hq1, hq2⟩, -⟩ := hc.form
  have HL := Lib.hid hc
  obtain ⟨n, hn⟩ : ∃ n, n = (lesser z).length := ⟨_, rfl⟩
  have hn2 : n ≤ 2 := by rw [hn]; unfold lesser; split; exact Nat.zero_le _; split <;> simp
  rw [← hn] at HL hq1 ⊢
  have hmx : kc ≤ 9223372036854775807 := hq2
  have HN := Lib.hid hn
  clear hc hn
  go_wp2_with fail
  go_loopw [3, 9] (MKrel x2 n (stepsV (.I z))) (fun _ i _ => n - (intOf i).toNat)
  case atStart => exact ⟨0, [], rfl, Nat.zero_le _, Lib.hid rfl, Lib.hid (El.Row.nil _ _), Lib.hid (Below.refl _ _)⟩
  case round =>
    have HWq := HW
    clear HW HB1
    obtain ⟨j, us, rfl, hj, HU, HR, HW⟩ := hrel
    obtain ⟨oo, oc, rfl, hol, hoc, -⟩ := HR.out.form
    have hyl : (stepsV (.I z)).length = n := by show ((lesser z).map V.I).length = n; rw [List.length_map, ← HN.out]
    have hul := mk_len HU.out (by omega)
    have HUL := Lib.hid hul
    have HYL := Lib.hid hyl
    rw [hul] at hol
    clear hul hyl
    by_cases hlt : j < n
    · have hz : j < (lesser z).length := by rw [← HN.out]; exact hlt
      have hys : j < (stepsV (.I z)).length := by rw [HYL.out]; exact hlt
      obtain ⟨a, o, l2, c2, rfl, c0, c1, hc⟩ := (HL.out.below HW.out).cells.2 j hz
      obtain ⟨y, hyy⟩ : ∃ y, y = (lesser z)[j] := ⟨_, rfl⟩
      rw [← hyy] at c0 hc
      obtain ⟨sy, hsy⟩ : ∃ s, s = decide (y < 0) := ⟨_, rfl⟩
      rw [← hsy] at c0 hc
      have HY := Lib.hid hyy
      have HC := Lib.hid hc
      clear hyy hsy hc
      obtain ⟨x11, k5, e5, ek5, hb5, hk5, HB5⟩ := newV wr #[.bool sy, .slice o l2 c2] 29
      replace HR := Lib.hid (HR.out.below hb5.out)
      replace HW := Lib.hid (HW.out.trans (hb5.out.mono HW.out.size))
      replace HC := Lib.hid (HC.out.below hb5.out)
      have g0 := cell_at (v := .bool sy) HB5.out 0 rfl
      have fg0 := froz_at HB5.out 0
      have g1 := cell_at (v := .slice o l2 c2) HB5.out 1 rfl
      have fg1 := froz_at HB5.out 1
      go_wp2_with fail
      refine (ofInt_p _ y 40 x11 HC.out.gi (by decide)).mono ?_
      rintro e x12 ⟨v, rfl, hc, hb⟩
      clear g0 fg0 g1 fg1
      replace HB5 := kBV hb HB5
      replace HR := Lib.hid (HR.out.below hb)
      replace HW := Lib.hid (HW.out.trans (hb.mono HW.out.size))
      replace HC := Lib.hid (HC.out.below hb)
      clear hb
      obtain ⟨u, uk, ub, uo, ul, uc, ud, up, um, uq, rfl, hue, hux, hur⟩ := hc.unit
      have HUE := Lib.hid hue
      have HUX := Lib.hid hux
      have HUR := Lib.hid hur
      clear hc hue hux hur
      obtain ⟨x13, kq, eq, ekq, hbq, hkq, HBq⟩ := newV x12 #[.int .i64 uk, .bool ub, .slice uo ul uc, .bool ud, .slice up um uq] 32
      replace HB5 := kBV hbq.out HB5
      replace HR := Lib.hid (HR.out.below hbq.out)
      replace HW := Lib.hid (HW.out.trans (hbq.out.mono HW.out.size))
      replace HC := Lib.hid (HC.out.below hbq.out)
      replace HUR := Lib.hid (HUR.out.below hbq.out)
      have HAT := Lib.hid (one_atV HBq.out HUE.out HUR.out)
      go_wp2_with (at_builtin; refine El.Row.append (E := vE) HR.out rfl (.tmp 13) (.tmp 16) rfl rfl rfl HAT.out (by have := HUL.out; simp; omega) HW.out.size ?_; intro v9 w9 r1 r2 r3 r4)
      go_roundw
      case rel => exact ⟨j + 1, us ++ [u], by go_num, hlt, Lib.hid (mk_next HU.out hys (by rw [HUX.out, HY.out]; simp [stepsV])), Lib.hid r1, Lib.hid (HW.out.trans r3)⟩
      case measure => simp [intOf]; omega
    · go_wp2_with fail
      exact bodyPost_ret (results_tmp Tryz.results41 _ _ _) rfl ⟨_, rfl, ⟨us, HR.out.at, by rw [HU.out, show j = (stepsV (.I z)).length by rw [HYL.out]; omega, List.take_length]⟩, HWq.out.trans (HW.out.mono HWq.out.size)⟩
set_option maxHeartbeats 4000000 in
theorem copyOf_p (va : Value) (x : V) (w : World) (h1 : VC w va x) (hl : ∀ l, x = .L l → l.length ≤ 100000) :
    Calls Tryz.prog 45 #[va] w fun e w' => ∃ v, e = .returned v ∧ VC w' v x ∧ Below w.heap.size w w' := by
  have HW := Lib.hid (Below.refl w.heap.size w)
  rcases vc_cases h1 with ⟨z, o, l, c, rfl, rfl, hx⟩ | ⟨b, rfl, rfl⟩ | ⟨zs, o, n, c, rfl, rfl, hx⟩
  · skip
    clear h1
    have HX := Lib.hid hx
    clear hx
    go_enter Tryz.func45, Tryz.ntmps45
    obtain ⟨x1, k1, e1, ek1, hb1, hk1, HB1⟩ := newV w #[.int .i64 0, .bool (decide (z < 0)), .slice o l c, .bool false, .slice none 0 0] 32
    replace HW := Lib.hid (HW.out.trans (hb1.out.mono HW.out.size))
    replace HX := Lib.hid (HX.out.below hb1.out)
    obtain ⟨x2, k2, e2, ek2, hb2, hk2, HB2⟩ := newV x1 #[.int .i64 0, .bool false, .slice none 0 0, .bool false, .slice none 0 0] 32
    replace HB1 := kBV hb2.out HB1
    replace HW := Lib.hid (HW.out.trans (hb2.out.mono HW.out.size))
    replace HX := Lib.hid (HX.out.below hb2.out)
    have hk2w : Hid (w.heap.size ≤ k2) := Lib.hid (Nat.le_trans hb1.out.size hk2.out)
    have c0 := cell_at (v := .int .i64 0) HB1.out 0 rfl
    have fc0 := froz_at HB1.out 0
    have c1 := cell_at (v := .bool (decide (z < 0))) HB1.out 1 rfl
    have fc1 := froz_at HB1.out 1
    have c2 := cell_at (v := .slice o l c) HB1.out 2 rfl
    have fc2 := froz_at HB1.out 2
    have c3 := cell_at (v := .bool false) HB1.out 3 rfl
    have fc3 := froz_at HB1.out 3
    have c4 := cell_at (v := .slice none 0 0) HB1.out 4 rfl
    have fc4 := froz_at HB1.out 4
    go_wp2_with fail
    refine (ofInt_p _ z 40 x2 HX.out.gi (by decide)).mono ?_
    rintro e x3 ⟨v, rfl, hc, hb⟩
    clear c0 fc0 c1 fc1 c2 fc2 c3 fc3 c4 fc4
    replace HB1 := kBV hb HB1
    replace HB2 := kBV hb HB2
    replace HW := Lib.hid (HW.out.trans (hb.mono HW.out.size))
    replace HX := Lib.hid (HX.out.below hb)
    clear hb
    have HC := Lib.hid hc
    obtain ⟨u, uk, ub, uo, ul, uc, ud, up, um, uq, rfl, hue, hux, hur⟩ := hc.unit
    clear hc hue hux hur
    have d0 := cell_at (v := .int .i64 0) HB2.out 0 rfl
    have fd0 := froz_at HB2.out 0
    have d1 := cell_at (v := .bool false) HB2.out 1 rfl
    have fd1 := froz_at HB2.out 1
    have d2 := cell_at (v := .slice none 0 0) HB2.out 2 rfl
    have fd2 := froz_at HB2.out 2
    have d3 := cell_at (v := .bool false) HB2.out 3 rfl
    have fd3 := froz_at HB2.out 3
    have d4 := cell_at (v := .slice none 0 0) HB2.out 4 rfl
    have fd4 := froz_at HB2.out 4
    go_wp2_with fail
    obtain ⟨r1, r2⟩ := res5V HW.out HB2.out n32_5 hk2w.out (.int .i64 uk) (.bool ub) (.slice uo ul uc) (.bool ud) (.slice up um uq)
    exact bodyPost_ret (v := .agg #[.int .i64 uk, .bool ub, .slice uo ul uc, .bool ud, .slice up um uq]) (by simp [results, Tryz.results45, go_sem, d0, d1, d2, d3, d4]) rfl ⟨_, rfl, HC.out.fr (by decide) r1, r2⟩
  · skip
    clear h1
    go_enter Tryz.func45, Tryz.ntmps45
    obtain ⟨x1, k1, e1, ek1, hb1, hk1, HB1⟩ := newV w #[.int .i64 1, .bool false, .slice none 0 0, .bool b, .slice none 0 0] 32
    replace HW := Lib.hid (HW.out.trans (hb1.out.mono HW.out.size))
    obtain ⟨x2, k2, e2, ek2, hb2, hk2, HB2⟩ := newV x1 #[.int .i64 0, .bool false, .slice none 0 0, .bool false, .slice none 0 0] 32
    replace HB1 := kBV hb2.out HB1
    replace HW := Lib.hid (HW.out.trans (hb2.out.mono HW.out.size))
    have hk2w : Hid (w.heap.size ≤ k2) := Lib.hid (Nat.le_trans hb1.out.size hk2.out)
    have c0 := cell_at (v := .int .i64 1) HB1.out 0 rfl
    have fc0 := froz_at HB1.out 0
    have c1 := cell_at (v := .bool false) HB1.out 1 rfl
    have fc1 := froz_at HB1.out 1
    have c2 := cell_at (v := .slice none 0 0) HB1.out 2 rfl
    have fc2 := froz_at HB1.out 2
    have c3 := cell_at (v := .bool b) HB1.out 3 rfl
    have fc3 := froz_at HB1.out 3
    have c4 := cell_at (v := .slice none 0 0) HB1.out 4 rfl
    have fc4 := froz_at HB1.out 4
    go_wp2_with fail
    refine (ofBool_p b x2).mono ?_
    rintro e x3 ⟨v, rfl, hc, hb⟩
    clear c0 fc0 c1 fc1 c2 fc2 c3 fc3 c4 fc4
    replace HB1 := kBV hb HB1
    replace HB2 := kBV hb HB2
    replace HW := Lib.hid (HW.out.trans (hb.mono HW.out.size))
    clear hb
    have HC := Lib.hid hc
    obtain ⟨u, uk, ub, uo, ul, uc, ud, up, um, uq, rfl, hue, hux, hur⟩ := hc.unit
    clear hc hue hux hur
    have d0 := cell_at (v := .int .i64 0) HB2.out 0 rfl
    have fd0 := froz_at HB2.out 0
    have d1 := cell_at (v := .bool false) HB2.out 1 rfl
    have fd1 := froz_at HB2.out 1
    have d2 := cell_at (v := .slice none 0 0) HB2.out 2 rfl
    have fd2 := froz_at HB2.out 2
    have d3 := cell_at (v := .bool false) HB2.out 3 rfl
    have fd3 := froz_at HB2.out 3
    have d4 := cell_at (v := .slice none 0 0) HB2.out 4 rfl
    have fd4 := froz_at HB2.out 4
    go_wp2_with fail
    obtain ⟨r1, r2⟩ := res5V HW.out HB2.out n32_5 hk2w.out (.int .i64 uk) (.bool ub) (.slice uo ul uc) (.bool ud) (.slice up um uq)
    exact bodyPost_ret (v := .agg #[.int .i64 uk, .bool ub, .slice uo ul uc, .bool ud, .slice up um uq]) (by simp [results, Tryz.results45, go_sem, d0, d1, d2, d3, d4]) rfl ⟨_, rfl, HC.out.fr (by decide) r1, r2⟩
  · replace hl := hl zs rfl
    clear h1
    have HX := Lib.hid hx
    clear hx
    go_enter Tryz.func45, Tryz.ntmps45
    obtain ⟨x1, k1, e1, ek1, hb1, hk1, HB1⟩ := newV w #[.int .i64 2, .bool false, .slice none 0 0, .bool false, .slice o n c] 32
    replace HW := Lib.hid (HW.out.trans (hb1.out.mono HW.out.size))
    replace HX := Lib.hid (HX.out.below hb1.out)
    obtain ⟨x2, k2, e2, ek2, hb2, hk2, HB2⟩ := newV x1 #[.int .i64 0, .bool false, .slice none 0 0, .bool false, .slice none 0 0] 32
    replace HB1 := kBV hb2.out HB1
    replace HW := Lib.hid (HW.out.trans (hb2.out.mono HW.out.size))
    replace HX := Lib.hid (HX.out.below hb2.out)
    have hk2w : Hid (w.heap.size ≤ k2) := Lib.hid (Nat.le_trans hb1.out.size hk2.out)
    have c0 := cell_at (v := .int .i64 2) HB1.out 0 rfl
    have fc0 := froz_at HB1.out 0
    have c1 := cell_at (v := .bool false) HB1.out 1 rfl
    have fc1 := froz_at HB1.out 1
    have c2 := cell_at (v := .slice none 0 0) HB1.out 2 rfl
    have fc2 := froz_at HB1.out 2
    have c3 := cell_at (v := .bool false) HB1.out 3 rfl
    have fc3 := froz_at HB1.out 3
    have c4 := cell_at (v := .slice o n c) HB1.out 4 rfl
    have fc4 := froz_at HB1.out 4
    go_wp2_with fail
    refine (ofList_p _ zs x2 HX.out hl).mono ?_
    rintro e x3 ⟨v, rfl, hc, hb⟩
    clear c0 fc0 c1 fc1 c2 fc2 c3 fc3 c4 fc4
    replace HB1 := kBV hb HB1
    replace HB2 := kBV hb HB2
    replace HW := Lib.hid (HW.out.trans (hb.mono HW.out.size))
    replace HX := Lib.hid (HX.out.below hb)
    clear hb
    have HC := Lib.hid hc
    obtain ⟨u, uk, ub, uo, ul, uc, ud, up, um, uq, rfl, hue, hux, hur⟩ := hc.unit
    clear hc hue hux hur
    have d0 := cell_at (v := .int .i64 0) HB2.out 0 rfl
    have fd0 := froz_at HB2.out 0
    have d1 := cell_at (v := .bool false) HB2.out 1 rfl
    have fd1 := froz_at HB2.out 1
    have d2 := cell_at (v := .slice none 0 0) HB2.out 2 rfl
    have fd2 := froz_at HB2.out 2
    have d3 := cell_at (v := .bool false) HB2.out 3 rfl
    have fd3 := froz_at HB2.out 3
    have d4 := cell_at (v := .slice none 0 0) HB2.out 4 rfl
    have fd4 := froz_at HB2.out 4
    go_wp2_with fail
    obtain ⟨r1, r2⟩ := res5V HW.out HB2.out n32_5 hk2w.out (.int .i64 uk) (.bool ub) (.slice uo ul uc) (.bool ud) (.slice up um uq)
    exact bodyPost_ret (v := .agg #[.int .i64 uk, .bool ub, .slice uo ul uc, .bool ud, .slice up um uq]) (by simp [results, Tryz.results45, go_sem, d0, d1, d2, d3, d4]) rfl ⟨_, rfl, HC.out.fr (by decide) r1, r2⟩
theorem Row.at5 {w : World} {B g n kc : Nat} {el : List VU} (h : vE.Row w B (.slice (some ⟨g, 0, none⟩) n kc) el) (hn : n = el.length) {i : Nat} (hi : i < n) : ∃ q : VU, (w.cell? ⟨g, i * 5, none⟩ = some (.int .i64 q.k) ∧ w.cell? ⟨g, i * 5 + 1, none⟩ = some (.bool (decide (q.n.z < 0))) ∧ w.cell? ⟨g, i * 5 + 2, none⟩ = some (.slice q.n.o q.n.l q.n.c) ∧ w.cell? ⟨g, i * 5 + 3, none⟩ = some (.bool q.b) ∧ w.cell? ⟨g, i * 5 + 4, none⟩ = some (.slice q.lo q.ll q.lc)) ∧
    w.frozen? ⟨g, i * 5, none⟩ = false ∧ w.frozen? ⟨g, i * 5 + 1, none⟩ = false ∧ w.frozen? ⟨g, i * 5 + 2, none⟩ = false ∧ w.frozen? ⟨g, i * 5 + 3, none⟩ = false ∧ w.frozen? ⟨g, i * 5 + 4, none⟩ = false := by
  have h0 := h.own
  rw [← hn] at h0
  have at' : ∀ k, k < 5 → w.cell? ⟨g, i * 5 + k, none⟩ = (vC (el[i]'(by omega)))[k]? := fun k hk => by
    rw [World.ownsRow.cellAt h0 (i * 5 + k) (by show i * 5 + k < n * 5; omega)]
    exact flat_atV (n := 5) vC (fun _ => rfl) el i k (by omega) hk
  exact ⟨el[i]'(by omega), ⟨at' 0 (by decide), at' 1 (by decide), at' 2 (by decide), at' 3 (by decide), at' 4 (by decide)⟩, World.ownsRow.frozenAt h0 _, World.ownsRow.frozenAt h0 _, World.ownsRow.frozenAt h0 _, World.ownsRow.frozenAt h0 _, World.ownsRow.frozenAt h0 _⟩
theorem take_set_vals {el : List VU} {ys : List V} {j : Nat} {u : VU} (h : (el.take j).map (·.x) = ys.take j) (hj : j < el.length) (hz : j < ys.length) (hu : u.x = ys[j]) : ((el.set j u).take (j + 1)).map (·.x) = ys.take (j + 1) := by
  rw [List.take_succ_eq_append_getElem (by simpa using hj), List.take_set_of_le (Nat.le_refl _), List.getElem_set_self, List.map_append, h, List.take_succ_eq_append_getElem hz, ← hu]; rfl
/-- The head of copies' loop. -/
def CPrel (w : World) (k2 n : Nat) (ys : List V) (i : Value) (wr : World) : Prop :=
  ∃ (j : Nat) (el : List VU), i = .int .i64 (j : Nat) ∧ j ≤ n ∧ Hid (el.length = n ∧ (el.take j).map (·.x) = ys.take j) ∧ Hid (vE.Row wr w.heap.size (.slice (some ⟨k2, 0, none⟩) n n) el) ∧ Hid (Below w.heap.size w wr)
def Short (ys : List V) : Prop := ∀ x ∈ ys, ∀ l, x = .L l → l.length ≤ 1000
set_option maxHeartbeats 8000000 in
theorem copies_p (va : Value) (ys : List V) (w : World) (hx : VL w va ys) (hlen : ys.length ≤ 1000) (hsh : Short ys) :
    Calls Tryz.prog 27 #[va] w fun e w' => ∃ v, e = .returned v ∧ VL w' v ys ∧ Below w.heap.size w w' := by
  obtain ⟨ko, kc, rfl, ⟨hq1, hq2⟩, -⟩ := hx.form
  have HX := Lib.hid hx
  have HSH := Lib.hid hsh
  clear hx hsh
  obtain ⟨n, hn⟩ : ∃ n, n = ys.length := ⟨_, rfl⟩
  rw [← hn] at hlen hq1 HX ⊢
  have hmx : kc ≤ 9223372036854775807 := hq2
  have HN := Lib.hid hn
  clear hn
  obtain ⟨k2, hk2⟩ : ∃ k, w.heap.size = k := ⟨_, rfl⟩
  go_enter Tryz.func27, Tryz.ntmps27
  go_wp2_with (first | (at_make; refine wpList_make_El vE v0 rfl vr0 _ rfl _ _ rfl w.heap.size _ _ _ _ n rfl rfl (by first | rfl | simp) (by first | rfl | simp) (by omega) (Nat.le_refl _) ?_; intro y2 hrow hb2) | fail)
  rw [hk2] at hrow
  have HR := Lib.hid (show vE.Row y2 w.heap.size (.slice (some ⟨k2, 0, none⟩) n n) (List.replicate n v0) by rw [hk2]; exact hrow)
  have HW := Lib.hid hb2
  clear hrow hb2
  go_loopw [11] (CPrel w k2 n ys) (fun i _ => n - (intOf i).toNat)
  case atStart => exact ⟨0, _, rfl, Nat.zero_le _, Lib.hid ⟨List.length_replicate, rfl⟩, HR, HW⟩
  case round =>
    clear HR HW
    obtain ⟨j, el, rfl, hj, HE, HR, HW⟩ := hrel
    by_cases hlt : j < n
    · have hz : j < ys.length := by rw [← HN.out]; exact hlt
      obtain ⟨a, xk, b, o, l, c, d, p, m, q, rfl, ⟨c0, c1, c2, c3, c4⟩, hc⟩ := (HX.out.below HW.out).cells.2 j hz
      obtain ⟨y, hyy⟩ : ∃ y, y = ys[j] := ⟨_, rfl⟩
      rw [← hyy] at hc
      have HY := Lib.hid hyy
      have HC := Lib.hid hc
      clear hyy hc
      obtain ⟨x11, k5, e5, ek5, hb5, hk5, HB5⟩ := newV wr #[.int .i64 xk, .bool b, .slice o l c, .bool d, .slice p m q] 32
      replace HR := Lib.hid (HR.out.below hb5.out)
      replace HW := Lib.hid (HW.out.trans (hb5.out.mono HW.out.size))
      replace HC := Lib.hid (HC.out.below hb5.out)
      have g0 := cell_at (v := .int .i64 xk) HB5.out 0 rfl
      have fg0 := froz_at HB5.out 0
      have g1 := cell_at (v := .bool b) HB5.out 1 rfl
      have fg1 := froz_at HB5.out 1
      have g2 := cell_at (v := .slice o l c) HB5.out 2 rfl
      have fg2 := froz_at HB5.out 2
      have g3 := cell_at (v := .bool d) HB5.out 3 rfl
      have fg3 := froz_at HB5.out 3
      have g4 := cell_at (v := .slice p m q) HB5.out 4 rfl
      have fg4 := froz_at HB5.out 4
      go_wp2_with fail
      refine (copyOf_p _ y x11 HC.out (fun l e => Nat.le_trans (HSH.out y (by rw [HY.out]; exact List.getElem_mem hz) l e) (by decide))).mono ?_
      rintro e x12 ⟨v, rfl, hc, hb⟩
      clear g0 fg0 g1 fg1 g2 fg2 g3 fg3 g4 fg4
      replace HB5 := kBV hb HB5
      replace HR := Lib.hid (HR.out.below hb)
      replace HW := Lib.hid (HW.out.trans (hb.mono HW.out.size))
      replace HC := Lib.hid (HC.out.below hb)
      clear hb
      obtain ⟨u, rfl, hux, hur⟩ := hc
      have HUX := Lib.hid hux
      have HUR := Lib.hid hur
      have hel := HE.out.1
      have HEL := Lib.hid hel
      obtain ⟨q5, ⟨g0, g1, g2, g3, g4⟩, i0, i1, i2, i3, i4⟩ := Row.at5 HR.out hel.symm hlt
      clear hux hur hel
      simp only [vV]
      go_wp2_with fail
      go_roundw
      case rel =>
        obtain ⟨r1, r2, r3⟩ := Row.set5 HR.out j (by rw [HEL.out]; exact hlt) HEL.out.symm u HUR.out rfl
        exact ⟨j + 1, el.set j u, by go_num, hlt, Lib.hid ⟨by rw [List.length_set]; exact HEL.out, take_set_vals HE.out.2 (by rw [HEL.out]; exact hlt) hz (by rw [HUX.out, HY.out])⟩, Lib.hid r1, Lib.hid (HW.out.trans ((grown_belowV r3 HW.out.size (Nat.le_of_eq hk2)).mono (Nat.le_refl _)))⟩
      case measure => simp [intOf]; omega
    · have e : j = n := by omega
      subst e
      go_wp2_with fail
      exact bodyPost_ret (results_tmp Tryz.results27 _ _ _) rfl ⟨_, rfl, ⟨el, HR.out.at, by have e := HE.out.2; rwa [← HE.out.1, List.take_length, HE.out.1, HN.out, List.take_length] at e⟩, HW.out⟩
end Go.Proofs.YtocadojeanhalaaGreatDoor
