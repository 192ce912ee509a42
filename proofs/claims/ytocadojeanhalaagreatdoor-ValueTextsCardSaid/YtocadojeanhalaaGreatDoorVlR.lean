/-
  steps, Reduce.
-/
import Derived.Test.YtocadojeanhalaaGreatDoorVlQ
namespace Go.Proofs.YtocadojeanhalaaGreatDoor
open Go.RowKit
set_option maxRecDepth 100000
set_option linter.unusedVariables false
set_option linter.unusedSimpArgs false

set_option maxHeartbeats 8000000 in
theorem steps_p (va : Value) (x : V) (we : World) (h1 : VC we va x) (hl : ∀ l, x = .L l → l.length ≤ 100) :
    Calls Tryz.prog 25 #[va] we fun e w' => ∃ v, e = .returned v ∧ VL w' v (stepsV x) ∧ Below we.heap.size we w' := by
  have HW := Lib.hid (Below.refl we.heap.size we)
  rcases vc_cases h1 with ⟨z, o, l, c, rfl, rfl, hx⟩ | ⟨b, rfl, rfl⟩ | ⟨zs, o, n, c, rfl, rfl, hx⟩
  · skip
    clear h1
    have HX := Lib.hid hx
    clear hx
    go_enter Tryz.func25, Tryz.ntmps25
    obtain ⟨x1, k1, e1, ek1, hb1, hk1, HB1⟩ := newV we #[.int .i64 0, .bool (decide (z < 0)), .slice o l c, .bool false, .slice none 0 0] 32
    replace HW := Lib.hid (HW.out.trans (hb1.out.mono HW.out.size))
    replace HX := Lib.hid (HX.out.below hb1.out)
    have c0 := cell_at (v := .int .i64 0) HB1.out 0 rfl
    have fc0 := froz_at HB1.out 0
    have c1 := cell_at (v := .bool (decide (z < 0))) HB1.out 1 rfl
    have fc1 := froz_at HB1.out 1
    have c2 := cell_at (v := .slice o l c) HB1.out 2 rfl
    have fc2 := froz_at HB1.out 2
    have c3 := cell_at (v := .bool false) HB1.out 3 rfl
    have fc3 := froz_at HB1.out 3
    have c4 := cell_at (v := .slice none 0 0) HB1.out 4 rfl
    have fc4 := froz_at HB1.out 4
    go_wp2_with fail
    refine (intSteps_p _ z x1 HX.out.gi).mono ?_
    rintro e x2 ⟨v, rfl, hc, hb⟩
    clear c0 fc0 c1 fc1 c2 fc2 c3 fc3 c4 fc4
    replace HB1 := kBV hb HB1
    replace HW := Lib.hid (HW.out.trans (hb.mono HW.out.size))
    replace HX := Lib.hid (HX.out.below hb)
    clear hb
    have HC := Lib.hid hc
    clear hc
    go_wp2_with fail
    exact bodyPost_ret (results_tmp Tryz.results25 _ _ _) rfl ⟨_, rfl, HC.out, HW.out⟩
  · skip
    clear h1
    go_enter Tryz.func25, Tryz.ntmps25
    obtain ⟨x1, k1, e1, ek1, hb1, hk1, HB1⟩ := newV we #[.int .i64 1, .bool false, .slice none 0 0, .bool b, .slice none 0 0] 32
    replace HW := Lib.hid (HW.out.trans (hb1.out.mono HW.out.size))
    have c0 := cell_at (v := .int .i64 1) HB1.out 0 rfl
    have fc0 := froz_at HB1.out 0
    have c1 := cell_at (v := .bool false) HB1.out 1 rfl
    have fc1 := froz_at HB1.out 1
    have c2 := cell_at (v := .slice none 0 0) HB1.out 2 rfl
    have fc2 := froz_at HB1.out 2
    have c3 := cell_at (v := .bool b) HB1.out 3 rfl
    have fc3 := froz_at HB1.out 3
    have c4 := cell_at (v := .slice none 0 0) HB1.out 4 rfl
    have fc4 := froz_at HB1.out 4
    go_wp2_with fail
    exact bodyPost_ret (results_tmp Tryz.results25 _ _ _) rfl ⟨_, rfl, ⟨[], El.At.nil _, rfl⟩, HW.out⟩
  · replace hl := hl zs rfl
    clear h1
    have HX := Lib.hid hx
    clear hx
    go_enter Tryz.func25, Tryz.ntmps25
    obtain ⟨x1, k1, e1, ek1, hb1, hk1, HB1⟩ := newV we #[.int .i64 2, .bool false, .slice none 0 0, .bool false, .slice o n c] 32
    replace HW := Lib.hid (HW.out.trans (hb1.out.mono HW.out.size))
    replace HX := Lib.hid (HX.out.below hb1.out)
    have c0 := cell_at (v := .int .i64 2) HB1.out 0 rfl
    have fc0 := froz_at HB1.out 0
    have c1 := cell_at (v := .bool false) HB1.out 1 rfl
    have fc1 := froz_at HB1.out 1
    have c2 := cell_at (v := .slice none 0 0) HB1.out 2 rfl
    have fc2 := froz_at HB1.out 2
    have c3 := cell_at (v := .bool false) HB1.out 3 rfl
    have fc3 := froz_at HB1.out 3
    have c4 := cell_at (v := .slice o n c) HB1.out 4 rfl
    have fc4 := froz_at HB1.out 4
    have hwe1 : Hid (we.heap.size ≤ x1.heap.size) := Lib.hid HW.out.size
    go_upto_region 5 with fail
    clear c0 fc0 c1 fc1 c2 fc2 c3 fc3 c4 fc4
    have hlt_1 := lt_of_block HB1.out
    have hog : Hid (∀ q, q < 0 → (fun q => 0) q < x1.heap.size) := Lib.hid (fun q h => absurd h (Nat.not_lt_zero _))
    refine Rel7.region (by kernel_rfl) [[], [0], [0, 1], [], [3], [0, 1, 2, 3, 4], [0, 1, 2, 3, 4, 5], [0, 1, 2, 3, 4, 5, 6]] [] [] (fun q => 0) 0 6 (by kernel_rfl) (by kernel_rfl) (by rfl) hog.out (fun q q' h h' hn => absurd hn (by omega)) ?_
    refine Rel7.Chain.det ?_ (by rfl) (fun T xs wr hA => ?_) ?_
    rotate_left 1
    · have e1 := hA.pre 1 (by kernel_rfl)
      simp only [List.getElem?_toArray, List.getElem?_cons_succ, List.getElem?_cons_zero] at e1
      clear hA
      refine ⟨(by rfl), ?_⟩
      go_simp <;> (try with_reducible rfl)
    refine Rel7.Chain.det ?_ (by rfl) (fun T xs wr hA => ?_) ?_
    rotate_left 1
    · have e12 := hA.tm 0 12 (by rfl) (by rfl)
      have f12 : xs 0 = _ := hA.fa 0 (by rfl)
      (try simp (disch := first | rfl | decide) only [Rel7.mask_in] at f12)
      rw [f12] at e12
      clear f12
      have hBq : wr.heap[k1]? = _ := (hA.bl _ hlt_1 (fun q h => absurd h (Nat.not_lt_zero _))).trans HB1.out
      have q0 := cell_at (v := .int .i64 2) hBq 0 rfl
      have q1 := cell_at (v := .bool false) hBq 1 rfl
      have q2 := cell_at (v := .slice none 0 0) hBq 2 rfl
      have q3 := cell_at (v := .bool false) hBq 3 rfl
      have q4 := cell_at (v := .slice o n c) hBq 4 rfl
      clear hBq
      clear hA
      refine ⟨(by rfl), ?_⟩
      go_simp <;> (try with_reducible rfl)
    refine Rel7.Chain.call (fun xs v w => ∃ us, vE.Row w x1.heap.size v us ∧ us.map (·.x) = (shorter zs).map .L) (fun _ _ _ _ h hb => by obtain ⟨us, h1, h2⟩ := h; exact ⟨us, h1.below hb, h2⟩) (fun _ _ _ _ _ _ h _ => by obtain ⟨q, hq, _⟩ := h; exact absurd hq (Nat.not_lt_zero _)) (by rfl) (fun T xs wr hA => ?_) ?_
    · have hsw := (hA.be 0 (Nat.zero_le _) (fun _ _ => Nat.zero_le _)).size
      have e13 := hA.tm 1 13 (by rfl) (by rfl)
      have f13 : xs 1 = _ := hA.fa 1 (by rfl)
      (try simp (disch := first | rfl | decide) only [Rel7.mask_in] at f13)
      rw [f13] at e13
      clear f13
      have hbw := undrew (hA.be x1.heap.size (Nat.le_refl _) (fun q h => absurd h (Nat.not_lt_zero q)))
      clear hA
      refine ⟨(by rfl), fun K hK => ?_⟩
      go_simp
      refine (shorter_p _ zs wr (HX.out.below hbw) (by omega)).mono ?_
      rintro e w' ⟨v, us, rfl, hr, hm, hb'⟩
      exact hK.out _ _ ⟨us, hr.base hsw, hm⟩ hb'
    refine Rel7.Chain.det ?_ (by rfl) (fun T xs wr hA => ?_) ?_
    rotate_left 1
    · have e1 := hA.pre 1 (by kernel_rfl)
      simp only [List.getElem?_toArray, List.getElem?_cons_succ, List.getElem?_cons_zero] at e1
      clear hA
      refine ⟨(by rfl), ?_⟩
      go_simp <;> (try with_reducible rfl)
    refine Rel7.Chain.det ?_ (by rfl) (fun T xs wr hA => ?_) ?_
    rotate_left 1
    · have e15 := hA.tm 3 15 (by rfl) (by rfl)
      have f15 : xs 3 = _ := hA.fa 3 (by rfl)
      (try simp (disch := first | rfl | decide) only [Rel7.mask_in] at f15)
      rw [f15] at e15
      clear f15
      have hBq : wr.heap[k1]? = _ := (hA.bl _ hlt_1 (fun q h => absurd h (Nat.not_lt_zero _))).trans HB1.out
      have q0 := cell_at (v := .int .i64 2) hBq 0 rfl
      have q1 := cell_at (v := .bool false) hBq 1 rfl
      have q2 := cell_at (v := .slice none 0 0) hBq 2 rfl
      have q3 := cell_at (v := .bool false) hBq 3 rfl
      have q4 := cell_at (v := .slice o n c) hBq 4 rfl
      clear hBq
      clear hA
      refine ⟨(by rfl), ?_⟩
      go_simp <;> (try with_reducible rfl)
    refine Rel7.Chain.call (fun xs v w => VL w v ((smaller zs).map .L)) (fun _ _ _ _ h hb => VL.below h hb) (fun _ _ _ _ _ _ h _ => by obtain ⟨q, hq, _⟩ := h; exact absurd hq (Nat.not_lt_zero _)) (by rfl) (fun T xs wr hA => ?_) ?_
    · have hsw := (hA.be 0 (Nat.zero_le _) (fun _ _ => Nat.zero_le _)).size
      have e16 := hA.tm 4 16 (by rfl) (by rfl)
      have f16 : xs 4 = _ := hA.fa 4 (by rfl)
      (try simp (disch := first | rfl | decide) only [Rel7.mask_in] at f16)
      rw [f16] at e16
      clear f16
      have hbw := undrew (hA.be x1.heap.size (Nat.le_refl _) (fun q h => absurd h (Nat.not_lt_zero q)))
      clear hA
      refine ⟨(by rfl), fun K hK => ?_⟩
      go_simp
      refine (smaller_p _ zs wr (HX.out.below hbw) hl).mono ?_
      rintro e w' ⟨v, rfl, hc, hb'⟩
      exact hK.out _ _ hc hb'
    refine Rel7.Chain.done (fun xs x2 hL => ?_)
    obtain ⟨⟨hbe, hbl⟩, hf, -, -⟩ := hL
    have f0 : xs 0 = _ := hf 0 (by decide)
    (try simp (disch := first | rfl | decide) only [Rel7.mask_in] at f0)
    have f1 : xs 1 = _ := hf 1 (by decide)
    (try simp (disch := first | rfl | decide) only [Rel7.mask_in] at f1)
    have F2 : ∃ us, vE.Row x2 x1.heap.size (xs 2) us ∧ us.map (·.x) = (shorter zs).map .L := hf 2 (by decide)
    have f3 : xs 3 = _ := hf 3 (by decide)
    (try simp (disch := first | rfl | decide) only [Rel7.mask_in] at f3)
    have f4 : xs 4 = _ := hf 4 (by decide)
    (try simp (disch := first | rfl | decide) only [Rel7.mask_in] at f4)
    have F5 : VL x2 (xs 5) ((smaller zs).map .L) := hf 5 (by decide)
    have hb0 : Below 0 x1 x2 := undrew (hbe 0 (Nat.zero_le _) (fun _ _ => Nat.zero_le _))
    have hgr : ∀ j, j < x1.heap.size → (∀ q, q < 0 → (fun q => 0) q ≠ j) → x2.heap[j]? = x1.heap[j]? := hbl
    clear hbe hbl hf
    have hb : Below x1.heap.size x1 x2 := ⟨hb0.os, hb0.tape, hb0.output, hb0.size, fun q hq => hgr q hq (fun q h => absurd h (Nat.not_lt_zero _))⟩
    refine Rel7.rest_list (by decide) (by kernel_rfl) ?_
    simp only [Rel7.fill, List.take_succ_cons, List.take_zero, List.drop_succ_cons, List.drop_zero, List.setIfInBounds_toArray, List.set_cons_zero, List.set_cons_succ, f0, f1, f3, f4]
    clear hb0 hgr hog hlt_1 f0 f1 f3 f4
    replace HB1 := kBV hb HB1
    replace HW := Lib.hid (HW.out.trans (hb.mono HW.out.size))
    replace HX := Lib.hid (HX.out.below hb)
    replace hb := Lib.hid hb
    obtain ⟨us, hr, hm⟩ := F2
    obtain ⟨us2, hat, hm2⟩ := F5
    have HR := Lib.hid hr
    have HM := Lib.hid hm
    have HAT := Lib.hid hat
    have HM2 := Lib.hid hm2
    have hl1 : us.length ≤ 100 := by have := congrArg List.length hm; rw [List.length_map, List.length_map, shorter_len] at this; omega
    have hl2 : us2.length ≤ 400 := by
      have h1 := congrArg List.length hm2
      rw [List.length_map, List.length_map] at h1
      have h2 : (smaller zs).length ≤ 2 * zs.length := by
        have h3 : ∀ m, ((List.range m).flatMap fun i => (lesser (zs.getD i 0)).map fun q => zs.take i ++ [q] ++ zs.drop (i + 1)).length ≤ 2 * m := by
          intro m
          induction m with
          | zero => simp
          | succ m ih =>
            rw [List.range_succ, List.flatMap_append, List.length_append]
            have := lesser_le (zs.getD m 0)
            simp only [List.flatMap_cons, List.flatMap_nil, List.append_nil, List.length_map]
            omega
        exact h3 zs.length
      omega
    have hsz1 : Hid (x1.heap.size ≤ x2.heap.size) := Lib.hid hb.out.size
    have HWB := Lib.hid (HW.out.size)
    clear hr hm hat hm2
    go_wp2_with (at_builtin; refine El.Row.append (E := vE) (HR.out.base (B' := we.heap.size) (Nat.le_trans (by exact hwe1.out) (Nat.le_refl _))) rfl (.tmp 14) (.tmp 17) rfl rfl rfl HAT.out (by omega) HW.out.size ?_; intro v9 w9 r1 r2 r3 r4)
    exact bodyPost_ret (results_tmp Tryz.results25 _ _ _) rfl ⟨_, rfl, ⟨us ++ us2, r1.at, by rw [List.map_append, HM.out, HM2.out]; rfl⟩, HW.out.trans r3⟩
theorem one_atW {w : World} {g : Nat} {o : Option Addr} {l c : Nat} {xs : List V} (hB : w.heap[g]? = some (.cells #[.slice o l c] 22 (0, 0))) (hR : VL w (.slice o l c) xs) : wE.At w (.slice (some ⟨g, 0, none⟩) 1 1) [⟨o, l, c, xs⟩] :=
  El.At.block (E := wE) (el := [⟨o, l, c, xs⟩]) (by show _ = some (Obj.cells (([⟨o, l, c, xs⟩] : List WU).flatMap wE.f).toArray _ _); exact hB) (by simp [maxLen]) (fun a ha => by rw [List.mem_singleton] at ha; subst ha; exact hR)
def redTo (xs : List V) (j : Nat) : List (List V) := (List.range j).flatMap fun i => (stepsV (xs.getD i (.B false))).map fun s => xs.take i ++ [s] ++ xs.drop (i + 1)
theorem red_next (xs : List V) (j : Nat) (hj : j < xs.length) : redTo xs (j + 1) = redTo xs j ++ (stepsV xs[j]).map fun s => xs.take j ++ [s] ++ xs.drop (j + 1) := by
  unfold redTo
  rw [List.range_succ, List.flatMap_append]
  have e : xs.getD j (.B false) = xs[j] := by simp [List.getD, hj]
  simp only [List.flatMap_cons, List.flatMap_nil, List.append_nil, e]
theorem small_le (zs : List Int) : (smaller zs).length ≤ 2 * zs.length := by
  have h3 : ∀ m, ((List.range m).flatMap fun i => (lesser (zs.getD i 0)).map fun q => zs.take i ++ [q] ++ zs.drop (i + 1)).length ≤ 2 * m := by
    intro m
    induction m with
    | zero => simp
    | succ m ih =>
      rw [List.range_succ, List.flatMap_append, List.length_append]
      have := lesser_le (zs.getD m 0)
      simp only [List.flatMap_cons, List.flatMap_nil, List.append_nil, List.length_map]
      omega
  exact h3 zs.length
theorem steps_le (x : V) (h : ∀ l, x = .L l → l.length ≤ 100) : (stepsV x).length ≤ 3000 := by
  cases x with
  | I z => have := lesser_le z; simp [stepsV]; omega
  | B b => simp [stepsV]
  | L l => have h1 := h l rfl; have h2 := small_le l; simp [stepsV, shorter_len]; omega
set_option maxHeartbeats 16000000 in
theorem reduce_p (va : Value) (rs : List V) (we : World) (hx : VL we va rs) (hlen : rs.length ≤ 100) (hsh : ∀ x ∈ rs, ∀ l, x = .L l → l.length ≤ 100) :
    Calls Tryz.prog 11 #[va] we fun e w' => ∃ v, e = .returned v ∧ WL w' v (reduceV rs) ∧ Below we.heap.size we w' := by
  obtain ⟨ko, kc, rfl, ⟨hq1, hq2⟩, -⟩ := hx.form
  have HN0 := Lib.hid hx
  obtain ⟨vs, hat, hzs⟩ := hx
  have HX := Lib.hid hat
  have HZ := Lib.hid hzs
  have HSH := Lib.hid hsh
  obtain ⟨n, hn⟩ : ∃ n, n = rs.length := ⟨_, rfl⟩
  rw [← hn] at hlen hq1 HX HN0 ⊢
  have hmx : kc ≤ 9223372036854775807 := hq2
  have HN := Lib.hid hn
  clear hn hat hzs hsh
  go_enter Tryz.func11, Tryz.ntmps11
  go_wp2_with fail
  go_loopw [3, 10] (SOrel wE (·.xs) we n (redTo rs)) (fun _ i _ => n - (intOf i).toNat)
  case atStart => exact ⟨0, [], rfl, Nat.zero_le _, Lib.hid rfl, Lib.hid (Nat.le_refl _), Lib.hid (El.Row.nil _ _), Lib.hid (Below.refl _ _)⟩
  case round =>
    obtain ⟨j, us, rfl, hj, HU, HUL, HR, HW⟩ := hrel
    obtain ⟨oo, oc, rfl, hol, hoc, -⟩ := HR.out.form
    by_cases hlt : j < n
    · obtain ⟨wq, rfl⟩ : ∃ q, q = wr := ⟨_, rfl⟩
      have hz : j < rs.length := by rw [← HN.out]; exact hlt
      obtain ⟨a, xk, xb, xo, xl, xc, xd, xp, xm, xq, rfl, ⟨c0, c1, c2, c3, c4⟩, hc⟩ := (HN0.out.below HW.out).cells.2 j hz
      obtain ⟨y, hyy⟩ : ∃ y, y = rs[j] := ⟨_, rfl⟩
      rw [← hyy] at hc
      have HYY := Lib.hid hyy
      have HC := Lib.hid hc
      have hyl : ∀ l, y = .L l → l.length ≤ 100 := by rw [hyy]; exact HSH.out _ (List.getElem_mem hz)
      clear hyy hc
      obtain ⟨x11, k5, e5, ek5, hb5, hk5, HB5⟩ := newV wq #[.int .i64 xk, .bool xb, .slice xo xl xc, .bool xd, .slice xp xm xq] 32
      replace HR := Lib.hid (HR.out.below hb5.out)
      replace HW := Lib.hid (HW.out.trans (hb5.out.mono HW.out.size))
      replace HC := Lib.hid (HC.out.below hb5.out)
      have g0 := cell_at (v := .int .i64 xk) HB5.out 0 rfl
      have fg0 := froz_at HB5.out 0
      have g1 := cell_at (v := .bool xb) HB5.out 1 rfl
      have fg1 := froz_at HB5.out 1
      have g2 := cell_at (v := .slice xo xl xc) HB5.out 2 rfl
      have fg2 := froz_at HB5.out 2
      have g3 := cell_at (v := .bool xd) HB5.out 3 rfl
      have fg3 := froz_at HB5.out 3
      have g4 := cell_at (v := .slice xp xm xq) HB5.out 4 rfl
      have fg4 := froz_at HB5.out 4
      go_wp2_with fail
      refine (steps_p _ y x11 HC.out hyl).mono ?_
      rintro e x12 ⟨v, rfl, hL, hb⟩
      clear g0 fg0 g1 fg1 g2 fg2 g3 fg3 g4 fg4
      replace HB5 := kBV hb HB5
      replace HR := Lib.hid (HR.out.below hb)
      replace HW := Lib.hid (HW.out.trans (hb.mono HW.out.size))
      replace HC := Lib.hid (HC.out.below hb)
      clear hb
      obtain ⟨po, pc, rfl, ⟨hp1, hp2⟩, -⟩ := hL.form
      have HL := Lib.hid hL
      obtain ⟨M, hM⟩ : ∃ M, M = (stepsV y).length := ⟨_, rfl⟩
      have hM2 : M ≤ 3000 := by rw [hM]; exact steps_le y hyl
      rw [← hM] at HL hp1 ⊢
      have hmp : pc ≤ 9223372036854775807 := hp2
      have HM := Lib.hid hM
      clear hL hM HB5 hyl
      go_wp2_with fail
      go_loopw [3, 18] (SMrel wE (·.xs) we x12 M (3000 * j) (redTo rs j) (fun s => rs.take j ++ [s] ++ rs.drop (j + 1)) (stepsV y)) (fun _ i _ => M - (intOf i).toNat)
      case atStart => exact ⟨0, us, rfl, Nat.zero_le _, Lib.hid (by rw [HU.out]; simp), Lib.hid HUL.out, HR, HW, Lib.hid (Fr.refl _ _)⟩
      case round =>
        clear HR HW HU HUL
        obtain ⟨i, us, rfl, hi, HU, HUL, HR, HW, HF⟩ := hrel
        obtain ⟨oo, oc, rfl, hol, hoc, -⟩ := HR.out.form
        by_cases hli : i < M
        · obtain ⟨wp, rfl⟩ : ∃ q, q = wr := ⟨_, rfl⟩
          have hiL : i < (stepsV y).length := by rw [← HM.out]; exact hli
          obtain ⟨pa, nu, nk, nb, no, nl, nc, nd, np, nm, nq, rfl, hne, ⟨d0, d1, d2, d3, d4⟩, hnx, hnr, -⟩ := (HL.out.fr (by decide) (by decide) HF.out).unitAt hiL
          have HNE := Lib.hid hne
          have HNX := Lib.hid hnx
          have HNR := Lib.hid hnr
          clear hne hnx hnr
          obtain ⟨x31, k7, e7, ek7, hb7, hk7, HB7⟩ := newV wp #[.int .i64 nk, .bool nb, .slice no nl nc, .bool nd, .slice np nm nq] 32
          replace HR := Lib.hid (HR.out.below hb7.out)
          replace HW := Lib.hid (HW.out.trans (hb7.out.mono HW.out.size))
          replace HF := Lib.hid (HF.out.trans (Fr.of_below hb7.out))
          replace HNR := Lib.hid (vE.below HNR.out hb7.out)
          obtain ⟨ta, hta⟩ : ∃ t, t = tailA (some a) (j + 1) kc 5 := ⟨_, rfl⟩
          have htb : (if kc = j + 1 then some a else some (a.add ((j + 1) * 5))) = ta := hta.symm
          have HTA := Lib.hid hta
          have hj1 : j + 1 ≤ n := hlt
          have hwj : IntKind.i64.wrap ((j : Int) + 1) = ((j + 1 : Nat) : Int) := by rw [IntKind.wrap_i64]; omega
          have hij1 : (0 : Int) ≤ (j : Int) + 1 := by omega
          have hij2 : (j : Int) + 1 ≤ (n : Int) := by omega
          have hjk : j ≤ kc := by omega
          clear hta
          go_upto_region 8 with fail
          clear d0 d1 d2 d3 d4
          have HP : Hid (VL x31 (.slice (some a) j kc) (rs.take j)) := Lib.hid ⟨vs.take j, (HX.out.pre (j := j) (by omega)).below HW.out, by rw [← HZ.out, List.map_take]⟩
          have HQ : Hid (VL x31 (.slice ta (n - (j + 1)) (kc - (j + 1))) (rs.drop (j + 1))) := Lib.hid ⟨vs.drop (j + 1), by rw [HTA.out]; exact ((HX.out.tail (j := j + 1) hj1).below HW.out), by rw [← HZ.out, List.map_drop]⟩
          have hS1 : Short (rs.take j) := fun x hx l e => Nat.le_trans (HSH.out x (List.mem_of_mem_take hx) l e) (by decide)
          have hS2 : Short (rs.drop (j + 1)) := fun x hx l e => Nat.le_trans (HSH.out x (List.mem_of_mem_drop hx) l e) (by decide)
          have hnl : rs.length ≤ 100 := by rw [← HN.out]; exact hlen
          have hlt_7 := lt_of_block HB7.out
          have hog : Hid (∀ q, q < 0 → (fun q => 0) q < x31.heap.size) := Lib.hid (fun q h => absurd h (Nat.not_lt_zero _))
          refine Rel7.region (by kernel_rfl) [[], [], [], [1, 2], [1, 2, 3], [], [5], [], [], [8], [7, 8, 9], [1, 2, 3, 4, 7, 8, 9, 10], [1, 2, 3, 4, 5, 6, 7, 8, 9, 10, 11], [1, 2, 3, 4, 5, 6, 7, 8, 9, 10, 11, 12], [1, 2, 3, 4, 5, 6, 7, 8, 9, 10, 11, 12, 13], [0, 1, 2, 3, 4, 5, 6, 7, 8, 9, 10, 11, 12, 13, 14], [0, 1, 2, 3, 4, 5, 6, 7, 8, 9, 10, 11, 12, 13, 14, 15]] [] [] (fun q => 0) 0 15 (by kernel_rfl) (by kernel_rfl) (by rfl) hog.out (fun q q' h h' hn => absurd hn (by omega)) ?_
          refine Rel7.Chain.det ?_ (by rfl) (fun T xs wr hA => ?_) ?_
          rotate_left 1
          · have e3 := hA.pre 3 (by kernel_rfl)
            simp only [List.getElem?_toArray, List.getElem?_cons_succ, List.getElem?_cons_zero] at e3
            clear hA
            refine ⟨(by rfl), ?_⟩
            go_simp <;> (try with_reducible rfl)
          refine Rel7.Chain.det ?_ (by rfl) (fun T xs wr hA => ?_) ?_
          rotate_left 1
          · have e0 := hA.pre 0 (by kernel_rfl)
            simp only [List.getElem?_toArray, List.getElem?_cons_zero] at e0
            clear hA
            refine ⟨(by rfl), ?_⟩
            go_simp <;> (try with_reducible rfl)
          refine Rel7.Chain.det ?_ (by rfl) (fun T xs wr hA => ?_) ?_
          rotate_left 1
          · have e4 := hA.pre 4 (by kernel_rfl)
            simp only [List.getElem?_toArray, List.getElem?_cons_succ, List.getElem?_cons_zero] at e4
            clear hA
            refine ⟨(by rfl), ?_⟩
            go_simp <;> (try with_reducible rfl)
          refine Rel7.Chain.det ?_ (by rfl) (fun T xs wr hA => ?_) ?_
          rotate_left 1
          · have e23 := hA.tm 1 23 (by rfl) (by rfl)
            have f23 : xs 1 = _ := hA.fa 1 (by rfl)
            (try simp (disch := first | rfl | decide) only [Rel7.mask_in] at f23)
            rw [f23] at e23
            clear f23
            have e24 := hA.tm 2 24 (by rfl) (by rfl)
            have f24 : xs 2 = _ := hA.fa 2 (by rfl)
            (try simp (disch := first | rfl | decide) only [Rel7.mask_in] at f24)
            rw [f24] at e24
            clear f24
            clear hA
            refine ⟨(by rfl), ?_⟩
            go_simp <;> (try with_reducible rfl)
          refine Rel7.Chain.call (fun xs v w => VL w v (rs.take j)) (fun _ _ _ _ h hb => VL.below h hb) (fun _ _ _ _ _ _ h _ => by obtain ⟨q, hq, _⟩ := h; exact absurd hq (Nat.not_lt_zero _)) (by rfl) (fun T xs wr hA => ?_) ?_
          · have hsw := (hA.be 0 (Nat.zero_le _) (fun _ _ => Nat.zero_le _)).size
            have e25 := hA.tm 3 25 (by rfl) (by rfl)
            have f25 : xs 3 = _ := hA.fa 3 (by rfl)
            (try simp (disch := first | rfl | decide) only [Rel7.mask_in] at f25)
            rw [f25] at e25
            clear f25
            have hbw := undrew (hA.be x31.heap.size (Nat.le_refl _) (fun q h => absurd h (Nat.not_lt_zero q)))
            clear hA
            refine ⟨(by rfl), fun K hK => ?_⟩
            go_simp
            refine (copies_p _ _ wr (HP.out.below hbw) (by rw [List.length_take]; omega) hS1).mono ?_
            rintro e w' ⟨v, rfl, ha, hb'⟩
            exact hK.out _ _ ha hb'
          refine Rel7.Chain.det ?_ (by rfl) (fun T xs wr hA => ?_) ?_
          rotate_left 1
          · have e7 := hA.pre 7 (by kernel_rfl)
            simp only [List.getElem?_toArray, List.getElem?_cons_succ, List.getElem?_cons_zero] at e7
            have hBq : wr.heap[k7]? = _ := (hA.bl _ hlt_7 (fun q h => absurd h (Nat.not_lt_zero _))).trans HB7.out
            have q0 := cell_at (v := .int .i64 nk) hBq 0 rfl
            have q1 := cell_at (v := .bool nb) hBq 1 rfl
            have q2 := cell_at (v := .slice no nl nc) hBq 2 rfl
            have q3 := cell_at (v := .bool nd) hBq 3 rfl
            have q4 := cell_at (v := .slice np nm nq) hBq 4 rfl
            clear hBq
            clear hA
            refine ⟨(by rfl), ?_⟩
            go_simp <;> (try with_reducible rfl)
          refine Rel7.Chain.call (fun xs v w => vE.At w v [nu]) (fun _ _ _ _ h hb => El.At.below h hb) (fun _ _ _ _ _ _ h _ => by obtain ⟨q, hq, _⟩ := h; exact absurd hq (Nat.not_lt_zero _)) (by rfl) (fun T xs wr hA => ?_) ?_
          · have hsw := (hA.be 0 (Nat.zero_le _) (fun _ _ => Nat.zero_le _)).size
            have e27 := hA.tm 5 27 (by rfl) (by rfl)
            have f27 : xs 5 = _ := hA.fa 5 (by rfl)
            (try simp (disch := first | rfl | decide) only [Rel7.mask_in] at f27)
            rw [f27] at e27
            clear f27
            have hbw := undrew (hA.be x31.heap.size (Nat.le_refl _) (fun q h => absurd h (Nat.not_lt_zero q)))
            clear hA
            refine ⟨(by rfl), fun K hK => ?_⟩
            go_simp
            exact hK.out _ _ (one_atV (heap_alloc_new wr _) HNE.out (vE.below (vE.below HNR.out hbw) ((Below.refl _ _).alloc (Nat.le_refl _) _))) ((Below.refl _ _).alloc (Nat.le_refl _) _)
          refine Rel7.Chain.det ?_ (by rfl) (fun T xs wr hA => ?_) ?_
          rotate_left 1
          · have e0 := hA.pre 0 (by kernel_rfl)
            simp only [List.getElem?_toArray, List.getElem?_cons_zero] at e0
            clear hA
            refine ⟨(by rfl), ?_⟩
            go_simp <;> (try with_reducible rfl)
          refine Rel7.Chain.det ?_ (by rfl) (fun T xs wr hA => ?_) ?_
          rotate_left 1
          · have e4 := hA.pre 4 (by kernel_rfl)
            simp only [List.getElem?_toArray, List.getElem?_cons_succ, List.getElem?_cons_zero] at e4
            clear hA
            refine ⟨(by rfl), ?_⟩
            go_simp <;> (try with_reducible rfl)
          refine Rel7.Chain.det ?_ (by rfl) (fun T xs wr hA => ?_) ?_
          rotate_left 1
          · have e30 := hA.tm 8 30 (by rfl) (by rfl)
            have f30 : xs 8 = _ := hA.fa 8 (by rfl)
            (try simp (disch := first | rfl | decide) only [Rel7.mask_in] at f30)
            rw [f30] at e30
            clear f30
            clear hA
            refine ⟨(by rfl), ?_⟩
            go_simp <;> (try with_reducible rfl)
          refine Rel7.Chain.det ?_ (by rfl) (fun T xs wr hA => ?_) ?_
          rotate_left 1
          · have e29 := hA.tm 7 29 (by rfl) (by rfl)
            have f29 : xs 7 = _ := hA.fa 7 (by rfl)
            (try simp (disch := first | rfl | decide) only [Rel7.mask_in] at f29)
            rw [f29] at e29
            clear f29
            have e31 := hA.tm 9 31 (by rfl) (by rfl)
            have f31 : xs 9 = _ := hA.fa 9 (by rfl)
            (try simp (disch := first | rfl | decide) only [Rel7.mask_in] at f31)
            rw [f31] at e31
            clear f31
            clear hA
            refine ⟨(by rfl), ?_⟩
            go_simp <;> (try with_reducible rfl)
          refine Rel7.Chain.call (fun xs v w => VL w v (rs.drop (j + 1))) (fun _ _ _ _ h hb => VL.below h hb) (fun _ _ _ _ _ _ h _ => by obtain ⟨q, hq, _⟩ := h; exact absurd hq (Nat.not_lt_zero _)) (by rfl) (fun T xs wr hA => ?_) ?_
          · have hsw := (hA.be 0 (Nat.zero_le _) (fun _ _ => Nat.zero_le _)).size
            have e32 := hA.tm 10 32 (by rfl) (by rfl)
            have f32 : xs 10 = _ := hA.fa 10 (by rfl)
            (try simp (disch := first | rfl | decide) only [Rel7.mask_in] at f32)
            rw [f32] at e32
            clear f32
            have hbw := undrew (hA.be x31.heap.size (Nat.le_refl _) (fun q h => absurd h (Nat.not_lt_zero q)))
            clear hA
            refine ⟨(by rfl), fun K hK => ?_⟩
            go_simp
            refine (copies_p _ _ wr (HQ.out.below hbw) (by rw [List.length_drop]; omega) hS2).mono ?_
            rintro e w' ⟨v, rfl, ha, hb'⟩
            exact hK.out _ _ ha hb'
          refine Rel7.Chain.call (fun xs v w => ∃ g e1 e3, v = .slice (some ⟨g, 0, none⟩) 3 3 ∧ Ls vE w ⟨g, 0, none⟩ [e1, [nu], e3] ∧ e1.map (·.x) = rs.take j ∧ e3.map (·.x) = rs.drop (j + 1)) (fun _ _ _ _ h hb => by obtain ⟨g, e1, e3, h1, h2, h3⟩ := h; exact ⟨g, e1, e3, h1, h2.below hb, h3⟩) (fun _ _ _ _ _ _ h _ => by obtain ⟨q, hq, _⟩ := h; exact absurd hq (Nat.not_lt_zero _)) (by rfl) (fun T xs wr hA => ?_) ?_
          · have hsw := (hA.be 0 (Nat.zero_le _) (fun _ _ => Nat.zero_le _)).size
            have e26 := hA.tm 4 26 (by rfl) (by rfl)
            have e28 := hA.tm 6 28 (by rfl) (by rfl)
            have e33 := hA.tm 11 33 (by rfl) (by rfl)
            have hbw := undrew (hA.be x31.heap.size (Nat.le_refl _) (fun q h => absurd h (Nat.not_lt_zero q)))
            have hF4 : VL wr (xs 4) (rs.take j) := hA.fa 4 (by rfl)
            obtain ⟨e1, h4, hm4⟩ := hF4
            have hF6 : vE.At wr (xs 6) [nu] := hA.fa 6 (by rfl)
            have h6 := hF6
            have hF11 : VL wr (xs 11) (rs.drop (j + 1)) := hA.fa 11 (by rfl)
            obtain ⟨e3, h11, hm11⟩ := hF11
            obtain ⟨o4, c4, hv4, -⟩ := id h4
            obtain ⟨o6, c6, hv6, -⟩ := id h6
            obtain ⟨o11, c11, hv11, -⟩ := id h11
            rw [hv4] at e26 h4
            rw [hv6] at e28 h6
            rw [hv11] at e33 h11
            clear hA
            refine ⟨(by rfl), fun K hK => ?_⟩
            go_simp
            exact hK.out _ _ ⟨_, e1, e3, rfl, ls_three (heap_alloc_new wr _) (h4.below ((Below.refl _ _).alloc (Nat.le_refl _) _)) (h6.below ((Below.refl _ _).alloc (Nat.le_refl _) _)) (h11.below ((Below.refl _ _).alloc (Nat.le_refl _) _)), hm4, hm11⟩ ((Below.refl _ _).alloc (Nat.le_refl _) _)
          refine Rel7.Chain.call (fun xs v w => VL w v (rs.take j ++ [nu.x] ++ rs.drop (j + 1))) (fun _ _ _ _ h hb => VL.below h hb) (fun _ _ _ _ _ _ h _ => by obtain ⟨q, hq, _⟩ := h; exact absurd hq (Nat.not_lt_zero _)) (by rfl) (fun T xs wr hA => ?_) ?_
          · have hsw := (hA.be 0 (Nat.zero_le _) (fun _ _ => Nat.zero_le _)).size
            have e34 := hA.tm 12 34 (by rfl) (by rfl)
            have hbw := undrew (hA.be x31.heap.size (Nat.le_refl _) (fun q h => absurd h (Nat.not_lt_zero q)))
            have hF12 : ∃ g e1 e3, (xs 12) = .slice (some ⟨g, 0, none⟩) 3 3 ∧ Ls vE wr ⟨g, 0, none⟩ [e1, [nu], e3] ∧ e1.map (·.x) = rs.take j ∧ e3.map (·.x) = rs.drop (j + 1) := hA.fa 12 (by rfl)
            obtain ⟨g, e1, e3, hv, hls, hm1, hm3⟩ := hF12
            rw [hv] at e34
            have hl1 : e1.length ≤ 100 := by have := congrArg List.length hm1; rw [List.length_map, List.length_take] at this; omega
            have hl3 : e3.length ≤ 100 := by have := congrArg List.length hm3; rw [List.length_map, List.length_drop] at this; omega
            clear hA
            refine ⟨(by rfl), fun K hK => ?_⟩
            go_simp
            refine (concatV_p ⟨g, 0, none⟩ 3 3 [e1, [nu], e3] wr hls rfl (by simp [maxLen]) (by simp [lenL]; omega) (by decide)).mono ?_
            rintro e w' ⟨v, rfl, ha, hb'⟩
            exact hK.out _ _ ⟨_, ha, by simp [hm1, hm3]⟩ hb'
          refine Rel7.Chain.call (fun xs v w => ∃ q, wE.At w v [q] ∧ q.xs = (rs.take j ++ [nu.x] ++ rs.drop (j + 1))) (fun _ _ _ _ h hb => by obtain ⟨u, h1, h2⟩ := h; exact ⟨u, El.At.below h1 hb, h2⟩) (fun _ _ _ _ _ _ h _ => by obtain ⟨q, hq, _⟩ := h; exact absurd hq (Nat.not_lt_zero _)) (by rfl) (fun T xs wr hA => ?_) ?_
          · have hsw := (hA.be 0 (Nat.zero_le _) (fun _ _ => Nat.zero_le _)).size
            have e35 := hA.tm 13 35 (by rfl) (by rfl)
            have hbw := undrew (hA.be x31.heap.size (Nat.le_refl _) (fun q h => absurd h (Nat.not_lt_zero q)))
            have hF13 : VL wr (xs 13) (rs.take j ++ [nu.x] ++ rs.drop (j + 1)) := hA.fa 13 (by rfl)
            have h13 := hF13
            obtain ⟨o13, c13, hv13, -⟩ := h13.form
            rw [hv13] at e35 h13
            obtain ⟨L13, hL13⟩ : ∃ L, L = (rs.take j ++ [nu.x] ++ rs.drop (j + 1)).length := ⟨_, rfl⟩
            rw [← hL13] at e35 h13
            clear hL13 hv13
            clear hA
            refine ⟨(by rfl), fun K hK => ?_⟩
            go_simp
            exact hK.out _ _ ⟨_, one_atW (heap_alloc_new wr _) (h13.below ((Below.refl _ _).alloc (Nat.le_refl _) _)), rfl⟩ ((Below.refl _ _).alloc (Nat.le_refl _) _)
          refine Rel7.Chain.done (fun xs x32 hL => ?_)
          obtain ⟨⟨hbe, hbl⟩, hf, -, -⟩ := hL
          have f0 : xs 0 = _ := hf 0 (by decide)
          (try simp (disch := first | rfl | decide) only [Rel7.mask_in] at f0)
          have f1 : xs 1 = _ := hf 1 (by decide)
          (try simp (disch := first | rfl | decide) only [Rel7.mask_in] at f1)
          have f2 : xs 2 = _ := hf 2 (by decide)
          (try simp (disch := first | rfl | decide) only [Rel7.mask_in] at f2)
          have f3 : xs 3 = _ := hf 3 (by decide)
          (try simp (disch := first | rfl | decide) only [Rel7.mask_in] at f3)
          have F4 : VL x32 (xs 4) (rs.take j) := hf 4 (by decide)
          have f5 : xs 5 = _ := hf 5 (by decide)
          (try simp (disch := first | rfl | decide) only [Rel7.mask_in] at f5)
          have F6 : vE.At x32 (xs 6) [nu] := hf 6 (by decide)
          have f7 : xs 7 = _ := hf 7 (by decide)
          (try simp (disch := first | rfl | decide) only [Rel7.mask_in] at f7)
          have f8 : xs 8 = _ := hf 8 (by decide)
          (try simp (disch := first | rfl | decide) only [Rel7.mask_in] at f8)
          have f9 : xs 9 = _ := hf 9 (by decide)
          (try simp (disch := first | rfl | decide) only [Rel7.mask_in] at f9)
          have f10 : xs 10 = _ := hf 10 (by decide)
          (try simp (disch := first | rfl | decide) only [Rel7.mask_in] at f10)
          have F11 : VL x32 (xs 11) (rs.drop (j + 1)) := hf 11 (by decide)
          have F12 : ∃ g e1 e3, (xs 12) = .slice (some ⟨g, 0, none⟩) 3 3 ∧ Ls vE x32 ⟨g, 0, none⟩ [e1, [nu], e3] ∧ e1.map (·.x) = rs.take j ∧ e3.map (·.x) = rs.drop (j + 1) := hf 12 (by decide)
          have F13 : VL x32 (xs 13) (rs.take j ++ [nu.x] ++ rs.drop (j + 1)) := hf 13 (by decide)
          have F14 : ∃ q, wE.At x32 (xs 14) [q] ∧ q.xs = (rs.take j ++ [nu.x] ++ rs.drop (j + 1)) := hf 14 (by decide)
          have hb0 : Below 0 x31 x32 := undrew (hbe 0 (Nat.zero_le _) (fun _ _ => Nat.zero_le _))
          have hgr : ∀ j, j < x31.heap.size → (∀ q, q < 0 → (fun q => 0) q ≠ j) → x32.heap[j]? = x31.heap[j]? := hbl
          clear hbe hbl hf
          have hb : Below x31.heap.size x31 x32 := ⟨hb0.os, hb0.tape, hb0.output, hb0.size, fun q hq => hgr q hq (fun q h => absurd h (Nat.not_lt_zero _))⟩
          refine Rel7.rest_list (by decide) (by kernel_rfl) ?_
          simp only [Rel7.fill, List.take_succ_cons, List.take_zero, List.drop_succ_cons, List.drop_zero, List.setIfInBounds_toArray, List.set_cons_zero, List.set_cons_succ, f0, f1, f2, f3, f5, f7, f8, f9, f10]
          clear hb0 hgr hog hlt_7 f0 f1 f2 f3 f5 f7 f8 f9 f10
          replace HB7 := kBV hb HB7
          replace HR := Lib.hid (HR.out.below hb)
          replace HW := Lib.hid (HW.out.trans (hb.mono HW.out.size))
          replace HF := Lib.hid (HF.out.trans (Fr.of_below hb))
          replace HNR := Lib.hid (vE.below HNR.out hb)
          replace hb := Lib.hid hb
          obtain ⟨u, hat, hux⟩ := F14
          rw [show (0 + 1 + 1 + 1 + 1 + 1 + 1 + 1 + 1 + 1 + 1 + 1 + 1 + 1 + 1 : Nat) = 14 from rfl]
          have HAT := Lib.hid hat
          have HUX := Lib.hid hux
          clear hat hux
          go_wp2_with (at_builtin; refine El.Row.append (E := wE) HR.out rfl (.tmp 22) (.tmp 36) rfl rfl rfl HAT.out (by have := HUL.out; simp; omega) HW.out.size ?_; intro v9 w9 r1 r2 r3 r4)
          go_roundw
          case rel => exact ⟨i + 1, us ++ [u], by go_num, hli, Lib.hid (sm_next HU.out hiL (by rw [HUX.out, HNX.out])), Lib.hid (by have := HUL.out; simp; omega), Lib.hid r1, Lib.hid (HW.out.trans r3), Lib.hid (HF.out.trans r2)⟩
          case measure => simp [intOf]; omega
        · go_wp2_with fail
          go_roundw
          case rel => exact ⟨j + 1, us, by go_num, hlt, Lib.hid (by rw [HU.out, red_next rs j hz, ← HYY.out, show i = (stepsV y).length by rw [← HM.out]; omega, List.take_length]), Lib.hid (by have := HUL.out; omega), HR, HW⟩
          case measure => simp [intOf]; omega
    · go_wp2_with fail
      exact bodyPost_ret (results_tmp Tryz.results11 _ _ _) rfl ⟨_, rfl, ⟨us, HR.out.at, by rw [HU.out, show j = rs.length by rw [← HN.out]; omega]; rfl⟩, HW.out⟩
end Go.Proofs.YtocadojeanhalaaGreatDoor
