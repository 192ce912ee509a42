/-
  Contracts of slices.EqualFunc at kids and sorts, of slices.ContainsFunc at kids; are, areAll.
-/
import Derived.Test.YtinfbmnimkcdjaaLgC
namespace Go.Proofs.Ytinfbmnimkcdjaa
open Go.RowKit
set_option maxRecDepth 100000
set_option linter.unusedVariables false
set_option linter.unusedSimpArgs false

/-- A list of sorts. -/
def BL (w : World) (v : Value) (ss : List Int) : Prop := ∃ ko kc, v = .slice ko ss.length kc ∧ (ss.length ≤ kc ∧ kc ≤ maxLen) ∧ ∀ i (hi : i < ss.length), ∃ a, ko = some a ∧ w.cell? (a.add i) = some (.int .i64 ss[i])
theorem BL.below {w w' : World} {v : Value} {ss : List Int} (h : BL w v ss) (hb : Below w.heap.size w w') : BL w' v ss := by
  obtain ⟨ko, kc, rfl, h1, h2⟩ := h
  refine ⟨ko, kc, rfl, h1, fun i hi => ?_⟩
  obtain ⟨a, ha, hc⟩ := h2 i hi
  exact ⟨a, ha, by rw [hb.cell (World.block_lt_of_cell? w _ hc)]; exact hc⟩
theorem BL.cells {w : World} {ko : Option Addr} {n kc : Nat} {ss : List Int} (h : BL w (.slice ko n kc) ss) (i : Nat) (hi : i < ss.length) : ∃ a, ko = some a ∧ w.cell? (a.add i) = some (.int .i64 ss[i]) := by
  obtain ⟨ko', kc', e, h1, h2⟩ := h
  injection e with e1 e2 e3
  subst e1
  exact h2 i hi
theorem BL.block {w : World} {g : Nat} {ss : List Int} {T : TypeId} (h : w.heap[g]? = some (.cells (ss.map (Value.int .i64)).toArray T (0, 0))) (hl : ss.length ≤ maxLen) : BL w (.slice (some ⟨g, 0, none⟩) ss.length ss.length) ss :=
  ⟨_, _, rfl, ⟨Nat.le_refl _, hl⟩, fun i hi => ⟨_, rfl, by rw [add_litV, Nat.zero_add, cell_of_row w g _ _ _ _ h]; simp [hi]⟩⟩
theorem BL.nil (w : World) : BL w (.slice none 0 0) [] := ⟨none, 0, rfl, ⟨Nat.le_refl _, Nat.zero_le _⟩, fun i hi => absurd hi (Nat.not_lt_zero i)⟩
theorem srts_len (ts : List F) : (srts ts).length = ts.length := by unfold srts; rw [List.length_map]
theorem srts_get (ts : List F) (i : Nat) (hi : i < ts.length) (hi' : i < (srts ts).length) : (srts ts)[i] = srt ts[i].op := List.getElem_map (fun f : F => srt f.op)
set_option maxHeartbeats 4000000 in
theorem equalS_p (va vb : Value) (ts : List F) (M : List Int) (d : Nat) (S : Nat → Prop) (w : World) (h1 : FL w S d va ts) (h2 : BL w vb M) :
    Calls Try.prog 75 #[va, vb, .func (.func 76) #[] #[]] w fun e w' => e = .returned (.bool (decide (srts ts = M))) ∧ Below w.heap.size w w' := by
  obtain ⟨ko, kc, rfl, ⟨hq1, hq2, -⟩⟩ := h1.form
  have h2' := h2
  obtain ⟨po, pc, rfl, ⟨hr1, hr2⟩, -⟩ := h2'
  have hmx : kc ≤ 9223372036854775807 := hq2
  have hmy : pc ≤ 9223372036854775807 := hr2
  have HX := Lib.hid h1
  have HY := Lib.hid h2
  clear h1 h2 hq2 hr2
  by_cases hl : ts.length = M.length
  · have hne : (((ts.length : Nat) : Int) != ((M.length : Nat) : Int)) = false := by rw [hl]; exact bne_self_eq_false _
    have HL := Lib.hid hl
    obtain ⟨n, hn⟩ : ∃ n, n = ts.length := ⟨_, rfl⟩
    rw [← hn] at HL hne hq1 HX ⊢
    obtain ⟨n', hn'⟩ : ∃ n, n = M.length := ⟨_, rfl⟩
    rw [← hn'] at HL hne hr1 HY ⊢
    have HN := Lib.hid hn
    have HN' := Lib.hid hn'
    clear hl hn hn'
    go_enter Try.func75, Try.ntmps75
    go_wp2_with fail
    clear hne
    go_loopw [17] (fun i wr => ∃ j : Nat, i = .int .i64 (j : Nat) ∧ j ≤ n ∧ Hid ((srts ts).take j = M.take j) ∧ Hid (Below w.heap.size w wr)) (fun i _ => n - (intOf i).toNat)
    case atStart => exact ⟨0, rfl, Nat.zero_le _, Lib.hid rfl, Lib.hid (Below.refl _ _)⟩
    case round =>
      obtain ⟨j, rfl, hj, HT, HW⟩ := hrel
      by_cases hlt : j < n
      · have hz : j < ts.length := by rw [← HN.out]; exact hlt
        have hz2 : j < M.length := by rw [← HN'.out, ← HL.out]; exact hlt
        have hlt2 : j < n' := by rw [← HL.out]; exact hlt
        obtain ⟨a, bb, ao, al, ac, qo, ql, qc, rfl, ⟨c0, c1, c2, c3, c4⟩, -⟩ := (HX.out.below HW.out).cells j hz
        obtain ⟨b, rfl, d0⟩ := (HY.out.below HW.out).cells j hz2
        obtain ⟨x, hxx⟩ : ∃ x, x = ts[j].op := ⟨_, rfl⟩
        obtain ⟨nm, hnm⟩ : ∃ x, x = ts[j].name := ⟨_, rfl⟩
        obtain ⟨y, hyy⟩ : ∃ y, y = M[j] := ⟨_, rfl⟩
        rw [← hxx] at c0
        rw [← hnm] at c3
        rw [← hyy] at d0
        have HXX := Lib.hid hxx
        have HYY := Lib.hid hyy
        clear hxx hyy hnm
        obtain ⟨x1, k8, e8, ek8, hb8, hk8, HB8⟩ := newV wr #[.int .i64 x, .bool bb, .slice ao al ac, .string nm, .slice qo ql qc] 29
        replace HW := Lib.hid (HW.out.trans (hb8.out.mono HW.out.size))
        rw [← hb8.out.cell (by have := cell_lt d0; exact this)] at d0
        have g0 := cell_at (v := .int .i64 x) HB8.out 0 rfl
        have fg0 := froz_at HB8.out 0
        have g1 := cell_at (v := .bool bb) HB8.out 1 rfl
        have fg1 := froz_at HB8.out 1
        have g2 := cell_at (v := .slice ao al ac) HB8.out 2 rfl
        have fg2 := froz_at HB8.out 2
        have g3 := cell_at (v := .string nm) HB8.out 3 rfl
        have fg3 := froz_at HB8.out 3
        have g4 := cell_at (v := .slice qo ql qc) HB8.out 4 rfl
        have fg4 := froz_at HB8.out 4
        by_cases he : srt x = y
        · have hdd : (srt x == y) = true := by simp [he]
          have HE := Lib.hid he
          clear he
          go_wp2_with fail
          refine (are1_p x bb ao al ac nm qo ql qc y x1).mono ?_
          rintro e w3 ⟨rfl, hb⟩
          rw [hdd]
          replace HW := Lib.hid (HW.out.trans (hb.mono HW.out.size))
          clear hb hdd
          go_wp2_with fail
          go_roundw
          case rel => exact ⟨j + 1, by go_num, hlt, Lib.hid (take_nextV HT.out (by rw [srts_len]; exact hz) hz2 (by rw [srts_get ts j hz, ← HXX.out, ← HYY.out]; exact HE.out)), HW⟩
          case measure => simp [intOf]; omega
        · have hdd : (srt x == y) = false := by simp [he]
          have HE := Lib.hid he
          clear he
          go_wp2_with fail
          refine (are1_p x bb ao al ac nm qo ql qc y x1).mono ?_
          rintro e w3 ⟨rfl, hb⟩
          rw [hdd]
          replace HW := Lib.hid (HW.out.trans (hb.mono HW.out.size))
          clear hb hdd
          go_wp2_with fail
          go_ret
          refine ⟨?_, HW.out⟩
          rw [decide_eq_false (fun e => HE.out (by rw [HXX.out, HYY.out]; subst e; rw [srts_get ts j hz]))]; rfl
      · go_wp2_with fail
        go_ret
        refine ⟨?_, HW.out⟩
        have e := HT.out
        rw [show j = n by omega, HN.out, ← srts_len, List.take_length, srts_len, ← HN.out, HL.out, HN'.out, List.take_length] at e
        rw [decide_eq_true e]; rfl
  · have hne : (((ts.length : Nat) : Int) != ((M.length : Nat) : Int)) = true := by rw [bne_iff_ne]; omega
    have HL := Lib.hid hl
    clear hl
    go_enter Try.func75, Try.ntmps75
    go_wp2_with fail
    go_ret
    refine ⟨?_, Below.refl _ _⟩
    rw [decide_eq_false (fun e => HL.out (by rw [← e, srts_len]))]; rfl
theorem are_p (va vb : Value) (ts : List F) (M : List Int) (d : Nat) (S : Nat → Prop) (w : World) (h1 : FL w S d va ts) (h2 : BL w vb M) :
    Calls Try.prog 60 #[va, vb] w fun e w' => e = .returned (.bool (decide (srts ts = M))) ∧ Below w.heap.size w w' := by
  have HX := Lib.hid h1
  have HY := Lib.hid h2
  clear h1 h2
  go_enter Try.func60, Try.ntmps60
  go_wp2_with fail
  refine (equalS_p _ _ ts M d S w HX.out HY.out).mono ?_
  rintro e w3 ⟨rfl, hb⟩
  have HB := Lib.hid hb
  clear hb
  go_wp2_with fail
  go_ret
  exact ⟨rfl, HB.out⟩
set_option maxHeartbeats 4000000 in
theorem index_all (va : Value) (ts : List F) (P : F → Bool) (d : Nat) (S : Nat → Prop) (w : World) (kb : Nat) (h1 : FL w S d va ts) (hc : ∀ f ∈ ts, ∀ (v : Value) (w' : World), Below w.heap.size w w' → FC w' S d v f → Calls Try.prog 78 #[v, .pointer (some ⟨kb, 0, none⟩)] w' fun e w'' => e = .returned (.bool (P f)) ∧ Below w'.heap.size w' w'') :
    Calls Try.prog 86 #[va, .func (.func 78) #[] #[.pointer (some ⟨kb, 0, none⟩)]] w fun e w' => ∃ r : Int, e = .returned (.int .i64 r) ∧ decide (0 ≤ r) = ts.any P ∧ Below w.heap.size w w' := by
  obtain ⟨ko, kc, rfl, ⟨hq1, hq2, -⟩⟩ := h1.form
  have hmx : kc ≤ 9223372036854775807 := hq2
  have HX := Lib.hid h1
  have HC := Lib.hid hc
  clear h1 hc hq2
  obtain ⟨n, hn⟩ : ∃ n, n = ts.length := ⟨_, rfl⟩
  rw [← hn] at hq1 HX ⊢
  have HN := Lib.hid hn
  clear hn
  go_enter Try.func86, Try.ntmps86
  go_wp2_with fail
  go_loopw [8] (fun i wr => ∃ j : Nat, i = .int .i64 (j : Nat) ∧ j ≤ n ∧ Hid ((ts.take j).any P = false) ∧ Hid (Below w.heap.size w wr)) (fun i _ => n - (intOf i).toNat)
  case atStart => exact ⟨0, rfl, Nat.zero_le _, Lib.hid rfl, Lib.hid (Below.refl _ _)⟩
  case round =>
    obtain ⟨j, rfl, hj, HT, HW⟩ := hrel
    by_cases hlt : j < n
    · have hz : j < ts.length := by rw [← HN.out]; exact hlt
      obtain ⟨a, bb, ao, al, ac, qo, ql, qc, rfl, ⟨c0, c1, c2, c3, c4⟩, hf⟩ := (HX.out.below HW.out).cells j hz
      have HF := Lib.hid (HC.out ts[j] (List.getElem_mem hz) _ wr HW.out hf)
      clear hf
      obtain ⟨x, hxx⟩ : ∃ x, x = ts[j].op := ⟨_, rfl⟩
      obtain ⟨nm, hnm⟩ : ∃ x, x = ts[j].name := ⟨_, rfl⟩
      rw [← hxx] at c0 HF
      rw [← hnm] at c3 HF
      clear hxx hnm
      have HT' : Hid ((ts.take (j + 1)).any P = P ts[j]) := Lib.hid (by rw [List.take_succ_eq_append_getElem hz, List.any_append, HT.out]; simp)
      have HA : Hid (P ts[j] = true → ts.any P = true) := Lib.hid (fun h => List.any_eq_true.2 ⟨_, List.getElem_mem hz, h⟩)
      obtain ⟨p, hp⟩ : ∃ p, p = P ts[j] := ⟨_, rfl⟩
      rw [← hp] at HF HT' HA
      clear hp
      go_wp2_with fail
      refine HF.out.mono ?_
      rintro e w3 ⟨rfl, hb⟩
      replace HW := Lib.hid (HW.out.trans (hb.mono HW.out.size))
      clear hb HF
      cases p with
      | true =>
        go_wp2_with fail
        go_ret
        exact ⟨j, rfl, by rw [HA.out (by trivial)]; simp, HW.out⟩
      | false =>
        go_wp2_with fail
        go_roundw
        case rel => exact ⟨j + 1, by go_num, hlt, HT', HW⟩
        case measure => simp [intOf]; omega
    · go_wp2_with fail
      go_ret
      refine ⟨-1, rfl, ?_, HW.out⟩
      have e := HT.out
      rw [show j = n by omega, HN.out, List.take_length] at e
      rw [e]; rfl
theorem contains_all (va : Value) (ts : List F) (P : F → Bool) (d : Nat) (S : Nat → Prop) (w : World) (kb : Nat) (h1 : FL w S d va ts) (hc : ∀ f ∈ ts, ∀ (v : Value) (w' : World), Below w.heap.size w w' → FC w' S d v f → Calls Try.prog 78 #[v, .pointer (some ⟨kb, 0, none⟩)] w' fun e w'' => e = .returned (.bool (P f)) ∧ Below w'.heap.size w' w'') :
    Calls Try.prog 77 #[va, .func (.func 78) #[] #[.pointer (some ⟨kb, 0, none⟩)]] w fun e w' => e = .returned (.bool (ts.any P)) ∧ Below w.heap.size w w' := by
  have HI := Lib.hid (index_all va ts P d S w kb h1 hc)
  clear h1 hc
  go_enter Try.func77, Try.ntmps77
  go_wp2_with fail
  refine HI.out.mono ?_
  rintro e w3 ⟨r, rfl, hr, hb⟩
  have HB := Lib.hid hb
  have HR := Lib.hid hr
  clear hb hr HI
  go_wp2_with fail
  go_ret
  exact ⟨by rw [← HR.out]; rfl, HB.out⟩
set_option maxHeartbeats 4000000 in
theorem index_and (va : Value) (ts : List F) (P : F → Bool) (d : Nat) (S : Nat → Prop) (w : World) (kb : Nat) (h1 : FL w S d va ts) (hc : ∀ f ∈ ts, ∀ (v : Value) (w' : World), Below w.heap.size w w' → FC w' S d v f → Calls Try.prog 80 #[v, .pointer (some ⟨kb, 0, none⟩)] w' fun e w'' => e = .returned (.bool (P f)) ∧ Below w'.heap.size w' w'') :
    Calls Try.prog 86 #[va, .func (.func 80) #[] #[.pointer (some ⟨kb, 0, none⟩)]] w fun e w' => ∃ r : Int, e = .returned (.int .i64 r) ∧ decide (0 ≤ r) = ts.any P ∧ Below w.heap.size w w' := by
  obtain ⟨ko, kc, rfl, ⟨hq1, hq2, -⟩⟩ := h1.form
  have hmx : kc ≤ 9223372036854775807 := hq2
  have HX := Lib.hid h1
  have HC := Lib.hid hc
  clear h1 hc hq2
  obtain ⟨n, hn⟩ : ∃ n, n = ts.length := ⟨_, rfl⟩
  rw [← hn] at hq1 HX ⊢
  have HN := Lib.hid hn
  clear hn
  go_enter Try.func86, Try.ntmps86
  go_wp2_with fail
  go_loopw [8] (fun i wr => ∃ j : Nat, i = .int .i64 (j : Nat) ∧ j ≤ n ∧ Hid ((ts.take j).any P = false) ∧ Hid (Below w.heap.size w wr)) (fun i _ => n - (intOf i).toNat)
  case atStart => exact ⟨0, rfl, Nat.zero_le _, Lib.hid rfl, Lib.hid (Below.refl _ _)⟩
  case round =>
    obtain ⟨j, rfl, hj, HT, HW⟩ := hrel
    by_cases hlt : j < n
    · have hz : j < ts.length := by rw [← HN.out]; exact hlt
      obtain ⟨a, bb, ao, al, ac, qo, ql, qc, rfl, ⟨c0, c1, c2, c3, c4⟩, hf⟩ := (HX.out.below HW.out).cells j hz
      have HF := Lib.hid (HC.out ts[j] (List.getElem_mem hz) _ wr HW.out hf)
      clear hf
      obtain ⟨x, hxx⟩ : ∃ x, x = ts[j].op := ⟨_, rfl⟩
      obtain ⟨nm, hnm⟩ : ∃ x, x = ts[j].name := ⟨_, rfl⟩
      rw [← hxx] at c0 HF
      rw [← hnm] at c3 HF
      clear hxx hnm
      have HT' : Hid ((ts.take (j + 1)).any P = P ts[j]) := Lib.hid (by rw [List.take_succ_eq_append_getElem hz, List.any_append, HT.out]; simp)
      have HA : Hid (P ts[j] = true → ts.any P = true) := Lib.hid (fun h => List.any_eq_true.2 ⟨_, List.getElem_mem hz, h⟩)
      obtain ⟨p, hp⟩ : ∃ p, p = P ts[j] := ⟨_, rfl⟩
      rw [← hp] at HF HT' HA
      clear hp
      go_wp2_with fail
      refine HF.out.mono ?_
      rintro e w3 ⟨rfl, hb⟩
      replace HW := Lib.hid (HW.out.trans (hb.mono HW.out.size))
      clear hb HF
      cases p with
      | true =>
        go_wp2_with fail
        go_ret
        exact ⟨j, rfl, by rw [HA.out (by trivial)]; simp, HW.out⟩
      | false =>
        go_wp2_with fail
        go_roundw
        case rel => exact ⟨j + 1, by go_num, hlt, HT', HW⟩
        case measure => simp [intOf]; omega
    · go_wp2_with fail
      go_ret
      refine ⟨-1, rfl, ?_, HW.out⟩
      have e := HT.out
      rw [show j = n by omega, HN.out, List.take_length] at e
      rw [e]; rfl
theorem contains_and (va : Value) (ts : List F) (P : F → Bool) (d : Nat) (S : Nat → Prop) (w : World) (kb : Nat) (h1 : FL w S d va ts) (hc : ∀ f ∈ ts, ∀ (v : Value) (w' : World), Below w.heap.size w w' → FC w' S d v f → Calls Try.prog 80 #[v, .pointer (some ⟨kb, 0, none⟩)] w' fun e w'' => e = .returned (.bool (P f)) ∧ Below w'.heap.size w' w'') :
    Calls Try.prog 77 #[va, .func (.func 80) #[] #[.pointer (some ⟨kb, 0, none⟩)]] w fun e w' => e = .returned (.bool (ts.any P)) ∧ Below w.heap.size w w' := by
  have HI := Lib.hid (index_and va ts P d S w kb h1 hc)
  clear h1 hc
  go_enter Try.func77, Try.ntmps77
  go_wp2_with fail
  refine HI.out.mono ?_
  rintro e w3 ⟨r, rfl, hr, hb⟩
  have HB := Lib.hid hb
  have HR := Lib.hid hr
  clear hb hr HI
  go_wp2_with fail
  go_ret
  exact ⟨by rw [← HR.out]; rfl, HB.out⟩
set_option maxHeartbeats 4000000 in
theorem index_or (va : Value) (ts : List F) (P : F → Bool) (d : Nat) (S : Nat → Prop) (w : World) (ve : Value) (h1 : FL w S d va ts) (hc : ∀ f ∈ ts, ∀ (v : Value) (w' : World), Below w.heap.size w w' → FC w' S d v f → Calls Try.prog 62 #[ve, v] w' fun e w'' => e = .returned (.bool (P f)) ∧ Below w'.heap.size w' w'') :
    Calls Try.prog 86 #[va, .func (.func 62) #[ve] #[]] w fun e w' => ∃ r : Int, e = .returned (.int .i64 r) ∧ decide (0 ≤ r) = ts.any P ∧ Below w.heap.size w w' := by
  obtain ⟨ko, kc, rfl, ⟨hq1, hq2, -⟩⟩ := h1.form
  have hmx : kc ≤ 9223372036854775807 := hq2
  have HX := Lib.hid h1
  have HC := Lib.hid hc
  clear h1 hc hq2
  obtain ⟨n, hn⟩ : ∃ n, n = ts.length := ⟨_, rfl⟩
  rw [← hn] at hq1 HX ⊢
  have HN := Lib.hid hn
  clear hn
  go_enter Try.func86, Try.ntmps86
  go_wp2_with fail
  go_loopw [8] (fun i wr => ∃ j : Nat, i = .int .i64 (j : Nat) ∧ j ≤ n ∧ Hid ((ts.take j).any P = false) ∧ Hid (Below w.heap.size w wr)) (fun i _ => n - (intOf i).toNat)
  case atStart => exact ⟨0, rfl, Nat.zero_le _, Lib.hid rfl, Lib.hid (Below.refl _ _)⟩
  case round =>
    obtain ⟨j, rfl, hj, HT, HW⟩ := hrel
    by_cases hlt : j < n
    · have hz : j < ts.length := by rw [← HN.out]; exact hlt
      obtain ⟨a, bb, ao, al, ac, qo, ql, qc, rfl, ⟨c0, c1, c2, c3, c4⟩, hf⟩ := (HX.out.below HW.out).cells j hz
      have HF := Lib.hid (HC.out ts[j] (List.getElem_mem hz) _ wr HW.out hf)
      clear hf
      obtain ⟨x, hxx⟩ : ∃ x, x = ts[j].op := ⟨_, rfl⟩
      obtain ⟨nm, hnm⟩ : ∃ x, x = ts[j].name := ⟨_, rfl⟩
      rw [← hxx] at c0 HF
      rw [← hnm] at c3 HF
      clear hxx hnm
      have HT' : Hid ((ts.take (j + 1)).any P = P ts[j]) := Lib.hid (by rw [List.take_succ_eq_append_getElem hz, List.any_append, HT.out]; simp)
      have HA : Hid (P ts[j] = true → ts.any P = true) := Lib.hid (fun h => List.any_eq_true.2 ⟨_, List.getElem_mem hz, h⟩)
      obtain ⟨p, hp⟩ : ∃ p, p = P ts[j] := ⟨_, rfl⟩
      rw [← hp] at HF HT' HA
      clear hp
      go_wp2_with fail
      refine HF.out.mono ?_
      rintro e w3 ⟨rfl, hb⟩
      replace HW := Lib.hid (HW.out.trans (hb.mono HW.out.size))
      clear hb HF
      cases p with
      | true =>
        go_wp2_with fail
        go_ret
        exact ⟨j, rfl, by rw [HA.out (by trivial)]; simp, HW.out⟩
      | false =>
        go_wp2_with fail
        go_roundw
        case rel => exact ⟨j + 1, by go_num, hlt, HT', HW⟩
        case measure => simp [intOf]; omega
    · go_wp2_with fail
      go_ret
      refine ⟨-1, rfl, ?_, HW.out⟩
      have e := HT.out
      rw [show j = n by omega, HN.out, List.take_length] at e
      rw [e]; rfl
theorem contains_or (va : Value) (ts : List F) (P : F → Bool) (d : Nat) (S : Nat → Prop) (w : World) (ve : Value) (h1 : FL w S d va ts) (hc : ∀ f ∈ ts, ∀ (v : Value) (w' : World), Below w.heap.size w w' → FC w' S d v f → Calls Try.prog 62 #[ve, v] w' fun e w'' => e = .returned (.bool (P f)) ∧ Below w'.heap.size w' w'') :
    Calls Try.prog 77 #[va, .func (.func 62) #[ve] #[]] w fun e w' => e = .returned (.bool (ts.any P)) ∧ Below w.heap.size w w' := by
  have HI := Lib.hid (index_or va ts P d S w ve h1 hc)
  clear h1 hc
  go_enter Try.func77, Try.ntmps77
  go_wp2_with fail
  refine HI.out.mono ?_
  rintro e w3 ⟨r, rfl, hr, hb⟩
  have HB := Lib.hid hb
  have HR := Lib.hid hr
  clear hb hr HI
  go_wp2_with fail
  go_ret
  exact ⟨by rw [← HR.out]; rfl, HB.out⟩
set_option maxHeartbeats 1000000 in
theorem areAll_p (va : Value) (s : Int) (ts : List F) (d : Nat) (S : Nat → Prop) (w : World) (h1 : FL w S d va ts) :
    Calls Try.prog 61 #[va, .int .i64 s] w fun e w' => e = .returned (.bool ((srts ts).all fun q => decide (q = s))) ∧ Below w.heap.size w w' := by
  have HX := Lib.hid h1
  clear h1
  have HW := Lib.hid (Below.refl w.heap.size w)
  go_enter Try.func61, Try.ntmps61
  obtain ⟨x1, kb, eb, ekb, hbb, hkb, HBb⟩ := newV w #[.int .i64 s] 32
  replace HW := Lib.hid (HW.out.trans (hbb.out.mono HW.out.size))
  replace HX := Lib.hid (HX.out.below hbb.out)
  go_wp2_with fail
  refine (contains_all va ts (fun f => srt f.op != s) d S x1 kb HX.out (fun f hf v w' hb hv => ?_)).mono ?_
  · obtain ⟨b, ao, l, c, ko, kl, kc, rfl, -, -, -⟩ := hv.open
    exact areAll1_p _ _ _ _ _ _ _ _ _ s kb w' ((hb.block _ (lt_of_block HBb.out)).trans HBb.out)
  rintro e w3 ⟨rfl, hb⟩
  replace HW := Lib.hid (HW.out.trans (hb.mono HW.out.size))
  clear hb
  go_wp2_with fail
  go_ret
  refine ⟨?_, HW.out⟩
  rw [show (srts ts).all (fun q => decide (q = s)) = !ts.any (fun f => srt f.op != s) by
    unfold srts; rw [List.all_map, List.not_any_eq_all_not]; congr 1; funext f; by_cases h : srt f.op = s <;> simp [h]]
  rfl
end Go.Proofs.Ytinfbmnimkcdjaa
