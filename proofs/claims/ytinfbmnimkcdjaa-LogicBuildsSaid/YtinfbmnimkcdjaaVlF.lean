/-
  Contracts of slices.EqualFunc at numbers and at values, value.Same, value.SameAll.
-/
import Derived.Test.YtinfbmnimkcdjaaVlE
namespace Go.Proofs.Ytinfbmnimkcdjaa
open Go.RowKit
set_option maxRecDepth 100000
set_option linter.unusedVariables false
set_option linter.unusedSimpArgs false

theorem take_nextV {α : Type} {L M : List α} {k : Nat} (h : L.take k = M.take k) (h1 : k < L.length) (h2 : k < M.length) (e : L[k] = M[k]) : L.take (k + 1) = M.take (k + 1) := by
  rw [List.take_succ_eq_append_getElem h1, List.take_succ_eq_append_getElem h2, h, e]
set_option maxHeartbeats 4000000 in
theorem equalI_p (va vb : Value) (L M : List Int) (w : World) (h1 : NL w va L) (h2 : NL w vb M) :
    Calls Try.prog 40 #[va, vb, .func (.func 39) #[] #[]] w fun e w' => e = .returned (.bool (decide (L = M))) ∧ Below w.heap.size w w' := by
  obtain ⟨ko, kc, rfl, ⟨hq1, hq2⟩, -⟩ := h1.form
  obtain ⟨po, pc, rfl, ⟨hr1, hr2⟩, -⟩ := h2.form
  have hmx : kc ≤ 9223372036854775807 := hq2
  have hmy : pc ≤ 9223372036854775807 := hr2
  have HX := Lib.hid h1
  have HY := Lib.hid h2
  clear h1 h2 hq2 hr2
  by_cases hl : L.length = M.length
  · have hne : (((L.length : Nat) : Int) != ((M.length : Nat) : Int)) = false := by rw [hl]; exact bne_self_eq_false _
    have HL := Lib.hid hl
    obtain ⟨n, hn⟩ : ∃ n, n = L.length := ⟨_, rfl⟩
    rw [← hn] at HL hne hq1 HX ⊢
    obtain ⟨n', hn'⟩ : ∃ n, n = M.length := ⟨_, rfl⟩
    rw [← hn'] at HL hne hr1 HY ⊢
    have HN := Lib.hid hn
    have HN' := Lib.hid hn'
    clear hl hn hn'
    go_enter Try.func40, Try.ntmps40
    go_wp2_with fail
    clear hne
    go_loopw [17] (fun i wr => ∃ j : Nat, i = .int .i64 (j : Nat) ∧ j ≤ n ∧ Hid (L.take j = M.take j) ∧ Hid (Below w.heap.size w wr)) (fun i _ => n - (intOf i).toNat)
    case atStart => exact ⟨0, rfl, Nat.zero_le _, Lib.hid rfl, Lib.hid (Below.refl _ _)⟩
    case round =>
      obtain ⟨j, rfl, hj, HT, HW⟩ := hrel
      by_cases hlt : j < n
      · have hz : j < L.length := by rw [← HN.out]; exact hlt
        have hz2 : j < M.length := by rw [← HN'.out, ← HL.out]; exact hlt
        have hlt2 : j < n' := by rw [← HL.out]; exact hlt
        obtain ⟨a, o, l, c, rfl, c0, c1, hc⟩ := (HX.out.below HW.out).cells.2 j hz
        obtain ⟨b, p, m, q, rfl, d0, d1, hd⟩ := (HY.out.below HW.out).cells.2 j hz2
        obtain ⟨x, hxx⟩ : ∃ x, x = L[j] := ⟨_, rfl⟩
        obtain ⟨y, hyy⟩ : ∃ y, y = M[j] := ⟨_, rfl⟩
        rw [← hxx] at c0 hc
        rw [← hyy] at d0 hd
        obtain ⟨sx, hsx⟩ : ∃ s, s = decide (x < 0) := ⟨_, rfl⟩
        obtain ⟨sy, hsy⟩ : ∃ s, s = decide (y < 0) := ⟨_, rfl⟩
        rw [← hsx] at c0 hc
        rw [← hsy] at d0 hd
        clear hsx hsy
        have HXX := Lib.hid hxx
        have HYY := Lib.hid hyy
        have HC := Lib.hid hc
        have HD := Lib.hid hd
        clear hxx hyy hc hd
        obtain ⟨x1, k8, e8, ek8, hb8, hk8, HB8⟩ := newV wr #[.bool sx, .slice o l c] 26
        replace HC := Lib.hid (HC.out.below hb8.out)
        replace HD := Lib.hid (HD.out.below hb8.out)
        replace HW := Lib.hid (HW.out.trans (hb8.out.mono HW.out.size))
        rw [← hb8.out.cell (by have := cell_lt d0; exact this)] at d0
        rw [← hb8.out.cell (by have := cell_lt d1; exact this)] at d1
        obtain ⟨x2, k9, e9, ek9, hb9, hk9, HB9⟩ := newV x1 #[.bool sy, .slice p m q] 26
        replace HB8 := kBV hb9.out HB8
        replace HC := Lib.hid (HC.out.below hb9.out)
        replace HD := Lib.hid (HD.out.below hb9.out)
        replace HW := Lib.hid (HW.out.trans (hb9.out.mono HW.out.size))
        have g0 := cell_at (v := .bool sx) HB8.out 0 rfl
        have fg0 := froz_at HB8.out 0
        have g1 := cell_at (v := .slice o l c) HB8.out 1 rfl
        have fg1 := froz_at HB8.out 1
        have i0 := cell_at (v := .bool sy) HB9.out 0 rfl
        have fi0 := froz_at HB9.out 0
        have i1 := cell_at (v := .slice p m q) HB9.out 1 rfl
        have fi1 := froz_at HB9.out 1
        by_cases he : x = y
        · have hdd : decide (x = y) = true := by simp [he]
          have HE := Lib.hid he
          clear he
          go_wp2_with fail
          refine (sameInt_p _ _ x y 600 600 x2 HC.out.gi HD.out.gi (by decide) (by decide)).mono ?_
          rintro e w3 ⟨rfl, hb⟩
          rw [hdd]
          replace HW := Lib.hid (HW.out.trans (hb.mono HW.out.size))
          clear hb hdd
          go_wp2_with fail
          go_roundw
          case rel => exact ⟨j + 1, by go_num, hlt, Lib.hid (take_nextV HT.out hz hz2 (by rw [← HXX.out, ← HYY.out]; exact HE.out)), HW⟩
          case measure => simp [intOf]; omega
        · have hdd : decide (x = y) = false := by simp [he]
          have HE := Lib.hid he
          clear he
          go_wp2_with fail
          refine (sameInt_p _ _ x y 600 600 x2 HC.out.gi HD.out.gi (by decide) (by decide)).mono ?_
          rintro e w3 ⟨rfl, hb⟩
          rw [hdd]
          replace HW := Lib.hid (HW.out.trans (hb.mono HW.out.size))
          clear hb hdd
          go_wp2_with fail
          go_ret
          refine ⟨?_, HW.out⟩
          rw [decide_eq_false (fun e => HE.out (by rw [HXX.out, HYY.out]; subst e; rfl))]; rfl
      · go_wp2_with fail
        go_ret
        refine ⟨?_, HW.out⟩
        have e := HT.out
        rw [show j = n by omega, HN.out, List.take_length, ← HN.out, HL.out, HN'.out, List.take_length] at e
        rw [decide_eq_true e]; rfl
  · have hne : (((L.length : Nat) : Int) != ((M.length : Nat) : Int)) = true := by rw [bne_iff_ne]; omega
    have HL := Lib.hid hl
    clear hl
    go_enter Try.func40, Try.ntmps40
    go_wp2_with fail
    go_ret
    refine ⟨?_, Below.refl _ _⟩
    rw [decide_eq_false (fun e => HL.out (by rw [e]))]; rfl
theorem vc_cases {w : World} {v : Value} {x : V} (h : VC w v x) : (∃ z o l c, x = .I z ∧ v = .agg #[.int .i64 0, .bool (decide (z < 0)), .slice o l c, .bool false, .slice none 0 0] ∧ CI w (.agg #[.bool (decide (z < 0)), .slice o l c]) z 600) ∨ (∃ b, x = .B b ∧ v = .agg #[.int .i64 1, .bool false, .slice none 0 0, .bool b, .slice none 0 0]) ∨
    (∃ l o n c, x = .L l ∧ v = .agg #[.int .i64 2, .bool false, .slice none 0 0, .bool false, .slice o n c] ∧ NL w (.slice o n c) l) := by
  cases x with
  | I z => obtain ⟨o, l, c, h1, h2⟩ := h.int; exact .inl ⟨z, o, l, c, rfl, h1, h2⟩
  | B b => exact .inr (.inl ⟨b, rfl, h.bool⟩)
  | L l => obtain ⟨o, n, c, h1, h2⟩ := h.list; exact .inr (.inr ⟨l, o, n, c, rfl, h1, h2⟩)
set_option maxHeartbeats 4000000 in
theorem same_p (va vb : Value) (x y : V) (w : World) (h1 : VC w va x) (h2 : VC w vb y) :
    Calls Try.prog 12 #[va, vb] w fun e w' => e = .returned (.bool (decide (x = y))) ∧ Below w.heap.size w w' := by
  rcases vc_cases h1 with ⟨z, o, l, c, rfl, rfl, hx⟩ | ⟨b, rfl, rfl⟩ | ⟨zs, o, n, c, rfl, rfl, hx⟩ <;> rcases vc_cases h2 with ⟨z', o', l', c', rfl, rfl, hy⟩ | ⟨b', rfl, rfl⟩ | ⟨ys, o', n', c', rfl, rfl, hy⟩
  · clear h1 h2
    have HX := Lib.hid hx
    have HY := Lib.hid hy
    clear hx hy
    go_enter Try.func12, Try.ntmps12
    have HW := Lib.hid (Below.refl w.heap.size w)
    obtain ⟨x1, k1, e1, ek1, hb1, hk1, HB1⟩ := newV w #[.int .i64 0, .bool (decide (z < 0)), .slice o l c, .bool false, .slice none 0 0] 41
    replace HX := Lib.hid (HX.out.below hb1.out)
    replace HY := Lib.hid (HY.out.below hb1.out)
    replace HW := Lib.hid (HW.out.trans (hb1.out.mono HW.out.size))
    obtain ⟨x2, k2, e2, ek2, hb2, hk2, HB2⟩ := newV x1 #[.int .i64 0, .bool (decide (z' < 0)), .slice o' l' c', .bool false, .slice none 0 0] 41
    replace HB1 := kBV hb2.out HB1
    replace HX := Lib.hid (HX.out.below hb2.out)
    replace HY := Lib.hid (HY.out.below hb2.out)
    replace HW := Lib.hid (HW.out.trans (hb2.out.mono HW.out.size))
    have c0 := cell_at (v := .int .i64 0) HB1.out 0 rfl
    have fc0 := froz_at HB1.out 0
    have c1 := cell_at (v := .bool (decide (z < 0))) HB1.out 1 rfl
    have fc1 := froz_at HB1.out 1
    have c2 := cell_at (v := .slice o l c) HB1.out 2 rfl
    have fc2 := froz_at HB1.out 2
    have c3 := cell_at (v := .bool false) HB1.out 3 rfl
    have fc3 := froz_at HB1.out 3
    have c4 := cell_at (v := .slice none 0 0) HB1.out 4 rfl
    have fc4 := froz_at HB1.out 4
    have d0 := cell_at (v := .int .i64 0) HB2.out 0 rfl
    have fd0 := froz_at HB2.out 0
    have d1 := cell_at (v := .bool (decide (z' < 0))) HB2.out 1 rfl
    have fd1 := froz_at HB2.out 1
    have d2 := cell_at (v := .slice o' l' c') HB2.out 2 rfl
    have fd2 := froz_at HB2.out 2
    have d3 := cell_at (v := .bool false) HB2.out 3 rfl
    have fd3 := froz_at HB2.out 3
    have d4 := cell_at (v := .slice none 0 0) HB2.out 4 rfl
    have fd4 := froz_at HB2.out 4
    go_wp2_with fail
    refine (sameInt_p _ _ z z' 600 600 x2 HX.out.gi HY.out.gi (by decide) (by decide)).mono ?_
    rintro e x3 ⟨rfl, hb⟩
    clear c0 fc0 c1 fc1 c2 fc2 c3 fc3 c4 fc4 d0 fd0 d1 fd1 d2 fd2 d3 fd3 d4 fd4
    replace HB1 := kBV hb HB1
    replace HB2 := kBV hb HB2
    replace HX := Lib.hid (HX.out.below hb)
    replace HY := Lib.hid (HY.out.below hb)
    replace HW := Lib.hid (HW.out.trans (hb.mono HW.out.size))
    go_wp2_with fail
    go_ret
    refine ⟨?_, HW.out⟩
    congr 2
    simp
  · clear h1 h2
    try clear hx
    try clear hy
    go_enter Try.func12, Try.ntmps12
    have HW := Lib.hid (Below.refl w.heap.size w)
    obtain ⟨x1, k1, e1, ek1, hb1, hk1, HB1⟩ := newV w #[.int .i64 0, .bool (decide (z < 0)), .slice o l c, .bool false, .slice none 0 0] 41
    replace HW := Lib.hid (HW.out.trans (hb1.out.mono HW.out.size))
    obtain ⟨x2, k2, e2, ek2, hb2, hk2, HB2⟩ := newV x1 #[.int .i64 1, .bool false, .slice none 0 0, .bool b', .slice none 0 0] 41
    replace HB1 := kBV hb2.out HB1
    replace HW := Lib.hid (HW.out.trans (hb2.out.mono HW.out.size))
    have c0 := cell_at (v := .int .i64 0) HB1.out 0 rfl
    have fc0 := froz_at HB1.out 0
    have c1 := cell_at (v := .bool (decide (z < 0))) HB1.out 1 rfl
    have fc1 := froz_at HB1.out 1
    have c2 := cell_at (v := .slice o l c) HB1.out 2 rfl
    have fc2 := froz_at HB1.out 2
    have c3 := cell_at (v := .bool false) HB1.out 3 rfl
    have fc3 := froz_at HB1.out 3
    have c4 := cell_at (v := .slice none 0 0) HB1.out 4 rfl
    have fc4 := froz_at HB1.out 4
    have d0 := cell_at (v := .int .i64 1) HB2.out 0 rfl
    have fd0 := froz_at HB2.out 0
    have d1 := cell_at (v := .bool false) HB2.out 1 rfl
    have fd1 := froz_at HB2.out 1
    have d2 := cell_at (v := .slice none 0 0) HB2.out 2 rfl
    have fd2 := froz_at HB2.out 2
    have d3 := cell_at (v := .bool b') HB2.out 3 rfl
    have fd3 := froz_at HB2.out 3
    have d4 := cell_at (v := .slice none 0 0) HB2.out 4 rfl
    have fd4 := froz_at HB2.out 4
    go_wp2_with fail
    go_ret
    have hh : decide (V.I z = V.B b') = false := decide_eq_false (by intro e; cases e)
    exact ⟨by rw [hh]; rfl, HW.out⟩
  · clear h1 h2
    try clear hx
    try clear hy
    go_enter Try.func12, Try.ntmps12
    have HW := Lib.hid (Below.refl w.heap.size w)
    obtain ⟨x1, k1, e1, ek1, hb1, hk1, HB1⟩ := newV w #[.int .i64 0, .bool (decide (z < 0)), .slice o l c, .bool false, .slice none 0 0] 41
    replace HW := Lib.hid (HW.out.trans (hb1.out.mono HW.out.size))
    obtain ⟨x2, k2, e2, ek2, hb2, hk2, HB2⟩ := newV x1 #[.int .i64 2, .bool false, .slice none 0 0, .bool false, .slice o' n' c'] 41
    replace HB1 := kBV hb2.out HB1
    replace HW := Lib.hid (HW.out.trans (hb2.out.mono HW.out.size))
    have c0 := cell_at (v := .int .i64 0) HB1.out 0 rfl
    have fc0 := froz_at HB1.out 0
    have c1 := cell_at (v := .bool (decide (z < 0))) HB1.out 1 rfl
    have fc1 := froz_at HB1.out 1
    have c2 := cell_at (v := .slice o l c) HB1.out 2 rfl
    have fc2 := froz_at HB1.out 2
    have c3 := cell_at (v := .bool false) HB1.out 3 rfl
    have fc3 := froz_at HB1.out 3
    have c4 := cell_at (v := .slice none 0 0) HB1.out 4 rfl
    have fc4 := froz_at HB1.out 4
    have d0 := cell_at (v := .int .i64 2) HB2.out 0 rfl
    have fd0 := froz_at HB2.out 0
    have d1 := cell_at (v := .bool false) HB2.out 1 rfl
    have fd1 := froz_at HB2.out 1
    have d2 := cell_at (v := .slice none 0 0) HB2.out 2 rfl
    have fd2 := froz_at HB2.out 2
    have d3 := cell_at (v := .bool false) HB2.out 3 rfl
    have fd3 := froz_at HB2.out 3
    have d4 := cell_at (v := .slice o' n' c') HB2.out 4 rfl
    have fd4 := froz_at HB2.out 4
    go_wp2_with fail
    go_ret
    have hh : decide (V.I z = V.L ys) = false := decide_eq_false (by intro e; cases e)
    exact ⟨by rw [hh]; rfl, HW.out⟩
  · clear h1 h2
    try clear hx
    try clear hy
    go_enter Try.func12, Try.ntmps12
    have HW := Lib.hid (Below.refl w.heap.size w)
    obtain ⟨x1, k1, e1, ek1, hb1, hk1, HB1⟩ := newV w #[.int .i64 1, .bool false, .slice none 0 0, .bool b, .slice none 0 0] 41
    replace HW := Lib.hid (HW.out.trans (hb1.out.mono HW.out.size))
    obtain ⟨x2, k2, e2, ek2, hb2, hk2, HB2⟩ := newV x1 #[.int .i64 0, .bool (decide (z' < 0)), .slice o' l' c', .bool false, .slice none 0 0] 41
    replace HB1 := kBV hb2.out HB1
    replace HW := Lib.hid (HW.out.trans (hb2.out.mono HW.out.size))
    have c0 := cell_at (v := .int .i64 1) HB1.out 0 rfl
    have fc0 := froz_at HB1.out 0
    have c1 := cell_at (v := .bool false) HB1.out 1 rfl
    have fc1 := froz_at HB1.out 1
    have c2 := cell_at (v := .slice none 0 0) HB1.out 2 rfl
    have fc2 := froz_at HB1.out 2
    have c3 := cell_at (v := .bool b) HB1.out 3 rfl
    have fc3 := froz_at HB1.out 3
    have c4 := cell_at (v := .slice none 0 0) HB1.out 4 rfl
    have fc4 := froz_at HB1.out 4
    have d0 := cell_at (v := .int .i64 0) HB2.out 0 rfl
    have fd0 := froz_at HB2.out 0
    have d1 := cell_at (v := .bool (decide (z' < 0))) HB2.out 1 rfl
    have fd1 := froz_at HB2.out 1
    have d2 := cell_at (v := .slice o' l' c') HB2.out 2 rfl
    have fd2 := froz_at HB2.out 2
    have d3 := cell_at (v := .bool false) HB2.out 3 rfl
    have fd3 := froz_at HB2.out 3
    have d4 := cell_at (v := .slice none 0 0) HB2.out 4 rfl
    have fd4 := froz_at HB2.out 4
    go_wp2_with fail
    go_ret
    have hh : decide (V.B b = V.I z') = false := decide_eq_false (by intro e; cases e)
    exact ⟨by rw [hh]; rfl, HW.out⟩
  · clear h1 h2
    try clear hx
    try clear hy
    go_enter Try.func12, Try.ntmps12
    have HW := Lib.hid (Below.refl w.heap.size w)
    obtain ⟨x1, k1, e1, ek1, hb1, hk1, HB1⟩ := newV w #[.int .i64 1, .bool false, .slice none 0 0, .bool b, .slice none 0 0] 41
    replace HW := Lib.hid (HW.out.trans (hb1.out.mono HW.out.size))
    obtain ⟨x2, k2, e2, ek2, hb2, hk2, HB2⟩ := newV x1 #[.int .i64 1, .bool false, .slice none 0 0, .bool b', .slice none 0 0] 41
    replace HB1 := kBV hb2.out HB1
    replace HW := Lib.hid (HW.out.trans (hb2.out.mono HW.out.size))
    have c0 := cell_at (v := .int .i64 1) HB1.out 0 rfl
    have fc0 := froz_at HB1.out 0
    have c1 := cell_at (v := .bool false) HB1.out 1 rfl
    have fc1 := froz_at HB1.out 1
    have c2 := cell_at (v := .slice none 0 0) HB1.out 2 rfl
    have fc2 := froz_at HB1.out 2
    have c3 := cell_at (v := .bool b) HB1.out 3 rfl
    have fc3 := froz_at HB1.out 3
    have c4 := cell_at (v := .slice none 0 0) HB1.out 4 rfl
    have fc4 := froz_at HB1.out 4
    have d0 := cell_at (v := .int .i64 1) HB2.out 0 rfl
    have fd0 := froz_at HB2.out 0
    have d1 := cell_at (v := .bool false) HB2.out 1 rfl
    have fd1 := froz_at HB2.out 1
    have d2 := cell_at (v := .slice none 0 0) HB2.out 2 rfl
    have fd2 := froz_at HB2.out 2
    have d3 := cell_at (v := .bool b') HB2.out 3 rfl
    have fd3 := froz_at HB2.out 3
    have d4 := cell_at (v := .slice none 0 0) HB2.out 4 rfl
    have fd4 := froz_at HB2.out 4
    go_wp2_with fail
    go_ret
    refine ⟨?_, HW.out⟩
    cases b <;> cases b' <;> rfl
  · clear h1 h2
    try clear hx
    try clear hy
    go_enter Try.func12, Try.ntmps12
    have HW := Lib.hid (Below.refl w.heap.size w)
    obtain ⟨x1, k1, e1, ek1, hb1, hk1, HB1⟩ := newV w #[.int .i64 1, .bool false, .slice none 0 0, .bool b, .slice none 0 0] 41
    replace HW := Lib.hid (HW.out.trans (hb1.out.mono HW.out.size))
    obtain ⟨x2, k2, e2, ek2, hb2, hk2, HB2⟩ := newV x1 #[.int .i64 2, .bool false, .slice none 0 0, .bool false, .slice o' n' c'] 41
    replace HB1 := kBV hb2.out HB1
    replace HW := Lib.hid (HW.out.trans (hb2.out.mono HW.out.size))
    have c0 := cell_at (v := .int .i64 1) HB1.out 0 rfl
    have fc0 := froz_at HB1.out 0
    have c1 := cell_at (v := .bool false) HB1.out 1 rfl
    have fc1 := froz_at HB1.out 1
    have c2 := cell_at (v := .slice none 0 0) HB1.out 2 rfl
    have fc2 := froz_at HB1.out 2
    have c3 := cell_at (v := .bool b) HB1.out 3 rfl
    have fc3 := froz_at HB1.out 3
    have c4 := cell_at (v := .slice none 0 0) HB1.out 4 rfl
    have fc4 := froz_at HB1.out 4
    have d0 := cell_at (v := .int .i64 2) HB2.out 0 rfl
    have fd0 := froz_at HB2.out 0
    have d1 := cell_at (v := .bool false) HB2.out 1 rfl
    have fd1 := froz_at HB2.out 1
    have d2 := cell_at (v := .slice none 0 0) HB2.out 2 rfl
    have fd2 := froz_at HB2.out 2
    have d3 := cell_at (v := .bool false) HB2.out 3 rfl
    have fd3 := froz_at HB2.out 3
    have d4 := cell_at (v := .slice o' n' c') HB2.out 4 rfl
    have fd4 := froz_at HB2.out 4
    go_wp2_with fail
    go_ret
    have hh : decide (V.B b = V.L ys) = false := decide_eq_false (by intro e; cases e)
    exact ⟨by rw [hh]; rfl, HW.out⟩
  · clear h1 h2
    try clear hx
    try clear hy
    go_enter Try.func12, Try.ntmps12
    have HW := Lib.hid (Below.refl w.heap.size w)
    obtain ⟨x1, k1, e1, ek1, hb1, hk1, HB1⟩ := newV w #[.int .i64 2, .bool false, .slice none 0 0, .bool false, .slice o n c] 41
    replace HW := Lib.hid (HW.out.trans (hb1.out.mono HW.out.size))
    obtain ⟨x2, k2, e2, ek2, hb2, hk2, HB2⟩ := newV x1 #[.int .i64 0, .bool (decide (z' < 0)), .slice o' l' c', .bool false, .slice none 0 0] 41
    replace HB1 := kBV hb2.out HB1
    replace HW := Lib.hid (HW.out.trans (hb2.out.mono HW.out.size))
    have c0 := cell_at (v := .int .i64 2) HB1.out 0 rfl
    have fc0 := froz_at HB1.out 0
    have c1 := cell_at (v := .bool false) HB1.out 1 rfl
    have fc1 := froz_at HB1.out 1
    have c2 := cell_at (v := .slice none 0 0) HB1.out 2 rfl
    have fc2 := froz_at HB1.out 2
    have c3 := cell_at (v := .bool false) HB1.out 3 rfl
    have fc3 := froz_at HB1.out 3
    have c4 := cell_at (v := .slice o n c) HB1.out 4 rfl
    have fc4 := froz_at HB1.out 4
    have d0 := cell_at (v := .int .i64 0) HB2.out 0 rfl
    have fd0 := froz_at HB2.out 0
    have d1 := cell_at (v := .bool (decide (z' < 0))) HB2.out 1 rfl
    have fd1 := froz_at HB2.out 1
    have d2 := cell_at (v := .slice o' l' c') HB2.out 2 rfl
    have fd2 := froz_at HB2.out 2
    have d3 := cell_at (v := .bool false) HB2.out 3 rfl
    have fd3 := froz_at HB2.out 3
    have d4 := cell_at (v := .slice none 0 0) HB2.out 4 rfl
    have fd4 := froz_at HB2.out 4
    go_wp2_with fail
    go_ret
    have hh : decide (V.L zs = V.I z') = false := decide_eq_false (by intro e; cases e)
    exact ⟨by rw [hh]; rfl, HW.out⟩
  · clear h1 h2
    try clear hx
    try clear hy
    go_enter Try.func12, Try.ntmps12
    have HW := Lib.hid (Below.refl w.heap.size w)
    obtain ⟨x1, k1, e1, ek1, hb1, hk1, HB1⟩ := newV w #[.int .i64 2, .bool false, .slice none 0 0, .bool false, .slice o n c] 41
    replace HW := Lib.hid (HW.out.trans (hb1.out.mono HW.out.size))
    obtain ⟨x2, k2, e2, ek2, hb2, hk2, HB2⟩ := newV x1 #[.int .i64 1, .bool false, .slice none 0 0, .bool b', .slice none 0 0] 41
    replace HB1 := kBV hb2.out HB1
    replace HW := Lib.hid (HW.out.trans (hb2.out.mono HW.out.size))
    have c0 := cell_at (v := .int .i64 2) HB1.out 0 rfl
    have fc0 := froz_at HB1.out 0
    have c1 := cell_at (v := .bool false) HB1.out 1 rfl
    have fc1 := froz_at HB1.out 1
    have c2 := cell_at (v := .slice none 0 0) HB1.out 2 rfl
    have fc2 := froz_at HB1.out 2
    have c3 := cell_at (v := .bool false) HB1.out 3 rfl
    have fc3 := froz_at HB1.out 3
    have c4 := cell_at (v := .slice o n c) HB1.out 4 rfl
    have fc4 := froz_at HB1.out 4
    have d0 := cell_at (v := .int .i64 1) HB2.out 0 rfl
    have fd0 := froz_at HB2.out 0
    have d1 := cell_at (v := .bool false) HB2.out 1 rfl
    have fd1 := froz_at HB2.out 1
    have d2 := cell_at (v := .slice none 0 0) HB2.out 2 rfl
    have fd2 := froz_at HB2.out 2
    have d3 := cell_at (v := .bool b') HB2.out 3 rfl
    have fd3 := froz_at HB2.out 3
    have d4 := cell_at (v := .slice none 0 0) HB2.out 4 rfl
    have fd4 := froz_at HB2.out 4
    go_wp2_with fail
    go_ret
    have hh : decide (V.L zs = V.B b') = false := decide_eq_false (by intro e; cases e)
    exact ⟨by rw [hh]; rfl, HW.out⟩
  · clear h1 h2
    have HX := Lib.hid hx
    have HY := Lib.hid hy
    clear hx hy
    go_enter Try.func12, Try.ntmps12
    have HW := Lib.hid (Below.refl w.heap.size w)
    obtain ⟨x1, k1, e1, ek1, hb1, hk1, HB1⟩ := newV w #[.int .i64 2, .bool false, .slice none 0 0, .bool false, .slice o n c] 41
    replace HX := Lib.hid (HX.out.below hb1.out)
    replace HY := Lib.hid (HY.out.below hb1.out)
    replace HW := Lib.hid (HW.out.trans (hb1.out.mono HW.out.size))
    obtain ⟨x2, k2, e2, ek2, hb2, hk2, HB2⟩ := newV x1 #[.int .i64 2, .bool false, .slice none 0 0, .bool false, .slice o' n' c'] 41
    replace HB1 := kBV hb2.out HB1
    replace HX := Lib.hid (HX.out.below hb2.out)
    replace HY := Lib.hid (HY.out.below hb2.out)
    replace HW := Lib.hid (HW.out.trans (hb2.out.mono HW.out.size))
    have c0 := cell_at (v := .int .i64 2) HB1.out 0 rfl
    have fc0 := froz_at HB1.out 0
    have c1 := cell_at (v := .bool false) HB1.out 1 rfl
    have fc1 := froz_at HB1.out 1
    have c2 := cell_at (v := .slice none 0 0) HB1.out 2 rfl
    have fc2 := froz_at HB1.out 2
    have c3 := cell_at (v := .bool false) HB1.out 3 rfl
    have fc3 := froz_at HB1.out 3
    have c4 := cell_at (v := .slice o n c) HB1.out 4 rfl
    have fc4 := froz_at HB1.out 4
    have d0 := cell_at (v := .int .i64 2) HB2.out 0 rfl
    have fd0 := froz_at HB2.out 0
    have d1 := cell_at (v := .bool false) HB2.out 1 rfl
    have fd1 := froz_at HB2.out 1
    have d2 := cell_at (v := .slice none 0 0) HB2.out 2 rfl
    have fd2 := froz_at HB2.out 2
    have d3 := cell_at (v := .bool false) HB2.out 3 rfl
    have fd3 := froz_at HB2.out 3
    have d4 := cell_at (v := .slice o' n' c') HB2.out 4 rfl
    have fd4 := froz_at HB2.out 4
    go_wp2_with fail
    refine (equalI_p _ _ zs ys x2 HX.out HY.out).mono ?_
    rintro e x3 ⟨rfl, hb⟩
    clear c0 fc0 c1 fc1 c2 fc2 c3 fc3 c4 fc4 d0 fd0 d1 fd1 d2 fd2 d3 fd3 d4 fd4
    replace HB1 := kBV hb HB1
    replace HB2 := kBV hb HB2
    replace HX := Lib.hid (HX.out.below hb)
    replace HY := Lib.hid (HY.out.below hb)
    replace HW := Lib.hid (HW.out.trans (hb.mono HW.out.size))
    go_wp2_with fail
    go_ret
    refine ⟨?_, HW.out⟩
    congr 2
    simp
end Go.Proofs.Ytinfbmnimkcdjaa
