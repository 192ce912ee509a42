/-
  The value of a form: logic.Eval, logic.Holds.
-/
import Derived.Test.YtinfbmnimkcdjaaLgL
namespace Go.Proofs.Ytinfbmnimkcdjaa
open Go.RowKit
set_option maxRecDepth 100000
set_option linter.unusedVariables false
set_option linter.unusedSimpArgs false

attribute [local go_sem] fieldV0 fieldV1 fieldV2 fieldV3
set_option maxHeartbeats 4000000 in
theorem val_step (d : Nat) (IN : NumC d) (IL : LstC d) (IT : TruC d) : ValC d := by
  intro ve v env t S w h he hr hsm
  obtain ⟨eo, en, ec, rfl⟩ := he.shape
  have hso : srt t.op = 0 ∨ srt t.op = 1 ∨ srt t.op = 2 := by
    unfold srt
    split
    · exact .inr (.inr rfl)
    · split
      · exact .inr (.inl rfl)
      · exact .inl rfl
  rcases hso with hs | hs | hs
  · have HS := Lib.hid hs
    clear hs
    have HT := Lib.hid h
    obtain ⟨b, ao, l, c, ko, kl, kc, rfl, -, -, -⟩ := h.open
    obtain ⟨o, hoo⟩ : ∃ o, o = t.op := ⟨_, rfl⟩
    obtain ⟨nm, hnm⟩ : ∃ o, o = t.name := ⟨_, rfl⟩
    rw [← hoo] at HT ⊢
    rw [← hnm] at HT ⊢
    have HOO := Lib.hid hoo
    have HE := Lib.hid he
    have HR := Lib.hid hr
    have HSM := Lib.hid hsm
    clear h he hr hsm hoo hnm
    have HW := Lib.hid (Below.refl w.heap.size w)
    go_enter Try.func41, Try.ntmps41
    obtain ⟨x1, kf, ef, ekf, hbf, hkf, HBf⟩ := newV w #[.int .i64 o, .bool b, .slice ao l c, .string nm, .slice ko kl kc] 29
    replace HT := Lib.hid (HT.out.below hbf.out)
    replace HE := Lib.hid (HE.out.below hbf.out)
    replace HW := Lib.hid (HW.out.trans (hbf.out.mono HW.out.size))
    obtain ⟨x2, kr, er, ekr, hbr, hkr, HBr⟩ := newV x1 #[.int .i64 0, .bool false, .slice none 0 0, .bool false, .slice none 0 0] 41
    replace HBf := kBV hbr.out HBf
    replace HT := Lib.hid (HT.out.below hbr.out)
    replace HE := Lib.hid (HE.out.below hbr.out)
    replace HW := Lib.hid (HW.out.trans (hbr.out.mono HW.out.size))
    have HKr : Hid (w.heap.size ≤ kr) := Lib.hid (Nat.le_trans hbf.out.size hkr.out)
    have c0 := cell_at (v := .int .i64 o) HBf.out 0 rfl
    have fc0 := froz_at HBf.out 0
    have c1 := cell_at (v := .bool b) HBf.out 1 rfl
    have fc1 := froz_at HBf.out 1
    have c2 := cell_at (v := .slice ao l c) HBf.out 2 rfl
    have fc2 := froz_at HBf.out 2
    have c3 := cell_at (v := .string nm) HBf.out 3 rfl
    have fc3 := froz_at HBf.out 3
    have c4 := cell_at (v := .slice ko kl kc) HBf.out 4 rfl
    have fc4 := froz_at HBf.out 4
    go_wp2_with fail
    refine (sort_p o b ao l c nm ko kl kc x2).mono ?_
    rintro e x3 ⟨rfl, hb⟩
    clear c0 fc0 c1 fc1 c2 fc2 c3 fc3 c4 fc4
    replace HBf := kBV hb HBf
    replace HBr := kBV hb HBr
    replace HT := Lib.hid (HT.out.below hb)
    replace HE := Lib.hid (HE.out.below hb)
    replace HW := Lib.hid (HW.out.trans (hb.mono HW.out.size))
    rw [show srt o = 0 from (by rw [HOO.out]; exact HS.out)]
    have c0 := cell_at (v := .int .i64 o) HBf.out 0 rfl
    have fc0 := froz_at HBf.out 0
    have c1 := cell_at (v := .bool b) HBf.out 1 rfl
    have fc1 := froz_at HBf.out 1
    have c2 := cell_at (v := .slice ao l c) HBf.out 2 rfl
    have fc2 := froz_at HBf.out 2
    have c3 := cell_at (v := .string nm) HBf.out 3 rfl
    have fc3 := froz_at HBf.out 3
    have c4 := cell_at (v := .slice ko kl kc) HBf.out 4 rfl
    have fc4 := froz_at HBf.out 4
    go_wp2_with fail
    refine (IN _ _ env t S x3 HT.out HE.out HR.out HS.out HSM.out).mono ?_
    rintro e x4 ⟨x, rfl, hx, hb⟩
    clear c0 fc0 c1 fc1 c2 fc2 c3 fc3 c4 fc4
    replace HBf := kBV hb HBf
    replace HBr := kBV hb HBr
    replace HT := Lib.hid (HT.out.below hb)
    replace HE := Lib.hid (HE.out.below hb)
    replace HW := Lib.hid (HW.out.trans (hb.mono HW.out.size))
    obtain ⟨xb, xo, xl, xc, rfl⟩ := hx.shape
    have HC := Lib.hid hx
    clear hx
    go_wp2_with fail
    refine (ofInt_p _ _ 600 x4 HC.out.gi (by decide)).mono ?_
    rintro e x5 ⟨v, rfl, hv, hb⟩
    replace HBf := kBV hb HBf
    replace HBr := kBV hb HBr
    replace HT := Lib.hid (HT.out.below hb)
    replace HE := Lib.hid (HE.out.below hb)
    replace HW := Lib.hid (HW.out.trans (hb.mono HW.out.size))
    obtain ⟨o2, l2, c2, rfl, hn⟩ := hv.int
    have HV := Lib.hid hv
    clear hv hn
    obtain ⟨⟨r0, r1, r2, r3, r4⟩, fr0, fr1, fr2, fr3, fr4⟩ := cells5V HBr.out
    go_wp2_with fail
    obtain ⟨s1, s2⟩ := res5V HW.out HBr.out n32_5 HKr.out (.int .i64 0) (.bool (decide (asI (ev (rho env) t) < 0))) (.slice o2 l2 c2) (.bool false) (.slice none 0 0)
    (try simp only [Exit.inBlock, Exit.then])
    exact bodyPost_ret (v := .agg #[.int .i64 0, .bool (decide (asI (ev (rho env) t) < 0)), .slice o2 l2 c2, .bool false, .slice none 0 0]) (by simp [results, Try.results41, go_sem, r0, r1, r2, r3, r4]) rfl ⟨_, rfl, (show VC _ _ (ev (rho env) t) from by rw [ev_int HS.out]; exact HV.out).fr (by decide) s1, s2⟩
  · have HS := Lib.hid hs
    clear hs
    have HT := Lib.hid h
    obtain ⟨b, ao, l, c, ko, kl, kc, rfl, -, -, -⟩ := h.open
    obtain ⟨o, hoo⟩ : ∃ o, o = t.op := ⟨_, rfl⟩
    obtain ⟨nm, hnm⟩ : ∃ o, o = t.name := ⟨_, rfl⟩
    rw [← hoo] at HT ⊢
    rw [← hnm] at HT ⊢
    have HOO := Lib.hid hoo
    have HE := Lib.hid he
    have HR := Lib.hid hr
    have HSM := Lib.hid hsm
    clear h he hr hsm hoo hnm
    have HW := Lib.hid (Below.refl w.heap.size w)
    go_enter Try.func41, Try.ntmps41
    obtain ⟨x1, kf, ef, ekf, hbf, hkf, HBf⟩ := newV w #[.int .i64 o, .bool b, .slice ao l c, .string nm, .slice ko kl kc] 29
    replace HT := Lib.hid (HT.out.below hbf.out)
    replace HE := Lib.hid (HE.out.below hbf.out)
    replace HW := Lib.hid (HW.out.trans (hbf.out.mono HW.out.size))
    obtain ⟨x2, kr, er, ekr, hbr, hkr, HBr⟩ := newV x1 #[.int .i64 0, .bool false, .slice none 0 0, .bool false, .slice none 0 0] 41
    replace HBf := kBV hbr.out HBf
    replace HT := Lib.hid (HT.out.below hbr.out)
    replace HE := Lib.hid (HE.out.below hbr.out)
    replace HW := Lib.hid (HW.out.trans (hbr.out.mono HW.out.size))
    have HKr : Hid (w.heap.size ≤ kr) := Lib.hid (Nat.le_trans hbf.out.size hkr.out)
    have c0 := cell_at (v := .int .i64 o) HBf.out 0 rfl
    have fc0 := froz_at HBf.out 0
    have c1 := cell_at (v := .bool b) HBf.out 1 rfl
    have fc1 := froz_at HBf.out 1
    have c2 := cell_at (v := .slice ao l c) HBf.out 2 rfl
    have fc2 := froz_at HBf.out 2
    have c3 := cell_at (v := .string nm) HBf.out 3 rfl
    have fc3 := froz_at HBf.out 3
    have c4 := cell_at (v := .slice ko kl kc) HBf.out 4 rfl
    have fc4 := froz_at HBf.out 4
    go_wp2_with fail
    refine (sort_p o b ao l c nm ko kl kc x2).mono ?_
    rintro e x3 ⟨rfl, hb⟩
    clear c0 fc0 c1 fc1 c2 fc2 c3 fc3 c4 fc4
    replace HBf := kBV hb HBf
    replace HBr := kBV hb HBr
    replace HT := Lib.hid (HT.out.below hb)
    replace HE := Lib.hid (HE.out.below hb)
    replace HW := Lib.hid (HW.out.trans (hb.mono HW.out.size))
    rw [show srt o = 1 from (by rw [HOO.out]; exact HS.out)]
    have c0 := cell_at (v := .int .i64 o) HBf.out 0 rfl
    have fc0 := froz_at HBf.out 0
    have c1 := cell_at (v := .bool b) HBf.out 1 rfl
    have fc1 := froz_at HBf.out 1
    have c2 := cell_at (v := .slice ao l c) HBf.out 2 rfl
    have fc2 := froz_at HBf.out 2
    have c3 := cell_at (v := .string nm) HBf.out 3 rfl
    have fc3 := froz_at HBf.out 3
    have c4 := cell_at (v := .slice ko kl kc) HBf.out 4 rfl
    have fc4 := froz_at HBf.out 4
    go_wp2_with fail
    refine (IT _ _ env t S x3 HT.out HE.out HR.out HS.out HSM.out).mono ?_
    rintro e x4 ⟨rfl, hb⟩
    clear c0 fc0 c1 fc1 c2 fc2 c3 fc3 c4 fc4
    replace HBf := kBV hb HBf
    replace HBr := kBV hb HBr
    replace HT := Lib.hid (HT.out.below hb)
    replace HE := Lib.hid (HE.out.below hb)
    replace HW := Lib.hid (HW.out.trans (hb.mono HW.out.size))
    go_wp2_with fail
    refine (ofBool_p _ x4).mono ?_
    rintro e x5 ⟨v, rfl, hv, hb⟩
    replace HBf := kBV hb HBf
    replace HBr := kBV hb HBr
    replace HT := Lib.hid (HT.out.below hb)
    replace HE := Lib.hid (HE.out.below hb)
    replace HW := Lib.hid (HW.out.trans (hb.mono HW.out.size))
    have hv1 := hv.bool
    subst hv1
    have HV := Lib.hid hv
    clear hv
    obtain ⟨⟨r0, r1, r2, r3, r4⟩, fr0, fr1, fr2, fr3, fr4⟩ := cells5V HBr.out
    go_wp2_with fail
    obtain ⟨s1, s2⟩ := res5V HW.out HBr.out n32_5 HKr.out (.int .i64 1) (.bool false) (.slice none 0 0) (.bool (asB (ev (rho env) t))) (.slice none 0 0)
    (try simp only [Exit.inBlock, Exit.then])
    exact bodyPost_ret (v := .agg #[.int .i64 1, .bool false, .slice none 0 0, .bool (asB (ev (rho env) t)), .slice none 0 0]) (by simp [results, Try.results41, go_sem, r0, r1, r2, r3, r4]) rfl ⟨_, rfl, (show VC _ _ (ev (rho env) t) from by rw [ev_bool HS.out]; exact HV.out).fr (by decide) s1, s2⟩
  · have HS := Lib.hid hs
    clear hs
    have HT := Lib.hid h
    obtain ⟨b, ao, l, c, ko, kl, kc, rfl, -, -, -⟩ := h.open
    obtain ⟨o, hoo⟩ : ∃ o, o = t.op := ⟨_, rfl⟩
    obtain ⟨nm, hnm⟩ : ∃ o, o = t.name := ⟨_, rfl⟩
    rw [← hoo] at HT ⊢
    rw [← hnm] at HT ⊢
    have HOO := Lib.hid hoo
    have HE := Lib.hid he
    have HR := Lib.hid hr
    have HSM := Lib.hid hsm
    clear h he hr hsm hoo hnm
    have HW := Lib.hid (Below.refl w.heap.size w)
    go_enter Try.func41, Try.ntmps41
    obtain ⟨x1, kf, ef, ekf, hbf, hkf, HBf⟩ := newV w #[.int .i64 o, .bool b, .slice ao l c, .string nm, .slice ko kl kc] 29
    replace HT := Lib.hid (HT.out.below hbf.out)
    replace HE := Lib.hid (HE.out.below hbf.out)
    replace HW := Lib.hid (HW.out.trans (hbf.out.mono HW.out.size))
    obtain ⟨x2, kr, er, ekr, hbr, hkr, HBr⟩ := newV x1 #[.int .i64 0, .bool false, .slice none 0 0, .bool false, .slice none 0 0] 41
    replace HBf := kBV hbr.out HBf
    replace HT := Lib.hid (HT.out.below hbr.out)
    replace HE := Lib.hid (HE.out.below hbr.out)
    replace HW := Lib.hid (HW.out.trans (hbr.out.mono HW.out.size))
    have HKr : Hid (w.heap.size ≤ kr) := Lib.hid (Nat.le_trans hbf.out.size hkr.out)
    have c0 := cell_at (v := .int .i64 o) HBf.out 0 rfl
    have fc0 := froz_at HBf.out 0
    have c1 := cell_at (v := .bool b) HBf.out 1 rfl
    have fc1 := froz_at HBf.out 1
    have c2 := cell_at (v := .slice ao l c) HBf.out 2 rfl
    have fc2 := froz_at HBf.out 2
    have c3 := cell_at (v := .string nm) HBf.out 3 rfl
    have fc3 := froz_at HBf.out 3
    have c4 := cell_at (v := .slice ko kl kc) HBf.out 4 rfl
    have fc4 := froz_at HBf.out 4
    go_wp2_with fail
    refine (sort_p o b ao l c nm ko kl kc x2).mono ?_
    rintro e x3 ⟨rfl, hb⟩
    clear c0 fc0 c1 fc1 c2 fc2 c3 fc3 c4 fc4
    replace HBf := kBV hb HBf
    replace HBr := kBV hb HBr
    replace HT := Lib.hid (HT.out.below hb)
    replace HE := Lib.hid (HE.out.below hb)
    replace HW := Lib.hid (HW.out.trans (hb.mono HW.out.size))
    rw [show srt o = 2 from (by rw [HOO.out]; exact HS.out)]
    have c0 := cell_at (v := .int .i64 o) HBf.out 0 rfl
    have fc0 := froz_at HBf.out 0
    have c1 := cell_at (v := .bool b) HBf.out 1 rfl
    have fc1 := froz_at HBf.out 1
    have c2 := cell_at (v := .slice ao l c) HBf.out 2 rfl
    have fc2 := froz_at HBf.out 2
    have c3 := cell_at (v := .string nm) HBf.out 3 rfl
    have fc3 := froz_at HBf.out 3
    have c4 := cell_at (v := .slice ko kl kc) HBf.out 4 rfl
    have fc4 := froz_at HBf.out 4
    go_wp2_with fail
    refine (IL _ _ env t S x3 HT.out HE.out HR.out HS.out HSM.out).mono ?_
    rintro e x4 ⟨x, rfl, hx, hb⟩
    clear c0 fc0 c1 fc1 c2 fc2 c3 fc3 c4 fc4
    replace HBf := kBV hb HBf
    replace HBr := kBV hb HBr
    replace HT := Lib.hid (HT.out.below hb)
    replace HE := Lib.hid (HE.out.below hb)
    replace HW := Lib.hid (HW.out.trans (hb.mono HW.out.size))
    have HNL := Lib.hid hx
    clear hx
    obtain ⟨xo, xc, rfl, -, -⟩ := HNL.out.form
    go_wp2_with fail
    refine (ofList_p _ _ x4 HNL.out (by have := (sm_list HS.out HSM.out).1; omega)).mono ?_
    rintro e x5 ⟨v, rfl, hv, hb⟩
    replace HBf := kBV hb HBf
    replace HBr := kBV hb HBr
    replace HT := Lib.hid (HT.out.below hb)
    replace HE := Lib.hid (HE.out.below hb)
    replace HW := Lib.hid (HW.out.trans (hb.mono HW.out.size))
    obtain ⟨o2, l2, c2, rfl, hn⟩ := hv.list
    have HV := Lib.hid hv
    clear hv hn
    obtain ⟨⟨r0, r1, r2, r3, r4⟩, fr0, fr1, fr2, fr3, fr4⟩ := cells5V HBr.out
    go_wp2_with fail
    obtain ⟨s1, s2⟩ := res5V HW.out HBr.out n32_5 HKr.out (.int .i64 2) (.bool false) (.slice none 0 0) (.bool false) (.slice o2 l2 c2)
    (try simp only [Exit.inBlock, Exit.then])
    exact bodyPost_ret (v := .agg #[.int .i64 2, .bool false, .slice none 0 0, .bool false, .slice o2 l2 c2]) (by simp [results, Try.results41, go_sem, r0, r1, r2, r3, r4]) rfl ⟨_, rfl, (show VC _ _ (ev (rho env) t) from by rw [ev_list HS.out]; exact HV.out).fr (by decide) s1, s2⟩
theorem eval_all (d : Nat) : NumC d ∧ LstC d ∧ TruC d ∧ ValC d := by
  induction d with
  | zero =>
    have no : ∀ {v : Value} {t : F} {S : Nat → Prop} {w : World}, FC w S 0 v t → False := fun h => by obtain ⟨_, _, _, _, _, _, _, _, _, h0, _⟩ := h.open; omega
    exact ⟨fun _ _ _ _ _ _ h => absurd h no, fun _ _ _ _ _ _ h => absurd h no, fun _ _ _ _ _ _ h => absurd h no, fun _ _ _ _ _ _ h => absurd h no⟩
  | succ d ih =>
    obtain ⟨h1, h2, h3, h4⟩ := ih
    have n := num_step d h1 h2
    have l := lst_step d h1 h2
    have t := tru_step d h1 h3 h4
    exact ⟨n, l, t, val_step (d + 1) n l t⟩
theorem VC.shape {w : World} {v : Value} {x : V} (h : VC w v x) : ∃ k b o l c p m q, v = .agg #[.int .i64 k, .bool b, .slice o l c, .bool (asB x), .slice p m q] := by
  cases x with
  | I z => obtain ⟨o, l, c, rfl, -⟩ := h.int; exact ⟨_, _, _, _, _, _, _, _, rfl⟩
  | B b => have := h.bool; subst this; exact ⟨_, _, _, _, _, _, _, _, rfl⟩
  | L l => obtain ⟨o, l', c, rfl, -⟩ := h.list; exact ⟨_, _, _, _, _, _, _, _, rfl⟩
set_option maxHeartbeats 2000000 in
theorem eval_p (d : Nat) (ve v : Value) (env : List (ByteArray × V)) (t : F) (S : Nat → Prop) (w : World) (h : FC w S d v t) (he : EL w ve env) (hr : rt t = true) (hsm : Sm (rho env) t) :
    Calls Try.prog 13 #[v, ve] w fun e w' => ∃ x, e = .returned x ∧ VC w' x (ev (rho env) t) ∧ Below w.heap.size w w' := by
  obtain ⟨eo, en, ec, rfl⟩ := he.shape
  have HT := Lib.hid h
  obtain ⟨b, ao, l, c, ko, kl, kc, rfl, -, -, -⟩ := h.open
  obtain ⟨o, hoo⟩ : ∃ o, o = t.op := ⟨_, rfl⟩
  obtain ⟨nm, hnm⟩ : ∃ o, o = t.name := ⟨_, rfl⟩
  rw [← hoo] at HT ⊢
  rw [← hnm] at HT ⊢
  have HOO := Lib.hid hoo
  have HE := Lib.hid he
  have HR := Lib.hid hr
  have HSM := Lib.hid hsm
  clear h he hr hsm hoo hnm
  have HW := Lib.hid (Below.refl w.heap.size w)
  go_enter Try.func13, Try.ntmps13
  obtain ⟨x1, kf, ef, ekf, hbf, hkf, HBf⟩ := newV w #[.int .i64 o, .bool b, .slice ao l c, .string nm, .slice ko kl kc] 29
  replace HT := Lib.hid (HT.out.below hbf.out)
  replace HE := Lib.hid (HE.out.below hbf.out)
  replace HW := Lib.hid (HW.out.trans (hbf.out.mono HW.out.size))
  obtain ⟨x2, kr, er, ekr, hbr, hkr, HBr⟩ := newV x1 #[.int .i64 0, .bool false, .slice none 0 0, .bool false, .slice none 0 0] 41
  replace HBf := kBV hbr.out HBf
  replace HT := Lib.hid (HT.out.below hbr.out)
  replace HE := Lib.hid (HE.out.below hbr.out)
  replace HW := Lib.hid (HW.out.trans (hbr.out.mono HW.out.size))
  have HKr : Hid (w.heap.size ≤ kr) := Lib.hid (Nat.le_trans hbf.out.size hkr.out)
  have c0 := cell_at (v := .int .i64 o) HBf.out 0 rfl
  have fc0 := froz_at HBf.out 0
  have c1 := cell_at (v := .bool b) HBf.out 1 rfl
  have fc1 := froz_at HBf.out 1
  have c2 := cell_at (v := .slice ao l c) HBf.out 2 rfl
  have fc2 := froz_at HBf.out 2
  have c3 := cell_at (v := .string nm) HBf.out 3 rfl
  have fc3 := froz_at HBf.out 3
  have c4 := cell_at (v := .slice ko kl kc) HBf.out 4 rfl
  have fc4 := froz_at HBf.out 4
  go_wp2_with fail
  refine (right_p d _ t S x2 HT.out).mono ?_
  rintro e x3 ⟨rfl, hb⟩
  clear c0 fc0 c1 fc1 c2 fc2 c3 fc3 c4 fc4
  replace HBf := kBV hb HBf
  replace HBr := kBV hb HBr
  replace HT := Lib.hid (HT.out.below hb)
  replace HE := Lib.hid (HE.out.below hb)
  replace HW := Lib.hid (HW.out.trans (hb.mono HW.out.size))
  rw [HR.out]
  have c0 := cell_at (v := .int .i64 o) HBf.out 0 rfl
  have fc0 := froz_at HBf.out 0
  have c1 := cell_at (v := .bool b) HBf.out 1 rfl
  have fc1 := froz_at HBf.out 1
  have c2 := cell_at (v := .slice ao l c) HBf.out 2 rfl
  have fc2 := froz_at HBf.out 2
  have c3 := cell_at (v := .string nm) HBf.out 3 rfl
  have fc3 := froz_at HBf.out 3
  have c4 := cell_at (v := .slice ko kl kc) HBf.out 4 rfl
  have fc4 := froz_at HBf.out 4
  go_wp2_with fail
  refine ((eval_all d).2.2.2 _ _ env t S x3 HT.out HE.out HR.out HSM.out).mono ?_
  rintro e x4 ⟨x, rfl, hx, hb⟩
  clear c0 fc0 c1 fc1 c2 fc2 c3 fc3 c4 fc4
  replace HBf := kBV hb HBf
  replace HBr := kBV hb HBr
  replace HT := Lib.hid (HT.out.below hb)
  replace HE := Lib.hid (HE.out.below hb)
  replace HW := Lib.hid (HW.out.trans (hb.mono HW.out.size))
  obtain ⟨k1, b1, o1, l1, c1, p1, m1, q1, rfl⟩ := hx.shape
  have HV := Lib.hid hx
  clear hx
  obtain ⟨⟨r0, r1, r2, r3, r4⟩, fr0, fr1, fr2, fr3, fr4⟩ := cells5V HBr.out
  go_wp2_with fail
  obtain ⟨s1, s2⟩ := res5V HW.out HBr.out n32_5 HKr.out (.int .i64 k1) (.bool b1) (.slice o1 l1 c1) (.bool (asB (ev (rho env) t))) (.slice p1 m1 q1)
  (try simp only [Exit.inBlock, Exit.then])
  exact bodyPost_ret (v := .agg #[.int .i64 k1, .bool b1, .slice o1 l1 c1, .bool (asB (ev (rho env) t)), .slice p1 m1 q1]) (by simp [results, Try.results13, go_sem, r0, r1, r2, r3, r4]) rfl ⟨_, rfl, (HV.out).fr (by decide) s1, s2⟩
set_option maxHeartbeats 1000000 in
theorem holds_p (d : Nat) (ve v : Value) (env : List (ByteArray × V)) (t : F) (S : Nat → Prop) (w : World) (h : FC w S d v t) (he : EL w ve env) (hr : rt t = true) (hsm : Sm (rho env) t) :
    Calls Try.prog 15 #[v, ve] w fun e w' => e = .returned (.bool (asB (ev (rho env) t))) ∧ Below w.heap.size w w' := by
  obtain ⟨eo, en, ec, rfl⟩ := he.shape
  have HT := Lib.hid h
  obtain ⟨b, ao, l, c, ko, kl, kc, rfl, -, -, -⟩ := h.open
  obtain ⟨o, hoo⟩ : ∃ o, o = t.op := ⟨_, rfl⟩
  obtain ⟨nm, hnm⟩ : ∃ o, o = t.name := ⟨_, rfl⟩
  rw [← hoo] at HT ⊢
  rw [← hnm] at HT ⊢
  have HOO := Lib.hid hoo
  have HE := Lib.hid he
  have HR := Lib.hid hr
  have HSM := Lib.hid hsm
  clear h he hr hsm hoo hnm
  have HW := Lib.hid (Below.refl w.heap.size w)
  go_enter Try.func15, Try.ntmps15
  obtain ⟨x1, kf, ef, ekf, hbf, hkf, HBf⟩ := newV w #[.int .i64 o, .bool b, .slice ao l c, .string nm, .slice ko kl kc] 29
  replace HT := Lib.hid (HT.out.below hbf.out)
  replace HE := Lib.hid (HE.out.below hbf.out)
  replace HW := Lib.hid (HW.out.trans (hbf.out.mono HW.out.size))
  have c0 := cell_at (v := .int .i64 o) HBf.out 0 rfl
  have fc0 := froz_at HBf.out 0
  have c1 := cell_at (v := .bool b) HBf.out 1 rfl
  have fc1 := froz_at HBf.out 1
  have c2 := cell_at (v := .slice ao l c) HBf.out 2 rfl
  have fc2 := froz_at HBf.out 2
  have c3 := cell_at (v := .string nm) HBf.out 3 rfl
  have fc3 := froz_at HBf.out 3
  have c4 := cell_at (v := .slice ko kl kc) HBf.out 4 rfl
  have fc4 := froz_at HBf.out 4
  go_wp2_with fail
  refine (eval_p d _ _ env t S x1 HT.out HE.out HR.out HSM.out).mono ?_
  rintro e x2 ⟨x, rfl, hx, hb⟩
  clear c0 fc0 c1 fc1 c2 fc2 c3 fc3 c4 fc4
  replace HBf := kBV hb HBf
  replace HT := Lib.hid (HT.out.below hb)
  replace HE := Lib.hid (HE.out.below hb)
  replace HW := Lib.hid (HW.out.trans (hb.mono HW.out.size))
  obtain ⟨k1, b1, o1, l1, c1, p1, m1, q1, rfl⟩ := hx.shape
  clear hx
  go_wp2_with fail
  go_ret
  exact ⟨rfl, HW.out⟩
end Go.Proofs.Ytinfbmnimkcdjaa
