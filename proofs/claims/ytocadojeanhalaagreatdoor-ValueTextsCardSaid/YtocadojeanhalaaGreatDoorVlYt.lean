/-
  The contract of value.Parse (ValueTexts).
-/
import Derived.Test.YtocadojeanhalaaGreatDoorVlXt
namespace Go.Proofs.YtocadojeanhalaaGreatDoor
open Go.RowKit
set_option maxRecDepth 100000
set_option linter.unusedVariables false
set_option linter.unusedSimpArgs false

set_option maxHeartbeats 16000000 in
theorem parseV_p (l : List UInt8) (we : World) (m : Int) (hm : we.cell? ⟨0, 0, none⟩ = some (.int .i64 m)) (hl : l.length ≤ 2000) :
    Calls Tryz.prog 6 #[.string ⟨l.toArray⟩] we (ReadPost l we) := by
  have hsz : (⟨l.toArray⟩ : ByteArray).size = l.length := rfl
  have hgt : ¬ ((l.length : Int) > 20000) := by omega
  have HMX := Lib.hid hm
  have HW := Lib.hid (Below.refl we.heap.size we)
  have HCP := Lib.hid (Tryz.strings_CutPrefix ⟨l.toArray⟩ ⟨#[91]⟩)
  clear hm
  obtain ⟨x1, k1, e1, ek1, hb1, hk1, HB1⟩ := newV we #[.int .i64 0, .bool false, .slice none 0 0, .bool false, .slice none 0 0] 32
  have HW := Lib.hid hb1.out
  have hk1w := hk1
  by_cases htr : l = [116, 114, 117, 101]
  · subst htr
    go_enter Tryz.func6, Tryz.ntmps6
    go_wp2_with fail
    refine (ofBool_p true x1).mono ?_
    rintro e x2 ⟨v, rfl, hc, hb⟩
    replace HB1 := kBV hb HB1
    replace HW := Lib.hid (HW.out.trans (hb.mono HW.out.size))
    clear hb
    have HC := Lib.hid hc
    obtain ⟨u, uk, ub, uo, ul, uc, ud, up, um, uq, rfl, hue, hux, hur⟩ := hc.unit
    clear hc hue hux hur
    have d0 := cell_at (v := .int .i64 0) HB1.out 0 rfl
    have fd0 := froz_at HB1.out 0
    have d1 := cell_at (v := .bool false) HB1.out 1 rfl
    have fd1 := froz_at HB1.out 1
    have d2 := cell_at (v := .slice none 0 0) HB1.out 2 rfl
    have fd2 := froz_at HB1.out 2
    have d3 := cell_at (v := .bool false) HB1.out 3 rfl
    have fd3 := froz_at HB1.out 3
    have d4 := cell_at (v := .slice none 0 0) HB1.out 4 rfl
    have fd4 := froz_at HB1.out 4
    go_wp2_with fail
    obtain ⟨r1, r2⟩ := res5V HW.out HB1.out n32_5 hk1w.out (.int .i64 uk) (.bool ub) (.slice uo ul uc) (.bool ud) (.slice up um uq)
    exact bodyPost_ret (v := .tuple #[.agg #[.int .i64 uk, .bool ub, .slice uo ul uc, .bool ud, .slice up um uq], .bool true]) (by simp [results, Tryz.results6, go_sem, d0, d1, d2, d3, d4]) rfl ⟨_, _, rfl, r2, .inl ⟨rfl, _, HC.out.fr (by decide) r1, rfl, fun q e => by cases e⟩⟩
  · by_cases hfa : l = [102, 97, 108, 115, 101]
    · subst hfa
      go_enter Tryz.func6, Tryz.ntmps6
      go_wp2_with fail
      refine (ofBool_p false x1).mono ?_
      rintro e x2 ⟨v, rfl, hc, hb⟩
      replace HB1 := kBV hb HB1
      replace HW := Lib.hid (HW.out.trans (hb.mono HW.out.size))
      clear hb
      have HC := Lib.hid hc
      obtain ⟨u, uk, ub, uo, ul, uc, ud, up, um, uq, rfl, hue, hux, hur⟩ := hc.unit
      clear hc hue hux hur
      have d0 := cell_at (v := .int .i64 0) HB1.out 0 rfl
      have fd0 := froz_at HB1.out 0
      have d1 := cell_at (v := .bool false) HB1.out 1 rfl
      have fd1 := froz_at HB1.out 1
      have d2 := cell_at (v := .slice none 0 0) HB1.out 2 rfl
      have fd2 := froz_at HB1.out 2
      have d3 := cell_at (v := .bool false) HB1.out 3 rfl
      have fd3 := froz_at HB1.out 3
      have d4 := cell_at (v := .slice none 0 0) HB1.out 4 rfl
      have fd4 := froz_at HB1.out 4
      go_wp2_with fail
      obtain ⟨r1, r2⟩ := res5V HW.out HB1.out n32_5 hk1w.out (.int .i64 uk) (.bool ub) (.slice uo ul uc) (.bool ud) (.slice up um uq)
      exact bodyPost_ret (v := .tuple #[.agg #[.int .i64 uk, .bool ub, .slice uo ul uc, .bool ud, .slice up um uq], .bool true]) (by simp [results, Tryz.results6, go_sem, d0, d1, d2, d3, d4]) rfl ⟨_, _, rfl, r2, .inl ⟨rfl, _, HC.out.fr (by decide) r1, rfl, fun q e => by cases e⟩⟩
    · have n1 : (l == [116, 114, 117, 101]) = false := beq_eq_false_iff_ne.2 htr
      have n2 : (l == [102, 97, 108, 115, 101]) = false := beq_eq_false_iff_ne.2 hfa
      go_enter Tryz.func6, Tryz.ntmps6
      go_wp2_with fail
      refine (HCP.out x1).mono ?_
      rintro e x2 ⟨rfl, hw⟩
      subst hw
      have HTR := Lib.hid htr
      have HFA := Lib.hid hfa
      clear htr hfa n1 n2
      by_cases hpf : Lib.hasPrefix l [91] = true
      · have hpf0 : Lib.hasPrefix (⟨l.toArray⟩ : ByteArray).data.toList (⟨#[91]⟩ : ByteArray).data.toList = true := hpf
        obtain ⟨inn, hinn⟩ := List.isPrefixOf_iff_prefix.1 hpf
        have hts : Lib.trimPrefix (⟨l.toArray⟩ : ByteArray).data.toList (⟨#[91]⟩ : ByteArray).data.toList = inn := by unfold Lib.trimPrefix; rw [if_pos hpf0]; show l.drop 1 = inn; rw [← hinn]; rfl
        rw [hpf0, hts]
        have hil : inn.length ≤ 2000 := by have := congrArg List.length hinn; simp at this; omega
        have HIN := Lib.hid hinn
        clear hpf hpf0 hts hinn
        go_wp2_with fail
        refine (parseList_p inn x2 m (by rw [HW.out.cell (cell_lt HMX.out)]; exact HMX.out) hil).mono ?_
        rintro e x3 ⟨v, o, rfl, hb, hpost⟩
        replace HB1 := kBV hb HB1
        replace HW := Lib.hid (HW.out.trans (hb.mono HW.out.size))
        clear hb
        rcases hpost with ⟨rfl, x, hc, hxt, hx7⟩ | ⟨rfl, rfl, hng⟩
        · have HXT := Lib.hid hxt
          have HX7 := Lib.hid hx7
          clear hxt hx7
          have HC := Lib.hid hc
          obtain ⟨u, uk, ub, uo, ul, uc, ud, up, um, uq, rfl, hue, hux, hur⟩ := hc.unit
          clear hc hue hux hur
          have d0 := cell_at (v := .int .i64 0) HB1.out 0 rfl
          have fd0 := froz_at HB1.out 0
          have d1 := cell_at (v := .bool false) HB1.out 1 rfl
          have fd1 := froz_at HB1.out 1
          have d2 := cell_at (v := .slice none 0 0) HB1.out 2 rfl
          have fd2 := froz_at HB1.out 2
          have d3 := cell_at (v := .bool false) HB1.out 3 rfl
          have fd3 := froz_at HB1.out 3
          have d4 := cell_at (v := .slice none 0 0) HB1.out 4 rfl
          have fd4 := froz_at HB1.out 4
          go_wp2_with fail
          obtain ⟨r1, r2⟩ := res5V HW.out HB1.out n32_5 hk1w.out (.int .i64 uk) (.bool ub) (.slice uo ul uc) (.bool ud) (.slice up um uq)
          exact bodyPost_ret (v := .tuple #[.agg #[.int .i64 uk, .bool ub, .slice uo ul uc, .bool ud, .slice up um uq], .bool true]) (by simp [results, Tryz.results6, go_sem, d0, d1, d2, d3, d4]) rfl ⟨_, _, rfl, r2, .inl ⟨rfl, _, HC.out.fr (by decide) r1, by rw [HXT.out, ← HIN.out]; rfl, HX7.out⟩⟩
        · have HNG : Hid (¬ Good l) := Lib.hid (by rw [← HIN.out]; exact hng)
          clear hng
          simp only [zeroVal]
          have d0 := cell_at (v := .int .i64 0) HB1.out 0 rfl
          have fd0 := froz_at HB1.out 0
          have d1 := cell_at (v := .bool false) HB1.out 1 rfl
          have fd1 := froz_at HB1.out 1
          have d2 := cell_at (v := .slice none 0 0) HB1.out 2 rfl
          have fd2 := froz_at HB1.out 2
          have d3 := cell_at (v := .bool false) HB1.out 3 rfl
          have fd3 := froz_at HB1.out 3
          have d4 := cell_at (v := .slice none 0 0) HB1.out 4 rfl
          have fd4 := froz_at HB1.out 4
          go_wp2_with fail
          obtain ⟨r1, r2⟩ := res5V HW.out HB1.out n32_5 hk1w.out (.int .i64 0) (.bool false) (.slice none 0 0) (.bool false) (.slice none 0 0)
          exact bodyPost_ret (v := .tuple #[zeroVal, .bool false]) (by simp [results, Tryz.results6, go_sem, zeroVal, d0, d1, d2, d3, d4]) rfl ⟨_, _, rfl, r2, .inr ⟨rfl, rfl, HNG.out⟩⟩
      · have hpf0 : Lib.hasPrefix (⟨l.toArray⟩ : ByteArray).data.toList (⟨#[91]⟩ : ByteArray).data.toList = false := by simpa using hpf
        rw [hpf0]
        have HGN : Hid (Good l → ZNum l) := Lib.hid (fun hg => good_num hg HTR.out HFA.out hpf)
        clear hpf hpf0
        go_wp2_with fail
        refine (wparse_any l x2 (by omega)).mono ?_
        rintro e x31 ⟨v, o, rfl, hz1, hz2, hz3, hb⟩
        replace HB1 := kBV hb HB1
        replace HW := Lib.hid (HW.out.trans (hb.mono HW.out.size))
        clear hb
        cases o
        · obtain ⟨fb, fo, fl, fc, hv2⟩ : ∃ b o l c, v = .agg #[.bool b, .slice o l c] := ⟨_, _, _, _, hz3 rfl⟩
          have HNG : Hid (¬ Good l) := Lib.hid (fun hg => absurd (hz1.2 (HGN.out hg)) (by decide))
          clear hz1 hz2 hz3
          subst hv2
          obtain ⟨x32, k9, e9, ek9, hb9, hk9, HB9⟩ := newV x31 #[.bool fb, .slice fo fl fc] 29
          replace HB1 := kBV hb9.out HB1
          replace HW := Lib.hid (HW.out.trans (hb9.out.mono HW.out.size))
          have g0 := cell_at (v := .bool fb) HB9.out 0 rfl
          have fg0 := froz_at HB9.out 0
          have g1 := cell_at (v := .slice fo fl fc) HB9.out 1 rfl
          have fg1 := froz_at HB9.out 1
          have d0 := cell_at (v := .int .i64 0) HB1.out 0 rfl
          have fd0 := froz_at HB1.out 0
          have d1 := cell_at (v := .bool false) HB1.out 1 rfl
          have fd1 := froz_at HB1.out 1
          have d2 := cell_at (v := .slice none 0 0) HB1.out 2 rfl
          have fd2 := froz_at HB1.out 2
          have d3 := cell_at (v := .bool false) HB1.out 3 rfl
          have fd3 := froz_at HB1.out 3
          have d4 := cell_at (v := .slice none 0 0) HB1.out 4 rfl
          have fd4 := froz_at HB1.out 4
          go_wp2_with fail
          obtain ⟨r1, r2⟩ := res5V HW.out HB1.out n32_5 hk1w.out (.int .i64 0) (.bool false) (.slice none 0 0) (.bool false) (.slice none 0 0)
          exact bodyPost_ret (v := .tuple #[zeroVal, .bool false]) (by simp [results, Tryz.results6, go_sem, zeroVal, d0, d1, d2, d3, d4]) rfl ⟨_, _, rfl, r2, .inr ⟨rfl, rfl, HNG.out⟩⟩
        · have hzt := hz1.1 rfl
          have hc := hz2 rfl
          have HG := Lib.hid hc.gi
          have HZT := Lib.hid (ztext_znV hzt)
          obtain ⟨fb, fo, fl, fc, hv2⟩ := hc.shape
          subst hv2
          clear hz1 hz2 hz3 hzt hc
          obtain ⟨x32, k9, e9, ek9, hb9, hk9, HB9⟩ := newV x31 #[.bool fb, .slice fo fl fc] 29
          replace HB1 := kBV hb9.out HB1
          replace HW := Lib.hid (HW.out.trans (hb9.out.mono HW.out.size))
          replace HG := Lib.hid (HG.out.below hb9.out)
          have g0 := cell_at (v := .bool fb) HB9.out 0 rfl
          have fg0 := froz_at HB9.out 0
          have g1 := cell_at (v := .slice fo fl fc) HB9.out 1 rfl
          have fg1 := froz_at HB9.out 1
          go_wp2_with fail
          refine (ofInt_p _ (zn l) 34 x32 HG.out (by decide)).mono ?_
          rintro e x33 ⟨v, rfl, hc, hb⟩
          clear g0 fg0 g1 fg1
          replace HB1 := kBV hb HB1
          replace HB9 := kBV hb HB9
          replace HW := Lib.hid (HW.out.trans (hb.mono HW.out.size))
          replace HG := Lib.hid (HG.out.below hb)
          clear hb
          have HC := Lib.hid hc
          obtain ⟨u, uk, ub, uo, ul, uc, ud, up, um, uq, rfl, hue, hux, hur⟩ := hc.unit
          clear hc hue hux hur
          have d0 := cell_at (v := .int .i64 0) HB1.out 0 rfl
          have fd0 := froz_at HB1.out 0
          have d1 := cell_at (v := .bool false) HB1.out 1 rfl
          have fd1 := froz_at HB1.out 1
          have d2 := cell_at (v := .slice none 0 0) HB1.out 2 rfl
          have fd2 := froz_at HB1.out 2
          have d3 := cell_at (v := .bool false) HB1.out 3 rfl
          have fd3 := froz_at HB1.out 3
          have d4 := cell_at (v := .slice none 0 0) HB1.out 4 rfl
          have fd4 := froz_at HB1.out 4
          go_wp2_with fail
          obtain ⟨r1, r2⟩ := res5V HW.out HB1.out n32_5 hk1w.out (.int .i64 uk) (.bool ub) (.slice uo ul uc) (.bool ud) (.slice up um uq)
          exact bodyPost_ret (v := .tuple #[.agg #[.int .i64 uk, .bool ub, .slice uo ul uc, .bool ud, .slice up um uq], .bool true]) (by simp [results, Tryz.results6, go_sem, d0, d1, d2, d3, d4]) rfl ⟨_, _, rfl, r2, .inl ⟨rfl, _, HC.out.fr (by decide) r1, HZT.out, fun q e => by cases e⟩⟩
end Go.Proofs.YtocadojeanhalaaGreatDoor
