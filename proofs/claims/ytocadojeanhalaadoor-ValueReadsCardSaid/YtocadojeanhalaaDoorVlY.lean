/-
  The contract of value.Parse; the law ValueReads: its walk.
-/
import Derived.Test.YtocadojeanhalaaDoorVlX
namespace Go.Proofs.YtocadojeanhalaaDoor
open Go.RowKit
set_option maxRecDepth 100000
set_option linter.unusedVariables false
set_option linter.unusedSimpArgs false

set_option maxHeartbeats 16000000 in
theorem parseV_p (l : List UInt8) (we : World) (m : Int) (hm : we.cell? ⟨0, 0, none⟩ = some (.int .i64 m)) (hl : l.length ≤ 2000) :
    Calls Tryd.prog 7 #[.string ⟨l.toArray⟩] we (ReadPost l we) := by
  have hsz : (⟨l.toArray⟩ : ByteArray).size = l.length := rfl
  have hgt : ¬ ((l.length : Int) > 20000) := by omega
  have HMX := Lib.hid hm
  have HW := Lib.hid (Below.refl we.heap.size we)
  have HCP := Lib.hid (Tryd.strings_CutPrefixC ⟨l.toArray⟩ ⟨#[91]⟩)
  clear hm
  obtain ⟨x1, k1, e1, ek1, hb1, hk1, HB1⟩ := newV we #[.int .i64 0, .bool false, .slice none 0 0, .bool false, .slice none 0 0] 30
  have HW := Lib.hid hb1.out
  have hk1w := hk1
  by_cases htr : l = [116, 114, 117, 101]
  · subst htr
    go_enter Tryd.func7, Tryd.ntmps7
    go_wp2_with fail
    refine (ofBool_p true x1).mono ?_
    rintro e x2 ⟨v, rfl, hc, hb⟩
    replace HB1 := kBV hb HB1
    replace HW := Lib.hid (HW.out.trans (hb.mono HW.out.size))
    clear hb
    have HC := Lib.hid hc
    obtain ⟨u, uk, ub, uo, ul, uc, ud, up, um, uq, rfl, hue, hux, hur⟩ := hc.unit
    clear hc hue hux hur
    have d0 := cell_at (v := .int .i64 0) HB1.out 0 rfl
    have fd0 := froz_at HB1.out 0
    have d1 := cell_at (v := .bool false) HB1.out 1 rfl
    have fd1 := froz_at HB1.out 1
    have d2 := cell_at (v := .slice none 0 0) HB1.out 2 rfl
    have fd2 := froz_at HB1.out 2
    have d3 := cell_at (v := .bool false) HB1.out 3 rfl
    have fd3 := froz_at HB1.out 3
    have d4 := cell_at (v := .slice none 0 0) HB1.out 4 rfl
    have fd4 := froz_at HB1.out 4
    go_wp2_with fail
    obtain ⟨r1, r2⟩ := res5V HW.out HB1.out n32_5 hk1w.out (.int .i64 uk) (.bool ub) (.slice uo ul uc) (.bool ud) (.slice up um uq)
    exact bodyPost_ret (v := .tuple #[.agg #[.int .i64 uk, .bool ub, .slice uo ul uc, .bool ud, .slice up um uq], .bool true]) (by simp [results, Tryd.results7, go_sem, d0, d1, d2, d3, d4]) rfl ⟨_, _, rfl, r2, .inl ⟨rfl, _, HC.out.fr (by decide) r1, rfl, fun q e => by cases e⟩⟩
  · by_cases hfa : l = [102, 97, 108, 115, 101]
    · subst hfa
      go_enter Tryd.func7, Tryd.ntmps7
      go_wp2_with fail
      refine (ofBool_p false x1).mono ?_
      rintro e x2 ⟨v, rfl, hc, hb⟩
      replace HB1 := kBV hb HB1
      replace HW := Lib.hid (HW.out.trans (hb.mono HW.out.size))
      clear hb
      have HC := Lib.hid hc
      obtain ⟨u, uk, ub, uo, ul, uc, ud, up, um, uq, rfl, hue, hux, hur⟩ := hc.unit
      clear hc hue hux hur
      have d0 := cell_at (v := .int .i64 0) HB1.out 0 rfl
      have fd0 := froz_at HB1.out 0
      have d1 := cell_at (v := .bool false) HB1.out 1 rfl
      have fd1 := froz_at HB1.out 1
      have d2 := cell_at (v := .slice none 0 0) HB1.out 2 rfl
      have fd2 := froz_at HB1.out 2
      have d3 := cell_at (v := .bool false) HB1.out 3 rfl
      have fd3 := froz_at HB1.out 3
      have d4 := cell_at (v := .slice none 0 0) HB1.out 4 rfl
      have fd4 := froz_at HB1.out 4
      go_wp2_with fail
      obtain ⟨r1, r2⟩ := res5V HW.out HB1.out n32_5 hk1w.out (.int .i64 uk) (.bool ub) (.slice uo ul uc) (.bool ud) (.slice up um uq)
      exact bodyPost_ret (v := .tuple #[.agg #[.int .i64 uk, .bool ub, .slice uo ul uc, .bool ud, .slice up um uq], .bool true]) (by simp [results, Tryd.results7, go_sem, d0, d1, d2, d3, d4]) rfl ⟨_, _, rfl, r2, .inl ⟨rfl, _, HC.out.fr (by decide) r1, rfl, fun q e => by cases e⟩⟩
    · have n1 : (l == [116, 114, 117, 101]) = false := beq_eq_false_iff_ne.2 htr
      have n2 : (l == [102, 97, 108, 115, 101]) = false := beq_eq_false_iff_ne.2 hfa
      go_enter Tryd.func7, Tryd.ntmps7
      go_wp2_with fail
      refine (HCP.out x1).mono ?_
      rintro e x2 ⟨rfl, hw⟩
      subst hw
      clear htr hfa n1 n2
      by_cases hpf : Lib.hasPrefix l [91] = true
      · have hpf0 : Lib.hasPrefix (⟨l.toArray⟩ : ByteArray).data.toList (⟨#[91]⟩ : ByteArray).data.toList = true := hpf
        obtain ⟨inn, hinn⟩ := List.isPrefixOf_iff_prefix.1 hpf
        have hts : Lib.trimPrefix (⟨l.toArray⟩ : ByteArray).data.toList (⟨#[91]⟩ : ByteArray).data.toList = inn := by unfold Lib.trimPrefix; rw [if_pos hpf0]; show l.drop 1 = inn; rw [← hinn]; rfl
        rw [hpf0, hts]
        have hil : inn.length ≤ 2000 := by have := congrArg List.length hinn; simp at this; omega
        have HIN := Lib.hid hinn
        clear hpf hpf0 hts hinn
        go_wp2_with fail
        refine (parseList_p inn x2 m (by rw [HW.out.cell (cell_lt HMX.out)]; exact HMX.out) hil).mono ?_
        rintro e x3 ⟨v, o, rfl, hb, hpost⟩
        replace HB1 := kBV hb HB1
        replace HW := Lib.hid (HW.out.trans (hb.mono HW.out.size))
        clear hb
        rcases hpost with ⟨rfl, x, hc, hxt, hx7⟩ | ⟨rfl, rfl⟩
        · have HXT := Lib.hid hxt
          have HX7 := Lib.hid hx7
          clear hxt hx7
          have HC := Lib.hid hc
          obtain ⟨u, uk, ub, uo, ul, uc, ud, up, um, uq, rfl, hue, hux, hur⟩ := hc.unit
          clear hc hue hux hur
          have d0 := cell_at (v := .int .i64 0) HB1.out 0 rfl
          have fd0 := froz_at HB1.out 0
          have d1 := cell_at (v := .bool false) HB1.out 1 rfl
          have fd1 := froz_at HB1.out 1
          have d2 := cell_at (v := .slice none 0 0) HB1.out 2 rfl
          have fd2 := froz_at HB1.out 2
          have d3 := cell_at (v := .bool false) HB1.out 3 rfl
          have fd3 := froz_at HB1.out 3
          have d4 := cell_at (v := .slice none 0 0) HB1.out 4 rfl
          have fd4 := froz_at HB1.out 4
          go_wp2_with fail
          obtain ⟨r1, r2⟩ := res5V HW.out HB1.out n32_5 hk1w.out (.int .i64 uk) (.bool ub) (.slice uo ul uc) (.bool ud) (.slice up um uq)
          exact bodyPost_ret (v := .tuple #[.agg #[.int .i64 uk, .bool ub, .slice uo ul uc, .bool ud, .slice up um uq], .bool true]) (by simp [results, Tryd.results7, go_sem, d0, d1, d2, d3, d4]) rfl ⟨_, _, rfl, r2, .inl ⟨rfl, _, HC.out.fr (by decide) r1, by rw [HXT.out, ← HIN.out]; rfl, HX7.out⟩⟩
        · simp only [zeroVal]
          have d0 := cell_at (v := .int .i64 0) HB1.out 0 rfl
          have fd0 := froz_at HB1.out 0
          have d1 := cell_at (v := .bool false) HB1.out 1 rfl
          have fd1 := froz_at HB1.out 1
          have d2 := cell_at (v := .slice none 0 0) HB1.out 2 rfl
          have fd2 := froz_at HB1.out 2
          have d3 := cell_at (v := .bool false) HB1.out 3 rfl
          have fd3 := froz_at HB1.out 3
          have d4 := cell_at (v := .slice none 0 0) HB1.out 4 rfl
          have fd4 := froz_at HB1.out 4
          go_wp2_with fail
          obtain ⟨r1, r2⟩ := res5V HW.out HB1.out n32_5 hk1w.out (.int .i64 0) (.bool false) (.slice none 0 0) (.bool false) (.slice none 0 0)
          exact bodyPost_ret (v := .tuple #[zeroVal, .bool false]) (by simp [results, Tryd.results7, go_sem, zeroVal, d0, d1, d2, d3, d4]) rfl ⟨_, _, rfl, r2, .inr ⟨rfl, rfl⟩⟩
      · have hpf0 : Lib.hasPrefix (⟨l.toArray⟩ : ByteArray).data.toList (⟨#[91]⟩ : ByteArray).data.toList = false := by simpa using hpf
        rw [hpf0]
        clear hpf hpf0
        go_wp2_with fail
        refine (wparse_any l x2 (by omega)).mono ?_
        rintro e x31 ⟨v, o, rfl, hz1, hz2, hz3, hb⟩
        replace HB1 := kBV hb HB1
        replace HW := Lib.hid (HW.out.trans (hb.mono HW.out.size))
        clear hb
        cases o
        · obtain ⟨fb, fo, fl, fc, hv2⟩ : ∃ b o l c, v = .agg #[.bool b, .slice o l c] := ⟨_, _, _, _, hz3 rfl⟩
          clear hz1 hz2 hz3
          subst hv2
          obtain ⟨x32, k9, e9, ek9, hb9, hk9, HB9⟩ := newV x31 #[.bool fb, .slice fo fl fc] 27
          replace HB1 := kBV hb9.out HB1
          replace HW := Lib.hid (HW.out.trans (hb9.out.mono HW.out.size))
          have g0 := cell_at (v := .bool fb) HB9.out 0 rfl
          have fg0 := froz_at HB9.out 0
          have g1 := cell_at (v := .slice fo fl fc) HB9.out 1 rfl
          have fg1 := froz_at HB9.out 1
          have d0 := cell_at (v := .int .i64 0) HB1.out 0 rfl
          have fd0 := froz_at HB1.out 0
          have d1 := cell_at (v := .bool false) HB1.out 1 rfl
          have fd1 := froz_at HB1.out 1
          have d2 := cell_at (v := .slice none 0 0) HB1.out 2 rfl
          have fd2 := froz_at HB1.out 2
          have d3 := cell_at (v := .bool false) HB1.out 3 rfl
          have fd3 := froz_at HB1.out 3
          have d4 := cell_at (v := .slice none 0 0) HB1.out 4 rfl
          have fd4 := froz_at HB1.out 4
          go_wp2_with fail
          obtain ⟨r1, r2⟩ := res5V HW.out HB1.out n32_5 hk1w.out (.int .i64 0) (.bool false) (.slice none 0 0) (.bool false) (.slice none 0 0)
          exact bodyPost_ret (v := .tuple #[zeroVal, .bool false]) (by simp [results, Tryd.results7, go_sem, zeroVal, d0, d1, d2, d3, d4]) rfl ⟨_, _, rfl, r2, .inr ⟨rfl, rfl⟩⟩
        · have hzt := hz1.1 rfl
          have hc := hz2 rfl
          have HG := Lib.hid hc.gi
          have HZT := Lib.hid (ztext_znV hzt)
          obtain ⟨fb, fo, fl, fc, hv2⟩ := hc.shape
          subst hv2
          clear hz1 hz2 hz3 hzt hc
          obtain ⟨x32, k9, e9, ek9, hb9, hk9, HB9⟩ := newV x31 #[.bool fb, .slice fo fl fc] 27
          replace HB1 := kBV hb9.out HB1
          replace HW := Lib.hid (HW.out.trans (hb9.out.mono HW.out.size))
          replace HG := Lib.hid (HG.out.below hb9.out)
          have g0 := cell_at (v := .bool fb) HB9.out 0 rfl
          have fg0 := froz_at HB9.out 0
          have g1 := cell_at (v := .slice fo fl fc) HB9.out 1 rfl
          have fg1 := froz_at HB9.out 1
          go_wp2_with fail
          refine (ofInt_p _ (zn l) 34 x32 HG.out (by decide)).mono ?_
          rintro e x33 ⟨v, rfl, hc, hb⟩
          clear g0 fg0 g1 fg1
          replace HB1 := kBV hb HB1
          replace HB9 := kBV hb HB9
          replace HW := Lib.hid (HW.out.trans (hb.mono HW.out.size))
          replace HG := Lib.hid (HG.out.below hb)
          clear hb
          have HC := Lib.hid hc
          obtain ⟨u, uk, ub, uo, ul, uc, ud, up, um, uq, rfl, hue, hux, hur⟩ := hc.unit
          clear hc hue hux hur
          have d0 := cell_at (v := .int .i64 0) HB1.out 0 rfl
          have fd0 := froz_at HB1.out 0
          have d1 := cell_at (v := .bool false) HB1.out 1 rfl
          have fd1 := froz_at HB1.out 1
          have d2 := cell_at (v := .slice none 0 0) HB1.out 2 rfl
          have fd2 := froz_at HB1.out 2
          have d3 := cell_at (v := .bool false) HB1.out 3 rfl
          have fd3 := froz_at HB1.out 3
          have d4 := cell_at (v := .slice none 0 0) HB1.out 4 rfl
          have fd4 := froz_at HB1.out 4
          go_wp2_with fail
          obtain ⟨r1, r2⟩ := res5V HW.out HB1.out n32_5 hk1w.out (.int .i64 uk) (.bool ub) (.slice uo ul uc) (.bool ud) (.slice up um uq)
          exact bodyPost_ret (v := .tuple #[.agg #[.int .i64 uk, .bool ub, .slice uo ul uc, .bool ud, .slice up um uq], .bool true]) (by simp [results, Tryd.results7, go_sem, d0, d1, d2, d3, d4]) rfl ⟨_, _, rfl, r2, .inl ⟨rfl, _, HC.out.fr (by decide) r1, HZT.out, fun q e => by cases e⟩⟩
set_option maxHeartbeats 16000000 in
theorem reads_walk (s : ByteArray) (we : World) (m : Int) (hm : we.cell? ⟨0, 0, none⟩ = some (.int .i64 m)) (htab : Lib.TabIs Tryd.prog we "internal/strconv.uint64pow10" .u64 Lib.pow10Tab) :
    Calls Tryd.prog 3 #[.string s] we fun e w' => e = .returned (.bool true) ∧ Below we.heap.size we w' := by
  obtain ⟨l, hl⟩ : ∃ l : List UInt8, s = ⟨l.toArray⟩ := ⟨s.data.toList, by simp⟩
  subst hl
  have hsz : (⟨l.toArray⟩ : ByteArray).size = l.length := rfl
  have HTB := Lib.hid htab
  have HMX := Lib.hid hm
  clear htab hm
  go_enter Tryd.func3, Tryd.ntmps3
  go_wp2_with fail
  refine (fitV we HTB.out).mono ?_
  rintro e w0 ⟨rfl, hb⟩
  have HW := Lib.hid hb
  clear hb
  by_cases hlen : l.length ≤ 2000
  · have hgt : ¬ ((l.length : Int) > 2000) := by omega
    have hgt2 : ¬ (2000 < l.length) := by omega
    go_wp2_with fail
    refine (parseV_p l w0 m (by rw [HW.out.cell (cell_lt HMX.out)]; exact HMX.out) hlen).mono ?_
    rintro e x3 ⟨v, o, rfl, hb, hpost⟩
    replace HW := Lib.hid (HW.out.trans (hb.mono HW.out.size))
    clear hb
    rcases hpost with ⟨rfl, x, hc, hxt, hx7⟩ | ⟨rfl, rfl⟩
    · have HXT := Lib.hid hxt
      have HX7 := Lib.hid hx7
      have HC := Lib.hid hc
      obtain ⟨u, uk, ub, uo, ul, uc, ud, up, um, uq, rfl, hue, hux, hur⟩ := hc.unit
      clear hc hue hux hur hxt hx7
      obtain ⟨x4, k3, e3, ek3, hb3, hk3, HB3⟩ := newV x3 #[.int .i64 uk, .bool ub, .slice uo ul uc, .bool ud, .slice up um uq] 30
      replace HW := Lib.hid (HW.out.trans (hb3.out.mono HW.out.size))
      replace HC := Lib.hid (VC.below HC.out hb3.out)
      have g0 := cell_at (v := .int .i64 uk) HB3.out 0 rfl
      have fg0 := froz_at HB3.out 0
      have g1 := cell_at (v := .bool ub) HB3.out 1 rfl
      have fg1 := froz_at HB3.out 1
      have g2 := cell_at (v := .slice uo ul uc) HB3.out 2 rfl
      have fg2 := froz_at HB3.out 2
      have g3 := cell_at (v := .bool ud) HB3.out 3 rfl
      have fg3 := froz_at HB3.out 3
      have g4 := cell_at (v := .slice up um uq) HB3.out 4 rfl
      have fg4 := froz_at HB3.out 4
      go_wp2_with fail
      refine (text_p _ x x4 (tab_below HTB.out HW.out) HC.out HX7.out).mono ?_
      rintro e x5 ⟨rfl, hb⟩
      clear g0 fg0 g1 fg1 g2 fg2 g3 fg3 g4 fg4
      replace HB3 := kBV hb HB3
      replace HW := Lib.hid (HW.out.trans (hb.mono HW.out.size))
      replace HC := Lib.hid (VC.below HC.out hb)
      clear hb
      rw [HXT.out]
      go_wp2_with fail
      go_ret
      exact ⟨by simp, HW.out⟩
    · obtain ⟨b1, o1, l1, c1, b2, o2, l2, c2, hz, hb1, hb2, hl2⟩ : ∃ b1 o1 l1 c1 b2 o2 l2 c2, zeroVal = .agg #[.int .i64 0, .bool b1, .slice o1 l1 c1, .bool b2, .slice o2 l2 c2] ∧ (b1 = false ∧ o1 = none ∧ l1 = 0 ∧ c1 = 0) ∧ b2 = false ∧ l2 = 0 := ⟨_, _, _, _, _, _, _, _, rfl, ⟨rfl, rfl, rfl, rfl⟩, rfl, rfl⟩
      rw [hz]
      have HB2 := Lib.hid hb2
      have HL2 := Lib.hid hl2
      have HGI : Hid (GI x3 (.agg #[.bool b1, .slice o1 l1 c1]) 0 40) := Lib.hid (by obtain ⟨rfl, rfl, rfl, rfl⟩ := hb1; exact CI.gi (nr0 x3))
      clear hb1 hb2 hl2 hz
      obtain ⟨x4, k3, e3, ek3, hb3, hk3, HB3⟩ := newV x3 #[.int .i64 0, .bool b1, .slice o1 l1 c1, .bool b2, .slice o2 l2 c2] 30
      replace HW := Lib.hid (HW.out.trans (hb3.out.mono HW.out.size))
      replace HGI := Lib.hid (HGI.out.below hb3.out)
      have g0 := cell_at (v := .int .i64 0) HB3.out 0 rfl
      have fg0 := froz_at HB3.out 0
      have g1 := cell_at (v := .bool b1) HB3.out 1 rfl
      have fg1 := froz_at HB3.out 1
      have g2 := cell_at (v := .slice o1 l1 c1) HB3.out 2 rfl
      have fg2 := froz_at HB3.out 2
      have g3 := cell_at (v := .bool b2) HB3.out 3 rfl
      have fg3 := froz_at HB3.out 3
      have g4 := cell_at (v := .slice o2 l2 c2) HB3.out 4 rfl
      have fg4 := froz_at HB3.out 4
      have hs : sgnZ 0 = 0 := rfl
      go_upto_region 7 with fail
      have hb2 := HB2.out
      have hl2 := HL2.out
      subst hb2
      subst hl2
      clear e3
      go_wp2_with fail
      refine (wsign_any _ 0 40 x4 HGI.out (by decide)).mono ?_
      rintro e x5 ⟨rfl, hb⟩
      clear g0 fg0 g1 fg1 g2 fg2 g3 fg3 g4 fg4
      replace HB3 := kBV hb HB3
      replace HW := Lib.hid (HW.out.trans (hb.mono HW.out.size))
      replace HGI := Lib.hid (HGI.out.below hb)
      clear hb
      rw [hs]
      go_wp2_with fail
      go_ret
      exact ⟨rfl, HW.out⟩
  · have hgt : (l.length : Int) > 2000 := by omega
    have hgt2 : 2000 < l.length := by omega
    go_wp2_with fail
    go_ret
    exact ⟨rfl, HW.out⟩
end Go.Proofs.YtocadojeanhalaaDoor
