/-
  lesser, intSteps, copyOf, copies.
-/
import Derived.Test.YtocadojeanhalaaGreatDoorVlM
namespace Go.Proofs.YtocadojeanhalaaGreatDoor
open Go.RowKit
set_option maxRecDepth 100000
set_option linter.unusedVariables false
set_option linter.unusedSimpArgs false

theorem El.Row.lit {α : Type} {E : El α} {w : World} {B g : Nat} {el : List α} {c : Array Value} (hc : c = (el.flatMap E.f).toArray) (h : w.heap[g]? = some (.cells c E.e (0, 0))) (hB : B ≤ g) (hl : el.length ≤ maxLen) (hR : ∀ a ∈ el, E.R w a) : E.Row w B (.slice (some ⟨g, 0, none⟩) el.length el.length) el := by
  subst hc
  refine ⟨⟨flat_lenV E.f E.len el, .inr ⟨g, el.length, _, rfl, hB, h, Nat.le_refl _, hl, by simpa using flat_lenV E.f E.len el, ?_⟩⟩, fun q hq => ?_, hR⟩
  · rw [List.toList_toArray, ← flat_lenV E.f E.len el, List.take_length]
  · injection hq with hq; subst hq; exact ⟨_, h, by rw [List.toList_toArray]; exact N32.flat E.n32⟩
theorem sg0 {z : Int} (h : z ≠ 0) : ∃ s : Int, s = sgnZ z ∧ s ≠ 0 := ⟨_, rfl, by unfold sgnZ; rw [if_neg h]; split <;> decide⟩
theorem lesser0 : lesser 0 = [] := rfl
theorem lesser1 {z : Int} (h : z ≠ 0) (h2 : Int.tdiv z 2 = 0) : lesser z = [0] := by unfold lesser; rw [if_neg h, if_pos h2]
theorem lesser2 {z : Int} (h : z ≠ 0) (h2 : Int.tdiv z 2 ≠ 0) : lesser z = [0, Int.tdiv z 2] := by unfold lesser; rw [if_neg h, if_neg h2]
set_option maxHeartbeats 4000000 in
theorem lesser_p (va : Value) (z : Int) (w : World) (hx : GI w va z 40) :
    Calls Tryz.prog 63 #[va] w fun e w' => ∃ v, e = .returned v ∧ NL w' v (lesser z) ∧ Below w.heap.size w w' := by
  obtain ⟨b, ao, l, c, n, rfl, hg, hz⟩ := hx.shape
  have HX := Lib.hid hx
  have HW := Lib.hid (Below.refl w.heap.size w)
  clear hx hg hz
  go_enter Tryz.func63, Tryz.ntmps63
  obtain ⟨x1, k1, e1, ek1, hb1, hk1, HB1⟩ := newV w #[.bool b, .slice ao l c] 29
  replace HX := Lib.hid (HX.out.below hb1.out)
  replace HW := Lib.hid (HW.out.trans (hb1.out.mono HW.out.size))
  have c0 := cell_at (v := .bool b) HB1.out 0 rfl
  have fc0 := froz_at HB1.out 0
  have c1 := cell_at (v := .slice ao l c) HB1.out 1 rfl
  have fc1 := froz_at HB1.out 1
  by_cases h0 : z = 0
  · subst h0
    have hs : sgnZ 0 = 0 := rfl
    go_wp2_with fail
    refine (wsign_any _ 0 40 x1 HX.out (by decide)).mono ?_
    rintro e x2 ⟨rfl, hb⟩
    clear c0 fc0 c1 fc1
    replace HB1 := kBV hb HB1
    replace HX := Lib.hid (HX.out.below hb)
    replace HW := Lib.hid (HW.out.trans (hb.mono HW.out.size))
    clear hb
    rw [hs]
    go_wp2_with fail
    exact bodyPost_ret (results_tmp Tryz.results63 _ _ _) rfl ⟨_, rfl, ⟨[], El.At.nil _, rfl⟩, HW.out⟩
  · obtain ⟨s, hs, hs0⟩ := sg0 h0
    have HS := Lib.hid hs
    have H0 := Lib.hid h0
    have he : (s == 0) = false := beq_eq_false_iff_ne.2 hs0
    clear hs h0
    go_wp2_with fail
    refine (wsign_any _ z 40 x1 HX.out (by decide)).mono ?_
    rintro e x2 ⟨rfl, hb⟩
    rw [← HS.out]
    clear c0 fc0 c1 fc1
    replace HB1 := kBV hb HB1
    replace HX := Lib.hid (HX.out.below hb)
    replace HW := Lib.hid (HW.out.trans (hb.mono HW.out.size))
    clear hb
    go_wp2_with fail
    refine (wof_any 0 x2 (by decide) (by decide)).mono ?_
    rintro e x3 ⟨v, rfl, hc, hb⟩
    replace HB1 := kBV hb HB1
    replace HX := Lib.hid (HX.out.below hb)
    replace HW := Lib.hid (HW.out.trans (hb.mono HW.out.size))
    clear hb
    obtain ⟨nu, zb, zo, zl, zc, rfl, hne, hnz, hnr⟩ := hc.unit (by decide)
    have HNE := Lib.hid hne
    have HNZ := Lib.hid hnz
    have HNR := Lib.hid hnr
    clear hc hne hnz hnr
    have hwx2 := Lib.hid HW.out.size
    obtain ⟨x4, k3, e3, ek3, hb3, hk3, HB3⟩ := newV x3 #[.bool zb, .slice zo zl zc] 29
    replace HB1 := kBV hb3.out HB1
    replace HX := Lib.hid (HX.out.below hb3.out)
    replace HW := Lib.hid (HW.out.trans (hb3.out.mono HW.out.size))
    replace HNR := Lib.hid (nE.below HNR.out hb3.out)
    have hk3w : w.heap.size ≤ k3 := by have h1 := hk3.out; have h2 := hwx2.out; omega
    have HR : Hid (nE.Row x4 w.heap.size (.slice (some ⟨k3, 0, none⟩) 1 1) [nu]) := Lib.hid (El.Row.lit (E := nE) (el := [nu]) (by show _ = (([nu] : List NU).flatMap nC).toArray; rw [List.flatMap_cons, HNE.out]; rfl) HB3.out hk3w (by simp [maxLen]) (fun a ha => by rw [List.mem_singleton] at ha; subst ha; exact HNR.out))
    have c0 := cell_at (v := .bool b) HB1.out 0 rfl
    have fc0 := froz_at HB1.out 0
    have c1 := cell_at (v := .slice ao l c) HB1.out 1 rfl
    have fc1 := froz_at HB1.out 1
    go_wp2_with fail
    refine (half_any _ z 40 x4 HX.out (by decide)).mono ?_
    rintro e x5 ⟨v, rfl, hc, hb⟩
    clear c0 fc0 c1 fc1
    replace HB1 := kBV hb HB1
    replace HB3 := kBV hb HB3
    replace HX := Lib.hid (HX.out.below hb)
    replace HW := Lib.hid (HW.out.trans (hb.mono HW.out.size))
    replace HNR := Lib.hid (nE.below HNR.out hb)
    replace HR := Lib.hid (HR.out.below hb)
    clear hb
    obtain ⟨hu, yb, yo, yl, yc, rfl, hne, hnz, hnr⟩ := hc.unit (by decide)
    have HHE := Lib.hid hne
    have HHZ := Lib.hid hnz
    have HHR := Lib.hid hnr
    have HHC := Lib.hid hc.gi
    clear hc hne hnz hnr
    obtain ⟨x6, k4, e4, ek4, hb4, hk4, HB4⟩ := newV x5 #[.bool yb, .slice yo yl yc] 29
    replace HB1 := kBV hb4.out HB1
    replace HB3 := kBV hb4.out HB3
    replace HX := Lib.hid (HX.out.below hb4.out)
    replace HW := Lib.hid (HW.out.trans (hb4.out.mono HW.out.size))
    replace HNR := Lib.hid (nE.below HNR.out hb4.out)
    replace HR := Lib.hid (HR.out.below hb4.out)
    replace HHR := Lib.hid (nE.below HHR.out hb4.out)
    replace HHC := Lib.hid (HHC.out.below hb4.out)
    have d0 := cell_at (v := .bool yb) HB4.out 0 rfl
    have fd0 := froz_at HB4.out 0
    have d1 := cell_at (v := .slice yo yl yc) HB4.out 1 rfl
    have fd1 := froz_at HB4.out 1
    by_cases h2 : Int.tdiv z 2 = 0
    · have hs2 : sgnZ (Int.tdiv z 2) = 0 := by rw [h2]; rfl
      have hl : lesser z = [nu.z] := by rw [HNZ.out]; exact lesser1 H0.out h2
      have HLS := Lib.hid hl
      have HS2 := Lib.hid hs2
      clear hl hs2 h2
      go_wp2_with fail
      refine (wsign_any _ (Int.tdiv z 2) 40 x6 HHC.out (by decide)).mono ?_
      rintro e x9 ⟨rfl, hb⟩
      rw [HS2.out]
      clear d0 fd0 d1 fd1
      replace HB1 := kBV hb HB1
      replace HB3 := kBV hb HB3
      replace HB4 := kBV hb HB4
      replace HX := Lib.hid (HX.out.below hb)
      replace HW := Lib.hid (HW.out.trans (hb.mono HW.out.size))
      replace HNR := Lib.hid (nE.below HNR.out hb)
      replace HR := Lib.hid (HR.out.below hb)
      replace HHR := Lib.hid (nE.below HHR.out hb)
      replace HHC := Lib.hid (HHC.out.below hb)
      clear hb
      go_wp2_with fail
      exact bodyPost_ret (results_tmp Tryz.results63 _ _ _) rfl ⟨_, rfl, ⟨[nu], HR.out.at, HLS.out.symm⟩, HW.out⟩
    · obtain ⟨s2, hs2, hs20⟩ := sg0 h2
      have hl : lesser z = [nu.z, hu.z] := by rw [HNZ.out, HHZ.out]; exact lesser2 H0.out h2
      have HLS := Lib.hid hl
      have HS2 := Lib.hid hs2
      have he2 : (s2 != 0) = true := bne_iff_ne.2 hs20
      clear hl hs2 h2
      go_wp2_with fail
      refine (wsign_any _ (Int.tdiv z 2) 40 x6 HHC.out (by decide)).mono ?_
      rintro e x9 ⟨rfl, hb⟩
      rw [← HS2.out]
      clear d0 fd0 d1 fd1
      replace HB1 := kBV hb HB1
      replace HB3 := kBV hb HB3
      replace HB4 := kBV hb HB4
      replace HX := Lib.hid (HX.out.below hb)
      replace HW := Lib.hid (HW.out.trans (hb.mono HW.out.size))
      replace HNR := Lib.hid (nE.below HNR.out hb)
      replace HR := Lib.hid (HR.out.below hb)
      replace HHR := Lib.hid (nE.below HHR.out hb)
      replace HHC := Lib.hid (HHC.out.below hb)
      clear hb
      have d0 := cell_at (v := .bool yb) HB4.out 0 rfl
      have fd0 := froz_at HB4.out 0
      have d1 := cell_at (v := .slice yo yl yc) HB4.out 1 rfl
      have fd1 := froz_at HB4.out 1
      obtain ⟨x10, kq, eq, ekq, hbq, hkq, HBq⟩ := newV x9 #[.bool yb, .slice yo yl yc] 29
      replace HB1 := kBV hbq.out HB1
      replace HB3 := kBV hbq.out HB3
      replace HB4 := kBV hbq.out HB4
      replace HX := Lib.hid (HX.out.below hbq.out)
      replace HW := Lib.hid (HW.out.trans (hbq.out.mono HW.out.size))
      replace HNR := Lib.hid (nE.below HNR.out hbq.out)
      replace HR := Lib.hid (HR.out.below hbq.out)
      replace HHR := Lib.hid (nE.below HHR.out hbq.out)
      replace HHC := Lib.hid (HHC.out.below hbq.out)
      have HAT := Lib.hid (one_atN HBq.out HHE.out HHR.out)
      go_wp2_with (at_builtin; refine El.Row.append (E := nE) HR.out rfl (.tmp 15) (.tmp 17) rfl rfl rfl HAT.out (by simp) HW.out.size ?_; intro v10 w10 r1 r2 r3 r4)
      exact bodyPost_ret (results_tmp Tryz.results63 _ _ _) rfl ⟨_, rfl, ⟨[nu, hu], r1.at, HLS.out.symm⟩, HW.out.trans r3⟩
end Go.Proofs.YtocadojeanhalaaGreatDoor
