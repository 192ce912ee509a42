/-
  Contracts of logic.Right, logic.Size.
-/
import Derived.Test.YtinfbmnimkcdjaaLgE
namespace Go.Proofs.Ytinfbmnimkcdjaa
open Go.RowKit
set_option maxRecDepth 100000
set_option linter.unusedVariables false
set_option linter.unusedSimpArgs false

theorem rts_take (ks : List F) (j : Nat) (h : j < ks.length) : rts (ks.take (j + 1)) = (rts (ks.take j) && rt ks[j]) := by
  rw [List.take_succ_eq_append_getElem h, rts_all, List.all_append, rts_all]; simp
theorem rts_false {ks : List F} {j : Nat} (h : j < ks.length) (hr : rt ks[j] = false) : rts ks = false := by
  rw [rts_all, List.all_eq_false]; exact ⟨_, List.getElem_mem h, by simp [hr]⟩
set_option maxHeartbeats 4000000 in
theorem right_p (d : Nat) : ∀ (v : Value) (t : F) (S : Nat → Prop) (w : World), FC w S d v t →
    Calls Try.prog 10 #[v] w fun e w' => e = .returned (.bool (rt t)) ∧ Below w.heap.size w w' := by
  induction d with
  | zero => intro v t S w h; obtain ⟨_, _, _, _, _, _, _, _, _, h0, _⟩ := h.open; omega
  | succ d ih =>
    intro v t S w h
    obtain ⟨b, ao, l, c, ko, kl, kc, rfl, ⟨hr, hz, hkl, hkc, hkm⟩, -, hk⟩ := h.open
    obtain ⟨o, z, nm, ks⟩ := t
    simp only [F.op, F.num, F.name, F.kids] at hr hz hk hkl h ⊢
    obtain ⟨n, hn⟩ : ∃ n, n = ks.length := ⟨_, rfl⟩
    rw [← hn] at hkl
    subst hkl
    have HN := Lib.hid hn
    clear hn hr
    have HX := Lib.hid hk
    have HZ := Lib.hid hz
    have HF0 := Lib.hid h
    have IH := Lib.hid ih
    clear hk hz h ih
    have HW := Lib.hid (Below.refl w.heap.size w)
    have hkm' : kc ≤ 9223372036854775807 := hkm
    go_enter Try.func10, Try.ntmps10
    obtain ⟨x1, kf, ef, ekf, hbf, hkf, HBf⟩ := newV w #[.int .i64 o, .bool b, .slice ao l c, .string nm, .slice ko kl kc] 29
    replace HX := Lib.hid (HX.out.below hbf.out)
    replace HZ := Lib.hid (HZ.out.below hbf.out)
    replace HF0 := Lib.hid (HF0.out.below hbf.out)
    replace HW := Lib.hid (HW.out.trans (hbf.out.mono HW.out.size))
    have c0 := cell_at (v := .int .i64 o) HBf.out 0 rfl
    have fc0 := froz_at HBf.out 0
    have c1 := cell_at (v := .bool b) HBf.out 1 rfl
    have fc1 := froz_at HBf.out 1
    have c2 := cell_at (v := .slice ao l c) HBf.out 2 rfl
    have fc2 := froz_at HBf.out 2
    have c3 := cell_at (v := .string nm) HBf.out 3 rfl
    have fc3 := froz_at HBf.out 3
    have c4 := cell_at (v := .slice ko kl kc) HBf.out 4 rfl
    have fc4 := froz_at HBf.out 4
    go_wp2_with fail
    refine (fits_p _ (.node o z nm ks) (d + 1) S x1 HF0.out).mono ?_
    rintro e x2 ⟨rfl, hb⟩
    clear c0 fc0 c1 fc1 c2 fc2 c3 fc3 c4 fc4
    replace HBf := kBV hb HBf
    replace HX := Lib.hid (HX.out.below hb)
    replace HZ := Lib.hid (HZ.out.below hb)
    replace HF0 := Lib.hid (HF0.out.below hb)
    replace HW := Lib.hid (HW.out.trans (hb.mono HW.out.size))
    simp only [F.op, F.num, F.kids]
    have hrt : rt (.node o z nm ks) = (fitF o z (srts ks) && rts ks) := by rw [rt]
    generalize fitF o z (srts ks) = p at hrt ⊢
    have c0 := cell_at (v := .int .i64 o) HBf.out 0 rfl
    have fc0 := froz_at HBf.out 0
    have c1 := cell_at (v := .bool b) HBf.out 1 rfl
    have fc1 := froz_at HBf.out 1
    have c2 := cell_at (v := .slice ao l c) HBf.out 2 rfl
    have fc2 := froz_at HBf.out 2
    have c3 := cell_at (v := .string nm) HBf.out 3 rfl
    have fc3 := froz_at HBf.out 3
    have c4 := cell_at (v := .slice ko kl kc) HBf.out 4 rfl
    have fc4 := froz_at HBf.out 4
    cases p with
    | false =>
      go_wp2_with fail
      go_ret
      exact ⟨by rw [hrt]; rfl, HW.out⟩
    | true =>
      go_wp2_with fail
      refine (canon_p _ z 600 x2 HZ.out).mono ?_
      rintro e x3 ⟨rfl, hb⟩
      clear c0 fc0 c1 fc1 c2 fc2 c3 fc3 c4 fc4
      replace HBf := kBV hb HBf
      replace HX := Lib.hid (HX.out.below hb)
      replace HZ := Lib.hid (HZ.out.below hb)
      replace HF0 := Lib.hid (HF0.out.below hb)
      replace HW := Lib.hid (HW.out.trans (hb.mono HW.out.size))
      have c0 := cell_at (v := .int .i64 o) HBf.out 0 rfl
      have fc0 := froz_at HBf.out 0
      have c1 := cell_at (v := .bool b) HBf.out 1 rfl
      have fc1 := froz_at HBf.out 1
      have c2 := cell_at (v := .slice ao l c) HBf.out 2 rfl
      have fc2 := froz_at HBf.out 2
      have c3 := cell_at (v := .string nm) HBf.out 3 rfl
      have fc3 := froz_at HBf.out 3
      have c4 := cell_at (v := .slice ko kl kc) HBf.out 4 rfl
      have fc4 := froz_at HBf.out 4
      go_wp2_with fail
      clear c0 fc0 c1 fc1 c2 fc2 c3 fc3 c4 fc4
      go_loopw [17] (fun i wr => ∃ j : Nat, i = .int .i64 (j : Nat) ∧ j ≤ kl ∧ Hid (rts (ks.take j) = true) ∧ Hid (Below x3.heap.size x3 wr)) (fun i _ => kl - (intOf i).toNat)
      case atStart => exact ⟨0, rfl, Nat.zero_le _, Lib.hid rfl, Lib.hid (Below.refl _ _)⟩
      case round =>
        obtain ⟨j, rfl, hj, HT, HB⟩ := hrel
        replace HX := Lib.hid (HX.out.below HB.out)
        replace HW := Lib.hid (HW.out.trans (HB.out.mono HW.out.size))
        by_cases hlt : j < kl
        · have hz : j < ks.length := by rw [← HN.out]; exact hlt
          obtain ⟨a, bb, qo, ql, qc, po, pl, pc, rfl, ⟨c0, c1, c2, c3, c4⟩, hf⟩ := HX.out.cells j hz
          have HFC := Lib.hid hf
          clear hf
          obtain ⟨x, hxx⟩ : ∃ x, x = ks[j].op := ⟨_, rfl⟩
          obtain ⟨ym, hnm⟩ : ∃ x, x = ks[j].name := ⟨_, rfl⟩
          rw [← hxx] at c0 HFC
          rw [← hnm] at c3 HFC
          clear hxx hnm
          obtain ⟨x4, k8, e8, ek8, hb8, hk8, HB8⟩ := newV wr #[.int .i64 x, .bool bb, .slice qo ql qc, .string ym, .slice po pl pc] 29
          replace HW := Lib.hid (HW.out.trans (hb8.out.mono HW.out.size))
          replace HB := Lib.hid (HB.out.trans (hb8.out.mono HB.out.size))
          replace HFC := Lib.hid (HFC.out.below hb8.out)
          have g0 := cell_at (v := .int .i64 x) HB8.out 0 rfl
          have fg0 := froz_at HB8.out 0
          have g1 := cell_at (v := .bool bb) HB8.out 1 rfl
          have fg1 := froz_at HB8.out 1
          have g2 := cell_at (v := .slice qo ql qc) HB8.out 2 rfl
          have fg2 := froz_at HB8.out 2
          have g3 := cell_at (v := .string ym) HB8.out 3 rfl
          have fg3 := froz_at HB8.out 3
          have g4 := cell_at (v := .slice po pl pc) HB8.out 4 rfl
          have fg4 := froz_at HB8.out 4
          go_wp2_with fail
          refine (IH.out _ ks[j] S x4 HFC.out).mono ?_
          rintro e x5 ⟨rfl, hb⟩
          clear g0 fg0 g1 fg1 g2 fg2 g3 fg3 g4 fg4
          replace HB8 := kBV hb HB8
          replace HW := Lib.hid (HW.out.trans (hb.mono HW.out.size))
          replace HB := Lib.hid (HB.out.trans (hb.mono HB.out.size))
          replace HFC := Lib.hid (HFC.out.below hb)
          clear hb HFC
          have HT1 := Lib.hid (rts_take ks j hz)
          have HT2 := Lib.hid (rts_false hz)
          rw [HT.out] at HT1
          generalize rt ks[j] = p at HT1 HT2 ⊢
          cases p with
          | true =>
            go_wp2_with fail
            go_roundw
            case rel => exact ⟨j + 1, by go_num, hlt, HT1, HB⟩
            case measure => simp [intOf]; omega
          | false =>
            go_wp2_with fail
            go_ret
            exact ⟨by rw [hrt, HT2.out (by trivial)]; rfl, HW.out⟩
        · go_wp2_with fail
          go_ret
          have e := HT.out
          rw [show j = kl by omega, HN.out, List.take_length] at e
          exact ⟨by rw [hrt, e]; rfl, HW.out⟩
end Go.Proofs.Ytinfbmnimkcdjaa
