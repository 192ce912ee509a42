/-
  What strings.Split gives; the contracts of value.Parse, with what is read at all (ValueTexts).
-/
import Derived.Test.YtocadojeanhalaaGreatDoorVlZ
import Derived.Lib.SplitLaws
namespace Go.Proofs.YtocadojeanhalaaGreatDoor
open Go.RowKit
set_option maxRecDepth 100000
set_option linter.unusedVariables false
set_option linter.unusedSimpArgs false

theorem ztext_znV {l : List UInt8} (h : ZNum l) : zText (zn l) = l := by
  rcases h with h | ⟨m, rfl, h, h0⟩
  · have e : zn l = (dn l : Int) := by unfold zn; rw [if_neg (num_head h)]
    rw [e]; unfold zText; rw [if_neg (by omega), Int.natAbs_natCast]; exact h.text
  · have e : zn (45 :: m) = -(dn m : Int) := by simp [zn]
    rw [e]; unfold zText; rw [if_pos (by omega), Int.natAbs_neg, Int.natAbs_natCast, h.text]
theorem joinB_cons (x : List UInt8) {r : List (List UInt8)} (h : r ≠ []) : joinB (x :: r) = x ++ sep ++ joinB r := by
  cases r with
  | nil => exact absurd rfl h
  | cons y r => simp [joinB, List.append_assoc]
theorem splitK_ne (k : Nat) (s : List UInt8) : Lib.splitK sep 0 k s ≠ [] := by
  cases k with
  | zero => simp [Lib.splitK]
  | succ k => unfold Lib.splitK; split <;> simp
theorem join_splitK : ∀ (k : Nat) (s : List UInt8), joinB (Lib.splitK sep 0 k s) = s
  | 0, s => by simp [Lib.splitK, joinB]
  | k + 1, s => by
    unfold Lib.splitK
    rcases Lib.index_spec s sep with ⟨h, -⟩ | ⟨i, h, hi, ho, -⟩
    · rw [if_pos (by rw [h]; rfl)]; simp [joinB]
    · rw [if_neg (by rw [h]; simp), joinB_cons _ (splitK_ne _ _), join_splitK k, h]
      have e : sep ++ s.drop (i + sep.length) = s.drop i := by
        unfold Lib.occAt at ho
        have h1 := List.isPrefixOf_iff_prefix.1 ho
        obtain ⟨t, ht⟩ := h1
        rw [← ht, ← List.drop_drop, ← ht]
        simp
      simp only [Int.toNat_natCast, Nat.add_zero]
      rw [List.append_assoc, e, List.take_append_drop]
set_option maxHeartbeats 2000000 in
theorem split_p (s : List UInt8) (we : World) (m : Int) (hm : we.cell? ⟨0, 0, none⟩ = some (.int .i64 m)) (hs : s.length ≤ 100000) :
    Calls Tryz.prog 37 #[.string ⟨s.toArray⟩, .string ⟨#[44, 32]⟩] we fun e w' => ∃ v ts, e = .returned v ∧ tE.At w' v ts ∧ joinB ts = s ∧ ts = Lib.splitK sep 0 (Lib.count s sep) s ∧ ts.length ≤ s.length + 1 ∧ Below we.heap.size we w' := by
  have hsz : (⟨s.toArray⟩ : ByteArray).size = s.length := rfl
  refine (Tryz.strings_Split ⟨s.toArray⟩ ⟨#[44, 32]⟩ m we (by omega) hm (by decide)).mono ?_
  rintro e w' ⟨rfl, rfl⟩
  obtain ⟨P, hP⟩ : ∃ P, P = Lib.splitB ⟨#[44, 32]⟩ 0 (Lib.countB ⟨s.toArray⟩ ⟨#[44, 32]⟩) ⟨s.toArray⟩ := ⟨_, rfl⟩
  have hl : P.length = Lib.countB ⟨s.toArray⟩ ⟨#[44, 32]⟩ + 1 := by rw [hP]; exact Lib.splitB_all _ (by decide) 0 _ _ rfl
  have hd : P.map (·.data.toList) = Lib.splitK sep 0 (Lib.countB ⟨s.toArray⟩ ⟨#[44, 32]⟩) s := by rw [hP, Lib.splitB_data]; rfl
  have hc := Lib.countB_le ⟨#[44, 32]⟩ (by decide) s.length ⟨s.toArray⟩ (Nat.le_refl _)
  refine ⟨_, P.map (·.data.toList), rfl, ?_, by rw [hd, join_splitK], by rw [hd]; rfl, by rw [List.length_map, hl]; omega, (Below.refl _ _).alloc (Nat.le_refl _) _⟩
  rw [← hP, ← hl, ← List.length_map (f := fun b : ByteArray => b.data.toList)]
  refine El.At.block (E := tE) ?_ (by rw [List.length_map, hl]; unfold maxLen; omega) (fun _ _ => trivial)
  rw [heap_alloc_new]
  have hfm : ∀ Q : List ByteArray, Q.map Value.string = (Q.map fun b : ByteArray => b.data.toList).flatMap tE.f := by
    intro Q
    induction Q with
    | nil => rfl
    | cons b Q ih => rw [List.map_cons, List.map_cons, List.flatMap_cons, ← ih]; simp [tE]
  rw [hfm]; rfl
def zeroVal : Value := .agg #[.int .i64 0, .bool false, .slice none 0 0, .bool false, .slice none 0 0]
/-- What a reader of values gives. -/
def ReadPost (l : List UInt8) (we : World) (e : Ending) (w' : World) : Prop := ∃ v o, e = .returned (.tuple #[v, .bool o]) ∧ Below we.heap.size we w' ∧ ((o = true ∧ ∃ x, VC w' v x ∧ vText x = l ∧ ∀ q, x = .L q → q.length ≤ 700) ∨ (o = false ∧ v = zeroVal ∧ ¬ Good l))
theorem pieces_bd {zs : List Int} (h : (joinB (zs.map zText)).length ≤ 2000) : zs.length ≤ 700 := by
  have h1 : ∀ z : Int, 1 ≤ (zText z).length := by
    intro z
    unfold zText
    have h2 : 1 ≤ (Lib.decDigits z.natAbs).length := by
      rw [Lib.decDigits]; split <;> simp
    split
    · simp
    · exact h2
  have h3 : ∀ l : List Int, l.length ≤ lens (l.map zText) := by
    intro l
    induction l with
    | nil => exact Nat.le_refl _
    | cons a l ih => have := h1 a; simp only [lens, List.map_cons, List.sum_cons, List.length_cons] at *; omega
  cases zs with
  | nil => exact Nat.zero_le _
  | cons a l =>
    have h4 := h3 l
    have h5 : ((l.map zText).flatMap (fun t => sep ++ t)).length = lens (l.map zText) + 2 * l.length := by
      clear h h4
      induction l with
      | nil => rfl
      | cons b l ih => rw [List.map_cons, List.flatMap_cons, List.length_append, ih]; simp [sep, lens]; omega
    simp only [joinB, List.map_cons, List.length_append, h5, List.length_cons] at h ⊢
    have := h1 a
    omega
def PLrel (xL : World) (n k1 : Nat) (ts : List (List UInt8)) (ov iv : Value) (wr : World) : Prop :=
  ∃ (j : Nat) (ns : List NU), iv = .int .i64 (j : Nat) ∧ j ≤ n ∧ Hid ((ns.map (·.z)).map zText = ts.take j) ∧ Hid (ns.length = j) ∧ Hid (nE.Row wr xL.heap.size ov ns) ∧ Hid (wr.heap[k1]? = some (.cells #[.int .i64 0, .bool false, .slice none 0 0, .bool false, .slice none 0 0] 32 (0, 0))) ∧ Hid (Below xL.heap.size xL wr)
set_option maxHeartbeats 16000000 in
theorem parseList_p (l : List UInt8) (we : World) (m : Int) (hm : we.cell? ⟨0, 0, none⟩ = some (.int .i64 m)) (hl : l.length ≤ 2000) :
    Calls Tryz.prog 18 #[.string ⟨l.toArray⟩] we (ReadPost (91 :: l) we) := by
  have hsz : (⟨l.toArray⟩ : ByteArray).size = l.length := rfl
  have HMX := Lib.hid hm
  have HW := Lib.hid (Below.refl we.heap.size we)
  have HCS := Lib.hid (Tryz.strings_CutSuffix ⟨l.toArray⟩ ⟨#[93]⟩)
  clear hm
  go_enter Tryz.func18, Tryz.ntmps18
  obtain ⟨x1, k1, e1, ek1, hb1, hk1, HB1⟩ := newV we #[.int .i64 0, .bool false, .slice none 0 0, .bool false, .slice none 0 0] 32
  replace HW := Lib.hid (HW.out.trans (hb1.out.mono HW.out.size))
  have hk1w := hk1
  go_wp2_with fail
  refine (HCS.out x1 (by rw [hsz]; omega)).mono ?_
  rintro e x2 ⟨rfl, hw⟩
  subst hw
  by_cases hsf : Lib.hasSuffix l [93] = true
  · have hsf0 : Lib.hasSuffix (⟨l.toArray⟩ : ByteArray).data.toList (⟨#[93]⟩ : ByteArray).data.toList = true := hsf
    obtain ⟨inn, hinn⟩ := List.isSuffixOf_iff_suffix.1 hsf
    have hts : Lib.trimSuffix (⟨l.toArray⟩ : ByteArray).data.toList (⟨#[93]⟩ : ByteArray).data.toList = inn := by unfold Lib.trimSuffix; rw [if_pos hsf0]; show l.take (l.length - 1) = inn; rw [← hinn]; simp
    rw [hsf0, hts]
    have hil : inn.length ≤ 2000 := by have := congrArg List.length hinn; simp at this; omega
    have HIN := Lib.hid hinn
    clear hsf hsf0 hts hinn
    by_cases hi0 : inn = []
    · subst hi0
      go_wp2_with fail
      refine (ofList_p _ [] x2 ⟨[], El.At.nil _, rfl⟩ (by decide)).mono ?_
      rintro e x3 ⟨v, rfl, hc, hb⟩
      replace HB1 := kBV hb HB1
      replace HW := Lib.hid (HW.out.trans (hb.mono HW.out.size))
      clear hb
      have HC := Lib.hid hc
      obtain ⟨u, uk, ub, uo, ul, uc, ud, up, um, uq, rfl, hue, hux, hur⟩ := hc.unit
      clear hc hue hux hur
      have d0 := cell_at (v := .int .i64 0) HB1.out 0 rfl
      have fd0 := froz_at HB1.out 0
      have d1 := cell_at (v := .bool false) HB1.out 1 rfl
      have fd1 := froz_at HB1.out 1
      have d2 := cell_at (v := .slice none 0 0) HB1.out 2 rfl
      have fd2 := froz_at HB1.out 2
      have d3 := cell_at (v := .bool false) HB1.out 3 rfl
      have fd3 := froz_at HB1.out 3
      have d4 := cell_at (v := .slice none 0 0) HB1.out 4 rfl
      have fd4 := froz_at HB1.out 4
      go_wp2_with fail
      obtain ⟨r1, r2⟩ := res5V HW.out HB1.out n32_5 hk1w.out (.int .i64 uk) (.bool ub) (.slice uo ul uc) (.bool ud) (.slice up um uq)
      exact bodyPost_ret (v := .tuple #[.agg #[.int .i64 uk, .bool ub, .slice uo ul uc, .bool ud, .slice up um uq], .bool true]) (by simp [results, Tryz.results18, go_sem, d0, d1, d2, d3, d4]) rfl ⟨_, _, rfl, r2, .inl ⟨rfl, _, HC.out.fr (by decide) r1, by have e := HIN.out; rw [← e]; rfl, fun q e => by injection e with e; subst e; decide⟩⟩
    · have hne2 : ¬ ((⟨inn.toArray⟩ : ByteArray) = ⟨#[]⟩) := by intro e; exact hi0 (by have := congrArg (fun b : ByteArray => b.data.toList) e; simpa using this)
      have hne3 : inn.isEmpty = false := by simpa using hi0
      have HI0 := Lib.hid hi0
      clear hi0
      go_wp2_with fail
      refine (split_p inn x2 m (by rw [HW.out.cell (cell_lt HMX.out)]; exact HMX.out) (by omega)).mono ?_
      rintro e x3 ⟨v, ts, rfl, hat, hj, hsp, htl, hb⟩
      have HSP := Lib.hid hsp
      clear hsp
      replace HB1 := kBV hb HB1
      replace HW := Lib.hid (HW.out.trans (hb.mono HW.out.size))
      clear hb
      obtain ⟨so, sc, hvv, ⟨hsc1, hsc2, -⟩, -⟩ := id hat
      subst hvv
      have HAT := Lib.hid hat
      have HJ := Lib.hid hj
      obtain ⟨n, hn⟩ : ∃ n, n = ts.length := ⟨_, rfl⟩
      rw [← hn] at HAT hsc1 htl
      rw [← hn]
      have HN := Lib.hid hn
      have hscx : sc ≤ 9223372036854775807 := hsc2
      clear hat hj hn
      have hk1L : Hid (k1 < x3.heap.size) := Lib.hid (lt_of_block HB1.out)
      go_wp2_with fail
      go_loopw [6, 25] (PLrel x3 n k1 ts) (fun _ i _ => n - (intOf i).toNat)
      case atStart => exact ⟨0, [], rfl, Nat.zero_le _, Lib.hid rfl, Lib.hid rfl, Lib.hid (El.Row.nil _ _), HB1, Lib.hid (Below.refl _ _)⟩
      case round =>
        clear HB1
        obtain ⟨j, ns, rfl, hj, HE, HNL, HR, HB1, HI⟩ := hrel
        obtain ⟨wp, rfl⟩ : ∃ q, q = wr := ⟨_, rfl⟩
        obtain ⟨oo, oc, rfl, hol, hoc, -⟩ := HR.out.form
        replace HW := Lib.hid (HW.out.trans (HI.out.mono HW.out.size))
        by_cases hlt : j < n
        · have hz : j < ts.length := by rw [← HN.out]; exact hlt
          obtain ⟨a, hsa, c0⟩ := (TX.cells (HAT.out.below HI.out)).2 j hz
          subst hsa
          obtain ⟨t, ht⟩ : ∃ t, t = ts[j] := ⟨_, rfl⟩
          rw [← ht] at c0
          have HT := Lib.hid ht
          have htl2 : t.length ≤ 2000 := by
            have h1 := lens_at ts j hz
            rw [← ht] at h1
            have h2 : lens ts ≤ (joinB ts).length := by
              cases hts : ts with
              | nil => simp [lens]
              | cons y r =>
                have h3 : ∀ r : List (List UInt8), lens r ≤ (r.flatMap (fun t => sep ++ t)).length := by
                  intro r
                  induction r with
                  | nil => simp [lens]
                  | cons b r ih => rw [List.flatMap_cons, List.length_append]; simp only [lens, List.map_cons, List.sum_cons, List.length_append] at *; omega
                have := h3 r
                simp only [joinB, List.length_append, lens, List.map_cons, List.sum_cons] at *; omega
            rw [HJ.out] at h2; omega
          clear ht
          go_wp2_with fail
          refine (wparse_any t wp (by omega)).mono ?_
          rintro e x31 ⟨v, o, rfl, hz1, hz2, hz3, hb⟩
          clear c0
          replace HB1 := kBV hb HB1
          replace HW := Lib.hid (HW.out.trans (hb.mono HW.out.size))
          replace HI := Lib.hid (HI.out.trans (hb.mono HI.out.size))
          replace HR := Lib.hid (HR.out.below hb)
          clear hb
          cases o
          · obtain ⟨fb, fo, fl, fc, hv2⟩ : ∃ b o l c, v = .agg #[.bool b, .slice o l c] := ⟨_, _, _, _, hz3 rfl⟩
            have HNG : Hid (¬ Good (91 :: l)) := Lib.hid (fun hg => by
              obtain ⟨zs, hsm, hzs⟩ := good_list hg
              have e : inn = joinB (zs.map zText) := by have e := HIN.out; rw [hzs] at e; exact List.append_cancel_right e
              have hzn := good_piece hsm e HI0.out t (by rw [HT.out, ← HSP.out]; exact List.getElem_mem hz)
              exact absurd (hz1.2 hzn) (by decide))
            clear hz1 hz2 hz3
            subst hv2
            obtain ⟨x32, k9, e9, ek9, hb9, hk9, HB9⟩ := newV x31 #[.bool fb, .slice fo fl fc] 29
            replace HB1 := kBV hb9.out HB1
            replace HW := Lib.hid (HW.out.trans (hb9.out.mono HW.out.size))
            replace HI := Lib.hid (HI.out.trans (hb9.out.mono HI.out.size))
            replace HR := Lib.hid (HR.out.below hb9.out)
            have g0 := cell_at (v := .bool fb) HB9.out 0 rfl
            have fg0 := froz_at HB9.out 0
            have g1 := cell_at (v := .slice fo fl fc) HB9.out 1 rfl
            have fg1 := froz_at HB9.out 1
            have d0 := cell_at (v := .int .i64 0) HB1.out 0 rfl
            have fd0 := froz_at HB1.out 0
            have d1 := cell_at (v := .bool false) HB1.out 1 rfl
            have fd1 := froz_at HB1.out 1
            have d2 := cell_at (v := .slice none 0 0) HB1.out 2 rfl
            have fd2 := froz_at HB1.out 2
            have d3 := cell_at (v := .bool false) HB1.out 3 rfl
            have fd3 := froz_at HB1.out 3
            have d4 := cell_at (v := .slice none 0 0) HB1.out 4 rfl
            have fd4 := froz_at HB1.out 4
            go_wp2_with fail
            obtain ⟨r1, r2⟩ := res5V HW.out HB1.out n32_5 hk1w.out (.int .i64 0) (.bool false) (.slice none 0 0) (.bool false) (.slice none 0 0)
            exact bodyPost_ret (v := .tuple #[zeroVal, .bool false]) (by simp [results, Tryz.results18, go_sem, zeroVal, d0, d1, d2, d3, d4]) rfl ⟨_, _, rfl, r2, .inr ⟨rfl, rfl, HNG.out⟩⟩
          · have hzt := hz1.1 rfl
            have hc := hz2 rfl
            clear hz1 hz2 hz3
            obtain ⟨nu, nb, no, nl, nc, rfl, hne, hnz, hnr⟩ := hc.unit (by decide)
            have HNE := Lib.hid hne
            have HNZ := Lib.hid hnz
            have HNR := Lib.hid hnr
            clear hc hne hnz hnr
            have HZT := Lib.hid (ztext_znV hzt)
            clear hzt
            obtain ⟨x32, k9, e9, ek9, hb9, hk9, HB9⟩ := newV x31 #[.bool nb, .slice no nl nc] 29
            replace HB1 := kBV hb9.out HB1
            replace HW := Lib.hid (HW.out.trans (hb9.out.mono HW.out.size))
            replace HI := Lib.hid (HI.out.trans (hb9.out.mono HI.out.size))
            replace HR := Lib.hid (HR.out.below hb9.out)
            replace HNR := Lib.hid (nE.below HNR.out hb9.out)
            have g0 := cell_at (v := .bool nb) HB9.out 0 rfl
            have fg0 := froz_at HB9.out 0
            have g1 := cell_at (v := .slice no nl nc) HB9.out 1 rfl
            have fg1 := froz_at HB9.out 1
            obtain ⟨x33, kq, eq, ekq, hbq, hkq, HBq⟩ := newV x32 #[.bool nb, .slice no nl nc] 29
            replace HB1 := kBV hbq.out HB1
            replace HB9 := kBV hbq.out HB9
            replace HW := Lib.hid (HW.out.trans (hbq.out.mono HW.out.size))
            replace HI := Lib.hid (HI.out.trans (hbq.out.mono HI.out.size))
            replace HR := Lib.hid (HR.out.below hbq.out)
            replace HNR := Lib.hid (nE.below HNR.out hbq.out)
            have HAQ := Lib.hid (one_atN HBq.out HNE.out HNR.out)
            go_wp2_with (at_builtin; refine El.Row.append (E := nE) HR.out rfl (.tmp 37) (.tmp 39) rfl rfl rfl HAQ.out (by have := HNL.out; simp; omega) HI.out.size ?_; intro v9 w9 r1 r2 r3 r4)
            go_roundw
            case rel =>
              refine ⟨j + 1, ns ++ [nu], by go_num, hlt, Lib.hid ?_, Lib.hid (by rw [List.length_append, HNL.out]; rfl), Lib.hid r1, Lib.hid ?_, Lib.hid (HI.out.trans r3)⟩
              · rw [List.map_append, List.map_append, HE.out, List.take_succ_eq_append_getElem hz, ← HT.out, ← HZT.out, ← HNZ.out]; rfl
              · rw [r3.block _ hk1L.out]; exact HB1.out
            case measure => simp [intOf]; omega
        · have hjn : j = n := by omega
          have hall : (ns.map (·.z)).map zText = ts := by rw [HE.out, hjn, HN.out, List.take_length]
          have hjoin : joinB ((ns.map (·.z)).map zText) = inn := by rw [hall, HJ.out]
          have hbd7 := pieces_bd (by rw [hjoin]; exact hil)
          have hlist : NL wp (.slice oo ns.length oc) (ns.map (·.z)) := ⟨ns, HR.out.at, rfl⟩
          have HLI := Lib.hid hlist
          have HJO := Lib.hid hjoin
          have HB7 := Lib.hid hbd7
          clear hall hjoin hbd7 hlist
          skip
          go_wp2_with fail
          refine (ofList_p _ (ns.map (·.z)) wp HLI.out (by have := HB7.out; omega)).mono ?_
          rintro e x61 ⟨v, rfl, hc, hb⟩
          replace HB1 := kBV hb HB1
          replace HW := Lib.hid (HW.out.trans (hb.mono HW.out.size))
          clear hb
          have HC := Lib.hid hc
          obtain ⟨u, uk, ub, uo, ul, uc, ud, up, um, uq, rfl, hue, hux, hur⟩ := hc.unit
          clear hc hue hux hur
          have d0 := cell_at (v := .int .i64 0) HB1.out 0 rfl
          have fd0 := froz_at HB1.out 0
          have d1 := cell_at (v := .bool false) HB1.out 1 rfl
          have fd1 := froz_at HB1.out 1
          have d2 := cell_at (v := .slice none 0 0) HB1.out 2 rfl
          have fd2 := froz_at HB1.out 2
          have d3 := cell_at (v := .bool false) HB1.out 3 rfl
          have fd3 := froz_at HB1.out 3
          have d4 := cell_at (v := .slice none 0 0) HB1.out 4 rfl
          have fd4 := froz_at HB1.out 4
          go_wp2_with fail
          obtain ⟨r1, r2⟩ := res5V HW.out HB1.out n32_5 hk1w.out (.int .i64 uk) (.bool ub) (.slice uo ul uc) (.bool ud) (.slice up um uq)
          exact bodyPost_ret (v := .tuple #[.agg #[.int .i64 uk, .bool ub, .slice uo ul uc, .bool ud, .slice up um uq], .bool true]) (by simp [results, Tryz.results18, go_sem, d0, d1, d2, d3, d4]) rfl ⟨_, _, rfl, r2, .inl ⟨rfl, _, HC.out.fr (by decide) r1, by show 91 :: (joinB ((ns.map (·.z)).map zText) ++ [93]) = 91 :: l; rw [HJO.out, ← HIN.out], fun q e => by injection e with e; subst e; exact HB7.out⟩⟩
  · have hsf0 : Lib.hasSuffix (⟨l.toArray⟩ : ByteArray).data.toList (⟨#[93]⟩ : ByteArray).data.toList = false := by simpa using hsf
    rw [hsf0]
    have HNG : Hid (¬ Good (91 :: l)) := Lib.hid (fun hg => by
      obtain ⟨zs, hsm, hzs⟩ := good_list hg
      exact hsf (List.isSuffixOf_iff_suffix.2 ⟨_, hzs.symm⟩))
    clear hsf hsf0
    have d0 := cell_at (v := .int .i64 0) HB1.out 0 rfl
    have fd0 := froz_at HB1.out 0
    have d1 := cell_at (v := .bool false) HB1.out 1 rfl
    have fd1 := froz_at HB1.out 1
    have d2 := cell_at (v := .slice none 0 0) HB1.out 2 rfl
    have fd2 := froz_at HB1.out 2
    have d3 := cell_at (v := .bool false) HB1.out 3 rfl
    have fd3 := froz_at HB1.out 3
    have d4 := cell_at (v := .slice none 0 0) HB1.out 4 rfl
    have fd4 := froz_at HB1.out 4
    go_wp2_with fail
    obtain ⟨r1, r2⟩ := res5V HW.out HB1.out n32_5 hk1w.out (.int .i64 0) (.bool false) (.slice none 0 0) (.bool false) (.slice none 0 0)
    exact bodyPost_ret (v := .tuple #[zeroVal, .bool false]) (by simp [results, Tryz.results18, go_sem, zeroVal, d0, d1, d2, d3, d4]) rfl ⟨_, _, rfl, r2, .inr ⟨rfl, rfl, HNG.out⟩⟩
end Go.Proofs.YtocadojeanhalaaGreatDoor
