/-
  The walk of the law LexPlaces.
-/
import Derived.Test.YtnjdbljdaghdmaaLxLawBack
import Derived.IntWalk
namespace Go.Proofs.Ytnjdbljdaghdmaa
open Go.RowKit
set_option maxRecDepth 100000

set_option maxHeartbeats 4000000 in
theorem lexPlaces_long (l : Bs) (w : World) (hl : 3000 < l.length) (hm : l.length ≤ maxLen) :
    Calls Try.prog 5 #[.string ⟨l.toArray⟩] w fun e w' => e = .returned (.bool true) ∧ Below w.heap.size w w' := by
  have hsz : (⟨l.toArray⟩ : ByteArray).size = l.length := rfl
  unfold maxLen at hm
  go_enter Try.func5, Try.ntmps5
  go_wp2_with (refine (fit_any _).mono ?_; rintro e w1 ⟨rfl, hb⟩; have HB := Lib.hid hb; clear hb)
  go_ret
  exact ⟨rfl, HB.out⟩

set_option maxHeartbeats 4000000 in
theorem lexPlaces_err (l : Bs) (w : World) (hl : l.length ≤ 3000) (hz : (lexS l (1, 1)).2 ≠ 0) :
    Calls Try.prog 5 #[.string ⟨l.toArray⟩] w fun e w' => e = .returned (.bool true) ∧ Below w.heap.size w w' := by
  have hsz : (⟨l.toArray⟩ : ByteArray).size = l.length := rfl
  have HZ := Lib.hid hz
  clear hz
  go_enter Try.func5, Try.ntmps5
  go_wp2_with fail
  refine (fit_any _).mono ?_
  rintro e w1 ⟨rfl, hb⟩
  have HB := Lib.hid hb
  clear hb
  go_wp2_with fail
  refine (lex_any l w1 (by omega)).mono ?_
  intro e w2 hp
  obtain ⟨q, rfl, hb⟩ := err_slice hp HZ.out
  have HB2 := Lib.hid hb
  clear hb hp
  go_wp2
  go_ret
  exact ⟨rfl, HB.out.trans (HB2.out.mono HB.out.size)⟩

theorem int_ne {a b : Nat} (h : a ≠ b) : ((a : Int) == (b : Int)) = false ∧ ((a : Int) != (b : Int)) = true := by
  have : ((a : Int) == (b : Int)) = false := by rw [beq_eq_false_iff_ne]; omega
  exact ⟨this, by rw [bne, this]; rfl⟩
theorem slice_at {l t : Bs} {o : Nat} (h : (l.drop o).take t.length = t) : (⟨l.toArray⟩ : ByteArray).extract o (o + t.length) = ⟨t.toArray⟩ := by
  apply ByteArray.ext
  simp only [ByteArray.data_extract, List.extract_toArray]
  rw [List.extract_eq_take_drop]
  have : o + t.length - o = t.length := by omega
  rw [this, h]

set_option maxHeartbeats 4000000 in
theorem lexPlaces_ok (l : Bs) (w : World) (hl : l.length ≤ 3000) (hz : (lexS l (1, 1)).2 = 0) :
    Calls Try.prog 5 #[.string ⟨l.toArray⟩] w fun e w' => e = .returned (.bool true) ∧ Below w.heap.size w w' := by
  have hsz : (⟨l.toArray⟩ : ByteArray).size = l.length := rfl
  obtain ⟨hn1, hn2⟩ := lex_sum l (1, 1)
  have hne := lex_ne l (1, 1)
  have hpl := lex_placed l (1, 1) hz
  have hla := lex_last l (1, 1) hz
  have HZ := Lib.hid hz
  obtain ⟨ts, hts⟩ : ∃ ts, ts = (lexS l (1, 1)).1 := ⟨_, rfl⟩
  rw [← hts] at hn1 hn2 hne hpl hla
  have HTS := Lib.hid hts
  have HPL := Lib.hid hpl
  have HLA := Lib.hid hla
  have HNE := Lib.hid hne
  have hn0 : 0 < ts.length := List.length_pos_iff.2 hne
  clear hz hts hpl hla hne hn2
  have hd : decide ((3000 : Int) < (l.length : Int)) = false := by simp; omega
  go_enter Try.func5, Try.ntmps5
  go_wp2_with fail
  refine (fit_any _).mono ?_
  rintro e w1 ⟨rfl, hb⟩
  have HB := Lib.hid hb
  clear hb
  go_wp2_with fail
  refine (lex_any l w1 (by omega)).mono ?_
  intro e w2 hp
  obtain ⟨v, rfl, hT, hb⟩ := ok_slice hp HZ.out
  rw [← HTS.out] at hT
  obtain ⟨g, cap, rfl, h1, h2, h3, h4, h5⟩ := tok_cells hT HNE.out
  have HB2 := Lib.hid (HB.out.trans (hb.mono HB.out.size))
  have HC := Lib.hid h5
  unfold maxLen at h2
  clear hb hp hT h5
  go_wp2_with fail
  go_loopw [5, 6, 7, 27] (fun li co at_ i wr => ∃ (k off : Nat), i = .int .i64 k ∧ k ≤ ts.length ∧ at_ = .int .i64 off ∧ off ≤ l.length ∧ li = .int .i64 ((adv (1, 1) (l.take off)).1 : Nat) ∧ co = .int .i64 ((adv (1, 1) (l.take off)).2 : Nat) ∧ Hid (Placed l (1, 1) off (ts.drop k)) ∧ Below w2.heap.size w2 wr) (fun _ _ _ i _ => ts.length - (intOf i).toNat)
  case atStart => exact ⟨0, 0, rfl, Nat.zero_le _, rfl, Nat.zero_le _, rfl, rfl, HPL, Below.refl _ _⟩
  case round =>
    obtain ⟨k, off, rfl, hk, rfl, hoff, rfl, rfl, HPk, hbr⟩ := hrel
    by_cases hlt : k < ts.length
    · obtain ⟨c0, c1, c2, c3⟩ := HC.out k hlt
      have hgc : ∀ i, wr.cell? ⟨g, i, none⟩ = w2.cell? ⟨g, i, none⟩ := fun i => hbr.cell h4
      rw [← hgc] at c0 c1 c2 c3
      have hP := HPk.out
      rw [List.drop_eq_getElem_cons hlt] at hP
      obtain ⟨t, ht⟩ : ∃ t, t = ts[k] := ⟨_, rfl⟩
      rw [← ht] at c0 c1 c2 c3 hP
      obtain ⟨o, o1, o2, o3, o4, o5, o6⟩ := hP
      have HO3 := Lib.hid o3
      have HO4 := Lib.hid o4
      have HO5 := Lib.hid o5
      have HO6 := Lib.hid o6
      have HBR := Lib.hid hbr
      clear hgc hbr ht o3 o4 o5 o6
      go_wp2_with fail
      clear c0 c1 c2 c3
      obtain ⟨W0, hW⟩ : ∃ W0, W0 = wr.alloc (.cells #[.int .i64 (t.kind : Nat), .string ⟨t.text.toArray⟩, .int .i64 (t.line : Nat), .int .i64 (t.col : Nat)] 29) := ⟨_, rfl⟩
      rw [← hW]
      have hbW : Below w2.heap.size w2 W0 := by rw [hW]; exact HBR.out.alloc HBR.out.size _
      have hLW : W0.heap[wr.heap.size]? = some (.cells #[.int .i64 (t.kind : Nat), .string ⟨t.text.toArray⟩, .int .i64 (t.line : Nat), .int .i64 (t.col : Nat)] 29 (0, 0)) := by rw [hW]; exact made_at wr _ _ rfl
      have t1 := cell_at hLW 1 rfl
      have t2 := cell_at hLW 2 rfl
      have t3 := cell_at hLW 3 rfl
      have HBW := Lib.hid hbW
      clear hW hbW hLW
      go_loopw [5, 6, 7] (fun li co at_ wi => ∃ j : Nat, off ≤ j ∧ j ≤ o ∧ at_ = .int .i64 j ∧ li = .int .i64 ((adv (1, 1) (l.take j)).1 : Nat) ∧ co = .int .i64 ((adv (1, 1) (l.take j)).2 : Nat) ∧ wi = W0) (fun _ _ at_ _ => o - (intOf at_).toNat)
      case atStart => exact ⟨off, Nat.le_refl _, o1, rfl, rfl, rfl, rfl⟩
      case round =>
        obtain ⟨j, j1, j2, rfl, rfl, rfl, hwi⟩ := hrel
        obtain rfl := hwi.symm
        clear hwi
        have hqb := adv_bd (1, 1) (l.take j)
        have hlj : (l.take j).length ≤ 3000 := by rw [List.length_take]; omega
        by_cases hjo : j < o
        · have hne := adv_inj (s := l) (p := (1, 1)) hjo (by omega)
          rw [HO3.out] at hne
          have hjl : j < l.length := by omega
          have hst := adv_take_succ (1, 1) l j hjl
          obtain ⟨q, hq⟩ : ∃ q, q = adv (1, 1) (l.take j) := ⟨_, rfl⟩
          rw [← hq] at hqb hne hst ⊢
          have HST := Lib.hid hst
          simp only at hqb
          have hq1 : q.1 ≤ 10000 := by omega
          have hq2 : q.2 ≤ 10000 := by omega
          have hne' : q.1 ≠ t.line ∨ (q.1 = t.line ∧ q.2 ≠ t.col) := by
            by_cases h : q.1 = t.line
            · exact .inr ⟨h, fun h2 => hne (Prod.ext h h2)⟩
            · exact .inl h
          clear hst hq hqb hlj hne
          have hx : (((((⟨l.toArray⟩ : ByteArray)[j]'hjl).toNat : Int) == 10) = true ∧ Hid (stepP q l[j] = (q.1 + 1, 1))) ∨ (((((⟨l.toArray⟩ : ByteArray)[j]'hjl).toNat : Int) == 10) = false ∧ Hid (stepP q l[j] = (q.1, q.2 + 1))) := by
            by_cases h10 : l[j] = 10
            · exact .inl ⟨byte_yes (c := (⟨l.toArray⟩ : ByteArray)[j]'hjl) 10 h10, Lib.hid (stepP_nl h10)⟩
            · exact .inr ⟨byte_no (c := (⟨l.toArray⟩ : ByteArray)[j]'hjl) 10 h10, Lib.hid (stepP_no h10)⟩
          rcases hne' with h | ⟨h, h2⟩
          · obtain ⟨n1, n2⟩ := int_ne h
            clear h
            rcases hx with ⟨hx, hs⟩ | ⟨hx, hs⟩
            all_goals
              go_wp2
              go_roundw
              case rel => exact ⟨j + 1, by omega, by omega, by go_num, by rw [HST.out, hs.out] <;> go_num, by rw [HST.out, hs.out] <;> go_num, by trivial⟩
              case measure => simp [intOf]; omega
          · obtain ⟨n1, n2⟩ := int_ne h2
            clear h2
            have H := Lib.hid h
            have hq3 : t.line ≤ 10000 := by omega
            rw [h]
            clear h
            rcases hx with ⟨hx, hs⟩ | ⟨hx, hs⟩
            all_goals
              go_wp2
              go_roundw
              case rel => exact ⟨j + 1, by omega, by omega, by go_num, by rw [HST.out, hs.out, ← H.out] <;> go_num, by rw [HST.out, hs.out] <;> go_num, by trivial⟩
              case measure => simp [intOf]; omega
        · have hjo' : j = o := by omega
          subst hjo'
          have hc : t.col ≤ 10000 := by
            have := hqb.2
            rw [HO3.out] at this
            simp only at this
            omega
          rw [HO3.out]
          clear hqb hlj hjo j1
          have hlt3 : t.text.length ≤ 3000 := by omega
          have HTX : Hid (t.text.length ≤ 3000) := Lib.hid hlt3
          by_cases hjl : j < l.length
          all_goals
            go_wp2_with fail
            have e0 := slice_at HO4.out
            have s1 : IntKind.i64.wrap ((l.length : Int) - (j : Int)) = (l.length : Int) - (j : Int) := IntWalk.i64_in _ (by omega)
            have s2 : IntKind.i64.wrap ((j : Int) + (t.text.length : Int)) = (j : Int) + (t.text.length : Int) := IntWalk.i64_in _ (by omega)
            have s3 : decide ((l.length : Int) - (j : Int) < (t.text.length : Int)) = false := by simp; omega
            have s4 : ((j : Int) + (t.text.length : Int)).toNat = j + t.text.length := by omega
            have s5 : (0 : Int) ≤ (j : Int) + (t.text.length : Int) := by omega
            have s6 : (j : Int) + (t.text.length : Int) ≤ (l.length : Int) := by omega
            go_quiet (fail)
            clear s1 s2 s3 s4 s5 s6 e0
          all_goals
            go_wp2
            go_roundw
            case rel =>
              have ha : adv (1, 1) (l.take (j + t.text.length)) = (t.line, t.col + t.text.length) := by
                rw [List.take_add, adv_app, HO3.out, HO4.out, adv_flat _ _ HO5.out]
              exact ⟨k + 1, j + t.text.length, by go_num, by omega, by go_num, by omega, by rw [ha], by rw [ha]; go_num, HO6, ⟨HBW.out.os, HBW.out.tape, HBW.out.output, HBW.out.size, HBW.out.block⟩⟩
            case measure => simp [intOf]; omega
    · have hkn : k = ts.length := by omega
      subst hkn
      have hP := HPk.out
      rw [List.drop_length] at hP
      obtain rfl : off = l.length := hP
      have hi : ts.length - 1 < ts.length := by omega
      have hlast : ts[ts.length - 1].kind = 4 := by
        obtain ⟨t, e1, e2⟩ := HLA.out
        rw [List.getLast?_eq_getElem?, List.getElem?_eq_getElem hi] at e1
        injection e1 with e1
        rw [e1]; exact e2
      obtain ⟨c0, -, -, -⟩ := HC.out (ts.length - 1) hi
      rw [hlast, ← (show wr.cell? ⟨g, (ts.length - 1) * 4, none⟩ = _ from hbr.cell (p := ⟨g, (ts.length - 1) * 4, none⟩) h4)] at c0
      have HBR := Lib.hid hbr
      clear hlast hbr
      go_wp2
      go_ret
      exact ⟨rfl, HB2.out.trans (HBR.out.mono HB2.out.size)⟩

theorem lexPlaces_walk (s : ByteArray) (w : World) (hs : s.size ≤ maxLen) :
    Calls Try.prog 5 #[.string s] w fun e w' => e = .returned (.bool true) ∧ Below w.heap.size w w' := by
  obtain ⟨⟨l⟩⟩ := s
  have hm : l.length ≤ maxLen := hs
  by_cases h1 : l.length ≤ 3000
  · by_cases h2 : (lexS l (1, 1)).2 = 0
    · exact lexPlaces_ok l w h1 h2
    · exact lexPlaces_err l w h1 h2
  · exact lexPlaces_long l w (by omega) hm
end Go.Proofs.Ytnjdbljdaghdmaa
