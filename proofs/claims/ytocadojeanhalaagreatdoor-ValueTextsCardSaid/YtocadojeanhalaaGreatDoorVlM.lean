/-
  slices.Grow and slices.Concat at numbers and at values.
-/
import Derived.Test.YtocadojeanhalaaGreatDoorVlL
import Derived.Lib.AppendZeros
namespace Go.Proofs.YtocadojeanhalaaGreatDoor
open Go.RowKit
set_option maxRecDepth 100000
set_option linter.unusedVariables false
set_option linter.unusedSimpArgs false

/-- Lists in a list, each at rest. -/
def Ls {α : Type} (E : El α) (w : World) (a : Addr) (ls : List (List α)) : Prop := ∀ i (h : i < ls.length), ∃ o l c, w.cell? (a.add i) = some (.slice o l c) ∧ E.At w (.slice o l c) ls[i]
theorem Ls.below {α : Type} {E : El α} {w w' : World} {a : Addr} {ls : List (List α)} (h : Ls E w a ls) (hb : Below w.heap.size w w') : Ls E w' a ls := fun i hi => by
  obtain ⟨o, l, c, h1, h2⟩ := h i hi
  exact ⟨o, l, c, by rw [hb.cell (cell_lt h1)]; exact h1, h2.below hb⟩
def lenL {α : Type} (ls : List (List α)) : Nat := (ls.map (·.length)).sum
theorem lenL_take {α : Type} (ls : List (List α)) (j : Nat) (hj : j < ls.length) : lenL (ls.take (j + 1)) = lenL (ls.take j) + ls[j].length := by
  unfold lenL
  rw [List.take_succ_eq_append_getElem hj, List.map_append, List.sum_append]; simp
theorem lenL_le {α : Type} (ls : List (List α)) (j : Nat) : lenL (ls.take j) ≤ lenL ls := by
  unfold lenL
  conv => rhs; rw [← List.take_append_drop j ls, List.map_append, List.sum_append]
  omega
theorem lenL_flat {α : Type} (ls : List (List α)) : ls.flatten.length = lenL ls := by
  unfold lenL; rw [List.length_flatten]
theorem flat_take {α : Type} (ls : List (List α)) (j : Nat) (hj : j < ls.length) : (ls.take (j + 1)).flatten = (ls.take j).flatten ++ ls[j] := by
  rw [List.take_succ_eq_append_getElem hj, List.flatten_append]; simp
theorem wpList_append_run {w w' : World} {v x v' : Value} {t tn : TypeId} {ops : Array Oper} {rest : List Oper} {o : Oper} {a : Act} {Q : Exit → Act → World → Prop} (hgd : o.guard = none) (s y : Operand)
    (ho : o.op = .call { callee := .builtin .append, args := #[s, y], argTypes := #[t, tn] }) (hs : a.eval s = v) (hx : a.eval y = x) (hr : ∀ ty, (Builtin.append_ #[t, tn] ty #[v, x]).run Tryz.prog w = .ok v' w')
    (hK : wpList Tryz.prog ops Q rest (a.put o.dst v') w') : wpList Tryz.prog ops Q (o :: rest) a w := by
  refine wpList_plain hgd fun K hk => ?_
  unfold Oper.wp execOp
  simp only [ho, resolve, invoke, builtin, Sem.run_bind, Sem.run_pure, Result.andThen_ok, List.map_toArray, List.map_cons, List.map_nil, hs, hx, hr]
  exact hk _ _ hK
theorem madeRow {α : Type} (E : El α) (w : World) (B n : Nat) (hn : n ≤ 1000000) (hB : B ≤ w.heap.size) (G : Nat) (hG : n ≤ G ∧ G ≤ maxLen) :
    E.Row (w.drew.alloc (.cells (Builtin.zeroCells E.z.cells n ++ Builtin.zeroCells E.z.cells (G - n)) E.e)) B (.slice (some ⟨w.heap.size, 0, none⟩) 0 G) [] := by
  refine ⟨World.ownsRow_made w.drew _ G hB hG.2 ?_, fun g hg => ?_, fun q hq => by cases hq⟩
  · simp only [Array.size_append, size_zeroCells, E.zs, ← Nat.add_mul]; congr 1; omega
  · injection hg with hg
    subst hg
    exact ⟨_, heap_alloc_new w.drew _, by simp only [Array.toList_append]; exact (N32.zeros E.z32 _).app (N32.zeros E.z32 _)⟩
set_option maxHeartbeats 2000000 in
theorem growN_p (n B : Nat) (w : World) (hn : n ≤ 1000000) (hB : B ≤ w.heap.size) :
    Calls Tryz.prog 76 #[.slice none 0 0, .int .i64 (n : Nat)] w fun e w' => ∃ v, e = .returned v ∧ nE.Row w' B v [] ∧ Below w.heap.size w w' := by
  by_cases h0 : n = 0
  · subst h0
    go_enter Tryz.func76, Tryz.ntmps76
    go_wp2_with fail
    exact bodyPost_ret (results_tmp Tryz.results76 _ _ _) rfl ⟨_, rfl, El.Row.nil _ _, Below.refl _ _⟩
  · obtain ⟨i, hi, hz, hz1, hz2⟩ := info_parts nE.info
    have hpos := nE.pos
    have hge := grownCap_ge w n 0 nE.e
    have hle := grownCap_le_maxLen w n 0 nE.e (by unfold maxLen; omega)
    have hrun := fun ty => Lib.run_append_nil_zeros (P := Tryz.prog) w nE.t 3 ty nE.e i nE.z .i64 .i64 nE.ht Tryz.underlying3 hi hz n (by omega) (by rw [hz1]; exact hpos) (by omega) (by rw [hz2]; exact Nat.le_trans (Nat.mul_le_mul hn nE.by_) (by decide))
    obtain ⟨G, hG⟩ : ∃ G, G = grownCap w n 0 nE.e := ⟨_, rfl⟩
    rw [← hG] at hge hle hrun
    have HM := Lib.hid (madeRow nE w B n hn hB G ⟨hge, hle⟩)
    have hG2 : G ≤ 9223372036854775807 := hle
    have hn0 : (0 : Int) < (n : Int) := by omega
    clear hG hge hle hi hz hz1 hz2 hpos
    obtain ⟨w2, hw2⟩ : ∃ q, q = (w.drew.alloc (.cells (Builtin.zeroCells nE.z.cells n ++ Builtin.zeroCells nE.z.cells (G - n)) nE.e)) := ⟨_, rfl⟩
    have hbb : Below w.heap.size w w2 := by rw [hw2]; exact ((Below.refl _ _).drew).alloc (Nat.le_refl _) _
    rw [← hw2] at hrun HM
    have HB := Lib.hid hbb
    clear hw2 hbb
    have HRUN := Lib.hid hrun
    clear hrun
    go_enter Tryz.func76, Tryz.ntmps76
    go_wp2_with (at_builtin; refine wpList_append_run rfl (.tmp 20) (.tmp 21) rfl rfl rfl HRUN.out ?_)
    exact bodyPost_ret (results_tmp Tryz.results76 _ _ _) rfl ⟨_, rfl, HM.out, HB.out⟩
set_option maxHeartbeats 4000000 in
theorem concatN_p (a : Addr) (m mc : Nat) (ls : List (List NU)) (w : World) (h : Ls nE w a ls) (hm : m = ls.length) (hmc : m ≤ mc ∧ mc ≤ maxLen) (hlen : lenL ls ≤ 100000) (hml : m ≤ 1000) :
    Calls Tryz.prog 64 #[.slice (some a) m mc] w fun e w' => ∃ v, e = .returned v ∧ nE.At w' v ls.flatten ∧ Below w.heap.size w w' := by
  have HX := Lib.hid h
  have HM := Lib.hid hm
  have HL := Lib.hid hlen
  have hmx : mc ≤ 9223372036854775807 := hmc.2
  have hmc1 := hmc.1
  clear h hm hlen hmc
  go_enter Tryz.func64, Tryz.ntmps64
  go_wp2_with fail
  go_loopw [3, 11] (fun nv iv wr => ∃ j s : Nat, iv = .int .i64 (j : Nat) ∧ nv = .int .i64 (s : Nat) ∧ j ≤ m ∧ s ≤ 100000 ∧ Hid (s = lenL (ls.take j)) ∧ Hid (Below w.heap.size w wr)) (fun _ i _ => m - (intOf i).toNat)
  case atStart => exact ⟨0, 0, rfl, rfl, Nat.zero_le _, Nat.zero_le _, Lib.hid rfl, Lib.hid (Below.refl _ _)⟩
  case round =>
    obtain ⟨j, s, rfl, rfl, hj, hs, HS, HW⟩ := hrel
    by_cases hlt : j < m
    · have hjl : j < ls.length := by rw [← HM.out]; exact hlt
      obtain ⟨o, l, c, c0, hat⟩ := (HX.out.below HW.out) j hjl
      have hl : l = ls[j].length := by obtain ⟨_, _, e, _⟩ := hat; injection e
      have hl1 := lenL_take ls j hjl
      have hl2 := lenL_le ls (j + 1)
      rw [← hl] at hl1
      have hsl : s + l ≤ 100000 := by have := HS.out; have := HL.out; omega
      have HS2 := Lib.hid (show s + l = lenL (ls.take (j + 1)) by rw [hl1, HS.out])
      clear hl hl1 hl2 hat
      go_wp2_with fail
      go_roundw
      case rel => exact ⟨j + 1, s + l, by go_num, by go_num, hlt, hsl, HS2, HW⟩
      case measure => simp [intOf]; omega
    · have ej : j = m := by omega
      subst ej
      obtain ⟨wq, rfl⟩ : ∃ q, q = wr := ⟨_, rfl⟩
      go_wp2_with fail
      refine (growN_p s w.heap.size wq (by omega) HW.out.size).mono ?_
      rintro e w3 ⟨v3, rfl, hr, hb⟩
      obtain ⟨po, pc, rfl, -⟩ := hr.form
      have HR := Lib.hid hr
      replace HW := Lib.hid (HW.out.trans (hb.mono HW.out.size))
      clear hr hb
      go_wp2_with fail
      go_loopw [6, 27] (fun ov iv wr => ∃ (j2 : Nat), iv = .int .i64 (j2 : Nat) ∧ j2 ≤ j ∧ Hid (nE.Row wr w.heap.size ov (ls.take j2).flatten) ∧ Hid (Below w.heap.size w wr)) (fun _ i _ => j - (intOf i).toNat)
      case atStart => exact ⟨0, rfl, Nat.zero_le _, HR, HW⟩
      case round =>
        clear HR HW
        obtain ⟨j2, rfl, hj2, HR, HW⟩ := hrel
        obtain ⟨oo, oc, rfl, hol, hoc, -⟩ := HR.out.form
        by_cases hlt2 : j2 < j
        · have hjl : j2 < ls.length := by rw [← HM.out]; exact hlt2
          obtain ⟨o, l, c, c0, hat⟩ := (HX.out.below HW.out) j2 hjl
          have HAT := Lib.hid hat
          have hl0 : (ls.take j2).flatten.length + ls[j2].length ≤ 100000 := by have h1 := lenL_take ls j2 hjl; have h2 := lenL_le ls (j2 + 1); have h3 := lenL_flat (ls.take j2); have := HL.out; omega
          have HL0 := Lib.hid hl0
          clear hat hl0
          go_wp2_with (at_builtin; refine El.Row.append (E := nE) HR.out rfl (.tmp 31) (.tmp 32) rfl rfl rfl HAT.out (by have := HL0.out; omega) HW.out.size ?_; intro v9 w9 r1 r2 r3 r4)
          go_roundw
          case rel => exact ⟨j2 + 1, by go_num, hlt2, Lib.hid (by rw [flat_take ls j2 hjl]; exact r1), Lib.hid (HW.out.trans r3)⟩
          case measure => simp [intOf]; omega
        · have ej : j2 = j := by omega
          go_wp2_with fail
          have hfin := HR.out.at
          have hfl : (ls.take j2).flatten = ls.flatten := by rw [ej, HM.out, List.take_length]
          skip
          exact bodyPost_ret (results_tmp Tryz.results64 _ _ _) rfl ⟨_, rfl, by rw [← hfl]; exact hfin, HW.out⟩
set_option maxHeartbeats 2000000 in
theorem growV_p (n B : Nat) (w : World) (hn : n ≤ 1000000) (hB : B ≤ w.heap.size) :
    Calls Tryz.prog 44 #[.slice none 0 0, .int .i64 (n : Nat)] w fun e w' => ∃ v, e = .returned v ∧ vE.Row w' B v [] ∧ Below w.heap.size w w' := by
  by_cases h0 : n = 0
  · subst h0
    go_enter Tryz.func44, Tryz.ntmps44
    go_wp2_with fail
    exact bodyPost_ret (results_tmp Tryz.results44 _ _ _) rfl ⟨_, rfl, El.Row.nil _ _, Below.refl _ _⟩
  · obtain ⟨i, hi, hz, hz1, hz2⟩ := info_parts vE.info
    have hpos := vE.pos
    have hge := grownCap_ge w n 0 vE.e
    have hle := grownCap_le_maxLen w n 0 vE.e (by unfold maxLen; omega)
    have hrun := fun ty => Lib.run_append_nil_zeros (P := Tryz.prog) w vE.t 3 ty vE.e i vE.z .i64 .i64 vE.ht Tryz.underlying3 hi hz n (by omega) (by rw [hz1]; exact hpos) (by omega) (by rw [hz2]; exact Nat.le_trans (Nat.mul_le_mul hn vE.by_) (by decide))
    obtain ⟨G, hG⟩ : ∃ G, G = grownCap w n 0 vE.e := ⟨_, rfl⟩
    rw [← hG] at hge hle hrun
    have HM := Lib.hid (madeRow vE w B n hn hB G ⟨hge, hle⟩)
    have hG2 : G ≤ 9223372036854775807 := hle
    have hn0 : (0 : Int) < (n : Int) := by omega
    clear hG hge hle hi hz hz1 hz2 hpos
    obtain ⟨w2, hw2⟩ : ∃ q, q = (w.drew.alloc (.cells (Builtin.zeroCells vE.z.cells n ++ Builtin.zeroCells vE.z.cells (G - n)) vE.e)) := ⟨_, rfl⟩
    have hbb : Below w.heap.size w w2 := by rw [hw2]; exact ((Below.refl _ _).drew).alloc (Nat.le_refl _) _
    rw [← hw2] at hrun HM
    have HB := Lib.hid hbb
    clear hw2 hbb
    have HRUN := Lib.hid hrun
    clear hrun
    go_enter Tryz.func44, Tryz.ntmps44
    go_wp2_with (at_builtin; refine wpList_append_run rfl (.tmp 20) (.tmp 21) rfl rfl rfl HRUN.out ?_)
    exact bodyPost_ret (results_tmp Tryz.results44 _ _ _) rfl ⟨_, rfl, HM.out, HB.out⟩
set_option maxHeartbeats 4000000 in
theorem concatV_p (a : Addr) (m mc : Nat) (ls : List (List VU)) (w : World) (h : Ls vE w a ls) (hm : m = ls.length) (hmc : m ≤ mc ∧ mc ≤ maxLen) (hlen : lenL ls ≤ 100000) (hml : m ≤ 1000) :
    Calls Tryz.prog 26 #[.slice (some a) m mc] w fun e w' => ∃ v, e = .returned v ∧ vE.At w' v ls.flatten ∧ Below w.heap.size w w' := by
  have HX := Lib.hid h
  have HM := Lib.hid hm
  have HL := Lib.hid hlen
  have hmx : mc ≤ 9223372036854775807 := hmc.2
  have hmc1 := hmc.1
  clear h hm hlen hmc
  go_enter Tryz.func26, Tryz.ntmps26
  go_wp2_with fail
  go_loopw [3, 11] (fun nv iv wr => ∃ j s : Nat, iv = .int .i64 (j : Nat) ∧ nv = .int .i64 (s : Nat) ∧ j ≤ m ∧ s ≤ 100000 ∧ Hid (s = lenL (ls.take j)) ∧ Hid (Below w.heap.size w wr)) (fun _ i _ => m - (intOf i).toNat)
  case atStart => exact ⟨0, 0, rfl, rfl, Nat.zero_le _, Nat.zero_le _, Lib.hid rfl, Lib.hid (Below.refl _ _)⟩
  case round =>
    obtain ⟨j, s, rfl, rfl, hj, hs, HS, HW⟩ := hrel
    by_cases hlt : j < m
    · have hjl : j < ls.length := by rw [← HM.out]; exact hlt
      obtain ⟨o, l, c, c0, hat⟩ := (HX.out.below HW.out) j hjl
      have hl : l = ls[j].length := by obtain ⟨_, _, e, _⟩ := hat; injection e
      have hl1 := lenL_take ls j hjl
      have hl2 := lenL_le ls (j + 1)
      rw [← hl] at hl1
      have hsl : s + l ≤ 100000 := by have := HS.out; have := HL.out; omega
      have HS2 := Lib.hid (show s + l = lenL (ls.take (j + 1)) by rw [hl1, HS.out])
      clear hl hl1 hl2 hat
      go_wp2_with fail
      go_roundw
      case rel => exact ⟨j + 1, s + l, by go_num, by go_num, hlt, hsl, HS2, HW⟩
      case measure => simp [intOf]; omega
    · have ej : j = m := by omega
      subst ej
      obtain ⟨wq, rfl⟩ : ∃ q, q = wr := ⟨_, rfl⟩
      go_wp2_with fail
      refine (growV_p s w.heap.size wq (by omega) HW.out.size).mono ?_
      rintro e w3 ⟨v3, rfl, hr, hb⟩
      obtain ⟨po, pc, rfl, -⟩ := hr.form
      have HR := Lib.hid hr
      replace HW := Lib.hid (HW.out.trans (hb.mono HW.out.size))
      clear hr hb
      go_wp2_with fail
      go_loopw [6, 27] (fun ov iv wr => ∃ (j2 : Nat), iv = .int .i64 (j2 : Nat) ∧ j2 ≤ j ∧ Hid (vE.Row wr w.heap.size ov (ls.take j2).flatten) ∧ Hid (Below w.heap.size w wr)) (fun _ i _ => j - (intOf i).toNat)
      case atStart => exact ⟨0, rfl, Nat.zero_le _, HR, HW⟩
      case round =>
        clear HR HW
        obtain ⟨j2, rfl, hj2, HR, HW⟩ := hrel
        obtain ⟨oo, oc, rfl, hol, hoc, -⟩ := HR.out.form
        by_cases hlt2 : j2 < j
        · have hjl : j2 < ls.length := by rw [← HM.out]; exact hlt2
          obtain ⟨o, l, c, c0, hat⟩ := (HX.out.below HW.out) j2 hjl
          have HAT := Lib.hid hat
          have hl0 : (ls.take j2).flatten.length + ls[j2].length ≤ 100000 := by have h1 := lenL_take ls j2 hjl; have h2 := lenL_le ls (j2 + 1); have h3 := lenL_flat (ls.take j2); have := HL.out; omega
          have HL0 := Lib.hid hl0
          clear hat hl0
          go_wp2_with (at_builtin; refine El.Row.append (E := vE) HR.out rfl (.tmp 31) (.tmp 32) rfl rfl rfl HAT.out (by have := HL0.out; omega) HW.out.size ?_; intro v9 w9 r1 r2 r3 r4)
          go_roundw
          case rel => exact ⟨j2 + 1, by go_num, hlt2, Lib.hid (by rw [flat_take ls j2 hjl]; exact r1), Lib.hid (HW.out.trans r3)⟩
          case measure => simp [intOf]; omega
        · have ej : j2 = j := by omega
          go_wp2_with fail
          have hfin := HR.out.at
          have hfl : (ls.take j2).flatten = ls.flatten := by rw [ej, HM.out, List.take_length]
          skip
          exact bodyPost_ret (results_tmp Tryz.results26 _ _ _) rfl ⟨_, rfl, by rw [← hfl]; exact hfin, HW.out⟩
end Go.Proofs.YtocadojeanhalaaGreatDoor
