/-
  Lists of texts; strings.Join.
-/
import Derived.Test.YtocadojeanhalaaGreatDoorVlJ
import Derived.Test.YtocadojeanhalaaGreatDoorShelf
namespace Go.Proofs.YtocadojeanhalaaGreatDoor
open Go.RowKit
set_option maxRecDepth 100000
set_option linter.unusedVariables false
set_option linter.unusedSimpArgs false

theorem infoStrV : (Tryz.prog.info? 9).map (fun i => (i.zero, i.size, i.bytes)) = some (some (.string ⟨#[]⟩), 1, 16) := by kernel_rfl
/-- Texts in a list. -/
def tE : El (List UInt8) where
  e := 9
  t := 64
  n := 1
  b := 16
  z := .string ⟨#[]⟩
  f s := [.string ⟨s.toArray⟩]
  R _ _ := True
  ok _ := True
  pos := by decide
  by_ := by decide
  zs := rfl
  z32 := by intro u hu z; simp only [Value.cells, List.mem_cons, List.not_mem_nil, or_false] at hu; subst hu; intro h; cases h
  ht := Tryz.underlying64
  info := infoStrV
  len _ := rfl
  one n := by
    intro u hu
    simp only [List.mem_cons, List.not_mem_nil, or_false] at hu
    subst hu; rfl
  n32 n := by
    intro u hu z
    simp only [List.mem_cons, List.not_mem_nil, or_false] at hu
    subst hu; intro h; cases h
  fr _ _ _ := trivial
  own := trivial
theorem TX.cells {w : World} {ko : Option Addr} {n kc : Nat} {ts : List (List UInt8)} (h : tE.At w (.slice ko n kc) ts) : (n = ts.length ∧ n ≤ kc ∧ kc ≤ maxLen) ∧ ∀ i (hi : i < ts.length), ∃ a, ko = some a ∧ w.cell? (a.add i) = some (.string ⟨ts[i].toArray⟩) := by
  obtain ⟨ko', kc', e, ⟨h1, h2, _⟩, h3⟩ := h
  injection e with e1 e2 e3
  subst e1; subst e2; subst e3
  refine ⟨⟨rfl, h1, h2⟩, fun i hi => ?_⟩
  obtain ⟨a, ha, -, h4, -⟩ := h3 i hi
  exact ⟨a, ha, by have := h4 0 _ rfl; simpa [tE] using this⟩
theorem set_flat1 (l : List (List UInt8)) (i : Nat) (a : List UInt8) (hi : i < l.length) : (l.flatMap tE.f).set i (.string ⟨a.toArray⟩) = (l.set i a).flatMap tE.f := by
  induction l generalizing i with
  | nil => simp at hi
  | cons b l ih =>
    cases i with
    | zero => rfl
    | succ i =>
      have h1 := ih i (by simpa using hi)
      show ([_] ++ l.flatMap tE.f).set (i + 1) _ = [_] ++ (l.set i a).flatMap tE.f
      rw [← h1]; rfl
theorem Row.set1 {w : World} {B g n kc : Nat} {el : List (List UInt8)} (h : tE.Row w B (.slice (some ⟨g, 0, none⟩) n kc) el) (i : Nat) (hi : i < el.length) (hn : n = el.length) (a : List UInt8) :
    tE.Row (w.setCell ⟨g, i, none⟩ (.string ⟨a.toArray⟩)) B (.slice (some ⟨g, 0, none⟩) n kc) (el.set i a) ∧ w.grownBy (w.setCell ⟨g, i, none⟩ (.string ⟨a.toArray⟩)) (some g) := by
  have hg : w.grownBy (w.setCell ⟨g, i, none⟩ (.string ⟨a.toArray⟩)) (some g) := grown_setCell (World.grownBy.refl _ _) _
  have h0 := h.own
  rw [← hn] at h0
  have h1 := (World.ownsRow.stored h0 i (.string ⟨a.toArray⟩)).1
  rw [set_flat1 el i a hi] at h1
  obtain ⟨c, hc, h32⟩ := h.n32 g rfl
  obtain ⟨q1, q2⟩ := h.put i a hg h1 ⟨_, heap_setCell_same _ g _ _ _ _ hc, n32_set h32 _ (by intro z e; cases e)⟩ hn trivial
  exact ⟨q1, hg⟩
theorem Row.at1 {w : World} {B g n kc : Nat} {el : List (List UInt8)} (h : tE.Row w B (.slice (some ⟨g, 0, none⟩) n kc) el) (hn : n = el.length) {i : Nat} (hi : i < n) : ∃ q : ByteArray, w.cell? ⟨g, i, none⟩ = some (.string q) ∧ w.frozen? ⟨g, i, none⟩ = false := by
  have h0 := h.own
  rw [← hn] at h0
  refine ⟨⟨(el[i]'(by omega)).toArray⟩, ?_, World.ownsRow.frozenAt h0 _⟩
  rw [World.ownsRow.cellAt h0 i (by show i < n * 1; omega)]
  have := flat_atV (n := 1) tE.f (fun _ => rfl) el i 0 (by omega) (by decide)
  simpa [tE] using this
def sep : List UInt8 := [44, 32]
def joinB : List (List UInt8) → List UInt8
  | [] => []
  | x :: r => x ++ r.flatMap (fun t => sep ++ t)
def lens (ts : List (List UInt8)) : Nat := (ts.map (·.length)).sum
theorem lens_take (ts : List (List UInt8)) (j : Nat) (hj : j < ts.length) : lens (ts.take (j + 1)) = lens (ts.take j) + ts[j].length := by
  unfold lens
  rw [List.take_succ_eq_append_getElem hj, List.map_append, List.sum_append]; simp
theorem lens_le (ts : List (List UInt8)) (j : Nat) : lens (ts.take j) ≤ lens ts := by
  unfold lens
  conv => rhs; rw [← List.take_append_drop j ts, List.map_append, List.sum_append]
  omega
theorem lens_at (ts : List (List UInt8)) (j : Nat) (hj : j < ts.length) : ts[j].length ≤ lens ts := by
  have h1 := lens_take ts j hj
  have h2 := lens_le ts (j + 1)
  omega
theorem flat_sep (r : List (List UInt8)) (j : Nat) (hj : j < r.length) : (r.take (j + 1)).flatMap (fun t => sep ++ t) = (r.take j).flatMap (fun t => sep ++ t) ++ sep ++ r[j] := by
  rw [List.take_succ_eq_append_getElem hj, List.flatMap_append]; simp
theorem sep_len (r : List (List UInt8)) (j : Nat) : ((r.take j).flatMap (fun t => sep ++ t)).length ≤ lens r + 2 * r.length := by
  have h1 : ∀ l : List (List UInt8), (l.flatMap (fun t => sep ++ t)).length = lens l + 2 * l.length := by
    intro l
    induction l with
    | nil => rfl
    | cons a l ih => rw [List.flatMap_cons, List.length_append, ih]; simp [sep, lens]; omega
  rw [h1]
  have := lens_le r j
  rw [List.length_take]; omega
theorem join_none (w : World) (kc : Nat) (ko : Option Addr) : Calls Tryz.prog 40 #[.slice ko 0 kc, .string ⟨#[44, 32]⟩] w fun e w' => e = .returned (.string ⟨#[]⟩) ∧ Below w.heap.size w w' := by
  go_enter Tryz.func40, Tryz.ntmps40
  go_wp2_with fail
  go_ret
  exact ⟨rfl, Below.refl _ _⟩
theorem join_one (w : World) (kc : Nat) (a : Addr) (x : ByteArray) (h1 : 1 ≤ kc) (h : w.cell? (a.add 0) = some (.string x)) : Calls Tryz.prog 40 #[.slice (some a) 1 kc, .string ⟨#[44, 32]⟩] w fun e w' => e = .returned (.string x) ∧ Below w.heap.size w w' := by
  have h' : w.cell? a = some (.string x) := h
  go_enter Tryz.func40, Tryz.ntmps40
  go_wp2_with fail
  go_ret
  exact ⟨rfl, Below.refl _ _⟩
set_option maxHeartbeats 8000000 in
theorem join_many (a : Addr) (n kc : Nat) (x : List UInt8) (r : List (List UInt8)) (w : World) (h : tE.At w (.slice (some a) n kc) (x :: r)) (hr : 1 ≤ r.length) (hlen : r.length ≤ 100000) (hl : lens (x :: r) ≤ 300000) :
    Calls Tryz.prog 40 #[.slice (some a) n kc, .string ⟨#[44, 32]⟩] w fun e w' => e = .returned (.string ⟨(joinB (x :: r)).toArray⟩) ∧ Below w.heap.size w w' := by
  obtain ⟨⟨hn, hnk, hkm⟩, -⟩ := TX.cells h
  have hmx : kc ≤ 9223372036854775807 := hkm
  have hn2 : n = r.length + 1 := hn
  have hkc1 : kc ≠ 1 := by omega
  have hne0 : ((n : Int) == 0) = false := by rw [beq_eq_false_iff_ne]; omega
  have hne1 : ((n : Int) == 1) = false := by rw [beq_eq_false_iff_ne]; omega
  have HX := Lib.hid h
  have HN := Lib.hid hn2
  have HL := Lib.hid hl
  clear h hn hn2 hl
  have hq : 3 ≤ Int.tdiv 9223372036854775807 ((n : Int) - 1) ∧ Int.tdiv 9223372036854775807 ((n : Int) - 1) ≤ 9223372036854775807 := by
    have hn1 := HN.out
    rw [Int.tdiv_eq_ediv_of_nonneg (by omega)]
    exact ⟨(Int.le_ediv_iff_mul_le (by omega)).2 (by omega), Int.ediv_le_self _ (by omega)⟩
  have hqw : wrap64 (Int.tdiv 9223372036854775807 ((n : Int) - 1)) = Int.tdiv 9223372036854775807 ((n : Int) - 1) := by unfold wrap64; omega
  have hq2 : ¬ (Int.tdiv 9223372036854775807 ((n : Int) - 1) ≤ 2) := by omega
  have hn10 : ¬ ((n : Int) - 1 = 0) := by have := HN.out; omega
  have hq3 : ¬ ((9223372036854775807 : Int) / ((n : Int) - 1) ≤ 2) := by have hn1 := HN.out; rw [← Int.tdiv_eq_ediv_of_nonneg (by omega)]; exact hq2
  clear hq
  have hnn : 2 ≤ n ∧ n ≤ 100001 := by have := HN.out; omega
  go_enter Tryz.func40, Tryz.ntmps40
  go_wp2_with fail
  clear hqw hq2 hq3 hn10 hne0 hne1
  obtain ⟨N, hN⟩ : ∃ N, N = 2 * r.length + lens (x :: r) := ⟨_, rfl⟩
  go_loopw [5, 41] (fun nv iv wr => ∃ j s : Nat, iv = .int .i64 (j : Nat) ∧ nv = .int .i64 (s : Nat) ∧ j ≤ n ∧ s ≤ 600000 ∧ Hid (s = 2 * r.length + lens ((x :: r).take j)) ∧ Hid (Below w.heap.size w wr)) (fun _ i _ => n - (intOf i).toNat)
  case atStart => exact ⟨0, 2 * r.length, rfl, by have := HN.out; go_num, Nat.zero_le _, by omega, Lib.hid rfl, Lib.hid (Below.refl _ _)⟩
  case round =>
    clear hN
    obtain ⟨j, s, rfl, rfl, hj, hs, HS, HW⟩ := hrel
    by_cases hlt : j < n
    · have hjl : j < (x :: r).length := by rw [List.length_cons, ← HN.out]; exact hlt
      obtain ⟨a', ha, c0⟩ := (TX.cells (HX.out.below HW.out)).2 j hjl
      injection ha with ha
      subst ha
      obtain ⟨t, ht⟩ : ∃ t, t = (x :: r)[j] := ⟨_, rfl⟩
      rw [← ht] at c0
      have htl : t.length ≤ 300000 := by rw [ht]; exact Nat.le_trans (lens_at _ j hjl) HL.out
      have hsz : (⟨t.toArray⟩ : ByteArray).size = t.length := rfl
      have HT := Lib.hid ht
      clear ht
      go_wp2_with fail
      go_roundw
      case rel => exact ⟨j + 1, s + t.length, by go_num, by go_num, hlt, by have h1 := lens_le (x :: r) (j + 1); have h2 := lens_take (x :: r) j hjl; rw [← HT.out] at h2; have := HS.out; have := HL.out; omega, Lib.hid (by rw [lens_take _ j hjl, ← HT.out, HS.out]; omega), HW⟩
      case measure => simp [intOf]; omega
    · have ej : j = n := by omega
      subst ej
      have hs1 : 1 ≤ s := by have := HS.out; omega
      obtain ⟨wq, rfl⟩ : ∃ q, q = wr := ⟨_, rfl⟩
      obtain ⟨x1, kb, eb, ekb, hbb, hkb, HBb⟩ := newV wq #[.pointer none, .slice none 0 0] 89
      have HKW : Hid (wq.heap.size ≤ kb) := hkb
      go_wp2_with fail
      refine (growB_p wq.heap.size kb s x1 HKW.out HBb.out hbb.out.size (by omega) hs1).mono ?_
      rintro e w3 ⟨rfl, h1, h2⟩
      have HBL := Lib.hid h1
      have HWQ := Lib.hid (hbb.out.trans h2)
      have HX3 := Lib.hid (HX.out.below (HW.out.trans (HWQ.out.mono HW.out.size)))
      clear h1 h2
      obtain ⟨a', ha, c0⟩ := (TX.cells HX3.out).2 0 (by simp)
      injection ha with ha
      subst ha
      replace c0 : w3.cell? a = some (.string ⟨x.toArray⟩) := c0
      go_wp2_with fail
      refine (writeString_any wq.heap.size kb [] x _ w3 HBL.out rfl (by have := lens_at (x :: r) 0 (by simp); have := HL.out; simp at *; omega) HWQ.out.size).mono ?_
      rintro e w4 ⟨v4, rfl, h1, h2⟩
      replace HBL := Lib.hid h1
      replace HWQ := Lib.hid (HWQ.out.trans h2)
      clear h1 h2 c0 HX3
      go_wp2_with fail
      go_loopw [65] (fun iv wr => ∃ i : Nat, iv = .int .i64 (i : Nat) ∧ i ≤ r.length ∧ Hid (Bld wq.heap.size kb (x ++ (r.take i).flatMap (fun t => sep ++ t)) wr) ∧ Hid (Below wq.heap.size wq wr)) (fun i _ => r.length - (intOf i).toNat)
      case atStart => exact ⟨0, rfl, Nat.zero_le _, Lib.hid (by simpa using HBL.out), HWQ⟩
      case round =>
        clear HBL HWQ
        obtain ⟨i, rfl, hi, HBL, HWQ⟩ := hrel
        have hjr : j - 1 = r.length := by have := HN.out; omega
        have HX3 := Lib.hid (HX.out.below (HW.out.trans (HWQ.out.mono HW.out.size)))
        by_cases hli : i < r.length
        · obtain ⟨a', ha, c0⟩ := (TX.cells HX3.out).2 (i + 1) (by simpa using hli)
          have hli2 : i < j - 1 := by omega
          clear hjr
          injection ha with ha
          subst ha
          obtain ⟨t, ht⟩ : ∃ t, t = r[i] := ⟨_, rfl⟩
          have had : a.add (i + 1) = ⟨a.block, a.off + 1 + i, none⟩ := by unfold Addr.add; rw [if_neg (by omega)]; congr 1; omega
          replace c0 : wr.cell? ⟨a.block, a.off + 1 + i, none⟩ = some (.string ⟨t.toArray⟩) := by rw [← had, c0, ht]; rfl
          clear had
          have hb1 := sep_len r i
          have hb2 : x.length + lens r ≤ 300000 := by have := HL.out; simp [lens] at *; omega
          have hb3 : t.length ≤ lens r := by rw [ht]; exact lens_at r i hli
          have HT := Lib.hid ht
          clear ht
          obtain ⟨M, hM⟩ : ∃ M, M = x ++ (r.take i).flatMap (fun t => sep ++ t) := ⟨_, rfl⟩
          have hMl : M.length ≤ 500000 := by rw [hM, List.length_append]; omega
          rw [← hM] at HBL
          have HM := Lib.hid hM
          clear hM hb1
          go_wp2_with fail
          refine (writeString_any wq.heap.size kb M sep _ wr HBL.out rfl (by simp [sep]; omega) HWQ.out.size).mono ?_
          rintro e w5 ⟨v5, rfl, h1, h2⟩
          replace HBL := Lib.hid h1
          replace HWQ := Lib.hid (HWQ.out.trans h2)
          clear h1 h2 c0
          go_wp2_with fail
          refine (writeString_any wq.heap.size kb (M ++ sep) t _ w5 HBL.out rfl (by simp [sep]; omega) HWQ.out.size).mono ?_
          rintro e w6 ⟨v6, rfl, h1, h2⟩
          replace HBL := Lib.hid h1
          replace HWQ := Lib.hid (HWQ.out.trans h2)
          clear h1 h2
          go_wp2_with fail
          go_roundw
          case rel => exact ⟨i + 1, by go_num, hli, Lib.hid (by rw [flat_sep r i hli, ← HT.out]; have := HBL.out; rw [HM.out] at this; simpa [List.append_assoc] using this), HWQ⟩
          case measure => simp [intOf]; omega
        · have ei : i = r.length := by omega
          have hli2 : ¬ i < j - 1 := by omega
          clear hjr hli
          subst ei
          go_wp2_with fail
          refine (Tryz.Builder_String_any wq.heap.size kb _ wr HBL.out HWQ.out.size).mono ?_
          rintro e w5 ⟨rfl, h2⟩
          replace HWQ := Lib.hid (HWQ.out.trans h2)
          clear h2
          go_wp2_with fail
          go_ret
          refine ⟨?_, HW.out.trans (HWQ.out.mono HW.out.size)⟩
          rfl
end Go.Proofs.YtocadojeanhalaaGreatDoor
