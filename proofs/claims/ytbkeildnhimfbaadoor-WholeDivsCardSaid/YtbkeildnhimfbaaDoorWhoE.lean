/-
  Contracts of package whole: Text, Parse.
-/
import Derived.Test.YtbkeildnhimfbaaDoorWhoD
import Derived.Test.YtbkeildnhimfbaaDoorParC
namespace Go.Proofs.YtbkeildnhimfbaaDoor
open Go.RowKit
set_option maxRecDepth 100000

/-- The text of an integer. -/
def zText (z : Int) : List UInt8 := if z < 0 then 45 :: Lib.decDigits z.natAbs else Lib.decDigits z.natAbs

theorem app45 (l : List UInt8) : ((⟨#[45]⟩ : ByteArray) ++ (⟨l.toArray⟩ : ByteArray)) = ⟨(45 :: l).toArray⟩ := by
  apply ByteArray.ext
  simp [ByteArray.data_append]
theorem take_one (c : UInt8) (m : List UInt8) : ((⟨(c :: m).toArray⟩ : ByteArray).extract 0 1).toList = [c] := by
  rw [extract_take, ByteArray.toList_mk]; rfl
theorem dec_len {n k : Nat} (h : n < L32 ^ k) (hk : k ≤ 10000) : (Lib.decDigits n).length ≤ 100001 := by
  have h1 : L32 ^ k ≤ 10 ^ (10 * k) := by rw [Nat.pow_mul]; exact Nat.pow_le_pow_left (by decide) _
  have := decDigits_len (k := 10 * k + 1) (Nat.lt_of_lt_of_le h (Nat.le_trans h1 (Nat.pow_le_pow_right (by decide) (by omega)))) (by omega)
  omega

set_option maxHeartbeats 1000000 in
theorem wtext_any (va : Value) (z : Int) (k : Nat) (w : World) (htab : Lib.TabIs Tryd.prog w "internal/strconv.uint64pow10" .u64 Lib.pow10Tab) (hx : GI w va z k) (hk : k ≤ 10000) :
    Calls Tryd.prog 28 #[va] w fun e w' => e = .returned (.string ⟨(zText z).toArray⟩) ∧ Below w.heap.size w w' := by
  have hgx := hx
  obtain ⟨b, ao, l, c, n, rfl, hg, rfl⟩ := hx.shape
  have hW : Below w.heap.size w (w.alloc (.cells #[.bool b, .slice ao l c] 25)) := (Below.refl _ _).alloc (Nat.le_refl _) _
  have hgn := hg
  obtain ⟨xs, hs, dx, rfl, lx⟩ := hgn
  have HN := Lib.hid (sg_natAbs b (val L32 xs))
  have hdl := dec_len hg.lt hk
  by_cases hz : sg b (val L32 xs) < 0
  · have HS := Lib.hid (show sgnZ (sg b (val L32 xs)) = -1 by unfold sgnZ; rw [if_neg (by omega), if_pos hz])
    have HT := Lib.hid (show zText (sg b (val L32 xs)) = 45 :: Lib.decDigits (val L32 xs) by unfold zText; rw [if_pos hz, HN.out])
    clear hz
    go_enter Tryd.func28, Tryd.ntmps28
    go_wp2_with fail
    refine (wsign_any _ _ k _ (hgx.alloc _) (by omega)).mono ?_
    rintro e w2 ⟨rfl, hb2⟩
    have hk2 := (hb2.block w.heap.size (by simp)).trans (heap_alloc_new w _)
    have hb2t := hW.trans (hb2.mono (by simp))
    clear hb2
    obtain ⟨kc0, kc1, _, _⟩ := two_cells hk2
    clear hk2
    rw [HS.out]
    go_wp2_with fail
    refine (text_any _ xs w2 (tab_below htab hb2t) (hs.below hb2t) dx (by omega)).mono ?_
    rintro e w4 ⟨rfl, hb4⟩
    have hb4t := hb2t.trans (hb4.mono hb2t.size)
    go_wp2_with fail
    go_ret
    exact ⟨by rw [HT.out, ← app45]; rfl, hb4t⟩
  · have HS := Lib.hid (show (0 : Int) ≤ sgnZ (sg b (val L32 xs)) by unfold sgnZ; rw [if_neg hz]; split <;> omega)
    have HT := Lib.hid (show zText (sg b (val L32 xs)) = Lib.decDigits (val L32 xs) by unfold zText; rw [if_neg hz, HN.out])
    clear hz
    have h0 := HS.out
    go_enter Tryd.func28, Tryd.ntmps28
    go_wp2_with fail
    refine (wsign_any _ _ k _ (hgx.alloc _) (by omega)).mono ?_
    rintro e w2 ⟨rfl, hb2⟩
    have hk2 := (hb2.block w.heap.size (by simp)).trans (heap_alloc_new w _)
    have hb2t := hW.trans (hb2.mono (by simp))
    clear hb2
    obtain ⟨kc0, kc1, _, _⟩ := two_cells hk2
    clear hk2
    go_wp2_with fail
    refine (text_any _ xs w2 (tab_below htab hb2t) (hs.below hb2t) dx (by omega)).mono ?_
    rintro e w4 ⟨rfl, hb4⟩
    have hb4t := hb2t.trans (hb4.mono hb2t.size)
    go_wp2_with fail
    go_ret
    exact ⟨by rw [HT.out]; rfl, hb4t⟩

theorem prefix_yes (m : List UInt8) (w : World) (hm : m.length ≤ 1000000000) :
    Calls Tryd.prog 96 #[.string ⟨(45 :: m).toArray⟩, .string ⟨#[45]⟩] w fun e w' => e = .returned (.bool true) ∧ w = w' := by
  go_enter Tryd.func96, Tryd.ntmps96
  go_wp2
  go_ret
  refine ⟨?_, rfl⟩
  show Ending.returned (.bool (((⟨(45 :: m).toArray⟩ : ByteArray).extract 0 1).toList == [45])) = _
  rw [take_one]; rfl
theorem prefix_no (l : List UInt8) (w : World) (hm : l.length ≤ 1000000000) (h : l.head? ≠ some 45) :
    Calls Tryd.prog 96 #[.string ⟨l.toArray⟩, .string ⟨#[45]⟩] w fun e w' => e = .returned (.bool false) ∧ w = w' := by
  cases l with
  | nil =>
    clear h
    go_enter Tryd.func96, Tryd.ntmps96
    go_wp2
    go_ret
    exact ⟨rfl, rfl⟩
  | cons c m =>
    have HC := Lib.hid (show (([c] : List UInt8) == [45]) = false by
      rw [beq_eq_false_iff_ne]; intro e; exact h (by injection e with e; rw [e]; rfl))
    clear h
    go_enter Tryd.func96, Tryd.ntmps96
    go_wp2
    go_ret
    refine ⟨?_, rfl⟩
    show Ending.returned (.bool (((⟨(c :: m).toArray⟩ : ByteArray).extract 0 1).toList == [45])) = _
    rw [take_one, HC.out]

theorem cut_yes (m : List UInt8) (w : World) (hm : m.length ≤ 1000000000) :
    Calls Tryd.prog 57 #[.string ⟨(45 :: m).toArray⟩, .string ⟨#[45]⟩] w fun e w' => e = .returned (.tuple #[.string ⟨m.toArray⟩, .bool true]) ∧ w = w' := by
  have H : ∀ w, Calls Tryd.prog 80 #[.string ⟨(45 :: m).toArray⟩, .string ⟨#[45]⟩] w fun e w' => e = .returned (.tuple #[.string ⟨m.toArray⟩, .bool true]) ∧ w = w' := by
    intro w
    have hsz : (⟨(45 :: m).toArray⟩ : ByteArray).size = m.length + 1 := rfl
    go_enter Tryd.func80, Tryd.ntmps80
    go_wp2_with fail
    refine (prefix_yes m _ hm).mono ?_; rintro e w' ⟨rfl, rfl⟩
    go_wp2_with fail
    go_ret2
    refine ⟨?_, rfl⟩
    show Ending.returned (.tuple #[.string ((⟨(45 :: m).toArray⟩ : ByteArray).extract 1 (45 :: m).length), .bool true]) = _
    rw [extract_drop]; rfl
  have H' := Lib.hid H
  clear H
  go_enter Tryd.func57, Tryd.ntmps57
  go_wp2_with fail
  refine (H'.out _).mono ?_; rintro e w' ⟨rfl, rfl⟩
  go_wp2_with fail
  go_ret2
  exact ⟨rfl, rfl⟩
theorem cut_no (l : List UInt8) (w : World) (hm : l.length ≤ 1000000000) (h : l.head? ≠ some 45) :
    Calls Tryd.prog 57 #[.string ⟨l.toArray⟩, .string ⟨#[45]⟩] w fun e w' => e = .returned (.tuple #[.string ⟨l.toArray⟩, .bool false]) ∧ w = w' := by
  have HP := Lib.hid (fun w => prefix_no l w hm h)
  clear h
  have H : ∀ w, Calls Tryd.prog 80 #[.string ⟨l.toArray⟩, .string ⟨#[45]⟩] w fun e w' => e = .returned (.tuple #[.string ⟨l.toArray⟩, .bool false]) ∧ w = w' := by
    intro w
    go_enter Tryd.func80, Tryd.ntmps80
    go_wp2_with fail
    refine (HP.out _).mono ?_; rintro e w' ⟨rfl, rfl⟩
    go_wp2_with fail
    go_ret2
    exact ⟨rfl, rfl⟩
  have H' := Lib.hid H
  clear H
  go_enter Tryd.func57, Tryd.ntmps57
  go_wp2_with fail
  refine (H'.out _).mono ?_; rintro e w' ⟨rfl, rfl⟩
  go_wp2_with fail
  go_ret2
  exact ⟨rfl, rfl⟩

/-- The text of some integer of at most 300 digits. -/
def ZNum (l : List UInt8) : Prop := Numeral l ∨ ∃ m, l = 45 :: m ∧ Numeral m ∧ dn m ≠ 0
/-- The integer that a text is. -/
def zn (l : List UInt8) : Int := if l.head? = some 45 then -(dn (l.drop 1) : Int) else (dn l : Int)

theorem num_head {l : List UInt8} (h : Numeral l) : l.head? ≠ some 45 := by
  intro e
  obtain ⟨h1, _, _, h4⟩ := h
  cases l with
  | nil => exact h1 rfl
  | cons c m =>
    injection e with e
    have := h4 c (List.mem_cons_self ..)
    subst e
    simp at this
theorem num_lt {l : List UInt8} (h : Numeral l) : dn l < L32 ^ 34 := by
  have h1 := parse_room h.2.2.2 (Nat.le_refl l.length)
  exact lt_pow_more h1 (by have := h.2.1; omega)

/-- What Parse gives. -/
def Parsed (l : List UInt8) (w : World) (e : Ending) (w' : World) : Prop :=
  ∃ v o, e = .returned (.tuple #[v, .bool o]) ∧ (o = true ↔ ZNum l) ∧ (o = true → CI w' v (zn l) 34) ∧ (o = false → v = .agg #[.bool false, .slice none 0 0]) ∧ Below w.heap.size w w'

set_option maxHeartbeats 2000000 in
theorem wparse_any (l : List UInt8) (w : World) (hm : l.length ≤ 1000000000) :
    Calls Tryd.prog 34 #[.string ⟨l.toArray⟩] w (Parsed l w) := by
  have hW : Below w.heap.size w (w.alloc (.cells #[.bool false, .slice none 0 0] 25)) := (Below.refl _ _).alloc (Nat.le_refl _) _
  by_cases h45 : l.head? = some 45
  · obtain ⟨m, rfl⟩ : ∃ m, l = 45 :: m := by
      cases l with
      | nil => cases h45
      | cons c m => injection h45 with e; exact ⟨m, by rw [e]⟩
    clear h45
    have hm' : m.length ≤ 1000000000 := by simp at hm; omega
    have HZ := Lib.hid (show zn (45 :: m) = sg true (dn m) by simp [zn, sg])
    have HN : Hid (ZNum (45 :: m) ↔ Numeral m ∧ dn m ≠ 0) := Lib.hid ⟨fun h => by
      rcases h with h | ⟨m', e, h⟩
      · exact absurd rfl (num_head h)
      · injection e with _ e; subst e; exact h, fun h => Or.inr ⟨m, rfl, h⟩⟩
    by_cases hnum : Numeral m
    · have hlt := num_lt hnum
      have HNUM := Lib.hid hnum
      clear hnum
      by_cases h0 : dn m = 0
      · have HF := Lib.hid (show ¬ ZNum (45 :: m) by rw [HN.out]; exact fun h => h.2 h0)
        have hl0 : (dig L32 (dn m)).length ≤ 0 := by rw [h0, dig_zero]; exact Nat.le_refl _
        have hd0 : (((dig L32 (dn m)).length : Int) == 0) = true := by rw [beq_iff_eq]; omega
        clear h0
        go_enter Tryd.func34, Tryd.ntmps34
        go_wp2_with fail
        refine (cut_yes m _ hm').mono ?_; rintro e w' ⟨rfl, rfl⟩
        go_wp2_with fail
        refine (parse_true m _ HNUM.out).mono ?_
        rintro e w2 ⟨v2, rfl, s2, hb2⟩
        have hk2 := (hb2.block w.heap.size (by simp)).trans (heap_alloc_new w _)
        have hb2t := hW.trans (hb2.mono (by simp))
        clear hb2
        obtain ⟨vo, vc, rfl⟩ := sl_shape s2
        obtain ⟨q0, q1, f0, f1⟩ := two_cells hk2
        clear hk2
        go_wp2_with fail
        exact bodyPost_ret (v := .tuple #[.agg #[.bool false, .slice none 0 0], .bool false]) (by simp [results, Tryd.results34, go_sem, q0, q1]) rfl ⟨_, false, rfl, by simp [HF.out], (fun e => by cases e), fun _ => rfl, below_setg hb2t (by omega) _ _⟩
      · have HT := Lib.hid (show ZNum (45 :: m) by rw [HN.out]; exact ⟨HNUM.out, h0⟩)
        have hl0 : 0 < (dig L32 (dn m)).length := dig_len_pos (by omega)
        have hd0 : (((dig L32 (dn m)).length : Int) == 0) = false := by rw [beq_eq_false_iff_ne]; omega
        clear h0
        go_enter Tryd.func34, Tryd.ntmps34
        go_wp2_with fail
        refine (cut_yes m _ hm').mono ?_; rintro e w' ⟨rfl, rfl⟩
        go_wp2_with fail
        refine (parse_true m _ HNUM.out).mono ?_
        rintro e w2 ⟨v2, rfl, s2, hb2⟩
        have hk2 := (hb2.block w.heap.size (by simp)).trans (heap_alloc_new w _)
        have hb2t := hW.trans (hb2.mono (by simp))
        clear hb2
        obtain ⟨vo, vc, rfl⟩ := sl_shape s2
        go_wp2_with fail
        refine (signed_any _ _ _ 34 w2 s2 hlt).mono ?_
        rintro e w3 ⟨v3, rfl, c3, hb3⟩
        obtain ⟨bb, bo, bl, bc, rfl⟩ := c3.shape
        have hk3 := (hb3.block _ (lt_of_block hk2)).trans hk2
        have hb3t := hb2t.trans (hb3.mono hb2t.size)
        clear hb3 hk2 hb2t
        obtain ⟨q0, q1, f0, f1⟩ := two_cells hk3
        have HB := Lib.hid hk3
        clear hk3
        rw [← HZ.out] at c3
        go_wp2_with fail
        exact bodyPost_ret (v := .tuple #[.agg #[.bool bb, .slice bo bl bc], .bool true]) (by simp [results, Tryd.results34, go_sem, q0, q1]) rfl ⟨_, true, rfl, by simp [HT.out], fun _ => c3.set2 HB.out _ _, (fun e => by cases e), below_setg hb3t (by omega) _ _⟩
    · have HF := Lib.hid (show ¬ ZNum (45 :: m) by rw [HN.out]; exact fun h => hnum h.1)
      have HP := Lib.hid (fun w => parse_false m w hnum hm')
      clear hnum
      go_enter Tryd.func34, Tryd.ntmps34
      go_wp2_with fail
      refine (cut_yes m _ hm').mono ?_; rintro e w' ⟨rfl, rfl⟩
      go_wp2_with fail
      refine (HP.out _).mono ?_; rintro e w' ⟨rfl, rfl⟩
      go_wp2_with fail
      exact bodyPost_ret (v := .tuple #[.agg #[.bool false, .slice none 0 0], .bool false]) (by simp [results, Tryd.results34, go_sem]) rfl ⟨_, false, rfl, by simp [HF.out], (fun e => by cases e), fun _ => rfl, hW⟩
  · have HZ := Lib.hid (show zn l = sg false (dn l) by simp [zn, sg, h45])
    have HN : Hid (ZNum l ↔ Numeral l) := Lib.hid ⟨fun h => by
      rcases h with h | ⟨m', e, h⟩
      · exact h
      · subst e; exact absurd rfl h45, fun h => Or.inl h⟩
    have HC := Lib.hid (fun w => cut_no l w hm h45)
    clear h45
    by_cases hnum : Numeral l
    · have hlt := num_lt hnum
      have HNUM := Lib.hid hnum
      have HT := Lib.hid (show ZNum l by rw [HN.out]; exact hnum)
      clear hnum
      go_enter Tryd.func34, Tryd.ntmps34
      go_wp2_with fail
      refine (HC.out _).mono ?_; rintro e w' ⟨rfl, rfl⟩
      go_wp2_with fail
      refine (parse_true l _ HNUM.out).mono ?_
      rintro e w2 ⟨v2, rfl, s2, hb2⟩
      have hk2 := (hb2.block w.heap.size (by simp)).trans (heap_alloc_new w _)
      have hb2t := hW.trans (hb2.mono (by simp))
      clear hb2
      obtain ⟨vo, vc, rfl⟩ := sl_shape s2
      go_wp2_with fail
      refine (signed_any _ _ _ 34 w2 s2 hlt).mono ?_
      rintro e w3 ⟨v3, rfl, c3, hb3⟩
      obtain ⟨bb, bo, bl, bc, rfl⟩ := c3.shape
      have hk3 := (hb3.block _ (lt_of_block hk2)).trans hk2
      have hb3t := hb2t.trans (hb3.mono hb2t.size)
      clear hb3 hk2 hb2t
      obtain ⟨q0, q1, f0, f1⟩ := two_cells hk3
      have HB := Lib.hid hk3
      clear hk3
      rw [← HZ.out] at c3
      go_wp2_with fail
      exact bodyPost_ret (v := .tuple #[.agg #[.bool bb, .slice bo bl bc], .bool true]) (by simp [results, Tryd.results34, go_sem, q0, q1]) rfl ⟨_, true, rfl, by simp [HT.out], fun _ => c3.set2 HB.out _ _, (fun e => by cases e), below_setg hb3t (by omega) _ _⟩
    · have HF := Lib.hid (show ¬ ZNum l by rw [HN.out]; exact hnum)
      have HP := Lib.hid (fun w => parse_false l w hnum hm)
      clear hnum
      go_enter Tryd.func34, Tryd.ntmps34
      go_wp2_with fail
      refine (HC.out _).mono ?_; rintro e w' ⟨rfl, rfl⟩
      go_wp2_with fail
      refine (HP.out _).mono ?_; rintro e w' ⟨rfl, rfl⟩
      go_wp2_with fail
      exact bodyPost_ret (v := .tuple #[.agg #[.bool false, .slice none 0 0], .bool false]) (by simp [results, Tryd.results34, go_sem]) rfl ⟨_, false, rfl, by simp [HF.out], (fun e => by cases e), fun _ => rfl, hW⟩
end Go.Proofs.YtbkeildnhimfbaaDoor
