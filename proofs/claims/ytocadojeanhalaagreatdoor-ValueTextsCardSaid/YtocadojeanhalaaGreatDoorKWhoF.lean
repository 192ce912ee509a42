/-
  Joined: WhoE, WhoF.
-/
import Derived.Test.YtocadojeanhalaaGreatDoorKWhoA
import Derived.Test.YtocadojeanhalaaGreatDoorKPar
import Derived.Test.YtocadojeanhalaaGreatDoorRely
/- Contracts of package whole: Text, Parse. -/
namespace Go.Proofs.YtocadojeanhalaaGreatDoor
open Go.RowKit
set_option maxRecDepth 100000

/-- The text of an integer. -/
def zText (z : Int) : List UInt8 := if z < 0 then 45 :: Lib.decDigits z.natAbs else Lib.decDigits z.natAbs

theorem app45 (l : List UInt8) : ((⟨#[45]⟩ : ByteArray) ++ (⟨l.toArray⟩ : ByteArray)) = ⟨(45 :: l).toArray⟩ := by
  apply ByteArray.ext
  simp [ByteArray.data_append]
theorem take_one (c : UInt8) (m : List UInt8) : ((⟨(c :: m).toArray⟩ : ByteArray).extract 0 1).toList = [c] := by
  rw [extract_take, ByteArray.toList_mk]; rfl
theorem dec_len {n k : Nat} (h : n < L32 ^ k) (hk : k ≤ 10000) : (Lib.decDigits n).length ≤ 100001 := by
  have h1 : L32 ^ k ≤ 10 ^ (10 * k) := by rw [Nat.pow_mul]; exact Nat.pow_le_pow_left (by decide) _
  have := decDigits_len (k := 10 * k + 1) (Nat.lt_of_lt_of_le h (Nat.le_trans h1 (Nat.pow_le_pow_right (by decide) (by omega)))) (by omega)
  omega

set_option maxHeartbeats 1000000 in
theorem wtext_any (va : Value) (z : Int) (k : Nat) (w : World) (htab : Lib.TabIs Tryz.prog w "internal/strconv.uint64pow10" .u64 Lib.pow10Tab) (hx : GI w va z k) (hk : k ≤ 10000) :
    Calls Tryz.prog 20 #[va] w fun e w' => e = .returned (.string ⟨(zText z).toArray⟩) ∧ Below w.heap.size w w' := by
  have hgx := hx
  obtain ⟨b, ao, l, c, n, rfl, hg, rfl⟩ := hx.shape
  have hW : Below w.heap.size w (w.alloc (.cells #[.bool b, .slice ao l c] 29)) := (Below.refl _ _).alloc (Nat.le_refl _) _
  have hgn := hg
  obtain ⟨xs, hs, dx, rfl, lx⟩ := hgn
  have HN := Lib.hid (sg_natAbs b (val L32 xs))
  have hdl := dec_len hg.lt hk
  by_cases hz : sg b (val L32 xs) < 0
  · have HS := Lib.hid (show sgnZ (sg b (val L32 xs)) = -1 by unfold sgnZ; rw [if_neg (by omega), if_pos hz])
    have HT := Lib.hid (show zText (sg b (val L32 xs)) = 45 :: Lib.decDigits (val L32 xs) by unfold zText; rw [if_pos hz, HN.out])
    clear hz
    go_enter Tryz.func20, Tryz.ntmps20
    go_wp2_with fail
    refine (wsign_any _ _ k _ (hgx.alloc _) (by omega)).mono ?_
    rintro e w2 ⟨rfl, hb2⟩
    have hk2 := (hb2.block w.heap.size (by simp)).trans (heap_alloc_new w _)
    have hb2t := hW.trans (hb2.mono (by simp))
    clear hb2
    obtain ⟨kc0, kc1, _, _⟩ := two_cells hk2
    clear hk2
    rw [HS.out]
    go_wp2_with fail
    refine (text_any _ xs w2 (tab_below htab hb2t) (hs.below hb2t) dx (by omega)).mono ?_
    rintro e w4 ⟨rfl, hb4⟩
    have hb4t := hb2t.trans (hb4.mono hb2t.size)
    go_wp2_with fail
    go_ret
    exact ⟨by rw [HT.out, ← app45]; rfl, hb4t⟩
  · have HS := Lib.hid (show (0 : Int) ≤ sgnZ (sg b (val L32 xs)) by unfold sgnZ; rw [if_neg hz]; split <;> omega)
    have HT := Lib.hid (show zText (sg b (val L32 xs)) = Lib.decDigits (val L32 xs) by unfold zText; rw [if_neg hz, HN.out])
    clear hz
    have h0 := HS.out
    go_enter Tryz.func20, Tryz.ntmps20
    go_wp2_with fail
    refine (wsign_any _ _ k _ (hgx.alloc _) (by omega)).mono ?_
    rintro e w2 ⟨rfl, hb2⟩
    have hk2 := (hb2.block w.heap.size (by simp)).trans (heap_alloc_new w _)
    have hb2t := hW.trans (hb2.mono (by simp))
    clear hb2
    obtain ⟨kc0, kc1, _, _⟩ := two_cells hk2
    clear hk2
    go_wp2_with fail
    refine (text_any _ xs w2 (tab_below htab hb2t) (hs.below hb2t) dx (by omega)).mono ?_
    rintro e w4 ⟨rfl, hb4⟩
    have hb4t := hb2t.trans (hb4.mono hb2t.size)
    go_wp2_with fail
    go_ret
    exact ⟨by rw [HT.out]; rfl, hb4t⟩

theorem prefix_yes (m : List UInt8) (w : World) (hm : m.length ≤ 1000000000) :
    Calls Tryz.prog 52 #[.string ⟨(45 :: m).toArray⟩, .string ⟨#[45]⟩] w fun e w' => e = .returned (.bool true) ∧ w = w' := by
  go_enter Tryz.func52, Tryz.ntmps52
  go_wp2
  go_ret
  refine ⟨?_, rfl⟩
  show Ending.returned (.bool (((⟨(45 :: m).toArray⟩ : ByteArray).extract 0 1).toList == [45])) = _
  rw [take_one]; rfl
theorem prefix_no (l : List UInt8) (w : World) (hm : l.length ≤ 1000000000) (h : l.head? ≠ some 45) :
    Calls Tryz.prog 52 #[.string ⟨l.toArray⟩, .string ⟨#[45]⟩] w fun e w' => e = .returned (.bool false) ∧ w = w' := by
  cases l with
  | nil =>
    clear h
    go_enter Tryz.func52, Tryz.ntmps52
    go_wp2
    go_ret
    exact ⟨rfl, rfl⟩
  | cons c m =>
    have HC := Lib.hid (show (([c] : List UInt8) == [45]) = false by
      rw [beq_eq_false_iff_ne]; intro e; exact h (by injection e with e; rw [e]; rfl))
    clear h
    go_enter Tryz.func52, Tryz.ntmps52
    go_wp2
    go_ret
    refine ⟨?_, rfl⟩
    show Ending.returned (.bool (((⟨(c :: m).toArray⟩ : ByteArray).extract 0 1).toList == [45])) = _
    rw [take_one, HC.out]

theorem cut_yes (m : List UInt8) (w : World) (hm : m.length ≤ 1000000000) :
    Calls Tryz.prog 17 #[.string ⟨(45 :: m).toArray⟩, .string ⟨#[45]⟩] w fun e w' => e = .returned (.tuple #[.string ⟨m.toArray⟩, .bool true]) ∧ w = w' := by
  have H : ∀ w, Calls Tryz.prog 35 #[.string ⟨(45 :: m).toArray⟩, .string ⟨#[45]⟩] w fun e w' => e = .returned (.tuple #[.string ⟨m.toArray⟩, .bool true]) ∧ w = w' := by
    intro w
    have hsz : (⟨(45 :: m).toArray⟩ : ByteArray).size = m.length + 1 := rfl
    go_enter Tryz.func35, Tryz.ntmps35
    go_wp2_with fail
    refine (prefix_yes m _ hm).mono ?_; rintro e w' ⟨rfl, rfl⟩
    go_wp2_with fail
    go_ret2
    refine ⟨?_, rfl⟩
    show Ending.returned (.tuple #[.string ((⟨(45 :: m).toArray⟩ : ByteArray).extract 1 (45 :: m).length), .bool true]) = _
    rw [extract_drop]; rfl
  have H' := Lib.hid H
  clear H
  go_enter Tryz.func17, Tryz.ntmps17
  go_wp2_with fail
  refine (H'.out _).mono ?_; rintro e w' ⟨rfl, rfl⟩
  go_wp2_with fail
  go_ret2
  exact ⟨rfl, rfl⟩
theorem cut_no (l : List UInt8) (w : World) (hm : l.length ≤ 1000000000) (h : l.head? ≠ some 45) :
    Calls Tryz.prog 17 #[.string ⟨l.toArray⟩, .string ⟨#[45]⟩] w fun e w' => e = .returned (.tuple #[.string ⟨l.toArray⟩, .bool false]) ∧ w = w' := by
  have HP := Lib.hid (fun w => prefix_no l w hm h)
  clear h
  have H : ∀ w, Calls Tryz.prog 35 #[.string ⟨l.toArray⟩, .string ⟨#[45]⟩] w fun e w' => e = .returned (.tuple #[.string ⟨l.toArray⟩, .bool false]) ∧ w = w' := by
    intro w
    go_enter Tryz.func35, Tryz.ntmps35
    go_wp2_with fail
    refine (HP.out _).mono ?_; rintro e w' ⟨rfl, rfl⟩
    go_wp2_with fail
    go_ret2
    exact ⟨rfl, rfl⟩
  have H' := Lib.hid H
  clear H
  go_enter Tryz.func17, Tryz.ntmps17
  go_wp2_with fail
  refine (H'.out _).mono ?_; rintro e w' ⟨rfl, rfl⟩
  go_wp2_with fail
  go_ret2
  exact ⟨rfl, rfl⟩

/-- The text of some integer of at most 300 digits. -/
def ZNum (l : List UInt8) : Prop := Numeral l ∨ ∃ m, l = 45 :: m ∧ Numeral m ∧ dn m ≠ 0
/-- The integer that a text is. -/
def zn (l : List UInt8) : Int := if l.head? = some 45 then -(dn (l.drop 1) : Int) else (dn l : Int)

theorem num_head {l : List UInt8} (h : Numeral l) : l.head? ≠ some 45 := by
  intro e
  obtain ⟨h1, _, _, h4⟩ := h
  cases l with
  | nil => exact h1 rfl
  | cons c m =>
    injection e with e
    have := h4 c (List.mem_cons_self ..)
    subst e
    simp at this
theorem num_lt {l : List UInt8} (h : Numeral l) : dn l < L32 ^ 34 := by
  have h1 := parse_room h.2.2.2 (Nat.le_refl l.length)
  exact lt_pow_more h1 (by have := h.2.1; omega)

/-- What Parse gives. -/
def Parsed (l : List UInt8) (w : World) (e : Ending) (w' : World) : Prop :=
  ∃ v o, e = .returned (.tuple #[v, .bool o]) ∧ (o = true ↔ ZNum l) ∧ (o = true → CI w' v (zn l) 34) ∧ (o = false → v = .agg #[.bool false, .slice none 0 0]) ∧ Below w.heap.size w w'

set_option maxHeartbeats 2000000 in
theorem wparse_any (l : List UInt8) (w : World) (hm : l.length ≤ 1000000000) :
    Calls Tryz.prog 19 #[.string ⟨l.toArray⟩] w (Parsed l w) := by
  have hW : Below w.heap.size w (w.alloc (.cells #[.bool false, .slice none 0 0] 29)) := (Below.refl _ _).alloc (Nat.le_refl _) _
  by_cases h45 : l.head? = some 45
  · obtain ⟨m, rfl⟩ : ∃ m, l = 45 :: m := by
      cases l with
      | nil => cases h45
      | cons c m => injection h45 with e; exact ⟨m, by rw [e]⟩
    clear h45
    have hm' : m.length ≤ 1000000000 := by simp at hm; omega
    have HZ := Lib.hid (show zn (45 :: m) = sg true (dn m) by simp [zn, sg])
    have HN : Hid (ZNum (45 :: m) ↔ Numeral m ∧ dn m ≠ 0) := Lib.hid ⟨fun h => by
      rcases h with h | ⟨m', e, h⟩
      · exact absurd rfl (num_head h)
      · injection e with _ e; subst e; exact h, fun h => Or.inr ⟨m, rfl, h⟩⟩
    by_cases hnum : Numeral m
    · have hlt := num_lt hnum
      have HNUM := Lib.hid hnum
      clear hnum
      by_cases h0 : dn m = 0
      · have HF := Lib.hid (show ¬ ZNum (45 :: m) by rw [HN.out]; exact fun h => h.2 h0)
        have hl0 : (dig L32 (dn m)).length ≤ 0 := by rw [h0, dig_zero]; exact Nat.le_refl _
        have hd0 : (((dig L32 (dn m)).length : Int) == 0) = true := by rw [beq_iff_eq]; omega
        clear h0
        go_enter Tryz.func19, Tryz.ntmps19
        go_wp2_with fail
        refine (cut_yes m _ hm').mono ?_; rintro e w' ⟨rfl, rfl⟩
        go_wp2_with fail
        refine (parse_true m _ HNUM.out).mono ?_
        rintro e w2 ⟨v2, rfl, s2, hb2⟩
        have hk2 := (hb2.block w.heap.size (by simp)).trans (heap_alloc_new w _)
        have hb2t := hW.trans (hb2.mono (by simp))
        clear hb2
        obtain ⟨vo, vc, rfl⟩ := sl_shape s2
        obtain ⟨q0, q1, f0, f1⟩ := two_cells hk2
        clear hk2
        go_wp2_with fail
        exact bodyPost_ret (v := .tuple #[.agg #[.bool false, .slice none 0 0], .bool false]) (by simp [results, Tryz.results19, go_sem, q0, q1]) rfl ⟨_, false, rfl, by simp [HF.out], (fun e => by cases e), fun _ => rfl, below_setg hb2t (by omega) _ _⟩
      · have HT := Lib.hid (show ZNum (45 :: m) by rw [HN.out]; exact ⟨HNUM.out, h0⟩)
        have hl0 : 0 < (dig L32 (dn m)).length := dig_len_pos (by omega)
        have hd0 : (((dig L32 (dn m)).length : Int) == 0) = false := by rw [beq_eq_false_iff_ne]; omega
        clear h0
        go_enter Tryz.func19, Tryz.ntmps19
        go_wp2_with fail
        refine (cut_yes m _ hm').mono ?_; rintro e w' ⟨rfl, rfl⟩
        go_wp2_with fail
        refine (parse_true m _ HNUM.out).mono ?_
        rintro e w2 ⟨v2, rfl, s2, hb2⟩
        have hk2 := (hb2.block w.heap.size (by simp)).trans (heap_alloc_new w _)
        have hb2t := hW.trans (hb2.mono (by simp))
        clear hb2
        obtain ⟨vo, vc, rfl⟩ := sl_shape s2
        go_wp2_with fail
        refine (signed_any _ _ _ 34 w2 s2 hlt).mono ?_
        rintro e w3 ⟨v3, rfl, c3, hb3⟩
        obtain ⟨bb, bo, bl, bc, rfl⟩ := c3.shape
        have hk3 := (hb3.block _ (lt_of_block hk2)).trans hk2
        have hb3t := hb2t.trans (hb3.mono hb2t.size)
        clear hb3 hk2 hb2t
        obtain ⟨q0, q1, f0, f1⟩ := two_cells hk3
        have HB := Lib.hid hk3
        clear hk3
        rw [← HZ.out] at c3
        go_wp2_with fail
        exact bodyPost_ret (v := .tuple #[.agg #[.bool bb, .slice bo bl bc], .bool true]) (by simp [results, Tryz.results19, go_sem, q0, q1]) rfl ⟨_, true, rfl, by simp [HT.out], fun _ => c3.set2 HB.out _ _, (fun e => by cases e), below_setg hb3t (by omega) _ _⟩
    · have HF := Lib.hid (show ¬ ZNum (45 :: m) by rw [HN.out]; exact fun h => hnum h.1)
      have HP := Lib.hid (fun w => parse_false m w hnum hm')
      clear hnum
      go_enter Tryz.func19, Tryz.ntmps19
      go_wp2_with fail
      refine (cut_yes m _ hm').mono ?_; rintro e w' ⟨rfl, rfl⟩
      go_wp2_with fail
      refine (HP.out _).mono ?_; rintro e w' ⟨rfl, rfl⟩
      go_wp2_with fail
      exact bodyPost_ret (v := .tuple #[.agg #[.bool false, .slice none 0 0], .bool false]) (by simp [results, Tryz.results19, go_sem]) rfl ⟨_, false, rfl, by simp [HF.out], (fun e => by cases e), fun _ => rfl, hW⟩
  · have HZ := Lib.hid (show zn l = sg false (dn l) by simp [zn, sg, h45])
    have HN : Hid (ZNum l ↔ Numeral l) := Lib.hid ⟨fun h => by
      rcases h with h | ⟨m', e, h⟩
      · exact h
      · subst e; exact absurd rfl h45, fun h => Or.inl h⟩
    have HC := Lib.hid (fun w => cut_no l w hm h45)
    clear h45
    by_cases hnum : Numeral l
    · have hlt := num_lt hnum
      have HNUM := Lib.hid hnum
      have HT := Lib.hid (show ZNum l by rw [HN.out]; exact hnum)
      clear hnum
      go_enter Tryz.func19, Tryz.ntmps19
      go_wp2_with fail
      refine (HC.out _).mono ?_; rintro e w' ⟨rfl, rfl⟩
      go_wp2_with fail
      refine (parse_true l _ HNUM.out).mono ?_
      rintro e w2 ⟨v2, rfl, s2, hb2⟩
      have hk2 := (hb2.block w.heap.size (by simp)).trans (heap_alloc_new w _)
      have hb2t := hW.trans (hb2.mono (by simp))
      clear hb2
      obtain ⟨vo, vc, rfl⟩ := sl_shape s2
      go_wp2_with fail
      refine (signed_any _ _ _ 34 w2 s2 hlt).mono ?_
      rintro e w3 ⟨v3, rfl, c3, hb3⟩
      obtain ⟨bb, bo, bl, bc, rfl⟩ := c3.shape
      have hk3 := (hb3.block _ (lt_of_block hk2)).trans hk2
      have hb3t := hb2t.trans (hb3.mono hb2t.size)
      clear hb3 hk2 hb2t
      obtain ⟨q0, q1, f0, f1⟩ := two_cells hk3
      have HB := Lib.hid hk3
      clear hk3
      rw [← HZ.out] at c3
      go_wp2_with fail
      exact bodyPost_ret (v := .tuple #[.agg #[.bool bb, .slice bo bl bc], .bool true]) (by simp [results, Tryz.results19, go_sem, q0, q1]) rfl ⟨_, true, rfl, by simp [HT.out], fun _ => c3.set2 HB.out _ _, (fun e => by cases e), below_setg hb3t (by omega) _ _⟩
    · have HF := Lib.hid (show ¬ ZNum l by rw [HN.out]; exact hnum)
      have HP := Lib.hid (fun w => parse_false l w hnum hm)
      clear hnum
      go_enter Tryz.func19, Tryz.ntmps19
      go_wp2_with fail
      refine (HC.out _).mono ?_; rintro e w' ⟨rfl, rfl⟩
      go_wp2_with fail
      refine (HP.out _).mono ?_; rintro e w' ⟨rfl, rfl⟩
      go_wp2_with fail
      exact bodyPost_ret (v := .tuple #[.agg #[.bool false, .slice none 0 0], .bool false]) (by simp [results, Tryz.results19, go_sem]) rfl ⟨_, false, rfl, by simp [HF.out], (fun e => by cases e), fun _ => rfl, hW⟩
end Go.Proofs.YtocadojeanhalaaGreatDoor

/- Contracts of package whole: Div. -/
namespace Go.Proofs.YtocadojeanhalaaGreatDoor
open Go.RowKit
set_option maxRecDepth 100000

theorem blocks4 {w w1 : World} {T1 T2 T3 T4 : TypeId} {c1 c2 c3 c4 : Array Value} (hb : Below (w.heap.size + 4) ((((w.alloc (.cells c1 T1)).alloc (.cells c2 T2)).alloc (.cells c3 T3)).alloc (.cells c4 T4)) w1) :
    w1.heap[w.heap.size]? = some (.cells c1 T1 (0, 0)) ∧ w1.heap[w.heap.size + 1]? = some (.cells c2 T2 (0, 0)) ∧ w1.heap[w.heap.size + 2]? = some (.cells c3 T3 (0, 0)) ∧ w1.heap[w.heap.size + 3]? = some (.cells c4 T4 (0, 0)) := by
  have h1 := heap_alloc_new (((w.alloc (.cells c1 T1)).alloc (.cells c2 T2)).alloc (.cells c3 T3)) (.cells c4 T4)
  obtain ⟨a, b, c⟩ := blocks3 (Below.refl (w.heap.size + 3) (((w.alloc (.cells c1 T1)).alloc (.cells c2 T2)).alloc (.cells c3 T3)))
  refine ⟨(hb.block _ (by omega)).trans ?_, (hb.block _ (by omega)).trans ?_, (hb.block _ (by omega)).trans ?_, (hb.block _ (by omega)).trans (by simpa using h1)⟩
  · rw [Below.heap_alloc _ _ _ (by simp; omega)]; exact a
  · rw [Below.heap_alloc _ _ _ (by simp)]; exact b
  · rw [Below.heap_alloc _ _ _ (by simp)]; exact c
theorem below4 (w : World) (o1 o2 o3 o4 : Obj) : Below w.heap.size w ((((w.alloc o1).alloc o2).alloc o3).alloc o4) := (below3 w o1 o2 o3).alloc (by simp; omega) _

/-- The blocks of a division's call: the two arguments' boxes and the two results'. -/
def Four (w' : World) (g : Nat) (T : TypeId) (b : Bool) (s : Value) (d : Bool) (t : Value) : Prop :=
  w'.heap[g]? = some (.cells #[.bool b, s] T (0, 0)) ∧ w'.heap[g + 1]? = some (.cells #[.bool d, t] T (0, 0)) ∧
  w'.heap[g + 2]? = some (.cells #[.bool false, .slice none 0 0] T (0, 0)) ∧ w'.heap[g + 3]? = some (.cells #[.bool false, .slice none 0 0] T (0, 0))
theorem Four.below {w w' : World} {g : Nat} {T : TypeId} {b : Bool} {s : Value} {d : Bool} {t : Value} (h : Four w g T b s d t) (hb : Below w.heap.size w w') : Four w' g T b s d t :=
  ⟨(hb.block _ (lt_of_block h.1)).trans h.1, (hb.block _ (lt_of_block h.2.1)).trans h.2.1, (hb.block _ (lt_of_block h.2.2.1)).trans h.2.2.1, (hb.block _ (lt_of_block h.2.2.2)).trans h.2.2.2⟩

/-- Two results stored, one behind the other. -/
theorem CI.set4 {w : World} {v : Value} {z : Int} {k : Nat} (h : CI w v z k) {g g' : Nat} {T : TypeId} {b0 b1 : Bool} {a0 a1 : Option Addr} {n0 c0 n1 c1 : Nat} (hne : g ≠ g') (hB : w.heap[g]? = some (.cells #[.bool b0, .slice a0 n0 c0] T (0, 0))) (hC : w.heap[g']? = some (.cells #[.bool b1, .slice a1 n1 c1] T (0, 0))) (x y x' y' : Value) :
    CI ((((w.setCell ⟨g, 0, none⟩ x).setCell ⟨g, 1, none⟩ y).setCell ⟨g', 0, none⟩ x').setCell ⟨g', 1, none⟩ y') v z k := by
  refine (h.set2 hB x y).set2 (b0 := b1) (a0 := a1) (n0 := n1) (c0 := c1) (T := T) ?_ x' y'
  rw [Below.heap_setCell _ _ _ _ (fun e => hne e.symm), Below.heap_setCell _ _ _ _ (fun e => hne e.symm)]
  exact hC

theorem Sl.drew {w : World} {k : IntKind} {v : Value} {xs : List Nat} (h : Sl w k v xs) : Sl w.drew k v xs := h
theorem sg_div {b d : Bool} {m n : Nat} (hn : 0 < n) (h : b = d ∨ m % n = 0) : Int.fdiv (sg b m) (sg d n) = sg (b != d) (m / n) ∧ Int.fmod (sg b m) (sg d n) = sg d (m % n) := by
  have hd := Nat.div_add_mod m n
  have hl := Nat.mod_lt m hn
  generalize m / n = q at *
  generalize m % n = r at *
  have hdz : (n : Int) * q + r = m := by exact_mod_cast hd
  cases d
  · have hp : sg false n > 0 := by simp [sg]; omega
    refine (Int.fdiv_fmod_unique hp).2 ?_
    cases b <;> simp [sg, Int.mul_neg] at * <;> (try subst h) <;> omega
  · have hp : sg true n < 0 := by simp [sg]; omega
    refine (Int.fdiv_fmod_unique' hp).2 ?_
    cases b <;> simp [sg, Int.neg_mul, Int.mul_neg] at * <;> (try subst h) <;> omega
theorem sg_div2 {b d : Bool} {m n : Nat} (hn : 0 < n) (h : b ≠ d) (hr : 0 < m % n) : Int.fdiv (sg b m) (sg d n) = sg (b != d) (m / n + 1) ∧ Int.fmod (sg b m) (sg d n) = sg d (n - m % n) := by
  have hd := Nat.div_add_mod m n
  have hl := Nat.mod_lt m hn
  generalize m / n = q at *
  generalize m % n = r at *
  have hdz : (n : Int) * q + r = m := by exact_mod_cast hd
  cases d
  · have hp : sg false n > 0 := by simp [sg]; omega
    refine (Int.fdiv_fmod_unique hp).2 ?_
    cases b <;> simp [sg, Int.mul_neg, Int.mul_add] at * <;> omega
  · have hp : sg true n < 0 := by simp [sg]; omega
    refine (Int.fdiv_fmod_unique' hp).2 ?_
    cases b <;> simp [sg, Int.neg_mul, Int.mul_neg, Int.mul_add] at * <;> omega

end Go.Proofs.YtocadojeanhalaaGreatDoor
