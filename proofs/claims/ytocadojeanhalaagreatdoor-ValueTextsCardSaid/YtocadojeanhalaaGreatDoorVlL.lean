/-
  The text of a value.
-/
import Derived.Test.YtocadojeanhalaaGreatDoorVlK
namespace Go.Proofs.YtocadojeanhalaaGreatDoor
open Go.RowKit
set_option maxRecDepth 100000
set_option linter.unusedVariables false
set_option linter.unusedSimpArgs false

theorem join_p (ko : Option Addr) (n kc : Nat) (ts : List (List UInt8)) (w : World) (h : tE.At w (.slice ko n kc) ts) (hlen : ts.length ≤ 100000) (hl : lens ts ≤ 300000) :
    Calls Tryz.prog 40 #[.slice ko n kc, .string ⟨#[44, 32]⟩] w fun e w' => e = .returned (.string ⟨(joinB ts).toArray⟩) ∧ Below w.heap.size w w' := by
  match ts, h with
  | [], h => obtain ⟨⟨hn, _⟩, _⟩ := TX.cells h; simp at hn; subst hn; exact join_none w kc ko
  | [x], h =>
    obtain ⟨⟨hn, hk, _⟩, hc⟩ := TX.cells h
    obtain ⟨a, rfl, c0⟩ := hc 0 (by simp)
    simp at hn
    subst hn
    have := join_one w kc a _ hk c0
    simpa [joinB] using this
  | x :: y :: r, h =>
    obtain ⟨_, hc⟩ := TX.cells h
    obtain ⟨a, rfl, c0⟩ := hc 0 (by simp)
    exact join_many a n kc x (y :: r) w h (by simp) (by simp at hlen ⊢; omega) hl
theorem zt_lenk {z : Int} {k : Nat} (h : z.natAbs < L32 ^ k) : (zText z).length ≤ 10 * k + 2 := by
  have h1 : L32 ^ k ≤ 10 ^ (10 * k) := by rw [Nat.pow_mul]; exact Nat.pow_le_pow_left (by decide) _
  have := decDigits_len (k := 10 * k + 1) (Nat.lt_of_lt_of_le h (Nat.le_trans h1 (Nat.pow_le_pow_right (by decide) (by omega)))) (by omega)
  unfold zText
  split
  · simp; omega
  · omega
theorem zt_len {z : Int} (h : z.natAbs < L32 ^ 40) : (zText z).length ≤ 402 := zt_lenk h
theorem tE_zero : tE.f [] = tE.z.cells.toList := by rfl
theorem lens_texts {zs : List Int} (h : ∀ z ∈ zs, z.natAbs < L32 ^ 40) : lens (zs.map zText) ≤ 402 * zs.length := by
  induction zs with
  | nil => simp [lens]
  | cons a l ih =>
    have h1 := ih (fun z hz => h z (List.mem_cons_of_mem _ hz))
    have h2 := zt_len (h a (List.mem_cons_self ..))
    simp only [lens, List.map_cons, List.sum_cons, List.length_cons] at *
    omega
theorem NL.lt {w : World} {v : Value} {zs : List Int} (h : NL w v zs) : ∀ z ∈ zs, z.natAbs < L32 ^ 40 := by
  intro z hz
  obtain ⟨ko, kc, rfl, _⟩ := h.form
  obtain ⟨i, hi, rfl⟩ := List.getElem_of_mem hz
  obtain ⟨_, _, _, _, _, _, _, hc⟩ := h.cells.2 i hi
  exact hc.lt
def vText : V → List UInt8
  | .I z => zText z
  | .B true => [116, 114, 117, 101]
  | .B false => [102, 97, 108, 115, 101]
  | .L l => 91 :: (joinB (l.map zText) ++ [93])
theorem take_set_text {el : List (List UInt8)} {zs : List Int} {j : Nat} {t : List UInt8} (h : el.take j = (zs.take j).map zText) (hj : j < el.length) (hz : j < zs.length) (ht : t = zText zs[j]) : (el.set j t).take (j + 1) = (zs.take (j + 1)).map zText := by
  rw [List.take_succ_eq_append_getElem (by simpa using hj), List.take_set_of_le (Nat.le_refl _), List.getElem_set_self, h, List.take_succ_eq_append_getElem hz, List.map_append, ht]; rfl
/-- The head of listText's loop. -/
def LTrel (w : World) (k2 n : Nat) (zs : List Int) (i : Value) (wr : World) : Prop :=
  ∃ (j : Nat) (el : List (List UInt8)), i = .int .i64 (j : Nat) ∧ j ≤ n ∧ Hid (el.length = n ∧ el.take j = (zs.take j).map zText) ∧ Hid (tE.Row wr w.heap.size (.slice (some ⟨k2, 0, none⟩) n n) el) ∧ Hid (Below w.heap.size w wr)
theorem brackets (l : List UInt8) : ((⟨#[91]⟩ : ByteArray) ++ (⟨l.toArray⟩ : ByteArray)) ++ (⟨#[93]⟩ : ByteArray) = ⟨(91 :: (l ++ [93])).toArray⟩ := by
  apply ByteArray.ext
  simp [ByteArray.data_append]
set_option maxHeartbeats 4000000 in
theorem listText_p (va : Value) (zs : List Int) (w : World) (htab : Lib.TabIs Tryz.prog w "internal/strconv.uint64pow10" .u64 Lib.pow10Tab) (hx : NL w va zs) (hlen : zs.length ≤ 700) :
    Calls Tryz.prog 21 #[va] w fun e w' => e = .returned (.string ⟨(vText (.L zs)).toArray⟩) ∧ Below w.heap.size w w' := by
  obtain ⟨ko, kc, rfl, ⟨hq1, hq2⟩, -⟩ := hx.form
  have HX := Lib.hid hx
  have HTB := Lib.hid htab
  clear hx htab
  obtain ⟨n, hn⟩ : ∃ n, n = zs.length := ⟨_, rfl⟩
  rw [← hn] at hlen hq1 HX ⊢
  have hmx : kc ≤ 9223372036854775807 := hq2
  have HN := Lib.hid hn
  clear hn
  obtain ⟨k2, hk2⟩ : ∃ k, w.heap.size = k := ⟨_, rfl⟩
  go_enter Tryz.func21, Tryz.ntmps21
  go_wp2_with (first | (at_make; refine wpList_make_El tE [] tE_zero (fun _ => trivial) _ rfl _ _ rfl w.heap.size _ _ _ _ n rfl rfl (by first | rfl | simp) (by first | rfl | simp) (by omega) (Nat.le_refl _) ?_; intro y2 hrow hb2) | fail)
  rw [hk2] at hrow
  have HR := Lib.hid (show tE.Row y2 w.heap.size (.slice (some ⟨k2, 0, none⟩) n n) (List.replicate n []) by rw [hk2]; exact hrow)
  have HW := Lib.hid hb2
  clear hrow hb2
  go_loopw [11] (LTrel w k2 n zs) (fun i _ => n - (intOf i).toNat)
  case atStart => exact ⟨0, _, rfl, Nat.zero_le _, Lib.hid ⟨List.length_replicate, rfl⟩, HR, HW⟩
  case round =>
    clear HR HW
    obtain ⟨j, el, rfl, hj, HE, HR, HW⟩ := hrel
    by_cases hlt : j < n
    · have hz : j < zs.length := by rw [← HN.out]; exact hlt
      obtain ⟨a, o, l, c, rfl, c0, c1, hc⟩ := (HX.out.below HW.out).cells.2 j hz
      obtain ⟨z, hzz⟩ : ∃ z, z = zs[j] := ⟨_, rfl⟩
      rw [← hzz] at c0 hc
      have HZ := Lib.hid hzz
      have HC := Lib.hid hc
      obtain ⟨sz, hsz⟩ : ∃ s, s = decide (z < 0) := ⟨_, rfl⟩
      rw [← hsz] at c0 HC
      clear hzz hc hsz
      obtain ⟨x1, k5, e5, ek5, hb5, hk5, HB5⟩ := newV wr #[.bool sz, .slice o l c] 29
      replace HC := Lib.hid (HC.out.below hb5.out)
      replace HR := Lib.hid (HR.out.below hb5.out)
      replace HW := Lib.hid (HW.out.trans (hb5.out.mono HW.out.size))
      have g0 := cell_at (v := .bool sz) HB5.out 0 rfl
      have fg0 := froz_at HB5.out 0
      have g1 := cell_at (v := .slice o l c) HB5.out 1 rfl
      have fg1 := froz_at HB5.out 1
      go_wp2_with fail
      refine (wtext_any _ z 40 x1 (tab_below HTB.out HW.out) HC.out.gi (by decide)).mono ?_
      rintro e x2 ⟨rfl, hb⟩
      clear g0 fg0 g1 fg1
      replace HB5 := kBV hb HB5
      replace HC := Lib.hid (HC.out.below hb)
      replace HR := Lib.hid (HR.out.below hb)
      replace HW := Lib.hid (HW.out.trans (hb.mono HW.out.size))
      clear hb
      have hel := HE.out.1
      have HEL := Lib.hid hel
      obtain ⟨q, g0, g1⟩ := Row.at1 HR.out hel.symm hlt
      clear hel
      go_wp2_with fail
      go_roundw
      case rel =>
        obtain ⟨r1, r2⟩ := Row.set1 HR.out j (by rw [HEL.out]; exact hlt) HEL.out.symm (zText z)
        exact ⟨j + 1, el.set j (zText z), by go_num, hlt, Lib.hid ⟨by rw [List.length_set]; exact HEL.out, take_set_text HE.out.2 (by rw [HEL.out]; exact hlt) hz (by rw [HZ.out])⟩, Lib.hid r1, Lib.hid (HW.out.trans ((grown_belowV r2 HW.out.size (Nat.le_of_eq hk2)).mono (Nat.le_refl _)))⟩
      case measure => simp [intOf]; omega
    · have e : j = n := by omega
      subst e
      clear hlt
      have hel : el = zs.map zText := by have e := HE.out.2; rwa [← HE.out.1, List.take_length, HE.out.1, HN.out, List.take_length] at e
      have hl1 := lens_texts HX.out.lt
      have HAT := Lib.hid (HR.out.at)
      rw [hel] at HAT
      have HLT := Lib.hid hl1
      have hjl : (joinB (zs.map zText)).length ≤ 300000 := by
        have h1 : ∀ r : List (List UInt8), (r.flatMap (fun t => sep ++ t)).length ≤ lens r + 2 * r.length := fun r => by have := sep_len r r.length; rwa [List.take_length] at this
        rcases hzz : zs.map zText with _ | ⟨x, r⟩
        · simp [joinB]
        · have h2 := h1 r
          have h3 : x.length + lens r = lens (zs.map zText) := by rw [hzz]; simp [lens]
          have h4 : r.length + 1 = zs.length := by have := congrArg List.length hzz; simp at this; omega
          have := HN.out
          simp only [joinB, List.length_append]; omega
      clear hel hl1
      go_wp2_with fail
      refine (join_p _ _ _ (zs.map zText) wr HAT.out (by rw [List.length_map, ← HN.out]; omega) (by have := HLT.out; have := HN.out; omega)).mono ?_
      rintro e w3 ⟨rfl, hb⟩
      replace HW := Lib.hid (HW.out.trans (hb.mono HW.out.size))
      clear hb
      obtain ⟨J, hJ⟩ : ∃ J, J = joinB (zs.map zText) := ⟨_, rfl⟩
      rw [← hJ] at hjl
      rw [← hJ]
      have HJ := Lib.hid hJ
      have hsJ : (⟨J.toArray⟩ : ByteArray).size = J.length := rfl
      clear hJ
      go_wp2_with fail
      go_ret
      refine ⟨?_, HW.out⟩
      exact congrArg (fun s => Ending.returned (Value.string s)) (by rw [brackets, HJ.out]; rfl)
set_option maxHeartbeats 4000000 in
theorem text_p (va : Value) (x : V) (w : World) (htab : Lib.TabIs Tryz.prog w "internal/strconv.uint64pow10" .u64 Lib.pow10Tab) (h1 : VC w va x) (hl : ∀ l, x = .L l → l.length ≤ 700) :
    Calls Tryz.prog 7 #[va] w fun e w' => e = .returned (.string ⟨(vText x).toArray⟩) ∧ Below w.heap.size w w' := by
  have HTB := Lib.hid htab
  have HW := Lib.hid (Below.refl w.heap.size w)
  clear htab
  rcases vc_cases h1 with ⟨z, o, l, c, rfl, rfl, hx⟩ | ⟨b, rfl, rfl⟩ | ⟨zs, o, n, c, rfl, rfl, hx⟩
  · clear h1
    have HX := Lib.hid hx
    clear hx
    go_enter Tryz.func7, Tryz.ntmps7
    obtain ⟨x1, k1, e1, ek1, hb1, hk1, HB1⟩ := newV w #[.int .i64 0, .bool (decide (z < 0)), .slice o l c, .bool false, .slice none 0 0] 32
    replace HW := Lib.hid (HW.out.trans (hb1.out.mono HW.out.size))
    replace HX := Lib.hid (HX.out.below hb1.out)
    have c0 := cell_at (v := .int .i64 0) HB1.out 0 rfl
    have fc0 := froz_at HB1.out 0
    have c1 := cell_at (v := .bool (decide (z < 0))) HB1.out 1 rfl
    have fc1 := froz_at HB1.out 1
    have c2 := cell_at (v := .slice o l c) HB1.out 2 rfl
    have fc2 := froz_at HB1.out 2
    have c3 := cell_at (v := .bool false) HB1.out 3 rfl
    have fc3 := froz_at HB1.out 3
    have c4 := cell_at (v := .slice none 0 0) HB1.out 4 rfl
    have fc4 := froz_at HB1.out 4
    go_wp2_with fail
    refine (wtext_any _ z 40 x1 (tab_below HTB.out HW.out) HX.out.gi (by decide)).mono ?_
    rintro e x2 ⟨rfl, hb⟩
    clear c0 fc0 c1 fc1 c2 fc2 c3 fc3 c4 fc4
    replace HB1 := kBV hb HB1
    replace HW := Lib.hid (HW.out.trans (hb.mono HW.out.size))
    replace HX := Lib.hid (HX.out.below hb)
    go_wp2_with fail
    go_ret
    exact ⟨rfl, HW.out⟩
  · clear h1
    skip
    go_enter Tryz.func7, Tryz.ntmps7
    obtain ⟨x1, k1, e1, ek1, hb1, hk1, HB1⟩ := newV w #[.int .i64 1, .bool false, .slice none 0 0, .bool b, .slice none 0 0] 32
    replace HW := Lib.hid (HW.out.trans (hb1.out.mono HW.out.size))
    have c0 := cell_at (v := .int .i64 1) HB1.out 0 rfl
    have fc0 := froz_at HB1.out 0
    have c1 := cell_at (v := .bool false) HB1.out 1 rfl
    have fc1 := froz_at HB1.out 1
    have c2 := cell_at (v := .slice none 0 0) HB1.out 2 rfl
    have fc2 := froz_at HB1.out 2
    have c3 := cell_at (v := .bool b) HB1.out 3 rfl
    have fc3 := froz_at HB1.out 3
    have c4 := cell_at (v := .slice none 0 0) HB1.out 4 rfl
    have fc4 := froz_at HB1.out 4
    cases b
    all_goals (go_wp2_with fail; go_ret; exact ⟨rfl, HW.out⟩)
  · replace hl := hl zs rfl
    clear h1
    have HX := Lib.hid hx
    clear hx
    go_enter Tryz.func7, Tryz.ntmps7
    obtain ⟨x1, k1, e1, ek1, hb1, hk1, HB1⟩ := newV w #[.int .i64 2, .bool false, .slice none 0 0, .bool false, .slice o n c] 32
    replace HW := Lib.hid (HW.out.trans (hb1.out.mono HW.out.size))
    replace HX := Lib.hid (HX.out.below hb1.out)
    have c0 := cell_at (v := .int .i64 2) HB1.out 0 rfl
    have fc0 := froz_at HB1.out 0
    have c1 := cell_at (v := .bool false) HB1.out 1 rfl
    have fc1 := froz_at HB1.out 1
    have c2 := cell_at (v := .slice none 0 0) HB1.out 2 rfl
    have fc2 := froz_at HB1.out 2
    have c3 := cell_at (v := .bool false) HB1.out 3 rfl
    have fc3 := froz_at HB1.out 3
    have c4 := cell_at (v := .slice o n c) HB1.out 4 rfl
    have fc4 := froz_at HB1.out 4
    go_wp2_with fail
    refine (listText_p _ zs x1 (tab_below HTB.out HW.out) HX.out hl).mono ?_
    rintro e x2 ⟨rfl, hb⟩
    clear c0 fc0 c1 fc1 c2 fc2 c3 fc3 c4 fc4
    replace HB1 := kBV hb HB1
    replace HW := Lib.hid (HW.out.trans (hb.mono HW.out.size))
    replace HX := Lib.hid (HX.out.below hb)
    go_wp2_with fail
    go_ret
    exact ⟨rfl, HW.out⟩
end Go.Proofs.YtocadojeanhalaaGreatDoor
