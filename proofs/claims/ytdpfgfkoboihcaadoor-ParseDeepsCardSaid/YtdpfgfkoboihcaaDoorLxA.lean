/-
  Contracts of package lex's functions that only reckon: isLetter, isDigit.
-/
import Derived.Test.YtdpfgfkoboihcaaDoorLxM
import Derived.Test.YtdpfgfkoboihcaaDoorKPar
import Derived.Test.YtdpfgfkoboihcaaDoorRely
import Derived.Test.YtdpfgfkoboihcaaDoorProg
import Derived.Test.YtdpfgfkoboihcaaDoorShelf
import Derived.WalkKit
import Derived.WalkSpells
import Derived.WalkLawsBesides
import Derived.Lib.Hide
namespace Go.Proofs.YtdpfgfkoboihcaaDoor
open Go.RowKit
set_option maxRecDepth 100000

theorem isL_int (c : UInt8) : isL c = ((decide (97 ≤ (c.toNat : Int)) && decide ((c.toNat : Int) ≤ 122)) || (decide (65 ≤ (c.toNat : Int)) && decide ((c.toNat : Int) ≤ 90)) || ((c.toNat : Int) == 95)) := by
  have e : (c == 95) = ((c.toNat : Int) == 95) := by
    rw [Bool.eq_iff_iff, beq_iff_eq, beq_iff_eq, ← UInt8.toNat_inj]; constructor <;> intro h
    · rw [h]; rfl
    · have : (95 : UInt8).toNat = 95 := rfl
      omega
  have f : ∀ a b : UInt8, (decide (a ≤ b)) = decide ((a.toNat : Int) ≤ (b.toNat : Int)) := by
    intro a b; rw [Bool.eq_iff_iff]; simp [UInt8.le_iff_toNat_le]
  unfold isL
  rw [e, f, f, f, f]; rfl
theorem isD_int (c : UInt8) : isD c = (decide (48 ≤ (c.toNat : Int)) && decide ((c.toNat : Int) ≤ 57)) := by
  have f : ∀ a b : UInt8, (decide (a ≤ b)) = decide ((a.toNat : Int) ≤ (b.toNat : Int)) := by
    intro a b; rw [Bool.eq_iff_iff]; simp [UInt8.le_iff_toNat_le]
  unfold isD
  rw [f, f]; rfl

theorem ret_bool {a b : Bool} (h : a = b) : Ending.returned (.bool a) = .returned (.bool b) := by rw [h]
theorem ret_i64 {a b : Int} (h : a = b) : Ending.returned (.int .i64 a) = .returned (.int .i64 b) := by rw [h]
set_option maxHeartbeats 400000 in
theorem isLetter_any (c : UInt8) (w : World) :
    Calls Tryd.prog 43 #[.int .u8 (c.toNat : Int)] w fun e w' => e = .returned (.bool (isL c)) ∧ w' = w := by
  rw [isL_int]
  go_enter Tryd.func43, Tryd.ntmps43
  go_wp2
  all_goals (go_ret; refine ⟨ret_bool ?_, rfl⟩; (first | (simp [*]; done) | (rw [Bool.eq_iff_iff]; simp; omega)))
set_option maxHeartbeats 400000 in
theorem isDigit_any (c : UInt8) (w : World) :
    Calls Tryd.prog 45 #[.int .u8 (c.toNat : Int)] w fun e w' => e = .returned (.bool (isD c)) ∧ w' = w := by
  rw [isD_int]
  go_enter Tryd.func45, Tryd.ntmps45
  go_wp2
  all_goals (go_ret; refine ⟨ret_bool ?_, rfl⟩; first | (simp [*]; done) | (simp [*]; omega))
set_option maxHeartbeats 400000 in
theorem isLD_any (c : UInt8) (w : World) :
    Calls Tryd.prog 54 #[.int .u8 (c.toNat : Int)] w fun e w' => e = .returned (.bool (isLD c)) ∧ w' = w := by
  have e : isLD c = (isL c || isD c) := rfl
  go_enter Tryd.func54, Tryd.ntmps54
  cases h : isL c
  · go_wp2_with (first | (go_at_call 43; refine (isLetter_any c _).mono ?_; rintro e w' ⟨rfl, rfl⟩) | (go_at_call 45; refine (isDigit_any c _).mono ?_; rintro e w' ⟨rfl, rfl⟩))
    all_goals (go_ret; refine ⟨?_, rfl⟩; simp [*])
  · go_wp2_with (first | (go_at_call 43; refine (isLetter_any c _).mono ?_; rintro e w' ⟨rfl, rfl⟩) | (go_at_call 45; refine (isDigit_any c _).mono ?_; rintro e w' ⟨rfl, rfl⟩))
    all_goals (go_ret; refine ⟨?_, rfl⟩; simp [*])
set_option maxHeartbeats 1000000 in
/-- span at that class: so many bytes at the start are of the class. -/
theorem span_ld (l : Bs) (w : World) (hl : l.length ≤ 1000000000) :
    Calls Tryd.prog 53 #[.string ⟨l.toArray⟩, .func (.func 54) #[] #[]] w fun e w' => e = .returned (.int .i64 (spn isLD l : Nat)) ∧ w' = w := by
  have hsz : (⟨l.toArray⟩ : ByteArray).size = l.length := rfl
  go_enter Tryd.func53, Tryd.ntmps53
  go_wp2
  go_loopw [5] (fun i wr => ∃ k : Nat, i = .int .i64 k ∧ k ≤ l.length ∧ Hid (spn isLD l = k + spn isLD (l.drop k)) ∧ wr = w) (fun i _ => l.length - (intOf i).toNat)
  case atStart => exact ⟨0, rfl, Nat.zero_le _, Lib.hid (by simp), rfl⟩
  case round =>
    obtain ⟨k, rfl, hk, HS, rfl⟩ := hrel
    by_cases hlt : k < l.length
    · cases hp : isLD ((⟨l.toArray⟩ : ByteArray)[k]'hlt)
      · have HS0 := Lib.hid (spn_stop hlt hp)
        go_wp2_with (go_at_call 54; refine (isLD_any _ _).mono ?_; rintro e w' ⟨rfl, rfl⟩)
        go_ret
        exact ⟨ret_i64 (by rw [HS.out, HS0.out]; rfl), rfl⟩
      · have HS1 := Lib.hid (spn_step hlt hp)
        go_wp2_with (go_at_call 54; refine (isLD_any _ _).mono ?_; rintro e w' ⟨rfl, rfl⟩)
        go_roundw
        case rel => exact ⟨k + 1, by go_num, by omega, Lib.hid (by rw [HS.out, HS1.out]; omega), by trivial⟩
        case measure => simp [intOf]; omega
    · have hk0 : l.length ≤ k := by omega
      have HS0 := Lib.hid (spn_end (p := isLD) hk0)
      go_wp2
      go_ret
      exact ⟨ret_i64 (by rw [HS.out, HS0.out]; rfl), rfl⟩
set_option maxHeartbeats 1000000 in
/-- span at that class: so many bytes at the start are of the class. -/
theorem span_d (l : Bs) (w : World) (hl : l.length ≤ 1000000000) :
    Calls Tryd.prog 53 #[.string ⟨l.toArray⟩, .func (.func 45) #[] #[]] w fun e w' => e = .returned (.int .i64 (spn isD l : Nat)) ∧ w' = w := by
  have hsz : (⟨l.toArray⟩ : ByteArray).size = l.length := rfl
  go_enter Tryd.func53, Tryd.ntmps53
  go_wp2
  go_loopw [5] (fun i wr => ∃ k : Nat, i = .int .i64 k ∧ k ≤ l.length ∧ Hid (spn isD l = k + spn isD (l.drop k)) ∧ wr = w) (fun i _ => l.length - (intOf i).toNat)
  case atStart => exact ⟨0, rfl, Nat.zero_le _, Lib.hid (by simp), rfl⟩
  case round =>
    obtain ⟨k, rfl, hk, HS, rfl⟩ := hrel
    by_cases hlt : k < l.length
    · cases hp : isD ((⟨l.toArray⟩ : ByteArray)[k]'hlt)
      · have HS0 := Lib.hid (spn_stop hlt hp)
        go_wp2_with (go_at_call 45; refine (isDigit_any _ _).mono ?_; rintro e w' ⟨rfl, rfl⟩)
        go_ret
        exact ⟨ret_i64 (by rw [HS.out, HS0.out]; rfl), rfl⟩
      · have HS1 := Lib.hid (spn_step hlt hp)
        go_wp2_with (go_at_call 45; refine (isDigit_any _ _).mono ?_; rintro e w' ⟨rfl, rfl⟩)
        go_roundw
        case rel => exact ⟨k + 1, by go_num, by omega, Lib.hid (by rw [HS.out, HS1.out]; omega), by trivial⟩
        case measure => simp [intOf]; omega
    · have hk0 : l.length ≤ k := by omega
      have HS0 := Lib.hid (spn_end (p := isD) hk0)
      go_wp2
      go_ret
      exact ⟨ret_i64 (by rw [HS.out, HS0.out]; rfl), rfl⟩

/-! ### the length of a comment, and of the blanks -/
theorem index_spn (l : Bs) : Lib.indexByte l 10 = if spn notNl l < l.length then (spn notNl l : Int) else -1 := by
  induction l with
  | nil => rfl
  | cons c l ih =>
    by_cases h : c = 10
    · subst h; simp [Lib.indexByte, spn, notNl]
    · have h1 : notNl c = true := by simp [notNl, h]
      have h2 : (c == 10) = false := by simp [h]
      simp only [Lib.indexByte, spn, h1, h2, if_true, ih, List.length_cons]
      by_cases hx : spn notNl l < l.length
      · have hy : spn notNl l + 1 < l.length + 1 := by omega
        have : (((spn notNl l : Nat) : Int) == -1) = false := by rw [beq_eq_false_iff_ne]; omega
        simp only [if_pos hx, if_pos hy, this]
        simp
      · have hy : ¬ spn notNl l + 1 < l.length + 1 := by omega
        simp only [if_neg hx, if_neg hy]; rfl
theorem comment_any (l : Bs) (w : World) :
    Calls Tryd.prog 42 #[.string ⟨l.toArray⟩] w fun e w' => e = .returned (.int .i64 (spn notNl l : Nat)) ∧ w' = w := by
  have hsz : (⟨l.toArray⟩ : ByteArray).size = l.length := rfl
  have hle := spn_le notNl l
  by_cases hx : spn notNl l < l.length
  · have hi : Lib.indexByte l ((10 : Int).toNat.toUInt8) = (spn notNl l : Int) := by rw [show (10 : Int).toNat.toUInt8 = 10 from rfl, index_spn, if_pos hx]
    have hc := Tryd.strings_IndexByte ⟨l.toArray⟩ 10 w
    rw [show (⟨l.toArray⟩ : ByteArray).data.toList = l from rfl, hi] at hc
    have H := Lib.hid hc
    clear hc hi
    go_enter Tryd.func42, Tryd.ntmps42
    go_wp2_with (go_at_call 52; refine H.out.mono ?_; rintro e w' ⟨rfl, rfl⟩)
    go_ret
    exact ⟨rfl, rfl⟩
  · have hi : Lib.indexByte l ((10 : Int).toNat.toUInt8) = -1 := by rw [show (10 : Int).toNat.toUInt8 = 10 from rfl, index_spn, if_neg hx]
    have hc := Tryd.strings_IndexByte ⟨l.toArray⟩ 10 w
    rw [show (⟨l.toArray⟩ : ByteArray).data.toList = l from rfl, hi] at hc
    have H := Lib.hid hc
    clear hc hi
    have he : l.length = spn notNl l := by omega
    have H2 := Lib.hid he
    clear he
    go_enter Tryd.func42, Tryd.ntmps42
    go_wp2_with (go_at_call 52; refine H.out.mono ?_; rintro e w' ⟨rfl, rfl⟩)
    go_ret
    exact ⟨ret_i64 (by rw [H2.out]), rfl⟩

/-- A byte's comparison with a number, as the walk spells it. -/
theorem byte_is (c x : UInt8) : ((c.toNat : Int) == (x.toNat : Int)) = (c == x) := by
  rw [Bool.eq_iff_iff, beq_iff_eq, beq_iff_eq, ← UInt8.toNat_inj]; omega
theorem byte_yes {c : UInt8} (x : UInt8) (h : c = x) : ((c.toNat : Int) == (x.toNat : Int)) = true := by rw [byte_is, h]; simp
theorem byte_no {c : UInt8} (x : UInt8) (h : c ≠ x) : ((c.toNat : Int) == (x.toNat : Int)) = false := by rw [byte_is]; simpa using h
theorem blk_ways {c : UInt8} (h : blk c = true) : ((c.toNat : Int) == 32) = true ∨ (((c.toNat : Int) == 32) = false ∧ ((c.toNat : Int) == 9) = true) ∨ (((c.toNat : Int) == 32) = false ∧ ((c.toNat : Int) == 9) = false ∧ ((c.toNat : Int) == 10) = true) ∨ (((c.toNat : Int) == 32) = false ∧ ((c.toNat : Int) == 9) = false ∧ ((c.toNat : Int) == 10) = false ∧ ((c.toNat : Int) == 13) = true) := by
  have h' : c = 32 ∨ c = 9 ∨ c = 10 ∨ c = 13 := by simpa [blk, or_assoc] using h
  rcases h' with rfl | rfl | rfl | rfl
  · exact .inl rfl
  · exact .inr (.inl ⟨rfl, rfl⟩)
  · exact .inr (.inr (.inl ⟨rfl, rfl, rfl⟩))
  · exact .inr (.inr (.inr ⟨rfl, rfl, rfl, rfl⟩))
theorem blk_not {c : UInt8} (h : blk c = false) : ((c.toNat : Int) == 32) = false ∧ ((c.toNat : Int) == 9) = false ∧ ((c.toNat : Int) == 10) = false ∧ ((c.toNat : Int) == 13) = false := by
  have h' : ¬ (c = 32 ∨ c = 9 ∨ c = 10 ∨ c = 13) := by
    intro e
    have : blk c = true := by rcases e with rfl | rfl | rfl | rfl <;> rfl
    rw [h] at this; cases this
  exact ⟨byte_no 32 (fun e => h' (by simp [e])), byte_no 9 (fun e => h' (by simp [e])), byte_no 10 (fun e => h' (by simp [e])), byte_no 13 (fun e => h' (by simp [e]))⟩

set_option maxHeartbeats 2000000 in
theorem blanks_any (l : Bs) (w : World) (hl : l.length ≤ 1000000000) :
    Calls Tryd.prog 33 #[.string ⟨l.toArray⟩] w fun e w' => e = .returned (.int .i64 (gapL false l : Nat)) ∧ w' = w := by
  have hsz : (⟨l.toArray⟩ : ByteArray).size = l.length := rfl
  go_enter Tryd.func33, Tryd.ntmps33
  go_wp2
  go_loopw [3] (fun i wr => ∃ k : Nat, i = .int .i64 k ∧ k ≤ l.length ∧ Hid (gapL false l = k + gapL false (l.drop k)) ∧ wr = w) (fun i _ => l.length - (intOf i).toNat)
  case atStart => exact ⟨0, rfl, Nat.zero_le _, Lib.hid (by simp), rfl⟩
  case round =>
    obtain ⟨k, rfl, hk, HS, rfl⟩ := hrel
    by_cases hlt : k < l.length
    · by_cases hb : blk (l[k]'hlt) = true
      · have hs := Lib.hid (gap_blank hlt hb)
        have hb' := blk_ways (c := (⟨l.toArray⟩ : ByteArray)[k]'hlt) hb
        clear hb
        rcases hb' with h1 | ⟨h1, h2⟩ | ⟨h1, h2, h3⟩ | ⟨h1, h2, h3, h4⟩
        all_goals
          go_wp2
          go_roundw
          case rel => exact ⟨k + 1, by go_num, by omega, Lib.hid (by rw [HS.out, hs.out]; omega), by trivial⟩
          case measure => simp [intOf]; omega
      · have hb0 : blk (l[k]'hlt) = false := by simpa using hb
        obtain ⟨n1, n2, n3, n4⟩ := blk_not (c := (⟨l.toArray⟩ : ByteArray)[k]'hlt) hb0
        by_cases hh : (l[k]'hlt) = 35
        · have h35 : ((((⟨l.toArray⟩ : ByteArray)[k]'hlt).toNat : Int) == 35) = true := byte_yes (c := (⟨l.toArray⟩ : ByteArray)[k]'hlt) 35 hh
          have hs := Lib.hid (gap_cmt' hlt hh)
          have hpos : 0 < spn notNl (l.drop k) := by rw [spn_step hlt (by rw [hh]; rfl)]; omega
          have hle := spn_le notNl (l.drop k)
          rw [List.length_drop] at hle
          have HD := Lib.hid (extract_drop l k)
          clear hb hb0 hh
          go_wp2_with fail
          rw [HD.out]
          refine (comment_any _ _).mono ?_
          rintro e w' ⟨rfl, rfl⟩
          go_wp2
          go_roundw
          case rel => exact ⟨k + spn notNl (l.drop k), by go_num, by omega, Lib.hid (by rw [HS.out, hs.out]; omega), by trivial⟩
          case measure => simp [intOf]; omega
        · have h35 : ((((⟨l.toArray⟩ : ByteArray)[k]'hlt).toNat : Int) == 35) = false := byte_no (c := (⟨l.toArray⟩ : ByteArray)[k]'hlt) 35 hh
          have hs := Lib.hid (gap_stop hlt hb0 hh)
          clear hb hb0 hh
          go_wp2
          go_ret
          exact ⟨ret_i64 (by rw [HS.out, hs.out]; rfl), rfl⟩
    · have hk0 : l.length ≤ k := by omega
      have HS0 := Lib.hid (gap_end (b := false) hk0)
      go_wp2
      go_ret
      exact ⟨ret_i64 (by rw [HS.out, HS0.out]; rfl), rfl⟩
end Go.Proofs.YtdpfgfkoboihcaaDoor
