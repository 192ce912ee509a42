/-
  Contracts of package lex's measuring functions: pairLength, signLength, isWord, measureName, measureNumber, measure.
-/
import Derived.Test.YtdpfgfkoboihcaaDoorLxA
namespace Go.Proofs.YtdpfgfkoboihcaaDoor
open Go.RowKit
set_option maxRecDepth 100000

/-- What pairLength tells. -/
def pl (l : Bs) (b : UInt8) (n : Nat) : Nat := if l[1]? = some b then 2 else n
set_option maxHeartbeats 400000 in
theorem pair_any (l : Bs) (b : UInt8) (n : Nat) (bi ni : Int) (hb : bi = (b.toNat : Int)) (hn : ni = (n : Int)) (hl : l.length ≤ 1000000000) (w : World) :
    Calls Tryd.prog 56 #[.string ⟨l.toArray⟩, .int .u8 bi, .int .i64 ni] w fun e w' => e = .returned (.int .i64 (pl l b n : Nat)) ∧ w' = w := by
  have hsz : (⟨l.toArray⟩ : ByteArray).size = l.length := rfl
  subst hb hn
  by_cases h1 : 1 < l.length
  · by_cases h2 : (l[1]'h1) = b
    · have H := Lib.hid (show pl l b n = 2 by unfold pl; rw [List.getElem?_eq_getElem h1, h2, if_pos rfl])
      have h3 : (((((⟨l.toArray⟩ : ByteArray)[1]'h1).toNat : Int)) == (b.toNat : Int)) = true := byte_yes (c := (⟨l.toArray⟩ : ByteArray)[1]'h1) b h2
      clear h2
      go_enter Tryd.func56, Tryd.ntmps56
      go_wp2
      go_ret
      exact ⟨ret_i64 (by rw [H.out]; rfl), rfl⟩
    · have H := Lib.hid (show pl l b n = n by unfold pl; rw [List.getElem?_eq_getElem h1, if_neg (fun e => h2 (by injection e))])
      have h3 : (((((⟨l.toArray⟩ : ByteArray)[1]'h1).toNat : Int)) == (b.toNat : Int)) = false := byte_no (c := (⟨l.toArray⟩ : ByteArray)[1]'h1) b h2
      clear h2
      go_enter Tryd.func56, Tryd.ntmps56
      go_wp2
      go_ret
      exact ⟨ret_i64 (by rw [H.out]), rfl⟩
  · have H := Lib.hid (show pl l b n = n by unfold pl; rw [List.getElem?_eq_none (by omega)]; rfl)
    have h1' : l.length ≤ 1 := by omega
    clear h1
    go_enter Tryd.func56, Tryd.ntmps56
    go_wp2
    go_ret
    exact ⟨ret_i64 (by rw [H.out]), rfl⟩

theorem of_is {a : UInt8} (x : UInt8) (h : ((a.toNat : Int) == (x.toNat : Int)) = true) : a = x := by rw [byte_is] at h; simpa using h
theorem sgn_alone {a : UInt8} (r : Bs) (h : ((a.toNat : Int) == 40) = true ∨ ((a.toNat : Int) == 41) = true ∨ ((a.toNat : Int) == 123) = true ∨ ((a.toNat : Int) == 125) = true ∨ ((a.toNat : Int) == 44) = true ∨ ((a.toNat : Int) == 59) = true ∨ ((a.toNat : Int) == 61) = true ∨ ((a.toNat : Int) == 43) = true ∨ ((a.toNat : Int) == 42) = true ∨ ((a.toNat : Int) == 47) = true ∨ ((a.toNat : Int) == 37) = true) : sgn (a :: r) = 1 := by
  have h' : a = 40 ∨ a = 41 ∨ a = 123 ∨ a = 125 ∨ a = 44 ∨ a = 59 ∨ a = 61 ∨ a = 43 ∨ a = 42 ∨ a = 47 ∨ a = 37 := by
    rcases h with h | h | h | h | h | h | h | h | h | h | h
    · exact .inl (of_is 40 h)
    · exact .inr (.inl (of_is 41 h))
    · exact .inr (.inr (.inl (of_is 123 h)))
    · exact .inr (.inr (.inr (.inl (of_is 125 h))))
    · exact .inr (.inr (.inr (.inr (.inl (of_is 44 h)))))
    · exact .inr (.inr (.inr (.inr (.inr (.inl (of_is 59 h))))))
    · exact .inr (.inr (.inr (.inr (.inr (.inr (.inl (of_is 61 h)))))))
    · exact .inr (.inr (.inr (.inr (.inr (.inr (.inr (.inl (of_is 43 h))))))))
    · exact .inr (.inr (.inr (.inr (.inr (.inr (.inr (.inr (.inl (of_is 42 h)))))))))
    · exact .inr (.inr (.inr (.inr (.inr (.inr (.inr (.inr (.inr (.inl (of_is 47 h))))))))))
    · exact .inr (.inr (.inr (.inr (.inr (.inr (.inr (.inr (.inr (.inr ((of_is 37 h)))))))))))
  rcases h' with rfl | rfl | rfl | rfl | rfl | rfl | rfl | rfl | rfl | rfl | rfl <;> cases r <;> simp [sgn, pairB, sglB]
theorem sgn_none {a : UInt8} (r : Bs) (h : ((a.toNat : Int) == 91) = false ∧ ((a.toNat : Int) == 38) = false ∧ ((a.toNat : Int) == 58) = false ∧ ((a.toNat : Int) == 124) = false ∧ ((a.toNat : Int) == 45) = false ∧ ((a.toNat : Int) == 60) = false ∧ ((a.toNat : Int) == 62) = false ∧ ((a.toNat : Int) == 40) = false ∧ ((a.toNat : Int) == 41) = false ∧ ((a.toNat : Int) == 123) = false ∧ ((a.toNat : Int) == 125) = false ∧ ((a.toNat : Int) == 44) = false ∧ ((a.toNat : Int) == 59) = false ∧ ((a.toNat : Int) == 61) = false ∧ ((a.toNat : Int) == 43) = false ∧ ((a.toNat : Int) == 42) = false ∧ ((a.toNat : Int) == 47) = false ∧ ((a.toNat : Int) == 37) = false) : sgn (a :: r) = 0 := by
  have hx : ∀ x : UInt8, ((a.toNat : Int) == (x.toNat : Int)) = false → (a == x) = false := fun x h => by rwa [byte_is] at h
  obtain ⟨h91, h38, h58, h124, h45, h60, h62, h40, h41, h123, h125, h44, h59, h61, h43, h42, h47, h37⟩ := h
  replace h91 := hx 91 h91
  replace h38 := hx 38 h38
  replace h58 := hx 58 h58
  replace h124 := hx 124 h124
  replace h45 := hx 45 h45
  replace h60 := hx 60 h60
  replace h62 := hx 62 h62
  replace h40 := hx 40 h40
  replace h41 := hx 41 h41
  replace h123 := hx 123 h123
  replace h125 := hx 125 h125
  replace h44 := hx 44 h44
  replace h59 := hx 59 h59
  replace h61 := hx 61 h61
  replace h43 := hx 43 h43
  replace h42 := hx 42 h42
  replace h47 := hx 47 h47
  replace h37 := hx 37 h37
  cases r <;> simp only [sgn, pairB, sglB, h91, h38, h58, h124, h45, h60, h62, h40, h41, h123, h125, h44, h59, h61, h43, h42, h47, h37] <;> simp
theorem sgn_p91 (r : Bs) : pl (91 :: r) 93 0 = sgn (91 :: r) := by
  cases r with
  | nil => rfl
  | cons b r => simp only [pl, sgn, pairB, sglB, List.getElem?_cons_succ, List.getElem?_cons_zero, Option.some.injEq]; by_cases h : b = 93 <;> simp [h]
theorem sgn_p38 (r : Bs) : pl (38 :: r) 38 0 = sgn (38 :: r) := by
  cases r with
  | nil => rfl
  | cons b r => simp only [pl, sgn, pairB, sglB, List.getElem?_cons_succ, List.getElem?_cons_zero, Option.some.injEq]; by_cases h : b = 38 <;> simp [h]
theorem sgn_p58 (r : Bs) : pl (58 :: r) 58 1 = sgn (58 :: r) := by
  cases r with
  | nil => rfl
  | cons b r => simp only [pl, sgn, pairB, sglB, List.getElem?_cons_succ, List.getElem?_cons_zero, Option.some.injEq]; by_cases h : b = 58 <;> simp [h]
theorem sgn_p124 (r : Bs) : pl (124 :: r) 124 1 = sgn (124 :: r) := by
  cases r with
  | nil => rfl
  | cons b r => simp only [pl, sgn, pairB, sglB, List.getElem?_cons_succ, List.getElem?_cons_zero, Option.some.injEq]; by_cases h : b = 124 <;> simp [h]
theorem sgn_p45 (r : Bs) : pl (45 :: r) 62 1 = sgn (45 :: r) := by
  cases r with
  | nil => rfl
  | cons b r => simp only [pl, sgn, pairB, sglB, List.getElem?_cons_succ, List.getElem?_cons_zero, Option.some.injEq]; by_cases h : b = 62 <;> simp [h]
theorem sgn_p62 (r : Bs) : pl (62 :: r) 61 1 = sgn (62 :: r) := by
  cases r with
  | nil => rfl
  | cons b r => simp only [pl, sgn, pairB, sglB, List.getElem?_cons_succ, List.getElem?_cons_zero, Option.some.injEq]; by_cases h : b = 61 <;> simp [h]
theorem sgn_p60 (r : Bs) : sgn (60 :: r) = if Lib.hasPrefix (60 :: r) [60, 62] then 2 else pl (60 :: r) 61 1 := by
  cases r with
  | nil => rfl
  | cons b r =>
    simp only [pl, sgn, pairB, sglB, List.getElem?_cons_succ, List.getElem?_cons_zero, Option.some.injEq, Lib.hasPrefix, List.isPrefixOf]
    by_cases h : b = 62
    · simp [h]
    · have h' : ¬ 62 = b := fun e => h e.symm
      by_cases h2 : b = 61 <;> simp [h, h', h2]
set_option maxHeartbeats 4000000 in
theorem sign_any (a : UInt8) (r : Bs) (hl : (a :: r).length ≤ 1000000000) (w : World) :
    Calls Tryd.prog 47 #[.string ⟨(a :: r).toArray⟩] w fun e w' => e = .returned (.int .i64 (sgn (a :: r) : Nat)) ∧ w' = w := by
  obtain ⟨l, hL⟩ : ∃ l, l = a :: r := ⟨_, rfl⟩
  rw [← hL] at hl ⊢
  have hp : 0 < l.length := by rw [hL]; simp
  have hsz : (⟨l.toArray⟩ : ByteArray).size = l.length := rfl
  have h0 : (⟨l.toArray⟩ : ByteArray)[0]'hp = a := by subst hL; rfl
  have HL := Lib.hid hL
  clear hL
  go_enter Tryd.func47, Tryd.ntmps47
  go_wp2_with fail
  · have e : a = 91 := of_is 91 (by assumption)
    have HS := Lib.hid (sgn_p91 r)
    refine (pair_any l 93 0 _ _ rfl rfl hl w).mono ?_
    rintro e w' ⟨rfl, rfl⟩
    go_wp2
    go_ret
    exact ⟨ret_i64 (by rw [HL.out, e]; exact congrArg Nat.cast HS.out), rfl⟩
  · have e : a = 38 := of_is 38 (by assumption)
    have HS := Lib.hid (sgn_p38 r)
    refine (pair_any l 38 0 _ _ rfl rfl hl w).mono ?_
    rintro e w' ⟨rfl, rfl⟩
    go_wp2
    go_ret
    exact ⟨ret_i64 (by rw [HL.out, e]; exact congrArg Nat.cast HS.out), rfl⟩
  · have e : a = 58 := of_is 58 (by assumption)
    have HS := Lib.hid (sgn_p58 r)
    refine (pair_any l 58 1 _ _ (by rw [e]) rfl hl w).mono ?_
    rintro e w' ⟨rfl, rfl⟩
    go_wp2
    go_ret
    exact ⟨ret_i64 (by rw [HL.out, e]; exact congrArg Nat.cast HS.out), rfl⟩
  · have e : a = 124 := of_is 124 (by assumption)
    have HS := Lib.hid (sgn_p124 r)
    refine (pair_any l 124 1 _ _ (by rw [e]) rfl hl w).mono ?_
    rintro e w' ⟨rfl, rfl⟩
    go_wp2
    go_ret
    exact ⟨ret_i64 (by rw [HL.out, e]; exact congrArg Nat.cast HS.out), rfl⟩
  · have e : a = 45 := of_is 45 (by assumption)
    have HS := Lib.hid (sgn_p45 r)
    refine (pair_any l 62 1 _ _ rfl rfl hl w).mono ?_
    rintro e w' ⟨rfl, rfl⟩
    go_wp2
    go_ret
    exact ⟨ret_i64 (by rw [HL.out, e]; exact congrArg Nat.cast HS.out), rfl⟩
  · have e : a = 60 := of_is 60 (by assumption)
    have HS := Lib.hid (sgn_p60 r)
    have HE := Lib.hid e
    clear e
    refine (Tryd.strings_HasPrefix ⟨l.toArray⟩ ⟨#[60, 62]⟩ w).mono ?_
    rintro e w' ⟨rfl, rfl⟩
    obtain ⟨B, hB⟩ : ∃ B, B = Lib.hasPrefix (⟨l.toArray⟩ : ByteArray).data.toList (⟨#[60, 62]⟩ : ByteArray).data.toList := ⟨_, rfl⟩
    rw [← hB]
    have HB := Lib.hid hB
    clear hB
    cases B
    · go_wp2_with fail
      refine (pair_any l 61 1 _ _ rfl rfl hl _).mono ?_
      rintro e w' ⟨rfl, rfl⟩
      go_wp2
      go_ret
      exact ⟨ret_i64 (by rw [HL.out, HE.out, HS.out, if_neg (by have := HB.out; rw [HL.out, HE.out] at this; exact fun h => Bool.noConfusion (h.symm.trans this.symm))]), rfl⟩
    · go_wp2
      go_ret
      exact ⟨ret_i64 (by rw [HL.out, HE.out, HS.out, if_pos (by have := HB.out; rw [HL.out, HE.out] at this; exact this.symm)]; rfl), rfl⟩
  · have e : a = 62 := of_is 62 (by assumption)
    have HS := Lib.hid (sgn_p62 r)
    refine (pair_any l 61 1 _ _ rfl rfl hl w).mono ?_
    rintro e w' ⟨rfl, rfl⟩
    go_wp2
    go_ret
    exact ⟨ret_i64 (by rw [HL.out, e]; exact congrArg Nat.cast HS.out), rfl⟩
  all_goals
    go_ret
    refine ⟨ret_i64 ?_, rfl⟩
    rw [HL.out]
    first
      | (rw [sgn_alone r (by simp only [*, true_or, or_true])]; rfl)
      | (rw [sgn_none r ⟨by assumption, by assumption, by assumption, by assumption, by assumption, by assumption, by assumption, by assumption, by assumption, by assumption, by assumption, by assumption, by assumption, by assumption, by assumption, by assumption, by assumption, by assumption⟩]; rfl)

theorem isW_mem {w : Bs} (h : w ∈ wds) : isW w = true := List.elem_eq_true_of_mem h
theorem isW_yes {l : Bs} (w : Bs) (hw : isW w = true) (h : (l == w) = true) : isW l = true := by
  rw [beq_iff_eq] at h; rw [h]; exact hw
theorem isW_no {l : Bs} (h : (l == [102, 117, 110]) = false ∧ (l == [113, 117, 97, 108, 105, 102]) = false ∧ (l == [108, 101, 116]) = false ∧ (l == [105, 110]) = false ∧ (l == [105, 102]) = false ∧ (l == [116, 104, 101, 110]) = false ∧ (l == [101, 108, 115, 101]) = false ∧ (l == [109, 97, 116, 99, 104]) = false ∧ (l == [119, 105, 116, 104]) = false ∧ (l == [97, 115, 115, 101, 114, 116]) = false ∧ (l == [110, 111, 116]) = false ∧ (l == [116, 114, 117, 101]) = false ∧ (l == [102, 97, 108, 115, 101]) = false ∧ (l == [105, 110, 116]) = false ∧ (l == [98, 111, 111, 108]) = false ∧ (l == [108, 105, 115, 116]) = false ∧ (l == [108, 101, 110]) = false ∧ (l == [104, 100]) = false ∧ (l == [116, 108]) = false ∧ (l == [118]) = false) : isW l = false := by
  obtain ⟨h0, h1, h2, h3, h4, h5, h6, h7, h8, h9, h10, h11, h12, h13, h14, h15, h16, h17, h18, h19⟩ := h
  simp only [isW, wds, List.contains_cons, List.contains_nil, h0, h1, h2, h3, h4, h5, h6, h7, h8, h9, h10, h11, h12, h13, h14, h15, h16, h17, h18, h19]; rfl
set_option maxHeartbeats 4000000 in
theorem isWord_any (l : Bs) (w : World) :
    Calls Tryd.prog 55 #[.string ⟨l.toArray⟩] w fun e w' => e = .returned (.bool (isW l)) ∧ w' = w := by
  go_enter Tryd.func55, Tryd.ntmps55
  go_wp2_with fail
  all_goals first
    | exact absurd (Eq.trans (Eq.symm (show (l == [102, 117, 110]) = true by assumption)) (show (l == [102, 117, 110]) = false by assumption)) (by decide)
    | exact absurd (Eq.trans (Eq.symm (show (l == [113, 117, 97, 108, 105, 102]) = true by assumption)) (show (l == [113, 117, 97, 108, 105, 102]) = false by assumption)) (by decide)
    | exact absurd (Eq.trans (Eq.symm (show (l == [108, 101, 116]) = true by assumption)) (show (l == [108, 101, 116]) = false by assumption)) (by decide)
    | exact absurd (Eq.trans (Eq.symm (show (l == [105, 110]) = true by assumption)) (show (l == [105, 110]) = false by assumption)) (by decide)
    | exact absurd (Eq.trans (Eq.symm (show (l == [105, 102]) = true by assumption)) (show (l == [105, 102]) = false by assumption)) (by decide)
    | exact absurd (Eq.trans (Eq.symm (show (l == [116, 104, 101, 110]) = true by assumption)) (show (l == [116, 104, 101, 110]) = false by assumption)) (by decide)
    | exact absurd (Eq.trans (Eq.symm (show (l == [101, 108, 115, 101]) = true by assumption)) (show (l == [101, 108, 115, 101]) = false by assumption)) (by decide)
    | exact absurd (Eq.trans (Eq.symm (show (l == [109, 97, 116, 99, 104]) = true by assumption)) (show (l == [109, 97, 116, 99, 104]) = false by assumption)) (by decide)
    | exact absurd (Eq.trans (Eq.symm (show (l == [119, 105, 116, 104]) = true by assumption)) (show (l == [119, 105, 116, 104]) = false by assumption)) (by decide)
    | exact absurd (Eq.trans (Eq.symm (show (l == [97, 115, 115, 101, 114, 116]) = true by assumption)) (show (l == [97, 115, 115, 101, 114, 116]) = false by assumption)) (by decide)
    | exact absurd (Eq.trans (Eq.symm (show (l == [110, 111, 116]) = true by assumption)) (show (l == [110, 111, 116]) = false by assumption)) (by decide)
    | exact absurd (Eq.trans (Eq.symm (show (l == [116, 114, 117, 101]) = true by assumption)) (show (l == [116, 114, 117, 101]) = false by assumption)) (by decide)
    | exact absurd (Eq.trans (Eq.symm (show (l == [102, 97, 108, 115, 101]) = true by assumption)) (show (l == [102, 97, 108, 115, 101]) = false by assumption)) (by decide)
    | exact absurd (Eq.trans (Eq.symm (show (l == [105, 110, 116]) = true by assumption)) (show (l == [105, 110, 116]) = false by assumption)) (by decide)
    | exact absurd (Eq.trans (Eq.symm (show (l == [98, 111, 111, 108]) = true by assumption)) (show (l == [98, 111, 111, 108]) = false by assumption)) (by decide)
    | exact absurd (Eq.trans (Eq.symm (show (l == [108, 105, 115, 116]) = true by assumption)) (show (l == [108, 105, 115, 116]) = false by assumption)) (by decide)
    | exact absurd (Eq.trans (Eq.symm (show (l == [108, 101, 110]) = true by assumption)) (show (l == [108, 101, 110]) = false by assumption)) (by decide)
    | exact absurd (Eq.trans (Eq.symm (show (l == [104, 100]) = true by assumption)) (show (l == [104, 100]) = false by assumption)) (by decide)
    | exact absurd (Eq.trans (Eq.symm (show (l == [116, 108]) = true by assumption)) (show (l == [116, 108]) = false by assumption)) (by decide)
    | exact absurd (Eq.trans (Eq.symm (show (l == [118]) = true by assumption)) (show (l == [118]) = false by assumption)) (by decide)
    | (have H : (l == [102, 117, 110]) = true := (by assumption); go_ret; exact ⟨ret_bool (isW_yes [102, 117, 110] (isW_mem (by simp [wds])) H).symm, rfl⟩)
    | (have H : (l == [113, 117, 97, 108, 105, 102]) = true := (by assumption); go_ret; exact ⟨ret_bool (isW_yes [113, 117, 97, 108, 105, 102] (isW_mem (by simp [wds])) H).symm, rfl⟩)
    | (have H : (l == [108, 101, 116]) = true := (by assumption); go_ret; exact ⟨ret_bool (isW_yes [108, 101, 116] (isW_mem (by simp [wds])) H).symm, rfl⟩)
    | (have H : (l == [105, 110]) = true := (by assumption); go_ret; exact ⟨ret_bool (isW_yes [105, 110] (isW_mem (by simp [wds])) H).symm, rfl⟩)
    | (have H : (l == [105, 102]) = true := (by assumption); go_ret; exact ⟨ret_bool (isW_yes [105, 102] (isW_mem (by simp [wds])) H).symm, rfl⟩)
    | (have H : (l == [116, 104, 101, 110]) = true := (by assumption); go_ret; exact ⟨ret_bool (isW_yes [116, 104, 101, 110] (isW_mem (by simp [wds])) H).symm, rfl⟩)
    | (have H : (l == [101, 108, 115, 101]) = true := (by assumption); go_ret; exact ⟨ret_bool (isW_yes [101, 108, 115, 101] (isW_mem (by simp [wds])) H).symm, rfl⟩)
    | (have H : (l == [109, 97, 116, 99, 104]) = true := (by assumption); go_ret; exact ⟨ret_bool (isW_yes [109, 97, 116, 99, 104] (isW_mem (by simp [wds])) H).symm, rfl⟩)
    | (have H : (l == [119, 105, 116, 104]) = true := (by assumption); go_ret; exact ⟨ret_bool (isW_yes [119, 105, 116, 104] (isW_mem (by simp [wds])) H).symm, rfl⟩)
    | (have H : (l == [97, 115, 115, 101, 114, 116]) = true := (by assumption); go_ret; exact ⟨ret_bool (isW_yes [97, 115, 115, 101, 114, 116] (isW_mem (by simp [wds])) H).symm, rfl⟩)
    | (have H : (l == [110, 111, 116]) = true := (by assumption); go_ret; exact ⟨ret_bool (isW_yes [110, 111, 116] (isW_mem (by simp [wds])) H).symm, rfl⟩)
    | (have H : (l == [116, 114, 117, 101]) = true := (by assumption); go_ret; exact ⟨ret_bool (isW_yes [116, 114, 117, 101] (isW_mem (by simp [wds])) H).symm, rfl⟩)
    | (have H : (l == [102, 97, 108, 115, 101]) = true := (by assumption); go_ret; exact ⟨ret_bool (isW_yes [102, 97, 108, 115, 101] (isW_mem (by simp [wds])) H).symm, rfl⟩)
    | (have H : (l == [105, 110, 116]) = true := (by assumption); go_ret; exact ⟨ret_bool (isW_yes [105, 110, 116] (isW_mem (by simp [wds])) H).symm, rfl⟩)
    | (have H : (l == [98, 111, 111, 108]) = true := (by assumption); go_ret; exact ⟨ret_bool (isW_yes [98, 111, 111, 108] (isW_mem (by simp [wds])) H).symm, rfl⟩)
    | (have H : (l == [108, 105, 115, 116]) = true := (by assumption); go_ret; exact ⟨ret_bool (isW_yes [108, 105, 115, 116] (isW_mem (by simp [wds])) H).symm, rfl⟩)
    | (have H : (l == [108, 101, 110]) = true := (by assumption); go_ret; exact ⟨ret_bool (isW_yes [108, 101, 110] (isW_mem (by simp [wds])) H).symm, rfl⟩)
    | (have H : (l == [104, 100]) = true := (by assumption); go_ret; exact ⟨ret_bool (isW_yes [104, 100] (isW_mem (by simp [wds])) H).symm, rfl⟩)
    | (have H : (l == [116, 108]) = true := (by assumption); go_ret; exact ⟨ret_bool (isW_yes [116, 108] (isW_mem (by simp [wds])) H).symm, rfl⟩)
    | (have H : (l == [118]) = true := (by assumption); go_ret; exact ⟨ret_bool (isW_yes [118] (isW_mem (by simp [wds])) H).symm, rfl⟩)
    | (have H := isW_no (l := l) ⟨by assumption, by assumption, by assumption, by assumption, by assumption, by assumption, by assumption, by assumption, by assumption, by assumption, by assumption, by assumption, by assumption, by assumption, by assumption, by assumption, by assumption, by assumption, by assumption, by assumption⟩; go_ret; exact ⟨ret_bool H.symm, rfl⟩)

/-- The triple that the measuring functions return. -/
def mres (m : Meas) : Value := match m with
  | .ok k n => .tuple #[.int .i64 (k : Nat), .int .i64 (n : Nat), .nilIface]
  | .bad e => .tuple #[.int .i64 0, .int .i64 0, .iface 36 (.int .i64 (e : Nat))]
set_option maxHeartbeats 1000000 in
theorem name_any (a : UInt8) (r : Bs) (ha : isL a = true) (hl : (a :: r).length ≤ 1000000000) (w : World) :
    Calls Tryd.prog 44 #[.string ⟨(a :: r).toArray⟩] w fun e w' => e = .returned (mres (meas (a :: r))) ∧ w' = w := by
  obtain ⟨l, hL⟩ : ∃ l, l = a :: r := ⟨_, rfl⟩
  have HM := Lib.hid (show meas l = if 40 < spn isLD l then .bad 2 else if isW (l.take (spn isLD l)) then .ok 3 (spn isLD l) else .ok 0 (spn isLD l) by rw [hL, meas_cons, if_pos ha])
  rw [← hL] at hl ⊢
  clear hL ha
  have hle := spn_le isLD l
  have hsz : (⟨l.toArray⟩ : ByteArray).size = l.length := rfl
  obtain ⟨n, hn⟩ : ∃ n, n = spn isLD l := ⟨_, rfl⟩
  have hs := span_ld l w hl
  rw [← hn] at HM hle hs
  have HS := Lib.hid hs
  clear hs hn
  by_cases h40 : 40 < n
  · have H2 := Lib.hid (show meas l = .bad 2 by rw [HM.out, if_pos h40])
    go_enter Tryd.func44, Tryd.ntmps44
    go_wp2_with (go_at_call 53; refine HS.out.mono ?_; rintro e w' ⟨rfl, rfl⟩)
    go_ret3
    exact ⟨by rw [H2.out]; rfl, rfl⟩
  · have h40' : n ≤ 40 := by omega
    have HT := Lib.hid (extract_take l n)
    cases hw : isW (l.take n)
    · have H2 := Lib.hid (show meas l = .ok 0 n by rw [HM.out, if_neg h40, hw]; rfl)
      have HW := Lib.hid hw
      clear hw h40
      go_enter Tryd.func44, Tryd.ntmps44
      go_wp2_with (first | (go_at_call 53; refine HS.out.mono ?_; rintro e w' ⟨rfl, rfl⟩) | (go_at_call 55; rw [HT.out]; refine (isWord_any _ _).mono ?_; rw [HW.out]; rintro e w' ⟨rfl, rfl⟩))
      go_ret3
      exact ⟨by rw [H2.out]; rfl, rfl⟩
    · have H2 := Lib.hid (show meas l = .ok 3 n by rw [HM.out, if_neg h40, hw]; rfl)
      have HW := Lib.hid hw
      clear hw h40
      go_enter Tryd.func44, Tryd.ntmps44
      go_wp2_with (first | (go_at_call 53; refine HS.out.mono ?_; rintro e w' ⟨rfl, rfl⟩) | (go_at_call 55; rw [HT.out]; refine (isWord_any _ _).mono ?_; rw [HW.out]; rintro e w' ⟨rfl, rfl⟩))
      go_ret3
      exact ⟨by rw [H2.out]; rfl, rfl⟩
set_option maxHeartbeats 1000000 in
theorem lxNumber_any (a : UInt8) (r : Bs) (ha : isL a = false) (hd : isD a = true) (hl : (a :: r).length ≤ 1000000000) (w : World) :
    Calls Tryd.prog 46 #[.string ⟨(a :: r).toArray⟩] w fun e w' => e = .returned (mres (meas (a :: r))) ∧ w' = w := by
  obtain ⟨l, hL⟩ : ∃ l, l = a :: r := ⟨_, rfl⟩
  have HM := Lib.hid (show meas l = if 1 < spn isD l ∧ a = 48 then .bad 1 else if 300 < spn isD l then .bad 2 else .ok 1 (spn isD l) by rw [hL, meas_cons, if_neg (by rw [ha]; decide), if_pos hd])
  have hp : 0 < l.length := by rw [hL]; simp
  have h0 : (⟨l.toArray⟩ : ByteArray)[0]'hp = a := by subst hL; rfl
  rw [← hL] at hl ⊢
  clear hL ha hd
  have hsz : (⟨l.toArray⟩ : ByteArray).size = l.length := rfl
  obtain ⟨n, hn⟩ : ∃ n, n = spn isD l := ⟨_, rfl⟩
  have hs := span_d l w hl
  have hle := spn_le isD l
  rw [← hn] at HM hs hle
  have HS := Lib.hid hs
  clear hs hn
  by_cases h1 : 1 < n
  · by_cases h48 : a = 48
    · have H2 := Lib.hid (show meas l = .bad 1 by rw [HM.out, if_pos ⟨h1, h48⟩])
      have hx : ((a.toNat : Int) == 48) = true := byte_yes 48 h48
      clear h48
      go_enter Tryd.func46, Tryd.ntmps46
      go_wp2_with (go_at_call 53; refine HS.out.mono ?_; rintro e w' ⟨rfl, rfl⟩)
      go_ret3
      exact ⟨by rw [H2.out]; rfl, rfl⟩
    · have hx : ((a.toNat : Int) == 48) = false := byte_no 48 h48
      by_cases h3 : 300 < n
      · have H2 := Lib.hid (show meas l = .bad 2 by rw [HM.out, if_neg (fun h => h48 h.2), if_pos h3])
        clear h48
        go_enter Tryd.func46, Tryd.ntmps46
        go_wp2_with (go_at_call 53; refine HS.out.mono ?_; rintro e w' ⟨rfl, rfl⟩)
        go_ret3
        exact ⟨by rw [H2.out]; rfl, rfl⟩
      · have h3' : n ≤ 300 := by omega
        have H2 := Lib.hid (show meas l = .ok 1 n by rw [HM.out, if_neg (fun h => h48 h.2), if_neg h3])
        clear h48 h3
        go_enter Tryd.func46, Tryd.ntmps46
        go_wp2_with (go_at_call 53; refine HS.out.mono ?_; rintro e w' ⟨rfl, rfl⟩)
        go_ret3
        exact ⟨by rw [H2.out]; rfl, rfl⟩
  · have h1' : n ≤ 1 := by omega
    have H2 := Lib.hid (show meas l = .ok 1 n by rw [HM.out, if_neg (fun h => h1 h.1), if_neg (by omega)])
    clear h1
    go_enter Tryd.func46, Tryd.ntmps46
    go_wp2_with (go_at_call 53; refine HS.out.mono ?_; rintro e w' ⟨rfl, rfl⟩)
    go_ret3
    exact ⟨by rw [H2.out]; rfl, rfl⟩

theorem shape_mres (m : Meas) : ∃ a b c, mres m = .tuple #[a, b, c] := by
  cases m <;> exact ⟨_, _, _, rfl⟩
set_option maxHeartbeats 1000000 in
theorem measure_any (l : Bs) (hl : l.length ≤ 1000000000) (w : World) :
    Calls Tryd.prog 34 #[.string ⟨l.toArray⟩] w fun e w' => e = .returned (mres (meas l)) ∧ w' = w := by
  cases l with
  | nil =>
    go_enter Tryd.func34, Tryd.ntmps34
    go_wp2
    go_ret3
    exact ⟨rfl, rfl⟩
  | cons a r =>
    have hnn := name_any a r
    have hdd := lxNumber_any a r
    have HG := Lib.hid (sign_any a r hl w)
    have HM := Lib.hid (meas_cons a r)
    obtain ⟨l, hL⟩ : ∃ l, l = a :: r := ⟨_, rfl⟩
    have hp : 0 < l.length := by rw [hL]; simp
    have h0 : (⟨l.toArray⟩ : ByteArray)[0]'hp = a := by subst hL; rfl
    have he : (l == []) = false := by rw [hL]; rfl
    rw [← hL] at hl hnn hdd HG HM ⊢
    clear hL
    have hsz : (⟨l.toArray⟩ : ByteArray).size = l.length := rfl
    cases ha : isL a
    · cases hd : isD a
      · have H2 := Lib.hid (show meas l = if 0 < sgn l then .ok 2 (sgn l) else .bad 1 by rw [HM.out, if_neg (by rw [ha]; decide), if_neg (by rw [hd]; decide)])
        obtain ⟨n, hn⟩ : ∃ n, n = sgn l := ⟨_, rfl⟩
        have hle := (sgn_le l).1
        rw [← hn] at HG H2 hle
        have HA := Lib.hid ha
        have HD := Lib.hid hd
        clear hnn hdd ha hd hn HM
        by_cases h3 : 0 < n
        · have H3 := Lib.hid (show meas l = .ok 2 n by rw [H2.out, if_pos h3])
          go_enter Tryd.func34, Tryd.ntmps34
          go_wp2_with (first
            | (go_at_call 43; refine (isLetter_any a _).mono ?_; rw [HA.out]; rintro e w' ⟨rfl, rfl⟩)
            | (go_at_call 45; refine (isDigit_any a _).mono ?_; rw [HD.out]; rintro e w' ⟨rfl, rfl⟩)
            | (go_at_call 47; refine HG.out.mono ?_; rintro e w' ⟨rfl, rfl⟩))
          go_ret3
          exact ⟨by rw [H3.out]; rfl, rfl⟩
        · have hn0 : n = 0 := by omega
          subst hn0
          have H3 := Lib.hid (show meas l = .bad 1 by rw [H2.out, if_neg h3])
          clear h3
          go_enter Tryd.func34, Tryd.ntmps34
          go_wp2_with (first
            | (go_at_call 43; refine (isLetter_any a _).mono ?_; rw [HA.out]; rintro e w' ⟨rfl, rfl⟩)
            | (go_at_call 45; refine (isDigit_any a _).mono ?_; rw [HD.out]; rintro e w' ⟨rfl, rfl⟩)
            | (go_at_call 47; refine HG.out.mono ?_; rintro e w' ⟨rfl, rfl⟩))
          go_ret3
          exact ⟨by rw [H3.out]; rfl, rfl⟩
      · have HC := Lib.hid (hdd ha hd hl w)
        obtain ⟨x, y, z, hx⟩ := shape_mres (meas l)
        rw [hx] at HC ⊢
        have HA := Lib.hid ha
        have HD := Lib.hid hd
        clear hnn hdd ha hd hx HM
        go_enter Tryd.func34, Tryd.ntmps34
        go_wp2_with (first
          | (go_at_call 43; refine (isLetter_any a _).mono ?_; rw [HA.out]; rintro e w' ⟨rfl, rfl⟩)
          | (go_at_call 45; refine (isDigit_any a _).mono ?_; rw [HD.out]; rintro e w' ⟨rfl, rfl⟩)
          | (go_at_call 46; refine HC.out.mono ?_; rintro e w' ⟨rfl, rfl⟩))
        go_ret3
        exact ⟨rfl, rfl⟩
    · have HC := Lib.hid (hnn ha hl w)
      obtain ⟨x, y, z, hx⟩ := shape_mres (meas l)
      rw [hx] at HC ⊢
      have HA := Lib.hid ha
      clear hnn hdd ha hx HM
      go_enter Tryd.func34, Tryd.ntmps34
      go_wp2_with (first
        | (go_at_call 43; refine (isLetter_any a _).mono ?_; rw [HA.out]; rintro e w' ⟨rfl, rfl⟩)
        | (go_at_call 44; refine HC.out.mono ?_; rintro e w' ⟨rfl, rfl⟩))
      go_ret3
      exact ⟨rfl, rfl⟩
end Go.Proofs.YtdpfgfkoboihcaaDoor
