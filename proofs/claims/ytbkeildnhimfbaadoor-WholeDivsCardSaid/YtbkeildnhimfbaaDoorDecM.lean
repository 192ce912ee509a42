/-
  Decimal texts and the numbers that they stand for. No program stands here.
-/
import Derived.Test.YtbkeildnhimfbaaDoorTextB
namespace Go.Proofs.YtbkeildnhimfbaaDoor
open Go.RowKit
set_option maxRecDepth 100000

theorem snoc_ind {α : Type} {P : List α → Prop} (h0 : P []) (h1 : ∀ l c, P l → P (l ++ [c])) : ∀ l, P l := by
  intro l
  rw [← List.reverse_reverse l]
  induction l.reverse with
  | nil => exact h0
  | cons c r ih => rw [List.reverse_cons]; exact h1 _ _ ih

/-- The number that a row of digits stands for. -/
def dn (l : List UInt8) : Nat := l.foldl (fun n c => 10 * n + (c.toNat - 48)) 0
/-- All are digits. -/
def AllD (l : List UInt8) : Prop := ∀ c ∈ l, 48 ≤ c.toNat ∧ c.toNat ≤ 57

theorem dn_snoc (l : List UInt8) (c : UInt8) : dn (l ++ [c]) = 10 * dn l + (c.toNat - 48) := by
  unfold dn; rw [List.foldl_append]; rfl
theorem AllD.left {l m : List UInt8} (h : AllD (l ++ m)) : AllD l := fun c hc => h c (List.mem_append_left _ hc)
theorem AllD.right {l m : List UInt8} (h : AllD (l ++ m)) : AllD m := fun c hc => h c (List.mem_append_right _ hc)
theorem AllD.take {l : List UInt8} (h : AllD l) (n : Nat) : AllD (l.take n) := fun c hc => h c (List.mem_of_mem_take hc)
theorem AllD.drop {l : List UInt8} (h : AllD l) (n : Nat) : AllD (l.drop n) := fun c hc => h c (List.mem_of_mem_drop hc)

theorem dn_append (l : List UInt8) : ∀ m : List UInt8, dn (l ++ m) = dn l * 10 ^ m.length + dn m := by
  refine snoc_ind (by simp [dn]) fun m c ih => ?_
  · rw [← List.append_assoc, dn_snoc, dn_snoc, ih, List.length_append, List.length_singleton, Nat.pow_succ]
    generalize 10 ^ m.length = p
    have : dn l * (p * 10) = 10 * (dn l * p) := by grind
    omega
theorem dn_lt : ∀ {l : List UInt8} (_ : AllD l), dn l < 10 ^ l.length := by
  intro l
  refine snoc_ind (P := fun l => AllD l → dn l < 10 ^ l.length) (by simp [dn]) (fun m c ih h => ?_) l
  · have h1 := ih h.left
    have h2 := h c (List.mem_append_right _ (List.mem_singleton.2 rfl))
    rw [dn_snoc, List.length_append, List.length_singleton, Nat.pow_succ]
    omega

/-- A text of digits that doesn't begin with 0 is the text of its number. -/
theorem dec_dn : ∀ {l : List UInt8}, AllD l → l.getD 0 48 ≠ 48 → 0 < dn l ∧ Lib.decDigits (dn l) = l := by
  intro l
  refine snoc_ind (P := fun l => AllD l → l.getD 0 48 ≠ 48 → 0 < dn l ∧ Lib.decDigits (dn l) = l) (by intro _ h; simp at h) (fun m c ih h hne => ?_) l
  have hc := h c (List.mem_append_right _ (List.mem_singleton.2 rfl))
  have e0 : UInt8.ofNat (48 + (c.toNat - 48)) = c := by
    rw [show 48 + (c.toNat - 48) = c.toNat by omega]; exact UInt8.ofNat_toNat
  rw [dn_snoc]
  cases m with
  | nil =>
    have hc0 : c ≠ 48 := by simpa using hne
    have hc1 : c.toNat ≠ 48 := fun e => hc0 (UInt8.toNat_inj.1 e)
    refine ⟨by omega, ?_⟩
    rw [show dn [] = 0 from rfl, Lib.decDigits_one (by omega), show 48 + (10 * 0 + (c.toNat - 48)) = 48 + (c.toNat - 48) by omega, e0]
    rfl
  | cons a m =>
    obtain ⟨h1, h2⟩ := ih h.left (by simpa using hne)
    refine ⟨by omega, ?_⟩
    have h3 := decDigits_pad 1 (dn (a :: m)) (c.toNat - 48) h1 (by omega)
    rw [show 10 * dn (a :: m) + (c.toNat - 48) = dn (a :: m) * 10 ^ 1 + (c.toNat - 48) by omega, h3, h2]
    simp only [pad, List.nil_append]
    rw [show (c.toNat - 48) % 10 = c.toNat - 48 by omega, e0]

theorem digit_of {d : Nat} (h : d < 10) : (UInt8.ofNat (48 + d)).toNat = 48 + d := by
  rw [UInt8.toNat_ofNat']; omega
/-- The text of a number: digits, that number, no 0 ahead. -/
theorem dn_dec (n : Nat) : AllD (Lib.decDigits n) ∧ dn (Lib.decDigits n) = n ∧ Lib.decDigits n ≠ [] ∧ (0 < n → (Lib.decDigits n).getD 0 48 ≠ 48) := by
  induction n using Nat.strongRecOn with
  | ind n ih =>
    by_cases h : n < 10
    · rw [Lib.decDigits_one h]
      refine ⟨?_, ?_, by simp, ?_⟩
      · intro c hc
        obtain rfl := List.mem_singleton.1 hc
        rw [digit_of h]; omega
      · show 10 * 0 + ((UInt8.ofNat (48 + n)).toNat - 48) = n
        rw [digit_of h]; omega
      · intro h0 e
        have e1 : UInt8.ofNat (48 + n) = 48 := e
        have e2 := congrArg UInt8.toNat e1
        rw [digit_of h] at e2
        have e3 : (48 : UInt8).toNat = 48 := rfl
        omega
    · obtain ⟨h1, h2, h3, h4⟩ := ih (n / 10) (by omega)
      have hd : n % 10 < 10 := by omega
      rw [Lib.decDigits, dif_neg h]
      refine ⟨?_, ?_, by simp, ?_⟩
      · intro c hc
        rcases List.mem_append.1 hc with hc | hc
        · exact h1 c hc
        · obtain rfl := List.mem_singleton.1 hc
          rw [digit_of hd]; omega
      · rw [dn_snoc, h2, digit_of hd]; omega
      · intro _
        have h5 := h4 (by omega)
        cases hl : Lib.decDigits (n / 10) with
        | nil => exact absurd hl h3
        | cons a m => rw [hl] at h5; simpa using h5

/-- A numeral: digits, at least one, at most 300, no needless 0 ahead. -/
def Numeral (l : List UInt8) : Prop := l ≠ [] ∧ l.length ≤ 300 ∧ (1 < l.length → l.getD 0 48 ≠ 48) ∧ AllD l
theorem Numeral.text {l : List UInt8} (h : Numeral l) : Lib.decDigits (dn l) = l := by
  obtain ⟨h1, h2, h3, h4⟩ := h
  by_cases h0 : l.getD 0 48 = 48
  · match l, h1, h3, h4, h0 with
    | [c], _, _, _, h0 =>
      have : c = 48 := by simpa using h0
      subst this
      rw [show dn [48] = 0 from rfl, Lib.decDigits_one (by decide)]
      rfl
    | a :: b :: m, _, h3, _, h0 => exact absurd h0 (h3 (by simp))
  · exact (dec_dn h4 h0).2
theorem numeral_dec {n : Nat} (h : (Lib.decDigits n).length ≤ 300) : Numeral (Lib.decDigits n) := by
  obtain ⟨h1, h2, h3, h4⟩ := dn_dec n
  refine ⟨h3, h, fun hl => h4 ?_, h1⟩
  rcases Nat.eq_zero_or_pos n with h0 | h0
  · rw [h0, Lib.decDigits_one (by decide)] at hl; simp at hl
  · exact h0
end Go.Proofs.YtbkeildnhimfbaaDoor
