/-
  Contracts of math/bits: the sum and the difference of two limbs with a carry.
-/
import Derived.Test.YtbkeildnhimfbaaDoorRows
import Derived.Test.YtbkeildnhimfbaaDoorBase
import Derived.Test.YtbkeildnhimfbaaDoorMath
namespace Go.Proofs.YtbkeildnhimfbaaDoor
open Go.RowKit
set_option maxRecDepth 100000

/-- The borrow of a subtraction of limbs. -/
def bor32 (x y c : Int) : Int := if x < y + c then 1 else 0

theorem testBit31 (n : Nat) (h : n < 4294967296) : n / 2147483648 = (n.testBit 31).toNat := by
  rw [Nat.testBit_eq_decide_div_mod_eq]
  have : n / 2 ^ 31 < 2 := by omega
  rcases (show n / 2 ^ 31 = 0 ∨ n / 2 ^ 31 = 1 by omega) with h | h <;> simp [h] <;> omega
theorem top31 (n : Nat) (h : n < 4294967296) : n.testBit 31 = decide (2147483648 ≤ n) := by
  have := testBit31 n h
  cases hb : n.testBit 31
  · rw [hb] at this; simp at this ⊢; omega
  · rw [hb] at this; simp at this ⊢; omega

theorem borrow_bits (x y d : Nat) (hx : x < 4294967296) (hy : y < 4294967296) (hd : d < 4294967296) :
    (((4294967295 ^^^ x) &&& y) ||| ((4294967295 ^^^ (x ^^^ y)) &&& d)) / 2147483648 =
      if (x < 2147483648 ∧ 2147483648 ≤ y) ∨ ((x < 2147483648 ↔ y < 2147483648) ∧ 2147483648 ≤ d) then 1 else 0 := by
  have l1 : (4294967295 ^^^ x) < 2 ^ 32 := Nat.xor_lt_two_pow (by omega) (by omega)
  have l2 : (x ^^^ y) < 2 ^ 32 := Nat.xor_lt_two_pow (by omega) (by omega)
  have l3 : (4294967295 ^^^ (x ^^^ y)) < 2 ^ 32 := Nat.xor_lt_two_pow (by omega) l2
  have l4 : (4294967295 ^^^ x) &&& y < 2 ^ 32 := Nat.and_lt_two_pow _ (by omega)
  have l5 : (4294967295 ^^^ (x ^^^ y)) &&& d < 2 ^ 32 := Nat.and_lt_two_pow _ (by omega)
  rw [testBit31 _ (Nat.or_lt_two_pow l4 l5)]
  simp only [Nat.testBit_or, Nat.testBit_and, Nat.testBit_xor]
  rw [top31 x hx, top31 y hy, top31 d hd, top31 4294967295 (by omega)]
  by_cases a : x < 2147483648 <;> by_cases b : y < 2147483648 <;> by_cases c : 2147483648 ≤ d <;> simp [a, b, c, Nat.not_le.2, Nat.not_lt.1] <;> omega

theorem borrow_u32 (x y c : Int) (hx : 0 ≤ x ∧ x < 4294967296) (hy : 0 ≤ y ∧ y < 4294967296) (hc : 0 ≤ c ∧ c ≤ 1) :
    bits BinOp.or IntKind.u32 (bits BinOp.and IntKind.u32 (bits BinOp.xor IntKind.u32 IntKind.u32.max x) y)
                (bits BinOp.and IntKind.u32 (bits BinOp.xor IntKind.u32 IntKind.u32.max (bits BinOp.xor IntKind.u32 x y)) ((x - y - c) % 4294967296)) / 2147483648 = bor32 x y c := by
  obtain ⟨X, rfl⟩ := Int.eq_ofNat_of_zero_le hx.1
  obtain ⟨Y, rfl⟩ := Int.eq_ofNat_of_zero_le hy.1
  obtain ⟨D, hD⟩ := Int.eq_ofNat_of_zero_le (show 0 ≤ ((X : Int) - Y - c) % 4294967296 by omega)
  have hX : X < 4294967296 := by omega
  have hY : Y < 4294967296 := by omega
  have hD' : D < 4294967296 := by omega
  have em : IntKind.u32.max = ((4294967295 : Nat) : Int) := by decide
  have l1 : (4294967295 ^^^ X) < 2 ^ 32 := Nat.xor_lt_two_pow (by omega) (by omega)
  have l2 : (X ^^^ Y) < 2 ^ 32 := Nat.xor_lt_two_pow (by omega) (by omega)
  have l3 : (4294967295 ^^^ (X ^^^ Y)) < 2 ^ 32 := Nat.xor_lt_two_pow (by omega) l2
  have l4 : (4294967295 ^^^ X) &&& Y < 2 ^ 32 := Nat.and_lt_two_pow _ (by omega)
  have l5 : (4294967295 ^^^ (X ^^^ Y)) &&& D < 2 ^ 32 := Nat.and_lt_two_pow _ (by omega)
  rw [hD, em, u32_xor_nat _ _ (by omega) hX, u32_xor_nat X Y hX hY, u32_xor_nat _ _ (by omega) (by omega), u32_and_nat _ _ (by omega) hY, u32_and_nat _ _ (by omega) hD', u32_or_nat _ _ (by omega) (by omega)]
  have hb := borrow_bits X Y D hX hY hD'
  have e : ((((4294967295 ^^^ X) &&& Y ||| (4294967295 ^^^ (X ^^^ Y)) &&& D : Nat) : Int)) / 2147483648 = (((((4294967295 ^^^ X) &&& Y) ||| ((4294967295 ^^^ (X ^^^ Y)) &&& D)) / 2147483648 : Nat) : Int) := by omega
  rw [e, hb]
  unfold bor32
  by_cases h : (X : Int) < Y + c
  · rw [if_pos h, if_pos (by omega)]; rfl
  · rw [if_neg h, if_neg (by omega)]; rfl

set_option maxHeartbeats 400000 in
theorem add32_any (x y c : Int) (w : World) (hx : 0 ≤ x ∧ x < 4294967296)  (hy : 0 ≤ y ∧ y < 4294967296) (hc : 0 ≤ c ∧ c ≤ 1) :
    Calls Tryd.prog 85 #[.int .u32 x, .int .u32 y, .int .u32 c] w fun e w' => e = .returned (.tuple #[.int .u32 ((x + y + c) % 4294967296), .int .u32 ((x + y + c) / 4294967296)]) ∧ w = w' := by
  go_enter Tryd.func85, Tryd.ntmps85
  go_wp2
  go_ret2
  exact ⟨rfl, rfl⟩
set_option maxHeartbeats 400000 in
theorem sub32_any (x y c : Int) (w : World) (hx : 0 ≤ x ∧ x < 4294967296)  (hy : 0 ≤ y ∧ y < 4294967296) (hc : 0 ≤ c ∧ c ≤ 1) :
    Calls Tryd.prog 86 #[.int .u32 x, .int .u32 y, .int .u32 c] w fun e w' => e = .returned (.tuple #[.int .u32 ((x - y - c) % 4294967296), .int .u32 (bor32 x y c)]) ∧ w = w' := by
  have hb := Lib.hid (borrow_u32 x y c hx hy hc)
  go_enter Tryd.func86, Tryd.ntmps86
  go_wp2
  all_goals first
    | (go_ret2; exact ⟨by rw [← hb.out]; rfl, rfl⟩)
    | (exfalso; rename_i h; exact h rfl)
end Go.Proofs.YtbkeildnhimfbaaDoor
