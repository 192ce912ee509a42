/-
  Joined: Dgt, TwoA.
-/
import Derived.Test.YtocadojeanhalaaGreatDoorKPar
import Derived.Test.YtocadojeanhalaaGreatDoorKSh
import Derived.Test.YtocadojeanhalaaGreatDoorKDiv
import Derived.Lib.ItoaMem
/- The contract of the reference's Digits. -/
namespace Go.Proofs.YtocadojeanhalaaGreatDoor
open Go.RowKit
set_option maxRecDepth 100000

open Classical in
/-- The number that a row of bits without needless zeros reads as. -/
noncomputable def numOf2 (w : World) (v : Value) : Nat := if h : ∃ n, Sl w .i64 v (dig 2 n) then h.choose else 0
theorem numOf2_eq {w : World} {v : Value} {n : Nat} (h : Sl w .i64 v (dig 2 n)) : numOf2 w v = n := by
  have h1 : ∃ n, Sl w .i64 v (dig 2 n) := ⟨n, h⟩
  unfold numOf2
  rw [dif_pos h1]
  have h2 := sl_unique h1.choose_spec h
  have h3 := congrArg (val 2) h2
  rwa [val_dig (by decide), val_dig (by decide)] at h3

theorem four_bits {xs : List Nat} (h : xs.length ≤ 4) : xs.getD 0 0 + 2 * xs.getD 1 0 + 4 * xs.getD 2 0 + 8 * xs.getD 3 0 = val 2 xs := by
  match xs, h with
  | [], _ => rfl
  | [a], _ => simp [val]
  | [a, b], _ => simp [val]
  | [a, b, c], _ => simp [val]; omega
  | [a, b, c, d], _ => simp [val]; omega
theorem bits_digit {t : Nat} (h : t < 10) : nth (dig 2 t) 0 + 2 * nth (dig 2 t) 1 + 4 * nth (dig 2 t) 2 + 8 * nth (dig 2 t) 3 = (t : Int) := by
  have h1 := length_dig_le (B := 2) (k := 4) (n := t) (by decide) (by omega)
  have h2 := four_bits h1
  rw [val_dig (by decide)] at h2
  unfold nth
  omega
theorem bit_le (t i : Nat) : 0 ≤ nth (dig 2 t) i ∧ nth (dig 2 t) i ≤ 1 := by
  have := (Dig_dig (B := 2) (by decide) t).getD (by decide) i
  unfold nth; omega

/-- The digits of a number; of 0 none. -/
def decs (n : Nat) : List UInt8 := if n = 0 then [] else Lib.decDigits n
theorem decs_step {m : Nat} (h : 0 < m) : decs m = decs (m / 10) ++ [UInt8.ofNat (48 + m % 10)] := by
  unfold decs
  rw [if_neg (by omega)]
  by_cases h1 : m < 10
  · rw [if_pos (by omega), Lib.decDigits_one h1, Nat.mod_eq_of_lt h1]; rfl
  · rw [if_neg (by omega), Lib.decDigits, dif_neg h1]

theorem dig_ten : dig 2 10 = [0, 1, 0, 1] := by
  rw [dig_pos (by decide) (by decide), dig_pos (by decide) (by decide), dig_pos (by decide) (by decide), dig_pos (by decide) (by decide)]
  simp [dig_zero]

end Go.Proofs.YtocadojeanhalaaGreatDoor

/- Two limbs of a uint64; how long a text is. -/
namespace Go.Proofs.YtocadojeanhalaaGreatDoor
open Go.RowKit
set_option maxRecDepth 100000

theorem two_limbs {n : Nat} (h : n < 18446744073709551616) : Dig L32 [n % 4294967296, n / 4294967296] ∧ val L32 [n % 4294967296, n / 4294967296] = n := by
  refine ⟨?_, ?_⟩
  · intro x hx
    simp only [List.mem_cons, List.not_mem_nil, or_false] at hx
    rcases hx with rfl | rfl
    · exact Nat.mod_lt _ (by decide)
    · exact Nat.div_lt_of_lt_mul (by show n < 4294967296 * 4294967296; omega)
  · show n % 4294967296 + 4294967296 * (n / 4294967296 + 4294967296 * 0) = n
    omega
theorem two_blk (w : World) (n : Nat) : Blk (w.alloc (.cells #[.int .u32 ((n : Int) % 4294967296), .int .u32 ((n : Int) / 4294967296)] 75)) w.heap.size .u32 75 [n % 4294967296, n / 4294967296] := by
  unfold Blk
  rw [heap_alloc_new]
  simp
theorem text_len {n k : Nat} (h : n < L32 ^ k) (hk : 0 < k) (hk2 : k ≤ 30) : (Lib.decDigits n).length ≤ 300 := by
  have h1 : L32 ^ k ≤ 10 ^ (10 * k) := by rw [Nat.pow_mul]; exact Nat.pow_le_pow_left (by decide) _
  have := decDigits_len (Nat.lt_of_lt_of_le h h1) (by omega)
  omega

end Go.Proofs.YtocadojeanhalaaGreatDoor
