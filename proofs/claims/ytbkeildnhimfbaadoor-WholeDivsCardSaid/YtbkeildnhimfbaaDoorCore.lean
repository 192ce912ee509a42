/-
  What the texts behind share: rows of slice values, bounds of sums.
-/
import Derived.Test.YtbkeildnhimfbaaDoorRefC
namespace Go.Proofs.YtbkeildnhimfbaaDoor
open Go.RowKit
set_option maxRecDepth 100000

theorem dig_last {B n : Nat} (hB : 2 ≤ B) (h : 0 < (dig B n).length) : (dig B n).getD ((dig B n).length - 1) 0 ≠ 0 := by
  intro h0
  have h1 := take_nz hB (Dig_dig hB n)
  rw [val_dig hB] at h1
  have h2 := congrArg List.length h1
  rw [List.length_take] at h2
  have h3 := nz_zero (xs := dig B n) (k := (dig B n).length - 1) (by omega) h0
  rw [show (dig B n).length - 1 + 1 = (dig B n).length by omega, List.take_length] at h3
  have h4 := nz_le ((dig B n).take ((dig B n).length - 1))
  rw [List.length_take] at h4
  omega

/-- m slice values lie one behind the other from cell 0 of block g on, of lengths L 0, L 1, .. -/
def Rows2 (w : World) (g m : Nat) (L : Nat → Nat) : Prop := ∀ j, j < m → ∃ ao c, w.cell? ⟨g, j, none⟩ = some (.slice ao (L j) c)

theorem rows2_two {w : World} {g : Nat} {ao bo : Option Addr} {n m ac bc : Nat} (T : TypeId) (h : w.heap[g]? = some (.cells #[.slice ao n ac, .slice bo m bc] T (0, 0))) :
    Rows2 w g 2 (fun j => if j = 0 then n else m) := by
  intro j hj
  match j, hj with
  | 0, _ => exact ⟨ao, ac, by rw [cell_of_row w g 0 _ T (0, 0) h]; rfl⟩
  | 1, _ => exact ⟨bo, bc, by rw [cell_of_row w g 1 _ T (0, 0) h]; rfl⟩

theorem limb_bits {xs : List Nat} (dx : Dig L32 xs) : val L32 xs < 2 ^ (32 * xs.length) := by
  have h := val_lt dx
  rwa [Nat.pow_mul]
theorem bits_len {xs : List Nat} {n : Nat} (dx : Dig L32 xs) (h : 32 * xs.length ≤ n) : (dig 2 (val L32 xs)).length ≤ n :=
  Nat.le_trans (length_dig_le (by decide) (limb_bits dx)) h
theorem sum_lt {xs ys : List Nat} {n : Nat} (dx : Dig L32 xs) (dy : Dig L32 ys) (lx : xs.length ≤ n) (ly : ys.length ≤ n) : val L32 xs + val L32 ys < L32 ^ (n + 1) := by
  have h1 := Nat.lt_of_lt_of_le (val_lt dx) (Nat.pow_le_pow_right (n := L32) (by decide) lx)
  have h2 := Nat.lt_of_lt_of_le (val_lt dy) (Nat.pow_le_pow_right (n := L32) (by decide) ly)
  rw [Nat.pow_succ]
  have : L32 ^ n * 2 ≤ L32 ^ n * L32 := Nat.mul_le_mul_left _ (by decide)
  omega

theorem bits_le {m n : Nat} (h : ¬ m < n) : (dig 2 n).length ≤ (dig 2 m).length :=
  length_dig_le (by decide) (by
    have h1 := val_lt (Dig_dig (B := 2) (by decide) m)
    rw [val_dig (by decide)] at h1
    omega)
theorem diff_lt {xs : List Nat} {n m : Nat} (dx : Dig L32 xs) (lx : xs.length ≤ n) : val L32 xs - m < L32 ^ n := by
  have h1 := Nat.lt_of_lt_of_le (val_lt dx) (Nat.pow_le_pow_right (n := L32) (by decide) lx)
  omega

end Go.Proofs.YtbkeildnhimfbaaDoor
