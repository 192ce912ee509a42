/-
  Joined: RefA, RefB, RefC, Core.
-/
import Derived.Test.YtinfbmnimkcdjaaKNat
/- Contracts of the reference package: cut, Bits, at. -/
namespace Go.Proofs.Ytinfbmnimkcdjaa
open Go.RowKit
set_option maxRecDepth 100000

/-- The length in a slot. -/
def lenOfV : Value → Nat | .slice _ n _ => n | _ => 0

/-- Bit m of limb k. -/
def bitN (xs : List Nat) (k m : Nat) : Nat := xs.getD k 0 / 2 ^ m % 2
def bitI (xs : List Nat) (k m : Nat) : Int := ((bitN xs k m : Nat) : Int)
theorem bitI_bound (xs : List Nat) (k m : Nat) : 0 ≤ bitI xs k m ∧ bitI xs k m ≤ 1 := by unfold bitI bitN; omega
theorem and_bit {xs : List Nat} (h : Dig L32 xs) (k m : Nat) : bits BinOp.and IntKind.u32 (nth xs k / 2 ^ m) 1 = bitI xs k m := by
  have h1 := h.getD (by decide) k
  unfold nth bitI bitN
  have e : ((xs.getD k 0 : Nat) : Int) / 2 ^ m = ((xs.getD k 0 / 2 ^ m : Nat) : Int) := by simp
  have hle : xs.getD k 0 / 2 ^ m < 4294967296 := Nat.lt_of_le_of_lt (Nat.div_le_self _ _) h1
  rw [e, show (1 : Int) = ((1 : Nat) : Int) from rfl, u32_and_nat _ _ hle (by decide), nat_mask1]

theorem bits_step {xs cs : List Nat} {k m V : Nat} (hl : cs.length = 32 * k + m) (hv : val 2 cs = V + 2 ^ (32 * k) * (xs.getD k 0 % 2 ^ m)) :
    val 2 (cs ++ [bitN xs k m]) = V + 2 ^ (32 * k) * (xs.getD k 0 % 2 ^ (m + 1)) := by
  rw [val_append, hv, hl, Nat.mod_pow_succ, Nat.pow_add]
  simp only [val, bitN, Nat.mul_zero, Nat.add_zero, Nat.mul_add]
  rw [Nat.mul_assoc, Nat.add_assoc]
theorem bits_round {xs cs : List Nat} {k : Nat} (hd : Dig L32 xs) (hk : k < xs.length) (hv : val 2 cs = val L32 (xs.take k) + 2 ^ (32 * k) * (xs.getD k 0 % 2 ^ 32)) : val 2 cs = val L32 (xs.take (k + 1)) := by
  rw [hv, val_take_succ _ _ _ hk, Nat.mod_eq_of_lt (hd.getD (by decide) k), Nat.pow_mul, Nat.mul_comm]

theorem infoInt : (Try.prog.info? 3).map (fun i => (i.zero, i.size, i.bytes)) = some (some (.int .i64 0), 1, 8) := by kernel_rfl

theorem bit_step {x k : Nat} : x % 2 ^ (k + 1) = x % 2 ^ k + 2 ^ k * (x / 2 ^ k % 2) := Nat.mod_pow_succ

end Go.Proofs.Ytinfbmnimkcdjaa

/- Contracts of the reference package: at, Add. -/
namespace Go.Proofs.Ytinfbmnimkcdjaa
open Go.RowKit
set_option maxRecDepth 100000

theorem nth_out {xs : List Nat} {i : Nat} (h : xs.length ≤ i) : nth xs i = 0 := by unfold nth; simp [List.getD, h]
theorem getD_out {xs : List Nat} {i : Nat} (h : xs.length ≤ i) : xs.getD i 0 = 0 := by simp [List.getD, h]

theorem val_take_succ' (B : Nat) (xs : List Nat) (k : Nat) : val B (xs.take (k + 1)) = val B (xs.take k) + xs.getD k 0 * B ^ k := by
  by_cases h : k < xs.length
  · exact val_take_succ B xs k h
  · rw [getD_out (by omega), List.take_of_length_le (by omega), List.take_of_length_le (by omega)]; simp

theorem radd_step {xs ys out : List Nat} {i cc n : Nat} (hl : out.length = i) (hv : val 2 out + cc * 2 ^ i = val 2 (xs.take i) + val 2 (ys.take i)) (hn : n = xs.getD i 0 + ys.getD i 0 + cc) :
    val 2 (out ++ [n % 2]) + (n / 2) * 2 ^ (i + 1) = val 2 (xs.take (i + 1)) + val 2 (ys.take (i + 1)) := by
  rw [val_append, val_take_succ', val_take_succ', hl, Nat.pow_succ]
  simp only [val, Nat.mul_zero, Nat.add_zero]
  have h := Nat.mod_add_div n 2
  generalize n % 2 = r at *
  generalize n / 2 = q at *
  generalize 2 ^ i = P at *
  subst hn
  have h3 : (r + 2 * q) * P = xs.getD i 0 * P + ys.getD i 0 * P + cc * P := by rw [h, Nat.add_mul, Nat.add_mul]
  grind

theorem bit_wf {xs : List Nat} (h : Dig 2 xs) (i : Nat) : 0 ≤ nth xs i ∧ nth xs i ≤ 1 := by
  have h1 := h.getD (by omega) i
  unfold nth; omega

end Go.Proofs.Ytinfbmnimkcdjaa

/- Contracts of the reference package: Sub, Cmp. -/
namespace Go.Proofs.Ytinfbmnimkcdjaa
open Go.RowKit
set_option maxRecDepth 100000

theorem rsub_step {xs ys out : List Nat} {i cc d b : Nat} (hl : out.length = i) (hv : val 2 out + val 2 (ys.take i) = val 2 (xs.take i) + cc * 2 ^ i) (hn : d + ys.getD i 0 + cc = xs.getD i 0 + 2 * b) :
    val 2 (out ++ [d]) + val 2 (ys.take (i + 1)) = val 2 (xs.take (i + 1)) + b * 2 ^ (i + 1) := by
  rw [val_append, val_take_succ', val_take_succ', hl, Nat.pow_succ]
  simp only [val, Nat.mul_zero, Nat.add_zero]
  generalize 2 ^ i = P at *
  have h3 : (d + ys.getD i 0 + cc) * P = (xs.getD i 0 + 2 * b) * P := by rw [hn]
  grind

theorem rsub_end {xs ys out : List Nat} {cc : Nat} (hl : out.length = xs.length) (hd : Dig 2 out) (hy : ys.length ≤ xs.length) (hle : val 2 ys ≤ val 2 xs) (hv : val 2 out + val 2 (ys.take xs.length) = val 2 (xs.take xs.length) + cc * 2 ^ xs.length) : val 2 out = val 2 xs - val 2 ys := by
  rw [List.take_of_length_le hy, List.take_length] at hv
  have h1 := val_lt hd
  rw [hl] at h1
  rcases Nat.eq_zero_or_pos cc with h | h
  · subst h; omega
  · have : 1 * 2 ^ xs.length ≤ cc * 2 ^ xs.length := Nat.mul_le_mul_right _ h
    omega

theorem Ow.apart {w : World} {base : Nat} {k : IntKind} {T : TypeId} {v : Value} {xs : List Nat} (h : Ow w base k T v xs) {g : Nat} (hg : g < base) : Apart g v := by
  intro a n c e hb
  subst e
  have := h.base_le a.block rfl
  omega
theorem cmp_canon {m n : Nat} {B : Nat} (hB : 2 ≤ B) (h : (dig B m).length < (dig B n).length) : m < n :=
  Nat.lt_of_lt_of_le (lt_pow_of_length hB (Nat.le_refl _)) (le_of_length hB h)
theorem cmp_top2 (m n k : Nat) (hk : k < (dig 2 m).length) (hk' : k < (dig 2 n).length) (he : (dig 2 m).drop (k + 1) = (dig 2 n).drop (k + 1)) (h : (dig 2 m).getD k 0 < (dig 2 n).getD k 0) : m < n := by
  have := cmp_top (Dig_dig (B := 2) (by decide) m) hk hk' he h
  rwa [val_dig (by decide), val_dig (by decide)] at this

end Go.Proofs.Ytinfbmnimkcdjaa

/- What the texts behind share: rows of slice values, bounds of sums. -/
namespace Go.Proofs.Ytinfbmnimkcdjaa
open Go.RowKit
set_option maxRecDepth 100000

theorem dig_last {B n : Nat} (hB : 2 ≤ B) (h : 0 < (dig B n).length) : (dig B n).getD ((dig B n).length - 1) 0 ≠ 0 := by
  intro h0
  have h1 := take_nz hB (Dig_dig hB n)
  rw [val_dig hB] at h1
  have h2 := congrArg List.length h1
  rw [List.length_take] at h2
  have h3 := nz_zero (xs := dig B n) (k := (dig B n).length - 1) (by omega) h0
  rw [show (dig B n).length - 1 + 1 = (dig B n).length by omega, List.take_length] at h3
  have h4 := nz_le ((dig B n).take ((dig B n).length - 1))
  rw [List.length_take] at h4
  omega

/-- m slice values lie one behind the other from cell 0 of block g on, of lengths L 0, L 1, .. -/
def Rows2 (w : World) (g m : Nat) (L : Nat → Nat) : Prop := ∀ j, j < m → ∃ ao c, w.cell? ⟨g, j, none⟩ = some (.slice ao (L j) c)

theorem rows2_two {w : World} {g : Nat} {ao bo : Option Addr} {n m ac bc : Nat} (T : TypeId) (h : w.heap[g]? = some (.cells #[.slice ao n ac, .slice bo m bc] T (0, 0))) :
    Rows2 w g 2 (fun j => if j = 0 then n else m) := by
  intro j hj
  match j, hj with
  | 0, _ => exact ⟨ao, ac, by rw [cell_of_row w g 0 _ T (0, 0) h]; rfl⟩
  | 1, _ => exact ⟨bo, bc, by rw [cell_of_row w g 1 _ T (0, 0) h]; rfl⟩

theorem limb_bits {xs : List Nat} (dx : Dig L32 xs) : val L32 xs < 2 ^ (32 * xs.length) := by
  have h := val_lt dx
  rwa [Nat.pow_mul]
theorem bits_len {xs : List Nat} {n : Nat} (dx : Dig L32 xs) (h : 32 * xs.length ≤ n) : (dig 2 (val L32 xs)).length ≤ n :=
  Nat.le_trans (length_dig_le (by decide) (limb_bits dx)) h
theorem sum_lt {xs ys : List Nat} {n : Nat} (dx : Dig L32 xs) (dy : Dig L32 ys) (lx : xs.length ≤ n) (ly : ys.length ≤ n) : val L32 xs + val L32 ys < L32 ^ (n + 1) := by
  have h1 := Nat.lt_of_lt_of_le (val_lt dx) (Nat.pow_le_pow_right (n := L32) (by decide) lx)
  have h2 := Nat.lt_of_lt_of_le (val_lt dy) (Nat.pow_le_pow_right (n := L32) (by decide) ly)
  rw [Nat.pow_succ]
  have : L32 ^ n * 2 ≤ L32 ^ n * L32 := Nat.mul_le_mul_left _ (by decide)
  omega

theorem bits_le {m n : Nat} (h : ¬ m < n) : (dig 2 n).length ≤ (dig 2 m).length :=
  length_dig_le (by decide) (by
    have h1 := val_lt (Dig_dig (B := 2) (by decide) m)
    rw [val_dig (by decide)] at h1
    omega)
theorem diff_lt {xs : List Nat} {n m : Nat} (dx : Dig L32 xs) (lx : xs.length ≤ n) : val L32 xs - m < L32 ^ n := by
  have h1 := Nat.lt_of_lt_of_le (val_lt dx) (Nat.pow_le_pow_right (n := L32) (by decide) lx)
  omega

end Go.Proofs.Ytinfbmnimkcdjaa
