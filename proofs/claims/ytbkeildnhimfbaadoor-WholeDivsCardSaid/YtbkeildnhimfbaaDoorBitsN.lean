/-
  The contract of nat.Bits.
-/
import Derived.Test.YtbkeildnhimfbaaDoorNum
namespace Go.Proofs.YtbkeildnhimfbaaDoor
open Go.RowKit
set_option maxRecDepth 100000

/-- The number of bits. -/
def bl (n : Nat) : Nat := (dig 2 n).length

theorem bl_zero : bl 0 = 0 := by unfold bl; rw [dig_zero]; rfl
theorem bl_half {n : Nat} (h : 0 < n) : bl n = 1 + bl (n / 2) := by unfold bl; rw [dig_pos (by decide) h]; simp; omega
theorem bitLen_bl (n : Nat) (h : n < 2 ^ 64) : Lib.bitLen n = bl n := by
  induction n using Nat.strongRecOn with
  | ind n ih =>
    by_cases h0 : n = 0
    · subst h0; rw [bl_zero]; decide
    · rw [Lib.bitLen_half n h0 h, bl_half (by omega), ih (n / 2) (by omega) (by omega)]
theorem bl_top (k : Nat) : ∀ v t : Nat, v < 2 ^ k → 0 < t → bl (v + t * 2 ^ k) = k + bl t := by
  induction k with
  | zero => intro v t hv ht; simp at hv; subst hv; simp
  | succ k ih =>
    intro v t hv ht
    have hp : 0 < 2 ^ (k + 1) := Nat.pow_pos (by decide)
    have hpos : 0 < v + t * 2 ^ (k + 1) := by have := Nat.mul_pos ht hp; omega
    rw [bl_half hpos]
    have e : (v + t * 2 ^ (k + 1)) / 2 = v / 2 + t * 2 ^ k := by rw [Nat.pow_succ, ← Nat.mul_assoc]; omega
    rw [e, ih (v / 2) t (by rw [Nat.pow_succ] at hv; omega) ht]
    omega
theorem bl_le {n k : Nat} (h : n < 2 ^ k) : bl n ≤ k := length_dig_le (by decide) h
theorem bl_lt {m n : Nat} (h : bl m < bl n) : m < n := cmp_canon (B := 2) (by decide) h

set_option maxHeartbeats 1000000 in
theorem bits_nat (va : Value) (xs : List Nat) (w : World) (hx : Sl w .u32 va xs) (dx : Dig L32 xs) (lx : xs.length ≤ 1000000) :
    Calls Tryd.prog 49 #[va] w fun e w' => e = .returned (.int .i64 ((bl (val L32 xs) : Nat) : Int)) ∧ w = w' := by
  have HX := Lib.hid hx
  obtain ⟨ao, ac, rfl, a1, a2, a3, a4⟩ := hx
  have nx := nz_le xs
  by_cases h0 : nz xs = 0
  · have hv : val L32 xs = 0 := by rw [← val_take_nz (B := L32) (by decide) dx, h0]; rfl
    have HV := Lib.hid hv
    have hz : (((nz xs : Nat) : Int) == 0) = true := by rw [h0]; rfl
    clear h0 hv a4
    go_enter Tryd.func49, Tryd.ntmps49
    go_wp2_with fail
    refine (sig_any _ _ _ xs _ HX.out).mono ?_; rintro e w' ⟨rfl, rfl⟩
    go_wp2_with fail
    go_ret
    exact ⟨by rw [HV.out, bl_zero]; rfl, rfl⟩
  · have hz : (((nz xs : Nat) : Int) == 0) = false := by rw [beq_eq_false_iff_ne]; omega
    have hp : 1 ≤ nz xs := by omega
    obtain ⟨a, rfl, hca⟩ := a4 (nz xs - 1) (by omega)
    have t1 := dx.getD (by decide) (nz xs - 1)
    have t2 := u32_wf dx (nz xs - 1)
    have hl : bl (xs.getD (nz xs - 1) 0) ≤ 32 := bl_le t1
    have hbl : Lib.bitLen (nth xs (nz xs - 1)).toNat = bl (xs.getD (nz xs - 1) 0) := by
      unfold nth; rw [Int.toNat_natCast]; exact bitLen_bl _ (Nat.lt_trans t1 (by decide))
    have htop : 0 < xs.getD (nz xs - 1) 0 := by
      rcases Nat.eq_zero_or_pos (xs.getD (nz xs - 1) 0) with h | h
      · have h3 := nz_zero (xs := xs.take (nz xs)) (k := nz xs - 1) (by rw [List.length_take]; omega) (by simpa [List.getD, show nz xs - 1 < nz xs by omega] using h)
        have h5 : (dig L32 (val L32 xs)).length = nz xs := length_dig_val (by decide) dx
        have h6 := take_nz (B := L32) (by decide) (Dig_dig (B := L32) (by decide) (val L32 xs))
        rw [val_dig (by decide)] at h6
        have h7 := congrArg List.length h6
        rw [List.length_take, h5, dig_val_take (by decide) dx] at h7
        have h8 : nz ((xs.take (nz xs)).take (nz xs - 1 + 1)) = nz (xs.take (nz xs)) := by
          rw [show nz xs - 1 + 1 = nz xs by omega, List.take_take, Nat.min_self]
        have h9 := nz_le ((xs.take (nz xs)).take (nz xs - 1))
        rw [List.length_take, List.length_take] at h9
        omega
      · exact h
    have hfin : bl (val L32 xs) = (nz xs - 1) * 32 + bl (xs.getD (nz xs - 1) 0) := by
      have e := val_take_nz (B := L32) (by decide) dx
      have e2 := val_take_succ' L32 xs (nz xs - 1)
      rw [show nz xs - 1 + 1 = nz xs by omega] at e2
      have e3 : L32 ^ (nz xs - 1) = 2 ^ ((nz xs - 1) * 32) := by rw [Nat.mul_comm, Nat.pow_mul]
      have e4 := val_lt (dx.take (nz xs - 1))
      rw [List.length_take, Nat.min_eq_left (by omega), e3] at e4
      rw [← e, e2, e3, bl_top _ _ _ e4 htop]
    generalize bl (xs.getD (nz xs - 1) 0) = b at *
    have HF := Lib.hid hfin
    have HB := Lib.hid hbl
    clear h0 a4 hbl hfin
    go_enter Tryd.func49, Tryd.ntmps49
    go_wp2_with fail
    refine (sig_any _ _ _ xs _ HX.out).mono ?_; rintro e w' ⟨rfl, rfl⟩
    go_wp2_with fail
    refine (Tryd.bits_Len32 _ _ (by omega) (by omega)).mono ?_; rintro e w' ⟨rfl, rfl⟩
    rw [HB.out]
    go_wp2_with fail
    go_ret
    refine ⟨?_, rfl⟩
    rw [HF.out, show (((nz xs - 1) * 32 + b : Nat) : Int) = (((nz xs : Nat) : Int) - 1) * 32 + (b : Int) by omega]
    rfl
theorem cmpN_add (a b c : Nat) : cmpN (a + c) (b + c) = cmpN a b := by
  unfold cmpN
  by_cases h : a < b
  · rw [if_pos h, if_pos (by omega)]
  · rw [if_neg h, if_neg (by omega)]
    by_cases h2 : a = b
    · rw [if_pos h2, if_pos (by omega)]
    · rw [if_neg h2, if_neg (by omega)]
theorem bits_n {va : Value} {n k : Nat} {w : World} (hx : GN w va n k) (hk : k ≤ 1000000) :
    Calls Tryd.prog 49 #[va] w fun e w' => e = .returned (.int .i64 ((bl n : Nat) : Int)) ∧ w = w' := by
  obtain ⟨xs, hx, dx, rfl, lx⟩ := hx
  exact bits_nat _ _ w hx dx (by omega)

end Go.Proofs.YtbkeildnhimfbaaDoor
