/-
  Contracts of package nat: Div whole, low, Gcd.
-/
import Derived.Test.YtbkeildnhimfbaaDoorDivD
namespace Go.Proofs.YtbkeildnhimfbaaDoor
open Go.RowKit
set_option maxRecDepth 100000

/-- The top digit of a number without needless zeros isn't 0. -/
theorem nz_top {xs : List Nat} {B : Nat} (hB : 2 ≤ B) (dx : Dig B xs) (h : nz xs = xs.length) (hp : 0 < xs.length) : 0 < xs.getD (xs.length - 1) 0 := by
  rcases Nat.eq_zero_or_pos (xs.getD (xs.length - 1) 0) with h0 | h0
  · exfalso
    have e := val_take_succ' B xs (xs.length - 1)
    rw [show xs.length - 1 + 1 = xs.length by omega, List.take_length, h0, Nat.zero_mul, Nat.add_zero] at e
    have h1 : (dig B (val B xs)).length = nz xs := length_dig_val hB dx
    have h2 := val_lt (dx.take (xs.length - 1))
    rw [← e, List.length_take, Nat.min_eq_left (by omega)] at h2
    have h3 := length_dig_le hB h2
    omega
  · exact h0
theorem nz_take_nz {xs : List Nat} {B : Nat} (hB : 2 ≤ B) (dx : Dig B xs) : nz (xs.take (nz xs)) = nz xs := by
  have h1 : (dig B (val B xs)).length = nz xs := length_dig_val hB dx
  have h2 : (dig B (val B (xs.take (nz xs)))).length = nz (xs.take (nz xs)) := length_dig_val hB (dx.take _)
  rw [val_take_nz hB dx] at h2
  omega

set_option maxHeartbeats 1000000 in
theorem div_two (va vb : Value) (xs ys : List Nat) (w : World) (hx : Sl w .u32 va xs) (hy : Sl w .u32 vb ys) (dx : Dig L32 xs) (dy : Dig L32 ys) (lx : xs.length ≤ 900000) (h0 : val L32 ys ≤ val L32 xs) (h1 : 2 ≤ nz ys) :
    Calls Tryd.prog 50 #[va, vb] w fun e w' => ∃ q r, e = .returned (.tuple #[q, r, .bool true]) ∧ Sl w' .u32 q (dig L32 (val L32 xs / val L32 ys)) ∧ Sl w' .u32 r (dig L32 (val L32 xs % val L32 ys)) ∧ Below w.heap.size w w' := by
  obtain ⟨ao, ac, rfl⟩ := sl_shape hx
  obtain ⟨bo, bc, rfl⟩ := sl_shape hy
  have hly := nz_le ys
  have nx := nz_le xs
  have hx' := hx.take (nz xs) (nz_le xs)
  have hy' := hy.take (nz ys) (nz_le ys)
  have VX := val_take_nz (B := L32) (by decide) dx
  have VY := val_take_nz (B := L32) (by decide) dy
  have lX : (xs.take (nz xs)).length = nz xs := by simp; omega
  have lY : (ys.take (nz ys)).length = nz ys := by simp; omega
  have hT := nz_top (B := L32) (by decide) (dy.take (nz ys)) (by rw [nz_take_nz (B := L32) (by decide) dy, lY]) (by omega)
  have hz : (((nz ys : Nat) : Int) == 0) = false := by rw [beq_eq_false_iff_ne]; omega
  have hz1 : (((nz ys : Nat) : Int) == 1) = false := by rw [beq_eq_false_iff_ne]; omega
  have hc : 0 ≤ cmpN (val L32 (xs.take (nz xs))) (val L32 (ys.take (nz ys))) := by
    rw [VX, VY]; unfold cmpN; rw [if_neg (by omega)]; split <;> omega
  have dX := dx.take (nz xs)
  have dY := dy.take (nz ys)
  have HSX := Lib.hid hx
  have HSY := Lib.hid hy
  have SIGX := Lib.hid (fun w => sig_any ao xs.length ac xs w)
  have SIGY := Lib.hid (fun w => sig_any bo ys.length bc ys w)
  rw [← VX, ← VY] at h0 ⊢
  clear hx hy VX VY dx dy
  generalize xs.take (nz xs) = X at *
  generalize ys.take (nz ys) = Y at *
  generalize nz xs = m at *
  generalize nz ys = n at *
  have LX := Lib.hid lX
  have LY := Lib.hid lY
  have HT := Lib.hid hT
  have HLE := Lib.hid h0
  clear lX lY hT h0
  go_enter Tryd.func50, Tryd.ntmps50
  go_wp2_with fail
  refine (SIGX.out _ HSX.out).mono ?_; rintro e w' ⟨rfl, rfl⟩
  go_wp2_with fail
  refine (SIGY.out _ HSY.out).mono ?_; rintro e w' ⟨rfl, rfl⟩
  go_wp2_with fail
  refine (cmp_any _ _ _ _ _ hx' hy' dX dY).mono ?_; rintro e w1 ⟨rfl, hb1⟩
  go_wp2_with fail
  refine (divLong_any _ _ X Y w1 (hx'.below hb1) (hy'.below hb1) dX dY (by rw [LY.out]; exact h1) HT.out (by rw [LX.out]; omega) HLE.out).mono ?_
  rintro e w2 ⟨q, r, rfl, hq, hr, hb2⟩
  go_wp2_with fail
  go_ret3
  exact ⟨_, _, rfl, hq, hr, hb1.trans (hb2.mono hb1.size)⟩

theorem div_any (va vb : Value) (xs ys : List Nat) (w : World) (hx : Sl w .u32 va xs) (hy : Sl w .u32 vb ys) (dx : Dig L32 xs) (dy : Dig L32 ys) (lx : xs.length ≤ 900000) (h0 : 0 < val L32 ys) :
    Calls Tryd.prog 50 #[va, vb] w fun e w' => ∃ q r, e = .returned (.tuple #[q, r, .bool true]) ∧ Sl w' .u32 q (dig L32 (val L32 xs / val L32 ys)) ∧ Sl w' .u32 r (dig L32 (val L32 xs % val L32 ys)) ∧ Below w.heap.size w w' := by
  by_cases h : val L32 xs < val L32 ys
  · refine (div_lt va vb xs ys w hx hy dx dy (by omega) h).mono ?_
    rintro e w' ⟨r, rfl, hr, hb⟩
    exact ⟨_, _, rfl, by rw [Nat.div_eq_of_lt h, dig_zero]; exact Sl.nil _ _, by rw [Nat.mod_eq_of_lt h]; exact hr, hb⟩
  · by_cases h1 : nz ys = 1
    · exact div_one va vb xs ys w hx hy dx dy (by omega) (by omega) h1
    · exact div_two va vb xs ys w hx hy dx dy lx (by omega) (by have := nz_pos_of dy h0; omega)

/-- The same, of numbers. -/
theorem div_n {va vb : Value} {m n k1 k2 : Nat} {w : World} (hx : GN w va m k1) (hy : GN w vb n k2) (h1 : k1 ≤ 900000) (h0 : 0 < n) :
    Calls Tryd.prog 50 #[va, vb] w fun e w' => ∃ q r, e = .returned (.tuple #[q, r, .bool true]) ∧ Sl w' .u32 q (dig L32 (m / n)) ∧ Sl w' .u32 r (dig L32 (m % n)) ∧ Below w.heap.size w w' := by
  obtain ⟨xs, hx, dx, rfl, lx⟩ := hx
  obtain ⟨ys, hy, dy, rfl, ly⟩ := hy
  exact div_any _ _ _ _ w hx hy dx dy (by omega) h0
end Go.Proofs.YtbkeildnhimfbaaDoor
