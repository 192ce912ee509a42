/-
  The contracts of package nat said of numbers: a value that reads as a number of at most k limbs.
-/
import Derived.Test.YtbkeildnhimfbaaDoorSmall
import Derived.Test.YtbkeildnhimfbaaDoorMulA
namespace Go.Proofs.YtbkeildnhimfbaaDoor
open Go.RowKit
set_option maxRecDepth 100000

/-- The slice v reads, in w, as limbs of the number n, of which there are at most k. -/
def GN (w : World) (v : Value) (n k : Nat) : Prop := ∃ xs, Sl w .u32 v xs ∧ Dig L32 xs ∧ val L32 xs = n ∧ xs.length ≤ k

theorem GN.below {w w' : World} {v : Value} {n k : Nat} (h : GN w v n k) (hb : Below w.heap.size w w') : GN w' v n k := by
  obtain ⟨xs, h1, h2, h3, h4⟩ := h; exact ⟨xs, h1.below hb, h2, h3, h4⟩
theorem GN.lt {w : World} {v : Value} {n k : Nat} (h : GN w v n k) : n < L32 ^ k := by
  obtain ⟨xs, _, h2, h3, h4⟩ := h
  rw [← h3]; exact Nat.lt_of_lt_of_le (val_lt h2) (Nat.pow_le_pow_right (by decide) h4)
theorem gn_dig {w : World} {v : Value} {n k : Nat} (h : Sl w .u32 v (dig L32 n)) (hn : n < L32 ^ k) : GN w v n k :=
  ⟨_, h, Dig_dig (by decide) _, val_dig (by decide) _, length_dig_le (by decide) hn⟩
theorem gn_of {w : World} {v : Value} {xs : List Nat} {k : Nat} (h : Sl w .u32 v xs) (hd : Dig L32 xs) (hk : xs.length ≤ k) : GN w v (val L32 xs) k := ⟨xs, h, hd, rfl, hk⟩

theorem pow_add_lt {m n k1 k2 : Nat} (h1 : m < L32 ^ k1) (h2 : n < L32 ^ k2) : m + n < L32 ^ (k1 + k2 + 1) := by
  have a : L32 ^ k1 ≤ L32 ^ (k1 + k2) := Nat.pow_le_pow_right (by decide) (by omega)
  have b : L32 ^ k2 ≤ L32 ^ (k1 + k2) := Nat.pow_le_pow_right (by decide) (by omega)
  rw [Nat.pow_succ]
  have : L32 ^ (k1 + k2) * 2 ≤ L32 ^ (k1 + k2) * L32 := Nat.mul_le_mul_left _ (by decide)
  omega

theorem add_n {va vb : Value} {m n k1 k2 : Nat} {w : World} (hx : GN w va m k1) (hy : GN w vb n k2) (h1 : k1 ≤ 1000000) (h2 : k2 ≤ 1000000) :
    Calls Tryd.prog 39 #[va, vb] w fun e w' => ∃ v, e = .returned v ∧ GN w' v (m + n) (k1 + k2 + 1) ∧ Below w.heap.size w w' := by
  have l1 := hx.lt
  have l2 := hy.lt
  obtain ⟨xs, hx, dx, rfl, lx⟩ := hx
  obtain ⟨ys, hy, dy, rfl, ly⟩ := hy
  exact (add_any _ _ _ _ w hx hy dx dy (by omega) (by omega)).mono fun _ _ ⟨v, he, hs, hb⟩ => ⟨v, he, gn_dig hs (pow_add_lt l1 l2), hb⟩
theorem mul_n {va vb : Value} {m n k1 k2 : Nat} {w : World} (hx : GN w va m k1) (hy : GN w vb n k2) (h1 : k1 ≤ 1000000) (h2 : k2 ≤ 1000000) :
    Calls Tryd.prog 44 #[va, vb] w fun e w' => ∃ v, e = .returned v ∧ GN w' v (m * n) (k1 + k2) ∧ Below w.heap.size w w' := by
  have l1 := hx.lt
  have l2 := hy.lt
  obtain ⟨xs, hx, dx, rfl, lx⟩ := hx
  obtain ⟨ys, hy, dy, rfl, ly⟩ := hy
  exact (mul_any _ _ _ _ w hx hy dx dy (by omega) (by omega)).mono fun _ _ ⟨v, he, hs, hb⟩ => ⟨v, he, gn_dig hs (by rw [Nat.pow_add]; exact Nat.mul_lt_mul'' l1 l2), hb⟩
theorem sub_n {va vb : Value} {m n k1 k2 : Nat} {w : World} (hx : GN w va m k1) (hy : GN w vb n k2) (h1 : k1 ≤ 1000000) (hle : n ≤ m) :
    Calls Tryd.prog 40 #[va, vb] w fun e w' => ∃ v, e = .returned (.tuple #[v, .bool true]) ∧ GN w' v (m - n) k1 ∧ Below w.heap.size w w' := by
  have l1 := hx.lt
  obtain ⟨xs, hx, dx, rfl, lx⟩ := hx
  obtain ⟨ys, hy, dy, rfl, ly⟩ := hy
  exact (sub_ge _ _ _ _ w hx hy dx dy (by omega) hle).mono fun _ _ ⟨v, he, hs, hb⟩ => ⟨v, he, gn_dig hs (by omega), hb⟩
theorem cmp_n {va vb : Value} {m n k1 k2 : Nat} {w : World} (hx : GN w va m k1) (hy : GN w vb n k2) :
    Calls Tryd.prog 47 #[va, vb] w fun e w' => e = .returned (.int .i64 (cmpN m n)) ∧ Below w.heap.size w w' := by
  obtain ⟨xs, hx, dx, rfl, lx⟩ := hx
  obtain ⟨ys, hy, dy, rfl, ly⟩ := hy
  exact cmp_any _ _ _ _ w hx hy dx dy
theorem of_n (n : Nat) (z : Int) (w : World) (hz : z = (n : Int)) (hn : n < 18446744073709551616) :
    Calls Tryd.prog 51 #[.int .u64 z] w fun e w' => ∃ v, e = .returned v ∧ GN w' v n 2 ∧ Below w.heap.size w w' :=
  (of_any n z w hz hn).mono fun _ _ ⟨v, he, hs, hb⟩ => ⟨v, he, gn_dig hs (by have h : L32 ^ 2 = 18446744073709551616 := by decide
                                                                             omega), hb⟩

/-- The lengths of three slices, one behind the other. -/
def three (a b c : Nat) : Nat → Nat
  | 0 => a
  | 1 => b
  | _ => c
theorem rows2_three {w : World} {g : Nat} {ao bo co : Option Addr} {n m l ac bc cc : Nat} (T : TypeId) (h : w.heap[g]? = some (.cells #[.slice ao n ac, .slice bo m bc, .slice co l cc] T (0, 0))) :
    Rows2 w g 3 (three n m l) := by
  intro j hj
  match j, hj with
  | 0, _ => exact ⟨ao, ac, by rw [cell_of_row w g 0 _ T (0, 0) h]; rfl⟩
  | 1, _ => exact ⟨bo, bc, by rw [cell_of_row w g 1 _ T (0, 0) h]; rfl⟩
  | 2, _ => exact ⟨co, cc, by rw [cell_of_row w g 2 _ T (0, 0) h]; rfl⟩
end Go.Proofs.YtbkeildnhimfbaaDoor
