/-
  Contract of package whole: Small.
-/
import Derived.Test.YtbkeildnhimfbaaDoorWhoU
import Derived.Laws.BitsAllLaws
import Derived.Laws.BitsLemmas
namespace Go.Proofs.YtbkeildnhimfbaaDoor
open Go.RowKit
set_option maxRecDepth 100000

theorem small_ofInt (a : Nat) (ha : a < 9223372036854775808) : (BitVec.ofInt 64 (a : Int)).toNat = a := by
  rw [BitVec.ofInt_natCast, BitVec.toNat_ofNat]; exact Nat.mod_eq_of_lt (by omega)
/-- A number joined with a limb, as an int. -/
theorem small_or {r x : Nat} (hr : r < 2147483648) (hx : x < 4294967296) : bits .or .i64 ((r * 4294967296 : Nat) : Int) (x : Int) = ((r * 4294967296 + x : Nat) : Int) := by
  have e : (r * 4294967296) ||| x = r * 4294967296 + x := by
    rw [show r * 4294967296 = 2 ^ 32 * r by omega, Nat.two_pow_add_eq_or_of_lt (by simpa using hx)]
  show IntKind.i64.wrap ((BitVec.ofInt 64 ((r * 4294967296 : Nat) : Int) ||| BitVec.ofInt 64 (x : Int)).toNat : Int) = _
  rw [BitVec.toNat_or, small_ofInt _ (by omega), small_ofInt x (by omega), e, IntKind.wrap_i64]
  omega

set_option maxHeartbeats 2000000 in
theorem wsmall_no (va : Value) (z : Int) (k : Nat) (w : World) (hx : GI w va z k) (h : z < -9223372036854775808 ∨ 9223372036854775807 < z) :
    Calls Tryd.prog 27 #[va] w fun e w' => e = .returned (.tuple #[.int .i64 0, .bool false]) ∧ Below w.heap.size w w' := by
  obtain ⟨b, ao, l, c, n, rfl, hg, rfl⟩ := hx.shape
  have hW : Below w.heap.size w (w.alloc (.cells #[.bool b, .slice ao l c] 25)) := (Below.refl _ _).alloc (Nat.le_refl _) _
  have hg' := hg.below hW
  cases b
  · have hn : 9223372036854775807 < n := by simp [sg] at h; omega
    have HC := Lib.hid (cmpN_gt hn)
    clear h
    go_enter Tryd.func27, Tryd.ntmps27
    go_wp2_with fail
    go_region_held3 (fun w' => w'.cell? ⟨w.heap.size, 0, none⟩ = some (.bool false) ∧ w'.cell? ⟨w.heap.size, 1, none⟩ = some (.slice ao l c))
      (first | exact ⟨kc0, kc1⟩ | go_keep)
      (first
        | (have := gb; go_at_call 47; refine (cmp_n ga gb).mono ?_; rintro e w3 ⟨rfl, hb3⟩; rw [HC.out]; have hb3t := hb2t.trans (hb3.mono hb2t.size); replace kc0 := (hb3.cell (p := ⟨w.heap.size, 0, none⟩) hlt).trans kc0; replace kc1 := (hb3.cell (p := ⟨w.heap.size, 1, none⟩) hlt).trans kc1)
        | (go_at_call 51; refine (of_n 9223372036854775807 _ _ (by omega) (by omega)).mono ?_; rintro e w2 ⟨v2, rfl, gb, hb2'⟩; have hb2 := undrew hb2'; have ga := hg'.below hb2; have hb2t := hW.trans (hb2.mono hW.size); have hk := (hb2.block w.heap.size (by simp)).trans (heap_alloc_new w _); have hlt := lt_of_block hk; obtain ⟨kc0, kc1, -, -⟩ := two_cells hk; obtain ⟨o2, l2, c2, rfl, -⟩ := gb.shape; clear hk hb2 hb2'))
    go_wp2_with fail
    go_ret2
    exact ⟨rfl, hb3t⟩
  · have hn : 9223372036854775808 < n := by simp [sg] at h; omega
    have HC := Lib.hid (cmpN_gt hn)
    clear h
    go_enter Tryd.func27, Tryd.ntmps27
    go_wp2_with fail
    go_region_held3 (fun w' => w'.cell? ⟨w.heap.size, 0, none⟩ = some (.bool true) ∧ w'.cell? ⟨w.heap.size, 1, none⟩ = some (.slice ao l c))
      (first | exact ⟨kc0, kc1⟩ | go_keep)
      (first
        | (have := gb; go_at_call 47; refine (cmp_n ga gb).mono ?_; rintro e w3 ⟨rfl, hb3⟩; rw [HC.out]; have hb3t := hb2t.trans (hb3.mono hb2t.size); replace kc0 := (hb3.cell (p := ⟨w.heap.size, 0, none⟩) hlt).trans kc0; replace kc1 := (hb3.cell (p := ⟨w.heap.size, 1, none⟩) hlt).trans kc1)
        | (go_at_call 51; refine (of_n 9223372036854775808 _ _ (by omega) (by omega)).mono ?_; rintro e w2 ⟨v2, rfl, gb, hb2'⟩; have hb2 := undrew hb2'; have ga := hg'.below hb2; have hb2t := hW.trans (hb2.mono hW.size); have hk := (hb2.block w.heap.size (by simp)).trans (heap_alloc_new w _); have hlt := lt_of_block hk; obtain ⟨kc0, kc1, -, -⟩ := two_cells hk; obtain ⟨o2, l2, c2, rfl, -⟩ := gb.shape; clear hk hb2 hb2'))
    go_wp2_with fail
    go_ret2
    exact ⟨rfl, hb3t⟩

/-- A number of at most 64 bits as an int. -/
def sw (n : Nat) : Int := if n < 9223372036854775808 then (n : Int) else (n : Int) - 18446744073709551616
theorem val_drop_le {B : Nat} (hB : 0 < B) (xs : List Nat) : ∀ k, val B (xs.drop k) ≤ val B xs := by
  induction xs with
  | nil => intro k; simp
  | cons x xs ih =>
    intro k
    cases k with
    | zero => exact Nat.le_refl _
    | succ k =>
      rw [List.drop_succ_cons]
      refine Nat.le_trans (ih k) ?_
      simp only [val]
      exact Nat.le_trans (Nat.le_mul_of_pos_left _ hB) (Nat.le_add_left _ _)
theorem sw_step {V x : Nat} (h : V * 4294967296 + x ≤ 9223372036854775808) (hx : x < 4294967296) : bits .or .i64 (wrap64 (sw V * 4294967296)) (x : Int) = sw (V * 4294967296 + x) := by
  have hV : V ≤ 2147483648 := by omega
  have e1 : sw V = (V : Int) := by unfold sw; rw [if_pos (by omega)]
  rw [e1]
  by_cases h0 : V < 2147483648
  · have e2 : wrap64 ((V : Int) * 4294967296) = ((V * 4294967296 : Nat) : Int) := by unfold wrap64; omega
    rw [e2, small_or h0 hx]
    unfold sw
    rw [if_pos (by omega)]
  · obtain rfl : V = 2147483648 := by omega
    obtain rfl : x = 0 := by omega
    decide +kernel
theorem sw_lo {v : Nat} (h : v ≤ 9223372036854775807) : sw v = (v : Int) := by unfold sw; rw [if_pos (by omega)]
theorem sw_neg {v : Nat} (h : v ≤ 9223372036854775808) : wrap64 (-(sw v)) = -(v : Int) := by
  unfold sw wrap64; split <;> omega

set_option maxHeartbeats 4000000 in
theorem wsmall_yes (va : Value) (z : Int) (k : Nat) (w : World) (hx : GI w va z k) (hk : k ≤ 100000) (h1 : -9223372036854775808 ≤ z) (h2 : z ≤ 9223372036854775807) :
    Calls Tryd.prog 27 #[va] w fun e w' => e = .returned (.tuple #[.int .i64 z, .bool true]) ∧ Below w.heap.size w w' := by
  obtain ⟨b, va, n, rfl, hg, rfl⟩ := hx
  have hg0 := hg
  obtain ⟨xs, hs, dx, rfl, lx⟩ := hg
  obtain ⟨ao, c, rfl⟩ := sl_shape hs
  have hW : Below w.heap.size w (w.alloc (.cells #[.bool b, .slice ao xs.length c] 25)) := (Below.refl _ _).alloc (Nat.le_refl _) _
  have hg' := hg0.below hW
  have hs' := hs.below hW
  clear hs hg0
  cases b
  · have hn : val L32 xs ≤ 9223372036854775807 := by simp [sg] at h1 h2; omega
    have hc0 : cmpN (val L32 xs) 9223372036854775807 ≤ 0 := by unfold cmpN; split; omega; split <;> omega
    clear h1 h2
    go_enter Tryd.func27, Tryd.ntmps27
    go_wp2_with fail
    go_region_held3 (fun w' => w'.cell? ⟨w.heap.size, 0, none⟩ = some (.bool false) ∧ w'.cell? ⟨w.heap.size, 1, none⟩ = some (.slice ao xs.length c))
      (first | exact ⟨kc0, kc1⟩ | go_keep)
      (first
        | (have := gb; go_at_call 47; refine (cmp_n ga gb).mono ?_; rintro e w3 ⟨rfl, hb3⟩; have hb3t := hb2t.trans (hb3.mono hb2t.size); have hs3 := hs2.below hb3; replace kc0 := (hb3.cell (p := ⟨w.heap.size, 0, none⟩) hlt).trans kc0; replace kc1 := (hb3.cell (p := ⟨w.heap.size, 1, none⟩) hlt).trans kc1)
        | (go_at_call 51; refine (of_n 9223372036854775807 _ _ (by omega) (by omega)).mono ?_; rintro e w2 ⟨v2, rfl, gb, hb2'⟩; have hb2 := undrew hb2'; have ga := hg'.below hb2; have hs2 := hs'.below hb2; have hb2t := hW.trans (hb2.mono hW.size); have hk := (hb2.block w.heap.size (by simp)).trans (heap_alloc_new w _); have hlt := lt_of_block hk; obtain ⟨kc0, kc1, -, -⟩ := two_cells hk; obtain ⟨o2, l2, c2, rfl, -⟩ := gb.shape; clear hk hb2 hb2'))
    go_wp2_with fail
    obtain ⟨ao', cap', eq, q1, q2, q3, q4⟩ := hs3
    injection eq with eq1 eq2 eq3
    subst eq1; subst eq3
    clear eq2
    go_loop [5, 6] (fun c i => ∃ k : Nat, i = .int .i64 ((k : Int) - 1) ∧ c = .int .i64 (sw (val L32 (xs.drop k))) ∧ k ≤ xs.length) (fun _ i => (intOf i + 1).toNat)
    case atStart => exact ⟨xs.length, by first | rfl | go_num, by simp [val, sw], Nat.le_refl _⟩
    case round =>
      obtain ⟨k, rfl, rfl, hk⟩ := hrel
      by_cases h0 : 0 < k
      · obtain ⟨a, rfl, hca⟩ := q4 (k - 1) (by omega)
        have x0 := dx.getD (by decide) (k - 1)
        have HS := Lib.hid (low_step h0 hk rfl)
        have hle := Nat.le_trans (val_drop_le (B := L32) (by decide) xs (k - 1)) hn
        rw [← HS.out] at hle
        unfold joinN at hle HS
        unfold nth at hca
        generalize xs.getD (k - 1) 0 = x at *
        generalize val L32 (xs.drop k) = V at *
        clear q4
        have HW := Lib.hid (sw_step (Nat.le_trans hle (by decide)) x0)
        have x1 : x < 4294967296 := x0
        clear hle
        go_wp2_with fail
        go_round
        case rel => exact ⟨k - 1, by go_num, by rw [← HS.out, HW.out], by omega⟩
        case measure => simp [intOf]; omega
      · have hk0 : k = 0 := by omega
        subst hk0
        clear q4
        have hv := sw_lo hn
        have HV := Lib.hid hv
        clear hv
        rw [List.drop_zero]
        rw [HV.out]
        go_wp2_with fail
        go_ret2
        exact ⟨rfl, hb3t⟩
  · have hn : val L32 xs ≤ 9223372036854775808 := by simp [sg] at h1 h2; omega
    have hc0 : cmpN (val L32 xs) 9223372036854775808 ≤ 0 := by unfold cmpN; split; omega; split <;> omega
    clear h1 h2
    go_enter Tryd.func27, Tryd.ntmps27
    go_wp2_with fail
    go_region_held3 (fun w' => w'.cell? ⟨w.heap.size, 0, none⟩ = some (.bool true) ∧ w'.cell? ⟨w.heap.size, 1, none⟩ = some (.slice ao xs.length c))
      (first | exact ⟨kc0, kc1⟩ | go_keep)
      (first
        | (have := gb; go_at_call 47; refine (cmp_n ga gb).mono ?_; rintro e w3 ⟨rfl, hb3⟩; have hb3t := hb2t.trans (hb3.mono hb2t.size); have hs3 := hs2.below hb3; replace kc0 := (hb3.cell (p := ⟨w.heap.size, 0, none⟩) hlt).trans kc0; replace kc1 := (hb3.cell (p := ⟨w.heap.size, 1, none⟩) hlt).trans kc1)
        | (go_at_call 51; refine (of_n 9223372036854775808 _ _ (by omega) (by omega)).mono ?_; rintro e w2 ⟨v2, rfl, gb, hb2'⟩; have hb2 := undrew hb2'; have ga := hg'.below hb2; have hs2 := hs'.below hb2; have hb2t := hW.trans (hb2.mono hW.size); have hk := (hb2.block w.heap.size (by simp)).trans (heap_alloc_new w _); have hlt := lt_of_block hk; obtain ⟨kc0, kc1, -, -⟩ := two_cells hk; obtain ⟨o2, l2, c2, rfl, -⟩ := gb.shape; clear hk hb2 hb2'))
    go_wp2_with fail
    obtain ⟨ao', cap', eq, q1, q2, q3, q4⟩ := hs3
    injection eq with eq1 eq2 eq3
    subst eq1; subst eq3
    clear eq2
    go_loop [5, 6] (fun c i => ∃ k : Nat, i = .int .i64 ((k : Int) - 1) ∧ c = .int .i64 (sw (val L32 (xs.drop k))) ∧ k ≤ xs.length) (fun _ i => (intOf i + 1).toNat)
    case atStart => exact ⟨xs.length, by first | rfl | go_num, by simp [val, sw], Nat.le_refl _⟩
    case round =>
      obtain ⟨k, rfl, rfl, hk⟩ := hrel
      by_cases h0 : 0 < k
      · obtain ⟨a, rfl, hca⟩ := q4 (k - 1) (by omega)
        have x0 := dx.getD (by decide) (k - 1)
        have HS := Lib.hid (low_step h0 hk rfl)
        have hle := Nat.le_trans (val_drop_le (B := L32) (by decide) xs (k - 1)) hn
        rw [← HS.out] at hle
        unfold joinN at hle HS
        unfold nth at hca
        generalize xs.getD (k - 1) 0 = x at *
        generalize val L32 (xs.drop k) = V at *
        clear q4
        have HW := Lib.hid (sw_step (Nat.le_trans hle (by decide)) x0)
        have x1 : x < 4294967296 := x0
        clear hle
        go_wp2_with fail
        go_round
        case rel => exact ⟨k - 1, by go_num, by rw [← HS.out, HW.out], by omega⟩
        case measure => simp [intOf]; omega
      · have hk0 : k = 0 := by omega
        subst hk0
        clear q4
        have hwn := sw_neg hn
        rw [List.drop_zero]
        go_wp2_with fail
        go_ret2
        exact ⟨rfl, hb3t⟩
end Go.Proofs.YtbkeildnhimfbaaDoor
