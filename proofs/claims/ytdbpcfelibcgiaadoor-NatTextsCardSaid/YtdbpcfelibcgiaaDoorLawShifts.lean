/-
  The walk of the law NatShifts.
-/
import Derived.Test.YtdbpcfelibcgiaaDoorRefF
import Derived.Test.YtdbpcfelibcgiaaDoorNum
namespace Go.Proofs.YtdbpcfelibcgiaaDoor
open Go.RowKit

theorem rows2_one {w : World} {g : Nat} {ao : Option Addr} {n ac : Nat} (T : TypeId) (h : w.heap[g]? = some (.cells #[.slice ao n ac] T (0, 0))) :
    Rows2 w g 1 (fun _ => n) := by
  intro j hj
  match j, hj with
  | 0, _ => exact ⟨ao, ac, by rw [cell_of_row w g 0 _ T (0, 0) h]; rfl⟩

theorem shl_le {v k n m : Nat} (h : v < L32 ^ n) (hk : k ≤ 32 * m) : v * 2 ^ k < L32 ^ (n + m) := by
  rw [Nat.pow_add]
  have h2 : 2 ^ k ≤ L32 ^ m := by rw [show L32 = 2 ^ 32 from rfl, ← Nat.pow_mul]; exact Nat.pow_le_pow_right (by decide) hk
  exact Nat.mul_lt_mul_of_lt_of_le h h2 (Nat.pow_pos (by decide))

set_option maxHeartbeats 2000000 in
theorem natShifts_walk (va : Value) (xs : List Nat) (z : Int) (w : World) (hx : Sl w .u32 va xs) (dx : Dig L32 xs) (_hz : (Lit.int .i64 z).wf = true) :
    Calls Tryd.prog 10 #[va, .int .i64 z] w fun e w' => e = .returned (.bool true) ∧ Below w.heap.size w w' := by
  have HF := Lib.hid fitOk
  obtain ⟨ao, ac, rfl⟩ := sl_shape hx
  have hk : min (max z 0) 4096 = ((clampN z : Nat) : Int) := by unfold clampN; omega
  have HK := Lib.hid hk
  clear hk _hz
  have hc := clampN_le z
  by_cases lx : xs.length ≤ 20
  · have hv := Nat.lt_of_lt_of_le (val_lt dx) (Nat.pow_le_pow_right (n := L32) (by decide) lx)
    have hbl := bits_len (n := 640) dx (by omega)
    have hbl2 : bl (val L32 xs) ≤ 640 := hbl
    have HSL := Lib.hid (shl_le (k := clampN z) (m := 128) hv (by omega))
    have HSR := Lib.hid (Nat.lt_of_le_of_lt (Nat.div_le_self (val L32 xs) (2 ^ clampN z)) hv)
    have HLU := Lib.hid (Nat.le_trans (length_dig_le (B := L32) (k := 20 + 128) (by decide) HSL.out) (show 20 + 128 ≤ 10000 by omega))
    have HLD := Lib.hid (Nat.le_trans (length_dig_le (B := L32) (k := 20) (by decide) HSR.out) (show 20 ≤ 10000 by omega))
    have HLX := Lib.hid (Nat.le_trans (length_dig_le (B := L32) (k := 20) (by decide) hv) (show 20 ≤ 10000 by omega))
    clear hbl
    go_enter Tryd.func10, Tryd.ntmps10
    go_wp2_with fail
    refine (HF.out _).mono ?_; rintro e w1 ⟨rfl, hb1⟩
    go_wp2_with fail
    refine (short_true _ 20 w1.heap.size 1 (fun _ => xs.length) _ rfl (rows2_one 22 (heap_alloc_new _ _)) (by omega) (by intro j _; exact lx)).mono ?_
    rintro e w2 ⟨rfl, rfl⟩
    have hb2 : Below w.heap.size w (w1.alloc (.cells #[.slice ao xs.length ac] 22)) := hb1.alloc hb1.size _
    generalize (w1.alloc (.cells #[.slice ao xs.length ac] 22)) = w2 at *
    go_wp2_with fail
    refine (bits_any _ xs w2 (hx.below hb2) dx (by omega)).mono ?_
    rintro e w3 ⟨v3, rfl, hsx, hb3⟩
    have hb3t : Below w.heap.size w w3 := hb2.trans (hb3.mono hb2.size)
    go_wp2_with fail
    refine (shl_any _ xs z w3 (hx.below hb3t) dx (by omega)).mono ?_
    rintro e w4 ⟨v4, rfl, hup, hb4⟩
    have hb4t : Below w.heap.size w w4 := hb3t.trans (hb4.mono hb3t.size)
    go_wp2_with fail
    refine (shr_any _ xs z w4 (hx.below hb4t) dx (by omega)).mono ?_
    rintro e w5 ⟨v5, rfl, hdn, hb5⟩
    have hb5t : Below w.heap.size w w5 := hb4t.trans (hb5.mono hb4t.size)
    have hsx5 := (hsx.below hb4).below hb5
    have hup5 := hup.below hb5
    go_wp2_with fail
    refine (up_any _ (val L32 xs) _ (clampN z) w5 hsx5 HK.out (by omega) (by omega)).mono ?_
    rintro e w6 ⟨v6, rfl, hu6, hb6⟩
    have hb6t : Below w.heap.size w w6 := hb5t.trans (hb6.mono hb5t.size)
    go_wp2_with fail
    refine (is_true _ _ _ w6 (hup5.below hb6) hu6 HLU.out).mono ?_
    rintro e w7 ⟨rfl, hb7⟩
    have hb7t : Below w.heap.size w w7 := hb6t.trans (hb7.mono hb6t.size)
    have hsx7 := (hsx5.below hb6).below hb7
    have hdn7 := (hdn.below hb6).below hb7
    have hup7 := (hup5.below hb6).below hb7
    go_wp2_with fail
    refine (down_any _ (val L32 xs) _ (clampN z) w7 hsx7 HK.out).mono ?_
    rintro e w7d ⟨vd, rfl, hd7, rfl⟩
    go_wp2_with fail
    refine (is_true _ _ _ w7 hdn7 hd7 HLD.out).mono ?_
    rintro e w8 ⟨rfl, hb8⟩
    have hb8t : Below w.heap.size w w8 := hb7t.trans (hb8.mono hb7t.size)
    have hup8 := hup7.below hb8
    go_wp2_with fail
    refine (shr_any _ _ z w8 hup8 (Dig_dig (by decide) _) (Nat.le_trans HLU.out (by omega))).mono ?_
    rintro e w9 ⟨v9, rfl, hbk, hb9⟩
    have hb9t : Below w.heap.size w w9 := hb8t.trans (hb9.mono hb8t.size)
    rw [val_dig (by decide), Nat.mul_div_cancel _ (Nat.pow_pos (by decide))] at hbk
    go_wp2_with fail
    refine (cmp_any _ _ (dig L32 (val L32 xs)) xs w9 hbk (hx.below hb9t) (Dig_dig (by decide) _) dx).mono ?_
    rintro e w10 ⟨rfl, hb10⟩
    have hb10t : Below w.heap.size w w10 := hb9t.trans (hb10.mono hb9t.size)
    rw [val_dig (by decide), cmpN_eq rfl]
    go_wp2_with fail
    refine (bits_nat _ xs w10 (hx.below hb10t) dx (by omega)).mono ?_
    rintro e w10b ⟨rfl, rfl⟩
    have hsx10 := ((hsx7.below hb8).below hb9).below hb10
    obtain ⟨xo, xc, rfl⟩ := sl_shape hsx10
    have hlb : (((bl (val L32 xs) : Nat) : Int) == (((dig 2 (val L32 xs)).length : Nat) : Int)) = true := by unfold bl; exact beq_self_eq_true _
    go_wp2_with fail
    refine (trim_any _ xs w10 (hx.below hb10t) dx (by omega)).mono ?_
    rintro e w11 ⟨v11, rfl, htr, hb11⟩
    have hb11t : Below w.heap.size w w11 := hb10t.trans (hb11.mono hb10t.size)
    go_wp2_with fail
    refine (is_true _ _ _ w11 htr.sl (hsx10.below hb11) HLX.out).mono ?_
    rintro e w12 ⟨rfl, hb12⟩
    have hb12t : Below w.heap.size w w12 := hb11t.trans (hb12.mono hb11t.size)
    go_wp2_with fail
    go_ret
    exact ⟨rfl, hb12t⟩
  · go_enter Tryd.func10, Tryd.ntmps10
    go_wp2_with fail
    refine (HF.out _).mono ?_; rintro e w1 ⟨rfl, hb1⟩
    go_wp2_with fail
    refine (short_false _ 20 w1.heap.size 1 (fun _ => xs.length) _ rfl (rows2_one 22 (heap_alloc_new _ _)) (by omega) 0 (by omega) (by omega)).mono ?_
    rintro e w2 ⟨rfl, rfl⟩
    go_wp2_with fail
    go_ret
    exact ⟨rfl, hb1.alloc hb1.size _⟩
end Go.Proofs.YtdbpcfelibcgiaaDoor
