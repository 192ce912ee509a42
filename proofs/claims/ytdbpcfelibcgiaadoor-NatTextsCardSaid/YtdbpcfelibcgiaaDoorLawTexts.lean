/-
  The walk of the law NatTexts.
-/
import Derived.Test.YtdbpcfelibcgiaaDoorParB
import Derived.Test.YtdbpcfelibcgiaaDoorFmt
import Derived.Test.YtdbpcfelibcgiaaDoorDgt
import Derived.Test.YtdbpcfelibcgiaaDoorLawShifts
namespace Go.Proofs.YtdbpcfelibcgiaaDoor
open Go.RowKit

theorem two_limbs {n : Nat} (h : n < 18446744073709551616) : Dig L32 [n % 4294967296, n / 4294967296] ∧ val L32 [n % 4294967296, n / 4294967296] = n := by
  refine ⟨?_, ?_⟩
  · intro x hx
    simp only [List.mem_cons, List.not_mem_nil, or_false] at hx
    rcases hx with rfl | rfl
    · exact Nat.mod_lt _ (by decide)
    · exact Nat.div_lt_of_lt_mul (by show n < 4294967296 * 4294967296; omega)
  · show n % 4294967296 + 4294967296 * (n / 4294967296 + 4294967296 * 0) = n
    omega
theorem two_blk (w : World) (n : Nat) : Blk (w.alloc (.cells #[.int .u32 ((n : Int) % 4294967296), .int .u32 ((n : Int) / 4294967296)] 51)) w.heap.size .u32 51 [n % 4294967296, n / 4294967296] := by
  unfold Blk
  rw [heap_alloc_new]
  simp
theorem text_len {n k : Nat} (h : n < L32 ^ k) (hk : 0 < k) (hk2 : k ≤ 30) : (Lib.decDigits n).length ≤ 300 := by
  have h1 : L32 ^ k ≤ 10 ^ (10 * k) := by rw [Nat.pow_mul]; exact Nat.pow_le_pow_left (by decide) _
  have := decDigits_len (Nat.lt_of_lt_of_le h h1) (by omega)
  omega

set_option maxHeartbeats 4000000 in
set_option maxRecDepth 100000 in
theorem natTexts_walk (va : Value) (xs : List Nat) (z : Int) (w : World) (hx : Sl w .u32 va xs) (dx : Dig L32 xs) (hz : (Lit.int .u64 z).wf = true) (htab : Lib.TabIs Tryd.prog w "internal/strconv.uint64pow10" .u64 Lib.pow10Tab) :
    Calls Tryd.prog 11 #[va, .int .u64 z] w fun e w' => e = .returned (.bool true) ∧ Below w.heap.size w w' := by
  have HF := Lib.hid fitOk
  obtain ⟨ao, ac, rfl⟩ := sl_shape hx
  have hz' : 0 ≤ z ∧ z < 18446744073709551616 := by
    simp [Lit.wf, IntKind.min, IntKind.max, IntKind.bits, IntKind.signed] at hz
    omega
  obtain ⟨n, rfl⟩ : ∃ n : Nat, z = (n : Int) := ⟨z.toNat, by omega⟩
  have hn : n < 18446744073709551616 := by omega
  clear hz hz'
  by_cases lx : xs.length ≤ 20
  · have hv := Nat.lt_of_lt_of_le (val_lt dx) (Nat.pow_le_pow_right (n := L32) (by decide) lx)
    have HN1 := Lib.hid (numeral_dec (text_len hv (by decide) (by decide)))
    have HN2 := Lib.hid (numeral_dec (n := n) (text_len (k := 2) (by have h : L32 ^ 2 = 18446744073709551616 := by decide
                                                                     omega) (by decide) (by decide)))
    have HLn := Lib.hid (Nat.le_trans (length_dig_le (B := L32) (k := 2) (n := n) (by decide) (by have h : L32 ^ 2 = 18446744073709551616 := by decide
                                                                                                  omega)) (show 2 ≤ 10000 by omega))
    have HVn := Lib.hid (val_dig (B := L32) (by decide) n)
    have HVA := Lib.hid (val_dig (B := L32) (by decide) (val L32 xs))
    have HDn := Lib.hid (dn_dec n).2.1
    have HDA := Lib.hid (dn_dec (val L32 xs)).2.1
    have HTL := Lib.hid (two_limbs hn)
    have HBA : Hid (bl (val L32 xs) ≤ 100000) := Lib.hid (bits_len (n := 100000) dx (by omega))
    have HDL : Hid ((decs (val L32 xs)).length ≤ 1000) := Lib.hid (by
      unfold decs
      split
      · simp
      · have := HN1.out.2.1; omega)
    clear hv
    go_enter Tryd.func11, Tryd.ntmps11
    go_wp2_with fail
    refine (HF.out _).mono ?_; rintro e w1 ⟨rfl, hb1⟩
    go_wp2_with fail
    refine (short_true _ 20 w1.heap.size 1 (fun _ => xs.length) _ rfl (rows2_one 22 (heap_alloc_new _ _)) (by omega) (by intro j _; exact lx)).mono ?_
    rintro e w2 ⟨rfl, rfl⟩
    have hb2 : Below w.heap.size w (w1.alloc (.cells #[.slice ao xs.length ac] 22)) := hb1.alloc hb1.size _
    generalize (w1.alloc (.cells #[.slice ao xs.length ac] 22)) = w2 at *
    go_wp2_with fail
    refine (text_any _ xs w2 (tab_below htab hb2) (hx.below hb2) dx (by omega)).mono ?_
    rintro e w3 ⟨rfl, hb3⟩
    have hb3t : Below w.heap.size w w3 := hb2.trans (hb3.mono hb2.size)
    go_wp2_with fail
    refine (parse_true _ w3 HN1.out).mono ?_
    rintro e w4 ⟨v4, rfl, s4, hb4⟩
    rw [HDA.out] at s4
    have hb4t : Below w.heap.size w w4 := hb3t.trans (hb4.mono hb3t.size)
    go_wp2_with fail
    refine (of_any n _ w4 rfl hn).mono ?_
    rintro e w5 ⟨v5, rfl, s5, hb5⟩
    have hb5t : Below w.heap.size w w5 := hb4t.trans (hb5.mono hb4t.size)
    go_wp2_with fail
    refine (text_any _ _ w5 (tab_below htab hb5t) s5 (Dig_dig (by decide) _) HLn.out).mono ?_
    rintro e w6 ⟨rfl, hb6⟩
    rw [HVn.out]
    have hb6t : Below w.heap.size w w6 := hb5t.trans (hb6.mono hb5t.size)
    go_wp2_with fail
    refine (parse_true _ w6 HN2.out).mono ?_
    rintro e w7 ⟨v7, rfl, s7, hb7⟩
    rw [HDn.out] at s7
    have hb7t : Below w.heap.size w w7 := hb6t.trans (hb7.mono hb6t.size)
    have s47 := ((s4.below hb5).below hb6).below hb7
    go_wp2_with fail
    refine (bits_any _ xs w7 (hx.below hb7t) dx (by omega)).mono ?_
    rintro e w8 ⟨v8, rfl, s8, hb8⟩
    have hb8t : Below w.heap.size w w8 := hb7t.trans (hb8.mono hb7t.size)
    go_wp2_with fail
    refine (digits_any _ (val L32 xs) w8 s8 HBA.out HDL.out).mono ?_
    rintro e w9 ⟨rfl, hb9⟩
    have hb9t : Below w.heap.size w w9 := hb8t.trans (hb9.mono hb8t.size)
    have s49 := (s47.below hb8).below hb9
    have s79 := (s7.below hb8).below hb9
    go_wp2_with fail
    refine (cmp_any _ _ xs _ w9 (hx.below hb9t) s49 dx (Dig_dig (by decide) _)).mono ?_
    rintro e w10 ⟨rfl, hb10⟩
    rw [HVA.out, cmpN_eq rfl]
    have hb10t : Below w.heap.size w w10 := hb9t.trans (hb10.mono hb9t.size)
    go_wp2_with fail
    refine (of_any n _ w10 rfl hn).mono ?_
    rintro e w11 ⟨v11, rfl, s11, hb11⟩
    have hb11t : Below w.heap.size w w11 := hb10t.trans (hb11.mono hb10t.size)
    go_wp2_with fail
    refine (cmp_any _ _ _ _ w11 ((s79.below hb10).below hb11) s11 (Dig_dig (by decide) _) (Dig_dig (by decide) _)).mono ?_
    rintro e w12 ⟨rfl, hb12⟩
    rw [cmpN_eq rfl]
    have hb12t : Below w.heap.size w w12 := hb11t.trans (hb12.mono hb11t.size)
    go_wp2_with fail
    refine (of_any n _ w12 rfl hn).mono ?_
    rintro e w13 ⟨v13, rfl, s13, hb13⟩
    have hb13t : Below w.heap.size w w13 := hb12t.trans (hb13.mono hb12t.size)
    go_wp2_with fail
    have hblk := two_blk w13 n
    have hsl := hblk.sl 0 2 2 (by simp) (Nat.le_refl _) (by decide)
    rw [List.drop_zero, List.take_of_length_le (by simp)] at hsl
    have hb14 : Below w13.heap.size w13 (w13.alloc (.cells #[.int .u32 ((n : Int) % 4294967296), .int .u32 ((n : Int) / 4294967296)] 51)) := (Below.refl _ _).alloc (Nat.le_refl _) _
    have hb14t : Below w.heap.size w _ := hb13t.trans (hb14.mono hb13t.size)
    have s14 := s13.below hb14
    clear hblk
    generalize (w13.alloc (.cells #[.int .u32 ((n : Int) % 4294967296), .int .u32 ((n : Int) / 4294967296)] 51)) = w14 at *
    refine (bits_any _ _ w14 hsl HTL.out.1 (by simp)).mono ?_
    rintro e w15 ⟨v15, rfl, s15, hb15⟩
    rw [HTL.out.2] at s15
    have hb15t : Below w.heap.size w w15 := hb14t.trans (hb15.mono hb14t.size)
    go_wp2_with fail
    refine (is_true _ _ n w15 (s14.below hb15) s15 HLn.out).mono ?_
    rintro e w16 ⟨rfl, hb16⟩
    go_wp2_with fail
    go_ret
    exact ⟨rfl, hb15t.trans (hb16.mono hb15t.size)⟩
  · go_enter Tryd.func11, Tryd.ntmps11
    go_wp2_with fail
    refine (HF.out _).mono ?_; rintro e w1 ⟨rfl, hb1⟩
    go_wp2_with fail
    refine (short_false _ 20 w1.heap.size 1 (fun _ => xs.length) _ rfl (rows2_one 22 (heap_alloc_new _ _)) (by omega) 0 (by omega) (by omega)).mono ?_
    rintro e w2 ⟨rfl, rfl⟩
    go_wp2_with fail
    go_ret
    exact ⟨rfl, hb1.alloc hb1.size _⟩
end Go.Proofs.YtdbpcfelibcgiaaDoor
