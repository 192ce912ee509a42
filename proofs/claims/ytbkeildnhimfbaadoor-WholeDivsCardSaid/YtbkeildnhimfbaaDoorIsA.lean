/-
  The contract of the laws' helper Is.
-/
import Derived.Test.YtbkeildnhimfbaaDoorCore
namespace Go.Proofs.YtbkeildnhimfbaaDoor
open Go.RowKit
set_option maxRecDepth 100000

set_option maxHeartbeats 1000000 in
theorem is_true (va vb : Value) (n : Nat) (w : World) (hx : Sl w .u32 va (dig L32 n)) (hy : Sl w .i64 vb (dig 2 n)) (hl : (dig L32 n).length ≤ 10000) :
    Calls Tryd.prog 37 #[va, vb] w fun e w' => e = .returned (.bool true) ∧ Below w.heap.size w w' := by
  have HX := Lib.hid hx
  have dx := Dig_dig (B := L32) (by decide) n
  have HV := Lib.hid (val_dig (B := L32) (by decide) n)
  have hlast : 0 < (dig L32 n).length → nth (dig L32 n) ((dig L32 n).length - 1) ≠ 0 := fun h => by
    have := dig_last (B := L32) (n := n) (by decide) h
    unfold nth; omega
  have HC := Lib.hid (cmpN_eq (a := n) (b := n) rfl)
  have HLA := Lib.hid hlast
  clear hlast
  generalize hxs : dig L32 n = xs at *
  clear hxs
  obtain ⟨ao, ac, rfl, a1, a2, a3, a4⟩ := hx
  by_cases h0 : 0 < xs.length
  · obtain ⟨a, rfl, hca⟩ := a4 (xs.length - 1) (by omega)
    have hz : (nth xs (xs.length - 1) == 0) = false := by have := HLA.out h0; simpa using this
    clear a4
    go_enter Tryd.func37, Tryd.ntmps37
    go_wp2_with fail
    refine (bits_any _ xs w HX.out dx (by omega)).mono ?_; rintro e w1 ⟨v1, rfl, hs1, hb1⟩
    rw [HV.out] at hs1
    go_wp2_with fail
    refine (rcmp_any _ _ n n w1 hs1 (hy.below hb1)).mono ?_; rintro e w2 ⟨rfl, hb2⟩
    rw [HC.out]
    go_wp2_with fail
    go_ret
    exact ⟨rfl, hb1.trans (hb2.mono hb1.size)⟩
  · clear a4
    go_enter Tryd.func37, Tryd.ntmps37
    go_wp2_with fail
    refine (bits_any _ xs w HX.out dx (by omega)).mono ?_; rintro e w1 ⟨v1, rfl, hs1, hb1⟩
    rw [HV.out] at hs1
    go_wp2_with fail
    refine (rcmp_any _ _ n n w1 hs1 (hy.below hb1)).mono ?_; rintro e w2 ⟨rfl, hb2⟩
    rw [HC.out]
    go_wp2_with fail
    go_ret
    exact ⟨rfl, hb1.trans (hb2.mono hb1.size)⟩

end Go.Proofs.YtbkeildnhimfbaaDoor
