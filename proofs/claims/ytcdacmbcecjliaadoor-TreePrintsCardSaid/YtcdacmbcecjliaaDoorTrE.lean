/-
  What Right says of trees that are not right: those of the law TreeCounts.
-/
import Derived.Test.YtcdacmbcecjliaaDoorTrC
namespace Go.Proofs.YtcdacmbcecjliaaDoor
open Go.RowKit
set_option maxRecDepth 100000

set_option maxHeartbeats 4000000 in
theorem right_ar (x : X) (r : Int) (w : World) (hA : ∀ W, Below w.heap.size w W → Calls Tryd.prog 13 #[.int .i64 x.k] W fun e w' => e = .returned (.int .i64 r) ∧ W = w') (h1 : (r != -1) = true) (h2 : (r != (x.kn : Int)) = true) :
    Calls Tryd.prog 11 #[xv x] w fun e w' => e = .returned (.bool false) ∧ Below w.heap.size w w' := by
  obtain ⟨xk, xnm, xot, xb, xao, xn, xc, xko, xkn, xkc, xln, xcl⟩ := x
  simp only at hA h2
  have HA := Lib.hid hA
  clear hA
  simp only [xv]
  go_enter Tryd.func11, Tryd.ntmps11
  go_wp2_with fail
  refine (HA.out _ ((Below.refl _ _).alloc (Nat.le_refl _) _)).mono ?_
  rintro e w1 ⟨rfl, rfl⟩
  go_wp2_with fail
  go_ret
  exact ⟨rfl, (Below.refl _ _).alloc (Nat.le_refl _) _⟩

/-- A negative number. -/
def negX (ao : Option Addr) (n c : Nat) : X := ⟨0, ⟨#[]⟩, ⟨#[]⟩, true, ao, n, c, none, 0, 0, 0, 0⟩

set_option maxHeartbeats 4000000 in
theorem right_neg (ao : Option Addr) (n c : Nat) (w : World) (ht : Tabs w) :
    Calls Tryd.prog 11 #[xv (negX ao n c)] w fun e w' => e = .returned (.bool false) ∧ Below w.heap.size w w' := by
  have HT := Lib.hid ht
  clear ht
  simp only [xv, negX]
  go_enter Tryd.func11, Tryd.ntmps11
  go_wp2_with fail
  refine (arity_ok 0 0 (by decide) rfl _ (HT.out.below ((Below.refl _ _).alloc (Nat.le_refl _) _))).mono ?_
  rintro e w1 ⟨rfl, rfl⟩
  go_wp2_with fail
  refine (isNat_no ao n c _).mono ?_
  rintro e w1 ⟨rfl, hb1⟩
  have HB0 := Lib.hid (((Below.refl w.heap.size w).alloc (Nat.le_refl _) _).trans (hb1.mono (by simp)))
  clear hb1
  go_wp2_with fail
  go_ret
  exact ⟨rfl, HB0.out⟩

set_option maxHeartbeats 4000000 in
theorem right_not (x : X) (ao : Option Addr) (n c : Nat) (hk : x.k = 6) (hkn : x.kn = 1) (w : World) (ht : Tabs w) (hA : At8 w x.ko 0 (negX ao n c)) :
    Calls Tryd.prog 11 #[xv x] w fun e w' => e = .returned (.bool false) ∧ Below w.heap.size w w' := by
  obtain ⟨xk, xnm, xot, xb, xao, xn, xc, xko, xkn, xkc, xln, xcl⟩ := x
  simp only at hk hkn hA
  subst hk hkn
  have HT := Lib.hid ht
  clear ht
  simp only [xv]
  have hA0 := hA.keep (w' := w.alloc (.cells #[.int .i64 6, .string xnm, .string xot, .bool xb, .slice xao xn xc, .slice xko 1 xkc, .int .i64 xln, .int .i64 xcl] 29)) fun a ha => Below.heap_alloc _ _ _ (hA.lt a ha)
  obtain ⟨a, rfl, hc⟩ := hA0
  have HB0 := Lib.hid ((Below.refl w.heap.size w).alloc (Nat.le_refl _) (.cells #[.int .i64 6, .string xnm, .string xot, .bool xb, .slice xao xn xc, .slice (some a) 1 xkc, .int .i64 xln, .int .i64 xcl] 29))
  obtain ⟨c0, c1, c2, c3, c4, c5, c6, c7⟩ := cells8 hc
  have e0 : a.add (0 * 8) = a := by simp [Addr.add]
  rw [e0] at c0 c1 c2 c3 c4 c5 c6 c7
  simp only [negX] at c0 c1 c2 c3 c4 c5 c6 c7
  clear hc hA e0
  go_enter Tryd.func11, Tryd.ntmps11
  go_wp2_with fail
  refine (arity_ok 6 1 (by decide) rfl _ (HT.out.below HB0.out)).mono ?_
  rintro e w1 ⟨rfl, rfl⟩
  go_wp2_with fail
  go_loopw [30] (fun i wr => i = .int .i64 0 ∧ wr = w.alloc (.cells #[.int .i64 6, .string xnm, .string xot, .bool xb, .slice xao xn xc, .slice (some a) 1 xkc, .int .i64 xln, .int .i64 xcl] 29)) (fun i _ => 0)
  case atStart => exact ⟨rfl, by trivial⟩
  case round =>
    obtain ⟨rfl, hw⟩ := hrel
    subst hw
    go_wp2_with fail
    refine (right_neg ao n c _ (HT.out.below (HB0.out.alloc HB0.out.size _))).mono ?_
    rintro e w2 ⟨rfl, hb2⟩
    have HB2 := Lib.hid hb2
    clear hb2 c0 c1 c2 c3 c4 c5 c6 c7
    go_wp2_with fail
    go_ret
    exact ⟨rfl, (HB0.out.alloc HB0.out.size _).trans (HB2.out.mono (by simp; omega))⟩
end Go.Proofs.YtcdacmbcecjliaaDoor
