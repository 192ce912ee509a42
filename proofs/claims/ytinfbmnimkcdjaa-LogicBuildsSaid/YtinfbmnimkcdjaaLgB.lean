/-
  Contracts of package logic: Sort, Size; what kids' sorts fit an op; Right.
-/
import Derived.Test.YtinfbmnimkcdjaaLgA
namespace Go.Proofs.Ytinfbmnimkcdjaa
open Go.RowKit
set_option maxRecDepth 100000
set_option linter.unusedVariables false
set_option linter.unusedSimpArgs false

/-- The value of a form's fields. -/
abbrev fA (o : Int) (b : Bool) (ao : Option Addr) (l c : Nat) (nm : ByteArray) (ko : Option Addr) (kl kc : Nat) : Value := .agg #[.int .i64 o, .bool b, .slice ao l c, .string nm, .slice ko kl kc]
set_option maxHeartbeats 4000000 in
theorem sort_p (o : Int) (b : Bool) (ao : Option Addr) (l c : Nat) (nm : ByteArray) (ko : Option Addr) (kl kc : Nat) (w : World) :
    Calls Try.prog 11 #[.agg #[.int .i64 o, .bool b, .slice ao l c, .string nm, .slice ko kl kc]] w fun e w' => e = .returned (.int .i64 (srt o)) ∧ Below w.heap.size w w' := by
  have hb := (Below.refl w.heap.size w).alloc (Nat.le_refl _) (.cells #[.int .i64 o, .bool b, .slice ao l c, .string nm, .slice ko kl kc] 29)
  have HB := Lib.hid hb
  clear hb
  by_cases h1 : 8 ≤ o ∧ o ≤ 20
  · have : o = 8 ∨ o = 9 ∨ o = 10 ∨ o = 11 ∨ o = 12 ∨ o = 13 ∨ o = 14 ∨ o = 15 ∨ o = 16 ∨ o = 17 ∨ o = 18 ∨ o = 19 ∨ o = 20 := by omega
    clear h1
    rcases this with rfl | rfl | rfl | rfl | rfl | rfl | rfl | rfl | rfl | rfl | rfl | rfl | rfl
    all_goals (go_enter Try.func11, Try.ntmps11; go_wp2_with fail; go_ret; exact ⟨rfl, HB.out⟩)
  · have hs : srt o = 0 := by unfold srt; rw [if_neg (by omega), if_neg (by omega)]
    have n8 : (o == 8) = false := beq_eq_false_iff_ne.2 (by omega)
    have n9 : (o == 9) = false := beq_eq_false_iff_ne.2 (by omega)
    have n10 : (o == 10) = false := beq_eq_false_iff_ne.2 (by omega)
    have n11 : (o == 11) = false := beq_eq_false_iff_ne.2 (by omega)
    have n12 : (o == 12) = false := beq_eq_false_iff_ne.2 (by omega)
    have n13 : (o == 13) = false := beq_eq_false_iff_ne.2 (by omega)
    have n14 : (o == 14) = false := beq_eq_false_iff_ne.2 (by omega)
    have n15 : (o == 15) = false := beq_eq_false_iff_ne.2 (by omega)
    have n16 : (o == 16) = false := beq_eq_false_iff_ne.2 (by omega)
    have n17 : (o == 17) = false := beq_eq_false_iff_ne.2 (by omega)
    have n18 : (o == 18) = false := beq_eq_false_iff_ne.2 (by omega)
    have n19 : (o == 19) = false := beq_eq_false_iff_ne.2 (by omega)
    have n20 : (o == 20) = false := beq_eq_false_iff_ne.2 (by omega)
    clear h1
    go_enter Try.func11, Try.ntmps11
    go_wp2_with fail
    go_ret
    exact ⟨by rw [hs]; rfl, HB.out⟩
end Go.Proofs.Ytinfbmnimkcdjaa
