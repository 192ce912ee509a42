/-
  Contracts of the reference package: Up, Down.
-/
import Derived.Test.YtdbpcfelibcgiaaDoorRefE
import Derived.Test.YtdbpcfelibcgiaaDoorShA
namespace Go.Proofs.YtdbpcfelibcgiaaDoor
open Go.RowKit

set_option maxHeartbeats 1000000 in
theorem up_any (va : Value) (v : Nat) (z : Int) (n : Nat) (w : World) (hx : Sl w .i64 va (dig 2 v)) (hz : z = (n : Int)) (hn : n ≤ 100000) (hl : bl v ≤ 100000) :
    Calls Tryd.prog 33 #[va, .int .i64 z] w fun e w' => ∃ u, e = .returned u ∧ Sl w' .i64 u (dig 2 (v * 2 ^ n)) ∧ Below w.heap.size w w' := by
  subst hz
  obtain ⟨i0, hi, hz0, hz1, hz2⟩ := info_parts infoInt
  go_enter Tryd.func33, Tryd.ntmps33
  go_wp2_with fail
  go_loopw [5, 6] (fun ov si wr => ∃ i : Nat, si = .int .i64 i ∧ i ≤ n ∧ Ow wr w.heap.size .i64 3 ov (List.replicate i 0) ∧ Below w.heap.size w wr) (fun _ si _ => n - (intOf si).toNat)
  case atStart => exact ⟨0, rfl, Nat.zero_le _, Ow.nil _ _ _ _, Below.refl _ _⟩
  case round =>
    obtain ⟨i, rfl, hin, how, hb⟩ := hrel
    have hsz := hb.size
    by_cases hlt : i < n
    · go_wp2_with (at_builtin; refine wpList_append_one _ rfl (.tmp 12) (.tmp 13) 28 rfl 3 i0 .i64 Tryd.underlying28 hi hz0 hz1 ?c1 w.heap.size _ (List.replicate i 0) rfl (how.alloc _) wr.heap.size 0 0 rfl ?c2 rfl ?c3 ?c4 ?_)
      case c1 => omega
      case c2 => simp
      case c3 => simp; omega
      case c4 => simp; omega
      intro v' w1 how' hb'
      have how2 : Ow w1 w.heap.size .i64 3 v' (List.replicate (i + 1) 0) := by rw [List.replicate_succ']; exact how'
      clear how'
      go_wp2_with fail
      go_roundw
      case rel => exact ⟨i + 1, by go_num, by omega, how2, hb.trans (((Below.refl _ _).alloc hsz _).trans hb')⟩
      case measure => simp [intOf]; omega
    · have hii : i = n := by omega
      subst hii
      have hV : val 2 (List.replicate i 0 ++ dig 2 v) = v * 2 ^ i := by
        rw [val_append, val_replicate_zero, val_dig (by decide), List.length_replicate, Nat.zero_add, Nat.mul_comm]
      have HV := Lib.hid hV
      have hd : Dig 2 (List.replicate i 0 ++ dig 2 v) := (Dig.replicate (by decide) _).append (Dig_dig (by decide) _)
      have hl' : (dig 2 v).length ≤ 100000 := hl
      clear hV
      go_wp2_with (at_builtin; refine wpList_append_sl _ rfl (.tmp 15) (.tmp 16) 28 rfl 3 i0 .i64 Tryd.underlying28 hi hz0 hz1 ?c5 w.heap.size _ _ rfl how _ (dig 2 v) rfl (hx.below hb) ?c6 ?c7 ?_)
      case c5 => omega
      case c6 => simp; omega
      case c7 => omega
      intro v' w1 how' hb'
      have hsl := how'.sl
      go_wp2_with fail
      refine (cut_v _ _ _ hsl hd).mono ?_
      rintro e w4 ⟨v4, rfl, ht4, rfl⟩
      go_wp2_with fail
      go_ret
      exact ⟨_, rfl, by rw [← HV.out]; exact ht4, hb.trans hb'⟩

theorem dig_drop (n : Nat) : ∀ v, (dig 2 v).drop n = dig 2 (v / 2 ^ n) := by
  induction n with
  | zero => intro v; simp
  | succ n ih =>
    intro v
    by_cases h : 0 < v
    · rw [dig_pos (B := 2) (by decide) h, List.drop_succ_cons, ih, Nat.div_div_eq_div_mul, Nat.pow_succ, Nat.mul_comm]
    · have : v = 0 := by omega
      subst this; rw [dig_zero, Nat.zero_div, dig_zero]; rfl

set_option maxHeartbeats 1000000 in
theorem down_any (va : Value) (v : Nat) (z : Int) (n : Nat) (w : World) (hx : Sl w .i64 va (dig 2 v)) (hz : z = (n : Int)) :
    Calls Tryd.prog 34 #[va, .int .i64 z] w fun e w' => ∃ u, e = .returned u ∧ Sl w' .i64 u (dig 2 (v / 2 ^ n)) ∧ w = w' := by
  subst hz
  have HD := Lib.hid (dig_drop n v)
  have HX := Lib.hid hx
  generalize dig 2 v = xs at *
  obtain ⟨ao, ac, rfl, a1, a2, a3, a4⟩ := hx
  by_cases hlt : n < xs.length
  · obtain ⟨a, rfl, hc⟩ := a4 n hlt
    have hcm : ¬ ac = n := by omega
    clear a4
    have hS : Sl w .i64 (.slice (some (a.add n)) (xs.length - n) (ac - n)) (xs.drop n) := by
      refine ⟨some (a.add n), ac - n, by rw [List.length_drop], by rw [List.length_drop]; omega, by omega, (fun e => by cases e), fun i hi => ⟨_, rfl, ?_⟩⟩
      rw [List.length_drop] at hi
      rw [addr_add_add, HX.out.at (i := n + i) (by omega)]
      unfold nth; simp [List.getD]
    have HS := Lib.hid hS
    clear hS hc
    go_enter Tryd.func34, Tryd.ntmps34
    go_wp2_with fail
    go_ret
    exact ⟨_, rfl, by rw [← HD.out]; exact HS.out, rfl⟩
  · have hE : xs.drop n = [] := List.drop_eq_nil_of_le (by omega)
    have HE := Lib.hid hE
    clear hE a4
    go_enter Tryd.func34, Tryd.ntmps34
    go_wp2_with fail
    go_ret
    exact ⟨_, rfl, by rw [← HD.out, HE.out]; exact Sl.nil _ _, rfl⟩
end Go.Proofs.YtdbpcfelibcgiaaDoor
