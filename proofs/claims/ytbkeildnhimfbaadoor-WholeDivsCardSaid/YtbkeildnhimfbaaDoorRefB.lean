/-
  Contracts of the reference package: at, Add.
-/
import Derived.Test.YtbkeildnhimfbaaDoorRefA
namespace Go.Proofs.YtbkeildnhimfbaaDoor
open Go.RowKit
set_option maxRecDepth 100000

theorem nth_out {xs : List Nat} {i : Nat} (h : xs.length ≤ i) : nth xs i = 0 := by unfold nth; simp [List.getD, h]
theorem getD_out {xs : List Nat} {i : Nat} (h : xs.length ≤ i) : xs.getD i 0 = 0 := by simp [List.getD, h]

set_option maxHeartbeats 400000 in
theorem at_any (v : Value) (xs : List Nat) (z : Int) (i : Nat) (w : World) (h : Sl w .i64 v xs) (hz : z = (i : Int)) :
    Calls Tryd.prog 65 #[v, .int .i64 z] w fun e w' => e = .returned (.int .i64 (nth xs i)) ∧ w = w' := by
  subst hz
  obtain ⟨ao, cap, rfl, h1, h2, h3, h4⟩ := h
  by_cases hlt : i < xs.length
  · obtain ⟨a, rfl, hc⟩ := h4 i hlt
    clear h4
    go_enter Tryd.func65, Tryd.ntmps65
    go_wp2
    go_ret
    exact ⟨rfl, rfl⟩
  · have H0 := Lib.hid (nth_out (xs := xs) (i := i) (by omega))
    clear h4
    go_enter Tryd.func65, Tryd.ntmps65
    go_wp2
    go_ret
    exact ⟨by rw [H0.out]; rfl, rfl⟩

theorem val_take_succ' (B : Nat) (xs : List Nat) (k : Nat) : val B (xs.take (k + 1)) = val B (xs.take k) + xs.getD k 0 * B ^ k := by
  by_cases h : k < xs.length
  · exact val_take_succ B xs k h
  · rw [getD_out (by omega), List.take_of_length_le (by omega), List.take_of_length_le (by omega)]; simp

theorem radd_step {xs ys out : List Nat} {i cc n : Nat} (hl : out.length = i) (hv : val 2 out + cc * 2 ^ i = val 2 (xs.take i) + val 2 (ys.take i)) (hn : n = xs.getD i 0 + ys.getD i 0 + cc) :
    val 2 (out ++ [n % 2]) + (n / 2) * 2 ^ (i + 1) = val 2 (xs.take (i + 1)) + val 2 (ys.take (i + 1)) := by
  rw [val_append, val_take_succ', val_take_succ', hl, Nat.pow_succ]
  simp only [val, Nat.mul_zero, Nat.add_zero]
  have h := Nat.mod_add_div n 2
  generalize n % 2 = r at *
  generalize n / 2 = q at *
  generalize 2 ^ i = P at *
  subst hn
  have h3 : (r + 2 * q) * P = xs.getD i 0 * P + ys.getD i 0 * P + cc * P := by rw [h, Nat.add_mul, Nat.add_mul]
  grind

theorem bit_wf {xs : List Nat} (h : Dig 2 xs) (i : Nat) : 0 ≤ nth xs i ∧ nth xs i ≤ 1 := by
  have h1 := h.getD (by omega) i
  unfold nth; omega

set_option maxHeartbeats 1000000 in
theorem radd_any (va vb : Value) (xs ys : List Nat) (w : World) (hx : Sl w .i64 va xs) (hy : Sl w .i64 vb ys) (dx : Dig 2 xs) (dy : Dig 2 ys) (lx : xs.length ≤ 1000000) (ly : ys.length ≤ 1000000) :
    Calls Tryd.prog 41 #[va, vb] w fun e w' => ∃ v, e = .returned v ∧ Sl w' .i64 v (dig 2 (val 2 xs + val 2 ys)) ∧ Below w.heap.size w w' := by
  obtain ⟨i0, hi, hz0, hz1, hz2⟩ := info_parts infoInt
  obtain ⟨ao, ac, rfl⟩ := sl_shape hx
  obtain ⟨bo, bc, rfl⟩ := sl_shape hy
  go_enter Tryd.func41, Tryd.ntmps41
  go_wp2_with fail
  go_loopw [5, 6, 7] (fun v c j wr => ∃ (i : Nat) (out : List Nat) (cc : Nat), j = .int .i64 i ∧ c = .int .i64 (cc : Int) ∧ cc ≤ 1 ∧ i ≤ max xs.length ys.length + 1 ∧ (cc = 0 ∨ i ≤ max xs.length ys.length) ∧
      Ow wr w.heap.size .i64 3 v out ∧ Dig 2 out ∧ Hid (out.length = i) ∧ Hid (val 2 out + cc * 2 ^ i = val 2 (xs.take i) + val 2 (ys.take i)) ∧ Below w.heap.size w wr) (fun _ _ j _ => max xs.length ys.length + 1 - (intOf j).toNat)
  case atStart => exact ⟨0, [], 0, rfl, rfl, by omega, by omega, by omega, Ow.nil _ _ _ _, Dig.nil _, Lib.hid rfl, Lib.hid rfl, Below.refl _ _⟩
  case round =>
    obtain ⟨i, out, cc, rfl, rfl, hcc, hi1, hi2, how, hdo, HL, HV, hb⟩ := hrel
    have X1 := bit_wf dx i
    have Y1 := bit_wf dy i
    have hol : out.length ≤ 2000000 := by have := HL.out; omega
    have hsz := hb.size
    have hx' := hx.below hb
    have hy' := hy.below hb
    have Hnext := Lib.hid (radd_step (xs := xs) (ys := ys) HL.out HV.out rfl)
    by_cases hgo : i < xs.length ∨ i < ys.length ∨ 0 < cc
    · have hnext2 : (xs.getD i 0 + ys.getD i 0 + cc) / 2 = 0 ∨ i + 1 ≤ max xs.length ys.length := by
        by_cases h : i < max xs.length ys.length
        · exact Or.inr (by omega)
        · left; rw [getD_out (show xs.length ≤ i by omega), getD_out (show ys.length ≤ i by omega)]; omega
      have hile : i ≤ max xs.length ys.length := by omega
      have N2 := Lib.hid hnext2
      clear hnext2 hi2
      rcases (show i < xs.length ∨ (xs.length ≤ i ∧ i < ys.length) ∨ (xs.length ≤ i ∧ ys.length ≤ i ∧ 0 < cc) by omega) with hc1 | ⟨hc1, hc2⟩ | ⟨hc1, hc2, hc3⟩
      all_goals
        clear hgo
        go_wp2_with fail
        refine (at_any _ xs _ i _ hx' rfl).mono ?_; rintro e w' ⟨rfl, rfl⟩
        go_wp2_with fail
        refine (at_any _ ys _ i _ hy' rfl).mono ?_; rintro e w' ⟨rfl, rfl⟩
        go_wp2_with (at_builtin; refine wpList_append_one _ rfl (.tmp 34) (.tmp 37) 28 rfl 3 i0 .i64 Tryd.underlying28 hi hz0 hz1 (by omega) w.heap.size _ out rfl (how.alloc _) wr.heap.size ((nth xs i + nth ys i + (cc : Int)) % 2) ((xs.getD i 0 + ys.getD i 0 + cc) % 2) rfl (by simp) (by unfold nth; omega) (by omega) (by simp; omega) ?_; intro v' w1 how' hb')
        go_roundw
        case rel => exact ⟨i + 1, _, (xs.getD i 0 + ys.getD i 0 + cc) / 2, by go_num, by congr 1, by unfold nth at X1 Y1; omega, by omega, N2.out, how', hdo.append (by intro x hx; obtain rfl := List.mem_singleton.1 hx; exact Nat.mod_lt _ (by decide)), Lib.hid (by rw [List.length_append, HL.out]; rfl), Hnext, hb.trans (((Below.refl _ _).alloc hsz _).trans hb')⟩
        case measure => simp [intOf]; omega
    · have hV : val 2 out = val 2 xs + val 2 ys := by
        have := HV.out
        rw [List.take_of_length_le (by omega), List.take_of_length_le (by omega), show cc = 0 by omega] at this
        omega
      have HV' := Lib.hid hV
      clear hV
      have c1 : xs.length ≤ i ∧ ys.length ≤ i ∧ cc = 0 := by omega
      obtain ⟨c1, c2, rfl⟩ := c1
      clear hgo hi2
      go_wp2_with (go_at_call 56; refine (cut_v _ out _ how.sl hdo).mono ?_; rintro e w' ⟨v', rfl, hsl, rfl⟩)
      go_ret
      exact ⟨_, rfl, by rw [← HV'.out]; exact hsl, hb⟩
end Go.Proofs.YtbkeildnhimfbaaDoor
