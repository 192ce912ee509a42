/-
  Contracts of the reference package: Mul.
-/
import Derived.Test.YtbkeildnhimfbaaDoorMulA
import Derived.RegionTactic
import Derived.StillTailTactics
namespace Go.Proofs.YtbkeildnhimfbaaDoor
open Go.RowKit
set_option maxRecDepth 100000

theorem val_add_at (B : Nat) (P : List Nat) (k d : Nat) (h : k < P.length) : val B (P.set k (P.getD k 0 + d)) = val B P + d * B ^ k := by
  have := val_set B P k (P.getD k 0 + d) h
  rw [Nat.add_mul] at this
  omega

theorem rmul_step {P xs ys : List Nat} {i j S : Nat} (hij : i + j < P.length) (hv : val 2 P = S + xs.getD i 0 * 2 ^ i * val 2 (ys.take j)) :
    val 2 (P.set (i + j) (P.getD (i + j) 0 + xs.getD i 0 * ys.getD j 0)) = S + xs.getD i 0 * 2 ^ i * val 2 (ys.take (j + 1)) := by
  rw [val_add_at _ _ _ _ hij, hv, val_take_succ', Nat.pow_add]
  grind
theorem rmul_round {P xs ys : List Nat} {i : Nat} (hv : val 2 P = val 2 (xs.take i) * val 2 ys + xs.getD i 0 * 2 ^ i * val 2 (ys.take ys.length)) : val 2 P = val 2 (xs.take (i + 1)) * val 2 ys := by
  rw [hv, val_take_succ', List.take_length, Nat.add_mul]

theorem getD_set (P : List Nat) (i v t : Nat) : (P.set i v).getD t 0 = if t = i ∧ i < P.length then v else P.getD t 0 := by
  by_cases h : t = i
  · subst h
    by_cases hl : t < P.length
    · simp [List.getD, hl]
    · simp [List.getD, hl]
  · rw [List.getD_eq_getElem?_getD, List.getElem?_set_ne (fun e => h e.symm), ← List.getD_eq_getElem?_getD, if_neg (by simp [h])]

theorem carry_step {Q : List Nat} {k : Nat} (hk : k + 1 < Q.length) :
    val 2 ((Q.set (k + 1) (Q.getD (k + 1) 0 + Q.getD k 0 / 2)).set k (Q.getD k 0 % 2)) = val 2 Q := by
  have h1 := val_add_at 2 Q (k + 1) (Q.getD k 0 / 2) hk
  have h2 := val_set 2 (Q.set (k + 1) (Q.getD (k + 1) 0 + Q.getD k 0 / 2)) k (Q.getD k 0 % 2) (by rw [List.length_set]; omega)
  rw [getD_set, if_neg (by omega), h1, Nat.pow_succ] at h2
  have h3 := Nat.mod_add_div (Q.getD k 0) 2
  generalize Q.getD k 0 % 2 = r at *
  generalize Q.getD k 0 / 2 = q at *
  generalize 2 ^ k = p at *
  rw [← h3] at h2
  grind

theorem mul_lt_bits {xs ys : List Nat} (dx : Dig 2 xs) (dy : Dig 2 ys) : val 2 xs * val 2 ys < 2 ^ (xs.length + ys.length) := by
  rw [Nat.pow_add]; exact Nat.mul_lt_mul'' (val_lt dx) (val_lt dy)
theorem dig_of_bits {Q : List Nat} {n : Nat} (hl : Q.length = n + 1) (hb : ∀ t, t < n → Q.getD t 0 < 2) (h0 : Q.getD n 0 = 0) : Dig 2 Q := by
  intro x hx
  obtain ⟨i, hi, rfl⟩ := List.getElem_of_mem hx
  have e : Q[i] = Q.getD i 0 := by simp [List.getD, hi]
  rw [e]
  by_cases h : i < n
  · exact hb i h
  · have : i = n := by omega
    subst this; omega

/-- No entry is greater than M. -/
def AtMost (M : Nat) (P : List Nat) : Prop := ∀ k, P.getD k 0 ≤ M
theorem AtMost.set {M M' : Nat} {P : List Nat} (h : AtMost M P) (hM : M ≤ M') {i v : Nat} (hv : v ≤ M') : AtMost M' (P.set i v) := by
  intro k
  by_cases hk : k = i
  · subst hk
    by_cases hl : k < P.length
    · simpa [List.getD, hl] using hv
    · simp [List.getD, Nat.le_of_not_lt hl]
  · have := h k
    rw [List.getD_eq_getElem?_getD, List.getElem?_set_ne (fun e => hk e.symm), ← List.getD_eq_getElem?_getD]; omega

theorem atMost_zeros (M n : Nat) : AtMost M (List.replicate n 0) := by
  intro k
  by_cases h : k < n
  · simp [List.getD, h]
  · simp [List.getD, Nat.le_of_not_lt h]

theorem mul_bit {x y : Nat} (hx : x < 2) (hy : y < 2) : x * y ≤ 1 := by
  have := Nat.mul_le_mul (show x ≤ 1 by omega) (show y ≤ 1 by omega); omega

set_option maxHeartbeats 2000000 in
set_option maxRecDepth 100000 in
theorem rmul_any (va vb : Value) (xs ys : List Nat) (w : World) (hx : Sl w .i64 va xs) (hy : Sl w .i64 vb ys) (dx : Dig 2 xs) (dy : Dig 2 ys) (lx : xs.length ≤ 1000) (ly : ys.length ≤ 1000) :
    Calls Tryd.prog 45 #[va, vb] w fun e w' => ∃ v, e = .returned v ∧ Sl w' .i64 v (dig 2 (val 2 xs * val 2 ys)) ∧ Below w.heap.size w w' := by
  obtain ⟨i0, hi, hz0, hz1, hz2⟩ := info_parts infoInt
  have HX := Lib.hid hx
  have HY := Lib.hid hy
  obtain ⟨ao, ac, rfl, a1, a2, a3, a4⟩ := hx
  obtain ⟨bo, bc, rfl, b1, b2, b3, b4⟩ := hy
  go_enter Tryd.func45, Tryd.ntmps45
  go_wp2_with (at_make; refine wpList_make_blk _ rfl _ _ 28 rfl 3 i0 .i64 Tryd.underlying28 hi hz0 hz1 _ _ _ _ (xs.length + ys.length + 1) rfl rfl (by omega) (by omega) (by omega) (by omega) ?_; intro w1 hB1 hb1 hs1)
  go_loopw [6, 7] (fun si _ wr => ∃ (i : Nat) (P : List Nat), si = .int .i64 i ∧ i ≤ xs.length ∧ Blk wr w.heap.size .i64 3 P ∧ Below w.heap.size w wr ∧ AtMost (i * 1000) P ∧ Hid (P.length = xs.length + ys.length + 1) ∧ Hid (val 2 P = val 2 (xs.take i) * val 2 ys)) (fun si _ _ => xs.length - (intOf si).toNat)
  case atStart => exact ⟨0, _, rfl, Nat.zero_le _, hB1, hb1, atMost_zeros _ _, Lib.hid (by simp), Lib.hid (by rw [val_replicate_zero]; simp [val])⟩
  case round =>
    clear hB1 hb1 hs1
    obtain ⟨i, P, rfl, hin, hB, hb, hM, HL, HV⟩ := hrel
    by_cases hlt : i < xs.length
    · obtain ⟨a, rfl, hca⟩ := a4 i hlt
      have x1 := bit_wf dx i
      have x0 := dx.getD (by decide) i
      clear a4
      go_wp2_with fail
      go_loopw [7] (fun sj wr => ∃ (j : Nat) (Q : List Nat), sj = .int .i64 j ∧ j ≤ ys.length ∧ Blk wr w.heap.size .i64 3 Q ∧ Below w.heap.size w wr ∧ AtMost (i * 1000 + j) Q ∧ Hid (Q.length = xs.length + ys.length + 1) ∧ Hid (val 2 Q = val 2 (xs.take i) * val 2 ys + xs.getD i 0 * 2 ^ i * val 2 (ys.take j))) (fun sj _ => ys.length - (intOf sj).toNat)
      case atStart => exact ⟨0, P, rfl, Nat.zero_le _, hB, hb, (by rw [Nat.add_zero]; exact hM), HL, Lib.hid (by rw [HV.out]; simp [val])⟩
      case round =>
        clear hB hb hM HL HV
        obtain ⟨j, Q, rfl, hjn, hB, hb, hM, HL, HV⟩ := hrel
        by_cases hlt2 : j < ys.length
        · obtain ⟨b, rfl, hcb⟩ := b4 j hlt2
          have hca' : wr.cell? (a.add i) = some (.int .i64 (nth xs i)) := by rw [hb.cell (cell_lt hca)]; exact hca
          have hcb' : wr.cell? (b.add j) = some (.int .i64 (nth ys j)) := by rw [hb.cell (cell_lt hcb)]; exact hcb
          have hcq : wr.cell? ⟨w.heap.size, i + j, none⟩ = some (.int .i64 (nth Q (i + j))) := hB.cell (by rw [HL.out]; omega)
          have hfq := hB.frozen (i + j)
          have y0 := dy.getD (by decide) j
          have hq := hM (i + j)
          have hq' : 0 ≤ nth Q (i + j) ∧ nth Q (i + j) ≤ 2000000 := by unfold nth; omega
          have hm : 0 ≤ nth xs i * nth ys j ∧ nth xs i * nth ys j ≤ 1 := by
            have := mul_bit x0 y0
            have e : nth xs i * nth ys j = ((xs.getD i 0 * ys.getD j 0 : Nat) : Int) := by unfold nth; simp
            rw [e]; omega
          clear b4 hca hcb
          go_wp2_with fail
          go_region
          go_wp2_with fail
          go_roundw
          case rel =>
            refine ⟨j + 1, Q.set (i + j) (Q.getD (i + j) 0 + xs.getD i 0 * ys.getD j 0), by go_num, by omega, ?_, (hb.setCell (p := ⟨w.heap.size, i + j, none⟩) (Nat.le_refl _) _).drew, hM.set (by omega) ?_, Lib.hid (by rw [List.length_set]; exact HL.out), Lib.hid (rmul_step (by rw [HL.out]; omega) HV.out)⟩
            · exact hB.set (i + j) _ _ (by unfold nth; simp)
            · have := mul_bit x0 y0; omega
          case measure => simp [intOf]; omega
        · have hjj : j = ys.length := by omega
          subst hjj
          have HR := Lib.hid (rmul_round HV.out)
          have hM' : AtMost ((i + 1) * 1000) Q := fun k => by have := hM k; omega
          clear b4
          go_wp2_with fail
          go_roundw
          case rel => exact ⟨i + 1, Q, by go_num, by omega, hB, hb, hM', HL, HR⟩
          case measure => simp [intOf]; omega
    · have hii : i = xs.length := by omega
      subst hii
      have hv : val 2 P = val 2 xs * val 2 ys := by have := HV.out; rwa [List.take_length] at this
      have HV' := Lib.hid hv
      clear hv a4 b4 hlt hin
      have hM1 : AtMost 1000000 P := fun k => by have := hM k; omega
      have hpos := HL.out
      go_wp2_with fail
      go_loopw [8] (fun sk wr => ∃ (k : Nat) (Q : List Nat), sk = .int .i64 k ∧ k ≤ xs.length + ys.length ∧ Blk wr w.heap.size .i64 3 Q ∧ Below w.heap.size w wr ∧ AtMost 2000000 Q ∧ Hid (∀ t, k < t → Q.getD t 0 ≤ 1000000) ∧ Hid (∀ t, t < k → Q.getD t 0 < 2) ∧ Hid (Q.length = xs.length + ys.length + 1) ∧ Hid (val 2 Q = val 2 xs * val 2 ys)) (fun sk _ => xs.length + ys.length - (intOf sk).toNat)
      case atStart => exact ⟨0, P, rfl, Nat.zero_le _, hB, hb, (fun k => by have := hM1 k; omega), Lib.hid (fun t _ => hM1 t), Lib.hid (fun t h => by omega), HL, HV'⟩
      case round =>
        clear hB hb hM HL HV hM1 HV' hpos
        obtain ⟨k, Q, rfl, hkn, hB, hb, hM, hM1, hbit, HL, HV⟩ := hrel
        by_cases hlt3 : k < xs.length + ys.length
        · have hc0 : wr.cell? ⟨w.heap.size, k, none⟩ = some (.int .i64 (nth Q k)) := hB.cell (by rw [HL.out]; omega)
          have hc1 : wr.cell? ⟨w.heap.size, k + 1, none⟩ = some (.int .i64 (nth Q (k + 1))) := hB.cell (by rw [HL.out]; omega)
          have hf0 := hB.frozen k
          have hf1 := hB.frozen (k + 1)
          have q0 := hM k
          have q1 := hM1.out (k + 1) (by omega)
          have q0' : 0 ≤ nth Q k ∧ nth Q k ≤ 2000000 := by unfold nth; omega
          have q1' : 0 ≤ nth Q (k + 1) ∧ nth Q (k + 1) ≤ 1000000 := by unfold nth; omega
          have HQ0 := Lib.hid q0
          have HQ1 := Lib.hid q1
          clear q0 q1
          go_wp2_with fail
          go_region
          go_wp2_with fail
          go_roundw
          case rel =>
            have hq0 := HQ0.out
            have hq1 := HQ1.out
            have hkl : k + 1 < Q.length := by rw [HL.out]; omega
            refine ⟨k + 1, (Q.set (k + 1) (Q.getD (k + 1) 0 + Q.getD k 0 / 2)).set k (Q.getD k 0 % 2), by go_num, by omega, ?_, ((hb.setCell (p := ⟨w.heap.size, k + 1, none⟩) (Nat.le_refl _) _).setCell (p := ⟨w.heap.size, k, none⟩) (Nat.le_refl _) _).drew, (hM.set (Nat.le_refl _) (by omega)).set (Nat.le_refl _) (by omega), Lib.hid ?_, Lib.hid ?_, Lib.hid (by rw [List.length_set, List.length_set]; exact HL.out), Lib.hid (by rw [carry_step hkl]; exact HV.out)⟩
            · exact Blk.set (Blk.set hB (k + 1) (Q.getD (k + 1) 0 + Q.getD k 0 / 2) _ (by unfold nth; omega)) k (Q.getD k 0 % 2) _ (by unfold nth; omega)
            · intro t ht
              rw [getD_set, if_neg (by omega), getD_set, if_neg (by omega)]
              exact hM1.out t (by omega)
            · intro t ht
              rw [getD_set, List.length_set]
              by_cases h : t = k
              · rw [if_pos ⟨h, by omega⟩]; omega
              · rw [if_neg (by omega), getD_set, if_neg (by omega)]
                exact hbit.out t (by omega)
          case measure => simp [intOf]; omega
        · have hkk : k = xs.length + ys.length := by omega
          subst hkk
          have hd : Dig 2 Q := dig_of_bits HL.out hbit.out (high_zero (B := 2) (by decide) (m := xs.length + ys.length) (by rw [HV.out]; exact mul_lt_bits dx dy) (Nat.le_refl _))
          have hsl := hB.sl 0 (xs.length + ys.length + 1) (xs.length + ys.length + 1) (by rw [HL.out]; omega) (Nat.le_refl _) (by omega)
          rw [List.drop_zero, List.take_of_length_le (by rw [HL.out]; omega)] at hsl
          go_wp2_with fail
          refine (cut_v _ Q _ hsl hd).mono ?_
          rintro e w4 ⟨v4, rfl, ht4, rfl⟩
          go_wp2_with fail
          go_ret
          refine ⟨_, rfl, ?_, hb⟩
          rw [HV.out] at ht4
          exact ht4
end Go.Proofs.YtbkeildnhimfbaaDoor
