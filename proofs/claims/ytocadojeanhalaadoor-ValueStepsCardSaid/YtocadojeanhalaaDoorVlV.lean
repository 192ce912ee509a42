/-
  What a step does to a list of values: plain mathematics.
-/
import Derived.Test.YtocadojeanhalaaDoorVlU
namespace Go.Proofs.YtocadojeanhalaaDoor
open Go.RowKit
set_option maxRecDepth 100000
set_option linter.unusedSimpArgs false

theorem vc_of {w : World} {u : VU} {v : Value} (h : vV u = v) (hR : VR w u) : VC w v u.x := ⟨u, h.symm, rfl, hR⟩
theorem kv {u : VU} {k : Int} {b d : Bool} {o p : Option Addr} {l c m q : Nat} (h : vC u = [.int .i64 k, .bool b, .slice o l c, .bool d, .slice p m q]) : u.k = k := by
  simp only [vC, List.cons.injEq, Value.int.injEq, true_and] at h; exact h.1
def LoopB (we : World) (n : Nat) (iv : Value) (wr : World) : Prop := ∃ j : Nat, iv = .int .i64 (j : Nat) ∧ j ≤ n ∧ Hid (Below we.heap.size we wr)
def kindV : V → Int
  | .I _ => 0
  | .B _ => 1
  | .L _ => 2
theorem kind_of {w : World} {u : VU} (h : VR w u) : u.k = kindV u.x := by
  unfold VR at h
  split at h <;> rename_i e <;> rw [e] <;> exact h.1
theorem bits_zero {z : Int} (h : bitsZ z = 0) : z = 0 := by
  unfold bitsZ at h
  have := bl_eq0.1 h
  omega
theorem lesser_len (z : Int) : (lesser z).length = cap2 z := by
  unfold lesser cap2
  by_cases h : z = 0
  · rw [if_pos h, bits0 h]; rfl
  · rw [if_neg h, bits1 h]
    by_cases h2 : Int.tdiv z 2 = 0
    · rw [if_pos h2, bits0 h2]; rfl
    · rw [if_neg h2]
      have : bitsZ (Int.tdiv z 2) ≠ 0 := fun e => h2 (bits_zero e)
      simp; omega
theorem lesser_lt {z m : Int} (h : m ∈ lesser z) : bitsZ m < bitsZ z := by
  unfold lesser at h
  by_cases h0 : z = 0
  · rw [if_pos h0] at h; cases h
  · rw [if_neg h0] at h
    rw [bits1 h0]
    rcases List.mem_cons.1 h with rfl | h
    · rw [bits0 rfl]; omega
    · by_cases h2 : Int.tdiv z 2 = 0
      · rw [if_pos h2] at h; cases h
      · rw [if_neg h2, List.mem_singleton] at h
        rw [h]; omega
theorem smallTo_len (zs : List Int) : ∀ j, j ≤ zs.length → (smallTo zs j).length = sumF cap2 (zs.take j)
  | 0, _ => rfl
  | j + 1, h => by
    have h1 := congrArg List.length (small_next zs j h)
    rw [List.length_append, List.length_map, List.length_map, List.length_map, smallTo_len zs j (by omega), lesser_len] at h1
    rw [h1, (sumF_take cap2 zs j h).1]
theorem steps_len (x : V) : (stepsV x).length = wV cap2 x := by
  cases x with
  | I z => simp [stepsV, wV, lesser_len]
  | B b => rfl
  | L l =>
    have h := smallTo_len l l.length (Nat.le_refl _)
    rw [List.take_length] at h
    simp only [stepsV, wV, List.length_append, List.length_map, shorter_len]
    rw [show smaller l = smallTo l l.length from rfl, h]
theorem redTo_len (xs : List V) : ∀ j, j ≤ xs.length → (redTo xs j).length = wL cap2 (xs.take j)
  | 0, _ => rfl
  | j + 1, h => by
    rw [red_next xs j h, List.length_append, List.length_map, redTo_len xs j (by omega), steps_len, (wL_take cap2 xs j h).1]
theorem reduce_len (xs : List V) : (reduceV xs).length = wL cap2 xs := by
  have h := redTo_len xs xs.length (Nat.le_refl _)
  rw [List.take_length] at h
  exact h
theorem cut3 {α : Type} (l : List α) (j : Nat) (h : j < l.length) : l = l.take j ++ [l[j]] ++ l.drop (j + 1) := by
  rw [← List.take_succ_eq_append_getElem h, List.take_append_drop]
theorem sumF_app (f : Int → Nat) (a b : List Int) : sumF f (a ++ b) = sumF f a + sumF f b := by simp [sumF, List.sum_append]
theorem wL_app (f : Int → Nat) (a b : List V) : wL f (a ++ b) = wL f a + wL f b := by simp [wL, List.sum_append]
theorem step_mem {x s : V} (h : s ∈ stepsV x) : kindV s = kindV x ∧ wV bitsZ s < wV bitsZ x := by
  cases x with
  | I z =>
    simp only [stepsV, List.mem_map] at h
    obtain ⟨m, hm, rfl⟩ := h
    exact ⟨rfl, lesser_lt hm⟩
  | B b => cases h
  | L l =>
    simp only [stepsV, List.mem_append, List.mem_map] at h
    rcases h with ⟨m, hm, rfl⟩ | ⟨m, hm, rfl⟩
    · simp only [shorter, List.mem_map, List.mem_range] at hm
      obtain ⟨i, hi, rfl⟩ := hm
      refine ⟨rfl, ?_⟩
      have h1 := congrArg (sumF bitsZ) (cut3 l i hi)
      rw [sumF_app, sumF_app] at h1
      simp only [wV, List.length_append, List.length_take, List.length_drop, sumF_app]
      omega
    · simp only [smaller, List.mem_flatMap, List.mem_map, List.mem_range] at hm
      obtain ⟨i, hi, q, hq, rfl⟩ := hm
      refine ⟨rfl, ?_⟩
      have e : l.getD i 0 = l[i] := by simp [List.getD, hi]
      rw [e] at hq
      have h1 := congrArg (sumF bitsZ) (cut3 l i hi)
      rw [sumF_app, sumF_app] at h1
      have h2 := lesser_lt hq
      have h3 : sumF bitsZ [l[i]] = bitsZ l[i] := by simp [sumF]
      have h4 : sumF bitsZ [q] = bitsZ q := by simp [sumF]
      simp only [wV, List.length_append, List.length_take, List.length_drop, sumF_app, List.length_cons, List.length_nil, h4]
      omega
/-- One step: what it turns. -/
theorem red_mem {xs m : List V} (h : m ∈ reduceV xs) : ∃ (j : Nat) (_s : V), j < xs.length ∧ m.length = xs.length ∧ wL bitsZ m < wL bitsZ xs ∧ (∀ (i : Nat) (h1 : i < m.length) (h2 : i < xs.length), kindV m[i] = kindV xs[i] ∧ (m[i] = xs[i] ↔ i ≠ j)) := by
  simp only [reduceV, List.mem_flatMap, List.mem_map, List.mem_range] at h
  obtain ⟨j, hj, s, hs, hm⟩ := h
  have e : xs.getD j (.B false) = xs[j] := by simp [List.getD, hj]
  rw [e] at hs
  obtain ⟨hk, hw⟩ := step_mem hs
  have hne : s ≠ xs[j] := fun h => by rw [h] at hw; omega
  have hm2 : m = xs.set j s := by rw [← hm, List.set_eq_take_append_cons_drop, if_pos hj]; simp
  have hwl : wL bitsZ m < wL bitsZ xs := by
    have h1 := congrArg (wL bitsZ) (cut3 xs j hj)
    rw [wL_app, wL_app] at h1
    rw [← hm, wL_app, wL_app]
    have h3 : wL bitsZ [xs[j]] = wV bitsZ xs[j] := by simp [wL]
    have h4 : wL bitsZ [s] = wV bitsZ s := by simp [wL]
    omega
  clear hm
  subst hm2
  refine ⟨j, s, hj, by simp, hwl, fun i h1 h2 => ?_⟩
  rw [List.getElem_set]
  by_cases hij : j = i
  · subst hij
    rw [if_pos rfl]
    exact ⟨hk, by simp [hne]⟩
  · rw [if_neg hij]
    exact ⟨rfl, by simp; omega⟩
theorem tv_bd {x : V} (h : TV x) : wV bitsZ x ≤ 800 ∧ ∀ l, x = .L l → l.length ≤ 6 := by
  cases x with
  | I z => exact ⟨by have := bits_bdk h; simp only [wV]; omega, fun l e => by cases e⟩
  | B b => exact ⟨Nat.zero_le _, fun l e => by cases e⟩
  | L l =>
    refine ⟨?_, fun l' e => by injection e with e; subst e; exact h.1⟩
    have h2 : ∀ l : List Int, (∀ z ∈ l, z.natAbs < L32 ^ 4) → sumF bitsZ l ≤ 128 * l.length := by
      intro l
      induction l with
      | nil => intro _; simp [sumF]
      | cons a l ih =>
        intro h
        have h1 := ih (fun z hz => h z (List.mem_cons_of_mem _ hz))
        have h3 := bits_bdk (h a (List.mem_cons_self ..))
        simp only [sumF, List.map_cons, List.sum_cons, List.length_cons] at *
        omega
    have h3 := h2 l h.2
    have h4 := h.1
    simp only [wV]; omega
theorem tame_bd {xs : List V} (h : ∀ x ∈ xs, TV x) (hl : xs.length ≤ 5) : wL bitsZ xs ≤ 4000 := by
  have h2 : ∀ l : List V, (∀ x ∈ l, TV x) → wL bitsZ l ≤ 800 * l.length := by
    intro l
    induction l with
    | nil => intro _; simp [wL]
    | cons a l ih =>
      intro h
      have h1 := ih (fun z hz => h z (List.mem_cons_of_mem _ hz))
      have h3 := (tv_bd (h a (List.mem_cons_self ..))).1
      simp only [wL, List.map_cons, List.sum_cons, List.length_cons] at *
      omega
  have := h2 xs h
  omega
end Go.Proofs.YtocadojeanhalaaDoor
