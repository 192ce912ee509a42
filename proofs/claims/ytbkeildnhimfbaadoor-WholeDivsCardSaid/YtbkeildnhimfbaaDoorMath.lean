/-
  Plain mathematics: the number that a list of digits (the lowest first) has in base B; the list of digits of a number; sums and differences digit by digit. No program, no Go stands here.
-/
import Init
namespace Go.Proofs.YtbkeildnhimfbaaDoor
set_option maxRecDepth 100000

/-- The number that digits, the lowest first, have in base B. -/
def val (B : Nat) : List Nat → Nat
  | [] => 0
  | x :: xs => x + B * val B xs

/-- Each digit is one of base B. -/
def Dig (B : Nat) (xs : List Nat) : Prop := ∀ x ∈ xs, x < B

theorem val_append (B : Nat) (xs ys : List Nat) : val B (xs ++ ys) = val B xs + B ^ xs.length * val B ys := by
  induction xs with
  | nil => simp [val]
  | cons x xs ih => simp only [List.cons_append, val, ih, List.length_cons, Nat.pow_succ]; grind

theorem val_lt {B : Nat} {xs : List Nat} (h : Dig B xs) : val B xs < B ^ xs.length := by
  induction xs with
  | nil => simp [val]
  | cons x xs ih =>
    have h1 : x < B := h x (by simp)
    have h2 := ih (fun y hy => h y (by simp [hy]))
    simp only [val, List.length_cons, Nat.pow_succ]
    have : B * (val B xs + 1) ≤ B * B ^ xs.length := Nat.mul_le_mul_left _ h2
    grind

theorem val_set (B : Nat) (xs : List Nat) (i v : Nat) (h : i < xs.length) : val B (xs.set i v) + xs.getD i 0 * B ^ i = val B xs + v * B ^ i := by
  induction xs generalizing i with
  | nil => simp at h
  | cons x xs ih =>
    cases i with
    | zero => simp [val]; omega
    | succ i =>
      have := ih i (by simpa using h)
      simp only [List.set_cons_succ, val, List.getD_cons_succ, Nat.pow_succ]
      grind

theorem val_take_succ (B : Nat) (xs : List Nat) (k : Nat) (h : k < xs.length) : val B (xs.take (k + 1)) = val B (xs.take k) + xs.getD k 0 * B ^ k := by
  rw [List.take_succ_eq_append_getElem h, val_append]
  have e : (xs.take k).length = k := by simp; omega
  simp [val, e, List.getD, h, Nat.mul_comm]

theorem val_replicate_zero (B n : Nat) : val B (List.replicate n 0) = 0 := by
  induction n with
  | zero => rfl
  | succ n ih => simp [List.replicate_succ, val, ih]

theorem Dig.set {B : Nat} {xs : List Nat} (h : Dig B xs) {i v : Nat} (hv : v < B) : Dig B (xs.set i v) := by
  intro x hx
  rcases List.mem_or_eq_of_mem_set hx with h' | h'
  · exact h x h'
  · omega
theorem Dig.append {B : Nat} {xs ys : List Nat} (h : Dig B xs) (k : Dig B ys) : Dig B (xs ++ ys) := by
  intro x hx; rcases List.mem_append.1 hx with h' | h'
  · exact h x h'
  · exact k x h'
theorem Dig.take {B : Nat} {xs : List Nat} (h : Dig B xs) (n : Nat) : Dig B (xs.take n) := fun x hx => h x (List.mem_of_mem_take hx)
theorem Dig.drop {B : Nat} {xs : List Nat} (h : Dig B xs) (n : Nat) : Dig B (xs.drop n) := fun x hx => h x (List.mem_of_mem_drop hx)
theorem Dig.getD {B : Nat} {xs : List Nat} (h : Dig B xs) (hB : 0 < B) (i : Nat) : xs.getD i 0 < B := by
  by_cases hi : i < xs.length
  · have := h xs[i] (List.getElem_mem hi); simpa [List.getD, hi] using this
  · simpa [List.getD, Nat.le_of_not_lt hi] using hB
theorem Dig.replicate {B : Nat} (hB : 0 < B) (n : Nat) : Dig B (List.replicate n 0) := fun x hx => by rw [List.eq_of_mem_replicate hx]; exact hB
theorem Dig.nil (B : Nat) : Dig B [] := fun x hx => by cases hx

/-- How many digits are left when the zeros at the end are struck. -/
def nz (xs : List Nat) : Nat := (xs.reverse.dropWhile (· == 0)).length

theorem nz_le (xs : List Nat) : nz xs ≤ xs.length := by
  unfold nz
  have := (List.dropWhile_suffix (p := (· == 0)) (l := xs.reverse)).length_le
  simpa using this
theorem nz_zero {xs : List Nat} {k : Nat} (h : k < xs.length) (h0 : xs.getD k 0 = 0) : nz (xs.take (k+1)) = nz (xs.take k) := by
  unfold nz
  rw [List.take_succ_eq_append_getElem h]
  simp [List.getD, h] at h0
  simp [h0]
theorem nz_pos {xs : List Nat} {k : Nat} (h : k < xs.length) (h0 : xs.getD k 0 ≠ 0) : nz (xs.take (k+1)) = k + 1 := by
  unfold nz
  rw [List.take_succ_eq_append_getElem h]
  simp [List.getD, h] at h0
  have e : (xs[k] == 0) = false := by simpa using h0
  rw [List.reverse_append, List.reverse_singleton, List.singleton_append, List.dropWhile_cons, e]
  simp; omega

/-- The digits of n in base B, the lowest first, none for 0. -/
def dig (B : Nat) (n : Nat) : List Nat :=
  if _h : 2 ≤ B ∧ 0 < n then n % B :: dig B (n / B) else []
termination_by n
decreasing_by exact Nat.div_lt_self _h.2 (by omega)

theorem dig_zero (B : Nat) : dig B 0 = [] := by unfold dig; simp
theorem dig_pos {B n : Nat} (hB : 2 ≤ B) (h : 0 < n) : dig B n = n % B :: dig B (n / B) := by rw [dig]; simp [hB, h]
theorem val_dig {B : Nat} (hB : 2 ≤ B) (n : Nat) : val B (dig B n) = n := by
  induction n using Nat.strongRecOn with
  | ind n ih =>
    by_cases h : 0 < n
    · rw [dig_pos hB h]; simp only [val]; rw [ih _ (Nat.div_lt_self h (by omega))]; have := Nat.mod_add_div n B; omega
    · have : n = 0 := by omega
      subst this; simp [dig_zero, val]
theorem Dig_dig {B : Nat} (hB : 2 ≤ B) (n : Nat) : Dig B (dig B n) := by
  induction n using Nat.strongRecOn with
  | ind n ih =>
    by_cases h : 0 < n
    · rw [dig_pos hB h]; intro x hx
      rcases List.mem_cons.1 hx with rfl | hx
      · exact Nat.mod_lt _ (by omega)
      · exact ih _ (Nat.div_lt_self h (by omega)) x hx
    · have : n = 0 := by omega
      subst this; simp [dig_zero, Dig]

/-- A list of digits without its zeros at the end is the list of digits of its number. -/
theorem take_nz {B : Nat} (hB : 2 ≤ B) {xs : List Nat} (h : Dig B xs) : xs.take (nz xs) = dig B (val B xs) := by
  induction xs with
  | nil => simp [nz, val, dig_zero]
  | cons x xs ih =>
    have hx : x < B := h x (by simp)
    have hd : Dig B xs := fun y hy => h y (by simp [hy])
    have ih' := ih hd
    by_cases hz : nz xs = 0
    · have hv : val B xs = 0 := by
        have : dig B (val B xs) = [] := by rw [← ih', hz]; rfl
        by_cases h0 : 0 < val B xs
        · rw [dig_pos hB h0] at this; cases this
        · omega
      have hall : xs.reverse.dropWhile (· == 0) = [] := List.eq_nil_of_length_eq_zero hz
      simp only [val, hv, Nat.mul_zero, Nat.add_zero]
      have e : nz (x :: xs) = if x = 0 then 0 else 1 := by
        unfold nz
        rw [List.reverse_cons, List.dropWhile_append, hall]
        by_cases hx0 : x = 0
        · simp [hx0]
        · simp [hx0, List.dropWhile]
          have : (x == 0) = false := by simpa using hx0
          simp [this]
      by_cases hx0 : x = 0
      · rw [e, if_pos hx0, hx0, dig_zero]; rfl
      · rw [e, if_neg hx0, dig_pos hB (by omega), Nat.mod_eq_of_lt hx, Nat.div_eq_of_lt hx, dig_zero]; rfl
    · have hne : xs.reverse.dropWhile (· == 0) ≠ [] := fun e => hz (by unfold nz; rw [e]; rfl)
      have e : nz (x :: xs) = nz xs + 1 := by
        unfold nz
        rw [List.reverse_cons, List.dropWhile_append, if_neg (by simpa using hne)]
        simp
      have hv : 0 < val B xs := by
        rcases Nat.eq_zero_or_pos (val B xs) with h0 | h0
        · rw [h0, dig_zero] at ih'
          have := congrArg List.length ih'
          simp at this
          have hl := nz_le xs
          rcases this with h1 | h1
          · omega
          · subst h1; simp [nz] at hz
        · exact h0
      have hv' : 0 < x + B * val B xs := by
        have h1 : 1 ≤ B := by omega
        have := Nat.mul_le_mul h1 hv; omega
      rw [e, List.take_succ_cons, ih', val, dig_pos (n := x + B * val B xs) hB hv']
      rw [Nat.add_mul_mod_self_left, Nat.mod_eq_of_lt hx, Nat.add_mul_div_left _ _ (by omega), Nat.div_eq_of_lt hx, Nat.zero_add]

theorem dig_val_take {B : Nat} (hB : 2 ≤ B) {xs : List Nat} (h : Dig B xs) : dig B (val B xs) = xs.take (nz xs) := (take_nz hB h).symm
theorem length_dig_val {B : Nat} (hB : 2 ≤ B) {xs : List Nat} (h : Dig B xs) : (dig B (val B xs)).length = nz xs := by
  rw [dig_val_take hB h, List.length_take]; have := nz_le xs; omega
theorem val_take_nz {B : Nat} (hB : 2 ≤ B) {xs : List Nat} (h : Dig B xs) : val B (xs.take (nz xs)) = val B xs := by rw [take_nz hB h, val_dig hB]

theorem length_dig_le {B : Nat} (hB : 2 ≤ B) {n k : Nat} (h : n < B ^ k) : (dig B n).length ≤ k := by
  induction k generalizing n with
  | zero => simp at h; subst h; simp [dig_zero]
  | succ k ih =>
    by_cases h0 : 0 < n
    · rw [dig_pos hB h0, List.length_cons]
      have : n / B < B ^ k := Nat.div_lt_of_lt_mul (by rw [Nat.pow_succ] at h; rw [Nat.mul_comm]; exact h)
      have := ih this; omega
    · have : n = 0 := by omega
      subst this; simp [dig_zero]
theorem lt_pow_of_length {B : Nat} (hB : 2 ≤ B) {n k : Nat} (h : (dig B n).length ≤ k) : n < B ^ k := by
  have h1 := val_lt (Dig_dig hB n)
  rw [val_dig hB] at h1
  exact Nat.lt_of_lt_of_le h1 (Nat.pow_le_pow_right (by omega) h)
theorem le_of_length {B : Nat} (hB : 2 ≤ B) {n k : Nat} (h : k < (dig B n).length) : B ^ k ≤ n := by
  rcases Nat.lt_or_ge n (B ^ k) with h1 | h1
  · have := length_dig_le hB h1; omega
  · exact h1

end Go.Proofs.YtbkeildnhimfbaaDoor
