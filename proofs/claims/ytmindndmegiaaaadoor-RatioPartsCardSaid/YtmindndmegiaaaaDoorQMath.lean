/-
  Rational numbers, plainly: comparison, sums and products over crossed numerators, lowest terms, rounding. No program stands here.
-/
import Derived.Test.YtmindndmegiaaaaDoorKWhoA
namespace Go.Proofs.YtmindndmegiaaaaDoor
set_option maxRecDepth 100000

/-- How two rational numbers compare. -/
def cmpQ (a b : Rat) : Int := if a = b then 0 else if a < b then -1 else 1

theorem mk_lt (n1 n2 : Int) {d1 d2 : Nat} (h1 : d1 ≠ 0) (h2 : d2 ≠ 0) : mkRat n1 d1 < mkRat n2 d2 ↔ n1 * d2 < n2 * d1 := by
  have p1 : (0 : Int) < d1 := by omega
  have p2 : (0 : Int) < d2 := by omega
  have h : ∀ (a b : Int) (c e : Nat), c ≠ 0 → e ≠ 0 → (mkRat b e ≤ mkRat a c ↔ b * c ≤ a * e) := by
    intro a b c e hc he
    rw [Rat.le_iff_sub_nonneg, ← Rat.divInt_ofNat, ← Rat.divInt_ofNat, Rat.divInt_sub_divInt _ _ (by omega) (by omega), Rat.divInt_nonneg_iff_of_pos_right (Int.mul_pos (by omega) (by omega))]
    omega
  rw [← Rat.not_le, h n1 n2 d1 d2 h1 h2]
  omega

theorem cmp_mk (n1 n2 : Int) {d1 d2 : Nat} (h1 : 0 < d1) (h2 : 0 < d2) : sgnZ (n1 * d2 - n2 * d1) = cmpQ (mkRat n1 d1) (mkRat n2 d2) := by
  have e1 := Rat.mkRat_eq_iff (n₁ := n1) (n₂ := n2) (Nat.ne_of_gt h1) (Nat.ne_of_gt h2)
  have e2 := mk_lt n1 n2 (Nat.ne_of_gt h1) (Nat.ne_of_gt h2)
  unfold cmpQ sgnZ
  by_cases h : n1 * d2 = n2 * d1
  · rw [if_pos (by omega), if_pos (e1.2 h)]
  · rw [if_neg (by omega), if_neg (fun x => h (e1.1 x))]
    by_cases h' : n1 * d2 < n2 * d1
    · rw [if_pos (by omega), if_pos (e2.2 h')]
    · rw [if_neg (by omega), if_neg (fun x => h' (e2.1 x))]

theorem mk_add (n1 n2 : Int) {d1 d2 : Nat} (h1 : 0 < d1) (h2 : 0 < d2) : mkRat (n1 * d2 + n2 * d1) (d1 * d2) = mkRat n1 d1 + mkRat n2 d2 :=
  (Rat.mkRat_add_mkRat n1 n2 (Nat.ne_of_gt h1) (Nat.ne_of_gt h2)).symm
theorem mk_neg (n : Int) (d : Nat) : mkRat (-n) d = -mkRat n d := (Rat.neg_mkRat n d).symm
theorem mk_sub (n1 n2 : Int) {d1 d2 : Nat} (h1 : 0 < d1) (h2 : 0 < d2) : mkRat (n1 * d2 - n2 * d1) (d1 * d2) = mkRat n1 d1 - mkRat n2 d2 := by
  rw [Rat.sub_eq_add_neg, ← mk_neg, ← mk_add _ _ h1 h2, Int.neg_mul, Int.sub_eq_add_neg]
theorem mk_mul (n1 n2 : Int) (d1 d2 : Nat) : mkRat (n1 * n2) (d1 * d2) = mkRat n1 d1 * mkRat n2 d2 := (Rat.mkRat_mul_mkRat n1 n2 d1 d2).symm
theorem mk_one (n : Int) : mkRat n 1 = (n : Rat) := by
  have := Rat.mkRat_self (n : Rat)
  rwa [Rat.num_intCast, Rat.den_intCast] at this

/-- The numerator in lowest terms. -/
theorem mk_num (b : Bool) (m : Nat) {d : Nat} (h : 0 < d) : (mkRat (sg b m) d).num = sg b (m / Nat.gcd m d) := by
  rw [Rat.num_mkRat, if_neg (Nat.ne_of_gt h), sg_natAbs, Nat.gcd_comm]
  cases b
  · simp [sg]
  · have hd : ((Nat.gcd m d : Nat) : Int) ∣ (m : Int) := Int.ofNat_dvd.2 (Nat.gcd_dvd_left m d)
    simp only [sg, if_true]
    rw [Int.neg_ediv_of_dvd hd]
    simp
theorem mk_den (n : Int) {d : Nat} (h : 0 < d) : (mkRat n d).den = d / Nat.gcd n.natAbs d := by
  rw [Rat.den_mkRat, if_neg (Nat.ne_of_gt h), Nat.gcd_comm]

/-- Two forms of one number have the same crossed products. -/
theorem num_cross (n : Int) {d : Nat} (h : 0 < d) : (mkRat n d).num * (d : Int) = n * ((mkRat n d).den : Int) := by
  have h1 := Rat.mkRat_self (mkRat n d)
  exact (Rat.mkRat_eq_iff (mkRat n d).den_nz (Nat.ne_of_gt h)).1 h1

theorem cmpQ_self (a : Rat) : cmpQ a a = 0 := if_pos rfl
theorem cmpQ_zero {a b : Rat} : cmpQ a b = 0 ↔ a = b := by
  unfold cmpQ
  by_cases h : a = b
  · simp [h]
  · rw [if_neg h]; simp only [h, iff_false]; split <;> omega
theorem cmpQ_neg {a b : Rat} : cmpQ a b < 0 ↔ a < b := by
  unfold cmpQ
  by_cases h : a = b
  · subst h; simp [Rat.lt_irrefl]
  · rw [if_neg h]; by_cases h' : a < b <;> simp [h']
theorem cmpQ_pos {a b : Rat} : 0 < cmpQ a b ↔ b < a := by
  unfold cmpQ
  by_cases h : a = b
  · subst h; simp [Rat.lt_irrefl]
  · rw [if_neg h]
    by_cases h' : a < b
    · simp only [h', if_true]
      have := Rat.not_lt.2 (Rat.le_of_lt h')
      simp [this]
    · simp only [h', if_false]
      have := Rat.lt_of_le_of_ne (Rat.not_lt.1 h') (Ne.symm h)
      simp [this]
theorem cmpQ_bounds (a b : Rat) : -1 ≤ cmpQ a b ∧ cmpQ a b ≤ 1 := by
  unfold cmpQ; split
  · omega
  · split <;> omega
theorem cmpQ_swap (a b : Rat) : cmpQ a b = -cmpQ b a := by
  have h1 := @cmpQ_zero a b; have h2 := @cmpQ_neg a b; have h3 := @cmpQ_zero b a; have h4 := @cmpQ_pos b a
  have h5 := cmpQ_bounds a b; have h6 := cmpQ_bounds b a
  by_cases h : a = b
  · rw [h1.2 h, h3.2 h.symm]; rfl
  · by_cases h' : a < b
    · have := h2.2 h'; have := h4.2 h'; omega
    · have g1 : ¬ cmpQ a b = 0 := fun x => h (h1.1 x)
      have g2 : ¬ cmpQ a b < 0 := fun x => h' (h2.1 x)
      have g3 : ¬ cmpQ b a = 0 := fun x => h (h3.1 x).symm
      have g4 : ¬ 0 < cmpQ b a := fun x => h' (h4.1 x)
      omega
theorem cmpQ_add (a b c : Rat) : cmpQ (a + c) (b + c) = cmpQ a b := by
  unfold cmpQ
  have e : a + c = b + c ↔ a = b := ⟨Rat.add_right_cancel c, fun h => by rw [h]⟩
  simp only [e, Rat.add_lt_add_right]

/-- Rounded down and up. -/
theorem floor_le (n : Int) {d : Nat} (h : 0 < d) : ((Int.fdiv n d : Int) : Rat) ≤ mkRat n d := by
  rw [← Rat.not_lt, ← mk_one, mk_lt _ _ (Nat.ne_of_gt h) (by decide)]
  have h1 := Int.mul_fdiv_self_le (x := n) (k := (d : Int)) (by omega)
  have h2 : (d : Int) * Int.fdiv n d = Int.fdiv n d * d := Int.mul_comm _ _
  simp only [Int.ofNat_one, Int.mul_one]
  omega
theorem lt_floor (n : Int) {d : Nat} (h : 0 < d) : mkRat n d < ((Int.fdiv n d + 1 : Int) : Rat) := by
  rw [← mk_one, mk_lt _ _ (Nat.ne_of_gt h) (by decide)]
  have h1 := Int.lt_mul_fdiv_self_add (x := n) (k := (d : Int)) (by omega)
  have h2 : (d : Int) * Int.fdiv n d = Int.fdiv n d * d := Int.mul_comm _ _
  simp only [Int.ofNat_one, Int.mul_one, Int.add_mul, Int.one_mul]
  omega
theorem fmod_zero (n : Int) {d : Nat} (h : 0 < d) : Int.fmod n d = 0 ↔ mkRat n d = ((Int.fdiv n d : Int) : Rat) := by
  rw [← mk_one, Rat.mkRat_eq_iff (Nat.ne_of_gt h) (by decide)]
  have h1 := Int.mul_fdiv_add_fmod n d
  have h2 : (d : Int) * Int.fdiv n d = Int.fdiv n d * d := Int.mul_comm _ _
  simp only [Int.ofNat_one, Int.mul_one]
  omega
theorem fmod_den (n : Int) {d : Nat} (h : 0 < d) : Int.fmod n d = 0 ↔ (mkRat n d).den = 1 := by
  rw [fmod_zero n h]
  constructor
  · intro e; rw [e]; rfl
  · intro e
    have h1 := Rat.mkRat_self (mkRat n d)
    rw [e, mk_one] at h1
    have h2 := num_cross n h
    rw [e] at h2
    simp only [Int.ofNat_one, Int.mul_one] at h2
    rw [← h1, ← Int.mul_fdiv_cancel (mkRat n d).num (show (d : Int) ≠ 0 by omega), h2]

end Go.Proofs.YtmindndmegiaaaaDoor
