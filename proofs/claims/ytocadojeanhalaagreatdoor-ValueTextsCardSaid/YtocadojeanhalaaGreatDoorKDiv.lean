/-
  Joined: DivB, DivC, DivD, DivE, GcdA.
-/
import Derived.Test.YtocadojeanhalaaGreatDoorKText
import Derived.Test.YtocadojeanhalaaGreatDoorKMul
import Derived.Test.YtocadojeanhalaaGreatDoorKSh
/- Contracts of package nat: guessLimb, subTimes, divStep. -/
namespace Go.Proofs.YtocadojeanhalaaGreatDoor
open Go.RowKit
set_option maxRecDepth 100000

/-- What guessLimb knows of its two numbers: P and D, their high limbs and the rest. -/
structure Gs (B P D H p t x E : Nat) : Prop where
  hp : ∃ lp, P = (H * B + p) * E + lp ∧ lp < E
  hd : ∃ ld, D = (t * B + x) * E + ld ∧ ld < E
  B0 : 0 < B
  pb : p < B
  xb : x < B
  tb : t < B
  t0 : 0 < t
  E0 : 0 < E
  lt : P < D * B

theorem Gs.D0 {B P D H p t x E : Nat} (h : Gs B P D H p t x E) : B * E ≤ D := by
  obtain ⟨ld, h1, h2⟩ := h.hd
  rw [h1]
  have h3 : B * E ≤ (t * B + x) * E := Nat.mul_le_mul_right _ (Nat.le_trans (by have := Nat.mul_le_mul_right B h.t0; omega) (Nat.le_add_right (t * B) x))
  omega
theorem Gs.pos {B P D H p t x E : Nat} (h : Gs B P D H p t x E) : 0 < D := Nat.lt_of_lt_of_le (Nat.mul_pos h.B0 h.E0) h.D0
theorem Gs.quo {B P D H p t x E : Nat} (h : Gs B P D H p t x E) : P / D < B := Nat.div_lt_of_lt_mul h.lt
/-- The high limbs of the greater number are less than those of the divisor, one place up, and a limb. -/
theorem Gs.high {B P D H p t x E : Nat} (h : Gs B P D H p t x E) : H < t * B + B := by
  obtain ⟨lp, h1, h2⟩ := h.hp
  obtain ⟨ld, h3, h4⟩ := h.hd
  have h5 := h.lt
  have hx := h.xb
  rcases Nat.lt_or_ge H (t * B + B) with hh | hh
  · exact hh
  · exfalso
    have e1 : (t * B + B) * (B * E) ≤ H * (B * E) := Nat.mul_le_mul_right _ hh
    have e2 : (x + 1) * (E * B) ≤ B * (E * B) := Nat.mul_le_mul_right _ hx
    have e3 : ld * B < E * B := Nat.mul_lt_mul_of_pos_right h4 h.B0
    rw [h1, h3] at h5
    grind
theorem Gs.start {B P D H p t x E : Nat} (h : Gs B P D H p t x E) : P / D ≤ H / t := by
  obtain ⟨lp, h1, h2⟩ := h.hp
  obtain ⟨ld, h3, h4⟩ := h.hd
  have hp := h.pb
  rw [Nat.le_div_iff_mul_le h.t0]
  have hq := Nat.div_mul_le_self P D
  generalize P / D = Q at *
  have e0 : Q * t * (B * E) ≤ Q * D := by
    rw [Nat.mul_assoc]
    refine Nat.mul_le_mul_left _ ?_
    rw [h3]
    grind
  have e1 : P < (H + 1) * (B * E) := by
    have e2 : (p + 1) * E ≤ B * E := Nat.mul_le_mul_right _ hp
    rw [h1]; grind
  have e3 : Q * t * (B * E) < (H + 1) * (B * E) := by omega
  exact Nat.lt_succ_iff.1 (Nat.lt_of_mul_lt_mul_right e3)
theorem Gs.down {B P D H p t x E q r : Nat} (h : Gs B P D H p t x E) (hq : q * t + r = H) (hc : r * B + p < q * x) : P / D < q := by
  obtain ⟨lp, h1, h2⟩ := h.hp
  obtain ⟨ld, h3, h4⟩ := h.hd
  refine Nat.div_lt_of_lt_mul ?_
  have e1 : (H * B + p + 1) * E ≤ q * (t * B + x) * E := Nat.mul_le_mul_right _ (by rw [← hq]; grind)
  have e2 : q * (t * B + x) * E ≤ q * D := by rw [Nat.mul_assoc, h3]; exact Nat.mul_le_mul_left _ (by omega)
  rw [Nat.mul_comm D q]
  grind
theorem Gs.stop {B P D H p t x E q r : Nat} (h : Gs B P D H p t x E) (hq : q * t + r = H) (hb : q < B) (hc : q * x ≤ r * B + p ∨ B ≤ r) : q ≤ P / D + 1 := by
  obtain ⟨lp, h1, h2⟩ := h.hp
  obtain ⟨ld, h3, h4⟩ := h.hd
  have hD := h.D0
  have hpos := h.pos
  have hx := h.xb
  have key : q * D < P + D := by
    rw [h3] at hD ⊢
    rw [h1]
    have e3 : q * ld ≤ q * E := Nat.mul_le_mul_left _ (by omega)
    have e4 : q * E < B * E := Nat.mul_lt_mul_of_pos_right hb h.E0
    rcases hc with hc | hc
    · have e1 : q * (t * B + x) * E ≤ (H * B + p) * E := Nat.mul_le_mul_right _ (by rw [← hq]; grind)
      grind
    · have e5 : q * x ≤ q * B := Nat.mul_le_mul_left _ (by omega)
      have e6 : q * B ≤ B * B := Nat.mul_le_mul_right _ (by omega)
      have e7 : B * B ≤ r * B := Nat.mul_le_mul_right _ hc
      have e1 : q * (t * B + x) * E ≤ (H * B + p) * E := Nat.mul_le_mul_right _ (by rw [← hq]; grind)
      grind
  rcases Nat.eq_zero_or_pos q with h0 | h0
  · rw [h0]; exact Nat.zero_le _
  · have e : (q - 1) * D ≤ P := by
      have : q * D = (q - 1) * D + D := by rw [← Nat.succ_mul]; congr 1; omega
      omega
    have := (Nat.le_div_iff_mul_le hpos).2 e
    omega

theorem top_split {xs : List Nat} {m : Nat} (dx : Dig L32 xs) (h : xs.length = m + 2) : ∃ l, val L32 xs = (xs.getD (m + 1) 0 * L32 + xs.getD m 0) * L32 ^ m + l ∧ l < L32 ^ m := by
  have h1 := val_take_succ' L32 xs (m + 1)
  have h2 := val_take_succ' L32 xs m
  have h3 := val_lt (dx.take m)
  rw [List.length_take, Nat.min_eq_left (by omega)] at h3
  refine ⟨val L32 (xs.take m), ?_, h3⟩
  rw [show m + 1 + 1 = xs.length by omega, List.take_length] at h1
  rw [h1, h2, Nat.pow_succ]
  grind
theorem gs_of {ps ds : List Nat} {m : Nat} (dp : Dig L32 ps) (dd : Dig L32 ds) (hd : ds.length = m + 2) (hp : ps.length = m + 3) (ht : 0 < ds.getD (m + 1) 0) (hlt : val L32 ps < val L32 ds * L32) :
    Gs L32 (val L32 ps) (val L32 ds) (joinN (ps.getD (m + 2) 0) (ps.getD (m + 1) 0)) (ps.getD m 0) (ds.getD (m + 1) 0) (ds.getD m 0) (L32 ^ m) where
  hp := by
    obtain ⟨l, h1, h2⟩ := top_split (m := m + 1) dp hp
    have h3 := val_take_succ' L32 ps (m + 2)
    have h4 := val_take_succ' L32 ps (m + 1)
    have h5 := val_take_succ' L32 ps m
    have h6 := val_lt (dp.take m)
    rw [List.length_take, Nat.min_eq_left (by omega)] at h6
    refine ⟨val L32 (ps.take m), ?_, h6⟩
    rw [show m + 2 + 1 = ps.length by omega, List.take_length] at h3
    rw [h3, h4, h5, Nat.pow_succ, Nat.pow_succ]
    unfold joinN
    grind
  hd := top_split dd hd
  B0 := by decide
  pb := dp.getD (by decide) m
  xb := dd.getD (by decide) m
  tb := dd.getD (by decide) _
  t0 := ht
  E0 := Nat.pow_pos (by decide)
  lt := hlt

end Go.Proofs.YtocadojeanhalaaGreatDoor

/- Contracts of package nat: subTimes, divStep. -/
namespace Go.Proofs.YtocadojeanhalaaGreatDoor
open Go.RowKit
set_option maxRecDepth 100000

theorem subTimes_step {B : Nat} {t ys : List Nat} {S x k c b z v b' : Nat} (hy : k < ys.length) (ht : k < t.length) (h : val B t + x * val B (ys.take k) = S + (c + b) * B ^ k) (hz : z = c + x * ys.getD k 0) (hv : v + z % B + b = t.getD k 0 + b' * B) :
    val B (t.set k v) + x * val B (ys.take (k + 1)) = S + (z / B + b') * B ^ (k + 1) := by
  have h1 := val_set B t k v ht
  rw [val_take_succ B ys k hy, Nat.pow_succ]
  have h2 := Nat.mod_add_div z B
  generalize z % B = r at *
  generalize z / B = q at *
  generalize B ^ k = P at *
  have h3 : (r + B * q) * P = (c + x * ys.getD k 0) * P := by rw [h2, hz]
  have h4 : (v + r + b) * P = (t.getD k 0 + b' * B) * P := by rw [hv]
  grind
theorem subTimes_last {B : Nat} {t : List Nat} {S Y k c b v b' : Nat} (ht : k < t.length) (h : val B t + Y = S + (c + b) * B ^ k) (hv : v + c + b = t.getD k 0 + b' * B) :
    val B (t.set k v) + Y = S + b' * B ^ (k + 1) := by
  have h1 := val_set B t k v ht
  rw [Nat.pow_succ]
  generalize B ^ k = P at *
  have h4 : (v + c + b) * P = (t.getD k 0 + b' * B) * P := by rw [hv]
  grind

theorem step_math {P D g t' b n : Nat} (hD : 0 < D) (h1 : P / D ≤ g) (h2 : g ≤ P / D + 1) (h : t' + g * D = P + b * L32 ^ n) (ht : t' < L32 ^ n) (hb : b = 0 ∨ b = 1) (hP : D ≤ L32 ^ n) :
    b = 0 ∧ g = P / D ∧ t' = P % D ∨ b = 1 ∧ g = P / D + 1 ∧ (t' + D) % L32 ^ n = P % D := by
  have hm := Nat.div_add_mod P D
  have hr := Nat.mod_lt P hD
  rw [Nat.mul_comm] at hm
  generalize P / D = Q at *
  generalize P % D = R at *
  generalize L32 ^ n = T at *
  have hg : g = Q ∨ g = Q + 1 := by omega
  rcases hg with rfl | rfl
  · rcases hb with rfl | rfl
    · left; exact ⟨rfl, rfl, by omega⟩
    · exfalso; omega
  · rw [Nat.succ_mul] at h
    rcases hb with rfl | rfl
    · exfalso; omega
    · right
      refine ⟨rfl, rfl, ?_⟩
      rw [show t' + D = R + 1 * T by omega, Nat.add_mul_mod_self_right, Nat.mod_eq_of_lt (by omega)]

end Go.Proofs.YtocadojeanhalaaGreatDoor

/- Contracts of package nat: divLong, Div. -/
namespace Go.Proofs.YtocadojeanhalaaGreatDoor
open Go.RowKit
set_option maxRecDepth 100000

theorem lt_bl (n : Nat) : n < 2 ^ bl n := by
  have h := val_lt (Dig_dig (B := 2) (by decide) n)
  rwa [val_dig (by decide)] at h
/-- A shift that sets the top bit keeps the number of limbs. -/
theorem shift_len {Y : List Nat} {n s : Nat} (dy : Dig L32 Y) (hn : Y.length = n + 1) (ht : 0 < Y.getD n 0) (hs : s + bl (Y.getD n 0) ≤ 32) :
    (dig L32 (val L32 Y * 2 ^ s)).length = n + 1 ∧ 0 < (dig L32 (val L32 Y * 2 ^ s)).getD n 0 ∧ L32 ^ n * 2 ^ s ≤ val L32 Y * 2 ^ s := by
  have e := val_take_succ' L32 Y n
  rw [show n + 1 = Y.length by omega, List.take_length] at e
  have h1 := val_lt (dy.take n)
  rw [List.length_take, Nat.min_eq_left (by omega)] at h1
  have h2 := lt_bl (Y.getD n 0)
  generalize Y.getD n 0 = t at *
  have hlo : L32 ^ n ≤ val L32 Y := by
    rw [e]
    have := Nat.mul_le_mul_right (L32 ^ n) ht
    omega
  have hlo2 : L32 ^ n * 2 ^ s ≤ val L32 Y * 2 ^ s := Nat.mul_le_mul_right _ hlo
  have hup : val L32 Y * 2 ^ s < L32 ^ (n + 1) := by
    have h3 : val L32 Y < (t + 1) * L32 ^ n := by rw [e, Nat.succ_mul]; omega
    have h4 : (t + 1) * L32 ^ n ≤ 2 ^ bl t * L32 ^ n := Nat.mul_le_mul_right _ h2
    have h5 : val L32 Y * 2 ^ s < 2 ^ bl t * L32 ^ n * 2 ^ s := Nat.mul_lt_mul_of_pos_right (Nat.lt_of_lt_of_le h3 h4) (Nat.pow_pos (by decide))
    have h6 : 2 ^ bl t * L32 ^ n * 2 ^ s = 2 ^ (s + bl t) * L32 ^ n := by rw [Nat.pow_add]; grind
    have h7 : 2 ^ (s + bl t) ≤ 2 ^ 32 := Nat.pow_le_pow_right (by decide) hs
    have h8 : 2 ^ (s + bl t) * L32 ^ n ≤ 2 ^ 32 * L32 ^ n := Nat.mul_le_mul_right _ h7
    have h9 : L32 ^ (n + 1) = 2 ^ 32 * L32 ^ n := by rw [Nat.pow_succ, Nat.mul_comm]
    omega
  have hge : L32 ^ n ≤ val L32 Y * 2 ^ s := Nat.le_trans hlo (Nat.le_mul_of_pos_right _ (Nat.pow_pos (by decide)))
  generalize val L32 Y * 2 ^ s = D at *
  have hd := Dig_dig (B := L32) (by decide) D
  have hv := val_dig (B := L32) (by decide) D
  have hl : (dig L32 D).length = n + 1 := by
    have h1 := length_dig_le (B := L32) (by decide) hup
    rcases Nat.lt_or_ge (dig L32 D).length (n + 1) with h | h
    · exfalso
      have h3 := val_lt hd
      rw [hv] at h3
      have h4 : L32 ^ (dig L32 D).length ≤ L32 ^ n := Nat.pow_le_pow_right (by decide) (by omega)
      omega
    · omega
  refine ⟨hl, ?_, hlo2⟩
  rcases Nat.eq_zero_or_pos ((dig L32 D).getD n 0) with h | h
  · exfalso
    have e2 := val_take_succ' L32 (dig L32 D) n
    rw [show n + 1 = (dig L32 D).length by omega, List.take_length, h, hv, Nat.zero_mul] at e2
    have h3 := val_lt (hd.take n)
    rw [List.length_take, Nat.min_eq_left (by omega)] at h3
    omega
  · exact h

theorem val_zeros_high {B : Nat} {R : List Nat} {j : Nat} (h : val B R < B ^ j) : val B R = val B (R.take j) := by
  rcases Nat.lt_or_ge R.length j with hj | hj
  · rw [List.take_of_length_le (by omega)]
  · have h1 := val_split B R j hj
    rcases Nat.eq_zero_or_pos (val B (R.drop j)) with h0 | h0
    · rw [h0] at h1; omega
    · have := Nat.mul_le_mul_left (B ^ j) h0
      omega

/-- One step of the long division: what it takes, and what it leaves. -/
theorem long_part {B : Nat} (B0 : 0 < B) {R Q : List Nat} {D A i n : Nat} (dr : Dig B R) (hD : D < B ^ n) (hi : i + n + 1 ≤ R.length) (hA : val B R + D * val B Q = A) (hR : val B R < D * B ^ (i + 1)) :
    val B ((R.drop i).take (n + 1)) < D * B ∧ ∀ (s' : List Nat) (q : Nat), s'.length = n + 1 → i < Q.length → Q.getD i 0 = 0 → q = val B ((R.drop i).take (n + 1)) / D → val B s' = val B ((R.drop i).take (n + 1)) % D →
      val B (R.take i ++ s' ++ R.drop (i + (n + 1))) + D * val B (Q.set i q) = A ∧ val B (R.take i ++ s' ++ R.drop (i + (n + 1))) < D * B ^ i := by
  have hpos : 0 < D := by
    rcases Nat.eq_zero_or_pos D with h | h
    · rw [h] at hR; omega
    · exact h
  have hlt : val B R < B ^ (i + (n + 1)) := by
    refine Nat.lt_of_lt_of_le hR ?_
    rw [show i + (n + 1) = n + (i + 1) by omega, Nat.pow_add B n]
    exact Nat.mul_le_mul_right _ (Nat.le_of_lt hD)
  have h1 := val_zeros_high hlt
  have h0 : val B (R.drop (i + (n + 1))) = 0 := by
    have h2 := val_split B R (i + (n + 1)) (by omega)
    rw [← h1] at h2
    have h3 : 0 < B ^ (i + (n + 1)) := Nat.pow_pos B0
    rcases Nat.eq_zero_or_pos (val B (R.drop (i + (n + 1)))) with h | h
    · exact h
    · have := Nat.mul_pos h3 h; omega
  have h4 := val_split B R i (by omega)
  have h5 : val B (R.drop i) = val B ((R.drop i).take (n + 1)) := by
    have h6 := val_split B (R.drop i) (n + 1) (by rw [List.length_drop]; omega)
    rw [List.drop_drop, h0] at h6
    omega
  have h7 := val_lt (dr.take i)
  rw [List.length_take, Nat.min_eq_left (by omega)] at h7
  have hP : 0 < B ^ i := Nat.pow_pos B0
  rw [h5] at h4
  generalize hS : val B ((R.drop i).take (n + 1)) = S at *
  rw [Nat.pow_succ] at hR
  refine ⟨?_, ?_⟩
  · refine Nat.lt_of_mul_lt_mul_left (a := B ^ i) ?_
    have e : B ^ i * (D * B) = D * (B ^ i * B) := by grind
    rw [e]; omega
  · intro s' q hl hi2 hq0 hq hs
    have e1 : val B (R.take i ++ s' ++ R.drop (i + (n + 1))) = val B (R.take i) + B ^ i * val B s' := by
      rw [val_append, val_append, h0, List.length_take, Nat.min_eq_left (by omega)]
      omega
    have e2 := val_set B Q i q hi2
    rw [hq0] at e2
    have e3 := Nat.div_add_mod S D
    have e4 := Nat.mod_lt S hpos
    rw [e1, hs]
    rw [← hq] at e3
    generalize S % D = r at *
    generalize val B (R.take i) = T at *
    generalize B ^ i = P at *
    constructor
    · rw [← hA, h4, ← e3, show val B (Q.set i q) = val B Q + q * P by omega]
      grind
    · have e5 : P * (r + 1) ≤ P * D := Nat.mul_le_mul_left _ e4
      rw [Nat.mul_comm D P]
      rw [Nat.mul_succ] at e5
      omega

theorem ws_sub {w : World} {T : TypeId} {g i n c : Nat} {P : List Nat} (hB : Blk w g .u32 T P) (hi : i + n ≤ P.length) (hc : n ≤ c) (hm : c ≤ 9223372036854775807) :
    Ws w .u32 T (.slice (some ⟨g, i, none⟩) n c) g (P.take i) ((P.drop i).take n) (P.drop (i + n)) := by
  have e1 : ((P.drop i).take n).length = n := by simp; omega
  have e2 : (P.take i).length = i := by simp; omega
  refine ⟨some ⟨g, i, none⟩, c, by rw [e1], by rw [e1]; omega, hm, (fun e => by cases e), fun _ => ⟨by rw [e2], ?_⟩⟩
  have e3 : P.take i ++ (P.drop i).take n ++ P.drop (i + n) = P := by
    rw [List.append_assoc, ← List.drop_drop, List.take_append_drop, List.take_append_drop]
  rw [e3]; exact hB

end Go.Proofs.YtocadojeanhalaaGreatDoor

/- Contracts of package nat: Div whole, low, Gcd. -/
namespace Go.Proofs.YtocadojeanhalaaGreatDoor
open Go.RowKit
set_option maxRecDepth 100000

/-- The top digit of a number without needless zeros isn't 0. -/
theorem nz_top {xs : List Nat} {B : Nat} (hB : 2 ≤ B) (dx : Dig B xs) (h : nz xs = xs.length) (hp : 0 < xs.length) : 0 < xs.getD (xs.length - 1) 0 := by
  rcases Nat.eq_zero_or_pos (xs.getD (xs.length - 1) 0) with h0 | h0
  · exfalso
    have e := val_take_succ' B xs (xs.length - 1)
    rw [show xs.length - 1 + 1 = xs.length by omega, List.take_length, h0, Nat.zero_mul, Nat.add_zero] at e
    have h1 : (dig B (val B xs)).length = nz xs := length_dig_val hB dx
    have h2 := val_lt (dx.take (xs.length - 1))
    rw [← e, List.length_take, Nat.min_eq_left (by omega)] at h2
    have h3 := length_dig_le hB h2
    omega
  · exact h0
theorem nz_take_nz {xs : List Nat} {B : Nat} (hB : 2 ≤ B) (dx : Dig B xs) : nz (xs.take (nz xs)) = nz xs := by
  have h1 : (dig B (val B xs)).length = nz xs := length_dig_val hB dx
  have h2 : (dig B (val B (xs.take (nz xs)))).length = nz (xs.take (nz xs)) := length_dig_val hB (dx.take _)
  rw [val_take_nz hB dx] at h2
  omega

end Go.Proofs.YtocadojeanhalaaGreatDoor

/- Contracts of package nat: low, Gcd. -/
namespace Go.Proofs.YtocadojeanhalaaGreatDoor
open Go.RowKit
set_option maxRecDepth 100000

theorem low_step {xs : List Nat} {k n : Nat} (hk : 0 < k) (hl : k ≤ xs.length) (hn : n = val L32 (xs.drop k)) : joinN n (xs.getD (k - 1) 0) = val L32 (xs.drop (k - 1)) := by
  have h : xs.drop (k - 1) = xs.getD (k - 1) 0 :: xs.drop k := by
    rw [List.drop_eq_getElem_cons (by omega)]
    congr 1
    · simp [List.getD, show k - 1 < xs.length by omega]
    · congr 1; omega
  rw [h, hn]
  unfold joinN
  simp only [val]
  generalize val L32 (xs.drop k) = v
  show v * 4294967296 + _ = _ + 4294967296 * v
  omega

theorem sl_unique {w : World} {k : IntKind} {v : Value} {xs ys : List Nat} (hx : Sl w k v xs) (hy : Sl w k v ys) : xs = ys := by
  obtain ⟨ao, ac, rfl, a1, a2, a3, a4⟩ := hx
  obtain ⟨bo, bc, e, b1, b2, b3, b4⟩ := hy
  injection e with e1 e2 e3
  subst e1
  refine List.ext_getElem e2 fun i h1 h2 => ?_
  obtain ⟨a, rfl, c1⟩ := a4 i h1
  obtain ⟨b, e4, c2⟩ := b4 i h2
  injection e4 with e4
  subst e4
  rw [c1] at c2
  injection c2 with c2
  injection c2 with _ c2
  rw [nth_eq h1, nth_eq h2] at c2
  omega

open Classical in
/-- The number that a canonical slice of limbs reads as. -/
noncomputable def numOf (w : World) (v : Value) : Nat := if h : ∃ n, Sl w .u32 v (dig L32 n) then h.choose else 0
theorem numOf_eq {w : World} {v : Value} {n : Nat} (h : Sl w .u32 v (dig L32 n)) : numOf w v = n := by
  have h1 : ∃ n, Sl w .u32 v (dig L32 n) := ⟨n, h⟩
  unfold numOf
  rw [dif_pos h1]
  have h2 := sl_unique h1.choose_spec h
  have h3 := congrArg (val L32) h2
  rwa [val_dig (by decide), val_dig (by decide)] at h3

theorem gcd_step (m n : Nat) : Nat.gcd n (m % n) = Nat.gcd m n := by
  rw [Nat.gcd_comm n, ← Nat.gcd_rec, Nat.gcd_comm]

theorem gcd_lt {m n B : Nat} (hm : m < B) (hn : n < B) : Nat.gcd m n < B := by
  rcases Nat.eq_zero_or_pos m with h | h
  · rw [h, Nat.gcd_zero_left]; exact hn
  · exact Nat.lt_of_le_of_lt (Nat.gcd_le_left n h) hm
theorem bl_pos {n : Nat} (h : 0 < n) : 0 < bl n := by rw [bl_half h]; omega

end Go.Proofs.YtocadojeanhalaaGreatDoor
