/-
  The contracts of package ratio, said of the number alone.
-/
import Derived.Test.YtmindndmegiaaaaDoorQLaw
namespace Go.Proofs.YtmindndmegiaaaaDoor
open Go.RowKit
set_option maxRecDepth 100000

/-- The value is, in w, the rational number q in any form. -/
def HQ (w : World) (v : Value) (q : Rat) (k : Nat) : Prop := ∃ n d, GQ w v n d k ∧ mkRat n d = q
theorem HQ.below {w w' : World} {v : Value} {q : Rat} {k : Nat} (h : HQ w v q k) (hb : Below w.heap.size w w') : HQ w' v q k := by
  obtain ⟨n, d, h, e⟩ := h; exact ⟨n, d, h.below hb, e⟩
theorem HQ.keeps {w w' : World} {v : Value} {q : Rat} {k : Nat} (h : HQ w v q k) (hb : Keeps w w') : HQ w' v q k := by
  obtain ⟨n, d, h, e⟩ := h; exact ⟨n, d, h.keeps hb, e⟩
theorem GQ.hq {w : World} {v : Value} {n : Int} {d k : Nat} (h : GQ w v n d k) : HQ w v (mkRat n d) k := ⟨n, d, h, rfl⟩
theorem CQ.hq {w : World} {v : Value} {q : Rat} {k : Nat} (h : CQ w v q k) : HQ w v q k := ⟨_, _, h.gq, Rat.mkRat_self q⟩
theorem ArgQ.hq {w : World} {b : Bool} {o p : Option Addr} {n m l e : Nat} {xs ys : List Nat} (h : ArgQ w b o n m p l e xs ys) {k : Nat} (hk : n ≤ k ∧ l ≤ k) : ∃ A, HQ w (.agg #[.bool b, .slice o n m, .slice p l e]) A k := by
  obtain ⟨N, D, h⟩ := h.gq hk; exact ⟨_, h.hq⟩

theorem hadd_any {va vb : Value} {a b : Rat} {k1 k2 : Nat} {w : World} (ha : HQ w va a k1) (hb : HQ w vb b k2) (h1 : k1 ≤ 100000) (h2 : k2 ≤ 100000) :
    Calls Tryd.prog 14 #[va, vb] w fun e w' => ∃ v, e = .returned v ∧ CQ w' v (a + b) (3 * k1 + 3 * k2 + 8) ∧ Below w.heap.size w w' := by
  obtain ⟨n1, d1, ha, rfl⟩ := ha; obtain ⟨n2, d2, hb, rfl⟩ := hb; exact qadd_any ha hb h1 h2
theorem hsub_any {va vb : Value} {a b : Rat} {k1 k2 : Nat} {w : World} (ha : HQ w va a k1) (hb : HQ w vb b k2) (h1 : k1 ≤ 100000) (h2 : k2 ≤ 100000) :
    Calls Tryd.prog 16 #[va, vb] w fun e w' => ∃ v, e = .returned v ∧ CQ w' v (a - b) (3 * k1 + 3 * k2 + 8) ∧ Below w.heap.size w w' := by
  obtain ⟨n1, d1, ha, rfl⟩ := ha; obtain ⟨n2, d2, hb, rfl⟩ := hb; exact qsub_any ha hb h1 h2
theorem hmul_any {va vb : Value} {a b : Rat} {k1 k2 : Nat} {w : World} (ha : HQ w va a k1) (hb : HQ w vb b k2) (h1 : k1 ≤ 100000) (h2 : k2 ≤ 100000) :
    Calls Tryd.prog 18 #[va, vb] w fun e w' => ∃ v, e = .returned v ∧ CQ w' v (a * b) (2 * k1 + 2 * k2 + 8) ∧ Below w.heap.size w w' := by
  obtain ⟨n1, d1, ha, rfl⟩ := ha; obtain ⟨n2, d2, hb, rfl⟩ := hb; exact qmul_any ha hb h1 h2
theorem hcmp_any {va vb : Value} {a b : Rat} {k1 k2 : Nat} {w : World} (ha : HQ w va a k1) (hb : HQ w vb b k2) (h1 : k1 ≤ 100000) (h2 : k2 ≤ 100000) :
    Calls Tryd.prog 21 #[va, vb] w fun e w' => e = .returned (.int .i64 (cmpQ a b)) ∧ Below w.heap.size w w' := by
  obtain ⟨n1, d1, ha, rfl⟩ := ha; obtain ⟨n2, d2, hb, rfl⟩ := hb; exact qcmp_any ha hb h1 h2
theorem hcmp_s {va vb : Value} {a b : Rat} {k1 k2 : Nat} {s : Int} {w : World} (ha : HQ w va a k1) (hb : HQ w vb b k2) (hs : cmpQ a b = s) (h1 : k1 ≤ 100000) (h2 : k2 ≤ 100000) :
    Calls Tryd.prog 21 #[va, vb] w fun e w' => e = .returned (.int .i64 s) ∧ Below w.heap.size w w' := by
  subst hs; exact hcmp_any ha hb h1 h2
theorem htext_any {va : Value} {q : Rat} {k : Nat} {w : World} (htab : Lib.TabIs Tryd.prog w "internal/strconv.uint64pow10" .u64 Lib.pow10Tab) (ha : HQ w va q k) (hk : k ≤ 1000) :
    Calls Tryd.prog 38 #[va] w fun e w' => e = .returned (.string ⟨(qText q).toArray⟩) ∧ Below w.heap.size w w' := by
  obtain ⟨n, d, ha, rfl⟩ := ha; exact qtext_any htab ha hk
theorem sgnZ_num (q : Rat) : sgnZ q.num = cmpQ q 0 := by
  have h := cmp_mk q.num 0 q.den_pos (show 0 < 1 by decide)
  rw [Rat.mkRat_self, Rat.zero_mkRat, Int.zero_mul, Int.sub_zero] at h
  simpa using h
theorem sgnZ_form {n : Int} {d : Nat} (h : 0 < d) : sgnZ n = cmpQ (mkRat n d) 0 := by
  have h1 := cmp_mk n 0 h (show 0 < 1 by decide)
  rw [Rat.zero_mkRat, Int.zero_mul, Int.sub_zero] at h1
  simpa using h1
theorem hsign_s {va : Value} {q : Rat} {k : Nat} {s : Int} {w : World} (ha : HQ w va q k) (hs : cmpQ q 0 = s) (hk : k ≤ 100000) :
    Calls Tryd.prog 23 #[va] w fun e w' => e = .returned (.int .i64 s) ∧ Below w.heap.size w w' := by
  obtain ⟨n, d, ha, rfl⟩ := ha
  rw [← sgnZ_form ha.pos] at hs
  subst hs
  exact qsign_any ha hk

/-- Rounded up. -/
def ceilZ (n : Int) (d : Nat) : Int := if Int.fmod n d = 0 then Int.fdiv n d else Int.fdiv n d + 1
theorem qceil_any {va : Value} {n : Int} {d k : Nat} {w : World} (ha : GQ w va n d k) (hk : k ≤ 100000) :
    Calls Tryd.prog 32 #[va] w fun e w' => ∃ v, e = .returned v ∧ CI w' v (ceilZ n d) (k + 6) ∧ Below w.heap.size w w' := by
  unfold ceilZ
  by_cases h : Int.fmod n d = 0
  · rw [if_pos h]; exact qceil_yes ha hk h
  · rw [if_neg h]; exact qceil_no ha hk h
theorem le_ceil (n : Int) {d : Nat} (h : 0 < d) : mkRat n d ≤ ((ceilZ n d : Int) : Rat) := by
  unfold ceilZ
  by_cases h' : Int.fmod n d = 0
  · rw [if_pos h', ← (fmod_zero n h).1 h']; exact Rat.le_refl
  · rw [if_neg h']; exact Rat.le_of_lt (lt_floor n h)
theorem ceil_lt (n : Int) {d : Nat} (h : 0 < d) : ((ceilZ n d : Int) : Rat) - 1 < mkRat n d := by
  have e : ∀ x : Rat, x + 1 - 1 = x := fun x => Rat.add_sub_cancel
  unfold ceilZ
  by_cases h' : Int.fmod n d = 0
  · rw [if_pos h', (fmod_zero n h).1 h', Rat.sub_eq_add_neg]
    have := (Rat.add_lt_add_left (c := ((Int.fdiv n d : Int) : Rat)) (a := -1) (b := 0)).2 (by decide)
    rwa [Rat.add_zero] at this
  · rw [if_neg h', Rat.intCast_add, Rat.intCast_one, e]
    refine Rat.lt_of_le_of_ne (floor_le n h) (fun x => h' ((fmod_zero n h).2 x.symm))
theorem ceil_same (n : Int) (d : Nat) : (Int.fdiv n d - ceilZ n d = 0) ↔ Int.fmod n d = 0 := by
  unfold ceilZ; by_cases h : Int.fmod n d = 0
  · simp [h]
  · rw [if_neg h]; simp only [h, iff_false]; omega
/-- A quotient with true. -/
def FV (w : World) (v : Value) (q : Rat) (k : Nat) : Prop := ∃ r, v = .tuple #[r, .bool true] ∧ CQ w r q k
theorem FV.below {w w' : World} {v : Value} {q : Rat} {k : Nat} (h : FV w v q k) (hb : Below w.heap.size w w') : FV w' v q k := by
  obtain ⟨r, rfl, h⟩ := h; exact ⟨r, rfl, h.below hb⟩
theorem FV.keeps {w w' : World} {v : Value} {q : Rat} {k : Nat} (h : FV w v q k) (hb : Keeps w w') : FV w' v q k := by
  obtain ⟨r, rfl, h⟩ := h; exact ⟨r, rfl, h.keeps hb⟩
theorem qfrac_fv {va vb : Value} {n1 n2 : Int} {k1 k2 : Nat} {q : Rat} {w : World} (ha : GI w va n1 k1) (hb : GI w vb n2 k2) (hq : Rat.divInt n1 n2 = q) (h1 : k1 ≤ 100000) (h2 : k2 ≤ 100000) (hne : n2 ≠ 0) :
    Calls Tryd.prog 26 #[va, vb] w fun e w' => ∃ v, e = .returned v ∧ FV w' v q (k1 + k2 + 1) ∧ Below w.heap.size w w' := by
  subst hq
  exact (qfrac_any ha hb h1 h2 hne).mono fun _ _ ⟨v, he, hc, hb⟩ => ⟨_, he, ⟨v, rfl, hc⟩, hb⟩
end Go.Proofs.YtmindndmegiaaaaDoor
