/-
  What a rational number's value says in memory: any form, canonical form.
-/
import Derived.Test.YtmindndmegiaaaaDoorQMath
import Derived.Test.YtmindndmegiaaaaDoorRely
namespace Go.Proofs.YtmindndmegiaaaaDoor
open Go.RowKit
set_option maxRecDepth 100000

/-- The value is, in w, a rational number in any form: the numerator n over d (1 in place of 0), of at most k limbs each. -/
def GQ (w : World) (v : Value) (n : Int) (d k : Nat) : Prop :=
  ∃ b ao l c po m e x y, v = .agg #[.bool b, .slice ao l c, .slice po m e] ∧ GN w (.slice ao l c) x k ∧ GN w (.slice po m e) y k ∧ n = sg b x ∧ d = (if y = 0 then 1 else y)
/-- The value is, in w, the canonical form of the rational number q, whose parts have at most k limbs. -/
def CQ (w : World) (v : Value) (q : Rat) (k : Nat) : Prop :=
  ∃ ao l c po m e, v = .agg #[.bool (decide (q.num < 0)), .slice ao l c, .slice po m e] ∧ Sl w .u32 (.slice ao l c) (dig L32 q.num.natAbs) ∧ Sl w .u32 (.slice po m e) (dig L32 q.den) ∧ q.num.natAbs < L32 ^ k ∧ q.den < L32 ^ k

theorem GQ.below {w w' : World} {v : Value} {n : Int} {d k : Nat} (h : GQ w v n d k) (hb : Below w.heap.size w w') : GQ w' v n d k := by
  obtain ⟨b, ao, l, c, po, m, e, x, y, rfl, h1, h2, h3, h4⟩ := h
  exact ⟨b, ao, l, c, po, m, e, x, y, rfl, h1.below hb, h2.below hb, h3, h4⟩
theorem GQ.keeps {w w' : World} {v : Value} {n : Int} {d k : Nat} (h : GQ w v n d k) (hb : Keeps w w') : GQ w' v n d k := by
  obtain ⟨b, ao, l, c, po, m, e, x, y, rfl, h1, h2, h3, h4⟩ := h
  exact ⟨b, ao, l, c, po, m, e, x, y, rfl, h1.keeps hb, h2.keeps hb, h3, h4⟩
theorem CQ.below {w w' : World} {v : Value} {q : Rat} {k : Nat} (h : CQ w v q k) (hb : Below w.heap.size w w') : CQ w' v q k := by
  obtain ⟨ao, l, c, po, m, e, rfl, h1, h2, h3⟩ := h
  exact ⟨ao, l, c, po, m, e, rfl, h1.below hb, h2.below hb, h3⟩
theorem CQ.keeps {w w' : World} {v : Value} {q : Rat} {k : Nat} (h : CQ w v q k) (hb : Keeps w w') : CQ w' v q k := by
  obtain ⟨ao, l, c, po, m, e, rfl, h1, h2, h3⟩ := h
  exact ⟨ao, l, c, po, m, e, rfl, h1.keeps hb, h2.keeps hb, h3⟩
theorem GQ.drew {w : World} {v : Value} {n : Int} {d k : Nat} (h : GQ w v n d k) : GQ w.drew v n d k := h
theorem CQ.drew {w : World} {v : Value} {q : Rat} {k : Nat} (h : CQ w v q k) : CQ w.drew v q k := h
theorem GQ.shape {w : World} {v : Value} {n : Int} {d k : Nat} (h : GQ w v n d k) : ∃ b ao l c po m e, v = .agg #[.bool b, .slice ao l c, .slice po m e] := by
  obtain ⟨b, ao, l, c, po, m, e, x, y, rfl, h⟩ := h; exact ⟨b, ao, l, c, po, m, e, rfl⟩
theorem CQ.shape {w : World} {v : Value} {q : Rat} {k : Nat} (h : CQ w v q k) : ∃ b ao l c po m e, v = .agg #[.bool b, .slice ao l c, .slice po m e] := by
  obtain ⟨ao, l, c, po, m, e, rfl, h⟩ := h; exact ⟨_, ao, l, c, po, m, e, rfl⟩
/-- Its parts, in the world at hand. -/
theorem GQ.parts {w : World} {b : Bool} {ao po : Option Addr} {l c m e : Nat} {n : Int} {d k : Nat} (h : GQ w (.agg #[.bool b, .slice ao l c, .slice po m e]) n d k) :
    ∃ x y, GN w (.slice ao l c) x k ∧ GN w (.slice po m e) y k ∧ n = sg b x ∧ d = (if y = 0 then 1 else y) := by
  obtain ⟨b, ao, l, c, po, m, e, x, y, hv, h⟩ := h
  injection hv with hv
  have h0 := congrArg (fun t : Array Value => t[0]?) hv
  have h1 := congrArg (fun t : Array Value => t[1]?) hv
  have h2 := congrArg (fun t : Array Value => t[2]?) hv
  injection h0 with h0; injection h0 with h0; subst h0
  injection h1 with h1; injection h1 with h1 h3 h4; subst h1; subst h3; subst h4
  injection h2 with h2; injection h2 with h2 h3 h4; subst h2; subst h3; subst h4
  exact ⟨x, y, h⟩
theorem GQ.num {w : World} {b : Bool} {ao po : Option Addr} {l c m e : Nat} {n : Int} {d k : Nat} (h : GQ w (.agg #[.bool b, .slice ao l c, .slice po m e]) n d k) : GI w (.agg #[.bool b, .slice ao l c]) n k := by
  obtain ⟨x, y, h1, h2, h3, h4⟩ := h.parts
  exact ⟨b, _, x, rfl, h1, h3⟩
theorem GQ.pos {w : World} {v : Value} {n : Int} {d k : Nat} (h : GQ w v n d k) : 0 < d := by
  obtain ⟨b, ao, l, c, po, m, e, x, y, rfl, h1, h2, h3, rfl⟩ := h
  split <;> omega
theorem CQ.gq {w : World} {v : Value} {q : Rat} {k : Nat} (h : CQ w v q k) : GQ w v q.num q.den k := by
  obtain ⟨ao, l, c, po, m, e, rfl, h1, h2, h3, h4⟩ := h
  refine ⟨_, ao, l, c, po, m, e, _, _, rfl, gn_dig h1 h3, gn_dig h2 h4, ?_, (if_neg q.den_nz).symm⟩
  unfold sg
  by_cases hz : q.num < 0
  · rw [if_pos (by simpa using hz)]; omega
  · rw [if_neg (by simpa using hz)]; omega
theorem CQ.mk {w : World} {b : Bool} {ao po : Option Addr} {l c m e : Nat} {z : Int} {d : Nat} {q : Rat} {k : Nat} (h1 : CI w (.agg #[.bool b, .slice ao l c]) z k) (h2 : Sl w .u32 (.slice po m e) (dig L32 d)) (h3 : d < L32 ^ k) (hz : z = q.num) (hd : d = q.den) :
    CQ w (.agg #[.bool b, .slice ao l c, .slice po m e]) q k := by
  subst hz; subst hd
  obtain ⟨va, hv, hs, hl⟩ := h1
  injection hv with hv
  have e0 := congrArg (fun t : Array Value => t[0]?) hv
  have e1 := congrArg (fun t : Array Value => t[1]?) hv
  injection e0 with e0; injection e0 with e0; subst e0
  injection e1 with e1; subst e1
  exact ⟨ao, l, c, po, m, e, rfl, hs, h2, hl, h3⟩
theorem CQ.to {w : World} {v : Value} {q q' : Rat} {k : Nat} (h : CQ w v q k) (e : q = q') : CQ w v q' k := e ▸ h
theorem CQ.more {w : World} {v : Value} {q : Rat} {k k' : Nat} (h : CQ w v q k) (e : k ≤ k') : CQ w v q k' := by
  obtain ⟨ao, l, c, po, m, e, rfl, h1, h2, h3, h4⟩ := h
  exact ⟨ao, l, c, po, m, e, rfl, h1, h2, lt_pow_more h3 (by assumption), lt_pow_more h4 (by assumption)⟩
theorem below_setg3 {B g : Nat} {w w' : World} (h : Below B w w') (hB : B ≤ g) (x y z : Value) : Below B w (((w'.setCell ⟨g, 0, none⟩ x).setCell ⟨g, 1, none⟩ y).setCell ⟨g, 2, none⟩ z) :=
  ((h.setCell (by simpa using hB) _).setCell (by simpa using hB) _).setCell (by simpa using hB) _

end Go.Proofs.YtmindndmegiaaaaDoor
