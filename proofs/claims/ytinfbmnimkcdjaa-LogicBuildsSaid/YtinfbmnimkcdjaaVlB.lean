/-
  The values: what they are, their sizes, their steps; how they lie in memory.
-/
import Derived.Test.YtinfbmnimkcdjaaVlA
namespace Go.Proofs.Ytinfbmnimkcdjaa
open Go.RowKit
set_option maxRecDepth 100000
set_option linter.unusedVariables false
set_option linter.unusedSimpArgs false

inductive V where
  | I (z : Int)
  | B (b : Bool)
  | L (l : List Int)
  deriving DecidableEq

/-- What a number becomes by one step. -/
def lesser (z : Int) : List Int := if z = 0 then [] else 0 :: (if Int.tdiv z 2 = 0 then [] else [Int.tdiv z 2])
def shorter (l : List Int) : List (List Int) := (List.range l.length).map fun i => l.take i ++ l.drop (i + 1)
def smaller (l : List Int) : List (List Int) := (List.range l.length).flatMap fun i => (lesser (l.getD i 0)).map fun m => l.take i ++ [m] ++ l.drop (i + 1)
def stepsV : V → List V
  | .I z => (lesser z).map .I
  | .B _ => []
  | .L l => (shorter l).map .L ++ (smaller l).map .L
def reduceV (l : List V) : List (List V) := (List.range l.length).flatMap fun i => (stepsV (l.getD i (.B false))).map fun s => l.take i ++ [s] ++ l.drop (i + 1)
def bitsZ (z : Int) : Nat := bl z.natAbs
def bitsL : List Int → Nat
  | [] => 0
  | z :: l => 1 + bitsZ z + bitsL l
def sizeV : V → Nat
  | .I z => bitsZ z
  | .B _ => 0
  | .L l => bitsL l
def sizeL : List V → Nat
  | [] => 0
  | x :: l => sizeV x + sizeL l

/-- A number: where its limbs lie, and which it is. -/
structure NU where
  o : Option Addr
  l : Nat
  c : Nat
  z : Int
def nC (n : NU) : List Value := [.bool (decide (n.z < 0)), .slice n.o n.l n.c]
def nV (n : NU) : Value := .agg #[.bool (decide (n.z < 0)), .slice n.o n.l n.c]
def NR (w : World) (n : NU) : Prop := CI w (nV n) n.z 600
theorem ci_nu {w : World} {v : Value} {z : Int} {k : Nat} (h : CI w v z k) (hk : k ≤ 600) : ∃ n : NU, v = nV n ∧ n.z = z ∧ NR w n := by
  have h0 := h
  obtain ⟨b, o, l, c, rfl⟩ := h.shape
  obtain ⟨va, e, _⟩ := h
  injection e with e
  have e0 := congrArg (fun t : Array Value => t[0]?) e
  injection e0 with e0
  injection e0 with e0
  refine ⟨⟨o, l, c, z⟩, ?_, rfl, ?_⟩
  · simp only [nV, e0]
  · unfold NR nV; simp only; rw [← e0]; exact h0.mono hk
theorem infoIntV : (Try.prog.info? 26).map (fun i => (i.zero, i.size, i.bytes)) = some (some (.agg #[.bool false, .slice none 0 0]), 2, 32) := by kernel_rfl
theorem infoVal : (Try.prog.info? 41).map (fun i => (i.zero, i.size, i.bytes)) = some (some (.agg #[.int .i64 0, .bool false, .slice none 0 0, .bool false, .slice none 0 0]), 5, 72) := by kernel_rfl
theorem infoVals : (Try.prog.info? 30).map (fun i => (i.zero, i.size, i.bytes)) = some (some (.slice none 0 0), 1, 24) := by kernel_rfl

/-- Numbers in a list. -/
def nE : El NU where
  e := 26
  t := 39
  n := 2
  b := 32
  z := .agg #[.bool false, .slice none 0 0]
  f := nC
  R := NR
  ok _ := True
  pos := by decide
  by_ := by decide
  zs := rfl
  z32 := by intro u hu z; simp only [Value.cells, List.mem_cons, List.not_mem_nil, or_false] at hu; rcases hu with rfl | rfl <;> (intro h; cases h)
  ht := Try.underlying39
  info := infoIntV
  len _ := rfl
  one n := by
    intro u hu
    simp only [nC, List.mem_cons, List.not_mem_nil, or_false] at hu
    rcases hu with rfl | rfl <;> rfl
  n32 n := by
    intro u hu z
    simp only [nC, List.mem_cons, List.not_mem_nil, or_false] at hu
    rcases hu with rfl | rfl <;> (intro h; cases h)
  fr _ f h := CI.fr h f
  own := trivial

/-- A value: its fields, and which it is. -/
structure VU where
  k : Int
  n : NU
  b : Bool
  lo : Option Addr
  ll : Nat
  lc : Nat
  x : V
def vC (u : VU) : List Value := [.int .i64 u.k, .bool (decide (u.n.z < 0)), .slice u.n.o u.n.l u.n.c, .bool u.b, .slice u.lo u.ll u.lc]
def vV (u : VU) : Value := .agg #[.int .i64 u.k, .bool (decide (u.n.z < 0)), .slice u.n.o u.n.l u.n.c, .bool u.b, .slice u.lo u.ll u.lc]
def n0 : NU := ⟨none, 0, 0, 0⟩
def NL (w : World) (v : Value) (zs : List Int) : Prop := ∃ ns, nE.At w v ns ∧ ns.map (·.z) = zs
def VR (w : World) (u : VU) : Prop :=
  match u.x with
  | .I z => u.k = 0 ∧ u.n.z = z ∧ NR w u.n ∧ u.b = false ∧ u.lo = none ∧ u.ll = 0 ∧ u.lc = 0
  | .B b => u.k = 1 ∧ u.n = n0 ∧ u.b = b ∧ u.lo = none ∧ u.ll = 0 ∧ u.lc = 0
  | .L zs => u.k = 2 ∧ u.n = n0 ∧ u.b = false ∧ NL w (.slice u.lo u.ll u.lc) zs
theorem NL.fr {e' : TypeId} {w w' : World} {v : Value} {zs : List Int} (h : NL w v zs) (hne : 26 ≠ e') (f : Fr e' w w') : NL w' v zs := by
  obtain ⟨ns, h1, h2⟩ := h
  exact ⟨ns, h1.fr trivial hne f, h2⟩
theorem NL.below {w w' : World} {v : Value} {zs : List Int} (h : NL w v zs) (hb : Below w.heap.size w w') : NL w' v zs := by
  obtain ⟨ns, h1, h2⟩ := h
  exact ⟨ns, h1.below hb, h2⟩
theorem VR.fr {e' : TypeId} {w w' : World} {u : VU} (h : VR w u) (hne : 26 ≠ e') (f : Fr e' w w') : VR w' u := by
  unfold VR at h ⊢
  split at h
  · obtain ⟨h1, h2, h3, h4⟩ := h; exact ⟨h1, h2, CI.fr h3 f, h4⟩
  · exact h
  · obtain ⟨h1, h2, h3, h4⟩ := h; exact ⟨h1, h2, h3, h4.fr hne f⟩
theorem VR.below {w w' : World} {u : VU} (h : VR w u) (hb : Below w.heap.size w w') : VR w' u := h.fr (e' := 97) (by decide) (Fr.of_below hb)
/-- Values in a list. -/
def vE : El VU where
  e := 41
  t := 30
  n := 5
  b := 72
  z := .agg #[.int .i64 0, .bool false, .slice none 0 0, .bool false, .slice none 0 0]
  f := vC
  R := VR
  ok e' := 26 ≠ e'
  pos := by decide
  by_ := by decide
  zs := rfl
  z32 := by intro u hu z; simp only [Value.cells, List.mem_cons, List.not_mem_nil, or_false] at hu; rcases hu with rfl | rfl | rfl | rfl | rfl <;> (intro h; cases h)
  ht := Try.underlying30
  info := infoVal
  len _ := rfl
  one n := by
    intro u hu
    simp only [vC, List.mem_cons, List.not_mem_nil, or_false] at hu
    rcases hu with rfl | rfl | rfl | rfl | rfl <;> rfl
  n32 n := by
    intro u hu z
    simp only [vC, List.mem_cons, List.not_mem_nil, or_false] at hu
    rcases hu with rfl | rfl | rfl | rfl | rfl <;> (intro h; cases h)
  fr ok f h := VR.fr h ok f
  own := by decide
def VC (w : World) (v : Value) (x : V) : Prop := ∃ u : VU, v = vV u ∧ u.x = x ∧ VR w u
theorem VC.fr {e' : TypeId} {w w' : World} {v : Value} {x : V} (h : VC w v x) (hne : 26 ≠ e') (f : Fr e' w w') : VC w' v x := by
  obtain ⟨u, h1, h2, h3⟩ := h
  exact ⟨u, h1, h2, h3.fr hne f⟩
theorem VC.below {w w' : World} {v : Value} {x : V} (h : VC w v x) (hb : Below w.heap.size w w') : VC w' v x := by
  obtain ⟨u, h1, h2, h3⟩ := h
  exact ⟨u, h1, h2, h3.below hb⟩
def VL (w : World) (v : Value) (xs : List V) : Prop := ∃ us, vE.At w v us ∧ us.map (·.x) = xs
theorem VL.fr {e' : TypeId} {w w' : World} {v : Value} {xs : List V} (h : VL w v xs) (h1 : 26 ≠ e') (h2 : 41 ≠ e') (f : Fr e' w w') : VL w' v xs := by
  obtain ⟨us, h3, h4⟩ := h
  exact ⟨us, h3.fr h1 h2 f, h4⟩
theorem VL.below {w w' : World} {v : Value} {xs : List V} (h : VL w v xs) (hb : Below w.heap.size w w') : VL w' v xs := by
  obtain ⟨us, h3, h4⟩ := h
  exact ⟨us, h3.below hb, h4⟩
/-- Lists of values in a list. -/
structure WU where
  o : Option Addr
  l : Nat
  c : Nat
  xs : List V
/-- The forms of a value. -/
theorem VC.int {w : World} {v : Value} {z : Int} (h : VC w v (.I z)) : ∃ o l c, v = .agg #[.int .i64 0, .bool (decide (z < 0)), .slice o l c, .bool false, .slice none 0 0] ∧ CI w (.agg #[.bool (decide (z < 0)), .slice o l c]) z 600 := by
  obtain ⟨u, rfl, h1, h2⟩ := h
  unfold VR at h2
  rw [h1] at h2
  obtain ⟨h3, h4, h5, h6, h7, h8, h9⟩ := h2
  refine ⟨u.n.o, u.n.l, u.n.c, ?_, ?_⟩
  · unfold vV; rw [h3, h4, h6, h7, h8, h9]
  · unfold NR nV at h5; rw [h4] at h5; exact h5
theorem VC.bool {w : World} {v : Value} {b : Bool} (h : VC w v (.B b)) : v = .agg #[.int .i64 1, .bool false, .slice none 0 0, .bool b, .slice none 0 0] := by
  obtain ⟨u, rfl, h1, h2⟩ := h
  unfold VR at h2
  rw [h1] at h2
  obtain ⟨h3, h4, h5, h7, h8, h9⟩ := h2
  unfold vV; rw [h3, h4, h5, h7, h8, h9]; rfl
theorem VC.list {w : World} {v : Value} {zs : List Int} (h : VC w v (.L zs)) : ∃ o l c, v = .agg #[.int .i64 2, .bool false, .slice none 0 0, .bool false, .slice o l c] ∧ NL w (.slice o l c) zs := by
  obtain ⟨u, rfl, h1, h2⟩ := h
  unfold VR at h2
  rw [h1] at h2
  obtain ⟨h3, h4, h5, h6⟩ := h2
  refine ⟨u.lo, u.ll, u.lc, ?_, h6⟩
  unfold vV; rw [h3, h4, h5]; rfl
theorem VC.mkI {w : World} {v : Value} {z : Int} {k : Nat} (h : CI w v z k) (hk : k ≤ 600) : ∃ o l c, v = .agg #[.bool (decide (z < 0)), .slice o l c] ∧ VC w (.agg #[.int .i64 0, .bool (decide (z < 0)), .slice o l c, .bool false, .slice none 0 0]) (.I z) := by
  obtain ⟨n, rfl, rfl, hn⟩ := ci_nu h hk
  exact ⟨n.o, n.l, n.c, rfl, ⟨0, n, false, none, 0, 0, .I n.z⟩, rfl, rfl, rfl, rfl, hn, rfl, rfl, rfl, rfl⟩
theorem VC.mkB (w : World) (b : Bool) : VC w (.agg #[.int .i64 1, .bool false, .slice none 0 0, .bool b, .slice none 0 0]) (.B b) := ⟨⟨1, n0, b, none, 0, 0, .B b⟩, rfl, rfl, rfl, rfl, rfl, rfl, rfl, rfl⟩
theorem VC.mkL {w : World} {o : Option Addr} {l c : Nat} {zs : List Int} (h : NL w (.slice o l c) zs) : VC w (.agg #[.int .i64 2, .bool false, .slice none 0 0, .bool false, .slice o l c]) (.L zs) := ⟨⟨2, n0, false, o, l, c, .L zs⟩, rfl, rfl, rfl, rfl, rfl, h⟩
theorem NL.form {w : World} {v : Value} {zs : List Int} (h : NL w v zs) : ∃ ko kc, v = .slice ko zs.length kc ∧ (zs.length ≤ kc ∧ kc ≤ maxLen) ∧ ∀ i (hi : i < zs.length), ∃ a o l c, ko = some a ∧ w.cell? (a.add (i * 2)) = some (.bool (decide (zs[i] < 0))) ∧ w.cell? ⟨(a.add (i * 2)).block, (a.add (i * 2)).off + 1, none⟩ = some (.slice o l c) ∧ CI w (.agg #[.bool (decide (zs[i] < 0)), .slice o l c]) zs[i] 600 := by
  obtain ⟨ns, ⟨ko, kc, rfl, ⟨h1, h2, _⟩, h3⟩, rfl⟩ := h
  refine ⟨ko, kc, by simp, ⟨by simpa using h1, h2⟩, fun i hi => ?_⟩
  obtain ⟨a, ha, -, h4, h5⟩ := h3 i (by simpa using hi)
  simp only [List.getElem_map]
  exact ⟨a, _, _, _, ha, h4 0 _ rfl, by have := h4 1 _ rfl; rw [← add_addV] at this; exact this, h5⟩
theorem VL.form {w : World} {v : Value} {xs : List V} (h : VL w v xs) : ∃ ko kc, v = .slice ko xs.length kc ∧ (xs.length ≤ kc ∧ kc ≤ maxLen) ∧ ∀ i (hi : i < xs.length), ∃ a k b o l c d p m q, ko = some a ∧
    (w.cell? (a.add (i * 5)) = some (.int .i64 k) ∧ w.cell? ⟨(a.add (i * 5)).block, (a.add (i * 5)).off + 1, none⟩ = some (.bool b) ∧ w.cell? ⟨(a.add (i * 5)).block, (a.add (i * 5)).off + 2, none⟩ = some (.slice o l c) ∧ w.cell? ⟨(a.add (i * 5)).block, (a.add (i * 5)).off + 3, none⟩ = some (.bool d) ∧ w.cell? ⟨(a.add (i * 5)).block, (a.add (i * 5)).off + 4, none⟩ = some (.slice p m q)) ∧
    VC w (.agg #[.int .i64 k, .bool b, .slice o l c, .bool d, .slice p m q]) xs[i] := by
  obtain ⟨us, ⟨ko, kc, rfl, ⟨h1, h2, _⟩, h3⟩, rfl⟩ := h
  refine ⟨ko, kc, by simp, ⟨by simpa using h1, h2⟩, fun i hi => ?_⟩
  obtain ⟨a, ha, -, h4, h5⟩ := h3 i (by simpa using hi)
  have hi' : i < us.length := by simpa using hi
  have g : ∀ j q, (vC us[i])[j]? = some q → w.cell? ((a.add (i * 5)).add j) = some q := fun j q hj => by rw [add_addV]; exact h4 j q hj
  simp only [List.getElem_map]
  exact ⟨a, _, _, _, _, _, _, _, _, _, ha, ⟨g 0 _ rfl, g 1 _ rfl, g 2 _ rfl, g 3 _ rfl, g 4 _ rfl⟩, _, rfl, rfl, h5⟩
end Go.Proofs.Ytinfbmnimkcdjaa
