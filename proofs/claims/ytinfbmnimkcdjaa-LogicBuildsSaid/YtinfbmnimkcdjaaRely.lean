/-
  A region that draws its order, walked once: each operation is run in whatever world its own predecessors may have left, and what it leaves is kept by all the others. No program stands here.
-/
import Derived.Deep.RegionHeld3
import Derived.Lib.Hide
namespace Go.Proofs.Ytinfbmnimkcdjaa
open Go.RowKit
set_option maxRecDepth 100000

/-- Every cell that holds an int holds it on. -/
def Keeps (w w' : World) : Prop := ∀ a k z, w.cell? a = some (.int k z) → w'.cell? a = some (.int k z)
theorem Keeps.refl (w : World) : Keeps w w := fun _ _ _ h => h
theorem Keeps.trans {a b c : World} (h : Keeps a b) (k : Keeps b c) : Keeps a c := fun p i z hc => k p i z (h p i z hc)
theorem Below.keeps {w w' : World} (h : Below w.heap.size w w') : Keeps w w' := fun a k z hc => by
  rw [h.cell (World.block_lt_of_cell? w a hc)]; exact hc
theorem Keeps.alloc {w w' : World} (h : Keeps w w') (o : Obj) : Keeps w (w'.alloc o) := fun a k z hc => by
  have h1 := h a k z hc
  rw [World.cell?_alloc_lt w' o a (World.block_lt_of_cell? w' a h1)]; exact h1
theorem Keeps.set {w w' : World} (h : Keeps w w') {p : Addr} {u : Value} (hc : w'.cell? p = some u) (hu : ∀ k z, u ≠ .int k z) (x : Value) : Keeps w (w'.setCell p x) := fun a k z h0 => by
  have h1 := h a k z h0
  rw [World.cell?_setCell_other w' p a x (fun e => by rw [← e, hc] at h1; injection h1 with h1; exact hu _ _ h1)]; exact h1

/-- No number among the values. -/
def noInt (c : Array Value) : Bool := c.toList.all fun v => match v with | .int .. => false | _ => true
theorem noInt_at {c : Array Value} (h : noInt c = true) {i : Nat} {v : Value} (hv : c[i]? = some v) : ∀ k z, v ≠ .int k z := by
  rintro k z rfl
  have := List.all_eq_true.1 h (.int k z) (Array.mem_toList_iff.2 (Array.mem_of_getElem? hv))
  cases this

/-- Block g alone has turned: its cells, none of them a number. -/
structure Priv (g : Nat) (w w' : World) : Prop where
  os : w'.os = w.os
  tape : w'.tape = w.tape
  output : w'.output = w.output
  size : w'.heap.size = w.heap.size
  block : ∀ k, k ≠ g → w'.heap[k]? = w.heap[k]?
  keeps : Keeps w w'
  shape : ∀ c T, w.heap[g]? = some (.cells c T (0, 0)) → noInt c = true → ∃ c', w'.heap[g]? = some (.cells c' T (0, 0)) ∧ c'.size = c.size ∧ noInt c' = true
theorem Priv.refl (g : Nat) (w : World) : Priv g w w := ⟨rfl, rfl, rfl, rfl, fun _ _ => rfl, Keeps.refl w, fun c _ h hn => ⟨c, h, rfl, hn⟩⟩
theorem Priv.set {g : Nat} {w w' : World} (h : Priv g w w') {c : Array Value} {T : TypeId} (hB : w'.heap[g]? = some (.cells c T (0, 0))) (hn : noInt c = true) {i : Nat} (hi : i < c.size) {v : Value} (hv : ∀ k z, v ≠ .int k z) : Priv g w (w'.setCell ⟨g, i, none⟩ v) := by
  have hc : w'.cell? ⟨g, i, none⟩ = some c[i] := by rw [cell_of_row w' g i _ T (0, 0) hB]; exact Array.getElem?_eq_getElem hi
  refine ⟨h.os, h.tape, h.output, by rw [← h.size]; simp [World.setCell], fun k hk => ?_, h.keeps.set hc (noInt_at hn (Array.getElem?_eq_getElem hi)) v, fun c0 T0 h0 hn0 => ?_⟩
  · rw [Below.heap_setCell _ _ _ _ (by simpa using hk)]; exact h.block k hk
  · obtain ⟨c', h1, h2, h3⟩ := h.shape c0 T0 h0 hn0
    rw [hB] at h1
    injection h1 with h1; injection h1 with h1 h4 h5
    subst h1; subst h4
    refine ⟨c.setIfInBounds i v, by rw [heap_setCell_same w' g i _ T v hB], by simpa using h2, ?_⟩
    unfold noInt at *
    rw [List.all_eq_true] at *
    intro q hq
    rw [Array.mem_toList_iff] at hq
    rcases Array.mem_or_eq_of_mem_setIfInBounds hq with hq | rfl
    · exact h3 q (Array.mem_toList_iff.2 hq)
    · cases q <;> first | rfl | exact absurd rfl (hv _ _)

theorem two_of {c : Array Value} (h : c.size = 2) : ∃ a b, c = #[a, b] := by
  obtain ⟨l⟩ := c
  match l, h with
  | [a, b], _ => exact ⟨a, b, rfl⟩
theorem three_of {c : Array Value} (h : c.size = 3) : ∃ a b d, c = #[a, b, d] := by
  obtain ⟨l⟩ := c
  match l, h with
  | [a, b, d], _ => exact ⟨a, b, d, rfl⟩
theorem cell_at {w : World} {g : Nat} {c : Array Value} {T : TypeId} (h : w.heap[g]? = some (.cells c T (0, 0))) (i : Nat) {v : Value} (hv : c[i]? = some v) : w.cell? ⟨g, i, none⟩ = some v := by
  rw [cell_of_row w g i _ T (0, 0) h]; exact hv
theorem froz_at {w : World} {g : Nat} {c : Array Value} {T : TypeId} (h : w.heap[g]? = some (.cells c T (0, 0))) (i : Nat) : w.frozen? ⟨g, i, none⟩ = false := frozen_of_row w g i _ T h
theorem hset2 {w : World} {g : Nat} {T : TypeId} {a b : Value} (h : w.heap[g]? = some (.cells #[a, b] T (0, 0))) (x y : Value) :
    ((w.setCell ⟨g, 0, none⟩ x).setCell ⟨g, 1, none⟩ y).heap[g]? = some (.cells #[x, y] T (0, 0)) := by
  rw [heap_setCell_same _ g 1 _ T y (heap_setCell_same w g 0 _ T x h)]; rfl
theorem hset3 {w : World} {g : Nat} {T : TypeId} {a b c : Value} (h : w.heap[g]? = some (.cells #[a, b, c] T (0, 0))) (x y z : Value) :
    (((w.setCell ⟨g, 0, none⟩ x).setCell ⟨g, 1, none⟩ y).setCell ⟨g, 2, none⟩ z).heap[g]? = some (.cells #[x, y, z] T (0, 0)) := by
  rw [heap_setCell_same _ g 2 _ T z (heap_setCell_same _ g 1 _ T y (heap_setCell_same w g 0 _ T x h))]; rfl
theorem noInt_of {c : Array Value} (h : noInt c = true) (i : Nat) {v : Value} (hv : c[i]? = some v) : ∀ k z, v ≠ .int k z := noInt_at h hv
theorem priv2 {w : World} {g : Nat} {T : TypeId} {a b : Value} (h : w.heap[g]? = some (.cells #[a, b] T (0, 0))) (hn : noInt #[a, b] = true) {x y : Value} (hx : noInt #[x, y] = true) :
    Priv g w ((w.setCell ⟨g, 0, none⟩ x).setCell ⟨g, 1, none⟩ y) := by
  have h1 := heap_setCell_same w g 0 _ T x h
  have p1 : Priv g w (w.setCell ⟨g, 0, none⟩ x) := (Priv.refl g w).set h hn (i := 0) (by simp) (noInt_at hx (i := 0) rfl)
  obtain ⟨c, q1, -, q2⟩ := p1.shape _ _ h hn
  rw [h1] at q1; injection q1 with q1; injection q1 with q1; subst q1
  exact p1.set h1 q2 (i := 1) (by simp) (noInt_at hx (i := 1) rfl)
theorem priv3 {w : World} {g : Nat} {T : TypeId} {a b c : Value} (h : w.heap[g]? = some (.cells #[a, b, c] T (0, 0))) (hn : noInt #[a, b, c] = true) {x y z : Value} (hx : noInt #[x, y, z] = true) :
    Priv g w (((w.setCell ⟨g, 0, none⟩ x).setCell ⟨g, 1, none⟩ y).setCell ⟨g, 2, none⟩ z) := by
  have h1 := heap_setCell_same w g 0 _ T x h
  have p1 : Priv g w (w.setCell ⟨g, 0, none⟩ x) := (Priv.refl g w).set h hn (i := 0) (by simp) (noInt_at hx (i := 0) rfl)
  obtain ⟨c1, q1, -, q2⟩ := p1.shape _ _ h hn
  rw [h1] at q1; injection q1 with q1; injection q1 with q1; subst q1
  have h2 := heap_setCell_same _ g 1 _ T y h1
  have p2 : Priv g w ((w.setCell ⟨g, 0, none⟩ x).setCell ⟨g, 1, none⟩ y) := p1.set h1 q2 (i := 1) (by simp) (noInt_at hx (i := 1) rfl)
  obtain ⟨c2, q3, -, q4⟩ := p2.shape _ _ h hn
  rw [h2] at q3; injection q3 with q3; injection q3 with q3; subst q3
  exact p2.set h2 q4 (i := 2) (by simp) (noInt_at hx (i := 2) rfl)

theorem made_at (W : World) (o : Obj) (g : Nat) (h : W.heap.size = g) : (W.alloc o).heap[g]? = some o := by
  subst h
  show (W.heap.push o)[W.heap.size]? = some o
  simp
theorem made_more {W : World} {g : Nat} {ob : Obj} (h : W.heap[g]? = some ob) (o : Obj) : (W.alloc o).heap[g]? = some ob := by
  rw [Below.heap_alloc W o g (Array.getElem?_eq_some_iff.1 h).1]; exact h
theorem undrewK {w w' : World} (h : Keeps w.drew w') : Keeps w w' := h

namespace Rely

/-- What is known of an operation's value: by the values of those before it, itself, and the world. -/
abbrev Fact := (Nat → Value) → Value → World → Prop
def mask (L : List Nat) (x : Nat → Value) : Nat → Value := fun j => if L.contains j then x j else undef
theorem mask_in {L : List Nat} {x : Nat → Value} {j : Nat} (h : L.contains j = true) : mask L x j = x j := by
  unfold mask; rw [if_pos h]
def upd (x : Nat → Value) (k : Nat) (v : Value) : Nat → Value := fun j => if j = k then v else x j
theorem upd_same (x : Nat → Value) (k : Nat) (v : Value) : upd x k v k = v := if_pos rfl
theorem upd_ne (x : Nat → Value) {k j : Nat} (v : Value) (h : j ≠ k) : upd x k v j = x j := if_neg h
theorem mask_upd {L : List Nat} {x : Nat → Value} {k : Nat} (v : Value) (h : L.contains k = false) : mask L (upd x k v) = mask L x := by
  funext j
  unfold mask
  by_cases hj : L.contains j = true
  · rw [if_pos hj, if_pos hj, upd_ne]
    intro e; subst e; rw [h] at hj; cases hj
  · rw [if_neg hj, if_neg hj]

/-- The slot that operation j writes. -/
def dstOf (ops : List Oper) (j : Nat) : Option Tmp := (ops[j]?).bind (·.dst)
/-- What operation k stands behind. -/
def dep (D : List (List Nat)) (k : Nat) : List Nat := D.getD k []

/-- D is the closure of the region's edges; every edge leads back; each slot is written once; behind the first m each operation stands behind all of these. -/
def ok (ops : List Oper) (D : List (List Nat)) (m size : Nat) : Bool :=
  decide (m ≤ ops.length) && (List.range ops.length).all fun k =>
    match ops[k]? with
    | none => false
    | some o =>
      (o.after.all fun e => !Region.binds .any e || decide (e.on < k)) &&
      ((dep D k).all fun j => (o.after.any fun e => Region.binds .any e && (e.on == j || (dep D e.on).contains j)) && ((dep D j).all fun i => (dep D k).contains i) && decide (j < k)) &&
      (decide (k < m) || (List.range m).all fun j => (dep D k).contains j) &&
      (match o.dst with | none => true | some d => decide (d < size) && (List.range k).all fun j => dstOf ops j != some d)

/-- Each store goes into the block of one alloc before it, or (from 1000 on) into an elder block, and no two into one. -/
def okSt (ops : List Oper) (D : List (List Nat)) (al : List Nat) (st : List (Nat × Nat)) (nq : Nat) : Bool :=
  (List.range ops.length).all fun k => match st.lookup k with
    | none => true
    | some i => (if i < 1000 then (dep D k).contains i && al.contains i else decide (i - 1000 < nq)) && (List.range ops.length).all fun j => j == k || st.lookup j != some i
/-- Slot t holds, whenever operation k comes up, what it held before the region. -/
def pre (ops : List Oper) (D : List (List Nat)) (k t : Nat) : Bool :=
  (List.range ops.length).all fun j => dstOf ops j != some t || j == k || (dep D j).contains k

def fill : List Oper → (Nat → Value) → Nat → Array Value → Array Value
  | [], _, _, t => t
  | o :: l, x, k, t => fill l x (k + 1) (match o.dst with | some d => t.setIfInBounds d (x k) | none => t)

theorem fill_eq : ∀ (l : List Oper) (x : Nat → Value) (k : Nat) (t T : Array Value), T.size = t.size →
    (∀ j d, dstOf l j = some d → T[d]? = some (x (k + j))) → (∀ s, (∀ j, dstOf l j ≠ some s) → T[s]? = t[s]?) → fill l x k t = T
  | [], x, k, t, T, hs, _, hp => by
    refine Array.ext_getElem? (fun i => ?_)
    rw [hp i (fun j => by simp [dstOf])]
    rfl
  | o :: l, x, k, t, T, hs, hd, hp => by
    have hd' : ∀ j d, dstOf l j = some d → T[d]? = some (x (k + 1 + j)) := fun j d h => by
      rw [hd (j + 1) d (by simpa [dstOf] using h), Nat.add_right_comm, Nat.add_assoc]
    unfold fill
    cases ho : o.dst with
    | none =>
      refine fill_eq l x (k + 1) t T hs hd' (fun s h => hp s (fun j => ?_))
      cases j with
      | zero => simp [dstOf, ho]
      | succ j => simpa [dstOf] using h j
    | some d =>
      have h0 : T[d]? = some (x k) := hd 0 d (by simp [dstOf, ho])
      have hlt : d < t.size := by rw [← hs]; exact (Array.getElem?_eq_some_iff.1 h0).1
      refine fill_eq l x (k + 1) _ T (by simpa using hs) hd' (fun s h => ?_)
      by_cases e : d = s
      · subst e
        rw [h0]
        simp [hlt]
      · rw [Array.getElem?_setIfInBounds_ne e]
        refine hp s (fun j => ?_)
        cases j with
        | zero => simp [dstOf, ho, e]
        | succ j => simpa [dstOf] using h j

/-- No way out. -/
def noQ : Exit → Act → World → Prop := fun _ _ _ => False

/-- What is known so far: fact number j is the j-th of those listed (backwards). -/
def fact (F : List Fact) (j : Nat) : Fact := (F.reverse[j]?).getD fun _ _ _ => True

section
variable (P : Program) (ops : List Oper) (D : List (List Nat)) (al : List Nat) (st : List (Nat × Nat)) (og : Nat → Nat) (nq : Nat) (t0 : Array Value) (ds : List Deferred) (w0 : World)

/-- The alloc (or, from 1000 on, the elder block) that operation k stores into. -/
def own (k : Nat) : Option Nat := st.lookup k
/-- Its address. -/
def tv (x : Nat → Value) (i : Nat) : Value := if i < 1000 then x i else .pointer (some ⟨og (i - 1000), 0, none⟩)
/-- What is at hand where operation k comes up. -/
structure At (F : Nat → Fact) (k : Nat) (T : Array Value) (x : Nat → Value) (w : World) : Prop where
  be : ∀ B, B ≤ w0.heap.size → (∀ q, q < nq → B ≤ og q) → Below B w0 w
  bl : ∀ b, b < w0.heap.size → (∀ q, q < nq → og q ≠ b) → w.heap[b]? = w0.heap[b]?
  kp : Keeps w0 w
  od : ∀ q, q < nq → (∀ k', own st k' = some (1000 + q) → k' = k ∨ (dep D k').contains k = true) → w.heap[og q]? = w0.heap[og q]?
  tm : ∀ j d, (dep D k).contains j = true → dstOf ops j = some d → T[d]? = some (x j)
  fa : ∀ j, (dep D k).contains j = true → F j (mask (dep D j) x) (x j) w
  pre : ∀ t, Rely.pre ops D k t = true → T[t]? = t0[t]?

/-- What operation k leaves: its value v, in w'. -/
structure Next (V : Fact) (k : Nat) (x : Nat → Value) (w : World) (v : Value) (w' : World) : Prop where
  is : V x v w'
  bw : own st k = none → Below w.heap.size w w'
  pv : ∀ i, own st k = some i → ∃ g, tv og x i = .pointer (some ⟨g, 0, none⟩) ∧ Priv g w w'
  al : al.contains k = true → ∃ g, v = .pointer (some ⟨g, 0, none⟩) ∧ w.heap.size ≤ g ∧ g < w'.heap.size

/-- Operation k, run wherever it may come up. -/
def Runs (F : Nat → Fact) (k : Nat) (o : Oper) (V : Fact) : Prop :=
  ∀ (T : Array Value) (x : Nat → Value) (w : World), At ops D st og nq t0 w0 F k T x w →
    ∀ K : Act → World → Prop, Hid (∀ v w', Next al st og V k x w v w' → K ((⟨T, ds⟩ : Act).put o.dst v) w') →
      if Region.wanted o (yielded ops.toArray T) = true then o.wp P ⟨T, ds⟩ w K noQ else K ((⟨T, ds⟩ : Act).put o.dst undef) w

/-- A fact stands where memory grows, and where a block is written that it does not speak of. -/
def Stays (k : Nat) (V : Fact) : Prop := (∀ x v w w', V x v w → Below w.heap.size w w' → V x v w') ∧ (st ≠ [] → ∀ x v w w' g, V x v w → (∀ i, own st k = some i → tv og x i ≠ .pointer (some ⟨g, 0, none⟩)) → Priv g w w' → V x v w')

/-- What is left behind the first m operations. -/
def Left (F : Nat → Fact) (m : Nat) (x : Nat → Value) (w : World) : Prop :=
  ((∀ B, B ≤ w0.heap.size → (∀ q, q < nq → B ≤ og q) → Below B w0 w) ∧ (∀ b, b < w0.heap.size → (∀ q, q < nq → og q ≠ b) → w.heap[b]? = w0.heap[b]?) ∧ Keeps w0 w) ∧ (∀ j, j < m → F j (mask (dep D j) x) (x j) w) ∧
  (∀ i, al.contains i = true → i < m → ∃ g, x i = .pointer (some ⟨g, 0, none⟩) ∧ w0.heap.size ≤ g ∧ g < w.heap.size) ∧
  (∀ i j, al.contains i = true → al.contains j = true → i < m → j < m → i ≠ j → x i ≠ x j)

/-- Operations k, k + 1 .. m - 1 are to be run (rest: from number k on); of those before them F is known. G: what is asked behind all of them. -/
def Chain (m : Nat) (G : (Nat → Value) → World → Prop) : List Oper → Nat → List Fact → Prop
  | [], k, F => k = m ∧ ∀ x w, Left D al og nq w0 (fact F) m x w → G x w
  | o :: rest, k, F => (k = m ∧ ∀ x w, Left D al og nq w0 (fact F) m x w → G x w) ∨
    ∃ V, Stays st og k V ∧ Runs P ops D al st og nq t0 ds w0 (fact F) k o V ∧ Chain m G rest (k + 1) (V :: F)

variable {P ops D al st og nq t0 ds w0}

theorem Chain.done {m : Nat} {G : (Nat → Value) → World → Prop} {l : List Oper} {F : List Fact} (h : ∀ x w, Left D al og nq w0 (fact F) m x w → G x w) : Chain P ops D al st og nq t0 ds w0 m G l m F := by
  cases l with
  | nil => exact ⟨rfl, h⟩
  | cons o l => exact Or.inl ⟨rfl, h⟩
theorem Chain.step {m k : Nat} {G : (Nat → Value) → World → Prop} {o : Oper} {l : List Oper} {F : List Fact} (V : Fact) (hs : Stays st og k V) (hr : Runs P ops D al st og nq t0 ds w0 (fact F) k o V)
    (h : Chain P ops D al st og nq t0 ds w0 m G l (k + 1) (V :: F)) : Chain P ops D al st og nq t0 ds w0 m G (o :: l) k F := Or.inr ⟨V, hs, hr, h⟩

/-- No alloc, no store. -/
def plain (al : List Nat) (st : List (Nat × Nat)) (k : Nat) : Bool := !al.contains k && (own st k).isNone
theorem Next.plain {V : Fact} {k : Nat} {x : Nat → Value} {w : World} {v : Value} {w' : World} (hp : plain al st k = true) (h : V x v w') (hb : Below w.heap.size w w') : Next al st og V k x w v w' := by
  unfold Rely.plain at hp
  simp only [Bool.and_eq_true, Bool.not_eq_true', Option.isNone_iff_eq_none] at hp
  exact ⟨h, fun _ => hb, fun i hi => (by rw [hp.2] at hi; cases hi), fun e => (by rw [hp.1] at e; cases e)⟩
/-- An operation that yields a value and leaves the world as it is. -/
theorem Chain.det {m k : Nat} {G : (Nat → Value) → World → Prop} {o : Oper} {l : List Oper} {F : List Fact} (f : (Nat → Value) → Value) (hp : plain al st k = true)
    (hr : ∀ (T : Array Value) (x : Nat → Value) (w : World), At ops D st og nq t0 w0 (fact F) k T x w → Region.wanted o (yielded ops.toArray T) = true ∧ (execOp (Act.eval ⟨T, ds⟩) o).run P w = .ok (.value (f x)) w)
    (h : Chain P ops D al st og nq t0 ds w0 m G l (k + 1) ((fun x v _ => v = f x) :: F)) : Chain P ops D al st og nq t0 ds w0 m G (o :: l) k F := by
  refine Chain.step (fun x v _ => v = f x) ⟨fun _ _ _ _ e _ => e, fun _ _ _ _ _ _ e _ _ => e⟩ (fun T x w hA K hK => ?_) h
  obtain ⟨hw, he⟩ := hr T x w hA
  rw [if_pos hw]
  unfold Oper.wp
  rw [he]
  exact hK.out _ _ (Next.plain hp rfl (Below.refl _ _))
/-- An operation whose guard is false. -/
theorem Chain.skip {m k : Nat} {G : (Nat → Value) → World → Prop} {o : Oper} {l : List Oper} {F : List Fact} (hp : plain al st k = true)
    (hr : ∀ (T : Array Value) (x : Nat → Value) (w : World), At ops D st og nq t0 w0 (fact F) k T x w → Region.wanted o (yielded ops.toArray T) = false)
    (h : Chain P ops D al st og nq t0 ds w0 m G l (k + 1) ((fun _ v _ => v = undef) :: F)) : Chain P ops D al st og nq t0 ds w0 m G (o :: l) k F := by
  refine Chain.step (fun _ v _ => v = undef) ⟨fun _ _ _ _ e _ => e, fun _ _ _ _ _ _ e _ _ => e⟩ (fun T x w hA K hK => ?_) h
  rw [if_neg (by rw [hr T x w hA]; exact Bool.noConfusion)]
  exact hK.out _ _ (Next.plain hp rfl (Below.refl _ _))
/-- A call of a Go function: V of its result, by its contract. -/
theorem Chain.call {m k : Nat} {G : (Nat → Value) → World → Prop} {o : Oper} {l : List Oper} {F : List Fact} (V : Fact) (hs : ∀ x v w w', V x v w → Below w.heap.size w w' → V x v w') (hs2 : ∀ x v w w' g, V x v w → Priv g w w' → V x v w') (hp : plain al st k = true)
    (hr : ∀ (T : Array Value) (x : Nat → Value) (w : World), At ops D st og nq t0 w0 (fact F) k T x w → Region.wanted o (yielded ops.toArray T) = true ∧
      ∀ K : Act → World → Prop, Hid (∀ v w', V x v w' → Below w.heap.size w w' → K ((⟨T, ds⟩ : Act).put o.dst v) w') → o.wp P ⟨T, ds⟩ w K noQ)
    (h : Chain P ops D al st og nq t0 ds w0 m G l (k + 1) (V :: F)) : Chain P ops D al st og nq t0 ds w0 m G (o :: l) k F := by
  refine Chain.step V ⟨hs, fun _ x v w w' g h _ hp => hs2 x v w w' g h hp⟩ (fun T x w hA K hK => ?_) h
  obtain ⟨hw, he⟩ := hr T x w hA
  rw [if_pos hw]
  exact he K fun v w' hv hb => hK.out v w' (Next.plain hp hv hb)
/-- Where nothing is stored: an operation of which V is known behind it, in any memory that has grown. -/
theorem Chain.grow {m k : Nat} {G : (Nat → Value) → World → Prop} {o : Oper} {l : List Oper} {F : List Fact} (V : Fact) (hs : ∀ x v w w', V x v w → Below w.heap.size w w' → V x v w') (hst : st = []) (hp : plain al st k = true)
    (hr : ∀ (T : Array Value) (x : Nat → Value) (w : World), At ops D st og nq t0 w0 (fact F) k T x w → Region.wanted o (yielded ops.toArray T) = true ∧
      ∀ K : Act → World → Prop, Hid (∀ v w', V x v w' → Below w.heap.size w w' → K ((⟨T, ds⟩ : Act).put o.dst v) w') → o.wp P ⟨T, ds⟩ w K noQ)
    (h : Chain P ops D al st og nq t0 ds w0 m G l (k + 1) (V :: F)) : Chain P ops D al st og nq t0 ds w0 m G (o :: l) k F := by
  refine Chain.step V ⟨hs, fun h => absurd hst h⟩ (fun T x w hA K hK => ?_) h
  obtain ⟨hw, he⟩ := hr T x w hA
  rw [if_pos hw]
  exact he K fun v w' hv hb => hK.out v w' (Next.plain hp hv hb)
/-- Where nothing is stored: a new block, as it lies. -/
def Made (T : TypeId) (c : Array Value) (v : Value) (w : World) : Prop := ∃ g, v = .pointer (some ⟨g, 0, none⟩) ∧ w.heap[g]? = some (.cells c T (0, 0))
theorem Made.below {T : TypeId} {c : Array Value} {v : Value} {w w' : World} (h : Made T c v w) (hb : Below w.heap.size w w') : Made T c v w' := by
  obtain ⟨g, hv, hg⟩ := h
  exact ⟨g, hv, by rw [hb.block g (Array.getElem?_eq_some_iff.1 hg).1]; exact hg⟩
theorem Chain.made {m k : Nat} {G : (Nat → Value) → World → Prop} {o : Oper} {l : List Oper} {F : List Fact} (c : Array Value) (T : TypeId) (hst : st = [])
    (hr : ∀ (Ts : Array Value) (x : Nat → Value) (w : World), At ops D st og nq t0 w0 (fact F) k Ts x w → Region.wanted o (yielded ops.toArray Ts) = true ∧
      ∀ K : Act → World → Prop, Hid (K ((⟨Ts, ds⟩ : Act).put o.dst (.pointer (some ⟨w.heap.size, 0, none⟩))) (w.alloc (.cells c T))) → o.wp P ⟨Ts, ds⟩ w K noQ)
    (h : Chain P ops D al st og nq t0 ds w0 m G l (k + 1) ((fun _ v w => Made T c v w) :: F)) : Chain P ops D al st og nq t0 ds w0 m G (o :: l) k F := by
  refine Chain.step _ ⟨fun x v w w' hv hb => hv.below hb, fun h => absurd hst h⟩ (fun Ts x w hA K hK => ?_) h
  obtain ⟨hw, he⟩ := hr Ts x w hA
  rw [if_pos hw]
  refine he K (hK.out _ _ ⟨⟨_, rfl, ?_⟩, fun _ => (Below.refl _ _).alloc (Nat.le_refl _) _, fun i hi => (by subst hst; cases hi), fun _ => ⟨_, rfl, Nat.le_refl _, by simp⟩⟩)
  show (w.heap.push _)[w.heap.size]? = _
  simp
/-- A new block of a local: its shape. -/
def Local (T : TypeId) (n : Nat) (v : Value) (w : World) : Prop := ∃ g c, v = .pointer (some ⟨g, 0, none⟩) ∧ w.heap[g]? = some (.cells c T (0, 0)) ∧ c.size = n ∧ noInt c = true
theorem Chain.alloc {m k : Nat} {G : (Nat → Value) → World → Prop} {o : Oper} {l : List Oper} {F : List Fact} (c : Array Value) (T : TypeId) (ho : own st k = none)
    (hr : ∀ (Ts : Array Value) (x : Nat → Value) (w : World), At ops D st og nq t0 w0 (fact F) k Ts x w → Region.wanted o (yielded ops.toArray Ts) = true ∧
      ∀ K : Act → World → Prop, Hid (K ((⟨Ts, ds⟩ : Act).put o.dst (.pointer (some ⟨w.heap.size, 0, none⟩))) (w.alloc (.cells c T))) → o.wp P ⟨Ts, ds⟩ w K noQ)
    (hn : noInt c = true)
    (h : Chain P ops D al st og nq t0 ds w0 m G l (k + 1) ((fun _ v w => Local T c.size v w) :: F)) : Chain P ops D al st og nq t0 ds w0 m G (o :: l) k F := by
  refine Chain.step _ ⟨fun x v w w' hv hb => ?_, fun _ x v w w' g' hv _ hp => ?_⟩ (fun Ts x w hA K hK => ?_) h
  · obtain ⟨g, c', hv, hg, h2, h3⟩ := hv
    exact ⟨g, c', hv, by rw [hb.block g (Array.getElem?_eq_some_iff.1 hg).1]; exact hg, h2, h3⟩
  · obtain ⟨g, c', hv, hg, h2, h3⟩ := hv
    by_cases e : g = g'
    · subst e
      obtain ⟨c2, h4, h5, h6⟩ := hp.shape c' T hg h3
      exact ⟨g, c2, hv, h4, h5.trans h2, h6⟩
    · exact ⟨g, c', hv, by rw [hp.block g e]; exact hg, h2, h3⟩
  · obtain ⟨hw, he⟩ := hr Ts x w hA
    rw [if_pos hw]
    refine he K (hK.out _ _ ⟨⟨_, c, rfl, ?_, rfl, hn⟩, fun _ => (Below.refl _ _).alloc (Nat.le_refl _) _, fun i hi => (by rw [ho] at hi; cases hi), fun _ => ⟨_, rfl, Nat.le_refl _, by simp⟩⟩)
    show (w.heap.push _)[w.heap.size]? = _
    simp
/-- A store of a whole struct into a local (i: its alloc, whose cells' type is T; j: the operation whose value is stored). -/
theorem Chain.store {m k : Nat} {G : (Nat → Value) → World → Prop} {o : Oper} {l : List Oper} {F : List Fact} (i j : Nat) (T : TypeId) (n : Nat) (ho : own st k = some i) (hal : al.contains k = false) (h1000 : i < 1000) (hi : (dep D k).contains i = true) (hF : fact F i = fun _ v w => Local T n v w)
    (hr : ∀ (Ts : Array Value) (x : Nat → Value) (w : World) (g : Nat) (c : Array Value), At ops D st og nq t0 w0 (fact F) k Ts x w → x i = .pointer (some ⟨g, 0, none⟩) → w.heap[g]? = some (.cells c T (0, 0)) → c.size = n → noInt c = true → Region.wanted o (yielded ops.toArray Ts) = true ∧
      ∀ K : Act → World → Prop, Hid (∀ w' c', x j = .agg c' → w'.heap[g]? = some (.cells c' T (0, 0)) → Priv g w w' → K ((⟨Ts, ds⟩ : Act).put o.dst undef) w') → o.wp P ⟨Ts, ds⟩ w K noQ)
    (h : Chain P ops D al st og nq t0 ds w0 m G l (k + 1) ((fun x _ w => ∃ g c, x i = .pointer (some ⟨g, 0, none⟩) ∧ x j = .agg c ∧ w.heap[g]? = some (.cells c T (0, 0))) :: F)) : Chain P ops D al st og nq t0 ds w0 m G (o :: l) k F := by
  have htv : ∀ x, tv og x i = x i := fun x => if_pos h1000
  refine Chain.step _ ⟨fun x v w w' hv hb => ?_, fun _ x v w w' g' hv hne hp => ?_⟩ (fun Ts x w hA K hK => ?_) h
  · obtain ⟨g, c, h1, h2, hg⟩ := hv
    exact ⟨g, c, h1, h2, by rw [hb.block g (Array.getElem?_eq_some_iff.1 hg).1]; exact hg⟩
  · obtain ⟨g, c, h1, h2, hg⟩ := hv
    refine ⟨g, c, h1, h2, ?_⟩
    rw [hp.block g (fun e => hne i ho (by rw [htv, h1, e]))]; exact hg
  · have hL := hA.fa i hi
    rw [hF] at hL
    obtain ⟨g, c, h1, h2, h3, h4⟩ := hL
    obtain ⟨hw, he⟩ := hr Ts x w g c hA h1 h2 h3 h4
    rw [if_pos hw]
    exact he K fun w' c' hj hB hP => hK.out _ _ ⟨⟨g, c', h1, hj, hB⟩, fun e => (by rw [ho] at e; cases e), fun i' hi' => (by rw [ho] at hi'; injection hi' with e; subst e; exact ⟨g, (htv x).trans h1, hP⟩), fun e => (by rw [hal] at e; cases e)⟩
theorem own_one {st : List (Nat × Nat)} {i k : Nat} (h : (st.all fun p => p.2 != i || p.1 == k) = true) : ∀ k', own st k' = some i → k' = k := by
  intro k' hk
  unfold own at hk
  rw [List.all_eq_true] at h
  have : ∀ (l : List (Nat × Nat)), (∀ p ∈ l, (p.2 != i || p.1 == k) = true) → l.lookup k' = some i → k' = k := by
    intro l
    induction l with
    | nil => intro _ h; cases h
    | cons p l ih =>
      intro hp hl
      obtain ⟨a, b⟩ := p
      rw [List.lookup_cons] at hl
      split at hl
      · rename_i he
        injection hl with hl
        have h1 := hp (a, b) (List.mem_cons_self ..)
        simp only [Bool.or_eq_true, bne_iff_ne, ne_eq, beq_iff_eq] at h1
        rw [beq_iff_eq] at he
        rcases h1 with h1 | h1
        · exact absurd hl h1
        · exact he.trans h1
      · exact ih (fun p hp' => hp p (List.mem_cons_of_mem _ hp')) hl
  exact this st h hk
/-- A store of a whole struct into an elder block (number q). -/
theorem Chain.storeOld {m k : Nat} {G : (Nat → Value) → World → Prop} {o : Oper} {l : List Oper} {F : List Fact} (q j : Nat) (T : TypeId) (ho : own st k = some (1000 + q)) (hal : al.contains k = false) (hq : q < nq)
    (hone : ∀ k', own st k' = some (1000 + q) → k' = k)
    (hr : ∀ (Ts : Array Value) (x : Nat → Value) (w : World), At ops D st og nq t0 w0 (fact F) k Ts x w → w.heap[og q]? = w0.heap[og q]? → Region.wanted o (yielded ops.toArray Ts) = true ∧
      ∀ K : Act → World → Prop, Hid (∀ w' c', x j = .agg c' → w'.heap[og q]? = some (.cells c' T (0, 0)) → Priv (og q) w w' → K ((⟨Ts, ds⟩ : Act).put o.dst undef) w') → o.wp P ⟨Ts, ds⟩ w K noQ)
    (h : Chain P ops D al st og nq t0 ds w0 m G l (k + 1) ((fun x _ w => ∃ c, x j = .agg c ∧ w.heap[og q]? = some (.cells c T (0, 0))) :: F)) : Chain P ops D al st og nq t0 ds w0 m G (o :: l) k F := by
  have htv : ∀ x, tv og x (1000 + q) = .pointer (some ⟨og q, 0, none⟩) := fun x => by unfold tv; rw [if_neg (by omega), Nat.add_sub_cancel_left]
  refine Chain.step _ ⟨fun x v w w' hv hb => ?_, fun _ x v w w' g' hv hne hp => ?_⟩ (fun Ts x w hA K hK => ?_) h
  · obtain ⟨c, h2, hg⟩ := hv
    exact ⟨c, h2, by rw [hb.block _ (Array.getElem?_eq_some_iff.1 hg).1]; exact hg⟩
  · obtain ⟨c, h2, hg⟩ := hv
    refine ⟨c, h2, ?_⟩
    rw [hp.block _ (fun e => hne _ ho (by rw [htv, e]))]; exact hg
  · obtain ⟨hw, he⟩ := hr Ts x w hA (hA.od q hq fun k' hk' => Or.inl (hone k' hk'))
    rw [if_pos hw]
    exact he K fun w' c' hj hB hP => hK.out _ _ ⟨⟨c', hj, hB⟩, fun e => (by rw [ho] at e; cases e), fun i' hi' => (by rw [ho] at hi'; injection hi' with e; subst e; exact ⟨_, htv x, hP⟩), fun e => (by rw [hal] at e; cases e)⟩
theorem wanted_at {o : Oper} {T : Array Value} {g d : Nat} {want b : Bool} (hg : o.guard = some (g, want)) (hd : dstOf ops g = some d) (hT : T[d]? = some (.bool b)) : Region.wanted o (yielded ops.toArray T) = (b == want) := by
  have hy : yielded ops.toArray T g = some b := by
    have hd' : (ops.toArray[g]?).bind (·.dst) = some d := by simpa [dstOf] using hd
    unfold yielded
    rw [hd']
    simp only [Option.bind_some, hT]
  unfold Region.wanted
  rw [hg]
  simp only [hy]
  cases b <;> cases want <;> rfl

theorem fact_lt {V : Fact} {F : List Fact} {j : Nat} (h : j < F.length) : fact (V :: F) j = fact F j := by
  unfold fact
  rw [List.reverse_cons, List.getElem?_append_left (by simpa using h)]
theorem fact_len {V : Fact} {F : List Fact} : fact (V :: F) F.length = V := by
  unfold fact
  rw [List.reverse_cons, List.getElem?_append_right (by simp)]
  simp

theorem At.congr {F F' : Nat → Fact} {k : Nat} {T : Array Value} {x : Nat → Value} {w : World} (h : At ops D st og nq t0 w0 F k T x w) (e : ∀ j, (dep D k).contains j = true → F j = F' j) : At ops D st og nq t0 w0 F' k T x w :=
  ⟨h.be, h.bl, h.kp, h.od, h.tm, fun j hj => by rw [← e j hj]; exact h.fa j hj, h.pre⟩

theorem Chain.all {m : Nat} {G : (Nat → Value) → World → Prop} (hlt : ∀ k j, k < m → (dep D k).contains j = true → j < k) : ∀ (l : List Oper) (k : Nat) (F : List Fact), F.length = k → k ≤ m → (∀ j, l[j]? = ops[k + j]?) →
    Chain P ops D al st og nq t0 ds w0 m G l k F → ∃ H : Nat → Fact, (∀ j, j < k → H j = fact F j) ∧
      (∀ j, k ≤ j → j < m → Stays st og j (H j) ∧ ∃ o, ops[j]? = some o ∧ Runs P ops D al st og nq t0 ds w0 H j o (H j)) ∧ ∀ x w, Left D al og nq w0 H m x w → G x w := by
  intro l
  induction l with
  | nil => intro k F hF hk hl h; exact ⟨fact F, fun _ _ => rfl, fun j h1 h2 => by have := h.1; omega, h.2⟩
  | cons o l ih =>
    intro k F hF hk hl h
    rcases h with ⟨rfl, h⟩ | ⟨V, hs, hr, h⟩
    · exact ⟨fact F, fun _ _ => rfl, fun j h1 h2 => by omega, h⟩
    · by_cases hkm : k < m
      · obtain ⟨H, h1, h2, h3⟩ := ih (k + 1) (V :: F) (by simp [hF]) hkm (fun j => by have := hl (j + 1); simp at this; rw [this, Nat.add_right_comm, Nat.add_assoc]) h
        refine ⟨H, fun j hj => by rw [h1 j (by omega), fact_lt (by omega)], fun j hj hjm => ?_, h3⟩
        rcases Nat.lt_or_ge k j with hkj | hkj
        · exact h2 j hkj hjm
        · obtain rfl : j = k := by omega
          have hH : H j = V := by rw [h1 j (by omega), ← hF, fact_len]
          refine ⟨by rw [hH]; exact hs, o, by have := hl 0; simpa using this.symm, ?_⟩
          rw [hH]
          intro T x w hA
          exact hr T x w (hA.congr (fun i hi => by have := hlt j i hkm hi; rw [h1 i (by omega), fact_lt (by omega)]))
      · obtain rfl : k = m := by omega
        have hl0 : ∀ (l : List Oper) (k' : Nat) (F : List Fact), k < k' → ¬ Chain P ops D al st og nq t0 ds w0 k G l k' F := by
          intro l
          induction l with
          | nil => intro k' F hk' h; have := h.1; omega
          | cons o l ih => intro k' F hk' h; rcases h with ⟨e, _⟩ | ⟨_, _, _, h⟩; (omega); exact ih _ _ (by omega) h
        exact absurd h (hl0 _ _ _ (by omega))

theorem Oper.wp_noQ {o : Oper} {a : Act} {w : World} {K : Act → World → Prop} {Q : Exit → Act → World → Prop} (h : o.wp P a w K noQ) : o.wp P a w K Q := by
  unfold Oper.wp at *
  generalize (execOp a.eval o).run P w = r at *
  cases r with
  | ok n w' =>
    cases n <;> simp only [Oper.upon] at h ⊢ <;>
      first
        | exact h
        | exact Calls.mono h (fun e w'' he => by
            cases e with
            | returned v => exact he
            | panicked c => exact False.elim he
            | outgrown => obtain ⟨_, _, hh⟩ := he; exact False.elim hh)
  | halt x w' => cases x <;> simp only [Oper.upon] at h ⊢ <;> exact False.elim h

/-- What holds on the way: which operations have come up, the frame, the world. -/
structure Inv (H : Nat → Fact) (m : Nat) (listed : Array Bool) (a : Act) (w : World) (x : Nat → Value) : Prop where
  tm : ∀ j d, listed.getD j false = true → dstOf ops j = some d → a.tmps[d]? = some (x j)
  pre : ∀ t, (∀ j, listed.getD j false = true → dstOf ops j ≠ some t) → a.tmps[t]? = t0[t]?
  sz : a.tmps.size = t0.size
  df : a.defers = ds
  be : ∀ B, B ≤ w0.heap.size → (∀ q, q < nq → B ≤ og q) → Below B w0 w
  bl : ∀ b, b < w0.heap.size → (∀ q, q < nq → og q ≠ b) → w.heap[b]? = w0.heap[b]?
  kp : Keeps w0 w
  od : ∀ q, q < nq → (∀ k', listed.getD k' false = true → own st k' ≠ some (1000 + q)) → w.heap[og q]? = w0.heap[og q]?
  sw : w0.heap.size ≤ w.heap.size
  ls : listed.size = ops.length
  dn : ∀ j, listed.getD j false = true → ∀ i, (dep D j).contains i = true → listed.getD i false = true
  lt : ∀ j, listed.getD j false = true → j < m
  fa : ∀ j, listed.getD j false = true → H j (mask (dep D j) x) (x j) w
  pt : ∀ i, al.contains i = true → listed.getD i false = true → ∃ g, x i = .pointer (some ⟨g, 0, none⟩) ∧ w0.heap.size ≤ g ∧ g < w.heap.size
  ne : ∀ i j, al.contains i = true → al.contains j = true → listed.getD i false = true → listed.getD j false = true → i ≠ j → x i ≠ x j

section
variable {m size : Nat} (hok : ok ops D m size = true)
include hok
theorem ok_len : m ≤ ops.length := by
  unfold ok at hok; simp only [Bool.and_eq_true, decide_eq_true_eq] at hok; exact hok.1
theorem ok_at {k : Nat} {o : Oper} (ho : ops[k]? = some o) :
    (∀ e ∈ o.after, Region.binds .any e = true → e.on < k) ∧
    (∀ j, (dep D k).contains j = true → (∃ e ∈ o.after, Region.binds .any e = true ∧ (e.on = j ∨ (dep D e.on).contains j = true)) ∧ (∀ i, (dep D j).contains i = true → (dep D k).contains i = true) ∧ j < k) ∧
    (k < m ∨ ∀ j, j < m → (dep D k).contains j = true) ∧
    (∀ d, o.dst = some d → d < size ∧ ∀ j, j < k → dstOf ops j ≠ some d) := by
  unfold ok at hok
  simp only [Bool.and_eq_true, decide_eq_true_eq, List.all_eq_true, List.mem_range] at hok
  have h := hok.2 k (List.getElem?_eq_some_iff.1 ho).1
  rw [ho] at h
  simp only [Bool.and_eq_true, Bool.or_eq_true, Bool.not_eq_true', decide_eq_true_eq, List.all_eq_true, List.mem_range, Array.all_eq_true_iff_forall_mem] at h
  obtain ⟨⟨⟨h1, h2⟩, h3⟩, h4⟩ := h
  refine ⟨fun e he hb => (h1 e he).resolve_left (by rw [hb]; exact Bool.noConfusion), fun j hj => ?_, h3, fun d hd => ?_⟩
  · obtain ⟨⟨h5, h6⟩, h7⟩ := h2 j (by simpa using hj)
    obtain ⟨e, he, hb⟩ := Array.any_eq_true'.1 h5
    simp only [Bool.and_eq_true, Bool.or_eq_true, beq_iff_eq] at hb
    exact ⟨⟨e, he, hb.1, hb.2⟩, fun i hi => h6 i (by simpa using hi), h7⟩
  · rw [hd] at h4
    simp only [Bool.and_eq_true, decide_eq_true_eq, List.all_eq_true, List.mem_range, bne_iff_ne, ne_eq] at h4
    exact h4
theorem ok_lt {k j : Nat} (h : (dep D k).contains j = true) (hk : k < ops.length) : j < k := ((ok_at hok (List.getElem?_eq_getElem hk)).2.1 j h).2.2
end

theorem okSt_at (h : okSt ops D al st nq = true) {k : Nat} (hk : k < ops.length) : ∀ i, own st k = some i → (i < 1000 → (dep D k).contains i = true ∧ al.contains i = true) ∧ (¬ i < 1000 → i - 1000 < nq) ∧ ∀ j, j < ops.length → j ≠ k → own st j ≠ some i := by
  intro i hi
  unfold okSt at h
  rw [List.all_eq_true] at h
  have h1 := h k (List.mem_range.2 hk)
  unfold own at hi
  rw [hi] at h1
  simp only [Bool.and_eq_true, List.all_eq_true, List.mem_range, Bool.or_eq_true, beq_iff_eq, bne_iff_ne, ne_eq] at h1
  refine ⟨fun h2 => ?_, fun h2 => ?_, fun j hj hjk => (h1.2 j hj).resolve_left hjk⟩
  · have h3 := h1.1
    rw [if_pos h2] at h3
    simpa using h3
  · have h3 := h1.1
    rw [if_neg h2] at h3
    simpa using h3
theorem tv_mask {L : List Nat} {x : Nat → Value} {i : Nat} (h : i < 1000 → L.contains i = true) : tv og (mask L x) i = tv og x i := by
  unfold tv
  split
  · rename_i hi; exact mask_in (h hi)
  · rfl

theorem getD_set {l : Array Bool} {i j : Nat} (h : i < l.size) : (l.setIfInBounds i true).getD j false = (decide (j = i) || l.getD j false) := by
  by_cases e : i = j
  · subst e; simp [h]
  · rw [getD_set_ne false e]
    simp [show ¬ j = i from fun x => e x.symm]

theorem count_false {l : List Bool} {i : Nat} (h : l[i]? = some false) : (l.set i true).count false + 1 = l.count false := by
  obtain ⟨hi, hv⟩ := List.getElem?_eq_some_iff.1 h
  rw [List.count_set hi, hv]
  have : 0 < l.count false := List.count_pos_iff.2 (hv ▸ List.getElem_mem hi)
  simp
  omega

section
variable {m : Nat} {Q : Exit → Act → World → Prop} {H : Nat → Fact}

/-- One operation comes up. -/
theorem Inv.step (hok : ok ops D m t0.size = true) (hoks : okSt ops D al st nq = true) (hog : ∀ q, q < nq → og q < w0.heap.size) (hod : ∀ q q', q < nq → q' < nq → q ≠ q' → og q ≠ og q') (hst : ∀ j, j < m → Stays st og j (H j)) {listed : Array Bool} {a : Act} {w : World} {x : Nat → Value} (I : Inv (ops := ops) (D := D) (al := al) (st := st) (og := og) (nq := nq) (t0 := t0) (ds := ds) (w0 := w0) H m listed a w x)
    {k : Nat} {o : Oper} (ho : ops[k]? = some o) (hkm : k < m) (hun : listed.getD k false = false) (hdep : ∀ j, (dep D k).contains j = true → listed.getD j false = true) {v : Value} {w' : World}
    (hN : Next al st og (H k) k (mask (dep D k) x) w v w') : Inv (ops := ops) (D := D) (al := al) (st := st) (og := og) (nq := nq) (t0 := t0) (ds := ds) (w0 := w0) H m (listed.setIfInBounds k true) (a.put o.dst v) w' (upd x k v) := by
  have hkl : k < ops.length := (List.getElem?_eq_some_iff.1 ho).1
  have hks : k < listed.size := by rw [I.ls]; exact hkl
  obtain ⟨c1, c2, c3, c4⟩ := ok_at hok ho
  have hdk : dstOf ops k = o.dst := by simp [dstOf, ho]
  have hsp := okSt_at hoks hkl
  -- where operation k stores
  have hpv : ∀ i, own st k = some i → ∃ g, tv og x i = .pointer (some ⟨g, 0, none⟩) ∧ Priv g w w' ∧ ((i < 1000 ∧ w0.heap.size ≤ g) ∨ (¬ i < 1000 ∧ i - 1000 < nq ∧ g = og (i - 1000))) := by
    intro i ho'
    obtain ⟨g, hg, hp⟩ := hN.pv i ho'
    obtain ⟨h1, h2, h3⟩ := hsp i ho'
    rw [tv_mask (fun h => (h1 h).1)] at hg
    refine ⟨g, hg, hp, ?_⟩
    by_cases hi : i < 1000
    · obtain ⟨g', e, h4, h5⟩ := I.pt i (h1 hi).2 (hdep i (h1 hi).1)
      unfold tv at hg
      rw [if_pos hi] at hg
      rw [hg] at e; injection e with e; injection e with e; injection e with e; subst e
      exact Or.inl ⟨hi, h4⟩
    · unfold tv at hg
      rw [if_neg hi] at hg
      injection hg with e; injection e with e; injection e with e
      exact Or.inr ⟨hi, h2 hi, e.symm⟩
  have hsw : w.heap.size ≤ w'.heap.size := by
    cases ho' : own st k with
    | none => exact (hN.bw ho').size
    | some i => obtain ⟨g, hg, hp, _⟩ := hpv i ho'; rw [hp.size]; exact Nat.le_refl _
  have hbe : ∀ B, B ≤ w0.heap.size → (∀ q, q < nq → B ≤ og q) → Below B w0 w' := fun B hB hq => by
    refine (I.be B hB hq).trans ?_
    cases ho' : own st k with
    | none => exact (hN.bw ho').mono (by have := I.sw; omega)
    | some i =>
      obtain ⟨g, hg, hp, hc⟩ := hpv i ho'
      refine ⟨hp.os, hp.tape, hp.output, hsw, fun q hqB => hp.block q ?_⟩
      rcases hc with ⟨_, hc⟩ | ⟨_, h1, hc⟩
      · omega
      · have := hq _ h1; omega
  have hbl : ∀ b, b < w0.heap.size → (∀ q, q < nq → og q ≠ b) → w'.heap[b]? = w0.heap[b]? := fun b hb hq => by
    rw [← I.bl b hb hq]
    cases ho' : own st k with
    | none => exact (hN.bw ho').block b (by have := I.sw; omega)
    | some i =>
      obtain ⟨g, hg, hp, hc⟩ := hpv i ho'
      refine hp.block b ?_
      rcases hc with ⟨_, hc⟩ | ⟨_, h1, hc⟩
      · omega
      · rw [hc]; exact fun e => hq _ h1 e.symm
  have hkp : Keeps w0 w' := by
    refine I.kp.trans ?_
    cases ho' : own st k with
    | none => exact Below.keeps (hN.bw ho')
    | some i => obtain ⟨g, hg, hp, _⟩ := hpv i ho'; exact hp.keeps
  have hne : ∀ j, listed.getD j false = true → j ≠ k := fun j hj e => by subst e; rw [hun] at hj; cases hj
  have hset : ∀ j, (listed.setIfInBounds k true).getD j false = true → j = k ∨ listed.getD j false = true := fun j hj => by
    rw [getD_set hks] at hj; simpa using hj
  have hput : (a.put o.dst v).tmps = match o.dst with | some d => a.tmps.setIfInBounds d v | none => a.tmps := by cases o.dst <;> rfl
  have hself : (dep D k).contains k = false := by
    cases h : (dep D k).contains k with
    | false => rfl
    | true => have := (c2 k h).2.2; omega
  -- two operations write two slots
  have hds : ∀ j d, dstOf ops j = some d → o.dst = some d → j = k := fun j d h1 h2 => by
    rcases Nat.lt_trichotomy j k with h | h | h
    · exact absurd h1 ((c4 d h2).2 j h)
    · exact h
    · cases hoj : ops[j]? with
      | none => simp [dstOf, hoj] at h1
      | some oj => exact absurd (hdk.trans h2) (((ok_at hok hoj).2.2.2 d (by simpa [dstOf, hoj] using h1)).2 k h)
  refine ⟨fun j d hj hd => ?_, fun t ht => ?_, ?_, ?_, hbe, hbl, hkp, fun q hq hl => ?_, Nat.le_trans I.sw hsw, by simpa using I.ls, fun j hj i hi => ?_, fun j hj => ?_, fun j hj => ?_, fun i hi hl => ?_, fun i j hi hj hli hlj hij => ?_⟩
  · rw [hput]
    rcases hset j hj with rfl | hj'
    · rw [hdk] at hd
      rw [hd, upd_same]
      have := (c4 d hd).1
      rw [← I.sz] at this
      simp [this]
    · rw [upd_ne _ _ (hne j hj')]
      cases hod : o.dst with
      | none => exact I.tm j d hj' hd
      | some e =>
        by_cases hde : e = d
        · subst hde; exact absurd (hds j e hd hod) (hne j hj')
        · simp only []
          rw [Array.getElem?_setIfInBounds_ne hde]; exact I.tm j d hj' hd
  · rw [hput]
    have h1 : a.tmps[t]? = t0[t]? := I.pre t fun j hj => ht j (by rw [getD_set hks]; simp only [hj, Bool.or_true])
    cases hod : o.dst with
    | none => exact h1
    | some e =>
      have := ht k (by rw [getD_set hks]; simp)
      rw [hdk, hod] at this
      simp only []
      rw [Array.getElem?_setIfInBounds_ne (fun h => this (by rw [h]))]; exact h1
  · rw [hput, ← I.sz]; cases o.dst <;> simp
  · rw [← I.df]; cases o.dst <;> rfl
  · rw [← I.od q hq fun k' hk' => hl k' (by rw [getD_set hks]; simp only [hk', Bool.or_true])]
    have hlt := hog q hq
    cases ho' : own st k with
    | none => exact (hN.bw ho').block _ (by have := I.sw; omega)
    | some i =>
      obtain ⟨g, hg, hp, hc⟩ := hpv i ho'
      refine hp.block _ ?_
      rcases hc with ⟨_, hc⟩ | ⟨hi, h1, hc⟩
      · omega
      · rw [hc]
        refine hod q _ hq h1 (fun e => hl k (by rw [getD_set hks]; simp) ?_)
        rw [ho', e]; congr 1; omega
  · rw [getD_set hks]
    rcases hset j hj with rfl | hj'
    · simp only [hdep i hi, Bool.or_true]
    · simp only [I.dn j hj' i hi, Bool.or_true]
  · rcases hset j hj with rfl | hj'
    · exact hkm
    · exact I.lt j hj'
  · rcases hset j hj with rfl | hj'
    · rw [mask_upd _ hself, upd_same]; exact hN.is
    · rw [upd_ne _ _ (hne j hj'), mask_upd]
      · cases ho' : own st k with
        | none => exact (hst j (I.lt j hj')).1 _ _ _ _ (I.fa j hj') (hN.bw ho')
        | some i =>
          obtain ⟨g, hg, hp, hc⟩ := hpv i ho'
          obtain ⟨h1, h2, h3⟩ := hsp i ho'
          refine (hst j (I.lt j hj')).2 (fun e => by subst e; cases ho') _ _ _ _ g (I.fa j hj') (fun i' hi' => ?_) hp
          have hjl : j < ops.length := by have := I.lt j hj'; have := ok_len hok; omega
          obtain ⟨h4, h5, h6⟩ := okSt_at hoks hjl i' hi'
          have hii : i' ≠ i := fun e => by subst e; exact h3 j hjl (hne j hj') hi'
          rw [tv_mask (fun h => (h4 h).1)]
          by_cases hi1 : i' < 1000
          · obtain ⟨g', e', q1, q2⟩ := I.pt i' (h4 hi1).2 (I.dn j hj' i' (h4 hi1).1)
            have ht : tv og x i' = x i' := if_pos hi1
            rw [ht]
            rcases hc with ⟨hi2, hc⟩ | ⟨hi2, hq2, hc⟩
            · have ht2 : tv og x i = x i := if_pos hi2
              rw [ht2] at hg
              exact fun e => I.ne i' i (h4 hi1).2 (h1 hi2).2 (I.dn j hj' i' (h4 hi1).1) (hdep i (h1 hi2).1) hii (e.trans hg.symm)
            · intro e
              rw [e'] at e; injection e with e; injection e with e; injection e with e
              have := hog _ hq2; omega
          · have ht : tv og x i' = .pointer (some ⟨og (i' - 1000), 0, none⟩) := if_neg hi1
            rw [ht]
            intro e; injection e with e; injection e with e; injection e with e
            have hl' := hog _ (h5 hi1)
            rcases hc with ⟨hi2, hc⟩ | ⟨hi2, hq2, hc⟩
            · omega
            · exact hod _ _ (h5 hi1) hq2 (by omega) (e.trans hc)
      · cases h : (dep D j).contains k with
        | false => rfl
        | true => have := I.dn j hj' k h; rw [hun] at this; cases this
  · rcases hset i hl with rfl | hl'
    · obtain ⟨g, h1, h2, h3⟩ := hN.al hi
      exact ⟨g, by rw [upd_same]; exact h1, by have := I.sw; omega, h3⟩
    · obtain ⟨g, h1, h2, h3⟩ := I.pt i hi hl'
      exact ⟨g, by rw [upd_ne _ _ (hne i hl')]; exact h1, h2, by omega⟩
  · rcases hset i hli with rfl | hli' <;> rcases hset j hlj with rfl | hlj'
    · exact absurd rfl hij
    · obtain ⟨g, h1, h2, h3⟩ := hN.al hi
      obtain ⟨g', h1', h2', h3'⟩ := I.pt j hj hlj'
      rw [upd_same, upd_ne _ _ (hne j hlj'), h1, h1']
      intro e; injection e with e; injection e with e; injection e with e; omega
    · obtain ⟨g, h1, h2, h3⟩ := hN.al hj
      obtain ⟨g', h1', h2', h3'⟩ := I.pt i hi hli'
      rw [upd_same, upd_ne _ _ (hne i hli'), h1, h1']
      intro e; injection e with e; injection e with e; injection e with e; omega
    · rw [upd_ne _ _ (hne i hli'), upd_ne _ _ (hne j hlj')]; exact I.ne i j hi hj hli' hlj' hij

/-- The rest of the region, once the first m operations have come up. -/
def Rest (P : Program) (ops : List Oper) (Q : Exit → Act → World → Prop) (t0 : Array Value) (ds : List Deferred) (m : Nat) (x : Nat → Value) (w : World) : Prop :=
  wpAny P .any ops.toArray Q (ops.length - m) (List.replicate m true ++ List.replicate (ops.length - m) false).toArray ⟨fill (ops.take m) x 0 t0, ds⟩ w

theorem dstOf_take {m j : Nat} (h : j < m) : dstOf (ops.take m) j = dstOf ops j := by
  unfold dstOf; rw [List.getElem?_take_of_lt h]
theorem dstOf_take_ge {m j : Nat} (h : m ≤ j) : dstOf (ops.take m) j = none := by
  unfold dstOf; rw [List.getElem?_eq_none (by simp; omega)]; rfl

theorem finish (hml : m ≤ ops.length) {listed : Array Bool} {a : Act} {w : World} {x : Nat → Value}
    (I : Inv (ops := ops) (D := D) (al := al) (st := st) (og := og) (nq := nq) (t0 := t0) (ds := ds) (w0 := w0) H m listed a w x) (hall : ∀ j, j < m → listed.getD j false = true)
    (hG : ∀ x w, Left D al og nq w0 H m x w → Rest P ops Q t0 ds m x w) : wpAny P .any ops.toArray Q (listed.toList.count false) listed a w := by
  have h := hG x w ⟨⟨I.be, I.bl, I.kp⟩, fun j hj => I.fa j (hall j hj), fun i hi him => I.pt i hi (hall i him), fun i j hi hj him hjm hij => I.ne i j hi hj (hall i him) (hall j hjm) hij⟩
  have hl : listed = (List.replicate m true ++ List.replicate (ops.length - m) false).toArray := by
    apply Array.ext
    · rw [I.ls]; simp; omega
    · intro i h1 h2
      rw [I.ls] at h1
      by_cases hi : i < m
      · have := hall i hi
        rw [Array.getD_eq_getD_getElem?, Array.getElem?_eq_getElem (by rw [I.ls]; exact h1)] at this
        simp only [Option.getD_some] at this
        rw [this]
        simp [List.getElem_append_left, hi]
      · have h3 : listed.getD i false = false := by
          cases h : listed.getD i false with
          | false => rfl
          | true => exact absurd (I.lt i h) hi
        rw [Array.getD_eq_getD_getElem?, Array.getElem?_eq_getElem (by rw [I.ls]; exact h1)] at h3
        simp only [Option.getD_some] at h3
        rw [h3]
        simp [List.getElem_append, hi]
  have ha : a = ⟨fill (ops.take m) x 0 t0, ds⟩ := by
    have e : fill (ops.take m) x 0 t0 = a.tmps := by
      refine fill_eq _ x 0 t0 a.tmps I.sz (fun j d hd => ?_) (fun t ht => ?_)
      · rcases Nat.lt_or_ge j m with hj | hj
        · rw [dstOf_take hj] at hd
          rw [Nat.zero_add]; exact I.tm j d (hall j hj) hd
        · rw [dstOf_take_ge hj] at hd; cases hd
      · refine I.pre t fun j hj => ?_
        have := ht j
        rwa [dstOf_take (I.lt j hj)] at this
    rw [e, ← I.df]
  have hc : listed.toList.count false = ops.length - m := by rw [hl]; simp [List.count_replicate]
  rw [hc, hl, ha]
  exact h

theorem main (hok : ok ops D m t0.size = true) (hoks : okSt ops D al st nq = true) (hog : ∀ q, q < nq → og q < w0.heap.size) (hod : ∀ q q', q < nq → q' < nq → q ≠ q' → og q ≠ og q') (hst : ∀ j, j < m → Stays st og j (H j)) (hrun : ∀ j, j < m → ∃ o, ops[j]? = some o ∧ Runs P ops D al st og nq t0 ds w0 H j o (H j))
    (hG : ∀ x w, Left D al og nq w0 H m x w → Rest P ops Q t0 ds m x w) :
    ∀ (fuel : Nat) (listed : Array Bool) (a : Act) (w : World) (x : Nat → Value), listed.toList.count false = fuel → Inv (ops := ops) (D := D) (al := al) (st := st) (og := og) (nq := nq) (t0 := t0) (ds := ds) (w0 := w0) H m listed a w x → wpAny P .any ops.toArray Q fuel listed a w := by
  have hml := ok_len hok
  intro fuel
  induction fuel with
  | zero =>
    intro listed a w x hc I
    rw [← hc]
    refine finish hml I (fun j hj => ?_) hG
    rw [Array.getD_eq_getD_getElem?, Array.getElem?_eq_getElem (by rw [I.ls]; omega)]
    simp only [Option.getD_some]
    have h0 := List.count_eq_zero.1 hc
    cases h : listed[j]'(by rw [I.ls]; omega) with
    | true => rfl
    | false => exact absurd (by rw [← h]; simp) h0
  | succ fuel ih =>
    intro listed a w x hc I
    by_cases hall : ∀ j, j < m → listed.getD j false = true
    · rw [← hc]; exact finish hml I hall hG
    · -- what may come up is one of the first m
      have hready : ∀ i, i ∈ Region.ready .any ops.toArray listed → listed.getD i false = false ∧ ∃ o, ops[i]? = some o ∧ (∀ j, (dep D i).contains j = true → listed.getD j false = true) ∧ i < m := by
        intro i hi
        obtain ⟨h1, o, ho, h2⟩ := mem_ready.1 hi
        have ho' : ops[i]? = some o := by simpa using ho
        have hlt : i < ops.length := (List.getElem?_eq_some_iff.1 ho').1
        obtain ⟨c1, c2, c3, c4⟩ := ok_at hok ho'
        have hd : ∀ j, (dep D i).contains j = true → listed.getD j false = true := fun j hj => by
          obtain ⟨⟨e, he, hb, h3⟩, _⟩ := c2 j hj
          rcases h3 with rfl | h3
          · exact h2 e he hb
          · exact I.dn _ (h2 e he hb) j h3
        refine ⟨?_, o, ho', hd, c3.resolve_right fun h => hall fun j hj => hd j (h j hj)⟩
        rw [Array.getD_eq_getD_getElem?, Array.getElem?_eq_getElem (by rw [I.ls]; exact hlt)] at h1 ⊢
        exact h1
      refine ⟨fun hr => ?_, fun i hi => ?_⟩
      · -- the least that has not come up may come up
        exfalso
        have hex : ∃ j, listed.getD j false = false ∧ j < m := by
          refine Classical.byContradiction fun h => hall fun j hj => ?_
          cases h2 : listed.getD j false with
          | true => rfl
          | false => exact absurd ⟨j, h2, hj⟩ h
        have hmin : ∃ j, (listed.getD j false = false ∧ j < m) ∧ ∀ i, i < j → listed.getD i false = true := by
          obtain ⟨j, h1, h2⟩ := hex
          induction j using Nat.strongRecOn with
          | ind j ihj =>
            by_cases hlow : ∃ i, i < j ∧ listed.getD i false = false
            · obtain ⟨i, h3, h4⟩ := hlow; exact ihj i h3 h4 (by omega)
            · refine ⟨j, ⟨h1, h2⟩, fun i hi => ?_⟩
              cases h5 : listed.getD i false with
              | true => rfl
              | false => exact absurd ⟨i, hi, h5⟩ hlow
        obtain ⟨j, ⟨h1, h2⟩, h3⟩ := hmin
        have hjo : ops[j]? = some (ops[j]'(by omega)) := List.getElem?_eq_getElem (by omega)
        have : j ∈ Region.ready .any ops.toArray listed := mem_ready.2 ⟨by
          rw [Array.getD_eq_getD_getElem?, Array.getElem?_eq_getElem (by rw [I.ls]; omega)] at h1 ⊢
          exact h1, _, by rw [List.getElem?_toArray]; exact hjo, fun e he hb => h3 _ ((ok_at hok hjo).1 e he hb)⟩
        rw [hr] at this; cases this
      · obtain ⟨hun, o, ho, hd, him⟩ := hready i hi
        obtain ⟨o', ho', hR⟩ := hrun i him
        obtain rfl : o = o' := by rw [ho] at ho'; exact Option.some.inj ho'
        have hil : i < ops.length := (List.getElem?_eq_some_iff.1 ho).1
        have hA : At ops D st og nq t0 w0 H i a.tmps (mask (dep D i) x) w := by
          obtain ⟨c1, c2, c3, c4⟩ := ok_at hok ho
          refine ⟨I.be, I.bl, I.kp, fun q hq hk' => I.od q hq fun k' hlk hok' => ?_, fun j d hj hd' => ?_, fun j hj => ?_, fun t ht => I.pre t fun j hj hjt => ?_⟩
          · rcases hk' k' hok' with e | e
            · subst e; rw [hun] at hlk; cases hlk
            · have := I.dn k' hlk i e; rw [hun] at this; cases this
          · rw [mask_in hj]; exact I.tm j d (hd j hj) hd'
          · have e : mask (dep D j) (mask (dep D i) x) = mask (dep D j) x := by
              funext q
              unfold mask
              by_cases hq : (dep D j).contains q = true
              · rw [if_pos hq, if_pos hq, if_pos ((c2 j hj).2.1 q hq)]
              · rw [if_neg hq, if_neg hq]
            rw [e, mask_in hj]
            exact I.fa j (hd j hj)
          · have hjl : j < ops.length := by have := I.lt j hj; omega
            unfold Rely.pre at ht
            rw [List.all_eq_true] at ht
            have h1 := ht j (List.mem_range.2 hjl)
            simp only [Bool.or_eq_true, bne_iff_ne, ne_eq, beq_iff_eq] at h1
            rcases h1 with (h1 | h1) | h1
            · exact h1 hjt
            · subst h1; rw [hun] at hj; cases hj
            · have := I.dn j hj i h1; rw [hun] at this; cases this
        have hrun1 := hR a.tmps (mask (dep D i) x) w hA (fun a' w' => ∃ v, a' = (a.put o.dst v) ∧ Next al st og (H i) i (mask (dep D i) x) w v w') (fun v w' hN => ⟨v, by rw [← I.df], hN⟩)
        have hil' : i < listed.size := by rw [I.ls]; exact hil
        have hcount : (listed.setIfInBounds i true).toList.count false = fuel := by
          have h1 : listed.toList[i]? = some false := by
            rw [Array.getD_eq_getD_getElem?, Array.getElem?_eq_getElem (by rw [I.ls]; exact hil)] at hun
            rw [List.getElem?_eq_getElem (by simpa using hil')]
            simpa using hun
          have := count_false h1
          rw [hc] at this
          rw [Array.toList_setIfInBounds]
          omega
        have hgo : ∀ a' w', (∃ v, a' = (a.put o.dst v) ∧ Next al st og (H i) i (mask (dep D i) x) w v w') → wpAny P .any ops.toArray Q fuel (listed.setIfInBounds i true) a' w' := by
          rintro a' w' ⟨v, rfl, hN⟩
          exact ih _ _ _ _ hcount (I.step hok hoks hog hod hst ho him hun hd hN)
        unfold wpOp
        rw [show ops.toArray[i]? = some o by simpa using ho]
        simp only []
        have hae : (⟨a.tmps, ds⟩ : Act) = a := by rw [← I.df]
        rw [hae] at hrun1
        split
        · rename_i hw
          rw [if_pos hw] at hrun1
          exact Or.inl (Oper.wp_noQ (Go.Oper.wp_mono hgo hrun1))
        · rename_i hw
          rw [if_neg hw] at hrun1
          exact hgo _ _ hrun1

/-- **A region that draws its order**: its first m operations, each run once (m: all of them, or those behind which the rest stands). -/
theorem region {id : Nat} {w : World} (hm : P.follows .mixedOrders = true) (D : List (List Nat)) (al : List Nat) (st : List (Nat × Nat)) (og : Nat → Nat) (nq : Nat) (m : Nat) (hok : ok ops D m t0.size = true) (hoks : okSt ops D al st nq = true) (hog : ∀ q, q < nq → og q < w.heap.size) (hod : ∀ q q', q < nq → q' < nq → q ≠ q' → og q ≠ og q')
    (h : Chain P ops D al st og nq t0 ds w.drew m (Rest P ops Q t0 ds m) ops 0 []) : (Code.region id ops.toArray true).wp P Q ⟨t0, ds⟩ w := by
  refine wp_region_any hm ?_
  have hml := ok_len hok
  obtain ⟨H, _, h2, h3⟩ := Chain.all (fun k j hk hj => ok_lt hok hj (by omega)) ops 0 [] rfl (Nat.zero_le _) (fun j => by rw [Nat.zero_add]) h
  have hc : (Array.replicate ops.toArray.size false).toList.count false = ops.toArray.size := by simp
  refine main (w0 := w.drew) hok hoks hog hod (fun j hj => (h2 j (Nat.zero_le _) hj).1) (fun j hj => (h2 j (Nat.zero_le _) hj).2) h3 _ _ _ _ (fun _ => undef) hc ?_
  have hno : ∀ j, (Array.replicate ops.toArray.size false).getD j false = true → False := fun j hj => by
    rw [Array.getD_eq_getD_getElem?] at hj
    by_cases h : j < ops.length <;> simp [h] at hj
  exact ⟨fun j _ hj => (hno j hj).elim, fun _ _ => rfl, rfl, rfl, fun B _ _ => Below.refl _ _, fun _ _ _ => rfl, Keeps.refl _, fun _ _ _ => rfl, Nat.le_refl _, by simp, fun j hj => (hno j hj).elim, fun j hj => (hno j hj).elim, fun j hj => (hno j hj).elim, fun j _ hj => (hno j hj).elim, fun i j _ _ hj => (hno i hj).elim⟩

/-- All have come up. -/
theorem rest_done {x : Nat → Value} {w : World} (h : Q .normal ⟨fill ops x 0 t0, ds⟩ w) : Rest P ops Q t0 ds ops.length x w := by
  unfold Rest
  rw [Nat.sub_self, List.take_length]
  refine ⟨?_, h⟩
  simp only [List.replicate_zero, List.append_nil]
  refine List.eq_nil_iff_forall_not_mem.2 (fun i hi => ?_)
  obtain ⟨h1, o, ho, _⟩ := mem_ready.1 hi
  have hlt : i < ops.length := by have := (Array.getElem?_eq_some_iff.1 ho).1; simpa using this
  simp [Array.getD_eq_getD_getElem?, hlt] at h1
/-- One of the rest, the only one that may come up. -/
theorem rest_step {fuel i : Nat} {o : Oper} {listed : Array Bool} {a : Act} {w : World} (hr : Region.ready .any ops.toArray listed = [i]) (ho : ops[i]? = some o)
    (h : ∀ K : Act → World → Prop, Hid (∀ a w, wpAny P .any ops.toArray Q fuel (listed.setIfInBounds i true) a w → K a w) → if Region.wanted o (yielded ops.toArray a.tmps) = true then o.wp P a w K Q else K (a.put o.dst undef) w) :
    wpAny P .any ops.toArray Q (fuel + 1) listed a w := by
  refine ⟨fun h0 => (by rw [hr] at h0; cases h0), fun j hj => ?_⟩
  rw [hr, List.mem_singleton] at hj
  subst hj
  have h1 := h _ (fun a w h => h)
  unfold wpOp
  rw [show ops.toArray[j]? = some o by simpa using ho]
  simp only []
  split
  · rename_i hw; rw [if_pos hw] at h1; exact Or.inl h1
  · rename_i hw; rw [if_neg hw] at h1; exact h1
end
end
end Rely
end Go.Proofs.Ytinfbmnimkcdjaa
