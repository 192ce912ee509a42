/-
  What evaluation is to bring; its context.
-/
import Derived.Test.YtinfbmnimkcdjaaLgH
namespace Go.Proofs.Ytinfbmnimkcdjaa
open Go.RowKit
set_option maxRecDepth 100000
set_option linter.unusedVariables false
set_option linter.unusedSimpArgs false

def NumC (d : Nat) : Prop := ∀ (ve v : Value) (env : List (ByteArray × V)) (t : F) (S : Nat → Prop) (w : World), FC w S d v t → EL w ve env → rt t = true → srt t.op = 0 → Sm (rho env) t →
  Calls Try.prog 64 #[ve, v] w fun e w' => ∃ x, e = .returned x ∧ CI w' x (asI (ev (rho env) t)) 600 ∧ Below w.heap.size w w'
def LstC (d : Nat) : Prop := ∀ (ve v : Value) (env : List (ByteArray × V)) (t : F) (S : Nat → Prop) (w : World), FC w S d v t → EL w ve env → rt t = true → srt t.op = 2 → Sm (rho env) t →
  Calls Try.prog 63 #[ve, v] w fun e w' => ∃ x, e = .returned x ∧ NL w' x (asL (ev (rho env) t)) ∧ Below w.heap.size w w'
def TruC (d : Nat) : Prop := ∀ (ve v : Value) (env : List (ByteArray × V)) (t : F) (S : Nat → Prop) (w : World), FC w S d v t → EL w ve env → rt t = true → srt t.op = 1 → Sm (rho env) t →
  Calls Try.prog 62 #[ve, v] w fun e w' => e = .returned (.bool (asB (ev (rho env) t))) ∧ Below w.heap.size w w'
def ValC (d : Nat) : Prop := ∀ (ve v : Value) (env : List (ByteArray × V)) (t : F) (S : Nat → Prop) (w : World), FC w S d v t → EL w ve env → rt t = true → Sm (rho env) t →
  Calls Try.prog 41 #[ve, v] w fun e w' => ∃ x, e = .returned x ∧ VC w' x (ev (rho env) t) ∧ Below w.heap.size w w'

theorem fieldV0 (k : Int) (b : Bool) (o : Option Addr) (l c : Nat) (d : Bool) (p : Option Addr) (m q : Nat) (w : World) :
    (Instr.field 41 (.agg #[.int .i64 k, .bool b, .slice o l c, .bool d, .slice p m q]) 0).run Try.prog w = .ok (.int .i64 k) w := by
  unfold Instr.field; simp [go_sem, asAgg]
theorem fieldV1 (k : Int) (b : Bool) (o : Option Addr) (l c : Nat) (d : Bool) (p : Option Addr) (m q : Nat) (w : World) :
    (Instr.field 41 (.agg #[.int .i64 k, .bool b, .slice o l c, .bool d, .slice p m q]) 1).run Try.prog w = .ok (.agg #[.bool b, .slice o l c]) w := by
  unfold Instr.field; simp [go_sem, asAgg]
theorem fieldV2 (k : Int) (b : Bool) (o : Option Addr) (l c : Nat) (d : Bool) (p : Option Addr) (m q : Nat) (w : World) :
    (Instr.field 41 (.agg #[.int .i64 k, .bool b, .slice o l c, .bool d, .slice p m q]) 2).run Try.prog w = .ok (.bool d) w := by
  unfold Instr.field; simp [go_sem, asAgg]
theorem fieldV3 (k : Int) (b : Bool) (o : Option Addr) (l c : Nat) (d : Bool) (p : Option Addr) (m q : Nat) (w : World) :
    (Instr.field 41 (.agg #[.int .i64 k, .bool b, .slice o l c, .bool d, .slice p m q]) 3).run Try.prog w = .ok (.slice p m q) w := by
  unfold Instr.field; simp [go_sem, asAgg]
theorem CI.tight {w : World} {v : Value} {z : Int} {k : Nat} (h : CI w v z k) (hz : z.natAbs < L32 ^ 600) : CI w v z 600 := by
  obtain ⟨va, h1, h2, _⟩ := h
  exact ⟨va, h1, h2, hz⟩
theorem EL.shape {w : World} {v : Value} {env : List (ByteArray × V)} (h : EL w v env) : ∃ eo en ec, v = .slice eo en ec := by
  obtain ⟨us, ⟨ko, kc, rfl, -⟩, -⟩ := h
  exact ⟨_, _, _, rfl⟩
theorem EL.nil (w : World) : EL w (.slice none 0 0) [] := ⟨[], El.At.nil w, rfl⟩
theorem lk0 (x : V) : lkV x 0 = .I (asI x) := by cases x <;> rfl
theorem VC.lk1 {w : World} {v : Value} {x : V} (h : VC w v (lkV x 1)) : ∃ k b o l c p m q, v = .agg #[.int .i64 k, .bool b, .slice o l c, .bool (asB x), .slice p m q] := by
  cases x with
  | I z => obtain ⟨o, l, c, rfl, -⟩ := VC.int (z := 0) h; exact ⟨_, _, _, _, _, _, _, _, rfl⟩
  | B b => have := VC.bool (b := b) h; subst this; exact ⟨_, _, _, _, _, _, _, _, rfl⟩
  | L l => obtain ⟨o, l', c, rfl, -⟩ := VC.int (z := 0) h; exact ⟨_, _, _, _, _, _, _, _, rfl⟩
theorem NL.nil (w : World) : NL w (.slice none 0 0) [] := ⟨[], El.At.nil w, rfl⟩
theorem VC.lk2 {w : World} {v : Value} {x : V} (h : VC w v (lkV x 2)) : ∃ k b o l c d p m q, v = .agg #[.int .i64 k, .bool b, .slice o l c, .bool d, .slice p m q] ∧ NL w (.slice p m q) (asL x) := by
  cases x with
  | I z => obtain ⟨o, l, c, rfl, -⟩ := VC.int (z := 0) h; exact ⟨_, _, _, _, _, _, _, _, _, rfl, NL.nil w⟩
  | B b => obtain ⟨o, l, c, rfl, -⟩ := VC.int (z := 0) h; exact ⟨_, _, _, _, _, _, _, _, _, rfl, NL.nil w⟩
  | L l => obtain ⟨o, l', c, rfl, hn⟩ := VC.list (zs := l) h; exact ⟨_, _, _, _, _, _, _, _, _, rfl, hn⟩
theorem rt_node {o z : Int} {nm : ByteArray} {ks : List F} (h : rt (.node o z nm ks) = true) : fitF o z (srts ks) = true ∧ ∀ f ∈ ks, rt f = true := by
  rw [rt, Bool.and_eq_true, rts_all, List.all_eq_true] at h; exact h
theorem srts_nil {ks : List F} (h : srts ks = []) : ks = [] := by
  unfold srts at h; simpa using h
theorem srts_one {ks : List F} {s : Int} (h : srts ks = [s]) : ∃ p, ks = [p] ∧ srt p.op = s := by
  unfold srts at h
  match ks, h with
  | [p], h => exact ⟨p, rfl, by simpa using h⟩
  | [], h => simp at h
  | _ :: _ :: _, h => simp at h
theorem srts_two {ks : List F} {s r : Int} (h : srts ks = [s, r]) : ∃ p q, ks = [p, q] ∧ srt p.op = s ∧ srt q.op = r := by
  unfold srts at h
  match ks, h with
  | [p, q], h => exact ⟨p, q, rfl, by simpa using h⟩
  | [], h => simp at h
  | [_], h => simp at h
  | _ :: _ :: _ :: _, h => simp at h
theorem fit_range {o z : Int} {ss : List Int} (h : fitF o z ss = true) : 0 ≤ o ∧ o ≤ 20 := by
  rcases ops21 o with h1 | h1
  · omega
  · exfalso
    unfold fitF kidsOk at h
    rw [if_neg (by omega), if_neg (by omega), if_neg (by omega), if_neg (by omega), if_neg (by omega), if_neg (by omega), if_neg (by omega), if_neg (by omega), if_neg (by omega)] at h
    simp at h
/-- A form's five cells at an address. -/
def At5 (w : World) (p : Addr) (o : Int) (b : Bool) (ao : Option Addr) (l c : Nat) (nm : ByteArray) (ko : Option Addr) (kl kc : Nat) : Prop :=
  w.cell? p = some (.int .i64 o) ∧ w.cell? ⟨p.block, p.off + 1, none⟩ = some (.bool b) ∧ w.cell? ⟨p.block, p.off + 2, none⟩ = some (.slice ao l c) ∧ w.cell? ⟨p.block, p.off + 3, none⟩ = some (.string nm) ∧ w.cell? ⟨p.block, p.off + 4, none⟩ = some (.slice ko kl kc)
theorem At5.below {w w' : World} {p : Addr} {o : Int} {b : Bool} {ao : Option Addr} {l c : Nat} {nm : ByteArray} {ko : Option Addr} {kl kc : Nat} (h : At5 w p o b ao l c nm ko kl kc) (hb : Below w.heap.size w w') : At5 w' p o b ao l c nm ko kl kc := by
  obtain ⟨h0, h1, h2, h3, h4⟩ := h
  have key : ∀ q v, w.cell? q = some v → w'.cell? q = some v := fun q v h => by rw [hb.cell (World.block_lt_of_cell? w _ h)]; exact h
  exact ⟨key _ _ h0, key _ _ h1, key _ _ h2, key _ _ h3, key _ _ h4⟩
/-- The first and the second kid. -/
theorem FL.first {w : World} {S : Nat → Prop} {d : Nat} {ko : Option Addr} {n kc : Nat} {p : F} {l : List F} (h : FL w S d (.slice ko n kc) (p :: l)) : ∃ (a : Addr) (b : Bool) (o : Option Addr) (l c : Nat) (po : Option Addr) (pl pc : Nat), ko = some a ∧
    (w.cell? a = some (.int .i64 p.op) ∧ w.cell? ⟨a.block, a.off + 1, none⟩ = some (.bool b) ∧ w.cell? ⟨a.block, a.off + 2, none⟩ = some (.slice o l c) ∧
      w.cell? ⟨a.block, a.off + 3, none⟩ = some (.string p.name) ∧ w.cell? ⟨a.block, a.off + 4, none⟩ = some (.slice po pl pc)) ∧
    FC w S d (.agg #[.int .i64 p.op, .bool b, .slice o l c, .string p.name, .slice po pl pc]) p := by
  have := h.cells 0 (by simp)
  simpa [Addr.add] using this
theorem FL.second {w : World} {S : Nat → Prop} {d : Nat} {ko : Option Addr} {n kc : Nat} {p q : F} {l : List F} (h : FL w S d (.slice ko n kc) (p :: q :: l)) : ∃ (a : Addr) (b : Bool) (o : Option Addr) (l c : Nat) (po : Option Addr) (pl pc : Nat), ko = some a ∧
    (w.cell? ⟨a.block, a.off + 5, none⟩ = some (.int .i64 q.op) ∧ w.cell? ⟨a.block, a.off + 5 + 1, none⟩ = some (.bool b) ∧ w.cell? ⟨a.block, a.off + 5 + 2, none⟩ = some (.slice o l c) ∧
      w.cell? ⟨a.block, a.off + 5 + 3, none⟩ = some (.string q.name) ∧ w.cell? ⟨a.block, a.off + 5 + 4, none⟩ = some (.slice po pl pc)) ∧
    FC w S d (.agg #[.int .i64 q.op, .bool b, .slice o l c, .string q.name, .slice po pl pc]) q := by
  have := h.cells 1 (by simp)
  simpa [Addr.add] using this
end Go.Proofs.Ytinfbmnimkcdjaa
