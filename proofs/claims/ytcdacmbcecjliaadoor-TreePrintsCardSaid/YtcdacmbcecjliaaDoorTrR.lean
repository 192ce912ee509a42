/-
  The end of a region that draws its order, where the last operations stand in one order. No program stands here.
-/
import Derived.Test.YtcdacmbcecjliaaDoorRely
namespace Go.Proofs.YtcdacmbcecjliaaDoor
open Go.RowKit
set_option maxRecDepth 100000
namespace Rely
/-- The first m of n have come up. -/
def lst (n m : Nat) : Array Bool := (List.replicate m true ++ List.replicate (n - m) false).toArray
/-- From number m on one alone may come up at a time. -/
def inOrder (ops : List Oper) (m : Nat) : Bool := (List.range ops.length).all fun i => decide (i < m) || Region.ready .any ops.toArray (lst ops.length i) == [i]

theorem lst_set {n m : Nat} (h : m < n) : (lst n m).setIfInBounds m true = lst n (m + 1) := by
  unfold lst
  apply Array.ext'
  rw [Array.toList_setIfInBounds]
  show (List.replicate m true ++ List.replicate (n - m) false).set m true = List.replicate (m + 1) true ++ List.replicate (n - (m + 1)) false
  rw [List.set_append_right _ _ (by simp)]
  simp only [List.length_replicate, Nat.sub_self]
  obtain ⟨r, hr⟩ : ∃ r, n - m = r + 1 := ⟨n - m - 1, by omega⟩
  rw [hr, show n - (m + 1) = r by omega, List.replicate_succ, List.set_cons_zero, List.replicate_succ', List.append_assoc]
  rfl
theorem ready_full (ops : List Oper) : Region.ready .any ops.toArray (lst ops.length ops.length) = [] := by
  refine List.eq_nil_iff_forall_not_mem.2 (fun i hi => ?_)
  obtain ⟨h1, o, ho, _⟩ := mem_ready.1 hi
  have hlt : i < ops.length := by have := (Array.getElem?_eq_some_iff.1 ho).1; simpa using this
  simp [lst, Array.getD_eq_getD_getElem?, hlt] at h1

theorem rest_any {P : Program} {ops : List Oper} {Q : Exit → Act → World → Prop} : ∀ (r m : Nat), m + r = ops.length → (∀ i, m ≤ i → i < ops.length → Region.ready .any ops.toArray (lst ops.length i) = [i]) → ∀ a w, wpList P ops.toArray Q (ops.drop m) a w → wpAny P .any ops.toArray Q r (lst ops.length m) a w
  | 0, m, hm, _, a, w, h => by
    have e : m = ops.length := by omega
    subst e
    rw [List.drop_length] at h
    exact ⟨ready_full ops, h⟩
  | r + 1, m, hm, hr, a, w, h => by
    have hlt : m < ops.length := by omega
    have h0 := hr m (Nat.le_refl _) hlt
    refine ⟨(fun hn => by rw [h0] at hn; cases hn), fun i hi => ?_⟩
    rw [h0, List.mem_singleton] at hi
    subst hi
    rw [List.drop_eq_getElem_cons hlt] at h
    have ho : ops.toArray[i]? = some ops[i] := by simp [hlt]
    have ih := rest_any (P := P) (Q := Q) r (i + 1) (by omega) (fun j hj hj' => hr j (by omega) hj')
    unfold wpOp
    rw [ho, lst_set hlt]
    simp only [wpList] at h ⊢
    split
    · rename_i hw
      rw [if_pos hw] at h
      rcases h with h | h
      · exact .inl (Go.Oper.wp_mono (fun a' w' h' => ih a' w' h') h)
      · exact .inr h
    · rename_i hw
      rw [if_neg hw] at h
      exact ih _ _ h

/-- The rest, as a plain list. -/
theorem rest_list {P : Program} {ops : List Oper} {Q : Exit → Act → World → Prop} {t0 : Array Value} {ds : List Deferred} {m : Nat} {x : Nat → Value} {w : World} (hm : m ≤ ops.length) (hi : inOrder ops m = true)
    (h : wpList P ops.toArray Q (ops.drop m) ⟨fill (ops.take m) x 0 t0, ds⟩ w) : Rest P ops Q t0 ds m x w := by
  unfold Rest
  refine rest_any (ops.length - m) m (by omega) (fun i h1 h2 => ?_) _ _ h
  unfold inOrder at hi
  have := List.all_eq_true.1 hi i (List.mem_range.2 h2)
  simp only [Bool.or_eq_true, decide_eq_true_eq, beq_iff_eq] at this
  exact this.resolve_left (by omega)
end Rely
end Go.Proofs.YtcdacmbcecjliaaDoor
