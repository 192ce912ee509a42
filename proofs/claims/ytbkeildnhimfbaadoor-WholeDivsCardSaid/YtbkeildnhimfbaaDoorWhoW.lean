/-
  A local that is stored again: what reads on.
-/
import Derived.Test.YtbkeildnhimfbaaDoorWhoV
import Derived.Test.YtbkeildnhimfbaaDoorRely
namespace Go.Proofs.YtbkeildnhimfbaaDoor
open Go.RowKit
set_option maxRecDepth 100000

theorem RI.to {w : World} {v : Value} {z z' : Int} (h : RI w v z) (e : z = z') : RI w v z' := e ▸ h
theorem GI.set2 {w : World} {v : Value} {z : Int} {k : Nat} (h : GI w v z k) {g : Nat} {T : TypeId} {b0 : Bool} {a0 : Option Addr} {n0 c0 : Nat} (hB : w.heap[g]? = some (.cells #[.bool b0, .slice a0 n0 c0] T (0, 0))) (x y : Value) :
    GI ((w.setCell ⟨g, 0, none⟩ x).setCell ⟨g, 1, none⟩ y) v z k := by
  obtain ⟨b, va, n, rfl, ⟨xs, h1, h2, h3, h4⟩, rfl⟩ := h
  exact ⟨b, va, n, rfl, ⟨xs, h1.set2 hB x y, h2, h3, h4⟩, rfl⟩
theorem heap_far2 {w : World} {g a : Nat} {x y : Value} (h : a ≠ g) : ((w.setCell ⟨g, 0, none⟩ x).setCell ⟨g, 1, none⟩ y).heap[a]? = w.heap[a]? := by
  rw [Below.heap_setCell _ _ _ _ (by simpa using h), Below.heap_setCell _ _ _ _ (by simpa using h)]
theorem wbits_s (va : Value) (z : Int) (k : Nat) (s : Int) (w : World) (hx : GI w va z k) (hs : ((bl z.natAbs : Nat) : Int) = s) (hk : k ≤ 1000000) :
    Calls Tryd.prog 31 #[va] w fun e w' => e = .returned (.int .i64 s) ∧ Below w.heap.size w w' := by
  subst hs; exact wbits_any va z k w hx hk
/-- Two locals made one behind the other, behind a call that left them alone. -/
theorem kept_heap2 {W w1 : World} {T : TypeId} (hb : Below ((W.alloc (.cells #[.bool false, .slice none 0 0] T)).alloc (.cells #[.bool false, .slice none 0 0] T)).heap.size ((W.alloc (.cells #[.bool false, .slice none 0 0] T)).alloc (.cells #[.bool false, .slice none 0 0] T)) w1) :
    w1.heap[W.heap.size]? = some (.cells #[.bool false, .slice none 0 0] T (0, 0)) ∧ w1.heap[W.heap.size + 1]? = some (.cells #[.bool false, .slice none 0 0] T (0, 0)) := blocks2 (hb.mono (by simp))

theorem Keeps.set2 {w w' : World} (h : Keeps w w') {g : Nat} {T : TypeId} {b0 : Bool} {a0 : Option Addr} {n0 c0 : Nat} (hB : w'.heap[g]? = some (.cells #[.bool b0, .slice a0 n0 c0] T (0, 0))) (x y : Value) :
    Keeps w ((w'.setCell ⟨g, 0, none⟩ x).setCell ⟨g, 1, none⟩ y) := by
  obtain ⟨q0, q1, _, _⟩ := two_cells hB
  refine (h.set q0 (by intro k z e; cases e) x).set (u := .slice a0 n0 c0) ?_ (by intro k z e; cases e) y
  rw [World.cell?_setCell_other w' _ _ x (by intro e; injection e with _ e; omega)]
  exact q1
theorem Sl.keeps {w w' : World} {k : IntKind} {v : Value} {xs : List Nat} (h : Sl w k v xs) (hk : Keeps w w') : Sl w' k v xs := by
  obtain ⟨ao, cap, rfl, h1, h2, h3, h4⟩ := h
  refine ⟨ao, cap, rfl, h1, h2, h3, fun i hi => ?_⟩
  obtain ⟨a, ha, hq⟩ := h4 i hi
  exact ⟨a, ha, hk _ _ _ hq⟩
theorem RI.keeps {w w' : World} {v : Value} {z : Int} (h : RI w v z) (hk : Keeps w w') : RI w' v z := by
  obtain ⟨va, rfl, h⟩ := h; exact ⟨va, rfl, h.keeps hk⟩
theorem GI.keeps {w w' : World} {v : Value} {z : Int} {k : Nat} (h : GI w v z k) (hk : Keeps w w') : GI w' v z k := by
  obtain ⟨b, va, n, rfl, ⟨xs, h1, h2⟩, rfl⟩ := h
  exact ⟨b, va, n, rfl, ⟨xs, h1.keeps hk, h2⟩, rfl⟩
theorem CI.keeps {w w' : World} {v : Value} {z : Int} {k : Nat} (h : CI w v z k) (hk : Keeps w w') : CI w' v z k := by
  obtain ⟨va, rfl, h, h2⟩ := h; exact ⟨va, rfl, h.keeps hk, h2⟩
end Go.Proofs.YtbkeildnhimfbaaDoor
