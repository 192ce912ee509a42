/-
  Joined: WhoT, WhoU, WhoV, WhoW.
-/
import Derived.Test.YtmindndmegiaaaaDoorKWhoR
import Derived.Test.YtmindndmegiaaaaDoorRely
/- The laws' anchor: minus seven by two, rounded down. -/
namespace Go.Proofs.YtmindndmegiaaaaDoor
open Go.RowKit
set_option maxRecDepth 100000

theorem zText_m4 : zText (-4) = [45, 52] := by
  unfold zText
  rw [if_pos (by decide), show (-4 : Int).natAbs = 4 from rfl, Lib.decDigits_one (by decide)]
  rfl
theorem zText_1 : zText 1 = [49] := by
  unfold zText
  rw [if_neg (by decide), show (1 : Int).natAbs = 1 from rfl, Lib.decDigits_one (by decide)]
  rfl

end Go.Proofs.YtmindndmegiaaaaDoor

/- What the walks of the laws of integers share. -/
namespace Go.Proofs.YtmindndmegiaaaaDoor
open Go.RowKit
set_option maxRecDepth 100000

theorem rowsI_1 {w : World} {g : Nat} {T : TypeId} {b0 : Bool} {o0 : Option Addr} {n0 c0 : Nat} (h : w.heap[g]? = some (.cells #[.bool b0, .slice o0 n0 c0] T (0, 0))) : RowsI w g 1 (fun _ => n0) := by
  intro j hj
  match j, hj with
  | 0, _ => exact ⟨_, _, _, by rw [cell_of_row w g 0 _ T (0, 0) h]; rfl, by rw [cell_of_row w g 1 _ T (0, 0) h]; rfl⟩
theorem rowsI_2 {w : World} {g : Nat} {T : TypeId} {b0 b1 : Bool} {o0 o1 : Option Addr} {n0 c0 n1 c1 : Nat} (h : w.heap[g]? = some (.cells #[.bool b0, .slice o0 n0 c0, .bool b1, .slice o1 n1 c1] T (0, 0))) : RowsI w g 2 (three n0 n1 0) := by
  intro j hj
  match j, hj with
  | 0, _ => exact ⟨_, _, _, by rw [cell_of_row w g 0 _ T (0, 0) h]; rfl, by rw [cell_of_row w g 1 _ T (0, 0) h]; rfl⟩
  | 1, _ => exact ⟨_, _, _, by rw [cell_of_row w g 2 _ T (0, 0) h]; rfl, by rw [cell_of_row w g 3 _ T (0, 0) h]; rfl⟩
theorem rowsI_3 {w : World} {g : Nat} {T : TypeId} {b0 b1 b2 : Bool} {o0 o1 o2 : Option Addr} {n0 c0 n1 c1 n2 c2 : Nat} (h : w.heap[g]? = some (.cells #[.bool b0, .slice o0 n0 c0, .bool b1, .slice o1 n1 c1, .bool b2, .slice o2 n2 c2] T (0, 0))) : RowsI w g 3 (three n0 n1 n2) := by
  intro j hj
  match j, hj with
  | 0, _ => exact ⟨_, _, _, by rw [cell_of_row w g 0 _ T (0, 0) h]; rfl, by rw [cell_of_row w g 1 _ T (0, 0) h]; rfl⟩
  | 1, _ => exact ⟨_, _, _, by rw [cell_of_row w g 2 _ T (0, 0) h]; rfl, by rw [cell_of_row w g 3 _ T (0, 0) h]; rfl⟩
  | 2, _ => exact ⟨_, _, _, by rw [cell_of_row w g 4 _ T (0, 0) h]; rfl, by rw [cell_of_row w g 5 _ T (0, 0) h]; rfl⟩

theorem wcmp_s (va vb : Value) (y z : Int) (k1 k2 : Nat) (s : Int) (w : World) (hx : GI w va y k1) (hy : GI w vb z k2) (hs : sgnZ (y - z) = s) (h1 : k1 ≤ 1000000) (h2 : k2 ≤ 1000000) :
    Calls Tryd.prog 22 #[va, vb] w fun e w' => e = .returned (.int .i64 s) ∧ Below w.heap.size w w' := by
  subst hs; exact wcmp_any va vb y z k1 k2 w hx hy h1 h2
theorem wsign_s (va : Value) (z : Int) (k : Nat) (s : Int) (w : World) (hx : GI w va z k) (hs : sgnZ z = s) (hk : k ≤ 1000000) :
    Calls Tryd.prog 24 #[va] w fun e w' => e = .returned (.int .i64 s) ∧ Below w.heap.size w w' := by
  subst hs; exact wsign_any va z k w hx hk
/-- An argument: its sign and its limbs. -/
structure Arg (w : World) (b : Bool) (o : Option Addr) (n c : Nat) (xs : List Nat) : Prop where
  sl : Sl w .u32 (.slice o n c) xs
  dig : Dig L32 xs
theorem Arg.len {w : World} {b : Bool} {o : Option Addr} {n c : Nat} {xs : List Nat} (h : Arg w b o n c xs) : n = xs.length := sl_len h.sl
theorem Arg.gi {w : World} {b : Bool} {o : Option Addr} {n c : Nat} {xs : List Nat} (h : Arg w b o n c xs) {k : Nat} (hk : n ≤ k) : ∃ A, GI w (.agg #[.bool b, .slice o n c]) A k :=
  ⟨_, gi_mk (gn_of h.sl h.dig (by have := h.len; omega)) b⟩
end Go.Proofs.YtmindndmegiaaaaDoor

/- What the walks of laws with locals in drawn regions share. -/
namespace Go.Proofs.YtmindndmegiaaaaDoor
open Go.RowKit
set_option maxRecDepth 100000

theorem kept_heap {W w1 : World} {T : TypeId} (hb : Below (W.alloc (.cells #[.bool false, .slice none 0 0] T)).heap.size (W.alloc (.cells #[.bool false, .slice none 0 0] T)) w1) :
    w1.heap[W.heap.size]? = some (.cells #[.bool false, .slice none 0 0] T (0, 0)) := (hb.block _ (by simp)).trans (heap_alloc_new W _)
theorem heap_set2 {w : World} {g : Nat} {T : TypeId} {a b : Value} (h : w.heap[g]? = some (.cells #[a, b] T (0, 0))) (x y : Value) :
    ((w.setCell ⟨g, 0, none⟩ x).setCell ⟨g, 1, none⟩ y).heap[g]? = some (.cells #[x, y] T (0, 0)) := by
  have h1 := heap_setCell_same w g 0 _ T x h
  have h2 := heap_setCell_same _ g 1 _ T y h1
  rw [h2]; rfl
theorem CI.to {w : World} {v : Value} {z z' : Int} {k : Nat} (h : CI w v z k) (e : z = z') : CI w v z' k := e ▸ h
end Go.Proofs.YtmindndmegiaaaaDoor

/- A local that is stored again: what reads on. -/
namespace Go.Proofs.YtmindndmegiaaaaDoor
open Go.RowKit
set_option maxRecDepth 100000

theorem RI.to {w : World} {v : Value} {z z' : Int} (h : RI w v z) (e : z = z') : RI w v z' := e ▸ h
theorem GI.set2 {w : World} {v : Value} {z : Int} {k : Nat} (h : GI w v z k) {g : Nat} {T : TypeId} {b0 : Bool} {a0 : Option Addr} {n0 c0 : Nat} (hB : w.heap[g]? = some (.cells #[.bool b0, .slice a0 n0 c0] T (0, 0))) (x y : Value) :
    GI ((w.setCell ⟨g, 0, none⟩ x).setCell ⟨g, 1, none⟩ y) v z k := by
  obtain ⟨b, va, n, rfl, ⟨xs, h1, h2, h3, h4⟩, rfl⟩ := h
  exact ⟨b, va, n, rfl, ⟨xs, h1.set2 hB x y, h2, h3, h4⟩, rfl⟩
theorem heap_far2 {w : World} {g a : Nat} {x y : Value} (h : a ≠ g) : ((w.setCell ⟨g, 0, none⟩ x).setCell ⟨g, 1, none⟩ y).heap[a]? = w.heap[a]? := by
  rw [Below.heap_setCell _ _ _ _ (by simpa using h), Below.heap_setCell _ _ _ _ (by simpa using h)]
/-- Two locals made one behind the other, behind a call that left them alone. -/
theorem kept_heap2 {W w1 : World} {T : TypeId} (hb : Below ((W.alloc (.cells #[.bool false, .slice none 0 0] T)).alloc (.cells #[.bool false, .slice none 0 0] T)).heap.size ((W.alloc (.cells #[.bool false, .slice none 0 0] T)).alloc (.cells #[.bool false, .slice none 0 0] T)) w1) :
    w1.heap[W.heap.size]? = some (.cells #[.bool false, .slice none 0 0] T (0, 0)) ∧ w1.heap[W.heap.size + 1]? = some (.cells #[.bool false, .slice none 0 0] T (0, 0)) := blocks2 (hb.mono (by simp))

theorem Keeps.set2 {w w' : World} (h : Keeps w w') {g : Nat} {T : TypeId} {b0 : Bool} {a0 : Option Addr} {n0 c0 : Nat} (hB : w'.heap[g]? = some (.cells #[.bool b0, .slice a0 n0 c0] T (0, 0))) (x y : Value) :
    Keeps w ((w'.setCell ⟨g, 0, none⟩ x).setCell ⟨g, 1, none⟩ y) := by
  obtain ⟨q0, q1, _, _⟩ := two_cells hB
  refine (h.set q0 (by intro k z e; cases e) x).set (u := .slice a0 n0 c0) ?_ (by intro k z e; cases e) y
  rw [World.cell?_setCell_other w' _ _ x (by intro e; injection e with _ e; omega)]
  exact q1
theorem RI.keeps {w w' : World} {v : Value} {z : Int} (h : RI w v z) (hk : Keeps w w') : RI w' v z := by
  obtain ⟨va, rfl, h⟩ := h; exact ⟨va, rfl, h.keeps hk⟩
end Go.Proofs.YtmindndmegiaaaaDoor
