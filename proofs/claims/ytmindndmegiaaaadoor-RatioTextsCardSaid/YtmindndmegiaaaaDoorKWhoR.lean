/-
  Joined: WhoH, WhoR, WhoS.
-/
import Derived.Test.YtmindndmegiaaaaDoorKWhoF
import Derived.Test.YtmindndmegiaaaaDoorKDgt
import Derived.Test.YtmindndmegiaaaaDoorKPar
/- Contracts of the laws' helpers for integers: short, same. -/
namespace Go.Proofs.YtmindndmegiaaaaDoor
open Go.RowKit
set_option maxRecDepth 100000

/-- m integers lie one behind the other from cell 0 of block g on, of L 0, L 1, .. limbs. -/
def RowsI (w : World) (g m : Nat) (L : Nat → Nat) : Prop := ∀ j, j < m → ∃ b ao c, w.cell? ⟨g, j * 2, none⟩ = some (.bool b) ∧ w.cell? ⟨g, j * 2 + 1, none⟩ = some (.slice ao (L j) c)

theorem sgnZ_self (z : Int) : sgnZ (z - z) = 0 := by unfold sgnZ; rw [if_pos (by omega)]

end Go.Proofs.YtmindndmegiaaaaDoor

/- Contracts of the reference package's integers, and of the laws' helpers of, is. -/
namespace Go.Proofs.YtmindndmegiaaaaDoor
open Go.RowKit
set_option maxRecDepth 100000

/-- The reference package's form of the integer z. -/
def RI (w : World) (v : Value) (z : Int) : Prop := ∃ va, v = .agg #[.bool (decide (z < 0)), va] ∧ Sl w .i64 va (dig 2 z.natAbs)
theorem RI.below {w w' : World} {v : Value} {z : Int} (h : RI w v z) (hb : Below w.heap.size w w') : RI w' v z := by
  obtain ⟨va, rfl, h⟩ := h; exact ⟨va, rfl, h.below hb⟩
theorem RI.set2 {w : World} {v : Value} {z : Int} (h : RI w v z) {g : Nat} {T : TypeId} {b0 : Bool} {a0 : Option Addr} {n0 c0 : Nat} (hB : w.heap[g]? = some (.cells #[.bool b0, .slice a0 n0 c0] T (0, 0))) (x y : Value) :
    RI ((w.setCell ⟨g, 0, none⟩ x).setCell ⟨g, 1, none⟩ y) v z := by
  obtain ⟨va, rfl, h⟩ := h; exact ⟨va, rfl, h.set2 hB x y⟩
theorem ri_mk {w : World} {b : Bool} {n : Nat} {va : Value} (h : Sl w .i64 va (dig 2 n)) : RI w (.agg #[.bool (b && decide (0 < n)), va]) (sg b n) :=
  ⟨va, by rw [sg_neg], by rw [sg_natAbs]; exact h⟩
theorem RI.shape {w : World} {v : Value} {z : Int} (h : RI w v z) : ∃ b ao l c n, v = .agg #[.bool b, .slice ao l c] ∧ Sl w .i64 (.slice ao l c) (dig 2 n) ∧ z = sg b n := by
  obtain ⟨va, rfl, h⟩ := h
  obtain ⟨ao, c, rfl⟩ := sl_shape h
  refine ⟨_, ao, _, c, _, rfl, h, ?_⟩
  unfold sg
  by_cases hz : z < 0
  · rw [if_pos (by simpa using hz)]; omega
  · rw [if_neg (by simpa using hz)]; omega

theorem dig2_len_pos {n : Nat} : 0 < n → 0 < (dig 2 n).length := fun h => bl_pos h

theorem Sl.alloc {w : World} {k : IntKind} {v : Value} {xs : List Nat} (h : Sl w k v xs) (o : Obj) : Sl (w.alloc o) k v xs := h.below ((Below.refl _ _).alloc (Nat.le_refl _) _)

end Go.Proofs.YtmindndmegiaaaaDoor

/- Contracts: the reference package's Cmp and Text of integers; the laws' helpers of, is. -/
namespace Go.Proofs.YtmindndmegiaaaaDoor
open Go.RowKit
set_option maxRecDepth 100000

theorem bcell {W w1 : World} (hb : Below W.heap.size W w1) : (∀ b o, b < W.heap.size → w1.cell? ⟨b, o, none⟩ = W.cell? ⟨b, o, none⟩) ∧ (∀ b o, b < W.heap.size → w1.frozen? ⟨b, o, none⟩ = W.frozen? ⟨b, o, none⟩) :=
  ⟨fun b o h => hb.cell (p := ⟨b, o, none⟩) h, fun b o h => hb.frozen (p := ⟨b, o, none⟩) h⟩
theorem kept_local {W w1 : World} {T : TypeId} (hb : Below (W.alloc (.cells #[.bool false, .slice none 0 0] T)).heap.size (W.alloc (.cells #[.bool false, .slice none 0 0] T)) w1) :
    w1.cell? ⟨W.heap.size, 0, none⟩ = some (.bool false) ∧ w1.cell? ⟨W.heap.size, 1, none⟩ = some (.slice none 0 0) ∧ w1.frozen? ⟨W.heap.size, 0, none⟩ = false ∧ w1.frozen? ⟨W.heap.size, 1, none⟩ = false :=
  two_cells ((hb.block _ (by simp)).trans (heap_alloc_new W _))
theorem trans2 {a b c : World} (k : Below b.heap.size b c) (h : Below a.heap.size a b) : Below a.heap.size a c := h.trans (k.mono h.size)
theorem RI.drew {w : World} {v : Value} {z : Int} (h : RI w v z) : RI w.drew v z := h
theorem CI.drew {w : World} {v : Value} {z : Int} {k : Nat} (h : CI w v z k) : CI w.drew v z k := h
theorem GI.drew {w : World} {v : Value} {z : Int} {k : Nat} (h : GI w v z k) : GI w.drew v z k := h
/-- A local of two cells, made and stored. -/
theorem local_below (w : World) (T : TypeId) (x y : Value) : Below w.heap.size w (((w.alloc (.cells #[.bool false, .slice none 0 0] T)).setCell ⟨w.heap.size, 0, none⟩ x).setCell ⟨w.heap.size, 1, none⟩ y) :=
  below_setg ((Below.refl _ _).alloc (Nat.le_refl _) _) (Nat.le_refl _) x y
theorem local_heap (w : World) (T : TypeId) (x y : Value) : (((w.alloc (.cells #[.bool false, .slice none 0 0] T)).setCell ⟨w.heap.size, 0, none⟩ x).setCell ⟨w.heap.size, 1, none⟩ y).heap[w.heap.size]? = some (.cells #[x, y] T (0, 0)) := by
  have h1 := heap_setCell_same _ w.heap.size 0 _ T x (heap_alloc_new w (.cells #[.bool false, .slice none 0 0] T))
  have h2 := heap_setCell_same _ w.heap.size 1 _ T y h1
  rw [h2]; rfl
theorem size_setCell (w : World) (p : Addr) (x : Value) : (w.setCell p x).heap.size = w.heap.size := by simp [World.setCell]
theorem local_size (w : World) (T : TypeId) (x y : Value) : (((w.alloc (.cells #[.bool false, .slice none 0 0] T)).setCell ⟨w.heap.size, 0, none⟩ x).setCell ⟨w.heap.size, 1, none⟩ y).heap.size = w.heap.size + 1 := by
  rw [size_setCell, size_setCell]; exact World.size_alloc w _
theorem farA {w : World} {o : Obj} {g i : Nat} (h : g < w.heap.size) : (w.alloc o).cell? ⟨g, i, none⟩ = w.cell? ⟨g, i, none⟩ := World.cell?_alloc_lt w o _ h

end Go.Proofs.YtmindndmegiaaaaDoor
