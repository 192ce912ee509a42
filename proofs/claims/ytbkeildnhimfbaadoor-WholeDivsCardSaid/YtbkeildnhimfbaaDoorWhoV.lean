/-
  What the walks of laws with locals in drawn regions share.
-/
import Derived.Test.YtbkeildnhimfbaaDoorWhoU
namespace Go.Proofs.YtbkeildnhimfbaaDoor
open Go.RowKit
set_option maxRecDepth 100000

theorem kept_heap {W w1 : World} {T : TypeId} (hb : Below (W.alloc (.cells #[.bool false, .slice none 0 0] T)).heap.size (W.alloc (.cells #[.bool false, .slice none 0 0] T)) w1) :
    w1.heap[W.heap.size]? = some (.cells #[.bool false, .slice none 0 0] T (0, 0)) := (hb.block _ (by simp)).trans (heap_alloc_new W _)
theorem heap_set2 {w : World} {g : Nat} {T : TypeId} {a b : Value} (h : w.heap[g]? = some (.cells #[a, b] T (0, 0))) (x y : Value) :
    ((w.setCell ⟨g, 0, none⟩ x).setCell ⟨g, 1, none⟩ y).heap[g]? = some (.cells #[x, y] T (0, 0)) := by
  have h1 := heap_setCell_same w g 0 _ T x h
  have h2 := heap_setCell_same _ g 1 _ T y h1
  rw [h2]; rfl
theorem CI.to {w : World} {v : Value} {z z' : Int} {k : Nat} (h : CI w v z k) (e : z = z') : CI w v z' k := e ▸ h
end Go.Proofs.YtbkeildnhimfbaaDoor
