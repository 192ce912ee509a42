/-
  Plain notions for the proofs of this seat: what a slice of whole numbers reads as; a block of cells known whole; one block alone has changed. No program stands here.
-/
import Derived.WalkKit
import Derived.WalkSpells
import Derived.WalkLawsBesides
import Derived.Lib.Hide
import Derived.Test.YtbkeildnhimfbaaDoorMath
namespace Go.Proofs.YtbkeildnhimfbaaDoor
open Go.RowKit
set_option maxRecDepth 100000

/-- Element i of a list of numbers, as the integer that a cell holds (0 behind the end). -/
def nth (xs : List Nat) (i : Nat) : Int := ((xs.getD i 0 : Nat) : Int)

theorem nth_nonneg (xs : List Nat) (i : Nat) : 0 ≤ nth xs i := Int.natCast_nonneg _
theorem nth_lt {xs : List Nat} {M : Nat} (h : ∀ x ∈ xs, x < M) (h0 : 0 < M) (i : Nat) : nth xs i < (M : Int) := by
  unfold nth
  by_cases hi : i < xs.length
  · have := h xs[i] (List.getElem_mem hi)
    simp [List.getD, hi]; omega
  · simp [List.getD, Nat.le_of_not_lt hi]; omega
theorem nth_eq {xs : List Nat} {i : Nat} (h : i < xs.length) : nth xs i = ((xs[i] : Nat) : Int) := by
  unfold nth; simp [List.getD, h]

/-- The slice value v reads, in world w, as the numbers xs of kind k. -/
def Sl (w : World) (k : IntKind) (v : Value) (xs : List Nat) : Prop :=
  ∃ (ao : Option Addr) (cap : Nat), v = .slice ao xs.length cap ∧ xs.length ≤ cap ∧ cap ≤ 9223372036854775807 ∧ (ao = none → cap = 0) ∧
    ∀ i, i < xs.length → ∃ a, ao = some a ∧ w.cell? (a.add i) = some (.int k (nth xs i))

theorem addr_add_add (a : Addr) (i j : Nat) : (a.add i).add j = a.add (i + j) := by
  unfold Addr.add
  by_cases hi : i = 0
  · simp [hi]
  · by_cases hj : j = 0
    · simp [hj]
    · simp [hi, hj]; omega

theorem cell_lt {w : World} {a : Addr} {v : Value} (h : w.cell? a = some v) : a.block < w.heap.size := World.block_lt_of_cell? w a h

theorem Sl.nil (w : World) (k : IntKind) : Sl w k (.slice none 0 0) [] :=
  ⟨none, 0, rfl, by simp, by omega, fun _ => rfl, fun i hi => by simp at hi⟩

theorem Sl.below {w w' : World} {k : IntKind} {v : Value} {xs : List Nat} (h : Sl w k v xs) (hb : Below w.heap.size w w') : Sl w' k v xs := by
  obtain ⟨ao, cap, rfl, h1, h2, h3, h4⟩ := h
  refine ⟨ao, cap, rfl, h1, h2, h3, fun i hi => ?_⟩
  obtain ⟨a, ha, hc⟩ := h4 i hi
  exact ⟨a, ha, by rw [hb.cell (cell_lt hc)]; exact hc⟩

theorem Sl.take {w : World} {k : IntKind} {ao : Option Addr} {n cap : Nat} {xs : List Nat} (h : Sl w k (.slice ao n cap) xs) (m : Nat) (hm : m ≤ xs.length) : Sl w k (.slice ao m cap) (xs.take m) := by
  obtain ⟨ao', cap', e, h1, h2, h3, h4⟩ := h
  injection e with e1 e2 e3
  subst e1; subst e3
  have hl : (xs.take m).length = m := by simp; omega
  refine ⟨ao, cap, by rw [hl], by rw [hl]; omega, h2, h3, fun i hi => ?_⟩
  rw [hl] at hi
  obtain ⟨a, ha, hc⟩ := h4 i (by omega)
  refine ⟨a, ha, ?_⟩
  rw [hc]; unfold nth
  simp [List.getD, hi]

/-- Block g holds, whole, the numbers l of kind k (its elements' type: T), and may be written. -/
def Blk (w : World) (g : Nat) (k : IntKind) (T : TypeId) (l : List Nat) : Prop :=
  w.heap[g]? = some (.cells ((l.map fun (n : Nat) => Value.int k ((n : Nat) : Int)).toArray) T (0, 0))

theorem Blk.lt {w : World} {g : Nat} {k : IntKind} {T : TypeId} {l : List Nat} (h : Blk w g k T l) : g < w.heap.size := lt_of_block h
theorem Blk.cell {w : World} {g : Nat} {k : IntKind} {T : TypeId} {l : List Nat} (h : Blk w g k T l) {i : Nat} (hi : i < l.length) : w.cell? ⟨g, i, none⟩ = some (.int k (nth l i)) := by
  rw [cell_of_row w g i _ T (0, 0) h]
  simp [hi, nth_eq hi]
theorem Blk.frozen {w : World} {g : Nat} {k : IntKind} {T : TypeId} {l : List Nat} (h : Blk w g k T l) (i : Nat) : w.frozen? ⟨g, i, none⟩ = false := frozen_of_row w g i _ T h
theorem Blk.set {w : World} {g : Nat} {k : IntKind} {T : TypeId} {l : List Nat} (h : Blk w g k T l) (i : Nat) (n : Nat) (z : Int) (hz : z = (n : Int)) : Blk (w.setCell ⟨g, i, none⟩ (.int k z)) g k T (l.set i n) := by
  subst hz
  unfold Blk
  rw [heap_setCell_same w g i _ T _ h]
  simp [List.map_set]
theorem Blk.other {w w' : World} {g : Nat} {k : IntKind} {T : TypeId} {l : List Nat} (h : Blk w g k T l) {row : Option Nat} (hg : w.grownBy w' row) (hne : some g ≠ row) : Blk w' g k T l := by
  unfold Blk at *
  rw [hg.block g (lt_of_block h) hne]; exact h
theorem Blk.below {w w' : World} {B g : Nat} {k : IntKind} {T : TypeId} {l : List Nat} (h : Blk w g k T l) (hg : Below B w w') (hB : g < B) : Blk w' g k T l := by
  unfold Blk at *
  rw [hg.block g hB]; exact h

theorem addr_at (g off i : Nat) : (⟨g, off, none⟩ : Addr).add i = ⟨g, off + i, none⟩ := by simp [Addr.add]

/-- A part of a block known whole, as a slice. -/
theorem Blk.sl {w : World} {g : Nat} {k : IntKind} {T : TypeId} {l : List Nat} (h : Blk w g k T l) (off n cap : Nat) (hn : off + n ≤ l.length) (hc : n ≤ cap) (hm : cap ≤ 9223372036854775807) :
    Sl w k (.slice (some ⟨g, off, none⟩) n cap) ((l.drop off).take n) := by
  have hl : ((l.drop off).take n).length = n := by simp; omega
  refine ⟨some ⟨g, off, none⟩, cap, by rw [hl], by rw [hl]; exact hc, hm, (fun e => by cases e), fun i hi => ⟨_, rfl, ?_⟩⟩
  rw [hl] at hi
  rw [addr_at, h.cell (i := off + i) (by omega)]
  unfold nth
  simp [List.getD, hi]

theorem grown_setCell {w0 w : World} {g i : Nat} (h : w0.grownBy w (some g)) (v : Value) : w0.grownBy (w.setCell ⟨g, i, none⟩ v) (some g) :=
  ⟨h.os, h.tape, h.output, by simpa [World.setCell] using h.size, fun k hk hne => by
    rw [Below.heap_setCell _ _ _ _ (fun e => hne (by rw [e]))]; exact h.block k hk hne⟩
theorem grown_drew {w0 w : World} {row : Option Nat} (h : w0.grownBy w row) : w0.grownBy w.drew row := ⟨h.os, h.tape, h.output, h.size, h.block⟩
theorem grown_trans {a b c : World} {row : Option Nat} (h : a.grownBy b row) (k : b.grownBy c row) : a.grownBy c row :=
  ⟨k.os.trans h.os, k.tape.trans h.tape, k.output.trans h.output, Nat.le_trans h.size k.size, fun i hi hne => (k.block i (Nat.lt_of_lt_of_le hi h.size) hne).trans (h.block i hi hne)⟩
theorem grown_of_below {a b : World} {row : Option Nat} (h : Below a.heap.size a b) : a.grownBy b row :=
  ⟨h.os, h.tape, h.output, h.size, fun k hk _ => h.block k hk⟩
theorem below_of_grown {a b : World} {g : Nat} (h : a.grownBy b (some g)) (hg : a.heap.size ≤ g) : Below a.heap.size a b :=
  ⟨h.os, h.tape, h.output, h.size, fun k hk => h.block k hk (fun e => by injection e with e; omega)⟩

/-- A slice whose cells lie in other blocks than g reads as before behind what changed g alone. -/
def Apart (g : Nat) (v : Value) : Prop := ∀ a n c, v = .slice (some a) n c → a.block = g → n = 0
theorem Sl.grown {w w' : World} {k : IntKind} {v : Value} {xs : List Nat} {g : Nat} (h : Sl w k v xs) (hg : w.grownBy w' (some g)) (ha : Apart g v) : Sl w' k v xs := by
  obtain ⟨ao, cap, rfl, h1, h2, h3, h4⟩ := h
  refine ⟨ao, cap, rfl, h1, h2, h3, fun i hi => ?_⟩
  obtain ⟨a, rfl, hc⟩ := h4 i hi
  refine ⟨a, rfl, ?_⟩
  have hb : (a.add i).block = a.block := by unfold Addr.add; split <;> rfl
  refine hg.cell hc (fun e => ?_)
  injection e with e
  have := ha a _ _ rfl (by rw [← e, hb])
  omega

/-- The slice value v is a writable part of block g: before it lie pre, it holds s, behind it lie post. (An empty one may be nil.) -/
def Ws (w : World) (k : IntKind) (T : TypeId) (v : Value) (g : Nat) (pre s post : List Nat) : Prop :=
  ∃ (ao : Option Addr) (cap : Nat), v = .slice ao s.length cap ∧ s.length ≤ cap ∧ cap ≤ 9223372036854775807 ∧ (ao = none → cap = 0) ∧
    (s.length ≠ 0 → ao = some ⟨g, pre.length, none⟩ ∧ Blk w g k T (pre ++ s ++ post))

/-- What Ws says of memory, for n elements (a plain definition, so that the walk does not open it). -/
def WsAt (w : World) (k : IntKind) (T : TypeId) (ao : Option Addr) (g : Nat) (pre s post : List Nat) (n : Nat) : Prop :=
  n ≠ 0 → ao = some ⟨g, pre.length, none⟩ ∧ Blk w g k T (pre ++ s ++ post)

theorem u32_wf {xs : List Nat} (h : Dig 4294967296 xs) (i : Nat) : 0 ≤ nth xs i ∧ nth xs i < 4294967296 := by
  have h1 := h.getD (by omega) i
  unfold nth; omega
theorem Sl.at {w : World} {k : IntKind} {b : Addr} {n c : Nat} {xs : List Nat} (h : Sl w k (.slice (some b) n c) xs) {i : Nat} (hi : i < xs.length) : w.cell? (b.add i) = some (.int k (nth xs i)) := by
  obtain ⟨_, _, e, _, _, _, q⟩ := h
  injection e with e1 e2 e3
  subst e1
  obtain ⟨b', e, q⟩ := q i hi
  injection e with e; subst e; exact q

theorem Ws.sl {w : World} {k : IntKind} {T : TypeId} {v : Value} {g : Nat} {pre s post : List Nat} (h : Ws w k T v g pre s post) : Sl w k v s := by
  obtain ⟨ao, cap, rfl, h1, h2, h3, h4⟩ := h
  refine ⟨ao, cap, rfl, h1, h2, h3, fun i hi => ?_⟩
  obtain ⟨rfl, hb⟩ := h4 (by omega)
  refine ⟨_, rfl, ?_⟩
  rw [addr_at, hb.cell (by simp; omega)]
  unfold nth
  simp [List.getD, List.getElem?_append_left, List.getElem?_append_right, hi]

theorem nth_mid (pre s post : List Nat) (i : Nat) (h : i < s.length) : nth (pre ++ s ++ post) (pre.length + i) = nth s i := by
  unfold nth
  simp [List.getD, List.getElem?_append_left, List.getElem?_append_right, h]
theorem set_mid (pre s post : List Nat) (i n : Nat) (h : i < s.length) : (pre ++ s ++ post).set (pre.length + i) n = pre ++ s.set i n ++ post := by
  rw [List.append_assoc, List.set_append_right _ _ (by omega), List.set_append_left _ _ (by omega), List.append_assoc]
  simp

theorem Ws.below {w w' : World} {B : Nat} {k : IntKind} {T : TypeId} {v : Value} {g : Nat} {pre s post : List Nat} (h : Ws w k T v g pre s post) (hb : Below B w w') (hg : g < B) : Ws w' k T v g pre s post := by
  obtain ⟨ao, cap, rfl, h1, h2, h3, h4⟩ := h
  exact ⟨ao, cap, rfl, h1, h2, h3, fun i => ⟨(h4 i).1, (h4 i).2.below hb hg⟩⟩

end Go.Proofs.YtbkeildnhimfbaaDoor
