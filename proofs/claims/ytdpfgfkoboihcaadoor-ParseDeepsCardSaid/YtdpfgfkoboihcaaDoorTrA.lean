/-
  How a tree lies in memory.
-/
import Derived.Test.YtdpfgfkoboihcaaDoorTrM
import Derived.Test.YtdpfgfkoboihcaaDoorKBase
import Derived.ProofKit
import Derived.OpenShut
import Derived.ShutString
import Derived.ChangeOld
namespace Go.Proofs.YtdpfgfkoboihcaaDoor
open Go.RowKit
set_option maxRecDepth 100000

/-- The fields of an expression, as a value holds them. -/
structure X where
  k : Int
  nm : ByteArray
  ot : ByteArray
  b : Bool
  ao : Option Addr
  n : Nat
  c : Nat
  ko : Option Addr
  kn : Nat
  kc : Nat
  ln : Int
  cl : Int

/-- The value, and its eight cells. -/
def xv (x : X) : Value := .agg #[.int .i64 x.k, .string x.nm, .string x.ot, .bool x.b, .slice x.ao x.n x.c, .slice x.ko x.kn x.kc, .int .i64 x.ln, .int .i64 x.cl]
def xc (x : X) : List Value := [.int .i64 x.k, .string x.nm, .string x.ot, .bool x.b, .slice x.ao x.n x.c, .slice x.ko x.kn x.kc, .int .i64 x.ln, .int .i64 x.cl]

/-- Element i of the slice at ko is y. -/
def At8 (w : World) (ko : Option Addr) (i : Nat) (y : X) : Prop := ∃ a, ko = some a ∧ ∀ j v, (xc y)[j]? = some v → w.cell? ((a.add (i * 8)).add j) = some v

theorem add_block (a : Addr) (i : Nat) : (a.add i).block = a.block := by unfold Addr.add; split <;> rfl

theorem cell_keep {w w' : World} {p : Addr} (h : w'.heap[p.block]? = w.heap[p.block]?) : w'.cell? p = w.cell? p := World.cell?_of_block h

theorem At8.keep {w w' : World} {ko : Option Addr} {i : Nat} {y : X} (h : At8 w ko i y) (hk : ∀ a, ko = some a → w'.heap[a.block]? = w.heap[a.block]?) : At8 w' ko i y := by
  obtain ⟨a, rfl, h⟩ := h
  refine ⟨a, rfl, fun j v hv => ?_⟩
  rw [cell_keep (w := w) (by rw [add_block, add_block]; exact hk a rfl)]; exact h j v hv
theorem At8.lt {w : World} {ko : Option Addr} {i : Nat} {y : X} (h : At8 w ko i y) : ∀ a, ko = some a → a.block < w.heap.size := by
  obtain ⟨a, rfl, h⟩ := h
  rintro _ ⟨⟩
  have := cell_lt (h 0 _ rfl)
  rwa [add_block, add_block] at this

theorem Sl.keep {w w' : World} {k : IntKind} {ao : Option Addr} {n c : Nat} {xs : List Nat} (h : Sl w k (.slice ao n c) xs) (hk : n ≠ 0 → ∀ a, ao = some a → w'.heap[a.block]? = w.heap[a.block]?) : Sl w' k (.slice ao n c) xs := by
  obtain ⟨ao', cap, e, h1, h2, h3, h4⟩ := h
  injection e with e1 e2 e3
  subst e1; subst e3
  refine ⟨ao, c, by rw [e2], h1, h2, h3, fun i hi => ?_⟩
  obtain ⟨a, ha, hc⟩ := h4 i hi
  refine ⟨a, ha, ?_⟩
  rw [cell_keep (w := w) (by rw [add_block]; exact hk (by omega) a ha)]; exact hc

/-- Its cells, as the walk meets them. -/
theorem cells8 {w : World} {p : Addr} {y : X} (h : ∀ j v, (xc y)[j]? = some v → w.cell? (p.add j) = some v) : w.cell? p = some (.int .i64 y.k) ∧ w.cell? ⟨p.block, p.off + 1, none⟩ = some (.string y.nm) ∧ w.cell? ⟨p.block, p.off + 2, none⟩ = some (.string y.ot) ∧
    w.cell? ⟨p.block, p.off + 3, none⟩ = some (.bool y.b) ∧ w.cell? ⟨p.block, p.off + 4, none⟩ = some (.slice y.ao y.n y.c) ∧ w.cell? ⟨p.block, p.off + 5, none⟩ = some (.slice y.ko y.kn y.kc) ∧ w.cell? ⟨p.block, p.off + 6, none⟩ = some (.int .i64 y.ln) ∧ w.cell? ⟨p.block, p.off + 7, none⟩ = some (.int .i64 y.cl) :=
  ⟨h 0 _ rfl, h 1 _ rfl, h 2 _ rfl, h 3 _ rfl, h 4 _ rfl, h 5 _ rfl, h 6 _ rfl, h 7 _ rfl⟩

/-- x is, in w, a right tree of no more than d parts within one another: t. What of it lies in memory lies in blocks of S. -/
def Tr (w : World) (S : Nat → Prop) : Nat → X → T → Prop
  | 0, _, _ => False
  | d + 1, x, .node k nm ot z ks => (x.k = (k : Int) ∧ x.nm = ⟨nm.toArray⟩ ∧ x.ot = ⟨ot.toArray⟩ ∧ x.b = false) ∧ (Sl w .u32 (.slice x.ao x.n x.c) (dig L32 z) ∧ (x.n ≠ 0 → ∀ a, x.ao = some a → S a.block)) ∧
      (x.kn = ks.length ∧ x.kn ≤ x.kc ∧ (x.kn ≠ 0 → ∀ a, x.ko = some a → S a.block)) ∧ ∀ i (h : i < ks.length), ∃ y, At8 w x.ko i y ∧ Tr w S d y ks[i]

theorem Tr.keep {w w' : World} {S : Nat → Prop} (hk : ∀ g, S g → w'.heap[g]? = w.heap[g]?) : ∀ {d : Nat} {x : X} {t : T}, Tr w S d x t → Tr w' S d x t
  | 0, _, _, h => h
  | d + 1, x, .node k nm ot z ks, ⟨h1, ⟨h2, h3⟩, ⟨h4, h5, h6⟩, h7⟩ => by
    refine ⟨h1, ⟨h2.keep fun h0 a ha => hk _ (h3 h0 a ha), h3⟩, ⟨h4, h5, h6⟩, fun i hi => ?_⟩
    obtain ⟨y, a1, a2⟩ := h7 i hi
    exact ⟨y, a1.keep fun a ha => hk _ (h6 (by omega) a ha), a2.keep hk⟩
theorem Tr.mono {w : World} {S S' : Nat → Prop} (hs : ∀ g, S g → S' g) : ∀ {d : Nat} {x : X} {t : T}, Tr w S d x t → Tr w S' d x t
  | 0, _, _, h => h
  | d + 1, x, .node k nm ot z ks, ⟨h1, ⟨h2, h3⟩, ⟨h4, h5, h6⟩, h7⟩ => by
    refine ⟨h1, ⟨h2, fun h0 a ha => hs _ (h3 h0 a ha)⟩, ⟨h4, h5, fun h0 a ha => hs _ (h6 h0 a ha)⟩, fun i hi => ?_⟩
    obtain ⟨y, a1, a2⟩ := h7 i hi
    exact ⟨y, a1, a2.mono hs⟩
/-- All of it lies in the heap. -/
theorem Tr.lt {w : World} {S : Nat → Prop} : ∀ {d : Nat} {x : X} {t : T}, Tr w S d x t → Tr w (fun g => S g ∧ g < w.heap.size) d x t
  | 0, _, _, h => h
  | d + 1, x, .node k nm ot z ks, ⟨h1, ⟨h2, h3⟩, ⟨h4, h5, h6⟩, h7⟩ => by
    refine ⟨h1, ⟨h2, fun h0 a ha => ⟨h3 h0 a ha, ?_⟩⟩, ⟨h4, h5, fun h0 a ha => ⟨h6 h0 a ha, ?_⟩⟩, fun i hi => ?_⟩
    · obtain ⟨ao', cap, e, -, -, -, q⟩ := h2
      injection e with e1 e2 e3
      obtain ⟨b, hb, hc⟩ := q 0 (by omega)
      have : b = a := by rw [ha] at e1; rw [← e1] at hb; injection hb with hb; exact hb.symm
      subst this
      have := cell_lt hc
      rwa [add_block] at this
    · obtain ⟨y, a1, -⟩ := h7 0 (by omega)
      exact a1.lt a ha
    · obtain ⟨y, a1, a2⟩ := h7 i hi
      exact ⟨y, a1, a2.lt⟩
/-- A tree of a world reads so wherever nothing of that world's memory has changed. -/
theorem Tr.below {w w' : World} {S : Nat → Prop} {d : Nat} {x : X} {t : T} (h : Tr w S d x t) (hb : Below w.heap.size w w') : Tr w' S d x t :=
  (h.lt.keep fun g hg => hb.block g hg.2).mono fun _ h => h.1
theorem Tr.alloc {w : World} {S : Nat → Prop} {d : Nat} {x : X} {t : T} (h : Tr w S d x t) (o : Obj) : Tr (w.alloc o) S d x t := h.below ((Below.refl _ _).alloc (Nat.le_refl _) _)
theorem Tr.drew {w : World} {S : Nat → Prop} {d : Nat} {x : X} {t : T} (h : Tr w S d x t) : Tr w.drew S d x t := h.below ((Below.refl _ _).drew)

/-- An argument, as far as d parts within one another: any kind, any names. -/
def Raw (w : World) : Nat → X → Prop
  | 0, _ => True
  | d + 1, x => (-9223372036854775808 ≤ x.k ∧ x.k ≤ 9223372036854775807) ∧ (-9223372036854775808 ≤ x.ln ∧ x.ln ≤ 9223372036854775807) ∧ (-9223372036854775808 ≤ x.cl ∧ x.cl ≤ 9223372036854775807) ∧ x.nm.size ≤ 9223372036854775807 ∧ x.ot.size ≤ 9223372036854775807 ∧ (∃ xs, Sl w .u32 (.slice x.ao x.n x.c) xs ∧ Dig L32 xs) ∧ x.kn ≤ 9223372036854775807 ∧
      ∀ i, i < x.kn → ∃ y, At8 w x.ko i y ∧ Raw w d y
theorem Raw.below {w w' : World} (hb : Below w.heap.size w w') : ∀ {d : Nat} {x : X}, Raw w d x → Raw w' d x
  | 0, _, h => h
  | d + 1, x, ⟨h1, h2, h3, h4, h5, ⟨xs, h6, h7⟩, h8, h9⟩ => by
    refine ⟨h1, h2, h3, h4, h5, ⟨xs, h6.below hb, h7⟩, h8, fun i hi => ?_⟩
    obtain ⟨y, a1, a2⟩ := h9 i hi
    exact ⟨y, a1.keep fun a ha => hb.block _ (a1.lt a ha), a2.below hb⟩

/-- A store of a whole expression. -/
def st8 (w : World) (g : Nat) (v0 v1 v2 v3 v4 v5 v6 v7 : Value) : World :=
  (((((((w.setCell ⟨g, 0, none⟩ v0).setCell ⟨g, 1, none⟩ v1).setCell ⟨g, 2, none⟩ v2).setCell ⟨g, 3, none⟩ v3).setCell ⟨g, 4, none⟩ v4).setCell ⟨g, 5, none⟩ v5).setCell ⟨g, 6, none⟩ v6).setCell ⟨g, 7, none⟩ v7
theorem st8_same {w : World} {g : Nat} {T : TypeId} {a0 a1 a2 a3 a4 a5 a6 a7 : Value} (h : w.heap[g]? = some (.cells #[a0, a1, a2, a3, a4, a5, a6, a7] T (0, 0))) (v0 v1 v2 v3 v4 v5 v6 v7 : Value) :
    (st8 w g v0 v1 v2 v3 v4 v5 v6 v7).heap[g]? = some (.cells #[v0, v1, v2, v3, v4, v5, v6, v7] T (0, 0)) := by
  have h0 : (w.setCell ⟨g, 0, none⟩ v0).heap[g]? = some (.cells #[v0, a1, a2, a3, a4, a5, a6, a7] T (0, 0)) := heap_setCell_same _ g 0 _ T v0 h
  have h1 : ((w.setCell ⟨g, 0, none⟩ v0).setCell ⟨g, 1, none⟩ v1).heap[g]? = some (.cells #[v0, v1, a2, a3, a4, a5, a6, a7] T (0, 0)) := heap_setCell_same _ g 1 _ T v1 h0
  have h2 : (((w.setCell ⟨g, 0, none⟩ v0).setCell ⟨g, 1, none⟩ v1).setCell ⟨g, 2, none⟩ v2).heap[g]? = some (.cells #[v0, v1, v2, a3, a4, a5, a6, a7] T (0, 0)) := heap_setCell_same _ g 2 _ T v2 h1
  have h3 : ((((w.setCell ⟨g, 0, none⟩ v0).setCell ⟨g, 1, none⟩ v1).setCell ⟨g, 2, none⟩ v2).setCell ⟨g, 3, none⟩ v3).heap[g]? = some (.cells #[v0, v1, v2, v3, a4, a5, a6, a7] T (0, 0)) := heap_setCell_same _ g 3 _ T v3 h2
  have h4 : (((((w.setCell ⟨g, 0, none⟩ v0).setCell ⟨g, 1, none⟩ v1).setCell ⟨g, 2, none⟩ v2).setCell ⟨g, 3, none⟩ v3).setCell ⟨g, 4, none⟩ v4).heap[g]? = some (.cells #[v0, v1, v2, v3, v4, a5, a6, a7] T (0, 0)) := heap_setCell_same _ g 4 _ T v4 h3
  have h5 : ((((((w.setCell ⟨g, 0, none⟩ v0).setCell ⟨g, 1, none⟩ v1).setCell ⟨g, 2, none⟩ v2).setCell ⟨g, 3, none⟩ v3).setCell ⟨g, 4, none⟩ v4).setCell ⟨g, 5, none⟩ v5).heap[g]? = some (.cells #[v0, v1, v2, v3, v4, v5, a6, a7] T (0, 0)) := heap_setCell_same _ g 5 _ T v5 h4
  have h6 : (((((((w.setCell ⟨g, 0, none⟩ v0).setCell ⟨g, 1, none⟩ v1).setCell ⟨g, 2, none⟩ v2).setCell ⟨g, 3, none⟩ v3).setCell ⟨g, 4, none⟩ v4).setCell ⟨g, 5, none⟩ v5).setCell ⟨g, 6, none⟩ v6).heap[g]? = some (.cells #[v0, v1, v2, v3, v4, v5, v6, a7] T (0, 0)) := heap_setCell_same _ g 6 _ T v6 h5
  have h7 : ((((((((w.setCell ⟨g, 0, none⟩ v0).setCell ⟨g, 1, none⟩ v1).setCell ⟨g, 2, none⟩ v2).setCell ⟨g, 3, none⟩ v3).setCell ⟨g, 4, none⟩ v4).setCell ⟨g, 5, none⟩ v5).setCell ⟨g, 6, none⟩ v6).setCell ⟨g, 7, none⟩ v7).heap[g]? = some (.cells #[v0, v1, v2, v3, v4, v5, v6, v7] T (0, 0)) := heap_setCell_same _ g 7 _ T v7 h6
  exact h7
theorem set1_other (w : World) (g i : Nat) (v : Value) {k : Nat} (hk : k ≠ g) : (w.setCell ⟨g, i, none⟩ v).heap[k]? = w.heap[k]? := heap_setCell_other _ _ k _ (by simpa using hk)
theorem st8_other (w : World) (g : Nat) (v0 v1 v2 v3 v4 v5 v6 v7 : Value) {k : Nat} (hk : k ≠ g) : (st8 w g v0 v1 v2 v3 v4 v5 v6 v7).heap[k]? = w.heap[k]? := by
  unfold st8
  rw [set1_other _ _ _ _ hk, set1_other _ _ _ _ hk, set1_other _ _ _ _ hk, set1_other _ _ _ _ hk, set1_other _ _ _ _ hk, set1_other _ _ _ _ hk, set1_other _ _ _ _ hk, set1_other _ _ _ _ hk]
theorem st8_grown (w : World) (g : Nat) (v0 v1 v2 v3 v4 v5 v6 v7 : Value) : w.grownBy (st8 w g v0 v1 v2 v3 v4 v5 v6 v7) (some g) := by
  unfold st8
  refine grown_setCell ?_ _
  refine grown_setCell ?_ _
  refine grown_setCell ?_ _
  refine grown_setCell ?_ _
  refine grown_setCell ?_ _
  refine grown_setCell ?_ _
  refine grown_setCell ?_ _
  refine grown_setCell ?_ _
  exact World.grownBy.refl _ _
theorem below_set1 {B : Nat} {w0 w : World} (h : Below B w0 w) {g : Nat} (hg : B ≤ g) (i : Nat) (v : Value) : Below B w0 (w.setCell ⟨g, i, none⟩ v) := h.setCell (by simpa using hg) _
theorem st8_below {B : Nat} {w0 w : World} (h : Below B w0 w) {g : Nat} (hg : B ≤ g) (v0 v1 v2 v3 v4 v5 v6 v7 : Value) : Below B w0 (st8 w g v0 v1 v2 v3 v4 v5 v6 v7) := by
  have k := st8_grown w g v0 v1 v2 v3 v4 v5 v6 v7
  exact ⟨k.os.trans h.os, k.tape.trans h.tape, k.output.trans h.output, Nat.le_trans h.size k.size, fun q hq => by rw [st8_other _ _ _ _ _ _ _ _ _ _ (by omega)]; exact h.block q hq⟩
theorem setCell_size (w : World) (p : Addr) (v : Value) : (w.setCell p v).heap.size = w.heap.size := by simp [World.setCell]
theorem st8_size (w : World) (g : Nat) (v0 v1 v2 v3 v4 v5 v6 v7 : Value) : (st8 w g v0 v1 v2 v3 v4 v5 v6 v7).heap.size = w.heap.size := by
  unfold st8
  rw [setCell_size, setCell_size, setCell_size, setCell_size, setCell_size, setCell_size, setCell_size, setCell_size]
end Go.Proofs.YtdpfgfkoboihcaaDoor
