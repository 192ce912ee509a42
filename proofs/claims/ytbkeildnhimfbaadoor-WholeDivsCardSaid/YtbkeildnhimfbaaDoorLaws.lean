/-
  Laws of the walk for slices of numbers: make, copy, append, as the notions of the base say it. Over any program.
-/
import Derived.Test.YtbkeildnhimfbaaDoorBase
import Derived.Laws.CopyOwn
import Derived.Laws.AppendOwnNone
namespace Go.Proofs.YtbkeildnhimfbaaDoor
open Go.RowKit
set_option maxRecDepth 100000

theorem heap_of_owns {w : World} {base : Nat} {e : TypeId} {g n cap : Nat} {xs : List Value} (h : w.ownsRow base e 1 (.slice (some ⟨g, 0, none⟩) n cap) n xs) (hn : n = cap) : w.heap[g]? = some (.cells xs.toArray e (0, 0)) := by
  obtain ⟨hl, h2⟩ := h
  rcases h2 with ⟨e1, _⟩ | ⟨g', cap', cur, e1, _, hg, _, _, hs, ht⟩
  · cases e1
  · injection e1 with e1 e2 e3
    injection e1 with e1
    injection e1 with e1
    subst e1; subst e3; subst hn
    rw [hg, ← ht, Nat.mul_one]
    congr 2
    rw [List.take_of_length_le (by simp [hs])]

/-- 'make([]T, n)': a new block of n zeros. -/
theorem wpList_make_blk {P : Program} (w : World) {ops : Array Oper} {rest : List Oper} {o : Oper} {a : Act} {Q : Exit → Act → World → Prop}
    (hg : o.guard = none) (l c : Operand) (t : TypeId) (hop : o.op = Op.makeSlice t l c)
    (e : TypeId) (i : TypeInfo) (k : IntKind) (h1 : P.underlying t = some (.slice e)) (h2 : P.info? e = some i) (h3 : i.zero = some (.int k 0)) (h4 : i.size = 1)
    (kl kc : IntKind) (L C : Int) (n : Nat) (hl : a.eval l = .int kl L) (hc : a.eval c = .int kc C) (hL : L = (n : Int)) (hC : C = (n : Int)) (b2 : i.bytes ≤ 8) (b3 : n ≤ 35184372088832)
    (hK : ∀ w', Blk w' w.heap.size k e (List.replicate n 0) → Below w.heap.size w w' → w.heap.size < w'.heap.size → wpList P ops Q rest (a.put o.dst (.slice (some ⟨w.heap.size, 0, none⟩) n n)) w') :
    wpList P ops Q (o :: rest) a w := by
  have hb : i.bytes * n ≤ 281474976710656 := Nat.le_trans (Nat.mul_le_mul b2 b3) (by omega)
  refine wpList_make_full w hg l c t hop w.heap.size e i (.int k 0) 1 h1 h2 h3 h4 kl kc L C n hl hc hL hC hb (by unfold maxLen; omega) (Nat.le_refl _) ?_
  intro w' ho hgr
  have hh := heap_of_owns ho rfl
  have hB : Blk w' w.heap.size k e (List.replicate n 0) := by
    unfold Blk
    rw [hh]
    have : (madeCells (Value.cells (.int k 0)) (n * 1)).toList = List.replicate n (.int k 0) := by
      rw [Nat.mul_one]; exact toList_madeCells_one _ _
    rw [this]
    simp
  exact hK w' hB ⟨hgr.os, hgr.tape, hgr.output, hgr.size, fun j hj => hgr.block j hj (by simp)⟩ hB.lt

theorem cells_of_sl {w : World} {k : IntKind} {sp : Option Addr} {n c : Nat} {xs : List Nat} (h : Sl w k (.slice sp n c) xs) (m : Nat) (hm : m ≤ xs.length) (h0 : 0 < m) :
    ∃ ad, sp = some ad ∧ ∀ j v, ((xs.take m).map fun (x : Nat) => Value.int k ((x : Nat) : Int))[j]? = some v → w.cell? (ad.add j) = some v := by
  obtain ⟨ao, cap, e, h1, h2, h3, h4⟩ := h
  injection e with e1 e2 e3
  subst e1
  obtain ⟨a, rfl, _⟩ := h4 0 (by omega)
  refine ⟨a, rfl, fun j v hj => ?_⟩
  have hjl : j < m := by
    have := (List.getElem?_eq_some_iff.1 hj).1
    simp at this; omega
  obtain ⟨b, e, q⟩ := h4 j (by omega)
  injection e with e; subst e
  rw [q, ← hj]
  simp [hjl, nth_eq (show j < xs.length by omega), show j < xs.length by omega]

theorem sl_len {w : World} {k : IntKind} {sp : Option Addr} {n c : Nat} {xs : List Nat} (h : Sl w k (.slice sp n c) xs) : n = xs.length := by
  obtain ⟨ao, cap, e, _⟩ := h
  injection e

theorem ints_one (k : IntKind) (xs : List Nat) : ∀ u ∈ (xs.map fun (x : Nat) => Value.int k ((x : Nat) : Int)), u.oneCell' = true := by
  intro u hu
  obtain ⟨x, _, rfl⟩ := List.mem_map.1 hu
  rfl

/-- 'copy(dst, src)' into a whole block, of a source that is no longer. -/
theorem wpList_copy_blk {P : Program} {w : World} {ops : Array Oper} {rest : List Oper} {o : Oper} {a : Act} {Q : Exit → Act → World → Prop} (hgd : o.guard = none) (d s : Operand) (dT sT : TypeId)
    (ho : o.op = .call { callee := .builtin .copy, args := #[d, s], argTypes := #[dT, sT] }) (elem : TypeId) (hu : P.underlying dT = some (.slice elem)) (hsz : (P.info? elem).map (·.size) = some 1)
    (g n dCap : Nat) (sp : Option Addr) (sLen sCap : Nat) (hd : a.eval d = .slice (some ⟨g, 0, none⟩) n dCap) (hs : a.eval s = .slice sp sLen sCap)
    (k : IntKind) (T : TypeId) (l xs : List Nat) (hB : Blk w g k T l) (hn : n = l.length) (hx : Sl w k (.slice sp sLen sCap) xs) (hle : xs.length ≤ n)
    (B : Nat) (w0 : World) (hb : Below B w0 w) (hBg : B ≤ g)
    (h : ∀ w', Blk w' g k T (xs ++ l.drop xs.length) → Below B w0 w' → wpList P ops Q rest (a.put o.dst (.int .i64 xs.length)) w') :
    wpList P ops Q (o :: rest) a w := by
  have hsl := sl_len hx
  have hmin : Nat.min sLen n = xs.length := by rw [hsl]; exact Nat.min_eq_left hle
  refine wpList_copy_splice hgd d s dT sT ho elem hu hsz (some ⟨g, 0, none⟩) sp n dCap sLen sCap hd hs g 0 (l.map fun (x : Nat) => Value.int k ((x : Nat) : Int)) T hB (xs.map fun (x : Nat) => Value.int k ((x : Nat) : Int)) (by rw [hmin]; simp) ?_ (by simp; omega) (ints_one k xs) B w0 hb hBg ?_
  · intro h0
    refine ⟨rfl, ?_⟩
    have := cells_of_sl hx xs.length (Nat.le_refl _) (by simpa using h0)
    rwa [List.take_length] at this
  · intro w' hh hb'
    have := h w' (by
      unfold Blk
      rw [hh.out]
      congr 2
      simp [splice]) hb'
    simpa [goInt] using this

/-- The slice value v, made by the call itself (its block lies from base on), owns its cells and reads as xs. -/
def Ow (w : World) (base : Nat) (k : IntKind) (T : TypeId) (v : Value) (xs : List Nat) : Prop :=
  w.ownsRow base T 1 v xs.length (xs.map fun (x : Nat) => Value.int k ((x : Nat) : Int))

theorem Ow.nil (w : World) (base : Nat) (k : IntKind) (T : TypeId) : Ow w base k T (.slice none 0 0) [] := World.ownsRow_nil w base T 1
theorem Ow.alloc {w : World} {base : Nat} {k : IntKind} {T : TypeId} {v : Value} {xs : List Nat} (h : Ow w base k T v xs) (o : Obj) : Ow (w.alloc o) base k T v xs := World.ownsRow.alloc h o
theorem Ow.drewN {w : World} {base : Nat} {k : IntKind} {T : TypeId} {v : Value} {xs : List Nat} (h : Ow w base k T v xs) (n : Nat) : Ow (w.drewN n) base k T v xs := h

theorem Ow.sl {w : World} {base : Nat} {k : IntKind} {T : TypeId} {v : Value} {xs : List Nat} (h : Ow w base k T v xs) : Sl w k v xs := by
  have h' := h
  obtain ⟨h1, h2⟩ := h
  rcases h2 with ⟨rfl, h2⟩ | ⟨g, cap, cur, rfl, hb, hg, hn, hm, hs, ht⟩
  · have : xs = [] := List.eq_nil_of_length_eq_zero h2
    subst this
    exact Sl.nil _ _
  · refine ⟨some ⟨g, 0, none⟩, cap, rfl, hn, by unfold maxLen at hm; omega, (fun e => by cases e), fun i hi => ⟨_, rfl, ?_⟩⟩
    rw [addr_at, Nat.zero_add, World.ownsRow.cellAt h' i (by omega)]
    simp [hi, nth_eq hi]

theorem Ow.base_le {w : World} {base : Nat} {k : IntKind} {T : TypeId} {v : Value} {xs : List Nat} (h : Ow w base k T v xs) : ∀ j, v.ownBlock = some j → base ≤ j := fun j hj => (World.ownsRow.lt h j hj).1

/-- What is owned stays owned where only blocks below base, and new ones, change: here: nothing below the heap's size changes. -/
theorem Ow.below {w w' : World} {base : Nat} {k : IntKind} {T : TypeId} {v : Value} {xs : List Nat} (h : Ow w base k T v xs) (hb : Below w.heap.size w w') : Ow w' base k T v xs :=
  World.ownsRow.kept h ⟨hb.os, hb.tape, hb.output, hb.size, fun j hj _ => hb.block j hj⟩ (by cases hv : v.ownBlock with | none => exact .inl rfl | some g => exact .inr (show some g ≠ none by simp))

/-- 'append(out, x)' of one number. -/
theorem wpList_append_one {P : Program} (w : World) {ops : Array Oper} {rest : List Oper} {o : Oper} {a : Act} {Q : Exit → Act → World → Prop} (hgd : o.guard = none) (s x : Operand) (t : TypeId)
    (ho : o.op = .call { callee := .builtin .append, args := #[s, x], argTypes := #[t, t] })
    (e : TypeId) (i : TypeInfo) (k : IntKind) (ht : P.underlying t = some (.slice e)) (hi : P.info? e = some i) (hz : i.zero = some (.int k 0)) (hsize : i.size = 1) (hby : i.bytes ≤ 8)
    (base : Nat) (v : Value) (xs : List Nat) (hs : a.eval s = v) (hown : Ow w base k e v xs)
    (h : Nat) (z : Int) (n : Nat) (hx : a.eval x = .slice (some ⟨h, 0, none⟩) 1 1) (hc : w.cell? ⟨h, 0, none⟩ = some (.int k z)) (hzn : z = (n : Int))
    (hlen : xs.length ≤ 1000000000) (hbase : base ≤ w.heap.size)
    (hK : ∀ v' w', Ow w' base k e v' (xs ++ [n]) → Below base w w' → wpList P ops Q rest (a.put o.dst v') w') : wpList P ops Q (o :: rest) a w := by
  have hb2 : (xs.length + 1) * i.bytes ≤ 140737488355328 := Nat.le_trans (Nat.mul_le_mul (show xs.length + 1 ≤ 1000000001 by omega) hby) (by omega)
  refine wpList_append_own w hgd s x t ho base e i (.int k 0) 1 i.bytes ht hi hz hsize rfl rfl (by decide) v xs.length _ hs hown ⟨h, 0, none⟩ 1 1 [.int k z] hx rfl ?_ ?_ (by unfold maxLen; omega) hb2 hbase ?_
  · intro j u hj
    match j, hj with
    | 0, hj => simp at hj; subst hj; simpa [Addr.add] using hc
  · intro u hu; simp at hu; subst hu; rfl
  · intro v' w' h1 h2 _
    refine hK v' w' ?_ ⟨h2.os, h2.tape, h2.output, h2.size, fun j hj => h2.block j (by omega) (fun e' => ?_)⟩
    · unfold Ow
      have : (xs ++ [n]).map (fun (x : Nat) => Value.int k ((x : Nat) : Int)) = xs.map (fun (x : Nat) => Value.int k ((x : Nat) : Int)) ++ [.int k z] := by rw [hzn]; simp
      rw [this, List.length_append]
      exact h1
    · have := hown.base_le j e'.symm
      omega

end Go.Proofs.YtbkeildnhimfbaaDoor
