/-
  Lists made at once and filled.
-/
import Derived.Test.YtinfbmnimkcdjaaVlC
import Derived.Deep.DeepCutAuto
namespace Go.Proofs.Ytinfbmnimkcdjaa
open Go.RowKit
set_option maxRecDepth 100000
set_option linter.unusedVariables false
set_option linter.unusedSimpArgs false

theorem nr0 (w : World) : NR w n0 := ⟨.slice none 0 0, rfl, by
  rw [show dig L32 n0.z.natAbs = [] from by simp [n0, dig_zero]]
  exact ⟨none, 0, rfl, Nat.le_refl _, Nat.zero_le _, fun _ => rfl, fun i hi => absurd hi (Nat.not_lt_zero _)⟩, lt_pow_more (k := 0) (k' := 600) (by decide) (by decide)⟩
def v0 : VU := ⟨0, n0, false, none, 0, 0, .I 0⟩
theorem vr0 (w : World) : VR w v0 := ⟨rfl, rfl, nr0 w, rfl, rfl, rfl, rfl⟩
section
variable {α : Type} {E : El α}
theorem made_flat (E : El α) (a : α) (ha : E.f a = E.z.cells.toList) (n : Nat) : (madeCells E.z.cells (n * E.n)).toList = (List.replicate n a).flatMap E.f := by
  apply List.ext_getElem?
  intro j
  have hp := E.pos
  have hl := flat_lenV E.f E.len (List.replicate n a)
  rw [List.length_replicate] at hl
  by_cases hj : j < n * E.n
  · have hi : j / E.n < n := (Nat.div_lt_iff_lt_mul hp).2 hj
    have hm : j % E.n < E.n := Nat.mod_lt _ hp
    have hd : j / E.n * E.n + j % E.n = j := by rw [Nat.mul_comm]; exact Nat.div_add_mod j E.n
    have h1 := flat_atV E.f E.len (List.replicate n a) (j / E.n) (j % E.n) (by simpa using hi) hm
    rw [hd, List.getElem_replicate, ha] at h1
    rw [h1]
    have hms : j % E.z.cells.size < E.z.cells.size := Nat.mod_lt _ (by rw [E.zs]; exact hp)
    rw [Array.getElem?_toList]
    simp only [madeCells, Array.getElem?_map, Array.getElem?_range, hj, if_true, Option.map_some]
    rw [getElem!_pos E.z.cells _ hms]
    simp only [← E.zs]
    simp
  · rw [List.getElem?_eq_none (by simp [size_madeCells]; omega), List.getElem?_eq_none (by rw [hl]; omega)]
/-- make([]T, n): n zero values. -/
theorem wpList_make_El (E : El α) (a0 : α) (ha : E.f a0 = E.z.cells.toList) (hR : ∀ w, E.R w a0) (w : World) {ops : Array Oper} {rest : List Oper} {o : Oper} {a : Act} {Q : Exit → Act → World → Prop}
    (hg : o.guard = none) (l c : Operand) (hop : o.op = Op.makeSlice E.t l c) (B : Nat) (kl kc : IntKind) (L C : Int) (n : Nat) (hl : a.eval l = .int kl L) (hc : a.eval c = .int kc C) (hL : L = (n : Int)) (hC : C = (n : Int)) (hn : n ≤ 1000000) (hB : B ≤ w.heap.size)
    (hK : ∀ w', E.Row w' B (.slice (some ⟨w.heap.size, 0, none⟩) n n) (List.replicate n a0) → Below w.heap.size w w' → wpList Try.prog ops Q rest (a.put o.dst (.slice (some ⟨w.heap.size, 0, none⟩) n n)) w') :
    wpList Try.prog ops Q (o :: rest) a w := by
  obtain ⟨i, hi, hz, hz1, hz2⟩ := info_parts E.info
  have hby := E.by_
  refine wpList_make_full w hg l c E.t hop B E.e i E.z E.n E.ht hi hz hz1 kl kc L C n hl hc hL hC (by rw [hz2]; exact Nat.le_trans (Nat.mul_le_mul hby hn) (by decide)) (by unfold maxLen; omega) hB ?_
  intro w' h1 h2
  have h3 := h1
  rw [made_flat E a0 ha] at h3
  refine hK w' ⟨?_, ?_, ?_⟩ ⟨h2.os, h2.tape, h2.output, h2.size, fun k hk => h2.block k hk (by intro e; cases e)⟩
  · rw [List.length_replicate]; exact h3
  · intro g hg
    rcases h1.2 with ⟨h, _⟩ | ⟨q, cap, cur, hv, _, hq, _, _, hcs, htk⟩
    · cases h
    · injection hv with e1 e2 e3
      injection e1 with e1
      subst e3
      injection hg with hg
      have hqg : q = g := by rw [← hg, e1]
      subst hqg
      refine ⟨cur, hq, ?_⟩
      rw [List.take_of_length_le (by rw [Array.length_toList, hcs]; exact Nat.le_refl _), made_flat E a0 ha] at htk
      rw [htk]
      exact N32.flat E.n32
  · intro q hq
    rw [List.eq_of_mem_replicate hq]
    exact hR w'
theorem set_flat2 (l : List NU) (i : Nat) (a : NU) (hi : i < l.length) : ((l.flatMap nC).set (i * 2) (.bool (decide (a.z < 0)))).set (i * 2 + 1) (.slice a.o a.l a.c) = (l.set i a).flatMap nC := by
  induction l generalizing i with
  | nil => simp at hi
  | cons b l ih =>
    cases i with
    | zero => rfl
    | succ i =>
      have h1 := ih i (by simpa using hi)
      simp only [List.flatMap_cons, nC, List.cons_append, List.nil_append, List.set_cons_succ, Nat.add_mul, Nat.one_mul, show i * 2 + 2 = i * 2 + 1 + 1 from rfl, show i * 2 + 1 + 1 + 1 = (i * 2 + 1) + 1 + 1 from rfl]
      rw [← h1]
theorem set_flat5 (l : List VU) (i : Nat) (u : VU) (hi : i < l.length) : (((((l.flatMap vC).set (i * 5) (.int .i64 u.k)).set (i * 5 + 1) (.bool (decide (u.n.z < 0)))).set (i * 5 + 2) (.slice u.n.o u.n.l u.n.c)).set (i * 5 + 3) (.bool u.b)).set (i * 5 + 4) (.slice u.lo u.ll u.lc) = (l.set i u).flatMap vC := by
  induction l generalizing i with
  | nil => simp at hi
  | cons b l ih =>
    cases i with
    | zero => rfl
    | succ i =>
      have h1 := ih i (by simpa using hi)
      simp only [List.flatMap_cons, vC, List.cons_append, List.nil_append, List.set_cons_succ, Nat.add_mul, Nat.one_mul, show i * 5 + 5 = i * 5 + 1 + 1 + 1 + 1 + 1 from rfl, show i * 5 + 1 + 1 + 1 + 1 + 1 + 1 = (i * 5 + 1) + 1 + 1 + 1 + 1 + 1 from rfl, show i * 5 + 1 + 1 + 1 + 1 + 1 + 2 = (i * 5 + 2) + 1 + 1 + 1 + 1 + 1 from rfl, show i * 5 + 1 + 1 + 1 + 1 + 1 + 3 = (i * 5 + 3) + 1 + 1 + 1 + 1 + 1 from rfl, show i * 5 + 1 + 1 + 1 + 1 + 1 + 4 = (i * 5 + 4) + 1 + 1 + 1 + 1 + 1 from rfl]
      rw [← h1]
theorem n32_set {c : Array Value} (h : N32 c.toList) (i : Nat) {v : Value} (hv : ∀ z, v ≠ .int .u32 z) : N32 (c.setIfInBounds i v).toList := by
  intro u hu
  rw [Array.toList_setIfInBounds] at hu
  rcases List.mem_or_eq_of_mem_set hu with hu | rfl
  · exact h u hu
  · exact hv
/-- One element is written: the cells one by one. -/
theorem El.Row.put {w : World} {B g n kc : Nat} {el : List α} (h : E.Row w B (.slice (some ⟨g, 0, none⟩) n kc) el) {w' : World} (i : Nat) (a : α) (hg : w.grownBy w' (some g)) (hown : w'.ownsRow B E.e E.n (.slice (some ⟨g, 0, none⟩) n kc) n ((el.set i a).flatMap E.f))
    (h32 : ∃ c, w'.heap[g]? = some (.cells c E.e (0, 0)) ∧ N32 c.toList) (hn : n = el.length) (ha : E.R w a) : E.Row w' B (.slice (some ⟨g, 0, none⟩) n kc) (el.set i a) ∧ Fr E.e w w' := by
  have f : Fr E.e w w' := .of_grown hg (fun q hq => by injection hq with hq; subst hq; exact h.n32 g rfl)
  refine ⟨⟨by rw [List.length_set, ← hn]; exact hown, fun q hq => ?_, fun q hq => ?_⟩, f⟩
  · injection hq with hq; subst hq; exact h32
  · rcases List.mem_or_eq_of_mem_set hq with hq | rfl
    · exact E.fr E.own f (h.rd q hq)
    · exact E.fr E.own f ha
end
theorem Row.set2 {w : World} {B g n kc : Nat} {el : List NU} (h : nE.Row w B (.slice (some ⟨g, 0, none⟩) n kc) el) (i : Nat) (hi : i < el.length) (hn : n = el.length) (a : NU) (ha : NR w a) :
    nE.Row ((w.setCell ⟨g, i * 2, none⟩ (.bool (decide (a.z < 0)))).setCell ⟨g, i * 2 + 1, none⟩ (.slice a.o a.l a.c)) B (.slice (some ⟨g, 0, none⟩) n kc) (el.set i a) ∧ Fr nE.e w ((w.setCell ⟨g, i * 2, none⟩ (.bool (decide (a.z < 0)))).setCell ⟨g, i * 2 + 1, none⟩ (.slice a.o a.l a.c)) ∧ w.grownBy ((w.setCell ⟨g, i * 2, none⟩ (.bool (decide (a.z < 0)))).setCell ⟨g, i * 2 + 1, none⟩ (.slice a.o a.l a.c)) (some g) := by
  have hg : w.grownBy ((w.setCell ⟨g, i * 2, none⟩ (.bool (decide (a.z < 0)))).setCell ⟨g, i * 2 + 1, none⟩ (.slice a.o a.l a.c)) (some g) := by
    refine grown_setCell ?_ _
    refine grown_setCell ?_ _
    exact World.grownBy.refl _ _
  have h0 := h.own
  rw [← hn] at h0
  have h1 := (World.ownsRow.stored (World.ownsRow.stored h0 (i * 2) (.bool (decide (a.z < 0)))).1 (i * 2 + 1) (.slice a.o a.l a.c)).1
  have h2 := set_flat2 el i a hi
  have e : nE.f = nC := rfl
  rw [e, h2] at h1
  obtain ⟨c, hc, h32⟩ := h.n32 g rfl
  obtain ⟨q1, q2⟩ := h.put i a hg h1 ⟨_, heap_setCell_same _ g _ _ _ _ (heap_setCell_same _ g _ _ _ _ hc), n32_set (n32_set h32 _ (by intro z e; cases e)) _ (by intro z e; cases e)⟩ hn ha
  exact ⟨q1, q2, hg⟩
theorem Row.set5 {w : World} {B g n kc : Nat} {el : List VU} (h : vE.Row w B (.slice (some ⟨g, 0, none⟩) n kc) el) (i : Nat) (hi : i < el.length) (hn : n = el.length) (u : VU) (ha : VR w u) {w' : World}
    (hw : w' = ((((w.setCell ⟨g, i * 5, none⟩ (.int .i64 u.k)).setCell ⟨g, i * 5 + 1, none⟩ (.bool (decide (u.n.z < 0)))).setCell ⟨g, i * 5 + 2, none⟩ (.slice u.n.o u.n.l u.n.c)).setCell ⟨g, i * 5 + 3, none⟩ (.bool u.b)).setCell ⟨g, i * 5 + 4, none⟩ (.slice u.lo u.ll u.lc)) :
    vE.Row w' B (.slice (some ⟨g, 0, none⟩) n kc) (el.set i u) ∧ Fr vE.e w w' ∧ w.grownBy w' (some g) := by
  have hg : w.grownBy w' (some g) := by
    rw [hw]
    refine grown_setCell ?_ _
    refine grown_setCell ?_ _
    refine grown_setCell ?_ _
    refine grown_setCell ?_ _
    refine grown_setCell ?_ _
    exact World.grownBy.refl _ _
  have h0 := h.own
  rw [← hn] at h0
  have h1 := (World.ownsRow.stored (World.ownsRow.stored (World.ownsRow.stored (World.ownsRow.stored (World.ownsRow.stored h0 (i * 5) (.int .i64 u.k)).1 (i * 5 + 1) (.bool (decide (u.n.z < 0)))).1 (i * 5 + 2) (.slice u.n.o u.n.l u.n.c)).1 (i * 5 + 3) (.bool u.b)).1 (i * 5 + 4) (.slice u.lo u.ll u.lc)).1
  have h2 := set_flat5 el i u hi
  have e : vE.f = vC := rfl
  rw [e, h2, ← hw] at h1
  obtain ⟨c, hc, h32⟩ := h.n32 g rfl
  have hc' := heap_setCell_same _ g (i * 5 + 4) _ _ (.slice u.lo u.ll u.lc) (heap_setCell_same _ g (i * 5 + 3) _ _ (.bool u.b) (heap_setCell_same _ g (i * 5 + 2) _ _ (.slice u.n.o u.n.l u.n.c) (heap_setCell_same _ g (i * 5 + 1) _ _ (.bool (decide (u.n.z < 0))) (heap_setCell_same _ g (i * 5) _ _ (.int .i64 u.k) hc))))
  rw [← hw] at hc'
  obtain ⟨q1, q2⟩ := h.put i u hg h1 ⟨_, hc', n32_set (n32_set (n32_set (n32_set (n32_set h32 _ (by intro z e; cases e)) _ (by intro z e; cases e)) _ (by intro z e; cases e)) _ (by intro z e; cases e)) _ (by intro z e; cases e)⟩ hn ha
  exact ⟨q1, q2, hg⟩
end Go.Proofs.Ytinfbmnimkcdjaa
