/-
  Values in memory: numbers, lists of numbers, values, lists of values, lists of these; what a growing list leaves as it was.
-/
import Derived.Test.YtinfbmnimkcdjaaKWhoF
import Derived.Test.YtinfbmnimkcdjaaRel7
import Derived.OwnWalk
import Derived.Laws.OwnMore
import Derived.Deep.AppendLies
import Derived.Deep.DrawnRows
namespace Go.Proofs.Ytinfbmnimkcdjaa
open Go.RowKit
set_option maxRecDepth 100000
set_option linter.unusedVariables false
set_option linter.unusedSimpArgs false

theorem add_blockV (a : Addr) (i : Nat) : (a.add i).block = a.block := by unfold Addr.add; split <;> rfl
theorem add_litV (g o i : Nat) : (⟨g, o, none⟩ : Addr).add i = ⟨g, o + i, none⟩ := by simp [Addr.add]
theorem add_addV (a : Addr) (i j : Nat) : (a.add i).add j = a.add (i + j) := addr_add_add a i j

/-- No limb among the values. -/
def N32 (l : List Value) : Prop := ∀ u ∈ l, ∀ z, u ≠ .int .u32 z
theorem below_grownV {w w' : World} (h : Below w.heap.size w w') (row : Option Nat) : w.grownBy w' row := ⟨h.os, h.tape, h.output, h.size, fun k hk _ => h.block k hk⟩
theorem N32.app {a b : List Value} (h : N32 a) (k : N32 b) : N32 (a ++ b) := fun u hu => by
  rcases List.mem_append.1 hu with hu | hu
  · exact h u hu
  · exact k u hu
theorem N32.take {a : List Value} (h : N32 a) (n : Nat) : N32 (a.take n) := fun u hu => h u (List.mem_of_mem_take hu)
theorem N32.drop {a : List Value} (h : N32 a) (n : Nat) : N32 (a.drop n) := fun u hu => h u (List.mem_of_mem_drop hu)
theorem N32.zeros {c : Array Value} (h : N32 c.toList) (n : Nat) : N32 (Builtin.zeroCells c n).toList := by
  intro u hu
  unfold Builtin.zeroCells at hu
  rw [Array.mem_toList_iff, Array.mem_map] at hu
  obtain ⟨i, hi, rfl⟩ := hu
  rw [Array.mem_range] at hi
  have h0 : 0 < c.size := by
    rcases Nat.eq_zero_or_pos c.size with h0 | h0
    · rw [h0] at hi; omega
    · exact h0
  have hl := Nat.mod_lt i h0
  rw [getElem!_pos c _ hl]
  exact h _ (Array.mem_toList_iff.2 (Array.getElem_mem hl))
theorem N32.flat {α : Type} {f : α → List Value} {l : List α} (h : ∀ a, N32 (f a)) : N32 (l.flatMap f) := fun u hu => by
  obtain ⟨a, _, ha⟩ := List.mem_flatMap.1 hu
  exact h a u ha

/-- What writing into a block of type e (which holds no limbs) leaves. -/
structure Fr (e : TypeId) (w w' : World) : Prop where
  block : ∀ (g : Nat) (c : Array Value) (T : TypeId), w.heap[g]? = some (.cells c T (0, 0)) → T ≠ e → w'.heap[g]? = some (.cells c T (0, 0))
  num : ∀ (a : Addr) (z : Int), w.cell? a = some (.int .u32 z) → w'.cell? a = some (.int .u32 z)
theorem Fr.refl (e : TypeId) (w : World) : Fr e w w := ⟨fun _ _ _ h _ => h, fun _ _ h => h⟩
theorem Fr.trans {e : TypeId} {a b c : World} (h : Fr e a b) (k : Fr e b c) : Fr e a c := ⟨fun g x T hg hT => k.block g x T (h.block g x T hg hT) hT, fun p z hp => k.num p z (h.num p z hp)⟩
theorem Fr.of_below {e : TypeId} {w w' : World} (h : Below w.heap.size w w') : Fr e w w' :=
  ⟨fun g c T hg _ => by rw [h.block g (lt_of_block hg)]; exact hg, fun a z hc => by rw [h.cell (World.block_lt_of_cell? w a hc)]; exact hc⟩
theorem cell_n32 {w : World} {g : Nat} {c : Array Value} {T : TypeId} {fz : Nat × Nat} (h : w.heap[g]? = some (.cells c T fz)) (h32 : N32 c.toList) {a : Addr} (ha : a.block = g) (z : Int) : w.cell? a ≠ some (.int .u32 z) := by
  intro hc
  unfold World.cell? at hc
  rw [ha, h] at hc
  simp only at hc
  split at hc
  · cases hc
  · exact h32 _ (Array.mem_toList_iff.2 (Array.mem_of_getElem? hc)) z rfl
theorem Fr.of_grown {e : TypeId} {w w' : World} {r : Option Nat} (hg : w.grownBy w' r) (hr : ∀ g, r = some g → ∃ c, w.heap[g]? = some (.cells c e (0, 0)) ∧ N32 c.toList) : Fr e w w' :=
  ⟨fun g x T hx hT => by
    rw [hg.block g (lt_of_block hx) (fun h => by
      obtain ⟨c, hc, -⟩ := hr g h.symm
      rw [hx] at hc; injection hc with hc; injection hc with _ hc; exact hT hc)]; exact hx,
   fun a z hc => by
    refine hg.cell hc (fun h => ?_)
    obtain ⟨c, hcc, h32⟩ := hr _ h.symm
    exact cell_n32 hcc h32 rfl z hc⟩
theorem Fr.set {e : TypeId} {w : World} {g : Nat} {c : Array Value} (h : w.heap[g]? = some (.cells c e (0, 0))) (h32 : N32 c.toList) (i : Nat) (x : Value) : Fr e w (w.setCell ⟨g, i, none⟩ x) :=
  .of_grown (r := some g) (grown_setCell (World.grownBy.refl _ _) _) (fun _ h' => by injection h' with h'; subst h'; exact ⟨c, h, h32⟩)

theorem Sl.fr {e : TypeId} {w w' : World} {v : Value} {xs : List Nat} (h : Sl w .u32 v xs) (k : Fr e w w') : Sl w' .u32 v xs := by
  obtain ⟨ao, cap, e1, h1, h2, h3, h4⟩ := h
  refine ⟨ao, cap, e1, h1, h2, h3, fun i hi => ?_⟩
  obtain ⟨a, ha, hc⟩ := h4 i hi
  exact ⟨a, ha, k.num _ _ hc⟩
theorem CI.fr {e : TypeId} {w w' : World} {v : Value} {z : Int} {k : Nat} (h : CI w v z k) (f : Fr e w w') : CI w' v z k := by
  obtain ⟨va, h1, h2, h3⟩ := h
  exact ⟨va, h1, h2.fr f, h3⟩
theorem CI.mono {w : World} {v : Value} {z : Int} {k k' : Nat} (h : CI w v z k) (hk : k ≤ k') : CI w v z k' := by
  obtain ⟨va, h1, h2, h3⟩ := h
  exact ⟨va, h1, h2, lt_pow_more h3 hk⟩

/-- Elements of a list: their cells, and what of them lies elsewhere. -/
structure El (α : Type) where
  e : TypeId
  t : TypeId
  n : Nat
  b : Nat
  z : Value
  f : α → List Value
  R : World → α → Prop
  ok : TypeId → Prop
  pos : 0 < n
  by_ : b ≤ 1000
  zs : z.cells.size = n
  z32 : N32 z.cells.toList
  ht : Try.prog.underlying t = some (.slice e)
  info : (Try.prog.info? e).map (fun i => (i.zero, i.size, i.bytes)) = some (some z, n, b)
  len : ∀ a, (f a).length = n
  one : ∀ a, ∀ u ∈ f a, u.oneCell' = true
  n32 : ∀ a, N32 (f a)
  fr : ∀ {e' : TypeId} {w w' : World} {a : α}, ok e' → Fr e' w w' → R w a → R w' a
  own : ok e
section
variable {α : Type} (E : El α)
theorem El.below {w w' : World} {a : α} (h : E.R w a) (hb : Below w.heap.size w w') : E.R w' a := E.fr E.own (Fr.of_below hb) h

theorem flat_atV {α : Type} {n : Nat} (f : α → List Value) (hf : ∀ a, (f a).length = n) : ∀ (l : List α) (i j : Nat) (hi : i < l.length), j < n → (l.flatMap f)[i * n + j]? = (f l[i])[j]? := by
  intro l
  induction l with
  | nil => intro i j hi; simp at hi
  | cons a l ih =>
    intro i j hi hj
    rw [List.flatMap_cons]
    cases i with
    | zero => rw [Nat.zero_mul, Nat.zero_add, List.getElem?_append_left (by rw [hf]; exact hj)]; rfl
    | succ i =>
      rw [List.getElem?_append_right (by rw [hf, Nat.add_mul]; omega), hf, show (i + 1) * n + j - n = i * n + j by rw [Nat.add_mul]; omega, List.getElem_cons_succ]
      exact ih i j (by simpa using hi) hj
theorem flat_lenV {α : Type} {n : Nat} (f : α → List Value) (hf : ∀ a, (f a).length = n) : ∀ l : List α, (l.flatMap f).length = l.length * n := by
  intro l
  induction l with
  | nil => simp
  | cons a l ih => rw [List.flatMap_cons, List.length_append, ih, hf, List.length_cons, Nat.add_mul]; omega

/-- A list of the call's own, from block B on, while it grows. -/
structure El.Row (w : World) (B : Nat) (v : Value) (el : List α) : Prop where
  own : w.ownsRow B E.e E.n v el.length (el.flatMap E.f)
  n32 : ∀ g, v.ownBlock = some g → ∃ c, w.heap[g]? = some (.cells c E.e (0, 0)) ∧ N32 c.toList
  rd : ∀ a ∈ el, E.R w a
/-- A list at rest. -/
def El.At (w : World) (v : Value) (el : List α) : Prop := ∃ ko kc, v = .slice ko el.length kc ∧ (el.length ≤ kc ∧ kc ≤ maxLen ∧ (ko = none → kc = 0)) ∧
  ∀ i (h : i < el.length), ∃ a, ko = some a ∧ (∃ c, w.heap[a.block]? = some (.cells c E.e (0, 0))) ∧ (∀ j u, (E.f el[i])[j]? = some u → w.cell? (a.add (i * E.n + j)) = some u) ∧ E.R w el[i]
variable {E}
theorem El.Row.nil (w : World) (B : Nat) : E.Row w B (.slice none 0 0) [] := ⟨World.ownsRow_nil _ _ _ _, fun _ h => (by cases h), fun q h => (by cases h)⟩
theorem El.Row.form {w : World} {B : Nat} {v : Value} {el : List α} (h : E.Row w B v el) : ∃ ko kc, v = .slice ko el.length kc ∧ el.length ≤ kc ∧ kc ≤ maxLen ∧ (ko = none → kc = 0) := by
  rcases h.own.2 with ⟨rfl, h1⟩ | ⟨g, cap, cur, rfl, _, _, h1, h2, _⟩
  · rw [h1]; exact ⟨_, _, rfl, Nat.le_refl _, Nat.zero_le _, fun _ => rfl⟩
  · exact ⟨_, _, rfl, h1, h2, fun h => by cases h⟩
theorem El.Row.ge {w : World} {B : Nat} {v : Value} {el : List α} (h : E.Row w B v el) {j : Nat} (hj : v.ownBlock = some j) : B ≤ j ∧ j < w.heap.size := World.ownsRow.lt h.own j hj
theorem El.Row.below {w w' : World} {B : Nat} {v : Value} {el : List α} (h : E.Row w B v el) (hb : Below w.heap.size w w') : E.Row w' B v el := by
  refine ⟨?_, fun g hg => ?_, fun q hq => E.below (h.rd q hq) hb⟩
  · rcases hr : v.ownBlock with _ | j
    · exact World.ownsRow.kept h.own (below_grownV hb none) (.inl hr)
    · exact World.ownsRow.kept h.own (below_grownV hb none) (.inr (by rw [hr]; intro e; cases e))
  · obtain ⟨c, hc, h32⟩ := h.n32 g hg
    exact ⟨c, by rw [hb.block g (lt_of_block hc)]; exact hc, h32⟩
theorem El.Row.at {w : World} {B : Nat} {v : Value} {el : List α} (h : E.Row w B v el) : E.At w v el := by
  obtain ⟨ko, kc, rfl, h1⟩ := h.form
  refine ⟨ko, kc, rfl, h1, fun i hi => ?_⟩
  rcases h.own.2 with ⟨hv, h0⟩ | ⟨g, cap, cur, hv, _, hg, h2, h3, h4, h5⟩
  · omega
  · injection hv with e1 e2 e3
    subst e1; subst e3
    refine ⟨_, rfl, ⟨cur, hg⟩, fun j u hu => ?_, h.rd _ (List.getElem_mem hi)⟩
    have hj : j < E.n := by have := (List.getElem?_eq_some_iff.1 hu).1; rwa [E.len] at this
    rw [add_litV, Nat.zero_add, World.ownsRow.cellAt h.own (i * E.n + j) (by
      calc i * E.n + j < i * E.n + E.n := by omega
        _ = (i + 1) * E.n := by rw [Nat.add_mul]; omega
        _ ≤ el.length * E.n := Nat.mul_le_mul_right _ hi), flat_atV E.f E.len el i j hi hj]
    exact hu
theorem El.At.nil (w : World) : E.At w (.slice none 0 0) [] := (El.Row.nil w 0).at
theorem El.At.fr {e' : TypeId} {w w' : World} {v : Value} {el : List α} (h : E.At w v el) (hok : E.ok e') (hne : E.e ≠ e') (f : Fr e' w w') : E.At w' v el := by
  obtain ⟨ko, kc, rfl, h1, h2⟩ := h
  refine ⟨ko, kc, rfl, h1, fun i hi => ?_⟩
  obtain ⟨a, ha, ⟨c, hc⟩, h3, h4⟩ := h2 i hi
  have hc' := f.block _ _ _ hc hne
  refine ⟨a, ha, ⟨c, hc'⟩, fun j u hu => ?_, E.fr hok f h4⟩
  rw [World.cell?_of_block (w := w) (by rw [add_blockV, hc, hc'])]
  exact h3 j u hu
theorem El.At.below {w w' : World} {v : Value} {el : List α} (h : E.At w v el) (hb : Below w.heap.size w w') : E.At w' v el := by
  obtain ⟨ko, kc, rfl, h1, h2⟩ := h
  refine ⟨ko, kc, rfl, h1, fun i hi => ?_⟩
  obtain ⟨a, ha, ⟨c, hc⟩, h3, h4⟩ := h2 i hi
  have hc' := hb.block _ (lt_of_block hc)
  refine ⟨a, ha, ⟨c, by rw [hc']; exact hc⟩, fun j u hu => ?_, E.below h4 hb⟩
  rw [World.cell?_of_block (w := w) (by rw [add_blockV, hc'])]
  exact h3 j u hu
/-- A block that holds the elements alone. -/
theorem El.At.block {w : World} {g : Nat} {el : List α} (h : w.heap[g]? = some (.cells (el.flatMap E.f).toArray E.e (0, 0))) (hl : el.length ≤ maxLen) (hR : ∀ a ∈ el, E.R w a) : E.At w (.slice (some ⟨g, 0, none⟩) el.length el.length) el := by
  refine ⟨_, _, rfl, ⟨Nat.le_refl _, hl, fun h => by cases h⟩, fun i hi => ⟨_, rfl, ⟨_, h⟩, fun j u hu => ?_, hR _ (List.getElem_mem hi)⟩⟩
  have hj : j < E.n := by have := (List.getElem?_eq_some_iff.1 hu).1; rwa [E.len] at this
  rw [add_litV, Nat.zero_add, cell_of_row w g _ _ _ _ h, List.getElem?_toArray, flat_atV E.f E.len el i j hi hj]
  exact hu
/-- A part of a list. -/
theorem El.At.sub {w : World} {ko : Option Addr} {n kc : Nat} {el : List α} (h : E.At w (.slice ko n kc) el) {i j : Nat} (hij : i ≤ j) (hj : j ≤ el.length) :
    E.At w (sliced ko i j kc E.n) ((el.drop i).take (j - i)) := by
  obtain ⟨ko', kc', e, ⟨h1, h2, h3⟩, h4⟩ := h
  injection e with e1 e2 e3
  subst e1; subst e3
  have hlen : ((el.drop i).take (j - i)).length = j - i := by simp; omega
  unfold sliced
  refine ⟨if kc = i then ko else ko.map (·.add (i * E.n)), kc - i, by rw [hlen], ⟨by omega, by omega, fun h => ?_⟩, fun q hq => ?_⟩
  · split at h
    · omega
    · cases ko with
      | none => have := h3 rfl; omega
      | some a => cases h
  · have hq' : i + q < el.length := by omega
    obtain ⟨a, rfl, hc, h5, h6⟩ := h4 (i + q) hq'
    have hne : ¬ kc = i := by omega
    have hel : ((el.drop i).take (j - i))[q] = el[i + q] := by rw [List.getElem_take, List.getElem_drop]
    rw [if_neg hne, hel]
    refine ⟨a.add (i * E.n), rfl, by rw [add_blockV]; exact hc, fun p u hu => ?_, h6⟩
    rw [add_addV, show i * E.n + (q * E.n + p) = (i + q) * E.n + p by rw [Nat.add_mul]; omega]
    exact h5 p u hu

/-- The elements' cells, one behind the other. -/
theorem El.At.news {w : World} {a : Addr} {n kc : Nat} {el : List α} (h : E.At w (.slice (some a) n kc) el) : ∀ j u, (el.flatMap E.f)[j]? = some u → w.cell? (a.add j) = some u := by
  intro j u hu
  obtain ⟨ko', kc', e, h1, h4⟩ := h
  injection e with e1 e2 e3
  have hjl : j < el.length * E.n := by have := (List.getElem?_eq_some_iff.1 hu).1; rwa [flat_lenV E.f E.len] at this
  have hp := E.pos
  have hi : j / E.n < el.length := (Nat.div_lt_iff_lt_mul hp).2 hjl
  have hm : j % E.n < E.n := Nat.mod_lt _ hp
  have hd : j / E.n * E.n + j % E.n = j := by rw [Nat.mul_comm]; exact Nat.div_add_mod j E.n
  obtain ⟨b, hb, -, h5, -⟩ := h4 _ hi
  rw [← e1] at hb
  injection hb with hb
  subst hb
  have := h5 (j % E.n) u (by rw [← flat_atV E.f E.len el (j / E.n) (j % E.n) hi hm, hd]; exact hu)
  rwa [hd] at this

/-- Elements are appended. -/
theorem El.Row.run {w : World} {B : Nat} {v x : Value} {el ns : List α} (h : E.Row w B v el) (hx : E.At w x ns) (ty : TypeId) (hlen : el.length + ns.length ≤ 1000000) (hB : B ≤ w.heap.size) :
    ∃ v' w', (Builtin.append_ #[E.t, E.t] ty #[v, x]).run Try.prog w = .ok v' w' ∧ E.Row w' B v' (el ++ ns) ∧ Fr E.e w w' ∧ Below B w w' ∧ w.grownBy w' v.ownBlock := by
  obtain ⟨i, hi, hz, hz1, hz2⟩ := info_parts E.info
  have ht := E.ht
  have hzs := E.zs
  have hbyte := E.by_
  have hsz := E.pos
  rcases x with _ | _ | _ | _ | _ | _ | ⟨ao, m, c⟩ | _ | _ | _ | _ | _ | _ | _ | _ | _ <;> first | (obtain ⟨_, _, e, _⟩ := hx; cases e; done) | skip
  have hm : m = ns.length := by obtain ⟨_, _, e, _⟩ := hx; injection e
  have fin : ∀ v' w', E.Row w' B v' (el ++ ns) → w.grownBy w' v.ownBlock → E.Row w' B v' (el ++ ns) ∧ Fr E.e w w' ∧ Below B w w' ∧ w.grownBy w' v.ownBlock := fun v' w' h1 h2 =>
    ⟨h1, .of_grown h2 h.n32, ⟨h2.os, h2.tape, h2.output, h2.size, fun k hk => h2.block k (by omega) (fun e => by have := (h.ge e.symm).1; omega)⟩, h2⟩
  cases ao with
  | none =>
    have h0 : ns = [] := by
      cases ns with
      | nil => rfl
      | cons a l => obtain ⟨_, _, e, _, h4⟩ := hx; injection e with e1 e2 e3; subst e1; obtain ⟨_, hb, _⟩ := h4 0 (by simp); cases hb
    have hc : c = 0 := by obtain ⟨_, _, e, ⟨_, _, h3⟩, _⟩ := hx; injection e with e1 e2 e3; subst e1; subst e3; exact h3 rfl
    subst h0
    subst hc
    subst hm
    refine ⟨v, w, run_append_owned_none w B E.t ty E.e i E.n ht hi v el.length _ h.own, ?_⟩
    rw [List.append_nil]
    exact ⟨h, Fr.refl _ _, Below.refl _ _, World.grownBy.refl _ _⟩
  | some a =>
    subst hm
    have hnews := hx.news
    have hl := flat_lenV E.f E.len ns
    have h1 : ∀ u ∈ ns.flatMap E.f, u.oneCell' = true := fun u hu => by
      obtain ⟨b, _, hb⟩ := List.mem_flatMap.1 hu
      exact E.one b u hb
    have h32 : N32 (ns.flatMap E.f) := N32.flat E.n32
    have hb2 : (el.length + ns.length) * i.bytes ≤ 140737488355328 := by
      rw [hz2]; exact Nat.le_trans (Nat.mul_le_mul hlen hbyte) (by decide)
    have hmx : el.length + ns.length ≤ maxLen := by unfold maxLen; omega
    obtain ⟨v', w', hr, h2, h3, h4⟩ := run_append_own (P := Try.prog) w B E.t ty E.e i E.z E.n E.b ht hi hz hz1 hz2 hzs hsz v el.length _ h.own a ns.length c _ hl hnews h1 hmx (by rw [← hz2]; exact hb2) hB
    refine ⟨v', w', hr, fin v' w' ⟨?_, ?_, ?_⟩ h3⟩
    · rw [List.length_append, List.flatMap_append]; exact h2
    · rw [← hz1] at hl
      have hown1 : (el.flatMap E.f).length = el.length * i.size := by rw [hz1]; exact h.own.1
      intro g hg
      rcases h.own.2 with ⟨rfl, h0⟩ | ⟨q, cap, cur, rfl, hbg, hgq, hnc, hcm, hcs, htake⟩
      · by_cases hm : ns.length = 0
        · have hnone := h4.2 ⟨rfl, hm⟩
          rw [hnone] at hg; cases hg
        · have hr2 := run_append_nil (P := Try.prog) w E.t ty E.e i E.z ht hi hz a ns.length c _ hl hnews (by omega) (by omega) (by have hb3 := Nat.mul_le_mul_right i.bytes (Nat.le_add_left ns.length el.length); omega)
          rw [hr] at hr2
          injection hr2 with e1 e2
          subst e1 e2
          injection hg with hg
          subst hg
          exact ⟨_, heap_alloc_new w.drew _, by simp only [Array.toList_append, List.toList_toArray]; exact h32.app (N32.zeros E.z32 _)⟩
      · obtain ⟨cc, hcc, hc32⟩ := h.n32 q rfl
        rw [hgq] at hcc
        injection hcc with hcc
        injection hcc with hcc
        subst hcc
        by_cases hroom : el.length + ns.length ≤ cap
        · have hfit : el.length * i.size + (ns.flatMap E.f).length ≤ cur.size := by rw [hl, hcs, ← hz1, ← Nat.add_mul]; exact Nat.mul_le_mul_right _ hroom
          have hr2 := run_append_room (P := Try.prog) w E.t ty E.e i ht hi q el.length cap cur hgq a ns.length c _ hl hnews h1 hroom hfit
          rw [hr] at hr2
          injection hr2 with e1 e2
          subst e1 e2
          injection hg with hg
          subst hg
          exact ⟨_, setRow_heap w q cur _ E.e _ hgq, by simp only [List.toList_toArray]; exact ((hc32.take _).app h32).app (hc32.drop _)⟩
        · have hr2 := run_append_grow (P := Try.prog) w E.t ty E.e i E.z ht hi hz ⟨q, 0, none⟩ el.length cap _ hown1 (h.own.cells (g := q) rfl) a ns.length c _ hl hnews (by omega) (by omega) (growslice_fits (by omega) hb2)
          rw [hr] at hr2
          injection hr2 with e1 e2
          subst e1 e2
          injection hg with hg
          subst hg
          exact ⟨_, heap_alloc_new w.drew _, by simp only [Array.toList_append, List.toList_toArray]; exact ((N32.flat E.n32).app h32).app (N32.zeros E.z32 _)⟩
    · have f : Fr E.e w w' := .of_grown h3 h.n32
      intro q hq
      rcases List.mem_append.1 hq with hq | hq
      · exact E.fr E.own f (h.rd q hq)
      · obtain ⟨k, hk, rfl⟩ := List.getElem_of_mem hq
        obtain ⟨_, _, _, _, h5⟩ := hx
        obtain ⟨_, _, _, _, h6⟩ := h5 k hk
        exact E.fr E.own f h6
theorem El.Row.append {w : World} {B : Nat} {v x : Value} {el ns : List α} (h : E.Row w B v el) {ops : Array Oper} {rest : List Oper} {o : Oper} {a : Act} {Q : Exit → Act → World → Prop} (hgd : o.guard = none) (s y : Operand)
    (ho : o.op = .call { callee := .builtin .append, args := #[s, y], argTypes := #[E.t, E.t] }) (hs : a.eval s = v) (hx : a.eval y = x) (hxs : E.At w x ns) (hlen : el.length + ns.length ≤ 1000000) (hB : B ≤ w.heap.size)
    (hK : ∀ v' w', E.Row w' B v' (el ++ ns) → Fr E.e w w' → Below B w w' → w.grownBy w' v.ownBlock → wpList Try.prog ops Q rest (a.put o.dst v') w') : wpList Try.prog ops Q (o :: rest) a w := by
  refine wpList_plain hgd fun K hk => ?_
  obtain ⟨v', w', hr, h1, h2, h3, h4⟩ := h.run hxs o.type hlen hB
  unfold Oper.wp execOp
  simp only [ho, resolve, invoke, builtin, Sem.run_bind, Sem.run_pure, Result.andThen_ok, List.map_toArray, List.map_cons, List.map_nil, hs, hx, hr]
  exact hk _ _ (hK v' w' h1 h2 h3 h4)
end
end Go.Proofs.Ytinfbmnimkcdjaa
