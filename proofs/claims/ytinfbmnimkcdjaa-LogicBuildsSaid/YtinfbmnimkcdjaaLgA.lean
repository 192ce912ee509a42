/-
  Forms in memory: how a tree of them lies; lists of them, growing and at rest.
-/
import Derived.Test.YtinfbmnimkcdjaaLgM
import Derived.OwnWalk
import Derived.Laws.OwnMore
import Derived.Deep.AppendLies
import Derived.Deep.DrawnRows
namespace Go.Proofs.Ytinfbmnimkcdjaa
open Go.RowKit
set_option maxRecDepth 100000
set_option linter.unusedVariables false

/-- The slice's block afterwards: the one it had, or a new one. -/
def FreshF (w : World) (v v' : Value) : Prop := ∀ g, v'.ownBlock = some g → v.ownBlock = some g ∨ w.heap.size ≤ g

theorem append_freshF {P : Program} {w w' : World} {t ty e : TypeId} {i : TypeInfo} {z : Value} (ht : P.underlying t = some (.slice e)) (hi : P.info? e = some i) (hz : i.zero = some z)
    {base n m c : Nat} {v v' : Value} {xs news : List Value} (hown : w.ownsRow base e i.size v n xs) {a : Addr} (hl : news.length = m * i.size) (hnews : ∀ j u, news[j]? = some u → w.cell? (a.add j) = some u) (h1 : ∀ u ∈ news, u.oneCell' = true)
    (h63 : n + m ≤ 1000000000) (hbytes : (n + m) * i.bytes ≤ 140737488355328) (hm : 0 < m) (hzs : z.cells.size = i.size) (hsz : 0 < i.size)
    (hr : (Builtin.append_ #[t, t] ty #[v, .slice (some a) m c]).run P w = .ok v' w') : FreshF w v v' := by
  have h0 := hown
  rcases hown.2 with ⟨rfl, rfl⟩ | ⟨g, cap, cur, rfl, hbg, hg, hnc, hcm, hcs, htake⟩
  · have hx : xs = [] := List.eq_nil_of_length_eq_zero (by simpa using hown.1)
    subst hx
    obtain ⟨v2, w2, hr2, ho2, _, _⟩ := run_append_own (P := P) w w.heap.size t ty e i z i.size i.bytes ht hi hz rfl rfl hzs hsz (.slice none 0 0) 0 [] (World.ownsRow_nil w _ e i.size) a m c news hl hnews h1 (by unfold maxLen; omega) hbytes (Nat.le_refl _)
    rw [hr] at hr2
    injection hr2 with e1 e2
    subst e1
    exact fun g hg => .inr (ho2.lt g hg).1
  · by_cases hroom : n + m ≤ cap
    · have hfit : n * i.size + news.length ≤ cur.size := by rw [hl, hcs, ← Nat.add_mul]; exact Nat.mul_le_mul_right _ hroom
      rw [run_append_room (P := P) w t ty e i ht hi g n cap cur hg a m c news hl hnews h1 hroom hfit] at hr
      injection hr with e1 e2
      subst e1
      exact fun q hq => .inl hq
    · rw [run_append_grow (P := P) w t ty e i z ht hi hz ⟨g, 0, none⟩ n cap xs h0.1 (h0.cells (g := g) rfl) a m c news hl hnews (by omega) (by omega) (growslice_fits (by omega) hbytes)] at hr
      injection hr with e1 e2
      subst e1
      intro q hq
      injection hq with hq
      exact .inr (by rw [← hq]; exact Nat.le_refl _)

/-- 'append(out, x)' of one element that lies in a block of its own: elements of 'size' cells. -/
theorem wpList_append_elF {P : Program} (w : World) {ops : Array Oper} {rest : List Oper} {o : Oper} {a : Act} {Q : Exit → Act → World → Prop} (hgd : o.guard = none) (s x : Operand) (t : TypeId)
    (ho : o.op = .call { callee := .builtin .append, args := #[s, x], argTypes := #[t, t] })
    (e : TypeId) (ht : P.underlying t = some (.slice e)) {z : Value} {size bytes : Nat} (hinfo : (P.info? e).map (fun i => (i.zero, i.size, i.bytes)) = some (some z, size, bytes)) (hzs : z.cells.size = size) (hsz : 0 < size) (hby : bytes ≤ 1000)
    (base : Nat) (v : Value) (n : Nat) (xs : List Value) (hs : a.eval s = v) (hown : w.ownsRow base e size v n xs)
    (h : Nat) (T : TypeId) (cs : List Value) (hcs : cs.length = size) (h1 : ∀ u ∈ cs, u.oneCell' = true) (hx : a.eval x = .slice (some ⟨h, 0, none⟩) 1 1) (hc : w.heap[h]? = some (.cells cs.toArray T (0, 0)))
    (hlen : n ≤ 1000000) (hbase : base ≤ w.heap.size)
    (hK : ∀ v' w', w'.ownsRow base e size v' (n + 1) (xs ++ cs) → w.grownBy w' v.ownBlock → FreshF w v v' → wpList P ops Q rest (a.put o.dst v') w') : wpList P ops Q (o :: rest) a w := by
  obtain ⟨i, hi, hz, hz1, hz2⟩ := info_parts hinfo
  subst hz1 hz2
  have hnews : ∀ j u, cs[j]? = some u → w.cell? ((⟨h, 0, none⟩ : Addr).add j) = some u := fun j u hj => World.news_of_block hc j u (by simpa using hj)
  have hb2 : (n + 1) * i.bytes ≤ 140737488355328 := Nat.le_trans (Nat.mul_le_mul (show n + 1 ≤ 1000001 by omega) hby) (by decide)
  refine wpList_plain hgd fun K hk => ?_
  obtain ⟨v', w', hr, h2, h3, h4⟩ := run_append_own (P := P) w base t o.type e i z i.size i.bytes ht hi hz rfl rfl hzs hsz v n xs hown ⟨h, 0, none⟩ 1 1 cs (by rw [hcs, Nat.one_mul]) hnews h1 (by unfold maxLen; omega) hb2 hbase
  have hf := append_freshF ht hi hz hown (c := 1) (m := 1) (by rw [hcs, Nat.one_mul]) hnews h1 (by omega) hb2 (by decide) hzs hsz hr
  unfold Oper.wp execOp
  simp only [ho, resolve, invoke, builtin, Sem.run_bind, Sem.run_pure, Result.andThen_ok, List.map_toArray, List.map_cons, List.map_nil, hs, hx, hr]
  exact hk _ _ (hK v' w' h2 h3 hf)

theorem cell_keepF {w w' : World} {p : Addr} (h : w'.heap[p.block]? = w.heap[p.block]?) : w'.cell? p = w.cell? p := World.cell?_of_block h

theorem Sl.keepF {w w' : World} {k : IntKind} {ao : Option Addr} {n c : Nat} {xs : List Nat} (h : Sl w k (.slice ao n c) xs) (hk : n ≠ 0 → ∀ a, ao = some a → w'.heap[a.block]? = w.heap[a.block]?) : Sl w' k (.slice ao n c) xs := by
  obtain ⟨ao', cap, e, h1, h2, h3, h4⟩ := h
  injection e with e1 e2 e3
  subst e1; subst e3
  refine ⟨ao, c, by rw [e2], h1, h2, h3, fun i hi => ?_⟩
  obtain ⟨a, ha, hc⟩ := h4 i hi
  refine ⟨a, ha, ?_⟩
  rw [cell_keepF (w := w) (by rw [add_blockV]; exact hk (by omega) a ha)]; exact hc

def AtF (n : Nat) (w : World) (ko : Option Addr) (i : Nat) (cs : List Value) : Prop := ∃ a, ko = some a ∧ ∀ j v, cs[j]? = some v → w.cell? ((a.add (i * n)).add j) = some v
theorem AtF.keep {n : Nat} {w w' : World} {ko : Option Addr} {i : Nat} {cs : List Value} (h : AtF n w ko i cs) (hk : ∀ a, ko = some a → w'.heap[a.block]? = w.heap[a.block]?) : AtF n w' ko i cs := by
  obtain ⟨a, rfl, h⟩ := h
  refine ⟨a, rfl, fun j v hv => ?_⟩
  rw [cell_keepF (w := w) (by rw [add_blockV, add_blockV]; exact hk a rfl)]; exact h j v hv
theorem AtF.lt {n : Nat} {w : World} {ko : Option Addr} {i : Nat} {c : Value} {cs : List Value} (h : AtF n w ko i (c :: cs)) : ∀ a, ko = some a → a.block < w.heap.size := by
  obtain ⟨a, rfl, h⟩ := h
  rintro _ ⟨⟩
  have := cell_lt (h 0 _ rfl)
  rwa [add_blockV, add_blockV] at this

/-- A slice of the call's own of elements of n cells. -/
theorem own_atF {n : Nat} {w : World} {base : Nat} {e : TypeId} {ko : Option Addr} {m kc : Nat} {α : Type} (f : α → List Value) (hf : ∀ a, (f a).length = n) {ys : List α} (hm : m = ys.length) (h : w.ownsRow base e n (.slice ko m kc) m (ys.flatMap f)) (i : Nat) (hi : i < ys.length) : AtF n w ko i (f ys[i]) := by
  have hfl : ∀ (l : List α) (i j : Nat) (hi : i < l.length), j < n → (l.flatMap f)[i * n + j]? = (f l[i])[j]? := by
    intro l
    induction l with
    | nil => intro i j hi; simp at hi
    | cons a l ih =>
      intro i j hi hj
      rw [List.flatMap_cons]
      cases i with
      | zero => rw [Nat.zero_mul, Nat.zero_add, List.getElem?_append_left (by rw [hf]; exact hj)]; rfl
      | succ i =>
        rw [List.getElem?_append_right (by rw [hf, Nat.add_mul]; omega), hf, show (i + 1) * n + j - n = i * n + j by rw [Nat.add_mul]; omega, List.getElem_cons_succ]
        exact ih i j (by simpa using hi) hj
  have hll : ∀ l : List α, (l.flatMap f).length = l.length * n := by
    intro l
    induction l with
    | nil => simp
    | cons a l ih => rw [List.flatMap_cons, List.length_append, ih, hf, List.length_cons, Nat.add_mul]; omega
  have h0 := h
  rcases h.2 with ⟨hv, h1⟩ | ⟨g, cap, cur, hv, hb, hg, h1, h2, h3, h4⟩
  · omega
  · injection hv with e1 e2 e3
    subst e1 e3
    refine ⟨_, rfl, fun j v hj => ?_⟩
    have hjn : j < n := by have := (List.getElem?_eq_some_iff.1 hj).1; rwa [hf] at this
    rw [add_litV, add_litV, Nat.zero_add, World.ownsRow.cellAt h0 (i * n + j) (by
      rw [hm]
      calc i * n + j < i * n + n := by omega
        _ = (i + 1) * n := by rw [Nat.add_mul]; omega
        _ ≤ ys.length * n := Nat.mul_le_mul_right _ hi), hfl ys i j hi hjn]
    exact hj

theorem own_formF {w : World} {base : Nat} {e : TypeId} {size : Nat} {v : Value} {n : Nat} {xs : List Value} (h : w.ownsRow base e size v n xs) : ∃ ko kc, v = .slice ko n kc ∧ n ≤ kc := by
  rcases h.2 with ⟨rfl, rfl⟩ | ⟨g, cap, cur, rfl, _, _, h1, _⟩
  · exact ⟨_, _, rfl, Nat.le_refl _⟩
  · exact ⟨_, _, rfl, h1⟩
/-- Limbs stay. -/
def KN (w w' : World) : Prop := ∀ (a : Addr) (z : Int), w.cell? a = some (.int .u32 z) → w'.cell? a = some (.int .u32 z)
theorem KN.of_below {w w' : World} (h : Below w.heap.size w w') : KN w w' := fun a z hc => by rw [h.cell (World.block_lt_of_cell? w a hc)]; exact hc
theorem KN.of_fr {e : TypeId} {w w' : World} (h : Fr e w w') : KN w w' := h.num
theorem KN.trans {a b c : World} (h : KN a b) (k : KN b c) : KN a c := fun p z hp => k p z (h p z hp)
theorem Sl.kn {w w' : World} {v : Value} {xs : List Nat} (h : Sl w .u32 v xs) (k : KN w w') : Sl w' .u32 v xs := by
  obtain ⟨ao, cap, e1, h1, h2, h3, h4⟩ := h
  refine ⟨ao, cap, e1, h1, h2, h3, fun i hi => ?_⟩
  obtain ⟨a, ha, hc⟩ := h4 i hi
  exact ⟨a, ha, k _ _ hc⟩
theorem CI.kn {w w' : World} {v : Value} {z : Int} {k : Nat} (h : CI w v z k) (f : KN w w') : CI w' v z k := by
  obtain ⟨va, h1, h2, h3⟩ := h
  exact ⟨va, h1, h2.kn f, h3⟩
/-- Elements of a list: their cells, and what of them lies elsewhere. -/
structure Es (α : Type) where
  e : TypeId
  n : Nat
  f : α → List Value
  R : World → (Nat → Prop) → α → Prop
  pos : 0 < n
  len : ∀ a, (f a).length = n
  one : ∀ a, ∀ u ∈ f a, u.oneCell' = true
  keep : ∀ {w w' : World} {S : Nat → Prop} {a : α}, (∀ g, S g → w'.heap[g]? = w.heap[g]?) → KN w w' → R w S a → R w' S a
  mono : ∀ {w : World} {S S' : Nat → Prop} {a : α}, (∀ g, S g → S' g) → R w S a → R w S' a
  lt : ∀ {w : World} {S : Nat → Prop} {a : α}, R w S a → R w (fun g => S g ∧ g < w.heap.size) a
section
variable {α : Type} (E : Es α)
theorem Es.below {w w' : World} {S : Nat → Prop} {a : α} (h : E.R w S a) (hb : Below w.heap.size w w') : E.R w' S a := E.mono (fun _ h => h.1) (E.keep (fun g hg => hb.block g hg.2) (KN.of_below hb) (E.lt h))
theorem Es.grown {w w' : World} {S : Nat → Prop} {a : α} {r : Option Nat} (h : E.R w S a) (hg : w.grownBy w' r) (hn : KN w w') (hS : ∀ b, S b → r ≠ some b) : E.R w' S a :=
  E.mono (fun _ h => h.1) (E.keep (fun q hq => hg.block q hq.2 (fun e => hS q hq.1 e.symm)) hn (E.lt h))
variable {E}
/-- A list at rest. -/
def Es.At (E : Es α) (w : World) (S : Nat → Prop) (v : Value) (el : List α) : Prop := ∃ ko kc, v = .slice ko el.length kc ∧ (el.length ≤ kc ∧ kc ≤ maxLen ∧ (ko = none → kc = 0)) ∧ (el.length ≠ 0 → ∀ a, ko = some a → S a.block) ∧ ∀ i (h : i < el.length), AtF E.n w ko i (E.f el[i]) ∧ E.R w S el[i]
theorem Es.At.keep {w w' : World} {S : Nat → Prop} {v : Value} {el : List α} (hk : ∀ g, S g → w'.heap[g]? = w.heap[g]?) (hn : KN w w') (h : E.At w S v el) : E.At w' S v el := by
  obtain ⟨ko, kc, rfl, h1, h2, h3⟩ := h
  exact ⟨ko, kc, rfl, h1, h2, fun i hi => ⟨(h3 i hi).1.keep fun a ha => hk _ (h2 (by omega) a ha), E.keep hk hn (h3 i hi).2⟩⟩
theorem Es.At.mono {w : World} {S S' : Nat → Prop} {v : Value} {el : List α} (hs : ∀ g, S g → S' g) (h : E.At w S v el) : E.At w S' v el := by
  obtain ⟨ko, kc, rfl, h1, h2, h3⟩ := h
  exact ⟨ko, kc, rfl, h1, fun h0 a ha => hs _ (h2 h0 a ha), fun i hi => ⟨(h3 i hi).1, E.mono hs (h3 i hi).2⟩⟩
theorem Es.At.lt {w : World} {S : Nat → Prop} {v : Value} {el : List α} (h : E.At w S v el) : E.At w (fun g => S g ∧ g < w.heap.size) v el := by
  obtain ⟨ko, kc, rfl, h1, h2, h3⟩ := h
  refine ⟨ko, kc, rfl, h1, fun h0 a ha => ⟨h2 h0 a ha, ?_⟩, fun i hi => ⟨(h3 i hi).1, E.lt (h3 i hi).2⟩⟩
  have h := (h3 0 (by omega)).1
  cases hf : E.f (el[0]'(by omega)) with
  | nil => have := E.len (el[0]'(by omega)); rw [hf] at this; have := E.pos; simp at *; omega
  | cons c cs => rw [hf] at h; exact h.lt a ha
theorem Es.At.below {w w' : World} {S : Nat → Prop} {v : Value} {el : List α} (h : E.At w S v el) (hb : Below w.heap.size w w') : E.At w' S v el := (Es.At.keep (fun g hg => hb.block g hg.2) (KN.of_below hb) h.lt).mono fun _ h => h.1
theorem Es.At.grown {w w' : World} {S : Nat → Prop} {v : Value} {el : List α} {r : Option Nat} (h : E.At w S v el) (hg : w.grownBy w' r) (hn : KN w w') (hS : ∀ b, S b → r ≠ some b) : E.At w' S v el :=
  (Es.At.keep (fun q hq => hg.block q hq.2 (fun e => hS q hq.1 e.symm)) hn h.lt).mono fun _ h => h.1
end

theorem infoForm : (Try.prog.info? 29).map (fun i => (i.zero, i.size, i.bytes)) = some (some (.agg #[.int .i64 0, .bool false, .slice none 0 0, .string ⟨#[]⟩, .slice none 0 0]), 5, 80) := by kernel_rfl

/-- The fields of a form, as a value holds them. -/
structure FU where
  k : Int
  n : NU
  nm : ByteArray
  ko : Option Addr
  kl : Nat
  kc : Nat
def fC (u : FU) : List Value := [.int .i64 u.k, .bool (decide (u.n.z < 0)), .slice u.n.o u.n.l u.n.c, .string u.nm, .slice u.ko u.kl u.kc]
def fV (u : FU) : Value := .agg #[.int .i64 u.k, .bool (decide (u.n.z < 0)), .slice u.n.o u.n.l u.n.c, .string u.nm, .slice u.ko u.kl u.kc]
def IR (z : Int) : Prop := -9223372036854775808 ≤ z ∧ z ≤ 9223372036854775807
theorem NR.sl {w : World} {n : NU} (h : NR w n) : Sl w .u32 (.slice n.o n.l n.c) (dig L32 n.z.natAbs) := by
  obtain ⟨va, e, h2, _⟩ := h
  unfold nV at e
  injection e with e
  have e1 := congrArg (fun t : Array Value => t[1]?) e
  injection e1 with e1
  have e2 : Value.slice n.o n.l n.c = va := e1
  rw [e2]; exact h2
theorem NR.of {w : World} {n : NU} (h : Sl w .u32 (.slice n.o n.l n.c) (dig L32 n.z.natAbs)) (hb : n.z.natAbs < L32 ^ 600) : NR w n := ⟨_, rfl, h, hb⟩
theorem NR.bd {w : World} {n : NU} (h : NR w n) : n.z.natAbs < L32 ^ 600 := by obtain ⟨_, _, _, h⟩ := h; exact h
/-- u is, in w, a form t of no more than d parts within one another; what of it lies in memory lies in blocks of S. -/
def FT (w : World) (S : Nat → Prop) : Nat → FU → F → Prop
  | 0, _, _ => False
  | d + 1, u, t => (u.k = t.op ∧ IR u.k ∧ u.n.z = t.num ∧ u.nm = t.name) ∧ NR w u.n ∧ ∃ el : List (FU × F), el.map (·.2) = t.kids ∧ (u.kl = el.length ∧ el.length ≤ u.kc ∧ u.kc ≤ maxLen ∧ (u.ko = none → u.kc = 0)) ∧
      (el.length ≠ 0 → ∀ a, u.ko = some a → S a.block) ∧ ∀ i (h : i < el.length), AtF 5 w u.ko i (fC el[i].1) ∧ FT w S d el[i].1 el[i].2
theorem FT.keep {w w' : World} {S : Nat → Prop} (hk : ∀ g, S g → w'.heap[g]? = w.heap[g]?) (hn : KN w w') : ∀ {d : Nat} {u : FU} {t : F}, FT w S d u t → FT w' S d u t
  | 0, _, _, h => h
  | d + 1, u, t, ⟨h1, h2, el, h3, h4, h5, h6⟩ => ⟨h1, CI.kn h2 hn, el, h3, h4, h5, fun i hi => ⟨(h6 i hi).1.keep fun a ha => hk _ (h5 (by omega) a ha), (h6 i hi).2.keep hk hn⟩⟩
theorem FT.mono {w : World} {S S' : Nat → Prop} (hs : ∀ g, S g → S' g) : ∀ {d : Nat} {u : FU} {t : F}, FT w S d u t → FT w S' d u t
  | 0, _, _, h => h
  | d + 1, u, t, ⟨h1, h2, el, h3, h4, h5, h6⟩ => ⟨h1, h2, el, h3, h4, fun h0 a ha => hs _ (h5 h0 a ha), fun i hi => ⟨(h6 i hi).1, (h6 i hi).2.mono hs⟩⟩
theorem FT.lt {w : World} {S : Nat → Prop} : ∀ {d : Nat} {u : FU} {t : F}, FT w S d u t → FT w (fun g => S g ∧ g < w.heap.size) d u t
  | 0, _, _, h => h
  | d + 1, u, t, ⟨h1, h2, el, h3, h4, h5, h6⟩ => ⟨h1, h2, el, h3, h4, fun h0 a ha => ⟨h5 h0 a ha, (h6 0 (by omega)).1.lt a ha⟩, fun i hi => ⟨(h6 i hi).1, (h6 i hi).2.lt⟩⟩
theorem FT.up {w : World} {S : Nat → Prop} : ∀ {d : Nat} {u : FU} {t : F}, FT w S d u t → ∀ {d' : Nat}, d ≤ d' → FT w S d' u t
  | 0, _, _, h, _, _ => absurd h id
  | d + 1, u, t, ⟨h1, h2, el, h3, h4, h5, h6⟩, 0, hd => by omega
  | d + 1, u, t, ⟨h1, h2, el, h3, h4, h5, h6⟩, d' + 1, hd => ⟨h1, h2, el, h3, h4, h5, fun i hi => ⟨(h6 i hi).1, (h6 i hi).2.up (Nat.le_of_succ_le_succ hd)⟩⟩
/-- Forms in a list. -/
def fE (d : Nat) : Es (FU × F) where
  e := 29
  n := 5
  f q := fC q.1
  R w S q := FT w S d q.1 q.2
  pos := by decide
  len _ := rfl
  one q := by
    intro u hu
    simp only [fC, List.mem_cons, List.not_mem_nil, or_false] at hu
    rcases hu with rfl | rfl | rfl | rfl | rfl <;> rfl
  keep h n k := k.keep h n
  mono h k := k.mono h
  lt k := k.lt
theorem FT.below {w w' : World} {S : Nat → Prop} {d : Nat} {u : FU} {t : F} (h : FT w S d u t) (hb : Below w.heap.size w w') : FT w' S d u t := (fE d).below (a := (u, t)) h hb
theorem FT.grown {w w' : World} {S : Nat → Prop} {d : Nat} {u : FU} {t : F} {r : Option Nat} (h : FT w S d u t) (hg : w.grownBy w' r) (hn : KN w w') (hS : ∀ b, S b → r ≠ some b) : FT w' S d u t := (fE d).grown (a := (u, t)) h hg hn hS
/-- A form that lies somewhere. -/
def FC (w : World) (S : Nat → Prop) (d : Nat) (v : Value) (t : F) : Prop := ∃ u : FU, v = fV u ∧ FT w S d u t
/-- A list of forms. -/
def FL (w : World) (S : Nat → Prop) (d : Nat) (v : Value) (ts : List F) : Prop := ∃ el : List (FU × F), (fE d).At w S v el ∧ el.map (·.2) = ts
theorem FC.below {w w' : World} {S : Nat → Prop} {d : Nat} {v : Value} {t : F} (h : FC w S d v t) (hb : Below w.heap.size w w') : FC w' S d v t := by
  obtain ⟨u, h1, h2⟩ := h; exact ⟨u, h1, h2.below hb⟩
theorem FC.mono {w : World} {S S' : Nat → Prop} {d : Nat} {v : Value} {t : F} (hs : ∀ g, S g → S' g) (h : FC w S d v t) : FC w S' d v t := by
  obtain ⟨u, h1, h2⟩ := h; exact ⟨u, h1, h2.mono hs⟩
theorem FC.up {w : World} {S : Nat → Prop} {d d' : Nat} {v : Value} {t : F} (h : FC w S d v t) (hd : d ≤ d') : FC w S d' v t := by
  obtain ⟨u, h1, h2⟩ := h; exact ⟨u, h1, h2.up hd⟩
theorem FC.grown {w w' : World} {S : Nat → Prop} {d : Nat} {v : Value} {t : F} {r : Option Nat} (h : FC w S d v t) (hg : w.grownBy w' r) (hn : KN w w') (hS : ∀ b, S b → r ≠ some b) : FC w' S d v t := by
  obtain ⟨u, h1, h2⟩ := h; exact ⟨u, h1, h2.grown hg hn hS⟩
theorem FL.below {w w' : World} {S : Nat → Prop} {d : Nat} {v : Value} {ts : List F} (h : FL w S d v ts) (hb : Below w.heap.size w w') : FL w' S d v ts := by
  obtain ⟨el, h1, h2⟩ := h; exact ⟨el, h1.below hb, h2⟩
theorem FL.mono {w : World} {S S' : Nat → Prop} {d : Nat} {v : Value} {ts : List F} (hs : ∀ g, S g → S' g) (h : FL w S d v ts) : FL w S' d v ts := by
  obtain ⟨el, h1, h2⟩ := h; exact ⟨el, h1.mono hs, h2⟩
theorem FL.grown {w w' : World} {S : Nat → Prop} {d : Nat} {v : Value} {ts : List F} {r : Option Nat} (h : FL w S d v ts) (hg : w.grownBy w' r) (hn : KN w w') (hS : ∀ b, S b → r ≠ some b) : FL w' S d v ts := by
  obtain ⟨el, h1, h2⟩ := h; exact ⟨el, h1.grown hg hn hS, h2⟩
/-- The fields of a form that lies somewhere; its kids. -/
theorem FC.open {w : World} {S : Nat → Prop} {d : Nat} {v : Value} {t : F} (h : FC w S d v t) : ∃ (b : Bool) (o : Option Addr) (l c : Nat) (ko : Option Addr) (kl kc : Nat),
    v = .agg #[.int .i64 t.op, .bool b, .slice o l c, .string t.name, .slice ko kl kc] ∧ (IR t.op ∧ CI w (.agg #[.bool b, .slice o l c]) t.num 600 ∧ kl = t.kids.length ∧ kl ≤ kc ∧ kc ≤ maxLen) ∧ 1 ≤ d ∧ FL w S (d - 1) (.slice ko kl kc) t.kids := by
  obtain ⟨u, rfl, h⟩ := h
  cases d with
  | zero => exact absurd h id
  | succ d =>
    obtain ⟨⟨h1, h2, h3, h4⟩, h5, el, h6, ⟨h7, h8, h9, h10⟩, h11, h12⟩ := h
    have h13 : u.kl = t.kids.length := by rw [h7, ← h6, List.length_map]
    have h14 : u.kl ≤ u.kc := by rw [h7]; exact h8
    refine ⟨decide (u.n.z < 0), u.n.o, u.n.l, u.n.c, u.ko, u.kl, u.kc, ?_, ⟨by rw [← h1]; exact h2, ?_, h13, h14, h9⟩, Nat.succ_le_succ (Nat.zero_le _), el, ⟨u.ko, u.kc, by rw [h7], ⟨h8, h9, h10⟩, h11, h12⟩, h6⟩
    · unfold fV; rw [h1, h4]
    · rw [← h3]; exact h5
theorem FL.form {w : World} {S : Nat → Prop} {d : Nat} {v : Value} {ts : List F} (h : FL w S d v ts) : ∃ ko kc, v = .slice ko ts.length kc ∧ (ts.length ≤ kc ∧ kc ≤ maxLen ∧ (ko = none → kc = 0)) := by
  obtain ⟨el, ⟨ko, kc, rfl, h1, -⟩, rfl⟩ := h
  exact ⟨ko, kc, by simp, by simpa using h1⟩
/-- An element's cells, as the walk meets them, and the form that they are. -/
theorem FL.cells {w : World} {S : Nat → Prop} {d : Nat} {ko : Option Addr} {n kc : Nat} {ts : List F} (h : FL w S d (.slice ko n kc) ts) (i : Nat) (hi : i < ts.length) : ∃ (a : Addr) (b : Bool) (o : Option Addr) (l c : Nat) (po : Option Addr) (pl pc : Nat), ko = some a ∧
    (w.cell? (a.add (i * 5)) = some (.int .i64 ts[i].op) ∧ w.cell? ⟨(a.add (i * 5)).block, (a.add (i * 5)).off + 1, none⟩ = some (.bool b) ∧ w.cell? ⟨(a.add (i * 5)).block, (a.add (i * 5)).off + 2, none⟩ = some (.slice o l c) ∧
      w.cell? ⟨(a.add (i * 5)).block, (a.add (i * 5)).off + 3, none⟩ = some (.string ts[i].name) ∧ w.cell? ⟨(a.add (i * 5)).block, (a.add (i * 5)).off + 4, none⟩ = some (.slice po pl pc)) ∧
    FC w S d (.agg #[.int .i64 ts[i].op, .bool b, .slice o l c, .string ts[i].name, .slice po pl pc]) ts[i] := by
  obtain ⟨el, ⟨ko', kc', e, h1, h2, h3⟩, rfl⟩ := h
  injection e with e1 e2 e3
  subst e1
  have hi' : i < el.length := by simpa using hi
  obtain ⟨⟨a, ha, hc⟩, hT⟩ := h3 i hi'
  simp only [List.getElem_map]
  have hk : el[i].1.k = el[i].2.op ∧ el[i].1.nm = el[i].2.name := by
    cases d with
    | zero => exact absurd hT id
    | succ d => obtain ⟨⟨h1, h2, h3, h4⟩, -⟩ := hT; exact ⟨h1, h4⟩
  refine ⟨a, _, _, _, _, _, _, _, ha, ⟨by have := hc 0 _ rfl; rw [← hk.1]; exact this, hc 1 _ rfl, hc 2 _ rfl, by have := hc 3 _ rfl; rw [← hk.2]; exact this, hc 4 _ rfl⟩, el[i].1, ?_, hT⟩
  unfold fV; rw [hk.1, hk.2]
theorem FC.mk {w : World} {S : Nat → Prop} {d : Nat} {b : Bool} {o : Option Addr} {l c : Nat} {nm : ByteArray} {ko : Option Addr} {kl kc : Nat} {op z : Int} {ks : List F} (hr : IR op) (hz : CI w (.agg #[.bool b, .slice o l c]) z 600)  (hk : FL w S d (.slice ko kl kc) ks) :
    FC w S (d + 1) (.agg #[.int .i64 op, .bool b, .slice o l c, .string nm, .slice ko kl kc]) (.node op z nm ks) := by
  have hb : b = decide (z < 0) := by
    obtain ⟨va, e, _⟩ := hz
    injection e with e
    have e1 := congrArg (fun t : Array Value => t[0]?) e
    injection e1 with e1
    injection e1 with e1
  subst hb
  obtain ⟨el, ⟨ko', kc', e, h1, h2, h3⟩, rfl⟩ := hk
  injection e with e1 e2 e3
  subst e1; subst e3
  exact ⟨⟨op, ⟨o, l, c, z⟩, nm, ko, kl, kc⟩, rfl, ⟨rfl, hr, rfl, rfl⟩, hz, el, rfl, ⟨e2, h1⟩, h2, h3⟩
theorem FL.nil (w : World) (S : Nat → Prop) (d : Nat) : FL w S d (.slice none 0 0) [] := ⟨[], ⟨none, 0, rfl, ⟨Nat.le_refl _, Nat.zero_le _, fun _ => rfl⟩, fun h => absurd rfl h, fun i hi => absurd hi (Nat.not_lt_zero i)⟩, rfl⟩
end Go.Proofs.Ytinfbmnimkcdjaa
