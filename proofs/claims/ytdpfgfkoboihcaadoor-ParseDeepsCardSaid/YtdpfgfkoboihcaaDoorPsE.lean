/-
  Plain mathematics of layer 6: package parse and the reference make the same of the same tokens: the same parts at the same places, or the same first error. No program, no Go stands here.
-/
import Derived.Test.YtdpfgfkoboihcaaDoorPsR
namespace Go.Proofs.YtdpfgfkoboihcaaDoor
set_option maxRecDepth 100000
set_option linter.unusedVariables false

def fname (k : Nat) (nm ot : Bs) (z : Nat) : Bs := if k = 0 then zText (z : Nat) else if k = 27 then nm ++ [32] ++ ot else nm
mutual
/-- A tree's parts, told. -/
def frm : U → Bs
  | .node k nm ot z ln cl ks => opn k ln cl (fname k nm ot z) ++ frms ks ++ [41]
def frms : List U → Bs
  | [] => []
  | u :: us => frm u ++ frms us
end
def fm (u : U) : RE := ⟨frm u, ud u⟩
theorem frms_eq (ks : List U) : frms ks = (ks.map fm).flatMap RE.S := by
  induction ks with
  | nil => simp [frms]
  | cons u us ih => simp [frms, ih, fm]
theorem foldl_max (ks : List U) (a : Nat) : (ks.map fm).foldl (fun d e => max d e.d) a = max a (uds ks) := by
  induction ks generalizing a with
  | nil => simp [uds]
  | cons u us ih => simp only [List.map_cons, List.foldl_cons, ih, uds, fm]; omega
theorem mk_fm (k : Nat) (t : Tok) (nm ot : Bs) (z : Nat) (ks : List U) : mk k t (fname k nm ot z) (ks.map fm) = fm (.node k nm ot z t.line t.col ks) := by
  unfold mk
  rw [foldl_max, ← frms_eq, Nat.zero_max]
  show _ = RE.mk (frm (.node k nm ot z t.line t.col ks)) (ud (.node k nm ot z t.line t.col ks))
  rw [frm, ud]

def sigs : List Bs := [[58, 58], [45, 62], [38, 38], [124, 124], [91, 93], [60, 62], [60, 61], [62, 61], [40], [41], [123], [125], [44], [58], [59], [124], [61], [60], [62], [43], [45], [42], [47], [37]]
def alls : List Bs := wds ++ sigs
/-- What a token's kind says of its text. -/
structure TokOk (t : Tok) : Prop where
  k4 : t.kind ≤ 4
  k0 : t.kind = 0 → t.text ∉ alls ∧ t.text ≠ []
  k1 : t.kind = 1 → t.text ∉ alls ∧ Numeral t.text
  k2 : t.kind = 2 → t.text ∈ sigs
  k3 : t.kind = 3 → t.text ∈ wds
  ke : t.kind = 4 → t.text = []
def GoodL : List Tok → Prop
  | [] => False
  | [t] => t.kind = 4 ∧ TokOk t
  | t :: u :: ts => t.kind < 4 ∧ TokOk t ∧ GoodL (u :: ts)
theorem GoodL.head {l : List Tok} (h : GoodL l) : TokOk (l.headD tk0) := by
  match l, h with
  | [t], h => exact h.2
  | t :: u :: ts, h => exact h.2.1
theorem GoodL.tail {l : List Tok} (h : GoodL l) (hk : (l.headD tk0).kind ≠ 4) : GoodL (l.drop 1) := by
  match l, h with
  | [t], h => exact absurd h.1 hk
  | t :: u :: ts, h => exact h.2.2
theorem GoodL.last {l : List Tok} (h : GoodL l) : ∃ e, l.drop (l.length - 1) = [e] ∧ e.kind = 4 ∧ e.text = [] := by
  induction l with
  | nil => exact absurd h id
  | cons t ts ih =>
    match ts, h, ih with
    | [], h, _ => exact ⟨t, rfl, h.1, h.2.ke h.1⟩
    | u :: ts, h, ih =>
      obtain ⟨e, h1, h2⟩ := ih h.2.2
      refine ⟨e, ?_, h2⟩
      simp only [List.length_cons, Nat.add_sub_cancel] at h1 ⊢
      rw [List.drop_succ_cons]; exact h1
theorem GoodL.ne {l : List Tok} (h : GoodL l) : l ≠ [] := by intro e; rw [e] at h; exact h
theorem nil_alls : ([] : Bs) ∉ alls := by decide
theorem is_kind {t : Tok} (h : TokOk t) {w : Bs} (hw : w ∈ alls) (e : t.text = w) : t.kind = 2 ∨ t.kind = 3 := by
  have h4 := h.k4
  have e0 : t.kind ≠ 0 := fun k => (h.k0 k).1 (e ▸ hw)
  have e1 : t.kind ≠ 1 := fun k => (h.k1 k).1 (e ▸ hw)
  have e4 : t.kind ≠ 4 := fun k => nil_alls (by have := h.ke k; rw [e] at this; exact this ▸ hw)
  omega

def Rel (s : St) (r : RS) : Prop := s.err = none ∧ r.bad = 0 ∧ r.rest = s.rest ∧ GoodL s.rest
/-- The state behind an error: End alone is left. -/
def SB (s : St) : Prop := ∃ x e, s.err = some x ∧ s.rest = [e] ∧ e.kind = 4 ∧ e.text = []
def BB (s : St) (r : RS) : Prop := SB s ∧ r.bad ≠ 0 ∧ s.err = some (r.bad, r.pl.line, r.pl.col)
def RR (s : St) (r : RS) (F : Prop) : Prop := (Rel s r ∧ F) ∨ BB s r

theorem Rel.nx {s : St} {r : RS} (h : Rel s r) : s.nx = r.at' := by unfold St.nx RS.at'; rw [h.2.2.1]
theorem Rel.tok {s : St} {r : RS} (h : Rel s r) : TokOk s.nx := h.2.2.2.head
theorem Rel.is {s : St} {r : RS} (h : Rel s r) {w : Bs} (hw : w ∈ alls) : r.is w = s.is w := by
  unfold RS.is St.is
  rw [h.2.1, ← h.nx]
  by_cases e : s.nx.text = w
  · have := is_kind h.tok hw e
    rcases this with k | k <;> simp [k, e]
  · have : (s.nx.text == w) = false := by simpa using e
    simp [this]
theorem St.is_true {s : St} {w : Bs} (h : s.is w = true) : s.nx.text = w := by simpa [St.is] using h
theorem Rel.kind {s : St} {r : RS} (h : Rel s r) {w : Bs} (hw : w ∈ alls) (e : s.is w = true) : s.nx.kind = 2 ∨ s.nx.kind = 3 := is_kind h.tok hw (St.is_true e)
theorem Rel.tk {s : St} {r : RS} (h : Rel s r) (hk : s.nx.kind ≠ 4) : Rel s.tk r.inc := by
  unfold St.tk
  rw [if_neg hk]
  exact ⟨h.1, h.2.1, by show r.rest.drop 1 = s.rest.drop 1; rw [h.2.2.1], h.2.2.2.tail hk⟩
theorem Rel.take {s : St} {r : RS} (h : Rel s r) {w : Bs} (hw : w ∈ alls) (e : s.is w = true) : Rel s.tk r.inc := h.tk (by rcases h.kind hw e with k | k <;> omega)
theorem GoodL.fail {s : St} (h : GoodL s.rest) (t : Tok) (c : Nat) : SB (s.fail t c) := by
  obtain ⟨e, h1, h2, h3⟩ := h.last
  cases he : s.err with
  | none => exact ⟨(c, t.line, t.col), e, by simp [St.fail, he], by simp [St.fail, h1], h2, h3⟩
  | some x => exact ⟨x, e, by simp [St.fail, he], by simp [St.fail, h1], h2, h3⟩
theorem Rel.fail {s : St} {r r' : RS} (h : Rel s r) {t : Tok} {c : Nat} (hc : c ≠ 0) (hb : r' = r.bd t c) : BB (s.fail t c) r' := by
  subst hb
  unfold RS.bd
  rw [if_pos h.2.1]
  exact ⟨h.2.2.2.fail t c, hc, by simp [St.fail, h.1]⟩
theorem SB.nx {s : St} (h : SB s) : s.nx.kind = 4 ∧ s.nx.text = [] := by
  obtain ⟨x, e, -, h1, h2, h3⟩ := h
  unfold St.nx; rw [h1]; exact ⟨h2, h3⟩
theorem SB.fail {s : St} (h : SB s) (t : Tok) (c : Nat) : s.fail t c = s := by
  obtain ⟨x, e, h0, h1, h2, h3⟩ := h
  obtain ⟨rest, err⟩ := s
  simp only at h0 h1
  subst h0 h1
  rfl
theorem SB.tk {s : St} (h : SB s) : s.tk = s := by unfold St.tk; rw [if_pos h.nx.1]
theorem SB.is {s : St} (h : SB s) {w : Bs} (hw : w ≠ []) : s.is w = false := by unfold St.is; rw [h.nx.2]; simpa using hw
theorem SB.exp {s : St} (h : SB s) {w : Bs} (hw : w ≠ []) : s.exp w = s := by unfold St.exp; rw [h.is hw]; exact h.fail _ _
theorem SB.name {s : St} (h : SB s) : s.name = s := by unfold St.name; rw [if_neg (by rw [h.nx.1]; decide), h.tk]; exact h.fail _ _
theorem RS.is_bad {r : RS} (h : r.bad ≠ 0) (w : Bs) : r.is w = false := by unfold RS.is; simp [h]
theorem RS.bd_bad {r : RS} (h : r.bad ≠ 0) (t : Tok) (c : Nat) : r.bd t c = r := by unfold RS.bd; rw [if_neg h]
theorem RS.eat_bad {r : RS} (h : r.bad ≠ 0) (w : Bs) : r.eat w = r := by unfold RS.eat; rw [RS.is_bad h]; exact RS.bd_bad h _ _
theorem RS.name_bad {r : RS} (h : r.bad ≠ 0) : r.name = r := by unfold RS.name; rw [if_neg h]; split; rfl; exact RS.bd_bad h _ _

/-- Behind an error all that is read leaves the state as it is. -/
theorem c_bad (n : Nat) : (∀ s x, SB s → cExpr n s = some x → x.2 = s) ∧ (∀ l s x, SB s → cBin n l s = some x → x.2 = s) ∧ (∀ l e v s x, SB s → cLoop n l e v s = some x → x.2 = s) ∧ (∀ s x, SB s → cOne n s = some x → x.2 = s) ∧ (∀ s x, SB s → cAtom n s = some x → x.2 = s) := by
  induction n with
  | zero => refine ⟨?_, ?_, ?_, ?_, ?_⟩ <;> intros <;> simp_all [cExpr, cBin, cLoop, cOne, cAtom]
  | succ n ih =>
    obtain ⟨i1, i2, i3, i4, i5⟩ := ih
    refine ⟨?_, ?_, ?_, ?_, ?_⟩
    · intro s x h e
      rw [cExpr, h.is (by decide), h.is (by decide), h.is (by decide), h.is (by decide)] at e
      exact i2 _ _ _ h (by simpa using e)
    · intro l s x h e
      rw [cBin, Option.bind_eq_some_iff] at e
      obtain ⟨y, h1, h2⟩ := e
      have := i4 _ _ h h1
      rw [this] at h2
      exact i3 _ _ _ _ _ h h2
    · intro l e0 v s x h e
      rw [cLoop, h.nx.2] at e
      have : bopOf [] = none := by decide
      rw [this] at e
      injection e with e; rw [← e]
    · intro s x h e
      rw [cOne, h.nx.2] at e
      exact i5 _ _ h (by simpa [unOf] using e)
    · intro s x h e
      rw [cAtom, if_neg (by rw [h.nx.1]; decide), if_neg (by rw [h.nx.1]; decide), h.is (by decide), h.is (by decide), h.is (by decide), h.is (by decide), h.is (by decide)] at e
      injection e with e
      rw [← e]
      show s.tk.fail s.nx 1 = s
      rw [h.tk]; exact h.fail _ _
theorem two_bad : True := trivial
theorem r_bad (n : Nat) : (∀ r x, r.bad ≠ 0 → rExpr n r = some x → x.2 = r) ∧ (∀ l r x, r.bad ≠ 0 → rClimb n l r = some x → x.2 = r) ∧ (∀ l e r x, r.bad ≠ 0 → rLoop n l e r = some x → x.2 = r) ∧ (∀ r x, r.bad ≠ 0 → rSingle n r = some x → x.2 = r) ∧ (∀ r x, r.bad ≠ 0 → rAtom n r = some x → x.2 = r) := by
  induction n with
  | zero => refine ⟨?_, ?_, ?_, ?_, ?_⟩ <;> intros <;> simp_all [rExpr, rClimb, rLoop, rSingle, rAtom]
  | succ n ih =>
    obtain ⟨i1, i2, i3, i4, i5⟩ := ih
    refine ⟨?_, ?_, ?_, ?_, ?_⟩
    · intro r x h e
      rw [rExpr, RS.is_bad h, RS.is_bad h, RS.is_bad h, RS.is_bad h] at e
      exact i2 _ _ _ h (by simpa using e)
    · intro l r x h e
      rw [rClimb] at e
      split at e
      · exact i4 _ _ h e
      · rw [Option.bind_eq_some_iff] at e
        obtain ⟨y, h1, h2⟩ := e
        have := i2 _ _ _ h h1
        rw [this] at h2
        exact i3 _ _ _ _ h h2
    · intro l e0 r x h e
      rw [rLoop, if_pos h] at e
      injection e with e; rw [← e]
    · intro r x h e
      have : rUn r = none := by unfold rUn; simp [RS.is_bad h]
      rw [rSingle, this] at e
      exact i5 _ _ h e
    · intro r x h e
      rw [rAtom, if_pos h] at e
      injection e with e; rw [← e]

theorem RR.exp {s : St} {r : RS} {F : Prop} (h : RR s r F) {w : Bs} (hw : w ∈ alls) : RR (s.exp w) (r.eat w) F := by
  have hne : w ≠ [] := fun e => nil_alls (e ▸ hw)
  rcases h with ⟨h, f⟩ | h
  · unfold St.exp RS.eat
    rw [h.is hw]
    cases e : s.is w with
    | true => exact .inl ⟨h.take hw e, f⟩
    | false => exact .inr (h.fail (by decide) (by simp [h.nx]))
  · rw [h.1.exp hne, RS.eat_bad h.2.1]; exact .inr h
theorem Rel.name {s : St} {r : RS} (h : Rel s r) : RR s.name r.name (s.nx.kind = 0) := by
  unfold St.name RS.name
  rw [← h.nx]
  by_cases hk : s.nx.kind = 0
  · rw [if_pos hk, if_pos hk, if_pos h.2.1]
    exact .inl ⟨h.tk (by omega), hk⟩
  · rw [if_neg hk, if_neg hk]
    refine .inr ?_
    by_cases h4 : s.nx.kind = 4
    · have : s.tk = s := by unfold St.tk; rw [if_pos h4]
      rw [this]; exact h.fail (by decide) rfl
    · have := (h.tk h4).fail (t := s.nx) (c := 1) (by decide) rfl
      unfold RS.bd RS.inc at this
      unfold RS.bd
      rw [if_pos h.2.1]
      simp only [h.2.1, if_true] at this
      exact this
theorem RR.name {s : St} {r : RS} {F : Prop} (h : RR s r F) : RR s.name r.name (F ∧ s.nx.text = r.at'.text ∧ s.nx.kind = 0) := by
  rcases h with ⟨h, f⟩ | h
  · rcases h.name with ⟨h1, h2⟩ | h1
    · exact .inl ⟨h1, f, by rw [h.nx], h2⟩
    · exact .inr h1
  · rw [h.1.name, RS.name_bad h.2.1]; exact .inr h
theorem RR.seq {s s' : St} {r r' : RS} {F G : Prop} (h : RR s r F) (h1 : Rel s r → RR s' r' G) (h2 : BB s r → s' = s ∧ r' = r) : RR s' r' (F ∧ G) := by
  rcases h with ⟨h, f⟩ | h
  · rcases h1 h with ⟨a, b⟩ | b
    · exact .inl ⟨a, f, b⟩
    · exact .inr b
  · obtain ⟨rfl, rfl⟩ := h2 h; exact .inr h
theorem RR.imp {s : St} {r : RS} {F G : Prop} (h : RR s r F) (f : F → G) : RR s r G := by
  rcases h with ⟨h, x⟩ | h
  · exact .inl ⟨h, f x⟩
  · exact .inr h
theorem Rel.rr {s : St} {r : RS} (h : Rel s r) : RR s r True := .inl ⟨h, trivial⟩

theorem bop_mem {w : Bs} {op : Bop} (h : bopOf w = some op) : op ∈ bops ∧ op.sign = w := by
  unfold bopOf at h
  exact ⟨List.mem_of_find?_eq_some h, by have := List.find?_some h; simpa using this⟩
theorem bop_tab : ∀ op ∈ bops, 1 ≤ op.level ∧ op.level ≤ 6 ∧ op.left = (if op.level = 3 then 4 else if op.level = 4 then 5 else op.level) ∧ op.right = (if op.level = 4 then 4 else op.level + 1) ∧ op.sign ∈ sigs ∧ op.kind ≠ 0 ∧ op.kind ≠ 27 ∧ two ⟨2, op.sign, 0, 0⟩ = (op.level, op.kind) := by decide
theorem two_text (t : Tok) (h : t.kind = 2) : two t = two ⟨2, t.text, 0, 0⟩ := by unfold two; rw [if_neg (by simp [h])]; rfl
theorem two_bop {t : Tok} (h : TokOk t) {op : Bop} (e : bopOf t.text = some op) : two t = (op.level, op.kind) := by
  obtain ⟨h1, h2⟩ := bop_mem e
  obtain ⟨a1, a2, a3, a4, a5, a6, a7, a8⟩ := bop_tab op h1
  have hk : t.kind = 2 := by
    rcases is_kind h (w := t.text) (by rw [← h2]; exact List.mem_append_right _ a5) rfl with k | k
    · exact k
    · exfalso
      have h3 := h.k3 k
      rw [← h2] at h3
      have : ∀ op ∈ bops, op.sign ∉ wds := by decide
      exact this op h1 h3
  rw [two_text t hk, ← h2]; exact a8
theorem two_none {t : Tok} (e : bopOf t.text = none) : (two t).1 = 0 := by
  unfold two
  split
  · rfl
  · have : (twoT.findIdx? fun p => p.1 == t.text) = none := by
      rw [List.findIdx?_eq_none_iff]
      intro p hp
      unfold bopOf at e
      rw [List.find?_eq_none] at e
      have h2 : ∀ p ∈ twoT, ∃ op ∈ bops, op.sign = p.1 := by decide
      obtain ⟨op, ho, h3⟩ := h2 p hp
      have := e op ho
      rw [h3] at this
      simpa using this
    rw [this]

/-- The reference's levels from hi down to lo, one after another. -/
inductive RD : Nat → Nat → RE → RS → RE → RS → Prop
  | stop {hi lo : Nat} {e : RE} {r : RS} : hi < lo → RD hi lo e r e r
  | go {hi lo m : Nat} {e e1 e2 : RE} {r r1 r2 : RS} : lo ≤ hi → rLoop m hi e r = some (e1, r1) → RD (hi - 1) lo e1 r1 e2 r2 → RD hi lo e r e2 r2
theorem RD.snoc {hi lo' : Nat} {e e1 : RE} {r r1 : RS} (h : RD hi lo' e r e1 r1) : ∀ {lo m : Nat} {e2 : RE} {r2 : RS}, lo' = lo + 1 → 1 ≤ lo → lo ≤ hi → rLoop m lo e1 r1 = some (e2, r2) → RD hi lo e r e2 r2 := by
  induction h with
  | stop h =>
    intro lo m e2 r2 hl h1 h2 h3
    rename_i hi lo0 e0 r0
    obtain rfl : hi = lo := by omega
    exact .go (Nat.le_refl _) h3 (.stop (by omega))
  | go h h1 h2 ih =>
    intro lo m e2 r2 hl h3 h4 h5
    exact .go h4 h1 (ih hl h3 (by omega) h5)
theorem loop_pass {m l : Nat} {e e1 : RE} {r r1 : RS} (h : rLoop m l e r = some (e1, r1)) (h2 : r.bad ≠ 0 ∨ (two r.at').1 ≠ l) : e1 = e ∧ r1 = r := by
  cases m with
  | zero => simp [rLoop] at h
  | succ m =>
    rw [rLoop] at h
    by_cases hb : r.bad = 0
    · rw [if_neg (by simp [hb])] at h
      rcases h2 with h2 | h2
      · exact absurd hb h2
      · rw [if_pos h2] at h
        injection h with h; injection h with h3 h4; exact ⟨h3.symm, h4.symm⟩
    · rw [if_pos hb] at h
      injection h with h; injection h with h3 h4; exact ⟨h3.symm, h4.symm⟩
theorem RD.none {hi lo : Nat} {e e2 : RE} {r r2 : RS} (h : RD hi lo e r e2 r2) : (r.bad ≠ 0 ∨ ∀ i, lo ≤ i → i ≤ hi → (two r.at').1 ≠ i) → e2 = e ∧ r2 = r := by
  induction h with
  | stop h => intro _; exact ⟨rfl, rfl⟩
  | go h h1 h2 ih =>
    intro h3
    obtain ⟨rfl, rfl⟩ := loop_pass h1 (h3.imp id fun f => f _ h (Nat.le_refl _))
    exact ih (h3.imp id fun f i a b => f i a (by omega))
theorem RD.at' {hi lo : Nat} {e e2 : RE} {r r2 : RS} (h : RD hi lo e r e2 r2) : lo ≤ (two r.at').1 → (two r.at').1 ≤ hi → ∃ m e1 r1, rLoop m (two r.at').1 e r = some (e1, r1) ∧ RD ((two r.at').1 - 1) lo e1 r1 e2 r2 := by
  induction h with
  | stop h => intro h1 h2; omega
  | @go hi lo m e e1 e2 r r1 r2 h h1 h2 ih =>
    intro h3 h4
    by_cases hj : (two r.at').1 = hi
    · rw [hj]; exact ⟨m, e1, r1, h1, h2⟩
    · obtain ⟨rfl, rfl⟩ := loop_pass h1 (.inr hj)
      exact ih h3 (by omega)
theorem climb_RD : ∀ (j l m : Nat) (r : RS) (e' : RE) (r' : RS), l + j = 7 → 1 ≤ l → rClimb m l r = some (e', r') → ∃ m0 e0 r0, rSingle m0 r = some (e0, r0) ∧ RD 6 l e0 r0 e' r'
  | 0, l, m, r, e', r', hl, h1, h => by
    obtain rfl : l = 7 := by omega
    cases m with
    | zero => simp [rClimb] at h
    | succ m =>
      rw [rClimb, if_pos rfl] at h
      exact ⟨m, e', r', h, .stop (by decide)⟩
  | j + 1, l, m, r, e', r', hl, h1, h => by
    cases m with
    | zero => simp [rClimb] at h
    | succ m =>
      rw [rClimb, if_neg (by omega), Option.bind_eq_some_iff] at h
      obtain ⟨⟨e1, r1⟩, h2, h3⟩ := h
      obtain ⟨m0, e0, r0, h4, h5⟩ := climb_RD j (l + 1) m r e1 r1 (by omega) (by omega) h2
      exact ⟨m0, e0, r0, h4, h5.snoc rfl h1 (by omega) h3⟩

def start (lev : Nat) : Nat := if lev = 7 then 6 else if lev = 3 then 2 else if lev = 4 then 3 else lev
def Inv (lev : Nat) (s : St) : Prop := ∀ op, bopOf s.nx.text = some op → op.level ≤ start lev ∨ (op.level = 3 ∧ lev ≤ 3)
def Post (l : Nat) (s : St) : Prop := ∀ op, bopOf s.nx.text = some op → op.level < l ∨ (op.level = 3 ∧ l ≤ 3)

/-- What the two make of the same tokens, with n steps. -/
structure Eqv (n : Nat) : Prop where
  ex : ∀ m s r u s' E r', Rel s r → cExpr n s = some (u, s') → rExpr m r = some (E, r') → RR s' r' (E = fm u)
  bi : ∀ l m s r u s' E r', 1 ≤ l → l ≤ 7 → Rel s r → cBin n l s = some (u, s') → rClimb m l r = some (E, r') → RR s' r' (E = fm u ∧ Post l s')
  lo : ∀ l e lev s r u s' E r', 1 ≤ l → l ≤ 7 → 1 ≤ lev → lev ≤ 7 → (lev = 7 ∨ l ≤ lev) → Inv lev s → Rel s r → cLoop n l e lev s = some (u, s') → RD (start lev) l (fm e) r E r' → RR s' r' (E = fm u ∧ Post l s')
  on : ∀ m s r u s' E r', Rel s r → cOne n s = some (u, s') → rSingle m r = some (E, r') → RR s' r' (E = fm u)
  atm : ∀ m s r u s' E r', Rel s r → cAtom n s = some (u, s') → rAtom m r = some (E, r') → RR s' r' (E = fm u)
  ar : ∀ m s r l s' L r', Rel s r → cArgs n s = some (l, s') → rKids m [] r = some (L, r') → RR s' (r'.eat wClose) (L = l.map fm)
  mo : ∀ m l s r l2 s' L r', l ≠ [] → Rel s r → cMore n l s = some (l2, s') → rKids m (l.map fm) r = some (L, r') → RR s' (r'.eat wClose) (L = l2.map fm)

theorem Rel.un {s : St} {r : RS} (h : Rel s r) : rUn r = unOf s.nx.text := by
  unfold rUn unOf
  rw [h.is (by decide), h.is (by decide), h.is (by decide), h.is (by decide), h.is (by decide)]
  simp only [St.is, beq_iff_eq]
theorem un_alls {w : Bs} {k : Nat} (h : unOf w = some k) : w ∈ alls ∧ 5 ≤ k ∧ k ≤ 9 := by
  unfold unOf at h
  split at h
  · rename_i e; injection h with h; subst h e; exact ⟨by decide, by decide, by decide⟩
  split at h
  · rename_i e; injection h with h; subst h e; exact ⟨by decide, by decide, by decide⟩
  split at h
  · rename_i e; injection h with h; subst h e; exact ⟨by decide, by decide, by decide⟩
  split at h
  · rename_i e; injection h with h; subst h e; exact ⟨by decide, by decide, by decide⟩
  split at h
  · rename_i e; injection h with h; subst h e; exact ⟨by decide, by decide, by decide⟩
  · cases h
theorem Rel.take' {s : St} {r : RS} (h : Rel s r) (e : s.nx.text ∈ alls) : Rel s.tk r.inc := h.tk (by rcases is_kind h.tok e rfl with k | k <;> omega)

theorem eqv_expr {n : Nat} (I : Eqv n) : ∀ m s r u s' E r', Rel s r → cBin n 1 s = some (u, s') → rClimb m 1 r = some (E, r') → RR s' r' (E = fm u) :=
  fun m s r u s' E r' h h1 h2 => (I.bi 1 m s r u s' E r' (by decide) (by decide) h h1 h2).imp And.left
/-- A part that is read where the two stand alike, or behind an error. -/
theorem Eqv.seq {n : Nat} (I : Eqv n) {m : Nat} {s : St} {r : RS} {F : Prop} (h : RR s r F) {x : U × St} {y : RE × RS} (h1 : cExpr n s = some x) (h2 : rExpr m r = some y) : RR x.2 y.2 (F ∧ y.1 = fm x.1) :=
  h.seq (fun h => I.ex m s r x.1 x.2 y.1 y.2 h h1 h2) fun h => ⟨(c_bad n).1 _ _ h.1 h1, (r_bad m).1 _ _ h.2.1 h2⟩

theorem eqv_loop {n : Nat} (I : Eqv n) (l : Nat) (e : U) (lev : Nat) (s : St) (r : RS) (u : U) (s' : St) (E : RE) (r' : RS) (h1 : 1 ≤ l) (h2 : l ≤ 7) (h3 : 1 ≤ lev) (h4 : lev ≤ 7) (h5 : lev = 7 ∨ l ≤ lev) (hi : Inv lev s) (h : Rel s r)
    (hc : cLoop (n + 1) l e lev s = some (u, s')) (hr : RD (start lev) l (fm e) r E r') : RR s' r' (E = fm u ∧ Post l s') := by
  rw [cLoop] at hc
  have hb0 : r.bad = 0 := h.2.1
  cases ho : bopOf s.nx.text with
  | none =>
    rw [ho] at hc
    injection hc with hc; injection hc with e1 e2
    subst e1 e2
    have h0 := two_none ho
    rw [h.nx] at h0
    obtain ⟨rfl, rfl⟩ := hr.none (.inr fun i a b => by omega)
    exact .inl ⟨h, rfl, fun op e => by rw [ho] at e; cases e⟩
  | some op =>
    rw [ho] at hc
    simp only at hc
    obtain ⟨b1, b2⟩ := bop_mem ho
    obtain ⟨t1, t2, t3, t4, t5, t6, t7, t8⟩ := bop_tab op b1
    have ht := two_bop h.tok ho
    rw [h.nx] at ht
    have ht1 : (two r.at').1 = op.level := by rw [ht]
    have ht2 : (two r.at').2 = op.kind := by rw [ht]
    have hv := hi op ho
    by_cases hst : op.level < l ∨ lev < op.left
    · rw [if_pos hst] at hc
      injection hc with hc; injection hc with e1 e2
      subst e1 e2
      obtain ⟨rfl, rfl⟩ := hr.none (.inr fun i a b => by
        rw [ht1]
        intro hx
        unfold start at b hv
        rcases hst with q | q
        · omega
        · rw [t3] at q
          repeat' split at q
          all_goals (repeat' split at b)
          all_goals (repeat' split at hv)
          all_goals omega)
      refine .inl ⟨h, rfl, fun op' e => ?_⟩
      rw [ho] at e; injection e with e; subst e
      rcases hst with q | q
      · exact .inl q
      · by_cases q2 : op.level < l
        · exact .inl q2
        · right
          rw [t3] at q
          unfold start at hv
          repeat' split at q
          all_goals (repeat' split at hv)
          all_goals omega
    · rw [if_neg hst, Option.bind_eq_some_iff] at hc
      obtain ⟨⟨u2, s2⟩, hc1, hc2⟩ := hc
      have q1 : l ≤ op.level := by omega
      have q2 : op.left ≤ lev := by omega
      have q3 : op.level ≤ start lev := by
        rcases hv with hv | ⟨hv, hv2⟩
        · exact hv
        · rw [t3, if_pos hv] at q2; omega
      obtain ⟨m, e1, r1, hl, hd⟩ := hr.at' (by rw [ht1]; exact q1) (by rw [ht1]; exact q3)
      have hin : Rel s.tk r.inc := h.take' (by rw [← b2]; exact List.mem_append_right _ t5)
      rw [ht1] at hl hd
      have hr1 : 1 ≤ op.right ∧ op.right ≤ 7 := by rw [t4]; split <;> omega
      have hmk : ∀ E2, E2 = fm u2 → mk op.kind r.at' [] [fm e, E2] = fm (prt op.kind s.nx [e, u2]) := fun E2 h2 => by
        rw [h2, ← h.nx]
        have := mk_fm op.kind s.nx [] [] 0 [e, u2]
        unfold fname at this
        rw [if_neg t6, if_neg t7] at this
        exact this
      have key : ∃ m2 E2 r2, rClimb m2 op.right r.inc = some (E2, r2) ∧ (r2.bad ≠ 0 → r' = r2) ∧ (op.level = 3 ∨ op.level = 4 → e1 = mk op.kind r.at' [] [fm e, E2] ∧ r1 = r2) ∧ (op.level ≠ 3 → op.level ≠ 4 → ∃ m3, rLoop m3 op.level (mk op.kind r.at' [] [fm e, E2]) r2 = some (e1, r1)) := by
        cases m with
        | zero => simp [rLoop] at hl
        | succ m =>
          rw [rLoop, if_neg (by rw [hb0]; decide), if_neg (by rw [ht1]; simp), ht2] at hl
          by_cases q4 : op.level = 4
          · rw [if_pos q4, Option.bind_eq_some_iff] at hl
            obtain ⟨⟨E2, r2⟩, a1, a2⟩ := hl
            injection a2 with a2; injection a2 with a3 a4
            subst a3 a4
            exact ⟨m, E2, r2, by rw [t4, if_pos q4]; exact a1, fun hb => (hd.none (.inl hb)).2, fun _ => ⟨rfl, rfl⟩, fun _ h => absurd q4 h⟩
          · rw [if_neg q4, Option.bind_eq_some_iff] at hl
            obtain ⟨⟨E2, r2⟩, a1, a2⟩ := hl
            by_cases q5 : op.level = 3
            · rw [if_pos q5] at a2
              injection a2 with a2; injection a2 with a3 a4
              subst a3 a4
              exact ⟨m, E2, r2, by rw [t4, if_neg q4]; exact a1, fun hb => (hd.none (.inl hb)).2, fun _ => ⟨rfl, rfl⟩, fun h _ => absurd q5 h⟩
            · rw [if_neg q5] at a2
              refine ⟨m, E2, r2, by rw [t4, if_neg q4]; exact a1, fun hb => ?_, fun h => by exfalso; omega, fun _ _ => ⟨m, a2⟩⟩
              obtain ⟨-, rfl⟩ := loop_pass a2 (.inl hb)
              exact (hd.none (.inl hb)).2
      obtain ⟨m2, E2, r2, k1, k2, k3, k4⟩ := key
      rcases I.bi op.right m2 s.tk r.inc u2 s2 E2 r2 hr1.1 hr1.2 hin hc1 k1 with ⟨g1, g2, g3⟩ | g1
      · have hmk2 := hmk E2 g2
        refine I.lo l (prt op.kind s.nx [e, u2]) op.level s2 r2 u s' E r' h1 h2 t1 (by omega) (.inr q1) ?_ g1 hc2 ?_
        · intro op' ho'
          rcases g3 op' ho' with g | ⟨g, g'⟩
          · rw [t4] at g
            by_cases q9 : op'.level = 3 ∧ op.level ≤ 3
            · exact .inr q9
            · left
              unfold start
              repeat' split at g
              all_goals (repeat' split)
              all_goals omega
          · rw [t4] at g'
            right
            split at g' <;> omega
        · rw [← hmk2]
          by_cases q4 : op.level = 3 ∨ op.level = 4
          · obtain ⟨a1, a2⟩ := k3 q4
            rw [← a1, ← a2]
            have : start op.level = op.level - 1 := by unfold start; rcases q4 with q | q <;> rw [q] <;> rfl
            rw [this]; exact hd
          · obtain ⟨m3, a1⟩ := k4 (by omega) (by omega)
            have : start op.level = op.level := by unfold start; rw [if_neg (by omega), if_neg (by omega), if_neg (by omega)]
            rw [this]
            exact .go q1 a1 hd
      · have e1 := (c_bad n).2.2.1 _ _ _ _ _ g1.1 hc2
        simp only at e1
        rw [e1, k2 g1.2.1]
        exact .inr g1

theorem mk_fm' (k : Nat) (t : Tok) (ks : List U) (h0 : k ≠ 0) (h1 : k ≠ 27) : mk k t [] (ks.map fm) = fm (prt k t ks) := by
  have := mk_fm k t [] [] 0 ks
  unfold fname at this
  rw [if_neg h0, if_neg h1] at this
  exact this
theorem mk_nm (k : Nat) (t : Tok) (nm ot : Bs) (ks : List U) (h0 : k ≠ 0) (h1 : k ≠ 27) : mk k t nm (ks.map fm) = fm (.node k nm ot 0 t.line t.col ks) := by
  have := mk_fm k t nm ot 0 ks
  unfold fname at this
  rw [if_neg h0, if_neg h1] at this
  exact this
theorem eqv_bin {n : Nat} (I : Eqv n) (l m : Nat) (s : St) (r : RS) (u : U) (s' : St) (E : RE) (r' : RS) (h1 : 1 ≤ l) (h2 : l ≤ 7) (h : Rel s r) (hc : cBin (n + 1) l s = some (u, s')) (hr : rClimb m l r = some (E, r')) : RR s' r' (E = fm u ∧ Post l s') := by
  rw [cBin, Option.bind_eq_some_iff] at hc
  obtain ⟨⟨u1, s1⟩, c1, c2⟩ := hc
  obtain ⟨m0, e0, r0, d1, d2⟩ := climb_RD (7 - l) l m r E r' (by omega) h1 hr
  rcases I.on m0 s r u1 s1 e0 r0 h c1 d1 with ⟨g1, g2⟩ | g1
  · subst g2
    refine I.lo l u1 7 s1 r0 u s' E r' h1 h2 (by decide) (by decide) (.inl rfl) ?_ g1 c2 d2
    intro op ho
    exact .inl (bop_tab op (bop_mem ho).1).2.1
  · have e1 := (c_bad n).2.2.1 _ _ _ _ _ g1.1 c2
    simp only at e1
    rw [e1, (d2.none (.inl g1.2.1)).2]
    exact .inr g1
theorem eqv_one {n : Nat} (I : Eqv n) (m : Nat) (s : St) (r : RS) (u : U) (s' : St) (E : RE) (r' : RS) (h : Rel s r) (hc : cOne (n + 1) s = some (u, s')) (hr : rSingle m r = some (E, r')) : RR s' r' (E = fm u) := by
  cases m with
  | zero => simp [rSingle] at hr
  | succ m =>
    rw [rSingle, h.un] at hr
    rw [cOne] at hc
    cases ho : unOf s.nx.text with
    | none =>
      rw [ho] at hr hc
      exact I.atm m s r u s' E r' h hc hr
    | some k =>
      rw [ho] at hr hc
      simp only [Option.bind_eq_some_iff] at hr hc
      obtain ⟨⟨u1, s1⟩, c1, c2⟩ := hc
      obtain ⟨⟨e1, r1⟩, d1, d2⟩ := hr
      injection c2 with c2; injection c2 with c3 c4
      injection d2 with d2; injection d2 with d3 d4
      obtain ⟨q1, q2, q3⟩ := un_alls ho
      subst c3 c4 d3 d4
      refine (I.on m s.tk r.inc u1 s1 e1 r1 (h.take' q1) c1 d1).imp fun e => ?_
      rw [e, ← h.nx]
      exact mk_fm' k s.nx [u1] (by omega) (by omega)
theorem eqv_more {n : Nat} (I : Eqv n) (m : Nat) (l : List U) (s : St) (r : RS) (l2 : List U) (s' : St) (L : List RE) (r' : RS) (hl : l ≠ []) (h : Rel s r) (hc : cMore (n + 1) l s = some (l2, s')) (hr : rKids m (l.map fm) r = some (L, r')) : RR s' (r'.eat wClose) (L = l2.map fm) := by
  cases m with
  | zero => simp [rKids] at hr
  | succ m =>
    rw [rKids] at hr
    rw [cMore] at hc
    have hlen : (l.map fm).length > 0 := by rw [List.length_map]; exact List.length_pos_iff.2 hl
    by_cases hcm : s.is wComma = true
    · rw [if_pos hcm, Option.bind_eq_some_iff] at hc
      obtain ⟨⟨u1, s1⟩, c1, c2⟩ := hc
      have hne : r.is wClose = false := by
        rw [h.is (by decide)]
        have := St.is_true hcm
        unfold St.is; rw [this]; decide
      rw [if_neg (by rw [hne, h.2.1]; simp), if_pos hlen, Option.bind_eq_some_iff] at hr
      obtain ⟨⟨e1, r1⟩, d1, d2⟩ := hr
      have heat : r.eat wComma = r.inc := by unfold RS.eat; rw [h.is (by decide), if_pos hcm]
      rw [heat] at d1
      rcases I.ex m s.tk r.inc u1 s1 e1 r1 (h.take (by decide) hcm) c1 d1 with ⟨g1, g2⟩ | g1
      · subst g2
        have e9 : l.map fm ++ [fm u1] = (l ++ [u1]).map fm := by simp
        simp only at d2
        rw [e9] at d2
        exact I.mo m (l ++ [u1]) s1 r1 l2 s' L r' (by simp) g1 c2 d2
      · simp only at c2 d2
        have a1 : s' = s1 := by
          cases n with
          | zero => simp [cMore] at c2
          | succ n =>
            rw [cMore, g1.1.is (by decide)] at c2
            injection c2 with c2; injection c2 with c3 c4
            rw [← c4]; exact g1.1.exp (by decide)
        have a2 : r' = r1 := by
          cases m with
          | zero => simp [rKids] at d2
          | succ m =>
            rw [rKids, if_pos (.inl g1.2.1)] at d2
            injection d2 with d2; injection d2 with d3 d4
            exact d4.symm
        rw [a1, a2, RS.eat_bad g1.2.1]
        exact .inr g1
    · rw [if_neg hcm] at hc
      injection hc with hc; injection hc with c1 c2
      subst c1
      by_cases hcl : s.is wClose = true
      · rw [if_pos (.inr (by rw [h.is (by decide)]; exact hcl))] at hr
        injection hr with hr; injection hr with d1 d2
        subst d1 d2 c2
        exact (h.rr.exp (by decide)).imp fun _ => rfl
      · have hcl2 : r.is wClose = false := by rw [h.is (by decide)]; simpa using hcl
        have hcm2 : r.is wComma = false := by rw [h.is (by decide)]; simpa using hcm
        rw [if_neg (by rw [hcl2, h.2.1]; simp), if_pos hlen, Option.bind_eq_some_iff] at hr
        obtain ⟨⟨e1, r1⟩, d1, d2⟩ := hr
        have heat : r.eat wComma = r.bd r.at' 1 := by unfold RS.eat; rw [hcm2]; rfl
        have heat2 : s.exp wClose = s.fail s.nx 1 := by unfold St.exp; rw [if_neg hcl]
        have hb : BB (s.fail s.nx 1) (r.bd r.at' 1) := h.fail (by decide) (by rw [h.nx])
        rw [heat] at d1
        have a1 := (r_bad m).1 _ _ hb.2.1 d1
        simp only at a1 d2
        rw [a1] at d2
        have a2 : r' = r.bd r.at' 1 := by
          cases m with
          | zero => simp [rKids] at d2
          | succ m =>
            rw [rKids, if_pos (.inl hb.2.1)] at d2
            injection d2 with d2; injection d2 with d3 d4
            exact d4.symm
        rw [a2, RS.eat_bad hb.2.1, ← c2, heat2]
        exact .inr hb
theorem more_bad {n : Nat} {l l2 : List U} {s s' : St} (h : SB s) (e : cMore n l s = some (l2, s')) : s' = s := by
  cases n with
  | zero => simp [cMore] at e
  | succ n =>
    rw [cMore, h.is (by decide)] at e
    injection e with e; injection e with e1 e2
    rw [← e2]; exact h.exp (by decide)
theorem kids_bad {n : Nat} {l l2 : List RE} {r r' : RS} (h : r.bad ≠ 0) (e : rKids n l r = some (l2, r')) : r' = r := by
  cases n with
  | zero => simp [rKids] at e
  | succ n =>
    rw [rKids, if_pos (.inl h)] at e
    injection e with e; injection e with e1 e2
    exact e2.symm
theorem eqv_args {n : Nat} (I : Eqv n) (m : Nat) (s : St) (r : RS) (l : List U) (s' : St) (L : List RE) (r' : RS) (h : Rel s r) (hc : cArgs (n + 1) s = some (l, s')) (hr : rKids m [] r = some (L, r')) : RR s' (r'.eat wClose) (L = l.map fm) := by
  rw [cArgs] at hc
  cases m with
  | zero => simp [rKids] at hr
  | succ m =>
    by_cases hcl : s.is wClose = true
    · rw [if_pos hcl] at hc
      rw [rKids, if_pos (.inr (by rw [h.is (by decide)]; exact hcl))] at hr
      injection hc with hc; injection hc with c3 c4
      injection hr with hr; injection hr with d3 d4
      subst c3 c4 d3 d4
      refine .inl ⟨?_, rfl⟩
      have : r.eat wClose = r.inc := by unfold RS.eat; rw [h.is (by decide), if_pos hcl]
      rw [this]; exact h.take (by decide) hcl
    · rw [if_neg hcl, Option.bind_eq_some_iff] at hc
      have hcl2 : r.is wClose = false := by rw [h.is (by decide)]; simpa using hcl
      rw [rKids, if_neg (by rw [hcl2]; simp [h.2.1]), if_neg (by simp), Option.bind_eq_some_iff] at hr
      obtain ⟨⟨u2, s2⟩, c1, c2⟩ := hc
      obtain ⟨⟨E2, r2⟩, d1, d2⟩ := hr
      simp only [List.nil_append] at c2 d2
      rcases I.ex m s r u2 s2 E2 r2 h c1 d1 with ⟨g1, g2⟩ | g1
      · subst g2
        exact I.mo m [u2] s2 r2 l s' L r' (by simp) g1 c2 d2
      · rw [more_bad g1.1 c2, kids_bad g1.2.1 d2, RS.eat_bad g1.2.1]
        exact .inr g1
theorem is_kd {s : St} {r : RS} (h : Rel s r) {w : Bs} (hw : w ∈ alls) (hk : s.nx.kind ≠ 2) (hk2 : s.nx.kind ≠ 3) : s.is w = false := by
  cases e : s.is w with
  | false => rfl
  | true => rcases h.kind hw e with k | k <;> contradiction
set_option maxHeartbeats 1000000 in
theorem eqv_atom {n : Nat} (I : Eqv n) (m : Nat) (s : St) (r : RS) (u : U) (s' : St) (E : RE) (r' : RS) (h : Rel s r) (hc : cAtom (n + 1) s = some (u, s')) (hr : rAtom m r = some (E, r')) : RR s' r' (E = fm u) := by
  cases m with
  | zero => simp [rAtom] at hr
  | succ m =>
    rw [rAtom, if_neg (by simp [h.2.1]), h.is (by decide), h.is (by decide), h.is (by decide), h.is (by decide), h.is (by decide), ← h.nx] at hr
    rw [cAtom] at hc
    by_cases hk1 : s.nx.kind = 1
    · rw [if_pos hk1] at hc
      have hz : ∀ w ∈ alls, s.is w = false := fun w hw => is_kd h hw (by omega) (by omega)
      rw [hz _ (by decide), hz _ (by decide), hz _ (by decide), hz _ (by decide), if_neg (by decide), if_neg (by decide), if_neg (by decide), if_neg (by decide), if_pos hk1] at hr
      injection hc with hc; injection hc with c1 c2
      injection hr with hr; injection hr with d1 d2
      subst c1 c2 d1 d2
      refine .inl ⟨h.tk (by omega), ?_⟩
      have := mk_fm 0 s.nx [] [] (dn s.nx.text) []
      unfold fname at this
      rw [if_pos rfl] at this
      have hz2 : zText ((dn s.nx.text : Nat) : Int) = s.nx.text := by
        unfold zText
        rw [if_neg (by omega), Int.natAbs_natCast]
        exact ((h.tok.k1 hk1).2).text
      rw [hz2] at this
      exact this
    · rw [if_neg hk1] at hc hr
      by_cases hk0 : s.nx.kind = 0
      · rw [if_pos hk0] at hc
        have hz : ∀ w ∈ alls, s.is w = false := fun w hw => is_kd h hw (by omega) (by omega)
        have hin : Rel s.tk r.inc := h.tk (by omega)
        have hnm : r.name = r.inc := by unfold RS.name; rw [← h.nx, if_pos hk0, if_pos h.2.1]
        rw [hz _ (by decide), hz _ (by decide), hz _ (by decide), hz _ (by decide), hz _ (by decide), if_neg (by decide), if_neg (by decide), if_neg (by decide), if_neg (by decide), if_neg (by decide), hnm, hin.is (by decide)] at hr
        by_cases ho : s.tk.is wOpen = true
        · rw [if_pos ho, Option.bind_eq_some_iff] at hc hr
          obtain ⟨⟨l1, s1⟩, c1, c2⟩ := hc
          obtain ⟨⟨L1, r1⟩, d1, d2⟩ := hr
          injection c2 with c2; injection c2 with c3 c4
          injection d2 with d2; injection d2 with d3 d4
          subst c3 c4 d3 d4
          have hin2 : Rel s.tk.tk r.inc.inc := hin.take (by decide) ho
          have key := I.ar m s.tk.tk r.inc.inc l1 s1 L1 r1 hin2 c1 d1
          refine key.imp fun e => ?_
          rw [e]
          exact mk_nm 24 s.nx s.nx.text [] l1 (by decide) (by decide)
        · rw [if_neg ho] at hc hr
          injection hc with hc; injection hc with c1 c2
          injection hr with hr; injection hr with d1 d2
          subst c1 c2 d1 d2
          exact .inl ⟨hin, mk_nm 3 s.nx s.nx.text [] [] (by decide) (by decide)⟩
      · rw [if_neg hk0] at hc
        by_cases w1 : s.is wV = true
        · have w2 : s.is wTrue = false := by unfold St.is; rw [St.is_true w1]; decide
          have w3 : s.is wFalse = false := by unfold St.is; rw [St.is_true w1]; decide
          rw [if_pos w1] at hc
          rw [w2, w3, w1, if_neg (by decide), if_neg (by decide), if_pos rfl] at hr
          injection hc with hc; injection hc with c1 c2
          injection hr with hr; injection hr with d1 d2
          subst c1 c2 d1 d2
          refine .inl ⟨h.take (by decide) w1, ?_⟩
          have := mk_nm 3 s.nx wV [] [] (by decide) (by decide)
          unfold nmd
          rw [St.is_true w1]; exact this
        · rw [if_neg w1] at hc hr
          by_cases w2 : s.is wTrue = true
          · rw [if_pos w2] at hc hr
            injection hc with hc; injection hc with c1 c2
            injection hr with hr; injection hr with d1 d2
            subst c1 c2 d1 d2
            exact .inl ⟨h.take (by decide) w2, mk_fm' 1 s.nx [] (by decide) (by decide)⟩
          · rw [if_neg w2] at hc hr
            by_cases w3 : s.is wFalse = true
            · rw [if_pos w3] at hc hr
              injection hc with hc; injection hc with c1 c2
              injection hr with hr; injection hr with d1 d2
              subst c1 c2 d1 d2
              exact .inl ⟨h.take (by decide) w3, mk_fm' 2 s.nx [] (by decide) (by decide)⟩
            · rw [if_neg w3] at hc hr
              by_cases w4 : s.is wNil = true
              · rw [if_pos w4] at hc hr
                injection hc with hc; injection hc with c1 c2
                injection hr with hr; injection hr with d1 d2
                subst c1 c2 d1 d2
                exact .inl ⟨h.take (by decide) w4, mk_fm' 4 s.nx [] (by decide) (by decide)⟩
              · rw [if_neg w4] at hc hr
                by_cases w5 : s.is wOpen = true
                · rw [if_pos w5, Option.bind_eq_some_iff] at hc hr
                  obtain ⟨⟨u1, s1⟩, c1, c2⟩ := hc
                  obtain ⟨⟨E1, r1⟩, d1, d2⟩ := hr
                  injection c2 with c2; injection c2 with c3 c4
                  injection d2 with d2; injection d2 with d3 d4
                  subst c3 c4 d3 d4
                  exact (I.ex m s.tk r.inc u1 s1 E1 r1 (h.take (by decide) w5) c1 d1).exp (by decide)
                · rw [if_neg w5] at hc hr
                  rcases h.name with ⟨-, g⟩ | g
                  · exact absurd g hk0
                  · rw [RS.is_bad g.2.1, if_neg (by decide)] at hr
                    injection hc with hc; injection hc with c1 c2
                    injection hr with hr; injection hr with d1 d2
                    subst c1 c2 d1 d2
                    refine .inr ?_
                    have : s.name = s.tk.fail s.nx 1 := by unfold St.name; rw [if_neg hk0]
                    rw [← this]; exact g

theorem Rel.inl {s : St} {r : RS} (h : Rel s r) {F : Prop} (f : F) : RR s r F := .inl ⟨h, f⟩
set_option maxHeartbeats 1000000 in
theorem eqv_ex {n : Nat} (I : Eqv n) (J : ∀ k, k < n → Eqv k) (m : Nat) (s : St) (r : RS) (u : U) (s' : St) (E : RE) (r' : RS) (h : Rel s r) (hc : cExpr (n + 1) s = some (u, s')) (hr : rExpr m r = some (E, r')) : RR s' r' (E = fm u) := by
  cases m with
  | zero => simp [rExpr] at hr
  | succ m =>
  rw [rExpr, h.is (by decide), h.is (by decide), h.is (by decide), h.is (by decide)] at hr
  rw [cExpr] at hc
  by_cases w1 : s.is wLet = true
  · rw [if_pos w1] at hc hr
    cases n with
    | zero => simp [cLet] at hc
    | succ n =>
    have K := J n (by omega)
    rw [cLet] at hc
    simp only [Option.bind_eq_some_iff] at hc hr
    obtain ⟨x1, c1, x2, c2, c3⟩ := hc
    obtain ⟨y1, d1, y2, d2, d3⟩ := hr
    injection c3 with c3; injection c3 with c4 c5
    injection d3 with d3; injection d3 with d4 d5
    subst c4 c5 d4 d5
    have h1 := K.seq (((h.take (by decide) w1).rr.name).exp (w := wEq) (by decide)) c1 d1
    have h2 := K.seq (h1.exp (w := wIn) (by decide)) c2 d2
    refine h2.imp fun ⟨⟨⟨_, e0, _⟩, e1⟩, e2⟩ => ?_
    rw [e1, e2, ← e0, ← h.nx]
    exact mk_nm 26 s.nx s.tk.nx.text [] [x1.1, x2.1] (by decide) (by decide)
  · rw [if_neg w1] at hc hr
    by_cases w2 : s.is wIf = true
    · rw [if_pos w2] at hc hr
      cases n with
      | zero => simp [cIf] at hc
      | succ n =>
      have K := J n (by omega)
      rw [cIf] at hc
      simp only [Option.bind_eq_some_iff] at hc hr
      obtain ⟨x1, c1, x2, c2, x3, c3, c4⟩ := hc
      obtain ⟨y1, d1, y2, d2, y3, d3, d4⟩ := hr
      injection c4 with c4; injection c4 with c5 c6
      injection d4 with d4; injection d4 with d5 d6
      subst c5 c6 d5 d6
      have h1 := K.seq (h.take (by decide) w2).rr c1 d1
      have h2 := K.seq (h1.exp (w := wThen) (by decide)) c2 d2
      have h3 := K.seq (h2.exp (w := wElse) (by decide)) c3 d3
      refine h3.imp fun ⟨⟨⟨_, e1⟩, e2⟩, e3⟩ => ?_
      rw [e1, e2, e3, ← h.nx]
      exact mk_fm' 25 s.nx [x1.1, x2.1, x3.1] (by decide) (by decide)
    · rw [if_neg w2] at hc hr
      by_cases w3 : s.is wMatch = true
      · rw [if_pos w3] at hc hr
        cases n with
        | zero => simp [cMatch] at hc
        | succ n =>
        have K := J n (by omega)
        rw [cMatch] at hc
        simp only [Option.bind_eq_some_iff] at hc hr
        obtain ⟨x1, c1, x2, c2, x3, c3, c4⟩ := hc
        obtain ⟨y1, d1, y2, d2, y3, d3, d4⟩ := hr
        injection c4 with c4; injection c4 with c5 c6
        injection d4 with d4; injection d4 with d5 d6
        subst c5 c6 d5 d6
        have h1 := K.seq (h.take (by decide) w3).rr c1 d1
        have h2 := K.seq (((h1.exp (w := wWith) (by decide)).exp (w := wNil) (by decide)).exp (w := wArrow) (by decide)) c2 d2
        have h3 := K.seq (((((h2.exp (w := wBar) (by decide)).name).exp (w := wCons) (by decide)).name).exp (w := wArrow) (by decide)) c3 d3
        refine h3.imp fun ⟨⟨⟨⟨⟨_, e1⟩, e2⟩, n1, _⟩, n2, _⟩, e3⟩ => ?_
        rw [e1, e2, e3, ← n1, ← n2, ← h.nx]
        have := mk_fm 27 s.nx (x2.2.exp wBar).nx.text (((x2.2.exp wBar).name).exp wCons).nx.text 0 [x1.1, x2.1, x3.1]
        unfold fname at this
        rw [if_neg (by decide), if_pos rfl] at this
        exact this
      · rw [if_neg w3] at hc hr
        by_cases w4 : s.is wAssert = true
        · rw [if_pos w4] at hc hr
          cases n with
          | zero => simp [cAssert] at hc
          | succ n =>
          have K := J n (by omega)
          rw [cAssert] at hc
          simp only [Option.bind_eq_some_iff] at hc hr
          obtain ⟨x1, c1, x2, c2, c3⟩ := hc
          obtain ⟨y1, d1, y2, d2, d3⟩ := hr
          injection c3 with c3; injection c3 with c4 c5
          injection d3 with d3; injection d3 with d4 d5
          subst c4 c5 d4 d5
          have h1 := K.seq (h.take (by decide) w4).rr c1 d1
          have h2 := K.seq (h1.exp (w := wSemi) (by decide)) c2 d2
          refine h2.imp fun ⟨⟨_, e1⟩, e2⟩ => ?_
          rw [e1, e2, ← h.nx]
          exact mk_fm' 28 s.nx [x1.1, x2.1] (by decide) (by decide)
        · rw [if_neg w4] at hc hr
          exact (I.bi 1 m s r u s' E r' (by decide) (by decide) h hc hr).imp And.left
theorem eqv_all (n : Nat) : Eqv n := by
  induction n using Nat.strongRecOn with
  | ind n ih =>
    cases n with
    | zero => constructor <;> intros <;> simp_all [cExpr, cBin, cLoop, cOne, cAtom, cMore, cArgs]
    | succ n =>
      have I := ih n (by omega)
      exact ⟨fun m s r u s' E r' h hc hr => eqv_ex I (fun k hk => ih k (by omega)) m s r u s' E r' h hc hr,
        fun l m s r u s' E r' h1 h2 h hc hr => eqv_bin I l m s r u s' E r' h1 h2 h hc hr,
        fun l e lev s r u s' E r' h1 h2 h3 h4 h5 hi h hc hr => eqv_loop I l e lev s r u s' E r' h1 h2 h3 h4 h5 hi h hc hr,
        fun m s r u s' E r' h hc hr => eqv_one I m s r u s' E r' h hc hr,
        fun m s r u s' E r' h hc hr => eqv_atom I m s r u s' E r' h hc hr,
        fun m s r l s' L r' h hc hr => eqv_args I m s r l s' L r' h hc hr,
        fun m l s r l2 s' L r' hl h hc hr => eqv_more I m l s r l2 s' L r' hl h hc hr⟩
/-- A whole expression. -/
theorem eqv_whole {n m : Nat} {s : St} {r : RS} {F : Prop} (h : RR s r F) {x : U × St} {y : Bs × RS} (hc : cAll n s = some x) (hr : rAll m r = some y) : RR x.2 y.2 (F ∧ y.1 = frm x.1) := by
  unfold cAll at hc
  unfold rAll at hr
  rw [Option.bind_eq_some_iff] at hc hr
  obtain ⟨⟨u, s1⟩, c1, c2⟩ := hc
  obtain ⟨⟨E, r1⟩, d1, d2⟩ := hr
  injection c2 with c2
  injection d2 with d2
  subst c2 d2
  refine h.seq (fun h => ?_) fun h => ?_
  · rcases (eqv_all n).ex m s r u s1 E r1 h c1 d1 with ⟨g1, g2⟩ | g1
    · subst g2
      simp only [fm, g1.2.1, true_and]
      by_cases hd : 60 < ud u
      · rw [if_pos hd, if_pos hd]; exact .inr (g1.fail (by decide) (by rw [h.nx]))
      · rw [if_neg hd, if_neg hd]; exact .inl ⟨g1, trivial⟩
    · simp only [g1.2.1, false_and, if_false]
      split
      · rw [g1.1.fail]; exact .inr g1
      · exact .inr g1
  · have e1 := (c_bad n).1 _ _ h.1 c1
    have e2 := (r_bad m).1 _ _ h.2.1 d1
    simp only at e1 e2
    subst e1 e2
    refine ⟨?_, ?_⟩
    · simp only; split
      · exact h.1.fail _ _
      · rfl
    · simp only [h.2.1, false_and, if_false]
end Go.Proofs.YtdpfgfkoboihcaaDoor
