/-
  Plain mathematics of layer 6: with enough steps each call of the parser ends; what it leaves of the tokens is in order; how deep a tree is at most.
-/
import Derived.Test.YtdpfgfkoboihcaaDoorPsH
namespace Go.Proofs.YtdpfgfkoboihcaaDoor
set_option maxRecDepth 100000
set_option linter.unusedVariables false

theorem good_tk {s : St} (h : GoodL s.rest) : GoodL s.tk.rest := by
  unfold St.tk
  split
  · exact h
  · rename_i hk; exact h.tail hk
theorem good_last : ∀ {l : List Tok}, GoodL l → GoodL (l.drop (l.length - 1))
  | [], h => h
  | [t], h => h
  | t :: u :: ts, h => by
    have := good_last h.2.2
    simp only [List.length_cons, Nat.add_sub_cancel] at this ⊢
    rw [List.drop_succ_cons]; exact this
theorem good_fail {s : St} (h : GoodL s.rest) (t : Tok) (c : Nat) : GoodL (s.fail t c).rest := good_last h
theorem good_exp {s : St} (h : GoodL s.rest) (w : Bs) : GoodL (s.exp w).rest := by unfold St.exp; split; exact good_tk h; exact good_fail h _ _
theorem good_name {s : St} (h : GoodL s.rest) : GoodL s.name.rest := by unfold St.name; split; exact good_tk h; exact good_fail (good_tk h) _ _
theorem c_good (n : Nat) : (∀ s x, GoodL s.rest → cExpr n s = some x → GoodL x.2.rest) ∧ (∀ s x, GoodL s.rest → cLet n s = some x → GoodL x.2.rest) ∧ (∀ s x, GoodL s.rest → cIf n s = some x → GoodL x.2.rest) ∧ (∀ s x, GoodL s.rest → cMatch n s = some x → GoodL x.2.rest) ∧ (∀ s x, GoodL s.rest → cAssert n s = some x → GoodL x.2.rest) ∧
    (∀ l s x, GoodL s.rest → cBin n l s = some x → GoodL x.2.rest) ∧ (∀ l e v s x, GoodL s.rest → cLoop n l e v s = some x → GoodL x.2.rest) ∧ (∀ s x, GoodL s.rest → cOne n s = some x → GoodL x.2.rest) ∧ (∀ s x, GoodL s.rest → cAtom n s = some x → GoodL x.2.rest) ∧ (∀ s x, GoodL s.rest → cArgs n s = some x → GoodL x.2.rest) ∧ (∀ l s x, GoodL s.rest → cMore n l s = some x → GoodL x.2.rest) := by
  induction n with
  | zero => refine ⟨?_, ?_, ?_, ?_, ?_, ?_, ?_, ?_, ?_, ?_, ?_⟩ <;> intros <;> simp_all [cExpr, cLet, cIf, cMatch, cAssert, cBin, cLoop, cOne, cAtom, cArgs, cMore]
  | succ n ih =>
    obtain ⟨i1, i2, i3, i4, i5, i6, i7, i8, i9, i10, i11⟩ := ih
    refine ⟨?_, ?_, ?_, ?_, ?_, ?_, ?_, ?_, ?_, ?_, ?_⟩
    · intro s x g h
      rw [cExpr] at h
      split at h; exact i2 _ _ g h
      split at h; exact i3 _ _ g h
      split at h; exact i4 _ _ g h
      split at h; exact i5 _ _ g h
      exact i6 _ _ _ g h
    · intro s x g h
      rw [cLet] at h
      simp only [Option.bind_eq_some_iff] at h
      obtain ⟨r1, h1, r2, h2, h3⟩ := h
      injection h3 with h3; subst h3
      show GoodL r2.2.rest
      exact i1 _ _ (good_exp (i1 _ _ (good_exp (good_name (good_tk g)) _) h1) _) h2
    · intro s x g h
      rw [cIf] at h
      simp only [Option.bind_eq_some_iff] at h
      obtain ⟨r1, h1, r2, h2, r3, h3, h4⟩ := h
      injection h4 with h4; subst h4
      show GoodL r3.2.rest
      exact i1 _ _ (good_exp (i1 _ _ (good_exp (i1 _ _ (good_tk g) h1) _) h2) _) h3
    · intro s x g h
      rw [cMatch] at h
      simp only [Option.bind_eq_some_iff] at h
      obtain ⟨r1, h1, r2, h2, r3, h3, h4⟩ := h
      injection h4 with h4; subst h4
      show GoodL r3.2.rest
      exact i1 _ _ (good_exp (good_name (good_exp (good_name (good_exp (i1 _ _ (good_exp (good_exp (good_exp (i1 _ _ (good_tk g) h1) _) _) _) h2) _)) _)) _) h3
    · intro s x g h
      rw [cAssert] at h
      simp only [Option.bind_eq_some_iff] at h
      obtain ⟨r1, h1, r2, h2, h3⟩ := h
      injection h3 with h3; subst h3
      show GoodL r2.2.rest
      exact i1 _ _ (good_exp (i1 _ _ (good_tk g) h1) _) h2
    · intro l s x g h
      rw [cBin, Option.bind_eq_some_iff] at h
      obtain ⟨r1, h1, h2⟩ := h
      exact i7 _ _ _ _ _ (i8 _ _ g h1) h2
    · intro l e v s x g h
      rw [cLoop] at h
      split at h
      · injection h with h; subst h; exact g
      · split at h
        · injection h with h; subst h; exact g
        · rw [Option.bind_eq_some_iff] at h
          obtain ⟨r1, h1, h2⟩ := h
          exact i7 _ _ _ _ _ (i6 _ _ _ (good_tk g) h1) h2
    · intro s x g h
      rw [cOne] at h
      split at h
      · exact i9 _ _ g h
      · rw [Option.bind_eq_some_iff] at h
        obtain ⟨r1, h1, h2⟩ := h
        injection h2 with h2; subst h2
        show GoodL r1.2.rest
        exact i8 _ _ (good_tk g) h1
    · intro s x g h
      rw [cAtom] at h
      split at h
      · injection h with h; subst h; exact good_tk g
      split at h
      · split at h
        · rw [Option.bind_eq_some_iff] at h
          obtain ⟨r1, h1, h2⟩ := h
          injection h2 with h2; subst h2
          exact i10 _ _ (good_tk (good_tk g)) h1
        · injection h with h; subst h; exact good_tk g
      split at h
      · injection h with h; subst h; exact good_tk g
      split at h
      · injection h with h; subst h; exact good_tk g
      split at h
      · injection h with h; subst h; exact good_tk g
      split at h
      · injection h with h; subst h; exact good_tk g
      split at h
      · rw [Option.bind_eq_some_iff] at h
        obtain ⟨r1, h1, h2⟩ := h
        injection h2 with h2; subst h2
        exact good_exp (i1 _ _ (good_tk g) h1) _
      · injection h with h; subst h; exact good_fail (good_tk g) _ _
    · intro s x g h
      rw [cArgs] at h
      split at h
      · injection h with h; subst h; exact good_tk g
      · rw [Option.bind_eq_some_iff] at h
        obtain ⟨r1, h1, h2⟩ := h
        exact i11 _ _ _ (i1 _ _ g h1) h2
    · intro l s x g h
      rw [cMore] at h
      split at h
      · rw [Option.bind_eq_some_iff] at h
        obtain ⟨r1, h1, h2⟩ := h
        exact i11 _ _ _ (i1 _ _ (good_tk g) h1) h2
      · injection h with h; subst h; exact good_exp g _

theorem tk_one {s : St} (h : GoodL s.rest) (hk : s.nx.kind ≠ 4) : s.tk.rest.length + 1 = s.rest.length := by
  have h4 := List.length_pos_iff.2 h.ne
  unfold St.tk; rw [if_neg hk]; simp; omega
theorem kind_alls {s : St} (h : GoodL s.rest) (e : s.nx.text ∈ alls) : s.nx.kind ≠ 4 := by
  rcases is_kind (w := s.nx.text) (t := s.nx) h.head e rfl with k | k <;> omega
theorem kind_is {s : St} (h : GoodL s.rest) {w : Bs} (hw : w ∈ alls) (e : s.is w = true) : s.nx.kind ≠ 4 := kind_alls h (by rw [St.is_true e]; exact hw)
theorem isSome_bind {α β : Type} {o : Option α} {f : α → Option β} (h : o.isSome = true) (k : ∀ a, o = some a → (f a).isSome = true) : (o.bind f).isSome = true := by
  cases o with
  | none => cases h
  | some a => exact k a rfl
/-- With enough steps each call ends. -/
theorem c_tot (n : Nat) : (∀ s, GoodL s.rest → 8 * s.rest.length + 7 ≤ n → (cExpr n s).isSome = true) ∧ (∀ s, GoodL s.rest → s.nx.kind ≠ 4 → 8 * s.rest.length ≤ n → (cLet n s).isSome = true) ∧ (∀ s, GoodL s.rest → s.nx.kind ≠ 4 → 8 * s.rest.length ≤ n → (cIf n s).isSome = true) ∧
    (∀ s, GoodL s.rest → s.nx.kind ≠ 4 → 8 * s.rest.length ≤ n → (cMatch n s).isSome = true) ∧ (∀ s, GoodL s.rest → s.nx.kind ≠ 4 → 8 * s.rest.length ≤ n → (cAssert n s).isSome = true) ∧ (∀ l s, GoodL s.rest → 8 * s.rest.length + 6 ≤ n → (cBin n l s).isSome = true) ∧
    (∀ l e v s, GoodL s.rest → 8 * s.rest.length + 5 ≤ n → (cLoop n l e v s).isSome = true) ∧ (∀ s, GoodL s.rest → 8 * s.rest.length + 5 ≤ n → (cOne n s).isSome = true) ∧ (∀ s, GoodL s.rest → 8 * s.rest.length + 4 ≤ n → (cAtom n s).isSome = true) ∧ (∀ s, GoodL s.rest → 8 * s.rest.length + 8 ≤ n → (cArgs n s).isSome = true) ∧ (∀ l s, GoodL s.rest → 8 * s.rest.length + 1 ≤ n → (cMore n l s).isSome = true) := by
  induction n with
  | zero =>
    refine ⟨fun s g h => by omega, fun s g hk h => ?_, fun s g hk h => ?_, fun s g hk h => ?_, fun s g hk h => ?_, fun l s g h => by omega, fun l e v s g h => by omega, fun s g h => by omega, fun s g h => by omega, fun s g h => by omega, fun l s g h => by omega⟩ <;> (have := List.length_pos_iff.2 g.ne; omega)
  | succ n ih =>
    obtain ⟨i1, i2, i3, i4, i5, i6, i7, i8, i9, i10, i11⟩ := ih
    obtain ⟨g1, -, -, -, -, g6, g7, g8, g9, g10, g11⟩ := c_good n
    obtain ⟨l1, -, -, -, -, l6, l7, l8, l9, l10, l11⟩ := c_len n
    refine ⟨?_, ?_, ?_, ?_, ?_, ?_, ?_, ?_, ?_, ?_, ?_⟩
    · intro s g h
      rw [cExpr]
      split
      · rename_i q; exact i2 _ g (kind_is g (by decide) q) (by omega)
      split
      · rename_i q; exact i3 _ g (kind_is g (by decide) q) (by omega)
      split
      · rename_i q; exact i4 _ g (kind_is g (by decide) q) (by omega)
      split
      · rename_i q; exact i5 _ g (kind_is g (by decide) q) (by omega)
      · exact i6 _ _ g (by omega)
    · intro s g hk h
      have e := tk_one g hk
      rw [cLet]
      have a1 := len_exp s.tk.name wEq
      have a2 := len_name s.tk
      refine isSome_bind (i1 _ (good_exp (good_name (good_tk g)) _) (by omega)) fun r1 h1 => isSome_bind (i1 _ (good_exp (g1 _ _ (good_exp (good_name (good_tk g)) _) h1) _) ?_) fun r2 h2 => rfl
      have a3 := l1 _ _ h1
      have a4 := len_exp r1.2 wIn
      omega
    · intro s g hk h
      have e := tk_one g hk
      rw [cIf]
      refine isSome_bind (i1 _ (good_tk g) (by omega)) fun r1 h1 => isSome_bind (i1 _ (good_exp (g1 _ _ (good_tk g) h1) _) ?_) fun r2 h2 => isSome_bind (i1 _ (good_exp (g1 _ _ (good_exp (g1 _ _ (good_tk g) h1) _) h2) _) ?_) fun r3 h3 => rfl
      · have a3 := l1 _ _ h1
        have a4 := len_exp r1.2 wThen
        omega
      · have a3 := l1 _ _ h1
        have a4 := len_exp r1.2 wThen
        have a5 := l1 _ _ h2
        have a6 := len_exp r2.2 wElse
        omega
    · intro s g hk h
      have e := tk_one g hk
      rw [cMatch]
      refine isSome_bind (i1 _ (good_tk g) (by omega)) fun r1 h1 => isSome_bind (i1 _ (good_exp (good_exp (good_exp (g1 _ _ (good_tk g) h1) _) _) _) ?_) fun r2 h2 => isSome_bind (i1 _ (good_exp (good_name (good_exp (good_name (good_exp (g1 _ _ (good_exp (good_exp (good_exp (g1 _ _ (good_tk g) h1) _) _) _) h2) _)) _)) _) ?_) fun r3 h3 => rfl
      · have a3 := l1 _ _ h1
        have a4 := len_exp r1.2 wWith
        have a5 := len_exp (r1.2.exp wWith) wNil
        have a6 := len_exp ((r1.2.exp wWith).exp wNil) wArrow
        omega
      · have a3 := l1 _ _ h1
        have a4 := len_exp r1.2 wWith
        have a5 := len_exp (r1.2.exp wWith) wNil
        have a6 := len_exp ((r1.2.exp wWith).exp wNil) wArrow
        have a7 := l1 _ _ h2
        have b1 := len_exp r2.2 wBar
        have b2 := len_name (r2.2.exp wBar)
        have b3 := len_exp (r2.2.exp wBar).name wCons
        have b4 := len_name ((r2.2.exp wBar).name.exp wCons)
        have b5 := len_exp ((r2.2.exp wBar).name.exp wCons).name wArrow
        omega
    · intro s g hk h
      have e := tk_one g hk
      rw [cAssert]
      refine isSome_bind (i1 _ (good_tk g) (by omega)) fun r1 h1 => isSome_bind (i1 _ (good_exp (g1 _ _ (good_tk g) h1) _) ?_) fun r2 h2 => rfl
      have a3 := l1 _ _ h1
      have a4 := len_exp r1.2 wSemi
      omega
    · intro l s g h
      rw [cBin]
      refine isSome_bind (i8 _ g (by omega)) fun r1 h1 => i7 _ _ _ _ (g8 _ _ g h1) ?_
      have := l8 _ _ h1
      omega
    · intro l e v s g h
      rw [cLoop]
      cases ho : bopOf s.nx.text with
      | none => rfl
      | some op =>
        simp only
        split
        · rfl
        · have e := tk_one g (kind_alls g (by have := bop_mem ho; rw [← this.2]; exact List.mem_append_right _ (bop_tab op this.1).2.2.2.2.1))
          refine isSome_bind (i6 _ _ (good_tk g) (by omega)) fun r1 h1 => i7 _ _ _ _ (g6 _ _ _ (good_tk g) h1) ?_
          have := l6 _ _ _ h1
          omega
    · intro s g h
      rw [cOne]
      cases ho : unOf s.nx.text with
      | none => exact i9 _ g (by omega)
      | some k =>
        have e := tk_one g (kind_alls g (un_alls ho).1)
        exact isSome_bind (i8 _ (good_tk g) (by omega)) fun r1 h1 => rfl
    · intro s g h
      rw [cAtom]
      split
      · rfl
      split
      · rename_i hk1 hk0
        have e := tk_one g (by omega)
        split
        · rename_i ho
          have e2 := tk_one (good_tk g) (kind_is (good_tk g) (by decide) ho)
          exact isSome_bind (i10 _ (good_tk (good_tk g)) (by omega)) fun r1 h1 => rfl
        · rfl
      split
      · rfl
      split
      · rfl
      split
      · rfl
      split
      · rfl
      split
      · rename_i ho
        have e := tk_one g (kind_is g (by decide) ho)
        exact isSome_bind (i1 _ (good_tk g) (by omega)) fun r1 h1 => rfl
      · rfl
    · intro s g h
      rw [cArgs]
      split
      · rfl
      · refine isSome_bind (i1 _ g (by omega)) fun r1 h1 => i11 _ _ (g1 _ _ g h1) ?_
        have := l1 _ _ h1
        omega
    · intro l s g h
      rw [cMore]
      split
      · rename_i ho
        have e := tk_one g (kind_is g (by decide) ho)
        refine isSome_bind (i1 _ (good_tk g) (by omega)) fun r1 h1 => i11 _ _ (g1 _ _ (good_tk g) h1) ?_
        have := l1 _ _ h1
        omega
      · rfl

theorem uds_app (a b : List U) : uds (a ++ b) = max (uds a) (uds b) := by
  induction a with
  | nil => simp [uds]
  | cons t ts ih => simp [uds, ih, Nat.max_assoc]
theorem uds_take (ks : List U) (i : Nat) (h : i < ks.length) : uds (ks.take (i + 1)) = max (uds (ks.take i)) (ud ks[i]) := by
  rw [List.take_succ_eq_append_getElem h, uds_app]; simp [uds]
theorem uds_mem {ks : List U} {u : U} (h : u ∈ ks) : ud u ≤ uds ks := by
  induction ks with
  | nil => simp at h
  | cons t ts ih =>
    rw [uds]
    rcases List.mem_cons.1 h with rfl | h
    · omega
    · have := ih h; omega
theorem uds_take_le (ks : List U) (j : Nat) : uds (ks.take j) ≤ uds ks := by
  have := uds_app (ks.take j) (ks.drop j)
  rw [List.take_append_drop] at this; omega
def Bd (n : Nat) : Nat := (n + 1) * (n + 1)
theorem Bd_succ (n : Nat) : Bd (n + 1) = Bd n + (2 * n + 3) := by unfold Bd; simp only [Nat.add_mul, Nat.mul_add]; omega
/-- How deep a tree is that is read in n steps. -/
theorem c_deep (n : Nat) : (∀ s x, cExpr n s = some x → ud x.1 ≤ Bd n) ∧ (∀ s x, cLet n s = some x → ud x.1 ≤ Bd n) ∧ (∀ s x, cIf n s = some x → ud x.1 ≤ Bd n) ∧ (∀ s x, cMatch n s = some x → ud x.1 ≤ Bd n) ∧ (∀ s x, cAssert n s = some x → ud x.1 ≤ Bd n) ∧
    (∀ l s x, cBin n l s = some x → ud x.1 ≤ Bd n) ∧ (∀ l e v s x, cLoop n l e v s = some x → ud x.1 ≤ max (ud e) (Bd n) + n) ∧ (∀ s x, cOne n s = some x → ud x.1 ≤ Bd n) ∧ (∀ s x, cAtom n s = some x → ud x.1 ≤ Bd n) ∧ (∀ s x, cArgs n s = some x → uds x.1 ≤ Bd n) ∧ (∀ l s x, cMore n l s = some x → uds x.1 ≤ max (uds l) (Bd n)) := by
  induction n with
  | zero => refine ⟨?_, ?_, ?_, ?_, ?_, ?_, ?_, ?_, ?_, ?_, ?_⟩ <;> intros <;> simp_all [cExpr, cLet, cIf, cMatch, cAssert, cBin, cLoop, cOne, cAtom, cArgs, cMore]
  | succ n ih =>
    obtain ⟨i1, i2, i3, i4, i5, i6, i7, i8, i9, i10, i11⟩ := ih
    have hB := Bd_succ n
    refine ⟨?_, ?_, ?_, ?_, ?_, ?_, ?_, ?_, ?_, ?_, ?_⟩
    · intro s x h
      rw [cExpr] at h
      split at h; have := i2 _ _ h; omega
      split at h; have := i3 _ _ h; omega
      split at h; have := i4 _ _ h; omega
      split at h; have := i5 _ _ h; omega
      have := i6 _ _ _ h; omega
    · intro s x h
      rw [cLet] at h
      simp only [Option.bind_eq_some_iff] at h
      obtain ⟨r1, h1, r2, h2, h3⟩ := h
      injection h3 with h3; subst h3
      have := i1 _ _ h1
      have := i1 _ _ h2
      simp only [ud, uds]; omega
    · intro s x h
      rw [cIf] at h
      simp only [Option.bind_eq_some_iff] at h
      obtain ⟨r1, h1, r2, h2, r3, h3, h4⟩ := h
      injection h4 with h4; subst h4
      have := i1 _ _ h1
      have := i1 _ _ h2
      have := i1 _ _ h3
      simp only [prt, ud, uds]; omega
    · intro s x h
      rw [cMatch] at h
      simp only [Option.bind_eq_some_iff] at h
      obtain ⟨r1, h1, r2, h2, r3, h3, h4⟩ := h
      injection h4 with h4; subst h4
      have := i1 _ _ h1
      have := i1 _ _ h2
      have := i1 _ _ h3
      simp only [ud, uds]; omega
    · intro s x h
      rw [cAssert] at h
      simp only [Option.bind_eq_some_iff] at h
      obtain ⟨r1, h1, r2, h2, h3⟩ := h
      injection h3 with h3; subst h3
      have := i1 _ _ h1
      have := i1 _ _ h2
      simp only [prt, ud, uds]; omega
    · intro l s x h
      rw [cBin, Option.bind_eq_some_iff] at h
      obtain ⟨r1, h1, h2⟩ := h
      have := i8 _ _ h1
      have := i7 _ _ _ _ _ h2
      omega
    · intro l e v s x h
      rw [cLoop] at h
      split at h
      · injection h with h; subst h; simp only; omega
      · split at h
        · injection h with h; subst h; simp only; omega
        · rw [Option.bind_eq_some_iff] at h
          obtain ⟨r1, h1, h2⟩ := h
          have a1 := i6 _ _ _ h1
          have a2 := i7 _ _ _ _ _ h2
          simp only [prt, ud, uds] at a2; omega
    · intro s x h
      rw [cOne] at h
      split at h
      · have := i9 _ _ h; omega
      · rw [Option.bind_eq_some_iff] at h
        obtain ⟨r1, h1, h2⟩ := h
        injection h2 with h2; subst h2
        have := i8 _ _ h1
        simp only [prt, ud, uds]; omega
    · intro s x h
      rw [cAtom] at h
      split at h
      · injection h with h; subst h; simp only [ud, uds]; omega
      split at h
      · split at h
        · rw [Option.bind_eq_some_iff] at h
          obtain ⟨r1, h1, h2⟩ := h
          injection h2 with h2; subst h2
          have := i10 _ _ h1
          simp only [nmd, ud]; omega
        · injection h with h; subst h; simp only [nmd, ud, uds]; omega
      split at h
      · injection h with h; subst h; simp only [nmd, ud, uds]; omega
      split at h
      · injection h with h; subst h; simp only [prt, ud, uds]; omega
      split at h
      · injection h with h; subst h; simp only [prt, ud, uds]; omega
      split at h
      · injection h with h; subst h; simp only [prt, ud, uds]; omega
      split at h
      · rw [Option.bind_eq_some_iff] at h
        obtain ⟨r1, h1, h2⟩ := h
        injection h2 with h2; subst h2
        have := i1 _ _ h1
        simp only; omega
      · injection h with h; subst h; simp only [u0, ud, uds]; omega
    · intro s x h
      rw [cArgs] at h
      split at h
      · injection h with h; subst h; simp only [uds]; omega
      · rw [Option.bind_eq_some_iff] at h
        obtain ⟨r1, h1, h2⟩ := h
        have a1 := i1 _ _ h1
        have a2 := i11 _ _ _ h2
        simp only [uds] at a2; omega
    · intro l s x h
      rw [cMore] at h
      split at h
      · rw [Option.bind_eq_some_iff] at h
        obtain ⟨r1, h1, h2⟩ := h
        have a1 := i1 _ _ h1
        have a2 := i11 _ _ _ h2
        rw [uds_app] at a2
        simp only [uds] at a2; omega
      · injection h with h; subst h; simp only; omega
end Go.Proofs.YtdpfgfkoboihcaaDoor
