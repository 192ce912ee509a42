/-
  What expressions package parse reads, call by call: the contracts that the steps take and give.
-/
import Derived.Test.YtdpfgfkoboihcaaDoorPsD
namespace Go.Proofs.YtdpfgfkoboihcaaDoor
open Go.RowKit
set_option maxRecDepth 100000
set_option linter.unusedVariables false

/-- What a call leaves that reads a tree. -/
def TreePost (w : World) (g : Nat) (u : U) (s' : St) (e : Ending) (w' : World) : Prop := ∃ x, e = .returned (xv x) ∧ Um w' (fun b => w.heap.size ≤ b) x u ∧ Did w g s' w'
def GOps (w : World) (g : Nat) : Prop := OpsAt w ∧ 1 < g
theorem GOps.below {w w' : World} {g : Nat} (h : GOps w g) (hb : Below w.heap.size w w') : GOps w' g := ⟨h.1.below hb, h.2⟩
theorem GOps.grown {w w' : World} {g k : Nat} (h : GOps w g) (hg : w.grownBy w' (some k)) (hk : g ≤ k) : GOps w' g := ⟨h.1.grown hg (Nat.lt_of_lt_of_le h.2 hk), h.2⟩
def ExprAt7 (n : Nat) : Prop := ∀ (g : Nat) (s : St) (r : U × St) (w : World), PS w g s → GOps w g → cExpr n s = some r → Calls Tryd.prog 15 #[.pointer (some ⟨g, 0, none⟩)] w (TreePost w g r.1 r.2)
def LetAt (n : Nat) : Prop := ∀ (g : Nat) (s : St) (r : U × St) (w : World), PS w g s → GOps w g → cLet n s = some r → Calls Tryd.prog 25 #[.pointer (some ⟨g, 0, none⟩)] w (TreePost w g r.1 r.2)
def IfAt (n : Nat) : Prop := ∀ (g : Nat) (s : St) (r : U × St) (w : World), PS w g s → GOps w g → cIf n s = some r → Calls Tryd.prog 26 #[.pointer (some ⟨g, 0, none⟩)] w (TreePost w g r.1 r.2)
def MatchAt (n : Nat) : Prop := ∀ (g : Nat) (s : St) (r : U × St) (w : World), PS w g s → GOps w g → cMatch n s = some r → Calls Tryd.prog 27 #[.pointer (some ⟨g, 0, none⟩)] w (TreePost w g r.1 r.2)
def AssertAt (n : Nat) : Prop := ∀ (g : Nat) (s : St) (r : U × St) (w : World), PS w g s → GOps w g → cAssert n s = some r → Calls Tryd.prog 28 #[.pointer (some ⟨g, 0, none⟩)] w (TreePost w g r.1 r.2)
def BinAt (n : Nat) : Prop := ∀ (g : Nat) (l : Nat) (s : St) (r : U × St) (w : World), PS w g s → GOps w g → cBin n l s = some r → Calls Tryd.prog 29 #[.pointer (some ⟨g, 0, none⟩), .int .i64 (l : Nat)] w (TreePost w g r.1 r.2)
def OneAt (n : Nat) : Prop := ∀ (g : Nat) (s : St) (r : U × St) (w : World), PS w g s → GOps w g → cOne n s = some r → Calls Tryd.prog 40 #[.pointer (some ⟨g, 0, none⟩)] w (TreePost w g r.1 r.2)
def AtomAt (n : Nat) : Prop := ∀ (g : Nat) (s : St) (r : U × St) (w : World), PS w g s → GOps w g → cAtom n s = some r → Calls Tryd.prog 51 #[.pointer (some ⟨g, 0, none⟩)] w (TreePost w g r.1 r.2)
def ArgsAt (n : Nat) : Prop := ∀ (g : Nat) (s : St) (r : List U × St) (w : World), PS w g s → GOps w g → cArgs n s = some r → Calls Tryd.prog 60 #[.pointer (some ⟨g, 0, none⟩)] w fun e w' => ∃ ko c, e = .returned (.slice ko r.1.length c) ∧ (r.1.length ≤ c ∧ c ≤ maxLen) ∧ (r.1.length ≠ 0 → ∀ a, ko = some a → w.heap.size ≤ a.block) ∧ Ums w' (fun b => w.heap.size ≤ b) ko 0 r.1 ∧ Did w g r.2 w'

theorem ums_blk {w : World} {S : Nat → Prop} {k : Nat} {T : TypeId} : ∀ {ys : List X} {us : List U}, w.heap[k]? = some (.cells (ys.flatMap xc).toArray T (0, 0)) → ys.length = us.length → (∀ i (h1 : i < ys.length) (h2 : i < us.length), Um w S ys[i] us[i]) → Ums w S (some ⟨k, 0, none⟩) 0 us := by
  intro ys us hB hl h
  refine ums_of 0 fun j hj => ⟨ys[j], ⟨_, rfl, fun i v hv => ?_⟩, h j (by omega) hj⟩
  have hi8 : i < 8 := by have := (List.getElem?_eq_some_iff.1 hv).1; simpa [xc] using this
  rw [add_lit, add_lit, Nat.zero_add, Nat.zero_add]
  refine cell_at hB _ ?_
  rw [List.getElem?_toArray, flat_at ys j i (by omega) hi8]; exact hv
theorem um_node {w : World} {S : Nat → Prop} (k : Nat) (nm ot : Bs) (ln cl : Nat) (kk : Nat) {T : TypeId} (ys : List X) (us : List U) (n : Nat) (hn : n = us.length) (hS : S kk) (hB : w.heap[kk]? = some (.cells (ys.flatMap xc).toArray T (0, 0))) (hl : ys.length = us.length) (h : ∀ i (h1 : i < ys.length) (h2 : i < us.length), Um w S ys[i] us[i]) (hb : n ≤ 1000 := by decide) :
    Um w S ⟨(k : Nat), ⟨nm.toArray⟩, ⟨ot.toArray⟩, false, none, 0, 0, some ⟨kk, 0, none⟩, n, n, (ln : Nat), (cl : Nat)⟩ (.node k nm ot 0 ln cl us) := by
  rw [Um]
  refine ⟨⟨rfl, rfl, rfl, rfl, rfl, rfl⟩, ⟨?_, fun h => absurd rfl h⟩, ⟨hn, ⟨Nat.le_refl _, show n ≤ maxLen by unfold maxLen; omega⟩, fun _ a h => by injection h with h; subst h; exact hS⟩, ums_blk hB hl h⟩
  rw [dig_zero]; exact ⟨none, 0, rfl, Nat.le_refl _, by omega, fun _ => rfl, fun i hi => by simp at hi⟩
theorem um_leaf {w : World} {S : Nat → Prop} (k : Nat) (nm ot : Bs) (ln cl : Nat) : Um w S ⟨(k : Nat), ⟨nm.toArray⟩, ⟨ot.toArray⟩, false, none, 0, 0, none, 0, 0, (ln : Nat), (cl : Nat)⟩ (.node k nm ot 0 ln cl []) := by
  rw [Um]
  refine ⟨⟨rfl, rfl, rfl, rfl, rfl, rfl⟩, ⟨?_, fun h => absurd rfl h⟩, ⟨rfl, ⟨Nat.le_refl _, Nat.zero_le _⟩, fun h => absurd rfl h⟩, by rw [Ums]; trivial⟩
  rw [dig_zero]; exact ⟨none, 0, rfl, Nat.le_refl _, by omega, fun _ => rfl, fun i hi => by simp at hi⟩
theorem all1 {P : X → U → Prop} {a : X} {u : U} (h : P a u) : ∀ i (h1 : i < [a].length) (h2 : i < [u].length), P [a][i] [u][i] := by
  intro i h1 h2; simp at h1; subst h1; exact h
theorem all2 {P : X → U → Prop} {a b : X} {u v : U} (h : P a u) (k : P b v) : ∀ i (h1 : i < [a, b].length) (h2 : i < [u, v].length), P [a, b][i] [u, v][i] := by
  intro i h1 h2
  match i, h1, h2 with
  | 0, _, _ => exact h
  | 1, _, _ => exact k
  | i + 2, h1, _ => simp at h1; omega
theorem all3 {P : X → U → Prop} {a b c : X} {u v x : U} (h : P a u) (k : P b v) (l : P c x) : ∀ i (h1 : i < [a, b, c].length) (h2 : i < [u, v, x].length), P [a, b, c][i] [u, v, x][i] := by
  intro i h1 h2
  match i, h1, h2 with
  | 0, _, _ => exact h
  | 1, _, _ => exact k
  | 2, _, _ => exact l
  | i + 3, h1, _ => simp at h1; omega
end Go.Proofs.YtdpfgfkoboihcaaDoor
