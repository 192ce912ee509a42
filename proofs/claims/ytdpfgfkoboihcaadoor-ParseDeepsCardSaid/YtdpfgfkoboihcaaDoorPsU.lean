/-
  How a tree with places lies in memory.
-/
import Derived.Test.YtdpfgfkoboihcaaDoorPsM
import Derived.Test.YtdpfgfkoboihcaaDoorPsN
import Derived.Test.YtdpfgfkoboihcaaDoorTrG
namespace Go.Proofs.YtdpfgfkoboihcaaDoor
open Go.RowKit
set_option maxRecDepth 100000

mutual
/-- x is, in w, the tree; what of it lies in memory lies in blocks of S. -/
def Um (w : World) (S : Nat → Prop) : X → U → Prop
  | x, .node k nm ot z ln cl ks => (x.k = (k : Int) ∧ x.nm = ⟨nm.toArray⟩ ∧ x.ot = ⟨ot.toArray⟩ ∧ x.b = false ∧ x.ln = (ln : Int) ∧ x.cl = (cl : Int)) ∧ (Sl w .u32 (.slice x.ao x.n x.c) (dig L32 z) ∧ (x.n ≠ 0 → ∀ a, x.ao = some a → S a.block)) ∧
      (x.kn = ks.length ∧ (x.kn ≤ x.kc ∧ x.kc ≤ maxLen) ∧ (x.kn ≠ 0 → ∀ a, x.ko = some a → S a.block)) ∧ Ums w S x.ko 0 ks
/-- The elements of the slice at ko from number i on. -/
def Ums (w : World) (S : Nat → Prop) : Option Addr → Nat → List U → Prop
  | _, _, [] => True
  | ko, i, u :: us => (∃ y, At8 w ko i y ∧ Um w S y u) ∧ Ums w S ko (i + 1) us
end
mutual
theorem Um.keep {w w' : World} {S : Nat → Prop} (hk : ∀ g, S g → w'.heap[g]? = w.heap[g]?) : ∀ {x : X} {u : U}, Um w S x u → Um w' S x u
  | x, .node k nm ot z ln cl ks, h => by
    rw [Um] at h ⊢
    obtain ⟨h1, ⟨h2, h3⟩, ⟨h4, h5, h6⟩, h7⟩ := h
    refine ⟨h1, ⟨h2.keep fun h0 a ha => hk _ (h3 h0 a ha), h3⟩, ⟨h4, h5, h6⟩, ?_⟩
    by_cases h0 : ks.length = 0
    · rw [List.eq_nil_of_length_eq_zero h0, Ums]; trivial
    · exact Ums.keep hk (fun a ha => h6 (by omega) a ha) h7
theorem Ums.keep {w w' : World} {S : Nat → Prop} (hk : ∀ g, S g → w'.heap[g]? = w.heap[g]?) : ∀ {ko : Option Addr} {i : Nat} {us : List U}, (∀ a, ko = some a → S a.block) → Ums w S ko i us → Ums w' S ko i us
  | _, _, [], _, _ => by rw [Ums]; trivial
  | ko, i, u :: us, hko, h => by
    rw [Ums] at h ⊢
    obtain ⟨⟨y, h1, h2⟩, h3⟩ := h
    exact ⟨⟨y, h1.keep fun a ha => hk _ (hko a ha), Um.keep hk h2⟩, Ums.keep hk hko h3⟩
end
mutual
theorem Um.mono {w : World} {S S' : Nat → Prop} (hs : ∀ g, S g → S' g) : ∀ {x : X} {u : U}, Um w S x u → Um w S' x u
  | x, .node k nm ot z ln cl ks, h => by
    rw [Um] at h ⊢
    obtain ⟨h1, ⟨h2, h3⟩, ⟨h4, h5, h6⟩, h7⟩ := h
    exact ⟨h1, ⟨h2, fun h0 a ha => hs _ (h3 h0 a ha)⟩, ⟨h4, h5, fun h0 a ha => hs _ (h6 h0 a ha)⟩, Ums.mono hs h7⟩
theorem Ums.mono {w : World} {S S' : Nat → Prop} (hs : ∀ g, S g → S' g) : ∀ {ko : Option Addr} {i : Nat} {us : List U}, Ums w S ko i us → Ums w S' ko i us
  | _, _, [], _ => by rw [Ums]; trivial
  | ko, i, u :: us, h => by
    rw [Ums] at h ⊢
    obtain ⟨⟨y, h1, h2⟩, h3⟩ := h
    exact ⟨⟨y, h1, Um.mono hs h2⟩, Ums.mono hs h3⟩
end
theorem sl_lt {w : World} {k : IntKind} {ao : Option Addr} {n c : Nat} {xs : List Nat} (h : Sl w k (.slice ao n c) xs) (h0 : n ≠ 0) (a : Addr) (ha : ao = some a) : a.block < w.heap.size := by
  obtain ⟨ao', cap, e, -, -, -, q⟩ := h
  injection e with e1 e2 e3
  obtain ⟨b, hb, hc⟩ := q 0 (by omega)
  have : b = a := by rw [ha] at e1; rw [← e1] at hb; injection hb with hb; exact hb.symm
  subst this
  have := cell_lt hc
  rwa [add_block] at this
mutual
theorem Um.lt {w : World} {S : Nat → Prop} : ∀ {x : X} {u : U}, Um w S x u → Um w (fun g => S g ∧ g < w.heap.size) x u
  | x, .node k nm ot z ln cl ks, h => by
    rw [Um] at h ⊢
    obtain ⟨h1, ⟨h2, h3⟩, ⟨h4, h5, h6⟩, h7⟩ := h
    refine ⟨h1, ⟨h2, fun h0 a ha => ⟨h3 h0 a ha, sl_lt h2 h0 a ha⟩⟩, ⟨h4, h5, fun h0 a ha => ⟨h6 h0 a ha, ?_⟩⟩, Ums.lt h7⟩
    match ks, h4, h7 with
    | [], h4, _ => simp at h4; exact absurd h4 h0
    | u :: us, _, h7 =>
      rw [Ums] at h7
      obtain ⟨⟨y, a1, -⟩, -⟩ := h7
      exact a1.lt a ha
theorem Ums.lt {w : World} {S : Nat → Prop} : ∀ {ko : Option Addr} {i : Nat} {us : List U}, Ums w S ko i us → Ums w (fun g => S g ∧ g < w.heap.size) ko i us
  | _, _, [], _ => by rw [Ums]; trivial
  | ko, i, u :: us, h => by
    rw [Ums] at h ⊢
    obtain ⟨⟨y, h1, h2⟩, h3⟩ := h
    exact ⟨⟨y, h1, Um.lt h2⟩, Ums.lt h3⟩
end
theorem Um.below {w w' : World} {S : Nat → Prop} {x : X} {u : U} (h : Um w S x u) (hb : Below w.heap.size w w') : Um w' S x u :=
  (h.lt.keep fun g hg => hb.block g hg.2).mono fun _ h => h.1
theorem Um.grown {w w' : World} {S : Nat → Prop} {x : X} {u : U} {g : Nat} (h : Um w S x u) (hg : w.grownBy w' (some g)) (hS : ¬ S g) : Um w' S x u :=
  (h.lt.keep fun q hq => hg.block q hq.2 (fun e => by injection e with e; exact hS (e ▸ hq.1))).mono fun _ h => h.1
theorem Um.off {w : World} {S : Nat → Prop} {x : X} {u : U} (h : Um w S x u) : Um w (fun g => S g ∧ g ≠ w.heap.size) x u := h.lt.mono fun g hg => ⟨hg.1, by omega⟩
theorem ums_get {w : World} {S : Nat → Prop} : ∀ {ko : Option Addr} {us : List U} (i j : Nat), Ums w S ko i us → ∀ (h : j < us.length), ∃ y, At8 w ko (i + j) y ∧ Um w S y us[j]
  | _, [], _, _, _, h => by simp at h
  | ko, u :: us, i, 0, hu, h => by rw [Ums] at hu; exact hu.1
  | ko, u :: us, i, j + 1, hu, h => by
    rw [Ums] at hu
    have := ums_get (i + 1) j hu.2 (by simpa using h)
    rw [show i + (j + 1) = i + 1 + j by omega]; exact this
theorem ums_of {w : World} {S : Nat → Prop} : ∀ {ko : Option Addr} {us : List U} (i : Nat), (∀ j (h : j < us.length), ∃ y, At8 w ko (i + j) y ∧ Um w S y us[j]) → Ums w S ko i us
  | _, [], _, _ => by rw [Ums]; trivial
  | ko, u :: us, i, h => by
    rw [Ums]
    refine ⟨h 0 (by simp), ums_of (i + 1) fun j hj => ?_⟩
    have := h (j + 1) (by simpa using hj)
    rw [show i + 1 + j = i + (j + 1) by omega]; exact this
/-- The zero tree. -/
theorem um_zero (w : World) (S : Nat → Prop) : Um w S ⟨0, ⟨#[]⟩, ⟨#[]⟩, false, none, 0, 0, none, 0, 0, 0, 0⟩ u0 := by
  unfold u0
  rw [Um]
  refine ⟨⟨rfl, rfl, rfl, rfl, rfl, rfl⟩, ⟨?_, fun h => absurd rfl h⟩, ⟨rfl, ⟨Nat.le_refl _, Nat.zero_le _⟩, fun h => absurd rfl h⟩, by rw [Ums]; trivial⟩
  rw [dig_zero]; exact ⟨none, 0, rfl, Nat.le_refl _, by omega, fun _ => rfl, fun i hi => by simp at hi⟩
theorem Um.val {w : World} {S : Nat → Prop} {x : X} {u : U} (h : Um w S x u) : x.b = false := by
  obtain ⟨k, nm, ot, z, ln, cl, ks⟩ := u
  rw [Um] at h; exact h.1.2.2.2.1
end Go.Proofs.YtdpfgfkoboihcaaDoor
