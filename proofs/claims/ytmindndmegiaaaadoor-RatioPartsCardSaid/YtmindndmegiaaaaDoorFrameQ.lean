/-
  How an argument that is a rational number (a struct of an integer and limbs) is opened.
-/
import Derived.Test.YtmindndmegiaaaaDoorFrameZ
import Derived.Test.YtmindndmegiaaaaDoorQLaw
namespace Go.Proofs.YtmindndmegiaaaaDoor
open Go.ChangeShapes Go.WideShapes Go.ChangeAt Go.RowKit Go.Joins
set_option maxRecDepth 100000

theorem cellsRat : Tryd.prog.cellsOf 27 = 3 := by kernel_rfl
theorem cellsNat : Tryd.prog.cellsOf 23 = 1 := by kernel_rfl
theorem cellsBool : Tryd.prog.cellsOf 4 = 1 := by kernel_rfl
theorem open_limb {H : Type} {enc : TypeId × Value → H} {W : World} {m : Nat} {c : Value} {y : DataW H × List MemPlace}
    (h : DataW.trod enc Tryd.prog W 0 (fun _ => true) true m 23 [c] = some y) : ∃ o n e xs, c = .slice o n e ∧ Sl W .u32 (.slice o n e) xs ∧ Dig L32 xs := by
  rcases open_ints Tryd.underlying23 Tryd.underlying68 (by kernel_rfl) h with ⟨hcs, _⟩ | ⟨x, l, e, zs, hcs, _, hl, hm, hz, _, hcell, hwz⟩
  · simp at hcs
    subst hcs
    exact ⟨none, 0, 0, [], rfl, Sl.nil _ _, fun x hx => by cases hx⟩
  · simp at hcs
    subst hcs
    obtain ⟨xs, hs, hd⟩ := sl_of_ints hl hm (by rw [hz]; split <;> omega) hcell hwz
    exact ⟨_, _, _, xs, rfl, hs, hd⟩
theorem open_zrat {H : Type} {enc : TypeId × Value → H} {W : World} {base : Nat} {r : Reach} {v : Value} {d : DataW H} {p : List MemPlace}
    (hv : Value.okWide Tryd.prog W r base 27 v) (h : DataW.Trod enc Tryd.prog W 0 (fun _ => true) true 27 v d p) :
    ∃ b o n m q l e xs ys, v = .agg #[.bool b, .slice o n m, .slice q l e] ∧ ArgQ W b o n m q l e xs ys := by
  obtain ⟨cs, rfl, hsz⟩ := okWide_struct Tryd.underlying27 hv
  obtain ⟨c0, c1, c2, rfl⟩ := three_of (hsz.trans cellsRat)
  obtain ⟨fuel, hf⟩ := h
  obtain ⟨y0, y1, n, -, -, h0, h1⟩ := trod_struct2 Tryd.underlying27 hf
  simp [Value.cells, cellsInt, cellsNat] at h0 h1
  obtain ⟨z0, z1, m, -, -, h2, h3⟩ := trod_struct2 Tryd.underlying25 h0
  simp [cellsBool, cellsNat] at h2 h3
  obtain ⟨b, e0, -, -⟩ := DataW.trod_bool Tryd.underlying4 h2
  simp at e0
  subst e0
  obtain ⟨o, k, f, xs, rfl, s1, d1⟩ := open_limb h3
  obtain ⟨q, l, e, ys, rfl, s2, d2⟩ := open_limb h1
  exact ⟨b, o, k, f, q, l, e, xs, ys, rfl, ⟨s1, d1, s2, d2⟩⟩
end Go.Proofs.YtmindndmegiaaaaDoor
