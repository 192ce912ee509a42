/-
  How an argument that is an integer (a struct of a sign and limbs) is opened.
-/
import Derived.Test.YtmindndmegiaaaaDoorKTab
import Derived.Test.YtmindndmegiaaaaDoorKWhoU
import Derived.Lib.SmallJoins
namespace Go.Proofs.YtmindndmegiaaaaDoor
open Go.ChangeShapes Go.WideShapes Go.ChangeAt Go.RowKit Go.Joins
set_option maxRecDepth 100000

theorem cellsInt : Tryd.prog.cellsOf 25 = 2 := by kernel_rfl

theorem open_zint {H : Type} {enc : TypeId × Value → H} {W : World} {base : Nat} {r : Reach} {v : Value} {d : DataW H} {p : List MemPlace}
    (hv : Value.okWide Tryd.prog W r base 25 v) (h : DataW.Trod enc Tryd.prog W 0 (fun _ => true) true 25 v d p) :
    ∃ b o n c xs, v = .agg #[.bool b, .slice o n c] ∧ Arg W b o n c xs := by
  obtain ⟨c0, c1, y0, y1, m, rfl, rfl, rfl, hy0, hy1⟩ := open_agg2 Tryd.underlying25 (by kernel_rfl) cellsInt hv h
  obtain ⟨b, e0, -, -⟩ := DataW.trod_bool Tryd.underlying4 hy0
  simp at e0
  subst e0
  rcases open_ints Tryd.underlying23 Tryd.underlying68 (by kernel_rfl) hy1 with ⟨hcs, _⟩ | ⟨x, l, c, zs, hcs, _, hl, hm, hz, _, hcell, hwz⟩
  · simp at hcs
    subst hcs
    exact ⟨b, none, 0, 0, [], rfl, ⟨Sl.nil _ _, fun x hx => by cases hx⟩⟩
  · simp at hcs
    subst hcs
    obtain ⟨xs, hs, hd⟩ := sl_of_ints hl hm (by rw [hz]; split <;> omega) hcell hwz
    exact ⟨b, _, _, _, xs, rfl, ⟨hs, hd⟩⟩
end Go.Proofs.YtmindndmegiaaaaDoor
