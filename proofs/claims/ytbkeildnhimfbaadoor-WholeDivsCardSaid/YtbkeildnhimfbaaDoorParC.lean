/-
  Parse, of every text.
-/
import Derived.Test.YtbkeildnhimfbaaDoorParB
import Derived.Test.YtbkeildnhimfbaaDoorFmt
namespace Go.Proofs.YtbkeildnhimfbaaDoor
open Go.RowKit
set_option maxRecDepth 100000

/-- Parse, of every text: whether it is a numeral, and then its number. -/
theorem parse_any (l : List UInt8) (w : World) (hmax : l.length ≤ 1000000000) :
    Calls Tryd.prog 58 #[.string ⟨l.toArray⟩] w fun e w' => ∃ v o, e = .returned (.tuple #[v, .bool o]) ∧ (o = true ↔ Numeral l) ∧ (o = true → Sl w' .u32 v (dig L32 (dn l))) ∧ (o = false → v = .slice none 0 0) ∧ Below w.heap.size w w' := by
  by_cases h : Numeral l
  · refine (parse_true l w h).mono ?_
    rintro e w' ⟨v, rfl, hs, hb⟩
    exact ⟨v, true, rfl, by simp [h], fun _ => hs, (fun e => by cases e), hb⟩
  · refine (parse_false l w h hmax).mono ?_
    rintro e w' ⟨rfl, rfl⟩
    exact ⟨_, false, rfl, by simp [h], (fun e => by cases e), fun _ => rfl, Below.refl _ _⟩

end Go.Proofs.YtbkeildnhimfbaaDoor
