/-
  What lex.Lex's contract says, for the laws that look at errors.
-/
import Derived.Test.YtnjdbljdaghdmaaDoorLxIs
namespace Go.Proofs.YtnjdbljdaghdmaaDoor
open Go.RowKit
set_option maxRecDepth 100000
theorem err_post {l : Bs} {w0 : World} {e : Ending} {w' : World} (h : LexPost l w0 e w') (hz : (lexS l (1, 1)).2 ≠ 0) : ∃ q t, (lexS l (1, 1)).1.getLast? = some t ∧ e = .returned (.tuple #[.slice none 0 0, .iface 47 (.pointer (some ⟨q, 0, none⟩))]) ∧ AtB w' q (t.line, t.col) (.iface 33 (.int .i64 ((lexS l (1, 1)).2 : Nat))) ∧ Below w0.heap.size w0 w' := by
  rcases h.2 with ⟨h0, -⟩ | ⟨-, q, t, h1, he, h2, -⟩
  · exact absurd h0 hz
  · exact ⟨q, t, h1, he, h2, h.1⟩
theorem ok_post {l : Bs} {w0 : World} {e : Ending} {w' : World} (h : LexPost l w0 e w') (hz : (lexS l (1, 1)).2 = 0) : ∃ v, e = .returned (.tuple #[v, .nilIface]) ∧ Tk w' (w0.heap.size + 1) 36 v (lexS l (1, 1)).1 ∧ Below w0.heap.size w0 w' := by
  rcases h.2 with ⟨-, v, he, hT⟩ | ⟨h0, -⟩
  · exact ⟨v, he, hT, h.1⟩
  · exact absurd hz h0
end Go.Proofs.YtnjdbljdaghdmaaDoor
