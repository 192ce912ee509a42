/-
  lex.Lex at a text that is too long; the laws' anchor.
-/
import Derived.Test.YtnjdbljdaghdmaaDoorLxD
import Derived.Deep.QuietTactic
import Derived.BigQuiet
namespace Go.Proofs.YtnjdbljdaghdmaaDoor
open Go.RowKit
set_option maxRecDepth 100000

set_option maxHeartbeats 2000000 in
theorem lex_long (l : Bs) (w0 : World) (h1 : 20000 < l.length) :
    Calls Tryd.prog 6 #[.string ⟨l.toArray⟩] w0 fun e w' => ∃ q, e = .returned (.tuple #[.slice none 0 0, .iface 47 (.pointer (some ⟨q, 0, none⟩))]) ∧ AtB w' q (1, 1) (.iface 33 (.int .i64 2)) ∧ w0.heap.size ≤ q ∧ Below w0.heap.size w0 w' := by
  have hsz : (⟨l.toArray⟩ : ByteArray).size = l.length := rfl
  have hd : decide ((20000 : Int) < (l.length : Int)) = true := by simp; omega
  go_enter Tryd.func6, Tryd.ntmps6
  go_wp2_with fail
  refine (fault_any w0.heap.size l (1, 1) 2 _ (made_at w0 _ _ rfl)).mono ?_
  rintro e w2 ⟨q, rfl, hA, hq, hb⟩
  have HA := Lib.hid hA
  have HB := Lib.hid hb
  have hq' : w0.heap.size ≤ q := by simp at hq; omega
  clear hA hb hq
  go_wp2
  go_ret2
  exact ⟨q, rfl, HA.out, hq', ((Below.refl _ _).alloc (Nat.le_refl _) _).trans (HB.out.mono (by simp))⟩

theorem tok_cells {w : World} {base : Nat} {e : TypeId} {v : Value} {ts : List Tok} (h : Tk w base e v ts) (hne : ts ≠ []) : ∃ g cap, v = .slice (some ⟨g, 0, none⟩) ts.length cap ∧ ts.length ≤ cap ∧ cap ≤ maxLen ∧ base ≤ g ∧ g < w.heap.size ∧ ∀ k (hk : k < ts.length), w.cell? ⟨g, k * 4, none⟩ = some (.int .i64 (ts[k].kind : Nat)) ∧ w.cell? ⟨g, k * 4 + 1, none⟩ = some (.string ⟨ts[k].text.toArray⟩) ∧ w.cell? ⟨g, k * 4 + 2, none⟩ = some (.int .i64 (ts[k].line : Nat)) ∧ w.cell? ⟨g, k * 4 + 3, none⟩ = some (.int .i64 (ts[k].col : Nat)) := by
  obtain ⟨a, cap, rfl, h1, h2, h3⟩ := h.form
  obtain ⟨g, rfl, h4, h5, h6⟩ := h3 hne
  exact ⟨g, cap, rfl, h1, h2, h4, h5, h6⟩

set_option maxHeartbeats 2000000 in
theorem fit_any (w : World) : Calls Tryd.prog 5 #[] w fun e w' => e = .returned (.bool true) ∧ Below w.heap.size w w' := by
  have hx := lex_any [97, 60, 61, 98] w (by decide)
  have HX := Lib.hid hx
  clear hx
  go_enter Tryd.func5, Tryd.ntmps5
  go_wp2_with fail
  refine HX.out.mono ?_
  rintro e w1 ⟨hb, hp⟩
  rw [lex_fit] at hp
  rcases hp with ⟨-, v, rfl, hT⟩ | ⟨h, -⟩
  · obtain ⟨g, cap, rfl, h1, h2, h3, h4, h5⟩ := tok_cells hT (by simp)
    have c1 := (h5 1 (by decide)).2.1
    have c2 := (h5 3 (by decide)).1
    have c3 := (h5 3 (by decide)).2.2.2
    simp only [List.length_cons, List.length_nil] at h1 h2 ⊢
    have HB := Lib.hid hb
    clear hb hT h5
    go_wp2_with fail
    go_ret
    exact ⟨rfl, HB.out⟩
  · exact absurd rfl h
end Go.Proofs.YtnjdbljdaghdmaaDoor
