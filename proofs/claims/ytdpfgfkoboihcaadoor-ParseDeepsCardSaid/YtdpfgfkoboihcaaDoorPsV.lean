/-
  How the law ParseDeeps builds its text: round by round.
-/
import Derived.Test.YtdpfgfkoboihcaaDoorPsX
import Derived.Test.YtdpfgfkoboihcaaDoorPsK
namespace Go.Proofs.YtdpfgfkoboihcaaDoor
set_option maxRecDepth 1000000

theorem fam_len (k i : Nat) : (famT k i).length ≤ 1 + 13 * i := by
  induction i with
  | zero => simp [famT]
  | succ i ih => unfold famT; split <;> simp only [List.length_append, List.length_cons, List.length_nil] <;> omega
/-- What is told of a family's text that ends well, or does not. -/
theorem fam_ok (k m : Nat) (hk : k < 4) (hm : m < 16) : lexF (32 :: famT k (49 + m)) = none ∧ ∃ r, cAll 600 (st0 (32 :: famT k (49 + m))) = some r ∧ (m ≤ 10 → r.2.fin.err = none ∧ ud r.1 = 50 + m) ∧ (10 < m → r.2.fin.err = some (2, 1, 2)) := by
  have h := fam_all k hk m hm
  have hl := fam_len k (49 + m)
  unfold famC at h
  rw [lexN_eq _ _ _ (by simp only [List.length_cons]; omega)] at h
  generalize hT : lexS (32 :: famT k (49 + m)) (1, 1) = p at h
  obtain ⟨T, c⟩ := p
  match c, h with
  | 0, h =>
    simp only at h
    refine ⟨by unfold lexF; rw [hT]; rfl, ?_⟩
    have hst : st0 (32 :: famT k (49 + m)) = ⟨T, none⟩ := by unfold st0; rw [hT]
    rw [hst]
    cases hc : cAll 600 ⟨T, none⟩ with
    | none => rw [hc] at h; simp at h
    | some r =>
      rw [hc] at h
      simp only at h
      refine ⟨r, rfl, fun hm => ?_, fun hm => ?_⟩
      · rw [if_pos hm] at h; simpa using h
      · rw [if_neg (by omega)] at h; simpa using h
  | c + 1, h => simp at h
end Go.Proofs.YtdpfgfkoboihcaaDoor
