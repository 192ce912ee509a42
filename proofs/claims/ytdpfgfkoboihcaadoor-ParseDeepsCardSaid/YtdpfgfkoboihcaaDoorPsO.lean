/-
  Plain mathematics of layer 6: the tokens of a text are in order: each is what its kind says.
-/
import Derived.Test.YtdpfgfkoboihcaaDoorPsE
namespace Go.Proofs.YtdpfgfkoboihcaaDoor
set_option maxRecDepth 100000

theorem isD_num {c : UInt8} (h : isD c = true) : 48 ≤ c.toNat ∧ c.toNat ≤ 57 := by
  unfold isD at h
  simp only [Bool.and_eq_true, decide_eq_true_eq, UInt8.le_iff_toNat_le] at h
  exact h
theorem wds_head : ∀ w ∈ wds, ∃ c m, w = c :: m ∧ isL c = true := by
  have : ∀ w ∈ wds, (match w with | [] => false | c :: _ => isL c) = true := by decide
  intro w hw
  have h := this w hw
  match w, h with
  | c :: m, h => exact ⟨c, m, rfl, h⟩
theorem sigs_head : ∀ w ∈ sigs, ∃ c m, w = c :: m ∧ isL c = false ∧ isD c = false := by
  have : ∀ w ∈ sigs, (match w with | [] => false | c :: _ => !isL c && !isD c) = true := by decide
  intro w hw
  have h := this w hw
  match w, h with
  | c :: m, h => simp only [Bool.and_eq_true, Bool.not_eq_true'] at h; exact ⟨c, m, rfl, h.1, h.2⟩
theorem isL_isD {c : UInt8} (h : isL c = true) : isD c = false := by
  cases hd : isD c with
  | false => rfl
  | true =>
    have := isD_num hd
    unfold isL at h
    simp only [Bool.or_eq_true, Bool.and_eq_true, decide_eq_true_eq, beq_iff_eq, UInt8.le_iff_toNat_le] at h
    have e95 : (95 : UInt8).toNat = 95 := rfl
    rcases h with (⟨h1, h2⟩ | ⟨h1, h2⟩) | h1
    · have : (97 : UInt8).toNat = 97 := rfl; omega
    · have : (65 : UInt8).toNat = 65 := rfl; omega
    · subst h1; omega
theorem pair_sigs {a b : UInt8} (h : pairB a b = true) : [a, b] ∈ sigs := by
  simp only [pairB, Bool.or_eq_true, Bool.and_eq_true, beq_iff_eq] at h
  rcases h with ((((((⟨rfl, rfl⟩ | ⟨rfl, rfl⟩) | ⟨rfl, rfl⟩) | ⟨rfl, rfl⟩) | ⟨rfl, rfl⟩) | ⟨rfl, rfl⟩) | ⟨rfl, rfl⟩) | ⟨rfl, rfl⟩ <;> decide
theorem sgl_sigs {a : UInt8} (h : sglB a = true) : [a] ∈ sigs := by
  simp only [sglB, Bool.or_eq_true, beq_iff_eq] at h
  rcases h with ((((((((((((((rfl | rfl) | rfl) | rfl) | rfl) | rfl) | rfl) | rfl) | rfl) | rfl) | rfl) | rfl) | rfl) | rfl) | rfl) | rfl <;> decide
theorem tok_ok {l : Bs} {k n : Nat} (hl : l ≠ []) (h : meas l = .ok k n) (ln cl : Nat) : TokOk ⟨k, l.take n, ln, cl⟩ ∧ k < 4 := by
  match l, hl with
  | a :: r, _ =>
    rw [meas_cons] at h
    by_cases ha : isL a = true
    · rw [if_pos ha] at h
      split at h
      · cases h
      have e : spn isLD (a :: r) = spn isLD r + 1 := by rw [spn, if_pos (isL_LD ha)]
      split at h
      · rename_i hw
        injection h with h1 h2
        subst h1 h2
        have hm : (a :: r).take (spn isLD (a :: r)) ∈ wds := by simpa [isW] using hw
        exact ⟨⟨(show (_ : Nat) ≤ 4 by simp), fun h => (nomatch h), fun h => (nomatch h), fun h => (nomatch h), fun _ => hm, fun h => (nomatch h)⟩, by decide⟩
      · rename_i hw
        injection h with h1 h2
        subst h1 h2
        have hm : (a :: r).take (spn isLD (a :: r)) ∉ wds := by simpa [isW] using hw
        have hc : (a :: r).take (spn isLD (a :: r)) = a :: r.take (spn isLD r) := by rw [e]; rfl
        refine ⟨⟨(show (_ : Nat) ≤ 4 by simp), fun _ => ⟨fun hx => ?_, by rw [hc]; simp⟩, fun h => (nomatch h), fun h => (nomatch h), fun h => (nomatch h), fun h => (nomatch h)⟩, by decide⟩
        rcases List.mem_append.1 hx with hx | hx
        · exact hm hx
        · obtain ⟨c, m, e1, e2, -⟩ := sigs_head _ hx
          simp only at e1
          rw [hc] at e1; injection e1 with e1; subst e1; rw [ha] at e2; cases e2
    · rw [if_neg ha] at h
      by_cases hd : isD a = true
      · rw [if_pos hd] at h
        have e : spn isD (a :: r) = spn isD r + 1 := by rw [spn, if_pos hd]
        split at h
        · cases h
        rename_i h0
        split at h
        · cases h
        rename_i h3
        injection h with h1 h2
        subst h1 h2
        have hc : (a :: r).take (spn isD (a :: r)) = a :: r.take (spn isD r) := by rw [e]; rfl
        have hlen : ((a :: r).take (spn isD (a :: r))).length = spn isD (a :: r) := by rw [List.length_take]; have := spn_le isD (a :: r); omega
        refine ⟨⟨(show (_ : Nat) ≤ 4 by simp), fun h => (nomatch h), fun _ => ⟨fun hx => ?_, by rw [hc]; simp, by rw [hlen]; omega, fun hlt => ?_, fun c hc' => isD_num (spn_all (a :: r) c hc')⟩, fun h => (nomatch h), fun h => (nomatch h), fun h => (nomatch h)⟩, by decide⟩
        · rcases List.mem_append.1 hx with hx | hx
          · obtain ⟨c, m, e1, e2⟩ := wds_head _ hx
            simp only at e1
            rw [hc] at e1; injection e1 with e1; subst e1; exact ha e2
          · obtain ⟨c, m, e1, -, e2⟩ := sigs_head _ hx
            simp only at e1
            rw [hc] at e1; injection e1 with e1; subst e1; rw [hd] at e2; cases e2
        · rw [hlen] at hlt
          rw [hc]
          show (a :: r.take (spn isD r)).getD 0 48 ≠ 48
          intro h48
          exact h0 ⟨hlt, h48⟩
      · rw [if_neg hd] at h
        split at h
        · rename_i hs
          injection h with h1 h2
          subst h1 h2
          have hm : (a :: r).take (sgn (a :: r)) ∈ sigs := by
            match r, hs with
            | [], hs =>
              have e2 : sglB a = true := by
                cases hb : sglB a with
                | true => rfl
                | false => simp [sgn, hb] at hs
              have e1 : sgn [a] = 1 := by simp [sgn, e2]
              rw [e1]; exact sgl_sigs e2
            | b :: r', hs =>
              by_cases hp : pairB a b = true
              · have e1 : sgn (a :: b :: r') = 2 := by simp [sgn, hp]
                rw [e1]; exact pair_sigs hp
              · have e2 : sglB a = true := by
                  cases hb : sglB a with
                  | true => rfl
                  | false => simp [sgn, hb, hp] at hs
                have e1 : sgn (a :: b :: r') = 1 := by simp [sgn, e2, hp]
                rw [e1]; exact sgl_sigs e2
          exact ⟨⟨(show (_ : Nat) ≤ 4 by simp), fun h => (nomatch h), fun h => (nomatch h), fun _ => hm, fun h => (nomatch h), fun h => (nomatch h)⟩, by decide⟩
        · cases h
theorem lex_good (s : Bs) (p : Nat × Nat) (h0 : (lexS s p).2 = 0) : GoodL (lexS s p).1 := by
  refine lex_ind (C := fun _ _ ts => GoodL ts) ?_ ?_ s p h0
  · intro s p h
    exact ⟨rfl, ⟨Nat.le_refl _, fun h => (nomatch h), fun h => (nomatch h), fun h => (nomatch h), fun h => (nomatch h), fun _ => rfl⟩⟩
  · intro s p k n ts h hm ih he
    have ht := tok_ok h hm (adv p (s.take (gapL false s))).1 (adv p (s.take (gapL false s))).2
    match ts, ih with
    | u :: us, ih => exact ⟨ht.2, ht.1, ih⟩
end Go.Proofs.YtdpfgfkoboihcaaDoor
