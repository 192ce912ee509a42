/-
  The law ParseDeeps' texts, evaluated: its four families, 50 to 65 levels deep.
-/
import Derived.Test.YtdpfgfkoboihcaaDoorPsM
namespace Go.Proofs.YtdpfgfkoboihcaaDoor
set_option maxRecDepth 1000000

/-- lexS with a bound of its steps. -/
def lexN : Nat → Bs → Nat × Nat → List Tok × Nat
  | 0, _, _ => ([], 9)
  | f + 1, s, p =>
    match s.drop (gapL false s) with
    | [] => ([⟨4, [], (adv p (s.take (gapL false s))).1, (adv p (s.take (gapL false s))).2⟩], 0)
    | c :: t =>
      match meas (c :: t) with
      | .bad e => ([⟨4, [], (adv p (s.take (gapL false s))).1, (adv p (s.take (gapL false s))).2⟩], e)
      | .ok k n =>
        let q := adv p (s.take (gapL false s))
        let r := lexN f ((c :: t).drop (n - 1 + 1)) (adv q ((c :: t).take (n - 1 + 1)))
        (⟨k, (c :: t).take n, q.1, q.2⟩ :: r.1, r.2)
theorem lexN_eq (f : Nat) (s : Bs) (p : Nat × Nat) (h : s.length < f) : lexN f s p = lexS s p := by
  induction f generalizing s p with
  | zero => omega
  | succ f ih =>
    rw [lexS, lexN]
    cases hd : s.drop (gapL false s) with
    | nil => simp
    | cons c t =>
      simp only [dif_neg (List.cons_ne_nil c t)]
      cases meas (c :: t) with
      | bad e => rfl
      | ok k n =>
        have hl : (c :: t).length ≤ s.length := by rw [← hd, List.length_drop]; omega
        simp only
        rw [ih _ _ (by rw [List.length_drop]; simp only [List.length_cons] at hl ⊢; omega)]

/-- The families' texts. -/
def famT (k : Nat) : Nat → Bs
  | 0 => [120]
  | i + 1 => match k with
    | 0 => [40] ++ famT k i ++ [32, 43, 32, 49, 41]
    | 1 => [110, 111, 116, 32] ++ famT k i
    | 2 => [49, 32, 58, 58, 32] ++ famT k i
    | _ => [108, 101, 116, 32, 121, 32, 61, 32, 49, 32, 105, 110, 32] ++ famT k i
def famC (k m : Nat) : Bool :=
  match lexN 1000 (32 :: famT k (49 + m)) (1, 1) with
  | (T, 0) => match cAll 600 ⟨T, none⟩ with
    | some r => if m ≤ 10 then decide (r.2.fin.err = none) && ud r.1 == 50 + m else decide (r.2.fin.err = some (2, 1, 2))
    | none => false
  | _ => false
theorem fam_all : ∀ k, k < 4 → ∀ m, m < 16 → famC k m = true := by decide +kernel
end Go.Proofs.YtdpfgfkoboihcaaDoor
