/-
  The texts of values that are not too great: they are read, and no two have one (plain mathematics).
-/
import Derived.Test.YtocadojeanhalaaGreatDoorVlS
import Derived.Test.YtocadojeanhalaaGreatDoorKDgt
import Derived.Lib.SplitLaws
namespace Go.Proofs.YtocadojeanhalaaGreatDoor
open Go.RowKit
set_option maxRecDepth 100000
set_option linter.unusedVariables false
set_option linter.unusedSimpArgs false

theorem znum_textV {z : Int} (h0 : z.natAbs < L32 ^ 4) : ZNum (zText z) ∧ zn (zText z) = z := by
  have h := text_len h0 (by decide) (by decide)
  have hn := numeral_dec h
  have hd := (dn_dec z.natAbs).2.1
  unfold zText
  by_cases hz : z < 0
  · rw [if_pos hz]
    exact ⟨Or.inr ⟨_, rfl, hn, by rw [hd]; omega⟩, by simp [zn, hd]; omega⟩
  · rw [if_neg hz]
    exact ⟨Or.inl hn, by unfold zn; rw [if_neg (num_head hn), hd]; omega⟩
theorem zchar (z : Int) : ∀ c ∈ zText z, c.toNat = 45 ∨ (48 ≤ c.toNat ∧ c.toNat ≤ 57) := by
  have hd := (dn_dec z.natAbs).1
  unfold zText
  split
  · intro c hc
    rcases List.mem_cons.1 hc with rfl | hc
    · exact .inl rfl
    · exact .inr (hd c hc)
  · exact fun c hc => .inr (hd c hc)
theorem zhead (z : Int) : ∃ c t, zText z = c :: t := by
  have hd := (dn_dec z.natAbs).2.2.1
  unfold zText
  split
  · exact ⟨_, _, rfl⟩
  · cases h : Lib.decDigits z.natAbs with
    | nil => exact absurd h hd
    | cons c t => exact ⟨c, t, rfl⟩
theorem no44 (z : Int) : ∀ c ∈ zText z, c ≠ 44 := by
  intro c hc e
  have := zchar z c hc
  subst e
  simp at this
theorem head_not {z : Int} {c : UInt8} {t : List UInt8} (h : zText z = c :: t) (hc : 57 < c.toNat) : False := by
  have := zchar z c (by rw [h]; exact List.mem_cons_self ..)
  omega
theorem joinB_consZ (x : List UInt8) {r : List (List UInt8)} (h : r ≠ []) : joinB (x :: r) = x ++ (sep ++ joinB r) := by
  cases r with
  | nil => exact absurd rfl h
  | cons y r => simp [joinB, List.append_assoc]
theorem idx_none : ∀ (u : List UInt8), (∀ c ∈ u, c ≠ 44) → Lib.index u sep = -1
  | [], _ => rfl
  | c :: u, h => by
    have hc : (44 == c) = false := beq_eq_false_iff_ne.2 (fun e => h c (List.mem_cons_self ..) e.symm)
    have ih := idx_none u (fun d hd => h d (List.mem_cons_of_mem _ hd))
    unfold Lib.index
    rw [ih]
    simp [sep, List.isPrefixOf, hc]
theorem idx_sep (t : List UInt8) : ∀ (u : List UInt8), (∀ c ∈ u, c ≠ 44) → Lib.index (u ++ (sep ++ t)) sep = (u.length : Int)
  | [], _ => by simp [Lib.index, sep, List.isPrefixOf]
  | c :: u, h => by
    have hc : (44 == c) = false := beq_eq_false_iff_ne.2 (fun e => h c (List.mem_cons_self ..) e.symm)
    have ih := idx_sep t u (fun d hd => h d (List.mem_cons_of_mem _ hd))
    rw [List.cons_append]
    unfold Lib.index
    rw [ih, if_neg (by simp [sep, List.isPrefixOf, hc]), if_neg (by simp), List.length_cons]
    omega
theorem split_join : ∀ (us : List (List UInt8)), us ≠ [] → (∀ u ∈ us, ∀ c ∈ u, c ≠ 44) → Lib.splitK sep 0 (Lib.count (joinB us) sep) (joinB us) = us
  | [], h, _ => absurd rfl h
  | [u], _, h => by
    have e : joinB [u] = u := by simp [joinB]
    have hi := idx_none u (h u (List.mem_cons_self ..))
    rw [e, Lib.count_miss hi]; rfl
  | u :: v :: r, _, h => by
    have ih := split_join (v :: r) (by simp) (fun x hx => h x (List.mem_cons_of_mem _ hx))
    have e : joinB (u :: v :: r) = u ++ (sep ++ joinB (v :: r)) := joinB_consZ _ (by simp)
    have hi := idx_sep (joinB (v :: r)) u (h u (List.mem_cons_self ..))
    have hd : (u ++ (sep ++ joinB (v :: r))).drop (u.length + sep.length) = joinB (v :: r) := by
      rw [← List.append_assoc, ← List.length_append, List.drop_left]
    rw [e, Lib.count_hit (by decide) hi, hd, Nat.add_comm 1]
    unfold Lib.splitK
    rw [hi, if_neg (by simp), Int.toNat_natCast, hd, ih, Nat.add_zero, List.take_left]

/-- A text of a value that is not too great. -/
def Good (l : List UInt8) : Prop := ∃ x, TV x ∧ vText x = l
theorem good_list {l : List UInt8} (h : Good (91 :: l)) : ∃ zs : List Int, (∀ z ∈ zs, z.natAbs < L32 ^ 4) ∧ l = joinB (zs.map zText) ++ [93] := by
  obtain ⟨x, hx, e⟩ := h
  cases x with
  | I z => exact (head_not e (by decide)).elim
  | B b => cases b <;> cases e
  | L zs => injection e with _ e; exact ⟨zs, hx.2, e.symm⟩
theorem good_num {l : List UInt8} (h : Good l) (h1 : l ≠ [116, 114, 117, 101]) (h2 : l ≠ [102, 97, 108, 115, 101]) (h3 : ¬ Lib.hasPrefix l [91] = true) : ZNum l := by
  obtain ⟨x, hx, e⟩ := h
  cases x with
  | I z => rw [← e]; exact (znum_textV hx).1
  | B b => cases b <;> first | exact absurd e.symm h1 | exact absurd e.symm h2
  | L zs => refine absurd ?_ h3; rw [← e]; exact List.isPrefixOf_iff_prefix.2 ⟨_, rfl⟩
theorem good_piece {inn : List UInt8} {zs : List Int} (hz : ∀ z ∈ zs, z.natAbs < L32 ^ 4) (h : inn = joinB (zs.map zText)) (hne : inn ≠ []) : ∀ t ∈ Lib.splitK sep 0 (Lib.count inn sep) inn, ZNum t := by
  have h0 : zs.map zText ≠ [] := by intro e; rw [e] at h; exact hne h
  rw [h, split_join _ h0 (fun u hu => by obtain ⟨z, _, rfl⟩ := List.mem_map.1 hu; exact no44 z)]
  intro t ht
  obtain ⟨z, hm, rfl⟩ := List.mem_map.1 ht
  exact (znum_textV (hz z hm)).1
theorem zText_inj {z w : Int} (h : zText z = zText w) : z = w := by
  have a := dn_dec z.natAbs
  have b := dn_dec w.natAbs
  unfold zText at h
  by_cases hz : z < 0 <;> by_cases hw : w < 0
  · rw [if_pos hz, if_pos hw] at h
    injection h with _ h
    have := congrArg dn h
    rw [a.2.1, b.2.1] at this
    omega
  · rw [if_pos hz, if_neg hw] at h
    have := b.1 45 (by rw [← h]; exact List.mem_cons_self ..)
    simp at this
  · rw [if_neg hz, if_pos hw] at h
    have := a.1 45 (by rw [h]; exact List.mem_cons_self ..)
    simp at this
  · rw [if_neg hz, if_neg hw] at h
    have := congrArg dn h
    rw [a.2.1, b.2.1] at this
    omega
theorem map_text_inj : ∀ {zs ys : List Int}, zs.map zText = ys.map zText → zs = ys
  | [], [], _ => rfl
  | [], _ :: _, h => by cases h
  | _ :: _, [], h => by cases h
  | z :: zs, y :: ys, h => by
    injection h with ha hb
    rw [zText_inj ha, map_text_inj hb]
theorem join_ne {z : Int} {zs : List Int} : joinB ((z :: zs).map zText) ≠ [] := by
  obtain ⟨c, t, e⟩ := zhead z
  simp [joinB, e]
theorem join_inj {zs ys : List Int} (h : joinB (zs.map zText) = joinB (ys.map zText)) : zs = ys := by
  cases zs with
  | nil =>
    cases ys with
    | nil => rfl
    | cons y ys => exact absurd h.symm join_ne
  | cons z zs =>
    cases ys with
    | nil => exact absurd h join_ne
    | cons y ys =>
      have e1 := split_join ((z :: zs).map zText) (by simp) (fun u hu => by obtain ⟨z, _, rfl⟩ := List.mem_map.1 hu; exact no44 z)
      have e2 := split_join ((y :: ys).map zText) (by simp) (fun u hu => by obtain ⟨z, _, rfl⟩ := List.mem_map.1 hu; exact no44 z)
      rw [h, e2] at e1
      exact (map_text_inj e1).symm
theorem vtext_inj {x y : V} (h : vText x = vText y) : x = y := by
  cases x with
  | I z =>
    cases y with
    | I w => rw [zText_inj h]
    | B b => cases b <;> exact (head_not h (by decide)).elim
    | L zs => exact (head_not h (by decide)).elim
  | B b =>
    cases y with
    | I w => cases b <;> exact (head_not h.symm (by decide)).elim
    | B c => cases b <;> cases c <;> first | rfl | cases h
    | L zs => cases b <;> cases h
  | L zs =>
    cases y with
    | I w => exact (head_not h.symm (by decide)).elim
    | B b => cases b <;> cases h
    | L ys =>
      injection h with _ h
      rw [join_inj (List.append_cancel_right h)]
theorem tv_len {x : V} (h : TV x) : (vText x).length ≤ 2000 ∧ ∀ l, x = .L l → l.length ≤ 700 := by
  cases x with
  | I z => exact ⟨by have := zt_lenk h; show (zText z).length ≤ 2000; omega, fun l e => by cases e⟩
  | B b => exact ⟨by cases b <;> decide, fun l e => by cases e⟩
  | L zs =>
    obtain ⟨h1, h2⟩ := h
    refine ⟨?_, fun l e => by injection e with e; subst e; omega⟩
    have h3 : ∀ l : List Int, (∀ z ∈ l, z.natAbs < L32 ^ 4) → (joinB (l.map zText)).length ≤ 44 * l.length := by
      intro l
      induction l with
      | nil => intro _; exact Nat.le_refl _
      | cons a l ih =>
        intro h
        have ha := zt_lenk (h a (List.mem_cons_self ..))
        have hb := ih (fun x hx => h x (List.mem_cons_of_mem _ hx))
        cases l with
        | nil => simp [joinB] at *; omega
        | cons b l =>
          rw [List.map_cons, joinB_consZ _ (by simp), List.length_append, List.length_append, List.length_cons]
          have : sep.length = 2 := rfl
          omega
    have := h3 zs h2
    show (91 :: (joinB (zs.map zText) ++ [93])).length ≤ 2000
    rw [List.length_cons, List.length_append, List.length_singleton]
    omega
end Go.Proofs.YtocadojeanhalaaGreatDoor
