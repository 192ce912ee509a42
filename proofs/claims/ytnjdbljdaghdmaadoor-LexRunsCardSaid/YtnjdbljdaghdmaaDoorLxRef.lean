/-
  The reference's side: begins, Word, Next: the same kind and length, or the same error, as the mathematics says.
-/
import Derived.Test.YtnjdbljdaghdmaaDoorLxG
namespace Go.Proofs.YtnjdbljdaghdmaaDoor
open Go.RowKit
set_option maxRecDepth 100000

def sgs : List Bs := [[58, 58], [45, 62], [38, 38], [124, 124], [91, 93], [60, 62], [60, 61], [62, 61], [40], [41], [123], [125], [44], [58], [59], [124], [61], [60], [62], [43], [45], [42], [47], [37]]
def sgF (l : Bs) : Option Bs := sgs.find? (·.isPrefixOf l)
def olen : Option Bs → Nat | some p => p.length | none => 0
theorem find_len (ps : List Bs) (l : Bs) (n : Nat) (hn : ∀ p ∈ ps, p.length = n) : olen (ps.find? (·.isPrefixOf l)) = if ps.any (·.isPrefixOf l) then n else 0 := by
  induction ps with
  | nil => rfl
  | cons p ps ih =>
    cases h : p.isPrefixOf l with
    | true => simp [List.find?, h, olen, hn p (by simp)]
    | false => simp only [List.find?, h, List.any_cons, Bool.false_or]; exact ih (fun q hq => hn q (by simp [hq]))
theorem any_sgl (a : UInt8) (r : Bs) : (List.any [[40], [41], [123], [125], [44], [58], [59], [124], [61], [60], [62], [43], [45], [42], [47], [37]] fun x : Bs => x.isPrefixOf (a :: r)) = sglB a := by
  have hc : ∀ x : UInt8, (x == a) = (a == x) := fun x => by rw [Bool.eq_iff_iff, beq_iff_eq, beq_iff_eq]; exact ⟨Eq.symm, Eq.symm⟩
  simp only [List.any_cons, List.any_nil, List.isPrefixOf, hc, Bool.and_true, Bool.or_false, sglB, Bool.or_assoc]
theorem any_pair (a b : UInt8) (r : Bs) : (List.any [[58, 58], [45, 62], [38, 38], [124, 124], [91, 93], [60, 62], [60, 61], [62, 61]] fun x : Bs => x.isPrefixOf (a :: b :: r)) = pairB a b := by
  have hc : ∀ x : UInt8, (x == a) = (a == x) := fun x => by rw [Bool.eq_iff_iff, beq_iff_eq, beq_iff_eq]; exact ⟨Eq.symm, Eq.symm⟩
  have hd : ∀ x : UInt8, (x == b) = (b == x) := fun x => by rw [Bool.eq_iff_iff, beq_iff_eq, beq_iff_eq]; exact ⟨Eq.symm, Eq.symm⟩
  simp only [List.any_cons, List.any_nil, List.isPrefixOf, hc, hd, Bool.and_true, Bool.or_false, pairB, Bool.or_assoc]
theorem any_short (a : UInt8) : (List.any [[58, 58], [45, 62], [38, 38], [124, 124], [91, 93], [60, 62], [60, 61], [62, 61]] fun x : Bs => x.isPrefixOf [a]) = false := by
  simp [List.isPrefixOf]
theorem sgF_len (l : Bs) : olen (sgF l) = sgn l := by
  have e : sgs = [[58, 58], [45, 62], [38, 38], [124, 124], [91, 93], [60, 62], [60, 61], [62, 61]] ++ [[40], [41], [123], [125], [44], [58], [59], [124], [61], [60], [62], [43], [45], [42], [47], [37]] := rfl
  have h2 := find_len [[58, 58], [45, 62], [38, 38], [124, 124], [91, 93], [60, 62], [60, 61], [62, 61]] l 2 (by simp)
  have h1 := find_len [[40], [41], [123], [125], [44], [58], [59], [124], [61], [60], [62], [43], [45], [42], [47], [37]] l 1 (by simp)
  unfold sgF
  rw [e, List.find?_append]
  match l, h1, h2 with
  | [], _, _ => rfl
  | [a], h1, h2 =>
    rw [any_short] at h2
    rw [any_sgl] at h1
    have hn : List.find? (fun x : Bs => x.isPrefixOf [a]) [[58, 58], [45, 62], [38, 38], [124, 124], [91, 93], [60, 62], [60, 61], [62, 61]] = none := by
      have := any_short a
      rw [List.any_eq_false] at this
      exact List.find?_eq_none.2 (fun x hx => this x hx)
    rw [hn, Option.none_or, h1]; rfl
  | a :: b :: r, h1, h2 =>
    rw [any_pair] at h2
    rw [any_sgl] at h1
    by_cases hp : pairB a b = true
    · rw [if_pos hp] at h2
      cases hf : List.find? (fun x : Bs => x.isPrefixOf (a :: b :: r)) [[58, 58], [45, 62], [38, 38], [124, 124], [91, 93], [60, 62], [60, 61], [62, 61]] with
      | none => rw [hf] at h2; cases h2
      | some p => rw [hf] at h2; rw [Option.some_or, h2]; simp [sgn, hp]
    · have hn : List.find? (fun x : Bs => x.isPrefixOf (a :: b :: r)) [[58, 58], [45, 62], [38, 38], [124, 124], [91, 93], [60, 62], [60, 61], [62, 61]] = none := by
        have := any_pair a b r
        rw [show pairB a b = false by simpa using hp, List.any_eq_false] at this
        exact List.find?_eq_none.2 (fun x hx => this x hx)
      rw [hn, Option.none_or, h1]; simp [sgn, hp]
theorem prefix_take (p l : Bs) : p.isPrefixOf l = (decide (p.length ≤ l.length) && (l.take p.length == p)) := by
  rw [Bool.eq_iff_iff, List.isPrefixOf_iff_prefix, Bool.and_eq_true, decide_eq_true_iff, beq_iff_eq, List.prefix_iff_eq_take]
  constructor
  · intro h; exact ⟨by have := congrArg List.length h; simp at this; omega, h.symm⟩
  · intro h; exact h.2.symm
theorem sgs_pos : ∀ p ∈ sgs, p.length = 1 ∨ p.length = 2 := by simp [sgs]
theorem sgF_step {l : Bs} {k : Nat} (hk : k < sgs.length) (h : sgF l = (sgs.drop k).find? (·.isPrefixOf l)) (hp : (sgs[k]).isPrefixOf l = false) : sgF l = (sgs.drop (k + 1)).find? (·.isPrefixOf l) := by
  rw [h, List.drop_eq_getElem_cons hk, List.find?_cons, hp]
theorem sgF_hit {l : Bs} {k : Nat} (hk : k < sgs.length) (h : sgF l = (sgs.drop k).find? (·.isPrefixOf l)) (hp : (sgs[k]).isPrefixOf l = true) : sgF l = some sgs[k] := by
  rw [h, List.drop_eq_getElem_cons hk, List.find?_cons, hp]
theorem sgF_end {l : Bs} (h : sgF l = (sgs.drop 24).find? (·.isPrefixOf l)) : sgF l = none := by
  rw [h]; rfl

theorem isW_drop0 (l : Bs) : isW l = (wds.drop 0).contains l := rfl
theorem isW_step {l : Bs} {k : Nat} (hk : k < wds.length) (h : isW l = (wds.drop k).contains l) (hp : (wds[k] == l) = false) : isW l = (wds.drop (k + 1)).contains l := by
  rw [h, List.drop_eq_getElem_cons hk, List.contains_cons]
  have : (l == wds[k]) = false := by rw [beq_eq_false_iff_ne] at hp ⊢; exact fun e => hp e.symm
  rw [this]; rfl
theorem isW_hit {l : Bs} {k : Nat} (hk : k < wds.length) (hp : (wds[k] == l) = true) : isW l = true := by
  rw [beq_iff_eq] at hp; rw [← hp]; exact isW_mem (List.getElem_mem hk)
theorem isW_end {l : Bs} (h : isW l = (wds.drop 20).contains l) : isW l = false := by rw [h]; rfl

set_option maxHeartbeats 400000 in
theorem begins_any (c : UInt8) (w : World) :
    Calls Tryd.prog 18 #[.int .u8 (c.toNat : Int)] w fun e w' => e = .returned (.bool (isL c)) ∧ w' = w := by
  rw [isL_int]
  go_enter Tryd.func18, Tryd.ntmps18
  go_wp2
  all_goals (go_ret; refine ⟨ret_bool ?_, rfl⟩; (first | (simp [*]; done) | (rw [Bool.eq_iff_iff]; simp; omega)))

set_option maxHeartbeats 2000000 in
theorem word_any (l : Bs) (w : World) :
    Calls Tryd.prog 19 #[.string ⟨l.toArray⟩] w fun e w' => e = .returned (.bool (isW l)) ∧ Below w.heap.size w w' := by
  go_enter Tryd.func19, Tryd.ntmps19
  go_wp2_with fail
  obtain ⟨W0, hW⟩ : ∃ W0, W0 = w.alloc (.cells #[.string ⟨#[102, 117, 110]⟩, .string ⟨#[113, 117, 97, 108, 105, 102]⟩, .string ⟨#[108, 101, 116]⟩, .string ⟨#[105, 110]⟩, .string ⟨#[105, 102]⟩, .string ⟨#[116, 104, 101, 110]⟩, .string ⟨#[101, 108, 115, 101]⟩, .string ⟨#[109, 97, 116, 99, 104]⟩, .string ⟨#[119, 105, 116, 104]⟩, .string ⟨#[97, 115, 115, 101, 114, 116]⟩, .string ⟨#[110, 111, 116]⟩, .string ⟨#[116, 114, 117, 101]⟩, .string ⟨#[102, 97, 108, 115, 101]⟩, .string ⟨#[105, 110, 116]⟩, .string ⟨#[98, 111, 111, 108]⟩, .string ⟨#[108, 105, 115, 116]⟩, .string ⟨#[108, 101, 110]⟩, .string ⟨#[104, 100]⟩, .string ⟨#[116, 108]⟩, .string ⟨#[118]⟩] 9) := ⟨_, rfl⟩
  have hb : Below w.heap.size w W0 := by rw [hW]; exact (Below.refl _ _).alloc (Nat.le_refl _) _
  have hB : W0.heap[w.heap.size]? = some (.cells (wds.map fun b => Value.string ⟨b.toArray⟩).toArray 9 (0, 0)) := by rw [hW]; exact made_at w _ _ rfl
  have hc : ∀ k (hk : k < wds.length), W0.cell? ⟨w.heap.size, k, none⟩ = some (.string ⟨(wds[k]).toArray⟩) := fun k hk => cell_at hB k (by simp [hk])
  rw [← hW]
  have HC := Lib.hid hc
  have HB := Lib.hid hb
  clear hW hB hc hb
  go_loopw [7] (fun i wr => ∃ k : Nat, i = .int .i64 k ∧ k ≤ 20 ∧ Hid (isW l = (wds.drop k).contains l) ∧ wr = W0) (fun i _ => 20 - (intOf i).toNat)
  case atStart => exact ⟨0, rfl, Nat.zero_le _, Lib.hid rfl, rfl⟩
  case round =>
    obtain ⟨k, rfl, hk, HI, rfl⟩ := hrel
    by_cases hlt : k < 20
    · have hkl : k < wds.length := hlt
      have c0 := HC.out k hkl
      obtain ⟨p, hp⟩ : ∃ p, p = wds[k] := ⟨_, rfl⟩
      rw [← hp] at c0
      cases hq : (p == l)
      · have HS : Hid (isW l = (wds.drop (k + 1)).contains l) := Lib.hid (isW_step hkl HI.out (by rw [← hp]; exact hq))
        clear hp
        go_wp2
        go_roundw
        case rel => exact ⟨k + 1, by go_num, by omega, HS, by trivial⟩
        case measure => simp [intOf]; omega
      · have HS := Lib.hid (isW_hit hkl (by rw [← hp]; exact hq))
        clear hp
        go_wp2
        go_ret
        exact ⟨ret_bool HS.out.symm, HB.out⟩
    · have hkn : k = 20 := by omega
      subst hkn
      have HS := Lib.hid (isW_end HI.out)
      go_wp2
      go_ret
      exact ⟨ret_bool HS.out.symm, HB.out⟩
end Go.Proofs.YtnjdbljdaghdmaaDoor
