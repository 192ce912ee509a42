/-
 Joined texts: LxM, KBase, KNat, KRef, Shelf, KText, KMul, Rely, KSh, KDiv, KPar, KWhoA, KWhoF, PsM, PsX, PsR, PsE, PsN, TrM, KTab.
-/
import Init
import Derived.WalkKit
import Derived.WalkSpells
import Derived.WalkLawsBesides
import Derived.Lib.Hide
import Derived.Laws.CopyOwn
import Derived.Laws.AppendOwnNone
import Derived.Test.YtdpfgfkoboihcaaGreatDoorRows
import Derived.Deep.QuietTactic
import Derived.BigQuiet
import Derived.Shelf.Strings.Builder1
import Derived.Shelf.Small.Bits
import Derived.Shelf.Small.Strs
import Derived.Shelf.Strconv.Itoa0
import Derived.Shelf.Strconv.Itoa1
import Derived.Shelf.LaysM
import Derived.Shelf.Strconv.Itoa2
import Derived.Shelf.Strconv.Clone
import Derived.Shelf.Strings.Search1
import Derived.Shelf.Strings.Prefix
import Derived.Test.YtdpfgfkoboihcaaGreatDoorProg
import Derived.Lib.Builder
import Derived.Lib.ItoaNum
import Derived.Lib.AppendStr
import Derived.RegionTactic
import Derived.StillTailTactics
import Derived.Deep.RegionHeld3
import Derived.Lib.ItoaMem
import Derived.Deep.DeepCutAuto
import Derived.Test.YtdpfgfkoboihcaaGreatDoorCards
import Derived.Test.YtdpfgfkoboihcaaGreatDoorTie
import Derived.ProofKit
import Derived.OpenShut
import Derived.ShutString
import Derived.ChangeOld
import Derived.Deep.DeepHandedRow
import Derived.Lib.LaidTab
import Derived.LaidMore
set_option maxHeartbeats 32000000
namespace Go.Proofs.YtdpfgfkoboihcaaGreatDoor
set_option maxRecDepth 100000
theorem gsa {α : Type _} {xs : List α} {i : Nat} : xs.toArray[i]? = xs[i]? := List.getElem?_toArray
theorem gsc {α : Type _} {a : α} {xs : List α} {i : Nat} : (a :: xs)[i + 1]? = xs[i]? := List.getElem?_cons_succ
theorem gsz {α : Type _} {a : α} {l : List α} : (a :: l)[0]? = some a := List.getElem?_cons_zero
theorem lsa {α : Type _} {xs ys : List α} : (xs ++ ys).length = xs.length + ys.length := List.length_append
theorem lsc {α : Type _} {a : α} {xs : List α} : (a :: xs).length = xs.length + 1 := List.length_cons
theorem lsn {α : Type _} : ([] : List α).length = 0 := List.length_nil
abbrev Bs := List UInt8
def isL (c : UInt8) : Bool := (97 <= c && c <= 122) || (65 <= c && c <= 90) || c == 95
def isD (c : UInt8) : Bool := 48 <= c && c <= 57
def isLD (c : UInt8) : Bool := isL c || isD c
def spn (p : UInt8 -> Bool) : Bs -> Nat
 | [] => 0
 | c :: l => if p c then spn p l + 1 else 0
theorem spn_le (p : UInt8 -> Bool) (l : Bs) : spn p l <= l.length := by
 induction l with
 | nil => simp [spn]
 | cons c l ih => simp only [spn, lsc]; split <;> omega
theorem spn_step {p : UInt8 -> Bool} {l : Bs} {k : Nat} (h : k < l.length) (hp : p l[k] = true) : spn p (l.drop k) = spn p (l.drop (k + 1)) + 1 := by
 rw [List.drop_eq_getElem_cons h, spn, if_pos hp]
theorem spn_stop {p : UInt8 -> Bool} {l : Bs} {k : Nat} (h : k < l.length) (hp : p l[k] = false) : spn p (l.drop k) = 0 := by
 rw [List.drop_eq_getElem_cons h, spn, hp]; rfl
theorem spn_end {p : UInt8 -> Bool} {l : Bs} {k : Nat} (h : l.length <= k) : spn p (l.drop k) = 0 := by
 rw [List.drop_of_length_le h]; rfl
theorem spn_all {p : UInt8 -> Bool} (l : Bs) : ∀ c ∈ l.take (spn p l), p c = true := by
 induction l with
 | nil => simp [spn]
 | cons a l ih =>
  by_cases h : p a = true
  ·simp only [spn, h, if_true, List.take_succ_cons];intro c hc;rcases List.mem_cons.1 hc with rfl | hc
   ·exact h
   exact ih c hc
  simp [spn, h]
def wds : List Bs := [[102, 117, 110], [113, 117, 97, 108, 105, 102], [108, 101, 116], [105, 110], [105, 102], [116, 104, 101, 110], [101, 108, 115, 101], [109, 97, 116, 99, 104], [119, 105, 116, 104], [97, 115, 115, 101, 114, 116], [110, 111, 116], [116, 114, 117, 101], [102, 97, 108, 115, 101], [105, 110, 116], [98, 111, 111, 108], [108, 105, 115, 116], [108, 101, 110], [104, 100], [116, 108], [118]]
def isW (l : Bs) : Bool := wds.contains l
def pairB (a b : UInt8) : Bool := (a == 58 && b == 58) || (a == 45 && b == 62) || (a == 38 && b == 38) || (a == 124 && b == 124) || (a == 91 && b == 93) || (a == 60 && b == 62) || (a == 60 && b == 61) || (a == 62 && b == 61)
def sglB (a : UInt8) : Bool := a == 40 || a == 41 || a == 123 || a == 125 || a == 44 || a == 58 || a == 59 || a == 124 || a == 61 || a == 60 || a == 62 || a == 43 || a == 45 || a == 42 || a == 47 || a == 37
def sgn : Bs -> Nat
 | [] => 0
 | [a] => if sglB a then 1 else 0
 | a :: b :: _ => if pairB a b then 2 else if sglB a then 1 else 0
theorem sgn_le (l : Bs) : sgn l <= 2 /\ sgn l <= l.length := by
 unfold sgn
 split
 ·simp
 ·split <;> simp
 split
 ·simp
 split <;> simp
def blk (c : UInt8) : Bool := c == 32 || c == 9 || c == 10 || c == 13
def gapL : Bool -> Bs -> Nat
 | _, [] => 0
 | true, c :: l => if c = 10 then gapL false l + 1 else gapL true l + 1
 | false, c :: l => if c = 35 then gapL true l + 1 else if blk c then gapL false l + 1 else 0
theorem gap_le (b : Bool) (l : Bs) : gapL b l <= l.length := by
 induction l generalizing b with
 | nil => cases b <;> simp [gapL]
 | cons c l ih =>
  have h1 := ih true;have h2 := ih false
  cases b <;> simp only [gapL, lsc] <;> split <;> (try split) <;> omega
theorem gap_end {b : Bool} {l : Bs} {k : Nat} (h : l.length <= k) : gapL b (l.drop k) = 0 := by
 rw [List.drop_of_length_le h]; cases b <;> rfl
theorem gap_blank {l : Bs} {k : Nat} (h : k < l.length) (hp : blk l[k] = true) : gapL false (l.drop k) = gapL false (l.drop (k + 1)) + 1 := by
 rw [List.drop_eq_getElem_cons h, gapL, if_neg (fun e => by rw [e] at hp; simp [blk] at hp), if_pos hp]
theorem gap_hash {l : Bs} {k : Nat} (h : k < l.length) (hp : l[k] = 35) : gapL false (l.drop k) = gapL true (l.drop (k + 1)) + 1 := by
 rw [List.drop_eq_getElem_cons h, gapL, if_pos hp]
theorem gap_stop {l : Bs} {k : Nat} (h : k < l.length) (hb : blk l[k] = false) (hp : l[k] ≠ 35) : gapL false (l.drop k) = 0 := by
 rw [List.drop_eq_getElem_cons h, gapL, if_neg hp, hb]; rfl
theorem gap_true_nl {l : Bs} {k : Nat} (h : k < l.length) (hp : l[k] = 10) : gapL true (l.drop k) = gapL false (l.drop (k + 1)) + 1 := by
 rw [List.drop_eq_getElem_cons h, gapL, if_pos hp]
theorem gap_true {l : Bs} {k : Nat} (h : k < l.length) (hp : l[k] ≠ 10) : gapL true (l.drop k) = gapL true (l.drop (k + 1)) + 1 := by
 rw [List.drop_eq_getElem_cons h, gapL, if_neg hp]
def notNl (c : UInt8) : Bool := c != 10
theorem gap_cmt (l : Bs) : gapL true l = spn notNl l + gapL false (l.drop (spn notNl l)) := by
 induction l with
 | nil => simp [gapL, spn]
 | cons c l ih =>
  by_cases h : c = 10
  ·subst h; simp [gapL, spn, notNl, blk]
  simp only [gapL, spn, notNl, if_neg h];have : (c != 10) = true := by simp [h]
  simp only [this, if_true, List.drop_succ_cons];have e : spn (fun c => c != 10) l = spn notNl l := rfl;rw [ih]; omega
theorem gap_cmt' {l : Bs} {k : Nat} (h : k < l.length) (hp : l[k] = 35) : gapL false (l.drop k) = spn notNl (l.drop k) + gapL false (l.drop (k + spn notNl (l.drop k))) := by
 rw [gap_hash h hp, gap_cmt, List.drop_drop];have e : spn notNl (l.drop k) = spn notNl (l.drop (k + 1)) + 1 := spn_step h (by rw [hp]; rfl);rw [e, show k + (spn notNl (l.drop (k + 1)) + 1) = k + 1 + spn notNl (l.drop (k + 1)) from by omega]
 omega
def stepP (p : Nat × Nat) (c : UInt8) : Nat × Nat := if c = 10 then (p.1 + 1, 1) else (p.1, p.2 + 1)
def adv (p : Nat × Nat) (l : Bs) : Nat × Nat := l.foldl stepP p
theorem adv_cons (p : Nat × Nat) (c : UInt8) (l : Bs) : adv p (c :: l) = adv (stepP p c) l := rfl
theorem adv_app (p : Nat × Nat) (l r : Bs) : adv p (l ++ r) = adv (adv p l) r := by simp [adv]
theorem adv_take_succ (p : Nat × Nat) (l : Bs) (k : Nat) (h : k < l.length) : adv p (l.take (k + 1)) = stepP (adv p (l.take k)) l[k] := by
 rw [List.take_succ_eq_append_getElem h, adv_app]; rfl
theorem stepP_nl {p : Nat × Nat} {c : UInt8} (h : c = 10) : stepP p c = (p.1 + 1, 1) := by rw [stepP, if_pos h]
theorem stepP_no {p : Nat × Nat} {c : UInt8} (h : c ≠ 10) : stepP p c = (p.1, p.2 + 1) := by rw [stepP, if_neg h]
theorem adv_bd (p : Nat × Nat) (l : Bs) : (adv p l).1 <= p.1 + l.length /\ (adv p l).2 <= p.2 + 1 + l.length := by
 induction l generalizing p with
 | nil => simp [adv]
 | cons c l ih =>
  rw [adv_cons];have := ih (stepP p c)
  by_cases h : c = 10
  ·rw [stepP_nl h] at this ⊢;simp only [lsc] at this ⊢; omega
  rw [stepP_no h] at this ⊢;simp only [lsc] at this ⊢; omega
theorem adv_flat (p : Nat × Nat) (l : Bs) (h : ∀ c ∈ l, c ≠ 10) : adv p l = (p.1, p.2 + l.length) := by
 induction l generalizing p with
 | nil => rfl
 | cons c l ih =>
  rw [adv_cons, stepP_no (h c (by simp)), ih _ (fun d hd => h d (by simp [hd]))]
  simp; omega
inductive Meas where | ok (kind len : Nat) | bad (e : Nat)
def meas : Bs -> Meas
 | [] => .ok 4 0
 | a :: r =>
  if isL a then
   if 40 < spn isLD (a :: r) then .bad 2 else if isW ((a :: r).take (spn isLD (a :: r))) then .ok 3 (spn isLD (a :: r)) else .ok 0 (spn isLD (a :: r))
  else if isD a then
   if 1 < spn isD (a :: r) /\ a = 48 then .bad 1 else if 300 < spn isD (a :: r) then .bad 2 else .ok 1 (spn isD (a :: r))
  else if 0 < sgn (a :: r) then .ok 2 (sgn (a :: r)) else .bad 1
theorem meas_cons (a : UInt8) (r : Bs) : meas (a :: r) =
  if isL a then
   if 40 < spn isLD (a :: r) then .bad 2 else if isW ((a :: r).take (spn isLD (a :: r))) then .ok 3 (spn isLD (a :: r)) else .ok 0 (spn isLD (a :: r))
  else if isD a then
   if 1 < spn isD (a :: r) /\ a = 48 then .bad 1 else if 300 < spn isD (a :: r) then .bad 2 else .ok 1 (spn isD (a :: r))
  else if 0 < sgn (a :: r) then .ok 2 (sgn (a :: r)) else .bad 1 := rfl
theorem isLD_ne {c : UInt8} (h : isLD c = true) : c ≠ 10 /\ blk c = false /\ c ≠ 35 := by
 have hc : ∀ x : UInt8, (x = 10 \/ x = 32 \/ x = 9 \/ x = 13 \/ x = 35) -> isLD x = false := by
  intro x hx; rcases hx with rfl | rfl | rfl | rfl | rfl <;> rfl
 refine ⟨fun e => ?_, ?_, fun e => ?_⟩
 ·rw [hc c (.inl e)] at h; cases h
 ·cases hb : blk c with
  | false => rfl
  | true =>
   have : c = 32 \/ c = 9 \/ c = 10 \/ c = 13 := by simpa [blk, or_assoc] using hb
   rw [hc c (by rcases this with e | e | e | e <;> simp [e])] at h; cases h
 rw [hc c (by simp [e])] at h; cases h
theorem isD_LD {c : UInt8} (h : isD c = true) : isLD c = true := by simp [isLD, h]
theorem isL_LD {c : UInt8} (h : isL c = true) : isLD c = true := by simp [isLD, h]
theorem sgl_ne {c : UInt8} (h : sglB c = true) : c ≠ 10 /\ blk c = false /\ c ≠ 35 := by
 have hc : ∀ x : UInt8, (x = 10 \/ x = 32 \/ x = 9 \/ x = 13 \/ x = 35) -> sglB x = false := by
  intro x hx; rcases hx with rfl | rfl | rfl | rfl | rfl <;> rfl
 refine ⟨fun e => ?_, ?_, fun e => ?_⟩
 ·rw [hc c (.inl e)] at h; cases h
 ·cases hb : blk c with
  | false => rfl
  | true =>
   have : c = 32 \/ c = 9 \/ c = 10 \/ c = 13 := by simpa [blk, or_assoc] using hb
   rw [hc c (by rcases this with e | e | e | e <;> simp [e])] at h; cases h
 rw [hc c (by simp [e])] at h; cases h
theorem pair_ne {a b : UInt8} (h : pairB a b = true) : (a ≠ 10 /\ blk a = false /\ a ≠ 35) /\ b ≠ 10 := by
 simp only [pairB, Bool.or_eq_true, Bool.and_eq_true, beq_iff_eq] at h;rcases h with ((((((⟨rfl, rfl⟩ | ⟨rfl, rfl⟩) | ⟨rfl, rfl⟩) | ⟨rfl, rfl⟩) | ⟨rfl, rfl⟩) | ⟨rfl, rfl⟩) | ⟨rfl, rfl⟩) | ⟨rfl, rfl⟩ <;> exact ⟨⟨by decide, rfl, by decide⟩, by decide⟩
theorem meas_ok {l : Bs} {k n : Nat} (hl : l ≠ []) (h : meas l = .ok k n) : k < 4 /\ 1 <= n /\ n <= l.length /\ (∀ c ∈ l.take n, c ≠ 10) /\ (∀ c, l.head? = some c -> blk c = false /\ c ≠ 35) := by
 match l, hl with
 | a :: r, _ =>
  rw [meas_cons] at h
  by_cases h1 : isL a = true
  ·rw [if_pos h1] at h;have e : spn isLD (a :: r) = spn isLD r + 1 := by rw [spn, if_pos (isL_LD h1)]
   have hne := isLD_ne (isL_LD h1);have hle := spn_le isLD (a :: r);have hall := spn_all (p := isLD) (a :: r)
   split at h
   ·cases h
   ·split at h <;> (injection h with hk hn; subst hk; subst hn; exact ⟨by omega, by omega, hle, fun c hc => (isLD_ne (hall c hc)).1, fun c hc => by simp at hc; subst hc; exact hne.2⟩)
  rw [if_neg h1] at h
  by_cases h2 : isD a = true
  ·rw [if_pos h2] at h;have e : spn isD (a :: r) = spn isD r + 1 := by rw [spn, if_pos h2]
   have hne := isLD_ne (isD_LD h2);have hle := spn_le isD (a :: r);have hall := spn_all (p := isD) (a :: r)
   split at h
   ·cases h
   split at h
   ·cases h
   injection h with hk hn; subst hk; subst hn;exact ⟨by omega, by omega, hle, fun c hc => (isLD_ne (isD_LD (hall c hc))).1, fun c hc => by simp at hc; subst hc; exact hne.2⟩
  rw [if_neg h2] at h
  split at h
  ·rename_i h3
   injection h with hk hn; subst hk; subst hn;have hle := (sgn_le (a :: r)).2
   match r, h3, hle with
   | [], h3, hle =>
    have e2 : sglB a = true := by
     cases hs : sglB a with
     | true => rfl
     | false => simp [sgn, hs] at h3
    have e1 : sgn [a] = 1 := by simp [sgn, e2]
    have hne := sgl_ne e2;exact ⟨by omega, by omega, hle, fun c hc => by rw [e1] at hc; simp at hc; subst hc; exact hne.1, fun c hc => by simp at hc; subst hc; exact hne.2⟩
   | b :: r', h3, hle =>
    by_cases e2 : pairB a b = true
    ·have e1 : sgn (a :: b :: r') = 2 := by simp [sgn, e2]
     have hne := pair_ne e2;exact ⟨by omega, by omega, hle, fun c hc => by rw [e1] at hc; simp at hc; rcases hc with rfl | rfl; exact hne.1.1; exact hne.2, fun c hc => by simp at hc; subst hc; exact hne.1.2⟩
    have e3 : sglB a = true := by
     cases hs : sglB a with
     | true => rfl
     | false => simp [sgn, e2, hs] at h3
    have e1 : sgn (a :: b :: r') = 1 := by simp [sgn, e2, e3]
    have hne := sgl_ne e3;exact ⟨by omega, by omega, hle, fun c hc => by rw [e1] at hc; simp at hc; subst hc; exact hne.1, fun c hc => by simp at hc; subst hc; exact hne.2⟩
  cases h
structure Tok where
 kind : Nat
 text : Bs
 line : Nat
 col : Nat
def lexS (s : Bs) (p : Nat × Nat) : List Tok × Nat :=
 if _h : s.drop (gapL false s) = [] then ([⟨4, [], (adv p (s.take (gapL false s))).1, (adv p (s.take (gapL false s))).2⟩], 0)
 else match meas (s.drop (gapL false s)) with
  | .bad e => ([⟨4, [], (adv p (s.take (gapL false s))).1, (adv p (s.take (gapL false s))).2⟩], e)
  | .ok k n =>
   let r := lexS ((s.drop (gapL false s)).drop (n - 1 + 1)) (adv (adv p (s.take (gapL false s))) ((s.drop (gapL false s)).take (n - 1 + 1)))
   (⟨k, (s.drop (gapL false s)).take n, (adv p (s.take (gapL false s))).1, (adv p (s.take (gapL false s))).2⟩ :: r.1, r.2)
termination_by s.length
decreasing_by
 have : 0 < (s.drop (gapL false s)).length := List.length_pos_iff.2 _h
 simp at this ⊢; omega
theorem lex_end {s : Bs} {p : Nat × Nat} (h : s.drop (gapL false s) = []) : lexS s p = ([⟨4, [], (adv p s).1, (adv p s).2⟩], 0) := by
 have e : s.take (gapL false s) = s := List.take_of_length_le (List.drop_eq_nil_iff.1 h);rw [lexS, dif_pos h, e]
theorem lex_bad {s : Bs} {p : Nat × Nat} {e : Nat} (h : s.drop (gapL false s) ≠ []) (hm : meas (s.drop (gapL false s)) = .bad e) : lexS s p = ([⟨4, [], (adv p (s.take (gapL false s))).1, (adv p (s.take (gapL false s))).2⟩], e) := by
 rw [lexS, dif_neg h, hm]
theorem lex_tok {s : Bs} {p : Nat × Nat} {k n : Nat} (h : s.drop (gapL false s) ≠ []) (hm : meas (s.drop (gapL false s)) = .ok k n) :
  lexS s p = (⟨k, (s.drop (gapL false s)).take n, (adv p (s.take (gapL false s))).1, (adv p (s.take (gapL false s))).2⟩ :: (lexS ((s.drop (gapL false s)).drop n) (adv (adv p (s.take (gapL false s))) ((s.drop (gapL false s)).take n))).1,
   (lexS ((s.drop (gapL false s)).drop n) (adv (adv p (s.take (gapL false s))) ((s.drop (gapL false s)).take n))).2) := by
 have h1 := (meas_ok h hm).2.1;have e : n - 1 + 1 = n := by omega
 rw [lexS, dif_neg h, hm];simp only [e]
theorem lex_ne (s : Bs) (p : Nat × Nat) : (lexS s p).1 ≠ [] := by
 rw [lexS]; split
 ·simp
 split <;> simp
theorem meas_bad {l : Bs} {e : Nat} (h : meas l = .bad e) : e = 1 \/ e = 2 := by
 match l with
 | [] => cases h
 | a :: r =>
  rw [meas_cons] at h
  repeat' split at h
  all_goals first | (injection h with h; omega) | cases h
theorem lex_code (s : Bs) (p : Nat × Nat) : (lexS s p).2 = 0 \/ (lexS s p).2 = 1 \/ (lexS s p).2 = 2 := by
 induction hn : s.length using Nat.strongRecOn generalizing s p with
 | ind n ih =>
  by_cases h : s.drop (gapL false s) = []
  ·rw [lex_end h]; exact .inl rfl
  cases hm : meas (s.drop (gapL false s)) with
  | bad e => rw [lex_bad h hm]; rcases meas_bad hm with e | e <;> simp [e]
  | ok k m =>
   rw [lex_tok h hm];have := meas_ok h hm;exact ih _ (by subst hn; have h1 := List.length_pos_iff.2 h; simp only [List.length_drop] at this h1 ⊢; omega) _ _ rfl
theorem lex_ind {C : Bs -> Nat × Nat -> List Tok -> Prop} (hend : ∀ s p, s.drop (gapL false s) = [] -> C s p [⟨4, [], (adv p s).1, (adv p s).2⟩])
  (htok : ∀ s p k n ts, s.drop (gapL false s) ≠ [] -> meas (s.drop (gapL false s)) = .ok k n -> C ((s.drop (gapL false s)).drop n) (adv (adv p (s.take (gapL false s))) ((s.drop (gapL false s)).take n)) ts ->
   lexS ((s.drop (gapL false s)).drop n) (adv (adv p (s.take (gapL false s))) ((s.drop (gapL false s)).take n)) = (ts, 0) ->
   C s p (⟨k, (s.drop (gapL false s)).take n, (adv p (s.take (gapL false s))).1, (adv p (s.take (gapL false s))).2⟩ :: ts))
  (s : Bs) (p : Nat × Nat) (h0 : (lexS s p).2 = 0) : C s p (lexS s p).1 := by
 induction hn : s.length using Nat.strongRecOn generalizing s p with
 | ind n ih =>
  by_cases h : s.drop (gapL false s) = []
  ·rw [lex_end h]; exact hend s p h
  cases hm : meas (s.drop (gapL false s)) with
  | bad e => rw [lex_bad h hm] at h0; rcases meas_bad hm with e | e <;> simp [e] at h0
  | ok k m =>
   rw [lex_tok h hm] at h0 ⊢;have := meas_ok h hm;refine htok s p k m _ h hm (ih _ (by subst hn; have h1 := List.length_pos_iff.2 h; simp only [List.length_drop] at this h1 ⊢; omega) _ _ h0 rfl) ?_;exact Prod.ext rfl h0
def textSum (ts : List Tok) : Nat := (ts.map fun t => t.text.length).sum
theorem lex_sum (s : Bs) (p : Nat × Nat) : (lexS s p).1.length <= s.length + 1 /\ textSum (lexS s p).1 <= s.length := by
 induction hn : s.length using Nat.strongRecOn generalizing s p with
 | ind n ih =>
  by_cases h : s.drop (gapL false s) = []
  ·rw [lex_end h]; simp [textSum]
  cases hm : meas (s.drop (gapL false s)) with
  | bad e => rw [lex_bad h hm]; simp [textSum]
  | ok k m =>
   rw [lex_tok h hm];have h2 := meas_ok h hm;have h3 := ih _ (by subst hn; have h1 := List.length_pos_iff.2 h; simp only [List.length_drop] at h2 h1 ⊢; omega) ((s.drop (gapL false s)).drop m) (adv (adv p (s.take (gapL false s))) ((s.drop (gapL false s)).take m)) rfl;simp only [textSum, List.length_drop, lsc, List.map_cons, List.sum_cons, List.length_take] at h2 h3 ⊢
   omega
def Placed (s : Bs) (p : Nat × Nat) : Nat -> List Tok -> Prop
 | off, [] => off = s.length
 | off, t :: ts => ∃ o, off <= o /\ o + t.text.length <= s.length /\ adv p (s.take o) = (t.line, t.col) /\ (s.drop o).take t.text.length = t.text /\ (∀ c ∈ t.text, c ≠ 10) /\ Placed s p (o + t.text.length) ts
theorem lex_placed (s0 : Bs) (p0 : Nat × Nat) (h0 : (lexS s0 p0).2 = 0) : Placed s0 p0 0 (lexS s0 p0).1 := by
 refine lex_ind (C := fun s p ts => ∀ off, off <= s0.length -> s = s0.drop off -> p = adv p0 (s0.take off) -> Placed s0 p0 off ts) ?_ ?_ s0 p0 h0 0 (Nat.zero_le _) rfl rfl
 ·intro s p h off ho hs hp;refine ⟨s0.length, ho, by simp, ?_, by simp, by simp, by simp [Placed]⟩;rw [hs, hp, <- adv_app, List.take_append_drop, List.take_length]
 intro s p k n ts h hm ih he off ho hs hp;have h2 := meas_ok h hm;have hg := gap_le false s;have hl : s.length = s0.length - off := by rw [hs, List.length_drop]
 have h3 : n <= s.length - gapL false s := by have := h2.2.2.1; simpa using this
 have hp1 : adv p (s.take (gapL false s)) = adv p0 (s0.take (off + gapL false s)) := by
  rw [hp, <- adv_app, List.take_add]; rw [<- hs]
 have hdd : (s.drop (gapL false s)) = s0.drop (off + gapL false s) := by rw [<- List.drop_drop, <- hs]
 have hlen : ((s.drop (gapL false s)).take n).length = n := by rw [List.length_take, List.length_drop]; omega
 refine ⟨off + gapL false s, by omega, by rw [hlen]; omega, by rw [<- hp1], by rw [hlen, <- hdd], h2.2.2.2.1, ?_⟩;rw [hlen];refine ih _ (by omega) (by rw [hdd, List.drop_drop]) ?_;rw [hp1, hdd, <- adv_app, <- List.take_add]
def val (B : Nat) : List Nat -> Nat
 | [] => 0
 | x :: xs => x + B * val B xs
def Dig (B : Nat) (xs : List Nat) : Prop := ∀ x ∈ xs, x < B
theorem val_append (B : Nat) (xs ys : List Nat) : val B (xs ++ ys) = val B xs + B ^ xs.length * val B ys := by
 induction xs with
 | nil => simp [val]
 | cons x xs ih => simp only [List.cons_append, val, ih, lsc, Nat.pow_succ]; grind
theorem val_lt {B : Nat} {xs : List Nat} (h : Dig B xs) : val B xs < B ^ xs.length := by
 induction xs with
 | nil => simp [val]
 | cons x xs ih =>
  have h1 : x < B := h x (by simp);have h2 := ih (fun y hy => h y (by simp [hy]));simp only [val, lsc, Nat.pow_succ];have : B * (val B xs + 1) <= B * B ^ xs.length := Nat.mul_le_mul_left _ h2
  grind
theorem val_take_succ (B : Nat) (xs : List Nat) (k : Nat) (h : k < xs.length) : val B (xs.take (k + 1)) = val B (xs.take k) + xs.getD k 0 * B ^ k := by
 rw [List.take_succ_eq_append_getElem h, val_append];have e : (xs.take k).length = k := by simp; omega
 simp [val, e, List.getD, h, Nat.mul_comm]
theorem val_replicate_zero (B n : Nat) : val B (List.replicate n 0) = 0 := by
 induction n with
 | zero => rfl
 | succ n ih => simp [List.replicate_succ, val, ih]
theorem Dig.set {B : Nat} {xs : List Nat} (h : Dig B xs) {i v : Nat} (hv : v < B) : Dig B (xs.set i v) := by
 intro x hx;rcases List.mem_or_eq_of_mem_set hx with h' | h'
 ·exact h x h'
 omega
theorem Dig.append {B : Nat} {xs ys : List Nat} (h : Dig B xs) (k : Dig B ys) : Dig B (xs ++ ys) := by
 intro x hx; rcases List.mem_append.1 hx with h' | h'
 ·exact h x h'
 exact k x h'
theorem Dig.take {B : Nat} {xs : List Nat} (h : Dig B xs) (n : Nat) : Dig B (xs.take n) := fun x hx => h x (List.mem_of_mem_take hx)
theorem Dig.drop {B : Nat} {xs : List Nat} (h : Dig B xs) (n : Nat) : Dig B (xs.drop n) := fun x hx => h x (List.mem_of_mem_drop hx)
theorem Dig.getD {B : Nat} {xs : List Nat} (h : Dig B xs) (hB : 0 < B) (i : Nat) : xs.getD i 0 < B := by
 by_cases hi : i < xs.length
 ·have := h xs[i] (List.getElem_mem hi); simpa [List.getD, hi] using this
 simpa [List.getD, Nat.le_of_not_lt hi] using hB
theorem Dig.replicate {B : Nat} (hB : 0 < B) (n : Nat) : Dig B (List.replicate n 0) := fun x hx => by rw [List.eq_of_mem_replicate hx]; exact hB
theorem Dig.nil (B : Nat) : Dig B [] := fun x hx => by cases hx
def nz (xs : List Nat) : Nat := (xs.reverse.dropWhile (· == 0)).length
theorem nz_le (xs : List Nat) : nz xs <= xs.length := by
 unfold nz;have := (List.dropWhile_suffix (p := (· == 0)) (l := xs.reverse)).length_le
 simpa using this
theorem nz_zero {xs : List Nat} {k : Nat} (h : k < xs.length) (h0 : xs.getD k 0 = 0) : nz (xs.take (k+1)) = nz (xs.take k) := by
 unfold nz;rw [List.take_succ_eq_append_getElem h]
 simp [List.getD, h] at h0
 simp [h0]
theorem nz_pos {xs : List Nat} {k : Nat} (h : k < xs.length) (h0 : xs.getD k 0 ≠ 0) : nz (xs.take (k+1)) = k + 1 := by
 unfold nz;rw [List.take_succ_eq_append_getElem h]
 simp [List.getD, h] at h0
 have e : (xs[k] == 0) = false := by simpa using h0
 rw [List.reverse_append, List.reverse_singleton, List.singleton_append, List.dropWhile_cons, e]
 simp; omega
def dig (B : Nat) (n : Nat) : List Nat :=
 if _h : 2 <= B /\ 0 < n then n % B :: dig B (n / B) else []
termination_by n
decreasing_by exact Nat.div_lt_self _h.2 (by omega)
theorem dig_zero (B : Nat) : dig B 0 = [] := by unfold dig; simp
theorem dig_pos {B n : Nat} (hB : 2 <= B) (h : 0 < n) : dig B n = n % B :: dig B (n / B) := by rw [dig]; simp [hB, h]
theorem val_dig {B : Nat} (hB : 2 <= B) (n : Nat) : val B (dig B n) = n := by
 induction n using Nat.strongRecOn with
 | ind n ih =>
  by_cases h : 0 < n
  ·rw [dig_pos hB h]; simp only [val]; rw [ih _ (Nat.div_lt_self h (by omega))]; have := Nat.mod_add_div n B; omega
  have : n = 0 := by omega
  subst this; simp [dig_zero, val]
theorem Dig_dig {B : Nat} (hB : 2 <= B) (n : Nat) : Dig B (dig B n) := by
 induction n using Nat.strongRecOn with
 | ind n ih =>
  by_cases h : 0 < n
  ·rw [dig_pos hB h]; intro x hx;rcases List.mem_cons.1 hx with rfl | hx
   ·exact Nat.mod_lt _ (by omega)
   exact ih _ (Nat.div_lt_self h (by omega)) x hx
  have : n = 0 := by omega
  subst this; simp [dig_zero, Dig]
theorem take_nz {B : Nat} (hB : 2 <= B) {xs : List Nat} (h : Dig B xs) : xs.take (nz xs) = dig B (val B xs) := by
 induction xs with
 | nil => simp [nz, val, dig_zero]
 | cons x xs ih =>
  have hx : x < B := h x (by simp);have hd : Dig B xs := fun y hy => h y (by simp [hy])
  have ih' := ih hd
  by_cases hz : nz xs = 0
  ·have hv : val B xs = 0 := by
    have : dig B (val B xs) = [] := by rw [<- ih', hz]; rfl
    by_cases h0 : 0 < val B xs
    ·rw [dig_pos hB h0] at this; cases this
    omega
   have hall : xs.reverse.dropWhile (· == 0) = [] := List.eq_nil_of_length_eq_zero hz;simp only [val, hv, Nat.mul_zero, Nat.add_zero]
   have e : nz (x :: xs) = if x = 0 then 0 else 1 := by
    unfold nz;rw [List.reverse_cons, List.dropWhile_append, hall]
    by_cases hx0 : x = 0
    ·simp [hx0]
    simp [hx0, List.dropWhile]
    have : (x == 0) = false := by simpa using hx0
    simp [this]
   by_cases hx0 : x = 0
   ·rw [e, if_pos hx0, hx0, dig_zero]; rfl
   rw [e, if_neg hx0, dig_pos hB (by omega), Nat.mod_eq_of_lt hx, Nat.div_eq_of_lt hx, dig_zero]; rfl
  have hne : xs.reverse.dropWhile (· == 0) ≠ [] := fun e => hz (by unfold nz; rw [e]; rfl)
  have e : nz (x :: xs) = nz xs + 1 := by
   unfold nz;rw [List.reverse_cons, List.dropWhile_append, if_neg (by simpa using hne)]
   simp
  have hv : 0 < val B xs := by
   rcases Nat.eq_zero_or_pos (val B xs) with h0 | h0
   ·rw [h0, dig_zero] at ih';have := congrArg List.length ih'
    simp at this
    have hl := nz_le xs;rcases this with h1 | h1
    ·omega
    subst h1; simp [nz] at hz
   exact h0
  have hv' : 0 < x + B * val B xs := by
   have h1 : 1 <= B := by omega
   have := Nat.mul_le_mul h1 hv; omega
  rw [e, List.take_succ_cons, ih', val, dig_pos (n := x + B * val B xs) hB hv'];rw [Nat.add_mul_mod_self_left, Nat.mod_eq_of_lt hx, Nat.add_mul_div_left _ _ (by omega), Nat.div_eq_of_lt hx, Nat.zero_add]
theorem dig_val_take {B : Nat} (hB : 2 <= B) {xs : List Nat} (h : Dig B xs) : dig B (val B xs) = xs.take (nz xs) := (take_nz hB h).symm
theorem length_dig_val {B : Nat} (hB : 2 <= B) {xs : List Nat} (h : Dig B xs) : (dig B (val B xs)).length = nz xs := by
 rw [dig_val_take hB h, List.length_take]; have := nz_le xs; omega
theorem val_take_nz {B : Nat} (hB : 2 <= B) {xs : List Nat} (h : Dig B xs) : val B (xs.take (nz xs)) = val B xs := by rw [take_nz hB h, val_dig hB]
theorem length_dig_le {B : Nat} (hB : 2 <= B) {n k : Nat} (h : n < B ^ k) : (dig B n).length <= k := by
 induction k generalizing n with
 | zero => simp at h; subst h; simp [dig_zero]
 | succ k ih =>
  by_cases h0 : 0 < n
  ·rw [dig_pos hB h0, lsc];have : n / B < B ^ k := Nat.div_lt_of_lt_mul (by rw [Nat.pow_succ] at h; rw [Nat.mul_comm]; exact h);have := ih this; omega
  have : n = 0 := by omega
  subst this; simp [dig_zero]
end Go.Proofs.YtdpfgfkoboihcaaGreatDoor
namespace Go.Proofs.YtdpfgfkoboihcaaGreatDoor
open Go.RowKit
set_option maxRecDepth 100000
def nth (xs : List Nat) (i : Nat) : Int := ((xs.getD i 0 : Nat) : Int)
theorem nth_eq {xs : List Nat} {i : Nat} (h : i < xs.length) : nth xs i = ((xs[i] : Nat) : Int) := by
 unfold nth; simp [List.getD, h]
def Sl (w : World) (k : IntKind) (v : Value) (xs : List Nat) : Prop :=
 ∃ (ao : Option Addr) (cap : Nat), v = .slice ao xs.length cap /\ xs.length <= cap /\ cap <= 9223372036854775807 /\ (ao = none -> cap = 0) /\
  ∀ i, i < xs.length -> ∃ a, ao = some a /\ w.cell? (a.add i) = some (.int k (nth xs i))
theorem cell_lt {w : World} {a : Addr} {v : Value} (h : w.cell? a = some v) : a.block < w.heap.size := World.block_lt_of_cell? w a h
theorem Sl.nil (w : World) (k : IntKind) : Sl w k (.slice none 0 0) [] :=
 ⟨none, 0, rfl, by simp, by omega, fun _ => rfl, fun i hi => by simp at hi⟩
theorem Sl.below {w w' : World} {k : IntKind} {v : Value} {xs : List Nat} (h : Sl w k v xs) (hb : Below w.heap.size w w') : Sl w' k v xs := by
 obtain ⟨ao, cap, rfl, h1, h2, h3, h4⟩ := h;refine ⟨ao, cap, rfl, h1, h2, h3, fun i hi => ?_⟩;obtain ⟨a, ha, hc⟩ := h4 i hi;exact ⟨a, ha, by rw [hb.cell (cell_lt hc)]; exact hc⟩
theorem Sl.take {w : World} {k : IntKind} {ao : Option Addr} {n cap : Nat} {xs : List Nat} (h : Sl w k (.slice ao n cap) xs) (m : Nat) (hm : m <= xs.length) : Sl w k (.slice ao m cap) (xs.take m) := by
 obtain ⟨ao', cap', e, h1, h2, h3, h4⟩ := h;injection e with e1 e2 e3;subst e1; subst e3;have hl : (xs.take m).length = m := by simp; omega
 refine ⟨ao, cap, by rw [hl], by rw [hl]; omega, h2, h3, fun i hi => ?_⟩;rw [hl] at hi;obtain ⟨a, ha, hc⟩ := h4 i (by omega);refine ⟨a, ha, ?_⟩;rw [hc]; unfold nth
 simp [List.getD, hi]
def Blk (w : World) (g : Nat) (k : IntKind) (T : TypeId) (l : List Nat) : Prop :=
 w.heap[g]? = some (.cells ((l.map fun (n : Nat) => Value.int k ((n : Nat) : Int)).toArray) T (0, 0))
theorem Blk.lt {w : World} {g : Nat} {k : IntKind} {T : TypeId} {l : List Nat} (h : Blk w g k T l) : g < w.heap.size := lt_of_block h
theorem Blk.cell {w : World} {g : Nat} {k : IntKind} {T : TypeId} {l : List Nat} (h : Blk w g k T l) {i : Nat} (hi : i < l.length) : w.cell? ⟨g, i, none⟩ = some (.int k (nth l i)) := by
 rw [cell_of_row w g i _ T (0, 0) h]
 simp [hi, nth_eq hi]
theorem Blk.frozen {w : World} {g : Nat} {k : IntKind} {T : TypeId} {l : List Nat} (h : Blk w g k T l) (i : Nat) : w.frozen? ⟨g, i, none⟩ = false := frozen_of_row w g i _ T h
theorem Blk.set {w : World} {g : Nat} {k : IntKind} {T : TypeId} {l : List Nat} (h : Blk w g k T l) (i : Nat) (n : Nat) (z : Int) (hz : z = (n : Int)) : Blk (w.setCell ⟨g, i, none⟩ (.int k z)) g k T (l.set i n) := by
 subst hz;unfold Blk;rw [heap_setCell_same w g i _ T _ h]
 simp [List.map_set]
theorem Blk.below {w w' : World} {B g : Nat} {k : IntKind} {T : TypeId} {l : List Nat} (h : Blk w g k T l) (hg : Below B w w') (hB : g < B) : Blk w' g k T l := by
 unfold Blk at *;rw [hg.block g hB]; exact h
theorem addr_at (g off i : Nat) : (⟨g, off, none⟩ : Addr).add i = ⟨g, off + i, none⟩ := by simp [Addr.add]
theorem Blk.sl {w : World} {g : Nat} {k : IntKind} {T : TypeId} {l : List Nat} (h : Blk w g k T l) (off n cap : Nat) (hn : off + n <= l.length) (hc : n <= cap) (hm : cap <= 9223372036854775807) :
  Sl w k (.slice (some ⟨g, off, none⟩) n cap) ((l.drop off).take n) := by
 have hl : ((l.drop off).take n).length = n := by simp; omega
 refine ⟨some ⟨g, off, none⟩, cap, by rw [hl], by rw [hl]; exact hc, hm, (fun e => by cases e), fun i hi => ⟨_, rfl, ?_⟩⟩;rw [hl] at hi;rw [addr_at, h.cell (i := off + i) (by omega)];unfold nth
 simp [List.getD, hi]
theorem grown_setCell {w0 w : World} {g i : Nat} (h : w0.grownBy w (some g)) (v : Value) : w0.grownBy (w.setCell ⟨g, i, none⟩ v) (some g) :=
 ⟨h.os, h.tape, h.output, by simpa [World.setCell] using h.size, fun k hk hne => by
  rw [Below.heap_setCell _ _ _ _ (fun e => hne (by rw [e]))]; exact h.block k hk hne⟩
theorem grown_drew {w0 w : World} {row : Option Nat} (h : w0.grownBy w row) : w0.grownBy w.drew row := ⟨h.os, h.tape, h.output, h.size, h.block⟩
def Ws (w : World) (k : IntKind) (T : TypeId) (v : Value) (g : Nat) (pre s post : List Nat) : Prop :=
 ∃ (ao : Option Addr) (cap : Nat), v = .slice ao s.length cap /\ s.length <= cap /\ cap <= 9223372036854775807 /\ (ao = none -> cap = 0) /\
  (s.length ≠ 0 -> ao = some ⟨g, pre.length, none⟩ /\ Blk w g k T (pre ++ s ++ post))
def WsAt (w : World) (k : IntKind) (T : TypeId) (ao : Option Addr) (g : Nat) (pre s post : List Nat) (n : Nat) : Prop :=
 n ≠ 0 -> ao = some ⟨g, pre.length, none⟩ /\ Blk w g k T (pre ++ s ++ post)
theorem u32_wf {xs : List Nat} (h : Dig 4294967296 xs) (i : Nat) : 0 <= nth xs i /\ nth xs i < 4294967296 := by
 have h1 := h.getD (by omega) i;unfold nth; omega
theorem Sl.at {w : World} {k : IntKind} {b : Addr} {n c : Nat} {xs : List Nat} (h : Sl w k (.slice (some b) n c) xs) {i : Nat} (hi : i < xs.length) : w.cell? (b.add i) = some (.int k (nth xs i)) := by
 obtain ⟨_, _, e, _, _, _, q⟩ := h;injection e with e1 e2 e3;subst e1;obtain ⟨b', e, q⟩ := q i hi;injection e with e; subst e; exact q
theorem Ws.sl {w : World} {k : IntKind} {T : TypeId} {v : Value} {g : Nat} {pre s post : List Nat} (h : Ws w k T v g pre s post) : Sl w k v s := by
 obtain ⟨ao, cap, rfl, h1, h2, h3, h4⟩ := h;refine ⟨ao, cap, rfl, h1, h2, h3, fun i hi => ?_⟩;obtain ⟨rfl, hb⟩ := h4 (by omega);refine ⟨_, rfl, ?_⟩;rw [addr_at, hb.cell (by simp; omega)];unfold nth
 simp [List.getD, List.getElem?_append_left, List.getElem?_append_right, hi]
theorem nth_mid (pre s post : List Nat) (i : Nat) (h : i < s.length) : nth (pre ++ s ++ post) (pre.length + i) = nth s i := by
 unfold nth
 simp [List.getD, List.getElem?_append_left, List.getElem?_append_right, h]
theorem set_mid (pre s post : List Nat) (i n : Nat) (h : i < s.length) : (pre ++ s ++ post).set (pre.length + i) n = pre ++ s.set i n ++ post := by
 rw [List.append_assoc, List.set_append_right _ _ (by omega), List.set_append_left _ _ (by omega), List.append_assoc]
 simp
theorem heap_of_owns {w : World} {base : Nat} {e : TypeId} {g n cap : Nat} {xs : List Value} (h : w.ownsRow base e 1 (.slice (some ⟨g, 0, none⟩) n cap) n xs) (hn : n = cap) : w.heap[g]? = some (.cells xs.toArray e (0, 0)) := by
 obtain ⟨hl, h2⟩ := h;rcases h2 with ⟨e1, _⟩ | ⟨g', cap', cur, e1, _, hg, _, _, hs, ht⟩
 ·cases e1
 injection e1 with e1 e2 e3;injection e1 with e1;injection e1 with e1;subst e1; subst e3; subst hn;rw [hg, <- ht, Nat.mul_one]
 congr 2
 rw [List.take_of_length_le (by simp [hs])]
theorem wpList_make_blk {P : Program} (w : World) {ops : Array Oper} {rest : List Oper} {o : Oper} {a : Act} {Q : Exit -> Act -> World -> Prop}
  (hg : o.guard = none) (l c : Operand) (t : TypeId) (hop : o.op = Op.makeSlice t l c)
  (e : TypeId) (i : TypeInfo) (k : IntKind) (h1 : P.underlying t = some (.slice e)) (h2 : P.info? e = some i) (h3 : i.zero = some (.int k 0)) (h4 : i.size = 1)
  (kl kc : IntKind) (L C : Int) (n : Nat) (hl : a.eval l = .int kl L) (hc : a.eval c = .int kc C) (hL : L = (n : Int)) (hC : C = (n : Int)) (b2 : i.bytes <= 8) (b3 : n <= 35184372088832)
  (hK : ∀ w', Blk w' w.heap.size k e (List.replicate n 0) -> Below w.heap.size w w' -> w.heap.size < w'.heap.size -> wpList P ops Q rest (a.put o.dst (.slice (some ⟨w.heap.size, 0, none⟩) n n)) w') :
  wpList P ops Q (o :: rest) a w := by
 have hb : i.bytes * n <= 281474976710656 := Nat.le_trans (Nat.mul_le_mul b2 b3) (by omega);refine wpList_make_full w hg l c t hop w.heap.size e i (.int k 0) 1 h1 h2 h3 h4 kl kc L C n hl hc hL hC hb (by unfold maxLen; omega) (Nat.le_refl _) ?_;intro w' ho hgr;have hh := heap_of_owns ho rfl
 have hB : Blk w' w.heap.size k e (List.replicate n 0) := by
  unfold Blk;rw [hh]
  have : (madeCells (Value.cells (.int k 0)) (n * 1)).toList = List.replicate n (.int k 0) := by
   rw [Nat.mul_one]; exact toList_madeCells_one _ _
  rw [this]
  simp
 exact hK w' hB ⟨hgr.os, hgr.tape, hgr.output, hgr.size, fun j hj => hgr.block j hj (by simp)⟩ hB.lt
theorem cells_of_sl {w : World} {k : IntKind} {sp : Option Addr} {n c : Nat} {xs : List Nat} (h : Sl w k (.slice sp n c) xs) (m : Nat) (hm : m <= xs.length) (h0 : 0 < m) :
  ∃ ad, sp = some ad /\ ∀ j v, ((xs.take m).map fun (x : Nat) => Value.int k ((x : Nat) : Int))[j]? = some v -> w.cell? (ad.add j) = some v := by
 obtain ⟨ao, cap, e, h1, h2, h3, h4⟩ := h;injection e with e1 e2 e3;subst e1;obtain ⟨a, rfl, _⟩ := h4 0 (by omega);refine ⟨a, rfl, fun j v hj => ?_⟩
 have hjl : j < m := by
  have := (List.getElem?_eq_some_iff.1 hj).1
  simp at this; omega
 obtain ⟨b, e, q⟩ := h4 j (by omega);injection e with e; subst e;rw [q, <- hj]
 simp [hjl, nth_eq (show j < xs.length by omega), show j < xs.length by omega]
theorem sl_len {w : World} {k : IntKind} {sp : Option Addr} {n c : Nat} {xs : List Nat} (h : Sl w k (.slice sp n c) xs) : n = xs.length := by
 obtain ⟨ao, cap, e, _⟩ := h;injection e
theorem ints_one (k : IntKind) (xs : List Nat) : ∀ u ∈ (xs.map fun (x : Nat) => Value.int k ((x : Nat) : Int)), u.oneCell' = true := by
 intro u hu;obtain ⟨x, _, rfl⟩ := List.mem_map.1 hu
 rfl
theorem wpList_copy_blk {P : Program} {w : World} {ops : Array Oper} {rest : List Oper} {o : Oper} {a : Act} {Q : Exit -> Act -> World -> Prop} (hgd : o.guard = none) (d s : Operand) (dT sT : TypeId)
  (ho : o.op = .call { callee := .builtin .copy, args := #[d, s], argTypes := #[dT, sT] }) (elem : TypeId) (hu : P.underlying dT = some (.slice elem)) (hsz : (P.info? elem).map (·.size) = some 1)
  (g n dCap : Nat) (sp : Option Addr) (sLen sCap : Nat) (hd : a.eval d = .slice (some ⟨g, 0, none⟩) n dCap) (hs : a.eval s = .slice sp sLen sCap)
  (k : IntKind) (T : TypeId) (l xs : List Nat) (hB : Blk w g k T l) (hn : n = l.length) (hx : Sl w k (.slice sp sLen sCap) xs) (hle : xs.length <= n)
  (B : Nat) (w0 : World) (hb : Below B w0 w) (hBg : B <= g)
  (h : ∀ w', Blk w' g k T (xs ++ l.drop xs.length) -> Below B w0 w' -> wpList P ops Q rest (a.put o.dst (.int .i64 xs.length)) w') :
  wpList P ops Q (o :: rest) a w := by
 have hsl := sl_len hx;have hmin : Nat.min sLen n = xs.length := by rw [hsl]; exact Nat.min_eq_left hle
 refine wpList_copy_splice hgd d s dT sT ho elem hu hsz (some ⟨g, 0, none⟩) sp n dCap sLen sCap hd hs g 0 (l.map fun (x : Nat) => Value.int k ((x : Nat) : Int)) T hB (xs.map fun (x : Nat) => Value.int k ((x : Nat) : Int)) (by rw [hmin]; simp) ?_ (by simp; omega) (ints_one k xs) B w0 hb hBg ?_
 ·intro h0;refine ⟨rfl, ?_⟩;have := cells_of_sl hx xs.length (Nat.le_refl _) (by simpa using h0)
  rwa [List.take_length] at this
 intro w' hh hb'
 have := h w' (by
  unfold Blk;rw [hh.out]
  congr 2
  simp [splice]) hb'
 simpa [goInt] using this
def Ow (w : World) (base : Nat) (k : IntKind) (T : TypeId) (v : Value) (xs : List Nat) : Prop :=
 w.ownsRow base T 1 v xs.length (xs.map fun (x : Nat) => Value.int k ((x : Nat) : Int))
theorem Ow.nil (w : World) (base : Nat) (k : IntKind) (T : TypeId) : Ow w base k T (.slice none 0 0) [] := World.ownsRow_nil w base T 1
theorem Ow.alloc {w : World} {base : Nat} {k : IntKind} {T : TypeId} {v : Value} {xs : List Nat} (h : Ow w base k T v xs) (o : Obj) : Ow (w.alloc o) base k T v xs := World.ownsRow.alloc h o
theorem Ow.sl {w : World} {base : Nat} {k : IntKind} {T : TypeId} {v : Value} {xs : List Nat} (h : Ow w base k T v xs) : Sl w k v xs := by
 have h' := h;obtain ⟨h1, h2⟩ := h;rcases h2 with ⟨rfl, h2⟩ | ⟨g, cap, cur, rfl, hb, hg, hn, hm, hs, ht⟩
 ·have : xs = [] := List.eq_nil_of_length_eq_zero h2;subst this;exact Sl.nil _ _
 refine ⟨some ⟨g, 0, none⟩, cap, rfl, hn, by unfold maxLen at hm; omega, (fun e => by cases e), fun i hi => ⟨_, rfl, ?_⟩⟩;rw [addr_at, Nat.zero_add, World.ownsRow.cellAt h' i (by omega)]
 simp [hi, nth_eq hi]
theorem Ow.base_le {w : World} {base : Nat} {k : IntKind} {T : TypeId} {v : Value} {xs : List Nat} (h : Ow w base k T v xs) : ∀ j, v.ownBlock = some j -> base <= j := fun j hj => (World.ownsRow.lt h j hj).1
theorem wpList_append_one {P : Program} (w : World) {ops : Array Oper} {rest : List Oper} {o : Oper} {a : Act} {Q : Exit -> Act -> World -> Prop} (hgd : o.guard = none) (s x : Operand) (t : TypeId)
  (ho : o.op = .call { callee := .builtin .append, args := #[s, x], argTypes := #[t, t] })
  (e : TypeId) (i : TypeInfo) (k : IntKind) (ht : P.underlying t = some (.slice e)) (hi : P.info? e = some i) (hz : i.zero = some (.int k 0)) (hsize : i.size = 1) (hby : i.bytes <= 8)
  (base : Nat) (v : Value) (xs : List Nat) (hs : a.eval s = v) (hown : Ow w base k e v xs)
  (h : Nat) (z : Int) (n : Nat) (hx : a.eval x = .slice (some ⟨h, 0, none⟩) 1 1) (hc : w.cell? ⟨h, 0, none⟩ = some (.int k z)) (hzn : z = (n : Int))
  (hlen : xs.length <= 1000000000) (hbase : base <= w.heap.size)
  (hK : ∀ v' w', Ow w' base k e v' (xs ++ [n]) -> Below base w w' -> wpList P ops Q rest (a.put o.dst v') w') : wpList P ops Q (o :: rest) a w := by
 have hb2 : (xs.length + 1) * i.bytes <= 140737488355328 := Nat.le_trans (Nat.mul_le_mul (show xs.length + 1 <= 1000000001 by omega) hby) (by omega);refine wpList_append_own w hgd s x t ho base e i (.int k 0) 1 i.bytes ht hi hz hsize rfl rfl (by decide) v xs.length _ hs hown ⟨h, 0, none⟩ 1 1 [.int k z] hx rfl ?_ ?_ (by unfold maxLen; omega) hb2 hbase ?_
 ·intro j u hj
  match j, hj with
  | 0, hj => simp at hj; subst hj; simpa [Addr.add] using hc
 ·intro u hu; simp at hu; subst hu; rfl
 intro v' w' h1 h2 _;refine hK v' w' ?_ ⟨h2.os, h2.tape, h2.output, h2.size, fun j hj => h2.block j (by omega) (fun e' => ?_)⟩
 ·unfold Ow;have : (xs ++ [n]).map (fun (x : Nat) => Value.int k ((x : Nat) : Int)) = xs.map (fun (x : Nat) => Value.int k ((x : Nat) : Int)) ++ [.int k z] := by rw [hzn]; simp
  rw [this, lsa];exact h1
 have := hown.base_le j e'.symm
 omega
theorem sig_any (ao : Option Addr) (n cap : Nat) (xs : List Nat) (w : World) (h : Sl w .u32 (.slice ao n cap) xs) :
  Calls Tryz.prog 122 #[.slice ao n cap] w fun e w' => e = .returned (.slice ao (nz xs) cap) /\ w = w' := by
 have H := Lib.hid h;obtain ⟨ao', cap', e, h1, h2, h3, h4⟩ := h;injection e with e1 e2 e3;subst e1; subst e2; subst e3;go_enter Tryz.func122, Tryz.ntmps122
 go_wp2
 go_loop [3] (fun n => ∃ k : Nat, k <= xs.length /\ n = .int .i64 k /\ Hid (nz (xs.take k) = nz xs)) (fun n => (intOf n).toNat)
 case atStart => exact ⟨xs.length, Nat.le_refl _, rfl, Lib.hid (by rw [List.take_length])⟩
 case round =>
  obtain ⟨k, hk, rfl, Hn⟩ := hrel
  by_cases h0 : 0 < k
  ·obtain ⟨a, rfl, g⟩ := h4 (k-1) (by omega);clear h4
   go_wp2
   ·have hz : (nth xs (k - 1) == 0) = true := by assumption
    go_round
    case rel => exact ⟨k - 1, by omega, by go_num, Lib.hid (by rw [<- Hn.out, <- nz_zero (k := k - 1) (by omega) (by have := nth_eq (xs := xs) (i := k - 1) (by omega); simp at hz; unfold nth at hz; omega), show k - 1 + 1 = k by omega])⟩
    case measure => simp [intOf]; omega
   have hz : (nth xs (k - 1) == 0) = false := by assumption
   have hk' : k = nz xs := by
    rw [<- Hn.out, show k = (k - 1) + 1 by omega, nz_pos (by omega) (by simp at hz; unfold nth at hz; omega)]
   subst hk';go_ret
   exact ⟨rfl, rfl⟩
  have hk' : k = nz xs := by
   rw [<- Hn.out, show k = 0 by omega]; rfl
  have HK := Lib.hid hk';clear hk';have hk0 : k = 0 := by omega
  subst hk0
  go_wp2
  go_ret
  exact ⟨by rw [<- HK.out]; rfl, rfl⟩
def trimmedOf (ao : Option Addr) (cap : Nat) (xs : List Nat) : Value := if nz xs = 0 then .slice none 0 0 else .slice ao (nz xs) cap
theorem trimmed_any (ao : Option Addr) (n cap : Nat) (xs : List Nat) (w : World) (h : Sl w .u32 (.slice ao n cap) xs) :
  Calls Tryz.prog 125 #[.slice ao n cap] w fun e w' => e = .returned (trimmedOf ao cap xs) /\ w = w' := by
 by_cases h0 : nz xs = 0
 ·have H0 := Lib.hid h0;clear h0;have hz : (((nz xs : Nat) : Int) == 0) = true := by rw [H0.out]; rfl
  go_enter Tryz.func125, Tryz.ntmps125
  go_wp2_with (go_at_call 122; refine (sig_any _ _ _ _ _ h).mono ?_; rintro e w' ⟨rfl, rfl⟩)
  go_ret
  exact ⟨by unfold trimmedOf; rw [if_pos H0.out]; rfl, rfl⟩
 have hz : (((nz xs : Nat) : Int) == 0) = false := by simp; omega
 go_enter Tryz.func125, Tryz.ntmps125
 go_wp2_with (go_at_call 122; refine (sig_any _ _ _ _ _ h).mono ?_; rintro e w' ⟨rfl, rfl⟩)
 go_ret
 exact ⟨by unfold trimmedOf; rw [if_neg h0]; rfl, rfl⟩
theorem info51 : (Tryz.prog.info? 138).map (fun i => (i.zero, i.size, i.bytes)) = some (some (.int .u32 0), 1, 4) := by kernel_rfl
theorem size51 : (Tryz.prog.info? 138).map (·.size) = some 1 := by kernel_rfl
theorem padded_any (ao : Option Addr) (m cap : Nat) (xs : List Nat) (n : Nat) (z : Int) (w : World) (h : Sl w .u32 (.slice ao m cap) xs) (hn : xs.length <= n) (hb : n <= 1073741824) (hzn : z = (n : Int)) :
  Calls Tryz.prog 146 #[.slice ao m cap, .int .i64 z] w fun e w' => ∃ v, e = .returned v /\ Ws w' .u32 138 v w.heap.size [] (xs ++ List.replicate (n - xs.length) 0) [] /\ Below w.heap.size w w' /\ (n ≠ 0 -> w.heap.size < w'.heap.size) := by
 subst hzn
 by_cases h0 : n = 0
 ·subst h0;have hx : xs = [] := List.eq_nil_of_length_eq_zero (by omega);subst hx;go_enter Tryz.func146, Tryz.ntmps146
  go_wp2
  go_ret
  exact ⟨_, rfl, ⟨none, 0, rfl, by simp, by omega, fun _ => rfl, fun e => by simp at e⟩, Below.refl _ _, fun e => absurd rfl e⟩
 obtain ⟨i0, hi, hz0, hz1, hz2⟩ := info_parts info51;have hz : (((n : Nat) : Int) == 0) = false := by simp; omega
 go_enter Tryz.func146, Tryz.ntmps146
 go_wp2_with (at_make; refine wpList_make_blk _ rfl _ _ 40 rfl 138 i0 .u32 Tryz.underlying40 hi hz0 hz1 _ _ _ _ n rfl rfl rfl rfl ?b2 ?b3 ?_)
 case b2 => omega
 case b3 => omega
 intro w1 hB1 hb1 hs1;go_wp2_with (with_reducible refine wpList_copy_blk rfl (.tmp 10) (.tmp 11) 40 40 rfl 138 Tryz.underlying40 size51 w.heap.size n n ao m cap rfl rfl .u32 138 _ xs hB1 ?c1 (h.below hb1) hn w.heap.size w hb1 (Nat.le_refl _) ?_)
 case c1 => simp
 intro w2 hB2 hb2
 go_wp2
 go_ret
 refine ⟨_, rfl, ?_, hb2, fun _ => hB2.lt⟩;refine ⟨some ⟨w.heap.size, 0, none⟩, n, ?_, ?_, by omega, (fun e => by cases e), fun _ => ⟨rfl, ?_⟩⟩
 ·simp; omega
 ·simp; omega
 simpa using hB2
abbrev L32 : Nat := 4294967296
theorem trimmed_sl {w : World} {ao : Option Addr} {n cap : Nat} {xs : List Nat} (h : Sl w .u32 (.slice ao n cap) xs) (hd : Dig L32 xs) : Sl w .u32 (trimmedOf ao cap xs) (dig L32 (val L32 xs)) := by
 rw [<- take_nz (by decide) hd];unfold trimmedOf
 by_cases h0 : nz xs = 0
 ·rw [if_pos h0, h0]; exact Sl.nil _ _
 rw [if_neg h0]; exact h.take _ (nz_le xs)
theorem Ws.at {w : World} {k : IntKind} {T : TypeId} {v : Value} {g : Nat} {pre s post : List Nat} (h : Ws w k T v g pre s post) : ∃ ao cap, v = .slice ao s.length cap := by
 obtain ⟨ao, cap, e, _⟩ := h; exact ⟨ao, cap, e⟩
theorem below_of_grown' {B : Nat} {a b : World} {g : Nat} (h : a.grownBy b (some g)) (hg : B <= g) (hB : B <= a.heap.size := by omega) : Below B a b :=
 ⟨h.os, h.tape, h.output, h.size, fun k hk => h.block k (by omega) (fun e => by injection e with e; omega)⟩
theorem sl_shape {w : World} {k : IntKind} {v : Value} {xs : List Nat} (h : Sl w k v xs) : ∃ ao cap, v = .slice ao xs.length cap := by
 obtain ⟨ao, cap, e, _⟩ := h; exact ⟨ao, cap, e⟩
theorem trim_any (va : Value) (xs : List Nat) (w : World) (hx : Sl w .u32 va xs) (dx : Dig L32 xs) (lx : xs.length <= 1000000) :
  Calls Tryz.prog 124 #[va] w fun e w' => ∃ v, e = .returned v /\ Ws w' .u32 138 v w.heap.size [] (dig L32 (val L32 xs)) [] /\ Below w.heap.size w w' := by
 obtain ⟨ao, ac, rfl⟩ := sl_shape hx;have nx := nz_le xs;have hx' := hx.take (nz xs) nx;have EX := Lib.hid (show (xs.take (nz xs)).length = nz xs by simp; omega);go_enter Tryz.func124, Tryz.ntmps124
 go_wp2_with fail
 refine (sig_any _ _ _ xs _ hx).mono ?_; rintro e w' ⟨rfl, rfl⟩;go_wp2_with fail
 refine (padded_any ao _ ac _ (nz xs) _ w hx' (by rw [EX.out]; omega) (by omega) (by omega)).mono ?_;rintro e w1 ⟨v1, rfl, hs1, hb1, hz1⟩;go_wp2_with fail
 go_ret
 refine ⟨_, rfl, ?_, hb1⟩;rw [EX.out, Nat.sub_self, List.replicate_zero, List.append_nil, take_nz (by decide) dx] at hs1;exact hs1
def lenOfV : Value -> Nat | .slice _ n _ => n | _ => 0
theorem getD_out {xs : List Nat} {i : Nat} (h : xs.length <= i) : xs.getD i 0 = 0 := by simp [List.getD, h]
theorem val_take_succ' (B : Nat) (xs : List Nat) (k : Nat) : val B (xs.take (k + 1)) = val B (xs.take k) + xs.getD k 0 * B ^ k := by
 by_cases h : k < xs.length
 ·exact val_take_succ B xs k h
 rw [getD_out (by omega), List.take_of_length_le (by omega), List.take_of_length_le (by omega)]; simp
theorem dig_last {B n : Nat} (hB : 2 <= B) (h : 0 < (dig B n).length) : (dig B n).getD ((dig B n).length - 1) 0 ≠ 0 := by
 intro h0;have h1 := take_nz hB (Dig_dig hB n);rw [val_dig hB] at h1;have h2 := congrArg List.length h1;rw [List.length_take] at h2;have h3 := nz_zero (xs := dig B n) (k := (dig B n).length - 1) (by omega) h0;rw [show (dig B n).length - 1 + 1 = (dig B n).length by omega, List.take_length] at h3;have h4 := nz_le ((dig B n).take ((dig B n).length - 1));rw [List.length_take] at h4
 omega
end Go.Proofs.YtdpfgfkoboihcaaGreatDoor
namespace Go.Proofs
open Go.Shelf
def Tryz.lays169_ren : Go.Shelf.Ren := ⟨fun | 169 => 44 | n => n, fun | 70 => 92 | 9 => 9 | 0 => 0 | 72 => 95 | 37 => 93 | 127 => 146 | 3 => 3 | 5 => 5 | n => n, fun | n => n⟩
theorem Tryz.lays169 : Go.Proofs.Lays.n169 Tryz.prog Tryz.lays169_ren := {
 mixed := by kernel_rfl
 f169 := Tryz.func44.trans (congrArg some (by kernel_rfl))
 t0 := Tryz.underlying0
 a0 := Tryz.isAgg0
 z0 := Tryz.sizeOf0
 v0 := Tryz.zeroValue0
 t3 := Tryz.underlying3
 a3 := Tryz.isAgg3
 z3 := Tryz.sizeOf3
 v3 := Tryz.zeroValue3
 t9 := Tryz.underlying9
 a9 := Tryz.isAgg9
 z9 := Tryz.sizeOf9
 v9 := Tryz.zeroValue9
 t37 := Tryz.underlying93
 a37 := Tryz.isAgg93
 z37 := Tryz.sizeOf93
 v37 := Tryz.zeroValue93
 t70 := Tryz.underlying92
 a70 := Tryz.isAgg92
 z70 := Tryz.sizeOf92
 v70 := Tryz.zeroValue92
 t72 := Tryz.underlying95
 a72 := Tryz.isAgg95
 z72 := Tryz.sizeOf95
 v72 := Tryz.zeroValue95
 t127 := Tryz.underlying146
 a127 := Tryz.isAgg146
 z127 := Tryz.sizeOf146
 v127 := Tryz.zeroValue146 }
theorem Tryz.Builder_Extra_169 : Builder.Extra Tryz.prog Tryz.lays169_ren := {
 sizeBuilder := by kernel_rfl
 liesBuilder := by kernel_rfl
 t5 := Tryz.underlying5
 a5 := Tryz.isAgg5
 z5 := Tryz.sizeOf5
 v5 := Tryz.zeroValue5
 infoByte := by kernel_rfl
 cellsByte := by kernel_rfl
 sizeByte := by kernel_rfl
 neB5 := by decide }
open Go.RowKit in
theorem Tryz.Builder_String_any (B b : Nat) (l : List UInt8) (w : World) (h : Lib.IsBuilder 95 5 B b (Lib.byteCells l) w) (hBw : B <= w.heap.size) :
  Calls Tryz.prog 44 #[.pointer (some ⟨b, 0, none⟩)] w fun e w' => e = .returned (.string ⟨l.toArray⟩) /\ Below B w w' := Any.Builder_String_any Tryz.lays169 Tryz.Builder_Extra_169 B b l w h hBw
def Tryz.lays128_ren : Go.Shelf.Ren := ⟨fun | 128 => 123 | n => n, fun | 51 => 138 | 3 => 3 | 4 => 4 | 46 => 222 | 5 => 5 | 9 => 9 | n => n, fun | n => n⟩
theorem Tryz.lays128 : Go.Proofs.Lays.n128 Tryz.prog Tryz.lays128_ren := {
 mixed := by kernel_rfl
 f128 := Tryz.func123.trans (congrArg some (by kernel_rfl))
 t3 := Tryz.underlying3
 a3 := Tryz.isAgg3
 z3 := Tryz.sizeOf3
 v3 := Tryz.zeroValue3
 t4 := Tryz.underlying4
 a4 := Tryz.isAgg4
 z4 := Tryz.sizeOf4
 v4 := Tryz.zeroValue4
 t5 := Tryz.underlying5
 a5 := Tryz.isAgg5
 z5 := Tryz.sizeOf5
 v5 := Tryz.zeroValue5
 t9 := Tryz.underlying9
 a9 := Tryz.isAgg9
 z9 := Tryz.sizeOf9
 v9 := Tryz.zeroValue9
 t46 := Tryz.underlying222
 a46 := Tryz.isAgg222
 z46 := Tryz.sizeOf222
 v46 := Tryz.zeroValue222
 t51 := Tryz.underlying138
 a51 := Tryz.isAgg138
 z51 := Tryz.sizeOf138
 v51 := Tryz.zeroValue138 }
theorem Tryz.bits_Len32 (x : Int) (w : World) (h0 : 0 <= x) (h1 : x <= 4294967295) :
  Calls Tryz.prog 123 #[.int .u32 x] w fun e w' => e = .returned (.int .i64 (Lib.bitLen x.toNat)) /\ w' = w := Any.bits_Len32 Tryz.lays128 x w h0 h1
def Tryz.lays137_ren : Go.Shelf.Ren := ⟨fun | 137 => 152 | 217 => 166 | 266 => 172 | n => n, fun | 9 => 9 | 5 => 5 | 3 => 3 | n => n, fun | n => n⟩
theorem Tryz.lays137 : Go.Proofs.Lays.n137 Tryz.prog Tryz.lays137_ren := {
 mixed := by kernel_rfl
 f137 := Tryz.func152.trans (congrArg some (by kernel_rfl))
 f217 := Tryz.func166.trans (congrArg some (by kernel_rfl))
 f266 := Tryz.func172.trans (congrArg some (by kernel_rfl))
 t3 := Tryz.underlying3
 a3 := Tryz.isAgg3
 z3 := Tryz.sizeOf3
 v3 := Tryz.zeroValue3
 t5 := Tryz.underlying5
 a5 := Tryz.isAgg5
 z5 := Tryz.sizeOf5
 v5 := Tryz.zeroValue5
 t9 := Tryz.underlying9
 a9 := Tryz.isAgg9
 z9 := Tryz.sizeOf9
 v9 := Tryz.zeroValue9 }
open Go.RowKit in
theorem Tryz.strings_IndexByte (s : ByteArray) (c : Int) (w : World) :
  Calls Tryz.prog 152 #[.string s, .int .u8 c] w fun e w' => e = .returned (.int .i64 (Lib.indexByte s.data.toList c.toNat.toUInt8)) /\ w' = w := Any.strings_IndexByte Tryz.lays137 s c w
def Tryz.lays283_ren : Go.Shelf.Ren := ⟨fun | 283 => 118 | n => n, fun | 3 => 3 | 9 => 9 | 4 => 4 | n => n, fun | n => n⟩
theorem Tryz.lays283 : Go.Proofs.Lays.n283 Tryz.prog Tryz.lays283_ren := {
 mixed := by kernel_rfl
 f283 := Tryz.func118.trans (congrArg some (by kernel_rfl))
 t3 := Tryz.underlying3
 a3 := Tryz.isAgg3
 z3 := Tryz.sizeOf3
 v3 := Tryz.zeroValue3
 t4 := Tryz.underlying4
 a4 := Tryz.isAgg4
 z4 := Tryz.sizeOf4
 v4 := Tryz.zeroValue4
 t9 := Tryz.underlying9
 a9 := Tryz.isAgg9
 z9 := Tryz.sizeOf9
 v9 := Tryz.zeroValue9 }
open Go.Lib in
theorem Tryz.internal_strconv_small (i : Nat) (h : i < 100) (w : World) :
  Calls Tryz.prog 118 #[.int .i64 i] w fun e w' => e = .returned (.string ⟨(Lib.decDigits i).toArray⟩) /\ w' = w := Any.internal_strconv_small Tryz.lays283 i h w
def Tryz.laysM284_ren : Go.Shelf.Ren := ⟨fun | 284 => 119 | 129 => 142 | 317 => 141 | 318 => 143 | n => n, fun | 53 => 184 | 3 => 3 | 212 => 219 | 0 => 0 | 4 => 4 | 46 => 222 | 5 => 5 | 9 => 9 | n => n, fun | 17 => 4 | n => n⟩
theorem Tryz.laysM284 : Go.Proofs.LaysM.n284 Tryz.prog Tryz.laysM284_ren := {
 mixed := by kernel_rfl
 f129 := Tryz.func142.trans (congrArg some (by kernel_rfl))
 f284 := Tryz.func119.trans (congrArg some (by kernel_rfl))
 f317 := Tryz.func141.trans (congrArg some (by kernel_rfl))
 f318 := Tryz.func143.trans (congrArg some (by kernel_rfl))
 t0 := Tryz.underlying0
 a0 := Tryz.isAgg0
 z0 := Tryz.sizeOf0
 v0 := Tryz.zeroValue0
 t3 := Tryz.underlying3
 a3 := Tryz.isAgg3
 z3 := Tryz.sizeOf3
 v3 := Tryz.zeroValue3
 t4 := Tryz.underlying4
 a4 := Tryz.isAgg4
 z4 := Tryz.sizeOf4
 v4 := Tryz.zeroValue4
 t5 := Tryz.underlying5
 a5 := Tryz.isAgg5
 z5 := Tryz.sizeOf5
 v5 := Tryz.zeroValue5
 t9 := Tryz.underlying9
 a9 := Tryz.isAgg9
 z9 := Tryz.sizeOf9
 v9 := Tryz.zeroValue9
 t46 := Tryz.underlying222
 a46 := Tryz.isAgg222
 z46 := Tryz.sizeOf222
 v46 := Tryz.zeroValue222
 t53 := Tryz.underlying184
 a53 := Tryz.isAgg184
 z53 := Tryz.sizeOf184
 v53 := Tryz.zeroValue184
 t212 := Tryz.underlying219
 a212 := Tryz.isAgg219
 z212 := Tryz.sizeOf219
 v212 := Tryz.zeroValue219
 g17 := by kernel_rfl
 i0 := by kernel_rfl
 i3 := by kernel_rfl
 i4 := by kernel_rfl
 i5 := by kernel_rfl
 i9 := by kernel_rfl
 i46 := by kernel_rfl
 i53 := by kernel_rfl
 i212 := by kernel_rfl
 m17 := by kernel_rfl }
open Go.Lib in
theorem Tryz.internal_strconv_numDigits (u : Nat) (h1 : 1 ≤ u) (h2 : u < 18446744073709551616) (w : World) (htab : Lib.TabIs Tryz.prog w "internal/strconv.uint64pow10" .u64 Lib.pow10Tab) :
  Calls Tryz.prog 119 #[.int .u64 u] w fun e w' => e = .returned (.int .i64 (Lib.nDigits u)) /\ w' = w := Any.internal_strconv_numDigits Tryz.laysM284 u h1 h2 w htab
def Tryz.lays285_ren : Go.Shelf.Ren := ⟨fun | 285 => 120 | n => n, fun | 37 => 93 | 53 => 184 | 3 => 3 | 4 => 4 | 51 => 138 | 9 => 9 | 5 => 5 | 0 => 0 | n => n, fun | n => n⟩
theorem Tryz.lays285 : Go.Proofs.Lays.n285 Tryz.prog Tryz.lays285_ren := {
 mixed := by kernel_rfl
 f285 := Tryz.func120.trans (congrArg some (by kernel_rfl))
 t0 := Tryz.underlying0
 a0 := Tryz.isAgg0
 z0 := Tryz.sizeOf0
 v0 := Tryz.zeroValue0
 t3 := Tryz.underlying3
 a3 := Tryz.isAgg3
 z3 := Tryz.sizeOf3
 v3 := Tryz.zeroValue3
 t4 := Tryz.underlying4
 a4 := Tryz.isAgg4
 z4 := Tryz.sizeOf4
 v4 := Tryz.zeroValue4
 t5 := Tryz.underlying5
 a5 := Tryz.isAgg5
 z5 := Tryz.sizeOf5
 v5 := Tryz.zeroValue5
 t9 := Tryz.underlying9
 a9 := Tryz.isAgg9
 z9 := Tryz.sizeOf9
 v9 := Tryz.zeroValue9
 t37 := Tryz.underlying93
 a37 := Tryz.isAgg93
 z37 := Tryz.sizeOf93
 v37 := Tryz.zeroValue93
 t51 := Tryz.underlying138
 a51 := Tryz.isAgg138
 z51 := Tryz.sizeOf138
 v51 := Tryz.zeroValue138
 t53 := Tryz.underlying184
 a53 := Tryz.isAgg184
 z53 := Tryz.sizeOf184
 v53 := Tryz.zeroValue184 }
open Go.RowKit Go.Sort Go.Lib in
theorem Tryz.internal_strconv_formatBase10 (blk off cap : Nat) (u : Nat) (d : Array UInt8) (w : World) (hH : Holds (fun (b : UInt8) => Value.int .u8 (b.toNat : Int)) w blk off d) (hu : u < 10 ^ d.size) (hu64 : u < 18446744073709551616) (hsz : d.size < 4611686018427387904) :
  Calls Tryz.prog 120 #[.slice (some ⟨blk, off, none⟩) d.size cap, .int .u64 u] w fun e w' =>
   e = .returned (.tuple #[]) /\ ∃ (n v' : Nat) (dk : Array UInt8), w' = (putRow (fun (b : UInt8) => Value.int .u8 (b.toNat : Int)) w blk off dk).drewN n /\ FmtInv d.size u 0 v' dk := Any.internal_strconv_formatBase10 Tryz.lays285 blk off cap u d w hH hu hu64 hsz
def Tryz.laysM316_ren : Go.Shelf.Ren := ⟨fun | 316 => 137 | n => n, fun | 9 => 9 | 3 => 3 | 4 => 4 | 37 => 93 | 0 => 0 | 127 => 146 | 5 => 5 | n => n, fun | n => n⟩
theorem Tryz.laysM316 : Go.Proofs.LaysM.n316 Tryz.prog Tryz.laysM316_ren := {
 mixed := by kernel_rfl
 f316 := Tryz.func137.trans (congrArg some (by kernel_rfl))
 t0 := Tryz.underlying0
 a0 := Tryz.isAgg0
 z0 := Tryz.sizeOf0
 v0 := Tryz.zeroValue0
 t3 := Tryz.underlying3
 a3 := Tryz.isAgg3
 z3 := Tryz.sizeOf3
 v3 := Tryz.zeroValue3
 t4 := Tryz.underlying4
 a4 := Tryz.isAgg4
 z4 := Tryz.sizeOf4
 v4 := Tryz.zeroValue4
 t9 := Tryz.underlying9
 a9 := Tryz.isAgg9
 z9 := Tryz.sizeOf9
 v9 := Tryz.zeroValue9
 t37 := Tryz.underlying93
 a37 := Tryz.isAgg93
 z37 := Tryz.sizeOf93
 v37 := Tryz.zeroValue93
 t127 := Tryz.underlying146
 a127 := Tryz.isAgg146
 z127 := Tryz.sizeOf146
 v127 := Tryz.zeroValue146
 t5 := Tryz.underlying5
 a5 := Tryz.isAgg5
 z5 := Tryz.sizeOf5
 v5 := Tryz.zeroValue5
 i0 := by kernel_rfl
 i3 := by kernel_rfl
 i4 := by kernel_rfl
 i5 := by kernel_rfl
 i9 := by kernel_rfl
 i37 := by kernel_rfl
 i127 := by kernel_rfl }
open Go.RowKit in
theorem Tryz.stringslite_Clone (s : ByteArray) (w : World) (hlim : s.size <= 281474976710656) :
  Calls Tryz.prog 137 #[.string s] w fun e w' => e = .returned (.string s) /\ Below w.heap.size w w' := Any.stringslite_Clone Tryz.laysM316 s w hlim
def Tryz.lays206_ren : Go.Shelf.Ren := ⟨fun | 206 => 167 | n => n, fun | 9 => 9 | 4 => 4 | 3 => 3 | n => n, fun | n => n⟩
def Tryz.lays99_ren : Go.Shelf.Ren := ⟨fun | 99 => 157 | 206 => 167 | n => n, fun | 9 => 9 | 4 => 4 | 3 => 3 | n => n, fun | n => n⟩
theorem Tryz.lays99 : Go.Proofs.Lays.n99 Tryz.prog Tryz.lays99_ren := {
 mixed := by kernel_rfl
 f99 := Tryz.func157.trans (congrArg some (by kernel_rfl))
 f206 := Tryz.func167.trans (congrArg some (by kernel_rfl))
 t3 := Tryz.underlying3
 a3 := Tryz.isAgg3
 z3 := Tryz.sizeOf3
 v3 := Tryz.zeroValue3
 t4 := Tryz.underlying4
 a4 := Tryz.isAgg4
 z4 := Tryz.sizeOf4
 v4 := Tryz.zeroValue4
 t9 := Tryz.underlying9
 a9 := Tryz.isAgg9
 z9 := Tryz.sizeOf9
 v9 := Tryz.zeroValue9 }
open Go.RowKit Go.Lib in
theorem Tryz.strings_HasPrefix (s p : ByteArray) (w : World) :
  Calls Tryz.prog 157 #[.string s, .string p] w fun e w' => e = .returned (.bool (Lib.hasPrefix s.data.toList p.data.toList)) /\ w' = w := Any.strings_HasPrefix Tryz.lays99 s p w
end Go.Proofs
namespace Go.Proofs.YtdpfgfkoboihcaaGreatDoor
open Go.RowKit
set_option maxRecDepth 100000
def joinN (r x : Nat) : Nat := r * 4294967296 + x
def joinI (r x : Nat) : Int := ((joinN r x : Nat) : Int)
theorem or_join {r x : Nat} (hr : r < 4294967296) (hx : x < 4294967296) : bits BinOp.or IntKind.u64 ((r : Int) * 4294967296) (x : Int) = joinI r x := by
 have h1 : (r : Int) * 4294967296 = ((r * 4294967296 : Nat) : Int) := by simp
 rw [h1, u64_or_nat _ _ (by omega) (by omega), nat_join 32 _ _ (by omega) (by omega)]; rfl
theorem joinI_bound {r x : Nat} (hr : r < 4294967296) (hx : x < 4294967296) : 0 <= joinI r x /\ joinI r x < 18446744073709551616 := by unfold joinI joinN; omega
theorem join_div {r x d : Nat} (hr : r < d) (hx : x < 4294967296) : joinN r x / d < 4294967296 := by
 apply Nat.div_lt_of_lt_mul
 unfold joinN;have : (r + 1) * 4294967296 <= d * 4294967296 := Nat.mul_le_mul_right _ hr
 omega
theorem divLimb_step {t s : List Nat} {k r d : Nat} (hk : k < t.length) (hl : t.length = s.length) (ht : t.take (k + 1) = s.take (k + 1)) (hv : val L32 (t.drop (k + 1)) * d + r = val L32 (s.drop (k + 1))) :
  (t.set k (joinN r (t.getD k 0) / d)).take k = s.take k /\ val L32 ((t.set k (joinN r (t.getD k 0) / d)).drop k) * d + joinN r (t.getD k 0) % d = val L32 (s.drop k) := by
 have hks : k < s.length := by omega
 have e1 : t.getD k 0 = s.getD k 0 := by
  have := congrArg (fun l => l.getD k 0) ht
  simpa [List.getD] using this
 refine ⟨?_, ?_⟩
 ·rw [List.take_set_of_le (Nat.le_refl k)];have := congrArg (List.take k) ht;rw [List.take_take, List.take_take, Nat.min_eq_left (by omega)] at this;exact this
 rw [List.drop_eq_getElem_cons (by simpa using hk), List.drop_set_of_lt (by omega), List.drop_eq_getElem_cons hks];simp only [val, List.getElem_set_self];rw [<- hv];have e2 : s[k] = s.getD k 0 := by simp [List.getD, hks]
 rw [e2, <- e1];have h := Nat.div_add_mod (joinN r (t.getD k 0)) d;have hj : joinN r (t.getD k 0) = r * L32 + t.getD k 0 := rfl;generalize joinN r (t.getD k 0) / d = q at *;generalize joinN r (t.getD k 0) % d = m at *;rw [hj] at h
 grind
theorem divLimb_any (g : Nat) (pre s post : List Nat) (vs : Value) (d : Nat) (z : Int) (w : World) (hw : Ws w .u32 138 vs g pre s post) (hs : Dig L32 s) (hz : z = (d : Int)) (hd0 : 0 < d) (hd1 : d < 4294967296) :
  Calls Tryz.prog 126 #[vs, .int .u32 z] w fun e w' => ∃ s', e = .returned (.int .u32 ((val L32 s % d : Nat) : Int)) /\ Ws w' .u32 138 vs g pre s' post /\ w.grownBy w' (some g) /\ s'.length = s.length /\ Dig L32 s' /\
   val L32 s' = val L32 s / d := by
 subst hz;obtain ⟨ao, cap, rfl, h1, h2, h3, h4⟩ := hw;go_enter Tryz.func126, Tryz.ntmps126
 go_wp2
 go_loopw [5, 6] (fun c i wr => ∃ (k : Nat) (t : List Nat) (r : Nat), i = .int .i64 ((k : Int) - 1) /\ c = .int .u64 (r : Int) /\ r < d /\ k <= s.length /\ w.grownBy wr (some g) /\ Hid (t.length = s.length) /\ Dig 4294967296 t /\
   WsAt wr .u32 138 ao g pre t post s.length /\ Hid (t.take k = s.take k) /\ Hid (val L32 (t.drop k) * d + r = val L32 (s.drop k)))
  (fun _ i _ => (intOf i + 1).toNat)
 case atStart => exact ⟨s.length, s, 0, rfl, rfl, hd0, by omega, World.grownBy.refl _ _, Lib.hid rfl, hs, h4, Lib.hid rfl, Lib.hid (by simp [val])⟩
 case round =>
  obtain ⟨k, t, r, rfl, rfl, hr, hk, hg, Ht, hdt, hB, HT, HV⟩ := hrel
  by_cases h0 : 0 < k
  ·obtain ⟨rfl, hB'⟩ := hB (by omega);have hkt : k - 1 < t.length := by have := Ht.out; omega
   have hct : wr.cell? ⟨g, pre.length + (k - 1), none⟩ = some (.int .u32 (nth t (k - 1))) := by
    rw [hB'.cell (by simp; omega), nth_mid _ _ _ _ hkt]
   have hft := hB'.frozen (pre.length + (k - 1));have t1 := hdt.getD (by omega) (k - 1);obtain ⟨x, hx⟩ : ∃ x, x = t.getD (k - 1) 0 := ⟨_, rfl⟩
   have hnx : nth t (k - 1) = (x : Int) := by rw [hx]; rfl
   rw [<- hx] at t1;have hor := or_join (r := r) (x := x) (by omega) t1;have hjb := joinI_bound (r := r) (x := x) (by omega) t1;have hq0 := join_div hr t1
   have hq : 0 <= joinI r x / (d : Int) /\ joinI r x / (d : Int) < 4294967296 := by
    have : joinI r x / (d : Int) = ((joinN r x / d : Nat) : Int) := by unfold joinI; simp
    rw [this]; exact ⟨Int.natCast_nonneg _, Int.ofNat_lt.2 hq0⟩
   have HS := Lib.hid (divLimb_step (t := t) (s := s) (k := k - 1) (r := r) (d := d) hkt Ht.out (by rw [show k - 1 + 1 = k by omega]; exact HT.out) (by rw [show k - 1 + 1 = k by omega]; exact HV.out));rw [<- hx] at HS;have HQ := Lib.hid hq0;have hm0 : joinI r x % (d : Int) = ((joinN r x % d : Nat) : Int) := by unfold joinI; simp
   have hd0' : joinI r x / (d : Int) = ((joinN r x / d : Nat) : Int) := by unfold joinI; simp
   have HM := Lib.hid hm0;have HD := Lib.hid hd0';rw [hnx] at hct;clear hB h4 hq0 hm0 hd0' hx hnx
   go_wp2
   go_roundw
   case rel =>
    refine ⟨k - 1, t.set (k - 1) (joinN r x / d), joinN r x % d, by go_num, by rw [<- HM.out], Nat.mod_lt _ hd0, by omega, grown_setCell hg _, Lib.hid (by rw [List.length_set]; exact Ht.out), hdt.set HQ.out, fun _ => ⟨rfl, ?_⟩, Lib.hid HS.out.1, Lib.hid HS.out.2⟩;rw [<- set_mid _ _ _ _ _ hkt];exact hB'.set _ _ _ HD.out
   case measure => simp [intOf]; omega
  have hk0 : k = 0 := by omega
  subst hk0;have hv := HV.out;simp only [List.drop_zero] at hv;have e1 : val L32 s % d = r := by rw [<- hv, Nat.mul_add_mod_self_right, Nat.mod_eq_of_lt hr]
  have e2 : val L32 t = val L32 s / d := by rw [<- hv, Nat.add_comm, Nat.add_mul_div_right _ _ hd0, Nat.div_eq_of_lt hr, Nat.zero_add]
  have E1 := Lib.hid e1;have E2 := Lib.hid e2;have hfin : Ws wr .u32 138 (.slice ao s.length cap) g pre t post := ⟨ao, cap, by rw [Ht.out], by rw [Ht.out]; exact h1, h2, h3, by rw [Ht.out]; exact hB⟩
  clear e1 e2 hv h4
  go_wp2
  go_ret
  exact ⟨t, by rw [E1.out]; rfl, hfin, hg, Ht.out, hdt, E2.out⟩
theorem infoByte : (Tryz.prog.info? 5).map (fun i => (i.zero, i.size, i.bytes)) = some (some (.int .u8 0), 1, 1) := by kernel_rfl
theorem infoBld : (Tryz.prog.info? 95).map (·.size) = some 2 := by kernel_rfl
theorem liesBld : liesAt Tryz.prog Tryz.prog.depth 95 (2 / Tryz.prog.cellsOf 95) 0 95 1 = true := by kernel_rfl
set_option maxRecDepth 100000 in
theorem copyCheck_used (b : Nat) (w : World) (h0 : w.cell? ⟨b, 0, none⟩ = some (.pointer (some ⟨b, 0, none⟩))) :
  Calls Tryz.prog 102 #[.pointer (some ⟨b, 0, none⟩)] w fun e w' => e = .returned (.tuple #[]) /\ w = w' := by
 obtain ⟨j, hj, _⟩ := Option.map_eq_some_iff.1 infoBld;have hne := Lib.run_neq_ptr_same (P := Tryz.prog) w ⟨b, 0, none⟩ Tryz.underlying92 hj;go_enter Tryz.func102, Tryz.ntmps102
 go_wp2
 go_end0
 exact ⟨rfl, rfl⟩
set_option maxRecDepth 100000 in
theorem copyCheck_fresh (b : Nat) (w : World) (h0 : w.cell? ⟨b, 0, none⟩ = some (.pointer none)) (hsh : w.shape? b = some (95, 2)) (hfz : w.frozen? ⟨b, 0, none⟩ = false) :
  Calls Tryz.prog 102 #[.pointer (some ⟨b, 0, none⟩)] w fun e w' => e = .returned (.tuple #[]) /\ w.setCell ⟨b, 0, none⟩ (.pointer (some ⟨b, 0, none⟩)) = w' := by
 obtain ⟨j, hj, hjs⟩ := Option.map_eq_some_iff.1 infoBld;have h1 := Lib.run_to_unsafe (P := Tryz.prog) w ⟨b, 0, none⟩ Tryz.underlying92 Tryz.underlying119 hj (by rw [hjs]; decide) hsh (Nat.zero_lt_succ 1);have h2 := run_callFunc_extern (P := Tryz.prog) (w := w) (args := #[.pointer (some ⟨b, 0, none⟩)]) Tryz.func128 (by kernel_rfl) (by kernel_rfl) (by kernel_rfl) (e := Extern.AbiNoEscape.same) (by kernel_rfl);have h3 := Lib.run_noEscape (P := Tryz.prog) w (.pointer (some ⟨b, 0, none⟩));have h4 := Lib.run_from_unsafe (P := Tryz.prog) w ⟨b, 0, none⟩ Tryz.underlying119 Tryz.underlying92 hj hsh liesBld;go_enter Tryz.func102, Tryz.ntmps102
 go_wp2
 go_end0
 exact ⟨rfl, rfl⟩
def Bld (B b : Nat) (l : List UInt8) (w : World) : Prop := Lib.IsBuilder 95 5 B b (Lib.byteCells l) w
theorem Bld.at {B b : Nat} {l : List UInt8} {w : World} (h : Bld B b l w) : ∃ p v, w.heap[b]? = some (.cells #[p, v] 95 (0, 0)) /\ w.ownsRow B 5 1 v l.length (Lib.byteCells l) /\ v.ownBlock ≠ some b /\ B <= b /\ (p = .pointer none \/ p = .pointer (some ⟨b, 0, none⟩)) := by
 rcases h with ⟨hB, v, h1, h2, h3⟩ | ⟨hB, v, h1, h2, h3⟩
 ·exact ⟨_, v, h1, by simpa [Lib.byteCells_length] using h2, h3, hB, .inl rfl⟩
 exact ⟨_, v, h1, by simpa [Lib.byteCells_length] using h2, h3, hB, .inr rfl⟩
theorem Bld.below {B b : Nat} {l : List UInt8} {w w' : World} (h : Bld B b l w) (hb : Below w.heap.size w w') : Bld B b l w' := by
 have go : ∀ p, Lib.BuilderAt 95 5 B b p (Lib.byteCells l) w -> Lib.BuilderAt 95 5 B b p (Lib.byteCells l) w' := by
  intro p ⟨hB, v, h1, h2, h3⟩;have hlt := lt_of_block h1;exact ⟨hB, v, by rw [hb.block b hlt]; exact h1, World.ownsRow.kept h2 ⟨hb.os, hb.tape, hb.output, hb.size, fun j hj _ => hb.block j hj⟩ (by cases hv : v.ownBlock with | none => exact .inl rfl | some g => exact .inr (show some g ≠ none by simp)), h3⟩
 rcases h with h | h
 ·exact .inl (go _ h)
 exact .inr (go _ h)
theorem strCells_bytes (l m : List UInt8) : Lib.byteCells l ++ Lib.strCells ⟨m.toArray⟩ = Lib.byteCells (l ++ m) := by
 simp [Lib.byteCells, Lib.strCells]
set_option maxRecDepth 100000 in
theorem writeString_any (B b : Nat) (l m : List UInt8) (sv : ByteArray) (w : World) (h : Bld B b l w) (hs : sv = ⟨m.toArray⟩) (hlen : l.length + m.length <= 1000000) (hBw : B <= w.heap.size) :
  Calls Tryz.prog 68 #[.pointer (some ⟨b, 0, none⟩), .string sv] w fun e w' => ∃ v, e = .returned v /\ Bld B b (l ++ m) w' /\ Below B w w' := by
 obtain ⟨i0, hi, hz0, hz1, hz2⟩ := info_parts infoByte;have hsz : sv.size = m.length := by subst hs; rfl
 obtain ⟨p, v, hbk, hown, hne, hBb, hp⟩ := h.at;have hlt := lt_of_block hbk
 -- behind copyCheck
 have rest : ∀ w1 : World, w1.heap[b]? = some (.cells #[.pointer (some ⟨b, 0, none⟩), v] 95 (0, 0)) -> w1.ownsRow B 5 1 v l.length (Lib.byteCells l) -> Below B w w1 -> True := fun _ _ _ _ => trivial
 clear rest;have HS := Lib.hid hs;have HSZ := Lib.hid hsz;clear hs;have hsz2 : sv.size <= m.length := by omega
 clear hsz
 have cc : Calls Tryz.prog 102 #[.pointer (some ⟨b, 0, none⟩)] w fun e w1 => e = .returned (.tuple #[]) /\ w1.heap[b]? = some (.cells #[.pointer (some ⟨b, 0, none⟩), v] 95 (0, 0)) /\ w1.ownsRow B 5 1 v l.length (Lib.byteCells l) /\ Below B w w1 := by
  rcases hp with rfl | rfl
  ·refine (copyCheck_fresh b w (by rw [cell_of_row w b 0 _ 95 (0, 0) hbk]; rfl) (by simp [World.shape?, hbk]) (frozen_of_row w b 0 _ 95 hbk)).mono ?_;rintro e w1 ⟨rfl, rfl⟩;refine ⟨rfl, ?_, ?_, (Below.refl _ _).setCell hBb _⟩
   ·rw [heap_setCell_same w b 0 _ 95 _ hbk]; rfl
   exact ownsRow_setCell_other hown (by simpa using hne) _
  refine (copyCheck_used b w (by rw [cell_of_row w b 0 _ 95 (0, 0) hbk]; rfl)).mono ?_;rintro e w1 ⟨rfl, rfl⟩;exact ⟨rfl, hbk, hown, Below.refl _ _⟩
 have CC := Lib.hid cc;clear cc hbk hown hp;go_enter Tryz.func68, Tryz.ntmps68
 go_wp2_with fail
 refine CC.out.mono ?_;rintro e w1 ⟨rfl, hbk1, hown1, hb1⟩;have c0 : w1.cell? ⟨b, 0, none⟩ = some (.pointer (some ⟨b, 0, none⟩)) := by rw [cell_of_row w1 b 0 _ 95 (0, 0) hbk1]; rfl
 have c1 : w1.cell? ⟨b, 1, none⟩ = some v := by rw [cell_of_row w1 b 1 _ 95 (0, 0) hbk1]; rfl
 have HK := Lib.hid hbk1;clear hbk1;have hsz1 := hb1.size;go_wp2_with (at_builtin; refine Lib.wpList_append_own_string _ rfl (.tmp 12) (.tmp 13) 93 9 rfl B 5 i0 Tryz.underlying93 Tryz.underlying9 hi hz0 hz1 hz2 _ _ _ rfl hown1 sv rfl ?c3 ?c4 ?c5 ?_)
 case c3 => unfold maxLen; omega
 case c4 => omega
 case c5 => omega
 intro v' w2 hown' hgrow _;have hlt1 : b < w1.heap.size := lt_of_block HK.out
 have hb2 : w2.heap[b]? = some (.cells #[.pointer (some ⟨b, 0, none⟩), v] 95 (0, 0)) := by
  rw [hgrow.block b hlt1 (fun e => hne e.symm)];exact HK.out
 have d0 : w2.cell? ⟨b, 0, none⟩ = some (.pointer (some ⟨b, 0, none⟩)) := by rw [cell_of_row w2 b 0 _ 95 (0, 0) hb2]; rfl
 have d1 : w2.cell? ⟨b, 1, none⟩ = some v := by rw [cell_of_row w2 b 1 _ 95 (0, 0) hb2]; rfl
 have f1 : w2.frozen? ⟨b, 1, none⟩ = false := frozen_of_row w2 b 1 _ 95 hb2
 obtain ⟨ao, n', cap, rfl⟩ : ∃ ao n' cap, v' = .slice ao n' cap := by
  rcases hown'.2 with ⟨hv, _⟩ | ⟨g, cap, cur, hv, _⟩
  ·exact ⟨_, _, _, hv⟩
  exact ⟨_, _, _, hv⟩
 have HB2 := Lib.hid hb2;clear hb2
 go_wp2
 go_ret2
 refine ⟨_, rfl, ?_, ?_⟩
 ·refine .inr ?_;rw [<- strCells_bytes, <- HS.out];refine Lib.BuilderAt.put (T := 95) (e := 5) hBb HB2.out (bs' := Lib.byteCells l ++ Lib.strCells sv) ?_ (by decide);rw [lsa, Lib.byteCells_length, Lib.strCells_length];exact hown'
 exact (hb1.grown hgrow (by omega) (fun k hk => (hown1.lt k hk).1)).setCell (p := ⟨b, 1, none⟩) hBb _
theorem fmt_small (i : Nat) (z : Int) (hz : z = (i : Int)) (h : i < 100) (w : World) :
  Calls Tryz.prog 101 #[.int .u64 z, .int .i64 10] w fun e w' => e = .returned (.string ⟨(Lib.decDigits i).toArray⟩) /\ w = w' := by
 subst hz
 have inner : Calls Tryz.prog 127 #[.int .u64 i, .int .i64 10] w fun e w' => e = .returned (.string ⟨(Lib.decDigits i).toArray⟩) /\ w = w' := by
  go_enter Tryz.func127, Tryz.ntmps127
  go_wp2_with fail
  refine (Tryz.internal_strconv_small i h _).mono ?_; rintro e w' ⟨rfl, rfl⟩;go_wp2_with fail
  go_ret
  exact ⟨rfl, rfl⟩
 have IN := Lib.hid inner;clear inner;go_enter Tryz.func101, Tryz.ntmps101
 go_wp2_with fail
 refine IN.out.mono ?_; rintro e w' ⟨rfl, rfl⟩;go_wp2_with fail
 go_ret
 exact ⟨rfl, rfl⟩
abbrev G9 : Nat := 1000000000
theorem Ow.len {w : World} {base : Nat} {k : IntKind} {T : TypeId} {v : Value} {xs : List Nat} (h : Ow w base k T v xs) : lenOfV v = xs.length := by
 obtain ⟨ao, cap, rfl⟩ := sl_shape h.sl; rfl
theorem Ow.grown {w w' : World} {base : Nat} {k : IntKind} {T : TypeId} {v : Value} {xs : List Nat} (h : Ow w base k T v xs) {g : Nat} (hg : w.grownBy w' (some g)) (hb : g < base) : Ow w' base k T v xs :=
 World.ownsRow.kept h hg (by
  cases hv : v.ownBlock with
  | none => exact .inl rfl
  | some j => exact .inr (fun e => by injection e with e; have := h.base_le j hv; omega))
theorem ws_trimmed {w : World} {T : TypeId} {ao : Option Addr} {n cap g : Nat} {pre s post : List Nat} (h : Ws w .u32 T (.slice ao n cap) g pre s post) (hd : Dig L32 s) :
  ∃ post', Ws w .u32 T (trimmedOf ao cap s) g pre (dig L32 (val L32 s)) post' := by
 have e := take_nz (B := L32) (by decide) hd;obtain ⟨ao', cap', e1, h1, h2, h3, h4⟩ := h;injection e1 with e1 e2 e3;subst e1; subst e3;have hl := nz_le s;have hlen : (s.take (nz s)).length = nz s := by rw [List.length_take]; omega
 refine ⟨s.drop (nz s) ++ post, ?_⟩;rw [<- e];unfold trimmedOf
 by_cases h0 : nz s = 0
 ·rw [if_pos h0, h0];exact ⟨none, 0, rfl, by simp, by omega, fun _ => rfl, fun h => by simp at h⟩
 rw [if_neg h0];refine ⟨ao, cap, by rw [hlen], by rw [hlen]; omega, h2, h3, fun _ => ?_⟩;obtain ⟨a1, a2⟩ := h4 (by omega);refine ⟨a1, ?_⟩
 have : pre ++ s.take (nz s) ++ (s.drop (nz s) ++ post) = pre ++ s ++ post := by
  rw [<- List.append_assoc, List.append_assoc pre, List.take_append_drop]
 rw [this]; exact a2
theorem trimmed_ws (v : Value) (g : Nat) (pre s post : List Nat) (w : World) (h : Ws w .u32 138 v g pre s post) (hd : Dig L32 s) :
  Calls Tryz.prog 125 #[v] w fun e w' => ∃ v' post', e = .returned v' /\ Ws w .u32 138 v' g pre (dig L32 (val L32 s)) post' /\ w = w' := by
 obtain ⟨ao, cap, rfl⟩ := h.at;refine (trimmed_any _ _ _ s _ h.sl).mono fun e w' ⟨he, hw⟩ => ?_
 obtain ⟨post', h'⟩ := ws_trimmed h hd;exact ⟨_, post', he, h', hw⟩
theorem Ws.len {w : World} {k : IntKind} {T : TypeId} {v : Value} {g : Nat} {pre s post : List Nat} (h : Ws w k T v g pre s post) : lenOfV v = s.length := by
 obtain ⟨ao, cap, rfl⟩ := h.at; rfl
theorem Ws.kept {w w' : World} {B : Nat} {k : IntKind} {T : TypeId} {v : Value} {g : Nat} {pre s post : List Nat} (h : Ws w k T v g pre s post) (hb : Below B w w') (hg : s.length ≠ 0 -> g < B) : Ws w' k T v g pre s post := by
 obtain ⟨ao, cap, rfl, h1, h2, h3, h4⟩ := h;exact ⟨ao, cap, rfl, h1, h2, h3, fun i => ⟨(h4 i).1, (h4 i).2.below hb (hg i)⟩⟩
theorem Ws.in_heap {w : World} {k : IntKind} {T : TypeId} {v : Value} {g : Nat} {pre s post : List Nat} (h : Ws w k T v g pre s post) (h0 : s.length ≠ 0) : g < w.heap.size := by
 obtain ⟨ao, cap, rfl, h1, h2, h3, h4⟩ := h;exact (h4 h0).2.lt
theorem groups_step {gs : List Nat} {ρ N : Nat} (h0 : 0 < ρ) (h : gs ++ dig G9 ρ = dig G9 N) : (gs ++ [ρ % G9]) ++ dig G9 (ρ / G9) = dig G9 N := by
 rw [<- h, dig_pos (B := G9) (by decide) h0, List.append_assoc]; rfl
theorem decimalGroups_any (va : Value) (xs : List Nat) (w : World) (hx : Sl w .u32 va xs) (dx : Dig L32 xs) (lx : xs.length <= 100000) :
  Calls Tryz.prog 100 #[va] w fun e w' => ∃ v, e = .returned v /\ Sl w' .u32 v (dig G9 (val L32 xs)) /\ Below w.heap.size w w' := by
 obtain ⟨i0, hi, hz0, hz1, hz2⟩ := info_parts info51;obtain ⟨ao, ac, rfl⟩ := sl_shape hx;go_enter Tryz.func100, Tryz.ntmps100
 go_wp2_with fail
 refine (trim_any _ xs w hx dx (by omega)).mono ?_;rintro e w1 ⟨v1, rfl, hs1, hb1⟩;have hsz1 := hb1.size;have Hg : Hid ((dig L32 (val L32 xs)).length ≠ 0 -> w.heap.size < w1.heap.size) := Lib.hid (fun h => hs1.in_heap h)
 have HK : Hid ((dig G9 (val L32 xs)).length <= 1000000) := Lib.hid (Nat.le_trans (length_dig_le (B := G9) (k := 2 * xs.length) (by decide) (by
  have h1 := val_lt dx;have h2 : L32 ^ xs.length <= G9 ^ (2 * xs.length) := by rw [Nat.pow_mul]; exact Nat.pow_le_pow_left (by decide) _
  omega)) (by omega))
 generalize hN : val L32 xs = N at *;have HN := Lib.hid hN;clear hN;go_wp2_with fail
 go_loopw [3, 4] (fun gv rv wr => ∃ (ρ : Nat) (gs post : List Nat), Ow wr w1.heap.size .u32 138 gv gs /\ Ws wr .u32 138 rv w.heap.size [] (dig L32 ρ) post /\ Hid (gs ++ dig G9 ρ = dig G9 N) /\ Dig L32 gs /\ Below w.heap.size w wr /\ w1.heap.size <= wr.heap.size /\ Hid ((dig L32 ρ).length ≠ 0 -> w.heap.size < w1.heap.size)) (fun gv _ _ => (dig G9 N).length - lenOfV gv)
 case atStart => exact ⟨N, [], [], Ow.nil _ _ _ _, hs1, Lib.hid rfl, Dig.nil _, hb1, Nat.le_refl _, Hg⟩
 case round =>
  clear hs1 hb1 Hg;obtain ⟨ρ, gs, post, how, hws, HG, hdg, hb, hsz, Hg⟩ := hrel;have hlen := Lib.hid hws.len;obtain ⟨ro, rc, rfl⟩ := hws.at
  by_cases h0 : 0 < ρ
  ·have hpos : 0 < (dig L32 ρ).length := by rw [dig_pos (by decide) h0]; simp
   have hgl := Hg.out (by omega);have HG' := Lib.hid (groups_step h0 HG.out)
   have hgsl : gs.length < (dig G9 N).length := by
    have := congrArg List.length HG.out;rw [lsa, dig_pos (B := G9) (by decide) h0] at this
    simp at this; omega
   have hk := HK.out;have hmod : ρ % G9 < 1000000000 := Nat.mod_lt _ (by decide);have HL := Lib.hid how.len;go_wp2_with fail
   refine (divLimb_any w.heap.size [] _ post _ G9 _ wr hws (Dig_dig (by decide) _) rfl (by decide) (by decide)).mono ?_;rintro e w3 ⟨s', rfl, hs3, hg3, hl3, hd3, hv3⟩;rw [val_dig (by decide)] at hv3 ⊢;have how3 := how.grown hg3 hgl;have hb3 : Below w.heap.size w w3 := hb.trans (below_of_grown' hg3 (Nat.le_refl _) hb.size);have hsz3 := hg3.size;have HV3 := Lib.hid hv3;have HL3 := Lib.hid hl3;clear hv3 hl3;obtain ⟨m, hm⟩ : ∃ m, m = ρ % G9 := ⟨_, rfl⟩
   rw [<- hm];rw [<- hm] at HG' hmod;clear hm;go_wp2_with (at_builtin; refine wpList_append_one _ rfl (.tmp 12) (.tmp 15) 39 rfl 138 i0 .u32 Tryz.underlying39 hi hz0 hz1 ?c1 w1.heap.size _ gs rfl (how3.alloc _) w3.heap.size (m : Int) m rfl ?c2 rfl ?c3 ?c4 ?_)
   case c1 => omega
   case c2 => simp
   case c3 => omega
   case c4 => simp; omega
   intro v' w4 how4 hb4;have hb4' : Below w1.heap.size w3 w4 := ((Below.refl _ _).alloc (by omega) _).trans hb4;have hs4 := hs3.kept hb4' (fun _ => hgl);go_wp2_with fail
   refine (trimmed_ws _ _ _ s' _ w4 hs4 hd3).mono ?_;rintro e w5 ⟨v5, post5, rfl, hs5, rfl⟩;rw [HV3.out] at hs5;go_wp2_with fail
   go_roundw
   case rel => exact ⟨ρ / G9, gs ++ [m], post5, how4, hs5, HG', hdg.append (by intro x hx; obtain rfl := List.mem_singleton.1 hx; exact Nat.lt_trans hmod (by decide)), hb3.trans (hb4'.mono (by omega)), Nat.le_trans (by omega) hb4'.size, Lib.hid (fun _ => hgl)⟩
   case measure =>
    have e1 := HL.out;have e2 := how4.len;rw [lsa] at e2
    simp at e2
    simp; omega
  have hr : ρ = 0 := by omega
  subst hr;have HE : Hid (gs = dig G9 N) := Lib.hid (by have := HG.out; rwa [dig_zero, List.append_nil] at this);have hl0 : (dig L32 0).length = 0 := by rw [dig_zero]; rfl
  have HL0 := Lib.hid hl0;have hl1 : (dig L32 0).length <= 0 := by omega
  clear hl0;go_wp2_with fail
  go_ret
  exact ⟨_, rfl, by rw [HN.out, <- HE.out]; exact how.sl, hb⟩
def pad : Nat -> Nat -> List UInt8
 | 0, _ => []
 | k + 1, g => pad k (g / 10) ++ [UInt8.ofNat (48 + g % 10)]
theorem decDigits_pad (k : Nat) : ∀ (q g : Nat), 0 < q -> g < 10 ^ k -> Lib.decDigits (q * 10 ^ k + g) = Lib.decDigits q ++ pad k g := by
 induction k with
 | zero => intro q g hq hg; simp at hg; subst hg; simp [pad]
 | succ k ih =>
  intro q g hq hg
  have hbig : ¬ q * 10 ^ (k + 1) + g < 10 := by
   have : 1 * 10 ^ (k + 1) <= q * 10 ^ (k + 1) := Nat.mul_le_mul_right _ hq;have h2 : 10 <= 10 ^ (k + 1) := by rw [Nat.pow_succ]; have := Nat.pow_pos (n := k) (show 0 < 10 by omega); omega
   omega
  have e1 : (q * 10 ^ (k + 1) + g) / 10 = q * 10 ^ k + g / 10 := by
   rw [Nat.pow_succ, <- Nat.mul_assoc, Nat.add_comm, Nat.add_mul_div_right _ _ (by omega), Nat.add_comm]
  have e2 : (q * 10 ^ (k + 1) + g) % 10 = g % 10 := by
   rw [Nat.pow_succ, <- Nat.mul_assoc, Nat.add_comm, Nat.add_mul_mod_self_right]
  have hg' : g / 10 < 10 ^ k := Nat.div_lt_of_lt_mul (by rw [Nat.pow_succ] at hg; omega);rw [Lib.decDigits, dif_neg hbig, e1, e2, ih q (g / 10) hq hg', List.append_assoc]
  rfl
theorem decDigits_group {q g : Nat} (hq : 0 < q) (hg : g < G9) : Lib.decDigits (g + G9 * q) = Lib.decDigits q ++ (Lib.decDigits (G9 + g)).drop 1 := by
 have h1 := decDigits_pad 9 q g hq hg;have h2 := decDigits_pad 9 1 g (by decide) hg;have hG : G9 = 1000000000 := rfl;rw [show q * 10 ^ 9 + g = g + G9 * q by rw [hG]; omega] at h1;rw [show 1 * 10 ^ 9 + g = G9 + g by rw [hG]] at h2;rw [h1, h2, Lib.decDigits_one (i := 1) (by decide)]
 rfl
theorem len_pad (k g : Nat) : (pad k g).length = k := by
 induction k generalizing g with
 | zero => rfl
 | succ k ih => simp [pad, ih]
theorem decDigits_ten {g : Nat} (hg : g < G9) : (Lib.decDigits (G9 + g)).length = 10 := by
 have h2 := decDigits_pad 9 1 g (by decide) hg;rw [show 1 * 10 ^ 9 + g = G9 + g from rfl] at h2;rw [h2, lsa, len_pad, Lib.decDigits_one (i := 1) (by decide)]; rfl
theorem decDigits_len {n k : Nat} (h : n < 10 ^ k) (hk : 0 < k) : (Lib.decDigits n).length <= k := by
 rw [Lib.decDigits_length];rcases Nat.lt_or_ge n 10 with h1 | h1
 ·rw [Lib.nDigits_small h1]; exact hk
 induction k generalizing n with
 | zero => omega
 | succ k ih =>
  rw [Lib.nDigits_big (by omega)];have h2 : n / 10 < 10 ^ k := Nat.div_lt_of_lt_mul (by rw [Nat.pow_succ] at h; omega)
  have hk0 : 0 < k := by
   rcases Nat.eq_zero_or_pos k with h0 | h0
   ·subst h0; simp at h2; omega
   exact h0
  rcases Nat.lt_or_ge (n / 10) 10 with h3 | h3
  ·rw [Lib.nDigits_small h3]; omega
  have := ih h2 hk0 h3; omega
theorem val_drop_step {B : Nat} {gs : List Nat} {k : Nat} (hk : k < gs.length) : val B (gs.drop k) = gs.getD k 0 + B * val B (gs.drop (k + 1)) := by
 rw [List.drop_eq_getElem_cons hk]
 simp [val, List.getD, hk]
theorem extract_one (l : List UInt8) : (⟨l.toArray⟩ : ByteArray).extract 1 (⟨l.toArray⟩ : ByteArray).size = ⟨(l.drop 1).toArray⟩ := by
 apply ByteArray.ext
 simp [ByteArray.size]
 rw [List.take_of_length_le (by simp)]
theorem digits_len {gs : List Nat} (hd : Dig G9 gs) (k : Nat) (hl : gs.length <= 20000) : (Lib.decDigits (val G9 (gs.drop k))).length <= 180009 := by
 have h1 := val_lt (hd.drop k)
 have h2 : G9 ^ (gs.drop k).length <= 10 ^ (9 * gs.length + 9) := by
  rw [show G9 = 10 ^ 9 from rfl, <- Nat.pow_mul];exact Nat.pow_le_pow_right (by decide) (by rw [List.length_drop]; omega)
 have := decDigits_len (Nat.lt_of_lt_of_le h1 h2) (by omega)
 omega
theorem digits_round {gs : List Nat} (hd : Dig G9 gs) {k : Nat} (hk : k < gs.length) (hp : 0 < val G9 (gs.drop (k + 1))) :
  Lib.decDigits (val G9 (gs.drop k)) = Lib.decDigits (val G9 (gs.drop (k + 1))) ++ (Lib.decDigits (G9 + gs.getD k 0)).drop 1 /\ 0 < val G9 (gs.drop k) := by
 rw [val_drop_step hk];refine ⟨decDigits_group hp (hd.getD (by decide) k), ?_⟩;have : 1 * 1 <= G9 * val G9 (gs.drop (k + 1)) := Nat.mul_le_mul (by decide) hp
 omega
def FmtAt (w0 : World) (P : Nat -> Prop) : Prop :=
 ∀ (w : World) (i : Nat) (z : Int), Below w0.heap.size w0 w -> z = (i : Int) -> P i -> Calls Tryz.prog 101 #[.int .u64 z, .int .i64 10] w fun e w' => e = .returned (.string ⟨(Lib.decDigits i).toArray⟩) /\ Below w.heap.size w w'
theorem text_gen (P : Nat -> Prop) (va : Value) (xs : List Nat) (w : World) (fmt : FmtAt w P) (hx : Sl w .u32 va xs) (dx : Dig L32 xs) (lx : xs.length <= 10000)
  (hP1 : ∀ g, g < G9 -> (dig G9 (val L32 xs)).getD ((dig G9 (val L32 xs)).length - 1) 0 = g -> P g) (hP2 : 2 <= (dig G9 (val L32 xs)).length -> ∀ g, g < G9 -> P (G9 + g)) :
  Calls Tryz.prog 67 #[va] w fun e w' => e = .returned (.string ⟨(Lib.decDigits (val L32 xs)).toArray⟩) /\ Below w.heap.size w w' := by
 have FMT := Lib.hid fmt;clear fmt
 have HGL : Hid ((dig G9 (val L32 xs)).length <= 20000) := Lib.hid (Nat.le_trans (length_dig_le (B := G9) (k := 2 * xs.length) (by decide) (by
  have h1 := val_lt dx;have h2 : L32 ^ xs.length <= G9 ^ (2 * xs.length) := by rw [Nat.pow_mul]; exact Nat.pow_le_pow_left (by decide) _
  omega)) (by omega))
 have DG := decimalGroups_any va xs w hx dx (by omega);have DGH := Lib.hid DG;clear DG;have dg := Dig_dig (B := G9) (by decide) (val L32 xs);have HV := Lib.hid (val_dig (B := G9) (by decide) (val L32 xs));have HLast := Lib.hid (@dig_last G9 (val L32 xs) (by decide));have HP1 := Lib.hid hP1;have HP2 := Lib.hid hP2;clear hP1 hP2 dx;generalize dig G9 (val L32 xs) = gs at *;generalize val L32 xs = N at *
 by_cases h0 : gs.length = 0
 ·have HN : Hid (N = 0) := Lib.hid (by have := HV.out; rw [List.eq_nil_of_length_eq_zero h0] at this; simpa [val] using this.symm);have hz : (((gs.length : Nat) : Int) == 0) = true := by rw [h0]; rfl
  have H0 := Lib.hid h0;clear h0;go_enter Tryz.func67, Tryz.ntmps67
  go_wp2_with fail
  refine DGH.out.mono ?_;rintro e w1 ⟨v1, rfl, hs1, hb1⟩;obtain ⟨ao, ac, rfl⟩ := sl_shape hs1;go_wp2_with fail
  go_ret
  exact ⟨by rw [HN.out, Lib.decDigits_one (i := 0) (by decide)]; rfl, hb1⟩
 have hz : (((gs.length : Nat) : Int) == 0) = false := by rw [beq_eq_false_iff_ne]; omega
 have hp : 1 <= gs.length := by omega
 clear h0;go_enter Tryz.func67, Tryz.ntmps67
 go_wp2_with fail
 refine DGH.out.mono ?_;rintro e w1 ⟨v1, rfl, hs1, hb1⟩;have HS1 := Lib.hid hs1;obtain ⟨ao, ac, rfl, a1, a2, a3, a4⟩ := hs1;obtain ⟨a, rfl, hca⟩ := a4 (gs.length - 1) (by omega);clear a4;have g1 : 0 <= nth gs (gs.length - 1) /\ nth gs (gs.length - 1) < 1000000000 := by have := dg.getD (by decide) (gs.length - 1); have hG : G9 = 1000000000 := rfl; unfold nth; omega
 have hgl := HGL.out
 have hcal : (w1.alloc (.cells #[.pointer none, .slice none 0 0] 95)).cell? (a.add (gs.length - 1)) = some (.int .u32 (nth gs (gs.length - 1))) := by
  rw [World.cell?_alloc_lt _ _ _ (cell_lt hca)]; exact hca
 have hBld : Bld w1.heap.size w1.heap.size [] (w1.alloc (.cells #[.pointer none, .slice none 0 0] 95)) := Lib.fresh_isBuilder 95 5 w1;have hbW : Below w1.heap.size w1 (w1.alloc (.cells #[.pointer none, .slice none 0 0] 95)) := (Below.refl _ _).alloc (Nat.le_refl _) _;have hsW : w1.heap.size < (w1.alloc (.cells #[.pointer none, .slice none 0 0] 95)).heap.size := by simp
 have hg0 := dg.getD (by decide) (gs.length - 1);have hlast := HLast.out (by omega)
 have hdrop : val G9 (gs.drop (gs.length - 1)) = gs.getD (gs.length - 1) 0 := by
  rw [val_drop_step (by omega), List.drop_eq_nil_of_le (by omega)]; simp [val]
 have HD0 := Lib.hid hdrop;have HLA := Lib.hid hlast;clear hdrop hlast;go_wp2_with fail
 generalize (w1.alloc (.cells #[.pointer none, .slice none 0 0] 95)) = W2 at *;have hbW' : Below w.heap.size w W2 := hb1.trans (hbW.mono hb1.size);refine (FMT.out W2 (gs.getD (gs.length - 1) 0) _ hbW' rfl (HP1.out _ hg0 rfl)).mono ?_;rintro e w3 ⟨rfl, hb3⟩;have hbl3 := hBld.below hb3;have hs3 := hb3.size;have hb3w : Below w.heap.size w w3 := hbW'.trans (hb3.mono hbW'.size);have hb3B : Below w1.heap.size w1 w3 := hbW.trans (hb3.mono (by omega));rw [<- HD0.out];have hdl := digits_len dg (gs.length - 1) hgl;have hpos : 0 < val G9 (gs.drop (gs.length - 1)) := by rw [HD0.out]; have := HLA.out; omega
 have HPOS := Lib.hid hpos;clear hpos;generalize hL : Lib.decDigits (val G9 (gs.drop (gs.length - 1))) = L at *;have HL := Lib.hid hL;clear hL;generalize hS : (⟨L.toArray⟩ : ByteArray) = sv at *;have HS := Lib.hid hS;clear hS;go_wp2_with fail
 refine (writeString_any w1.heap.size w1.heap.size [] L sv w3 hbl3 HS.out.symm (by simp; omega) (by omega)).mono ?_;rintro e w4 ⟨v4, rfl, hbl4, hb4⟩;rw [List.nil_append] at hbl4;have hb4w : Below w.heap.size w w4 := hb3w.trans (hb4.mono hb1.size);have hb4B : Below w1.heap.size w1 w4 := hb3B.trans hb4;have hs4 := hb4.size;go_wp2_with fail
 go_loopw [6] (fun i wr => ∃ k : Nat, k <= gs.length - 1 /\ i = .int .i64 ((k : Int) - 1) /\ Bld w1.heap.size w1.heap.size (Lib.decDigits (val G9 (gs.drop k))) wr /\ Hid (0 < val G9 (gs.drop k)) /\ Below w.heap.size w wr /\ Below w1.heap.size w1 wr /\ w1.heap.size < wr.heap.size) (fun i _ => (intOf i + 1).toNat)
 case atStart => exact ⟨gs.length - 1, Nat.le_refl _, by congr 1; omega, by rw [HL.out]; exact hbl4, HPOS, hb4w, hb4B, by omega⟩
 case round =>
  clear hbl3 hb3w hb3B hbl4 hb4w hb4B hs4 hs3 hb3 hb4 HPOS HL HS hBld hbW hsW hbW' hcal hdl;obtain ⟨k, hk, rfl, hbl, HPOS, hb, hbB, hsz⟩ := hrel
  by_cases h0 : 0 < k
  ·have hc : wr.cell? (a.add (k - 1)) = some (.int .u32 (nth gs (k - 1))) := by
    have := HS1.out.at (i := k - 1) (by omega);rw [hbB.cell (cell_lt this)]; exact this
   have gk := dg.getD (by decide) (k - 1);have gk' : 0 <= nth gs (k - 1) /\ nth gs (k - 1) < 1000000000 := by have hG : G9 = 1000000000 := rfl; unfold nth; omega
   have HR := Lib.hid (digits_round dg (k := k - 1) (by omega) (by rw [show k - 1 + 1 = k by omega]; exact HPOS.out));have hP := HP2.out (by omega) _ gk;have hten := decDigits_ten gk;have hdl := digits_len dg k hgl;have hex := extract_one (Lib.decDigits (G9 + gs.getD (k - 1) 0));have hsize : (⟨(Lib.decDigits (G9 + gs.getD (k - 1) 0)).toArray⟩ : ByteArray).size = 10 := by simpa [ByteArray.size] using hten
   have hdr : ((Lib.decDigits (G9 + gs.getD (k - 1) 0)).drop 1).length = 9 := by rw [List.length_drop, hten]
   have HTEN := Lib.hid hten;clear hten;go_wp2_with fail
   refine (FMT.out wr (G9 + gs.getD (k - 1) 0) _ hb (by unfold nth; simp) hP).mono ?_;rintro e w5 ⟨rfl, hb5⟩;have hbl5 := hbl.below hb5;have hs5 := hb5.size;have hb5w : Below w.heap.size w w5 := hb.trans (hb5.mono hb.size);have hb5B : Below w1.heap.size w1 w5 := hbB.trans (hb5.mono (by omega));generalize hM : (Lib.decDigits (G9 + gs.getD (k - 1) 0)).drop 1 = M at *;generalize hS : (⟨(Lib.decDigits (G9 + gs.getD (k - 1) 0)).toArray⟩ : ByteArray) = sv at *;have HEX := Lib.hid hex;have hsz1 : 1 <= sv.size /\ sv.size <= 10 := by omega
   clear hex hS hM hsize;go_wp2_with fail
   refine (writeString_any w1.heap.size w1.heap.size _ M _ w5 hbl5 HEX.out (by omega) (by omega)).mono ?_;rintro e w6 ⟨v6, rfl, hbl6, hb6⟩;have hs6 := hb6.size;go_wp2_with fail
   go_roundw
   case rel =>
    refine ⟨k - 1, by omega, by go_num, ?_, Lib.hid HR.out.2, hb5w.trans (hb6.mono hb1.size), hb5B.trans hb6, by omega⟩;have h := HR.out.1;rw [show k - 1 + 1 = k by omega] at h;rw [h]; exact hbl6
   case measure => simp [intOf]; omega
  have hk0 : k = 0 := by omega
  subst hk0;have HN : Hid (val G9 (gs.drop 0) = N) := Lib.hid (by rw [List.drop_zero]; exact HV.out);go_wp2_with fail
  refine (Tryz.Builder_String_any w1.heap.size w1.heap.size _ wr hbl (by omega)).mono ?_;rintro e w7 ⟨rfl, hb7⟩;rw [HN.out];go_wp2_with fail
  go_ret
  exact ⟨rfl, hb.trans (hb7.mono hb1.size)⟩
theorem mul_bound {x y : Nat} (hx : x < 4294967296) (hy : y < 4294967296) : x * y <= 18446744065119617025 :=
 Nat.le_trans (Nat.mul_le_mul (show x <= 4294967295 by omega) (show y <= 4294967295 by omega)) (by decide)
theorem ws_part {w : World} {T : TypeId} {g i n : Nat} {P : List Nat} (hB : Blk w g .u32 T P) (hi : i < P.length) (hn : n = P.length - i) (hm : P.length <= 9223372036854775807) :
  Ws w .u32 T (.slice (some ⟨g, i, none⟩) n n) g (P.take i) (P.drop i) [] := by
 have e1 : (P.drop i).length = n := by simp; omega
 have e2 : (P.take i).length = i := by simp; omega
 refine ⟨some ⟨g, i, none⟩, n, by rw [e1], by rw [e1]; omega, by omega, (fun e => by cases e), fun _ => ⟨by rw [e2], ?_⟩⟩;rw [List.take_append_drop, List.append_nil]; exact hB
theorem ws_whole {w : World} {T : TypeId} {v : Value} {g : Nat} {pre s post : List Nat} (h : Ws w .u32 T v g pre s post) (h0 : s.length ≠ 0) : Blk w g .u32 T (pre ++ s ++ post) := by
 obtain ⟨_, _, _, _, _, _, h4⟩ := h; exact (h4 h0).2
def GN (w : World) (v : Value) (n k : Nat) : Prop := ∃ xs, Sl w .u32 v xs /\ Dig L32 xs /\ val L32 xs = n /\ xs.length <= k
theorem GN.below {w w' : World} {v : Value} {n k : Nat} (h : GN w v n k) (hb : Below w.heap.size w w') : GN w' v n k := by
 obtain ⟨xs, h1, h2, h3, h4⟩ := h; exact ⟨xs, h1.below hb, h2, h3, h4⟩
theorem GN.lt {w : World} {v : Value} {n k : Nat} (h : GN w v n k) : n < L32 ^ k := by
 obtain ⟨xs, _, h2, h3, h4⟩ := h;rw [<- h3]; exact Nat.lt_of_lt_of_le (val_lt h2) (Nat.pow_le_pow_right (by decide) h4)
theorem gn_dig {w : World} {v : Value} {n k : Nat} (h : Sl w .u32 v (dig L32 n)) (hn : n < L32 ^ k) : GN w v n k :=
 ⟨_, h, Dig_dig (by decide) _, val_dig (by decide) _, length_dig_le (by decide) hn⟩
def bl (n : Nat) : Nat := (dig 2 n).length
theorem bl_zero : bl 0 = 0 := by unfold bl; rw [dig_zero]; rfl
theorem bl_half {n : Nat} (h : 0 < n) : bl n = 1 + bl (n / 2) := by unfold bl; rw [dig_pos (by decide) h]; simp; omega
theorem bitLen_bl (n : Nat) (h : n < 2 ^ 64) : Lib.bitLen n = bl n := by
 induction n using Nat.strongRecOn with
 | ind n ih =>
  by_cases h0 : n = 0
  ·subst h0; rw [bl_zero]; decide
  rw [Lib.bitLen_half n h0 h, bl_half (by omega), ih (n / 2) (by omega) (by omega)]
theorem bl_top (k : Nat) : ∀ v t : Nat, v < 2 ^ k -> 0 < t -> bl (v + t * 2 ^ k) = k + bl t := by
 induction k with
 | zero => intro v t hv ht; simp at hv; subst hv; simp
 | succ k ih =>
  intro v t hv ht;have hp : 0 < 2 ^ (k + 1) := Nat.pow_pos (by decide);have hpos : 0 < v + t * 2 ^ (k + 1) := by have := Nat.mul_pos ht hp; omega
  rw [bl_half hpos];have e : (v + t * 2 ^ (k + 1)) / 2 = v / 2 + t * 2 ^ k := by rw [Nat.pow_succ, <- Nat.mul_assoc]; omega
  rw [e, ih (v / 2) t (by rw [Nat.pow_succ] at hv; omega) ht]
  omega
theorem bl_le {n k : Nat} (h : n < 2 ^ k) : bl n <= k := length_dig_le (by decide) h
theorem bits_nat (va : Value) (xs : List Nat) (w : World) (hx : Sl w .u32 va xs) (dx : Dig L32 xs) (lx : xs.length <= 1000000) :
  Calls Tryz.prog 99 #[va] w fun e w' => e = .returned (.int .i64 ((bl (val L32 xs) : Nat) : Int)) /\ w = w' := by
 have HX := Lib.hid hx;obtain ⟨ao, ac, rfl, a1, a2, a3, a4⟩ := hx;have nx := nz_le xs
 by_cases h0 : nz xs = 0
 ·have hv : val L32 xs = 0 := by rw [<- val_take_nz (B := L32) (by decide) dx, h0]; rfl
  have HV := Lib.hid hv;have hz : (((nz xs : Nat) : Int) == 0) = true := by rw [h0]; rfl
  clear h0 hv a4;go_enter Tryz.func99, Tryz.ntmps99
  go_wp2_with fail
  refine (sig_any _ _ _ xs _ HX.out).mono ?_; rintro e w' ⟨rfl, rfl⟩;go_wp2_with fail
  go_ret
  exact ⟨by rw [HV.out, bl_zero]; rfl, rfl⟩
 have hz : (((nz xs : Nat) : Int) == 0) = false := by rw [beq_eq_false_iff_ne]; omega
 have hp : 1 <= nz xs := by omega
 obtain ⟨a, rfl, hca⟩ := a4 (nz xs - 1) (by omega);have t1 := dx.getD (by decide) (nz xs - 1);have t2 := u32_wf dx (nz xs - 1);have hl : bl (xs.getD (nz xs - 1) 0) <= 32 := bl_le t1
 have hbl : Lib.bitLen (nth xs (nz xs - 1)).toNat = bl (xs.getD (nz xs - 1) 0) := by
  unfold nth; rw [Int.toNat_natCast]; exact bitLen_bl _ (Nat.lt_trans t1 (by decide))
 have htop : 0 < xs.getD (nz xs - 1) 0 := by
  rcases Nat.eq_zero_or_pos (xs.getD (nz xs - 1) 0) with h | h
  ·have h3 := nz_zero (xs := xs.take (nz xs)) (k := nz xs - 1) (by rw [List.length_take]; omega) (by simpa [List.getD, show nz xs - 1 < nz xs by omega] using h);have h5 : (dig L32 (val L32 xs)).length = nz xs := length_dig_val (by decide) dx;have h6 := take_nz (B := L32) (by decide) (Dig_dig (B := L32) (by decide) (val L32 xs));rw [val_dig (by decide)] at h6;have h7 := congrArg List.length h6;rw [List.length_take, h5, dig_val_take (by decide) dx] at h7
   have h8 : nz ((xs.take (nz xs)).take (nz xs - 1 + 1)) = nz (xs.take (nz xs)) := by
    rw [show nz xs - 1 + 1 = nz xs by omega, List.take_take, Nat.min_self]
   have h9 := nz_le ((xs.take (nz xs)).take (nz xs - 1));rw [List.length_take, List.length_take] at h9
   omega
  exact h
 have hfin : bl (val L32 xs) = (nz xs - 1) * 32 + bl (xs.getD (nz xs - 1) 0) := by
  have e := val_take_nz (B := L32) (by decide) dx;have e2 := val_take_succ' L32 xs (nz xs - 1);rw [show nz xs - 1 + 1 = nz xs by omega] at e2;have e3 : L32 ^ (nz xs - 1) = 2 ^ ((nz xs - 1) * 32) := by rw [Nat.mul_comm, Nat.pow_mul]
  have e4 := val_lt (dx.take (nz xs - 1));rw [List.length_take, Nat.min_eq_left (by omega), e3] at e4;rw [<- e, e2, e3, bl_top _ _ _ e4 htop]
 generalize bl (xs.getD (nz xs - 1) 0) = b at *;have HF := Lib.hid hfin;have HB := Lib.hid hbl;clear h0 a4 hbl hfin;go_enter Tryz.func99, Tryz.ntmps99
 go_wp2_with fail
 refine (sig_any _ _ _ xs _ HX.out).mono ?_; rintro e w' ⟨rfl, rfl⟩;go_wp2_with fail
 refine (Tryz.bits_Len32 _ _ (by omega) (by omega)).mono ?_; rintro e w' ⟨rfl, rfl⟩;rw [HB.out];go_wp2_with fail
 go_ret
 refine ⟨?_, rfl⟩;rw [HF.out, show (((nz xs - 1) * 32 + b : Nat) : Int) = (((nz xs : Nat) : Int) - 1) * 32 + (b : Int) by omega]
 rfl
theorem bits_n {va : Value} {n k : Nat} {w : World} (hx : GN w va n k) (hk : k <= 1000000) :
  Calls Tryz.prog 99 #[va] w fun e w' => e = .returned (.int .i64 ((bl n : Nat) : Int)) /\ w = w' := by
 obtain ⟨xs, hx, dx, rfl, lx⟩ := hx;exact bits_nat _ _ w hx dx (by omega)
theorem getD_set (P : List Nat) (i v t : Nat) : (P.set i v).getD t 0 = if t = i /\ i < P.length then v else P.getD t 0 := by
 by_cases h : t = i
 ·subst h
  by_cases hl : t < P.length
  ·simp [List.getD, hl]
  simp [List.getD, hl]
 rw [List.getD_eq_getElem?_getD, List.getElem?_set_ne (fun e => h e.symm), <- List.getD_eq_getElem?_getD, if_neg (by simp [h])]
def Keeps (w w' : World) : Prop := ∀ a k z, w.cell? a = some (.int k z) -> w'.cell? a = some (.int k z)
def noInt (c : Array Value) : Bool := c.toList.all fun v => match v with | .int .. => false | _ => true
structure Priv (g : Nat) (w w' : World) : Prop where
 os : w'.os = w.os
 tape : w'.tape = w.tape
 output : w'.output = w.output
 size : w'.heap.size = w.heap.size
 block : ∀ k, k ≠ g -> w'.heap[k]? = w.heap[k]?
 keeps : Keeps w w'
 shape : ∀ c T, w.heap[g]? = some (.cells c T (0, 0)) -> noInt c = true -> ∃ c', w'.heap[g]? = some (.cells c' T (0, 0)) /\ c'.size = c.size /\ noInt c' = true
theorem cell_at {w : World} {g : Nat} {c : Array Value} {T : TypeId} (h : w.heap[g]? = some (.cells c T (0, 0))) (i : Nat) {v : Value} (hv : c[i]? = some v) : w.cell? ⟨g, i, none⟩ = some v := by
 rw [cell_of_row w g i _ T (0, 0) h]; exact hv
theorem froz_at {w : World} {g : Nat} {c : Array Value} {T : TypeId} (h : w.heap[g]? = some (.cells c T (0, 0))) (i : Nat) : w.frozen? ⟨g, i, none⟩ = false := frozen_of_row w g i _ T h
theorem made_at (W : World) (o : Obj) (g : Nat) (h : W.heap.size = g) : (W.alloc o).heap[g]? = some o := by
 subst h
 show (W.heap.push o)[W.heap.size]? = some o
 simp
namespace Rely
abbrev Fact := (Nat -> Value) -> Value -> World -> Prop
def mask (L : List Nat) (x : Nat -> Value) : Nat -> Value := fun j => if L.contains j then x j else undef
def upd (x : Nat -> Value) (k : Nat) (v : Value) : Nat -> Value := fun j => if j = k then v else x j
def dstOf (ops : List Oper) (j : Nat) : Option Tmp := (ops[j]?).bind (·.dst)
def dep (D : List (List Nat)) (k : Nat) : List Nat := D.getD k []
def ok (ops : List Oper) (D : List (List Nat)) (m size : Nat) : Bool :=
 decide (m <= ops.length) && (List.range ops.length).all fun k =>
  match ops[k]? with
  | none => false
  | some o =>
   (o.after.all fun e => !Region.binds .any e || decide (e.on < k)) &&
   ((dep D k).all fun j => (o.after.any fun e => Region.binds .any e && (e.on == j || (dep D e.on).contains j)) && ((dep D j).all fun i => (dep D k).contains i) && decide (j < k)) &&
   (decide (k < m) || (List.range m).all fun j => (dep D k).contains j) &&
   (match o.dst with | none => true | some d => decide (d < size) && (List.range k).all fun j => dstOf ops j != some d)
def okSt (ops : List Oper) (D : List (List Nat)) (al : List Nat) (st : List (Nat × Nat)) (nq : Nat) : Bool :=
 (List.range ops.length).all fun k => match st.lookup k with
  | none => true
  | some i => (if i < 1000 then (dep D k).contains i && al.contains i else decide (i - 1000 < nq)) && (List.range ops.length).all fun j => j == k || st.lookup j != some i
def pre (ops : List Oper) (D : List (List Nat)) (k t : Nat) : Bool :=
 (List.range ops.length).all fun j => dstOf ops j != some t || j == k || (dep D j).contains k
def fill : List Oper -> (Nat -> Value) -> Nat -> Array Value -> Array Value
 | [], _, _, t => t
 | o :: l, x, k, t => fill l x (k + 1) (match o.dst with | some d => t.setIfInBounds d (x k) | none => t)
def noQ : Exit -> Act -> World -> Prop := fun _ _ _ => False
def fact (F : List Fact) (j : Nat) : Fact := (F.reverse[j]?).getD fun _ _ _ => True
section
variable (P : Program) (ops : List Oper) (D : List (List Nat)) (al : List Nat) (st : List (Nat × Nat)) (og : Nat -> Nat) (nq : Nat) (t0 : Array Value) (ds : List Deferred) (w0 : World)
def own (k : Nat) : Option Nat := st.lookup k
def tv (x : Nat -> Value) (i : Nat) : Value := if i < 1000 then x i else .pointer (some ⟨og (i - 1000), 0, none⟩)
structure At (F : Nat -> Fact) (k : Nat) (T : Array Value) (x : Nat -> Value) (w : World) : Prop where
 be : ∀ B, B <= w0.heap.size -> (∀ q, q < nq -> B <= og q) -> Below B w0 w
 bl : ∀ b, b < w0.heap.size -> (∀ q, q < nq -> og q ≠ b) -> w.heap[b]? = w0.heap[b]?
 kp : Keeps w0 w
 od : ∀ q, q < nq -> (∀ k', own st k' = some (1000 + q) -> k' = k \/ (dep D k').contains k = true) -> w.heap[og q]? = w0.heap[og q]?
 tm : ∀ j d, (dep D k).contains j = true -> dstOf ops j = some d -> T[d]? = some (x j)
 fa : ∀ j, (dep D k).contains j = true -> F j (mask (dep D j) x) (x j) w
 pre : ∀ t, Rely.pre ops D k t = true -> T[t]? = t0[t]?
structure Next (V : Fact) (k : Nat) (x : Nat -> Value) (w : World) (v : Value) (w' : World) : Prop where
 is : V x v w'
 bw : own st k = none -> Below w.heap.size w w'
 pv : ∀ i, own st k = some i -> ∃ g, tv og x i = .pointer (some ⟨g, 0, none⟩) /\ Priv g w w'
 al : al.contains k = true -> ∃ g, v = .pointer (some ⟨g, 0, none⟩) /\ w.heap.size <= g /\ g < w'.heap.size
def Runs (F : Nat -> Fact) (k : Nat) (o : Oper) (V : Fact) : Prop :=
 ∀ (T : Array Value) (x : Nat -> Value) (w : World), At ops D st og nq t0 w0 F k T x w ->
  ∀ K : Act -> World -> Prop, Hid (∀ v w', Next al st og V k x w v w' -> K ((⟨T, ds⟩ : Act).put o.dst v) w') ->
   if Region.wanted o (yielded ops.toArray T) = true then o.wp P ⟨T, ds⟩ w K noQ else K ((⟨T, ds⟩ : Act).put o.dst undef) w
def Stays (k : Nat) (V : Fact) : Prop := (∀ x v w w', V x v w -> Below w.heap.size w w' -> V x v w') /\ (st ≠ [] -> ∀ x v w w' g, V x v w -> (∀ i, own st k = some i -> tv og x i ≠ .pointer (some ⟨g, 0, none⟩)) -> Priv g w w' -> V x v w')
def Left (F : Nat -> Fact) (m : Nat) (x : Nat -> Value) (w : World) : Prop :=
 ((∀ B, B <= w0.heap.size -> (∀ q, q < nq -> B <= og q) -> Below B w0 w) /\ (∀ b, b < w0.heap.size -> (∀ q, q < nq -> og q ≠ b) -> w.heap[b]? = w0.heap[b]?) /\ Keeps w0 w) /\ (∀ j, j < m -> F j (mask (dep D j) x) (x j) w) /\
 (∀ i, al.contains i = true -> i < m -> ∃ g, x i = .pointer (some ⟨g, 0, none⟩) /\ w0.heap.size <= g /\ g < w.heap.size) /\
 (∀ i j, al.contains i = true -> al.contains j = true -> i < m -> j < m -> i ≠ j -> x i ≠ x j)
def Chain (m : Nat) (G : (Nat -> Value) -> World -> Prop) : List Oper -> Nat -> List Fact -> Prop
 | [], k, F => k = m /\ ∀ x w, Left D al og nq w0 (fact F) m x w -> G x w
 | o :: rest, k, F => (k = m /\ ∀ x w, Left D al og nq w0 (fact F) m x w -> G x w) \/
  ∃ V, Stays st og k V /\ Runs P ops D al st og nq t0 ds w0 (fact F) k o V /\ Chain m G rest (k + 1) (V :: F)
variable {P ops D al st og nq t0 ds w0}
def plain (al : List Nat) (st : List (Nat × Nat)) (k : Nat) : Bool := !al.contains k && (own st k).isNone
structure Inv (H : Nat -> Fact) (m : Nat) (listed : Array Bool) (a : Act) (w : World) (x : Nat -> Value) : Prop where
 tm : ∀ j d, listed.getD j false = true -> dstOf ops j = some d -> a.tmps[d]? = some (x j)
 pre : ∀ t, (∀ j, listed.getD j false = true -> dstOf ops j ≠ some t) -> a.tmps[t]? = t0[t]?
 sz : a.tmps.size = t0.size
 df : a.defers = ds
 be : ∀ B, B <= w0.heap.size -> (∀ q, q < nq -> B <= og q) -> Below B w0 w
 bl : ∀ b, b < w0.heap.size -> (∀ q, q < nq -> og q ≠ b) -> w.heap[b]? = w0.heap[b]?
 kp : Keeps w0 w
 od : ∀ q, q < nq -> (∀ k', listed.getD k' false = true -> own st k' ≠ some (1000 + q)) -> w.heap[og q]? = w0.heap[og q]?
 sw : w0.heap.size <= w.heap.size
 ls : listed.size = ops.length
 dn : ∀ j, listed.getD j false = true -> ∀ i, (dep D j).contains i = true -> listed.getD i false = true
 lt : ∀ j, listed.getD j false = true -> j < m
 fa : ∀ j, listed.getD j false = true -> H j (mask (dep D j) x) (x j) w
 pt : ∀ i, al.contains i = true -> listed.getD i false = true -> ∃ g, x i = .pointer (some ⟨g, 0, none⟩) /\ w0.heap.size <= g /\ g < w.heap.size
 ne : ∀ i j, al.contains i = true -> al.contains j = true -> listed.getD i false = true -> listed.getD j false = true -> i ≠ j -> x i ≠ x j
section
variable {m size : Nat} (hok : ok ops D m size = true)
include hok
end
section
variable {m : Nat} {Q : Exit -> Act -> World -> Prop} {H : Nat -> Fact}
def Rest (P : Program) (ops : List Oper) (Q : Exit -> Act -> World -> Prop) (t0 : Array Value) (ds : List Deferred) (m : Nat) (x : Nat -> Value) (w : World) : Prop :=
 wpAny P .any ops.toArray Q (ops.length - m) (List.replicate m true ++ List.replicate (ops.length - m) false).toArray ⟨fill (ops.take m) x 0 t0, ds⟩ w
end
end
end Rely
open Classical in
theorem bl_pos {n : Nat} (h : 0 < n) : 0 < bl n := by rw [bl_half h]; omega
theorem snoc_ind {α : Type} {P : List α -> Prop} (h0 : P []) (h1 : ∀ l c, P l -> P (l ++ [c])) : ∀ l, P l := by
 intro l;rw [<- List.reverse_reverse l]
 induction l.reverse with
 | nil => exact h0
 | cons c r ih => rw [List.reverse_cons]; exact h1 _ _ ih
def dn (l : List UInt8) : Nat := l.foldl (fun n c => 10 * n + (c.toNat - 48)) 0
def AllD (l : List UInt8) : Prop := ∀ c ∈ l, 48 <= c.toNat /\ c.toNat <= 57
theorem dn_snoc (l : List UInt8) (c : UInt8) : dn (l ++ [c]) = 10 * dn l + (c.toNat - 48) := by
 unfold dn; rw [List.foldl_append]; rfl
theorem AllD.left {l m : List UInt8} (h : AllD (l ++ m)) : AllD l := fun c hc => h c (List.mem_append_left _ hc)
theorem AllD.right {l m : List UInt8} (h : AllD (l ++ m)) : AllD m := fun c hc => h c (List.mem_append_right _ hc)
theorem AllD.take {l : List UInt8} (h : AllD l) (n : Nat) : AllD (l.take n) := fun c hc => h c (List.mem_of_mem_take hc)
theorem dn_append (l : List UInt8) : ∀ m : List UInt8, dn (l ++ m) = dn l * 10 ^ m.length + dn m := by
 refine snoc_ind (by simp [dn]) fun m c ih => ?_
 rw [<- List.append_assoc, dn_snoc, dn_snoc, ih, lsa, List.length_singleton, Nat.pow_succ];generalize 10 ^ m.length = p;have : dn l * (p * 10) = 10 * (dn l * p) := by grind
 omega
theorem dn_lt : ∀ {l : List UInt8} (_ : AllD l), dn l < 10 ^ l.length := by
 intro l;refine snoc_ind (P := fun l => AllD l -> dn l < 10 ^ l.length) (by simp [dn]) (fun m c ih h => ?_) l;have h1 := ih h.left;have h2 := h c (List.mem_append_right _ (List.mem_singleton.2 rfl));rw [dn_snoc, lsa, List.length_singleton, Nat.pow_succ]
 omega
theorem dec_dn : ∀ {l : List UInt8}, AllD l -> l.getD 0 48 ≠ 48 -> 0 < dn l /\ Lib.decDigits (dn l) = l := by
 intro l;refine snoc_ind (P := fun l => AllD l -> l.getD 0 48 ≠ 48 -> 0 < dn l /\ Lib.decDigits (dn l) = l) (by intro _ h; simp at h) (fun m c ih h hne => ?_) l;have hc := h c (List.mem_append_right _ (List.mem_singleton.2 rfl))
 have e0 : UInt8.ofNat (48 + (c.toNat - 48)) = c := by
  rw [show 48 + (c.toNat - 48) = c.toNat by omega]; exact UInt8.ofNat_toNat
 rw [dn_snoc]
 cases m with
 | nil =>
  have hc0 : c ≠ 48 := by simpa using hne
  have hc1 : c.toNat ≠ 48 := fun e => hc0 (UInt8.toNat_inj.1 e)
  refine ⟨by omega, ?_⟩;rw [show dn [] = 0 from rfl, Lib.decDigits_one (by omega), show 48 + (10 * 0 + (c.toNat - 48)) = 48 + (c.toNat - 48) by omega, e0]
  rfl
 | cons a m =>
  obtain ⟨h1, h2⟩ := ih h.left (by simpa using hne);refine ⟨by omega, ?_⟩;have h3 := decDigits_pad 1 (dn (a :: m)) (c.toNat - 48) h1 (by omega);rw [show 10 * dn (a :: m) + (c.toNat - 48) = dn (a :: m) * 10 ^ 1 + (c.toNat - 48) by omega, h3, h2];simp only [pad, List.nil_append];rw [show (c.toNat - 48) % 10 = c.toNat - 48 by omega, e0]
def Numeral (l : List UInt8) : Prop := l ≠ [] /\ l.length <= 300 /\ (1 < l.length -> l.getD 0 48 ≠ 48) /\ AllD l
theorem Numeral.text {l : List UInt8} (h : Numeral l) : Lib.decDigits (dn l) = l := by
 obtain ⟨h1, h2, h3, h4⟩ := h
 by_cases h0 : l.getD 0 48 = 48
 ·match l, h1, h3, h4, h0 with
  | [c], _, _, _, h0 =>
   have : c = 48 := by simpa using h0
   subst this;rw [show dn [48] = 0 from rfl, Lib.decDigits_one (by decide)]
   rfl
  | a :: b :: m, _, h3, _, h0 => exact absurd h0 (h3 (by simp))
 exact (dec_dn h4 h0).2
end Go.Proofs.YtdpfgfkoboihcaaGreatDoor
namespace Go.Proofs.YtdpfgfkoboihcaaGreatDoor
open Go.RowKit Go.Sort Go.Lib
set_option maxRecDepth 100000
theorem holds_zero0 (w : World) (T : TypeId) (nd : Nat) (hs : nd <= 24) : Holds (fun (b : UInt8) => Value.int .u8 (b.toNat : Int)) (w.alloc (.cells Lib.zeros24 T)) w.heap.size 0 (Array.replicate nd (0 : UInt8)) := fun j hj => by
 have hj' : j < nd := by simpa using hj
 refine ⟨?_, World.frozen?_alloc_new _ _ _ _⟩;rw [World.cell?_alloc_new, Lib.zeros24_at _ (by omega), getElem!_pos _ j hj]
 simp
theorem below_putRow (w : World) (o : Obj) (dk : Array UInt8) (k : Nat) : Below w.heap.size w ((putRow (fun (b : UInt8) => Value.int .u8 (b.toNat : Int)) (w.alloc o) w.heap.size 0 dk).drewN k) := by
 rw [alloc_eq_grow];obtain ⟨os', _, e⟩ := putRow_grow_new (fun (b : UInt8) => Value.int .u8 (b.toNat : Int)) w #[o] w.heap.size 0 dk (Nat.le_refl _);rw [e];exact ⟨rfl, rfl, rfl, by show w.heap.size <= (w.heap ++ os').size; rw [Array.size_append]; omega, fun i hi => heap_grow_old w os' hi⟩
set_option maxRecDepth 100000 in
theorem fmt65 (u : Nat) (h1 : 100 ≤ u) (hu64 : u < 18446744073709551616) (w : World) (htab : Lib.TabIs Tryz.prog w "internal/strconv.uint64pow10" .u64 Lib.pow10Tab) :
  Calls Tryz.prog 127 #[.int .u64 u, .int .i64 10] w fun e w' => e = .returned (.string ⟨(Lib.decDigits u).toArray⟩) /\ Below w.heap.size w w' := by
 have hnd20 : Lib.nDigits u <= 20 := by have := Lib.numDigits_eq u (by omega) hu64; split at this <;> omega
 have hal : Tryz.prog.arrayLen 203 = 24 := by simp [Program.arrayLen, Tryz.underlying203]
 have hsl1 : ∀ W, (Instr.sliceAt 203 (.pointer (some ⟨w.heap.size, 0, none⟩)) none (some (.int .i64 (Lib.nDigits u : Int))) none).run Tryz.prog W = .ok (.slice (some ⟨w.heap.size, 0, none⟩) (Lib.nDigits u) 24) W := fun W => by
  rw [run_sliceAt_array_h W 203 ⟨w.heap.size, 0, none⟩ (by simp [Program.arrayLen, Program.elem, Tryz.underlying203]) .i64 (Lib.nDigits u : Int) (by omega) (by rw [hal]; omega)];go_simp
  try omega
 have hH0 := holds_zero0 w 203 (Lib.nDigits u) (by omega);have hfmt := Tryz.internal_strconv_formatBase10 w.heap.size 0 24 u (Array.replicate (Lib.nDigits u) 0) (w.alloc (.cells Lib.zeros24 203)) hH0 (by rw [Array.size_replicate]; exact Lib.lt_pow_nDigits u) hu64 (by rw [Array.size_replicate]; omega);rw [Array.size_replicate] at hfmt;have HH0 := Lib.hid hH0;have HFMT := Lib.hid hfmt;clear hH0 hal hfmt;go_enter Tryz.func127, Tryz.ntmps127
 go_wp2_with fail
 refine (Tryz.internal_strconv_numDigits u (by omega) hu64 _ (Lib.tabIs_alloc htab _)).mono ?_; rintro e w' ⟨rfl, rfl⟩;go_wp2_with fail
 refine HFMT.out.mono ?_;rintro e w' ⟨rfl, k, v', dk, rfl, hF⟩
 have hcv : (convert 93 9 (.slice (some ⟨w.heap.size, 0, none⟩) (Lib.nDigits u) 24)).run Tryz.prog ((putRow (fun (b : UInt8) => Value.int .u8 (b.toNat : Int)) (w.alloc (.cells Lib.zeros24 203)) w.heap.size 0 dk).drewN k) = .ok (.string ⟨(Lib.decDigits u).toArray⟩) ((putRow (fun (b : UInt8) => Value.int .u8 (b.toNat : Int)) (w.alloc (.cells Lib.zeros24 203)) w.heap.size 0 dk).drewN k) := by
  have h := run_convert_bytes_back (P := Tryz.prog) ((putRow (fun (b : UInt8) => Value.int .u8 (b.toNat : Int)) (w.alloc (.cells Lib.zeros24 203)) w.heap.size 0 dk).drewN k) 93 9 5 ⟨w.heap.size, 0, none⟩ 24 (Lib.decDigits u) Tryz.underlying93 Tryz.underlying5 Tryz.underlying9 (fun j hj => by
   rw [Lib.row_is_numeral hF j hj, Lib.add_plain, World.cell?_drewN]
   exact cell?_putRow (fun (b : UInt8) => Value.int .u8 (b.toNat : Int)) _ w.heap.size 0 _ dk HH0.out (by rw [hF.size, Array.size_replicate]) j (by rw [hF.size]; rw [Lib.decDigits_length] at hj; exact hj))
  rw [Lib.decDigits_length] at h;exact h
 have HB := Lib.hid (below_putRow w (.cells Lib.zeros24 203) dk k);go_wp2_with fail
 go_ret
 exact ⟨rfl, HB.out⟩
theorem tab_below {w w' : World} {name : String} {k : IntKind} {zs : List Int} (h : Lib.TabIs Tryz.prog w name k zs) (hb : Below w.heap.size w w') : Lib.TabIs Tryz.prog w' name k zs := by
 unfold Lib.TabIs World.var? at *
 cases hg : Tryz.prog.globalNamed name with
 | none => simp [hg] at h
 | some g =>
  simp only [hg, Option.bind_some] at h ⊢
  have hlt : g < w.heap.size := by
   rcases Nat.lt_or_ge g w.heap.size with h' | h'
   ·exact h'
   rw [Array.getElem?_eq_none h'] at h; simp at h
  rw [hb.block g hlt];exact h
theorem fmt55 (u : Nat) (hu64 : u < 18446744073709551616) (w : World) (htab : Lib.TabIs Tryz.prog w "internal/strconv.uint64pow10" .u64 Lib.pow10Tab) :
  Calls Tryz.prog 101 #[.int .u64 u, .int .i64 10] w fun e w' => e = .returned (.string ⟨(Lib.decDigits u).toArray⟩) /\ Below w.heap.size w w' := by
 by_cases h : u < 100
 ·refine (fmt_small u _ rfl h w).mono ?_;rintro e w' ⟨rfl, rfl⟩;exact ⟨rfl, Below.refl _ _⟩
 have HF := Lib.hid (fmt65 u (by omega) hu64 w htab);clear h htab;go_enter Tryz.func101, Tryz.ntmps101
 go_wp2_with fail
 refine HF.out.mono ?_; rintro e w' ⟨rfl, hb⟩;go_wp2_with fail
 go_ret
 exact ⟨rfl, hb⟩
theorem fmtAt {w : World} (htab : Lib.TabIs Tryz.prog w "internal/strconv.uint64pow10" .u64 Lib.pow10Tab) : FmtAt w (fun i => i < 18446744073709551616) :=
 fun w' i z hb hz hi => by
  subst hz;exact fmt55 i hi w' (tab_below htab hb)
theorem text_any (va : Value) (xs : List Nat) (w : World) (htab : Lib.TabIs Tryz.prog w "internal/strconv.uint64pow10" .u64 Lib.pow10Tab) (hx : Sl w .u32 va xs) (dx : Dig L32 xs) (lx : xs.length ≤ 10000) :
  Calls Tryz.prog 67 #[va] w fun e w' => e = .returned (.string ⟨(Lib.decDigits (val L32 xs)).toArray⟩) /\ Below w.heap.size w w' :=
 text_gen _ va xs w (fmtAt htab) hx dx lx (fun g hg _ => by have hG : G9 = 1000000000 := rfl; show g < 18446744073709551616; omega) (fun _ g hg => by have hG : G9 = 1000000000 := rfl; show G9 + g < 18446744073709551616; omega)
end Go.Proofs.YtdpfgfkoboihcaaGreatDoor
namespace Go.Proofs.YtdpfgfkoboihcaaGreatDoor
open Go.RowKit
set_option maxRecDepth 100000
theorem dn_take_succ (l : List UInt8) (k : Nat) (h : k < l.length) : dn (l.take (k + 1)) = 10 * dn (l.take k) + (l[k].toNat - 48) := by
 rw [List.take_succ_eq_append_getElem h, dn_snoc]
theorem at_bytes (l : List UInt8) (k : Nat) (h : k < (⟨l.toArray⟩ : ByteArray).size) : (⟨l.toArray⟩ : ByteArray)[k] = l[k]'h := rfl
theorem number_any (l : List UInt8) (w : World) (hd : AllD l) (hl : l.length <= 9) :
  Calls Tryz.prog 176 #[.string ⟨l.toArray⟩] w fun e w' => e = .returned (.int .u32 ((dn l : Nat) : Int)) /\ w' = w := by
 have hsz : (⟨l.toArray⟩ : ByteArray).size = l.length := rfl;go_enter Tryz.func176, Tryz.ntmps176
 go_wp2
 go_loopw [3, 7] (fun c i wr => ∃ k : Nat, i = .int .i64 k /\ c = .int .u32 ((dn (l.take k) : Nat) : Int) /\ k <= l.length /\ wr = w) (fun _ i _ => l.length - (intOf i).toNat)
 case atStart => exact ⟨0, rfl, rfl, Nat.zero_le _, rfl⟩
 case round =>
  obtain ⟨k, rfl, rfl, hk, rfl⟩ := hrel
  by_cases hlt : k < l.length
  ·have h1 := hd l[k] (List.getElem_mem hlt);have h2 := dn_lt (hd.take k);have h3 : 10 ^ (l.take k).length <= 10 ^ 8 := Nat.pow_le_pow_right (by decide) (by rw [List.length_take]; omega);have HS := Lib.hid (dn_take_succ l k hlt);have H1 := Lib.hid h1;have hm : dn (l.take k) < 100000000 := by have h4 : 10 ^ 8 = 100000000 := rfl; omega
   clear h1 h2 h3
   go_wp2
   go_roundw
   case rel =>
    refine ⟨k + 1, by go_num, ?_, by omega, by trivial⟩;have h1 := H1.out;rw [at_bytes, HS.out]
    congr 1
    omega
   case measure => simp [intOf]; omega
  have hk0 : k = l.length := by omega
  subst hk0;have HT := Lib.hid (List.take_length (l := l))
  go_wp2
  go_ret
  exact ⟨by rw [<- HT.out]; simp, rfl⟩
theorem mulAdd_step {B : Nat} {t s : List Nat} {m n k c z : Nat} (ht : k < t.length) (hv : val B (t.take k) + c * B ^ k = m * val B (s.take k) + n) (hz : z = c + m * s.getD k 0) :
  val B ((t.set k (z % B)).take (k + 1)) + z / B * B ^ (k + 1) = m * val B (s.take (k + 1)) + n := by
 have e1 : (t.set k (z % B)).take k = t.take k := List.take_set_of_le (by omega);have e2 : (t.set k (z % B)).getD k 0 = z % B := by simp [List.getD, ht]
 rw [val_take_succ' B (t.set k (z % B)) k, val_take_succ' B s k, e1, e2, Nat.pow_succ];have h2 := Nat.mod_add_div z B;generalize z % B = r at *;generalize z / B = q at *;generalize B ^ k = P at *;have h3 : (r + B * q) * P = (c + m * s.getD k 0) * P := by rw [h2, hz]
 grind
theorem mulAdd_any (g : Nat) (pre s post : List Nat) (vs : Value) (m n : Nat) (w : World) (hw : Ws w .u32 138 vs g pre s post) (hs : Dig L32 s) (hm : m < 4294967296) (hn : n < 4294967296) (hlt : m * val L32 s + n < L32 ^ s.length) :
  Calls Tryz.prog 175 #[vs, .int .u32 m, .int .u32 n] w fun e w' => ∃ s', e = .returned (.tuple #[]) /\ Ws w' .u32 138 vs g pre s' post /\ w.grownBy w' (some g) /\ s'.length = s.length /\ Dig L32 s' /\
   val L32 s' = m * val L32 s + n := by
 have HLT := Lib.hid hlt;clear hlt;obtain ⟨ao, cap, rfl, h1, h2, h3, h4⟩ := hw;go_enter Tryz.func175, Tryz.ntmps175
 go_wp2
 go_loopw [6, 13] (fun c i wr => ∃ (k : Nat) (t : List Nat) (cc : Nat), i = .int .i64 k /\ c = .int .u64 (cc : Int) /\ cc < 4294967296 /\ k <= s.length /\ w.grownBy wr (some g) /\ Hid (t.length = s.length) /\ Dig 4294967296 t /\
   WsAt wr .u32 138 ao g pre t post s.length /\ Hid (t.drop k = s.drop k) /\ Hid (val L32 (t.take k) + cc * L32 ^ k = m * val L32 (s.take k) + n))
  (fun _ i _ => s.length - (intOf i).toNat)
 case atStart => exact ⟨0, s, n, rfl, rfl, hn, by omega, World.grownBy.refl _ _, Lib.hid rfl, hs, h4, Lib.hid rfl, Lib.hid (by simp [val])⟩
 case round =>
  obtain ⟨k, t, cc, rfl, rfl, hcc, hk, hg, Ht, hdt, hB, HD, HV⟩ := hrel
  by_cases hlt : k < s.length
  ·obtain ⟨rfl, hB'⟩ := hB (by omega);have hkt : k < t.length := by have := Ht.out; omega
   have hsk : t.getD k 0 = s.getD k 0 := by
    have := congrArg (fun l => l.getD 0 0) HD.out
    simpa [List.getD, List.getElem?_drop] using this
   have hct : wr.cell? ⟨g, pre.length + k, none⟩ = some (.int .u32 (nth s k)) := by
    rw [hB'.cell (by simp; omega), nth_mid _ _ _ _ hkt]; unfold nth; rw [hsk]
   have hft := hB'.frozen (pre.length + k);have t1 := u32_wf hs k;have t0 := hs.getD (by decide) k
   have hmm : 0 <= (m : Int) * nth s k /\ (m : Int) * nth s k <= 18446744065119617025 := by
    have := mul_bound hm t0;have e : (m : Int) * nth s k = ((m * s.getD k 0 : Nat) : Int) := by unfold nth; simp
    rw [e]; omega
   have HE := Lib.hid (show (cc : Int) + (m : Int) * nth s k = ((cc + m * s.getD k 0 : Nat) : Int) by unfold nth; simp);have HZ := Lib.hid (show cc + m * s.getD k 0 < 18446744073709551616 by have := mul_bound hm t0; omega);have HS := Lib.hid (mulAdd_step (B := L32) hkt HV.out rfl);clear hB h4 t0 hsk
   go_wp2
   go_roundw
   case rel =>
    have hE := HE.out;have hz := HZ.out;refine ⟨k + 1, t.set k ((cc + m * s.getD k 0) % L32), (cc + m * s.getD k 0) / L32, by go_num, ?_, ?_, by omega, grown_setCell hg _, Lib.hid (by rw [List.length_set]; exact Ht.out), hdt.set (Nat.mod_lt _ (by decide)), fun _ => ⟨rfl, ?_⟩, Lib.hid ?_, HS⟩
    ·rw [hE]; congr 1
    ·exact Nat.div_lt_of_lt_mul (by omega)
    ·rw [<- set_mid _ _ _ _ _ hkt];exact hB'.set _ _ _ (by rw [hE]; rfl)
    rw [List.drop_set_of_lt (by omega)];have := congrArg (List.drop 1) HD.out
    rwa [List.drop_drop, List.drop_drop] at this
   case measure => simp [intOf]; omega
  have hkk : k = s.length := by omega
  subst hkk;have hv := HV.out;rw [List.take_length, List.take_of_length_le (by have := Ht.out; omega)] at hv
  have hc0 : cc = 0 := by
   rcases Nat.eq_zero_or_pos cc with h | h
   ·exact h
   have := Nat.mul_le_mul_right (L32 ^ s.length) h;have := HLT.out
   omega
  have HF := Lib.hid (show val L32 t = m * val L32 s + n by rw [hc0] at hv; omega);have hfin : Ws wr .u32 138 (.slice ao s.length cap) g pre t post := ⟨ao, cap, by rw [Ht.out], by rw [Ht.out]; exact h1, h2, h3, by rw [Ht.out]; exact hB⟩
  clear hv h4 hc0
  go_wp2
  go_end0
  exact ⟨t, rfl, hfin, hg, Ht.out, hdt, HF.out⟩
theorem isNum_true (l : List UInt8) (w : World) (h : Numeral l) :
  Calls Tryz.prog 174 #[.string ⟨l.toArray⟩] w fun e w' => e = .returned (.bool true) /\ w' = w := by
 have hsz : (⟨l.toArray⟩ : ByteArray).size = l.length := rfl;obtain ⟨h1, h2, h3, h4⟩ := h;have hp : 0 < l.length := List.length_pos_iff.2 h1;have hz : ((l.length : Int) == 0) = false := by rw [beq_eq_false_iff_ne]; omega
 have hx : l.length <= 1 \/ 1 < l.length /\ ((((⟨l.toArray⟩ : ByteArray)[0]'hp).toNat : Int) == 48) = false := by
  by_cases hl : l.length <= 1
  ·exact .inl hl
  refine .inr ⟨by omega, ?_⟩;have := h3 (by omega);rw [at_bytes, beq_eq_false_iff_ne];intro e;have e2 : l[0].toNat = 48 := by omega
  exact this (by simp only [List.getD_eq_getElem?_getD, List.getElem?_eq_getElem hp, Option.getD_some]; exact UInt8.toNat_inj.1 e2)
 have H4 := Lib.hid h4;clear h1 h3 h4;go_enter Tryz.func174, Tryz.ntmps174
 rcases hx with hx | ⟨hx1, hx2⟩
 all_goals go_wp2
 all_goals go_loopw [24] (fun i wr => ∃ k : Nat, i = .int .i64 k /\ k <= l.length /\ wr = w) (fun i _ => l.length - (intOf i).toNat)
 case atStart => exact ⟨0, rfl, Nat.zero_le _, rfl⟩
 case atStart => exact ⟨0, rfl, Nat.zero_le _, rfl⟩
 all_goals
  obtain ⟨k, rfl, hk, rfl⟩ := hrel
  by_cases hlt : k < l.length
  ·have hk1 : 48 <= ((⟨l.toArray⟩ : ByteArray)[k]'hlt).toNat /\ ((⟨l.toArray⟩ : ByteArray)[k]'hlt).toNat <= 57 := H4.out l[k] (List.getElem_mem hlt)
   go_wp2
   go_roundw
   case rel => exact ⟨k + 1, by go_num, by omega, by trivial⟩
   case measure => simp [intOf]; omega
  go_wp2
  go_ret
  exact ⟨rfl, rfl⟩
theorem extract_take (l : List UInt8) (k : Nat) : (⟨l.toArray⟩ : ByteArray).extract 0 k = ⟨(l.take k).toArray⟩ := by
 apply ByteArray.ext
 simp
theorem extract_drop (l : List UInt8) (k : Nat) : (⟨l.toArray⟩ : ByteArray).extract k l.length = ⟨(l.drop k).toArray⟩ := by
 apply ByteArray.ext
 simp [List.take_of_length_le]
theorem parse_sum {pre grp : List UInt8} (h : pre = [] \/ grp.length = 9) : 1000000000 * dn pre + dn grp = dn (pre ++ grp) := by
 rw [dn_append];rcases h with rfl | h
 ·simp [dn]
 rw [h, show 10 ^ 9 = 1000000000 from rfl, Nat.mul_comm]
theorem parse_room {l m : List UInt8} (hm : AllD m) (h : m.length <= l.length) : dn m < L32 ^ (l.length / 9 + 1) := by
 have h1 := dn_lt hm;have h2 : 10 ^ m.length <= 10 ^ (9 * (l.length / 9 + 1)) := Nat.pow_le_pow_right (by decide) (by omega);have h3 : 10 ^ (9 * (l.length / 9 + 1)) <= L32 ^ (l.length / 9 + 1) := by rw [Nat.pow_mul]; exact Nat.pow_le_pow_left (by decide) _
 omega
def sizeOfS : Value -> Nat
 | .string b => b.size
 | _ => 0
def sg (b : Bool) (n : Nat) : Int := if b then -(n : Int) else (n : Int)
theorem sg_natAbs (b : Bool) (n : Nat) : (sg b n).natAbs = n := by cases b <;> simp [sg]
def GI (w : World) (v : Value) (z : Int) (k : Nat) : Prop := ∃ b va n, v = .agg #[.bool b, va] /\ GN w va n k /\ z = sg b n
def CI (w : World) (v : Value) (z : Int) (k : Nat) : Prop := ∃ va, v = .agg #[.bool (decide (z < 0)), va] /\ Sl w .u32 va (dig L32 z.natAbs) /\ z.natAbs < L32 ^ k
theorem GI.below {w w' : World} {v : Value} {z : Int} {k : Nat} (h : GI w v z k) (hb : Below w.heap.size w w') : GI w' v z k := by
 obtain ⟨b, va, n, rfl, h, rfl⟩ := h; exact ⟨b, va, n, rfl, h.below hb, rfl⟩
theorem CI.gi {w : World} {v : Value} {z : Int} {k : Nat} (h : CI w v z k) : GI w v z k := by
 obtain ⟨va, rfl, h, h2⟩ := h;refine ⟨_, va, _, rfl, gn_dig h h2, ?_⟩;unfold sg
 by_cases hz : z < 0
 ·rw [if_pos (by simpa using hz)]; omega
 rw [if_neg (by simpa using hz)]; omega
theorem GN.shape {w : World} {v : Value} {n k : Nat} (h : GN w v n k) : ∃ ao l c, v = .slice ao l c /\ l <= k := by
 obtain ⟨xs, h, _, _, hk⟩ := h;obtain ⟨ao, c, rfl⟩ := sl_shape h;exact ⟨ao, _, c, rfl, hk⟩
theorem GI.shape {w : World} {v : Value} {z : Int} {k : Nat} (h : GI w v z k) : ∃ b ao l c n, v = .agg #[.bool b, .slice ao l c] /\ GN w (.slice ao l c) n k /\ z = sg b n := by
 obtain ⟨b, va, n, rfl, h, rfl⟩ := h;obtain ⟨ao, l, c, rfl, _⟩ := h.shape;exact ⟨b, ao, l, c, n, rfl, h, rfl⟩
theorem two_cells {w : World} {g : Nat} {T : TypeId} {a b : Value} (h : w.heap[g]? = some (.cells #[a, b] T (0, 0))) :
  w.cell? ⟨g, 0, none⟩ = some a /\ w.cell? ⟨g, 1, none⟩ = some b /\ w.frozen? ⟨g, 0, none⟩ = false /\ w.frozen? ⟨g, 1, none⟩ = false :=
 ⟨by rw [cell_of_row w g 0 _ T (0, 0) h]; rfl, by rw [cell_of_row w g 1 _ T (0, 0) h]; rfl, frozen_of_row w g 0 _ T h, frozen_of_row w g 1 _ T h⟩
theorem Sl.set {w : World} {k : IntKind} {v : Value} {xs : List Nat} (h : Sl w k v xs) {p : Addr} {u : Value} (hc : w.cell? p = some u) (hu : ∀ k z, u ≠ .int k z) (x : Value) : Sl (w.setCell p x) k v xs := by
 obtain ⟨ao, cap, rfl, h1, h2, h3, h4⟩ := h;refine ⟨ao, cap, rfl, h1, h2, h3, fun i hi => ?_⟩;obtain ⟨a, ha, hq⟩ := h4 i hi;refine ⟨a, ha, ?_⟩;rw [World.cell?_setCell_other w p (a.add i) x (fun e => by rw [<- e, hc] at hq; injection hq with hq; exact hu _ _ hq)];exact hq
theorem Sl.set2 {w : World} {k : IntKind} {v : Value} {xs : List Nat} (h : Sl w k v xs) {g : Nat} {T : TypeId} {b0 : Bool} {a0 : Option Addr} {n0 c0 : Nat} (hB : w.heap[g]? = some (.cells #[.bool b0, .slice a0 n0 c0] T (0, 0))) (x y : Value) :
  Sl ((w.setCell ⟨g, 0, none⟩ x).setCell ⟨g, 1, none⟩ y) k v xs := by
 obtain ⟨q0, q1, _, _⟩ := two_cells hB;refine (h.set q0 (by intro k z e; cases e) x).set (u := .slice a0 n0 c0) ?_ (by intro k z e; cases e) y;rw [World.cell?_setCell_other w _ _ x (by intro e; injection e with _ e; omega)];exact q1
theorem GN.alloc {w : World} {v : Value} {n k : Nat} (h : GN w v n k) (o : Obj) : GN (w.alloc o) v n k := h.below ((Below.refl _ _).alloc (Nat.le_refl _) _)
theorem undrew {B : Nat} {w w1 : World} (h : Below B w.drew w1) : Below B w w1 := ⟨h.os, h.tape, h.output, h.size, h.block⟩
theorem below_setg {B g : Nat} {w w' : World} (h : Below B w w') (hB : B <= g) (x y : Value) : Below B w ((w'.setCell ⟨g, 0, none⟩ x).setCell ⟨g, 1, none⟩ y) :=
 (h.setCell (by simpa using hB) _).setCell (by simpa using hB) _
theorem bl_eq0 {n : Nat} : bl n = 0 ↔ n = 0 := ⟨fun h => by rcases Nat.eq_zero_or_pos n with h0 | h0; exact h0; exact absurd h (by have := bl_pos h0; omega), fun h => by rw [h, bl_zero]⟩
def sgnZ (z : Int) : Int := if z = 0 then 0 else if z < 0 then -1 else 1
theorem wsign_any (va : Value) (z : Int) (k : Nat) (w : World) (hx : GI w va z k) (hk : k <= 1000000) :
  Calls Tryz.prog 66 #[va] w fun e w' => e = .returned (.int .i64 (sgnZ z)) /\ Below w.heap.size w w' := by
 obtain ⟨b, ao, l, c, n, rfl, hg, rfl⟩ := hx.shape
 by_cases h0 : n = 0
 ·subst h0;have HB := Lib.hid (show sgnZ (sg b 0) = 0 by cases b <;> simp [sgnZ, sg]);have hz : (((bl 0 : Nat) : Int) == 0) = true := by rw [bl_zero]; rfl
  go_enter Tryz.func66, Tryz.ntmps66
  go_wp2_with fail
  refine (bits_n (hg.alloc _) hk).mono ?_;rintro e w3 ⟨rfl, rfl⟩;go_wp2_with fail
  go_ret
  exact ⟨by rw [HB.out]; rfl, (Below.refl _ _).alloc (Nat.le_refl _) _⟩
 have hz : (((bl n : Nat) : Int) == 0) = false := by rw [beq_eq_false_iff_ne]; have := mt bl_eq0.1 h0; omega
 have hp : 0 < n := by omega
 cases b
 ·have HB := Lib.hid (show sgnZ (sg false n) = 1 by unfold sgnZ sg; simp only [Bool.false_eq_true, if_false]; rw [if_neg (by omega), if_neg (by omega)]);go_enter Tryz.func66, Tryz.ntmps66
  go_wp2_with fail
  refine (bits_n (hg.alloc _) hk).mono ?_;rintro e w3 ⟨rfl, rfl⟩;go_wp2_with fail
  go_ret
  exact ⟨by rw [HB.out]; rfl, (Below.refl _ _).alloc (Nat.le_refl _) _⟩
 have HB := Lib.hid (show sgnZ (sg true n) = -1 by unfold sgnZ sg; simp only [if_true]; rw [if_neg (by omega), if_pos (by omega)]);go_enter Tryz.func66, Tryz.ntmps66
 go_wp2_with fail
 refine (bits_n (hg.alloc _) hk).mono ?_;rintro e w3 ⟨rfl, rfl⟩;go_wp2_with fail
 go_ret
 exact ⟨by rw [HB.out]; rfl, (Below.refl _ _).alloc (Nat.le_refl _) _⟩
theorem lt_pow_more {m k k' : Nat} (h : m < L32 ^ k) (hk : k <= k') : m < L32 ^ k' := Nat.lt_of_lt_of_le h (Nat.pow_le_pow_right (by decide) hk)
theorem GI.alloc {w : World} {v : Value} {z : Int} {k : Nat} (h : GI w v z k) (o : Obj) : GI (w.alloc o) v z k := h.below ((Below.refl _ _).alloc (Nat.le_refl _) _)
def zText (z : Int) : List UInt8 := if z < 0 then 45 :: Lib.decDigits z.natAbs else Lib.decDigits z.natAbs
theorem app45 (l : List UInt8) : ((⟨#[45]⟩ : ByteArray) ++ (⟨l.toArray⟩ : ByteArray)) = ⟨(45 :: l).toArray⟩ := by
 apply ByteArray.ext
 simp [ByteArray.data_append]
theorem take_one (c : UInt8) (m : List UInt8) : ((⟨(c :: m).toArray⟩ : ByteArray).extract 0 1).toList = [c] := by
 rw [extract_take, ByteArray.toList_mk]; rfl
theorem dec_len {n k : Nat} (h : n < L32 ^ k) (hk : k <= 10000) : (Lib.decDigits n).length <= 100001 := by
 have h1 : L32 ^ k <= 10 ^ (10 * k) := by rw [Nat.pow_mul]; exact Nat.pow_le_pow_left (by decide) _
 have := decDigits_len (k := 10 * k + 1) (Nat.lt_of_lt_of_le h (Nat.le_trans h1 (Nat.pow_le_pow_right (by decide) (by omega)))) (by omega)
 omega
theorem wtext_any (va : Value) (z : Int) (k : Nat) (w : World) (htab : Lib.TabIs Tryz.prog w "internal/strconv.uint64pow10" .u64 Lib.pow10Tab) (hx : GI w va z k) (hk : k ≤ 10000) :
  Calls Tryz.prog 39 #[va] w fun e w' => e = .returned (.string ⟨(zText z).toArray⟩) /\ Below w.heap.size w w' := by
 have hgx := hx;obtain ⟨b, ao, l, c, n, rfl, hg, rfl⟩ := hx.shape;have hW : Below w.heap.size w (w.alloc (.cells #[.bool b, .slice ao l c] 42)) := (Below.refl _ _).alloc (Nat.le_refl _) _;have hgn := hg;obtain ⟨xs, hs, dx, rfl, lx⟩ := hgn;have HN := Lib.hid (sg_natAbs b (val L32 xs));have hdl := dec_len hg.lt hk
 by_cases hz : sg b (val L32 xs) < 0
 ·have HS := Lib.hid (show sgnZ (sg b (val L32 xs)) = -1 by unfold sgnZ; rw [if_neg (by omega), if_pos hz]);have HT := Lib.hid (show zText (sg b (val L32 xs)) = 45 :: Lib.decDigits (val L32 xs) by unfold zText; rw [if_pos hz, HN.out]);clear hz;go_enter Tryz.func39, Tryz.ntmps39
  go_wp2_with fail
  refine (wsign_any _ _ k _ (hgx.alloc _) (by omega)).mono ?_;rintro e w2 ⟨rfl, hb2⟩;have hk2 := (hb2.block w.heap.size (by simp)).trans (heap_alloc_new w _);have hb2t := hW.trans (hb2.mono (by simp));clear hb2;obtain ⟨kc0, kc1, _, _⟩ := two_cells hk2;clear hk2;rw [HS.out];go_wp2_with fail
  refine (text_any _ xs w2 (tab_below htab hb2t) (hs.below hb2t) dx (by omega)).mono ?_;rintro e w4 ⟨rfl, hb4⟩;have hb4t := hb2t.trans (hb4.mono hb2t.size);go_wp2_with fail
  go_ret
  exact ⟨by rw [HT.out, <- app45]; rfl, hb4t⟩
 have HS := Lib.hid (show (0 : Int) <= sgnZ (sg b (val L32 xs)) by unfold sgnZ; rw [if_neg hz]; split <;> omega);have HT := Lib.hid (show zText (sg b (val L32 xs)) = Lib.decDigits (val L32 xs) by unfold zText; rw [if_neg hz, HN.out]);clear hz;have h0 := HS.out;go_enter Tryz.func39, Tryz.ntmps39
 go_wp2_with fail
 refine (wsign_any _ _ k _ (hgx.alloc _) (by omega)).mono ?_;rintro e w2 ⟨rfl, hb2⟩;have hk2 := (hb2.block w.heap.size (by simp)).trans (heap_alloc_new w _);have hb2t := hW.trans (hb2.mono (by simp));clear hb2;obtain ⟨kc0, kc1, _, _⟩ := two_cells hk2;clear hk2;go_wp2_with fail
 refine (text_any _ xs w2 (tab_below htab hb2t) (hs.below hb2t) dx (by omega)).mono ?_;rintro e w4 ⟨rfl, hb4⟩;have hb4t := hb2t.trans (hb4.mono hb2t.size);go_wp2_with fail
 go_ret
 exact ⟨by rw [HT.out]; rfl, hb4t⟩
theorem prefix_no (l : List UInt8) (w : World) (hm : l.length <= 1000000000) (h : l.head? ≠ some 45) :
  Calls Tryz.prog 167 #[.string ⟨l.toArray⟩, .string ⟨#[45]⟩] w fun e w' => e = .returned (.bool false) /\ w = w' := by
 cases l with
 | nil =>
  clear h;go_enter Tryz.func167, Tryz.ntmps167
  go_wp2
  go_ret
  exact ⟨rfl, rfl⟩
 | cons c m =>
  have HC := Lib.hid (show (([c] : List UInt8) == [45]) = false by
   rw [beq_eq_false_iff_ne]; intro e; exact h (by injection e with e; rw [e]; rfl))
  clear h;go_enter Tryz.func167, Tryz.ntmps167
  go_wp2
  go_ret
  refine ⟨?_, rfl⟩
  show Ending.returned (.bool (((⟨(c :: m).toArray⟩ : ByteArray).extract 0 1).toList == [45])) = _
  rw [take_one, HC.out]
theorem cut_no (l : List UInt8) (w : World) (hm : l.length <= 1000000000) (h : l.head? ≠ some 45) :
  Calls Tryz.prog 168 #[.string ⟨l.toArray⟩, .string ⟨#[45]⟩] w fun e w' => e = .returned (.tuple #[.string ⟨l.toArray⟩, .bool false]) /\ w = w' := by
 have HP := Lib.hid (fun w => prefix_no l w hm h);clear h
 have H : ∀ w, Calls Tryz.prog 173 #[.string ⟨l.toArray⟩, .string ⟨#[45]⟩] w fun e w' => e = .returned (.tuple #[.string ⟨l.toArray⟩, .bool false]) /\ w = w' := by
  intro w;go_enter Tryz.func173, Tryz.ntmps173
  go_wp2_with fail
  refine (HP.out _).mono ?_; rintro e w' ⟨rfl, rfl⟩;go_wp2_with fail
  go_ret2
  exact ⟨rfl, rfl⟩
 have H' := Lib.hid H;clear H;go_enter Tryz.func168, Tryz.ntmps168
 go_wp2_with fail
 refine (H'.out _).mono ?_; rintro e w' ⟨rfl, rfl⟩;go_wp2_with fail
 go_ret2
 exact ⟨rfl, rfl⟩
def zn (l : List UInt8) : Int := if l.head? = some 45 then -(dn (l.drop 1) : Int) else (dn l : Int)
theorem num_head {l : List UInt8} (h : Numeral l) : l.head? ≠ some 45 := by
 intro e;obtain ⟨h1, _, _, h4⟩ := h
 cases l with
 | nil => exact h1 rfl
 | cons c m =>
  injection e with e;have := h4 c (List.mem_cons_self ..);subst e
  simp at this
theorem num_lt {l : List UInt8} (h : Numeral l) : dn l < L32 ^ 34 := by
 have h1 := parse_room h.2.2.2 (Nat.le_refl l.length);exact lt_pow_more h1 (by have := h.2.1; omega)
end Go.Proofs.YtdpfgfkoboihcaaGreatDoor
namespace Go.Proofs.YtdpfgfkoboihcaaGreatDoor
set_option maxRecDepth 100000
inductive U where
 | node (k : Nat) (nm ot : Bs) (z : Nat) (ln cl : Nat) (ks : List U)
def U.k : U -> Nat | .node k _ _ _ _ _ _ => k
def U.ks : U -> List U | .node _ _ _ _ _ _ ks => ks
def u0 : U := .node 0 [] [] 0 0 0 []
mutual
def ud : U -> Nat
 | .node _ _ _ _ _ _ ks => uds ks + 1
def uds : List U -> Nat
 | [] => 0
 | t :: ts => max (ud t) (uds ts)
end
structure St where
 rest : List Tok
 err : Option (Nat × Nat × Nat)
def tk0 : Tok := ⟨4, [], 0, 0⟩
def St.nx (s : St) : Tok := s.rest.headD tk0
def St.tk (s : St) : St := if s.nx.kind = 4 then s else ⟨s.rest.drop 1, s.err⟩
def St.fail (s : St) (t : Tok) (c : Nat) : St := ⟨s.rest.drop (s.rest.length - 1), s.err.or (some (c, t.line, t.col))⟩
def St.is (s : St) (w : Bs) : Bool := s.nx.text == w
def St.acc (s : St) (w : Bs) : St := if s.is w then s.tk else s
def St.exp (s : St) (w : Bs) : St := if s.is w then s.tk else s.fail s.nx 1
def St.exps (s : St) (ws : List Bs) : St := ws.foldl St.exp s
def St.name (s : St) : St := if s.nx.kind = 0 then s.tk else s.tk.fail s.nx 1
def St.counted (s : St) (count limit : Nat) : St := if limit <= count then s.name.fail s.nx 2 else s.name
abbrev wLet : Bs := [108, 101, 116]
abbrev wIf : Bs := [105, 102]
abbrev wMatch : Bs := [109, 97, 116, 99, 104]
abbrev wAssert : Bs := [97, 115, 115, 101, 114, 116]
abbrev wIn : Bs := [105, 110]
abbrev wThen : Bs := [116, 104, 101, 110]
abbrev wElse : Bs := [101, 108, 115, 101]
abbrev wWith : Bs := [119, 105, 116, 104]
abbrev wNil : Bs := [91, 93]
abbrev wArrow : Bs := [45, 62]
abbrev wBar : Bs := [124]
abbrev wCons : Bs := [58, 58]
abbrev wEq : Bs := [61]
abbrev wSemi : Bs := [59]
abbrev wV : Bs := [118]
abbrev wTrue : Bs := [116, 114, 117, 101]
abbrev wFalse : Bs := [102, 97, 108, 115, 101]
abbrev wOpen : Bs := [40]
abbrev wClose : Bs := [41]
abbrev wComma : Bs := [44]
abbrev wColon : Bs := [58]
abbrev wBraceO : Bs := [123]
abbrev wBraceC : Bs := [125]
abbrev wQualif : Bs := [113, 117, 97, 108, 105, 102]
abbrev wFun : Bs := [102, 117, 110]
abbrev wInt : Bs := [105, 110, 116]
abbrev wBool : Bs := [98, 111, 111, 108]
abbrev wList : Bs := [108, 105, 115, 116]
structure Bop where
 sign : Bs
 kind : Nat
 level : Nat
 left : Nat
 right : Nat
def bops : List Bop := [⟨[124, 124], 22, 1, 1, 2⟩, ⟨[38, 38], 21, 2, 2, 3⟩, ⟨[61], 15, 3, 4, 4⟩, ⟨[60, 62], 16, 3, 4, 4⟩, ⟨[60], 17, 3, 4, 4⟩, ⟨[60, 61], 18, 3, 4, 4⟩, ⟨[62], 19, 3, 4, 4⟩, ⟨[62, 61], 20, 3, 4, 4⟩, ⟨[58, 58], 23, 4, 5, 4⟩, ⟨[43], 10, 5, 5, 6⟩, ⟨[45], 11, 5, 5, 6⟩, ⟨[42], 12, 6, 6, 7⟩, ⟨[47], 13, 6, 6, 7⟩, ⟨[37], 14, 6, 6, 7⟩]
def bopOf (w : Bs) : Option Bop := bops.find? (·.sign == w)
def unOf (w : Bs) : Option Nat :=
 if w = [45] then some 5 else if w = [110, 111, 116] then some 6 else if w = [108, 101, 110] then some 7 else if w = [104, 100] then some 8 else if w = [116, 108] then some 9 else none
def prt (k : Nat) (t : Tok) (ks : List U) : U := .node k [] [] 0 t.line t.col ks
def nmd (k : Nat) (t : Tok) (ks : List U) : U := .node k t.text [] 0 t.line t.col ks
mutual
def cExpr : Nat -> St -> Option (U × St)
 | 0, _ => none
 | n + 1, s =>
  if s.is wLet then cLet n s
  else if s.is wIf then cIf n s
  else if s.is wMatch then cMatch n s
  else if s.is wAssert then cAssert n s
  else cBin n 1 s
def cLet : Nat -> St -> Option (U × St)
 | 0, _ => none
 | n + 1, s =>
  (cExpr n ((s.tk.name).exp wEq)).bind fun r1 =>
  (cExpr n (r1.2.exp wIn)).bind fun r2 =>
  some (.node 26 s.tk.nx.text [] 0 s.nx.line s.nx.col [r1.1, r2.1], r2.2)
def cIf : Nat -> St -> Option (U × St)
 | 0, _ => none
 | n + 1, s =>
  (cExpr n s.tk).bind fun r1 =>
  (cExpr n (r1.2.exp wThen)).bind fun r2 =>
  (cExpr n (r2.2.exp wElse)).bind fun r3 =>
  some (prt 25 s.nx [r1.1, r2.1, r3.1], r3.2)
def cMatch : Nat -> St -> Option (U × St)
 | 0, _ => none
 | n + 1, s =>
  (cExpr n s.tk).bind fun r1 =>
  (cExpr n (((r1.2.exp wWith).exp wNil).exp wArrow)).bind fun r2 =>
  (cExpr n (((((r2.2.exp wBar).name).exp wCons).name).exp wArrow)).bind fun r3 =>
  some (.node 27 (r2.2.exp wBar).nx.text (((r2.2.exp wBar).name).exp wCons).nx.text 0 s.nx.line s.nx.col [r1.1, r2.1, r3.1], r3.2)
def cAssert : Nat -> St -> Option (U × St)
 | 0, _ => none
 | n + 1, s =>
  (cExpr n s.tk).bind fun r1 =>
  (cExpr n (r1.2.exp wSemi)).bind fun r2 =>
  some (prt 28 s.nx [r1.1, r2.1], r2.2)
def cBin : Nat -> Nat -> St -> Option (U × St)
 | 0, _, _ => none
 | n + 1, least, s => (cOne n s).bind fun r => cLoop n least r.1 7 r.2
def cLoop : Nat -> Nat -> U -> Nat -> St -> Option (U × St)
 | 0, _, _, _, _ => none
 | n + 1, least, e, level, s =>
  match bopOf s.nx.text with
  | none => some (e, s)
  | some op =>
   if op.level < least \/ level < op.left then some (e, s)
   else (cBin n op.right s.tk).bind fun r => cLoop n least (prt op.kind s.nx [e, r.1]) op.level r.2
def cOne : Nat -> St -> Option (U × St)
 | 0, _ => none
 | n + 1, s =>
  match unOf s.nx.text with
  | none => cAtom n s
  | some k => (cOne n s.tk).bind fun r => some (prt k s.nx [r.1], r.2)
def cAtom : Nat -> St -> Option (U × St)
 | 0, _ => none
 | n + 1, s =>
  if s.nx.kind = 1 then some (.node 0 [] [] (dn s.nx.text) s.nx.line s.nx.col [], s.tk)
  else if s.nx.kind = 0 then
   if s.tk.is wOpen then (cArgs n s.tk.tk).bind fun r => some (nmd 24 s.nx r.1, r.2)
   else some (nmd 3 s.nx [], s.tk)
  else if s.is wV then some (nmd 3 s.nx [], s.tk)
  else if s.is wTrue then some (prt 1 s.nx [], s.tk)
  else if s.is wFalse then some (prt 2 s.nx [], s.tk)
  else if s.is wNil then some (prt 4 s.nx [], s.tk)
  else if s.is wOpen then (cExpr n s.tk).bind fun r => some (r.1, r.2.exp wClose)
  else some (u0, s.tk.fail s.nx 1)
def cArgs : Nat -> St -> Option (List U × St)
 | 0, _ => none
 | n + 1, s => if s.is wClose then some ([], s.tk) else (cExpr n s).bind fun r => cMore n [r.1] r.2
def cMore : Nat -> List U -> St -> Option (List U × St)
 | 0, _, _ => none
 | n + 1, l, s => if s.is wComma then (cExpr n s.tk).bind fun r => cMore n (l ++ [r.1]) r.2 else some (l, s.exp wClose)
end
structure PmU where
 nm : Bs
 b : Nat
 kn : Bool
 ref : U
 ln : Nat
 cl : Nat
structure QlU where
 nm : Bs
 ps : List PmU
 body : U
 ln : Nat
 cl : Nat
structure FnU where
 nm : Bs
 ps : List PmU
 res : PmU
 body : U
 ln : Nat
 cl : Nat
structure PgU where
 qs : List QlU
 fs : List FnU
def cAll (n : Nat) (s : St) : Option (U × St) := (cExpr n s).bind fun r => some (r.1, if 60 < ud r.1 then r.2.fail s.nx 2 else r.2)
def cBase (s : St) : Nat × St :=
 if s.is wInt then (0, s.tk) else if s.is wBool then (1, s.tk) else if s.is wList then (2, s.tk) else (0, s.tk.fail s.nx 1)
def cRef (n : Nat) (p : PmU) (s : St) : Option (PmU × St) :=
 if s.is wBraceO then (cAll n s.tk).bind fun r => some ({ p with kn := true, ref := r.1 }, r.2.exp wBraceC) else some (p, s)
def typ (nm : Bs) (t : Tok) (b : Nat) : PmU := ⟨nm, b, false, u0, t.line, t.col⟩
def cVar (s : St) : PmU × St := let s2 := (s.exp wV).exp wColon; (typ s.nx.text s.nx (cBase s2).1, (cBase s2).2)
def cParam (count : Nat) (s : St) : PmU × St := let s2 := (s.counted count 6).exp wColon; (typ s.nx.text s.nx (cBase s2).1, (cBase s2).2)
def cRes (n : Nat) (s : St) : Option (PmU × St) := cRef n (typ wV s.nx (cBase s).1) (cBase s).2
def cQMore : Nat -> List PmU -> St -> Option (List PmU × St)
 | 0, _, _ => none
 | n + 1, l, s => if s.is wComma then cQMore n (l ++ [(cParam l.length s.tk).1]) (cParam l.length s.tk).2 else some (l, s)
def cFPar (n : Nat) (l : List PmU) (s : St) : Option (List PmU × St) := (cRef n (cParam l.length s).1 (cParam l.length s).2).bind fun r => some (l ++ [r.1], r.2)
def cFMore : Nat -> Nat -> List PmU -> St -> Option (List PmU × St)
 | 0, _, _, _ => none
 | m + 1, n, l, s => if s.is wComma then (cFPar n l s.tk).bind fun r => cFMore m n r.1 r.2 else some (l, s.exp wClose)
def cFPars (m n : Nat) (s : St) : Option (List PmU × St) := if s.is wClose then some ([], s.tk) else (cFPar n [] s).bind fun r => cFMore m n r.1 r.2
def cQual (m n count : Nat) (s : St) : Option (QlU × St) :=
 let s1 := (s.counted count 20).exp wOpen
 (cQMore m [(cVar s1).1] (cVar s1).2).bind fun r =>
 (cAll n ((r.2.exp wClose).exp wColon)).bind fun q =>
 some (⟨s.nx.text, r.1, q.1, s.nx.line, s.nx.col⟩, q.2)
def cFun (m n count : Nat) (s : St) : Option (FnU × St) :=
 let s1 := (s.counted count 20).exp wOpen
 (cFPars m n s1).bind fun r =>
 (cRes n (r.2.exp wColon)).bind fun t =>
 (cAll n (t.2.exp wEq)).bind fun q =>
 some (⟨s.nx.text, r.1, t.1, q.1, s.nx.line, s.nx.col⟩, q.2)
def cProg : Nat -> Nat -> PgU -> St -> Option (PgU × St)
 | 0, _, _, _ => none
 | m + 1, n, p, s =>
  if s.is wQualif then (cQual m n p.qs.length s.tk).bind fun r => cProg m n ⟨p.qs ++ [r.1], p.fs⟩ r.2
  else if s.is wFun then (cFun m n p.fs.length s.tk).bind fun r => cProg m n ⟨p.qs, p.fs ++ [r.1]⟩ r.2
  else some (p, s)
def St.fin (s : St) : St := if s.nx.kind = 4 then s else s.fail s.nx 1
set_option maxRecDepth 1000000
def lexN : Nat -> Bs -> Nat × Nat -> List Tok × Nat
 | 0, _, _ => ([], 9)
 | f + 1, s, p =>
  match s.drop (gapL false s) with
  | [] => ([⟨4, [], (adv p (s.take (gapL false s))).1, (adv p (s.take (gapL false s))).2⟩], 0)
  | c :: t =>
   match meas (c :: t) with
   | .bad e => ([⟨4, [], (adv p (s.take (gapL false s))).1, (adv p (s.take (gapL false s))).2⟩], e)
   | .ok k n =>
    let q := adv p (s.take (gapL false s))
    let r := lexN f ((c :: t).drop (n - 1 + 1)) (adv q ((c :: t).take (n - 1 + 1)))
    (⟨k, (c :: t).take n, q.1, q.2⟩ :: r.1, r.2)
theorem lexN_eq (f : Nat) (s : Bs) (p : Nat × Nat) (h : s.length < f) : lexN f s p = lexS s p := by
 induction f generalizing s p with
 | zero => omega
 | succ f ih =>
  rw [lexS, lexN]
  cases hd : s.drop (gapL false s) with
  | nil => simp
  | cons c t =>
   simp only [dif_neg (List.cons_ne_nil c t)]
   cases meas (c :: t) with
   | bad e => rfl
   | ok k n =>
    have hl : (c :: t).length <= s.length := by rw [<- hd, List.length_drop]; omega
    simp only;rw [ih _ _ (by rw [List.length_drop]; simp only [lsc] at hl ⊢; omega)]
set_option maxRecDepth 100000
structure RS where
 rest : List Tok
 bad : Nat
 pl : Tok
def RS.at' (r : RS) : Tok := r.rest.headD tk0
def RS.bd (r : RS) (t : Tok) (e : Nat) : RS := if r.bad = 0 then ⟨r.rest, e, t⟩ else r
def RS.is (r : RS) (w : Bs) : Bool := (r.bad == 0) && (r.at'.kind == 2 || r.at'.kind == 3) && (r.at'.text == w)
def RS.inc (r : RS) : RS := ⟨r.rest.drop 1, r.bad, r.pl⟩
def RS.eat (r : RS) (w : Bs) : RS := if r.is w then r.inc else r.bd r.at' 1
def RS.name (r : RS) : RS := if r.at'.kind = 0 then (if r.bad = 0 then r.inc else r) else r.bd r.at' 1
structure RE where
 S : Bs
 d : Nat
def plc (ln cl : Nat) : Bs := [64] ++ zText (ln : Nat) ++ [58] ++ zText (cl : Nat)
def opn (k : Nat) (ln cl : Nat) (nm : Bs) : Bs := [40] ++ zText (k : Nat) ++ plc ln cl ++ [32] ++ nm
def mk (k : Nat) (t : Tok) (nm : Bs) (ks : List RE) : RE := ⟨opn k t.line t.col nm ++ ks.flatMap RE.S ++ [41], ks.foldl (fun d e => max d e.d) 0 + 1⟩
def twoT : List (Bs × Nat) := [([43], 5), ([45], 5), ([42], 6), ([47], 6), ([37], 6), ([61], 3), ([60, 62], 3), ([60], 3), ([60, 61], 3), ([62], 3), ([62, 61], 3), ([38, 38], 2), ([124, 124], 1), ([58, 58], 4)]
def two (t : Tok) : Nat × Nat := if t.kind ≠ 2 then (0, 0) else match twoT.findIdx? (fun p => p.1 == t.text) with | some i => ((twoT.getD i ([], 0)).2, 10 + i) | none => (0, 0)
def rUn (r : RS) : Option Nat :=
 if r.is [45] then some 5 else if r.is [110, 111, 116] then some 6 else if r.is [108, 101, 110] then some 7 else if r.is [104, 100] then some 8 else if r.is [116, 108] then some 9 else none
mutual
def rExpr : Nat -> RS -> Option (RE × RS)
 | 0, _ => none
 | n + 1, r =>
  if r.is wLet then
   (rExpr n ((r.inc.name).eat wEq)).bind fun x1 =>
   (rExpr n (x1.2.eat wIn)).bind fun x2 =>
   some (mk 26 r.at' r.inc.at'.text [x1.1, x2.1], x2.2)
  else if r.is wIf then
   (rExpr n r.inc).bind fun x1 =>
   (rExpr n (x1.2.eat wThen)).bind fun x2 =>
   (rExpr n (x2.2.eat wElse)).bind fun x3 =>
   some (mk 25 r.at' [] [x1.1, x2.1, x3.1], x3.2)
  else if r.is wMatch then
   (rExpr n r.inc).bind fun x1 =>
   (rExpr n (((x1.2.eat wWith).eat wNil).eat wArrow)).bind fun x2 =>
   (rExpr n (((((x2.2.eat wBar).name).eat wCons).name).eat wArrow)).bind fun x3 =>
   some (mk 27 r.at' ((x2.2.eat wBar).at'.text ++ [32] ++ (((x2.2.eat wBar).name).eat wCons).at'.text) [x1.1, x2.1, x3.1], x3.2)
  else if r.is wAssert then
   (rExpr n r.inc).bind fun x1 =>
   (rExpr n (x1.2.eat wSemi)).bind fun x2 =>
   some (mk 28 r.at' [] [x1.1, x2.1], x2.2)
  else rClimb n 1 r
def rClimb : Nat -> Nat -> RS -> Option (RE × RS)
 | 0, _, _ => none
 | n + 1, l, r => if l = 7 then rSingle n r else (rClimb n (l + 1) r).bind fun x => rLoop n l x.1 x.2
def rLoop : Nat -> Nat -> RE -> RS -> Option (RE × RS)
 | 0, _, _, _ => none
 | n + 1, l, e, r =>
  if r.bad ≠ 0 then some (e, r)
  else if (two r.at').1 ≠ l then some (e, r)
  else if l = 4 then (rClimb n 4 r.inc).bind fun x => some (mk (two r.at').2 r.at' [] [e, x.1], x.2)
  else (rClimb n (l + 1) r.inc).bind fun x => if l = 3 then some (mk (two r.at').2 r.at' [] [e, x.1], x.2) else rLoop n l (mk (two r.at').2 r.at' [] [e, x.1]) x.2
def rSingle : Nat -> RS -> Option (RE × RS)
 | 0, _ => none
 | n + 1, r =>
  match rUn r with
  | none => rAtom n r
  | some k => (rSingle n r.inc).bind fun x => some (mk k r.at' [] [x.1], x.2)
def rAtom : Nat -> RS -> Option (RE × RS)
 | 0, _ => none
 | n + 1, r =>
  if r.bad ≠ 0 then some (⟨[], 0⟩, r)
  else if r.is wTrue then some (mk 1 r.at' [] [], r.inc)
  else if r.is wFalse then some (mk 2 r.at' [] [], r.inc)
  else if r.is wV then some (mk 3 r.at' wV [], r.inc)
  else if r.is wNil then some (mk 4 r.at' [] [], r.inc)
  else if r.at'.kind = 1 then some (mk 0 r.at' r.at'.text [], r.inc)
  else if r.is wOpen then (rExpr n r.inc).bind fun x => some (x.1, x.2.eat wClose)
  else if (r.name).is wOpen then (rKids n [] (r.name).inc).bind fun x => some (mk 24 r.at' r.at'.text x.1, x.2.eat wClose)
  else some (mk 3 r.at' r.at'.text [], r.name)
def rKids : Nat -> List RE -> RS -> Option (List RE × RS)
 | 0, _, _ => none
 | n + 1, l, r =>
  if r.bad ≠ 0 \/ r.is wClose = true then some (l, r)
  else (rExpr n (if l.length > 0 then r.eat wComma else r)).bind fun x => rKids n (l ++ [x.1]) x.2
end
def rAll (n : Nat) (r : RS) : Option (Bs × RS) := (rExpr n r).bind fun x => some (x.1.S, if x.2.bad = 0 /\ 60 < x.1.d then x.2.bd r.at' 2 else x.2)
set_option linter.unusedVariables false
def fname (k : Nat) (nm ot : Bs) (z : Nat) : Bs := if k = 0 then zText (z : Nat) else if k = 27 then nm ++ [32] ++ ot else nm
mutual
def frm : U -> Bs
 | .node k nm ot z ln cl ks => opn k ln cl (fname k nm ot z) ++ frms ks ++ [41]
def frms : List U -> Bs
 | [] => []
 | u :: us => frm u ++ frms us
end
def fm (u : U) : RE := ⟨frm u, ud u⟩
theorem frms_eq (ks : List U) : frms ks = (ks.map fm).flatMap RE.S := by
 induction ks with
 | nil => simp [frms]
 | cons u us ih => simp [frms, ih, fm]
theorem foldl_max (ks : List U) (a : Nat) : (ks.map fm).foldl (fun d e => max d e.d) a = max a (uds ks) := by
 induction ks generalizing a with
 | nil => simp [uds]
 | cons u us ih => simp only [List.map_cons, List.foldl_cons, ih, uds, fm]; omega
theorem mk_fm (k : Nat) (t : Tok) (nm ot : Bs) (z : Nat) (ks : List U) : mk k t (fname k nm ot z) (ks.map fm) = fm (.node k nm ot z t.line t.col ks) := by
 unfold mk;rw [foldl_max, <- frms_eq, Nat.zero_max]
 show _ = RE.mk (frm (.node k nm ot z t.line t.col ks)) (ud (.node k nm ot z t.line t.col ks))
 rw [frm, ud]
def sigs : List Bs := [[58, 58], [45, 62], [38, 38], [124, 124], [91, 93], [60, 62], [60, 61], [62, 61], [40], [41], [123], [125], [44], [58], [59], [124], [61], [60], [62], [43], [45], [42], [47], [37]]
def alls : List Bs := wds ++ sigs
structure TokOk (t : Tok) : Prop where
 k4 : t.kind <= 4
 k0 : t.kind = 0 -> t.text ∉ alls /\ t.text ≠ []
 k1 : t.kind = 1 -> t.text ∉ alls /\ Numeral t.text
 k2 : t.kind = 2 -> t.text ∈ sigs
 k3 : t.kind = 3 -> t.text ∈ wds
 ke : t.kind = 4 -> t.text = []
def GoodL : List Tok -> Prop
 | [] => False
 | [t] => t.kind = 4 /\ TokOk t
 | t :: u :: ts => t.kind < 4 /\ TokOk t /\ GoodL (u :: ts)
theorem GoodL.head {l : List Tok} (h : GoodL l) : TokOk (l.headD tk0) := by
 match l, h with
 | [t], h => exact h.2
 | t :: u :: ts, h => exact h.2.1
theorem GoodL.tail {l : List Tok} (h : GoodL l) (hk : (l.headD tk0).kind ≠ 4) : GoodL (l.drop 1) := by
 match l, h with
 | [t], h => exact absurd h.1 hk
 | t :: u :: ts, h => exact h.2.2
theorem GoodL.last {l : List Tok} (h : GoodL l) : ∃ e, l.drop (l.length - 1) = [e] /\ e.kind = 4 /\ e.text = [] := by
 induction l with
 | nil => exact absurd h id
 | cons t ts ih =>
  match ts, h, ih with
  | [], h, _ => exact ⟨t, rfl, h.1, h.2.ke h.1⟩
  | u :: ts, h, ih =>
   obtain ⟨e, h1, h2⟩ := ih h.2.2;refine ⟨e, ?_, h2⟩;simp only [lsc, Nat.add_sub_cancel] at h1 ⊢;rw [List.drop_succ_cons]; exact h1
theorem GoodL.ne {l : List Tok} (h : GoodL l) : l ≠ [] := by intro e; rw [e] at h; exact h
theorem nil_alls : ([] : Bs) ∉ alls := by decide
theorem is_kind {t : Tok} (h : TokOk t) {w : Bs} (hw : w ∈ alls) (e : t.text = w) : t.kind = 2 \/ t.kind = 3 := by
 have h4 := h.k4;have e0 : t.kind ≠ 0 := fun k => (h.k0 k).1 (e ▸ hw)
 have e1 : t.kind ≠ 1 := fun k => (h.k1 k).1 (e ▸ hw)
 have e4 : t.kind ≠ 4 := fun k => nil_alls (by have := h.ke k; rw [e] at this; exact this ▸ hw)
 omega
def Rel (s : St) (r : RS) : Prop := s.err = none /\ r.bad = 0 /\ r.rest = s.rest /\ GoodL s.rest
def SB (s : St) : Prop := ∃ x e, s.err = some x /\ s.rest = [e] /\ e.kind = 4 /\ e.text = []
def BB (s : St) (r : RS) : Prop := SB s /\ r.bad ≠ 0 /\ s.err = some (r.bad, r.pl.line, r.pl.col)
def RR (s : St) (r : RS) (F : Prop) : Prop := (Rel s r /\ F) \/ BB s r
theorem Rel.nx {s : St} {r : RS} (h : Rel s r) : s.nx = r.at' := by unfold St.nx RS.at'; rw [h.2.2.1]
theorem Rel.tok {s : St} {r : RS} (h : Rel s r) : TokOk s.nx := h.2.2.2.head
theorem Rel.is {s : St} {r : RS} (h : Rel s r) {w : Bs} (hw : w ∈ alls) : r.is w = s.is w := by
 unfold RS.is St.is;rw [h.2.1, <- h.nx]
 by_cases e : s.nx.text = w
 ·have := is_kind h.tok hw e;rcases this with k | k <;> simp [k, e]
 have : (s.nx.text == w) = false := by simpa using e
 simp [this]
theorem St.is_true {s : St} {w : Bs} (h : s.is w = true) : s.nx.text = w := by simpa [St.is] using h
theorem Rel.kind {s : St} {r : RS} (h : Rel s r) {w : Bs} (hw : w ∈ alls) (e : s.is w = true) : s.nx.kind = 2 \/ s.nx.kind = 3 := is_kind h.tok hw (St.is_true e)
theorem Rel.tk {s : St} {r : RS} (h : Rel s r) (hk : s.nx.kind ≠ 4) : Rel s.tk r.inc := by
 unfold St.tk;rw [if_neg hk];exact ⟨h.1, h.2.1, by show r.rest.drop 1 = s.rest.drop 1; rw [h.2.2.1], h.2.2.2.tail hk⟩
theorem Rel.take {s : St} {r : RS} (h : Rel s r) {w : Bs} (hw : w ∈ alls) (e : s.is w = true) : Rel s.tk r.inc := h.tk (by rcases h.kind hw e with k | k <;> omega)
theorem GoodL.fail {s : St} (h : GoodL s.rest) (t : Tok) (c : Nat) : SB (s.fail t c) := by
 obtain ⟨e, h1, h2, h3⟩ := h.last
 cases he : s.err with
 | none => exact ⟨(c, t.line, t.col), e, by simp [St.fail, he], by simp [St.fail, h1], h2, h3⟩
 | some x => exact ⟨x, e, by simp [St.fail, he], by simp [St.fail, h1], h2, h3⟩
theorem Rel.fail {s : St} {r r' : RS} (h : Rel s r) {t : Tok} {c : Nat} (hc : c ≠ 0) (hb : r' = r.bd t c) : BB (s.fail t c) r' := by
 subst hb;unfold RS.bd;rw [if_pos h.2.1];exact ⟨h.2.2.2.fail t c, hc, by simp [St.fail, h.1]⟩
theorem SB.nx {s : St} (h : SB s) : s.nx.kind = 4 /\ s.nx.text = [] := by
 obtain ⟨x, e, -, h1, h2, h3⟩ := h;unfold St.nx; rw [h1]; exact ⟨h2, h3⟩
theorem SB.fail {s : St} (h : SB s) (t : Tok) (c : Nat) : s.fail t c = s := by
 obtain ⟨x, e, h0, h1, h2, h3⟩ := h;obtain ⟨rest, err⟩ := s;simp only at h0 h1;subst h0 h1
 rfl
theorem SB.tk {s : St} (h : SB s) : s.tk = s := by unfold St.tk; rw [if_pos h.nx.1]
theorem SB.is {s : St} (h : SB s) {w : Bs} (hw : w ≠ []) : s.is w = false := by unfold St.is; rw [h.nx.2]; simpa using hw
theorem SB.exp {s : St} (h : SB s) {w : Bs} (hw : w ≠ []) : s.exp w = s := by unfold St.exp; rw [h.is hw]; exact h.fail _ _
theorem SB.name {s : St} (h : SB s) : s.name = s := by unfold St.name; rw [if_neg (by rw [h.nx.1]; decide), h.tk]; exact h.fail _ _
theorem RS.is_bad {r : RS} (h : r.bad ≠ 0) (w : Bs) : r.is w = false := by unfold RS.is; simp [h]
theorem RS.bd_bad {r : RS} (h : r.bad ≠ 0) (t : Tok) (c : Nat) : r.bd t c = r := by unfold RS.bd; rw [if_neg h]
theorem RS.eat_bad {r : RS} (h : r.bad ≠ 0) (w : Bs) : r.eat w = r := by unfold RS.eat; rw [RS.is_bad h]; exact RS.bd_bad h _ _
theorem RS.name_bad {r : RS} (h : r.bad ≠ 0) : r.name = r := by unfold RS.name; rw [if_neg h]; split; rfl; exact RS.bd_bad h _ _
theorem c_bad (n : Nat) : (∀ s x, SB s -> cExpr n s = some x -> x.2 = s) /\ (∀ l s x, SB s -> cBin n l s = some x -> x.2 = s) /\ (∀ l e v s x, SB s -> cLoop n l e v s = some x -> x.2 = s) /\ (∀ s x, SB s -> cOne n s = some x -> x.2 = s) /\ (∀ s x, SB s -> cAtom n s = some x -> x.2 = s) := by
 induction n with
 | zero => refine ⟨?_, ?_, ?_, ?_, ?_⟩ <;> intros <;> simp_all [cExpr, cBin, cLoop, cOne, cAtom]
 | succ n ih =>
  obtain ⟨i1, i2, i3, i4, i5⟩ := ih;refine ⟨?_, ?_, ?_, ?_, ?_⟩
  ·intro s x h e;rw [cExpr, h.is (by decide), h.is (by decide), h.is (by decide), h.is (by decide)] at e;exact i2 _ _ _ h (by simpa using e)
  ·intro l s x h e;rw [cBin, Option.bind_eq_some_iff] at e;obtain ⟨y, h1, h2⟩ := e;have := i4 _ _ h h1;rw [this] at h2;exact i3 _ _ _ _ _ h h2
  ·intro l e0 v s x h e;rw [cLoop, h.nx.2] at e;have : bopOf [] = none := by decide
   rw [this] at e;injection e with e; rw [<- e]
  ·intro s x h e;rw [cOne, h.nx.2] at e;exact i5 _ _ h (by simpa [unOf] using e)
  intro s x h e;rw [cAtom, if_neg (by rw [h.nx.1]; decide), if_neg (by rw [h.nx.1]; decide), h.is (by decide), h.is (by decide), h.is (by decide), h.is (by decide), h.is (by decide)] at e;injection e with e;rw [<- e]
  show s.tk.fail s.nx 1 = s
  rw [h.tk]; exact h.fail _ _
theorem r_bad (n : Nat) : (∀ r x, r.bad ≠ 0 -> rExpr n r = some x -> x.2 = r) /\ (∀ l r x, r.bad ≠ 0 -> rClimb n l r = some x -> x.2 = r) /\ (∀ l e r x, r.bad ≠ 0 -> rLoop n l e r = some x -> x.2 = r) /\ (∀ r x, r.bad ≠ 0 -> rSingle n r = some x -> x.2 = r) /\ (∀ r x, r.bad ≠ 0 -> rAtom n r = some x -> x.2 = r) := by
 induction n with
 | zero => refine ⟨?_, ?_, ?_, ?_, ?_⟩ <;> intros <;> simp_all [rExpr, rClimb, rLoop, rSingle, rAtom]
 | succ n ih =>
  obtain ⟨i1, i2, i3, i4, i5⟩ := ih;refine ⟨?_, ?_, ?_, ?_, ?_⟩
  ·intro r x h e;rw [rExpr, RS.is_bad h, RS.is_bad h, RS.is_bad h, RS.is_bad h] at e;exact i2 _ _ _ h (by simpa using e)
  ·intro l r x h e;rw [rClimb] at e
   split at e
   ·exact i4 _ _ h e
   rw [Option.bind_eq_some_iff] at e;obtain ⟨y, h1, h2⟩ := e;have := i2 _ _ _ h h1;rw [this] at h2;exact i3 _ _ _ _ h h2
  ·intro l e0 r x h e;rw [rLoop, if_pos h] at e;injection e with e; rw [<- e]
  ·intro r x h e;have : rUn r = none := by unfold rUn; simp [RS.is_bad h]
   rw [rSingle, this] at e;exact i5 _ _ h e
  intro r x h e;rw [rAtom, if_pos h] at e;injection e with e; rw [<- e]
theorem RR.exp {s : St} {r : RS} {F : Prop} (h : RR s r F) {w : Bs} (hw : w ∈ alls) : RR (s.exp w) (r.eat w) F := by
 have hne : w ≠ [] := fun e => nil_alls (e ▸ hw)
 rcases h with ⟨h, f⟩ | h
 ·unfold St.exp RS.eat;rw [h.is hw]
  cases e : s.is w with
  | true => exact .inl ⟨h.take hw e, f⟩
  | false => exact .inr (h.fail (by decide) (by simp [h.nx]))
 rw [h.1.exp hne, RS.eat_bad h.2.1]; exact .inr h
theorem Rel.name {s : St} {r : RS} (h : Rel s r) : RR s.name r.name (s.nx.kind = 0) := by
 unfold St.name RS.name;rw [<- h.nx]
 by_cases hk : s.nx.kind = 0
 ·rw [if_pos hk, if_pos hk, if_pos h.2.1];exact .inl ⟨h.tk (by omega), hk⟩
 rw [if_neg hk, if_neg hk];refine .inr ?_
 by_cases h4 : s.nx.kind = 4
 ·have : s.tk = s := by unfold St.tk; rw [if_pos h4]
  rw [this]; exact h.fail (by decide) rfl
 have := (h.tk h4).fail (t := s.nx) (c := 1) (by decide) rfl;unfold RS.bd RS.inc at this;unfold RS.bd;rw [if_pos h.2.1];simp only [h.2.1, if_true] at this;exact this
theorem RR.name {s : St} {r : RS} {F : Prop} (h : RR s r F) : RR s.name r.name (F /\ s.nx.text = r.at'.text /\ s.nx.kind = 0) := by
 rcases h with ⟨h, f⟩ | h
 ·rcases h.name with ⟨h1, h2⟩ | h1
  ·exact .inl ⟨h1, f, by rw [h.nx], h2⟩
  exact .inr h1
 rw [h.1.name, RS.name_bad h.2.1]; exact .inr h
theorem RR.seq {s s' : St} {r r' : RS} {F G : Prop} (h : RR s r F) (h1 : Rel s r -> RR s' r' G) (h2 : BB s r -> s' = s /\ r' = r) : RR s' r' (F /\ G) := by
 rcases h with ⟨h, f⟩ | h
 ·rcases h1 h with ⟨a, b⟩ | b
  ·exact .inl ⟨a, f, b⟩
  exact .inr b
 obtain ⟨rfl, rfl⟩ := h2 h; exact .inr h
theorem RR.imp {s : St} {r : RS} {F G : Prop} (h : RR s r F) (f : F -> G) : RR s r G := by
 rcases h with ⟨h, x⟩ | h
 ·exact .inl ⟨h, f x⟩
 exact .inr h
theorem Rel.rr {s : St} {r : RS} (h : Rel s r) : RR s r True := .inl ⟨h, trivial⟩
theorem bop_mem {w : Bs} {op : Bop} (h : bopOf w = some op) : op ∈ bops /\ op.sign = w := by
 unfold bopOf at h;exact ⟨List.mem_of_find?_eq_some h, by have := List.find?_some h; simpa using this⟩
theorem bop_tab : ∀ op ∈ bops, 1 <= op.level /\ op.level <= 6 /\ op.left = (if op.level = 3 then 4 else if op.level = 4 then 5 else op.level) /\ op.right = (if op.level = 4 then 4 else op.level + 1) /\ op.sign ∈ sigs /\ op.kind ≠ 0 /\ op.kind ≠ 27 /\ two ⟨2, op.sign, 0, 0⟩ = (op.level, op.kind) := by decide
theorem two_text (t : Tok) (h : t.kind = 2) : two t = two ⟨2, t.text, 0, 0⟩ := by unfold two; rw [if_neg (by simp [h])]; rfl
theorem two_bop {t : Tok} (h : TokOk t) {op : Bop} (e : bopOf t.text = some op) : two t = (op.level, op.kind) := by
 obtain ⟨h1, h2⟩ := bop_mem e;obtain ⟨a1, a2, a3, a4, a5, a6, a7, a8⟩ := bop_tab op h1
 have hk : t.kind = 2 := by
  rcases is_kind h (w := t.text) (by rw [<- h2]; exact List.mem_append_right _ a5) rfl with k | k
  ·exact k
  exfalso
  have h3 := h.k3 k;rw [<- h2] at h3;have : ∀ op ∈ bops, op.sign ∉ wds := by decide
  exact this op h1 h3
 rw [two_text t hk, <- h2]; exact a8
theorem two_none {t : Tok} (e : bopOf t.text = none) : (two t).1 = 0 := by
 unfold two
 split
 ·rfl
 have : (twoT.findIdx? fun p => p.1 == t.text) = none := by
  rw [List.findIdx?_eq_none_iff];intro p hp;unfold bopOf at e;rw [List.find?_eq_none] at e;have h2 : ∀ p ∈ twoT, ∃ op ∈ bops, op.sign = p.1 := by decide
  obtain ⟨op, ho, h3⟩ := h2 p hp;have := e op ho;rw [h3] at this
  simpa using this
 rw [this]
inductive RD : Nat -> Nat -> RE -> RS -> RE -> RS -> Prop
 | stop {hi lo : Nat} {e : RE} {r : RS} : hi < lo -> RD hi lo e r e r
 | go {hi lo m : Nat} {e e1 e2 : RE} {r r1 r2 : RS} : lo <= hi -> rLoop m hi e r = some (e1, r1) -> RD (hi - 1) lo e1 r1 e2 r2 -> RD hi lo e r e2 r2
theorem RD.snoc {hi lo' : Nat} {e e1 : RE} {r r1 : RS} (h : RD hi lo' e r e1 r1) : ∀ {lo m : Nat} {e2 : RE} {r2 : RS}, lo' = lo + 1 -> 1 <= lo -> lo <= hi -> rLoop m lo e1 r1 = some (e2, r2) -> RD hi lo e r e2 r2 := by
 induction h with
 | stop h =>
  intro lo m e2 r2 hl h1 h2 h3
  rename_i hi lo0 e0 r0
  obtain rfl : hi = lo := by omega
  exact .go (Nat.le_refl _) h3 (.stop (by omega))
 | go h h1 h2 ih =>
  intro lo m e2 r2 hl h3 h4 h5;exact .go h4 h1 (ih hl h3 (by omega) h5)
theorem loop_pass {m l : Nat} {e e1 : RE} {r r1 : RS} (h : rLoop m l e r = some (e1, r1)) (h2 : r.bad ≠ 0 \/ (two r.at').1 ≠ l) : e1 = e /\ r1 = r := by
 cases m with
 | zero => simp [rLoop] at h
 | succ m =>
  rw [rLoop] at h
  by_cases hb : r.bad = 0
  ·rw [if_neg (by simp [hb])] at h;rcases h2 with h2 | h2
   ·exact absurd hb h2
   rw [if_pos h2] at h;injection h with h; injection h with h3 h4; exact ⟨h3.symm, h4.symm⟩
  rw [if_pos hb] at h;injection h with h; injection h with h3 h4; exact ⟨h3.symm, h4.symm⟩
theorem RD.none {hi lo : Nat} {e e2 : RE} {r r2 : RS} (h : RD hi lo e r e2 r2) : (r.bad ≠ 0 \/ ∀ i, lo <= i -> i <= hi -> (two r.at').1 ≠ i) -> e2 = e /\ r2 = r := by
 induction h with
 | stop h => intro _; exact ⟨rfl, rfl⟩
 | go h h1 h2 ih =>
  intro h3;obtain ⟨rfl, rfl⟩ := loop_pass h1 (h3.imp id fun f => f _ h (Nat.le_refl _));exact ih (h3.imp id fun f i a b => f i a (by omega))
theorem RD.at' {hi lo : Nat} {e e2 : RE} {r r2 : RS} (h : RD hi lo e r e2 r2) : lo <= (two r.at').1 -> (two r.at').1 <= hi -> ∃ m e1 r1, rLoop m (two r.at').1 e r = some (e1, r1) /\ RD ((two r.at').1 - 1) lo e1 r1 e2 r2 := by
 induction h with
 | stop h => intro h1 h2; omega
 | @go hi lo m e e1 e2 r r1 r2 h h1 h2 ih =>
  intro h3 h4
  by_cases hj : (two r.at').1 = hi
  ·rw [hj]; exact ⟨m, e1, r1, h1, h2⟩
  obtain ⟨rfl, rfl⟩ := loop_pass h1 (.inr hj);exact ih h3 (by omega)
theorem climb_RD : ∀ (j l m : Nat) (r : RS) (e' : RE) (r' : RS), l + j = 7 -> 1 <= l -> rClimb m l r = some (e', r') -> ∃ m0 e0 r0, rSingle m0 r = some (e0, r0) /\ RD 6 l e0 r0 e' r'
 | 0, l, m, r, e', r', hl, h1, h => by
  obtain rfl : l = 7 := by omega
  cases m with
  | zero => simp [rClimb] at h
  | succ m =>
   rw [rClimb, if_pos rfl] at h;exact ⟨m, e', r', h, .stop (by decide)⟩
 | j + 1, l, m, r, e', r', hl, h1, h => by
  cases m with
  | zero => simp [rClimb] at h
  | succ m =>
   rw [rClimb, if_neg (by omega), Option.bind_eq_some_iff] at h;obtain ⟨⟨e1, r1⟩, h2, h3⟩ := h;obtain ⟨m0, e0, r0, h4, h5⟩ := climb_RD j (l + 1) m r e1 r1 (by omega) (by omega) h2;exact ⟨m0, e0, r0, h4, h5.snoc rfl h1 (by omega) h3⟩
def start (lev : Nat) : Nat := if lev = 7 then 6 else if lev = 3 then 2 else if lev = 4 then 3 else lev
def Inv (lev : Nat) (s : St) : Prop := ∀ op, bopOf s.nx.text = some op -> op.level <= start lev \/ (op.level = 3 /\ lev <= 3)
def Post (l : Nat) (s : St) : Prop := ∀ op, bopOf s.nx.text = some op -> op.level < l \/ (op.level = 3 /\ l <= 3)
structure Eqv (n : Nat) : Prop where
 ex : ∀ m s r u s' E r', Rel s r -> cExpr n s = some (u, s') -> rExpr m r = some (E, r') -> RR s' r' (E = fm u)
 bi : ∀ l m s r u s' E r', 1 <= l -> l <= 7 -> Rel s r -> cBin n l s = some (u, s') -> rClimb m l r = some (E, r') -> RR s' r' (E = fm u /\ Post l s')
 lo : ∀ l e lev s r u s' E r', 1 <= l -> l <= 7 -> 1 <= lev -> lev <= 7 -> (lev = 7 \/ l <= lev) -> Inv lev s -> Rel s r -> cLoop n l e lev s = some (u, s') -> RD (start lev) l (fm e) r E r' -> RR s' r' (E = fm u /\ Post l s')
 on : ∀ m s r u s' E r', Rel s r -> cOne n s = some (u, s') -> rSingle m r = some (E, r') -> RR s' r' (E = fm u)
 atm : ∀ m s r u s' E r', Rel s r -> cAtom n s = some (u, s') -> rAtom m r = some (E, r') -> RR s' r' (E = fm u)
 ar : ∀ m s r l s' L r', Rel s r -> cArgs n s = some (l, s') -> rKids m [] r = some (L, r') -> RR s' (r'.eat wClose) (L = l.map fm)
 mo : ∀ m l s r l2 s' L r', l ≠ [] -> Rel s r -> cMore n l s = some (l2, s') -> rKids m (l.map fm) r = some (L, r') -> RR s' (r'.eat wClose) (L = l2.map fm)
theorem Rel.un {s : St} {r : RS} (h : Rel s r) : rUn r = unOf s.nx.text := by
 unfold rUn unOf;rw [h.is (by decide), h.is (by decide), h.is (by decide), h.is (by decide), h.is (by decide)];simp only [St.is, beq_iff_eq]
theorem un_alls {w : Bs} {k : Nat} (h : unOf w = some k) : w ∈ alls /\ 5 <= k /\ k <= 9 := by
 unfold unOf at h
 split at h
 ·rename_i e; injection h with h; subst h e; exact ⟨by decide, by decide, by decide⟩
 split at h
 ·rename_i e; injection h with h; subst h e; exact ⟨by decide, by decide, by decide⟩
 split at h
 ·rename_i e; injection h with h; subst h e; exact ⟨by decide, by decide, by decide⟩
 split at h
 ·rename_i e; injection h with h; subst h e; exact ⟨by decide, by decide, by decide⟩
 split at h
 ·rename_i e; injection h with h; subst h e; exact ⟨by decide, by decide, by decide⟩
 cases h
theorem Rel.take' {s : St} {r : RS} (h : Rel s r) (e : s.nx.text ∈ alls) : Rel s.tk r.inc := h.tk (by rcases is_kind h.tok e rfl with k | k <;> omega)
theorem Eqv.seq {n : Nat} (I : Eqv n) {m : Nat} {s : St} {r : RS} {F : Prop} (h : RR s r F) {x : U × St} {y : RE × RS} (h1 : cExpr n s = some x) (h2 : rExpr m r = some y) : RR x.2 y.2 (F /\ y.1 = fm x.1) :=
 h.seq (fun h => I.ex m s r x.1 x.2 y.1 y.2 h h1 h2) fun h => ⟨(c_bad n).1 _ _ h.1 h1, (r_bad m).1 _ _ h.2.1 h2⟩
theorem eqv_loop {n : Nat} (I : Eqv n) (l : Nat) (e : U) (lev : Nat) (s : St) (r : RS) (u : U) (s' : St) (E : RE) (r' : RS) (h1 : 1 <= l) (h2 : l <= 7) (h3 : 1 <= lev) (h4 : lev <= 7) (h5 : lev = 7 \/ l <= lev) (hi : Inv lev s) (h : Rel s r)
  (hc : cLoop (n + 1) l e lev s = some (u, s')) (hr : RD (start lev) l (fm e) r E r') : RR s' r' (E = fm u /\ Post l s') := by
 rw [cLoop] at hc;have hb0 : r.bad = 0 := h.2.1
 cases ho : bopOf s.nx.text with
 | none =>
  rw [ho] at hc;injection hc with hc; injection hc with e1 e2;subst e1 e2;have h0 := two_none ho;rw [h.nx] at h0;obtain ⟨rfl, rfl⟩ := hr.none (.inr fun i a b => by omega);exact .inl ⟨h, rfl, fun op e => by rw [ho] at e; cases e⟩
 | some op =>
  rw [ho] at hc;simp only at hc;obtain ⟨b1, b2⟩ := bop_mem ho;obtain ⟨t1, t2, t3, t4, t5, t6, t7, t8⟩ := bop_tab op b1;have ht := two_bop h.tok ho;rw [h.nx] at ht;have ht1 : (two r.at').1 = op.level := by rw [ht]
  have ht2 : (two r.at').2 = op.kind := by rw [ht]
  have hv := hi op ho
  by_cases hst : op.level < l \/ lev < op.left
  ·rw [if_pos hst] at hc;injection hc with hc; injection hc with e1 e2;subst e1 e2
   obtain ⟨rfl, rfl⟩ := hr.none (.inr fun i a b => by
    rw [ht1];intro hx;unfold start at b hv;rcases hst with q | q
    ·omega
    rw [t3] at q
    repeat' split at q
    all_goals (repeat' split at b)
    all_goals (repeat' split at hv)
    all_goals omega)
   refine .inl ⟨h, rfl, fun op' e => ?_⟩;rw [ho] at e; injection e with e; subst e;rcases hst with q | q
   ·exact .inl q
   by_cases q2 : op.level < l
   ·exact .inl q2
   right
   rw [t3] at q;unfold start at hv
   repeat' split at q
   all_goals (repeat' split at hv)
   all_goals omega
  rw [if_neg hst, Option.bind_eq_some_iff] at hc;obtain ⟨⟨u2, s2⟩, hc1, hc2⟩ := hc;have q1 : l <= op.level := by omega
  have q2 : op.left <= lev := by omega
  have q3 : op.level <= start lev := by
   rcases hv with hv | ⟨hv, hv2⟩
   ·exact hv
   rw [t3, if_pos hv] at q2; omega
  obtain ⟨m, e1, r1, hl, hd⟩ := hr.at' (by rw [ht1]; exact q1) (by rw [ht1]; exact q3);have hin : Rel s.tk r.inc := h.take' (by rw [<- b2]; exact List.mem_append_right _ t5);rw [ht1] at hl hd;have hr1 : 1 <= op.right /\ op.right <= 7 := by rw [t4]; split <;> omega
  have hmk : ∀ E2, E2 = fm u2 -> mk op.kind r.at' [] [fm e, E2] = fm (prt op.kind s.nx [e, u2]) := fun E2 h2 => by
   rw [h2, <- h.nx];have := mk_fm op.kind s.nx [] [] 0 [e, u2];unfold fname at this;rw [if_neg t6, if_neg t7] at this;exact this
  have key : ∃ m2 E2 r2, rClimb m2 op.right r.inc = some (E2, r2) /\ (r2.bad ≠ 0 -> r' = r2) /\ (op.level = 3 \/ op.level = 4 -> e1 = mk op.kind r.at' [] [fm e, E2] /\ r1 = r2) /\ (op.level ≠ 3 -> op.level ≠ 4 -> ∃ m3, rLoop m3 op.level (mk op.kind r.at' [] [fm e, E2]) r2 = some (e1, r1)) := by
   cases m with
   | zero => simp [rLoop] at hl
   | succ m =>
    rw [rLoop, if_neg (by rw [hb0]; decide), if_neg (by rw [ht1]; simp), ht2] at hl
    by_cases q4 : op.level = 4
    ·rw [if_pos q4, Option.bind_eq_some_iff] at hl;obtain ⟨⟨E2, r2⟩, a1, a2⟩ := hl;injection a2 with a2; injection a2 with a3 a4;subst a3 a4;exact ⟨m, E2, r2, by rw [t4, if_pos q4]; exact a1, fun hb => (hd.none (.inl hb)).2, fun _ => ⟨rfl, rfl⟩, fun _ h => absurd q4 h⟩
    rw [if_neg q4, Option.bind_eq_some_iff] at hl;obtain ⟨⟨E2, r2⟩, a1, a2⟩ := hl
    by_cases q5 : op.level = 3
    ·rw [if_pos q5] at a2;injection a2 with a2; injection a2 with a3 a4;subst a3 a4;exact ⟨m, E2, r2, by rw [t4, if_neg q4]; exact a1, fun hb => (hd.none (.inl hb)).2, fun _ => ⟨rfl, rfl⟩, fun h _ => absurd q5 h⟩
    rw [if_neg q5] at a2;refine ⟨m, E2, r2, by rw [t4, if_neg q4]; exact a1, fun hb => ?_, fun h => by exfalso; omega, fun _ _ => ⟨m, a2⟩⟩;obtain ⟨-, rfl⟩ := loop_pass a2 (.inl hb);exact (hd.none (.inl hb)).2
  obtain ⟨m2, E2, r2, k1, k2, k3, k4⟩ := key;rcases I.bi op.right m2 s.tk r.inc u2 s2 E2 r2 hr1.1 hr1.2 hin hc1 k1 with ⟨g1, g2, g3⟩ | g1
  ·have hmk2 := hmk E2 g2;refine I.lo l (prt op.kind s.nx [e, u2]) op.level s2 r2 u s' E r' h1 h2 t1 (by omega) (.inr q1) ?_ g1 hc2 ?_
   ·intro op' ho';rcases g3 op' ho' with g | ⟨g, g'⟩
    ·rw [t4] at g
     by_cases q9 : op'.level = 3 /\ op.level <= 3
     ·exact .inr q9
     left
     unfold start
     repeat' split at g
     all_goals (repeat' split)
     all_goals omega
    rw [t4] at g'
    right
    split at g' <;> omega
   rw [<- hmk2]
   by_cases q4 : op.level = 3 \/ op.level = 4
   ·obtain ⟨a1, a2⟩ := k3 q4;rw [<- a1, <- a2];have : start op.level = op.level - 1 := by unfold start; rcases q4 with q | q <;> rw [q] <;> rfl
    rw [this]; exact hd
   obtain ⟨m3, a1⟩ := k4 (by omega) (by omega);have : start op.level = op.level := by unfold start; rw [if_neg (by omega), if_neg (by omega), if_neg (by omega)]
   rw [this];exact .go q1 a1 hd
  have e1 := (c_bad n).2.2.1 _ _ _ _ _ g1.1 hc2;simp only at e1;rw [e1, k2 g1.2.1];exact .inr g1
theorem mk_fm' (k : Nat) (t : Tok) (ks : List U) (h0 : k ≠ 0) (h1 : k ≠ 27) : mk k t [] (ks.map fm) = fm (prt k t ks) := by
 have := mk_fm k t [] [] 0 ks;unfold fname at this;rw [if_neg h0, if_neg h1] at this;exact this
theorem mk_nm (k : Nat) (t : Tok) (nm ot : Bs) (ks : List U) (h0 : k ≠ 0) (h1 : k ≠ 27) : mk k t nm (ks.map fm) = fm (.node k nm ot 0 t.line t.col ks) := by
 have := mk_fm k t nm ot 0 ks;unfold fname at this;rw [if_neg h0, if_neg h1] at this;exact this
theorem eqv_bin {n : Nat} (I : Eqv n) (l m : Nat) (s : St) (r : RS) (u : U) (s' : St) (E : RE) (r' : RS) (h1 : 1 <= l) (h2 : l <= 7) (h : Rel s r) (hc : cBin (n + 1) l s = some (u, s')) (hr : rClimb m l r = some (E, r')) : RR s' r' (E = fm u /\ Post l s') := by
 rw [cBin, Option.bind_eq_some_iff] at hc;obtain ⟨⟨u1, s1⟩, c1, c2⟩ := hc;obtain ⟨m0, e0, r0, d1, d2⟩ := climb_RD (7 - l) l m r E r' (by omega) h1 hr;rcases I.on m0 s r u1 s1 e0 r0 h c1 d1 with ⟨g1, g2⟩ | g1
 ·subst g2;refine I.lo l u1 7 s1 r0 u s' E r' h1 h2 (by decide) (by decide) (.inl rfl) ?_ g1 c2 d2;intro op ho;exact .inl (bop_tab op (bop_mem ho).1).2.1
 have e1 := (c_bad n).2.2.1 _ _ _ _ _ g1.1 c2;simp only at e1;rw [e1, (d2.none (.inl g1.2.1)).2];exact .inr g1
theorem eqv_one {n : Nat} (I : Eqv n) (m : Nat) (s : St) (r : RS) (u : U) (s' : St) (E : RE) (r' : RS) (h : Rel s r) (hc : cOne (n + 1) s = some (u, s')) (hr : rSingle m r = some (E, r')) : RR s' r' (E = fm u) := by
 cases m with
 | zero => simp [rSingle] at hr
 | succ m =>
  rw [rSingle, h.un] at hr;rw [cOne] at hc
  cases ho : unOf s.nx.text with
  | none =>
   rw [ho] at hr hc;exact I.atm m s r u s' E r' h hc hr
  | some k =>
   rw [ho] at hr hc;simp only [Option.bind_eq_some_iff] at hr hc;obtain ⟨⟨u1, s1⟩, c1, c2⟩ := hc;obtain ⟨⟨e1, r1⟩, d1, d2⟩ := hr;injection c2 with c2; injection c2 with c3 c4;injection d2 with d2; injection d2 with d3 d4;obtain ⟨q1, q2, q3⟩ := un_alls ho;subst c3 c4 d3 d4;refine (I.on m s.tk r.inc u1 s1 e1 r1 (h.take' q1) c1 d1).imp fun e => ?_
   rw [e, <- h.nx];exact mk_fm' k s.nx [u1] (by omega) (by omega)
theorem eqv_more {n : Nat} (I : Eqv n) (m : Nat) (l : List U) (s : St) (r : RS) (l2 : List U) (s' : St) (L : List RE) (r' : RS) (hl : l ≠ []) (h : Rel s r) (hc : cMore (n + 1) l s = some (l2, s')) (hr : rKids m (l.map fm) r = some (L, r')) : RR s' (r'.eat wClose) (L = l2.map fm) := by
 cases m with
 | zero => simp [rKids] at hr
 | succ m =>
  rw [rKids] at hr;rw [cMore] at hc;have hlen : (l.map fm).length > 0 := by rw [List.length_map]; exact List.length_pos_iff.2 hl
  by_cases hcm : s.is wComma = true
  ·rw [if_pos hcm, Option.bind_eq_some_iff] at hc;obtain ⟨⟨u1, s1⟩, c1, c2⟩ := hc
   have hne : r.is wClose = false := by
    rw [h.is (by decide)];have := St.is_true hcm;unfold St.is; rw [this]; decide
   rw [if_neg (by rw [hne, h.2.1]; simp), if_pos hlen, Option.bind_eq_some_iff] at hr;obtain ⟨⟨e1, r1⟩, d1, d2⟩ := hr;have heat : r.eat wComma = r.inc := by unfold RS.eat; rw [h.is (by decide), if_pos hcm]
   rw [heat] at d1;rcases I.ex m s.tk r.inc u1 s1 e1 r1 (h.take (by decide) hcm) c1 d1 with ⟨g1, g2⟩ | g1
   ·subst g2;have e9 : l.map fm ++ [fm u1] = (l ++ [u1]).map fm := by simp
    simp only at d2;rw [e9] at d2;exact I.mo m (l ++ [u1]) s1 r1 l2 s' L r' (by simp) g1 c2 d2
   simp only at c2 d2
   have a1 : s' = s1 := by
    cases n with
    | zero => simp [cMore] at c2
    | succ n =>
     rw [cMore, g1.1.is (by decide)] at c2;injection c2 with c2; injection c2 with c3 c4;rw [<- c4]; exact g1.1.exp (by decide)
   have a2 : r' = r1 := by
    cases m with
    | zero => simp [rKids] at d2
    | succ m =>
     rw [rKids, if_pos (.inl g1.2.1)] at d2;injection d2 with d2; injection d2 with d3 d4;exact d4.symm
   rw [a1, a2, RS.eat_bad g1.2.1];exact .inr g1
  rw [if_neg hcm] at hc;injection hc with hc; injection hc with c1 c2;subst c1
  by_cases hcl : s.is wClose = true
  ·rw [if_pos (.inr (by rw [h.is (by decide)]; exact hcl))] at hr;injection hr with hr; injection hr with d1 d2;subst d1 d2 c2;exact (h.rr.exp (by decide)).imp fun _ => rfl
  have hcl2 : r.is wClose = false := by rw [h.is (by decide)]; simpa using hcl
  have hcm2 : r.is wComma = false := by rw [h.is (by decide)]; simpa using hcm
  rw [if_neg (by rw [hcl2, h.2.1]; simp), if_pos hlen, Option.bind_eq_some_iff] at hr;obtain ⟨⟨e1, r1⟩, d1, d2⟩ := hr;have heat : r.eat wComma = r.bd r.at' 1 := by unfold RS.eat; rw [hcm2]; rfl
  have heat2 : s.exp wClose = s.fail s.nx 1 := by unfold St.exp; rw [if_neg hcl]
  have hb : BB (s.fail s.nx 1) (r.bd r.at' 1) := h.fail (by decide) (by rw [h.nx]);rw [heat] at d1;have a1 := (r_bad m).1 _ _ hb.2.1 d1;simp only at a1 d2;rw [a1] at d2
  have a2 : r' = r.bd r.at' 1 := by
   cases m with
   | zero => simp [rKids] at d2
   | succ m =>
    rw [rKids, if_pos (.inl hb.2.1)] at d2;injection d2 with d2; injection d2 with d3 d4;exact d4.symm
  rw [a2, RS.eat_bad hb.2.1, <- c2, heat2];exact .inr hb
theorem more_bad {n : Nat} {l l2 : List U} {s s' : St} (h : SB s) (e : cMore n l s = some (l2, s')) : s' = s := by
 cases n with
 | zero => simp [cMore] at e
 | succ n =>
  rw [cMore, h.is (by decide)] at e;injection e with e; injection e with e1 e2;rw [<- e2]; exact h.exp (by decide)
theorem kids_bad {n : Nat} {l l2 : List RE} {r r' : RS} (h : r.bad ≠ 0) (e : rKids n l r = some (l2, r')) : r' = r := by
 cases n with
 | zero => simp [rKids] at e
 | succ n =>
  rw [rKids, if_pos (.inl h)] at e;injection e with e; injection e with e1 e2;exact e2.symm
theorem eqv_args {n : Nat} (I : Eqv n) (m : Nat) (s : St) (r : RS) (l : List U) (s' : St) (L : List RE) (r' : RS) (h : Rel s r) (hc : cArgs (n + 1) s = some (l, s')) (hr : rKids m [] r = some (L, r')) : RR s' (r'.eat wClose) (L = l.map fm) := by
 rw [cArgs] at hc
 cases m with
 | zero => simp [rKids] at hr
 | succ m =>
  by_cases hcl : s.is wClose = true
  ·rw [if_pos hcl] at hc;rw [rKids, if_pos (.inr (by rw [h.is (by decide)]; exact hcl))] at hr;injection hc with hc; injection hc with c3 c4;injection hr with hr; injection hr with d3 d4;subst c3 c4 d3 d4;refine .inl ⟨?_, rfl⟩;have : r.eat wClose = r.inc := by unfold RS.eat; rw [h.is (by decide), if_pos hcl]
   rw [this]; exact h.take (by decide) hcl
  rw [if_neg hcl, Option.bind_eq_some_iff] at hc;have hcl2 : r.is wClose = false := by rw [h.is (by decide)]; simpa using hcl
  rw [rKids, if_neg (by rw [hcl2]; simp [h.2.1]), if_neg (by simp), Option.bind_eq_some_iff] at hr;obtain ⟨⟨u2, s2⟩, c1, c2⟩ := hc;obtain ⟨⟨E2, r2⟩, d1, d2⟩ := hr;simp only [List.nil_append] at c2 d2;rcases I.ex m s r u2 s2 E2 r2 h c1 d1 with ⟨g1, g2⟩ | g1
  ·subst g2;exact I.mo m [u2] s2 r2 l s' L r' (by simp) g1 c2 d2
  rw [more_bad g1.1 c2, kids_bad g1.2.1 d2, RS.eat_bad g1.2.1];exact .inr g1
theorem is_kd {s : St} {r : RS} (h : Rel s r) {w : Bs} (hw : w ∈ alls) (hk : s.nx.kind ≠ 2) (hk2 : s.nx.kind ≠ 3) : s.is w = false := by
 cases e : s.is w with
 | false => rfl
 | true => rcases h.kind hw e with k | k <;> contradiction
theorem eqv_atom {n : Nat} (I : Eqv n) (m : Nat) (s : St) (r : RS) (u : U) (s' : St) (E : RE) (r' : RS) (h : Rel s r) (hc : cAtom (n + 1) s = some (u, s')) (hr : rAtom m r = some (E, r')) : RR s' r' (E = fm u) := by
 cases m with
 | zero => simp [rAtom] at hr
 | succ m =>
  rw [rAtom, if_neg (by simp [h.2.1]), h.is (by decide), h.is (by decide), h.is (by decide), h.is (by decide), h.is (by decide), <- h.nx] at hr;rw [cAtom] at hc
  by_cases hk1 : s.nx.kind = 1
  ·rw [if_pos hk1] at hc;have hz : ∀ w ∈ alls, s.is w = false := fun w hw => is_kd h hw (by omega) (by omega)
   rw [hz _ (by decide), hz _ (by decide), hz _ (by decide), hz _ (by decide), if_neg (by decide), if_neg (by decide), if_neg (by decide), if_neg (by decide), if_pos hk1] at hr;injection hc with hc; injection hc with c1 c2;injection hr with hr; injection hr with d1 d2;subst c1 c2 d1 d2;refine .inl ⟨h.tk (by omega), ?_⟩;have := mk_fm 0 s.nx [] [] (dn s.nx.text) [];unfold fname at this;rw [if_pos rfl] at this
   have hz2 : zText ((dn s.nx.text : Nat) : Int) = s.nx.text := by
    unfold zText;rw [if_neg (by omega), Int.natAbs_natCast];exact ((h.tok.k1 hk1).2).text
   rw [hz2] at this;exact this
  rw [if_neg hk1] at hc hr
  by_cases hk0 : s.nx.kind = 0
  ·rw [if_pos hk0] at hc;have hz : ∀ w ∈ alls, s.is w = false := fun w hw => is_kd h hw (by omega) (by omega)
   have hin : Rel s.tk r.inc := h.tk (by omega);have hnm : r.name = r.inc := by unfold RS.name; rw [<- h.nx, if_pos hk0, if_pos h.2.1]
   rw [hz _ (by decide), hz _ (by decide), hz _ (by decide), hz _ (by decide), hz _ (by decide), if_neg (by decide), if_neg (by decide), if_neg (by decide), if_neg (by decide), if_neg (by decide), hnm, hin.is (by decide)] at hr
   by_cases ho : s.tk.is wOpen = true
   ·rw [if_pos ho, Option.bind_eq_some_iff] at hc hr;obtain ⟨⟨l1, s1⟩, c1, c2⟩ := hc;obtain ⟨⟨L1, r1⟩, d1, d2⟩ := hr;injection c2 with c2; injection c2 with c3 c4;injection d2 with d2; injection d2 with d3 d4;subst c3 c4 d3 d4;have hin2 : Rel s.tk.tk r.inc.inc := hin.take (by decide) ho;have key := I.ar m s.tk.tk r.inc.inc l1 s1 L1 r1 hin2 c1 d1;refine key.imp fun e => ?_
    rw [e];exact mk_nm 24 s.nx s.nx.text [] l1 (by decide) (by decide)
   rw [if_neg ho] at hc hr;injection hc with hc; injection hc with c1 c2;injection hr with hr; injection hr with d1 d2;subst c1 c2 d1 d2;exact .inl ⟨hin, mk_nm 3 s.nx s.nx.text [] [] (by decide) (by decide)⟩
  rw [if_neg hk0] at hc
  by_cases w1 : s.is wV = true
  ·have w2 : s.is wTrue = false := by unfold St.is; rw [St.is_true w1]; decide
   have w3 : s.is wFalse = false := by unfold St.is; rw [St.is_true w1]; decide
   rw [if_pos w1] at hc;rw [w2, w3, w1, if_neg (by decide), if_neg (by decide), if_pos rfl] at hr;injection hc with hc; injection hc with c1 c2;injection hr with hr; injection hr with d1 d2;subst c1 c2 d1 d2;refine .inl ⟨h.take (by decide) w1, ?_⟩;have := mk_nm 3 s.nx wV [] [] (by decide) (by decide);unfold nmd;rw [St.is_true w1]; exact this
  rw [if_neg w1] at hc hr
  by_cases w2 : s.is wTrue = true
  ·rw [if_pos w2] at hc hr;injection hc with hc; injection hc with c1 c2;injection hr with hr; injection hr with d1 d2;subst c1 c2 d1 d2;exact .inl ⟨h.take (by decide) w2, mk_fm' 1 s.nx [] (by decide) (by decide)⟩
  rw [if_neg w2] at hc hr
  by_cases w3 : s.is wFalse = true
  ·rw [if_pos w3] at hc hr;injection hc with hc; injection hc with c1 c2;injection hr with hr; injection hr with d1 d2;subst c1 c2 d1 d2;exact .inl ⟨h.take (by decide) w3, mk_fm' 2 s.nx [] (by decide) (by decide)⟩
  rw [if_neg w3] at hc hr
  by_cases w4 : s.is wNil = true
  ·rw [if_pos w4] at hc hr;injection hc with hc; injection hc with c1 c2;injection hr with hr; injection hr with d1 d2;subst c1 c2 d1 d2;exact .inl ⟨h.take (by decide) w4, mk_fm' 4 s.nx [] (by decide) (by decide)⟩
  rw [if_neg w4] at hc hr
  by_cases w5 : s.is wOpen = true
  ·rw [if_pos w5, Option.bind_eq_some_iff] at hc hr;obtain ⟨⟨u1, s1⟩, c1, c2⟩ := hc;obtain ⟨⟨E1, r1⟩, d1, d2⟩ := hr;injection c2 with c2; injection c2 with c3 c4;injection d2 with d2; injection d2 with d3 d4;subst c3 c4 d3 d4;exact (I.ex m s.tk r.inc u1 s1 E1 r1 (h.take (by decide) w5) c1 d1).exp (by decide)
  rw [if_neg w5] at hc hr;rcases h.name with ⟨-, g⟩ | g
  ·exact absurd g hk0
  rw [RS.is_bad g.2.1, if_neg (by decide)] at hr;injection hc with hc; injection hc with c1 c2;injection hr with hr; injection hr with d1 d2;subst c1 c2 d1 d2;refine .inr ?_;have : s.name = s.tk.fail s.nx 1 := by unfold St.name; rw [if_neg hk0]
  rw [<- this]; exact g
theorem eqv_ex {n : Nat} (I : Eqv n) (J : ∀ k, k < n -> Eqv k) (m : Nat) (s : St) (r : RS) (u : U) (s' : St) (E : RE) (r' : RS) (h : Rel s r) (hc : cExpr (n + 1) s = some (u, s')) (hr : rExpr m r = some (E, r')) : RR s' r' (E = fm u) := by
 cases m with
 | zero => simp [rExpr] at hr
 | succ m =>
 rw [rExpr, h.is (by decide), h.is (by decide), h.is (by decide), h.is (by decide)] at hr;rw [cExpr] at hc
 by_cases w1 : s.is wLet = true
 ·rw [if_pos w1] at hc hr
  cases n with
  | zero => simp [cLet] at hc
  | succ n =>
  have K := J n (by omega);rw [cLet] at hc;simp only [Option.bind_eq_some_iff] at hc hr;obtain ⟨x1, c1, x2, c2, c3⟩ := hc;obtain ⟨y1, d1, y2, d2, d3⟩ := hr;injection c3 with c3; injection c3 with c4 c5;injection d3 with d3; injection d3 with d4 d5;subst c4 c5 d4 d5;have h1 := K.seq (((h.take (by decide) w1).rr.name).exp (w := wEq) (by decide)) c1 d1;have h2 := K.seq (h1.exp (w := wIn) (by decide)) c2 d2;refine h2.imp fun ⟨⟨⟨_, e0, _⟩, e1⟩, e2⟩ => ?_
  rw [e1, e2, <- e0, <- h.nx];exact mk_nm 26 s.nx s.tk.nx.text [] [x1.1, x2.1] (by decide) (by decide)
 rw [if_neg w1] at hc hr
 by_cases w2 : s.is wIf = true
 ·rw [if_pos w2] at hc hr
  cases n with
  | zero => simp [cIf] at hc
  | succ n =>
  have K := J n (by omega);rw [cIf] at hc;simp only [Option.bind_eq_some_iff] at hc hr;obtain ⟨x1, c1, x2, c2, x3, c3, c4⟩ := hc;obtain ⟨y1, d1, y2, d2, y3, d3, d4⟩ := hr;injection c4 with c4; injection c4 with c5 c6;injection d4 with d4; injection d4 with d5 d6;subst c5 c6 d5 d6;have h1 := K.seq (h.take (by decide) w2).rr c1 d1;have h2 := K.seq (h1.exp (w := wThen) (by decide)) c2 d2;have h3 := K.seq (h2.exp (w := wElse) (by decide)) c3 d3;refine h3.imp fun ⟨⟨⟨_, e1⟩, e2⟩, e3⟩ => ?_
  rw [e1, e2, e3, <- h.nx];exact mk_fm' 25 s.nx [x1.1, x2.1, x3.1] (by decide) (by decide)
 rw [if_neg w2] at hc hr
 by_cases w3 : s.is wMatch = true
 ·rw [if_pos w3] at hc hr
  cases n with
  | zero => simp [cMatch] at hc
  | succ n =>
  have K := J n (by omega);rw [cMatch] at hc;simp only [Option.bind_eq_some_iff] at hc hr;obtain ⟨x1, c1, x2, c2, x3, c3, c4⟩ := hc;obtain ⟨y1, d1, y2, d2, y3, d3, d4⟩ := hr;injection c4 with c4; injection c4 with c5 c6;injection d4 with d4; injection d4 with d5 d6;subst c5 c6 d5 d6;have h1 := K.seq (h.take (by decide) w3).rr c1 d1;have h2 := K.seq (((h1.exp (w := wWith) (by decide)).exp (w := wNil) (by decide)).exp (w := wArrow) (by decide)) c2 d2;have h3 := K.seq (((((h2.exp (w := wBar) (by decide)).name).exp (w := wCons) (by decide)).name).exp (w := wArrow) (by decide)) c3 d3;refine h3.imp fun ⟨⟨⟨⟨⟨_, e1⟩, e2⟩, n1, _⟩, n2, _⟩, e3⟩ => ?_
  rw [e1, e2, e3, <- n1, <- n2, <- h.nx];have := mk_fm 27 s.nx (x2.2.exp wBar).nx.text (((x2.2.exp wBar).name).exp wCons).nx.text 0 [x1.1, x2.1, x3.1];unfold fname at this;rw [if_neg (by decide), if_pos rfl] at this;exact this
 rw [if_neg w3] at hc hr
 by_cases w4 : s.is wAssert = true
 ·rw [if_pos w4] at hc hr
  cases n with
  | zero => simp [cAssert] at hc
  | succ n =>
  have K := J n (by omega);rw [cAssert] at hc;simp only [Option.bind_eq_some_iff] at hc hr;obtain ⟨x1, c1, x2, c2, c3⟩ := hc;obtain ⟨y1, d1, y2, d2, d3⟩ := hr;injection c3 with c3; injection c3 with c4 c5;injection d3 with d3; injection d3 with d4 d5;subst c4 c5 d4 d5;have h1 := K.seq (h.take (by decide) w4).rr c1 d1;have h2 := K.seq (h1.exp (w := wSemi) (by decide)) c2 d2;refine h2.imp fun ⟨⟨_, e1⟩, e2⟩ => ?_
  rw [e1, e2, <- h.nx];exact mk_fm' 28 s.nx [x1.1, x2.1] (by decide) (by decide)
 rw [if_neg w4] at hc hr;exact (I.bi 1 m s r u s' E r' (by decide) (by decide) h hc hr).imp And.left
theorem eqv_all (n : Nat) : Eqv n := by
 induction n using Nat.strongRecOn with
 | ind n ih =>
  cases n with
  | zero => constructor <;> intros <;> simp_all [cExpr, cBin, cLoop, cOne, cAtom, cMore, cArgs]
  | succ n =>
   have I := ih n (by omega)
   exact ⟨fun m s r u s' E r' h hc hr => eqv_ex I (fun k hk => ih k (by omega)) m s r u s' E r' h hc hr,
    fun l m s r u s' E r' h1 h2 h hc hr => eqv_bin I l m s r u s' E r' h1 h2 h hc hr,
    fun l e lev s r u s' E r' h1 h2 h3 h4 h5 hi h hc hr => eqv_loop I l e lev s r u s' E r' h1 h2 h3 h4 h5 hi h hc hr,
    fun m s r u s' E r' h hc hr => eqv_one I m s r u s' E r' h hc hr,
    fun m s r u s' E r' h hc hr => eqv_atom I m s r u s' E r' h hc hr,
    fun m s r l s' L r' h hc hr => eqv_args I m s r l s' L r' h hc hr,
    fun m l s r l2 s' L r' hl h hc hr => eqv_more I m l s r l2 s' L r' hl h hc hr⟩
theorem eqv_whole {n m : Nat} {s : St} {r : RS} {F : Prop} (h : RR s r F) {x : U × St} {y : Bs × RS} (hc : cAll n s = some x) (hr : rAll m r = some y) : RR x.2 y.2 (F /\ y.1 = frm x.1) := by
 unfold cAll at hc;unfold rAll at hr;rw [Option.bind_eq_some_iff] at hc hr;obtain ⟨⟨u, s1⟩, c1, c2⟩ := hc;obtain ⟨⟨E, r1⟩, d1, d2⟩ := hr;injection c2 with c2;injection d2 with d2;subst c2 d2;refine h.seq (fun h => ?_) fun h => ?_
 ·rcases (eqv_all n).ex m s r u s1 E r1 h c1 d1 with ⟨g1, g2⟩ | g1
  ·subst g2;simp only [fm, g1.2.1, true_and]
   by_cases hd : 60 < ud u
   ·rw [if_pos hd, if_pos hd]; exact .inr (g1.fail (by decide) (by rw [h.nx]))
   rw [if_neg hd, if_neg hd]; exact .inl ⟨g1, trivial⟩
  simp only [g1.2.1, false_and, if_false]
  split
  ·rw [g1.1.fail]; exact .inr g1
  exact .inr g1
 have e1 := (c_bad n).1 _ _ h.1 c1;have e2 := (r_bad m).1 _ _ h.2.1 d1;simp only at e1 e2;subst e1 e2;refine ⟨?_, ?_⟩
 ·simp only; split
  ·exact h.1.fail _ _
  rfl
 simp only [h.2.1, false_and, if_false]
end Go.Proofs.YtdpfgfkoboihcaaGreatDoor
namespace Go.Proofs.YtdpfgfkoboihcaaGreatDoor
open Go.RowKit
set_option maxRecDepth 100000
def New (w : World) (v : Value) : Prop := ∃ ao n c, v = .slice ao n c /\ (n ≠ 0 -> ∀ a, ao = some a -> w.heap.size <= a.block)
theorem trim_new (w : World) (cap : Nat) (xs : List Nat) : New w (trimmedOf (some ⟨w.heap.size, 0, none⟩) cap xs) := by
 unfold trimmedOf
 split
 ·exact ⟨_, _, _, rfl, fun h => absurd rfl h⟩
 exact ⟨_, _, _, rfl, fun _ a h => by injection h with h; subst h; exact Nat.le_refl _⟩
theorem parse_new (l : List UInt8) (w : World) (h : Numeral l) :
  Calls Tryz.prog 169 #[.string ⟨l.toArray⟩] w fun e w' => ∃ v, e = .returned (.tuple #[v, .bool true]) /\ Sl w' .u32 v (dig L32 (dn l)) /\ New w v /\ Below w.heap.size w w' := by
 obtain ⟨i0, hi, hz0, hz1, hz2⟩ := info_parts info51;have hsz : (⟨l.toArray⟩ : ByteArray).size = l.length := rfl;have HN := Lib.hid h;have hl := h.2.1;have HD := Lib.hid h.2.2.2;clear h;go_enter Tryz.func169, Tryz.ntmps169
 go_wp2_with fail
 refine (isNum_true l w HN.out).mono ?_; rintro e w' ⟨rfl, hw'⟩; obtain rfl := hw'.symm;go_wp2_with (at_make; refine wpList_make_blk _ rfl _ _ 40 rfl 138 i0 .u32 Tryz.underlying40 hi hz0 hz1 _ _ _ _ (l.length / 9 + 1) rfl rfl (by omega) (by omega) (by omega) (by omega) ?_; intro w1 hB1 hb1 hs1)
 go_loopw [0] (fun sv wr => ∃ (pre rest : List UInt8) (s' : List Nat), sv = .string ⟨rest.toArray⟩ /\ Hid (pre ++ rest = l) /\ Blk wr w.heap.size .u32 138 s' /\ Dig L32 s' /\ Hid (s'.length = l.length / 9 + 1) /\ Hid (val L32 s' = dn pre) /\ Hid (pre = [] \/ rest.length % 9 = 0) /\ Below w.heap.size w wr) (fun sv _ => sizeOfS sv)
 case atStart => exact ⟨[], l, _, rfl, Lib.hid rfl, hB1, Dig.replicate (by decide) _, Lib.hid (by simp), Lib.hid (by rw [val_replicate_zero]; rfl), Lib.hid (.inl rfl), hb1⟩
 case round =>
  clear hB1 hb1 hs1;obtain ⟨pre, rest, s', rfl, HP, hB, hd, HL, HV, HM, hb⟩ := hrel;have hsz' : (⟨rest.toArray⟩ : ByteArray).size = rest.length := rfl;have hrl : rest.length <= 300 := by have := congrArg List.length HP.out; rw [lsa] at this; omega
  by_cases h0 : 0 < rest.length
  ·go_wp2_with fail
   rw [extract_take];have hkl : (rest.length - 1) % 9 + 1 <= rest.length := by omega
   have HR : Hid (AllD rest) := Lib.hid (by have := HD.out; rw [<- HP.out] at this; exact this.right);have HG : Hid ((rest.take ((rest.length - 1) % 9 + 1)).length = (rest.length - 1) % 9 + 1) := Lib.hid (by rw [List.length_take]; omega);have HP2 : Hid ((pre ++ rest.take ((rest.length - 1) % 9 + 1)) ++ rest.drop ((rest.length - 1) % 9 + 1) = l) := Lib.hid (by rw [List.append_assoc, List.take_append_drop]; exact HP.out)
   have HS := Lib.hid (parse_sum (pre := pre) (grp := rest.take ((rest.length - 1) % 9 + 1)) (by
    rcases HM.out with h | h
    ·exact .inl h
    right; rw [HG.out]; omega))
   have HRM := Lib.hid (parse_room (l := l) (m := pre ++ rest.take ((rest.length - 1) % 9 + 1)) (by have := HD.out; rw [<- HP2.out] at this; exact this.left) (by have := congrArg List.length HP2.out; rw [lsa] at this; omega))
   have hgb : dn (rest.take ((rest.length - 1) % 9 + 1)) < 4294967296 := by
    have h1 := dn_lt (HR.out.take ((rest.length - 1) % 9 + 1));have h2 : 10 ^ (rest.take ((rest.length - 1) % 9 + 1)).length <= 10 ^ 9 := Nat.pow_le_pow_right (by decide) (by rw [HG.out]; omega);have h3 : 10 ^ 9 = 1000000000 := rfl
    omega
   have HGB := Lib.hid hgb;clear hgb;refine (number_any _ wr (HR.out.take _) (by rw [HG.out]; omega)).mono ?_; rintro e w' ⟨rfl, hw'⟩; obtain rfl := hw'.symm;have hws := ws_part (i := 0) (n := l.length / 9 + 1) hB (by have := HL.out; omega) (by have := HL.out; omega) (by have := HL.out; omega);rw [List.take_zero, List.drop_zero] at hws;go_wp2_with fail
   refine (mulAdd_any w.heap.size [] s' [] _ 1000000000 (dn (rest.take ((rest.length - 1) % 9 + 1))) wr hws hd (by decide) HGB.out (by rw [HV.out, HS.out, HL.out]; exact HRM.out)).mono ?_;rintro e w3 ⟨t, rfl, hw3, hg3, hl3, hd3, hv3⟩;rw [HV.out, HS.out] at hv3;have HL3 := Lib.hid hl3;have HV3 := Lib.hid hv3;have hB3 := ws_whole hw3 (by rw [hl3, HL.out]; omega);rw [List.nil_append, List.append_nil] at hB3;have hb3 := hb.trans (below_of_grown' hg3 (Nat.le_refl _) hb.size);clear hl3 hv3 hw3 hg3;go_wp2_with fail
   go_roundw
   case rel => exact ⟨pre ++ rest.take ((rest.length - 1) % 9 + 1), rest.drop ((rest.length - 1) % 9 + 1), t, by rw [<- extract_drop], HP2, hB3, hd3, Lib.hid (by rw [HL3.out]; exact HL.out), HV3, Lib.hid (.inr (by rw [List.length_drop]; omega)), hb3⟩
   case measure => simp [sizeOfS]; omega
  have hr0 : rest = [] := List.eq_nil_of_length_eq_zero (by omega);have HV' := Lib.hid (show val L32 s' = dn l by rw [HV.out, <- HP.out, hr0, List.append_nil]);have hsl := hB.sl 0 (l.length / 9 + 1) (l.length / 9 + 1) (by rw [HL.out]; omega) (Nat.le_refl _) (by omega);rw [List.drop_zero, List.take_of_length_le (by rw [HL.out]; omega)] at hsl;clear hr0;go_wp2_with fail
  have HT4 := trimmed_sl hsl hd;rw [HV'.out] at HT4;have HT := Lib.hid HT4;clear HT4;refine (trimmed_any _ _ _ s' _ hsl).mono ?_;rintro e w4 ⟨rfl, rfl⟩;have HNW := Lib.hid (trim_new w (l.length / 9 + 1) s');obtain ⟨v4, hv4⟩ : ∃ v4, v4 = trimmedOf (some ⟨w.heap.size, 0, none⟩) (l.length / 9 + 1) s' := ⟨_, rfl⟩
  rw [<- hv4] at HT HNW ⊢;clear hv4;go_wp2_with fail
  go_ret2
  exact ⟨_, rfl, HT.out, HNW.out, hb⟩
theorem signed_new (ao : Option Addr) (n c : Nat) (w : World) :
  Calls Tryz.prog 170 #[.bool false, .slice ao n c] w fun e w' => e = .returned (.agg #[.bool false, .slice ao n c]) /\ Below w.heap.size w w' := by
 go_enter Tryz.func170, Tryz.ntmps170
 go_wp2
 exact bodyPost_ret (v := .agg #[.bool false, .slice ao n c]) (by simp [results, Tryz.results170, go_sem]) rfl ⟨rfl, (Below.refl _ _).alloc (Nat.le_refl _) _⟩
theorem wparse_new (l : List UInt8) (w : World) (hnum : Numeral l) :
  Calls Tryz.prog 158 #[.string ⟨l.toArray⟩] w fun e w' => ∃ ao n c, e = .returned (.tuple #[.agg #[.bool false, .slice ao n c], .bool true]) /\ Sl w' .u32 (.slice ao n c) (dig L32 (dn l)) /\ (n ≠ 0 -> ∀ a, ao = some a -> w.heap.size <= a.block) /\ Below w.heap.size w w' := by
 have hm : l.length <= 1000000000 := by have := hnum.2.1; omega
 have hW : Below w.heap.size w (w.alloc (.cells #[.bool false, .slice none 0 0] 42)) := (Below.refl _ _).alloc (Nat.le_refl _) _;have HC := Lib.hid (fun w => cut_no l w hm (num_head hnum));have hlt := num_lt hnum;have HNUM := Lib.hid hnum;clear hnum;go_enter Tryz.func158, Tryz.ntmps158
 go_wp2_with fail
 refine (HC.out _).mono ?_; rintro e w' ⟨rfl, rfl⟩;go_wp2_with fail
 refine (parse_new l _ HNUM.out).mono ?_;rintro e w2 ⟨v2, rfl, s2, n2, hb2⟩;have hk2 := (hb2.block w.heap.size (by simp)).trans (heap_alloc_new w _);have hb2t := hW.trans (hb2.mono (by simp));clear hb2;obtain ⟨vo, vn, vc, rfl, hnew⟩ := n2;have hvn : vn = (dig L32 (dn l)).length := by obtain ⟨_, _, e, _⟩ := s2; injection e
 have HNEW := Lib.hid hnew;clear hnew;subst hvn;go_wp2_with fail
 refine (signed_new vo _ vc w2).mono ?_;rintro e w3 ⟨rfl, hb3⟩;have hk3 := (hb3.block _ (lt_of_block hk2)).trans hk2;have hb3t := hb2t.trans (hb3.mono hb2t.size);have s3 := s2.below hb3;clear hb3 hk2 hb2t s2;obtain ⟨q0, q1, f0, f1⟩ := two_cells hk3;have HB := Lib.hid hk3;have HS3 := Lib.hid s3;clear hk3 s3;go_wp2_with fail
 refine bodyPost_ret (v := .tuple #[.agg #[.bool false, .slice vo (dig L32 (dn l)).length vc], .bool true]) (by simp [results, Tryz.results158, go_sem, q0, q1]) rfl ⟨_, _, _, rfl, ?_, fun h a e => ?_, below_setg hb3t (by omega) _ _⟩
 ·exact HS3.out.set2 HB.out _ _
 have := HNEW.out h a e; simp at this; omega
end Go.Proofs.YtdpfgfkoboihcaaGreatDoor
namespace Go.Proofs.YtdpfgfkoboihcaaGreatDoor
set_option maxRecDepth 100000
inductive T where
 | node (k : Nat) (nm ot : Bs) (z : Nat) (ks : List T)
def T.k : T -> Nat | .node k _ _ _ _ => k
def T.ks : T -> List T | .node _ _ _ _ ks => ks
def ar (k : Nat) : Nat := [0, 0, 0, 0, 0, 1, 1, 1, 1, 1, 2, 2, 2, 2, 2, 2, 2, 2, 2, 2, 2, 2, 2, 2, 3, 3, 2, 3, 2].getD k 0
def lv (k : Nat) : Nat := [8, 8, 8, 8, 8, 7, 7, 7, 7, 7, 5, 5, 6, 6, 6, 3, 3, 3, 3, 3, 3, 2, 1, 4, 8, 0, 0, 0, 0].getD k 0
def sg5 (k : Nat) : Bs := [[], [116, 114, 117, 101], [102, 97, 108, 115, 101], [], [91, 93], [45], [110, 111, 116, 32], [108, 101, 110, 32], [104, 100, 32], [116, 108, 32], [43], [45], [42], [47], [37], [61], [60, 62], [60], [60, 61], [62], [62, 61], [38, 38], [124, 124], [58, 58]].getD k []
def lft (l : Nat) : Nat := if l = 3 then 4 else if l = 4 then 5 else l
def rgt (l : Nat) : Nat := if l = 3 then 4 else if l = 4 then 4 else l + 1
def rq (k i : Nat) : Nat := if k < 10 then lv k else if k < 24 then (if i = 0 then lft (lv k) else rgt (lv k)) else 0
def words (k : Nat) (nm ot : Bs) : List Bs :=
 if k = 25 then [[105, 102, 32], [32, 116, 104, 101, 110, 32], [32, 101, 108, 115, 101, 32]]
 else if k = 26 then [[108, 101, 116, 32] ++ nm ++ [32, 61, 32], [32, 105, 110, 32]]
 else if k = 27 then [[109, 97, 116, 99, 104, 32], [32, 119, 105, 116, 104, 32, 91, 93, 32, 45, 62, 32], [32, 124, 32] ++ nm ++ [32, 58, 58, 32] ++ ot ++ [32, 45, 62, 32]]
 else [[97, 115, 115, 101, 114, 116, 32], [59, 32]]
def phr : List Bs -> List Bs -> Bs
 | w :: ws, p :: ps => w ++ p ++ phr ws ps
 | _, _ => []
def com : List Bs -> Bs
 | [] => []
 | [p] => p
 | p :: q :: ps => p ++ [44, 32] ++ com (q :: ps)
def shp (k : Nat) (nm ot : Bs) (z : Nat) (ps : List Bs) : Bs :=
 if k = 0 then zText (z : Int)
 else if k = 3 then nm
 else if k < 5 then sg5 k
 else if k < 10 then sg5 k ++ ps.getD 0 []
 else if k < 24 then ps.getD 0 [] ++ [32] ++ sg5 k ++ [32] ++ ps.getD 1 []
 else if k = 24 then nm ++ [40] ++ com ps ++ [41]
 else phr (words k nm ot) ps
def br (want have' : Nat) (s : Bs) : Bs := if want <= have' then s else [40] ++ s ++ [41]
mutual
def tx : T -> Bs
 | .node k nm ot z ks => shp k nm ot z (exs k 0 ks)
def exs : Nat -> Nat -> List T -> List Bs
 | _, _, [] => []
 | k, i, t :: ts => br (rq k i) (lv t.k) (tx t) :: exs k (i + 1) ts
end
def ex (want : Nat) (t : T) : Bs := br want (lv t.k) (tx t)
mutual
def fl : T -> Bs
 | .node k nm ot z ks => if ks.isEmpty || k == 24 then tx (.node k nm ot z ks) else [40] ++ shp k nm ot z (fls ks) ++ [41]
def fls : List T -> List Bs
 | [] => []
 | t :: ts => fl t :: fls ts
end
mutual
def sz : T -> Nat
 | .node _ _ _ _ ks => 1 + szs ks
def szs : List T -> Nat
 | [] => 0
 | t :: ts => sz t + szs ts
end
def kp (c : UInt8) : Bool := c != 40 && c != 41 && c != 32
end Go.Proofs.YtdpfgfkoboihcaaGreatDoor
namespace Go.Proofs.YtdpfgfkoboihcaaGreatDoor
open Go.ChangeShapes Go.WideShapes Go.ChangeAt Go.RowKit
set_option maxRecDepth 100000
theorem own : ownKnob Tryz.prog.godebug = none := by kernel_rfl
theorem laidOut : laidOutB Tryz.prog = true := by kernel_rfl
end Go.Proofs.YtdpfgfkoboihcaaGreatDoor
