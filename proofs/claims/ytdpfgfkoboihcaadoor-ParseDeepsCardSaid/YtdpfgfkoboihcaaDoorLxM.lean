/-
  Plain mathematics of layer 4: what the document says of tokens, as functions of a list of bytes: the length of the blanks at the start, the kind and length of the token that begins, the places of bytes, all tokens of a text or its error; that tokens written with blanks between them are split as they were; that each stands where its place says. No program, no Go stands here.
-/
import Init
namespace Go.Proofs.YtdpfgfkoboihcaaDoor
set_option maxRecDepth 100000
abbrev Bs := List UInt8
def isL (c : UInt8) : Bool := (97 ≤ c && c ≤ 122) || (65 ≤ c && c ≤ 90) || c == 95
def isD (c : UInt8) : Bool := 48 ≤ c && c ≤ 57
def isLD (c : UInt8) : Bool := isL c || isD c
/-- How many bytes at the start are of the class. -/
def spn (p : UInt8 → Bool) : Bs → Nat
  | [] => 0
  | c :: l => if p c then spn p l + 1 else 0
theorem spn_le (p : UInt8 → Bool) (l : Bs) : spn p l ≤ l.length := by
  induction l with
  | nil => simp [spn]
  | cons c l ih => simp only [spn, List.length_cons]; split <;> omega
theorem spn_step {p : UInt8 → Bool} {l : Bs} {k : Nat} (h : k < l.length) (hp : p l[k] = true) : spn p (l.drop k) = spn p (l.drop (k + 1)) + 1 := by
  rw [List.drop_eq_getElem_cons h, spn, if_pos hp]
theorem spn_stop {p : UInt8 → Bool} {l : Bs} {k : Nat} (h : k < l.length) (hp : p l[k] = false) : spn p (l.drop k) = 0 := by
  rw [List.drop_eq_getElem_cons h, spn, hp]; rfl
theorem spn_end {p : UInt8 → Bool} {l : Bs} {k : Nat} (h : l.length ≤ k) : spn p (l.drop k) = 0 := by
  rw [List.drop_of_length_le h]; rfl
/-- What the class's run is followed by does not matter, if it is not of the class. -/
theorem spn_app {p : UInt8 → Bool} (l : Bs) {c : UInt8} (hc : p c = false) (r : Bs) : spn p (l.take (spn p l) ++ c :: r) = spn p l := by
  induction l with
  | nil => simp [spn, hc]
  | cons a l ih =>
    by_cases h : p a = true
    · simp only [spn, h, if_true, List.take_succ_cons, List.cons_append, ih]
    · simp [spn, h, hc]
theorem spn_all {p : UInt8 → Bool} (l : Bs) : ∀ c ∈ l.take (spn p l), p c = true := by
  induction l with
  | nil => simp [spn]
  | cons a l ih =>
    by_cases h : p a = true
    · simp only [spn, h, if_true, List.take_succ_cons]
      intro c hc
      rcases List.mem_cons.1 hc with rfl | hc
      · exact h
      · exact ih c hc
    · simp [spn, h]

def wds : List Bs := [[102, 117, 110], [113, 117, 97, 108, 105, 102], [108, 101, 116], [105, 110], [105, 102], [116, 104, 101, 110], [101, 108, 115, 101], [109, 97, 116, 99, 104], [119, 105, 116, 104], [97, 115, 115, 101, 114, 116], [110, 111, 116], [116, 114, 117, 101], [102, 97, 108, 115, 101], [105, 110, 116], [98, 111, 111, 108], [108, 105, 115, 116], [108, 101, 110], [104, 100], [116, 108], [118]]
def isW (l : Bs) : Bool := wds.contains l
def pairB (a b : UInt8) : Bool := (a == 58 && b == 58) || (a == 45 && b == 62) || (a == 38 && b == 38) || (a == 124 && b == 124) || (a == 91 && b == 93) || (a == 60 && b == 62) || (a == 60 && b == 61) || (a == 62 && b == 61)
def sglB (a : UInt8) : Bool := a == 40 || a == 41 || a == 123 || a == 125 || a == 44 || a == 58 || a == 59 || a == 124 || a == 61 || a == 60 || a == 62 || a == 43 || a == 45 || a == 42 || a == 47 || a == 37
def sgn : Bs → Nat
  | [] => 0
  | [a] => if sglB a then 1 else 0
  | a :: b :: _ => if pairB a b then 2 else if sglB a then 1 else 0
theorem sgn_le (l : Bs) : sgn l ≤ 2 ∧ sgn l ≤ l.length := by
  unfold sgn
  split
  · simp
  · split <;> simp
  · split
    · simp
    · split <;> simp
theorem pair_gap (a c : UInt8) (h : c = 32 ∨ c = 10 ∨ c = 9) : pairB a c = false := by
  rcases h with rfl | rfl | rfl <;> simp [pairB]
theorem sgn_app (l : Bs) (h : 0 < sgn l) (c : UInt8) (hc : c = 32 ∨ c = 10 ∨ c = 9) (r : Bs) : sgn (l.take (sgn l) ++ c :: r) = sgn l := by
  match l, h with
  | [], h => simp [sgn] at h
  | [a], h =>
    have e : sgn [a] = 1 := by
      cases hs : sglB a with
      | true => simp [sgn, hs]
      | false => simp [sgn, hs] at h
    have e2 : sglB a = true := by
      cases hs : sglB a with
      | true => rfl
      | false => simp [sgn, hs] at h
    rw [e]; simp [sgn, pair_gap a c hc, e2]
  | a :: b :: r', h =>
    by_cases h1 : pairB a b = true
    · simp [sgn, h1]
    · by_cases h2 : sglB a = true
      · simp [sgn, h1, h2, pair_gap a c hc]
      · simp [sgn, h1, h2] at h
def blk (c : UInt8) : Bool := c == 32 || c == 9 || c == 10 || c == 13
/-- The length of the blanks at the start; of a comment that has begun, if so said. -/
def gapL : Bool → Bs → Nat
  | _, [] => 0
  | true, c :: l => if c = 10 then gapL false l + 1 else gapL true l + 1
  | false, c :: l => if c = 35 then gapL true l + 1 else if blk c then gapL false l + 1 else 0
theorem gap_le (b : Bool) (l : Bs) : gapL b l ≤ l.length := by
  induction l generalizing b with
  | nil => cases b <;> simp [gapL]
  | cons c l ih =>
    have h1 := ih true
    have h2 := ih false
    cases b <;> simp only [gapL, List.length_cons] <;> split <;> (try split) <;> omega
theorem gap_end {b : Bool} {l : Bs} {k : Nat} (h : l.length ≤ k) : gapL b (l.drop k) = 0 := by
  rw [List.drop_of_length_le h]; cases b <;> rfl
theorem gap_blank {l : Bs} {k : Nat} (h : k < l.length) (hp : blk l[k] = true) : gapL false (l.drop k) = gapL false (l.drop (k + 1)) + 1 := by
  rw [List.drop_eq_getElem_cons h, gapL, if_neg (fun e => by rw [e] at hp; simp [blk] at hp), if_pos hp]
theorem gap_hash {l : Bs} {k : Nat} (h : k < l.length) (hp : l[k] = 35) : gapL false (l.drop k) = gapL true (l.drop (k + 1)) + 1 := by
  rw [List.drop_eq_getElem_cons h, gapL, if_pos hp]
theorem gap_stop {l : Bs} {k : Nat} (h : k < l.length) (hb : blk l[k] = false) (hp : l[k] ≠ 35) : gapL false (l.drop k) = 0 := by
  rw [List.drop_eq_getElem_cons h, gapL, if_neg hp, hb]; rfl
theorem gap_true_nl {l : Bs} {k : Nat} (h : k < l.length) (hp : l[k] = 10) : gapL true (l.drop k) = gapL false (l.drop (k + 1)) + 1 := by
  rw [List.drop_eq_getElem_cons h, gapL, if_pos hp]
theorem gap_true {l : Bs} {k : Nat} (h : k < l.length) (hp : l[k] ≠ 10) : gapL true (l.drop k) = gapL true (l.drop (k + 1)) + 1 := by
  rw [List.drop_eq_getElem_cons h, gapL, if_neg hp]
def notNl (c : UInt8) : Bool := c != 10
theorem gap_cmt (l : Bs) : gapL true l = spn notNl l + gapL false (l.drop (spn notNl l)) := by
  induction l with
  | nil => simp [gapL, spn]
  | cons c l ih =>
    by_cases h : c = 10
    · subst h; simp [gapL, spn, notNl, blk]
    · simp only [gapL, spn, notNl, if_neg h]
      have : (c != 10) = true := by simp [h]
      simp only [this, if_true, List.drop_succ_cons]
      have e : spn (fun c => c != 10) l = spn notNl l := rfl
      rw [ih]; omega
theorem gap_cmt' {l : Bs} {k : Nat} (h : k < l.length) (hp : l[k] = 35) : gapL false (l.drop k) = spn notNl (l.drop k) + gapL false (l.drop (k + spn notNl (l.drop k))) := by
  rw [gap_hash h hp, gap_cmt, List.drop_drop]
  have e : spn notNl (l.drop k) = spn notNl (l.drop (k + 1)) + 1 := spn_step h (by rw [hp]; rfl)
  rw [e, show k + (spn notNl (l.drop (k + 1)) + 1) = k + 1 + spn notNl (l.drop (k + 1)) from by omega]
  omega
theorem gap_next (l : Bs) (b : Bool) : ∀ (h : gapL b l < l.length), blk (l[gapL b l]'h) = false ∧ (l[gapL b l]'h) ≠ 35 := by
  induction l generalizing b with
  | nil => intro h; simp at h
  | cons c l ih =>
    intro h
    cases b with
    | true =>
      by_cases hc : c = 10
      · have e : gapL true (c :: l) = gapL false l + 1 := by rw [gapL, if_pos hc]
        simp only [e, List.getElem_cons_succ]
        exact ih false (by simp [e] at h; exact h)
      · have e : gapL true (c :: l) = gapL true l + 1 := by rw [gapL, if_neg hc]
        simp only [e, List.getElem_cons_succ]
        exact ih true (by simp [e] at h; exact h)
    | false =>
      by_cases hc : c = 35
      · have e : gapL false (c :: l) = gapL true l + 1 := by rw [gapL, if_pos hc]
        simp only [e, List.getElem_cons_succ]
        exact ih true (by simp [e] at h; exact h)
      · by_cases hb : blk c = true
        · have e : gapL false (c :: l) = gapL false l + 1 := by rw [gapL, if_neg hc, if_pos hb]
          simp only [e, List.getElem_cons_succ]
          exact ih false (by simp [e] at h; exact h)
        · have e : gapL false (c :: l) = 0 := by rw [gapL, if_neg hc, if_neg hb]
          simp only [e, List.getElem_cons_zero]
          exact ⟨by simpa using hb, hc⟩

def stepP (p : Nat × Nat) (c : UInt8) : Nat × Nat := if c = 10 then (p.1 + 1, 1) else (p.1, p.2 + 1)
def adv (p : Nat × Nat) (l : Bs) : Nat × Nat := l.foldl stepP p
theorem adv_nil (p : Nat × Nat) : adv p [] = p := rfl
theorem adv_cons (p : Nat × Nat) (c : UInt8) (l : Bs) : adv p (c :: l) = adv (stepP p c) l := rfl
theorem adv_app (p : Nat × Nat) (l r : Bs) : adv p (l ++ r) = adv (adv p l) r := by simp [adv]
theorem adv_take_succ (p : Nat × Nat) (l : Bs) (k : Nat) (h : k < l.length) : adv p (l.take (k + 1)) = stepP (adv p (l.take k)) l[k] := by
  rw [List.take_succ_eq_append_getElem h, adv_app]; rfl
theorem stepP_nl {p : Nat × Nat} {c : UInt8} (h : c = 10) : stepP p c = (p.1 + 1, 1) := by rw [stepP, if_pos h]
theorem stepP_no {p : Nat × Nat} {c : UInt8} (h : c ≠ 10) : stepP p c = (p.1, p.2 + 1) := by rw [stepP, if_neg h]
theorem adv_bd (p : Nat × Nat) (l : Bs) : (adv p l).1 ≤ p.1 + l.length ∧ (adv p l).2 ≤ p.2 + 1 + l.length := by
  induction l generalizing p with
  | nil => simp [adv]
  | cons c l ih =>
    rw [adv_cons]
    have := ih (stepP p c)
    by_cases h : c = 10
    · rw [stepP_nl h] at this ⊢
      simp only [List.length_cons] at this ⊢; omega
    · rw [stepP_no h] at this ⊢
      simp only [List.length_cons] at this ⊢; omega
theorem adv_pos (p : Nat × Nat) (l : Bs) (h1 : 1 ≤ p.1) (h2 : 1 ≤ p.2) : 1 ≤ (adv p l).1 ∧ 1 ≤ (adv p l).2 := by
  induction l generalizing p with
  | nil => exact ⟨h1, h2⟩
  | cons c l ih =>
    rw [adv_cons]
    unfold stepP
    split
    · exact ih _ (by simp) (by simp)
    · exact ih _ h1 (by simp)
theorem adv_flat (p : Nat × Nat) (l : Bs) (h : ∀ c ∈ l, c ≠ 10) : adv p l = (p.1, p.2 + l.length) := by
  induction l generalizing p with
  | nil => rfl
  | cons c l ih =>
    rw [adv_cons, stepP_no (h c (by simp)), ih _ (fun d hd => h d (by simp [hd]))]
    simp; omega
/-- Positions go forward. -/
def lexLt (p q : Nat × Nat) : Prop := p.1 < q.1 ∨ (p.1 = q.1 ∧ p.2 < q.2)
theorem step_lt (p : Nat × Nat) (c : UInt8) : lexLt p (stepP p c) := by
  unfold lexLt stepP; split <;> simp
theorem lexLt_trans {p q r : Nat × Nat} (h : lexLt p q) (k : lexLt q r) : lexLt p r := by
  unfold lexLt at *; omega
theorem adv_lt (p : Nat × Nat) (l : Bs) (h : l ≠ []) : lexLt p (adv p l) := by
  induction l generalizing p with
  | nil => exact absurd rfl h
  | cons c l ih =>
    rw [adv_cons]
    by_cases hl : l = []
    · subst hl; exact step_lt p c
    · exact lexLt_trans (step_lt p c) (ih _ hl)
theorem adv_inj {s : Bs} {p : Nat × Nat} {i j : Nat} (hij : i < j) (hj : j ≤ s.length) : adv p (s.take i) ≠ adv p (s.take j) := by
  intro e
  have h1 : s.take j = s.take i ++ (s.drop i).take (j - i) := by
    rw [show j = i + (j - i) from by omega, List.take_add]; simp
  have h2 := adv_lt (adv p (s.take i)) ((s.drop i).take (j - i)) (by
    intro h0
    have := congrArg List.length h0
    simp at this; omega)
  rw [← adv_app, ← h1, ← e] at h2
  unfold lexLt at h2; omega

/-- The kind and the length of the token at the start, or the error. -/
inductive Meas where | ok (kind len : Nat) | bad (e : Nat)
def meas : Bs → Meas
  | [] => .ok 4 0
  | a :: r =>
    if isL a then
      if 40 < spn isLD (a :: r) then .bad 2 else if isW ((a :: r).take (spn isLD (a :: r))) then .ok 3 (spn isLD (a :: r)) else .ok 0 (spn isLD (a :: r))
    else if isD a then
      if 1 < spn isD (a :: r) ∧ a = 48 then .bad 1 else if 300 < spn isD (a :: r) then .bad 2 else .ok 1 (spn isD (a :: r))
    else if 0 < sgn (a :: r) then .ok 2 (sgn (a :: r)) else .bad 1
theorem meas_cons (a : UInt8) (r : Bs) : meas (a :: r) =
    if isL a then
      if 40 < spn isLD (a :: r) then .bad 2 else if isW ((a :: r).take (spn isLD (a :: r))) then .ok 3 (spn isLD (a :: r)) else .ok 0 (spn isLD (a :: r))
    else if isD a then
      if 1 < spn isD (a :: r) ∧ a = 48 then .bad 1 else if 300 < spn isD (a :: r) then .bad 2 else .ok 1 (spn isD (a :: r))
    else if 0 < sgn (a :: r) then .ok 2 (sgn (a :: r)) else .bad 1 := rfl
/-- What a token's bytes are. -/
theorem isLD_ne {c : UInt8} (h : isLD c = true) : c ≠ 10 ∧ blk c = false ∧ c ≠ 35 := by
  have hc : ∀ x : UInt8, (x = 10 ∨ x = 32 ∨ x = 9 ∨ x = 13 ∨ x = 35) → isLD x = false := by
    intro x hx; rcases hx with rfl | rfl | rfl | rfl | rfl <;> rfl
  refine ⟨fun e => ?_, ?_, fun e => ?_⟩
  · rw [hc c (.inl e)] at h; cases h
  · cases hb : blk c with
    | false => rfl
    | true =>
      have : c = 32 ∨ c = 9 ∨ c = 10 ∨ c = 13 := by simpa [blk, or_assoc] using hb
      rw [hc c (by rcases this with e | e | e | e <;> simp [e])] at h; cases h
  · rw [hc c (by simp [e])] at h; cases h
theorem isD_LD {c : UInt8} (h : isD c = true) : isLD c = true := by simp [isLD, h]
theorem isL_LD {c : UInt8} (h : isL c = true) : isLD c = true := by simp [isLD, h]
theorem sgl_ne {c : UInt8} (h : sglB c = true) : c ≠ 10 ∧ blk c = false ∧ c ≠ 35 := by
  have hc : ∀ x : UInt8, (x = 10 ∨ x = 32 ∨ x = 9 ∨ x = 13 ∨ x = 35) → sglB x = false := by
    intro x hx; rcases hx with rfl | rfl | rfl | rfl | rfl <;> rfl
  refine ⟨fun e => ?_, ?_, fun e => ?_⟩
  · rw [hc c (.inl e)] at h; cases h
  · cases hb : blk c with
    | false => rfl
    | true =>
      have : c = 32 ∨ c = 9 ∨ c = 10 ∨ c = 13 := by simpa [blk, or_assoc] using hb
      rw [hc c (by rcases this with e | e | e | e <;> simp [e])] at h; cases h
  · rw [hc c (by simp [e])] at h; cases h
theorem pair_ne {a b : UInt8} (h : pairB a b = true) : (a ≠ 10 ∧ blk a = false ∧ a ≠ 35) ∧ b ≠ 10 := by
  simp only [pairB, Bool.or_eq_true, Bool.and_eq_true, beq_iff_eq] at h
  rcases h with ((((((⟨rfl, rfl⟩ | ⟨rfl, rfl⟩) | ⟨rfl, rfl⟩) | ⟨rfl, rfl⟩) | ⟨rfl, rfl⟩) | ⟨rfl, rfl⟩) | ⟨rfl, rfl⟩) | ⟨rfl, rfl⟩ <;> exact ⟨⟨by decide, rfl, by decide⟩, by decide⟩
/-- A token that is found: it has a byte, it lies in the text, it holds no end of a line, and it begins with no blank. -/
theorem meas_ok {l : Bs} {k n : Nat} (hl : l ≠ []) (h : meas l = .ok k n) : k < 4 ∧ 1 ≤ n ∧ n ≤ l.length ∧ (∀ c ∈ l.take n, c ≠ 10) ∧ (∀ c, l.head? = some c → blk c = false ∧ c ≠ 35) := by
  match l, hl with
  | a :: r, _ =>
    rw [meas_cons] at h
    by_cases h1 : isL a = true
    · rw [if_pos h1] at h
      have e : spn isLD (a :: r) = spn isLD r + 1 := by rw [spn, if_pos (isL_LD h1)]
      have hne := isLD_ne (isL_LD h1)
      have hle := spn_le isLD (a :: r)
      have hall := spn_all (p := isLD) (a :: r)
      split at h
      · cases h
      · split at h <;> (injection h with hk hn; subst hk; subst hn; exact ⟨by omega, by omega, hle, fun c hc => (isLD_ne (hall c hc)).1, fun c hc => by simp at hc; subst hc; exact hne.2⟩)
    · rw [if_neg h1] at h
      by_cases h2 : isD a = true
      · rw [if_pos h2] at h
        have e : spn isD (a :: r) = spn isD r + 1 := by rw [spn, if_pos h2]
        have hne := isLD_ne (isD_LD h2)
        have hle := spn_le isD (a :: r)
        have hall := spn_all (p := isD) (a :: r)
        split at h
        · cases h
        · split at h
          · cases h
          · injection h with hk hn; subst hk; subst hn
            exact ⟨by omega, by omega, hle, fun c hc => (isLD_ne (isD_LD (hall c hc))).1, fun c hc => by simp at hc; subst hc; exact hne.2⟩
      · rw [if_neg h2] at h
        split at h
        · rename_i h3
          injection h with hk hn; subst hk; subst hn
          have hle := (sgn_le (a :: r)).2
          match r, h3, hle with
          | [], h3, hle =>
            have e2 : sglB a = true := by
              cases hs : sglB a with
              | true => rfl
              | false => simp [sgn, hs] at h3
            have e1 : sgn [a] = 1 := by simp [sgn, e2]
            have hne := sgl_ne e2
            exact ⟨by omega, by omega, hle, fun c hc => by rw [e1] at hc; simp at hc; subst hc; exact hne.1, fun c hc => by simp at hc; subst hc; exact hne.2⟩
          | b :: r', h3, hle =>
            by_cases e2 : pairB a b = true
            · have e1 : sgn (a :: b :: r') = 2 := by simp [sgn, e2]
              have hne := pair_ne e2
              exact ⟨by omega, by omega, hle, fun c hc => by rw [e1] at hc; simp at hc; rcases hc with rfl | rfl; exact hne.1.1; exact hne.2, fun c hc => by simp at hc; subst hc; exact hne.1.2⟩
            · have e3 : sglB a = true := by
                cases hs : sglB a with
                | true => rfl
                | false => simp [sgn, e2, hs] at h3
              have e1 : sgn (a :: b :: r') = 1 := by simp [sgn, e2, e3]
              have hne := sgl_ne e3
              exact ⟨by omega, by omega, hle, fun c hc => by rw [e1] at hc; simp at hc; subst hc; exact hne.1, fun c hc => by simp at hc; subst hc; exact hne.2⟩
        · cases h
theorem gap_no {c : UInt8} (hc : c = 32 ∨ c = 10 ∨ c = 9) : isLD c = false ∧ isD c = false := by
  rcases hc with rfl | rfl | rfl <;> exact ⟨rfl, rfl⟩
/-- A token's bytes, followed by a blank, have the same kind and length. -/
theorem meas_app {l : Bs} {k n : Nat} (hl : l ≠ []) (h : meas l = .ok k n) (c : UInt8) (hc : c = 32 ∨ c = 10 ∨ c = 9) (r : Bs) : meas (l.take n ++ c :: r) = .ok k n := by
  match l, hl with
  | a :: r', _ =>
    have hno := gap_no hc
    have hm := h
    rw [meas_cons] at h
    by_cases h1 : isL a = true
    · rw [if_pos h1] at h
      have e : spn isLD (a :: r') = spn isLD r' + 1 := by rw [spn, if_pos (isL_LD h1)]
      have hn : n = spn isLD (a :: r') := by
        split at h
        · cases h
        · split at h <;> (injection h with hk hn; exact hn.symm)
      subst hn
      have ht := spn_app (p := isLD) (a :: r') hno.1 r
      have e3 : ((a :: r').take (spn isLD (a :: r')) ++ c :: r).take (spn isLD (a :: r')) = (a :: r').take (spn isLD (a :: r')) := by
        rw [List.take_append_of_le_length (by simp; have := spn_le isLD (a :: r'); simp at this; omega), List.take_take]; simp
      have e4 : (a :: r').take (spn isLD (a :: r')) ++ c :: r = a :: (r'.take (spn isLD r') ++ c :: r) := by rw [e]; simp
      rw [e4] at ht e3 ⊢
      rw [meas_cons, if_pos h1, ht, e3]; exact h
    · rw [if_neg h1] at h
      by_cases h2 : isD a = true
      · rw [if_pos h2] at h
        have e : spn isD (a :: r') = spn isD r' + 1 := by rw [spn, if_pos h2]
        have hn : n = spn isD (a :: r') := by
          split at h
          · cases h
          · split at h
            · cases h
            · injection h with hk hn; exact hn.symm
        subst hn
        have ht := spn_app (p := isD) (a :: r') hno.2 r
        have e4 : (a :: r').take (spn isD (a :: r')) ++ c :: r = a :: (r'.take (spn isD r') ++ c :: r) := by rw [e]; simp
        rw [e4] at ht ⊢
        rw [meas_cons, if_neg h1, if_pos h2, ht]; exact h
      · rw [if_neg h2] at h
        split at h
        · rename_i h3
          have hn : n = sgn (a :: r') := by injection h with hk hn; exact hn.symm
          subst hn
          have ht := sgn_app (a :: r') h3 c hc r
          obtain ⟨m, hmm⟩ : ∃ m, sgn (a :: r') = m + 1 := ⟨sgn (a :: r') - 1, by omega⟩
          have e4 : (a :: r').take (sgn (a :: r')) ++ c :: r = a :: (r'.take m ++ c :: r) := by rw [hmm]; simp
          rw [e4] at ht ⊢
          rw [meas_cons, if_neg h1, if_neg h2, ht, if_pos h3]; exact h
        · cases h

structure Tok where
  kind : Nat
  text : Bs
  line : Nat
  col : Nat
/-- The tokens, and 0; or the tokens ahead of the error, its place, and the error. -/
def lexS (s : Bs) (p : Nat × Nat) : List Tok × Nat :=
  if _h : s.drop (gapL false s) = [] then ([⟨4, [], (adv p (s.take (gapL false s))).1, (adv p (s.take (gapL false s))).2⟩], 0)
  else match meas (s.drop (gapL false s)) with
    | .bad e => ([⟨4, [], (adv p (s.take (gapL false s))).1, (adv p (s.take (gapL false s))).2⟩], e)
    | .ok k n =>
      let r := lexS ((s.drop (gapL false s)).drop (n - 1 + 1)) (adv (adv p (s.take (gapL false s))) ((s.drop (gapL false s)).take (n - 1 + 1)))
      (⟨k, (s.drop (gapL false s)).take n, (adv p (s.take (gapL false s))).1, (adv p (s.take (gapL false s))).2⟩ :: r.1, r.2)
termination_by s.length
decreasing_by
  have : 0 < (s.drop (gapL false s)).length := List.length_pos_iff.2 _h
  simp at this ⊢; omega
theorem lex_end {s : Bs} {p : Nat × Nat} (h : s.drop (gapL false s) = []) : lexS s p = ([⟨4, [], (adv p s).1, (adv p s).2⟩], 0) := by
  have e : s.take (gapL false s) = s := List.take_of_length_le (List.drop_eq_nil_iff.1 h)
  rw [lexS, dif_pos h, e]
theorem lex_bad {s : Bs} {p : Nat × Nat} {e : Nat} (h : s.drop (gapL false s) ≠ []) (hm : meas (s.drop (gapL false s)) = .bad e) : lexS s p = ([⟨4, [], (adv p (s.take (gapL false s))).1, (adv p (s.take (gapL false s))).2⟩], e) := by
  rw [lexS, dif_neg h, hm]
theorem lex_tok {s : Bs} {p : Nat × Nat} {k n : Nat} (h : s.drop (gapL false s) ≠ []) (hm : meas (s.drop (gapL false s)) = .ok k n) :
    lexS s p = (⟨k, (s.drop (gapL false s)).take n, (adv p (s.take (gapL false s))).1, (adv p (s.take (gapL false s))).2⟩ :: (lexS ((s.drop (gapL false s)).drop n) (adv (adv p (s.take (gapL false s))) ((s.drop (gapL false s)).take n))).1,
      (lexS ((s.drop (gapL false s)).drop n) (adv (adv p (s.take (gapL false s))) ((s.drop (gapL false s)).take n))).2) := by
  have h1 := (meas_ok h hm).2.1
  have e : n - 1 + 1 = n := by omega
  rw [lexS, dif_neg h, hm]
  simp only [e]
/-- Blanks ahead change the places alone. -/
def Gap (b : Bs) : Prop := ∀ s, gapL false (b ++ s) = b.length + gapL false s
theorem lex_gap {b : Bs} (hb : Gap b) (s : Bs) (p : Nat × Nat) : lexS (b ++ s) p = lexS s (adv p b) := by
  have h1 : (b ++ s).drop (gapL false (b ++ s)) = s.drop (gapL false s) := by rw [hb, List.drop_append]; simp
  have h2 : adv p ((b ++ s).take (gapL false (b ++ s))) = adv (adv p b) (s.take (gapL false s)) := by
    rw [hb, ← adv_app]
    congr 1
    rw [List.take_append, List.take_of_length_le (by omega)]; simp
  rw [lexS, lexS, h1, h2]
theorem lex_ne (s : Bs) (p : Nat × Nat) : (lexS s p).1 ≠ [] := by
  rw [lexS]; split
  · simp
  · split <;> simp
theorem meas_bad {l : Bs} {e : Nat} (h : meas l = .bad e) : e = 1 ∨ e = 2 := by
  match l with
  | [] => cases h
  | a :: r =>
    rw [meas_cons] at h
    repeat' split at h
    all_goals first | (injection h with h; omega) | cases h
theorem lex_code (s : Bs) (p : Nat × Nat) : (lexS s p).2 = 0 ∨ (lexS s p).2 = 1 ∨ (lexS s p).2 = 2 := by
  induction hn : s.length using Nat.strongRecOn generalizing s p with
  | ind n ih =>
    by_cases h : s.drop (gapL false s) = []
    · rw [lex_end h]; exact .inl rfl
    · cases hm : meas (s.drop (gapL false s)) with
      | bad e => rw [lex_bad h hm]; rcases meas_bad hm with e | e <;> simp [e]
      | ok k m =>
        rw [lex_tok h hm]
        have := meas_ok h hm
        exact ih _ (by subst hn; have h1 := List.length_pos_iff.2 h; simp only [List.length_drop] at this h1 ⊢; omega) _ _ rfl
/-- The rule of induction over a text that is split without an error. -/
theorem lex_ind {C : Bs → Nat × Nat → List Tok → Prop} (hend : ∀ s p, s.drop (gapL false s) = [] → C s p [⟨4, [], (adv p s).1, (adv p s).2⟩])
    (htok : ∀ s p k n ts, s.drop (gapL false s) ≠ [] → meas (s.drop (gapL false s)) = .ok k n → C ((s.drop (gapL false s)).drop n) (adv (adv p (s.take (gapL false s))) ((s.drop (gapL false s)).take n)) ts →
      lexS ((s.drop (gapL false s)).drop n) (adv (adv p (s.take (gapL false s))) ((s.drop (gapL false s)).take n)) = (ts, 0) →
      C s p (⟨k, (s.drop (gapL false s)).take n, (adv p (s.take (gapL false s))).1, (adv p (s.take (gapL false s))).2⟩ :: ts))
    (s : Bs) (p : Nat × Nat) (h0 : (lexS s p).2 = 0) : C s p (lexS s p).1 := by
  induction hn : s.length using Nat.strongRecOn generalizing s p with
  | ind n ih =>
    by_cases h : s.drop (gapL false s) = []
    · rw [lex_end h]; exact hend s p h
    · cases hm : meas (s.drop (gapL false s)) with
      | bad e => rw [lex_bad h hm] at h0; rcases meas_bad hm with e | e <;> simp [e] at h0
      | ok k m =>
        rw [lex_tok h hm] at h0 ⊢
        have := meas_ok h hm
        refine htok s p k m _ h hm (ih _ (by subst hn; have h1 := List.length_pos_iff.2 h; simp only [List.length_drop] at this h1 ⊢; omega) _ _ h0 rfl) ?_
        exact Prod.ext rfl h0
def Tok.bare (t : Tok) : Nat × Bs := (t.kind, t.text)
def joinB (ts : List Tok) : Bs := ts.flatMap fun t => t.text ++ [32]
def joinA (g : Bs) (ts : List Tok) : Bs := ts.flatMap fun t => g ++ t.text
theorem gap_nil : Gap [] := fun s => by simp
theorem gap_sp : Gap [32] := fun s => by
  show gapL false (32 :: s) = _
  rw [gapL, if_neg (by decide), if_pos (show blk 32 = true from rfl)]; simp; omega
theorem tok_first {l : Bs} {k n : Nat} (hl : l ≠ []) (h : meas l = .ok k n) (r : Bs) : gapL false (l.take n ++ r) = 0 ∧ l.take n ++ r ≠ [] ∧ (l.take n).length = n := by
  have hm := meas_ok hl h
  match l, hl with
  | a :: r', _ =>
    obtain ⟨m, rfl⟩ : ∃ m, n = m + 1 := ⟨n - 1, by omega⟩
    have h2 := hm.2.2.2.2 a rfl
    refine ⟨?_, by simp, by rw [List.length_take]; omega⟩
    show gapL false (a :: (r'.take m ++ r)) = 0
    rw [gapL, if_neg h2.2, if_neg (by simp [h2.1])]
theorem lex_first {l : Bs} {k n : Nat} (hl : l ≠ []) (h : meas l = .ok k n) (c : UInt8) (hc : c = 32 ∨ c = 10 ∨ c = 9) (r : Bs) (q : Nat × Nat) :
    lexS (l.take n ++ c :: r) q = (⟨k, l.take n, q.1, q.2⟩ :: (lexS (c :: r) (adv q (l.take n))).1, (lexS (c :: r) (adv q (l.take n))).2) := by
  obtain ⟨h1, h2, h3⟩ := tok_first hl h (c :: r)
  have hm := meas_app hl h c hc r
  have hd : (l.take n ++ c :: r).drop (gapL false (l.take n ++ c :: r)) = l.take n ++ c :: r := by rw [h1]; rfl
  have ht : (l.take n ++ c :: r).take (gapL false (l.take n ++ c :: r)) = [] := by rw [h1]; rfl
  have e1 : (l.take n ++ c :: r).take n = l.take n := by rw [List.take_append_of_le_length (by omega), List.take_take]; simp
  have e2 : (l.take n ++ c :: r).drop n = c :: r := by rw [List.drop_append_of_le_length (by omega), List.drop_of_length_le (by omega)]; rfl
  rw [lex_tok (k := k) (n := n) (by rw [hd]; exact h2) (by rw [hd]; exact hm), hd, ht, e1, e2]
  rfl
theorem lex_back (s : Bs) (p : Nat × Nat) (h0 : (lexS s p).2 = 0) : ∀ (b : Bs) (q : Nat × Nat), Gap b → (lexS (b ++ joinB (lexS s p).1) q).2 = 0 ∧ (lexS (b ++ joinB (lexS s p).1) q).1.map Tok.bare = (lexS s p).1.map Tok.bare := by
  refine lex_ind (C := fun _ _ ts => ∀ (b : Bs) (q : Nat × Nat), Gap b → (lexS (b ++ joinB ts) q).2 = 0 ∧ (lexS (b ++ joinB ts) q).1.map Tok.bare = ts.map Tok.bare) ?_ ?_ s p h0
  · intro s p h b q hb
    have e : joinB [⟨4, [], (adv p s).1, (adv p s).2⟩] = [32] ++ [] := rfl
    rw [lex_gap hb, e, lex_gap gap_sp, lex_end (by rfl)]
    exact ⟨rfl, rfl⟩
  · intro s p k n ts h hm ih he b q hb
    have e : joinB (⟨k, (s.drop (gapL false s)).take n, (adv p (s.take (gapL false s))).1, (adv p (s.take (gapL false s))).2⟩ :: ts) = (s.drop (gapL false s)).take n ++ 32 :: joinB ts := by simp [joinB]
    rw [lex_gap hb, e, lex_first h hm 32 (.inl rfl)]
    obtain ⟨i1, i2⟩ := ih [32] (adv (adv q b) ((s.drop (gapL false s)).take n)) gap_sp
    exact ⟨i1, by simp only [List.map_cons]; rw [show (32 : UInt8) :: joinB ts = [32] ++ joinB ts from rfl, i2]; rfl⟩
theorem lex_blanks {g : Bs} (hg : Gap g) {c : UInt8} (hc : c = 32 ∨ c = 10 ∨ c = 9) {g' : Bs} (hgc : g = c :: g') (s : Bs) (p : Nat × Nat) (h0 : (lexS s p).2 = 0) :
    ∀ q : Nat × Nat, (lexS (joinA g (lexS s p).1) q).2 = 0 ∧ (lexS (joinA g (lexS s p).1) q).1.map Tok.bare = (lexS s p).1.map Tok.bare := by
  refine lex_ind (C := fun _ _ ts => ∀ q : Nat × Nat, (lexS (joinA g ts) q).2 = 0 ∧ (lexS (joinA g ts) q).1.map Tok.bare = ts.map Tok.bare) ?_ ?_ s p h0
  · intro s p h q
    have e : joinA g [⟨4, [], (adv p s).1, (adv p s).2⟩] = g ++ [] := by simp [joinA]
    rw [e, lex_gap hg, lex_end (by rfl)]
    exact ⟨rfl, rfl⟩
  · intro s p k n ts h hm ih he q
    have hne : ts ≠ [] := by have := lex_ne ((s.drop (gapL false s)).drop n) (adv (adv p (s.take (gapL false s))) ((s.drop (gapL false s)).take n)); rw [he] at this; exact this
    obtain ⟨r, hr⟩ : ∃ r, joinA g ts = c :: r := by
      match ts, hne with
      | t :: ts', _ => exact ⟨g' ++ t.text ++ joinA g ts', by simp [joinA, hgc]⟩
    have e : joinA g (⟨k, (s.drop (gapL false s)).take n, (adv p (s.take (gapL false s))).1, (adv p (s.take (gapL false s))).2⟩ :: ts) = g ++ ((s.drop (gapL false s)).take n ++ c :: r) := by rw [← hr]; simp [joinA]
    rw [e, lex_gap hg, lex_first h hm c hc, ← hr]
    obtain ⟨i1, i2⟩ := ih (adv (adv q g) ((s.drop (gapL false s)).take n))
    exact ⟨i1, by simp only [List.map_cons]; rw [i2]; rfl⟩
theorem drop_take_mem {s : Bs} {c : UInt8} {i : Nat} (h : c ∈ s.take i) : c ∈ s := List.mem_of_mem_take h
theorem lex_line (s : Bs) (p : Nat × Nat) (h0 : (lexS s p).2 = 0) (hs : ∀ c ∈ s, c ≠ 10) : ∀ t ∈ (lexS s p).1, t.line = p.1 := by
  refine lex_ind (C := fun s p ts => (∀ c ∈ s, c ≠ 10) → ∀ t ∈ ts, t.line = p.1) ?_ ?_ s p h0 hs
  · intro s p h hs t ht
    simp at ht; subst ht
    show (adv p s).1 = p.1
    rw [adv_flat p s hs]
  · intro s p k n ts h hm ih he hs t ht
    have e1 : (adv p (s.take (gapL false s))).1 = p.1 := by rw [adv_flat p _ (fun c hc => hs c (List.mem_of_mem_take hc))]
    rcases List.mem_cons.1 ht with rfl | ht
    · exact e1
    · have e2 : (adv (adv p (s.take (gapL false s))) ((s.drop (gapL false s)).take n)).1 = p.1 := by
        rw [adv_flat _ _ (fun c hc => hs c (List.mem_of_mem_drop (List.mem_of_mem_take hc)))]; exact e1
      rw [← e2]
      exact ih (fun c hc => hs c (List.mem_of_mem_drop (List.mem_of_mem_drop hc))) t ht
theorem lex_noNl (s : Bs) (p : Nat × Nat) (h0 : (lexS s p).2 = 0) : ∀ t ∈ (lexS s p).1, ∀ c ∈ t.text, c ≠ 10 := by
  refine lex_ind (C := fun _ _ ts => ∀ t ∈ ts, ∀ c ∈ t.text, c ≠ 10) ?_ ?_ s p h0
  · intro s p h t ht; simp at ht; subst ht; simp
  · intro s p k n ts h hm ih he t ht
    rcases List.mem_cons.1 ht with rfl | ht
    · exact (meas_ok h hm).2.2.2.1
    · exact ih t ht
theorem joinB_noNl {ts : List Tok} (h : ∀ t ∈ ts, ∀ c ∈ t.text, c ≠ 10) : ∀ c ∈ joinB ts, c ≠ 10 := by
  intro c hc
  obtain ⟨t, ht, hc⟩ := List.mem_flatMap.1 hc
  rcases List.mem_append.1 hc with hc | hc
  · exact h t ht c hc
  · simp at hc; subst hc; decide
def textSum (ts : List Tok) : Nat := (ts.map fun t => t.text.length).sum
theorem lex_sum (s : Bs) (p : Nat × Nat) : (lexS s p).1.length ≤ s.length + 1 ∧ textSum (lexS s p).1 ≤ s.length := by
  induction hn : s.length using Nat.strongRecOn generalizing s p with
  | ind n ih =>
    by_cases h : s.drop (gapL false s) = []
    · rw [lex_end h]; simp [textSum]
    · cases hm : meas (s.drop (gapL false s)) with
      | bad e => rw [lex_bad h hm]; simp [textSum]
      | ok k m =>
        rw [lex_tok h hm]
        have h2 := meas_ok h hm
        have h3 := ih _ (by subst hn; have h1 := List.length_pos_iff.2 h; simp only [List.length_drop] at h2 h1 ⊢; omega) ((s.drop (gapL false s)).drop m) (adv (adv p (s.take (gapL false s))) ((s.drop (gapL false s)).take m)) rfl
        simp only [textSum, List.length_drop, List.length_cons, List.map_cons, List.sum_cons, List.length_take] at h2 h3 ⊢
        omega
theorem joinB_len (ts : List Tok) : (joinB ts).length = textSum ts + ts.length := by
  induction ts with
  | nil => rfl
  | cons t ts ih => simp only [joinB, textSum, List.flatMap_cons, List.length_append, List.map_cons, List.sum_cons, List.length_cons] at ih ⊢; simp at ih ⊢; omega
theorem joinA_len (g : Bs) (ts : List Tok) : (joinA g ts).length = textSum ts + g.length * ts.length := by
  induction ts with
  | nil => simp [joinA, textSum]
  | cons t ts ih => simp only [joinA, textSum, List.flatMap_cons, List.length_append, List.map_cons, List.sum_cons, List.length_cons, Nat.mul_add] at ih ⊢; omega
theorem textSum_take (ts : List Tok) (k : Nat) : textSum (ts.take k) ≤ textSum ts := by
  induction ts generalizing k with
  | nil => simp [textSum]
  | cons t ts ih =>
    cases k with
    | zero => simp [textSum]
    | succ k => have := ih k; simp only [textSum, List.take_succ_cons, List.map_cons, List.sum_cons] at this ⊢; omega
theorem joinB_take (ts : List Tok) (k : Nat) (h : k < ts.length) : joinB (ts.take (k + 1)) = joinB (ts.take k) ++ (ts[k].text ++ [32]) := by
  unfold joinB; rw [List.take_succ_eq_append_getElem h, List.flatMap_append]; simp
theorem joinA_take (g : Bs) (ts : List Tok) (k : Nat) (h : k < ts.length) : joinA g (ts.take (k + 1)) = joinA g (ts.take k) ++ (g ++ ts[k].text) := by
  unfold joinA; rw [List.take_succ_eq_append_getElem h, List.flatMap_append]; simp
/-- Each token's bytes stand where its place says; the last one stands at the end. -/
def Placed (s : Bs) (p : Nat × Nat) : Nat → List Tok → Prop
  | off, [] => off = s.length
  | off, t :: ts => ∃ o, off ≤ o ∧ o + t.text.length ≤ s.length ∧ adv p (s.take o) = (t.line, t.col) ∧ (s.drop o).take t.text.length = t.text ∧ (∀ c ∈ t.text, c ≠ 10) ∧ Placed s p (o + t.text.length) ts
theorem lex_placed (s0 : Bs) (p0 : Nat × Nat) (h0 : (lexS s0 p0).2 = 0) : Placed s0 p0 0 (lexS s0 p0).1 := by
  refine lex_ind (C := fun s p ts => ∀ off, off ≤ s0.length → s = s0.drop off → p = adv p0 (s0.take off) → Placed s0 p0 off ts) ?_ ?_ s0 p0 h0 0 (Nat.zero_le _) rfl rfl
  · intro s p h off ho hs hp
    refine ⟨s0.length, ho, by simp, ?_, by simp, by simp, by simp [Placed]⟩
    rw [hs, hp, ← adv_app, List.take_append_drop, List.take_length]
  · intro s p k n ts h hm ih he off ho hs hp
    have h2 := meas_ok h hm
    have hg := gap_le false s
    have hl : s.length = s0.length - off := by rw [hs, List.length_drop]
    have h3 : n ≤ s.length - gapL false s := by have := h2.2.2.1; simpa using this
    have hp1 : adv p (s.take (gapL false s)) = adv p0 (s0.take (off + gapL false s)) := by
      rw [hp, ← adv_app, List.take_add]; rw [← hs]
    have hdd : (s.drop (gapL false s)) = s0.drop (off + gapL false s) := by rw [← List.drop_drop, ← hs]
    have hlen : ((s.drop (gapL false s)).take n).length = n := by rw [List.length_take, List.length_drop]; omega
    refine ⟨off + gapL false s, by omega, by rw [hlen]; omega, by rw [← hp1], by rw [hlen, ← hdd], h2.2.2.2.1, ?_⟩
    rw [hlen]
    refine ih _ (by omega) (by rw [hdd, List.drop_drop]) ?_
    rw [hp1, hdd, ← adv_app, ← List.take_add]
theorem lex_last (s : Bs) (p : Nat × Nat) (h0 : (lexS s p).2 = 0) : ∃ t, (lexS s p).1.getLast? = some t ∧ t.kind = 4 := by
  refine lex_ind (C := fun _ _ ts => ∃ t, ts.getLast? = some t ∧ t.kind = 4) ?_ ?_ s p h0
  · intro s p h; exact ⟨_, rfl, rfl⟩
  · intro s p k n ts h hm ih he
    obtain ⟨t, h1, h2⟩ := ih
    refine ⟨t, ?_, h2⟩
    match ts, h1 with
    | a :: ts', h1 => rw [List.getLast?_cons_cons]; exact h1
theorem lex_spaces (n : Nat) : lexS (List.replicate n 32) (1, 1) = ([⟨4, [], 1, n + 1⟩], 0) := by
  have hg : ∀ n, gapL false (List.replicate n 32) = n := by
    intro n
    induction n with
    | zero => rfl
    | succ n ih => rw [List.replicate_succ, gapL, if_neg (by decide), if_pos (show blk 32 = true from rfl), ih]
  rw [lex_end (by rw [hg]; simp), adv_flat _ _ (by intro c hc; rw [List.eq_of_mem_replicate hc]; decide)]
  simp; omega
theorem lex_fit : lexS [97, 60, 61, 98] (1, 1) = ([⟨0, [97], 1, 1⟩, ⟨2, [60, 61], 1, 2⟩, ⟨0, [98], 1, 4⟩, ⟨4, [], 1, 5⟩], 0) := by
  rw [lex_tok (k := 0) (n := 1) (by decide) (by rfl)]
  have e1 : lexS (([97, 60, 61, 98] : Bs).drop (gapL false [97, 60, 61, 98]) |>.drop 1) (adv (adv (1, 1) (([97, 60, 61, 98] : Bs).take (gapL false [97, 60, 61, 98]))) ((([97, 60, 61, 98] : Bs).drop (gapL false [97, 60, 61, 98])).take 1)) = lexS [60, 61, 98] (1, 2) := by rfl
  rw [e1, lex_tok (s := [60, 61, 98]) (k := 2) (n := 2) (by decide) (by rfl)]
  have e2 : lexS (([60, 61, 98] : Bs).drop (gapL false [60, 61, 98]) |>.drop 2) (adv (adv (1, 2) (([60, 61, 98] : Bs).take (gapL false [60, 61, 98]))) ((([60, 61, 98] : Bs).drop (gapL false [60, 61, 98])).take 2)) = lexS [98] (1, 4) := by rfl
  rw [e2, lex_tok (s := [98]) (k := 0) (n := 1) (by decide) (by rfl)]
  have e3 : lexS (([98] : Bs).drop (gapL false [98]) |>.drop 1) (adv (adv (1, 4) (([98] : Bs).take (gapL false [98]))) ((([98] : Bs).drop (gapL false [98])).take 1)) = lexS [] (1, 5) := by rfl
  rw [e3, lex_end (by rfl)]
  rfl
end Go.Proofs.YtdpfgfkoboihcaaDoor
