/-
  Plain mathematics of layer 5: trees, their texts with and without all parentheses, their size and depth. No program stands here.
-/
import Derived.Test.YtdpfgfkoboihcaaDoorKWhoF
import Derived.Test.YtdpfgfkoboihcaaDoorLxM
namespace Go.Proofs.YtdpfgfkoboihcaaDoor
set_option maxRecDepth 100000


/-- A tree: its kind, its two names, its number, its kids. -/
inductive T where
  | node (k : Nat) (nm ot : Bs) (z : Nat) (ks : List T)

def T.k : T → Nat | .node k _ _ _ _ => k
def T.ks : T → List T | .node _ _ _ _ ks => ks

/-- The number of kids that a kind has (3 stands for a call: at most 3). -/
def ar (k : Nat) : Nat := [0, 0, 0, 0, 0, 1, 1, 1, 1, 1, 2, 2, 2, 2, 2, 2, 2, 2, 2, 2, 2, 2, 2, 2, 3, 3, 2, 3, 2].getD k 0
/-- The level of a kind. -/
def lv (k : Nat) : Nat := [8, 8, 8, 8, 8, 7, 7, 7, 7, 7, 5, 5, 6, 6, 6, 3, 3, 3, 3, 3, 3, 2, 1, 4, 8, 0, 0, 0, 0].getD k 0
/-- The sign of a kind. -/
def sg5 (k : Nat) : Bs := [[], [116, 114, 117, 101], [102, 97, 108, 115, 101], [], [91, 93], [45], [110, 111, 116, 32], [108, 101, 110, 32], [104, 100, 32], [116, 108, 32], [43], [45], [42], [47], [37], [61], [60, 62], [60], [60, 61], [62], [62, 61], [38, 38], [124, 124], [58, 58]].getD k []
/-- The levels that the operands of a binary operator want, by the operator's level. -/
def lft (l : Nat) : Nat := if l = 3 then 4 else if l = 4 then 5 else l
def rgt (l : Nat) : Nat := if l = 3 then 4 else if l = 4 then 4 else l + 1
/-- The level that kid i of a kind wants. -/
def rq (k i : Nat) : Nat := if k < 10 then lv k else if k < 24 then (if i = 0 then lft (lv k) else rgt (lv k)) else 0

/-- The words before each kid, in a phrase. -/
def words (k : Nat) (nm ot : Bs) : List Bs :=
  if k = 25 then [[105, 102, 32], [32, 116, 104, 101, 110, 32], [32, 101, 108, 115, 101, 32]]
  else if k = 26 then [[108, 101, 116, 32] ++ nm ++ [32, 61, 32], [32, 105, 110, 32]]
  else if k = 27 then [[109, 97, 116, 99, 104, 32], [32, 119, 105, 116, 104, 32, 91, 93, 32, 45, 62, 32], [32, 124, 32] ++ nm ++ [32, 58, 58, 32] ++ ot ++ [32, 45, 62, 32]]
  else [[97, 115, 115, 101, 114, 116, 32], [59, 32]]

/-- Kids' texts, each after its words. -/
def phr : List Bs → List Bs → Bs
  | w :: ws, p :: ps => w ++ p ++ phr ws ps
  | _, _ => []
/-- Kids' texts with a comma and a blank between them. -/
def com : List Bs → Bs
  | [] => []
  | [p] => p
  | p :: q :: ps => p ++ [44, 32] ++ com (q :: ps)

/-- A part's text, of its kids' texts. -/
def shp (k : Nat) (nm ot : Bs) (z : Nat) (ps : List Bs) : Bs :=
  if k = 0 then zText (z : Int)
  else if k = 3 then nm
  else if k < 5 then sg5 k
  else if k < 10 then sg5 k ++ ps.getD 0 []
  else if k < 24 then ps.getD 0 [] ++ [32] ++ sg5 k ++ [32] ++ ps.getD 1 []
  else if k = 24 then nm ++ [40] ++ com ps ++ [41]
  else phr (words k nm ot) ps

/-- A text where that level is wanted. -/
def br (want have' : Nat) (s : Bs) : Bs := if want ≤ have' then s else [40] ++ s ++ [41]

mutual
/-- The text of a tree, without parentheses around it. -/
def tx : T → Bs
  | .node k nm ot z ks => shp k nm ot z (exs k 0 ks)
def exs : Nat → Nat → List T → List Bs
  | _, _, [] => []
  | k, i, t :: ts => br (rq k i) (lv t.k) (tx t) :: exs k (i + 1) ts
end
/-- The text of a tree where that level is wanted. -/
def ex (want : Nat) (t : T) : Bs := br want (lv t.k) (tx t)

mutual
/-- The text with parentheses around each part that has kids. -/
def fl : T → Bs
  | .node k nm ot z ks => if ks.isEmpty || k == 24 then tx (.node k nm ot z ks) else [40] ++ shp k nm ot z (fls ks) ++ [41]
def fls : List T → List Bs
  | [] => []
  | t :: ts => fl t :: fls ts
end
mutual
/-- How many parts. -/
def sz : T → Nat
  | .node _ _ _ _ ks => 1 + szs ks
def szs : List T → Nat
  | [] => 0
  | t :: ts => sz t + szs ts
end
mutual
/-- How far down. -/
def dp : T → Nat
  | .node _ _ _ _ ks => dps ks + 1
def dps : List T → Nat
  | [] => 0
  | t :: ts => max (dp t) (dps ts)
end

/-- A right tree of no more than d parts within one another, of short names and numbers. -/
def Ok : Nat → T → Prop
  | 0, _ => False
  | d + 1, .node k nm ot z ks => k < 29 ∧ ((k = 3 → 1 ≤ nm.length) ∧ nm.length ≤ 2) ∧ ot.length ≤ 2 ∧ z < 4294967296 ^ 4 ∧ (k = 24 ∨ ks.length = ar k) ∧ ks.length ≤ 3 ∧ ∀ t ∈ ks, Ok d t

theorem exs_len (k i : Nat) (ks : List T) : (exs k i ks).length = ks.length := by
  induction ks generalizing i with
  | nil => simp [exs]
  | cons t ts ih => simp [exs, ih]
theorem fls_len (ks : List T) : (fls ks).length = ks.length := by
  induction ks with
  | nil => simp [fls]
  | cons t ts ih => simp [fls, ih]
theorem exs_app (k i : Nat) (a b : List T) : exs k i (a ++ b) = exs k i a ++ exs k (i + a.length) b := by
  induction a generalizing i with
  | nil => simp [exs]
  | cons t ts ih => simp [exs, ih, Nat.add_assoc, Nat.add_comm 1]
theorem fls_app (a b : List T) : fls (a ++ b) = fls a ++ fls b := by
  induction a with
  | nil => simp [fls]
  | cons t ts ih => simp [fls, ih]
theorem szs_app (a b : List T) : szs (a ++ b) = szs a + szs b := by
  induction a with
  | nil => simp [szs]
  | cons t ts ih => simp [szs, ih, Nat.add_assoc]
theorem dps_app (a b : List T) : dps (a ++ b) = max (dps a) (dps b) := by
  induction a with
  | nil => simp [dps]
  | cons t ts ih => simp [dps, ih, Nat.max_assoc]
theorem szs_take (ks : List T) (i : Nat) (h : i < ks.length) : szs (ks.take (i + 1)) = szs (ks.take i) + sz ks[i] := by
  rw [List.take_succ_eq_append_getElem h, szs_app]; simp [szs]
theorem dps_take (ks : List T) (i : Nat) (h : i < ks.length) : dps (ks.take (i + 1)) = max (dps (ks.take i)) (dp ks[i]) := by
  rw [List.take_succ_eq_append_getElem h, dps_app]; simp [dps]
theorem fls_take (ks : List T) (i : Nat) (h : i < ks.length) : fls (ks.take (i + 1)) = fls (ks.take i) ++ [fl ks[i]] := by
  rw [List.take_succ_eq_append_getElem h, fls_app]; simp [fls]

/-- Without parentheses and blanks. -/
def kp (c : UInt8) : Bool := c != 40 && c != 41 && c != 32
def strip (l : Bs) : Bs := l.filter kp
theorem strip_app (a b : Bs) : strip (a ++ b) = strip a ++ strip b := List.filter_append ..
theorem strip_br (w h : Nat) (s : Bs) : strip (br w h s) = strip s := by
  unfold br
  split
  · rfl
  · rw [strip_app, strip_app]; simp [strip, kp]
theorem br_len (w h : Nat) (s : Bs) : (br w h s).length ≤ s.length + 2 := by
  unfold br; split <;> simp <;> omega

/-- Two lists of texts: alike but for parentheses, the first ones no longer. -/
inductive Le2 : List Bs → List Bs → Prop
  | nil : Le2 [] []
  | cons {p q : Bs} {ps qs : List Bs} : strip p = strip q → p.length ≤ q.length → Le2 ps qs → Le2 (p :: ps) (q :: qs)

theorem Le2.at0 {ps qs : List Bs} (h : Le2 ps qs) : strip (ps.getD 0 []) = strip (qs.getD 0 []) ∧ (ps.getD 0 []).length ≤ (qs.getD 0 []).length := by
  cases h with
  | nil => exact ⟨rfl, Nat.le_refl _⟩
  | cons a b _ => exact ⟨a, b⟩
theorem Le2.at1 {ps qs : List Bs} (h : Le2 ps qs) : strip (ps.getD 1 []) = strip (qs.getD 1 []) ∧ (ps.getD 1 []).length ≤ (qs.getD 1 []).length := by
  cases h with
  | nil => exact ⟨rfl, Nat.le_refl _⟩
  | cons _ _ h => exact h.at0
theorem Le2.phr {ps qs : List Bs} (h : Le2 ps qs) (ws : List Bs) : strip (phr ws ps) = strip (phr ws qs) ∧ (phr ws ps).length ≤ (phr ws qs).length := by
  induction h generalizing ws with
  | nil => exact ⟨rfl, Nat.le_refl _⟩
  | cons a b _ ih =>
    cases ws with
    | nil => exact ⟨rfl, Nat.le_refl _⟩
    | cons w ws =>
      have := ih ws
      simp only [YtdpfgfkoboihcaaDoor.phr, strip_app, a, this.1, List.length_append, true_and]
      omega
theorem Le2.com {ps qs : List Bs} (h : Le2 ps qs) : strip (com ps) = strip (com qs) ∧ (com ps).length ≤ (com qs).length := by
  induction h with
  | nil => exact ⟨rfl, Nat.le_refl _⟩
  | cons a b h ih =>
    cases h with
    | nil => exact ⟨a, b⟩
    | cons c d h =>
      simp only [YtdpfgfkoboihcaaDoor.com, strip_app, a, ih.1, List.length_append, true_and]
      omega
theorem Le2.shp {ps qs : List Bs} (h : Le2 ps qs) (k : Nat) (nm ot : Bs) (z : Nat) : strip (shp k nm ot z ps) = strip (shp k nm ot z qs) ∧ (shp k nm ot z ps).length ≤ (shp k nm ot z qs).length := by
  unfold YtdpfgfkoboihcaaDoor.shp
  have h0 := h.at0
  have h1 := h.at1
  have h2 := h.com
  have h3 := h.phr (words k nm ot)
  split; exact ⟨rfl, Nat.le_refl _⟩
  split; exact ⟨rfl, Nat.le_refl _⟩
  split; exact ⟨rfl, Nat.le_refl _⟩
  split; · simp only [strip_app, h0.1, List.length_append, true_and]; omega
  split; · simp only [strip_app, h0.1, h1.1, List.length_append, true_and]; omega
  split; · simp only [strip_app, h2.1, List.length_append, true_and]; omega
  exact h3

theorem rq_tab : ∀ k, k < 29 → 5 ≤ k → (k < 10 → lv k ≤ 7) ∧ (10 ≤ k → k < 24 → lft (lv k) ≤ 7 ∧ rgt (lv k) ≤ 7) := by decide
theorem rq_le (k i : Nat) (hk : k < 29) (h5 : 5 ≤ k) : rq k i ≤ 7 := by
  obtain ⟨h1, h2⟩ := rq_tab k hk h5
  unfold rq
  split
  · exact h1 (by assumption)
  · split
    · obtain ⟨a, b⟩ := h2 (by omega) (by assumption)
      split <;> assumption
    · omega
theorem lv_leaf : ∀ k, k < 29 → (k < 5 ∨ k = 24) → lv k = 8 := by decide
theorem ar_pos : ∀ k, k < 29 → 5 ≤ k → 0 < ar k ∧ ar k ≤ 3 := by decide
theorem ar_leaf : ∀ k, k < 5 → ar k = 0 := by decide

theorem le2_kids {k : Nat} (hk : k < 29) (h5 : 5 ≤ k) (ks : List T) (h : ∀ t ∈ ks, strip (tx t) = strip (fl t) ∧ ∀ w, w ≤ 7 → (ex w t).length ≤ (fl t).length) (i : Nat) : Le2 (exs k i ks) (fls ks) := by
  induction ks generalizing i with
  | nil => simp only [exs, fls]; exact .nil
  | cons t ts ih =>
    simp only [exs, fls]
    obtain ⟨h1, h2⟩ := h t (by simp)
    exact .cons (by rw [strip_br]; exact h1) (h2 _ (rq_le k i hk h5)) (ih (fun u hu => h u (by simp [hu])) _)

theorem tx_fl (d : Nat) (t : T) (h : Ok d t) : strip (tx t) = strip (fl t) ∧ ∀ w, w ≤ 7 → (ex w t).length ≤ (fl t).length := by
  induction d generalizing t with
  | zero => exact absurd h id
  | succ d ih =>
    obtain ⟨k, nm, ot, z, ks⟩ := t
    obtain ⟨hk, hn, ho, hz, ha, hl, hks⟩ := h
    by_cases h0 : (ks.isEmpty || k == 24) = true
    · have e : fl (.node k nm ot z ks) = tx (.node k nm ot z ks) := by rw [fl, if_pos h0]
      have hlv : lv k = 8 := lv_leaf k hk (by
        rcases Nat.lt_or_ge k 5 with h1 | h1
        · exact .inl h1
        · have := ar_pos k hk h1
          simp at h0
          rcases h0 with rfl | h0
          · rcases ha with ha | ha
            · exact .inr ha
            · simp at ha; omega
          · exact .inr h0)
      rw [e]
      refine ⟨rfl, fun w hw => ?_⟩
      unfold ex br T.k
      simp only []
      rw [if_pos (by omega)]; exact Nat.le_refl _
    · have hne : 5 ≤ k := by
        rcases Nat.lt_or_ge k 5 with h1 | h1
        · have := ar_leaf k h1
          simp at h0
          rcases ha with ha | ha
          · omega
          · rw [this] at ha; exact absurd (List.eq_nil_of_length_eq_zero ha) h0.1
        · exact h1
      have e : fl (.node k nm ot z ks) = [40] ++ shp k nm ot z (fls ks) ++ [41] := by rw [fl, if_neg h0]
      have hL := (le2_kids hk hne ks (fun t ht => ih t (hks t ht)) 0).shp k nm ot z
      rw [e]
      refine ⟨?_, fun w hw => ?_⟩
      · rw [strip_app, strip_app, tx, hL.1]; simp [strip, kp]
      · have := br_len w (lv k) (tx (.node k nm ot z ks))
        have h2 : (tx (.node k nm ot z ks)).length ≤ (shp k nm ot z (fls ks)).length := by rw [tx]; exact hL.2
        simp only [ex, T.k, List.length_append, List.length_cons, List.length_nil]
        omega

/-- A bound of a text's length. -/
def LL (d : Nat) : Nat := 120 * 4 ^ d
theorem LL_succ (d : Nat) : 3 * (LL d + 2) + 106 ≤ LL (d + 1) := by
  have : 1 ≤ 4 ^ d := Nat.one_le_pow _ _ (by decide)
  unfold LL
  rw [Nat.pow_succ]
  omega
theorem LL_mono {a b : Nat} (h : a ≤ b) : LL a ≤ LL b := Nat.mul_le_mul_left _ (Nat.pow_le_pow_right (by decide) h)

theorem sg5_len : ∀ k, k < 29 → (sg5 k).length ≤ 5 := by decide
theorem zlen {z : Nat} (h : z < 4294967296 ^ 4) : (zText (z : Int)).length ≤ 40 := by
  unfold zText
  rw [if_neg (by omega), Int.natAbs_natCast]
  exact decDigits_len (Nat.lt_of_lt_of_le h (by decide)) (by decide)
theorem sum_len {ps : List Bs} {B : Nat} (h : ∀ p ∈ ps, p.length ≤ B) : (ps.map List.length).sum ≤ ps.length * B := by
  induction ps with
  | nil => simp
  | cons p ps ih =>
    have := h p (by simp)
    have := ih (fun q hq => h q (by simp [hq]))
    simp only [List.map_cons, List.sum_cons, List.length_cons, Nat.succ_mul]
    omega
theorem phr_len (ws ps : List Bs) : (phr ws ps).length ≤ (ws.map List.length).sum + (ps.map List.length).sum := by
  induction ws generalizing ps with
  | nil => simp [phr]
  | cons w ws ih =>
    cases ps with
    | nil => simp [phr]
    | cons p ps => have := ih ps; simp [phr]; omega
theorem com_len (ps : List Bs) : (com ps).length ≤ 2 * ps.length + (ps.map List.length).sum := by
  induction ps with
  | nil => simp [com]
  | cons p ps ih =>
    cases ps with
    | nil => simp [com]
    | cons q ps => simp [com] at *; omega
theorem getD_len {ps : List Bs} {B : Nat} (h : ∀ p ∈ ps, p.length ≤ B) (i : Nat) : (ps.getD i []).length ≤ B := by
  by_cases hi : i < ps.length
  · have := h ps[i] (List.getElem_mem hi); simpa [List.getD, hi] using this
  · simp [List.getD, Nat.le_of_not_lt hi]
theorem words_len (k : Nat) (nm ot : Bs) (h1 : nm.length ≤ 2) (h2 : ot.length ≤ 2) : ((words k nm ot).map List.length).sum ≤ 40 := by
  unfold words
  split
  · decide
  split
  · simp; omega
  split
  · simp; omega
  · decide
theorem shp_len {k : Nat} (hk : k < 29) {nm ot : Bs} {z B : Nat} (h1 : nm.length ≤ 2) (h2 : ot.length ≤ 2) (hz : z < 4294967296 ^ 4) {ps : List Bs} (hl : ps.length ≤ 3) (h : ∀ p ∈ ps, p.length ≤ B) : (shp k nm ot z ps).length ≤ 3 * B + 50 := by
  have a0 := getD_len h 0
  have a1 := getD_len h 1
  have a2 := sg5_len k hk
  have a3 := zlen hz
  have a4 := com_len ps
  have a5 := phr_len (words k nm ot) ps
  have a6 := words_len k nm ot h1 h2
  have a7 := sum_len h
  have a8 : ps.length * B ≤ 3 * B := Nat.mul_le_mul_right _ hl
  unfold shp
  split; · omega
  split; · omega
  split; · omega
  split; · simp only [List.length_append]; omega
  split; · simp only [List.length_append, List.length_cons, List.length_nil]; omega
  split; · simp only [List.length_append, List.length_cons, List.length_nil]; omega
  omega

theorem mem_exs {k i : Nat} {ks : List T} {p : Bs} (h : p ∈ exs k i ks) : ∃ t ∈ ks, ∃ w, p = ex w t := by
  induction ks generalizing i with
  | nil => simp [exs] at h
  | cons t ts ih =>
    simp only [exs, List.mem_cons] at h
    rcases h with rfl | h
    · exact ⟨t, by simp, _, rfl⟩
    · obtain ⟨u, hu, w, e⟩ := ih h; exact ⟨u, by simp [hu], w, e⟩
theorem mem_fls {ks : List T} {p : Bs} (h : p ∈ fls ks) : ∃ t ∈ ks, p = fl t := by
  induction ks with
  | nil => simp [fls] at h
  | cons t ts ih =>
    simp only [fls, List.mem_cons] at h
    rcases h with rfl | h
    · exact ⟨t, by simp, rfl⟩
    · obtain ⟨u, hu, e⟩ := ih h; exact ⟨u, by simp [hu], e⟩

theorem len_all (d : Nat) (t : T) (h : Ok d t) : (tx t).length + 2 ≤ LL d ∧ (fl t).length ≤ LL d := by
  induction d generalizing t with
  | zero => exact absurd h id
  | succ d ih =>
    obtain ⟨k, nm, ot, z, ks⟩ := t
    obtain ⟨hk, hn, ho, hz, ha, hl, hks⟩ := h
    have hS := LL_succ d
    have h1 : (tx (.node k nm ot z ks)).length ≤ 3 * (LL d) + 50 := by
      rw [tx]
      refine shp_len hk hn.2 ho hz (by rw [exs_len]; exact hl) (fun p hp => ?_)
      obtain ⟨t, ht, w, rfl⟩ := mem_exs hp
      have := (ih t (hks t ht)).1
      have h2 := br_len w (lv t.k) (tx t)
      unfold ex; omega
    have h2 : (fl (.node k nm ot z ks)).length ≤ 3 * (LL d) + 52 := by
      rw [fl]
      split
      · omega
      · have := shp_len (ps := fls ks) (B := LL d) hk hn.2 ho hz (by rw [fls_len]; exact hl) (fun p hp => by
          obtain ⟨t, ht, rfl⟩ := mem_fls hp
          exact (ih t (hks t ht)).2)
        simp only [List.length_append, List.length_cons, List.length_nil]; omega
    omega
theorem ex_len {d : Nat} {t : T} (h : Ok d t) (w : Nat) : (ex w t).length ≤ LL d := by
  have := (len_all d t h).1
  have h2 := br_len w (lv t.k) (tx t)
  unfold ex; omega

theorem szs_le {d : Nat} {ks : List T} (h : ∀ t ∈ ks, sz t ≤ d) : szs ks ≤ ks.length * d := by
  induction ks with
  | nil => simp [szs]
  | cons t ts ih =>
    have := h t (by simp)
    have := ih (fun q hq => h q (by simp [hq]))
    simp only [szs, List.length_cons, Nat.succ_mul]; omega
theorem dps_le {d : Nat} {ks : List T} (h : ∀ t ∈ ks, dp t ≤ d) : dps ks ≤ d := by
  induction ks with
  | nil => simp [dps]
  | cons t ts ih =>
    have := h t (by simp)
    have := ih (fun q hq => h q (by simp [hq]))
    simp only [dps]; omega
theorem sz_le (d : Nat) (t : T) (h : Ok d t) : sz t ≤ 4 ^ d := by
  induction d generalizing t with
  | zero => exact absurd h id
  | succ d ih =>
    obtain ⟨k, nm, ot, z, ks⟩ := t
    obtain ⟨hk, hn, ho, hz, ha, hl, hks⟩ := h
    have := szs_le (fun t ht => ih t (hks t ht))
    have h2 : ks.length * 4 ^ d ≤ 3 * 4 ^ d := Nat.mul_le_mul_right _ hl
    have : 1 ≤ 4 ^ d := Nat.one_le_pow _ _ (by decide)
    rw [sz, Nat.pow_succ]; omega
theorem dp_le (d : Nat) (t : T) (h : Ok d t) : dp t ≤ d := by
  induction d generalizing t with
  | zero => exact absurd h id
  | succ d ih =>
    obtain ⟨k, nm, ot, z, ks⟩ := t
    obtain ⟨hk, hn, ho, hz, ha, hl, hks⟩ := h
    have := dps_le (fun t ht => ih t (hks t ht))
    rw [dp]; omega

theorem words_len3 : ∀ k nm ot, 25 ≤ k → k < 29 → (words k nm ot).length = ar k := by
  intro k nm ot h1 h2
  obtain rfl | rfl | rfl | rfl : k = 25 ∨ k = 26 ∨ k = 27 ∨ k = 28 := by omega
  all_goals rfl

theorem sg5_ne : ∀ k, k < 24 → k ≠ 0 → k ≠ 3 → 0 < (sg5 k).length := by decide
theorem words_ne (k : Nat) (nm ot : Bs) : ∃ w ws, words k nm ot = w :: ws ∧ 0 < w.length := by
  unfold words
  split
  · exact ⟨_, _, rfl, by decide⟩
  split
  · exact ⟨_, _, rfl, by simp⟩
  split
  · exact ⟨_, _, rfl, by decide⟩
  · exact ⟨_, _, rfl, by decide⟩
theorem zText_ne (z : Nat) : 0 < (zText (z : Int)).length := by
  unfold zText
  rw [if_neg (by omega), Int.natAbs_natCast, Lib.decDigits_length]
  exact Lib.nDigits_pos _
theorem tx_ne {d : Nat} {t : T} (h : Ok d t) : 0 < (tx t).length := by
  cases d with
  | zero => exact absurd h id
  | succ d =>
    obtain ⟨k, nm, ot, z, ks⟩ := t
    obtain ⟨hk, hn, ho, hz, ha, hl, hks⟩ := h
    rw [tx]
    unfold shp
    split; · exact zText_ne z
    split; · exact hn.1 (by assumption)
    split; · exact sg5_ne k (by omega) (by assumption) (by assumption)
    split; · have := sg5_ne k (by omega) (by assumption) (by assumption); simp only [List.length_append]; omega
    split; · simp only [List.length_append, List.length_cons, List.length_nil]; omega
    split; · simp only [List.length_append, List.length_cons, List.length_nil]; omega
    rename_i h1 h2 h3 h4 h5 h6
    obtain ⟨w, ws, hw, hp⟩ := words_ne k nm ot
    have hks0 : 0 < ks.length := by
      have := ar_pos k hk (by omega)
      rcases ha with ha | ha <;> omega
    rw [hw]
    cases hE : exs k 0 ks with
    | nil => have := exs_len k 0 ks; rw [hE] at this; simp at this; omega
    | cons p ps => simp only [phr, List.length_append]; omega
end Go.Proofs.YtdpfgfkoboihcaaDoor
