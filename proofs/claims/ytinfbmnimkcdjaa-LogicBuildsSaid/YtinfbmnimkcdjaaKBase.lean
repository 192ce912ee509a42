/-
  Joined: Math, Base, Laws.
-/
import Init
import Derived.WalkKit
import Derived.WalkSpells
import Derived.WalkLawsBesides
import Derived.Lib.Hide
import Derived.Laws.CopyOwn
import Derived.Laws.AppendOwnNone
/- Plain mathematics: the number that a list of digits (the lowest first) has in base B; the list of digits of a number; sums and differences digit by digit. No program, no Go stands here. -/
namespace Go.Proofs.Ytinfbmnimkcdjaa
set_option maxRecDepth 100000

/-- The number that digits, the lowest first, have in base B. -/
def val (B : Nat) : List Nat → Nat
  | [] => 0
  | x :: xs => x + B * val B xs

/-- Each digit is one of base B. -/
def Dig (B : Nat) (xs : List Nat) : Prop := ∀ x ∈ xs, x < B

theorem val_append (B : Nat) (xs ys : List Nat) : val B (xs ++ ys) = val B xs + B ^ xs.length * val B ys := by
  induction xs with
  | nil => simp [val]
  | cons x xs ih => simp only [List.cons_append, val, ih, List.length_cons, Nat.pow_succ]; grind

theorem val_lt {B : Nat} {xs : List Nat} (h : Dig B xs) : val B xs < B ^ xs.length := by
  induction xs with
  | nil => simp [val]
  | cons x xs ih =>
    have h1 : x < B := h x (by simp)
    have h2 := ih (fun y hy => h y (by simp [hy]))
    simp only [val, List.length_cons, Nat.pow_succ]
    have : B * (val B xs + 1) ≤ B * B ^ xs.length := Nat.mul_le_mul_left _ h2
    grind

theorem val_set (B : Nat) (xs : List Nat) (i v : Nat) (h : i < xs.length) : val B (xs.set i v) + xs.getD i 0 * B ^ i = val B xs + v * B ^ i := by
  induction xs generalizing i with
  | nil => simp at h
  | cons x xs ih =>
    cases i with
    | zero => simp [val]; omega
    | succ i =>
      have := ih i (by simpa using h)
      simp only [List.set_cons_succ, val, List.getD_cons_succ, Nat.pow_succ]
      grind

theorem val_take_succ (B : Nat) (xs : List Nat) (k : Nat) (h : k < xs.length) : val B (xs.take (k + 1)) = val B (xs.take k) + xs.getD k 0 * B ^ k := by
  rw [List.take_succ_eq_append_getElem h, val_append]
  have e : (xs.take k).length = k := by simp; omega
  simp [val, e, List.getD, h, Nat.mul_comm]

theorem val_replicate_zero (B n : Nat) : val B (List.replicate n 0) = 0 := by
  induction n with
  | zero => rfl
  | succ n ih => simp [List.replicate_succ, val, ih]

theorem Dig.set {B : Nat} {xs : List Nat} (h : Dig B xs) {i v : Nat} (hv : v < B) : Dig B (xs.set i v) := by
  intro x hx
  rcases List.mem_or_eq_of_mem_set hx with h' | h'
  · exact h x h'
  · omega
theorem Dig.append {B : Nat} {xs ys : List Nat} (h : Dig B xs) (k : Dig B ys) : Dig B (xs ++ ys) := by
  intro x hx; rcases List.mem_append.1 hx with h' | h'
  · exact h x h'
  · exact k x h'
theorem Dig.take {B : Nat} {xs : List Nat} (h : Dig B xs) (n : Nat) : Dig B (xs.take n) := fun x hx => h x (List.mem_of_mem_take hx)
theorem Dig.drop {B : Nat} {xs : List Nat} (h : Dig B xs) (n : Nat) : Dig B (xs.drop n) := fun x hx => h x (List.mem_of_mem_drop hx)
theorem Dig.getD {B : Nat} {xs : List Nat} (h : Dig B xs) (hB : 0 < B) (i : Nat) : xs.getD i 0 < B := by
  by_cases hi : i < xs.length
  · have := h xs[i] (List.getElem_mem hi); simpa [List.getD, hi] using this
  · simpa [List.getD, Nat.le_of_not_lt hi] using hB
theorem Dig.replicate {B : Nat} (hB : 0 < B) (n : Nat) : Dig B (List.replicate n 0) := fun x hx => by rw [List.eq_of_mem_replicate hx]; exact hB
theorem Dig.nil (B : Nat) : Dig B [] := fun x hx => by cases hx

/-- How many digits are left when the zeros at the end are struck. -/
def nz (xs : List Nat) : Nat := (xs.reverse.dropWhile (· == 0)).length

theorem nz_le (xs : List Nat) : nz xs ≤ xs.length := by
  unfold nz
  have := (List.dropWhile_suffix (p := (· == 0)) (l := xs.reverse)).length_le
  simpa using this
theorem nz_zero {xs : List Nat} {k : Nat} (h : k < xs.length) (h0 : xs.getD k 0 = 0) : nz (xs.take (k+1)) = nz (xs.take k) := by
  unfold nz
  rw [List.take_succ_eq_append_getElem h]
  simp [List.getD, h] at h0
  simp [h0]
theorem nz_pos {xs : List Nat} {k : Nat} (h : k < xs.length) (h0 : xs.getD k 0 ≠ 0) : nz (xs.take (k+1)) = k + 1 := by
  unfold nz
  rw [List.take_succ_eq_append_getElem h]
  simp [List.getD, h] at h0
  have e : (xs[k] == 0) = false := by simpa using h0
  rw [List.reverse_append, List.reverse_singleton, List.singleton_append, List.dropWhile_cons, e]
  simp; omega

/-- The digits of n in base B, the lowest first, none for 0. -/
def dig (B : Nat) (n : Nat) : List Nat :=
  if _h : 2 ≤ B ∧ 0 < n then n % B :: dig B (n / B) else []
termination_by n
decreasing_by exact Nat.div_lt_self _h.2 (by omega)

theorem dig_zero (B : Nat) : dig B 0 = [] := by unfold dig; simp
theorem dig_pos {B n : Nat} (hB : 2 ≤ B) (h : 0 < n) : dig B n = n % B :: dig B (n / B) := by rw [dig]; simp [hB, h]
theorem val_dig {B : Nat} (hB : 2 ≤ B) (n : Nat) : val B (dig B n) = n := by
  induction n using Nat.strongRecOn with
  | ind n ih =>
    by_cases h : 0 < n
    · rw [dig_pos hB h]; simp only [val]; rw [ih _ (Nat.div_lt_self h (by omega))]; have := Nat.mod_add_div n B; omega
    · have : n = 0 := by omega
      subst this; simp [dig_zero, val]
theorem Dig_dig {B : Nat} (hB : 2 ≤ B) (n : Nat) : Dig B (dig B n) := by
  induction n using Nat.strongRecOn with
  | ind n ih =>
    by_cases h : 0 < n
    · rw [dig_pos hB h]; intro x hx
      rcases List.mem_cons.1 hx with rfl | hx
      · exact Nat.mod_lt _ (by omega)
      · exact ih _ (Nat.div_lt_self h (by omega)) x hx
    · have : n = 0 := by omega
      subst this; simp [dig_zero, Dig]

/-- A list of digits without its zeros at the end is the list of digits of its number. -/
theorem take_nz {B : Nat} (hB : 2 ≤ B) {xs : List Nat} (h : Dig B xs) : xs.take (nz xs) = dig B (val B xs) := by
  induction xs with
  | nil => simp [nz, val, dig_zero]
  | cons x xs ih =>
    have hx : x < B := h x (by simp)
    have hd : Dig B xs := fun y hy => h y (by simp [hy])
    have ih' := ih hd
    by_cases hz : nz xs = 0
    · have hv : val B xs = 0 := by
        have : dig B (val B xs) = [] := by rw [← ih', hz]; rfl
        by_cases h0 : 0 < val B xs
        · rw [dig_pos hB h0] at this; cases this
        · omega
      have hall : xs.reverse.dropWhile (· == 0) = [] := List.eq_nil_of_length_eq_zero hz
      simp only [val, hv, Nat.mul_zero, Nat.add_zero]
      have e : nz (x :: xs) = if x = 0 then 0 else 1 := by
        unfold nz
        rw [List.reverse_cons, List.dropWhile_append, hall]
        by_cases hx0 : x = 0
        · simp [hx0]
        · simp [hx0, List.dropWhile]
          have : (x == 0) = false := by simpa using hx0
          simp [this]
      by_cases hx0 : x = 0
      · rw [e, if_pos hx0, hx0, dig_zero]; rfl
      · rw [e, if_neg hx0, dig_pos hB (by omega), Nat.mod_eq_of_lt hx, Nat.div_eq_of_lt hx, dig_zero]; rfl
    · have hne : xs.reverse.dropWhile (· == 0) ≠ [] := fun e => hz (by unfold nz; rw [e]; rfl)
      have e : nz (x :: xs) = nz xs + 1 := by
        unfold nz
        rw [List.reverse_cons, List.dropWhile_append, if_neg (by simpa using hne)]
        simp
      have hv : 0 < val B xs := by
        rcases Nat.eq_zero_or_pos (val B xs) with h0 | h0
        · rw [h0, dig_zero] at ih'
          have := congrArg List.length ih'
          simp at this
          have hl := nz_le xs
          rcases this with h1 | h1
          · omega
          · subst h1; simp [nz] at hz
        · exact h0
      have hv' : 0 < x + B * val B xs := by
        have h1 : 1 ≤ B := by omega
        have := Nat.mul_le_mul h1 hv; omega
      rw [e, List.take_succ_cons, ih', val, dig_pos (n := x + B * val B xs) hB hv']
      rw [Nat.add_mul_mod_self_left, Nat.mod_eq_of_lt hx, Nat.add_mul_div_left _ _ (by omega), Nat.div_eq_of_lt hx, Nat.zero_add]

theorem dig_val_take {B : Nat} (hB : 2 ≤ B) {xs : List Nat} (h : Dig B xs) : dig B (val B xs) = xs.take (nz xs) := (take_nz hB h).symm
theorem length_dig_val {B : Nat} (hB : 2 ≤ B) {xs : List Nat} (h : Dig B xs) : (dig B (val B xs)).length = nz xs := by
  rw [dig_val_take hB h, List.length_take]; have := nz_le xs; omega
theorem val_take_nz {B : Nat} (hB : 2 ≤ B) {xs : List Nat} (h : Dig B xs) : val B (xs.take (nz xs)) = val B xs := by rw [take_nz hB h, val_dig hB]

theorem length_dig_le {B : Nat} (hB : 2 ≤ B) {n k : Nat} (h : n < B ^ k) : (dig B n).length ≤ k := by
  induction k generalizing n with
  | zero => simp at h; subst h; simp [dig_zero]
  | succ k ih =>
    by_cases h0 : 0 < n
    · rw [dig_pos hB h0, List.length_cons]
      have : n / B < B ^ k := Nat.div_lt_of_lt_mul (by rw [Nat.pow_succ] at h; rw [Nat.mul_comm]; exact h)
      have := ih this; omega
    · have : n = 0 := by omega
      subst this; simp [dig_zero]
theorem lt_pow_of_length {B : Nat} (hB : 2 ≤ B) {n k : Nat} (h : (dig B n).length ≤ k) : n < B ^ k := by
  have h1 := val_lt (Dig_dig hB n)
  rw [val_dig hB] at h1
  exact Nat.lt_of_lt_of_le h1 (Nat.pow_le_pow_right (by omega) h)
theorem le_of_length {B : Nat} (hB : 2 ≤ B) {n k : Nat} (h : k < (dig B n).length) : B ^ k ≤ n := by
  rcases Nat.lt_or_ge n (B ^ k) with h1 | h1
  · have := length_dig_le hB h1; omega
  · exact h1

end Go.Proofs.Ytinfbmnimkcdjaa

/- Plain notions for the proofs of this seat: what a slice of whole numbers reads as; a block of cells known whole; one block alone has changed. No program stands here. -/
namespace Go.Proofs.Ytinfbmnimkcdjaa
open Go.RowKit
set_option maxRecDepth 100000

/-- Element i of a list of numbers, as the integer that a cell holds (0 behind the end). -/
def nth (xs : List Nat) (i : Nat) : Int := ((xs.getD i 0 : Nat) : Int)

theorem nth_nonneg (xs : List Nat) (i : Nat) : 0 ≤ nth xs i := Int.natCast_nonneg _
theorem nth_lt {xs : List Nat} {M : Nat} (h : ∀ x ∈ xs, x < M) (h0 : 0 < M) (i : Nat) : nth xs i < (M : Int) := by
  unfold nth
  by_cases hi : i < xs.length
  · have := h xs[i] (List.getElem_mem hi)
    simp [List.getD, hi]; omega
  · simp [List.getD, Nat.le_of_not_lt hi]; omega
theorem nth_eq {xs : List Nat} {i : Nat} (h : i < xs.length) : nth xs i = ((xs[i] : Nat) : Int) := by
  unfold nth; simp [List.getD, h]

/-- The slice value v reads, in world w, as the numbers xs of kind k. -/
def Sl (w : World) (k : IntKind) (v : Value) (xs : List Nat) : Prop :=
  ∃ (ao : Option Addr) (cap : Nat), v = .slice ao xs.length cap ∧ xs.length ≤ cap ∧ cap ≤ 9223372036854775807 ∧ (ao = none → cap = 0) ∧
    ∀ i, i < xs.length → ∃ a, ao = some a ∧ w.cell? (a.add i) = some (.int k (nth xs i))

theorem addr_add_add (a : Addr) (i j : Nat) : (a.add i).add j = a.add (i + j) := by
  unfold Addr.add
  by_cases hi : i = 0
  · simp [hi]
  · by_cases hj : j = 0
    · simp [hj]
    · simp [hi, hj]; omega

theorem cell_lt {w : World} {a : Addr} {v : Value} (h : w.cell? a = some v) : a.block < w.heap.size := World.block_lt_of_cell? w a h

theorem Sl.nil (w : World) (k : IntKind) : Sl w k (.slice none 0 0) [] :=
  ⟨none, 0, rfl, by simp, by omega, fun _ => rfl, fun i hi => by simp at hi⟩

theorem Sl.below {w w' : World} {k : IntKind} {v : Value} {xs : List Nat} (h : Sl w k v xs) (hb : Below w.heap.size w w') : Sl w' k v xs := by
  obtain ⟨ao, cap, rfl, h1, h2, h3, h4⟩ := h
  refine ⟨ao, cap, rfl, h1, h2, h3, fun i hi => ?_⟩
  obtain ⟨a, ha, hc⟩ := h4 i hi
  exact ⟨a, ha, by rw [hb.cell (cell_lt hc)]; exact hc⟩

theorem Sl.take {w : World} {k : IntKind} {ao : Option Addr} {n cap : Nat} {xs : List Nat} (h : Sl w k (.slice ao n cap) xs) (m : Nat) (hm : m ≤ xs.length) : Sl w k (.slice ao m cap) (xs.take m) := by
  obtain ⟨ao', cap', e, h1, h2, h3, h4⟩ := h
  injection e with e1 e2 e3
  subst e1; subst e3
  have hl : (xs.take m).length = m := by simp; omega
  refine ⟨ao, cap, by rw [hl], by rw [hl]; omega, h2, h3, fun i hi => ?_⟩
  rw [hl] at hi
  obtain ⟨a, ha, hc⟩ := h4 i (by omega)
  refine ⟨a, ha, ?_⟩
  rw [hc]; unfold nth
  simp [List.getD, hi]

/-- Block g holds, whole, the numbers l of kind k (its elements' type: T), and may be written. -/
def Blk (w : World) (g : Nat) (k : IntKind) (T : TypeId) (l : List Nat) : Prop :=
  w.heap[g]? = some (.cells ((l.map fun (n : Nat) => Value.int k ((n : Nat) : Int)).toArray) T (0, 0))

theorem Blk.lt {w : World} {g : Nat} {k : IntKind} {T : TypeId} {l : List Nat} (h : Blk w g k T l) : g < w.heap.size := lt_of_block h
theorem Blk.cell {w : World} {g : Nat} {k : IntKind} {T : TypeId} {l : List Nat} (h : Blk w g k T l) {i : Nat} (hi : i < l.length) : w.cell? ⟨g, i, none⟩ = some (.int k (nth l i)) := by
  rw [cell_of_row w g i _ T (0, 0) h]
  simp [hi, nth_eq hi]
theorem Blk.frozen {w : World} {g : Nat} {k : IntKind} {T : TypeId} {l : List Nat} (h : Blk w g k T l) (i : Nat) : w.frozen? ⟨g, i, none⟩ = false := frozen_of_row w g i _ T h
theorem Blk.set {w : World} {g : Nat} {k : IntKind} {T : TypeId} {l : List Nat} (h : Blk w g k T l) (i : Nat) (n : Nat) (z : Int) (hz : z = (n : Int)) : Blk (w.setCell ⟨g, i, none⟩ (.int k z)) g k T (l.set i n) := by
  subst hz
  unfold Blk
  rw [heap_setCell_same w g i _ T _ h]
  simp [List.map_set]
theorem Blk.other {w w' : World} {g : Nat} {k : IntKind} {T : TypeId} {l : List Nat} (h : Blk w g k T l) {row : Option Nat} (hg : w.grownBy w' row) (hne : some g ≠ row) : Blk w' g k T l := by
  unfold Blk at *
  rw [hg.block g (lt_of_block h) hne]; exact h
theorem Blk.below {w w' : World} {B g : Nat} {k : IntKind} {T : TypeId} {l : List Nat} (h : Blk w g k T l) (hg : Below B w w') (hB : g < B) : Blk w' g k T l := by
  unfold Blk at *
  rw [hg.block g hB]; exact h

theorem addr_at (g off i : Nat) : (⟨g, off, none⟩ : Addr).add i = ⟨g, off + i, none⟩ := by simp [Addr.add]

/-- A part of a block known whole, as a slice. -/
theorem Blk.sl {w : World} {g : Nat} {k : IntKind} {T : TypeId} {l : List Nat} (h : Blk w g k T l) (off n cap : Nat) (hn : off + n ≤ l.length) (hc : n ≤ cap) (hm : cap ≤ 9223372036854775807) :
    Sl w k (.slice (some ⟨g, off, none⟩) n cap) ((l.drop off).take n) := by
  have hl : ((l.drop off).take n).length = n := by simp; omega
  refine ⟨some ⟨g, off, none⟩, cap, by rw [hl], by rw [hl]; exact hc, hm, (fun e => by cases e), fun i hi => ⟨_, rfl, ?_⟩⟩
  rw [hl] at hi
  rw [addr_at, h.cell (i := off + i) (by omega)]
  unfold nth
  simp [List.getD, hi]

theorem grown_setCell {w0 w : World} {g i : Nat} (h : w0.grownBy w (some g)) (v : Value) : w0.grownBy (w.setCell ⟨g, i, none⟩ v) (some g) :=
  ⟨h.os, h.tape, h.output, by simpa [World.setCell] using h.size, fun k hk hne => by
    rw [Below.heap_setCell _ _ _ _ (fun e => hne (by rw [e]))]; exact h.block k hk hne⟩
theorem grown_drew {w0 w : World} {row : Option Nat} (h : w0.grownBy w row) : w0.grownBy w.drew row := ⟨h.os, h.tape, h.output, h.size, h.block⟩
theorem grown_trans {a b c : World} {row : Option Nat} (h : a.grownBy b row) (k : b.grownBy c row) : a.grownBy c row :=
  ⟨k.os.trans h.os, k.tape.trans h.tape, k.output.trans h.output, Nat.le_trans h.size k.size, fun i hi hne => (k.block i (Nat.lt_of_lt_of_le hi h.size) hne).trans (h.block i hi hne)⟩
theorem grown_of_below {a b : World} {row : Option Nat} (h : Below a.heap.size a b) : a.grownBy b row :=
  ⟨h.os, h.tape, h.output, h.size, fun k hk _ => h.block k hk⟩
theorem below_of_grown {a b : World} {g : Nat} (h : a.grownBy b (some g)) (hg : a.heap.size ≤ g) : Below a.heap.size a b :=
  ⟨h.os, h.tape, h.output, h.size, fun k hk => h.block k hk (fun e => by injection e with e; omega)⟩

/-- A slice whose cells lie in other blocks than g reads as before behind what changed g alone. -/
def Apart (g : Nat) (v : Value) : Prop := ∀ a n c, v = .slice (some a) n c → a.block = g → n = 0
theorem Sl.grown {w w' : World} {k : IntKind} {v : Value} {xs : List Nat} {g : Nat} (h : Sl w k v xs) (hg : w.grownBy w' (some g)) (ha : Apart g v) : Sl w' k v xs := by
  obtain ⟨ao, cap, rfl, h1, h2, h3, h4⟩ := h
  refine ⟨ao, cap, rfl, h1, h2, h3, fun i hi => ?_⟩
  obtain ⟨a, rfl, hc⟩ := h4 i hi
  refine ⟨a, rfl, ?_⟩
  have hb : (a.add i).block = a.block := by unfold Addr.add; split <;> rfl
  refine hg.cell hc (fun e => ?_)
  injection e with e
  have := ha a _ _ rfl (by rw [← e, hb])
  omega

/-- The slice value v is a writable part of block g: before it lie pre, it holds s, behind it lie post. (An empty one may be nil.) -/
def Ws (w : World) (k : IntKind) (T : TypeId) (v : Value) (g : Nat) (pre s post : List Nat) : Prop :=
  ∃ (ao : Option Addr) (cap : Nat), v = .slice ao s.length cap ∧ s.length ≤ cap ∧ cap ≤ 9223372036854775807 ∧ (ao = none → cap = 0) ∧
    (s.length ≠ 0 → ao = some ⟨g, pre.length, none⟩ ∧ Blk w g k T (pre ++ s ++ post))

/-- What Ws says of memory, for n elements (a plain definition, so that the walk does not open it). -/
def WsAt (w : World) (k : IntKind) (T : TypeId) (ao : Option Addr) (g : Nat) (pre s post : List Nat) (n : Nat) : Prop :=
  n ≠ 0 → ao = some ⟨g, pre.length, none⟩ ∧ Blk w g k T (pre ++ s ++ post)

theorem u32_wf {xs : List Nat} (h : Dig 4294967296 xs) (i : Nat) : 0 ≤ nth xs i ∧ nth xs i < 4294967296 := by
  have h1 := h.getD (by omega) i
  unfold nth; omega
theorem Sl.at {w : World} {k : IntKind} {b : Addr} {n c : Nat} {xs : List Nat} (h : Sl w k (.slice (some b) n c) xs) {i : Nat} (hi : i < xs.length) : w.cell? (b.add i) = some (.int k (nth xs i)) := by
  obtain ⟨_, _, e, _, _, _, q⟩ := h
  injection e with e1 e2 e3
  subst e1
  obtain ⟨b', e, q⟩ := q i hi
  injection e with e; subst e; exact q

theorem Ws.sl {w : World} {k : IntKind} {T : TypeId} {v : Value} {g : Nat} {pre s post : List Nat} (h : Ws w k T v g pre s post) : Sl w k v s := by
  obtain ⟨ao, cap, rfl, h1, h2, h3, h4⟩ := h
  refine ⟨ao, cap, rfl, h1, h2, h3, fun i hi => ?_⟩
  obtain ⟨rfl, hb⟩ := h4 (by omega)
  refine ⟨_, rfl, ?_⟩
  rw [addr_at, hb.cell (by simp; omega)]
  unfold nth
  simp [List.getD, List.getElem?_append_left, List.getElem?_append_right, hi]

theorem nth_mid (pre s post : List Nat) (i : Nat) (h : i < s.length) : nth (pre ++ s ++ post) (pre.length + i) = nth s i := by
  unfold nth
  simp [List.getD, List.getElem?_append_left, List.getElem?_append_right, h]
theorem set_mid (pre s post : List Nat) (i n : Nat) (h : i < s.length) : (pre ++ s ++ post).set (pre.length + i) n = pre ++ s.set i n ++ post := by
  rw [List.append_assoc, List.set_append_right _ _ (by omega), List.set_append_left _ _ (by omega), List.append_assoc]
  simp

theorem Ws.below {w w' : World} {B : Nat} {k : IntKind} {T : TypeId} {v : Value} {g : Nat} {pre s post : List Nat} (h : Ws w k T v g pre s post) (hb : Below B w w') (hg : g < B) : Ws w' k T v g pre s post := by
  obtain ⟨ao, cap, rfl, h1, h2, h3, h4⟩ := h
  exact ⟨ao, cap, rfl, h1, h2, h3, fun i => ⟨(h4 i).1, (h4 i).2.below hb hg⟩⟩

end Go.Proofs.Ytinfbmnimkcdjaa

/- Laws of the walk for slices of numbers: make, copy, append, as the notions of the base say it. Over any program. -/
namespace Go.Proofs.Ytinfbmnimkcdjaa
open Go.RowKit
set_option maxRecDepth 100000

theorem heap_of_owns {w : World} {base : Nat} {e : TypeId} {g n cap : Nat} {xs : List Value} (h : w.ownsRow base e 1 (.slice (some ⟨g, 0, none⟩) n cap) n xs) (hn : n = cap) : w.heap[g]? = some (.cells xs.toArray e (0, 0)) := by
  obtain ⟨hl, h2⟩ := h
  rcases h2 with ⟨e1, _⟩ | ⟨g', cap', cur, e1, _, hg, _, _, hs, ht⟩
  · cases e1
  · injection e1 with e1 e2 e3
    injection e1 with e1
    injection e1 with e1
    subst e1; subst e3; subst hn
    rw [hg, ← ht, Nat.mul_one]
    congr 2
    rw [List.take_of_length_le (by simp [hs])]

/-- 'make([]T, n)': a new block of n zeros. -/
theorem wpList_make_blk {P : Program} (w : World) {ops : Array Oper} {rest : List Oper} {o : Oper} {a : Act} {Q : Exit → Act → World → Prop}
    (hg : o.guard = none) (l c : Operand) (t : TypeId) (hop : o.op = Op.makeSlice t l c)
    (e : TypeId) (i : TypeInfo) (k : IntKind) (h1 : P.underlying t = some (.slice e)) (h2 : P.info? e = some i) (h3 : i.zero = some (.int k 0)) (h4 : i.size = 1)
    (kl kc : IntKind) (L C : Int) (n : Nat) (hl : a.eval l = .int kl L) (hc : a.eval c = .int kc C) (hL : L = (n : Int)) (hC : C = (n : Int)) (b2 : i.bytes ≤ 8) (b3 : n ≤ 35184372088832)
    (hK : ∀ w', Blk w' w.heap.size k e (List.replicate n 0) → Below w.heap.size w w' → w.heap.size < w'.heap.size → wpList P ops Q rest (a.put o.dst (.slice (some ⟨w.heap.size, 0, none⟩) n n)) w') :
    wpList P ops Q (o :: rest) a w := by
  have hb : i.bytes * n ≤ 281474976710656 := Nat.le_trans (Nat.mul_le_mul b2 b3) (by omega)
  refine wpList_make_full w hg l c t hop w.heap.size e i (.int k 0) 1 h1 h2 h3 h4 kl kc L C n hl hc hL hC hb (by unfold maxLen; omega) (Nat.le_refl _) ?_
  intro w' ho hgr
  have hh := heap_of_owns ho rfl
  have hB : Blk w' w.heap.size k e (List.replicate n 0) := by
    unfold Blk
    rw [hh]
    have : (madeCells (Value.cells (.int k 0)) (n * 1)).toList = List.replicate n (.int k 0) := by
      rw [Nat.mul_one]; exact toList_madeCells_one _ _
    rw [this]
    simp
  exact hK w' hB ⟨hgr.os, hgr.tape, hgr.output, hgr.size, fun j hj => hgr.block j hj (by simp)⟩ hB.lt

theorem cells_of_sl {w : World} {k : IntKind} {sp : Option Addr} {n c : Nat} {xs : List Nat} (h : Sl w k (.slice sp n c) xs) (m : Nat) (hm : m ≤ xs.length) (h0 : 0 < m) :
    ∃ ad, sp = some ad ∧ ∀ j v, ((xs.take m).map fun (x : Nat) => Value.int k ((x : Nat) : Int))[j]? = some v → w.cell? (ad.add j) = some v := by
  obtain ⟨ao, cap, e, h1, h2, h3, h4⟩ := h
  injection e with e1 e2 e3
  subst e1
  obtain ⟨a, rfl, _⟩ := h4 0 (by omega)
  refine ⟨a, rfl, fun j v hj => ?_⟩
  have hjl : j < m := by
    have := (List.getElem?_eq_some_iff.1 hj).1
    simp at this; omega
  obtain ⟨b, e, q⟩ := h4 j (by omega)
  injection e with e; subst e
  rw [q, ← hj]
  simp [hjl, nth_eq (show j < xs.length by omega), show j < xs.length by omega]

theorem sl_len {w : World} {k : IntKind} {sp : Option Addr} {n c : Nat} {xs : List Nat} (h : Sl w k (.slice sp n c) xs) : n = xs.length := by
  obtain ⟨ao, cap, e, _⟩ := h
  injection e

theorem ints_one (k : IntKind) (xs : List Nat) : ∀ u ∈ (xs.map fun (x : Nat) => Value.int k ((x : Nat) : Int)), u.oneCell' = true := by
  intro u hu
  obtain ⟨x, _, rfl⟩ := List.mem_map.1 hu
  rfl

/-- 'copy(dst, src)' into a whole block, of a source that is no longer. -/
theorem wpList_copy_blk {P : Program} {w : World} {ops : Array Oper} {rest : List Oper} {o : Oper} {a : Act} {Q : Exit → Act → World → Prop} (hgd : o.guard = none) (d s : Operand) (dT sT : TypeId)
    (ho : o.op = .call { callee := .builtin .copy, args := #[d, s], argTypes := #[dT, sT] }) (elem : TypeId) (hu : P.underlying dT = some (.slice elem)) (hsz : (P.info? elem).map (·.size) = some 1)
    (g n dCap : Nat) (sp : Option Addr) (sLen sCap : Nat) (hd : a.eval d = .slice (some ⟨g, 0, none⟩) n dCap) (hs : a.eval s = .slice sp sLen sCap)
    (k : IntKind) (T : TypeId) (l xs : List Nat) (hB : Blk w g k T l) (hn : n = l.length) (hx : Sl w k (.slice sp sLen sCap) xs) (hle : xs.length ≤ n)
    (B : Nat) (w0 : World) (hb : Below B w0 w) (hBg : B ≤ g)
    (h : ∀ w', Blk w' g k T (xs ++ l.drop xs.length) → Below B w0 w' → wpList P ops Q rest (a.put o.dst (.int .i64 xs.length)) w') :
    wpList P ops Q (o :: rest) a w := by
  have hsl := sl_len hx
  have hmin : Nat.min sLen n = xs.length := by rw [hsl]; exact Nat.min_eq_left hle
  refine wpList_copy_splice hgd d s dT sT ho elem hu hsz (some ⟨g, 0, none⟩) sp n dCap sLen sCap hd hs g 0 (l.map fun (x : Nat) => Value.int k ((x : Nat) : Int)) T hB (xs.map fun (x : Nat) => Value.int k ((x : Nat) : Int)) (by rw [hmin]; simp) ?_ (by simp; omega) (ints_one k xs) B w0 hb hBg ?_
  · intro h0
    refine ⟨rfl, ?_⟩
    have := cells_of_sl hx xs.length (Nat.le_refl _) (by simpa using h0)
    rwa [List.take_length] at this
  · intro w' hh hb'
    have := h w' (by
      unfold Blk
      rw [hh.out]
      congr 2
      simp [splice]) hb'
    simpa [goInt] using this

/-- The slice value v, made by the call itself (its block lies from base on), owns its cells and reads as xs. -/
def Ow (w : World) (base : Nat) (k : IntKind) (T : TypeId) (v : Value) (xs : List Nat) : Prop :=
  w.ownsRow base T 1 v xs.length (xs.map fun (x : Nat) => Value.int k ((x : Nat) : Int))

theorem Ow.nil (w : World) (base : Nat) (k : IntKind) (T : TypeId) : Ow w base k T (.slice none 0 0) [] := World.ownsRow_nil w base T 1
theorem Ow.alloc {w : World} {base : Nat} {k : IntKind} {T : TypeId} {v : Value} {xs : List Nat} (h : Ow w base k T v xs) (o : Obj) : Ow (w.alloc o) base k T v xs := World.ownsRow.alloc h o
theorem Ow.drewN {w : World} {base : Nat} {k : IntKind} {T : TypeId} {v : Value} {xs : List Nat} (h : Ow w base k T v xs) (n : Nat) : Ow (w.drewN n) base k T v xs := h

theorem Ow.sl {w : World} {base : Nat} {k : IntKind} {T : TypeId} {v : Value} {xs : List Nat} (h : Ow w base k T v xs) : Sl w k v xs := by
  have h' := h
  obtain ⟨h1, h2⟩ := h
  rcases h2 with ⟨rfl, h2⟩ | ⟨g, cap, cur, rfl, hb, hg, hn, hm, hs, ht⟩
  · have : xs = [] := List.eq_nil_of_length_eq_zero h2
    subst this
    exact Sl.nil _ _
  · refine ⟨some ⟨g, 0, none⟩, cap, rfl, hn, by unfold maxLen at hm; omega, (fun e => by cases e), fun i hi => ⟨_, rfl, ?_⟩⟩
    rw [addr_at, Nat.zero_add, World.ownsRow.cellAt h' i (by omega)]
    simp [hi, nth_eq hi]

theorem Ow.base_le {w : World} {base : Nat} {k : IntKind} {T : TypeId} {v : Value} {xs : List Nat} (h : Ow w base k T v xs) : ∀ j, v.ownBlock = some j → base ≤ j := fun j hj => (World.ownsRow.lt h j hj).1

/-- What is owned stays owned where only blocks below base, and new ones, change: here: nothing below the heap's size changes. -/
theorem Ow.below {w w' : World} {base : Nat} {k : IntKind} {T : TypeId} {v : Value} {xs : List Nat} (h : Ow w base k T v xs) (hb : Below w.heap.size w w') : Ow w' base k T v xs :=
  World.ownsRow.kept h ⟨hb.os, hb.tape, hb.output, hb.size, fun j hj _ => hb.block j hj⟩ (by cases hv : v.ownBlock with | none => exact .inl rfl | some g => exact .inr (show some g ≠ none by simp))

/-- 'append(out, x)' of one number. -/
theorem wpList_append_one {P : Program} (w : World) {ops : Array Oper} {rest : List Oper} {o : Oper} {a : Act} {Q : Exit → Act → World → Prop} (hgd : o.guard = none) (s x : Operand) (t : TypeId)
    (ho : o.op = .call { callee := .builtin .append, args := #[s, x], argTypes := #[t, t] })
    (e : TypeId) (i : TypeInfo) (k : IntKind) (ht : P.underlying t = some (.slice e)) (hi : P.info? e = some i) (hz : i.zero = some (.int k 0)) (hsize : i.size = 1) (hby : i.bytes ≤ 8)
    (base : Nat) (v : Value) (xs : List Nat) (hs : a.eval s = v) (hown : Ow w base k e v xs)
    (h : Nat) (z : Int) (n : Nat) (hx : a.eval x = .slice (some ⟨h, 0, none⟩) 1 1) (hc : w.cell? ⟨h, 0, none⟩ = some (.int k z)) (hzn : z = (n : Int))
    (hlen : xs.length ≤ 1000000000) (hbase : base ≤ w.heap.size)
    (hK : ∀ v' w', Ow w' base k e v' (xs ++ [n]) → Below base w w' → wpList P ops Q rest (a.put o.dst v') w') : wpList P ops Q (o :: rest) a w := by
  have hb2 : (xs.length + 1) * i.bytes ≤ 140737488355328 := Nat.le_trans (Nat.mul_le_mul (show xs.length + 1 ≤ 1000000001 by omega) hby) (by omega)
  refine wpList_append_own w hgd s x t ho base e i (.int k 0) 1 i.bytes ht hi hz hsize rfl rfl (by decide) v xs.length _ hs hown ⟨h, 0, none⟩ 1 1 [.int k z] hx rfl ?_ ?_ (by unfold maxLen; omega) hb2 hbase ?_
  · intro j u hj
    match j, hj with
    | 0, hj => simp at hj; subst hj; simpa [Addr.add] using hc
  · intro u hu; simp at hu; subst hu; rfl
  · intro v' w' h1 h2 _
    refine hK v' w' ?_ ⟨h2.os, h2.tape, h2.output, h2.size, fun j hj => h2.block j (by omega) (fun e' => ?_)⟩
    · unfold Ow
      have : (xs ++ [n]).map (fun (x : Nat) => Value.int k ((x : Nat) : Int)) = xs.map (fun (x : Nat) => Value.int k ((x : Nat) : Int)) ++ [.int k z] := by rw [hzn]; simp
      rw [this, List.length_append]
      exact h1
    · have := hown.base_le j e'.symm
      omega

end Go.Proofs.Ytinfbmnimkcdjaa
