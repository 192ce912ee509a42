/-
  Joined: DecM, Fmt, ParA, ParB, ParC, IsA.
-/
import Derived.Test.YtinfbmnimkcdjaaKText
import Derived.Lib.ItoaMem
import Derived.Test.YtinfbmnimkcdjaaKMul
import Derived.Test.YtinfbmnimkcdjaaKRef
/- Decimal texts and the numbers that they stand for. No program stands here. -/
namespace Go.Proofs.Ytinfbmnimkcdjaa
open Go.RowKit
set_option maxRecDepth 100000

theorem snoc_ind {α : Type} {P : List α → Prop} (h0 : P []) (h1 : ∀ l c, P l → P (l ++ [c])) : ∀ l, P l := by
  intro l
  rw [← List.reverse_reverse l]
  induction l.reverse with
  | nil => exact h0
  | cons c r ih => rw [List.reverse_cons]; exact h1 _ _ ih

/-- The number that a row of digits stands for. -/
def dn (l : List UInt8) : Nat := l.foldl (fun n c => 10 * n + (c.toNat - 48)) 0
/-- All are digits. -/
def AllD (l : List UInt8) : Prop := ∀ c ∈ l, 48 ≤ c.toNat ∧ c.toNat ≤ 57

theorem dn_snoc (l : List UInt8) (c : UInt8) : dn (l ++ [c]) = 10 * dn l + (c.toNat - 48) := by
  unfold dn; rw [List.foldl_append]; rfl
theorem AllD.left {l m : List UInt8} (h : AllD (l ++ m)) : AllD l := fun c hc => h c (List.mem_append_left _ hc)
theorem AllD.right {l m : List UInt8} (h : AllD (l ++ m)) : AllD m := fun c hc => h c (List.mem_append_right _ hc)
theorem AllD.take {l : List UInt8} (h : AllD l) (n : Nat) : AllD (l.take n) := fun c hc => h c (List.mem_of_mem_take hc)
theorem AllD.drop {l : List UInt8} (h : AllD l) (n : Nat) : AllD (l.drop n) := fun c hc => h c (List.mem_of_mem_drop hc)

theorem dn_append (l : List UInt8) : ∀ m : List UInt8, dn (l ++ m) = dn l * 10 ^ m.length + dn m := by
  refine snoc_ind (by simp [dn]) fun m c ih => ?_
  · rw [← List.append_assoc, dn_snoc, dn_snoc, ih, List.length_append, List.length_singleton, Nat.pow_succ]
    generalize 10 ^ m.length = p
    have : dn l * (p * 10) = 10 * (dn l * p) := by grind
    omega
theorem dn_lt : ∀ {l : List UInt8} (_ : AllD l), dn l < 10 ^ l.length := by
  intro l
  refine snoc_ind (P := fun l => AllD l → dn l < 10 ^ l.length) (by simp [dn]) (fun m c ih h => ?_) l
  · have h1 := ih h.left
    have h2 := h c (List.mem_append_right _ (List.mem_singleton.2 rfl))
    rw [dn_snoc, List.length_append, List.length_singleton, Nat.pow_succ]
    omega

/-- A text of digits that doesn't begin with 0 is the text of its number. -/
theorem dec_dn : ∀ {l : List UInt8}, AllD l → l.getD 0 48 ≠ 48 → 0 < dn l ∧ Lib.decDigits (dn l) = l := by
  intro l
  refine snoc_ind (P := fun l => AllD l → l.getD 0 48 ≠ 48 → 0 < dn l ∧ Lib.decDigits (dn l) = l) (by intro _ h; simp at h) (fun m c ih h hne => ?_) l
  have hc := h c (List.mem_append_right _ (List.mem_singleton.2 rfl))
  have e0 : UInt8.ofNat (48 + (c.toNat - 48)) = c := by
    rw [show 48 + (c.toNat - 48) = c.toNat by omega]; exact UInt8.ofNat_toNat
  rw [dn_snoc]
  cases m with
  | nil =>
    have hc0 : c ≠ 48 := by simpa using hne
    have hc1 : c.toNat ≠ 48 := fun e => hc0 (UInt8.toNat_inj.1 e)
    refine ⟨by omega, ?_⟩
    rw [show dn [] = 0 from rfl, Lib.decDigits_one (by omega), show 48 + (10 * 0 + (c.toNat - 48)) = 48 + (c.toNat - 48) by omega, e0]
    rfl
  | cons a m =>
    obtain ⟨h1, h2⟩ := ih h.left (by simpa using hne)
    refine ⟨by omega, ?_⟩
    have h3 := decDigits_pad 1 (dn (a :: m)) (c.toNat - 48) h1 (by omega)
    rw [show 10 * dn (a :: m) + (c.toNat - 48) = dn (a :: m) * 10 ^ 1 + (c.toNat - 48) by omega, h3, h2]
    simp only [pad, List.nil_append]
    rw [show (c.toNat - 48) % 10 = c.toNat - 48 by omega, e0]

theorem digit_of {d : Nat} (h : d < 10) : (UInt8.ofNat (48 + d)).toNat = 48 + d := by
  rw [UInt8.toNat_ofNat']; omega
/-- The text of a number: digits, that number, no 0 ahead. -/
theorem dn_dec (n : Nat) : AllD (Lib.decDigits n) ∧ dn (Lib.decDigits n) = n ∧ Lib.decDigits n ≠ [] ∧ (0 < n → (Lib.decDigits n).getD 0 48 ≠ 48) := by
  induction n using Nat.strongRecOn with
  | ind n ih =>
    by_cases h : n < 10
    · rw [Lib.decDigits_one h]
      refine ⟨?_, ?_, by simp, ?_⟩
      · intro c hc
        obtain rfl := List.mem_singleton.1 hc
        rw [digit_of h]; omega
      · show 10 * 0 + ((UInt8.ofNat (48 + n)).toNat - 48) = n
        rw [digit_of h]; omega
      · intro h0 e
        have e1 : UInt8.ofNat (48 + n) = 48 := e
        have e2 := congrArg UInt8.toNat e1
        rw [digit_of h] at e2
        have e3 : (48 : UInt8).toNat = 48 := rfl
        omega
    · obtain ⟨h1, h2, h3, h4⟩ := ih (n / 10) (by omega)
      have hd : n % 10 < 10 := by omega
      rw [Lib.decDigits, dif_neg h]
      refine ⟨?_, ?_, by simp, ?_⟩
      · intro c hc
        rcases List.mem_append.1 hc with hc | hc
        · exact h1 c hc
        · obtain rfl := List.mem_singleton.1 hc
          rw [digit_of hd]; omega
      · rw [dn_snoc, h2, digit_of hd]; omega
      · intro _
        have h5 := h4 (by omega)
        cases hl : Lib.decDigits (n / 10) with
        | nil => exact absurd hl h3
        | cons a m => rw [hl] at h5; simpa using h5

/-- A numeral: digits, at least one, at most 300, no needless 0 ahead. -/
def Numeral (l : List UInt8) : Prop := l ≠ [] ∧ l.length ≤ 300 ∧ (1 < l.length → l.getD 0 48 ≠ 48) ∧ AllD l
theorem Numeral.text {l : List UInt8} (h : Numeral l) : Lib.decDigits (dn l) = l := by
  obtain ⟨h1, h2, h3, h4⟩ := h
  by_cases h0 : l.getD 0 48 = 48
  · match l, h1, h3, h4, h0 with
    | [c], _, _, _, h0 =>
      have : c = 48 := by simpa using h0
      subst this
      rw [show dn [48] = 0 from rfl, Lib.decDigits_one (by decide)]
      rfl
    | a :: b :: m, _, h3, _, h0 => exact absurd h0 (h3 (by simp))
  · exact (dec_dn h4 h0).2
theorem numeral_dec {n : Nat} (h : (Lib.decDigits n).length ≤ 300) : Numeral (Lib.decDigits n) := by
  obtain ⟨h1, h2, h3, h4⟩ := dn_dec n
  refine ⟨h3, h, fun hl => h4 ?_, h1⟩
  rcases Nat.eq_zero_or_pos n with h0 | h0
  · rw [h0, Lib.decDigits_one (by decide)] at hl; simp at hl
  · exact h0
end Go.Proofs.Ytinfbmnimkcdjaa

/- FormatUint at base 10, of every uint64. -/
namespace Go.Proofs.Ytinfbmnimkcdjaa
open Go.RowKit Go.Sort Go.Lib
set_option maxRecDepth 100000

theorem holds_zero0 (w : World) (T : TypeId) (nd : Nat) (hs : nd ≤ 24) : Holds (fun (b : UInt8) => Value.int .u8 (b.toNat : Int)) (w.alloc (.cells Lib.zeros24 T)) w.heap.size 0 (Array.replicate nd (0 : UInt8)) := fun j hj => by
  have hj' : j < nd := by simpa using hj
  refine ⟨?_, World.frozen?_alloc_new _ _ _ _⟩
  rw [World.cell?_alloc_new, Lib.zeros24_at _ (by omega), getElem!_pos _ j hj]
  simp

theorem below_putRow (w : World) (o : Obj) (dk : Array UInt8) (k : Nat) : Below w.heap.size w ((putRow (fun (b : UInt8) => Value.int .u8 (b.toNat : Int)) (w.alloc o) w.heap.size 0 dk).drewN k) := by
  rw [alloc_eq_grow]
  obtain ⟨os', _, e⟩ := putRow_grow_new (fun (b : UInt8) => Value.int .u8 (b.toNat : Int)) w #[o] w.heap.size 0 dk (Nat.le_refl _)
  rw [e]
  exact ⟨rfl, rfl, rfl, by show w.heap.size ≤ (w.heap ++ os').size; rw [Array.size_append]; omega, fun i hi => heap_grow_old w os' hi⟩

theorem tab_below {w w' : World} {name : String} {k : IntKind} {zs : List Int} (h : Lib.TabIs Try.prog w name k zs) (hb : Below w.heap.size w w') : Lib.TabIs Try.prog w' name k zs := by
  unfold Lib.TabIs World.var? at *
  cases hg : Try.prog.globalNamed name with
  | none => simp [hg] at h
  | some g =>
    simp only [hg, Option.bind_some] at h ⊢
    have hlt : g < w.heap.size := by
      rcases Nat.lt_or_ge g w.heap.size with h' | h'
      · exact h'
      · rw [Array.getElem?_eq_none h'] at h; simp at h
    rw [hb.block g hlt]
    exact h

end Go.Proofs.Ytinfbmnimkcdjaa

/- Contracts of package nat: number, mulAdd, isNumeral, Parse. -/
namespace Go.Proofs.Ytinfbmnimkcdjaa
open Go.RowKit
set_option maxRecDepth 100000

theorem dn_take_succ (l : List UInt8) (k : Nat) (h : k < l.length) : dn (l.take (k + 1)) = 10 * dn (l.take k) + (l[k].toNat - 48) := by
  rw [List.take_succ_eq_append_getElem h, dn_snoc]
theorem at_bytes (l : List UInt8) (k : Nat) (h : k < (⟨l.toArray⟩ : ByteArray).size) : (⟨l.toArray⟩ : ByteArray)[k] = l[k]'h := rfl

theorem mulAdd_step {B : Nat} {t s : List Nat} {m n k c z : Nat} (ht : k < t.length) (hv : val B (t.take k) + c * B ^ k = m * val B (s.take k) + n) (hz : z = c + m * s.getD k 0) :
    val B ((t.set k (z % B)).take (k + 1)) + z / B * B ^ (k + 1) = m * val B (s.take (k + 1)) + n := by
  have e1 : (t.set k (z % B)).take k = t.take k := List.take_set_of_le (by omega)
  have e2 : (t.set k (z % B)).getD k 0 = z % B := by simp [List.getD, ht]
  rw [val_take_succ' B (t.set k (z % B)) k, val_take_succ' B s k, e1, e2, Nat.pow_succ]
  have h2 := Nat.mod_add_div z B
  generalize z % B = r at *
  generalize z / B = q at *
  generalize B ^ k = P at *
  have h3 : (r + B * q) * P = (c + m * s.getD k 0) * P := by rw [h2, hz]
  grind

theorem bad_of {l : List UInt8} (h : ¬ AllD l) : ∃ (j : Nat) (hj : j < l.length), ¬ (48 ≤ l[j].toNat ∧ l[j].toNat ≤ 57) := by
  refine Classical.byContradiction fun h2 => h fun c hc => ?_
  obtain ⟨j, hj, rfl⟩ := List.mem_iff_getElem.1 hc
  exact Classical.byContradiction fun h3 => h2 ⟨j, hj, h3⟩

end Go.Proofs.Ytinfbmnimkcdjaa

/- The contract of Parse. -/
namespace Go.Proofs.Ytinfbmnimkcdjaa
open Go.RowKit
set_option maxRecDepth 100000

theorem extract_take (l : List UInt8) (k : Nat) : (⟨l.toArray⟩ : ByteArray).extract 0 k = ⟨(l.take k).toArray⟩ := by
  apply ByteArray.ext
  simp
theorem extract_drop (l : List UInt8) (k : Nat) : (⟨l.toArray⟩ : ByteArray).extract k l.length = ⟨(l.drop k).toArray⟩ := by
  apply ByteArray.ext
  simp [List.take_of_length_le]

theorem parse_sum {pre grp : List UInt8} (h : pre = [] ∨ grp.length = 9) : 1000000000 * dn pre + dn grp = dn (pre ++ grp) := by
  rw [dn_append]
  rcases h with rfl | h
  · simp [dn]
  · rw [h, show 10 ^ 9 = 1000000000 from rfl, Nat.mul_comm]
theorem parse_room {l m : List UInt8} (hm : AllD m) (h : m.length ≤ l.length) : dn m < L32 ^ (l.length / 9 + 1) := by
  have h1 := dn_lt hm
  have h2 : 10 ^ m.length ≤ 10 ^ (9 * (l.length / 9 + 1)) := Nat.pow_le_pow_right (by decide) (by omega)
  have h3 : 10 ^ (9 * (l.length / 9 + 1)) ≤ L32 ^ (l.length / 9 + 1) := by rw [Nat.pow_mul]; exact Nat.pow_le_pow_left (by decide) _
  omega

def sizeOfS : Value → Nat
  | .string b => b.size
  | _ => 0

end Go.Proofs.Ytinfbmnimkcdjaa

/- Parse, of every text. -/
namespace Go.Proofs.Ytinfbmnimkcdjaa
open Go.RowKit
set_option maxRecDepth 100000

end Go.Proofs.Ytinfbmnimkcdjaa

/- The contract of the laws' helper Is. -/
namespace Go.Proofs.Ytinfbmnimkcdjaa
open Go.RowKit
set_option maxRecDepth 100000

end Go.Proofs.Ytinfbmnimkcdjaa
