/-
  Joined: DecM, Fmt, ParA, ParB, ParC, IsA.
-/
import Derived.Test.YtocadojeanhalaaGreatDoorKText
import Derived.Lib.ItoaMem
import Derived.Test.YtocadojeanhalaaGreatDoorKMul
import Derived.Test.YtocadojeanhalaaGreatDoorKRef
/- Decimal texts and the numbers that they stand for. No program stands here. -/
namespace Go.Proofs.YtocadojeanhalaaGreatDoor
open Go.RowKit
set_option maxRecDepth 100000

theorem snoc_ind {α : Type} {P : List α → Prop} (h0 : P []) (h1 : ∀ l c, P l → P (l ++ [c])) : ∀ l, P l := by
  intro l
  rw [← List.reverse_reverse l]
  induction l.reverse with
  | nil => exact h0
  | cons c r ih => rw [List.reverse_cons]; exact h1 _ _ ih

/-- The number that a row of digits stands for. -/
def dn (l : List UInt8) : Nat := l.foldl (fun n c => 10 * n + (c.toNat - 48)) 0
/-- All are digits. -/
def AllD (l : List UInt8) : Prop := ∀ c ∈ l, 48 ≤ c.toNat ∧ c.toNat ≤ 57

theorem dn_snoc (l : List UInt8) (c : UInt8) : dn (l ++ [c]) = 10 * dn l + (c.toNat - 48) := by
  unfold dn; rw [List.foldl_append]; rfl
theorem AllD.left {l m : List UInt8} (h : AllD (l ++ m)) : AllD l := fun c hc => h c (List.mem_append_left _ hc)
theorem AllD.right {l m : List UInt8} (h : AllD (l ++ m)) : AllD m := fun c hc => h c (List.mem_append_right _ hc)
theorem AllD.take {l : List UInt8} (h : AllD l) (n : Nat) : AllD (l.take n) := fun c hc => h c (List.mem_of_mem_take hc)
theorem AllD.drop {l : List UInt8} (h : AllD l) (n : Nat) : AllD (l.drop n) := fun c hc => h c (List.mem_of_mem_drop hc)

theorem dn_append (l : List UInt8) : ∀ m : List UInt8, dn (l ++ m) = dn l * 10 ^ m.length + dn m := by
  refine snoc_ind (by simp [dn]) fun m c ih => ?_
  · rw [← List.append_assoc, dn_snoc, dn_snoc, ih, List.length_append, List.length_singleton, Nat.pow_succ]
    generalize 10 ^ m.length = p
    have : dn l * (p * 10) = 10 * (dn l * p) := by grind
    omega
theorem dn_lt : ∀ {l : List UInt8} (_ : AllD l), dn l < 10 ^ l.length := by
  intro l
  refine snoc_ind (P := fun l => AllD l → dn l < 10 ^ l.length) (by simp [dn]) (fun m c ih h => ?_) l
  · have h1 := ih h.left
    have h2 := h c (List.mem_append_right _ (List.mem_singleton.2 rfl))
    rw [dn_snoc, List.length_append, List.length_singleton, Nat.pow_succ]
    omega

/-- A text of digits that doesn't begin with 0 is the text of its number. -/
theorem dec_dn : ∀ {l : List UInt8}, AllD l → l.getD 0 48 ≠ 48 → 0 < dn l ∧ Lib.decDigits (dn l) = l := by
  intro l
  refine snoc_ind (P := fun l => AllD l → l.getD 0 48 ≠ 48 → 0 < dn l ∧ Lib.decDigits (dn l) = l) (by intro _ h; simp at h) (fun m c ih h hne => ?_) l
  have hc := h c (List.mem_append_right _ (List.mem_singleton.2 rfl))
  have e0 : UInt8.ofNat (48 + (c.toNat - 48)) = c := by
    rw [show 48 + (c.toNat - 48) = c.toNat by omega]; exact UInt8.ofNat_toNat
  rw [dn_snoc]
  cases m with
  | nil =>
    have hc0 : c ≠ 48 := by simpa using hne
    have hc1 : c.toNat ≠ 48 := fun e => hc0 (UInt8.toNat_inj.1 e)
    refine ⟨by omega, ?_⟩
    rw [show dn [] = 0 from rfl, Lib.decDigits_one (by omega), show 48 + (10 * 0 + (c.toNat - 48)) = 48 + (c.toNat - 48) by omega, e0]
    rfl
  | cons a m =>
    obtain ⟨h1, h2⟩ := ih h.left (by simpa using hne)
    refine ⟨by omega, ?_⟩
    have h3 := decDigits_pad 1 (dn (a :: m)) (c.toNat - 48) h1 (by omega)
    rw [show 10 * dn (a :: m) + (c.toNat - 48) = dn (a :: m) * 10 ^ 1 + (c.toNat - 48) by omega, h3, h2]
    simp only [pad, List.nil_append]
    rw [show (c.toNat - 48) % 10 = c.toNat - 48 by omega, e0]

theorem digit_of {d : Nat} (h : d < 10) : (UInt8.ofNat (48 + d)).toNat = 48 + d := by
  rw [UInt8.toNat_ofNat']; omega
/-- The text of a number: digits, that number, no 0 ahead. -/
theorem dn_dec (n : Nat) : AllD (Lib.decDigits n) ∧ dn (Lib.decDigits n) = n ∧ Lib.decDigits n ≠ [] ∧ (0 < n → (Lib.decDigits n).getD 0 48 ≠ 48) := by
  induction n using Nat.strongRecOn with
  | ind n ih =>
    by_cases h : n < 10
    · rw [Lib.decDigits_one h]
      refine ⟨?_, ?_, by simp, ?_⟩
      · intro c hc
        obtain rfl := List.mem_singleton.1 hc
        rw [digit_of h]; omega
      · show 10 * 0 + ((UInt8.ofNat (48 + n)).toNat - 48) = n
        rw [digit_of h]; omega
      · intro h0 e
        have e1 : UInt8.ofNat (48 + n) = 48 := e
        have e2 := congrArg UInt8.toNat e1
        rw [digit_of h] at e2
        have e3 : (48 : UInt8).toNat = 48 := rfl
        omega
    · obtain ⟨h1, h2, h3, h4⟩ := ih (n / 10) (by omega)
      have hd : n % 10 < 10 := by omega
      rw [Lib.decDigits, dif_neg h]
      refine ⟨?_, ?_, by simp, ?_⟩
      · intro c hc
        rcases List.mem_append.1 hc with hc | hc
        · exact h1 c hc
        · obtain rfl := List.mem_singleton.1 hc
          rw [digit_of hd]; omega
      · rw [dn_snoc, h2, digit_of hd]; omega
      · intro _
        have h5 := h4 (by omega)
        cases hl : Lib.decDigits (n / 10) with
        | nil => exact absurd hl h3
        | cons a m => rw [hl] at h5; simpa using h5

/-- A numeral: digits, at least one, at most 300, no needless 0 ahead. -/
def Numeral (l : List UInt8) : Prop := l ≠ [] ∧ l.length ≤ 300 ∧ (1 < l.length → l.getD 0 48 ≠ 48) ∧ AllD l
theorem Numeral.text {l : List UInt8} (h : Numeral l) : Lib.decDigits (dn l) = l := by
  obtain ⟨h1, h2, h3, h4⟩ := h
  by_cases h0 : l.getD 0 48 = 48
  · match l, h1, h3, h4, h0 with
    | [c], _, _, _, h0 =>
      have : c = 48 := by simpa using h0
      subst this
      rw [show dn [48] = 0 from rfl, Lib.decDigits_one (by decide)]
      rfl
    | a :: b :: m, _, h3, _, h0 => exact absurd h0 (h3 (by simp))
  · exact (dec_dn h4 h0).2
theorem numeral_dec {n : Nat} (h : (Lib.decDigits n).length ≤ 300) : Numeral (Lib.decDigits n) := by
  obtain ⟨h1, h2, h3, h4⟩ := dn_dec n
  refine ⟨h3, h, fun hl => h4 ?_, h1⟩
  rcases Nat.eq_zero_or_pos n with h0 | h0
  · rw [h0, Lib.decDigits_one (by decide)] at hl; simp at hl
  · exact h0
end Go.Proofs.YtocadojeanhalaaGreatDoor

/- FormatUint at base 10, of every uint64. -/
namespace Go.Proofs.YtocadojeanhalaaGreatDoor
open Go.RowKit Go.Sort Go.Lib
set_option maxRecDepth 100000

theorem holds_zero0 (w : World) (T : TypeId) (nd : Nat) (hs : nd ≤ 24) : Holds (fun (b : UInt8) => Value.int .u8 (b.toNat : Int)) (w.alloc (.cells Lib.zeros24 T)) w.heap.size 0 (Array.replicate nd (0 : UInt8)) := fun j hj => by
  have hj' : j < nd := by simpa using hj
  refine ⟨?_, World.frozen?_alloc_new _ _ _ _⟩
  rw [World.cell?_alloc_new, Lib.zeros24_at _ (by omega), getElem!_pos _ j hj]
  simp

theorem below_putRow (w : World) (o : Obj) (dk : Array UInt8) (k : Nat) : Below w.heap.size w ((putRow (fun (b : UInt8) => Value.int .u8 (b.toNat : Int)) (w.alloc o) w.heap.size 0 dk).drewN k) := by
  rw [alloc_eq_grow]
  obtain ⟨os', _, e⟩ := putRow_grow_new (fun (b : UInt8) => Value.int .u8 (b.toNat : Int)) w #[o] w.heap.size 0 dk (Nat.le_refl _)
  rw [e]
  exact ⟨rfl, rfl, rfl, by show w.heap.size ≤ (w.heap ++ os').size; rw [Array.size_append]; omega, fun i hi => heap_grow_old w os' hi⟩

set_option maxHeartbeats 1000000 in
set_option maxRecDepth 100000 in
theorem fmt65 (u : Nat) (h1 : 100 ≤ u) (hu64 : u < 18446744073709551616) (w : World) (htab : Lib.TabIs Tryz.prog w "internal/strconv.uint64pow10" .u64 Lib.pow10Tab) :
    Calls Tryz.prog 73 #[.int .u64 u, .int .i64 10] w fun e w' => e = .returned (.string ⟨(Lib.decDigits u).toArray⟩) ∧ Below w.heap.size w w' := by
  have hnd20 : Lib.nDigits u ≤ 20 := by have := Lib.numDigits_eq u (by omega) hu64; split at this <;> omega
  have hal : Tryz.prog.arrayLen 114 = 24 := by simp [Program.arrayLen, Tryz.underlying114]
  have hsl1 : ∀ W, (Instr.sliceAt 114 (.pointer (some ⟨w.heap.size, 0, none⟩)) none (some (.int .i64 (Lib.nDigits u : Int))) none).run Tryz.prog W = .ok (.slice (some ⟨w.heap.size, 0, none⟩) (Lib.nDigits u) 24) W := fun W => by
    rw [run_sliceAt_array_h W 114 ⟨w.heap.size, 0, none⟩ (by simp [Program.arrayLen, Program.elem, Tryz.underlying114]) .i64 (Lib.nDigits u : Int) (by omega) (by rw [hal]; omega)]
    go_simp
    try omega
  have hH0 := holds_zero0 w 114 (Lib.nDigits u) (by omega)
  have hfmt := Tryz.internal_strconv_formatBase10 w.heap.size 0 24 u (Array.replicate (Lib.nDigits u) 0) (w.alloc (.cells Lib.zeros24 114)) hH0 (by rw [Array.size_replicate]; exact Lib.lt_pow_nDigits u) hu64 (by rw [Array.size_replicate]; omega)
  rw [Array.size_replicate] at hfmt
  have HH0 := Lib.hid hH0
  have HFMT := Lib.hid hfmt
  clear hH0 hal hfmt
  go_enter Tryz.func73, Tryz.ntmps73
  go_wp2_with fail
  refine (Tryz.internal_strconv_numDigits u (by omega) hu64 _ (Lib.tabIs_alloc htab _)).mono ?_; rintro e w' ⟨rfl, rfl⟩
  go_wp2_with fail
  refine HFMT.out.mono ?_
  rintro e w' ⟨rfl, k, v', dk, rfl, hF⟩
  have hcv : (convert 87 9 (.slice (some ⟨w.heap.size, 0, none⟩) (Lib.nDigits u) 24)).run Tryz.prog ((putRow (fun (b : UInt8) => Value.int .u8 (b.toNat : Int)) (w.alloc (.cells Lib.zeros24 114)) w.heap.size 0 dk).drewN k) = .ok (.string ⟨(Lib.decDigits u).toArray⟩) ((putRow (fun (b : UInt8) => Value.int .u8 (b.toNat : Int)) (w.alloc (.cells Lib.zeros24 114)) w.heap.size 0 dk).drewN k) := by
    have h := run_convert_bytes_back (P := Tryz.prog) ((putRow (fun (b : UInt8) => Value.int .u8 (b.toNat : Int)) (w.alloc (.cells Lib.zeros24 114)) w.heap.size 0 dk).drewN k) 87 9 5 ⟨w.heap.size, 0, none⟩ 24 (Lib.decDigits u) Tryz.underlying87 Tryz.underlying5 Tryz.underlying9 (fun j hj => by
      rw [Lib.row_is_numeral hF j hj, Lib.add_plain, World.cell?_drewN]
      exact cell?_putRow (fun (b : UInt8) => Value.int .u8 (b.toNat : Int)) _ w.heap.size 0 _ dk HH0.out (by rw [hF.size, Array.size_replicate]) j (by rw [hF.size]; rw [Lib.decDigits_length] at hj; exact hj))
    rw [Lib.decDigits_length] at h
    exact h
  have HB := Lib.hid (below_putRow w (.cells Lib.zeros24 114) dk k)
  go_wp2_with fail
  go_ret
  exact ⟨rfl, HB.out⟩

theorem tab_below {w w' : World} {name : String} {k : IntKind} {zs : List Int} (h : Lib.TabIs Tryz.prog w name k zs) (hb : Below w.heap.size w w') : Lib.TabIs Tryz.prog w' name k zs := by
  unfold Lib.TabIs World.var? at *
  cases hg : Tryz.prog.globalNamed name with
  | none => simp [hg] at h
  | some g =>
    simp only [hg, Option.bind_some] at h ⊢
    have hlt : g < w.heap.size := by
      rcases Nat.lt_or_ge g w.heap.size with h' | h'
      · exact h'
      · rw [Array.getElem?_eq_none h'] at h; simp at h
    rw [hb.block g hlt]
    exact h

set_option maxHeartbeats 1000000 in
theorem fmt55 (u : Nat) (hu64 : u < 18446744073709551616) (w : World) (htab : Lib.TabIs Tryz.prog w "internal/strconv.uint64pow10" .u64 Lib.pow10Tab) :
    Calls Tryz.prog 60 #[.int .u64 u, .int .i64 10] w fun e w' => e = .returned (.string ⟨(Lib.decDigits u).toArray⟩) ∧ Below w.heap.size w w' := by
  by_cases h : u < 100
  · refine (fmt_small u _ rfl h w).mono ?_
    rintro e w' ⟨rfl, rfl⟩
    exact ⟨rfl, Below.refl _ _⟩
  · have HF := Lib.hid (fmt65 u (by omega) hu64 w htab)
    clear h htab
    go_enter Tryz.func60, Tryz.ntmps60
    go_wp2_with fail
    refine HF.out.mono ?_; rintro e w' ⟨rfl, hb⟩
    go_wp2_with fail
    go_ret
    exact ⟨rfl, hb⟩

/-- FormatUint does its work, wherever the table lies. -/
theorem fmtAt {w : World} (htab : Lib.TabIs Tryz.prog w "internal/strconv.uint64pow10" .u64 Lib.pow10Tab) : FmtAt w (fun i => i < 18446744073709551616) :=
  fun w' i z hb hz hi => by
    subst hz
    exact fmt55 i hi w' (tab_below htab hb)

/-- Text, of every number. -/
theorem text_any (va : Value) (xs : List Nat) (w : World) (htab : Lib.TabIs Tryz.prog w "internal/strconv.uint64pow10" .u64 Lib.pow10Tab) (hx : Sl w .u32 va xs) (dx : Dig L32 xs) (lx : xs.length ≤ 10000) :
    Calls Tryz.prog 39 #[va] w fun e w' => e = .returned (.string ⟨(Lib.decDigits (val L32 xs)).toArray⟩) ∧ Below w.heap.size w w' :=
  text_gen _ va xs w (fmtAt htab) hx dx lx (fun g hg _ => by have hG : G9 = 1000000000 := rfl; show g < 18446744073709551616; omega) (fun _ g hg => by have hG : G9 = 1000000000 := rfl; show G9 + g < 18446744073709551616; omega)
end Go.Proofs.YtocadojeanhalaaGreatDoor

/- Contracts of package nat: number, mulAdd, isNumeral, Parse. -/
namespace Go.Proofs.YtocadojeanhalaaGreatDoor
open Go.RowKit
set_option maxRecDepth 100000

theorem dn_take_succ (l : List UInt8) (k : Nat) (h : k < l.length) : dn (l.take (k + 1)) = 10 * dn (l.take k) + (l[k].toNat - 48) := by
  rw [List.take_succ_eq_append_getElem h, dn_snoc]
theorem at_bytes (l : List UInt8) (k : Nat) (h : k < (⟨l.toArray⟩ : ByteArray).size) : (⟨l.toArray⟩ : ByteArray)[k] = l[k]'h := rfl

set_option maxHeartbeats 1000000 in
theorem number_any (l : List UInt8) (w : World) (hd : AllD l) (hl : l.length ≤ 9) :
    Calls Tryz.prog 57 #[.string ⟨l.toArray⟩] w fun e w' => e = .returned (.int .u32 ((dn l : Nat) : Int)) ∧ w' = w := by
  have hsz : (⟨l.toArray⟩ : ByteArray).size = l.length := rfl
  go_enter Tryz.func57, Tryz.ntmps57
  go_wp2
  go_loopw [3, 7] (fun c i wr => ∃ k : Nat, i = .int .i64 k ∧ c = .int .u32 ((dn (l.take k) : Nat) : Int) ∧ k ≤ l.length ∧ wr = w) (fun _ i _ => l.length - (intOf i).toNat)
  case atStart => exact ⟨0, rfl, rfl, Nat.zero_le _, rfl⟩
  case round =>
    obtain ⟨k, rfl, rfl, hk, rfl⟩ := hrel
    by_cases hlt : k < l.length
    · have h1 := hd l[k] (List.getElem_mem hlt)
      have h2 := dn_lt (hd.take k)
      have h3 : 10 ^ (l.take k).length ≤ 10 ^ 8 := Nat.pow_le_pow_right (by decide) (by rw [List.length_take]; omega)
      have HS := Lib.hid (dn_take_succ l k hlt)
      have H1 := Lib.hid h1
      have hm : dn (l.take k) < 100000000 := by have h4 : 10 ^ 8 = 100000000 := rfl; omega
      clear h1 h2 h3
      go_wp2
      go_roundw
      case rel =>
        refine ⟨k + 1, by go_num, ?_, by omega, by trivial⟩
        have h1 := H1.out
        rw [at_bytes, HS.out]
        congr 1
        omega
      case measure => simp [intOf]; omega
    · have hk0 : k = l.length := by omega
      subst hk0
      have HT := Lib.hid (List.take_length (l := l))
      go_wp2
      go_ret
      exact ⟨by rw [← HT.out]; simp, rfl⟩

theorem mulAdd_step {B : Nat} {t s : List Nat} {m n k c z : Nat} (ht : k < t.length) (hv : val B (t.take k) + c * B ^ k = m * val B (s.take k) + n) (hz : z = c + m * s.getD k 0) :
    val B ((t.set k (z % B)).take (k + 1)) + z / B * B ^ (k + 1) = m * val B (s.take (k + 1)) + n := by
  have e1 : (t.set k (z % B)).take k = t.take k := List.take_set_of_le (by omega)
  have e2 : (t.set k (z % B)).getD k 0 = z % B := by simp [List.getD, ht]
  rw [val_take_succ' B (t.set k (z % B)) k, val_take_succ' B s k, e1, e2, Nat.pow_succ]
  have h2 := Nat.mod_add_div z B
  generalize z % B = r at *
  generalize z / B = q at *
  generalize B ^ k = P at *
  have h3 : (r + B * q) * P = (c + m * s.getD k 0) * P := by rw [h2, hz]
  grind

set_option maxHeartbeats 1000000 in
theorem mulAdd_any (g : Nat) (pre s post : List Nat) (vs : Value) (m n : Nat) (w : World) (hw : Ws w .u32 75 vs g pre s post) (hs : Dig L32 s) (hm : m < 4294967296) (hn : n < 4294967296) (hlt : m * val L32 s + n < L32 ^ s.length) :
    Calls Tryz.prog 56 #[vs, .int .u32 m, .int .u32 n] w fun e w' => ∃ s', e = .returned (.tuple #[]) ∧ Ws w' .u32 75 vs g pre s' post ∧ w.grownBy w' (some g) ∧ s'.length = s.length ∧ Dig L32 s' ∧
      val L32 s' = m * val L32 s + n := by
  have HLT := Lib.hid hlt
  clear hlt
  obtain ⟨ao, cap, rfl, h1, h2, h3, h4⟩ := hw
  go_enter Tryz.func56, Tryz.ntmps56
  go_wp2
  go_loopw [6, 13] (fun c i wr => ∃ (k : Nat) (t : List Nat) (cc : Nat), i = .int .i64 k ∧ c = .int .u64 (cc : Int) ∧ cc < 4294967296 ∧ k ≤ s.length ∧ w.grownBy wr (some g) ∧ Hid (t.length = s.length) ∧ Dig 4294967296 t ∧
     WsAt wr .u32 75 ao g pre t post s.length ∧ Hid (t.drop k = s.drop k) ∧ Hid (val L32 (t.take k) + cc * L32 ^ k = m * val L32 (s.take k) + n))
    (fun _ i _ => s.length - (intOf i).toNat)
  case atStart => exact ⟨0, s, n, rfl, rfl, hn, by omega, World.grownBy.refl _ _, Lib.hid rfl, hs, h4, Lib.hid rfl, Lib.hid (by simp [val])⟩
  case round =>
    obtain ⟨k, t, cc, rfl, rfl, hcc, hk, hg, Ht, hdt, hB, HD, HV⟩ := hrel
    by_cases hlt : k < s.length
    · obtain ⟨rfl, hB'⟩ := hB (by omega)
      have hkt : k < t.length := by have := Ht.out; omega
      have hsk : t.getD k 0 = s.getD k 0 := by
        have := congrArg (fun l => l.getD 0 0) HD.out
        simpa [List.getD, List.getElem?_drop] using this
      have hct : wr.cell? ⟨g, pre.length + k, none⟩ = some (.int .u32 (nth s k)) := by
        rw [hB'.cell (by simp; omega), nth_mid _ _ _ _ hkt]; unfold nth; rw [hsk]
      have hft := hB'.frozen (pre.length + k)
      have t1 := u32_wf hs k
      have t0 := hs.getD (by decide) k
      have hmm : 0 ≤ (m : Int) * nth s k ∧ (m : Int) * nth s k ≤ 18446744065119617025 := by
        have := mul_bound hm t0
        have e : (m : Int) * nth s k = ((m * s.getD k 0 : Nat) : Int) := by unfold nth; simp
        rw [e]; omega
      have HE := Lib.hid (show (cc : Int) + (m : Int) * nth s k = ((cc + m * s.getD k 0 : Nat) : Int) by unfold nth; simp)
      have HZ := Lib.hid (show cc + m * s.getD k 0 < 18446744073709551616 by have := mul_bound hm t0; omega)
      have HS := Lib.hid (mulAdd_step (B := L32) hkt HV.out rfl)
      clear hB h4 t0 hsk
      go_wp2
      go_roundw
      case rel =>
        have hE := HE.out
        have hz := HZ.out
        refine ⟨k + 1, t.set k ((cc + m * s.getD k 0) % L32), (cc + m * s.getD k 0) / L32, by go_num, ?_, ?_, by omega, grown_setCell hg _, Lib.hid (by rw [List.length_set]; exact Ht.out), hdt.set (Nat.mod_lt _ (by decide)), fun _ => ⟨rfl, ?_⟩, Lib.hid ?_, HS⟩
        · rw [hE]; congr 1
        · exact Nat.div_lt_of_lt_mul (by omega)
        · rw [← set_mid _ _ _ _ _ hkt]
          exact hB'.set _ _ _ (by rw [hE]; rfl)
        · rw [List.drop_set_of_lt (by omega)]
          have := congrArg (List.drop 1) HD.out
          rwa [List.drop_drop, List.drop_drop] at this
      case measure => simp [intOf]; omega
    · have hkk : k = s.length := by omega
      subst hkk
      have hv := HV.out
      rw [List.take_length, List.take_of_length_le (by have := Ht.out; omega)] at hv
      have hc0 : cc = 0 := by
        rcases Nat.eq_zero_or_pos cc with h | h
        · exact h
        · have := Nat.mul_le_mul_right (L32 ^ s.length) h
          have := HLT.out
          omega
      have HF := Lib.hid (show val L32 t = m * val L32 s + n by rw [hc0] at hv; omega)
      have hfin : Ws wr .u32 75 (.slice ao s.length cap) g pre t post := ⟨ao, cap, by rw [Ht.out], by rw [Ht.out]; exact h1, h2, h3, by rw [Ht.out]; exact hB⟩
      clear hv h4 hc0
      go_wp2
      go_end0
      exact ⟨t, rfl, hfin, hg, Ht.out, hdt, HF.out⟩

set_option maxHeartbeats 1000000 in
theorem isNum_true (l : List UInt8) (w : World) (h : Numeral l) :
    Calls Tryz.prog 55 #[.string ⟨l.toArray⟩] w fun e w' => e = .returned (.bool true) ∧ w' = w := by
  have hsz : (⟨l.toArray⟩ : ByteArray).size = l.length := rfl
  obtain ⟨h1, h2, h3, h4⟩ := h
  have hp : 0 < l.length := List.length_pos_iff.2 h1
  have hz : ((l.length : Int) == 0) = false := by rw [beq_eq_false_iff_ne]; omega
  have hx : l.length ≤ 1 ∨ 1 < l.length ∧ ((((⟨l.toArray⟩ : ByteArray)[0]'hp).toNat : Int) == 48) = false := by
    by_cases hl : l.length ≤ 1
    · exact .inl hl
    · refine .inr ⟨by omega, ?_⟩
      have := h3 (by omega)
      rw [at_bytes, beq_eq_false_iff_ne]
      intro e
      have e2 : l[0].toNat = 48 := by omega
      exact this (by simp only [List.getD_eq_getElem?_getD, List.getElem?_eq_getElem hp, Option.getD_some]; exact UInt8.toNat_inj.1 e2)
  have H4 := Lib.hid h4
  clear h1 h3 h4
  go_enter Tryz.func55, Tryz.ntmps55
  rcases hx with hx | ⟨hx1, hx2⟩
  all_goals go_wp2
  all_goals go_loopw [24] (fun i wr => ∃ k : Nat, i = .int .i64 k ∧ k ≤ l.length ∧ wr = w) (fun i _ => l.length - (intOf i).toNat)
  case atStart => exact ⟨0, rfl, Nat.zero_le _, rfl⟩
  case atStart => exact ⟨0, rfl, Nat.zero_le _, rfl⟩
  all_goals
    obtain ⟨k, rfl, hk, rfl⟩ := hrel
    by_cases hlt : k < l.length
    · have hk1 : 48 ≤ ((⟨l.toArray⟩ : ByteArray)[k]'hlt).toNat ∧ ((⟨l.toArray⟩ : ByteArray)[k]'hlt).toNat ≤ 57 := H4.out l[k] (List.getElem_mem hlt)
      go_wp2
      go_roundw
      case rel => exact ⟨k + 1, by go_num, by omega, by trivial⟩
      case measure => simp [intOf]; omega
    · go_wp2
      go_ret
      exact ⟨rfl, rfl⟩

theorem bad_of {l : List UInt8} (h : ¬ AllD l) : ∃ (j : Nat) (hj : j < l.length), ¬ (48 ≤ l[j].toNat ∧ l[j].toNat ≤ 57) := by
  refine Classical.byContradiction fun h2 => h fun c hc => ?_
  obtain ⟨j, hj, rfl⟩ := List.mem_iff_getElem.1 hc
  exact Classical.byContradiction fun h3 => h2 ⟨j, hj, h3⟩

set_option maxHeartbeats 1000000 in
theorem isNum_false (l : List UInt8) (w : World) (h : ¬ Numeral l) (hmax : l.length ≤ 1000000000) :
    Calls Tryz.prog 55 #[.string ⟨l.toArray⟩] w fun e w' => e = .returned (.bool false) ∧ w' = w := by
  have hsz : (⟨l.toArray⟩ : ByteArray).size = l.length := rfl
  by_cases h1 : l.length = 0
  · have hz : ((l.length : Int) == 0) = true := by rw [h1]; rfl
    have hl0 : l.length ≤ 0 := by omega
    clear h h1
    go_enter Tryz.func55, Tryz.ntmps55
    go_wp2
    go_ret
    exact ⟨rfl, rfl⟩
  · have hz : ((l.length : Int) == 0) = false := by rw [beq_eq_false_iff_ne]; omega
    have hp : 0 < l.length := by omega
    by_cases h2 : 300 < l.length
    · clear h h1
      go_enter Tryz.func55, Tryz.ntmps55
      go_wp2
      go_ret
      exact ⟨rfl, rfl⟩
    · by_cases h3 : 1 < l.length ∧ l.getD 0 48 = 48
      · obtain ⟨h3, h4⟩ := h3
        have hx : ((((⟨l.toArray⟩ : ByteArray)[0]'hp).toNat : Int) == 48) = true := by
          simp only [List.getD_eq_getElem?_getD, List.getElem?_eq_getElem hp, Option.getD_some] at h4
          rw [at_bytes, h4]; rfl
        clear h h1 h4
        go_enter Tryz.func55, Tryz.ntmps55
        go_wp2
        go_ret
        exact ⟨rfl, rfl⟩
      · have hnd : ¬ AllD l := fun hd => h ⟨fun e => h1 (by rw [e]; rfl), by omega, fun hl e => h3 ⟨hl, e⟩, hd⟩
        obtain ⟨j, hj, hb⟩ := bad_of hnd
        have hx : l.length ≤ 1 ∨ 1 < l.length ∧ ((((⟨l.toArray⟩ : ByteArray)[0]'hp).toNat : Int) == 48) = false := by
          by_cases hl : l.length ≤ 1
          · exact .inl hl
          · refine .inr ⟨by omega, ?_⟩
            rw [at_bytes, beq_eq_false_iff_ne]
            intro e
            have e2 : l[0].toNat = 48 := by omega
            exact h3 ⟨by omega, by simp only [List.getD_eq_getElem?_getD, List.getElem?_eq_getElem hp, Option.getD_some]; exact UInt8.toNat_inj.1 e2⟩
        have HB : Hid (¬ (48 ≤ (l[j]'hj).toNat ∧ (l[j]'hj).toNat ≤ 57)) := Lib.hid hb
        clear h h1 h3 hnd hb
        go_enter Tryz.func55, Tryz.ntmps55
        rcases hx with hx | ⟨hx1, hx2⟩
        all_goals go_wp2
        all_goals go_loopw [24] (fun i wr => ∃ k : Nat, i = .int .i64 k ∧ k ≤ j ∧ wr = w) (fun i _ => l.length - (intOf i).toNat)
        case atStart => exact ⟨0, rfl, Nat.zero_le _, rfl⟩
        case atStart => exact ⟨0, rfl, Nat.zero_le _, rfl⟩
        all_goals
          obtain ⟨k, rfl, hk, rfl⟩ := hrel
          have hlt : k < l.length := by omega
          by_cases hok : 48 ≤ (l[k]'hlt).toNat ∧ (l[k]'hlt).toNat ≤ 57
          · have hk1 : 48 ≤ ((⟨l.toArray⟩ : ByteArray)[k]'hlt).toNat ∧ ((⟨l.toArray⟩ : ByteArray)[k]'hlt).toNat ≤ 57 := hok
            have hne : k ≠ j := fun e => by subst e; exact HB.out hok
            go_wp2
            all_goals go_roundw
            all_goals first | exact ⟨k + 1, by go_num, by omega, by trivial⟩ | (simp [intOf]; omega)
          · by_cases hlo : (l[k]'hlt).toNat < 48
            · have hk1 : ((⟨l.toArray⟩ : ByteArray)[k]'hlt).toNat < 48 := hlo
              clear hok
              go_wp2
              go_ret
              exact ⟨rfl, rfl⟩
            · have hk1 : 57 < ((⟨l.toArray⟩ : ByteArray)[k]'hlt).toNat := by show 57 < (l[k]'hlt).toNat; omega
              clear hok
              go_wp2
              go_ret
              exact ⟨rfl, rfl⟩
end Go.Proofs.YtocadojeanhalaaGreatDoor

/- The contract of Parse. -/
namespace Go.Proofs.YtocadojeanhalaaGreatDoor
open Go.RowKit
set_option maxRecDepth 100000

theorem extract_take (l : List UInt8) (k : Nat) : (⟨l.toArray⟩ : ByteArray).extract 0 k = ⟨(l.take k).toArray⟩ := by
  apply ByteArray.ext
  simp
theorem extract_drop (l : List UInt8) (k : Nat) : (⟨l.toArray⟩ : ByteArray).extract k l.length = ⟨(l.drop k).toArray⟩ := by
  apply ByteArray.ext
  simp [List.take_of_length_le]

theorem parse_sum {pre grp : List UInt8} (h : pre = [] ∨ grp.length = 9) : 1000000000 * dn pre + dn grp = dn (pre ++ grp) := by
  rw [dn_append]
  rcases h with rfl | h
  · simp [dn]
  · rw [h, show 10 ^ 9 = 1000000000 from rfl, Nat.mul_comm]
theorem parse_room {l m : List UInt8} (hm : AllD m) (h : m.length ≤ l.length) : dn m < L32 ^ (l.length / 9 + 1) := by
  have h1 := dn_lt hm
  have h2 : 10 ^ m.length ≤ 10 ^ (9 * (l.length / 9 + 1)) := Nat.pow_le_pow_right (by decide) (by omega)
  have h3 : 10 ^ (9 * (l.length / 9 + 1)) ≤ L32 ^ (l.length / 9 + 1) := by rw [Nat.pow_mul]; exact Nat.pow_le_pow_left (by decide) _
  omega

def sizeOfS : Value → Nat
  | .string b => b.size
  | _ => 0

set_option maxHeartbeats 2000000 in
set_option maxRecDepth 100000 in
theorem parse_true (l : List UInt8) (w : World) (h : Numeral l) :
    Calls Tryz.prog 38 #[.string ⟨l.toArray⟩] w fun e w' => ∃ v, e = .returned (.tuple #[v, .bool true]) ∧ Sl w' .u32 v (dig L32 (dn l)) ∧ Below w.heap.size w w' := by
  obtain ⟨i0, hi, hz0, hz1, hz2⟩ := info_parts info51
  have hsz : (⟨l.toArray⟩ : ByteArray).size = l.length := rfl
  have HN := Lib.hid h
  have hl := h.2.1
  have HD := Lib.hid h.2.2.2
  clear h
  go_enter Tryz.func38, Tryz.ntmps38
  go_wp2_with fail
  refine (isNum_true l w HN.out).mono ?_; rintro e w' ⟨rfl, hw'⟩; obtain rfl := hw'.symm
  go_wp2_with (at_make; refine wpList_make_blk _ rfl _ _ 27 rfl 75 i0 .u32 Tryz.underlying27 hi hz0 hz1 _ _ _ _ (l.length / 9 + 1) rfl rfl (by omega) (by omega) (by omega) (by omega) ?_; intro w1 hB1 hb1 hs1)
  go_loopw [0] (fun sv wr => ∃ (pre rest : List UInt8) (s' : List Nat), sv = .string ⟨rest.toArray⟩ ∧ Hid (pre ++ rest = l) ∧ Blk wr w.heap.size .u32 75 s' ∧ Dig L32 s' ∧ Hid (s'.length = l.length / 9 + 1) ∧ Hid (val L32 s' = dn pre) ∧ Hid (pre = [] ∨ rest.length % 9 = 0) ∧ Below w.heap.size w wr) (fun sv _ => sizeOfS sv)
  case atStart => exact ⟨[], l, _, rfl, Lib.hid rfl, hB1, Dig.replicate (by decide) _, Lib.hid (by simp), Lib.hid (by rw [val_replicate_zero]; rfl), Lib.hid (.inl rfl), hb1⟩
  case round =>
    clear hB1 hb1 hs1
    obtain ⟨pre, rest, s', rfl, HP, hB, hd, HL, HV, HM, hb⟩ := hrel
    have hsz' : (⟨rest.toArray⟩ : ByteArray).size = rest.length := rfl
    have hrl : rest.length ≤ 300 := by have := congrArg List.length HP.out; rw [List.length_append] at this; omega
    by_cases h0 : 0 < rest.length
    · go_wp2_with fail
      rw [extract_take]
      have hkl : (rest.length - 1) % 9 + 1 ≤ rest.length := by omega
      have HR : Hid (AllD rest) := Lib.hid (by have := HD.out; rw [← HP.out] at this; exact this.right)
      have HG : Hid ((rest.take ((rest.length - 1) % 9 + 1)).length = (rest.length - 1) % 9 + 1) := Lib.hid (by rw [List.length_take]; omega)
      have HP2 : Hid ((pre ++ rest.take ((rest.length - 1) % 9 + 1)) ++ rest.drop ((rest.length - 1) % 9 + 1) = l) := Lib.hid (by rw [List.append_assoc, List.take_append_drop]; exact HP.out)
      have HS := Lib.hid (parse_sum (pre := pre) (grp := rest.take ((rest.length - 1) % 9 + 1)) (by
        rcases HM.out with h | h
        · exact .inl h
        · right; rw [HG.out]; omega))
      have HRM := Lib.hid (parse_room (l := l) (m := pre ++ rest.take ((rest.length - 1) % 9 + 1)) (by have := HD.out; rw [← HP2.out] at this; exact this.left) (by have := congrArg List.length HP2.out; rw [List.length_append] at this; omega))
      have hgb : dn (rest.take ((rest.length - 1) % 9 + 1)) < 4294967296 := by
        have h1 := dn_lt (HR.out.take ((rest.length - 1) % 9 + 1))
        have h2 : 10 ^ (rest.take ((rest.length - 1) % 9 + 1)).length ≤ 10 ^ 9 := Nat.pow_le_pow_right (by decide) (by rw [HG.out]; omega)
        have h3 : 10 ^ 9 = 1000000000 := rfl
        omega
      have HGB := Lib.hid hgb
      clear hgb
      refine (number_any _ wr (HR.out.take _) (by rw [HG.out]; omega)).mono ?_; rintro e w' ⟨rfl, hw'⟩; obtain rfl := hw'.symm
      have hws := ws_part (i := 0) (n := l.length / 9 + 1) hB (by have := HL.out; omega) (by have := HL.out; omega) (by have := HL.out; omega)
      rw [List.take_zero, List.drop_zero] at hws
      go_wp2_with fail
      refine (mulAdd_any w.heap.size [] s' [] _ 1000000000 (dn (rest.take ((rest.length - 1) % 9 + 1))) wr hws hd (by decide) HGB.out (by rw [HV.out, HS.out, HL.out]; exact HRM.out)).mono ?_
      rintro e w3 ⟨t, rfl, hw3, hg3, hl3, hd3, hv3⟩
      rw [HV.out, HS.out] at hv3
      have HL3 := Lib.hid hl3
      have HV3 := Lib.hid hv3
      have hB3 := ws_whole hw3 (by rw [hl3, HL.out]; omega)
      rw [List.nil_append, List.append_nil] at hB3
      have hb3 := hb.trans (below_of_grown' hg3 (Nat.le_refl _) hb.size)
      clear hl3 hv3 hw3 hg3
      go_wp2_with fail
      go_roundw
      case rel => exact ⟨pre ++ rest.take ((rest.length - 1) % 9 + 1), rest.drop ((rest.length - 1) % 9 + 1), t, by rw [← extract_drop], HP2, hB3, hd3, Lib.hid (by rw [HL3.out]; exact HL.out), HV3, Lib.hid (.inr (by rw [List.length_drop]; omega)), hb3⟩
      case measure => simp [sizeOfS]; omega
    · have hr0 : rest = [] := List.eq_nil_of_length_eq_zero (by omega)
      have HV' := Lib.hid (show val L32 s' = dn l by rw [HV.out, ← HP.out, hr0, List.append_nil])
      have hsl := hB.sl 0 (l.length / 9 + 1) (l.length / 9 + 1) (by rw [HL.out]; omega) (Nat.le_refl _) (by omega)
      rw [List.drop_zero, List.take_of_length_le (by rw [HL.out]; omega)] at hsl
      clear hr0
      go_wp2_with fail
      refine (trimmed_v _ s' _ hsl hd).mono ?_
      rintro e w4 ⟨v4, rfl, ht4, rfl⟩
      rw [HV'.out] at ht4
      go_wp2_with fail
      go_ret2
      exact ⟨_, rfl, ht4, hb⟩

set_option maxHeartbeats 400000 in
theorem parse_false (l : List UInt8) (w : World) (h : ¬ Numeral l) (hmax : l.length ≤ 1000000000) :
    Calls Tryz.prog 38 #[.string ⟨l.toArray⟩] w fun e w' => e = .returned (.tuple #[.slice none 0 0, .bool false]) ∧ w' = w := by
  have hsz : (⟨l.toArray⟩ : ByteArray).size = l.length := rfl
  have HN := Lib.hid h
  clear h
  go_enter Tryz.func38, Tryz.ntmps38
  go_wp2_with fail
  refine (isNum_false l w HN.out hmax).mono ?_; rintro e w' ⟨rfl, hw'⟩; obtain rfl := hw'.symm
  go_wp2_with fail
  go_ret2
  exact ⟨rfl, rfl⟩
end Go.Proofs.YtocadojeanhalaaGreatDoor

/- Parse, of every text. -/
namespace Go.Proofs.YtocadojeanhalaaGreatDoor
open Go.RowKit
set_option maxRecDepth 100000

/-- Parse, of every text: whether it is a numeral, and then its number. -/
theorem parse_any (l : List UInt8) (w : World) (hmax : l.length ≤ 1000000000) :
    Calls Tryz.prog 38 #[.string ⟨l.toArray⟩] w fun e w' => ∃ v o, e = .returned (.tuple #[v, .bool o]) ∧ (o = true ↔ Numeral l) ∧ (o = true → Sl w' .u32 v (dig L32 (dn l))) ∧ (o = false → v = .slice none 0 0) ∧ Below w.heap.size w w' := by
  by_cases h : Numeral l
  · refine (parse_true l w h).mono ?_
    rintro e w' ⟨v, rfl, hs, hb⟩
    exact ⟨v, true, rfl, by simp [h], fun _ => hs, (fun e => by cases e), hb⟩
  · refine (parse_false l w h hmax).mono ?_
    rintro e w' ⟨rfl, rfl⟩
    exact ⟨_, false, rfl, by simp [h], (fun e => by cases e), fun _ => rfl, Below.refl _ _⟩

end Go.Proofs.YtocadojeanhalaaGreatDoor

/- The contract of the laws' helper Is. -/
namespace Go.Proofs.YtocadojeanhalaaGreatDoor
open Go.RowKit
set_option maxRecDepth 100000

end Go.Proofs.YtocadojeanhalaaGreatDoor
