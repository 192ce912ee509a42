/-
  The contract of the reference's Digits.
-/
import Derived.Test.YtbkeildnhimfbaaDoorDecM
import Derived.Test.YtbkeildnhimfbaaDoorRefE
import Derived.Test.YtbkeildnhimfbaaDoorGcdA
import Derived.Lib.ItoaMem
namespace Go.Proofs.YtbkeildnhimfbaaDoor
open Go.RowKit
set_option maxRecDepth 100000

open Classical in
/-- The number that a row of bits without needless zeros reads as. -/
noncomputable def numOf2 (w : World) (v : Value) : Nat := if h : ∃ n, Sl w .i64 v (dig 2 n) then h.choose else 0
theorem numOf2_eq {w : World} {v : Value} {n : Nat} (h : Sl w .i64 v (dig 2 n)) : numOf2 w v = n := by
  have h1 : ∃ n, Sl w .i64 v (dig 2 n) := ⟨n, h⟩
  unfold numOf2
  rw [dif_pos h1]
  have h2 := sl_unique h1.choose_spec h
  have h3 := congrArg (val 2) h2
  rwa [val_dig (by decide), val_dig (by decide)] at h3

theorem four_bits {xs : List Nat} (h : xs.length ≤ 4) : xs.getD 0 0 + 2 * xs.getD 1 0 + 4 * xs.getD 2 0 + 8 * xs.getD 3 0 = val 2 xs := by
  match xs, h with
  | [], _ => rfl
  | [a], _ => simp [val]
  | [a, b], _ => simp [val]
  | [a, b, c], _ => simp [val]; omega
  | [a, b, c, d], _ => simp [val]; omega
theorem bits_digit {t : Nat} (h : t < 10) : nth (dig 2 t) 0 + 2 * nth (dig 2 t) 1 + 4 * nth (dig 2 t) 2 + 8 * nth (dig 2 t) 3 = (t : Int) := by
  have h1 := length_dig_le (B := 2) (k := 4) (n := t) (by decide) (by omega)
  have h2 := four_bits h1
  rw [val_dig (by decide)] at h2
  unfold nth
  omega
theorem bit_le (t i : Nat) : 0 ≤ nth (dig 2 t) i ∧ nth (dig 2 t) i ≤ 1 := by
  have := (Dig_dig (B := 2) (by decide) t).getD (by decide) i
  unfold nth; omega

/-- The digits of a number; of 0 none. -/
def decs (n : Nat) : List UInt8 := if n = 0 then [] else Lib.decDigits n
theorem decs_step {m : Nat} (h : 0 < m) : decs m = decs (m / 10) ++ [UInt8.ofNat (48 + m % 10)] := by
  unfold decs
  rw [if_neg (by omega)]
  by_cases h1 : m < 10
  · rw [if_pos (by omega), Lib.decDigits_one h1, Nat.mod_eq_of_lt h1]; rfl
  · rw [if_neg (by omega), Lib.decDigits, dif_neg h1]

theorem dig_ten : dig 2 10 = [0, 1, 0, 1] := by
  rw [dig_pos (by decide) (by decide), dig_pos (by decide) (by decide), dig_pos (by decide) (by decide), dig_pos (by decide) (by decide)]
  simp [dig_zero]

set_option maxHeartbeats 2000000 in
set_option maxRecDepth 100000 in
theorem digits_any (va : Value) (N : Nat) (w : World) (hx : Sl w .i64 va (dig 2 N)) (hl : bl N ≤ 100000) (hd : (decs N).length ≤ 1000) :
    Calls Tryd.prog 59 #[va] w fun e w' => e = .returned (.string ⟨(Lib.decDigits N).toArray⟩) ∧ Below w.heap.size w w' := by
  go_enter Tryd.func59, Tryd.ntmps59
  go_wp2_with fail
  have hblk : Blk (w.alloc (.cells #[.int .i64 0, .int .i64 1, .int .i64 0, .int .i64 1] 3)) w.heap.size .i64 3 [0, 1, 0, 1] := heap_alloc_new _ _
  have hten := hblk.sl 0 4 4 (by decide) (Nat.le_refl _) (by decide)
  rw [show ([0, 1, 0, 1].drop 0).take 4 = dig 2 10 by rw [dig_ten]; rfl] at hten
  have hb1 : Below w.heap.size w (w.alloc (.cells #[.int .i64 0, .int .i64 1, .int .i64 0, .int .i64 1] 3)) := (Below.refl _ _).alloc (Nat.le_refl _) _
  have hx1 := hx.below hb1
  clear hblk
  generalize (w.alloc (.cells #[.int .i64 0, .int .i64 1, .int .i64 0, .int .i64 1] 3)) = w1 at *
  have HDL := Lib.hid hd
  clear hd hx
  go_loopw [0, 4] (fun av sv wr => ∃ (m : Nat) (t : List UInt8), Sl wr .i64 av (dig 2 m) ∧ sv = .string ⟨t.toArray⟩ ∧ Sl wr .i64 (.slice (some ⟨w.heap.size, 0, none⟩) 4 4) (dig 2 10) ∧ Below w.heap.size w wr ∧ Hid (decs m ++ t = decs N) ∧ Hid (bl m ≤ 100000)) (fun av _ wr => numOf2 wr av)
  case atStart => exact ⟨N, [], hx1, rfl, hten, hb1, Lib.hid (List.append_nil _), Lib.hid hl⟩
  case round =>
    clear hx1 hten hb1 hl
    obtain ⟨m, t, hs, rfl, hten, hb, HS, HB⟩ := hrel
    obtain ⟨ao, ac, rfl⟩ := sl_shape hs
    have HM := Lib.hid (numOf2_eq hs)
    have HV := Lib.hid (val_dig (B := 2) (by decide) m)
    by_cases h0 : 0 < m
    · have hlp : 0 < (dig 2 m).length := by rw [dig_pos (by decide) h0]; simp
      have HS' := Lib.hid (show decs (m / 10) ++ (UInt8.ofNat (48 + m % 10) :: t) = decs N by rw [← HS.out, decs_step h0, List.append_assoc]; rfl)
      have htl : t.length ≤ 1000 := by have := congrArg List.length HS.out; rw [List.length_append] at this; have := HDL.out; omega
      have hmod : m % 10 < 10 := Nat.mod_lt _ (by decide)
      have HBD := Lib.hid (bits_digit hmod)
      have b0 := bit_le (m % 10) 0
      have b1 := bit_le (m % 10) 1
      have b2 := bit_le (m % 10) 2
      have b3 := bit_le (m % 10) 3
      have HB10 : Hid (bl 10 ≤ 100000) := Lib.hid (by have := bl_le (n := 10) (k := 4) (by decide); omega)
      have HLT := Lib.hid (show m / 10 < m by omega)
      have HB' : Hid (bl (m / 10) ≤ 100000) := Lib.hid (by
        have h1 : bl (m / 10) ≤ bl m := length_dig_le (by decide) (by
          have := lt_bl m
          exact Nat.lt_of_le_of_lt (Nat.div_le_self _ _) this)
        have := HB.out; omega)
      have HB0 : Hid ((dig 2 m).length ≤ 100000) := HB
      clear hmod
      go_wp2_with fail
      refine (rdiv_any _ _ _ 10 wr hs hten (Dig_dig (by decide) _) (by decide) HB0.out HB10.out).mono ?_
      rintro e w3 ⟨q, r, rfl, hq, hr, hb3⟩
      rw [HV.out] at hq hr
      have hb3t : Below w.heap.size w w3 := hb.trans (hb3.mono hb.size)
      have hten3 := hten.below hb3
      go_wp2_with fail
      have hcv : (convert 92 9 (.slice (some ⟨w3.heap.size, 0, none⟩) 1 1)).run Tryd.prog (w3.alloc (.cells #[.int .u8 (48 + ((m % 10 : Nat) : Int))] 5)) = .ok (.string ⟨[UInt8.ofNat (48 + m % 10)].toArray⟩) (w3.alloc (.cells #[.int .u8 (48 + ((m % 10 : Nat) : Int))] 5)) := by
        refine run_convert_bytes_back (P := Tryd.prog) _ 92 9 5 ⟨w3.heap.size, 0, none⟩ 1 [UInt8.ofNat (48 + m % 10)] Tryd.underlying92 Tryd.underlying5 Tryd.underlying9 (fun j hj => ?_)
        obtain rfl : j = 0 := by simp at hj; exact hj
        rw [Lib.add_plain, World.cell?_alloc_new]
        have e := digit_of (d := m % 10) (Nat.mod_lt _ (by decide))
        show some (Value.int .u8 (48 + ((m % 10 : Nat) : Int))) = some (Value.int .u8 ((UInt8.ofNat (48 + m % 10)).toNat : Int))
        rw [e]; rfl
      have HCV := Lib.hid hcv
      clear hcv
      refine (at_any _ _ _ 0 w3 hr rfl).mono ?_; rintro e w' ⟨rfl, rfl⟩
      go_wp2_with fail
      refine (at_any _ _ _ 1 w3 hr rfl).mono ?_; rintro e w' ⟨rfl, rfl⟩
      go_wp2_with fail
      refine (at_any _ _ _ 2 w3 hr rfl).mono ?_; rintro e w' ⟨rfl, rfl⟩
      go_wp2_with fail
      refine (at_any _ _ _ 3 w3 hr rfl).mono ?_; rintro e w' ⟨rfl, rfl⟩
      go_wp2_with fail
      simp only [HBD.out, HCV.out]
      go_wp2_with fail
      go_roundw
      case rel =>
        have hba : Below w3.heap.size w3 (w3.alloc (.cells #[.int .u8 (48 + (m : Int) % 10)] 5)) := (Below.refl _ _).alloc (Nat.le_refl _) _
        refine ⟨m / 10, UInt8.ofNat (48 + m % 10) :: t, hq.below hba, ?_, hten3.below hba, hb3t.trans (hba.mono hb3t.size), HS', HB'⟩
        congr 1
        apply ByteArray.ext
        simp
      case measure =>
        have hba : Below w3.heap.size w3 (w3.alloc (.cells #[.int .u8 (48 + (m : Int) % 10)] 5)) := (Below.refl _ _).alloc (Nat.le_refl _) _
        show numOf2 _ q < numOf2 wr _
        rw [numOf2_eq (hq.below hba), HM.out]; exact HLT.out
    · have hm0 : m = 0 := by omega
      subst hm0
      have HL0 := Lib.hid (show (dig 2 0).length = 0 by rw [dig_zero]; rfl)
      have hts : t = decs N := by have := HS.out; simpa [decs] using this
      rw [HL0.out]
      by_cases hN : N = 0
      · have htn : t = [] := by rw [hts, hN]; rfl
        have HE := Lib.hid (show Lib.decDigits N = [48] by rw [hN, Lib.decDigits_one (by decide)]; rfl)
        subst htn
        clear hts hN h0
        go_wp2_with fail
        go_ret
        exact ⟨by rw [HE.out]; rfl, hb⟩
      · have HE := Lib.hid (show t = Lib.decDigits N by rw [hts]; unfold decs; rw [if_neg hN])
        have hne : t ≠ [] := by rw [HE.out]; exact (dn_dec N).2.2.1
        have hie : t.isEmpty = false := by cases t with
          | nil => exact absurd rfl hne
          | cons a m => rfl
        clear hts hN h0 hne
        go_wp2_with fail
        go_ret
        exact ⟨by rw [← HE.out]; rfl, hb⟩
end Go.Proofs.YtbkeildnhimfbaaDoor
