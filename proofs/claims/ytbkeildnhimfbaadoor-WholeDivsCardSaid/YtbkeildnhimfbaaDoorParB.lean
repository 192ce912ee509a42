/-
  The contract of Parse.
-/
import Derived.Test.YtbkeildnhimfbaaDoorParA
namespace Go.Proofs.YtbkeildnhimfbaaDoor
open Go.RowKit
set_option maxRecDepth 100000

theorem extract_take (l : List UInt8) (k : Nat) : (⟨l.toArray⟩ : ByteArray).extract 0 k = ⟨(l.take k).toArray⟩ := by
  apply ByteArray.ext
  simp
theorem extract_drop (l : List UInt8) (k : Nat) : (⟨l.toArray⟩ : ByteArray).extract k l.length = ⟨(l.drop k).toArray⟩ := by
  apply ByteArray.ext
  simp [List.take_of_length_le]

theorem parse_sum {pre grp : List UInt8} (h : pre = [] ∨ grp.length = 9) : 1000000000 * dn pre + dn grp = dn (pre ++ grp) := by
  rw [dn_append]
  rcases h with rfl | h
  · simp [dn]
  · rw [h, show 10 ^ 9 = 1000000000 from rfl, Nat.mul_comm]
theorem parse_room {l m : List UInt8} (hm : AllD m) (h : m.length ≤ l.length) : dn m < L32 ^ (l.length / 9 + 1) := by
  have h1 := dn_lt hm
  have h2 : 10 ^ m.length ≤ 10 ^ (9 * (l.length / 9 + 1)) := Nat.pow_le_pow_right (by decide) (by omega)
  have h3 : 10 ^ (9 * (l.length / 9 + 1)) ≤ L32 ^ (l.length / 9 + 1) := by rw [Nat.pow_mul]; exact Nat.pow_le_pow_left (by decide) _
  omega

def sizeOfS : Value → Nat
  | .string b => b.size
  | _ => 0

set_option maxHeartbeats 2000000 in
set_option maxRecDepth 100000 in
theorem parse_true (l : List UInt8) (w : World) (h : Numeral l) :
    Calls Tryd.prog 58 #[.string ⟨l.toArray⟩] w fun e w' => ∃ v, e = .returned (.tuple #[v, .bool true]) ∧ Sl w' .u32 v (dig L32 (dn l)) ∧ Below w.heap.size w w' := by
  obtain ⟨i0, hi, hz0, hz1, hz2⟩ := info_parts info51
  have hsz : (⟨l.toArray⟩ : ByteArray).size = l.length := rfl
  have HN := Lib.hid h
  have hl := h.2.1
  have HD := Lib.hid h.2.2.2
  clear h
  go_enter Tryd.func58, Tryd.ntmps58
  go_wp2_with fail
  refine (isNum_true l w HN.out).mono ?_; rintro e w' ⟨rfl, hw'⟩; obtain rfl := hw'.symm
  go_wp2_with (at_make; refine wpList_make_blk _ rfl _ _ 23 rfl 72 i0 .u32 Tryd.underlying23 hi hz0 hz1 _ _ _ _ (l.length / 9 + 1) rfl rfl (by omega) (by omega) (by omega) (by omega) ?_; intro w1 hB1 hb1 hs1)
  go_loopw [0] (fun sv wr => ∃ (pre rest : List UInt8) (s' : List Nat), sv = .string ⟨rest.toArray⟩ ∧ Hid (pre ++ rest = l) ∧ Blk wr w.heap.size .u32 72 s' ∧ Dig L32 s' ∧ Hid (s'.length = l.length / 9 + 1) ∧ Hid (val L32 s' = dn pre) ∧ Hid (pre = [] ∨ rest.length % 9 = 0) ∧ Below w.heap.size w wr) (fun sv _ => sizeOfS sv)
  case atStart => exact ⟨[], l, _, rfl, Lib.hid rfl, hB1, Dig.replicate (by decide) _, Lib.hid (by simp), Lib.hid (by rw [val_replicate_zero]; rfl), Lib.hid (.inl rfl), hb1⟩
  case round =>
    clear hB1 hb1 hs1
    obtain ⟨pre, rest, s', rfl, HP, hB, hd, HL, HV, HM, hb⟩ := hrel
    have hsz' : (⟨rest.toArray⟩ : ByteArray).size = rest.length := rfl
    have hrl : rest.length ≤ 300 := by have := congrArg List.length HP.out; rw [List.length_append] at this; omega
    by_cases h0 : 0 < rest.length
    · go_wp2_with fail
      rw [extract_take]
      have hkl : (rest.length - 1) % 9 + 1 ≤ rest.length := by omega
      have HR : Hid (AllD rest) := Lib.hid (by have := HD.out; rw [← HP.out] at this; exact this.right)
      have HG : Hid ((rest.take ((rest.length - 1) % 9 + 1)).length = (rest.length - 1) % 9 + 1) := Lib.hid (by rw [List.length_take]; omega)
      have HP2 : Hid ((pre ++ rest.take ((rest.length - 1) % 9 + 1)) ++ rest.drop ((rest.length - 1) % 9 + 1) = l) := Lib.hid (by rw [List.append_assoc, List.take_append_drop]; exact HP.out)
      have HS := Lib.hid (parse_sum (pre := pre) (grp := rest.take ((rest.length - 1) % 9 + 1)) (by
        rcases HM.out with h | h
        · exact .inl h
        · right; rw [HG.out]; omega))
      have HRM := Lib.hid (parse_room (l := l) (m := pre ++ rest.take ((rest.length - 1) % 9 + 1)) (by have := HD.out; rw [← HP2.out] at this; exact this.left) (by have := congrArg List.length HP2.out; rw [List.length_append] at this; omega))
      have hgb : dn (rest.take ((rest.length - 1) % 9 + 1)) < 4294967296 := by
        have h1 := dn_lt (HR.out.take ((rest.length - 1) % 9 + 1))
        have h2 : 10 ^ (rest.take ((rest.length - 1) % 9 + 1)).length ≤ 10 ^ 9 := Nat.pow_le_pow_right (by decide) (by rw [HG.out]; omega)
        have h3 : 10 ^ 9 = 1000000000 := rfl
        omega
      have HGB := Lib.hid hgb
      clear hgb
      refine (number_any _ wr (HR.out.take _) (by rw [HG.out]; omega)).mono ?_; rintro e w' ⟨rfl, hw'⟩; obtain rfl := hw'.symm
      have hws := ws_part (i := 0) (n := l.length / 9 + 1) hB (by have := HL.out; omega) (by have := HL.out; omega) (by have := HL.out; omega)
      rw [List.take_zero, List.drop_zero] at hws
      go_wp2_with fail
      refine (mulAdd_any w.heap.size [] s' [] _ 1000000000 (dn (rest.take ((rest.length - 1) % 9 + 1))) wr hws hd (by decide) HGB.out (by rw [HV.out, HS.out, HL.out]; exact HRM.out)).mono ?_
      rintro e w3 ⟨t, rfl, hw3, hg3, hl3, hd3, hv3⟩
      rw [HV.out, HS.out] at hv3
      have HL3 := Lib.hid hl3
      have HV3 := Lib.hid hv3
      have hB3 := ws_whole hw3 (by rw [hl3, HL.out]; omega)
      rw [List.nil_append, List.append_nil] at hB3
      have hb3 := hb.trans (below_of_grown' hg3 (Nat.le_refl _) hb.size)
      clear hl3 hv3 hw3 hg3
      go_wp2_with fail
      go_roundw
      case rel => exact ⟨pre ++ rest.take ((rest.length - 1) % 9 + 1), rest.drop ((rest.length - 1) % 9 + 1), t, by rw [← extract_drop], HP2, hB3, hd3, Lib.hid (by rw [HL3.out]; exact HL.out), HV3, Lib.hid (.inr (by rw [List.length_drop]; omega)), hb3⟩
      case measure => simp [sizeOfS]; omega
    · have hr0 : rest = [] := List.eq_nil_of_length_eq_zero (by omega)
      have HV' := Lib.hid (show val L32 s' = dn l by rw [HV.out, ← HP.out, hr0, List.append_nil])
      have hsl := hB.sl 0 (l.length / 9 + 1) (l.length / 9 + 1) (by rw [HL.out]; omega) (Nat.le_refl _) (by omega)
      rw [List.drop_zero, List.take_of_length_le (by rw [HL.out]; omega)] at hsl
      clear hr0
      go_wp2_with fail
      refine (trimmed_v _ s' _ hsl hd).mono ?_
      rintro e w4 ⟨v4, rfl, ht4, rfl⟩
      rw [HV'.out] at ht4
      go_wp2_with fail
      go_ret2
      exact ⟨_, rfl, ht4, hb⟩

set_option maxHeartbeats 400000 in
theorem parse_false (l : List UInt8) (w : World) (h : ¬ Numeral l) (hmax : l.length ≤ 1000000000) :
    Calls Tryd.prog 58 #[.string ⟨l.toArray⟩] w fun e w' => e = .returned (.tuple #[.slice none 0 0, .bool false]) ∧ w' = w := by
  have hsz : (⟨l.toArray⟩ : ByteArray).size = l.length := rfl
  have HN := Lib.hid h
  clear h
  go_enter Tryd.func58, Tryd.ntmps58
  go_wp2_with fail
  refine (isNum_false l w HN.out hmax).mono ?_; rintro e w' ⟨rfl, hw'⟩; obtain rfl := hw'.symm
  go_wp2_with fail
  go_ret2
  exact ⟨rfl, rfl⟩
end Go.Proofs.YtbkeildnhimfbaaDoor
