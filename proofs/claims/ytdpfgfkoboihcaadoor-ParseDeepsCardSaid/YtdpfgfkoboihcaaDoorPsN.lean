/-
  whole.Parse of a number's text: the number, in limbs of its own.
-/
import Derived.Test.YtdpfgfkoboihcaaDoorKPar
import Derived.Test.YtdpfgfkoboihcaaDoorKWhoF
namespace Go.Proofs.YtdpfgfkoboihcaaDoor
open Go.RowKit
set_option maxRecDepth 100000

/-- The slice is empty, or lies in a block made since w. -/
def New (w : World) (v : Value) : Prop := ∃ ao n c, v = .slice ao n c ∧ (n ≠ 0 → ∀ a, ao = some a → w.heap.size ≤ a.block)
theorem trim_new (w : World) (cap : Nat) (xs : List Nat) : New w (trimmedOf (some ⟨w.heap.size, 0, none⟩) cap xs) := by
  unfold trimmedOf
  split
  · exact ⟨_, _, _, rfl, fun h => absurd rfl h⟩
  · exact ⟨_, _, _, rfl, fun _ a h => by injection h with h; subst h; exact Nat.le_refl _⟩

theorem parse_new (l : List UInt8) (w : World) (h : Numeral l) :
    Calls Tryd.prog 64 #[.string ⟨l.toArray⟩] w fun e w' => ∃ v, e = .returned (.tuple #[v, .bool true]) ∧ Sl w' .u32 v (dig L32 (dn l)) ∧ New w v ∧ Below w.heap.size w w' := by
  obtain ⟨i0, hi, hz0, hz1, hz2⟩ := info_parts info51
  have hsz : (⟨l.toArray⟩ : ByteArray).size = l.length := rfl
  have HN := Lib.hid h
  have hl := h.2.1
  have HD := Lib.hid h.2.2.2
  clear h
  go_enter Tryd.func64, Tryd.ntmps64
  go_wp2_with fail
  refine (isNum_true l w HN.out).mono ?_; rintro e w' ⟨rfl, hw'⟩; obtain rfl := hw'.symm
  go_wp2_with (at_make; refine wpList_make_blk _ rfl _ _ 25 rfl 129 i0 .u32 Tryd.underlying25 hi hz0 hz1 _ _ _ _ (l.length / 9 + 1) rfl rfl (by omega) (by omega) (by omega) (by omega) ?_; intro w1 hB1 hb1 hs1)
  go_loopw [0] (fun sv wr => ∃ (pre rest : List UInt8) (s' : List Nat), sv = .string ⟨rest.toArray⟩ ∧ Hid (pre ++ rest = l) ∧ Blk wr w.heap.size .u32 129 s' ∧ Dig L32 s' ∧ Hid (s'.length = l.length / 9 + 1) ∧ Hid (val L32 s' = dn pre) ∧ Hid (pre = [] ∨ rest.length % 9 = 0) ∧ Below w.heap.size w wr) (fun sv _ => sizeOfS sv)
  case atStart => exact ⟨[], l, _, rfl, Lib.hid rfl, hB1, Dig.replicate (by decide) _, Lib.hid (by simp), Lib.hid (by rw [val_replicate_zero]; rfl), Lib.hid (.inl rfl), hb1⟩
  case round =>
    clear hB1 hb1 hs1
    obtain ⟨pre, rest, s', rfl, HP, hB, hd, HL, HV, HM, hb⟩ := hrel
    have hsz' : (⟨rest.toArray⟩ : ByteArray).size = rest.length := rfl
    have hrl : rest.length ≤ 300 := by have := congrArg List.length HP.out; rw [List.length_append] at this; omega
    by_cases h0 : 0 < rest.length
    · go_wp2_with fail
      rw [extract_take]
      have hkl : (rest.length - 1) % 9 + 1 ≤ rest.length := by omega
      have HR : Hid (AllD rest) := Lib.hid (by have := HD.out; rw [← HP.out] at this; exact this.right)
      have HG : Hid ((rest.take ((rest.length - 1) % 9 + 1)).length = (rest.length - 1) % 9 + 1) := Lib.hid (by rw [List.length_take]; omega)
      have HP2 : Hid ((pre ++ rest.take ((rest.length - 1) % 9 + 1)) ++ rest.drop ((rest.length - 1) % 9 + 1) = l) := Lib.hid (by rw [List.append_assoc, List.take_append_drop]; exact HP.out)
      have HS := Lib.hid (parse_sum (pre := pre) (grp := rest.take ((rest.length - 1) % 9 + 1)) (by
        rcases HM.out with h | h
        · exact .inl h
        · right; rw [HG.out]; omega))
      have HRM := Lib.hid (parse_room (l := l) (m := pre ++ rest.take ((rest.length - 1) % 9 + 1)) (by have := HD.out; rw [← HP2.out] at this; exact this.left) (by have := congrArg List.length HP2.out; rw [List.length_append] at this; omega))
      have hgb : dn (rest.take ((rest.length - 1) % 9 + 1)) < 4294967296 := by
        have h1 := dn_lt (HR.out.take ((rest.length - 1) % 9 + 1))
        have h2 : 10 ^ (rest.take ((rest.length - 1) % 9 + 1)).length ≤ 10 ^ 9 := Nat.pow_le_pow_right (by decide) (by rw [HG.out]; omega)
        have h3 : 10 ^ 9 = 1000000000 := rfl
        omega
      have HGB := Lib.hid hgb
      clear hgb
      refine (number_any _ wr (HR.out.take _) (by rw [HG.out]; omega)).mono ?_; rintro e w' ⟨rfl, hw'⟩; obtain rfl := hw'.symm
      have hws := ws_part (i := 0) (n := l.length / 9 + 1) hB (by have := HL.out; omega) (by have := HL.out; omega) (by have := HL.out; omega)
      rw [List.take_zero, List.drop_zero] at hws
      go_wp2_with fail
      refine (mulAdd_any w.heap.size [] s' [] _ 1000000000 (dn (rest.take ((rest.length - 1) % 9 + 1))) wr hws hd (by decide) HGB.out (by rw [HV.out, HS.out, HL.out]; exact HRM.out)).mono ?_
      rintro e w3 ⟨t, rfl, hw3, hg3, hl3, hd3, hv3⟩
      rw [HV.out, HS.out] at hv3
      have HL3 := Lib.hid hl3
      have HV3 := Lib.hid hv3
      have hB3 := ws_whole hw3 (by rw [hl3, HL.out]; omega)
      rw [List.nil_append, List.append_nil] at hB3
      have hb3 := hb.trans (below_of_grown' hg3 (Nat.le_refl _) hb.size)
      clear hl3 hv3 hw3 hg3
      go_wp2_with fail
      go_roundw
      case rel => exact ⟨pre ++ rest.take ((rest.length - 1) % 9 + 1), rest.drop ((rest.length - 1) % 9 + 1), t, by rw [← extract_drop], HP2, hB3, hd3, Lib.hid (by rw [HL3.out]; exact HL.out), HV3, Lib.hid (.inr (by rw [List.length_drop]; omega)), hb3⟩
      case measure => simp [sizeOfS]; omega
    · have hr0 : rest = [] := List.eq_nil_of_length_eq_zero (by omega)
      have HV' := Lib.hid (show val L32 s' = dn l by rw [HV.out, ← HP.out, hr0, List.append_nil])
      have hsl := hB.sl 0 (l.length / 9 + 1) (l.length / 9 + 1) (by rw [HL.out]; omega) (Nat.le_refl _) (by omega)
      rw [List.drop_zero, List.take_of_length_le (by rw [HL.out]; omega)] at hsl
      clear hr0
      go_wp2_with fail
      have HT4 := trimmed_sl hsl hd
      rw [HV'.out] at HT4
      have HT := Lib.hid HT4
      clear HT4
      refine (trimmed_any _ _ _ s' _ hsl).mono ?_
      rintro e w4 ⟨rfl, rfl⟩
      have HNW := Lib.hid (trim_new w (l.length / 9 + 1) s')
      obtain ⟨v4, hv4⟩ : ∃ v4, v4 = trimmedOf (some ⟨w.heap.size, 0, none⟩) (l.length / 9 + 1) s' := ⟨_, rfl⟩
      rw [← hv4] at HT HNW ⊢
      clear hv4
      go_wp2_with fail
      go_ret2
      exact ⟨_, rfl, HT.out, HNW.out, hb⟩

set_option maxHeartbeats 400000 in
theorem signed_new (ao : Option Addr) (n c : Nat) (w : World) :
    Calls Tryd.prog 65 #[.bool false, .slice ao n c] w fun e w' => e = .returned (.agg #[.bool false, .slice ao n c]) ∧ Below w.heap.size w w' := by
  go_enter Tryd.func65, Tryd.ntmps65
  go_wp2
  exact bodyPost_ret (v := .agg #[.bool false, .slice ao n c]) (by simp [results, Tryd.results65, go_sem]) rfl ⟨rfl, (Below.refl _ _).alloc (Nat.le_refl _) _⟩

set_option maxHeartbeats 2000000 in
theorem wparse_new (l : List UInt8) (w : World) (hnum : Numeral l) :
    Calls Tryd.prog 58 #[.string ⟨l.toArray⟩] w fun e w' => ∃ ao n c, e = .returned (.tuple #[.agg #[.bool false, .slice ao n c], .bool true]) ∧ Sl w' .u32 (.slice ao n c) (dig L32 (dn l)) ∧ (n ≠ 0 → ∀ a, ao = some a → w.heap.size ≤ a.block) ∧ Below w.heap.size w w' := by
  have hm : l.length ≤ 1000000000 := by have := hnum.2.1; omega
  have hW : Below w.heap.size w (w.alloc (.cells #[.bool false, .slice none 0 0] 27)) := (Below.refl _ _).alloc (Nat.le_refl _) _
  have HC := Lib.hid (fun w => cut_no l w hm (num_head hnum))
  have hlt := num_lt hnum
  have HNUM := Lib.hid hnum
  clear hnum
  go_enter Tryd.func58, Tryd.ntmps58
  go_wp2_with fail
  refine (HC.out _).mono ?_; rintro e w' ⟨rfl, rfl⟩
  go_wp2_with fail
  refine (parse_new l _ HNUM.out).mono ?_
  rintro e w2 ⟨v2, rfl, s2, n2, hb2⟩
  have hk2 := (hb2.block w.heap.size (by simp)).trans (heap_alloc_new w _)
  have hb2t := hW.trans (hb2.mono (by simp))
  clear hb2
  obtain ⟨vo, vn, vc, rfl, hnew⟩ := n2
  have hvn : vn = (dig L32 (dn l)).length := by obtain ⟨_, _, e, _⟩ := s2; injection e
  have HNEW := Lib.hid hnew
  clear hnew
  subst hvn
  go_wp2_with fail
  refine (signed_new vo _ vc w2).mono ?_
  rintro e w3 ⟨rfl, hb3⟩
  have hk3 := (hb3.block _ (lt_of_block hk2)).trans hk2
  have hb3t := hb2t.trans (hb3.mono hb2t.size)
  have s3 := s2.below hb3
  clear hb3 hk2 hb2t s2
  obtain ⟨q0, q1, f0, f1⟩ := two_cells hk3
  have HB := Lib.hid hk3
  have HS3 := Lib.hid s3
  clear hk3 s3
  go_wp2_with fail
  refine bodyPost_ret (v := .tuple #[.agg #[.bool false, .slice vo (dig L32 (dn l)).length vc], .bool true]) (by simp [results, Tryd.results58, go_sem, q0, q1]) rfl ⟨_, _, _, rfl, ?_, fun h a e => ?_, below_setg hb3t (by omega) _ _⟩
  · exact HS3.out.set2 HB.out _ _
  · have := HNEW.out h a e; simp at this; omega
end Go.Proofs.YtdpfgfkoboihcaaDoor
