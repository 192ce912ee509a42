/-
  The walk of the law NatReads.
-/
import Derived.Test.YtdbpcfelibcgiaaDoorParB
import Derived.Test.YtdbpcfelibcgiaaDoorFmt
import Derived.Test.YtdbpcfelibcgiaaDoorFit
namespace Go.Proofs.YtdbpcfelibcgiaaDoor
open Go.RowKit

/-- Parse, of every text: whether it is a numeral, and then its number. -/
theorem parse_any (l : List UInt8) (w : World) (hmax : l.length ≤ 1000000000) :
    Calls Tryd.prog 37 #[.string ⟨l.toArray⟩] w fun e w' => ∃ v o, e = .returned (.tuple #[v, .bool o]) ∧ (o = true ↔ Numeral l) ∧ (o = true → Sl w' .u32 v (dig L32 (dn l))) ∧ (o = false → v = .slice none 0 0) ∧ Below w.heap.size w w' := by
  by_cases h : Numeral l
  · refine (parse_true l w h).mono ?_
    rintro e w' ⟨v, rfl, hs, hb⟩
    exact ⟨v, true, rfl, by simp [h], fun _ => hs, (fun e => by cases e), hb⟩
  · refine (parse_false l w h hmax).mono ?_
    rintro e w' ⟨rfl, rfl⟩
    exact ⟨_, false, rfl, by simp [h], (fun e => by cases e), fun _ => rfl, Below.refl _ _⟩

/-- What NatReads has seen of a text, its first k bytes looked at. -/
def Seen (l : List UInt8) (k : Nat) : Prop := l ≠ [] ∧ l.length ≤ 300 ∧ (1 < l.length → l.getD 0 48 ≠ 48) ∧ ∀ i, i < k → 48 ≤ (l.getD i 0).toNat ∧ (l.getD i 0).toNat ≤ 57
/-- The bit says whether it is still a numeral. -/
def St (b : Bool) (l : List UInt8) (k : Nat) : Prop := b = true ↔ Seen l k
theorem seen_all (l : List UInt8) : Seen l l.length ↔ Numeral l := by
  unfold Seen Numeral AllD
  refine and_congr_right fun _ => and_congr_right fun _ => and_congr_right fun _ => ⟨fun h c hc => ?_, fun h i hi => ?_⟩
  · obtain ⟨j, hj, rfl⟩ := List.mem_iff_getElem.1 hc
    have := h j hj
    simpa [List.getD, hj] using this
  · have := h l[i] (List.getElem_mem hi)
    simpa [List.getD, hi] using this
theorem seen_next {l : List UInt8} {k : Nat} (hk : k < l.length) : Seen l (k + 1) ↔ Seen l k ∧ 48 ≤ (l[k]).toNat ∧ (l[k]).toNat ≤ 57 := by
  have e : l.getD k 0 = l[k] := by simp [List.getD, hk]
  unfold Seen
  constructor
  · rintro ⟨h1, h2, h3, h4⟩
    have := h4 k (by omega)
    rw [e] at this
    exact ⟨⟨h1, h2, h3, fun i hi => h4 i (by omega)⟩, this⟩
  · rintro ⟨⟨h1, h2, h3, h4⟩, h5⟩
    refine ⟨h1, h2, h3, fun i hi => ?_⟩
    rcases Nat.lt_or_ge i k with h | h
    · exact h4 i h
    · obtain rfl : i = k := by omega
      rw [e]; exact h5

set_option maxHeartbeats 4000000 in
set_option maxRecDepth 100000 in
theorem natReads_walk (b : ByteArray) (w : World) (_sz : b.size ≤ maxLen) (htab : Lib.TabIs Tryd.prog w "internal/strconv.uint64pow10" .u64 Lib.pow10Tab) :
    Calls Tryd.prog 12 #[.string b] w fun e w' => e = .returned (.bool true) ∧ Below w.heap.size w w' := by
  have HF := Lib.hid fitOk
  obtain ⟨l, rfl⟩ : ∃ l : List UInt8, b = ⟨l.toArray⟩ := ⟨b.data.toList, by cases b; simp⟩
  have hsz : (⟨l.toArray⟩ : ByteArray).size = l.length := rfl
  clear _sz
  by_cases h4 : 400 < l.length
  · go_enter Tryd.func12, Tryd.ntmps12
    go_wp2_with fail
    refine (HF.out _).mono ?_; rintro e w1 ⟨rfl, hb1⟩
    go_wp2_with fail
    go_ret
    exact ⟨rfl, hb1⟩
  · go_enter Tryd.func12, Tryd.ntmps12
    go_wp2_with fail
    refine (HF.out _).mono ?_; rintro e w1 ⟨rfl, hb1⟩
    go_wp2_with fail
    refine (parse_any l w1 (by omega)).mono ?_
    rintro e w2 ⟨v, o, rfl, ho, hs, hn, hb2⟩
    have hb2t : Below w.heap.size w w2 := hb1.trans (hb2.mono hb1.size)
    have HO := Lib.hid ho
    have HS := Lib.hid hs
    have HNl := Lib.hid hn
    clear ho hs hn
    have c0 : St true l 0 ∧ (l.length ≤ 300 ∧ 0 < l.length) ∧ (l.length ≤ 1 ∨ 1 < l.length ∧ ∃ hp : 0 < l.length, ((((⟨l.toArray⟩ : ByteArray)[0]'hp).toNat : Int) != 48) = true) ∨
        St false l 0 ∧ (l.length = 0 ∨ 300 < l.length ∨ (1 < l.length ∧ l.length ≤ 300) ∧ ∃ hp : 0 < l.length, ((((⟨l.toArray⟩ : ByteArray)[0]'hp).toNat : Int) != 48) = false) := by
      by_cases e0 : l.length = 0
      · exact .inr ⟨(by unfold St; simp only [Bool.false_eq_true, false_iff]; exact fun h => h.1 (List.eq_nil_of_length_eq_zero e0)), .inl e0⟩
      · have hp : 0 < l.length := by omega
        by_cases e3 : 300 < l.length
        · exact .inr ⟨(by unfold St; simp only [Bool.false_eq_true, false_iff]; exact fun h => absurd h.2.1 (by omega)), .inr (.inl e3)⟩
        · have hne : l ≠ [] := fun e => e0 (by rw [e]; rfl)
          have eg : l.getD 0 48 = l[0] := by simp [List.getD, hp]
          by_cases e1 : l.length ≤ 1
          · exact .inl ⟨(by unfold St; simp only [true_iff]; exact ⟨hne, by omega, fun h => absurd h (by omega), fun i hi => absurd hi (by omega)⟩), ⟨by omega, hp⟩, .inl e1⟩
          · by_cases e2 : l.getD 0 48 = 48
            · exact .inr ⟨(by unfold St; simp only [Bool.false_eq_true, false_iff]; exact fun h => h.2.2.1 (by omega) e2), .inr (.inr ⟨⟨by omega, by omega⟩, hp, by rw [at_bytes, ← eg, e2]; rfl⟩)⟩
            · refine .inl ⟨(by unfold St; simp only [true_iff]; exact ⟨hne, by omega, fun _ => e2, fun i hi => absurd hi (by omega)⟩), ⟨by omega, hp⟩, .inr ⟨by omega, hp, ?_⟩⟩
              rw [at_bytes, bne_iff_ne, ← eg]
              intro e
              exact e2 (UInt8.toNat_inj.1 (by show (l.getD 0 48).toNat = 48; omega))
    rcases c0 with ⟨hS, ⟨l1, l2⟩, l3 | ⟨l3, hp, l4⟩⟩ | ⟨hS, l1 | l1 | ⟨⟨l1, l2⟩, hp, l3⟩⟩
    all_goals go_wp2
    all_goals go_loopw [5, 37] (fun c i wr => ∃ (k : Nat) (b : Bool), i = .int .i64 k ∧ c = .bool b ∧ k ≤ l.length ∧ wr = w2 ∧ St b l k) (fun _ i _ => l.length - (intOf i).toNat)
    all_goals first
      | exact ⟨0, true, rfl, rfl, Nat.zero_le _, rfl, hS⟩
      | exact ⟨0, false, rfl, rfl, Nat.zero_le _, rfl, hS⟩
      | exact ⟨0, ((l.length : Int) == 1), rfl, rfl, Nat.zero_le _, rfl, by rw [show ((l.length : Int) == 1) = true by rw [beq_iff_eq]; omega]; exact hS⟩
      | exact ⟨0, ((l.length : Int) == 1), rfl, rfl, Nat.zero_le _, rfl, by rw [show ((l.length : Int) == 1) = false by rw [beq_eq_false_iff_ne]; omega]; exact hS⟩
      | skip
    all_goals
      clear hS
      obtain ⟨k, b, rfl, rfl, hk, rfl, hS⟩ := hrel
      by_cases hlt : k < l.length
      · have hN := Lib.hid (seen_next hlt)
        cases b with
        | false =>
          have hS' : St false l (k + 1) := ⟨fun e => (by cases e), fun h => by have := hS.2 (hN.out.1 h).1; cases this⟩
          go_wp2
          all_goals go_roundw
          all_goals first | exact ⟨k + 1, false, by go_num, rfl, by omega, by trivial, hS'⟩ | (simp [intOf]; omega)
        | true =>
          by_cases hlo : (l[k]'hlt).toNat < 48
          · have hk1 : ((⟨l.toArray⟩ : ByteArray)[k]'hlt).toNat < 48 := hlo
            have hS' : St false l (k + 1) := ⟨fun e => (by cases e), fun h => absurd (hN.out.1 h).2.1 (by omega)⟩
            go_wp2
            all_goals go_roundw
            all_goals first | exact ⟨k + 1, false, by go_num, rfl, by omega, by trivial, hS'⟩ | (simp [intOf]; omega)
          · by_cases hhi : 57 < (l[k]'hlt).toNat
            · have hk0 : 48 ≤ ((⟨l.toArray⟩ : ByteArray)[k]'hlt).toNat := by show 48 ≤ (l[k]'hlt).toNat; omega
              have hk1 : 57 < ((⟨l.toArray⟩ : ByteArray)[k]'hlt).toNat := hhi
              have hdec : decide ((((⟨l.toArray⟩ : ByteArray)[k]'hlt).toNat : Int) ≤ 57) = false := by rw [decide_eq_false_iff_not]; omega
              have hS' : St false l (k + 1) := ⟨fun e => (by cases e), fun h => absurd (hN.out.1 h).2.2 (by omega)⟩
              go_wp2
              all_goals go_roundw
              all_goals first | exact ⟨k + 1, false, by go_num, rfl, by omega, by trivial, hS'⟩ | (simp [intOf]; omega)
            · have hk0 : 48 ≤ ((⟨l.toArray⟩ : ByteArray)[k]'hlt).toNat := by show 48 ≤ (l[k]'hlt).toNat; omega
              have hk1 : ((⟨l.toArray⟩ : ByteArray)[k]'hlt).toNat ≤ 57 := by show (l[k]'hlt).toNat ≤ 57; omega
              have hdec : decide ((((⟨l.toArray⟩ : ByteArray)[k]'hlt).toNat : Int) ≤ 57) = true := by rw [decide_eq_true_iff]; omega
              have hS' : St true l (k + 1) := ⟨fun _ => hN.out.2 ⟨hS.1 rfl, by omega, by omega⟩, fun _ => rfl⟩
              go_wp2
              all_goals go_roundw
              all_goals first | exact ⟨k + 1, true, by go_num, rfl, by omega, by trivial, hS'⟩ | (simp [intOf]; omega)
      · have hkk : k = l.length := by omega
        subst hkk
        have hbo : b = o := by
          have h1 := HO.out
          have h2 := hS.trans (seen_all l)
          cases b <;> cases o <;> simp_all
        subst hbo
        cases b with
        | false =>
          obtain rfl := HNl.out rfl
          go_wp2_with fail
          go_ret
          exact ⟨rfl, hb2t⟩
        | true =>
          have hnum : Numeral l := HO.out.1 rfl
          have hsl := HS.out rfl
          obtain ⟨vo, vc, rfl⟩ := sl_shape hsl
          have HV := Lib.hid (val_dig (B := L32) (by decide) (dn l))
          have HT := Lib.hid hnum.text
          have HLL := Lib.hid (Nat.le_trans (length_dig_le (B := L32) (by decide) (parse_room hnum.2.2.2 (Nat.le_refl l.length))) (show l.length / 9 + 1 ≤ 10000 by omega))
          clear hnum
          go_wp2_with fail
          refine (text_any _ _ wr (tab_below htab hb2t) hsl (Dig_dig (by decide) _) HLL.out).mono ?_
          rintro e w3 ⟨rfl, hb3⟩
          rw [HV.out, HT.out]
          go_wp2_with fail
          go_ret
          exact ⟨rfl, hb2t.trans (hb3.mono hb2t.size)⟩
end Go.Proofs.YtdbpcfelibcgiaaDoor
