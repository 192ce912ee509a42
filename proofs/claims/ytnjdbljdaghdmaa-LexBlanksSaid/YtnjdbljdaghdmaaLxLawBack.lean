/-
  The walk of the law LexBack.
-/
import Derived.Test.YtnjdbljdaghdmaaLxE
import Derived.Deep.LoopGhost
namespace Go.Proofs.Ytnjdbljdaghdmaa
open Go.RowKit
set_option maxRecDepth 100000

theorem err_slice {l : Bs} {w0 : World} {e : Ending} {w' : World} (h : LexPost l w0 e w') (hz : (lexS l (1, 1)).2 ≠ 0) : ∃ q, e = .returned (.tuple #[.slice none 0 0, .iface 40 (.pointer (some ⟨q, 0, none⟩))]) ∧ Below w0.heap.size w0 w' := by
  rcases h.2 with ⟨h0, -⟩ | ⟨-, q, t, -, he, -⟩
  · exact absurd h0 hz
  · exact ⟨q, he, h.1⟩
theorem ok_slice {l : Bs} {w0 : World} {e : Ending} {w' : World} (h : LexPost l w0 e w') (hz : (lexS l (1, 1)).2 = 0) : ∃ v, e = .returned (.tuple #[v, .nilIface]) ∧ Tk w' (w0.heap.size + 1) 29 v (lexS l (1, 1)).1 ∧ Below w0.heap.size w0 w' := by
  rcases h.2 with ⟨-, v, he, hT⟩ | ⟨h0, -⟩
  · exact ⟨v, he, hT, h.1⟩
  · exact absurd hz h0

set_option maxHeartbeats 4000000 in
theorem lexBack_long (l : Bs) (w : World) (hl : 3000 < l.length) (hm : l.length ≤ maxLen) :
    Calls Try.prog 3 #[.string ⟨l.toArray⟩] w fun e w' => e = .returned (.bool true) ∧ Below w.heap.size w w' := by
  have hsz : (⟨l.toArray⟩ : ByteArray).size = l.length := rfl
  unfold maxLen at hm
  go_enter Try.func3, Try.ntmps3
  go_wp2_with (refine (fit_any _).mono ?_; rintro e w1 ⟨rfl, hb⟩; have HB := Lib.hid hb; clear hb)
  go_ret
  exact ⟨rfl, HB.out⟩

set_option maxHeartbeats 4000000 in
theorem lexBack_err (l : Bs) (w : World) (hl : l.length ≤ 3000) (hz : (lexS l (1, 1)).2 ≠ 0) :
    Calls Try.prog 3 #[.string ⟨l.toArray⟩] w fun e w' => e = .returned (.bool true) ∧ Below w.heap.size w w' := by
  have hsz : (⟨l.toArray⟩ : ByteArray).size = l.length := rfl
  have HZ := Lib.hid hz
  clear hz
  go_enter Try.func3, Try.ntmps3
  go_wp2_with fail
  refine (fit_any _).mono ?_
  rintro e w1 ⟨rfl, hb⟩
  have HB := Lib.hid hb
  clear hb
  go_wp2_with fail
  refine (lex_any l w1 (by omega)).mono ?_
  intro e w2 hp
  obtain ⟨q, rfl, hb⟩ := err_slice hp HZ.out
  have HB2 := Lib.hid hb
  clear hb hp
  go_wp2
  go_ret
  exact ⟨rfl, HB.out.trans (HB2.out.mono HB.out.size)⟩

theorem joinB_part (ts : List Tok) (k : Nat) (h : k < ts.length) : (joinB (ts.take k)).length + (ts[k].text.length + 1) ≤ textSum ts + ts.length := by
  have h1 := joinB_len (ts.take (k + 1))
  have h2 := textSum_take ts (k + 1)
  rw [joinB_take ts k h] at h1
  simp only [List.length_append, List.length_cons, List.length_nil, List.length_take] at h1
  omega
theorem bytes_app (a b : Bs) : (⟨a.toArray⟩ : ByteArray) ++ ⟨b.toArray⟩ = ⟨(a ++ b).toArray⟩ := by
  apply ByteArray.ext
  simp
theorem map_bare {xs bs : List Tok} (h : xs.map Tok.bare = bs.map Tok.bare) : xs.length = bs.length ∧ ∀ k (ha : k < xs.length) (hb : k < bs.length), xs[k].kind = bs[k].kind ∧ xs[k].text = bs[k].text := by
  have hl : xs.length = bs.length := by simpa using congrArg List.length h
  refine ⟨hl, fun k ha hb => ?_⟩
  have h1 : (xs.map Tok.bare)[k]'(by simpa using ha) = (bs.map Tok.bare)[k]'(by simpa using hb) := by simp only [h]
  simp only [List.getElem_map, Tok.bare, Prod.mk.injEq] at h1
  exact h1

set_option maxHeartbeats 4000000 in
theorem lexBack_ok (l : Bs) (w : World) (hl : l.length ≤ 3000) (hz : (lexS l (1, 1)).2 = 0) :
    Calls Try.prog 3 #[.string ⟨l.toArray⟩] w fun e w' => e = .returned (.bool true) ∧ Below w.heap.size w w' := by
  have hsz : (⟨l.toArray⟩ : ByteArray).size = l.length := rfl
  obtain ⟨hn1, hn2⟩ := lex_sum l (1, 1)
  have hne := lex_ne l (1, 1)
  obtain ⟨hk1, hk2⟩ := lex_back l (1, 1) hz [] (1, 1) gap_nil
  rw [List.nil_append] at hk1 hk2
  have hk3 := lex_line (joinB (lexS l (1, 1)).1) (1, 1) hk1 (joinB_noNl (lex_noNl l (1, 1) hz))
  have hjl := joinB_len (lexS l (1, 1)).1
  have HZ := Lib.hid hz
  obtain ⟨ts, hts⟩ : ∃ ts, ts = (lexS l (1, 1)).1 := ⟨_, rfl⟩
  rw [← hts] at hn1 hn2 hne hk1 hk2 hk3 hjl
  have HTS := Lib.hid hts
  have HK1 := Lib.hid hk1
  have HK2 := Lib.hid hk2
  have HK3 := Lib.hid hk3
  have HJL := Lib.hid hjl
  have HNE := Lib.hid hne
  clear hz hts hk1 hk2 hk3 hjl hne
  have hd : decide ((3000 : Int) < (l.length : Int)) = false := by simp; omega
  go_enter Try.func3, Try.ntmps3
  go_wp2_with fail
  refine (fit_any _).mono ?_
  rintro e w1 ⟨rfl, hb⟩
  have HB := Lib.hid hb
  clear hb
  go_wp2_with fail
  refine (lex_any l w1 (by omega)).mono ?_
  intro e w2 hp
  obtain ⟨v, rfl, hT, hb⟩ := ok_slice hp HZ.out
  rw [← HTS.out] at hT
  obtain ⟨g, cap, rfl, h1, h2, h3, h4, h5⟩ := tok_cells hT HNE.out
  have HB2 := Lib.hid (HB.out.trans (hb.mono HB.out.size))
  have HC := Lib.hid h5
  unfold maxLen at h2
  clear hb hp hT h5
  go_wp2_with fail

  go_loopw [5, 27] (fun t i wr => ∃ k : Nat, i = .int .i64 k ∧ k ≤ ts.length ∧ t = .string ⟨(joinB (ts.take k)).toArray⟩ ∧ Below w2.heap.size w2 wr) (fun _ i _ => ts.length - (intOf i).toNat)
  case atStart => exact ⟨0, rfl, Nat.zero_le _, rfl, Below.refl _ _⟩
  case round =>
    obtain ⟨k, rfl, hk, rfl, hbr⟩ := hrel
    by_cases hlt : k < ts.length
    · obtain ⟨c0, c1, c2, c3⟩ := HC.out k hlt
      have hgc : ∀ i, wr.cell? ⟨g, i, none⟩ = w2.cell? ⟨g, i, none⟩ := fun i => hbr.cell h4
      rw [← hgc] at c0 c1 c2 c3
      have HBR := Lib.hid hbr
      have hlen := joinB_part ts k hlt
      have hlen' : (joinB (ts.take k)).length + (ts[k].text.length + 1) ≤ 9223372036854775807 := by omega
      have hlen1 : ts[k].text.length + 1 ≤ 9223372036854775807 := by omega
      have HJ := Lib.hid (joinB_take ts k hlt)
      clear hgc hbr hlen
      go_wp2
      go_roundw
      case rel =>
        refine ⟨k + 1, by go_num, by omega, ?_, HBR.out.alloc HBR.out.size _⟩
        rw [HJ.out, ← bytes_app, ← bytes_app]
      case measure => simp [intOf]; omega
    · have hkn : k = ts.length := by omega
      subst hkn
      rw [List.take_length]
      have hjl : (joinB ts).length ≤ 20000 := by rw [HJL.out]; omega
      go_wp2_with fail
      refine (lex_any (joinB ts) wr hjl).mono ?_
      intro e w3 hp
      obtain ⟨u, rfl, hT, hb⟩ := ok_slice hp HK1.out
      obtain ⟨ms, hms⟩ : ∃ ms, ms = (lexS (joinB ts) (1, 1)).1 := ⟨_, rfl⟩
      have hml := map_bare HK2.out
      have hm1 := HK3.out
      rw [← hms] at hT hml hm1
      have hmn : ms ≠ [] := by rw [hms]; exact lex_ne _ _
      obtain ⟨g2, cap2, rfl, h6, h7, h8, h9, h10⟩ := tok_cells hT hmn
      rw [hml.1] at h6 ⊢
      have HML := Lib.hid hml
      have HM1 := Lib.hid hm1
      have HC2 := Lib.hid h10
      have hs23 : w2.heap.size ≤ wr.heap.size := hbr.size
      have HB3 := Lib.hid (hbr.trans (hb.mono hbr.size))
      unfold maxLen at h7
      clear hb hp hT h10 hml hm1 hmn hms hbr
      go_wp2_with fail
      go_loopw [53] (fun i wx => ∃ k : Nat, i = .int .i64 k ∧ k ≤ ts.length ∧ Below w3.heap.size w3 wx) (fun i _ => ts.length - (intOf i).toNat)
      case atStart => exact ⟨0, rfl, Nat.zero_le _, Below.refl _ _⟩
      case round =>
        obtain ⟨k, rfl, hk, hbx⟩ := hrel
        by_cases hlt : k < ts.length
        · have hkm : k < ms.length := by rw [HML.out.1]; exact hlt
          obtain ⟨c0, c1, -, -⟩ := HC.out k hlt
          obtain ⟨d0, d1, d2, -⟩ := HC2.out k hkm
          have ht1 : ms[k].line = 1 := HM1.out _ (List.getElem_mem hkm)
          rw [(HML.out.2 k hkm hlt).1] at d0
          rw [(HML.out.2 k hkm hlt).2] at d1
          rw [ht1] at d2
          have hz3 := HB3.out.size
          have hgc : ∀ i, wr.cell? ⟨g, i, none⟩ = w2.cell? ⟨g, i, none⟩ := fun i => (hbx.cell (p := ⟨g, i, none⟩) (by show g < _; omega)).trans (HB3.out.cell (p := ⟨g, i, none⟩) h4)
          have hgd : ∀ i, wr.cell? ⟨g2, i, none⟩ = w3.cell? ⟨g2, i, none⟩ := fun i => hbx.cell (p := ⟨g2, i, none⟩) h9
          rw [← hgc] at c0 c1
          rw [← hgd] at d0 d1 d2
          have HBX := Lib.hid hbx
          have i0 : (0 : Int) ≤ (k : Int) := by omega
          have i1 : (k : Int) < (ts.length : Int) := by omega
          clear hgc hgd hbx ht1
          go_wp2
          go_quiet (fail)
          go_wp2
          go_roundw
          case rel => exact ⟨k + 1, by go_num, by omega, ⟨HBX.out.os, HBX.out.tape, HBX.out.output, HBX.out.size, HBX.out.block⟩⟩
          case measure => simp [intOf]; omega
        · have hkn : k = ts.length := by omega
          subst hkn
          have HBX := Lib.hid hbx
          clear hbx
          go_wp2
          go_ret
          exact ⟨rfl, (HB2.out.trans (HB3.out.mono HB2.out.size)).trans (HBX.out.mono (Nat.le_trans HB2.out.size HB3.out.size))⟩

theorem lexBack_walk (s : ByteArray) (w : World) (hs : s.size ≤ maxLen) :
    Calls Try.prog 3 #[.string s] w fun e w' => e = .returned (.bool true) ∧ Below w.heap.size w w' := by
  obtain ⟨⟨l⟩⟩ := s
  have hm : l.length ≤ maxLen := hs
  by_cases h1 : l.length ≤ 3000
  · by_cases h2 : (lexS l (1, 1)).2 = 0
    · exact lexBack_ok l w h1 h2
    · exact lexBack_err l w h1 h2
  · exact lexBack_long l w (by omega) hm
end Go.Proofs.Ytnjdbljdaghdmaa
