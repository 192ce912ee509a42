/-
  The walk of the law LexBlanks.
-/
import Derived.Test.YtnjdbljdaghdmaaLxLawBack
import Derived.IntWalk
namespace Go.Proofs.Ytnjdbljdaghdmaa
open Go.RowKit
set_option maxRecDepth 100000

theorem gap_nl : Gap [10] := fun s => by
  show gapL false (10 :: s) = _
  rw [gapL, if_neg (by decide), if_pos (show blk 10 = true from rfl)]; simp; omega
theorem gap_tab : Gap [9, 13, 10] := fun s => by
  have h9 : blk 9 = true := rfl
  have h13 : blk 13 = true := rfl
  have h10 : blk 10 = true := rfl
  simp [gapL, h9, h13, h10]; omega
theorem gap_rem : Gap [32, 35, 32, 97, 32, 114, 101, 109, 97, 114, 107, 32, 40, 10] := fun s => by
  have h32 : blk 32 = true := rfl
  simp [gapL, h32]; omega
theorem and3 (n : Int) : ∃ m : Nat, m < 4 ∧ bits .and .i64 n 3 = (m : Int) := by
  have hlt : (BitVec.ofInt IntKind.i64.bits n &&& BitVec.ofInt IntKind.i64.bits 3).toNat < 4 := by
    rw [BitVec.toNat_and]; exact Nat.lt_of_le_of_lt Nat.and_le_right (by decide)
  refine ⟨_, hlt, ?_⟩
  show IntKind.i64.wrap ((BitVec.ofInt IntKind.i64.bits n &&& BitVec.ofInt IntKind.i64.bits 3).toNat : Int) = _
  exact IntWalk.i64_in _ (by omega)
theorem idx0 (w : World) : (Instr.index 31 (.agg #[.string ⟨#[32]⟩, .string ⟨#[10]⟩, .string ⟨#[9, 13, 10]⟩, .string ⟨#[32, 35, 32, 97, 32, 114, 101, 109, 97, 114, 107, 32, 40, 10]⟩]) (.int .i64 0)).run Try.prog w = .ok (.string ⟨#[32]⟩) w := by kernel_rfl
theorem idx1 (w : World) : (Instr.index 31 (.agg #[.string ⟨#[32]⟩, .string ⟨#[10]⟩, .string ⟨#[9, 13, 10]⟩, .string ⟨#[32, 35, 32, 97, 32, 114, 101, 109, 97, 114, 107, 32, 40, 10]⟩]) (.int .i64 1)).run Try.prog w = .ok (.string ⟨#[10]⟩) w := by kernel_rfl
theorem idx2 (w : World) : (Instr.index 31 (.agg #[.string ⟨#[32]⟩, .string ⟨#[10]⟩, .string ⟨#[9, 13, 10]⟩, .string ⟨#[32, 35, 32, 97, 32, 114, 101, 109, 97, 114, 107, 32, 40, 10]⟩]) (.int .i64 2)).run Try.prog w = .ok (.string ⟨#[9, 13, 10]⟩) w := by kernel_rfl
theorem idx3 (w : World) : (Instr.index 31 (.agg #[.string ⟨#[32]⟩, .string ⟨#[10]⟩, .string ⟨#[9, 13, 10]⟩, .string ⟨#[32, 35, 32, 97, 32, 114, 101, 109, 97, 114, 107, 32, 40, 10]⟩]) (.int .i64 3)).run Try.prog w = .ok (.string ⟨#[32, 35, 32, 97, 32, 114, 101, 109, 97, 114, 107, 32, 40, 10]⟩) w := by kernel_rfl
theorem joinA_part (g : Bs) (ts : List Tok) (k : Nat) (h : k < ts.length) : (joinA g (ts.take k)).length + (g.length + ts[k].text.length) ≤ textSum ts + g.length * ts.length := by
  have h1 := joinA_len g (ts.take (k + 1))
  have h2 := textSum_take ts (k + 1)
  rw [joinA_take g ts k h] at h1
  simp only [List.length_append, List.length_take] at h1
  have h3 : g.length * min (k + 1) ts.length ≤ g.length * ts.length := Nat.mul_le_mul_left _ (Nat.min_le_right _ _)
  omega

set_option maxHeartbeats 4000000 in
theorem lexBlanks_long (l : Bs) (n : Int) (w : World) (hl : 500 < l.length) (hm : l.length ≤ maxLen) :
    Calls Try.prog 4 #[.string ⟨l.toArray⟩, .int .i64 n] w fun e w' => e = .returned (.bool true) ∧ Below w.heap.size w w' := by
  have hsz : (⟨l.toArray⟩ : ByteArray).size = l.length := rfl
  unfold maxLen at hm
  go_enter Try.func4, Try.ntmps4
  go_wp2_with (refine (fit_any _).mono ?_; rintro e w1 ⟨rfl, hb⟩; have HB := Lib.hid hb; clear hb)
  go_ret
  exact ⟨rfl, HB.out⟩

set_option maxHeartbeats 4000000 in
theorem lexBlanks_err (l : Bs) (n : Int) (w : World) (hl : l.length ≤ 500) (hz : (lexS l (1, 1)).2 ≠ 0) :
    Calls Try.prog 4 #[.string ⟨l.toArray⟩, .int .i64 n] w fun e w' => e = .returned (.bool true) ∧ Below w.heap.size w w' := by
  have hsz : (⟨l.toArray⟩ : ByteArray).size = l.length := rfl
  have HZ := Lib.hid hz
  clear hz
  go_enter Try.func4, Try.ntmps4
  go_wp2_with fail
  refine (fit_any _).mono ?_
  rintro e w1 ⟨rfl, hb⟩
  have HB := Lib.hid hb
  clear hb
  go_wp2_with fail
  refine (lex_any l w1 (by omega)).mono ?_
  intro e w2 hp
  obtain ⟨q, rfl, hb⟩ := err_slice hp HZ.out
  have HB2 := Lib.hid hb
  clear hb hp
  go_wp2
  go_ret
  exact ⟨rfl, HB.out.trans (HB2.out.mono HB.out.size)⟩

set_option maxHeartbeats 4000000 in
theorem lexBlanks_ok (l : Bs) (n : Int) (w : World) (m : Int) (G : Bs) (hG : (m = 0 ∧ G = [32]) ∨ (m = 1 ∧ G = [10]) ∨ (m = 2 ∧ G = [9, 13, 10]) ∨ (m = 3 ∧ G = [32, 35, 32, 97, 32, 114, 101, 109, 97, 114, 107, 32, 40, 10])) (hm : bits .and .i64 n 3 = m) (hl : l.length ≤ 500) (hz : (lexS l (1, 1)).2 = 0) :
    Calls Try.prog 4 #[.string ⟨l.toArray⟩, .int .i64 n] w fun e w' => e = .returned (.bool true) ∧ Below w.heap.size w w' := by
  have hsz : (⟨l.toArray⟩ : ByteArray).size = l.length := rfl
  obtain ⟨hn1, hn2⟩ := lex_sum l (1, 1)
  have hne := lex_ne l (1, 1)
  have hgl : G.length ≤ 14 := by rcases hG with ⟨-, h⟩ | ⟨-, h⟩ | ⟨-, h⟩ | ⟨-, h⟩ <;> rw [h] <;> decide
  have hk : (lexS (joinA G (lexS l (1, 1)).1) (1, 1)).2 = 0 ∧ (lexS (joinA G (lexS l (1, 1)).1) (1, 1)).1.map Tok.bare = (lexS l (1, 1)).1.map Tok.bare := by
    rcases hG with ⟨-, rfl⟩ | ⟨-, rfl⟩ | ⟨-, rfl⟩ | ⟨-, rfl⟩
    · exact lex_blanks gap_sp (c := 32) (.inl rfl) rfl l (1, 1) hz (1, 1)
    · exact lex_blanks gap_nl (c := 10) (.inr (.inl rfl)) rfl l (1, 1) hz (1, 1)
    · exact lex_blanks gap_tab (c := 9) (.inr (.inr rfl)) rfl l (1, 1) hz (1, 1)
    · exact lex_blanks gap_rem (c := 32) (.inl rfl) rfl l (1, 1) hz (1, 1)
  obtain ⟨hk1, hk2⟩ := hk
  have hjl := joinA_len G (lexS l (1, 1)).1
  have HZ := Lib.hid hz
  obtain ⟨ts, hts⟩ : ∃ ts, ts = (lexS l (1, 1)).1 := ⟨_, rfl⟩
  rw [← hts] at hn1 hn2 hne hk1 hk2 hjl
  have HTS := Lib.hid hts
  have HK1 := Lib.hid hk1
  have HK2 := Lib.hid hk2
  have HJL := Lib.hid hjl
  have HNE := Lib.hid hne
  clear hz hts hk1 hk2 hjl hne
  have HG := Lib.hid hm
  clear hm
  have hjb : G.length * ts.length ≤ 14 * ts.length := Nat.mul_le_mul_right _ hgl
  have hd : decide ((500 : Int) < (l.length : Int)) = false := by simp; omega
  rcases hG with ⟨rfl, hGe⟩ | ⟨rfl, hGe⟩ | ⟨rfl, hGe⟩ | ⟨rfl, hGe⟩
  all_goals
    have HGe := Lib.hid hGe
    clear hGe
    go_enter Try.func4, Try.ntmps4
    go_wp2_with fail
    refine (fit_any _).mono ?_
    rintro e w1 ⟨rfl, hb⟩
    have HB := Lib.hid hb
    clear hb
    go_wp2_with fail
    refine (lex_any l w1 (by omega)).mono ?_
    intro e w2 hp
    obtain ⟨v, rfl, hT, hb⟩ := ok_slice hp HZ.out
    rw [← HTS.out] at hT
    obtain ⟨g, cap, rfl, h1, h2, h3, h4, h5⟩ := tok_cells hT HNE.out
    have HB2 := Lib.hid (HB.out.trans (hb.mono HB.out.size))
    have HC := Lib.hid h5
    unfold maxLen at h2
    clear hb hp hT h5
    have hb3 := HG.out
    have x0 := idx0
    have x1 := idx1
    have x2 := idx2
    have x3 := idx3
    go_wp2_with fail
    clear hb3 x0 x1 x2 x3

    go_loopw [8, 31] (fun t i wr => ∃ k : Nat, i = .int .i64 k ∧ k ≤ ts.length ∧ t = .string ⟨(joinA G (ts.take k)).toArray⟩ ∧ Below w2.heap.size w2 wr) (fun _ i _ => ts.length - (intOf i).toNat)
    case atStart => exact ⟨0, rfl, Nat.zero_le _, rfl, Below.refl _ _⟩
    case round =>
      obtain ⟨k, rfl, hk, rfl, hbr⟩ := hrel
      by_cases hlt : k < ts.length
      · obtain ⟨c0, c1, c2, c3⟩ := HC.out k hlt
        have hgc : ∀ i, wr.cell? ⟨g, i, none⟩ = w2.cell? ⟨g, i, none⟩ := fun i => hbr.cell h4
        rw [← hgc] at c0 c1 c2 c3
        have HBR := Lib.hid hbr
        have hlen := joinA_part G ts k hlt
        have hlen' : (joinA G (ts.take k)).length + (14 + ts[k].text.length) ≤ 9223372036854775807 := by omega
        have hlen1 : 14 + ts[k].text.length ≤ 9223372036854775807 := by omega
        have HJ := Lib.hid (joinA_take G ts k hlt)
        clear hgc hbr hlen
        go_wp2
        go_roundw
        case rel =>
          refine ⟨k + 1, by go_num, by omega, ?_, HBR.out.alloc HBR.out.size _⟩
          rw [HJ.out, ← bytes_app, ← bytes_app, HGe.out]
        case measure => simp [intOf]; omega
      · have hkn : k = ts.length := by omega
        subst hkn
        rw [List.take_length]
        have hjl : (joinA G ts).length ≤ 20000 := by rw [HJL.out]; omega
        go_wp2_with fail
        refine (lex_any (joinA G ts) wr hjl).mono ?_
        intro e w3 hp
        obtain ⟨u, rfl, hT, hb⟩ := ok_slice hp HK1.out
        obtain ⟨ms, hms⟩ : ∃ ms, ms = (lexS (joinA G ts) (1, 1)).1 := ⟨_, rfl⟩
        have hml := map_bare HK2.out
        rw [← hms] at hT hml
        have hmn : ms ≠ [] := by rw [hms]; exact lex_ne _ _
        obtain ⟨g2, cap2, rfl, h6, h7, h8, h9, h10⟩ := tok_cells hT hmn
        rw [hml.1] at h6 ⊢
        have HML := Lib.hid hml
        have HC2 := Lib.hid h10
        have hs23 : w2.heap.size ≤ wr.heap.size := hbr.size
        have HB3 := Lib.hid (hbr.trans (hb.mono hbr.size))
        unfold maxLen at h7
        clear hb hp hT h10 hml hmn hms hbr
        go_wp2_with fail
        go_loopw [58] (fun i wx => ∃ k : Nat, i = .int .i64 k ∧ k ≤ ts.length ∧ Below w3.heap.size w3 wx) (fun i _ => ts.length - (intOf i).toNat)
        case atStart => exact ⟨0, rfl, Nat.zero_le _, Below.refl _ _⟩
        case round =>
          obtain ⟨k, rfl, hk, hbx⟩ := hrel
          by_cases hlt : k < ts.length
          · have hkm : k < ms.length := by rw [HML.out.1]; exact hlt
            obtain ⟨c0, c1, -, -⟩ := HC.out k hlt
            obtain ⟨d0, d1, -, -⟩ := HC2.out k hkm
            rw [(HML.out.2 k hkm hlt).1] at d0
            rw [(HML.out.2 k hkm hlt).2] at d1
            have hz3 := HB3.out.size
            have hgc : ∀ i, wr.cell? ⟨g, i, none⟩ = w2.cell? ⟨g, i, none⟩ := fun i => (hbx.cell (p := ⟨g, i, none⟩) (by show g < _; omega)).trans (HB3.out.cell (p := ⟨g, i, none⟩) h4)
            have hgd : ∀ i, wr.cell? ⟨g2, i, none⟩ = w3.cell? ⟨g2, i, none⟩ := fun i => hbx.cell (p := ⟨g2, i, none⟩) h9
            rw [← hgc] at c0 c1
            rw [← hgd] at d0 d1
            have HBX := Lib.hid hbx
            have i0 : (0 : Int) ≤ (k : Int) := by omega
            have i1 : (k : Int) < (ts.length : Int) := by omega
            clear hgc hgd hbx
            go_wp2
            go_quiet (fail)
            go_wp2
            go_roundw
            case rel => exact ⟨k + 1, by go_num, by omega, ⟨HBX.out.os, HBX.out.tape, HBX.out.output, HBX.out.size, HBX.out.block⟩⟩
            case measure => simp [intOf]; omega
          · have hkn : k = ts.length := by omega
            subst hkn
            have HBX := Lib.hid hbx
            clear hbx
            go_wp2
            go_ret
            exact ⟨rfl, (HB2.out.trans (HB3.out.mono HB2.out.size)).trans (HBX.out.mono (Nat.le_trans HB2.out.size HB3.out.size))⟩


theorem lexBlanks_walk (s : ByteArray) (n : Int) (w : World) (hs : s.size ≤ maxLen) (_hn : (Lit.int .i64 n).wf = true) :
    Calls Try.prog 4 #[.string s, .int .i64 n] w fun e w' => e = .returned (.bool true) ∧ Below w.heap.size w w' := by
  obtain ⟨⟨l⟩⟩ := s
  have hm : l.length ≤ maxLen := hs
  by_cases h1 : l.length ≤ 500
  · by_cases h2 : (lexS l (1, 1)).2 = 0
    · obtain ⟨m, hm4, hb⟩ := and3 n
      have hm5 : m = 0 ∨ m = 1 ∨ m = 2 ∨ m = 3 := by omega
      rcases hm5 with rfl | rfl | rfl | rfl
      · exact lexBlanks_ok l n w 0 _ (.inl ⟨rfl, rfl⟩) hb h1 h2
      · exact lexBlanks_ok l n w 1 _ (.inr (.inl ⟨rfl, rfl⟩)) hb h1 h2
      · exact lexBlanks_ok l n w 2 _ (.inr (.inr (.inl ⟨rfl, rfl⟩))) hb h1 h2
      · exact lexBlanks_ok l n w 3 _ (.inr (.inr (.inr ⟨rfl, rfl⟩))) hb h1 h2
    · exact lexBlanks_err l n w h1 h2
  · exact lexBlanks_long l n w (by omega) hm
end Go.Proofs.Ytnjdbljdaghdmaa
