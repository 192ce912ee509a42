/-
  The walk of the law LexRuns.
-/
import Derived.Test.YtnjdbljdaghdmaaDoorLxRefL
namespace Go.Proofs.YtnjdbljdaghdmaaDoor
open Go.RowKit
set_option maxRecDepth 100000

theorem AtB.below {w w' : World} {q : Nat} {p : Nat × Nat} {v : Value} (h : AtB w q p v) (hb : Below w.heap.size w w') : AtB w' q p v := by
  unfold AtB at *; rw [hb.block _ (lt_of_block h)]; exact h

set_option maxHeartbeats 4000000 in
theorem lexRuns_long (l : Bs) (w : World) (hl : 3000 < l.length) (hm : l.length ≤ maxLen) :
    Calls Tryd.prog 3 #[.string ⟨l.toArray⟩] w fun e w' => e = .returned (.bool true) ∧ Below w.heap.size w w' := by
  have hsz : (⟨l.toArray⟩ : ByteArray).size = l.length := rfl
  unfold maxLen at hm
  go_enter Tryd.func3, Tryd.ntmps3
  go_wp2_with (refine (fit_any _).mono ?_; rintro e w1 ⟨rfl, hb⟩; have HB := Lib.hid hb; clear hb)
  go_ret
  exact ⟨rfl, HB.out⟩

theorem last_at {ts : List Tok} {t : Tok} (h : ts.getLast? = some t) : ∃ hi : ts.length - 1 < ts.length, ts[ts.length - 1] = t := by
  have hne : ts ≠ [] := fun e => by rw [e] at h; cases h
  have hi : ts.length - 1 < ts.length := by have := List.length_pos_iff.2 hne; omega
  refine ⟨hi, ?_⟩
  rw [List.getLast?_eq_getElem?, List.getElem?_eq_getElem hi] at h
  injection h

set_option maxHeartbeats 4000000 in
theorem lexRuns_err (l : Bs) (w : World) (hg : ErrType w) (hl : l.length ≤ 3000) (hz : (lexS l (1, 1)).2 ≠ 0) :
    Calls Tryd.prog 3 #[.string ⟨l.toArray⟩] w fun e w' => e = .returned (.bool true) ∧ Below w.heap.size w w' := by
  have hsz : (⟨l.toArray⟩ : ByteArray).size = l.length := rfl
  have hcode : (lexS l (1, 1)).2 = 1 ∨ (lexS l (1, 1)).2 = 2 := by rcases lex_code l (1, 1) with h | h | h <;> omega
  obtain ⟨hn1, -⟩ := lex_sum l (1, 1)
  have HZ := Lib.hid hz
  have HG := Lib.hid hg
  obtain ⟨ts, hts⟩ : ∃ ts, ts = (lexS l (1, 1)).1 := ⟨_, rfl⟩
  obtain ⟨c, hc⟩ : ∃ c, c = (lexS l (1, 1)).2 := ⟨_, rfl⟩
  rw [← hts] at hn1
  rw [← hc] at hcode
  have HTS := Lib.hid hts
  have HC0 := Lib.hid hc
  have HCC := Lib.hid hcode
  have hc2 : c ≤ 2 := by omega
  have hcn : ((c : Int) == 0) = false := by rw [beq_eq_false_iff_ne]; omega
  have hd : decide ((3000 : Int) < (l.length : Int)) = false := by simp; omega
  clear hz hg hts hc hcode
  go_enter Tryd.func3, Tryd.ntmps3
  go_wp2_with fail
  refine (fit_any _).mono ?_
  rintro e w1 ⟨rfl, hb⟩
  have HB := Lib.hid hb
  clear hb
  go_wp2_with fail
  refine (lex_any l w1 (by omega)).mono ?_
  intro e w2 hp
  obtain ⟨q, t, hlast, rfl, hA, hb⟩ := err_post hp HZ.out
  rw [← HC0.out] at hA
  rw [← HTS.out] at hlast
  have HLA := Lib.hid hlast
  have HA := Lib.hid hA
  have HB2 := Lib.hid (HB.out.trans (hb.mono HB.out.size))
  clear hb hp hA hlast
  go_wp2_with fail
  refine (ref_any l w2 (by omega)).mono ?_
  rintro e w3 ⟨v, rfl, hT, hb⟩
  rw [← HTS.out] at hT
  rw [← HC0.out]
  obtain ⟨hi, hti⟩ := last_at HLA.out
  have hne : ts ≠ [] := fun e => by rw [e] at hi; simp at hi
  have hn0 : 0 < ts.length := List.length_pos_iff.2 hne
  obtain ⟨g, cap, rfl, h1, h2, h3, h4, h5⟩ := tok_cells hT hne
  obtain ⟨c0, c1, c2, c3⟩ := h5 _ hi
  rw [hti] at c0 c1 c2 c3
  have HA3 := Lib.hid (HA.out.below hb)
  have HB3 := Lib.hid (HB2.out.trans (hb.mono HB2.out.size))
  unfold maxLen at h2
  clear hT hb h5 hti hne
  go_wp2_with fail
  clear c0 c1 c2 c3
  obtain ⟨W, hW⟩ : ∃ W, W = w3.alloc (.cells #[.int .i64 (t.kind : Nat), .string ⟨t.text.toArray⟩, .int .i64 (t.line : Nat), .int .i64 (t.col : Nat)] 32) := ⟨_, rfl⟩
  have hbW : Below w3.heap.size w3 W := by rw [hW]; exact (Below.refl _ _).alloc (Nat.le_refl _) _
  have hLW : W.heap[w3.heap.size]? = some (.cells #[.int .i64 (t.kind : Nat), .string ⟨t.text.toArray⟩, .int .i64 (t.line : Nat), .int .i64 (t.col : Nat)] 32 (0, 0)) := by rw [hW]; exact made_at w3 _ _ rfl
  rw [← hW]
  have HBW := Lib.hid (HB3.out.trans (hbW.mono HB3.out.size))
  have HGW := Lib.hid (HG.out.below HBW.out)
  have HAW := Lib.hid (HA3.out.below hbW)
  have HLW := Lib.hid hLW
  clear hW hbW hLW
  refine (fault_at q (t.line, t.col) c HCC.out W HGW.out HAW.out).mono ?_
  rintro e w4 ⟨rfl, hb4⟩
  have hL4 := (hb4.block _ (lt_of_block HLW.out)).trans HLW.out
  have t2 := cell_at hL4 2 rfl
  have t3 := cell_at hL4 3 rfl
  have HB4 := Lib.hid (HBW.out.trans (hb4.mono HBW.out.size))
  clear hb4 hL4
  go_wp2_with fail
  go_ret
  exact ⟨rfl, HB4.out⟩

set_option maxHeartbeats 4000000 in
theorem lexRuns_ok (l : Bs) (w : World) (hl : l.length ≤ 3000) (hz : (lexS l (1, 1)).2 = 0) :
    Calls Tryd.prog 3 #[.string ⟨l.toArray⟩] w fun e w' => e = .returned (.bool true) ∧ Below w.heap.size w w' := by
  have hsz : (⟨l.toArray⟩ : ByteArray).size = l.length := rfl
  obtain ⟨hn1, -⟩ := lex_sum l (1, 1)
  have hne := lex_ne l (1, 1)
  have HZ := Lib.hid hz
  obtain ⟨ts, hts⟩ : ∃ ts, ts = (lexS l (1, 1)).1 := ⟨_, rfl⟩
  rw [← hts] at hn1 hne
  have hn0 : 0 < ts.length := List.length_pos_iff.2 hne
  have hi : ts.length - 1 < ts.length := by omega
  have HTS := Lib.hid hts
  have HNE := Lib.hid hne
  have hd : decide ((3000 : Int) < (l.length : Int)) = false := by simp; omega
  clear hz hts hne
  go_enter Tryd.func3, Tryd.ntmps3
  go_wp2_with fail
  refine (fit_any _).mono ?_
  rintro e w1 ⟨rfl, hb⟩
  have HB := Lib.hid hb
  clear hb
  go_wp2_with fail
  refine (lex_any l w1 (by omega)).mono ?_
  intro e w2 hp
  obtain ⟨v, rfl, hT, hb⟩ := ok_post hp HZ.out
  rw [← HTS.out] at hT
  have HT := Lib.hid hT
  have HB2 := Lib.hid (HB.out.trans (hb.mono HB.out.size))
  clear hb hp hT
  go_wp2_with fail
  refine (ref_any l w2 (by omega)).mono ?_
  rintro e w3 ⟨u, rfl, hT2, hb⟩
  rw [← HTS.out] at hT2
  rw [HZ.out]
  obtain ⟨g, cap, rfl, h1, h2, h3, h4, h5⟩ := tok_cells (HT.out.below hb) HNE.out
  obtain ⟨g2, cap2, rfl, h6, h7, h8, h9, h10⟩ := tok_cells hT2 HNE.out
  obtain ⟨c0, c1, c2, c3⟩ := h10 _ hi
  have HC := Lib.hid h5
  have HC2 := Lib.hid h10
  have HB3 := Lib.hid (HB2.out.trans (hb.mono HB2.out.size))
  unfold maxLen at h2 h7
  clear hT2 hb h5 h10
  go_wp2_with fail
  clear c0 c1 c2 c3
  go_loopw [73] (fun i wr => ∃ k : Nat, i = .int .i64 k ∧ k ≤ ts.length ∧ Below w3.heap.size w3 wr) (fun i _ => ts.length - (intOf i).toNat)
  case atStart => exact ⟨0, rfl, Nat.zero_le _, (Below.refl _ _).alloc (Nat.le_refl _) _⟩
  case round =>
    obtain ⟨k, rfl, hk, hbr⟩ := hrel
    by_cases hlt : k < ts.length
    · obtain ⟨c0, c1, c2, c3⟩ := HC.out k hlt
      obtain ⟨d0, d1, d2, d3⟩ := HC2.out k hlt
      have hzr := hbr.size
      have hbo : Below w3.heap.size w3 (wr.alloc (.cells #[.int .i64 (ts[k].kind : Nat), .string ⟨ts[k].text.toArray⟩, .int .i64 (ts[k].line : Nat), .int .i64 (ts[k].col : Nat)] 32)) := hbr.alloc hzr _
      have hgc : ∀ i, wr.cell? ⟨g, i, none⟩ = w3.cell? ⟨g, i, none⟩ := fun i => hbr.cell (p := ⟨g, i, none⟩) h4
      have hgd : ∀ i, wr.cell? ⟨g2, i, none⟩ = w3.cell? ⟨g2, i, none⟩ := fun i => hbr.cell (p := ⟨g2, i, none⟩) h9
      have ho : ∀ i v, wr.cell? ⟨g, i, none⟩ = some v → (wr.alloc (.cells #[.int .i64 (ts[k].kind : Nat), .string ⟨ts[k].text.toArray⟩, .int .i64 (ts[k].line : Nat), .int .i64 (ts[k].col : Nat)] 32)).cell? ⟨g, i, none⟩ = some v := fun i v h => by
        rw [World.cell?_alloc_lt _ _ ⟨g, i, none⟩ (by show g < _; omega)]; exact h
      rw [← hgc] at c0 c1 c2 c3
      rw [← hgd] at d0 d1 d2 d3
      have e0 := ho _ _ c0
      have e1 := ho _ _ c1
      have e2 := ho _ _ c2
      have e3 := ho _ _ c3
      have HBO := Lib.hid hbo
      have i0 : (0 : Int) ≤ (k : Int) := by omega
      have i1 : (k : Int) < (ts.length : Int) := by omega
      clear hgc hgd hbr hbo ho
      go_wp2
      go_quiet (fail)
      go_wp2
      go_roundw
      case rel => exact ⟨k + 1, by go_num, by omega, ⟨HBO.out.os, HBO.out.tape, HBO.out.output, HBO.out.size, HBO.out.block⟩⟩
      case measure => simp [intOf]; omega
    · have hkn : k = ts.length := by omega
      subst hkn
      have HBR := Lib.hid hbr
      clear hbr
      go_wp2
      go_ret
      exact ⟨rfl, HB3.out.trans (HBR.out.mono HB3.out.size)⟩

theorem lexRuns_walk (s : ByteArray) (w : World) (hs : s.size ≤ maxLen) (hg : ErrType w) :
    Calls Tryd.prog 3 #[.string s] w fun e w' => e = .returned (.bool true) ∧ Below w.heap.size w w' := by
  obtain ⟨⟨l⟩⟩ := s
  have hm : l.length ≤ maxLen := hs
  by_cases h1 : l.length ≤ 3000
  · by_cases h2 : (lexS l (1, 1)).2 = 0
    · exact lexRuns_ok l w h1 h2
    · exact lexRuns_err l w hg h1 h2
  · exact lexRuns_long l w (by omega) hm
end Go.Proofs.YtnjdbljdaghdmaaDoor
