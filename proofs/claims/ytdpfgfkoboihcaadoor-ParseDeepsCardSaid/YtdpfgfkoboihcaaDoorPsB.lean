/-
  Contracts of the parser's plain calls: accept, name, fail, finish, expect; of part and named.
-/
import Derived.Test.YtdpfgfkoboihcaaDoorPsA
namespace Go.Proofs.YtdpfgfkoboihcaaDoor
open Go.RowKit
set_option maxRecDepth 100000
set_option linter.unusedVariables false

theorem field_text (a c d : Int) (l : ByteArray) (w : World) : (Instr.field 57 (.agg #[.int .i64 a, .string l, .int .i64 c, .int .i64 d]) 1).run Tryd.prog w = .ok (.string l) w := by kernel_rfl
theorem Did.trans {w w1 w2 : World} {g : Nat} {s1 s2 : St} (h : Did w g s1 w1) (k : Did w1 g s2 w2) : Did w g s2 w2 := ⟨k.1, grown_tr h.2 k.2⟩
theorem Did.of_below {w w' : World} {g : Nat} {s : St} (h : PS w g s) (hb : Below w.heap.size w w') : Did w g s w' := ⟨h.below hb, below_grown hb _⟩
set_option maxHeartbeats 2000000 in
theorem accept_p (g : Nat) (s : St) (l : Bs) (w : World) (h : PS w g s) :
    Calls Tryd.prog 49 #[.pointer (some ⟨g, 0, none⟩), .string ⟨l.toArray⟩] w fun e w' => e = .returned (.bool (s.is l)) ∧ Did w g (s.acc l) w' := by
  have HP := Lib.hid h
  clear h
  cases hq : (s.nx.text == l)
  · have hn := hq
    have HI : Hid (s.is l = false ∧ s.acc l = s) := Lib.hid (by have e : s.is l = false := hq; exact ⟨e, by unfold St.acc; rw [e]; rfl⟩)
    clear hq
    go_enter Tryd.func49, Tryd.ntmps49
    go_wp2_with fail
    refine (next_p g s w HP.out).mono ?_
    rintro e w2 ⟨rfl, hb⟩
    have HP2 := Lib.hid (Did.of_below HP.out hb)
    clear hb
    simp only [tokV]
    have hf := field_text (s.nx.kind : Nat) (s.nx.line : Nat) (s.nx.col : Nat) ⟨s.nx.text.toArray⟩ w2
    go_wp2_with fail
    go_ret
    rw [HI.out.1, HI.out.2]
    exact ⟨rfl, HP2.out⟩
  · have hn := hq
    have HI : Hid (s.is l = true ∧ s.acc l = s.tk) := Lib.hid (by have e : s.is l = true := hq; exact ⟨e, by unfold St.acc; rw [e]; rfl⟩)
    clear hq
    go_enter Tryd.func49, Tryd.ntmps49
    go_wp2_with fail
    refine (next_p g s w HP.out).mono ?_
    rintro e w2 ⟨rfl, hb⟩
    have HP2 := Lib.hid (Did.of_below HP.out hb)
    clear hb
    simp only [tokV]
    have hf := field_text (s.nx.kind : Nat) (s.nx.line : Nat) (s.nx.col : Nat) ⟨s.nx.text.toArray⟩ w2
    go_wp2_with fail
    refine (take_p g s w2 HP2.out.1).mono ?_
    rintro e w3 ⟨rfl, hd⟩
    have HP3 := Lib.hid (HP2.out.trans hd)
    clear hd
    go_wp2_with fail
    go_ret
    rw [HI.out.1, HI.out.2]
    exact ⟨rfl, HP3.out⟩

/-- What keeps an error, beside the parser's block. -/
theorem PSA.fail {w' : World} {g b o c : Nat} {ev : Value} {s : St} {x : Option (Nat × Nat × Nat)} (hg : w'.heap[g]? = some (.cells #[.slice (some ⟨b, o + (s.rest.length - 1) * 4, none⟩) 1 (c - (s.rest.length - 1)), ev] 55 (0, 0))) (h2 : GoodL s.rest) (h3 : s.rest.length ≤ c) (h4 : c ≤ maxLen) (h5 : b < g) (h6 : b < w'.heap.size) (h7 : Toks w' b o s.rest) (h8 : ErrAt w' g ev x) : PSA w' g ⟨s.rest.drop (s.rest.length - 1), x⟩ := by
  obtain ⟨e, q1, q2, q3⟩ := h2.last
  have hl := List.length_pos_iff.2 h2.ne
  have hd := h7.drop (s.rest.length - 1)
  rw [Nat.mul_comm 4] at hd
  refine ⟨b, o + (s.rest.length - 1) * 4, c - (s.rest.length - 1), ev, ?_, ?_, ?_, Nat.le_trans (Nat.sub_le _ _) h4, h5, h6, hd, h8⟩
  · rw [hg]; simp only [List.length_drop]; rw [show s.rest.length - (s.rest.length - 1) = 1 by omega]
  · have := h2
    clear hg h7 hd h8 q1 q2 q3 h3 hl
    generalize s.rest = l at *
    induction l with
    | nil => exact absurd this id
    | cons t ts ih =>
      match ts, this, ih with
      | [], this, _ => exact this
      | u :: us, this, ih =>
        have := ih this.2.2 this.2.2
        simp only [List.length_cons, Nat.add_sub_cancel] at this ⊢
        rw [List.drop_succ_cons]; exact this
  · simp only [List.length_drop]; omega
set_option maxHeartbeats 4000000 in
theorem fail_yes (g : Nat) (s : St) (t : Tok) (ec : Nat) (w : World) (h : PS w g s) (he : s.err = none) :
    Calls Tryd.prog 16 #[.pointer (some ⟨g, 0, none⟩), tokV t, .iface 36 (.int .i64 (ec : Nat))] w fun e w' => (∃ v, e = .returned v) ∧ Did w g (s.fail t ec) w' := by
  have hl := List.length_pos_iff.2 h.good.ne
  have hlen2 := Lib.hid h.2
  simp only [tokV]
  obtain ⟨w1, hw⟩ : ∃ x, x = w.alloc (.cells #[.int .i64 (t.kind : Nat), .string ⟨t.text.toArray⟩, .int .i64 (t.line : Nat), .int .i64 (t.col : Nat)] 57) := ⟨_, rfl⟩
  have hb : Below w.heap.size w w1 := by rw [hw]; exact (Below.refl _ _).alloc (Nat.le_refl _) _
  have hk : w1.heap[w.heap.size]? = some (.cells #[.int .i64 (t.kind : Nat), .string ⟨t.text.toArray⟩, .int .i64 (t.line : Nat), .int .i64 (t.col : Nat)] 57 (0, 0)) := by rw [hw]; exact made_at w _ _ rfl
  have HW := Lib.hid hw
  obtain ⟨k1, hkk⟩ : ∃ k, k = w.heap.size := ⟨_, rfl⟩
  have HKK := Lib.hid hkk
  have hg1 : g < k1 := by rw [hkk]; exact h.lt
  have he1 : w.heap.size ≤ k1 := by omega
  rw [← hkk] at hk
  have HB1 := Lib.hid hk
  have HD := Lib.hid (below_grown hb (some g))
  have hsz := hb.size
  obtain ⟨b, o, c, ev, h1, h2, h3, h4, h5, -, -, -, -, h6, h7, h8, h9⟩ := (h.below hb).1.cells
  clear hw hb hk hkk h h2
  have hlen : s.rest.length ≤ 9223372036854775807 := by unfold maxLen at h4; omega
  have hcc : c ≤ 9223372036854775807 := by unfold maxLen at h4; omega
  obtain ⟨rest, err⟩ := s
  simp only at he hl hlen h1 h3 h7 h8 h9
  subst he
  have hev : ev = .nilIface := h9
  subst hev
  have p0 := cell_at (v := .slice (some ⟨b, o, none⟩) rest.length c) h1 0 rfl
  have p1 := cell_at (v := .nilIface) h1 1 rfl
  have fp0 := froz_at h1 0
  have fp1 := froz_at h1 1
  have HG := Lib.hid h1
  have HT := Lib.hid h8
  have HL := Lib.hid h7
  clear h1 h7 h8 h9
  have x0 := cell_at (v := .int .i64 (t.kind : Nat)) HB1.out 0 rfl
  have x1 := cell_at (v := .string ⟨t.text.toArray⟩) HB1.out 1 rfl
  have x2 := cell_at (v := .int .i64 (t.line : Nat)) HB1.out 2 rfl
  have x3 := cell_at (v := .int .i64 (t.col : Nat)) HB1.out 3 rfl
  generalize hn : rest.length = n at *
  have HN := Lib.hid hn
  clear hn
  go_enter Tryd.func16, Tryd.ntmps16
  go_upto_region 1 with fail
  rw [← HW.out, ← HKK.out]
  clear x0 x1 x2 x3
  obtain ⟨w2, hw2⟩ : ∃ x, x = w1.alloc (.cells #[.int .i64 (t.line : Nat), .int .i64 (t.col : Nat), .iface 36 (.int .i64 (ec : Nat))] 50) := ⟨_, rfl⟩
  have hb2 : Below w1.heap.size w1 w2 := by rw [hw2]; exact (Below.refl _ _).alloc (Nat.le_refl _) _
  have hq2 : w2.heap[w1.heap.size]? = some (.cells #[.int .i64 (t.line : Nat), .int .i64 (t.col : Nat), .iface 36 (.int .i64 (ec : Nat))] 50 (0, 0)) := by rw [hw2]; exact made_at w1 _ _ rfl
  have hg2 := (hb2.block _ (lt_of_block HG.out)).trans HG.out
  have h12 := (hb2.block _ (lt_of_block HB1.out)).trans HB1.out
  have y1 := cell_at (v := .nilIface) hg2 1 rfl
  have fy1 := froz_at hg2 1
  have y0 := cell_at (v := .slice (some ⟨b, o, none⟩) n c) hg2 0 rfl
  have x0 := cell_at (v := .int .i64 (t.kind : Nat)) HB1.out 0 rfl
  have x1 := cell_at (v := .string ⟨t.text.toArray⟩) HB1.out 1 rfl
  have x2 := cell_at (v := .int .i64 (t.line : Nat)) HB1.out 2 rfl
  have x3 := cell_at (v := .int .i64 (t.col : Nat)) HB1.out 3 rfl
  have hq : g < w1.heap.size := lt_of_block HG.out
  obtain ⟨q, hqq⟩ : ∃ q, q = w1.heap.size := ⟨_, rfl⟩
  have HQ := Lib.hid hq2
  have HG2 := Lib.hid hg2
  have HB2 := Lib.hid hb2
  have HW2 := Lib.hid hw2
  have HQQ := Lib.hid hqq
  have hgq : g < q := by rw [hqq]; exact hq
  rw [hw2] at y1 fy1 y0
  clear hb2 hq2 hg2 h12 hw2 hqq hq
  go_upto_region 3 with fail
  rw [← HW2.out, ← HQQ.out]
  obtain ⟨w3, hw⟩ : ∃ x, x = w2.setCell ⟨g, 1, none⟩ (.iface 45 (.pointer (some ⟨q, 0, none⟩))) := ⟨_, rfl⟩
  have hg : w2.grownBy w3 (some g) := by rw [hw]; exact grown_set _ g 1 _
  have hgb : w3.heap[g]? = some (.cells #[.slice (some ⟨b, o, none⟩) n c, .iface 45 (.pointer (some ⟨q, 0, none⟩))] 55 (0, 0)) := by rw [hw, heap_setCell_same _ g 1 _ _ _ HG2.out]; rfl
  have hD3 : w.grownBy w3 (some g) := grown_tr (grown_tr HD.out (below_grown HB2.out _)) hg
  have hq3 : AtB w3 q (t.line, t.col) (.iface 36 (.int .i64 (ec : Nat))) := by
    have := HQ.out
    rw [← HQQ.out] at this
    unfold AtB
    rw [hg.block q (lt_of_block this) (fun e => by injection e with e; omega)]; exact this
  have hT3 : Toks w3 b o rest := (HT.out.keep (w' := w3) ((hg.block b (Nat.lt_of_lt_of_le h6 HB2.out.size) (fun e => by injection e with e; omega)).trans (HB2.out.block b h6)))
  have hb3 : b < w3.heap.size := Nat.lt_of_lt_of_le (Nat.lt_of_lt_of_le h6 HB2.out.size) hg.size
  rw [← hw]
  have HG3 := Lib.hid hgb
  have HD3 := Lib.hid hD3
  have HQ3 := Lib.hid hq3
  have HT3 := Lib.hid hT3
  clear hw hg hgb hD3 hq3 hT3 y0 y1 fy1 x0 x1 x2 x3 p0 p1 fp0 fp1
  have p0 := cell_at (v := .slice (some ⟨b, o, none⟩) n c) HG3.out 0 rfl
  have fp0 := froz_at HG3.out 0
  have hi1 : IntKind.i64.wrap ((n : Int) - 1) = (n : Int) - 1 := IntWalk.i64_in _ (by omega)
  have hi2 : (1 : Int) ≤ (n : Int) := by omega
  have hi3 : ((n : Int) - 1).toNat = n - 1 := by omega
  have hi4 : ¬ (c = n - 1) := by omega
  have hi5 : n - 1 ≤ n := by omega
  have hi6 : n - 1 ≤ c := by omega
  have hi7 : (n : Int) - 1 ≤ (n : Int) := by omega
  have hi8 : n - (n - 1) = 1 := by omega
  go_still_tail 14, (by kernel_rfl)
  clear hi1 hi2 hi3 hi4 hi5 hi6 hi7 hi8
  change wpList _ _ _ _ _ w3.drew
  obtain ⟨w4, hw⟩ : ∃ x, x = w3.drew := ⟨_, rfl⟩
  have HG4 : Hid (w4.heap[g]? = some (.cells #[.slice (some ⟨b, o, none⟩) n c, .iface 45 (.pointer (some ⟨q, 0, none⟩))] 55 (0, 0))) := Lib.hid (by rw [hw]; exact HG3.out)
  have HT4 : Hid (Toks w4 b o rest) := Lib.hid (by rw [hw]; exact HT3.out.keep (w' := w3.drew) (by rfl))
  have HE4 := Lib.hid (ErrAt.keep (w' := w4) (show ErrAt w3 g _ (some (ec, t.line, t.col)) from ⟨q, rfl, HQ3.out, by omega⟩) fun _ _ _ => by rw [hw]; rfl)
  have HD4 : Hid (w.grownBy w4 (some g)) := Lib.hid (by rw [hw]; exact grown_drew HD3.out)
  have hb4 : b < w4.heap.size := by rw [hw]; exact hb3
  rw [← hw]
  have q0 := cell_at (v := .slice (some ⟨b, o, none⟩) n c) HG4.out 0 rfl
  have fq0 := froz_at HG4.out 0
  clear hw p0 fp0
  go_wp2_with fail
  go_end0
  refine ⟨⟨_, rfl⟩, ?_, grown_tr HD4.out (grown_set _ g 0 _)⟩
  have hgb : (w4.setCell ⟨g, 0, none⟩ (.slice (some ⟨b, o + (n - 1) * 4, none⟩) 1 (c - (n - 1)))).heap[g]? = some (.cells #[.slice (some ⟨b, o + (n - 1) * 4, none⟩) 1 (c - (n - 1)), .iface 45 (.pointer (some ⟨q, 0, none⟩))] 55 (0, 0)) := by rw [heap_setCell_same _ g 0 _ _ _ HG4.out]; rfl
  have hk : ∀ q, q ≠ g → (w4.setCell ⟨g, 0, none⟩ (.slice (some ⟨b, o + (n - 1) * 4, none⟩) 1 (c - (n - 1)))).heap[q]? = w4.heap[q]? := fun q h => set1_other _ _ _ _ h
  refine ⟨?_, Nat.le_trans (len_fail _ _ _) (show rest.length ≤ 30000 by rw [HN.out]; exact hlen2.out)⟩
  unfold St.fail
  refine PSA.fail (b := b) (o := o) (c := c) (by rw [HN.out]; exact hgb) HL.out (by rw [HN.out]; exact h3) h4 h5 (by simp; exact hb4) (HT4.out.keep (hk b (by omega))) ?_
  exact (HE4.out.keep fun q h _ => hk q h)
set_option maxHeartbeats 4000000 in
theorem fail_no (g : Nat) (s : St) (t : Tok) (ec : Nat) (w : World) (h : PS w g s) (he : s.err ≠ none) :
    Calls Tryd.prog 16 #[.pointer (some ⟨g, 0, none⟩), tokV t, .iface 36 (.int .i64 (ec : Nat))] w fun e w' => (∃ v, e = .returned v) ∧ Did w g (s.fail t ec) w' := by
  have hl := List.length_pos_iff.2 h.good.ne
  have hlen2 := Lib.hid h.2
  simp only [tokV]
  obtain ⟨w1, hw⟩ : ∃ x, x = w.alloc (.cells #[.int .i64 (t.kind : Nat), .string ⟨t.text.toArray⟩, .int .i64 (t.line : Nat), .int .i64 (t.col : Nat)] 57) := ⟨_, rfl⟩
  have hb : Below w.heap.size w w1 := by rw [hw]; exact (Below.refl _ _).alloc (Nat.le_refl _) _
  have hk : w1.heap[w.heap.size]? = some (.cells #[.int .i64 (t.kind : Nat), .string ⟨t.text.toArray⟩, .int .i64 (t.line : Nat), .int .i64 (t.col : Nat)] 57 (0, 0)) := by rw [hw]; exact made_at w _ _ rfl
  have HW := Lib.hid hw
  obtain ⟨k1, hkk⟩ : ∃ k, k = w.heap.size := ⟨_, rfl⟩
  have HKK := Lib.hid hkk
  have hg1 : g < k1 := by rw [hkk]; exact h.lt
  have he1 : w.heap.size ≤ k1 := by omega
  rw [← hkk] at hk
  have HB1 := Lib.hid hk
  have HD := Lib.hid (below_grown hb (some g))
  have hsz := hb.size
  obtain ⟨b, o, c, ev, h1, h2, h3, h4, h5, -, -, -, -, h6, h7, h8, h9⟩ := (h.below hb).1.cells
  clear hw hb hk hkk h h2
  have hlen : s.rest.length ≤ 9223372036854775807 := by unfold maxLen at h4; omega
  have hcc : c ≤ 9223372036854775807 := by unfold maxLen at h4; omega
  obtain ⟨rest, err⟩ := s
  simp only at he hl hlen h1 h3 h7 h8 h9
  obtain ⟨⟨xc, xl, xk⟩, rfl⟩ := Option.ne_none_iff_exists'.1 he
  have HE := Lib.hid h9
  obtain ⟨q, hq, -, -⟩ := h9
  subst hq
  have p0 := cell_at (v := .slice (some ⟨b, o, none⟩) rest.length c) h1 0 rfl
  have p1 := cell_at (v := .iface 45 (.pointer (some ⟨q, 0, none⟩))) h1 1 rfl
  have fp0 := froz_at h1 0
  have fp1 := froz_at h1 1
  have HG := Lib.hid h1
  have HT := Lib.hid h8
  have HL := Lib.hid h7
  clear h1 h7 h8 he
  have x0 := cell_at (v := .int .i64 (t.kind : Nat)) HB1.out 0 rfl
  have x1 := cell_at (v := .string ⟨t.text.toArray⟩) HB1.out 1 rfl
  have x2 := cell_at (v := .int .i64 (t.line : Nat)) HB1.out 2 rfl
  have x3 := cell_at (v := .int .i64 (t.col : Nat)) HB1.out 3 rfl
  generalize hn : rest.length = n at *
  have HN := Lib.hid hn
  clear hn
  go_enter Tryd.func16, Tryd.ntmps16
  go_upto_region 1 with fail
  rw [← HW.out, ← HKK.out]
  clear x0 x1 x2 x3
  have HG3 := HG
  have HD3 := HD
  have HT3 := HT
  have hb3 := h6
  obtain ⟨w3, hw3⟩ : ∃ x, x = w1 := ⟨_, rfl⟩
  go_upto_region 3 with fail
  rw [← hw3] at HG3 HD3 HT3 hb3 HE ⊢
  clear hw3 p0 p1 fp0 fp1
  have p0 := cell_at (v := .slice (some ⟨b, o, none⟩) n c) HG3.out 0 rfl
  have fp0 := froz_at HG3.out 0
  have hi1 : IntKind.i64.wrap ((n : Int) - 1) = (n : Int) - 1 := IntWalk.i64_in _ (by omega)
  have hi2 : (1 : Int) ≤ (n : Int) := by omega
  have hi3 : ((n : Int) - 1).toNat = n - 1 := by omega
  have hi4 : ¬ (c = n - 1) := by omega
  have hi5 : n - 1 ≤ n := by omega
  have hi6 : n - 1 ≤ c := by omega
  have hi7 : (n : Int) - 1 ≤ (n : Int) := by omega
  have hi8 : n - (n - 1) = 1 := by omega
  go_still_tail 14, (by kernel_rfl)
  clear hi1 hi2 hi3 hi4 hi5 hi6 hi7 hi8
  change wpList _ _ _ _ _ w3.drew
  obtain ⟨w4, hw⟩ : ∃ x, x = w3.drew := ⟨_, rfl⟩
  have HG4 : Hid (w4.heap[g]? = some (.cells #[.slice (some ⟨b, o, none⟩) n c, .iface 45 (.pointer (some ⟨q, 0, none⟩))] 55 (0, 0))) := Lib.hid (by rw [hw]; exact HG3.out)
  have HT4 : Hid (Toks w4 b o rest) := Lib.hid (by rw [hw]; exact HT3.out.keep (w' := w3.drew) (by rfl))
  have HE4 := Lib.hid (ErrAt.keep (w' := w4) (HE.out) fun _ _ _ => by rw [hw]; rfl)
  have HD4 : Hid (w.grownBy w4 (some g)) := Lib.hid (by rw [hw]; exact grown_drew HD3.out)
  have hb4 : b < w4.heap.size := by rw [hw]; exact hb3
  rw [← hw]
  have q0 := cell_at (v := .slice (some ⟨b, o, none⟩) n c) HG4.out 0 rfl
  have fq0 := froz_at HG4.out 0
  clear hw p0 fp0
  go_wp2_with fail
  go_end0
  refine ⟨⟨_, rfl⟩, ?_, grown_tr HD4.out (grown_set _ g 0 _)⟩
  have hgb : (w4.setCell ⟨g, 0, none⟩ (.slice (some ⟨b, o + (n - 1) * 4, none⟩) 1 (c - (n - 1)))).heap[g]? = some (.cells #[.slice (some ⟨b, o + (n - 1) * 4, none⟩) 1 (c - (n - 1)), .iface 45 (.pointer (some ⟨q, 0, none⟩))] 55 (0, 0)) := by rw [heap_setCell_same _ g 0 _ _ _ HG4.out]; rfl
  have hk : ∀ q, q ≠ g → (w4.setCell ⟨g, 0, none⟩ (.slice (some ⟨b, o + (n - 1) * 4, none⟩) 1 (c - (n - 1)))).heap[q]? = w4.heap[q]? := fun q h => set1_other _ _ _ _ h
  refine ⟨?_, Nat.le_trans (len_fail _ _ _) (show rest.length ≤ 30000 by rw [HN.out]; exact hlen2.out)⟩
  unfold St.fail
  refine PSA.fail (b := b) (o := o) (c := c) (by rw [HN.out]; exact hgb) HL.out (by rw [HN.out]; exact h3) h4 h5 (by simp; exact hb4) (HT4.out.keep (hk b (by omega))) ?_
  exact (HE4.out.keep fun q h _ => hk q h)

theorem fail_p (g : Nat) (s : St) (t : Tok) (ec : Nat) (w : World) (h : PS w g s) :
    Calls Tryd.prog 16 #[.pointer (some ⟨g, 0, none⟩), tokV t, .iface 36 (.int .i64 (ec : Nat))] w fun e w' => (∃ v, e = .returned v) ∧ Did w g (s.fail t ec) w' := by
  by_cases he : s.err = none
  · exact fail_yes g s t ec w h he
  · exact fail_no g s t ec w h he

set_option maxHeartbeats 4000000 in
theorem name_p (g : Nat) (s : St) (w : World) (h : PS w g s) :
    Calls Tryd.prog 37 #[.pointer (some ⟨g, 0, none⟩)] w fun e w' => e = .returned (tokV s.nx) ∧ Did w g s.name w' := by
  have HP := Lib.hid h
  clear h
  by_cases hk : s.nx.kind = 0
  · have hk0 : ((s.nx.kind : Int) != 0) = false := by simp; omega
    have HY : Hid (s.name = s.tk) := Lib.hid (by unfold St.name; rw [if_pos hk])
    clear hk
    go_enter Tryd.func37, Tryd.ntmps37
    go_upto_region 1 with fail
    obtain ⟨w1, hw⟩ : ∃ x, x = w.alloc (.cells #[.int .i64 0, .string ⟨#[]⟩, .int .i64 0, .int .i64 0] 57) := ⟨_, rfl⟩
    have hb : Below w.heap.size w w1 := by rw [hw]; exact (Below.refl _ _).alloc (Nat.le_refl _) _
    have hk : w1.heap[w.heap.size]? = some (.cells #[.int .i64 0, .string ⟨#[]⟩, .int .i64 0, .int .i64 0] 57 (0, 0)) := by rw [hw]; exact made_at w _ _ rfl
    rw [← hw]
    obtain ⟨kr, hkk⟩ : ∃ k, k = w.heap.size := ⟨_, rfl⟩
    have hgr : g < kr := by rw [hkk]; exact HP.out.lt
    have her : w.heap.size ≤ kr := by omega
    rw [← hkk] at hk ⊢
    replace HP := Lib.hid (HP.out.below hb)
    have HD := Lib.hid (below_grown hb (some g))
    have hsz1 := HD.out.size
    have HBr := Lib.hid hk
    clear hw hb hk hkk
    go_wp2_with fail
    refine (take_p g s w1 HP.out).mono ?_
    rintro e w2 ⟨rfl, hp, hg⟩
    replace HBr := Lib.hid ((hg.block _ (lt_of_block HBr.out) (fun e => by injection e with e; omega)).trans HBr.out)
    replace HP := Lib.hid hp
    replace HD := Lib.hid (grown_tr HD.out (hg))
    have hsz2 := HD.out.size
    clear hp hg
    simp only [tokV]
    generalize hnx : s.nx = t at *
    have HN := Lib.hid hnx
    clear hnx
    go_upto_region 2 with fail
    obtain ⟨w3, hw⟩ : ∃ x, x = w2.alloc (.cells #[.int .i64 (t.kind : Nat), .string ⟨t.text.toArray⟩, .int .i64 (t.line : Nat), .int .i64 (t.col : Nat)] 57) := ⟨_, rfl⟩
    have hb : Below w2.heap.size w2 w3 := by rw [hw]; exact (Below.refl _ _).alloc (Nat.le_refl _) _
    have hk : w3.heap[w2.heap.size]? = some (.cells #[.int .i64 (t.kind : Nat), .string ⟨t.text.toArray⟩, .int .i64 (t.line : Nat), .int .i64 (t.col : Nat)] 57 (0, 0)) := by rw [hw]; exact made_at w2 _ _ rfl
    rw [← hw]
    obtain ⟨kt, hkk⟩ : ∃ k, k = w2.heap.size := ⟨_, rfl⟩
    have hgt : g < kt := by rw [hkk]; exact HP.out.lt
    have het : w.heap.size ≤ kt := by omega
    have hr_t : kr < kt := by rw [hkk]; exact lt_of_block HBr.out
    rw [← hkk] at hk ⊢
    replace HBr := Lib.hid ((hb.block _ (lt_of_block HBr.out)).trans HBr.out)
    replace HP := Lib.hid (HP.out.below hb)
    replace HD := Lib.hid (grown_tr HD.out (below_grown hb (some g)))
    have hsz3 := HD.out.size
    have HBt := Lib.hid hk
    clear hw hb hk hkk
    have x0 := cell_at (v := .int .i64 (t.kind : Nat)) HBt.out 0 rfl
    have x1 := cell_at (v := .string ⟨t.text.toArray⟩) HBt.out 1 rfl
    have x2 := cell_at (v := .int .i64 (t.line : Nat)) HBt.out 2 rfl
    have x3 := cell_at (v := .int .i64 (t.col : Nat)) HBt.out 3 rfl
    have z0 := cell_at (v := .int .i64 0) HBr.out 0 rfl
    have fz0 := froz_at HBr.out 0
    have z1 := cell_at (v := .string ⟨#[]⟩) HBr.out 1 rfl
    have fz1 := froz_at HBr.out 1
    have z2 := cell_at (v := .int .i64 0) HBr.out 2 rfl
    have fz2 := froz_at HBr.out 2
    have z3 := cell_at (v := .int .i64 0) HBr.out 3 rfl
    have fz3 := froz_at HBr.out 3
    go_wp2_with fail
    refine bodyPost_ret (v := .agg #[.int .i64 (t.kind : Nat), .string ⟨t.text.toArray⟩, .int .i64 (t.line : Nat), .int .i64 (t.col : Nat)]) (by simp [results, Tryd.results37, go_sem, z0, z1, z2, z3]) rfl ⟨by rw [HN.out]; rfl, ?_, ?_⟩
    · rw [HY.out]; exact HP.out.store HBr.out (by decide) hgr (grown4 _ _ _ _ _ _)
    · exact grown_new HD.out (grown4 _ _ _ _ _ _) her
  · have hk0 : ((s.nx.kind : Int) != 0) = true := by simp; omega
    have HY : Hid (s.name = s.tk.fail s.nx 1) := Lib.hid (by unfold St.name; rw [if_neg hk])
    clear hk
    go_enter Tryd.func37, Tryd.ntmps37
    go_upto_region 1 with fail
    obtain ⟨w1, hw⟩ : ∃ x, x = w.alloc (.cells #[.int .i64 0, .string ⟨#[]⟩, .int .i64 0, .int .i64 0] 57) := ⟨_, rfl⟩
    have hb : Below w.heap.size w w1 := by rw [hw]; exact (Below.refl _ _).alloc (Nat.le_refl _) _
    have hk : w1.heap[w.heap.size]? = some (.cells #[.int .i64 0, .string ⟨#[]⟩, .int .i64 0, .int .i64 0] 57 (0, 0)) := by rw [hw]; exact made_at w _ _ rfl
    rw [← hw]
    obtain ⟨kr, hkk⟩ : ∃ k, k = w.heap.size := ⟨_, rfl⟩
    have hgr : g < kr := by rw [hkk]; exact HP.out.lt
    have her : w.heap.size ≤ kr := by omega
    rw [← hkk] at hk ⊢
    replace HP := Lib.hid (HP.out.below hb)
    have HD := Lib.hid (below_grown hb (some g))
    have hsz1 := HD.out.size
    have HBr := Lib.hid hk
    clear hw hb hk hkk
    go_wp2_with fail
    refine (take_p g s w1 HP.out).mono ?_
    rintro e w2 ⟨rfl, hp, hg⟩
    replace HBr := Lib.hid ((hg.block _ (lt_of_block HBr.out) (fun e => by injection e with e; omega)).trans HBr.out)
    replace HP := Lib.hid hp
    replace HD := Lib.hid (grown_tr HD.out (hg))
    have hsz2 := HD.out.size
    clear hp hg
    simp only [tokV]
    generalize hnx : s.nx = t at *
    have HN := Lib.hid hnx
    clear hnx
    go_upto_region 2 with fail
    obtain ⟨w3, hw⟩ : ∃ x, x = w2.alloc (.cells #[.int .i64 (t.kind : Nat), .string ⟨t.text.toArray⟩, .int .i64 (t.line : Nat), .int .i64 (t.col : Nat)] 57) := ⟨_, rfl⟩
    have hb : Below w2.heap.size w2 w3 := by rw [hw]; exact (Below.refl _ _).alloc (Nat.le_refl _) _
    have hk : w3.heap[w2.heap.size]? = some (.cells #[.int .i64 (t.kind : Nat), .string ⟨t.text.toArray⟩, .int .i64 (t.line : Nat), .int .i64 (t.col : Nat)] 57 (0, 0)) := by rw [hw]; exact made_at w2 _ _ rfl
    rw [← hw]
    obtain ⟨kt, hkk⟩ : ∃ k, k = w2.heap.size := ⟨_, rfl⟩
    have hgt : g < kt := by rw [hkk]; exact HP.out.lt
    have het : w.heap.size ≤ kt := by omega
    have hr_t : kr < kt := by rw [hkk]; exact lt_of_block HBr.out
    rw [← hkk] at hk ⊢
    replace HBr := Lib.hid ((hb.block _ (lt_of_block HBr.out)).trans HBr.out)
    replace HP := Lib.hid (HP.out.below hb)
    replace HD := Lib.hid (grown_tr HD.out (below_grown hb (some g)))
    have hsz3 := HD.out.size
    have HBt := Lib.hid hk
    clear hw hb hk hkk
    have x0 := cell_at (v := .int .i64 (t.kind : Nat)) HBt.out 0 rfl
    have x1 := cell_at (v := .string ⟨t.text.toArray⟩) HBt.out 1 rfl
    have x2 := cell_at (v := .int .i64 (t.line : Nat)) HBt.out 2 rfl
    have x3 := cell_at (v := .int .i64 (t.col : Nat)) HBt.out 3 rfl
    go_wp2_with fail
    have hp0 := fail_p g s.tk t 1 w3 HP.out
    simp only [tokV] at hp0
    refine (hp0).mono ?_
    rintro e w4 ⟨⟨v, rfl⟩, hp, hg⟩
    clear x0 x1 x2 x3
    replace HBr := Lib.hid ((hg.block _ (lt_of_block HBr.out) (fun e => by injection e with e; omega)).trans HBr.out)
    replace HBt := Lib.hid ((hg.block _ (lt_of_block HBt.out) (fun e => by injection e with e; omega)).trans HBt.out)
    replace HP := Lib.hid hp
    replace HD := Lib.hid (grown_tr HD.out (hg))
    have hsz4 := HD.out.size
    clear hp hg
    clear hp0
    have x0 := cell_at (v := .int .i64 (t.kind : Nat)) HBt.out 0 rfl
    have x1 := cell_at (v := .string ⟨t.text.toArray⟩) HBt.out 1 rfl
    have x2 := cell_at (v := .int .i64 (t.line : Nat)) HBt.out 2 rfl
    have x3 := cell_at (v := .int .i64 (t.col : Nat)) HBt.out 3 rfl
    have z0 := cell_at (v := .int .i64 0) HBr.out 0 rfl
    have fz0 := froz_at HBr.out 0
    have z1 := cell_at (v := .string ⟨#[]⟩) HBr.out 1 rfl
    have fz1 := froz_at HBr.out 1
    have z2 := cell_at (v := .int .i64 0) HBr.out 2 rfl
    have fz2 := froz_at HBr.out 2
    have z3 := cell_at (v := .int .i64 0) HBr.out 3 rfl
    have fz3 := froz_at HBr.out 3
    go_wp2_with fail
    refine bodyPost_ret (v := .agg #[.int .i64 (t.kind : Nat), .string ⟨t.text.toArray⟩, .int .i64 (t.line : Nat), .int .i64 (t.col : Nat)]) (by simp [results, Tryd.results37, go_sem, z0, z1, z2, z3]) rfl ⟨by rw [HN.out]; rfl, ?_, ?_⟩
    · rw [HY.out]; exact HP.out.store HBr.out (by decide) hgr (grown4 _ _ _ _ _ _)
    · exact grown_new HD.out (grown4 _ _ _ _ _ _) her

set_option maxHeartbeats 4000000 in
theorem finish_p (g : Nat) (s : St) (w : World) (h : PS w g s) :
    Calls Tryd.prog 10 #[.pointer (some ⟨g, 0, none⟩)] w fun e w' => ∃ ev, e = .returned ev ∧ ErrAt w' g ev s.fin.err ∧ Did w g s.fin w' := by
  have HP := Lib.hid h
  clear h
  by_cases hk : s.nx.kind = 4
  · have hk0 : ((s.nx.kind : Int) != 4) = false := by simp; omega
    have HY : Hid (s.fin = s) := Lib.hid (by unfold St.fin; rw [if_pos hk])
    clear hk
    go_enter Tryd.func10, Tryd.ntmps10
    go_wp2_with fail
    refine (next_p g s w HP.out).mono ?_
    rintro e w1 ⟨rfl, hb⟩
    replace HP := Lib.hid (HP.out.below hb)
    have HD := Lib.hid (below_grown hb (some g))
    have hsz1 := HD.out.size
    clear hb
    simp only [tokV]
    generalize hnx : s.nx = t at *
    have HN := Lib.hid hnx
    clear hnx
    go_upto_region 2 with fail
    obtain ⟨w2, hw⟩ : ∃ x, x = w1.alloc (.cells #[.int .i64 (t.kind : Nat), .string ⟨t.text.toArray⟩, .int .i64 (t.line : Nat), .int .i64 (t.col : Nat)] 57) := ⟨_, rfl⟩
    have hb : Below w1.heap.size w1 w2 := by rw [hw]; exact (Below.refl _ _).alloc (Nat.le_refl _) _
    have hk : w2.heap[w1.heap.size]? = some (.cells #[.int .i64 (t.kind : Nat), .string ⟨t.text.toArray⟩, .int .i64 (t.line : Nat), .int .i64 (t.col : Nat)] 57 (0, 0)) := by rw [hw]; exact made_at w1 _ _ rfl
    rw [← hw]
    obtain ⟨kt, hkk⟩ : ∃ k, k = w1.heap.size := ⟨_, rfl⟩
    have hgt : g < kt := by rw [hkk]; exact HP.out.lt
    have het : w.heap.size ≤ kt := by omega
    rw [← hkk] at hk ⊢
    replace HP := Lib.hid (HP.out.below hb)
    replace HD := Lib.hid (grown_tr HD.out (below_grown hb (some g)))
    have hsz2 := HD.out.size
    have HBt := Lib.hid hk
    clear hw hb hk hkk
    have x0 := cell_at (v := .int .i64 (t.kind : Nat)) HBt.out 0 rfl
    have x1 := cell_at (v := .string ⟨t.text.toArray⟩) HBt.out 1 rfl
    have x2 := cell_at (v := .int .i64 (t.line : Nat)) HBt.out 2 rfl
    have x3 := cell_at (v := .int .i64 (t.col : Nat)) HBt.out 3 rfl
    obtain ⟨b, o, c, ev, h1, h2, h3, h4, h5, -, -, -, -, h6, h7, h8, h9⟩ := HP.out.1.cells
    have p1 := cell_at (v := ev) h1 1 rfl
    have HE := Lib.hid h9
    clear h1 h7 h8 h9
    go_wp2_with fail
    go_ret
    refine ⟨ev, rfl, ?_, ?_, HD.out⟩
    · rw [HY.out]; exact HE.out
    · rw [HY.out]; exact HP.out
  · have hk0 : ((s.nx.kind : Int) != 4) = true := by simp; omega
    have HY : Hid (s.fin = s.fail s.nx 1) := Lib.hid (by unfold St.fin; rw [if_neg hk])
    clear hk
    go_enter Tryd.func10, Tryd.ntmps10
    go_wp2_with fail
    refine (next_p g s w HP.out).mono ?_
    rintro e w1 ⟨rfl, hb⟩
    replace HP := Lib.hid (HP.out.below hb)
    have HD := Lib.hid (below_grown hb (some g))
    have hsz1 := HD.out.size
    clear hb
    simp only [tokV]
    generalize hnx : s.nx = t at *
    have HN := Lib.hid hnx
    clear hnx
    go_upto_region 2 with fail
    obtain ⟨w2, hw⟩ : ∃ x, x = w1.alloc (.cells #[.int .i64 (t.kind : Nat), .string ⟨t.text.toArray⟩, .int .i64 (t.line : Nat), .int .i64 (t.col : Nat)] 57) := ⟨_, rfl⟩
    have hb : Below w1.heap.size w1 w2 := by rw [hw]; exact (Below.refl _ _).alloc (Nat.le_refl _) _
    have hk : w2.heap[w1.heap.size]? = some (.cells #[.int .i64 (t.kind : Nat), .string ⟨t.text.toArray⟩, .int .i64 (t.line : Nat), .int .i64 (t.col : Nat)] 57 (0, 0)) := by rw [hw]; exact made_at w1 _ _ rfl
    rw [← hw]
    obtain ⟨kt, hkk⟩ : ∃ k, k = w1.heap.size := ⟨_, rfl⟩
    have hgt : g < kt := by rw [hkk]; exact HP.out.lt
    have het : w.heap.size ≤ kt := by omega
    rw [← hkk] at hk ⊢
    replace HP := Lib.hid (HP.out.below hb)
    replace HD := Lib.hid (grown_tr HD.out (below_grown hb (some g)))
    have hsz2 := HD.out.size
    have HBt := Lib.hid hk
    clear hw hb hk hkk
    have x0 := cell_at (v := .int .i64 (t.kind : Nat)) HBt.out 0 rfl
    have x1 := cell_at (v := .string ⟨t.text.toArray⟩) HBt.out 1 rfl
    have x2 := cell_at (v := .int .i64 (t.line : Nat)) HBt.out 2 rfl
    have x3 := cell_at (v := .int .i64 (t.col : Nat)) HBt.out 3 rfl
    go_wp2_with fail
    have hp0 := fail_p g s t 1 w2 HP.out
    simp only [tokV] at hp0
    refine (hp0).mono ?_
    rintro e w3 ⟨⟨v, rfl⟩, hp, hg⟩
    clear x0 x1 x2 x3
    replace HBt := Lib.hid ((hg.block _ (lt_of_block HBt.out) (fun e => by injection e with e; omega)).trans HBt.out)
    replace HP := Lib.hid hp
    replace HD := Lib.hid (grown_tr HD.out (hg))
    have hsz3 := HD.out.size
    clear hp hg
    clear hp0
    obtain ⟨b, o, c, ev, h1, h2, h3, h4, h5, -, -, -, -, h6, h7, h8, h9⟩ := HP.out.1.cells
    have p1 := cell_at (v := ev) h1 1 rfl
    have HE := Lib.hid h9
    clear h1 h7 h8 h9
    go_wp2_with fail
    go_ret
    refine ⟨ev, rfl, ?_, ?_, HD.out⟩
    · rw [HY.out]; exact HE.out
    · rw [HY.out]; exact HP.out

theorem exps_take (s : St) (ws : List Bs) (j : Nat) (h : j < ws.length) : s.exps (ws.take (j + 1)) = (s.exps (ws.take j)).exp ws[j] := by
  unfold St.exps; rw [List.take_succ_eq_append_getElem h, List.foldl_append]; rfl
set_option maxHeartbeats 4000000 in
theorem expect_p (g : Nat) (s : St) (ws : List Bs) (q : Nat) (w : World) (h : PS w g s) (hq : w.heap[q]? = some (.cells (ws.map fun b => Value.string ⟨b.toArray⟩).toArray 9 (0, 0))) (hgq : g ≠ q) (hl : ws.length ≤ 1000) :
    Calls Tryd.prog 38 #[.pointer (some ⟨g, 0, none⟩), .slice (some ⟨q, 0, none⟩) ws.length ws.length] w fun e w' => (∃ v, e = .returned v) ∧ Did w g (s.exps ws) w' := by
  have HP := Lib.hid h
  have HQ := Lib.hid hq
  clear h hq
  generalize hn : ws.length = n at *
  have HN := Lib.hid hn
  clear hn
  go_enter Tryd.func38, Tryd.ntmps38
  go_wp2_with fail
  go_loopw [8] (fun i wr => ∃ j : Nat, i = .int .i64 (j : Nat) ∧ j ≤ n ∧ Hid (Did w g (s.exps (ws.take j)) wr)) (fun i _ => n - (intOf i).toNat)
  case atStart => exact ⟨0, rfl, Nat.zero_le _, Lib.hid ⟨HP.out, World.grownBy.refl _ _⟩⟩
  case round =>
    obtain ⟨j, rfl, hj, HDj⟩ := hrel
    by_cases hlt : j < n
    · have hjl : j < ws.length := by rw [HN.out]; exact hlt
      have hc := cell_at (v := .string ⟨(ws[j]).toArray⟩) (((HDj.out.2.block q (lt_of_block HQ.out) (fun e => by injection e with e; exact hgq e.symm)).trans HQ.out)) j (by simp [hjl])
      have HS := Lib.hid (exps_take s ws j hjl)
      obtain ⟨l, hL⟩ : ∃ l, l = ws[j] := ⟨_, rfl⟩
      rw [← hL] at HS hc
      clear hL
      obtain ⟨sj, hsj⟩ : ∃ sj, sj = s.exps (ws.take j) := ⟨_, rfl⟩
      rw [← hsj] at HDj HS
      clear hsj
      go_wp2_with fail
      refine (accept_p g sj l wr HDj.out.1).mono ?_
      rintro e w2 ⟨rfl, hd⟩
      have HD2 := Lib.hid (HDj.out.trans hd)
      clear hd hc
      cases hi : sj.is l
      · have HX : Hid (sj.exp l = sj.fail sj.nx 1 ∧ sj.acc l = sj) := Lib.hid (by unfold St.exp St.acc; rw [hi]; exact ⟨rfl, rfl⟩)
        rw [HX.out.2] at HD2
        clear hi
        go_wp2_with fail
        refine (next_p g sj w2 HD2.out.1).mono ?_
        rintro e w3 ⟨rfl, hb⟩
        have HD3 := Lib.hid (HD2.out.trans (Did.of_below HD2.out.1 hb))
        clear hb
        go_wp2_with fail
        refine (fail_p g sj sj.nx 1 w3 HD3.out.1).mono ?_
        rintro e w4 ⟨⟨v, rfl⟩, hd⟩
        have HD4 := Lib.hid (HD3.out.trans hd)
        clear hd
        go_wp2_with fail
        go_roundw
        case rel => exact ⟨j + 1, by go_num, by omega, Lib.hid (by rw [HS.out, HX.out.1]; exact HD4.out)⟩
        case measure => simp [intOf]; omega
      · have HX : Hid (sj.exp l = sj.tk ∧ sj.acc l = sj.tk) := Lib.hid (by unfold St.exp St.acc; rw [hi]; exact ⟨rfl, rfl⟩)
        rw [HX.out.2] at HD2
        clear hi
        go_wp2_with fail
        go_roundw
        case rel => exact ⟨j + 1, by go_num, by omega, Lib.hid (by rw [HS.out, HX.out.1]; exact HD2.out)⟩
        case measure => simp [intOf]; omega
    · have e : j = n := by omega
      subst e
      go_wp2_with fail
      go_end0
      refine ⟨⟨_, rfl⟩, ?_⟩
      have := HDj.out
      rw [← HN.out, List.take_length] at this
      exact this

set_option maxHeartbeats 2000000 in
theorem part_p (k : Nat) (t : Tok) (ko : Option Addr) (n c : Nat) (w : World) :
    Calls Tryd.prog 39 #[.int .i64 (k : Nat), tokV t, .slice ko n c] w fun e w' => e = .returned (xv ⟨(k : Nat), ⟨#[]⟩, ⟨#[]⟩, false, none, 0, 0, ko, n, c, (t.line : Nat), (t.col : Nat)⟩) ∧ Below w.heap.size w w' := by
  simp only [tokV, xv]
  go_enter Tryd.func39, Tryd.ntmps39
  go_wp2
  exact bodyPost_ret (v := .agg #[.int .i64 (k : Nat), .string ⟨#[]⟩, .string ⟨#[]⟩, .bool false, .slice none 0 0, .slice ko n c, .int .i64 (t.line : Nat), .int .i64 (t.col : Nat)]) (by simp [results, Tryd.results39, go_sem]) rfl ⟨rfl, ((Below.refl _ _).alloc (Nat.le_refl _) _).alloc (by simp) _⟩
end Go.Proofs.YtdpfgfkoboihcaaDoor
