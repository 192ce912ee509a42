/-
  How the parser of package parse lies in memory: its tokens, its error; a tree with places. The contracts of its plainest calls: next, take, accept, fail, name, expect, finish.
-/
import Derived.Test.YtdpfgfkoboihcaaDoorPsE
import Derived.Test.YtdpfgfkoboihcaaDoorPsU
import Derived.StillTailTactics
import Derived.Test.YtdpfgfkoboihcaaDoorLxD
import Derived.Test.YtdpfgfkoboihcaaDoorTrG
namespace Go.Proofs.YtdpfgfkoboihcaaDoor
open Go.RowKit
set_option maxRecDepth 100000
set_option linter.unusedVariables false

def tokV (t : Tok) : Value := .agg #[.int .i64 (t.kind : Nat), .string ⟨t.text.toArray⟩, .int .i64 (t.line : Nat), .int .i64 (t.col : Nat)]
/-- The tokens l lie in block b from cell o on. -/
def Toks (w : World) (b : Nat) : Nat → List Tok → Prop
  | _, [] => True
  | o, t :: ts => (w.cell? ⟨b, o, none⟩ = some (.int .i64 (t.kind : Nat)) ∧ w.cell? ⟨b, o + 1, none⟩ = some (.string ⟨t.text.toArray⟩) ∧ w.cell? ⟨b, o + 2, none⟩ = some (.int .i64 (t.line : Nat)) ∧ w.cell? ⟨b, o + 3, none⟩ = some (.int .i64 (t.col : Nat))) ∧ Toks w b (o + 4) ts
theorem Toks.keep {w w' : World} {b : Nat} (hk : w'.heap[b]? = w.heap[b]?) : ∀ {o : Nat} {l : List Tok}, Toks w b o l → Toks w' b o l
  | _, [], _ => trivial
  | o, t :: ts, ⟨⟨h0, h1, h2, h3⟩, h⟩ => by
    have e : ∀ i, w'.cell? ⟨b, i, none⟩ = w.cell? ⟨b, i, none⟩ := fun i => World.cell?_of_block hk
    exact ⟨⟨by rw [e]; exact h0, by rw [e]; exact h1, by rw [e]; exact h2, by rw [e]; exact h3⟩, h.keep hk⟩
theorem Toks.drop {w : World} {b : Nat} : ∀ {o : Nat} {l : List Tok} (n : Nat), Toks w b o l → Toks w b (o + 4 * n) (l.drop n)
  | o, l, 0, h => h
  | o, [], n + 1, h => by simp [Toks]
  | o, t :: ts, n + 1, h => by
    have := Toks.drop n h.2
    rw [show o + 4 * (n + 1) = o + 4 + 4 * n by omega]; exact this
/-- The error that is kept. -/
def ErrAt (w : World) (g : Nat) (v : Value) : Option (Nat × Nat × Nat) → Prop
  | none => v = .nilIface
  | some (c, l, k) => ∃ q, v = .iface 45 (.pointer (some ⟨q, 0, none⟩)) ∧ AtB w q (l, k) (.iface 36 (.int .i64 (c : Nat))) ∧ q ≠ g
/-- Block g is a parser in the state s. -/
def PSA (w : World) (g : Nat) (s : St) : Prop := ∃ b o c ev, w.heap[g]? = some (.cells #[.slice (some ⟨b, o, none⟩) s.rest.length c, ev] 55 (0, 0)) ∧ GoodL s.rest ∧ s.rest.length ≤ c ∧ c ≤ maxLen ∧ b < g ∧ b < w.heap.size ∧ Toks w b o s.rest ∧ ErrAt w g ev s.err

theorem ErrAt.keep {w w' : World} {g : Nat} {v : Value} {x : Option (Nat × Nat × Nat)} (h : ErrAt w g v x) (hk : ∀ q, q ≠ g → q < w.heap.size → w'.heap[q]? = w.heap[q]?) : ErrAt w' g v x := by
  match x, h with
  | none, h => exact h
  | some (c, l, k), h =>
    obtain ⟨q, h1, h2, h3⟩ := h
    refine ⟨q, h1, ?_, h3⟩
    unfold AtB at h2 ⊢
    rw [hk q h3 (lt_of_block h2)]; exact h2
theorem PSA.lt {w : World} {g : Nat} {s : St} (h : PSA w g s) : g < w.heap.size := by obtain ⟨b, o, c, ev, h, -⟩ := h; exact lt_of_block h
theorem PSA.below {w w' : World} {g : Nat} {s : St} (h : PSA w g s) (hb : Below w.heap.size w w') : PSA w' g s := by
  obtain ⟨b, o, c, ev, h1, h2, h3, h4, h5, h6, h7, h8⟩ := h
  exact ⟨b, o, c, ev, by rw [hb.block _ (lt_of_block h1)]; exact h1, h2, h3, h4, h5, Nat.lt_of_lt_of_le h6 hb.size, h7.keep (hb.block _ h6), h8.keep fun q _ hq => hb.block _ hq⟩
theorem PSA.good {w : World} {g : Nat} {s : St} (h : PSA w g s) : GoodL s.rest := by obtain ⟨b, o, c, ev, h1, h2, -⟩ := h; exact h2
/-- Its cells, as the walk meets them. -/
theorem PSA.cells {w : World} {g : Nat} {s : St} (h : PSA w g s) : ∃ b o c ev, w.heap[g]? = some (.cells #[.slice (some ⟨b, o, none⟩) s.rest.length c, ev] 55 (0, 0)) ∧ 1 ≤ s.rest.length ∧ s.rest.length ≤ c ∧ c ≤ maxLen ∧ b < g ∧
    w.cell? ⟨b, o, none⟩ = some (.int .i64 (s.nx.kind : Nat)) ∧ w.cell? ⟨b, o + 1, none⟩ = some (.string ⟨s.nx.text.toArray⟩) ∧ w.cell? ⟨b, o + 2, none⟩ = some (.int .i64 (s.nx.line : Nat)) ∧ w.cell? ⟨b, o + 3, none⟩ = some (.int .i64 (s.nx.col : Nat)) ∧
    b < w.heap.size ∧ GoodL s.rest ∧ Toks w b o s.rest ∧ ErrAt w g ev s.err := by
  obtain ⟨b, o, c, ev, h1, h2, h3, h4, h5, h6, h7, h8⟩ := h
  refine ⟨b, o, c, ev, h1, List.length_pos_iff.2 h2.ne, h3, h4, h5, ?_⟩
  unfold St.nx
  obtain ⟨rest, err⟩ := s
  simp only at h2 h7 h8 ⊢
  match rest, h2, h7 with
  | t :: ts, h2, h7 => exact ⟨h7.1.1, h7.1.2.1, h7.1.2.2.1, h7.1.2.2.2, h6, h2, h7, h8⟩

/-- Block g is a parser in the state s, with no more tokens than a source has. -/
def PS (w : World) (g : Nat) (s : St) : Prop := PSA w g s ∧ s.rest.length ≤ 30000
theorem PS.lt {w : World} {g : Nat} {s : St} (h : PS w g s) : g < w.heap.size := h.1.lt
theorem PS.below {w w' : World} {g : Nat} {s : St} (h : PS w g s) (hb : Below w.heap.size w w') : PS w' g s := ⟨h.1.below hb, h.2⟩
theorem PS.good {w : World} {g : Nat} {s : St} (h : PS w g s) : GoodL s.rest := h.1.good
theorem len_tk (s : St) : s.tk.rest.length ≤ s.rest.length := by unfold St.tk; split <;> simp
theorem len_fail (s : St) (t : Tok) (c : Nat) : (s.fail t c).rest.length ≤ s.rest.length := by unfold St.fail; simp
set_option maxHeartbeats 1000000 in
theorem next_p (g : Nat) (s : St) (w : World) (h : PS w g s) :
    Calls Tryd.prog 14 #[.pointer (some ⟨g, 0, none⟩)] w fun e w' => e = .returned (tokV s.nx) ∧ Below w.heap.size w w' := by
  obtain ⟨b, o, c, ev, h1, h2, h3, h4, h5, c0, c1, c2, c3, h6, h7, h8, h9⟩ := (h.below ((Below.refl _ _).alloc (Nat.le_refl _) (.cells #[.int .i64 0, .string ⟨#[]⟩, .int .i64 0, .int .i64 0] 57))).1.cells
  have g0 := cell_at (v := .slice (some ⟨b, o, none⟩) s.rest.length c) h1 0 rfl
  unfold tokV
  generalize s.nx = t at *
  generalize s.rest.length = n at *
  clear h1 h7 h8 h9 h
  go_enter Tryd.func14, Tryd.ntmps14
  go_wp2
  exact bodyPost_ret (v := .agg #[.int .i64 (t.kind : Nat), .string ⟨t.text.toArray⟩, .int .i64 (t.line : Nat), .int .i64 (t.col : Nat)]) (by simp [results, Tryd.results14, go_sem]) rfl ⟨rfl, (Below.refl _ _).alloc (Nat.le_refl _) _⟩

def tokC (t : Tok) : Array Value := #[.int .i64 (t.kind : Nat), .string ⟨t.text.toArray⟩, .int .i64 (t.line : Nat), .int .i64 (t.col : Nat)]
/-- What a call has done to the parser. -/
def Did (w : World) (g : Nat) (s : St) (w' : World) : Prop := PS w' g s ∧ w.grownBy w' (some g)

theorem PSA.move {w' : World} {g b o c : Nat} {ev : Value} {s : St} (hg : w'.heap[g]? = some (.cells #[.slice (some ⟨b, o + 4, none⟩) (s.rest.length - 1) (c - 1), ev] 55 (0, 0))) (hk : s.nx.kind ≠ 4) (h2 : GoodL s.rest) (h3 : s.rest.length ≤ c) (h4 : c ≤ maxLen) (h5 : b < g) (h6 : b < w'.heap.size) (h7 : Toks w' b o s.rest) (h8 : ErrAt w' g ev s.err) : PSA w' g s.tk := by
  have e : s.tk = ⟨s.rest.drop 1, s.err⟩ := by unfold St.tk; rw [if_neg hk]
  rw [e]
  exact ⟨b, o + 4, c - 1, ev, by rw [hg]; simp only [List.length_drop], h2.tail hk, by simp only [List.length_drop]; omega, by omega, h5, h6, h7.drop 1, h8⟩
theorem Toks.below {w w' : World} {b o : Nat} {l : List Tok} (h : Toks w b o l) (hl : b < w.heap.size) (hb : Below w.heap.size w w') : Toks w' b o l := h.keep (hb.block _ hl)

/-- A store into a block that is no error's. -/
theorem PSA.store {w w' : World} {g k : Nat} {s : St} (h : PSA w g s) {c : Array Value} {T : TypeId} (hB : w.heap[k]? = some (.cells c T (0, 0))) (hT : T ≠ 50) (hk : g < k) (hg : w.grownBy w' (some k)) : PSA w' g s := by
  obtain ⟨b, o, cc, ev, h1, h2, h3, h4, h5, h6, h7, h8⟩ := h
  have e : ∀ q, q ≠ k → q < w.heap.size → w'.heap[q]? = w.heap[q]? := fun q hq hl => hg.block q hl (fun e => by injection e with e; exact hq e)
  refine ⟨b, o, cc, ev, by rw [e g (by omega) (lt_of_block h1)]; exact h1, h2, h3, h4, h5, Nat.lt_of_lt_of_le h6 hg.size, h7.keep (e b (by omega) h6), ?_⟩
  obtain ⟨rest, err⟩ := s
  simp only at h8 ⊢
  match err, h8 with
  | none, h8 => exact h8
  | some (c, l, k'), h8 =>
    obtain ⟨q, q1, q2, q3⟩ := h8
    refine ⟨q, q1, ?_, q3⟩
    unfold AtB at q2 ⊢
    rw [e q (fun e => by subst e; rw [hB] at q2; injection q2 with q2; injection q2 with _ q2; exact hT q2) (lt_of_block q2)]; exact q2
theorem PS.store {w w' : World} {g k : Nat} {s : St} (h : PS w g s) {c : Array Value} {T : TypeId} (hB : w.heap[k]? = some (.cells c T (0, 0))) (hT : T ≠ 50) (hk : g < k) (hg : w.grownBy w' (some k)) : PS w' g s := ⟨h.1.store hB hT hk hg, h.2⟩
theorem st4_same {w : World} {g : Nat} {T : TypeId} {a0 a1 a2 a3 : Value} (h : w.heap[g]? = some (.cells #[a0, a1, a2, a3] T (0, 0))) (v0 v1 v2 v3 : Value) :
    ((((w.setCell ⟨g, 0, none⟩ v0).setCell ⟨g, 1, none⟩ v1).setCell ⟨g, 2, none⟩ v2).setCell ⟨g, 3, none⟩ v3).heap[g]? = some (.cells #[v0, v1, v2, v3] T (0, 0)) := hset4 h v0 v1 v2 v3

theorem two_left {s : St} (h : GoodL s.rest) (hk : s.nx.kind ≠ 4) : 2 ≤ s.rest.length := by
  have := List.length_pos_iff.2 (h.tail hk).ne
  simp only [List.length_drop] at this; omega

set_option maxHeartbeats 2000000 in
theorem take_p (g : Nat) (s : St) (w : World) (h : PS w g s) :
    Calls Tryd.prog 36 #[.pointer (some ⟨g, 0, none⟩)] w fun e w' => e = .returned (tokV s.nx) ∧ Did w g s.tk w' := by
  have HP := Lib.hid h
  clear h
  go_enter Tryd.func36, Tryd.ntmps36
  go_upto_region 1 with fail
  obtain ⟨w1, hw⟩ : ∃ x, x = w.alloc (.cells #[.int .i64 0, .string ⟨#[]⟩, .int .i64 0, .int .i64 0] 57) := ⟨_, rfl⟩
  have hb : Below w.heap.size w w1 := by rw [hw]; exact (Below.refl _ _).alloc (Nat.le_refl _) _
  have hk : w1.heap[w.heap.size]? = some (.cells #[.int .i64 0, .string ⟨#[]⟩, .int .i64 0, .int .i64 0] 57 (0, 0)) := by rw [hw]; exact made_at w _ _ rfl
  rw [← hw]
  obtain ⟨k0, hkk⟩ : ∃ k, k = w.heap.size := ⟨_, rfl⟩
  have hg0 : g < k0 := by rw [hkk]; exact HP.out.lt
  have hN0 : w.heap.size ≤ k0 := by omega
  rw [← hkk] at hk ⊢
  have HB0 := Lib.hid hk
  replace HP := Lib.hid (HP.out.below hb)
  have HD := Lib.hid (below_grown hb (some g))
  clear hw hb hk hkk
  go_wp2_with fail
  refine (next_p g s w1 HP.out).mono ?_
  rintro e w2 ⟨rfl, hb⟩
  replace HB0 := Lib.hid ((hb.block _ (lt_of_block HB0.out)).trans HB0.out)
  replace HP := Lib.hid (HP.out.below hb)
  replace HD := Lib.hid (grown_tr HD.out (below_grown hb (some g)))
  clear hb
  simp only [tokV]
  generalize hnx : s.nx = t at *
  have HN := Lib.hid hnx
  clear hnx
  go_upto_region 2 with fail
  obtain ⟨w3, hw⟩ : ∃ x, x = w2.alloc (.cells #[.int .i64 (t.kind : Nat), .string ⟨t.text.toArray⟩, .int .i64 (t.line : Nat), .int .i64 (t.col : Nat)] 57) := ⟨_, rfl⟩
  have hb : Below w2.heap.size w2 w3 := by rw [hw]; exact (Below.refl _ _).alloc (Nat.le_refl _) _
  have hk : w3.heap[w2.heap.size]? = some (.cells #[.int .i64 (t.kind : Nat), .string ⟨t.text.toArray⟩, .int .i64 (t.line : Nat), .int .i64 (t.col : Nat)] 57 (0, 0)) := by rw [hw]; exact made_at w2 _ _ rfl
  rw [← hw]
  obtain ⟨k1, hkk⟩ : ∃ k, k = w2.heap.size := ⟨_, rfl⟩
  have h01 : k0 < k1 := by rw [hkk]; exact lt_of_block HB0.out
  rw [← hkk] at hk ⊢
  have HB1 := Lib.hid hk
  replace HB0 := Lib.hid ((hb.block _ (lt_of_block HB0.out)).trans HB0.out)
  replace HP := Lib.hid (HP.out.below hb)
  replace HD := Lib.hid (grown_tr HD.out (below_grown hb (some g)))
  clear hw hb hk hkk
  have x0 := cell_at (v := .int .i64 (t.kind : Nat)) HB1.out 0 rfl
  have x1 := cell_at (v := .string ⟨t.text.toArray⟩) HB1.out 1 rfl
  have x2 := cell_at (v := .int .i64 (t.line : Nat)) HB1.out 2 rfl
  have x3 := cell_at (v := .int .i64 (t.col : Nat)) HB1.out 3 rfl
  by_cases hk : t.kind = 4
  · have hk4 : ((t.kind : Int) != 4) = false := by simp; omega
    have HK : Hid (s.tk = s) := Lib.hid (by unfold St.tk; rw [HN.out, if_pos hk])
    clear hk
    have z0 := cell_at (v := .int .i64 0) HB0.out 0 rfl
    have z1 := cell_at (v := .string ⟨#[]⟩) HB0.out 1 rfl
    have z2 := cell_at (v := .int .i64 0) HB0.out 2 rfl
    have z3 := cell_at (v := .int .i64 0) HB0.out 3 rfl
    have f0 := froz_at HB0.out 0
    have f1 := froz_at HB0.out 1
    have f2 := froz_at HB0.out 2
    have f3 := froz_at HB0.out 3
    go_wp2_with fail
    refine bodyPost_ret (v := .agg #[.int .i64 (t.kind : Nat), .string ⟨t.text.toArray⟩, .int .i64 (t.line : Nat), .int .i64 (t.col : Nat)]) (by simp [results, Tryd.results36, go_sem, z0, z1, z2, z3]) rfl ⟨by rw [HN.out]; rfl, ?_, ?_⟩
    · rw [HK.out]; exact HP.out.store HB0.out (by decide) hg0 (grown4 _ _ _ _ _ _)
    · exact grown_new HD.out (grown4 _ _ _ _ _ _) hN0
  · have hk4 : ((t.kind : Int) != 4) = true := by simp; omega
    have HK := Lib.hid (show s.nx.kind ≠ 4 by rw [HN.out]; exact hk)
    clear hk
    obtain ⟨b, o, c, ev, h1, h2, h3, h4, h5, c0, c1, c2, c3, h6, h7, h8, h9⟩ := HP.out.1.cells
    have q0 := cell_at (v := .slice (some ⟨b, o, none⟩) s.rest.length c) h1 0 rfl
    have fz := froz_at h1 0
    have HG := Lib.hid (And.intro h1 (And.intro h3 (And.intro h4 (And.intro h5 (And.intro h6 (And.intro h7 (And.intro h8 h9)))))))
    clear h1 h3 h5 h6 h7 h8 h9 c0 c1 c2 c3
    have hlen : s.rest.length ≤ 9223372036854775807 := by unfold maxLen at h4; have := HG.out.2.1; omega
    have hcc : c ≤ 9223372036854775807 := by unfold maxLen at h4; omega
    have hlc := HG.out.2.1
    generalize hn : s.rest.length = n at *
    have HL := Lib.hid hn
    clear hn h4
    have hc1 : ¬ c = 1 := by have := two_left HG.out.2.2.2.2.2.1 HK.out; rw [HL.out] at this; omega
    go_upto_region 4 with fail
    obtain ⟨w4, hw⟩ : ∃ x, x = w3.setCell ⟨g, 0, none⟩ (.slice (some ⟨b, o + 4, none⟩) (n - 1) (c - 1)) := ⟨_, rfl⟩
    have hg : w3.grownBy w4 (some g) := by rw [hw]; exact grown_set _ g 0 _
    have hgb : w4.heap[g]? = some (.cells #[.slice (some ⟨b, o + 4, none⟩) (n - 1) (c - 1), ev] 55 (0, 0)) := by rw [hw, heap_setCell_same _ g 0 _ _ _ HG.out.1]; rfl
    rw [← hw]
    obtain ⟨g1, g2, g3, g4, g5, g6, g7, g8⟩ := HG.out
    replace HP : Hid (PS w4 g s.tk) := Lib.hid ⟨PSA.move (by rw [HL.out]; exact hgb) HK.out g6 (by rw [HL.out]; exact g2) g3 g4 (Nat.lt_of_lt_of_le g5 hg.size) (g7.keep (hg.block b g5 (fun e => by injection e with e; omega))) (g8.keep fun q h1 h2 => hg.block q h2 (fun e => by injection e with e; exact h1 e)), Nat.le_trans (len_tk s) HP.out.2⟩
    replace HB0 := Lib.hid ((hg.block _ (lt_of_block HB0.out) (fun e => by injection e with e; omega)).trans HB0.out)
    replace HB1 := Lib.hid ((hg.block _ (lt_of_block HB1.out) (fun e => by injection e with e; omega)).trans HB1.out)
    replace HD := Lib.hid (grown_tr HD.out hg)
    clear hw hg hgb g1 g2 g3 g4 g5 g6 g7 g8 x0 x1 x2 x3 q0 fz
    have x0 := cell_at (v := .int .i64 (t.kind : Nat)) HB1.out 0 rfl
    have x1 := cell_at (v := .string ⟨t.text.toArray⟩) HB1.out 1 rfl
    have x2 := cell_at (v := .int .i64 (t.line : Nat)) HB1.out 2 rfl
    have x3 := cell_at (v := .int .i64 (t.col : Nat)) HB1.out 3 rfl
    have z0 := cell_at (v := .int .i64 0) HB0.out 0 rfl
    have z1 := cell_at (v := .string ⟨#[]⟩) HB0.out 1 rfl
    have z2 := cell_at (v := .int .i64 0) HB0.out 2 rfl
    have z3 := cell_at (v := .int .i64 0) HB0.out 3 rfl
    have f0 := froz_at HB0.out 0
    have f1 := froz_at HB0.out 1
    have f2 := froz_at HB0.out 2
    have f3 := froz_at HB0.out 3
    go_wp2_with fail
    refine bodyPost_ret (v := .agg #[.int .i64 (t.kind : Nat), .string ⟨t.text.toArray⟩, .int .i64 (t.line : Nat), .int .i64 (t.col : Nat)]) (by simp [results, Tryd.results36, go_sem, z0, z1, z2, z3]) rfl ⟨by rw [HN.out]; rfl, ?_, ?_⟩
    · exact HP.out.store HB0.out (by decide) hg0 (grown4 _ _ _ _ _ _)
    · exact grown_new HD.out (grown4 _ _ _ _ _ _) hN0
end Go.Proofs.YtdpfgfkoboihcaaDoor
