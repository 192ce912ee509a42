/-
  Contracts of expr, let, choice, assert, match.
-/
import Derived.Test.YtdpfgfkoboihcaaDoorPsF
namespace Go.Proofs.YtdpfgfkoboihcaaDoor
open Go.RowKit
set_option maxRecDepth 100000
set_option linter.unusedVariables false

set_option maxHeartbeats 8000000 in
theorem let_p (n : Nat) (E : Hid (ExprAt7 n)) : LetAt (n + 1) := by
  intro g s r w hps hop hc
  have HP := Lib.hid hps
  have HOP := Lib.hid hop
  clear hps hop
  rw [cLet] at hc
  simp only [Option.bind_eq_some_iff] at hc
  obtain ⟨r1, h1, r2, h2, hr⟩ := hc
  injection hr with hr
  subst hr
  have h1 := Lib.hid h1
  have h2 := Lib.hid h2
  go_enter Tryd.func25, Tryd.ntmps25
  go_upto_region 1 with fail
  obtain ⟨w1, hw⟩ : ∃ x, x = w.alloc (.cells #[.int .i64 0, .string ⟨#[]⟩, .string ⟨#[]⟩, .bool false, .slice none 0 0, .slice none 0 0, .int .i64 0, .int .i64 0] 30) := ⟨_, rfl⟩
  have hb : Below w.heap.size w w1 := by rw [hw]; exact (Below.refl _ _).alloc (Nat.le_refl _) _
  have hk : w1.heap[w.heap.size]? = some (.cells #[.int .i64 0, .string ⟨#[]⟩, .string ⟨#[]⟩, .bool false, .slice none 0 0, .slice none 0 0, .int .i64 0, .int .i64 0] 30 (0, 0)) := by rw [hw]; exact made_at w _ _ rfl
  rw [← hw]
  obtain ⟨kr, hkk⟩ : ∃ k, k = w.heap.size := ⟨_, rfl⟩
  have hgr : g < kr := by rw [hkk]; exact HP.out.lt
  have her : w.heap.size ≤ kr := by omega
  rw [← hkk] at hk ⊢
  replace HP := Lib.hid (HP.out.below hb)
  replace HOP := Lib.hid (HOP.out.below hb)
  have HD := Lib.hid (below_grown hb (some g))
  have hsz1 := HD.out.size
  have HBr := Lib.hid hk
  clear hw hb hk hkk
  go_wp2_with fail
  refine (take_p g s w1 HP.out).mono ?_
  rintro e w2 ⟨rfl, hp, hg⟩
  replace HBr := Lib.hid ((hg.block _ (lt_of_block HBr.out) (fun e => by injection e with e; omega)).trans HBr.out)
  replace HOP := Lib.hid (HOP.out.grown hg (by omega))
  replace HP := Lib.hid hp
  replace HD := Lib.hid (grown_tr HD.out (hg))
  have hsz2 := HD.out.size
  clear hp hg
  simp only [tokV]
  obtain ⟨t, hnx⟩ : ∃ t, t = St.nx s := ⟨_, rfl⟩
  rw [← hnx]
  have HNt := Lib.hid hnx
  clear hnx
  go_upto_region 2 with fail
  obtain ⟨w3, hw⟩ : ∃ x, x = w2.alloc (.cells #[.int .i64 (t.kind : Nat), .string ⟨t.text.toArray⟩, .int .i64 (t.line : Nat), .int .i64 (t.col : Nat)] 57) := ⟨_, rfl⟩
  have hb : Below w2.heap.size w2 w3 := by rw [hw]; exact (Below.refl _ _).alloc (Nat.le_refl _) _
  have hk : w3.heap[w2.heap.size]? = some (.cells #[.int .i64 (t.kind : Nat), .string ⟨t.text.toArray⟩, .int .i64 (t.line : Nat), .int .i64 (t.col : Nat)] 57 (0, 0)) := by rw [hw]; exact made_at w2 _ _ rfl
  rw [← hw]
  obtain ⟨kt, hkk⟩ : ∃ k, k = w2.heap.size := ⟨_, rfl⟩
  have hgt : g < kt := by rw [hkk]; exact HP.out.lt
  have het : w.heap.size ≤ kt := by omega
  have hr_t : kr < kt := by rw [hkk]; exact lt_of_block HBr.out
  rw [← hkk] at hk ⊢
  replace HBr := Lib.hid ((hb.block _ (lt_of_block HBr.out)).trans HBr.out)
  replace HP := Lib.hid (HP.out.below hb)
  replace HOP := Lib.hid (HOP.out.below hb)
  replace HD := Lib.hid (grown_tr HD.out (below_grown hb (some g)))
  have hsz3 := HD.out.size
  have HBt := Lib.hid hk
  clear hw hb hk hkk
  go_wp2_with fail
  refine (name_p g s.tk w3 HP.out).mono ?_
  rintro e w4 ⟨rfl, hp, hg⟩
  replace HBr := Lib.hid ((hg.block _ (lt_of_block HBr.out) (fun e => by injection e with e; omega)).trans HBr.out)
  replace HBt := Lib.hid ((hg.block _ (lt_of_block HBt.out) (fun e => by injection e with e; omega)).trans HBt.out)
  replace HOP := Lib.hid (HOP.out.grown hg (by omega))
  replace HP := Lib.hid hp
  replace HD := Lib.hid (grown_tr HD.out (hg))
  have hsz4 := HD.out.size
  clear hp hg
  simp only [tokV]
  obtain ⟨nm, hnx⟩ : ∃ t, t = St.nx s.tk := ⟨_, rfl⟩
  rw [← hnx]
  have HNnm := Lib.hid hnx
  clear hnx
  go_upto_region 3 with fail
  obtain ⟨w5, hw⟩ : ∃ x, x = w4.alloc (.cells #[.int .i64 (nm.kind : Nat), .string ⟨nm.text.toArray⟩, .int .i64 (nm.line : Nat), .int .i64 (nm.col : Nat)] 57) := ⟨_, rfl⟩
  have hb : Below w4.heap.size w4 w5 := by rw [hw]; exact (Below.refl _ _).alloc (Nat.le_refl _) _
  have hk : w5.heap[w4.heap.size]? = some (.cells #[.int .i64 (nm.kind : Nat), .string ⟨nm.text.toArray⟩, .int .i64 (nm.line : Nat), .int .i64 (nm.col : Nat)] 57 (0, 0)) := by rw [hw]; exact made_at w4 _ _ rfl
  rw [← hw]
  obtain ⟨knm, hkk⟩ : ∃ k, k = w4.heap.size := ⟨_, rfl⟩
  have hgnm : g < knm := by rw [hkk]; exact HP.out.lt
  have henm : w.heap.size ≤ knm := by omega
  have hr_nm : kr < knm := by rw [hkk]; exact lt_of_block HBr.out
  have ht_nm : kt < knm := by rw [hkk]; exact lt_of_block HBt.out
  rw [← hkk] at hk ⊢
  replace HBr := Lib.hid ((hb.block _ (lt_of_block HBr.out)).trans HBr.out)
  replace HBt := Lib.hid ((hb.block _ (lt_of_block HBt.out)).trans HBt.out)
  replace HP := Lib.hid (HP.out.below hb)
  replace HOP := Lib.hid (HOP.out.below hb)
  replace HD := Lib.hid (grown_tr HD.out (below_grown hb (some g)))
  have hsz5 := HD.out.size
  have HBnm := Lib.hid hk
  clear hw hb hk hkk
  go_wp2_with fail
  obtain ⟨w6, hw⟩ : ∃ x, x = w5.alloc (.cells #[.string ⟨#[61]⟩] 9) := ⟨_, rfl⟩
  have hb : Below w5.heap.size w5 w6 := by rw [hw]; exact (Below.refl _ _).alloc (Nat.le_refl _) _
  have hk : w6.heap[w5.heap.size]? = some (.cells #[.string ⟨#[61]⟩] 9 (0, 0)) := by rw [hw]; exact made_at w5 _ _ rfl
  rw [← hw]
  obtain ⟨kq1, hkk⟩ : ∃ k, k = w5.heap.size := ⟨_, rfl⟩
  have hgq1 : g < kq1 := by rw [hkk]; exact HP.out.lt
  have heq1 : w.heap.size ≤ kq1 := by omega
  have hr_q1 : kr < kq1 := by rw [hkk]; exact lt_of_block HBr.out
  have ht_q1 : kt < kq1 := by rw [hkk]; exact lt_of_block HBt.out
  have hnm_q1 : knm < kq1 := by rw [hkk]; exact lt_of_block HBnm.out
  rw [← hkk] at hk ⊢
  replace HBr := Lib.hid ((hb.block _ (lt_of_block HBr.out)).trans HBr.out)
  replace HBt := Lib.hid ((hb.block _ (lt_of_block HBt.out)).trans HBt.out)
  replace HBnm := Lib.hid ((hb.block _ (lt_of_block HBnm.out)).trans HBnm.out)
  replace HP := Lib.hid (HP.out.below hb)
  replace HOP := Lib.hid (HOP.out.below hb)
  replace HD := Lib.hid (grown_tr HD.out (below_grown hb (some g)))
  have hsz6 := HD.out.size
  have HBq1 := Lib.hid hk
  clear hw hb hk hkk
  refine (expect_p g s.tk.name [[61]] kq1 w6 HP.out HBq1.out (by omega) (by decide)).mono ?_
  rintro e w7 ⟨⟨v, rfl⟩, hp, hg⟩
  replace HBr := Lib.hid ((hg.block _ (lt_of_block HBr.out) (fun e => by injection e with e; omega)).trans HBr.out)
  replace HBt := Lib.hid ((hg.block _ (lt_of_block HBt.out) (fun e => by injection e with e; omega)).trans HBt.out)
  replace HBnm := Lib.hid ((hg.block _ (lt_of_block HBnm.out) (fun e => by injection e with e; omega)).trans HBnm.out)
  replace HBq1 := Lib.hid ((hg.block _ (lt_of_block HBq1.out) (fun e => by injection e with e; omega)).trans HBq1.out)
  replace HOP := Lib.hid (HOP.out.grown hg (by omega))
  replace HP := Lib.hid hp
  replace HD := Lib.hid (grown_tr HD.out (hg))
  have hsz7 := HD.out.size
  clear hp hg
  go_wp2_with fail
  obtain ⟨Na, hN⟩ : ∃ k, k = w7.heap.size := ⟨_, rfl⟩
  have hr_Na : kr < Na := by rw [hN]; exact lt_of_block HBr.out
  have ht_Na : kt < Na := by rw [hN]; exact lt_of_block HBt.out
  have hnm_Na : knm < Na := by rw [hN]; exact lt_of_block HBnm.out
  have hg_Na : g < Na := by rw [hN]; exact HP.out.lt
  have he_Na : w.heap.size ≤ Na := by omega
  refine (E.out g _ _ w7 HP.out HOP.out h1.out).mono ?_
  rintro e w8 ⟨xa, rfl, hu, hp, hg⟩
  replace HBr := Lib.hid ((hg.block _ (lt_of_block HBr.out) (fun e => by injection e with e; omega)).trans HBr.out)
  replace HBt := Lib.hid ((hg.block _ (lt_of_block HBt.out) (fun e => by injection e with e; omega)).trans HBt.out)
  replace HBnm := Lib.hid ((hg.block _ (lt_of_block HBnm.out) (fun e => by injection e with e; omega)).trans HBnm.out)
  replace HOP := Lib.hid (HOP.out.grown hg (by omega))
  replace HP := Lib.hid hp
  replace HD := Lib.hid (grown_tr HD.out (hg))
  have hsz8 := HD.out.size
  rw [← hN] at hu
  have HUa := Lib.hid (hu.mono (S' := fun b => Na ≤ b ∧ True) (fun b h => ⟨h, trivial⟩))
  clear hN hu
  clear hp hg
  obtain ⟨ak, anm, aot, ab, aao, an, aq, ako, akn, akc, aln, acl⟩ := xa
  simp only [xv]
  go_upto_region 5 with fail
  obtain ⟨w9, hw⟩ : ∃ x, x = w8.alloc (.cells #[.int .i64 ak, .string anm, .string aot, .bool ab, .slice aao an aq, .slice ako akn akc, .int .i64 aln, .int .i64 acl] 30) := ⟨_, rfl⟩
  have hb : Below w8.heap.size w8 w9 := by rw [hw]; exact (Below.refl _ _).alloc (Nat.le_refl _) _
  have hk : w9.heap[w8.heap.size]? = some (.cells #[.int .i64 ak, .string anm, .string aot, .bool ab, .slice aao an aq, .slice ako akn akc, .int .i64 aln, .int .i64 acl] 30 (0, 0)) := by rw [hw]; exact made_at w8 _ _ rfl
  rw [← hw]
  obtain ⟨ka, hkk⟩ : ∃ k, k = w8.heap.size := ⟨_, rfl⟩
  have hga : g < ka := by rw [hkk]; exact HP.out.lt
  have hea : w.heap.size ≤ ka := by omega
  have hr_a : kr < ka := by rw [hkk]; exact lt_of_block HBr.out
  have ht_a : kt < ka := by rw [hkk]; exact lt_of_block HBt.out
  have hnm_a : knm < ka := by rw [hkk]; exact lt_of_block HBnm.out
  replace HUa := Lib.hid (HUa.out.off.mono (S' := fun b => (Na ≤ b ∧ True) ∧ b ≠ ka) (fun b h => ⟨h.1, fun e => h.2 (by rw [e, hkk])⟩))
  rw [← hkk] at hk ⊢
  replace HBr := Lib.hid ((hb.block _ (lt_of_block HBr.out)).trans HBr.out)
  replace HBt := Lib.hid ((hb.block _ (lt_of_block HBt.out)).trans HBt.out)
  replace HBnm := Lib.hid ((hb.block _ (lt_of_block HBnm.out)).trans HBnm.out)
  replace HP := Lib.hid (HP.out.below hb)
  replace HUa := Lib.hid (HUa.out.below hb)
  replace HOP := Lib.hid (HOP.out.below hb)
  replace HD := Lib.hid (grown_tr HD.out (below_grown hb (some g)))
  have hsz9 := HD.out.size
  have HBa := Lib.hid hk
  clear hw hb hk hkk
  go_wp2_with fail
  obtain ⟨w10, hw⟩ : ∃ x, x = w9.alloc (.cells #[.string ⟨#[105, 110]⟩] 9) := ⟨_, rfl⟩
  have hb : Below w9.heap.size w9 w10 := by rw [hw]; exact (Below.refl _ _).alloc (Nat.le_refl _) _
  have hk : w10.heap[w9.heap.size]? = some (.cells #[.string ⟨#[105, 110]⟩] 9 (0, 0)) := by rw [hw]; exact made_at w9 _ _ rfl
  rw [← hw]
  obtain ⟨kq2, hkk⟩ : ∃ k, k = w9.heap.size := ⟨_, rfl⟩
  have hgq2 : g < kq2 := by rw [hkk]; exact HP.out.lt
  have heq2 : w.heap.size ≤ kq2 := by omega
  have hr_q2 : kr < kq2 := by rw [hkk]; exact lt_of_block HBr.out
  have ht_q2 : kt < kq2 := by rw [hkk]; exact lt_of_block HBt.out
  have hnm_q2 : knm < kq2 := by rw [hkk]; exact lt_of_block HBnm.out
  have ha_q2 : ka < kq2 := by rw [hkk]; exact lt_of_block HBa.out
  replace HUa := Lib.hid (HUa.out.off.mono (S' := fun b => ((Na ≤ b ∧ True) ∧ b ≠ ka) ∧ b ≠ kq2) (fun b h => ⟨h.1, fun e => h.2 (by rw [e, hkk])⟩))
  rw [← hkk] at hk ⊢
  replace HBr := Lib.hid ((hb.block _ (lt_of_block HBr.out)).trans HBr.out)
  replace HBt := Lib.hid ((hb.block _ (lt_of_block HBt.out)).trans HBt.out)
  replace HBnm := Lib.hid ((hb.block _ (lt_of_block HBnm.out)).trans HBnm.out)
  replace HBa := Lib.hid ((hb.block _ (lt_of_block HBa.out)).trans HBa.out)
  replace HP := Lib.hid (HP.out.below hb)
  replace HUa := Lib.hid (HUa.out.below hb)
  replace HOP := Lib.hid (HOP.out.below hb)
  replace HD := Lib.hid (grown_tr HD.out (below_grown hb (some g)))
  have hsz10 := HD.out.size
  have HBq2 := Lib.hid hk
  clear hw hb hk hkk
  refine (expect_p g r1.2 [[105, 110]] kq2 w10 HP.out HBq2.out (by omega) (by decide)).mono ?_
  rintro e w11 ⟨⟨v, rfl⟩, hp, hg⟩
  replace HBr := Lib.hid ((hg.block _ (lt_of_block HBr.out) (fun e => by injection e with e; omega)).trans HBr.out)
  replace HBt := Lib.hid ((hg.block _ (lt_of_block HBt.out) (fun e => by injection e with e; omega)).trans HBt.out)
  replace HBnm := Lib.hid ((hg.block _ (lt_of_block HBnm.out) (fun e => by injection e with e; omega)).trans HBnm.out)
  replace HBa := Lib.hid ((hg.block _ (lt_of_block HBa.out) (fun e => by injection e with e; omega)).trans HBa.out)
  replace HBq2 := Lib.hid ((hg.block _ (lt_of_block HBq2.out) (fun e => by injection e with e; omega)).trans HBq2.out)
  replace HUa := Lib.hid (HUa.out.grown hg (fun h => by have h : ((Na ≤ g ∧ True) ∧ g ≠ ka) ∧ g ≠ kq2 := h; omega))
  replace HOP := Lib.hid (HOP.out.grown hg (by omega))
  replace HP := Lib.hid hp
  replace HD := Lib.hid (grown_tr HD.out (hg))
  have hsz11 := HD.out.size
  clear hp hg
  go_wp2_with fail
  obtain ⟨Nb, hN⟩ : ∃ k, k = w11.heap.size := ⟨_, rfl⟩
  have hr_Nb : kr < Nb := by rw [hN]; exact lt_of_block HBr.out
  have ht_Nb : kt < Nb := by rw [hN]; exact lt_of_block HBt.out
  have hnm_Nb : knm < Nb := by rw [hN]; exact lt_of_block HBnm.out
  have ha_Nb : ka < Nb := by rw [hN]; exact lt_of_block HBa.out
  have hg_Nb : g < Nb := by rw [hN]; exact HP.out.lt
  have he_Nb : w.heap.size ≤ Nb := by omega
  refine (E.out g _ _ w11 HP.out HOP.out h2.out).mono ?_
  rintro e w12 ⟨xb, rfl, hu, hp, hg⟩
  replace HBr := Lib.hid ((hg.block _ (lt_of_block HBr.out) (fun e => by injection e with e; omega)).trans HBr.out)
  replace HBt := Lib.hid ((hg.block _ (lt_of_block HBt.out) (fun e => by injection e with e; omega)).trans HBt.out)
  replace HBnm := Lib.hid ((hg.block _ (lt_of_block HBnm.out) (fun e => by injection e with e; omega)).trans HBnm.out)
  replace HBa := Lib.hid ((hg.block _ (lt_of_block HBa.out) (fun e => by injection e with e; omega)).trans HBa.out)
  replace HUa := Lib.hid (HUa.out.grown hg (fun h => by have h : ((Na ≤ g ∧ True) ∧ g ≠ ka) ∧ g ≠ kq2 := h; omega))
  replace HOP := Lib.hid (HOP.out.grown hg (by omega))
  replace HP := Lib.hid hp
  replace HD := Lib.hid (grown_tr HD.out (hg))
  have hsz12 := HD.out.size
  rw [← hN] at hu
  have HUb := Lib.hid (hu.mono (S' := fun b => Nb ≤ b ∧ True) (fun b h => ⟨h, trivial⟩))
  clear hN hu
  clear hp hg
  obtain ⟨bk, bnm, bot, bb, bao, bn, bq, bko, bkn, bkc, bln, bcl⟩ := xb
  simp only [xv]
  go_upto_region 7 with fail
  obtain ⟨w13, hw⟩ : ∃ x, x = w12.alloc (.cells #[.int .i64 bk, .string bnm, .string bot, .bool bb, .slice bao bn bq, .slice bko bkn bkc, .int .i64 bln, .int .i64 bcl] 30) := ⟨_, rfl⟩
  have hb : Below w12.heap.size w12 w13 := by rw [hw]; exact (Below.refl _ _).alloc (Nat.le_refl _) _
  have hk : w13.heap[w12.heap.size]? = some (.cells #[.int .i64 bk, .string bnm, .string bot, .bool bb, .slice bao bn bq, .slice bko bkn bkc, .int .i64 bln, .int .i64 bcl] 30 (0, 0)) := by rw [hw]; exact made_at w12 _ _ rfl
  rw [← hw]
  obtain ⟨kb, hkk⟩ : ∃ k, k = w12.heap.size := ⟨_, rfl⟩
  have hgb : g < kb := by rw [hkk]; exact HP.out.lt
  have heb : w.heap.size ≤ kb := by omega
  have hr_b : kr < kb := by rw [hkk]; exact lt_of_block HBr.out
  have ht_b : kt < kb := by rw [hkk]; exact lt_of_block HBt.out
  have hnm_b : knm < kb := by rw [hkk]; exact lt_of_block HBnm.out
  have ha_b : ka < kb := by rw [hkk]; exact lt_of_block HBa.out
  replace HUa := Lib.hid (HUa.out.off.mono (S' := fun b => (((Na ≤ b ∧ True) ∧ b ≠ ka) ∧ b ≠ kq2) ∧ b ≠ kb) (fun b h => ⟨h.1, fun e => h.2 (by rw [e, hkk])⟩))
  replace HUb := Lib.hid (HUb.out.off.mono (S' := fun b => (Nb ≤ b ∧ True) ∧ b ≠ kb) (fun b h => ⟨h.1, fun e => h.2 (by rw [e, hkk])⟩))
  rw [← hkk] at hk ⊢
  replace HBr := Lib.hid ((hb.block _ (lt_of_block HBr.out)).trans HBr.out)
  replace HBt := Lib.hid ((hb.block _ (lt_of_block HBt.out)).trans HBt.out)
  replace HBnm := Lib.hid ((hb.block _ (lt_of_block HBnm.out)).trans HBnm.out)
  replace HBa := Lib.hid ((hb.block _ (lt_of_block HBa.out)).trans HBa.out)
  replace HP := Lib.hid (HP.out.below hb)
  replace HUa := Lib.hid (HUa.out.below hb)
  replace HUb := Lib.hid (HUb.out.below hb)
  replace HOP := Lib.hid (HOP.out.below hb)
  replace HD := Lib.hid (grown_tr HD.out (below_grown hb (some g)))
  have hsz13 := HD.out.size
  have HBb := Lib.hid hk
  clear hw hb hk hkk
  have ct0 := cell_at (v := .int .i64 (t.kind : Nat)) HBt.out 0 rfl
  have ct1 := cell_at (v := .string ⟨t.text.toArray⟩) HBt.out 1 rfl
  have ct2 := cell_at (v := .int .i64 (t.line : Nat)) HBt.out 2 rfl
  have ct3 := cell_at (v := .int .i64 (t.col : Nat)) HBt.out 3 rfl
  have ca0 := cell_at (v := .int .i64 ak) HBa.out 0 rfl
  have ca1 := cell_at (v := .string anm) HBa.out 1 rfl
  have ca2 := cell_at (v := .string aot) HBa.out 2 rfl
  have ca3 := cell_at (v := .bool ab) HBa.out 3 rfl
  have ca4 := cell_at (v := .slice aao an aq) HBa.out 4 rfl
  have ca5 := cell_at (v := .slice ako akn akc) HBa.out 5 rfl
  have ca6 := cell_at (v := .int .i64 aln) HBa.out 6 rfl
  have ca7 := cell_at (v := .int .i64 acl) HBa.out 7 rfl
  have cb0 := cell_at (v := .int .i64 bk) HBb.out 0 rfl
  have cb1 := cell_at (v := .string bnm) HBb.out 1 rfl
  have cb2 := cell_at (v := .string bot) HBb.out 2 rfl
  have cb3 := cell_at (v := .bool bb) HBb.out 3 rfl
  have cb4 := cell_at (v := .slice bao bn bq) HBb.out 4 rfl
  have cb5 := cell_at (v := .slice bko bkn bkc) HBb.out 5 rfl
  have cb6 := cell_at (v := .int .i64 bln) HBb.out 6 rfl
  have cb7 := cell_at (v := .int .i64 bcl) HBb.out 7 rfl
  go_wp2_with fail
  clear ct0 ct1 ct2 ct3 ca0 ca1 ca2 ca3 ca4 ca5 ca6 ca7 cb0 cb1 cb2 cb3 cb4 cb5 cb6 cb7
  obtain ⟨w14, hw⟩ : ∃ x, x = w13.alloc (.cells #[.int .i64 ak, .string anm, .string aot, .bool ab, .slice aao an aq, .slice ako akn akc, .int .i64 aln, .int .i64 acl, .int .i64 bk, .string bnm, .string bot, .bool bb, .slice bao bn bq, .slice bko bkn bkc, .int .i64 bln, .int .i64 bcl] 30) := ⟨_, rfl⟩
  have hb : Below w13.heap.size w13 w14 := by rw [hw]; exact (Below.refl _ _).alloc (Nat.le_refl _) _
  have hk : w14.heap[w13.heap.size]? = some (.cells #[.int .i64 ak, .string anm, .string aot, .bool ab, .slice aao an aq, .slice ako akn akc, .int .i64 aln, .int .i64 acl, .int .i64 bk, .string bnm, .string bot, .bool bb, .slice bao bn bq, .slice bko bkn bkc, .int .i64 bln, .int .i64 bcl] 30 (0, 0)) := by rw [hw]; exact made_at w13 _ _ rfl
  rw [← hw]
  obtain ⟨kkk, hkk⟩ : ∃ k, k = w13.heap.size := ⟨_, rfl⟩
  have hgkk : g < kkk := by rw [hkk]; exact HP.out.lt
  have hekk : w.heap.size ≤ kkk := by omega
  have hr_kk : kr < kkk := by rw [hkk]; exact lt_of_block HBr.out
  have ht_kk : kt < kkk := by rw [hkk]; exact lt_of_block HBt.out
  have hnm_kk : knm < kkk := by rw [hkk]; exact lt_of_block HBnm.out
  have ha_kk : ka < kkk := by rw [hkk]; exact lt_of_block HBa.out
  have hb_kk : kb < kkk := by rw [hkk]; exact lt_of_block HBb.out
  replace HUa := Lib.hid (HUa.out.off.mono (S' := fun b => ((((Na ≤ b ∧ True) ∧ b ≠ ka) ∧ b ≠ kq2) ∧ b ≠ kb) ∧ b ≠ kkk) (fun b h => ⟨h.1, fun e => h.2 (by rw [e, hkk])⟩))
  replace HUb := Lib.hid (HUb.out.off.mono (S' := fun b => ((Nb ≤ b ∧ True) ∧ b ≠ kb) ∧ b ≠ kkk) (fun b h => ⟨h.1, fun e => h.2 (by rw [e, hkk])⟩))
  rw [← hkk] at hk ⊢
  replace HBr := Lib.hid ((hb.block _ (lt_of_block HBr.out)).trans HBr.out)
  replace HBt := Lib.hid ((hb.block _ (lt_of_block HBt.out)).trans HBt.out)
  replace HBnm := Lib.hid ((hb.block _ (lt_of_block HBnm.out)).trans HBnm.out)
  replace HBa := Lib.hid ((hb.block _ (lt_of_block HBa.out)).trans HBa.out)
  replace HBb := Lib.hid ((hb.block _ (lt_of_block HBb.out)).trans HBb.out)
  replace HP := Lib.hid (HP.out.below hb)
  replace HUa := Lib.hid (HUa.out.below hb)
  replace HUb := Lib.hid (HUb.out.below hb)
  replace HOP := Lib.hid (HOP.out.below hb)
  replace HD := Lib.hid (grown_tr HD.out (below_grown hb (some g)))
  have hsz14 := HD.out.size
  have HBkk := Lib.hid hk
  clear hw hb hk hkk
  refine (part_p 26 t (some ⟨kkk, 0, none⟩) 2 2 w14).mono ?_
  rintro e w15 ⟨rfl, hb⟩
  replace HBr := Lib.hid ((hb.block _ (lt_of_block HBr.out)).trans HBr.out)
  replace HBt := Lib.hid ((hb.block _ (lt_of_block HBt.out)).trans HBt.out)
  replace HBnm := Lib.hid ((hb.block _ (lt_of_block HBnm.out)).trans HBnm.out)
  replace HBa := Lib.hid ((hb.block _ (lt_of_block HBa.out)).trans HBa.out)
  replace HBb := Lib.hid ((hb.block _ (lt_of_block HBb.out)).trans HBb.out)
  replace HBkk := Lib.hid ((hb.block _ (lt_of_block HBkk.out)).trans HBkk.out)
  replace HP := Lib.hid (HP.out.below hb)
  replace HUa := Lib.hid (HUa.out.below hb)
  replace HUb := Lib.hid (HUb.out.below hb)
  replace HOP := Lib.hid (HOP.out.below hb)
  replace HD := Lib.hid (grown_tr HD.out (below_grown hb (some g)))
  have hsz15 := HD.out.size
  clear hb
  simp only [xv]
  go_upto_region 8 with fail
  obtain ⟨w16, hw⟩ : ∃ x, x = w15.alloc (.cells #[.int .i64 26, .string ⟨#[]⟩, .string ⟨#[]⟩, .bool false, .slice none 0 0, .slice (some ⟨kkk, 0, none⟩) 2 2, .int .i64 (t.line : Nat), .int .i64 (t.col : Nat)] 30) := ⟨_, rfl⟩
  have hb : Below w15.heap.size w15 w16 := by rw [hw]; exact (Below.refl _ _).alloc (Nat.le_refl _) _
  have hk : w16.heap[w15.heap.size]? = some (.cells #[.int .i64 26, .string ⟨#[]⟩, .string ⟨#[]⟩, .bool false, .slice none 0 0, .slice (some ⟨kkk, 0, none⟩) 2 2, .int .i64 (t.line : Nat), .int .i64 (t.col : Nat)] 30 (0, 0)) := by rw [hw]; exact made_at w15 _ _ rfl
  rw [← hw]
  obtain ⟨kv, hkk⟩ : ∃ k, k = w15.heap.size := ⟨_, rfl⟩
  have hgv : g < kv := by rw [hkk]; exact HP.out.lt
  have hev : w.heap.size ≤ kv := by omega
  have hr_v : kr < kv := by rw [hkk]; exact lt_of_block HBr.out
  have ht_v : kt < kv := by rw [hkk]; exact lt_of_block HBt.out
  have hnm_v : knm < kv := by rw [hkk]; exact lt_of_block HBnm.out
  have ha_v : ka < kv := by rw [hkk]; exact lt_of_block HBa.out
  have hb_v : kb < kv := by rw [hkk]; exact lt_of_block HBb.out
  have hkk_v : kkk < kv := by rw [hkk]; exact lt_of_block HBkk.out
  replace HUa := Lib.hid (HUa.out.off.mono (S' := fun b => (((((Na ≤ b ∧ True) ∧ b ≠ ka) ∧ b ≠ kq2) ∧ b ≠ kb) ∧ b ≠ kkk) ∧ b ≠ kv) (fun b h => ⟨h.1, fun e => h.2 (by rw [e, hkk])⟩))
  replace HUb := Lib.hid (HUb.out.off.mono (S' := fun b => (((Nb ≤ b ∧ True) ∧ b ≠ kb) ∧ b ≠ kkk) ∧ b ≠ kv) (fun b h => ⟨h.1, fun e => h.2 (by rw [e, hkk])⟩))
  rw [← hkk] at hk ⊢
  replace HBr := Lib.hid ((hb.block _ (lt_of_block HBr.out)).trans HBr.out)
  replace HBt := Lib.hid ((hb.block _ (lt_of_block HBt.out)).trans HBt.out)
  replace HBnm := Lib.hid ((hb.block _ (lt_of_block HBnm.out)).trans HBnm.out)
  replace HBa := Lib.hid ((hb.block _ (lt_of_block HBa.out)).trans HBa.out)
  replace HBb := Lib.hid ((hb.block _ (lt_of_block HBb.out)).trans HBb.out)
  replace HBkk := Lib.hid ((hb.block _ (lt_of_block HBkk.out)).trans HBkk.out)
  replace HP := Lib.hid (HP.out.below hb)
  replace HUa := Lib.hid (HUa.out.below hb)
  replace HUb := Lib.hid (HUb.out.below hb)
  replace HOP := Lib.hid (HOP.out.below hb)
  replace HD := Lib.hid (grown_tr HD.out (below_grown hb (some g)))
  have hsz16 := HD.out.size
  have HBv := Lib.hid hk
  clear hw hb hk hkk
  have cn0 := cell_at (v := .int .i64 (nm.kind : Nat)) HBnm.out 0 rfl
  have cn1 := cell_at (v := .string ⟨nm.text.toArray⟩) HBnm.out 1 rfl
  have cn2 := cell_at (v := .int .i64 (nm.line : Nat)) HBnm.out 2 rfl
  have cn3 := cell_at (v := .int .i64 (nm.col : Nat)) HBnm.out 3 rfl
  have cv0 := cell_at (v := .int .i64 26) HBv.out 0 rfl
  have fcv0 := froz_at HBv.out 0
  have cv1 := cell_at (v := .string ⟨#[]⟩) HBv.out 1 rfl
  have fcv1 := froz_at HBv.out 1
  have cv2 := cell_at (v := .string ⟨#[]⟩) HBv.out 2 rfl
  have fcv2 := froz_at HBv.out 2
  have cv3 := cell_at (v := .bool false) HBv.out 3 rfl
  have fcv3 := froz_at HBv.out 3
  have cv4 := cell_at (v := .slice none 0 0) HBv.out 4 rfl
  have fcv4 := froz_at HBv.out 4
  have cv5 := cell_at (v := .slice (some ⟨kkk, 0, none⟩) 2 2) HBv.out 5 rfl
  have fcv5 := froz_at HBv.out 5
  have cv6 := cell_at (v := .int .i64 (t.line : Nat)) HBv.out 6 rfl
  have fcv6 := froz_at HBv.out 6
  have cv7 := cell_at (v := .int .i64 (t.col : Nat)) HBv.out 7 rfl
  have fcv7 := froz_at HBv.out 7
  go_upto_region 9 with fail
  obtain ⟨w17, hw⟩ : ∃ x, x = w16.setCell ⟨kv, 1, none⟩ (.string ⟨nm.text.toArray⟩) := ⟨_, rfl⟩
  have hg : w16.grownBy w17 (some kv) := by rw [hw]; exact grown_set _ kv 1 _
  have hv : w17.heap[kv]? = some (.cells #[.int .i64 26, .string ⟨nm.text.toArray⟩, .string ⟨#[]⟩, .bool false, .slice none 0 0, .slice (some ⟨kkk, 0, none⟩) 2 2, .int .i64 (t.line : Nat), .int .i64 (t.col : Nat)] 30 (0, 0)) := by rw [hw, heap_setCell_same _ kv 1 _ _ _ HBv.out]; rfl
  rw [← hw]
  clear cn0 cn1 cn2 cn3 cv0 fcv0 cv1 fcv1 cv2 fcv2 cv3 fcv3 cv4 fcv4 cv5 fcv5 cv6 fcv6 cv7 fcv7
  replace HP := Lib.hid (HP.out.store HBv.out (by decide) (by omega) hg)
  replace HBr := Lib.hid ((hg.block _ (lt_of_block HBr.out) (fun e => by injection e with e; omega)).trans HBr.out)
  replace HBt := Lib.hid ((hg.block _ (lt_of_block HBt.out) (fun e => by injection e with e; omega)).trans HBt.out)
  replace HBnm := Lib.hid ((hg.block _ (lt_of_block HBnm.out) (fun e => by injection e with e; omega)).trans HBnm.out)
  replace HBa := Lib.hid ((hg.block _ (lt_of_block HBa.out) (fun e => by injection e with e; omega)).trans HBa.out)
  replace HBb := Lib.hid ((hg.block _ (lt_of_block HBb.out) (fun e => by injection e with e; omega)).trans HBb.out)
  replace HBkk := Lib.hid ((hg.block _ (lt_of_block HBkk.out) (fun e => by injection e with e; omega)).trans HBkk.out)
  replace HUa := Lib.hid (HUa.out.grown hg (fun h => by have h : (((((Na ≤ kv ∧ True) ∧ kv ≠ ka) ∧ kv ≠ kq2) ∧ kv ≠ kb) ∧ kv ≠ kkk) ∧ kv ≠ kv := h; omega))
  replace HUb := Lib.hid (HUb.out.grown hg (fun h => by have h : (((Nb ≤ kv ∧ True) ∧ kv ≠ kb) ∧ kv ≠ kkk) ∧ kv ≠ kv := h; omega))
  replace HOP := Lib.hid (HOP.out.grown hg (by omega))
  replace HD := Lib.hid (grown_new HD.out hg (by omega))
  have hsz17 := HD.out.size
  replace HBv := Lib.hid hv
  clear hw hg hv
  have cv0 := cell_at (v := .int .i64 26) HBv.out 0 rfl
  have cv1 := cell_at (v := .string ⟨nm.text.toArray⟩) HBv.out 1 rfl
  have cv2 := cell_at (v := .string ⟨#[]⟩) HBv.out 2 rfl
  have cv3 := cell_at (v := .bool false) HBv.out 3 rfl
  have cv4 := cell_at (v := .slice none 0 0) HBv.out 4 rfl
  have cv5 := cell_at (v := .slice (some ⟨kkk, 0, none⟩) 2 2) HBv.out 5 rfl
  have cv6 := cell_at (v := .int .i64 (t.line : Nat)) HBv.out 6 rfl
  have cv7 := cell_at (v := .int .i64 (t.col : Nat)) HBv.out 7 rfl
  have z0 := cell_at (v := .int .i64 0) HBr.out 0 rfl
  have fz0 := froz_at HBr.out 0
  have z1 := cell_at (v := .string ⟨#[]⟩) HBr.out 1 rfl
  have fz1 := froz_at HBr.out 1
  have z2 := cell_at (v := .string ⟨#[]⟩) HBr.out 2 rfl
  have fz2 := froz_at HBr.out 2
  have z3 := cell_at (v := .bool false) HBr.out 3 rfl
  have fz3 := froz_at HBr.out 3
  have z4 := cell_at (v := .slice none 0 0) HBr.out 4 rfl
  have fz4 := froz_at HBr.out 4
  have z5 := cell_at (v := .slice none 0 0) HBr.out 5 rfl
  have fz5 := froz_at HBr.out 5
  have z6 := cell_at (v := .int .i64 0) HBr.out 6 rfl
  have fz6 := froz_at HBr.out 6
  have z7 := cell_at (v := .int .i64 0) HBr.out 7 rfl
  have fz7 := froz_at HBr.out 7
  go_wp2_with fail
  refine bodyPost_ret (v := .agg #[.int .i64 26, .string ⟨nm.text.toArray⟩, .string ⟨#[]⟩, .bool false, .slice none 0 0, .slice (some ⟨kkk, 0, none⟩) 2 2, .int .i64 (t.line : Nat), .int .i64 (t.col : Nat)]) (by simp [results, Tryd.results25, go_sem, z0, z1, z2, z3, z4, z5, z6, z7]) rfl ?_
  obtain ⟨wz, hw⟩ : ∃ x, x = st8 w17 kr (.int .i64 26) (.string ⟨nm.text.toArray⟩) (.string ⟨#[]⟩) (.bool false) (.slice none 0 0) (.slice (some ⟨kkk, 0, none⟩) 2 2) (.int .i64 (t.line : Nat)) (.int .i64 (t.col : Nat)) := ⟨_, rfl⟩
  have hg : w17.grownBy wz (some kr) := by rw [hw]; exact st8_grown _ _ _ _ _ _ _ _ _ _
  change TreePost w g _ _ _ (st8 w17 kr (.int .i64 26) (.string ⟨nm.text.toArray⟩) (.string ⟨#[]⟩) (.bool false) (.slice none 0 0) (.slice (some ⟨kkk, 0, none⟩) 2 2) (.int .i64 (t.line : Nat)) (.int .i64 (t.col : Nat)))
  rw [← hw]
  clear cv0 cv1 cv2 cv3 cv4 cv5 cv6 cv7 z0 fz0 z1 fz1 z2 fz2 z3 fz3 z4 fz4 z5 fz5 z6 fz6 z7 fz7
  replace HP := Lib.hid (HP.out.store HBr.out (by decide) (by omega) hg)
  replace HBt := Lib.hid ((hg.block _ (lt_of_block HBt.out) (fun e => by injection e with e; omega)).trans HBt.out)
  replace HBnm := Lib.hid ((hg.block _ (lt_of_block HBnm.out) (fun e => by injection e with e; omega)).trans HBnm.out)
  replace HBa := Lib.hid ((hg.block _ (lt_of_block HBa.out) (fun e => by injection e with e; omega)).trans HBa.out)
  replace HBb := Lib.hid ((hg.block _ (lt_of_block HBb.out) (fun e => by injection e with e; omega)).trans HBb.out)
  replace HBkk := Lib.hid ((hg.block _ (lt_of_block HBkk.out) (fun e => by injection e with e; omega)).trans HBkk.out)
  replace HBv := Lib.hid ((hg.block _ (lt_of_block HBv.out) (fun e => by injection e with e; omega)).trans HBv.out)
  replace HUa := Lib.hid (HUa.out.grown hg (fun h => by have h : (((((Na ≤ kr ∧ True) ∧ kr ≠ ka) ∧ kr ≠ kq2) ∧ kr ≠ kb) ∧ kr ≠ kkk) ∧ kr ≠ kv := h; omega))
  replace HUb := Lib.hid (HUb.out.grown hg (fun h => by have h : (((Nb ≤ kr ∧ True) ∧ kr ≠ kb) ∧ kr ≠ kkk) ∧ kr ≠ kv := h; omega))
  replace HOP := Lib.hid (HOP.out.grown hg (by omega))
  replace HD := Lib.hid (grown_new HD.out hg (by omega))
  have hsz17 := HD.out.size
  clear hw hg
  have hu : U.node 26 s.tk.nx.text [] 0 s.nx.line s.nx.col [r1.1, r2.1] = U.node 26 nm.text [] 0 t.line t.col [r1.1, r2.1] := by rw [HNt.out, HNnm.out]
  rw [hu]
  exact ⟨⟨26, ⟨nm.text.toArray⟩, ⟨#[]⟩, false, none, 0, 0, some ⟨kkk, 0, none⟩, 2, 2, (t.line : Nat), (t.col : Nat)⟩, rfl, um_node 26 nm.text [] t.line t.col kkk [⟨ak, anm, aot, ab, aao, an, aq, ako, akn, akc, aln, acl⟩, ⟨bk, bnm, bot, bb, bao, bn, bq, bko, bkn, bkc, bln, bcl⟩] [r1.1, r2.1] 2 rfl (by omega) HBkk.out rfl (all2 (HUa.out.mono (fun b h => by have h : (((((Na ≤ b ∧ True) ∧ b ≠ ka) ∧ b ≠ kq2) ∧ b ≠ kb) ∧ b ≠ kkk) ∧ b ≠ kv := h; show _ ≤ b; omega)) (HUb.out.mono (fun b h => by have h : (((Nb ≤ b ∧ True) ∧ b ≠ kb) ∧ b ≠ kkk) ∧ b ≠ kv := h; show _ ≤ b; omega))), HP.out, HD.out⟩

set_option maxHeartbeats 8000000 in
theorem if_p (n : Nat) (E : Hid (ExprAt7 n)) : IfAt (n + 1) := by
  intro g s r w hps hop hc
  have HP := Lib.hid hps
  have HOP := Lib.hid hop
  clear hps hop
  rw [cIf] at hc
  simp only [Option.bind_eq_some_iff] at hc
  obtain ⟨r1, h1, r2, h2, r3, h3, hr⟩ := hc
  injection hr with hr
  subst hr
  have h1 := Lib.hid h1
  have h2 := Lib.hid h2
  have h3 := Lib.hid h3
  go_enter Tryd.func26, Tryd.ntmps26
  go_upto_region 1 with fail
  obtain ⟨w1, hw⟩ : ∃ x, x = w.alloc (.cells #[.int .i64 0, .string ⟨#[]⟩, .string ⟨#[]⟩, .bool false, .slice none 0 0, .slice none 0 0, .int .i64 0, .int .i64 0] 30) := ⟨_, rfl⟩
  have hb : Below w.heap.size w w1 := by rw [hw]; exact (Below.refl _ _).alloc (Nat.le_refl _) _
  have hk : w1.heap[w.heap.size]? = some (.cells #[.int .i64 0, .string ⟨#[]⟩, .string ⟨#[]⟩, .bool false, .slice none 0 0, .slice none 0 0, .int .i64 0, .int .i64 0] 30 (0, 0)) := by rw [hw]; exact made_at w _ _ rfl
  rw [← hw]
  obtain ⟨kr, hkk⟩ : ∃ k, k = w.heap.size := ⟨_, rfl⟩
  have hgr : g < kr := by rw [hkk]; exact HP.out.lt
  have her : w.heap.size ≤ kr := by omega
  rw [← hkk] at hk ⊢
  replace HP := Lib.hid (HP.out.below hb)
  replace HOP := Lib.hid (HOP.out.below hb)
  have HD := Lib.hid (below_grown hb (some g))
  have hsz1 := HD.out.size
  have HBr := Lib.hid hk
  clear hw hb hk hkk
  go_wp2_with fail
  refine (take_p g s w1 HP.out).mono ?_
  rintro e w2 ⟨rfl, hp, hg⟩
  replace HBr := Lib.hid ((hg.block _ (lt_of_block HBr.out) (fun e => by injection e with e; omega)).trans HBr.out)
  replace HOP := Lib.hid (HOP.out.grown hg (by omega))
  replace HP := Lib.hid hp
  replace HD := Lib.hid (grown_tr HD.out (hg))
  have hsz2 := HD.out.size
  clear hp hg
  simp only [tokV]
  obtain ⟨t, hnx⟩ : ∃ t, t = St.nx s := ⟨_, rfl⟩
  rw [← hnx]
  have HNt := Lib.hid hnx
  clear hnx
  go_upto_region 2 with fail
  obtain ⟨w3, hw⟩ : ∃ x, x = w2.alloc (.cells #[.int .i64 (t.kind : Nat), .string ⟨t.text.toArray⟩, .int .i64 (t.line : Nat), .int .i64 (t.col : Nat)] 57) := ⟨_, rfl⟩
  have hb : Below w2.heap.size w2 w3 := by rw [hw]; exact (Below.refl _ _).alloc (Nat.le_refl _) _
  have hk : w3.heap[w2.heap.size]? = some (.cells #[.int .i64 (t.kind : Nat), .string ⟨t.text.toArray⟩, .int .i64 (t.line : Nat), .int .i64 (t.col : Nat)] 57 (0, 0)) := by rw [hw]; exact made_at w2 _ _ rfl
  rw [← hw]
  obtain ⟨kt, hkk⟩ : ∃ k, k = w2.heap.size := ⟨_, rfl⟩
  have hgt : g < kt := by rw [hkk]; exact HP.out.lt
  have het : w.heap.size ≤ kt := by omega
  have hr_t : kr < kt := by rw [hkk]; exact lt_of_block HBr.out
  rw [← hkk] at hk ⊢
  replace HBr := Lib.hid ((hb.block _ (lt_of_block HBr.out)).trans HBr.out)
  replace HP := Lib.hid (HP.out.below hb)
  replace HOP := Lib.hid (HOP.out.below hb)
  replace HD := Lib.hid (grown_tr HD.out (below_grown hb (some g)))
  have hsz3 := HD.out.size
  have HBt := Lib.hid hk
  clear hw hb hk hkk
  go_wp2_with fail
  obtain ⟨Na, hN⟩ : ∃ k, k = w3.heap.size := ⟨_, rfl⟩
  have hr_Na : kr < Na := by rw [hN]; exact lt_of_block HBr.out
  have ht_Na : kt < Na := by rw [hN]; exact lt_of_block HBt.out
  have hg_Na : g < Na := by rw [hN]; exact HP.out.lt
  have he_Na : w.heap.size ≤ Na := by omega
  refine (E.out g _ _ w3 HP.out HOP.out h1.out).mono ?_
  rintro e w4 ⟨xa, rfl, hu, hp, hg⟩
  replace HBr := Lib.hid ((hg.block _ (lt_of_block HBr.out) (fun e => by injection e with e; omega)).trans HBr.out)
  replace HBt := Lib.hid ((hg.block _ (lt_of_block HBt.out) (fun e => by injection e with e; omega)).trans HBt.out)
  replace HOP := Lib.hid (HOP.out.grown hg (by omega))
  replace HP := Lib.hid hp
  replace HD := Lib.hid (grown_tr HD.out (hg))
  have hsz4 := HD.out.size
  rw [← hN] at hu
  have HUa := Lib.hid (hu.mono (S' := fun b => Na ≤ b ∧ True) (fun b h => ⟨h, trivial⟩))
  clear hN hu
  clear hp hg
  obtain ⟨ak, anm, aot, ab, aao, an, aq, ako, akn, akc, aln, acl⟩ := xa
  simp only [xv]
  go_upto_region 3 with fail
  obtain ⟨w5, hw⟩ : ∃ x, x = w4.alloc (.cells #[.int .i64 ak, .string anm, .string aot, .bool ab, .slice aao an aq, .slice ako akn akc, .int .i64 aln, .int .i64 acl] 30) := ⟨_, rfl⟩
  have hb : Below w4.heap.size w4 w5 := by rw [hw]; exact (Below.refl _ _).alloc (Nat.le_refl _) _
  have hk : w5.heap[w4.heap.size]? = some (.cells #[.int .i64 ak, .string anm, .string aot, .bool ab, .slice aao an aq, .slice ako akn akc, .int .i64 aln, .int .i64 acl] 30 (0, 0)) := by rw [hw]; exact made_at w4 _ _ rfl
  rw [← hw]
  obtain ⟨ka, hkk⟩ : ∃ k, k = w4.heap.size := ⟨_, rfl⟩
  have hga : g < ka := by rw [hkk]; exact HP.out.lt
  have hea : w.heap.size ≤ ka := by omega
  have hr_a : kr < ka := by rw [hkk]; exact lt_of_block HBr.out
  have ht_a : kt < ka := by rw [hkk]; exact lt_of_block HBt.out
  replace HUa := Lib.hid (HUa.out.off.mono (S' := fun b => (Na ≤ b ∧ True) ∧ b ≠ ka) (fun b h => ⟨h.1, fun e => h.2 (by rw [e, hkk])⟩))
  rw [← hkk] at hk ⊢
  replace HBr := Lib.hid ((hb.block _ (lt_of_block HBr.out)).trans HBr.out)
  replace HBt := Lib.hid ((hb.block _ (lt_of_block HBt.out)).trans HBt.out)
  replace HP := Lib.hid (HP.out.below hb)
  replace HUa := Lib.hid (HUa.out.below hb)
  replace HOP := Lib.hid (HOP.out.below hb)
  replace HD := Lib.hid (grown_tr HD.out (below_grown hb (some g)))
  have hsz5 := HD.out.size
  have HBa := Lib.hid hk
  clear hw hb hk hkk
  go_wp2_with fail
  obtain ⟨w6, hw⟩ : ∃ x, x = w5.alloc (.cells #[.string ⟨#[116, 104, 101, 110]⟩] 9) := ⟨_, rfl⟩
  have hb : Below w5.heap.size w5 w6 := by rw [hw]; exact (Below.refl _ _).alloc (Nat.le_refl _) _
  have hk : w6.heap[w5.heap.size]? = some (.cells #[.string ⟨#[116, 104, 101, 110]⟩] 9 (0, 0)) := by rw [hw]; exact made_at w5 _ _ rfl
  rw [← hw]
  obtain ⟨kq1, hkk⟩ : ∃ k, k = w5.heap.size := ⟨_, rfl⟩
  have hgq1 : g < kq1 := by rw [hkk]; exact HP.out.lt
  have heq1 : w.heap.size ≤ kq1 := by omega
  have hr_q1 : kr < kq1 := by rw [hkk]; exact lt_of_block HBr.out
  have ht_q1 : kt < kq1 := by rw [hkk]; exact lt_of_block HBt.out
  have ha_q1 : ka < kq1 := by rw [hkk]; exact lt_of_block HBa.out
  replace HUa := Lib.hid (HUa.out.off.mono (S' := fun b => ((Na ≤ b ∧ True) ∧ b ≠ ka) ∧ b ≠ kq1) (fun b h => ⟨h.1, fun e => h.2 (by rw [e, hkk])⟩))
  rw [← hkk] at hk ⊢
  replace HBr := Lib.hid ((hb.block _ (lt_of_block HBr.out)).trans HBr.out)
  replace HBt := Lib.hid ((hb.block _ (lt_of_block HBt.out)).trans HBt.out)
  replace HBa := Lib.hid ((hb.block _ (lt_of_block HBa.out)).trans HBa.out)
  replace HP := Lib.hid (HP.out.below hb)
  replace HUa := Lib.hid (HUa.out.below hb)
  replace HOP := Lib.hid (HOP.out.below hb)
  replace HD := Lib.hid (grown_tr HD.out (below_grown hb (some g)))
  have hsz6 := HD.out.size
  have HBq1 := Lib.hid hk
  clear hw hb hk hkk
  refine (expect_p g r1.2 [[116, 104, 101, 110]] kq1 w6 HP.out HBq1.out (by omega) (by decide)).mono ?_
  rintro e w7 ⟨⟨v, rfl⟩, hp, hg⟩
  replace HBr := Lib.hid ((hg.block _ (lt_of_block HBr.out) (fun e => by injection e with e; omega)).trans HBr.out)
  replace HBt := Lib.hid ((hg.block _ (lt_of_block HBt.out) (fun e => by injection e with e; omega)).trans HBt.out)
  replace HBa := Lib.hid ((hg.block _ (lt_of_block HBa.out) (fun e => by injection e with e; omega)).trans HBa.out)
  replace HBq1 := Lib.hid ((hg.block _ (lt_of_block HBq1.out) (fun e => by injection e with e; omega)).trans HBq1.out)
  replace HUa := Lib.hid (HUa.out.grown hg (fun h => by have h : ((Na ≤ g ∧ True) ∧ g ≠ ka) ∧ g ≠ kq1 := h; omega))
  replace HOP := Lib.hid (HOP.out.grown hg (by omega))
  replace HP := Lib.hid hp
  replace HD := Lib.hid (grown_tr HD.out (hg))
  have hsz7 := HD.out.size
  clear hp hg
  go_wp2_with fail
  obtain ⟨Nb, hN⟩ : ∃ k, k = w7.heap.size := ⟨_, rfl⟩
  have hr_Nb : kr < Nb := by rw [hN]; exact lt_of_block HBr.out
  have ht_Nb : kt < Nb := by rw [hN]; exact lt_of_block HBt.out
  have ha_Nb : ka < Nb := by rw [hN]; exact lt_of_block HBa.out
  have hg_Nb : g < Nb := by rw [hN]; exact HP.out.lt
  have he_Nb : w.heap.size ≤ Nb := by omega
  refine (E.out g _ _ w7 HP.out HOP.out h2.out).mono ?_
  rintro e w8 ⟨xb, rfl, hu, hp, hg⟩
  replace HBr := Lib.hid ((hg.block _ (lt_of_block HBr.out) (fun e => by injection e with e; omega)).trans HBr.out)
  replace HBt := Lib.hid ((hg.block _ (lt_of_block HBt.out) (fun e => by injection e with e; omega)).trans HBt.out)
  replace HBa := Lib.hid ((hg.block _ (lt_of_block HBa.out) (fun e => by injection e with e; omega)).trans HBa.out)
  replace HUa := Lib.hid (HUa.out.grown hg (fun h => by have h : ((Na ≤ g ∧ True) ∧ g ≠ ka) ∧ g ≠ kq1 := h; omega))
  replace HOP := Lib.hid (HOP.out.grown hg (by omega))
  replace HP := Lib.hid hp
  replace HD := Lib.hid (grown_tr HD.out (hg))
  have hsz8 := HD.out.size
  rw [← hN] at hu
  have HUb := Lib.hid (hu.mono (S' := fun b => Nb ≤ b ∧ True) (fun b h => ⟨h, trivial⟩))
  clear hN hu
  clear hp hg
  obtain ⟨bk, bnm, bot, bb, bao, bn, bq, bko, bkn, bkc, bln, bcl⟩ := xb
  simp only [xv]
  go_upto_region 5 with fail
  obtain ⟨w9, hw⟩ : ∃ x, x = w8.alloc (.cells #[.int .i64 bk, .string bnm, .string bot, .bool bb, .slice bao bn bq, .slice bko bkn bkc, .int .i64 bln, .int .i64 bcl] 30) := ⟨_, rfl⟩
  have hb : Below w8.heap.size w8 w9 := by rw [hw]; exact (Below.refl _ _).alloc (Nat.le_refl _) _
  have hk : w9.heap[w8.heap.size]? = some (.cells #[.int .i64 bk, .string bnm, .string bot, .bool bb, .slice bao bn bq, .slice bko bkn bkc, .int .i64 bln, .int .i64 bcl] 30 (0, 0)) := by rw [hw]; exact made_at w8 _ _ rfl
  rw [← hw]
  obtain ⟨kb, hkk⟩ : ∃ k, k = w8.heap.size := ⟨_, rfl⟩
  have hgb : g < kb := by rw [hkk]; exact HP.out.lt
  have heb : w.heap.size ≤ kb := by omega
  have hr_b : kr < kb := by rw [hkk]; exact lt_of_block HBr.out
  have ht_b : kt < kb := by rw [hkk]; exact lt_of_block HBt.out
  have ha_b : ka < kb := by rw [hkk]; exact lt_of_block HBa.out
  replace HUa := Lib.hid (HUa.out.off.mono (S' := fun b => (((Na ≤ b ∧ True) ∧ b ≠ ka) ∧ b ≠ kq1) ∧ b ≠ kb) (fun b h => ⟨h.1, fun e => h.2 (by rw [e, hkk])⟩))
  replace HUb := Lib.hid (HUb.out.off.mono (S' := fun b => (Nb ≤ b ∧ True) ∧ b ≠ kb) (fun b h => ⟨h.1, fun e => h.2 (by rw [e, hkk])⟩))
  rw [← hkk] at hk ⊢
  replace HBr := Lib.hid ((hb.block _ (lt_of_block HBr.out)).trans HBr.out)
  replace HBt := Lib.hid ((hb.block _ (lt_of_block HBt.out)).trans HBt.out)
  replace HBa := Lib.hid ((hb.block _ (lt_of_block HBa.out)).trans HBa.out)
  replace HP := Lib.hid (HP.out.below hb)
  replace HUa := Lib.hid (HUa.out.below hb)
  replace HUb := Lib.hid (HUb.out.below hb)
  replace HOP := Lib.hid (HOP.out.below hb)
  replace HD := Lib.hid (grown_tr HD.out (below_grown hb (some g)))
  have hsz9 := HD.out.size
  have HBb := Lib.hid hk
  clear hw hb hk hkk
  go_wp2_with fail
  obtain ⟨w10, hw⟩ : ∃ x, x = w9.alloc (.cells #[.string ⟨#[101, 108, 115, 101]⟩] 9) := ⟨_, rfl⟩
  have hb : Below w9.heap.size w9 w10 := by rw [hw]; exact (Below.refl _ _).alloc (Nat.le_refl _) _
  have hk : w10.heap[w9.heap.size]? = some (.cells #[.string ⟨#[101, 108, 115, 101]⟩] 9 (0, 0)) := by rw [hw]; exact made_at w9 _ _ rfl
  rw [← hw]
  obtain ⟨kq2, hkk⟩ : ∃ k, k = w9.heap.size := ⟨_, rfl⟩
  have hgq2 : g < kq2 := by rw [hkk]; exact HP.out.lt
  have heq2 : w.heap.size ≤ kq2 := by omega
  have hr_q2 : kr < kq2 := by rw [hkk]; exact lt_of_block HBr.out
  have ht_q2 : kt < kq2 := by rw [hkk]; exact lt_of_block HBt.out
  have ha_q2 : ka < kq2 := by rw [hkk]; exact lt_of_block HBa.out
  have hb_q2 : kb < kq2 := by rw [hkk]; exact lt_of_block HBb.out
  replace HUa := Lib.hid (HUa.out.off.mono (S' := fun b => ((((Na ≤ b ∧ True) ∧ b ≠ ka) ∧ b ≠ kq1) ∧ b ≠ kb) ∧ b ≠ kq2) (fun b h => ⟨h.1, fun e => h.2 (by rw [e, hkk])⟩))
  replace HUb := Lib.hid (HUb.out.off.mono (S' := fun b => ((Nb ≤ b ∧ True) ∧ b ≠ kb) ∧ b ≠ kq2) (fun b h => ⟨h.1, fun e => h.2 (by rw [e, hkk])⟩))
  rw [← hkk] at hk ⊢
  replace HBr := Lib.hid ((hb.block _ (lt_of_block HBr.out)).trans HBr.out)
  replace HBt := Lib.hid ((hb.block _ (lt_of_block HBt.out)).trans HBt.out)
  replace HBa := Lib.hid ((hb.block _ (lt_of_block HBa.out)).trans HBa.out)
  replace HBb := Lib.hid ((hb.block _ (lt_of_block HBb.out)).trans HBb.out)
  replace HP := Lib.hid (HP.out.below hb)
  replace HUa := Lib.hid (HUa.out.below hb)
  replace HUb := Lib.hid (HUb.out.below hb)
  replace HOP := Lib.hid (HOP.out.below hb)
  replace HD := Lib.hid (grown_tr HD.out (below_grown hb (some g)))
  have hsz10 := HD.out.size
  have HBq2 := Lib.hid hk
  clear hw hb hk hkk
  refine (expect_p g r2.2 [[101, 108, 115, 101]] kq2 w10 HP.out HBq2.out (by omega) (by decide)).mono ?_
  rintro e w11 ⟨⟨v, rfl⟩, hp, hg⟩
  replace HBr := Lib.hid ((hg.block _ (lt_of_block HBr.out) (fun e => by injection e with e; omega)).trans HBr.out)
  replace HBt := Lib.hid ((hg.block _ (lt_of_block HBt.out) (fun e => by injection e with e; omega)).trans HBt.out)
  replace HBa := Lib.hid ((hg.block _ (lt_of_block HBa.out) (fun e => by injection e with e; omega)).trans HBa.out)
  replace HBb := Lib.hid ((hg.block _ (lt_of_block HBb.out) (fun e => by injection e with e; omega)).trans HBb.out)
  replace HBq2 := Lib.hid ((hg.block _ (lt_of_block HBq2.out) (fun e => by injection e with e; omega)).trans HBq2.out)
  replace HUa := Lib.hid (HUa.out.grown hg (fun h => by have h : ((((Na ≤ g ∧ True) ∧ g ≠ ka) ∧ g ≠ kq1) ∧ g ≠ kb) ∧ g ≠ kq2 := h; omega))
  replace HUb := Lib.hid (HUb.out.grown hg (fun h => by have h : ((Nb ≤ g ∧ True) ∧ g ≠ kb) ∧ g ≠ kq2 := h; omega))
  replace HOP := Lib.hid (HOP.out.grown hg (by omega))
  replace HP := Lib.hid hp
  replace HD := Lib.hid (grown_tr HD.out (hg))
  have hsz11 := HD.out.size
  clear hp hg
  go_wp2_with fail
  obtain ⟨Nc, hN⟩ : ∃ k, k = w11.heap.size := ⟨_, rfl⟩
  have hr_Nc : kr < Nc := by rw [hN]; exact lt_of_block HBr.out
  have ht_Nc : kt < Nc := by rw [hN]; exact lt_of_block HBt.out
  have ha_Nc : ka < Nc := by rw [hN]; exact lt_of_block HBa.out
  have hb_Nc : kb < Nc := by rw [hN]; exact lt_of_block HBb.out
  have hg_Nc : g < Nc := by rw [hN]; exact HP.out.lt
  have he_Nc : w.heap.size ≤ Nc := by omega
  refine (E.out g _ _ w11 HP.out HOP.out h3.out).mono ?_
  rintro e w12 ⟨xc, rfl, hu, hp, hg⟩
  replace HBr := Lib.hid ((hg.block _ (lt_of_block HBr.out) (fun e => by injection e with e; omega)).trans HBr.out)
  replace HBt := Lib.hid ((hg.block _ (lt_of_block HBt.out) (fun e => by injection e with e; omega)).trans HBt.out)
  replace HBa := Lib.hid ((hg.block _ (lt_of_block HBa.out) (fun e => by injection e with e; omega)).trans HBa.out)
  replace HBb := Lib.hid ((hg.block _ (lt_of_block HBb.out) (fun e => by injection e with e; omega)).trans HBb.out)
  replace HUa := Lib.hid (HUa.out.grown hg (fun h => by have h : ((((Na ≤ g ∧ True) ∧ g ≠ ka) ∧ g ≠ kq1) ∧ g ≠ kb) ∧ g ≠ kq2 := h; omega))
  replace HUb := Lib.hid (HUb.out.grown hg (fun h => by have h : ((Nb ≤ g ∧ True) ∧ g ≠ kb) ∧ g ≠ kq2 := h; omega))
  replace HOP := Lib.hid (HOP.out.grown hg (by omega))
  replace HP := Lib.hid hp
  replace HD := Lib.hid (grown_tr HD.out (hg))
  have hsz12 := HD.out.size
  rw [← hN] at hu
  have HUc := Lib.hid (hu.mono (S' := fun b => Nc ≤ b ∧ True) (fun b h => ⟨h, trivial⟩))
  clear hN hu
  clear hp hg
  obtain ⟨ck, cnm, cot, cb, cao, cn, cq, cko, ckn, ckc, cln, ccl⟩ := xc
  simp only [xv]
  go_upto_region 7 with fail
  obtain ⟨w13, hw⟩ : ∃ x, x = w12.alloc (.cells #[.int .i64 ck, .string cnm, .string cot, .bool cb, .slice cao cn cq, .slice cko ckn ckc, .int .i64 cln, .int .i64 ccl] 30) := ⟨_, rfl⟩
  have hb : Below w12.heap.size w12 w13 := by rw [hw]; exact (Below.refl _ _).alloc (Nat.le_refl _) _
  have hk : w13.heap[w12.heap.size]? = some (.cells #[.int .i64 ck, .string cnm, .string cot, .bool cb, .slice cao cn cq, .slice cko ckn ckc, .int .i64 cln, .int .i64 ccl] 30 (0, 0)) := by rw [hw]; exact made_at w12 _ _ rfl
  rw [← hw]
  obtain ⟨kc, hkk⟩ : ∃ k, k = w12.heap.size := ⟨_, rfl⟩
  have hgc : g < kc := by rw [hkk]; exact HP.out.lt
  have hec : w.heap.size ≤ kc := by omega
  have hr_c : kr < kc := by rw [hkk]; exact lt_of_block HBr.out
  have ht_c : kt < kc := by rw [hkk]; exact lt_of_block HBt.out
  have ha_c : ka < kc := by rw [hkk]; exact lt_of_block HBa.out
  have hb_c : kb < kc := by rw [hkk]; exact lt_of_block HBb.out
  replace HUa := Lib.hid (HUa.out.off.mono (S' := fun b => (((((Na ≤ b ∧ True) ∧ b ≠ ka) ∧ b ≠ kq1) ∧ b ≠ kb) ∧ b ≠ kq2) ∧ b ≠ kc) (fun b h => ⟨h.1, fun e => h.2 (by rw [e, hkk])⟩))
  replace HUb := Lib.hid (HUb.out.off.mono (S' := fun b => (((Nb ≤ b ∧ True) ∧ b ≠ kb) ∧ b ≠ kq2) ∧ b ≠ kc) (fun b h => ⟨h.1, fun e => h.2 (by rw [e, hkk])⟩))
  replace HUc := Lib.hid (HUc.out.off.mono (S' := fun b => (Nc ≤ b ∧ True) ∧ b ≠ kc) (fun b h => ⟨h.1, fun e => h.2 (by rw [e, hkk])⟩))
  rw [← hkk] at hk ⊢
  replace HBr := Lib.hid ((hb.block _ (lt_of_block HBr.out)).trans HBr.out)
  replace HBt := Lib.hid ((hb.block _ (lt_of_block HBt.out)).trans HBt.out)
  replace HBa := Lib.hid ((hb.block _ (lt_of_block HBa.out)).trans HBa.out)
  replace HBb := Lib.hid ((hb.block _ (lt_of_block HBb.out)).trans HBb.out)
  replace HP := Lib.hid (HP.out.below hb)
  replace HUa := Lib.hid (HUa.out.below hb)
  replace HUb := Lib.hid (HUb.out.below hb)
  replace HUc := Lib.hid (HUc.out.below hb)
  replace HOP := Lib.hid (HOP.out.below hb)
  replace HD := Lib.hid (grown_tr HD.out (below_grown hb (some g)))
  have hsz13 := HD.out.size
  have HBc := Lib.hid hk
  clear hw hb hk hkk
  have ct0 := cell_at (v := .int .i64 (t.kind : Nat)) HBt.out 0 rfl
  have ct1 := cell_at (v := .string ⟨t.text.toArray⟩) HBt.out 1 rfl
  have ct2 := cell_at (v := .int .i64 (t.line : Nat)) HBt.out 2 rfl
  have ct3 := cell_at (v := .int .i64 (t.col : Nat)) HBt.out 3 rfl
  have ca0 := cell_at (v := .int .i64 ak) HBa.out 0 rfl
  have ca1 := cell_at (v := .string anm) HBa.out 1 rfl
  have ca2 := cell_at (v := .string aot) HBa.out 2 rfl
  have ca3 := cell_at (v := .bool ab) HBa.out 3 rfl
  have ca4 := cell_at (v := .slice aao an aq) HBa.out 4 rfl
  have ca5 := cell_at (v := .slice ako akn akc) HBa.out 5 rfl
  have ca6 := cell_at (v := .int .i64 aln) HBa.out 6 rfl
  have ca7 := cell_at (v := .int .i64 acl) HBa.out 7 rfl
  have cb0 := cell_at (v := .int .i64 bk) HBb.out 0 rfl
  have cb1 := cell_at (v := .string bnm) HBb.out 1 rfl
  have cb2 := cell_at (v := .string bot) HBb.out 2 rfl
  have cb3 := cell_at (v := .bool bb) HBb.out 3 rfl
  have cb4 := cell_at (v := .slice bao bn bq) HBb.out 4 rfl
  have cb5 := cell_at (v := .slice bko bkn bkc) HBb.out 5 rfl
  have cb6 := cell_at (v := .int .i64 bln) HBb.out 6 rfl
  have cb7 := cell_at (v := .int .i64 bcl) HBb.out 7 rfl
  have cc0 := cell_at (v := .int .i64 ck) HBc.out 0 rfl
  have cc1 := cell_at (v := .string cnm) HBc.out 1 rfl
  have cc2 := cell_at (v := .string cot) HBc.out 2 rfl
  have cc3 := cell_at (v := .bool cb) HBc.out 3 rfl
  have cc4 := cell_at (v := .slice cao cn cq) HBc.out 4 rfl
  have cc5 := cell_at (v := .slice cko ckn ckc) HBc.out 5 rfl
  have cc6 := cell_at (v := .int .i64 cln) HBc.out 6 rfl
  have cc7 := cell_at (v := .int .i64 ccl) HBc.out 7 rfl
  go_wp2_with fail
  clear ct0 ct1 ct2 ct3 ca0 ca1 ca2 ca3 ca4 ca5 ca6 ca7 cb0 cb1 cb2 cb3 cb4 cb5 cb6 cb7 cc0 cc1 cc2 cc3 cc4 cc5 cc6 cc7
  obtain ⟨w14, hw⟩ : ∃ x, x = w13.alloc (.cells #[.int .i64 ak, .string anm, .string aot, .bool ab, .slice aao an aq, .slice ako akn akc, .int .i64 aln, .int .i64 acl, .int .i64 bk, .string bnm, .string bot, .bool bb, .slice bao bn bq, .slice bko bkn bkc, .int .i64 bln, .int .i64 bcl, .int .i64 ck, .string cnm, .string cot, .bool cb, .slice cao cn cq, .slice cko ckn ckc, .int .i64 cln, .int .i64 ccl] 30) := ⟨_, rfl⟩
  have hb : Below w13.heap.size w13 w14 := by rw [hw]; exact (Below.refl _ _).alloc (Nat.le_refl _) _
  have hk : w14.heap[w13.heap.size]? = some (.cells #[.int .i64 ak, .string anm, .string aot, .bool ab, .slice aao an aq, .slice ako akn akc, .int .i64 aln, .int .i64 acl, .int .i64 bk, .string bnm, .string bot, .bool bb, .slice bao bn bq, .slice bko bkn bkc, .int .i64 bln, .int .i64 bcl, .int .i64 ck, .string cnm, .string cot, .bool cb, .slice cao cn cq, .slice cko ckn ckc, .int .i64 cln, .int .i64 ccl] 30 (0, 0)) := by rw [hw]; exact made_at w13 _ _ rfl
  rw [← hw]
  obtain ⟨kkk, hkk⟩ : ∃ k, k = w13.heap.size := ⟨_, rfl⟩
  have hgkk : g < kkk := by rw [hkk]; exact HP.out.lt
  have hekk : w.heap.size ≤ kkk := by omega
  have hr_kk : kr < kkk := by rw [hkk]; exact lt_of_block HBr.out
  have ht_kk : kt < kkk := by rw [hkk]; exact lt_of_block HBt.out
  have ha_kk : ka < kkk := by rw [hkk]; exact lt_of_block HBa.out
  have hb_kk : kb < kkk := by rw [hkk]; exact lt_of_block HBb.out
  have hc_kk : kc < kkk := by rw [hkk]; exact lt_of_block HBc.out
  replace HUa := Lib.hid (HUa.out.off.mono (S' := fun b => ((((((Na ≤ b ∧ True) ∧ b ≠ ka) ∧ b ≠ kq1) ∧ b ≠ kb) ∧ b ≠ kq2) ∧ b ≠ kc) ∧ b ≠ kkk) (fun b h => ⟨h.1, fun e => h.2 (by rw [e, hkk])⟩))
  replace HUb := Lib.hid (HUb.out.off.mono (S' := fun b => ((((Nb ≤ b ∧ True) ∧ b ≠ kb) ∧ b ≠ kq2) ∧ b ≠ kc) ∧ b ≠ kkk) (fun b h => ⟨h.1, fun e => h.2 (by rw [e, hkk])⟩))
  replace HUc := Lib.hid (HUc.out.off.mono (S' := fun b => ((Nc ≤ b ∧ True) ∧ b ≠ kc) ∧ b ≠ kkk) (fun b h => ⟨h.1, fun e => h.2 (by rw [e, hkk])⟩))
  rw [← hkk] at hk ⊢
  replace HBr := Lib.hid ((hb.block _ (lt_of_block HBr.out)).trans HBr.out)
  replace HBt := Lib.hid ((hb.block _ (lt_of_block HBt.out)).trans HBt.out)
  replace HBa := Lib.hid ((hb.block _ (lt_of_block HBa.out)).trans HBa.out)
  replace HBb := Lib.hid ((hb.block _ (lt_of_block HBb.out)).trans HBb.out)
  replace HBc := Lib.hid ((hb.block _ (lt_of_block HBc.out)).trans HBc.out)
  replace HP := Lib.hid (HP.out.below hb)
  replace HUa := Lib.hid (HUa.out.below hb)
  replace HUb := Lib.hid (HUb.out.below hb)
  replace HUc := Lib.hid (HUc.out.below hb)
  replace HOP := Lib.hid (HOP.out.below hb)
  replace HD := Lib.hid (grown_tr HD.out (below_grown hb (some g)))
  have hsz14 := HD.out.size
  have HBkk := Lib.hid hk
  clear hw hb hk hkk
  refine (part_p 25 t (some ⟨kkk, 0, none⟩) 3 3 w14).mono ?_
  rintro e w15 ⟨rfl, hb⟩
  replace HBr := Lib.hid ((hb.block _ (lt_of_block HBr.out)).trans HBr.out)
  replace HBt := Lib.hid ((hb.block _ (lt_of_block HBt.out)).trans HBt.out)
  replace HBa := Lib.hid ((hb.block _ (lt_of_block HBa.out)).trans HBa.out)
  replace HBb := Lib.hid ((hb.block _ (lt_of_block HBb.out)).trans HBb.out)
  replace HBc := Lib.hid ((hb.block _ (lt_of_block HBc.out)).trans HBc.out)
  replace HBkk := Lib.hid ((hb.block _ (lt_of_block HBkk.out)).trans HBkk.out)
  replace HP := Lib.hid (HP.out.below hb)
  replace HUa := Lib.hid (HUa.out.below hb)
  replace HUb := Lib.hid (HUb.out.below hb)
  replace HUc := Lib.hid (HUc.out.below hb)
  replace HOP := Lib.hid (HOP.out.below hb)
  replace HD := Lib.hid (grown_tr HD.out (below_grown hb (some g)))
  have hsz15 := HD.out.size
  clear hb
  simp only [xv]
  have z0 := cell_at (v := .int .i64 0) HBr.out 0 rfl
  have fz0 := froz_at HBr.out 0
  have z1 := cell_at (v := .string ⟨#[]⟩) HBr.out 1 rfl
  have fz1 := froz_at HBr.out 1
  have z2 := cell_at (v := .string ⟨#[]⟩) HBr.out 2 rfl
  have fz2 := froz_at HBr.out 2
  have z3 := cell_at (v := .bool false) HBr.out 3 rfl
  have fz3 := froz_at HBr.out 3
  have z4 := cell_at (v := .slice none 0 0) HBr.out 4 rfl
  have fz4 := froz_at HBr.out 4
  have z5 := cell_at (v := .slice none 0 0) HBr.out 5 rfl
  have fz5 := froz_at HBr.out 5
  have z6 := cell_at (v := .int .i64 0) HBr.out 6 rfl
  have fz6 := froz_at HBr.out 6
  have z7 := cell_at (v := .int .i64 0) HBr.out 7 rfl
  have fz7 := froz_at HBr.out 7
  go_wp2_with fail
  refine bodyPost_ret (v := .agg #[.int .i64 25, .string ⟨#[]⟩, .string ⟨#[]⟩, .bool false, .slice none 0 0, .slice (some ⟨kkk, 0, none⟩) 3 3, .int .i64 (t.line : Nat), .int .i64 (t.col : Nat)]) (by simp [results, Tryd.results26, go_sem, z0, z1, z2, z3, z4, z5, z6, z7]) rfl ?_
  obtain ⟨wz, hw⟩ : ∃ x, x = st8 w15 kr (.int .i64 25) (.string ⟨#[]⟩) (.string ⟨#[]⟩) (.bool false) (.slice none 0 0) (.slice (some ⟨kkk, 0, none⟩) 3 3) (.int .i64 (t.line : Nat)) (.int .i64 (t.col : Nat)) := ⟨_, rfl⟩
  have hg : w15.grownBy wz (some kr) := by rw [hw]; exact st8_grown _ _ _ _ _ _ _ _ _ _
  change TreePost w g _ _ _ (st8 w15 kr (.int .i64 25) (.string ⟨#[]⟩) (.string ⟨#[]⟩) (.bool false) (.slice none 0 0) (.slice (some ⟨kkk, 0, none⟩) 3 3) (.int .i64 (t.line : Nat)) (.int .i64 (t.col : Nat)))
  rw [← hw]
  clear z0 fz0 z1 fz1 z2 fz2 z3 fz3 z4 fz4 z5 fz5 z6 fz6 z7 fz7
  replace HP := Lib.hid (HP.out.store HBr.out (by decide) (by omega) hg)
  replace HBt := Lib.hid ((hg.block _ (lt_of_block HBt.out) (fun e => by injection e with e; omega)).trans HBt.out)
  replace HBa := Lib.hid ((hg.block _ (lt_of_block HBa.out) (fun e => by injection e with e; omega)).trans HBa.out)
  replace HBb := Lib.hid ((hg.block _ (lt_of_block HBb.out) (fun e => by injection e with e; omega)).trans HBb.out)
  replace HBc := Lib.hid ((hg.block _ (lt_of_block HBc.out) (fun e => by injection e with e; omega)).trans HBc.out)
  replace HBkk := Lib.hid ((hg.block _ (lt_of_block HBkk.out) (fun e => by injection e with e; omega)).trans HBkk.out)
  replace HUa := Lib.hid (HUa.out.grown hg (fun h => by have h : ((((((Na ≤ kr ∧ True) ∧ kr ≠ ka) ∧ kr ≠ kq1) ∧ kr ≠ kb) ∧ kr ≠ kq2) ∧ kr ≠ kc) ∧ kr ≠ kkk := h; omega))
  replace HUb := Lib.hid (HUb.out.grown hg (fun h => by have h : ((((Nb ≤ kr ∧ True) ∧ kr ≠ kb) ∧ kr ≠ kq2) ∧ kr ≠ kc) ∧ kr ≠ kkk := h; omega))
  replace HUc := Lib.hid (HUc.out.grown hg (fun h => by have h : ((Nc ≤ kr ∧ True) ∧ kr ≠ kc) ∧ kr ≠ kkk := h; omega))
  replace HOP := Lib.hid (HOP.out.grown hg (by omega))
  replace HD := Lib.hid (grown_new HD.out hg (by omega))
  have hsz15 := HD.out.size
  clear hw hg
  have hu : U.node 25 [] [] 0 s.nx.line s.nx.col [r1.1, r2.1, r3.1] = U.node 25 [] [] 0 t.line t.col [r1.1, r2.1, r3.1] := by rw [HNt.out]
  unfold prt
  rw [hu]
  exact ⟨⟨25, ⟨#[]⟩, ⟨#[]⟩, false, none, 0, 0, some ⟨kkk, 0, none⟩, 3, 3, (t.line : Nat), (t.col : Nat)⟩, rfl, um_node 25 [] [] t.line t.col kkk [⟨ak, anm, aot, ab, aao, an, aq, ako, akn, akc, aln, acl⟩, ⟨bk, bnm, bot, bb, bao, bn, bq, bko, bkn, bkc, bln, bcl⟩, ⟨ck, cnm, cot, cb, cao, cn, cq, cko, ckn, ckc, cln, ccl⟩] [r1.1, r2.1, r3.1] 3 rfl (by omega) HBkk.out rfl (all3 (HUa.out.mono (fun b h => by have h : ((((((Na ≤ b ∧ True) ∧ b ≠ ka) ∧ b ≠ kq1) ∧ b ≠ kb) ∧ b ≠ kq2) ∧ b ≠ kc) ∧ b ≠ kkk := h; show _ ≤ b; omega)) (HUb.out.mono (fun b h => by have h : ((((Nb ≤ b ∧ True) ∧ b ≠ kb) ∧ b ≠ kq2) ∧ b ≠ kc) ∧ b ≠ kkk := h; show _ ≤ b; omega)) (HUc.out.mono (fun b h => by have h : ((Nc ≤ b ∧ True) ∧ b ≠ kc) ∧ b ≠ kkk := h; show _ ≤ b; omega))), HP.out, HD.out⟩

set_option maxHeartbeats 8000000 in
theorem assert_p (n : Nat) (E : Hid (ExprAt7 n)) : AssertAt (n + 1) := by
  intro g s r w hps hop hc
  have HP := Lib.hid hps
  have HOP := Lib.hid hop
  clear hps hop
  rw [cAssert] at hc
  simp only [Option.bind_eq_some_iff] at hc
  obtain ⟨r1, h1, r2, h2, hr⟩ := hc
  injection hr with hr
  subst hr
  have h1 := Lib.hid h1
  have h2 := Lib.hid h2
  go_enter Tryd.func28, Tryd.ntmps28
  go_upto_region 1 with fail
  obtain ⟨w1, hw⟩ : ∃ x, x = w.alloc (.cells #[.int .i64 0, .string ⟨#[]⟩, .string ⟨#[]⟩, .bool false, .slice none 0 0, .slice none 0 0, .int .i64 0, .int .i64 0] 30) := ⟨_, rfl⟩
  have hb : Below w.heap.size w w1 := by rw [hw]; exact (Below.refl _ _).alloc (Nat.le_refl _) _
  have hk : w1.heap[w.heap.size]? = some (.cells #[.int .i64 0, .string ⟨#[]⟩, .string ⟨#[]⟩, .bool false, .slice none 0 0, .slice none 0 0, .int .i64 0, .int .i64 0] 30 (0, 0)) := by rw [hw]; exact made_at w _ _ rfl
  rw [← hw]
  obtain ⟨kr, hkk⟩ : ∃ k, k = w.heap.size := ⟨_, rfl⟩
  have hgr : g < kr := by rw [hkk]; exact HP.out.lt
  have her : w.heap.size ≤ kr := by omega
  rw [← hkk] at hk ⊢
  replace HP := Lib.hid (HP.out.below hb)
  replace HOP := Lib.hid (HOP.out.below hb)
  have HD := Lib.hid (below_grown hb (some g))
  have hsz1 := HD.out.size
  have HBr := Lib.hid hk
  clear hw hb hk hkk
  go_wp2_with fail
  refine (take_p g s w1 HP.out).mono ?_
  rintro e w2 ⟨rfl, hp, hg⟩
  replace HBr := Lib.hid ((hg.block _ (lt_of_block HBr.out) (fun e => by injection e with e; omega)).trans HBr.out)
  replace HOP := Lib.hid (HOP.out.grown hg (by omega))
  replace HP := Lib.hid hp
  replace HD := Lib.hid (grown_tr HD.out (hg))
  have hsz2 := HD.out.size
  clear hp hg
  simp only [tokV]
  obtain ⟨t, hnx⟩ : ∃ t, t = St.nx s := ⟨_, rfl⟩
  rw [← hnx]
  have HNt := Lib.hid hnx
  clear hnx
  go_upto_region 2 with fail
  obtain ⟨w3, hw⟩ : ∃ x, x = w2.alloc (.cells #[.int .i64 (t.kind : Nat), .string ⟨t.text.toArray⟩, .int .i64 (t.line : Nat), .int .i64 (t.col : Nat)] 57) := ⟨_, rfl⟩
  have hb : Below w2.heap.size w2 w3 := by rw [hw]; exact (Below.refl _ _).alloc (Nat.le_refl _) _
  have hk : w3.heap[w2.heap.size]? = some (.cells #[.int .i64 (t.kind : Nat), .string ⟨t.text.toArray⟩, .int .i64 (t.line : Nat), .int .i64 (t.col : Nat)] 57 (0, 0)) := by rw [hw]; exact made_at w2 _ _ rfl
  rw [← hw]
  obtain ⟨kt, hkk⟩ : ∃ k, k = w2.heap.size := ⟨_, rfl⟩
  have hgt : g < kt := by rw [hkk]; exact HP.out.lt
  have het : w.heap.size ≤ kt := by omega
  have hr_t : kr < kt := by rw [hkk]; exact lt_of_block HBr.out
  rw [← hkk] at hk ⊢
  replace HBr := Lib.hid ((hb.block _ (lt_of_block HBr.out)).trans HBr.out)
  replace HP := Lib.hid (HP.out.below hb)
  replace HOP := Lib.hid (HOP.out.below hb)
  replace HD := Lib.hid (grown_tr HD.out (below_grown hb (some g)))
  have hsz3 := HD.out.size
  have HBt := Lib.hid hk
  clear hw hb hk hkk
  go_wp2_with fail
  obtain ⟨Na, hN⟩ : ∃ k, k = w3.heap.size := ⟨_, rfl⟩
  have hr_Na : kr < Na := by rw [hN]; exact lt_of_block HBr.out
  have ht_Na : kt < Na := by rw [hN]; exact lt_of_block HBt.out
  have hg_Na : g < Na := by rw [hN]; exact HP.out.lt
  have he_Na : w.heap.size ≤ Na := by omega
  refine (E.out g _ _ w3 HP.out HOP.out h1.out).mono ?_
  rintro e w4 ⟨xa, rfl, hu, hp, hg⟩
  replace HBr := Lib.hid ((hg.block _ (lt_of_block HBr.out) (fun e => by injection e with e; omega)).trans HBr.out)
  replace HBt := Lib.hid ((hg.block _ (lt_of_block HBt.out) (fun e => by injection e with e; omega)).trans HBt.out)
  replace HOP := Lib.hid (HOP.out.grown hg (by omega))
  replace HP := Lib.hid hp
  replace HD := Lib.hid (grown_tr HD.out (hg))
  have hsz4 := HD.out.size
  rw [← hN] at hu
  have HUa := Lib.hid (hu.mono (S' := fun b => Na ≤ b ∧ True) (fun b h => ⟨h, trivial⟩))
  clear hN hu
  clear hp hg
  obtain ⟨ak, anm, aot, ab, aao, an, aq, ako, akn, akc, aln, acl⟩ := xa
  simp only [xv]
  go_upto_region 3 with fail
  obtain ⟨w5, hw⟩ : ∃ x, x = w4.alloc (.cells #[.int .i64 ak, .string anm, .string aot, .bool ab, .slice aao an aq, .slice ako akn akc, .int .i64 aln, .int .i64 acl] 30) := ⟨_, rfl⟩
  have hb : Below w4.heap.size w4 w5 := by rw [hw]; exact (Below.refl _ _).alloc (Nat.le_refl _) _
  have hk : w5.heap[w4.heap.size]? = some (.cells #[.int .i64 ak, .string anm, .string aot, .bool ab, .slice aao an aq, .slice ako akn akc, .int .i64 aln, .int .i64 acl] 30 (0, 0)) := by rw [hw]; exact made_at w4 _ _ rfl
  rw [← hw]
  obtain ⟨ka, hkk⟩ : ∃ k, k = w4.heap.size := ⟨_, rfl⟩
  have hga : g < ka := by rw [hkk]; exact HP.out.lt
  have hea : w.heap.size ≤ ka := by omega
  have hr_a : kr < ka := by rw [hkk]; exact lt_of_block HBr.out
  have ht_a : kt < ka := by rw [hkk]; exact lt_of_block HBt.out
  replace HUa := Lib.hid (HUa.out.off.mono (S' := fun b => (Na ≤ b ∧ True) ∧ b ≠ ka) (fun b h => ⟨h.1, fun e => h.2 (by rw [e, hkk])⟩))
  rw [← hkk] at hk ⊢
  replace HBr := Lib.hid ((hb.block _ (lt_of_block HBr.out)).trans HBr.out)
  replace HBt := Lib.hid ((hb.block _ (lt_of_block HBt.out)).trans HBt.out)
  replace HP := Lib.hid (HP.out.below hb)
  replace HUa := Lib.hid (HUa.out.below hb)
  replace HOP := Lib.hid (HOP.out.below hb)
  replace HD := Lib.hid (grown_tr HD.out (below_grown hb (some g)))
  have hsz5 := HD.out.size
  have HBa := Lib.hid hk
  clear hw hb hk hkk
  go_wp2_with fail
  obtain ⟨w6, hw⟩ : ∃ x, x = w5.alloc (.cells #[.string ⟨#[59]⟩] 9) := ⟨_, rfl⟩
  have hb : Below w5.heap.size w5 w6 := by rw [hw]; exact (Below.refl _ _).alloc (Nat.le_refl _) _
  have hk : w6.heap[w5.heap.size]? = some (.cells #[.string ⟨#[59]⟩] 9 (0, 0)) := by rw [hw]; exact made_at w5 _ _ rfl
  rw [← hw]
  obtain ⟨kq1, hkk⟩ : ∃ k, k = w5.heap.size := ⟨_, rfl⟩
  have hgq1 : g < kq1 := by rw [hkk]; exact HP.out.lt
  have heq1 : w.heap.size ≤ kq1 := by omega
  have hr_q1 : kr < kq1 := by rw [hkk]; exact lt_of_block HBr.out
  have ht_q1 : kt < kq1 := by rw [hkk]; exact lt_of_block HBt.out
  have ha_q1 : ka < kq1 := by rw [hkk]; exact lt_of_block HBa.out
  replace HUa := Lib.hid (HUa.out.off.mono (S' := fun b => ((Na ≤ b ∧ True) ∧ b ≠ ka) ∧ b ≠ kq1) (fun b h => ⟨h.1, fun e => h.2 (by rw [e, hkk])⟩))
  rw [← hkk] at hk ⊢
  replace HBr := Lib.hid ((hb.block _ (lt_of_block HBr.out)).trans HBr.out)
  replace HBt := Lib.hid ((hb.block _ (lt_of_block HBt.out)).trans HBt.out)
  replace HBa := Lib.hid ((hb.block _ (lt_of_block HBa.out)).trans HBa.out)
  replace HP := Lib.hid (HP.out.below hb)
  replace HUa := Lib.hid (HUa.out.below hb)
  replace HOP := Lib.hid (HOP.out.below hb)
  replace HD := Lib.hid (grown_tr HD.out (below_grown hb (some g)))
  have hsz6 := HD.out.size
  have HBq1 := Lib.hid hk
  clear hw hb hk hkk
  refine (expect_p g r1.2 [[59]] kq1 w6 HP.out HBq1.out (by omega) (by decide)).mono ?_
  rintro e w7 ⟨⟨v, rfl⟩, hp, hg⟩
  replace HBr := Lib.hid ((hg.block _ (lt_of_block HBr.out) (fun e => by injection e with e; omega)).trans HBr.out)
  replace HBt := Lib.hid ((hg.block _ (lt_of_block HBt.out) (fun e => by injection e with e; omega)).trans HBt.out)
  replace HBa := Lib.hid ((hg.block _ (lt_of_block HBa.out) (fun e => by injection e with e; omega)).trans HBa.out)
  replace HBq1 := Lib.hid ((hg.block _ (lt_of_block HBq1.out) (fun e => by injection e with e; omega)).trans HBq1.out)
  replace HUa := Lib.hid (HUa.out.grown hg (fun h => by have h : ((Na ≤ g ∧ True) ∧ g ≠ ka) ∧ g ≠ kq1 := h; omega))
  replace HOP := Lib.hid (HOP.out.grown hg (by omega))
  replace HP := Lib.hid hp
  replace HD := Lib.hid (grown_tr HD.out (hg))
  have hsz7 := HD.out.size
  clear hp hg
  go_wp2_with fail
  obtain ⟨Nb, hN⟩ : ∃ k, k = w7.heap.size := ⟨_, rfl⟩
  have hr_Nb : kr < Nb := by rw [hN]; exact lt_of_block HBr.out
  have ht_Nb : kt < Nb := by rw [hN]; exact lt_of_block HBt.out
  have ha_Nb : ka < Nb := by rw [hN]; exact lt_of_block HBa.out
  have hg_Nb : g < Nb := by rw [hN]; exact HP.out.lt
  have he_Nb : w.heap.size ≤ Nb := by omega
  refine (E.out g _ _ w7 HP.out HOP.out h2.out).mono ?_
  rintro e w8 ⟨xb, rfl, hu, hp, hg⟩
  replace HBr := Lib.hid ((hg.block _ (lt_of_block HBr.out) (fun e => by injection e with e; omega)).trans HBr.out)
  replace HBt := Lib.hid ((hg.block _ (lt_of_block HBt.out) (fun e => by injection e with e; omega)).trans HBt.out)
  replace HBa := Lib.hid ((hg.block _ (lt_of_block HBa.out) (fun e => by injection e with e; omega)).trans HBa.out)
  replace HUa := Lib.hid (HUa.out.grown hg (fun h => by have h : ((Na ≤ g ∧ True) ∧ g ≠ ka) ∧ g ≠ kq1 := h; omega))
  replace HOP := Lib.hid (HOP.out.grown hg (by omega))
  replace HP := Lib.hid hp
  replace HD := Lib.hid (grown_tr HD.out (hg))
  have hsz8 := HD.out.size
  rw [← hN] at hu
  have HUb := Lib.hid (hu.mono (S' := fun b => Nb ≤ b ∧ True) (fun b h => ⟨h, trivial⟩))
  clear hN hu
  clear hp hg
  obtain ⟨bk, bnm, bot, bb, bao, bn, bq, bko, bkn, bkc, bln, bcl⟩ := xb
  simp only [xv]
  go_upto_region 5 with fail
  obtain ⟨w9, hw⟩ : ∃ x, x = w8.alloc (.cells #[.int .i64 bk, .string bnm, .string bot, .bool bb, .slice bao bn bq, .slice bko bkn bkc, .int .i64 bln, .int .i64 bcl] 30) := ⟨_, rfl⟩
  have hb : Below w8.heap.size w8 w9 := by rw [hw]; exact (Below.refl _ _).alloc (Nat.le_refl _) _
  have hk : w9.heap[w8.heap.size]? = some (.cells #[.int .i64 bk, .string bnm, .string bot, .bool bb, .slice bao bn bq, .slice bko bkn bkc, .int .i64 bln, .int .i64 bcl] 30 (0, 0)) := by rw [hw]; exact made_at w8 _ _ rfl
  rw [← hw]
  obtain ⟨kb, hkk⟩ : ∃ k, k = w8.heap.size := ⟨_, rfl⟩
  have hgb : g < kb := by rw [hkk]; exact HP.out.lt
  have heb : w.heap.size ≤ kb := by omega
  have hr_b : kr < kb := by rw [hkk]; exact lt_of_block HBr.out
  have ht_b : kt < kb := by rw [hkk]; exact lt_of_block HBt.out
  have ha_b : ka < kb := by rw [hkk]; exact lt_of_block HBa.out
  replace HUa := Lib.hid (HUa.out.off.mono (S' := fun b => (((Na ≤ b ∧ True) ∧ b ≠ ka) ∧ b ≠ kq1) ∧ b ≠ kb) (fun b h => ⟨h.1, fun e => h.2 (by rw [e, hkk])⟩))
  replace HUb := Lib.hid (HUb.out.off.mono (S' := fun b => (Nb ≤ b ∧ True) ∧ b ≠ kb) (fun b h => ⟨h.1, fun e => h.2 (by rw [e, hkk])⟩))
  rw [← hkk] at hk ⊢
  replace HBr := Lib.hid ((hb.block _ (lt_of_block HBr.out)).trans HBr.out)
  replace HBt := Lib.hid ((hb.block _ (lt_of_block HBt.out)).trans HBt.out)
  replace HBa := Lib.hid ((hb.block _ (lt_of_block HBa.out)).trans HBa.out)
  replace HP := Lib.hid (HP.out.below hb)
  replace HUa := Lib.hid (HUa.out.below hb)
  replace HUb := Lib.hid (HUb.out.below hb)
  replace HOP := Lib.hid (HOP.out.below hb)
  replace HD := Lib.hid (grown_tr HD.out (below_grown hb (some g)))
  have hsz9 := HD.out.size
  have HBb := Lib.hid hk
  clear hw hb hk hkk
  have ct0 := cell_at (v := .int .i64 (t.kind : Nat)) HBt.out 0 rfl
  have ct1 := cell_at (v := .string ⟨t.text.toArray⟩) HBt.out 1 rfl
  have ct2 := cell_at (v := .int .i64 (t.line : Nat)) HBt.out 2 rfl
  have ct3 := cell_at (v := .int .i64 (t.col : Nat)) HBt.out 3 rfl
  have ca0 := cell_at (v := .int .i64 ak) HBa.out 0 rfl
  have ca1 := cell_at (v := .string anm) HBa.out 1 rfl
  have ca2 := cell_at (v := .string aot) HBa.out 2 rfl
  have ca3 := cell_at (v := .bool ab) HBa.out 3 rfl
  have ca4 := cell_at (v := .slice aao an aq) HBa.out 4 rfl
  have ca5 := cell_at (v := .slice ako akn akc) HBa.out 5 rfl
  have ca6 := cell_at (v := .int .i64 aln) HBa.out 6 rfl
  have ca7 := cell_at (v := .int .i64 acl) HBa.out 7 rfl
  have cb0 := cell_at (v := .int .i64 bk) HBb.out 0 rfl
  have cb1 := cell_at (v := .string bnm) HBb.out 1 rfl
  have cb2 := cell_at (v := .string bot) HBb.out 2 rfl
  have cb3 := cell_at (v := .bool bb) HBb.out 3 rfl
  have cb4 := cell_at (v := .slice bao bn bq) HBb.out 4 rfl
  have cb5 := cell_at (v := .slice bko bkn bkc) HBb.out 5 rfl
  have cb6 := cell_at (v := .int .i64 bln) HBb.out 6 rfl
  have cb7 := cell_at (v := .int .i64 bcl) HBb.out 7 rfl
  go_wp2_with fail
  clear ct0 ct1 ct2 ct3 ca0 ca1 ca2 ca3 ca4 ca5 ca6 ca7 cb0 cb1 cb2 cb3 cb4 cb5 cb6 cb7
  obtain ⟨w10, hw⟩ : ∃ x, x = w9.alloc (.cells #[.int .i64 ak, .string anm, .string aot, .bool ab, .slice aao an aq, .slice ako akn akc, .int .i64 aln, .int .i64 acl, .int .i64 bk, .string bnm, .string bot, .bool bb, .slice bao bn bq, .slice bko bkn bkc, .int .i64 bln, .int .i64 bcl] 30) := ⟨_, rfl⟩
  have hb : Below w9.heap.size w9 w10 := by rw [hw]; exact (Below.refl _ _).alloc (Nat.le_refl _) _
  have hk : w10.heap[w9.heap.size]? = some (.cells #[.int .i64 ak, .string anm, .string aot, .bool ab, .slice aao an aq, .slice ako akn akc, .int .i64 aln, .int .i64 acl, .int .i64 bk, .string bnm, .string bot, .bool bb, .slice bao bn bq, .slice bko bkn bkc, .int .i64 bln, .int .i64 bcl] 30 (0, 0)) := by rw [hw]; exact made_at w9 _ _ rfl
  rw [← hw]
  obtain ⟨kkk, hkk⟩ : ∃ k, k = w9.heap.size := ⟨_, rfl⟩
  have hgkk : g < kkk := by rw [hkk]; exact HP.out.lt
  have hekk : w.heap.size ≤ kkk := by omega
  have hr_kk : kr < kkk := by rw [hkk]; exact lt_of_block HBr.out
  have ht_kk : kt < kkk := by rw [hkk]; exact lt_of_block HBt.out
  have ha_kk : ka < kkk := by rw [hkk]; exact lt_of_block HBa.out
  have hb_kk : kb < kkk := by rw [hkk]; exact lt_of_block HBb.out
  replace HUa := Lib.hid (HUa.out.off.mono (S' := fun b => ((((Na ≤ b ∧ True) ∧ b ≠ ka) ∧ b ≠ kq1) ∧ b ≠ kb) ∧ b ≠ kkk) (fun b h => ⟨h.1, fun e => h.2 (by rw [e, hkk])⟩))
  replace HUb := Lib.hid (HUb.out.off.mono (S' := fun b => ((Nb ≤ b ∧ True) ∧ b ≠ kb) ∧ b ≠ kkk) (fun b h => ⟨h.1, fun e => h.2 (by rw [e, hkk])⟩))
  rw [← hkk] at hk ⊢
  replace HBr := Lib.hid ((hb.block _ (lt_of_block HBr.out)).trans HBr.out)
  replace HBt := Lib.hid ((hb.block _ (lt_of_block HBt.out)).trans HBt.out)
  replace HBa := Lib.hid ((hb.block _ (lt_of_block HBa.out)).trans HBa.out)
  replace HBb := Lib.hid ((hb.block _ (lt_of_block HBb.out)).trans HBb.out)
  replace HP := Lib.hid (HP.out.below hb)
  replace HUa := Lib.hid (HUa.out.below hb)
  replace HUb := Lib.hid (HUb.out.below hb)
  replace HOP := Lib.hid (HOP.out.below hb)
  replace HD := Lib.hid (grown_tr HD.out (below_grown hb (some g)))
  have hsz10 := HD.out.size
  have HBkk := Lib.hid hk
  clear hw hb hk hkk
  refine (part_p 28 t (some ⟨kkk, 0, none⟩) 2 2 w10).mono ?_
  rintro e w11 ⟨rfl, hb⟩
  replace HBr := Lib.hid ((hb.block _ (lt_of_block HBr.out)).trans HBr.out)
  replace HBt := Lib.hid ((hb.block _ (lt_of_block HBt.out)).trans HBt.out)
  replace HBa := Lib.hid ((hb.block _ (lt_of_block HBa.out)).trans HBa.out)
  replace HBb := Lib.hid ((hb.block _ (lt_of_block HBb.out)).trans HBb.out)
  replace HBkk := Lib.hid ((hb.block _ (lt_of_block HBkk.out)).trans HBkk.out)
  replace HP := Lib.hid (HP.out.below hb)
  replace HUa := Lib.hid (HUa.out.below hb)
  replace HUb := Lib.hid (HUb.out.below hb)
  replace HOP := Lib.hid (HOP.out.below hb)
  replace HD := Lib.hid (grown_tr HD.out (below_grown hb (some g)))
  have hsz11 := HD.out.size
  clear hb
  simp only [xv]
  have z0 := cell_at (v := .int .i64 0) HBr.out 0 rfl
  have fz0 := froz_at HBr.out 0
  have z1 := cell_at (v := .string ⟨#[]⟩) HBr.out 1 rfl
  have fz1 := froz_at HBr.out 1
  have z2 := cell_at (v := .string ⟨#[]⟩) HBr.out 2 rfl
  have fz2 := froz_at HBr.out 2
  have z3 := cell_at (v := .bool false) HBr.out 3 rfl
  have fz3 := froz_at HBr.out 3
  have z4 := cell_at (v := .slice none 0 0) HBr.out 4 rfl
  have fz4 := froz_at HBr.out 4
  have z5 := cell_at (v := .slice none 0 0) HBr.out 5 rfl
  have fz5 := froz_at HBr.out 5
  have z6 := cell_at (v := .int .i64 0) HBr.out 6 rfl
  have fz6 := froz_at HBr.out 6
  have z7 := cell_at (v := .int .i64 0) HBr.out 7 rfl
  have fz7 := froz_at HBr.out 7
  go_wp2_with fail
  refine bodyPost_ret (v := .agg #[.int .i64 28, .string ⟨#[]⟩, .string ⟨#[]⟩, .bool false, .slice none 0 0, .slice (some ⟨kkk, 0, none⟩) 2 2, .int .i64 (t.line : Nat), .int .i64 (t.col : Nat)]) (by simp [results, Tryd.results28, go_sem, z0, z1, z2, z3, z4, z5, z6, z7]) rfl ?_
  obtain ⟨wz, hw⟩ : ∃ x, x = st8 w11 kr (.int .i64 28) (.string ⟨#[]⟩) (.string ⟨#[]⟩) (.bool false) (.slice none 0 0) (.slice (some ⟨kkk, 0, none⟩) 2 2) (.int .i64 (t.line : Nat)) (.int .i64 (t.col : Nat)) := ⟨_, rfl⟩
  have hg : w11.grownBy wz (some kr) := by rw [hw]; exact st8_grown _ _ _ _ _ _ _ _ _ _
  change TreePost w g _ _ _ (st8 w11 kr (.int .i64 28) (.string ⟨#[]⟩) (.string ⟨#[]⟩) (.bool false) (.slice none 0 0) (.slice (some ⟨kkk, 0, none⟩) 2 2) (.int .i64 (t.line : Nat)) (.int .i64 (t.col : Nat)))
  rw [← hw]
  clear z0 fz0 z1 fz1 z2 fz2 z3 fz3 z4 fz4 z5 fz5 z6 fz6 z7 fz7
  replace HP := Lib.hid (HP.out.store HBr.out (by decide) (by omega) hg)
  replace HBt := Lib.hid ((hg.block _ (lt_of_block HBt.out) (fun e => by injection e with e; omega)).trans HBt.out)
  replace HBa := Lib.hid ((hg.block _ (lt_of_block HBa.out) (fun e => by injection e with e; omega)).trans HBa.out)
  replace HBb := Lib.hid ((hg.block _ (lt_of_block HBb.out) (fun e => by injection e with e; omega)).trans HBb.out)
  replace HBkk := Lib.hid ((hg.block _ (lt_of_block HBkk.out) (fun e => by injection e with e; omega)).trans HBkk.out)
  replace HUa := Lib.hid (HUa.out.grown hg (fun h => by have h : ((((Na ≤ kr ∧ True) ∧ kr ≠ ka) ∧ kr ≠ kq1) ∧ kr ≠ kb) ∧ kr ≠ kkk := h; omega))
  replace HUb := Lib.hid (HUb.out.grown hg (fun h => by have h : ((Nb ≤ kr ∧ True) ∧ kr ≠ kb) ∧ kr ≠ kkk := h; omega))
  replace HOP := Lib.hid (HOP.out.grown hg (by omega))
  replace HD := Lib.hid (grown_new HD.out hg (by omega))
  have hsz11 := HD.out.size
  clear hw hg
  have hu : U.node 28 [] [] 0 s.nx.line s.nx.col [r1.1, r2.1] = U.node 28 [] [] 0 t.line t.col [r1.1, r2.1] := by rw [HNt.out]
  unfold prt
  rw [hu]
  exact ⟨⟨28, ⟨#[]⟩, ⟨#[]⟩, false, none, 0, 0, some ⟨kkk, 0, none⟩, 2, 2, (t.line : Nat), (t.col : Nat)⟩, rfl, um_node 28 [] [] t.line t.col kkk [⟨ak, anm, aot, ab, aao, an, aq, ako, akn, akc, aln, acl⟩, ⟨bk, bnm, bot, bb, bao, bn, bq, bko, bkn, bkc, bln, bcl⟩] [r1.1, r2.1] 2 rfl (by omega) HBkk.out rfl (all2 (HUa.out.mono (fun b h => by have h : ((((Na ≤ b ∧ True) ∧ b ≠ ka) ∧ b ≠ kq1) ∧ b ≠ kb) ∧ b ≠ kkk := h; show _ ≤ b; omega)) (HUb.out.mono (fun b h => by have h : ((Nb ≤ b ∧ True) ∧ b ≠ kb) ∧ b ≠ kkk := h; show _ ≤ b; omega))), HP.out, HD.out⟩

set_option maxHeartbeats 8000000 in
theorem match_p (n : Nat) (E : Hid (ExprAt7 n)) : MatchAt (n + 1) := by
  intro g s r w hps hop hc
  have HP := Lib.hid hps
  have HOP := Lib.hid hop
  clear hps hop
  rw [cMatch] at hc
  simp only [Option.bind_eq_some_iff] at hc
  obtain ⟨r1, h1, r2, h2, r3, h3, hr⟩ := hc
  injection hr with hr
  subst hr
  have h1 := Lib.hid h1
  have h2 := Lib.hid h2
  have h3 := Lib.hid h3
  go_enter Tryd.func27, Tryd.ntmps27
  go_upto_region 1 with fail
  obtain ⟨w1, hw⟩ : ∃ x, x = w.alloc (.cells #[.int .i64 0, .string ⟨#[]⟩, .string ⟨#[]⟩, .bool false, .slice none 0 0, .slice none 0 0, .int .i64 0, .int .i64 0] 30) := ⟨_, rfl⟩
  have hb : Below w.heap.size w w1 := by rw [hw]; exact (Below.refl _ _).alloc (Nat.le_refl _) _
  have hk : w1.heap[w.heap.size]? = some (.cells #[.int .i64 0, .string ⟨#[]⟩, .string ⟨#[]⟩, .bool false, .slice none 0 0, .slice none 0 0, .int .i64 0, .int .i64 0] 30 (0, 0)) := by rw [hw]; exact made_at w _ _ rfl
  rw [← hw]
  obtain ⟨kr, hkk⟩ : ∃ k, k = w.heap.size := ⟨_, rfl⟩
  have hgr : g < kr := by rw [hkk]; exact HP.out.lt
  have her : w.heap.size ≤ kr := by omega
  rw [← hkk] at hk ⊢
  replace HP := Lib.hid (HP.out.below hb)
  replace HOP := Lib.hid (HOP.out.below hb)
  have HD := Lib.hid (below_grown hb (some g))
  have hsz1 := HD.out.size
  have HBr := Lib.hid hk
  clear hw hb hk hkk
  go_wp2_with fail
  refine (take_p g s w1 HP.out).mono ?_
  rintro e w2 ⟨rfl, hp, hg⟩
  replace HBr := Lib.hid ((hg.block _ (lt_of_block HBr.out) (fun e => by injection e with e; omega)).trans HBr.out)
  replace HOP := Lib.hid (HOP.out.grown hg (by omega))
  replace HP := Lib.hid hp
  replace HD := Lib.hid (grown_tr HD.out (hg))
  have hsz2 := HD.out.size
  clear hp hg
  simp only [tokV]
  obtain ⟨t, hnx⟩ : ∃ t, t = St.nx s := ⟨_, rfl⟩
  rw [← hnx]
  have HNt := Lib.hid hnx
  clear hnx
  go_upto_region 2 with fail
  obtain ⟨w3, hw⟩ : ∃ x, x = w2.alloc (.cells #[.int .i64 (t.kind : Nat), .string ⟨t.text.toArray⟩, .int .i64 (t.line : Nat), .int .i64 (t.col : Nat)] 57) := ⟨_, rfl⟩
  have hb : Below w2.heap.size w2 w3 := by rw [hw]; exact (Below.refl _ _).alloc (Nat.le_refl _) _
  have hk : w3.heap[w2.heap.size]? = some (.cells #[.int .i64 (t.kind : Nat), .string ⟨t.text.toArray⟩, .int .i64 (t.line : Nat), .int .i64 (t.col : Nat)] 57 (0, 0)) := by rw [hw]; exact made_at w2 _ _ rfl
  rw [← hw]
  obtain ⟨kt, hkk⟩ : ∃ k, k = w2.heap.size := ⟨_, rfl⟩
  have hgt : g < kt := by rw [hkk]; exact HP.out.lt
  have het : w.heap.size ≤ kt := by omega
  have hr_t : kr < kt := by rw [hkk]; exact lt_of_block HBr.out
  rw [← hkk] at hk ⊢
  replace HBr := Lib.hid ((hb.block _ (lt_of_block HBr.out)).trans HBr.out)
  replace HP := Lib.hid (HP.out.below hb)
  replace HOP := Lib.hid (HOP.out.below hb)
  replace HD := Lib.hid (grown_tr HD.out (below_grown hb (some g)))
  have hsz3 := HD.out.size
  have HBt := Lib.hid hk
  clear hw hb hk hkk
  go_wp2_with fail
  obtain ⟨Na, hN⟩ : ∃ k, k = w3.heap.size := ⟨_, rfl⟩
  have hr_Na : kr < Na := by rw [hN]; exact lt_of_block HBr.out
  have ht_Na : kt < Na := by rw [hN]; exact lt_of_block HBt.out
  have hg_Na : g < Na := by rw [hN]; exact HP.out.lt
  have he_Na : w.heap.size ≤ Na := by omega
  refine (E.out g _ _ w3 HP.out HOP.out h1.out).mono ?_
  rintro e w4 ⟨xa, rfl, hu, hp, hg⟩
  replace HBr := Lib.hid ((hg.block _ (lt_of_block HBr.out) (fun e => by injection e with e; omega)).trans HBr.out)
  replace HBt := Lib.hid ((hg.block _ (lt_of_block HBt.out) (fun e => by injection e with e; omega)).trans HBt.out)
  replace HOP := Lib.hid (HOP.out.grown hg (by omega))
  replace HP := Lib.hid hp
  replace HD := Lib.hid (grown_tr HD.out (hg))
  have hsz4 := HD.out.size
  rw [← hN] at hu
  have HUa := Lib.hid (hu.mono (S' := fun b => Na ≤ b ∧ True) (fun b h => ⟨h, trivial⟩))
  clear hN hu
  clear hp hg
  obtain ⟨ak, anm, aot, ab, aao, an, aq, ako, akn, akc, aln, acl⟩ := xa
  simp only [xv]
  go_upto_region 3 with fail
  obtain ⟨w5, hw⟩ : ∃ x, x = w4.alloc (.cells #[.int .i64 ak, .string anm, .string aot, .bool ab, .slice aao an aq, .slice ako akn akc, .int .i64 aln, .int .i64 acl] 30) := ⟨_, rfl⟩
  have hb : Below w4.heap.size w4 w5 := by rw [hw]; exact (Below.refl _ _).alloc (Nat.le_refl _) _
  have hk : w5.heap[w4.heap.size]? = some (.cells #[.int .i64 ak, .string anm, .string aot, .bool ab, .slice aao an aq, .slice ako akn akc, .int .i64 aln, .int .i64 acl] 30 (0, 0)) := by rw [hw]; exact made_at w4 _ _ rfl
  rw [← hw]
  obtain ⟨ka, hkk⟩ : ∃ k, k = w4.heap.size := ⟨_, rfl⟩
  have hga : g < ka := by rw [hkk]; exact HP.out.lt
  have hea : w.heap.size ≤ ka := by omega
  have hr_a : kr < ka := by rw [hkk]; exact lt_of_block HBr.out
  have ht_a : kt < ka := by rw [hkk]; exact lt_of_block HBt.out
  replace HUa := Lib.hid (HUa.out.off.mono (S' := fun b => (Na ≤ b ∧ True) ∧ b ≠ ka) (fun b h => ⟨h.1, fun e => h.2 (by rw [e, hkk])⟩))
  rw [← hkk] at hk ⊢
  replace HBr := Lib.hid ((hb.block _ (lt_of_block HBr.out)).trans HBr.out)
  replace HBt := Lib.hid ((hb.block _ (lt_of_block HBt.out)).trans HBt.out)
  replace HP := Lib.hid (HP.out.below hb)
  replace HUa := Lib.hid (HUa.out.below hb)
  replace HOP := Lib.hid (HOP.out.below hb)
  replace HD := Lib.hid (grown_tr HD.out (below_grown hb (some g)))
  have hsz5 := HD.out.size
  have HBa := Lib.hid hk
  clear hw hb hk hkk
  go_wp2_with fail
  obtain ⟨w6, hw⟩ : ∃ x, x = w5.alloc (.cells #[.string ⟨#[119, 105, 116, 104]⟩, .string ⟨#[91, 93]⟩, .string ⟨#[45, 62]⟩] 9) := ⟨_, rfl⟩
  have hb : Below w5.heap.size w5 w6 := by rw [hw]; exact (Below.refl _ _).alloc (Nat.le_refl _) _
  have hk : w6.heap[w5.heap.size]? = some (.cells #[.string ⟨#[119, 105, 116, 104]⟩, .string ⟨#[91, 93]⟩, .string ⟨#[45, 62]⟩] 9 (0, 0)) := by rw [hw]; exact made_at w5 _ _ rfl
  rw [← hw]
  obtain ⟨kq1, hkk⟩ : ∃ k, k = w5.heap.size := ⟨_, rfl⟩
  have hgq1 : g < kq1 := by rw [hkk]; exact HP.out.lt
  have heq1 : w.heap.size ≤ kq1 := by omega
  have hr_q1 : kr < kq1 := by rw [hkk]; exact lt_of_block HBr.out
  have ht_q1 : kt < kq1 := by rw [hkk]; exact lt_of_block HBt.out
  have ha_q1 : ka < kq1 := by rw [hkk]; exact lt_of_block HBa.out
  replace HUa := Lib.hid (HUa.out.off.mono (S' := fun b => ((Na ≤ b ∧ True) ∧ b ≠ ka) ∧ b ≠ kq1) (fun b h => ⟨h.1, fun e => h.2 (by rw [e, hkk])⟩))
  rw [← hkk] at hk ⊢
  replace HBr := Lib.hid ((hb.block _ (lt_of_block HBr.out)).trans HBr.out)
  replace HBt := Lib.hid ((hb.block _ (lt_of_block HBt.out)).trans HBt.out)
  replace HBa := Lib.hid ((hb.block _ (lt_of_block HBa.out)).trans HBa.out)
  replace HP := Lib.hid (HP.out.below hb)
  replace HUa := Lib.hid (HUa.out.below hb)
  replace HOP := Lib.hid (HOP.out.below hb)
  replace HD := Lib.hid (grown_tr HD.out (below_grown hb (some g)))
  have hsz6 := HD.out.size
  have HBq1 := Lib.hid hk
  clear hw hb hk hkk
  refine (expect_p g r1.2 [[119, 105, 116, 104], [91, 93], [45, 62]] kq1 w6 HP.out HBq1.out (by omega) (by decide)).mono ?_
  rintro e w7 ⟨⟨v, rfl⟩, hp, hg⟩
  replace HBr := Lib.hid ((hg.block _ (lt_of_block HBr.out) (fun e => by injection e with e; omega)).trans HBr.out)
  replace HBt := Lib.hid ((hg.block _ (lt_of_block HBt.out) (fun e => by injection e with e; omega)).trans HBt.out)
  replace HBa := Lib.hid ((hg.block _ (lt_of_block HBa.out) (fun e => by injection e with e; omega)).trans HBa.out)
  replace HBq1 := Lib.hid ((hg.block _ (lt_of_block HBq1.out) (fun e => by injection e with e; omega)).trans HBq1.out)
  replace HUa := Lib.hid (HUa.out.grown hg (fun h => by have h : ((Na ≤ g ∧ True) ∧ g ≠ ka) ∧ g ≠ kq1 := h; omega))
  replace HOP := Lib.hid (HOP.out.grown hg (by omega))
  replace HP := Lib.hid hp
  replace HD := Lib.hid (grown_tr HD.out (hg))
  have hsz7 := HD.out.size
  clear hp hg
  go_wp2_with fail
  obtain ⟨Nb, hN⟩ : ∃ k, k = w7.heap.size := ⟨_, rfl⟩
  have hr_Nb : kr < Nb := by rw [hN]; exact lt_of_block HBr.out
  have ht_Nb : kt < Nb := by rw [hN]; exact lt_of_block HBt.out
  have ha_Nb : ka < Nb := by rw [hN]; exact lt_of_block HBa.out
  have hg_Nb : g < Nb := by rw [hN]; exact HP.out.lt
  have he_Nb : w.heap.size ≤ Nb := by omega
  refine (E.out g _ _ w7 HP.out HOP.out h2.out).mono ?_
  rintro e w8 ⟨xb, rfl, hu, hp, hg⟩
  replace HBr := Lib.hid ((hg.block _ (lt_of_block HBr.out) (fun e => by injection e with e; omega)).trans HBr.out)
  replace HBt := Lib.hid ((hg.block _ (lt_of_block HBt.out) (fun e => by injection e with e; omega)).trans HBt.out)
  replace HBa := Lib.hid ((hg.block _ (lt_of_block HBa.out) (fun e => by injection e with e; omega)).trans HBa.out)
  replace HUa := Lib.hid (HUa.out.grown hg (fun h => by have h : ((Na ≤ g ∧ True) ∧ g ≠ ka) ∧ g ≠ kq1 := h; omega))
  replace HOP := Lib.hid (HOP.out.grown hg (by omega))
  replace HP := Lib.hid hp
  replace HD := Lib.hid (grown_tr HD.out (hg))
  have hsz8 := HD.out.size
  rw [← hN] at hu
  have HUb := Lib.hid (hu.mono (S' := fun b => Nb ≤ b ∧ True) (fun b h => ⟨h, trivial⟩))
  clear hN hu
  clear hp hg
  obtain ⟨bk, bnm, bot, bb, bao, bn, bq, bko, bkn, bkc, bln, bcl⟩ := xb
  simp only [xv]
  go_upto_region 5 with fail
  obtain ⟨w9, hw⟩ : ∃ x, x = w8.alloc (.cells #[.int .i64 bk, .string bnm, .string bot, .bool bb, .slice bao bn bq, .slice bko bkn bkc, .int .i64 bln, .int .i64 bcl] 30) := ⟨_, rfl⟩
  have hb : Below w8.heap.size w8 w9 := by rw [hw]; exact (Below.refl _ _).alloc (Nat.le_refl _) _
  have hk : w9.heap[w8.heap.size]? = some (.cells #[.int .i64 bk, .string bnm, .string bot, .bool bb, .slice bao bn bq, .slice bko bkn bkc, .int .i64 bln, .int .i64 bcl] 30 (0, 0)) := by rw [hw]; exact made_at w8 _ _ rfl
  rw [← hw]
  obtain ⟨kb, hkk⟩ : ∃ k, k = w8.heap.size := ⟨_, rfl⟩
  have hgb : g < kb := by rw [hkk]; exact HP.out.lt
  have heb : w.heap.size ≤ kb := by omega
  have hr_b : kr < kb := by rw [hkk]; exact lt_of_block HBr.out
  have ht_b : kt < kb := by rw [hkk]; exact lt_of_block HBt.out
  have ha_b : ka < kb := by rw [hkk]; exact lt_of_block HBa.out
  replace HUa := Lib.hid (HUa.out.off.mono (S' := fun b => (((Na ≤ b ∧ True) ∧ b ≠ ka) ∧ b ≠ kq1) ∧ b ≠ kb) (fun b h => ⟨h.1, fun e => h.2 (by rw [e, hkk])⟩))
  replace HUb := Lib.hid (HUb.out.off.mono (S' := fun b => (Nb ≤ b ∧ True) ∧ b ≠ kb) (fun b h => ⟨h.1, fun e => h.2 (by rw [e, hkk])⟩))
  rw [← hkk] at hk ⊢
  replace HBr := Lib.hid ((hb.block _ (lt_of_block HBr.out)).trans HBr.out)
  replace HBt := Lib.hid ((hb.block _ (lt_of_block HBt.out)).trans HBt.out)
  replace HBa := Lib.hid ((hb.block _ (lt_of_block HBa.out)).trans HBa.out)
  replace HP := Lib.hid (HP.out.below hb)
  replace HUa := Lib.hid (HUa.out.below hb)
  replace HUb := Lib.hid (HUb.out.below hb)
  replace HOP := Lib.hid (HOP.out.below hb)
  replace HD := Lib.hid (grown_tr HD.out (below_grown hb (some g)))
  have hsz9 := HD.out.size
  have HBb := Lib.hid hk
  clear hw hb hk hkk
  go_wp2_with fail
  obtain ⟨w10, hw⟩ : ∃ x, x = w9.alloc (.cells #[.string ⟨#[124]⟩] 9) := ⟨_, rfl⟩
  have hb : Below w9.heap.size w9 w10 := by rw [hw]; exact (Below.refl _ _).alloc (Nat.le_refl _) _
  have hk : w10.heap[w9.heap.size]? = some (.cells #[.string ⟨#[124]⟩] 9 (0, 0)) := by rw [hw]; exact made_at w9 _ _ rfl
  rw [← hw]
  obtain ⟨kq2, hkk⟩ : ∃ k, k = w9.heap.size := ⟨_, rfl⟩
  have hgq2 : g < kq2 := by rw [hkk]; exact HP.out.lt
  have heq2 : w.heap.size ≤ kq2 := by omega
  have hr_q2 : kr < kq2 := by rw [hkk]; exact lt_of_block HBr.out
  have ht_q2 : kt < kq2 := by rw [hkk]; exact lt_of_block HBt.out
  have ha_q2 : ka < kq2 := by rw [hkk]; exact lt_of_block HBa.out
  have hb_q2 : kb < kq2 := by rw [hkk]; exact lt_of_block HBb.out
  replace HUa := Lib.hid (HUa.out.off.mono (S' := fun b => ((((Na ≤ b ∧ True) ∧ b ≠ ka) ∧ b ≠ kq1) ∧ b ≠ kb) ∧ b ≠ kq2) (fun b h => ⟨h.1, fun e => h.2 (by rw [e, hkk])⟩))
  replace HUb := Lib.hid (HUb.out.off.mono (S' := fun b => ((Nb ≤ b ∧ True) ∧ b ≠ kb) ∧ b ≠ kq2) (fun b h => ⟨h.1, fun e => h.2 (by rw [e, hkk])⟩))
  rw [← hkk] at hk ⊢
  replace HBr := Lib.hid ((hb.block _ (lt_of_block HBr.out)).trans HBr.out)
  replace HBt := Lib.hid ((hb.block _ (lt_of_block HBt.out)).trans HBt.out)
  replace HBa := Lib.hid ((hb.block _ (lt_of_block HBa.out)).trans HBa.out)
  replace HBb := Lib.hid ((hb.block _ (lt_of_block HBb.out)).trans HBb.out)
  replace HP := Lib.hid (HP.out.below hb)
  replace HUa := Lib.hid (HUa.out.below hb)
  replace HUb := Lib.hid (HUb.out.below hb)
  replace HOP := Lib.hid (HOP.out.below hb)
  replace HD := Lib.hid (grown_tr HD.out (below_grown hb (some g)))
  have hsz10 := HD.out.size
  have HBq2 := Lib.hid hk
  clear hw hb hk hkk
  refine (expect_p g r2.2 [[124]] kq2 w10 HP.out HBq2.out (by omega) (by decide)).mono ?_
  rintro e w11 ⟨⟨v, rfl⟩, hp, hg⟩
  replace HBr := Lib.hid ((hg.block _ (lt_of_block HBr.out) (fun e => by injection e with e; omega)).trans HBr.out)
  replace HBt := Lib.hid ((hg.block _ (lt_of_block HBt.out) (fun e => by injection e with e; omega)).trans HBt.out)
  replace HBa := Lib.hid ((hg.block _ (lt_of_block HBa.out) (fun e => by injection e with e; omega)).trans HBa.out)
  replace HBb := Lib.hid ((hg.block _ (lt_of_block HBb.out) (fun e => by injection e with e; omega)).trans HBb.out)
  replace HBq2 := Lib.hid ((hg.block _ (lt_of_block HBq2.out) (fun e => by injection e with e; omega)).trans HBq2.out)
  replace HUa := Lib.hid (HUa.out.grown hg (fun h => by have h : ((((Na ≤ g ∧ True) ∧ g ≠ ka) ∧ g ≠ kq1) ∧ g ≠ kb) ∧ g ≠ kq2 := h; omega))
  replace HUb := Lib.hid (HUb.out.grown hg (fun h => by have h : ((Nb ≤ g ∧ True) ∧ g ≠ kb) ∧ g ≠ kq2 := h; omega))
  replace HOP := Lib.hid (HOP.out.grown hg (by omega))
  replace HP := Lib.hid hp
  replace HD := Lib.hid (grown_tr HD.out (hg))
  have hsz11 := HD.out.size
  clear hp hg
  go_wp2_with fail
  refine (name_p g (r2.2.exp wBar) w11 HP.out).mono ?_
  rintro e w12 ⟨rfl, hp, hg⟩
  replace HBr := Lib.hid ((hg.block _ (lt_of_block HBr.out) (fun e => by injection e with e; omega)).trans HBr.out)
  replace HBt := Lib.hid ((hg.block _ (lt_of_block HBt.out) (fun e => by injection e with e; omega)).trans HBt.out)
  replace HBa := Lib.hid ((hg.block _ (lt_of_block HBa.out) (fun e => by injection e with e; omega)).trans HBa.out)
  replace HBb := Lib.hid ((hg.block _ (lt_of_block HBb.out) (fun e => by injection e with e; omega)).trans HBb.out)
  replace HUa := Lib.hid (HUa.out.grown hg (fun h => by have h : ((((Na ≤ g ∧ True) ∧ g ≠ ka) ∧ g ≠ kq1) ∧ g ≠ kb) ∧ g ≠ kq2 := h; omega))
  replace HUb := Lib.hid (HUb.out.grown hg (fun h => by have h : ((Nb ≤ g ∧ True) ∧ g ≠ kb) ∧ g ≠ kq2 := h; omega))
  replace HOP := Lib.hid (HOP.out.grown hg (by omega))
  replace HP := Lib.hid hp
  replace HD := Lib.hid (grown_tr HD.out (hg))
  have hsz12 := HD.out.size
  clear hp hg
  simp only [tokV]
  obtain ⟨nh, hnx⟩ : ∃ t, t = St.nx (r2.2.exp wBar) := ⟨_, rfl⟩
  rw [← hnx]
  have HNnh := Lib.hid hnx
  clear hnx
  go_upto_region 7 with fail
  obtain ⟨w13, hw⟩ : ∃ x, x = w12.alloc (.cells #[.int .i64 (nh.kind : Nat), .string ⟨nh.text.toArray⟩, .int .i64 (nh.line : Nat), .int .i64 (nh.col : Nat)] 57) := ⟨_, rfl⟩
  have hb : Below w12.heap.size w12 w13 := by rw [hw]; exact (Below.refl _ _).alloc (Nat.le_refl _) _
  have hk : w13.heap[w12.heap.size]? = some (.cells #[.int .i64 (nh.kind : Nat), .string ⟨nh.text.toArray⟩, .int .i64 (nh.line : Nat), .int .i64 (nh.col : Nat)] 57 (0, 0)) := by rw [hw]; exact made_at w12 _ _ rfl
  rw [← hw]
  obtain ⟨knh, hkk⟩ : ∃ k, k = w12.heap.size := ⟨_, rfl⟩
  have hgnh : g < knh := by rw [hkk]; exact HP.out.lt
  have henh : w.heap.size ≤ knh := by omega
  have hr_nh : kr < knh := by rw [hkk]; exact lt_of_block HBr.out
  have ht_nh : kt < knh := by rw [hkk]; exact lt_of_block HBt.out
  have ha_nh : ka < knh := by rw [hkk]; exact lt_of_block HBa.out
  have hb_nh : kb < knh := by rw [hkk]; exact lt_of_block HBb.out
  replace HUa := Lib.hid (HUa.out.off.mono (S' := fun b => (((((Na ≤ b ∧ True) ∧ b ≠ ka) ∧ b ≠ kq1) ∧ b ≠ kb) ∧ b ≠ kq2) ∧ b ≠ knh) (fun b h => ⟨h.1, fun e => h.2 (by rw [e, hkk])⟩))
  replace HUb := Lib.hid (HUb.out.off.mono (S' := fun b => (((Nb ≤ b ∧ True) ∧ b ≠ kb) ∧ b ≠ kq2) ∧ b ≠ knh) (fun b h => ⟨h.1, fun e => h.2 (by rw [e, hkk])⟩))
  rw [← hkk] at hk ⊢
  replace HBr := Lib.hid ((hb.block _ (lt_of_block HBr.out)).trans HBr.out)
  replace HBt := Lib.hid ((hb.block _ (lt_of_block HBt.out)).trans HBt.out)
  replace HBa := Lib.hid ((hb.block _ (lt_of_block HBa.out)).trans HBa.out)
  replace HBb := Lib.hid ((hb.block _ (lt_of_block HBb.out)).trans HBb.out)
  replace HP := Lib.hid (HP.out.below hb)
  replace HUa := Lib.hid (HUa.out.below hb)
  replace HUb := Lib.hid (HUb.out.below hb)
  replace HOP := Lib.hid (HOP.out.below hb)
  replace HD := Lib.hid (grown_tr HD.out (below_grown hb (some g)))
  have hsz13 := HD.out.size
  have HBnh := Lib.hid hk
  clear hw hb hk hkk
  go_wp2_with fail
  obtain ⟨w14, hw⟩ : ∃ x, x = w13.alloc (.cells #[.string ⟨#[58, 58]⟩] 9) := ⟨_, rfl⟩
  have hb : Below w13.heap.size w13 w14 := by rw [hw]; exact (Below.refl _ _).alloc (Nat.le_refl _) _
  have hk : w14.heap[w13.heap.size]? = some (.cells #[.string ⟨#[58, 58]⟩] 9 (0, 0)) := by rw [hw]; exact made_at w13 _ _ rfl
  rw [← hw]
  obtain ⟨kq3, hkk⟩ : ∃ k, k = w13.heap.size := ⟨_, rfl⟩
  have hgq3 : g < kq3 := by rw [hkk]; exact HP.out.lt
  have heq3 : w.heap.size ≤ kq3 := by omega
  have hr_q3 : kr < kq3 := by rw [hkk]; exact lt_of_block HBr.out
  have ht_q3 : kt < kq3 := by rw [hkk]; exact lt_of_block HBt.out
  have ha_q3 : ka < kq3 := by rw [hkk]; exact lt_of_block HBa.out
  have hb_q3 : kb < kq3 := by rw [hkk]; exact lt_of_block HBb.out
  have hnh_q3 : knh < kq3 := by rw [hkk]; exact lt_of_block HBnh.out
  replace HUa := Lib.hid (HUa.out.off.mono (S' := fun b => ((((((Na ≤ b ∧ True) ∧ b ≠ ka) ∧ b ≠ kq1) ∧ b ≠ kb) ∧ b ≠ kq2) ∧ b ≠ knh) ∧ b ≠ kq3) (fun b h => ⟨h.1, fun e => h.2 (by rw [e, hkk])⟩))
  replace HUb := Lib.hid (HUb.out.off.mono (S' := fun b => ((((Nb ≤ b ∧ True) ∧ b ≠ kb) ∧ b ≠ kq2) ∧ b ≠ knh) ∧ b ≠ kq3) (fun b h => ⟨h.1, fun e => h.2 (by rw [e, hkk])⟩))
  rw [← hkk] at hk ⊢
  replace HBr := Lib.hid ((hb.block _ (lt_of_block HBr.out)).trans HBr.out)
  replace HBt := Lib.hid ((hb.block _ (lt_of_block HBt.out)).trans HBt.out)
  replace HBa := Lib.hid ((hb.block _ (lt_of_block HBa.out)).trans HBa.out)
  replace HBb := Lib.hid ((hb.block _ (lt_of_block HBb.out)).trans HBb.out)
  replace HBnh := Lib.hid ((hb.block _ (lt_of_block HBnh.out)).trans HBnh.out)
  replace HP := Lib.hid (HP.out.below hb)
  replace HUa := Lib.hid (HUa.out.below hb)
  replace HUb := Lib.hid (HUb.out.below hb)
  replace HOP := Lib.hid (HOP.out.below hb)
  replace HD := Lib.hid (grown_tr HD.out (below_grown hb (some g)))
  have hsz14 := HD.out.size
  have HBq3 := Lib.hid hk
  clear hw hb hk hkk
  refine (expect_p g (r2.2.exp wBar).name [[58, 58]] kq3 w14 HP.out HBq3.out (by omega) (by decide)).mono ?_
  rintro e w15 ⟨⟨v, rfl⟩, hp, hg⟩
  replace HBr := Lib.hid ((hg.block _ (lt_of_block HBr.out) (fun e => by injection e with e; omega)).trans HBr.out)
  replace HBt := Lib.hid ((hg.block _ (lt_of_block HBt.out) (fun e => by injection e with e; omega)).trans HBt.out)
  replace HBa := Lib.hid ((hg.block _ (lt_of_block HBa.out) (fun e => by injection e with e; omega)).trans HBa.out)
  replace HBb := Lib.hid ((hg.block _ (lt_of_block HBb.out) (fun e => by injection e with e; omega)).trans HBb.out)
  replace HBnh := Lib.hid ((hg.block _ (lt_of_block HBnh.out) (fun e => by injection e with e; omega)).trans HBnh.out)
  replace HBq3 := Lib.hid ((hg.block _ (lt_of_block HBq3.out) (fun e => by injection e with e; omega)).trans HBq3.out)
  replace HUa := Lib.hid (HUa.out.grown hg (fun h => by have h : ((((((Na ≤ g ∧ True) ∧ g ≠ ka) ∧ g ≠ kq1) ∧ g ≠ kb) ∧ g ≠ kq2) ∧ g ≠ knh) ∧ g ≠ kq3 := h; omega))
  replace HUb := Lib.hid (HUb.out.grown hg (fun h => by have h : ((((Nb ≤ g ∧ True) ∧ g ≠ kb) ∧ g ≠ kq2) ∧ g ≠ knh) ∧ g ≠ kq3 := h; omega))
  replace HOP := Lib.hid (HOP.out.grown hg (by omega))
  replace HP := Lib.hid hp
  replace HD := Lib.hid (grown_tr HD.out (hg))
  have hsz15 := HD.out.size
  clear hp hg
  go_wp2_with fail
  refine (name_p g (((r2.2.exp wBar).name).exp wCons) w15 HP.out).mono ?_
  rintro e w16 ⟨rfl, hp, hg⟩
  replace HBr := Lib.hid ((hg.block _ (lt_of_block HBr.out) (fun e => by injection e with e; omega)).trans HBr.out)
  replace HBt := Lib.hid ((hg.block _ (lt_of_block HBt.out) (fun e => by injection e with e; omega)).trans HBt.out)
  replace HBa := Lib.hid ((hg.block _ (lt_of_block HBa.out) (fun e => by injection e with e; omega)).trans HBa.out)
  replace HBb := Lib.hid ((hg.block _ (lt_of_block HBb.out) (fun e => by injection e with e; omega)).trans HBb.out)
  replace HBnh := Lib.hid ((hg.block _ (lt_of_block HBnh.out) (fun e => by injection e with e; omega)).trans HBnh.out)
  replace HUa := Lib.hid (HUa.out.grown hg (fun h => by have h : ((((((Na ≤ g ∧ True) ∧ g ≠ ka) ∧ g ≠ kq1) ∧ g ≠ kb) ∧ g ≠ kq2) ∧ g ≠ knh) ∧ g ≠ kq3 := h; omega))
  replace HUb := Lib.hid (HUb.out.grown hg (fun h => by have h : ((((Nb ≤ g ∧ True) ∧ g ≠ kb) ∧ g ≠ kq2) ∧ g ≠ knh) ∧ g ≠ kq3 := h; omega))
  replace HOP := Lib.hid (HOP.out.grown hg (by omega))
  replace HP := Lib.hid hp
  replace HD := Lib.hid (grown_tr HD.out (hg))
  have hsz16 := HD.out.size
  clear hp hg
  simp only [tokV]
  obtain ⟨nt, hnx⟩ : ∃ t, t = St.nx (((r2.2.exp wBar).name).exp wCons) := ⟨_, rfl⟩
  rw [← hnx]
  have HNnt := Lib.hid hnx
  clear hnx
  go_upto_region 9 with fail
  obtain ⟨w17, hw⟩ : ∃ x, x = w16.alloc (.cells #[.int .i64 (nt.kind : Nat), .string ⟨nt.text.toArray⟩, .int .i64 (nt.line : Nat), .int .i64 (nt.col : Nat)] 57) := ⟨_, rfl⟩
  have hb : Below w16.heap.size w16 w17 := by rw [hw]; exact (Below.refl _ _).alloc (Nat.le_refl _) _
  have hk : w17.heap[w16.heap.size]? = some (.cells #[.int .i64 (nt.kind : Nat), .string ⟨nt.text.toArray⟩, .int .i64 (nt.line : Nat), .int .i64 (nt.col : Nat)] 57 (0, 0)) := by rw [hw]; exact made_at w16 _ _ rfl
  rw [← hw]
  obtain ⟨knt, hkk⟩ : ∃ k, k = w16.heap.size := ⟨_, rfl⟩
  have hgnt : g < knt := by rw [hkk]; exact HP.out.lt
  have hent : w.heap.size ≤ knt := by omega
  have hr_nt : kr < knt := by rw [hkk]; exact lt_of_block HBr.out
  have ht_nt : kt < knt := by rw [hkk]; exact lt_of_block HBt.out
  have ha_nt : ka < knt := by rw [hkk]; exact lt_of_block HBa.out
  have hb_nt : kb < knt := by rw [hkk]; exact lt_of_block HBb.out
  have hnh_nt : knh < knt := by rw [hkk]; exact lt_of_block HBnh.out
  replace HUa := Lib.hid (HUa.out.off.mono (S' := fun b => (((((((Na ≤ b ∧ True) ∧ b ≠ ka) ∧ b ≠ kq1) ∧ b ≠ kb) ∧ b ≠ kq2) ∧ b ≠ knh) ∧ b ≠ kq3) ∧ b ≠ knt) (fun b h => ⟨h.1, fun e => h.2 (by rw [e, hkk])⟩))
  replace HUb := Lib.hid (HUb.out.off.mono (S' := fun b => (((((Nb ≤ b ∧ True) ∧ b ≠ kb) ∧ b ≠ kq2) ∧ b ≠ knh) ∧ b ≠ kq3) ∧ b ≠ knt) (fun b h => ⟨h.1, fun e => h.2 (by rw [e, hkk])⟩))
  rw [← hkk] at hk ⊢
  replace HBr := Lib.hid ((hb.block _ (lt_of_block HBr.out)).trans HBr.out)
  replace HBt := Lib.hid ((hb.block _ (lt_of_block HBt.out)).trans HBt.out)
  replace HBa := Lib.hid ((hb.block _ (lt_of_block HBa.out)).trans HBa.out)
  replace HBb := Lib.hid ((hb.block _ (lt_of_block HBb.out)).trans HBb.out)
  replace HBnh := Lib.hid ((hb.block _ (lt_of_block HBnh.out)).trans HBnh.out)
  replace HP := Lib.hid (HP.out.below hb)
  replace HUa := Lib.hid (HUa.out.below hb)
  replace HUb := Lib.hid (HUb.out.below hb)
  replace HOP := Lib.hid (HOP.out.below hb)
  replace HD := Lib.hid (grown_tr HD.out (below_grown hb (some g)))
  have hsz17 := HD.out.size
  have HBnt := Lib.hid hk
  clear hw hb hk hkk
  go_wp2_with fail
  obtain ⟨w18, hw⟩ : ∃ x, x = w17.alloc (.cells #[.string ⟨#[45, 62]⟩] 9) := ⟨_, rfl⟩
  have hb : Below w17.heap.size w17 w18 := by rw [hw]; exact (Below.refl _ _).alloc (Nat.le_refl _) _
  have hk : w18.heap[w17.heap.size]? = some (.cells #[.string ⟨#[45, 62]⟩] 9 (0, 0)) := by rw [hw]; exact made_at w17 _ _ rfl
  rw [← hw]
  obtain ⟨kq4, hkk⟩ : ∃ k, k = w17.heap.size := ⟨_, rfl⟩
  have hgq4 : g < kq4 := by rw [hkk]; exact HP.out.lt
  have heq4 : w.heap.size ≤ kq4 := by omega
  have hr_q4 : kr < kq4 := by rw [hkk]; exact lt_of_block HBr.out
  have ht_q4 : kt < kq4 := by rw [hkk]; exact lt_of_block HBt.out
  have ha_q4 : ka < kq4 := by rw [hkk]; exact lt_of_block HBa.out
  have hb_q4 : kb < kq4 := by rw [hkk]; exact lt_of_block HBb.out
  have hnh_q4 : knh < kq4 := by rw [hkk]; exact lt_of_block HBnh.out
  have hnt_q4 : knt < kq4 := by rw [hkk]; exact lt_of_block HBnt.out
  replace HUa := Lib.hid (HUa.out.off.mono (S' := fun b => ((((((((Na ≤ b ∧ True) ∧ b ≠ ka) ∧ b ≠ kq1) ∧ b ≠ kb) ∧ b ≠ kq2) ∧ b ≠ knh) ∧ b ≠ kq3) ∧ b ≠ knt) ∧ b ≠ kq4) (fun b h => ⟨h.1, fun e => h.2 (by rw [e, hkk])⟩))
  replace HUb := Lib.hid (HUb.out.off.mono (S' := fun b => ((((((Nb ≤ b ∧ True) ∧ b ≠ kb) ∧ b ≠ kq2) ∧ b ≠ knh) ∧ b ≠ kq3) ∧ b ≠ knt) ∧ b ≠ kq4) (fun b h => ⟨h.1, fun e => h.2 (by rw [e, hkk])⟩))
  rw [← hkk] at hk ⊢
  replace HBr := Lib.hid ((hb.block _ (lt_of_block HBr.out)).trans HBr.out)
  replace HBt := Lib.hid ((hb.block _ (lt_of_block HBt.out)).trans HBt.out)
  replace HBa := Lib.hid ((hb.block _ (lt_of_block HBa.out)).trans HBa.out)
  replace HBb := Lib.hid ((hb.block _ (lt_of_block HBb.out)).trans HBb.out)
  replace HBnh := Lib.hid ((hb.block _ (lt_of_block HBnh.out)).trans HBnh.out)
  replace HBnt := Lib.hid ((hb.block _ (lt_of_block HBnt.out)).trans HBnt.out)
  replace HP := Lib.hid (HP.out.below hb)
  replace HUa := Lib.hid (HUa.out.below hb)
  replace HUb := Lib.hid (HUb.out.below hb)
  replace HOP := Lib.hid (HOP.out.below hb)
  replace HD := Lib.hid (grown_tr HD.out (below_grown hb (some g)))
  have hsz18 := HD.out.size
  have HBq4 := Lib.hid hk
  clear hw hb hk hkk
  refine (expect_p g (((r2.2.exp wBar).name).exp wCons).name [[45, 62]] kq4 w18 HP.out HBq4.out (by omega) (by decide)).mono ?_
  rintro e w19 ⟨⟨v, rfl⟩, hp, hg⟩
  replace HBr := Lib.hid ((hg.block _ (lt_of_block HBr.out) (fun e => by injection e with e; omega)).trans HBr.out)
  replace HBt := Lib.hid ((hg.block _ (lt_of_block HBt.out) (fun e => by injection e with e; omega)).trans HBt.out)
  replace HBa := Lib.hid ((hg.block _ (lt_of_block HBa.out) (fun e => by injection e with e; omega)).trans HBa.out)
  replace HBb := Lib.hid ((hg.block _ (lt_of_block HBb.out) (fun e => by injection e with e; omega)).trans HBb.out)
  replace HBnh := Lib.hid ((hg.block _ (lt_of_block HBnh.out) (fun e => by injection e with e; omega)).trans HBnh.out)
  replace HBnt := Lib.hid ((hg.block _ (lt_of_block HBnt.out) (fun e => by injection e with e; omega)).trans HBnt.out)
  replace HBq4 := Lib.hid ((hg.block _ (lt_of_block HBq4.out) (fun e => by injection e with e; omega)).trans HBq4.out)
  replace HUa := Lib.hid (HUa.out.grown hg (fun h => by have h : ((((((((Na ≤ g ∧ True) ∧ g ≠ ka) ∧ g ≠ kq1) ∧ g ≠ kb) ∧ g ≠ kq2) ∧ g ≠ knh) ∧ g ≠ kq3) ∧ g ≠ knt) ∧ g ≠ kq4 := h; omega))
  replace HUb := Lib.hid (HUb.out.grown hg (fun h => by have h : ((((((Nb ≤ g ∧ True) ∧ g ≠ kb) ∧ g ≠ kq2) ∧ g ≠ knh) ∧ g ≠ kq3) ∧ g ≠ knt) ∧ g ≠ kq4 := h; omega))
  replace HOP := Lib.hid (HOP.out.grown hg (by omega))
  replace HP := Lib.hid hp
  replace HD := Lib.hid (grown_tr HD.out (hg))
  have hsz19 := HD.out.size
  clear hp hg
  go_wp2_with fail
  obtain ⟨Nc, hN⟩ : ∃ k, k = w19.heap.size := ⟨_, rfl⟩
  have hr_Nc : kr < Nc := by rw [hN]; exact lt_of_block HBr.out
  have ht_Nc : kt < Nc := by rw [hN]; exact lt_of_block HBt.out
  have ha_Nc : ka < Nc := by rw [hN]; exact lt_of_block HBa.out
  have hb_Nc : kb < Nc := by rw [hN]; exact lt_of_block HBb.out
  have hnh_Nc : knh < Nc := by rw [hN]; exact lt_of_block HBnh.out
  have hnt_Nc : knt < Nc := by rw [hN]; exact lt_of_block HBnt.out
  have hg_Nc : g < Nc := by rw [hN]; exact HP.out.lt
  have he_Nc : w.heap.size ≤ Nc := by omega
  refine (E.out g _ _ w19 HP.out HOP.out h3.out).mono ?_
  rintro e w20 ⟨xc, rfl, hu, hp, hg⟩
  replace HBr := Lib.hid ((hg.block _ (lt_of_block HBr.out) (fun e => by injection e with e; omega)).trans HBr.out)
  replace HBt := Lib.hid ((hg.block _ (lt_of_block HBt.out) (fun e => by injection e with e; omega)).trans HBt.out)
  replace HBa := Lib.hid ((hg.block _ (lt_of_block HBa.out) (fun e => by injection e with e; omega)).trans HBa.out)
  replace HBb := Lib.hid ((hg.block _ (lt_of_block HBb.out) (fun e => by injection e with e; omega)).trans HBb.out)
  replace HBnh := Lib.hid ((hg.block _ (lt_of_block HBnh.out) (fun e => by injection e with e; omega)).trans HBnh.out)
  replace HBnt := Lib.hid ((hg.block _ (lt_of_block HBnt.out) (fun e => by injection e with e; omega)).trans HBnt.out)
  replace HUa := Lib.hid (HUa.out.grown hg (fun h => by have h : ((((((((Na ≤ g ∧ True) ∧ g ≠ ka) ∧ g ≠ kq1) ∧ g ≠ kb) ∧ g ≠ kq2) ∧ g ≠ knh) ∧ g ≠ kq3) ∧ g ≠ knt) ∧ g ≠ kq4 := h; omega))
  replace HUb := Lib.hid (HUb.out.grown hg (fun h => by have h : ((((((Nb ≤ g ∧ True) ∧ g ≠ kb) ∧ g ≠ kq2) ∧ g ≠ knh) ∧ g ≠ kq3) ∧ g ≠ knt) ∧ g ≠ kq4 := h; omega))
  replace HOP := Lib.hid (HOP.out.grown hg (by omega))
  replace HP := Lib.hid hp
  replace HD := Lib.hid (grown_tr HD.out (hg))
  have hsz20 := HD.out.size
  rw [← hN] at hu
  have HUc := Lib.hid (hu.mono (S' := fun b => Nc ≤ b ∧ True) (fun b h => ⟨h, trivial⟩))
  clear hN hu
  clear hp hg
  obtain ⟨ck, cnm, cot, cb, cao, cn, cq, cko, ckn, ckc, cln, ccl⟩ := xc
  simp only [xv]
  go_upto_region 11 with fail
  obtain ⟨w21, hw⟩ : ∃ x, x = w20.alloc (.cells #[.int .i64 ck, .string cnm, .string cot, .bool cb, .slice cao cn cq, .slice cko ckn ckc, .int .i64 cln, .int .i64 ccl] 30) := ⟨_, rfl⟩
  have hb : Below w20.heap.size w20 w21 := by rw [hw]; exact (Below.refl _ _).alloc (Nat.le_refl _) _
  have hk : w21.heap[w20.heap.size]? = some (.cells #[.int .i64 ck, .string cnm, .string cot, .bool cb, .slice cao cn cq, .slice cko ckn ckc, .int .i64 cln, .int .i64 ccl] 30 (0, 0)) := by rw [hw]; exact made_at w20 _ _ rfl
  rw [← hw]
  obtain ⟨kc, hkk⟩ : ∃ k, k = w20.heap.size := ⟨_, rfl⟩
  have hgc : g < kc := by rw [hkk]; exact HP.out.lt
  have hec : w.heap.size ≤ kc := by omega
  have hr_c : kr < kc := by rw [hkk]; exact lt_of_block HBr.out
  have ht_c : kt < kc := by rw [hkk]; exact lt_of_block HBt.out
  have ha_c : ka < kc := by rw [hkk]; exact lt_of_block HBa.out
  have hb_c : kb < kc := by rw [hkk]; exact lt_of_block HBb.out
  have hnh_c : knh < kc := by rw [hkk]; exact lt_of_block HBnh.out
  have hnt_c : knt < kc := by rw [hkk]; exact lt_of_block HBnt.out
  replace HUa := Lib.hid (HUa.out.off.mono (S' := fun b => (((((((((Na ≤ b ∧ True) ∧ b ≠ ka) ∧ b ≠ kq1) ∧ b ≠ kb) ∧ b ≠ kq2) ∧ b ≠ knh) ∧ b ≠ kq3) ∧ b ≠ knt) ∧ b ≠ kq4) ∧ b ≠ kc) (fun b h => ⟨h.1, fun e => h.2 (by rw [e, hkk])⟩))
  replace HUb := Lib.hid (HUb.out.off.mono (S' := fun b => (((((((Nb ≤ b ∧ True) ∧ b ≠ kb) ∧ b ≠ kq2) ∧ b ≠ knh) ∧ b ≠ kq3) ∧ b ≠ knt) ∧ b ≠ kq4) ∧ b ≠ kc) (fun b h => ⟨h.1, fun e => h.2 (by rw [e, hkk])⟩))
  replace HUc := Lib.hid (HUc.out.off.mono (S' := fun b => (Nc ≤ b ∧ True) ∧ b ≠ kc) (fun b h => ⟨h.1, fun e => h.2 (by rw [e, hkk])⟩))
  rw [← hkk] at hk ⊢
  replace HBr := Lib.hid ((hb.block _ (lt_of_block HBr.out)).trans HBr.out)
  replace HBt := Lib.hid ((hb.block _ (lt_of_block HBt.out)).trans HBt.out)
  replace HBa := Lib.hid ((hb.block _ (lt_of_block HBa.out)).trans HBa.out)
  replace HBb := Lib.hid ((hb.block _ (lt_of_block HBb.out)).trans HBb.out)
  replace HBnh := Lib.hid ((hb.block _ (lt_of_block HBnh.out)).trans HBnh.out)
  replace HBnt := Lib.hid ((hb.block _ (lt_of_block HBnt.out)).trans HBnt.out)
  replace HP := Lib.hid (HP.out.below hb)
  replace HUa := Lib.hid (HUa.out.below hb)
  replace HUb := Lib.hid (HUb.out.below hb)
  replace HUc := Lib.hid (HUc.out.below hb)
  replace HOP := Lib.hid (HOP.out.below hb)
  replace HD := Lib.hid (grown_tr HD.out (below_grown hb (some g)))
  have hsz21 := HD.out.size
  have HBc := Lib.hid hk
  clear hw hb hk hkk
  have ct0 := cell_at (v := .int .i64 (t.kind : Nat)) HBt.out 0 rfl
  have ct1 := cell_at (v := .string ⟨t.text.toArray⟩) HBt.out 1 rfl
  have ct2 := cell_at (v := .int .i64 (t.line : Nat)) HBt.out 2 rfl
  have ct3 := cell_at (v := .int .i64 (t.col : Nat)) HBt.out 3 rfl
  have ca0 := cell_at (v := .int .i64 ak) HBa.out 0 rfl
  have ca1 := cell_at (v := .string anm) HBa.out 1 rfl
  have ca2 := cell_at (v := .string aot) HBa.out 2 rfl
  have ca3 := cell_at (v := .bool ab) HBa.out 3 rfl
  have ca4 := cell_at (v := .slice aao an aq) HBa.out 4 rfl
  have ca5 := cell_at (v := .slice ako akn akc) HBa.out 5 rfl
  have ca6 := cell_at (v := .int .i64 aln) HBa.out 6 rfl
  have ca7 := cell_at (v := .int .i64 acl) HBa.out 7 rfl
  have cb0 := cell_at (v := .int .i64 bk) HBb.out 0 rfl
  have cb1 := cell_at (v := .string bnm) HBb.out 1 rfl
  have cb2 := cell_at (v := .string bot) HBb.out 2 rfl
  have cb3 := cell_at (v := .bool bb) HBb.out 3 rfl
  have cb4 := cell_at (v := .slice bao bn bq) HBb.out 4 rfl
  have cb5 := cell_at (v := .slice bko bkn bkc) HBb.out 5 rfl
  have cb6 := cell_at (v := .int .i64 bln) HBb.out 6 rfl
  have cb7 := cell_at (v := .int .i64 bcl) HBb.out 7 rfl
  have cc0 := cell_at (v := .int .i64 ck) HBc.out 0 rfl
  have cc1 := cell_at (v := .string cnm) HBc.out 1 rfl
  have cc2 := cell_at (v := .string cot) HBc.out 2 rfl
  have cc3 := cell_at (v := .bool cb) HBc.out 3 rfl
  have cc4 := cell_at (v := .slice cao cn cq) HBc.out 4 rfl
  have cc5 := cell_at (v := .slice cko ckn ckc) HBc.out 5 rfl
  have cc6 := cell_at (v := .int .i64 cln) HBc.out 6 rfl
  have cc7 := cell_at (v := .int .i64 ccl) HBc.out 7 rfl
  go_wp2_with fail
  clear ct0 ct1 ct2 ct3 ca0 ca1 ca2 ca3 ca4 ca5 ca6 ca7 cb0 cb1 cb2 cb3 cb4 cb5 cb6 cb7 cc0 cc1 cc2 cc3 cc4 cc5 cc6 cc7
  obtain ⟨w22, hw⟩ : ∃ x, x = w21.alloc (.cells #[.int .i64 ak, .string anm, .string aot, .bool ab, .slice aao an aq, .slice ako akn akc, .int .i64 aln, .int .i64 acl, .int .i64 bk, .string bnm, .string bot, .bool bb, .slice bao bn bq, .slice bko bkn bkc, .int .i64 bln, .int .i64 bcl, .int .i64 ck, .string cnm, .string cot, .bool cb, .slice cao cn cq, .slice cko ckn ckc, .int .i64 cln, .int .i64 ccl] 30) := ⟨_, rfl⟩
  have hb : Below w21.heap.size w21 w22 := by rw [hw]; exact (Below.refl _ _).alloc (Nat.le_refl _) _
  have hk : w22.heap[w21.heap.size]? = some (.cells #[.int .i64 ak, .string anm, .string aot, .bool ab, .slice aao an aq, .slice ako akn akc, .int .i64 aln, .int .i64 acl, .int .i64 bk, .string bnm, .string bot, .bool bb, .slice bao bn bq, .slice bko bkn bkc, .int .i64 bln, .int .i64 bcl, .int .i64 ck, .string cnm, .string cot, .bool cb, .slice cao cn cq, .slice cko ckn ckc, .int .i64 cln, .int .i64 ccl] 30 (0, 0)) := by rw [hw]; exact made_at w21 _ _ rfl
  rw [← hw]
  obtain ⟨kkk, hkk⟩ : ∃ k, k = w21.heap.size := ⟨_, rfl⟩
  have hgkk : g < kkk := by rw [hkk]; exact HP.out.lt
  have hekk : w.heap.size ≤ kkk := by omega
  have hr_kk : kr < kkk := by rw [hkk]; exact lt_of_block HBr.out
  have ht_kk : kt < kkk := by rw [hkk]; exact lt_of_block HBt.out
  have ha_kk : ka < kkk := by rw [hkk]; exact lt_of_block HBa.out
  have hb_kk : kb < kkk := by rw [hkk]; exact lt_of_block HBb.out
  have hnh_kk : knh < kkk := by rw [hkk]; exact lt_of_block HBnh.out
  have hnt_kk : knt < kkk := by rw [hkk]; exact lt_of_block HBnt.out
  have hc_kk : kc < kkk := by rw [hkk]; exact lt_of_block HBc.out
  replace HUa := Lib.hid (HUa.out.off.mono (S' := fun b => ((((((((((Na ≤ b ∧ True) ∧ b ≠ ka) ∧ b ≠ kq1) ∧ b ≠ kb) ∧ b ≠ kq2) ∧ b ≠ knh) ∧ b ≠ kq3) ∧ b ≠ knt) ∧ b ≠ kq4) ∧ b ≠ kc) ∧ b ≠ kkk) (fun b h => ⟨h.1, fun e => h.2 (by rw [e, hkk])⟩))
  replace HUb := Lib.hid (HUb.out.off.mono (S' := fun b => ((((((((Nb ≤ b ∧ True) ∧ b ≠ kb) ∧ b ≠ kq2) ∧ b ≠ knh) ∧ b ≠ kq3) ∧ b ≠ knt) ∧ b ≠ kq4) ∧ b ≠ kc) ∧ b ≠ kkk) (fun b h => ⟨h.1, fun e => h.2 (by rw [e, hkk])⟩))
  replace HUc := Lib.hid (HUc.out.off.mono (S' := fun b => ((Nc ≤ b ∧ True) ∧ b ≠ kc) ∧ b ≠ kkk) (fun b h => ⟨h.1, fun e => h.2 (by rw [e, hkk])⟩))
  rw [← hkk] at hk ⊢
  replace HBr := Lib.hid ((hb.block _ (lt_of_block HBr.out)).trans HBr.out)
  replace HBt := Lib.hid ((hb.block _ (lt_of_block HBt.out)).trans HBt.out)
  replace HBa := Lib.hid ((hb.block _ (lt_of_block HBa.out)).trans HBa.out)
  replace HBb := Lib.hid ((hb.block _ (lt_of_block HBb.out)).trans HBb.out)
  replace HBnh := Lib.hid ((hb.block _ (lt_of_block HBnh.out)).trans HBnh.out)
  replace HBnt := Lib.hid ((hb.block _ (lt_of_block HBnt.out)).trans HBnt.out)
  replace HBc := Lib.hid ((hb.block _ (lt_of_block HBc.out)).trans HBc.out)
  replace HP := Lib.hid (HP.out.below hb)
  replace HUa := Lib.hid (HUa.out.below hb)
  replace HUb := Lib.hid (HUb.out.below hb)
  replace HUc := Lib.hid (HUc.out.below hb)
  replace HOP := Lib.hid (HOP.out.below hb)
  replace HD := Lib.hid (grown_tr HD.out (below_grown hb (some g)))
  have hsz22 := HD.out.size
  have HBkk := Lib.hid hk
  clear hw hb hk hkk
  refine (part_p 27 t (some ⟨kkk, 0, none⟩) 3 3 w22).mono ?_
  rintro e w23 ⟨rfl, hb⟩
  replace HBr := Lib.hid ((hb.block _ (lt_of_block HBr.out)).trans HBr.out)
  replace HBt := Lib.hid ((hb.block _ (lt_of_block HBt.out)).trans HBt.out)
  replace HBa := Lib.hid ((hb.block _ (lt_of_block HBa.out)).trans HBa.out)
  replace HBb := Lib.hid ((hb.block _ (lt_of_block HBb.out)).trans HBb.out)
  replace HBnh := Lib.hid ((hb.block _ (lt_of_block HBnh.out)).trans HBnh.out)
  replace HBnt := Lib.hid ((hb.block _ (lt_of_block HBnt.out)).trans HBnt.out)
  replace HBc := Lib.hid ((hb.block _ (lt_of_block HBc.out)).trans HBc.out)
  replace HBkk := Lib.hid ((hb.block _ (lt_of_block HBkk.out)).trans HBkk.out)
  replace HP := Lib.hid (HP.out.below hb)
  replace HUa := Lib.hid (HUa.out.below hb)
  replace HUb := Lib.hid (HUb.out.below hb)
  replace HUc := Lib.hid (HUc.out.below hb)
  replace HOP := Lib.hid (HOP.out.below hb)
  replace HD := Lib.hid (grown_tr HD.out (below_grown hb (some g)))
  have hsz23 := HD.out.size
  clear hb
  simp only [xv]
  go_upto_region 12 with fail
  obtain ⟨w24, hw⟩ : ∃ x, x = w23.alloc (.cells #[.int .i64 27, .string ⟨#[]⟩, .string ⟨#[]⟩, .bool false, .slice none 0 0, .slice (some ⟨kkk, 0, none⟩) 3 3, .int .i64 (t.line : Nat), .int .i64 (t.col : Nat)] 30) := ⟨_, rfl⟩
  have hb : Below w23.heap.size w23 w24 := by rw [hw]; exact (Below.refl _ _).alloc (Nat.le_refl _) _
  have hk : w24.heap[w23.heap.size]? = some (.cells #[.int .i64 27, .string ⟨#[]⟩, .string ⟨#[]⟩, .bool false, .slice none 0 0, .slice (some ⟨kkk, 0, none⟩) 3 3, .int .i64 (t.line : Nat), .int .i64 (t.col : Nat)] 30 (0, 0)) := by rw [hw]; exact made_at w23 _ _ rfl
  rw [← hw]
  obtain ⟨kv, hkk⟩ : ∃ k, k = w23.heap.size := ⟨_, rfl⟩
  have hgv : g < kv := by rw [hkk]; exact HP.out.lt
  have hev : w.heap.size ≤ kv := by omega
  have hr_v : kr < kv := by rw [hkk]; exact lt_of_block HBr.out
  have ht_v : kt < kv := by rw [hkk]; exact lt_of_block HBt.out
  have ha_v : ka < kv := by rw [hkk]; exact lt_of_block HBa.out
  have hb_v : kb < kv := by rw [hkk]; exact lt_of_block HBb.out
  have hnh_v : knh < kv := by rw [hkk]; exact lt_of_block HBnh.out
  have hnt_v : knt < kv := by rw [hkk]; exact lt_of_block HBnt.out
  have hc_v : kc < kv := by rw [hkk]; exact lt_of_block HBc.out
  have hkk_v : kkk < kv := by rw [hkk]; exact lt_of_block HBkk.out
  replace HUa := Lib.hid (HUa.out.off.mono (S' := fun b => (((((((((((Na ≤ b ∧ True) ∧ b ≠ ka) ∧ b ≠ kq1) ∧ b ≠ kb) ∧ b ≠ kq2) ∧ b ≠ knh) ∧ b ≠ kq3) ∧ b ≠ knt) ∧ b ≠ kq4) ∧ b ≠ kc) ∧ b ≠ kkk) ∧ b ≠ kv) (fun b h => ⟨h.1, fun e => h.2 (by rw [e, hkk])⟩))
  replace HUb := Lib.hid (HUb.out.off.mono (S' := fun b => (((((((((Nb ≤ b ∧ True) ∧ b ≠ kb) ∧ b ≠ kq2) ∧ b ≠ knh) ∧ b ≠ kq3) ∧ b ≠ knt) ∧ b ≠ kq4) ∧ b ≠ kc) ∧ b ≠ kkk) ∧ b ≠ kv) (fun b h => ⟨h.1, fun e => h.2 (by rw [e, hkk])⟩))
  replace HUc := Lib.hid (HUc.out.off.mono (S' := fun b => (((Nc ≤ b ∧ True) ∧ b ≠ kc) ∧ b ≠ kkk) ∧ b ≠ kv) (fun b h => ⟨h.1, fun e => h.2 (by rw [e, hkk])⟩))
  rw [← hkk] at hk ⊢
  replace HBr := Lib.hid ((hb.block _ (lt_of_block HBr.out)).trans HBr.out)
  replace HBt := Lib.hid ((hb.block _ (lt_of_block HBt.out)).trans HBt.out)
  replace HBa := Lib.hid ((hb.block _ (lt_of_block HBa.out)).trans HBa.out)
  replace HBb := Lib.hid ((hb.block _ (lt_of_block HBb.out)).trans HBb.out)
  replace HBnh := Lib.hid ((hb.block _ (lt_of_block HBnh.out)).trans HBnh.out)
  replace HBnt := Lib.hid ((hb.block _ (lt_of_block HBnt.out)).trans HBnt.out)
  replace HBc := Lib.hid ((hb.block _ (lt_of_block HBc.out)).trans HBc.out)
  replace HBkk := Lib.hid ((hb.block _ (lt_of_block HBkk.out)).trans HBkk.out)
  replace HP := Lib.hid (HP.out.below hb)
  replace HUa := Lib.hid (HUa.out.below hb)
  replace HUb := Lib.hid (HUb.out.below hb)
  replace HUc := Lib.hid (HUc.out.below hb)
  replace HOP := Lib.hid (HOP.out.below hb)
  replace HD := Lib.hid (grown_tr HD.out (below_grown hb (some g)))
  have hsz24 := HD.out.size
  have HBv := Lib.hid hk
  clear hw hb hk hkk
  have cnh0 := cell_at (v := .int .i64 (nh.kind : Nat)) HBnh.out 0 rfl
  have cnh1 := cell_at (v := .string ⟨nh.text.toArray⟩) HBnh.out 1 rfl
  have cnh2 := cell_at (v := .int .i64 (nh.line : Nat)) HBnh.out 2 rfl
  have cnh3 := cell_at (v := .int .i64 (nh.col : Nat)) HBnh.out 3 rfl
  have cnt0 := cell_at (v := .int .i64 (nt.kind : Nat)) HBnt.out 0 rfl
  have cnt1 := cell_at (v := .string ⟨nt.text.toArray⟩) HBnt.out 1 rfl
  have cnt2 := cell_at (v := .int .i64 (nt.line : Nat)) HBnt.out 2 rfl
  have cnt3 := cell_at (v := .int .i64 (nt.col : Nat)) HBnt.out 3 rfl
  have cv0 := cell_at (v := .int .i64 27) HBv.out 0 rfl
  have fcv0 := froz_at HBv.out 0
  have cv1 := cell_at (v := .string ⟨#[]⟩) HBv.out 1 rfl
  have fcv1 := froz_at HBv.out 1
  have cv2 := cell_at (v := .string ⟨#[]⟩) HBv.out 2 rfl
  have fcv2 := froz_at HBv.out 2
  have cv3 := cell_at (v := .bool false) HBv.out 3 rfl
  have fcv3 := froz_at HBv.out 3
  have cv4 := cell_at (v := .slice none 0 0) HBv.out 4 rfl
  have fcv4 := froz_at HBv.out 4
  have cv5 := cell_at (v := .slice (some ⟨kkk, 0, none⟩) 3 3) HBv.out 5 rfl
  have fcv5 := froz_at HBv.out 5
  have cv6 := cell_at (v := .int .i64 (t.line : Nat)) HBv.out 6 rfl
  have fcv6 := froz_at HBv.out 6
  have cv7 := cell_at (v := .int .i64 (t.col : Nat)) HBv.out 7 rfl
  have fcv7 := froz_at HBv.out 7
  go_region
  obtain ⟨w25, hw⟩ : ∃ x, x = ((w24.setCell ⟨kv, 1, none⟩ (.string ⟨nh.text.toArray⟩)).setCell ⟨kv, 2, none⟩ (.string ⟨nt.text.toArray⟩)).drew := ⟨_, rfl⟩
  have hg : w24.grownBy w25 (some kv) := by rw [hw]; exact grown_drew (grown_tr (grown_set _ kv 1 _) (grown_set _ kv 2 _))
  have hv : w25.heap[kv]? = some (.cells #[.int .i64 27, .string ⟨nh.text.toArray⟩, .string ⟨nt.text.toArray⟩, .bool false, .slice none 0 0, .slice (some ⟨kkk, 0, none⟩) 3 3, .int .i64 (t.line : Nat), .int .i64 (t.col : Nat)] 30 (0, 0)) := by rw [hw]; show ((w24.setCell ⟨kv, 1, none⟩ (.string ⟨nh.text.toArray⟩)).setCell ⟨kv, 2, none⟩ (.string ⟨nt.text.toArray⟩)).heap[kv]? = _; rw [heap_setCell_same _ kv 2 _ _ _ (heap_setCell_same _ kv 1 _ _ _ HBv.out)]; rfl
  rw [← hw]
  clear cnh0 cnh1 cnh2 cnh3 cnt0 cnt1 cnt2 cnt3 cv0 fcv0 cv1 fcv1 cv2 fcv2 cv3 fcv3 cv4 fcv4 cv5 fcv5 cv6 fcv6 cv7 fcv7
  replace HP := Lib.hid (HP.out.store HBv.out (by decide) (by omega) hg)
  replace HBr := Lib.hid ((hg.block _ (lt_of_block HBr.out) (fun e => by injection e with e; omega)).trans HBr.out)
  replace HBt := Lib.hid ((hg.block _ (lt_of_block HBt.out) (fun e => by injection e with e; omega)).trans HBt.out)
  replace HBa := Lib.hid ((hg.block _ (lt_of_block HBa.out) (fun e => by injection e with e; omega)).trans HBa.out)
  replace HBb := Lib.hid ((hg.block _ (lt_of_block HBb.out) (fun e => by injection e with e; omega)).trans HBb.out)
  replace HBnh := Lib.hid ((hg.block _ (lt_of_block HBnh.out) (fun e => by injection e with e; omega)).trans HBnh.out)
  replace HBnt := Lib.hid ((hg.block _ (lt_of_block HBnt.out) (fun e => by injection e with e; omega)).trans HBnt.out)
  replace HBc := Lib.hid ((hg.block _ (lt_of_block HBc.out) (fun e => by injection e with e; omega)).trans HBc.out)
  replace HBkk := Lib.hid ((hg.block _ (lt_of_block HBkk.out) (fun e => by injection e with e; omega)).trans HBkk.out)
  replace HUa := Lib.hid (HUa.out.grown hg (fun h => by have h : (((((((((((Na ≤ kv ∧ True) ∧ kv ≠ ka) ∧ kv ≠ kq1) ∧ kv ≠ kb) ∧ kv ≠ kq2) ∧ kv ≠ knh) ∧ kv ≠ kq3) ∧ kv ≠ knt) ∧ kv ≠ kq4) ∧ kv ≠ kc) ∧ kv ≠ kkk) ∧ kv ≠ kv := h; omega))
  replace HUb := Lib.hid (HUb.out.grown hg (fun h => by have h : (((((((((Nb ≤ kv ∧ True) ∧ kv ≠ kb) ∧ kv ≠ kq2) ∧ kv ≠ knh) ∧ kv ≠ kq3) ∧ kv ≠ knt) ∧ kv ≠ kq4) ∧ kv ≠ kc) ∧ kv ≠ kkk) ∧ kv ≠ kv := h; omega))
  replace HUc := Lib.hid (HUc.out.grown hg (fun h => by have h : (((Nc ≤ kv ∧ True) ∧ kv ≠ kc) ∧ kv ≠ kkk) ∧ kv ≠ kv := h; omega))
  replace HOP := Lib.hid (HOP.out.grown hg (by omega))
  replace HD := Lib.hid (grown_new HD.out hg (by omega))
  have hsz25 := HD.out.size
  replace HBv := Lib.hid hv
  clear hw hg hv
  have cv0 := cell_at (v := .int .i64 27) HBv.out 0 rfl
  have cv1 := cell_at (v := .string ⟨nh.text.toArray⟩) HBv.out 1 rfl
  have cv2 := cell_at (v := .string ⟨nt.text.toArray⟩) HBv.out 2 rfl
  have cv3 := cell_at (v := .bool false) HBv.out 3 rfl
  have cv4 := cell_at (v := .slice none 0 0) HBv.out 4 rfl
  have cv5 := cell_at (v := .slice (some ⟨kkk, 0, none⟩) 3 3) HBv.out 5 rfl
  have cv6 := cell_at (v := .int .i64 (t.line : Nat)) HBv.out 6 rfl
  have cv7 := cell_at (v := .int .i64 (t.col : Nat)) HBv.out 7 rfl
  have z0 := cell_at (v := .int .i64 0) HBr.out 0 rfl
  have fz0 := froz_at HBr.out 0
  have z1 := cell_at (v := .string ⟨#[]⟩) HBr.out 1 rfl
  have fz1 := froz_at HBr.out 1
  have z2 := cell_at (v := .string ⟨#[]⟩) HBr.out 2 rfl
  have fz2 := froz_at HBr.out 2
  have z3 := cell_at (v := .bool false) HBr.out 3 rfl
  have fz3 := froz_at HBr.out 3
  have z4 := cell_at (v := .slice none 0 0) HBr.out 4 rfl
  have fz4 := froz_at HBr.out 4
  have z5 := cell_at (v := .slice none 0 0) HBr.out 5 rfl
  have fz5 := froz_at HBr.out 5
  have z6 := cell_at (v := .int .i64 0) HBr.out 6 rfl
  have fz6 := froz_at HBr.out 6
  have z7 := cell_at (v := .int .i64 0) HBr.out 7 rfl
  have fz7 := froz_at HBr.out 7
  go_wp2_with fail
  refine bodyPost_ret (v := .agg #[.int .i64 27, .string ⟨nh.text.toArray⟩, .string ⟨nt.text.toArray⟩, .bool false, .slice none 0 0, .slice (some ⟨kkk, 0, none⟩) 3 3, .int .i64 (t.line : Nat), .int .i64 (t.col : Nat)]) (by simp [results, Tryd.results27, go_sem, z0, z1, z2, z3, z4, z5, z6, z7]) rfl ?_
  obtain ⟨wz, hw⟩ : ∃ x, x = st8 w25 kr (.int .i64 27) (.string ⟨nh.text.toArray⟩) (.string ⟨nt.text.toArray⟩) (.bool false) (.slice none 0 0) (.slice (some ⟨kkk, 0, none⟩) 3 3) (.int .i64 (t.line : Nat)) (.int .i64 (t.col : Nat)) := ⟨_, rfl⟩
  have hg : w25.grownBy wz (some kr) := by rw [hw]; exact st8_grown _ _ _ _ _ _ _ _ _ _
  change TreePost w g _ _ _ (st8 w25 kr (.int .i64 27) (.string ⟨nh.text.toArray⟩) (.string ⟨nt.text.toArray⟩) (.bool false) (.slice none 0 0) (.slice (some ⟨kkk, 0, none⟩) 3 3) (.int .i64 (t.line : Nat)) (.int .i64 (t.col : Nat)))
  rw [← hw]
  clear cv0 cv1 cv2 cv3 cv4 cv5 cv6 cv7 z0 fz0 z1 fz1 z2 fz2 z3 fz3 z4 fz4 z5 fz5 z6 fz6 z7 fz7
  replace HP := Lib.hid (HP.out.store HBr.out (by decide) (by omega) hg)
  replace HBt := Lib.hid ((hg.block _ (lt_of_block HBt.out) (fun e => by injection e with e; omega)).trans HBt.out)
  replace HBa := Lib.hid ((hg.block _ (lt_of_block HBa.out) (fun e => by injection e with e; omega)).trans HBa.out)
  replace HBb := Lib.hid ((hg.block _ (lt_of_block HBb.out) (fun e => by injection e with e; omega)).trans HBb.out)
  replace HBnh := Lib.hid ((hg.block _ (lt_of_block HBnh.out) (fun e => by injection e with e; omega)).trans HBnh.out)
  replace HBnt := Lib.hid ((hg.block _ (lt_of_block HBnt.out) (fun e => by injection e with e; omega)).trans HBnt.out)
  replace HBc := Lib.hid ((hg.block _ (lt_of_block HBc.out) (fun e => by injection e with e; omega)).trans HBc.out)
  replace HBkk := Lib.hid ((hg.block _ (lt_of_block HBkk.out) (fun e => by injection e with e; omega)).trans HBkk.out)
  replace HBv := Lib.hid ((hg.block _ (lt_of_block HBv.out) (fun e => by injection e with e; omega)).trans HBv.out)
  replace HUa := Lib.hid (HUa.out.grown hg (fun h => by have h : (((((((((((Na ≤ kr ∧ True) ∧ kr ≠ ka) ∧ kr ≠ kq1) ∧ kr ≠ kb) ∧ kr ≠ kq2) ∧ kr ≠ knh) ∧ kr ≠ kq3) ∧ kr ≠ knt) ∧ kr ≠ kq4) ∧ kr ≠ kc) ∧ kr ≠ kkk) ∧ kr ≠ kv := h; omega))
  replace HUb := Lib.hid (HUb.out.grown hg (fun h => by have h : (((((((((Nb ≤ kr ∧ True) ∧ kr ≠ kb) ∧ kr ≠ kq2) ∧ kr ≠ knh) ∧ kr ≠ kq3) ∧ kr ≠ knt) ∧ kr ≠ kq4) ∧ kr ≠ kc) ∧ kr ≠ kkk) ∧ kr ≠ kv := h; omega))
  replace HUc := Lib.hid (HUc.out.grown hg (fun h => by have h : (((Nc ≤ kr ∧ True) ∧ kr ≠ kc) ∧ kr ≠ kkk) ∧ kr ≠ kv := h; omega))
  replace HOP := Lib.hid (HOP.out.grown hg (by omega))
  replace HD := Lib.hid (grown_new HD.out hg (by omega))
  have hsz25 := HD.out.size
  clear hw hg
  have hu : U.node 27 (r2.2.exp wBar).nx.text (((r2.2.exp wBar).name).exp wCons).nx.text 0 s.nx.line s.nx.col [r1.1, r2.1, r3.1] = U.node 27 nh.text nt.text 0 t.line t.col [r1.1, r2.1, r3.1] := by rw [HNt.out, HNnh.out, HNnt.out]
  rw [hu]
  exact ⟨⟨27, ⟨nh.text.toArray⟩, ⟨nt.text.toArray⟩, false, none, 0, 0, some ⟨kkk, 0, none⟩, 3, 3, (t.line : Nat), (t.col : Nat)⟩, rfl, um_node 27 nh.text nt.text t.line t.col kkk [⟨ak, anm, aot, ab, aao, an, aq, ako, akn, akc, aln, acl⟩, ⟨bk, bnm, bot, bb, bao, bn, bq, bko, bkn, bkc, bln, bcl⟩, ⟨ck, cnm, cot, cb, cao, cn, cq, cko, ckn, ckc, cln, ccl⟩] [r1.1, r2.1, r3.1] 3 rfl (by omega) HBkk.out rfl (all3 (HUa.out.mono (fun b h => by have h : (((((((((((Na ≤ b ∧ True) ∧ b ≠ ka) ∧ b ≠ kq1) ∧ b ≠ kb) ∧ b ≠ kq2) ∧ b ≠ knh) ∧ b ≠ kq3) ∧ b ≠ knt) ∧ b ≠ kq4) ∧ b ≠ kc) ∧ b ≠ kkk) ∧ b ≠ kv := h; show _ ≤ b; omega)) (HUb.out.mono (fun b h => by have h : (((((((((Nb ≤ b ∧ True) ∧ b ≠ kb) ∧ b ≠ kq2) ∧ b ≠ knh) ∧ b ≠ kq3) ∧ b ≠ knt) ∧ b ≠ kq4) ∧ b ≠ kc) ∧ b ≠ kkk) ∧ b ≠ kv := h; show _ ≤ b; omega)) (HUc.out.mono (fun b h => by have h : (((Nc ≤ b ∧ True) ∧ b ≠ kc) ∧ b ≠ kkk) ∧ b ≠ kv := h; show _ ≤ b; omega))), HP.out, HD.out⟩

set_option maxHeartbeats 8000000 in
theorem one_p (n : Nat) (O : Hid (OneAt n)) (A : Hid (AtomAt n)) : OneAt (n + 1) := by
  intro g s r w hps hop hc
  have HP := Lib.hid hps
  have HOP := Lib.hid hop
  clear hps hop
  rw [cOne] at hc
  cases hu : unOf s.nx.text with
  | none =>
    rw [hu] at hc
    have HU := Lib.hid hu
    have h1 := Lib.hid hc
    clear hu hc
    go_enter Tryd.func40, Tryd.ntmps40
    go_upto_region 1 with fail
    obtain ⟨w1, hw⟩ : ∃ x, x = w.alloc (.cells #[.int .i64 0, .string ⟨#[]⟩, .string ⟨#[]⟩, .bool false, .slice none 0 0, .slice none 0 0, .int .i64 0, .int .i64 0] 30) := ⟨_, rfl⟩
    have hb : Below w.heap.size w w1 := by rw [hw]; exact (Below.refl _ _).alloc (Nat.le_refl _) _
    have hk : w1.heap[w.heap.size]? = some (.cells #[.int .i64 0, .string ⟨#[]⟩, .string ⟨#[]⟩, .bool false, .slice none 0 0, .slice none 0 0, .int .i64 0, .int .i64 0] 30 (0, 0)) := by rw [hw]; exact made_at w _ _ rfl
    rw [← hw]
    obtain ⟨kr, hkk⟩ : ∃ k, k = w.heap.size := ⟨_, rfl⟩
    have hgr : g < kr := by rw [hkk]; exact HP.out.lt
    have her : w.heap.size ≤ kr := by omega
    rw [← hkk] at hk ⊢
    replace HP := Lib.hid (HP.out.below hb)
    replace HOP := Lib.hid (HOP.out.below hb)
    have HD := Lib.hid (below_grown hb (some g))
    have hsz1 := HD.out.size
    have HBr := Lib.hid hk
    clear hw hb hk hkk
    go_wp2_with fail
    refine (next_p g s w1 HP.out).mono ?_
    rintro e w2 ⟨rfl, hb⟩
    replace HBr := Lib.hid ((hb.block _ (lt_of_block HBr.out)).trans HBr.out)
    replace HP := Lib.hid (HP.out.below hb)
    replace HOP := Lib.hid (HOP.out.below hb)
    replace HD := Lib.hid (grown_tr HD.out (below_grown hb (some g)))
    have hsz2 := HD.out.size
    clear hb
    simp only [tokV]
    have hf := field_text (s.nx.kind : Nat) (s.nx.line : Nat) (s.nx.col : Nat) ⟨s.nx.text.toArray⟩ w2
    go_wp2_with fail
    refine (unary_p s.nx.text _).mono ?_
    rintro e wx ⟨rfl, hx⟩
    obtain rfl := hx.symm
    clear hx
    rw [HU.out]
    clear hf
    simp only [Option.getD_none, Option.isSome_none]
    go_wp2_with fail
    obtain ⟨Na, hN⟩ : ∃ k, k = w2.heap.size := ⟨_, rfl⟩
    have hr_Na : kr < Na := by rw [hN]; exact lt_of_block HBr.out
    have hg_Na : g < Na := by rw [hN]; exact HP.out.lt
    have he_Na : w.heap.size ≤ Na := by omega
    refine (A.out g  _ _ w2 HP.out HOP.out h1.out).mono ?_
    rintro e w3 ⟨xa, rfl, hu, hp, hg⟩
    replace HBr := Lib.hid ((hg.block _ (lt_of_block HBr.out) (fun e => by injection e with e; omega)).trans HBr.out)
    replace HOP := Lib.hid (HOP.out.grown hg (by omega))
    replace HP := Lib.hid hp
    replace HD := Lib.hid (grown_tr HD.out (hg))
    have hsz3 := HD.out.size
    rw [← hN] at hu
    have HUa := Lib.hid (hu.mono (S' := fun b => Na ≤ b ∧ True) (fun b h => ⟨h, trivial⟩))
    clear hN hu
    clear hp hg
    obtain ⟨ak, anm, aot, ab, aao, an, aq, ako, akn, akc, aln, acl⟩ := xa
    simp only [xv]
    have z0 := cell_at (v := .int .i64 0) HBr.out 0 rfl
    have fz0 := froz_at HBr.out 0
    have z1 := cell_at (v := .string ⟨#[]⟩) HBr.out 1 rfl
    have fz1 := froz_at HBr.out 1
    have z2 := cell_at (v := .string ⟨#[]⟩) HBr.out 2 rfl
    have fz2 := froz_at HBr.out 2
    have z3 := cell_at (v := .bool false) HBr.out 3 rfl
    have fz3 := froz_at HBr.out 3
    have z4 := cell_at (v := .slice none 0 0) HBr.out 4 rfl
    have fz4 := froz_at HBr.out 4
    have z5 := cell_at (v := .slice none 0 0) HBr.out 5 rfl
    have fz5 := froz_at HBr.out 5
    have z6 := cell_at (v := .int .i64 0) HBr.out 6 rfl
    have fz6 := froz_at HBr.out 6
    have z7 := cell_at (v := .int .i64 0) HBr.out 7 rfl
    have fz7 := froz_at HBr.out 7
    go_wp2_with fail
    refine bodyPost_ret (v := .agg #[.int .i64 ak, .string anm, .string aot, .bool ab, .slice aao an aq, .slice ako akn akc, .int .i64 aln, .int .i64 acl]) (by simp [results, Tryd.results40, go_sem, z0, z1, z2, z3, z4, z5, z6, z7]) rfl ?_
    obtain ⟨wz, hw⟩ : ∃ x, x = st8 w3 kr (.int .i64 ak) (.string anm) (.string aot) (.bool ab) (.slice aao an aq) (.slice ako akn akc) (.int .i64 aln) (.int .i64 acl) := ⟨_, rfl⟩
    have hg : w3.grownBy wz (some kr) := by rw [hw]; exact st8_grown _ _ _ _ _ _ _ _ _ _
    change TreePost w g _ _ _ (st8 w3 kr (.int .i64 ak) (.string anm) (.string aot) (.bool ab) (.slice aao an aq) (.slice ako akn akc) (.int .i64 aln) (.int .i64 acl))
    rw [← hw]
    clear z0 fz0 z1 fz1 z2 fz2 z3 fz3 z4 fz4 z5 fz5 z6 fz6 z7 fz7
    replace HP := Lib.hid (HP.out.store HBr.out (by decide) (by omega) hg)
    replace HUa := Lib.hid (HUa.out.grown hg (fun h => by have h : Na ≤ kr ∧ True := h; omega))
    replace HOP := Lib.hid (HOP.out.grown hg (by omega))
    replace HD := Lib.hid (grown_new HD.out hg (by omega))
    have hsz3 := HD.out.size
    clear hw hg
    exact ⟨⟨ak, anm, aot, ab, aao, an, aq, ako, akn, akc, aln, acl⟩, rfl, (HUa.out.mono (fun b h => by have h : Na ≤ b ∧ True := h; show _ ≤ b; omega)), HP.out, HD.out⟩
  | some kd =>
    rw [hu] at hc
    simp only [Option.bind_eq_some_iff] at hc
    obtain ⟨r1, h1, hr⟩ := hc
    injection hr with hr
    subst hr
    have HU := Lib.hid hu
    have h1 := Lib.hid h1
    clear hu
    go_enter Tryd.func40, Tryd.ntmps40
    go_upto_region 1 with fail
    obtain ⟨w1, hw⟩ : ∃ x, x = w.alloc (.cells #[.int .i64 0, .string ⟨#[]⟩, .string ⟨#[]⟩, .bool false, .slice none 0 0, .slice none 0 0, .int .i64 0, .int .i64 0] 30) := ⟨_, rfl⟩
    have hb : Below w.heap.size w w1 := by rw [hw]; exact (Below.refl _ _).alloc (Nat.le_refl _) _
    have hk : w1.heap[w.heap.size]? = some (.cells #[.int .i64 0, .string ⟨#[]⟩, .string ⟨#[]⟩, .bool false, .slice none 0 0, .slice none 0 0, .int .i64 0, .int .i64 0] 30 (0, 0)) := by rw [hw]; exact made_at w _ _ rfl
    rw [← hw]
    obtain ⟨kr, hkk⟩ : ∃ k, k = w.heap.size := ⟨_, rfl⟩
    have hgr : g < kr := by rw [hkk]; exact HP.out.lt
    have her : w.heap.size ≤ kr := by omega
    rw [← hkk] at hk ⊢
    replace HP := Lib.hid (HP.out.below hb)
    replace HOP := Lib.hid (HOP.out.below hb)
    have HD := Lib.hid (below_grown hb (some g))
    have hsz1 := HD.out.size
    have HBr := Lib.hid hk
    clear hw hb hk hkk
    go_wp2_with fail
    refine (next_p g s w1 HP.out).mono ?_
    rintro e w2 ⟨rfl, hb⟩
    replace HBr := Lib.hid ((hb.block _ (lt_of_block HBr.out)).trans HBr.out)
    replace HP := Lib.hid (HP.out.below hb)
    replace HOP := Lib.hid (HOP.out.below hb)
    replace HD := Lib.hid (grown_tr HD.out (below_grown hb (some g)))
    have hsz2 := HD.out.size
    clear hb
    simp only [tokV]
    have hf := field_text (s.nx.kind : Nat) (s.nx.line : Nat) (s.nx.col : Nat) ⟨s.nx.text.toArray⟩ w2
    go_wp2_with fail
    refine (unary_p s.nx.text _).mono ?_
    rintro e wx ⟨rfl, hx⟩
    obtain rfl := hx.symm
    clear hx
    rw [HU.out]
    clear hf
    simp only [Option.getD_some, Option.isSome_some]
    go_wp2_with fail
    refine (take_p g s w2 HP.out).mono ?_
    rintro e w3 ⟨rfl, hp, hg⟩
    replace HBr := Lib.hid ((hg.block _ (lt_of_block HBr.out) (fun e => by injection e with e; omega)).trans HBr.out)
    replace HOP := Lib.hid (HOP.out.grown hg (by omega))
    replace HP := Lib.hid hp
    replace HD := Lib.hid (grown_tr HD.out (hg))
    have hsz3 := HD.out.size
    clear hp hg
    simp only [tokV]
    obtain ⟨t, hnx⟩ : ∃ t, t = St.nx s := ⟨_, rfl⟩
    rw [← hnx]
    have HNt := Lib.hid hnx
    clear hnx
    go_upto_region 5 with fail
    obtain ⟨w4, hw⟩ : ∃ x, x = w3.alloc (.cells #[.int .i64 (t.kind : Nat), .string ⟨t.text.toArray⟩, .int .i64 (t.line : Nat), .int .i64 (t.col : Nat)] 57) := ⟨_, rfl⟩
    have hb : Below w3.heap.size w3 w4 := by rw [hw]; exact (Below.refl _ _).alloc (Nat.le_refl _) _
    have hk : w4.heap[w3.heap.size]? = some (.cells #[.int .i64 (t.kind : Nat), .string ⟨t.text.toArray⟩, .int .i64 (t.line : Nat), .int .i64 (t.col : Nat)] 57 (0, 0)) := by rw [hw]; exact made_at w3 _ _ rfl
    rw [← hw]
    obtain ⟨kt, hkk⟩ : ∃ k, k = w3.heap.size := ⟨_, rfl⟩
    have hgt : g < kt := by rw [hkk]; exact HP.out.lt
    have het : w.heap.size ≤ kt := by omega
    have hr_t : kr < kt := by rw [hkk]; exact lt_of_block HBr.out
    rw [← hkk] at hk ⊢
    replace HBr := Lib.hid ((hb.block _ (lt_of_block HBr.out)).trans HBr.out)
    replace HP := Lib.hid (HP.out.below hb)
    replace HOP := Lib.hid (HOP.out.below hb)
    replace HD := Lib.hid (grown_tr HD.out (below_grown hb (some g)))
    have hsz4 := HD.out.size
    have HBt := Lib.hid hk
    clear hw hb hk hkk
    go_wp2_with fail
    obtain ⟨Na, hN⟩ : ∃ k, k = w4.heap.size := ⟨_, rfl⟩
    have hr_Na : kr < Na := by rw [hN]; exact lt_of_block HBr.out
    have ht_Na : kt < Na := by rw [hN]; exact lt_of_block HBt.out
    have hg_Na : g < Na := by rw [hN]; exact HP.out.lt
    have he_Na : w.heap.size ≤ Na := by omega
    refine (O.out g _ _ w4 HP.out HOP.out h1.out).mono ?_
    rintro e w5 ⟨xa, rfl, hu, hp, hg⟩
    replace HBr := Lib.hid ((hg.block _ (lt_of_block HBr.out) (fun e => by injection e with e; omega)).trans HBr.out)
    replace HBt := Lib.hid ((hg.block _ (lt_of_block HBt.out) (fun e => by injection e with e; omega)).trans HBt.out)
    replace HOP := Lib.hid (HOP.out.grown hg (by omega))
    replace HP := Lib.hid hp
    replace HD := Lib.hid (grown_tr HD.out (hg))
    have hsz5 := HD.out.size
    rw [← hN] at hu
    have HUa := Lib.hid (hu.mono (S' := fun b => Na ≤ b ∧ True) (fun b h => ⟨h, trivial⟩))
    clear hN hu
    clear hp hg
    obtain ⟨ak, anm, aot, ab, aao, an, aq, ako, akn, akc, aln, acl⟩ := xa
    simp only [xv]
    go_upto_region 6 with fail
    obtain ⟨w6, hw⟩ : ∃ x, x = w5.alloc (.cells #[.int .i64 ak, .string anm, .string aot, .bool ab, .slice aao an aq, .slice ako akn akc, .int .i64 aln, .int .i64 acl] 30) := ⟨_, rfl⟩
    have hb : Below w5.heap.size w5 w6 := by rw [hw]; exact (Below.refl _ _).alloc (Nat.le_refl _) _
    have hk : w6.heap[w5.heap.size]? = some (.cells #[.int .i64 ak, .string anm, .string aot, .bool ab, .slice aao an aq, .slice ako akn akc, .int .i64 aln, .int .i64 acl] 30 (0, 0)) := by rw [hw]; exact made_at w5 _ _ rfl
    rw [← hw]
    obtain ⟨ka, hkk⟩ : ∃ k, k = w5.heap.size := ⟨_, rfl⟩
    have hga : g < ka := by rw [hkk]; exact HP.out.lt
    have hea : w.heap.size ≤ ka := by omega
    have hr_a : kr < ka := by rw [hkk]; exact lt_of_block HBr.out
    have ht_a : kt < ka := by rw [hkk]; exact lt_of_block HBt.out
    replace HUa := Lib.hid (HUa.out.off.mono (S' := fun b => (Na ≤ b ∧ True) ∧ b ≠ ka) (fun b h => ⟨h.1, fun e => h.2 (by rw [e, hkk])⟩))
    rw [← hkk] at hk ⊢
    replace HBr := Lib.hid ((hb.block _ (lt_of_block HBr.out)).trans HBr.out)
    replace HBt := Lib.hid ((hb.block _ (lt_of_block HBt.out)).trans HBt.out)
    replace HP := Lib.hid (HP.out.below hb)
    replace HUa := Lib.hid (HUa.out.below hb)
    replace HOP := Lib.hid (HOP.out.below hb)
    replace HD := Lib.hid (grown_tr HD.out (below_grown hb (some g)))
    have hsz6 := HD.out.size
    have HBa := Lib.hid hk
    clear hw hb hk hkk
    have ct0 := cell_at (v := .int .i64 (t.kind : Nat)) HBt.out 0 rfl
    have ct1 := cell_at (v := .string ⟨t.text.toArray⟩) HBt.out 1 rfl
    have ct2 := cell_at (v := .int .i64 (t.line : Nat)) HBt.out 2 rfl
    have ct3 := cell_at (v := .int .i64 (t.col : Nat)) HBt.out 3 rfl
    have ca0 := cell_at (v := .int .i64 ak) HBa.out 0 rfl
    have ca1 := cell_at (v := .string anm) HBa.out 1 rfl
    have ca2 := cell_at (v := .string aot) HBa.out 2 rfl
    have ca3 := cell_at (v := .bool ab) HBa.out 3 rfl
    have ca4 := cell_at (v := .slice aao an aq) HBa.out 4 rfl
    have ca5 := cell_at (v := .slice ako akn akc) HBa.out 5 rfl
    have ca6 := cell_at (v := .int .i64 aln) HBa.out 6 rfl
    have ca7 := cell_at (v := .int .i64 acl) HBa.out 7 rfl
    go_wp2_with fail
    clear ct0 ct1 ct2 ct3 ca0 ca1 ca2 ca3 ca4 ca5 ca6 ca7
    obtain ⟨w7, hw⟩ : ∃ x, x = w6.alloc (.cells #[.int .i64 ak, .string anm, .string aot, .bool ab, .slice aao an aq, .slice ako akn akc, .int .i64 aln, .int .i64 acl] 30) := ⟨_, rfl⟩
    have hb : Below w6.heap.size w6 w7 := by rw [hw]; exact (Below.refl _ _).alloc (Nat.le_refl _) _
    have hk : w7.heap[w6.heap.size]? = some (.cells #[.int .i64 ak, .string anm, .string aot, .bool ab, .slice aao an aq, .slice ako akn akc, .int .i64 aln, .int .i64 acl] 30 (0, 0)) := by rw [hw]; exact made_at w6 _ _ rfl
    rw [← hw]
    obtain ⟨kkk, hkk⟩ : ∃ k, k = w6.heap.size := ⟨_, rfl⟩
    have hgkk : g < kkk := by rw [hkk]; exact HP.out.lt
    have hekk : w.heap.size ≤ kkk := by omega
    have hr_kk : kr < kkk := by rw [hkk]; exact lt_of_block HBr.out
    have ht_kk : kt < kkk := by rw [hkk]; exact lt_of_block HBt.out
    have ha_kk : ka < kkk := by rw [hkk]; exact lt_of_block HBa.out
    replace HUa := Lib.hid (HUa.out.off.mono (S' := fun b => ((Na ≤ b ∧ True) ∧ b ≠ ka) ∧ b ≠ kkk) (fun b h => ⟨h.1, fun e => h.2 (by rw [e, hkk])⟩))
    rw [← hkk] at hk ⊢
    replace HBr := Lib.hid ((hb.block _ (lt_of_block HBr.out)).trans HBr.out)
    replace HBt := Lib.hid ((hb.block _ (lt_of_block HBt.out)).trans HBt.out)
    replace HBa := Lib.hid ((hb.block _ (lt_of_block HBa.out)).trans HBa.out)
    replace HP := Lib.hid (HP.out.below hb)
    replace HUa := Lib.hid (HUa.out.below hb)
    replace HOP := Lib.hid (HOP.out.below hb)
    replace HD := Lib.hid (grown_tr HD.out (below_grown hb (some g)))
    have hsz7 := HD.out.size
    have HBkk := Lib.hid hk
    clear hw hb hk hkk
    refine (part_p kd t (some ⟨kkk, 0, none⟩) 1 1 w7).mono ?_
    rintro e w8 ⟨rfl, hb⟩
    replace HBr := Lib.hid ((hb.block _ (lt_of_block HBr.out)).trans HBr.out)
    replace HBt := Lib.hid ((hb.block _ (lt_of_block HBt.out)).trans HBt.out)
    replace HBa := Lib.hid ((hb.block _ (lt_of_block HBa.out)).trans HBa.out)
    replace HBkk := Lib.hid ((hb.block _ (lt_of_block HBkk.out)).trans HBkk.out)
    replace HP := Lib.hid (HP.out.below hb)
    replace HUa := Lib.hid (HUa.out.below hb)
    replace HOP := Lib.hid (HOP.out.below hb)
    replace HD := Lib.hid (grown_tr HD.out (below_grown hb (some g)))
    have hsz8 := HD.out.size
    clear hb
    simp only [xv]
    have z0 := cell_at (v := .int .i64 0) HBr.out 0 rfl
    have fz0 := froz_at HBr.out 0
    have z1 := cell_at (v := .string ⟨#[]⟩) HBr.out 1 rfl
    have fz1 := froz_at HBr.out 1
    have z2 := cell_at (v := .string ⟨#[]⟩) HBr.out 2 rfl
    have fz2 := froz_at HBr.out 2
    have z3 := cell_at (v := .bool false) HBr.out 3 rfl
    have fz3 := froz_at HBr.out 3
    have z4 := cell_at (v := .slice none 0 0) HBr.out 4 rfl
    have fz4 := froz_at HBr.out 4
    have z5 := cell_at (v := .slice none 0 0) HBr.out 5 rfl
    have fz5 := froz_at HBr.out 5
    have z6 := cell_at (v := .int .i64 0) HBr.out 6 rfl
    have fz6 := froz_at HBr.out 6
    have z7 := cell_at (v := .int .i64 0) HBr.out 7 rfl
    have fz7 := froz_at HBr.out 7
    go_wp2_with fail
    refine bodyPost_ret (v := .agg #[.int .i64 (kd : Nat), .string ⟨#[]⟩, .string ⟨#[]⟩, .bool false, .slice none 0 0, .slice (some ⟨kkk, 0, none⟩) 1 1, .int .i64 (t.line : Nat), .int .i64 (t.col : Nat)]) (by simp [results, Tryd.results40, go_sem, z0, z1, z2, z3, z4, z5, z6, z7]) rfl ?_
    obtain ⟨wz, hw⟩ : ∃ x, x = st8 w8 kr (.int .i64 (kd : Nat)) (.string ⟨#[]⟩) (.string ⟨#[]⟩) (.bool false) (.slice none 0 0) (.slice (some ⟨kkk, 0, none⟩) 1 1) (.int .i64 (t.line : Nat)) (.int .i64 (t.col : Nat)) := ⟨_, rfl⟩
    have hg : w8.grownBy wz (some kr) := by rw [hw]; exact st8_grown _ _ _ _ _ _ _ _ _ _
    change TreePost w g _ _ _ (st8 w8 kr (.int .i64 (kd : Nat)) (.string ⟨#[]⟩) (.string ⟨#[]⟩) (.bool false) (.slice none 0 0) (.slice (some ⟨kkk, 0, none⟩) 1 1) (.int .i64 (t.line : Nat)) (.int .i64 (t.col : Nat)))
    rw [← hw]
    clear z0 fz0 z1 fz1 z2 fz2 z3 fz3 z4 fz4 z5 fz5 z6 fz6 z7 fz7
    replace HP := Lib.hid (HP.out.store HBr.out (by decide) (by omega) hg)
    replace HBt := Lib.hid ((hg.block _ (lt_of_block HBt.out) (fun e => by injection e with e; omega)).trans HBt.out)
    replace HBa := Lib.hid ((hg.block _ (lt_of_block HBa.out) (fun e => by injection e with e; omega)).trans HBa.out)
    replace HBkk := Lib.hid ((hg.block _ (lt_of_block HBkk.out) (fun e => by injection e with e; omega)).trans HBkk.out)
    replace HUa := Lib.hid (HUa.out.grown hg (fun h => by have h : ((Na ≤ kr ∧ True) ∧ kr ≠ ka) ∧ kr ≠ kkk := h; omega))
    replace HOP := Lib.hid (HOP.out.grown hg (by omega))
    replace HD := Lib.hid (grown_new HD.out hg (by omega))
    have hsz8 := HD.out.size
    clear hw hg
    have hu : U.node kd [] [] 0 s.nx.line s.nx.col [r1.1] = U.node kd [] [] 0 t.line t.col [r1.1] := by rw [HNt.out]
    unfold prt
    rw [hu]
    exact ⟨⟨(kd : Nat), ⟨#[]⟩, ⟨#[]⟩, false, none, 0, 0, some ⟨kkk, 0, none⟩, 1, 1, (t.line : Nat), (t.col : Nat)⟩, rfl, um_node kd [] [] t.line t.col kkk [⟨ak, anm, aot, ab, aao, an, aq, ako, akn, akc, aln, acl⟩] [r1.1] 1 rfl (by omega) HBkk.out rfl (all1 (HUa.out.mono (fun b h => by have h : ((Na ≤ b ∧ True) ∧ b ≠ ka) ∧ b ≠ kkk := h; show _ ≤ b; omega))), HP.out, HD.out⟩

set_option maxHeartbeats 8000000 in
theorem expr_p (n : Nat) (LE : Hid (LetAt n)) (IE : Hid (IfAt n)) (ME : Hid (MatchAt n)) (AE : Hid (AssertAt n)) (BE : Hid (BinAt n)) : ExprAt7 (n + 1) := by
  intro g s r w hps hop hc
  have HP := Lib.hid hps
  have HOP := Lib.hid hop
  clear hps hop
  rw [cExpr] at hc
  by_cases q0 : s.is wLet = true
  · rw [if_pos q0] at hc
    have h1 := Lib.hid hc
    have e0 : (s.nx.text == [108, 101, 116]) = true := q0
    clear hc q0
    go_enter Tryd.func15, Tryd.ntmps15
    go_upto_region 1 with fail
    obtain ⟨w1, hw⟩ : ∃ x, x = w.alloc (.cells #[.int .i64 0, .string ⟨#[]⟩, .string ⟨#[]⟩, .bool false, .slice none 0 0, .slice none 0 0, .int .i64 0, .int .i64 0] 30) := ⟨_, rfl⟩
    have hb : Below w.heap.size w w1 := by rw [hw]; exact (Below.refl _ _).alloc (Nat.le_refl _) _
    have hk : w1.heap[w.heap.size]? = some (.cells #[.int .i64 0, .string ⟨#[]⟩, .string ⟨#[]⟩, .bool false, .slice none 0 0, .slice none 0 0, .int .i64 0, .int .i64 0] 30 (0, 0)) := by rw [hw]; exact made_at w _ _ rfl
    rw [← hw]
    obtain ⟨kr, hkk⟩ : ∃ k, k = w.heap.size := ⟨_, rfl⟩
    have hgr : g < kr := by rw [hkk]; exact HP.out.lt
    have her : w.heap.size ≤ kr := by omega
    rw [← hkk] at hk ⊢
    replace HP := Lib.hid (HP.out.below hb)
    replace HOP := Lib.hid (HOP.out.below hb)
    have HD := Lib.hid (below_grown hb (some g))
    have hsz1 := HD.out.size
    have HBr := Lib.hid hk
    clear hw hb hk hkk
    go_wp2_with fail
    refine (next_p g s w1 HP.out).mono ?_
    rintro e w2 ⟨rfl, hb⟩
    replace HBr := Lib.hid ((hb.block _ (lt_of_block HBr.out)).trans HBr.out)
    replace HP := Lib.hid (HP.out.below hb)
    replace HOP := Lib.hid (HOP.out.below hb)
    replace HD := Lib.hid (grown_tr HD.out (below_grown hb (some g)))
    have hsz2 := HD.out.size
    clear hb
    simp only [tokV]
    have hf := field_text (s.nx.kind : Nat) (s.nx.line : Nat) (s.nx.col : Nat) ⟨s.nx.text.toArray⟩ w2
    go_wp2_with fail
    clear hf
    obtain ⟨Na, hN⟩ : ∃ k, k = w2.heap.size := ⟨_, rfl⟩
    have hr_Na : kr < Na := by rw [hN]; exact lt_of_block HBr.out
    have hg_Na : g < Na := by rw [hN]; exact HP.out.lt
    have he_Na : w.heap.size ≤ Na := by omega
    refine (LE.out g  _ _ w2 HP.out HOP.out h1.out).mono ?_
    rintro e w3 ⟨xa, rfl, hu, hp, hg⟩
    replace HBr := Lib.hid ((hg.block _ (lt_of_block HBr.out) (fun e => by injection e with e; omega)).trans HBr.out)
    replace HOP := Lib.hid (HOP.out.grown hg (by omega))
    replace HP := Lib.hid hp
    replace HD := Lib.hid (grown_tr HD.out (hg))
    have hsz3 := HD.out.size
    rw [← hN] at hu
    have HUa := Lib.hid (hu.mono (S' := fun b => Na ≤ b ∧ True) (fun b h => ⟨h, trivial⟩))
    clear hN hu
    clear hp hg
    obtain ⟨ak, anm, aot, ab, aao, an, aq, ako, akn, akc, aln, acl⟩ := xa
    simp only [xv]
    have z0 := cell_at (v := .int .i64 0) HBr.out 0 rfl
    have fz0 := froz_at HBr.out 0
    have z1 := cell_at (v := .string ⟨#[]⟩) HBr.out 1 rfl
    have fz1 := froz_at HBr.out 1
    have z2 := cell_at (v := .string ⟨#[]⟩) HBr.out 2 rfl
    have fz2 := froz_at HBr.out 2
    have z3 := cell_at (v := .bool false) HBr.out 3 rfl
    have fz3 := froz_at HBr.out 3
    have z4 := cell_at (v := .slice none 0 0) HBr.out 4 rfl
    have fz4 := froz_at HBr.out 4
    have z5 := cell_at (v := .slice none 0 0) HBr.out 5 rfl
    have fz5 := froz_at HBr.out 5
    have z6 := cell_at (v := .int .i64 0) HBr.out 6 rfl
    have fz6 := froz_at HBr.out 6
    have z7 := cell_at (v := .int .i64 0) HBr.out 7 rfl
    have fz7 := froz_at HBr.out 7
    go_wp2_with fail
    refine bodyPost_ret (v := .agg #[.int .i64 ak, .string anm, .string aot, .bool ab, .slice aao an aq, .slice ako akn akc, .int .i64 aln, .int .i64 acl]) (by simp [results, Tryd.results15, go_sem, z0, z1, z2, z3, z4, z5, z6, z7]) rfl ?_
    obtain ⟨wz, hw⟩ : ∃ x, x = st8 w3 kr (.int .i64 ak) (.string anm) (.string aot) (.bool ab) (.slice aao an aq) (.slice ako akn akc) (.int .i64 aln) (.int .i64 acl) := ⟨_, rfl⟩
    have hg : w3.grownBy wz (some kr) := by rw [hw]; exact st8_grown _ _ _ _ _ _ _ _ _ _
    change TreePost w g _ _ _ (st8 w3 kr (.int .i64 ak) (.string anm) (.string aot) (.bool ab) (.slice aao an aq) (.slice ako akn akc) (.int .i64 aln) (.int .i64 acl))
    rw [← hw]
    clear z0 fz0 z1 fz1 z2 fz2 z3 fz3 z4 fz4 z5 fz5 z6 fz6 z7 fz7
    replace HP := Lib.hid (HP.out.store HBr.out (by decide) (by omega) hg)
    replace HUa := Lib.hid (HUa.out.grown hg (fun h => by have h : Na ≤ kr ∧ True := h; omega))
    replace HOP := Lib.hid (HOP.out.grown hg (by omega))
    replace HD := Lib.hid (grown_new HD.out hg (by omega))
    have hsz3 := HD.out.size
    clear hw hg
    exact ⟨⟨ak, anm, aot, ab, aao, an, aq, ako, akn, akc, aln, acl⟩, rfl, (HUa.out.mono (fun b h => by have h : Na ≤ b ∧ True := h; show _ ≤ b; omega)), HP.out, HD.out⟩
  rw [if_neg q0] at hc
  have e0 : (s.nx.text == [108, 101, 116]) = false := by simpa [St.is] using q0
  by_cases q1 : s.is wIf = true
  · rw [if_pos q1] at hc
    have h1 := Lib.hid hc
    have e1 : (s.nx.text == [105, 102]) = true := q1
    clear hc q0 q1
    go_enter Tryd.func15, Tryd.ntmps15
    go_upto_region 1 with fail
    obtain ⟨w1, hw⟩ : ∃ x, x = w.alloc (.cells #[.int .i64 0, .string ⟨#[]⟩, .string ⟨#[]⟩, .bool false, .slice none 0 0, .slice none 0 0, .int .i64 0, .int .i64 0] 30) := ⟨_, rfl⟩
    have hb : Below w.heap.size w w1 := by rw [hw]; exact (Below.refl _ _).alloc (Nat.le_refl _) _
    have hk : w1.heap[w.heap.size]? = some (.cells #[.int .i64 0, .string ⟨#[]⟩, .string ⟨#[]⟩, .bool false, .slice none 0 0, .slice none 0 0, .int .i64 0, .int .i64 0] 30 (0, 0)) := by rw [hw]; exact made_at w _ _ rfl
    rw [← hw]
    obtain ⟨kr, hkk⟩ : ∃ k, k = w.heap.size := ⟨_, rfl⟩
    have hgr : g < kr := by rw [hkk]; exact HP.out.lt
    have her : w.heap.size ≤ kr := by omega
    rw [← hkk] at hk ⊢
    replace HP := Lib.hid (HP.out.below hb)
    replace HOP := Lib.hid (HOP.out.below hb)
    have HD := Lib.hid (below_grown hb (some g))
    have hsz1 := HD.out.size
    have HBr := Lib.hid hk
    clear hw hb hk hkk
    go_wp2_with fail
    refine (next_p g s w1 HP.out).mono ?_
    rintro e w2 ⟨rfl, hb⟩
    replace HBr := Lib.hid ((hb.block _ (lt_of_block HBr.out)).trans HBr.out)
    replace HP := Lib.hid (HP.out.below hb)
    replace HOP := Lib.hid (HOP.out.below hb)
    replace HD := Lib.hid (grown_tr HD.out (below_grown hb (some g)))
    have hsz2 := HD.out.size
    clear hb
    simp only [tokV]
    have hf := field_text (s.nx.kind : Nat) (s.nx.line : Nat) (s.nx.col : Nat) ⟨s.nx.text.toArray⟩ w2
    go_wp2_with fail
    clear hf
    obtain ⟨Na, hN⟩ : ∃ k, k = w2.heap.size := ⟨_, rfl⟩
    have hr_Na : kr < Na := by rw [hN]; exact lt_of_block HBr.out
    have hg_Na : g < Na := by rw [hN]; exact HP.out.lt
    have he_Na : w.heap.size ≤ Na := by omega
    refine (IE.out g  _ _ w2 HP.out HOP.out h1.out).mono ?_
    rintro e w3 ⟨xa, rfl, hu, hp, hg⟩
    replace HBr := Lib.hid ((hg.block _ (lt_of_block HBr.out) (fun e => by injection e with e; omega)).trans HBr.out)
    replace HOP := Lib.hid (HOP.out.grown hg (by omega))
    replace HP := Lib.hid hp
    replace HD := Lib.hid (grown_tr HD.out (hg))
    have hsz3 := HD.out.size
    rw [← hN] at hu
    have HUa := Lib.hid (hu.mono (S' := fun b => Na ≤ b ∧ True) (fun b h => ⟨h, trivial⟩))
    clear hN hu
    clear hp hg
    obtain ⟨ak, anm, aot, ab, aao, an, aq, ako, akn, akc, aln, acl⟩ := xa
    simp only [xv]
    have z0 := cell_at (v := .int .i64 0) HBr.out 0 rfl
    have fz0 := froz_at HBr.out 0
    have z1 := cell_at (v := .string ⟨#[]⟩) HBr.out 1 rfl
    have fz1 := froz_at HBr.out 1
    have z2 := cell_at (v := .string ⟨#[]⟩) HBr.out 2 rfl
    have fz2 := froz_at HBr.out 2
    have z3 := cell_at (v := .bool false) HBr.out 3 rfl
    have fz3 := froz_at HBr.out 3
    have z4 := cell_at (v := .slice none 0 0) HBr.out 4 rfl
    have fz4 := froz_at HBr.out 4
    have z5 := cell_at (v := .slice none 0 0) HBr.out 5 rfl
    have fz5 := froz_at HBr.out 5
    have z6 := cell_at (v := .int .i64 0) HBr.out 6 rfl
    have fz6 := froz_at HBr.out 6
    have z7 := cell_at (v := .int .i64 0) HBr.out 7 rfl
    have fz7 := froz_at HBr.out 7
    go_wp2_with fail
    refine bodyPost_ret (v := .agg #[.int .i64 ak, .string anm, .string aot, .bool ab, .slice aao an aq, .slice ako akn akc, .int .i64 aln, .int .i64 acl]) (by simp [results, Tryd.results15, go_sem, z0, z1, z2, z3, z4, z5, z6, z7]) rfl ?_
    obtain ⟨wz, hw⟩ : ∃ x, x = st8 w3 kr (.int .i64 ak) (.string anm) (.string aot) (.bool ab) (.slice aao an aq) (.slice ako akn akc) (.int .i64 aln) (.int .i64 acl) := ⟨_, rfl⟩
    have hg : w3.grownBy wz (some kr) := by rw [hw]; exact st8_grown _ _ _ _ _ _ _ _ _ _
    change TreePost w g _ _ _ (st8 w3 kr (.int .i64 ak) (.string anm) (.string aot) (.bool ab) (.slice aao an aq) (.slice ako akn akc) (.int .i64 aln) (.int .i64 acl))
    rw [← hw]
    clear z0 fz0 z1 fz1 z2 fz2 z3 fz3 z4 fz4 z5 fz5 z6 fz6 z7 fz7
    replace HP := Lib.hid (HP.out.store HBr.out (by decide) (by omega) hg)
    replace HUa := Lib.hid (HUa.out.grown hg (fun h => by have h : Na ≤ kr ∧ True := h; omega))
    replace HOP := Lib.hid (HOP.out.grown hg (by omega))
    replace HD := Lib.hid (grown_new HD.out hg (by omega))
    have hsz3 := HD.out.size
    clear hw hg
    exact ⟨⟨ak, anm, aot, ab, aao, an, aq, ako, akn, akc, aln, acl⟩, rfl, (HUa.out.mono (fun b h => by have h : Na ≤ b ∧ True := h; show _ ≤ b; omega)), HP.out, HD.out⟩
  rw [if_neg q1] at hc
  have e1 : (s.nx.text == [105, 102]) = false := by simpa [St.is] using q1
  by_cases q2 : s.is wMatch = true
  · rw [if_pos q2] at hc
    have h1 := Lib.hid hc
    have e2 : (s.nx.text == [109, 97, 116, 99, 104]) = true := q2
    clear hc q0 q1 q2
    go_enter Tryd.func15, Tryd.ntmps15
    go_upto_region 1 with fail
    obtain ⟨w1, hw⟩ : ∃ x, x = w.alloc (.cells #[.int .i64 0, .string ⟨#[]⟩, .string ⟨#[]⟩, .bool false, .slice none 0 0, .slice none 0 0, .int .i64 0, .int .i64 0] 30) := ⟨_, rfl⟩
    have hb : Below w.heap.size w w1 := by rw [hw]; exact (Below.refl _ _).alloc (Nat.le_refl _) _
    have hk : w1.heap[w.heap.size]? = some (.cells #[.int .i64 0, .string ⟨#[]⟩, .string ⟨#[]⟩, .bool false, .slice none 0 0, .slice none 0 0, .int .i64 0, .int .i64 0] 30 (0, 0)) := by rw [hw]; exact made_at w _ _ rfl
    rw [← hw]
    obtain ⟨kr, hkk⟩ : ∃ k, k = w.heap.size := ⟨_, rfl⟩
    have hgr : g < kr := by rw [hkk]; exact HP.out.lt
    have her : w.heap.size ≤ kr := by omega
    rw [← hkk] at hk ⊢
    replace HP := Lib.hid (HP.out.below hb)
    replace HOP := Lib.hid (HOP.out.below hb)
    have HD := Lib.hid (below_grown hb (some g))
    have hsz1 := HD.out.size
    have HBr := Lib.hid hk
    clear hw hb hk hkk
    go_wp2_with fail
    refine (next_p g s w1 HP.out).mono ?_
    rintro e w2 ⟨rfl, hb⟩
    replace HBr := Lib.hid ((hb.block _ (lt_of_block HBr.out)).trans HBr.out)
    replace HP := Lib.hid (HP.out.below hb)
    replace HOP := Lib.hid (HOP.out.below hb)
    replace HD := Lib.hid (grown_tr HD.out (below_grown hb (some g)))
    have hsz2 := HD.out.size
    clear hb
    simp only [tokV]
    have hf := field_text (s.nx.kind : Nat) (s.nx.line : Nat) (s.nx.col : Nat) ⟨s.nx.text.toArray⟩ w2
    go_wp2_with fail
    clear hf
    obtain ⟨Na, hN⟩ : ∃ k, k = w2.heap.size := ⟨_, rfl⟩
    have hr_Na : kr < Na := by rw [hN]; exact lt_of_block HBr.out
    have hg_Na : g < Na := by rw [hN]; exact HP.out.lt
    have he_Na : w.heap.size ≤ Na := by omega
    refine (ME.out g  _ _ w2 HP.out HOP.out h1.out).mono ?_
    rintro e w3 ⟨xa, rfl, hu, hp, hg⟩
    replace HBr := Lib.hid ((hg.block _ (lt_of_block HBr.out) (fun e => by injection e with e; omega)).trans HBr.out)
    replace HOP := Lib.hid (HOP.out.grown hg (by omega))
    replace HP := Lib.hid hp
    replace HD := Lib.hid (grown_tr HD.out (hg))
    have hsz3 := HD.out.size
    rw [← hN] at hu
    have HUa := Lib.hid (hu.mono (S' := fun b => Na ≤ b ∧ True) (fun b h => ⟨h, trivial⟩))
    clear hN hu
    clear hp hg
    obtain ⟨ak, anm, aot, ab, aao, an, aq, ako, akn, akc, aln, acl⟩ := xa
    simp only [xv]
    have z0 := cell_at (v := .int .i64 0) HBr.out 0 rfl
    have fz0 := froz_at HBr.out 0
    have z1 := cell_at (v := .string ⟨#[]⟩) HBr.out 1 rfl
    have fz1 := froz_at HBr.out 1
    have z2 := cell_at (v := .string ⟨#[]⟩) HBr.out 2 rfl
    have fz2 := froz_at HBr.out 2
    have z3 := cell_at (v := .bool false) HBr.out 3 rfl
    have fz3 := froz_at HBr.out 3
    have z4 := cell_at (v := .slice none 0 0) HBr.out 4 rfl
    have fz4 := froz_at HBr.out 4
    have z5 := cell_at (v := .slice none 0 0) HBr.out 5 rfl
    have fz5 := froz_at HBr.out 5
    have z6 := cell_at (v := .int .i64 0) HBr.out 6 rfl
    have fz6 := froz_at HBr.out 6
    have z7 := cell_at (v := .int .i64 0) HBr.out 7 rfl
    have fz7 := froz_at HBr.out 7
    go_wp2_with fail
    refine bodyPost_ret (v := .agg #[.int .i64 ak, .string anm, .string aot, .bool ab, .slice aao an aq, .slice ako akn akc, .int .i64 aln, .int .i64 acl]) (by simp [results, Tryd.results15, go_sem, z0, z1, z2, z3, z4, z5, z6, z7]) rfl ?_
    obtain ⟨wz, hw⟩ : ∃ x, x = st8 w3 kr (.int .i64 ak) (.string anm) (.string aot) (.bool ab) (.slice aao an aq) (.slice ako akn akc) (.int .i64 aln) (.int .i64 acl) := ⟨_, rfl⟩
    have hg : w3.grownBy wz (some kr) := by rw [hw]; exact st8_grown _ _ _ _ _ _ _ _ _ _
    change TreePost w g _ _ _ (st8 w3 kr (.int .i64 ak) (.string anm) (.string aot) (.bool ab) (.slice aao an aq) (.slice ako akn akc) (.int .i64 aln) (.int .i64 acl))
    rw [← hw]
    clear z0 fz0 z1 fz1 z2 fz2 z3 fz3 z4 fz4 z5 fz5 z6 fz6 z7 fz7
    replace HP := Lib.hid (HP.out.store HBr.out (by decide) (by omega) hg)
    replace HUa := Lib.hid (HUa.out.grown hg (fun h => by have h : Na ≤ kr ∧ True := h; omega))
    replace HOP := Lib.hid (HOP.out.grown hg (by omega))
    replace HD := Lib.hid (grown_new HD.out hg (by omega))
    have hsz3 := HD.out.size
    clear hw hg
    exact ⟨⟨ak, anm, aot, ab, aao, an, aq, ako, akn, akc, aln, acl⟩, rfl, (HUa.out.mono (fun b h => by have h : Na ≤ b ∧ True := h; show _ ≤ b; omega)), HP.out, HD.out⟩
  rw [if_neg q2] at hc
  have e2 : (s.nx.text == [109, 97, 116, 99, 104]) = false := by simpa [St.is] using q2
  by_cases q3 : s.is wAssert = true
  · rw [if_pos q3] at hc
    have h1 := Lib.hid hc
    have e3 : (s.nx.text == [97, 115, 115, 101, 114, 116]) = true := q3
    clear hc q0 q1 q2 q3
    go_enter Tryd.func15, Tryd.ntmps15
    go_upto_region 1 with fail
    obtain ⟨w1, hw⟩ : ∃ x, x = w.alloc (.cells #[.int .i64 0, .string ⟨#[]⟩, .string ⟨#[]⟩, .bool false, .slice none 0 0, .slice none 0 0, .int .i64 0, .int .i64 0] 30) := ⟨_, rfl⟩
    have hb : Below w.heap.size w w1 := by rw [hw]; exact (Below.refl _ _).alloc (Nat.le_refl _) _
    have hk : w1.heap[w.heap.size]? = some (.cells #[.int .i64 0, .string ⟨#[]⟩, .string ⟨#[]⟩, .bool false, .slice none 0 0, .slice none 0 0, .int .i64 0, .int .i64 0] 30 (0, 0)) := by rw [hw]; exact made_at w _ _ rfl
    rw [← hw]
    obtain ⟨kr, hkk⟩ : ∃ k, k = w.heap.size := ⟨_, rfl⟩
    have hgr : g < kr := by rw [hkk]; exact HP.out.lt
    have her : w.heap.size ≤ kr := by omega
    rw [← hkk] at hk ⊢
    replace HP := Lib.hid (HP.out.below hb)
    replace HOP := Lib.hid (HOP.out.below hb)
    have HD := Lib.hid (below_grown hb (some g))
    have hsz1 := HD.out.size
    have HBr := Lib.hid hk
    clear hw hb hk hkk
    go_wp2_with fail
    refine (next_p g s w1 HP.out).mono ?_
    rintro e w2 ⟨rfl, hb⟩
    replace HBr := Lib.hid ((hb.block _ (lt_of_block HBr.out)).trans HBr.out)
    replace HP := Lib.hid (HP.out.below hb)
    replace HOP := Lib.hid (HOP.out.below hb)
    replace HD := Lib.hid (grown_tr HD.out (below_grown hb (some g)))
    have hsz2 := HD.out.size
    clear hb
    simp only [tokV]
    have hf := field_text (s.nx.kind : Nat) (s.nx.line : Nat) (s.nx.col : Nat) ⟨s.nx.text.toArray⟩ w2
    go_wp2_with fail
    clear hf
    obtain ⟨Na, hN⟩ : ∃ k, k = w2.heap.size := ⟨_, rfl⟩
    have hr_Na : kr < Na := by rw [hN]; exact lt_of_block HBr.out
    have hg_Na : g < Na := by rw [hN]; exact HP.out.lt
    have he_Na : w.heap.size ≤ Na := by omega
    refine (AE.out g  _ _ w2 HP.out HOP.out h1.out).mono ?_
    rintro e w3 ⟨xa, rfl, hu, hp, hg⟩
    replace HBr := Lib.hid ((hg.block _ (lt_of_block HBr.out) (fun e => by injection e with e; omega)).trans HBr.out)
    replace HOP := Lib.hid (HOP.out.grown hg (by omega))
    replace HP := Lib.hid hp
    replace HD := Lib.hid (grown_tr HD.out (hg))
    have hsz3 := HD.out.size
    rw [← hN] at hu
    have HUa := Lib.hid (hu.mono (S' := fun b => Na ≤ b ∧ True) (fun b h => ⟨h, trivial⟩))
    clear hN hu
    clear hp hg
    obtain ⟨ak, anm, aot, ab, aao, an, aq, ako, akn, akc, aln, acl⟩ := xa
    simp only [xv]
    have z0 := cell_at (v := .int .i64 0) HBr.out 0 rfl
    have fz0 := froz_at HBr.out 0
    have z1 := cell_at (v := .string ⟨#[]⟩) HBr.out 1 rfl
    have fz1 := froz_at HBr.out 1
    have z2 := cell_at (v := .string ⟨#[]⟩) HBr.out 2 rfl
    have fz2 := froz_at HBr.out 2
    have z3 := cell_at (v := .bool false) HBr.out 3 rfl
    have fz3 := froz_at HBr.out 3
    have z4 := cell_at (v := .slice none 0 0) HBr.out 4 rfl
    have fz4 := froz_at HBr.out 4
    have z5 := cell_at (v := .slice none 0 0) HBr.out 5 rfl
    have fz5 := froz_at HBr.out 5
    have z6 := cell_at (v := .int .i64 0) HBr.out 6 rfl
    have fz6 := froz_at HBr.out 6
    have z7 := cell_at (v := .int .i64 0) HBr.out 7 rfl
    have fz7 := froz_at HBr.out 7
    go_wp2_with fail
    refine bodyPost_ret (v := .agg #[.int .i64 ak, .string anm, .string aot, .bool ab, .slice aao an aq, .slice ako akn akc, .int .i64 aln, .int .i64 acl]) (by simp [results, Tryd.results15, go_sem, z0, z1, z2, z3, z4, z5, z6, z7]) rfl ?_
    obtain ⟨wz, hw⟩ : ∃ x, x = st8 w3 kr (.int .i64 ak) (.string anm) (.string aot) (.bool ab) (.slice aao an aq) (.slice ako akn akc) (.int .i64 aln) (.int .i64 acl) := ⟨_, rfl⟩
    have hg : w3.grownBy wz (some kr) := by rw [hw]; exact st8_grown _ _ _ _ _ _ _ _ _ _
    change TreePost w g _ _ _ (st8 w3 kr (.int .i64 ak) (.string anm) (.string aot) (.bool ab) (.slice aao an aq) (.slice ako akn akc) (.int .i64 aln) (.int .i64 acl))
    rw [← hw]
    clear z0 fz0 z1 fz1 z2 fz2 z3 fz3 z4 fz4 z5 fz5 z6 fz6 z7 fz7
    replace HP := Lib.hid (HP.out.store HBr.out (by decide) (by omega) hg)
    replace HUa := Lib.hid (HUa.out.grown hg (fun h => by have h : Na ≤ kr ∧ True := h; omega))
    replace HOP := Lib.hid (HOP.out.grown hg (by omega))
    replace HD := Lib.hid (grown_new HD.out hg (by omega))
    have hsz3 := HD.out.size
    clear hw hg
    exact ⟨⟨ak, anm, aot, ab, aao, an, aq, ako, akn, akc, aln, acl⟩, rfl, (HUa.out.mono (fun b h => by have h : Na ≤ b ∧ True := h; show _ ≤ b; omega)), HP.out, HD.out⟩
  rw [if_neg q3] at hc
  have e3 : (s.nx.text == [97, 115, 115, 101, 114, 116]) = false := by simpa [St.is] using q3
  have h1 := Lib.hid hc
  clear hc q0 q1 q2 q3
  go_enter Tryd.func15, Tryd.ntmps15
  go_upto_region 1 with fail
  obtain ⟨w1, hw⟩ : ∃ x, x = w.alloc (.cells #[.int .i64 0, .string ⟨#[]⟩, .string ⟨#[]⟩, .bool false, .slice none 0 0, .slice none 0 0, .int .i64 0, .int .i64 0] 30) := ⟨_, rfl⟩
  have hb : Below w.heap.size w w1 := by rw [hw]; exact (Below.refl _ _).alloc (Nat.le_refl _) _
  have hk : w1.heap[w.heap.size]? = some (.cells #[.int .i64 0, .string ⟨#[]⟩, .string ⟨#[]⟩, .bool false, .slice none 0 0, .slice none 0 0, .int .i64 0, .int .i64 0] 30 (0, 0)) := by rw [hw]; exact made_at w _ _ rfl
  rw [← hw]
  obtain ⟨kr, hkk⟩ : ∃ k, k = w.heap.size := ⟨_, rfl⟩
  have hgr : g < kr := by rw [hkk]; exact HP.out.lt
  have her : w.heap.size ≤ kr := by omega
  rw [← hkk] at hk ⊢
  replace HP := Lib.hid (HP.out.below hb)
  replace HOP := Lib.hid (HOP.out.below hb)
  have HD := Lib.hid (below_grown hb (some g))
  have hsz1 := HD.out.size
  have HBr := Lib.hid hk
  clear hw hb hk hkk
  go_wp2_with fail
  refine (next_p g s w1 HP.out).mono ?_
  rintro e w2 ⟨rfl, hb⟩
  replace HBr := Lib.hid ((hb.block _ (lt_of_block HBr.out)).trans HBr.out)
  replace HP := Lib.hid (HP.out.below hb)
  replace HOP := Lib.hid (HOP.out.below hb)
  replace HD := Lib.hid (grown_tr HD.out (below_grown hb (some g)))
  have hsz2 := HD.out.size
  clear hb
  simp only [tokV]
  have hf := field_text (s.nx.kind : Nat) (s.nx.line : Nat) (s.nx.col : Nat) ⟨s.nx.text.toArray⟩ w2
  go_wp2_with fail
  clear hf
  obtain ⟨Na, hN⟩ : ∃ k, k = w2.heap.size := ⟨_, rfl⟩
  have hr_Na : kr < Na := by rw [hN]; exact lt_of_block HBr.out
  have hg_Na : g < Na := by rw [hN]; exact HP.out.lt
  have he_Na : w.heap.size ≤ Na := by omega
  refine (BE.out g 1 _ _ w2 HP.out HOP.out h1.out).mono ?_
  rintro e w3 ⟨xa, rfl, hu, hp, hg⟩
  replace HBr := Lib.hid ((hg.block _ (lt_of_block HBr.out) (fun e => by injection e with e; omega)).trans HBr.out)
  replace HOP := Lib.hid (HOP.out.grown hg (by omega))
  replace HP := Lib.hid hp
  replace HD := Lib.hid (grown_tr HD.out (hg))
  have hsz3 := HD.out.size
  rw [← hN] at hu
  have HUa := Lib.hid (hu.mono (S' := fun b => Na ≤ b ∧ True) (fun b h => ⟨h, trivial⟩))
  clear hN hu
  clear hp hg
  obtain ⟨ak, anm, aot, ab, aao, an, aq, ako, akn, akc, aln, acl⟩ := xa
  simp only [xv]
  have z0 := cell_at (v := .int .i64 0) HBr.out 0 rfl
  have fz0 := froz_at HBr.out 0
  have z1 := cell_at (v := .string ⟨#[]⟩) HBr.out 1 rfl
  have fz1 := froz_at HBr.out 1
  have z2 := cell_at (v := .string ⟨#[]⟩) HBr.out 2 rfl
  have fz2 := froz_at HBr.out 2
  have z3 := cell_at (v := .bool false) HBr.out 3 rfl
  have fz3 := froz_at HBr.out 3
  have z4 := cell_at (v := .slice none 0 0) HBr.out 4 rfl
  have fz4 := froz_at HBr.out 4
  have z5 := cell_at (v := .slice none 0 0) HBr.out 5 rfl
  have fz5 := froz_at HBr.out 5
  have z6 := cell_at (v := .int .i64 0) HBr.out 6 rfl
  have fz6 := froz_at HBr.out 6
  have z7 := cell_at (v := .int .i64 0) HBr.out 7 rfl
  have fz7 := froz_at HBr.out 7
  go_wp2_with fail
  refine bodyPost_ret (v := .agg #[.int .i64 ak, .string anm, .string aot, .bool ab, .slice aao an aq, .slice ako akn akc, .int .i64 aln, .int .i64 acl]) (by simp [results, Tryd.results15, go_sem, z0, z1, z2, z3, z4, z5, z6, z7]) rfl ?_
  obtain ⟨wz, hw⟩ : ∃ x, x = st8 w3 kr (.int .i64 ak) (.string anm) (.string aot) (.bool ab) (.slice aao an aq) (.slice ako akn akc) (.int .i64 aln) (.int .i64 acl) := ⟨_, rfl⟩
  have hg : w3.grownBy wz (some kr) := by rw [hw]; exact st8_grown _ _ _ _ _ _ _ _ _ _
  change TreePost w g _ _ _ (st8 w3 kr (.int .i64 ak) (.string anm) (.string aot) (.bool ab) (.slice aao an aq) (.slice ako akn akc) (.int .i64 aln) (.int .i64 acl))
  rw [← hw]
  clear z0 fz0 z1 fz1 z2 fz2 z3 fz3 z4 fz4 z5 fz5 z6 fz6 z7 fz7
  replace HP := Lib.hid (HP.out.store HBr.out (by decide) (by omega) hg)
  replace HUa := Lib.hid (HUa.out.grown hg (fun h => by have h : Na ≤ kr ∧ True := h; omega))
  replace HOP := Lib.hid (HOP.out.grown hg (by omega))
  replace HD := Lib.hid (grown_new HD.out hg (by omega))
  have hsz3 := HD.out.size
  clear hw hg
  exact ⟨⟨ak, anm, aot, ab, aao, an, aq, ako, akn, akc, aln, acl⟩, rfl, (HUa.out.mono (fun b h => by have h : Na ≤ b ∧ True := h; show _ ≤ b; omega)), HP.out, HD.out⟩
end Go.Proofs.YtdpfgfkoboihcaaDoor
