/-
  The contract of atom; all contracts together.
-/
import Derived.Test.YtdpfgfkoboihcaaDoorPsI
namespace Go.Proofs.YtdpfgfkoboihcaaDoor
open Go.RowKit
set_option maxRecDepth 100000
set_option linter.unusedVariables false

set_option maxHeartbeats 16000000 in
theorem atom_p (n : Nat) (E : Hid (ExprAt7 n)) (R : Hid (ArgsAt n)) : AtomAt (n + 1) := by
  intro g s r w hps hop hc
  have HP := Lib.hid hps
  have HOP := Lib.hid hop
  clear hps hop
  rw [cAtom] at hc
  by_cases h1k : s.nx.kind = 1
  · rw [if_pos h1k] at hc
    injection hc with hc
    subst hc
    have H1 : Hid (((s.nx.kind : Int) == 1) = true) := Lib.hid (by rw [h1k]; rfl)
    have HNUM0 := Lib.hid ((HP.out.good.head).k1 h1k).2
    clear h1k
    go_enter Tryd.func51, Tryd.ntmps51
    go_upto_region 1 with fail
    obtain ⟨w1, hw⟩ : ∃ x, x = w.alloc (.cells #[.int .i64 0, .string ⟨#[]⟩, .string ⟨#[]⟩, .bool false, .slice none 0 0, .slice none 0 0, .int .i64 0, .int .i64 0] 30) := ⟨_, rfl⟩
    have hb : Below w.heap.size w w1 := by rw [hw]; exact (Below.refl _ _).alloc (Nat.le_refl _) _
    have hk : w1.heap[w.heap.size]? = some (.cells #[.int .i64 0, .string ⟨#[]⟩, .string ⟨#[]⟩, .bool false, .slice none 0 0, .slice none 0 0, .int .i64 0, .int .i64 0] 30 (0, 0)) := by rw [hw]; exact made_at w _ _ rfl
    rw [← hw]
    obtain ⟨kr, hkk⟩ : ∃ k, k = w.heap.size := ⟨_, rfl⟩
    have hgr : g < kr := by rw [hkk]; exact HP.out.lt
    have her : w.heap.size ≤ kr := by omega
    rw [← hkk] at hk ⊢
    replace HP := Lib.hid (HP.out.below hb)
    replace HOP := Lib.hid (HOP.out.below hb)
    have HD := Lib.hid (below_grown hb (some g))
    have hsz1 := HD.out.size
    have HBr := Lib.hid hk
    clear hw hb hk hkk
    go_wp2_with fail
    refine (take_p g s w1 HP.out).mono ?_
    rintro e w2 ⟨rfl, hp, hg⟩
    replace HBr := Lib.hid ((hg.block _ (lt_of_block HBr.out) (fun e => by injection e with e; omega)).trans HBr.out)
    replace HOP := Lib.hid (HOP.out.grown hg (by omega))
    replace HP := Lib.hid hp
    replace HD := Lib.hid (grown_tr HD.out (hg))
    have hsz2 := HD.out.size
    clear hp hg
    simp only [tokV]
    obtain ⟨t, hnx⟩ : ∃ t, t = St.nx s := ⟨_, rfl⟩
    rw [← hnx]
    have HNt := Lib.hid hnx
    clear hnx
    go_upto_region 2 with fail
    obtain ⟨w3, hw⟩ : ∃ x, x = w2.alloc (.cells #[.int .i64 (t.kind : Nat), .string ⟨t.text.toArray⟩, .int .i64 (t.line : Nat), .int .i64 (t.col : Nat)] 57) := ⟨_, rfl⟩
    have hb : Below w2.heap.size w2 w3 := by rw [hw]; exact (Below.refl _ _).alloc (Nat.le_refl _) _
    have hk : w3.heap[w2.heap.size]? = some (.cells #[.int .i64 (t.kind : Nat), .string ⟨t.text.toArray⟩, .int .i64 (t.line : Nat), .int .i64 (t.col : Nat)] 57 (0, 0)) := by rw [hw]; exact made_at w2 _ _ rfl
    rw [← hw]
    obtain ⟨kt, hkk⟩ : ∃ k, k = w2.heap.size := ⟨_, rfl⟩
    have hgt : g < kt := by rw [hkk]; exact HP.out.lt
    have het : w.heap.size ≤ kt := by omega
    have hr_t : kr < kt := by rw [hkk]; exact lt_of_block HBr.out
    rw [← hkk] at hk ⊢
    replace HBr := Lib.hid ((hb.block _ (lt_of_block HBr.out)).trans HBr.out)
    replace HP := Lib.hid (HP.out.below hb)
    replace HOP := Lib.hid (HOP.out.below hb)
    replace HD := Lib.hid (grown_tr HD.out (below_grown hb (some g)))
    have hsz3 := HD.out.size
    have HBt := Lib.hid hk
    clear hw hb hk hkk
    have q1 := H1.out
    rw [← HNt.out] at q1
    have ct0 := cell_at (v := .int .i64 (t.kind : Nat)) HBt.out 0 rfl
    have ct1 := cell_at (v := .string ⟨t.text.toArray⟩) HBt.out 1 rfl
    have ct2 := cell_at (v := .int .i64 (t.line : Nat)) HBt.out 2 rfl
    have ct3 := cell_at (v := .int .i64 (t.col : Nat)) HBt.out 3 rfl
    go_wp2_with fail
    refine (part_p 0 t none 0 0 w3).mono ?_
    rintro e w4 ⟨rfl, hb⟩
    clear ct0 ct1 ct2 ct3
    replace HBr := Lib.hid ((hb.block _ (lt_of_block HBr.out)).trans HBr.out)
    replace HBt := Lib.hid ((hb.block _ (lt_of_block HBt.out)).trans HBt.out)
    replace HP := Lib.hid (HP.out.below hb)
    replace HOP := Lib.hid (HOP.out.below hb)
    replace HD := Lib.hid (grown_tr HD.out (below_grown hb (some g)))
    have hsz4 := HD.out.size
    clear hb
    simp only [xv]
    go_upto_region 5 with fail
    obtain ⟨w5, hw⟩ : ∃ x, x = w4.alloc (.cells #[.int .i64 0, .string ⟨#[]⟩, .string ⟨#[]⟩, .bool false, .slice none 0 0, .slice none 0 0, .int .i64 (t.line : Nat), .int .i64 (t.col : Nat)] 30) := ⟨_, rfl⟩
    have hb : Below w4.heap.size w4 w5 := by rw [hw]; exact (Below.refl _ _).alloc (Nat.le_refl _) _
    have hk : w5.heap[w4.heap.size]? = some (.cells #[.int .i64 0, .string ⟨#[]⟩, .string ⟨#[]⟩, .bool false, .slice none 0 0, .slice none 0 0, .int .i64 (t.line : Nat), .int .i64 (t.col : Nat)] 30 (0, 0)) := by rw [hw]; exact made_at w4 _ _ rfl
    rw [← hw]
    obtain ⟨kv, hkk⟩ : ∃ k, k = w4.heap.size := ⟨_, rfl⟩
    have hgv : g < kv := by rw [hkk]; exact HP.out.lt
    have hev : w.heap.size ≤ kv := by omega
    have hr_v : kr < kv := by rw [hkk]; exact lt_of_block HBr.out
    have ht_v : kt < kv := by rw [hkk]; exact lt_of_block HBt.out
    rw [← hkk] at hk ⊢
    replace HBr := Lib.hid ((hb.block _ (lt_of_block HBr.out)).trans HBr.out)
    replace HBt := Lib.hid ((hb.block _ (lt_of_block HBt.out)).trans HBt.out)
    replace HP := Lib.hid (HP.out.below hb)
    replace HOP := Lib.hid (HOP.out.below hb)
    replace HD := Lib.hid (grown_tr HD.out (below_grown hb (some g)))
    have hsz5 := HD.out.size
    have HBv := Lib.hid hk
    clear hw hb hk hkk
    have ct0 := cell_at (v := .int .i64 (t.kind : Nat)) HBt.out 0 rfl
    have ct1 := cell_at (v := .string ⟨t.text.toArray⟩) HBt.out 1 rfl
    have ct2 := cell_at (v := .int .i64 (t.line : Nat)) HBt.out 2 rfl
    have ct3 := cell_at (v := .int .i64 (t.col : Nat)) HBt.out 3 rfl
    have cv0 := cell_at (v := .int .i64 0) HBv.out 0 rfl
    have fcv0 := froz_at HBv.out 0
    have cv1 := cell_at (v := .string ⟨#[]⟩) HBv.out 1 rfl
    have fcv1 := froz_at HBv.out 1
    have cv2 := cell_at (v := .string ⟨#[]⟩) HBv.out 2 rfl
    have fcv2 := froz_at HBv.out 2
    have cv3 := cell_at (v := .bool false) HBv.out 3 rfl
    have fcv3 := froz_at HBv.out 3
    have cv4 := cell_at (v := .slice none 0 0) HBv.out 4 rfl
    have fcv4 := froz_at HBv.out 4
    have cv5 := cell_at (v := .slice none 0 0) HBv.out 5 rfl
    have fcv5 := froz_at HBv.out 5
    have cv6 := cell_at (v := .int .i64 (t.line : Nat)) HBv.out 6 rfl
    have fcv6 := froz_at HBv.out 6
    have cv7 := cell_at (v := .int .i64 (t.col : Nat)) HBv.out 7 rfl
    have fcv7 := froz_at HBv.out 7
    go_wp2_with fail
    obtain ⟨Nn, hN⟩ : ∃ k, k = w5.heap.size := ⟨_, rfl⟩
    have hr_Nn : kr < Nn := by rw [hN]; exact lt_of_block HBr.out
    have ht_Nn : kt < Nn := by rw [hN]; exact lt_of_block HBt.out
    have hv_Nn : kv < Nn := by rw [hN]; exact lt_of_block HBv.out
    have hg_Nn : g < Nn := by rw [hN]; exact HP.out.lt
    have he_Nn : w.heap.size ≤ Nn := by omega
    refine (wparse_new t.text w5 (by rw [HNt.out]; exact HNUM0.out)).mono ?_
    rintro e w6 ⟨ao, nn, cc, rfl, hs, hnew, hb⟩
    clear ct0 ct1 ct2 ct3 cv0 fcv0 cv1 fcv1 cv2 fcv2 cv3 fcv3 cv4 fcv4 cv5 fcv5 cv6 fcv6 cv7 fcv7
    replace HBr := Lib.hid ((hb.block _ (lt_of_block HBr.out)).trans HBr.out)
    replace HBt := Lib.hid ((hb.block _ (lt_of_block HBt.out)).trans HBt.out)
    replace HBv := Lib.hid ((hb.block _ (lt_of_block HBv.out)).trans HBv.out)
    replace HP := Lib.hid (HP.out.below hb)
    replace HOP := Lib.hid (HOP.out.below hb)
    replace HD := Lib.hid (grown_tr HD.out (below_grown hb (some g)))
    have hsz6 := HD.out.size
    clear hb
    rw [← hN] at hnew
    have hun : Um w6 (fun b => Nn ≤ b ∧ True) ⟨0, ⟨#[]⟩, ⟨#[]⟩, false, ao, nn, cc, none, 0, 0, (t.line : Nat), (t.col : Nat)⟩ (.node 0 [] [] (dn t.text) t.line t.col []) := by
      rw [Um]
      exact ⟨⟨rfl, rfl, rfl, rfl, rfl, rfl⟩, ⟨hs, fun h a e => ⟨hnew h a e, trivial⟩⟩, ⟨rfl, ⟨Nat.le_refl _, Nat.zero_le _⟩, fun h => absurd rfl h⟩, by rw [Ums]; trivial⟩
    have HUn := Lib.hid hun
    clear hs hnew hun hN
    have cv0 := cell_at (v := .int .i64 0) HBv.out 0 rfl
    have fcv0 := froz_at HBv.out 0
    have cv1 := cell_at (v := .string ⟨#[]⟩) HBv.out 1 rfl
    have fcv1 := froz_at HBv.out 1
    have cv2 := cell_at (v := .string ⟨#[]⟩) HBv.out 2 rfl
    have fcv2 := froz_at HBv.out 2
    have cv3 := cell_at (v := .bool false) HBv.out 3 rfl
    have fcv3 := froz_at HBv.out 3
    have cv4 := cell_at (v := .slice none 0 0) HBv.out 4 rfl
    have fcv4 := froz_at HBv.out 4
    have cv5 := cell_at (v := .slice none 0 0) HBv.out 5 rfl
    have fcv5 := froz_at HBv.out 5
    have cv6 := cell_at (v := .int .i64 (t.line : Nat)) HBv.out 6 rfl
    have fcv6 := froz_at HBv.out 6
    have cv7 := cell_at (v := .int .i64 (t.col : Nat)) HBv.out 7 rfl
    have fcv7 := froz_at HBv.out 7
    go_upto_region 6 with fail
    obtain ⟨w7, hw⟩ : ∃ x, x = (w6.setCell ⟨kv, 3, none⟩ (.bool false)).setCell ⟨kv, 4, none⟩ (.slice ao nn cc) := ⟨_, rfl⟩
    have hg : w6.grownBy w7 (some kv) := by rw [hw]; exact grown_tr (grown_set _ kv 3 _) (grown_set _ kv 4 _)
    have hv : w7.heap[kv]? = some (.cells #[.int .i64 0, .string ⟨#[]⟩, .string ⟨#[]⟩, .bool false, .slice ao nn cc, .slice none 0 0, .int .i64 (t.line : Nat), .int .i64 (t.col : Nat)] 30 (0, 0)) := by rw [hw, heap_setCell_same _ kv 4 _ _ _ (heap_setCell_same _ kv 3 _ _ _ HBv.out)]; rfl
    rw [← hw]
    clear cv0 fcv0 cv1 fcv1 cv2 fcv2 cv3 fcv3 cv4 fcv4 cv5 fcv5 cv6 fcv6 cv7 fcv7
    replace HP := Lib.hid (HP.out.store HBv.out (by decide) (by omega) hg)
    replace HBr := Lib.hid ((hg.block _ (lt_of_block HBr.out) (fun e => by injection e with e; omega)).trans HBr.out)
    replace HBt := Lib.hid ((hg.block _ (lt_of_block HBt.out) (fun e => by injection e with e; omega)).trans HBt.out)
    replace HUn := Lib.hid (HUn.out.grown hg (fun h => by have h : Nn ≤ kv ∧ True := h; omega))
    replace HOP := Lib.hid (HOP.out.grown hg (by omega))
    replace HD := Lib.hid (grown_new HD.out hg (by omega))
    have hsz7 := HD.out.size
    replace HBv := Lib.hid hv
    clear hw hg hv
    have cv0 := cell_at (v := .int .i64 0) HBv.out 0 rfl
    have cv1 := cell_at (v := .string ⟨#[]⟩) HBv.out 1 rfl
    have cv2 := cell_at (v := .string ⟨#[]⟩) HBv.out 2 rfl
    have cv3 := cell_at (v := .bool false) HBv.out 3 rfl
    have cv4 := cell_at (v := .slice ao nn cc) HBv.out 4 rfl
    have cv5 := cell_at (v := .slice none 0 0) HBv.out 5 rfl
    have cv6 := cell_at (v := .int .i64 (t.line : Nat)) HBv.out 6 rfl
    have cv7 := cell_at (v := .int .i64 (t.col : Nat)) HBv.out 7 rfl
    have z0 := cell_at (v := .int .i64 0) HBr.out 0 rfl
    have fz0 := froz_at HBr.out 0
    have z1 := cell_at (v := .string ⟨#[]⟩) HBr.out 1 rfl
    have fz1 := froz_at HBr.out 1
    have z2 := cell_at (v := .string ⟨#[]⟩) HBr.out 2 rfl
    have fz2 := froz_at HBr.out 2
    have z3 := cell_at (v := .bool false) HBr.out 3 rfl
    have fz3 := froz_at HBr.out 3
    have z4 := cell_at (v := .slice none 0 0) HBr.out 4 rfl
    have fz4 := froz_at HBr.out 4
    have z5 := cell_at (v := .slice none 0 0) HBr.out 5 rfl
    have fz5 := froz_at HBr.out 5
    have z6 := cell_at (v := .int .i64 0) HBr.out 6 rfl
    have fz6 := froz_at HBr.out 6
    have z7 := cell_at (v := .int .i64 0) HBr.out 7 rfl
    have fz7 := froz_at HBr.out 7
    go_wp2_with fail
    refine bodyPost_ret (v := .agg #[.int .i64 0, .string ⟨#[]⟩, .string ⟨#[]⟩, .bool false, .slice ao nn cc, .slice none 0 0, .int .i64 (t.line : Nat), .int .i64 (t.col : Nat)]) (by simp [results, Tryd.results51, go_sem, z0, z1, z2, z3, z4, z5, z6, z7]) rfl ?_
    obtain ⟨wz, hw⟩ : ∃ x, x = st8 w7 kr (.int .i64 0) (.string ⟨#[]⟩) (.string ⟨#[]⟩) (.bool false) (.slice ao nn cc) (.slice none 0 0) (.int .i64 (t.line : Nat)) (.int .i64 (t.col : Nat)) := ⟨_, rfl⟩
    have hg : w7.grownBy wz (some kr) := by rw [hw]; exact st8_grown _ _ _ _ _ _ _ _ _ _
    change TreePost w g _ _ _ (st8 w7 kr (.int .i64 0) (.string ⟨#[]⟩) (.string ⟨#[]⟩) (.bool false) (.slice ao nn cc) (.slice none 0 0) (.int .i64 (t.line : Nat)) (.int .i64 (t.col : Nat)))
    rw [← hw]
    clear cv0 cv1 cv2 cv3 cv4 cv5 cv6 cv7 z0 fz0 z1 fz1 z2 fz2 z3 fz3 z4 fz4 z5 fz5 z6 fz6 z7 fz7
    replace HP := Lib.hid (HP.out.store HBr.out (by decide) (by omega) hg)
    replace HBt := Lib.hid ((hg.block _ (lt_of_block HBt.out) (fun e => by injection e with e; omega)).trans HBt.out)
    replace HBv := Lib.hid ((hg.block _ (lt_of_block HBv.out) (fun e => by injection e with e; omega)).trans HBv.out)
    replace HUn := Lib.hid (HUn.out.grown hg (fun h => by have h : Nn ≤ kr ∧ True := h; omega))
    replace HOP := Lib.hid (HOP.out.grown hg (by omega))
    replace HD := Lib.hid (grown_new HD.out hg (by omega))
    have hsz7 := HD.out.size
    clear hw hg
    have hu : U.node 0 [] [] (dn s.nx.text) s.nx.line s.nx.col [] = U.node 0 [] [] (dn t.text) t.line t.col [] := by rw [HNt.out]
    rw [hu]
    exact ⟨⟨0, ⟨#[]⟩, ⟨#[]⟩, false, ao, nn, cc, none, 0, 0, (t.line : Nat), (t.col : Nat)⟩, rfl, (HUn.out.mono (fun b h => by have h : Nn ≤ b ∧ True := h; show _ ≤ b; omega)), HP.out, HD.out⟩
  rw [if_neg h1k] at hc
  have H1 : Hid (((s.nx.kind : Int) == 1) = false) := Lib.hid (by rw [beq_eq_false_iff_ne]; omega)
  by_cases h0k : s.nx.kind = 0
  · rw [if_pos h0k] at hc
    have H0 : Hid (((s.nx.kind : Int) == 0) = true) := Lib.hid (by rw [h0k]; rfl)
    clear h1k h0k
    by_cases ho : s.tk.is wOpen = true
    · rw [if_pos ho, Option.bind_eq_some_iff] at hc
      obtain ⟨r1, h1, hr⟩ := hc
      injection hr with hr
      subst hr
      have h1 := Lib.hid h1
      have HOPN : Hid (s.tk.is [40] = true) := Lib.hid ho
      have HI : Hid (s.tk.acc [40] = s.tk.tk) := Lib.hid (by unfold St.acc; rw [show s.tk.is [40] = true from ho]; rfl)
      clear ho
      go_enter Tryd.func51, Tryd.ntmps51
      go_upto_region 1 with fail
      obtain ⟨w1, hw⟩ : ∃ x, x = w.alloc (.cells #[.int .i64 0, .string ⟨#[]⟩, .string ⟨#[]⟩, .bool false, .slice none 0 0, .slice none 0 0, .int .i64 0, .int .i64 0] 30) := ⟨_, rfl⟩
      have hb : Below w.heap.size w w1 := by rw [hw]; exact (Below.refl _ _).alloc (Nat.le_refl _) _
      have hk : w1.heap[w.heap.size]? = some (.cells #[.int .i64 0, .string ⟨#[]⟩, .string ⟨#[]⟩, .bool false, .slice none 0 0, .slice none 0 0, .int .i64 0, .int .i64 0] 30 (0, 0)) := by rw [hw]; exact made_at w _ _ rfl
      rw [← hw]
      obtain ⟨kr, hkk⟩ : ∃ k, k = w.heap.size := ⟨_, rfl⟩
      have hgr : g < kr := by rw [hkk]; exact HP.out.lt
      have her : w.heap.size ≤ kr := by omega
      rw [← hkk] at hk ⊢
      replace HP := Lib.hid (HP.out.below hb)
      replace HOP := Lib.hid (HOP.out.below hb)
      have HD := Lib.hid (below_grown hb (some g))
      have hsz1 := HD.out.size
      have HBr := Lib.hid hk
      clear hw hb hk hkk
      go_wp2_with fail
      refine (take_p g s w1 HP.out).mono ?_
      rintro e w2 ⟨rfl, hp, hg⟩
      replace HBr := Lib.hid ((hg.block _ (lt_of_block HBr.out) (fun e => by injection e with e; omega)).trans HBr.out)
      replace HOP := Lib.hid (HOP.out.grown hg (by omega))
      replace HP := Lib.hid hp
      replace HD := Lib.hid (grown_tr HD.out (hg))
      have hsz2 := HD.out.size
      clear hp hg
      simp only [tokV]
      obtain ⟨t, hnx⟩ : ∃ t, t = St.nx s := ⟨_, rfl⟩
      rw [← hnx]
      have HNt := Lib.hid hnx
      clear hnx
      go_upto_region 2 with fail
      obtain ⟨w3, hw⟩ : ∃ x, x = w2.alloc (.cells #[.int .i64 (t.kind : Nat), .string ⟨t.text.toArray⟩, .int .i64 (t.line : Nat), .int .i64 (t.col : Nat)] 57) := ⟨_, rfl⟩
      have hb : Below w2.heap.size w2 w3 := by rw [hw]; exact (Below.refl _ _).alloc (Nat.le_refl _) _
      have hk : w3.heap[w2.heap.size]? = some (.cells #[.int .i64 (t.kind : Nat), .string ⟨t.text.toArray⟩, .int .i64 (t.line : Nat), .int .i64 (t.col : Nat)] 57 (0, 0)) := by rw [hw]; exact made_at w2 _ _ rfl
      rw [← hw]
      obtain ⟨kt, hkk⟩ : ∃ k, k = w2.heap.size := ⟨_, rfl⟩
      have hgt : g < kt := by rw [hkk]; exact HP.out.lt
      have het : w.heap.size ≤ kt := by omega
      have hr_t : kr < kt := by rw [hkk]; exact lt_of_block HBr.out
      rw [← hkk] at hk ⊢
      replace HBr := Lib.hid ((hb.block _ (lt_of_block HBr.out)).trans HBr.out)
      replace HP := Lib.hid (HP.out.below hb)
      replace HOP := Lib.hid (HOP.out.below hb)
      replace HD := Lib.hid (grown_tr HD.out (below_grown hb (some g)))
      have hsz3 := HD.out.size
      have HBt := Lib.hid hk
      clear hw hb hk hkk
      have q1 := H1.out
      rw [← HNt.out] at q1
      have q0 := H0.out
      rw [← HNt.out] at q0
      have ct0 := cell_at (v := .int .i64 (t.kind : Nat)) HBt.out 0 rfl
      have ct1 := cell_at (v := .string ⟨t.text.toArray⟩) HBt.out 1 rfl
      have ct2 := cell_at (v := .int .i64 (t.line : Nat)) HBt.out 2 rfl
      have ct3 := cell_at (v := .int .i64 (t.col : Nat)) HBt.out 3 rfl
      go_wp2_with fail
      refine (accept_p g s.tk [40] w3 HP.out).mono ?_
      rintro e w4 ⟨rfl, hp, hg⟩
      clear ct0 ct1 ct2 ct3
      replace HBr := Lib.hid ((hg.block _ (lt_of_block HBr.out) (fun e => by injection e with e; omega)).trans HBr.out)
      replace HBt := Lib.hid ((hg.block _ (lt_of_block HBt.out) (fun e => by injection e with e; omega)).trans HBt.out)
      replace HOP := Lib.hid (HOP.out.grown hg (by omega))
      replace HP := Lib.hid hp
      replace HD := Lib.hid (grown_tr HD.out (hg))
      have hsz4 := HD.out.size
      clear hp hg
      rw [HOPN.out]
      rw [HI.out] at HP
      have ct0 := cell_at (v := .int .i64 (t.kind : Nat)) HBt.out 0 rfl
      have ct1 := cell_at (v := .string ⟨t.text.toArray⟩) HBt.out 1 rfl
      have ct2 := cell_at (v := .int .i64 (t.line : Nat)) HBt.out 2 rfl
      have ct3 := cell_at (v := .int .i64 (t.col : Nat)) HBt.out 3 rfl
      go_upto_region 9 with fail
      have hlt_t := lt_of_block HBt.out
      have hog : ∀ q, q < 1 → (fun q => g) q < w4.heap.size := fun q _ => by show g < _; exact HP.out.lt
      refine Rel7.region (by kernel_rfl) [[], [], [1], [0, 1, 2], [0, 1, 2, 3]] [] [(2, 1000)] (fun q => g) 1 3 (by kernel_rfl) (by kernel_rfl) (by rfl) hog (fun q q' h h' hn => absurd hn (by omega)) ?_
      refine Rel7.Chain.det ?_ (by rfl) (fun T xs wr hA => ?_) ?_
      rotate_left 1
      · have e3 := hA.pre 3 (by kernel_rfl)
        simp only [List.getElem?_toArray, List.getElem?_cons_succ, List.getElem?_cons_zero] at e3
        have hBq : wr.heap[kt]? = _ := (hA.bl _ hlt_t (fun q _ => by show g ≠ kt; omega)).trans HBt.out
        have q0 := cell_at (v := .int .i64 (t.kind : Nat)) hBq 0 rfl
        have q1 := cell_at (v := .string ⟨t.text.toArray⟩) hBq 1 rfl
        have q2 := cell_at (v := .int .i64 (t.line : Nat)) hBq 2 rfl
        have q3 := cell_at (v := .int .i64 (t.col : Nat)) hBq 3 rfl
        clear hBq
        clear hA
        refine ⟨(by rfl), ?_⟩
        go_simp <;> (try with_reducible rfl)
      refine Rel7.Chain.det ?_ (by rfl) (fun T xs wr hA => ?_) ?_
      rotate_left 1
      · have e0 := hA.pre 0 (by kernel_rfl)
        simp only [List.getElem?_toArray, List.getElem?_cons_zero] at e0
        clear hA
        refine ⟨(by rfl), ?_⟩
        go_simp <;> (try with_reducible rfl)
      refine Rel7.Chain.callOld 0 (fun xs v w => ∃ ko c, v = .slice ko r1.1.length c ∧ Um w (fun b => w4.heap.size ≤ b) ⟨24, ⟨t.text.toArray⟩, ⟨#[]⟩, false, none, 0, 0, ko, r1.1.length, c, (t.line : Nat), (t.col : Nat)⟩ (.node 24 t.text [] 0 t.line t.col r1.1) ∧ PS w g r1.2) (fun _ _ _ _ ⟨ko, c, h1, h2, h3⟩ hb => ⟨ko, c, h1, h2.below hb, h3.below hb⟩) (fun _ _ _ _ q' _ hq hne _ => absurd rfl hne) (by rfl) (by rfl) (by decide) (Rel7.own_one (by rfl)) (fun T xs wr hA hold => ?_) ?_
      · have hsw := (hA.be 0 (Nat.zero_le _) (fun _ _ => Nat.zero_le _)).size
        have e27 := hA.tm 1 27 (by rfl) (by rfl)
        have f27 : xs 1 = _ := hA.fa 1 (by rfl)
        (try simp (disch := first | rfl | decide) only [Rel7.mask_in] at f27)
        rw [f27] at e27
        clear f27
        have h0 := undrew (hA.be 0 (Nat.zero_le _) (fun _ _ => Nat.zero_le _))
        have hbw : Below w4.heap.size w4 wr := ⟨h0.os, h0.tape, h0.output, h0.size, fun k hk => by
          by_cases e : k = g
          · rw [e]; exact hold
          · exact hA.bl k hk (fun q _ h => e h.symm)⟩
        clear hA
        refine ⟨(by rfl), fun K hK => ?_⟩
        go_simp
        refine (R.out g s.tk.tk r1 wr (HP.out.below hbw) (HOP.out.below hbw) h1.out).mono ?_
        rintro e w' ⟨ko, c, rfl, hc1, hc2, hc3, hp, hg⟩
        refine hK.out _ _ ⟨ko, c, rfl, ?_, hp⟩ (Rel7.Priv.of hg)
        rw [Um]
        refine ⟨⟨rfl, rfl, rfl, rfl, rfl, rfl⟩, ⟨?_, fun h => absurd rfl h⟩, ⟨rfl, hc1, fun h a e => Nat.le_trans hbw.size (hc2 h a e)⟩, Ums.mono (fun b h => Nat.le_trans hbw.size h) hc3⟩
        rw [dig_zero]; exact ⟨none, 0, rfl, Nat.le_refl _, by omega, fun _ => rfl, fun i hi => by simp at hi⟩
      refine Rel7.Chain.done (fun xs w5 hL => ?_)
      obtain ⟨⟨hbe, hbl⟩, hf, -, -⟩ := hL
      have f0 : xs 0 = _ := hf 0 (by decide)
      (try simp (disch := first | rfl | decide) only [Rel7.mask_in] at f0)
      have f1 : xs 1 = _ := hf 1 (by decide)
      (try simp (disch := first | rfl | decide) only [Rel7.mask_in] at f1)
      have F2 : ∃ ko c, (xs 2) = .slice ko r1.1.length c ∧ Um w5 (fun b => w4.heap.size ≤ b) ⟨24, ⟨t.text.toArray⟩, ⟨#[]⟩, false, none, 0, 0, ko, r1.1.length, c, (t.line : Nat), (t.col : Nat)⟩ (.node 24 t.text [] 0 t.line t.col r1.1) ∧ PS w5 g r1.2 := hf 2 (by decide)
      have hb0 : Below 0 w4 w5 := undrew (hbe 0 (Nat.zero_le _) (fun _ _ => Nat.zero_le _))
      have hgr : ∀ j, j < w4.heap.size → (∀ q, q < 1 → (fun q => g) q ≠ j) → w5.heap[j]? = w4.heap[j]? := hbl
      clear hbe hbl hf
      obtain ⟨ko, c, hv, hu, hp⟩ := F2
      have hg : w4.grownBy w5 (some g) := ⟨hb0.os, hb0.tape, hb0.output, hb0.size, fun k hk hn => hgr k hk (fun q _ e => hn (by rw [← e]))⟩
      have hkr_N : kr < w4.heap.size := lt_of_block HBr.out
      refine Rel7.rest_list (by decide) (by kernel_rfl) ?_
      simp only [Rel7.fill, List.take_succ_cons, List.take_zero, List.drop_succ_cons, List.drop_zero, List.setIfInBounds_toArray, List.set_cons_zero, List.set_cons_succ, f0, f1]
      simp only [hv]
      clear ct0 ct1 ct2 ct3
      clear hlt_t hog hv f0 f1
      replace HBr := Lib.hid ((hg.block _ (lt_of_block HBr.out) (fun e => by injection e with e; omega)).trans HBr.out)
      replace HBt := Lib.hid ((hg.block _ (lt_of_block HBt.out) (fun e => by injection e with e; omega)).trans HBt.out)
      replace HOP := Lib.hid (HOP.out.grown hg (by omega))
      replace HP := Lib.hid hp
      replace HD := Lib.hid (grown_tr HD.out (hg))
      have hsz5 := HD.out.size
      have HUz := Lib.hid hu
      have hzN : w.heap.size ≤ w4.heap.size := by omega
      clear hu hp hg hb0 hgr
      go_wp2_with fail
      refine (named_p 24 t ko r1.1.length c w5).mono ?_
      rintro e w6 ⟨rfl, hb⟩
      replace HBr := Lib.hid ((hb.block _ (lt_of_block HBr.out)).trans HBr.out)
      replace HBt := Lib.hid ((hb.block _ (lt_of_block HBt.out)).trans HBt.out)
      replace HP := Lib.hid (HP.out.below hb)
      replace HUz := Lib.hid (HUz.out.below hb)
      replace HOP := Lib.hid (HOP.out.below hb)
      replace HD := Lib.hid (grown_tr HD.out (below_grown hb (some g)))
      have hsz6 := HD.out.size
      clear hb
      simp only [xv]
      have z0 := cell_at (v := .int .i64 0) HBr.out 0 rfl
      have fz0 := froz_at HBr.out 0
      have z1 := cell_at (v := .string ⟨#[]⟩) HBr.out 1 rfl
      have fz1 := froz_at HBr.out 1
      have z2 := cell_at (v := .string ⟨#[]⟩) HBr.out 2 rfl
      have fz2 := froz_at HBr.out 2
      have z3 := cell_at (v := .bool false) HBr.out 3 rfl
      have fz3 := froz_at HBr.out 3
      have z4 := cell_at (v := .slice none 0 0) HBr.out 4 rfl
      have fz4 := froz_at HBr.out 4
      have z5 := cell_at (v := .slice none 0 0) HBr.out 5 rfl
      have fz5 := froz_at HBr.out 5
      have z6 := cell_at (v := .int .i64 0) HBr.out 6 rfl
      have fz6 := froz_at HBr.out 6
      have z7 := cell_at (v := .int .i64 0) HBr.out 7 rfl
      have fz7 := froz_at HBr.out 7
      go_wp2_with fail
      refine bodyPost_ret (v := .agg #[.int .i64 24, .string ⟨t.text.toArray⟩, .string ⟨#[]⟩, .bool false, .slice none 0 0, .slice ko r1.1.length c, .int .i64 (t.line : Nat), .int .i64 (t.col : Nat)]) (by simp [results, Tryd.results51, go_sem, z0, z1, z2, z3, z4, z5, z6, z7]) rfl ?_
      obtain ⟨wz, hw⟩ : ∃ x, x = st8 w6 kr (.int .i64 24) (.string ⟨t.text.toArray⟩) (.string ⟨#[]⟩) (.bool false) (.slice none 0 0) (.slice ko r1.1.length c) (.int .i64 (t.line : Nat)) (.int .i64 (t.col : Nat)) := ⟨_, rfl⟩
      have hg : w6.grownBy wz (some kr) := by rw [hw]; exact st8_grown _ _ _ _ _ _ _ _ _ _
      change TreePost w g _ _ _ (st8 w6 kr (.int .i64 24) (.string ⟨t.text.toArray⟩) (.string ⟨#[]⟩) (.bool false) (.slice none 0 0) (.slice ko r1.1.length c) (.int .i64 (t.line : Nat)) (.int .i64 (t.col : Nat)))
      rw [← hw]
      clear z0 fz0 z1 fz1 z2 fz2 z3 fz3 z4 fz4 z5 fz5 z6 fz6 z7 fz7
      replace HP := Lib.hid (HP.out.store HBr.out (by decide) (by omega) hg)
      replace HBt := Lib.hid ((hg.block _ (lt_of_block HBt.out) (fun e => by injection e with e; omega)).trans HBt.out)
      replace HUz := Lib.hid (HUz.out.grown hg (fun h => by have h : w4.heap.size ≤ kr := h; omega))
      replace HOP := Lib.hid (HOP.out.grown hg (by omega))
      replace HD := Lib.hid (grown_new HD.out hg (by omega))
      have hsz6 := HD.out.size
      clear hw hg
      have hu : nmd 24 s.nx r1.1 = U.node 24 t.text [] 0 t.line t.col r1.1 := by unfold nmd; rw [HNt.out]
      rw [hu]
      exact ⟨⟨24, ⟨t.text.toArray⟩, ⟨#[]⟩, false, none, 0, 0, ko, r1.1.length, c, (t.line : Nat), (t.col : Nat)⟩, rfl, (HUz.out.mono (fun b h => by have h : w4.heap.size ≤ b := h; show _ ≤ b; omega)), HP.out, HD.out⟩
    · rw [if_neg ho] at hc
      injection hc with hc
      subst hc
      have HOPN : Hid (s.tk.is [40] = false) := Lib.hid (by simpa using ho)
      have HI : Hid (s.tk.acc [40] = s.tk) := Lib.hid (by unfold St.acc; rw [show s.tk.is [40] = false by simpa using ho]; rfl)
      clear ho
      go_enter Tryd.func51, Tryd.ntmps51
      go_upto_region 1 with fail
      obtain ⟨w1, hw⟩ : ∃ x, x = w.alloc (.cells #[.int .i64 0, .string ⟨#[]⟩, .string ⟨#[]⟩, .bool false, .slice none 0 0, .slice none 0 0, .int .i64 0, .int .i64 0] 30) := ⟨_, rfl⟩
      have hb : Below w.heap.size w w1 := by rw [hw]; exact (Below.refl _ _).alloc (Nat.le_refl _) _
      have hk : w1.heap[w.heap.size]? = some (.cells #[.int .i64 0, .string ⟨#[]⟩, .string ⟨#[]⟩, .bool false, .slice none 0 0, .slice none 0 0, .int .i64 0, .int .i64 0] 30 (0, 0)) := by rw [hw]; exact made_at w _ _ rfl
      rw [← hw]
      obtain ⟨kr, hkk⟩ : ∃ k, k = w.heap.size := ⟨_, rfl⟩
      have hgr : g < kr := by rw [hkk]; exact HP.out.lt
      have her : w.heap.size ≤ kr := by omega
      rw [← hkk] at hk ⊢
      replace HP := Lib.hid (HP.out.below hb)
      replace HOP := Lib.hid (HOP.out.below hb)
      have HD := Lib.hid (below_grown hb (some g))
      have hsz1 := HD.out.size
      have HBr := Lib.hid hk
      clear hw hb hk hkk
      go_wp2_with fail
      refine (take_p g s w1 HP.out).mono ?_
      rintro e w2 ⟨rfl, hp, hg⟩
      replace HBr := Lib.hid ((hg.block _ (lt_of_block HBr.out) (fun e => by injection e with e; omega)).trans HBr.out)
      replace HOP := Lib.hid (HOP.out.grown hg (by omega))
      replace HP := Lib.hid hp
      replace HD := Lib.hid (grown_tr HD.out (hg))
      have hsz2 := HD.out.size
      clear hp hg
      simp only [tokV]
      obtain ⟨t, hnx⟩ : ∃ t, t = St.nx s := ⟨_, rfl⟩
      rw [← hnx]
      have HNt := Lib.hid hnx
      clear hnx
      go_upto_region 2 with fail
      obtain ⟨w3, hw⟩ : ∃ x, x = w2.alloc (.cells #[.int .i64 (t.kind : Nat), .string ⟨t.text.toArray⟩, .int .i64 (t.line : Nat), .int .i64 (t.col : Nat)] 57) := ⟨_, rfl⟩
      have hb : Below w2.heap.size w2 w3 := by rw [hw]; exact (Below.refl _ _).alloc (Nat.le_refl _) _
      have hk : w3.heap[w2.heap.size]? = some (.cells #[.int .i64 (t.kind : Nat), .string ⟨t.text.toArray⟩, .int .i64 (t.line : Nat), .int .i64 (t.col : Nat)] 57 (0, 0)) := by rw [hw]; exact made_at w2 _ _ rfl
      rw [← hw]
      obtain ⟨kt, hkk⟩ : ∃ k, k = w2.heap.size := ⟨_, rfl⟩
      have hgt : g < kt := by rw [hkk]; exact HP.out.lt
      have het : w.heap.size ≤ kt := by omega
      have hr_t : kr < kt := by rw [hkk]; exact lt_of_block HBr.out
      rw [← hkk] at hk ⊢
      replace HBr := Lib.hid ((hb.block _ (lt_of_block HBr.out)).trans HBr.out)
      replace HP := Lib.hid (HP.out.below hb)
      replace HOP := Lib.hid (HOP.out.below hb)
      replace HD := Lib.hid (grown_tr HD.out (below_grown hb (some g)))
      have hsz3 := HD.out.size
      have HBt := Lib.hid hk
      clear hw hb hk hkk
      have q1 := H1.out
      rw [← HNt.out] at q1
      have q0 := H0.out
      rw [← HNt.out] at q0
      have ct0 := cell_at (v := .int .i64 (t.kind : Nat)) HBt.out 0 rfl
      have ct1 := cell_at (v := .string ⟨t.text.toArray⟩) HBt.out 1 rfl
      have ct2 := cell_at (v := .int .i64 (t.line : Nat)) HBt.out 2 rfl
      have ct3 := cell_at (v := .int .i64 (t.col : Nat)) HBt.out 3 rfl
      go_wp2_with fail
      refine (accept_p g s.tk [40] w3 HP.out).mono ?_
      rintro e w4 ⟨rfl, hp, hg⟩
      clear ct0 ct1 ct2 ct3
      replace HBr := Lib.hid ((hg.block _ (lt_of_block HBr.out) (fun e => by injection e with e; omega)).trans HBr.out)
      replace HBt := Lib.hid ((hg.block _ (lt_of_block HBt.out) (fun e => by injection e with e; omega)).trans HBt.out)
      replace HOP := Lib.hid (HOP.out.grown hg (by omega))
      replace HP := Lib.hid hp
      replace HD := Lib.hid (grown_tr HD.out (hg))
      have hsz4 := HD.out.size
      clear hp hg
      rw [HOPN.out]
      rw [HI.out] at HP
      have ct0 := cell_at (v := .int .i64 (t.kind : Nat)) HBt.out 0 rfl
      have ct1 := cell_at (v := .string ⟨t.text.toArray⟩) HBt.out 1 rfl
      have ct2 := cell_at (v := .int .i64 (t.line : Nat)) HBt.out 2 rfl
      have ct3 := cell_at (v := .int .i64 (t.col : Nat)) HBt.out 3 rfl
      go_wp2_with fail
      refine (named_p 3 t none 0 0 w4).mono ?_
      rintro e w5 ⟨rfl, hb⟩
      clear ct0 ct1 ct2 ct3
      replace HBr := Lib.hid ((hb.block _ (lt_of_block HBr.out)).trans HBr.out)
      replace HBt := Lib.hid ((hb.block _ (lt_of_block HBt.out)).trans HBt.out)
      replace HP := Lib.hid (HP.out.below hb)
      replace HOP := Lib.hid (HOP.out.below hb)
      replace HD := Lib.hid (grown_tr HD.out (below_grown hb (some g)))
      have hsz5 := HD.out.size
      clear hb
      simp only [xv]
      have z0 := cell_at (v := .int .i64 0) HBr.out 0 rfl
      have fz0 := froz_at HBr.out 0
      have z1 := cell_at (v := .string ⟨#[]⟩) HBr.out 1 rfl
      have fz1 := froz_at HBr.out 1
      have z2 := cell_at (v := .string ⟨#[]⟩) HBr.out 2 rfl
      have fz2 := froz_at HBr.out 2
      have z3 := cell_at (v := .bool false) HBr.out 3 rfl
      have fz3 := froz_at HBr.out 3
      have z4 := cell_at (v := .slice none 0 0) HBr.out 4 rfl
      have fz4 := froz_at HBr.out 4
      have z5 := cell_at (v := .slice none 0 0) HBr.out 5 rfl
      have fz5 := froz_at HBr.out 5
      have z6 := cell_at (v := .int .i64 0) HBr.out 6 rfl
      have fz6 := froz_at HBr.out 6
      have z7 := cell_at (v := .int .i64 0) HBr.out 7 rfl
      have fz7 := froz_at HBr.out 7
      go_wp2_with fail
      refine bodyPost_ret (v := .agg #[.int .i64 3, .string ⟨t.text.toArray⟩, .string ⟨#[]⟩, .bool false, .slice none 0 0, .slice none 0 0, .int .i64 (t.line : Nat), .int .i64 (t.col : Nat)]) (by simp [results, Tryd.results51, go_sem, z0, z1, z2, z3, z4, z5, z6, z7]) rfl ?_
      obtain ⟨wz, hw⟩ : ∃ x, x = st8 w5 kr (.int .i64 3) (.string ⟨t.text.toArray⟩) (.string ⟨#[]⟩) (.bool false) (.slice none 0 0) (.slice none 0 0) (.int .i64 (t.line : Nat)) (.int .i64 (t.col : Nat)) := ⟨_, rfl⟩
      have hg : w5.grownBy wz (some kr) := by rw [hw]; exact st8_grown _ _ _ _ _ _ _ _ _ _
      change TreePost w g _ _ _ (st8 w5 kr (.int .i64 3) (.string ⟨t.text.toArray⟩) (.string ⟨#[]⟩) (.bool false) (.slice none 0 0) (.slice none 0 0) (.int .i64 (t.line : Nat)) (.int .i64 (t.col : Nat)))
      rw [← hw]
      clear z0 fz0 z1 fz1 z2 fz2 z3 fz3 z4 fz4 z5 fz5 z6 fz6 z7 fz7
      replace HP := Lib.hid (HP.out.store HBr.out (by decide) (by omega) hg)
      replace HBt := Lib.hid ((hg.block _ (lt_of_block HBt.out) (fun e => by injection e with e; omega)).trans HBt.out)
      replace HOP := Lib.hid (HOP.out.grown hg (by omega))
      replace HD := Lib.hid (grown_new HD.out hg (by omega))
      have hsz5 := HD.out.size
      clear hw hg
      have hu : nmd 3 s.nx [] = U.node 3 t.text [] 0 t.line t.col [] := by unfold nmd; rw [HNt.out]
      rw [hu]
      exact ⟨⟨3, ⟨t.text.toArray⟩, ⟨#[]⟩, false, none, 0, 0, none, 0, 0, (t.line : Nat), (t.col : Nat)⟩, rfl, um_leaf 3 t.text [] t.line t.col, HP.out, HD.out⟩
  rw [if_neg h0k] at hc
  have H0 : Hid (((s.nx.kind : Int) == 0) = false) := Lib.hid (by rw [beq_eq_false_iff_ne]; omega)
  clear h0k h1k
  by_cases ho : s.is wV = true
  · rw [if_pos ho] at hc
    injection hc with hc
    subst hc
    have HA : Hid ((s.nx.text == [118]) = true) := Lib.hid ho
    clear ho
    go_enter Tryd.func51, Tryd.ntmps51
    go_upto_region 1 with fail
    obtain ⟨w1, hw⟩ : ∃ x, x = w.alloc (.cells #[.int .i64 0, .string ⟨#[]⟩, .string ⟨#[]⟩, .bool false, .slice none 0 0, .slice none 0 0, .int .i64 0, .int .i64 0] 30) := ⟨_, rfl⟩
    have hb : Below w.heap.size w w1 := by rw [hw]; exact (Below.refl _ _).alloc (Nat.le_refl _) _
    have hk : w1.heap[w.heap.size]? = some (.cells #[.int .i64 0, .string ⟨#[]⟩, .string ⟨#[]⟩, .bool false, .slice none 0 0, .slice none 0 0, .int .i64 0, .int .i64 0] 30 (0, 0)) := by rw [hw]; exact made_at w _ _ rfl
    rw [← hw]
    obtain ⟨kr, hkk⟩ : ∃ k, k = w.heap.size := ⟨_, rfl⟩
    have hgr : g < kr := by rw [hkk]; exact HP.out.lt
    have her : w.heap.size ≤ kr := by omega
    rw [← hkk] at hk ⊢
    replace HP := Lib.hid (HP.out.below hb)
    replace HOP := Lib.hid (HOP.out.below hb)
    have HD := Lib.hid (below_grown hb (some g))
    have hsz1 := HD.out.size
    have HBr := Lib.hid hk
    clear hw hb hk hkk
    go_wp2_with fail
    refine (take_p g s w1 HP.out).mono ?_
    rintro e w2 ⟨rfl, hp, hg⟩
    replace HBr := Lib.hid ((hg.block _ (lt_of_block HBr.out) (fun e => by injection e with e; omega)).trans HBr.out)
    replace HOP := Lib.hid (HOP.out.grown hg (by omega))
    replace HP := Lib.hid hp
    replace HD := Lib.hid (grown_tr HD.out (hg))
    have hsz2 := HD.out.size
    clear hp hg
    simp only [tokV]
    obtain ⟨t, hnx⟩ : ∃ t, t = St.nx s := ⟨_, rfl⟩
    rw [← hnx]
    have HNt := Lib.hid hnx
    clear hnx
    go_upto_region 2 with fail
    obtain ⟨w3, hw⟩ : ∃ x, x = w2.alloc (.cells #[.int .i64 (t.kind : Nat), .string ⟨t.text.toArray⟩, .int .i64 (t.line : Nat), .int .i64 (t.col : Nat)] 57) := ⟨_, rfl⟩
    have hb : Below w2.heap.size w2 w3 := by rw [hw]; exact (Below.refl _ _).alloc (Nat.le_refl _) _
    have hk : w3.heap[w2.heap.size]? = some (.cells #[.int .i64 (t.kind : Nat), .string ⟨t.text.toArray⟩, .int .i64 (t.line : Nat), .int .i64 (t.col : Nat)] 57 (0, 0)) := by rw [hw]; exact made_at w2 _ _ rfl
    rw [← hw]
    obtain ⟨kt, hkk⟩ : ∃ k, k = w2.heap.size := ⟨_, rfl⟩
    have hgt : g < kt := by rw [hkk]; exact HP.out.lt
    have het : w.heap.size ≤ kt := by omega
    have hr_t : kr < kt := by rw [hkk]; exact lt_of_block HBr.out
    rw [← hkk] at hk ⊢
    replace HBr := Lib.hid ((hb.block _ (lt_of_block HBr.out)).trans HBr.out)
    replace HP := Lib.hid (HP.out.below hb)
    replace HOP := Lib.hid (HOP.out.below hb)
    replace HD := Lib.hid (grown_tr HD.out (below_grown hb (some g)))
    have hsz3 := HD.out.size
    have HBt := Lib.hid hk
    clear hw hb hk hkk
    have q1 := H1.out
    rw [← HNt.out] at q1
    have q0 := H0.out
    rw [← HNt.out] at q0
    have qA := HA.out
    rw [← HNt.out] at qA
    have ct0 := cell_at (v := .int .i64 (t.kind : Nat)) HBt.out 0 rfl
    have ct1 := cell_at (v := .string ⟨t.text.toArray⟩) HBt.out 1 rfl
    have ct2 := cell_at (v := .int .i64 (t.line : Nat)) HBt.out 2 rfl
    have ct3 := cell_at (v := .int .i64 (t.col : Nat)) HBt.out 3 rfl
    go_wp2_with fail
    refine (named_p 3 t none 0 0 w3).mono ?_
    rintro e w4 ⟨rfl, hb⟩
    clear ct0 ct1 ct2 ct3
    replace HBr := Lib.hid ((hb.block _ (lt_of_block HBr.out)).trans HBr.out)
    replace HBt := Lib.hid ((hb.block _ (lt_of_block HBt.out)).trans HBt.out)
    replace HP := Lib.hid (HP.out.below hb)
    replace HOP := Lib.hid (HOP.out.below hb)
    replace HD := Lib.hid (grown_tr HD.out (below_grown hb (some g)))
    have hsz4 := HD.out.size
    clear hb
    simp only [xv]
    have z0 := cell_at (v := .int .i64 0) HBr.out 0 rfl
    have fz0 := froz_at HBr.out 0
    have z1 := cell_at (v := .string ⟨#[]⟩) HBr.out 1 rfl
    have fz1 := froz_at HBr.out 1
    have z2 := cell_at (v := .string ⟨#[]⟩) HBr.out 2 rfl
    have fz2 := froz_at HBr.out 2
    have z3 := cell_at (v := .bool false) HBr.out 3 rfl
    have fz3 := froz_at HBr.out 3
    have z4 := cell_at (v := .slice none 0 0) HBr.out 4 rfl
    have fz4 := froz_at HBr.out 4
    have z5 := cell_at (v := .slice none 0 0) HBr.out 5 rfl
    have fz5 := froz_at HBr.out 5
    have z6 := cell_at (v := .int .i64 0) HBr.out 6 rfl
    have fz6 := froz_at HBr.out 6
    have z7 := cell_at (v := .int .i64 0) HBr.out 7 rfl
    have fz7 := froz_at HBr.out 7
    go_wp2_with fail
    refine bodyPost_ret (v := .agg #[.int .i64 3, .string ⟨t.text.toArray⟩, .string ⟨#[]⟩, .bool false, .slice none 0 0, .slice none 0 0, .int .i64 (t.line : Nat), .int .i64 (t.col : Nat)]) (by simp [results, Tryd.results51, go_sem, z0, z1, z2, z3, z4, z5, z6, z7]) rfl ?_
    obtain ⟨wz, hw⟩ : ∃ x, x = st8 w4 kr (.int .i64 3) (.string ⟨t.text.toArray⟩) (.string ⟨#[]⟩) (.bool false) (.slice none 0 0) (.slice none 0 0) (.int .i64 (t.line : Nat)) (.int .i64 (t.col : Nat)) := ⟨_, rfl⟩
    have hg : w4.grownBy wz (some kr) := by rw [hw]; exact st8_grown _ _ _ _ _ _ _ _ _ _
    change TreePost w g _ _ _ (st8 w4 kr (.int .i64 3) (.string ⟨t.text.toArray⟩) (.string ⟨#[]⟩) (.bool false) (.slice none 0 0) (.slice none 0 0) (.int .i64 (t.line : Nat)) (.int .i64 (t.col : Nat)))
    rw [← hw]
    clear z0 fz0 z1 fz1 z2 fz2 z3 fz3 z4 fz4 z5 fz5 z6 fz6 z7 fz7
    replace HP := Lib.hid (HP.out.store HBr.out (by decide) (by omega) hg)
    replace HBt := Lib.hid ((hg.block _ (lt_of_block HBt.out) (fun e => by injection e with e; omega)).trans HBt.out)
    replace HOP := Lib.hid (HOP.out.grown hg (by omega))
    replace HD := Lib.hid (grown_new HD.out hg (by omega))
    have hsz4 := HD.out.size
    clear hw hg
    have hu : nmd 3 s.nx [] = U.node 3 t.text [] 0 t.line t.col [] := by unfold nmd; rw [HNt.out]
    rw [hu]
    exact ⟨⟨3, ⟨t.text.toArray⟩, ⟨#[]⟩, false, none, 0, 0, none, 0, 0, (t.line : Nat), (t.col : Nat)⟩, rfl, um_leaf 3 t.text [] t.line t.col, HP.out, HD.out⟩
  rw [if_neg ho] at hc
  have HA : Hid ((s.nx.text == [118]) = false) := Lib.hid (by simpa [St.is] using ho)
  clear ho
  by_cases ho : s.is wTrue = true
  · rw [if_pos ho] at hc
    injection hc with hc
    subst hc
    have HB : Hid ((s.nx.text == [116, 114, 117, 101]) = true) := Lib.hid ho
    clear ho
    go_enter Tryd.func51, Tryd.ntmps51
    go_upto_region 1 with fail
    obtain ⟨w1, hw⟩ : ∃ x, x = w.alloc (.cells #[.int .i64 0, .string ⟨#[]⟩, .string ⟨#[]⟩, .bool false, .slice none 0 0, .slice none 0 0, .int .i64 0, .int .i64 0] 30) := ⟨_, rfl⟩
    have hb : Below w.heap.size w w1 := by rw [hw]; exact (Below.refl _ _).alloc (Nat.le_refl _) _
    have hk : w1.heap[w.heap.size]? = some (.cells #[.int .i64 0, .string ⟨#[]⟩, .string ⟨#[]⟩, .bool false, .slice none 0 0, .slice none 0 0, .int .i64 0, .int .i64 0] 30 (0, 0)) := by rw [hw]; exact made_at w _ _ rfl
    rw [← hw]
    obtain ⟨kr, hkk⟩ : ∃ k, k = w.heap.size := ⟨_, rfl⟩
    have hgr : g < kr := by rw [hkk]; exact HP.out.lt
    have her : w.heap.size ≤ kr := by omega
    rw [← hkk] at hk ⊢
    replace HP := Lib.hid (HP.out.below hb)
    replace HOP := Lib.hid (HOP.out.below hb)
    have HD := Lib.hid (below_grown hb (some g))
    have hsz1 := HD.out.size
    have HBr := Lib.hid hk
    clear hw hb hk hkk
    go_wp2_with fail
    refine (take_p g s w1 HP.out).mono ?_
    rintro e w2 ⟨rfl, hp, hg⟩
    replace HBr := Lib.hid ((hg.block _ (lt_of_block HBr.out) (fun e => by injection e with e; omega)).trans HBr.out)
    replace HOP := Lib.hid (HOP.out.grown hg (by omega))
    replace HP := Lib.hid hp
    replace HD := Lib.hid (grown_tr HD.out (hg))
    have hsz2 := HD.out.size
    clear hp hg
    simp only [tokV]
    obtain ⟨t, hnx⟩ : ∃ t, t = St.nx s := ⟨_, rfl⟩
    rw [← hnx]
    have HNt := Lib.hid hnx
    clear hnx
    go_upto_region 2 with fail
    obtain ⟨w3, hw⟩ : ∃ x, x = w2.alloc (.cells #[.int .i64 (t.kind : Nat), .string ⟨t.text.toArray⟩, .int .i64 (t.line : Nat), .int .i64 (t.col : Nat)] 57) := ⟨_, rfl⟩
    have hb : Below w2.heap.size w2 w3 := by rw [hw]; exact (Below.refl _ _).alloc (Nat.le_refl _) _
    have hk : w3.heap[w2.heap.size]? = some (.cells #[.int .i64 (t.kind : Nat), .string ⟨t.text.toArray⟩, .int .i64 (t.line : Nat), .int .i64 (t.col : Nat)] 57 (0, 0)) := by rw [hw]; exact made_at w2 _ _ rfl
    rw [← hw]
    obtain ⟨kt, hkk⟩ : ∃ k, k = w2.heap.size := ⟨_, rfl⟩
    have hgt : g < kt := by rw [hkk]; exact HP.out.lt
    have het : w.heap.size ≤ kt := by omega
    have hr_t : kr < kt := by rw [hkk]; exact lt_of_block HBr.out
    rw [← hkk] at hk ⊢
    replace HBr := Lib.hid ((hb.block _ (lt_of_block HBr.out)).trans HBr.out)
    replace HP := Lib.hid (HP.out.below hb)
    replace HOP := Lib.hid (HOP.out.below hb)
    replace HD := Lib.hid (grown_tr HD.out (below_grown hb (some g)))
    have hsz3 := HD.out.size
    have HBt := Lib.hid hk
    clear hw hb hk hkk
    have q1 := H1.out
    rw [← HNt.out] at q1
    have q0 := H0.out
    rw [← HNt.out] at q0
    have qA := HA.out
    rw [← HNt.out] at qA
    have qB := HB.out
    rw [← HNt.out] at qB
    have ct0 := cell_at (v := .int .i64 (t.kind : Nat)) HBt.out 0 rfl
    have ct1 := cell_at (v := .string ⟨t.text.toArray⟩) HBt.out 1 rfl
    have ct2 := cell_at (v := .int .i64 (t.line : Nat)) HBt.out 2 rfl
    have ct3 := cell_at (v := .int .i64 (t.col : Nat)) HBt.out 3 rfl
    go_wp2_with fail
    refine (part_p 1 t none 0 0 w3).mono ?_
    rintro e w4 ⟨rfl, hb⟩
    clear ct0 ct1 ct2 ct3
    replace HBr := Lib.hid ((hb.block _ (lt_of_block HBr.out)).trans HBr.out)
    replace HBt := Lib.hid ((hb.block _ (lt_of_block HBt.out)).trans HBt.out)
    replace HP := Lib.hid (HP.out.below hb)
    replace HOP := Lib.hid (HOP.out.below hb)
    replace HD := Lib.hid (grown_tr HD.out (below_grown hb (some g)))
    have hsz4 := HD.out.size
    clear hb
    simp only [xv]
    have z0 := cell_at (v := .int .i64 0) HBr.out 0 rfl
    have fz0 := froz_at HBr.out 0
    have z1 := cell_at (v := .string ⟨#[]⟩) HBr.out 1 rfl
    have fz1 := froz_at HBr.out 1
    have z2 := cell_at (v := .string ⟨#[]⟩) HBr.out 2 rfl
    have fz2 := froz_at HBr.out 2
    have z3 := cell_at (v := .bool false) HBr.out 3 rfl
    have fz3 := froz_at HBr.out 3
    have z4 := cell_at (v := .slice none 0 0) HBr.out 4 rfl
    have fz4 := froz_at HBr.out 4
    have z5 := cell_at (v := .slice none 0 0) HBr.out 5 rfl
    have fz5 := froz_at HBr.out 5
    have z6 := cell_at (v := .int .i64 0) HBr.out 6 rfl
    have fz6 := froz_at HBr.out 6
    have z7 := cell_at (v := .int .i64 0) HBr.out 7 rfl
    have fz7 := froz_at HBr.out 7
    go_wp2_with fail
    refine bodyPost_ret (v := .agg #[.int .i64 1, .string ⟨#[]⟩, .string ⟨#[]⟩, .bool false, .slice none 0 0, .slice none 0 0, .int .i64 (t.line : Nat), .int .i64 (t.col : Nat)]) (by simp [results, Tryd.results51, go_sem, z0, z1, z2, z3, z4, z5, z6, z7]) rfl ?_
    obtain ⟨wz, hw⟩ : ∃ x, x = st8 w4 kr (.int .i64 1) (.string ⟨#[]⟩) (.string ⟨#[]⟩) (.bool false) (.slice none 0 0) (.slice none 0 0) (.int .i64 (t.line : Nat)) (.int .i64 (t.col : Nat)) := ⟨_, rfl⟩
    have hg : w4.grownBy wz (some kr) := by rw [hw]; exact st8_grown _ _ _ _ _ _ _ _ _ _
    change TreePost w g _ _ _ (st8 w4 kr (.int .i64 1) (.string ⟨#[]⟩) (.string ⟨#[]⟩) (.bool false) (.slice none 0 0) (.slice none 0 0) (.int .i64 (t.line : Nat)) (.int .i64 (t.col : Nat)))
    rw [← hw]
    clear z0 fz0 z1 fz1 z2 fz2 z3 fz3 z4 fz4 z5 fz5 z6 fz6 z7 fz7
    replace HP := Lib.hid (HP.out.store HBr.out (by decide) (by omega) hg)
    replace HBt := Lib.hid ((hg.block _ (lt_of_block HBt.out) (fun e => by injection e with e; omega)).trans HBt.out)
    replace HOP := Lib.hid (HOP.out.grown hg (by omega))
    replace HD := Lib.hid (grown_new HD.out hg (by omega))
    have hsz4 := HD.out.size
    clear hw hg
    have hu : prt 1 s.nx [] = U.node 1 [] [] 0 t.line t.col [] := by unfold prt; rw [HNt.out]
    rw [hu]
    exact ⟨⟨1, ⟨#[]⟩, ⟨#[]⟩, false, none, 0, 0, none, 0, 0, (t.line : Nat), (t.col : Nat)⟩, rfl, um_leaf 1 [] [] t.line t.col, HP.out, HD.out⟩
  rw [if_neg ho] at hc
  have HB : Hid ((s.nx.text == [116, 114, 117, 101]) = false) := Lib.hid (by simpa [St.is] using ho)
  clear ho
  by_cases ho : s.is wFalse = true
  · rw [if_pos ho] at hc
    injection hc with hc
    subst hc
    have HC : Hid ((s.nx.text == [102, 97, 108, 115, 101]) = true) := Lib.hid ho
    clear ho
    go_enter Tryd.func51, Tryd.ntmps51
    go_upto_region 1 with fail
    obtain ⟨w1, hw⟩ : ∃ x, x = w.alloc (.cells #[.int .i64 0, .string ⟨#[]⟩, .string ⟨#[]⟩, .bool false, .slice none 0 0, .slice none 0 0, .int .i64 0, .int .i64 0] 30) := ⟨_, rfl⟩
    have hb : Below w.heap.size w w1 := by rw [hw]; exact (Below.refl _ _).alloc (Nat.le_refl _) _
    have hk : w1.heap[w.heap.size]? = some (.cells #[.int .i64 0, .string ⟨#[]⟩, .string ⟨#[]⟩, .bool false, .slice none 0 0, .slice none 0 0, .int .i64 0, .int .i64 0] 30 (0, 0)) := by rw [hw]; exact made_at w _ _ rfl
    rw [← hw]
    obtain ⟨kr, hkk⟩ : ∃ k, k = w.heap.size := ⟨_, rfl⟩
    have hgr : g < kr := by rw [hkk]; exact HP.out.lt
    have her : w.heap.size ≤ kr := by omega
    rw [← hkk] at hk ⊢
    replace HP := Lib.hid (HP.out.below hb)
    replace HOP := Lib.hid (HOP.out.below hb)
    have HD := Lib.hid (below_grown hb (some g))
    have hsz1 := HD.out.size
    have HBr := Lib.hid hk
    clear hw hb hk hkk
    go_wp2_with fail
    refine (take_p g s w1 HP.out).mono ?_
    rintro e w2 ⟨rfl, hp, hg⟩
    replace HBr := Lib.hid ((hg.block _ (lt_of_block HBr.out) (fun e => by injection e with e; omega)).trans HBr.out)
    replace HOP := Lib.hid (HOP.out.grown hg (by omega))
    replace HP := Lib.hid hp
    replace HD := Lib.hid (grown_tr HD.out (hg))
    have hsz2 := HD.out.size
    clear hp hg
    simp only [tokV]
    obtain ⟨t, hnx⟩ : ∃ t, t = St.nx s := ⟨_, rfl⟩
    rw [← hnx]
    have HNt := Lib.hid hnx
    clear hnx
    go_upto_region 2 with fail
    obtain ⟨w3, hw⟩ : ∃ x, x = w2.alloc (.cells #[.int .i64 (t.kind : Nat), .string ⟨t.text.toArray⟩, .int .i64 (t.line : Nat), .int .i64 (t.col : Nat)] 57) := ⟨_, rfl⟩
    have hb : Below w2.heap.size w2 w3 := by rw [hw]; exact (Below.refl _ _).alloc (Nat.le_refl _) _
    have hk : w3.heap[w2.heap.size]? = some (.cells #[.int .i64 (t.kind : Nat), .string ⟨t.text.toArray⟩, .int .i64 (t.line : Nat), .int .i64 (t.col : Nat)] 57 (0, 0)) := by rw [hw]; exact made_at w2 _ _ rfl
    rw [← hw]
    obtain ⟨kt, hkk⟩ : ∃ k, k = w2.heap.size := ⟨_, rfl⟩
    have hgt : g < kt := by rw [hkk]; exact HP.out.lt
    have het : w.heap.size ≤ kt := by omega
    have hr_t : kr < kt := by rw [hkk]; exact lt_of_block HBr.out
    rw [← hkk] at hk ⊢
    replace HBr := Lib.hid ((hb.block _ (lt_of_block HBr.out)).trans HBr.out)
    replace HP := Lib.hid (HP.out.below hb)
    replace HOP := Lib.hid (HOP.out.below hb)
    replace HD := Lib.hid (grown_tr HD.out (below_grown hb (some g)))
    have hsz3 := HD.out.size
    have HBt := Lib.hid hk
    clear hw hb hk hkk
    have q1 := H1.out
    rw [← HNt.out] at q1
    have q0 := H0.out
    rw [← HNt.out] at q0
    have qA := HA.out
    rw [← HNt.out] at qA
    have qB := HB.out
    rw [← HNt.out] at qB
    have qC := HC.out
    rw [← HNt.out] at qC
    have ct0 := cell_at (v := .int .i64 (t.kind : Nat)) HBt.out 0 rfl
    have ct1 := cell_at (v := .string ⟨t.text.toArray⟩) HBt.out 1 rfl
    have ct2 := cell_at (v := .int .i64 (t.line : Nat)) HBt.out 2 rfl
    have ct3 := cell_at (v := .int .i64 (t.col : Nat)) HBt.out 3 rfl
    go_wp2_with fail
    refine (part_p 2 t none 0 0 w3).mono ?_
    rintro e w4 ⟨rfl, hb⟩
    clear ct0 ct1 ct2 ct3
    replace HBr := Lib.hid ((hb.block _ (lt_of_block HBr.out)).trans HBr.out)
    replace HBt := Lib.hid ((hb.block _ (lt_of_block HBt.out)).trans HBt.out)
    replace HP := Lib.hid (HP.out.below hb)
    replace HOP := Lib.hid (HOP.out.below hb)
    replace HD := Lib.hid (grown_tr HD.out (below_grown hb (some g)))
    have hsz4 := HD.out.size
    clear hb
    simp only [xv]
    have z0 := cell_at (v := .int .i64 0) HBr.out 0 rfl
    have fz0 := froz_at HBr.out 0
    have z1 := cell_at (v := .string ⟨#[]⟩) HBr.out 1 rfl
    have fz1 := froz_at HBr.out 1
    have z2 := cell_at (v := .string ⟨#[]⟩) HBr.out 2 rfl
    have fz2 := froz_at HBr.out 2
    have z3 := cell_at (v := .bool false) HBr.out 3 rfl
    have fz3 := froz_at HBr.out 3
    have z4 := cell_at (v := .slice none 0 0) HBr.out 4 rfl
    have fz4 := froz_at HBr.out 4
    have z5 := cell_at (v := .slice none 0 0) HBr.out 5 rfl
    have fz5 := froz_at HBr.out 5
    have z6 := cell_at (v := .int .i64 0) HBr.out 6 rfl
    have fz6 := froz_at HBr.out 6
    have z7 := cell_at (v := .int .i64 0) HBr.out 7 rfl
    have fz7 := froz_at HBr.out 7
    go_wp2_with fail
    refine bodyPost_ret (v := .agg #[.int .i64 2, .string ⟨#[]⟩, .string ⟨#[]⟩, .bool false, .slice none 0 0, .slice none 0 0, .int .i64 (t.line : Nat), .int .i64 (t.col : Nat)]) (by simp [results, Tryd.results51, go_sem, z0, z1, z2, z3, z4, z5, z6, z7]) rfl ?_
    obtain ⟨wz, hw⟩ : ∃ x, x = st8 w4 kr (.int .i64 2) (.string ⟨#[]⟩) (.string ⟨#[]⟩) (.bool false) (.slice none 0 0) (.slice none 0 0) (.int .i64 (t.line : Nat)) (.int .i64 (t.col : Nat)) := ⟨_, rfl⟩
    have hg : w4.grownBy wz (some kr) := by rw [hw]; exact st8_grown _ _ _ _ _ _ _ _ _ _
    change TreePost w g _ _ _ (st8 w4 kr (.int .i64 2) (.string ⟨#[]⟩) (.string ⟨#[]⟩) (.bool false) (.slice none 0 0) (.slice none 0 0) (.int .i64 (t.line : Nat)) (.int .i64 (t.col : Nat)))
    rw [← hw]
    clear z0 fz0 z1 fz1 z2 fz2 z3 fz3 z4 fz4 z5 fz5 z6 fz6 z7 fz7
    replace HP := Lib.hid (HP.out.store HBr.out (by decide) (by omega) hg)
    replace HBt := Lib.hid ((hg.block _ (lt_of_block HBt.out) (fun e => by injection e with e; omega)).trans HBt.out)
    replace HOP := Lib.hid (HOP.out.grown hg (by omega))
    replace HD := Lib.hid (grown_new HD.out hg (by omega))
    have hsz4 := HD.out.size
    clear hw hg
    have hu : prt 2 s.nx [] = U.node 2 [] [] 0 t.line t.col [] := by unfold prt; rw [HNt.out]
    rw [hu]
    exact ⟨⟨2, ⟨#[]⟩, ⟨#[]⟩, false, none, 0, 0, none, 0, 0, (t.line : Nat), (t.col : Nat)⟩, rfl, um_leaf 2 [] [] t.line t.col, HP.out, HD.out⟩
  rw [if_neg ho] at hc
  have HC : Hid ((s.nx.text == [102, 97, 108, 115, 101]) = false) := Lib.hid (by simpa [St.is] using ho)
  clear ho
  by_cases ho : s.is wNil = true
  · rw [if_pos ho] at hc
    injection hc with hc
    subst hc
    have HW : Hid ((s.nx.text == [91, 93]) = true) := Lib.hid ho
    clear ho
    go_enter Tryd.func51, Tryd.ntmps51
    go_upto_region 1 with fail
    obtain ⟨w1, hw⟩ : ∃ x, x = w.alloc (.cells #[.int .i64 0, .string ⟨#[]⟩, .string ⟨#[]⟩, .bool false, .slice none 0 0, .slice none 0 0, .int .i64 0, .int .i64 0] 30) := ⟨_, rfl⟩
    have hb : Below w.heap.size w w1 := by rw [hw]; exact (Below.refl _ _).alloc (Nat.le_refl _) _
    have hk : w1.heap[w.heap.size]? = some (.cells #[.int .i64 0, .string ⟨#[]⟩, .string ⟨#[]⟩, .bool false, .slice none 0 0, .slice none 0 0, .int .i64 0, .int .i64 0] 30 (0, 0)) := by rw [hw]; exact made_at w _ _ rfl
    rw [← hw]
    obtain ⟨kr, hkk⟩ : ∃ k, k = w.heap.size := ⟨_, rfl⟩
    have hgr : g < kr := by rw [hkk]; exact HP.out.lt
    have her : w.heap.size ≤ kr := by omega
    rw [← hkk] at hk ⊢
    replace HP := Lib.hid (HP.out.below hb)
    replace HOP := Lib.hid (HOP.out.below hb)
    have HD := Lib.hid (below_grown hb (some g))
    have hsz1 := HD.out.size
    have HBr := Lib.hid hk
    clear hw hb hk hkk
    go_wp2_with fail
    refine (take_p g s w1 HP.out).mono ?_
    rintro e w2 ⟨rfl, hp, hg⟩
    replace HBr := Lib.hid ((hg.block _ (lt_of_block HBr.out) (fun e => by injection e with e; omega)).trans HBr.out)
    replace HOP := Lib.hid (HOP.out.grown hg (by omega))
    replace HP := Lib.hid hp
    replace HD := Lib.hid (grown_tr HD.out (hg))
    have hsz2 := HD.out.size
    clear hp hg
    simp only [tokV]
    obtain ⟨t, hnx⟩ : ∃ t, t = St.nx s := ⟨_, rfl⟩
    rw [← hnx]
    have HNt := Lib.hid hnx
    clear hnx
    go_upto_region 2 with fail
    obtain ⟨w3, hw⟩ : ∃ x, x = w2.alloc (.cells #[.int .i64 (t.kind : Nat), .string ⟨t.text.toArray⟩, .int .i64 (t.line : Nat), .int .i64 (t.col : Nat)] 57) := ⟨_, rfl⟩
    have hb : Below w2.heap.size w2 w3 := by rw [hw]; exact (Below.refl _ _).alloc (Nat.le_refl _) _
    have hk : w3.heap[w2.heap.size]? = some (.cells #[.int .i64 (t.kind : Nat), .string ⟨t.text.toArray⟩, .int .i64 (t.line : Nat), .int .i64 (t.col : Nat)] 57 (0, 0)) := by rw [hw]; exact made_at w2 _ _ rfl
    rw [← hw]
    obtain ⟨kt, hkk⟩ : ∃ k, k = w2.heap.size := ⟨_, rfl⟩
    have hgt : g < kt := by rw [hkk]; exact HP.out.lt
    have het : w.heap.size ≤ kt := by omega
    have hr_t : kr < kt := by rw [hkk]; exact lt_of_block HBr.out
    rw [← hkk] at hk ⊢
    replace HBr := Lib.hid ((hb.block _ (lt_of_block HBr.out)).trans HBr.out)
    replace HP := Lib.hid (HP.out.below hb)
    replace HOP := Lib.hid (HOP.out.below hb)
    replace HD := Lib.hid (grown_tr HD.out (below_grown hb (some g)))
    have hsz3 := HD.out.size
    have HBt := Lib.hid hk
    clear hw hb hk hkk
    have q1 := H1.out
    rw [← HNt.out] at q1
    have q0 := H0.out
    rw [← HNt.out] at q0
    have qA := HA.out
    rw [← HNt.out] at qA
    have qB := HB.out
    rw [← HNt.out] at qB
    have qC := HC.out
    rw [← HNt.out] at qC
    have qW := HW.out
    rw [← HNt.out] at qW
    have ct0 := cell_at (v := .int .i64 (t.kind : Nat)) HBt.out 0 rfl
    have ct1 := cell_at (v := .string ⟨t.text.toArray⟩) HBt.out 1 rfl
    have ct2 := cell_at (v := .int .i64 (t.line : Nat)) HBt.out 2 rfl
    have ct3 := cell_at (v := .int .i64 (t.col : Nat)) HBt.out 3 rfl
    go_wp2_with fail
    refine (part_p 4 t none 0 0 w3).mono ?_
    rintro e w4 ⟨rfl, hb⟩
    clear ct0 ct1 ct2 ct3
    replace HBr := Lib.hid ((hb.block _ (lt_of_block HBr.out)).trans HBr.out)
    replace HBt := Lib.hid ((hb.block _ (lt_of_block HBt.out)).trans HBt.out)
    replace HP := Lib.hid (HP.out.below hb)
    replace HOP := Lib.hid (HOP.out.below hb)
    replace HD := Lib.hid (grown_tr HD.out (below_grown hb (some g)))
    have hsz4 := HD.out.size
    clear hb
    simp only [xv]
    have z0 := cell_at (v := .int .i64 0) HBr.out 0 rfl
    have fz0 := froz_at HBr.out 0
    have z1 := cell_at (v := .string ⟨#[]⟩) HBr.out 1 rfl
    have fz1 := froz_at HBr.out 1
    have z2 := cell_at (v := .string ⟨#[]⟩) HBr.out 2 rfl
    have fz2 := froz_at HBr.out 2
    have z3 := cell_at (v := .bool false) HBr.out 3 rfl
    have fz3 := froz_at HBr.out 3
    have z4 := cell_at (v := .slice none 0 0) HBr.out 4 rfl
    have fz4 := froz_at HBr.out 4
    have z5 := cell_at (v := .slice none 0 0) HBr.out 5 rfl
    have fz5 := froz_at HBr.out 5
    have z6 := cell_at (v := .int .i64 0) HBr.out 6 rfl
    have fz6 := froz_at HBr.out 6
    have z7 := cell_at (v := .int .i64 0) HBr.out 7 rfl
    have fz7 := froz_at HBr.out 7
    go_wp2_with fail
    refine bodyPost_ret (v := .agg #[.int .i64 4, .string ⟨#[]⟩, .string ⟨#[]⟩, .bool false, .slice none 0 0, .slice none 0 0, .int .i64 (t.line : Nat), .int .i64 (t.col : Nat)]) (by simp [results, Tryd.results51, go_sem, z0, z1, z2, z3, z4, z5, z6, z7]) rfl ?_
    obtain ⟨wz, hw⟩ : ∃ x, x = st8 w4 kr (.int .i64 4) (.string ⟨#[]⟩) (.string ⟨#[]⟩) (.bool false) (.slice none 0 0) (.slice none 0 0) (.int .i64 (t.line : Nat)) (.int .i64 (t.col : Nat)) := ⟨_, rfl⟩
    have hg : w4.grownBy wz (some kr) := by rw [hw]; exact st8_grown _ _ _ _ _ _ _ _ _ _
    change TreePost w g _ _ _ (st8 w4 kr (.int .i64 4) (.string ⟨#[]⟩) (.string ⟨#[]⟩) (.bool false) (.slice none 0 0) (.slice none 0 0) (.int .i64 (t.line : Nat)) (.int .i64 (t.col : Nat)))
    rw [← hw]
    clear z0 fz0 z1 fz1 z2 fz2 z3 fz3 z4 fz4 z5 fz5 z6 fz6 z7 fz7
    replace HP := Lib.hid (HP.out.store HBr.out (by decide) (by omega) hg)
    replace HBt := Lib.hid ((hg.block _ (lt_of_block HBt.out) (fun e => by injection e with e; omega)).trans HBt.out)
    replace HOP := Lib.hid (HOP.out.grown hg (by omega))
    replace HD := Lib.hid (grown_new HD.out hg (by omega))
    have hsz4 := HD.out.size
    clear hw hg
    have hu : prt 4 s.nx [] = U.node 4 [] [] 0 t.line t.col [] := by unfold prt; rw [HNt.out]
    rw [hu]
    exact ⟨⟨4, ⟨#[]⟩, ⟨#[]⟩, false, none, 0, 0, none, 0, 0, (t.line : Nat), (t.col : Nat)⟩, rfl, um_leaf 4 [] [] t.line t.col, HP.out, HD.out⟩
  rw [if_neg ho] at hc
  have HW : Hid ((s.nx.text == [91, 93]) = false) := Lib.hid (by simpa [St.is] using ho)
  clear ho
  by_cases ho : s.is wOpen = true
  · rw [if_pos ho, Option.bind_eq_some_iff] at hc
    obtain ⟨r1, h1, hr⟩ := hc
    injection hr with hr
    subst hr
    have h1 := Lib.hid h1
    have HE : Hid ((s.nx.text == [40]) = true) := Lib.hid ho
    clear ho
    go_enter Tryd.func51, Tryd.ntmps51
    go_upto_region 1 with fail
    obtain ⟨w1, hw⟩ : ∃ x, x = w.alloc (.cells #[.int .i64 0, .string ⟨#[]⟩, .string ⟨#[]⟩, .bool false, .slice none 0 0, .slice none 0 0, .int .i64 0, .int .i64 0] 30) := ⟨_, rfl⟩
    have hb : Below w.heap.size w w1 := by rw [hw]; exact (Below.refl _ _).alloc (Nat.le_refl _) _
    have hk : w1.heap[w.heap.size]? = some (.cells #[.int .i64 0, .string ⟨#[]⟩, .string ⟨#[]⟩, .bool false, .slice none 0 0, .slice none 0 0, .int .i64 0, .int .i64 0] 30 (0, 0)) := by rw [hw]; exact made_at w _ _ rfl
    rw [← hw]
    obtain ⟨kr, hkk⟩ : ∃ k, k = w.heap.size := ⟨_, rfl⟩
    have hgr : g < kr := by rw [hkk]; exact HP.out.lt
    have her : w.heap.size ≤ kr := by omega
    rw [← hkk] at hk ⊢
    replace HP := Lib.hid (HP.out.below hb)
    replace HOP := Lib.hid (HOP.out.below hb)
    have HD := Lib.hid (below_grown hb (some g))
    have hsz1 := HD.out.size
    have HBr := Lib.hid hk
    clear hw hb hk hkk
    go_wp2_with fail
    refine (take_p g s w1 HP.out).mono ?_
    rintro e w2 ⟨rfl, hp, hg⟩
    replace HBr := Lib.hid ((hg.block _ (lt_of_block HBr.out) (fun e => by injection e with e; omega)).trans HBr.out)
    replace HOP := Lib.hid (HOP.out.grown hg (by omega))
    replace HP := Lib.hid hp
    replace HD := Lib.hid (grown_tr HD.out (hg))
    have hsz2 := HD.out.size
    clear hp hg
    simp only [tokV]
    obtain ⟨t, hnx⟩ : ∃ t, t = St.nx s := ⟨_, rfl⟩
    rw [← hnx]
    have HNt := Lib.hid hnx
    clear hnx
    go_upto_region 2 with fail
    obtain ⟨w3, hw⟩ : ∃ x, x = w2.alloc (.cells #[.int .i64 (t.kind : Nat), .string ⟨t.text.toArray⟩, .int .i64 (t.line : Nat), .int .i64 (t.col : Nat)] 57) := ⟨_, rfl⟩
    have hb : Below w2.heap.size w2 w3 := by rw [hw]; exact (Below.refl _ _).alloc (Nat.le_refl _) _
    have hk : w3.heap[w2.heap.size]? = some (.cells #[.int .i64 (t.kind : Nat), .string ⟨t.text.toArray⟩, .int .i64 (t.line : Nat), .int .i64 (t.col : Nat)] 57 (0, 0)) := by rw [hw]; exact made_at w2 _ _ rfl
    rw [← hw]
    obtain ⟨kt, hkk⟩ : ∃ k, k = w2.heap.size := ⟨_, rfl⟩
    have hgt : g < kt := by rw [hkk]; exact HP.out.lt
    have het : w.heap.size ≤ kt := by omega
    have hr_t : kr < kt := by rw [hkk]; exact lt_of_block HBr.out
    rw [← hkk] at hk ⊢
    replace HBr := Lib.hid ((hb.block _ (lt_of_block HBr.out)).trans HBr.out)
    replace HP := Lib.hid (HP.out.below hb)
    replace HOP := Lib.hid (HOP.out.below hb)
    replace HD := Lib.hid (grown_tr HD.out (below_grown hb (some g)))
    have hsz3 := HD.out.size
    have HBt := Lib.hid hk
    clear hw hb hk hkk
    have q1 := H1.out
    rw [← HNt.out] at q1
    have q0 := H0.out
    rw [← HNt.out] at q0
    have qA := HA.out
    rw [← HNt.out] at qA
    have qB := HB.out
    rw [← HNt.out] at qB
    have qC := HC.out
    rw [← HNt.out] at qC
    have qW := HW.out
    rw [← HNt.out] at qW
    have qE := HE.out
    rw [← HNt.out] at qE
    have ct0 := cell_at (v := .int .i64 (t.kind : Nat)) HBt.out 0 rfl
    have ct1 := cell_at (v := .string ⟨t.text.toArray⟩) HBt.out 1 rfl
    have ct2 := cell_at (v := .int .i64 (t.line : Nat)) HBt.out 2 rfl
    have ct3 := cell_at (v := .int .i64 (t.col : Nat)) HBt.out 3 rfl
    go_wp2_with fail
    obtain ⟨Na, hN⟩ : ∃ k, k = w3.heap.size := ⟨_, rfl⟩
    have hr_Na : kr < Na := by rw [hN]; exact lt_of_block HBr.out
    have ht_Na : kt < Na := by rw [hN]; exact lt_of_block HBt.out
    have hg_Na : g < Na := by rw [hN]; exact HP.out.lt
    have he_Na : w.heap.size ≤ Na := by omega
    refine (E.out g _ _ w3 HP.out HOP.out h1.out).mono ?_
    rintro e w4 ⟨xa, rfl, hu, hp, hg⟩
    clear ct0 ct1 ct2 ct3
    replace HBr := Lib.hid ((hg.block _ (lt_of_block HBr.out) (fun e => by injection e with e; omega)).trans HBr.out)
    replace HBt := Lib.hid ((hg.block _ (lt_of_block HBt.out) (fun e => by injection e with e; omega)).trans HBt.out)
    replace HOP := Lib.hid (HOP.out.grown hg (by omega))
    replace HP := Lib.hid hp
    replace HD := Lib.hid (grown_tr HD.out (hg))
    have hsz4 := HD.out.size
    rw [← hN] at hu
    have HUa := Lib.hid (hu.mono (S' := fun b => Na ≤ b ∧ True) (fun b h => ⟨h, trivial⟩))
    clear hN hu
    clear hp hg
    obtain ⟨ak, anm, aot, ab, aao, an, aq, ako, akn, akc, aln, acl⟩ := xa
    simp only [xv]
    go_upto_region 22 with fail
    obtain ⟨w5, hw⟩ : ∃ x, x = w4.alloc (.cells #[.int .i64 ak, .string anm, .string aot, .bool ab, .slice aao an aq, .slice ako akn akc, .int .i64 aln, .int .i64 acl] 30) := ⟨_, rfl⟩
    have hb : Below w4.heap.size w4 w5 := by rw [hw]; exact (Below.refl _ _).alloc (Nat.le_refl _) _
    have hk : w5.heap[w4.heap.size]? = some (.cells #[.int .i64 ak, .string anm, .string aot, .bool ab, .slice aao an aq, .slice ako akn akc, .int .i64 aln, .int .i64 acl] 30 (0, 0)) := by rw [hw]; exact made_at w4 _ _ rfl
    rw [← hw]
    obtain ⟨ka, hkk⟩ : ∃ k, k = w4.heap.size := ⟨_, rfl⟩
    have hga : g < ka := by rw [hkk]; exact HP.out.lt
    have hea : w.heap.size ≤ ka := by omega
    have hr_a : kr < ka := by rw [hkk]; exact lt_of_block HBr.out
    have ht_a : kt < ka := by rw [hkk]; exact lt_of_block HBt.out
    replace HUa := Lib.hid (HUa.out.off.mono (S' := fun b => (Na ≤ b ∧ True) ∧ b ≠ ka) (fun b h => ⟨h.1, fun e => h.2 (by rw [e, hkk])⟩))
    rw [← hkk] at hk ⊢
    replace HBr := Lib.hid ((hb.block _ (lt_of_block HBr.out)).trans HBr.out)
    replace HBt := Lib.hid ((hb.block _ (lt_of_block HBt.out)).trans HBt.out)
    replace HP := Lib.hid (HP.out.below hb)
    replace HUa := Lib.hid (HUa.out.below hb)
    replace HOP := Lib.hid (HOP.out.below hb)
    replace HD := Lib.hid (grown_tr HD.out (below_grown hb (some g)))
    have hsz5 := HD.out.size
    have HBa := Lib.hid hk
    clear hw hb hk hkk
    go_wp2_with fail
    obtain ⟨w6, hw⟩ : ∃ x, x = w5.alloc (.cells #[.string ⟨#[41]⟩] 9) := ⟨_, rfl⟩
    have hb : Below w5.heap.size w5 w6 := by rw [hw]; exact (Below.refl _ _).alloc (Nat.le_refl _) _
    have hk : w6.heap[w5.heap.size]? = some (.cells #[.string ⟨#[41]⟩] 9 (0, 0)) := by rw [hw]; exact made_at w5 _ _ rfl
    rw [← hw]
    obtain ⟨kq1, hkk⟩ : ∃ k, k = w5.heap.size := ⟨_, rfl⟩
    have hgq1 : g < kq1 := by rw [hkk]; exact HP.out.lt
    have heq1 : w.heap.size ≤ kq1 := by omega
    have hr_q1 : kr < kq1 := by rw [hkk]; exact lt_of_block HBr.out
    have ht_q1 : kt < kq1 := by rw [hkk]; exact lt_of_block HBt.out
    have ha_q1 : ka < kq1 := by rw [hkk]; exact lt_of_block HBa.out
    replace HUa := Lib.hid (HUa.out.off.mono (S' := fun b => ((Na ≤ b ∧ True) ∧ b ≠ ka) ∧ b ≠ kq1) (fun b h => ⟨h.1, fun e => h.2 (by rw [e, hkk])⟩))
    rw [← hkk] at hk ⊢
    replace HBr := Lib.hid ((hb.block _ (lt_of_block HBr.out)).trans HBr.out)
    replace HBt := Lib.hid ((hb.block _ (lt_of_block HBt.out)).trans HBt.out)
    replace HBa := Lib.hid ((hb.block _ (lt_of_block HBa.out)).trans HBa.out)
    replace HP := Lib.hid (HP.out.below hb)
    replace HUa := Lib.hid (HUa.out.below hb)
    replace HOP := Lib.hid (HOP.out.below hb)
    replace HD := Lib.hid (grown_tr HD.out (below_grown hb (some g)))
    have hsz6 := HD.out.size
    have HBq1 := Lib.hid hk
    clear hw hb hk hkk
    refine (expect_p g r1.2 [[41]] kq1 w6 HP.out HBq1.out (by omega) (by decide)).mono ?_
    rintro e w7 ⟨⟨v, rfl⟩, hp, hg⟩
    replace HBr := Lib.hid ((hg.block _ (lt_of_block HBr.out) (fun e => by injection e with e; omega)).trans HBr.out)
    replace HBt := Lib.hid ((hg.block _ (lt_of_block HBt.out) (fun e => by injection e with e; omega)).trans HBt.out)
    replace HBa := Lib.hid ((hg.block _ (lt_of_block HBa.out) (fun e => by injection e with e; omega)).trans HBa.out)
    replace HBq1 := Lib.hid ((hg.block _ (lt_of_block HBq1.out) (fun e => by injection e with e; omega)).trans HBq1.out)
    replace HUa := Lib.hid (HUa.out.grown hg (fun h => by have h : ((Na ≤ g ∧ True) ∧ g ≠ ka) ∧ g ≠ kq1 := h; omega))
    replace HOP := Lib.hid (HOP.out.grown hg (by omega))
    replace HP := Lib.hid hp
    replace HD := Lib.hid (grown_tr HD.out (hg))
    have hsz7 := HD.out.size
    clear hp hg
    have ca0 := cell_at (v := .int .i64 ak) HBa.out 0 rfl
    have ca1 := cell_at (v := .string anm) HBa.out 1 rfl
    have ca2 := cell_at (v := .string aot) HBa.out 2 rfl
    have ca3 := cell_at (v := .bool ab) HBa.out 3 rfl
    have ca4 := cell_at (v := .slice aao an aq) HBa.out 4 rfl
    have ca5 := cell_at (v := .slice ako akn akc) HBa.out 5 rfl
    have ca6 := cell_at (v := .int .i64 aln) HBa.out 6 rfl
    have ca7 := cell_at (v := .int .i64 acl) HBa.out 7 rfl
    have z0 := cell_at (v := .int .i64 0) HBr.out 0 rfl
    have fz0 := froz_at HBr.out 0
    have z1 := cell_at (v := .string ⟨#[]⟩) HBr.out 1 rfl
    have fz1 := froz_at HBr.out 1
    have z2 := cell_at (v := .string ⟨#[]⟩) HBr.out 2 rfl
    have fz2 := froz_at HBr.out 2
    have z3 := cell_at (v := .bool false) HBr.out 3 rfl
    have fz3 := froz_at HBr.out 3
    have z4 := cell_at (v := .slice none 0 0) HBr.out 4 rfl
    have fz4 := froz_at HBr.out 4
    have z5 := cell_at (v := .slice none 0 0) HBr.out 5 rfl
    have fz5 := froz_at HBr.out 5
    have z6 := cell_at (v := .int .i64 0) HBr.out 6 rfl
    have fz6 := froz_at HBr.out 6
    have z7 := cell_at (v := .int .i64 0) HBr.out 7 rfl
    have fz7 := froz_at HBr.out 7
    go_wp2_with fail
    refine bodyPost_ret (v := .agg #[.int .i64 ak, .string anm, .string aot, .bool ab, .slice aao an aq, .slice ako akn akc, .int .i64 aln, .int .i64 acl]) (by simp [results, Tryd.results51, go_sem, z0, z1, z2, z3, z4, z5, z6, z7]) rfl ?_
    obtain ⟨wz, hw⟩ : ∃ x, x = st8 w7 kr (.int .i64 ak) (.string anm) (.string aot) (.bool ab) (.slice aao an aq) (.slice ako akn akc) (.int .i64 aln) (.int .i64 acl) := ⟨_, rfl⟩
    have hg : w7.grownBy wz (some kr) := by rw [hw]; exact st8_grown _ _ _ _ _ _ _ _ _ _
    change TreePost w g _ _ _ (st8 w7 kr (.int .i64 ak) (.string anm) (.string aot) (.bool ab) (.slice aao an aq) (.slice ako akn akc) (.int .i64 aln) (.int .i64 acl))
    rw [← hw]
    clear ca0 ca1 ca2 ca3 ca4 ca5 ca6 ca7 z0 fz0 z1 fz1 z2 fz2 z3 fz3 z4 fz4 z5 fz5 z6 fz6 z7 fz7
    replace HP := Lib.hid (HP.out.store HBr.out (by decide) (by omega) hg)
    replace HBt := Lib.hid ((hg.block _ (lt_of_block HBt.out) (fun e => by injection e with e; omega)).trans HBt.out)
    replace HBa := Lib.hid ((hg.block _ (lt_of_block HBa.out) (fun e => by injection e with e; omega)).trans HBa.out)
    replace HUa := Lib.hid (HUa.out.grown hg (fun h => by have h : ((Na ≤ kr ∧ True) ∧ kr ≠ ka) ∧ kr ≠ kq1 := h; omega))
    replace HOP := Lib.hid (HOP.out.grown hg (by omega))
    replace HD := Lib.hid (grown_new HD.out hg (by omega))
    have hsz7 := HD.out.size
    clear hw hg
    exact ⟨⟨ak, anm, aot, ab, aao, an, aq, ako, akn, akc, aln, acl⟩, rfl, (HUa.out.mono (fun b h => by have h : ((Na ≤ b ∧ True) ∧ b ≠ ka) ∧ b ≠ kq1 := h; show _ ≤ b; omega)), HP.out, HD.out⟩
  rw [if_neg ho] at hc
  have HE : Hid ((s.nx.text == [40]) = false) := Lib.hid (by simpa [St.is] using ho)
  clear ho
  injection hc with hc
  subst hc
  go_enter Tryd.func51, Tryd.ntmps51
  go_upto_region 1 with fail
  obtain ⟨w1, hw⟩ : ∃ x, x = w.alloc (.cells #[.int .i64 0, .string ⟨#[]⟩, .string ⟨#[]⟩, .bool false, .slice none 0 0, .slice none 0 0, .int .i64 0, .int .i64 0] 30) := ⟨_, rfl⟩
  have hb : Below w.heap.size w w1 := by rw [hw]; exact (Below.refl _ _).alloc (Nat.le_refl _) _
  have hk : w1.heap[w.heap.size]? = some (.cells #[.int .i64 0, .string ⟨#[]⟩, .string ⟨#[]⟩, .bool false, .slice none 0 0, .slice none 0 0, .int .i64 0, .int .i64 0] 30 (0, 0)) := by rw [hw]; exact made_at w _ _ rfl
  rw [← hw]
  obtain ⟨kr, hkk⟩ : ∃ k, k = w.heap.size := ⟨_, rfl⟩
  have hgr : g < kr := by rw [hkk]; exact HP.out.lt
  have her : w.heap.size ≤ kr := by omega
  rw [← hkk] at hk ⊢
  replace HP := Lib.hid (HP.out.below hb)
  replace HOP := Lib.hid (HOP.out.below hb)
  have HD := Lib.hid (below_grown hb (some g))
  have hsz1 := HD.out.size
  have HBr := Lib.hid hk
  clear hw hb hk hkk
  go_wp2_with fail
  refine (take_p g s w1 HP.out).mono ?_
  rintro e w2 ⟨rfl, hp, hg⟩
  replace HBr := Lib.hid ((hg.block _ (lt_of_block HBr.out) (fun e => by injection e with e; omega)).trans HBr.out)
  replace HOP := Lib.hid (HOP.out.grown hg (by omega))
  replace HP := Lib.hid hp
  replace HD := Lib.hid (grown_tr HD.out (hg))
  have hsz2 := HD.out.size
  clear hp hg
  simp only [tokV]
  obtain ⟨t, hnx⟩ : ∃ t, t = St.nx s := ⟨_, rfl⟩
  rw [← hnx]
  have HNt := Lib.hid hnx
  clear hnx
  go_upto_region 2 with fail
  obtain ⟨w3, hw⟩ : ∃ x, x = w2.alloc (.cells #[.int .i64 (t.kind : Nat), .string ⟨t.text.toArray⟩, .int .i64 (t.line : Nat), .int .i64 (t.col : Nat)] 57) := ⟨_, rfl⟩
  have hb : Below w2.heap.size w2 w3 := by rw [hw]; exact (Below.refl _ _).alloc (Nat.le_refl _) _
  have hk : w3.heap[w2.heap.size]? = some (.cells #[.int .i64 (t.kind : Nat), .string ⟨t.text.toArray⟩, .int .i64 (t.line : Nat), .int .i64 (t.col : Nat)] 57 (0, 0)) := by rw [hw]; exact made_at w2 _ _ rfl
  rw [← hw]
  obtain ⟨kt, hkk⟩ : ∃ k, k = w2.heap.size := ⟨_, rfl⟩
  have hgt : g < kt := by rw [hkk]; exact HP.out.lt
  have het : w.heap.size ≤ kt := by omega
  have hr_t : kr < kt := by rw [hkk]; exact lt_of_block HBr.out
  rw [← hkk] at hk ⊢
  replace HBr := Lib.hid ((hb.block _ (lt_of_block HBr.out)).trans HBr.out)
  replace HP := Lib.hid (HP.out.below hb)
  replace HOP := Lib.hid (HOP.out.below hb)
  replace HD := Lib.hid (grown_tr HD.out (below_grown hb (some g)))
  have hsz3 := HD.out.size
  have HBt := Lib.hid hk
  clear hw hb hk hkk
  have q1 := H1.out
  rw [← HNt.out] at q1
  have q0 := H0.out
  rw [← HNt.out] at q0
  have qA := HA.out
  rw [← HNt.out] at qA
  have qB := HB.out
  rw [← HNt.out] at qB
  have qC := HC.out
  rw [← HNt.out] at qC
  have qW := HW.out
  rw [← HNt.out] at qW
  have qE := HE.out
  rw [← HNt.out] at qE
  have ct0 := cell_at (v := .int .i64 (t.kind : Nat)) HBt.out 0 rfl
  have ct1 := cell_at (v := .string ⟨t.text.toArray⟩) HBt.out 1 rfl
  have ct2 := cell_at (v := .int .i64 (t.line : Nat)) HBt.out 2 rfl
  have ct3 := cell_at (v := .int .i64 (t.col : Nat)) HBt.out 3 rfl
  go_wp2_with fail
  have hp0 := fail_p g s.tk t 1 w3 HP.out
  simp only [tokV] at hp0
  refine (hp0).mono ?_
  rintro e w4 ⟨⟨v, rfl⟩, hp, hg⟩
  clear ct0 ct1 ct2 ct3
  replace HBr := Lib.hid ((hg.block _ (lt_of_block HBr.out) (fun e => by injection e with e; omega)).trans HBr.out)
  replace HBt := Lib.hid ((hg.block _ (lt_of_block HBt.out) (fun e => by injection e with e; omega)).trans HBt.out)
  replace HOP := Lib.hid (HOP.out.grown hg (by omega))
  replace HP := Lib.hid hp
  replace HD := Lib.hid (grown_tr HD.out (hg))
  have hsz4 := HD.out.size
  clear hp hg
  clear hp0
  have z0 := cell_at (v := .int .i64 0) HBr.out 0 rfl
  have fz0 := froz_at HBr.out 0
  have z1 := cell_at (v := .string ⟨#[]⟩) HBr.out 1 rfl
  have fz1 := froz_at HBr.out 1
  have z2 := cell_at (v := .string ⟨#[]⟩) HBr.out 2 rfl
  have fz2 := froz_at HBr.out 2
  have z3 := cell_at (v := .bool false) HBr.out 3 rfl
  have fz3 := froz_at HBr.out 3
  have z4 := cell_at (v := .slice none 0 0) HBr.out 4 rfl
  have fz4 := froz_at HBr.out 4
  have z5 := cell_at (v := .slice none 0 0) HBr.out 5 rfl
  have fz5 := froz_at HBr.out 5
  have z6 := cell_at (v := .int .i64 0) HBr.out 6 rfl
  have fz6 := froz_at HBr.out 6
  have z7 := cell_at (v := .int .i64 0) HBr.out 7 rfl
  have fz7 := froz_at HBr.out 7
  go_wp2_with fail
  refine bodyPost_ret (v := .agg #[.int .i64 0, .string ⟨#[]⟩, .string ⟨#[]⟩, .bool false, .slice none 0 0, .slice none 0 0, .int .i64 0, .int .i64 0]) (by simp [results, Tryd.results51, go_sem, z0, z1, z2, z3, z4, z5, z6, z7]) rfl ?_
  obtain ⟨wz, hw⟩ : ∃ x, x = st8 w4 kr (.int .i64 0) (.string ⟨#[]⟩) (.string ⟨#[]⟩) (.bool false) (.slice none 0 0) (.slice none 0 0) (.int .i64 0) (.int .i64 0) := ⟨_, rfl⟩
  have hg : w4.grownBy wz (some kr) := by rw [hw]; exact st8_grown _ _ _ _ _ _ _ _ _ _
  change TreePost w g _ _ _ (st8 w4 kr (.int .i64 0) (.string ⟨#[]⟩) (.string ⟨#[]⟩) (.bool false) (.slice none 0 0) (.slice none 0 0) (.int .i64 0) (.int .i64 0))
  rw [← hw]
  clear z0 fz0 z1 fz1 z2 fz2 z3 fz3 z4 fz4 z5 fz5 z6 fz6 z7 fz7
  replace HP := Lib.hid (HP.out.store HBr.out (by decide) (by omega) hg)
  replace HBt := Lib.hid ((hg.block _ (lt_of_block HBt.out) (fun e => by injection e with e; omega)).trans HBt.out)
  replace HOP := Lib.hid (HOP.out.grown hg (by omega))
  replace HD := Lib.hid (grown_new HD.out hg (by omega))
  have hsz4 := HD.out.size
  clear hw hg
  exact ⟨⟨0, ⟨#[]⟩, ⟨#[]⟩, false, none, 0, 0, none, 0, 0, 0, 0⟩, rfl, um_zero _ _, by rw [← HNt.out]; exact HP.out, HD.out⟩

/-- All contracts, at every bound of steps. -/
structure AllAt7 (n : Nat) : Prop where
  ex : ExprAt7 n
  le : LetAt n
  iff : IfAt n
  ma : MatchAt n
  ast : AssertAt n
  bi : BinAt n
  on : OneAt n
  atm : AtomAt n
  ar : ArgsAt n
theorem all_p (n : Nat) : AllAt7 n := by
  induction n using Nat.strongRecOn with
  | ind n ih =>
    cases n with
    | zero => constructor <;> intro _ _ _ _ _ _ h <;> first | (cases h; done) | (intro h; cases h)
    | succ n =>
      have I := ih n (by omega)
      exact ⟨expr_p n (Lib.hid I.le) (Lib.hid I.iff) (Lib.hid I.ma) (Lib.hid I.ast) (Lib.hid I.bi), let_p n (Lib.hid I.ex), if_p n (Lib.hid I.ex), match_p n (Lib.hid I.ex), assert_p n (Lib.hid I.ex), bin_p n (Lib.hid I.on) (Lib.hid fun m hm => (ih m (by omega)).bi), one_p n (Lib.hid I.on) (Lib.hid I.atm), atom_p n (Lib.hid I.ex) (Lib.hid I.ar), args_p n (Lib.hid fun m hm => (ih m (by omega)).ex)⟩
end Go.Proofs.YtdpfgfkoboihcaaDoor
