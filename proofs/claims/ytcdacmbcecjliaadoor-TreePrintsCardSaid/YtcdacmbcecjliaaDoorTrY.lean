/-
  Contracts of operandLevels and of the writer's method binary.
-/
import Derived.Test.YtcdacmbcecjliaaDoorTrX
import Derived.Deep.DeepCutAuto
namespace Go.Proofs.YtcdacmbcecjliaaDoor
open Go.RowKit
set_option maxRecDepth 100000

theorem opl_any (v : Nat) (hv : v ≤ 8) (w : World) (ht : Tabs w) :
    Calls Tryd.prog 46 #[.int .i64 (v : Nat)] w fun e w' => e = .returned (.tuple #[.int .i64 (lft v : Nat), .int .i64 (rgt v : Nat)]) ∧ w = w' := by
  have c15 : w.cell? ⟨1, 15, none⟩ = some (.int .i64 3) := ht.lv 15 (by decide)
  have c23 : w.cell? ⟨1, 23, none⟩ = some (.int .i64 4) := ht.lv 23 (by decide)
  clear ht
  obtain rfl | rfl | rfl | rfl | rfl | rfl | rfl | rfl | rfl : v = 0 ∨ v = 1 ∨ v = 2 ∨ v = 3 ∨ v = 4 ∨ v = 5 ∨ v = 6 ∨ v = 7 ∨ v = 8 := by omega
  all_goals
    go_enter Tryd.func46, Tryd.ntmps46
    go_wp2
    go_ret2
    exact ⟨rfl, rfl⟩

set_option maxHeartbeats 8000000 in
theorem binary_any (w0 : World) (d : Nat) (E : Hid (ExprAt w0 d)) (b : Nat) (l : Bs) (k : Nat) (nm ot : Bs) (z : Nat) (ks : List T) (x : X) (S : Nat → Prop) (w : World) (ht : Tabs w0) (h10 : 10 ≤ k) (h24 : k < 24) (h : Tr w0 S (d + 1) x (.node k nm ot z ks)) (ho : Ok (d + 1) (.node k nm ot z ks))
    (hbw : Below w0.heap.size w0 w) (hwr : Wr w0.heap.size b l w) (hlen : l.length + LL (d + 1) ≤ 1000000) :
    Calls Tryd.prog 42 #[.pointer (some ⟨b, 0, none⟩), xv x] w (WrPost w0.heap.size b (l ++ tx (.node k nm ot z ks)) w) := by
  obtain ⟨hk, hn, hoo, hz, ha, hl, hks⟩ := ho
  obtain ⟨⟨e1, e2, e3, e4⟩, ⟨h2, h3⟩, ⟨h4, h5, h6⟩, h7⟩ := h
  obtain ⟨t0, t1, hks2⟩ : ∃ t0 t1, ks = [t0, t1] := by
    have : ks.length = 2 := by
      rcases ha with ha | ha
      · omega
      · rw [ha]; exact (show ∀ k, k < 24 → 10 ≤ k → ar k = 2 by decide) k h24 h10
    match ks, this with
    | [a, b], _ => exact ⟨a, b, rfl⟩
  subst hks2
  obtain ⟨xk, xnm, xot, xb, xao, xn, xq, xko, xkn, xkc, xln, xcl⟩ := x
  simp only at e1 e2 e3 e4 h2 h3 h4 h5 h6 h7
  subst e1 e2 e3 e4 h4
  obtain ⟨y0, hA0, hT0⟩ := h7 0 (by simp)
  obtain ⟨y1, hA1, hT1⟩ := h7 1 (by simp)
  have hK0 : Ok d t0 := hks t0 (by simp)
  have hK1 : Ok d t1 := hks t1 (by simp)
  have htx : tx (.node k nm ot z [t0, t1]) = ex (lft (lv k)) t0 ++ [32] ++ sg5 k ++ [32] ++ ex (rgt (lv k)) t1 := by
    have r0 : rq k 0 = lft (lv k) := by unfold rq; rw [if_neg (by omega), if_pos h24, if_pos rfl]
    have r1 : rq k 1 = rgt (lv k) := by unfold rq; rw [if_neg (by omega), if_pos h24, if_neg (by decide)]
    rw [tx]
    unfold shp
    rw [if_neg (by omega), if_neg (by omega), if_neg (by omega), if_neg (by omega), if_pos h24]
    simp only [exs, r0, Nat.zero_add, r1]
    rfl
  have hl0 := ex_len hK0 (lft (lv k))
  have hsg := sg5_len k hk
  have hlv : lv k ≤ 8 := (show ∀ k, k < 24 → lv k ≤ 8 by decide) k h24
  have hlr := (show ∀ k, k < 24 → lft (lv k) ≤ 8 ∧ (10 ≤ k → rgt (lv k) ≤ 8) by decide) k h24
  have hl1 := hlr.2 h10
  have hl2 := hlr.1
  have HTX := Lib.hid htx
  have HT := Lib.hid ht
  have HA0 := Lib.hid hA0
  have HA1 := Lib.hid hA1
  have HT0 := Lib.hid hT0
  have HT1 := Lib.hid hT1
  have HBW := Lib.hid hbw
  have HWR := Lib.hid hwr
  have hsB := hbw.size
  have hLS := LL_succ d
  have hlv0 := ht.lv k (by omega)
  have hsg0 := ht.sg k h24
  clear h2 h3 h6 h7 hks htx ha hA1 hT0 hT1 hlr
  simp only [xv, List.length_cons, List.length_nil]
  obtain ⟨k3, hk3⟩ : ∃ k3, k3 = w.heap.size := ⟨_, rfl⟩
  obtain ⟨w9, hw9⟩ : ∃ w9, w9 = w.alloc (.cells #[.int .i64 (k : Nat), .string ⟨nm.toArray⟩, .string ⟨ot.toArray⟩, .bool false, .slice xao xn xq, .slice xko 2 xkc, .int .i64 xln, .int .i64 xcl] 29) := ⟨_, rfl⟩
  have hba : Below w.heap.size w w9 := by rw [hw9]; exact (Below.refl _ _).alloc (Nat.le_refl _) _
  have hx9 : w9.heap[k3]? = some (.cells #[.int .i64 (k : Nat), .string ⟨nm.toArray⟩, .string ⟨ot.toArray⟩, .bool false, .slice xao xn xq, .slice xko 2 xkc, .int .i64 xln, .int .i64 xcl] 29 (0, 0)) := by rw [hw9, hk3]; exact made_at w _ _ rfl
  have HB_x := Lib.hid hx9
  have HW9 := Lib.hid (HWR.out.below hba)
  have hb09 : Below w0.heap.size w0 w9 := hbw.trans (hba.mono hsB)
  have HB09 := Lib.hid (hba.mono hsB)
  have HBA := Lib.hid hba
  have hs9 := hba.size
  have hlv9 : w9.cell? ⟨1, k, none⟩ = some (.int .i64 (lv k : Nat)) := by rw [hb09.cell (cell_lt hlv0)]; exact hlv0
  obtain ⟨a, rfl, hc0⟩ := hA0.keep fun a ha => hb09.block _ (hA0.lt a ha)
  have e0 : a.add (0 * 8) = a := by simp [Addr.add]
  rw [e0] at hc0
  obtain ⟨c0, c1, c2, c3, c4, c5, c6, c7⟩ := cells8 hc0
  have x0 := cell_at (v := .int .i64 (k : Nat)) hx9 0 rfl
  have x5 := cell_at (v := .slice (some a) 2 xkc) hx9 5 rfl
  have HLV0 := Lib.hid hlv0
  have HSG0 := Lib.hid hsg0
  generalize hlf : lft (lv k) = lf at *
  generalize hrg : rgt (lv k) = rg at *
  have HLF := Lib.hid hlf
  have HRG := Lib.hid hrg
  clear hba hx9 hb09 e0 hc0 hA0 ht hbw hwr hlv0 hsg0 hlf hrg
  have HW9E := Lib.hid hw9
  have HK3E := Lib.hid hk3
  go_enter Tryd.func42, Tryd.ntmps42
  go_upto_region 1 with fail
  rw [← hw9, ← hk3]
  clear hw9 hk3
  go_wp2_with fail
  refine (opl_any (lv k) hlv w9 (HT.out.below (HBW.out.trans HB09.out))).mono ?_
  rintro e wz ⟨rfl, rfl⟩
  rw [HLF.out, HRG.out]
  go_wp2_with fail
  refine (E.out b l lf y0 t0 S w9 HT0.out hK0 hl2 (HBW.out.trans HB09.out) HW9.out (by omega)).mono ?_
  rintro e w10 ⟨⟨v, rfl⟩, hw5, hb5, hfr5⟩
  have hs10 := hb5.size
  have HX10 := Lib.hid (hfr5 k3 _ _ _ HB_x.out (by decide) (by decide))
  have H10 := Lib.hid hw5
  have HB10 := Lib.hid (HB09.out.trans hb5)
  have HF10 := Lib.hid ((fr_below HBA.out).trans hfr5)
  clear hw5 hb5 hfr5 c0 c1 c2 c3 c4 c5 c6 c7 x0 x5 hlv9
  go_wp2_with fail
  refine (wr_byte w0.heap.size b _ 32 _ rfl w10 H10.out (by rw [List.length_append]; omega) (by omega)).mono ?_
  rintro e w11 ⟨⟨v2, rfl⟩, hw6, hb6, hfr6⟩
  have hs11 := hb6.size
  have HB_x := Lib.hid (hfr6 k3 _ _ _ HX10.out (by decide) (by decide))
  have H11 := Lib.hid hw6
  have HB11 := Lib.hid (HB10.out.trans hb6)
  have HF11 := Lib.hid (HF10.out.trans hfr6)
  clear hw6 hb6 hfr6
  go_wp2_with fail
  have hlt_x := lt_of_block HB_x.out
  refine Rely.region (by kernel_rfl) [[], [0], [0, 1], [], [3], [3, 4], [3, 4, 5], [0, 1, 2, 3, 4, 5, 6]] [] [] (fun _ => 0) 0 7 (by kernel_rfl) (by kernel_rfl) (fun q h => absurd h (Nat.not_lt_zero q)) (fun q _ h => absurd h (Nat.not_lt_zero q)) ?_
  refine Rely.Chain.det ?_ (by rfl) (fun T xs wr hA => ?_) ?_
  rotate_left 1
  · have e0 := hA.pre 0 (by kernel_rfl)
    simp only [List.getElem?_toArray, List.getElem?_cons_zero] at e0
    clear hA
    refine ⟨(by rfl), ?_⟩
    go_simp <;> (try with_reducible rfl)
  refine Rely.Chain.det ?_ (by rfl) (fun T xs wr hA => ?_) ?_
  rotate_left 1
  · have e25 := hA.tm 0 25 (by rfl) (by rfl)
    have f25 : xs 0 = _ := hA.fa 0 (by rfl)
    (try simp (disch := first | rfl | decide) only [Rely.mask_in] at f25)
    rw [f25] at e25
    clear f25
    clear hA
    refine ⟨(by rfl), ?_⟩
    go_simp <;> (try with_reducible rfl)
  refine Rely.Chain.det ?_ (by rfl) (fun T xs wr hA => ?_) ?_
  rotate_left 1
  · have e26 := hA.tm 1 26 (by rfl) (by rfl)
    have f26 : xs 1 = _ := hA.fa 1 (by rfl)
    (try simp (disch := first | rfl | decide) only [Rely.mask_in] at f26)
    rw [f26] at e26
    clear f26
    clear hA
    refine ⟨(by rfl), ?_⟩
    go_simp <;> (try with_reducible rfl)
  refine Rely.Chain.det ?_ (by rfl) (fun T xs wr hA => ?_) ?_
  rotate_left 1
  · have e3 := hA.pre 3 (by kernel_rfl)
    simp only [List.getElem?_toArray, List.getElem?_cons_succ, List.getElem?_cons_zero] at e3
    clear hA
    refine ⟨(by rfl), ?_⟩
    go_simp <;> (try with_reducible rfl)
  refine Rely.Chain.det ?_ (by rfl) (fun T xs wr hA => ?_) ?_
  rotate_left 1
  · have e28 := hA.tm 3 28 (by rfl) (by rfl)
    have f28 : xs 3 = _ := hA.fa 3 (by rfl)
    (try simp (disch := first | rfl | decide) only [Rely.mask_in] at f28)
    rw [f28] at e28
    clear f28
    have hBq : wr.heap[k3]? = _ := (hA.bl _ hlt_x (fun q h => absurd h (Nat.not_lt_zero q))).trans HB_x.out
    have q0 := cell_at (v := .int .i64 (k : Nat)) hBq 0 rfl
    have q1 := cell_at (v := .string ⟨nm.toArray⟩) hBq 1 rfl
    have q2 := cell_at (v := .string ⟨ot.toArray⟩) hBq 2 rfl
    have q3 := cell_at (v := .bool false) hBq 3 rfl
    have q4 := cell_at (v := .slice xao xn xq) hBq 4 rfl
    have q5 := cell_at (v := .slice (some a) 2 xkc) hBq 5 rfl
    have q6 := cell_at (v := .int .i64 xln) hBq 6 rfl
    have q7 := cell_at (v := .int .i64 xcl) hBq 7 rfl
    clear hBq
    clear hA
    refine ⟨(by rfl), ?_⟩
    go_simp <;> (try with_reducible rfl)
  refine Rely.Chain.det ?_ (by rfl) (fun T xs wr hA => ?_) ?_
  rotate_left 1
  · have e29 := hA.tm 4 29 (by rfl) (by rfl)
    have f29 : xs 4 = _ := hA.fa 4 (by rfl)
    (try simp (disch := first | rfl | decide) only [Rely.mask_in] at f29)
    rw [f29] at e29
    clear f29
    have hki : ((k : Nat) : Int) < 24 := by omega
    clear hA
    refine ⟨(by rfl), ?_⟩
    go_simp <;> (try with_reducible rfl)
  refine Rely.Chain.det ?_ (by rfl) (fun T xs wr hA => ?_) ?_
  rotate_left 1
  · have e30 := hA.tm 5 30 (by rfl) (by rfl)
    have f30 : xs 5 = _ := hA.fa 5 (by rfl)
    (try simp (disch := first | rfl | decide) only [Rely.mask_in] at f30)
    rw [f30] at e30
    clear f30
    have hbw := undrew (hA.be _ (Nat.le_refl _) (fun q h => absurd h (Nat.not_lt_zero q)))
    have sgc : wr.cell? ⟨2, k, none⟩ = some (.string ⟨(sg5 k).toArray⟩) := by rw [hbw.cell (Nat.lt_of_lt_of_le (cell_lt HSG0.out) (HBW.out.trans HB11.out).size), (HBW.out.trans HB11.out).cell (cell_lt HSG0.out)]; exact HSG0.out
    clear hbw
    clear hA
    refine ⟨(by rfl), ?_⟩
    go_simp <;> (try with_reducible rfl)
  refine Rely.Chain.done (fun xs w12 hL => ?_)
  obtain ⟨⟨hbe, hbl, hkp0⟩, hf, hp, hn⟩ := hL
  have f0 : xs 0 = _ := hf 0 (by decide)
  (try simp (disch := first | rfl | decide) only [Rely.mask_in] at f0)
  have f1 : xs 1 = _ := hf 1 (by decide)
  (try simp (disch := first | rfl | decide) only [Rely.mask_in] at f1)
  have f2 : xs 2 = _ := hf 2 (by decide)
  (try simp (disch := first | rfl | decide) only [Rely.mask_in] at f2)
  have f3 : xs 3 = _ := hf 3 (by decide)
  (try simp (disch := first | rfl | decide) only [Rely.mask_in] at f3)
  have f4 : xs 4 = _ := hf 4 (by decide)
  (try simp (disch := first | rfl | decide) only [Rely.mask_in] at f4)
  have f5 : xs 5 = _ := hf 5 (by decide)
  (try simp (disch := first | rfl | decide) only [Rely.mask_in] at f5)
  have f6 : xs 6 = _ := hf 6 (by decide)
  (try simp (disch := first | rfl | decide) only [Rely.mask_in] at f6)
  have hbx : Below w11.heap.size w11 w12 := undrew (hbe _ (Nat.le_refl _) (fun q h => absurd h (Nat.not_lt_zero q)))
  clear hbe hbl hkp0 hf hp hn
  replace HB_x := Lib.hid ((hbx.block _ hlt_x).trans HB_x.out)
  clear hlt_x
  refine Rely.rest_list (by decide) (by kernel_rfl) ?_
  simp only [Rely.fill, List.take_succ_cons, List.take_zero, List.drop_succ_cons, List.drop_zero, List.setIfInBounds_toArray, List.set_cons_zero, List.set_cons_succ, f0, f1, f2, f3, f4, f5, f6]
  have HBX := Lib.hid hbx
  have hs12 := hbx.size
  have H12 := Lib.hid (H11.out.below hbx)
  have HB12 := Lib.hid (HB11.out.trans (hbx.mono (by omega)))
  have HF12 := Lib.hid (HF11.out.trans (fr_below hbx))
  clear hbx f0 f1 f2 f3 f4 f5 f6
  go_wp2_with fail
  refine (wr_str w0.heap.size b _ (sg5 k) w12 H12.out (by simp only [List.length_append, List.length_cons, List.length_nil]; omega) (by omega)).mono ?_
  rintro e w13 ⟨⟨v3, rfl⟩, hw7, hb7, hfr7⟩
  have hs13 := hb7.size
  have HX13 := Lib.hid (hfr7 k3 _ _ _ HB_x.out (by decide) (by decide))
  have H13 := Lib.hid hw7
  have HB13 := Lib.hid (HB12.out.trans hb7)
  have HF13 := Lib.hid (HF12.out.trans hfr7)
  clear hw7 hb7 hfr7
  go_wp2_with fail
  refine (wr_byte w0.heap.size b _ 32 _ rfl w13 H13.out (by simp only [List.length_append, List.length_cons, List.length_nil]; omega) (by omega)).mono ?_
  rintro e w14 ⟨⟨v4, rfl⟩, hw8, hb8, hfr8⟩
  have hs14 := hb8.size
  have hx14 := hfr8 k3 _ _ _ HX13.out (by decide) (by decide)
  have H14 := Lib.hid hw8
  have HB14 := Lib.hid (HB13.out.trans hb8)
  have HF14 := Lib.hid (HF13.out.trans hfr8)
  clear hw8 hb8 hfr8
  have x5 := cell_at (v := .slice (some a) 2 xkc) hx14 5 rfl
  obtain ⟨a', ea, hc1⟩ := HA1.out.keep fun a ha => (HBW.out.trans HB14.out).block _ (HA1.out.lt a ha)
  injection ea with ea
  subst ea
  have e1 : a.add (1 * 8) = ⟨a.block, a.off + 8, none⟩ := by simp [Addr.add]
  rw [e1] at hc1
  obtain ⟨c0, c1, c2, c3, c4, c5, c6, c7⟩ := cells8 hc1
  simp only [Nat.add_assoc, Nat.reduceAdd] at c1 c2 c3 c4 c5 c6 c7
  clear hc1 e1 hx14
  go_wp2_with fail
  refine (E.out b _ rg y1 t1 S w14 HT1.out hK1 hl1 (HBW.out.trans HB14.out) H14.out (by simp only [List.length_append, List.length_cons, List.length_nil]; omega)).mono ?_
  rintro e w15 ⟨⟨v5, rfl⟩, hw9', hb9', hfr9'⟩
  have H15 := Lib.hid hw9'
  have HB15 := Lib.hid (HB14.out.trans hb9')
  have HF15 := Lib.hid (HF14.out.trans hfr9')
  clear hw9' hb9' hfr9'
  go_wp2_with fail
  go_end0
  refine ⟨⟨_, rfl⟩, ?_, HB15.out, HF15.out⟩
  have := H15.out
  rw [HTX.out]
  simp only [List.append_assoc] at this ⊢
  exact this
end Go.Proofs.YtcdacmbcecjliaaDoor
