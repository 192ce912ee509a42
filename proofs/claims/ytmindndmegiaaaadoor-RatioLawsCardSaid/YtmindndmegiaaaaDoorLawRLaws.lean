/-
  The walk of the law RatioLaws.
-/
import Derived.Test.YtmindndmegiaaaaDoorQHat
namespace Go.Proofs.YtmindndmegiaaaaDoor
open Go.RowKit
set_option maxRecDepth 100000

theorem laws_dist (A B C : Rat) : C * A + A * B = A * (B + C) := by rw [Rat.mul_add, Rat.add_comm, Rat.mul_comm C A]
theorem laws_back (A B C : Rat) : A + (C - C) = A - B + B := by rw [Rat.sub_self, Rat.add_zero, Rat.sub_add_cancel]
theorem wrap_cmp (A B : Rat) : IntKind.i64.wrap (-cmpQ B A) = cmpQ A B := by
  have h := cmpQ_bounds A B
  rw [← cmpQ_swap, IntKind.wrap_i64]; omega

set_option maxHeartbeats 8000000 in
theorem ratioLaws_walk (b0 : Bool) (o0 : Option Addr) (n0 m0 : Nat) (p0 : Option Addr) (l0 e0 : Nat) (xs0 ys0 : List Nat) (b1 : Bool) (o1 : Option Addr) (n1 m1 : Nat) (p1 : Option Addr) (l1 e1 : Nat) (xs1 ys1 : List Nat) (b2 : Bool) (o2 : Option Addr) (n2 m2 : Nat) (p2 : Option Addr) (l2 e2 : Nat) (xs2 ys2 : List Nat) (w : World) (a0 : ArgQ w b0 o0 n0 m0 p0 l0 e0 xs0 ys0) (a1 : ArgQ w b1 o1 n1 m1 p1 l1 e1 xs1 ys1) (a2 : ArgQ w b2 o2 n2 m2 p2 l2 e2 xs2 ys2) (htab : Lib.TabIs Tryd.prog w "internal/strconv.uint64pow10" .u64 Lib.pow10Tab) :
    Calls Tryd.prog 5 #[.agg #[.bool b0, .slice o0 n0 m0, .slice p0 l0 e0], .agg #[.bool b1, .slice o1 n1 m1, .slice p1 l1 e1], .agg #[.bool b2, .slice o2 n2 m2, .slice p2 l2 e2]] w fun e w' => e = .returned (.bool true) ∧ Below w.heap.size w w' := by
  have HF := Lib.hid qfitOk
  have HTB := Lib.hid htab
  clear htab
  by_cases hs : (n0 ≤ 4 ∧ l0 ≤ 4) ∧ (n1 ≤ 4 ∧ l1 ≤ 4) ∧ (n2 ≤ 4 ∧ l2 ≤ 4)
  · obtain ⟨h0, h1, h2⟩ := hs
    obtain ⟨A, g0⟩ := a0.hq h0
    obtain ⟨B, g1⟩ := a1.hq h1
    obtain ⟨C, g2⟩ := a2.hq h2
    clear a0 a1 a2
    have HX := Lib.hid (laws_dist A B C)
    have HY := Lib.hid (laws_back A B C)
    have HS := Lib.hid (cmpQ_add A B C)
    have hW := wrap_cmp A B
    have hbt := Below.refl w.heap.size w
    go_enter Tryd.func5, Tryd.ntmps5
    go_wp2_with fail
    have hbx : Below w.heap.size w (((w.alloc (.cells #[.bool b0, .slice o0 n0 m0, .slice p0 l0 e0] 27)).alloc (.cells #[.bool b1, .slice o1 n1 m1, .slice p1 l1 e1] 27)).alloc (.cells #[.bool b2, .slice o2 n2 m2, .slice p2 l2 e2] 27)) := ((((Below.refl _ _).alloc (by simp) _).alloc (by simp) _).alloc (by simp; omega) _)
    replace g0 := g0.below hbx
    replace g1 := g1.below hbx
    replace g2 := g2.below hbx
    replace hbt := hbt.trans (hbx.mono hbt.size)
    clear hbx
    have HB_x0 : Hid ((((w.alloc (.cells #[.bool b0, .slice o0 n0 m0, .slice p0 l0 e0] 27)).alloc (.cells #[.bool b1, .slice o1 n1 m1, .slice p1 l1 e1] 27)).alloc (.cells #[.bool b2, .slice o2 n2 m2, .slice p2 l2 e2] 27)).heap[w.heap.size]? = some (.cells #[.bool b0, .slice o0 n0 m0, .slice p0 l0 e0] 27 (0, 0))) := Lib.hid (made_more (made_more (made_at w (.cells #[.bool b0, .slice o0 n0 m0, .slice p0 l0 e0] 27) _ (by first | rfl | simp)) _) _)
    have HB_x1 : Hid ((((w.alloc (.cells #[.bool b0, .slice o0 n0 m0, .slice p0 l0 e0] 27)).alloc (.cells #[.bool b1, .slice o1 n1 m1, .slice p1 l1 e1] 27)).alloc (.cells #[.bool b2, .slice o2 n2 m2, .slice p2 l2 e2] 27)).heap[w.heap.size + 1]? = some (.cells #[.bool b1, .slice o1 n1 m1, .slice p1 l1 e1] 27 (0, 0))) := Lib.hid (made_more (made_at (w.alloc (.cells #[.bool b0, .slice o0 n0 m0, .slice p0 l0 e0] 27)) (.cells #[.bool b1, .slice o1 n1 m1, .slice p1 l1 e1] 27) _ (by first | rfl | simp)) _)
    have HB_x2 : Hid ((((w.alloc (.cells #[.bool b0, .slice o0 n0 m0, .slice p0 l0 e0] 27)).alloc (.cells #[.bool b1, .slice o1 n1 m1, .slice p1 l1 e1] 27)).alloc (.cells #[.bool b2, .slice o2 n2 m2, .slice p2 l2 e2] 27)).heap[w.heap.size + 2]? = some (.cells #[.bool b2, .slice o2 n2 m2, .slice p2 l2 e2] 27 (0, 0))) := Lib.hid (made_at ((w.alloc (.cells #[.bool b0, .slice o0 n0 m0, .slice p0 l0 e0] 27)).alloc (.cells #[.bool b1, .slice o1 n1 m1, .slice p1 l1 e1] 27)) (.cells #[.bool b2, .slice o2 n2 m2, .slice p2 l2 e2] 27) _ (by first | rfl | simp))
    generalize (((w.alloc (.cells #[.bool b0, .slice o0 n0 m0, .slice p0 l0 e0] 27)).alloc (.cells #[.bool b1, .slice o1 n1 m1, .slice p1 l1 e1] 27)).alloc (.cells #[.bool b2, .slice o2 n2 m2, .slice p2 l2 e2] 27)) = wx1 at *
    have x00 := cell_at (v := .bool b0) HB_x0.out 0 rfl
    have x01 := cell_at (v := .slice o0 n0 m0) HB_x0.out 1 rfl
    have x02 := cell_at (v := .slice p0 l0 e0) HB_x0.out 2 rfl
    have x10 := cell_at (v := .bool b1) HB_x1.out 0 rfl
    have x11 := cell_at (v := .slice o1 n1 m1) HB_x1.out 1 rfl
    have x12 := cell_at (v := .slice p1 l1 e1) HB_x1.out 2 rfl
    have x20 := cell_at (v := .bool b2) HB_x2.out 0 rfl
    have x21 := cell_at (v := .slice o2 n2 m2) HB_x2.out 1 rfl
    have x22 := cell_at (v := .slice p2 l2 e2) HB_x2.out 2 rfl
    refine (HF.out _ (tab_below HTB.out hbt)).mono ?_
    rintro e wx2 ⟨rfl, hbx⟩
    replace g0 := g0.below hbx
    replace g1 := g1.below hbx
    replace g2 := g2.below hbx
    replace hbt := hbt.trans (hbx.mono hbt.size)
    replace HB_x0 := Lib.hid ((hbx.block _ (lt_of_block HB_x0.out)).trans HB_x0.out)
    replace HB_x1 := Lib.hid ((hbx.block _ (lt_of_block HB_x1.out)).trans HB_x1.out)
    replace HB_x2 := Lib.hid ((hbx.block _ (lt_of_block HB_x2.out)).trans HB_x2.out)
    clear hbx
    replace x00 := cell_at (v := .bool b0) HB_x0.out 0 rfl
    replace x01 := cell_at (v := .slice o0 n0 m0) HB_x0.out 1 rfl
    replace x02 := cell_at (v := .slice p0 l0 e0) HB_x0.out 2 rfl
    replace x10 := cell_at (v := .bool b1) HB_x1.out 0 rfl
    replace x11 := cell_at (v := .slice o1 n1 m1) HB_x1.out 1 rfl
    replace x12 := cell_at (v := .slice p1 l1 e1) HB_x1.out 2 rfl
    replace x20 := cell_at (v := .bool b2) HB_x2.out 0 rfl
    replace x21 := cell_at (v := .slice o2 n2 m2) HB_x2.out 1 rfl
    replace x22 := cell_at (v := .slice p2 l2 e2) HB_x2.out 2 rfl
    go_wp2_with fail
    refine (qshort_t3 4 _ rfl h0 h1 h2).mono ?_
    rintro e wx3 ⟨rfl, hbx⟩
    replace g0 := g0.below hbx
    replace g1 := g1.below hbx
    replace g2 := g2.below hbx
    replace hbt := hbt.trans (hbx.mono hbt.size)
    replace HB_x0 := Lib.hid ((hbx.block _ (lt_of_block HB_x0.out)).trans HB_x0.out)
    replace HB_x1 := Lib.hid ((hbx.block _ (lt_of_block HB_x1.out)).trans HB_x1.out)
    replace HB_x2 := Lib.hid ((hbx.block _ (lt_of_block HB_x2.out)).trans HB_x2.out)
    clear hbx
    replace x00 := cell_at (v := .bool b0) HB_x0.out 0 rfl
    replace x01 := cell_at (v := .slice o0 n0 m0) HB_x0.out 1 rfl
    replace x02 := cell_at (v := .slice p0 l0 e0) HB_x0.out 2 rfl
    replace x10 := cell_at (v := .bool b1) HB_x1.out 0 rfl
    replace x11 := cell_at (v := .slice o1 n1 m1) HB_x1.out 1 rfl
    replace x12 := cell_at (v := .slice p1 l1 e1) HB_x1.out 2 rfl
    replace x20 := cell_at (v := .bool b2) HB_x2.out 0 rfl
    replace x21 := cell_at (v := .slice o2 n2 m2) HB_x2.out 1 rfl
    replace x22 := cell_at (v := .slice p2 l2 e2) HB_x2.out 2 rfl
    go_wp2_with fail
    have hlt_x0 := lt_of_block HB_x0.out
    have hlt_x1 := lt_of_block HB_x1.out
    have hlt_x2 := lt_of_block HB_x2.out
    refine Rely.region (by kernel_rfl) [[], [], [], [1, 2], [0, 1, 2, 3], [], [], [0, 1, 2, 3, 4, 5, 6], [], [], [0, 1, 2, 3, 4, 5, 6, 7, 8, 9], [0, 1, 2, 3, 4, 5, 6, 7, 8, 9, 10], [0, 1, 2, 3, 4, 5, 6, 7, 8, 9, 10, 11], [0, 1, 2, 3, 4, 5, 6, 7, 8, 9, 10, 11, 12], [0, 1, 2, 3, 4, 5, 6, 7, 8, 9, 10, 11, 12, 13], [0, 1, 2, 3, 4, 5, 6, 7, 8, 9, 10, 11, 12, 13, 14], [0, 1, 2, 3, 4, 5, 6, 7, 8, 9, 10, 11, 12, 13, 14], [0, 1, 2, 3, 4, 5, 6, 7, 8, 9, 10, 11, 12, 13, 14, 15, 16], [0, 1, 2, 3, 4, 5, 6, 7, 8, 9, 10, 11, 12, 13, 14], [0, 1, 2, 3, 4, 5, 6, 7, 8, 9, 10, 11, 12, 13, 14, 15, 16, 17, 18], [0, 1, 2, 3, 4, 5, 6, 7, 8, 9, 10, 11, 12, 13, 14], [0, 1, 2, 3, 4, 5, 6, 7, 8, 9, 10, 11, 12, 13, 14], [0, 1, 2, 3, 4, 5, 6, 7, 8, 9, 10, 11, 12, 13, 14], [0, 1, 2, 3, 4, 5, 6, 7, 8, 9, 10, 11, 12, 13, 14, 15, 16, 17, 18, 19, 21, 22], [0, 1, 2, 3, 4, 5, 6, 7, 8, 9, 10, 11, 12, 13, 14, 15, 16, 17, 18, 19, 20, 21, 22, 23], [0, 1, 2, 3, 4, 5, 6, 7, 8, 9, 10, 11, 12, 13, 14, 15, 16, 17, 18, 19, 20, 21, 22, 23, 24], [0, 1, 2, 3, 4, 5, 6, 7, 8, 9, 10, 11, 12, 13, 14, 15, 16, 17, 18, 19, 20, 21, 22, 23, 24, 25], [0, 1, 2, 3, 4, 5, 6, 7, 8, 9, 10, 11, 12, 13, 14, 15, 16, 17, 18, 19, 20, 21, 22, 23, 24, 25, 26]] [] [] (fun q => [].getD q 0) 0 28 (by kernel_rfl) (by kernel_rfl) (fun q h => absurd h (Nat.not_lt_zero q)) (fun q _ h => absurd h (Nat.not_lt_zero q)) ?_
    refine Rely.Chain.det ?_ (by rfl) (fun T xs wr hA => ?_) ?_
    rotate_left 1
    · have e3 := hA.pre 3 (by kernel_rfl)
      simp only [List.getElem?_toArray, List.getElem?_cons_succ, List.getElem?_cons_zero] at e3
      have hBq : wr.heap[w.heap.size]? = _ := (hA.bl _ hlt_x0 (fun q h => absurd h (Nat.not_lt_zero q))).trans HB_x0.out
      have q0 := cell_at (v := .bool b0) hBq 0 rfl
      have q1 := cell_at (v := .slice o0 n0 m0) hBq 1 rfl
      have q2 := cell_at (v := .slice p0 l0 e0) hBq 2 rfl
      clear hBq
      clear hA
      refine ⟨(by rfl), ?_⟩
      go_simp <;> (try with_reducible rfl)
    refine Rely.Chain.det ?_ (by rfl) (fun T xs wr hA => ?_) ?_
    rotate_left 1
    · have e4 := hA.pre 4 (by kernel_rfl)
      simp only [List.getElem?_toArray, List.getElem?_cons_succ, List.getElem?_cons_zero] at e4
      have hBq : wr.heap[w.heap.size + 1]? = _ := (hA.bl _ hlt_x1 (fun q h => absurd h (Nat.not_lt_zero q))).trans HB_x1.out
      have q0 := cell_at (v := .bool b1) hBq 0 rfl
      have q1 := cell_at (v := .slice o1 n1 m1) hBq 1 rfl
      have q2 := cell_at (v := .slice p1 l1 e1) hBq 2 rfl
      clear hBq
      clear hA
      refine ⟨(by rfl), ?_⟩
      go_simp <;> (try with_reducible rfl)
    refine Rely.Chain.det ?_ (by rfl) (fun T xs wr hA => ?_) ?_
    rotate_left 1
    · have e5 := hA.pre 5 (by kernel_rfl)
      simp only [List.getElem?_toArray, List.getElem?_cons_succ, List.getElem?_cons_zero] at e5
      have hBq : wr.heap[w.heap.size + 2]? = _ := (hA.bl _ hlt_x2 (fun q h => absurd h (Nat.not_lt_zero q))).trans HB_x2.out
      have q0 := cell_at (v := .bool b2) hBq 0 rfl
      have q1 := cell_at (v := .slice o2 n2 m2) hBq 1 rfl
      have q2 := cell_at (v := .slice p2 l2 e2) hBq 2 rfl
      clear hBq
      clear hA
      refine ⟨(by rfl), ?_⟩
      go_simp <;> (try with_reducible rfl)
    refine Rely.Chain.call (fun _ v w => CQ w v (B + C) 32) (fun _ _ _ _ h hb => h.below hb) (fun _ _ _ _ _ h hp => h.keeps hp.keeps) (by rfl) (fun T xs wr hA => ?_) ?_
    · have e16 := hA.tm 1 16 (by rfl) (by rfl)
      have f16 : xs 1 = _ := hA.fa 1 (by rfl)
      (try simp (disch := first | rfl | decide) only [Rely.mask_in] at f16)
      rw [f16] at e16
      clear f16
      have e17 := hA.tm 2 17 (by rfl) (by rfl)
      have f17 : xs 2 = _ := hA.fa 2 (by rfl)
      (try simp (disch := first | rfl | decide) only [Rely.mask_in] at f17)
      rw [f17] at e17
      clear f17
      have hkp := undrewK hA.kp
      have hbw := undrew (hA.be _ (Nat.le_refl _) (fun q h => absurd h (Nat.not_lt_zero q)))
      have g1 := g1.keeps hkp
      have g2 := g2.keeps hkp
      clear hA
      refine ⟨(by rfl), fun K hK => ?_⟩
      go_simp
      refine (hadd_any g1 g2 (by omega) (by omega)).mono ?_
      rintro e wq ⟨v, rfl, c, hb⟩
      exact hK.out _ _ c hb
    refine Rely.Chain.call (fun _ v w => CQ w v (A * (B + C)) 80) (fun _ _ _ _ h hb => h.below hb) (fun _ _ _ _ _ h hp => h.keeps hp.keeps) (by rfl) (fun T xs wr hA => ?_) ?_
    · have e15 := hA.tm 0 15 (by rfl) (by rfl)
      have f15 : xs 0 = _ := hA.fa 0 (by rfl)
      (try simp (disch := first | rfl | decide) only [Rely.mask_in] at f15)
      rw [f15] at e15
      clear f15
      have e18 := hA.tm 3 18 (by rfl) (by rfl)
      have hkp := undrewK hA.kp
      have hbw := undrew (hA.be _ (Nat.le_refl _) (fun q h => absurd h (Nat.not_lt_zero q)))
      have g0 := g0.keeps hkp
      have c_q1 : CQ wr (xs 3) (B + C) 32 := hA.fa 3 (by rfl)
      clear hA
      refine ⟨(by rfl), fun K hK => ?_⟩
      go_simp
      refine (hmul_any g0 c_q1.hq (by omega) (by omega)).mono ?_
      rintro e wq ⟨v, rfl, c, hb⟩
      exact hK.out _ _ c hb
    refine Rely.Chain.det ?_ (by rfl) (fun T xs wr hA => ?_) ?_
    rotate_left 1
    · have e5 := hA.pre 5 (by kernel_rfl)
      simp only [List.getElem?_toArray, List.getElem?_cons_succ, List.getElem?_cons_zero] at e5
      have hBq : wr.heap[w.heap.size + 2]? = _ := (hA.bl _ hlt_x2 (fun q h => absurd h (Nat.not_lt_zero q))).trans HB_x2.out
      have q0 := cell_at (v := .bool b2) hBq 0 rfl
      have q1 := cell_at (v := .slice o2 n2 m2) hBq 1 rfl
      have q2 := cell_at (v := .slice p2 l2 e2) hBq 2 rfl
      clear hBq
      clear hA
      refine ⟨(by rfl), ?_⟩
      go_simp <;> (try with_reducible rfl)
    refine Rely.Chain.det ?_ (by rfl) (fun T xs wr hA => ?_) ?_
    rotate_left 1
    · have e3 := hA.pre 3 (by kernel_rfl)
      simp only [List.getElem?_toArray, List.getElem?_cons_succ, List.getElem?_cons_zero] at e3
      have hBq : wr.heap[w.heap.size]? = _ := (hA.bl _ hlt_x0 (fun q h => absurd h (Nat.not_lt_zero q))).trans HB_x0.out
      have q0 := cell_at (v := .bool b0) hBq 0 rfl
      have q1 := cell_at (v := .slice o0 n0 m0) hBq 1 rfl
      have q2 := cell_at (v := .slice p0 l0 e0) hBq 2 rfl
      clear hBq
      clear hA
      refine ⟨(by rfl), ?_⟩
      go_simp <;> (try with_reducible rfl)
    refine Rely.Chain.call (fun _ v w => CQ w v (C * A) 24) (fun _ _ _ _ h hb => h.below hb) (fun _ _ _ _ _ h hp => h.keeps hp.keeps) (by rfl) (fun T xs wr hA => ?_) ?_
    · have e20 := hA.tm 5 20 (by rfl) (by rfl)
      have f20 : xs 5 = _ := hA.fa 5 (by rfl)
      (try simp (disch := first | rfl | decide) only [Rely.mask_in] at f20)
      rw [f20] at e20
      clear f20
      have e21 := hA.tm 6 21 (by rfl) (by rfl)
      have f21 : xs 6 = _ := hA.fa 6 (by rfl)
      (try simp (disch := first | rfl | decide) only [Rely.mask_in] at f21)
      rw [f21] at e21
      clear f21
      have hkp := undrewK hA.kp
      have hbw := undrew (hA.be _ (Nat.le_refl _) (fun q h => absurd h (Nat.not_lt_zero q)))
      have g2 := g2.keeps hkp
      have g0 := g0.keeps hkp
      clear hA
      refine ⟨(by rfl), fun K hK => ?_⟩
      go_simp
      refine (hmul_any g2 g0 (by omega) (by omega)).mono ?_
      rintro e wq ⟨v, rfl, c, hb⟩
      exact hK.out _ _ c hb
    refine Rely.Chain.det ?_ (by rfl) (fun T xs wr hA => ?_) ?_
    rotate_left 1
    · have e3 := hA.pre 3 (by kernel_rfl)
      simp only [List.getElem?_toArray, List.getElem?_cons_succ, List.getElem?_cons_zero] at e3
      have hBq : wr.heap[w.heap.size]? = _ := (hA.bl _ hlt_x0 (fun q h => absurd h (Nat.not_lt_zero q))).trans HB_x0.out
      have q0 := cell_at (v := .bool b0) hBq 0 rfl
      have q1 := cell_at (v := .slice o0 n0 m0) hBq 1 rfl
      have q2 := cell_at (v := .slice p0 l0 e0) hBq 2 rfl
      clear hBq
      clear hA
      refine ⟨(by rfl), ?_⟩
      go_simp <;> (try with_reducible rfl)
    refine Rely.Chain.det ?_ (by rfl) (fun T xs wr hA => ?_) ?_
    rotate_left 1
    · have e4 := hA.pre 4 (by kernel_rfl)
      simp only [List.getElem?_toArray, List.getElem?_cons_succ, List.getElem?_cons_zero] at e4
      have hBq : wr.heap[w.heap.size + 1]? = _ := (hA.bl _ hlt_x1 (fun q h => absurd h (Nat.not_lt_zero q))).trans HB_x1.out
      have q0 := cell_at (v := .bool b1) hBq 0 rfl
      have q1 := cell_at (v := .slice o1 n1 m1) hBq 1 rfl
      have q2 := cell_at (v := .slice p1 l1 e1) hBq 2 rfl
      clear hBq
      clear hA
      refine ⟨(by rfl), ?_⟩
      go_simp <;> (try with_reducible rfl)
    refine Rely.Chain.call (fun _ v w => CQ w v (A * B) 24) (fun _ _ _ _ h hb => h.below hb) (fun _ _ _ _ _ h hp => h.keeps hp.keeps) (by rfl) (fun T xs wr hA => ?_) ?_
    · have e23 := hA.tm 8 23 (by rfl) (by rfl)
      have f23 : xs 8 = _ := hA.fa 8 (by rfl)
      (try simp (disch := first | rfl | decide) only [Rely.mask_in] at f23)
      rw [f23] at e23
      clear f23
      have e24 := hA.tm 9 24 (by rfl) (by rfl)
      have f24 : xs 9 = _ := hA.fa 9 (by rfl)
      (try simp (disch := first | rfl | decide) only [Rely.mask_in] at f24)
      rw [f24] at e24
      clear f24
      have hkp := undrewK hA.kp
      have hbw := undrew (hA.be _ (Nat.le_refl _) (fun q h => absurd h (Nat.not_lt_zero q)))
      have g0 := g0.keeps hkp
      have g1 := g1.keeps hkp
      clear hA
      refine ⟨(by rfl), fun K hK => ?_⟩
      go_simp
      refine (hmul_any g0 g1 (by omega) (by omega)).mono ?_
      rintro e wq ⟨v, rfl, c, hb⟩
      exact hK.out _ _ c hb
    refine Rely.Chain.call (fun _ v w => CQ w v (C * A + A * B) 152) (fun _ _ _ _ h hb => h.below hb) (fun _ _ _ _ _ h hp => h.keeps hp.keeps) (by rfl) (fun T xs wr hA => ?_) ?_
    · have e22 := hA.tm 7 22 (by rfl) (by rfl)
      have e25 := hA.tm 10 25 (by rfl) (by rfl)
      have hkp := undrewK hA.kp
      have hbw := undrew (hA.be _ (Nat.le_refl _) (fun q h => absurd h (Nat.not_lt_zero q)))
      have c_q3 : CQ wr (xs 7) (C * A) 24 := hA.fa 7 (by rfl)
      have c_q4 : CQ wr (xs 10) (A * B) 24 := hA.fa 10 (by rfl)
      clear hA
      refine ⟨(by rfl), fun K hK => ?_⟩
      go_simp
      refine (hadd_any c_q3.hq c_q4.hq (by omega) (by omega)).mono ?_
      rintro e wq ⟨v, rfl, c, hb⟩
      exact hK.out _ _ c hb
    refine Rely.Chain.call (fun _ v _ => v = .bool true) (fun _ _ _ _ h _ => h) (fun _ _ _ _ _ h _ => h) (by rfl) (fun T xs wr hA => ?_) ?_
    · have e19 := hA.tm 4 19 (by rfl) (by rfl)
      have e26 := hA.tm 11 26 (by rfl) (by rfl)
      have hkp := undrewK hA.kp
      have hbw := undrew (hA.be _ (Nat.le_refl _) (fun q h => absurd h (Nat.not_lt_zero q)))
      have c_q2 : CQ wr (xs 4) (A * (B + C)) 80 := hA.fa 4 (by rfl)
      have c_q5 : CQ wr (xs 11) (C * A + A * B) 152 := hA.fa 11 (by rfl)
      clear hA
      refine ⟨(by rfl), fun K hK => ?_⟩
      go_simp
      refine (qsame_true c_q2 (c_q5.to HX.out) (by omega) (by omega)).mono ?_
      rintro e wq ⟨rfl, hb⟩
      exact hK.out _ _ rfl hb
    refine Rely.Chain.det ?_ (by rfl) (fun T xs wr hA => ?_) ?_
    rotate_left 1
    · have e27 := hA.tm 12 27 (by rfl) (by rfl)
      have f27 : xs 12 = (.bool true) := hA.fa 12 (by rfl)
      rw [f27] at e27
      clear f27
      clear hA
      refine ⟨(by rfl), ?_⟩
      go_simp <;> (try with_reducible rfl)
    refine Rely.Chain.det ?_ (by rfl) (fun T xs wr hA => ?_) ?_
    rotate_left 1
    · have e28 := hA.tm 13 28 (by rfl) (by rfl)
      have f28 : xs 13 = _ := hA.fa 13 (by rfl)
      (try simp (disch := first | rfl | decide) only [Rely.mask_in] at f28)
      rw [f28] at e28
      clear f28
      clear hA
      refine ⟨(by rfl), ?_⟩
      go_simp <;> (try with_reducible rfl)
    refine Rely.Chain.det ?_ (by rfl) (fun T xs wr hA => ?_) ?_
    rotate_left 1
    · have e29 := hA.tm 14 29 (by rfl) (by rfl)
      have f29 : xs 14 = _ := hA.fa 14 (by rfl)
      (try simp (disch := first | rfl | decide) only [Rely.mask_in] at f29)
      rw [f29] at e29
      clear f29
      have e3 := hA.pre 3 (by kernel_rfl)
      simp only [List.getElem?_toArray, List.getElem?_cons_succ, List.getElem?_cons_zero] at e3
      have hBq : wr.heap[w.heap.size]? = _ := (hA.bl _ hlt_x0 (fun q h => absurd h (Nat.not_lt_zero q))).trans HB_x0.out
      have q0 := cell_at (v := .bool b0) hBq 0 rfl
      have q1 := cell_at (v := .slice o0 n0 m0) hBq 1 rfl
      have q2 := cell_at (v := .slice p0 l0 e0) hBq 2 rfl
      clear hBq
      clear hA
      refine ⟨((Rely.wanted_at rfl (by rfl) e29).trans (by rfl)), ?_⟩
      go_simp <;> (try with_reducible rfl)
    refine Rely.Chain.det ?_ (by rfl) (fun T xs wr hA => ?_) ?_
    rotate_left 1
    · have e29 := hA.tm 14 29 (by rfl) (by rfl)
      have f29 : xs 14 = _ := hA.fa 14 (by rfl)
      (try simp (disch := first | rfl | decide) only [Rely.mask_in] at f29)
      rw [f29] at e29
      clear f29
      have e4 := hA.pre 4 (by kernel_rfl)
      simp only [List.getElem?_toArray, List.getElem?_cons_succ, List.getElem?_cons_zero] at e4
      have hBq : wr.heap[w.heap.size + 1]? = _ := (hA.bl _ hlt_x1 (fun q h => absurd h (Nat.not_lt_zero q))).trans HB_x1.out
      have q0 := cell_at (v := .bool b1) hBq 0 rfl
      have q1 := cell_at (v := .slice o1 n1 m1) hBq 1 rfl
      have q2 := cell_at (v := .slice p1 l1 e1) hBq 2 rfl
      clear hBq
      clear hA
      refine ⟨((Rely.wanted_at rfl (by rfl) e29).trans (by rfl)), ?_⟩
      go_simp <;> (try with_reducible rfl)
    refine Rely.Chain.call (fun _ v w => CQ w v (A - B) 32) (fun _ _ _ _ h hb => h.below hb) (fun _ _ _ _ _ h hp => h.keeps hp.keeps) (by rfl) (fun T xs wr hA => ?_) ?_
    · have e29 := hA.tm 14 29 (by rfl) (by rfl)
      have f29 : xs 14 = _ := hA.fa 14 (by rfl)
      (try simp (disch := first | rfl | decide) only [Rely.mask_in] at f29)
      rw [f29] at e29
      clear f29
      have e30 := hA.tm 15 30 (by rfl) (by rfl)
      have f30 : xs 15 = _ := hA.fa 15 (by rfl)
      (try simp (disch := first | rfl | decide) only [Rely.mask_in] at f30)
      rw [f30] at e30
      clear f30
      have e31 := hA.tm 16 31 (by rfl) (by rfl)
      have f31 : xs 16 = _ := hA.fa 16 (by rfl)
      (try simp (disch := first | rfl | decide) only [Rely.mask_in] at f31)
      rw [f31] at e31
      clear f31
      have hkp := undrewK hA.kp
      have hbw := undrew (hA.be _ (Nat.le_refl _) (fun q h => absurd h (Nat.not_lt_zero q)))
      have g0 := g0.keeps hkp
      have g1 := g1.keeps hkp
      clear hA
      refine ⟨((Rely.wanted_at rfl (by rfl) e29).trans (by rfl)), fun K hK => ?_⟩
      clear e29
      go_simp
      refine (hsub_any g0 g1 (by omega) (by omega)).mono ?_
      rintro e wq ⟨v, rfl, c, hb⟩
      exact hK.out _ _ c hb
    refine Rely.Chain.det ?_ (by rfl) (fun T xs wr hA => ?_) ?_
    rotate_left 1
    · have e29 := hA.tm 14 29 (by rfl) (by rfl)
      have f29 : xs 14 = _ := hA.fa 14 (by rfl)
      (try simp (disch := first | rfl | decide) only [Rely.mask_in] at f29)
      rw [f29] at e29
      clear f29
      have e4 := hA.pre 4 (by kernel_rfl)
      simp only [List.getElem?_toArray, List.getElem?_cons_succ, List.getElem?_cons_zero] at e4
      have hBq : wr.heap[w.heap.size + 1]? = _ := (hA.bl _ hlt_x1 (fun q h => absurd h (Nat.not_lt_zero q))).trans HB_x1.out
      have q0 := cell_at (v := .bool b1) hBq 0 rfl
      have q1 := cell_at (v := .slice o1 n1 m1) hBq 1 rfl
      have q2 := cell_at (v := .slice p1 l1 e1) hBq 2 rfl
      clear hBq
      clear hA
      refine ⟨((Rely.wanted_at rfl (by rfl) e29).trans (by rfl)), ?_⟩
      go_simp <;> (try with_reducible rfl)
    refine Rely.Chain.call (fun _ v w => CQ w v (A - B + B) 116) (fun _ _ _ _ h hb => h.below hb) (fun _ _ _ _ _ h hp => h.keeps hp.keeps) (by rfl) (fun T xs wr hA => ?_) ?_
    · have e29 := hA.tm 14 29 (by rfl) (by rfl)
      have f29 : xs 14 = _ := hA.fa 14 (by rfl)
      (try simp (disch := first | rfl | decide) only [Rely.mask_in] at f29)
      rw [f29] at e29
      clear f29
      have e32 := hA.tm 17 32 (by rfl) (by rfl)
      have e33 := hA.tm 18 33 (by rfl) (by rfl)
      have f33 : xs 18 = _ := hA.fa 18 (by rfl)
      (try simp (disch := first | rfl | decide) only [Rely.mask_in] at f33)
      rw [f33] at e33
      clear f33
      have hkp := undrewK hA.kp
      have hbw := undrew (hA.be _ (Nat.le_refl _) (fun q h => absurd h (Nat.not_lt_zero q)))
      have c_q6 : CQ wr (xs 17) (A - B) 32 := hA.fa 17 (by rfl)
      have g1 := g1.keeps hkp
      clear hA
      refine ⟨((Rely.wanted_at rfl (by rfl) e29).trans (by rfl)), fun K hK => ?_⟩
      clear e29
      go_simp
      refine (hadd_any c_q6.hq g1 (by omega) (by omega)).mono ?_
      rintro e wq ⟨v, rfl, c, hb⟩
      exact hK.out _ _ c hb
    refine Rely.Chain.det ?_ (by rfl) (fun T xs wr hA => ?_) ?_
    rotate_left 1
    · have e29 := hA.tm 14 29 (by rfl) (by rfl)
      have f29 : xs 14 = _ := hA.fa 14 (by rfl)
      (try simp (disch := first | rfl | decide) only [Rely.mask_in] at f29)
      rw [f29] at e29
      clear f29
      have e3 := hA.pre 3 (by kernel_rfl)
      simp only [List.getElem?_toArray, List.getElem?_cons_succ, List.getElem?_cons_zero] at e3
      have hBq : wr.heap[w.heap.size]? = _ := (hA.bl _ hlt_x0 (fun q h => absurd h (Nat.not_lt_zero q))).trans HB_x0.out
      have q0 := cell_at (v := .bool b0) hBq 0 rfl
      have q1 := cell_at (v := .slice o0 n0 m0) hBq 1 rfl
      have q2 := cell_at (v := .slice p0 l0 e0) hBq 2 rfl
      clear hBq
      clear hA
      refine ⟨((Rely.wanted_at rfl (by rfl) e29).trans (by rfl)), ?_⟩
      go_simp <;> (try with_reducible rfl)
    refine Rely.Chain.det ?_ (by rfl) (fun T xs wr hA => ?_) ?_
    rotate_left 1
    · have e29 := hA.tm 14 29 (by rfl) (by rfl)
      have f29 : xs 14 = _ := hA.fa 14 (by rfl)
      (try simp (disch := first | rfl | decide) only [Rely.mask_in] at f29)
      rw [f29] at e29
      clear f29
      have e5 := hA.pre 5 (by kernel_rfl)
      simp only [List.getElem?_toArray, List.getElem?_cons_succ, List.getElem?_cons_zero] at e5
      have hBq : wr.heap[w.heap.size + 2]? = _ := (hA.bl _ hlt_x2 (fun q h => absurd h (Nat.not_lt_zero q))).trans HB_x2.out
      have q0 := cell_at (v := .bool b2) hBq 0 rfl
      have q1 := cell_at (v := .slice o2 n2 m2) hBq 1 rfl
      have q2 := cell_at (v := .slice p2 l2 e2) hBq 2 rfl
      clear hBq
      clear hA
      refine ⟨((Rely.wanted_at rfl (by rfl) e29).trans (by rfl)), ?_⟩
      go_simp <;> (try with_reducible rfl)
    refine Rely.Chain.det ?_ (by rfl) (fun T xs wr hA => ?_) ?_
    rotate_left 1
    · have e29 := hA.tm 14 29 (by rfl) (by rfl)
      have f29 : xs 14 = _ := hA.fa 14 (by rfl)
      (try simp (disch := first | rfl | decide) only [Rely.mask_in] at f29)
      rw [f29] at e29
      clear f29
      have e5 := hA.pre 5 (by kernel_rfl)
      simp only [List.getElem?_toArray, List.getElem?_cons_succ, List.getElem?_cons_zero] at e5
      have hBq : wr.heap[w.heap.size + 2]? = _ := (hA.bl _ hlt_x2 (fun q h => absurd h (Nat.not_lt_zero q))).trans HB_x2.out
      have q0 := cell_at (v := .bool b2) hBq 0 rfl
      have q1 := cell_at (v := .slice o2 n2 m2) hBq 1 rfl
      have q2 := cell_at (v := .slice p2 l2 e2) hBq 2 rfl
      clear hBq
      clear hA
      refine ⟨((Rely.wanted_at rfl (by rfl) e29).trans (by rfl)), ?_⟩
      go_simp <;> (try with_reducible rfl)
    refine Rely.Chain.call (fun _ v w => CQ w v (C - C) 32) (fun _ _ _ _ h hb => h.below hb) (fun _ _ _ _ _ h hp => h.keeps hp.keeps) (by rfl) (fun T xs wr hA => ?_) ?_
    · have e29 := hA.tm 14 29 (by rfl) (by rfl)
      have f29 : xs 14 = _ := hA.fa 14 (by rfl)
      (try simp (disch := first | rfl | decide) only [Rely.mask_in] at f29)
      rw [f29] at e29
      clear f29
      have e36 := hA.tm 21 36 (by rfl) (by rfl)
      have f36 : xs 21 = _ := hA.fa 21 (by rfl)
      (try simp (disch := first | rfl | decide) only [Rely.mask_in] at f36)
      rw [f36] at e36
      clear f36
      have e37 := hA.tm 22 37 (by rfl) (by rfl)
      have f37 : xs 22 = _ := hA.fa 22 (by rfl)
      (try simp (disch := first | rfl | decide) only [Rely.mask_in] at f37)
      rw [f37] at e37
      clear f37
      have hkp := undrewK hA.kp
      have hbw := undrew (hA.be _ (Nat.le_refl _) (fun q h => absurd h (Nat.not_lt_zero q)))
      have g2 := g2.keeps hkp
      clear hA
      refine ⟨((Rely.wanted_at rfl (by rfl) e29).trans (by rfl)), fun K hK => ?_⟩
      clear e29
      go_simp
      refine (hsub_any g2 g2 (by omega) (by omega)).mono ?_
      rintro e wq ⟨v, rfl, c, hb⟩
      exact hK.out _ _ c hb
    refine Rely.Chain.call (fun _ v w => CQ w v (A + (C - C)) 116) (fun _ _ _ _ h hb => h.below hb) (fun _ _ _ _ _ h hp => h.keeps hp.keeps) (by rfl) (fun T xs wr hA => ?_) ?_
    · have e29 := hA.tm 14 29 (by rfl) (by rfl)
      have f29 : xs 14 = _ := hA.fa 14 (by rfl)
      (try simp (disch := first | rfl | decide) only [Rely.mask_in] at f29)
      rw [f29] at e29
      clear f29
      have e35 := hA.tm 20 35 (by rfl) (by rfl)
      have f35 : xs 20 = _ := hA.fa 20 (by rfl)
      (try simp (disch := first | rfl | decide) only [Rely.mask_in] at f35)
      rw [f35] at e35
      clear f35
      have e38 := hA.tm 23 38 (by rfl) (by rfl)
      have hkp := undrewK hA.kp
      have hbw := undrew (hA.be _ (Nat.le_refl _) (fun q h => absurd h (Nat.not_lt_zero q)))
      have g0 := g0.keeps hkp
      have c_q8 : CQ wr (xs 23) (C - C) 32 := hA.fa 23 (by rfl)
      clear hA
      refine ⟨((Rely.wanted_at rfl (by rfl) e29).trans (by rfl)), fun K hK => ?_⟩
      clear e29
      go_simp
      refine (hadd_any g0 c_q8.hq (by omega) (by omega)).mono ?_
      rintro e wq ⟨v, rfl, c, hb⟩
      exact hK.out _ _ c hb
    refine Rely.Chain.call (fun _ v _ => v = .bool true) (fun _ _ _ _ h _ => h) (fun _ _ _ _ _ h _ => h) (by rfl) (fun T xs wr hA => ?_) ?_
    · have e29 := hA.tm 14 29 (by rfl) (by rfl)
      have f29 : xs 14 = _ := hA.fa 14 (by rfl)
      (try simp (disch := first | rfl | decide) only [Rely.mask_in] at f29)
      rw [f29] at e29
      clear f29
      have e34 := hA.tm 19 34 (by rfl) (by rfl)
      have e39 := hA.tm 24 39 (by rfl) (by rfl)
      have hkp := undrewK hA.kp
      have hbw := undrew (hA.be _ (Nat.le_refl _) (fun q h => absurd h (Nat.not_lt_zero q)))
      have c_q7 : CQ wr (xs 19) (A - B + B) 116 := hA.fa 19 (by rfl)
      have c_q9 : CQ wr (xs 24) (A + (C - C)) 116 := hA.fa 24 (by rfl)
      clear hA
      refine ⟨((Rely.wanted_at rfl (by rfl) e29).trans (by rfl)), fun K hK => ?_⟩
      clear e29
      go_simp
      refine (qsame_true c_q7 (c_q9.to HY.out) (by omega) (by omega)).mono ?_
      rintro e wq ⟨rfl, hb⟩
      exact hK.out _ _ rfl hb
    refine Rely.Chain.det ?_ (by rfl) (fun T xs wr hA => ?_) ?_
    rotate_left 1
    · have e29 := hA.tm 14 29 (by rfl) (by rfl)
      have f29 : xs 14 = _ := hA.fa 14 (by rfl)
      (try simp (disch := first | rfl | decide) only [Rely.mask_in] at f29)
      rw [f29] at e29
      clear f29
      have e40 := hA.tm 25 40 (by rfl) (by rfl)
      have f40 : xs 25 = (.bool true) := hA.fa 25 (by rfl)
      rw [f40] at e40
      clear f40
      clear hA
      refine ⟨((Rely.wanted_at rfl (by rfl) e29).trans (by rfl)), ?_⟩
      go_simp <;> (try with_reducible rfl)
    refine Rely.Chain.det ?_ (by rfl) (fun T xs wr hA => ?_) ?_
    rotate_left 1
    · have e29 := hA.tm 14 29 (by rfl) (by rfl)
      have f29 : xs 14 = _ := hA.fa 14 (by rfl)
      (try simp (disch := first | rfl | decide) only [Rely.mask_in] at f29)
      rw [f29] at e29
      clear f29
      have e41 := hA.tm 26 41 (by rfl) (by rfl)
      have f41 : xs 26 = _ := hA.fa 26 (by rfl)
      (try simp (disch := first | rfl | decide) only [Rely.mask_in] at f41)
      rw [f41] at e41
      clear f41
      clear hA
      refine ⟨(by rfl), ?_⟩
      go_simp <;> (try with_reducible rfl)
    refine Rely.Chain.done (fun xs wx4 hL => ?_)
    obtain ⟨⟨hbe, hbl, hkp0⟩, hf, hp, hn⟩ := hL
    have f0 : xs 0 = _ := hf 0 (by decide)
    (try simp (disch := first | rfl | decide) only [Rely.mask_in] at f0)
    have f1 : xs 1 = _ := hf 1 (by decide)
    (try simp (disch := first | rfl | decide) only [Rely.mask_in] at f1)
    have f2 : xs 2 = _ := hf 2 (by decide)
    (try simp (disch := first | rfl | decide) only [Rely.mask_in] at f2)
    have c_q1 : CQ wx4 (xs 3) (B + C) 32 := hf 3 (by decide)
    have c_q2 : CQ wx4 (xs 4) (A * (B + C)) 80 := hf 4 (by decide)
    have f5 : xs 5 = _ := hf 5 (by decide)
    (try simp (disch := first | rfl | decide) only [Rely.mask_in] at f5)
    have f6 : xs 6 = _ := hf 6 (by decide)
    (try simp (disch := first | rfl | decide) only [Rely.mask_in] at f6)
    have c_q3 : CQ wx4 (xs 7) (C * A) 24 := hf 7 (by decide)
    have f8 : xs 8 = _ := hf 8 (by decide)
    (try simp (disch := first | rfl | decide) only [Rely.mask_in] at f8)
    have f9 : xs 9 = _ := hf 9 (by decide)
    (try simp (disch := first | rfl | decide) only [Rely.mask_in] at f9)
    have c_q4 : CQ wx4 (xs 10) (A * B) 24 := hf 10 (by decide)
    have c_q5 : CQ wx4 (xs 11) (C * A + A * B) 152 := hf 11 (by decide)
    have f12 : xs 12 = (.bool true) := hf 12 (by decide)
    have f13 : xs 13 = _ := hf 13 (by decide)
    (try simp (disch := first | rfl | decide) only [Rely.mask_in] at f13)
    have f14 : xs 14 = _ := hf 14 (by decide)
    (try simp (disch := first | rfl | decide) only [Rely.mask_in] at f14)
    have f15 : xs 15 = _ := hf 15 (by decide)
    (try simp (disch := first | rfl | decide) only [Rely.mask_in] at f15)
    have f16 : xs 16 = _ := hf 16 (by decide)
    (try simp (disch := first | rfl | decide) only [Rely.mask_in] at f16)
    have c_q6 : CQ wx4 (xs 17) (A - B) 32 := hf 17 (by decide)
    have f18 : xs 18 = _ := hf 18 (by decide)
    (try simp (disch := first | rfl | decide) only [Rely.mask_in] at f18)
    have c_q7 : CQ wx4 (xs 19) (A - B + B) 116 := hf 19 (by decide)
    have f20 : xs 20 = _ := hf 20 (by decide)
    (try simp (disch := first | rfl | decide) only [Rely.mask_in] at f20)
    have f21 : xs 21 = _ := hf 21 (by decide)
    (try simp (disch := first | rfl | decide) only [Rely.mask_in] at f21)
    have f22 : xs 22 = _ := hf 22 (by decide)
    (try simp (disch := first | rfl | decide) only [Rely.mask_in] at f22)
    have c_q8 : CQ wx4 (xs 23) (C - C) 32 := hf 23 (by decide)
    have c_q9 : CQ wx4 (xs 24) (A + (C - C)) 116 := hf 24 (by decide)
    have f25 : xs 25 = (.bool true) := hf 25 (by decide)
    have f26 : xs 26 = _ := hf 26 (by decide)
    (try simp (disch := first | rfl | decide) only [Rely.mask_in] at f26)
    have f27 : xs 27 = _ := hf 27 (by decide)
    (try simp (disch := first | rfl | decide) only [Rely.mask_in] at f27)
    clear hf hp hn
    refine Rely.rest_done ?_
    simp only [Rely.fill, List.setIfInBounds_toArray, List.set_cons_zero, List.set_cons_succ, f0, f1, f2, f5, f6, f8, f9, f12, f13, f14, f15, f16, f18, f20, f21, f22, f25, f26, f27]
    clear f0 f1 f2 f5 f6 f8 f9 f12 f13 f14 f15 f16 f18 f20 f21 f22 f25 f26 f27
    generalize xs 3 = v_q1 at c_q1 ⊢
    generalize xs 4 = v_q2 at c_q2 ⊢
    generalize xs 7 = v_q3 at c_q3 ⊢
    generalize xs 10 = v_q4 at c_q4 ⊢
    generalize xs 11 = v_q5 at c_q5 ⊢
    generalize xs 17 = v_q6 at c_q6 ⊢
    generalize xs 19 = v_q7 at c_q7 ⊢
    generalize xs 23 = v_q8 at c_q8 ⊢
    generalize xs 24 = v_q9 at c_q9 ⊢
    clear xs
    obtain ⟨b_q1, o_q1, l_q1, k_q1, p_q1, m_q1, u_q1, rfl⟩ := c_q1.shape
    obtain ⟨b_q2, o_q2, l_q2, k_q2, p_q2, m_q2, u_q2, rfl⟩ := c_q2.shape
    obtain ⟨b_q3, o_q3, l_q3, k_q3, p_q3, m_q3, u_q3, rfl⟩ := c_q3.shape
    obtain ⟨b_q4, o_q4, l_q4, k_q4, p_q4, m_q4, u_q4, rfl⟩ := c_q4.shape
    obtain ⟨b_q5, o_q5, l_q5, k_q5, p_q5, m_q5, u_q5, rfl⟩ := c_q5.shape
    obtain ⟨b_q6, o_q6, l_q6, k_q6, p_q6, m_q6, u_q6, rfl⟩ := c_q6.shape
    obtain ⟨b_q7, o_q7, l_q7, k_q7, p_q7, m_q7, u_q7, rfl⟩ := c_q7.shape
    obtain ⟨b_q8, o_q8, l_q8, k_q8, p_q8, m_q8, u_q8, rfl⟩ := c_q8.shape
    obtain ⟨b_q9, o_q9, l_q9, k_q9, p_q9, m_q9, u_q9, rfl⟩ := c_q9.shape
    have hbx := undrew (hbe _ (Nat.le_refl _) (fun q h => absurd h (Nat.not_lt_zero q)))
    clear hbe hbl hkp0
    replace g0 := g0.below hbx
    replace g1 := g1.below hbx
    replace g2 := g2.below hbx
    replace hbt := hbt.trans (hbx.mono hbt.size)
    replace HB_x0 := Lib.hid ((hbx.block _ (lt_of_block HB_x0.out)).trans HB_x0.out)
    replace HB_x1 := Lib.hid ((hbx.block _ (lt_of_block HB_x1.out)).trans HB_x1.out)
    replace HB_x2 := Lib.hid ((hbx.block _ (lt_of_block HB_x2.out)).trans HB_x2.out)
    clear hbx
    replace x00 := cell_at (v := .bool b0) HB_x0.out 0 rfl
    replace x01 := cell_at (v := .slice o0 n0 m0) HB_x0.out 1 rfl
    replace x02 := cell_at (v := .slice p0 l0 e0) HB_x0.out 2 rfl
    replace x10 := cell_at (v := .bool b1) HB_x1.out 0 rfl
    replace x11 := cell_at (v := .slice o1 n1 m1) HB_x1.out 1 rfl
    replace x12 := cell_at (v := .slice p1 l1 e1) HB_x1.out 2 rfl
    replace x20 := cell_at (v := .bool b2) HB_x2.out 0 rfl
    replace x21 := cell_at (v := .slice o2 n2 m2) HB_x2.out 1 rfl
    replace x22 := cell_at (v := .slice p2 l2 e2) HB_x2.out 2 rfl
    clear hlt_x0 hlt_x1 hlt_x2
    go_wp2_with fail
    have hlt_x0 := lt_of_block HB_x0.out
    have hlt_x1 := lt_of_block HB_x1.out
    have hlt_x2 := lt_of_block HB_x2.out
    refine Rely.region (by kernel_rfl) [[], [], [0, 1], [], [], [0, 1, 2, 3, 4], [0, 1, 2, 3, 4, 5], [0, 1, 2, 3, 4, 5, 6], [0, 1, 2, 3, 4, 5, 6, 7], [0, 1, 2, 3, 4, 5, 6, 7, 8], [0, 1, 2, 3, 4, 5, 6, 7, 8], [0, 1, 2, 3, 4, 5, 6, 7, 8, 9, 10], [0, 1, 2, 3, 4, 5, 6, 7, 8], [0, 1, 2, 3, 4, 5, 6, 7, 8], [0, 1, 2, 3, 4, 5, 6, 7, 8, 9, 10, 11, 12, 13], [0, 1, 2, 3, 4, 5, 6, 7, 8], [0, 1, 2, 3, 4, 5, 6, 7, 8], [0, 1, 2, 3, 4, 5, 6, 7, 8, 9, 10, 11, 12, 13, 14, 15, 16], [0, 1, 2, 3, 4, 5, 6, 7, 8, 9, 10, 11, 12, 13, 14, 15, 16, 17], [0, 1, 2, 3, 4, 5, 6, 7, 8, 9, 10, 11, 12, 13, 14, 15, 16, 17, 18], [0, 1, 2, 3, 4, 5, 6, 7, 8, 9, 10, 11, 12, 13, 14, 15, 16, 17, 18, 19]] [] [] (fun q => [].getD q 0) 0 21 (by kernel_rfl) (by kernel_rfl) (fun q h => absurd h (Nat.not_lt_zero q)) (fun q _ h => absurd h (Nat.not_lt_zero q)) ?_
    refine Rely.Chain.det ?_ (by rfl) (fun T xs wr hA => ?_) ?_
    rotate_left 1
    · have e3 := hA.pre 3 (by kernel_rfl)
      simp only [List.getElem?_toArray, List.getElem?_cons_succ, List.getElem?_cons_zero] at e3
      have hBq : wr.heap[w.heap.size]? = _ := (hA.bl _ hlt_x0 (fun q h => absurd h (Nat.not_lt_zero q))).trans HB_x0.out
      have q0 := cell_at (v := .bool b0) hBq 0 rfl
      have q1 := cell_at (v := .slice o0 n0 m0) hBq 1 rfl
      have q2 := cell_at (v := .slice p0 l0 e0) hBq 2 rfl
      clear hBq
      clear hA
      refine ⟨(by rfl), ?_⟩
      go_simp <;> (try with_reducible rfl)
    refine Rely.Chain.det ?_ (by rfl) (fun T xs wr hA => ?_) ?_
    rotate_left 1
    · have e4 := hA.pre 4 (by kernel_rfl)
      simp only [List.getElem?_toArray, List.getElem?_cons_succ, List.getElem?_cons_zero] at e4
      have hBq : wr.heap[w.heap.size + 1]? = _ := (hA.bl _ hlt_x1 (fun q h => absurd h (Nat.not_lt_zero q))).trans HB_x1.out
      have q0 := cell_at (v := .bool b1) hBq 0 rfl
      have q1 := cell_at (v := .slice o1 n1 m1) hBq 1 rfl
      have q2 := cell_at (v := .slice p1 l1 e1) hBq 2 rfl
      clear hBq
      clear hA
      refine ⟨(by rfl), ?_⟩
      go_simp <;> (try with_reducible rfl)
    refine Rely.Chain.call (fun _ v _ => v = .int .i64 (cmpQ A B)) (fun _ _ _ _ h _ => h) (fun _ _ _ _ _ h _ => h) (by rfl) (fun T xs wr hA => ?_) ?_
    · have e43 := hA.tm 0 43 (by rfl) (by rfl)
      have f43 : xs 0 = _ := hA.fa 0 (by rfl)
      (try simp (disch := first | rfl | decide) only [Rely.mask_in] at f43)
      rw [f43] at e43
      clear f43
      have e44 := hA.tm 1 44 (by rfl) (by rfl)
      have f44 : xs 1 = _ := hA.fa 1 (by rfl)
      (try simp (disch := first | rfl | decide) only [Rely.mask_in] at f44)
      rw [f44] at e44
      clear f44
      have hkp := undrewK hA.kp
      have hbw := undrew (hA.be _ (Nat.le_refl _) (fun q h => absurd h (Nat.not_lt_zero q)))
      have g0 := g0.keeps hkp
      have g1 := g1.keeps hkp
      clear hA
      refine ⟨(by rfl), fun K hK => ?_⟩
      go_simp
      refine (hcmp_any g0 g1 (by omega) (by omega)).mono ?_
      rintro e wq ⟨rfl, hb⟩
      exact hK.out _ _ rfl hb
    refine Rely.Chain.det ?_ (by rfl) (fun T xs wr hA => ?_) ?_
    rotate_left 1
    · have e4 := hA.pre 4 (by kernel_rfl)
      simp only [List.getElem?_toArray, List.getElem?_cons_succ, List.getElem?_cons_zero] at e4
      have hBq : wr.heap[w.heap.size + 1]? = _ := (hA.bl _ hlt_x1 (fun q h => absurd h (Nat.not_lt_zero q))).trans HB_x1.out
      have q0 := cell_at (v := .bool b1) hBq 0 rfl
      have q1 := cell_at (v := .slice o1 n1 m1) hBq 1 rfl
      have q2 := cell_at (v := .slice p1 l1 e1) hBq 2 rfl
      clear hBq
      clear hA
      refine ⟨(by rfl), ?_⟩
      go_simp <;> (try with_reducible rfl)
    refine Rely.Chain.det ?_ (by rfl) (fun T xs wr hA => ?_) ?_
    rotate_left 1
    · have e3 := hA.pre 3 (by kernel_rfl)
      simp only [List.getElem?_toArray, List.getElem?_cons_succ, List.getElem?_cons_zero] at e3
      have hBq : wr.heap[w.heap.size]? = _ := (hA.bl _ hlt_x0 (fun q h => absurd h (Nat.not_lt_zero q))).trans HB_x0.out
      have q0 := cell_at (v := .bool b0) hBq 0 rfl
      have q1 := cell_at (v := .slice o0 n0 m0) hBq 1 rfl
      have q2 := cell_at (v := .slice p0 l0 e0) hBq 2 rfl
      clear hBq
      clear hA
      refine ⟨(by rfl), ?_⟩
      go_simp <;> (try with_reducible rfl)
    refine Rely.Chain.call (fun _ v _ => v = .int .i64 (cmpQ B A)) (fun _ _ _ _ h _ => h) (fun _ _ _ _ _ h _ => h) (by rfl) (fun T xs wr hA => ?_) ?_
    · have e46 := hA.tm 3 46 (by rfl) (by rfl)
      have f46 : xs 3 = _ := hA.fa 3 (by rfl)
      (try simp (disch := first | rfl | decide) only [Rely.mask_in] at f46)
      rw [f46] at e46
      clear f46
      have e47 := hA.tm 4 47 (by rfl) (by rfl)
      have f47 : xs 4 = _ := hA.fa 4 (by rfl)
      (try simp (disch := first | rfl | decide) only [Rely.mask_in] at f47)
      rw [f47] at e47
      clear f47
      have hkp := undrewK hA.kp
      have hbw := undrew (hA.be _ (Nat.le_refl _) (fun q h => absurd h (Nat.not_lt_zero q)))
      have g1 := g1.keeps hkp
      have g0 := g0.keeps hkp
      clear hA
      refine ⟨(by rfl), fun K hK => ?_⟩
      go_simp
      refine (hcmp_any g1 g0 (by omega) (by omega)).mono ?_
      rintro e wq ⟨rfl, hb⟩
      exact hK.out _ _ rfl hb
    refine Rely.Chain.det ?_ (by rfl) (fun T xs wr hA => ?_) ?_
    rotate_left 1
    · have e48 := hA.tm 5 48 (by rfl) (by rfl)
      have f48 : xs 5 = (.int .i64 (cmpQ B A)) := hA.fa 5 (by rfl)
      rw [f48] at e48
      clear f48
      clear hA
      refine ⟨(by rfl), ?_⟩
      go_simp <;> (try with_reducible rfl)
    refine Rely.Chain.det ?_ (by rfl) (fun T xs wr hA => ?_) ?_
    rotate_left 1
    · have e45 := hA.tm 2 45 (by rfl) (by rfl)
      have f45 : xs 2 = (.int .i64 (cmpQ A B)) := hA.fa 2 (by rfl)
      rw [f45] at e45
      clear f45
      have e49 := hA.tm 6 49 (by rfl) (by rfl)
      have f49 : xs 6 = _ := hA.fa 6 (by rfl)
      (try simp (disch := first | rfl | decide) only [Rely.mask_in] at f49)
      rw [f49] at e49
      clear f49
      clear hA
      refine ⟨(by rfl), ?_⟩
      go_simp <;> (try with_reducible rfl)
    refine Rely.Chain.det ?_ (by rfl) (fun T xs wr hA => ?_) ?_
    rotate_left 1
    · have e50 := hA.tm 7 50 (by rfl) (by rfl)
      have f50 : xs 7 = _ := hA.fa 7 (by rfl)
      (try simp (disch := first | rfl | decide) only [Rely.mask_in] at f50)
      rw [f50] at e50
      clear f50
      clear hA
      refine ⟨(by rfl), ?_⟩
      go_simp <;> (try with_reducible rfl)
    refine Rely.Chain.det ?_ (by rfl) (fun T xs wr hA => ?_) ?_
    rotate_left 1
    · have e51 := hA.tm 8 51 (by rfl) (by rfl)
      have f51 : xs 8 = _ := hA.fa 8 (by rfl)
      (try simp (disch := first | rfl | decide) only [Rely.mask_in] at f51)
      rw [f51] at e51
      clear f51
      have e3 := hA.pre 3 (by kernel_rfl)
      simp only [List.getElem?_toArray, List.getElem?_cons_succ, List.getElem?_cons_zero] at e3
      have hBq : wr.heap[w.heap.size]? = _ := (hA.bl _ hlt_x0 (fun q h => absurd h (Nat.not_lt_zero q))).trans HB_x0.out
      have q0 := cell_at (v := .bool b0) hBq 0 rfl
      have q1 := cell_at (v := .slice o0 n0 m0) hBq 1 rfl
      have q2 := cell_at (v := .slice p0 l0 e0) hBq 2 rfl
      clear hBq
      clear hA
      refine ⟨((Rely.wanted_at rfl (by rfl) e51).trans (by rfl)), ?_⟩
      go_simp <;> (try with_reducible rfl)
    refine Rely.Chain.det ?_ (by rfl) (fun T xs wr hA => ?_) ?_
    rotate_left 1
    · have e51 := hA.tm 8 51 (by rfl) (by rfl)
      have f51 : xs 8 = _ := hA.fa 8 (by rfl)
      (try simp (disch := first | rfl | decide) only [Rely.mask_in] at f51)
      rw [f51] at e51
      clear f51
      have e4 := hA.pre 4 (by kernel_rfl)
      simp only [List.getElem?_toArray, List.getElem?_cons_succ, List.getElem?_cons_zero] at e4
      have hBq : wr.heap[w.heap.size + 1]? = _ := (hA.bl _ hlt_x1 (fun q h => absurd h (Nat.not_lt_zero q))).trans HB_x1.out
      have q0 := cell_at (v := .bool b1) hBq 0 rfl
      have q1 := cell_at (v := .slice o1 n1 m1) hBq 1 rfl
      have q2 := cell_at (v := .slice p1 l1 e1) hBq 2 rfl
      clear hBq
      clear hA
      refine ⟨((Rely.wanted_at rfl (by rfl) e51).trans (by rfl)), ?_⟩
      go_simp <;> (try with_reducible rfl)
    refine Rely.Chain.call (fun _ v _ => v = .int .i64 (cmpQ A B)) (fun _ _ _ _ h _ => h) (fun _ _ _ _ _ h _ => h) (by rfl) (fun T xs wr hA => ?_) ?_
    · have e51 := hA.tm 8 51 (by rfl) (by rfl)
      have f51 : xs 8 = _ := hA.fa 8 (by rfl)
      (try simp (disch := first | rfl | decide) only [Rely.mask_in] at f51)
      rw [f51] at e51
      clear f51
      have e52 := hA.tm 9 52 (by rfl) (by rfl)
      have f52 : xs 9 = _ := hA.fa 9 (by rfl)
      (try simp (disch := first | rfl | decide) only [Rely.mask_in] at f52)
      rw [f52] at e52
      clear f52
      have e53 := hA.tm 10 53 (by rfl) (by rfl)
      have f53 : xs 10 = _ := hA.fa 10 (by rfl)
      (try simp (disch := first | rfl | decide) only [Rely.mask_in] at f53)
      rw [f53] at e53
      clear f53
      have hkp := undrewK hA.kp
      have hbw := undrew (hA.be _ (Nat.le_refl _) (fun q h => absurd h (Nat.not_lt_zero q)))
      have g0 := g0.keeps hkp
      have g1 := g1.keeps hkp
      clear hA
      refine ⟨((Rely.wanted_at rfl (by rfl) e51).trans (by rfl)), fun K hK => ?_⟩
      clear e51
      go_simp
      refine (hcmp_any g0 g1 (by omega) (by omega)).mono ?_
      rintro e wq ⟨rfl, hb⟩
      exact hK.out _ _ rfl hb
    refine Rely.Chain.det ?_ (by rfl) (fun T xs wr hA => ?_) ?_
    rotate_left 1
    · have e51 := hA.tm 8 51 (by rfl) (by rfl)
      have f51 : xs 8 = _ := hA.fa 8 (by rfl)
      (try simp (disch := first | rfl | decide) only [Rely.mask_in] at f51)
      rw [f51] at e51
      clear f51
      have e3 := hA.pre 3 (by kernel_rfl)
      simp only [List.getElem?_toArray, List.getElem?_cons_succ, List.getElem?_cons_zero] at e3
      have hBq : wr.heap[w.heap.size]? = _ := (hA.bl _ hlt_x0 (fun q h => absurd h (Nat.not_lt_zero q))).trans HB_x0.out
      have q0 := cell_at (v := .bool b0) hBq 0 rfl
      have q1 := cell_at (v := .slice o0 n0 m0) hBq 1 rfl
      have q2 := cell_at (v := .slice p0 l0 e0) hBq 2 rfl
      clear hBq
      clear hA
      refine ⟨((Rely.wanted_at rfl (by rfl) e51).trans (by rfl)), ?_⟩
      go_simp <;> (try with_reducible rfl)
    refine Rely.Chain.det ?_ (by rfl) (fun T xs wr hA => ?_) ?_
    rotate_left 1
    · have e51 := hA.tm 8 51 (by rfl) (by rfl)
      have f51 : xs 8 = _ := hA.fa 8 (by rfl)
      (try simp (disch := first | rfl | decide) only [Rely.mask_in] at f51)
      rw [f51] at e51
      clear f51
      have e5 := hA.pre 5 (by kernel_rfl)
      simp only [List.getElem?_toArray, List.getElem?_cons_succ, List.getElem?_cons_zero] at e5
      have hBq : wr.heap[w.heap.size + 2]? = _ := (hA.bl _ hlt_x2 (fun q h => absurd h (Nat.not_lt_zero q))).trans HB_x2.out
      have q0 := cell_at (v := .bool b2) hBq 0 rfl
      have q1 := cell_at (v := .slice o2 n2 m2) hBq 1 rfl
      have q2 := cell_at (v := .slice p2 l2 e2) hBq 2 rfl
      clear hBq
      clear hA
      refine ⟨((Rely.wanted_at rfl (by rfl) e51).trans (by rfl)), ?_⟩
      go_simp <;> (try with_reducible rfl)
    refine Rely.Chain.call (fun _ v w => CQ w v (A + C) 32) (fun _ _ _ _ h hb => h.below hb) (fun _ _ _ _ _ h hp => h.keeps hp.keeps) (by rfl) (fun T xs wr hA => ?_) ?_
    · have e51 := hA.tm 8 51 (by rfl) (by rfl)
      have f51 : xs 8 = _ := hA.fa 8 (by rfl)
      (try simp (disch := first | rfl | decide) only [Rely.mask_in] at f51)
      rw [f51] at e51
      clear f51
      have e55 := hA.tm 12 55 (by rfl) (by rfl)
      have f55 : xs 12 = _ := hA.fa 12 (by rfl)
      (try simp (disch := first | rfl | decide) only [Rely.mask_in] at f55)
      rw [f55] at e55
      clear f55
      have e56 := hA.tm 13 56 (by rfl) (by rfl)
      have f56 : xs 13 = _ := hA.fa 13 (by rfl)
      (try simp (disch := first | rfl | decide) only [Rely.mask_in] at f56)
      rw [f56] at e56
      clear f56
      have hkp := undrewK hA.kp
      have hbw := undrew (hA.be _ (Nat.le_refl _) (fun q h => absurd h (Nat.not_lt_zero q)))
      have g0 := g0.keeps hkp
      have g2 := g2.keeps hkp
      clear hA
      refine ⟨((Rely.wanted_at rfl (by rfl) e51).trans (by rfl)), fun K hK => ?_⟩
      clear e51
      go_simp
      refine (hadd_any g0 g2 (by omega) (by omega)).mono ?_
      rintro e wq ⟨v, rfl, c, hb⟩
      exact hK.out _ _ c hb
    refine Rely.Chain.det ?_ (by rfl) (fun T xs wr hA => ?_) ?_
    rotate_left 1
    · have e51 := hA.tm 8 51 (by rfl) (by rfl)
      have f51 : xs 8 = _ := hA.fa 8 (by rfl)
      (try simp (disch := first | rfl | decide) only [Rely.mask_in] at f51)
      rw [f51] at e51
      clear f51
      have e4 := hA.pre 4 (by kernel_rfl)
      simp only [List.getElem?_toArray, List.getElem?_cons_succ, List.getElem?_cons_zero] at e4
      have hBq : wr.heap[w.heap.size + 1]? = _ := (hA.bl _ hlt_x1 (fun q h => absurd h (Nat.not_lt_zero q))).trans HB_x1.out
      have q0 := cell_at (v := .bool b1) hBq 0 rfl
      have q1 := cell_at (v := .slice o1 n1 m1) hBq 1 rfl
      have q2 := cell_at (v := .slice p1 l1 e1) hBq 2 rfl
      clear hBq
      clear hA
      refine ⟨((Rely.wanted_at rfl (by rfl) e51).trans (by rfl)), ?_⟩
      go_simp <;> (try with_reducible rfl)
    refine Rely.Chain.det ?_ (by rfl) (fun T xs wr hA => ?_) ?_
    rotate_left 1
    · have e51 := hA.tm 8 51 (by rfl) (by rfl)
      have f51 : xs 8 = _ := hA.fa 8 (by rfl)
      (try simp (disch := first | rfl | decide) only [Rely.mask_in] at f51)
      rw [f51] at e51
      clear f51
      have e5 := hA.pre 5 (by kernel_rfl)
      simp only [List.getElem?_toArray, List.getElem?_cons_succ, List.getElem?_cons_zero] at e5
      have hBq : wr.heap[w.heap.size + 2]? = _ := (hA.bl _ hlt_x2 (fun q h => absurd h (Nat.not_lt_zero q))).trans HB_x2.out
      have q0 := cell_at (v := .bool b2) hBq 0 rfl
      have q1 := cell_at (v := .slice o2 n2 m2) hBq 1 rfl
      have q2 := cell_at (v := .slice p2 l2 e2) hBq 2 rfl
      clear hBq
      clear hA
      refine ⟨((Rely.wanted_at rfl (by rfl) e51).trans (by rfl)), ?_⟩
      go_simp <;> (try with_reducible rfl)
    refine Rely.Chain.call (fun _ v w => CQ w v (B + C) 32) (fun _ _ _ _ h hb => h.below hb) (fun _ _ _ _ _ h hp => h.keeps hp.keeps) (by rfl) (fun T xs wr hA => ?_) ?_
    · have e51 := hA.tm 8 51 (by rfl) (by rfl)
      have f51 : xs 8 = _ := hA.fa 8 (by rfl)
      (try simp (disch := first | rfl | decide) only [Rely.mask_in] at f51)
      rw [f51] at e51
      clear f51
      have e58 := hA.tm 15 58 (by rfl) (by rfl)
      have f58 : xs 15 = _ := hA.fa 15 (by rfl)
      (try simp (disch := first | rfl | decide) only [Rely.mask_in] at f58)
      rw [f58] at e58
      clear f58
      have e59 := hA.tm 16 59 (by rfl) (by rfl)
      have f59 : xs 16 = _ := hA.fa 16 (by rfl)
      (try simp (disch := first | rfl | decide) only [Rely.mask_in] at f59)
      rw [f59] at e59
      clear f59
      have hkp := undrewK hA.kp
      have hbw := undrew (hA.be _ (Nat.le_refl _) (fun q h => absurd h (Nat.not_lt_zero q)))
      have g1 := g1.keeps hkp
      have g2 := g2.keeps hkp
      clear hA
      refine ⟨((Rely.wanted_at rfl (by rfl) e51).trans (by rfl)), fun K hK => ?_⟩
      clear e51
      go_simp
      refine (hadd_any g1 g2 (by omega) (by omega)).mono ?_
      rintro e wq ⟨v, rfl, c, hb⟩
      exact hK.out _ _ c hb
    refine Rely.Chain.call (fun _ v _ => v = .int .i64 (cmpQ A B)) (fun _ _ _ _ h _ => h) (fun _ _ _ _ _ h _ => h) (by rfl) (fun T xs wr hA => ?_) ?_
    · have e51 := hA.tm 8 51 (by rfl) (by rfl)
      have f51 : xs 8 = _ := hA.fa 8 (by rfl)
      (try simp (disch := first | rfl | decide) only [Rely.mask_in] at f51)
      rw [f51] at e51
      clear f51
      have e57 := hA.tm 14 57 (by rfl) (by rfl)
      have e60 := hA.tm 17 60 (by rfl) (by rfl)
      have hkp := undrewK hA.kp
      have hbw := undrew (hA.be _ (Nat.le_refl _) (fun q h => absurd h (Nat.not_lt_zero q)))
      have c_r1 : CQ wr (xs 14) (A + C) 32 := hA.fa 14 (by rfl)
      have c_r2 : CQ wr (xs 17) (B + C) 32 := hA.fa 17 (by rfl)
      clear hA
      refine ⟨((Rely.wanted_at rfl (by rfl) e51).trans (by rfl)), fun K hK => ?_⟩
      clear e51
      go_simp
      refine (hcmp_s c_r1.hq c_r2.hq HS.out (by omega) (by omega)).mono ?_
      rintro e wq ⟨rfl, hb⟩
      exact hK.out _ _ rfl hb
    refine Rely.Chain.det ?_ (by rfl) (fun T xs wr hA => ?_) ?_
    rotate_left 1
    · have e51 := hA.tm 8 51 (by rfl) (by rfl)
      have f51 : xs 8 = _ := hA.fa 8 (by rfl)
      (try simp (disch := first | rfl | decide) only [Rely.mask_in] at f51)
      rw [f51] at e51
      clear f51
      have e54 := hA.tm 11 54 (by rfl) (by rfl)
      have f54 : xs 11 = (.int .i64 (cmpQ A B)) := hA.fa 11 (by rfl)
      rw [f54] at e54
      clear f54
      have e61 := hA.tm 18 61 (by rfl) (by rfl)
      have f61 : xs 18 = (.int .i64 (cmpQ A B)) := hA.fa 18 (by rfl)
      rw [f61] at e61
      clear f61
      clear hA
      refine ⟨((Rely.wanted_at rfl (by rfl) e51).trans (by rfl)), ?_⟩
      go_simp <;> (try with_reducible rfl)
    refine Rely.Chain.det ?_ (by rfl) (fun T xs wr hA => ?_) ?_
    rotate_left 1
    · have e51 := hA.tm 8 51 (by rfl) (by rfl)
      have f51 : xs 8 = _ := hA.fa 8 (by rfl)
      (try simp (disch := first | rfl | decide) only [Rely.mask_in] at f51)
      rw [f51] at e51
      clear f51
      have e62 := hA.tm 19 62 (by rfl) (by rfl)
      have f62 : xs 19 = _ := hA.fa 19 (by rfl)
      (try simp (disch := first | rfl | decide) only [Rely.mask_in] at f62)
      rw [f62] at e62
      clear f62
      clear hA
      refine ⟨(by rfl), ?_⟩
      go_simp <;> (try with_reducible rfl)
    refine Rely.Chain.done (fun xs wx5 hL => ?_)
    obtain ⟨⟨hbe, hbl, hkp0⟩, hf, hp, hn⟩ := hL
    have f0 : xs 0 = _ := hf 0 (by decide)
    (try simp (disch := first | rfl | decide) only [Rely.mask_in] at f0)
    have f1 : xs 1 = _ := hf 1 (by decide)
    (try simp (disch := first | rfl | decide) only [Rely.mask_in] at f1)
    have f2 : xs 2 = (.int .i64 (cmpQ A B)) := hf 2 (by decide)
    have f3 : xs 3 = _ := hf 3 (by decide)
    (try simp (disch := first | rfl | decide) only [Rely.mask_in] at f3)
    have f4 : xs 4 = _ := hf 4 (by decide)
    (try simp (disch := first | rfl | decide) only [Rely.mask_in] at f4)
    have f5 : xs 5 = (.int .i64 (cmpQ B A)) := hf 5 (by decide)
    have f6 : xs 6 = _ := hf 6 (by decide)
    (try simp (disch := first | rfl | decide) only [Rely.mask_in] at f6)
    have f7 : xs 7 = _ := hf 7 (by decide)
    (try simp (disch := first | rfl | decide) only [Rely.mask_in] at f7)
    have f8 : xs 8 = _ := hf 8 (by decide)
    (try simp (disch := first | rfl | decide) only [Rely.mask_in] at f8)
    have f9 : xs 9 = _ := hf 9 (by decide)
    (try simp (disch := first | rfl | decide) only [Rely.mask_in] at f9)
    have f10 : xs 10 = _ := hf 10 (by decide)
    (try simp (disch := first | rfl | decide) only [Rely.mask_in] at f10)
    have f11 : xs 11 = (.int .i64 (cmpQ A B)) := hf 11 (by decide)
    have f12 : xs 12 = _ := hf 12 (by decide)
    (try simp (disch := first | rfl | decide) only [Rely.mask_in] at f12)
    have f13 : xs 13 = _ := hf 13 (by decide)
    (try simp (disch := first | rfl | decide) only [Rely.mask_in] at f13)
    have c_r1 : CQ wx5 (xs 14) (A + C) 32 := hf 14 (by decide)
    have f15 : xs 15 = _ := hf 15 (by decide)
    (try simp (disch := first | rfl | decide) only [Rely.mask_in] at f15)
    have f16 : xs 16 = _ := hf 16 (by decide)
    (try simp (disch := first | rfl | decide) only [Rely.mask_in] at f16)
    have c_r2 : CQ wx5 (xs 17) (B + C) 32 := hf 17 (by decide)
    have f18 : xs 18 = (.int .i64 (cmpQ A B)) := hf 18 (by decide)
    have f19 : xs 19 = _ := hf 19 (by decide)
    (try simp (disch := first | rfl | decide) only [Rely.mask_in] at f19)
    have f20 : xs 20 = _ := hf 20 (by decide)
    (try simp (disch := first | rfl | decide) only [Rely.mask_in] at f20)
    clear hf hp hn
    refine Rely.rest_done ?_
    simp only [Rely.fill, List.setIfInBounds_toArray, List.set_cons_zero, List.set_cons_succ, f0, f1, f2, f3, f4, f5, f6, f7, f8, f9, f10, f11, f12, f13, f15, f16, f18, f19, f20]
    clear f0 f1 f2 f3 f4 f5 f6 f7 f8 f9 f10 f11 f12 f13 f15 f16 f18 f19 f20
    generalize xs 14 = v_r1 at c_r1 ⊢
    generalize xs 17 = v_r2 at c_r2 ⊢
    clear xs
    obtain ⟨b_r1, o_r1, l_r1, k_r1, p_r1, m_r1, u_r1, rfl⟩ := c_r1.shape
    obtain ⟨b_r2, o_r2, l_r2, k_r2, p_r2, m_r2, u_r2, rfl⟩ := c_r2.shape
    have hbx := undrew (hbe _ (Nat.le_refl _) (fun q h => absurd h (Nat.not_lt_zero q)))
    clear hbe hbl hkp0
    replace g0 := g0.below hbx
    replace g1 := g1.below hbx
    replace g2 := g2.below hbx
    replace c_q1 := c_q1.below hbx
    replace c_q2 := c_q2.below hbx
    replace c_q3 := c_q3.below hbx
    replace c_q4 := c_q4.below hbx
    replace c_q5 := c_q5.below hbx
    replace c_q6 := c_q6.below hbx
    replace c_q7 := c_q7.below hbx
    replace c_q8 := c_q8.below hbx
    replace c_q9 := c_q9.below hbx
    replace hbt := hbt.trans (hbx.mono hbt.size)
    replace HB_x0 := Lib.hid ((hbx.block _ (lt_of_block HB_x0.out)).trans HB_x0.out)
    replace HB_x1 := Lib.hid ((hbx.block _ (lt_of_block HB_x1.out)).trans HB_x1.out)
    replace HB_x2 := Lib.hid ((hbx.block _ (lt_of_block HB_x2.out)).trans HB_x2.out)
    clear hbx
    replace x00 := cell_at (v := .bool b0) HB_x0.out 0 rfl
    replace x01 := cell_at (v := .slice o0 n0 m0) HB_x0.out 1 rfl
    replace x02 := cell_at (v := .slice p0 l0 e0) HB_x0.out 2 rfl
    replace x10 := cell_at (v := .bool b1) HB_x1.out 0 rfl
    replace x11 := cell_at (v := .slice o1 n1 m1) HB_x1.out 1 rfl
    replace x12 := cell_at (v := .slice p1 l1 e1) HB_x1.out 2 rfl
    replace x20 := cell_at (v := .bool b2) HB_x2.out 0 rfl
    replace x21 := cell_at (v := .slice o2 n2 m2) HB_x2.out 1 rfl
    replace x22 := cell_at (v := .slice p2 l2 e2) HB_x2.out 2 rfl
    clear hlt_x0 hlt_x1 hlt_x2
    by_cases hab : A < B
    · have hd := decide_eq_true (cmpQ_neg.2 hab)
      clear hab
      go_wp2_with fail
      refine (hcmp_any g0 g1 (by omega) (by omega)).mono ?_
      rintro e wx6 ⟨rfl, hbx⟩
      replace g0 := g0.below hbx
      replace g1 := g1.below hbx
      replace g2 := g2.below hbx
      replace c_q1 := c_q1.below hbx
      replace c_q2 := c_q2.below hbx
      replace c_q3 := c_q3.below hbx
      replace c_q4 := c_q4.below hbx
      replace c_q5 := c_q5.below hbx
      replace c_q6 := c_q6.below hbx
      replace c_q7 := c_q7.below hbx
      replace c_q8 := c_q8.below hbx
      replace c_q9 := c_q9.below hbx
      replace c_r1 := c_r1.below hbx
      replace c_r2 := c_r2.below hbx
      replace hbt := hbt.trans (hbx.mono hbt.size)
      replace HB_x0 := Lib.hid ((hbx.block _ (lt_of_block HB_x0.out)).trans HB_x0.out)
      replace HB_x1 := Lib.hid ((hbx.block _ (lt_of_block HB_x1.out)).trans HB_x1.out)
      replace HB_x2 := Lib.hid ((hbx.block _ (lt_of_block HB_x2.out)).trans HB_x2.out)
      clear hbx
      replace x00 := cell_at (v := .bool b0) HB_x0.out 0 rfl
      replace x01 := cell_at (v := .slice o0 n0 m0) HB_x0.out 1 rfl
      replace x02 := cell_at (v := .slice p0 l0 e0) HB_x0.out 2 rfl
      replace x10 := cell_at (v := .bool b1) HB_x1.out 0 rfl
      replace x11 := cell_at (v := .slice o1 n1 m1) HB_x1.out 1 rfl
      replace x12 := cell_at (v := .slice p1 l1 e1) HB_x1.out 2 rfl
      replace x20 := cell_at (v := .bool b2) HB_x2.out 0 rfl
      replace x21 := cell_at (v := .slice o2 n2 m2) HB_x2.out 1 rfl
      replace x22 := cell_at (v := .slice p2 l2 e2) HB_x2.out 2 rfl
      go_wp2_with fail
      go_ret
      exact ⟨rfl, hbt⟩
    · have hd := decide_eq_false (mt cmpQ_neg.1 hab)
      by_cases hbc : B < C
      · have hd2 := decide_eq_true (cmpQ_neg.2 hbc)
        clear hab hbc
        go_wp2_with fail
        refine (hcmp_any g0 g1 (by omega) (by omega)).mono ?_
        rintro e wx6 ⟨rfl, hbx⟩
        replace g0 := g0.below hbx
        replace g1 := g1.below hbx
        replace g2 := g2.below hbx
        replace c_q1 := c_q1.below hbx
        replace c_q2 := c_q2.below hbx
        replace c_q3 := c_q3.below hbx
        replace c_q4 := c_q4.below hbx
        replace c_q5 := c_q5.below hbx
        replace c_q6 := c_q6.below hbx
        replace c_q7 := c_q7.below hbx
        replace c_q8 := c_q8.below hbx
        replace c_q9 := c_q9.below hbx
        replace c_r1 := c_r1.below hbx
        replace c_r2 := c_r2.below hbx
        replace hbt := hbt.trans (hbx.mono hbt.size)
        replace HB_x0 := Lib.hid ((hbx.block _ (lt_of_block HB_x0.out)).trans HB_x0.out)
        replace HB_x1 := Lib.hid ((hbx.block _ (lt_of_block HB_x1.out)).trans HB_x1.out)
        replace HB_x2 := Lib.hid ((hbx.block _ (lt_of_block HB_x2.out)).trans HB_x2.out)
        clear hbx
        replace x00 := cell_at (v := .bool b0) HB_x0.out 0 rfl
        replace x01 := cell_at (v := .slice o0 n0 m0) HB_x0.out 1 rfl
        replace x02 := cell_at (v := .slice p0 l0 e0) HB_x0.out 2 rfl
        replace x10 := cell_at (v := .bool b1) HB_x1.out 0 rfl
        replace x11 := cell_at (v := .slice o1 n1 m1) HB_x1.out 1 rfl
        replace x12 := cell_at (v := .slice p1 l1 e1) HB_x1.out 2 rfl
        replace x20 := cell_at (v := .bool b2) HB_x2.out 0 rfl
        replace x21 := cell_at (v := .slice o2 n2 m2) HB_x2.out 1 rfl
        replace x22 := cell_at (v := .slice p2 l2 e2) HB_x2.out 2 rfl
        go_wp2_with fail
        refine (hcmp_any g1 g2 (by omega) (by omega)).mono ?_
        rintro e wx7 ⟨rfl, hbx⟩
        replace g0 := g0.below hbx
        replace g1 := g1.below hbx
        replace g2 := g2.below hbx
        replace c_q1 := c_q1.below hbx
        replace c_q2 := c_q2.below hbx
        replace c_q3 := c_q3.below hbx
        replace c_q4 := c_q4.below hbx
        replace c_q5 := c_q5.below hbx
        replace c_q6 := c_q6.below hbx
        replace c_q7 := c_q7.below hbx
        replace c_q8 := c_q8.below hbx
        replace c_q9 := c_q9.below hbx
        replace c_r1 := c_r1.below hbx
        replace c_r2 := c_r2.below hbx
        replace hbt := hbt.trans (hbx.mono hbt.size)
        replace HB_x0 := Lib.hid ((hbx.block _ (lt_of_block HB_x0.out)).trans HB_x0.out)
        replace HB_x1 := Lib.hid ((hbx.block _ (lt_of_block HB_x1.out)).trans HB_x1.out)
        replace HB_x2 := Lib.hid ((hbx.block _ (lt_of_block HB_x2.out)).trans HB_x2.out)
        clear hbx
        replace x00 := cell_at (v := .bool b0) HB_x0.out 0 rfl
        replace x01 := cell_at (v := .slice o0 n0 m0) HB_x0.out 1 rfl
        replace x02 := cell_at (v := .slice p0 l0 e0) HB_x0.out 2 rfl
        replace x10 := cell_at (v := .bool b1) HB_x1.out 0 rfl
        replace x11 := cell_at (v := .slice o1 n1 m1) HB_x1.out 1 rfl
        replace x12 := cell_at (v := .slice p1 l1 e1) HB_x1.out 2 rfl
        replace x20 := cell_at (v := .bool b2) HB_x2.out 0 rfl
        replace x21 := cell_at (v := .slice o2 n2 m2) HB_x2.out 1 rfl
        replace x22 := cell_at (v := .slice p2 l2 e2) HB_x2.out 2 rfl
        go_wp2_with fail
        go_ret
        exact ⟨rfl, hbt⟩
      · have hd2 := decide_eq_false (mt cmpQ_neg.1 hbc)
        have hd3 : decide (0 ≤ cmpQ A C) = true := by
          refine decide_eq_true (Int.not_lt.1 (mt cmpQ_neg.1 (Rat.not_lt.2 (Rat.le_trans (Rat.not_lt.1 hbc) (Rat.not_lt.1 hab)))))
        clear hab hbc
        go_wp2_with fail
        refine (hcmp_any g0 g1 (by omega) (by omega)).mono ?_
        rintro e wx6 ⟨rfl, hbx⟩
        replace g0 := g0.below hbx
        replace g1 := g1.below hbx
        replace g2 := g2.below hbx
        replace c_q1 := c_q1.below hbx
        replace c_q2 := c_q2.below hbx
        replace c_q3 := c_q3.below hbx
        replace c_q4 := c_q4.below hbx
        replace c_q5 := c_q5.below hbx
        replace c_q6 := c_q6.below hbx
        replace c_q7 := c_q7.below hbx
        replace c_q8 := c_q8.below hbx
        replace c_q9 := c_q9.below hbx
        replace c_r1 := c_r1.below hbx
        replace c_r2 := c_r2.below hbx
        replace hbt := hbt.trans (hbx.mono hbt.size)
        replace HB_x0 := Lib.hid ((hbx.block _ (lt_of_block HB_x0.out)).trans HB_x0.out)
        replace HB_x1 := Lib.hid ((hbx.block _ (lt_of_block HB_x1.out)).trans HB_x1.out)
        replace HB_x2 := Lib.hid ((hbx.block _ (lt_of_block HB_x2.out)).trans HB_x2.out)
        clear hbx
        replace x00 := cell_at (v := .bool b0) HB_x0.out 0 rfl
        replace x01 := cell_at (v := .slice o0 n0 m0) HB_x0.out 1 rfl
        replace x02 := cell_at (v := .slice p0 l0 e0) HB_x0.out 2 rfl
        replace x10 := cell_at (v := .bool b1) HB_x1.out 0 rfl
        replace x11 := cell_at (v := .slice o1 n1 m1) HB_x1.out 1 rfl
        replace x12 := cell_at (v := .slice p1 l1 e1) HB_x1.out 2 rfl
        replace x20 := cell_at (v := .bool b2) HB_x2.out 0 rfl
        replace x21 := cell_at (v := .slice o2 n2 m2) HB_x2.out 1 rfl
        replace x22 := cell_at (v := .slice p2 l2 e2) HB_x2.out 2 rfl
        go_wp2_with fail
        refine (hcmp_any g1 g2 (by omega) (by omega)).mono ?_
        rintro e wx7 ⟨rfl, hbx⟩
        replace g0 := g0.below hbx
        replace g1 := g1.below hbx
        replace g2 := g2.below hbx
        replace c_q1 := c_q1.below hbx
        replace c_q2 := c_q2.below hbx
        replace c_q3 := c_q3.below hbx
        replace c_q4 := c_q4.below hbx
        replace c_q5 := c_q5.below hbx
        replace c_q6 := c_q6.below hbx
        replace c_q7 := c_q7.below hbx
        replace c_q8 := c_q8.below hbx
        replace c_q9 := c_q9.below hbx
        replace c_r1 := c_r1.below hbx
        replace c_r2 := c_r2.below hbx
        replace hbt := hbt.trans (hbx.mono hbt.size)
        replace HB_x0 := Lib.hid ((hbx.block _ (lt_of_block HB_x0.out)).trans HB_x0.out)
        replace HB_x1 := Lib.hid ((hbx.block _ (lt_of_block HB_x1.out)).trans HB_x1.out)
        replace HB_x2 := Lib.hid ((hbx.block _ (lt_of_block HB_x2.out)).trans HB_x2.out)
        clear hbx
        replace x00 := cell_at (v := .bool b0) HB_x0.out 0 rfl
        replace x01 := cell_at (v := .slice o0 n0 m0) HB_x0.out 1 rfl
        replace x02 := cell_at (v := .slice p0 l0 e0) HB_x0.out 2 rfl
        replace x10 := cell_at (v := .bool b1) HB_x1.out 0 rfl
        replace x11 := cell_at (v := .slice o1 n1 m1) HB_x1.out 1 rfl
        replace x12 := cell_at (v := .slice p1 l1 e1) HB_x1.out 2 rfl
        replace x20 := cell_at (v := .bool b2) HB_x2.out 0 rfl
        replace x21 := cell_at (v := .slice o2 n2 m2) HB_x2.out 1 rfl
        replace x22 := cell_at (v := .slice p2 l2 e2) HB_x2.out 2 rfl
        go_wp2_with fail
        refine (hcmp_any g0 g2 (by omega) (by omega)).mono ?_
        rintro e wx8 ⟨rfl, hbx⟩
        replace g0 := g0.below hbx
        replace g1 := g1.below hbx
        replace g2 := g2.below hbx
        replace c_q1 := c_q1.below hbx
        replace c_q2 := c_q2.below hbx
        replace c_q3 := c_q3.below hbx
        replace c_q4 := c_q4.below hbx
        replace c_q5 := c_q5.below hbx
        replace c_q6 := c_q6.below hbx
        replace c_q7 := c_q7.below hbx
        replace c_q8 := c_q8.below hbx
        replace c_q9 := c_q9.below hbx
        replace c_r1 := c_r1.below hbx
        replace c_r2 := c_r2.below hbx
        replace hbt := hbt.trans (hbx.mono hbt.size)
        replace HB_x0 := Lib.hid ((hbx.block _ (lt_of_block HB_x0.out)).trans HB_x0.out)
        replace HB_x1 := Lib.hid ((hbx.block _ (lt_of_block HB_x1.out)).trans HB_x1.out)
        replace HB_x2 := Lib.hid ((hbx.block _ (lt_of_block HB_x2.out)).trans HB_x2.out)
        clear hbx
        replace x00 := cell_at (v := .bool b0) HB_x0.out 0 rfl
        replace x01 := cell_at (v := .slice o0 n0 m0) HB_x0.out 1 rfl
        replace x02 := cell_at (v := .slice p0 l0 e0) HB_x0.out 2 rfl
        replace x10 := cell_at (v := .bool b1) HB_x1.out 0 rfl
        replace x11 := cell_at (v := .slice o1 n1 m1) HB_x1.out 1 rfl
        replace x12 := cell_at (v := .slice p1 l1 e1) HB_x1.out 2 rfl
        replace x20 := cell_at (v := .bool b2) HB_x2.out 0 rfl
        replace x21 := cell_at (v := .slice o2 n2 m2) HB_x2.out 1 rfl
        replace x22 := cell_at (v := .slice p2 l2 e2) HB_x2.out 2 rfl
        go_wp2_with fail
        go_ret
        exact ⟨rfl, hbt⟩
  · have HS := Lib.hid hs
    clear hs a0 a1 a2
    have hbt := Below.refl w.heap.size w
    go_enter Tryd.func5, Tryd.ntmps5
    go_wp2_with fail
    have hbx : Below w.heap.size w (((w.alloc (.cells #[.bool b0, .slice o0 n0 m0, .slice p0 l0 e0] 27)).alloc (.cells #[.bool b1, .slice o1 n1 m1, .slice p1 l1 e1] 27)).alloc (.cells #[.bool b2, .slice o2 n2 m2, .slice p2 l2 e2] 27)) := ((((Below.refl _ _).alloc (by simp) _).alloc (by simp) _).alloc (by simp; omega) _)
    replace hbt := hbt.trans (hbx.mono hbt.size)
    clear hbx
    have HB_x0 : Hid ((((w.alloc (.cells #[.bool b0, .slice o0 n0 m0, .slice p0 l0 e0] 27)).alloc (.cells #[.bool b1, .slice o1 n1 m1, .slice p1 l1 e1] 27)).alloc (.cells #[.bool b2, .slice o2 n2 m2, .slice p2 l2 e2] 27)).heap[w.heap.size]? = some (.cells #[.bool b0, .slice o0 n0 m0, .slice p0 l0 e0] 27 (0, 0))) := Lib.hid (made_more (made_more (made_at w (.cells #[.bool b0, .slice o0 n0 m0, .slice p0 l0 e0] 27) _ (by first | rfl | simp)) _) _)
    have HB_x1 : Hid ((((w.alloc (.cells #[.bool b0, .slice o0 n0 m0, .slice p0 l0 e0] 27)).alloc (.cells #[.bool b1, .slice o1 n1 m1, .slice p1 l1 e1] 27)).alloc (.cells #[.bool b2, .slice o2 n2 m2, .slice p2 l2 e2] 27)).heap[w.heap.size + 1]? = some (.cells #[.bool b1, .slice o1 n1 m1, .slice p1 l1 e1] 27 (0, 0))) := Lib.hid (made_more (made_at (w.alloc (.cells #[.bool b0, .slice o0 n0 m0, .slice p0 l0 e0] 27)) (.cells #[.bool b1, .slice o1 n1 m1, .slice p1 l1 e1] 27) _ (by first | rfl | simp)) _)
    have HB_x2 : Hid ((((w.alloc (.cells #[.bool b0, .slice o0 n0 m0, .slice p0 l0 e0] 27)).alloc (.cells #[.bool b1, .slice o1 n1 m1, .slice p1 l1 e1] 27)).alloc (.cells #[.bool b2, .slice o2 n2 m2, .slice p2 l2 e2] 27)).heap[w.heap.size + 2]? = some (.cells #[.bool b2, .slice o2 n2 m2, .slice p2 l2 e2] 27 (0, 0))) := Lib.hid (made_at ((w.alloc (.cells #[.bool b0, .slice o0 n0 m0, .slice p0 l0 e0] 27)).alloc (.cells #[.bool b1, .slice o1 n1 m1, .slice p1 l1 e1] 27)) (.cells #[.bool b2, .slice o2 n2 m2, .slice p2 l2 e2] 27) _ (by first | rfl | simp))
    generalize (((w.alloc (.cells #[.bool b0, .slice o0 n0 m0, .slice p0 l0 e0] 27)).alloc (.cells #[.bool b1, .slice o1 n1 m1, .slice p1 l1 e1] 27)).alloc (.cells #[.bool b2, .slice o2 n2 m2, .slice p2 l2 e2] 27)) = wx1 at *
    have x00 := cell_at (v := .bool b0) HB_x0.out 0 rfl
    have x01 := cell_at (v := .slice o0 n0 m0) HB_x0.out 1 rfl
    have x02 := cell_at (v := .slice p0 l0 e0) HB_x0.out 2 rfl
    have x10 := cell_at (v := .bool b1) HB_x1.out 0 rfl
    have x11 := cell_at (v := .slice o1 n1 m1) HB_x1.out 1 rfl
    have x12 := cell_at (v := .slice p1 l1 e1) HB_x1.out 2 rfl
    have x20 := cell_at (v := .bool b2) HB_x2.out 0 rfl
    have x21 := cell_at (v := .slice o2 n2 m2) HB_x2.out 1 rfl
    have x22 := cell_at (v := .slice p2 l2 e2) HB_x2.out 2 rfl
    refine (HF.out _ (tab_below HTB.out hbt)).mono ?_
    rintro e wx2 ⟨rfl, hbx⟩
    replace hbt := hbt.trans (hbx.mono hbt.size)
    replace HB_x0 := Lib.hid ((hbx.block _ (lt_of_block HB_x0.out)).trans HB_x0.out)
    replace HB_x1 := Lib.hid ((hbx.block _ (lt_of_block HB_x1.out)).trans HB_x1.out)
    replace HB_x2 := Lib.hid ((hbx.block _ (lt_of_block HB_x2.out)).trans HB_x2.out)
    clear hbx
    replace x00 := cell_at (v := .bool b0) HB_x0.out 0 rfl
    replace x01 := cell_at (v := .slice o0 n0 m0) HB_x0.out 1 rfl
    replace x02 := cell_at (v := .slice p0 l0 e0) HB_x0.out 2 rfl
    replace x10 := cell_at (v := .bool b1) HB_x1.out 0 rfl
    replace x11 := cell_at (v := .slice o1 n1 m1) HB_x1.out 1 rfl
    replace x12 := cell_at (v := .slice p1 l1 e1) HB_x1.out 2 rfl
    replace x20 := cell_at (v := .bool b2) HB_x2.out 0 rfl
    replace x21 := cell_at (v := .slice o2 n2 m2) HB_x2.out 1 rfl
    replace x22 := cell_at (v := .slice p2 l2 e2) HB_x2.out 2 rfl
    go_wp2_with fail
    refine (qshort_f3 4 _ rfl HS.out).mono ?_
    rintro e wx3 ⟨rfl, hbx⟩
    replace hbt := hbt.trans (hbx.mono hbt.size)
    replace HB_x0 := Lib.hid ((hbx.block _ (lt_of_block HB_x0.out)).trans HB_x0.out)
    replace HB_x1 := Lib.hid ((hbx.block _ (lt_of_block HB_x1.out)).trans HB_x1.out)
    replace HB_x2 := Lib.hid ((hbx.block _ (lt_of_block HB_x2.out)).trans HB_x2.out)
    clear hbx
    replace x00 := cell_at (v := .bool b0) HB_x0.out 0 rfl
    replace x01 := cell_at (v := .slice o0 n0 m0) HB_x0.out 1 rfl
    replace x02 := cell_at (v := .slice p0 l0 e0) HB_x0.out 2 rfl
    replace x10 := cell_at (v := .bool b1) HB_x1.out 0 rfl
    replace x11 := cell_at (v := .slice o1 n1 m1) HB_x1.out 1 rfl
    replace x12 := cell_at (v := .slice p1 l1 e1) HB_x1.out 2 rfl
    replace x20 := cell_at (v := .bool b2) HB_x2.out 0 rfl
    replace x21 := cell_at (v := .slice o2 n2 m2) HB_x2.out 1 rfl
    replace x22 := cell_at (v := .slice p2 l2 e2) HB_x2.out 2 rfl
    go_wp2_with fail
    go_ret
    exact ⟨rfl, hbt⟩
end Go.Proofs.YtmindndmegiaaaaDoor
