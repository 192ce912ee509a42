/-
  The law TreeTexts: its walk.
-/
import Derived.Test.YtcdacmbcecjliaaDoorTrN
import Derived.Test.YtcdacmbcecjliaaDoorTrF
namespace Go.Proofs.YtcdacmbcecjliaaDoor
open Go.RowKit
set_option linter.unusedVariables false
set_option maxRecDepth 100000

set_option maxHeartbeats 4000000 in
theorem fullUp_any (d : Nat) (hd : d ≤ 6) (x : X) (t : T) (w : World) (S : Nat → Prop) (ht : Tabs w) (h : Tr w S d x t) (ho : Ok d t) :
    Calls Tryd.prog 15 #[xv x] w fun e w' => e = .returned (.string ⟨(fl t).toArray⟩) ∧ Below w.heap.size w w' := by
  have HT := Lib.hid ht
  have HR := Lib.hid h
  have HO := Lib.hid ho
  obtain ⟨xk, xnm, xot, xb, xao, xn, xq, xko, xkn, xkc, xln, xcl⟩ := x
  clear ht h ho
  simp only [xv]
  go_enter Tryd.func15, Tryd.ntmps15
  go_wp2_with fail
  have hb0 : Below w.heap.size w (w.alloc (.cells #[.int .i64 xk, .string xnm, .string xot, .bool xb, .slice xao xn xq, .slice xko xkn xkc, .int .i64 xln, .int .i64 xcl] 29)) := (Below.refl _ _).alloc (Nat.le_refl _) _
  have HB0 := Lib.hid hb0
  clear hb0
  refine (full_all d hd ⟨xk, xnm, xot, xb, xao, xn, xq, xko, xkn, xkc, xln, xcl⟩ t _ S (HT.out.below HB0.out) (HR.out.below HB0.out) HO.out).mono ?_
  rintro e w1 ⟨rfl, hb1⟩
  have HB1 := Lib.hid (HB0.out.trans (hb1.mono HB0.out.size))
  clear hb1
  go_wp2_with fail
  go_ret
  exact ⟨rfl, HB1.out⟩

set_option maxHeartbeats 8000000 in
theorem treeTexts_walk (x : X) (w : World) (hr : ∀ d, Raw w d x) (ht : Tabs w) :
    Calls Tryd.prog 4 #[xv x] w fun e w' => e = .returned (.bool true) ∧ Below w.heap.size w w' := by
  have hr6 := hr 6
  obtain ⟨xk, xnm, xot, xb, xao, xn, xq, xko, xkn, xkc, xln, xcl⟩ := x
  obtain ⟨k0, hk0⟩ : ∃ k0, k0 = w.heap.size := ⟨_, rfl⟩
  obtain ⟨w1, hw1⟩ : ∃ w1, w1 = w.alloc (.cells #[.int .i64 xk, .string xnm, .string xot, .bool xb, .slice xao xn xq, .slice xko xkn xkc, .int .i64 xln, .int .i64 xcl] 29) := ⟨_, rfl⟩
  have hb1 : Below w.heap.size w w1 := by rw [hw1]; exact (Below.refl _ _).alloc (Nat.le_refl _) _
  have hx1 : w1.heap[k0]? = some (.cells #[.int .i64 xk, .string xnm, .string xot, .bool xb, .slice xao xn xq, .slice xko xkn xkc, .int .i64 xln, .int .i64 xcl] 29 (0, 0)) := by rw [hw1, hk0]; exact made_at w _ _ rfl
  have HX1 := Lib.hid hx1
  have HT1 := Lib.hid (ht.below hb1)
  have HR1 := Lib.hid (hr6.below hb1)
  have HB1 := Lib.hid hb1
  simp only [xv]
  go_enter Tryd.func4, Tryd.ntmps4
  go_upto_region 1 with fail
  rw [← hw1, ← hk0]
  clear hw1 hk0 hb1 hx1 hr hr6 ht
  go_wp2_with fail
  refine (fit_any w1 HT1.out).mono ?_
  rintro e w2 ⟨rfl, hb2⟩
  have hx2 := (hb2.block k0 (lt_of_block HX1.out)).trans HX1.out
  have HT2 := Lib.hid (HT1.out.below hb2)
  have HR2 := Lib.hid (HR1.out.below hb2)
  have HB2 := Lib.hid (HB1.out.trans (hb2.mono HB1.out.size))
  have x0 := cell_at (v := .int .i64 xk) hx2 0 rfl
  have x1 := cell_at (v := .string xnm) hx2 1 rfl
  have x2 := cell_at (v := .string xot) hx2 2 rfl
  have x3 := cell_at (v := .bool xb) hx2 3 rfl
  have x4 := cell_at (v := .slice xao xn xq) hx2 4 rfl
  have x5 := cell_at (v := .slice xko xkn xkc) hx2 5 rfl
  have x6 := cell_at (v := .int .i64 xln) hx2 6 rfl
  have x7 := cell_at (v := .int .i64 xcl) hx2 7 rfl
  clear hb2 hx2
  go_wp2_with fail
  refine (tame_all 6 (by decide) ⟨xk, xnm, xot, xb, xao, xn, xq, xko, xkn, xkc, xln, xcl⟩ w2 (by decide) HR2.out).mono ?_
  rintro e w3 ⟨y, t, rfl, hT, hO, hb3⟩
  have hTu := hT.mono (S' := fun _ => True) fun _ _ => trivial
  obtain ⟨yk, ynm, yot, yb, yao, yn, yq, yko, ykn, ykc, yln, ycl⟩ := y
  have hb3' := HB2.out.trans (hb3.mono HB2.out.size)
  have ht3 := HT2.out.below hb3
  simp only [xv]
  obtain ⟨k3, hk3⟩ : ∃ k3, k3 = w3.heap.size := ⟨_, rfl⟩
  obtain ⟨w4, hw4⟩ : ∃ w4, w4 = w3.alloc (.cells #[.int .i64 yk, .string ynm, .string yot, .bool yb, .slice yao yn yq, .slice yko ykn ykc, .int .i64 yln, .int .i64 ycl] 29) := ⟨_, rfl⟩
  have hb34 : Below w3.heap.size w3 w4 := by rw [hw4]; exact (Below.refl _ _).alloc (Nat.le_refl _) _
  have hx4 : w4.heap[k3]? = some (.cells #[.int .i64 yk, .string ynm, .string yot, .bool yb, .slice yao yn yq, .slice yko ykn ykc, .int .i64 yln, .int .i64 ycl] 29 (0, 0)) := by rw [hw4, hk3]; exact made_at w3 _ _ rfl
  have HX4 := Lib.hid hx4
  have HT4 := Lib.hid (ht3.below hb34)
  have HTR4 := Lib.hid (hTu.below hb34)
  have HO := Lib.hid hO.1
  have HB4 := Lib.hid (hb3'.trans (hb34.mono hb3'.size))
  have HW4 := Lib.hid hw4
  have HK3 := Lib.hid hk3
  clear hT hTu hO hb3 hb3' ht3 hw4 hk3 hb34 hx4 x0 x1 x2 x3 x4 x5 x6 x7
  go_upto_region 4 with fail
  rw [← HW4.out, ← HK3.out]
  have HB_x := HX4
  have hlt_x := lt_of_block HB_x.out
  refine Rely.region (by kernel_rfl) [[], [0], [], [0, 1, 2], [0, 1, 2, 3], [0, 1, 2, 3, 4]] [] [] (fun _ => 0) 0 6 (by kernel_rfl) (by kernel_rfl) (fun q h => absurd h (Nat.not_lt_zero q)) (fun q _ h => absurd h (Nat.not_lt_zero q)) ?_
  refine Rely.Chain.det ?_ (by rfl) (fun T xs wr hA => ?_) ?_
  rotate_left 1
  · have e3 := hA.pre 3 (by kernel_rfl)
    simp only [List.getElem?_toArray, List.getElem?_cons_succ, List.getElem?_cons_zero] at e3
    have hBq : wr.heap[k3]? = _ := (hA.bl _ hlt_x (fun q h => absurd h (Nat.not_lt_zero q))).trans HB_x.out
    have q0 := cell_at (v := .int .i64 yk) hBq 0 rfl
    have q1 := cell_at (v := .string ynm) hBq 1 rfl
    have q2 := cell_at (v := .string yot) hBq 2 rfl
    have q3 := cell_at (v := .bool yb) hBq 3 rfl
    have q4 := cell_at (v := .slice yao yn yq) hBq 4 rfl
    have q5 := cell_at (v := .slice yko ykn ykc) hBq 5 rfl
    have q6 := cell_at (v := .int .i64 yln) hBq 6 rfl
    have q7 := cell_at (v := .int .i64 ycl) hBq 7 rfl
    clear hBq
    clear hA
    refine ⟨(by rfl), ?_⟩
    go_simp <;> (try with_reducible rfl)
  refine Rely.Chain.grow (fun _ v _ => v = .string ⟨(tx t).toArray⟩) (fun _ _ _ _ h _ => h) rfl (by rfl) (fun T xs wr hA => ?_) ?_
  · have e10 := hA.tm 0 10 (by rfl) (by rfl)
    have f10 : xs 0 = _ := hA.fa 0 (by rfl)
    (try simp (disch := first | rfl | decide) only [Rely.mask_in] at f10)
    rw [f10] at e10
    clear f10
    have hbw := undrew (hA.be _ (Nat.le_refl _) (fun q h => absurd h (Nat.not_lt_zero q)))
    have htq := Lib.hid (HT4.out.below hbw)
    have hrq := Lib.hid (HTR4.out.below hbw)
    clear hbw
    clear hA
    refine ⟨(by rfl), fun K hK => ?_⟩
    go_simp
    refine (text_any5 6 (by decide) ⟨yk, ynm, yot, yb, yao, yn, yq, yko, ykn, ykc, yln, ycl⟩ t (fun _ => True) _ htq.out hrq.out HO.out).mono ?_
    rintro e wq ⟨rfl, hb⟩
    exact hK.out _ _ rfl hb
  refine Rely.Chain.det ?_ (by rfl) (fun T xs wr hA => ?_) ?_
  rotate_left 1
  · have e3 := hA.pre 3 (by kernel_rfl)
    simp only [List.getElem?_toArray, List.getElem?_cons_succ, List.getElem?_cons_zero] at e3
    have hBq : wr.heap[k3]? = _ := (hA.bl _ hlt_x (fun q h => absurd h (Nat.not_lt_zero q))).trans HB_x.out
    have q0 := cell_at (v := .int .i64 yk) hBq 0 rfl
    have q1 := cell_at (v := .string ynm) hBq 1 rfl
    have q2 := cell_at (v := .string yot) hBq 2 rfl
    have q3 := cell_at (v := .bool yb) hBq 3 rfl
    have q4 := cell_at (v := .slice yao yn yq) hBq 4 rfl
    have q5 := cell_at (v := .slice yko ykn ykc) hBq 5 rfl
    have q6 := cell_at (v := .int .i64 yln) hBq 6 rfl
    have q7 := cell_at (v := .int .i64 ycl) hBq 7 rfl
    clear hBq
    clear hA
    refine ⟨(by rfl), ?_⟩
    go_simp <;> (try with_reducible rfl)
  refine Rely.Chain.grow (fun _ v _ => v = .string ⟨(fl t).toArray⟩) (fun _ _ _ _ h _ => h) rfl (by rfl) (fun T xs wr hA => ?_) ?_
  · have e12 := hA.tm 2 12 (by rfl) (by rfl)
    have f12 : xs 2 = _ := hA.fa 2 (by rfl)
    (try simp (disch := first | rfl | decide) only [Rely.mask_in] at f12)
    rw [f12] at e12
    clear f12
    have hbw := undrew (hA.be _ (Nat.le_refl _) (fun q h => absurd h (Nat.not_lt_zero q)))
    have htq := Lib.hid (HT4.out.below hbw)
    have hrq := Lib.hid (HTR4.out.below hbw)
    clear hbw
    clear hA
    refine ⟨(by rfl), fun K hK => ?_⟩
    go_simp
    refine (fullUp_any 6 (by decide) ⟨yk, ynm, yot, yb, yao, yn, yq, yko, ykn, ykc, yln, ycl⟩ t _ (fun _ => True) htq.out hrq.out HO.out).mono ?_
    rintro e wq ⟨rfl, hb⟩
    exact hK.out _ _ rfl hb
  refine Rely.Chain.det ?_ (by rfl) (fun T xs wr hA => ?_) ?_
  rotate_left 1
  · have e11 := hA.tm 1 11 (by rfl) (by rfl)
    have f11 : xs 1 = (.string ⟨(tx t).toArray⟩) := hA.fa 1 (by rfl)
    rw [f11] at e11
    clear f11
    clear hA
    refine ⟨(by rfl), ?_⟩
    go_simp <;> (try with_reducible rfl)
  refine Rely.Chain.det ?_ (by rfl) (fun T xs wr hA => ?_) ?_
  rotate_left 1
  · have e13 := hA.tm 3 13 (by rfl) (by rfl)
    have f13 : xs 3 = (.string ⟨(fl t).toArray⟩) := hA.fa 3 (by rfl)
    rw [f13] at e13
    clear f13
    clear hA
    refine ⟨(by rfl), ?_⟩
    go_simp <;> (try with_reducible rfl)
  refine Rely.Chain.done (fun xs w5 hL => ?_)
  obtain ⟨⟨hbe, hbl, hkp0⟩, hf, hp, hn⟩ := hL
  have f0 : xs 0 = _ := hf 0 (by decide)
  (try simp (disch := first | rfl | decide) only [Rely.mask_in] at f0)
  have f1 : xs 1 = (.string ⟨(tx t).toArray⟩) := hf 1 (by decide)
  have f2 : xs 2 = _ := hf 2 (by decide)
  (try simp (disch := first | rfl | decide) only [Rely.mask_in] at f2)
  have f3 : xs 3 = (.string ⟨(fl t).toArray⟩) := hf 3 (by decide)
  have f4 : xs 4 = _ := hf 4 (by decide)
  (try simp (disch := first | rfl | decide) only [Rely.mask_in] at f4)
  have f5 : xs 5 = _ := hf 5 (by decide)
  (try simp (disch := first | rfl | decide) only [Rely.mask_in] at f5)
  have hbx : Below w4.heap.size w4 w5 := undrew (hbe _ (Nat.le_refl _) (fun q h => absurd h (Nat.not_lt_zero q)))
  clear hbe hbl hkp0 hf hp hn
  replace HB_x := Lib.hid ((hbx.block _ hlt_x).trans HB_x.out)
  clear hlt_x
  refine Rely.rest_done ?_
  simp only [Rely.fill, List.setIfInBounds_toArray, List.set_cons_zero, List.set_cons_succ, f0, f1, f2, f3, f4, f5]
  clear f0 f1 f2 f3 f4 f5
  have HB5 := Lib.hid (HB4.out.trans (hbx.mono HB4.out.size))
  clear hbx HB_x HX4 HTR4 HT4 HW4 HK3 HX1 HT1 HR1 HT2 HR2
  obtain ⟨hst, hle⟩ := tx_fl 6 t HO.out
  have hle0 := hle 0 (by decide)
  have hlx : (tx t).length ≤ (ex 0 t).length := by
    unfold ex br
    rw [if_pos (Nat.zero_le _)]
    exact Nat.le_refl _
  have hll := (len_all 6 t HO.out).2
  have hLL : LL 6 = 491520 := rfl
  rw [hLL] at hll
  have q1 : (⟨(tx t).toArray⟩ : ByteArray).size = (tx t).length := rfl
  have q2 : (⟨(fl t).toArray⟩ : ByteArray).size = (fl t).length := rfl
  have hlt : (tx t).length ≤ (fl t).length := by omega
  have HST := Lib.hid hst
  clear hst hle hle0 hlx hLL HO
  generalize tx t = s at *
  generalize fl t = u at *
  go_wp2_with fail
  refine (strip_any s (by omega) w5).mono ?_
  rintro e w6 ⟨rfl, hb6⟩
  have HB6 := Lib.hid (HB5.out.trans (hb6.mono HB5.out.size))
  clear hb6
  go_wp2_with fail
  refine (strip_any u (by omega) w6).mono ?_
  rintro e w7 ⟨rfl, hb7⟩
  have HB7 := Lib.hid (HB6.out.trans (hb7.mono HB6.out.size))
  clear hb7
  rw [HST.out]
  go_wp2_with fail
  go_ret
  exact ⟨rfl, HB7.out⟩
end Go.Proofs.YtcdacmbcecjliaaDoor
