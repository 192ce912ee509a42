/-
  The contract of the writer's method bare, one step, given those of expr for the kids.
-/
import Derived.Test.YtcdacmbcecjliaaDoorTrY
import Derived.Deep.DeepCutAuto
import Derived.Laws.Concat
namespace Go.Proofs.YtcdacmbcecjliaaDoor
open Go.RowKit
set_option linter.unusedVariables false
set_option maxRecDepth 100000

theorem sl_two {w0 w w' : World} {ao : Option Addr} {n c : Nat} {xs : List Nat} (h : Sl w0 .u32 (.slice ao n c) xs) (h1 : Below w0.heap.size w0 w) (h2 : Below w.heap.size w w') : Sl w' .u32 (.slice ao n c) xs := (h.below h1).below h2

theorem phrase_n (w0 : World) (d : Nat) (E : Hid (ExprAt w0 d)) (b : Nat) (l : Bs) (k : Nat) (nm ot : Bs) (z : Nat) (ks : List T) (x : X) (S : Nat → Prop) (g : Nat) (ws : List Bs) (n c : Nat) (w : World) (hn : ks.length = n) (h : Tr w0 S (d + 1) x (.node k nm ot z ks)) (ho : Ok (d + 1) (.node k nm ot z ks)) (hws : ws.length = n) (hwl : (ws.map List.length).sum ≤ 40) (hwd : Words w g ws)
    (hbw : Below w0.heap.size w0 w) (hwr : Wr w0.heap.size b l w) (hlen : l.length + LL (d + 1) ≤ 1000000) :
    Calls Tryd.prog 41 #[.pointer (some ⟨b, 0, none⟩), xv x, .slice (some ⟨g, 0, none⟩) n c] w (WrPost w0.heap.size b (l ++ phr ws (k0 ks)) w) := by
  subst hn
  exact phrase_any w0 d E b l k nm ot z ks x S g ws c w h ho hws hwl hwd hbw hwr hlen

set_option maxHeartbeats 8000000 in
theorem bare_num (w0 : World) (d : Nat) (E : Hid (ExprAt w0 d)) (b : Nat) (l : Bs) (k : Nat) (nm ot : Bs) (z : Nat) (ks : List T) (x : X) (S : Nat → Prop) (w : World) (ht : Tabs w0) (hk0 : k = 0) (h : Tr w0 S (d + 1) x (.node k nm ot z ks)) (ho : Ok (d + 1) (.node k nm ot z ks))
    (hbw : Below w0.heap.size w0 w) (hwr : Wr w0.heap.size b l w) (hlen : l.length + LL (d + 1) ≤ 1000000) :
    Calls Tryd.prog 37 #[.pointer (some ⟨b, 0, none⟩), xv x] w (WrPost w0.heap.size b (l ++ tx (.node k nm ot z ks)) w) := by
  subst hk0
  have HTX : Hid (tx (.node 0 nm ot z ks) = zText (z : Int)) := Lib.hid (by rw [tx]; rfl)
  have hzl := zlen ho.2.2.2.1
  have HOK := Lib.hid ho
  obtain ⟨hk, hn, hoo, hz, ha, hl, hks⟩ := ho
  have htr := h
  obtain ⟨⟨e1, e2, e3, e4⟩, ⟨h2, h3⟩, ⟨h4, h5, h6⟩, h7⟩ := h
  obtain ⟨xk, xnm, xot, xb, xao, xn, xq, xko, xkn, xkc, xln, xcl⟩ := x
  simp only at e1 e2 e3 e4 h2 h3 h4 h5 h6 h7
  subst e1 e2 e3 e4 h4
  have HTR := Lib.hid htr
  have HK := Lib.hid h7
  have HKS := Lib.hid hks
  have HS := Lib.hid h2
  have HT := Lib.hid ht
  have HBW := Lib.hid hbw
  have HWR := Lib.hid hwr
  have hsB := hbw.size
  have hLS := LL_succ d
  obtain ⟨k3, hk3⟩ : ∃ k3, k3 = w.heap.size := ⟨_, rfl⟩
  obtain ⟨w9, hw9⟩ : ∃ w9, w9 = w.alloc (.cells #[.int .i64 0, .string ⟨nm.toArray⟩, .string ⟨ot.toArray⟩, .bool false, .slice xao xn xq, .slice xko ks.length xkc, .int .i64 xln, .int .i64 xcl] 29) := ⟨_, rfl⟩
  have hba : Below w.heap.size w w9 := by rw [hw9]; exact (Below.refl _ _).alloc (Nat.le_refl _) _
  have hx9 : w9.heap[k3]? = some (.cells #[.int .i64 0, .string ⟨nm.toArray⟩, .string ⟨ot.toArray⟩, .bool false, .slice xao xn xq, .slice xko ks.length xkc, .int .i64 xln, .int .i64 xcl] 29 (0, 0)) := by rw [hw9, hk3]; exact made_at w _ _ rfl
  have HB_x := Lib.hid hx9
  have HW9 := Lib.hid (HWR.out.below hba)
  have HB9 := Lib.hid (hba.mono hsB)
  have HF9 := Lib.hid (fr_below hba)
  have hs9 := hba.size
  have x0 := cell_at (v := .int .i64 0) hx9 0 rfl
  have x1 := cell_at (v := .string ⟨nm.toArray⟩) hx9 1 rfl
  have x2 := cell_at (v := .string ⟨ot.toArray⟩) hx9 2 rfl
  have x3 := cell_at (v := .bool false) hx9 3 rfl
  have x4 := cell_at (v := .slice xao xn xq) hx9 4 rfl
  have x5 := cell_at (v := .slice xko ks.length xkc) hx9 5 rfl
  have x6 := cell_at (v := .int .i64 xln) hx9 6 rfl
  have x7 := cell_at (v := .int .i64 xcl) hx9 7 rfl
  clear htr h2 h3 h6 h7 hks ha hba hx9 ht hbw hwr
  simp only [xv]
  go_enter Tryd.func37, Tryd.ntmps37
  go_upto_region 1 with fail
  rw [← hw9, ← hk3]
  clear hw9 hk3
  go_wp2_with fail
  have hlt_x := lt_of_block HB_x.out
  refine Rely.region (by kernel_rfl) [[], [0], [0, 1], [], [3], [3, 4], [0, 1, 2, 3, 4, 5]] [] [] (fun _ => 0) 0 6 (by kernel_rfl) (by kernel_rfl) (fun q h => absurd h (Nat.not_lt_zero q)) (fun q _ h => absurd h (Nat.not_lt_zero q)) ?_
  refine Rely.Chain.det ?_ (by rfl) (fun T xs wr hA => ?_) ?_
  rotate_left 1
  · have e0 := hA.pre 0 (by kernel_rfl)
    simp only [List.getElem?_toArray, List.getElem?_cons_zero] at e0
    clear hA
    refine ⟨(by rfl), ?_⟩
    go_simp <;> (try with_reducible rfl)
  refine Rely.Chain.det ?_ (by rfl) (fun T xs wr hA => ?_) ?_
  rotate_left 1
  · have e11 := hA.tm 0 11 (by rfl) (by rfl)
    have f11 : xs 0 = _ := hA.fa 0 (by rfl)
    (try simp (disch := first | rfl | decide) only [Rely.mask_in] at f11)
    rw [f11] at e11
    clear f11
    clear hA
    refine ⟨(by rfl), ?_⟩
    go_simp <;> (try with_reducible rfl)
  refine Rely.Chain.det ?_ (by rfl) (fun T xs wr hA => ?_) ?_
  rotate_left 1
  · have e12 := hA.tm 1 12 (by rfl) (by rfl)
    have f12 : xs 1 = _ := hA.fa 1 (by rfl)
    (try simp (disch := first | rfl | decide) only [Rely.mask_in] at f12)
    rw [f12] at e12
    clear f12
    clear hA
    refine ⟨(by rfl), ?_⟩
    go_simp <;> (try with_reducible rfl)
  refine Rely.Chain.det ?_ (by rfl) (fun T xs wr hA => ?_) ?_
  rotate_left 1
  · have e3 := hA.pre 3 (by kernel_rfl)
    simp only [List.getElem?_toArray, List.getElem?_cons_succ, List.getElem?_cons_zero] at e3
    clear hA
    refine ⟨(by rfl), ?_⟩
    go_simp <;> (try with_reducible rfl)
  refine Rely.Chain.det ?_ (by rfl) (fun T xs wr hA => ?_) ?_
  rotate_left 1
  · have e14 := hA.tm 3 14 (by rfl) (by rfl)
    have f14 : xs 3 = _ := hA.fa 3 (by rfl)
    (try simp (disch := first | rfl | decide) only [Rely.mask_in] at f14)
    rw [f14] at e14
    clear f14
    have hBq : wr.heap[k3]? = _ := (hA.bl _ hlt_x (fun q h => absurd h (Nat.not_lt_zero q))).trans HB_x.out
    have q0 := cell_at (v := .int .i64 0) hBq 0 rfl
    have q1 := cell_at (v := .string ⟨nm.toArray⟩) hBq 1 rfl
    have q2 := cell_at (v := .string ⟨ot.toArray⟩) hBq 2 rfl
    have q3 := cell_at (v := .bool false) hBq 3 rfl
    have q4 := cell_at (v := .slice xao xn xq) hBq 4 rfl
    have q5 := cell_at (v := .slice xko ks.length xkc) hBq 5 rfl
    have q6 := cell_at (v := .int .i64 xln) hBq 6 rfl
    have q7 := cell_at (v := .int .i64 xcl) hBq 7 rfl
    clear hBq
    clear hA
    refine ⟨(by rfl), ?_⟩
    go_simp <;> (try with_reducible rfl)
  refine Rely.Chain.grow (fun _ v _ => v = .string ⟨(zText (z : Int)).toArray⟩) (fun _ _ _ _ h _ => h) rfl (by rfl) (fun T xs wr hA => ?_) ?_
  · have e15 := hA.tm 4 15 (by rfl) (by rfl)
    have f15 : xs 4 = _ := hA.fa 4 (by rfl)
    (try simp (disch := first | rfl | decide) only [Rely.mask_in] at f15)
    rw [f15] at e15
    clear f15
    have hbw := undrew (hA.be _ (Nat.le_refl _) (fun q h => absurd h (Nat.not_lt_zero q)))
    have hg : GI wr (.agg #[.bool false, .slice xao xn xq]) (z : Int) 4 := ⟨false, _, z, rfl, gn_dig (sl_two HS.out (HBW.out.trans HB9.out) hbw) hz, rfl⟩
    have htb := ((HT.out.below (HBW.out.trans HB9.out)).below hbw).p10
    have HG := Lib.hid hg
    have HTB := Lib.hid htb
    clear hg htb hbw
    clear hA
    refine ⟨(by rfl), fun K hK => ?_⟩
    go_simp
    refine (wtext_any _ _ 4 _ HTB.out HG.out (by decide)).mono ?_
    rintro e wq ⟨rfl, hb⟩
    exact hK.out _ _ rfl hb
  refine Rely.Chain.done (fun xs w10 hL => ?_)
  obtain ⟨⟨hbe, hbl, hkp0⟩, hf, hp, hn⟩ := hL
  have f0 : xs 0 = _ := hf 0 (by decide)
  (try simp (disch := first | rfl | decide) only [Rely.mask_in] at f0)
  have f1 : xs 1 = _ := hf 1 (by decide)
  (try simp (disch := first | rfl | decide) only [Rely.mask_in] at f1)
  have f2 : xs 2 = _ := hf 2 (by decide)
  (try simp (disch := first | rfl | decide) only [Rely.mask_in] at f2)
  have f3 : xs 3 = _ := hf 3 (by decide)
  (try simp (disch := first | rfl | decide) only [Rely.mask_in] at f3)
  have f4 : xs 4 = _ := hf 4 (by decide)
  (try simp (disch := first | rfl | decide) only [Rely.mask_in] at f4)
  have f5 : xs 5 = (.string ⟨(zText (z : Int)).toArray⟩) := hf 5 (by decide)
  have hbx : Below w9.heap.size w9 w10 := undrew (hbe _ (Nat.le_refl _) (fun q h => absurd h (Nat.not_lt_zero q)))
  clear hbe hbl hkp0 hf hp hn
  replace HB_x := Lib.hid ((hbx.block _ hlt_x).trans HB_x.out)
  clear hlt_x
  refine Rely.rest_list (by decide) (by kernel_rfl) ?_
  simp only [Rely.fill, List.take_succ_cons, List.take_zero, List.drop_succ_cons, List.drop_zero, List.setIfInBounds_toArray, List.set_cons_zero, List.set_cons_succ, f0, f1, f2, f3, f4, f5]
  clear f0 f1 f2 f3 f4 f5
  have HBX := Lib.hid hbx
  have hs10 := hbx.size
  have H10 := Lib.hid (HW9.out.below hbx)
  have HB10 := Lib.hid (HB9.out.trans (hbx.mono (by omega)))
  have HF10 := Lib.hid (HF9.out.trans (fr_below hbx))
  clear hbx
  clear x0 x1 x2 x3 x4 x5 x6 x7
  go_wp2_with fail
  refine (wr_str w0.heap.size b l (zText (z : Int)) w10 H10.out (by omega) (by omega)).mono ?_
  rintro e w11 ⟨⟨v, rfl⟩, hw5, hb5, hfr5⟩
  have H11 := Lib.hid hw5
  have HB11 := Lib.hid (HB10.out.trans hb5)
  have HF11 := Lib.hid (HF10.out.trans hfr5)
  clear hw5 hb5 hfr5
  go_wp2_with fail
  go_end0
  exact ⟨⟨_, rfl⟩, (by rw [HTX.out]; exact H11.out), HB11.out, HF11.out⟩

set_option maxHeartbeats 8000000 in
theorem bare_var (w0 : World) (d : Nat) (E : Hid (ExprAt w0 d)) (b : Nat) (l : Bs) (k : Nat) (nm ot : Bs) (z : Nat) (ks : List T) (x : X) (S : Nat → Prop) (w : World) (ht : Tabs w0) (hk0 : k = 3) (h : Tr w0 S (d + 1) x (.node k nm ot z ks)) (ho : Ok (d + 1) (.node k nm ot z ks))
    (hbw : Below w0.heap.size w0 w) (hwr : Wr w0.heap.size b l w) (hlen : l.length + LL (d + 1) ≤ 1000000) :
    Calls Tryd.prog 37 #[.pointer (some ⟨b, 0, none⟩), xv x] w (WrPost w0.heap.size b (l ++ tx (.node k nm ot z ks)) w) := by
  subst hk0
  have HTX : Hid (tx (.node 3 nm ot z ks) = nm) := Lib.hid (by rw [tx]; rfl)
  have HOK := Lib.hid ho
  obtain ⟨hk, hn, hoo, hz, ha, hl, hks⟩ := ho
  have htr := h
  obtain ⟨⟨e1, e2, e3, e4⟩, ⟨h2, h3⟩, ⟨h4, h5, h6⟩, h7⟩ := h
  obtain ⟨xk, xnm, xot, xb, xao, xn, xq, xko, xkn, xkc, xln, xcl⟩ := x
  simp only at e1 e2 e3 e4 h2 h3 h4 h5 h6 h7
  subst e1 e2 e3 e4 h4
  have HTR := Lib.hid htr
  have HK := Lib.hid h7
  have HKS := Lib.hid hks
  have HS := Lib.hid h2
  have HT := Lib.hid ht
  have HBW := Lib.hid hbw
  have HWR := Lib.hid hwr
  have hsB := hbw.size
  have hLS := LL_succ d
  obtain ⟨k3, hk3⟩ : ∃ k3, k3 = w.heap.size := ⟨_, rfl⟩
  obtain ⟨w9, hw9⟩ : ∃ w9, w9 = w.alloc (.cells #[.int .i64 3, .string ⟨nm.toArray⟩, .string ⟨ot.toArray⟩, .bool false, .slice xao xn xq, .slice xko ks.length xkc, .int .i64 xln, .int .i64 xcl] 29) := ⟨_, rfl⟩
  have hba : Below w.heap.size w w9 := by rw [hw9]; exact (Below.refl _ _).alloc (Nat.le_refl _) _
  have hx9 : w9.heap[k3]? = some (.cells #[.int .i64 3, .string ⟨nm.toArray⟩, .string ⟨ot.toArray⟩, .bool false, .slice xao xn xq, .slice xko ks.length xkc, .int .i64 xln, .int .i64 xcl] 29 (0, 0)) := by rw [hw9, hk3]; exact made_at w _ _ rfl
  have HB_x := Lib.hid hx9
  have HW9 := Lib.hid (HWR.out.below hba)
  have HB9 := Lib.hid (hba.mono hsB)
  have HF9 := Lib.hid (fr_below hba)
  have hs9 := hba.size
  have x0 := cell_at (v := .int .i64 3) hx9 0 rfl
  have x1 := cell_at (v := .string ⟨nm.toArray⟩) hx9 1 rfl
  have x2 := cell_at (v := .string ⟨ot.toArray⟩) hx9 2 rfl
  have x3 := cell_at (v := .bool false) hx9 3 rfl
  have x4 := cell_at (v := .slice xao xn xq) hx9 4 rfl
  have x5 := cell_at (v := .slice xko ks.length xkc) hx9 5 rfl
  have x6 := cell_at (v := .int .i64 xln) hx9 6 rfl
  have x7 := cell_at (v := .int .i64 xcl) hx9 7 rfl
  clear htr h2 h3 h6 h7 hks ha hba hx9 ht hbw hwr
  simp only [xv]
  go_enter Tryd.func37, Tryd.ntmps37
  go_upto_region 1 with fail
  rw [← hw9, ← hk3]
  clear hw9 hk3
  go_wp2_with fail
  have hlt_x := lt_of_block HB_x.out
  refine Rely.region (by kernel_rfl) [[], [0], [0, 1], [], [3], [0, 1, 2, 3, 4]] [] [] (fun _ => 0) 0 5 (by kernel_rfl) (by kernel_rfl) (fun q h => absurd h (Nat.not_lt_zero q)) (fun q _ h => absurd h (Nat.not_lt_zero q)) ?_
  refine Rely.Chain.det ?_ (by rfl) (fun T xs wr hA => ?_) ?_
  rotate_left 1
  · have e0 := hA.pre 0 (by kernel_rfl)
    simp only [List.getElem?_toArray, List.getElem?_cons_zero] at e0
    clear hA
    refine ⟨(by rfl), ?_⟩
    go_simp <;> (try with_reducible rfl)
  refine Rely.Chain.det ?_ (by rfl) (fun T xs wr hA => ?_) ?_
  rotate_left 1
  · have e20 := hA.tm 0 20 (by rfl) (by rfl)
    have f20 : xs 0 = _ := hA.fa 0 (by rfl)
    (try simp (disch := first | rfl | decide) only [Rely.mask_in] at f20)
    rw [f20] at e20
    clear f20
    clear hA
    refine ⟨(by rfl), ?_⟩
    go_simp <;> (try with_reducible rfl)
  refine Rely.Chain.det ?_ (by rfl) (fun T xs wr hA => ?_) ?_
  rotate_left 1
  · have e21 := hA.tm 1 21 (by rfl) (by rfl)
    have f21 : xs 1 = _ := hA.fa 1 (by rfl)
    (try simp (disch := first | rfl | decide) only [Rely.mask_in] at f21)
    rw [f21] at e21
    clear f21
    clear hA
    refine ⟨(by rfl), ?_⟩
    go_simp <;> (try with_reducible rfl)
  refine Rely.Chain.det ?_ (by rfl) (fun T xs wr hA => ?_) ?_
  rotate_left 1
  · have e3 := hA.pre 3 (by kernel_rfl)
    simp only [List.getElem?_toArray, List.getElem?_cons_succ, List.getElem?_cons_zero] at e3
    clear hA
    refine ⟨(by rfl), ?_⟩
    go_simp <;> (try with_reducible rfl)
  refine Rely.Chain.det ?_ (by rfl) (fun T xs wr hA => ?_) ?_
  rotate_left 1
  · have e23 := hA.tm 3 23 (by rfl) (by rfl)
    have f23 : xs 3 = _ := hA.fa 3 (by rfl)
    (try simp (disch := first | rfl | decide) only [Rely.mask_in] at f23)
    rw [f23] at e23
    clear f23
    have hBq : wr.heap[k3]? = _ := (hA.bl _ hlt_x (fun q h => absurd h (Nat.not_lt_zero q))).trans HB_x.out
    have q0 := cell_at (v := .int .i64 3) hBq 0 rfl
    have q1 := cell_at (v := .string ⟨nm.toArray⟩) hBq 1 rfl
    have q2 := cell_at (v := .string ⟨ot.toArray⟩) hBq 2 rfl
    have q3 := cell_at (v := .bool false) hBq 3 rfl
    have q4 := cell_at (v := .slice xao xn xq) hBq 4 rfl
    have q5 := cell_at (v := .slice xko ks.length xkc) hBq 5 rfl
    have q6 := cell_at (v := .int .i64 xln) hBq 6 rfl
    have q7 := cell_at (v := .int .i64 xcl) hBq 7 rfl
    clear hBq
    clear hA
    refine ⟨(by rfl), ?_⟩
    go_simp <;> (try with_reducible rfl)
  refine Rely.Chain.done (fun xs w10 hL => ?_)
  obtain ⟨⟨hbe, hbl, hkp0⟩, hf, hp, hn⟩ := hL
  have f0 : xs 0 = _ := hf 0 (by decide)
  (try simp (disch := first | rfl | decide) only [Rely.mask_in] at f0)
  have f1 : xs 1 = _ := hf 1 (by decide)
  (try simp (disch := first | rfl | decide) only [Rely.mask_in] at f1)
  have f2 : xs 2 = _ := hf 2 (by decide)
  (try simp (disch := first | rfl | decide) only [Rely.mask_in] at f2)
  have f3 : xs 3 = _ := hf 3 (by decide)
  (try simp (disch := first | rfl | decide) only [Rely.mask_in] at f3)
  have f4 : xs 4 = _ := hf 4 (by decide)
  (try simp (disch := first | rfl | decide) only [Rely.mask_in] at f4)
  have hbx : Below w9.heap.size w9 w10 := undrew (hbe _ (Nat.le_refl _) (fun q h => absurd h (Nat.not_lt_zero q)))
  clear hbe hbl hkp0 hf hp hn
  replace HB_x := Lib.hid ((hbx.block _ hlt_x).trans HB_x.out)
  clear hlt_x
  refine Rely.rest_list (by decide) (by kernel_rfl) ?_
  simp only [Rely.fill, List.take_succ_cons, List.take_zero, List.drop_succ_cons, List.drop_zero, List.setIfInBounds_toArray, List.set_cons_zero, List.set_cons_succ, f0, f1, f2, f3, f4]
  clear f0 f1 f2 f3 f4
  have HBX := Lib.hid hbx
  have hs10 := hbx.size
  have H10 := Lib.hid (HW9.out.below hbx)
  have HB10 := Lib.hid (HB9.out.trans (hbx.mono (by omega)))
  have HF10 := Lib.hid (HF9.out.trans (fr_below hbx))
  clear hbx
  clear x0 x1 x2 x3 x4 x5 x6 x7
  go_wp2_with fail
  refine (wr_str w0.heap.size b l nm w10 H10.out (by omega) (by omega)).mono ?_
  rintro e w11 ⟨⟨v, rfl⟩, hw5, hb5, hfr5⟩
  have H11 := Lib.hid hw5
  have HB11 := Lib.hid (HB10.out.trans hb5)
  have HF11 := Lib.hid (HF10.out.trans hfr5)
  clear hw5 hb5 hfr5
  go_wp2_with fail
  go_end0
  exact ⟨⟨_, rfl⟩, (by rw [HTX.out]; exact H11.out), HB11.out, HF11.out⟩

set_option maxHeartbeats 8000000 in
theorem bare_c1 (w0 : World) (d : Nat) (E : Hid (ExprAt w0 d)) (b : Nat) (l : Bs) (k : Nat) (nm ot : Bs) (z : Nat) (ks : List T) (x : X) (S : Nat → Prop) (w : World) (ht : Tabs w0) (hk0 : k = 1) (h : Tr w0 S (d + 1) x (.node k nm ot z ks)) (ho : Ok (d + 1) (.node k nm ot z ks))
    (hbw : Below w0.heap.size w0 w) (hwr : Wr w0.heap.size b l w) (hlen : l.length + LL (d + 1) ≤ 1000000) :
    Calls Tryd.prog 37 #[.pointer (some ⟨b, 0, none⟩), xv x] w (WrPost w0.heap.size b (l ++ tx (.node k nm ot z ks)) w) := by
  subst hk0
  have HTX : Hid (tx (.node 1 nm ot z ks) = sg5 1) := Lib.hid (by rw [tx]; rfl)
  have hsl := sg5_len 1 (by decide)
  have HOK := Lib.hid ho
  obtain ⟨hk, hn, hoo, hz, ha, hl, hks⟩ := ho
  have htr := h
  obtain ⟨⟨e1, e2, e3, e4⟩, ⟨h2, h3⟩, ⟨h4, h5, h6⟩, h7⟩ := h
  obtain ⟨xk, xnm, xot, xb, xao, xn, xq, xko, xkn, xkc, xln, xcl⟩ := x
  simp only at e1 e2 e3 e4 h2 h3 h4 h5 h6 h7
  subst e1 e2 e3 e4 h4
  have HTR := Lib.hid htr
  have HK := Lib.hid h7
  have HKS := Lib.hid hks
  have HS := Lib.hid h2
  have HT := Lib.hid ht
  have HBW := Lib.hid hbw
  have HWR := Lib.hid hwr
  have hsB := hbw.size
  have hLS := LL_succ d
  obtain ⟨k3, hk3⟩ : ∃ k3, k3 = w.heap.size := ⟨_, rfl⟩
  obtain ⟨w9, hw9⟩ : ∃ w9, w9 = w.alloc (.cells #[.int .i64 1, .string ⟨nm.toArray⟩, .string ⟨ot.toArray⟩, .bool false, .slice xao xn xq, .slice xko ks.length xkc, .int .i64 xln, .int .i64 xcl] 29) := ⟨_, rfl⟩
  have hba : Below w.heap.size w w9 := by rw [hw9]; exact (Below.refl _ _).alloc (Nat.le_refl _) _
  have hx9 : w9.heap[k3]? = some (.cells #[.int .i64 1, .string ⟨nm.toArray⟩, .string ⟨ot.toArray⟩, .bool false, .slice xao xn xq, .slice xko ks.length xkc, .int .i64 xln, .int .i64 xcl] 29 (0, 0)) := by rw [hw9, hk3]; exact made_at w _ _ rfl
  have HB_x := Lib.hid hx9
  have HW9 := Lib.hid (HWR.out.below hba)
  have HB9 := Lib.hid (hba.mono hsB)
  have HF9 := Lib.hid (fr_below hba)
  have hs9 := hba.size
  have x0 := cell_at (v := .int .i64 1) hx9 0 rfl
  have x1 := cell_at (v := .string ⟨nm.toArray⟩) hx9 1 rfl
  have x2 := cell_at (v := .string ⟨ot.toArray⟩) hx9 2 rfl
  have x3 := cell_at (v := .bool false) hx9 3 rfl
  have x4 := cell_at (v := .slice xao xn xq) hx9 4 rfl
  have x5 := cell_at (v := .slice xko ks.length xkc) hx9 5 rfl
  have x6 := cell_at (v := .int .i64 xln) hx9 6 rfl
  have x7 := cell_at (v := .int .i64 xcl) hx9 7 rfl
  clear htr h2 h3 h6 h7 hks ha hba hx9 ht hbw hwr
  simp only [xv]
  go_enter Tryd.func37, Tryd.ntmps37
  go_upto_region 1 with fail
  rw [← hw9, ← hk3]
  clear hw9 hk3
  have HSG : Hid (∀ wr, Below w9.heap.size w9 wr → wr.cell? ⟨2, 1, none⟩ = some (.string ⟨(sg5 1).toArray⟩)) := Lib.hid fun wr hb => ((HT.out.below (HBW.out.trans HB9.out)).below hb).sg 1 (by decide)
  go_wp2_with fail
  have hlt_x := lt_of_block HB_x.out
  refine Rely.region (by kernel_rfl) [[], [0], [0, 1], [], [3], [3, 4], [3, 4, 5], [0, 1, 2, 3, 4, 5, 6]] [] [] (fun _ => 0) 0 7 (by kernel_rfl) (by kernel_rfl) (fun q h => absurd h (Nat.not_lt_zero q)) (fun q _ h => absurd h (Nat.not_lt_zero q)) ?_
  refine Rely.Chain.det ?_ (by rfl) (fun T xs wr hA => ?_) ?_
  rotate_left 1
  · have e0 := hA.pre 0 (by kernel_rfl)
    simp only [List.getElem?_toArray, List.getElem?_cons_zero] at e0
    clear hA
    refine ⟨(by rfl), ?_⟩
    go_simp <;> (try with_reducible rfl)
  refine Rely.Chain.det ?_ (by rfl) (fun T xs wr hA => ?_) ?_
  rotate_left 1
  · have e30 := hA.tm 0 30 (by rfl) (by rfl)
    have f30 : xs 0 = _ := hA.fa 0 (by rfl)
    (try simp (disch := first | rfl | decide) only [Rely.mask_in] at f30)
    rw [f30] at e30
    clear f30
    clear hA
    refine ⟨(by rfl), ?_⟩
    go_simp <;> (try with_reducible rfl)
  refine Rely.Chain.det ?_ (by rfl) (fun T xs wr hA => ?_) ?_
  rotate_left 1
  · have e31 := hA.tm 1 31 (by rfl) (by rfl)
    have f31 : xs 1 = _ := hA.fa 1 (by rfl)
    (try simp (disch := first | rfl | decide) only [Rely.mask_in] at f31)
    rw [f31] at e31
    clear f31
    clear hA
    refine ⟨(by rfl), ?_⟩
    go_simp <;> (try with_reducible rfl)
  refine Rely.Chain.det ?_ (by rfl) (fun T xs wr hA => ?_) ?_
  rotate_left 1
  · have e3 := hA.pre 3 (by kernel_rfl)
    simp only [List.getElem?_toArray, List.getElem?_cons_succ, List.getElem?_cons_zero] at e3
    clear hA
    refine ⟨(by rfl), ?_⟩
    go_simp <;> (try with_reducible rfl)
  refine Rely.Chain.det ?_ (by rfl) (fun T xs wr hA => ?_) ?_
  rotate_left 1
  · have e33 := hA.tm 3 33 (by rfl) (by rfl)
    have f33 : xs 3 = _ := hA.fa 3 (by rfl)
    (try simp (disch := first | rfl | decide) only [Rely.mask_in] at f33)
    rw [f33] at e33
    clear f33
    have hBq : wr.heap[k3]? = _ := (hA.bl _ hlt_x (fun q h => absurd h (Nat.not_lt_zero q))).trans HB_x.out
    have q0 := cell_at (v := .int .i64 1) hBq 0 rfl
    have q1 := cell_at (v := .string ⟨nm.toArray⟩) hBq 1 rfl
    have q2 := cell_at (v := .string ⟨ot.toArray⟩) hBq 2 rfl
    have q3 := cell_at (v := .bool false) hBq 3 rfl
    have q4 := cell_at (v := .slice xao xn xq) hBq 4 rfl
    have q5 := cell_at (v := .slice xko ks.length xkc) hBq 5 rfl
    have q6 := cell_at (v := .int .i64 xln) hBq 6 rfl
    have q7 := cell_at (v := .int .i64 xcl) hBq 7 rfl
    clear hBq
    clear hA
    refine ⟨(by rfl), ?_⟩
    go_simp <;> (try with_reducible rfl)
  refine Rely.Chain.det ?_ (by rfl) (fun T xs wr hA => ?_) ?_
  rotate_left 1
  · have e34 := hA.tm 4 34 (by rfl) (by rfl)
    have f34 : xs 4 = _ := hA.fa 4 (by rfl)
    (try simp (disch := first | rfl | decide) only [Rely.mask_in] at f34)
    rw [f34] at e34
    clear f34
    clear hA
    refine ⟨(by rfl), ?_⟩
    go_simp <;> (try with_reducible rfl)
  refine Rely.Chain.det ?_ (by rfl) (fun T xs wr hA => ?_) ?_
  rotate_left 1
  · have e35 := hA.tm 5 35 (by rfl) (by rfl)
    have f35 : xs 5 = _ := hA.fa 5 (by rfl)
    (try simp (disch := first | rfl | decide) only [Rely.mask_in] at f35)
    rw [f35] at e35
    clear f35
    have hbw := undrew (hA.be _ (Nat.le_refl _) (fun q h => absurd h (Nat.not_lt_zero q)))
    have sgc := HSG.out wr hbw
    clear hbw
    clear hA
    refine ⟨(by rfl), ?_⟩
    go_simp <;> (try with_reducible rfl)
  refine Rely.Chain.done (fun xs w10 hL => ?_)
  obtain ⟨⟨hbe, hbl, hkp0⟩, hf, hp, hn⟩ := hL
  have f0 : xs 0 = _ := hf 0 (by decide)
  (try simp (disch := first | rfl | decide) only [Rely.mask_in] at f0)
  have f1 : xs 1 = _ := hf 1 (by decide)
  (try simp (disch := first | rfl | decide) only [Rely.mask_in] at f1)
  have f2 : xs 2 = _ := hf 2 (by decide)
  (try simp (disch := first | rfl | decide) only [Rely.mask_in] at f2)
  have f3 : xs 3 = _ := hf 3 (by decide)
  (try simp (disch := first | rfl | decide) only [Rely.mask_in] at f3)
  have f4 : xs 4 = _ := hf 4 (by decide)
  (try simp (disch := first | rfl | decide) only [Rely.mask_in] at f4)
  have f5 : xs 5 = _ := hf 5 (by decide)
  (try simp (disch := first | rfl | decide) only [Rely.mask_in] at f5)
  have f6 : xs 6 = _ := hf 6 (by decide)
  (try simp (disch := first | rfl | decide) only [Rely.mask_in] at f6)
  have hbx : Below w9.heap.size w9 w10 := undrew (hbe _ (Nat.le_refl _) (fun q h => absurd h (Nat.not_lt_zero q)))
  clear hbe hbl hkp0 hf hp hn
  replace HB_x := Lib.hid ((hbx.block _ hlt_x).trans HB_x.out)
  clear hlt_x
  refine Rely.rest_list (by decide) (by kernel_rfl) ?_
  simp only [Rely.fill, List.take_succ_cons, List.take_zero, List.drop_succ_cons, List.drop_zero, List.setIfInBounds_toArray, List.set_cons_zero, List.set_cons_succ, f0, f1, f2, f3, f4, f5, f6]
  clear f0 f1 f2 f3 f4 f5 f6
  have HBX := Lib.hid hbx
  have hs10 := hbx.size
  have H10 := Lib.hid (HW9.out.below hbx)
  have HB10 := Lib.hid (HB9.out.trans (hbx.mono (by omega)))
  have HF10 := Lib.hid (HF9.out.trans (fr_below hbx))
  clear hbx
  clear x0 x1 x2 x3 x4 x5 x6 x7
  go_wp2_with fail
  refine (wr_str w0.heap.size b l (sg5 1) w10 H10.out (by omega) (by omega)).mono ?_
  rintro e w11 ⟨⟨v, rfl⟩, hw5, hb5, hfr5⟩
  have H11 := Lib.hid hw5
  have HB11 := Lib.hid (HB10.out.trans hb5)
  have HF11 := Lib.hid (HF10.out.trans hfr5)
  clear hw5 hb5 hfr5
  go_wp2_with fail
  go_end0
  exact ⟨⟨_, rfl⟩, (by rw [HTX.out]; exact H11.out), HB11.out, HF11.out⟩

set_option maxHeartbeats 8000000 in
theorem bare_c2 (w0 : World) (d : Nat) (E : Hid (ExprAt w0 d)) (b : Nat) (l : Bs) (k : Nat) (nm ot : Bs) (z : Nat) (ks : List T) (x : X) (S : Nat → Prop) (w : World) (ht : Tabs w0) (hk0 : k = 2) (h : Tr w0 S (d + 1) x (.node k nm ot z ks)) (ho : Ok (d + 1) (.node k nm ot z ks))
    (hbw : Below w0.heap.size w0 w) (hwr : Wr w0.heap.size b l w) (hlen : l.length + LL (d + 1) ≤ 1000000) :
    Calls Tryd.prog 37 #[.pointer (some ⟨b, 0, none⟩), xv x] w (WrPost w0.heap.size b (l ++ tx (.node k nm ot z ks)) w) := by
  subst hk0
  have HTX : Hid (tx (.node 2 nm ot z ks) = sg5 2) := Lib.hid (by rw [tx]; rfl)
  have hsl := sg5_len 2 (by decide)
  have HOK := Lib.hid ho
  obtain ⟨hk, hn, hoo, hz, ha, hl, hks⟩ := ho
  have htr := h
  obtain ⟨⟨e1, e2, e3, e4⟩, ⟨h2, h3⟩, ⟨h4, h5, h6⟩, h7⟩ := h
  obtain ⟨xk, xnm, xot, xb, xao, xn, xq, xko, xkn, xkc, xln, xcl⟩ := x
  simp only at e1 e2 e3 e4 h2 h3 h4 h5 h6 h7
  subst e1 e2 e3 e4 h4
  have HTR := Lib.hid htr
  have HK := Lib.hid h7
  have HKS := Lib.hid hks
  have HS := Lib.hid h2
  have HT := Lib.hid ht
  have HBW := Lib.hid hbw
  have HWR := Lib.hid hwr
  have hsB := hbw.size
  have hLS := LL_succ d
  obtain ⟨k3, hk3⟩ : ∃ k3, k3 = w.heap.size := ⟨_, rfl⟩
  obtain ⟨w9, hw9⟩ : ∃ w9, w9 = w.alloc (.cells #[.int .i64 2, .string ⟨nm.toArray⟩, .string ⟨ot.toArray⟩, .bool false, .slice xao xn xq, .slice xko ks.length xkc, .int .i64 xln, .int .i64 xcl] 29) := ⟨_, rfl⟩
  have hba : Below w.heap.size w w9 := by rw [hw9]; exact (Below.refl _ _).alloc (Nat.le_refl _) _
  have hx9 : w9.heap[k3]? = some (.cells #[.int .i64 2, .string ⟨nm.toArray⟩, .string ⟨ot.toArray⟩, .bool false, .slice xao xn xq, .slice xko ks.length xkc, .int .i64 xln, .int .i64 xcl] 29 (0, 0)) := by rw [hw9, hk3]; exact made_at w _ _ rfl
  have HB_x := Lib.hid hx9
  have HW9 := Lib.hid (HWR.out.below hba)
  have HB9 := Lib.hid (hba.mono hsB)
  have HF9 := Lib.hid (fr_below hba)
  have hs9 := hba.size
  have x0 := cell_at (v := .int .i64 2) hx9 0 rfl
  have x1 := cell_at (v := .string ⟨nm.toArray⟩) hx9 1 rfl
  have x2 := cell_at (v := .string ⟨ot.toArray⟩) hx9 2 rfl
  have x3 := cell_at (v := .bool false) hx9 3 rfl
  have x4 := cell_at (v := .slice xao xn xq) hx9 4 rfl
  have x5 := cell_at (v := .slice xko ks.length xkc) hx9 5 rfl
  have x6 := cell_at (v := .int .i64 xln) hx9 6 rfl
  have x7 := cell_at (v := .int .i64 xcl) hx9 7 rfl
  clear htr h2 h3 h6 h7 hks ha hba hx9 ht hbw hwr
  simp only [xv]
  go_enter Tryd.func37, Tryd.ntmps37
  go_upto_region 1 with fail
  rw [← hw9, ← hk3]
  clear hw9 hk3
  have HSG : Hid (∀ wr, Below w9.heap.size w9 wr → wr.cell? ⟨2, 2, none⟩ = some (.string ⟨(sg5 2).toArray⟩)) := Lib.hid fun wr hb => ((HT.out.below (HBW.out.trans HB9.out)).below hb).sg 2 (by decide)
  go_wp2_with fail
  have hlt_x := lt_of_block HB_x.out
  refine Rely.region (by kernel_rfl) [[], [0], [0, 1], [], [3], [3, 4], [3, 4, 5], [0, 1, 2, 3, 4, 5, 6]] [] [] (fun _ => 0) 0 7 (by kernel_rfl) (by kernel_rfl) (fun q h => absurd h (Nat.not_lt_zero q)) (fun q _ h => absurd h (Nat.not_lt_zero q)) ?_
  refine Rely.Chain.det ?_ (by rfl) (fun T xs wr hA => ?_) ?_
  rotate_left 1
  · have e0 := hA.pre 0 (by kernel_rfl)
    simp only [List.getElem?_toArray, List.getElem?_cons_zero] at e0
    clear hA
    refine ⟨(by rfl), ?_⟩
    go_simp <;> (try with_reducible rfl)
  refine Rely.Chain.det ?_ (by rfl) (fun T xs wr hA => ?_) ?_
  rotate_left 1
  · have e30 := hA.tm 0 30 (by rfl) (by rfl)
    have f30 : xs 0 = _ := hA.fa 0 (by rfl)
    (try simp (disch := first | rfl | decide) only [Rely.mask_in] at f30)
    rw [f30] at e30
    clear f30
    clear hA
    refine ⟨(by rfl), ?_⟩
    go_simp <;> (try with_reducible rfl)
  refine Rely.Chain.det ?_ (by rfl) (fun T xs wr hA => ?_) ?_
  rotate_left 1
  · have e31 := hA.tm 1 31 (by rfl) (by rfl)
    have f31 : xs 1 = _ := hA.fa 1 (by rfl)
    (try simp (disch := first | rfl | decide) only [Rely.mask_in] at f31)
    rw [f31] at e31
    clear f31
    clear hA
    refine ⟨(by rfl), ?_⟩
    go_simp <;> (try with_reducible rfl)
  refine Rely.Chain.det ?_ (by rfl) (fun T xs wr hA => ?_) ?_
  rotate_left 1
  · have e3 := hA.pre 3 (by kernel_rfl)
    simp only [List.getElem?_toArray, List.getElem?_cons_succ, List.getElem?_cons_zero] at e3
    clear hA
    refine ⟨(by rfl), ?_⟩
    go_simp <;> (try with_reducible rfl)
  refine Rely.Chain.det ?_ (by rfl) (fun T xs wr hA => ?_) ?_
  rotate_left 1
  · have e33 := hA.tm 3 33 (by rfl) (by rfl)
    have f33 : xs 3 = _ := hA.fa 3 (by rfl)
    (try simp (disch := first | rfl | decide) only [Rely.mask_in] at f33)
    rw [f33] at e33
    clear f33
    have hBq : wr.heap[k3]? = _ := (hA.bl _ hlt_x (fun q h => absurd h (Nat.not_lt_zero q))).trans HB_x.out
    have q0 := cell_at (v := .int .i64 2) hBq 0 rfl
    have q1 := cell_at (v := .string ⟨nm.toArray⟩) hBq 1 rfl
    have q2 := cell_at (v := .string ⟨ot.toArray⟩) hBq 2 rfl
    have q3 := cell_at (v := .bool false) hBq 3 rfl
    have q4 := cell_at (v := .slice xao xn xq) hBq 4 rfl
    have q5 := cell_at (v := .slice xko ks.length xkc) hBq 5 rfl
    have q6 := cell_at (v := .int .i64 xln) hBq 6 rfl
    have q7 := cell_at (v := .int .i64 xcl) hBq 7 rfl
    clear hBq
    clear hA
    refine ⟨(by rfl), ?_⟩
    go_simp <;> (try with_reducible rfl)
  refine Rely.Chain.det ?_ (by rfl) (fun T xs wr hA => ?_) ?_
  rotate_left 1
  · have e34 := hA.tm 4 34 (by rfl) (by rfl)
    have f34 : xs 4 = _ := hA.fa 4 (by rfl)
    (try simp (disch := first | rfl | decide) only [Rely.mask_in] at f34)
    rw [f34] at e34
    clear f34
    clear hA
    refine ⟨(by rfl), ?_⟩
    go_simp <;> (try with_reducible rfl)
  refine Rely.Chain.det ?_ (by rfl) (fun T xs wr hA => ?_) ?_
  rotate_left 1
  · have e35 := hA.tm 5 35 (by rfl) (by rfl)
    have f35 : xs 5 = _ := hA.fa 5 (by rfl)
    (try simp (disch := first | rfl | decide) only [Rely.mask_in] at f35)
    rw [f35] at e35
    clear f35
    have hbw := undrew (hA.be _ (Nat.le_refl _) (fun q h => absurd h (Nat.not_lt_zero q)))
    have sgc := HSG.out wr hbw
    clear hbw
    clear hA
    refine ⟨(by rfl), ?_⟩
    go_simp <;> (try with_reducible rfl)
  refine Rely.Chain.done (fun xs w10 hL => ?_)
  obtain ⟨⟨hbe, hbl, hkp0⟩, hf, hp, hn⟩ := hL
  have f0 : xs 0 = _ := hf 0 (by decide)
  (try simp (disch := first | rfl | decide) only [Rely.mask_in] at f0)
  have f1 : xs 1 = _ := hf 1 (by decide)
  (try simp (disch := first | rfl | decide) only [Rely.mask_in] at f1)
  have f2 : xs 2 = _ := hf 2 (by decide)
  (try simp (disch := first | rfl | decide) only [Rely.mask_in] at f2)
  have f3 : xs 3 = _ := hf 3 (by decide)
  (try simp (disch := first | rfl | decide) only [Rely.mask_in] at f3)
  have f4 : xs 4 = _ := hf 4 (by decide)
  (try simp (disch := first | rfl | decide) only [Rely.mask_in] at f4)
  have f5 : xs 5 = _ := hf 5 (by decide)
  (try simp (disch := first | rfl | decide) only [Rely.mask_in] at f5)
  have f6 : xs 6 = _ := hf 6 (by decide)
  (try simp (disch := first | rfl | decide) only [Rely.mask_in] at f6)
  have hbx : Below w9.heap.size w9 w10 := undrew (hbe _ (Nat.le_refl _) (fun q h => absurd h (Nat.not_lt_zero q)))
  clear hbe hbl hkp0 hf hp hn
  replace HB_x := Lib.hid ((hbx.block _ hlt_x).trans HB_x.out)
  clear hlt_x
  refine Rely.rest_list (by decide) (by kernel_rfl) ?_
  simp only [Rely.fill, List.take_succ_cons, List.take_zero, List.drop_succ_cons, List.drop_zero, List.setIfInBounds_toArray, List.set_cons_zero, List.set_cons_succ, f0, f1, f2, f3, f4, f5, f6]
  clear f0 f1 f2 f3 f4 f5 f6
  have HBX := Lib.hid hbx
  have hs10 := hbx.size
  have H10 := Lib.hid (HW9.out.below hbx)
  have HB10 := Lib.hid (HB9.out.trans (hbx.mono (by omega)))
  have HF10 := Lib.hid (HF9.out.trans (fr_below hbx))
  clear hbx
  clear x0 x1 x2 x3 x4 x5 x6 x7
  go_wp2_with fail
  refine (wr_str w0.heap.size b l (sg5 2) w10 H10.out (by omega) (by omega)).mono ?_
  rintro e w11 ⟨⟨v, rfl⟩, hw5, hb5, hfr5⟩
  have H11 := Lib.hid hw5
  have HB11 := Lib.hid (HB10.out.trans hb5)
  have HF11 := Lib.hid (HF10.out.trans hfr5)
  clear hw5 hb5 hfr5
  go_wp2_with fail
  go_end0
  exact ⟨⟨_, rfl⟩, (by rw [HTX.out]; exact H11.out), HB11.out, HF11.out⟩

set_option maxHeartbeats 8000000 in
theorem bare_c4 (w0 : World) (d : Nat) (E : Hid (ExprAt w0 d)) (b : Nat) (l : Bs) (k : Nat) (nm ot : Bs) (z : Nat) (ks : List T) (x : X) (S : Nat → Prop) (w : World) (ht : Tabs w0) (hk0 : k = 4) (h : Tr w0 S (d + 1) x (.node k nm ot z ks)) (ho : Ok (d + 1) (.node k nm ot z ks))
    (hbw : Below w0.heap.size w0 w) (hwr : Wr w0.heap.size b l w) (hlen : l.length + LL (d + 1) ≤ 1000000) :
    Calls Tryd.prog 37 #[.pointer (some ⟨b, 0, none⟩), xv x] w (WrPost w0.heap.size b (l ++ tx (.node k nm ot z ks)) w) := by
  subst hk0
  have HTX : Hid (tx (.node 4 nm ot z ks) = sg5 4) := Lib.hid (by rw [tx]; rfl)
  have hsl := sg5_len 4 (by decide)
  have HOK := Lib.hid ho
  obtain ⟨hk, hn, hoo, hz, ha, hl, hks⟩ := ho
  have htr := h
  obtain ⟨⟨e1, e2, e3, e4⟩, ⟨h2, h3⟩, ⟨h4, h5, h6⟩, h7⟩ := h
  obtain ⟨xk, xnm, xot, xb, xao, xn, xq, xko, xkn, xkc, xln, xcl⟩ := x
  simp only at e1 e2 e3 e4 h2 h3 h4 h5 h6 h7
  subst e1 e2 e3 e4 h4
  have HTR := Lib.hid htr
  have HK := Lib.hid h7
  have HKS := Lib.hid hks
  have HS := Lib.hid h2
  have HT := Lib.hid ht
  have HBW := Lib.hid hbw
  have HWR := Lib.hid hwr
  have hsB := hbw.size
  have hLS := LL_succ d
  obtain ⟨k3, hk3⟩ : ∃ k3, k3 = w.heap.size := ⟨_, rfl⟩
  obtain ⟨w9, hw9⟩ : ∃ w9, w9 = w.alloc (.cells #[.int .i64 4, .string ⟨nm.toArray⟩, .string ⟨ot.toArray⟩, .bool false, .slice xao xn xq, .slice xko ks.length xkc, .int .i64 xln, .int .i64 xcl] 29) := ⟨_, rfl⟩
  have hba : Below w.heap.size w w9 := by rw [hw9]; exact (Below.refl _ _).alloc (Nat.le_refl _) _
  have hx9 : w9.heap[k3]? = some (.cells #[.int .i64 4, .string ⟨nm.toArray⟩, .string ⟨ot.toArray⟩, .bool false, .slice xao xn xq, .slice xko ks.length xkc, .int .i64 xln, .int .i64 xcl] 29 (0, 0)) := by rw [hw9, hk3]; exact made_at w _ _ rfl
  have HB_x := Lib.hid hx9
  have HW9 := Lib.hid (HWR.out.below hba)
  have HB9 := Lib.hid (hba.mono hsB)
  have HF9 := Lib.hid (fr_below hba)
  have hs9 := hba.size
  have x0 := cell_at (v := .int .i64 4) hx9 0 rfl
  have x1 := cell_at (v := .string ⟨nm.toArray⟩) hx9 1 rfl
  have x2 := cell_at (v := .string ⟨ot.toArray⟩) hx9 2 rfl
  have x3 := cell_at (v := .bool false) hx9 3 rfl
  have x4 := cell_at (v := .slice xao xn xq) hx9 4 rfl
  have x5 := cell_at (v := .slice xko ks.length xkc) hx9 5 rfl
  have x6 := cell_at (v := .int .i64 xln) hx9 6 rfl
  have x7 := cell_at (v := .int .i64 xcl) hx9 7 rfl
  clear htr h2 h3 h6 h7 hks ha hba hx9 ht hbw hwr
  simp only [xv]
  go_enter Tryd.func37, Tryd.ntmps37
  go_upto_region 1 with fail
  rw [← hw9, ← hk3]
  clear hw9 hk3
  have HSG : Hid (∀ wr, Below w9.heap.size w9 wr → wr.cell? ⟨2, 4, none⟩ = some (.string ⟨(sg5 4).toArray⟩)) := Lib.hid fun wr hb => ((HT.out.below (HBW.out.trans HB9.out)).below hb).sg 4 (by decide)
  go_wp2_with fail
  have hlt_x := lt_of_block HB_x.out
  refine Rely.region (by kernel_rfl) [[], [0], [0, 1], [], [3], [3, 4], [3, 4, 5], [0, 1, 2, 3, 4, 5, 6]] [] [] (fun _ => 0) 0 7 (by kernel_rfl) (by kernel_rfl) (fun q h => absurd h (Nat.not_lt_zero q)) (fun q _ h => absurd h (Nat.not_lt_zero q)) ?_
  refine Rely.Chain.det ?_ (by rfl) (fun T xs wr hA => ?_) ?_
  rotate_left 1
  · have e0 := hA.pre 0 (by kernel_rfl)
    simp only [List.getElem?_toArray, List.getElem?_cons_zero] at e0
    clear hA
    refine ⟨(by rfl), ?_⟩
    go_simp <;> (try with_reducible rfl)
  refine Rely.Chain.det ?_ (by rfl) (fun T xs wr hA => ?_) ?_
  rotate_left 1
  · have e30 := hA.tm 0 30 (by rfl) (by rfl)
    have f30 : xs 0 = _ := hA.fa 0 (by rfl)
    (try simp (disch := first | rfl | decide) only [Rely.mask_in] at f30)
    rw [f30] at e30
    clear f30
    clear hA
    refine ⟨(by rfl), ?_⟩
    go_simp <;> (try with_reducible rfl)
  refine Rely.Chain.det ?_ (by rfl) (fun T xs wr hA => ?_) ?_
  rotate_left 1
  · have e31 := hA.tm 1 31 (by rfl) (by rfl)
    have f31 : xs 1 = _ := hA.fa 1 (by rfl)
    (try simp (disch := first | rfl | decide) only [Rely.mask_in] at f31)
    rw [f31] at e31
    clear f31
    clear hA
    refine ⟨(by rfl), ?_⟩
    go_simp <;> (try with_reducible rfl)
  refine Rely.Chain.det ?_ (by rfl) (fun T xs wr hA => ?_) ?_
  rotate_left 1
  · have e3 := hA.pre 3 (by kernel_rfl)
    simp only [List.getElem?_toArray, List.getElem?_cons_succ, List.getElem?_cons_zero] at e3
    clear hA
    refine ⟨(by rfl), ?_⟩
    go_simp <;> (try with_reducible rfl)
  refine Rely.Chain.det ?_ (by rfl) (fun T xs wr hA => ?_) ?_
  rotate_left 1
  · have e33 := hA.tm 3 33 (by rfl) (by rfl)
    have f33 : xs 3 = _ := hA.fa 3 (by rfl)
    (try simp (disch := first | rfl | decide) only [Rely.mask_in] at f33)
    rw [f33] at e33
    clear f33
    have hBq : wr.heap[k3]? = _ := (hA.bl _ hlt_x (fun q h => absurd h (Nat.not_lt_zero q))).trans HB_x.out
    have q0 := cell_at (v := .int .i64 4) hBq 0 rfl
    have q1 := cell_at (v := .string ⟨nm.toArray⟩) hBq 1 rfl
    have q2 := cell_at (v := .string ⟨ot.toArray⟩) hBq 2 rfl
    have q3 := cell_at (v := .bool false) hBq 3 rfl
    have q4 := cell_at (v := .slice xao xn xq) hBq 4 rfl
    have q5 := cell_at (v := .slice xko ks.length xkc) hBq 5 rfl
    have q6 := cell_at (v := .int .i64 xln) hBq 6 rfl
    have q7 := cell_at (v := .int .i64 xcl) hBq 7 rfl
    clear hBq
    clear hA
    refine ⟨(by rfl), ?_⟩
    go_simp <;> (try with_reducible rfl)
  refine Rely.Chain.det ?_ (by rfl) (fun T xs wr hA => ?_) ?_
  rotate_left 1
  · have e34 := hA.tm 4 34 (by rfl) (by rfl)
    have f34 : xs 4 = _ := hA.fa 4 (by rfl)
    (try simp (disch := first | rfl | decide) only [Rely.mask_in] at f34)
    rw [f34] at e34
    clear f34
    clear hA
    refine ⟨(by rfl), ?_⟩
    go_simp <;> (try with_reducible rfl)
  refine Rely.Chain.det ?_ (by rfl) (fun T xs wr hA => ?_) ?_
  rotate_left 1
  · have e35 := hA.tm 5 35 (by rfl) (by rfl)
    have f35 : xs 5 = _ := hA.fa 5 (by rfl)
    (try simp (disch := first | rfl | decide) only [Rely.mask_in] at f35)
    rw [f35] at e35
    clear f35
    have hbw := undrew (hA.be _ (Nat.le_refl _) (fun q h => absurd h (Nat.not_lt_zero q)))
    have sgc := HSG.out wr hbw
    clear hbw
    clear hA
    refine ⟨(by rfl), ?_⟩
    go_simp <;> (try with_reducible rfl)
  refine Rely.Chain.done (fun xs w10 hL => ?_)
  obtain ⟨⟨hbe, hbl, hkp0⟩, hf, hp, hn⟩ := hL
  have f0 : xs 0 = _ := hf 0 (by decide)
  (try simp (disch := first | rfl | decide) only [Rely.mask_in] at f0)
  have f1 : xs 1 = _ := hf 1 (by decide)
  (try simp (disch := first | rfl | decide) only [Rely.mask_in] at f1)
  have f2 : xs 2 = _ := hf 2 (by decide)
  (try simp (disch := first | rfl | decide) only [Rely.mask_in] at f2)
  have f3 : xs 3 = _ := hf 3 (by decide)
  (try simp (disch := first | rfl | decide) only [Rely.mask_in] at f3)
  have f4 : xs 4 = _ := hf 4 (by decide)
  (try simp (disch := first | rfl | decide) only [Rely.mask_in] at f4)
  have f5 : xs 5 = _ := hf 5 (by decide)
  (try simp (disch := first | rfl | decide) only [Rely.mask_in] at f5)
  have f6 : xs 6 = _ := hf 6 (by decide)
  (try simp (disch := first | rfl | decide) only [Rely.mask_in] at f6)
  have hbx : Below w9.heap.size w9 w10 := undrew (hbe _ (Nat.le_refl _) (fun q h => absurd h (Nat.not_lt_zero q)))
  clear hbe hbl hkp0 hf hp hn
  replace HB_x := Lib.hid ((hbx.block _ hlt_x).trans HB_x.out)
  clear hlt_x
  refine Rely.rest_list (by decide) (by kernel_rfl) ?_
  simp only [Rely.fill, List.take_succ_cons, List.take_zero, List.drop_succ_cons, List.drop_zero, List.setIfInBounds_toArray, List.set_cons_zero, List.set_cons_succ, f0, f1, f2, f3, f4, f5, f6]
  clear f0 f1 f2 f3 f4 f5 f6
  have HBX := Lib.hid hbx
  have hs10 := hbx.size
  have H10 := Lib.hid (HW9.out.below hbx)
  have HB10 := Lib.hid (HB9.out.trans (hbx.mono (by omega)))
  have HF10 := Lib.hid (HF9.out.trans (fr_below hbx))
  clear hbx
  clear x0 x1 x2 x3 x4 x5 x6 x7
  go_wp2_with fail
  refine (wr_str w0.heap.size b l (sg5 4) w10 H10.out (by omega) (by omega)).mono ?_
  rintro e w11 ⟨⟨v, rfl⟩, hw5, hb5, hfr5⟩
  have H11 := Lib.hid hw5
  have HB11 := Lib.hid (HB10.out.trans hb5)
  have HF11 := Lib.hid (HF10.out.trans hfr5)
  clear hw5 hb5 hfr5
  go_wp2_with fail
  go_end0
  exact ⟨⟨_, rfl⟩, (by rw [HTX.out]; exact H11.out), HB11.out, HF11.out⟩

set_option maxHeartbeats 8000000 in
theorem bare_u5 (w0 : World) (d : Nat) (E : Hid (ExprAt w0 d)) (b : Nat) (l : Bs) (k : Nat) (nm ot : Bs) (z : Nat) (ks : List T) (x : X) (S : Nat → Prop) (w : World) (ht : Tabs w0) (hk0 : k = 5) (h : Tr w0 S (d + 1) x (.node k nm ot z ks)) (ho : Ok (d + 1) (.node k nm ot z ks))
    (hbw : Below w0.heap.size w0 w) (hwr : Wr w0.heap.size b l w) (hlen : l.length + LL (d + 1) ≤ 1000000) :
    Calls Tryd.prog 37 #[.pointer (some ⟨b, 0, none⟩), xv x] w (WrPost w0.heap.size b (l ++ tx (.node k nm ot z ks)) w) := by
  subst hk0
  obtain ⟨t0, hks1⟩ : ∃ t0, ks = [t0] := by
    have : ks.length = 1 := by
      rcases ho.2.2.2.2.1 with ha | ha
      · omega
      · exact ha
    match ks, this with
    | [a], _ => exact ⟨a, rfl⟩
  subst hks1
  have HTX : Hid (tx (.node 5 nm ot z [t0]) = sg5 5 ++ ex (lv 5) t0) := Lib.hid (by rw [tx]; rfl)
  have hsl := sg5_len 5 (by decide)
  have hK0 : Ok d t0 := ho.2.2.2.2.2.2 t0 (by simp)
  obtain ⟨y0, hA0, hT0⟩ := h.2.2.2 0 (by simp)
  have HA0 := Lib.hid hA0
  have HT0 := Lib.hid hT0
  clear hA0 hT0
  have HOK := Lib.hid ho
  obtain ⟨hk, hn, hoo, hz, ha, hl, hks⟩ := ho
  have htr := h
  obtain ⟨⟨e1, e2, e3, e4⟩, ⟨h2, h3⟩, ⟨h4, h5, h6⟩, h7⟩ := h
  obtain ⟨xk, xnm, xot, xb, xao, xn, xq, xko, xkn, xkc, xln, xcl⟩ := x
  obtain ⟨a, hxa, -⟩ := HA0.out
  simp only at hxa
  subst hxa
  simp only at e1 e2 e3 e4 h2 h3 h4 h5 h6 h7
  subst e1 e2 e3 e4 h4
  have HTR := Lib.hid htr
  have HK := Lib.hid h7
  have HKS := Lib.hid hks
  have HS := Lib.hid h2
  have HT := Lib.hid ht
  have HBW := Lib.hid hbw
  have HWR := Lib.hid hwr
  have hsB := hbw.size
  have hLS := LL_succ d
  obtain ⟨k3, hk3⟩ : ∃ k3, k3 = w.heap.size := ⟨_, rfl⟩
  obtain ⟨w9, hw9⟩ : ∃ w9, w9 = w.alloc (.cells #[.int .i64 5, .string ⟨nm.toArray⟩, .string ⟨ot.toArray⟩, .bool false, .slice xao xn xq, .slice (some a) 1 xkc, .int .i64 xln, .int .i64 xcl] 29) := ⟨_, rfl⟩
  have hba : Below w.heap.size w w9 := by rw [hw9]; exact (Below.refl _ _).alloc (Nat.le_refl _) _
  have hx9 : w9.heap[k3]? = some (.cells #[.int .i64 5, .string ⟨nm.toArray⟩, .string ⟨ot.toArray⟩, .bool false, .slice xao xn xq, .slice (some a) 1 xkc, .int .i64 xln, .int .i64 xcl] 29 (0, 0)) := by rw [hw9, hk3]; exact made_at w _ _ rfl
  have HB_x := Lib.hid hx9
  have HW9 := Lib.hid (HWR.out.below hba)
  have HB9 := Lib.hid (hba.mono hsB)
  have HF9 := Lib.hid (fr_below hba)
  have hs9 := hba.size
  have x0 := cell_at (v := .int .i64 5) hx9 0 rfl
  have x1 := cell_at (v := .string ⟨nm.toArray⟩) hx9 1 rfl
  have x2 := cell_at (v := .string ⟨ot.toArray⟩) hx9 2 rfl
  have x3 := cell_at (v := .bool false) hx9 3 rfl
  have x4 := cell_at (v := .slice xao xn xq) hx9 4 rfl
  have x5 := cell_at (v := .slice (some a) 1 xkc) hx9 5 rfl
  have x6 := cell_at (v := .int .i64 xln) hx9 6 rfl
  have x7 := cell_at (v := .int .i64 xcl) hx9 7 rfl
  clear htr h2 h3 h6 h7 hks ha hba hx9 ht hbw hwr
  simp only [xv, List.length_cons, List.length_nil]
  go_enter Tryd.func37, Tryd.ntmps37
  go_upto_region 1 with fail
  rw [← hw9, ← hk3]
  clear hw9 hk3
  have HSG : Hid (∀ wr, Below w9.heap.size w9 wr → wr.cell? ⟨2, 5, none⟩ = some (.string ⟨(sg5 5).toArray⟩)) := Lib.hid fun wr hb => ((HT.out.below (HBW.out.trans HB9.out)).below hb).sg 5 (by decide)
  go_wp2_with fail
  have hlt_x := lt_of_block HB_x.out
  refine Rely.region (by kernel_rfl) [[], [0], [0, 1], [], [3], [3, 4], [3, 4, 5], [0, 1, 2, 3, 4, 5, 6]] [] [] (fun _ => 0) 0 7 (by kernel_rfl) (by kernel_rfl) (fun q h => absurd h (Nat.not_lt_zero q)) (fun q _ h => absurd h (Nat.not_lt_zero q)) ?_
  refine Rely.Chain.det ?_ (by rfl) (fun T xs wr hA => ?_) ?_
  rotate_left 1
  · have e0 := hA.pre 0 (by kernel_rfl)
    simp only [List.getElem?_toArray, List.getElem?_cons_zero] at e0
    clear hA
    refine ⟨(by rfl), ?_⟩
    go_simp <;> (try with_reducible rfl)
  refine Rely.Chain.det ?_ (by rfl) (fun T xs wr hA => ?_) ?_
  rotate_left 1
  · have e44 := hA.tm 0 44 (by rfl) (by rfl)
    have f44 : xs 0 = _ := hA.fa 0 (by rfl)
    (try simp (disch := first | rfl | decide) only [Rely.mask_in] at f44)
    rw [f44] at e44
    clear f44
    clear hA
    refine ⟨(by rfl), ?_⟩
    go_simp <;> (try with_reducible rfl)
  refine Rely.Chain.det ?_ (by rfl) (fun T xs wr hA => ?_) ?_
  rotate_left 1
  · have e45 := hA.tm 1 45 (by rfl) (by rfl)
    have f45 : xs 1 = _ := hA.fa 1 (by rfl)
    (try simp (disch := first | rfl | decide) only [Rely.mask_in] at f45)
    rw [f45] at e45
    clear f45
    clear hA
    refine ⟨(by rfl), ?_⟩
    go_simp <;> (try with_reducible rfl)
  refine Rely.Chain.det ?_ (by rfl) (fun T xs wr hA => ?_) ?_
  rotate_left 1
  · have e3 := hA.pre 3 (by kernel_rfl)
    simp only [List.getElem?_toArray, List.getElem?_cons_succ, List.getElem?_cons_zero] at e3
    clear hA
    refine ⟨(by rfl), ?_⟩
    go_simp <;> (try with_reducible rfl)
  refine Rely.Chain.det ?_ (by rfl) (fun T xs wr hA => ?_) ?_
  rotate_left 1
  · have e47 := hA.tm 3 47 (by rfl) (by rfl)
    have f47 : xs 3 = _ := hA.fa 3 (by rfl)
    (try simp (disch := first | rfl | decide) only [Rely.mask_in] at f47)
    rw [f47] at e47
    clear f47
    have hBq : wr.heap[k3]? = _ := (hA.bl _ hlt_x (fun q h => absurd h (Nat.not_lt_zero q))).trans HB_x.out
    have q0 := cell_at (v := .int .i64 5) hBq 0 rfl
    have q1 := cell_at (v := .string ⟨nm.toArray⟩) hBq 1 rfl
    have q2 := cell_at (v := .string ⟨ot.toArray⟩) hBq 2 rfl
    have q3 := cell_at (v := .bool false) hBq 3 rfl
    have q4 := cell_at (v := .slice xao xn xq) hBq 4 rfl
    have q5 := cell_at (v := .slice (some a) 1 xkc) hBq 5 rfl
    have q6 := cell_at (v := .int .i64 xln) hBq 6 rfl
    have q7 := cell_at (v := .int .i64 xcl) hBq 7 rfl
    clear hBq
    clear hA
    refine ⟨(by rfl), ?_⟩
    go_simp <;> (try with_reducible rfl)
  refine Rely.Chain.det ?_ (by rfl) (fun T xs wr hA => ?_) ?_
  rotate_left 1
  · have e48 := hA.tm 4 48 (by rfl) (by rfl)
    have f48 : xs 4 = _ := hA.fa 4 (by rfl)
    (try simp (disch := first | rfl | decide) only [Rely.mask_in] at f48)
    rw [f48] at e48
    clear f48
    clear hA
    refine ⟨(by rfl), ?_⟩
    go_simp <;> (try with_reducible rfl)
  refine Rely.Chain.det ?_ (by rfl) (fun T xs wr hA => ?_) ?_
  rotate_left 1
  · have e49 := hA.tm 5 49 (by rfl) (by rfl)
    have f49 : xs 5 = _ := hA.fa 5 (by rfl)
    (try simp (disch := first | rfl | decide) only [Rely.mask_in] at f49)
    rw [f49] at e49
    clear f49
    have hbw := undrew (hA.be _ (Nat.le_refl _) (fun q h => absurd h (Nat.not_lt_zero q)))
    have sgc := HSG.out wr hbw
    clear hbw
    clear hA
    refine ⟨(by rfl), ?_⟩
    go_simp <;> (try with_reducible rfl)
  refine Rely.Chain.done (fun xs w10 hL => ?_)
  obtain ⟨⟨hbe, hbl, hkp0⟩, hf, hp, hn⟩ := hL
  have f0 : xs 0 = _ := hf 0 (by decide)
  (try simp (disch := first | rfl | decide) only [Rely.mask_in] at f0)
  have f1 : xs 1 = _ := hf 1 (by decide)
  (try simp (disch := first | rfl | decide) only [Rely.mask_in] at f1)
  have f2 : xs 2 = _ := hf 2 (by decide)
  (try simp (disch := first | rfl | decide) only [Rely.mask_in] at f2)
  have f3 : xs 3 = _ := hf 3 (by decide)
  (try simp (disch := first | rfl | decide) only [Rely.mask_in] at f3)
  have f4 : xs 4 = _ := hf 4 (by decide)
  (try simp (disch := first | rfl | decide) only [Rely.mask_in] at f4)
  have f5 : xs 5 = _ := hf 5 (by decide)
  (try simp (disch := first | rfl | decide) only [Rely.mask_in] at f5)
  have f6 : xs 6 = _ := hf 6 (by decide)
  (try simp (disch := first | rfl | decide) only [Rely.mask_in] at f6)
  have hbx : Below w9.heap.size w9 w10 := undrew (hbe _ (Nat.le_refl _) (fun q h => absurd h (Nat.not_lt_zero q)))
  clear hbe hbl hkp0 hf hp hn
  replace HB_x := Lib.hid ((hbx.block _ hlt_x).trans HB_x.out)
  clear hlt_x
  refine Rely.rest_list (by decide) (by kernel_rfl) ?_
  simp only [Rely.fill, List.take_succ_cons, List.take_zero, List.drop_succ_cons, List.drop_zero, List.setIfInBounds_toArray, List.set_cons_zero, List.set_cons_succ, f0, f1, f2, f3, f4, f5, f6]
  clear f0 f1 f2 f3 f4 f5 f6
  have HBX := Lib.hid hbx
  have hs10 := hbx.size
  have H10 := Lib.hid (HW9.out.below hbx)
  have HB10 := Lib.hid (HB9.out.trans (hbx.mono (by omega)))
  have HF10 := Lib.hid (HF9.out.trans (fr_below hbx))
  clear hbx
  clear x0 x1 x2 x3 x4 x5 x6 x7
  go_wp2_with fail
  refine (wr_str w0.heap.size b l (sg5 5) w10 H10.out (by omega) (by omega)).mono ?_
  rintro e w11 ⟨⟨v, rfl⟩, hw5, hb5, hfr5⟩
  have hs11 := hb5.size
  replace HB_x := Lib.hid (hfr5 k3 _ _ _ HB_x.out (by decide) (by decide))
  have H11 := Lib.hid hw5
  have HB11 := Lib.hid (HB10.out.trans hb5)
  have HF11 := Lib.hid (HF10.out.trans hfr5)
  have HLV : Hid (∀ wr, Below w11.heap.size w11 wr → wr.cell? ⟨1, 5, none⟩ = some (.int .i64 (lv 5 : Nat))) := Lib.hid fun wr hb => ((HT.out.below (HBW.out.trans HB11.out)).below hb).lv 5 (by decide)
  clear hw5 hb5 hfr5
  go_wp2_with fail
  have hlt_x := lt_of_block HB_x.out
  refine Rely.region (by kernel_rfl) [[], [], [1], [1, 2], [1, 2, 3], [], [5], [5, 6], [5, 6, 7], [0, 1, 2, 3, 4, 5, 6, 7, 8]] [] [] (fun _ => 0) 0 9 (by kernel_rfl) (by kernel_rfl) (fun q h => absurd h (Nat.not_lt_zero q)) (fun q _ h => absurd h (Nat.not_lt_zero q)) ?_
  refine Rely.Chain.det ?_ (by rfl) (fun T xs wr hA => ?_) ?_
  rotate_left 1
  · have e0 := hA.pre 0 (by kernel_rfl)
    simp only [List.getElem?_toArray, List.getElem?_cons_zero] at e0
    clear hA
    refine ⟨(by rfl), ?_⟩
    go_simp <;> (try with_reducible rfl)
  refine Rely.Chain.det ?_ (by rfl) (fun T xs wr hA => ?_) ?_
  rotate_left 1
  · have e3 := hA.pre 3 (by kernel_rfl)
    simp only [List.getElem?_toArray, List.getElem?_cons_succ, List.getElem?_cons_zero] at e3
    clear hA
    refine ⟨(by rfl), ?_⟩
    go_simp <;> (try with_reducible rfl)
  refine Rely.Chain.det ?_ (by rfl) (fun T xs wr hA => ?_) ?_
  rotate_left 1
  · have e53 := hA.tm 1 53 (by rfl) (by rfl)
    have f53 : xs 1 = _ := hA.fa 1 (by rfl)
    (try simp (disch := first | rfl | decide) only [Rely.mask_in] at f53)
    rw [f53] at e53
    clear f53
    have hBq : wr.heap[k3]? = _ := (hA.bl _ hlt_x (fun q h => absurd h (Nat.not_lt_zero q))).trans HB_x.out
    have q0 := cell_at (v := .int .i64 5) hBq 0 rfl
    have q1 := cell_at (v := .string ⟨nm.toArray⟩) hBq 1 rfl
    have q2 := cell_at (v := .string ⟨ot.toArray⟩) hBq 2 rfl
    have q3 := cell_at (v := .bool false) hBq 3 rfl
    have q4 := cell_at (v := .slice xao xn xq) hBq 4 rfl
    have q5 := cell_at (v := .slice (some a) 1 xkc) hBq 5 rfl
    have q6 := cell_at (v := .int .i64 xln) hBq 6 rfl
    have q7 := cell_at (v := .int .i64 xcl) hBq 7 rfl
    clear hBq
    clear hA
    refine ⟨(by rfl), ?_⟩
    go_simp <;> (try with_reducible rfl)
  refine Rely.Chain.det ?_ (by rfl) (fun T xs wr hA => ?_) ?_
  rotate_left 1
  · have e54 := hA.tm 2 54 (by rfl) (by rfl)
    have f54 : xs 2 = _ := hA.fa 2 (by rfl)
    (try simp (disch := first | rfl | decide) only [Rely.mask_in] at f54)
    rw [f54] at e54
    clear f54
    clear hA
    refine ⟨(by rfl), ?_⟩
    go_simp <;> (try with_reducible rfl)
  refine Rely.Chain.det ?_ (by rfl) (fun T xs wr hA => ?_) ?_
  rotate_left 1
  · have e55 := hA.tm 3 55 (by rfl) (by rfl)
    have f55 : xs 3 = _ := hA.fa 3 (by rfl)
    (try simp (disch := first | rfl | decide) only [Rely.mask_in] at f55)
    rw [f55] at e55
    clear f55
    have hbw := undrew (hA.be _ (Nat.le_refl _) (fun q h => absurd h (Nat.not_lt_zero q)))
    obtain ⟨a2, ea, hc0⟩ := HA0.out.keep fun a ha => ((HBW.out.trans HB11.out).trans (hbw.mono (HBW.out.trans HB11.out).size)).block _ (HA0.out.lt a ha)
    injection ea with ea
    subst ea
    have e0 : a.add (0 * 8) = a := by simp [Addr.add]
    rw [e0] at hc0
    obtain ⟨c0, c1, c2, c3, c4, c5, c6, c7⟩ := cells8 hc0
    clear hc0 e0 hbw
    clear hA
    refine ⟨(by rfl), ?_⟩
    go_simp <;> (try with_reducible rfl)
  refine Rely.Chain.det ?_ (by rfl) (fun T xs wr hA => ?_) ?_
  rotate_left 1
  · have e3 := hA.pre 3 (by kernel_rfl)
    simp only [List.getElem?_toArray, List.getElem?_cons_succ, List.getElem?_cons_zero] at e3
    clear hA
    refine ⟨(by rfl), ?_⟩
    go_simp <;> (try with_reducible rfl)
  refine Rely.Chain.det ?_ (by rfl) (fun T xs wr hA => ?_) ?_
  rotate_left 1
  · have e57 := hA.tm 5 57 (by rfl) (by rfl)
    have f57 : xs 5 = _ := hA.fa 5 (by rfl)
    (try simp (disch := first | rfl | decide) only [Rely.mask_in] at f57)
    rw [f57] at e57
    clear f57
    have hBq : wr.heap[k3]? = _ := (hA.bl _ hlt_x (fun q h => absurd h (Nat.not_lt_zero q))).trans HB_x.out
    have q0 := cell_at (v := .int .i64 5) hBq 0 rfl
    have q1 := cell_at (v := .string ⟨nm.toArray⟩) hBq 1 rfl
    have q2 := cell_at (v := .string ⟨ot.toArray⟩) hBq 2 rfl
    have q3 := cell_at (v := .bool false) hBq 3 rfl
    have q4 := cell_at (v := .slice xao xn xq) hBq 4 rfl
    have q5 := cell_at (v := .slice (some a) 1 xkc) hBq 5 rfl
    have q6 := cell_at (v := .int .i64 xln) hBq 6 rfl
    have q7 := cell_at (v := .int .i64 xcl) hBq 7 rfl
    clear hBq
    clear hA
    refine ⟨(by rfl), ?_⟩
    go_simp <;> (try with_reducible rfl)
  refine Rely.Chain.det ?_ (by rfl) (fun T xs wr hA => ?_) ?_
  rotate_left 1
  · have e58 := hA.tm 6 58 (by rfl) (by rfl)
    have f58 : xs 6 = _ := hA.fa 6 (by rfl)
    (try simp (disch := first | rfl | decide) only [Rely.mask_in] at f58)
    rw [f58] at e58
    clear f58
    clear hA
    refine ⟨(by rfl), ?_⟩
    go_simp <;> (try with_reducible rfl)
  refine Rely.Chain.det ?_ (by rfl) (fun T xs wr hA => ?_) ?_
  rotate_left 1
  · have e59 := hA.tm 7 59 (by rfl) (by rfl)
    have f59 : xs 7 = _ := hA.fa 7 (by rfl)
    (try simp (disch := first | rfl | decide) only [Rely.mask_in] at f59)
    rw [f59] at e59
    clear f59
    have hbw := undrew (hA.be _ (Nat.le_refl _) (fun q h => absurd h (Nat.not_lt_zero q)))
    have lvc := HLV.out wr hbw
    clear hbw
    clear hA
    refine ⟨(by rfl), ?_⟩
    go_simp <;> (try with_reducible rfl)
  refine Rely.Chain.done (fun xs w12 hL => ?_)
  obtain ⟨⟨hbe, hbl, hkp0⟩, hf, hp, hn⟩ := hL
  have f0 : xs 0 = _ := hf 0 (by decide)
  (try simp (disch := first | rfl | decide) only [Rely.mask_in] at f0)
  have f1 : xs 1 = _ := hf 1 (by decide)
  (try simp (disch := first | rfl | decide) only [Rely.mask_in] at f1)
  have f2 : xs 2 = _ := hf 2 (by decide)
  (try simp (disch := first | rfl | decide) only [Rely.mask_in] at f2)
  have f3 : xs 3 = _ := hf 3 (by decide)
  (try simp (disch := first | rfl | decide) only [Rely.mask_in] at f3)
  have f4 : xs 4 = _ := hf 4 (by decide)
  (try simp (disch := first | rfl | decide) only [Rely.mask_in] at f4)
  have f5 : xs 5 = _ := hf 5 (by decide)
  (try simp (disch := first | rfl | decide) only [Rely.mask_in] at f5)
  have f6 : xs 6 = _ := hf 6 (by decide)
  (try simp (disch := first | rfl | decide) only [Rely.mask_in] at f6)
  have f7 : xs 7 = _ := hf 7 (by decide)
  (try simp (disch := first | rfl | decide) only [Rely.mask_in] at f7)
  have f8 : xs 8 = _ := hf 8 (by decide)
  (try simp (disch := first | rfl | decide) only [Rely.mask_in] at f8)
  have hbx : Below w11.heap.size w11 w12 := undrew (hbe _ (Nat.le_refl _) (fun q h => absurd h (Nat.not_lt_zero q)))
  clear hbe hbl hkp0 hf hp hn
  replace HB_x := Lib.hid ((hbx.block _ hlt_x).trans HB_x.out)
  clear hlt_x
  refine Rely.rest_list (by decide) (by kernel_rfl) ?_
  simp only [Rely.fill, List.take_succ_cons, List.take_zero, List.drop_succ_cons, List.drop_zero, List.setIfInBounds_toArray, List.set_cons_zero, List.set_cons_succ, f0, f1, f2, f3, f4, f5, f6, f7, f8]
  clear f0 f1 f2 f3 f4 f5 f6 f7 f8
  have hs12 := hbx.size
  have H12 := Lib.hid (H11.out.below hbx)
  have HB12 := Lib.hid (HB11.out.trans (hbx.mono (by omega)))
  have HF12 := Lib.hid (HF11.out.trans (fr_below hbx))
  clear hbx
  go_wp2_with fail
  refine (E.out b _ (lv 5) y0 t0 S w12 HT0.out hK0 (by decide) (HBW.out.trans HB12.out) H12.out (by simp only [List.length_append]; omega)).mono ?_
  rintro e w13 ⟨⟨v2, rfl⟩, hw7, hb7, hfr7⟩
  have H13 := Lib.hid hw7
  have HB13 := Lib.hid (HB12.out.trans hb7)
  have HF13 := Lib.hid (HF12.out.trans hfr7)
  clear hw7 hb7 hfr7
  go_wp2_with fail
  go_end0
  exact ⟨⟨_, rfl⟩, (by rw [HTX.out, ← List.append_assoc]; exact H13.out), HB13.out, HF13.out⟩

set_option maxHeartbeats 8000000 in
theorem bare_u6 (w0 : World) (d : Nat) (E : Hid (ExprAt w0 d)) (b : Nat) (l : Bs) (k : Nat) (nm ot : Bs) (z : Nat) (ks : List T) (x : X) (S : Nat → Prop) (w : World) (ht : Tabs w0) (hk0 : k = 6) (h : Tr w0 S (d + 1) x (.node k nm ot z ks)) (ho : Ok (d + 1) (.node k nm ot z ks))
    (hbw : Below w0.heap.size w0 w) (hwr : Wr w0.heap.size b l w) (hlen : l.length + LL (d + 1) ≤ 1000000) :
    Calls Tryd.prog 37 #[.pointer (some ⟨b, 0, none⟩), xv x] w (WrPost w0.heap.size b (l ++ tx (.node k nm ot z ks)) w) := by
  subst hk0
  obtain ⟨t0, hks1⟩ : ∃ t0, ks = [t0] := by
    have : ks.length = 1 := by
      rcases ho.2.2.2.2.1 with ha | ha
      · omega
      · exact ha
    match ks, this with
    | [a], _ => exact ⟨a, rfl⟩
  subst hks1
  have HTX : Hid (tx (.node 6 nm ot z [t0]) = sg5 6 ++ ex (lv 6) t0) := Lib.hid (by rw [tx]; rfl)
  have hsl := sg5_len 6 (by decide)
  have hK0 : Ok d t0 := ho.2.2.2.2.2.2 t0 (by simp)
  obtain ⟨y0, hA0, hT0⟩ := h.2.2.2 0 (by simp)
  have HA0 := Lib.hid hA0
  have HT0 := Lib.hid hT0
  clear hA0 hT0
  have HOK := Lib.hid ho
  obtain ⟨hk, hn, hoo, hz, ha, hl, hks⟩ := ho
  have htr := h
  obtain ⟨⟨e1, e2, e3, e4⟩, ⟨h2, h3⟩, ⟨h4, h5, h6⟩, h7⟩ := h
  obtain ⟨xk, xnm, xot, xb, xao, xn, xq, xko, xkn, xkc, xln, xcl⟩ := x
  obtain ⟨a, hxa, -⟩ := HA0.out
  simp only at hxa
  subst hxa
  simp only at e1 e2 e3 e4 h2 h3 h4 h5 h6 h7
  subst e1 e2 e3 e4 h4
  have HTR := Lib.hid htr
  have HK := Lib.hid h7
  have HKS := Lib.hid hks
  have HS := Lib.hid h2
  have HT := Lib.hid ht
  have HBW := Lib.hid hbw
  have HWR := Lib.hid hwr
  have hsB := hbw.size
  have hLS := LL_succ d
  obtain ⟨k3, hk3⟩ : ∃ k3, k3 = w.heap.size := ⟨_, rfl⟩
  obtain ⟨w9, hw9⟩ : ∃ w9, w9 = w.alloc (.cells #[.int .i64 6, .string ⟨nm.toArray⟩, .string ⟨ot.toArray⟩, .bool false, .slice xao xn xq, .slice (some a) 1 xkc, .int .i64 xln, .int .i64 xcl] 29) := ⟨_, rfl⟩
  have hba : Below w.heap.size w w9 := by rw [hw9]; exact (Below.refl _ _).alloc (Nat.le_refl _) _
  have hx9 : w9.heap[k3]? = some (.cells #[.int .i64 6, .string ⟨nm.toArray⟩, .string ⟨ot.toArray⟩, .bool false, .slice xao xn xq, .slice (some a) 1 xkc, .int .i64 xln, .int .i64 xcl] 29 (0, 0)) := by rw [hw9, hk3]; exact made_at w _ _ rfl
  have HB_x := Lib.hid hx9
  have HW9 := Lib.hid (HWR.out.below hba)
  have HB9 := Lib.hid (hba.mono hsB)
  have HF9 := Lib.hid (fr_below hba)
  have hs9 := hba.size
  have x0 := cell_at (v := .int .i64 6) hx9 0 rfl
  have x1 := cell_at (v := .string ⟨nm.toArray⟩) hx9 1 rfl
  have x2 := cell_at (v := .string ⟨ot.toArray⟩) hx9 2 rfl
  have x3 := cell_at (v := .bool false) hx9 3 rfl
  have x4 := cell_at (v := .slice xao xn xq) hx9 4 rfl
  have x5 := cell_at (v := .slice (some a) 1 xkc) hx9 5 rfl
  have x6 := cell_at (v := .int .i64 xln) hx9 6 rfl
  have x7 := cell_at (v := .int .i64 xcl) hx9 7 rfl
  clear htr h2 h3 h6 h7 hks ha hba hx9 ht hbw hwr
  simp only [xv, List.length_cons, List.length_nil]
  go_enter Tryd.func37, Tryd.ntmps37
  go_upto_region 1 with fail
  rw [← hw9, ← hk3]
  clear hw9 hk3
  have HSG : Hid (∀ wr, Below w9.heap.size w9 wr → wr.cell? ⟨2, 6, none⟩ = some (.string ⟨(sg5 6).toArray⟩)) := Lib.hid fun wr hb => ((HT.out.below (HBW.out.trans HB9.out)).below hb).sg 6 (by decide)
  go_wp2_with fail
  have hlt_x := lt_of_block HB_x.out
  refine Rely.region (by kernel_rfl) [[], [0], [0, 1], [], [3], [3, 4], [3, 4, 5], [0, 1, 2, 3, 4, 5, 6]] [] [] (fun _ => 0) 0 7 (by kernel_rfl) (by kernel_rfl) (fun q h => absurd h (Nat.not_lt_zero q)) (fun q _ h => absurd h (Nat.not_lt_zero q)) ?_
  refine Rely.Chain.det ?_ (by rfl) (fun T xs wr hA => ?_) ?_
  rotate_left 1
  · have e0 := hA.pre 0 (by kernel_rfl)
    simp only [List.getElem?_toArray, List.getElem?_cons_zero] at e0
    clear hA
    refine ⟨(by rfl), ?_⟩
    go_simp <;> (try with_reducible rfl)
  refine Rely.Chain.det ?_ (by rfl) (fun T xs wr hA => ?_) ?_
  rotate_left 1
  · have e44 := hA.tm 0 44 (by rfl) (by rfl)
    have f44 : xs 0 = _ := hA.fa 0 (by rfl)
    (try simp (disch := first | rfl | decide) only [Rely.mask_in] at f44)
    rw [f44] at e44
    clear f44
    clear hA
    refine ⟨(by rfl), ?_⟩
    go_simp <;> (try with_reducible rfl)
  refine Rely.Chain.det ?_ (by rfl) (fun T xs wr hA => ?_) ?_
  rotate_left 1
  · have e45 := hA.tm 1 45 (by rfl) (by rfl)
    have f45 : xs 1 = _ := hA.fa 1 (by rfl)
    (try simp (disch := first | rfl | decide) only [Rely.mask_in] at f45)
    rw [f45] at e45
    clear f45
    clear hA
    refine ⟨(by rfl), ?_⟩
    go_simp <;> (try with_reducible rfl)
  refine Rely.Chain.det ?_ (by rfl) (fun T xs wr hA => ?_) ?_
  rotate_left 1
  · have e3 := hA.pre 3 (by kernel_rfl)
    simp only [List.getElem?_toArray, List.getElem?_cons_succ, List.getElem?_cons_zero] at e3
    clear hA
    refine ⟨(by rfl), ?_⟩
    go_simp <;> (try with_reducible rfl)
  refine Rely.Chain.det ?_ (by rfl) (fun T xs wr hA => ?_) ?_
  rotate_left 1
  · have e47 := hA.tm 3 47 (by rfl) (by rfl)
    have f47 : xs 3 = _ := hA.fa 3 (by rfl)
    (try simp (disch := first | rfl | decide) only [Rely.mask_in] at f47)
    rw [f47] at e47
    clear f47
    have hBq : wr.heap[k3]? = _ := (hA.bl _ hlt_x (fun q h => absurd h (Nat.not_lt_zero q))).trans HB_x.out
    have q0 := cell_at (v := .int .i64 6) hBq 0 rfl
    have q1 := cell_at (v := .string ⟨nm.toArray⟩) hBq 1 rfl
    have q2 := cell_at (v := .string ⟨ot.toArray⟩) hBq 2 rfl
    have q3 := cell_at (v := .bool false) hBq 3 rfl
    have q4 := cell_at (v := .slice xao xn xq) hBq 4 rfl
    have q5 := cell_at (v := .slice (some a) 1 xkc) hBq 5 rfl
    have q6 := cell_at (v := .int .i64 xln) hBq 6 rfl
    have q7 := cell_at (v := .int .i64 xcl) hBq 7 rfl
    clear hBq
    clear hA
    refine ⟨(by rfl), ?_⟩
    go_simp <;> (try with_reducible rfl)
  refine Rely.Chain.det ?_ (by rfl) (fun T xs wr hA => ?_) ?_
  rotate_left 1
  · have e48 := hA.tm 4 48 (by rfl) (by rfl)
    have f48 : xs 4 = _ := hA.fa 4 (by rfl)
    (try simp (disch := first | rfl | decide) only [Rely.mask_in] at f48)
    rw [f48] at e48
    clear f48
    clear hA
    refine ⟨(by rfl), ?_⟩
    go_simp <;> (try with_reducible rfl)
  refine Rely.Chain.det ?_ (by rfl) (fun T xs wr hA => ?_) ?_
  rotate_left 1
  · have e49 := hA.tm 5 49 (by rfl) (by rfl)
    have f49 : xs 5 = _ := hA.fa 5 (by rfl)
    (try simp (disch := first | rfl | decide) only [Rely.mask_in] at f49)
    rw [f49] at e49
    clear f49
    have hbw := undrew (hA.be _ (Nat.le_refl _) (fun q h => absurd h (Nat.not_lt_zero q)))
    have sgc := HSG.out wr hbw
    clear hbw
    clear hA
    refine ⟨(by rfl), ?_⟩
    go_simp <;> (try with_reducible rfl)
  refine Rely.Chain.done (fun xs w10 hL => ?_)
  obtain ⟨⟨hbe, hbl, hkp0⟩, hf, hp, hn⟩ := hL
  have f0 : xs 0 = _ := hf 0 (by decide)
  (try simp (disch := first | rfl | decide) only [Rely.mask_in] at f0)
  have f1 : xs 1 = _ := hf 1 (by decide)
  (try simp (disch := first | rfl | decide) only [Rely.mask_in] at f1)
  have f2 : xs 2 = _ := hf 2 (by decide)
  (try simp (disch := first | rfl | decide) only [Rely.mask_in] at f2)
  have f3 : xs 3 = _ := hf 3 (by decide)
  (try simp (disch := first | rfl | decide) only [Rely.mask_in] at f3)
  have f4 : xs 4 = _ := hf 4 (by decide)
  (try simp (disch := first | rfl | decide) only [Rely.mask_in] at f4)
  have f5 : xs 5 = _ := hf 5 (by decide)
  (try simp (disch := first | rfl | decide) only [Rely.mask_in] at f5)
  have f6 : xs 6 = _ := hf 6 (by decide)
  (try simp (disch := first | rfl | decide) only [Rely.mask_in] at f6)
  have hbx : Below w9.heap.size w9 w10 := undrew (hbe _ (Nat.le_refl _) (fun q h => absurd h (Nat.not_lt_zero q)))
  clear hbe hbl hkp0 hf hp hn
  replace HB_x := Lib.hid ((hbx.block _ hlt_x).trans HB_x.out)
  clear hlt_x
  refine Rely.rest_list (by decide) (by kernel_rfl) ?_
  simp only [Rely.fill, List.take_succ_cons, List.take_zero, List.drop_succ_cons, List.drop_zero, List.setIfInBounds_toArray, List.set_cons_zero, List.set_cons_succ, f0, f1, f2, f3, f4, f5, f6]
  clear f0 f1 f2 f3 f4 f5 f6
  have HBX := Lib.hid hbx
  have hs10 := hbx.size
  have H10 := Lib.hid (HW9.out.below hbx)
  have HB10 := Lib.hid (HB9.out.trans (hbx.mono (by omega)))
  have HF10 := Lib.hid (HF9.out.trans (fr_below hbx))
  clear hbx
  clear x0 x1 x2 x3 x4 x5 x6 x7
  go_wp2_with fail
  refine (wr_str w0.heap.size b l (sg5 6) w10 H10.out (by omega) (by omega)).mono ?_
  rintro e w11 ⟨⟨v, rfl⟩, hw5, hb5, hfr5⟩
  have hs11 := hb5.size
  replace HB_x := Lib.hid (hfr5 k3 _ _ _ HB_x.out (by decide) (by decide))
  have H11 := Lib.hid hw5
  have HB11 := Lib.hid (HB10.out.trans hb5)
  have HF11 := Lib.hid (HF10.out.trans hfr5)
  have HLV : Hid (∀ wr, Below w11.heap.size w11 wr → wr.cell? ⟨1, 6, none⟩ = some (.int .i64 (lv 6 : Nat))) := Lib.hid fun wr hb => ((HT.out.below (HBW.out.trans HB11.out)).below hb).lv 6 (by decide)
  clear hw5 hb5 hfr5
  go_wp2_with fail
  have hlt_x := lt_of_block HB_x.out
  refine Rely.region (by kernel_rfl) [[], [], [1], [1, 2], [1, 2, 3], [], [5], [5, 6], [5, 6, 7], [0, 1, 2, 3, 4, 5, 6, 7, 8]] [] [] (fun _ => 0) 0 9 (by kernel_rfl) (by kernel_rfl) (fun q h => absurd h (Nat.not_lt_zero q)) (fun q _ h => absurd h (Nat.not_lt_zero q)) ?_
  refine Rely.Chain.det ?_ (by rfl) (fun T xs wr hA => ?_) ?_
  rotate_left 1
  · have e0 := hA.pre 0 (by kernel_rfl)
    simp only [List.getElem?_toArray, List.getElem?_cons_zero] at e0
    clear hA
    refine ⟨(by rfl), ?_⟩
    go_simp <;> (try with_reducible rfl)
  refine Rely.Chain.det ?_ (by rfl) (fun T xs wr hA => ?_) ?_
  rotate_left 1
  · have e3 := hA.pre 3 (by kernel_rfl)
    simp only [List.getElem?_toArray, List.getElem?_cons_succ, List.getElem?_cons_zero] at e3
    clear hA
    refine ⟨(by rfl), ?_⟩
    go_simp <;> (try with_reducible rfl)
  refine Rely.Chain.det ?_ (by rfl) (fun T xs wr hA => ?_) ?_
  rotate_left 1
  · have e53 := hA.tm 1 53 (by rfl) (by rfl)
    have f53 : xs 1 = _ := hA.fa 1 (by rfl)
    (try simp (disch := first | rfl | decide) only [Rely.mask_in] at f53)
    rw [f53] at e53
    clear f53
    have hBq : wr.heap[k3]? = _ := (hA.bl _ hlt_x (fun q h => absurd h (Nat.not_lt_zero q))).trans HB_x.out
    have q0 := cell_at (v := .int .i64 6) hBq 0 rfl
    have q1 := cell_at (v := .string ⟨nm.toArray⟩) hBq 1 rfl
    have q2 := cell_at (v := .string ⟨ot.toArray⟩) hBq 2 rfl
    have q3 := cell_at (v := .bool false) hBq 3 rfl
    have q4 := cell_at (v := .slice xao xn xq) hBq 4 rfl
    have q5 := cell_at (v := .slice (some a) 1 xkc) hBq 5 rfl
    have q6 := cell_at (v := .int .i64 xln) hBq 6 rfl
    have q7 := cell_at (v := .int .i64 xcl) hBq 7 rfl
    clear hBq
    clear hA
    refine ⟨(by rfl), ?_⟩
    go_simp <;> (try with_reducible rfl)
  refine Rely.Chain.det ?_ (by rfl) (fun T xs wr hA => ?_) ?_
  rotate_left 1
  · have e54 := hA.tm 2 54 (by rfl) (by rfl)
    have f54 : xs 2 = _ := hA.fa 2 (by rfl)
    (try simp (disch := first | rfl | decide) only [Rely.mask_in] at f54)
    rw [f54] at e54
    clear f54
    clear hA
    refine ⟨(by rfl), ?_⟩
    go_simp <;> (try with_reducible rfl)
  refine Rely.Chain.det ?_ (by rfl) (fun T xs wr hA => ?_) ?_
  rotate_left 1
  · have e55 := hA.tm 3 55 (by rfl) (by rfl)
    have f55 : xs 3 = _ := hA.fa 3 (by rfl)
    (try simp (disch := first | rfl | decide) only [Rely.mask_in] at f55)
    rw [f55] at e55
    clear f55
    have hbw := undrew (hA.be _ (Nat.le_refl _) (fun q h => absurd h (Nat.not_lt_zero q)))
    obtain ⟨a2, ea, hc0⟩ := HA0.out.keep fun a ha => ((HBW.out.trans HB11.out).trans (hbw.mono (HBW.out.trans HB11.out).size)).block _ (HA0.out.lt a ha)
    injection ea with ea
    subst ea
    have e0 : a.add (0 * 8) = a := by simp [Addr.add]
    rw [e0] at hc0
    obtain ⟨c0, c1, c2, c3, c4, c5, c6, c7⟩ := cells8 hc0
    clear hc0 e0 hbw
    clear hA
    refine ⟨(by rfl), ?_⟩
    go_simp <;> (try with_reducible rfl)
  refine Rely.Chain.det ?_ (by rfl) (fun T xs wr hA => ?_) ?_
  rotate_left 1
  · have e3 := hA.pre 3 (by kernel_rfl)
    simp only [List.getElem?_toArray, List.getElem?_cons_succ, List.getElem?_cons_zero] at e3
    clear hA
    refine ⟨(by rfl), ?_⟩
    go_simp <;> (try with_reducible rfl)
  refine Rely.Chain.det ?_ (by rfl) (fun T xs wr hA => ?_) ?_
  rotate_left 1
  · have e57 := hA.tm 5 57 (by rfl) (by rfl)
    have f57 : xs 5 = _ := hA.fa 5 (by rfl)
    (try simp (disch := first | rfl | decide) only [Rely.mask_in] at f57)
    rw [f57] at e57
    clear f57
    have hBq : wr.heap[k3]? = _ := (hA.bl _ hlt_x (fun q h => absurd h (Nat.not_lt_zero q))).trans HB_x.out
    have q0 := cell_at (v := .int .i64 6) hBq 0 rfl
    have q1 := cell_at (v := .string ⟨nm.toArray⟩) hBq 1 rfl
    have q2 := cell_at (v := .string ⟨ot.toArray⟩) hBq 2 rfl
    have q3 := cell_at (v := .bool false) hBq 3 rfl
    have q4 := cell_at (v := .slice xao xn xq) hBq 4 rfl
    have q5 := cell_at (v := .slice (some a) 1 xkc) hBq 5 rfl
    have q6 := cell_at (v := .int .i64 xln) hBq 6 rfl
    have q7 := cell_at (v := .int .i64 xcl) hBq 7 rfl
    clear hBq
    clear hA
    refine ⟨(by rfl), ?_⟩
    go_simp <;> (try with_reducible rfl)
  refine Rely.Chain.det ?_ (by rfl) (fun T xs wr hA => ?_) ?_
  rotate_left 1
  · have e58 := hA.tm 6 58 (by rfl) (by rfl)
    have f58 : xs 6 = _ := hA.fa 6 (by rfl)
    (try simp (disch := first | rfl | decide) only [Rely.mask_in] at f58)
    rw [f58] at e58
    clear f58
    clear hA
    refine ⟨(by rfl), ?_⟩
    go_simp <;> (try with_reducible rfl)
  refine Rely.Chain.det ?_ (by rfl) (fun T xs wr hA => ?_) ?_
  rotate_left 1
  · have e59 := hA.tm 7 59 (by rfl) (by rfl)
    have f59 : xs 7 = _ := hA.fa 7 (by rfl)
    (try simp (disch := first | rfl | decide) only [Rely.mask_in] at f59)
    rw [f59] at e59
    clear f59
    have hbw := undrew (hA.be _ (Nat.le_refl _) (fun q h => absurd h (Nat.not_lt_zero q)))
    have lvc := HLV.out wr hbw
    clear hbw
    clear hA
    refine ⟨(by rfl), ?_⟩
    go_simp <;> (try with_reducible rfl)
  refine Rely.Chain.done (fun xs w12 hL => ?_)
  obtain ⟨⟨hbe, hbl, hkp0⟩, hf, hp, hn⟩ := hL
  have f0 : xs 0 = _ := hf 0 (by decide)
  (try simp (disch := first | rfl | decide) only [Rely.mask_in] at f0)
  have f1 : xs 1 = _ := hf 1 (by decide)
  (try simp (disch := first | rfl | decide) only [Rely.mask_in] at f1)
  have f2 : xs 2 = _ := hf 2 (by decide)
  (try simp (disch := first | rfl | decide) only [Rely.mask_in] at f2)
  have f3 : xs 3 = _ := hf 3 (by decide)
  (try simp (disch := first | rfl | decide) only [Rely.mask_in] at f3)
  have f4 : xs 4 = _ := hf 4 (by decide)
  (try simp (disch := first | rfl | decide) only [Rely.mask_in] at f4)
  have f5 : xs 5 = _ := hf 5 (by decide)
  (try simp (disch := first | rfl | decide) only [Rely.mask_in] at f5)
  have f6 : xs 6 = _ := hf 6 (by decide)
  (try simp (disch := first | rfl | decide) only [Rely.mask_in] at f6)
  have f7 : xs 7 = _ := hf 7 (by decide)
  (try simp (disch := first | rfl | decide) only [Rely.mask_in] at f7)
  have f8 : xs 8 = _ := hf 8 (by decide)
  (try simp (disch := first | rfl | decide) only [Rely.mask_in] at f8)
  have hbx : Below w11.heap.size w11 w12 := undrew (hbe _ (Nat.le_refl _) (fun q h => absurd h (Nat.not_lt_zero q)))
  clear hbe hbl hkp0 hf hp hn
  replace HB_x := Lib.hid ((hbx.block _ hlt_x).trans HB_x.out)
  clear hlt_x
  refine Rely.rest_list (by decide) (by kernel_rfl) ?_
  simp only [Rely.fill, List.take_succ_cons, List.take_zero, List.drop_succ_cons, List.drop_zero, List.setIfInBounds_toArray, List.set_cons_zero, List.set_cons_succ, f0, f1, f2, f3, f4, f5, f6, f7, f8]
  clear f0 f1 f2 f3 f4 f5 f6 f7 f8
  have hs12 := hbx.size
  have H12 := Lib.hid (H11.out.below hbx)
  have HB12 := Lib.hid (HB11.out.trans (hbx.mono (by omega)))
  have HF12 := Lib.hid (HF11.out.trans (fr_below hbx))
  clear hbx
  go_wp2_with fail
  refine (E.out b _ (lv 6) y0 t0 S w12 HT0.out hK0 (by decide) (HBW.out.trans HB12.out) H12.out (by simp only [List.length_append]; omega)).mono ?_
  rintro e w13 ⟨⟨v2, rfl⟩, hw7, hb7, hfr7⟩
  have H13 := Lib.hid hw7
  have HB13 := Lib.hid (HB12.out.trans hb7)
  have HF13 := Lib.hid (HF12.out.trans hfr7)
  clear hw7 hb7 hfr7
  go_wp2_with fail
  go_end0
  exact ⟨⟨_, rfl⟩, (by rw [HTX.out, ← List.append_assoc]; exact H13.out), HB13.out, HF13.out⟩

set_option maxHeartbeats 8000000 in
theorem bare_u7 (w0 : World) (d : Nat) (E : Hid (ExprAt w0 d)) (b : Nat) (l : Bs) (k : Nat) (nm ot : Bs) (z : Nat) (ks : List T) (x : X) (S : Nat → Prop) (w : World) (ht : Tabs w0) (hk0 : k = 7) (h : Tr w0 S (d + 1) x (.node k nm ot z ks)) (ho : Ok (d + 1) (.node k nm ot z ks))
    (hbw : Below w0.heap.size w0 w) (hwr : Wr w0.heap.size b l w) (hlen : l.length + LL (d + 1) ≤ 1000000) :
    Calls Tryd.prog 37 #[.pointer (some ⟨b, 0, none⟩), xv x] w (WrPost w0.heap.size b (l ++ tx (.node k nm ot z ks)) w) := by
  subst hk0
  obtain ⟨t0, hks1⟩ : ∃ t0, ks = [t0] := by
    have : ks.length = 1 := by
      rcases ho.2.2.2.2.1 with ha | ha
      · omega
      · exact ha
    match ks, this with
    | [a], _ => exact ⟨a, rfl⟩
  subst hks1
  have HTX : Hid (tx (.node 7 nm ot z [t0]) = sg5 7 ++ ex (lv 7) t0) := Lib.hid (by rw [tx]; rfl)
  have hsl := sg5_len 7 (by decide)
  have hK0 : Ok d t0 := ho.2.2.2.2.2.2 t0 (by simp)
  obtain ⟨y0, hA0, hT0⟩ := h.2.2.2 0 (by simp)
  have HA0 := Lib.hid hA0
  have HT0 := Lib.hid hT0
  clear hA0 hT0
  have HOK := Lib.hid ho
  obtain ⟨hk, hn, hoo, hz, ha, hl, hks⟩ := ho
  have htr := h
  obtain ⟨⟨e1, e2, e3, e4⟩, ⟨h2, h3⟩, ⟨h4, h5, h6⟩, h7⟩ := h
  obtain ⟨xk, xnm, xot, xb, xao, xn, xq, xko, xkn, xkc, xln, xcl⟩ := x
  obtain ⟨a, hxa, -⟩ := HA0.out
  simp only at hxa
  subst hxa
  simp only at e1 e2 e3 e4 h2 h3 h4 h5 h6 h7
  subst e1 e2 e3 e4 h4
  have HTR := Lib.hid htr
  have HK := Lib.hid h7
  have HKS := Lib.hid hks
  have HS := Lib.hid h2
  have HT := Lib.hid ht
  have HBW := Lib.hid hbw
  have HWR := Lib.hid hwr
  have hsB := hbw.size
  have hLS := LL_succ d
  obtain ⟨k3, hk3⟩ : ∃ k3, k3 = w.heap.size := ⟨_, rfl⟩
  obtain ⟨w9, hw9⟩ : ∃ w9, w9 = w.alloc (.cells #[.int .i64 7, .string ⟨nm.toArray⟩, .string ⟨ot.toArray⟩, .bool false, .slice xao xn xq, .slice (some a) 1 xkc, .int .i64 xln, .int .i64 xcl] 29) := ⟨_, rfl⟩
  have hba : Below w.heap.size w w9 := by rw [hw9]; exact (Below.refl _ _).alloc (Nat.le_refl _) _
  have hx9 : w9.heap[k3]? = some (.cells #[.int .i64 7, .string ⟨nm.toArray⟩, .string ⟨ot.toArray⟩, .bool false, .slice xao xn xq, .slice (some a) 1 xkc, .int .i64 xln, .int .i64 xcl] 29 (0, 0)) := by rw [hw9, hk3]; exact made_at w _ _ rfl
  have HB_x := Lib.hid hx9
  have HW9 := Lib.hid (HWR.out.below hba)
  have HB9 := Lib.hid (hba.mono hsB)
  have HF9 := Lib.hid (fr_below hba)
  have hs9 := hba.size
  have x0 := cell_at (v := .int .i64 7) hx9 0 rfl
  have x1 := cell_at (v := .string ⟨nm.toArray⟩) hx9 1 rfl
  have x2 := cell_at (v := .string ⟨ot.toArray⟩) hx9 2 rfl
  have x3 := cell_at (v := .bool false) hx9 3 rfl
  have x4 := cell_at (v := .slice xao xn xq) hx9 4 rfl
  have x5 := cell_at (v := .slice (some a) 1 xkc) hx9 5 rfl
  have x6 := cell_at (v := .int .i64 xln) hx9 6 rfl
  have x7 := cell_at (v := .int .i64 xcl) hx9 7 rfl
  clear htr h2 h3 h6 h7 hks ha hba hx9 ht hbw hwr
  simp only [xv, List.length_cons, List.length_nil]
  go_enter Tryd.func37, Tryd.ntmps37
  go_upto_region 1 with fail
  rw [← hw9, ← hk3]
  clear hw9 hk3
  have HSG : Hid (∀ wr, Below w9.heap.size w9 wr → wr.cell? ⟨2, 7, none⟩ = some (.string ⟨(sg5 7).toArray⟩)) := Lib.hid fun wr hb => ((HT.out.below (HBW.out.trans HB9.out)).below hb).sg 7 (by decide)
  go_wp2_with fail
  have hlt_x := lt_of_block HB_x.out
  refine Rely.region (by kernel_rfl) [[], [0], [0, 1], [], [3], [3, 4], [3, 4, 5], [0, 1, 2, 3, 4, 5, 6]] [] [] (fun _ => 0) 0 7 (by kernel_rfl) (by kernel_rfl) (fun q h => absurd h (Nat.not_lt_zero q)) (fun q _ h => absurd h (Nat.not_lt_zero q)) ?_
  refine Rely.Chain.det ?_ (by rfl) (fun T xs wr hA => ?_) ?_
  rotate_left 1
  · have e0 := hA.pre 0 (by kernel_rfl)
    simp only [List.getElem?_toArray, List.getElem?_cons_zero] at e0
    clear hA
    refine ⟨(by rfl), ?_⟩
    go_simp <;> (try with_reducible rfl)
  refine Rely.Chain.det ?_ (by rfl) (fun T xs wr hA => ?_) ?_
  rotate_left 1
  · have e44 := hA.tm 0 44 (by rfl) (by rfl)
    have f44 : xs 0 = _ := hA.fa 0 (by rfl)
    (try simp (disch := first | rfl | decide) only [Rely.mask_in] at f44)
    rw [f44] at e44
    clear f44
    clear hA
    refine ⟨(by rfl), ?_⟩
    go_simp <;> (try with_reducible rfl)
  refine Rely.Chain.det ?_ (by rfl) (fun T xs wr hA => ?_) ?_
  rotate_left 1
  · have e45 := hA.tm 1 45 (by rfl) (by rfl)
    have f45 : xs 1 = _ := hA.fa 1 (by rfl)
    (try simp (disch := first | rfl | decide) only [Rely.mask_in] at f45)
    rw [f45] at e45
    clear f45
    clear hA
    refine ⟨(by rfl), ?_⟩
    go_simp <;> (try with_reducible rfl)
  refine Rely.Chain.det ?_ (by rfl) (fun T xs wr hA => ?_) ?_
  rotate_left 1
  · have e3 := hA.pre 3 (by kernel_rfl)
    simp only [List.getElem?_toArray, List.getElem?_cons_succ, List.getElem?_cons_zero] at e3
    clear hA
    refine ⟨(by rfl), ?_⟩
    go_simp <;> (try with_reducible rfl)
  refine Rely.Chain.det ?_ (by rfl) (fun T xs wr hA => ?_) ?_
  rotate_left 1
  · have e47 := hA.tm 3 47 (by rfl) (by rfl)
    have f47 : xs 3 = _ := hA.fa 3 (by rfl)
    (try simp (disch := first | rfl | decide) only [Rely.mask_in] at f47)
    rw [f47] at e47
    clear f47
    have hBq : wr.heap[k3]? = _ := (hA.bl _ hlt_x (fun q h => absurd h (Nat.not_lt_zero q))).trans HB_x.out
    have q0 := cell_at (v := .int .i64 7) hBq 0 rfl
    have q1 := cell_at (v := .string ⟨nm.toArray⟩) hBq 1 rfl
    have q2 := cell_at (v := .string ⟨ot.toArray⟩) hBq 2 rfl
    have q3 := cell_at (v := .bool false) hBq 3 rfl
    have q4 := cell_at (v := .slice xao xn xq) hBq 4 rfl
    have q5 := cell_at (v := .slice (some a) 1 xkc) hBq 5 rfl
    have q6 := cell_at (v := .int .i64 xln) hBq 6 rfl
    have q7 := cell_at (v := .int .i64 xcl) hBq 7 rfl
    clear hBq
    clear hA
    refine ⟨(by rfl), ?_⟩
    go_simp <;> (try with_reducible rfl)
  refine Rely.Chain.det ?_ (by rfl) (fun T xs wr hA => ?_) ?_
  rotate_left 1
  · have e48 := hA.tm 4 48 (by rfl) (by rfl)
    have f48 : xs 4 = _ := hA.fa 4 (by rfl)
    (try simp (disch := first | rfl | decide) only [Rely.mask_in] at f48)
    rw [f48] at e48
    clear f48
    clear hA
    refine ⟨(by rfl), ?_⟩
    go_simp <;> (try with_reducible rfl)
  refine Rely.Chain.det ?_ (by rfl) (fun T xs wr hA => ?_) ?_
  rotate_left 1
  · have e49 := hA.tm 5 49 (by rfl) (by rfl)
    have f49 : xs 5 = _ := hA.fa 5 (by rfl)
    (try simp (disch := first | rfl | decide) only [Rely.mask_in] at f49)
    rw [f49] at e49
    clear f49
    have hbw := undrew (hA.be _ (Nat.le_refl _) (fun q h => absurd h (Nat.not_lt_zero q)))
    have sgc := HSG.out wr hbw
    clear hbw
    clear hA
    refine ⟨(by rfl), ?_⟩
    go_simp <;> (try with_reducible rfl)
  refine Rely.Chain.done (fun xs w10 hL => ?_)
  obtain ⟨⟨hbe, hbl, hkp0⟩, hf, hp, hn⟩ := hL
  have f0 : xs 0 = _ := hf 0 (by decide)
  (try simp (disch := first | rfl | decide) only [Rely.mask_in] at f0)
  have f1 : xs 1 = _ := hf 1 (by decide)
  (try simp (disch := first | rfl | decide) only [Rely.mask_in] at f1)
  have f2 : xs 2 = _ := hf 2 (by decide)
  (try simp (disch := first | rfl | decide) only [Rely.mask_in] at f2)
  have f3 : xs 3 = _ := hf 3 (by decide)
  (try simp (disch := first | rfl | decide) only [Rely.mask_in] at f3)
  have f4 : xs 4 = _ := hf 4 (by decide)
  (try simp (disch := first | rfl | decide) only [Rely.mask_in] at f4)
  have f5 : xs 5 = _ := hf 5 (by decide)
  (try simp (disch := first | rfl | decide) only [Rely.mask_in] at f5)
  have f6 : xs 6 = _ := hf 6 (by decide)
  (try simp (disch := first | rfl | decide) only [Rely.mask_in] at f6)
  have hbx : Below w9.heap.size w9 w10 := undrew (hbe _ (Nat.le_refl _) (fun q h => absurd h (Nat.not_lt_zero q)))
  clear hbe hbl hkp0 hf hp hn
  replace HB_x := Lib.hid ((hbx.block _ hlt_x).trans HB_x.out)
  clear hlt_x
  refine Rely.rest_list (by decide) (by kernel_rfl) ?_
  simp only [Rely.fill, List.take_succ_cons, List.take_zero, List.drop_succ_cons, List.drop_zero, List.setIfInBounds_toArray, List.set_cons_zero, List.set_cons_succ, f0, f1, f2, f3, f4, f5, f6]
  clear f0 f1 f2 f3 f4 f5 f6
  have HBX := Lib.hid hbx
  have hs10 := hbx.size
  have H10 := Lib.hid (HW9.out.below hbx)
  have HB10 := Lib.hid (HB9.out.trans (hbx.mono (by omega)))
  have HF10 := Lib.hid (HF9.out.trans (fr_below hbx))
  clear hbx
  clear x0 x1 x2 x3 x4 x5 x6 x7
  go_wp2_with fail
  refine (wr_str w0.heap.size b l (sg5 7) w10 H10.out (by omega) (by omega)).mono ?_
  rintro e w11 ⟨⟨v, rfl⟩, hw5, hb5, hfr5⟩
  have hs11 := hb5.size
  replace HB_x := Lib.hid (hfr5 k3 _ _ _ HB_x.out (by decide) (by decide))
  have H11 := Lib.hid hw5
  have HB11 := Lib.hid (HB10.out.trans hb5)
  have HF11 := Lib.hid (HF10.out.trans hfr5)
  have HLV : Hid (∀ wr, Below w11.heap.size w11 wr → wr.cell? ⟨1, 7, none⟩ = some (.int .i64 (lv 7 : Nat))) := Lib.hid fun wr hb => ((HT.out.below (HBW.out.trans HB11.out)).below hb).lv 7 (by decide)
  clear hw5 hb5 hfr5
  go_wp2_with fail
  have hlt_x := lt_of_block HB_x.out
  refine Rely.region (by kernel_rfl) [[], [], [1], [1, 2], [1, 2, 3], [], [5], [5, 6], [5, 6, 7], [0, 1, 2, 3, 4, 5, 6, 7, 8]] [] [] (fun _ => 0) 0 9 (by kernel_rfl) (by kernel_rfl) (fun q h => absurd h (Nat.not_lt_zero q)) (fun q _ h => absurd h (Nat.not_lt_zero q)) ?_
  refine Rely.Chain.det ?_ (by rfl) (fun T xs wr hA => ?_) ?_
  rotate_left 1
  · have e0 := hA.pre 0 (by kernel_rfl)
    simp only [List.getElem?_toArray, List.getElem?_cons_zero] at e0
    clear hA
    refine ⟨(by rfl), ?_⟩
    go_simp <;> (try with_reducible rfl)
  refine Rely.Chain.det ?_ (by rfl) (fun T xs wr hA => ?_) ?_
  rotate_left 1
  · have e3 := hA.pre 3 (by kernel_rfl)
    simp only [List.getElem?_toArray, List.getElem?_cons_succ, List.getElem?_cons_zero] at e3
    clear hA
    refine ⟨(by rfl), ?_⟩
    go_simp <;> (try with_reducible rfl)
  refine Rely.Chain.det ?_ (by rfl) (fun T xs wr hA => ?_) ?_
  rotate_left 1
  · have e53 := hA.tm 1 53 (by rfl) (by rfl)
    have f53 : xs 1 = _ := hA.fa 1 (by rfl)
    (try simp (disch := first | rfl | decide) only [Rely.mask_in] at f53)
    rw [f53] at e53
    clear f53
    have hBq : wr.heap[k3]? = _ := (hA.bl _ hlt_x (fun q h => absurd h (Nat.not_lt_zero q))).trans HB_x.out
    have q0 := cell_at (v := .int .i64 7) hBq 0 rfl
    have q1 := cell_at (v := .string ⟨nm.toArray⟩) hBq 1 rfl
    have q2 := cell_at (v := .string ⟨ot.toArray⟩) hBq 2 rfl
    have q3 := cell_at (v := .bool false) hBq 3 rfl
    have q4 := cell_at (v := .slice xao xn xq) hBq 4 rfl
    have q5 := cell_at (v := .slice (some a) 1 xkc) hBq 5 rfl
    have q6 := cell_at (v := .int .i64 xln) hBq 6 rfl
    have q7 := cell_at (v := .int .i64 xcl) hBq 7 rfl
    clear hBq
    clear hA
    refine ⟨(by rfl), ?_⟩
    go_simp <;> (try with_reducible rfl)
  refine Rely.Chain.det ?_ (by rfl) (fun T xs wr hA => ?_) ?_
  rotate_left 1
  · have e54 := hA.tm 2 54 (by rfl) (by rfl)
    have f54 : xs 2 = _ := hA.fa 2 (by rfl)
    (try simp (disch := first | rfl | decide) only [Rely.mask_in] at f54)
    rw [f54] at e54
    clear f54
    clear hA
    refine ⟨(by rfl), ?_⟩
    go_simp <;> (try with_reducible rfl)
  refine Rely.Chain.det ?_ (by rfl) (fun T xs wr hA => ?_) ?_
  rotate_left 1
  · have e55 := hA.tm 3 55 (by rfl) (by rfl)
    have f55 : xs 3 = _ := hA.fa 3 (by rfl)
    (try simp (disch := first | rfl | decide) only [Rely.mask_in] at f55)
    rw [f55] at e55
    clear f55
    have hbw := undrew (hA.be _ (Nat.le_refl _) (fun q h => absurd h (Nat.not_lt_zero q)))
    obtain ⟨a2, ea, hc0⟩ := HA0.out.keep fun a ha => ((HBW.out.trans HB11.out).trans (hbw.mono (HBW.out.trans HB11.out).size)).block _ (HA0.out.lt a ha)
    injection ea with ea
    subst ea
    have e0 : a.add (0 * 8) = a := by simp [Addr.add]
    rw [e0] at hc0
    obtain ⟨c0, c1, c2, c3, c4, c5, c6, c7⟩ := cells8 hc0
    clear hc0 e0 hbw
    clear hA
    refine ⟨(by rfl), ?_⟩
    go_simp <;> (try with_reducible rfl)
  refine Rely.Chain.det ?_ (by rfl) (fun T xs wr hA => ?_) ?_
  rotate_left 1
  · have e3 := hA.pre 3 (by kernel_rfl)
    simp only [List.getElem?_toArray, List.getElem?_cons_succ, List.getElem?_cons_zero] at e3
    clear hA
    refine ⟨(by rfl), ?_⟩
    go_simp <;> (try with_reducible rfl)
  refine Rely.Chain.det ?_ (by rfl) (fun T xs wr hA => ?_) ?_
  rotate_left 1
  · have e57 := hA.tm 5 57 (by rfl) (by rfl)
    have f57 : xs 5 = _ := hA.fa 5 (by rfl)
    (try simp (disch := first | rfl | decide) only [Rely.mask_in] at f57)
    rw [f57] at e57
    clear f57
    have hBq : wr.heap[k3]? = _ := (hA.bl _ hlt_x (fun q h => absurd h (Nat.not_lt_zero q))).trans HB_x.out
    have q0 := cell_at (v := .int .i64 7) hBq 0 rfl
    have q1 := cell_at (v := .string ⟨nm.toArray⟩) hBq 1 rfl
    have q2 := cell_at (v := .string ⟨ot.toArray⟩) hBq 2 rfl
    have q3 := cell_at (v := .bool false) hBq 3 rfl
    have q4 := cell_at (v := .slice xao xn xq) hBq 4 rfl
    have q5 := cell_at (v := .slice (some a) 1 xkc) hBq 5 rfl
    have q6 := cell_at (v := .int .i64 xln) hBq 6 rfl
    have q7 := cell_at (v := .int .i64 xcl) hBq 7 rfl
    clear hBq
    clear hA
    refine ⟨(by rfl), ?_⟩
    go_simp <;> (try with_reducible rfl)
  refine Rely.Chain.det ?_ (by rfl) (fun T xs wr hA => ?_) ?_
  rotate_left 1
  · have e58 := hA.tm 6 58 (by rfl) (by rfl)
    have f58 : xs 6 = _ := hA.fa 6 (by rfl)
    (try simp (disch := first | rfl | decide) only [Rely.mask_in] at f58)
    rw [f58] at e58
    clear f58
    clear hA
    refine ⟨(by rfl), ?_⟩
    go_simp <;> (try with_reducible rfl)
  refine Rely.Chain.det ?_ (by rfl) (fun T xs wr hA => ?_) ?_
  rotate_left 1
  · have e59 := hA.tm 7 59 (by rfl) (by rfl)
    have f59 : xs 7 = _ := hA.fa 7 (by rfl)
    (try simp (disch := first | rfl | decide) only [Rely.mask_in] at f59)
    rw [f59] at e59
    clear f59
    have hbw := undrew (hA.be _ (Nat.le_refl _) (fun q h => absurd h (Nat.not_lt_zero q)))
    have lvc := HLV.out wr hbw
    clear hbw
    clear hA
    refine ⟨(by rfl), ?_⟩
    go_simp <;> (try with_reducible rfl)
  refine Rely.Chain.done (fun xs w12 hL => ?_)
  obtain ⟨⟨hbe, hbl, hkp0⟩, hf, hp, hn⟩ := hL
  have f0 : xs 0 = _ := hf 0 (by decide)
  (try simp (disch := first | rfl | decide) only [Rely.mask_in] at f0)
  have f1 : xs 1 = _ := hf 1 (by decide)
  (try simp (disch := first | rfl | decide) only [Rely.mask_in] at f1)
  have f2 : xs 2 = _ := hf 2 (by decide)
  (try simp (disch := first | rfl | decide) only [Rely.mask_in] at f2)
  have f3 : xs 3 = _ := hf 3 (by decide)
  (try simp (disch := first | rfl | decide) only [Rely.mask_in] at f3)
  have f4 : xs 4 = _ := hf 4 (by decide)
  (try simp (disch := first | rfl | decide) only [Rely.mask_in] at f4)
  have f5 : xs 5 = _ := hf 5 (by decide)
  (try simp (disch := first | rfl | decide) only [Rely.mask_in] at f5)
  have f6 : xs 6 = _ := hf 6 (by decide)
  (try simp (disch := first | rfl | decide) only [Rely.mask_in] at f6)
  have f7 : xs 7 = _ := hf 7 (by decide)
  (try simp (disch := first | rfl | decide) only [Rely.mask_in] at f7)
  have f8 : xs 8 = _ := hf 8 (by decide)
  (try simp (disch := first | rfl | decide) only [Rely.mask_in] at f8)
  have hbx : Below w11.heap.size w11 w12 := undrew (hbe _ (Nat.le_refl _) (fun q h => absurd h (Nat.not_lt_zero q)))
  clear hbe hbl hkp0 hf hp hn
  replace HB_x := Lib.hid ((hbx.block _ hlt_x).trans HB_x.out)
  clear hlt_x
  refine Rely.rest_list (by decide) (by kernel_rfl) ?_
  simp only [Rely.fill, List.take_succ_cons, List.take_zero, List.drop_succ_cons, List.drop_zero, List.setIfInBounds_toArray, List.set_cons_zero, List.set_cons_succ, f0, f1, f2, f3, f4, f5, f6, f7, f8]
  clear f0 f1 f2 f3 f4 f5 f6 f7 f8
  have hs12 := hbx.size
  have H12 := Lib.hid (H11.out.below hbx)
  have HB12 := Lib.hid (HB11.out.trans (hbx.mono (by omega)))
  have HF12 := Lib.hid (HF11.out.trans (fr_below hbx))
  clear hbx
  go_wp2_with fail
  refine (E.out b _ (lv 7) y0 t0 S w12 HT0.out hK0 (by decide) (HBW.out.trans HB12.out) H12.out (by simp only [List.length_append]; omega)).mono ?_
  rintro e w13 ⟨⟨v2, rfl⟩, hw7, hb7, hfr7⟩
  have H13 := Lib.hid hw7
  have HB13 := Lib.hid (HB12.out.trans hb7)
  have HF13 := Lib.hid (HF12.out.trans hfr7)
  clear hw7 hb7 hfr7
  go_wp2_with fail
  go_end0
  exact ⟨⟨_, rfl⟩, (by rw [HTX.out, ← List.append_assoc]; exact H13.out), HB13.out, HF13.out⟩

set_option maxHeartbeats 8000000 in
theorem bare_u8 (w0 : World) (d : Nat) (E : Hid (ExprAt w0 d)) (b : Nat) (l : Bs) (k : Nat) (nm ot : Bs) (z : Nat) (ks : List T) (x : X) (S : Nat → Prop) (w : World) (ht : Tabs w0) (hk0 : k = 8) (h : Tr w0 S (d + 1) x (.node k nm ot z ks)) (ho : Ok (d + 1) (.node k nm ot z ks))
    (hbw : Below w0.heap.size w0 w) (hwr : Wr w0.heap.size b l w) (hlen : l.length + LL (d + 1) ≤ 1000000) :
    Calls Tryd.prog 37 #[.pointer (some ⟨b, 0, none⟩), xv x] w (WrPost w0.heap.size b (l ++ tx (.node k nm ot z ks)) w) := by
  subst hk0
  obtain ⟨t0, hks1⟩ : ∃ t0, ks = [t0] := by
    have : ks.length = 1 := by
      rcases ho.2.2.2.2.1 with ha | ha
      · omega
      · exact ha
    match ks, this with
    | [a], _ => exact ⟨a, rfl⟩
  subst hks1
  have HTX : Hid (tx (.node 8 nm ot z [t0]) = sg5 8 ++ ex (lv 8) t0) := Lib.hid (by rw [tx]; rfl)
  have hsl := sg5_len 8 (by decide)
  have hK0 : Ok d t0 := ho.2.2.2.2.2.2 t0 (by simp)
  obtain ⟨y0, hA0, hT0⟩ := h.2.2.2 0 (by simp)
  have HA0 := Lib.hid hA0
  have HT0 := Lib.hid hT0
  clear hA0 hT0
  have HOK := Lib.hid ho
  obtain ⟨hk, hn, hoo, hz, ha, hl, hks⟩ := ho
  have htr := h
  obtain ⟨⟨e1, e2, e3, e4⟩, ⟨h2, h3⟩, ⟨h4, h5, h6⟩, h7⟩ := h
  obtain ⟨xk, xnm, xot, xb, xao, xn, xq, xko, xkn, xkc, xln, xcl⟩ := x
  obtain ⟨a, hxa, -⟩ := HA0.out
  simp only at hxa
  subst hxa
  simp only at e1 e2 e3 e4 h2 h3 h4 h5 h6 h7
  subst e1 e2 e3 e4 h4
  have HTR := Lib.hid htr
  have HK := Lib.hid h7
  have HKS := Lib.hid hks
  have HS := Lib.hid h2
  have HT := Lib.hid ht
  have HBW := Lib.hid hbw
  have HWR := Lib.hid hwr
  have hsB := hbw.size
  have hLS := LL_succ d
  obtain ⟨k3, hk3⟩ : ∃ k3, k3 = w.heap.size := ⟨_, rfl⟩
  obtain ⟨w9, hw9⟩ : ∃ w9, w9 = w.alloc (.cells #[.int .i64 8, .string ⟨nm.toArray⟩, .string ⟨ot.toArray⟩, .bool false, .slice xao xn xq, .slice (some a) 1 xkc, .int .i64 xln, .int .i64 xcl] 29) := ⟨_, rfl⟩
  have hba : Below w.heap.size w w9 := by rw [hw9]; exact (Below.refl _ _).alloc (Nat.le_refl _) _
  have hx9 : w9.heap[k3]? = some (.cells #[.int .i64 8, .string ⟨nm.toArray⟩, .string ⟨ot.toArray⟩, .bool false, .slice xao xn xq, .slice (some a) 1 xkc, .int .i64 xln, .int .i64 xcl] 29 (0, 0)) := by rw [hw9, hk3]; exact made_at w _ _ rfl
  have HB_x := Lib.hid hx9
  have HW9 := Lib.hid (HWR.out.below hba)
  have HB9 := Lib.hid (hba.mono hsB)
  have HF9 := Lib.hid (fr_below hba)
  have hs9 := hba.size
  have x0 := cell_at (v := .int .i64 8) hx9 0 rfl
  have x1 := cell_at (v := .string ⟨nm.toArray⟩) hx9 1 rfl
  have x2 := cell_at (v := .string ⟨ot.toArray⟩) hx9 2 rfl
  have x3 := cell_at (v := .bool false) hx9 3 rfl
  have x4 := cell_at (v := .slice xao xn xq) hx9 4 rfl
  have x5 := cell_at (v := .slice (some a) 1 xkc) hx9 5 rfl
  have x6 := cell_at (v := .int .i64 xln) hx9 6 rfl
  have x7 := cell_at (v := .int .i64 xcl) hx9 7 rfl
  clear htr h2 h3 h6 h7 hks ha hba hx9 ht hbw hwr
  simp only [xv, List.length_cons, List.length_nil]
  go_enter Tryd.func37, Tryd.ntmps37
  go_upto_region 1 with fail
  rw [← hw9, ← hk3]
  clear hw9 hk3
  have HSG : Hid (∀ wr, Below w9.heap.size w9 wr → wr.cell? ⟨2, 8, none⟩ = some (.string ⟨(sg5 8).toArray⟩)) := Lib.hid fun wr hb => ((HT.out.below (HBW.out.trans HB9.out)).below hb).sg 8 (by decide)
  go_wp2_with fail
  have hlt_x := lt_of_block HB_x.out
  refine Rely.region (by kernel_rfl) [[], [0], [0, 1], [], [3], [3, 4], [3, 4, 5], [0, 1, 2, 3, 4, 5, 6]] [] [] (fun _ => 0) 0 7 (by kernel_rfl) (by kernel_rfl) (fun q h => absurd h (Nat.not_lt_zero q)) (fun q _ h => absurd h (Nat.not_lt_zero q)) ?_
  refine Rely.Chain.det ?_ (by rfl) (fun T xs wr hA => ?_) ?_
  rotate_left 1
  · have e0 := hA.pre 0 (by kernel_rfl)
    simp only [List.getElem?_toArray, List.getElem?_cons_zero] at e0
    clear hA
    refine ⟨(by rfl), ?_⟩
    go_simp <;> (try with_reducible rfl)
  refine Rely.Chain.det ?_ (by rfl) (fun T xs wr hA => ?_) ?_
  rotate_left 1
  · have e44 := hA.tm 0 44 (by rfl) (by rfl)
    have f44 : xs 0 = _ := hA.fa 0 (by rfl)
    (try simp (disch := first | rfl | decide) only [Rely.mask_in] at f44)
    rw [f44] at e44
    clear f44
    clear hA
    refine ⟨(by rfl), ?_⟩
    go_simp <;> (try with_reducible rfl)
  refine Rely.Chain.det ?_ (by rfl) (fun T xs wr hA => ?_) ?_
  rotate_left 1
  · have e45 := hA.tm 1 45 (by rfl) (by rfl)
    have f45 : xs 1 = _ := hA.fa 1 (by rfl)
    (try simp (disch := first | rfl | decide) only [Rely.mask_in] at f45)
    rw [f45] at e45
    clear f45
    clear hA
    refine ⟨(by rfl), ?_⟩
    go_simp <;> (try with_reducible rfl)
  refine Rely.Chain.det ?_ (by rfl) (fun T xs wr hA => ?_) ?_
  rotate_left 1
  · have e3 := hA.pre 3 (by kernel_rfl)
    simp only [List.getElem?_toArray, List.getElem?_cons_succ, List.getElem?_cons_zero] at e3
    clear hA
    refine ⟨(by rfl), ?_⟩
    go_simp <;> (try with_reducible rfl)
  refine Rely.Chain.det ?_ (by rfl) (fun T xs wr hA => ?_) ?_
  rotate_left 1
  · have e47 := hA.tm 3 47 (by rfl) (by rfl)
    have f47 : xs 3 = _ := hA.fa 3 (by rfl)
    (try simp (disch := first | rfl | decide) only [Rely.mask_in] at f47)
    rw [f47] at e47
    clear f47
    have hBq : wr.heap[k3]? = _ := (hA.bl _ hlt_x (fun q h => absurd h (Nat.not_lt_zero q))).trans HB_x.out
    have q0 := cell_at (v := .int .i64 8) hBq 0 rfl
    have q1 := cell_at (v := .string ⟨nm.toArray⟩) hBq 1 rfl
    have q2 := cell_at (v := .string ⟨ot.toArray⟩) hBq 2 rfl
    have q3 := cell_at (v := .bool false) hBq 3 rfl
    have q4 := cell_at (v := .slice xao xn xq) hBq 4 rfl
    have q5 := cell_at (v := .slice (some a) 1 xkc) hBq 5 rfl
    have q6 := cell_at (v := .int .i64 xln) hBq 6 rfl
    have q7 := cell_at (v := .int .i64 xcl) hBq 7 rfl
    clear hBq
    clear hA
    refine ⟨(by rfl), ?_⟩
    go_simp <;> (try with_reducible rfl)
  refine Rely.Chain.det ?_ (by rfl) (fun T xs wr hA => ?_) ?_
  rotate_left 1
  · have e48 := hA.tm 4 48 (by rfl) (by rfl)
    have f48 : xs 4 = _ := hA.fa 4 (by rfl)
    (try simp (disch := first | rfl | decide) only [Rely.mask_in] at f48)
    rw [f48] at e48
    clear f48
    clear hA
    refine ⟨(by rfl), ?_⟩
    go_simp <;> (try with_reducible rfl)
  refine Rely.Chain.det ?_ (by rfl) (fun T xs wr hA => ?_) ?_
  rotate_left 1
  · have e49 := hA.tm 5 49 (by rfl) (by rfl)
    have f49 : xs 5 = _ := hA.fa 5 (by rfl)
    (try simp (disch := first | rfl | decide) only [Rely.mask_in] at f49)
    rw [f49] at e49
    clear f49
    have hbw := undrew (hA.be _ (Nat.le_refl _) (fun q h => absurd h (Nat.not_lt_zero q)))
    have sgc := HSG.out wr hbw
    clear hbw
    clear hA
    refine ⟨(by rfl), ?_⟩
    go_simp <;> (try with_reducible rfl)
  refine Rely.Chain.done (fun xs w10 hL => ?_)
  obtain ⟨⟨hbe, hbl, hkp0⟩, hf, hp, hn⟩ := hL
  have f0 : xs 0 = _ := hf 0 (by decide)
  (try simp (disch := first | rfl | decide) only [Rely.mask_in] at f0)
  have f1 : xs 1 = _ := hf 1 (by decide)
  (try simp (disch := first | rfl | decide) only [Rely.mask_in] at f1)
  have f2 : xs 2 = _ := hf 2 (by decide)
  (try simp (disch := first | rfl | decide) only [Rely.mask_in] at f2)
  have f3 : xs 3 = _ := hf 3 (by decide)
  (try simp (disch := first | rfl | decide) only [Rely.mask_in] at f3)
  have f4 : xs 4 = _ := hf 4 (by decide)
  (try simp (disch := first | rfl | decide) only [Rely.mask_in] at f4)
  have f5 : xs 5 = _ := hf 5 (by decide)
  (try simp (disch := first | rfl | decide) only [Rely.mask_in] at f5)
  have f6 : xs 6 = _ := hf 6 (by decide)
  (try simp (disch := first | rfl | decide) only [Rely.mask_in] at f6)
  have hbx : Below w9.heap.size w9 w10 := undrew (hbe _ (Nat.le_refl _) (fun q h => absurd h (Nat.not_lt_zero q)))
  clear hbe hbl hkp0 hf hp hn
  replace HB_x := Lib.hid ((hbx.block _ hlt_x).trans HB_x.out)
  clear hlt_x
  refine Rely.rest_list (by decide) (by kernel_rfl) ?_
  simp only [Rely.fill, List.take_succ_cons, List.take_zero, List.drop_succ_cons, List.drop_zero, List.setIfInBounds_toArray, List.set_cons_zero, List.set_cons_succ, f0, f1, f2, f3, f4, f5, f6]
  clear f0 f1 f2 f3 f4 f5 f6
  have HBX := Lib.hid hbx
  have hs10 := hbx.size
  have H10 := Lib.hid (HW9.out.below hbx)
  have HB10 := Lib.hid (HB9.out.trans (hbx.mono (by omega)))
  have HF10 := Lib.hid (HF9.out.trans (fr_below hbx))
  clear hbx
  clear x0 x1 x2 x3 x4 x5 x6 x7
  go_wp2_with fail
  refine (wr_str w0.heap.size b l (sg5 8) w10 H10.out (by omega) (by omega)).mono ?_
  rintro e w11 ⟨⟨v, rfl⟩, hw5, hb5, hfr5⟩
  have hs11 := hb5.size
  replace HB_x := Lib.hid (hfr5 k3 _ _ _ HB_x.out (by decide) (by decide))
  have H11 := Lib.hid hw5
  have HB11 := Lib.hid (HB10.out.trans hb5)
  have HF11 := Lib.hid (HF10.out.trans hfr5)
  have HLV : Hid (∀ wr, Below w11.heap.size w11 wr → wr.cell? ⟨1, 8, none⟩ = some (.int .i64 (lv 8 : Nat))) := Lib.hid fun wr hb => ((HT.out.below (HBW.out.trans HB11.out)).below hb).lv 8 (by decide)
  clear hw5 hb5 hfr5
  go_wp2_with fail
  have hlt_x := lt_of_block HB_x.out
  refine Rely.region (by kernel_rfl) [[], [], [1], [1, 2], [1, 2, 3], [], [5], [5, 6], [5, 6, 7], [0, 1, 2, 3, 4, 5, 6, 7, 8]] [] [] (fun _ => 0) 0 9 (by kernel_rfl) (by kernel_rfl) (fun q h => absurd h (Nat.not_lt_zero q)) (fun q _ h => absurd h (Nat.not_lt_zero q)) ?_
  refine Rely.Chain.det ?_ (by rfl) (fun T xs wr hA => ?_) ?_
  rotate_left 1
  · have e0 := hA.pre 0 (by kernel_rfl)
    simp only [List.getElem?_toArray, List.getElem?_cons_zero] at e0
    clear hA
    refine ⟨(by rfl), ?_⟩
    go_simp <;> (try with_reducible rfl)
  refine Rely.Chain.det ?_ (by rfl) (fun T xs wr hA => ?_) ?_
  rotate_left 1
  · have e3 := hA.pre 3 (by kernel_rfl)
    simp only [List.getElem?_toArray, List.getElem?_cons_succ, List.getElem?_cons_zero] at e3
    clear hA
    refine ⟨(by rfl), ?_⟩
    go_simp <;> (try with_reducible rfl)
  refine Rely.Chain.det ?_ (by rfl) (fun T xs wr hA => ?_) ?_
  rotate_left 1
  · have e53 := hA.tm 1 53 (by rfl) (by rfl)
    have f53 : xs 1 = _ := hA.fa 1 (by rfl)
    (try simp (disch := first | rfl | decide) only [Rely.mask_in] at f53)
    rw [f53] at e53
    clear f53
    have hBq : wr.heap[k3]? = _ := (hA.bl _ hlt_x (fun q h => absurd h (Nat.not_lt_zero q))).trans HB_x.out
    have q0 := cell_at (v := .int .i64 8) hBq 0 rfl
    have q1 := cell_at (v := .string ⟨nm.toArray⟩) hBq 1 rfl
    have q2 := cell_at (v := .string ⟨ot.toArray⟩) hBq 2 rfl
    have q3 := cell_at (v := .bool false) hBq 3 rfl
    have q4 := cell_at (v := .slice xao xn xq) hBq 4 rfl
    have q5 := cell_at (v := .slice (some a) 1 xkc) hBq 5 rfl
    have q6 := cell_at (v := .int .i64 xln) hBq 6 rfl
    have q7 := cell_at (v := .int .i64 xcl) hBq 7 rfl
    clear hBq
    clear hA
    refine ⟨(by rfl), ?_⟩
    go_simp <;> (try with_reducible rfl)
  refine Rely.Chain.det ?_ (by rfl) (fun T xs wr hA => ?_) ?_
  rotate_left 1
  · have e54 := hA.tm 2 54 (by rfl) (by rfl)
    have f54 : xs 2 = _ := hA.fa 2 (by rfl)
    (try simp (disch := first | rfl | decide) only [Rely.mask_in] at f54)
    rw [f54] at e54
    clear f54
    clear hA
    refine ⟨(by rfl), ?_⟩
    go_simp <;> (try with_reducible rfl)
  refine Rely.Chain.det ?_ (by rfl) (fun T xs wr hA => ?_) ?_
  rotate_left 1
  · have e55 := hA.tm 3 55 (by rfl) (by rfl)
    have f55 : xs 3 = _ := hA.fa 3 (by rfl)
    (try simp (disch := first | rfl | decide) only [Rely.mask_in] at f55)
    rw [f55] at e55
    clear f55
    have hbw := undrew (hA.be _ (Nat.le_refl _) (fun q h => absurd h (Nat.not_lt_zero q)))
    obtain ⟨a2, ea, hc0⟩ := HA0.out.keep fun a ha => ((HBW.out.trans HB11.out).trans (hbw.mono (HBW.out.trans HB11.out).size)).block _ (HA0.out.lt a ha)
    injection ea with ea
    subst ea
    have e0 : a.add (0 * 8) = a := by simp [Addr.add]
    rw [e0] at hc0
    obtain ⟨c0, c1, c2, c3, c4, c5, c6, c7⟩ := cells8 hc0
    clear hc0 e0 hbw
    clear hA
    refine ⟨(by rfl), ?_⟩
    go_simp <;> (try with_reducible rfl)
  refine Rely.Chain.det ?_ (by rfl) (fun T xs wr hA => ?_) ?_
  rotate_left 1
  · have e3 := hA.pre 3 (by kernel_rfl)
    simp only [List.getElem?_toArray, List.getElem?_cons_succ, List.getElem?_cons_zero] at e3
    clear hA
    refine ⟨(by rfl), ?_⟩
    go_simp <;> (try with_reducible rfl)
  refine Rely.Chain.det ?_ (by rfl) (fun T xs wr hA => ?_) ?_
  rotate_left 1
  · have e57 := hA.tm 5 57 (by rfl) (by rfl)
    have f57 : xs 5 = _ := hA.fa 5 (by rfl)
    (try simp (disch := first | rfl | decide) only [Rely.mask_in] at f57)
    rw [f57] at e57
    clear f57
    have hBq : wr.heap[k3]? = _ := (hA.bl _ hlt_x (fun q h => absurd h (Nat.not_lt_zero q))).trans HB_x.out
    have q0 := cell_at (v := .int .i64 8) hBq 0 rfl
    have q1 := cell_at (v := .string ⟨nm.toArray⟩) hBq 1 rfl
    have q2 := cell_at (v := .string ⟨ot.toArray⟩) hBq 2 rfl
    have q3 := cell_at (v := .bool false) hBq 3 rfl
    have q4 := cell_at (v := .slice xao xn xq) hBq 4 rfl
    have q5 := cell_at (v := .slice (some a) 1 xkc) hBq 5 rfl
    have q6 := cell_at (v := .int .i64 xln) hBq 6 rfl
    have q7 := cell_at (v := .int .i64 xcl) hBq 7 rfl
    clear hBq
    clear hA
    refine ⟨(by rfl), ?_⟩
    go_simp <;> (try with_reducible rfl)
  refine Rely.Chain.det ?_ (by rfl) (fun T xs wr hA => ?_) ?_
  rotate_left 1
  · have e58 := hA.tm 6 58 (by rfl) (by rfl)
    have f58 : xs 6 = _ := hA.fa 6 (by rfl)
    (try simp (disch := first | rfl | decide) only [Rely.mask_in] at f58)
    rw [f58] at e58
    clear f58
    clear hA
    refine ⟨(by rfl), ?_⟩
    go_simp <;> (try with_reducible rfl)
  refine Rely.Chain.det ?_ (by rfl) (fun T xs wr hA => ?_) ?_
  rotate_left 1
  · have e59 := hA.tm 7 59 (by rfl) (by rfl)
    have f59 : xs 7 = _ := hA.fa 7 (by rfl)
    (try simp (disch := first | rfl | decide) only [Rely.mask_in] at f59)
    rw [f59] at e59
    clear f59
    have hbw := undrew (hA.be _ (Nat.le_refl _) (fun q h => absurd h (Nat.not_lt_zero q)))
    have lvc := HLV.out wr hbw
    clear hbw
    clear hA
    refine ⟨(by rfl), ?_⟩
    go_simp <;> (try with_reducible rfl)
  refine Rely.Chain.done (fun xs w12 hL => ?_)
  obtain ⟨⟨hbe, hbl, hkp0⟩, hf, hp, hn⟩ := hL
  have f0 : xs 0 = _ := hf 0 (by decide)
  (try simp (disch := first | rfl | decide) only [Rely.mask_in] at f0)
  have f1 : xs 1 = _ := hf 1 (by decide)
  (try simp (disch := first | rfl | decide) only [Rely.mask_in] at f1)
  have f2 : xs 2 = _ := hf 2 (by decide)
  (try simp (disch := first | rfl | decide) only [Rely.mask_in] at f2)
  have f3 : xs 3 = _ := hf 3 (by decide)
  (try simp (disch := first | rfl | decide) only [Rely.mask_in] at f3)
  have f4 : xs 4 = _ := hf 4 (by decide)
  (try simp (disch := first | rfl | decide) only [Rely.mask_in] at f4)
  have f5 : xs 5 = _ := hf 5 (by decide)
  (try simp (disch := first | rfl | decide) only [Rely.mask_in] at f5)
  have f6 : xs 6 = _ := hf 6 (by decide)
  (try simp (disch := first | rfl | decide) only [Rely.mask_in] at f6)
  have f7 : xs 7 = _ := hf 7 (by decide)
  (try simp (disch := first | rfl | decide) only [Rely.mask_in] at f7)
  have f8 : xs 8 = _ := hf 8 (by decide)
  (try simp (disch := first | rfl | decide) only [Rely.mask_in] at f8)
  have hbx : Below w11.heap.size w11 w12 := undrew (hbe _ (Nat.le_refl _) (fun q h => absurd h (Nat.not_lt_zero q)))
  clear hbe hbl hkp0 hf hp hn
  replace HB_x := Lib.hid ((hbx.block _ hlt_x).trans HB_x.out)
  clear hlt_x
  refine Rely.rest_list (by decide) (by kernel_rfl) ?_
  simp only [Rely.fill, List.take_succ_cons, List.take_zero, List.drop_succ_cons, List.drop_zero, List.setIfInBounds_toArray, List.set_cons_zero, List.set_cons_succ, f0, f1, f2, f3, f4, f5, f6, f7, f8]
  clear f0 f1 f2 f3 f4 f5 f6 f7 f8
  have hs12 := hbx.size
  have H12 := Lib.hid (H11.out.below hbx)
  have HB12 := Lib.hid (HB11.out.trans (hbx.mono (by omega)))
  have HF12 := Lib.hid (HF11.out.trans (fr_below hbx))
  clear hbx
  go_wp2_with fail
  refine (E.out b _ (lv 8) y0 t0 S w12 HT0.out hK0 (by decide) (HBW.out.trans HB12.out) H12.out (by simp only [List.length_append]; omega)).mono ?_
  rintro e w13 ⟨⟨v2, rfl⟩, hw7, hb7, hfr7⟩
  have H13 := Lib.hid hw7
  have HB13 := Lib.hid (HB12.out.trans hb7)
  have HF13 := Lib.hid (HF12.out.trans hfr7)
  clear hw7 hb7 hfr7
  go_wp2_with fail
  go_end0
  exact ⟨⟨_, rfl⟩, (by rw [HTX.out, ← List.append_assoc]; exact H13.out), HB13.out, HF13.out⟩

set_option maxHeartbeats 8000000 in
theorem bare_u9 (w0 : World) (d : Nat) (E : Hid (ExprAt w0 d)) (b : Nat) (l : Bs) (k : Nat) (nm ot : Bs) (z : Nat) (ks : List T) (x : X) (S : Nat → Prop) (w : World) (ht : Tabs w0) (hk0 : k = 9) (h : Tr w0 S (d + 1) x (.node k nm ot z ks)) (ho : Ok (d + 1) (.node k nm ot z ks))
    (hbw : Below w0.heap.size w0 w) (hwr : Wr w0.heap.size b l w) (hlen : l.length + LL (d + 1) ≤ 1000000) :
    Calls Tryd.prog 37 #[.pointer (some ⟨b, 0, none⟩), xv x] w (WrPost w0.heap.size b (l ++ tx (.node k nm ot z ks)) w) := by
  subst hk0
  obtain ⟨t0, hks1⟩ : ∃ t0, ks = [t0] := by
    have : ks.length = 1 := by
      rcases ho.2.2.2.2.1 with ha | ha
      · omega
      · exact ha
    match ks, this with
    | [a], _ => exact ⟨a, rfl⟩
  subst hks1
  have HTX : Hid (tx (.node 9 nm ot z [t0]) = sg5 9 ++ ex (lv 9) t0) := Lib.hid (by rw [tx]; rfl)
  have hsl := sg5_len 9 (by decide)
  have hK0 : Ok d t0 := ho.2.2.2.2.2.2 t0 (by simp)
  obtain ⟨y0, hA0, hT0⟩ := h.2.2.2 0 (by simp)
  have HA0 := Lib.hid hA0
  have HT0 := Lib.hid hT0
  clear hA0 hT0
  have HOK := Lib.hid ho
  obtain ⟨hk, hn, hoo, hz, ha, hl, hks⟩ := ho
  have htr := h
  obtain ⟨⟨e1, e2, e3, e4⟩, ⟨h2, h3⟩, ⟨h4, h5, h6⟩, h7⟩ := h
  obtain ⟨xk, xnm, xot, xb, xao, xn, xq, xko, xkn, xkc, xln, xcl⟩ := x
  obtain ⟨a, hxa, -⟩ := HA0.out
  simp only at hxa
  subst hxa
  simp only at e1 e2 e3 e4 h2 h3 h4 h5 h6 h7
  subst e1 e2 e3 e4 h4
  have HTR := Lib.hid htr
  have HK := Lib.hid h7
  have HKS := Lib.hid hks
  have HS := Lib.hid h2
  have HT := Lib.hid ht
  have HBW := Lib.hid hbw
  have HWR := Lib.hid hwr
  have hsB := hbw.size
  have hLS := LL_succ d
  obtain ⟨k3, hk3⟩ : ∃ k3, k3 = w.heap.size := ⟨_, rfl⟩
  obtain ⟨w9, hw9⟩ : ∃ w9, w9 = w.alloc (.cells #[.int .i64 9, .string ⟨nm.toArray⟩, .string ⟨ot.toArray⟩, .bool false, .slice xao xn xq, .slice (some a) 1 xkc, .int .i64 xln, .int .i64 xcl] 29) := ⟨_, rfl⟩
  have hba : Below w.heap.size w w9 := by rw [hw9]; exact (Below.refl _ _).alloc (Nat.le_refl _) _
  have hx9 : w9.heap[k3]? = some (.cells #[.int .i64 9, .string ⟨nm.toArray⟩, .string ⟨ot.toArray⟩, .bool false, .slice xao xn xq, .slice (some a) 1 xkc, .int .i64 xln, .int .i64 xcl] 29 (0, 0)) := by rw [hw9, hk3]; exact made_at w _ _ rfl
  have HB_x := Lib.hid hx9
  have HW9 := Lib.hid (HWR.out.below hba)
  have HB9 := Lib.hid (hba.mono hsB)
  have HF9 := Lib.hid (fr_below hba)
  have hs9 := hba.size
  have x0 := cell_at (v := .int .i64 9) hx9 0 rfl
  have x1 := cell_at (v := .string ⟨nm.toArray⟩) hx9 1 rfl
  have x2 := cell_at (v := .string ⟨ot.toArray⟩) hx9 2 rfl
  have x3 := cell_at (v := .bool false) hx9 3 rfl
  have x4 := cell_at (v := .slice xao xn xq) hx9 4 rfl
  have x5 := cell_at (v := .slice (some a) 1 xkc) hx9 5 rfl
  have x6 := cell_at (v := .int .i64 xln) hx9 6 rfl
  have x7 := cell_at (v := .int .i64 xcl) hx9 7 rfl
  clear htr h2 h3 h6 h7 hks ha hba hx9 ht hbw hwr
  simp only [xv, List.length_cons, List.length_nil]
  go_enter Tryd.func37, Tryd.ntmps37
  go_upto_region 1 with fail
  rw [← hw9, ← hk3]
  clear hw9 hk3
  have HSG : Hid (∀ wr, Below w9.heap.size w9 wr → wr.cell? ⟨2, 9, none⟩ = some (.string ⟨(sg5 9).toArray⟩)) := Lib.hid fun wr hb => ((HT.out.below (HBW.out.trans HB9.out)).below hb).sg 9 (by decide)
  go_wp2_with fail
  have hlt_x := lt_of_block HB_x.out
  refine Rely.region (by kernel_rfl) [[], [0], [0, 1], [], [3], [3, 4], [3, 4, 5], [0, 1, 2, 3, 4, 5, 6]] [] [] (fun _ => 0) 0 7 (by kernel_rfl) (by kernel_rfl) (fun q h => absurd h (Nat.not_lt_zero q)) (fun q _ h => absurd h (Nat.not_lt_zero q)) ?_
  refine Rely.Chain.det ?_ (by rfl) (fun T xs wr hA => ?_) ?_
  rotate_left 1
  · have e0 := hA.pre 0 (by kernel_rfl)
    simp only [List.getElem?_toArray, List.getElem?_cons_zero] at e0
    clear hA
    refine ⟨(by rfl), ?_⟩
    go_simp <;> (try with_reducible rfl)
  refine Rely.Chain.det ?_ (by rfl) (fun T xs wr hA => ?_) ?_
  rotate_left 1
  · have e44 := hA.tm 0 44 (by rfl) (by rfl)
    have f44 : xs 0 = _ := hA.fa 0 (by rfl)
    (try simp (disch := first | rfl | decide) only [Rely.mask_in] at f44)
    rw [f44] at e44
    clear f44
    clear hA
    refine ⟨(by rfl), ?_⟩
    go_simp <;> (try with_reducible rfl)
  refine Rely.Chain.det ?_ (by rfl) (fun T xs wr hA => ?_) ?_
  rotate_left 1
  · have e45 := hA.tm 1 45 (by rfl) (by rfl)
    have f45 : xs 1 = _ := hA.fa 1 (by rfl)
    (try simp (disch := first | rfl | decide) only [Rely.mask_in] at f45)
    rw [f45] at e45
    clear f45
    clear hA
    refine ⟨(by rfl), ?_⟩
    go_simp <;> (try with_reducible rfl)
  refine Rely.Chain.det ?_ (by rfl) (fun T xs wr hA => ?_) ?_
  rotate_left 1
  · have e3 := hA.pre 3 (by kernel_rfl)
    simp only [List.getElem?_toArray, List.getElem?_cons_succ, List.getElem?_cons_zero] at e3
    clear hA
    refine ⟨(by rfl), ?_⟩
    go_simp <;> (try with_reducible rfl)
  refine Rely.Chain.det ?_ (by rfl) (fun T xs wr hA => ?_) ?_
  rotate_left 1
  · have e47 := hA.tm 3 47 (by rfl) (by rfl)
    have f47 : xs 3 = _ := hA.fa 3 (by rfl)
    (try simp (disch := first | rfl | decide) only [Rely.mask_in] at f47)
    rw [f47] at e47
    clear f47
    have hBq : wr.heap[k3]? = _ := (hA.bl _ hlt_x (fun q h => absurd h (Nat.not_lt_zero q))).trans HB_x.out
    have q0 := cell_at (v := .int .i64 9) hBq 0 rfl
    have q1 := cell_at (v := .string ⟨nm.toArray⟩) hBq 1 rfl
    have q2 := cell_at (v := .string ⟨ot.toArray⟩) hBq 2 rfl
    have q3 := cell_at (v := .bool false) hBq 3 rfl
    have q4 := cell_at (v := .slice xao xn xq) hBq 4 rfl
    have q5 := cell_at (v := .slice (some a) 1 xkc) hBq 5 rfl
    have q6 := cell_at (v := .int .i64 xln) hBq 6 rfl
    have q7 := cell_at (v := .int .i64 xcl) hBq 7 rfl
    clear hBq
    clear hA
    refine ⟨(by rfl), ?_⟩
    go_simp <;> (try with_reducible rfl)
  refine Rely.Chain.det ?_ (by rfl) (fun T xs wr hA => ?_) ?_
  rotate_left 1
  · have e48 := hA.tm 4 48 (by rfl) (by rfl)
    have f48 : xs 4 = _ := hA.fa 4 (by rfl)
    (try simp (disch := first | rfl | decide) only [Rely.mask_in] at f48)
    rw [f48] at e48
    clear f48
    clear hA
    refine ⟨(by rfl), ?_⟩
    go_simp <;> (try with_reducible rfl)
  refine Rely.Chain.det ?_ (by rfl) (fun T xs wr hA => ?_) ?_
  rotate_left 1
  · have e49 := hA.tm 5 49 (by rfl) (by rfl)
    have f49 : xs 5 = _ := hA.fa 5 (by rfl)
    (try simp (disch := first | rfl | decide) only [Rely.mask_in] at f49)
    rw [f49] at e49
    clear f49
    have hbw := undrew (hA.be _ (Nat.le_refl _) (fun q h => absurd h (Nat.not_lt_zero q)))
    have sgc := HSG.out wr hbw
    clear hbw
    clear hA
    refine ⟨(by rfl), ?_⟩
    go_simp <;> (try with_reducible rfl)
  refine Rely.Chain.done (fun xs w10 hL => ?_)
  obtain ⟨⟨hbe, hbl, hkp0⟩, hf, hp, hn⟩ := hL
  have f0 : xs 0 = _ := hf 0 (by decide)
  (try simp (disch := first | rfl | decide) only [Rely.mask_in] at f0)
  have f1 : xs 1 = _ := hf 1 (by decide)
  (try simp (disch := first | rfl | decide) only [Rely.mask_in] at f1)
  have f2 : xs 2 = _ := hf 2 (by decide)
  (try simp (disch := first | rfl | decide) only [Rely.mask_in] at f2)
  have f3 : xs 3 = _ := hf 3 (by decide)
  (try simp (disch := first | rfl | decide) only [Rely.mask_in] at f3)
  have f4 : xs 4 = _ := hf 4 (by decide)
  (try simp (disch := first | rfl | decide) only [Rely.mask_in] at f4)
  have f5 : xs 5 = _ := hf 5 (by decide)
  (try simp (disch := first | rfl | decide) only [Rely.mask_in] at f5)
  have f6 : xs 6 = _ := hf 6 (by decide)
  (try simp (disch := first | rfl | decide) only [Rely.mask_in] at f6)
  have hbx : Below w9.heap.size w9 w10 := undrew (hbe _ (Nat.le_refl _) (fun q h => absurd h (Nat.not_lt_zero q)))
  clear hbe hbl hkp0 hf hp hn
  replace HB_x := Lib.hid ((hbx.block _ hlt_x).trans HB_x.out)
  clear hlt_x
  refine Rely.rest_list (by decide) (by kernel_rfl) ?_
  simp only [Rely.fill, List.take_succ_cons, List.take_zero, List.drop_succ_cons, List.drop_zero, List.setIfInBounds_toArray, List.set_cons_zero, List.set_cons_succ, f0, f1, f2, f3, f4, f5, f6]
  clear f0 f1 f2 f3 f4 f5 f6
  have HBX := Lib.hid hbx
  have hs10 := hbx.size
  have H10 := Lib.hid (HW9.out.below hbx)
  have HB10 := Lib.hid (HB9.out.trans (hbx.mono (by omega)))
  have HF10 := Lib.hid (HF9.out.trans (fr_below hbx))
  clear hbx
  clear x0 x1 x2 x3 x4 x5 x6 x7
  go_wp2_with fail
  refine (wr_str w0.heap.size b l (sg5 9) w10 H10.out (by omega) (by omega)).mono ?_
  rintro e w11 ⟨⟨v, rfl⟩, hw5, hb5, hfr5⟩
  have hs11 := hb5.size
  replace HB_x := Lib.hid (hfr5 k3 _ _ _ HB_x.out (by decide) (by decide))
  have H11 := Lib.hid hw5
  have HB11 := Lib.hid (HB10.out.trans hb5)
  have HF11 := Lib.hid (HF10.out.trans hfr5)
  have HLV : Hid (∀ wr, Below w11.heap.size w11 wr → wr.cell? ⟨1, 9, none⟩ = some (.int .i64 (lv 9 : Nat))) := Lib.hid fun wr hb => ((HT.out.below (HBW.out.trans HB11.out)).below hb).lv 9 (by decide)
  clear hw5 hb5 hfr5
  go_wp2_with fail
  have hlt_x := lt_of_block HB_x.out
  refine Rely.region (by kernel_rfl) [[], [], [1], [1, 2], [1, 2, 3], [], [5], [5, 6], [5, 6, 7], [0, 1, 2, 3, 4, 5, 6, 7, 8]] [] [] (fun _ => 0) 0 9 (by kernel_rfl) (by kernel_rfl) (fun q h => absurd h (Nat.not_lt_zero q)) (fun q _ h => absurd h (Nat.not_lt_zero q)) ?_
  refine Rely.Chain.det ?_ (by rfl) (fun T xs wr hA => ?_) ?_
  rotate_left 1
  · have e0 := hA.pre 0 (by kernel_rfl)
    simp only [List.getElem?_toArray, List.getElem?_cons_zero] at e0
    clear hA
    refine ⟨(by rfl), ?_⟩
    go_simp <;> (try with_reducible rfl)
  refine Rely.Chain.det ?_ (by rfl) (fun T xs wr hA => ?_) ?_
  rotate_left 1
  · have e3 := hA.pre 3 (by kernel_rfl)
    simp only [List.getElem?_toArray, List.getElem?_cons_succ, List.getElem?_cons_zero] at e3
    clear hA
    refine ⟨(by rfl), ?_⟩
    go_simp <;> (try with_reducible rfl)
  refine Rely.Chain.det ?_ (by rfl) (fun T xs wr hA => ?_) ?_
  rotate_left 1
  · have e53 := hA.tm 1 53 (by rfl) (by rfl)
    have f53 : xs 1 = _ := hA.fa 1 (by rfl)
    (try simp (disch := first | rfl | decide) only [Rely.mask_in] at f53)
    rw [f53] at e53
    clear f53
    have hBq : wr.heap[k3]? = _ := (hA.bl _ hlt_x (fun q h => absurd h (Nat.not_lt_zero q))).trans HB_x.out
    have q0 := cell_at (v := .int .i64 9) hBq 0 rfl
    have q1 := cell_at (v := .string ⟨nm.toArray⟩) hBq 1 rfl
    have q2 := cell_at (v := .string ⟨ot.toArray⟩) hBq 2 rfl
    have q3 := cell_at (v := .bool false) hBq 3 rfl
    have q4 := cell_at (v := .slice xao xn xq) hBq 4 rfl
    have q5 := cell_at (v := .slice (some a) 1 xkc) hBq 5 rfl
    have q6 := cell_at (v := .int .i64 xln) hBq 6 rfl
    have q7 := cell_at (v := .int .i64 xcl) hBq 7 rfl
    clear hBq
    clear hA
    refine ⟨(by rfl), ?_⟩
    go_simp <;> (try with_reducible rfl)
  refine Rely.Chain.det ?_ (by rfl) (fun T xs wr hA => ?_) ?_
  rotate_left 1
  · have e54 := hA.tm 2 54 (by rfl) (by rfl)
    have f54 : xs 2 = _ := hA.fa 2 (by rfl)
    (try simp (disch := first | rfl | decide) only [Rely.mask_in] at f54)
    rw [f54] at e54
    clear f54
    clear hA
    refine ⟨(by rfl), ?_⟩
    go_simp <;> (try with_reducible rfl)
  refine Rely.Chain.det ?_ (by rfl) (fun T xs wr hA => ?_) ?_
  rotate_left 1
  · have e55 := hA.tm 3 55 (by rfl) (by rfl)
    have f55 : xs 3 = _ := hA.fa 3 (by rfl)
    (try simp (disch := first | rfl | decide) only [Rely.mask_in] at f55)
    rw [f55] at e55
    clear f55
    have hbw := undrew (hA.be _ (Nat.le_refl _) (fun q h => absurd h (Nat.not_lt_zero q)))
    obtain ⟨a2, ea, hc0⟩ := HA0.out.keep fun a ha => ((HBW.out.trans HB11.out).trans (hbw.mono (HBW.out.trans HB11.out).size)).block _ (HA0.out.lt a ha)
    injection ea with ea
    subst ea
    have e0 : a.add (0 * 8) = a := by simp [Addr.add]
    rw [e0] at hc0
    obtain ⟨c0, c1, c2, c3, c4, c5, c6, c7⟩ := cells8 hc0
    clear hc0 e0 hbw
    clear hA
    refine ⟨(by rfl), ?_⟩
    go_simp <;> (try with_reducible rfl)
  refine Rely.Chain.det ?_ (by rfl) (fun T xs wr hA => ?_) ?_
  rotate_left 1
  · have e3 := hA.pre 3 (by kernel_rfl)
    simp only [List.getElem?_toArray, List.getElem?_cons_succ, List.getElem?_cons_zero] at e3
    clear hA
    refine ⟨(by rfl), ?_⟩
    go_simp <;> (try with_reducible rfl)
  refine Rely.Chain.det ?_ (by rfl) (fun T xs wr hA => ?_) ?_
  rotate_left 1
  · have e57 := hA.tm 5 57 (by rfl) (by rfl)
    have f57 : xs 5 = _ := hA.fa 5 (by rfl)
    (try simp (disch := first | rfl | decide) only [Rely.mask_in] at f57)
    rw [f57] at e57
    clear f57
    have hBq : wr.heap[k3]? = _ := (hA.bl _ hlt_x (fun q h => absurd h (Nat.not_lt_zero q))).trans HB_x.out
    have q0 := cell_at (v := .int .i64 9) hBq 0 rfl
    have q1 := cell_at (v := .string ⟨nm.toArray⟩) hBq 1 rfl
    have q2 := cell_at (v := .string ⟨ot.toArray⟩) hBq 2 rfl
    have q3 := cell_at (v := .bool false) hBq 3 rfl
    have q4 := cell_at (v := .slice xao xn xq) hBq 4 rfl
    have q5 := cell_at (v := .slice (some a) 1 xkc) hBq 5 rfl
    have q6 := cell_at (v := .int .i64 xln) hBq 6 rfl
    have q7 := cell_at (v := .int .i64 xcl) hBq 7 rfl
    clear hBq
    clear hA
    refine ⟨(by rfl), ?_⟩
    go_simp <;> (try with_reducible rfl)
  refine Rely.Chain.det ?_ (by rfl) (fun T xs wr hA => ?_) ?_
  rotate_left 1
  · have e58 := hA.tm 6 58 (by rfl) (by rfl)
    have f58 : xs 6 = _ := hA.fa 6 (by rfl)
    (try simp (disch := first | rfl | decide) only [Rely.mask_in] at f58)
    rw [f58] at e58
    clear f58
    clear hA
    refine ⟨(by rfl), ?_⟩
    go_simp <;> (try with_reducible rfl)
  refine Rely.Chain.det ?_ (by rfl) (fun T xs wr hA => ?_) ?_
  rotate_left 1
  · have e59 := hA.tm 7 59 (by rfl) (by rfl)
    have f59 : xs 7 = _ := hA.fa 7 (by rfl)
    (try simp (disch := first | rfl | decide) only [Rely.mask_in] at f59)
    rw [f59] at e59
    clear f59
    have hbw := undrew (hA.be _ (Nat.le_refl _) (fun q h => absurd h (Nat.not_lt_zero q)))
    have lvc := HLV.out wr hbw
    clear hbw
    clear hA
    refine ⟨(by rfl), ?_⟩
    go_simp <;> (try with_reducible rfl)
  refine Rely.Chain.done (fun xs w12 hL => ?_)
  obtain ⟨⟨hbe, hbl, hkp0⟩, hf, hp, hn⟩ := hL
  have f0 : xs 0 = _ := hf 0 (by decide)
  (try simp (disch := first | rfl | decide) only [Rely.mask_in] at f0)
  have f1 : xs 1 = _ := hf 1 (by decide)
  (try simp (disch := first | rfl | decide) only [Rely.mask_in] at f1)
  have f2 : xs 2 = _ := hf 2 (by decide)
  (try simp (disch := first | rfl | decide) only [Rely.mask_in] at f2)
  have f3 : xs 3 = _ := hf 3 (by decide)
  (try simp (disch := first | rfl | decide) only [Rely.mask_in] at f3)
  have f4 : xs 4 = _ := hf 4 (by decide)
  (try simp (disch := first | rfl | decide) only [Rely.mask_in] at f4)
  have f5 : xs 5 = _ := hf 5 (by decide)
  (try simp (disch := first | rfl | decide) only [Rely.mask_in] at f5)
  have f6 : xs 6 = _ := hf 6 (by decide)
  (try simp (disch := first | rfl | decide) only [Rely.mask_in] at f6)
  have f7 : xs 7 = _ := hf 7 (by decide)
  (try simp (disch := first | rfl | decide) only [Rely.mask_in] at f7)
  have f8 : xs 8 = _ := hf 8 (by decide)
  (try simp (disch := first | rfl | decide) only [Rely.mask_in] at f8)
  have hbx : Below w11.heap.size w11 w12 := undrew (hbe _ (Nat.le_refl _) (fun q h => absurd h (Nat.not_lt_zero q)))
  clear hbe hbl hkp0 hf hp hn
  replace HB_x := Lib.hid ((hbx.block _ hlt_x).trans HB_x.out)
  clear hlt_x
  refine Rely.rest_list (by decide) (by kernel_rfl) ?_
  simp only [Rely.fill, List.take_succ_cons, List.take_zero, List.drop_succ_cons, List.drop_zero, List.setIfInBounds_toArray, List.set_cons_zero, List.set_cons_succ, f0, f1, f2, f3, f4, f5, f6, f7, f8]
  clear f0 f1 f2 f3 f4 f5 f6 f7 f8
  have hs12 := hbx.size
  have H12 := Lib.hid (H11.out.below hbx)
  have HB12 := Lib.hid (HB11.out.trans (hbx.mono (by omega)))
  have HF12 := Lib.hid (HF11.out.trans (fr_below hbx))
  clear hbx
  go_wp2_with fail
  refine (E.out b _ (lv 9) y0 t0 S w12 HT0.out hK0 (by decide) (HBW.out.trans HB12.out) H12.out (by simp only [List.length_append]; omega)).mono ?_
  rintro e w13 ⟨⟨v2, rfl⟩, hw7, hb7, hfr7⟩
  have H13 := Lib.hid hw7
  have HB13 := Lib.hid (HB12.out.trans hb7)
  have HF13 := Lib.hid (HF12.out.trans hfr7)
  clear hw7 hb7 hfr7
  go_wp2_with fail
  go_end0
  exact ⟨⟨_, rfl⟩, (by rw [HTX.out, ← List.append_assoc]; exact H13.out), HB13.out, HF13.out⟩

set_option maxHeartbeats 8000000 in
theorem bare_call (w0 : World) (d : Nat) (E : Hid (ExprAt w0 d)) (b : Nat) (l : Bs) (k : Nat) (nm ot : Bs) (z : Nat) (ks : List T) (x : X) (S : Nat → Prop) (w : World) (ht : Tabs w0) (hk0 : k = 24) (h : Tr w0 S (d + 1) x (.node k nm ot z ks)) (ho : Ok (d + 1) (.node k nm ot z ks))
    (hbw : Below w0.heap.size w0 w) (hwr : Wr w0.heap.size b l w) (hlen : l.length + LL (d + 1) ≤ 1000000) :
    Calls Tryd.prog 37 #[.pointer (some ⟨b, 0, none⟩), xv x] w (WrPost w0.heap.size b (l ++ tx (.node k nm ot z ks)) w) := by
  subst hk0
  have HTX : Hid (tx (.node 24 nm ot z ks) = nm ++ [40] ++ com (k0 ks) ++ [41]) := Lib.hid (by rw [tx, exs_k0 24 (by decide)]; rfl)
  have HOK := Lib.hid ho
  obtain ⟨hk, hn, hoo, hz, ha, hl, hks⟩ := ho
  have htr := h
  obtain ⟨⟨e1, e2, e3, e4⟩, ⟨h2, h3⟩, ⟨h4, h5, h6⟩, h7⟩ := h
  obtain ⟨xk, xnm, xot, xb, xao, xn, xq, xko, xkn, xkc, xln, xcl⟩ := x
  simp only at e1 e2 e3 e4 h2 h3 h4 h5 h6 h7
  subst e1 e2 e3 e4 h4
  have HTR := Lib.hid htr
  have HK := Lib.hid h7
  have HKS := Lib.hid hks
  have HS := Lib.hid h2
  have HT := Lib.hid ht
  have HBW := Lib.hid hbw
  have HWR := Lib.hid hwr
  have hsB := hbw.size
  have hLS := LL_succ d
  obtain ⟨k3, hk3⟩ : ∃ k3, k3 = w.heap.size := ⟨_, rfl⟩
  obtain ⟨w9, hw9⟩ : ∃ w9, w9 = w.alloc (.cells #[.int .i64 24, .string ⟨nm.toArray⟩, .string ⟨ot.toArray⟩, .bool false, .slice xao xn xq, .slice xko ks.length xkc, .int .i64 xln, .int .i64 xcl] 29) := ⟨_, rfl⟩
  have hba : Below w.heap.size w w9 := by rw [hw9]; exact (Below.refl _ _).alloc (Nat.le_refl _) _
  have hx9 : w9.heap[k3]? = some (.cells #[.int .i64 24, .string ⟨nm.toArray⟩, .string ⟨ot.toArray⟩, .bool false, .slice xao xn xq, .slice xko ks.length xkc, .int .i64 xln, .int .i64 xcl] 29 (0, 0)) := by rw [hw9, hk3]; exact made_at w _ _ rfl
  have HB_x := Lib.hid hx9
  have HW9 := Lib.hid (HWR.out.below hba)
  have HB9 := Lib.hid (hba.mono hsB)
  have HF9 := Lib.hid (fr_below hba)
  have hs9 := hba.size
  have x0 := cell_at (v := .int .i64 24) hx9 0 rfl
  have x1 := cell_at (v := .string ⟨nm.toArray⟩) hx9 1 rfl
  have x2 := cell_at (v := .string ⟨ot.toArray⟩) hx9 2 rfl
  have x3 := cell_at (v := .bool false) hx9 3 rfl
  have x4 := cell_at (v := .slice xao xn xq) hx9 4 rfl
  have x5 := cell_at (v := .slice xko ks.length xkc) hx9 5 rfl
  have x6 := cell_at (v := .int .i64 xln) hx9 6 rfl
  have x7 := cell_at (v := .int .i64 xcl) hx9 7 rfl
  clear htr h2 h3 h6 h7 hks ha hba hx9 ht hbw hwr
  simp only [xv]
  go_enter Tryd.func37, Tryd.ntmps37
  go_upto_region 1 with fail
  rw [← hw9, ← hk3]
  clear hw9 hk3
  go_wp2_with fail
  refine (call_any w0 d E b l 24 nm ot z ks ⟨((24 : Nat) : Int), ⟨nm.toArray⟩, ⟨ot.toArray⟩, false, xao, xn, xq, xko, ks.length, xkc, xln, xcl⟩ S w9 HTR.out HOK.out (HBW.out.trans HB9.out) HW9.out hlen).mono ?_
  have HB10 := HB9
  have HF10 := HF9
  clear x0 x1 x2 x3 x4 x5 x6 x7
  rintro e w11 ⟨⟨v, rfl⟩, hw5, hb5, hfr5⟩
  have H11 := Lib.hid hw5
  have HB11 := Lib.hid (HB10.out.trans hb5)
  have HF11 := Lib.hid (HF10.out.trans hfr5)
  clear hw5 hb5 hfr5
  go_wp2_with fail
  go_end0
  exact ⟨⟨_, rfl⟩, (by rw [HTX.out]; exact H11.out), HB11.out, HF11.out⟩

set_option maxHeartbeats 8000000 in
theorem bare_bin (w0 : World) (d : Nat) (E : Hid (ExprAt w0 d)) (b : Nat) (l : Bs) (k : Nat) (nm ot : Bs) (z : Nat) (ks : List T) (x : X) (S : Nat → Prop) (w : World) (ht : Tabs w0) (h10 : 10 ≤ k) (h24 : k < 24) (h : Tr w0 S (d + 1) x (.node k nm ot z ks)) (ho : Ok (d + 1) (.node k nm ot z ks))
    (hbw : Below w0.heap.size w0 w) (hwr : Wr w0.heap.size b l w) (hlen : l.length + LL (d + 1) ≤ 1000000) :
    Calls Tryd.prog 37 #[.pointer (some ⟨b, 0, none⟩), xv x] w (WrPost w0.heap.size b (l ++ tx (.node k nm ot z ks)) w) := by
  have n0 : (((k : Nat) : Int) == 0) = false := by rw [beq_eq_false_iff_ne]; omega
  have n1 : (((k : Nat) : Int) == 1) = false := by rw [beq_eq_false_iff_ne]; omega
  have n2 : (((k : Nat) : Int) == 2) = false := by rw [beq_eq_false_iff_ne]; omega
  have n3 : (((k : Nat) : Int) == 3) = false := by rw [beq_eq_false_iff_ne]; omega
  have n4 : (((k : Nat) : Int) == 4) = false := by rw [beq_eq_false_iff_ne]; omega
  have n5 : (((k : Nat) : Int) == 5) = false := by rw [beq_eq_false_iff_ne]; omega
  have n6 : (((k : Nat) : Int) == 6) = false := by rw [beq_eq_false_iff_ne]; omega
  have n7 : (((k : Nat) : Int) == 7) = false := by rw [beq_eq_false_iff_ne]; omega
  have n8 : (((k : Nat) : Int) == 8) = false := by rw [beq_eq_false_iff_ne]; omega
  have n9 : (((k : Nat) : Int) == 9) = false := by rw [beq_eq_false_iff_ne]; omega
  have n24 : (((k : Nat) : Int) == 24) = false := by rw [beq_eq_false_iff_ne]; omega
  have n25 : (((k : Nat) : Int) == 25) = false := by rw [beq_eq_false_iff_ne]; omega
  have n26 : (((k : Nat) : Int) == 26) = false := by rw [beq_eq_false_iff_ne]; omega
  have n27 : (((k : Nat) : Int) == 27) = false := by rw [beq_eq_false_iff_ne]; omega
  have n28 : (((k : Nat) : Int) == 28) = false := by rw [beq_eq_false_iff_ne]; omega
  have HOK := Lib.hid ho
  obtain ⟨hk, hn, hoo, hz, ha, hl, hks⟩ := ho
  have htr := h
  obtain ⟨⟨e1, e2, e3, e4⟩, ⟨h2, h3⟩, ⟨h4, h5, h6⟩, h7⟩ := h
  obtain ⟨xk, xnm, xot, xb, xao, xn, xq, xko, xkn, xkc, xln, xcl⟩ := x
  simp only at e1 e2 e3 e4 h2 h3 h4 h5 h6 h7
  subst e1 e2 e3 e4 h4
  have HTR := Lib.hid htr
  have HK := Lib.hid h7
  have HKS := Lib.hid hks
  have HS := Lib.hid h2
  have HT := Lib.hid ht
  have HBW := Lib.hid hbw
  have HWR := Lib.hid hwr
  have hsB := hbw.size
  have hLS := LL_succ d
  obtain ⟨k3, hk3⟩ : ∃ k3, k3 = w.heap.size := ⟨_, rfl⟩
  obtain ⟨w9, hw9⟩ : ∃ w9, w9 = w.alloc (.cells #[.int .i64 (k : Nat), .string ⟨nm.toArray⟩, .string ⟨ot.toArray⟩, .bool false, .slice xao xn xq, .slice xko ks.length xkc, .int .i64 xln, .int .i64 xcl] 29) := ⟨_, rfl⟩
  have hba : Below w.heap.size w w9 := by rw [hw9]; exact (Below.refl _ _).alloc (Nat.le_refl _) _
  have hx9 : w9.heap[k3]? = some (.cells #[.int .i64 (k : Nat), .string ⟨nm.toArray⟩, .string ⟨ot.toArray⟩, .bool false, .slice xao xn xq, .slice xko ks.length xkc, .int .i64 xln, .int .i64 xcl] 29 (0, 0)) := by rw [hw9, hk3]; exact made_at w _ _ rfl
  have HB_x := Lib.hid hx9
  have HW9 := Lib.hid (HWR.out.below hba)
  have HB9 := Lib.hid (hba.mono hsB)
  have HF9 := Lib.hid (fr_below hba)
  have hs9 := hba.size
  have x0 := cell_at (v := .int .i64 (k : Nat)) hx9 0 rfl
  have x1 := cell_at (v := .string ⟨nm.toArray⟩) hx9 1 rfl
  have x2 := cell_at (v := .string ⟨ot.toArray⟩) hx9 2 rfl
  have x3 := cell_at (v := .bool false) hx9 3 rfl
  have x4 := cell_at (v := .slice xao xn xq) hx9 4 rfl
  have x5 := cell_at (v := .slice xko ks.length xkc) hx9 5 rfl
  have x6 := cell_at (v := .int .i64 xln) hx9 6 rfl
  have x7 := cell_at (v := .int .i64 xcl) hx9 7 rfl
  clear htr h2 h3 h6 h7 hks ha hba hx9 ht hbw hwr
  simp only [xv]
  go_enter Tryd.func37, Tryd.ntmps37
  go_upto_region 1 with fail
  rw [← hw9, ← hk3]
  clear hw9 hk3
  go_wp2_with fail
  refine (binary_any w0 d E b l k nm ot z ks ⟨(k : Nat), ⟨nm.toArray⟩, ⟨ot.toArray⟩, false, xao, xn, xq, xko, ks.length, xkc, xln, xcl⟩ S w9 HT.out h10 h24 HTR.out HOK.out (HBW.out.trans HB9.out) HW9.out hlen).mono ?_
  have HB10 := HB9
  have HF10 := HF9
  clear x0 x1 x2 x3 x4 x5 x6 x7
  rintro e w11 ⟨⟨v, rfl⟩, hw5, hb5, hfr5⟩
  have H11 := Lib.hid hw5
  have HB11 := Lib.hid (HB10.out.trans hb5)
  have HF11 := Lib.hid (HF10.out.trans hfr5)
  clear hw5 hb5 hfr5
  go_wp2_with fail
  go_end0
  exact ⟨⟨_, rfl⟩, H11.out, HB11.out, HF11.out⟩

set_option maxHeartbeats 8000000 in
theorem bare_p25 (w0 : World) (d : Nat) (E : Hid (ExprAt w0 d)) (b : Nat) (l : Bs) (k : Nat) (nm ot : Bs) (z : Nat) (ks : List T) (x : X) (S : Nat → Prop) (w : World) (ht : Tabs w0) (hk0 : k = 25) (h : Tr w0 S (d + 1) x (.node k nm ot z ks)) (ho : Ok (d + 1) (.node k nm ot z ks))
    (hbw : Below w0.heap.size w0 w) (hwr : Wr w0.heap.size b l w) (hlen : l.length + LL (d + 1) ≤ 1000000) :
    Calls Tryd.prog 37 #[.pointer (some ⟨b, 0, none⟩), xv x] w (WrPost w0.heap.size b (l ++ tx (.node k nm ot z ks)) w) := by
  subst hk0
  have HKL : Hid (ks.length = 3) := Lib.hid <| by
    rcases ho.2.2.2.2.1 with ha | ha
    · omega
    · exact ha
  have HTX : Hid (tx (.node 25 nm ot z ks) = phr (words 25 nm ot) (k0 ks)) := Lib.hid (by rw [tx, exs_k0 25 (by decide)]; rfl)
  have hns : (⟨nm.toArray⟩ : ByteArray).size = nm.length := rfl
  have hos : (⟨ot.toArray⟩ : ByteArray).size = ot.length := rfl
  have HWL := Lib.hid (words_len 25 nm ot ho.2.1.2 ho.2.2.1)
  have HOK := Lib.hid ho
  obtain ⟨hk, hn, hoo, hz, ha, hl, hks⟩ := ho
  have htr := h
  obtain ⟨⟨e1, e2, e3, e4⟩, ⟨h2, h3⟩, ⟨h4, h5, h6⟩, h7⟩ := h
  obtain ⟨xk, xnm, xot, xb, xao, xn, xq, xko, xkn, xkc, xln, xcl⟩ := x
  simp only at e1 e2 e3 e4 h2 h3 h4 h5 h6 h7
  subst e1 e2 e3 e4 h4
  have HTR := Lib.hid htr
  have HK := Lib.hid h7
  have HKS := Lib.hid hks
  have HS := Lib.hid h2
  have HT := Lib.hid ht
  have HBW := Lib.hid hbw
  have HWR := Lib.hid hwr
  have hsB := hbw.size
  have hLS := LL_succ d
  obtain ⟨k3, hk3⟩ : ∃ k3, k3 = w.heap.size := ⟨_, rfl⟩
  obtain ⟨w9, hw9⟩ : ∃ w9, w9 = w.alloc (.cells #[.int .i64 25, .string ⟨nm.toArray⟩, .string ⟨ot.toArray⟩, .bool false, .slice xao xn xq, .slice xko ks.length xkc, .int .i64 xln, .int .i64 xcl] 29) := ⟨_, rfl⟩
  have hba : Below w.heap.size w w9 := by rw [hw9]; exact (Below.refl _ _).alloc (Nat.le_refl _) _
  have hx9 : w9.heap[k3]? = some (.cells #[.int .i64 25, .string ⟨nm.toArray⟩, .string ⟨ot.toArray⟩, .bool false, .slice xao xn xq, .slice xko ks.length xkc, .int .i64 xln, .int .i64 xcl] 29 (0, 0)) := by rw [hw9, hk3]; exact made_at w _ _ rfl
  have HB_x := Lib.hid hx9
  have HW9 := Lib.hid (HWR.out.below hba)
  have HB9 := Lib.hid (hba.mono hsB)
  have HF9 := Lib.hid (fr_below hba)
  have hs9 := hba.size
  have x0 := cell_at (v := .int .i64 25) hx9 0 rfl
  have x1 := cell_at (v := .string ⟨nm.toArray⟩) hx9 1 rfl
  have x2 := cell_at (v := .string ⟨ot.toArray⟩) hx9 2 rfl
  have x3 := cell_at (v := .bool false) hx9 3 rfl
  have x4 := cell_at (v := .slice xao xn xq) hx9 4 rfl
  have x5 := cell_at (v := .slice xko ks.length xkc) hx9 5 rfl
  have x6 := cell_at (v := .int .i64 xln) hx9 6 rfl
  have x7 := cell_at (v := .int .i64 xcl) hx9 7 rfl
  clear htr h2 h3 h6 h7 hks ha hba hx9 ht hbw hwr
  simp only [xv]
  go_enter Tryd.func37, Tryd.ntmps37
  go_upto_region 1 with fail
  rw [← hw9, ← hk3]
  clear hw9 hk3
  go_wp2_with fail
  obtain ⟨w10, hw10⟩ : ∃ w10, w10 = w9.alloc (.cells #[.string ⟨#[105, 102, 32]⟩, .string ⟨#[32, 116, 104, 101, 110, 32]⟩, .string ⟨#[32, 101, 108, 115, 101, 32]⟩] 9) := ⟨_, rfl⟩
  have hex : (#[.string ⟨#[105, 102, 32]⟩, .string ⟨#[32, 116, 104, 101, 110, 32]⟩, .string ⟨#[32, 101, 108, 115, 101, 32]⟩] : Array Value) = ((words 25 nm ot).map fun s => Value.string ⟨s.toArray⟩).toArray := rfl
  have hb10 : Below w9.heap.size w9 w10 := by rw [hw10]; exact (Below.refl _ _).alloc (Nat.le_refl _) _
  have HWD : Hid (Words w10 w9.heap.size (words 25 nm ot)) := Lib.hid (by rw [hw10]; unfold Words; rw [made_at w9 _ _ rfl, hex])
  have H10 := Lib.hid (HW9.out.below hb10)
  have HB10 := Lib.hid (HB9.out.trans (hb10.mono (by omega)))
  have HF10 := Lib.hid (HF9.out.trans (fr_below hb10))
  clear hb10 hex 
  rw [← hw10]
  clear hw10
  refine (phrase_n w0 d E b l 25 nm ot z ks ⟨((25 : Nat) : Int), ⟨nm.toArray⟩, ⟨ot.toArray⟩, false, xao, xn, xq, xko, ks.length, xkc, xln, xcl⟩ S w9.heap.size (words 25 nm ot) 3 _ w10 HKL.out HTR.out HOK.out rfl HWL.out HWD.out (HBW.out.trans HB10.out) H10.out hlen).mono ?_
  clear x0 x1 x2 x3 x4 x5 x6 x7
  rintro e w11 ⟨⟨v, rfl⟩, hw5, hb5, hfr5⟩
  have H11 := Lib.hid hw5
  have HB11 := Lib.hid (HB10.out.trans hb5)
  have HF11 := Lib.hid (HF10.out.trans hfr5)
  clear hw5 hb5 hfr5
  go_wp2_with fail
  go_end0
  exact ⟨⟨_, rfl⟩, (by rw [HTX.out]; exact H11.out), HB11.out, HF11.out⟩

set_option maxHeartbeats 8000000 in
theorem bare_p26 (w0 : World) (d : Nat) (E : Hid (ExprAt w0 d)) (b : Nat) (l : Bs) (k : Nat) (nm ot : Bs) (z : Nat) (ks : List T) (x : X) (S : Nat → Prop) (w : World) (ht : Tabs w0) (hk0 : k = 26) (h : Tr w0 S (d + 1) x (.node k nm ot z ks)) (ho : Ok (d + 1) (.node k nm ot z ks))
    (hbw : Below w0.heap.size w0 w) (hwr : Wr w0.heap.size b l w) (hlen : l.length + LL (d + 1) ≤ 1000000) :
    Calls Tryd.prog 37 #[.pointer (some ⟨b, 0, none⟩), xv x] w (WrPost w0.heap.size b (l ++ tx (.node k nm ot z ks)) w) := by
  subst hk0
  have HKL : Hid (ks.length = 2) := Lib.hid <| by
    rcases ho.2.2.2.2.1 with ha | ha
    · omega
    · exact ha
  have HTX : Hid (tx (.node 26 nm ot z ks) = phr (words 26 nm ot) (k0 ks)) := Lib.hid (by rw [tx, exs_k0 26 (by decide)]; rfl)
  have hns : (⟨nm.toArray⟩ : ByteArray).size = nm.length := rfl
  have hos : (⟨ot.toArray⟩ : ByteArray).size = ot.length := rfl
  have HWL := Lib.hid (words_len 26 nm ot ho.2.1.2 ho.2.2.1)
  have HOK := Lib.hid ho
  obtain ⟨hk, hn, hoo, hz, ha, hl, hks⟩ := ho
  have htr := h
  obtain ⟨⟨e1, e2, e3, e4⟩, ⟨h2, h3⟩, ⟨h4, h5, h6⟩, h7⟩ := h
  obtain ⟨xk, xnm, xot, xb, xao, xn, xq, xko, xkn, xkc, xln, xcl⟩ := x
  simp only at e1 e2 e3 e4 h2 h3 h4 h5 h6 h7
  subst e1 e2 e3 e4 h4
  have HTR := Lib.hid htr
  have HK := Lib.hid h7
  have HKS := Lib.hid hks
  have HS := Lib.hid h2
  have HT := Lib.hid ht
  have HBW := Lib.hid hbw
  have HWR := Lib.hid hwr
  have hsB := hbw.size
  have hLS := LL_succ d
  obtain ⟨k3, hk3⟩ : ∃ k3, k3 = w.heap.size := ⟨_, rfl⟩
  obtain ⟨w9, hw9⟩ : ∃ w9, w9 = w.alloc (.cells #[.int .i64 26, .string ⟨nm.toArray⟩, .string ⟨ot.toArray⟩, .bool false, .slice xao xn xq, .slice xko ks.length xkc, .int .i64 xln, .int .i64 xcl] 29) := ⟨_, rfl⟩
  have hba : Below w.heap.size w w9 := by rw [hw9]; exact (Below.refl _ _).alloc (Nat.le_refl _) _
  have hx9 : w9.heap[k3]? = some (.cells #[.int .i64 26, .string ⟨nm.toArray⟩, .string ⟨ot.toArray⟩, .bool false, .slice xao xn xq, .slice xko ks.length xkc, .int .i64 xln, .int .i64 xcl] 29 (0, 0)) := by rw [hw9, hk3]; exact made_at w _ _ rfl
  have HB_x := Lib.hid hx9
  have HW9 := Lib.hid (HWR.out.below hba)
  have HB9 := Lib.hid (hba.mono hsB)
  have HF9 := Lib.hid (fr_below hba)
  have hs9 := hba.size
  have x0 := cell_at (v := .int .i64 26) hx9 0 rfl
  have x1 := cell_at (v := .string ⟨nm.toArray⟩) hx9 1 rfl
  have x2 := cell_at (v := .string ⟨ot.toArray⟩) hx9 2 rfl
  have x3 := cell_at (v := .bool false) hx9 3 rfl
  have x4 := cell_at (v := .slice xao xn xq) hx9 4 rfl
  have x5 := cell_at (v := .slice xko ks.length xkc) hx9 5 rfl
  have x6 := cell_at (v := .int .i64 xln) hx9 6 rfl
  have x7 := cell_at (v := .int .i64 xcl) hx9 7 rfl
  clear htr h2 h3 h6 h7 hks ha hba hx9 ht hbw hwr
  simp only [xv]
  go_enter Tryd.func37, Tryd.ntmps37
  go_upto_region 1 with fail
  rw [← hw9, ← hk3]
  clear hw9 hk3
  go_wp2_with fail
  obtain ⟨w10, hw10⟩ : ∃ w10, w10 = w9.alloc (.cells #[.string (⟨#[108, 101, 116, 32]⟩ ++ ⟨nm.toArray⟩ ++ ⟨#[32, 61, 32]⟩), .string ⟨#[32, 105, 110, 32]⟩] 9) := ⟨_, rfl⟩
  have hc1 : (⟨#[108, 101, 116, 32]⟩ ++ ⟨nm.toArray⟩ ++ ⟨#[32, 61, 32]⟩ : ByteArray) = ⟨([108, 101, 116, 32] ++ nm ++ [32, 61, 32]).toArray⟩ := (congrArg (· ++ _) (ByteArray.mk_append_mk [108, 101, 116, 32] nm)).trans (ByteArray.mk_append_mk _ [32, 61, 32])
  have hex : (#[.string (⟨#[108, 101, 116, 32]⟩ ++ ⟨nm.toArray⟩ ++ ⟨#[32, 61, 32]⟩), .string ⟨#[32, 105, 110, 32]⟩] : Array Value) = ((words 26 nm ot).map fun s => Value.string ⟨s.toArray⟩).toArray := by rw [hc1]; rfl
  have hb10 : Below w9.heap.size w9 w10 := by rw [hw10]; exact (Below.refl _ _).alloc (Nat.le_refl _) _
  have HWD : Hid (Words w10 w9.heap.size (words 26 nm ot)) := Lib.hid (by rw [hw10]; unfold Words; rw [made_at w9 _ _ rfl, hex])
  have H10 := Lib.hid (HW9.out.below hb10)
  have HB10 := Lib.hid (HB9.out.trans (hb10.mono (by omega)))
  have HF10 := Lib.hid (HF9.out.trans (fr_below hb10))
  clear hb10 hex hc1
  rw [← hw10]
  clear hw10
  refine (phrase_n w0 d E b l 26 nm ot z ks ⟨((26 : Nat) : Int), ⟨nm.toArray⟩, ⟨ot.toArray⟩, false, xao, xn, xq, xko, ks.length, xkc, xln, xcl⟩ S w9.heap.size (words 26 nm ot) 2 _ w10 HKL.out HTR.out HOK.out rfl HWL.out HWD.out (HBW.out.trans HB10.out) H10.out hlen).mono ?_
  clear x0 x1 x2 x3 x4 x5 x6 x7
  rintro e w11 ⟨⟨v, rfl⟩, hw5, hb5, hfr5⟩
  have H11 := Lib.hid hw5
  have HB11 := Lib.hid (HB10.out.trans hb5)
  have HF11 := Lib.hid (HF10.out.trans hfr5)
  clear hw5 hb5 hfr5
  go_wp2_with fail
  go_end0
  exact ⟨⟨_, rfl⟩, (by rw [HTX.out]; exact H11.out), HB11.out, HF11.out⟩

set_option maxHeartbeats 8000000 in
theorem bare_p27 (w0 : World) (d : Nat) (E : Hid (ExprAt w0 d)) (b : Nat) (l : Bs) (k : Nat) (nm ot : Bs) (z : Nat) (ks : List T) (x : X) (S : Nat → Prop) (w : World) (ht : Tabs w0) (hk0 : k = 27) (h : Tr w0 S (d + 1) x (.node k nm ot z ks)) (ho : Ok (d + 1) (.node k nm ot z ks))
    (hbw : Below w0.heap.size w0 w) (hwr : Wr w0.heap.size b l w) (hlen : l.length + LL (d + 1) ≤ 1000000) :
    Calls Tryd.prog 37 #[.pointer (some ⟨b, 0, none⟩), xv x] w (WrPost w0.heap.size b (l ++ tx (.node k nm ot z ks)) w) := by
  subst hk0
  have HKL : Hid (ks.length = 3) := Lib.hid <| by
    rcases ho.2.2.2.2.1 with ha | ha
    · omega
    · exact ha
  have HTX : Hid (tx (.node 27 nm ot z ks) = phr (words 27 nm ot) (k0 ks)) := Lib.hid (by rw [tx, exs_k0 27 (by decide)]; rfl)
  have hns : (⟨nm.toArray⟩ : ByteArray).size = nm.length := rfl
  have hos : (⟨ot.toArray⟩ : ByteArray).size = ot.length := rfl
  have HWL := Lib.hid (words_len 27 nm ot ho.2.1.2 ho.2.2.1)
  have HOK := Lib.hid ho
  obtain ⟨hk, hn, hoo, hz, ha, hl, hks⟩ := ho
  have htr := h
  obtain ⟨⟨e1, e2, e3, e4⟩, ⟨h2, h3⟩, ⟨h4, h5, h6⟩, h7⟩ := h
  obtain ⟨xk, xnm, xot, xb, xao, xn, xq, xko, xkn, xkc, xln, xcl⟩ := x
  simp only at e1 e2 e3 e4 h2 h3 h4 h5 h6 h7
  subst e1 e2 e3 e4 h4
  have HTR := Lib.hid htr
  have HK := Lib.hid h7
  have HKS := Lib.hid hks
  have HS := Lib.hid h2
  have HT := Lib.hid ht
  have HBW := Lib.hid hbw
  have HWR := Lib.hid hwr
  have hsB := hbw.size
  have hLS := LL_succ d
  obtain ⟨k3, hk3⟩ : ∃ k3, k3 = w.heap.size := ⟨_, rfl⟩
  obtain ⟨w9, hw9⟩ : ∃ w9, w9 = w.alloc (.cells #[.int .i64 27, .string ⟨nm.toArray⟩, .string ⟨ot.toArray⟩, .bool false, .slice xao xn xq, .slice xko ks.length xkc, .int .i64 xln, .int .i64 xcl] 29) := ⟨_, rfl⟩
  have hba : Below w.heap.size w w9 := by rw [hw9]; exact (Below.refl _ _).alloc (Nat.le_refl _) _
  have hx9 : w9.heap[k3]? = some (.cells #[.int .i64 27, .string ⟨nm.toArray⟩, .string ⟨ot.toArray⟩, .bool false, .slice xao xn xq, .slice xko ks.length xkc, .int .i64 xln, .int .i64 xcl] 29 (0, 0)) := by rw [hw9, hk3]; exact made_at w _ _ rfl
  have HB_x := Lib.hid hx9
  have HW9 := Lib.hid (HWR.out.below hba)
  have HB9 := Lib.hid (hba.mono hsB)
  have HF9 := Lib.hid (fr_below hba)
  have hs9 := hba.size
  have x0 := cell_at (v := .int .i64 27) hx9 0 rfl
  have x1 := cell_at (v := .string ⟨nm.toArray⟩) hx9 1 rfl
  have x2 := cell_at (v := .string ⟨ot.toArray⟩) hx9 2 rfl
  have x3 := cell_at (v := .bool false) hx9 3 rfl
  have x4 := cell_at (v := .slice xao xn xq) hx9 4 rfl
  have x5 := cell_at (v := .slice xko ks.length xkc) hx9 5 rfl
  have x6 := cell_at (v := .int .i64 xln) hx9 6 rfl
  have x7 := cell_at (v := .int .i64 xcl) hx9 7 rfl
  clear htr h2 h3 h6 h7 hks ha hba hx9 ht hbw hwr
  simp only [xv]
  go_enter Tryd.func37, Tryd.ntmps37
  go_upto_region 1 with fail
  rw [← hw9, ← hk3]
  clear hw9 hk3
  go_wp2_with fail
  obtain ⟨w10, hw10⟩ : ∃ w10, w10 = w9.alloc (.cells #[.string ⟨#[109, 97, 116, 99, 104, 32]⟩, .string ⟨#[32, 119, 105, 116, 104, 32, 91, 93, 32, 45, 62, 32]⟩, .string (⟨#[32, 124, 32]⟩ ++ ⟨nm.toArray⟩ ++ ⟨#[32, 58, 58, 32]⟩ ++ ⟨ot.toArray⟩ ++ ⟨#[32, 45, 62, 32]⟩)] 9) := ⟨_, rfl⟩
  have hc1 : (⟨#[32, 124, 32]⟩ ++ ⟨nm.toArray⟩ ++ ⟨#[32, 58, 58, 32]⟩ ++ ⟨ot.toArray⟩ ++ ⟨#[32, 45, 62, 32]⟩ : ByteArray) = ⟨([32, 124, 32] ++ nm ++ [32, 58, 58, 32] ++ ot ++ [32, 45, 62, 32]).toArray⟩ := by
    have q1 := ByteArray.mk_append_mk [32, 124, 32] nm
    have q2 := ByteArray.mk_append_mk ([32, 124, 32] ++ nm) [32, 58, 58, 32]
    have q3 := ByteArray.mk_append_mk ([32, 124, 32] ++ nm ++ [32, 58, 58, 32]) ot
    have q4 := ByteArray.mk_append_mk ([32, 124, 32] ++ nm ++ [32, 58, 58, 32] ++ ot) [32, 45, 62, 32]
    rw [← q4, ← q3, ← q2, ← q1]
  have hex : (#[.string ⟨#[109, 97, 116, 99, 104, 32]⟩, .string ⟨#[32, 119, 105, 116, 104, 32, 91, 93, 32, 45, 62, 32]⟩, .string (⟨#[32, 124, 32]⟩ ++ ⟨nm.toArray⟩ ++ ⟨#[32, 58, 58, 32]⟩ ++ ⟨ot.toArray⟩ ++ ⟨#[32, 45, 62, 32]⟩)] : Array Value) = ((words 27 nm ot).map fun s => Value.string ⟨s.toArray⟩).toArray := by rw [hc1]; rfl
  have hb10 : Below w9.heap.size w9 w10 := by rw [hw10]; exact (Below.refl _ _).alloc (Nat.le_refl _) _
  have HWD : Hid (Words w10 w9.heap.size (words 27 nm ot)) := Lib.hid (by rw [hw10]; unfold Words; rw [made_at w9 _ _ rfl, hex])
  have H10 := Lib.hid (HW9.out.below hb10)
  have HB10 := Lib.hid (HB9.out.trans (hb10.mono (by omega)))
  have HF10 := Lib.hid (HF9.out.trans (fr_below hb10))
  clear hb10 hex hc1
  rw [← hw10]
  clear hw10
  refine (phrase_n w0 d E b l 27 nm ot z ks ⟨((27 : Nat) : Int), ⟨nm.toArray⟩, ⟨ot.toArray⟩, false, xao, xn, xq, xko, ks.length, xkc, xln, xcl⟩ S w9.heap.size (words 27 nm ot) 3 _ w10 HKL.out HTR.out HOK.out rfl HWL.out HWD.out (HBW.out.trans HB10.out) H10.out hlen).mono ?_
  clear x0 x1 x2 x3 x4 x5 x6 x7
  rintro e w11 ⟨⟨v, rfl⟩, hw5, hb5, hfr5⟩
  have H11 := Lib.hid hw5
  have HB11 := Lib.hid (HB10.out.trans hb5)
  have HF11 := Lib.hid (HF10.out.trans hfr5)
  clear hw5 hb5 hfr5
  go_wp2_with fail
  go_end0
  exact ⟨⟨_, rfl⟩, (by rw [HTX.out]; exact H11.out), HB11.out, HF11.out⟩

set_option maxHeartbeats 8000000 in
theorem bare_p28 (w0 : World) (d : Nat) (E : Hid (ExprAt w0 d)) (b : Nat) (l : Bs) (k : Nat) (nm ot : Bs) (z : Nat) (ks : List T) (x : X) (S : Nat → Prop) (w : World) (ht : Tabs w0) (hk0 : k = 28) (h : Tr w0 S (d + 1) x (.node k nm ot z ks)) (ho : Ok (d + 1) (.node k nm ot z ks))
    (hbw : Below w0.heap.size w0 w) (hwr : Wr w0.heap.size b l w) (hlen : l.length + LL (d + 1) ≤ 1000000) :
    Calls Tryd.prog 37 #[.pointer (some ⟨b, 0, none⟩), xv x] w (WrPost w0.heap.size b (l ++ tx (.node k nm ot z ks)) w) := by
  subst hk0
  have HKL : Hid (ks.length = 2) := Lib.hid <| by
    rcases ho.2.2.2.2.1 with ha | ha
    · omega
    · exact ha
  have HTX : Hid (tx (.node 28 nm ot z ks) = phr (words 28 nm ot) (k0 ks)) := Lib.hid (by rw [tx, exs_k0 28 (by decide)]; rfl)
  have hns : (⟨nm.toArray⟩ : ByteArray).size = nm.length := rfl
  have hos : (⟨ot.toArray⟩ : ByteArray).size = ot.length := rfl
  have HWL := Lib.hid (words_len 28 nm ot ho.2.1.2 ho.2.2.1)
  have HOK := Lib.hid ho
  obtain ⟨hk, hn, hoo, hz, ha, hl, hks⟩ := ho
  have htr := h
  obtain ⟨⟨e1, e2, e3, e4⟩, ⟨h2, h3⟩, ⟨h4, h5, h6⟩, h7⟩ := h
  obtain ⟨xk, xnm, xot, xb, xao, xn, xq, xko, xkn, xkc, xln, xcl⟩ := x
  simp only at e1 e2 e3 e4 h2 h3 h4 h5 h6 h7
  subst e1 e2 e3 e4 h4
  have HTR := Lib.hid htr
  have HK := Lib.hid h7
  have HKS := Lib.hid hks
  have HS := Lib.hid h2
  have HT := Lib.hid ht
  have HBW := Lib.hid hbw
  have HWR := Lib.hid hwr
  have hsB := hbw.size
  have hLS := LL_succ d
  obtain ⟨k3, hk3⟩ : ∃ k3, k3 = w.heap.size := ⟨_, rfl⟩
  obtain ⟨w9, hw9⟩ : ∃ w9, w9 = w.alloc (.cells #[.int .i64 28, .string ⟨nm.toArray⟩, .string ⟨ot.toArray⟩, .bool false, .slice xao xn xq, .slice xko ks.length xkc, .int .i64 xln, .int .i64 xcl] 29) := ⟨_, rfl⟩
  have hba : Below w.heap.size w w9 := by rw [hw9]; exact (Below.refl _ _).alloc (Nat.le_refl _) _
  have hx9 : w9.heap[k3]? = some (.cells #[.int .i64 28, .string ⟨nm.toArray⟩, .string ⟨ot.toArray⟩, .bool false, .slice xao xn xq, .slice xko ks.length xkc, .int .i64 xln, .int .i64 xcl] 29 (0, 0)) := by rw [hw9, hk3]; exact made_at w _ _ rfl
  have HB_x := Lib.hid hx9
  have HW9 := Lib.hid (HWR.out.below hba)
  have HB9 := Lib.hid (hba.mono hsB)
  have HF9 := Lib.hid (fr_below hba)
  have hs9 := hba.size
  have x0 := cell_at (v := .int .i64 28) hx9 0 rfl
  have x1 := cell_at (v := .string ⟨nm.toArray⟩) hx9 1 rfl
  have x2 := cell_at (v := .string ⟨ot.toArray⟩) hx9 2 rfl
  have x3 := cell_at (v := .bool false) hx9 3 rfl
  have x4 := cell_at (v := .slice xao xn xq) hx9 4 rfl
  have x5 := cell_at (v := .slice xko ks.length xkc) hx9 5 rfl
  have x6 := cell_at (v := .int .i64 xln) hx9 6 rfl
  have x7 := cell_at (v := .int .i64 xcl) hx9 7 rfl
  clear htr h2 h3 h6 h7 hks ha hba hx9 ht hbw hwr
  simp only [xv]
  go_enter Tryd.func37, Tryd.ntmps37
  go_upto_region 1 with fail
  rw [← hw9, ← hk3]
  clear hw9 hk3
  go_wp2_with fail
  obtain ⟨w10, hw10⟩ : ∃ w10, w10 = w9.alloc (.cells #[.string ⟨#[97, 115, 115, 101, 114, 116, 32]⟩, .string ⟨#[59, 32]⟩] 9) := ⟨_, rfl⟩
  have hex : (#[.string ⟨#[97, 115, 115, 101, 114, 116, 32]⟩, .string ⟨#[59, 32]⟩] : Array Value) = ((words 28 nm ot).map fun s => Value.string ⟨s.toArray⟩).toArray := rfl
  have hb10 : Below w9.heap.size w9 w10 := by rw [hw10]; exact (Below.refl _ _).alloc (Nat.le_refl _) _
  have HWD : Hid (Words w10 w9.heap.size (words 28 nm ot)) := Lib.hid (by rw [hw10]; unfold Words; rw [made_at w9 _ _ rfl, hex])
  have H10 := Lib.hid (HW9.out.below hb10)
  have HB10 := Lib.hid (HB9.out.trans (hb10.mono (by omega)))
  have HF10 := Lib.hid (HF9.out.trans (fr_below hb10))
  clear hb10 hex 
  rw [← hw10]
  clear hw10
  refine (phrase_n w0 d E b l 28 nm ot z ks ⟨((28 : Nat) : Int), ⟨nm.toArray⟩, ⟨ot.toArray⟩, false, xao, xn, xq, xko, ks.length, xkc, xln, xcl⟩ S w9.heap.size (words 28 nm ot) 2 _ w10 HKL.out HTR.out HOK.out rfl HWL.out HWD.out (HBW.out.trans HB10.out) H10.out hlen).mono ?_
  clear x0 x1 x2 x3 x4 x5 x6 x7
  rintro e w11 ⟨⟨v, rfl⟩, hw5, hb5, hfr5⟩
  have H11 := Lib.hid hw5
  have HB11 := Lib.hid (HB10.out.trans hb5)
  have HF11 := Lib.hid (HF10.out.trans hfr5)
  clear hw5 hb5 hfr5
  go_wp2_with fail
  go_end0
  exact ⟨⟨_, rfl⟩, (by rw [HTX.out]; exact H11.out), HB11.out, HF11.out⟩

end Go.Proofs.YtcdacmbcecjliaaDoor
