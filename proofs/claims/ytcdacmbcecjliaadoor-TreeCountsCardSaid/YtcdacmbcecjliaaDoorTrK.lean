/-
  The law TreeCounts: its walk.
-/
import Derived.Test.YtcdacmbcecjliaaDoorTrV
import Derived.Test.YtcdacmbcecjliaaDoorTrF
namespace Go.Proofs.YtcdacmbcecjliaaDoor
open Go.RowKit
set_option linter.unusedVariables false
set_option maxRecDepth 100000

/-- A made up expression: its kind, its kids. -/
def bX (k : Int) (ko : Option Addr) (kn kc : Nat) : X := ⟨k, ⟨#[]⟩, ⟨#[]⟩, false, none, 0, 0, ko, kn, kc, 0, 0⟩
def badL (ao0 : Option Addr) (c0 : Nat) (ao1 : Option Addr) (c1 : Nat) (ka : Option Addr) : List X := [bX 5 ao0 2 c0, bX 10 ao1 1 c1, bX 29 none 0 0, bX (-1) none 0 0, bX 6 ka 1 1]
theorem at8_row {w : World} {g : Nat} (ys : List X) (h : w.heap[g]? = some (.cells (ys.flatMap xc).toArray 29 (0, 0))) (i : Nat) (hi : i < ys.length) : At8 w (some ⟨g, 0, none⟩) i ys[i] := by
  refine ⟨_, rfl, fun j v hj => ?_⟩
  have hj8 : j < 8 := by have := (List.getElem?_eq_some_iff.1 hj).1; simpa [xc] using this
  rw [add_lit, add_lit, cell_of_row w g _ _ _ (0, 0) h]
  simp only [List.getElem?_toArray]
  rw [Nat.zero_add, flat_at ys i j hi hj8]; exact hj
theorem At8.below {w w' : World} {ko : Option Addr} {i : Nat} {y : X} (h : At8 w ko i y) (hb : Below w.heap.size w w') : At8 w' ko i y := h.keep fun a ha => hb.block _ (h.lt a ha)
/-- Those that are not right, in memory. -/
def Bads (w : World) (v : Value) : Prop := ∃ ko ao0 c0 ao1 c1 ao l c ka, v = .slice ko 5 5 ∧ (∀ i (h : i < (badL ao0 c0 ao1 c1 ka).length), At8 w ko i (badL ao0 c0 ao1 c1 ka)[i]) ∧ At8 w ka 0 (negX ao l c)
theorem Bads.below {w w' : World} {v : Value} (h : Bads w v) (hb : Below w.heap.size w w') : Bads w' v := by
  obtain ⟨ko, ao0, c0, ao1, c1, ao, l, c, ka, h1, h2, h3⟩ := h
  exact ⟨ko, ao0, c0, ao1, c1, ao, l, c, ka, h1, fun i hi => (h2 i hi).below hb, h3.below hb⟩
/-- None of them is right. -/
theorem bads_wrong {w : World} {ao0 : Option Addr} {c0 : Nat} {ao1 : Option Addr} {c1 : Nat} {ao : Option Addr} {l c : Nat} {ka : Option Addr} (ht : Tabs w) (h3 : At8 w ka 0 (negX ao l c)) (i : Nat) (h : i < (badL ao0 c0 ao1 c1 ka).length) (W : World) (hb : Below w.heap.size w W) :
    Calls Tryd.prog 11 #[xv (badL ao0 c0 ao1 c1 ka)[i]] W fun e w' => e = .returned (.bool false) ∧ Below W.heap.size W w' := by
  have htW := ht.below hb
  match i, h with
  | 0, _ => exact right_ar (bX 5 ao0 2 c0) 1 W (fun V hV => arity_ok 5 1 (by decide) rfl V (htW.below hV)) (by decide) rfl
  | 1, _ => exact right_ar (bX 10 ao1 1 c1) 2 W (fun V hV => arity_ok 10 2 (by decide) rfl V (htW.below hV)) (by decide) rfl
  | 2, _ => exact right_ar (bX 29 none 0 0) (-2) W (fun V hV => arity_no 29 (by decide) V) (by decide) rfl
  | 3, _ => exact right_ar (bX (-1) none 0 0) (-2) W (fun V hV => arity_no (-1) (by decide) V) (by decide) rfl
  | 4, _ => exact right_not (bX 6 ka 1 1) ao l c rfl rfl W htW (h3.below hb)

set_option maxHeartbeats 8000000 in
theorem treeCounts_walk (x : X) (w : World) (hr : ∀ d, Raw w d x) (ht : Tabs w) :
    Calls Tryd.prog 3 #[xv x] w fun e w' => e = .returned (.bool true) ∧ Below w.heap.size w w' := by
  have hr6 := hr 6
  obtain ⟨xk, xnm, xot, xb, xao, xn, xq, xko, xkn, xkc, xln, xcl⟩ := x
  obtain ⟨k0, hk0⟩ : ∃ k0, k0 = w.heap.size := ⟨_, rfl⟩
  obtain ⟨w1, hw1⟩ : ∃ w1, w1 = w.alloc (.cells #[.int .i64 xk, .string xnm, .string xot, .bool xb, .slice xao xn xq, .slice xko xkn xkc, .int .i64 xln, .int .i64 xcl] 29) := ⟨_, rfl⟩
  have hb1 : Below w.heap.size w w1 := by rw [hw1]; exact (Below.refl _ _).alloc (Nat.le_refl _) _
  have hx1 : w1.heap[k0]? = some (.cells #[.int .i64 xk, .string xnm, .string xot, .bool xb, .slice xao xn xq, .slice xko xkn xkc, .int .i64 xln, .int .i64 xcl] 29 (0, 0)) := by rw [hw1, hk0]; exact made_at w _ _ rfl
  have HX1 := Lib.hid hx1
  have HT1 := Lib.hid (ht.below hb1)
  have HR1 := Lib.hid (hr6.below hb1)
  have HB1 := Lib.hid hb1
  simp only [xv]
  go_enter Tryd.func3, Tryd.ntmps3
  go_upto_region 1 with fail
  rw [← hw1, ← hk0]
  clear hw1 hk0 hb1 hx1 hr hr6 ht
  go_wp2_with fail
  refine (fit_any w1 HT1.out).mono ?_
  rintro e w2 ⟨rfl, hb2⟩
  have hx2 := (hb2.block k0 (lt_of_block HX1.out)).trans HX1.out
  have HT2 := Lib.hid (HT1.out.below hb2)
  have HR2 := Lib.hid (HR1.out.below hb2)
  have HB2 := Lib.hid (HB1.out.trans (hb2.mono HB1.out.size))
  have x0 := cell_at (v := .int .i64 xk) hx2 0 rfl
  have x1 := cell_at (v := .string xnm) hx2 1 rfl
  have x2 := cell_at (v := .string xot) hx2 2 rfl
  have x3 := cell_at (v := .bool xb) hx2 3 rfl
  have x4 := cell_at (v := .slice xao xn xq) hx2 4 rfl
  have x5 := cell_at (v := .slice xko xkn xkc) hx2 5 rfl
  have x6 := cell_at (v := .int .i64 xln) hx2 6 rfl
  have x7 := cell_at (v := .int .i64 xcl) hx2 7 rfl
  clear hb2 hx2
  go_wp2_with fail
  refine (tame_all 6 (by decide) ⟨xk, xnm, xot, xb, xao, xn, xq, xko, xkn, xkc, xln, xcl⟩ w2 (by decide) HR2.out).mono ?_
  rintro e w3 ⟨y, t, rfl, hT, hO, hb3⟩
  have hTu := hT.mono (S' := fun _ => True) fun _ _ => trivial
  obtain ⟨yk, ynm, yot, yb, yao, yn, yq, yko, ykn, ykc, yln, ycl⟩ := y
  have hb3' := HB2.out.trans (hb3.mono HB2.out.size)
  have ht3 := HT2.out.below hb3
  simp only [xv]
  obtain ⟨k3, hk3⟩ : ∃ k3, k3 = w3.heap.size := ⟨_, rfl⟩
  obtain ⟨w4, hw4⟩ : ∃ w4, w4 = w3.alloc (.cells #[.int .i64 yk, .string ynm, .string yot, .bool yb, .slice yao yn yq, .slice yko ykn ykc, .int .i64 yln, .int .i64 ycl] 29) := ⟨_, rfl⟩
  have hb34 : Below w3.heap.size w3 w4 := by rw [hw4]; exact (Below.refl _ _).alloc (Nat.le_refl _) _
  have hx4 : w4.heap[k3]? = some (.cells #[.int .i64 yk, .string ynm, .string yot, .bool yb, .slice yao yn yq, .slice yko ykn ykc, .int .i64 yln, .int .i64 ycl] 29 (0, 0)) := by rw [hw4, hk3]; exact made_at w3 _ _ rfl
  have HX4 := Lib.hid hx4
  have HT4 := Lib.hid (ht3.below hb34)
  have HTR4 := Lib.hid (hTu.below hb34)
  have HO := Lib.hid hO.1
  have HB4 := Lib.hid (hb3'.trans (hb34.mono hb3'.size))
  have HW4 := Lib.hid hw4
  have HK3 := Lib.hid hk3
  clear hT hTu hO hb3 hb3' ht3 hw4 hk3 hb34 hx4 x0 x1 x2 x3 x4 x5 x6 x7
  go_upto_region 4 with fail
  rw [← HW4.out, ← HK3.out]
  have hxN := HX4.out
  have y0 := cell_at (v := .int .i64 yk) hxN 0 rfl
  have y1 := cell_at (v := .string ynm) hxN 1 rfl
  have y2 := cell_at (v := .string yot) hxN 2 rfl
  have y3 := cell_at (v := .bool yb) hxN 3 rfl
  have y4 := cell_at (v := .slice yao yn yq) hxN 4 rfl
  have y5 := cell_at (v := .slice yko ykn ykc) hxN 5 rfl
  have y6 := cell_at (v := .int .i64 yln) hxN 6 rfl
  have y7 := cell_at (v := .int .i64 ycl) hxN 7 rfl
  clear hxN
  go_wp2_with fail
  refine (count_any 6 (by decide) ⟨yk, ynm, yot, yb, yao, yn, yq, yko, ykn, ykc, yln, ycl⟩ t w4 (fun _ => True) HTR4.out HO.out).mono ?_
  rintro e w5 ⟨rfl, hb⟩
  have hs5 := hb.size
  have HX5 := Lib.hid ((hb.block k3 (lt_of_block HX4.out)).trans HX4.out)
  have HT5 := Lib.hid (HT4.out.below hb)
  have HTR5 := Lib.hid (HTR4.out.below hb)
  have HB5 := Lib.hid (HB4.out.trans (hb.mono HB4.out.size))
  clear hb y0 y1 y2 y3 y4 y5 y6 y7
  have hxN := HX5.out
  have y0 := cell_at (v := .int .i64 yk) hxN 0 rfl
  have y1 := cell_at (v := .string ynm) hxN 1 rfl
  have y2 := cell_at (v := .string yot) hxN 2 rfl
  have y3 := cell_at (v := .bool yb) hxN 3 rfl
  have y4 := cell_at (v := .slice yao yn yq) hxN 4 rfl
  have y5 := cell_at (v := .slice yko ykn ykc) hxN 5 rfl
  have y6 := cell_at (v := .int .i64 yln) hxN 6 rfl
  have y7 := cell_at (v := .int .i64 ycl) hxN 7 rfl
  clear hxN
  go_wp2_with fail
  refine (size_any 6 (by decide) ⟨yk, ynm, yot, yb, yao, yn, yq, yko, ykn, ykc, yln, ycl⟩ t w5 (fun _ => True) HTR5.out HO.out).mono ?_
  rintro e w6 ⟨rfl, hb⟩
  have hs6 := hb.size
  have HX6 := Lib.hid ((hb.block k3 (lt_of_block HX5.out)).trans HX5.out)
  have HT6 := Lib.hid (HT5.out.below hb)
  have HTR6 := Lib.hid (HTR5.out.below hb)
  have HB6 := Lib.hid (HB5.out.trans (hb.mono HB5.out.size))
  clear hb y0 y1 y2 y3 y4 y5 y6 y7
  have hxN := HX6.out
  have y0 := cell_at (v := .int .i64 yk) hxN 0 rfl
  have y1 := cell_at (v := .string ynm) hxN 1 rfl
  have y2 := cell_at (v := .string yot) hxN 2 rfl
  have y3 := cell_at (v := .bool yb) hxN 3 rfl
  have y4 := cell_at (v := .slice yao yn yq) hxN 4 rfl
  have y5 := cell_at (v := .slice yko ykn ykc) hxN 5 rfl
  have y6 := cell_at (v := .int .i64 yln) hxN 6 rfl
  have y7 := cell_at (v := .int .i64 ycl) hxN 7 rfl
  clear hxN
  go_wp2_with fail
  refine (depth_any 6 (by decide) ⟨yk, ynm, yot, yb, yao, yn, yq, yko, ykn, ykc, yln, ycl⟩ t w6 (fun _ => True) HTR6.out HO.out).mono ?_
  rintro e w7 ⟨rfl, hb⟩
  have hs7 := hb.size
  have HX7 := Lib.hid ((hb.block k3 (lt_of_block HX6.out)).trans HX6.out)
  have HT7 := Lib.hid (HT6.out.below hb)
  have HTR7 := Lib.hid (HTR6.out.below hb)
  have HB7 := Lib.hid (HB6.out.trans (hb.mono HB6.out.size))
  clear hb y0 y1 y2 y3 y4 y5 y6 y7
  have hxN := HX7.out
  have y0 := cell_at (v := .int .i64 yk) hxN 0 rfl
  have y1 := cell_at (v := .string ynm) hxN 1 rfl
  have y2 := cell_at (v := .string yot) hxN 2 rfl
  have y3 := cell_at (v := .bool yb) hxN 3 rfl
  have y4 := cell_at (v := .slice yao yn yq) hxN 4 rfl
  have y5 := cell_at (v := .slice yko ykn ykc) hxN 5 rfl
  have y6 := cell_at (v := .int .i64 yln) hxN 6 rfl
  have y7 := cell_at (v := .int .i64 ycl) hxN 7 rfl
  clear hxN
  go_wp2_with fail
  refine (right_any 6 (by decide) ⟨yk, ynm, yot, yb, yao, yn, yq, yko, ykn, ykc, yln, ycl⟩ t w7 (fun _ => True) HT7.out HTR7.out HO.out).mono ?_
  rintro e w8 ⟨rfl, hb⟩
  have hs8 := hb.size
  have HX8 := Lib.hid ((hb.block k3 (lt_of_block HX7.out)).trans HX7.out)
  have HT8 := Lib.hid (HT7.out.below hb)
  have HTR8 := Lib.hid (HTR7.out.below hb)
  have HB8 := Lib.hid (HB7.out.trans (hb.mono HB7.out.size))
  clear hb y0 y1 y2 y3 y4 y5 y6 y7
  replace HX8 := HX8
  have HB_x := HX8
  go_wp2_with fail
  have hlt_x := lt_of_block HB_x.out
  refine Rely.region (by kernel_rfl) [[], [], [0, 1], [0, 1, 2], [], [4], [4, 5], [], [], [], [9], [9, 10], [9, 10, 11], [0, 1, 2, 3, 4, 5, 6, 7, 8, 9, 10, 11, 12], [0, 1, 2, 3, 4, 5, 6, 7, 8, 9, 10, 11, 12, 13], []] [] [] (fun _ => 0) 0 16 (by kernel_rfl) (by kernel_rfl) (fun q h => absurd h (Nat.not_lt_zero q)) (fun q _ h => absurd h (Nat.not_lt_zero q)) ?_
  refine Rely.Chain.det ?_ (by rfl) (fun T xs wr hA => ?_) ?_
  rotate_left 1
  · have e3 := hA.pre 3 (by kernel_rfl)
    simp only [List.getElem?_toArray, List.getElem?_cons_succ, List.getElem?_cons_zero] at e3
    have hBq : wr.heap[k3]? = _ := (hA.bl _ hlt_x (fun q h => absurd h (Nat.not_lt_zero q))).trans HB_x.out
    have q0 := cell_at (v := .int .i64 yk) hBq 0 rfl
    have q1 := cell_at (v := .string ynm) hBq 1 rfl
    have q2 := cell_at (v := .string yot) hBq 2 rfl
    have q3 := cell_at (v := .bool yb) hBq 3 rfl
    have q4 := cell_at (v := .slice yao yn yq) hBq 4 rfl
    have q5 := cell_at (v := .slice yko ykn ykc) hBq 5 rfl
    have q6 := cell_at (v := .int .i64 yln) hBq 6 rfl
    have q7 := cell_at (v := .int .i64 ycl) hBq 7 rfl
    clear hBq
    clear hA
    refine ⟨(by rfl), ?_⟩
    go_simp <;> (try with_reducible rfl)
  refine Rely.Chain.det ?_ (by rfl) (fun T xs wr hA => ?_) ?_
  rotate_left 1
  · have e3 := hA.pre 3 (by kernel_rfl)
    simp only [List.getElem?_toArray, List.getElem?_cons_succ, List.getElem?_cons_zero] at e3
    have hBq : wr.heap[k3]? = _ := (hA.bl _ hlt_x (fun q h => absurd h (Nat.not_lt_zero q))).trans HB_x.out
    have q0 := cell_at (v := .int .i64 yk) hBq 0 rfl
    have q1 := cell_at (v := .string ynm) hBq 1 rfl
    have q2 := cell_at (v := .string yot) hBq 2 rfl
    have q3 := cell_at (v := .bool yb) hBq 3 rfl
    have q4 := cell_at (v := .slice yao yn yq) hBq 4 rfl
    have q5 := cell_at (v := .slice yko ykn ykc) hBq 5 rfl
    have q6 := cell_at (v := .int .i64 yln) hBq 6 rfl
    have q7 := cell_at (v := .int .i64 ycl) hBq 7 rfl
    clear hBq
    clear hA
    refine ⟨(by rfl), ?_⟩
    go_simp <;> (try with_reducible rfl)
  refine Rely.Chain.grow (fun xs v w => ∃ ao c, v = .slice ao 2 c) (fun _ _ _ _ h _ => h) rfl (by rfl) (fun T xs wr hA => ?_) ?_
  · have e32 := hA.tm 0 32 (by rfl) (by rfl)
    have f32 : xs 0 = _ := hA.fa 0 (by rfl)
    (try simp (disch := first | rfl | decide) only [Rely.mask_in] at f32)
    rw [f32] at e32
    clear f32
    have e33 := hA.tm 1 33 (by rfl) (by rfl)
    have f33 : xs 1 = _ := hA.fa 1 (by rfl)
    (try simp (disch := first | rfl | decide) only [Rely.mask_in] at f33)
    rw [f33] at e33
    clear f33
    have hbw := undrew (hA.be _ (Nat.le_refl _) (fun q h => absurd h (Nat.not_lt_zero q)))
    clear hA
    refine ⟨(by rfl), fun K hK => ?_⟩
    go_simp
    exact hK.out _ _ ⟨_, _, rfl⟩ ((Below.refl _ _).alloc (Nat.le_refl _) _)
  refine Rely.Chain.grow (fun xs v w => ∃ ao c, v = .agg #[.int .i64 5, .string ⟨#[]⟩, .string ⟨#[]⟩, .bool false, .slice none 0 0, .slice ao 2 c, .int .i64 0, .int .i64 0]) (fun _ _ _ _ h _ => h) rfl (by rfl) (fun T xs wr hA => ?_) ?_
  · have e34 := hA.tm 2 34 (by rfl) (by rfl)
    have hbw := undrew (hA.be _ (Nat.le_refl _) (fun q h => absurd h (Nat.not_lt_zero q)))
    have hF2 : ∃ ao c, (xs 2) = .slice ao 2 c := hA.fa 2 (by rfl)
    obtain ⟨ao, c, hv⟩ := hF2
    rw [hv] at e34
    clear hv hbw
    clear hA
    refine ⟨(by rfl), fun K hK => ?_⟩
    go_simp
    exact hK.out _ _ ⟨ao, c, rfl⟩ (Below.refl _ _)
  refine Rely.Chain.det ?_ (by rfl) (fun T xs wr hA => ?_) ?_
  rotate_left 1
  · have e3 := hA.pre 3 (by kernel_rfl)
    simp only [List.getElem?_toArray, List.getElem?_cons_succ, List.getElem?_cons_zero] at e3
    have hBq : wr.heap[k3]? = _ := (hA.bl _ hlt_x (fun q h => absurd h (Nat.not_lt_zero q))).trans HB_x.out
    have q0 := cell_at (v := .int .i64 yk) hBq 0 rfl
    have q1 := cell_at (v := .string ynm) hBq 1 rfl
    have q2 := cell_at (v := .string yot) hBq 2 rfl
    have q3 := cell_at (v := .bool yb) hBq 3 rfl
    have q4 := cell_at (v := .slice yao yn yq) hBq 4 rfl
    have q5 := cell_at (v := .slice yko ykn ykc) hBq 5 rfl
    have q6 := cell_at (v := .int .i64 yln) hBq 6 rfl
    have q7 := cell_at (v := .int .i64 ycl) hBq 7 rfl
    clear hBq
    clear hA
    refine ⟨(by rfl), ?_⟩
    go_simp <;> (try with_reducible rfl)
  refine Rely.Chain.grow (fun xs v w => ∃ ao c, v = .slice ao 1 c) (fun _ _ _ _ h _ => h) rfl (by rfl) (fun T xs wr hA => ?_) ?_
  · have e36 := hA.tm 4 36 (by rfl) (by rfl)
    have f36 : xs 4 = _ := hA.fa 4 (by rfl)
    (try simp (disch := first | rfl | decide) only [Rely.mask_in] at f36)
    rw [f36] at e36
    clear f36
    have hbw := undrew (hA.be _ (Nat.le_refl _) (fun q h => absurd h (Nat.not_lt_zero q)))
    clear hA
    refine ⟨(by rfl), fun K hK => ?_⟩
    go_simp
    exact hK.out _ _ ⟨_, _, rfl⟩ ((Below.refl _ _).alloc (Nat.le_refl _) _)
  refine Rely.Chain.grow (fun xs v w => ∃ ao c, v = .agg #[.int .i64 10, .string ⟨#[]⟩, .string ⟨#[]⟩, .bool false, .slice none 0 0, .slice ao 1 c, .int .i64 0, .int .i64 0]) (fun _ _ _ _ h _ => h) rfl (by rfl) (fun T xs wr hA => ?_) ?_
  · have e37 := hA.tm 5 37 (by rfl) (by rfl)
    have hbw := undrew (hA.be _ (Nat.le_refl _) (fun q h => absurd h (Nat.not_lt_zero q)))
    have hF5 : ∃ ao c, (xs 5) = .slice ao 1 c := hA.fa 5 (by rfl)
    obtain ⟨ao, c, hv⟩ := hF5
    rw [hv] at e37
    clear hv hbw
    clear hA
    refine ⟨(by rfl), fun K hK => ?_⟩
    go_simp
    exact hK.out _ _ ⟨ao, c, rfl⟩ (Below.refl _ _)
  refine Rely.Chain.det ?_ (by rfl) (fun T xs wr hA => ?_) ?_
  rotate_left 1
  · clear hA
    refine ⟨(by rfl), ?_⟩
    go_simp <;> (try with_reducible rfl)
  refine Rely.Chain.det ?_ (by rfl) (fun T xs wr hA => ?_) ?_
  rotate_left 1
  · clear hA
    refine ⟨(by rfl), ?_⟩
    go_simp <;> (try with_reducible rfl)
  refine Rely.Chain.grow (fun xs v w => ∃ ao l c, v = .agg #[.bool true, .slice ao l c]) (fun _ _ _ _ h _ => h) rfl (by rfl) (fun T xs wr hA => ?_) ?_
  · have hbw := undrew (hA.be _ (Nat.le_refl _) (fun q h => absurd h (Nat.not_lt_zero q)))
    clear hA
    refine ⟨(by rfl), fun K hK => ?_⟩
    go_simp
    refine (of_neg _).mono ?_
    rintro e wq ⟨ao, l, c, rfl, hb⟩
    exact hK.out _ _ ⟨ao, l, c, rfl⟩ hb
  refine Rely.Chain.grow (fun xs v w => ∃ ao l c, v = xv (negX ao l c)) (fun _ _ _ _ h _ => h) rfl (by rfl) (fun T xs wr hA => ?_) ?_
  · have e41 := hA.tm 9 41 (by rfl) (by rfl)
    have hbw := undrew (hA.be _ (Nat.le_refl _) (fun q h => absurd h (Nat.not_lt_zero q)))
    have hF9 : ∃ ao l c, (xs 9) = .agg #[.bool true, .slice ao l c] := hA.fa 9 (by rfl)
    obtain ⟨ao, l, c, hv⟩ := hF9
    rw [hv] at e41
    clear hv hbw
    clear hA
    refine ⟨(by rfl), fun K hK => ?_⟩
    go_simp
    exact hK.out _ _ ⟨ao, l, c, rfl⟩ (Below.refl _ _)
  refine Rely.Chain.grow (fun xs v w => ∃ ao l c ka, v = .slice ka 1 1 ∧ At8 w ka 0 (negX ao l c)) (fun _ _ _ _ ⟨ao, l, c, ka, h1, h2⟩ hb => ⟨ao, l, c, ka, h1, h2.below hb⟩) rfl (by rfl) (fun T xs wr hA => ?_) ?_
  · have e42 := hA.tm 10 42 (by rfl) (by rfl)
    have hbw := undrew (hA.be _ (Nat.le_refl _) (fun q h => absurd h (Nat.not_lt_zero q)))
    have hF10 : ∃ ao l c, (xs 10) = xv (negX ao l c) := hA.fa 10 (by rfl)
    obtain ⟨ao, l, c, hv⟩ := hF10
    rw [hv] at e42
    simp only [xv, negX] at e42
    clear hv hbw
    clear hA
    refine ⟨(by rfl), fun K hK => ?_⟩
    go_simp
    exact hK.out _ _ ⟨ao, l, c, _, rfl, at8_row [negX ao l c] (made_at wr _ _ rfl) 0 Nat.zero_lt_one⟩ ((Below.refl _ _).alloc (Nat.le_refl _) _)
  refine Rely.Chain.grow (fun xs v w => ∃ ao l c ka, v = .agg #[.int .i64 6, .string ⟨#[]⟩, .string ⟨#[]⟩, .bool false, .slice none 0 0, .slice ka 1 1, .int .i64 0, .int .i64 0] ∧ At8 w ka 0 (negX ao l c)) (fun _ _ _ _ ⟨ao, l, c, ka, h1, h2⟩ hb => ⟨ao, l, c, ka, h1, h2.below hb⟩) rfl (by rfl) (fun T xs wr hA => ?_) ?_
  · have e43 := hA.tm 11 43 (by rfl) (by rfl)
    have hbw := undrew (hA.be _ (Nat.le_refl _) (fun q h => absurd h (Nat.not_lt_zero q)))
    have hF11 : ∃ ao l c ka, (xs 11) = .slice ka 1 1 ∧ At8 wr ka 0 (negX ao l c) := hA.fa 11 (by rfl)
    obtain ⟨ao, l, c, ka, hv, hg⟩ := hF11
    have HG := Lib.hid hg
    rw [hv] at e43
    clear hv hg hbw
    clear hA
    refine ⟨(by rfl), fun K hK => ?_⟩
    go_simp
    exact hK.out _ _ ⟨ao, l, c, ka, rfl, HG.out⟩ (Below.refl _ _)
  refine Rely.Chain.grow (fun xs v w => Bads w v) (fun _ _ _ _ h hb => h.below hb) rfl (by rfl) (fun T xs wr hA => ?_) ?_
  · have e35 := hA.tm 3 35 (by rfl) (by rfl)
    have e38 := hA.tm 6 38 (by rfl) (by rfl)
    have e39 := hA.tm 7 39 (by rfl) (by rfl)
    have f39 : xs 7 = _ := hA.fa 7 (by rfl)
    (try simp (disch := first | rfl | decide) only [Rely.mask_in] at f39)
    rw [f39] at e39
    clear f39
    have e40 := hA.tm 8 40 (by rfl) (by rfl)
    have f40 : xs 8 = _ := hA.fa 8 (by rfl)
    (try simp (disch := first | rfl | decide) only [Rely.mask_in] at f40)
    rw [f40] at e40
    clear f40
    have e44 := hA.tm 12 44 (by rfl) (by rfl)
    have hbw := undrew (hA.be _ (Nat.le_refl _) (fun q h => absurd h (Nat.not_lt_zero q)))
    have hF3 : ∃ ao c, (xs 3) = .agg #[.int .i64 5, .string ⟨#[]⟩, .string ⟨#[]⟩, .bool false, .slice none 0 0, .slice ao 2 c, .int .i64 0, .int .i64 0] := hA.fa 3 (by rfl)
    obtain ⟨ao0, c0, v0⟩ := hF3
    have hF6 : ∃ ao c, (xs 6) = .agg #[.int .i64 10, .string ⟨#[]⟩, .string ⟨#[]⟩, .bool false, .slice none 0 0, .slice ao 1 c, .int .i64 0, .int .i64 0] := hA.fa 6 (by rfl)
    obtain ⟨ao1, c1, v1⟩ := hF6
    have hF12 : ∃ ao l c ka, (xs 12) = .agg #[.int .i64 6, .string ⟨#[]⟩, .string ⟨#[]⟩, .bool false, .slice none 0 0, .slice ka 1 1, .int .i64 0, .int .i64 0] ∧ At8 wr ka 0 (negX ao l c) := hA.fa 12 (by rfl)
    obtain ⟨ao, l, c, ka, v4, hg⟩ := hF12
    have HG := Lib.hid hg
    rw [v0] at e35
    rw [v1] at e38
    rw [v4] at e44
    clear v0 v1 v4 hg hbw
    clear hA
    refine ⟨(by rfl), fun K hK => ?_⟩
    go_simp
    exact hK.out _ _ ⟨_, ao0, c0, ao1, c1, ao, l, c, ka, rfl, fun i hi => at8_row (badL ao0 c0 ao1 c1 ka) (made_at wr _ _ rfl) i hi, HG.out.below ((Below.refl _ _).alloc (Nat.le_refl _) _)⟩ ((Below.refl _ _).alloc (Nat.le_refl _) _)
  refine Rely.Chain.grow (fun _ v _ => v = .int .i64 5) (fun _ _ _ _ h _ => h) rfl (by rfl) (fun T xs wr hA => ?_) ?_
  · have e45 := hA.tm 13 45 (by rfl) (by rfl)
    have hbw := undrew (hA.be _ (Nat.le_refl _) (fun q h => absurd h (Nat.not_lt_zero q)))
    have hF13 : Bads wr (xs 13) := hA.fa 13 (by rfl)
    obtain ⟨ko, ao0, c0, ao1, c1, ao, l, c, ka, hv, -, -⟩ := hF13
    rw [hv] at e45
    clear hv hbw
    clear hA
    refine ⟨(by rfl), fun K hK => ?_⟩
    go_simp
    exact hK.out _ _ rfl (Below.refl _ _)
  refine Rely.Chain.det ?_ (by rfl) (fun T xs wr hA => ?_) ?_
  rotate_left 1
  · clear hA
    refine ⟨(by rfl), ?_⟩
    go_simp <;> (try with_reducible rfl)
  refine Rely.Chain.done (fun xs w9 hL => ?_)
  obtain ⟨⟨hbe, hbl, hkp0⟩, hf, hp, hn⟩ := hL
  have f0 : xs 0 = _ := hf 0 (by decide)
  (try simp (disch := first | rfl | decide) only [Rely.mask_in] at f0)
  have f1 : xs 1 = _ := hf 1 (by decide)
  (try simp (disch := first | rfl | decide) only [Rely.mask_in] at f1)
  have F2 : ∃ ao c, (xs 2) = .slice ao 2 c := hf 2 (by decide)
  have F3 : ∃ ao c, (xs 3) = .agg #[.int .i64 5, .string ⟨#[]⟩, .string ⟨#[]⟩, .bool false, .slice none 0 0, .slice ao 2 c, .int .i64 0, .int .i64 0] := hf 3 (by decide)
  have f4 : xs 4 = _ := hf 4 (by decide)
  (try simp (disch := first | rfl | decide) only [Rely.mask_in] at f4)
  have F5 : ∃ ao c, (xs 5) = .slice ao 1 c := hf 5 (by decide)
  have F6 : ∃ ao c, (xs 6) = .agg #[.int .i64 10, .string ⟨#[]⟩, .string ⟨#[]⟩, .bool false, .slice none 0 0, .slice ao 1 c, .int .i64 0, .int .i64 0] := hf 6 (by decide)
  have f7 : xs 7 = _ := hf 7 (by decide)
  (try simp (disch := first | rfl | decide) only [Rely.mask_in] at f7)
  have f8 : xs 8 = _ := hf 8 (by decide)
  (try simp (disch := first | rfl | decide) only [Rely.mask_in] at f8)
  have F9 : ∃ ao l c, (xs 9) = .agg #[.bool true, .slice ao l c] := hf 9 (by decide)
  have F10 : ∃ ao l c, (xs 10) = xv (negX ao l c) := hf 10 (by decide)
  have F11 : ∃ ao l c ka, (xs 11) = .slice ka 1 1 ∧ At8 w9 ka 0 (negX ao l c) := hf 11 (by decide)
  have F12 : ∃ ao l c ka, (xs 12) = .agg #[.int .i64 6, .string ⟨#[]⟩, .string ⟨#[]⟩, .bool false, .slice none 0 0, .slice ka 1 1, .int .i64 0, .int .i64 0] ∧ At8 w9 ka 0 (negX ao l c) := hf 12 (by decide)
  have F13 : Bads w9 (xs 13) := hf 13 (by decide)
  have f14 : xs 14 = (.int .i64 5) := hf 14 (by decide)
  have f15 : xs 15 = _ := hf 15 (by decide)
  (try simp (disch := first | rfl | decide) only [Rely.mask_in] at f15)
  have hbx : Below w8.heap.size w8 w9 := undrew (hbe _ (Nat.le_refl _) (fun q h => absurd h (Nat.not_lt_zero q)))
  clear hbe hbl hkp0 hf hp hn
  replace HB_x := Lib.hid ((hbx.block _ hlt_x).trans HB_x.out)
  clear hlt_x
  refine Rely.rest_done ?_
  obtain ⟨ko9, ao0, c0, ao1, c1, nao, nl, nc, ka, f13, hA9, hAn⟩ := F13
  have HA9 := Lib.hid hA9
  have HAN := Lib.hid hAn
  have HB9 := Lib.hid (HB8.out.trans (hbx.mono HB8.out.size))
  have HT9 := Lib.hid (HT8.out.below hbx)
  clear F2 F3 F5 F6 F9 F10 F11 F12 hA9 hAn hbx
  obtain ⟨q2, g2⟩ : ∃ q, xs 2 = q := ⟨_, rfl⟩
  obtain ⟨q3, g3⟩ : ∃ q, xs 3 = q := ⟨_, rfl⟩
  obtain ⟨q5, g5⟩ : ∃ q, xs 5 = q := ⟨_, rfl⟩
  obtain ⟨q6, g6⟩ : ∃ q, xs 6 = q := ⟨_, rfl⟩
  obtain ⟨q9, g9⟩ : ∃ q, xs 9 = q := ⟨_, rfl⟩
  obtain ⟨q10, g10⟩ : ∃ q, xs 10 = q := ⟨_, rfl⟩
  obtain ⟨q11, g11⟩ : ∃ q, xs 11 = q := ⟨_, rfl⟩
  obtain ⟨q12, g12⟩ : ∃ q, xs 12 = q := ⟨_, rfl⟩
  simp only [Rely.fill, List.setIfInBounds_toArray, List.set_cons_zero, List.set_cons_succ, f0, f1, f4, f7, f8, f14, f15, f13, g2, g3, g5, g6, g9, g10, g11, g12]
  clear f0 f1 f4 f7 f8 f14 f15 f13 g2 g3 g5 g6 g9 g10 g11 g12
  go_wp2_with fail
  go_loopw [47] (fun i wr => ∃ j : Nat, i = .int .i64 (j : Nat) ∧ j ≤ 5 ∧ Below w9.heap.size w9 wr) (fun i _ => 5 - (intOf i).toNat)
  case atStart => exact ⟨0, rfl, by decide, Below.refl _ _⟩
  case round =>
    obtain ⟨j, rfl, hj, hb⟩ := hrel
    have HB := Lib.hid hb
    by_cases hlt : j < 5
    · have hR := fun W hW => bads_wrong (ao0 := ao0) (c0 := c0) (ao1 := ao1) (c1 := c1) HT9.out HAN.out j hlt W hW
      have hA := (HA9.out j hlt).below hb
      generalize hy : (badL ao0 c0 ao1 c1 ka)[j] = y at hR hA
      obtain ⟨a, rfl, hc⟩ := hA
      obtain ⟨zk, znm, zot, zb, zao, zn, zq, zko, zkn, zkc, zln, zcl⟩ := y
      obtain ⟨c0, c1, c2, c3, c4, c5, c6, c7⟩ := cells8 hc
      have HR := Lib.hid hR
      clear hc hb hR hy
      go_wp2_with fail
      refine (HR.out _ (HB.out.alloc HB.out.size _)).mono ?_
      rintro e w10 ⟨rfl, hb10⟩
      have HB10 := Lib.hid hb10
      clear hb10
      go_wp2_with fail
      go_roundw
      case rel => exact ⟨j + 1, by go_num, by omega, (HB.out.alloc HB.out.size _).trans (HB10.out.mono (by have := HB.out.size; simp; omega))⟩
      case measure => simp [intOf]; omega
    · have e : j = 5 := by omega
      subst e
      clear hb
      have HX9 := Lib.hid ((HB.out.block k3 (Nat.lt_of_lt_of_le (lt_of_block HB_x.out) (Nat.le_refl _))).trans HB_x.out)
      have HT10 := Lib.hid (HT9.out.below HB.out)
      have HB10 := Lib.hid (HB9.out.trans (HB.out.mono HB9.out.size))
      obtain ⟨kd, nm, ot, z, ks⟩ := t
      obtain ⟨⟨e1, -, -, -⟩, -, ⟨e4, -, -⟩, -⟩ := HTR8.out
      obtain ⟨hK29, -, -, -, hka, -, -⟩ := HO.out
      simp only at e1 e4
      subst e1
      clear HTR4 HTR5 HTR6 HTR7 HTR8 HX4 HX5 HX6 HX7 HX8 HB_x HX1 HR1 HR2 HW4 HK3 hs5 hs6 hs7 hs8
      have HB_x := HX9
      by_cases h24 : kd = 24
      · subst h24
        have hne : (((-1 : Int)) == (ykn : Int)) = false := by rw [beq_eq_false_iff_ne]; omega
        go_wp2_with fail
        have hlt_x := lt_of_block HB_x.out
        refine Rely.region (by kernel_rfl) [[], [0], [0, 1], [0, 1, 2], [0, 1, 2, 3], [0, 1, 2, 3, 4], [0, 1, 2, 3, 4, 5], [0, 1, 2, 3, 4, 5, 6], [0, 1, 2, 3, 4, 5, 6, 7], [0, 1, 2, 3, 4, 5, 6, 7, 8], [0, 1, 2, 3, 4, 5, 6, 7, 8, 9], [0, 1, 2, 3, 4, 5, 6, 7, 8, 9, 10], [0, 1, 2, 3, 4, 5, 6, 7, 8, 9, 10, 11], [0, 1, 2, 3, 4, 5, 6, 7, 8, 9, 10, 11, 12], [0, 1, 2, 3, 4, 5, 6, 7, 8, 9, 10], [0, 1, 2, 3, 4, 5, 6, 7, 8, 9, 10, 14], [0, 1, 2, 3, 4, 5, 6, 7, 8, 9, 10, 14, 15], [0, 1, 2, 3, 4, 5, 6, 7, 8, 9, 10, 11, 12, 13, 14, 15, 16], [0, 1, 2, 3, 4, 5, 6, 7, 8, 9, 10, 11, 12, 13, 14, 15, 16, 17], [0, 1, 2, 3, 4, 5, 6, 7, 8, 9, 10, 11, 12, 13, 14, 15, 16, 17, 18], [0, 1, 2, 3, 4, 5, 6, 7, 8, 9, 10, 11, 12, 13, 14, 15, 16, 17, 18, 19], [0, 1, 2, 3, 4, 5, 6, 7, 8, 9, 10, 11, 12, 13, 14, 15, 16, 17, 18, 19, 20], [0, 1, 2, 3, 4, 5, 6, 7, 8, 9, 10, 11, 12, 13, 14, 15, 16, 17, 18, 19, 20, 21], [0, 1, 2, 3, 4, 5, 6, 7, 8, 9, 10, 11, 12, 13, 14, 15, 16, 17, 18, 19, 20, 21, 22], [0, 1, 2, 3, 4, 5, 6, 7, 8, 9, 10, 11, 12, 13, 14, 15, 16, 17, 18, 19, 20, 21, 22, 23]] [] [] (fun _ => 0) 0 25 (by kernel_rfl) (by kernel_rfl) (fun q h => absurd h (Nat.not_lt_zero q)) (fun q _ h => absurd h (Nat.not_lt_zero q)) ?_
        refine Rely.Chain.grow (fun _ v _ => v = .int .i64 (-2)) (fun _ _ _ _ h _ => h) rfl (by rfl) (fun T xs wr hA => ?_) ?_
        · have hbw := undrew (hA.be _ (Nat.le_refl _) (fun q h => absurd h (Nat.not_lt_zero q)))
          clear hA
          refine ⟨(by rfl), fun K hK => ?_⟩
          go_simp
          refine (arity_no 29 (by decide) _).mono ?_
          rintro e wq ⟨rfl, rfl⟩
          exact hK.out _ _ rfl (Below.refl _ _)
        refine Rely.Chain.det ?_ (by rfl) (fun T xs wr hA => ?_) ?_
        rotate_left 1
        · have e54 := hA.tm 0 54 (by rfl) (by rfl)
          have f54 : xs 0 = (.int .i64 (-2)) := hA.fa 0 (by rfl)
          rw [f54] at e54
          clear f54
          clear hA
          refine ⟨(by rfl), ?_⟩
          go_simp <;> (try with_reducible rfl)
        refine Rely.Chain.det ?_ (by rfl) (fun T xs wr hA => ?_) ?_
        rotate_left 1
        · have e55 := hA.tm 1 55 (by rfl) (by rfl)
          have f55 : xs 1 = _ := hA.fa 1 (by rfl)
          (try simp (disch := first | rfl | decide) only [Rely.mask_in] at f55)
          rw [f55] at e55
          clear f55
          clear hA
          refine ⟨(by rfl), ?_⟩
          go_simp <;> (try with_reducible rfl)
        refine Rely.Chain.grow (fun _ v _ => v = .int .i64 (-2)) (fun _ _ _ _ h _ => h) rfl (by rfl) (fun T xs wr hA => ?_) ?_
        · have e56 := hA.tm 2 56 (by rfl) (by rfl)
          have f56 : xs 2 = _ := hA.fa 2 (by rfl)
          (try simp (disch := first | rfl | decide) only [Rely.mask_in] at f56)
          rw [f56] at e56
          clear f56
          have hbw := undrew (hA.be _ (Nat.le_refl _) (fun q h => absurd h (Nat.not_lt_zero q)))
          clear hA
          refine ⟨((Rely.wanted_at rfl (by rfl) e56).trans (by rfl)), fun K hK => ?_⟩
          go_simp
          refine (arity_no (-1) (by decide) _).mono ?_
          rintro e wq ⟨rfl, rfl⟩
          exact hK.out _ _ rfl (Below.refl _ _)
        refine Rely.Chain.det ?_ (by rfl) (fun T xs wr hA => ?_) ?_
        rotate_left 1
        · have e56 := hA.tm 2 56 (by rfl) (by rfl)
          have f56 : xs 2 = _ := hA.fa 2 (by rfl)
          (try simp (disch := first | rfl | decide) only [Rely.mask_in] at f56)
          rw [f56] at e56
          clear f56
          have e57 := hA.tm 3 57 (by rfl) (by rfl)
          have f57 : xs 3 = (.int .i64 (-2)) := hA.fa 3 (by rfl)
          rw [f57] at e57
          clear f57
          clear hA
          refine ⟨((Rely.wanted_at rfl (by rfl) e56).trans (by rfl)), ?_⟩
          go_simp <;> (try with_reducible rfl)
        refine Rely.Chain.det ?_ (by rfl) (fun T xs wr hA => ?_) ?_
        rotate_left 1
        · have e56 := hA.tm 2 56 (by rfl) (by rfl)
          have f56 : xs 2 = _ := hA.fa 2 (by rfl)
          (try simp (disch := first | rfl | decide) only [Rely.mask_in] at f56)
          rw [f56] at e56
          clear f56
          have e58 := hA.tm 4 58 (by rfl) (by rfl)
          have f58 : xs 4 = _ := hA.fa 4 (by rfl)
          (try simp (disch := first | rfl | decide) only [Rely.mask_in] at f58)
          rw [f58] at e58
          clear f58
          clear hA
          refine ⟨(by rfl), ?_⟩
          go_simp <;> (try with_reducible rfl)
        refine Rely.Chain.det ?_ (by rfl) (fun T xs wr hA => ?_) ?_
        rotate_left 1
        · have e59 := hA.tm 5 59 (by rfl) (by rfl)
          have f59 : xs 5 = _ := hA.fa 5 (by rfl)
          (try simp (disch := first | rfl | decide) only [Rely.mask_in] at f59)
          rw [f59] at e59
          clear f59
          clear hA
          refine ⟨(by rfl), ?_⟩
          go_simp <;> (try with_reducible rfl)
        refine Rely.Chain.grow (fun _ v _ => v = .int .i64 (-1)) (fun _ _ _ _ h _ => h) rfl (by rfl) (fun T xs wr hA => ?_) ?_
        · have e60 := hA.tm 6 60 (by rfl) (by rfl)
          have f60 : xs 6 = _ := hA.fa 6 (by rfl)
          (try simp (disch := first | rfl | decide) only [Rely.mask_in] at f60)
          rw [f60] at e60
          clear f60
          have hbw := undrew (hA.be _ (Nat.le_refl _) (fun q h => absurd h (Nat.not_lt_zero q)))
          have htq := Lib.hid (HT10.out.below hbw)
          clear hbw
          clear hA
          refine ⟨((Rely.wanted_at rfl (by rfl) e60).trans (by rfl)), fun K hK => ?_⟩
          go_simp
          refine (arity_ok 24 (-1) (by decide) rfl _ htq.out).mono ?_
          rintro e wq ⟨rfl, rfl⟩
          exact hK.out _ _ rfl (Below.refl _ _)
        refine Rely.Chain.det ?_ (by rfl) (fun T xs wr hA => ?_) ?_
        rotate_left 1
        · have e60 := hA.tm 6 60 (by rfl) (by rfl)
          have f60 : xs 6 = _ := hA.fa 6 (by rfl)
          (try simp (disch := first | rfl | decide) only [Rely.mask_in] at f60)
          rw [f60] at e60
          clear f60
          have e61 := hA.tm 7 61 (by rfl) (by rfl)
          have f61 : xs 7 = (.int .i64 (-1)) := hA.fa 7 (by rfl)
          rw [f61] at e61
          clear f61
          clear hA
          refine ⟨((Rely.wanted_at rfl (by rfl) e60).trans (by rfl)), ?_⟩
          go_simp <;> (try with_reducible rfl)
        refine Rely.Chain.det ?_ (by rfl) (fun T xs wr hA => ?_) ?_
        rotate_left 1
        · have e60 := hA.tm 6 60 (by rfl) (by rfl)
          have f60 : xs 6 = _ := hA.fa 6 (by rfl)
          (try simp (disch := first | rfl | decide) only [Rely.mask_in] at f60)
          rw [f60] at e60
          clear f60
          have e62 := hA.tm 8 62 (by rfl) (by rfl)
          have f62 : xs 8 = _ := hA.fa 8 (by rfl)
          (try simp (disch := first | rfl | decide) only [Rely.mask_in] at f62)
          rw [f62] at e62
          clear f62
          clear hA
          refine ⟨(by rfl), ?_⟩
          go_simp <;> (try with_reducible rfl)
        refine Rely.Chain.det ?_ (by rfl) (fun T xs wr hA => ?_) ?_
        rotate_left 1
        · have e63 := hA.tm 9 63 (by rfl) (by rfl)
          have f63 : xs 9 = _ := hA.fa 9 (by rfl)
          (try simp (disch := first | rfl | decide) only [Rely.mask_in] at f63)
          rw [f63] at e63
          clear f63
          clear hA
          refine ⟨(by rfl), ?_⟩
          go_simp <;> (try with_reducible rfl)
        refine Rely.Chain.det ?_ (by rfl) (fun T xs wr hA => ?_) ?_
        rotate_left 1
        · have e64 := hA.tm 10 64 (by rfl) (by rfl)
          have f64 : xs 10 = _ := hA.fa 10 (by rfl)
          (try simp (disch := first | rfl | decide) only [Rely.mask_in] at f64)
          rw [f64] at e64
          clear f64
          have e3 := hA.pre 3 (by kernel_rfl)
          simp only [List.getElem?_toArray, List.getElem?_cons_succ, List.getElem?_cons_zero] at e3
          clear hA
          refine ⟨((Rely.wanted_at rfl (by rfl) e64).trans (by rfl)), ?_⟩
          go_simp <;> (try with_reducible rfl)
        refine Rely.Chain.det ?_ (by rfl) (fun T xs wr hA => ?_) ?_
        rotate_left 1
        · have e64 := hA.tm 10 64 (by rfl) (by rfl)
          have f64 : xs 10 = _ := hA.fa 10 (by rfl)
          (try simp (disch := first | rfl | decide) only [Rely.mask_in] at f64)
          rw [f64] at e64
          clear f64
          have e65 := hA.tm 11 65 (by rfl) (by rfl)
          have f65 : xs 11 = _ := hA.fa 11 (by rfl)
          (try simp (disch := first | rfl | decide) only [Rely.mask_in] at f65)
          rw [f65] at e65
          clear f65
          have hBq : wr.heap[k3]? = _ := (hA.bl _ hlt_x (fun q h => absurd h (Nat.not_lt_zero q))).trans HB_x.out
          have q0 := cell_at (v := .int .i64 ((24 : Nat) : Int)) hBq 0 rfl
          have q1 := cell_at (v := .string ynm) hBq 1 rfl
          have q2 := cell_at (v := .string yot) hBq 2 rfl
          have q3 := cell_at (v := .bool yb) hBq 3 rfl
          have q4 := cell_at (v := .slice yao yn yq) hBq 4 rfl
          have q5 := cell_at (v := .slice yko ykn ykc) hBq 5 rfl
          have q6 := cell_at (v := .int .i64 yln) hBq 6 rfl
          have q7 := cell_at (v := .int .i64 ycl) hBq 7 rfl
          clear hBq
          clear hA
          refine ⟨((Rely.wanted_at rfl (by rfl) e64).trans (by rfl)), ?_⟩
          go_simp <;> (try with_reducible rfl)
        refine Rely.Chain.grow (fun _ v _ => v = .int .i64 (-1)) (fun _ _ _ _ h _ => h) rfl (by rfl) (fun T xs wr hA => ?_) ?_
        · have e64 := hA.tm 10 64 (by rfl) (by rfl)
          have f64 : xs 10 = _ := hA.fa 10 (by rfl)
          (try simp (disch := first | rfl | decide) only [Rely.mask_in] at f64)
          rw [f64] at e64
          clear f64
          have e66 := hA.tm 12 66 (by rfl) (by rfl)
          have f66 : xs 12 = _ := hA.fa 12 (by rfl)
          (try simp (disch := first | rfl | decide) only [Rely.mask_in] at f66)
          rw [f66] at e66
          clear f66
          have hbw := undrew (hA.be _ (Nat.le_refl _) (fun q h => absurd h (Nat.not_lt_zero q)))
          have htq := Lib.hid (HT10.out.below hbw)
          clear hbw
          clear hA
          refine ⟨((Rely.wanted_at rfl (by rfl) e64).trans (by rfl)), fun K hK => ?_⟩
          go_simp
          refine (arity_ok 24 (-1) (by decide) rfl _ htq.out).mono ?_
          rintro e wq ⟨rfl, rfl⟩
          exact hK.out _ _ rfl (Below.refl _ _)
        refine Rely.Chain.det ?_ (by rfl) (fun T xs wr hA => ?_) ?_
        rotate_left 1
        · have e64 := hA.tm 10 64 (by rfl) (by rfl)
          have f64 : xs 10 = _ := hA.fa 10 (by rfl)
          (try simp (disch := first | rfl | decide) only [Rely.mask_in] at f64)
          rw [f64] at e64
          clear f64
          have e3 := hA.pre 3 (by kernel_rfl)
          simp only [List.getElem?_toArray, List.getElem?_cons_succ, List.getElem?_cons_zero] at e3
          clear hA
          refine ⟨((Rely.wanted_at rfl (by rfl) e64).trans (by rfl)), ?_⟩
          go_simp <;> (try with_reducible rfl)
        refine Rely.Chain.det ?_ (by rfl) (fun T xs wr hA => ?_) ?_
        rotate_left 1
        · have e64 := hA.tm 10 64 (by rfl) (by rfl)
          have f64 : xs 10 = _ := hA.fa 10 (by rfl)
          (try simp (disch := first | rfl | decide) only [Rely.mask_in] at f64)
          rw [f64] at e64
          clear f64
          have e68 := hA.tm 14 68 (by rfl) (by rfl)
          have f68 : xs 14 = _ := hA.fa 14 (by rfl)
          (try simp (disch := first | rfl | decide) only [Rely.mask_in] at f68)
          rw [f68] at e68
          clear f68
          have hBq : wr.heap[k3]? = _ := (hA.bl _ hlt_x (fun q h => absurd h (Nat.not_lt_zero q))).trans HB_x.out
          have q0 := cell_at (v := .int .i64 ((24 : Nat) : Int)) hBq 0 rfl
          have q1 := cell_at (v := .string ynm) hBq 1 rfl
          have q2 := cell_at (v := .string yot) hBq 2 rfl
          have q3 := cell_at (v := .bool yb) hBq 3 rfl
          have q4 := cell_at (v := .slice yao yn yq) hBq 4 rfl
          have q5 := cell_at (v := .slice yko ykn ykc) hBq 5 rfl
          have q6 := cell_at (v := .int .i64 yln) hBq 6 rfl
          have q7 := cell_at (v := .int .i64 ycl) hBq 7 rfl
          clear hBq
          clear hA
          refine ⟨((Rely.wanted_at rfl (by rfl) e64).trans (by rfl)), ?_⟩
          go_simp <;> (try with_reducible rfl)
        refine Rely.Chain.det ?_ (by rfl) (fun T xs wr hA => ?_) ?_
        rotate_left 1
        · have e64 := hA.tm 10 64 (by rfl) (by rfl)
          have f64 : xs 10 = _ := hA.fa 10 (by rfl)
          (try simp (disch := first | rfl | decide) only [Rely.mask_in] at f64)
          rw [f64] at e64
          clear f64
          have e69 := hA.tm 15 69 (by rfl) (by rfl)
          have f69 : xs 15 = _ := hA.fa 15 (by rfl)
          (try simp (disch := first | rfl | decide) only [Rely.mask_in] at f69)
          rw [f69] at e69
          clear f69
          clear hA
          refine ⟨((Rely.wanted_at rfl (by rfl) e64).trans (by rfl)), ?_⟩
          go_simp <;> (try with_reducible rfl)
        refine Rely.Chain.det ?_ (by rfl) (fun T xs wr hA => ?_) ?_
        rotate_left 1
        · have e64 := hA.tm 10 64 (by rfl) (by rfl)
          have f64 : xs 10 = _ := hA.fa 10 (by rfl)
          (try simp (disch := first | rfl | decide) only [Rely.mask_in] at f64)
          rw [f64] at e64
          clear f64
          have e67 := hA.tm 13 67 (by rfl) (by rfl)
          have f67 : xs 13 = (.int .i64 (-1)) := hA.fa 13 (by rfl)
          rw [f67] at e67
          clear f67
          have e70 := hA.tm 16 70 (by rfl) (by rfl)
          have f70 : xs 16 = _ := hA.fa 16 (by rfl)
          (try simp (disch := first | rfl | decide) only [Rely.mask_in] at f70)
          rw [f70] at e70
          clear f70
          clear hA
          refine ⟨((Rely.wanted_at rfl (by rfl) e64).trans (by rfl)), ?_⟩
          go_simp <;> (try with_reducible rfl)
        refine Rely.Chain.det ?_ (by rfl) (fun T xs wr hA => ?_) ?_
        rotate_left 1
        · have e64 := hA.tm 10 64 (by rfl) (by rfl)
          have f64 : xs 10 = _ := hA.fa 10 (by rfl)
          (try simp (disch := first | rfl | decide) only [Rely.mask_in] at f64)
          rw [f64] at e64
          clear f64
          have e71 := hA.tm 17 71 (by rfl) (by rfl)
          have f71 : xs 17 = _ := hA.fa 17 (by rfl)
          (try simp (disch := first | rfl | decide) only [Rely.mask_in] at f71)
          rw [f71] at e71
          clear f71
          clear hA
          refine ⟨(by rfl), ?_⟩
          go_simp <;> (try with_reducible rfl)
        refine Rely.Chain.det ?_ (by rfl) (fun T xs wr hA => ?_) ?_
        rotate_left 1
        · have e72 := hA.tm 18 72 (by rfl) (by rfl)
          have f72 : xs 18 = _ := hA.fa 18 (by rfl)
          (try simp (disch := first | rfl | decide) only [Rely.mask_in] at f72)
          rw [f72] at e72
          clear f72
          clear hA
          refine ⟨(by rfl), ?_⟩
          go_simp <;> (try with_reducible rfl)
        refine Rely.Chain.det ?_ (by rfl) (fun T xs wr hA => ?_) ?_
        rotate_left 1
        · have e73 := hA.tm 19 73 (by rfl) (by rfl)
          have f73 : xs 19 = _ := hA.fa 19 (by rfl)
          (try simp (disch := first | rfl | decide) only [Rely.mask_in] at f73)
          rw [f73] at e73
          clear f73
          have e3 := hA.pre 3 (by kernel_rfl)
          simp only [List.getElem?_toArray, List.getElem?_cons_succ, List.getElem?_cons_zero] at e3
          clear hA
          refine ⟨((Rely.wanted_at rfl (by rfl) e73).trans (by rfl)), ?_⟩
          go_simp <;> (try with_reducible rfl)
        refine Rely.Chain.det ?_ (by rfl) (fun T xs wr hA => ?_) ?_
        rotate_left 1
        · have e73 := hA.tm 19 73 (by rfl) (by rfl)
          have f73 : xs 19 = _ := hA.fa 19 (by rfl)
          (try simp (disch := first | rfl | decide) only [Rely.mask_in] at f73)
          rw [f73] at e73
          clear f73
          have e74 := hA.tm 20 74 (by rfl) (by rfl)
          have f74 : xs 20 = _ := hA.fa 20 (by rfl)
          (try simp (disch := first | rfl | decide) only [Rely.mask_in] at f74)
          rw [f74] at e74
          clear f74
          have hBq : wr.heap[k3]? = _ := (hA.bl _ hlt_x (fun q h => absurd h (Nat.not_lt_zero q))).trans HB_x.out
          have q0 := cell_at (v := .int .i64 ((24 : Nat) : Int)) hBq 0 rfl
          have q1 := cell_at (v := .string ynm) hBq 1 rfl
          have q2 := cell_at (v := .string yot) hBq 2 rfl
          have q3 := cell_at (v := .bool yb) hBq 3 rfl
          have q4 := cell_at (v := .slice yao yn yq) hBq 4 rfl
          have q5 := cell_at (v := .slice yko ykn ykc) hBq 5 rfl
          have q6 := cell_at (v := .int .i64 yln) hBq 6 rfl
          have q7 := cell_at (v := .int .i64 ycl) hBq 7 rfl
          clear hBq
          clear hA
          refine ⟨((Rely.wanted_at rfl (by rfl) e73).trans (by rfl)), ?_⟩
          go_simp <;> (try with_reducible rfl)
        refine Rely.Chain.det ?_ (by rfl) (fun T xs wr hA => ?_) ?_
        rotate_left 1
        · have e73 := hA.tm 19 73 (by rfl) (by rfl)
          have f73 : xs 19 = _ := hA.fa 19 (by rfl)
          (try simp (disch := first | rfl | decide) only [Rely.mask_in] at f73)
          rw [f73] at e73
          clear f73
          have e75 := hA.tm 21 75 (by rfl) (by rfl)
          have f75 : xs 21 = _ := hA.fa 21 (by rfl)
          (try simp (disch := first | rfl | decide) only [Rely.mask_in] at f75)
          rw [f75] at e75
          clear f75
          clear hA
          refine ⟨((Rely.wanted_at rfl (by rfl) e73).trans (by rfl)), ?_⟩
          go_simp <;> (try with_reducible rfl)
        refine Rely.Chain.det ?_ (by rfl) (fun T xs wr hA => ?_) ?_
        rotate_left 1
        · have e73 := hA.tm 19 73 (by rfl) (by rfl)
          have f73 : xs 19 = _ := hA.fa 19 (by rfl)
          (try simp (disch := first | rfl | decide) only [Rely.mask_in] at f73)
          rw [f73] at e73
          clear f73
          have e76 := hA.tm 22 76 (by rfl) (by rfl)
          have f76 : xs 22 = _ := hA.fa 22 (by rfl)
          (try simp (disch := first | rfl | decide) only [Rely.mask_in] at f76)
          rw [f76] at e76
          clear f76
          clear hA
          refine ⟨(by rfl), ?_⟩
          go_simp <;> (try with_reducible rfl)
        refine Rely.Chain.det ?_ (by rfl) (fun T xs wr hA => ?_) ?_
        rotate_left 1
        · have e77 := hA.tm 23 77 (by rfl) (by rfl)
          have f77 : xs 23 = _ := hA.fa 23 (by rfl)
          (try simp (disch := first | rfl | decide) only [Rely.mask_in] at f77)
          rw [f77] at e77
          clear f77
          clear hA
          refine ⟨(by rfl), ?_⟩
          go_simp <;> (try with_reducible rfl)
        refine Rely.Chain.done (fun xs w11 hL => ?_)
        obtain ⟨⟨hbe, hbl, hkp0⟩, hf, hp, hn⟩ := hL
        have f0 : xs 0 = (.int .i64 (-2)) := hf 0 (by decide)
        have f1 : xs 1 = _ := hf 1 (by decide)
        (try simp (disch := first | rfl | decide) only [Rely.mask_in] at f1)
        have f2 : xs 2 = _ := hf 2 (by decide)
        (try simp (disch := first | rfl | decide) only [Rely.mask_in] at f2)
        have f3 : xs 3 = (.int .i64 (-2)) := hf 3 (by decide)
        have f4 : xs 4 = _ := hf 4 (by decide)
        (try simp (disch := first | rfl | decide) only [Rely.mask_in] at f4)
        have f5 : xs 5 = _ := hf 5 (by decide)
        (try simp (disch := first | rfl | decide) only [Rely.mask_in] at f5)
        have f6 : xs 6 = _ := hf 6 (by decide)
        (try simp (disch := first | rfl | decide) only [Rely.mask_in] at f6)
        have f7 : xs 7 = (.int .i64 (-1)) := hf 7 (by decide)
        have f8 : xs 8 = _ := hf 8 (by decide)
        (try simp (disch := first | rfl | decide) only [Rely.mask_in] at f8)
        have f9 : xs 9 = _ := hf 9 (by decide)
        (try simp (disch := first | rfl | decide) only [Rely.mask_in] at f9)
        have f10 : xs 10 = _ := hf 10 (by decide)
        (try simp (disch := first | rfl | decide) only [Rely.mask_in] at f10)
        have f11 : xs 11 = _ := hf 11 (by decide)
        (try simp (disch := first | rfl | decide) only [Rely.mask_in] at f11)
        have f12 : xs 12 = _ := hf 12 (by decide)
        (try simp (disch := first | rfl | decide) only [Rely.mask_in] at f12)
        have f13 : xs 13 = (.int .i64 (-1)) := hf 13 (by decide)
        have f14 : xs 14 = _ := hf 14 (by decide)
        (try simp (disch := first | rfl | decide) only [Rely.mask_in] at f14)
        have f15 : xs 15 = _ := hf 15 (by decide)
        (try simp (disch := first | rfl | decide) only [Rely.mask_in] at f15)
        have f16 : xs 16 = _ := hf 16 (by decide)
        (try simp (disch := first | rfl | decide) only [Rely.mask_in] at f16)
        have f17 : xs 17 = _ := hf 17 (by decide)
        (try simp (disch := first | rfl | decide) only [Rely.mask_in] at f17)
        have f18 : xs 18 = _ := hf 18 (by decide)
        (try simp (disch := first | rfl | decide) only [Rely.mask_in] at f18)
        have f19 : xs 19 = _ := hf 19 (by decide)
        (try simp (disch := first | rfl | decide) only [Rely.mask_in] at f19)
        have f20 : xs 20 = _ := hf 20 (by decide)
        (try simp (disch := first | rfl | decide) only [Rely.mask_in] at f20)
        have f21 : xs 21 = _ := hf 21 (by decide)
        (try simp (disch := first | rfl | decide) only [Rely.mask_in] at f21)
        have f22 : xs 22 = _ := hf 22 (by decide)
        (try simp (disch := first | rfl | decide) only [Rely.mask_in] at f22)
        have f23 : xs 23 = _ := hf 23 (by decide)
        (try simp (disch := first | rfl | decide) only [Rely.mask_in] at f23)
        have f24 : xs 24 = _ := hf 24 (by decide)
        (try simp (disch := first | rfl | decide) only [Rely.mask_in] at f24)
        have hbx : Below wr.heap.size wr w11 := undrew (hbe _ (Nat.le_refl _) (fun q h => absurd h (Nat.not_lt_zero q)))
        clear hbe hbl hkp0 hf hp hn
        replace HB_x := Lib.hid ((hbx.block _ hlt_x).trans HB_x.out)
        clear hlt_x
        refine Rely.rest_done ?_
        simp only [Rely.fill, List.setIfInBounds_toArray, List.set_cons_zero, List.set_cons_succ, f0, f1, f2, f3, f4, f5, f6, f7, f8, f9, f10, f11, f12, f13, f14, f15, f16, f17, f18, f19, f20, f21, f22, f23, f24]
        clear f0 f1 f2 f3 f4 f5 f6 f7 f8 f9 f10 f11 f12 f13 f14 f15 f16 f17 f18 f19 f20 f21 f22 f23 f24
        have HBX := Lib.hid (hbx.mono (Nat.le_refl _))
        clear hbx
        go_wp2_with fail
        go_ret
        exact ⟨rfl, HB10.out.trans (HBX.out.mono HB10.out.size)⟩
      · have har : (arZ kd : Int) = (ykn : Int) := by
          unfold arZ
          rw [if_neg h24, e4]
          rcases hka with h | h
          · exact absurd h h24
          · rw [h]
        have HAR := Lib.hid har
        have HK29 := Lib.hid hK29
        clear har hK29 e4 hka h24
        go_wp2_with fail
        have hlt_x := lt_of_block HB_x.out
        refine Rely.region (by kernel_rfl) [[], [0], [0, 1], [0, 1, 2], [0, 1, 2, 3], [0, 1, 2, 3, 4], [0, 1, 2, 3, 4, 5], [0, 1, 2, 3, 4, 5, 6], [0, 1, 2, 3, 4, 5, 6, 7], [0, 1, 2, 3, 4, 5, 6, 7, 8], [0, 1, 2, 3, 4, 5, 6, 7, 8, 9], [0, 1, 2, 3, 4, 5, 6, 7, 8, 9, 10], [0, 1, 2, 3, 4, 5, 6, 7, 8, 9, 10, 11], [0, 1, 2, 3, 4, 5, 6, 7, 8, 9, 10, 11, 12], [0, 1, 2, 3, 4, 5, 6, 7, 8, 9, 10], [0, 1, 2, 3, 4, 5, 6, 7, 8, 9, 10, 14], [0, 1, 2, 3, 4, 5, 6, 7, 8, 9, 10, 14, 15], [0, 1, 2, 3, 4, 5, 6, 7, 8, 9, 10, 11, 12, 13, 14, 15, 16], [0, 1, 2, 3, 4, 5, 6, 7, 8, 9, 10, 11, 12, 13, 14, 15, 16, 17], [0, 1, 2, 3, 4, 5, 6, 7, 8, 9, 10, 11, 12, 13, 14, 15, 16, 17, 18], [0, 1, 2, 3, 4, 5, 6, 7, 8, 9, 10, 11, 12, 13, 14, 15, 16, 17, 18, 19], [0, 1, 2, 3, 4, 5, 6, 7, 8, 9, 10, 11, 12, 13, 14, 15, 16, 17, 18, 19, 20], [0, 1, 2, 3, 4, 5, 6, 7, 8, 9, 10, 11, 12, 13, 14, 15, 16, 17, 18, 19, 20, 21], [0, 1, 2, 3, 4, 5, 6, 7, 8, 9, 10, 11, 12, 13, 14, 15, 16, 17, 18, 19, 20, 21, 22], [0, 1, 2, 3, 4, 5, 6, 7, 8, 9, 10, 11, 12, 13, 14, 15, 16, 17, 18, 19, 20, 21, 22, 23]] [] [] (fun _ => 0) 0 25 (by kernel_rfl) (by kernel_rfl) (fun q h => absurd h (Nat.not_lt_zero q)) (fun q _ h => absurd h (Nat.not_lt_zero q)) ?_
        refine Rely.Chain.grow (fun _ v _ => v = .int .i64 (-2)) (fun _ _ _ _ h _ => h) rfl (by rfl) (fun T xs wr hA => ?_) ?_
        · have hbw := undrew (hA.be _ (Nat.le_refl _) (fun q h => absurd h (Nat.not_lt_zero q)))
          clear hA
          refine ⟨(by rfl), fun K hK => ?_⟩
          go_simp
          refine (arity_no 29 (by decide) _).mono ?_
          rintro e wq ⟨rfl, rfl⟩
          exact hK.out _ _ rfl (Below.refl _ _)
        refine Rely.Chain.det ?_ (by rfl) (fun T xs wr hA => ?_) ?_
        rotate_left 1
        · have e54 := hA.tm 0 54 (by rfl) (by rfl)
          have f54 : xs 0 = (.int .i64 (-2)) := hA.fa 0 (by rfl)
          rw [f54] at e54
          clear f54
          clear hA
          refine ⟨(by rfl), ?_⟩
          go_simp <;> (try with_reducible rfl)
        refine Rely.Chain.det ?_ (by rfl) (fun T xs wr hA => ?_) ?_
        rotate_left 1
        · have e55 := hA.tm 1 55 (by rfl) (by rfl)
          have f55 : xs 1 = _ := hA.fa 1 (by rfl)
          (try simp (disch := first | rfl | decide) only [Rely.mask_in] at f55)
          rw [f55] at e55
          clear f55
          clear hA
          refine ⟨(by rfl), ?_⟩
          go_simp <;> (try with_reducible rfl)
        refine Rely.Chain.grow (fun _ v _ => v = .int .i64 (-2)) (fun _ _ _ _ h _ => h) rfl (by rfl) (fun T xs wr hA => ?_) ?_
        · have e56 := hA.tm 2 56 (by rfl) (by rfl)
          have f56 : xs 2 = _ := hA.fa 2 (by rfl)
          (try simp (disch := first | rfl | decide) only [Rely.mask_in] at f56)
          rw [f56] at e56
          clear f56
          have hbw := undrew (hA.be _ (Nat.le_refl _) (fun q h => absurd h (Nat.not_lt_zero q)))
          clear hA
          refine ⟨((Rely.wanted_at rfl (by rfl) e56).trans (by rfl)), fun K hK => ?_⟩
          go_simp
          refine (arity_no (-1) (by decide) _).mono ?_
          rintro e wq ⟨rfl, rfl⟩
          exact hK.out _ _ rfl (Below.refl _ _)
        refine Rely.Chain.det ?_ (by rfl) (fun T xs wr hA => ?_) ?_
        rotate_left 1
        · have e56 := hA.tm 2 56 (by rfl) (by rfl)
          have f56 : xs 2 = _ := hA.fa 2 (by rfl)
          (try simp (disch := first | rfl | decide) only [Rely.mask_in] at f56)
          rw [f56] at e56
          clear f56
          have e57 := hA.tm 3 57 (by rfl) (by rfl)
          have f57 : xs 3 = (.int .i64 (-2)) := hA.fa 3 (by rfl)
          rw [f57] at e57
          clear f57
          clear hA
          refine ⟨((Rely.wanted_at rfl (by rfl) e56).trans (by rfl)), ?_⟩
          go_simp <;> (try with_reducible rfl)
        refine Rely.Chain.det ?_ (by rfl) (fun T xs wr hA => ?_) ?_
        rotate_left 1
        · have e56 := hA.tm 2 56 (by rfl) (by rfl)
          have f56 : xs 2 = _ := hA.fa 2 (by rfl)
          (try simp (disch := first | rfl | decide) only [Rely.mask_in] at f56)
          rw [f56] at e56
          clear f56
          have e58 := hA.tm 4 58 (by rfl) (by rfl)
          have f58 : xs 4 = _ := hA.fa 4 (by rfl)
          (try simp (disch := first | rfl | decide) only [Rely.mask_in] at f58)
          rw [f58] at e58
          clear f58
          clear hA
          refine ⟨(by rfl), ?_⟩
          go_simp <;> (try with_reducible rfl)
        refine Rely.Chain.det ?_ (by rfl) (fun T xs wr hA => ?_) ?_
        rotate_left 1
        · have e59 := hA.tm 5 59 (by rfl) (by rfl)
          have f59 : xs 5 = _ := hA.fa 5 (by rfl)
          (try simp (disch := first | rfl | decide) only [Rely.mask_in] at f59)
          rw [f59] at e59
          clear f59
          clear hA
          refine ⟨(by rfl), ?_⟩
          go_simp <;> (try with_reducible rfl)
        refine Rely.Chain.grow (fun _ v _ => v = .int .i64 (-1)) (fun _ _ _ _ h _ => h) rfl (by rfl) (fun T xs wr hA => ?_) ?_
        · have e60 := hA.tm 6 60 (by rfl) (by rfl)
          have f60 : xs 6 = _ := hA.fa 6 (by rfl)
          (try simp (disch := first | rfl | decide) only [Rely.mask_in] at f60)
          rw [f60] at e60
          clear f60
          have hbw := undrew (hA.be _ (Nat.le_refl _) (fun q h => absurd h (Nat.not_lt_zero q)))
          have htq := Lib.hid (HT10.out.below hbw)
          clear hbw
          clear hA
          refine ⟨((Rely.wanted_at rfl (by rfl) e60).trans (by rfl)), fun K hK => ?_⟩
          go_simp
          refine (arity_ok 24 (-1) (by decide) rfl _ htq.out).mono ?_
          rintro e wq ⟨rfl, rfl⟩
          exact hK.out _ _ rfl (Below.refl _ _)
        refine Rely.Chain.det ?_ (by rfl) (fun T xs wr hA => ?_) ?_
        rotate_left 1
        · have e60 := hA.tm 6 60 (by rfl) (by rfl)
          have f60 : xs 6 = _ := hA.fa 6 (by rfl)
          (try simp (disch := first | rfl | decide) only [Rely.mask_in] at f60)
          rw [f60] at e60
          clear f60
          have e61 := hA.tm 7 61 (by rfl) (by rfl)
          have f61 : xs 7 = (.int .i64 (-1)) := hA.fa 7 (by rfl)
          rw [f61] at e61
          clear f61
          clear hA
          refine ⟨((Rely.wanted_at rfl (by rfl) e60).trans (by rfl)), ?_⟩
          go_simp <;> (try with_reducible rfl)
        refine Rely.Chain.det ?_ (by rfl) (fun T xs wr hA => ?_) ?_
        rotate_left 1
        · have e60 := hA.tm 6 60 (by rfl) (by rfl)
          have f60 : xs 6 = _ := hA.fa 6 (by rfl)
          (try simp (disch := first | rfl | decide) only [Rely.mask_in] at f60)
          rw [f60] at e60
          clear f60
          have e62 := hA.tm 8 62 (by rfl) (by rfl)
          have f62 : xs 8 = _ := hA.fa 8 (by rfl)
          (try simp (disch := first | rfl | decide) only [Rely.mask_in] at f62)
          rw [f62] at e62
          clear f62
          clear hA
          refine ⟨(by rfl), ?_⟩
          go_simp <;> (try with_reducible rfl)
        refine Rely.Chain.det ?_ (by rfl) (fun T xs wr hA => ?_) ?_
        rotate_left 1
        · have e63 := hA.tm 9 63 (by rfl) (by rfl)
          have f63 : xs 9 = _ := hA.fa 9 (by rfl)
          (try simp (disch := first | rfl | decide) only [Rely.mask_in] at f63)
          rw [f63] at e63
          clear f63
          clear hA
          refine ⟨(by rfl), ?_⟩
          go_simp <;> (try with_reducible rfl)
        refine Rely.Chain.det ?_ (by rfl) (fun T xs wr hA => ?_) ?_
        rotate_left 1
        · have e64 := hA.tm 10 64 (by rfl) (by rfl)
          have f64 : xs 10 = _ := hA.fa 10 (by rfl)
          (try simp (disch := first | rfl | decide) only [Rely.mask_in] at f64)
          rw [f64] at e64
          clear f64
          have e3 := hA.pre 3 (by kernel_rfl)
          simp only [List.getElem?_toArray, List.getElem?_cons_succ, List.getElem?_cons_zero] at e3
          clear hA
          refine ⟨((Rely.wanted_at rfl (by rfl) e64).trans (by rfl)), ?_⟩
          go_simp <;> (try with_reducible rfl)
        refine Rely.Chain.det ?_ (by rfl) (fun T xs wr hA => ?_) ?_
        rotate_left 1
        · have e64 := hA.tm 10 64 (by rfl) (by rfl)
          have f64 : xs 10 = _ := hA.fa 10 (by rfl)
          (try simp (disch := first | rfl | decide) only [Rely.mask_in] at f64)
          rw [f64] at e64
          clear f64
          have e65 := hA.tm 11 65 (by rfl) (by rfl)
          have f65 : xs 11 = _ := hA.fa 11 (by rfl)
          (try simp (disch := first | rfl | decide) only [Rely.mask_in] at f65)
          rw [f65] at e65
          clear f65
          have hBq : wr.heap[k3]? = _ := (hA.bl _ hlt_x (fun q h => absurd h (Nat.not_lt_zero q))).trans HB_x.out
          have q0 := cell_at (v := .int .i64 (kd : Nat)) hBq 0 rfl
          have q1 := cell_at (v := .string ynm) hBq 1 rfl
          have q2 := cell_at (v := .string yot) hBq 2 rfl
          have q3 := cell_at (v := .bool yb) hBq 3 rfl
          have q4 := cell_at (v := .slice yao yn yq) hBq 4 rfl
          have q5 := cell_at (v := .slice yko ykn ykc) hBq 5 rfl
          have q6 := cell_at (v := .int .i64 yln) hBq 6 rfl
          have q7 := cell_at (v := .int .i64 ycl) hBq 7 rfl
          clear hBq
          clear hA
          refine ⟨((Rely.wanted_at rfl (by rfl) e64).trans (by rfl)), ?_⟩
          go_simp <;> (try with_reducible rfl)
        refine Rely.Chain.grow (fun _ v _ => v = .int .i64 (ykn)) (fun _ _ _ _ h _ => h) rfl (by rfl) (fun T xs wr hA => ?_) ?_
        · have e64 := hA.tm 10 64 (by rfl) (by rfl)
          have f64 : xs 10 = _ := hA.fa 10 (by rfl)
          (try simp (disch := first | rfl | decide) only [Rely.mask_in] at f64)
          rw [f64] at e64
          clear f64
          have e66 := hA.tm 12 66 (by rfl) (by rfl)
          have f66 : xs 12 = _ := hA.fa 12 (by rfl)
          (try simp (disch := first | rfl | decide) only [Rely.mask_in] at f66)
          rw [f66] at e66
          clear f66
          have hbw := undrew (hA.be _ (Nat.le_refl _) (fun q h => absurd h (Nat.not_lt_zero q)))
          have htq := Lib.hid (HT10.out.below hbw)
          clear hbw
          clear hA
          refine ⟨((Rely.wanted_at rfl (by rfl) e64).trans (by rfl)), fun K hK => ?_⟩
          go_simp
          refine (arity_ok kd (ykn) HK29.out HAR.out _ htq.out).mono ?_
          rintro e wq ⟨rfl, rfl⟩
          exact hK.out _ _ rfl (Below.refl _ _)
        refine Rely.Chain.det ?_ (by rfl) (fun T xs wr hA => ?_) ?_
        rotate_left 1
        · have e64 := hA.tm 10 64 (by rfl) (by rfl)
          have f64 : xs 10 = _ := hA.fa 10 (by rfl)
          (try simp (disch := first | rfl | decide) only [Rely.mask_in] at f64)
          rw [f64] at e64
          clear f64
          have e3 := hA.pre 3 (by kernel_rfl)
          simp only [List.getElem?_toArray, List.getElem?_cons_succ, List.getElem?_cons_zero] at e3
          clear hA
          refine ⟨((Rely.wanted_at rfl (by rfl) e64).trans (by rfl)), ?_⟩
          go_simp <;> (try with_reducible rfl)
        refine Rely.Chain.det ?_ (by rfl) (fun T xs wr hA => ?_) ?_
        rotate_left 1
        · have e64 := hA.tm 10 64 (by rfl) (by rfl)
          have f64 : xs 10 = _ := hA.fa 10 (by rfl)
          (try simp (disch := first | rfl | decide) only [Rely.mask_in] at f64)
          rw [f64] at e64
          clear f64
          have e68 := hA.tm 14 68 (by rfl) (by rfl)
          have f68 : xs 14 = _ := hA.fa 14 (by rfl)
          (try simp (disch := first | rfl | decide) only [Rely.mask_in] at f68)
          rw [f68] at e68
          clear f68
          have hBq : wr.heap[k3]? = _ := (hA.bl _ hlt_x (fun q h => absurd h (Nat.not_lt_zero q))).trans HB_x.out
          have q0 := cell_at (v := .int .i64 (kd : Nat)) hBq 0 rfl
          have q1 := cell_at (v := .string ynm) hBq 1 rfl
          have q2 := cell_at (v := .string yot) hBq 2 rfl
          have q3 := cell_at (v := .bool yb) hBq 3 rfl
          have q4 := cell_at (v := .slice yao yn yq) hBq 4 rfl
          have q5 := cell_at (v := .slice yko ykn ykc) hBq 5 rfl
          have q6 := cell_at (v := .int .i64 yln) hBq 6 rfl
          have q7 := cell_at (v := .int .i64 ycl) hBq 7 rfl
          clear hBq
          clear hA
          refine ⟨((Rely.wanted_at rfl (by rfl) e64).trans (by rfl)), ?_⟩
          go_simp <;> (try with_reducible rfl)
        refine Rely.Chain.det ?_ (by rfl) (fun T xs wr hA => ?_) ?_
        rotate_left 1
        · have e64 := hA.tm 10 64 (by rfl) (by rfl)
          have f64 : xs 10 = _ := hA.fa 10 (by rfl)
          (try simp (disch := first | rfl | decide) only [Rely.mask_in] at f64)
          rw [f64] at e64
          clear f64
          have e69 := hA.tm 15 69 (by rfl) (by rfl)
          have f69 : xs 15 = _ := hA.fa 15 (by rfl)
          (try simp (disch := first | rfl | decide) only [Rely.mask_in] at f69)
          rw [f69] at e69
          clear f69
          clear hA
          refine ⟨((Rely.wanted_at rfl (by rfl) e64).trans (by rfl)), ?_⟩
          go_simp <;> (try with_reducible rfl)
        refine Rely.Chain.det ?_ (by rfl) (fun T xs wr hA => ?_) ?_
        rotate_left 1
        · have e64 := hA.tm 10 64 (by rfl) (by rfl)
          have f64 : xs 10 = _ := hA.fa 10 (by rfl)
          (try simp (disch := first | rfl | decide) only [Rely.mask_in] at f64)
          rw [f64] at e64
          clear f64
          have e67 := hA.tm 13 67 (by rfl) (by rfl)
          have f67 : xs 13 = (.int .i64 (ykn)) := hA.fa 13 (by rfl)
          rw [f67] at e67
          clear f67
          have e70 := hA.tm 16 70 (by rfl) (by rfl)
          have f70 : xs 16 = _ := hA.fa 16 (by rfl)
          (try simp (disch := first | rfl | decide) only [Rely.mask_in] at f70)
          rw [f70] at e70
          clear f70
          clear hA
          refine ⟨((Rely.wanted_at rfl (by rfl) e64).trans (by rfl)), ?_⟩
          go_simp <;> (try with_reducible rfl)
        refine Rely.Chain.det ?_ (by rfl) (fun T xs wr hA => ?_) ?_
        rotate_left 1
        · have e64 := hA.tm 10 64 (by rfl) (by rfl)
          have f64 : xs 10 = _ := hA.fa 10 (by rfl)
          (try simp (disch := first | rfl | decide) only [Rely.mask_in] at f64)
          rw [f64] at e64
          clear f64
          have e71 := hA.tm 17 71 (by rfl) (by rfl)
          have f71 : xs 17 = _ := hA.fa 17 (by rfl)
          (try simp (disch := first | rfl | decide) only [Rely.mask_in] at f71)
          rw [f71] at e71
          clear f71
          clear hA
          refine ⟨(by rfl), ?_⟩
          go_simp <;> (try with_reducible rfl)
        refine Rely.Chain.det ?_ (by rfl) (fun T xs wr hA => ?_) ?_
        rotate_left 1
        · have e72 := hA.tm 18 72 (by rfl) (by rfl)
          have f72 : xs 18 = _ := hA.fa 18 (by rfl)
          (try simp (disch := first | rfl | decide) only [Rely.mask_in] at f72)
          rw [f72] at e72
          clear f72
          clear hA
          refine ⟨(by rfl), ?_⟩
          go_simp <;> (try with_reducible rfl)
        refine Rely.Chain.skip (by rfl) (fun T xs wr hA => ?_) ?_
        · have e73 := hA.tm 19 73 (by rfl) (by rfl)
          have f73 : xs 19 = _ := hA.fa 19 (by rfl)
          (try simp (disch := first | rfl | decide) only [Rely.mask_in] at f73)
          rw [f73] at e73
          clear f73
          exact ((Rely.wanted_at rfl (by rfl) e73).trans (by rfl))
        refine Rely.Chain.skip (by rfl) (fun T xs wr hA => ?_) ?_
        · have e73 := hA.tm 19 73 (by rfl) (by rfl)
          have f73 : xs 19 = _ := hA.fa 19 (by rfl)
          (try simp (disch := first | rfl | decide) only [Rely.mask_in] at f73)
          rw [f73] at e73
          clear f73
          exact ((Rely.wanted_at rfl (by rfl) e73).trans (by rfl))
        refine Rely.Chain.skip (by rfl) (fun T xs wr hA => ?_) ?_
        · have e73 := hA.tm 19 73 (by rfl) (by rfl)
          have f73 : xs 19 = _ := hA.fa 19 (by rfl)
          (try simp (disch := first | rfl | decide) only [Rely.mask_in] at f73)
          rw [f73] at e73
          clear f73
          exact ((Rely.wanted_at rfl (by rfl) e73).trans (by rfl))
        refine Rely.Chain.det ?_ (by rfl) (fun T xs wr hA => ?_) ?_
        rotate_left 1
        · have e73 := hA.tm 19 73 (by rfl) (by rfl)
          have f73 : xs 19 = _ := hA.fa 19 (by rfl)
          (try simp (disch := first | rfl | decide) only [Rely.mask_in] at f73)
          rw [f73] at e73
          clear f73
          have e76 := hA.tm 22 76 (by rfl) (by rfl)
          clear hA
          refine ⟨(by rfl), ?_⟩
          go_simp <;> (try with_reducible rfl)
        refine Rely.Chain.det ?_ (by rfl) (fun T xs wr hA => ?_) ?_
        rotate_left 1
        · have e77 := hA.tm 23 77 (by rfl) (by rfl)
          have f77 : xs 23 = _ := hA.fa 23 (by rfl)
          (try simp (disch := first | rfl | decide) only [Rely.mask_in] at f77)
          rw [f77] at e77
          clear f77
          clear hA
          refine ⟨(by rfl), ?_⟩
          go_simp <;> (try with_reducible rfl)
        refine Rely.Chain.done (fun xs w11 hL => ?_)
        obtain ⟨⟨hbe, hbl, hkp0⟩, hf, hp, hn⟩ := hL
        have f0 : xs 0 = (.int .i64 (-2)) := hf 0 (by decide)
        have f1 : xs 1 = _ := hf 1 (by decide)
        (try simp (disch := first | rfl | decide) only [Rely.mask_in] at f1)
        have f2 : xs 2 = _ := hf 2 (by decide)
        (try simp (disch := first | rfl | decide) only [Rely.mask_in] at f2)
        have f3 : xs 3 = (.int .i64 (-2)) := hf 3 (by decide)
        have f4 : xs 4 = _ := hf 4 (by decide)
        (try simp (disch := first | rfl | decide) only [Rely.mask_in] at f4)
        have f5 : xs 5 = _ := hf 5 (by decide)
        (try simp (disch := first | rfl | decide) only [Rely.mask_in] at f5)
        have f6 : xs 6 = _ := hf 6 (by decide)
        (try simp (disch := first | rfl | decide) only [Rely.mask_in] at f6)
        have f7 : xs 7 = (.int .i64 (-1)) := hf 7 (by decide)
        have f8 : xs 8 = _ := hf 8 (by decide)
        (try simp (disch := first | rfl | decide) only [Rely.mask_in] at f8)
        have f9 : xs 9 = _ := hf 9 (by decide)
        (try simp (disch := first | rfl | decide) only [Rely.mask_in] at f9)
        have f10 : xs 10 = _ := hf 10 (by decide)
        (try simp (disch := first | rfl | decide) only [Rely.mask_in] at f10)
        have f11 : xs 11 = _ := hf 11 (by decide)
        (try simp (disch := first | rfl | decide) only [Rely.mask_in] at f11)
        have f12 : xs 12 = _ := hf 12 (by decide)
        (try simp (disch := first | rfl | decide) only [Rely.mask_in] at f12)
        have f13 : xs 13 = (.int .i64 (ykn)) := hf 13 (by decide)
        have f14 : xs 14 = _ := hf 14 (by decide)
        (try simp (disch := first | rfl | decide) only [Rely.mask_in] at f14)
        have f15 : xs 15 = _ := hf 15 (by decide)
        (try simp (disch := first | rfl | decide) only [Rely.mask_in] at f15)
        have f16 : xs 16 = _ := hf 16 (by decide)
        (try simp (disch := first | rfl | decide) only [Rely.mask_in] at f16)
        have f17 : xs 17 = _ := hf 17 (by decide)
        (try simp (disch := first | rfl | decide) only [Rely.mask_in] at f17)
        have f18 : xs 18 = _ := hf 18 (by decide)
        (try simp (disch := first | rfl | decide) only [Rely.mask_in] at f18)
        have f19 : xs 19 = _ := hf 19 (by decide)
        (try simp (disch := first | rfl | decide) only [Rely.mask_in] at f19)
        have f20 : xs 20 = undef := hf 20 (by decide)
        have f21 : xs 21 = undef := hf 21 (by decide)
        have f22 : xs 22 = undef := hf 22 (by decide)
        have f23 : xs 23 = _ := hf 23 (by decide)
        (try simp (disch := first | rfl | decide) only [Rely.mask_in] at f23)
        have f24 : xs 24 = _ := hf 24 (by decide)
        (try simp (disch := first | rfl | decide) only [Rely.mask_in] at f24)
        have hbx : Below wr.heap.size wr w11 := undrew (hbe _ (Nat.le_refl _) (fun q h => absurd h (Nat.not_lt_zero q)))
        clear hbe hbl hkp0 hf hp hn
        replace HB_x := Lib.hid ((hbx.block _ hlt_x).trans HB_x.out)
        clear hlt_x
        refine Rely.rest_done ?_
        simp only [Rely.fill, List.setIfInBounds_toArray, List.set_cons_zero, List.set_cons_succ, f0, f1, f2, f3, f4, f5, f6, f7, f8, f9, f10, f11, f12, f13, f14, f15, f16, f17, f18, f19, f20, f21, f22, f23, f24]
        clear f0 f1 f2 f3 f4 f5 f6 f7 f8 f9 f10 f11 f12 f13 f14 f15 f16 f17 f18 f19 f20 f21 f22 f23 f24
        have HBX := Lib.hid (hbx.mono (Nat.le_refl _))
        clear hbx
        go_wp2_with fail
        go_ret
        exact ⟨rfl, HB10.out.trans (HBX.out.mono HB10.out.size)⟩
end Go.Proofs.YtcdacmbcecjliaaDoor
