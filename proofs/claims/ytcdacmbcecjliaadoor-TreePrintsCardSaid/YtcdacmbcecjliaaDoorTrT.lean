/-
  The contracts of expr, of any right tree; of valid and Text.
-/
import Derived.Test.YtcdacmbcecjliaaDoorTrZ
namespace Go.Proofs.YtcdacmbcecjliaaDoor
open Go.RowKit
set_option linter.unusedVariables false
set_option maxRecDepth 100000

theorem bare_any (w0 : World) (d : Nat) (E : Hid (ExprAt w0 d)) (b : Nat) (l : Bs) (k : Nat) (nm ot : Bs) (z : Nat) (ks : List T) (x : X) (S : Nat → Prop) (w : World) (ht : Tabs w0) (h : Tr w0 S (d + 1) x (.node k nm ot z ks)) (ho : Ok (d + 1) (.node k nm ot z ks))
    (hbw : Below w0.heap.size w0 w) (hwr : Wr w0.heap.size b l w) (hlen : l.length + LL (d + 1) ≤ 1000000) :
    Calls Tryd.prog 37 #[.pointer (some ⟨b, 0, none⟩), xv x] w (WrPost w0.heap.size b (l ++ tx (.node k nm ot z ks)) w) := by
  have hk := ho.1
  by_cases h10 : 10 ≤ k
  · by_cases h24 : k < 24
    · exact bare_bin w0 d E b l k nm ot z ks x S w ht h10 h24 h ho hbw hwr hlen
    · obtain h0 | h0 | h0 | h0 | h0 : k = 24 ∨ k = 25 ∨ k = 26 ∨ k = 27 ∨ k = 28 := by omega
      · exact bare_call w0 d E b l k nm ot z ks x S w ht h0 h ho hbw hwr hlen
      · exact bare_p25 w0 d E b l k nm ot z ks x S w ht h0 h ho hbw hwr hlen
      · exact bare_p26 w0 d E b l k nm ot z ks x S w ht h0 h ho hbw hwr hlen
      · exact bare_p27 w0 d E b l k nm ot z ks x S w ht h0 h ho hbw hwr hlen
      · exact bare_p28 w0 d E b l k nm ot z ks x S w ht h0 h ho hbw hwr hlen
  · obtain h0 | h0 | h0 | h0 | h0 | h0 | h0 | h0 | h0 | h0 : k = 0 ∨ k = 1 ∨ k = 2 ∨ k = 3 ∨ k = 4 ∨ k = 5 ∨ k = 6 ∨ k = 7 ∨ k = 8 ∨ k = 9 := by omega
    · exact bare_num w0 d E b l k nm ot z ks x S w ht h0 h ho hbw hwr hlen
    · exact bare_c1 w0 d E b l k nm ot z ks x S w ht h0 h ho hbw hwr hlen
    · exact bare_c2 w0 d E b l k nm ot z ks x S w ht h0 h ho hbw hwr hlen
    · exact bare_var w0 d E b l k nm ot z ks x S w ht h0 h ho hbw hwr hlen
    · exact bare_c4 w0 d E b l k nm ot z ks x S w ht h0 h ho hbw hwr hlen
    · exact bare_u5 w0 d E b l k nm ot z ks x S w ht h0 h ho hbw hwr hlen
    · exact bare_u6 w0 d E b l k nm ot z ks x S w ht h0 h ho hbw hwr hlen
    · exact bare_u7 w0 d E b l k nm ot z ks x S w ht h0 h ho hbw hwr hlen
    · exact bare_u8 w0 d E b l k nm ot z ks x S w ht h0 h ho hbw hwr hlen
    · exact bare_u9 w0 d E b l k nm ot z ks x S w ht h0 h ho hbw hwr hlen

set_option maxHeartbeats 8000000 in
theorem expr_step (w0 : World) (d : Nat) (E : Hid (ExprAt w0 d)) (ht : Tabs w0) (b : Nat) (l : Bs) (lev k : Nat) (nm ot : Bs) (z : Nat) (ks : List T) (x : X) (S : Nat → Prop) (w : World) (h : Tr w0 S (d + 1) x (.node k nm ot z ks)) (ho : Ok (d + 1) (.node k nm ot z ks)) (hlev : lev ≤ 8)
    (hbw : Below w0.heap.size w0 w) (hwr : Wr w0.heap.size b l w) (hlen : l.length + LL (d + 1) + 1 ≤ 1000000) :
    Calls Tryd.prog 30 #[.pointer (some ⟨b, 0, none⟩), xv x, .int .i64 (lev : Nat)] w (WrPost w0.heap.size b (l ++ ex lev (.node k nm ot z ks)) w) := by
  have hk := ho.1
  obtain ⟨xk, xnm, xot, xb, xao, xn, xq, xko, xkn, xkc, xln, xcl⟩ := x
  have e1 := h.1.1
  simp only at e1
  subst e1
  have hlt := (len_all _ _ ho).1
  have hlv0 := ht.lv k hk
  have BARE := fun b l w hbw hwr hlen => bare_any w0 d E b l k nm ot z ks _ S w ht h ho hbw hwr hlen
  have HBARE := Lib.hid BARE
  have HBW := Lib.hid hbw
  have HWR := Lib.hid hwr
  have hsB := hbw.size
  obtain ⟨k3, hk3⟩ : ∃ k3, k3 = w.heap.size := ⟨_, rfl⟩
  obtain ⟨w9, hw9⟩ : ∃ w9, w9 = w.alloc (.cells #[.int .i64 (k : Nat), .string xnm, .string xot, .bool xb, .slice xao xn xq, .slice xko xkn xkc, .int .i64 xln, .int .i64 xcl] 29) := ⟨_, rfl⟩
  have hba : Below w.heap.size w w9 := by rw [hw9]; exact (Below.refl _ _).alloc (Nat.le_refl _) _
  have hx9 : w9.heap[k3]? = some (.cells #[.int .i64 (k : Nat), .string xnm, .string xot, .bool xb, .slice xao xn xq, .slice xko xkn xkc, .int .i64 xln, .int .i64 xcl] 29 (0, 0)) := by rw [hw9, hk3]; exact made_at w _ _ rfl
  have HB_x := Lib.hid hx9
  have HW9 := Lib.hid (HWR.out.below hba)
  have HB9 := Lib.hid (hba.mono hsB)
  have HF9 := Lib.hid (fr_below hba)
  have hs9 := hba.size
  have hlv9 : w9.cell? ⟨1, k, none⟩ = some (.int .i64 (lv k : Nat)) := by rw [(hbw.trans (hba.mono hsB)).cell (cell_lt hlv0)]; exact hlv0
  have x0 := cell_at (v := .int .i64 (k : Nat)) hx9 0 rfl
  have x1 := cell_at (v := .string xnm) hx9 1 rfl
  have x2 := cell_at (v := .string xot) hx9 2 rfl
  have x3 := cell_at (v := .bool xb) hx9 3 rfl
  have x4 := cell_at (v := .slice xao xn xq) hx9 4 rfl
  have x5 := cell_at (v := .slice xko xkn xkc) hx9 5 rfl
  have x6 := cell_at (v := .int .i64 xln) hx9 6 rfl
  have x7 := cell_at (v := .int .i64 xcl) hx9 7 rfl
  clear BARE hba hx9 hlv0 h ho hbw hwr
  by_cases hle : lev ≤ lv k
  · have HEX : Hid (ex lev (.node k nm ot z ks) = tx (.node k nm ot z ks)) := Lib.hid (by unfold ex br T.k; simp only []; rw [if_pos hle])
    simp only [xv]
    go_enter Tryd.func30, Tryd.ntmps30
    go_upto_region 1 with fail
    rw [← hw9, ← hk3]
    clear hw9 hk3
    go_wp2_with fail
    refine (HBARE.out b l w9 (HBW.out.trans HB9.out) HW9.out (by omega)).mono ?_
    rintro e w11 ⟨⟨v, rfl⟩, hw5, hb5, hfr5⟩
    have H11 := Lib.hid hw5
    have HB11 := Lib.hid (HB9.out.trans hb5)
    have HF11 := Lib.hid (HF9.out.trans hfr5)
    clear hw5 hb5 hfr5
    go_wp2_with fail
    go_end0
    exact ⟨⟨_, rfl⟩, (by rw [HEX.out]; exact H11.out), HB11.out, HF11.out⟩
  · have HEX : Hid (ex lev (.node k nm ot z ks) = [40] ++ tx (.node k nm ot z ks) ++ [41]) := Lib.hid (by unfold ex br T.k; simp only []; rw [if_neg hle])
    have hle2 : lv k < lev := by omega
    have hle3 : decide (lev ≤ lv k) = false := by rw [decide_eq_false_iff_not]; omega
    simp only [xv]
    go_enter Tryd.func30, Tryd.ntmps30
    go_upto_region 1 with fail
    rw [← hw9, ← hk3]
    clear hw9 hk3
    go_wp2_with fail
    refine (wr_byte w0.heap.size b l 40 _ rfl w9 HW9.out (by omega) (by omega)).mono ?_
    rintro e w10 ⟨⟨v0, rfl⟩, hw4, hb4, hfr4⟩
    have hs10 := hb4.size
    have hx10 := hfr4 k3 _ _ _ HB_x.out (by decide) (by decide)
    have H10 := Lib.hid hw4
    have HB10 := Lib.hid (HB9.out.trans hb4)
    have HF10 := Lib.hid (HF9.out.trans hfr4)
    replace x0 := cell_at (v := .int .i64 (k : Nat)) hx10 0 rfl
    replace x1 := cell_at (v := .string xnm) hx10 1 rfl
    replace x2 := cell_at (v := .string xot) hx10 2 rfl
    replace x3 := cell_at (v := .bool xb) hx10 3 rfl
    replace x4 := cell_at (v := .slice xao xn xq) hx10 4 rfl
    replace x5 := cell_at (v := .slice xko xkn xkc) hx10 5 rfl
    replace x6 := cell_at (v := .int .i64 xln) hx10 6 rfl
    replace x7 := cell_at (v := .int .i64 xcl) hx10 7 rfl
    clear hw4 hb4 hfr4 hx10 hlv9
    go_wp2_with fail
    refine (HBARE.out b (l ++ [40]) w10 (HBW.out.trans HB10.out) H10.out (by simp only [List.length_append, List.length_cons, List.length_nil]; omega)).mono ?_
    rintro e w11 ⟨⟨v, rfl⟩, hw5, hb5, hfr5⟩
    have hs11 := hb5.size
    have H11 := Lib.hid hw5
    have HB11 := Lib.hid (HB10.out.trans hb5)
    have HF11 := Lib.hid (HF10.out.trans hfr5)
    clear hw5 hb5 hfr5
    go_wp2_with fail
    refine (wr_byte w0.heap.size b _ 41 _ rfl w11 H11.out (by simp only [List.length_append, List.length_cons, List.length_nil]; omega) (by omega)).mono ?_
    rintro e w12 ⟨⟨v2, rfl⟩, hw6, hb6, hfr6⟩
    have H12 := Lib.hid hw6
    have HB12 := Lib.hid (HB11.out.trans hb6)
    have HF12 := Lib.hid (HF11.out.trans hfr6)
    clear hw6 hb6 hfr6
    go_wp2_with fail
    go_end0
    refine ⟨⟨_, rfl⟩, ?_, HB12.out, HF12.out⟩
    have := H12.out
    rw [HEX.out]
    simp only [List.append_assoc] at this ⊢
    exact this

theorem expr_all (w0 : World) (ht : Tabs w0) : ∀ d, ExprAt w0 d
  | 0 => fun _ _ _ _ _ _ _ h => absurd h id
  | d + 1 => fun b l lev x t S w h ho hlev hbw hwr hlen => by
    obtain ⟨k, nm, ot, z, ks⟩ := t
    exact expr_step w0 d (Lib.hid (expr_all w0 ht d)) ht b l lev k nm ot z ks x S w h ho hlev hbw hwr hlen

set_option maxHeartbeats 8000000 in
theorem valid_any (w0 : World) (ht : Tabs w0) (d : Nat) (hd : d ≤ 6) (b : Nat) (l : Bs) (x : X) (t : T) (S : Nat → Prop) (w : World) (h : Tr w0 S d x t) (ho : Ok d t) (hbw : Below w0.heap.size w0 w) (hwr : Wr w0.heap.size b l w) (hlen : l.length + LL d + 1 ≤ 1000000) :
    Calls Tryd.prog 23 #[.pointer (some ⟨b, 0, none⟩), xv x] w (WrPost w0.heap.size b (l ++ tx t) w) := by
  have HEX : Hid (ex 0 t = tx t) := Lib.hid (by unfold ex br; rw [if_pos (Nat.zero_le _)])
  have EX := fun l w hbw hwr hlen => expr_all w0 ht d b l 0 x t S w h ho (by decide) hbw hwr hlen
  have HEXP := Lib.hid EX
  have HRT := Lib.hid (fun w hbw => right_any d hd x t w S (ht.below hbw) (h.below hbw) ho)
  have HBW := Lib.hid hbw
  have HWR := Lib.hid hwr
  have hsB := hbw.size
  obtain ⟨xk, xnm, xot, xb, xao, xn, xq, xko, xkn, xkc, xln, xcl⟩ := x
  obtain ⟨k3, hk3⟩ : ∃ k3, k3 = w.heap.size := ⟨_, rfl⟩
  obtain ⟨w9, hw9⟩ : ∃ w9, w9 = w.alloc (.cells #[.int .i64 xk, .string xnm, .string xot, .bool xb, .slice xao xn xq, .slice xko xkn xkc, .int .i64 xln, .int .i64 xcl] 29) := ⟨_, rfl⟩
  have hba : Below w.heap.size w w9 := by rw [hw9]; exact (Below.refl _ _).alloc (Nat.le_refl _) _
  have hx9 : w9.heap[k3]? = some (.cells #[.int .i64 xk, .string xnm, .string xot, .bool xb, .slice xao xn xq, .slice xko xkn xkc, .int .i64 xln, .int .i64 xcl] 29 (0, 0)) := by rw [hw9, hk3]; exact made_at w _ _ rfl
  have HB_x := Lib.hid hx9
  have HW9 := Lib.hid (HWR.out.below hba)
  have HB9 := Lib.hid (hba.mono hsB)
  have HF9 := Lib.hid (fr_below hba)
  have hs9 := hba.size
  have x0 := cell_at (v := .int .i64 xk) hx9 0 rfl
  have x1 := cell_at (v := .string xnm) hx9 1 rfl
  have x2 := cell_at (v := .string xot) hx9 2 rfl
  have x3 := cell_at (v := .bool xb) hx9 3 rfl
  have x4 := cell_at (v := .slice xao xn xq) hx9 4 rfl
  have x5 := cell_at (v := .slice xko xkn xkc) hx9 5 rfl
  have x6 := cell_at (v := .int .i64 xln) hx9 6 rfl
  have x7 := cell_at (v := .int .i64 xcl) hx9 7 rfl
  clear EX hba hx9 h ho hbw hwr ht
  simp only [xv]
  go_enter Tryd.func23, Tryd.ntmps23
  go_upto_region 1 with fail
  rw [← hw9, ← hk3]
  clear hw9 hk3
  go_wp2_with fail
  refine (HRT.out w9 (HBW.out.trans HB9.out)).mono ?_
  rintro e w10 ⟨rfl, hb4⟩
  have hs10 := hb4.size
  have hx10 := (hb4.block k3 (lt_of_block HB_x.out)).trans HB_x.out
  have H10 := Lib.hid (HW9.out.below hb4)
  have HB10 := Lib.hid (HB9.out.trans (hb4.mono (by omega)))
  have HF10 := Lib.hid (HF9.out.trans (fr_below hb4))
  replace x0 := cell_at (v := .int .i64 xk) hx10 0 rfl
  replace x1 := cell_at (v := .string xnm) hx10 1 rfl
  replace x2 := cell_at (v := .string xot) hx10 2 rfl
  replace x3 := cell_at (v := .bool xb) hx10 3 rfl
  replace x4 := cell_at (v := .slice xao xn xq) hx10 4 rfl
  replace x5 := cell_at (v := .slice xko xkn xkc) hx10 5 rfl
  replace x6 := cell_at (v := .int .i64 xln) hx10 6 rfl
  replace x7 := cell_at (v := .int .i64 xcl) hx10 7 rfl
  clear hb4 hx10
  go_wp2_with fail
  refine (HEXP.out l w10 (HBW.out.trans HB10.out) H10.out hlen).mono ?_
  rintro e w11 ⟨⟨v, rfl⟩, hw5, hb5, hfr5⟩
  have H11 := Lib.hid hw5
  have HB11 := Lib.hid (HB10.out.trans hb5)
  have HF11 := Lib.hid (HF10.out.trans hfr5)
  clear hw5 hb5 hfr5
  go_wp2_with fail
  go_end0
  exact ⟨⟨_, rfl⟩, (by rw [← HEX.out]; exact H11.out), HB11.out, HF11.out⟩

set_option maxHeartbeats 8000000 in
theorem text_any5 (d : Nat) (hd : d ≤ 6) (x : X) (t : T) (S : Nat → Prop) (w : World) (ht : Tabs w) (h : Tr w S d x t) (ho : Ok d t) :
    Calls Tryd.prog 14 #[xv x] w fun e w' => e = .returned (.string ⟨(tx t).toArray⟩) ∧ Below w.heap.size w w' := by
  have hll : LL d ≤ 491520 := LL_mono (b := 6) hd
  have HV := Lib.hid (fun b w' hbw hwr => valid_any w ht d hd b [] x t S w' h ho hbw hwr (by simp only [List.length_nil]; omega))
  have HNE := Lib.hid (tx_ne ho)
  obtain ⟨xk, xnm, xot, xb, xao, xn, xq, xko, xkn, xkc, xln, xcl⟩ := x
  obtain ⟨w9, hw9⟩ : ∃ w9, w9 = w.alloc (.cells #[.int .i64 xk, .string xnm, .string xot, .bool xb, .slice xao xn xq, .slice xko xkn xkc, .int .i64 xln, .int .i64 xcl] 29) := ⟨_, rfl⟩
  obtain ⟨wA, hwA⟩ : ∃ wA, wA = w9.alloc (.cells #[.pointer none, .slice none 0 0] 64) := ⟨_, rfl⟩
  obtain ⟨k3, hk3⟩ : ∃ k3, k3 = w.heap.size := ⟨_, rfl⟩
  obtain ⟨k4, hk4⟩ : ∃ k4, k4 = w.heap.size + 1 := ⟨_, rfl⟩
  have hba : Below w.heap.size w w9 := by rw [hw9]; exact (Below.refl _ _).alloc (Nat.le_refl _) _
  have hs9 : w9.heap.size = w.heap.size + 1 := by rw [hw9]; simp
  have hbA : Below w.heap.size w wA := by rw [hwA]; exact hba.alloc (by omega) _
  have hx9 : wA.heap[k3]? = some (.cells #[.int .i64 xk, .string xnm, .string xot, .bool xb, .slice xao xn xq, .slice xko xkn xkc, .int .i64 xln, .int .i64 xcl] 29 (0, 0)) := by rw [hwA, hw9, hk3]; exact made_more (made_at w _ _ rfl) _
  have HWr : Hid (Wr w.heap.size k4 [] wA) := Lib.hid (by
    have := Wr.fresh w9
    rw [← hwA] at this
    rw [hk4, ← hs9]; exact this.lower (by omega))
  have HBA := Lib.hid hbA
  have x0 := cell_at (v := .int .i64 xk) hx9 0 rfl
  have x1 := cell_at (v := .string xnm) hx9 1 rfl
  have x2 := cell_at (v := .string xot) hx9 2 rfl
  have x3 := cell_at (v := .bool xb) hx9 3 rfl
  have x4 := cell_at (v := .slice xao xn xq) hx9 4 rfl
  have x5 := cell_at (v := .slice xko xkn xkc) hx9 5 rfl
  have x6 := cell_at (v := .int .i64 xln) hx9 6 rfl
  have x7 := cell_at (v := .int .i64 xcl) hx9 7 rfl
  clear hba hs9 hbA hx9 h ho ht
  subst hw9
  simp only [xv]
  go_enter Tryd.func14, Tryd.ntmps14
  go_upto_region 2 with fail
  rw [← hwA, ← hk4, ← hk3]
  clear hwA hk3 hk4
  go_wp2_with fail
  refine (HV.out k4 wA HBA.out HWr.out).mono ?_
  rintro e w11 ⟨⟨v, rfl⟩, hw5, hb5, hfr5⟩
  rw [List.nil_append] at hw5
  have H11 := Lib.hid hw5
  have HB11 := Lib.hid (HBA.out.trans hb5)
  clear hw5 hb5 hfr5 x0 x1 x2 x3 x4 x5 x6 x7
  go_wp2_with fail
  refine (wr_string w.heap.size k4 (tx t) w11 H11.out (by intro e; have := HNE.out; rw [e] at this; simp at this)).mono ?_
  rintro e w12 ⟨rfl, hb6⟩
  have HB12 := Lib.hid (HB11.out.trans hb6)
  clear hb6
  go_wp2_with fail
  go_ret
  exact ⟨rfl, HB12.out⟩
end Go.Proofs.YtcdacmbcecjliaaDoor
