/-
  The contract of the laws' helper Tame.
-/
import Derived.Test.YtcdacmbcecjliaaDoorTrH
import Derived.Test.YtcdacmbcecjliaaDoorTrR
import Derived.Deep.DeepCutAuto
import Derived.Deep.RegionHeld3
import Derived.Deep.AppendLies
import Derived.OwnWalk
import Derived.IntWalk
namespace Go.Proofs.YtcdacmbcecjliaaDoor
open Go.RowKit
set_option maxRecDepth 100000

theorem below_grown0 {w w' : World} (h : Below w.heap.size w w') (row : Option Nat) : w.grownBy w' row := ⟨h.os, h.tape, h.output, h.size, fun k hk _ => h.block k hk⟩
/-- The zero expression, as a kid that is not there. -/
def zX : X := ⟨0, ⟨#[]⟩, ⟨#[]⟩, false, none, 0, 0, none, 0, 0, 0, 0⟩
theorem raw_zero (w : World) (d : Nat) : Raw w d zX := by
  cases d with
  | zero => trivial
  | succ d => exact ⟨by decide, by decide, by decide, by decide, by decide, ⟨[], Sl.nil _ _, Dig.nil _⟩, by decide, fun i hi => absurd hi (Nat.not_lt_zero i)⟩

set_option maxHeartbeats 8000000 in
theorem tame_any (d : Nat) (hd : d + 1 ≤ 6) (x : X) (w : World) (h : Raw w (d + 1) x) (IH : Hid (∀ y w, 1 ≤ d → Raw w d y → Calls Tryd.prog 7 #[xv y, .int .i64 (d : Nat)] w (TamePost d w))) :
    Calls Tryd.prog 7 #[xv x, .int .i64 ((d + 1 : Nat) : Int)] w (TamePost (d + 1) w) := by
  obtain ⟨xk, xnm, xot, xb, xao, xn, xq, xko, xkn, xkc, xln, xcl⟩ := x
  obtain ⟨⟨a1, a2⟩, ⟨a3, a4⟩, ⟨a5, a6⟩, hs1, hs2, ⟨ys, hsl, hdg⟩, hkn, hkids⟩ := h
  simp only at a1 a2 a3 a4 a5 a6 hs1 hs2 hsl hkn hkids
  have HKIDS := Lib.hid hkids
  have HSL := Lib.hid hsl
  have HDG := Lib.hid hdg
  clear hkids hsl hdg
  simp only [xv]
  have tm1 := Int.tmod_lt_of_pos xk (b := 29) (by decide)
  have tm2 := Int.lt_tmod_of_pos xk (b := 29) (by decide)
  have wr1 : IntKind.i64.wrap (xk.tmod 29 + 29) = xk.tmod 29 + 29 := IntWalk.i64_in _ (by omega)
  go_enter Tryd.func7, Tryd.ntmps7
  go_wp2_with fail
  obtain ⟨w1, hw1⟩ : ∃ w1, w1 = (w.alloc (.cells #[.int .i64 xk, .string xnm, .string xot, .bool xb, .slice xao xn xq, .slice xko xkn xkc, .int .i64 xln, .int .i64 xcl] 29)).alloc (.cells #[.int .i64 0, .string ⟨#[]⟩, .string ⟨#[]⟩, .bool false, .slice none 0 0, .slice none 0 0, .int .i64 0, .int .i64 0] 29) := ⟨_, rfl⟩
  have HB_x : Hid (w1.heap[w.heap.size]? = some (.cells #[.int .i64 xk, .string xnm, .string xot, .bool xb, .slice xao xn xq, .slice xko xkn xkc, .int .i64 xln, .int .i64 xcl] 29 (0, 0))) := Lib.hid (by rw [hw1]; exact made_more (made_at w _ _ rfl) _)
  have HB_r : Hid (w1.heap[w.heap.size + 1]? = some (.cells #[.int .i64 0, .string ⟨#[]⟩, .string ⟨#[]⟩, .bool false, .slice none 0 0, .slice none 0 0, .int .i64 0, .int .i64 0] 29 (0, 0))) := Lib.hid (by rw [hw1]; exact made_at _ _ _ (by simp))
  have hbt : Below w.heap.size w w1 := by rw [hw1]; exact ((Below.refl _ _).alloc (Nat.le_refl _) _).alloc (by simp) _
  have hsz1 : w1.heap.size = w.heap.size + 2 := by rw [hw1]; simp
  rw [← hw1]
  clear hw1
  have hlt_x := lt_of_block HB_x.out
  have hlt_r := lt_of_block HB_r.out
  refine Rely.region (by kernel_rfl) [[], [0], [0, 1], [0, 1, 2], [0, 1, 2, 3], [], [5], [5, 6], [], [8], [5, 6, 7, 8, 9], [], [11], [], [13], [0, 1, 2, 3, 4, 5, 6, 7, 8, 9, 10, 11, 12, 13, 14], [], [0, 1, 2, 3, 4, 5, 6, 7, 8, 9, 10, 11, 12, 13, 14, 15, 16]] [16] [] (fun _ => 0) 0 17 (by kernel_rfl) (by kernel_rfl) (fun q h => absurd h (Nat.not_lt_zero q)) (fun q _ h => absurd h (Nat.not_lt_zero q)) ?_
  refine Rely.Chain.det ?_ (by rfl) (fun T xs wr hA => ?_) ?_
  rotate_left 1
  · have e2 := hA.pre 2 (by kernel_rfl)
    simp only [List.getElem?_toArray, List.getElem?_cons_succ, List.getElem?_cons_zero] at e2
    clear hA
    refine ⟨(by rfl), ?_⟩
    go_simp <;> (try with_reducible rfl)
  refine Rely.Chain.det ?_ (by rfl) (fun T xs wr hA => ?_) ?_
  rotate_left 1
  · have e10 := hA.tm 0 10 (by rfl) (by rfl)
    have f10 : xs 0 = _ := hA.fa 0 (by rfl)
    (try simp (disch := first | rfl | decide) only [Rely.mask_in] at f10)
    rw [f10] at e10
    clear f10
    have hBq : wr.heap[w.heap.size]? = _ := (hA.bl _ hlt_x (fun q h => absurd h (Nat.not_lt_zero q))).trans HB_x.out
    have q0 := cell_at (v := .int .i64 xk) hBq 0 rfl
    have q1 := cell_at (v := .string xnm) hBq 1 rfl
    have q2 := cell_at (v := .string xot) hBq 2 rfl
    have q3 := cell_at (v := .bool xb) hBq 3 rfl
    have q4 := cell_at (v := .slice xao xn xq) hBq 4 rfl
    have q5 := cell_at (v := .slice xko xkn xkc) hBq 5 rfl
    have q6 := cell_at (v := .int .i64 xln) hBq 6 rfl
    have q7 := cell_at (v := .int .i64 xcl) hBq 7 rfl
    clear hBq
    clear hA
    refine ⟨(by rfl), ?_⟩
    go_simp <;> (try with_reducible rfl)
  refine Rely.Chain.det ?_ (by rfl) (fun T xs wr hA => ?_) ?_
  rotate_left 1
  · have e11 := hA.tm 1 11 (by rfl) (by rfl)
    have f11 : xs 1 = _ := hA.fa 1 (by rfl)
    (try simp (disch := first | rfl | decide) only [Rely.mask_in] at f11)
    rw [f11] at e11
    clear f11
    clear hA
    refine ⟨(by rfl), ?_⟩
    go_simp <;> (try with_reducible rfl)
  refine Rely.Chain.det ?_ (by rfl) (fun T xs wr hA => ?_) ?_
  rotate_left 1
  · have e12 := hA.tm 2 12 (by rfl) (by rfl)
    have f12 : xs 2 = _ := hA.fa 2 (by rfl)
    (try simp (disch := first | rfl | decide) only [Rely.mask_in] at f12)
    rw [f12] at e12
    clear f12
    clear hA
    refine ⟨(by rfl), ?_⟩
    go_simp <;> (try with_reducible rfl)
  refine Rely.Chain.det ?_ (by rfl) (fun T xs wr hA => ?_) ?_
  rotate_left 1
  · have e13 := hA.tm 3 13 (by rfl) (by rfl)
    have f13 : xs 3 = _ := hA.fa 3 (by rfl)
    (try simp (disch := first | rfl | decide) only [Rely.mask_in] at f13)
    rw [f13] at e13
    clear f13
    clear hA
    refine ⟨(by rfl), ?_⟩
    go_simp <;> (try with_reducible rfl)
  refine Rely.Chain.det ?_ (by rfl) (fun T xs wr hA => ?_) ?_
  rotate_left 1
  · have e2 := hA.pre 2 (by kernel_rfl)
    simp only [List.getElem?_toArray, List.getElem?_cons_succ, List.getElem?_cons_zero] at e2
    clear hA
    refine ⟨(by rfl), ?_⟩
    go_simp <;> (try with_reducible rfl)
  refine Rely.Chain.det ?_ (by rfl) (fun T xs wr hA => ?_) ?_
  rotate_left 1
  · have e15 := hA.tm 5 15 (by rfl) (by rfl)
    have f15 : xs 5 = _ := hA.fa 5 (by rfl)
    (try simp (disch := first | rfl | decide) only [Rely.mask_in] at f15)
    rw [f15] at e15
    clear f15
    have hBq : wr.heap[w.heap.size]? = _ := (hA.bl _ hlt_x (fun q h => absurd h (Nat.not_lt_zero q))).trans HB_x.out
    have q0 := cell_at (v := .int .i64 xk) hBq 0 rfl
    have q1 := cell_at (v := .string xnm) hBq 1 rfl
    have q2 := cell_at (v := .string xot) hBq 2 rfl
    have q3 := cell_at (v := .bool xb) hBq 3 rfl
    have q4 := cell_at (v := .slice xao xn xq) hBq 4 rfl
    have q5 := cell_at (v := .slice xko xkn xkc) hBq 5 rfl
    have q6 := cell_at (v := .int .i64 xln) hBq 6 rfl
    have q7 := cell_at (v := .int .i64 xcl) hBq 7 rfl
    clear hBq
    clear hA
    refine ⟨(by rfl), ?_⟩
    go_simp <;> (try with_reducible rfl)
  refine Rely.Chain.grow (fun xs v w => ∃ l : Bs, (1 ≤ l.length ∧ l.length ≤ 2) ∧ v = .string ⟨l.toArray⟩) (fun _ _ _ _ h _ => h) rfl (by rfl) (fun T xs wr hA => ?_) ?_
  · have e16 := hA.tm 6 16 (by rfl) (by rfl)
    have f16 : xs 6 = _ := hA.fa 6 (by rfl)
    (try simp (disch := first | rfl | decide) only [Rely.mask_in] at f16)
    rw [f16] at e16
    clear f16
    have hbw := undrew (hA.be _ (Nat.le_refl _) (fun q h => absurd h (Nat.not_lt_zero q)))
    clear hA
    refine ⟨(by rfl), fun K hK => ?_⟩
    go_simp
    refine (word_any _ _ hs1).mono ?_
    rintro e wq ⟨l, hl, rfl, hb⟩
    exact hK.out _ _ ⟨l, hl, rfl⟩ hb
  refine Rely.Chain.det ?_ (by rfl) (fun T xs wr hA => ?_) ?_
  rotate_left 1
  · have e2 := hA.pre 2 (by kernel_rfl)
    simp only [List.getElem?_toArray, List.getElem?_cons_succ, List.getElem?_cons_zero] at e2
    clear hA
    refine ⟨(by rfl), ?_⟩
    go_simp <;> (try with_reducible rfl)
  refine Rely.Chain.det ?_ (by rfl) (fun T xs wr hA => ?_) ?_
  rotate_left 1
  · have e18 := hA.tm 8 18 (by rfl) (by rfl)
    have f18 : xs 8 = _ := hA.fa 8 (by rfl)
    (try simp (disch := first | rfl | decide) only [Rely.mask_in] at f18)
    rw [f18] at e18
    clear f18
    have hBq : wr.heap[w.heap.size]? = _ := (hA.bl _ hlt_x (fun q h => absurd h (Nat.not_lt_zero q))).trans HB_x.out
    have q0 := cell_at (v := .int .i64 xk) hBq 0 rfl
    have q1 := cell_at (v := .string xnm) hBq 1 rfl
    have q2 := cell_at (v := .string xot) hBq 2 rfl
    have q3 := cell_at (v := .bool xb) hBq 3 rfl
    have q4 := cell_at (v := .slice xao xn xq) hBq 4 rfl
    have q5 := cell_at (v := .slice xko xkn xkc) hBq 5 rfl
    have q6 := cell_at (v := .int .i64 xln) hBq 6 rfl
    have q7 := cell_at (v := .int .i64 xcl) hBq 7 rfl
    clear hBq
    clear hA
    refine ⟨(by rfl), ?_⟩
    go_simp <;> (try with_reducible rfl)
  refine Rely.Chain.grow (fun xs v w => ∃ l : Bs, (1 ≤ l.length ∧ l.length ≤ 2) ∧ v = .string ⟨l.toArray⟩) (fun _ _ _ _ h _ => h) rfl (by rfl) (fun T xs wr hA => ?_) ?_
  · have e19 := hA.tm 9 19 (by rfl) (by rfl)
    have f19 : xs 9 = _ := hA.fa 9 (by rfl)
    (try simp (disch := first | rfl | decide) only [Rely.mask_in] at f19)
    rw [f19] at e19
    clear f19
    have hbw := undrew (hA.be _ (Nat.le_refl _) (fun q h => absurd h (Nat.not_lt_zero q)))
    clear hA
    refine ⟨(by rfl), fun K hK => ?_⟩
    go_simp
    refine (word_any _ _ hs2).mono ?_
    rintro e wq ⟨l, hl, rfl, hb⟩
    exact hK.out _ _ ⟨l, hl, rfl⟩ hb
  refine Rely.Chain.det ?_ (by rfl) (fun T xs wr hA => ?_) ?_
  rotate_left 1
  · have e2 := hA.pre 2 (by kernel_rfl)
    simp only [List.getElem?_toArray, List.getElem?_cons_succ, List.getElem?_cons_zero] at e2
    clear hA
    refine ⟨(by rfl), ?_⟩
    go_simp <;> (try with_reducible rfl)
  refine Rely.Chain.det ?_ (by rfl) (fun T xs wr hA => ?_) ?_
  rotate_left 1
  · have e21 := hA.tm 11 21 (by rfl) (by rfl)
    have f21 : xs 11 = _ := hA.fa 11 (by rfl)
    (try simp (disch := first | rfl | decide) only [Rely.mask_in] at f21)
    rw [f21] at e21
    clear f21
    have hBq : wr.heap[w.heap.size]? = _ := (hA.bl _ hlt_x (fun q h => absurd h (Nat.not_lt_zero q))).trans HB_x.out
    have q0 := cell_at (v := .int .i64 xk) hBq 0 rfl
    have q1 := cell_at (v := .string xnm) hBq 1 rfl
    have q2 := cell_at (v := .string xot) hBq 2 rfl
    have q3 := cell_at (v := .bool xb) hBq 3 rfl
    have q4 := cell_at (v := .slice xao xn xq) hBq 4 rfl
    have q5 := cell_at (v := .slice xko xkn xkc) hBq 5 rfl
    have q6 := cell_at (v := .int .i64 xln) hBq 6 rfl
    have q7 := cell_at (v := .int .i64 xcl) hBq 7 rfl
    clear hBq
    clear hA
    refine ⟨(by rfl), ?_⟩
    go_simp <;> (try with_reducible rfl)
  refine Rely.Chain.det ?_ (by rfl) (fun T xs wr hA => ?_) ?_
  rotate_left 1
  · have e2 := hA.pre 2 (by kernel_rfl)
    simp only [List.getElem?_toArray, List.getElem?_cons_succ, List.getElem?_cons_zero] at e2
    clear hA
    refine ⟨(by rfl), ?_⟩
    go_simp <;> (try with_reducible rfl)
  refine Rely.Chain.det ?_ (by rfl) (fun T xs wr hA => ?_) ?_
  rotate_left 1
  · have e23 := hA.tm 13 23 (by rfl) (by rfl)
    have f23 : xs 13 = _ := hA.fa 13 (by rfl)
    (try simp (disch := first | rfl | decide) only [Rely.mask_in] at f23)
    rw [f23] at e23
    clear f23
    have hBq : wr.heap[w.heap.size]? = _ := (hA.bl _ hlt_x (fun q h => absurd h (Nat.not_lt_zero q))).trans HB_x.out
    have q0 := cell_at (v := .int .i64 xk) hBq 0 rfl
    have q1 := cell_at (v := .string xnm) hBq 1 rfl
    have q2 := cell_at (v := .string xot) hBq 2 rfl
    have q3 := cell_at (v := .bool xb) hBq 3 rfl
    have q4 := cell_at (v := .slice xao xn xq) hBq 4 rfl
    have q5 := cell_at (v := .slice xko xkn xkc) hBq 5 rfl
    have q6 := cell_at (v := .int .i64 xln) hBq 6 rfl
    have q7 := cell_at (v := .int .i64 xcl) hBq 7 rfl
    clear hBq
    clear hA
    refine ⟨(by rfl), ?_⟩
    go_simp <;> (try with_reducible rfl)
  refine Rely.Chain.grow (fun xs v w => ∃ l1 l2 : Bs, (1 ≤ l1.length ∧ l1.length ≤ 2) ∧ (1 ≤ l2.length ∧ l2.length ≤ 2) ∧ v = .agg #[.int .i64 ((xk.tmod 29 + 29).tmod 29), .string ⟨l1.toArray⟩, .string ⟨l2.toArray⟩, .bool false, .slice none 0 0, .slice none 0 0, .int .i64 xln, .int .i64 xcl]) (fun _ _ _ _ h _ => h) rfl (by rfl) (fun T xs wr hA => ?_) ?_
  · have e14 := hA.tm 4 14 (by rfl) (by rfl)
    have f14 : xs 4 = _ := hA.fa 4 (by rfl)
    (try simp (disch := first | rfl | decide) only [Rely.mask_in] at f14)
    rw [f14] at e14
    clear f14
    have e17 := hA.tm 7 17 (by rfl) (by rfl)
    have e20 := hA.tm 10 20 (by rfl) (by rfl)
    have e22 := hA.tm 12 22 (by rfl) (by rfl)
    have f22 : xs 12 = _ := hA.fa 12 (by rfl)
    (try simp (disch := first | rfl | decide) only [Rely.mask_in] at f22)
    rw [f22] at e22
    clear f22
    have e24 := hA.tm 14 24 (by rfl) (by rfl)
    have f24 : xs 14 = _ := hA.fa 14 (by rfl)
    (try simp (disch := first | rfl | decide) only [Rely.mask_in] at f24)
    rw [f24] at e24
    clear f24
    have hbw := undrew (hA.be _ (Nat.le_refl _) (fun q h => absurd h (Nat.not_lt_zero q)))
    have hF7 : ∃ l : Bs, (1 ≤ l.length ∧ l.length ≤ 2) ∧ (xs 7) = .string ⟨l.toArray⟩ := hA.fa 7 (by rfl)
    obtain ⟨l1, hl1, v1⟩ := hF7
    have hF10 : ∃ l : Bs, (1 ≤ l.length ∧ l.length ≤ 2) ∧ (xs 10) = .string ⟨l.toArray⟩ := hA.fa 10 (by rfl)
    obtain ⟨l2, hl2, v2⟩ := hF10
    rw [v1] at e17
    rw [v2] at e20
    clear v1 v2 hbw
    clear hA
    refine ⟨(by rfl), fun K hK => ?_⟩
    go_simp
    exact hK.out _ _ ⟨l1, l2, hl1, hl2, rfl⟩ (Below.refl _ _)
  refine Rely.Chain.made ?_ ?_ rfl (fun Ts xs wr hA => ?_) ?_
  rotate_left 2
  · clear hA
    refine ⟨(by rfl), fun K hK => ?_⟩
    go_simp
    exact hK.out
  refine Rely.Chain.done (fun xs w2 hL => ?_)
  obtain ⟨⟨hbe, hbl, hkp0⟩, hf, hp, hn⟩ := hL
  have f0 : xs 0 = _ := hf 0 (by decide)
  (try simp (disch := first | rfl | decide) only [Rely.mask_in] at f0)
  have f1 : xs 1 = _ := hf 1 (by decide)
  (try simp (disch := first | rfl | decide) only [Rely.mask_in] at f1)
  have f2 : xs 2 = _ := hf 2 (by decide)
  (try simp (disch := first | rfl | decide) only [Rely.mask_in] at f2)
  have f3 : xs 3 = _ := hf 3 (by decide)
  (try simp (disch := first | rfl | decide) only [Rely.mask_in] at f3)
  have f4 : xs 4 = _ := hf 4 (by decide)
  (try simp (disch := first | rfl | decide) only [Rely.mask_in] at f4)
  have f5 : xs 5 = _ := hf 5 (by decide)
  (try simp (disch := first | rfl | decide) only [Rely.mask_in] at f5)
  have f6 : xs 6 = _ := hf 6 (by decide)
  (try simp (disch := first | rfl | decide) only [Rely.mask_in] at f6)
  have F7 : ∃ l : Bs, (1 ≤ l.length ∧ l.length ≤ 2) ∧ (xs 7) = .string ⟨l.toArray⟩ := hf 7 (by decide)
  have f8 : xs 8 = _ := hf 8 (by decide)
  (try simp (disch := first | rfl | decide) only [Rely.mask_in] at f8)
  have f9 : xs 9 = _ := hf 9 (by decide)
  (try simp (disch := first | rfl | decide) only [Rely.mask_in] at f9)
  have F10 : ∃ l : Bs, (1 ≤ l.length ∧ l.length ≤ 2) ∧ (xs 10) = .string ⟨l.toArray⟩ := hf 10 (by decide)
  have f11 : xs 11 = _ := hf 11 (by decide)
  (try simp (disch := first | rfl | decide) only [Rely.mask_in] at f11)
  have f12 : xs 12 = _ := hf 12 (by decide)
  (try simp (disch := first | rfl | decide) only [Rely.mask_in] at f12)
  have f13 : xs 13 = _ := hf 13 (by decide)
  (try simp (disch := first | rfl | decide) only [Rely.mask_in] at f13)
  have f14 : xs 14 = _ := hf 14 (by decide)
  (try simp (disch := first | rfl | decide) only [Rely.mask_in] at f14)
  have F15 : ∃ l1 l2 : Bs, (1 ≤ l1.length ∧ l1.length ≤ 2) ∧ (1 ≤ l2.length ∧ l2.length ≤ 2) ∧ (xs 15) = .agg #[.int .i64 ((xk.tmod 29 + 29).tmod 29), .string ⟨l1.toArray⟩, .string ⟨l2.toArray⟩, .bool false, .slice none 0 0, .slice none 0 0, .int .i64 xln, .int .i64 xcl] := hf 15 (by decide)
  have F16 : Rely.Made 29 #[.int .i64 0, .string ⟨#[]⟩, .string ⟨#[]⟩, .bool false, .slice none 0 0, .slice none 0 0, .int .i64 0, .int .i64 0] (xs 16) w2 := hf 16 (by decide)
  have HP16 := hp 16 (by rfl) (by decide)
  have hbx : Below w1.heap.size w1 w2 := undrew (hbe _ (Nat.le_refl _) (fun q h => absurd h (Nat.not_lt_zero q)))
  clear hbe hbl hkp0 hf hp hn
  replace HB_x := Lib.hid ((hbx.block _ hlt_x).trans HB_x.out)
  clear hlt_x
  replace HB_r := Lib.hid ((hbx.block _ hlt_r).trans HB_r.out)
  clear hlt_r
  refine Rely.rest_list (by decide) (by kernel_rfl) ?_
  obtain ⟨l1, l2, hl1, hl2, f15⟩ := F15
  obtain ⟨g5, f16, hg5⟩ := F16
  obtain ⟨g5', q1, hlo5, hhi5⟩ := HP16
  rw [f16] at q1; injection q1 with q1; injection q1 with q1; injection q1 with q1; subst q1
  clear F7 F10
  obtain ⟨K, hK29, eK⟩ : ∃ K : Nat, K < 29 ∧ (xk.tmod 29 + 29).tmod 29 = (K : Int) := by
    refine ⟨((xk.tmod 29 + 29).tmod 29).toNat, ?_, ?_⟩ <;> (rw [Int.tmod_eq_emod_of_nonneg (by omega)]; omega)
  rw [eK] at f4 f15
  clear eK
  simp only [Rely.fill, List.take_succ_cons, List.take_zero, List.drop_succ_cons, List.drop_zero, List.setIfInBounds_toArray, List.set_cons_zero, List.set_cons_succ, f0, f1, f2, f3, f4, f5, f6, f8, f9, f11, f12, f13, f14, f15, f16]
  clear f0 f1 f2 f3 f4 f5 f6 f8 f9 f11 f12 f13 f14 f15 f16
  have z0 := cell_at hg5 0 rfl
  have z1 := cell_at hg5 1 rfl
  have z2 := cell_at hg5 2 rfl
  have z3 := cell_at hg5 3 rfl
  have z4 := cell_at hg5 4 rfl
  have z5 := cell_at hg5 5 rfl
  have z6 := cell_at hg5 6 rfl
  have z7 := cell_at hg5 7 rfl
  have y0 := froz_at hg5 0
  have y1 := froz_at hg5 1
  have y2 := froz_at hg5 2
  have y3 := froz_at hg5 3
  have y4 := froz_at hg5 4
  have y5 := froz_at hg5 5
  have y6 := froz_at hg5 6
  have y7 := froz_at hg5 7
  have hlo : w.heap.size + 2 ≤ g5 := by have : w1.heap.size ≤ g5 := hlo5; omega
  have hO : Out w (st8 w2 g5 (.int .i64 (K : Nat)) (.string ⟨l1.toArray⟩) (.string ⟨l2.toArray⟩) (.bool false) (.slice none 0 0) (.slice none 0 0) (.int .i64 xln) (.int .i64 xcl)) g5 #[.int .i64 xk, .string xnm, .string xot, .bool xb, .slice xao xn xq, .slice xko xkn xkc, .int .i64 xln, .int .i64 xcl] #[.int .i64 0, .string ⟨#[]⟩, .string ⟨#[]⟩, .bool false, .slice none 0 0, .slice none 0 0, .int .i64 0, .int .i64 0] K l1 l2 none 0 0 none 0 0 xln xcl :=
    ⟨st8_same hg5 _ _ _ _ _ _ _ _, by rw [st8_other _ _ _ _ _ _ _ _ _ _ (by omega)]; exact HB_x.out, by rw [st8_other _ _ _ _ _ _ _ _ _ _ (by omega)]; exact HB_r.out, st8_below (hbt.trans (hbx.mono hbt.size)) (by omega) _ _ _ _ _ _ _ _, hlo⟩
  have HO := Lib.hid hO
  clear hO hbx hlo5 hhi5 hsz1 hbt HB_x HB_r tm1 tm2 wr1 hg5
  go_upto_if 27 with fail
  go_cut [] (fun wx => CUT1 w wx g5 d #[.int .i64 xk, .string xnm, .string xot, .bool xb, .slice xao xn xq, .slice xko xkn xkc, .int .i64 xln, .int .i64 xcl] #[.int .i64 0, .string ⟨#[]⟩, .string ⟨#[]⟩, .bool false, .slice none 0 0, .slice none 0 0, .int .i64 0, .int .i64 0] l1 l2 xln xcl)
  case first =>
    by_cases h0 : d = 0
    · subst h0
      go_wp2_with fail
      go_meet
      refine ⟨K % 5, by omega, fun _ => by omega, ?_⟩
      rw [show ((K : Int) % 5) = ((K % 5 : Nat) : Int) by omega]
      exact HO.out.kind _
    · have h1 : decide ((d : Int) + 1 ≤ 1) = false := by rw [decide_eq_false_iff_not]; omega
      go_wp2_with fail
      go_meet
      exact ⟨K, hK29, (fun h => absurd h h0), HO.out⟩
  case rest =>
    obtain ⟨K, hK29, hd5, hO⟩ := hcut
    clear HO z0 z1 z2 z3 z4 z5 z6 z7 y0 y1 y2 y3 y4 y5 y6 y7
    have z0 := cell_at (v := .int .i64 (K : Nat)) hO.1 0 rfl
    have z1 := cell_at (v := .string ⟨l1.toArray⟩) hO.1 1 rfl
    have z2 := cell_at (v := .string ⟨l2.toArray⟩) hO.1 2 rfl
    have z3 := cell_at (v := .bool false) hO.1 3 rfl
    have z4 := cell_at (v := .slice none 0 0) hO.1 4 rfl
    have z5 := cell_at (v := .slice none 0 0) hO.1 5 rfl
    have z6 := cell_at (v := .int .i64 xln) hO.1 6 rfl
    have z7 := cell_at (v := .int .i64 xcl) hO.1 7 rfl
    have y0 := froz_at hO.1 0
    have y3 := froz_at hO.1 3
    have y4 := froz_at hO.1 4
    have y5 := froz_at hO.1 5
    have x4 := cell_at (v := .slice xao xn xq) hO.2.1 4 rfl
    have x5 := cell_at (v := .slice xko xkn xkc) hO.2.1 5 rfl
    have HO := Lib.hid hO
    clear hO
    go_upto_if 36 with fail
    go_cut [] (fun wx => CUT2 w wx g5 #[.int .i64 xk, .string xnm, .string xot, .bool xb, .slice xao xn xq, .slice xko xkn xkc, .int .i64 xln, .int .i64 xcl] #[.int .i64 0, .string ⟨#[]⟩, .string ⟨#[]⟩, .bool false, .slice none 0 0, .slice none 0 0, .int .i64 0, .int .i64 0] K l1 l2 xln xcl)
    case first =>
      by_cases h0 : K = 0
      · have hkz : (((K : Nat) : Int) == 0) = true := by rw [h0]; rfl
        have hsx := HSL.out.below HO.out.2.2.2.1
        have hxn := sl_len hsx
        subst hxn
        have hcap : ys.length ≤ xq := by obtain ⟨_, _, e, h1, _⟩ := hsx; injection e with e1 e2 e3; omega
        obtain ⟨m, hm1, hm2, hm3⟩ : ∃ m : Nat, m ≤ ys.length ∧ m ≤ 4 ∧ min (ys.length : Int) 4 = (m : Nat) := ⟨min ys.length 4, by omega, by omega, by omega⟩
        have HSM := Lib.hid (hsx.take m hm1)
        clear hsx
        have hgw := lt_of_block HO.out.1
        go_wp2_with fail
        refine (big_f xao m xq (ys.take m) wc HSM.out (HDG.out.take m) (by rw [List.length_take]; omega)).mono ?_
        intro e w4 hp
        obtain ⟨ao, n, c, rfl, hs4, hf4, hb4⟩ := hp
        have hO4 := HO.out.below hb4
        have z3' := cell_at (v := .bool false) hO4.1 3 rfl
        have z4' := cell_at (v := .slice none 0 0) hO4.1 4 rfl
        have y3' := froz_at hO4.1 3
        have y4' := froz_at hO4.1 4
        have HS4 := Lib.hid hs4
        have HF4 := Lib.hid hf4
        have HO4 := Lib.hid hO4
        have HB4 := Lib.hid hb4
        clear hs4 hf4 hO4 hb4
        go_wp2_with fail
        go_meet
        refine ⟨ao, n, c, val L32 (ys.take m), ?_, ?_, fun h0 a ha => ?_, HO4.out.abs ao n c⟩
        · have := val_lt (HDG.out.take m)
          exact Nat.lt_of_lt_of_le this (Nat.pow_le_pow_right (by decide) (by rw [List.length_take]; omega))
        · refine HS4.out.keep fun h0 a ha => ?_
          have := HF4.out h0 a ha
          rw [set1_other _ _ _ _ (by omega), set1_other _ _ _ _ (by omega)]
        · have := HF4.out h0 a ha
          have := HO.out.2.2.2.1.size
          omega
      · have hkz : (((K : Nat) : Int) == 0) = false := by rw [beq_eq_false_iff_ne]; omega
        go_wp2_with fail
        go_meet
        exact ⟨none, 0, 0, 0, by decide, (by rw [dig_zero]; exact Sl.nil _ _), (fun h => absurd rfl h), HO.out⟩
    case rest =>
      obtain ⟨ao, n, c, z, hz, hS, hF, hO⟩ := hcut
      have HSZ := Lib.hid hS
      have HFZ := Lib.hid hF
      clear hS hF HO z0 z1 z2 z3 z4 z5 z6 z7 y0 y3 y4 y5 x4 x5
      have z0 := cell_at (v := .int .i64 (K : Nat)) hO.1 0 rfl
      have z1 := cell_at (v := .string ⟨l1.toArray⟩) hO.1 1 rfl
      have z2 := cell_at (v := .string ⟨l2.toArray⟩) hO.1 2 rfl
      have z3 := cell_at (v := .bool false) hO.1 3 rfl
      have z4 := cell_at (v := .slice ao n c) hO.1 4 rfl
      have z5 := cell_at (v := .slice none 0 0) hO.1 5 rfl
      have z6 := cell_at (v := .int .i64 xln) hO.1 6 rfl
      have z7 := cell_at (v := .int .i64 xcl) hO.1 7 rfl
      have y0 := froz_at hO.1 0
      have y3 := froz_at hO.1 3
      have y4 := froz_at hO.1 4
      have y5 := froz_at hO.1 5
      have x4 := cell_at (v := .slice xao xn xq) hO.2.1 4 rfl
      have x5 := cell_at (v := .slice xko xkn xkc) hO.2.1 5 rfl
      have HO := Lib.hid hO
      clear hO
      go_upto_if 51 with fail
      go_cut [6] (fun s6 wx => CUT3 K wc s6 wx)
      case first =>
        by_cases k5 : K < 5
        · go_wp2_with fail
          go_meet
          exact ⟨rfl, 0, rfl, .inr (ar_leaf K k5).symm, by omega⟩
        by_cases k10 : K < 10
        · go_wp2_with fail
          go_meet
          exact ⟨rfl, 1, rfl, .inr (ar_one_tab K k10 (by omega)).symm, by omega⟩
        by_cases k24 : K < 24
        · go_wp2_with fail
          go_meet
          exact ⟨rfl, 2, rfl, .inr (ar_two_tab K k24 (by omega)).symm, by omega⟩
        obtain rfl | rfl | rfl | rfl | rfl : K = 24 ∨ K = 25 ∨ K = 26 ∨ K = 27 ∨ K = 28 := by omega
        · obtain ⟨m3, hm1, hm2⟩ : ∃ m3 : Nat, m3 ≤ 3 ∧ min (xkn : Int) 3 = (m3 : Nat) := ⟨min xkn 3, by omega, by omega⟩
          go_wp2_with fail
          go_meet
          exact ⟨rfl, m3, rfl, .inl rfl, hm1⟩
        · go_wp2_with fail
          go_meet
          exact ⟨rfl, 3, rfl, .inr rfl, by omega⟩
        · go_wp2_with fail
          go_meet
          exact ⟨rfl, 2, rfl, .inr rfl, by omega⟩
        · go_wp2_with fail
          go_meet
          exact ⟨rfl, 3, rfl, .inr rfl, by omega⟩
        · go_wp2_with fail
          go_meet
          exact ⟨rfl, 2, rfl, .inr rfl, by omega⟩
      case rest =>
        obtain ⟨hw, N, rfl, hN, hN3⟩ := hcut
        subst hw
        go_wp2_with fail
        go_loopw [71] (fun i wr => ∃ j : Nat, i = .int .i64 (j : Nat) ∧ j ≤ N ∧ TLoop w wc g5 #[.int .i64 xk, .string xnm, .string xot, .bool xb, .slice xao xn xq, .slice xko xkn xkc, .int .i64 xln, .int .i64 xcl] #[.int .i64 0, .string ⟨#[]⟩, .string ⟨#[]⟩, .bool false, .slice none 0 0, .slice none 0 0, .int .i64 0, .int .i64 0] K l1 l2 ao n c xln xcl d j wr) (fun i _ => N - (intOf i).toNat)
        case atStart => exact ⟨0, rfl, Nat.zero_le _, none, 0, [], [], rfl, rfl, HO.out, World.ownsRow_nil _ _ _ _, fun _ _ _ => rfl, Nat.le_refl _, fun q h => absurd h (Nat.not_lt_zero q)⟩
        case round =>
          have wrd : IntKind.i64.wrap ((d : Int) + 1 - 1) = (d : Int) := (IntWalk.i64_in ((d : Int) + 1 - 1) (by omega)).trans (by omega)
          have wrd2 : IntKind.i64.wrap (d : Int) = (d : Int) := IntWalk.i64_in _ (by omega)
          clear z0 z1 z2 z3 z4 z5 z6 z7 y0 y3 y4 y5 x4 x5
          obtain ⟨j, rfl, hj, ko, kc, ts, yy, hts, hyy, hOj, hown, hfr, hsz, htr⟩ := hrel
          obtain ⟨wL, hwL⟩ : ∃ wL, wL = wr := ⟨_, rfl⟩
          subst hwL
          have hgc := lt_of_block HO.out.1
          have HOJ := Lib.hid hOj
          have HOWN := Lib.hid hown
          have HFR := Lib.hid hfr
          have HTR := Lib.hid htr
          have HTS := Lib.hid hts
          have HYY := Lib.hid hyy
          clear hown hfr htr hts hyy
          by_cases hlt : j < N
          · have hd1 : 1 ≤ d := by
              rcases Nat.lt_or_ge d 1 with h | h
              · have h5 := hd5 (by omega)
                rcases hN with h24 | hN
                · omega
                · rw [ar_leaf K h5] at hN; omega
              · exact h
            have hb9 : Below wL.heap.size wL (wL.alloc (.cells #[.int .i64 0, .string ⟨#[]⟩, .string ⟨#[]⟩, .bool false, .slice none 0 0, .slice none 0 0, .int .i64 0, .int .i64 0] 29)) := (Below.refl _ _).alloc (Nat.le_refl _) _
            have x5 := cell_at (v := .slice xko xkn xkc) (hOj.below hb9).2.1 5 rfl
            by_cases hk : j < xkn
            · obtain ⟨Y, hA, hR⟩ := HKIDS.out j hk
              obtain ⟨a, rfl, hc⟩ := hA.keep fun a ha => ((hOj.below hb9).2.2.2.1.block _ (hA.lt a ha))
              obtain ⟨c0, c1, c2, c3, c4, c5, c6, c7⟩ := cells8 hc
              have HR := Lib.hid (hR.below hOj.2.2.2.1)
              clear hc hA hR hOj hb9
              go_wp2_with fail
              obtain ⟨w9, hw9⟩ : ∃ w9, w9 = wL.alloc (.cells #[.int .i64 Y.k, .string Y.nm, .string Y.ot, .bool Y.b, .slice Y.ao Y.n Y.c, .slice Y.ko Y.kn Y.kc, .int .i64 Y.ln, .int .i64 Y.cl] 29) := ⟨_, rfl⟩
              have hb9 : Below wL.heap.size wL w9 := by rw [hw9]; exact (Below.refl _ _).alloc (Nat.le_refl _) _
              obtain ⟨k9, hk9⟩ : ∃ k9, k9 = wL.heap.size := ⟨_, rfl⟩
              have HB_k : Hid (w9.heap[k9]? = some (.cells #[.int .i64 Y.k, .string Y.nm, .string Y.ot, .bool Y.b, .slice Y.ao Y.n Y.c, .slice Y.ko Y.kn Y.kc, .int .i64 Y.ln, .int .i64 Y.cl] 29 (0, 0))) := Lib.hid (by rw [hw9, hk9]; exact made_at wL _ _ rfl)
              have HB_o := Lib.hid (HOJ.out.below hb9).1
              have HRY := Lib.hid (HR.out.below hb9)
              have HB9 := Lib.hid hb9
              rw [← hw9, ← hk9]
              have HK9 := Lib.hid hk9
              clear hw9 hb9 hk9 c0 c1 c2 c3 c4 c5 c6 c7 x5
              have hlt_o := lt_of_block HB_o.out
              have hlt_k := lt_of_block HB_k.out
              refine Rely.region (by kernel_rfl) [[], [0], [], [], [3], [2, 3, 4], [2, 3, 4, 5], [0, 1, 2, 3, 4, 5, 6], [0, 1, 2, 3, 4, 5, 6, 7], [0, 1, 2, 3, 4, 5, 6, 7, 8]] [] [] (fun _ => 0) 0 7 (by kernel_rfl) (by kernel_rfl) (fun q h => absurd h (Nat.not_lt_zero q)) (fun q _ h => absurd h (Nat.not_lt_zero q)) ?_
              refine Rely.Chain.det ?_ (by rfl) (fun T xs wr hA => ?_) ?_
              rotate_left 1
              · have e5 := hA.pre 5 (by kernel_rfl)
                simp only [List.getElem?_toArray, List.getElem?_cons_succ, List.getElem?_cons_zero] at e5
                clear hA
                refine ⟨(by rfl), ?_⟩
                go_simp <;> (try with_reducible rfl)
              refine Rely.Chain.det ?_ (by rfl) (fun T xs wr hA => ?_) ?_
              rotate_left 1
              · have e85 := hA.tm 0 85 (by rfl) (by rfl)
                have f85 : xs 0 = _ := hA.fa 0 (by rfl)
                (try simp (disch := first | rfl | decide) only [Rely.mask_in] at f85)
                rw [f85] at e85
                clear f85
                have hBq : wr.heap[g5]? = _ := (hA.bl _ hlt_o (fun q h => absurd h (Nat.not_lt_zero q))).trans HB_o.out
                have q0 := cell_at (v := .int .i64 (K : Nat)) hBq 0 rfl
                have q1 := cell_at (v := .string ⟨l1.toArray⟩) hBq 1 rfl
                have q2 := cell_at (v := .string ⟨l2.toArray⟩) hBq 2 rfl
                have q3 := cell_at (v := .bool false) hBq 3 rfl
                have q4 := cell_at (v := .slice ao n c) hBq 4 rfl
                have q5 := cell_at (v := .slice ko j kc) hBq 5 rfl
                have q6 := cell_at (v := .int .i64 xln) hBq 6 rfl
                have q7 := cell_at (v := .int .i64 xcl) hBq 7 rfl
                clear hBq
                clear hA
                refine ⟨(by rfl), ?_⟩
                go_simp <;> (try with_reducible rfl)
              refine Rely.Chain.det ?_ (by rfl) (fun T xs wr hA => ?_) ?_
              rotate_left 1
              · have e9 := hA.pre 9 (by kernel_rfl)
                simp only [List.getElem?_toArray, List.getElem?_cons_succ, List.getElem?_cons_zero] at e9
                have hBq : wr.heap[k9]? = _ := (hA.bl _ hlt_k (fun q h => absurd h (Nat.not_lt_zero q))).trans HB_k.out
                have q0 := cell_at (v := .int .i64 Y.k) hBq 0 rfl
                have q1 := cell_at (v := .string Y.nm) hBq 1 rfl
                have q2 := cell_at (v := .string Y.ot) hBq 2 rfl
                have q3 := cell_at (v := .bool Y.b) hBq 3 rfl
                have q4 := cell_at (v := .slice Y.ao Y.n Y.c) hBq 4 rfl
                have q5 := cell_at (v := .slice Y.ko Y.kn Y.kc) hBq 5 rfl
                have q6 := cell_at (v := .int .i64 Y.ln) hBq 6 rfl
                have q7 := cell_at (v := .int .i64 Y.cl) hBq 7 rfl
                clear hBq
                clear hA
                refine ⟨(by rfl), ?_⟩
                go_simp <;> (try with_reducible rfl)
              refine Rely.Chain.det ?_ (by rfl) (fun T xs wr hA => ?_) ?_
              rotate_left 1
              · have e1 := hA.pre 1 (by kernel_rfl)
                simp only [List.getElem?_toArray, List.getElem?_cons_succ, List.getElem?_cons_zero] at e1
                clear hA
                refine ⟨(by rfl), ?_⟩
                go_simp <;> (try with_reducible rfl)
              refine Rely.Chain.det ?_ (by rfl) (fun T xs wr hA => ?_) ?_
              rotate_left 1
              · have e88 := hA.tm 3 88 (by rfl) (by rfl)
                have f88 : xs 3 = _ := hA.fa 3 (by rfl)
                (try simp (disch := first | rfl | decide) only [Rely.mask_in] at f88)
                rw [f88] at e88
                clear f88
                clear hA
                refine ⟨(by rfl), ?_⟩
                go_simp <;> (try with_reducible rfl)
              refine Rely.Chain.grow (fun xs v w => ∃ y t, v = xv y ∧ KidOk w9 d w y t) (fun _ _ _ _ ⟨y, t, h1, h2⟩ hb => ⟨y, t, h1, h2.below hb⟩) rfl (by rfl) (fun T xs wr hA => ?_) ?_
              · have e87 := hA.tm 2 87 (by rfl) (by rfl)
                have f87 : xs 2 = _ := hA.fa 2 (by rfl)
                (try simp (disch := first | rfl | decide) only [Rely.mask_in] at f87)
                rw [f87] at e87
                clear f87
                have e89 := hA.tm 4 89 (by rfl) (by rfl)
                have f89 : xs 4 = _ := hA.fa 4 (by rfl)
                (try simp (disch := first | rfl | decide) only [Rely.mask_in] at f89)
                rw [f89] at e89
                clear f89
                have hbw := undrew (hA.be _ (Nat.le_refl _) (fun q h => absurd h (Nat.not_lt_zero q)))
                clear hA
                refine ⟨(by rfl), fun K hK => ?_⟩
                go_simp
                refine (IH.out Y _ hd1 (HRY.out.below hbw)).mono ?_
                rintro e wq ⟨y, t, rfl, hT, hO, hb⟩
                exact hK.out _ _ ⟨y, t, rfl, hT.mono (fun g hg => Nat.le_trans hbw.size hg), hO⟩ hb
              refine Rely.Chain.grow (fun xs v w => ∃ y t, (xs 5) = xv y ∧ KidOk w9 d w y t ∧ ∃ g, v = .slice (some ⟨g, 0, none⟩) 1 1 ∧ w9.heap.size ≤ g ∧ w.heap[g]? = some (.cells (xc y).toArray 29 (0, 0))) (fun _ _ _ _ ⟨y, t, h1, h2, g, h3, h4, h5⟩ hb => ⟨y, t, h1, h2.below hb, g, h3, h4, by rw [hb.block g (lt_of_block h5)]; exact h5⟩) rfl (by rfl) (fun T xs wr hA => ?_) ?_
              · have e90 := hA.tm 5 90 (by rfl) (by rfl)
                have hbw := undrew (hA.be _ (Nat.le_refl _) (fun q h => absurd h (Nat.not_lt_zero q)))
                have hF5 : ∃ y t, (xs 5) = xv y ∧ KidOk w9 d wr y t := hA.fa 5 (by rfl)
                obtain ⟨y, t, hy, hkd⟩ := hF5
                rw [hy] at e90
                have HY := Lib.hid hy
                have HKD := Lib.hid hkd
                clear hy hkd
                simp only [xv] at e90
                clear hA
                refine ⟨(by rfl), fun K hK => ?_⟩
                go_simp
                exact hK.out _ _ ⟨y, t, HY.out, HKD.out.below ((Below.refl _ _).alloc (Nat.le_refl _) _), _, rfl, hbw.size, made_at wr _ _ rfl⟩ ((Below.refl _ _).alloc (Nat.le_refl _) _)
              refine Rely.Chain.done (fun xs w10 hL => ?_)
              obtain ⟨⟨hbe, hbl, hkp0⟩, hf, hp, hn⟩ := hL
              have f0 : xs 0 = _ := hf 0 (by decide)
              (try simp (disch := first | rfl | decide) only [Rely.mask_in] at f0)
              have f1 : xs 1 = _ := hf 1 (by decide)
              (try simp (disch := first | rfl | decide) only [Rely.mask_in] at f1)
              have f2 : xs 2 = _ := hf 2 (by decide)
              (try simp (disch := first | rfl | decide) only [Rely.mask_in] at f2)
              have f3 : xs 3 = _ := hf 3 (by decide)
              (try simp (disch := first | rfl | decide) only [Rely.mask_in] at f3)
              have f4 : xs 4 = _ := hf 4 (by decide)
              (try simp (disch := first | rfl | decide) only [Rely.mask_in] at f4)
              have F5 : ∃ y t, (xs 5) = xv y ∧ KidOk w9 d w10 y t := hf 5 (by decide)
              have F6 : ∃ y t, (xs 5) = xv y ∧ KidOk w9 d w10 y t ∧ ∃ g, (xs 6) = .slice (some ⟨g, 0, none⟩) 1 1 ∧ w9.heap.size ≤ g ∧ w10.heap[g]? = some (.cells (xc y).toArray 29 (0, 0)) := hf 6 (by decide)
              have hbx : Below w9.heap.size w9 w10 := undrew (hbe _ (Nat.le_refl _) (fun q h => absurd h (Nat.not_lt_zero q)))
              clear hbe hbl hkp0 hf hp hn
              replace HB_o := Lib.hid ((hbx.block _ hlt_o).trans HB_o.out)
              clear hlt_o
              replace HB_k := Lib.hid ((hbx.block _ hlt_k).trans HB_k.out)
              clear hlt_k
              refine Rely.rest_list (by decide) (by kernel_rfl) ?_
              obtain ⟨y, t, hy5, hkd, gN, hy6, hgN, hcN⟩ := F6
              clear F5 hy5
              simp only [Rely.fill, List.take_succ_cons, List.take_zero, List.drop_succ_cons, List.drop_zero, List.setIfInBounds_toArray, List.set_cons_zero, List.set_cons_succ, f0, f1, f2, f3, f4, hy6]
              clear f0 f1 f2 f3 f4 hy6
              have HB10 := Lib.hid (HB9.out.trans (hbx.mono HB9.out.size))
              have hown10 := HOWN.out.kept (below_grown0 HB10.out none) (by cases hv : (Value.slice ko j kc).ownBlock with | none => exact .inl rfl | some g => exact .inr (show some g ≠ none by simp))
              have HOWN10 := Lib.hid hown10
              have HCN := Lib.hid hcN
              have HKD := Lib.hid hkd
              have hs10 := HB10.out.size
              clear hbx hown10 hcN hkd
              go_wp2_with (at_builtin; refine wpList_append_el _ rfl (.tmp 86) (.tmp 91) 27 rfl 29 Tryd.underlying27 infoExpr rfl (by decide) (by decide) wc.heap.size (.slice ko j kc) j _ rfl HOWN10.out gN 29 (xc y) rfl (xc_one y) rfl HCN.out (by omega) (by omega) ?_; intro v' w11 hown' hgrow hfresh; obtain ⟨ko', kc', rfl, -⟩ := own_form hown'; have hB11 := (hgrow.block g5 (lt_of_block HB_o.out) (fun e => absurd (HOWN.out.lt _ e.symm).1 (by omega))).trans HB_o.out; have z5 := cell_at (v := .slice ko j kc) hB11 5 rfl; have y5 := froz_at hB11 5; have HOW := Lib.hid hown'; have HGR := Lib.hid hgrow; have HFS := Lib.hid hfresh; clear hown' hgrow hfresh hB11)
              go_roundw
              case rel => exact ⟨j + 1, by go_num, by omega, tloop_next HTS.out HYY.out HOJ.out HOWN.out HFR.out hsz HTR.out hgc HB10.out HOW.out HGR.out HFS.out (HKD.out.1.mono fun b hb' => Nat.le_trans HB9.out.size hb') HKD.out.2⟩
              case measure => simp [intOf]; omega
            · have HR : Hid (Raw wL d zX) := Lib.hid (raw_zero wL d)
              have hk' : decide ((j : Int) < (xkn : Int)) = false := by rw [decide_eq_false_iff_not]; omega
              clear hOj hb9
              go_wp2_with fail
              obtain ⟨w9, hw9⟩ : ∃ w9, w9 = wL.alloc (.cells #[.int .i64 0, .string ⟨#[]⟩, .string ⟨#[]⟩, .bool false, .slice none 0 0, .slice none 0 0, .int .i64 0, .int .i64 0] 29) := ⟨_, rfl⟩
              have hb9 : Below wL.heap.size wL w9 := by rw [hw9]; exact (Below.refl _ _).alloc (Nat.le_refl _) _
              obtain ⟨k9, hk9⟩ : ∃ k9, k9 = wL.heap.size := ⟨_, rfl⟩
              have HB_k : Hid (w9.heap[k9]? = some (.cells #[.int .i64 0, .string ⟨#[]⟩, .string ⟨#[]⟩, .bool false, .slice none 0 0, .slice none 0 0, .int .i64 0, .int .i64 0] 29 (0, 0))) := Lib.hid (by rw [hw9, hk9]; exact made_at wL _ _ rfl)
              have HB_o := Lib.hid (HOJ.out.below hb9).1
              have HRY := Lib.hid (HR.out.below hb9)
              have HB9 := Lib.hid hb9
              rw [← hw9, ← hk9]
              have HK9 := Lib.hid hk9
              clear hw9 hb9 hk9 x5
              have hlt_o := lt_of_block HB_o.out
              have hlt_k := lt_of_block HB_k.out
              refine Rely.region (by kernel_rfl) [[], [0], [], [], [3], [2, 3, 4], [2, 3, 4, 5], [0, 1, 2, 3, 4, 5, 6], [0, 1, 2, 3, 4, 5, 6, 7], [0, 1, 2, 3, 4, 5, 6, 7, 8]] [] [] (fun _ => 0) 0 7 (by kernel_rfl) (by kernel_rfl) (fun q h => absurd h (Nat.not_lt_zero q)) (fun q _ h => absurd h (Nat.not_lt_zero q)) ?_
              refine Rely.Chain.det ?_ (by rfl) (fun T xs wr hA => ?_) ?_
              rotate_left 1
              · have e5 := hA.pre 5 (by kernel_rfl)
                simp only [List.getElem?_toArray, List.getElem?_cons_succ, List.getElem?_cons_zero] at e5
                clear hA
                refine ⟨(by rfl), ?_⟩
                go_simp <;> (try with_reducible rfl)
              refine Rely.Chain.det ?_ (by rfl) (fun T xs wr hA => ?_) ?_
              rotate_left 1
              · have e85 := hA.tm 0 85 (by rfl) (by rfl)
                have f85 : xs 0 = _ := hA.fa 0 (by rfl)
                (try simp (disch := first | rfl | decide) only [Rely.mask_in] at f85)
                rw [f85] at e85
                clear f85
                have hBq : wr.heap[g5]? = _ := (hA.bl _ hlt_o (fun q h => absurd h (Nat.not_lt_zero q))).trans HB_o.out
                have q0 := cell_at (v := .int .i64 (K : Nat)) hBq 0 rfl
                have q1 := cell_at (v := .string ⟨l1.toArray⟩) hBq 1 rfl
                have q2 := cell_at (v := .string ⟨l2.toArray⟩) hBq 2 rfl
                have q3 := cell_at (v := .bool false) hBq 3 rfl
                have q4 := cell_at (v := .slice ao n c) hBq 4 rfl
                have q5 := cell_at (v := .slice ko j kc) hBq 5 rfl
                have q6 := cell_at (v := .int .i64 xln) hBq 6 rfl
                have q7 := cell_at (v := .int .i64 xcl) hBq 7 rfl
                clear hBq
                clear hA
                refine ⟨(by rfl), ?_⟩
                go_simp <;> (try with_reducible rfl)
              refine Rely.Chain.det ?_ (by rfl) (fun T xs wr hA => ?_) ?_
              rotate_left 1
              · have e9 := hA.pre 9 (by kernel_rfl)
                simp only [List.getElem?_toArray, List.getElem?_cons_succ, List.getElem?_cons_zero] at e9
                have hBq : wr.heap[k9]? = _ := (hA.bl _ hlt_k (fun q h => absurd h (Nat.not_lt_zero q))).trans HB_k.out
                have q0 := cell_at (v := .int .i64 0) hBq 0 rfl
                have q1 := cell_at (v := .string ⟨#[]⟩) hBq 1 rfl
                have q2 := cell_at (v := .string ⟨#[]⟩) hBq 2 rfl
                have q3 := cell_at (v := .bool false) hBq 3 rfl
                have q4 := cell_at (v := .slice none 0 0) hBq 4 rfl
                have q5 := cell_at (v := .slice none 0 0) hBq 5 rfl
                have q6 := cell_at (v := .int .i64 0) hBq 6 rfl
                have q7 := cell_at (v := .int .i64 0) hBq 7 rfl
                clear hBq
                clear hA
                refine ⟨(by rfl), ?_⟩
                go_simp <;> (try with_reducible rfl)
              refine Rely.Chain.det ?_ (by rfl) (fun T xs wr hA => ?_) ?_
              rotate_left 1
              · have e1 := hA.pre 1 (by kernel_rfl)
                simp only [List.getElem?_toArray, List.getElem?_cons_succ, List.getElem?_cons_zero] at e1
                clear hA
                refine ⟨(by rfl), ?_⟩
                go_simp <;> (try with_reducible rfl)
              refine Rely.Chain.det ?_ (by rfl) (fun T xs wr hA => ?_) ?_
              rotate_left 1
              · have e88 := hA.tm 3 88 (by rfl) (by rfl)
                have f88 : xs 3 = _ := hA.fa 3 (by rfl)
                (try simp (disch := first | rfl | decide) only [Rely.mask_in] at f88)
                rw [f88] at e88
                clear f88
                clear hA
                refine ⟨(by rfl), ?_⟩
                go_simp <;> (try with_reducible rfl)
              refine Rely.Chain.grow (fun xs v w => ∃ y t, v = xv y ∧ KidOk w9 d w y t) (fun _ _ _ _ ⟨y, t, h1, h2⟩ hb => ⟨y, t, h1, h2.below hb⟩) rfl (by rfl) (fun T xs wr hA => ?_) ?_
              · have e87 := hA.tm 2 87 (by rfl) (by rfl)
                have f87 : xs 2 = _ := hA.fa 2 (by rfl)
                (try simp (disch := first | rfl | decide) only [Rely.mask_in] at f87)
                rw [f87] at e87
                clear f87
                have e89 := hA.tm 4 89 (by rfl) (by rfl)
                have f89 : xs 4 = _ := hA.fa 4 (by rfl)
                (try simp (disch := first | rfl | decide) only [Rely.mask_in] at f89)
                rw [f89] at e89
                clear f89
                have hbw := undrew (hA.be _ (Nat.le_refl _) (fun q h => absurd h (Nat.not_lt_zero q)))
                clear hA
                refine ⟨(by rfl), fun K hK => ?_⟩
                go_simp
                refine (IH.out zX _ hd1 (HRY.out.below hbw)).mono ?_
                rintro e wq ⟨y, t, rfl, hT, hO, hb⟩
                exact hK.out _ _ ⟨y, t, rfl, hT.mono (fun g hg => Nat.le_trans hbw.size hg), hO⟩ hb
              refine Rely.Chain.grow (fun xs v w => ∃ y t, (xs 5) = xv y ∧ KidOk w9 d w y t ∧ ∃ g, v = .slice (some ⟨g, 0, none⟩) 1 1 ∧ w9.heap.size ≤ g ∧ w.heap[g]? = some (.cells (xc y).toArray 29 (0, 0))) (fun _ _ _ _ ⟨y, t, h1, h2, g, h3, h4, h5⟩ hb => ⟨y, t, h1, h2.below hb, g, h3, h4, by rw [hb.block g (lt_of_block h5)]; exact h5⟩) rfl (by rfl) (fun T xs wr hA => ?_) ?_
              · have e90 := hA.tm 5 90 (by rfl) (by rfl)
                have hbw := undrew (hA.be _ (Nat.le_refl _) (fun q h => absurd h (Nat.not_lt_zero q)))
                have hF5 : ∃ y t, (xs 5) = xv y ∧ KidOk w9 d wr y t := hA.fa 5 (by rfl)
                obtain ⟨y, t, hy, hkd⟩ := hF5
                rw [hy] at e90
                have HY := Lib.hid hy
                have HKD := Lib.hid hkd
                clear hy hkd
                simp only [xv] at e90
                clear hA
                refine ⟨(by rfl), fun K hK => ?_⟩
                go_simp
                exact hK.out _ _ ⟨y, t, HY.out, HKD.out.below ((Below.refl _ _).alloc (Nat.le_refl _) _), _, rfl, hbw.size, made_at wr _ _ rfl⟩ ((Below.refl _ _).alloc (Nat.le_refl _) _)
              refine Rely.Chain.done (fun xs w10 hL => ?_)
              obtain ⟨⟨hbe, hbl, hkp0⟩, hf, hp, hn⟩ := hL
              have f0 : xs 0 = _ := hf 0 (by decide)
              (try simp (disch := first | rfl | decide) only [Rely.mask_in] at f0)
              have f1 : xs 1 = _ := hf 1 (by decide)
              (try simp (disch := first | rfl | decide) only [Rely.mask_in] at f1)
              have f2 : xs 2 = _ := hf 2 (by decide)
              (try simp (disch := first | rfl | decide) only [Rely.mask_in] at f2)
              have f3 : xs 3 = _ := hf 3 (by decide)
              (try simp (disch := first | rfl | decide) only [Rely.mask_in] at f3)
              have f4 : xs 4 = _ := hf 4 (by decide)
              (try simp (disch := first | rfl | decide) only [Rely.mask_in] at f4)
              have F5 : ∃ y t, (xs 5) = xv y ∧ KidOk w9 d w10 y t := hf 5 (by decide)
              have F6 : ∃ y t, (xs 5) = xv y ∧ KidOk w9 d w10 y t ∧ ∃ g, (xs 6) = .slice (some ⟨g, 0, none⟩) 1 1 ∧ w9.heap.size ≤ g ∧ w10.heap[g]? = some (.cells (xc y).toArray 29 (0, 0)) := hf 6 (by decide)
              have hbx : Below w9.heap.size w9 w10 := undrew (hbe _ (Nat.le_refl _) (fun q h => absurd h (Nat.not_lt_zero q)))
              clear hbe hbl hkp0 hf hp hn
              replace HB_o := Lib.hid ((hbx.block _ hlt_o).trans HB_o.out)
              clear hlt_o
              replace HB_k := Lib.hid ((hbx.block _ hlt_k).trans HB_k.out)
              clear hlt_k
              refine Rely.rest_list (by decide) (by kernel_rfl) ?_
              obtain ⟨y, t, hy5, hkd, gN, hy6, hgN, hcN⟩ := F6
              clear F5 hy5
              simp only [Rely.fill, List.take_succ_cons, List.take_zero, List.drop_succ_cons, List.drop_zero, List.setIfInBounds_toArray, List.set_cons_zero, List.set_cons_succ, f0, f1, f2, f3, f4, hy6]
              clear f0 f1 f2 f3 f4 hy6
              have HB10 := Lib.hid (HB9.out.trans (hbx.mono HB9.out.size))
              have hown10 := HOWN.out.kept (below_grown0 HB10.out none) (by cases hv : (Value.slice ko j kc).ownBlock with | none => exact .inl rfl | some g => exact .inr (show some g ≠ none by simp))
              have HOWN10 := Lib.hid hown10
              have HCN := Lib.hid hcN
              have HKD := Lib.hid hkd
              have hs10 := HB10.out.size
              clear hbx hown10 hcN hkd
              go_wp2_with (at_builtin; refine wpList_append_el _ rfl (.tmp 86) (.tmp 91) 27 rfl 29 Tryd.underlying27 infoExpr rfl (by decide) (by decide) wc.heap.size (.slice ko j kc) j _ rfl HOWN10.out gN 29 (xc y) rfl (xc_one y) rfl HCN.out (by omega) (by omega) ?_; intro v' w11 hown' hgrow hfresh; obtain ⟨ko', kc', rfl, -⟩ := own_form hown'; have hB11 := (hgrow.block g5 (lt_of_block HB_o.out) (fun e => absurd (HOWN.out.lt _ e.symm).1 (by omega))).trans HB_o.out; have z5 := cell_at (v := .slice ko j kc) hB11 5 rfl; have y5 := froz_at hB11 5; have HOW := Lib.hid hown'; have HGR := Lib.hid hgrow; have HFS := Lib.hid hfresh; clear hown' hgrow hfresh hB11)
              go_roundw
              case rel => exact ⟨j + 1, by go_num, by omega, tloop_next HTS.out HYY.out HOJ.out HOWN.out HFR.out hsz HTR.out hgc HB10.out HOW.out HGR.out HFS.out (HKD.out.1.mono fun b hb' => Nat.le_trans HB9.out.size hb') HKD.out.2⟩
              case measure => simp [intOf]; omega
          · have e : j = N := by omega
            subst e
            have HTL : Hid (TLoop w wc g5 #[.int .i64 xk, .string xnm, .string xot, .bool xb, .slice xao xn xq, .slice xko xkn xkc, .int .i64 xln, .int .i64 xcl] #[.int .i64 0, .string ⟨#[]⟩, .string ⟨#[]⟩, .bool false, .slice none 0 0, .slice none 0 0, .int .i64 0, .int .i64 0] K l1 l2 ao n c xln xcl d j wL) := Lib.hid ⟨ko, kc, ts, yy, HTS.out, HYY.out, HOJ.out, HOWN.out, HFR.out, hsz, HTR.out⟩
            have z0 := cell_at (v := .int .i64 (K : Nat)) hOj.1 0 rfl
            have z1 := cell_at (v := .string ⟨l1.toArray⟩) hOj.1 1 rfl
            have z2 := cell_at (v := .string ⟨l2.toArray⟩) hOj.1 2 rfl
            have z3 := cell_at (v := .bool false) hOj.1 3 rfl
            have z4 := cell_at (v := .slice ao n c) hOj.1 4 rfl
            have z5 := cell_at (v := .slice ko j kc) hOj.1 5 rfl
            have z6 := cell_at (v := .int .i64 xln) hOj.1 6 rfl
            have z7 := cell_at (v := .int .i64 xcl) hOj.1 7 rfl
            have r0 := cell_at (v := .int .i64 0) hOj.2.2.1 0 rfl
            have r1 := cell_at (v := .string ⟨#[]⟩) hOj.2.2.1 1 rfl
            have r2 := cell_at (v := .string ⟨#[]⟩) hOj.2.2.1 2 rfl
            have r3 := cell_at (v := .bool false) hOj.2.2.1 3 rfl
            have r4 := cell_at (v := .slice none 0 0) hOj.2.2.1 4 rfl
            have r5 := cell_at (v := .slice none 0 0) hOj.2.2.1 5 rfl
            have r6 := cell_at (v := .int .i64 0) hOj.2.2.1 6 rfl
            have r7 := cell_at (v := .int .i64 0) hOj.2.2.1 7 rfl
            have q0 := froz_at hOj.2.2.1 0
            have q1 := froz_at hOj.2.2.1 1
            have q2 := froz_at hOj.2.2.1 2
            have q3 := froz_at hOj.2.2.1 3
            have q4 := froz_at hOj.2.2.1 4
            have q5 := froz_at hOj.2.2.1 5
            have q6 := froz_at hOj.2.2.1 6
            have q7 := froz_at hOj.2.2.1 7
            clear hOj
            go_wp2_with fail
            refine bodyPost_ret (v := .agg #[.int .i64 (K : Nat), .string ⟨l1.toArray⟩, .string ⟨l2.toArray⟩, .bool false, .slice ao n c, .slice ko j kc, .int .i64 xln, .int .i64 xcl]) (by simp [results, Tryd.results7, go_sem, r0, r1, r2, r3, r4, r5, r6, r7]) rfl ?_
            obtain ⟨ko2, kc2, t, hg, hTr, hOk⟩ := tloop_end (w' := st8 wL (w.heap.size + 1) (.int .i64 (K : Nat)) (.string ⟨l1.toArray⟩) (.string ⟨l2.toArray⟩) (.bool false) (.slice ao n c) (.slice ko j kc) (.int .i64 xln) (.int .i64 xcl)) HTL.out hz HSZ.out HFZ.out hK29 hl1.1 ⟨fun _ => hl1.1, hl1.2⟩ hl2.2 hN hN3 hgc hlo (fun b hb => st8_other _ _ _ _ _ _ _ _ _ _ hb)
            have hO1 := HOJ.out.1
            rw [hO1] at hg
            injection hg with hg; injection hg with hg
            have e5 := congrArg (fun q => q[5]?) hg
            simp at e5
            obtain ⟨e6, e7⟩ := e5
            subst e6 e7
            have hBe := st8_below HOJ.out.2.2.2.1 (g := w.heap.size + 1) (by omega) (.int .i64 (K : Nat)) (.string ⟨l1.toArray⟩) (.string ⟨l2.toArray⟩) (.bool false) (.slice ao n c) (.slice ko j kc) (.int .i64 xln) (.int .i64 xcl)
            unfold st8 at hTr hBe
            exact ⟨_, t, rfl, hTr, hOk, hBe⟩

/-- Tame, of any argument. -/
theorem tame_all : ∀ d, d ≤ 6 → ∀ x w, 1 ≤ d → Raw w d x → Calls Tryd.prog 7 #[xv x, .int .i64 (d : Nat)] w (TamePost d w) := by
  intro d
  induction d with
  | zero => intro _ _ _ h; omega
  | succ d ih => intro hd x w _ h; exact tame_any d hd x w h (Lib.hid fun y w h1 hr => ih (by omega) y w h1 hr)
end Go.Proofs.YtcdacmbcecjliaaDoor
