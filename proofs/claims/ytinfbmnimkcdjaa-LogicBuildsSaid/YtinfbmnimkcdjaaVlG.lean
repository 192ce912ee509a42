/-
  Arguments as they come in; small, Tame.
-/
import Derived.Test.YtinfbmnimkcdjaaVlF
namespace Go.Proofs.Ytinfbmnimkcdjaa
open Go.RowKit
set_option maxRecDepth 100000
set_option linter.unusedVariables false
set_option linter.unusedSimpArgs false

/-- Arguments, in any form. -/
def RNum (w : World) (v : Value) : Prop := ∃ xs, Sl w .u32 v xs ∧ Dig L32 xs
theorem RNum.below {w w' : World} {v : Value} (h : RNum w v) (hb : Below w.heap.size w w') : RNum w' v := by obtain ⟨xs, h1, h2⟩ := h; exact ⟨xs, h1.below hb, h2⟩
def RInts (w : World) (ko : Option Addr) (n kc : Nat) : Prop := (n ≤ kc ∧ kc ≤ maxLen) ∧ ∀ i, i < n → ∃ a b o l c, ko = some a ∧ w.cell? (a.add (i * 2)) = some (.bool b) ∧ w.cell? ⟨(a.add (i * 2)).block, (a.add (i * 2)).off + 1, none⟩ = some (.slice o l c) ∧ RNum w (.slice o l c)
theorem RInts.below {w w' : World} {ko : Option Addr} {n kc : Nat} (h : RInts w ko n kc) (hb : Below w.heap.size w w') : RInts w' ko n kc := by
  refine ⟨h.1, fun i hi => ?_⟩
  obtain ⟨a, b, o, l, c, h1, h2, h3, h4⟩ := h.2 i hi
  exact ⟨a, b, o, l, c, h1, by rw [hb.cell (cell_lt h2)]; exact h2, by rw [hb.cell (by have := cell_lt h3; exact this)]; exact h3, h4.below hb⟩
def RVals (w : World) (ko : Option Addr) (n kc : Nat) : Prop := (n ≤ kc ∧ kc ≤ maxLen) ∧ ∀ i, i < n → ∃ a k b o l c d p m q, ko = some a ∧
    (w.cell? (a.add (i * 5)) = some (.int .i64 k) ∧ w.cell? ⟨(a.add (i * 5)).block, (a.add (i * 5)).off + 1, none⟩ = some (.bool b) ∧ w.cell? ⟨(a.add (i * 5)).block, (a.add (i * 5)).off + 2, none⟩ = some (.slice o l c) ∧ w.cell? ⟨(a.add (i * 5)).block, (a.add (i * 5)).off + 3, none⟩ = some (.bool d) ∧ w.cell? ⟨(a.add (i * 5)).block, (a.add (i * 5)).off + 4, none⟩ = some (.slice p m q)) ∧
    (-9223372036854775808 ≤ k ∧ k ≤ 9223372036854775807) ∧ RNum w (.slice o l c) ∧ RInts w p m q
theorem RVals.below {w w' : World} {ko : Option Addr} {n kc : Nat} (h : RVals w ko n kc) (hb : Below w.heap.size w w') : RVals w' ko n kc := by
  refine ⟨h.1, fun i hi => ?_⟩
  obtain ⟨a, k, b, o, l, c, d, p, m, q, h0, ⟨h1, h2, h3, h4, h5⟩, h6, h7, h8⟩ := h.2 i hi
  exact ⟨a, k, b, o, l, c, d, p, m, q, h0, ⟨by rw [hb.cell (cell_lt h1)]; exact h1, by rw [hb.cell (by have := cell_lt h2; exact this)]; exact h2, by rw [hb.cell (by have := cell_lt h3; exact this)]; exact h3, by rw [hb.cell (by have := cell_lt h4; exact this)]; exact h4, by rw [hb.cell (by have := cell_lt h5; exact this)]; exact h5⟩, h6, h7.below hb, h8.below hb⟩

set_option maxHeartbeats 2000000 in
theorem small_p (b : Bool) (o : Option Addr) (l c : Nat) (w : World) (hx : RNum w (.slice o l c)) :
    Calls Try.prog 59 #[.agg #[.bool b, .slice o l c]] w fun e w' => ∃ v z, e = .returned v ∧ CI w' v z 4 ∧ Below w.heap.size w w' := by
  obtain ⟨m, hm⟩ : ∃ m, m = min l 4 := ⟨_, rfl⟩
  have hmin : min (l : Int) 4 = (m : Int) := by omega
  have hm4 : m ≤ 4 := by omega
  have hml : m ≤ l := by omega
  have hx2 : ∃ n, GN w (.slice o m c) n 4 ∧ l ≤ c ∧ c ≤ 9223372036854775807 := by
    obtain ⟨xs, hs, hd⟩ := hx
    have hl := sl_len hs
    obtain ⟨_, _, e, h1, h2, _⟩ := id hs
    injection e with e1 e2 e3
    subst e3
    exact ⟨_, ⟨xs.take m, hs.take m (by omega), hd.take m, rfl, by rw [List.length_take]; omega⟩, by omega, h2⟩
  obtain ⟨n, hn, hlc, hc⟩ := hx2
  have hmc : m ≤ c := by omega
  have HX := Lib.hid hn
  clear hn hx hm
  have HW := Lib.hid (Below.refl w.heap.size w)
  go_enter Try.func59, Try.ntmps59
  obtain ⟨x1, k1, e1, ek1, hb1, hk1, HB1⟩ := newV w #[.bool b, .slice o l c] 26
  replace HX := Lib.hid (HX.out.below hb1.out)
  replace HW := Lib.hid (HW.out.trans (hb1.out.mono HW.out.size))
  obtain ⟨x2, k2, e2, ek2, hb2, hk2, HB2⟩ := newV x1 #[.bool false, .slice none 0 0] 26
  replace HB1 := kBV hb2.out HB1
  replace HX := Lib.hid (HX.out.below hb2.out)
  replace HW := Lib.hid (HW.out.trans (hb2.out.mono HW.out.size))
  have hk0 : w.heap.size ≤ k2 := Nat.le_trans hb1.out.size hk2.out
  go_upto_region 1 with fail
  have hlt_1 := lt_of_block HB1.out
  have hog : Hid (∀ q, q < 0 → (fun q => 0) q < x2.heap.size) := Lib.hid (fun q h => absurd h (Nat.not_lt_zero _))
  refine Rel7.region (by kernel_rfl) [[], [0], [], [2], [], [4], [4, 5], [4, 5, 6], [2, 3, 4, 5, 6, 7], [0, 1, 2, 3, 4, 5, 6, 7, 8], [0, 1, 2, 3, 4, 5, 6, 7, 8, 9]] [] [] (fun q => 0) 0 10 (by kernel_rfl) (by kernel_rfl) (by rfl) hog.out (fun q q' h h' hn => absurd hn (by omega)) ?_
  refine Rel7.Chain.det ?_ (by rfl) (fun T xs wr hA => ?_) ?_
  rotate_left 1
  · have e1 := hA.pre 1 (by kernel_rfl)
    simp only [List.getElem?_toArray, List.getElem?_cons_succ, List.getElem?_cons_zero] at e1
    clear hA
    refine ⟨(by rfl), ?_⟩
    go_simp <;> (try with_reducible rfl)
  refine Rel7.Chain.det ?_ (by rfl) (fun T xs wr hA => ?_) ?_
  rotate_left 1
  · have e3 := hA.tm 0 3 (by rfl) (by rfl)
    have f3 : xs 0 = _ := hA.fa 0 (by rfl)
    (try simp (disch := first | rfl | decide) only [Rel7.mask_in] at f3)
    rw [f3] at e3
    clear f3
    have hBq : wr.heap[k1]? = _ := (hA.bl _ hlt_1 (fun q h => absurd h (Nat.not_lt_zero _))).trans HB1.out
    have q0 := cell_at (v := .bool b) hBq 0 rfl
    have q1 := cell_at (v := .slice o l c) hBq 1 rfl
    clear hBq
    clear hA
    refine ⟨(by rfl), ?_⟩
    go_simp <;> (try with_reducible rfl)
  refine Rel7.Chain.det ?_ (by rfl) (fun T xs wr hA => ?_) ?_
  rotate_left 1
  · have e1 := hA.pre 1 (by kernel_rfl)
    simp only [List.getElem?_toArray, List.getElem?_cons_succ, List.getElem?_cons_zero] at e1
    clear hA
    refine ⟨(by rfl), ?_⟩
    go_simp <;> (try with_reducible rfl)
  refine Rel7.Chain.det ?_ (by rfl) (fun T xs wr hA => ?_) ?_
  rotate_left 1
  · have e5 := hA.tm 2 5 (by rfl) (by rfl)
    have f5 : xs 2 = _ := hA.fa 2 (by rfl)
    (try simp (disch := first | rfl | decide) only [Rel7.mask_in] at f5)
    rw [f5] at e5
    clear f5
    have hBq : wr.heap[k1]? = _ := (hA.bl _ hlt_1 (fun q h => absurd h (Nat.not_lt_zero _))).trans HB1.out
    have q0 := cell_at (v := .bool b) hBq 0 rfl
    have q1 := cell_at (v := .slice o l c) hBq 1 rfl
    clear hBq
    clear hA
    refine ⟨(by rfl), ?_⟩
    go_simp <;> (try with_reducible rfl)
  refine Rel7.Chain.det ?_ (by rfl) (fun T xs wr hA => ?_) ?_
  rotate_left 1
  · have e1 := hA.pre 1 (by kernel_rfl)
    simp only [List.getElem?_toArray, List.getElem?_cons_succ, List.getElem?_cons_zero] at e1
    clear hA
    refine ⟨(by rfl), ?_⟩
    go_simp <;> (try with_reducible rfl)
  refine Rel7.Chain.det ?_ (by rfl) (fun T xs wr hA => ?_) ?_
  rotate_left 1
  · have e7 := hA.tm 4 7 (by rfl) (by rfl)
    have f7 : xs 4 = _ := hA.fa 4 (by rfl)
    (try simp (disch := first | rfl | decide) only [Rel7.mask_in] at f7)
    rw [f7] at e7
    clear f7
    have hBq : wr.heap[k1]? = _ := (hA.bl _ hlt_1 (fun q h => absurd h (Nat.not_lt_zero _))).trans HB1.out
    have q0 := cell_at (v := .bool b) hBq 0 rfl
    have q1 := cell_at (v := .slice o l c) hBq 1 rfl
    clear hBq
    clear hA
    refine ⟨(by rfl), ?_⟩
    go_simp <;> (try with_reducible rfl)
  refine Rel7.Chain.det ?_ (by rfl) (fun T xs wr hA => ?_) ?_
  rotate_left 1
  · have e8 := hA.tm 5 8 (by rfl) (by rfl)
    have f8 : xs 5 = _ := hA.fa 5 (by rfl)
    (try simp (disch := first | rfl | decide) only [Rel7.mask_in] at f8)
    rw [f8] at e8
    clear f8
    clear hA
    refine ⟨(by rfl), ?_⟩
    go_simp <;> (try with_reducible rfl)
  refine Rel7.Chain.det ?_ (by rfl) (fun T xs wr hA => ?_) ?_
  rotate_left 1
  · have e9 := hA.tm 6 9 (by rfl) (by rfl)
    have f9 : xs 6 = _ := hA.fa 6 (by rfl)
    (try simp (disch := first | rfl | decide) only [Rel7.mask_in] at f9)
    rw [f9] at e9
    clear f9
    clear hA
    refine ⟨(by rfl), ?_⟩
    go_simp <;> (try with_reducible rfl)
  refine Rel7.Chain.det ?_ (by rfl) (fun T xs wr hA => ?_) ?_
  rotate_left 1
  · have e6 := hA.tm 3 6 (by rfl) (by rfl)
    have f6 : xs 3 = _ := hA.fa 3 (by rfl)
    (try simp (disch := first | rfl | decide) only [Rel7.mask_in] at f6)
    rw [f6] at e6
    clear f6
    have e10 := hA.tm 7 10 (by rfl) (by rfl)
    have f10 : xs 7 = _ := hA.fa 7 (by rfl)
    (try simp (disch := first | rfl | decide) only [Rel7.mask_in] at f10)
    rw [f10] at e10
    clear f10
    clear hA
    refine ⟨(by rfl), ?_⟩
    go_simp <;> (try with_reducible rfl)
  refine Rel7.Chain.call (fun xs v w => ∃ z, CI w v z 4) (fun _ _ _ _ h hb => by obtain ⟨z, h2⟩ := h; exact ⟨z, h2.below hb⟩) (fun _ _ _ _ _ _ h _ => by obtain ⟨q, hq, _⟩ := h; exact absurd hq (Nat.not_lt_zero _)) (by rfl) (fun T xs wr hA => ?_) ?_
  · have hsw := (hA.be 0 (Nat.zero_le _) (fun _ _ => Nat.zero_le _)).size
    have e4 := hA.tm 1 4 (by rfl) (by rfl)
    have f4 : xs 1 = _ := hA.fa 1 (by rfl)
    (try simp (disch := first | rfl | decide) only [Rel7.mask_in] at f4)
    rw [f4] at e4
    clear f4
    have e11 := hA.tm 8 11 (by rfl) (by rfl)
    have f11 : xs 8 = _ := hA.fa 8 (by rfl)
    (try simp (disch := first | rfl | decide) only [Rel7.mask_in] at f11)
    rw [f11] at e11
    clear f11
    have hbw := undrew (hA.be x2.heap.size (Nat.le_refl _) (fun q h => absurd h (Nat.not_lt_zero q)))
    clear hA
    refine ⟨(by rfl), fun K hK => ?_⟩
    go_simp
    refine (big_any b _ n 4 wr (HX.out.below hbw) (by omega)).mono ?_
    rintro e w' ⟨v, rfl, hc, hb'⟩
    exact hK.out _ _ ⟨_, hc⟩ hb'
  refine Rel7.Chain.done (fun xs x3 hL => ?_)
  obtain ⟨⟨hbe, hbl⟩, hf, -, -⟩ := hL
  have f0 : xs 0 = _ := hf 0 (by decide)
  (try simp (disch := first | rfl | decide) only [Rel7.mask_in] at f0)
  have f1 : xs 1 = _ := hf 1 (by decide)
  (try simp (disch := first | rfl | decide) only [Rel7.mask_in] at f1)
  have f2 : xs 2 = _ := hf 2 (by decide)
  (try simp (disch := first | rfl | decide) only [Rel7.mask_in] at f2)
  have f3 : xs 3 = _ := hf 3 (by decide)
  (try simp (disch := first | rfl | decide) only [Rel7.mask_in] at f3)
  have f4 : xs 4 = _ := hf 4 (by decide)
  (try simp (disch := first | rfl | decide) only [Rel7.mask_in] at f4)
  have f5 : xs 5 = _ := hf 5 (by decide)
  (try simp (disch := first | rfl | decide) only [Rel7.mask_in] at f5)
  have f6 : xs 6 = _ := hf 6 (by decide)
  (try simp (disch := first | rfl | decide) only [Rel7.mask_in] at f6)
  have f7 : xs 7 = _ := hf 7 (by decide)
  (try simp (disch := first | rfl | decide) only [Rel7.mask_in] at f7)
  have f8 : xs 8 = _ := hf 8 (by decide)
  (try simp (disch := first | rfl | decide) only [Rel7.mask_in] at f8)
  have F9 : ∃ z, CI x3 (xs 9) z 4 := hf 9 (by decide)
  have hb0 : Below 0 x2 x3 := undrew (hbe 0 (Nat.zero_le _) (fun _ _ => Nat.zero_le _))
  have hgr : ∀ j, j < x2.heap.size → (∀ q, q < 0 → (fun q => 0) q ≠ j) → x3.heap[j]? = x2.heap[j]? := hbl
  clear hbe hbl hf
  have hb : Below x2.heap.size x2 x3 := ⟨hb0.os, hb0.tape, hb0.output, hb0.size, fun q hq => hgr q hq (fun q h => absurd h (Nat.not_lt_zero _))⟩
  refine Rel7.rest_list (by decide) (by kernel_rfl) ?_
  simp only [Rel7.fill, List.take_succ_cons, List.take_zero, List.drop_succ_cons, List.drop_zero, List.setIfInBounds_toArray, List.set_cons_zero, List.set_cons_succ, f0, f1, f2, f3, f4, f5, f6, f7, f8]
  clear hb0 hgr hog hlt_1 f0 f1 f2 f3 f4 f5 f6 f7 f8
  replace HB1 := kBV hb HB1
  replace HB2 := kBV hb HB2
  replace HX := Lib.hid (HX.out.below hb)
  replace HW := Lib.hid (HW.out.trans (hb.mono HW.out.size))
  replace hb := Lib.hid hb
  obtain ⟨z, hcz⟩ := F9
  obtain ⟨bb, oo, ll, cc, hv⟩ := hcz.shape
  rw [hv] at hcz
  rw [show (0 + 1 + 1 + 1 + 1 + 1 + 1 + 1 + 1 + 1 : Nat) = 9 from rfl, hv]
  have HC := Lib.hid hcz
  clear hcz hv
  have d0 := cell_at (v := .bool false) HB2.out 0 rfl
  have fd0 := froz_at HB2.out 0
  have d1 := cell_at (v := .slice none 0 0) HB2.out 1 rfl
  have fd1 := froz_at HB2.out 1
  go_wp2_with fail
  obtain ⟨r1, r2⟩ := res2V HW.out HB2.out n32_2 hk0 (.bool bb) (.slice oo ll cc)
  exact bodyPost_ret (v := .agg #[.bool bb, .slice oo ll cc]) (by simp [results, Try.results59, go_sem, d0, d1]) rfl ⟨_, _, rfl, HC.out.fr r1, r2⟩
end Go.Proofs.Ytinfbmnimkcdjaa
