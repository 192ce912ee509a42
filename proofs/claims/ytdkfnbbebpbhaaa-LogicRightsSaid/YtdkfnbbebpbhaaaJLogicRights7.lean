/-
  Joined texts: LgZg, LgZh, LgZi, LgZj, LgZk, LgZl.
-/
import Derived.Lib.ConvBytes
import Derived.Test.YtdkfnbbebpbhaaaJLogicRights4
import Derived.Test.YtdkfnbbebpbhaaaJLogicRights5
import Derived.Test.YtdkfnbbebpbhaaaJLogicRights6
/-
  The law's sorted.
-/
namespace Go.Proofs.Ytdkfnbbebpbhaaa
open Go.RowKit
set_option maxRecDepth 100000
set_option linter.unusedVariables false
set_option linter.unusedSimpArgs false

/-- The letter of an op's sort, and its kids' letters. -/
def letS (o : Int) : Int := if 0 ≤ o ∧ o ≤ 20 then [(105 : Int), (105 : Int), (105 : Int), (105 : Int), (105 : Int), (105 : Int), (105 : Int), (105 : Int), (108 : Int), (108 : Int), (108 : Int), (108 : Int), (98 : Int), (98 : Int), (98 : Int), (98 : Int), (98 : Int), (98 : Int), (98 : Int), (98 : Int), (98 : Int)].getD o.toNat 0 else 63
def kidS (o : Int) : ByteArray := if 0 ≤ o ∧ o ≤ 20 then [(⟨#[]⟩ : ByteArray), (⟨#[]⟩ : ByteArray), (⟨#[105, 105]⟩ : ByteArray), (⟨#[105]⟩ : ByteArray), (⟨#[105, 105]⟩ : ByteArray), (⟨#[105]⟩ : ByteArray), (⟨#[108]⟩ : ByteArray), (⟨#[108]⟩ : ByteArray), (⟨#[]⟩ : ByteArray), (⟨#[]⟩ : ByteArray), (⟨#[105, 108]⟩ : ByteArray), (⟨#[108]⟩ : ByteArray), (⟨#[]⟩ : ByteArray), (⟨#[]⟩ : ByteArray), (⟨#[]⟩ : ByteArray), (⟨#[105, 105]⟩ : ByteArray), (⟨#[61]⟩ : ByteArray), (⟨#[98]⟩ : ByteArray), (⟨#[42]⟩ : ByteArray), (⟨#[42]⟩ : ByteArray), (⟨#[98, 98]⟩ : ByteArray)].getD o.toNat ⟨#[]⟩ else ⟨#[]⟩
set_option maxHeartbeats 8000000 in
theorem sorted_p (o : Int) (w : World) :
    Calls Try.prog 44 #[.int .i64 o] w fun e w' => e = .returned (.tuple #[.int .u8 (letS o), .string (kidS o)]) ∧ Below w.heap.size w w' := by
  have ho : (o < 0 ∨ 20 < o) ∨ o = 0 ∨ o = 1 ∨ o = 2 ∨ o = 3 ∨ o = 4 ∨ o = 5 ∨ o = 6 ∨ o = 7 ∨ o = 8 ∨ o = 9 ∨ o = 10 ∨ o = 11 ∨ o = 12 ∨ o = 13 ∨ o = 14 ∨ o = 15 ∨ o = 16 ∨ o = 17 ∨ o = 18 ∨ o = 19 ∨ o = 20 := by omega
  rcases ho with ho | rfl | rfl | rfl | rfl | rfl | rfl | rfl | rfl | rfl | rfl | rfl | rfl | rfl | rfl | rfl | rfl | rfl | rfl | rfl | rfl | rfl
  · have HW := Lib.hid (Below.refl w.heap.size w)
    have e1 : letS o = 63 := if_neg (by omega)
    have e2 : kidS o = ⟨#[]⟩ := if_neg (by omega)
    rw [e1, e2]
    clear e1 e2
    have hor : (decide (o < 0) || decide (20 < o)) = true := by rcases ho with h | h <;> simp [h]
    by_cases h0 : o < 0
    · have h1 : decide (o < 0) = true := decide_eq_true h0
      clear ho hor
      go_enter Try.func44, Try.ntmps44
      go_wp2_with fail
      (try simp only [Exit.inBlock, Exit.then])
      exact bodyPost_ret (v := .tuple #[.int .u8 63, .string ⟨#[]⟩]) (by simp [results, Try.results44, go_sem]) rfl ⟨rfl, HW.out⟩
    · have h1 : decide (o < 0) = false := decide_eq_false h0
      have h2 : decide (20 < o) = true := decide_eq_true (by omega)
      clear ho hor
      go_enter Try.func44, Try.ntmps44
      go_wp2_with fail
      (try simp only [Exit.inBlock, Exit.then])
      exact bodyPost_ret (v := .tuple #[.int .u8 63, .string ⟨#[]⟩]) (by simp [results, Try.results44, go_sem]) rfl ⟨rfl, HW.out⟩
  · have HW := Lib.hid (Below.refl w.heap.size w)
    have e1 : letS 0 = 105 := rfl
    have e2 : kidS 0 = ⟨#[]⟩ := rfl
    rw [e1, e2]
    clear e1 e2
    have hix : ∀ w : World, (Instr.index 100 (.agg #[.string ⟨#[105]⟩, .string ⟨#[105]⟩, .string ⟨#[105, 105, 105]⟩, .string ⟨#[105, 105]⟩, .string ⟨#[105, 105, 105]⟩, .string ⟨#[105, 105]⟩, .string ⟨#[105, 108]⟩, .string ⟨#[105, 108]⟩, .string ⟨#[108]⟩, .string ⟨#[108]⟩, .string ⟨#[108, 105, 108]⟩, .string ⟨#[108, 108]⟩, .string ⟨#[98]⟩, .string ⟨#[98]⟩, .string ⟨#[98]⟩, .string ⟨#[98, 105, 105]⟩, .string ⟨#[98, 61]⟩, .string ⟨#[98, 98]⟩, .string ⟨#[98, 42]⟩, .string ⟨#[98, 42]⟩, .string ⟨#[98, 98, 98]⟩]) (.int .i64 0)).run Try.prog w = .ok (.string ⟨#[105]⟩) w := fun w => by unfold Instr.index; simp [go_sem, asIntOf]
    have hix2 := hix w
    clear hix
    go_enter Try.func44, Try.ntmps44
    go_upto_region 4 with fail
    have hog : Hid (∀ q, q < 0 → (fun q => 0) q < w.heap.size) := Lib.hid (fun q h => absurd h (Nat.not_lt_zero _))
    refine Rel7.region (by kernel_rfl) [[], [0], [], [2], [0, 1], [0, 1, 2, 3, 4]] [] [] (fun q => 0) 0 6 (by kernel_rfl) (by kernel_rfl) (by rfl) hog.out (fun q q' h h' hn => absurd hn (by omega)) ?_
    refine Rel7.Chain.det ?_ (by rfl) (fun T xs wr hA => ?_) ?_
    rotate_left 1
    · have e4 := hA.pre 4 (by kernel_rfl)
      simp only [List.getElem?_toArray, List.getElem?_cons_succ, List.getElem?_cons_zero] at e4
      clear hA
      refine ⟨(by rfl), ?_⟩
      go_simp <;> (try with_reducible rfl)
    refine Rel7.Chain.det ?_ (by rfl) (fun T xs wr hA => ?_) ?_
    rotate_left 1
    · have e14 := hA.tm 0 14 (by rfl) (by rfl)
      have f14 : xs 0 = _ := hA.fa 0 (by rfl)
      (try simp (disch := first | rfl | decide) only [Rel7.mask_in] at f14)
      rw [f14] at e14
      clear f14
      clear hA
      refine ⟨(by rfl), ?_⟩
      go_simp <;> (try with_reducible rfl)
    refine Rel7.Chain.det ?_ (by rfl) (fun T xs wr hA => ?_) ?_
    rotate_left 1
    · have e4 := hA.pre 4 (by kernel_rfl)
      simp only [List.getElem?_toArray, List.getElem?_cons_succ, List.getElem?_cons_zero] at e4
      clear hA
      refine ⟨(by rfl), ?_⟩
      go_simp <;> (try with_reducible rfl)
    refine Rel7.Chain.det ?_ (by rfl) (fun T xs wr hA => ?_) ?_
    rotate_left 1
    · have e16 := hA.tm 2 16 (by rfl) (by rfl)
      have f16 : xs 2 = _ := hA.fa 2 (by rfl)
      (try simp (disch := first | rfl | decide) only [Rel7.mask_in] at f16)
      rw [f16] at e16
      clear f16
      clear hA
      refine ⟨(by rfl), ?_⟩
      go_simp <;> (try with_reducible rfl)
    refine Rel7.Chain.det ?_ (by rfl) (fun T xs wr hA => ?_) ?_
    rotate_left 1
    · have e15 := hA.tm 1 15 (by rfl) (by rfl)
      have f15 : xs 1 = _ := hA.fa 1 (by rfl)
      (try simp (disch := first | rfl | decide) only [Rel7.mask_in] at f15)
      rw [f15] at e15
      clear f15
      clear hA
      refine ⟨(by rfl), ?_⟩
      go_simp <;> (try with_reducible rfl)
    refine Rel7.Chain.det ?_ (by rfl) (fun T xs wr hA => ?_) ?_
    rotate_left 1
    · have e17 := hA.tm 3 17 (by rfl) (by rfl)
      have f17 : xs 3 = _ := hA.fa 3 (by rfl)
      (try simp (disch := first | rfl | decide) only [Rel7.mask_in] at f17)
      rw [f17] at e17
      clear f17
      clear hA
      refine ⟨(by rfl), ?_⟩
      go_simp <;> (try with_reducible rfl)
    refine Rel7.Chain.done (fun xs x1 hL => ?_)
    obtain ⟨⟨hbe, hbl⟩, hf, -, -⟩ := hL
    have f0 : xs 0 = _ := hf 0 (by decide)
    (try simp (disch := first | rfl | decide) only [Rel7.mask_in] at f0)
    have f1 : xs 1 = _ := hf 1 (by decide)
    (try simp (disch := first | rfl | decide) only [Rel7.mask_in] at f1)
    have f2 : xs 2 = _ := hf 2 (by decide)
    (try simp (disch := first | rfl | decide) only [Rel7.mask_in] at f2)
    have f3 : xs 3 = _ := hf 3 (by decide)
    (try simp (disch := first | rfl | decide) only [Rel7.mask_in] at f3)
    have f4 : xs 4 = _ := hf 4 (by decide)
    (try simp (disch := first | rfl | decide) only [Rel7.mask_in] at f4)
    have f5 : xs 5 = _ := hf 5 (by decide)
    (try simp (disch := first | rfl | decide) only [Rel7.mask_in] at f5)
    have hb0 : Below 0 w x1 := undrew (hbe 0 (Nat.zero_le _) (fun _ _ => Nat.zero_le _))
    have hgr : ∀ j, j < w.heap.size → (∀ q, q < 0 → (fun q => 0) q ≠ j) → x1.heap[j]? = w.heap[j]? := hbl
    clear hbe hbl hf
    have hb : Below w.heap.size w x1 := ⟨hb0.os, hb0.tape, hb0.output, hb0.size, fun q hq => hgr q hq (fun q h => absurd h (Nat.not_lt_zero _))⟩
    refine Rel7.rest_done ?_
    simp only [Rel7.fill, List.setIfInBounds_toArray, List.set_cons_zero, List.set_cons_succ, f0, f1, f2, f3, f4, f5]
    clear hb0 hgr hog  f0 f1 f2 f3 f4 f5
    replace HW := Lib.hid (HW.out.trans (hb.mono HW.out.size))
    replace hb := Lib.hid hb
    go_wp2_with fail
    (try simp only [Exit.inBlock, Exit.then])
    exact bodyPost_ret (v := .tuple #[.int .u8 105, .string ⟨#[]⟩]) (by simp [results, Try.results44, go_sem] <;> first | rfl | (refine ⟨?_, ?_⟩ <;> first | rfl | (apply ByteArray.ext; rfl))) rfl ⟨rfl, HW.out⟩
  · have HW := Lib.hid (Below.refl w.heap.size w)
    have e1 : letS 1 = 105 := rfl
    have e2 : kidS 1 = ⟨#[]⟩ := rfl
    rw [e1, e2]
    clear e1 e2
    have hix : ∀ w : World, (Instr.index 100 (.agg #[.string ⟨#[105]⟩, .string ⟨#[105]⟩, .string ⟨#[105, 105, 105]⟩, .string ⟨#[105, 105]⟩, .string ⟨#[105, 105, 105]⟩, .string ⟨#[105, 105]⟩, .string ⟨#[105, 108]⟩, .string ⟨#[105, 108]⟩, .string ⟨#[108]⟩, .string ⟨#[108]⟩, .string ⟨#[108, 105, 108]⟩, .string ⟨#[108, 108]⟩, .string ⟨#[98]⟩, .string ⟨#[98]⟩, .string ⟨#[98]⟩, .string ⟨#[98, 105, 105]⟩, .string ⟨#[98, 61]⟩, .string ⟨#[98, 98]⟩, .string ⟨#[98, 42]⟩, .string ⟨#[98, 42]⟩, .string ⟨#[98, 98, 98]⟩]) (.int .i64 1)).run Try.prog w = .ok (.string ⟨#[105]⟩) w := fun w => by unfold Instr.index; simp [go_sem, asIntOf]
    have hix2 := hix w
    clear hix
    go_enter Try.func44, Try.ntmps44
    go_upto_region 4 with fail
    have hog : Hid (∀ q, q < 0 → (fun q => 0) q < w.heap.size) := Lib.hid (fun q h => absurd h (Nat.not_lt_zero _))
    refine Rel7.region (by kernel_rfl) [[], [0], [], [2], [0, 1], [0, 1, 2, 3, 4]] [] [] (fun q => 0) 0 6 (by kernel_rfl) (by kernel_rfl) (by rfl) hog.out (fun q q' h h' hn => absurd hn (by omega)) ?_
    refine Rel7.Chain.det ?_ (by rfl) (fun T xs wr hA => ?_) ?_
    rotate_left 1
    · have e4 := hA.pre 4 (by kernel_rfl)
      simp only [List.getElem?_toArray, List.getElem?_cons_succ, List.getElem?_cons_zero] at e4
      clear hA
      refine ⟨(by rfl), ?_⟩
      go_simp <;> (try with_reducible rfl)
    refine Rel7.Chain.det ?_ (by rfl) (fun T xs wr hA => ?_) ?_
    rotate_left 1
    · have e14 := hA.tm 0 14 (by rfl) (by rfl)
      have f14 : xs 0 = _ := hA.fa 0 (by rfl)
      (try simp (disch := first | rfl | decide) only [Rel7.mask_in] at f14)
      rw [f14] at e14
      clear f14
      clear hA
      refine ⟨(by rfl), ?_⟩
      go_simp <;> (try with_reducible rfl)
    refine Rel7.Chain.det ?_ (by rfl) (fun T xs wr hA => ?_) ?_
    rotate_left 1
    · have e4 := hA.pre 4 (by kernel_rfl)
      simp only [List.getElem?_toArray, List.getElem?_cons_succ, List.getElem?_cons_zero] at e4
      clear hA
      refine ⟨(by rfl), ?_⟩
      go_simp <;> (try with_reducible rfl)
    refine Rel7.Chain.det ?_ (by rfl) (fun T xs wr hA => ?_) ?_
    rotate_left 1
    · have e16 := hA.tm 2 16 (by rfl) (by rfl)
      have f16 : xs 2 = _ := hA.fa 2 (by rfl)
      (try simp (disch := first | rfl | decide) only [Rel7.mask_in] at f16)
      rw [f16] at e16
      clear f16
      clear hA
      refine ⟨(by rfl), ?_⟩
      go_simp <;> (try with_reducible rfl)
    refine Rel7.Chain.det ?_ (by rfl) (fun T xs wr hA => ?_) ?_
    rotate_left 1
    · have e15 := hA.tm 1 15 (by rfl) (by rfl)
      have f15 : xs 1 = _ := hA.fa 1 (by rfl)
      (try simp (disch := first | rfl | decide) only [Rel7.mask_in] at f15)
      rw [f15] at e15
      clear f15
      clear hA
      refine ⟨(by rfl), ?_⟩
      go_simp <;> (try with_reducible rfl)
    refine Rel7.Chain.det ?_ (by rfl) (fun T xs wr hA => ?_) ?_
    rotate_left 1
    · have e17 := hA.tm 3 17 (by rfl) (by rfl)
      have f17 : xs 3 = _ := hA.fa 3 (by rfl)
      (try simp (disch := first | rfl | decide) only [Rel7.mask_in] at f17)
      rw [f17] at e17
      clear f17
      clear hA
      refine ⟨(by rfl), ?_⟩
      go_simp <;> (try with_reducible rfl)
    refine Rel7.Chain.done (fun xs x1 hL => ?_)
    obtain ⟨⟨hbe, hbl⟩, hf, -, -⟩ := hL
    have f0 : xs 0 = _ := hf 0 (by decide)
    (try simp (disch := first | rfl | decide) only [Rel7.mask_in] at f0)
    have f1 : xs 1 = _ := hf 1 (by decide)
    (try simp (disch := first | rfl | decide) only [Rel7.mask_in] at f1)
    have f2 : xs 2 = _ := hf 2 (by decide)
    (try simp (disch := first | rfl | decide) only [Rel7.mask_in] at f2)
    have f3 : xs 3 = _ := hf 3 (by decide)
    (try simp (disch := first | rfl | decide) only [Rel7.mask_in] at f3)
    have f4 : xs 4 = _ := hf 4 (by decide)
    (try simp (disch := first | rfl | decide) only [Rel7.mask_in] at f4)
    have f5 : xs 5 = _ := hf 5 (by decide)
    (try simp (disch := first | rfl | decide) only [Rel7.mask_in] at f5)
    have hb0 : Below 0 w x1 := undrew (hbe 0 (Nat.zero_le _) (fun _ _ => Nat.zero_le _))
    have hgr : ∀ j, j < w.heap.size → (∀ q, q < 0 → (fun q => 0) q ≠ j) → x1.heap[j]? = w.heap[j]? := hbl
    clear hbe hbl hf
    have hb : Below w.heap.size w x1 := ⟨hb0.os, hb0.tape, hb0.output, hb0.size, fun q hq => hgr q hq (fun q h => absurd h (Nat.not_lt_zero _))⟩
    refine Rel7.rest_done ?_
    simp only [Rel7.fill, List.setIfInBounds_toArray, List.set_cons_zero, List.set_cons_succ, f0, f1, f2, f3, f4, f5]
    clear hb0 hgr hog  f0 f1 f2 f3 f4 f5
    replace HW := Lib.hid (HW.out.trans (hb.mono HW.out.size))
    replace hb := Lib.hid hb
    go_wp2_with fail
    (try simp only [Exit.inBlock, Exit.then])
    exact bodyPost_ret (v := .tuple #[.int .u8 105, .string ⟨#[]⟩]) (by simp [results, Try.results44, go_sem] <;> first | rfl | (refine ⟨?_, ?_⟩ <;> first | rfl | (apply ByteArray.ext; rfl))) rfl ⟨rfl, HW.out⟩
  · have HW := Lib.hid (Below.refl w.heap.size w)
    have e1 : letS 2 = 105 := rfl
    have e2 : kidS 2 = ⟨#[105, 105]⟩ := rfl
    rw [e1, e2]
    clear e1 e2
    have hix : ∀ w : World, (Instr.index 100 (.agg #[.string ⟨#[105]⟩, .string ⟨#[105]⟩, .string ⟨#[105, 105, 105]⟩, .string ⟨#[105, 105]⟩, .string ⟨#[105, 105, 105]⟩, .string ⟨#[105, 105]⟩, .string ⟨#[105, 108]⟩, .string ⟨#[105, 108]⟩, .string ⟨#[108]⟩, .string ⟨#[108]⟩, .string ⟨#[108, 105, 108]⟩, .string ⟨#[108, 108]⟩, .string ⟨#[98]⟩, .string ⟨#[98]⟩, .string ⟨#[98]⟩, .string ⟨#[98, 105, 105]⟩, .string ⟨#[98, 61]⟩, .string ⟨#[98, 98]⟩, .string ⟨#[98, 42]⟩, .string ⟨#[98, 42]⟩, .string ⟨#[98, 98, 98]⟩]) (.int .i64 2)).run Try.prog w = .ok (.string ⟨#[105, 105, 105]⟩) w := fun w => by unfold Instr.index; simp [go_sem, asIntOf]
    have hix2 := hix w
    clear hix
    go_enter Try.func44, Try.ntmps44
    go_upto_region 4 with fail
    have hog : Hid (∀ q, q < 0 → (fun q => 0) q < w.heap.size) := Lib.hid (fun q h => absurd h (Nat.not_lt_zero _))
    refine Rel7.region (by kernel_rfl) [[], [0], [], [2], [0, 1], [0, 1, 2, 3, 4]] [] [] (fun q => 0) 0 6 (by kernel_rfl) (by kernel_rfl) (by rfl) hog.out (fun q q' h h' hn => absurd hn (by omega)) ?_
    refine Rel7.Chain.det ?_ (by rfl) (fun T xs wr hA => ?_) ?_
    rotate_left 1
    · have e4 := hA.pre 4 (by kernel_rfl)
      simp only [List.getElem?_toArray, List.getElem?_cons_succ, List.getElem?_cons_zero] at e4
      clear hA
      refine ⟨(by rfl), ?_⟩
      go_simp <;> (try with_reducible rfl)
    refine Rel7.Chain.det ?_ (by rfl) (fun T xs wr hA => ?_) ?_
    rotate_left 1
    · have e14 := hA.tm 0 14 (by rfl) (by rfl)
      have f14 : xs 0 = _ := hA.fa 0 (by rfl)
      (try simp (disch := first | rfl | decide) only [Rel7.mask_in] at f14)
      rw [f14] at e14
      clear f14
      clear hA
      refine ⟨(by rfl), ?_⟩
      go_simp <;> (try with_reducible rfl)
    refine Rel7.Chain.det ?_ (by rfl) (fun T xs wr hA => ?_) ?_
    rotate_left 1
    · have e4 := hA.pre 4 (by kernel_rfl)
      simp only [List.getElem?_toArray, List.getElem?_cons_succ, List.getElem?_cons_zero] at e4
      clear hA
      refine ⟨(by rfl), ?_⟩
      go_simp <;> (try with_reducible rfl)
    refine Rel7.Chain.det ?_ (by rfl) (fun T xs wr hA => ?_) ?_
    rotate_left 1
    · have e16 := hA.tm 2 16 (by rfl) (by rfl)
      have f16 : xs 2 = _ := hA.fa 2 (by rfl)
      (try simp (disch := first | rfl | decide) only [Rel7.mask_in] at f16)
      rw [f16] at e16
      clear f16
      clear hA
      refine ⟨(by rfl), ?_⟩
      go_simp <;> (try with_reducible rfl)
    refine Rel7.Chain.det ?_ (by rfl) (fun T xs wr hA => ?_) ?_
    rotate_left 1
    · have e15 := hA.tm 1 15 (by rfl) (by rfl)
      have f15 : xs 1 = _ := hA.fa 1 (by rfl)
      (try simp (disch := first | rfl | decide) only [Rel7.mask_in] at f15)
      rw [f15] at e15
      clear f15
      clear hA
      refine ⟨(by rfl), ?_⟩
      go_simp <;> (try with_reducible rfl)
    refine Rel7.Chain.det ?_ (by rfl) (fun T xs wr hA => ?_) ?_
    rotate_left 1
    · have e17 := hA.tm 3 17 (by rfl) (by rfl)
      have f17 : xs 3 = _ := hA.fa 3 (by rfl)
      (try simp (disch := first | rfl | decide) only [Rel7.mask_in] at f17)
      rw [f17] at e17
      clear f17
      clear hA
      refine ⟨(by rfl), ?_⟩
      go_simp <;> (try with_reducible rfl)
    refine Rel7.Chain.done (fun xs x1 hL => ?_)
    obtain ⟨⟨hbe, hbl⟩, hf, -, -⟩ := hL
    have f0 : xs 0 = _ := hf 0 (by decide)
    (try simp (disch := first | rfl | decide) only [Rel7.mask_in] at f0)
    have f1 : xs 1 = _ := hf 1 (by decide)
    (try simp (disch := first | rfl | decide) only [Rel7.mask_in] at f1)
    have f2 : xs 2 = _ := hf 2 (by decide)
    (try simp (disch := first | rfl | decide) only [Rel7.mask_in] at f2)
    have f3 : xs 3 = _ := hf 3 (by decide)
    (try simp (disch := first | rfl | decide) only [Rel7.mask_in] at f3)
    have f4 : xs 4 = _ := hf 4 (by decide)
    (try simp (disch := first | rfl | decide) only [Rel7.mask_in] at f4)
    have f5 : xs 5 = _ := hf 5 (by decide)
    (try simp (disch := first | rfl | decide) only [Rel7.mask_in] at f5)
    have hb0 : Below 0 w x1 := undrew (hbe 0 (Nat.zero_le _) (fun _ _ => Nat.zero_le _))
    have hgr : ∀ j, j < w.heap.size → (∀ q, q < 0 → (fun q => 0) q ≠ j) → x1.heap[j]? = w.heap[j]? := hbl
    clear hbe hbl hf
    have hb : Below w.heap.size w x1 := ⟨hb0.os, hb0.tape, hb0.output, hb0.size, fun q hq => hgr q hq (fun q h => absurd h (Nat.not_lt_zero _))⟩
    refine Rel7.rest_done ?_
    simp only [Rel7.fill, List.setIfInBounds_toArray, List.set_cons_zero, List.set_cons_succ, f0, f1, f2, f3, f4, f5]
    clear hb0 hgr hog  f0 f1 f2 f3 f4 f5
    replace HW := Lib.hid (HW.out.trans (hb.mono HW.out.size))
    replace hb := Lib.hid hb
    go_wp2_with fail
    (try simp only [Exit.inBlock, Exit.then])
    exact bodyPost_ret (v := .tuple #[.int .u8 105, .string ⟨#[105, 105]⟩]) (by simp [results, Try.results44, go_sem] <;> first | rfl | (refine ⟨?_, ?_⟩ <;> first | rfl | (apply ByteArray.ext; rfl))) rfl ⟨rfl, HW.out⟩
  · have HW := Lib.hid (Below.refl w.heap.size w)
    have e1 : letS 3 = 105 := rfl
    have e2 : kidS 3 = ⟨#[105]⟩ := rfl
    rw [e1, e2]
    clear e1 e2
    have hix : ∀ w : World, (Instr.index 100 (.agg #[.string ⟨#[105]⟩, .string ⟨#[105]⟩, .string ⟨#[105, 105, 105]⟩, .string ⟨#[105, 105]⟩, .string ⟨#[105, 105, 105]⟩, .string ⟨#[105, 105]⟩, .string ⟨#[105, 108]⟩, .string ⟨#[105, 108]⟩, .string ⟨#[108]⟩, .string ⟨#[108]⟩, .string ⟨#[108, 105, 108]⟩, .string ⟨#[108, 108]⟩, .string ⟨#[98]⟩, .string ⟨#[98]⟩, .string ⟨#[98]⟩, .string ⟨#[98, 105, 105]⟩, .string ⟨#[98, 61]⟩, .string ⟨#[98, 98]⟩, .string ⟨#[98, 42]⟩, .string ⟨#[98, 42]⟩, .string ⟨#[98, 98, 98]⟩]) (.int .i64 3)).run Try.prog w = .ok (.string ⟨#[105, 105]⟩) w := fun w => by unfold Instr.index; simp [go_sem, asIntOf]
    have hix2 := hix w
    clear hix
    go_enter Try.func44, Try.ntmps44
    go_upto_region 4 with fail
    have hog : Hid (∀ q, q < 0 → (fun q => 0) q < w.heap.size) := Lib.hid (fun q h => absurd h (Nat.not_lt_zero _))
    refine Rel7.region (by kernel_rfl) [[], [0], [], [2], [0, 1], [0, 1, 2, 3, 4]] [] [] (fun q => 0) 0 6 (by kernel_rfl) (by kernel_rfl) (by rfl) hog.out (fun q q' h h' hn => absurd hn (by omega)) ?_
    refine Rel7.Chain.det ?_ (by rfl) (fun T xs wr hA => ?_) ?_
    rotate_left 1
    · have e4 := hA.pre 4 (by kernel_rfl)
      simp only [List.getElem?_toArray, List.getElem?_cons_succ, List.getElem?_cons_zero] at e4
      clear hA
      refine ⟨(by rfl), ?_⟩
      go_simp <;> (try with_reducible rfl)
    refine Rel7.Chain.det ?_ (by rfl) (fun T xs wr hA => ?_) ?_
    rotate_left 1
    · have e14 := hA.tm 0 14 (by rfl) (by rfl)
      have f14 : xs 0 = _ := hA.fa 0 (by rfl)
      (try simp (disch := first | rfl | decide) only [Rel7.mask_in] at f14)
      rw [f14] at e14
      clear f14
      clear hA
      refine ⟨(by rfl), ?_⟩
      go_simp <;> (try with_reducible rfl)
    refine Rel7.Chain.det ?_ (by rfl) (fun T xs wr hA => ?_) ?_
    rotate_left 1
    · have e4 := hA.pre 4 (by kernel_rfl)
      simp only [List.getElem?_toArray, List.getElem?_cons_succ, List.getElem?_cons_zero] at e4
      clear hA
      refine ⟨(by rfl), ?_⟩
      go_simp <;> (try with_reducible rfl)
    refine Rel7.Chain.det ?_ (by rfl) (fun T xs wr hA => ?_) ?_
    rotate_left 1
    · have e16 := hA.tm 2 16 (by rfl) (by rfl)
      have f16 : xs 2 = _ := hA.fa 2 (by rfl)
      (try simp (disch := first | rfl | decide) only [Rel7.mask_in] at f16)
      rw [f16] at e16
      clear f16
      clear hA
      refine ⟨(by rfl), ?_⟩
      go_simp <;> (try with_reducible rfl)
    refine Rel7.Chain.det ?_ (by rfl) (fun T xs wr hA => ?_) ?_
    rotate_left 1
    · have e15 := hA.tm 1 15 (by rfl) (by rfl)
      have f15 : xs 1 = _ := hA.fa 1 (by rfl)
      (try simp (disch := first | rfl | decide) only [Rel7.mask_in] at f15)
      rw [f15] at e15
      clear f15
      clear hA
      refine ⟨(by rfl), ?_⟩
      go_simp <;> (try with_reducible rfl)
    refine Rel7.Chain.det ?_ (by rfl) (fun T xs wr hA => ?_) ?_
    rotate_left 1
    · have e17 := hA.tm 3 17 (by rfl) (by rfl)
      have f17 : xs 3 = _ := hA.fa 3 (by rfl)
      (try simp (disch := first | rfl | decide) only [Rel7.mask_in] at f17)
      rw [f17] at e17
      clear f17
      clear hA
      refine ⟨(by rfl), ?_⟩
      go_simp <;> (try with_reducible rfl)
    refine Rel7.Chain.done (fun xs x1 hL => ?_)
    obtain ⟨⟨hbe, hbl⟩, hf, -, -⟩ := hL
    have f0 : xs 0 = _ := hf 0 (by decide)
    (try simp (disch := first | rfl | decide) only [Rel7.mask_in] at f0)
    have f1 : xs 1 = _ := hf 1 (by decide)
    (try simp (disch := first | rfl | decide) only [Rel7.mask_in] at f1)
    have f2 : xs 2 = _ := hf 2 (by decide)
    (try simp (disch := first | rfl | decide) only [Rel7.mask_in] at f2)
    have f3 : xs 3 = _ := hf 3 (by decide)
    (try simp (disch := first | rfl | decide) only [Rel7.mask_in] at f3)
    have f4 : xs 4 = _ := hf 4 (by decide)
    (try simp (disch := first | rfl | decide) only [Rel7.mask_in] at f4)
    have f5 : xs 5 = _ := hf 5 (by decide)
    (try simp (disch := first | rfl | decide) only [Rel7.mask_in] at f5)
    have hb0 : Below 0 w x1 := undrew (hbe 0 (Nat.zero_le _) (fun _ _ => Nat.zero_le _))
    have hgr : ∀ j, j < w.heap.size → (∀ q, q < 0 → (fun q => 0) q ≠ j) → x1.heap[j]? = w.heap[j]? := hbl
    clear hbe hbl hf
    have hb : Below w.heap.size w x1 := ⟨hb0.os, hb0.tape, hb0.output, hb0.size, fun q hq => hgr q hq (fun q h => absurd h (Nat.not_lt_zero _))⟩
    refine Rel7.rest_done ?_
    simp only [Rel7.fill, List.setIfInBounds_toArray, List.set_cons_zero, List.set_cons_succ, f0, f1, f2, f3, f4, f5]
    clear hb0 hgr hog  f0 f1 f2 f3 f4 f5
    replace HW := Lib.hid (HW.out.trans (hb.mono HW.out.size))
    replace hb := Lib.hid hb
    go_wp2_with fail
    (try simp only [Exit.inBlock, Exit.then])
    exact bodyPost_ret (v := .tuple #[.int .u8 105, .string ⟨#[105]⟩]) (by simp [results, Try.results44, go_sem] <;> first | rfl | (refine ⟨?_, ?_⟩ <;> first | rfl | (apply ByteArray.ext; rfl))) rfl ⟨rfl, HW.out⟩
  · have HW := Lib.hid (Below.refl w.heap.size w)
    have e1 : letS 4 = 105 := rfl
    have e2 : kidS 4 = ⟨#[105, 105]⟩ := rfl
    rw [e1, e2]
    clear e1 e2
    have hix : ∀ w : World, (Instr.index 100 (.agg #[.string ⟨#[105]⟩, .string ⟨#[105]⟩, .string ⟨#[105, 105, 105]⟩, .string ⟨#[105, 105]⟩, .string ⟨#[105, 105, 105]⟩, .string ⟨#[105, 105]⟩, .string ⟨#[105, 108]⟩, .string ⟨#[105, 108]⟩, .string ⟨#[108]⟩, .string ⟨#[108]⟩, .string ⟨#[108, 105, 108]⟩, .string ⟨#[108, 108]⟩, .string ⟨#[98]⟩, .string ⟨#[98]⟩, .string ⟨#[98]⟩, .string ⟨#[98, 105, 105]⟩, .string ⟨#[98, 61]⟩, .string ⟨#[98, 98]⟩, .string ⟨#[98, 42]⟩, .string ⟨#[98, 42]⟩, .string ⟨#[98, 98, 98]⟩]) (.int .i64 4)).run Try.prog w = .ok (.string ⟨#[105, 105, 105]⟩) w := fun w => by unfold Instr.index; simp [go_sem, asIntOf]
    have hix2 := hix w
    clear hix
    go_enter Try.func44, Try.ntmps44
    go_upto_region 4 with fail
    have hog : Hid (∀ q, q < 0 → (fun q => 0) q < w.heap.size) := Lib.hid (fun q h => absurd h (Nat.not_lt_zero _))
    refine Rel7.region (by kernel_rfl) [[], [0], [], [2], [0, 1], [0, 1, 2, 3, 4]] [] [] (fun q => 0) 0 6 (by kernel_rfl) (by kernel_rfl) (by rfl) hog.out (fun q q' h h' hn => absurd hn (by omega)) ?_
    refine Rel7.Chain.det ?_ (by rfl) (fun T xs wr hA => ?_) ?_
    rotate_left 1
    · have e4 := hA.pre 4 (by kernel_rfl)
      simp only [List.getElem?_toArray, List.getElem?_cons_succ, List.getElem?_cons_zero] at e4
      clear hA
      refine ⟨(by rfl), ?_⟩
      go_simp <;> (try with_reducible rfl)
    refine Rel7.Chain.det ?_ (by rfl) (fun T xs wr hA => ?_) ?_
    rotate_left 1
    · have e14 := hA.tm 0 14 (by rfl) (by rfl)
      have f14 : xs 0 = _ := hA.fa 0 (by rfl)
      (try simp (disch := first | rfl | decide) only [Rel7.mask_in] at f14)
      rw [f14] at e14
      clear f14
      clear hA
      refine ⟨(by rfl), ?_⟩
      go_simp <;> (try with_reducible rfl)
    refine Rel7.Chain.det ?_ (by rfl) (fun T xs wr hA => ?_) ?_
    rotate_left 1
    · have e4 := hA.pre 4 (by kernel_rfl)
      simp only [List.getElem?_toArray, List.getElem?_cons_succ, List.getElem?_cons_zero] at e4
      clear hA
      refine ⟨(by rfl), ?_⟩
      go_simp <;> (try with_reducible rfl)
    refine Rel7.Chain.det ?_ (by rfl) (fun T xs wr hA => ?_) ?_
    rotate_left 1
    · have e16 := hA.tm 2 16 (by rfl) (by rfl)
      have f16 : xs 2 = _ := hA.fa 2 (by rfl)
      (try simp (disch := first | rfl | decide) only [Rel7.mask_in] at f16)
      rw [f16] at e16
      clear f16
      clear hA
      refine ⟨(by rfl), ?_⟩
      go_simp <;> (try with_reducible rfl)
    refine Rel7.Chain.det ?_ (by rfl) (fun T xs wr hA => ?_) ?_
    rotate_left 1
    · have e15 := hA.tm 1 15 (by rfl) (by rfl)
      have f15 : xs 1 = _ := hA.fa 1 (by rfl)
      (try simp (disch := first | rfl | decide) only [Rel7.mask_in] at f15)
      rw [f15] at e15
      clear f15
      clear hA
      refine ⟨(by rfl), ?_⟩
      go_simp <;> (try with_reducible rfl)
    refine Rel7.Chain.det ?_ (by rfl) (fun T xs wr hA => ?_) ?_
    rotate_left 1
    · have e17 := hA.tm 3 17 (by rfl) (by rfl)
      have f17 : xs 3 = _ := hA.fa 3 (by rfl)
      (try simp (disch := first | rfl | decide) only [Rel7.mask_in] at f17)
      rw [f17] at e17
      clear f17
      clear hA
      refine ⟨(by rfl), ?_⟩
      go_simp <;> (try with_reducible rfl)
    refine Rel7.Chain.done (fun xs x1 hL => ?_)
    obtain ⟨⟨hbe, hbl⟩, hf, -, -⟩ := hL
    have f0 : xs 0 = _ := hf 0 (by decide)
    (try simp (disch := first | rfl | decide) only [Rel7.mask_in] at f0)
    have f1 : xs 1 = _ := hf 1 (by decide)
    (try simp (disch := first | rfl | decide) only [Rel7.mask_in] at f1)
    have f2 : xs 2 = _ := hf 2 (by decide)
    (try simp (disch := first | rfl | decide) only [Rel7.mask_in] at f2)
    have f3 : xs 3 = _ := hf 3 (by decide)
    (try simp (disch := first | rfl | decide) only [Rel7.mask_in] at f3)
    have f4 : xs 4 = _ := hf 4 (by decide)
    (try simp (disch := first | rfl | decide) only [Rel7.mask_in] at f4)
    have f5 : xs 5 = _ := hf 5 (by decide)
    (try simp (disch := first | rfl | decide) only [Rel7.mask_in] at f5)
    have hb0 : Below 0 w x1 := undrew (hbe 0 (Nat.zero_le _) (fun _ _ => Nat.zero_le _))
    have hgr : ∀ j, j < w.heap.size → (∀ q, q < 0 → (fun q => 0) q ≠ j) → x1.heap[j]? = w.heap[j]? := hbl
    clear hbe hbl hf
    have hb : Below w.heap.size w x1 := ⟨hb0.os, hb0.tape, hb0.output, hb0.size, fun q hq => hgr q hq (fun q h => absurd h (Nat.not_lt_zero _))⟩
    refine Rel7.rest_done ?_
    simp only [Rel7.fill, List.setIfInBounds_toArray, List.set_cons_zero, List.set_cons_succ, f0, f1, f2, f3, f4, f5]
    clear hb0 hgr hog  f0 f1 f2 f3 f4 f5
    replace HW := Lib.hid (HW.out.trans (hb.mono HW.out.size))
    replace hb := Lib.hid hb
    go_wp2_with fail
    (try simp only [Exit.inBlock, Exit.then])
    exact bodyPost_ret (v := .tuple #[.int .u8 105, .string ⟨#[105, 105]⟩]) (by simp [results, Try.results44, go_sem] <;> first | rfl | (refine ⟨?_, ?_⟩ <;> first | rfl | (apply ByteArray.ext; rfl))) rfl ⟨rfl, HW.out⟩
  · have HW := Lib.hid (Below.refl w.heap.size w)
    have e1 : letS 5 = 105 := rfl
    have e2 : kidS 5 = ⟨#[105]⟩ := rfl
    rw [e1, e2]
    clear e1 e2
    have hix : ∀ w : World, (Instr.index 100 (.agg #[.string ⟨#[105]⟩, .string ⟨#[105]⟩, .string ⟨#[105, 105, 105]⟩, .string ⟨#[105, 105]⟩, .string ⟨#[105, 105, 105]⟩, .string ⟨#[105, 105]⟩, .string ⟨#[105, 108]⟩, .string ⟨#[105, 108]⟩, .string ⟨#[108]⟩, .string ⟨#[108]⟩, .string ⟨#[108, 105, 108]⟩, .string ⟨#[108, 108]⟩, .string ⟨#[98]⟩, .string ⟨#[98]⟩, .string ⟨#[98]⟩, .string ⟨#[98, 105, 105]⟩, .string ⟨#[98, 61]⟩, .string ⟨#[98, 98]⟩, .string ⟨#[98, 42]⟩, .string ⟨#[98, 42]⟩, .string ⟨#[98, 98, 98]⟩]) (.int .i64 5)).run Try.prog w = .ok (.string ⟨#[105, 105]⟩) w := fun w => by unfold Instr.index; simp [go_sem, asIntOf]
    have hix2 := hix w
    clear hix
    go_enter Try.func44, Try.ntmps44
    go_upto_region 4 with fail
    have hog : Hid (∀ q, q < 0 → (fun q => 0) q < w.heap.size) := Lib.hid (fun q h => absurd h (Nat.not_lt_zero _))
    refine Rel7.region (by kernel_rfl) [[], [0], [], [2], [0, 1], [0, 1, 2, 3, 4]] [] [] (fun q => 0) 0 6 (by kernel_rfl) (by kernel_rfl) (by rfl) hog.out (fun q q' h h' hn => absurd hn (by omega)) ?_
    refine Rel7.Chain.det ?_ (by rfl) (fun T xs wr hA => ?_) ?_
    rotate_left 1
    · have e4 := hA.pre 4 (by kernel_rfl)
      simp only [List.getElem?_toArray, List.getElem?_cons_succ, List.getElem?_cons_zero] at e4
      clear hA
      refine ⟨(by rfl), ?_⟩
      go_simp <;> (try with_reducible rfl)
    refine Rel7.Chain.det ?_ (by rfl) (fun T xs wr hA => ?_) ?_
    rotate_left 1
    · have e14 := hA.tm 0 14 (by rfl) (by rfl)
      have f14 : xs 0 = _ := hA.fa 0 (by rfl)
      (try simp (disch := first | rfl | decide) only [Rel7.mask_in] at f14)
      rw [f14] at e14
      clear f14
      clear hA
      refine ⟨(by rfl), ?_⟩
      go_simp <;> (try with_reducible rfl)
    refine Rel7.Chain.det ?_ (by rfl) (fun T xs wr hA => ?_) ?_
    rotate_left 1
    · have e4 := hA.pre 4 (by kernel_rfl)
      simp only [List.getElem?_toArray, List.getElem?_cons_succ, List.getElem?_cons_zero] at e4
      clear hA
      refine ⟨(by rfl), ?_⟩
      go_simp <;> (try with_reducible rfl)
    refine Rel7.Chain.det ?_ (by rfl) (fun T xs wr hA => ?_) ?_
    rotate_left 1
    · have e16 := hA.tm 2 16 (by rfl) (by rfl)
      have f16 : xs 2 = _ := hA.fa 2 (by rfl)
      (try simp (disch := first | rfl | decide) only [Rel7.mask_in] at f16)
      rw [f16] at e16
      clear f16
      clear hA
      refine ⟨(by rfl), ?_⟩
      go_simp <;> (try with_reducible rfl)
    refine Rel7.Chain.det ?_ (by rfl) (fun T xs wr hA => ?_) ?_
    rotate_left 1
    · have e15 := hA.tm 1 15 (by rfl) (by rfl)
      have f15 : xs 1 = _ := hA.fa 1 (by rfl)
      (try simp (disch := first | rfl | decide) only [Rel7.mask_in] at f15)
      rw [f15] at e15
      clear f15
      clear hA
      refine ⟨(by rfl), ?_⟩
      go_simp <;> (try with_reducible rfl)
    refine Rel7.Chain.det ?_ (by rfl) (fun T xs wr hA => ?_) ?_
    rotate_left 1
    · have e17 := hA.tm 3 17 (by rfl) (by rfl)
      have f17 : xs 3 = _ := hA.fa 3 (by rfl)
      (try simp (disch := first | rfl | decide) only [Rel7.mask_in] at f17)
      rw [f17] at e17
      clear f17
      clear hA
      refine ⟨(by rfl), ?_⟩
      go_simp <;> (try with_reducible rfl)
    refine Rel7.Chain.done (fun xs x1 hL => ?_)
    obtain ⟨⟨hbe, hbl⟩, hf, -, -⟩ := hL
    have f0 : xs 0 = _ := hf 0 (by decide)
    (try simp (disch := first | rfl | decide) only [Rel7.mask_in] at f0)
    have f1 : xs 1 = _ := hf 1 (by decide)
    (try simp (disch := first | rfl | decide) only [Rel7.mask_in] at f1)
    have f2 : xs 2 = _ := hf 2 (by decide)
    (try simp (disch := first | rfl | decide) only [Rel7.mask_in] at f2)
    have f3 : xs 3 = _ := hf 3 (by decide)
    (try simp (disch := first | rfl | decide) only [Rel7.mask_in] at f3)
    have f4 : xs 4 = _ := hf 4 (by decide)
    (try simp (disch := first | rfl | decide) only [Rel7.mask_in] at f4)
    have f5 : xs 5 = _ := hf 5 (by decide)
    (try simp (disch := first | rfl | decide) only [Rel7.mask_in] at f5)
    have hb0 : Below 0 w x1 := undrew (hbe 0 (Nat.zero_le _) (fun _ _ => Nat.zero_le _))
    have hgr : ∀ j, j < w.heap.size → (∀ q, q < 0 → (fun q => 0) q ≠ j) → x1.heap[j]? = w.heap[j]? := hbl
    clear hbe hbl hf
    have hb : Below w.heap.size w x1 := ⟨hb0.os, hb0.tape, hb0.output, hb0.size, fun q hq => hgr q hq (fun q h => absurd h (Nat.not_lt_zero _))⟩
    refine Rel7.rest_done ?_
    simp only [Rel7.fill, List.setIfInBounds_toArray, List.set_cons_zero, List.set_cons_succ, f0, f1, f2, f3, f4, f5]
    clear hb0 hgr hog  f0 f1 f2 f3 f4 f5
    replace HW := Lib.hid (HW.out.trans (hb.mono HW.out.size))
    replace hb := Lib.hid hb
    go_wp2_with fail
    (try simp only [Exit.inBlock, Exit.then])
    exact bodyPost_ret (v := .tuple #[.int .u8 105, .string ⟨#[105]⟩]) (by simp [results, Try.results44, go_sem] <;> first | rfl | (refine ⟨?_, ?_⟩ <;> first | rfl | (apply ByteArray.ext; rfl))) rfl ⟨rfl, HW.out⟩
  · have HW := Lib.hid (Below.refl w.heap.size w)
    have e1 : letS 6 = 105 := rfl
    have e2 : kidS 6 = ⟨#[108]⟩ := rfl
    rw [e1, e2]
    clear e1 e2
    have hix : ∀ w : World, (Instr.index 100 (.agg #[.string ⟨#[105]⟩, .string ⟨#[105]⟩, .string ⟨#[105, 105, 105]⟩, .string ⟨#[105, 105]⟩, .string ⟨#[105, 105, 105]⟩, .string ⟨#[105, 105]⟩, .string ⟨#[105, 108]⟩, .string ⟨#[105, 108]⟩, .string ⟨#[108]⟩, .string ⟨#[108]⟩, .string ⟨#[108, 105, 108]⟩, .string ⟨#[108, 108]⟩, .string ⟨#[98]⟩, .string ⟨#[98]⟩, .string ⟨#[98]⟩, .string ⟨#[98, 105, 105]⟩, .string ⟨#[98, 61]⟩, .string ⟨#[98, 98]⟩, .string ⟨#[98, 42]⟩, .string ⟨#[98, 42]⟩, .string ⟨#[98, 98, 98]⟩]) (.int .i64 6)).run Try.prog w = .ok (.string ⟨#[105, 108]⟩) w := fun w => by unfold Instr.index; simp [go_sem, asIntOf]
    have hix2 := hix w
    clear hix
    go_enter Try.func44, Try.ntmps44
    go_upto_region 4 with fail
    have hog : Hid (∀ q, q < 0 → (fun q => 0) q < w.heap.size) := Lib.hid (fun q h => absurd h (Nat.not_lt_zero _))
    refine Rel7.region (by kernel_rfl) [[], [0], [], [2], [0, 1], [0, 1, 2, 3, 4]] [] [] (fun q => 0) 0 6 (by kernel_rfl) (by kernel_rfl) (by rfl) hog.out (fun q q' h h' hn => absurd hn (by omega)) ?_
    refine Rel7.Chain.det ?_ (by rfl) (fun T xs wr hA => ?_) ?_
    rotate_left 1
    · have e4 := hA.pre 4 (by kernel_rfl)
      simp only [List.getElem?_toArray, List.getElem?_cons_succ, List.getElem?_cons_zero] at e4
      clear hA
      refine ⟨(by rfl), ?_⟩
      go_simp <;> (try with_reducible rfl)
    refine Rel7.Chain.det ?_ (by rfl) (fun T xs wr hA => ?_) ?_
    rotate_left 1
    · have e14 := hA.tm 0 14 (by rfl) (by rfl)
      have f14 : xs 0 = _ := hA.fa 0 (by rfl)
      (try simp (disch := first | rfl | decide) only [Rel7.mask_in] at f14)
      rw [f14] at e14
      clear f14
      clear hA
      refine ⟨(by rfl), ?_⟩
      go_simp <;> (try with_reducible rfl)
    refine Rel7.Chain.det ?_ (by rfl) (fun T xs wr hA => ?_) ?_
    rotate_left 1
    · have e4 := hA.pre 4 (by kernel_rfl)
      simp only [List.getElem?_toArray, List.getElem?_cons_succ, List.getElem?_cons_zero] at e4
      clear hA
      refine ⟨(by rfl), ?_⟩
      go_simp <;> (try with_reducible rfl)
    refine Rel7.Chain.det ?_ (by rfl) (fun T xs wr hA => ?_) ?_
    rotate_left 1
    · have e16 := hA.tm 2 16 (by rfl) (by rfl)
      have f16 : xs 2 = _ := hA.fa 2 (by rfl)
      (try simp (disch := first | rfl | decide) only [Rel7.mask_in] at f16)
      rw [f16] at e16
      clear f16
      clear hA
      refine ⟨(by rfl), ?_⟩
      go_simp <;> (try with_reducible rfl)
    refine Rel7.Chain.det ?_ (by rfl) (fun T xs wr hA => ?_) ?_
    rotate_left 1
    · have e15 := hA.tm 1 15 (by rfl) (by rfl)
      have f15 : xs 1 = _ := hA.fa 1 (by rfl)
      (try simp (disch := first | rfl | decide) only [Rel7.mask_in] at f15)
      rw [f15] at e15
      clear f15
      clear hA
      refine ⟨(by rfl), ?_⟩
      go_simp <;> (try with_reducible rfl)
    refine Rel7.Chain.det ?_ (by rfl) (fun T xs wr hA => ?_) ?_
    rotate_left 1
    · have e17 := hA.tm 3 17 (by rfl) (by rfl)
      have f17 : xs 3 = _ := hA.fa 3 (by rfl)
      (try simp (disch := first | rfl | decide) only [Rel7.mask_in] at f17)
      rw [f17] at e17
      clear f17
      clear hA
      refine ⟨(by rfl), ?_⟩
      go_simp <;> (try with_reducible rfl)
    refine Rel7.Chain.done (fun xs x1 hL => ?_)
    obtain ⟨⟨hbe, hbl⟩, hf, -, -⟩ := hL
    have f0 : xs 0 = _ := hf 0 (by decide)
    (try simp (disch := first | rfl | decide) only [Rel7.mask_in] at f0)
    have f1 : xs 1 = _ := hf 1 (by decide)
    (try simp (disch := first | rfl | decide) only [Rel7.mask_in] at f1)
    have f2 : xs 2 = _ := hf 2 (by decide)
    (try simp (disch := first | rfl | decide) only [Rel7.mask_in] at f2)
    have f3 : xs 3 = _ := hf 3 (by decide)
    (try simp (disch := first | rfl | decide) only [Rel7.mask_in] at f3)
    have f4 : xs 4 = _ := hf 4 (by decide)
    (try simp (disch := first | rfl | decide) only [Rel7.mask_in] at f4)
    have f5 : xs 5 = _ := hf 5 (by decide)
    (try simp (disch := first | rfl | decide) only [Rel7.mask_in] at f5)
    have hb0 : Below 0 w x1 := undrew (hbe 0 (Nat.zero_le _) (fun _ _ => Nat.zero_le _))
    have hgr : ∀ j, j < w.heap.size → (∀ q, q < 0 → (fun q => 0) q ≠ j) → x1.heap[j]? = w.heap[j]? := hbl
    clear hbe hbl hf
    have hb : Below w.heap.size w x1 := ⟨hb0.os, hb0.tape, hb0.output, hb0.size, fun q hq => hgr q hq (fun q h => absurd h (Nat.not_lt_zero _))⟩
    refine Rel7.rest_done ?_
    simp only [Rel7.fill, List.setIfInBounds_toArray, List.set_cons_zero, List.set_cons_succ, f0, f1, f2, f3, f4, f5]
    clear hb0 hgr hog  f0 f1 f2 f3 f4 f5
    replace HW := Lib.hid (HW.out.trans (hb.mono HW.out.size))
    replace hb := Lib.hid hb
    go_wp2_with fail
    (try simp only [Exit.inBlock, Exit.then])
    exact bodyPost_ret (v := .tuple #[.int .u8 105, .string ⟨#[108]⟩]) (by simp [results, Try.results44, go_sem] <;> first | rfl | (refine ⟨?_, ?_⟩ <;> first | rfl | (apply ByteArray.ext; rfl))) rfl ⟨rfl, HW.out⟩
  · have HW := Lib.hid (Below.refl w.heap.size w)
    have e1 : letS 7 = 105 := rfl
    have e2 : kidS 7 = ⟨#[108]⟩ := rfl
    rw [e1, e2]
    clear e1 e2
    have hix : ∀ w : World, (Instr.index 100 (.agg #[.string ⟨#[105]⟩, .string ⟨#[105]⟩, .string ⟨#[105, 105, 105]⟩, .string ⟨#[105, 105]⟩, .string ⟨#[105, 105, 105]⟩, .string ⟨#[105, 105]⟩, .string ⟨#[105, 108]⟩, .string ⟨#[105, 108]⟩, .string ⟨#[108]⟩, .string ⟨#[108]⟩, .string ⟨#[108, 105, 108]⟩, .string ⟨#[108, 108]⟩, .string ⟨#[98]⟩, .string ⟨#[98]⟩, .string ⟨#[98]⟩, .string ⟨#[98, 105, 105]⟩, .string ⟨#[98, 61]⟩, .string ⟨#[98, 98]⟩, .string ⟨#[98, 42]⟩, .string ⟨#[98, 42]⟩, .string ⟨#[98, 98, 98]⟩]) (.int .i64 7)).run Try.prog w = .ok (.string ⟨#[105, 108]⟩) w := fun w => by unfold Instr.index; simp [go_sem, asIntOf]
    have hix2 := hix w
    clear hix
    go_enter Try.func44, Try.ntmps44
    go_upto_region 4 with fail
    have hog : Hid (∀ q, q < 0 → (fun q => 0) q < w.heap.size) := Lib.hid (fun q h => absurd h (Nat.not_lt_zero _))
    refine Rel7.region (by kernel_rfl) [[], [0], [], [2], [0, 1], [0, 1, 2, 3, 4]] [] [] (fun q => 0) 0 6 (by kernel_rfl) (by kernel_rfl) (by rfl) hog.out (fun q q' h h' hn => absurd hn (by omega)) ?_
    refine Rel7.Chain.det ?_ (by rfl) (fun T xs wr hA => ?_) ?_
    rotate_left 1
    · have e4 := hA.pre 4 (by kernel_rfl)
      simp only [List.getElem?_toArray, List.getElem?_cons_succ, List.getElem?_cons_zero] at e4
      clear hA
      refine ⟨(by rfl), ?_⟩
      go_simp <;> (try with_reducible rfl)
    refine Rel7.Chain.det ?_ (by rfl) (fun T xs wr hA => ?_) ?_
    rotate_left 1
    · have e14 := hA.tm 0 14 (by rfl) (by rfl)
      have f14 : xs 0 = _ := hA.fa 0 (by rfl)
      (try simp (disch := first | rfl | decide) only [Rel7.mask_in] at f14)
      rw [f14] at e14
      clear f14
      clear hA
      refine ⟨(by rfl), ?_⟩
      go_simp <;> (try with_reducible rfl)
    refine Rel7.Chain.det ?_ (by rfl) (fun T xs wr hA => ?_) ?_
    rotate_left 1
    · have e4 := hA.pre 4 (by kernel_rfl)
      simp only [List.getElem?_toArray, List.getElem?_cons_succ, List.getElem?_cons_zero] at e4
      clear hA
      refine ⟨(by rfl), ?_⟩
      go_simp <;> (try with_reducible rfl)
    refine Rel7.Chain.det ?_ (by rfl) (fun T xs wr hA => ?_) ?_
    rotate_left 1
    · have e16 := hA.tm 2 16 (by rfl) (by rfl)
      have f16 : xs 2 = _ := hA.fa 2 (by rfl)
      (try simp (disch := first | rfl | decide) only [Rel7.mask_in] at f16)
      rw [f16] at e16
      clear f16
      clear hA
      refine ⟨(by rfl), ?_⟩
      go_simp <;> (try with_reducible rfl)
    refine Rel7.Chain.det ?_ (by rfl) (fun T xs wr hA => ?_) ?_
    rotate_left 1
    · have e15 := hA.tm 1 15 (by rfl) (by rfl)
      have f15 : xs 1 = _ := hA.fa 1 (by rfl)
      (try simp (disch := first | rfl | decide) only [Rel7.mask_in] at f15)
      rw [f15] at e15
      clear f15
      clear hA
      refine ⟨(by rfl), ?_⟩
      go_simp <;> (try with_reducible rfl)
    refine Rel7.Chain.det ?_ (by rfl) (fun T xs wr hA => ?_) ?_
    rotate_left 1
    · have e17 := hA.tm 3 17 (by rfl) (by rfl)
      have f17 : xs 3 = _ := hA.fa 3 (by rfl)
      (try simp (disch := first | rfl | decide) only [Rel7.mask_in] at f17)
      rw [f17] at e17
      clear f17
      clear hA
      refine ⟨(by rfl), ?_⟩
      go_simp <;> (try with_reducible rfl)
    refine Rel7.Chain.done (fun xs x1 hL => ?_)
    obtain ⟨⟨hbe, hbl⟩, hf, -, -⟩ := hL
    have f0 : xs 0 = _ := hf 0 (by decide)
    (try simp (disch := first | rfl | decide) only [Rel7.mask_in] at f0)
    have f1 : xs 1 = _ := hf 1 (by decide)
    (try simp (disch := first | rfl | decide) only [Rel7.mask_in] at f1)
    have f2 : xs 2 = _ := hf 2 (by decide)
    (try simp (disch := first | rfl | decide) only [Rel7.mask_in] at f2)
    have f3 : xs 3 = _ := hf 3 (by decide)
    (try simp (disch := first | rfl | decide) only [Rel7.mask_in] at f3)
    have f4 : xs 4 = _ := hf 4 (by decide)
    (try simp (disch := first | rfl | decide) only [Rel7.mask_in] at f4)
    have f5 : xs 5 = _ := hf 5 (by decide)
    (try simp (disch := first | rfl | decide) only [Rel7.mask_in] at f5)
    have hb0 : Below 0 w x1 := undrew (hbe 0 (Nat.zero_le _) (fun _ _ => Nat.zero_le _))
    have hgr : ∀ j, j < w.heap.size → (∀ q, q < 0 → (fun q => 0) q ≠ j) → x1.heap[j]? = w.heap[j]? := hbl
    clear hbe hbl hf
    have hb : Below w.heap.size w x1 := ⟨hb0.os, hb0.tape, hb0.output, hb0.size, fun q hq => hgr q hq (fun q h => absurd h (Nat.not_lt_zero _))⟩
    refine Rel7.rest_done ?_
    simp only [Rel7.fill, List.setIfInBounds_toArray, List.set_cons_zero, List.set_cons_succ, f0, f1, f2, f3, f4, f5]
    clear hb0 hgr hog  f0 f1 f2 f3 f4 f5
    replace HW := Lib.hid (HW.out.trans (hb.mono HW.out.size))
    replace hb := Lib.hid hb
    go_wp2_with fail
    (try simp only [Exit.inBlock, Exit.then])
    exact bodyPost_ret (v := .tuple #[.int .u8 105, .string ⟨#[108]⟩]) (by simp [results, Try.results44, go_sem] <;> first | rfl | (refine ⟨?_, ?_⟩ <;> first | rfl | (apply ByteArray.ext; rfl))) rfl ⟨rfl, HW.out⟩
  · have HW := Lib.hid (Below.refl w.heap.size w)
    have e1 : letS 8 = 108 := rfl
    have e2 : kidS 8 = ⟨#[]⟩ := rfl
    rw [e1, e2]
    clear e1 e2
    have hix : ∀ w : World, (Instr.index 100 (.agg #[.string ⟨#[105]⟩, .string ⟨#[105]⟩, .string ⟨#[105, 105, 105]⟩, .string ⟨#[105, 105]⟩, .string ⟨#[105, 105, 105]⟩, .string ⟨#[105, 105]⟩, .string ⟨#[105, 108]⟩, .string ⟨#[105, 108]⟩, .string ⟨#[108]⟩, .string ⟨#[108]⟩, .string ⟨#[108, 105, 108]⟩, .string ⟨#[108, 108]⟩, .string ⟨#[98]⟩, .string ⟨#[98]⟩, .string ⟨#[98]⟩, .string ⟨#[98, 105, 105]⟩, .string ⟨#[98, 61]⟩, .string ⟨#[98, 98]⟩, .string ⟨#[98, 42]⟩, .string ⟨#[98, 42]⟩, .string ⟨#[98, 98, 98]⟩]) (.int .i64 8)).run Try.prog w = .ok (.string ⟨#[108]⟩) w := fun w => by unfold Instr.index; simp [go_sem, asIntOf]
    have hix2 := hix w
    clear hix
    go_enter Try.func44, Try.ntmps44
    go_upto_region 4 with fail
    have hog : Hid (∀ q, q < 0 → (fun q => 0) q < w.heap.size) := Lib.hid (fun q h => absurd h (Nat.not_lt_zero _))
    refine Rel7.region (by kernel_rfl) [[], [0], [], [2], [0, 1], [0, 1, 2, 3, 4]] [] [] (fun q => 0) 0 6 (by kernel_rfl) (by kernel_rfl) (by rfl) hog.out (fun q q' h h' hn => absurd hn (by omega)) ?_
    refine Rel7.Chain.det ?_ (by rfl) (fun T xs wr hA => ?_) ?_
    rotate_left 1
    · have e4 := hA.pre 4 (by kernel_rfl)
      simp only [List.getElem?_toArray, List.getElem?_cons_succ, List.getElem?_cons_zero] at e4
      clear hA
      refine ⟨(by rfl), ?_⟩
      go_simp <;> (try with_reducible rfl)
    refine Rel7.Chain.det ?_ (by rfl) (fun T xs wr hA => ?_) ?_
    rotate_left 1
    · have e14 := hA.tm 0 14 (by rfl) (by rfl)
      have f14 : xs 0 = _ := hA.fa 0 (by rfl)
      (try simp (disch := first | rfl | decide) only [Rel7.mask_in] at f14)
      rw [f14] at e14
      clear f14
      clear hA
      refine ⟨(by rfl), ?_⟩
      go_simp <;> (try with_reducible rfl)
    refine Rel7.Chain.det ?_ (by rfl) (fun T xs wr hA => ?_) ?_
    rotate_left 1
    · have e4 := hA.pre 4 (by kernel_rfl)
      simp only [List.getElem?_toArray, List.getElem?_cons_succ, List.getElem?_cons_zero] at e4
      clear hA
      refine ⟨(by rfl), ?_⟩
      go_simp <;> (try with_reducible rfl)
    refine Rel7.Chain.det ?_ (by rfl) (fun T xs wr hA => ?_) ?_
    rotate_left 1
    · have e16 := hA.tm 2 16 (by rfl) (by rfl)
      have f16 : xs 2 = _ := hA.fa 2 (by rfl)
      (try simp (disch := first | rfl | decide) only [Rel7.mask_in] at f16)
      rw [f16] at e16
      clear f16
      clear hA
      refine ⟨(by rfl), ?_⟩
      go_simp <;> (try with_reducible rfl)
    refine Rel7.Chain.det ?_ (by rfl) (fun T xs wr hA => ?_) ?_
    rotate_left 1
    · have e15 := hA.tm 1 15 (by rfl) (by rfl)
      have f15 : xs 1 = _ := hA.fa 1 (by rfl)
      (try simp (disch := first | rfl | decide) only [Rel7.mask_in] at f15)
      rw [f15] at e15
      clear f15
      clear hA
      refine ⟨(by rfl), ?_⟩
      go_simp <;> (try with_reducible rfl)
    refine Rel7.Chain.det ?_ (by rfl) (fun T xs wr hA => ?_) ?_
    rotate_left 1
    · have e17 := hA.tm 3 17 (by rfl) (by rfl)
      have f17 : xs 3 = _ := hA.fa 3 (by rfl)
      (try simp (disch := first | rfl | decide) only [Rel7.mask_in] at f17)
      rw [f17] at e17
      clear f17
      clear hA
      refine ⟨(by rfl), ?_⟩
      go_simp <;> (try with_reducible rfl)
    refine Rel7.Chain.done (fun xs x1 hL => ?_)
    obtain ⟨⟨hbe, hbl⟩, hf, -, -⟩ := hL
    have f0 : xs 0 = _ := hf 0 (by decide)
    (try simp (disch := first | rfl | decide) only [Rel7.mask_in] at f0)
    have f1 : xs 1 = _ := hf 1 (by decide)
    (try simp (disch := first | rfl | decide) only [Rel7.mask_in] at f1)
    have f2 : xs 2 = _ := hf 2 (by decide)
    (try simp (disch := first | rfl | decide) only [Rel7.mask_in] at f2)
    have f3 : xs 3 = _ := hf 3 (by decide)
    (try simp (disch := first | rfl | decide) only [Rel7.mask_in] at f3)
    have f4 : xs 4 = _ := hf 4 (by decide)
    (try simp (disch := first | rfl | decide) only [Rel7.mask_in] at f4)
    have f5 : xs 5 = _ := hf 5 (by decide)
    (try simp (disch := first | rfl | decide) only [Rel7.mask_in] at f5)
    have hb0 : Below 0 w x1 := undrew (hbe 0 (Nat.zero_le _) (fun _ _ => Nat.zero_le _))
    have hgr : ∀ j, j < w.heap.size → (∀ q, q < 0 → (fun q => 0) q ≠ j) → x1.heap[j]? = w.heap[j]? := hbl
    clear hbe hbl hf
    have hb : Below w.heap.size w x1 := ⟨hb0.os, hb0.tape, hb0.output, hb0.size, fun q hq => hgr q hq (fun q h => absurd h (Nat.not_lt_zero _))⟩
    refine Rel7.rest_done ?_
    simp only [Rel7.fill, List.setIfInBounds_toArray, List.set_cons_zero, List.set_cons_succ, f0, f1, f2, f3, f4, f5]
    clear hb0 hgr hog  f0 f1 f2 f3 f4 f5
    replace HW := Lib.hid (HW.out.trans (hb.mono HW.out.size))
    replace hb := Lib.hid hb
    go_wp2_with fail
    (try simp only [Exit.inBlock, Exit.then])
    exact bodyPost_ret (v := .tuple #[.int .u8 108, .string ⟨#[]⟩]) (by simp [results, Try.results44, go_sem] <;> first | rfl | (refine ⟨?_, ?_⟩ <;> first | rfl | (apply ByteArray.ext; rfl))) rfl ⟨rfl, HW.out⟩
  · have HW := Lib.hid (Below.refl w.heap.size w)
    have e1 : letS 9 = 108 := rfl
    have e2 : kidS 9 = ⟨#[]⟩ := rfl
    rw [e1, e2]
    clear e1 e2
    have hix : ∀ w : World, (Instr.index 100 (.agg #[.string ⟨#[105]⟩, .string ⟨#[105]⟩, .string ⟨#[105, 105, 105]⟩, .string ⟨#[105, 105]⟩, .string ⟨#[105, 105, 105]⟩, .string ⟨#[105, 105]⟩, .string ⟨#[105, 108]⟩, .string ⟨#[105, 108]⟩, .string ⟨#[108]⟩, .string ⟨#[108]⟩, .string ⟨#[108, 105, 108]⟩, .string ⟨#[108, 108]⟩, .string ⟨#[98]⟩, .string ⟨#[98]⟩, .string ⟨#[98]⟩, .string ⟨#[98, 105, 105]⟩, .string ⟨#[98, 61]⟩, .string ⟨#[98, 98]⟩, .string ⟨#[98, 42]⟩, .string ⟨#[98, 42]⟩, .string ⟨#[98, 98, 98]⟩]) (.int .i64 9)).run Try.prog w = .ok (.string ⟨#[108]⟩) w := fun w => by unfold Instr.index; simp [go_sem, asIntOf]
    have hix2 := hix w
    clear hix
    go_enter Try.func44, Try.ntmps44
    go_upto_region 4 with fail
    have hog : Hid (∀ q, q < 0 → (fun q => 0) q < w.heap.size) := Lib.hid (fun q h => absurd h (Nat.not_lt_zero _))
    refine Rel7.region (by kernel_rfl) [[], [0], [], [2], [0, 1], [0, 1, 2, 3, 4]] [] [] (fun q => 0) 0 6 (by kernel_rfl) (by kernel_rfl) (by rfl) hog.out (fun q q' h h' hn => absurd hn (by omega)) ?_
    refine Rel7.Chain.det ?_ (by rfl) (fun T xs wr hA => ?_) ?_
    rotate_left 1
    · have e4 := hA.pre 4 (by kernel_rfl)
      simp only [List.getElem?_toArray, List.getElem?_cons_succ, List.getElem?_cons_zero] at e4
      clear hA
      refine ⟨(by rfl), ?_⟩
      go_simp <;> (try with_reducible rfl)
    refine Rel7.Chain.det ?_ (by rfl) (fun T xs wr hA => ?_) ?_
    rotate_left 1
    · have e14 := hA.tm 0 14 (by rfl) (by rfl)
      have f14 : xs 0 = _ := hA.fa 0 (by rfl)
      (try simp (disch := first | rfl | decide) only [Rel7.mask_in] at f14)
      rw [f14] at e14
      clear f14
      clear hA
      refine ⟨(by rfl), ?_⟩
      go_simp <;> (try with_reducible rfl)
    refine Rel7.Chain.det ?_ (by rfl) (fun T xs wr hA => ?_) ?_
    rotate_left 1
    · have e4 := hA.pre 4 (by kernel_rfl)
      simp only [List.getElem?_toArray, List.getElem?_cons_succ, List.getElem?_cons_zero] at e4
      clear hA
      refine ⟨(by rfl), ?_⟩
      go_simp <;> (try with_reducible rfl)
    refine Rel7.Chain.det ?_ (by rfl) (fun T xs wr hA => ?_) ?_
    rotate_left 1
    · have e16 := hA.tm 2 16 (by rfl) (by rfl)
      have f16 : xs 2 = _ := hA.fa 2 (by rfl)
      (try simp (disch := first | rfl | decide) only [Rel7.mask_in] at f16)
      rw [f16] at e16
      clear f16
      clear hA
      refine ⟨(by rfl), ?_⟩
      go_simp <;> (try with_reducible rfl)
    refine Rel7.Chain.det ?_ (by rfl) (fun T xs wr hA => ?_) ?_
    rotate_left 1
    · have e15 := hA.tm 1 15 (by rfl) (by rfl)
      have f15 : xs 1 = _ := hA.fa 1 (by rfl)
      (try simp (disch := first | rfl | decide) only [Rel7.mask_in] at f15)
      rw [f15] at e15
      clear f15
      clear hA
      refine ⟨(by rfl), ?_⟩
      go_simp <;> (try with_reducible rfl)
    refine Rel7.Chain.det ?_ (by rfl) (fun T xs wr hA => ?_) ?_
    rotate_left 1
    · have e17 := hA.tm 3 17 (by rfl) (by rfl)
      have f17 : xs 3 = _ := hA.fa 3 (by rfl)
      (try simp (disch := first | rfl | decide) only [Rel7.mask_in] at f17)
      rw [f17] at e17
      clear f17
      clear hA
      refine ⟨(by rfl), ?_⟩
      go_simp <;> (try with_reducible rfl)
    refine Rel7.Chain.done (fun xs x1 hL => ?_)
    obtain ⟨⟨hbe, hbl⟩, hf, -, -⟩ := hL
    have f0 : xs 0 = _ := hf 0 (by decide)
    (try simp (disch := first | rfl | decide) only [Rel7.mask_in] at f0)
    have f1 : xs 1 = _ := hf 1 (by decide)
    (try simp (disch := first | rfl | decide) only [Rel7.mask_in] at f1)
    have f2 : xs 2 = _ := hf 2 (by decide)
    (try simp (disch := first | rfl | decide) only [Rel7.mask_in] at f2)
    have f3 : xs 3 = _ := hf 3 (by decide)
    (try simp (disch := first | rfl | decide) only [Rel7.mask_in] at f3)
    have f4 : xs 4 = _ := hf 4 (by decide)
    (try simp (disch := first | rfl | decide) only [Rel7.mask_in] at f4)
    have f5 : xs 5 = _ := hf 5 (by decide)
    (try simp (disch := first | rfl | decide) only [Rel7.mask_in] at f5)
    have hb0 : Below 0 w x1 := undrew (hbe 0 (Nat.zero_le _) (fun _ _ => Nat.zero_le _))
    have hgr : ∀ j, j < w.heap.size → (∀ q, q < 0 → (fun q => 0) q ≠ j) → x1.heap[j]? = w.heap[j]? := hbl
    clear hbe hbl hf
    have hb : Below w.heap.size w x1 := ⟨hb0.os, hb0.tape, hb0.output, hb0.size, fun q hq => hgr q hq (fun q h => absurd h (Nat.not_lt_zero _))⟩
    refine Rel7.rest_done ?_
    simp only [Rel7.fill, List.setIfInBounds_toArray, List.set_cons_zero, List.set_cons_succ, f0, f1, f2, f3, f4, f5]
    clear hb0 hgr hog  f0 f1 f2 f3 f4 f5
    replace HW := Lib.hid (HW.out.trans (hb.mono HW.out.size))
    replace hb := Lib.hid hb
    go_wp2_with fail
    (try simp only [Exit.inBlock, Exit.then])
    exact bodyPost_ret (v := .tuple #[.int .u8 108, .string ⟨#[]⟩]) (by simp [results, Try.results44, go_sem] <;> first | rfl | (refine ⟨?_, ?_⟩ <;> first | rfl | (apply ByteArray.ext; rfl))) rfl ⟨rfl, HW.out⟩
  · have HW := Lib.hid (Below.refl w.heap.size w)
    have e1 : letS 10 = 108 := rfl
    have e2 : kidS 10 = ⟨#[105, 108]⟩ := rfl
    rw [e1, e2]
    clear e1 e2
    have hix : ∀ w : World, (Instr.index 100 (.agg #[.string ⟨#[105]⟩, .string ⟨#[105]⟩, .string ⟨#[105, 105, 105]⟩, .string ⟨#[105, 105]⟩, .string ⟨#[105, 105, 105]⟩, .string ⟨#[105, 105]⟩, .string ⟨#[105, 108]⟩, .string ⟨#[105, 108]⟩, .string ⟨#[108]⟩, .string ⟨#[108]⟩, .string ⟨#[108, 105, 108]⟩, .string ⟨#[108, 108]⟩, .string ⟨#[98]⟩, .string ⟨#[98]⟩, .string ⟨#[98]⟩, .string ⟨#[98, 105, 105]⟩, .string ⟨#[98, 61]⟩, .string ⟨#[98, 98]⟩, .string ⟨#[98, 42]⟩, .string ⟨#[98, 42]⟩, .string ⟨#[98, 98, 98]⟩]) (.int .i64 10)).run Try.prog w = .ok (.string ⟨#[108, 105, 108]⟩) w := fun w => by unfold Instr.index; simp [go_sem, asIntOf]
    have hix2 := hix w
    clear hix
    go_enter Try.func44, Try.ntmps44
    go_upto_region 4 with fail
    have hog : Hid (∀ q, q < 0 → (fun q => 0) q < w.heap.size) := Lib.hid (fun q h => absurd h (Nat.not_lt_zero _))
    refine Rel7.region (by kernel_rfl) [[], [0], [], [2], [0, 1], [0, 1, 2, 3, 4]] [] [] (fun q => 0) 0 6 (by kernel_rfl) (by kernel_rfl) (by rfl) hog.out (fun q q' h h' hn => absurd hn (by omega)) ?_
    refine Rel7.Chain.det ?_ (by rfl) (fun T xs wr hA => ?_) ?_
    rotate_left 1
    · have e4 := hA.pre 4 (by kernel_rfl)
      simp only [List.getElem?_toArray, List.getElem?_cons_succ, List.getElem?_cons_zero] at e4
      clear hA
      refine ⟨(by rfl), ?_⟩
      go_simp <;> (try with_reducible rfl)
    refine Rel7.Chain.det ?_ (by rfl) (fun T xs wr hA => ?_) ?_
    rotate_left 1
    · have e14 := hA.tm 0 14 (by rfl) (by rfl)
      have f14 : xs 0 = _ := hA.fa 0 (by rfl)
      (try simp (disch := first | rfl | decide) only [Rel7.mask_in] at f14)
      rw [f14] at e14
      clear f14
      clear hA
      refine ⟨(by rfl), ?_⟩
      go_simp <;> (try with_reducible rfl)
    refine Rel7.Chain.det ?_ (by rfl) (fun T xs wr hA => ?_) ?_
    rotate_left 1
    · have e4 := hA.pre 4 (by kernel_rfl)
      simp only [List.getElem?_toArray, List.getElem?_cons_succ, List.getElem?_cons_zero] at e4
      clear hA
      refine ⟨(by rfl), ?_⟩
      go_simp <;> (try with_reducible rfl)
    refine Rel7.Chain.det ?_ (by rfl) (fun T xs wr hA => ?_) ?_
    rotate_left 1
    · have e16 := hA.tm 2 16 (by rfl) (by rfl)
      have f16 : xs 2 = _ := hA.fa 2 (by rfl)
      (try simp (disch := first | rfl | decide) only [Rel7.mask_in] at f16)
      rw [f16] at e16
      clear f16
      clear hA
      refine ⟨(by rfl), ?_⟩
      go_simp <;> (try with_reducible rfl)
    refine Rel7.Chain.det ?_ (by rfl) (fun T xs wr hA => ?_) ?_
    rotate_left 1
    · have e15 := hA.tm 1 15 (by rfl) (by rfl)
      have f15 : xs 1 = _ := hA.fa 1 (by rfl)
      (try simp (disch := first | rfl | decide) only [Rel7.mask_in] at f15)
      rw [f15] at e15
      clear f15
      clear hA
      refine ⟨(by rfl), ?_⟩
      go_simp <;> (try with_reducible rfl)
    refine Rel7.Chain.det ?_ (by rfl) (fun T xs wr hA => ?_) ?_
    rotate_left 1
    · have e17 := hA.tm 3 17 (by rfl) (by rfl)
      have f17 : xs 3 = _ := hA.fa 3 (by rfl)
      (try simp (disch := first | rfl | decide) only [Rel7.mask_in] at f17)
      rw [f17] at e17
      clear f17
      clear hA
      refine ⟨(by rfl), ?_⟩
      go_simp <;> (try with_reducible rfl)
    refine Rel7.Chain.done (fun xs x1 hL => ?_)
    obtain ⟨⟨hbe, hbl⟩, hf, -, -⟩ := hL
    have f0 : xs 0 = _ := hf 0 (by decide)
    (try simp (disch := first | rfl | decide) only [Rel7.mask_in] at f0)
    have f1 : xs 1 = _ := hf 1 (by decide)
    (try simp (disch := first | rfl | decide) only [Rel7.mask_in] at f1)
    have f2 : xs 2 = _ := hf 2 (by decide)
    (try simp (disch := first | rfl | decide) only [Rel7.mask_in] at f2)
    have f3 : xs 3 = _ := hf 3 (by decide)
    (try simp (disch := first | rfl | decide) only [Rel7.mask_in] at f3)
    have f4 : xs 4 = _ := hf 4 (by decide)
    (try simp (disch := first | rfl | decide) only [Rel7.mask_in] at f4)
    have f5 : xs 5 = _ := hf 5 (by decide)
    (try simp (disch := first | rfl | decide) only [Rel7.mask_in] at f5)
    have hb0 : Below 0 w x1 := undrew (hbe 0 (Nat.zero_le _) (fun _ _ => Nat.zero_le _))
    have hgr : ∀ j, j < w.heap.size → (∀ q, q < 0 → (fun q => 0) q ≠ j) → x1.heap[j]? = w.heap[j]? := hbl
    clear hbe hbl hf
    have hb : Below w.heap.size w x1 := ⟨hb0.os, hb0.tape, hb0.output, hb0.size, fun q hq => hgr q hq (fun q h => absurd h (Nat.not_lt_zero _))⟩
    refine Rel7.rest_done ?_
    simp only [Rel7.fill, List.setIfInBounds_toArray, List.set_cons_zero, List.set_cons_succ, f0, f1, f2, f3, f4, f5]
    clear hb0 hgr hog  f0 f1 f2 f3 f4 f5
    replace HW := Lib.hid (HW.out.trans (hb.mono HW.out.size))
    replace hb := Lib.hid hb
    go_wp2_with fail
    (try simp only [Exit.inBlock, Exit.then])
    exact bodyPost_ret (v := .tuple #[.int .u8 108, .string ⟨#[105, 108]⟩]) (by simp [results, Try.results44, go_sem] <;> first | rfl | (refine ⟨?_, ?_⟩ <;> first | rfl | (apply ByteArray.ext; rfl))) rfl ⟨rfl, HW.out⟩
  · have HW := Lib.hid (Below.refl w.heap.size w)
    have e1 : letS 11 = 108 := rfl
    have e2 : kidS 11 = ⟨#[108]⟩ := rfl
    rw [e1, e2]
    clear e1 e2
    have hix : ∀ w : World, (Instr.index 100 (.agg #[.string ⟨#[105]⟩, .string ⟨#[105]⟩, .string ⟨#[105, 105, 105]⟩, .string ⟨#[105, 105]⟩, .string ⟨#[105, 105, 105]⟩, .string ⟨#[105, 105]⟩, .string ⟨#[105, 108]⟩, .string ⟨#[105, 108]⟩, .string ⟨#[108]⟩, .string ⟨#[108]⟩, .string ⟨#[108, 105, 108]⟩, .string ⟨#[108, 108]⟩, .string ⟨#[98]⟩, .string ⟨#[98]⟩, .string ⟨#[98]⟩, .string ⟨#[98, 105, 105]⟩, .string ⟨#[98, 61]⟩, .string ⟨#[98, 98]⟩, .string ⟨#[98, 42]⟩, .string ⟨#[98, 42]⟩, .string ⟨#[98, 98, 98]⟩]) (.int .i64 11)).run Try.prog w = .ok (.string ⟨#[108, 108]⟩) w := fun w => by unfold Instr.index; simp [go_sem, asIntOf]
    have hix2 := hix w
    clear hix
    go_enter Try.func44, Try.ntmps44
    go_upto_region 4 with fail
    have hog : Hid (∀ q, q < 0 → (fun q => 0) q < w.heap.size) := Lib.hid (fun q h => absurd h (Nat.not_lt_zero _))
    refine Rel7.region (by kernel_rfl) [[], [0], [], [2], [0, 1], [0, 1, 2, 3, 4]] [] [] (fun q => 0) 0 6 (by kernel_rfl) (by kernel_rfl) (by rfl) hog.out (fun q q' h h' hn => absurd hn (by omega)) ?_
    refine Rel7.Chain.det ?_ (by rfl) (fun T xs wr hA => ?_) ?_
    rotate_left 1
    · have e4 := hA.pre 4 (by kernel_rfl)
      simp only [List.getElem?_toArray, List.getElem?_cons_succ, List.getElem?_cons_zero] at e4
      clear hA
      refine ⟨(by rfl), ?_⟩
      go_simp <;> (try with_reducible rfl)
    refine Rel7.Chain.det ?_ (by rfl) (fun T xs wr hA => ?_) ?_
    rotate_left 1
    · have e14 := hA.tm 0 14 (by rfl) (by rfl)
      have f14 : xs 0 = _ := hA.fa 0 (by rfl)
      (try simp (disch := first | rfl | decide) only [Rel7.mask_in] at f14)
      rw [f14] at e14
      clear f14
      clear hA
      refine ⟨(by rfl), ?_⟩
      go_simp <;> (try with_reducible rfl)
    refine Rel7.Chain.det ?_ (by rfl) (fun T xs wr hA => ?_) ?_
    rotate_left 1
    · have e4 := hA.pre 4 (by kernel_rfl)
      simp only [List.getElem?_toArray, List.getElem?_cons_succ, List.getElem?_cons_zero] at e4
      clear hA
      refine ⟨(by rfl), ?_⟩
      go_simp <;> (try with_reducible rfl)
    refine Rel7.Chain.det ?_ (by rfl) (fun T xs wr hA => ?_) ?_
    rotate_left 1
    · have e16 := hA.tm 2 16 (by rfl) (by rfl)
      have f16 : xs 2 = _ := hA.fa 2 (by rfl)
      (try simp (disch := first | rfl | decide) only [Rel7.mask_in] at f16)
      rw [f16] at e16
      clear f16
      clear hA
      refine ⟨(by rfl), ?_⟩
      go_simp <;> (try with_reducible rfl)
    refine Rel7.Chain.det ?_ (by rfl) (fun T xs wr hA => ?_) ?_
    rotate_left 1
    · have e15 := hA.tm 1 15 (by rfl) (by rfl)
      have f15 : xs 1 = _ := hA.fa 1 (by rfl)
      (try simp (disch := first | rfl | decide) only [Rel7.mask_in] at f15)
      rw [f15] at e15
      clear f15
      clear hA
      refine ⟨(by rfl), ?_⟩
      go_simp <;> (try with_reducible rfl)
    refine Rel7.Chain.det ?_ (by rfl) (fun T xs wr hA => ?_) ?_
    rotate_left 1
    · have e17 := hA.tm 3 17 (by rfl) (by rfl)
      have f17 : xs 3 = _ := hA.fa 3 (by rfl)
      (try simp (disch := first | rfl | decide) only [Rel7.mask_in] at f17)
      rw [f17] at e17
      clear f17
      clear hA
      refine ⟨(by rfl), ?_⟩
      go_simp <;> (try with_reducible rfl)
    refine Rel7.Chain.done (fun xs x1 hL => ?_)
    obtain ⟨⟨hbe, hbl⟩, hf, -, -⟩ := hL
    have f0 : xs 0 = _ := hf 0 (by decide)
    (try simp (disch := first | rfl | decide) only [Rel7.mask_in] at f0)
    have f1 : xs 1 = _ := hf 1 (by decide)
    (try simp (disch := first | rfl | decide) only [Rel7.mask_in] at f1)
    have f2 : xs 2 = _ := hf 2 (by decide)
    (try simp (disch := first | rfl | decide) only [Rel7.mask_in] at f2)
    have f3 : xs 3 = _ := hf 3 (by decide)
    (try simp (disch := first | rfl | decide) only [Rel7.mask_in] at f3)
    have f4 : xs 4 = _ := hf 4 (by decide)
    (try simp (disch := first | rfl | decide) only [Rel7.mask_in] at f4)
    have f5 : xs 5 = _ := hf 5 (by decide)
    (try simp (disch := first | rfl | decide) only [Rel7.mask_in] at f5)
    have hb0 : Below 0 w x1 := undrew (hbe 0 (Nat.zero_le _) (fun _ _ => Nat.zero_le _))
    have hgr : ∀ j, j < w.heap.size → (∀ q, q < 0 → (fun q => 0) q ≠ j) → x1.heap[j]? = w.heap[j]? := hbl
    clear hbe hbl hf
    have hb : Below w.heap.size w x1 := ⟨hb0.os, hb0.tape, hb0.output, hb0.size, fun q hq => hgr q hq (fun q h => absurd h (Nat.not_lt_zero _))⟩
    refine Rel7.rest_done ?_
    simp only [Rel7.fill, List.setIfInBounds_toArray, List.set_cons_zero, List.set_cons_succ, f0, f1, f2, f3, f4, f5]
    clear hb0 hgr hog  f0 f1 f2 f3 f4 f5
    replace HW := Lib.hid (HW.out.trans (hb.mono HW.out.size))
    replace hb := Lib.hid hb
    go_wp2_with fail
    (try simp only [Exit.inBlock, Exit.then])
    exact bodyPost_ret (v := .tuple #[.int .u8 108, .string ⟨#[108]⟩]) (by simp [results, Try.results44, go_sem] <;> first | rfl | (refine ⟨?_, ?_⟩ <;> first | rfl | (apply ByteArray.ext; rfl))) rfl ⟨rfl, HW.out⟩
  · have HW := Lib.hid (Below.refl w.heap.size w)
    have e1 : letS 12 = 98 := rfl
    have e2 : kidS 12 = ⟨#[]⟩ := rfl
    rw [e1, e2]
    clear e1 e2
    have hix : ∀ w : World, (Instr.index 100 (.agg #[.string ⟨#[105]⟩, .string ⟨#[105]⟩, .string ⟨#[105, 105, 105]⟩, .string ⟨#[105, 105]⟩, .string ⟨#[105, 105, 105]⟩, .string ⟨#[105, 105]⟩, .string ⟨#[105, 108]⟩, .string ⟨#[105, 108]⟩, .string ⟨#[108]⟩, .string ⟨#[108]⟩, .string ⟨#[108, 105, 108]⟩, .string ⟨#[108, 108]⟩, .string ⟨#[98]⟩, .string ⟨#[98]⟩, .string ⟨#[98]⟩, .string ⟨#[98, 105, 105]⟩, .string ⟨#[98, 61]⟩, .string ⟨#[98, 98]⟩, .string ⟨#[98, 42]⟩, .string ⟨#[98, 42]⟩, .string ⟨#[98, 98, 98]⟩]) (.int .i64 12)).run Try.prog w = .ok (.string ⟨#[98]⟩) w := fun w => by unfold Instr.index; simp [go_sem, asIntOf]
    have hix2 := hix w
    clear hix
    go_enter Try.func44, Try.ntmps44
    go_upto_region 4 with fail
    have hog : Hid (∀ q, q < 0 → (fun q => 0) q < w.heap.size) := Lib.hid (fun q h => absurd h (Nat.not_lt_zero _))
    refine Rel7.region (by kernel_rfl) [[], [0], [], [2], [0, 1], [0, 1, 2, 3, 4]] [] [] (fun q => 0) 0 6 (by kernel_rfl) (by kernel_rfl) (by rfl) hog.out (fun q q' h h' hn => absurd hn (by omega)) ?_
    refine Rel7.Chain.det ?_ (by rfl) (fun T xs wr hA => ?_) ?_
    rotate_left 1
    · have e4 := hA.pre 4 (by kernel_rfl)
      simp only [List.getElem?_toArray, List.getElem?_cons_succ, List.getElem?_cons_zero] at e4
      clear hA
      refine ⟨(by rfl), ?_⟩
      go_simp <;> (try with_reducible rfl)
    refine Rel7.Chain.det ?_ (by rfl) (fun T xs wr hA => ?_) ?_
    rotate_left 1
    · have e14 := hA.tm 0 14 (by rfl) (by rfl)
      have f14 : xs 0 = _ := hA.fa 0 (by rfl)
      (try simp (disch := first | rfl | decide) only [Rel7.mask_in] at f14)
      rw [f14] at e14
      clear f14
      clear hA
      refine ⟨(by rfl), ?_⟩
      go_simp <;> (try with_reducible rfl)
    refine Rel7.Chain.det ?_ (by rfl) (fun T xs wr hA => ?_) ?_
    rotate_left 1
    · have e4 := hA.pre 4 (by kernel_rfl)
      simp only [List.getElem?_toArray, List.getElem?_cons_succ, List.getElem?_cons_zero] at e4
      clear hA
      refine ⟨(by rfl), ?_⟩
      go_simp <;> (try with_reducible rfl)
    refine Rel7.Chain.det ?_ (by rfl) (fun T xs wr hA => ?_) ?_
    rotate_left 1
    · have e16 := hA.tm 2 16 (by rfl) (by rfl)
      have f16 : xs 2 = _ := hA.fa 2 (by rfl)
      (try simp (disch := first | rfl | decide) only [Rel7.mask_in] at f16)
      rw [f16] at e16
      clear f16
      clear hA
      refine ⟨(by rfl), ?_⟩
      go_simp <;> (try with_reducible rfl)
    refine Rel7.Chain.det ?_ (by rfl) (fun T xs wr hA => ?_) ?_
    rotate_left 1
    · have e15 := hA.tm 1 15 (by rfl) (by rfl)
      have f15 : xs 1 = _ := hA.fa 1 (by rfl)
      (try simp (disch := first | rfl | decide) only [Rel7.mask_in] at f15)
      rw [f15] at e15
      clear f15
      clear hA
      refine ⟨(by rfl), ?_⟩
      go_simp <;> (try with_reducible rfl)
    refine Rel7.Chain.det ?_ (by rfl) (fun T xs wr hA => ?_) ?_
    rotate_left 1
    · have e17 := hA.tm 3 17 (by rfl) (by rfl)
      have f17 : xs 3 = _ := hA.fa 3 (by rfl)
      (try simp (disch := first | rfl | decide) only [Rel7.mask_in] at f17)
      rw [f17] at e17
      clear f17
      clear hA
      refine ⟨(by rfl), ?_⟩
      go_simp <;> (try with_reducible rfl)
    refine Rel7.Chain.done (fun xs x1 hL => ?_)
    obtain ⟨⟨hbe, hbl⟩, hf, -, -⟩ := hL
    have f0 : xs 0 = _ := hf 0 (by decide)
    (try simp (disch := first | rfl | decide) only [Rel7.mask_in] at f0)
    have f1 : xs 1 = _ := hf 1 (by decide)
    (try simp (disch := first | rfl | decide) only [Rel7.mask_in] at f1)
    have f2 : xs 2 = _ := hf 2 (by decide)
    (try simp (disch := first | rfl | decide) only [Rel7.mask_in] at f2)
    have f3 : xs 3 = _ := hf 3 (by decide)
    (try simp (disch := first | rfl | decide) only [Rel7.mask_in] at f3)
    have f4 : xs 4 = _ := hf 4 (by decide)
    (try simp (disch := first | rfl | decide) only [Rel7.mask_in] at f4)
    have f5 : xs 5 = _ := hf 5 (by decide)
    (try simp (disch := first | rfl | decide) only [Rel7.mask_in] at f5)
    have hb0 : Below 0 w x1 := undrew (hbe 0 (Nat.zero_le _) (fun _ _ => Nat.zero_le _))
    have hgr : ∀ j, j < w.heap.size → (∀ q, q < 0 → (fun q => 0) q ≠ j) → x1.heap[j]? = w.heap[j]? := hbl
    clear hbe hbl hf
    have hb : Below w.heap.size w x1 := ⟨hb0.os, hb0.tape, hb0.output, hb0.size, fun q hq => hgr q hq (fun q h => absurd h (Nat.not_lt_zero _))⟩
    refine Rel7.rest_done ?_
    simp only [Rel7.fill, List.setIfInBounds_toArray, List.set_cons_zero, List.set_cons_succ, f0, f1, f2, f3, f4, f5]
    clear hb0 hgr hog  f0 f1 f2 f3 f4 f5
    replace HW := Lib.hid (HW.out.trans (hb.mono HW.out.size))
    replace hb := Lib.hid hb
    go_wp2_with fail
    (try simp only [Exit.inBlock, Exit.then])
    exact bodyPost_ret (v := .tuple #[.int .u8 98, .string ⟨#[]⟩]) (by simp [results, Try.results44, go_sem] <;> first | rfl | (refine ⟨?_, ?_⟩ <;> first | rfl | (apply ByteArray.ext; rfl))) rfl ⟨rfl, HW.out⟩
  · have HW := Lib.hid (Below.refl w.heap.size w)
    have e1 : letS 13 = 98 := rfl
    have e2 : kidS 13 = ⟨#[]⟩ := rfl
    rw [e1, e2]
    clear e1 e2
    have hix : ∀ w : World, (Instr.index 100 (.agg #[.string ⟨#[105]⟩, .string ⟨#[105]⟩, .string ⟨#[105, 105, 105]⟩, .string ⟨#[105, 105]⟩, .string ⟨#[105, 105, 105]⟩, .string ⟨#[105, 105]⟩, .string ⟨#[105, 108]⟩, .string ⟨#[105, 108]⟩, .string ⟨#[108]⟩, .string ⟨#[108]⟩, .string ⟨#[108, 105, 108]⟩, .string ⟨#[108, 108]⟩, .string ⟨#[98]⟩, .string ⟨#[98]⟩, .string ⟨#[98]⟩, .string ⟨#[98, 105, 105]⟩, .string ⟨#[98, 61]⟩, .string ⟨#[98, 98]⟩, .string ⟨#[98, 42]⟩, .string ⟨#[98, 42]⟩, .string ⟨#[98, 98, 98]⟩]) (.int .i64 13)).run Try.prog w = .ok (.string ⟨#[98]⟩) w := fun w => by unfold Instr.index; simp [go_sem, asIntOf]
    have hix2 := hix w
    clear hix
    go_enter Try.func44, Try.ntmps44
    go_upto_region 4 with fail
    have hog : Hid (∀ q, q < 0 → (fun q => 0) q < w.heap.size) := Lib.hid (fun q h => absurd h (Nat.not_lt_zero _))
    refine Rel7.region (by kernel_rfl) [[], [0], [], [2], [0, 1], [0, 1, 2, 3, 4]] [] [] (fun q => 0) 0 6 (by kernel_rfl) (by kernel_rfl) (by rfl) hog.out (fun q q' h h' hn => absurd hn (by omega)) ?_
    refine Rel7.Chain.det ?_ (by rfl) (fun T xs wr hA => ?_) ?_
    rotate_left 1
    · have e4 := hA.pre 4 (by kernel_rfl)
      simp only [List.getElem?_toArray, List.getElem?_cons_succ, List.getElem?_cons_zero] at e4
      clear hA
      refine ⟨(by rfl), ?_⟩
      go_simp <;> (try with_reducible rfl)
    refine Rel7.Chain.det ?_ (by rfl) (fun T xs wr hA => ?_) ?_
    rotate_left 1
    · have e14 := hA.tm 0 14 (by rfl) (by rfl)
      have f14 : xs 0 = _ := hA.fa 0 (by rfl)
      (try simp (disch := first | rfl | decide) only [Rel7.mask_in] at f14)
      rw [f14] at e14
      clear f14
      clear hA
      refine ⟨(by rfl), ?_⟩
      go_simp <;> (try with_reducible rfl)
    refine Rel7.Chain.det ?_ (by rfl) (fun T xs wr hA => ?_) ?_
    rotate_left 1
    · have e4 := hA.pre 4 (by kernel_rfl)
      simp only [List.getElem?_toArray, List.getElem?_cons_succ, List.getElem?_cons_zero] at e4
      clear hA
      refine ⟨(by rfl), ?_⟩
      go_simp <;> (try with_reducible rfl)
    refine Rel7.Chain.det ?_ (by rfl) (fun T xs wr hA => ?_) ?_
    rotate_left 1
    · have e16 := hA.tm 2 16 (by rfl) (by rfl)
      have f16 : xs 2 = _ := hA.fa 2 (by rfl)
      (try simp (disch := first | rfl | decide) only [Rel7.mask_in] at f16)
      rw [f16] at e16
      clear f16
      clear hA
      refine ⟨(by rfl), ?_⟩
      go_simp <;> (try with_reducible rfl)
    refine Rel7.Chain.det ?_ (by rfl) (fun T xs wr hA => ?_) ?_
    rotate_left 1
    · have e15 := hA.tm 1 15 (by rfl) (by rfl)
      have f15 : xs 1 = _ := hA.fa 1 (by rfl)
      (try simp (disch := first | rfl | decide) only [Rel7.mask_in] at f15)
      rw [f15] at e15
      clear f15
      clear hA
      refine ⟨(by rfl), ?_⟩
      go_simp <;> (try with_reducible rfl)
    refine Rel7.Chain.det ?_ (by rfl) (fun T xs wr hA => ?_) ?_
    rotate_left 1
    · have e17 := hA.tm 3 17 (by rfl) (by rfl)
      have f17 : xs 3 = _ := hA.fa 3 (by rfl)
      (try simp (disch := first | rfl | decide) only [Rel7.mask_in] at f17)
      rw [f17] at e17
      clear f17
      clear hA
      refine ⟨(by rfl), ?_⟩
      go_simp <;> (try with_reducible rfl)
    refine Rel7.Chain.done (fun xs x1 hL => ?_)
    obtain ⟨⟨hbe, hbl⟩, hf, -, -⟩ := hL
    have f0 : xs 0 = _ := hf 0 (by decide)
    (try simp (disch := first | rfl | decide) only [Rel7.mask_in] at f0)
    have f1 : xs 1 = _ := hf 1 (by decide)
    (try simp (disch := first | rfl | decide) only [Rel7.mask_in] at f1)
    have f2 : xs 2 = _ := hf 2 (by decide)
    (try simp (disch := first | rfl | decide) only [Rel7.mask_in] at f2)
    have f3 : xs 3 = _ := hf 3 (by decide)
    (try simp (disch := first | rfl | decide) only [Rel7.mask_in] at f3)
    have f4 : xs 4 = _ := hf 4 (by decide)
    (try simp (disch := first | rfl | decide) only [Rel7.mask_in] at f4)
    have f5 : xs 5 = _ := hf 5 (by decide)
    (try simp (disch := first | rfl | decide) only [Rel7.mask_in] at f5)
    have hb0 : Below 0 w x1 := undrew (hbe 0 (Nat.zero_le _) (fun _ _ => Nat.zero_le _))
    have hgr : ∀ j, j < w.heap.size → (∀ q, q < 0 → (fun q => 0) q ≠ j) → x1.heap[j]? = w.heap[j]? := hbl
    clear hbe hbl hf
    have hb : Below w.heap.size w x1 := ⟨hb0.os, hb0.tape, hb0.output, hb0.size, fun q hq => hgr q hq (fun q h => absurd h (Nat.not_lt_zero _))⟩
    refine Rel7.rest_done ?_
    simp only [Rel7.fill, List.setIfInBounds_toArray, List.set_cons_zero, List.set_cons_succ, f0, f1, f2, f3, f4, f5]
    clear hb0 hgr hog  f0 f1 f2 f3 f4 f5
    replace HW := Lib.hid (HW.out.trans (hb.mono HW.out.size))
    replace hb := Lib.hid hb
    go_wp2_with fail
    (try simp only [Exit.inBlock, Exit.then])
    exact bodyPost_ret (v := .tuple #[.int .u8 98, .string ⟨#[]⟩]) (by simp [results, Try.results44, go_sem] <;> first | rfl | (refine ⟨?_, ?_⟩ <;> first | rfl | (apply ByteArray.ext; rfl))) rfl ⟨rfl, HW.out⟩
  · have HW := Lib.hid (Below.refl w.heap.size w)
    have e1 : letS 14 = 98 := rfl
    have e2 : kidS 14 = ⟨#[]⟩ := rfl
    rw [e1, e2]
    clear e1 e2
    have hix : ∀ w : World, (Instr.index 100 (.agg #[.string ⟨#[105]⟩, .string ⟨#[105]⟩, .string ⟨#[105, 105, 105]⟩, .string ⟨#[105, 105]⟩, .string ⟨#[105, 105, 105]⟩, .string ⟨#[105, 105]⟩, .string ⟨#[105, 108]⟩, .string ⟨#[105, 108]⟩, .string ⟨#[108]⟩, .string ⟨#[108]⟩, .string ⟨#[108, 105, 108]⟩, .string ⟨#[108, 108]⟩, .string ⟨#[98]⟩, .string ⟨#[98]⟩, .string ⟨#[98]⟩, .string ⟨#[98, 105, 105]⟩, .string ⟨#[98, 61]⟩, .string ⟨#[98, 98]⟩, .string ⟨#[98, 42]⟩, .string ⟨#[98, 42]⟩, .string ⟨#[98, 98, 98]⟩]) (.int .i64 14)).run Try.prog w = .ok (.string ⟨#[98]⟩) w := fun w => by unfold Instr.index; simp [go_sem, asIntOf]
    have hix2 := hix w
    clear hix
    go_enter Try.func44, Try.ntmps44
    go_upto_region 4 with fail
    have hog : Hid (∀ q, q < 0 → (fun q => 0) q < w.heap.size) := Lib.hid (fun q h => absurd h (Nat.not_lt_zero _))
    refine Rel7.region (by kernel_rfl) [[], [0], [], [2], [0, 1], [0, 1, 2, 3, 4]] [] [] (fun q => 0) 0 6 (by kernel_rfl) (by kernel_rfl) (by rfl) hog.out (fun q q' h h' hn => absurd hn (by omega)) ?_
    refine Rel7.Chain.det ?_ (by rfl) (fun T xs wr hA => ?_) ?_
    rotate_left 1
    · have e4 := hA.pre 4 (by kernel_rfl)
      simp only [List.getElem?_toArray, List.getElem?_cons_succ, List.getElem?_cons_zero] at e4
      clear hA
      refine ⟨(by rfl), ?_⟩
      go_simp <;> (try with_reducible rfl)
    refine Rel7.Chain.det ?_ (by rfl) (fun T xs wr hA => ?_) ?_
    rotate_left 1
    · have e14 := hA.tm 0 14 (by rfl) (by rfl)
      have f14 : xs 0 = _ := hA.fa 0 (by rfl)
      (try simp (disch := first | rfl | decide) only [Rel7.mask_in] at f14)
      rw [f14] at e14
      clear f14
      clear hA
      refine ⟨(by rfl), ?_⟩
      go_simp <;> (try with_reducible rfl)
    refine Rel7.Chain.det ?_ (by rfl) (fun T xs wr hA => ?_) ?_
    rotate_left 1
    · have e4 := hA.pre 4 (by kernel_rfl)
      simp only [List.getElem?_toArray, List.getElem?_cons_succ, List.getElem?_cons_zero] at e4
      clear hA
      refine ⟨(by rfl), ?_⟩
      go_simp <;> (try with_reducible rfl)
    refine Rel7.Chain.det ?_ (by rfl) (fun T xs wr hA => ?_) ?_
    rotate_left 1
    · have e16 := hA.tm 2 16 (by rfl) (by rfl)
      have f16 : xs 2 = _ := hA.fa 2 (by rfl)
      (try simp (disch := first | rfl | decide) only [Rel7.mask_in] at f16)
      rw [f16] at e16
      clear f16
      clear hA
      refine ⟨(by rfl), ?_⟩
      go_simp <;> (try with_reducible rfl)
    refine Rel7.Chain.det ?_ (by rfl) (fun T xs wr hA => ?_) ?_
    rotate_left 1
    · have e15 := hA.tm 1 15 (by rfl) (by rfl)
      have f15 : xs 1 = _ := hA.fa 1 (by rfl)
      (try simp (disch := first | rfl | decide) only [Rel7.mask_in] at f15)
      rw [f15] at e15
      clear f15
      clear hA
      refine ⟨(by rfl), ?_⟩
      go_simp <;> (try with_reducible rfl)
    refine Rel7.Chain.det ?_ (by rfl) (fun T xs wr hA => ?_) ?_
    rotate_left 1
    · have e17 := hA.tm 3 17 (by rfl) (by rfl)
      have f17 : xs 3 = _ := hA.fa 3 (by rfl)
      (try simp (disch := first | rfl | decide) only [Rel7.mask_in] at f17)
      rw [f17] at e17
      clear f17
      clear hA
      refine ⟨(by rfl), ?_⟩
      go_simp <;> (try with_reducible rfl)
    refine Rel7.Chain.done (fun xs x1 hL => ?_)
    obtain ⟨⟨hbe, hbl⟩, hf, -, -⟩ := hL
    have f0 : xs 0 = _ := hf 0 (by decide)
    (try simp (disch := first | rfl | decide) only [Rel7.mask_in] at f0)
    have f1 : xs 1 = _ := hf 1 (by decide)
    (try simp (disch := first | rfl | decide) only [Rel7.mask_in] at f1)
    have f2 : xs 2 = _ := hf 2 (by decide)
    (try simp (disch := first | rfl | decide) only [Rel7.mask_in] at f2)
    have f3 : xs 3 = _ := hf 3 (by decide)
    (try simp (disch := first | rfl | decide) only [Rel7.mask_in] at f3)
    have f4 : xs 4 = _ := hf 4 (by decide)
    (try simp (disch := first | rfl | decide) only [Rel7.mask_in] at f4)
    have f5 : xs 5 = _ := hf 5 (by decide)
    (try simp (disch := first | rfl | decide) only [Rel7.mask_in] at f5)
    have hb0 : Below 0 w x1 := undrew (hbe 0 (Nat.zero_le _) (fun _ _ => Nat.zero_le _))
    have hgr : ∀ j, j < w.heap.size → (∀ q, q < 0 → (fun q => 0) q ≠ j) → x1.heap[j]? = w.heap[j]? := hbl
    clear hbe hbl hf
    have hb : Below w.heap.size w x1 := ⟨hb0.os, hb0.tape, hb0.output, hb0.size, fun q hq => hgr q hq (fun q h => absurd h (Nat.not_lt_zero _))⟩
    refine Rel7.rest_done ?_
    simp only [Rel7.fill, List.setIfInBounds_toArray, List.set_cons_zero, List.set_cons_succ, f0, f1, f2, f3, f4, f5]
    clear hb0 hgr hog  f0 f1 f2 f3 f4 f5
    replace HW := Lib.hid (HW.out.trans (hb.mono HW.out.size))
    replace hb := Lib.hid hb
    go_wp2_with fail
    (try simp only [Exit.inBlock, Exit.then])
    exact bodyPost_ret (v := .tuple #[.int .u8 98, .string ⟨#[]⟩]) (by simp [results, Try.results44, go_sem] <;> first | rfl | (refine ⟨?_, ?_⟩ <;> first | rfl | (apply ByteArray.ext; rfl))) rfl ⟨rfl, HW.out⟩
  · have HW := Lib.hid (Below.refl w.heap.size w)
    have e1 : letS 15 = 98 := rfl
    have e2 : kidS 15 = ⟨#[105, 105]⟩ := rfl
    rw [e1, e2]
    clear e1 e2
    have hix : ∀ w : World, (Instr.index 100 (.agg #[.string ⟨#[105]⟩, .string ⟨#[105]⟩, .string ⟨#[105, 105, 105]⟩, .string ⟨#[105, 105]⟩, .string ⟨#[105, 105, 105]⟩, .string ⟨#[105, 105]⟩, .string ⟨#[105, 108]⟩, .string ⟨#[105, 108]⟩, .string ⟨#[108]⟩, .string ⟨#[108]⟩, .string ⟨#[108, 105, 108]⟩, .string ⟨#[108, 108]⟩, .string ⟨#[98]⟩, .string ⟨#[98]⟩, .string ⟨#[98]⟩, .string ⟨#[98, 105, 105]⟩, .string ⟨#[98, 61]⟩, .string ⟨#[98, 98]⟩, .string ⟨#[98, 42]⟩, .string ⟨#[98, 42]⟩, .string ⟨#[98, 98, 98]⟩]) (.int .i64 15)).run Try.prog w = .ok (.string ⟨#[98, 105, 105]⟩) w := fun w => by unfold Instr.index; simp [go_sem, asIntOf]
    have hix2 := hix w
    clear hix
    go_enter Try.func44, Try.ntmps44
    go_upto_region 4 with fail
    have hog : Hid (∀ q, q < 0 → (fun q => 0) q < w.heap.size) := Lib.hid (fun q h => absurd h (Nat.not_lt_zero _))
    refine Rel7.region (by kernel_rfl) [[], [0], [], [2], [0, 1], [0, 1, 2, 3, 4]] [] [] (fun q => 0) 0 6 (by kernel_rfl) (by kernel_rfl) (by rfl) hog.out (fun q q' h h' hn => absurd hn (by omega)) ?_
    refine Rel7.Chain.det ?_ (by rfl) (fun T xs wr hA => ?_) ?_
    rotate_left 1
    · have e4 := hA.pre 4 (by kernel_rfl)
      simp only [List.getElem?_toArray, List.getElem?_cons_succ, List.getElem?_cons_zero] at e4
      clear hA
      refine ⟨(by rfl), ?_⟩
      go_simp <;> (try with_reducible rfl)
    refine Rel7.Chain.det ?_ (by rfl) (fun T xs wr hA => ?_) ?_
    rotate_left 1
    · have e14 := hA.tm 0 14 (by rfl) (by rfl)
      have f14 : xs 0 = _ := hA.fa 0 (by rfl)
      (try simp (disch := first | rfl | decide) only [Rel7.mask_in] at f14)
      rw [f14] at e14
      clear f14
      clear hA
      refine ⟨(by rfl), ?_⟩
      go_simp <;> (try with_reducible rfl)
    refine Rel7.Chain.det ?_ (by rfl) (fun T xs wr hA => ?_) ?_
    rotate_left 1
    · have e4 := hA.pre 4 (by kernel_rfl)
      simp only [List.getElem?_toArray, List.getElem?_cons_succ, List.getElem?_cons_zero] at e4
      clear hA
      refine ⟨(by rfl), ?_⟩
      go_simp <;> (try with_reducible rfl)
    refine Rel7.Chain.det ?_ (by rfl) (fun T xs wr hA => ?_) ?_
    rotate_left 1
    · have e16 := hA.tm 2 16 (by rfl) (by rfl)
      have f16 : xs 2 = _ := hA.fa 2 (by rfl)
      (try simp (disch := first | rfl | decide) only [Rel7.mask_in] at f16)
      rw [f16] at e16
      clear f16
      clear hA
      refine ⟨(by rfl), ?_⟩
      go_simp <;> (try with_reducible rfl)
    refine Rel7.Chain.det ?_ (by rfl) (fun T xs wr hA => ?_) ?_
    rotate_left 1
    · have e15 := hA.tm 1 15 (by rfl) (by rfl)
      have f15 : xs 1 = _ := hA.fa 1 (by rfl)
      (try simp (disch := first | rfl | decide) only [Rel7.mask_in] at f15)
      rw [f15] at e15
      clear f15
      clear hA
      refine ⟨(by rfl), ?_⟩
      go_simp <;> (try with_reducible rfl)
    refine Rel7.Chain.det ?_ (by rfl) (fun T xs wr hA => ?_) ?_
    rotate_left 1
    · have e17 := hA.tm 3 17 (by rfl) (by rfl)
      have f17 : xs 3 = _ := hA.fa 3 (by rfl)
      (try simp (disch := first | rfl | decide) only [Rel7.mask_in] at f17)
      rw [f17] at e17
      clear f17
      clear hA
      refine ⟨(by rfl), ?_⟩
      go_simp <;> (try with_reducible rfl)
    refine Rel7.Chain.done (fun xs x1 hL => ?_)
    obtain ⟨⟨hbe, hbl⟩, hf, -, -⟩ := hL
    have f0 : xs 0 = _ := hf 0 (by decide)
    (try simp (disch := first | rfl | decide) only [Rel7.mask_in] at f0)
    have f1 : xs 1 = _ := hf 1 (by decide)
    (try simp (disch := first | rfl | decide) only [Rel7.mask_in] at f1)
    have f2 : xs 2 = _ := hf 2 (by decide)
    (try simp (disch := first | rfl | decide) only [Rel7.mask_in] at f2)
    have f3 : xs 3 = _ := hf 3 (by decide)
    (try simp (disch := first | rfl | decide) only [Rel7.mask_in] at f3)
    have f4 : xs 4 = _ := hf 4 (by decide)
    (try simp (disch := first | rfl | decide) only [Rel7.mask_in] at f4)
    have f5 : xs 5 = _ := hf 5 (by decide)
    (try simp (disch := first | rfl | decide) only [Rel7.mask_in] at f5)
    have hb0 : Below 0 w x1 := undrew (hbe 0 (Nat.zero_le _) (fun _ _ => Nat.zero_le _))
    have hgr : ∀ j, j < w.heap.size → (∀ q, q < 0 → (fun q => 0) q ≠ j) → x1.heap[j]? = w.heap[j]? := hbl
    clear hbe hbl hf
    have hb : Below w.heap.size w x1 := ⟨hb0.os, hb0.tape, hb0.output, hb0.size, fun q hq => hgr q hq (fun q h => absurd h (Nat.not_lt_zero _))⟩
    refine Rel7.rest_done ?_
    simp only [Rel7.fill, List.setIfInBounds_toArray, List.set_cons_zero, List.set_cons_succ, f0, f1, f2, f3, f4, f5]
    clear hb0 hgr hog  f0 f1 f2 f3 f4 f5
    replace HW := Lib.hid (HW.out.trans (hb.mono HW.out.size))
    replace hb := Lib.hid hb
    go_wp2_with fail
    (try simp only [Exit.inBlock, Exit.then])
    exact bodyPost_ret (v := .tuple #[.int .u8 98, .string ⟨#[105, 105]⟩]) (by simp [results, Try.results44, go_sem] <;> first | rfl | (refine ⟨?_, ?_⟩ <;> first | rfl | (apply ByteArray.ext; rfl))) rfl ⟨rfl, HW.out⟩
  · have HW := Lib.hid (Below.refl w.heap.size w)
    have e1 : letS 16 = 98 := rfl
    have e2 : kidS 16 = ⟨#[61]⟩ := rfl
    rw [e1, e2]
    clear e1 e2
    have hix : ∀ w : World, (Instr.index 100 (.agg #[.string ⟨#[105]⟩, .string ⟨#[105]⟩, .string ⟨#[105, 105, 105]⟩, .string ⟨#[105, 105]⟩, .string ⟨#[105, 105, 105]⟩, .string ⟨#[105, 105]⟩, .string ⟨#[105, 108]⟩, .string ⟨#[105, 108]⟩, .string ⟨#[108]⟩, .string ⟨#[108]⟩, .string ⟨#[108, 105, 108]⟩, .string ⟨#[108, 108]⟩, .string ⟨#[98]⟩, .string ⟨#[98]⟩, .string ⟨#[98]⟩, .string ⟨#[98, 105, 105]⟩, .string ⟨#[98, 61]⟩, .string ⟨#[98, 98]⟩, .string ⟨#[98, 42]⟩, .string ⟨#[98, 42]⟩, .string ⟨#[98, 98, 98]⟩]) (.int .i64 16)).run Try.prog w = .ok (.string ⟨#[98, 61]⟩) w := fun w => by unfold Instr.index; simp [go_sem, asIntOf]
    have hix2 := hix w
    clear hix
    go_enter Try.func44, Try.ntmps44
    go_upto_region 4 with fail
    have hog : Hid (∀ q, q < 0 → (fun q => 0) q < w.heap.size) := Lib.hid (fun q h => absurd h (Nat.not_lt_zero _))
    refine Rel7.region (by kernel_rfl) [[], [0], [], [2], [0, 1], [0, 1, 2, 3, 4]] [] [] (fun q => 0) 0 6 (by kernel_rfl) (by kernel_rfl) (by rfl) hog.out (fun q q' h h' hn => absurd hn (by omega)) ?_
    refine Rel7.Chain.det ?_ (by rfl) (fun T xs wr hA => ?_) ?_
    rotate_left 1
    · have e4 := hA.pre 4 (by kernel_rfl)
      simp only [List.getElem?_toArray, List.getElem?_cons_succ, List.getElem?_cons_zero] at e4
      clear hA
      refine ⟨(by rfl), ?_⟩
      go_simp <;> (try with_reducible rfl)
    refine Rel7.Chain.det ?_ (by rfl) (fun T xs wr hA => ?_) ?_
    rotate_left 1
    · have e14 := hA.tm 0 14 (by rfl) (by rfl)
      have f14 : xs 0 = _ := hA.fa 0 (by rfl)
      (try simp (disch := first | rfl | decide) only [Rel7.mask_in] at f14)
      rw [f14] at e14
      clear f14
      clear hA
      refine ⟨(by rfl), ?_⟩
      go_simp <;> (try with_reducible rfl)
    refine Rel7.Chain.det ?_ (by rfl) (fun T xs wr hA => ?_) ?_
    rotate_left 1
    · have e4 := hA.pre 4 (by kernel_rfl)
      simp only [List.getElem?_toArray, List.getElem?_cons_succ, List.getElem?_cons_zero] at e4
      clear hA
      refine ⟨(by rfl), ?_⟩
      go_simp <;> (try with_reducible rfl)
    refine Rel7.Chain.det ?_ (by rfl) (fun T xs wr hA => ?_) ?_
    rotate_left 1
    · have e16 := hA.tm 2 16 (by rfl) (by rfl)
      have f16 : xs 2 = _ := hA.fa 2 (by rfl)
      (try simp (disch := first | rfl | decide) only [Rel7.mask_in] at f16)
      rw [f16] at e16
      clear f16
      clear hA
      refine ⟨(by rfl), ?_⟩
      go_simp <;> (try with_reducible rfl)
    refine Rel7.Chain.det ?_ (by rfl) (fun T xs wr hA => ?_) ?_
    rotate_left 1
    · have e15 := hA.tm 1 15 (by rfl) (by rfl)
      have f15 : xs 1 = _ := hA.fa 1 (by rfl)
      (try simp (disch := first | rfl | decide) only [Rel7.mask_in] at f15)
      rw [f15] at e15
      clear f15
      clear hA
      refine ⟨(by rfl), ?_⟩
      go_simp <;> (try with_reducible rfl)
    refine Rel7.Chain.det ?_ (by rfl) (fun T xs wr hA => ?_) ?_
    rotate_left 1
    · have e17 := hA.tm 3 17 (by rfl) (by rfl)
      have f17 : xs 3 = _ := hA.fa 3 (by rfl)
      (try simp (disch := first | rfl | decide) only [Rel7.mask_in] at f17)
      rw [f17] at e17
      clear f17
      clear hA
      refine ⟨(by rfl), ?_⟩
      go_simp <;> (try with_reducible rfl)
    refine Rel7.Chain.done (fun xs x1 hL => ?_)
    obtain ⟨⟨hbe, hbl⟩, hf, -, -⟩ := hL
    have f0 : xs 0 = _ := hf 0 (by decide)
    (try simp (disch := first | rfl | decide) only [Rel7.mask_in] at f0)
    have f1 : xs 1 = _ := hf 1 (by decide)
    (try simp (disch := first | rfl | decide) only [Rel7.mask_in] at f1)
    have f2 : xs 2 = _ := hf 2 (by decide)
    (try simp (disch := first | rfl | decide) only [Rel7.mask_in] at f2)
    have f3 : xs 3 = _ := hf 3 (by decide)
    (try simp (disch := first | rfl | decide) only [Rel7.mask_in] at f3)
    have f4 : xs 4 = _ := hf 4 (by decide)
    (try simp (disch := first | rfl | decide) only [Rel7.mask_in] at f4)
    have f5 : xs 5 = _ := hf 5 (by decide)
    (try simp (disch := first | rfl | decide) only [Rel7.mask_in] at f5)
    have hb0 : Below 0 w x1 := undrew (hbe 0 (Nat.zero_le _) (fun _ _ => Nat.zero_le _))
    have hgr : ∀ j, j < w.heap.size → (∀ q, q < 0 → (fun q => 0) q ≠ j) → x1.heap[j]? = w.heap[j]? := hbl
    clear hbe hbl hf
    have hb : Below w.heap.size w x1 := ⟨hb0.os, hb0.tape, hb0.output, hb0.size, fun q hq => hgr q hq (fun q h => absurd h (Nat.not_lt_zero _))⟩
    refine Rel7.rest_done ?_
    simp only [Rel7.fill, List.setIfInBounds_toArray, List.set_cons_zero, List.set_cons_succ, f0, f1, f2, f3, f4, f5]
    clear hb0 hgr hog  f0 f1 f2 f3 f4 f5
    replace HW := Lib.hid (HW.out.trans (hb.mono HW.out.size))
    replace hb := Lib.hid hb
    go_wp2_with fail
    (try simp only [Exit.inBlock, Exit.then])
    exact bodyPost_ret (v := .tuple #[.int .u8 98, .string ⟨#[61]⟩]) (by simp [results, Try.results44, go_sem] <;> first | rfl | (refine ⟨?_, ?_⟩ <;> first | rfl | (apply ByteArray.ext; rfl))) rfl ⟨rfl, HW.out⟩
  · have HW := Lib.hid (Below.refl w.heap.size w)
    have e1 : letS 17 = 98 := rfl
    have e2 : kidS 17 = ⟨#[98]⟩ := rfl
    rw [e1, e2]
    clear e1 e2
    have hix : ∀ w : World, (Instr.index 100 (.agg #[.string ⟨#[105]⟩, .string ⟨#[105]⟩, .string ⟨#[105, 105, 105]⟩, .string ⟨#[105, 105]⟩, .string ⟨#[105, 105, 105]⟩, .string ⟨#[105, 105]⟩, .string ⟨#[105, 108]⟩, .string ⟨#[105, 108]⟩, .string ⟨#[108]⟩, .string ⟨#[108]⟩, .string ⟨#[108, 105, 108]⟩, .string ⟨#[108, 108]⟩, .string ⟨#[98]⟩, .string ⟨#[98]⟩, .string ⟨#[98]⟩, .string ⟨#[98, 105, 105]⟩, .string ⟨#[98, 61]⟩, .string ⟨#[98, 98]⟩, .string ⟨#[98, 42]⟩, .string ⟨#[98, 42]⟩, .string ⟨#[98, 98, 98]⟩]) (.int .i64 17)).run Try.prog w = .ok (.string ⟨#[98, 98]⟩) w := fun w => by unfold Instr.index; simp [go_sem, asIntOf]
    have hix2 := hix w
    clear hix
    go_enter Try.func44, Try.ntmps44
    go_upto_region 4 with fail
    have hog : Hid (∀ q, q < 0 → (fun q => 0) q < w.heap.size) := Lib.hid (fun q h => absurd h (Nat.not_lt_zero _))
    refine Rel7.region (by kernel_rfl) [[], [0], [], [2], [0, 1], [0, 1, 2, 3, 4]] [] [] (fun q => 0) 0 6 (by kernel_rfl) (by kernel_rfl) (by rfl) hog.out (fun q q' h h' hn => absurd hn (by omega)) ?_
    refine Rel7.Chain.det ?_ (by rfl) (fun T xs wr hA => ?_) ?_
    rotate_left 1
    · have e4 := hA.pre 4 (by kernel_rfl)
      simp only [List.getElem?_toArray, List.getElem?_cons_succ, List.getElem?_cons_zero] at e4
      clear hA
      refine ⟨(by rfl), ?_⟩
      go_simp <;> (try with_reducible rfl)
    refine Rel7.Chain.det ?_ (by rfl) (fun T xs wr hA => ?_) ?_
    rotate_left 1
    · have e14 := hA.tm 0 14 (by rfl) (by rfl)
      have f14 : xs 0 = _ := hA.fa 0 (by rfl)
      (try simp (disch := first | rfl | decide) only [Rel7.mask_in] at f14)
      rw [f14] at e14
      clear f14
      clear hA
      refine ⟨(by rfl), ?_⟩
      go_simp <;> (try with_reducible rfl)
    refine Rel7.Chain.det ?_ (by rfl) (fun T xs wr hA => ?_) ?_
    rotate_left 1
    · have e4 := hA.pre 4 (by kernel_rfl)
      simp only [List.getElem?_toArray, List.getElem?_cons_succ, List.getElem?_cons_zero] at e4
      clear hA
      refine ⟨(by rfl), ?_⟩
      go_simp <;> (try with_reducible rfl)
    refine Rel7.Chain.det ?_ (by rfl) (fun T xs wr hA => ?_) ?_
    rotate_left 1
    · have e16 := hA.tm 2 16 (by rfl) (by rfl)
      have f16 : xs 2 = _ := hA.fa 2 (by rfl)
      (try simp (disch := first | rfl | decide) only [Rel7.mask_in] at f16)
      rw [f16] at e16
      clear f16
      clear hA
      refine ⟨(by rfl), ?_⟩
      go_simp <;> (try with_reducible rfl)
    refine Rel7.Chain.det ?_ (by rfl) (fun T xs wr hA => ?_) ?_
    rotate_left 1
    · have e15 := hA.tm 1 15 (by rfl) (by rfl)
      have f15 : xs 1 = _ := hA.fa 1 (by rfl)
      (try simp (disch := first | rfl | decide) only [Rel7.mask_in] at f15)
      rw [f15] at e15
      clear f15
      clear hA
      refine ⟨(by rfl), ?_⟩
      go_simp <;> (try with_reducible rfl)
    refine Rel7.Chain.det ?_ (by rfl) (fun T xs wr hA => ?_) ?_
    rotate_left 1
    · have e17 := hA.tm 3 17 (by rfl) (by rfl)
      have f17 : xs 3 = _ := hA.fa 3 (by rfl)
      (try simp (disch := first | rfl | decide) only [Rel7.mask_in] at f17)
      rw [f17] at e17
      clear f17
      clear hA
      refine ⟨(by rfl), ?_⟩
      go_simp <;> (try with_reducible rfl)
    refine Rel7.Chain.done (fun xs x1 hL => ?_)
    obtain ⟨⟨hbe, hbl⟩, hf, -, -⟩ := hL
    have f0 : xs 0 = _ := hf 0 (by decide)
    (try simp (disch := first | rfl | decide) only [Rel7.mask_in] at f0)
    have f1 : xs 1 = _ := hf 1 (by decide)
    (try simp (disch := first | rfl | decide) only [Rel7.mask_in] at f1)
    have f2 : xs 2 = _ := hf 2 (by decide)
    (try simp (disch := first | rfl | decide) only [Rel7.mask_in] at f2)
    have f3 : xs 3 = _ := hf 3 (by decide)
    (try simp (disch := first | rfl | decide) only [Rel7.mask_in] at f3)
    have f4 : xs 4 = _ := hf 4 (by decide)
    (try simp (disch := first | rfl | decide) only [Rel7.mask_in] at f4)
    have f5 : xs 5 = _ := hf 5 (by decide)
    (try simp (disch := first | rfl | decide) only [Rel7.mask_in] at f5)
    have hb0 : Below 0 w x1 := undrew (hbe 0 (Nat.zero_le _) (fun _ _ => Nat.zero_le _))
    have hgr : ∀ j, j < w.heap.size → (∀ q, q < 0 → (fun q => 0) q ≠ j) → x1.heap[j]? = w.heap[j]? := hbl
    clear hbe hbl hf
    have hb : Below w.heap.size w x1 := ⟨hb0.os, hb0.tape, hb0.output, hb0.size, fun q hq => hgr q hq (fun q h => absurd h (Nat.not_lt_zero _))⟩
    refine Rel7.rest_done ?_
    simp only [Rel7.fill, List.setIfInBounds_toArray, List.set_cons_zero, List.set_cons_succ, f0, f1, f2, f3, f4, f5]
    clear hb0 hgr hog  f0 f1 f2 f3 f4 f5
    replace HW := Lib.hid (HW.out.trans (hb.mono HW.out.size))
    replace hb := Lib.hid hb
    go_wp2_with fail
    (try simp only [Exit.inBlock, Exit.then])
    exact bodyPost_ret (v := .tuple #[.int .u8 98, .string ⟨#[98]⟩]) (by simp [results, Try.results44, go_sem] <;> first | rfl | (refine ⟨?_, ?_⟩ <;> first | rfl | (apply ByteArray.ext; rfl))) rfl ⟨rfl, HW.out⟩
  · have HW := Lib.hid (Below.refl w.heap.size w)
    have e1 : letS 18 = 98 := rfl
    have e2 : kidS 18 = ⟨#[42]⟩ := rfl
    rw [e1, e2]
    clear e1 e2
    have hix : ∀ w : World, (Instr.index 100 (.agg #[.string ⟨#[105]⟩, .string ⟨#[105]⟩, .string ⟨#[105, 105, 105]⟩, .string ⟨#[105, 105]⟩, .string ⟨#[105, 105, 105]⟩, .string ⟨#[105, 105]⟩, .string ⟨#[105, 108]⟩, .string ⟨#[105, 108]⟩, .string ⟨#[108]⟩, .string ⟨#[108]⟩, .string ⟨#[108, 105, 108]⟩, .string ⟨#[108, 108]⟩, .string ⟨#[98]⟩, .string ⟨#[98]⟩, .string ⟨#[98]⟩, .string ⟨#[98, 105, 105]⟩, .string ⟨#[98, 61]⟩, .string ⟨#[98, 98]⟩, .string ⟨#[98, 42]⟩, .string ⟨#[98, 42]⟩, .string ⟨#[98, 98, 98]⟩]) (.int .i64 18)).run Try.prog w = .ok (.string ⟨#[98, 42]⟩) w := fun w => by unfold Instr.index; simp [go_sem, asIntOf]
    have hix2 := hix w
    clear hix
    go_enter Try.func44, Try.ntmps44
    go_upto_region 4 with fail
    have hog : Hid (∀ q, q < 0 → (fun q => 0) q < w.heap.size) := Lib.hid (fun q h => absurd h (Nat.not_lt_zero _))
    refine Rel7.region (by kernel_rfl) [[], [0], [], [2], [0, 1], [0, 1, 2, 3, 4]] [] [] (fun q => 0) 0 6 (by kernel_rfl) (by kernel_rfl) (by rfl) hog.out (fun q q' h h' hn => absurd hn (by omega)) ?_
    refine Rel7.Chain.det ?_ (by rfl) (fun T xs wr hA => ?_) ?_
    rotate_left 1
    · have e4 := hA.pre 4 (by kernel_rfl)
      simp only [List.getElem?_toArray, List.getElem?_cons_succ, List.getElem?_cons_zero] at e4
      clear hA
      refine ⟨(by rfl), ?_⟩
      go_simp <;> (try with_reducible rfl)
    refine Rel7.Chain.det ?_ (by rfl) (fun T xs wr hA => ?_) ?_
    rotate_left 1
    · have e14 := hA.tm 0 14 (by rfl) (by rfl)
      have f14 : xs 0 = _ := hA.fa 0 (by rfl)
      (try simp (disch := first | rfl | decide) only [Rel7.mask_in] at f14)
      rw [f14] at e14
      clear f14
      clear hA
      refine ⟨(by rfl), ?_⟩
      go_simp <;> (try with_reducible rfl)
    refine Rel7.Chain.det ?_ (by rfl) (fun T xs wr hA => ?_) ?_
    rotate_left 1
    · have e4 := hA.pre 4 (by kernel_rfl)
      simp only [List.getElem?_toArray, List.getElem?_cons_succ, List.getElem?_cons_zero] at e4
      clear hA
      refine ⟨(by rfl), ?_⟩
      go_simp <;> (try with_reducible rfl)
    refine Rel7.Chain.det ?_ (by rfl) (fun T xs wr hA => ?_) ?_
    rotate_left 1
    · have e16 := hA.tm 2 16 (by rfl) (by rfl)
      have f16 : xs 2 = _ := hA.fa 2 (by rfl)
      (try simp (disch := first | rfl | decide) only [Rel7.mask_in] at f16)
      rw [f16] at e16
      clear f16
      clear hA
      refine ⟨(by rfl), ?_⟩
      go_simp <;> (try with_reducible rfl)
    refine Rel7.Chain.det ?_ (by rfl) (fun T xs wr hA => ?_) ?_
    rotate_left 1
    · have e15 := hA.tm 1 15 (by rfl) (by rfl)
      have f15 : xs 1 = _ := hA.fa 1 (by rfl)
      (try simp (disch := first | rfl | decide) only [Rel7.mask_in] at f15)
      rw [f15] at e15
      clear f15
      clear hA
      refine ⟨(by rfl), ?_⟩
      go_simp <;> (try with_reducible rfl)
    refine Rel7.Chain.det ?_ (by rfl) (fun T xs wr hA => ?_) ?_
    rotate_left 1
    · have e17 := hA.tm 3 17 (by rfl) (by rfl)
      have f17 : xs 3 = _ := hA.fa 3 (by rfl)
      (try simp (disch := first | rfl | decide) only [Rel7.mask_in] at f17)
      rw [f17] at e17
      clear f17
      clear hA
      refine ⟨(by rfl), ?_⟩
      go_simp <;> (try with_reducible rfl)
    refine Rel7.Chain.done (fun xs x1 hL => ?_)
    obtain ⟨⟨hbe, hbl⟩, hf, -, -⟩ := hL
    have f0 : xs 0 = _ := hf 0 (by decide)
    (try simp (disch := first | rfl | decide) only [Rel7.mask_in] at f0)
    have f1 : xs 1 = _ := hf 1 (by decide)
    (try simp (disch := first | rfl | decide) only [Rel7.mask_in] at f1)
    have f2 : xs 2 = _ := hf 2 (by decide)
    (try simp (disch := first | rfl | decide) only [Rel7.mask_in] at f2)
    have f3 : xs 3 = _ := hf 3 (by decide)
    (try simp (disch := first | rfl | decide) only [Rel7.mask_in] at f3)
    have f4 : xs 4 = _ := hf 4 (by decide)
    (try simp (disch := first | rfl | decide) only [Rel7.mask_in] at f4)
    have f5 : xs 5 = _ := hf 5 (by decide)
    (try simp (disch := first | rfl | decide) only [Rel7.mask_in] at f5)
    have hb0 : Below 0 w x1 := undrew (hbe 0 (Nat.zero_le _) (fun _ _ => Nat.zero_le _))
    have hgr : ∀ j, j < w.heap.size → (∀ q, q < 0 → (fun q => 0) q ≠ j) → x1.heap[j]? = w.heap[j]? := hbl
    clear hbe hbl hf
    have hb : Below w.heap.size w x1 := ⟨hb0.os, hb0.tape, hb0.output, hb0.size, fun q hq => hgr q hq (fun q h => absurd h (Nat.not_lt_zero _))⟩
    refine Rel7.rest_done ?_
    simp only [Rel7.fill, List.setIfInBounds_toArray, List.set_cons_zero, List.set_cons_succ, f0, f1, f2, f3, f4, f5]
    clear hb0 hgr hog  f0 f1 f2 f3 f4 f5
    replace HW := Lib.hid (HW.out.trans (hb.mono HW.out.size))
    replace hb := Lib.hid hb
    go_wp2_with fail
    (try simp only [Exit.inBlock, Exit.then])
    exact bodyPost_ret (v := .tuple #[.int .u8 98, .string ⟨#[42]⟩]) (by simp [results, Try.results44, go_sem] <;> first | rfl | (refine ⟨?_, ?_⟩ <;> first | rfl | (apply ByteArray.ext; rfl))) rfl ⟨rfl, HW.out⟩
  · have HW := Lib.hid (Below.refl w.heap.size w)
    have e1 : letS 19 = 98 := rfl
    have e2 : kidS 19 = ⟨#[42]⟩ := rfl
    rw [e1, e2]
    clear e1 e2
    have hix : ∀ w : World, (Instr.index 100 (.agg #[.string ⟨#[105]⟩, .string ⟨#[105]⟩, .string ⟨#[105, 105, 105]⟩, .string ⟨#[105, 105]⟩, .string ⟨#[105, 105, 105]⟩, .string ⟨#[105, 105]⟩, .string ⟨#[105, 108]⟩, .string ⟨#[105, 108]⟩, .string ⟨#[108]⟩, .string ⟨#[108]⟩, .string ⟨#[108, 105, 108]⟩, .string ⟨#[108, 108]⟩, .string ⟨#[98]⟩, .string ⟨#[98]⟩, .string ⟨#[98]⟩, .string ⟨#[98, 105, 105]⟩, .string ⟨#[98, 61]⟩, .string ⟨#[98, 98]⟩, .string ⟨#[98, 42]⟩, .string ⟨#[98, 42]⟩, .string ⟨#[98, 98, 98]⟩]) (.int .i64 19)).run Try.prog w = .ok (.string ⟨#[98, 42]⟩) w := fun w => by unfold Instr.index; simp [go_sem, asIntOf]
    have hix2 := hix w
    clear hix
    go_enter Try.func44, Try.ntmps44
    go_upto_region 4 with fail
    have hog : Hid (∀ q, q < 0 → (fun q => 0) q < w.heap.size) := Lib.hid (fun q h => absurd h (Nat.not_lt_zero _))
    refine Rel7.region (by kernel_rfl) [[], [0], [], [2], [0, 1], [0, 1, 2, 3, 4]] [] [] (fun q => 0) 0 6 (by kernel_rfl) (by kernel_rfl) (by rfl) hog.out (fun q q' h h' hn => absurd hn (by omega)) ?_
    refine Rel7.Chain.det ?_ (by rfl) (fun T xs wr hA => ?_) ?_
    rotate_left 1
    · have e4 := hA.pre 4 (by kernel_rfl)
      simp only [List.getElem?_toArray, List.getElem?_cons_succ, List.getElem?_cons_zero] at e4
      clear hA
      refine ⟨(by rfl), ?_⟩
      go_simp <;> (try with_reducible rfl)
    refine Rel7.Chain.det ?_ (by rfl) (fun T xs wr hA => ?_) ?_
    rotate_left 1
    · have e14 := hA.tm 0 14 (by rfl) (by rfl)
      have f14 : xs 0 = _ := hA.fa 0 (by rfl)
      (try simp (disch := first | rfl | decide) only [Rel7.mask_in] at f14)
      rw [f14] at e14
      clear f14
      clear hA
      refine ⟨(by rfl), ?_⟩
      go_simp <;> (try with_reducible rfl)
    refine Rel7.Chain.det ?_ (by rfl) (fun T xs wr hA => ?_) ?_
    rotate_left 1
    · have e4 := hA.pre 4 (by kernel_rfl)
      simp only [List.getElem?_toArray, List.getElem?_cons_succ, List.getElem?_cons_zero] at e4
      clear hA
      refine ⟨(by rfl), ?_⟩
      go_simp <;> (try with_reducible rfl)
    refine Rel7.Chain.det ?_ (by rfl) (fun T xs wr hA => ?_) ?_
    rotate_left 1
    · have e16 := hA.tm 2 16 (by rfl) (by rfl)
      have f16 : xs 2 = _ := hA.fa 2 (by rfl)
      (try simp (disch := first | rfl | decide) only [Rel7.mask_in] at f16)
      rw [f16] at e16
      clear f16
      clear hA
      refine ⟨(by rfl), ?_⟩
      go_simp <;> (try with_reducible rfl)
    refine Rel7.Chain.det ?_ (by rfl) (fun T xs wr hA => ?_) ?_
    rotate_left 1
    · have e15 := hA.tm 1 15 (by rfl) (by rfl)
      have f15 : xs 1 = _ := hA.fa 1 (by rfl)
      (try simp (disch := first | rfl | decide) only [Rel7.mask_in] at f15)
      rw [f15] at e15
      clear f15
      clear hA
      refine ⟨(by rfl), ?_⟩
      go_simp <;> (try with_reducible rfl)
    refine Rel7.Chain.det ?_ (by rfl) (fun T xs wr hA => ?_) ?_
    rotate_left 1
    · have e17 := hA.tm 3 17 (by rfl) (by rfl)
      have f17 : xs 3 = _ := hA.fa 3 (by rfl)
      (try simp (disch := first | rfl | decide) only [Rel7.mask_in] at f17)
      rw [f17] at e17
      clear f17
      clear hA
      refine ⟨(by rfl), ?_⟩
      go_simp <;> (try with_reducible rfl)
    refine Rel7.Chain.done (fun xs x1 hL => ?_)
    obtain ⟨⟨hbe, hbl⟩, hf, -, -⟩ := hL
    have f0 : xs 0 = _ := hf 0 (by decide)
    (try simp (disch := first | rfl | decide) only [Rel7.mask_in] at f0)
    have f1 : xs 1 = _ := hf 1 (by decide)
    (try simp (disch := first | rfl | decide) only [Rel7.mask_in] at f1)
    have f2 : xs 2 = _ := hf 2 (by decide)
    (try simp (disch := first | rfl | decide) only [Rel7.mask_in] at f2)
    have f3 : xs 3 = _ := hf 3 (by decide)
    (try simp (disch := first | rfl | decide) only [Rel7.mask_in] at f3)
    have f4 : xs 4 = _ := hf 4 (by decide)
    (try simp (disch := first | rfl | decide) only [Rel7.mask_in] at f4)
    have f5 : xs 5 = _ := hf 5 (by decide)
    (try simp (disch := first | rfl | decide) only [Rel7.mask_in] at f5)
    have hb0 : Below 0 w x1 := undrew (hbe 0 (Nat.zero_le _) (fun _ _ => Nat.zero_le _))
    have hgr : ∀ j, j < w.heap.size → (∀ q, q < 0 → (fun q => 0) q ≠ j) → x1.heap[j]? = w.heap[j]? := hbl
    clear hbe hbl hf
    have hb : Below w.heap.size w x1 := ⟨hb0.os, hb0.tape, hb0.output, hb0.size, fun q hq => hgr q hq (fun q h => absurd h (Nat.not_lt_zero _))⟩
    refine Rel7.rest_done ?_
    simp only [Rel7.fill, List.setIfInBounds_toArray, List.set_cons_zero, List.set_cons_succ, f0, f1, f2, f3, f4, f5]
    clear hb0 hgr hog  f0 f1 f2 f3 f4 f5
    replace HW := Lib.hid (HW.out.trans (hb.mono HW.out.size))
    replace hb := Lib.hid hb
    go_wp2_with fail
    (try simp only [Exit.inBlock, Exit.then])
    exact bodyPost_ret (v := .tuple #[.int .u8 98, .string ⟨#[42]⟩]) (by simp [results, Try.results44, go_sem] <;> first | rfl | (refine ⟨?_, ?_⟩ <;> first | rfl | (apply ByteArray.ext; rfl))) rfl ⟨rfl, HW.out⟩
  · have HW := Lib.hid (Below.refl w.heap.size w)
    have e1 : letS 20 = 98 := rfl
    have e2 : kidS 20 = ⟨#[98, 98]⟩ := rfl
    rw [e1, e2]
    clear e1 e2
    have hix : ∀ w : World, (Instr.index 100 (.agg #[.string ⟨#[105]⟩, .string ⟨#[105]⟩, .string ⟨#[105, 105, 105]⟩, .string ⟨#[105, 105]⟩, .string ⟨#[105, 105, 105]⟩, .string ⟨#[105, 105]⟩, .string ⟨#[105, 108]⟩, .string ⟨#[105, 108]⟩, .string ⟨#[108]⟩, .string ⟨#[108]⟩, .string ⟨#[108, 105, 108]⟩, .string ⟨#[108, 108]⟩, .string ⟨#[98]⟩, .string ⟨#[98]⟩, .string ⟨#[98]⟩, .string ⟨#[98, 105, 105]⟩, .string ⟨#[98, 61]⟩, .string ⟨#[98, 98]⟩, .string ⟨#[98, 42]⟩, .string ⟨#[98, 42]⟩, .string ⟨#[98, 98, 98]⟩]) (.int .i64 20)).run Try.prog w = .ok (.string ⟨#[98, 98, 98]⟩) w := fun w => by unfold Instr.index; simp [go_sem, asIntOf]
    have hix2 := hix w
    clear hix
    go_enter Try.func44, Try.ntmps44
    go_upto_region 4 with fail
    have hog : Hid (∀ q, q < 0 → (fun q => 0) q < w.heap.size) := Lib.hid (fun q h => absurd h (Nat.not_lt_zero _))
    refine Rel7.region (by kernel_rfl) [[], [0], [], [2], [0, 1], [0, 1, 2, 3, 4]] [] [] (fun q => 0) 0 6 (by kernel_rfl) (by kernel_rfl) (by rfl) hog.out (fun q q' h h' hn => absurd hn (by omega)) ?_
    refine Rel7.Chain.det ?_ (by rfl) (fun T xs wr hA => ?_) ?_
    rotate_left 1
    · have e4 := hA.pre 4 (by kernel_rfl)
      simp only [List.getElem?_toArray, List.getElem?_cons_succ, List.getElem?_cons_zero] at e4
      clear hA
      refine ⟨(by rfl), ?_⟩
      go_simp <;> (try with_reducible rfl)
    refine Rel7.Chain.det ?_ (by rfl) (fun T xs wr hA => ?_) ?_
    rotate_left 1
    · have e14 := hA.tm 0 14 (by rfl) (by rfl)
      have f14 : xs 0 = _ := hA.fa 0 (by rfl)
      (try simp (disch := first | rfl | decide) only [Rel7.mask_in] at f14)
      rw [f14] at e14
      clear f14
      clear hA
      refine ⟨(by rfl), ?_⟩
      go_simp <;> (try with_reducible rfl)
    refine Rel7.Chain.det ?_ (by rfl) (fun T xs wr hA => ?_) ?_
    rotate_left 1
    · have e4 := hA.pre 4 (by kernel_rfl)
      simp only [List.getElem?_toArray, List.getElem?_cons_succ, List.getElem?_cons_zero] at e4
      clear hA
      refine ⟨(by rfl), ?_⟩
      go_simp <;> (try with_reducible rfl)
    refine Rel7.Chain.det ?_ (by rfl) (fun T xs wr hA => ?_) ?_
    rotate_left 1
    · have e16 := hA.tm 2 16 (by rfl) (by rfl)
      have f16 : xs 2 = _ := hA.fa 2 (by rfl)
      (try simp (disch := first | rfl | decide) only [Rel7.mask_in] at f16)
      rw [f16] at e16
      clear f16
      clear hA
      refine ⟨(by rfl), ?_⟩
      go_simp <;> (try with_reducible rfl)
    refine Rel7.Chain.det ?_ (by rfl) (fun T xs wr hA => ?_) ?_
    rotate_left 1
    · have e15 := hA.tm 1 15 (by rfl) (by rfl)
      have f15 : xs 1 = _ := hA.fa 1 (by rfl)
      (try simp (disch := first | rfl | decide) only [Rel7.mask_in] at f15)
      rw [f15] at e15
      clear f15
      clear hA
      refine ⟨(by rfl), ?_⟩
      go_simp <;> (try with_reducible rfl)
    refine Rel7.Chain.det ?_ (by rfl) (fun T xs wr hA => ?_) ?_
    rotate_left 1
    · have e17 := hA.tm 3 17 (by rfl) (by rfl)
      have f17 : xs 3 = _ := hA.fa 3 (by rfl)
      (try simp (disch := first | rfl | decide) only [Rel7.mask_in] at f17)
      rw [f17] at e17
      clear f17
      clear hA
      refine ⟨(by rfl), ?_⟩
      go_simp <;> (try with_reducible rfl)
    refine Rel7.Chain.done (fun xs x1 hL => ?_)
    obtain ⟨⟨hbe, hbl⟩, hf, -, -⟩ := hL
    have f0 : xs 0 = _ := hf 0 (by decide)
    (try simp (disch := first | rfl | decide) only [Rel7.mask_in] at f0)
    have f1 : xs 1 = _ := hf 1 (by decide)
    (try simp (disch := first | rfl | decide) only [Rel7.mask_in] at f1)
    have f2 : xs 2 = _ := hf 2 (by decide)
    (try simp (disch := first | rfl | decide) only [Rel7.mask_in] at f2)
    have f3 : xs 3 = _ := hf 3 (by decide)
    (try simp (disch := first | rfl | decide) only [Rel7.mask_in] at f3)
    have f4 : xs 4 = _ := hf 4 (by decide)
    (try simp (disch := first | rfl | decide) only [Rel7.mask_in] at f4)
    have f5 : xs 5 = _ := hf 5 (by decide)
    (try simp (disch := first | rfl | decide) only [Rel7.mask_in] at f5)
    have hb0 : Below 0 w x1 := undrew (hbe 0 (Nat.zero_le _) (fun _ _ => Nat.zero_le _))
    have hgr : ∀ j, j < w.heap.size → (∀ q, q < 0 → (fun q => 0) q ≠ j) → x1.heap[j]? = w.heap[j]? := hbl
    clear hbe hbl hf
    have hb : Below w.heap.size w x1 := ⟨hb0.os, hb0.tape, hb0.output, hb0.size, fun q hq => hgr q hq (fun q h => absurd h (Nat.not_lt_zero _))⟩
    refine Rel7.rest_done ?_
    simp only [Rel7.fill, List.setIfInBounds_toArray, List.set_cons_zero, List.set_cons_succ, f0, f1, f2, f3, f4, f5]
    clear hb0 hgr hog  f0 f1 f2 f3 f4 f5
    replace HW := Lib.hid (HW.out.trans (hb.mono HW.out.size))
    replace hb := Lib.hid hb
    go_wp2_with fail
    (try simp only [Exit.inBlock, Exit.then])
    exact bodyPost_ret (v := .tuple #[.int .u8 98, .string ⟨#[98, 98]⟩]) (by simp [results, Try.results44, go_sem] <;> first | rfl | (refine ⟨?_, ?_⟩ <;> first | rfl | (apply ByteArray.ext; rfl))) rfl ⟨rfl, HW.out⟩
end Go.Proofs.Ytdkfnbbebpbhaaa

/-
  Plain: what the law's right compares: letters of sorts.
-/
namespace Go.Proofs.Ytdkfnbbebpbhaaa
open Go.RowKit
set_option linter.unusedVariables false

def code (s : Int) : UInt8 := if s = 0 then 105 else if s = 1 then 98 else 108
theorem srt_cases (o : Int) : srt o = 0 ∨ srt o = 1 ∨ srt o = 2 := by unfold srt; (repeat' split) <;> simp
theorem letS_code (o : Int) (h : 0 ≤ o ∧ o ≤ 20) : letS o = ((code (srt o)).toNat : Int) := by
  have : o = 0 ∨ o = 1 ∨ o = 2 ∨ o = 3 ∨ o = 4 ∨ o = 5 ∨ o = 6 ∨ o = 7 ∨ o = 8 ∨ o = 9 ∨ o = 10 ∨ o = 11 ∨ o = 12 ∨ o = 13 ∨ o = 14 ∨ o = 15 ∨ o = 16 ∨ o = 17 ∨ o = 18 ∨ o = 19 ∨ o = 20 := by omega
  rcases this with rfl | rfl | rfl | rfl | rfl | rfl | rfl | rfl | rfl | rfl | rfl | rfl | rfl | rfl | rfl | rfl | rfl | rfl | rfl | rfl | rfl <;> rfl
theorem letS_out (o : Int) (h : ¬(0 ≤ o ∧ o ≤ 20)) : letS o = 63 := if_neg h
theorem letS_in (o : Int) (h : 0 ≤ o ∧ o ≤ 20) : letS o ≠ 63 := by
  rw [letS_code o h]
  rcases srt_cases o with e | e | e <;> rw [e] <;> decide
/-- The letters of the kids. -/
def gotS (ks : List F) : ByteArray := ⟨((srts ks).map code).toArray⟩
theorem gotS_snoc (ks : List F) (k : F) : gotS (ks ++ [k]) = gotS ks ++ ⟨#[code (srt k.op)]⟩ := by
  apply ByteArray.ext
  unfold gotS srts
  simp
theorem code_inj {s t : Int} (hs : s = 0 ∨ s = 1 ∨ s = 2) (ht : t = 0 ∨ t = 1 ∨ t = 2) (h : code s = code t) : s = t := by
  rcases hs with rfl | rfl | rfl <;> rcases ht with rfl | rfl | rfl <;> first | rfl | (exact absurd h (by decide))
theorem map_code : ∀ (a b : List Int), (∀ s ∈ a, s = 0 ∨ s = 1 ∨ s = 2) → (∀ s ∈ b, s = 0 ∨ s = 1 ∨ s = 2) → a.map code = b.map code → a = b
  | [], [], _, _, _ => rfl
  | [], _ :: _, _, _, h => by cases h
  | _ :: _, [], _, _, h => by cases h
  | x :: a, y :: b, ha, hb, h => by
    rw [List.map_cons, List.map_cons] at h
    injection h with h1 h2
    rw [code_inj (ha x (by simp)) (hb y (by simp)) h1, map_code a b (fun s hs => ha s (by simp [hs])) (fun s hs => hb s (by simp [hs])) h2]
theorem srts_sorts (ks : List F) : ∀ s ∈ srts ks, s = 0 ∨ s = 1 ∨ s = 2 := by
  intro s hs
  obtain ⟨k, -, rfl⟩ := List.mem_map.1 hs
  exact srt_cases k.op
theorem got_is (ks : List F) (ss : List Int) (h : ∀ s ∈ ss, s = 0 ∨ s = 1 ∨ s = 2) : (gotS ks = ⟨(ss.map code).toArray⟩) ↔ srts ks = ss := by
  constructor
  · intro e
    have e1 := congrArg (fun b : ByteArray => b.data.toList) e
    simp only [gotS] at e1
    exact map_code _ _ (srts_sorts ks) h (by simpa using e1)
  · intro e
    unfold gotS
    rw [e]
theorem got_lit (ks : List F) (ss : List Int) (b : ByteArray) (h : ∀ s ∈ ss, s = 0 ∨ s = 1 ∨ s = 2) (hb : b = ⟨(ss.map code).toArray⟩) : (gotS ks = b) ↔ srts ks = ss := by
  subst hb
  exact got_is ks ss h
end Go.Proofs.Ytdkfnbbebpbhaaa

/-
  Plain: the law's right is the model's.
-/
namespace Go.Proofs.Ytdkfnbbebpbhaaa
open Go.RowKit
set_option linter.unusedVariables false
set_option linter.unusedSimpArgs false

theorem got_dec (ks : List F) (ss : List Int) (b : ByteArray) (h : ∀ s ∈ ss, s = 0 ∨ s = 1 ∨ s = 2) (hb : b = ⟨(ss.map code).toArray⟩) : decide (gotS ks = b) = decide (srts ks = ss) := decide_eq_decide.2 (got_lit ks ss b h hb)
/-- What the law's right tells of a node whose kids are right. -/
def restL (o z : Int) (ks : List F) : Bool :=
  !(decide (o = 5) && decide (z < 1)) && (if kidS o = ⟨#[61]⟩ then decide (gotS ks = ⟨#[105, 105]⟩) || decide (gotS ks = ⟨#[108, 108]⟩) else if kidS o = ⟨#[42]⟩ then (srts ks).all (fun s => decide (s = 1)) else decide (gotS ks = kidS o))
theorem fit_got (o z : Int) (ks : List F) (h : 0 ≤ o ∧ o ≤ 20) : fitF o z (srts ks) = restL o z ks := by
  have : o = 0 ∨ o = 1 ∨ o = 2 ∨ o = 3 ∨ o = 4 ∨ o = 5 ∨ o = 6 ∨ o = 7 ∨ o = 8 ∨ o = 9 ∨ o = 10 ∨ o = 11 ∨ o = 12 ∨ o = 13 ∨ o = 14 ∨ o = 15 ∨ o = 16 ∨ o = 17 ∨ o = 18 ∨ o = 19 ∨ o = 20 := by omega
  rcases this with rfl | rfl | rfl | rfl | rfl | rfl | rfl | rfl | rfl | rfl | rfl | rfl | rfl | rfl | rfl | rfl | rfl | rfl | rfl | rfl | rfl
  · unfold restL fitF
    rw [show kidS 0 = ⟨#[]⟩ from rfl]
    rw [if_neg (by decide), if_neg (by decide), got_dec ks [] ⟨#[]⟩ (by simp) rfl]
    simp [kidsOk]
  · unfold restL fitF
    rw [show kidS 1 = ⟨#[]⟩ from rfl]
    rw [if_neg (by decide), if_neg (by decide), got_dec ks [] ⟨#[]⟩ (by simp) rfl]
    simp [kidsOk]
  · unfold restL fitF
    rw [show kidS 2 = ⟨#[105, 105]⟩ from rfl]
    rw [if_neg (by decide), if_neg (by decide), got_dec ks [0, 0] ⟨#[105, 105]⟩ (by simp) rfl]
    simp [kidsOk]
  · unfold restL fitF
    rw [show kidS 3 = ⟨#[105]⟩ from rfl]
    rw [if_neg (by decide), if_neg (by decide), got_dec ks [0] ⟨#[105]⟩ (by simp) rfl]
    simp [kidsOk]
  · unfold restL fitF
    rw [show kidS 4 = ⟨#[105, 105]⟩ from rfl]
    rw [if_neg (by decide), if_neg (by decide), got_dec ks [0, 0] ⟨#[105, 105]⟩ (by simp) rfl]
    simp [kidsOk]
  · unfold restL fitF
    rw [show kidS 5 = ⟨#[105]⟩ from rfl]
    rw [if_neg (by decide), if_neg (by decide), got_dec ks [0] ⟨#[105]⟩ (by simp) rfl]
    simp [kidsOk]
    try (rw [Bool.and_comm]; congr 1; by_cases hz : z < 1 <;> simp [hz] <;> omega)
  · unfold restL fitF
    rw [show kidS 6 = ⟨#[108]⟩ from rfl]
    rw [if_neg (by decide), if_neg (by decide), got_dec ks [2] ⟨#[108]⟩ (by simp) rfl]
    simp [kidsOk]
  · unfold restL fitF
    rw [show kidS 7 = ⟨#[108]⟩ from rfl]
    rw [if_neg (by decide), if_neg (by decide), got_dec ks [2] ⟨#[108]⟩ (by simp) rfl]
    simp [kidsOk]
  · unfold restL fitF
    rw [show kidS 8 = ⟨#[]⟩ from rfl]
    rw [if_neg (by decide), if_neg (by decide), got_dec ks [] ⟨#[]⟩ (by simp) rfl]
    simp [kidsOk]
  · unfold restL fitF
    rw [show kidS 9 = ⟨#[]⟩ from rfl]
    rw [if_neg (by decide), if_neg (by decide), got_dec ks [] ⟨#[]⟩ (by simp) rfl]
    simp [kidsOk]
  · unfold restL fitF
    rw [show kidS 10 = ⟨#[105, 108]⟩ from rfl]
    rw [if_neg (by decide), if_neg (by decide), got_dec ks [0, 2] ⟨#[105, 108]⟩ (by simp) rfl]
    simp [kidsOk]
  · unfold restL fitF
    rw [show kidS 11 = ⟨#[108]⟩ from rfl]
    rw [if_neg (by decide), if_neg (by decide), got_dec ks [2] ⟨#[108]⟩ (by simp) rfl]
    simp [kidsOk]
  · unfold restL fitF
    rw [show kidS 12 = ⟨#[]⟩ from rfl]
    rw [if_neg (by decide), if_neg (by decide), got_dec ks [] ⟨#[]⟩ (by simp) rfl]
    simp [kidsOk]
  · unfold restL fitF
    rw [show kidS 13 = ⟨#[]⟩ from rfl]
    rw [if_neg (by decide), if_neg (by decide), got_dec ks [] ⟨#[]⟩ (by simp) rfl]
    simp [kidsOk]
  · unfold restL fitF
    rw [show kidS 14 = ⟨#[]⟩ from rfl]
    rw [if_neg (by decide), if_neg (by decide), got_dec ks [] ⟨#[]⟩ (by simp) rfl]
    simp [kidsOk]
  · unfold restL fitF
    rw [show kidS 15 = ⟨#[105, 105]⟩ from rfl]
    rw [if_neg (by decide), if_neg (by decide), got_dec ks [0, 0] ⟨#[105, 105]⟩ (by simp) rfl]
    simp [kidsOk]
  · unfold restL fitF
    rw [show kidS 16 = ⟨#[61]⟩ from rfl]
    rw [if_pos rfl, got_dec ks [0, 0] ⟨#[105, 105]⟩ (by simp) rfl, got_dec ks [2, 2] ⟨#[108, 108]⟩ (by simp) rfl]
    simp [kidsOk]
  · unfold restL fitF
    rw [show kidS 17 = ⟨#[98]⟩ from rfl]
    rw [if_neg (by decide), if_neg (by decide), got_dec ks [1] ⟨#[98]⟩ (by simp) rfl]
    simp [kidsOk]
  · unfold restL fitF
    rw [show kidS 18 = ⟨#[42]⟩ from rfl]
    rw [if_neg (by decide), if_pos rfl]
    simp [kidsOk]
  · unfold restL fitF
    rw [show kidS 19 = ⟨#[42]⟩ from rfl]
    rw [if_neg (by decide), if_pos rfl]
    simp [kidsOk]
  · unfold restL fitF
    rw [show kidS 20 = ⟨#[98, 98]⟩ from rfl]
    rw [if_neg (by decide), if_neg (by decide), got_dec ks [1, 1] ⟨#[98, 98]⟩ (by simp) rfl]
    simp [kidsOk]
theorem fit_out (o z : Int) (ss : List Int) (h : ¬(0 ≤ o ∧ o ≤ 20)) : fitF o z ss = false := by
  unfold fitF kidsOk
  (repeat' rw [if_neg (by omega)])
  rfl
theorem rt_restL (o z : Int) (nm : ByteArray) (ks : List F) (h : 0 ≤ o ∧ o ≤ 20) : rt (.node o z nm ks) = (restL o z ks && rts ks) := by rw [rt, fit_got o z ks h]
theorem rt_out (o z : Int) (nm : ByteArray) (ks : List F) (h : ¬(0 ≤ o ∧ o ≤ 20)) : rt (.node o z nm ks) = false := by rw [rt, fit_out o z _ h, Bool.false_and]
end Go.Proofs.Ytdkfnbbebpbhaaa

/-
  The law's right.
-/
namespace Go.Proofs.Ytdkfnbbebpbhaaa
open Go.RowKit
set_option maxRecDepth 100000
set_option linter.unusedVariables false
set_option linter.unusedSimpArgs false

attribute [local go_sem] fieldV0 fieldV1 fieldV2 fieldV3
theorem rt_in (t : F) (h : rt t = true) : 0 ≤ t.op ∧ t.op ≤ 20 := by
  obtain ⟨o, z, nm, ks⟩ := t
  by_cases ho : 0 ≤ o ∧ o ≤ 20
  · exact ho
  · rw [rt_out o z nm ks ho] at h; cases h
theorem rt_kid (o z : Int) (nm : ByteArray) (ks : List F) (j : Nat) (hj : j < ks.length) (h : rt ks[j] = false) : rt (.node o z nm ks) = false := by
  rw [rt, rts_all]
  have : ks.all rt = false := List.all_eq_false.2 ⟨ks[j], List.getElem_mem hj, by simp [h]⟩
  rw [this, Bool.and_false]
theorem rts_next (ks : List F) (j : Nat) (hj : j < ks.length) (h : rts (ks.take j) = true) (hk : rt ks[j] = true) : rts (ks.take (j + 1)) = true := by
  rw [rts_all] at h ⊢
  rw [List.take_succ_eq_append_getElem hj, List.all_append, h]
  simp [hk]
theorem got_next (ks : List F) (j : Nat) (hj : j < ks.length) : gotS (ks.take (j + 1)) = gotS (ks.take j) ++ ⟨#[code (srt ks[j].op)]⟩ := by
  rw [List.take_succ_eq_append_getElem hj, gotS_snoc]
theorem got_size (ks : List F) : (gotS ks).size = ks.length := by simp [gotS, srts, ByteArray.size]
def H5P (o z : Int) : Prop := ¬(o = 5 ∧ z < 1)
theorem rest_eq {o z : Int} {ks : List F} (h5 : H5P o z) (hk : kidS o = ⟨#[61]⟩) : restL o z ks = (decide (gotS ks = ⟨#[105, 105]⟩) || decide (gotS ks = ⟨#[108, 108]⟩)) := by
  have : (decide (o = 5) && decide (z < 1)) = false := by rw [← Bool.decide_and]; exact decide_eq_false h5
  unfold restL
  rw [this, if_pos hk]; rfl
theorem rest_star {o z : Int} {ks : List F} (h5 : H5P o z) (hk : kidS o = ⟨#[42]⟩) : restL o z ks = (srts ks).all (fun s => decide (s = 1)) := by
  have : (decide (o = 5) && decide (z < 1)) = false := by rw [← Bool.decide_and]; exact decide_eq_false h5
  unfold restL
  rw [this, hk, if_neg (by decide), if_pos rfl]; rfl
theorem rest_other {o z : Int} {ks : List F} (h5 : H5P o z) (h1 : kidS o ≠ ⟨#[61]⟩) (h2 : kidS o ≠ ⟨#[42]⟩) : restL o z ks = decide (gotS ks = kidS o) := by
  have : (decide (o = 5) && decide (z < 1)) = false := by rw [← Bool.decide_and]; exact decide_eq_false h5
  unfold restL
  rw [this, if_neg h1, if_neg h2]; rfl
theorem bytesWorld_belowG (w : World) (e : TypeId) (s : ByteArray) : Below w.heap.size w (Lib.bytesWorld w e s) := by
  refine ⟨rfl, rfl, rfl, by rw [Lib.bytesWorld_size]; omega, fun k hk => Lib.bytesWorld_at_old w e s k hk⟩
/-- The letters, laid out as bytes. -/
theorem got_bytes (ks : List F) (n : Nat) (hn : n = ks.length) (w : World) : ∃ (cap : Nat) (w1 : World),
    (convert 9 65 (.string (gotS ks))).run Try.prog w = .ok (.slice (some ⟨w.heap.size, 0, none⟩) n cap) w1 ∧ Below w.heap.size w w1 ∧ ∀ j (h : j < ks.length), w1.cell? ⟨w.heap.size, j, none⟩ = some (.int .u8 ((code (srt ks[j].op)).toNat : Int)) := by
  have hcv := Lib.run_convert_string_bytes (P := Try.prog) w 9 65 5 (gotS ks) (u := .string) Try.underlying9 Try.underlying65 Try.underlying5
  rw [got_size, ← hn] at hcv
  refine ⟨_, _, hcv, bytesWorld_belowG _ _ _, fun j hj => ?_⟩
  rw [Lib.bytesWorld_cell w 5 (gotS ks) j (by rw [got_size]; exact hj)]
  simp [gotS, srts, List.getD, hj]
theorem code_b {s : Int} (h : s = 0 ∨ s = 1 ∨ s = 2) (v : Int) (hv : v = ((code s).toNat : Int)) : (s = 1 ∧ (v != 98) = false) ∨ (s ≠ 1 ∧ (v != 98) = true) := by
  subst hv
  rcases h with rfl | rfl | rfl
  · exact .inr ⟨by decide, rfl⟩
  · exact .inl ⟨rfl, rfl⟩
  · exact .inr ⟨by decide, rfl⟩
theorem all_b (ks : List F) (h : ∀ q (hq : q < ks.length), srt ks[q].op = 1) : (srts ks).all (fun s => decide (s = 1)) = true := by
  rw [List.all_eq_true]
  intro s hs
  obtain ⟨t, ht, rfl⟩ := List.mem_map.1 hs
  obtain ⟨q, hq, rfl⟩ := List.getElem_of_mem ht
  exact decide_eq_true (h q hq)
theorem not_b (ks : List F) (q : Nat) (hq : q < ks.length) (h : srt ks[q].op ≠ 1) : (srts ks).all (fun s => decide (s = 1)) = false :=
  List.all_eq_false.2 ⟨srt ks[q].op, List.mem_map.2 ⟨ks[q], List.getElem_mem hq, rfl⟩, by simpa using h⟩
theorem rest_neg {z : Int} {ks : List F} (h : z < 1) : restL 5 z ks = false := by
  unfold restL; simp [h]
set_option maxHeartbeats 8000000 in
theorem rightL_p (d : Nat) : ∀ (v : Value) (t : F) (S : Nat → Prop) (w : World), FC w S d v t →
    Calls Try.prog 16 #[v] w fun e w' => e = .returned (.bool (rt t)) ∧ Below w.heap.size w w' := by
  induction d with
  | zero => intro v t S w h; obtain ⟨_, _, _, _, _, _, _, _, _, h0, _⟩ := h.open; omega
  | succ d ih =>
    intro v t S w h
    obtain ⟨b, ao, l, c, ko, kl, kc, rfl, ⟨hr, hz, hkl, hkc, hkm⟩, -, hk⟩ := h.open
    obtain ⟨o, z, nm, ks⟩ := t
    simp only [F.op, F.num, F.name, F.kids] at hr hz hk hkl ⊢
    obtain ⟨n, hn⟩ : ∃ n, n = ks.length := ⟨_, rfl⟩
    rw [← hn] at hkl
    subst hkl
    have HN := Lib.hid hn
    have HZ := Lib.hid hz
    clear hn hr hz h
    have HX := Lib.hid hk
    have IH := Lib.hid ih
    clear hk ih
    have HW := Lib.hid (Below.refl w.heap.size w)
    have hkm' : kc ≤ 9223372036854775807 := hkm
    go_enter Try.func16, Try.ntmps16
    obtain ⟨x1, kf, ef, ekf, hbf, hkf, HBf⟩ := newV w #[.int .i64 o, .bool b, .slice ao l c, .string nm, .slice ko kl kc] 29
    replace HX := Lib.hid (HX.out.below hbf.out)
    replace HW := Lib.hid (HW.out.trans (hbf.out.mono HW.out.size))
    replace HZ := Lib.hid (HZ.out.below hbf.out)
    have c0 := cell_at (v := .int .i64 o) HBf.out 0 rfl
    have fc0 := froz_at HBf.out 0
    have c1 := cell_at (v := .bool b) HBf.out 1 rfl
    have fc1 := froz_at HBf.out 1
    have c2 := cell_at (v := .slice ao l c) HBf.out 2 rfl
    have fc2 := froz_at HBf.out 2
    have c3 := cell_at (v := .string nm) HBf.out 3 rfl
    have fc3 := froz_at HBf.out 3
    have c4 := cell_at (v := .slice ko kl kc) HBf.out 4 rfl
    have fc4 := froz_at HBf.out 4
    go_wp2_with fail
    refine (sorted_p o x1).mono ?_
    rintro e x2 ⟨rfl, hb⟩
    clear c0 fc0 c1 fc1 c2 fc2 c3 fc3 c4 fc4
    replace HBf := kBV hb HBf
    replace HX := Lib.hid (HX.out.below hb)
    replace HW := Lib.hid (HW.out.trans (hb.mono HW.out.size))
    replace HZ := Lib.hid (HZ.out.below hb)
    have c0 := cell_at (v := .int .i64 o) HBf.out 0 rfl
    have fc0 := froz_at HBf.out 0
    have c1 := cell_at (v := .bool b) HBf.out 1 rfl
    have fc1 := froz_at HBf.out 1
    have c2 := cell_at (v := .slice ao l c) HBf.out 2 rfl
    have fc2 := froz_at HBf.out 2
    have c3 := cell_at (v := .string nm) HBf.out 3 rfl
    have fc3 := froz_at HBf.out 3
    have c4 := cell_at (v := .slice ko kl kc) HBf.out 4 rfl
    have fc4 := froz_at HBf.out 4
    by_cases ho : 0 ≤ o ∧ o ≤ 20
    rotate_left
    · rw [letS_out o ho]
      have HRT := Lib.hid (rt_out o z nm ks ho)
      clear ho
      go_wp2_with fail
      go_ret
      exact ⟨by rw [HRT.out]; rfl, HW.out⟩
    have hne : (letS o == 63) = false := beq_eq_false_iff_ne.2 (letS_in o ho)
    have HO := Lib.hid ho
    clear ho
    obtain ⟨sl, hsl⟩ : ∃ x, x = letS o := ⟨_, rfl⟩
    obtain ⟨kw, hkw⟩ : ∃ x, x = kidS o := ⟨_, rfl⟩
    rw [← hsl] at hne ⊢
    rw [← hkw]
    have HKW := Lib.hid hkw
    clear hsl hkw
    go_wp2_with fail
    clear c0 fc0 c1 fc1 c2 fc2 c3 fc3 c4 fc4
    go_loopw [5, 23] (fun g i wr => ∃ j : Nat, g = .string (gotS (ks.take j)) ∧ i = .int .i64 (j : Nat) ∧ j ≤ kl ∧ Hid (rts (ks.take j) = true) ∧ Hid (Below x2.heap.size x2 wr)) (fun _ i _ => kl - (intOf i).toNat)
    case atStart => exact ⟨0, by rw [List.take_zero]; rfl, rfl, Nat.zero_le _, Lib.hid (by rw [List.take_zero]; rfl), Lib.hid (Below.refl _ _)⟩
    case round =>
      obtain ⟨j, rfl, rfl, hj, HRS, HB⟩ := hrel
      replace HX := Lib.hid (HX.out.below HB.out)
      replace HZ := Lib.hid (HZ.out.below HB.out)
      replace HW := Lib.hid (HW.out.trans (HB.out.mono HW.out.size))
      have HBf1 : Hid (wr.heap[kf]? = _) := Lib.hid ((HB.out.block _ (lt_of_block HBf.out)).trans HBf.out)
      replace HBf := HBf1
      clear HBf1
      by_cases hlt : j < kl
      · have hz : j < ks.length := by rw [← HN.out]; exact hlt
        obtain ⟨a, bb, qo, ql, qc, po, pl, pc, rfl, ⟨c0, c1, c2, c3, c4⟩, hf⟩ := HX.out.cells j hz
        have HFC := Lib.hid hf
        clear hf
        obtain ⟨x, hxx⟩ : ∃ x, x = ks[j].op := ⟨_, rfl⟩
        obtain ⟨ym, hnm⟩ : ∃ x, x = ks[j].name := ⟨_, rfl⟩
        rw [← hxx] at c0 HFC
        rw [← hnm] at c3 HFC
        have HXX := Lib.hid hxx
        clear hxx hnm
        obtain ⟨G, hG⟩ : ∃ G, G = gotS (ks.take j) := ⟨_, rfl⟩
        have hgs : ¬ (9223372036854775807 < G.size + 1) := by rw [hG, got_size, List.length_take]; omega
        rw [← hG]
        have HG := Lib.hid hG
        clear hG
        obtain ⟨x3, k7, e7, ek7, hb7, hk7, HB7⟩ := newV wr #[.int .i64 x, .bool bb, .slice qo ql qc, .string ym, .slice po pl pc] 29
        replace HBf := kBV hb7.out HBf
        replace HX := Lib.hid (HX.out.below hb7.out)
        replace HZ := Lib.hid (HZ.out.below hb7.out)
        replace HW := Lib.hid (HW.out.trans (hb7.out.mono HW.out.size))
        replace HB := Lib.hid (HB.out.trans (hb7.out.mono HB.out.size))
        replace HFC := Lib.hid (HFC.out.below hb7.out)
        have g0 := cell_at (v := .int .i64 x) HB7.out 0 rfl
        have fg0 := froz_at HB7.out 0
        have g1 := cell_at (v := .bool bb) HB7.out 1 rfl
        have fg1 := froz_at HB7.out 1
        have g2 := cell_at (v := .slice qo ql qc) HB7.out 2 rfl
        have fg2 := froz_at HB7.out 2
        have g3 := cell_at (v := .string ym) HB7.out 3 rfl
        have fg3 := froz_at HB7.out 3
        have g4 := cell_at (v := .slice po pl pc) HB7.out 4 rfl
        have fg4 := froz_at HB7.out 4
        go_wp2_with fail
        refine (IH.out _ ks[j] S x3 HFC.out).mono ?_
        rintro e x4 ⟨rfl, hb⟩
        clear g0 fg0 g1 fg1 g2 fg2 g3 fg3 g4 fg4
        replace HBf := kBV hb HBf
        replace HB7 := kBV hb HB7
        replace HX := Lib.hid (HX.out.below hb)
        replace HZ := Lib.hid (HZ.out.below hb)
        replace HW := Lib.hid (HW.out.trans (hb.mono HW.out.size))
        replace HB := Lib.hid (HB.out.trans (hb.mono HB.out.size))
        replace HFC := Lib.hid (HFC.out.below hb)
        obtain ⟨q, hq⟩ : ∃ q, q = rt ks[j] := ⟨_, rfl⟩
        rw [← hq]
        have HQ := Lib.hid hq
        clear hq
        cases q
        · go_wp2_with fail
          go_ret
          exact ⟨by rw [rt_kid o z nm ks j hz HQ.out.symm]; rfl, HW.out⟩
        · have g0 := cell_at (v := .int .i64 x) HB7.out 0 rfl
          have fg0 := froz_at HB7.out 0
          have g1 := cell_at (v := .bool bb) HB7.out 1 rfl
          have fg1 := froz_at HB7.out 1
          have g2 := cell_at (v := .slice qo ql qc) HB7.out 2 rfl
          have fg2 := froz_at HB7.out 2
          have g3 := cell_at (v := .string ym) HB7.out 3 rfl
          have fg3 := froz_at HB7.out 3
          have g4 := cell_at (v := .slice po pl pc) HB7.out 4 rfl
          have fg4 := froz_at HB7.out 4
          have HIN := Lib.hid (rt_in _ HQ.out.symm)
          go_wp2_with fail
          refine (sorted_p x x4).mono ?_
          rintro e x5 ⟨rfl, hb⟩
          clear g0 fg0 g1 fg1 g2 fg2 g3 fg3 g4 fg4
          replace HBf := kBV hb HBf
          replace HB7 := kBV hb HB7
          replace HX := Lib.hid (HX.out.below hb)
          replace HZ := Lib.hid (HZ.out.below hb)
          replace HW := Lib.hid (HW.out.trans (hb.mono HW.out.size))
          replace HB := Lib.hid (HB.out.trans (hb.mono HB.out.size))
          replace HFC := Lib.hid (HFC.out.below hb)
          have hcv := one_byteL (letS x) (code (srt x)) (letS_code x (by rw [HXX.out]; exact HIN.out)) x5
          obtain ⟨X, hX⟩ : ∃ X, X = letS x := ⟨_, rfl⟩
          obtain ⟨KX, hKX⟩ : ∃ X, X = kidS x := ⟨_, rfl⟩
          obtain ⟨CX, hCX⟩ : ∃ X, X = code (srt x) := ⟨_, rfl⟩
          rw [← hX, ← hCX] at hcv
          rw [← hX, ← hKX]
          have HCX := Lib.hid hCX
          clear hX hKX hCX
          obtain ⟨x6, ky, ey, eky, hby, hky, HBy⟩ := newV x5 #[.int .u8 X] 5
          replace HBf := kBV hby.out HBf
          replace HB7 := kBV hby.out HB7
          replace HX := Lib.hid (HX.out.below hby.out)
          replace HZ := Lib.hid (HZ.out.below hby.out)
          replace HW := Lib.hid (HW.out.trans (hby.out.mono HW.out.size))
          replace HB := Lib.hid (HB.out.trans (hby.out.mono HB.out.size))
          replace HFC := Lib.hid (HFC.out.below hby.out)
          rw [ey, eky] at hcv
          go_wp2_with fail
          go_roundw
          case rel => exact ⟨j + 1, by rw [got_next ks j hz, ← HG.out, HCX.out, HXX.out], by go_num, hlt, Lib.hid (rts_next ks j hz HRS.out HQ.out.symm), HB⟩
          case measure => simp [intOf]; omega
      · have hjk : ks.take j = ks := by rw [show j = kl by omega, HN.out, List.take_length]
        rw [hjk] at HRS ⊢
        obtain ⟨G, hG⟩ : ∃ G, G = gotS ks := ⟨_, rfl⟩
        rw [← hG]
        have HG := Lib.hid hG
        clear hG hjk
        have HRT : Hid (rt (.node o z nm ks) = restL o z ks) := Lib.hid (by rw [rt_restL o z nm ks HO.out, HRS.out, Bool.and_true])
        have c0 := cell_at (v := .int .i64 o) HBf.out 0 rfl
        have fc0 := froz_at HBf.out 0
        have c1 := cell_at (v := .bool b) HBf.out 1 rfl
        have fc1 := froz_at HBf.out 1
        have c2 := cell_at (v := .slice ao l c) HBf.out 2 rfl
        have fc2 := froz_at HBf.out 2
        have c3 := cell_at (v := .string nm) HBf.out 3 rfl
        have fc3 := froz_at HBf.out 3
        have c4 := cell_at (v := .slice ko kl kc) HBf.out 4 rfl
        have fc4 := froz_at HBf.out 4
        by_cases h5 : o = 5
        · subst h5
          go_wp2_with fail
          refine (wsign_any _ z 600 wr HZ.out.gi (by decide)).mono ?_
          rintro e x3 ⟨rfl, hb⟩
          clear c0 fc0 c1 fc1 c2 fc2 c3 fc3 c4 fc4
          replace HBf := kBV hb HBf
          replace HX := Lib.hid (HX.out.below hb)
          replace HZ := Lib.hid (HZ.out.below hb)
          replace HW := Lib.hid (HW.out.trans (hb.mono HW.out.size))
          replace HB := Lib.hid (HB.out.trans (hb.mono HB.out.size))
          by_cases hs : z < 1
          · have hlt : decide (sgnZ z < 1) = true := by unfold sgnZ; (repeat' split) <;> first | rfl | (simp; omega) | (exfalso; omega)
            have HS := Lib.hid hs
            clear hs
            go_wp2_with fail
            go_ret
            exact ⟨by rw [HRT.out, rest_neg HS.out]; rfl, HW.out⟩
          · have hlt : decide (sgnZ z < 1) = false := by unfold sgnZ; (repeat' split) <;> first | rfl | (simp; omega) | (exfalso; omega)
            have H5 : Hid (H5P 5 z) := Lib.hid (fun h => hs h.2)
            clear hs
            by_cases k1 : kw = ⟨#[61]⟩
            · have ek1 : (kw.toList == [61]) = true := by simpa using bs_yes k1
              have Hk1 := Lib.hid k1
              clear k1
              by_cases g1 : G = ⟨#[105, 105]⟩
              · have eg1 : (G.toList == [105, 105]) = true := by simpa using bs_yes g1
                have Hg1 := Lib.hid g1
                clear g1
                go_wp2_with fail
                all_goals go_ret
                all_goals exact ⟨by rw [HRT.out, rest_eq H5.out (by rw [← HKW.out]; exact Hk1.out), ← HG.out, decide_eq_true Hg1.out, Bool.true_or]; rfl, HW.out⟩
              · have eg1 : (G.toList == [105, 105]) = false := by simpa using bs_no g1
                have Hg1 := Lib.hid g1
                clear g1
                by_cases g2 : G = ⟨#[108, 108]⟩
                · have eg2 : (G.toList == [108, 108]) = true := by simpa using bs_yes g2
                  have Hg2 := Lib.hid g2
                  clear g2
                  go_wp2_with fail
                  all_goals go_ret
                  all_goals exact ⟨by rw [HRT.out, rest_eq H5.out (by rw [← HKW.out]; exact Hk1.out), ← HG.out, decide_eq_true Hg2.out, Bool.or_true]; rfl, HW.out⟩
                · have eg2 : (G.toList == [108, 108]) = false := by simpa using bs_no g2
                  have Hg2 := Lib.hid g2
                  clear g2
                  go_wp2_with fail
                  all_goals go_ret
                  all_goals exact ⟨by rw [HRT.out, rest_eq H5.out (by rw [← HKW.out]; exact Hk1.out), ← HG.out, decide_eq_false Hg1.out, decide_eq_false Hg2.out]; rfl, HW.out⟩
            · have ek1 : (kw.toList == [61]) = false := by simpa using bs_no k1
              have Hk1 := Lib.hid k1
              clear k1
              by_cases k2 : kw = ⟨#[42]⟩
              · have ek2 : (kw.toList == [42]) = true := by simpa using bs_yes k2
                have Hk2 := Lib.hid k2
                clear k2
                have hgb := got_bytes ks kl HN.out x3
                rw [← HG.out] at hgb
                obtain ⟨cap, w1, hcv, hbl, hcs⟩ := hgb
                have hW1 := HW.out.trans (hbl.mono HW.out.size)
                obtain ⟨k1, hk1⟩ : ∃ x, x = x3.heap.size := ⟨_, rfl⟩
                rw [← hk1] at hcv hcs
                have HCS := Lib.hid hcs
                have HW1 := Lib.hid hW1
                clear hbl hcs hW1 hk1
                go_wp2_with fail
                go_loopw [65] (fun i wr => ∃ j : Nat, i = .int .i64 (j : Nat) ∧ j ≤ kl ∧ Hid (∀ q (hq : q < ks.length), q < j → srt ks[q].op = 1) ∧ Hid (Below w1.heap.size w1 wr)) (fun i _ => kl - (intOf i).toNat)
                case atStart => exact ⟨0, rfl, Nat.zero_le _, Lib.hid (fun q _ h => absurd h (Nat.not_lt_zero q)), Lib.hid (Below.refl _ _)⟩
                case round =>
                  obtain ⟨i, rfl, hi, HAL, HBB⟩ := hrel
                  by_cases hil : i < kl
                  · have hz : i < ks.length := by rw [← HN.out]; exact hil
                    have hc := HCS.out i hz
                    rw [← HBB.out.cell (cell_lt hc)] at hc
                    obtain ⟨X, hX⟩ : ∃ X : Int, X = ((code (srt ks[i].op)).toNat : Int) := ⟨_, rfl⟩
                    rw [← hX] at hc
                    have hcb := code_b (srt_cases ks[i].op) X hX
                    clear hX
                    rcases hcb with ⟨hs, hx⟩ | ⟨hs, hx⟩
                    · have HS := Lib.hid hs
                      clear hs
                      go_wp2_with fail
                      go_roundw
                      case rel => exact ⟨i + 1, by go_num, hil, Lib.hid (fun q hq h => (Nat.lt_or_ge q i).elim (HAL.out q hq) (fun e => by have e2 : q = i := (by omega); subst e2; exact HS.out)), HBB⟩
                      case measure => simp [intOf]; omega
                    · have HS := Lib.hid hs
                      clear hs
                      go_wp2_with fail
                      all_goals go_ret
                      all_goals exact ⟨by rw [HRT.out, rest_star H5.out (by rw [← HKW.out]; exact Hk2.out), not_b ks i hz HS.out]; rfl, HW1.out.trans (HBB.out.mono HW1.out.size)⟩
                  · go_wp2_with fail
                    all_goals go_ret
                    all_goals exact ⟨by rw [HRT.out, rest_star H5.out (by rw [← HKW.out]; exact Hk2.out), all_b ks (fun q hq => HAL.out q hq (by have := HN.out; omega))]; rfl, HW1.out.trans (HBB.out.mono HW1.out.size)⟩
              · have ek2 : (kw.toList == [42]) = false := by simpa using bs_no k2
                have Hk2 := Lib.hid k2
                clear k2
                by_cases g3 : G = kw
                · have eg3 : (G.toList == kw.toList) = true := bs_yes g3
                  have Hg3 := Lib.hid g3
                  clear g3
                  go_wp2_with fail
                  all_goals go_ret
                  all_goals exact ⟨by rw [HRT.out, rest_other H5.out (by rw [← HKW.out]; exact Hk1.out) (by rw [← HKW.out]; exact Hk2.out), ← HG.out, ← HKW.out, decide_eq_true Hg3.out]; rfl, HW.out⟩
                · have eg3 : (G.toList == kw.toList) = false := bs_no g3
                  have Hg3 := Lib.hid g3
                  clear g3
                  go_wp2_with fail
                  all_goals go_ret
                  all_goals exact ⟨by rw [HRT.out, rest_other H5.out (by rw [← HKW.out]; exact Hk1.out) (by rw [← HKW.out]; exact Hk2.out), ← HG.out, ← HKW.out, decide_eq_false Hg3.out]; rfl, HW.out⟩
        · have hn5 : (o == 5) = false := beq_eq_false_iff_ne.2 h5
          have H5 : Hid (H5P o z) := Lib.hid (fun h => h5 h.1)
          clear h5
          by_cases k1 : kw = ⟨#[61]⟩
          · have ek1 : (kw.toList == [61]) = true := by simpa using bs_yes k1
            have Hk1 := Lib.hid k1
            clear k1
            by_cases g1 : G = ⟨#[105, 105]⟩
            · have eg1 : (G.toList == [105, 105]) = true := by simpa using bs_yes g1
              have Hg1 := Lib.hid g1
              clear g1
              go_wp2_with fail
              all_goals go_ret
              all_goals exact ⟨by rw [HRT.out, rest_eq H5.out (by rw [← HKW.out]; exact Hk1.out), ← HG.out, decide_eq_true Hg1.out, Bool.true_or]; rfl, HW.out⟩
            · have eg1 : (G.toList == [105, 105]) = false := by simpa using bs_no g1
              have Hg1 := Lib.hid g1
              clear g1
              by_cases g2 : G = ⟨#[108, 108]⟩
              · have eg2 : (G.toList == [108, 108]) = true := by simpa using bs_yes g2
                have Hg2 := Lib.hid g2
                clear g2
                go_wp2_with fail
                all_goals go_ret
                all_goals exact ⟨by rw [HRT.out, rest_eq H5.out (by rw [← HKW.out]; exact Hk1.out), ← HG.out, decide_eq_true Hg2.out, Bool.or_true]; rfl, HW.out⟩
              · have eg2 : (G.toList == [108, 108]) = false := by simpa using bs_no g2
                have Hg2 := Lib.hid g2
                clear g2
                go_wp2_with fail
                all_goals go_ret
                all_goals exact ⟨by rw [HRT.out, rest_eq H5.out (by rw [← HKW.out]; exact Hk1.out), ← HG.out, decide_eq_false Hg1.out, decide_eq_false Hg2.out]; rfl, HW.out⟩
          · have ek1 : (kw.toList == [61]) = false := by simpa using bs_no k1
            have Hk1 := Lib.hid k1
            clear k1
            by_cases k2 : kw = ⟨#[42]⟩
            · have ek2 : (kw.toList == [42]) = true := by simpa using bs_yes k2
              have Hk2 := Lib.hid k2
              clear k2
              have hgb := got_bytes ks kl HN.out wr
              rw [← HG.out] at hgb
              obtain ⟨cap, w1, hcv, hbl, hcs⟩ := hgb
              have hW1 := HW.out.trans (hbl.mono HW.out.size)
              obtain ⟨k1, hk1⟩ : ∃ x, x = wr.heap.size := ⟨_, rfl⟩
              rw [← hk1] at hcv hcs
              have HCS := Lib.hid hcs
              have HW1 := Lib.hid hW1
              clear hbl hcs hW1 hk1
              go_wp2_with fail
              go_loopw [65] (fun i wr => ∃ j : Nat, i = .int .i64 (j : Nat) ∧ j ≤ kl ∧ Hid (∀ q (hq : q < ks.length), q < j → srt ks[q].op = 1) ∧ Hid (Below w1.heap.size w1 wr)) (fun i _ => kl - (intOf i).toNat)
              case atStart => exact ⟨0, rfl, Nat.zero_le _, Lib.hid (fun q _ h => absurd h (Nat.not_lt_zero q)), Lib.hid (Below.refl _ _)⟩
              case round =>
                obtain ⟨i, rfl, hi, HAL, HBB⟩ := hrel
                by_cases hil : i < kl
                · have hz : i < ks.length := by rw [← HN.out]; exact hil
                  have hc := HCS.out i hz
                  rw [← HBB.out.cell (cell_lt hc)] at hc
                  obtain ⟨X, hX⟩ : ∃ X : Int, X = ((code (srt ks[i].op)).toNat : Int) := ⟨_, rfl⟩
                  rw [← hX] at hc
                  have hcb := code_b (srt_cases ks[i].op) X hX
                  clear hX
                  rcases hcb with ⟨hs, hx⟩ | ⟨hs, hx⟩
                  · have HS := Lib.hid hs
                    clear hs
                    go_wp2_with fail
                    go_roundw
                    case rel => exact ⟨i + 1, by go_num, hil, Lib.hid (fun q hq h => (Nat.lt_or_ge q i).elim (HAL.out q hq) (fun e => by have e2 : q = i := (by omega); subst e2; exact HS.out)), HBB⟩
                    case measure => simp [intOf]; omega
                  · have HS := Lib.hid hs
                    clear hs
                    go_wp2_with fail
                    all_goals go_ret
                    all_goals exact ⟨by rw [HRT.out, rest_star H5.out (by rw [← HKW.out]; exact Hk2.out), not_b ks i hz HS.out]; rfl, HW1.out.trans (HBB.out.mono HW1.out.size)⟩
                · go_wp2_with fail
                  all_goals go_ret
                  all_goals exact ⟨by rw [HRT.out, rest_star H5.out (by rw [← HKW.out]; exact Hk2.out), all_b ks (fun q hq => HAL.out q hq (by have := HN.out; omega))]; rfl, HW1.out.trans (HBB.out.mono HW1.out.size)⟩
            · have ek2 : (kw.toList == [42]) = false := by simpa using bs_no k2
              have Hk2 := Lib.hid k2
              clear k2
              by_cases g3 : G = kw
              · have eg3 : (G.toList == kw.toList) = true := bs_yes g3
                have Hg3 := Lib.hid g3
                clear g3
                go_wp2_with fail
                all_goals go_ret
                all_goals exact ⟨by rw [HRT.out, rest_other H5.out (by rw [← HKW.out]; exact Hk1.out) (by rw [← HKW.out]; exact Hk2.out), ← HG.out, ← HKW.out, decide_eq_true Hg3.out]; rfl, HW.out⟩
              · have eg3 : (G.toList == kw.toList) = false := bs_no g3
                have Hg3 := Lib.hid g3
                clear g3
                go_wp2_with fail
                all_goals go_ret
                all_goals exact ⟨by rw [HRT.out, rest_other H5.out (by rw [← HKW.out]; exact Hk1.out) (by rw [← HKW.out]; exact Hk2.out), ← HG.out, ← HKW.out, decide_eq_false Hg3.out]; rfl, HW.out⟩
end Go.Proofs.Ytdkfnbbebpbhaaa

/-
  The law's other: one part of a form gets another op.
-/
namespace Go.Proofs.Ytdkfnbbebpbhaaa
open Go.RowKit
set_option maxRecDepth 100000
set_option linter.unusedVariables false
set_option linter.unusedSimpArgs false

attribute [local go_sem] fieldV0 fieldV1 fieldV2 fieldV3
/-- A copy of a list of forms, made by append to nil. -/
theorem fR_copy {w : World} {a : Addr} {us : List FU} (h : ∀ i (hi : i < us.length) j u, (fC us[i])[j]? = some u → w.cell? ((a.add (i * 5)).add j) = some u) (hne : 0 < us.length) (hlen : us.length ≤ 1000) (c : Nat) (ty : TypeId) :
    ∃ g cap w', (Builtin.append_ #[27, 27] ty #[.slice none 0 0, .slice (some a) us.length c]).run Try.prog w = .ok (.slice (some ⟨g, 0, none⟩) us.length cap) w' ∧ fR.Row w' w.heap.size (.slice (some ⟨g, 0, none⟩) us.length cap) us ∧ Below w.heap.size w w' ∧ us.length ≤ cap ∧ cap ≤ maxLen := by
  obtain ⟨i, hi, hz, hz1, hz2⟩ := info_parts fR.info
  have hl : (us.flatMap fC).length = us.length * 5 := flat_lenV (n := 5) fC (fun _ => rfl) us
  have hnews : ∀ j u, (us.flatMap fC)[j]? = some u → w.cell? (a.add j) = some u := by
    intro j u hu
    have hjl : j < us.length * 5 := by have := (List.getElem?_eq_some_iff.1 hu).1; rwa [hl] at this
    have hi : j / 5 < us.length := by omega
    have hd : j / 5 * 5 + j % 5 = j := by omega
    have := h (j / 5) hi (j % 5) u (by rw [← flat_atV (n := 5) fC (fun _ => rfl) us (j / 5) (j % 5) hi (by omega), hd]; exact hu)
    rwa [add_addV, hd] at this
  have h1 : ∀ u ∈ us.flatMap fC, u.oneCell' = true := fun u hu => by
    obtain ⟨b, _, hb⟩ := List.mem_flatMap.1 hu
    exact fR.one b u hb
  have h32 : N32 (us.flatMap fC) := N32.flat fR.n32
  have hn0 := World.ownsRow_nil w w.heap.size fR.e 5
  obtain ⟨v', w', hr, h2, h3, h4⟩ := run_append_own (P := Try.prog) w w.heap.size fR.t ty fR.e i fR.z fR.n fR.b fR.ht hi hz hz1 hz2 fR.zs fR.pos (.slice none 0 0) 0 [] hn0 a us.length c _ hl hnews h1 (by unfold maxLen; omega) (by show (0 + us.length) * 80 ≤ _; omega) (Nat.le_refl _)
  rw [Nat.zero_add, List.nil_append] at h2
  have hrow : fR.Row w' w.heap.size v' us := by
    refine ⟨h2, fun g hg => ?_, fun _ _ => trivial⟩
    have hl2 := hl
    have hr2 := run_append_nil (P := Try.prog) w fR.t ty fR.e i fR.z fR.ht hi hz a us.length c (us.flatMap fC) (by rw [hz1]; exact hl2) hnews (by omega) (by omega) (by rw [hz2]; show us.length * 80 ≤ _; omega)
    rw [hr] at hr2
    injection hr2 with e1 e2
    subst e1 e2
    injection hg with hg
    subst hg
    exact ⟨_, heap_alloc_new w.drew _, by simp only [Array.toList_append, List.toList_toArray]; exact h32.app (N32.zeros fR.z32 _)⟩
  have hb : Below w.heap.size w w' := ⟨h3.os, h3.tape, h3.output, h3.size, fun k hk => h3.block k hk (by intro e; cases e)⟩
  rcases h2.2 with ⟨-, h0⟩ | ⟨g', cap, cur, hv, _, _, hn, hc, _⟩
  · omega
  · subst hv
    exact ⟨g', cap, w', hr, hrow, hb, hn, hc⟩
/-- The copy, as an operation. -/
theorem fR_copyL {w : World} {a : Addr} {us : List FU} (h : ∀ i (hi : i < us.length) j u, (fC us[i])[j]? = some u → w.cell? ((a.add (i * 5)).add j) = some u) (hne : 0 < us.length) (hlen : us.length ≤ 1000) {ops : Array Oper} {rest : List Oper} {o : Oper} {t : Act} {Q : Exit → Act → World → Prop} (hgd : o.guard = none) (s y : Operand) (c n : Nat) (hn : n = us.length)
    (ho : o.op = .call { callee := .builtin .append, args := #[s, y], argTypes := #[27, 27] }) (hs : t.eval s = .slice none 0 0) (hx : t.eval y = .slice (some a) n c)
    (hK : ∀ g cap w', fR.Row w' w.heap.size (.slice (some ⟨g, 0, none⟩) n cap) us → Below w.heap.size w w' → n ≤ cap → cap ≤ maxLen → wpList Try.prog ops Q rest (t.put o.dst (.slice (some ⟨g, 0, none⟩) n cap)) w') : wpList Try.prog ops Q (o :: rest) t w := by
  subst hn
  refine wpList_plain hgd fun K hk => ?_
  obtain ⟨g, cap, w', hr, h1, h2, h3, h4⟩ := fR_copy h hne hlen c o.type
  unfold Oper.wp execOp
  simp only [ho, resolve, invoke, builtin, Sem.run_bind, Sem.run_pure, Result.andThen_ok, List.map_toArray, List.map_cons, List.map_nil, hs, hx]
  rw [hr]
  exact hk _ _ (hK g cap w' h1 h2 h3 h4)
/-- A list of forms: its elements' cells. -/
theorem FL.units {w : World} {S : Nat → Prop} {d : Nat} {ko : Option Addr} {n kc : Nat} {ts : List F} (h : FL w S d (.slice ko n kc) ts) (hn : 0 < ts.length) : ∃ (a : Addr) (us : List FU), ko = some a ∧ us.length = ts.length ∧ (∀ i (hi : i < us.length) j u, (fC us[i])[j]? = some u → w.cell? ((a.add (i * 5)).add j) = some u) ∧ (∀ i (h1 : i < us.length) (h2 : i < ts.length), FT w (fun g => S g ∧ g < w.heap.size) d us[i] ts[i]) := by
  obtain ⟨el, ⟨ko', kc', e, h1, h2, h3⟩, rfl⟩ := h
  injection e with e1 e2 e3
  subst e1
  rw [List.length_map] at hn
  obtain ⟨a, ha, -⟩ := (h3 0 hn).1
  refine ⟨a, el.map (·.1), ha, by simp, fun i hi j u hu => ?_, fun i h1 h2 => ?_⟩
  · have hi' : i < el.length := by simpa using hi
    obtain ⟨b, hb, hc⟩ := (h3 i hi').1
    rw [ha] at hb
    injection hb with hb
    subst hb
    rw [List.getElem_map] at hu
    exact hc j u hu
  · rw [List.getElem_map, List.getElem_map]
    exact (h3 i (by simpa using h1)).2.lt
theorem FL.ltF {w : World} {S : Nat → Prop} {d : Nat} {v : Value} {ts : List F} (h : FL w S d v ts) : FL w (fun g => S g ∧ g < w.heap.size) d v ts := by
  obtain ⟨el, h1, h2⟩ := h
  exact ⟨el, h1.lt, h2⟩
/-- The list with one element turned, of which all lies where it is to. -/
theorem FL.turned {w : World} {B g n cap d : Nat} {us : List FU} {ts : List F} {S : Nat → Prop} (hrow : fR.Row w B (.slice (some ⟨g, 0, none⟩) n cap) us) (hn : n = us.length) (hl : us.length = ts.length) (hS : S g) (h : ∀ i (h1 : i < us.length) (h2 : i < ts.length), FT w S d us[i] ts[i]) : FL w S d (.slice (some ⟨g, 0, none⟩) n cap) ts := by
  subst hn
  have hz : (us.zip ts).length = us.length := by rw [List.length_zip, hl, Nat.min_self]
  obtain ⟨vo, vc, hv, h1, h2, h3⟩ := hrow.form
  injection hv with e1 e2 e3
  subst e3
  refine ⟨us.zip ts, ⟨_, cap, by rw [hz], ⟨by rw [hz]; exact h1, h2, fun h => by cases h⟩, fun _ a ha => ?_, fun i hi => ?_⟩, List.map_snd_zip (by rw [hl]; exact Nat.le_refl _)⟩
  · injection ha with ha; subst ha; exact hS
  · have hi1 : i < us.length := by rw [hz] at hi; exact hi
    have hi2 : i < ts.length := by rw [← hl]; exact hi1
    rw [List.getElem_zip]
    exact ⟨own_atF fC (fun _ => rfl) rfl hrow.own i hi1, h i hi1 hi2⟩
theorem Tm.kid {d : Nat} {t : F} (h : Tm (d + 1) t) : t.kids.length ≤ 3 ∧ ∀ k ∈ t.kids, Tm d k := ⟨h.2.2.2.1, h.2.2.2.2⟩
set_option maxHeartbeats 20000000 in
theorem other_p (d : Nat) : ∀ (v : Value) (t : F) (S : Nat → Prop) (w : World) (p q : Int), FC w S d v t → Tm d t → 0 ≤ p → p ≤ 65535 → IR q →
    Calls Try.prog 15 #[v, .int .i64 p, .int .i64 q] w fun e w' => ∃ v' t', e = .returned v' ∧ FC w' (fun b => S b ∨ w.heap.size ≤ b) d v' t' ∧ Below w.heap.size w w' := by
  induction d with
  | zero => intro v t S w p q h; obtain ⟨_, _, _, _, _, _, _, _, _, h0, _⟩ := h.open; omega
  | succ d ih =>
    intro v t S w p q h htm hp0 hp1 hq
    obtain ⟨b, ao, l, c, ko, kl, kc, rfl, ⟨hr, hz, hkl, hkc, hkm⟩, -, hk⟩ := h.open
    obtain ⟨hk3, hkt⟩ := htm.kid
    obtain ⟨o, z, nm, ks⟩ := t
    simp only [F.op, F.num, F.name, F.kids] at hr hz hk hkl hk3 hkt ⊢
    have HN := Lib.hid hkl
    have HZ := Lib.hid hz
    have HQ := Lib.hid hq
    have HO := Lib.hid hr
    have HK3 := Lib.hid hk3
    have HKT := Lib.hid hkt
    clear hz h htm hr hk3 hkt
    have HX := Lib.hid hk
    have IH := Lib.hid ih
    have HP0 := Lib.hid hp0
    have HP1 := Lib.hid hp1
    clear hk ih hp0 hp1
    have HW := Lib.hid (Below.refl w.heap.size w)
    have hkm' : kc ≤ 9223372036854775807 := hkm
    clear hkl hq
    have HZ0 := HZ
    have HX0 := HX
    have hleaf : Hid (∀ W : World, Hid (Below w.heap.size w W) → FC W (fun b => S b ∨ w.heap.size ≤ b) (d + 1) (.agg #[.int .i64 q, .bool b, .slice ao l c, .string nm, .slice ko kl kc]) (.node q z nm ks)) := Lib.hid (fun W hW => FC.mk HQ.out (HZ0.out.below hW.out) ((HX0.out.below hW.out).mono fun b h => Or.inl h))
    go_enter Try.func15, Try.ntmps15
    obtain ⟨x1, kf, ef, ekf, hbf, hkf, HBf⟩ := newV w #[.int .i64 o, .bool b, .slice ao l c, .string nm, .slice ko kl kc] 29
    replace HX := Lib.hid (HX.out.below hbf.out)
    replace HW := Lib.hid (HW.out.trans (hbf.out.mono HW.out.size))
    replace HZ := Lib.hid (HZ.out.below hbf.out)
    have HLF := Lib.hid (lt_of_block HBf.out)
    obtain ⟨x2, kr, er, ekr, hbr, hkr, HBr⟩ := newV x1 #[.int .i64 0, .bool false, .slice none 0 0, .string ⟨#[]⟩, .slice none 0 0] 29
    replace HBf := kBV hbr.out HBf
    replace HX := Lib.hid (HX.out.below hbr.out)
    replace HW := Lib.hid (HW.out.trans (hbr.out.mono HW.out.size))
    replace HZ := Lib.hid (HZ.out.below hbr.out)
    have HKF : Hid (w.heap.size ≤ kf) := hkf
    have HKR : Hid (w.heap.size ≤ kr) := Lib.hid (by have h1 := hbf.out.size; have h3 := hkr.out; omega)
    have HFR : Hid (kf < kr) := Lib.hid (by have h1 := HLF.out; have h3 := hkr.out; omega)
    have HLR0 := Lib.hid (lt_of_block HBr.out)
    by_cases hpz : p = 0
    · subst hpz
      have c0 := cell_at (v := .int .i64 o) HBf.out 0 rfl
      have fc0 := froz_at HBf.out 0
      have c1 := cell_at (v := .bool b) HBf.out 1 rfl
      have fc1 := froz_at HBf.out 1
      have c2 := cell_at (v := .slice ao l c) HBf.out 2 rfl
      have fc2 := froz_at HBf.out 2
      have c3 := cell_at (v := .string nm) HBf.out 3 rfl
      have fc3 := froz_at HBf.out 3
      have c4 := cell_at (v := .slice ko kl kc) HBf.out 4 rfl
      have fc4 := froz_at HBf.out 4
      go_upto_region 3 with fail
      clear c0 fc0 c1 fc1 c2 fc2 c3 fc3 c4 fc4
      have hg1 : x2.grownBy (x2.setCell ⟨kf, 0, none⟩ (.int .i64 q)) (some kf) := grown_setCell (World.grownBy.refl _ _) _
      have hf1 := heap_setCell_same x2 kf 0 _ _ (.int .i64 q) HBf.out
      obtain ⟨W1, hW1⟩ : ∃ y, y = x2.setCell ⟨kf, 0, none⟩ (.int .i64 q) := ⟨_, rfl⟩
      rw [← hW1] at hg1 hf1 ⊢
      have hr1 := (hg1.block kr (lt_of_block HBr.out) (fun e => by injection e with e; have := HFR.out; omega)).trans HBr.out
      have HW1 := Lib.hid (ext_below HW.out hg1 HKF.out)
      replace HBf : Hid (W1.heap[kf]? = some (.cells #[.int .i64 q, .bool b, .slice ao l c, .string nm, .slice ko kl kc] 29 (0, 0))) := Lib.hid hf1
      replace HBr := Lib.hid hr1
      clear hg1 hf1 hW1 hr1
      have c0 := cell_at (v := .int .i64 q) HBf.out 0 rfl
      have fc0 := froz_at HBf.out 0
      have c1 := cell_at (v := .bool b) HBf.out 1 rfl
      have fc1 := froz_at HBf.out 1
      have c2 := cell_at (v := .slice ao l c) HBf.out 2 rfl
      have fc2 := froz_at HBf.out 2
      have c3 := cell_at (v := .string nm) HBf.out 3 rfl
      have fc3 := froz_at HBf.out 3
      have c4 := cell_at (v := .slice ko kl kc) HBf.out 4 rfl
      have fc4 := froz_at HBf.out 4
      have r0 := cell_at (v := .int .i64 0) HBr.out 0 rfl
      have fr0 := froz_at HBr.out 0
      have r1 := cell_at (v := .bool false) HBr.out 1 rfl
      have fr1 := froz_at HBr.out 1
      have r2 := cell_at (v := .slice none 0 0) HBr.out 2 rfl
      have fr2 := froz_at HBr.out 2
      have r3 := cell_at (v := .string ⟨#[]⟩) HBr.out 3 rfl
      have fr3 := froz_at HBr.out 3
      have r4 := cell_at (v := .slice none 0 0) HBr.out 4 rfl
      have fr4 := froz_at HBr.out 4
      go_wp2_with fail
      have hbF := ext_below HW1.out (grown5V (w := W1) (k := kr) (.int .i64 q) (.bool b) (.slice ao l c) (.string nm) (.slice ko kl kc)) HKR.out
      (try simp only [Exit.inBlock, Exit.then])
      exact bodyPost_ret (v := .agg #[.int .i64 q, .bool b, .slice ao l c, .string nm, .slice ko kl kc]) (by simp [results, Try.results15, go_sem, r0, r1, r2, r3, r4]) rfl ⟨_, _, rfl, hleaf.out _ (Lib.hid hbF), hbF⟩
    · have hpf : (p == 0) = false := beq_eq_false_iff_ne.2 hpz
      have hpn := HP0.out
      obtain ⟨pn, rfl⟩ : ∃ pn : Nat, p = pn := ⟨p.toNat, by omega⟩
      have HPP := Lib.hid hpz
      clear hpz hpn
      by_cases hnz : kl = 0
      · have hkz : (((kl : Nat) : Int) == 0) = true := by rw [hnz]; rfl
        clear hnz
        have c0 := cell_at (v := .int .i64 o) HBf.out 0 rfl
        have fc0 := froz_at HBf.out 0
        have c1 := cell_at (v := .bool b) HBf.out 1 rfl
        have fc1 := froz_at HBf.out 1
        have c2 := cell_at (v := .slice ao l c) HBf.out 2 rfl
        have fc2 := froz_at HBf.out 2
        have c3 := cell_at (v := .string nm) HBf.out 3 rfl
        have fc3 := froz_at HBf.out 3
        have c4 := cell_at (v := .slice ko kl kc) HBf.out 4 rfl
        have fc4 := froz_at HBf.out 4
        go_upto_region 3 with fail
        clear c0 fc0 c1 fc1 c2 fc2 c3 fc3 c4 fc4
        have hg1 : x2.grownBy (x2.setCell ⟨kf, 0, none⟩ (.int .i64 q)) (some kf) := grown_setCell (World.grownBy.refl _ _) _
        have hf1 := heap_setCell_same x2 kf 0 _ _ (.int .i64 q) HBf.out
        obtain ⟨W1, hW1⟩ : ∃ y, y = x2.setCell ⟨kf, 0, none⟩ (.int .i64 q) := ⟨_, rfl⟩
        rw [← hW1] at hg1 hf1 ⊢
        have hr1 := (hg1.block kr (lt_of_block HBr.out) (fun e => by injection e with e; have := HFR.out; omega)).trans HBr.out
        have HW1 := Lib.hid (ext_below HW.out hg1 HKF.out)
        replace HBf : Hid (W1.heap[kf]? = some (.cells #[.int .i64 q, .bool b, .slice ao l c, .string nm, .slice ko kl kc] 29 (0, 0))) := Lib.hid hf1
        replace HBr := Lib.hid hr1
        clear hg1 hf1 hW1 hr1
        have c0 := cell_at (v := .int .i64 q) HBf.out 0 rfl
        have fc0 := froz_at HBf.out 0
        have c1 := cell_at (v := .bool b) HBf.out 1 rfl
        have fc1 := froz_at HBf.out 1
        have c2 := cell_at (v := .slice ao l c) HBf.out 2 rfl
        have fc2 := froz_at HBf.out 2
        have c3 := cell_at (v := .string nm) HBf.out 3 rfl
        have fc3 := froz_at HBf.out 3
        have c4 := cell_at (v := .slice ko kl kc) HBf.out 4 rfl
        have fc4 := froz_at HBf.out 4
        have r0 := cell_at (v := .int .i64 0) HBr.out 0 rfl
        have fr0 := froz_at HBr.out 0
        have r1 := cell_at (v := .bool false) HBr.out 1 rfl
        have fr1 := froz_at HBr.out 1
        have r2 := cell_at (v := .slice none 0 0) HBr.out 2 rfl
        have fr2 := froz_at HBr.out 2
        have r3 := cell_at (v := .string ⟨#[]⟩) HBr.out 3 rfl
        have fr3 := froz_at HBr.out 3
        have r4 := cell_at (v := .slice none 0 0) HBr.out 4 rfl
        have fr4 := froz_at HBr.out 4
        go_wp2_with fail
        have hbF := ext_below HW1.out (grown5V (w := W1) (k := kr) (.int .i64 q) (.bool b) (.slice ao l c) (.string nm) (.slice ko kl kc)) HKR.out
        (try simp only [Exit.inBlock, Exit.then])
        exact bodyPost_ret (v := .agg #[.int .i64 q, .bool b, .slice ao l c, .string nm, .slice ko kl kc]) (by simp [results, Try.results15, go_sem, r0, r1, r2, r3, r4]) rfl ⟨_, _, rfl, hleaf.out _ (Lib.hid hbF), hbF⟩
      · have hkz : (((kl : Nat) : Int) == 0) = false := beq_eq_false_iff_ne.2 (by omega)
        have hkp : 0 < ks.length := by rw [← HN.out]; omega
        have HKP := Lib.hid hnz
        clear hnz
        obtain ⟨a, us, hka, hul, hcs, hft⟩ := HX0.out.units hkp
        subst hka
        have HUL := Lib.hid (HN.out.trans hul.symm)
        have HCS := Lib.hid hcs
        have HFT := Lib.hid hft
        clear hul hcs hft hkp hleaf
        have c0 := cell_at (v := .int .i64 o) HBf.out 0 rfl
        have fc0 := froz_at HBf.out 0
        have c1 := cell_at (v := .bool b) HBf.out 1 rfl
        have fc1 := froz_at HBf.out 1
        have c2 := cell_at (v := .slice ao l c) HBf.out 2 rfl
        have fc2 := froz_at HBf.out 2
        have c3 := cell_at (v := .string nm) HBf.out 3 rfl
        have fc3 := froz_at HBf.out 3
        have c4 := cell_at (v := .slice (some a) kl kc) HBf.out 4 rfl
        have fc4 := froz_at HBf.out 4
        go_upto_region 4 with fail
        obtain ⟨x3, ku, eu, eku, hbu, hku, HBu⟩ := newV x2 #[.int .i64 o, .bool b, .slice ao l c, .string nm, .slice (some a) kl kc] 29
        replace HBf := kBV hbu.out HBf
        replace HBr := kBV hbu.out HBr
        replace HX := Lib.hid (HX.out.below hbu.out)
        replace HW := Lib.hid (HW.out.trans (hbu.out.mono HW.out.size))
        replace HZ := Lib.hid (HZ.out.below hbu.out)
        go_upto_region 5 with fail
        clear c0 fc0 c1 fc1 c2 fc2 c3 fc3 c4 fc4
        have HKU : Hid (w.heap.size ≤ ku) := Lib.hid (by have h1 := HKR.out; have h2 := hku.out; have h3 := hbr.out.size; have h4 := hbf.out.size; omega)
        have c0 := cell_at (v := .int .i64 o) HBf.out 0 rfl
        have fc0 := froz_at HBf.out 0
        have c1 := cell_at (v := .bool b) HBf.out 1 rfl
        have fc1 := froz_at HBf.out 1
        have c2 := cell_at (v := .slice ao l c) HBf.out 2 rfl
        have fc2 := froz_at HBf.out 2
        have c3 := cell_at (v := .string nm) HBf.out 3 rfl
        have fc3 := froz_at HBf.out 3
        have c4 := cell_at (v := .slice (some a) kl kc) HBf.out 4 rfl
        have fc4 := froz_at HBf.out 4
        go_upto_region 6 with (at_builtin; refine fR_copyL (w := x3) (fun i hi j u hu => (HW.out.cell (cell_lt (HCS.out i hi j u hu))).trans (HCS.out i hi j u hu)) (by have := HUL.out; have := HKP.out; omega) (by have := HUL.out; have := HN.out; have := HK3.out; omega) rfl (.const (.slice none 0 0)) (.tmp 22) kc kl HUL.out rfl rfl rfl ?_; intro g cap w9 r1 r2 r3 r4; have HU9 := Lib.hid ((r2.block ku (lt_of_block HBu.out)).trans HBu.out); have HW9 := Lib.hid (HW.out.trans (r2.mono HW.out.size)); have oc4 := cell_at (v := .slice (some a) kl kc) HU9.out 4 rfl; have fo4 := froz_at HU9.out 4; have HR9 := Lib.hid r1; have HBB := Lib.hid r2; have HC3 := Lib.hid r3; have HC4 := Lib.hid r4; clear r1 r2 r3 r4)
        have hg1 : w9.grownBy (w9.setCell ⟨ku, 4, none⟩ (.slice (some ⟨g, 0, none⟩) kl cap)) (some ku) := grown_setCell (World.grownBy.refl _ _) _
        have hu1 := heap_setCell_same w9 ku 4 _ _ (.slice (some ⟨g, 0, none⟩) kl cap) HU9.out
        obtain ⟨W1, hW1⟩ : ∃ y, y = w9.setCell ⟨ku, 4, none⟩ (.slice (some ⟨g, 0, none⟩) kl cap) := ⟨_, rfl⟩
        rw [← hW1] at hg1 hu1 ⊢
        have HGB : Hid (x3.heap.size ≤ g) := Lib.hid (HR9.out.ge rfl).1
        have HGS : Hid (g < w9.heap.size) := Lib.hid (HR9.out.ge rfl).2
        have HLU := Lib.hid (lt_of_block HBu.out)
        have hfB : Fr 29 w9 W1 := .of_grown hg1 (fun j hj => by injection hj with hj; subst hj; exact ⟨_, HU9.out, n32_F⟩)
        have HROW := Lib.hid (HR9.out.other2 hg1 (fun j hj e => by have hj2 : g = j := (by simpa [Value.ownBlock] using hj); have h1 := HGB.out; have h2 := HLU.out; omega) hfB trivial)
        replace HW := Lib.hid (ext_below HW9.out hg1 HKU.out)
        have HLF3 := Lib.hid (lt_of_block HBf.out)
        have HLR3 := Lib.hid (lt_of_block HBr.out)
        replace HBf := Lib.hid ((hg1.block kf (by have h1 := HLF3.out; have h2 := HBB.out.size; omega) (fun e => by injection e with e; have h1 := HLF.out; have h2 := hku.out; have h3 := hbr.out.size; omega)).trans ((HBB.out.block kf HLF3.out).trans HBf.out))
        replace HBr := Lib.hid ((hg1.block kr (by have h1 := HLR3.out; have h2 := HBB.out.size; omega) (fun e => by injection e with e; have h2 := hku.out; have h3 := HLR0.out; omega)).trans ((HBB.out.block kr HLR3.out).trans HBr.out))
        have HLR1 := Lib.hid (lt_of_block HBr.out)
        replace HBu := Lib.hid hu1
        have HGS1 : Hid (g < W1.heap.size) := Lib.hid (Nat.lt_of_lt_of_le HGS.out hg1.size)
        clear hg1 hu1 hW1 hfB
        obtain ⟨j, hj⟩ : ∃ j, j = pn % kl := ⟨_, rfl⟩
        obtain ⟨m, hm⟩ : ∃ m, m = pn / kl := ⟨_, rfl⟩
        have htm : ((pn : Nat) : Int).tmod ((kl : Nat) : Int) = ((j : Nat) : Int) := by rw [hj]; exact (Int.ofNat_tmod pn kl).symm
        have htd : ((pn : Nat) : Int).tdiv ((kl : Nat) : Int) = ((m : Nat) : Int) := by rw [hm]; exact (Int.ofNat_tdiv pn kl).symm
        have hjl : j < kl := by rw [hj]; exact Nat.mod_lt _ (by have := HKP.out; omega)
        have hmle : (m : Int) ≤ 65535 := by have h1 := HP1.out; have h2 : m ≤ pn := (by rw [hm]; exact Nat.div_le_self _ _); omega
        have hwm : IntKind.i64.wrap ((m : Nat) : Int) = ((m : Nat) : Int) := IntWalk.i64_in _ (by omega)
        have HML := Lib.hid hmle
        have hjs : j < ks.length := by rw [← HN.out]; exact hjl
        have HJS := Lib.hid hjs
        clear hj hm hmle hjs
        have c0 := cell_at (v := .int .i64 o) HBf.out 0 rfl
        have fc0 := froz_at HBf.out 0
        have c1 := cell_at (v := .bool b) HBf.out 1 rfl
        have fc1 := froz_at HBf.out 1
        have c2 := cell_at (v := .slice ao l c) HBf.out 2 rfl
        have fc2 := froz_at HBf.out 2
        have c3 := cell_at (v := .string nm) HBf.out 3 rfl
        have fc3 := froz_at HBf.out 3
        have c4 := cell_at (v := .slice (some a) kl kc) HBf.out 4 rfl
        have fc4 := froz_at HBf.out 4
        go_upto_region 7 with fail
        clear c0 fc0 c1 fc1 c2 fc2 c3 fc3 c4 fc4
        obtain ⟨a2, x1b, qo, ql, qc, po, pl, pc, hka2, hcel, hfk⟩ := (HX0.out.ltF.below HW.out).cells j HJS.out
        injection hka2 with hka2
        subst hka2
        obtain ⟨S1, hS1⟩ : ∃ x : Nat → Prop, x = (fun b => S b ∧ b < w.heap.size) := ⟨_, rfl⟩
        rw [← hS1] at hfk
        have HS1 : Hid (∀ b, S1 b → S b ∧ b < w.heap.size) := Lib.hid (fun b h => by rw [hS1] at h; exact h)
        have HCEL := Lib.hid hcel
        have HFK := Lib.hid hfk
        clear hcel hfk hS1
        have HW1S := Lib.hid HW.out.size
        obtain ⟨xo, hxo⟩ : ∃ x, x = (ks[j]'HJS.out).op := ⟨_, rfl⟩
        obtain ⟨xn, hxn⟩ : ∃ x, x = (ks[j]'HJS.out).name := ⟨_, rfl⟩
        rw [← hxo, ← hxn] at HCEL HFK
        clear hxo hxn
        have hlt_f := lt_of_block HBf.out
        have hlt_u := lt_of_block HBu.out
        have hog : Hid (∀ q, q < 0 → (fun q => 0) q < W1.heap.size) := Lib.hid (fun q h => absurd h (Nat.not_lt_zero _))
        refine Rel7.region (by kernel_rfl) [[], [0], [], [], [3], [], [3, 4, 5], [3, 4, 5, 6], [], [], [9], [9, 10], [8, 9, 10, 11], [], [3, 4, 5, 6, 7, 8, 9, 10, 11, 12, 13], [0, 1, 2, 3, 4, 5, 6, 7, 8, 9, 10, 11, 12, 13, 14], [0, 1, 2, 3, 4, 5, 6, 7, 8, 9, 10, 11, 12, 13, 14, 15]] [] [] (fun q => 0) 0 15 (by kernel_rfl) (by kernel_rfl) (by rfl) hog.out (fun q q' h h' hn => absurd hn (by omega)) ?_
        refine Rel7.Chain.det ?_ (by rfl) (fun T xs wr hA => ?_) ?_
        rotate_left 1
        · have e7 := hA.pre 7 (by kernel_rfl)
          simp only [List.getElem?_toArray, List.getElem?_cons_succ, List.getElem?_cons_zero] at e7
          clear hA
          refine ⟨(by rfl), ?_⟩
          go_simp <;> (try with_reducible rfl)
        refine Rel7.Chain.det ?_ (by rfl) (fun T xs wr hA => ?_) ?_
        rotate_left 1
        · have e30 := hA.tm 0 30 (by rfl) (by rfl)
          have f30 : xs 0 = _ := hA.fa 0 (by rfl)
          (try simp (disch := first | rfl | decide) only [Rel7.mask_in] at f30)
          rw [f30] at e30
          clear f30
          have hBq : wr.heap[ku]? = _ := (hA.bl _ hlt_u (fun q h => absurd h (Nat.not_lt_zero _))).trans HBu.out
          have q0 := cell_at (v := .int .i64 o) hBq 0 rfl
          have q1 := cell_at (v := .bool b) hBq 1 rfl
          have q2 := cell_at (v := .slice ao l c) hBq 2 rfl
          have q3 := cell_at (v := .string nm) hBq 3 rfl
          have q4 := cell_at (v := .slice (some ⟨g, 0, none⟩) kl cap) hBq 4 rfl
          clear hBq
          clear hA
          refine ⟨(by rfl), ?_⟩
          go_simp <;> (try with_reducible rfl)
        refine Rel7.Chain.det ?_ (by rfl) (fun T xs wr hA => ?_) ?_
        rotate_left 1
        · have e8 := hA.pre 8 (by kernel_rfl)
          simp only [List.getElem?_toArray, List.getElem?_cons_succ, List.getElem?_cons_zero] at e8
          clear hA
          refine ⟨(by rfl), ?_⟩
          go_simp <;> (try with_reducible rfl)
        refine Rel7.Chain.det ?_ (by rfl) (fun T xs wr hA => ?_) ?_
        rotate_left 1
        · have e3 := hA.pre 3 (by kernel_rfl)
          simp only [List.getElem?_toArray, List.getElem?_cons_succ, List.getElem?_cons_zero] at e3
          clear hA
          refine ⟨(by rfl), ?_⟩
          go_simp <;> (try with_reducible rfl)
        refine Rel7.Chain.det ?_ (by rfl) (fun T xs wr hA => ?_) ?_
        rotate_left 1
        · have e33 := hA.tm 3 33 (by rfl) (by rfl)
          have f33 : xs 3 = _ := hA.fa 3 (by rfl)
          (try simp (disch := first | rfl | decide) only [Rel7.mask_in] at f33)
          rw [f33] at e33
          clear f33
          have hBq : wr.heap[kf]? = _ := (hA.bl _ hlt_f (fun q h => absurd h (Nat.not_lt_zero _))).trans HBf.out
          have q0 := cell_at (v := .int .i64 o) hBq 0 rfl
          have q1 := cell_at (v := .bool b) hBq 1 rfl
          have q2 := cell_at (v := .slice ao l c) hBq 2 rfl
          have q3 := cell_at (v := .string nm) hBq 3 rfl
          have q4 := cell_at (v := .slice (some a) kl kc) hBq 4 rfl
          clear hBq
          clear hA
          refine ⟨(by rfl), ?_⟩
          go_simp <;> (try with_reducible rfl)
        refine Rel7.Chain.det ?_ (by rfl) (fun T xs wr hA => ?_) ?_
        rotate_left 1
        · have e8 := hA.pre 8 (by kernel_rfl)
          simp only [List.getElem?_toArray, List.getElem?_cons_succ, List.getElem?_cons_zero] at e8
          clear hA
          refine ⟨(by rfl), ?_⟩
          go_simp <;> (try with_reducible rfl)
        refine Rel7.Chain.det ?_ (by rfl) (fun T xs wr hA => ?_) ?_
        rotate_left 1
        · have e34 := hA.tm 4 34 (by rfl) (by rfl)
          have f34 : xs 4 = _ := hA.fa 4 (by rfl)
          (try simp (disch := first | rfl | decide) only [Rel7.mask_in] at f34)
          rw [f34] at e34
          clear f34
          have e35 := hA.tm 5 35 (by rfl) (by rfl)
          have f35 : xs 5 = _ := hA.fa 5 (by rfl)
          (try simp (disch := first | rfl | decide) only [Rel7.mask_in] at f35)
          rw [f35] at e35
          clear f35
          clear hA
          refine ⟨(by rfl), ?_⟩
          go_simp <;> (try with_reducible rfl)
        refine Rel7.Chain.det ?_ (by rfl) (fun T xs wr hA => ?_) ?_
        rotate_left 1
        · have e36 := hA.tm 6 36 (by rfl) (by rfl)
          have f36 : xs 6 = _ := hA.fa 6 (by rfl)
          (try simp (disch := first | rfl | decide) only [Rel7.mask_in] at f36)
          rw [f36] at e36
          clear f36
          have hbw := undrew (hA.be W1.heap.size (Nat.le_refl _) (fun q h => absurd h (Nat.not_lt_zero q)))
          obtain ⟨c0, c1, c2, c3, c4⟩ := HCEL.out
          rw [← hbw.cell (cell_lt c0)] at c0
          rw [← hbw.cell (cell_lt c1)] at c1
          rw [← hbw.cell (cell_lt c2)] at c2
          rw [← hbw.cell (cell_lt c3)] at c3
          rw [← hbw.cell (cell_lt c4)] at c4
          clear hA
          refine ⟨(by rfl), ?_⟩
          go_simp <;> (try with_reducible rfl)
        refine Rel7.Chain.det ?_ (by rfl) (fun T xs wr hA => ?_) ?_
        rotate_left 1
        · have e1 := hA.pre 1 (by kernel_rfl)
          simp only [List.getElem?_toArray, List.getElem?_cons_succ, List.getElem?_cons_zero] at e1
          clear hA
          refine ⟨(by rfl), ?_⟩
          go_simp <;> (try with_reducible rfl)
        refine Rel7.Chain.det ?_ (by rfl) (fun T xs wr hA => ?_) ?_
        rotate_left 1
        · have e3 := hA.pre 3 (by kernel_rfl)
          simp only [List.getElem?_toArray, List.getElem?_cons_succ, List.getElem?_cons_zero] at e3
          clear hA
          refine ⟨(by rfl), ?_⟩
          go_simp <;> (try with_reducible rfl)
        refine Rel7.Chain.det ?_ (by rfl) (fun T xs wr hA => ?_) ?_
        rotate_left 1
        · have e39 := hA.tm 9 39 (by rfl) (by rfl)
          have f39 : xs 9 = _ := hA.fa 9 (by rfl)
          (try simp (disch := first | rfl | decide) only [Rel7.mask_in] at f39)
          rw [f39] at e39
          clear f39
          have hBq : wr.heap[kf]? = _ := (hA.bl _ hlt_f (fun q h => absurd h (Nat.not_lt_zero _))).trans HBf.out
          have q0 := cell_at (v := .int .i64 o) hBq 0 rfl
          have q1 := cell_at (v := .bool b) hBq 1 rfl
          have q2 := cell_at (v := .slice ao l c) hBq 2 rfl
          have q3 := cell_at (v := .string nm) hBq 3 rfl
          have q4 := cell_at (v := .slice (some a) kl kc) hBq 4 rfl
          clear hBq
          clear hA
          refine ⟨(by rfl), ?_⟩
          go_simp <;> (try with_reducible rfl)
        refine Rel7.Chain.det ?_ (by rfl) (fun T xs wr hA => ?_) ?_
        rotate_left 1
        · have e40 := hA.tm 10 40 (by rfl) (by rfl)
          have f40 : xs 10 = _ := hA.fa 10 (by rfl)
          (try simp (disch := first | rfl | decide) only [Rel7.mask_in] at f40)
          rw [f40] at e40
          clear f40
          clear hA
          refine ⟨(by rfl), ?_⟩
          go_simp <;> (try with_reducible rfl)
        refine Rel7.Chain.det ?_ (by rfl) (fun T xs wr hA => ?_) ?_
        rotate_left 1
        · have e38 := hA.tm 8 38 (by rfl) (by rfl)
          have f38 : xs 8 = _ := hA.fa 8 (by rfl)
          (try simp (disch := first | rfl | decide) only [Rel7.mask_in] at f38)
          rw [f38] at e38
          clear f38
          have e41 := hA.tm 11 41 (by rfl) (by rfl)
          have f41 : xs 11 = _ := hA.fa 11 (by rfl)
          (try simp (disch := first | rfl | decide) only [Rel7.mask_in] at f41)
          rw [f41] at e41
          clear f41
          clear hA
          refine ⟨(by rfl), ?_⟩
          go_simp
          rw [if_neg HKP.out]
        refine Rel7.Chain.det ?_ (by rfl) (fun T xs wr hA => ?_) ?_
        rotate_left 1
        · have e2 := hA.pre 2 (by kernel_rfl)
          simp only [List.getElem?_toArray, List.getElem?_cons_succ, List.getElem?_cons_zero] at e2
          clear hA
          refine ⟨(by rfl), ?_⟩
          go_simp <;> (try with_reducible rfl)
        refine Rel7.Chain.call (fun xs v w => ∃ y t, v = fV y ∧ FT w (fun b => S1 b ∨ W1.heap.size ≤ b) d y t) (fun _ _ _ _ h hb => by obtain ⟨y, t, h1, h2⟩ := h; exact ⟨y, t, h1, h2.below hb⟩) (fun _ _ _ _ _ _ h _ => by obtain ⟨q, hq, _⟩ := h; exact absurd hq (Nat.not_lt_zero _)) (by rfl) (fun T xs wr hA => ?_) ?_
        · have hsw := (hA.be 0 (Nat.zero_le _) (fun _ _ => Nat.zero_le _)).size
          have e37 := hA.tm 7 37 (by rfl) (by rfl)
          have f37 : xs 7 = _ := hA.fa 7 (by rfl)
          (try simp (disch := first | rfl | decide) only [Rel7.mask_in] at f37)
          rw [f37] at e37
          clear f37
          have e42 := hA.tm 12 42 (by rfl) (by rfl)
          have f42 : xs 12 = _ := hA.fa 12 (by rfl)
          (try simp (disch := first | rfl | decide) only [Rel7.mask_in] at f42)
          rw [f42] at e42
          clear f42
          have e43 := hA.tm 13 43 (by rfl) (by rfl)
          have f43 : xs 13 = _ := hA.fa 13 (by rfl)
          (try simp (disch := first | rfl | decide) only [Rel7.mask_in] at f43)
          rw [f43] at e43
          clear f43
          have hbw := undrew (hA.be W1.heap.size (Nat.le_refl _) (fun q h => absurd h (Nat.not_lt_zero q)))
          have hraw := HFK.out.below hbw
          clear hA
          refine ⟨(by rfl), fun K hK => ?_⟩
          go_simp
          refine (IH.out _ (ks[j]'HJS.out) _ _ m q hraw (HKT.out _ (List.getElem_mem HJS.out)) (Int.natCast_nonneg m) HML.out HQ.out).mono ?_
          rintro e w' ⟨v, t, rfl, ⟨y, rfl, hy⟩, hb'⟩
          exact hK.out _ _ ⟨y, t, rfl, hy.mono (fun b hb => hb.elim Or.inl (fun h => Or.inr (Nat.le_trans hbw.size h)))⟩ hb'
        refine Rel7.Chain.done (fun xs x4 hL => ?_)
        obtain ⟨⟨hbe, hbl⟩, hf, -, -⟩ := hL
        have f0 : xs 0 = _ := hf 0 (by decide)
        (try simp (disch := first | rfl | decide) only [Rel7.mask_in] at f0)
        have f1 : xs 1 = _ := hf 1 (by decide)
        (try simp (disch := first | rfl | decide) only [Rel7.mask_in] at f1)
        have f2 : xs 2 = _ := hf 2 (by decide)
        (try simp (disch := first | rfl | decide) only [Rel7.mask_in] at f2)
        have f3 : xs 3 = _ := hf 3 (by decide)
        (try simp (disch := first | rfl | decide) only [Rel7.mask_in] at f3)
        have f4 : xs 4 = _ := hf 4 (by decide)
        (try simp (disch := first | rfl | decide) only [Rel7.mask_in] at f4)
        have f5 : xs 5 = _ := hf 5 (by decide)
        (try simp (disch := first | rfl | decide) only [Rel7.mask_in] at f5)
        have f6 : xs 6 = _ := hf 6 (by decide)
        (try simp (disch := first | rfl | decide) only [Rel7.mask_in] at f6)
        have f7 : xs 7 = _ := hf 7 (by decide)
        (try simp (disch := first | rfl | decide) only [Rel7.mask_in] at f7)
        have f8 : xs 8 = _ := hf 8 (by decide)
        (try simp (disch := first | rfl | decide) only [Rel7.mask_in] at f8)
        have f9 : xs 9 = _ := hf 9 (by decide)
        (try simp (disch := first | rfl | decide) only [Rel7.mask_in] at f9)
        have f10 : xs 10 = _ := hf 10 (by decide)
        (try simp (disch := first | rfl | decide) only [Rel7.mask_in] at f10)
        have f11 : xs 11 = _ := hf 11 (by decide)
        (try simp (disch := first | rfl | decide) only [Rel7.mask_in] at f11)
        have f12 : xs 12 = _ := hf 12 (by decide)
        (try simp (disch := first | rfl | decide) only [Rel7.mask_in] at f12)
        have f13 : xs 13 = _ := hf 13 (by decide)
        (try simp (disch := first | rfl | decide) only [Rel7.mask_in] at f13)
        have F14 : ∃ y t, (xs 14) = fV y ∧ FT x4 (fun b => S1 b ∨ W1.heap.size ≤ b) d y t := hf 14 (by decide)
        have hb0 : Below 0 W1 x4 := undrew (hbe 0 (Nat.zero_le _) (fun _ _ => Nat.zero_le _))
        have hgr : ∀ j, j < W1.heap.size → (∀ q, q < 0 → (fun q => 0) q ≠ j) → x4.heap[j]? = W1.heap[j]? := hbl
        clear hbe hbl hf
        have hb : Below W1.heap.size W1 x4 := ⟨hb0.os, hb0.tape, hb0.output, hb0.size, fun q hq => hgr q hq (fun q h => absurd h (Nat.not_lt_zero _))⟩
        obtain ⟨y, t, hv14, hyT⟩ := F14
        refine Rel7.rest_list (by decide) (by kernel_rfl) ?_
        simp only [Rel7.fill, List.take_succ_cons, List.take_zero, List.drop_succ_cons, List.drop_zero, List.setIfInBounds_toArray, List.set_cons_zero, List.set_cons_succ, f0, f1, f2, f3, f4, f5, f6, f7, f8, f9, f10, f11, f12, f13, hv14, fV]
        have HYT := Lib.hid hyT
        clear hb0 hgr hog hv14 hyT hlt_f hlt_u f0 f1 f2 f3 f4 f5 f6 f7 f8 f9 f10 f11 f12 f13
        replace HROW := Lib.hid (HROW.out.below hb)
        replace HW := Lib.hid (HW.out.trans (hb.mono HW.out.size))
        replace HBf := kBV hb HBf
        replace HBr := kBV hb HBr
        replace HBu := kBV hb HBu
        have HBX := Lib.hid hb
        clear hb
        obtain ⟨⟨c0, c1, c2, c3, c4⟩, fz0, fz1, fz2, fz3, fz4⟩ := Row.atF HROW.out HUL.out (show j < us.length by rw [← HUL.out]; exact hjl)
        go_upto_region 8 with fail
        clear c0 c1 c2 c3 c4 fz0 fz1 fz2 fz3 fz4
        obtain ⟨W2, hW2⟩ : ∃ q, q = ((((x4.setCell ⟨g, j * 5, none⟩ (.int .i64 y.k)).setCell ⟨g, j * 5 + 1, none⟩ (.bool (decide (y.n.z < 0)))).setCell ⟨g, j * 5 + 2, none⟩ (.slice y.n.o y.n.l y.n.c)).setCell ⟨g, j * 5 + 3, none⟩ (.string y.nm)).setCell ⟨g, j * 5 + 4, none⟩ (.slice y.ko y.kl y.kc) := ⟨_, rfl⟩
        rw [← hW2]
        have hW3 : W2 = putF x4 g j y := hW2
        clear hW2
        have hgP : x4.grownBy W2 (some g) := by rw [hW3]; exact putF_grown _ _ _ _
        obtain ⟨hrP, hfP⟩ := Row.setF HROW.out j (show j < us.length by rw [← HUL.out]; exact hjl) HUL.out y hW3
        have HRP := Lib.hid hrP
        have HFP := Lib.hid hfP
        have HGP := Lib.hid hgP
        have HWP := Lib.hid (ext_below HW.out hgP (by have h1 := HGB.out; have h2 := hbr.out.size; have h3 := hbf.out.size; have h4 := hbu.out.size; omega))
        have hng : ∀ k, k < x3.heap.size → k ≠ g := fun k hk e => by have h1 := HGB.out; omega
        replace HBu := Lib.hid ((hgP.block ku (lt_of_block HBu.out) (fun e => by injection e with e; exact hng ku HLU.out e)).trans HBu.out)
        replace HBr := Lib.hid ((hgP.block kr (lt_of_block HBr.out) (fun e => by injection e with e; exact hng kr HLR3.out e)).trans HBr.out)
        clear hgP hrP hfP hW3 hng HBf
        have c0 := cell_at (v := .int .i64 o) HBu.out 0 rfl
        have fc0 := froz_at HBu.out 0
        have c1 := cell_at (v := .bool b) HBu.out 1 rfl
        have fc1 := froz_at HBu.out 1
        have c2 := cell_at (v := .slice ao l c) HBu.out 2 rfl
        have fc2 := froz_at HBu.out 2
        have c3 := cell_at (v := .string nm) HBu.out 3 rfl
        have fc3 := froz_at HBu.out 3
        have c4 := cell_at (v := .slice (some ⟨g, 0, none⟩) kl cap) HBu.out 4 rfl
        have fc4 := froz_at HBu.out 4
        have r0 := cell_at (v := .int .i64 0) HBr.out 0 rfl
        have fr0 := froz_at HBr.out 0
        have r1 := cell_at (v := .bool false) HBr.out 1 rfl
        have fr1 := froz_at HBr.out 1
        have r2 := cell_at (v := .slice none 0 0) HBr.out 2 rfl
        have fr2 := froz_at HBr.out 2
        have r3 := cell_at (v := .string ⟨#[]⟩) HBr.out 3 rfl
        have fr3 := froz_at HBr.out 3
        have r4 := cell_at (v := .slice none 0 0) HBr.out 4 rfl
        have fr4 := froz_at HBr.out 4
        go_wp2_with fail
        have hg5 := grown5V (w := W2) (k := kr) (.int .i64 o) (.bool b) (.slice ao l c) (.string nm) (.slice (some ⟨g, 0, none⟩) kl cap)
        have hbF := ext_below HWP.out hg5 HKR.out
        have hf5 : Fr 29 W2 _ := .of_grown hg5 (fun j hj => by injection hj with hj; subst hj; exact ⟨_, HBr.out, n32_F⟩)
        have hkg : kr ≠ g := fun e => by have h1 := HGB.out; have h2 := HLR3.out; omega
        have hrow5 := HRP.out.other2 hg5 (fun j hj e => hkg (by have hj2 : g = j := (by simpa [Value.ownBlock] using hj); omega)) hf5 trivial
        (try simp only [Exit.inBlock, Exit.then])
        have hfl : FL _ (fun b => S b ∨ w.heap.size ≤ b) d (.slice (some ⟨g, 0, none⟩) kl cap) (ks.set j t) := FL.turned hrow5 (by rw [List.length_set]; exact HUL.out) (by rw [List.length_set, List.length_set, ← HUL.out, HN.out]) (Or.inr (by have h1 := HGB.out; have h2 := hbr.out.size; have h3 := hbf.out.size; have h4 := hbu.out.size; omega)) (fun i h1 h2 => by
          by_cases hij : i = j
          · subst hij
            rw [List.getElem_set_self, List.getElem_set_self]
            refine ((HYT.out.grown HGP.out (KN.of_fr HFP.out) (fun b hb e => ?_)).grown hg5 (KN.of_fr hf5) (fun b hb e => ?_)).mono (fun b hb => hb.elim (fun h => Or.inl (HS1.out b h).1) (fun h => Or.inr (Nat.le_trans HW1S.out h)))
            · injection e with e; subst e; have h1 := HGB.out; have h2 := HGS1.out; have h3 := hbr.out.size; have h4 := hbf.out.size; have h5 := hbu.out.size; exact hb.elim (fun h => by have h6 := (HS1.out _ h).2; omega) (fun h => by omega)
            · injection e with e; have h1 := HKR.out; have h2 := HLR1.out; exact hb.elim (fun h => by have h6 := (HS1.out _ h).2; omega) (fun h => by omega)
          · rw [List.getElem_set_ne (fun e => hij e.symm), List.getElem_set_ne (fun e => hij e.symm)]
            exact ((HFT.out i (by simpa using h1) (by simpa using h2)).below hbF).mono (fun b hb => Or.inl hb.1))
        exact bodyPost_ret (v := .agg #[.int .i64 o, .bool b, .slice ao l c, .string nm, .slice (some ⟨g, 0, none⟩) kl cap]) (by simp [results, Try.results15, go_sem, r0, r1, r2, r3, r4]) rfl ⟨_, .node o z nm (ks.set j t), rfl, FC.mk HO.out (HZ0.out.below hbF) hfl, hbF⟩
end Go.Proofs.Ytdkfnbbebpbhaaa

/-
  The law LogicRights.
-/
namespace Go.Proofs.Ytdkfnbbebpbhaaa
open Go.RowKit
set_option maxRecDepth 100000
set_option linter.unusedVariables false
set_option linter.unusedSimpArgs false

attribute [local go_sem] fieldV0 fieldV1 fieldV2 fieldV3
theorem tame5 (o : Int) (b : Bool) (ao : Option Addr) (l c : Nat) (nm : ByteArray) (ko : Option Addr) (kl kc : Nat) (w : World) (h : RawF w 5 ⟨o, b, ao, l, c, nm, ko, kl, kc⟩) :
    Calls Try.prog 7 #[.agg #[.int .i64 o, .bool b, .slice ao l c, .string nm, .slice ko kl kc], .int .i64 1, .int .i64 5] w (TamePost 5 1 w) := tameF 4 (by decide) 1 o b ao l c nm ko kl kc w (Or.inr (Or.inl rfl)) h
set_option maxHeartbeats 20000000 in
theorem rights_walk (x : RU) (p q : Int) (w : World) (hx : ∀ d, RawF w d x) (hp1 : -9223372036854775808 ≤ p) (hp2 : p ≤ 9223372036854775807) (hq1 : -9223372036854775808 ≤ q) (hq2 : q ≤ 9223372036854775807) :
    Calls Try.prog 4 #[rV x, .int .i64 p, .int .i64 q] w fun e w' => e = .returned (.bool true) ∧ Below w.heap.size w w' := by
  obtain ⟨xo, xb, xao, xl, xc, xnm, xko, xkl, xkc⟩ := x
  have HX := Lib.hid (hx 5)
  have HQ : Hid (IR q) := Lib.hid ⟨hq1, hq2⟩
  unfold rV
  simp only
  obtain ⟨K, hK, hK2⟩ := and_65535 p
  have HK2 := Lib.hid hK2
  clear hx hp1 hp2 hq1 hq2 hK2
  have HW := Lib.hid (Below.refl w.heap.size w)
  go_enter Try.func4, Try.ntmps4
  obtain ⟨x1, kf, ef, ekf, hbf, hkf, HBf⟩ := newV w #[.int .i64 xo, .bool xb, .slice xao xl xc, .string xnm, .slice xko xkl xkc] 29
  replace HW := Lib.hid (HW.out.trans (hbf.out.mono HW.out.size))
  replace HX := Lib.hid (HX.out.below hbf.out)
  go_wp2_with fail
  refine (fit_p x1).mono ?_
  rintro e x2 ⟨rfl, hb⟩
  replace HBf := kBV hb HBf
  replace HW := Lib.hid (HW.out.trans (hb.mono HW.out.size))
  replace HX := Lib.hid (HX.out.below hb)
  have c0 := cell_at (v := .int .i64 xo) HBf.out 0 rfl
  have fc0 := froz_at HBf.out 0
  have c1 := cell_at (v := .bool xb) HBf.out 1 rfl
  have fc1 := froz_at HBf.out 1
  have c2 := cell_at (v := .slice xao xl xc) HBf.out 2 rfl
  have fc2 := froz_at HBf.out 2
  have c3 := cell_at (v := .string xnm) HBf.out 3 rfl
  have fc3 := froz_at HBf.out 3
  have c4 := cell_at (v := .slice xko xkl xkc) HBf.out 4 rfl
  have fc4 := froz_at HBf.out 4
  go_wp2_with fail
  refine (tame5 _ _ _ _ _ _ _ _ _ x2 HX.out).mono ?_
  rintro e x3 ⟨v, t, rfl, hfc, hrt, hsrt, htm, hb⟩
  clear c0 fc0 c1 fc1 c2 fc2 c3 fc3 c4 fc4
  replace HBf := kBV hb HBf
  replace HW := Lib.hid (HW.out.trans (hb.mono HW.out.size))
  replace HX := Lib.hid (HX.out.below hb)
  obtain ⟨b, ao, l, c, ko, kl, kc, rfl, ⟨hr, hz, hkl, hkc, hkm⟩, -, -⟩ := hfc.open
  obtain ⟨ty, hty⟩ : ∃ x, x = t.op := ⟨_, rfl⟩
  obtain ⟨tn, htn⟩ : ∃ x, x = t.name := ⟨_, rfl⟩
  rw [← hty, ← htn] at hfc
  rw [← hty, ← htn]
  have HFC := Lib.hid hfc
  have HRT := Lib.hid hrt
  have HTM := Lib.hid htm
  clear hfc hrt hsrt htm hr hz hkl hkc hkm hty htn
  clear HX
  obtain ⟨x4, kx, ex, ekx, hbx, hkx, HBx⟩ := newV x3 #[.int .i64 ty, .bool b, .slice ao l c, .string tn, .slice ko kl kc] 29
  replace HBf := kBV hbx.out HBf
  replace HW := Lib.hid (HW.out.trans (hbx.out.mono HW.out.size))
  replace HFC := Lib.hid (HFC.out.below hbx.out)
  have c0 := cell_at (v := .int .i64 ty) HBx.out 0 rfl
  have fc0 := froz_at HBx.out 0
  have c1 := cell_at (v := .bool b) HBx.out 1 rfl
  have fc1 := froz_at HBx.out 1
  have c2 := cell_at (v := .slice ao l c) HBx.out 2 rfl
  have fc2 := froz_at HBx.out 2
  have c3 := cell_at (v := .string tn) HBx.out 3 rfl
  have fc3 := froz_at HBx.out 3
  have c4 := cell_at (v := .slice ko kl kc) HBx.out 4 rfl
  have fc4 := froz_at HBx.out 4
  go_wp2_with fail
  refine (other_p 5 _ t _ x4 _ q HFC.out HTM.out (Int.natCast_nonneg K) (by have := HK2.out; omega) HQ.out).mono ?_
  rintro e x5 ⟨v, u, rfl, hfc, hb⟩
  clear c0 fc0 c1 fc1 c2 fc2 c3 fc3 c4 fc4
  replace HBf := kBV hb HBf
  replace HBx := kBV hb HBx
  replace HW := Lib.hid (HW.out.trans (hb.mono HW.out.size))
  replace HFC := Lib.hid (HFC.out.below hb)
  obtain ⟨b2, ao2, l2, c2, ko2, kl2, kc2, rfl, -, -, -⟩ := hfc.open
  obtain ⟨uo, huo⟩ : ∃ x, x = u.op := ⟨_, rfl⟩
  obtain ⟨un, hun⟩ : ∃ x, x = u.name := ⟨_, rfl⟩
  rw [← huo, ← hun] at hfc
  rw [← huo, ← hun]
  have HFU := Lib.hid hfc
  clear hfc huo hun hK
  obtain ⟨x6, ky, ey, eky, hby, hky, HBy⟩ := newV x5 #[.int .i64 uo, .bool b2, .slice ao2 l2 c2, .string un, .slice ko2 kl2 kc2] 29
  replace HBf := kBV hby.out HBf
  replace HBx := kBV hby.out HBx
  replace HW := Lib.hid (HW.out.trans (hby.out.mono HW.out.size))
  replace HFC := Lib.hid (HFC.out.below hby.out)
  replace HFU := Lib.hid (HFU.out.below hby.out)
  obtain ⟨R, hR⟩ : ∃ x, x = rt u := ⟨_, rfl⟩
  have HRU := Lib.hid hR
  clear hR
  go_upto_region 5 with fail
  have hlt_x := lt_of_block HBx.out
  have hlt_y := lt_of_block HBy.out
  have hog : Hid (∀ q, q < 0 → (fun q => 0) q < x6.heap.size) := Lib.hid (fun q h => absurd h (Nat.not_lt_zero _))
  refine Rel7.region (by kernel_rfl) [[], [0], [0, 1], [0, 1, 2], [0, 1, 2, 3], [0, 1, 2], [0, 1, 2, 3, 4, 5], [0, 1, 2, 3, 4, 5, 6], [0, 1, 2, 3, 4, 5, 6, 7], [0, 1, 2, 3, 4, 5, 6, 7, 8]] [] [] (fun q => 0) 0 10 (by kernel_rfl) (by kernel_rfl) (by rfl) hog.out (fun q q' h h' hn => absurd hn (by omega)) ?_
  refine Rel7.Chain.det ?_ (by rfl) (fun T xs wr hA => ?_) ?_
  rotate_left 1
  · have e7 := hA.pre 7 (by kernel_rfl)
    simp only [List.getElem?_toArray, List.getElem?_cons_succ, List.getElem?_cons_zero] at e7
    have hBq : wr.heap[kx]? = _ := (hA.bl _ hlt_x (fun q h => absurd h (Nat.not_lt_zero _))).trans HBx.out
    have q0 := cell_at (v := .int .i64 ty) hBq 0 rfl
    have q1 := cell_at (v := .bool b) hBq 1 rfl
    have q2 := cell_at (v := .slice ao l c) hBq 2 rfl
    have q3 := cell_at (v := .string tn) hBq 3 rfl
    have q4 := cell_at (v := .slice ko kl kc) hBq 4 rfl
    clear hBq
    clear hA
    refine ⟨(by rfl), ?_⟩
    go_simp <;> (try with_reducible rfl)
  refine Rel7.Chain.call (fun xs v w => v = .bool true) (fun _ _ _ _ h _ => h) (fun _ _ _ _ _ h _ _ => h) (by rfl) (fun T xs wr hA => ?_) ?_
  · have hsw := (hA.be 0 (Nat.zero_le _) (fun _ _ => Nat.zero_le _)).size
    have e18 := hA.tm 0 18 (by rfl) (by rfl)
    have f18 : xs 0 = _ := hA.fa 0 (by rfl)
    (try simp (disch := first | rfl | decide) only [Rel7.mask_in] at f18)
    rw [f18] at e18
    clear f18
    have hbw := undrew (hA.be x6.heap.size (Nat.le_refl _) (fun q h => absurd h (Nat.not_lt_zero q)))
    have hfw := HFC.out.below hbw
    clear hA
    refine ⟨(by rfl), fun K hK => ?_⟩
    go_simp
    refine (right_p 5 _ t _ _ hfw).mono ?_
    rintro e w' ⟨rfl, hb'⟩
    rw [HRT.out]
    exact hK.out _ _ rfl hb'
  refine Rel7.Chain.det ?_ (by rfl) (fun T xs wr hA => ?_) ?_
  rotate_left 1
  · have e19 := hA.tm 1 19 (by rfl) (by rfl)
    have f19 : xs 1 = (.bool true) := hA.fa 1 (by rfl)
    rw [f19] at e19
    clear f19
    clear hA
    refine ⟨(by rfl), ?_⟩
    go_simp <;> (try with_reducible rfl)
  refine Rel7.Chain.det ?_ (by rfl) (fun T xs wr hA => ?_) ?_
  rotate_left 1
  · have e20 := hA.tm 2 20 (by rfl) (by rfl)
    have f20 : xs 2 = _ := hA.fa 2 (by rfl)
    (try simp (disch := first | rfl | decide) only [Rel7.mask_in] at f20)
    rw [f20] at e20
    clear f20
    have e8 := hA.pre 8 (by kernel_rfl)
    simp only [List.getElem?_toArray, List.getElem?_cons_succ, List.getElem?_cons_zero] at e8
    have hBq : wr.heap[ky]? = _ := (hA.bl _ hlt_y (fun q h => absurd h (Nat.not_lt_zero _))).trans HBy.out
    have q0 := cell_at (v := .int .i64 uo) hBq 0 rfl
    have q1 := cell_at (v := .bool b2) hBq 1 rfl
    have q2 := cell_at (v := .slice ao2 l2 c2) hBq 2 rfl
    have q3 := cell_at (v := .string un) hBq 3 rfl
    have q4 := cell_at (v := .slice ko2 kl2 kc2) hBq 4 rfl
    clear hBq
    clear hA
    refine ⟨((Rely.wanted_at rfl (by rfl) e20).trans (by rfl)), ?_⟩
    go_simp <;> (try with_reducible rfl)
  refine Rel7.Chain.call (fun xs v w => v = .bool R) (fun _ _ _ _ h _ => h) (fun _ _ _ _ _ h _ _ => h) (by rfl) (fun T xs wr hA => ?_) ?_
  · have e20 := hA.tm 2 20 (by rfl) (by rfl)
    have f20 : xs 2 = _ := hA.fa 2 (by rfl)
    (try simp (disch := first | rfl | decide) only [Rel7.mask_in] at f20)
    rw [f20] at e20
    clear f20
    have hsw := (hA.be 0 (Nat.zero_le _) (fun _ _ => Nat.zero_le _)).size
    have e21 := hA.tm 3 21 (by rfl) (by rfl)
    have f21 : xs 3 = _ := hA.fa 3 (by rfl)
    (try simp (disch := first | rfl | decide) only [Rel7.mask_in] at f21)
    rw [f21] at e21
    clear f21
    have hbw := undrew (hA.be x6.heap.size (Nat.le_refl _) (fun q h => absurd h (Nat.not_lt_zero q)))
    have hfw := HFU.out.below hbw
    clear hA
    refine ⟨((Rely.wanted_at rfl (by rfl) e20).trans (by rfl)), fun K hK => ?_⟩
    go_simp
    refine (right_p 5 _ u _ _ hfw).mono ?_
    rintro e w' ⟨rfl, hb'⟩
    rw [← HRU.out]
    exact hK.out _ _ rfl hb'
  refine Rel7.Chain.det ?_ (by rfl) (fun T xs wr hA => ?_) ?_
  rotate_left 1
  · have e20 := hA.tm 2 20 (by rfl) (by rfl)
    have f20 : xs 2 = _ := hA.fa 2 (by rfl)
    (try simp (disch := first | rfl | decide) only [Rel7.mask_in] at f20)
    rw [f20] at e20
    clear f20
    have e8 := hA.pre 8 (by kernel_rfl)
    simp only [List.getElem?_toArray, List.getElem?_cons_succ, List.getElem?_cons_zero] at e8
    have hBq : wr.heap[ky]? = _ := (hA.bl _ hlt_y (fun q h => absurd h (Nat.not_lt_zero _))).trans HBy.out
    have q0 := cell_at (v := .int .i64 uo) hBq 0 rfl
    have q1 := cell_at (v := .bool b2) hBq 1 rfl
    have q2 := cell_at (v := .slice ao2 l2 c2) hBq 2 rfl
    have q3 := cell_at (v := .string un) hBq 3 rfl
    have q4 := cell_at (v := .slice ko2 kl2 kc2) hBq 4 rfl
    clear hBq
    clear hA
    refine ⟨((Rely.wanted_at rfl (by rfl) e20).trans (by rfl)), ?_⟩
    go_simp <;> (try with_reducible rfl)
  refine Rel7.Chain.call (fun xs v w => v = .bool R) (fun _ _ _ _ h _ => h) (fun _ _ _ _ _ h _ _ => h) (by rfl) (fun T xs wr hA => ?_) ?_
  · have e20 := hA.tm 2 20 (by rfl) (by rfl)
    have f20 : xs 2 = _ := hA.fa 2 (by rfl)
    (try simp (disch := first | rfl | decide) only [Rel7.mask_in] at f20)
    rw [f20] at e20
    clear f20
    have hsw := (hA.be 0 (Nat.zero_le _) (fun _ _ => Nat.zero_le _)).size
    have e23 := hA.tm 5 23 (by rfl) (by rfl)
    have f23 : xs 5 = _ := hA.fa 5 (by rfl)
    (try simp (disch := first | rfl | decide) only [Rel7.mask_in] at f23)
    rw [f23] at e23
    clear f23
    have hbw := undrew (hA.be x6.heap.size (Nat.le_refl _) (fun q h => absurd h (Nat.not_lt_zero q)))
    have hfw := HFU.out.below hbw
    clear hA
    refine ⟨((Rely.wanted_at rfl (by rfl) e20).trans (by rfl)), fun K hK => ?_⟩
    go_simp
    refine (rightL_p 5 _ u _ _ hfw).mono ?_
    rintro e w' ⟨rfl, hb'⟩
    rw [← HRU.out]
    exact hK.out _ _ rfl hb'
  refine Rel7.Chain.det ?_ (by rfl) (fun T xs wr hA => ?_) ?_
  rotate_left 1
  · have e20 := hA.tm 2 20 (by rfl) (by rfl)
    have f20 : xs 2 = _ := hA.fa 2 (by rfl)
    (try simp (disch := first | rfl | decide) only [Rel7.mask_in] at f20)
    rw [f20] at e20
    clear f20
    have e22 := hA.tm 4 22 (by rfl) (by rfl)
    have f22 : xs 4 = (.bool R) := hA.fa 4 (by rfl)
    rw [f22] at e22
    clear f22
    have e24 := hA.tm 6 24 (by rfl) (by rfl)
    have f24 : xs 6 = (.bool R) := hA.fa 6 (by rfl)
    rw [f24] at e24
    clear f24
    clear hA
    refine ⟨((Rely.wanted_at rfl (by rfl) e20).trans (by rfl)), ?_⟩
    go_simp <;> (try with_reducible rfl)
  refine Rel7.Chain.det ?_ (by rfl) (fun T xs wr hA => ?_) ?_
  rotate_left 1
  · have e20 := hA.tm 2 20 (by rfl) (by rfl)
    have f20 : xs 2 = _ := hA.fa 2 (by rfl)
    (try simp (disch := first | rfl | decide) only [Rel7.mask_in] at f20)
    rw [f20] at e20
    clear f20
    have e25 := hA.tm 7 25 (by rfl) (by rfl)
    have f25 : xs 7 = _ := hA.fa 7 (by rfl)
    (try simp (disch := first | rfl | decide) only [Rel7.mask_in] at f25)
    rw [f25] at e25
    clear f25
    clear hA
    refine ⟨(by rfl), ?_⟩
    go_simp <;> (try with_reducible rfl)
  refine Rel7.Chain.det ?_ (by rfl) (fun T xs wr hA => ?_) ?_
  rotate_left 1
  · have e26 := hA.tm 8 26 (by rfl) (by rfl)
    have f26 : xs 8 = _ := hA.fa 8 (by rfl)
    (try simp (disch := first | rfl | decide) only [Rel7.mask_in] at f26)
    rw [f26] at e26
    clear f26
    clear hA
    refine ⟨(by rfl), ?_⟩
    go_simp <;> (try with_reducible rfl)
  refine Rel7.Chain.done (fun xs x7 hL => ?_)
  obtain ⟨⟨hbe, hbl⟩, hf, -, -⟩ := hL
  have f0 : xs 0 = _ := hf 0 (by decide)
  (try simp (disch := first | rfl | decide) only [Rel7.mask_in] at f0)
  have f1 : xs 1 = (.bool true) := hf 1 (by decide)
  have f2 : xs 2 = _ := hf 2 (by decide)
  (try simp (disch := first | rfl | decide) only [Rel7.mask_in] at f2)
  have f3 : xs 3 = _ := hf 3 (by decide)
  (try simp (disch := first | rfl | decide) only [Rel7.mask_in] at f3)
  have f4 : xs 4 = (.bool R) := hf 4 (by decide)
  have f5 : xs 5 = _ := hf 5 (by decide)
  (try simp (disch := first | rfl | decide) only [Rel7.mask_in] at f5)
  have f6 : xs 6 = (.bool R) := hf 6 (by decide)
  have f7 : xs 7 = _ := hf 7 (by decide)
  (try simp (disch := first | rfl | decide) only [Rel7.mask_in] at f7)
  have f8 : xs 8 = _ := hf 8 (by decide)
  (try simp (disch := first | rfl | decide) only [Rel7.mask_in] at f8)
  have f9 : xs 9 = _ := hf 9 (by decide)
  (try simp (disch := first | rfl | decide) only [Rel7.mask_in] at f9)
  have hb0 : Below 0 x6 x7 := undrew (hbe 0 (Nat.zero_le _) (fun _ _ => Nat.zero_le _))
  have hgr : ∀ j, j < x6.heap.size → (∀ q, q < 0 → (fun q => 0) q ≠ j) → x7.heap[j]? = x6.heap[j]? := hbl
  clear hbe hbl hf
  have hb : Below x6.heap.size x6 x7 := ⟨hb0.os, hb0.tape, hb0.output, hb0.size, fun q hq => hgr q hq (fun q h => absurd h (Nat.not_lt_zero _))⟩
  refine Rel7.rest_done ?_
  simp only [Rel7.fill, List.setIfInBounds_toArray, List.set_cons_zero, List.set_cons_succ, f0, f1, f2, f3, f4, f5, f6, f7, f8, f9]
  clear hb0 hgr hog hlt_x hlt_y f0 f1 f2 f3 f4 f5 f6 f7 f8 f9
  replace HBf := kBV hb HBf
  replace HBx := kBV hb HBx
  replace HBy := kBV hb HBy
  replace HW := Lib.hid (HW.out.trans (hb.mono HW.out.size))
  replace HFC := Lib.hid (HFC.out.below hb)
  replace HFU := Lib.hid (HFU.out.below hb)
  replace hb := Lib.hid hb
  have hRR : (R == R) = true := beq_self_eq_true R
  go_wp2_with fail
  go_ret
  exact ⟨rfl, HW.out⟩
end Go.Proofs.Ytdkfnbbebpbhaaa
