/-
  Contracts of what Right asks of kids: their sorts, one by one, or all alike.
-/
import Derived.Test.YtinfbmnimkcdjaaLgB
namespace Go.Proofs.Ytinfbmnimkcdjaa
open Go.RowKit
set_option maxRecDepth 100000
set_option linter.unusedVariables false
set_option linter.unusedSimpArgs false

theorem are1_p (o : Int) (b : Bool) (ao : Option Addr) (l c : Nat) (nm : ByteArray) (ko : Option Addr) (kl kc : Nat) (s : Int) (w : World) :
    Calls Try.prog 76 #[.agg #[.int .i64 o, .bool b, .slice ao l c, .string nm, .slice ko kl kc], .int .i64 s] w fun e w' => e = .returned (.bool (srt o == s)) ∧ Below w.heap.size w w' := by
  have hb := (Below.refl w.heap.size w).alloc (Nat.le_refl _) (.cells #[.int .i64 o, .bool b, .slice ao l c, .string nm, .slice ko kl kc] 29)
  have HB := Lib.hid hb
  clear hb
  go_enter Try.func76, Try.ntmps76
  go_wp2_with fail
  refine (sort_p o b ao l c nm ko kl kc _).mono ?_
  rintro e w2 ⟨rfl, hb⟩
  have HW := Lib.hid (HB.out.trans (hb.mono HB.out.size))
  clear hb
  go_wp2_with fail
  go_ret
  exact ⟨rfl, HW.out⟩
set_option maxHeartbeats 1000000 in
theorem areAll1_p (o : Int) (b : Bool) (ao : Option Addr) (l c : Nat) (nm : ByteArray) (ko : Option Addr) (kl kc : Nat) (s : Int) (kb : Nat) (w : World) (hB : w.heap[kb]? = some (.cells #[.int .i64 s] 32 (0, 0))) :
    Calls Try.prog 78 #[.agg #[.int .i64 o, .bool b, .slice ao l c, .string nm, .slice ko kl kc], .pointer (some ⟨kb, 0, none⟩)] w fun e w' => e = .returned (.bool (srt o != s)) ∧ Below w.heap.size w w' := by
  have HBb := Lib.hid hB
  clear hB
  have HW := Lib.hid (Below.refl w.heap.size w)
  go_enter Try.func78, Try.ntmps78
  obtain ⟨x1, kf, ef, ekf, hbf, hkf, HBf⟩ := newV w #[.int .i64 o, .bool b, .slice ao l c, .string nm, .slice ko kl kc] 29
  replace HBb := kBV hbf.out HBb
  replace HW := Lib.hid (HW.out.trans (hbf.out.mono HW.out.size))
  have c0 := cell_at (v := .int .i64 o) HBf.out 0 rfl
  have fc0 := froz_at HBf.out 0
  have c1 := cell_at (v := .bool b) HBf.out 1 rfl
  have fc1 := froz_at HBf.out 1
  have c2 := cell_at (v := .slice ao l c) HBf.out 2 rfl
  have fc2 := froz_at HBf.out 2
  have c3 := cell_at (v := .string nm) HBf.out 3 rfl
  have fc3 := froz_at HBf.out 3
  have c4 := cell_at (v := .slice ko kl kc) HBf.out 4 rfl
  have fc4 := froz_at HBf.out 4
  go_upto_region 1 with fail
  clear c0 fc0 c1 fc1 c2 fc2 c3 fc3 c4 fc4
  have hlt_f := lt_of_block HBf.out
  have hlt_b := lt_of_block HBb.out
  have hog : Hid (∀ q, q < 0 → (fun q => 0) q < x1.heap.size) := Lib.hid (fun q h => absurd h (Nat.not_lt_zero _))
  refine Rel7.region (by kernel_rfl) [[], [0], [], [0, 1, 2], [0, 1, 2, 3]] [] [] (fun q => 0) 0 5 (by kernel_rfl) (by kernel_rfl) (by rfl) hog.out (fun q q' h h' hn => absurd hn (by omega)) ?_
  refine Rel7.Chain.det ?_ (by rfl) (fun T xs wr hA => ?_) ?_
  rotate_left 1
  · have e2 := hA.pre 2 (by kernel_rfl)
    simp only [List.getElem?_toArray, List.getElem?_cons_succ, List.getElem?_cons_zero] at e2
    have hBq : wr.heap[kf]? = _ := (hA.bl _ hlt_f (fun q h => absurd h (Nat.not_lt_zero _))).trans HBf.out
    have q0 := cell_at (v := .int .i64 o) hBq 0 rfl
    have q1 := cell_at (v := .bool b) hBq 1 rfl
    have q2 := cell_at (v := .slice ao l c) hBq 2 rfl
    have q3 := cell_at (v := .string nm) hBq 3 rfl
    have q4 := cell_at (v := .slice ko kl kc) hBq 4 rfl
    clear hBq
    clear hA
    refine ⟨(by rfl), ?_⟩
    go_simp <;> (try with_reducible rfl)
  refine Rel7.Chain.call (fun xs v w => v = .int .i64 (srt o)) (fun _ _ _ _ h _ => h) (fun _ _ _ _ _ h _ _ => h) (by rfl) (fun T xs wr hA => ?_) ?_
  · have hsw := (hA.be 0 (Nat.zero_le _) (fun _ _ => Nat.zero_le _)).size
    have e4 := hA.tm 0 4 (by rfl) (by rfl)
    have f4 : xs 0 = _ := hA.fa 0 (by rfl)
    (try simp (disch := first | rfl | decide) only [Rel7.mask_in] at f4)
    rw [f4] at e4
    clear f4
    have hbw := undrew (hA.be x1.heap.size (Nat.le_refl _) (fun q h => absurd h (Nat.not_lt_zero q)))
    clear hA
    refine ⟨(by rfl), fun K hK => ?_⟩
    go_simp
    refine (sort_p o b ao l c nm ko kl kc wr).mono ?_
    rintro e w' ⟨rfl, hb'⟩
    exact hK.out _ _ rfl hb'
  refine Rel7.Chain.det ?_ (by rfl) (fun T xs wr hA => ?_) ?_
  rotate_left 1
  · have e1 := hA.pre 1 (by kernel_rfl)
    simp only [List.getElem?_toArray, List.getElem?_cons_succ, List.getElem?_cons_zero] at e1
    have hBq : wr.heap[kb]? = _ := (hA.bl _ hlt_b (fun q h => absurd h (Nat.not_lt_zero _))).trans HBb.out
    have q0 := cell_at (v := .int .i64 s) hBq 0 rfl
    clear hBq
    clear hA
    refine ⟨(by rfl), ?_⟩
    go_simp <;> (try with_reducible rfl)
  refine Rel7.Chain.det ?_ (by rfl) (fun T xs wr hA => ?_) ?_
  rotate_left 1
  · have e5 := hA.tm 1 5 (by rfl) (by rfl)
    have f5 : xs 1 = (.int .i64 (srt o)) := hA.fa 1 (by rfl)
    rw [f5] at e5
    clear f5
    have e6 := hA.tm 2 6 (by rfl) (by rfl)
    have f6 : xs 2 = _ := hA.fa 2 (by rfl)
    (try simp (disch := first | rfl | decide) only [Rel7.mask_in] at f6)
    rw [f6] at e6
    clear f6
    clear hA
    refine ⟨(by rfl), ?_⟩
    go_simp <;> (try with_reducible rfl)
  refine Rel7.Chain.det ?_ (by rfl) (fun T xs wr hA => ?_) ?_
  rotate_left 1
  · have e7 := hA.tm 3 7 (by rfl) (by rfl)
    have f7 : xs 3 = _ := hA.fa 3 (by rfl)
    (try simp (disch := first | rfl | decide) only [Rel7.mask_in] at f7)
    rw [f7] at e7
    clear f7
    clear hA
    refine ⟨(by rfl), ?_⟩
    go_simp <;> (try with_reducible rfl)
  refine Rel7.Chain.done (fun xs x2 hL => ?_)
  obtain ⟨⟨hbe, hbl⟩, hf, -, -⟩ := hL
  have f0 : xs 0 = _ := hf 0 (by decide)
  (try simp (disch := first | rfl | decide) only [Rel7.mask_in] at f0)
  have f1 : xs 1 = (.int .i64 (srt o)) := hf 1 (by decide)
  have f2 : xs 2 = _ := hf 2 (by decide)
  (try simp (disch := first | rfl | decide) only [Rel7.mask_in] at f2)
  have f3 : xs 3 = _ := hf 3 (by decide)
  (try simp (disch := first | rfl | decide) only [Rel7.mask_in] at f3)
  have f4 : xs 4 = _ := hf 4 (by decide)
  (try simp (disch := first | rfl | decide) only [Rel7.mask_in] at f4)
  have hb0 : Below 0 x1 x2 := undrew (hbe 0 (Nat.zero_le _) (fun _ _ => Nat.zero_le _))
  have hgr : ∀ j, j < x1.heap.size → (∀ q, q < 0 → (fun q => 0) q ≠ j) → x2.heap[j]? = x1.heap[j]? := hbl
  clear hbe hbl hf
  have hb : Below x1.heap.size x1 x2 := ⟨hb0.os, hb0.tape, hb0.output, hb0.size, fun q hq => hgr q hq (fun q h => absurd h (Nat.not_lt_zero _))⟩
  refine Rel7.rest_done ?_
  simp only [Rel7.fill, List.setIfInBounds_toArray, List.set_cons_zero, List.set_cons_succ, f0, f1, f2, f3, f4]
  clear hb0 hgr hog hlt_f hlt_b f0 f1 f2 f3 f4
  replace HBb := kBV hb HBb
  replace HBf := kBV hb HBf
  replace HW := Lib.hid (HW.out.trans (hb.mono HW.out.size))
  replace hb := Lib.hid hb
  go_wp2_with fail
  go_ret
  exact ⟨rfl, HW.out⟩
end Go.Proofs.Ytinfbmnimkcdjaa
