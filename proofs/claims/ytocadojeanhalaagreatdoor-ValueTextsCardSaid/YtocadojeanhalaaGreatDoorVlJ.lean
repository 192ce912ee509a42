/-
  Contracts of a Builder that grows, and of strings.Join.
-/
import Derived.Test.YtocadojeanhalaaGreatDoorVlH
import Derived.Lib.MakeNoZero
import Derived.Laws.IdiomCopy
namespace Go.Proofs.YtocadojeanhalaaGreatDoor
open Go.RowKit
set_option maxRecDepth 100000
set_option linter.unusedVariables false
set_option linter.unusedSimpArgs false

theorem sizeByteV : (Tryz.prog.info? 5).map (·.size) = some 1 := by kernel_rfl
set_option maxHeartbeats 4000000 in
theorem grow_p (B kb n : Nat) (we : World) (hB : B ≤ kb) (hbk : we.heap[kb]? = some (.cells #[.pointer (some ⟨kb, 0, none⟩), .slice none 0 0] 89 (0, 0))) (hBw : B ≤ we.heap.size) (hn : n ≤ 1000000) :
    Calls Tryz.prog 74 #[.pointer (some ⟨kb, 0, none⟩), .int .i64 (n : Nat)] we fun e w' => e = .returned (.tuple #[]) ∧ Bld B kb [] w' ∧ Below B we w' := by
  have HBb := Lib.hid hbk
  have hw : IntKind.i64.wrap (IntKind.i64.wrap 0 + (n : Int)) = n := by
    rw [IntKind.wrap_i64, IntKind.wrap_i64]
    omega
  have HWR := Lib.hid hw
  have hw2 : IntKind.i64.wrap (n : Int) = n := by rw [IntKind.wrap_i64]; omega
  clear hbk hw
  go_enter Tryz.func74, Tryz.ntmps74
  go_upto_region 0 with fail
  have hlt_b := lt_of_block HBb.out
  have hog : Hid (∀ q, q < 0 → (fun q => 0) q < we.heap.size) := Lib.hid (fun q h => absurd h (Nat.not_lt_zero _))
  refine Rel7.region (by kernel_rfl) [[], [0], [0, 1], [0, 1, 2], [0, 1, 2, 3], [0, 1, 2, 3, 4], [], [0, 1, 2, 3, 4, 5, 6], [0, 1, 2, 3, 4, 5, 6, 7], [], [9], [9, 10], [9, 10, 11], [9, 10, 11, 12], [0, 1, 2, 3, 4, 5, 6, 7, 8, 9, 10, 11, 12, 13], [0, 1, 2, 3, 4, 5, 6, 7, 8, 9, 10, 11, 12, 13, 14]] [] [] (fun q => 0) 0 14 (by kernel_rfl) (by kernel_rfl) (by rfl) hog.out (fun q q' h h' hn => absurd hn (by omega)) ?_
  refine Rel7.Chain.det ?_ (by rfl) (fun T xs wr hA => ?_) ?_
  rotate_left 1
  · have e0 := hA.pre 0 (by kernel_rfl)
    simp only [List.getElem?_toArray, List.getElem?_cons_zero] at e0
    clear hA
    refine ⟨(by rfl), ?_⟩
    go_simp <;> (try with_reducible rfl)
  refine Rel7.Chain.det ?_ (by rfl) (fun T xs wr hA => ?_) ?_
  rotate_left 1
  · have e5 := hA.tm 0 5 (by rfl) (by rfl)
    have f5 : xs 0 = _ := hA.fa 0 (by rfl)
    (try simp (disch := first | rfl | decide) only [Rel7.mask_in] at f5)
    rw [f5] at e5
    clear f5
    clear hA
    refine ⟨(by rfl), ?_⟩
    go_simp <;> (try with_reducible rfl)
  refine Rel7.Chain.det ?_ (by rfl) (fun T xs wr hA => ?_) ?_
  rotate_left 1
  · have e6 := hA.tm 1 6 (by rfl) (by rfl)
    have f6 : xs 1 = _ := hA.fa 1 (by rfl)
    (try simp (disch := first | rfl | decide) only [Rel7.mask_in] at f6)
    rw [f6] at e6
    clear f6
    clear hA
    refine ⟨(by rfl), ?_⟩
    go_simp <;> (try with_reducible rfl)
  refine Rel7.Chain.det ?_ (by rfl) (fun T xs wr hA => ?_) ?_
  rotate_left 1
  · have e7 := hA.tm 2 7 (by rfl) (by rfl)
    have f7 : xs 2 = _ := hA.fa 2 (by rfl)
    (try simp (disch := first | rfl | decide) only [Rel7.mask_in] at f7)
    rw [f7] at e7
    clear f7
    have hBq : wr.heap[kb]? = _ := (hA.bl _ hlt_b (fun q h => absurd h (Nat.not_lt_zero _))).trans HBb.out
    have q0 := cell_at (v := .pointer (some ⟨kb, 0, none⟩)) hBq 0 rfl
    have q1 := cell_at (v := .slice none 0 0) hBq 1 rfl
    clear hBq
    clear hA
    refine ⟨(by rfl), ?_⟩
    go_simp <;> (try with_reducible rfl)
  refine Rel7.Chain.det ?_ (by rfl) (fun T xs wr hA => ?_) ?_
  rotate_left 1
  · have e8 := hA.tm 3 8 (by rfl) (by rfl)
    have f8 : xs 3 = _ := hA.fa 3 (by rfl)
    (try simp (disch := first | rfl | decide) only [Rel7.mask_in] at f8)
    rw [f8] at e8
    clear f8
    clear hA
    refine ⟨(by rfl), ?_⟩
    go_simp <;> (try with_reducible rfl)
  refine Rel7.Chain.det ?_ (by rfl) (fun T xs wr hA => ?_) ?_
  rotate_left 1
  · have e9 := hA.tm 4 9 (by rfl) (by rfl)
    have f9 : xs 4 = _ := hA.fa 4 (by rfl)
    (try simp (disch := first | rfl | decide) only [Rel7.mask_in] at f9)
    rw [f9] at e9
    clear f9
    clear hA
    refine ⟨(by rfl), ?_⟩
    go_simp <;> (try with_reducible rfl)
  refine Rel7.Chain.det ?_ (by rfl) (fun T xs wr hA => ?_) ?_
  rotate_left 1
  · have e1 := hA.pre 1 (by kernel_rfl)
    simp only [List.getElem?_toArray, List.getElem?_cons_succ, List.getElem?_cons_zero] at e1
    clear hA
    refine ⟨(by rfl), ?_⟩
    go_simp <;> (try with_reducible rfl)
  refine Rel7.Chain.det ?_ (by rfl) (fun T xs wr hA => ?_) ?_
  rotate_left 1
  · have e10 := hA.tm 5 10 (by rfl) (by rfl)
    have f10 : xs 5 = _ := hA.fa 5 (by rfl)
    (try simp (disch := first | rfl | decide) only [Rel7.mask_in] at f10)
    rw [f10] at e10
    clear f10
    have e11 := hA.tm 6 11 (by rfl) (by rfl)
    have f11 : xs 6 = _ := hA.fa 6 (by rfl)
    (try simp (disch := first | rfl | decide) only [Rel7.mask_in] at f11)
    rw [f11] at e11
    clear f11
    clear hA
    refine ⟨(by rfl), ?_⟩
    go_simp <;> (try with_reducible rfl)
  refine Rel7.Chain.call (fun xs v w => ∃ g cs, v = .slice (some ⟨g, 0, none⟩) n cs.size ∧ we.heap.size ≤ g ∧ w.heap[g]? = some (.cells cs 5 (0, 0)) ∧ n ≤ cs.size ∧ cs.size ≤ maxLen) (fun _ _ _ _ h hb => by obtain ⟨g, cs, hv, hl, hg, h1, h2⟩ := h; exact ⟨g, cs, hv, hl, by rw [hb.block g (Array.getElem?_eq_some_iff.1 hg).1]; exact hg, h1, h2⟩) (fun _ _ _ _ _ _ h _ => by obtain ⟨q, hq, _⟩ := h; exact absurd hq (Nat.not_lt_zero _)) (by rfl) (fun T xs wr hA => ?_) ?_
  · have hsw := (hA.be 0 (Nat.zero_le _) (fun _ _ => Nat.zero_le _)).size
    have e12 := hA.tm 7 12 (by rfl) (by rfl)
    have f12 : xs 7 = _ := hA.fa 7 (by rfl)
    (try simp (disch := first | rfl | decide) only [Rel7.mask_in] at f12)
    rw [f12] at e12
    clear f12
    obtain ⟨cs, hrun, hle, hmax⟩ := Lib.run_makeNoZero (P := Tryz.prog) wr #[3] 87 5 Tryz.underlying87 n (by omega)
    have hcall : (callFunc 86 #[.int .i64 (n : Nat)]).run Tryz.prog wr = .ok (.value (.slice (some ⟨wr.heap.size, 0, none⟩) n cs.size)) (wr.drew.drew.alloc (.cells cs 5)) := by rw [run_callFunc_extern Tryz.func86 (by kernel_rfl) (by kernel_rfl) (by kernel_rfl) (e := Extern.BytealgMakeNoZero.makeNoZero #[3] #[87]) (by kernel_rfl), hrun]; rfl
    clear hrun
    rw [HWR.out] at e12
    clear hA
    refine ⟨(by rfl), fun K hK => ?_⟩
    go_simp
    exact hK.out _ _ ⟨_, cs, rfl, hsw, heap_alloc_new wr.drew.drew _, hle, hmax (by unfold maxLen; omega)⟩ ((Below.refl _ _).drew.drew.alloc (by simp) _)
  refine Rel7.Chain.det ?_ (by rfl) (fun T xs wr hA => ?_) ?_
  rotate_left 1
  · have e0 := hA.pre 0 (by kernel_rfl)
    simp only [List.getElem?_toArray, List.getElem?_cons_zero] at e0
    clear hA
    refine ⟨(by rfl), ?_⟩
    go_simp <;> (try with_reducible rfl)
  refine Rel7.Chain.det ?_ (by rfl) (fun T xs wr hA => ?_) ?_
  rotate_left 1
  · have e14 := hA.tm 9 14 (by rfl) (by rfl)
    have f14 : xs 9 = _ := hA.fa 9 (by rfl)
    (try simp (disch := first | rfl | decide) only [Rel7.mask_in] at f14)
    rw [f14] at e14
    clear f14
    clear hA
    refine ⟨(by rfl), ?_⟩
    go_simp <;> (try with_reducible rfl)
  refine Rel7.Chain.det ?_ (by rfl) (fun T xs wr hA => ?_) ?_
  rotate_left 1
  · have e15 := hA.tm 10 15 (by rfl) (by rfl)
    have f15 : xs 10 = _ := hA.fa 10 (by rfl)
    (try simp (disch := first | rfl | decide) only [Rel7.mask_in] at f15)
    rw [f15] at e15
    clear f15
    clear hA
    refine ⟨(by rfl), ?_⟩
    go_simp <;> (try with_reducible rfl)
  refine Rel7.Chain.det ?_ (by rfl) (fun T xs wr hA => ?_) ?_
  rotate_left 1
  · have e16 := hA.tm 11 16 (by rfl) (by rfl)
    have f16 : xs 11 = _ := hA.fa 11 (by rfl)
    (try simp (disch := first | rfl | decide) only [Rel7.mask_in] at f16)
    rw [f16] at e16
    clear f16
    have hBq : wr.heap[kb]? = _ := (hA.bl _ hlt_b (fun q h => absurd h (Nat.not_lt_zero _))).trans HBb.out
    have q0 := cell_at (v := .pointer (some ⟨kb, 0, none⟩)) hBq 0 rfl
    have q1 := cell_at (v := .slice none 0 0) hBq 1 rfl
    clear hBq
    clear hA
    refine ⟨(by rfl), ?_⟩
    go_simp <;> (try with_reducible rfl)
  refine Rel7.Chain.det ?_ (by rfl) (fun T xs wr hA => ?_) ?_
  rotate_left 1
  · have e17 := hA.tm 12 17 (by rfl) (by rfl)
    have f17 : xs 12 = _ := hA.fa 12 (by rfl)
    (try simp (disch := first | rfl | decide) only [Rel7.mask_in] at f17)
    rw [f17] at e17
    clear f17
    clear hA
    refine ⟨(by rfl), ?_⟩
    go_simp <;> (try with_reducible rfl)
  refine Rel7.Chain.done (fun xs x1 hL => ?_)
  obtain ⟨⟨hbe, hbl⟩, hf, -, -⟩ := hL
  have f0 : xs 0 = _ := hf 0 (by decide)
  (try simp (disch := first | rfl | decide) only [Rel7.mask_in] at f0)
  have f1 : xs 1 = _ := hf 1 (by decide)
  (try simp (disch := first | rfl | decide) only [Rel7.mask_in] at f1)
  have f2 : xs 2 = _ := hf 2 (by decide)
  (try simp (disch := first | rfl | decide) only [Rel7.mask_in] at f2)
  have f3 : xs 3 = _ := hf 3 (by decide)
  (try simp (disch := first | rfl | decide) only [Rel7.mask_in] at f3)
  have f4 : xs 4 = _ := hf 4 (by decide)
  (try simp (disch := first | rfl | decide) only [Rel7.mask_in] at f4)
  have f5 : xs 5 = _ := hf 5 (by decide)
  (try simp (disch := first | rfl | decide) only [Rel7.mask_in] at f5)
  have f6 : xs 6 = _ := hf 6 (by decide)
  (try simp (disch := first | rfl | decide) only [Rel7.mask_in] at f6)
  have f7 : xs 7 = _ := hf 7 (by decide)
  (try simp (disch := first | rfl | decide) only [Rel7.mask_in] at f7)
  have F8 : ∃ g cs, (xs 8) = .slice (some ⟨g, 0, none⟩) n cs.size ∧ we.heap.size ≤ g ∧ x1.heap[g]? = some (.cells cs 5 (0, 0)) ∧ n ≤ cs.size ∧ cs.size ≤ maxLen := hf 8 (by decide)
  have f9 : xs 9 = _ := hf 9 (by decide)
  (try simp (disch := first | rfl | decide) only [Rel7.mask_in] at f9)
  have f10 : xs 10 = _ := hf 10 (by decide)
  (try simp (disch := first | rfl | decide) only [Rel7.mask_in] at f10)
  have f11 : xs 11 = _ := hf 11 (by decide)
  (try simp (disch := first | rfl | decide) only [Rel7.mask_in] at f11)
  have f12 : xs 12 = _ := hf 12 (by decide)
  (try simp (disch := first | rfl | decide) only [Rel7.mask_in] at f12)
  have f13 : xs 13 = _ := hf 13 (by decide)
  (try simp (disch := first | rfl | decide) only [Rel7.mask_in] at f13)
  have hb0 : Below 0 we x1 := undrew (hbe 0 (Nat.zero_le _) (fun _ _ => Nat.zero_le _))
  have hgr : ∀ j, j < we.heap.size → (∀ q, q < 0 → (fun q => 0) q ≠ j) → x1.heap[j]? = we.heap[j]? := hbl
  clear hbe hbl hf
  have hb : Below we.heap.size we x1 := ⟨hb0.os, hb0.tape, hb0.output, hb0.size, fun q hq => hgr q hq (fun q h => absurd h (Nat.not_lt_zero _))⟩
  refine Rel7.rest_list (by decide) (by kernel_rfl) ?_
  simp only [Rel7.fill, List.take_succ_cons, List.take_zero, List.drop_succ_cons, List.drop_zero, List.setIfInBounds_toArray, List.set_cons_zero, List.set_cons_succ, f0, f1, f2, f3, f4, f5, f6, f7, f9, f10, f11, f12, f13]
  clear hb0 hgr hog hlt_b f0 f1 f2 f3 f4 f5 f6 f7 f9 f10 f11 f12 f13
  replace HBb := kBV hb HBb
  replace hb := Lib.hid hb
  obtain ⟨g, cs, hv, hgl, hgb, hle, hmax⟩ := F8
  rw [show (0 + 1 + 1 + 1 + 1 + 1 + 1 + 1 + 1 : Nat) = 8 from rfl, hv]
  have HG := Lib.hid hgb
  have hmx : cs.size ≤ 9223372036854775807 := hmax
  have hcp : ∀ W : World, (Builtin.copy_ #[87, 87] 3 #[.slice (some ⟨g, 0, none⟩) 0 cs.size, .slice none 0 0]).run Tryz.prog W = .ok (goInt 0) W := fun W => run_copy_none W _ _ _ 5 _ _ 0 cs.size 0 0 Tryz.underlying87 sizeByteV rfl
  clear hgb hv
  have d0 := cell_at (v := .pointer (some ⟨kb, 0, none⟩)) HBb.out 0 rfl
  have fd0 := froz_at HBb.out 0
  have d1 := cell_at (v := .slice none 0 0) HBb.out 1 rfl
  have fd1 := froz_at HBb.out 1
  go_wp2_with fail
  go_end0
  have hown : x1.ownsRow B 5 1 (.slice (some ⟨g, 0, none⟩) 0 cs.size) ([] : List Value).length [] := ⟨rfl, .inr ⟨g, cs.size, cs, rfl, Nat.le_trans hBw hgl, HG.out, Nat.zero_le _, hmax, by simp, by simp⟩⟩
  exact ⟨rfl, .inr (Lib.BuilderAt.put hB HBb.out hown (by decide)), ((hb.out.mono hBw).setCell (p := ⟨kb, 1, none⟩) hB _)⟩
theorem Bld.heapV {B b : Nat} {w : World} {p : Value} (hB : B ≤ b) (h : w.heap[b]? = some (.cells #[p, .slice none 0 0] 89 (0, 0))) (hp : p = .pointer none ∨ p = .pointer (some ⟨b, 0, none⟩)) : Bld B b [] w := by
  rcases hp with rfl | rfl
  · exact .inl ⟨hB, .slice none 0 0, h, World.ownsRow_nil _ _ _ _, by simp [Value.ownBlock]⟩
  · exact .inr ⟨hB, .slice none 0 0, h, World.ownsRow_nil _ _ _ _, by simp [Value.ownBlock]⟩
set_option maxHeartbeats 4000000 in
theorem growB_p (B kb n : Nat) (we : World) (hB : B ≤ kb) (hbk : we.heap[kb]? = some (.cells #[.pointer none, .slice none 0 0] 89 (0, 0))) (hBw : B ≤ we.heap.size) (hn : n ≤ 1000000) (hn1 : 1 ≤ n) :
    Calls Tryz.prog 62 #[.pointer (some ⟨kb, 0, none⟩), .int .i64 (n : Nat)] we fun e w' => e = .returned (.tuple #[]) ∧ Bld B kb [] w' ∧ Below B we w' := by
  have HBb := Lib.hid hbk
  have hw1 : IntKind.i64.wrap (0 : Int) = 0 := by rw [IntKind.wrap_i64]; rfl
  have hnn : (0 : Int) < n := by omega
  clear hbk
  go_enter Tryz.func62, Tryz.ntmps62
  go_wp2_with fail
  refine (copyCheck_fresh kb we (cell_at (v := .pointer none) HBb.out 0 rfl) (by simp [World.shape?, HBb.out]) (froz_at HBb.out 0)).mono ?_
  rintro e w1 ⟨rfl, hw⟩
  have hB1 : w1.heap[kb]? = some (.cells #[.pointer (some ⟨kb, 0, none⟩), .slice none 0 0] 89 (0, 0)) := by rw [← hw, heap_setCell_same _ kb 0 _ _ _ HBb.out]; rfl
  have HW := Lib.hid (show Below B we w1 by rw [← hw]; exact (Below.refl _ _).setCell hB _)
  clear hw
  replace HBb := Lib.hid hB1
  clear hB1
  go_upto_region 3 with fail
  have hlt_b := lt_of_block HBb.out
  have hog : Hid (∀ q, q < 0 → (fun q => 0) q < w1.heap.size) := Lib.hid (fun q h => absurd h (Nat.not_lt_zero _))
  refine Rel7.region (by kernel_rfl) [[], [0], [0, 1], [0, 1, 2], [0, 1, 2, 3], [], [5], [5, 6], [5, 6, 7], [5, 6, 7, 8], [0, 1, 2, 3, 4, 5, 6, 7, 8, 9], [], [0, 1, 2, 3, 4, 5, 6, 7, 8, 9, 10, 11]] [] [] (fun q => 0) 0 13 (by kernel_rfl) (by kernel_rfl) (by rfl) hog.out (fun q q' h h' hn => absurd hn (by omega)) ?_
  refine Rel7.Chain.det ?_ (by rfl) (fun T xs wr hA => ?_) ?_
  rotate_left 1
  · have e0 := hA.pre 0 (by kernel_rfl)
    simp only [List.getElem?_toArray, List.getElem?_cons_zero] at e0
    clear hA
    refine ⟨(by rfl), ?_⟩
    go_simp <;> (try with_reducible rfl)
  refine Rel7.Chain.det ?_ (by rfl) (fun T xs wr hA => ?_) ?_
  rotate_left 1
  · have e9 := hA.tm 0 9 (by rfl) (by rfl)
    have f9 : xs 0 = _ := hA.fa 0 (by rfl)
    (try simp (disch := first | rfl | decide) only [Rel7.mask_in] at f9)
    rw [f9] at e9
    clear f9
    clear hA
    refine ⟨(by rfl), ?_⟩
    go_simp <;> (try with_reducible rfl)
  refine Rel7.Chain.det ?_ (by rfl) (fun T xs wr hA => ?_) ?_
  rotate_left 1
  · have e10 := hA.tm 1 10 (by rfl) (by rfl)
    have f10 : xs 1 = _ := hA.fa 1 (by rfl)
    (try simp (disch := first | rfl | decide) only [Rel7.mask_in] at f10)
    rw [f10] at e10
    clear f10
    clear hA
    refine ⟨(by rfl), ?_⟩
    go_simp <;> (try with_reducible rfl)
  refine Rel7.Chain.det ?_ (by rfl) (fun T xs wr hA => ?_) ?_
  rotate_left 1
  · have e11 := hA.tm 2 11 (by rfl) (by rfl)
    have f11 : xs 2 = _ := hA.fa 2 (by rfl)
    (try simp (disch := first | rfl | decide) only [Rel7.mask_in] at f11)
    rw [f11] at e11
    clear f11
    have hBq : wr.heap[kb]? = _ := (hA.bl _ hlt_b (fun q h => absurd h (Nat.not_lt_zero _))).trans HBb.out
    have q0 := cell_at (v := .pointer (some ⟨kb, 0, none⟩)) hBq 0 rfl
    have q1 := cell_at (v := .slice none 0 0) hBq 1 rfl
    clear hBq
    clear hA
    refine ⟨(by rfl), ?_⟩
    go_simp <;> (try with_reducible rfl)
  refine Rel7.Chain.det ?_ (by rfl) (fun T xs wr hA => ?_) ?_
  rotate_left 1
  · have e12 := hA.tm 3 12 (by rfl) (by rfl)
    have f12 : xs 3 = _ := hA.fa 3 (by rfl)
    (try simp (disch := first | rfl | decide) only [Rel7.mask_in] at f12)
    rw [f12] at e12
    clear f12
    clear hA
    refine ⟨(by rfl), ?_⟩
    go_simp <;> (try with_reducible rfl)
  refine Rel7.Chain.det ?_ (by rfl) (fun T xs wr hA => ?_) ?_
  rotate_left 1
  · have e0 := hA.pre 0 (by kernel_rfl)
    simp only [List.getElem?_toArray, List.getElem?_cons_zero] at e0
    clear hA
    refine ⟨(by rfl), ?_⟩
    go_simp <;> (try with_reducible rfl)
  refine Rel7.Chain.det ?_ (by rfl) (fun T xs wr hA => ?_) ?_
  rotate_left 1
  · have e14 := hA.tm 5 14 (by rfl) (by rfl)
    have f14 : xs 5 = _ := hA.fa 5 (by rfl)
    (try simp (disch := first | rfl | decide) only [Rel7.mask_in] at f14)
    rw [f14] at e14
    clear f14
    clear hA
    refine ⟨(by rfl), ?_⟩
    go_simp <;> (try with_reducible rfl)
  refine Rel7.Chain.det ?_ (by rfl) (fun T xs wr hA => ?_) ?_
  rotate_left 1
  · have e15 := hA.tm 6 15 (by rfl) (by rfl)
    have f15 : xs 6 = _ := hA.fa 6 (by rfl)
    (try simp (disch := first | rfl | decide) only [Rel7.mask_in] at f15)
    rw [f15] at e15
    clear f15
    clear hA
    refine ⟨(by rfl), ?_⟩
    go_simp <;> (try with_reducible rfl)
  refine Rel7.Chain.det ?_ (by rfl) (fun T xs wr hA => ?_) ?_
  rotate_left 1
  · have e16 := hA.tm 7 16 (by rfl) (by rfl)
    have f16 : xs 7 = _ := hA.fa 7 (by rfl)
    (try simp (disch := first | rfl | decide) only [Rel7.mask_in] at f16)
    rw [f16] at e16
    clear f16
    have hBq : wr.heap[kb]? = _ := (hA.bl _ hlt_b (fun q h => absurd h (Nat.not_lt_zero _))).trans HBb.out
    have q0 := cell_at (v := .pointer (some ⟨kb, 0, none⟩)) hBq 0 rfl
    have q1 := cell_at (v := .slice none 0 0) hBq 1 rfl
    clear hBq
    clear hA
    refine ⟨(by rfl), ?_⟩
    go_simp <;> (try with_reducible rfl)
  refine Rel7.Chain.det ?_ (by rfl) (fun T xs wr hA => ?_) ?_
  rotate_left 1
  · have e17 := hA.tm 8 17 (by rfl) (by rfl)
    have f17 : xs 8 = _ := hA.fa 8 (by rfl)
    (try simp (disch := first | rfl | decide) only [Rel7.mask_in] at f17)
    rw [f17] at e17
    clear f17
    clear hA
    refine ⟨(by rfl), ?_⟩
    go_simp <;> (try with_reducible rfl)
  refine Rel7.Chain.det ?_ (by rfl) (fun T xs wr hA => ?_) ?_
  rotate_left 1
  · have e13 := hA.tm 4 13 (by rfl) (by rfl)
    have f13 : xs 4 = _ := hA.fa 4 (by rfl)
    (try simp (disch := first | rfl | decide) only [Rel7.mask_in] at f13)
    rw [f13] at e13
    clear f13
    have e18 := hA.tm 9 18 (by rfl) (by rfl)
    have f18 : xs 9 = _ := hA.fa 9 (by rfl)
    (try simp (disch := first | rfl | decide) only [Rel7.mask_in] at f18)
    rw [f18] at e18
    clear f18
    clear hA
    refine ⟨(by rfl), ?_⟩
    go_simp <;> (try with_reducible rfl)
  refine Rel7.Chain.det ?_ (by rfl) (fun T xs wr hA => ?_) ?_
  rotate_left 1
  · have e1 := hA.pre 1 (by kernel_rfl)
    simp only [List.getElem?_toArray, List.getElem?_cons_succ, List.getElem?_cons_zero] at e1
    clear hA
    refine ⟨(by rfl), ?_⟩
    go_simp <;> (try with_reducible rfl)
  refine Rel7.Chain.det ?_ (by rfl) (fun T xs wr hA => ?_) ?_
  rotate_left 1
  · have e19 := hA.tm 10 19 (by rfl) (by rfl)
    have f19 : xs 10 = _ := hA.fa 10 (by rfl)
    (try simp (disch := first | rfl | decide) only [Rel7.mask_in] at f19)
    rw [f19] at e19
    clear f19
    have e20 := hA.tm 11 20 (by rfl) (by rfl)
    have f20 : xs 11 = _ := hA.fa 11 (by rfl)
    (try simp (disch := first | rfl | decide) only [Rel7.mask_in] at f20)
    rw [f20] at e20
    clear f20
    clear hA
    refine ⟨(by rfl), ?_⟩
    go_simp <;> (try with_reducible rfl)
  refine Rel7.Chain.done (fun xs x1 hL => ?_)
  obtain ⟨⟨hbe, hbl⟩, hf, -, -⟩ := hL
  have f0 : xs 0 = _ := hf 0 (by decide)
  (try simp (disch := first | rfl | decide) only [Rel7.mask_in] at f0)
  have f1 : xs 1 = _ := hf 1 (by decide)
  (try simp (disch := first | rfl | decide) only [Rel7.mask_in] at f1)
  have f2 : xs 2 = _ := hf 2 (by decide)
  (try simp (disch := first | rfl | decide) only [Rel7.mask_in] at f2)
  have f3 : xs 3 = _ := hf 3 (by decide)
  (try simp (disch := first | rfl | decide) only [Rel7.mask_in] at f3)
  have f4 : xs 4 = _ := hf 4 (by decide)
  (try simp (disch := first | rfl | decide) only [Rel7.mask_in] at f4)
  have f5 : xs 5 = _ := hf 5 (by decide)
  (try simp (disch := first | rfl | decide) only [Rel7.mask_in] at f5)
  have f6 : xs 6 = _ := hf 6 (by decide)
  (try simp (disch := first | rfl | decide) only [Rel7.mask_in] at f6)
  have f7 : xs 7 = _ := hf 7 (by decide)
  (try simp (disch := first | rfl | decide) only [Rel7.mask_in] at f7)
  have f8 : xs 8 = _ := hf 8 (by decide)
  (try simp (disch := first | rfl | decide) only [Rel7.mask_in] at f8)
  have f9 : xs 9 = _ := hf 9 (by decide)
  (try simp (disch := first | rfl | decide) only [Rel7.mask_in] at f9)
  have f10 : xs 10 = _ := hf 10 (by decide)
  (try simp (disch := first | rfl | decide) only [Rel7.mask_in] at f10)
  have f11 : xs 11 = _ := hf 11 (by decide)
  (try simp (disch := first | rfl | decide) only [Rel7.mask_in] at f11)
  have f12 : xs 12 = _ := hf 12 (by decide)
  (try simp (disch := first | rfl | decide) only [Rel7.mask_in] at f12)
  have hb0 : Below 0 w1 x1 := undrew (hbe 0 (Nat.zero_le _) (fun _ _ => Nat.zero_le _))
  have hgr : ∀ j, j < w1.heap.size → (∀ q, q < 0 → (fun q => 0) q ≠ j) → x1.heap[j]? = w1.heap[j]? := hbl
  clear hbe hbl hf
  have hb : Below w1.heap.size w1 x1 := ⟨hb0.os, hb0.tape, hb0.output, hb0.size, fun q hq => hgr q hq (fun q h => absurd h (Nat.not_lt_zero _))⟩
  refine Rel7.rest_done ?_
  simp only [Rel7.fill, List.setIfInBounds_toArray, List.set_cons_zero, List.set_cons_succ, f0, f1, f2, f3, f4, f5, f6, f7, f8, f9, f10, f11, f12]
  clear hb0 hgr hog hlt_b f0 f1 f2 f3 f4 f5 f6 f7 f8 f9 f10 f11 f12
  replace HBb := kBV hb HBb
  replace hb := Lib.hid hb
  replace HW := Lib.hid (HW.out.trans (hb.out.mono (Nat.le_trans hBw HW.out.size)))
  go_wp2_with fail
  refine (grow_p B kb n x1 hB HBb.out (Nat.le_trans hBw HW.out.size) hn).mono ?_
  rintro e w2 ⟨rfl, h1, h2⟩
  have HBL := Lib.hid h1
  replace HW := Lib.hid (HW.out.trans h2)
  clear h1 h2
  go_wp2_with fail
  go_end0
  exact ⟨rfl, HBL.out, HW.out⟩
end Go.Proofs.YtocadojeanhalaaGreatDoor
