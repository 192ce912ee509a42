/-
  The anchor of layer 5's laws: one printed expression, its size.
-/
import Derived.Test.YtcdacmbcecjliaaDoorTrT
import Derived.Deep.DeepCutAuto
namespace Go.Proofs.YtcdacmbcecjliaaDoor
open Go.RowKit
set_option linter.unusedVariables false
set_option maxRecDepth 100000

def OfPost (n : Nat) (w : World) (e : Ending) (w' : World) : Prop := ∃ ao l c, e = .returned (.agg #[.bool false, .slice ao l c]) ∧ Sl w' .u32 (.slice ao l c) (dig L32 n) ∧ Below w.heap.size w w'
theorem of_nat (n : Nat) (hn : n ≤ 1000) (w : World) : Calls Tryd.prog 12 #[.int .i64 (n : Nat)] w (OfPost n w) := by
  refine (wof_any (n : Int) w (by omega) (by omega)).mono ?_
  rintro e w' ⟨v, rfl, hc, hb⟩
  obtain ⟨va, rfl, hs, -⟩ := hc
  obtain ⟨ao, c, rfl⟩ := sl_shape hs
  rw [show decide ((n : Int) < 0) = false by rw [decide_eq_false_iff_not]; omega]
  rw [Int.natAbs_natCast] at hs
  exact ⟨ao, _, c, rfl, hs, hb⟩
def OfNegPost (w : World) (e : Ending) (w' : World) : Prop := ∃ ao l c, e = .returned (.agg #[.bool true, .slice ao l c]) ∧ Below w.heap.size w w'
theorem of_neg (w : World) : Calls Tryd.prog 12 #[.int .i64 (-1)] w (OfNegPost w) := by
  refine (wof_any (-1) w (by omega) (by omega)).mono ?_
  rintro e w' ⟨v, rfl, hc, hb⟩
  obtain ⟨va, rfl, hs, -⟩ := hc
  obtain ⟨ao, c, rfl⟩ := sl_shape hs
  exact ⟨ao, _, c, rfl, hb⟩

/-- A number as an expression. -/
def numX (ao : Option Addr) (n c : Nat) : X := ⟨0, ⟨#[]⟩, ⟨#[]⟩, false, ao, n, c, none, 0, 0, 0, 0⟩
def numT (n : Nat) : T := .node 0 [] [] n []
theorem num_tr {w : World} {ao : Option Addr} {l c n : Nat} (h : Sl w .u32 (.slice ao l c) (dig L32 n)) (d : Nat) : Tr w (fun _ => True) (d + 1) (numX ao l c) (numT n) :=
  ⟨⟨rfl, rfl, rfl, rfl⟩, ⟨h, fun _ _ _ => trivial⟩, ⟨rfl, Nat.zero_le _, fun _ _ _ => trivial⟩, fun i hi => absurd hi (Nat.not_lt_zero i)⟩
/-- An operator with two kids that lie in one block. -/
def opX (k : Nat) (g : Nat) : X := ⟨(k : Nat), ⟨#[]⟩, ⟨#[]⟩, false, none, 0, 0, some ⟨g, 0, none⟩, 2, 2, 0, 0⟩
theorem at_two {w : World} {g : Nat} {a b : X} (h : w.heap[g]? = some (.cells (xc a ++ xc b).toArray 29 (0, 0))) : At8 w (some ⟨g, 0, none⟩) 0 a ∧ At8 w (some ⟨g, 0, none⟩) 1 b := by
  refine ⟨⟨_, rfl, fun j v hj => ?_⟩, ⟨_, rfl, fun j v hj => ?_⟩⟩
  · have hj8 : j < 8 := by have := (List.getElem?_eq_some_iff.1 hj).1; simpa [xc] using this
    have e : ((⟨g, 0, none⟩ : Addr).add (0 * 8)).add j = ⟨g, j, none⟩ := by unfold Addr.add; by_cases h0 : j = 0 <;> simp [h0]
    rw [e, cell_of_row w g j _ _ (0, 0) h]
    simp only [List.getElem?_toArray]
    rw [List.getElem?_append_left (by simpa [xc] using hj8)]; exact hj
  · have hj8 : j < 8 := by have := (List.getElem?_eq_some_iff.1 hj).1; simpa [xc] using this
    have e : ((⟨g, 0, none⟩ : Addr).add (1 * 8)).add j = ⟨g, 8 + j, none⟩ := by unfold Addr.add; by_cases h0 : j = 0 <;> simp [h0]
    rw [e, cell_of_row w g (8 + j) _ _ (0, 0) h]
    simp only [List.getElem?_toArray]
    rw [List.getElem?_append_right (by simp [xc])]
    simp only [show (xc a).length = 8 from rfl, Nat.add_sub_cancel_left]; exact hj
theorem op_tr {w : World} {k g d : Nat} {a b : X} {s t : T} (h : w.heap[g]? = some (.cells (xc a ++ xc b).toArray 29 (0, 0))) (ha : Tr w (fun _ => True) d a s) (hb : Tr w (fun _ => True) d b t) : Tr w (fun _ => True) (d + 1) (opX k g) (.node k [] [] 0 [s, t]) := by
  obtain ⟨h1, h2⟩ := at_two h
  refine ⟨⟨rfl, rfl, rfl, rfl⟩, ⟨by rw [dig_zero]; exact Sl.nil _ _, fun _ _ _ => trivial⟩, ⟨rfl, Nat.le_refl _, fun _ _ _ => trivial⟩, fun i hi => ?_⟩
  match i, hi with
  | 0, _ => exact ⟨a, h1, ha⟩
  | 1, _ => exact ⟨b, h2, hb⟩

def fitT : T := .node 11 [] [] 0 [numT 1, .node 10 [] [] 0 [numT 2, numT 3]]
theorem fit_ok : Ok 3 fitT := by
  refine ⟨by decide, ⟨fun h => absurd h (by decide), by decide⟩, by decide, by decide, .inr rfl, by decide, fun t ht => ?_⟩
  simp only [List.mem_cons, List.not_mem_nil, or_false] at ht
  have num : ∀ d n, n < 4294967296 ^ 4 → Ok (d + 1) (numT n) := fun d n hn => ⟨by decide, ⟨fun h => absurd h (by decide), by decide⟩, by decide, hn, .inr rfl, by decide, fun t ht => by cases ht⟩
  rcases ht with rfl | rfl
  · exact num _ _ (by decide)
  · refine ⟨by decide, ⟨fun h => absurd h (by decide), by decide⟩, by decide, by decide, .inr rfl, by decide, fun t ht => ?_⟩
    simp only [List.mem_cons, List.not_mem_nil, or_false] at ht
    rcases ht with rfl | rfl
    · exact num _ _ (by decide)
    · exact num _ _ (by decide)
theorem zText_one (n : Nat) (h : n < 10) : zText (n : Int) = [UInt8.ofNat (48 + n)] := by
  unfold zText
  rw [if_neg (by omega), Int.natAbs_natCast, Lib.decDigits_one h]
theorem fit_tx : tx fitT = [49, 32, 45, 32, 40, 50, 32, 43, 32, 51, 41] := by
  have h1 := zText_one 1 (by decide)
  have h2 := zText_one 2 (by decide)
  have h3 := zText_one 3 (by decide)
  have n : ∀ k, tx (numT k) = zText (k : Int) := fun k => by unfold numT; rw [tx]; rfl
  have e2 : tx (.node 10 [] [] 0 [numT 2, numT 3]) = [50, 32, 43, 32, 51] := by
    rw [tx]; simp only [exs, n, h2, h3]; rfl
  rw [fitT, tx]
  simp only [exs, n, h1, e2]
  rfl
theorem fit_sz : sz fitT = 5 := rfl

def fitW (w3 : World) (x1 x2 x3 : X) : World :=
  (((((w3.alloc (.cells (xc x1).toArray 29)).alloc (.cells (xc x2).toArray 29)).alloc (.cells (xc x3).toArray 29)).alloc (.cells (xc x2 ++ xc x3).toArray 29)).alloc
    (.cells (xc x1 ++ xc (opX 10 (w3.heap.size + 3))).toArray 29)).alloc (.cells (xc (opX 11 (w3.heap.size + 4))).toArray 29)
theorem fit_world (w3 : World) (x1 x2 x3 : X) (h1 : ∀ d, Tr w3 (fun _ => True) (d + 1) x1 (numT 1)) (h2 : ∀ d, Tr w3 (fun _ => True) (d + 1) x2 (numT 2)) (h3 : ∀ d, Tr w3 (fun _ => True) (d + 1) x3 (numT 3)) :
    Tr (fitW w3 x1 x2 x3) (fun _ => True) 3 (opX 11 (w3.heap.size + 4)) fitT ∧ Below w3.heap.size w3 (fitW w3 x1 x2 x3) ∧ (fitW w3 x1 x2 x3).heap[w3.heap.size + 5]? = some (.cells (xc (opX 11 (w3.heap.size + 4))).toArray 29 (0, 0)) := by
  unfold fitW
  generalize hA : w3.alloc (.cells (xc x1).toArray 29) = wA
  have bA : Below w3.heap.size w3 wA := by rw [← hA]; exact (Below.refl _ _).alloc (Nat.le_refl _) _
  have sA : wA.heap.size = w3.heap.size + 1 := by rw [← hA]; simp
  generalize hB : wA.alloc (.cells (xc x2).toArray 29) = wB
  have bB : Below w3.heap.size w3 wB := by rw [← hB]; exact bA.alloc (by omega) _
  have sB : wB.heap.size = w3.heap.size + 2 := by rw [← hB]; simp [sA]
  generalize hC : wB.alloc (.cells (xc x3).toArray 29) = wC
  have bC : Below w3.heap.size w3 wC := by rw [← hC]; exact bB.alloc (by omega) _
  have sC : wC.heap.size = w3.heap.size + 3 := by rw [← hC]; simp [sB]
  generalize hD : wC.alloc (.cells (xc x2 ++ xc x3).toArray 29) = wD
  have bD : Below w3.heap.size w3 wD := by rw [← hD]; exact bC.alloc (by omega) _
  have sD : wD.heap.size = w3.heap.size + 4 := by rw [← hD]; simp [sC]
  have mD : wD.heap[w3.heap.size + 3]? = some (.cells (xc x2 ++ xc x3).toArray 29 (0, 0)) := by rw [← hD, ← sC]; exact made_at wC _ _ rfl
  generalize hE : wD.alloc (.cells (xc x1 ++ xc (opX 10 (w3.heap.size + 3))).toArray 29) = wE
  have bE : Below w3.heap.size w3 wE := by rw [← hE]; exact bD.alloc (by omega) _
  have sE : wE.heap.size = w3.heap.size + 5 := by rw [← hE]; simp [sD]
  have mE : wE.heap[w3.heap.size + 4]? = some (.cells (xc x1 ++ xc (opX 10 (w3.heap.size + 3))).toArray 29 (0, 0)) := by rw [← hE, ← sD]; exact made_at wD _ _ rfl
  have mD' : wE.heap[w3.heap.size + 3]? = some (.cells (xc x2 ++ xc x3).toArray 29 (0, 0)) := by rw [← hE]; exact made_more mD _
  have tE : Tr wE (fun _ => True) 2 (opX 10 (w3.heap.size + 3)) (.node 10 [] [] 0 [numT 2, numT 3]) := op_tr mD' ((h2 0).below bE) ((h3 0).below bE)
  have tF : Tr wE (fun _ => True) 3 (opX 11 (w3.heap.size + 4)) fitT := op_tr mE ((h1 1).below bE) tE
  refine ⟨tF.alloc _, bE.alloc (by omega) _, ?_⟩
  rw [← sE]; exact made_at wE _ _ rfl

set_option maxHeartbeats 8000000 in
theorem fit_any (w : World) (ht : Tabs w) : Calls Tryd.prog 6 #[] w fun e w' => e = .returned (.bool true) ∧ Below w.heap.size w w' := by
  have HT := Lib.hid ht
  clear ht
  go_enter Tryd.func6, Tryd.ntmps6
  go_wp2_with fail
  refine (of_nat 1 (by decide) w).mono ?_
  intro e w1 hp
  obtain ⟨a1, l1, c1, rfl, s1, b1⟩ := hp
  have S1 := Lib.hid s1
  have B1 := Lib.hid b1
  clear s1 b1
  go_wp2_with fail
  refine (of_nat 2 (by decide) w1).mono ?_
  intro e w2 hp
  obtain ⟨a2, l2, c2, rfl, s2, b2⟩ := hp
  have S2 := Lib.hid s2
  have B2 := Lib.hid b2
  clear s2 b2
  go_wp2_with fail
  refine (of_nat 3 (by decide) w2).mono ?_
  intro e w3 hp
  obtain ⟨a3, l3, c3, rfl, s3, b3⟩ := hp
  have S3 := Lib.hid s3
  have B3 := Lib.hid b3
  clear s3 b3
  have T1 : ∀ d, Tr w3 (fun _ => True) (d + 1) (numX a1 l1 c1) (numT 1) := fun d => num_tr ((S1.out.below B2.out).below B3.out) d
  have T2 : ∀ d, Tr w3 (fun _ => True) (d + 1) (numX a2 l2 c2) (numT 2) := fun d => num_tr (S2.out.below B3.out) d
  have T3 : ∀ d, Tr w3 (fun _ => True) (d + 1) (numX a3 l3 c3) (numT 3) := fun d => num_tr S3.out d
  obtain ⟨tF, bF, mF⟩ := fit_world w3 _ _ _ T1 T2 T3
  have TF := Lib.hid tF
  have BF := Lib.hid bF
  have MF := Lib.hid mF
  have SZ : Hid (w.heap.size ≤ w1.heap.size ∧ w1.heap.size ≤ w2.heap.size ∧ w2.heap.size ≤ w3.heap.size) := Lib.hid ⟨B1.out.size, B2.out.size, B3.out.size⟩
  have B03 : Hid (Below w.heap.size w w3) := Lib.hid ((B1.out.trans (B2.out.mono SZ.out.1)).trans (B3.out.mono (Nat.le_trans SZ.out.1 SZ.out.2.1)))
  have BW : Hid (Below w.heap.size w (fitW w3 (numX a1 l1 c1) (numX a2 l2 c2) (numX a3 l3 c3))) := Lib.hid (B03.out.trans (BF.out.mono B03.out.size))
  clear T1 T2 T3 tF bF mF S1 S2 S3 B1 B2 B3
  go_wp2_with fail
  refine (text_any5 3 (by decide) (opX 11 (w3.heap.size + 4)) fitT (fun _ => True) (fitW w3 (numX a1 l1 c1) (numX a2 l2 c2) (numX a3 l3 c3)) (HT.out.below BW.out) TF.out fit_ok).mono ?_
  rintro e w4 ⟨rfl, hb4⟩
  rw [fit_tx]
  have m4 := (hb4.block (w3.heap.size + 5) (lt_of_block MF.out)).trans MF.out
  have T4 := Lib.hid (TF.out.below hb4)
  have B4 := Lib.hid (BW.out.trans (hb4.mono BW.out.size))
  clear hb4
  have x0 := cell_at (v := .int .i64 11) m4 0 rfl
  have x1 := cell_at (v := .string ⟨#[]⟩) m4 1 rfl
  have x2 := cell_at (v := .string ⟨#[]⟩) m4 2 rfl
  have x3 := cell_at (v := .bool false) m4 3 rfl
  have x4 := cell_at (v := .slice none 0 0) m4 4 rfl
  have x5 := cell_at (v := .slice (some ⟨w3.heap.size + 4, 0, none⟩) 2 2) m4 5 rfl
  have x6 := cell_at (v := .int .i64 0) m4 6 rfl
  have x7 := cell_at (v := .int .i64 0) m4 7 rfl
  clear m4
  go_wp2_with fail
  refine (size_any 3 (by decide) (opX 11 (w3.heap.size + 4)) fitT w4 (fun _ => True) T4.out fit_ok).mono ?_
  rintro e w5 ⟨rfl, hb5⟩
  have B5 := Lib.hid (B4.out.trans (hb5.mono B4.out.size))
  clear hb5 x0 x1 x2 x3 x4 x5 x6 x7
  rw [fit_sz]
  go_wp2_with fail
  go_ret
  exact ⟨rfl, B5.out⟩
end Go.Proofs.YtcdacmbcecjliaaDoor
