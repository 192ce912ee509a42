/-
  The contract of binaryOperator, over the package's table.
-/
import Derived.Test.YtdpfgfkoboihcaaDoorPsC
namespace Go.Proofs.YtdpfgfkoboihcaaDoor
open Go.RowKit
set_option maxRecDepth 100000
set_option linter.unusedVariables false

def opC (op : Bop) : List Value := [.string ⟨op.sign.toArray⟩, .int .i64 (op.kind : Nat), .int .i64 (op.level : Nat), .int .i64 (op.left : Nat), .int .i64 (op.right : Nat)]
def opV (o : Option Bop) : Value := match o with
  | some op => .agg #[.string ⟨op.sign.toArray⟩, .int .i64 (op.kind : Nat), .int .i64 (op.level : Nat), .int .i64 (op.left : Nat), .int .i64 (op.right : Nat)]
  | none => .agg #[.string ⟨#[]⟩, .int .i64 0, .int .i64 0, .int .i64 0, .int .i64 0]
/-- The table of operators lies where the program's start laid it. -/
def OpsAt (w : World) : Prop := ∀ j v, (bops.flatMap opC)[j]? = some v → w.cell? ⟨1, j, none⟩ = some v
theorem OpsAt.below {w w' : World} (h : OpsAt w) (hb : Below w.heap.size w w') : OpsAt w' := fun j v hv => by rw [hb.cell (cell_lt (h j v hv))]; exact h j v hv
theorem OpsAt.grown {w w' : World} {g : Nat} (h : OpsAt w) (hg : w.grownBy w' (some g)) (hn : 1 < g) : OpsAt w' := fun j v hv => by
  have hl := cell_lt (h j v hv)
  rw [World.cell?_of_block (hg.block _ hl (fun e => by injection e with e; simp only at e; omega))]; exact h j v hv
theorem idx_op0 (w : World) : (Instr.index 112 (.agg (bops.flatMap opC).toArray) (.int .i64 ((0 : Nat) : Int))).run Tryd.prog w = .ok (opV (some (bops[0]'(by decide)))) w := by kernel_rfl
theorem idx_op1 (w : World) : (Instr.index 112 (.agg (bops.flatMap opC).toArray) (.int .i64 ((1 : Nat) : Int))).run Tryd.prog w = .ok (opV (some (bops[1]'(by decide)))) w := by kernel_rfl
theorem idx_op2 (w : World) : (Instr.index 112 (.agg (bops.flatMap opC).toArray) (.int .i64 ((2 : Nat) : Int))).run Tryd.prog w = .ok (opV (some (bops[2]'(by decide)))) w := by kernel_rfl
theorem idx_op3 (w : World) : (Instr.index 112 (.agg (bops.flatMap opC).toArray) (.int .i64 ((3 : Nat) : Int))).run Tryd.prog w = .ok (opV (some (bops[3]'(by decide)))) w := by kernel_rfl
theorem idx_op4 (w : World) : (Instr.index 112 (.agg (bops.flatMap opC).toArray) (.int .i64 ((4 : Nat) : Int))).run Tryd.prog w = .ok (opV (some (bops[4]'(by decide)))) w := by kernel_rfl
theorem idx_op5 (w : World) : (Instr.index 112 (.agg (bops.flatMap opC).toArray) (.int .i64 ((5 : Nat) : Int))).run Tryd.prog w = .ok (opV (some (bops[5]'(by decide)))) w := by kernel_rfl
theorem idx_op6 (w : World) : (Instr.index 112 (.agg (bops.flatMap opC).toArray) (.int .i64 ((6 : Nat) : Int))).run Tryd.prog w = .ok (opV (some (bops[6]'(by decide)))) w := by kernel_rfl
theorem idx_op7 (w : World) : (Instr.index 112 (.agg (bops.flatMap opC).toArray) (.int .i64 ((7 : Nat) : Int))).run Tryd.prog w = .ok (opV (some (bops[7]'(by decide)))) w := by kernel_rfl
theorem idx_op8 (w : World) : (Instr.index 112 (.agg (bops.flatMap opC).toArray) (.int .i64 ((8 : Nat) : Int))).run Tryd.prog w = .ok (opV (some (bops[8]'(by decide)))) w := by kernel_rfl
theorem idx_op9 (w : World) : (Instr.index 112 (.agg (bops.flatMap opC).toArray) (.int .i64 ((9 : Nat) : Int))).run Tryd.prog w = .ok (opV (some (bops[9]'(by decide)))) w := by kernel_rfl
theorem idx_op10 (w : World) : (Instr.index 112 (.agg (bops.flatMap opC).toArray) (.int .i64 ((10 : Nat) : Int))).run Tryd.prog w = .ok (opV (some (bops[10]'(by decide)))) w := by kernel_rfl
theorem idx_op11 (w : World) : (Instr.index 112 (.agg (bops.flatMap opC).toArray) (.int .i64 ((11 : Nat) : Int))).run Tryd.prog w = .ok (opV (some (bops[11]'(by decide)))) w := by kernel_rfl
theorem idx_op12 (w : World) : (Instr.index 112 (.agg (bops.flatMap opC).toArray) (.int .i64 ((12 : Nat) : Int))).run Tryd.prog w = .ok (opV (some (bops[12]'(by decide)))) w := by kernel_rfl
theorem idx_op13 (w : World) : (Instr.index 112 (.agg (bops.flatMap opC).toArray) (.int .i64 ((13 : Nat) : Int))).run Tryd.prog w = .ok (opV (some (bops[13]'(by decide)))) w := by kernel_rfl
theorem idx_op (j : Nat) (hj : j < bops.length) (w : World) : (Instr.index 112 (.agg (bops.flatMap opC).toArray) (.int .i64 (j : Nat))).run Tryd.prog w = .ok (opV (some bops[j])) w := by
  have h14 : j < 14 := hj
  have : j = 0 ∨ j = 1 ∨ j = 2 ∨ j = 3 ∨ j = 4 ∨ j = 5 ∨ j = 6 ∨ j = 7 ∨ j = 8 ∨ j = 9 ∨ j = 10 ∨ j = 11 ∨ j = 12 ∨ j = 13 := by omega
  rcases this with rfl | rfl | rfl | rfl | rfl | rfl | rfl | rfl | rfl | rfl | rfl | rfl | rfl | rfl 
  · exact idx_op0 w
  · exact idx_op1 w
  · exact idx_op2 w
  · exact idx_op3 w
  · exact idx_op4 w
  · exact idx_op5 w
  · exact idx_op6 w
  · exact idx_op7 w
  · exact idx_op8 w
  · exact idx_op9 w
  · exact idx_op10 w
  · exact idx_op11 w
  · exact idx_op12 w
  · exact idx_op13 w
theorem find_step {l : Bs} {j : Nat} (hj : j < bops.length) (h : bopOf l = (bops.drop j).find? (·.sign == l)) (hn : (bops[j].sign == l) = false) : bopOf l = (bops.drop (j + 1)).find? (·.sign == l) := by
  rw [h, List.drop_eq_getElem_cons hj, List.find?_cons, hn]
theorem find_hit {l : Bs} {j : Nat} (hj : j < bops.length) (h : bopOf l = (bops.drop j).find? (·.sign == l)) (hn : (bops[j].sign == l) = true) : bopOf l = some bops[j] := by
  rw [h, List.drop_eq_getElem_cons hj, List.find?_cons, hn]
theorem below_set5 {w w' : World} {k : Nat} (h : Below w.heap.size w w') (hk : w.heap.size ≤ k) (a b c d e : Value) : Below w.heap.size w (((((w'.setCell ⟨k, 0, none⟩ a).setCell ⟨k, 1, none⟩ b).setCell ⟨k, 2, none⟩ c).setCell ⟨k, 3, none⟩ d).setCell ⟨k, 4, none⟩ e) :=
  ((((h.setCell (by simpa using hk) _).setCell (by simpa using hk) _).setCell (by simpa using hk) _).setCell (by simpa using hk) _).setCell (by simpa using hk) _

set_option maxHeartbeats 4000000 in
theorem binop_p (l : Bs) (w : World) (ht : OpsAt w) :
    Calls Tryd.prog 41 #[.string ⟨l.toArray⟩] w fun e w' => e = .returned (.tuple #[opV (bopOf l), .bool (bopOf l).isSome]) ∧ Below w.heap.size w w' := by
  obtain ⟨w1, hw1⟩ : ∃ x, x = w.alloc (.cells #[.string ⟨#[]⟩, .int .i64 0, .int .i64 0, .int .i64 0, .int .i64 0] 104) := ⟨_, rfl⟩
  have hb1 : Below w.heap.size w w1 := by rw [hw1]; exact (Below.refl _ _).alloc (Nat.le_refl _) _
  have hk1 : w1.heap[w.heap.size]? = some (.cells #[.string ⟨#[]⟩, .int .i64 0, .int .i64 0, .int .i64 0, .int .i64 0] 104 (0, 0)) := by rw [hw1]; exact made_at w _ _ rfl
  have HC := Lib.hid (ht.below hb1)
  have HI := Lib.hid idx_op
  have HW := Lib.hid hw1
  obtain ⟨kr, hkr⟩ : ∃ k, k = w.heap.size := ⟨_, rfl⟩
  have hN : w.heap.size ≤ kr := by omega
  rw [← hkr] at hk1
  have HKR := Lib.hid hkr
  have HR := Lib.hid hk1
  have HB := Lib.hid hb1
  clear hw1 hb1 hk1 hkr ht
  go_enter Tryd.func41, Tryd.ntmps41
  go_upto_region 1 with fail
  rw [← HW.out, ← HKR.out]
  refine wp_region_lit ?_
  refine wpList_plain rfl fun K0 hK0 => ?_
  refine wp_load_row 112 (.global 1) rfl ⟨1, 0, none⟩ rfl (bops.flatMap opC) _ (fun j v hv => by rw [add_lit, Nat.zero_add]; exact HC.out j v hv) Tryd.underlying112 rfl (by kernel_rfl) ?_
  refine hK0 _ _ ?_
  clear hK0
  generalize Value.agg (bops.flatMap opC).toArray = vq at HI ⊢
  go_wp2_with fail
  go_loopw [7] (fun i wr => ∃ j : Nat, i = .int .i64 (j : Nat) ∧ j ≤ 14 ∧ Hid (bopOf l = (bops.drop j).find? (·.sign == l)) ∧ Hid (Below w1.heap.size w1 wr)) (fun i _ => 14 - (intOf i).toNat)
  case atStart => exact ⟨0, rfl, Nat.zero_le _, Lib.hid rfl, Lib.hid (Below.refl _ _)⟩
  case round =>
    obtain ⟨j, rfl, hj, HF, HBr⟩ := hrel
    have HR2 := Lib.hid ((HBr.out.block _ (lt_of_block HR.out)).trans HR.out)
    have HB2 := Lib.hid (HB.out.trans (HBr.out.mono HB.out.size))
    by_cases hlt : j < 14
    · have hjl : j < bops.length := hlt
      have hi := fun w => HI.out j hjl w
      have HS := Lib.hid (fun h => find_step hjl HF.out h)
      have HT := Lib.hid (fun h => find_hit hjl HF.out h)
      obtain ⟨op, hop⟩ : ∃ op, op = bops[j] := ⟨_, rfl⟩
      rw [← hop] at HS HT hi
      simp only [opV] at hi
      clear hop
      cases hq : (op.sign == l)
      · go_wp2_with fail
        go_roundw
        case rel => exact ⟨j + 1, by go_num, by omega, Lib.hid (HS.out hq), Lib.hid (HBr.out.alloc HBr.out.size _)⟩
        case measure => simp [intOf]; omega
      · go_upto_region 5 with fail
        obtain ⟨w3, hw3⟩ : ∃ x, x = wr.alloc (.cells #[.string ⟨op.sign.toArray⟩, .int .i64 (op.kind : Nat), .int .i64 (op.level : Nat), .int .i64 (op.left : Nat), .int .i64 (op.right : Nat)] 104) := ⟨_, rfl⟩
        have hb3 : Below wr.heap.size wr w3 := by rw [hw3]; exact (Below.refl _ _).alloc (Nat.le_refl _) _
        have hk3 : w3.heap[wr.heap.size]? = some (.cells #[.string ⟨op.sign.toArray⟩, .int .i64 (op.kind : Nat), .int .i64 (op.level : Nat), .int .i64 (op.left : Nat), .int .i64 (op.right : Nat)] 104 (0, 0)) := by rw [hw3]; exact made_at wr _ _ rfl
        have hr3 := (hb3.block _ (lt_of_block HR2.out)).trans HR2.out
        rw [← hw3]
        have HB3 := Lib.hid (HB2.out.trans (hb3.mono HB2.out.size))
        have HO := Lib.hid hk3
        clear hw3 hb3
        have o0 := cell_at (v := .string ⟨op.sign.toArray⟩) HO.out 0 rfl
        have o1 := cell_at (v := .int .i64 (op.kind : Nat)) HO.out 1 rfl
        have o2 := cell_at (v := .int .i64 (op.level : Nat)) HO.out 2 rfl
        have o3 := cell_at (v := .int .i64 (op.left : Nat)) HO.out 3 rfl
        have o4 := cell_at (v := .int .i64 (op.right : Nat)) HO.out 4 rfl
        have z0 := cell_at (v := .string ⟨#[]⟩) hr3 0 rfl
        have z1 := cell_at (v := .int .i64 0) hr3 1 rfl
        have z2 := cell_at (v := .int .i64 0) hr3 2 rfl
        have z3 := cell_at (v := .int .i64 0) hr3 3 rfl
        have z4 := cell_at (v := .int .i64 0) hr3 4 rfl
        have f0 := froz_at hr3 0
        have f1 := froz_at hr3 1
        have f2 := froz_at hr3 2
        have f3 := froz_at hr3 3
        have f4 := froz_at hr3 4
        clear hk3 hr3
        go_wp2_with fail
        refine bodyPost_ret (v := .tuple #[.agg #[.string ⟨op.sign.toArray⟩, .int .i64 (op.kind : Nat), .int .i64 (op.level : Nat), .int .i64 (op.left : Nat), .int .i64 (op.right : Nat)], .bool true]) (by simp [results, Tryd.results41, go_sem, z0, z1, z2, z3, z4]) rfl ⟨by rw [HT.out hq]; rfl, below_set5 HB3.out hN _ _ _ _ _⟩
    · have e : j = 14 := by omega
      subst e
      have HN : Hid (bopOf l = none) := Lib.hid (by rw [HF.out]; rfl)
      have z0 := cell_at (v := .string ⟨#[]⟩) HR2.out 0 rfl
      have z1 := cell_at (v := .int .i64 0) HR2.out 1 rfl
      have z2 := cell_at (v := .int .i64 0) HR2.out 2 rfl
      have z3 := cell_at (v := .int .i64 0) HR2.out 3 rfl
      have z4 := cell_at (v := .int .i64 0) HR2.out 4 rfl
      have f0 := froz_at HR2.out 0
      have f1 := froz_at HR2.out 1
      have f2 := froz_at HR2.out 2
      have f3 := froz_at HR2.out 3
      have f4 := froz_at HR2.out 4
      go_wp2_with fail
      refine bodyPost_ret (v := .tuple #[.agg #[.string ⟨#[]⟩, .int .i64 0, .int .i64 0, .int .i64 0, .int .i64 0], .bool false]) (by simp [results, Tryd.results41, go_sem, z0, z1, z2, z3, z4]) rfl ⟨by rw [HN.out]; rfl, below_set5 HB2.out hN _ _ _ _ _⟩
end Go.Proofs.YtdpfgfkoboihcaaDoor
