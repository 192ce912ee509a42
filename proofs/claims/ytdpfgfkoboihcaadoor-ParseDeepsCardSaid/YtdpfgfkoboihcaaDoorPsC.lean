/-
  Contracts of named, unaryOperator, binaryOperator.
-/
import Derived.Test.YtdpfgfkoboihcaaDoorPsB
import Derived.Deep.MidRow
namespace Go.Proofs.YtdpfgfkoboihcaaDoor
open Go.RowKit
set_option maxRecDepth 100000
set_option linter.unusedVariables false

theorem run_loadAt_row {P : Program} (w : World) (p : Addr) (ty : TypeId) (cs : List Value) (d : TypeDesc) (hc : ∀ j v, cs[j]? = some v → w.cell? (p.add j) = some v)
    (hu : P.underlying ty = some d) (hd : d.isRow = true) (hi : (P.info? ty).map (·.size) = some cs.length) :
    (Instr.loadAt ty (.pointer (some p))).run P w = .ok (.agg cs.toArray) w := by
  have hl := run_loadCells_list (P := P) w p cs hc
  cases hq : P.info? ty with
  | none => simp [hq] at hi
  | some i =>
    have hs : i.size = cs.length := by simpa [hq] using hi
    have hagg : (isAgg ty).run P w = .ok true w := by
      unfold isAgg
      rw [Sem.run_bind, run_underlying hu w]
      cases d <;> simp_all
    simp [Instr.loadAt, Instr.sureAddr, loadVar, Sem.run_bind, hagg, sizeOf, typeInfo, hq, hs, hl]
theorem wp_load_row {P : Program} {op : Oper} {a : Act} {w : World} {K : Act → World → Prop} {Q : Exit → Act → World → Prop} (ty : TypeId) (x : Operand) (ho : op.op = .load ty x)
    (p : Addr) (hx : a.eval x = .pointer (some p)) (cs : List Value) (d : TypeDesc) (hc : ∀ j v, cs[j]? = some v → w.cell? (p.add j) = some v)
    (hu : P.underlying ty = some d) (hd : d.isRow = true) (hi : (P.info? ty).map (·.size) = some cs.length)
    (h : K (a.put op.dst (.agg cs.toArray)) w) : op.wp P a w K Q := by
  unfold Oper.wp execOp
  simp only [ho, hx, Sem.run_bind, Sem.run_pure, Result.andThen_ok, run_loadAt_row w p ty cs d hc hu hd hi]
  exact h

set_option maxHeartbeats 2000000 in
theorem named_p (k : Nat) (t : Tok) (ko : Option Addr) (n c : Nat) (w : World) :
    Calls Tryd.prog 59 #[.int .i64 (k : Nat), tokV t, .slice ko n c] w fun e w' => e = .returned (xv ⟨(k : Nat), ⟨t.text.toArray⟩, ⟨#[]⟩, false, none, 0, 0, ko, n, c, (t.line : Nat), (t.col : Nat)⟩) ∧ Below w.heap.size w w' := by
  have hp := fun w => part_p k t ko n c w
  simp only [tokV, xv] at hp ⊢
  have HPt := Lib.hid hp
  clear hp
  go_enter Tryd.func59, Tryd.ntmps59
  go_upto_region 1 with fail
  obtain ⟨w1, hw1⟩ : ∃ x, x = w.alloc (.cells #[.int .i64 (t.kind : Nat), .string ⟨t.text.toArray⟩, .int .i64 (t.line : Nat), .int .i64 (t.col : Nat)] 57) := ⟨_, rfl⟩
  obtain ⟨w2, hw2⟩ : ∃ x, x = w1.alloc (.cells #[.int .i64 0, .string ⟨#[]⟩, .string ⟨#[]⟩, .bool false, .slice none 0 0, .slice none 0 0, .int .i64 0, .int .i64 0] 30) := ⟨_, rfl⟩
  have hb1 : Below w.heap.size w w1 := by rw [hw1]; exact (Below.refl _ _).alloc (Nat.le_refl _) _
  have hs1 : w1.heap.size = w.heap.size + 1 := by rw [hw1]; simp
  have hb2 : Below w1.heap.size w1 w2 := by rw [hw2]; exact (Below.refl _ _).alloc (Nat.le_refl _) _
  have ht1 : w1.heap[w.heap.size]? = some (.cells #[.int .i64 (t.kind : Nat), .string ⟨t.text.toArray⟩, .int .i64 (t.line : Nat), .int .i64 (t.col : Nat)] 57 (0, 0)) := by rw [hw1]; exact made_at w _ _ rfl
  have hr2 : w2.heap[w.heap.size + 1]? = some (.cells #[.int .i64 0, .string ⟨#[]⟩, .string ⟨#[]⟩, .bool false, .slice none 0 0, .slice none 0 0, .int .i64 0, .int .i64 0] 30 (0, 0)) := by rw [hw2, ← hs1]; exact made_at w1 _ _ rfl
  have ht2 := (hb2.block _ (lt_of_block ht1)).trans ht1
  rw [← hw1, ← hw2]
  obtain ⟨kt, hkt⟩ : ∃ k, k = w.heap.size := ⟨_, rfl⟩
  obtain ⟨kr, hkr⟩ : ∃ k, k = w.heap.size + 1 := ⟨_, rfl⟩
  have hBB : Below w.heap.size w w2 := hb1.trans (hb2.mono hb1.size)
  rw [← hkt] at ht2 hkr ⊢
  rw [← hkt, ← hkr] at hr2
  rw [← hkr]
  have HT := Lib.hid ht2
  have HR := Lib.hid hr2
  have HB := Lib.hid hBB
  have hlt : kt < kr := by omega
  have hN : w.heap.size ≤ kt := by omega
  clear hw1 hw2 hb1 hb2 ht1 ht2 hr2 hBB hkt hkr hs1
  have x0 := cell_at (v := .int .i64 (t.kind : Nat)) HT.out 0 rfl
  have x1 := cell_at (v := .string ⟨t.text.toArray⟩) HT.out 1 rfl
  have x2 := cell_at (v := .int .i64 (t.line : Nat)) HT.out 2 rfl
  have x3 := cell_at (v := .int .i64 (t.col : Nat)) HT.out 3 rfl
  go_wp2_with fail
  refine (HPt.out w2).mono ?_
  rintro e w3 ⟨rfl, hb⟩
  have HT3 := Lib.hid ((hb.block _ (lt_of_block HT.out)).trans HT.out)
  have HR3 := Lib.hid ((hb.block _ (lt_of_block HR.out)).trans HR.out)
  have HB3 := Lib.hid (HB.out.trans (hb.mono HB.out.size))
  clear hb x0 x1 x2 x3
  go_upto_region 2 with fail
  obtain ⟨w4, hw4⟩ : ∃ x, x = w3.alloc (.cells #[.int .i64 (k : Nat), .string ⟨#[]⟩, .string ⟨#[]⟩, .bool false, .slice none 0 0, .slice ko n c, .int .i64 (t.line : Nat), .int .i64 (t.col : Nat)] 30) := ⟨_, rfl⟩
  have hb4 : Below w3.heap.size w3 w4 := by rw [hw4]; exact (Below.refl _ _).alloc (Nat.le_refl _) _
  have hv4 : w4.heap[w3.heap.size]? = some (.cells #[.int .i64 (k : Nat), .string ⟨#[]⟩, .string ⟨#[]⟩, .bool false, .slice none 0 0, .slice ko n c, .int .i64 (t.line : Nat), .int .i64 (t.col : Nat)] 30 (0, 0)) := by rw [hw4]; exact made_at w3 _ _ rfl
  rw [← hw4]
  obtain ⟨kv, hkv⟩ : ∃ k, k = w3.heap.size := ⟨_, rfl⟩
  have hlv : kr < kv := by rw [hkv]; exact lt_of_block HR3.out
  rw [← hkv] at hv4 ⊢
  have HT4 := Lib.hid ((hb4.block _ (lt_of_block HT3.out)).trans HT3.out)
  have HR4 := Lib.hid ((hb4.block _ (lt_of_block HR3.out)).trans HR3.out)
  have HB4 := Lib.hid (HB3.out.trans (hb4.mono HB3.out.size))
  have HV4 := Lib.hid hv4
  clear hw4 hb4 hv4 hkv
  have x1 := cell_at (v := .string ⟨t.text.toArray⟩) HT4.out 1 rfl
  have v1 := cell_at (v := .string ⟨#[]⟩) HV4.out 1 rfl
  have fv1 := froz_at HV4.out 1
  go_upto_region 3 with fail
  obtain ⟨w5, hw5⟩ : ∃ x, x = w4.setCell ⟨kv, 1, none⟩ (.string ⟨t.text.toArray⟩) := ⟨_, rfl⟩
  have hg5 : w4.grownBy w5 (some kv) := by rw [hw5]; exact grown_set _ kv 1 _
  have hv5 : w5.heap[kv]? = some (.cells #[.int .i64 (k : Nat), .string ⟨t.text.toArray⟩, .string ⟨#[]⟩, .bool false, .slice none 0 0, .slice ko n c, .int .i64 (t.line : Nat), .int .i64 (t.col : Nat)] 30 (0, 0)) := by rw [hw5, heap_setCell_same _ kv 1 _ _ _ HV4.out]; rfl
  have hr5 := (hg5.block kr (lt_of_block HR4.out) (fun e => by injection e with e; omega)).trans HR4.out
  have hB5 : Below w.heap.size w w5 := HB4.out.trans (grown_below hg5 HB4.out.size (by omega))
  rw [← hw5]
  have HV5 := Lib.hid hv5
  have HR5 := Lib.hid hr5
  have HB5 := Lib.hid hB5
  clear hw5 hg5 hv5 hr5 hB5 x1 v1 fv1
  have v0 := cell_at (v := .int .i64 (k : Nat)) HV5.out 0 rfl
  have v1 := cell_at (v := .string ⟨t.text.toArray⟩) HV5.out 1 rfl
  have v2 := cell_at (v := .string ⟨#[]⟩) HV5.out 2 rfl
  have v3 := cell_at (v := .bool false) HV5.out 3 rfl
  have v4 := cell_at (v := .slice none 0 0) HV5.out 4 rfl
  have v5 := cell_at (v := .slice ko n c) HV5.out 5 rfl
  have v6 := cell_at (v := .int .i64 (t.line : Nat)) HV5.out 6 rfl
  have v7 := cell_at (v := .int .i64 (t.col : Nat)) HV5.out 7 rfl
  have z0 := cell_at (v := .int .i64 0) HR5.out 0 rfl
  have z1 := cell_at (v := .string ⟨#[]⟩) HR5.out 1 rfl
  have z2 := cell_at (v := .string ⟨#[]⟩) HR5.out 2 rfl
  have z3 := cell_at (v := .bool false) HR5.out 3 rfl
  have z4 := cell_at (v := .slice none 0 0) HR5.out 4 rfl
  have z5 := cell_at (v := .slice none 0 0) HR5.out 5 rfl
  have z6 := cell_at (v := .int .i64 0) HR5.out 6 rfl
  have z7 := cell_at (v := .int .i64 0) HR5.out 7 rfl
  have f0 := froz_at HR5.out 0
  have f1 := froz_at HR5.out 1
  have f2 := froz_at HR5.out 2
  have f3 := froz_at HR5.out 3
  have f4 := froz_at HR5.out 4
  have f5 := froz_at HR5.out 5
  have f6 := froz_at HR5.out 6
  have f7 := froz_at HR5.out 7
  go_wp2_with fail
  exact bodyPost_ret (v := .agg #[.int .i64 (k : Nat), .string ⟨t.text.toArray⟩, .string ⟨#[]⟩, .bool false, .slice none 0 0, .slice ko n c, .int .i64 (t.line : Nat), .int .i64 (t.col : Nat)]) (by simp [results, Tryd.results59, go_sem, z0, z1, z2, z3, z4, z5, z6, z7]) rfl ⟨rfl, st8_below HB5.out (by omega) _ _ _ _ _ _ _ _⟩

set_option maxHeartbeats 2000000 in
theorem unary_p (l : Bs) (w : World) :
    Calls Tryd.prog 50 #[.string ⟨l.toArray⟩] w fun e w' => e = .returned (.tuple #[.int .i64 (((unOf l).getD 0 : Nat)), .bool (unOf l).isSome]) ∧ w' = w := by
  by_cases h1 : l = [45]
  · subst h1
    go_enter Tryd.func50, Tryd.ntmps50
    go_wp2
    go_ret2
    exact ⟨rfl, rfl⟩
  by_cases h2 : l = [110, 111, 116]
  · subst h2
    go_enter Tryd.func50, Tryd.ntmps50
    go_wp2
    go_ret2
    exact ⟨rfl, rfl⟩
  by_cases h3 : l = [108, 101, 110]
  · subst h3
    go_enter Tryd.func50, Tryd.ntmps50
    go_wp2
    go_ret2
    exact ⟨rfl, rfl⟩
  by_cases h4 : l = [104, 100]
  · subst h4
    go_enter Tryd.func50, Tryd.ntmps50
    go_wp2
    go_ret2
    exact ⟨rfl, rfl⟩
  by_cases h5 : l = [116, 108]
  · subst h5
    go_enter Tryd.func50, Tryd.ntmps50
    go_wp2
    go_ret2
    exact ⟨rfl, rfl⟩
  · have HU : Hid (unOf l = none) := Lib.hid (by unfold unOf; rw [if_neg h1, if_neg h2, if_neg h3, if_neg h4, if_neg h5])
    have e1 : (l == [45]) = false := by simpa using h1
    have e2 : (l == [110, 111, 116]) = false := by simpa using h2
    have e3 : (l == [108, 101, 110]) = false := by simpa using h3
    have e4 : (l == [104, 100]) = false := by simpa using h4
    have e5 : (l == [116, 108]) = false := by simpa using h5
    clear h1 h2 h3 h4 h5
    go_enter Tryd.func50, Tryd.ntmps50
    go_wp2
    go_ret2
    rw [HU.out]
    exact ⟨rfl, rfl⟩
end Go.Proofs.YtdpfgfkoboihcaaDoor
