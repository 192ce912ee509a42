/-
  errors.Is at a place that holds a number, and a number; the law's Fault.
-/
import Derived.Test.YtdpfgfkoboihcaaDoorLxErr
namespace Go.Proofs.YtdpfgfkoboihcaaDoor
open Go.RowKit Go.Extern.Stop Go.Stop Go.Extern
set_option maxRecDepth 100000

theorem is_typeOf (v : Value) (w : World) : (Extern.ReflectliteType.typeOf #[.iface 36 v]).run Tryd.prog w = .ok (.iface 81 (.agg #[.pointer (some ⟨3, 36, none⟩)])) w := by kernel_rfl
/-- The model's entry for the type's method Comparable. -/
def cmpEntry : Array Value → Sem Value := Extern.ReflectliteType.method fun t => do Extern.Rtype.noPackHeld "Comparable" t; pure (.bool (← typeInfo t).comparable)
theorem is_comparable (w : World) : (cmpEntry #[.agg #[.pointer (some ⟨3, 36, none⟩)]]).run Tryd.prog w = .ok (.bool true) w := by kernel_rfl
theorem is_methodComparable (v : Value) (w : World) : (Go.method 262 81 v "Comparable").run Tryd.prog w = .ok (100, v) w := by kernel_rfl
theorem is_comp : (Tryd.prog.info? 36).map (·.comparable) = some true := by kernel_rfl
theorem is_noIsA (v : Value) (xT : TypeId) (w : World) : (Instr.typeAssert (.iface 45 v) xT 92 true).run Tryd.prog w = .ok (.tuple #[.nilIface, .bool false]) w := run_typeAssert_lacksB Tryd.underlying92 (by kernel_rfl) (by kernel_rfl) v xT w
theorem is_hasUnwrapA (v : Value) (xT : TypeId) (w : World) : (Instr.typeAssert (.iface 45 v) xT 88 true).run Tryd.prog w = .ok (.tuple #[.iface 45 v, .bool true]) w := run_typeAssert_hasB Tryd.underlying88 (by kernel_rfl) v xT w
theorem is_methodUnwrap (v : Value) (w : World) : (Go.method 262 45 v "Unwrap").run Tryd.prog w = .ok (94, v) w := by kernel_rfl
theorem is_noIsE (v : Value) (xT : TypeId) (w : World) : (Instr.typeAssert (.iface 36 v) xT 92 true).run Tryd.prog w = .ok (.tuple #[.nilIface, .bool false]) w := run_typeAssert_lacksB Tryd.underlying92 (by kernel_rfl) (by kernel_rfl) v xT w
theorem is_noUnwrapE (v : Value) (xT : TypeId) (w : World) : (Instr.typeAssert (.iface 36 v) xT 88 true).run Tryd.prog w = .ok (.tuple #[.nilIface, .bool false]) w := run_typeAssert_lacksB Tryd.underlying88 (by kernel_rfl) (by kernel_rfl) v xT w
theorem is_noUnwrapsE (v : Value) (xT : TypeId) (w : World) : (Instr.typeAssert (.iface 36 v) xT 89 true).run Tryd.prog w = .ok (.tuple #[.nilIface, .bool false]) w := run_typeAssert_lacksB Tryd.underlying89 (by kernel_rfl) (by kernel_rfl) v xT w

set_option maxHeartbeats 4000000 in
theorem is_yes (q : Nat) (p : Nat × Nat) (c k : Int) (w : World) (hA : AtB w q p (.iface 36 (.int .i64 c))) (hck : (c == k) = true) :
    Calls Tryd.prog 12 #[.iface 45 (.pointer (some ⟨q, 0, none⟩)), .iface 36 (.int .i64 k)] w fun e w' => e = .returned (.bool true) ∧ w' = w := by
  have h8 := @run_callFunc_extern Tryd.prog 21 _ Extern.ReflectliteType.typeOf Tryd.func21 (by kernel_rfl) (by kernel_rfl) (by kernel_rfl) (by kernel_rfl)
  have h32 := @run_callFunc_extern Tryd.prog 100 _ cmpEntry Tryd.func100 (by kernel_rfl) (by kernel_rfl) (by kernel_rfl) (by kernel_rfl)
  have tT := is_typeOf
  have cT := is_comparable
  have mR := is_methodComparable
  have nA := is_noIsA
  have uA := is_hasUnwrapA
  have mU := is_methodUnwrap
  have nE := is_noIsE
  have uE := is_noUnwrapE
  have vE := is_noUnwrapsE
  have heq := Lib.run_eql_iface_int (P := Tryd.prog) (k := .i64) w c k Tryd.underlying32 is_comp Tryd.underlying36
  rw [hck] at heq
  have hty := run_eql_iface_types (P := Tryd.prog) 45 36 (.pointer (some ⟨q, 0, none⟩)) (.int .i64 k) Tryd.underlying32 (by decide) w
  have c2 := cell_at hA 2 rfl
  clear hck
  go_enter Tryd.func12, Tryd.ntmps12
  go_wp2
  refine wp_loop_rounds 2 ?_
  rw [rounds_succ]
  go_wp2
  rw [rounds_succ]
  go_wp2
  go_ret
  exact ⟨rfl, rfl⟩
set_option maxHeartbeats 4000000 in
theorem is_no (q : Nat) (p : Nat × Nat) (c k : Int) (w : World) (hA : AtB w q p (.iface 36 (.int .i64 c))) (hck : (c == k) = false) :
    Calls Tryd.prog 12 #[.iface 45 (.pointer (some ⟨q, 0, none⟩)), .iface 36 (.int .i64 k)] w fun e w' => e = .returned (.bool false) ∧ w' = w := by
  have h8 := @run_callFunc_extern Tryd.prog 21 _ Extern.ReflectliteType.typeOf Tryd.func21 (by kernel_rfl) (by kernel_rfl) (by kernel_rfl) (by kernel_rfl)
  have h32 := @run_callFunc_extern Tryd.prog 100 _ cmpEntry Tryd.func100 (by kernel_rfl) (by kernel_rfl) (by kernel_rfl) (by kernel_rfl)
  have tT := is_typeOf
  have cT := is_comparable
  have mR := is_methodComparable
  have nA := is_noIsA
  have uA := is_hasUnwrapA
  have mU := is_methodUnwrap
  have nE := is_noIsE
  have uE := is_noUnwrapE
  have vE := is_noUnwrapsE
  have heq := Lib.run_eql_iface_int (P := Tryd.prog) (k := .i64) w c k Tryd.underlying32 is_comp Tryd.underlying36
  rw [hck] at heq
  have hty := run_eql_iface_types (P := Tryd.prog) 45 36 (.pointer (some ⟨q, 0, none⟩)) (.int .i64 k) Tryd.underlying32 (by decide) w
  have c2 := cell_at hA 2 rfl
  clear hck
  go_enter Tryd.func12, Tryd.ntmps12
  go_wp2
  refine wp_loop_rounds 2 ?_
  rw [rounds_succ]
  go_wp2
  rw [rounds_succ]
  go_wp2
  go_ret
  exact ⟨rfl, rfl⟩

/-- The variable that errors.As reads, as the rows' condition has it. -/
def ErrType (w : World) : Prop := w.cell? ⟨0, 0, none⟩ = some (.iface 81 (.agg #[.pointer (some ⟨3, 32, none⟩)]))
theorem ErrType.lt {w : World} (h : ErrType w) : 0 < w.heap.size := by
  rcases Nat.eq_zero_or_pos w.heap.size with h0 | h'
  · unfold ErrType at h; simp [World.cell?, h0] at h
  · exact h'
theorem ErrType.below {w w' : World} (h : ErrType w) (hb : Below w.heap.size w w') : ErrType w' := (hb.cell (p := ⟨0, 0, none⟩) h.lt).trans h
/-- errors.As at such an error: the variable behind the target holds the error. -/
theorem as_at (q t : Nat) (w : World) (hg : ErrType w) (ht : w.heap[t]? = some (.cells #[.pointer none] 45 (0, 0))) :
    Calls Tryd.prog 11 #[.iface 45 (.pointer (some ⟨q, 0, none⟩)), .iface 47 (.pointer (some ⟨t, 0, none⟩))] w fun e w' => e = .returned (.bool true) ∧ w'.heap[t]? = some (.cells #[.pointer (some ⟨q, 0, none⟩)] 45 (0, 0)) ∧ w.grownBy w' (some t) := by
  refine (as_hit ⟨q, 0, none⟩ ⟨t, 0, none⟩ (.pointer none) w hg (cell_at ht 0 rfl) (froz_at ht 0)).mono ?_
  rintro e w' ⟨rfl, rfl⟩
  have hlt := lt_of_block ht
  refine ⟨rfl, ?_, ?_⟩
  · rw [heap_setCell_same _ t 0 _ _ _ (by rw [Below.heap_alloc _ _ _ (by simp; omega), Below.heap_alloc _ _ _ (by simp; omega), Below.heap_alloc _ _ _ (by simp; omega), Below.heap_alloc _ _ _ hlt]; exact ht)]
    rfl
  · exact grown_tr (grown_tr (grown_tr (grown_tr (alloc_grown _ _ _) (alloc_grown _ _ _)) (alloc_grown _ _ _)) (alloc_grown _ _ _)) (grown_set _ t 0 _)

set_option maxHeartbeats 4000000 in
theorem fault_one (q : Nat) (p : Nat × Nat) (w : World) (hg : ErrType w) (hA : AtB w q p (.iface 36 (.int .i64 1))) :
    Calls Tryd.prog 7 #[.iface 45 (.pointer (some ⟨q, 0, none⟩))] w fun e w' => e = .returned (.tuple #[.int .i64 1, .int .i64 (p.1 : Nat), .int .i64 (p.2 : Nat)]) ∧ Below w.heap.size w w' := by
  have HG := Lib.hid hg
  have HA := Lib.hid hA
  clear hg hA
  go_enter Tryd.func7, Tryd.ntmps7
  go_wp2_with fail
  refine (as_at q w.heap.size _ (HG.out.below ((Below.refl _ _).alloc (Nat.le_refl _) _)) (made_at w _ _ rfl)).mono ?_
  rintro e w2 ⟨rfl, ht, hgr⟩
  have hA2 : AtB w2 q p (.iface 36 (.int .i64 1)) := by
    have h := HA.out
    have hq := lt_of_block h
    unfold AtB at h ⊢
    rw [hgr.block _ (by simp; omega) (fun e => by injection e with e; omega), Below.heap_alloc _ _ _ hq]; exact h
  have HB : Hid (Below w.heap.size w w2) := Lib.hid (((Below.refl _ _).alloc (Nat.le_refl _) _).trans (grown_below hgr (by simp) (Nat.le_refl _)))
  have t0 := cell_at ht 0 rfl
  have a0 := cell_at hA2 0 rfl
  have a1 := cell_at hA2 1 rfl
  have HA2 := Lib.hid hA2
  clear ht hgr hA2
  go_wp2_with fail
  refine wp_loop_rounds 1 ?_
  rw [rounds_succ]
  go_wp2_with fail
  refine (is_yes q p 1 1 w2 HA2.out rfl).mono ?_
  rintro e wx ⟨rfl, hx⟩
  obtain rfl := hx.symm
  clear hx
  go_wp2_with fail
  go_quiet (fail)
  go_wp2
  go_ret3
  exact ⟨rfl, HB.out.os, HB.out.tape, HB.out.output, HB.out.size, HB.out.block⟩
set_option maxHeartbeats 4000000 in
theorem fault_two (q : Nat) (p : Nat × Nat) (w : World) (hg : ErrType w) (hA : AtB w q p (.iface 36 (.int .i64 2))) :
    Calls Tryd.prog 7 #[.iface 45 (.pointer (some ⟨q, 0, none⟩))] w fun e w' => e = .returned (.tuple #[.int .i64 2, .int .i64 (p.1 : Nat), .int .i64 (p.2 : Nat)]) ∧ Below w.heap.size w w' := by
  have HG := Lib.hid hg
  have HA := Lib.hid hA
  clear hg hA
  go_enter Tryd.func7, Tryd.ntmps7
  go_wp2_with fail
  refine (as_at q w.heap.size _ (HG.out.below ((Below.refl _ _).alloc (Nat.le_refl _) _)) (made_at w _ _ rfl)).mono ?_
  rintro e w2 ⟨rfl, ht, hgr⟩
  have hA2 : AtB w2 q p (.iface 36 (.int .i64 2)) := by
    have h := HA.out
    have hq := lt_of_block h
    unfold AtB at h ⊢
    rw [hgr.block _ (by simp; omega) (fun e => by injection e with e; omega), Below.heap_alloc _ _ _ hq]; exact h
  have HB : Hid (Below w.heap.size w w2) := Lib.hid (((Below.refl _ _).alloc (Nat.le_refl _) _).trans (grown_below hgr (by simp) (Nat.le_refl _)))
  have t0 := cell_at ht 0 rfl
  have a0 := cell_at hA2 0 rfl
  have a1 := cell_at hA2 1 rfl
  have HA2 := Lib.hid hA2
  clear ht hgr hA2
  go_wp2_with fail
  refine wp_loop_rounds 2 ?_
  rw [rounds_succ]
  go_wp2_with fail
  refine (is_no q p 2 1 w2 HA2.out rfl).mono ?_
  rintro e wx ⟨rfl, hx⟩
  obtain rfl := hx.symm
  clear hx
  go_wp2_with fail
  rw [rounds_succ]
  go_wp2_with fail
  refine (is_yes q p 2 2 w2 HA2.out rfl).mono ?_
  rintro e wx ⟨rfl, hx⟩
  obtain rfl := hx.symm
  clear hx
  go_wp2_with fail
  go_quiet (fail)
  go_wp2
  go_ret3
  exact ⟨rfl, HB.out.os, HB.out.tape, HB.out.output, HB.out.size, HB.out.block⟩
/-- Fault at an error's place: its number, its line, its column. -/
theorem fault_at (q : Nat) (p : Nat × Nat) (c : Nat) (hc : c = 1 ∨ c = 2) (w : World) (hg : ErrType w) (hA : AtB w q p (.iface 36 (.int .i64 (c : Nat)))) :
    Calls Tryd.prog 7 #[.iface 45 (.pointer (some ⟨q, 0, none⟩))] w fun e w' => e = .returned (.tuple #[.int .i64 (c : Nat), .int .i64 (p.1 : Nat), .int .i64 (p.2 : Nat)]) ∧ Below w.heap.size w w' := by
  rcases hc with rfl | rfl
  · exact fault_one q p w hg hA
  · exact fault_two q p w hg hA
end Go.Proofs.YtdpfgfkoboihcaaDoor
