/-
  What the frames of layer 6's laws share: what the rows' condition says of the listed variables (the errors' type, the table of operators), and a world that meets it.
-/
import Derived.Test.YtdpfgfkoboihcaaDoorCards
import Derived.Test.YtdpfgfkoboihcaaDoorTie
import Derived.Test.YtdpfgfkoboihcaaDoorLxIs
import Derived.Test.YtdpfgfkoboihcaaDoorPsD
import Derived.ProofKit
import Derived.OpenShut
import Derived.ShutString
import Derived.ChangeOld
import Derived.Deep.DeepHandedRow
import Derived.LaidMore
import Derived.LaidHandle
import Derived.LaidSub
namespace Go.Proofs.YtdpfgfkoboihcaaDoor
open Go.ChangeShapes Go.WideShapes Go.ChangeAt Go.RowKit
set_option maxRecDepth 100000

theorem own : ownKnob Tryd.prog.godebug = none := by kernel_rfl
theorem laidOut : laidOutB Tryd.prog = true := by kernel_rfl
theorem errGlobal : Tryd.prog.globalNamed "errors.errorType" = some 0 := by kernel_rfl
theorem rtypeRow : (Tryd.prog.cutTypes.find? (·.1 == "internal/reflectlite.rtype")).map (·.2) = some 81 := by kernel_rfl
theorem errRow : ((List.range Tryd.prog.types.size).filter fun t => Tryd.prog.rowNamed t [101, 114, 114, 111, 114]) = [32] := by kernel_rfl
theorem gOps : (Tryd.prog.globalNamed "litmus/parse.operators").bind (fun g => (Tryd.prog.globals[g]?).map fun x => (Tryd.prog.underlying x.type, Tryd.prog.cellsOf x.type)) = some (some (.array 14 104), 70) := by kernel_rfl
theorem nOps : Tryd.prog.globalNamed "litmus/parse.operators" = some 1 := by kernel_rfl
theorem cells5Op : Tryd.prog.cellsOf 104 = 5 := by kernel_rfl
theorem cells1Int : Tryd.prog.cellsOf 3 = 1 := by kernel_rfl
theorem cells1Str : Tryd.prog.cellsOf 9 = 1 := by kernel_rfl
theorem cells1Kind : Tryd.prog.cellsOf 23 = 1 := by kernel_rfl
def opD (op : Bop) : DataW Unit := .agg [.lit (.string op.sign), .lit (.int .i64 (op.kind : Nat)), .lit (.int .i64 (op.level : Nat)), .lit (.int .i64 (op.left : Nat)), .lit (.int .i64 (op.right : Nat))]
theorem opsData : (Rows.laid_litmus_parse_operators : DataW Unit) = .agg (bops.map opD) := by rfl

theorem op_cells {enc : TypeId × Value → Unit} {w : World} {base : Nat} {sp : Nat → Bool} {held : Bool} {fuel : Nat} {cs : List Value} {y : DataW Unit × List MemPlace} {op : Bop}
    (h : DataW.trod enc Tryd.prog w base sp held fuel 104 cs = some y) (hy : y.1 = opD op) : cs = opC op := by
  obtain ⟨xs, n, rfl, rfl, hl, hx, hf⟩ := DataW.trod_struct Tryd.underlying104 h
  have h0 : DataW.trod enc Tryd.prog w base sp held n 9 ((cs.drop 0).take (Tryd.prog.cellsOf 9)) = xs[0]? := hf 0 _ rfl
  have h1 : DataW.trod enc Tryd.prog w base sp held n 23 ((cs.drop 1).take (Tryd.prog.cellsOf 23)) = xs[1]? := hf 1 _ rfl
  have h2 : DataW.trod enc Tryd.prog w base sp held n 3 ((cs.drop 2).take (Tryd.prog.cellsOf 3)) = xs[2]? := hf 2 _ rfl
  have h3 : DataW.trod enc Tryd.prog w base sp held n 3 ((cs.drop 3).take (Tryd.prog.cellsOf 3)) = xs[3]? := hf 3 _ rfl
  have h4 : DataW.trod enc Tryd.prog w base sp held n 3 ((cs.drop 4).take (Tryd.prog.cellsOf 3)) = xs[4]? := hf 4 _ rfl
  rw [cells5Op] at hl
  match xs, hx with
  | [a0, a1, a2, a3, a4], _ =>
    match cs, hl with
    | [c0, c1, c2, c3, c4], _ =>
      simp only [List.getElem?_cons_zero, List.getElem?_cons_succ] at h0 h1 h2 h3 h4
      simp only [opD, List.map_cons, List.map_nil, DataW.agg.injEq, List.cons.injEq, and_true] at hy
      obtain ⟨y0, y1, y2, y3, y4⟩ := hy
      obtain ⟨s0, e0, rfl, _⟩ := DataW.trod_string Tryd.underlying9 h0
      obtain ⟨s1, e1, rfl, _⟩ := DataW.trod_int Tryd.underlying23 h1
      obtain ⟨s2, e2, rfl, _⟩ := DataW.trod_int Tryd.underlying3 h2
      obtain ⟨s3, e3, rfl, _⟩ := DataW.trod_int Tryd.underlying3 h3
      obtain ⟨s4, e4, rfl, _⟩ := DataW.trod_int Tryd.underlying3 h4
      simp only [cells1Int, cells1Str, cells1Kind, List.drop_zero, List.take_succ_cons, List.take_zero, List.drop_succ_cons, List.cons.injEq, and_true] at e0 e1 e2 e3 e4
      simp only [DataW.lit.injEq, Lit.string.injEq, Lit.int.injEq, true_and] at y0 y1 y2 y3 y4
      subst e0 e1 e2 e3 e4
      rw [y1, y2, y3, y4]
      unfold opC
      rw [← y0]

theorem cells_of_ops {enc : TypeId × Value → Unit} {w : World} {base : Nat} {sp : Nat → Bool} {held : Bool} {fuel : Nat} {t : TypeId} {cs : List Value} {l : List Bop} {p : List MemPlace} {n : Nat}
    (ht : Tryd.prog.underlying t = some (.array n 104)) (hct : Tryd.prog.cellsOf t = n * 5)
    (h : DataW.trod enc Tryd.prog w base sp held fuel t cs = some (.agg (l.map opD), p)) : cs = l.flatMap opC := by
  obtain ⟨xs, m, rfl, he, hl, hx, hf⟩ := DataW.trod_array ht h
  rw [hct] at hl
  rw [cells5Op] at hf
  have hxs : l.map opD = xs.map (·.1) := by injection he with he _; injection he
  have hln : l.length = n := by have := congrArg List.length hxs; simp at this; omega
  clear h he hct ht
  clear hx
  induction l generalizing cs xs n with
  | nil => simp at hln; subst hln; simpa using hl
  | cons op l ih =>
    match xs, hxs with
    | a :: xs, hxs =>
      match n, hln with
      | n + 1, hln =>
        simp only [List.map_cons, List.cons.injEq] at hxs
        have h0 := hf 0 (by omega)
        simp only [Nat.zero_mul, List.drop_zero, List.getElem?_cons_zero] at h0
        have hc := op_cells h0 hxs.1.symm
        have := ih (cs := cs.drop 5) (xs := xs) (n := n) (by rw [List.length_drop, hl]; omega) (fun i hi => by
          have := hf (i + 1) (by omega)
          simp only [List.getElem?_cons_succ] at this
          rw [List.drop_drop, show 5 + i * 5 = (i + 1) * 5 by omega]; exact this) hxs.2 (by simpa using hln)
        rw [List.flatMap_cons, ← this, ← hc, List.take_append_drop]

theorem ops_of_laid {W : World} (h : laidMetH Tryd.prog Rows.parseDeepsRow.laid W) : OpsAt W := by
  have h1 : laidMet Tryd.prog [("litmus/parse.operators", Rows.laid_litmus_parse_operators)] W := (laidMetH_iff.1 h).1
  obtain ⟨_, ⟨g, t, cs, fuel, p, q, hg, ht, hvar, hd, _, _⟩, _⟩ := h1
  have e := gOps
  rw [hg, Option.bind_some] at e
  obtain ⟨x, hx, ex⟩ := Option.map_eq_some_iff.1 e
  rw [hx, Option.map_some] at ht
  injection ht with ht
  injection ex with e1 e2
  rw [ht] at e1 e2
  have hc := cells_of_ops e1 (by rw [e2]) (opsData ▸ hd)
  intro j v hv
  rw [World.var?_cell nOps hvar j]
  have : cs[j]? = cs.toList[j]? := by simp
  rw [this, hc]
  exact hv

theorem err_of_laid {W : World} (h : laidMetH Tryd.prog Rows.parseDeepsRow.laid W) : ErrType W := by
  have h' : handlesMet Tryd.prog [("errors.errorType", Rows.laid_errors_errorType)] W := (laidMetH_iff.1 h).2
  obtain ⟨name, u, ty, e1, e2, e3, e4, e5⟩ := h' _ (List.mem_singleton.2 rfl)
  have en : name = [101, 114, 114, 111, 114] := (Option.some.inj e1).symm
  subst en
  obtain rfl := Option.some.inj (rtypeRow.symm.trans e2)
  have hm : ty ∈ (List.range Tryd.prog.types.size).filter fun t => Tryd.prog.rowNamed t [101, 114, 114, 111, 114] := List.mem_filter.2 ⟨List.mem_range.2 e3, e4⟩
  rw [errRow] at hm
  obtain rfl := List.mem_singleton.1 hm
  have hh : typeHandle Tryd.prog 32 = .pointer (some ⟨Tryd.prog.globals.size, 32, none⟩) := by kernel_rfl
  rw [hh, gSize] at e5
  unfold ErrType
  simpa using World.var?_cell errGlobal e5 0

/-- A world that meets the condition: what the program's start leaves, the errors' type laid. -/
noncomputable def laidWorld (os : Os) : World :=
  let w0 := World.doorLaid Tryd.prog 4000 os
  { w0 with heap := w0.heap.modify 0 fun
      | .cells _ t frozen => .cells #[.iface 81 (.agg #[.pointer (some ⟨Tryd.prog.globals.size, 32, none⟩)])] t frozen
      | o => o }
theorem laid_met (os : Os) (args : Array Value) : laidMetH Tryd.prog Rows.parseDeepsRow.laid ((laidWorld os).forCall (fun _ _ => 0) ⟨#[], args, []⟩).memory :=
  laidMetH_of_parts (laidMet_of_run' 24 (by kernel_rfl) (by kernel_rfl)) (by kernel_rfl)
end Go.Proofs.YtdpfgfkoboihcaaDoor
