/-
  Joined: Frame, Tab.
-/
import Derived.Test.YtocadojeanhalaaDoorCards
import Derived.Test.YtocadojeanhalaaDoorTie
import Derived.Test.YtocadojeanhalaaDoorKBase
import Derived.ProofKit
import Derived.OpenShut
import Derived.ShutString
import Derived.ChangeOld
import Derived.Deep.DeepHandedRow
import Derived.Lib.LaidTab
import Derived.LaidMore
import Derived.Lib.ItoaNum
/- What the frames of all laws of this seat share: how the arguments are opened; that the program's own start lays the listed variables. -/
namespace Go.Proofs.YtocadojeanhalaaDoor
open Go.ChangeShapes Go.WideShapes Go.ChangeAt Go.RowKit
set_option maxRecDepth 100000

theorem own : ownKnob Tryd.prog.godebug = none := by kernel_rfl
theorem laidOut : laidOutB Tryd.prog = true := by kernel_rfl

theorem sl_of_ints {w : World} {a : Addr} {len cap : Nat} {zs : List Int} (hl : len ≤ cap) (hm : cap ≤ maxLen) (hz : len ≤ zs.length)
    (hcell : ∀ i, i < zs.length → w.cell? (a.add i) = some (.int .u32 (zs.getD i 0))) (hwf : ∀ n ∈ zs, (Lit.int .u32 n).wf = true) :
    ∃ xs, Sl w .u32 (.slice (some a) len cap) xs ∧ Dig 4294967296 xs := by
  have hb : ∀ n ∈ zs, 0 ≤ n ∧ n < 4294967296 := fun n hn => by
    have := hwf n hn
    simp [Lit.wf, IntKind.min, IntKind.max, IntKind.bits, IntKind.signed] at this
    omega
  refine ⟨(zs.take len).map Int.toNat, ⟨some a, cap, ?_, ?_, by unfold maxLen at hm; omega, (fun e => by cases e), fun i hi => ⟨a, rfl, ?_⟩⟩, ?_⟩
  · rw [List.length_map, List.length_take, Nat.min_eq_left hz]
  · rw [List.length_map, List.length_take, Nat.min_eq_left hz]; exact hl
  · rw [List.length_map, List.length_take, Nat.min_eq_left hz] at hi
    have hi' : i < zs.length := by omega
    rw [hcell i hi']
    have := hb zs[i] (List.getElem_mem hi')
    unfold nth
    simp [List.getD, hi, hi']
    omega
  · intro x hx
    obtain ⟨n, hn, rfl⟩ := List.mem_map.1 hx
    have := hb n (List.mem_of_mem_take hn)
    omega

theorem open_limbs {H : Type} {enc : TypeId × Value → H} {W : World} {base : Nat} {r : Reach} {v : Value} {d : DataW H} {p : List MemPlace}
    (hv : Value.okWide Tryd.prog W r base 24 v) (h : DataW.Trod enc Tryd.prog W 0 (fun _ => true) true 24 v d p) : ∃ xs, Sl W .u32 v xs ∧ Dig 4294967296 xs := by
  obtain ⟨a0, len0, cap0, rfl⟩ := okWide_slice Tryd.underlying24 hv
  obtain ⟨fuel, hf⟩ := h
  rcases open_ints Tryd.underlying24 Tryd.underlying74 (by kernel_rfl) hf with ⟨hcs, _⟩ | ⟨x, l, c, zs, hcs, _, hl, hm, hz, _, hcell, hwz⟩
  · simp [Value.cells] at hcs
    obtain ⟨rfl, rfl, rfl⟩ := hcs
    exact ⟨[], Sl.nil _ _, fun x hx => by cases hx⟩
  · simp [Value.cells] at hcs
    obtain ⟨rfl, rfl, rfl⟩ := hcs
    exact sl_of_ints hl hm (by rw [hz]; split <;> omega) hcell hwz

theorem laid_met (os : Os) (args : Array Value) : laidMet Tryd.prog Rows.valueSamesRow.laid ((World.doorLaid Tryd.prog 400 os).forCall (fun _ _ => 0) ⟨#[], args, []⟩).memory :=
  laidMet_of_run' 24 (by kernel_rfl) (by kernel_rfl)
end Go.Proofs.YtocadojeanhalaaDoor

/- The table of powers of ten: what the rows' condition gives. -/
namespace Go.Proofs.YtocadojeanhalaaDoor
open Go.ChangeShapes Go.WideShapes Go.ChangeAt Go.RowKit
set_option maxRecDepth 100000

theorem gPow : (Tryd.prog.globalNamed "internal/strconv.uint64pow10").bind (fun g => (Tryd.prog.globals[g]?).map fun x => (Tryd.prog.underlying x.type, Tryd.prog.cellsOf x.type)) = some (some (.array 20 65), 20) := by kernel_rfl
theorem cellsU64 : Tryd.prog.cellsOf 65 = 1 := by kernel_rfl
theorem powData : (Rows.laid_internal_strconv_uint64pow10 : DataW Unit) = Lib.tabData .u64 Lib.pow10Tab := rfl

theorem table {W : World} (h : laidMetH Tryd.prog Rows.valueSamesRow.laid W) : Lib.TabIs Tryd.prog W "internal/strconv.uint64pow10" .u64 Lib.pow10Tab := by
  have h' : laidMet Tryd.prog Rows.valueSamesRow.laid W := h
  obtain ⟨_, ⟨_, _, _, _, _, _, _, _, _, _, ⟨_, _, _, _, _, _, _, _, _, _, ⟨g, t, cs, fuel, p, q, hg, ht, hvar, hd, _, _⟩, _⟩, _⟩, _⟩ := h'
  have e := gPow
  rw [hg, Option.bind_some] at e
  obtain ⟨x, hx, ex⟩ := Option.map_eq_some_iff.1 e
  rw [hx, Option.map_some] at ht
  injection ht with ht
  injection ex with e1 e2
  rw [ht] at e1 e2
  unfold Lib.TabIs
  rw [hvar, ← Lib.cells_of_tab e1 Tryd.underlying65 cellsU64 e2 (powData ▸ hd)]
end Go.Proofs.YtocadojeanhalaaDoor
