/-
  Joined: Frame, Tab.
-/
import Derived.Test.YtocadojeanhalaaGreatDoorCards
import Derived.Test.YtocadojeanhalaaGreatDoorTie
import Derived.Test.YtocadojeanhalaaGreatDoorKBase
import Derived.ProofKit
import Derived.OpenShut
import Derived.ShutString
import Derived.ChangeOld
import Derived.Deep.DeepHandedRow
import Derived.Lib.LaidTab
import Derived.LaidMore
import Derived.Lay
import Derived.Lib.ItoaNum
/- What the frames of all laws of this seat share: how the arguments are opened; that the program's own start lays the listed variables. -/
namespace Go.Proofs.YtocadojeanhalaaGreatDoor
open Go.ChangeShapes Go.WideShapes Go.ChangeAt Go.RowKit
set_option maxRecDepth 100000

theorem own : ownKnob Tryz.prog.godebug = none := by kernel_rfl
theorem laidOut : laidOutB Tryz.prog = true := by kernel_rfl

theorem sl_of_ints {w : World} {a : Addr} {len cap : Nat} {zs : List Int} (hl : len ≤ cap) (hm : cap ≤ maxLen) (hz : len ≤ zs.length)
    (hcell : ∀ i, i < zs.length → w.cell? (a.add i) = some (.int .u32 (zs.getD i 0))) (hwf : ∀ n ∈ zs, (Lit.int .u32 n).wf = true) :
    ∃ xs, Sl w .u32 (.slice (some a) len cap) xs ∧ Dig 4294967296 xs := by
  have hb : ∀ n ∈ zs, 0 ≤ n ∧ n < 4294967296 := fun n hn => by
    have := hwf n hn
    simp [Lit.wf, IntKind.min, IntKind.max, IntKind.bits, IntKind.signed] at this
    omega
  refine ⟨(zs.take len).map Int.toNat, ⟨some a, cap, ?_, ?_, by unfold maxLen at hm; omega, (fun e => by cases e), fun i hi => ⟨a, rfl, ?_⟩⟩, ?_⟩
  · rw [List.length_map, List.length_take, Nat.min_eq_left hz]
  · rw [List.length_map, List.length_take, Nat.min_eq_left hz]; exact hl
  · rw [List.length_map, List.length_take, Nat.min_eq_left hz] at hi
    have hi' : i < zs.length := by omega
    rw [hcell i hi']
    have := hb zs[i] (List.getElem_mem hi')
    unfold nth
    simp [List.getD, hi, hi']
    omega
  · intro x hx
    obtain ⟨n, hn, rfl⟩ := List.mem_map.1 hx
    have := hb n (List.mem_of_mem_take hn)
    omega

theorem open_limbs {H : Type} {enc : TypeId × Value → H} {W : World} {base : Nat} {r : Reach} {v : Value} {d : DataW H} {p : List MemPlace}
    (hv : Value.okWide Tryz.prog W r base 26 v) (h : DataW.Trod enc Tryz.prog W 0 (fun _ => true) true 26 v d p) : ∃ xs, Sl W .u32 v xs ∧ Dig 4294967296 xs := by
  obtain ⟨a0, len0, cap0, rfl⟩ := okWide_slice Tryz.underlying26 hv
  obtain ⟨fuel, hf⟩ := h
  rcases open_ints Tryz.underlying26 Tryz.underlying75 (by kernel_rfl) hf with ⟨hcs, _⟩ | ⟨x, l, c, zs, hcs, _, hl, hm, hz, _, hcell, hwz⟩
  · simp [Value.cells] at hcs
    obtain ⟨rfl, rfl, rfl⟩ := hcs
    exact ⟨[], Sl.nil _ _, fun x hx => by cases hx⟩
  · simp [Value.cells] at hcs
    obtain ⟨rfl, rfl, rfl⟩ := hcs
    exact sl_of_ints hl hm (by rw [hz]; split <;> omega) hcell hwz

theorem laid_met (os : Os) (args : Array Value) : laidMet Tryz.prog Rows.valueTextsRow.laid ((World.laidAll Tryz.prog os Rows.valueTextsRow.laid).forCall (fun _ _ => 0) ⟨#[], args, []⟩).memory :=
  laidMet_laidAll _ (by kernel_rfl) (by kernel_rfl)
end Go.Proofs.YtocadojeanhalaaGreatDoor

/- The table of powers of ten: what the rows' condition gives. -/
namespace Go.Proofs.YtocadojeanhalaaGreatDoor
open Go.ChangeShapes Go.WideShapes Go.ChangeAt Go.RowKit
set_option maxRecDepth 100000

theorem gPow : (Tryz.prog.globalNamed "internal/strconv.uint64pow10").bind (fun g => (Tryz.prog.globals[g]?).map fun x => (Tryz.prog.underlying x.type, Tryz.prog.cellsOf x.type)) = some (some (.array 20 60), 20) := by kernel_rfl
theorem cellsU64 : Tryz.prog.cellsOf 60 = 1 := by kernel_rfl
theorem powData : (Rows.laid_internal_strconv_uint64pow10 : DataW Unit) = Lib.tabData .u64 Lib.pow10Tab := rfl

theorem table {W : World} (h : laidMetH Tryz.prog Rows.valueTextsRow.laid W) : Lib.TabIs Tryz.prog W "internal/strconv.uint64pow10" .u64 Lib.pow10Tab := by
  have h' : laidMet Tryz.prog Rows.valueTextsRow.laid W := h
  obtain ⟨_, ⟨_, _, _, _, _, _, _, _, _, _, ⟨_, _, _, _, _, _, _, _, _, _, ⟨g, t, cs, fuel, p, q, hg, ht, hvar, hd, _, _⟩, _⟩, _⟩, _⟩ := h'
  have e := gPow
  rw [hg, Option.bind_some] at e
  obtain ⟨x, hx, ex⟩ := Option.map_eq_some_iff.1 e
  rw [hx, Option.map_some] at ht
  injection ht with ht
  injection ex with e1 e2
  rw [ht] at e1 e2
  unfold Lib.TabIs
  rw [hvar, ← Lib.cells_of_tab e1 Tryz.underlying60 cellsU64 e2 (powData ▸ hd)]
end Go.Proofs.YtocadojeanhalaaGreatDoor
