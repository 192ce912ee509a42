/-
  The tables of package tree, as the rows' condition lays them.
-/
import Derived.Test.YtcdacmbcecjliaaDoorTrC
import Derived.Lib.LaidTab
namespace Go.Proofs.YtcdacmbcecjliaaDoor
open Go.ChangeShapes Go.WideShapes Go.ChangeAt Go.RowKit
set_option linter.unusedVariables false
set_option maxRecDepth 100000

/-- An array of strings that reads as a list of them holds them. -/
theorem cells_of_strs {H : Type} {enc : TypeId × Value → H} {P : Program} {w : World} {base : Nat} {sp : Nat → Bool} {held : Bool} {fuel : Nat} {t e : TypeId} {n : Nat} {cs : List Value} {ss : List Bs} {p : List MemPlace}
    (ht : P.underlying t = some (.array n e)) (he : P.underlying e = some .string) (hce : P.cellsOf e = 1) (hct : P.cellsOf t = n)
    (h : DataW.trod enc P w base sp held fuel t cs = some (.agg (ss.map fun s => .lit (.string s)), p)) : cs = ss.map fun s => Value.string ⟨s.toArray⟩ := by
  cases fuel with
  | zero => simp [DataW.trod] at h
  | succ fuel =>
    simp only [DataW.trod, ht, hce, hct, Nat.mul_one] at h
    split at h
    · rename_i hl
      obtain ⟨xs, hm, hx⟩ := Option.map_eq_some_iff.1 h
      have hxs : xs.map (·.1) = ss.map fun s => (DataW.lit (.string s) : DataW H) := by
        have := congrArg Prod.fst hx
        simpa using this
      have hxl : xs.length = n := by simpa using Lib.mapM_length hm
      have hzl : ss.length = n := by
        have := congrArg List.length hxs
        simp at this
        omega
      apply List.ext_getElem?
      intro i
      by_cases hi : i < n
      · obtain ⟨b, hb, hf⟩ := Lib.mapM_at hm i i (by simp [hi])
        obtain ⟨z, hc, rfl, _⟩ := DataW.trod_string he hf
        have h1 : cs[i]? = some (.string z) := by
          have := congrArg (·[0]?) hc
          simpa [List.getElem?_take, List.getElem?_drop] using this
        have h2 : (xs.map (·.1))[i]? = some (DataW.lit (.string z.data.toList) : DataW H) := by simp [hb]
        rw [hxs] at h2
        simp only [List.getElem?_map, Option.map_eq_some_iff, DataW.lit.injEq, Lit.string.injEq] at h2
        obtain ⟨s, hs, hz⟩ := h2
        simp [h1, hs, hz]
      · rw [List.getElem?_eq_none (by omega), List.getElem?_eq_none (by simp; omega)]
    · cases h

theorem gArs : (Tryd.prog.globalNamed "litmus/tree.arities").bind (fun g => (Tryd.prog.globals[g]?).map fun x => (Tryd.prog.underlying x.type, Tryd.prog.cellsOf x.type)) = some (some (.array 29 3), 29) := by kernel_rfl
theorem gLvs : (Tryd.prog.globalNamed "litmus/tree.levels").bind (fun g => (Tryd.prog.globals[g]?).map fun x => (Tryd.prog.underlying x.type, Tryd.prog.cellsOf x.type)) = some (some (.array 29 3), 29) := by kernel_rfl
theorem gSgs : (Tryd.prog.globalNamed "litmus/tree.signs").bind (fun g => (Tryd.prog.globals[g]?).map fun x => (Tryd.prog.underlying x.type, Tryd.prog.cellsOf x.type)) = some (some (.array 24 9), 24) := by kernel_rfl
theorem nArs : Tryd.prog.globalNamed "litmus/tree.arities" = some 0 := by kernel_rfl
theorem nLvs : Tryd.prog.globalNamed "litmus/tree.levels" = some 1 := by kernel_rfl
theorem nSgs : Tryd.prog.globalNamed "litmus/tree.signs" = some 2 := by kernel_rfl
theorem cells1Int : Tryd.prog.cellsOf 3 = 1 := by kernel_rfl
theorem cells1Str : Tryd.prog.cellsOf 9 = 1 := by kernel_rfl
def arTab : List Int := (List.range 29).map arZ
def lvTab : List Int := (List.range 29).map fun i => (lv i : Int)
def sgTab : List Bs := (List.range 24).map sg5
theorem arData : (Rows.laid_litmus_tree_arities : DataW Unit) = Lib.tabData .i64 arTab := by rfl
theorem lvData : (Rows.laid_litmus_tree_levels : DataW Unit) = Lib.tabData .i64 lvTab := by rfl
theorem sgData : (Rows.laid_litmus_tree_signs : DataW Unit) = .agg (sgTab.map fun s => .lit (.string s)) := by rfl

theorem tabs {W : World} (h : laidMetH Tryd.prog Rows.treeCountsRow.laid W) : Tabs W := by
  have hp := table h
  have h' : laidMet Tryd.prog Rows.treeCountsRow.laid W := h
  obtain ⟨_, ⟨_, _, _, _, _, _, _, _, _, _, ⟨_, _, _, _, _, _, _, _, _, _, ⟨_, _, _, _, _, _, _, _, _, _, ⟨g, t, cs, fuel, p, q, hg, ht, hvar, hd, ⟨g1, t1, cs1, fuel1, p1, q1, hg1, ht1, hvar1, hd1, ⟨g2, t2, cs2, fuel2, p2, q2, hg2, ht2, hvar2, hd2, _, _⟩, _⟩, _⟩, _⟩, _⟩, _⟩, _⟩ := h'
  refine ⟨hp, fun i hi => ?_, fun i hi => ?_, fun i hi => ?_⟩
  · have e := gArs
    rw [hg, Option.bind_some] at e
    obtain ⟨x, hx, ex⟩ := Option.map_eq_some_iff.1 e
    rw [hx, Option.map_some] at ht
    injection ht with ht
    injection ex with e1 e2
    rw [ht] at e1 e2
    have hc := Lib.cells_of_tab e1 Tryd.underlying3 cells1Int e2 (arData ▸ hd)
    rw [World.var?_cell nArs hvar i]
    have : cs[i]? = cs.toList[i]? := by simp
    rw [this, hc]
    unfold arTab
    simp [hi]
  · have e := gLvs
    rw [hg1, Option.bind_some] at e
    obtain ⟨x, hx, ex⟩ := Option.map_eq_some_iff.1 e
    rw [hx, Option.map_some] at ht1
    injection ht1 with ht1
    injection ex with e1 e2
    rw [ht1] at e1 e2
    have hc := Lib.cells_of_tab e1 Tryd.underlying3 cells1Int e2 (lvData ▸ hd1)
    rw [World.var?_cell nLvs hvar1 i]
    have : cs1[i]? = cs1.toList[i]? := by simp
    rw [this, hc]
    unfold lvTab
    simp [hi]
  · have e := gSgs
    rw [hg2, Option.bind_some] at e
    obtain ⟨x, hx, ex⟩ := Option.map_eq_some_iff.1 e
    rw [hx, Option.map_some] at ht2
    injection ht2 with ht2
    injection ex with e1 e2
    rw [ht2] at e1 e2
    have hc := cells_of_strs e1 Tryd.underlying9 cells1Str e2 (sgData ▸ hd2)
    rw [World.var?_cell nSgs hvar2 i]
    have : cs2[i]? = cs2.toList[i]? := by simp
    rw [this, hc]
    unfold sgTab
    simp [hi]
end Go.Proofs.YtcdacmbcecjliaaDoor
