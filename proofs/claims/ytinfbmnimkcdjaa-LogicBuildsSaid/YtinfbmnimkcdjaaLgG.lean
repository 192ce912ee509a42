/-
  Bindings in memory; what slices.Backward gives of them.
-/
import Derived.Test.YtinfbmnimkcdjaaLgF
import Derived.RangeFuncNested
import Derived.RangeFuncBound
import Derived.RangeFuncCalls
import Derived.RangeFuncLeaves
import Derived.OrdersIn
import Derived.Shelf.Abstract
import Derived.Shelf.RegionOpen
import Derived.WalkKit
import Derived.OwnWalkIn
import Derived.TacticsInMore
import Derived.LoopNIn
import Derived.LoopIn
namespace Go.Proofs.Ytinfbmnimkcdjaa
open Go.RowKit Go.Shelf
set_option maxRecDepth 100000
set_option linter.unusedVariables false
set_option linter.unusedSimpArgs false
attribute [local go_sem] Oper.semAt_some

theorem infoBind : (Try.prog.info? 61).map (fun i => (i.zero, i.size, i.bytes)) = some (some (.agg #[.string ⟨#[]⟩, .int .i64 0, .bool false, .slice none 0 0, .bool false, .slice none 0 0]), 6, 88) := by kernel_rfl
/-- A binding. -/
structure BU where
  nm : ByteArray
  u : VU
def bC (b : BU) : List Value := .string b.nm :: vC b.u
def bV (b : BU) : Value := .agg #[.string b.nm, .int .i64 b.u.k, .bool (decide (b.u.n.z < 0)), .slice b.u.n.o b.u.n.l b.u.n.c, .bool b.u.b, .slice b.u.lo b.u.ll b.u.lc]
/-- Bindings in a list. -/
def bE : El BU where
  e := 61
  t := 34
  n := 6
  b := 88
  z := .agg #[.string ⟨#[]⟩, .int .i64 0, .bool false, .slice none 0 0, .bool false, .slice none 0 0]
  f := bC
  R w b := VR w b.u
  ok e' := 26 ≠ e'
  pos := by decide
  by_ := by decide
  zs := rfl
  z32 := by intro u hu z; simp only [Value.cells, List.mem_cons, List.not_mem_nil, or_false] at hu; rcases hu with rfl | rfl | rfl | rfl | rfl | rfl <;> (intro h; cases h)
  ht := Try.underlying34
  info := infoBind
  len _ := rfl
  one n := by
    intro u hu
    simp only [bC, vC, List.mem_cons, List.not_mem_nil, or_false] at hu
    rcases hu with rfl | rfl | rfl | rfl | rfl | rfl <;> rfl
  n32 n := by
    intro u hu z
    simp only [bC, vC, List.mem_cons, List.not_mem_nil, or_false] at hu
    rcases hu with rfl | rfl | rfl | rfl | rfl | rfl <;> (intro h; cases h)
  fr ok f h := VR.fr h ok f
  own := by decide
def envOf (us : List BU) : List (ByteArray × V) := us.map fun b => (b.nm, b.u.x)
/-- Bindings at rest. -/
def EL (w : World) (v : Value) (env : List (ByteArray × V)) : Prop := ∃ us, bE.At w v us ∧ envOf us = env
theorem EL.below {w w' : World} {v : Value} {env : List (ByteArray × V)} (h : EL w v env) (hb : Below w.heap.size w w') : EL w' v env := by
  obtain ⟨us, h1, h2⟩ := h
  exact ⟨us, h1.below hb, h2⟩
/-- A binding's cells, as the walk meets them. -/
theorem bAt_cells {w : World} {v : Value} {us : List BU} (h : bE.At w v us) : ∃ ko kc, v = .slice ko us.length kc ∧ us.length ≤ kc ∧ kc ≤ maxLen ∧ ∀ i (hi : i < us.length), ∃ a, ko = some a ∧
    w.cell? (a.add (i * 6)) = some (.string us[i].nm) ∧ w.cell? ⟨(a.add (i * 6)).block, (a.add (i * 6)).off + 1, none⟩ = some (.int .i64 us[i].u.k) ∧ w.cell? ⟨(a.add (i * 6)).block, (a.add (i * 6)).off + 2, none⟩ = some (.bool (decide (us[i].u.n.z < 0))) ∧
    w.cell? ⟨(a.add (i * 6)).block, (a.add (i * 6)).off + 3, none⟩ = some (.slice us[i].u.n.o us[i].u.n.l us[i].u.n.c) ∧ w.cell? ⟨(a.add (i * 6)).block, (a.add (i * 6)).off + 4, none⟩ = some (.bool us[i].u.b) ∧ w.cell? ⟨(a.add (i * 6)).block, (a.add (i * 6)).off + 5, none⟩ = some (.slice us[i].u.lo us[i].u.ll us[i].u.lc) ∧ VR w us[i].u := by
  obtain ⟨ko, kc, rfl, ⟨h1, h2, h3⟩, h4⟩ := h
  refine ⟨ko, kc, rfl, h1, h2, fun i hi => ?_⟩
  obtain ⟨a, ha, -, h5, h6⟩ := h4 i hi
  have g : ∀ j q, (bC us[i])[j]? = some q → w.cell? ((a.add (i * 6)).add j) = some q := fun j q hj => by rw [add_addV]; exact h5 j q hj
  exact ⟨a, ha, g 0 _ rfl, g 1 _ rfl, g 2 _ rfl, g 3 _ rfl, g 4 _ rfl, g 5 _ rfl, h6⟩
theorem any_depthL {F : Fence} (hd : F.depth = none) {m : Nat} (m' : Nat) {P : Program} {l : Nat} {args : Array Value} {W : World} {R : Ending → World → Prop} (h : YieldAt F m P l args W R) : YieldAt F m' P l args W R := by
  obtain ⟨fn, tmps, assign, body, hy, hR⟩ := h
  exact ⟨fn, tmps, assign, body, hy, ⟨hR.1, fun c cs _ => hR.2 c cs (fun d h => by rw [hd] at h; cases h)⟩⟩
/-- What is yielded: an index and its binding. -/
abbrev YI := Nat × BU
def yI (x : YI) : Array Value := #[.int .i64 (x.1 : Nat), bV x.2]
theorem drop_rev {α : Type} (l : List α) (k : Nat) (h : k < l.length) : (l.drop k).reverse = (l.drop (k + 1)).reverse ++ [l[k]] := by
  rw [List.drop_eq_getElem_cons h, List.reverse_cons]
set_option maxHeartbeats 4000000 in
theorem back_stops (F : Fence) (hd : F.depth = none) (hF : ∀ f, F.fn f) (hro : F.round = none) (n Bt : Nat) (ve : Value) (us : List BU) (w : World) (hB : w.heap[Bt]? = some (.cells #[ve] 74 (0, 0))) (hu : bE.At w ve us) :
    SeqStopsK F n Try.prog 92 #[.pointer (some ⟨Bt, 0, none⟩)] yI (Below w.heap.size) (fun xs => xs.map (·.2) = us.reverse) (fun pre => ∃ k, pre.map (·.2) = (us.drop k).reverse ∧ k ≤ us.length) us.length w := by
  intro l J Jx W hW hJ hJx hY h0
  obtain ⟨ko, kc, rfl, hk1, hk2, hk3⟩ := bAt_cells hu
  have hkc : kc ≤ 9223372036854775807 := hk2
  have hB2 : W.heap[Bt]? = some (.cells #[.slice ko us.length kc] 74 (0, 0)) := (hW.block _ (lt_of_block hB)).trans hB
  have HB := Lib.hid hB
  have HU := Lib.hid hu
  have HW := Lib.hid hW
  have HY := Lib.hid hY
  have c0 := cell_at (v := .slice ko us.length kc) hB2 0 rfl
  obtain ⟨N, hN⟩ : ∃ N, N = us.length := ⟨_, rfl⟩
  have HN := Lib.hid hN
  rw [← hN] at c0 hk1 HB HU HY ⊢
  have J0 := Lib.hid h0
  clear hW hJ hJx hY h0 hu hB hB2 hk3 hk2 hN
  refine callsIn_of_wp Try.func92 rfl (hF _) ?_ hro
  simp only [Try.ntmps92, List.size_toArray, List.length_cons, List.length_nil, Nat.reduceAdd, Nat.reduceSub, Array.replicate_succ, Array.replicate_zero, List.push_toArray, List.append_toArray, List.nil_append, List.cons_append]
  gi_wp2_with fail
  gi_loopw [3] (fun p wr => ∃ (j : Nat) (pre : List YI), p = .int .i64 ((j : Int) - 1) ∧ j ≤ N ∧ Hid (pre.map (·.2) = (us.drop j).reverse) ∧ Hid (pre.length + j = N) ∧ Hid (J pre wr) ∧ Hid (Below w.heap.size w wr)) (fun p _ => (intOf p + 1).toNat)
  case atStart => exact ⟨N, [], rfl, Nat.le_refl _, Lib.hid (by rw [HN.out, List.drop_length]; rfl), Lib.hid (by simp), J0, HW⟩
  case round =>
    obtain ⟨wl, hwl⟩ : ∃ q, q = wr := ⟨_, rfl⟩
    subst hwl
    clear c0
    obtain ⟨j, pre, rfl, hj, HP, HL, HJ, HBW⟩ := hrel
    have hBl : wl.heap[Bt]? = some (.cells #[.slice ko N kc] 74 (0, 0)) := (HBW.out.block _ (lt_of_block HB.out)).trans HB.out
    have c0 := cell_at (v := .slice ko N kc) hBl 0 rfl
    clear hBl
    cases j with
    | zero =>
      rw [show ((0 : Nat) : Int) - 1 = -1 by decide]
      gi_wp2_with fail
      go_end0
      exact ⟨⟨_, rfl⟩, .inl ⟨pre, by rw [HP.out, List.drop_zero], HJ.out⟩⟩
    | succ k =>
      rw [show ((k + 1 : Nat) : Int) - 1 = ((k : Nat) : Int) by omega]
      have hkn : k < us.length := by have := HN.out; omega
      obtain ⟨ko', kc', e, -, -, hcs⟩ := bAt_cells (HU.out.below HBW.out)
      injection e with e1 e2 e3
      subst e1
      obtain ⟨a, rfl, d0, d1, d2, d3, d4, d5, -⟩ := hcs k hkn
      obtain ⟨y, hyy⟩ : ∃ y, y = us[k] := ⟨_, rfl⟩
      rw [← hyy] at d0 d1 d2 d3 d4 d5
      have HYK := Lib.hid hyy
      have hlen1 : pre.length < N := by have := HL.out; omega
      obtain ⟨fn, tmps, assign, body, hy, hR⟩ := HY.out pre (k, y) wl HJ.out hlen1
      simp only [yI, bV] at hy
      clear hcs e2 e3 hyy hlen1
      gi_wp2_with fail
      refine hR.mono ?_
      clear hR hy c0 d0 d1 d2 d3 d4 d5
      rintro e W2 (⟨rfl, hJ2, hk2⟩ | ⟨rfl, hx2⟩)
      · have HJ2 := Lib.hid hJ2
        replace HBW := Lib.hid (HBW.out.trans hk2)
        clear hJ2 hk2
        gi_wp2_with fail
        go_roundw
        case rel => exact ⟨k, pre ++ [(k, y)], rfl, by omega, Lib.hid (by rw [drop_rev us k hkn, List.map_append, HP.out, HYK.out]; rfl), Lib.hid (by have := HL.out; simp only [List.length_append, List.length_cons, List.length_nil]; omega), HJ2, HBW⟩
        case measure => simp [intOf]
      · have HX2 := Lib.hid hx2
        clear hx2
        gi_wp2_with fail
        (try simp only [Exit.inBlock, Exit.then])
        refine bodyPost_ret (results_none rfl _ _ _) rfl ?_
        exact ⟨⟨_, rfl⟩, .inr ⟨_, ⟨k, by rw [drop_rev us k hkn, List.map_append, HP.out, HYK.out]; rfl, by omega⟩, HX2.out⟩⟩
theorem back_p (ko : Option Addr) (n kc : Nat) (w : World) : Calls Try.prog 87 #[.slice ko n kc] w fun e w' => e = .returned (.func (.func 92) #[] #[.pointer (some ⟨w.heap.size, 0, none⟩)]) ∧ w' = w.alloc (.cells #[.slice ko n kc] 74) := by
  go_enter Try.func87, Try.ntmps87
  go_wp2_with fail
  go_ret
  exact ⟨rfl, rfl⟩
end Go.Proofs.Ytinfbmnimkcdjaa
