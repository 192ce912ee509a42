/-
  How an argument that is a list of values is opened.
-/
import Derived.Test.YtocadojeanhalaaGreatDoorVlG
import Derived.Test.YtocadojeanhalaaGreatDoorKTab
import Derived.Deep.Slices
import Derived.Lib.LaidTab
import Derived.LaidMore
namespace Go.Proofs.YtocadojeanhalaaGreatDoor
open Go.ChangeShapes Go.WideShapes Go.ChangeAt Go.RowKit
set_option linter.unusedVariables false
set_option maxRecDepth 100000

theorem cellsVal : Tryz.prog.cellsOf 32 = 5 := by kernel_rfl
theorem cellsBaseV : Tryz.prog.cellsOf 25 = 1 := by kernel_rfl
theorem cellsIntV : Tryz.prog.cellsOf 29 = 2 := by kernel_rfl
theorem cellsIntsV : Tryz.prog.cellsOf 30 = 1 := by kernel_rfl
theorem cellsBoolV : Tryz.prog.cellsOf 4 = 1 := by kernel_rfl
theorem cellsNatV : Tryz.prog.cellsOf 27 = 1 := by kernel_rfl

theorem limb_openV {H : Type} {enc : TypeId × Value → H} {W : World} {fuel : Nat} {c : Value} {y : DataW H × List MemPlace}
    (h : DataW.trod enc Tryz.prog W 0 (fun _ => true) true fuel 27 [c] = some y) : ∃ ao n q, c = .slice ao n q ∧ RNum W (.slice ao n q) := by
  rcases open_ints Tryz.underlying27 Tryz.underlying75 (by kernel_rfl) h with ⟨hcs, _⟩ | ⟨x, l, c', zs, hcs, _, hl, hm, hz, _, hcell, hwz⟩
  · simp at hcs
    subst hcs
    exact ⟨none, 0, 0, rfl, [], Sl.nil _ _, fun x hx => by cases hx⟩
  · simp at hcs
    subst hcs
    obtain ⟨xs, hs, hd⟩ := sl_of_ints hl hm (by rw [hz]; split <;> omega) hcell hwz
    exact ⟨_, _, _, rfl, xs, hs, hd⟩
theorem int_rangeV {z : Int} (h : (Lit.int .i64 z).wf = true) : -9223372036854775808 ≤ z ∧ z ≤ 9223372036854775807 := by
  simp [Lit.wf, IntKind.min, IntKind.max, IntKind.bits, IntKind.signed] at h
  omega
theorem int_openV {H : Type} {enc : TypeId × Value → H} {W : World} {fuel : Nat} {cs : List Value} {y : DataW H × List MemPlace} (h : DataW.trod enc Tryz.prog W 0 (fun _ => true) true fuel 29 cs = some y) :
    ∃ b o l c, cs = [.bool b, .slice o l c] ∧ RNum W (.slice o l c) := by
  obtain ⟨xs, m, -, -, hl2, hyl2, hf2⟩ := DataW.trod_struct Tryz.underlying29 h
  rw [cellsIntV] at hl2
  match cs, hl2 with
  | [c0, c1], _ =>
    match xs, hyl2 with
    | [u0, u1], _ =>
      have q0 := hf2 0 _ rfl
      have q1 := hf2 1 _ rfl
      simp [cellsBoolV] at q0
      simp [cellsNatV] at q1
      obtain ⟨b, eb, -⟩ := DataW.trod_bool Tryz.underlying4 q0
      obtain ⟨ao, ln, lc, rfl, hs⟩ := limb_openV q1
      simp at eb
      subst eb
      exact ⟨_, _, _, _, rfl, hs⟩
theorem ints_openV {H : Type} {enc : TypeId × Value → H} {W : World} {fuel : Nat} {c : Value} {y : DataW H × List MemPlace}
    (h : DataW.trod enc Tryz.prog W 0 (fun _ => true) true fuel 30 [c] = some y) : ∃ o n q, c = .slice o n q ∧ RInts W o n q := by
  rcases Go.Deep.open_slice Tryz.underlying30 h with ⟨hcs, -⟩ | ⟨a, len, cap, mm, n', D, Pl, hcs, -, hle, hm, hmm, -, hi⟩
  · simp at hcs
    subst hcs
    exact ⟨none, 0, 0, rfl, ⟨Nat.le_refl _, Nat.zero_le _⟩, fun i hi => absurd hi (Nat.not_lt_zero _)⟩
  · simp at hcs
    subst hcs
    refine ⟨_, _, _, rfl, ⟨hle, hm⟩, fun i hilt => ?_⟩
    obtain ⟨cs', hc, ht'⟩ := hi i (by simp only [if_true] at hmm; omega)
    rw [cellsIntV] at hc
    obtain ⟨_, hcl, hat⟩ := World.cells?_some hc
    obtain ⟨b, o, l, c, rfl, hr⟩ := int_openV ht'
    exact ⟨a, b, o, l, c, rfl, (hat 0 (by decide)), (hat 1 (by decide)), hr⟩
theorem val_openV {H : Type} {enc : TypeId × Value → H} {W : World} {fuel : Nat} {cs : List Value} {y : DataW H × List MemPlace} (h : DataW.trod enc Tryz.prog W 0 (fun _ => true) true fuel 32 cs = some y) :
    ∃ k b o l c d p m q, cs = [.int .i64 k, .bool b, .slice o l c, .bool d, .slice p m q] ∧ (-9223372036854775808 ≤ k ∧ k ≤ 9223372036854775807) ∧ RNum W (.slice o l c) ∧ RInts W p m q := by
  obtain ⟨ys, n, -, -, hlen, hyl, hf⟩ := DataW.trod_struct Tryz.underlying32 h
  rw [cellsVal] at hlen
  match cs, hlen with
  | [c0, c1, c2, c3, c4], _ =>
    match ys, hyl with
    | [y0, y1, y2, y3], _ =>
      have g0 := hf 0 _ rfl
      have g1 := hf 1 _ rfl
      have g2 := hf 2 _ rfl
      have g3 := hf 3 _ rfl
      simp [cellsBaseV] at g0
      simp [cellsIntV] at g1
      simp [cellsBoolV] at g2
      simp [cellsIntsV] at g3
      obtain ⟨k, e0, -, w0⟩ := DataW.trod_int Tryz.underlying25 g0
      obtain ⟨b, o, l, c, e1, hn⟩ := int_openV g1
      obtain ⟨d, e2, -⟩ := DataW.trod_bool Tryz.underlying4 g2
      obtain ⟨p, m, q, e3, hi⟩ := ints_openV g3
      simp at e0 e1 e2
      obtain ⟨e1a, e1b⟩ := e1
      subst e0 e1a e1b e2 e3
      exact ⟨_, _, _, _, _, _, _, _, _, rfl, int_rangeV w0, hn, hi⟩
theorem open_vals {H : Type} {enc : TypeId × Value → H} {W : World} {base : Nat} {r : Reach} {v : Value} {d : DataW H} {p : List MemPlace}
    (hv : Value.okWide Tryz.prog W r base 22 v) (h : DataW.Trod enc Tryz.prog W 0 (fun _ => true) true 22 v d p) : ∃ ko n kc, v = .slice ko n kc ∧ RVals W ko n kc := by
  obtain ⟨a0, len0, cap0, rfl⟩ := okWide_slice Tryz.underlying22 hv
  obtain ⟨fuel, hf⟩ := h
  refine ⟨_, _, _, rfl, ?_⟩
  rcases Go.Deep.open_slice Tryz.underlying22 hf with ⟨hcs, -⟩ | ⟨a, len, cap, mm, n', D, Pl, hcs, -, hle, hm, hmm, -, hi⟩
  · simp [Value.cells] at hcs
    obtain ⟨rfl, rfl, rfl⟩ := hcs
    exact ⟨⟨Nat.le_refl _, Nat.zero_le _⟩, fun i hi => absurd hi (Nat.not_lt_zero _)⟩
  · simp [Value.cells] at hcs
    obtain ⟨rfl, rfl, rfl⟩ := hcs
    refine ⟨⟨hle, hm⟩, fun i hilt => ?_⟩
    obtain ⟨cs', hc, ht'⟩ := hi i (by simp only [if_true] at hmm; omega)
    rw [cellsVal] at hc
    obtain ⟨_, hcl, hat⟩ := World.cells?_some hc
    obtain ⟨k, b, o, l, c, d, p, m, q, rfl, h1, h2, h3⟩ := val_openV ht'
    exact ⟨a, k, b, o, l, c, d, p, m, q, rfl, ⟨hat 0 (by decide), hat 1 (by decide), hat 2 (by decide), hat 3 (by decide), hat 4 (by decide)⟩, h1, h2, h3⟩
end Go.Proofs.YtocadojeanhalaaGreatDoor
