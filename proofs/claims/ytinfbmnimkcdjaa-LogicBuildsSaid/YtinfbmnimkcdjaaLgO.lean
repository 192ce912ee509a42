/-
  How arguments are opened, in a seat whose rows list no variables.
-/
import Derived.Test.YtinfbmnimkcdjaaRows
import Derived.Test.YtinfbmnimkcdjaaVlG
import Derived.ProofKit
import Derived.OpenShut
import Derived.ShutString
import Derived.ChangeOld
import Derived.Deep.DeepHandedRow
import Derived.LaidMore
import Derived.Deep.Slices
namespace Go.Proofs.Ytinfbmnimkcdjaa
open Go.ChangeShapes Go.WideShapes Go.ChangeAt Go.RowKit
set_option linter.unusedVariables false
set_option maxRecDepth 100000
theorem own : ownKnob Try.prog.godebug = none := by kernel_rfl
theorem laidOut : laidOutB Try.prog = true := by kernel_rfl
theorem sl_of_ints {w : World} {a : Addr} {len cap : Nat} {zs : List Int} (hl : len ≤ cap) (hm : cap ≤ maxLen) (hz : len ≤ zs.length)
    (hcell : ∀ i, i < zs.length → w.cell? (a.add i) = some (.int .u32 (zs.getD i 0))) (hwf : ∀ n ∈ zs, (Lit.int .u32 n).wf = true) :
    ∃ xs, Sl w .u32 (.slice (some a) len cap) xs ∧ Dig 4294967296 xs := by
  have hb : ∀ n ∈ zs, 0 ≤ n ∧ n < 4294967296 := fun n hn => by
    have := hwf n hn
    simp [Lit.wf, IntKind.min, IntKind.max, IntKind.bits, IntKind.signed] at this
    omega
  refine ⟨(zs.take len).map Int.toNat, ⟨some a, cap, ?_, ?_, by unfold maxLen at hm; omega, (fun e => by cases e), fun i hi => ⟨a, rfl, ?_⟩⟩, ?_⟩
  · rw [List.length_map, List.length_take, Nat.min_eq_left hz]
  · rw [List.length_map, List.length_take, Nat.min_eq_left hz]; exact hl
  · rw [List.length_map, List.length_take, Nat.min_eq_left hz] at hi
    have hi' : i < zs.length := by omega
    rw [hcell i hi']
    have := hb zs[i] (List.getElem_mem hi')
    unfold nth
    simp [List.getD, hi, hi']
    omega
  · intro x hx
    obtain ⟨n, hn, rfl⟩ := List.mem_map.1 hx
    have := hb n (List.mem_of_mem_take hn)
    omega

theorem cellsVal : Try.prog.cellsOf 41 = 5 := by kernel_rfl
theorem cellsBaseV : Try.prog.cellsOf 32 = 1 := by kernel_rfl
theorem cellsIntV : Try.prog.cellsOf 26 = 2 := by kernel_rfl
theorem cellsIntsV : Try.prog.cellsOf 39 = 1 := by kernel_rfl
theorem cellsBoolV : Try.prog.cellsOf 4 = 1 := by kernel_rfl
theorem cellsNatV : Try.prog.cellsOf 24 = 1 := by kernel_rfl

theorem limb_openV {H : Type} {enc : TypeId × Value → H} {W : World} {fuel : Nat} {c : Value} {y : DataW H × List MemPlace}
    (h : DataW.trod enc Try.prog W 0 (fun _ => true) true fuel 24 [c] = some y) : ∃ ao n q, c = .slice ao n q ∧ RNum W (.slice ao n q) := by
  rcases open_ints Try.underlying24 Try.underlying97 (by kernel_rfl) h with ⟨hcs, _⟩ | ⟨x, l, c', zs, hcs, _, hl, hm, hz, _, hcell, hwz⟩
  · simp at hcs
    subst hcs
    exact ⟨none, 0, 0, rfl, [], Sl.nil _ _, fun x hx => by cases hx⟩
  · simp at hcs
    subst hcs
    obtain ⟨xs, hs, hd⟩ := sl_of_ints hl hm (by rw [hz]; split <;> omega) hcell hwz
    exact ⟨_, _, _, rfl, xs, hs, hd⟩
theorem int_rangeV {z : Int} (h : (Lit.int .i64 z).wf = true) : -9223372036854775808 ≤ z ∧ z ≤ 9223372036854775807 := by
  simp [Lit.wf, IntKind.min, IntKind.max, IntKind.bits, IntKind.signed] at h
  omega
theorem int_openV {H : Type} {enc : TypeId × Value → H} {W : World} {fuel : Nat} {cs : List Value} {y : DataW H × List MemPlace} (h : DataW.trod enc Try.prog W 0 (fun _ => true) true fuel 26 cs = some y) :
    ∃ b o l c, cs = [.bool b, .slice o l c] ∧ RNum W (.slice o l c) := by
  obtain ⟨xs, m, -, -, hl2, hyl2, hf2⟩ := DataW.trod_struct Try.underlying26 h
  rw [cellsIntV] at hl2
  match cs, hl2 with
  | [c0, c1], _ =>
    match xs, hyl2 with
    | [u0, u1], _ =>
      have q0 := hf2 0 _ rfl
      have q1 := hf2 1 _ rfl
      simp [cellsBoolV] at q0
      simp [cellsNatV] at q1
      obtain ⟨b, eb, -⟩ := DataW.trod_bool Try.underlying4 q0
      obtain ⟨ao, ln, lc, rfl, hs⟩ := limb_openV q1
      simp at eb
      subst eb
      exact ⟨_, _, _, _, rfl, hs⟩
theorem ints_openV {H : Type} {enc : TypeId × Value → H} {W : World} {fuel : Nat} {c : Value} {y : DataW H × List MemPlace}
    (h : DataW.trod enc Try.prog W 0 (fun _ => true) true fuel 39 [c] = some y) : ∃ o n q, c = .slice o n q ∧ RInts W o n q := by
  rcases Go.Deep.open_slice Try.underlying39 h with ⟨hcs, -⟩ | ⟨a, len, cap, mm, n', D, Pl, hcs, -, hle, hm, hmm, -, hi⟩
  · simp at hcs
    subst hcs
    exact ⟨none, 0, 0, rfl, ⟨Nat.le_refl _, Nat.zero_le _⟩, fun i hi => absurd hi (Nat.not_lt_zero _)⟩
  · simp at hcs
    subst hcs
    refine ⟨_, _, _, rfl, ⟨hle, hm⟩, fun i hilt => ?_⟩
    obtain ⟨cs', hc, ht'⟩ := hi i (by simp only [if_true] at hmm; omega)
    rw [cellsIntV] at hc
    obtain ⟨_, hcl, hat⟩ := World.cells?_some hc
    obtain ⟨b, o, l, c, rfl, hr⟩ := int_openV ht'
    exact ⟨a, b, o, l, c, rfl, (hat 0 (by decide)), (hat 1 (by decide)), hr⟩
theorem val_openV {H : Type} {enc : TypeId × Value → H} {W : World} {fuel : Nat} {cs : List Value} {y : DataW H × List MemPlace} (h : DataW.trod enc Try.prog W 0 (fun _ => true) true fuel 41 cs = some y) :
    ∃ k b o l c d p m q, cs = [.int .i64 k, .bool b, .slice o l c, .bool d, .slice p m q] ∧ (-9223372036854775808 ≤ k ∧ k ≤ 9223372036854775807) ∧ RNum W (.slice o l c) ∧ RInts W p m q := by
  obtain ⟨ys, n, -, -, hlen, hyl, hf⟩ := DataW.trod_struct Try.underlying41 h
  rw [cellsVal] at hlen
  match cs, hlen with
  | [c0, c1, c2, c3, c4], _ =>
    match ys, hyl with
    | [y0, y1, y2, y3], _ =>
      have g0 := hf 0 _ rfl
      have g1 := hf 1 _ rfl
      have g2 := hf 2 _ rfl
      have g3 := hf 3 _ rfl
      simp [cellsBaseV] at g0
      simp [cellsIntV] at g1
      simp [cellsBoolV] at g2
      simp [cellsIntsV] at g3
      obtain ⟨k, e0, -, w0⟩ := DataW.trod_int Try.underlying32 g0
      obtain ⟨b, o, l, c, e1, hn⟩ := int_openV g1
      obtain ⟨d, e2, -⟩ := DataW.trod_bool Try.underlying4 g2
      obtain ⟨p, m, q, e3, hi⟩ := ints_openV g3
      simp at e0 e1 e2
      obtain ⟨e1a, e1b⟩ := e1
      subst e0 e1a e1b e2 e3
      exact ⟨_, _, _, _, _, _, _, _, _, rfl, int_rangeV w0, hn, hi⟩
theorem open_vals {H : Type} {enc : TypeId × Value → H} {W : World} {base : Nat} {r : Reach} {v : Value} {d : DataW H} {p : List MemPlace}
    (hv : Value.okWide Try.prog W r base 30 v) (h : DataW.Trod enc Try.prog W 0 (fun _ => true) true 30 v d p) : ∃ ko n kc, v = .slice ko n kc ∧ RVals W ko n kc := by
  obtain ⟨a0, len0, cap0, rfl⟩ := okWide_slice Try.underlying30 hv
  obtain ⟨fuel, hf⟩ := h
  refine ⟨_, _, _, rfl, ?_⟩
  rcases Go.Deep.open_slice Try.underlying30 hf with ⟨hcs, -⟩ | ⟨a, len, cap, mm, n', D, Pl, hcs, -, hle, hm, hmm, -, hi⟩
  · simp [Value.cells] at hcs
    obtain ⟨rfl, rfl, rfl⟩ := hcs
    exact ⟨⟨Nat.le_refl _, Nat.zero_le _⟩, fun i hi => absurd hi (Nat.not_lt_zero _)⟩
  · simp [Value.cells] at hcs
    obtain ⟨rfl, rfl, rfl⟩ := hcs
    refine ⟨⟨hle, hm⟩, fun i hilt => ?_⟩
    obtain ⟨cs', hc, ht'⟩ := hi i (by simp only [if_true] at hmm; omega)
    rw [cellsVal] at hc
    obtain ⟨_, hcl, hat⟩ := World.cells?_some hc
    obtain ⟨k, b, o, l, c, d, p, m, q, rfl, h1, h2, h3⟩ := val_openV ht'
    exact ⟨a, k, b, o, l, c, d, p, m, q, rfl, ⟨hat 0 (by decide), hat 1 (by decide), hat 2 (by decide), hat 3 (by decide), hat 4 (by decide)⟩, h1, h2, h3⟩
end Go.Proofs.Ytinfbmnimkcdjaa
