/-
  How an argument that is an expression is opened; what the rows' condition says of the tables.
-/
import Derived.Test.YtcdacmbcecjliaaDoorTrT
import Derived.Test.YtcdacmbcecjliaaDoorTrQ
import Derived.Deep.Slices
import Derived.Lib.LaidTab
import Derived.LaidMore
namespace Go.Proofs.YtcdacmbcecjliaaDoor
open Go.ChangeShapes Go.WideShapes Go.ChangeAt Go.RowKit
set_option linter.unusedVariables false
set_option maxRecDepth 100000

theorem cellsExpr : Tryd.prog.cellsOf 29 = 8 := by kernel_rfl
theorem cellsKind : Tryd.prog.cellsOf 22 = 1 := by kernel_rfl
theorem cellsStr : Tryd.prog.cellsOf 9 = 1 := by kernel_rfl
theorem cellsWhole : Tryd.prog.cellsOf 26 = 2 := by kernel_rfl
theorem cellsKids : Tryd.prog.cellsOf 27 = 1 := by kernel_rfl
theorem cellsGoInt : Tryd.prog.cellsOf 3 = 1 := by kernel_rfl
theorem cellsGoBool : Tryd.prog.cellsOf 4 = 1 := by kernel_rfl
theorem cellsNat5 : Tryd.prog.cellsOf 24 = 1 := by kernel_rfl

theorem limb_open {H : Type} {enc : TypeId × Value → H} {W : World} {fuel : Nat} {c : Value} {y : DataW H × List MemPlace}
    (h : DataW.trod enc Tryd.prog W 0 (fun _ => true) true fuel 24 [c] = some y) : ∃ ao n q xs, c = .slice ao n q ∧ Sl W .u32 (.slice ao n q) xs ∧ Dig L32 xs := by
  rcases open_ints Tryd.underlying24 Tryd.underlying70 (by kernel_rfl) h with ⟨hcs, _⟩ | ⟨x, l, c', zs, hcs, _, hl, hm, hz, _, hcell, hwz⟩
  · simp at hcs
    subst hcs
    exact ⟨none, 0, 0, [], rfl, Sl.nil _ _, fun x hx => by cases hx⟩
  · simp at hcs
    subst hcs
    obtain ⟨xs, hs, hd⟩ := sl_of_ints hl hm (by rw [hz]; split <;> omega) hcell hwz
    exact ⟨_, _, _, xs, rfl, hs, hd⟩

theorem int_range {z : Int} (h : (Lit.int .i64 z).wf = true) : -9223372036854775808 ≤ z ∧ z ≤ 9223372036854775807 := by
  simp [Lit.wf, IntKind.min, IntKind.max, IntKind.bits, IntKind.signed] at h
  omega

/-- An expression that can be read has its eight cells, and its kids can be read. -/
theorem fields_open {H : Type} {enc : TypeId × Value → H} {W : World} {fuel : Nat} {cs : List Value} {y : DataW H × List MemPlace} (h : DataW.trod enc Tryd.prog W 0 (fun _ => true) true fuel 29 cs = some y) :
    ∃ x : X, cs = xc x ∧ (-9223372036854775808 ≤ x.k ∧ x.k ≤ 9223372036854775807) ∧ (-9223372036854775808 ≤ x.ln ∧ x.ln ≤ 9223372036854775807) ∧ (-9223372036854775808 ≤ x.cl ∧ x.cl ≤ 9223372036854775807) ∧ x.nm.size ≤ 9223372036854775807 ∧ x.ot.size ≤ 9223372036854775807 ∧ (∃ xs, Sl W .u32 (.slice x.ao x.n x.c) xs ∧ Dig L32 xs) ∧ x.kn ≤ 9223372036854775807 ∧
      ∀ i, i < x.kn → ∃ cs' n' y', (∃ a, x.ko = some a ∧ ∀ j v, cs'[j]? = some v → W.cell? ((a.add (i * 8)).add j) = some v) ∧ DataW.trod enc Tryd.prog W 0 (fun _ => true) true n' 29 cs' = some y' := by
  obtain ⟨ys, n, -, -, hlen, hyl, hf⟩ := DataW.trod_struct Tryd.underlying29 h
  rw [cellsExpr] at hlen
  match cs, hlen with
  | [c0, c1, c2, c3, c4, c5, c6, c7], _ =>
    match ys, hyl with
    | [y0, y1, y2, y3, y4, y5, y6], _ =>
      have g0 := hf 0 _ rfl
      have g1 := hf 1 _ rfl
      have g2 := hf 2 _ rfl
      have g3 := hf 3 _ rfl
      have g4 := hf 4 _ rfl
      have g5 := hf 5 _ rfl
      have g6 := hf 6 _ rfl
      simp [cellsKind] at g0
      simp [cellsStr] at g1 g2
      simp [cellsWhole] at g3
      simp [cellsKids] at g4
      simp [cellsGoInt] at g5 g6
      obtain ⟨k, e0, -, w0⟩ := DataW.trod_int Tryd.underlying22 g0
      obtain ⟨s1, e1, -, w1⟩ := DataW.trod_string Tryd.underlying9 g1
      obtain ⟨s2, e2, -, w2⟩ := DataW.trod_string Tryd.underlying9 g2
      obtain ⟨z5, e5, -, w5⟩ := DataW.trod_int Tryd.underlying3 g5
      obtain ⟨z6, e6, -, w6⟩ := DataW.trod_int Tryd.underlying3 g6
      obtain ⟨xs, m, -, -, hl2, hyl2, hf2⟩ := DataW.trod_struct Tryd.underlying26 g3
      match xs, hyl2 with
      | [u0, u1], _ =>
        have q0 := hf2 0 _ rfl
        have q1 := hf2 1 _ rfl
        simp [cellsGoBool] at q0
        simp [cellsNat5] at q1
        obtain ⟨b, eb, -⟩ := DataW.trod_bool Tryd.underlying4 q0
        obtain ⟨ao, ln, lc, limbs, rfl, hs, hd⟩ := limb_open q1
        simp at e0 e1 e2 e5 e6 eb
        subst e0 e1 e2 e5 e6 eb
        rcases Go.Deep.open_slice Tryd.underlying27 g4 with ⟨hcs, -⟩ | ⟨a, len, cap, mm, n', D, Pl, hcs, -, hle, hm, hmm, -, hi⟩
        · simp at hcs
          subst hcs
          exact ⟨⟨k, s1, s2, b, ao, ln, lc, none, 0, 0, z5, z6⟩, rfl, int_range w0, int_range w5, int_range w6, by unfold maxLen at w1; exact w1, by unfold maxLen at w2; exact w2, ⟨limbs, hs, hd⟩, Nat.zero_le _, fun i hi => absurd hi (Nat.not_lt_zero i)⟩
        · simp at hcs
          subst hcs
          refine ⟨⟨k, s1, s2, b, ao, ln, lc, some a, len, cap, z5, z6⟩, rfl, int_range w0, int_range w5, int_range w6, by unfold maxLen at w1; exact w1, by unfold maxLen at w2; exact w2, ⟨limbs, hs, hd⟩, by unfold maxLen at hm; show len ≤ _; omega, fun i hilt => ?_⟩
          obtain ⟨cs', hc, ht'⟩ := hi i (by simp only [if_true] at hmm; have : i < len := hilt; omega)
          rw [cellsExpr] at hc
          obtain ⟨_, hcl, hat⟩ := World.cells?_some hc
          refine ⟨cs', n', _, ⟨a, rfl, fun j v hj => ?_⟩, ht'⟩
          have hjl : j < 8 := by have := (List.getElem?_eq_some_iff.1 hj).1; omega
          rw [hat j hjl]; exact hj

theorem raw_open {H : Type} {enc : TypeId × Value → H} {W : World} : ∀ (d : Nat) {fuel : Nat} {x : X} {y : DataW H × List MemPlace}, DataW.trod enc Tryd.prog W 0 (fun _ => true) true fuel 29 (xc x) = some y → Raw W d x
  | 0, _, _, _, _ => trivial
  | d + 1, fuel, x, y, h => by
    obtain ⟨x', e, h1, h2, h3, h4, h5, h6, h7, h8⟩ := fields_open h
    have ex : x = x' := by
      obtain ⟨k, s1, s2, b, ao, n, c, ko, kn, kc, l, cl⟩ := x
      obtain ⟨k', s1', s2', b', ao', n', c', ko', kn', kc', l', cl'⟩ := x'
      simp only [xc, List.cons.injEq, Value.int.injEq, Value.string.injEq, Value.bool.injEq, Value.slice.injEq, true_and, and_true] at e
      obtain ⟨e1, e2, e3, e4, ⟨e5, e6, e7⟩, ⟨e8, e9, e10⟩, e11, e12⟩ := e
      subst e1 e2 e3 e4 e5 e6 e7 e8 e9 e10 e11 e12
      rfl
    subst ex
    refine ⟨h1, h2, h3, h4, h5, h6, h7, fun i hi => ?_⟩
    obtain ⟨cs', n', y', ⟨a, ha, hc⟩, ht⟩ := h8 i hi
    obtain ⟨u, hu, -⟩ := fields_open ht
    subst hu
    exact ⟨u, ⟨a, ha, hc⟩, raw_open d ht⟩

theorem open_expr {H : Type} {enc : TypeId × Value → H} {W : World} {base : Nat} {r : Reach} {v : Value} {d : DataW H} {p : List MemPlace}
    (hv : Value.okWide Tryd.prog W r base 29 v) (h : DataW.Trod enc Tryd.prog W 0 (fun _ => true) true 29 v d p) : ∃ x : X, v = xv x ∧ ∀ d, Raw W d x := by
  obtain ⟨cs, rfl, hsz⟩ := okWide_struct Tryd.underlying29 hv
  obtain ⟨fuel, hf⟩ := h
  have hcs : (Value.agg cs).cells.toList = cs.toList := rfl
  rw [hcs] at hf
  obtain ⟨x, e, -⟩ := fields_open hf
  rw [e] at hf
  exact ⟨x, by unfold xv; congr 1; apply Array.ext'; rw [e]; rfl, fun d => raw_open d hf⟩
end Go.Proofs.YtcdacmbcecjliaaDoor
