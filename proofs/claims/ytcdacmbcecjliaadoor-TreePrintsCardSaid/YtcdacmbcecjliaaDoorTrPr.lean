/-
  The law TreePrints: its walk.
-/
import Derived.Test.YtcdacmbcecjliaaDoorTrL
import Derived.Test.YtcdacmbcecjliaaDoorTrF
namespace Go.Proofs.YtcdacmbcecjliaaDoor
open Go.RowKit
set_option linter.unusedVariables false
set_option maxRecDepth 100000

/-- A zero expression in a block of its own. -/
def Zero8 (w : World) (g : Nat) : Prop := w.heap[g]? = some (.cells #[.int .i64 0, .string ⟨#[]⟩, .string ⟨#[]⟩, .bool false, .slice none 0 0, .slice none 0 0, .int .i64 0, .int .i64 0] 29 (0, 0))
theorem zero_cell {w : World} {g : Nat} {a : Addr} {v : Value} (hz : Zero8 w g) (h : w.cell? a = some v) (e : a.block = g) : v = .int .i64 0 ∨ v = .string ⟨#[]⟩ ∨ v = .bool false ∨ v = .slice none 0 0 := by
  unfold World.cell? at h
  rw [e, hz] at h
  simp only at h
  split at h
  · cases h
  · have hm := Array.mem_of_getElem? h
    simp only [List.mem_toArray, List.mem_cons, List.not_mem_nil, or_false] at hm
    rcases hm with rfl | rfl | rfl | rfl | rfl | rfl | rfl | rfl
    · exact .inl rfl
    · exact .inr (.inl rfl)
    · exact .inr (.inl rfl)
    · exact .inr (.inr (.inl rfl))
    · exact .inr (.inr (.inr rfl))
    · exact .inr (.inr (.inr rfl))
    · exact .inl rfl
    · exact .inl rfl
theorem named_ne {w : World} {S : Nat → Prop} : ∀ {d : Nat} {y : X} {t : T}, Tr w S d y t → Nm d t → y.nm ≠ ⟨#[]⟩
  | 0, _, _, h, _ => absurd h id
  | d + 1, y, .node k nm ot z ks, ⟨⟨_, e, _, _⟩, _⟩, ⟨hn, _⟩ => by
    intro h
    rw [e] at h
    injection h with h
    have := congrArg Array.size h
    simp at this
    subst this
    simp at hn
/-- What of a tree lies in memory, each part of it with a name, lies in no block that holds a zero expression. -/
theorem Tr.apart {w : World} {S : Nat → Prop} {g : Nat} (hz : Zero8 w g) : ∀ {d : Nat} {x : X} {t : T}, Tr w S d x t → Nm d t → Tr w (fun b => S b ∧ b ≠ g) d x t
  | 0, _, _, h, _ => h
  | d + 1, x, .node k nm ot z ks, ⟨h1, ⟨h2, h3⟩, ⟨h4, h5, h6⟩, h7⟩, ⟨n1, n2⟩ => by
    refine ⟨h1, ⟨h2, fun h0 a ha => ⟨h3 h0 a ha, fun e => ?_⟩⟩, ⟨h4, h5, fun h0 a ha => ⟨h6 h0 a ha, fun e => ?_⟩⟩, fun i hi => ?_⟩
    · obtain ⟨ao', cap, e', -, -, -, q⟩ := h2
      injection e' with e1 e2 e3
      obtain ⟨b, hb, hc⟩ := q 0 (by omega)
      have : b = a := by rw [ha] at e1; rw [← e1] at hb; injection hb with hb; exact hb.symm
      subst this
      rcases zero_cell hz hc (by rw [add_block]; exact e) with h | h | h | h <;> cases h
    · obtain ⟨y, ⟨b, hb, hc⟩, hT⟩ := h7 0 (by omega)
      have : b = a := by rw [ha] at hb; injection hb with hb; exact hb.symm
      subst this
      have hs := hc 1 (.string y.nm) rfl
      rcases zero_cell hz hs (by rw [add_block, add_block]; exact e) with h | h | h | h
      · cases h
      · injection h with h; exact named_ne hT (n2 _ (List.getElem_mem _)) h
      · cases h
      · cases h
    · obtain ⟨y, a1, a2⟩ := h7 i hi
      exact ⟨y, a1, a2.apart hz (n2 _ (List.getElem_mem _))⟩

def TrN (w : World) (y : X) (t : T) : Prop := Tr w (fun _ => True) 4 y t ∧ OkN 4 t
theorem TrN.below {w w' : World} {y : X} {t : T} (h : TrN w y t) (hb : Below w.heap.size w w') : TrN w' y t := ⟨h.1.below hb, h.2⟩
/-- A tree, once a zero block is written over. -/
theorem TrN.set {w : World} {y : X} {t : T} {g : Nat} (h : TrN w y t) (hz : Zero8 w g) (cs : Array Value) : TrN (w.setRow g cs) y t :=
  ⟨((h.1.apart hz h.2.2).keep fun b hb => setRow_other w g b cs hb.2).mono fun _ _ => trivial, h.2⟩
theorem below_setRow {B : Nat} {w0 w : World} (h : Below B w0 w) {g : Nat} (hg : B ≤ g) (cs : Array Value) : Below B w0 (w.setRow g cs) :=
  ⟨h.os, h.tape, h.output, by rw [setRow_size]; exact h.size, fun q hq => by rw [setRow_other w g q cs (by omega)]; exact h.block q hq⟩

theorem cell_three (w : World) (g i : Nat) (v : Value) (h : w.cell? ⟨g, i, none⟩ = some v) (o1 o2 o3 : Obj) : (((w.alloc o1).alloc o2).alloc o3).cell? ⟨g, i, none⟩ = some v := by
  have hb : Below w.heap.size w (((w.alloc o1).alloc o2).alloc o3) := (((Below.refl _ _).alloc (Nat.le_refl _) _).alloc (by simp) _).alloc (by simp; omega) _
  rw [hb.cell (cell_lt h)]; exact h
theorem atC_row {w : World} {g n : Nat} {T : TypeId} : ∀ (pre : List Value) (css : List (List Value)) (i : Nat) (hi : i < css.length) (k : Nat), w.heap[g]? = some (.cells (pre ++ css.flatten).toArray T (0, 0)) → pre.length = k * n → (∀ c ∈ css, c.length = n) → AtC n w (some ⟨g, 0, none⟩) (k + i) css[i]
  | pre, c :: css, 0, _, k, h, hp, hn => by
    refine ⟨_, rfl, fun j v hj => ?_⟩
    have hl := hn c (by simp)
    have hj8 : j < n := by have := (List.getElem?_eq_some_iff.1 hj).1; simp at this; omega
    rw [add_lit, add_lit, cell_of_row w g _ _ _ (0, 0) h]
    simp only [List.getElem?_toArray, Nat.zero_add, Nat.add_zero, List.flatten_cons]
    rw [← hp, List.getElem?_append_right (by omega), Nat.add_sub_cancel_left, List.getElem?_append_left (by omega)]
    exact hj
  | pre, c :: css, i + 1, hi, k, h, hp, hn => by
    have := atC_row (pre ++ c) css i (by simpa using hi) (k + 1) (by rw [List.append_assoc]; exact h) (by rw [List.length_append, hp, hn c (by simp), Nat.succ_mul]) (fun x hx => hn x (by simp [hx]))
    rw [show k + (i + 1) = k + 1 + i by omega]
    exact this

def refT (kn : Bool) (t : T) : Bs := if kn then [123] ++ tx t ++ [125] else []
def pmV : Pm := ⟨⟨#[118]⟩, 0, false, zX, 0, 0⟩
def pmY : Pm := ⟨⟨#[121]⟩, 2, false, zX, 0, 0⟩
def pmA (kn : Bool) (p : X) : Pm := ⟨⟨#[97]⟩, 1, kn, p, 0, 0⟩
def pmR (kn : Bool) (q : X) : Pm := ⟨⟨#[118]⟩, 0, kn, q, 0, 0⟩
def pmL : Pm := ⟨⟨#[118]⟩, 2, false, zX, 0, 0⟩
def qd (s : Nat) (p : X) (t : T) : Qd := ⟨[81], some ⟨s, 0, none⟩, 2, [(pmV, [118], [105, 110, 116]), (pmY, [121], [108, 105, 115, 116])], p, t⟩
def fdF (s : Nat) (kn : Bool) (p q : X) (t u : T) : Fd := ⟨[102], some ⟨s + 2, 0, none⟩, 1, [(pmA kn p, [97], [98, 111, 111, 108] ++ refT kn t)], pmR kn q, [118], [105, 110, 116] ++ refT kn u, q, u⟩
def fdG (p : X) (t : T) : Fd := ⟨[103], none, 0, [], pmL, [118], [108, 105, 115, 116], p, t⟩
def printsW (w : World) (kn : Bool) (p q : X) (t u : T) : World :=
  ((((w.alloc (.cells (pc pmV ++ pc pmY).toArray 42)).alloc (.cells (qc (qd w.heap.size p t)).toArray 45)).alloc (.cells (pc (pmA kn p)).toArray 42)).alloc
    (.cells (fc (fdF w.heap.size kn p q t u) ++ fc (fdG p t)).toArray 48)).alloc (.cells #[.slice (some ⟨w.heap.size + 1, 0, none⟩) 1 1, .slice (some ⟨w.heap.size + 3, 0, none⟩) 2 2] 51)
theorem pm_false {w : World} {nm : Bs} {b : Nat} (hn : nm.length ≤ 5) (hb : b < 3) (r : X) (ln cl : Int) : PmOk w ⟨⟨nm.toArray⟩, (b : Int), false, r, ln, cl⟩ nm (bsT b) := ⟨rfl, hn, b, hb, rfl, .inl ⟨rfl, rfl⟩⟩
theorem pm_any {w : World} {nm : Bs} {b : Nat} (hn : nm.length ≤ 5) (hb : b < 3) (kn : Bool) (r : X) (t : T) (h : TrN w r t) (ln cl : Int) : PmOk w ⟨⟨nm.toArray⟩, (b : Int), kn, r, ln, cl⟩ nm (bsT b ++ refT kn t) := by
  cases kn with
  | false => exact ⟨rfl, hn, b, hb, rfl, .inl ⟨rfl, by simp [refT]⟩⟩
  | true => exact ⟨rfl, hn, b, hb, rfl, .inr ⟨rfl, t, h.1, h.2.1, by simp [refT]⟩⟩
theorem at13_row {w : World} {g : Nat} {T : TypeId} (ps : List Pm) (h : w.heap[g]? = some (.cells (ps.map pc).flatten.toArray T (0, 0))) (i : Nat) (hi : i < ps.length) : At13 w (some ⟨g, 0, none⟩) i ps[i] := by
  have := atC_row (n := 13) [] (ps.map pc) i (by simpa using hi) 0 h (by simp) (fun c hc => by obtain ⟨q, -, rfl⟩ := List.mem_map.1 hc; rfl)
  rw [Nat.zero_add, List.getElem_map] at this
  exact this
theorem prints_world (w : World) (kn : Bool) (p q : X) (t u : T) (hp : TrN w p t) (hq : TrN w q u) :
    Below w.heap.size w (printsW w kn p q t u) ∧ (printsW w kn p q t u).heap[w.heap.size + 4]? = some (.cells #[.slice (some ⟨w.heap.size + 1, 0, none⟩) 1 1, .slice (some ⟨w.heap.size + 3, 0, none⟩) 2 2] 51 (0, 0)) ∧
    QsAt (printsW w kn p q t u) (some ⟨w.heap.size + 1, 0, none⟩) [qd w.heap.size p t] ∧ FsAt (printsW w kn p q t u) (some ⟨w.heap.size + 3, 0, none⟩) [fdF w.heap.size kn p q t u, fdG p t] := by
  generalize hW : printsW w kn p q t u = W
  unfold printsW at hW
  obtain ⟨wA, hA⟩ : ∃ wA, wA = w.alloc (.cells (pc pmV ++ pc pmY).toArray 42) := ⟨_, rfl⟩
  obtain ⟨wB, hB⟩ : ∃ wB, wB = wA.alloc (.cells (qc (qd w.heap.size p t)).toArray 45) := ⟨_, rfl⟩
  obtain ⟨wC, hC⟩ : ∃ wC, wC = wB.alloc (.cells (pc (pmA kn p)).toArray 42) := ⟨_, rfl⟩
  obtain ⟨wD, hD⟩ : ∃ wD, wD = wC.alloc (.cells (fc (fdF w.heap.size kn p q t u) ++ fc (fdG p t)).toArray 48) := ⟨_, rfl⟩
  rw [← hA, ← hB, ← hC, ← hD] at hW
  have sA : wA.heap.size = w.heap.size + 1 := by rw [hA]; simp
  have sB : wB.heap.size = w.heap.size + 2 := by rw [hB]; simp [sA]
  have sC : wC.heap.size = w.heap.size + 3 := by rw [hC]; simp [sB]
  have sD : wD.heap.size = w.heap.size + 4 := by rw [hD]; simp [sC]
  have bW : Below wD.heap.size wD W := by rw [← hW]; exact (Below.refl _ _).alloc (Nat.le_refl _) _
  have bD : Below wC.heap.size wC W := by rw [← hW, hD]; exact ((Below.refl _ _).alloc (Nat.le_refl _) _).alloc (by simp) _
  have bC : Below wB.heap.size wB W := (show Below wB.heap.size wB wC by rw [hC]; exact (Below.refl _ _).alloc (Nat.le_refl _) _).trans (bD.mono (by omega))
  have bB : Below wA.heap.size wA W := (show Below wA.heap.size wA wB by rw [hB]; exact (Below.refl _ _).alloc (Nat.le_refl _) _).trans (bC.mono (by omega))
  have bA : Below w.heap.size w W := (show Below w.heap.size w wA by rw [hA]; exact (Below.refl _ _).alloc (Nat.le_refl _) _).trans (bB.mono (by omega))
  have mA : W.heap[w.heap.size]? = some (.cells (pc pmV ++ pc pmY).toArray 42 (0, 0)) := (bB.block _ (by omega)).trans (by rw [hA]; exact made_at w _ _ rfl)
  have mB : W.heap[w.heap.size + 1]? = some (.cells (qc (qd w.heap.size p t)).toArray 45 (0, 0)) := (bC.block _ (by omega)).trans (by rw [hB]; exact made_at wA _ _ sA)
  have mC : W.heap[w.heap.size + 2]? = some (.cells (pc (pmA kn p)).toArray 42 (0, 0)) := (bD.block _ (by omega)).trans (by rw [hC]; exact made_at wB _ _ sB)
  have mD : W.heap[w.heap.size + 3]? = some (.cells (fc (fdF w.heap.size kn p q t u) ++ fc (fdG p t)).toArray 48 (0, 0)) := (bW.block _ (by omega)).trans (by rw [hD]; exact made_at wC _ _ sC)
  have mW : W.heap[w.heap.size + 4]? = some (.cells #[.slice (some ⟨w.heap.size + 1, 0, none⟩) 1 1, .slice (some ⟨w.heap.size + 3, 0, none⟩) 2 2] 51 (0, 0)) := by rw [← hW]; exact made_at wD _ _ sD
  have hpW := hp.below bA
  have hqW := hq.below bA
  refine ⟨bA, mW, fun i hi => ?_, fun i hi => ?_⟩
  · match i, hi with
    | 0, _ =>
      refine ⟨atC_row (n := 12) [] [qc (qd w.heap.size p t)] 0 (by simp) 0 (by simpa using mB) rfl (fun c hc => by rw [List.mem_singleton.1 hc]; rfl), by show [81].length ≤ 5; decide, by show [_, _].length ≤ 3; decide, fun j hj => ?_, hpW.1, hpW.2.1⟩
      match j, hj with
      | 0, _ => exact ⟨at13_row [pmV, pmY] (by simpa using mA) 0 (by simp), pm_false (b := 0) (nm := [118]) (by decide) (by decide) _ _ _⟩
      | 1, _ => exact ⟨at13_row [pmV, pmY] (by simpa using mA) 1 (by simp), pm_false (b := 2) (nm := [121]) (by decide) (by decide) _ _ _⟩
  · match i, hi with
    | 0, _ =>
      refine ⟨atC_row (n := 25) [] [fc (fdF w.heap.size kn p q t u), fc (fdG p t)] 0 (by simp) 0 (by simpa using mD) rfl (fun c hc => by simp only [List.mem_cons, List.not_mem_nil, or_false] at hc; rcases hc with rfl | rfl <;> rfl), by show [102].length ≤ 5; decide, by simp [fdF], fun j hj => ?_, pm_any (b := 0) (nm := [118]) (by decide) (by decide) kn q u hqW _ _, hqW.1, hqW.2.1⟩
      match j, hj with
      | 0, _ => exact ⟨at13_row [pmA kn p] (by simpa using mC) 0 (by simp), pm_any (b := 1) (nm := [97]) (by decide) (by decide) kn p t hpW _ _⟩
    | 1, _ =>
      exact ⟨atC_row (n := 25) [] [fc (fdF w.heap.size kn p q t u), fc (fdG p t)] 1 (by simp) 0 (by simpa using mD) rfl (fun c hc => by simp only [List.mem_cons, List.not_mem_nil, or_false] at hc; rcases hc with rfl | rfl <;> rfl), by show [103].length ≤ 5; decide, by show [].length ≤ 3; decide, fun j hj => absurd hj (Nat.not_lt_zero j), pm_false (b := 2) (nm := [118]) (by decide) (by decide) _ _ _, hpW.1, hpW.2.1⟩
/-- The text of it all. -/
theorem prints_text (s : Nat) (kn : Bool) (p q : X) (t u : T) : [qd s p t].flatMap qT ++ [fdF s kn p q t u, fdG p t].flatMap fT =
    [113, 117, 97, 108, 105, 102, 32, 81, 40, 118, 58, 32, 105, 110, 116, 44, 32, 121, 58, 32, 108, 105, 115, 116, 41, 58, 32] ++ tx t ++ [10, 102, 117, 110, 32, 102, 40, 97, 58, 32, 98, 111, 111, 108] ++ refT kn t ++ [41, 58, 32, 105, 110, 116] ++ refT kn u ++ [32, 61, 32] ++ tx u ++ [10, 102, 117, 110, 32, 103, 40, 41, 58, 32, 108, 105, 115, 116, 32, 61, 32] ++ tx t ++ [10] := by
  simp [qT, fT, hdT, qd, fdF, fdG, com, ptx]

theorem QsAt.below {w w' : World} {ko : Option Addr} {qs : List Qd} (h : QsAt w ko qs) (hb : Below w.heap.size w w') : QsAt w' ko qs := fun i hi => ⟨AtC.below (c := .string ⟨(qs[i]).nm.toArray⟩) (h i hi).1 hb, (h i hi).2.below hb⟩
theorem FsAt.below {w w' : World} {ko : Option Addr} {qs : List Fd} (h : FsAt w ko qs) (hb : Below w.heap.size w w') : FsAt w' ko qs := fun i hi => ⟨AtC.below (c := .string ⟨(qs[i]).nm.toArray⟩) (h i hi).1 hb, (h i hi).2.below hb⟩

set_option maxHeartbeats 16000000 in
theorem treePrints_walk (x y : X) (kn : Bool) (w : World) (hrx : ∀ d, Raw w d x) (hry : ∀ d, Raw w d y) (ht : Tabs w) :
    Calls Tryd.prog 5 #[xv x, xv y, .bool kn] w fun e w' => e = .returned (.bool true) ∧ Below w.heap.size w w' := by
  have hx4 := hrx 4
  have hy4 := hry 4
  obtain ⟨xk, xnm, xot, xb, xao, xn, xq, xko, xkn, xkc, xln, xcl⟩ := x
  obtain ⟨yk, ynm, yot, yb, yao, yn, yq, yko, ykn, ykc, yln, ycl⟩ := y
  obtain ⟨k3, hk3⟩ : ∃ k3, k3 = w.heap.size := ⟨_, rfl⟩
  obtain ⟨k4, hk4⟩ : ∃ k4, k4 = w.heap.size + 1 := ⟨_, rfl⟩
  obtain ⟨w1, hw1⟩ : ∃ w1, w1 = (w.alloc (.cells #[.int .i64 xk, .string xnm, .string xot, .bool xb, .slice xao xn xq, .slice xko xkn xkc, .int .i64 xln, .int .i64 xcl] 29)).alloc (.cells #[.int .i64 yk, .string ynm, .string yot, .bool yb, .slice yao yn yq, .slice yko ykn ykc, .int .i64 yln, .int .i64 ycl] 29) := ⟨_, rfl⟩
  have hb1 : Below w.heap.size w w1 := by rw [hw1]; exact ((Below.refl _ _).alloc (Nat.le_refl _) _).alloc (by simp) _
  have hx1 : w1.heap[k3]? = some (.cells #[.int .i64 xk, .string xnm, .string xot, .bool xb, .slice xao xn xq, .slice xko xkn xkc, .int .i64 xln, .int .i64 xcl] 29 (0, 0)) := by rw [hw1, hk3]; exact made_more (made_at w _ _ rfl) _
  have hy1 : w1.heap[k4]? = some (.cells #[.int .i64 yk, .string ynm, .string yot, .bool yb, .slice yao yn yq, .slice yko ykn ykc, .int .i64 yln, .int .i64 ycl] 29 (0, 0)) := by rw [hw1, hk4]; exact made_at _ _ _ (by simp)
  have HX1 := Lib.hid hx1
  have HY1 := Lib.hid hy1
  have HT1 := Lib.hid (ht.below hb1)
  have HRX1 := Lib.hid (hx4.below hb1)
  have HRY1 := Lib.hid (hy4.below hb1)
  have HB1 := Lib.hid hb1
  simp only [xv]
  go_enter Tryd.func5, Tryd.ntmps5
  go_upto_region 1 with fail
  rw [← hw1, ← hk4, ← hk3]
  clear hw1 hk3 hk4 hb1 hx1 hy1 hrx hry hx4 hy4 ht
  go_wp2_with fail
  refine (fit_any w1 HT1.out).mono ?_
  rintro e w2 ⟨rfl, hb2⟩
  have HB_x := Lib.hid ((hb2.block k3 (lt_of_block HX1.out)).trans HX1.out)
  have HB_y := Lib.hid ((hb2.block k4 (lt_of_block HY1.out)).trans HY1.out)
  have HT2 := Lib.hid (HT1.out.below hb2)
  have HRX2 := Lib.hid (HRX1.out.below hb2)
  have HRY2 := Lib.hid (HRY1.out.below hb2)
  have HB2 := Lib.hid (HB1.out.trans (hb2.mono HB1.out.size))
  clear hb2 HX1 HY1 HT1 HRX1 HRY1 HB1
  go_wp2_with fail
  have hlt_x := lt_of_block HB_x.out
  have hlt_y := lt_of_block HB_y.out
  refine Rely.region (by kernel_rfl) [[], [0], [], [0, 1, 2], [], [], [0, 1, 2, 3, 4, 5], [0, 1, 2, 3, 4, 5, 6]] [4, 5] [] (fun _ => 0) 0 6 (by kernel_rfl) (by kernel_rfl) (fun q h => absurd h (Nat.not_lt_zero q)) (fun q _ h => absurd h (Nat.not_lt_zero q)) ?_
  refine Rely.Chain.det ?_ (by rfl) (fun T xs wr hA => ?_) ?_
  rotate_left 1
  · have e3 := hA.pre 3 (by kernel_rfl)
    simp only [List.getElem?_toArray, List.getElem?_cons_succ, List.getElem?_cons_zero] at e3
    have hBq : wr.heap[k3]? = _ := (hA.bl _ hlt_x (fun q h => absurd h (Nat.not_lt_zero q))).trans HB_x.out
    have q0 := cell_at (v := .int .i64 xk) hBq 0 rfl
    have q1 := cell_at (v := .string xnm) hBq 1 rfl
    have q2 := cell_at (v := .string xot) hBq 2 rfl
    have q3 := cell_at (v := .bool xb) hBq 3 rfl
    have q4 := cell_at (v := .slice xao xn xq) hBq 4 rfl
    have q5 := cell_at (v := .slice xko xkn xkc) hBq 5 rfl
    have q6 := cell_at (v := .int .i64 xln) hBq 6 rfl
    have q7 := cell_at (v := .int .i64 xcl) hBq 7 rfl
    clear hBq
    clear hA
    refine ⟨(by rfl), ?_⟩
    go_simp <;> (try with_reducible rfl)
  refine Rely.Chain.grow (fun xs v w => ∃ y t, v = xv y ∧ TrN w y t) (fun _ _ _ _ ⟨y, t, h1, h2⟩ hb => ⟨y, t, h1, h2.below hb⟩) rfl (by rfl) (fun T xs wr hA => ?_) ?_
  · have e14 := hA.tm 0 14 (by rfl) (by rfl)
    have f14 : xs 0 = _ := hA.fa 0 (by rfl)
    (try simp (disch := first | rfl | decide) only [Rely.mask_in] at f14)
    rw [f14] at e14
    clear f14
    have hbw := undrew (hA.be _ (Nat.le_refl _) (fun q h => absurd h (Nat.not_lt_zero q)))
    have hrq := Lib.hid (HRX2.out.below hbw)
    clear hbw
    clear hA
    refine ⟨(by rfl), fun K hK => ?_⟩
    go_simp
    refine (tame_all 4 (by decide) ⟨xk, xnm, xot, xb, xao, xn, xq, xko, xkn, xkc, xln, xcl⟩ _ (by decide) hrq.out).mono ?_
    rintro e wq ⟨y, t, rfl, hT, hO, hb⟩
    exact hK.out _ _ ⟨y, t, rfl, hT.mono (fun _ _ => trivial), hO⟩ hb
  refine Rely.Chain.det ?_ (by rfl) (fun T xs wr hA => ?_) ?_
  rotate_left 1
  · have e4 := hA.pre 4 (by kernel_rfl)
    simp only [List.getElem?_toArray, List.getElem?_cons_succ, List.getElem?_cons_zero] at e4
    have hBq : wr.heap[k4]? = _ := (hA.bl _ hlt_y (fun q h => absurd h (Nat.not_lt_zero q))).trans HB_y.out
    have q0 := cell_at (v := .int .i64 yk) hBq 0 rfl
    have q1 := cell_at (v := .string ynm) hBq 1 rfl
    have q2 := cell_at (v := .string yot) hBq 2 rfl
    have q3 := cell_at (v := .bool yb) hBq 3 rfl
    have q4 := cell_at (v := .slice yao yn yq) hBq 4 rfl
    have q5 := cell_at (v := .slice yko ykn ykc) hBq 5 rfl
    have q6 := cell_at (v := .int .i64 yln) hBq 6 rfl
    have q7 := cell_at (v := .int .i64 ycl) hBq 7 rfl
    clear hBq
    clear hA
    refine ⟨(by rfl), ?_⟩
    go_simp <;> (try with_reducible rfl)
  refine Rely.Chain.grow (fun xs v w => ∃ y t, v = xv y ∧ TrN w y t) (fun _ _ _ _ ⟨y, t, h1, h2⟩ hb => ⟨y, t, h1, h2.below hb⟩) rfl (by rfl) (fun T xs wr hA => ?_) ?_
  · have e16 := hA.tm 2 16 (by rfl) (by rfl)
    have f16 : xs 2 = _ := hA.fa 2 (by rfl)
    (try simp (disch := first | rfl | decide) only [Rely.mask_in] at f16)
    rw [f16] at e16
    clear f16
    have hbw := undrew (hA.be _ (Nat.le_refl _) (fun q h => absurd h (Nat.not_lt_zero q)))
    have hrq := Lib.hid (HRY2.out.below hbw)
    clear hbw
    clear hA
    refine ⟨(by rfl), fun K hK => ?_⟩
    go_simp
    refine (tame_all 4 (by decide) ⟨yk, ynm, yot, yb, yao, yn, yq, yko, ykn, ykc, yln, ycl⟩ _ (by decide) hrq.out).mono ?_
    rintro e wq ⟨y, t, rfl, hT, hO, hb⟩
    exact hK.out _ _ ⟨y, t, rfl, hT.mono (fun _ _ => trivial), hO⟩ hb
  refine Rely.Chain.made ?_ ?_ rfl (fun Ts xs wr hA => ?_) ?_
  rotate_left 2
  · clear hA
    refine ⟨(by rfl), fun K hK => ?_⟩
    go_simp
    exact hK.out
  refine Rely.Chain.made ?_ ?_ rfl (fun Ts xs wr hA => ?_) ?_
  rotate_left 2
  · clear hA
    refine ⟨(by rfl), fun K hK => ?_⟩
    go_simp
    exact hK.out
  refine Rely.Chain.done (fun xs w3 hL => ?_)
  obtain ⟨⟨hbe, hbl, hkp0⟩, hf, hp, hn⟩ := hL
  have f0 : xs 0 = _ := hf 0 (by decide)
  (try simp (disch := first | rfl | decide) only [Rely.mask_in] at f0)
  have F1 : ∃ y t, (xs 1) = xv y ∧ TrN w3 y t := hf 1 (by decide)
  have f2 : xs 2 = _ := hf 2 (by decide)
  (try simp (disch := first | rfl | decide) only [Rely.mask_in] at f2)
  have F3 : ∃ y t, (xs 3) = xv y ∧ TrN w3 y t := hf 3 (by decide)
  have F4 : Rely.Made 29 #[.int .i64 0, .string ⟨#[]⟩, .string ⟨#[]⟩, .bool false, .slice none 0 0, .slice none 0 0, .int .i64 0, .int .i64 0] (xs 4) w3 := hf 4 (by decide)
  have F5 : Rely.Made 29 #[.int .i64 0, .string ⟨#[]⟩, .string ⟨#[]⟩, .bool false, .slice none 0 0, .slice none 0 0, .int .i64 0, .int .i64 0] (xs 5) w3 := hf 5 (by decide)
  have HP4 := hp 4 (by rfl) (by decide)
  have HP5 := hp 5 (by rfl) (by decide)
  have HN4_5 := hn 4 5 (by rfl) (by rfl) (by decide) (by decide) (by decide)
  have hbx : Below w2.heap.size w2 w3 := undrew (hbe _ (Nat.le_refl _) (fun q h => absurd h (Nat.not_lt_zero q)))
  clear hbe hbl hkp0 hf hp hn
  replace HB_x := Lib.hid ((hbx.block _ hlt_x).trans HB_x.out)
  clear hlt_x
  replace HB_y := Lib.hid ((hbx.block _ hlt_y).trans HB_y.out)
  clear hlt_y
  refine Rely.rest_list (by decide) (by kernel_rfl) ?_
  obtain ⟨p, t, hp, hpt⟩ := F1
  obtain ⟨q, u, hq, hqu⟩ := F3
  obtain ⟨g4, f4, hg4⟩ := F4
  obtain ⟨g5, f5, hg5⟩ := F5
  obtain ⟨g4', q1, hlo4, hhi4⟩ := HP4
  rw [f4] at q1; injection q1 with q1; injection q1 with q1; injection q1 with q1; subst q1
  obtain ⟨g5', q1, hlo5, hhi5⟩ := HP5
  rw [f5] at q1; injection q1 with q1; injection q1 with q1; injection q1 with q1; subst q1
  have hn45 : g4 ≠ g5 := fun e => HN4_5 (by rw [f4, f5, e])
  simp only [xv] at hp hq
  simp only [Rely.fill, List.take_succ_cons, List.take_zero, List.drop_succ_cons, List.drop_zero, List.setIfInBounds_toArray, List.set_cons_zero, List.set_cons_succ, f0, f2, hp, hq, f4, f5]
  clear f0 f2 hp hq f4 f5
  obtain ⟨pk, pnm, pot, pb, pao, pn, pq, pko, pkn, pkc, pln, pcl⟩ := p
  obtain ⟨qk, qnm, qot, qb, qao, qn, qq, qko, qkn, qkc, qln, qcl⟩ := q
  have hlo4' : w2.heap.size ≤ g4 := hlo4
  have hlo5' : w2.heap.size ≤ g5 := hlo5
  have hs2 := HB2.out.size
  have hz4 : Zero8 w3 g4 := hg4
  have hz5 : Zero8 w3 g5 := hg5
  refine wpList_store_row rfl 29 (.tmp 7) (.tmp 15) rfl g4 #[.int .i64 pk, .string pnm, .string pot, .bool pb, .slice pao pn pq, .slice pko pkn pkc, .int .i64 pln, .int .i64 pcl] rfl rfl 29 _ hg4 (by kernel_rfl) rfl (by simp [Value.oneCell']) ?_
  obtain ⟨w4, hw4⟩ : ∃ w4, w4 = w3.setRow g4 #[.int .i64 pk, .string pnm, .string pot, .bool pb, .slice pao pn pq, .slice pko pkn pkc, .int .i64 pln, .int .i64 pcl] := ⟨_, rfl⟩
  rw [← hw4]
  have hz5' : Zero8 w4 g5 := by unfold Zero8; rw [hw4, setRow_other _ _ _ _ (Ne.symm hn45)]; exact hg5
  have hp4 := hpt.set hz4 #[.int .i64 pk, .string pnm, .string pot, .bool pb, .slice pao pn pq, .slice pko pkn pkc, .int .i64 pln, .int .i64 pcl]
  have hq4 := hqu.set hz4 #[.int .i64 pk, .string pnm, .string pot, .bool pb, .slice pao pn pq, .slice pko pkn pkc, .int .i64 pln, .int .i64 pcl]
  have hh4 := setRow_heap w3 g4 _ #[.int .i64 pk, .string pnm, .string pot, .bool pb, .slice pao pn pq, .slice pko pkn pkc, .int .i64 pln, .int .i64 pcl] _ _ hg4
  have hb4 := below_setRow hbx hlo4' #[.int .i64 pk, .string pnm, .string pot, .bool pb, .slice pao pn pq, .slice pko pkn pkc, .int .i64 pln, .int .i64 pcl]
  rw [← hw4] at hp4 hq4 hh4 hb4
  clear hw4 hpt hqu hg4 hg5 hz4 hz5 hbx
  refine wpList_store_row rfl 29 (.tmp 8) (.tmp 17) rfl g5 #[.int .i64 qk, .string qnm, .string qot, .bool qb, .slice qao qn qq, .slice qko qkn qkc, .int .i64 qln, .int .i64 qcl] rfl rfl 29 _ hz5' (by kernel_rfl) rfl (by simp [Value.oneCell']) ?_
  obtain ⟨w5, hw5⟩ : ∃ w5, w5 = w4.setRow g5 #[.int .i64 qk, .string qnm, .string qot, .bool qb, .slice qao qn qq, .slice qko qkn qkc, .int .i64 qln, .int .i64 qcl] := ⟨_, rfl⟩
  rw [← hw5]
  have hp5 := hp4.set hz5' #[.int .i64 qk, .string qnm, .string qot, .bool qb, .slice qao qn qq, .slice qko qkn qkc, .int .i64 qln, .int .i64 qcl]
  have hq5 := hq4.set hz5' #[.int .i64 qk, .string qnm, .string qot, .bool qb, .slice qao qn qq, .slice qko qkn qkc, .int .i64 qln, .int .i64 qcl]
  have hh5 := setRow_heap w4 g5 _ #[.int .i64 qk, .string qnm, .string qot, .bool qb, .slice qao qn qq, .slice qko qkn qkc, .int .i64 qln, .int .i64 qcl] _ _ hz5'
  have hh4' : (w4.setRow g5 #[.int .i64 qk, .string qnm, .string qot, .bool qb, .slice qao qn qq, .slice qko qkn qkc, .int .i64 qln, .int .i64 qcl]).heap[g4]? = _ := (setRow_other w4 g5 g4 #[.int .i64 qk, .string qnm, .string qot, .bool qb, .slice qao qn qq, .slice qko qkn qkc, .int .i64 qln, .int .i64 qcl] hn45).trans hh4
  have hb5 := below_setRow hb4 hlo5' #[.int .i64 qk, .string qnm, .string qot, .bool qb, .slice qao qn qq, .slice qko qkn qkc, .int .i64 qln, .int .i64 qcl]
  rw [← hw5] at hp5 hq5 hh5 hh4' hb5
  have HP5 := Lib.hid hp5
  have HQ5 := Lib.hid hq5
  have HG5 := Lib.hid hh5
  have HG4 := Lib.hid hh4'
  have HT5 := Lib.hid (HT2.out.below hb5)
  have HB5 := Lib.hid (HB2.out.trans (hb5.mono hs2))
  have hlt4 := lt_of_block hh4'
  have hlt5 := lt_of_block hh5
  have p0 := cell_at (v := .int .i64 pk) hh4' 0 rfl
  have p1 := cell_at (v := .string pnm) hh4' 1 rfl
  have p2 := cell_at (v := .string pot) hh4' 2 rfl
  have p3 := cell_at (v := .bool pb) hh4' 3 rfl
  have p4 := cell_at (v := .slice pao pn pq) hh4' 4 rfl
  have p5 := cell_at (v := .slice pko pkn pkc) hh4' 5 rfl
  have p6 := cell_at (v := .int .i64 pln) hh4' 6 rfl
  have p7 := cell_at (v := .int .i64 pcl) hh4' 7 rfl
  have q0 := cell_at (v := .int .i64 qk) hh5 0 rfl
  have q1 := cell_at (v := .string qnm) hh5 1 rfl
  have q2 := cell_at (v := .string qot) hh5 2 rfl
  have q3 := cell_at (v := .bool qb) hh5 3 rfl
  have q4 := cell_at (v := .slice qao qn qq) hh5 4 rfl
  have q5 := cell_at (v := .slice qko qkn qkc) hh5 5 rfl
  have q6 := cell_at (v := .int .i64 qln) hh5 6 rfl
  have q7 := cell_at (v := .int .i64 qcl) hh5 7 rfl
  have HM3 := cell_three w5
  have pm0 := HM3 g4 0 _ p0
  have pm1 := HM3 g4 1 _ p1
  have pm2 := HM3 g4 2 _ p2
  have pm3 := HM3 g4 3 _ p3
  have pm4 := HM3 g4 4 _ p4
  have pm5 := HM3 g4 5 _ p5
  have pm6 := HM3 g4 6 _ p6
  have pm7 := HM3 g4 7 _ p7
  have qm0 := HM3 g5 0 _ q0
  have qm1 := HM3 g5 1 _ q1
  have qm2 := HM3 g5 2 _ q2
  have qm3 := HM3 g5 3 _ q3
  have qm4 := HM3 g5 4 _ q4
  have qm5 := HM3 g5 5 _ q5
  have qm6 := HM3 g5 6 _ q6
  have qm7 := HM3 g5 7 _ q7
  clear HM3 hw5 hz5' hp4 hq4 hh4 hb4 hp5 hq5 hh5 hh4' hb5 HN4_5 hlo4 hlo5 hhi4 hhi5 hlo4' hlo5' HB_x HB_y HRX2 HRY2
  go_upto_region 5 with fail
  obtain ⟨W6, hW6⟩ : ∃ W6, W6 = printsW w5 kn ⟨pk, pnm, pot, pb, pao, pn, pq, pko, pkn, pkc, pln, pcl⟩ ⟨qk, qnm, qot, qb, qao, qn, qq, qko, qkn, qkc, qln, qcl⟩ t u := ⟨_, rfl⟩
  change Code.wp _ _ _ _ (printsW w5 kn ⟨pk, pnm, pot, pb, pao, pn, pq, pko, pkn, pkc, pln, pcl⟩ ⟨qk, qnm, qot, qb, qao, qn, qq, qko, qkn, qkc, qln, qcl⟩ t u)
  rw [← hW6]
  obtain ⟨hbW, hPg, hQs, hFs⟩ := prints_world w5 kn ⟨pk, pnm, pot, pb, pao, pn, pq, pko, pkn, pkc, pln, pcl⟩ ⟨qk, qnm, qot, qb, qao, qn, qq, qko, qkn, qkc, qln, qcl⟩ t u HP5.out HQ5.out
  rw [← hW6] at hbW hPg hQs hFs
  clear hW6
  obtain ⟨k9, hk9⟩ : ∃ k9, w5.heap.size + 1 + 1 + 1 + 1 = k9 := ⟨_, rfl⟩
  rw [hk9]
  have hk9' : w5.heap.size + 4 = k9 := hk9
  rw [hk9'] at hPg
  have HQS := Lib.hid hQs
  have HFS := Lib.hid hFs
  have HB_r := Lib.hid hPg
  have HB_p := Lib.hid ((hbW.block g4 hlt4).trans HG4.out)
  have HB_q := Lib.hid ((hbW.block g5 hlt5).trans HG5.out)
  have HT6 := Lib.hid (HT5.out.below hbW)
  have HP6 := Lib.hid (HP5.out.below hbW)
  have HQ6 := Lib.hid (HQ5.out.below hbW)
  have HB6 := Lib.hid (HB5.out.trans (hbW.mono HB5.out.size))
  have hLL : LL 4 = 30720 := rfl
  have hlt := (len_all 4 t HP5.out.2.1).1
  have hlu := (len_all 4 u HQ5.out.2.1).1
  rw [hLL] at hlt hlu
  have HPT := Lib.hid (prints_text w5.heap.size kn ⟨pk, pnm, pot, pb, pao, pn, pq, pko, pkn, pkc, pln, pcl⟩ ⟨qk, qnm, qot, qb, qao, qn, qq, qko, qkn, qkc, qln, qcl⟩ t u)
  have HNE : Hid ([qd w5.heap.size ⟨pk, pnm, pot, pb, pao, pn, pq, pko, pkn, pkc, pln, pcl⟩ t].flatMap qT ++ [fdF w5.heap.size kn ⟨pk, pnm, pot, pb, pao, pn, pq, pko, pkn, pkc, pln, pcl⟩ ⟨qk, qnm, qot, qb, qao, qn, qq, qko, qkn, qkc, qln, qcl⟩ t u, fdG ⟨pk, pnm, pot, pb, pao, pn, pq, pko, pkn, pkc, pln, pcl⟩ t].flatMap fT ≠ []) := Lib.hid (by rw [HPT.out]; simp)
  have HTXT := Lib.hid (fun W hW => text_any5 4 (by decide) ⟨pk, pnm, pot, pb, pao, pn, pq, pko, pkn, pkc, pln, pcl⟩ t (fun _ => True) W (HT6.out.below hW) (HP6.out.below hW).1 HP6.out.2.1)
  have HTXU := Lib.hid (fun W hW => text_any5 4 (by decide) ⟨qk, qnm, qot, qb, qao, qn, qq, qko, qkn, qkc, qln, qcl⟩ u (fun _ => True) W (HT6.out.below hW) (HQ6.out.below hW).1 HQ6.out.2.1)
  have HPR := Lib.hid (fun W hW => print_any [qd w5.heap.size ⟨pk, pnm, pot, pb, pao, pn, pq, pko, pkn, pkc, pln, pcl⟩ t] [fdF w5.heap.size kn ⟨pk, pnm, pot, pb, pao, pn, pq, pko, pkn, pkc, pln, pcl⟩ ⟨qk, qnm, qot, qb, qao, qn, qq, qko, qkn, qkc, qln, qcl⟩ t u, fdG ⟨pk, pnm, pot, pb, pao, pn, pq, pko, pkn, pkc, pln, pcl⟩ t] _ _ 1 2 W (HT6.out.below hW) (HQS.out.below hW) (HFS.out.below hW) (by simp) (by simp) HNE.out)
  rw [HPT.out] at HPR
  obtain ⟨st, hst⟩ : ∃ st, st = tx t := ⟨_, rfl⟩
  obtain ⟨su, hsu⟩ : ∃ su, su = tx u := ⟨_, rfl⟩
  rw [← hst] at HTXT hlt
  rw [← hsu] at HTXU hlu
  have zst : (⟨st.toArray⟩ : ByteArray).size = st.length := rfl
  have zsu : (⟨su.toArray⟩ : ByteArray).size = su.length := rfl
  have HST := Lib.hid hst
  have HSU := Lib.hid hsu
  clear HQS HFS HP5 HQ5 HG4 HG5 HT5 HT2 HB2 HB5 hlt4 hlt5 hk9 hk9' hbW hPg hQs hFs hst hsu hs2 hLL p0 p1 p2 p3 p4 p5 p6 p7 pm0 pm1 pm2 pm3 pm4 pm5 pm6 pm7 q0 q1 q2 q3 q4 q5 q6 q7 qm0 qm1 qm2 qm3 qm4 qm5 qm6 qm7
  cases kn with
  | false =>
    have HRT : Hid (refT false t = []) := Lib.hid rfl
    have HRU : Hid (refT false u = []) := Lib.hid rfl
    rw [HRT.out, HRU.out, ← HST.out, ← HSU.out] at HPR
    go_wp2_with fail
    obtain ⟨a4, ha4⟩ : ∃ a4, a4 = ([113, 117, 97, 108, 105, 102, 32, 81, 40, 118, 58, 32, 105, 110, 116, 44, 32, 121, 58, 32, 108, 105, 115, 116, 41, 58, 32] : Bs) ++ st := ⟨_, rfl⟩
    obtain ⟨a5, ha5⟩ : ∃ a5, a5 = (a4 : Bs) ++ [10, 102, 117, 110, 32, 102, 40, 97, 58, 32, 98, 111, 111, 108] := ⟨_, rfl⟩
    obtain ⟨a7, ha7⟩ : ∃ a7, a7 = (a5 : Bs) ++ [] := ⟨_, rfl⟩
    obtain ⟨a8, ha8⟩ : ∃ a8, a8 = (a7 : Bs) ++ [41, 58, 32, 105, 110, 116] := ⟨_, rfl⟩
    obtain ⟨a10, ha10⟩ : ∃ a10, a10 = (a8 : Bs) ++ [] := ⟨_, rfl⟩
    obtain ⟨a11, ha11⟩ : ∃ a11, a11 = (a10 : Bs) ++ [32, 61, 32] := ⟨_, rfl⟩
    obtain ⟨a14, ha14⟩ : ∃ a14, a14 = (a11 : Bs) ++ su := ⟨_, rfl⟩
    obtain ⟨a15, ha15⟩ : ∃ a15, a15 = (a14 : Bs) ++ [10, 102, 117, 110, 32, 103, 40, 41, 58, 32, 108, 105, 115, 116, 32, 61, 32] := ⟨_, rfl⟩
    obtain ⟨a18, ha18⟩ : ∃ a18, a18 = (a15 : Bs) ++ st := ⟨_, rfl⟩
    obtain ⟨a19, ha19⟩ : ∃ a19, a19 = (a18 : Bs) ++ [10] := ⟨_, rfl⟩
    rw [← ha4, ← ha5, ← ha7, ← ha8, ← ha10, ← ha11, ← ha14, ← ha15, ← ha18, ← ha19] at HPR
    have la4 : a4.length ≤ 31000 := by rw [ha4]; simp; omega
    have za4 : (⟨a4.toArray⟩ : ByteArray).size = a4.length := rfl
    have la5 : a5.length ≤ 62000 := by rw [ha5]; simp; omega
    have za5 : (⟨a5.toArray⟩ : ByteArray).size = a5.length := rfl
    have la7 : a7.length ≤ 93000 := by rw [ha7]; simp; omega
    have za7 : (⟨a7.toArray⟩ : ByteArray).size = a7.length := rfl
    have la8 : a8.length ≤ 124000 := by rw [ha8]; simp; omega
    have za8 : (⟨a8.toArray⟩ : ByteArray).size = a8.length := rfl
    have la10 : a10.length ≤ 155000 := by rw [ha10]; simp; omega
    have za10 : (⟨a10.toArray⟩ : ByteArray).size = a10.length := rfl
    have la11 : a11.length ≤ 186000 := by rw [ha11]; simp; omega
    have za11 : (⟨a11.toArray⟩ : ByteArray).size = a11.length := rfl
    have la14 : a14.length ≤ 217000 := by rw [ha14]; simp; omega
    have za14 : (⟨a14.toArray⟩ : ByteArray).size = a14.length := rfl
    have la15 : a15.length ≤ 248000 := by rw [ha15]; simp; omega
    have za15 : (⟨a15.toArray⟩ : ByteArray).size = a15.length := rfl
    have la18 : a18.length ≤ 279000 := by rw [ha18]; simp; omega
    have za18 : (⟨a18.toArray⟩ : ByteArray).size = a18.length := rfl
    have la19 : a19.length ≤ 310000 := by rw [ha19]; simp; omega
    have za19 : (⟨a19.toArray⟩ : ByteArray).size = a19.length := rfl
    replace ha4 := Lib.hid ha4
    replace ha5 := Lib.hid ha5
    replace ha7 := Lib.hid ha7
    replace ha8 := Lib.hid ha8
    replace ha10 := Lib.hid ha10
    replace ha11 := Lib.hid ha11
    replace ha14 := Lib.hid ha14
    replace ha15 := Lib.hid ha15
    replace ha18 := Lib.hid ha18
    replace ha19 := Lib.hid ha19
    have hlt_r := lt_of_block HB_r.out
    have hlt_p := lt_of_block HB_p.out
    have hlt_q := lt_of_block HB_q.out
    refine Rely.region (by kernel_rfl) [[], [0], [], [0, 1, 2], [0, 1, 2, 3], [0, 1, 2, 3, 4], [], [0, 1, 2, 3, 4, 5, 6], [0, 1, 2, 3, 4, 5, 6, 7], [], [0, 1, 2, 3, 4, 5, 6, 7, 8, 9], [0, 1, 2, 3, 4, 5, 6, 7, 8, 9, 10], [], [0, 1, 2, 3, 12], [0, 1, 2, 3, 4, 5, 6, 7, 8, 9, 10, 11, 12, 13], [0, 1, 2, 3, 4, 5, 6, 7, 8, 9, 10, 11, 12, 13, 14], [], [0, 1, 2, 3, 12, 13, 16], [0, 1, 2, 3, 4, 5, 6, 7, 8, 9, 10, 11, 12, 13, 14, 15, 16, 17], [0, 1, 2, 3, 4, 5, 6, 7, 8, 9, 10, 11, 12, 13, 14, 15, 16, 17, 18], [0, 1, 2, 3, 4, 5, 6, 7, 8, 9, 10, 11, 12, 13, 14, 15, 16, 17, 18, 19], [0, 1, 2, 3, 4, 5, 6, 7, 8, 9, 10, 11, 12, 13, 14, 15, 16, 17, 18, 19, 20]] [] [] (fun _ => 0) 0 22 (by kernel_rfl) (by kernel_rfl) (fun q h => absurd h (Nat.not_lt_zero q)) (fun q _ h => absurd h (Nat.not_lt_zero q)) ?_
    refine Rely.Chain.det ?_ (by rfl) (fun T xs wr hA => ?_) ?_
    rotate_left 1
    · have e9 := hA.pre 9 (by kernel_rfl)
      simp only [List.getElem?_toArray, List.getElem?_cons_succ, List.getElem?_cons_zero] at e9
      have hBq : wr.heap[k9]? = _ := (hA.bl _ hlt_r (fun q h => absurd h (Nat.not_lt_zero q))).trans HB_r.out
      have q0 := cell_at (v := .slice (some ⟨w5.heap.size + 1, 0, none⟩) 1 1) hBq 0 rfl
      have q1 := cell_at (v := .slice (some ⟨w5.heap.size + 3, 0, none⟩) 2 2) hBq 1 rfl
      clear hBq
      clear hA
      refine ⟨(by rfl), ?_⟩
      go_simp <;> (try with_reducible rfl)
    refine Rely.Chain.grow (fun _ v _ => v = .string ⟨a19.toArray⟩) (fun _ _ _ _ h _ => h) rfl (by rfl) (fun T xs wr hA => ?_) ?_
    · have e47 := hA.tm 0 47 (by rfl) (by rfl)
      have f47 : xs 0 = _ := hA.fa 0 (by rfl)
      (try simp (disch := first | rfl | decide) only [Rely.mask_in] at f47)
      rw [f47] at e47
      clear f47
      have hbw := undrew (hA.be _ (Nat.le_refl _) (fun q h => absurd h (Nat.not_lt_zero q)))
      have hpr := Lib.hid (HPR.out wr hbw)
      clear hbw
      clear hA
      refine ⟨(by rfl), fun K hK => ?_⟩
      go_simp
      refine hpr.out.mono ?_
      rintro e wq ⟨rfl, hb⟩
      exact hK.out _ _ rfl hb
    refine Rely.Chain.det ?_ (by rfl) (fun T xs wr hA => ?_) ?_
    rotate_left 1
    · have e7 := hA.pre 7 (by kernel_rfl)
      simp only [List.getElem?_toArray, List.getElem?_cons_succ, List.getElem?_cons_zero] at e7
      have hBq : wr.heap[g4]? = _ := (hA.bl _ hlt_p (fun q h => absurd h (Nat.not_lt_zero q))).trans HB_p.out
      have q0 := cell_at (v := .int .i64 pk) hBq 0 rfl
      have q1 := cell_at (v := .string pnm) hBq 1 rfl
      have q2 := cell_at (v := .string pot) hBq 2 rfl
      have q3 := cell_at (v := .bool pb) hBq 3 rfl
      have q4 := cell_at (v := .slice pao pn pq) hBq 4 rfl
      have q5 := cell_at (v := .slice pko pkn pkc) hBq 5 rfl
      have q6 := cell_at (v := .int .i64 pln) hBq 6 rfl
      have q7 := cell_at (v := .int .i64 pcl) hBq 7 rfl
      clear hBq
      clear hA
      refine ⟨(by rfl), ?_⟩
      go_simp <;> (try with_reducible rfl)
    refine Rely.Chain.grow (fun _ v _ => v = .string ⟨st.toArray⟩) (fun _ _ _ _ h _ => h) rfl (by rfl) (fun T xs wr hA => ?_) ?_
    · have e49 := hA.tm 2 49 (by rfl) (by rfl)
      have f49 : xs 2 = _ := hA.fa 2 (by rfl)
      (try simp (disch := first | rfl | decide) only [Rely.mask_in] at f49)
      rw [f49] at e49
      clear f49
      have hbw := undrew (hA.be _ (Nat.le_refl _) (fun q h => absurd h (Nat.not_lt_zero q)))
      have htx := Lib.hid (HTXT.out wr hbw)
      clear hbw
      clear hA
      refine ⟨(by rfl), fun K hK => ?_⟩
      go_simp
      refine htx.out.mono ?_
      rintro e wq ⟨rfl, hb⟩
      exact hK.out _ _ rfl hb
    refine Rely.Chain.grow (fun _ v _ => v = .string ⟨a4.toArray⟩) (fun _ _ _ _ h _ => h) rfl (by rfl) (fun T xs wr hA => ?_) ?_
    · have e50 := hA.tm 3 50 (by rfl) (by rfl)
      have f50 : xs 3 = (.string ⟨st.toArray⟩) := hA.fa 3 (by rfl)
      rw [f50] at e50
      clear f50
      have hbw := undrew (hA.be _ (Nat.le_refl _) (fun q h => absurd h (Nat.not_lt_zero q)))
      clear hbw
      clear hA
      refine ⟨(by rfl), fun K hK => ?_⟩
      go_simp
      rw [if_neg (by omega)]
      rw [show (⟨#[113, 117, 97, 108, 105, 102, 32, 81, 40, 118, 58, 32, 105, 110, 116, 44, 32, 121, 58, 32, 108, 105, 115, 116, 41, 58, 32]⟩ ++ ⟨st.toArray⟩ : ByteArray) = ⟨a4.toArray⟩ from by rw [ha4.out]; exact ByteArray.mk_append_mk _ _]
      exact hK.out _ _ rfl (Below.refl _ _)
    refine Rely.Chain.grow (fun _ v _ => v = .string ⟨a5.toArray⟩) (fun _ _ _ _ h _ => h) rfl (by rfl) (fun T xs wr hA => ?_) ?_
    · have e51 := hA.tm 4 51 (by rfl) (by rfl)
      have f51 : xs 4 = (.string ⟨a4.toArray⟩) := hA.fa 4 (by rfl)
      rw [f51] at e51
      clear f51
      have hbw := undrew (hA.be _ (Nat.le_refl _) (fun q h => absurd h (Nat.not_lt_zero q)))
      clear hbw
      clear hA
      refine ⟨(by rfl), fun K hK => ?_⟩
      go_simp
      rw [if_neg (by omega)]
      rw [show (⟨a4.toArray⟩ ++ ⟨#[10, 102, 117, 110, 32, 102, 40, 97, 58, 32, 98, 111, 111, 108]⟩ : ByteArray) = ⟨a5.toArray⟩ from by rw [ha5.out]; exact ByteArray.mk_append_mk _ _]
      exact hK.out _ _ rfl (Below.refl _ _)
    refine Rely.Chain.det ?_ (by rfl) (fun T xs wr hA => ?_) ?_
    rotate_left 1
    · have e10 := hA.pre 10 (by kernel_rfl)
      simp only [List.getElem?_toArray, List.getElem?_cons_succ, List.getElem?_cons_zero] at e10
      clear hA
      refine ⟨(by rfl), ?_⟩
      go_simp <;> (try with_reducible rfl)
    refine Rely.Chain.grow (fun _ v _ => v = .string ⟨a7.toArray⟩) (fun _ _ _ _ h _ => h) rfl (by rfl) (fun T xs wr hA => ?_) ?_
    · have e52 := hA.tm 5 52 (by rfl) (by rfl)
      have f52 : xs 5 = (.string ⟨a5.toArray⟩) := hA.fa 5 (by rfl)
      rw [f52] at e52
      clear f52
      have e53 := hA.tm 6 53 (by rfl) (by rfl)
      have f53 : xs 6 = _ := hA.fa 6 (by rfl)
      (try simp (disch := first | rfl | decide) only [Rely.mask_in] at f53)
      rw [f53] at e53
      clear f53
      have hbw := undrew (hA.be _ (Nat.le_refl _) (fun q h => absurd h (Nat.not_lt_zero q)))
      clear hbw
      clear hA
      refine ⟨(by rfl), fun K hK => ?_⟩
      go_simp
      rw [if_neg (by omega)]
      rw [show (⟨a5.toArray⟩ ++ ⟨#[]⟩ : ByteArray) = ⟨a7.toArray⟩ from by rw [ha7.out]; exact ByteArray.mk_append_mk _ _]
      exact hK.out _ _ rfl (Below.refl _ _)
    refine Rely.Chain.grow (fun _ v _ => v = .string ⟨a8.toArray⟩) (fun _ _ _ _ h _ => h) rfl (by rfl) (fun T xs wr hA => ?_) ?_
    · have e54 := hA.tm 7 54 (by rfl) (by rfl)
      have f54 : xs 7 = (.string ⟨a7.toArray⟩) := hA.fa 7 (by rfl)
      rw [f54] at e54
      clear f54
      have hbw := undrew (hA.be _ (Nat.le_refl _) (fun q h => absurd h (Nat.not_lt_zero q)))
      clear hbw
      clear hA
      refine ⟨(by rfl), fun K hK => ?_⟩
      go_simp
      rw [if_neg (by omega)]
      rw [show (⟨a7.toArray⟩ ++ ⟨#[41, 58, 32, 105, 110, 116]⟩ : ByteArray) = ⟨a8.toArray⟩ from by rw [ha8.out]; exact ByteArray.mk_append_mk _ _]
      exact hK.out _ _ rfl (Below.refl _ _)
    refine Rely.Chain.det ?_ (by rfl) (fun T xs wr hA => ?_) ?_
    rotate_left 1
    · have e11 := hA.pre 11 (by kernel_rfl)
      simp only [List.getElem?_toArray, List.getElem?_cons_succ, List.getElem?_cons_zero] at e11
      clear hA
      refine ⟨(by rfl), ?_⟩
      go_simp <;> (try with_reducible rfl)
    refine Rely.Chain.grow (fun _ v _ => v = .string ⟨a10.toArray⟩) (fun _ _ _ _ h _ => h) rfl (by rfl) (fun T xs wr hA => ?_) ?_
    · have e55 := hA.tm 8 55 (by rfl) (by rfl)
      have f55 : xs 8 = (.string ⟨a8.toArray⟩) := hA.fa 8 (by rfl)
      rw [f55] at e55
      clear f55
      have e56 := hA.tm 9 56 (by rfl) (by rfl)
      have f56 : xs 9 = _ := hA.fa 9 (by rfl)
      (try simp (disch := first | rfl | decide) only [Rely.mask_in] at f56)
      rw [f56] at e56
      clear f56
      have hbw := undrew (hA.be _ (Nat.le_refl _) (fun q h => absurd h (Nat.not_lt_zero q)))
      clear hbw
      clear hA
      refine ⟨(by rfl), fun K hK => ?_⟩
      go_simp
      rw [if_neg (by omega)]
      rw [show (⟨a8.toArray⟩ ++ ⟨#[]⟩ : ByteArray) = ⟨a10.toArray⟩ from by rw [ha10.out]; exact ByteArray.mk_append_mk _ _]
      exact hK.out _ _ rfl (Below.refl _ _)
    refine Rely.Chain.grow (fun _ v _ => v = .string ⟨a11.toArray⟩) (fun _ _ _ _ h _ => h) rfl (by rfl) (fun T xs wr hA => ?_) ?_
    · have e57 := hA.tm 10 57 (by rfl) (by rfl)
      have f57 : xs 10 = (.string ⟨a10.toArray⟩) := hA.fa 10 (by rfl)
      rw [f57] at e57
      clear f57
      have hbw := undrew (hA.be _ (Nat.le_refl _) (fun q h => absurd h (Nat.not_lt_zero q)))
      clear hbw
      clear hA
      refine ⟨(by rfl), fun K hK => ?_⟩
      go_simp
      rw [if_neg (by omega)]
      rw [show (⟨a10.toArray⟩ ++ ⟨#[32, 61, 32]⟩ : ByteArray) = ⟨a11.toArray⟩ from by rw [ha11.out]; exact ByteArray.mk_append_mk _ _]
      exact hK.out _ _ rfl (Below.refl _ _)
    refine Rely.Chain.det ?_ (by rfl) (fun T xs wr hA => ?_) ?_
    rotate_left 1
    · have e8 := hA.pre 8 (by kernel_rfl)
      simp only [List.getElem?_toArray, List.getElem?_cons_succ, List.getElem?_cons_zero] at e8
      have hBq : wr.heap[g5]? = _ := (hA.bl _ hlt_q (fun q h => absurd h (Nat.not_lt_zero q))).trans HB_q.out
      have q0 := cell_at (v := .int .i64 qk) hBq 0 rfl
      have q1 := cell_at (v := .string qnm) hBq 1 rfl
      have q2 := cell_at (v := .string qot) hBq 2 rfl
      have q3 := cell_at (v := .bool qb) hBq 3 rfl
      have q4 := cell_at (v := .slice qao qn qq) hBq 4 rfl
      have q5 := cell_at (v := .slice qko qkn qkc) hBq 5 rfl
      have q6 := cell_at (v := .int .i64 qln) hBq 6 rfl
      have q7 := cell_at (v := .int .i64 qcl) hBq 7 rfl
      clear hBq
      clear hA
      refine ⟨(by rfl), ?_⟩
      go_simp <;> (try with_reducible rfl)
    refine Rely.Chain.grow (fun _ v _ => v = .string ⟨su.toArray⟩) (fun _ _ _ _ h _ => h) rfl (by rfl) (fun T xs wr hA => ?_) ?_
    · have e59 := hA.tm 12 59 (by rfl) (by rfl)
      have f59 : xs 12 = _ := hA.fa 12 (by rfl)
      (try simp (disch := first | rfl | decide) only [Rely.mask_in] at f59)
      rw [f59] at e59
      clear f59
      have hbw := undrew (hA.be _ (Nat.le_refl _) (fun q h => absurd h (Nat.not_lt_zero q)))
      have htx := Lib.hid (HTXU.out wr hbw)
      clear hbw
      clear hA
      refine ⟨(by rfl), fun K hK => ?_⟩
      go_simp
      refine htx.out.mono ?_
      rintro e wq ⟨rfl, hb⟩
      exact hK.out _ _ rfl hb
    refine Rely.Chain.grow (fun _ v _ => v = .string ⟨a14.toArray⟩) (fun _ _ _ _ h _ => h) rfl (by rfl) (fun T xs wr hA => ?_) ?_
    · have e58 := hA.tm 11 58 (by rfl) (by rfl)
      have f58 : xs 11 = (.string ⟨a11.toArray⟩) := hA.fa 11 (by rfl)
      rw [f58] at e58
      clear f58
      have e60 := hA.tm 13 60 (by rfl) (by rfl)
      have f60 : xs 13 = (.string ⟨su.toArray⟩) := hA.fa 13 (by rfl)
      rw [f60] at e60
      clear f60
      have hbw := undrew (hA.be _ (Nat.le_refl _) (fun q h => absurd h (Nat.not_lt_zero q)))
      clear hbw
      clear hA
      refine ⟨(by rfl), fun K hK => ?_⟩
      go_simp
      rw [if_neg (by omega)]
      rw [show (⟨a11.toArray⟩ ++ ⟨su.toArray⟩ : ByteArray) = ⟨a14.toArray⟩ from by rw [ha14.out]; exact ByteArray.mk_append_mk _ _]
      exact hK.out _ _ rfl (Below.refl _ _)
    refine Rely.Chain.grow (fun _ v _ => v = .string ⟨a15.toArray⟩) (fun _ _ _ _ h _ => h) rfl (by rfl) (fun T xs wr hA => ?_) ?_
    · have e61 := hA.tm 14 61 (by rfl) (by rfl)
      have f61 : xs 14 = (.string ⟨a14.toArray⟩) := hA.fa 14 (by rfl)
      rw [f61] at e61
      clear f61
      have hbw := undrew (hA.be _ (Nat.le_refl _) (fun q h => absurd h (Nat.not_lt_zero q)))
      clear hbw
      clear hA
      refine ⟨(by rfl), fun K hK => ?_⟩
      go_simp
      rw [if_neg (by omega)]
      rw [show (⟨a14.toArray⟩ ++ ⟨#[10, 102, 117, 110, 32, 103, 40, 41, 58, 32, 108, 105, 115, 116, 32, 61, 32]⟩ : ByteArray) = ⟨a15.toArray⟩ from by rw [ha15.out]; exact ByteArray.mk_append_mk _ _]
      exact hK.out _ _ rfl (Below.refl _ _)
    refine Rely.Chain.det ?_ (by rfl) (fun T xs wr hA => ?_) ?_
    rotate_left 1
    · have e7 := hA.pre 7 (by kernel_rfl)
      simp only [List.getElem?_toArray, List.getElem?_cons_succ, List.getElem?_cons_zero] at e7
      have hBq : wr.heap[g4]? = _ := (hA.bl _ hlt_p (fun q h => absurd h (Nat.not_lt_zero q))).trans HB_p.out
      have q0 := cell_at (v := .int .i64 pk) hBq 0 rfl
      have q1 := cell_at (v := .string pnm) hBq 1 rfl
      have q2 := cell_at (v := .string pot) hBq 2 rfl
      have q3 := cell_at (v := .bool pb) hBq 3 rfl
      have q4 := cell_at (v := .slice pao pn pq) hBq 4 rfl
      have q5 := cell_at (v := .slice pko pkn pkc) hBq 5 rfl
      have q6 := cell_at (v := .int .i64 pln) hBq 6 rfl
      have q7 := cell_at (v := .int .i64 pcl) hBq 7 rfl
      clear hBq
      clear hA
      refine ⟨(by rfl), ?_⟩
      go_simp <;> (try with_reducible rfl)
    refine Rely.Chain.grow (fun _ v _ => v = .string ⟨st.toArray⟩) (fun _ _ _ _ h _ => h) rfl (by rfl) (fun T xs wr hA => ?_) ?_
    · have e63 := hA.tm 16 63 (by rfl) (by rfl)
      have f63 : xs 16 = _ := hA.fa 16 (by rfl)
      (try simp (disch := first | rfl | decide) only [Rely.mask_in] at f63)
      rw [f63] at e63
      clear f63
      have hbw := undrew (hA.be _ (Nat.le_refl _) (fun q h => absurd h (Nat.not_lt_zero q)))
      have htx := Lib.hid (HTXT.out wr hbw)
      clear hbw
      clear hA
      refine ⟨(by rfl), fun K hK => ?_⟩
      go_simp
      refine htx.out.mono ?_
      rintro e wq ⟨rfl, hb⟩
      exact hK.out _ _ rfl hb
    refine Rely.Chain.grow (fun _ v _ => v = .string ⟨a18.toArray⟩) (fun _ _ _ _ h _ => h) rfl (by rfl) (fun T xs wr hA => ?_) ?_
    · have e62 := hA.tm 15 62 (by rfl) (by rfl)
      have f62 : xs 15 = (.string ⟨a15.toArray⟩) := hA.fa 15 (by rfl)
      rw [f62] at e62
      clear f62
      have e64 := hA.tm 17 64 (by rfl) (by rfl)
      have f64 : xs 17 = (.string ⟨st.toArray⟩) := hA.fa 17 (by rfl)
      rw [f64] at e64
      clear f64
      have hbw := undrew (hA.be _ (Nat.le_refl _) (fun q h => absurd h (Nat.not_lt_zero q)))
      clear hbw
      clear hA
      refine ⟨(by rfl), fun K hK => ?_⟩
      go_simp
      rw [if_neg (by omega)]
      rw [show (⟨a15.toArray⟩ ++ ⟨st.toArray⟩ : ByteArray) = ⟨a18.toArray⟩ from by rw [ha18.out]; exact ByteArray.mk_append_mk _ _]
      exact hK.out _ _ rfl (Below.refl _ _)
    refine Rely.Chain.grow (fun _ v _ => v = .string ⟨a19.toArray⟩) (fun _ _ _ _ h _ => h) rfl (by rfl) (fun T xs wr hA => ?_) ?_
    · have e65 := hA.tm 18 65 (by rfl) (by rfl)
      have f65 : xs 18 = (.string ⟨a18.toArray⟩) := hA.fa 18 (by rfl)
      rw [f65] at e65
      clear f65
      have hbw := undrew (hA.be _ (Nat.le_refl _) (fun q h => absurd h (Nat.not_lt_zero q)))
      clear hbw
      clear hA
      refine ⟨(by rfl), fun K hK => ?_⟩
      go_simp
      rw [if_neg (by omega)]
      rw [show (⟨a18.toArray⟩ ++ ⟨#[10]⟩ : ByteArray) = ⟨a19.toArray⟩ from by rw [ha19.out]; exact ByteArray.mk_append_mk _ _]
      exact hK.out _ _ rfl (Below.refl _ _)
    refine Rely.Chain.grow (fun _ v _ => v = .bool true) (fun _ _ _ _ h _ => h) rfl (by rfl) (fun T xs wr hA => ?_) ?_
    · have e48 := hA.tm 1 48 (by rfl) (by rfl)
      have f48 : xs 1 = (.string ⟨a19.toArray⟩) := hA.fa 1 (by rfl)
      rw [f48] at e48
      clear f48
      have e66 := hA.tm 19 66 (by rfl) (by rfl)
      have f66 : xs 19 = (.string ⟨a19.toArray⟩) := hA.fa 19 (by rfl)
      rw [f66] at e66
      clear f66
      have hbw := undrew (hA.be _ (Nat.le_refl _) (fun q h => absurd h (Nat.not_lt_zero q)))
      clear hbw
      clear hA
      refine ⟨(by rfl), fun K hK => ?_⟩
      go_simp
      exact hK.out _ _ rfl (Below.refl _ _)
    refine Rely.Chain.det ?_ (by rfl) (fun T xs wr hA => ?_) ?_
    rotate_left 1
    · have e67 := hA.tm 20 67 (by rfl) (by rfl)
      have f67 : xs 20 = (.bool true) := hA.fa 20 (by rfl)
      rw [f67] at e67
      clear f67
      clear hA
      refine ⟨(by rfl), ?_⟩
      go_simp <;> (try with_reducible rfl)
    refine Rely.Chain.done (fun xs W8 hL => ?_)
    obtain ⟨⟨hbe, hbl, hkp0⟩, hf, hp, hn⟩ := hL
    have f0 : xs 0 = _ := hf 0 (by decide)
    (try simp (disch := first | rfl | decide) only [Rely.mask_in] at f0)
    have f1 : xs 1 = (.string ⟨a19.toArray⟩) := hf 1 (by decide)
    have f2 : xs 2 = _ := hf 2 (by decide)
    (try simp (disch := first | rfl | decide) only [Rely.mask_in] at f2)
    have f3 : xs 3 = (.string ⟨st.toArray⟩) := hf 3 (by decide)
    have f4 : xs 4 = (.string ⟨a4.toArray⟩) := hf 4 (by decide)
    have f5 : xs 5 = (.string ⟨a5.toArray⟩) := hf 5 (by decide)
    have f6 : xs 6 = _ := hf 6 (by decide)
    (try simp (disch := first | rfl | decide) only [Rely.mask_in] at f6)
    have f7 : xs 7 = (.string ⟨a7.toArray⟩) := hf 7 (by decide)
    have f8 : xs 8 = (.string ⟨a8.toArray⟩) := hf 8 (by decide)
    have f9 : xs 9 = _ := hf 9 (by decide)
    (try simp (disch := first | rfl | decide) only [Rely.mask_in] at f9)
    have f10 : xs 10 = (.string ⟨a10.toArray⟩) := hf 10 (by decide)
    have f11 : xs 11 = (.string ⟨a11.toArray⟩) := hf 11 (by decide)
    have f12 : xs 12 = _ := hf 12 (by decide)
    (try simp (disch := first | rfl | decide) only [Rely.mask_in] at f12)
    have f13 : xs 13 = (.string ⟨su.toArray⟩) := hf 13 (by decide)
    have f14 : xs 14 = (.string ⟨a14.toArray⟩) := hf 14 (by decide)
    have f15 : xs 15 = (.string ⟨a15.toArray⟩) := hf 15 (by decide)
    have f16 : xs 16 = _ := hf 16 (by decide)
    (try simp (disch := first | rfl | decide) only [Rely.mask_in] at f16)
    have f17 : xs 17 = (.string ⟨st.toArray⟩) := hf 17 (by decide)
    have f18 : xs 18 = (.string ⟨a18.toArray⟩) := hf 18 (by decide)
    have f19 : xs 19 = (.string ⟨a19.toArray⟩) := hf 19 (by decide)
    have f20 : xs 20 = (.bool true) := hf 20 (by decide)
    have f21 : xs 21 = _ := hf 21 (by decide)
    (try simp (disch := first | rfl | decide) only [Rely.mask_in] at f21)
    have hbx : Below W6.heap.size W6 W8 := undrew (hbe _ (Nat.le_refl _) (fun q h => absurd h (Nat.not_lt_zero q)))
    clear hbe hbl hkp0 hf hp hn
    replace HB_r := Lib.hid ((hbx.block _ hlt_r).trans HB_r.out)
    clear hlt_r
    replace HB_p := Lib.hid ((hbx.block _ hlt_p).trans HB_p.out)
    clear hlt_p
    replace HB_q := Lib.hid ((hbx.block _ hlt_q).trans HB_q.out)
    clear hlt_q
    refine Rely.rest_done ?_
    simp only [Rely.fill, List.setIfInBounds_toArray, List.set_cons_zero, List.set_cons_succ, f0, f1, f2, f3, f4, f5, f6, f7, f8, f9, f10, f11, f12, f13, f14, f15, f16, f17, f18, f19, f20, f21]
    clear f0 f1 f2 f3 f4 f5 f6 f7 f8 f9 f10 f11 f12 f13 f14 f15 f16 f17 f18 f19 f20 f21
    have HBX := Lib.hid hbx
    clear hbx
    go_wp2_with fail
    go_ret
    exact ⟨rfl, HB6.out.trans (HBX.out.mono HB6.out.size)⟩
  | true =>
    have HRT : Hid (refT true t = [123] ++ tx t ++ [125]) := Lib.hid rfl
    have HRU : Hid (refT true u = [123] ++ tx u ++ [125]) := Lib.hid rfl
    rw [HRT.out, HRU.out, ← HST.out, ← HSU.out] at HPR
    obtain ⟨b2, hb2⟩ : ∃ b2, b2 = [123] ++ st := ⟨_, rfl⟩
    obtain ⟨ra, hra⟩ : ∃ ra, ra = b2 ++ [125] := ⟨_, rfl⟩
    obtain ⟨b6, hb6⟩ : ∃ b6, b6 = [123] ++ su := ⟨_, rfl⟩
    obtain ⟨rb, hrb⟩ : ∃ rb, rb = b6 ++ [125] := ⟨_, rfl⟩
    rw [← hb2, ← hra, ← hb6, ← hrb] at HPR
    have l2 : b2.length ≤ 30800 := by rw [hb2]; simp; omega
    have l3 : ra.length ≤ 30900 := by rw [hra]; simp; omega
    have l6 : b6.length ≤ 30800 := by rw [hb6]; simp; omega
    have l7 : rb.length ≤ 30900 := by rw [hrb]; simp; omega
    have z2 : (⟨b2.toArray⟩ : ByteArray).size = b2.length := rfl
    have z3 : (⟨ra.toArray⟩ : ByteArray).size = ra.length := rfl
    have z6 : (⟨b6.toArray⟩ : ByteArray).size = b6.length := rfl
    have z7 : (⟨rb.toArray⟩ : ByteArray).size = rb.length := rfl
    have h2 := Lib.hid hb2
    have h3 := Lib.hid hra
    have h6 := Lib.hid hb6
    have h7 := Lib.hid hrb
    clear hb2 hra hb6 hrb
    go_wp2_with fail
    have hlt_r := lt_of_block HB_r.out
    have hlt_p := lt_of_block HB_p.out
    have hlt_q := lt_of_block HB_q.out
    refine Rely.region (by kernel_rfl) [[], [0], [0, 1], [0, 1, 2], [], [0, 1, 4], [0, 1, 4, 5], [0, 1, 4, 5, 6], [0, 1, 2, 3, 4, 5], [0, 1, 2, 3, 4, 5, 6, 7, 8]] [] [] (fun _ => 0) 0 10 (by kernel_rfl) (by kernel_rfl) (fun q h => absurd h (Nat.not_lt_zero q)) (fun q _ h => absurd h (Nat.not_lt_zero q)) ?_
    refine Rely.Chain.det ?_ (by rfl) (fun T xs wr hA => ?_) ?_
    rotate_left 1
    · have e7 := hA.pre 7 (by kernel_rfl)
      simp only [List.getElem?_toArray, List.getElem?_cons_succ, List.getElem?_cons_zero] at e7
      have hBq : wr.heap[g4]? = _ := (hA.bl _ hlt_p (fun q h => absurd h (Nat.not_lt_zero q))).trans HB_p.out
      have q0 := cell_at (v := .int .i64 pk) hBq 0 rfl
      have q1 := cell_at (v := .string pnm) hBq 1 rfl
      have q2 := cell_at (v := .string pot) hBq 2 rfl
      have q3 := cell_at (v := .bool pb) hBq 3 rfl
      have q4 := cell_at (v := .slice pao pn pq) hBq 4 rfl
      have q5 := cell_at (v := .slice pko pkn pkc) hBq 5 rfl
      have q6 := cell_at (v := .int .i64 pln) hBq 6 rfl
      have q7 := cell_at (v := .int .i64 pcl) hBq 7 rfl
      clear hBq
      clear hA
      refine ⟨(by rfl), ?_⟩
      go_simp <;> (try with_reducible rfl)
    refine Rely.Chain.grow (fun _ v _ => v = .string ⟨st.toArray⟩) (fun _ _ _ _ h _ => h) rfl (by rfl) (fun T xs wr hA => ?_) ?_
    · have e39 := hA.tm 0 39 (by rfl) (by rfl)
      have f39 : xs 0 = _ := hA.fa 0 (by rfl)
      (try simp (disch := first | rfl | decide) only [Rely.mask_in] at f39)
      rw [f39] at e39
      clear f39
      have hbw := undrew (hA.be _ (Nat.le_refl _) (fun q h => absurd h (Nat.not_lt_zero q)))
      have htx := Lib.hid (HTXT.out wr hbw)
      clear hbw
      clear hA
      refine ⟨(by rfl), fun K hK => ?_⟩
      go_simp
      refine htx.out.mono ?_
      rintro e wq ⟨rfl, hb⟩
      exact hK.out _ _ rfl hb
    refine Rely.Chain.grow (fun _ v _ => v = .string ⟨b2.toArray⟩) (fun _ _ _ _ h _ => h) rfl (by rfl) (fun T xs wr hA => ?_) ?_
    · have e40 := hA.tm 1 40 (by rfl) (by rfl)
      have f40 : xs 1 = (.string ⟨st.toArray⟩) := hA.fa 1 (by rfl)
      rw [f40] at e40
      clear f40
      have hbw := undrew (hA.be _ (Nat.le_refl _) (fun q h => absurd h (Nat.not_lt_zero q)))
      clear hbw
      clear hA
      refine ⟨(by rfl), fun K hK => ?_⟩
      go_simp
      rw [if_neg (by omega)]
      rw [show (⟨#[123]⟩ ++ ⟨st.toArray⟩ : ByteArray) = ⟨b2.toArray⟩ from by rw [h2.out]; exact ByteArray.mk_append_mk _ _]
      exact hK.out _ _ rfl (Below.refl _ _)
    refine Rely.Chain.grow (fun _ v _ => v = .string ⟨ra.toArray⟩) (fun _ _ _ _ h _ => h) rfl (by rfl) (fun T xs wr hA => ?_) ?_
    · have e41 := hA.tm 2 41 (by rfl) (by rfl)
      have f41 : xs 2 = (.string ⟨b2.toArray⟩) := hA.fa 2 (by rfl)
      rw [f41] at e41
      clear f41
      have hbw := undrew (hA.be _ (Nat.le_refl _) (fun q h => absurd h (Nat.not_lt_zero q)))
      clear hbw
      clear hA
      refine ⟨(by rfl), fun K hK => ?_⟩
      go_simp
      rw [if_neg (by omega)]
      rw [show (⟨b2.toArray⟩ ++ ⟨#[125]⟩ : ByteArray) = ⟨ra.toArray⟩ from by rw [h3.out]; exact ByteArray.mk_append_mk _ _]
      exact hK.out _ _ rfl (Below.refl _ _)
    refine Rely.Chain.det ?_ (by rfl) (fun T xs wr hA => ?_) ?_
    rotate_left 1
    · have e8 := hA.pre 8 (by kernel_rfl)
      simp only [List.getElem?_toArray, List.getElem?_cons_succ, List.getElem?_cons_zero] at e8
      have hBq : wr.heap[g5]? = _ := (hA.bl _ hlt_q (fun q h => absurd h (Nat.not_lt_zero q))).trans HB_q.out
      have q0 := cell_at (v := .int .i64 qk) hBq 0 rfl
      have q1 := cell_at (v := .string qnm) hBq 1 rfl
      have q2 := cell_at (v := .string qot) hBq 2 rfl
      have q3 := cell_at (v := .bool qb) hBq 3 rfl
      have q4 := cell_at (v := .slice qao qn qq) hBq 4 rfl
      have q5 := cell_at (v := .slice qko qkn qkc) hBq 5 rfl
      have q6 := cell_at (v := .int .i64 qln) hBq 6 rfl
      have q7 := cell_at (v := .int .i64 qcl) hBq 7 rfl
      clear hBq
      clear hA
      refine ⟨(by rfl), ?_⟩
      go_simp <;> (try with_reducible rfl)
    refine Rely.Chain.grow (fun _ v _ => v = .string ⟨su.toArray⟩) (fun _ _ _ _ h _ => h) rfl (by rfl) (fun T xs wr hA => ?_) ?_
    · have e43 := hA.tm 4 43 (by rfl) (by rfl)
      have f43 : xs 4 = _ := hA.fa 4 (by rfl)
      (try simp (disch := first | rfl | decide) only [Rely.mask_in] at f43)
      rw [f43] at e43
      clear f43
      have hbw := undrew (hA.be _ (Nat.le_refl _) (fun q h => absurd h (Nat.not_lt_zero q)))
      have htx := Lib.hid (HTXU.out wr hbw)
      clear hbw
      clear hA
      refine ⟨(by rfl), fun K hK => ?_⟩
      go_simp
      refine htx.out.mono ?_
      rintro e wq ⟨rfl, hb⟩
      exact hK.out _ _ rfl hb
    refine Rely.Chain.grow (fun _ v _ => v = .string ⟨b6.toArray⟩) (fun _ _ _ _ h _ => h) rfl (by rfl) (fun T xs wr hA => ?_) ?_
    · have e44 := hA.tm 5 44 (by rfl) (by rfl)
      have f44 : xs 5 = (.string ⟨su.toArray⟩) := hA.fa 5 (by rfl)
      rw [f44] at e44
      clear f44
      have hbw := undrew (hA.be _ (Nat.le_refl _) (fun q h => absurd h (Nat.not_lt_zero q)))
      clear hbw
      clear hA
      refine ⟨(by rfl), fun K hK => ?_⟩
      go_simp
      rw [if_neg (by omega)]
      rw [show (⟨#[123]⟩ ++ ⟨su.toArray⟩ : ByteArray) = ⟨b6.toArray⟩ from by rw [h6.out]; exact ByteArray.mk_append_mk _ _]
      exact hK.out _ _ rfl (Below.refl _ _)
    refine Rely.Chain.grow (fun _ v _ => v = .string ⟨rb.toArray⟩) (fun _ _ _ _ h _ => h) rfl (by rfl) (fun T xs wr hA => ?_) ?_
    · have e45 := hA.tm 6 45 (by rfl) (by rfl)
      have f45 : xs 6 = (.string ⟨b6.toArray⟩) := hA.fa 6 (by rfl)
      rw [f45] at e45
      clear f45
      have hbw := undrew (hA.be _ (Nat.le_refl _) (fun q h => absurd h (Nat.not_lt_zero q)))
      clear hbw
      clear hA
      refine ⟨(by rfl), fun K hK => ?_⟩
      go_simp
      rw [if_neg (by omega)]
      rw [show (⟨b6.toArray⟩ ++ ⟨#[125]⟩ : ByteArray) = ⟨rb.toArray⟩ from by rw [h7.out]; exact ByteArray.mk_append_mk _ _]
      exact hK.out _ _ rfl (Below.refl _ _)
    refine Rely.Chain.det ?_ (by rfl) (fun T xs wr hA => ?_) ?_
    rotate_left 1
    · have e42 := hA.tm 3 42 (by rfl) (by rfl)
      have f42 : xs 3 = (.string ⟨ra.toArray⟩) := hA.fa 3 (by rfl)
      rw [f42] at e42
      clear f42
      clear hA
      refine ⟨(by rfl), ?_⟩
      go_simp <;> (try with_reducible rfl)
    refine Rely.Chain.det ?_ (by rfl) (fun T xs wr hA => ?_) ?_
    rotate_left 1
    · have e46 := hA.tm 7 46 (by rfl) (by rfl)
      have f46 : xs 7 = (.string ⟨rb.toArray⟩) := hA.fa 7 (by rfl)
      rw [f46] at e46
      clear f46
      clear hA
      refine ⟨(by rfl), ?_⟩
      go_simp <;> (try with_reducible rfl)
    refine Rely.Chain.done (fun xs W7 hL => ?_)
    obtain ⟨⟨hbe, hbl, hkp0⟩, hf, hp, hn⟩ := hL
    have f0 : xs 0 = _ := hf 0 (by decide)
    (try simp (disch := first | rfl | decide) only [Rely.mask_in] at f0)
    have f1 : xs 1 = (.string ⟨st.toArray⟩) := hf 1 (by decide)
    have f2 : xs 2 = (.string ⟨b2.toArray⟩) := hf 2 (by decide)
    have f3 : xs 3 = (.string ⟨ra.toArray⟩) := hf 3 (by decide)
    have f4 : xs 4 = _ := hf 4 (by decide)
    (try simp (disch := first | rfl | decide) only [Rely.mask_in] at f4)
    have f5 : xs 5 = (.string ⟨su.toArray⟩) := hf 5 (by decide)
    have f6 : xs 6 = (.string ⟨b6.toArray⟩) := hf 6 (by decide)
    have f7 : xs 7 = (.string ⟨rb.toArray⟩) := hf 7 (by decide)
    have f8 : xs 8 = _ := hf 8 (by decide)
    (try simp (disch := first | rfl | decide) only [Rely.mask_in] at f8)
    have f9 : xs 9 = _ := hf 9 (by decide)
    (try simp (disch := first | rfl | decide) only [Rely.mask_in] at f9)
    have hbx : Below W6.heap.size W6 W7 := undrew (hbe _ (Nat.le_refl _) (fun q h => absurd h (Nat.not_lt_zero q)))
    clear hbe hbl hkp0 hf hp hn
    replace HB_r := Lib.hid ((hbx.block _ hlt_r).trans HB_r.out)
    clear hlt_r
    replace HB_p := Lib.hid ((hbx.block _ hlt_p).trans HB_p.out)
    clear hlt_p
    replace HB_q := Lib.hid ((hbx.block _ hlt_q).trans HB_q.out)
    clear hlt_q
    refine Rely.rest_done ?_
    simp only [Rely.fill, List.setIfInBounds_toArray, List.set_cons_zero, List.set_cons_succ, f0, f1, f2, f3, f4, f5, f6, f7, f8, f9]
    clear f0 f1 f2 f3 f4 f5 f6 f7 f8 f9
    have HB7 := Lib.hid (HB6.out.trans (hbx.mono HB6.out.size))
    have HT7 := Lib.hid (HT6.out.below hbx)
    replace HTXT := Lib.hid (fun W (hW : Below W7.heap.size W7 W) => HTXT.out W (hbx.trans (hW.mono hbx.size)))
    replace HTXU := Lib.hid (fun W (hW : Below W7.heap.size W7 W) => HTXU.out W (hbx.trans (hW.mono hbx.size)))
    replace HPR := Lib.hid (fun W (hW : Below W7.heap.size W7 W) => HPR.out W (hbx.trans (hW.mono hbx.size)))
    clear hbx
    go_wp2_with fail
    obtain ⟨a4, ha4⟩ : ∃ a4, a4 = ([113, 117, 97, 108, 105, 102, 32, 81, 40, 118, 58, 32, 105, 110, 116, 44, 32, 121, 58, 32, 108, 105, 115, 116, 41, 58, 32] : Bs) ++ st := ⟨_, rfl⟩
    obtain ⟨a5, ha5⟩ : ∃ a5, a5 = (a4 : Bs) ++ [10, 102, 117, 110, 32, 102, 40, 97, 58, 32, 98, 111, 111, 108] := ⟨_, rfl⟩
    obtain ⟨a7, ha7⟩ : ∃ a7, a7 = (a5 : Bs) ++ ra := ⟨_, rfl⟩
    obtain ⟨a8, ha8⟩ : ∃ a8, a8 = (a7 : Bs) ++ [41, 58, 32, 105, 110, 116] := ⟨_, rfl⟩
    obtain ⟨a10, ha10⟩ : ∃ a10, a10 = (a8 : Bs) ++ rb := ⟨_, rfl⟩
    obtain ⟨a11, ha11⟩ : ∃ a11, a11 = (a10 : Bs) ++ [32, 61, 32] := ⟨_, rfl⟩
    obtain ⟨a14, ha14⟩ : ∃ a14, a14 = (a11 : Bs) ++ su := ⟨_, rfl⟩
    obtain ⟨a15, ha15⟩ : ∃ a15, a15 = (a14 : Bs) ++ [10, 102, 117, 110, 32, 103, 40, 41, 58, 32, 108, 105, 115, 116, 32, 61, 32] := ⟨_, rfl⟩
    obtain ⟨a18, ha18⟩ : ∃ a18, a18 = (a15 : Bs) ++ st := ⟨_, rfl⟩
    obtain ⟨a19, ha19⟩ : ∃ a19, a19 = (a18 : Bs) ++ [10] := ⟨_, rfl⟩
    rw [← ha4, ← ha5, ← ha7, ← ha8, ← ha10, ← ha11, ← ha14, ← ha15, ← ha18, ← ha19] at HPR
    have la4 : a4.length ≤ 31000 := by rw [ha4]; simp; omega
    have za4 : (⟨a4.toArray⟩ : ByteArray).size = a4.length := rfl
    have la5 : a5.length ≤ 62000 := by rw [ha5]; simp; omega
    have za5 : (⟨a5.toArray⟩ : ByteArray).size = a5.length := rfl
    have la7 : a7.length ≤ 93000 := by rw [ha7]; simp; omega
    have za7 : (⟨a7.toArray⟩ : ByteArray).size = a7.length := rfl
    have la8 : a8.length ≤ 124000 := by rw [ha8]; simp; omega
    have za8 : (⟨a8.toArray⟩ : ByteArray).size = a8.length := rfl
    have la10 : a10.length ≤ 155000 := by rw [ha10]; simp; omega
    have za10 : (⟨a10.toArray⟩ : ByteArray).size = a10.length := rfl
    have la11 : a11.length ≤ 186000 := by rw [ha11]; simp; omega
    have za11 : (⟨a11.toArray⟩ : ByteArray).size = a11.length := rfl
    have la14 : a14.length ≤ 217000 := by rw [ha14]; simp; omega
    have za14 : (⟨a14.toArray⟩ : ByteArray).size = a14.length := rfl
    have la15 : a15.length ≤ 248000 := by rw [ha15]; simp; omega
    have za15 : (⟨a15.toArray⟩ : ByteArray).size = a15.length := rfl
    have la18 : a18.length ≤ 279000 := by rw [ha18]; simp; omega
    have za18 : (⟨a18.toArray⟩ : ByteArray).size = a18.length := rfl
    have la19 : a19.length ≤ 310000 := by rw [ha19]; simp; omega
    have za19 : (⟨a19.toArray⟩ : ByteArray).size = a19.length := rfl
    replace ha4 := Lib.hid ha4
    replace ha5 := Lib.hid ha5
    replace ha7 := Lib.hid ha7
    replace ha8 := Lib.hid ha8
    replace ha10 := Lib.hid ha10
    replace ha11 := Lib.hid ha11
    replace ha14 := Lib.hid ha14
    replace ha15 := Lib.hid ha15
    replace ha18 := Lib.hid ha18
    replace ha19 := Lib.hid ha19
    have hlt_r := lt_of_block HB_r.out
    have hlt_p := lt_of_block HB_p.out
    have hlt_q := lt_of_block HB_q.out
    refine Rely.region (by kernel_rfl) [[], [0], [], [0, 1, 2], [0, 1, 2, 3], [0, 1, 2, 3, 4], [], [0, 1, 2, 3, 4, 5, 6], [0, 1, 2, 3, 4, 5, 6, 7], [], [0, 1, 2, 3, 4, 5, 6, 7, 8, 9], [0, 1, 2, 3, 4, 5, 6, 7, 8, 9, 10], [], [0, 1, 2, 3, 12], [0, 1, 2, 3, 4, 5, 6, 7, 8, 9, 10, 11, 12, 13], [0, 1, 2, 3, 4, 5, 6, 7, 8, 9, 10, 11, 12, 13, 14], [], [0, 1, 2, 3, 12, 13, 16], [0, 1, 2, 3, 4, 5, 6, 7, 8, 9, 10, 11, 12, 13, 14, 15, 16, 17], [0, 1, 2, 3, 4, 5, 6, 7, 8, 9, 10, 11, 12, 13, 14, 15, 16, 17, 18], [0, 1, 2, 3, 4, 5, 6, 7, 8, 9, 10, 11, 12, 13, 14, 15, 16, 17, 18, 19], [0, 1, 2, 3, 4, 5, 6, 7, 8, 9, 10, 11, 12, 13, 14, 15, 16, 17, 18, 19, 20]] [] [] (fun _ => 0) 0 22 (by kernel_rfl) (by kernel_rfl) (fun q h => absurd h (Nat.not_lt_zero q)) (fun q _ h => absurd h (Nat.not_lt_zero q)) ?_
    refine Rely.Chain.det ?_ (by rfl) (fun T xs wr hA => ?_) ?_
    rotate_left 1
    · have e9 := hA.pre 9 (by kernel_rfl)
      simp only [List.getElem?_toArray, List.getElem?_cons_succ, List.getElem?_cons_zero] at e9
      have hBq : wr.heap[k9]? = _ := (hA.bl _ hlt_r (fun q h => absurd h (Nat.not_lt_zero q))).trans HB_r.out
      have q0 := cell_at (v := .slice (some ⟨w5.heap.size + 1, 0, none⟩) 1 1) hBq 0 rfl
      have q1 := cell_at (v := .slice (some ⟨w5.heap.size + 3, 0, none⟩) 2 2) hBq 1 rfl
      clear hBq
      clear hA
      refine ⟨(by rfl), ?_⟩
      go_simp <;> (try with_reducible rfl)
    refine Rely.Chain.grow (fun _ v _ => v = .string ⟨a19.toArray⟩) (fun _ _ _ _ h _ => h) rfl (by rfl) (fun T xs wr hA => ?_) ?_
    · have e47 := hA.tm 0 47 (by rfl) (by rfl)
      have f47 : xs 0 = _ := hA.fa 0 (by rfl)
      (try simp (disch := first | rfl | decide) only [Rely.mask_in] at f47)
      rw [f47] at e47
      clear f47
      have hbw := undrew (hA.be _ (Nat.le_refl _) (fun q h => absurd h (Nat.not_lt_zero q)))
      have hpr := Lib.hid (HPR.out wr hbw)
      clear hbw
      clear hA
      refine ⟨(by rfl), fun K hK => ?_⟩
      go_simp
      refine hpr.out.mono ?_
      rintro e wq ⟨rfl, hb⟩
      exact hK.out _ _ rfl hb
    refine Rely.Chain.det ?_ (by rfl) (fun T xs wr hA => ?_) ?_
    rotate_left 1
    · have e7 := hA.pre 7 (by kernel_rfl)
      simp only [List.getElem?_toArray, List.getElem?_cons_succ, List.getElem?_cons_zero] at e7
      have hBq : wr.heap[g4]? = _ := (hA.bl _ hlt_p (fun q h => absurd h (Nat.not_lt_zero q))).trans HB_p.out
      have q0 := cell_at (v := .int .i64 pk) hBq 0 rfl
      have q1 := cell_at (v := .string pnm) hBq 1 rfl
      have q2 := cell_at (v := .string pot) hBq 2 rfl
      have q3 := cell_at (v := .bool pb) hBq 3 rfl
      have q4 := cell_at (v := .slice pao pn pq) hBq 4 rfl
      have q5 := cell_at (v := .slice pko pkn pkc) hBq 5 rfl
      have q6 := cell_at (v := .int .i64 pln) hBq 6 rfl
      have q7 := cell_at (v := .int .i64 pcl) hBq 7 rfl
      clear hBq
      clear hA
      refine ⟨(by rfl), ?_⟩
      go_simp <;> (try with_reducible rfl)
    refine Rely.Chain.grow (fun _ v _ => v = .string ⟨st.toArray⟩) (fun _ _ _ _ h _ => h) rfl (by rfl) (fun T xs wr hA => ?_) ?_
    · have e49 := hA.tm 2 49 (by rfl) (by rfl)
      have f49 : xs 2 = _ := hA.fa 2 (by rfl)
      (try simp (disch := first | rfl | decide) only [Rely.mask_in] at f49)
      rw [f49] at e49
      clear f49
      have hbw := undrew (hA.be _ (Nat.le_refl _) (fun q h => absurd h (Nat.not_lt_zero q)))
      have htx := Lib.hid (HTXT.out wr hbw)
      clear hbw
      clear hA
      refine ⟨(by rfl), fun K hK => ?_⟩
      go_simp
      refine htx.out.mono ?_
      rintro e wq ⟨rfl, hb⟩
      exact hK.out _ _ rfl hb
    refine Rely.Chain.grow (fun _ v _ => v = .string ⟨a4.toArray⟩) (fun _ _ _ _ h _ => h) rfl (by rfl) (fun T xs wr hA => ?_) ?_
    · have e50 := hA.tm 3 50 (by rfl) (by rfl)
      have f50 : xs 3 = (.string ⟨st.toArray⟩) := hA.fa 3 (by rfl)
      rw [f50] at e50
      clear f50
      have hbw := undrew (hA.be _ (Nat.le_refl _) (fun q h => absurd h (Nat.not_lt_zero q)))
      clear hbw
      clear hA
      refine ⟨(by rfl), fun K hK => ?_⟩
      go_simp
      rw [if_neg (by omega)]
      rw [show (⟨#[113, 117, 97, 108, 105, 102, 32, 81, 40, 118, 58, 32, 105, 110, 116, 44, 32, 121, 58, 32, 108, 105, 115, 116, 41, 58, 32]⟩ ++ ⟨st.toArray⟩ : ByteArray) = ⟨a4.toArray⟩ from by rw [ha4.out]; exact ByteArray.mk_append_mk _ _]
      exact hK.out _ _ rfl (Below.refl _ _)
    refine Rely.Chain.grow (fun _ v _ => v = .string ⟨a5.toArray⟩) (fun _ _ _ _ h _ => h) rfl (by rfl) (fun T xs wr hA => ?_) ?_
    · have e51 := hA.tm 4 51 (by rfl) (by rfl)
      have f51 : xs 4 = (.string ⟨a4.toArray⟩) := hA.fa 4 (by rfl)
      rw [f51] at e51
      clear f51
      have hbw := undrew (hA.be _ (Nat.le_refl _) (fun q h => absurd h (Nat.not_lt_zero q)))
      clear hbw
      clear hA
      refine ⟨(by rfl), fun K hK => ?_⟩
      go_simp
      rw [if_neg (by omega)]
      rw [show (⟨a4.toArray⟩ ++ ⟨#[10, 102, 117, 110, 32, 102, 40, 97, 58, 32, 98, 111, 111, 108]⟩ : ByteArray) = ⟨a5.toArray⟩ from by rw [ha5.out]; exact ByteArray.mk_append_mk _ _]
      exact hK.out _ _ rfl (Below.refl _ _)
    refine Rely.Chain.det ?_ (by rfl) (fun T xs wr hA => ?_) ?_
    rotate_left 1
    · have e10 := hA.pre 10 (by kernel_rfl)
      simp only [List.getElem?_toArray, List.getElem?_cons_succ, List.getElem?_cons_zero] at e10
      clear hA
      refine ⟨(by rfl), ?_⟩
      go_simp <;> (try with_reducible rfl)
    refine Rely.Chain.grow (fun _ v _ => v = .string ⟨a7.toArray⟩) (fun _ _ _ _ h _ => h) rfl (by rfl) (fun T xs wr hA => ?_) ?_
    · have e52 := hA.tm 5 52 (by rfl) (by rfl)
      have f52 : xs 5 = (.string ⟨a5.toArray⟩) := hA.fa 5 (by rfl)
      rw [f52] at e52
      clear f52
      have e53 := hA.tm 6 53 (by rfl) (by rfl)
      have f53 : xs 6 = _ := hA.fa 6 (by rfl)
      (try simp (disch := first | rfl | decide) only [Rely.mask_in] at f53)
      rw [f53] at e53
      clear f53
      have hbw := undrew (hA.be _ (Nat.le_refl _) (fun q h => absurd h (Nat.not_lt_zero q)))
      clear hbw
      clear hA
      refine ⟨(by rfl), fun K hK => ?_⟩
      go_simp
      rw [if_neg (by omega)]
      rw [show (⟨a5.toArray⟩ ++ ⟨ra.toArray⟩ : ByteArray) = ⟨a7.toArray⟩ from by rw [ha7.out]; exact ByteArray.mk_append_mk _ _]
      exact hK.out _ _ rfl (Below.refl _ _)
    refine Rely.Chain.grow (fun _ v _ => v = .string ⟨a8.toArray⟩) (fun _ _ _ _ h _ => h) rfl (by rfl) (fun T xs wr hA => ?_) ?_
    · have e54 := hA.tm 7 54 (by rfl) (by rfl)
      have f54 : xs 7 = (.string ⟨a7.toArray⟩) := hA.fa 7 (by rfl)
      rw [f54] at e54
      clear f54
      have hbw := undrew (hA.be _ (Nat.le_refl _) (fun q h => absurd h (Nat.not_lt_zero q)))
      clear hbw
      clear hA
      refine ⟨(by rfl), fun K hK => ?_⟩
      go_simp
      rw [if_neg (by omega)]
      rw [show (⟨a7.toArray⟩ ++ ⟨#[41, 58, 32, 105, 110, 116]⟩ : ByteArray) = ⟨a8.toArray⟩ from by rw [ha8.out]; exact ByteArray.mk_append_mk _ _]
      exact hK.out _ _ rfl (Below.refl _ _)
    refine Rely.Chain.det ?_ (by rfl) (fun T xs wr hA => ?_) ?_
    rotate_left 1
    · have e11 := hA.pre 11 (by kernel_rfl)
      simp only [List.getElem?_toArray, List.getElem?_cons_succ, List.getElem?_cons_zero] at e11
      clear hA
      refine ⟨(by rfl), ?_⟩
      go_simp <;> (try with_reducible rfl)
    refine Rely.Chain.grow (fun _ v _ => v = .string ⟨a10.toArray⟩) (fun _ _ _ _ h _ => h) rfl (by rfl) (fun T xs wr hA => ?_) ?_
    · have e55 := hA.tm 8 55 (by rfl) (by rfl)
      have f55 : xs 8 = (.string ⟨a8.toArray⟩) := hA.fa 8 (by rfl)
      rw [f55] at e55
      clear f55
      have e56 := hA.tm 9 56 (by rfl) (by rfl)
      have f56 : xs 9 = _ := hA.fa 9 (by rfl)
      (try simp (disch := first | rfl | decide) only [Rely.mask_in] at f56)
      rw [f56] at e56
      clear f56
      have hbw := undrew (hA.be _ (Nat.le_refl _) (fun q h => absurd h (Nat.not_lt_zero q)))
      clear hbw
      clear hA
      refine ⟨(by rfl), fun K hK => ?_⟩
      go_simp
      rw [if_neg (by omega)]
      rw [show (⟨a8.toArray⟩ ++ ⟨rb.toArray⟩ : ByteArray) = ⟨a10.toArray⟩ from by rw [ha10.out]; exact ByteArray.mk_append_mk _ _]
      exact hK.out _ _ rfl (Below.refl _ _)
    refine Rely.Chain.grow (fun _ v _ => v = .string ⟨a11.toArray⟩) (fun _ _ _ _ h _ => h) rfl (by rfl) (fun T xs wr hA => ?_) ?_
    · have e57 := hA.tm 10 57 (by rfl) (by rfl)
      have f57 : xs 10 = (.string ⟨a10.toArray⟩) := hA.fa 10 (by rfl)
      rw [f57] at e57
      clear f57
      have hbw := undrew (hA.be _ (Nat.le_refl _) (fun q h => absurd h (Nat.not_lt_zero q)))
      clear hbw
      clear hA
      refine ⟨(by rfl), fun K hK => ?_⟩
      go_simp
      rw [if_neg (by omega)]
      rw [show (⟨a10.toArray⟩ ++ ⟨#[32, 61, 32]⟩ : ByteArray) = ⟨a11.toArray⟩ from by rw [ha11.out]; exact ByteArray.mk_append_mk _ _]
      exact hK.out _ _ rfl (Below.refl _ _)
    refine Rely.Chain.det ?_ (by rfl) (fun T xs wr hA => ?_) ?_
    rotate_left 1
    · have e8 := hA.pre 8 (by kernel_rfl)
      simp only [List.getElem?_toArray, List.getElem?_cons_succ, List.getElem?_cons_zero] at e8
      have hBq : wr.heap[g5]? = _ := (hA.bl _ hlt_q (fun q h => absurd h (Nat.not_lt_zero q))).trans HB_q.out
      have q0 := cell_at (v := .int .i64 qk) hBq 0 rfl
      have q1 := cell_at (v := .string qnm) hBq 1 rfl
      have q2 := cell_at (v := .string qot) hBq 2 rfl
      have q3 := cell_at (v := .bool qb) hBq 3 rfl
      have q4 := cell_at (v := .slice qao qn qq) hBq 4 rfl
      have q5 := cell_at (v := .slice qko qkn qkc) hBq 5 rfl
      have q6 := cell_at (v := .int .i64 qln) hBq 6 rfl
      have q7 := cell_at (v := .int .i64 qcl) hBq 7 rfl
      clear hBq
      clear hA
      refine ⟨(by rfl), ?_⟩
      go_simp <;> (try with_reducible rfl)
    refine Rely.Chain.grow (fun _ v _ => v = .string ⟨su.toArray⟩) (fun _ _ _ _ h _ => h) rfl (by rfl) (fun T xs wr hA => ?_) ?_
    · have e59 := hA.tm 12 59 (by rfl) (by rfl)
      have f59 : xs 12 = _ := hA.fa 12 (by rfl)
      (try simp (disch := first | rfl | decide) only [Rely.mask_in] at f59)
      rw [f59] at e59
      clear f59
      have hbw := undrew (hA.be _ (Nat.le_refl _) (fun q h => absurd h (Nat.not_lt_zero q)))
      have htx := Lib.hid (HTXU.out wr hbw)
      clear hbw
      clear hA
      refine ⟨(by rfl), fun K hK => ?_⟩
      go_simp
      refine htx.out.mono ?_
      rintro e wq ⟨rfl, hb⟩
      exact hK.out _ _ rfl hb
    refine Rely.Chain.grow (fun _ v _ => v = .string ⟨a14.toArray⟩) (fun _ _ _ _ h _ => h) rfl (by rfl) (fun T xs wr hA => ?_) ?_
    · have e58 := hA.tm 11 58 (by rfl) (by rfl)
      have f58 : xs 11 = (.string ⟨a11.toArray⟩) := hA.fa 11 (by rfl)
      rw [f58] at e58
      clear f58
      have e60 := hA.tm 13 60 (by rfl) (by rfl)
      have f60 : xs 13 = (.string ⟨su.toArray⟩) := hA.fa 13 (by rfl)
      rw [f60] at e60
      clear f60
      have hbw := undrew (hA.be _ (Nat.le_refl _) (fun q h => absurd h (Nat.not_lt_zero q)))
      clear hbw
      clear hA
      refine ⟨(by rfl), fun K hK => ?_⟩
      go_simp
      rw [if_neg (by omega)]
      rw [show (⟨a11.toArray⟩ ++ ⟨su.toArray⟩ : ByteArray) = ⟨a14.toArray⟩ from by rw [ha14.out]; exact ByteArray.mk_append_mk _ _]
      exact hK.out _ _ rfl (Below.refl _ _)
    refine Rely.Chain.grow (fun _ v _ => v = .string ⟨a15.toArray⟩) (fun _ _ _ _ h _ => h) rfl (by rfl) (fun T xs wr hA => ?_) ?_
    · have e61 := hA.tm 14 61 (by rfl) (by rfl)
      have f61 : xs 14 = (.string ⟨a14.toArray⟩) := hA.fa 14 (by rfl)
      rw [f61] at e61
      clear f61
      have hbw := undrew (hA.be _ (Nat.le_refl _) (fun q h => absurd h (Nat.not_lt_zero q)))
      clear hbw
      clear hA
      refine ⟨(by rfl), fun K hK => ?_⟩
      go_simp
      rw [if_neg (by omega)]
      rw [show (⟨a14.toArray⟩ ++ ⟨#[10, 102, 117, 110, 32, 103, 40, 41, 58, 32, 108, 105, 115, 116, 32, 61, 32]⟩ : ByteArray) = ⟨a15.toArray⟩ from by rw [ha15.out]; exact ByteArray.mk_append_mk _ _]
      exact hK.out _ _ rfl (Below.refl _ _)
    refine Rely.Chain.det ?_ (by rfl) (fun T xs wr hA => ?_) ?_
    rotate_left 1
    · have e7 := hA.pre 7 (by kernel_rfl)
      simp only [List.getElem?_toArray, List.getElem?_cons_succ, List.getElem?_cons_zero] at e7
      have hBq : wr.heap[g4]? = _ := (hA.bl _ hlt_p (fun q h => absurd h (Nat.not_lt_zero q))).trans HB_p.out
      have q0 := cell_at (v := .int .i64 pk) hBq 0 rfl
      have q1 := cell_at (v := .string pnm) hBq 1 rfl
      have q2 := cell_at (v := .string pot) hBq 2 rfl
      have q3 := cell_at (v := .bool pb) hBq 3 rfl
      have q4 := cell_at (v := .slice pao pn pq) hBq 4 rfl
      have q5 := cell_at (v := .slice pko pkn pkc) hBq 5 rfl
      have q6 := cell_at (v := .int .i64 pln) hBq 6 rfl
      have q7 := cell_at (v := .int .i64 pcl) hBq 7 rfl
      clear hBq
      clear hA
      refine ⟨(by rfl), ?_⟩
      go_simp <;> (try with_reducible rfl)
    refine Rely.Chain.grow (fun _ v _ => v = .string ⟨st.toArray⟩) (fun _ _ _ _ h _ => h) rfl (by rfl) (fun T xs wr hA => ?_) ?_
    · have e63 := hA.tm 16 63 (by rfl) (by rfl)
      have f63 : xs 16 = _ := hA.fa 16 (by rfl)
      (try simp (disch := first | rfl | decide) only [Rely.mask_in] at f63)
      rw [f63] at e63
      clear f63
      have hbw := undrew (hA.be _ (Nat.le_refl _) (fun q h => absurd h (Nat.not_lt_zero q)))
      have htx := Lib.hid (HTXT.out wr hbw)
      clear hbw
      clear hA
      refine ⟨(by rfl), fun K hK => ?_⟩
      go_simp
      refine htx.out.mono ?_
      rintro e wq ⟨rfl, hb⟩
      exact hK.out _ _ rfl hb
    refine Rely.Chain.grow (fun _ v _ => v = .string ⟨a18.toArray⟩) (fun _ _ _ _ h _ => h) rfl (by rfl) (fun T xs wr hA => ?_) ?_
    · have e62 := hA.tm 15 62 (by rfl) (by rfl)
      have f62 : xs 15 = (.string ⟨a15.toArray⟩) := hA.fa 15 (by rfl)
      rw [f62] at e62
      clear f62
      have e64 := hA.tm 17 64 (by rfl) (by rfl)
      have f64 : xs 17 = (.string ⟨st.toArray⟩) := hA.fa 17 (by rfl)
      rw [f64] at e64
      clear f64
      have hbw := undrew (hA.be _ (Nat.le_refl _) (fun q h => absurd h (Nat.not_lt_zero q)))
      clear hbw
      clear hA
      refine ⟨(by rfl), fun K hK => ?_⟩
      go_simp
      rw [if_neg (by omega)]
      rw [show (⟨a15.toArray⟩ ++ ⟨st.toArray⟩ : ByteArray) = ⟨a18.toArray⟩ from by rw [ha18.out]; exact ByteArray.mk_append_mk _ _]
      exact hK.out _ _ rfl (Below.refl _ _)
    refine Rely.Chain.grow (fun _ v _ => v = .string ⟨a19.toArray⟩) (fun _ _ _ _ h _ => h) rfl (by rfl) (fun T xs wr hA => ?_) ?_
    · have e65 := hA.tm 18 65 (by rfl) (by rfl)
      have f65 : xs 18 = (.string ⟨a18.toArray⟩) := hA.fa 18 (by rfl)
      rw [f65] at e65
      clear f65
      have hbw := undrew (hA.be _ (Nat.le_refl _) (fun q h => absurd h (Nat.not_lt_zero q)))
      clear hbw
      clear hA
      refine ⟨(by rfl), fun K hK => ?_⟩
      go_simp
      rw [if_neg (by omega)]
      rw [show (⟨a18.toArray⟩ ++ ⟨#[10]⟩ : ByteArray) = ⟨a19.toArray⟩ from by rw [ha19.out]; exact ByteArray.mk_append_mk _ _]
      exact hK.out _ _ rfl (Below.refl _ _)
    refine Rely.Chain.grow (fun _ v _ => v = .bool true) (fun _ _ _ _ h _ => h) rfl (by rfl) (fun T xs wr hA => ?_) ?_
    · have e48 := hA.tm 1 48 (by rfl) (by rfl)
      have f48 : xs 1 = (.string ⟨a19.toArray⟩) := hA.fa 1 (by rfl)
      rw [f48] at e48
      clear f48
      have e66 := hA.tm 19 66 (by rfl) (by rfl)
      have f66 : xs 19 = (.string ⟨a19.toArray⟩) := hA.fa 19 (by rfl)
      rw [f66] at e66
      clear f66
      have hbw := undrew (hA.be _ (Nat.le_refl _) (fun q h => absurd h (Nat.not_lt_zero q)))
      clear hbw
      clear hA
      refine ⟨(by rfl), fun K hK => ?_⟩
      go_simp
      exact hK.out _ _ rfl (Below.refl _ _)
    refine Rely.Chain.det ?_ (by rfl) (fun T xs wr hA => ?_) ?_
    rotate_left 1
    · have e67 := hA.tm 20 67 (by rfl) (by rfl)
      have f67 : xs 20 = (.bool true) := hA.fa 20 (by rfl)
      rw [f67] at e67
      clear f67
      clear hA
      refine ⟨(by rfl), ?_⟩
      go_simp <;> (try with_reducible rfl)
    refine Rely.Chain.done (fun xs W8 hL => ?_)
    obtain ⟨⟨hbe, hbl, hkp0⟩, hf, hp, hn⟩ := hL
    have f0 : xs 0 = _ := hf 0 (by decide)
    (try simp (disch := first | rfl | decide) only [Rely.mask_in] at f0)
    have f1 : xs 1 = (.string ⟨a19.toArray⟩) := hf 1 (by decide)
    have f2 : xs 2 = _ := hf 2 (by decide)
    (try simp (disch := first | rfl | decide) only [Rely.mask_in] at f2)
    have f3 : xs 3 = (.string ⟨st.toArray⟩) := hf 3 (by decide)
    have f4 : xs 4 = (.string ⟨a4.toArray⟩) := hf 4 (by decide)
    have f5 : xs 5 = (.string ⟨a5.toArray⟩) := hf 5 (by decide)
    have f6 : xs 6 = _ := hf 6 (by decide)
    (try simp (disch := first | rfl | decide) only [Rely.mask_in] at f6)
    have f7 : xs 7 = (.string ⟨a7.toArray⟩) := hf 7 (by decide)
    have f8 : xs 8 = (.string ⟨a8.toArray⟩) := hf 8 (by decide)
    have f9 : xs 9 = _ := hf 9 (by decide)
    (try simp (disch := first | rfl | decide) only [Rely.mask_in] at f9)
    have f10 : xs 10 = (.string ⟨a10.toArray⟩) := hf 10 (by decide)
    have f11 : xs 11 = (.string ⟨a11.toArray⟩) := hf 11 (by decide)
    have f12 : xs 12 = _ := hf 12 (by decide)
    (try simp (disch := first | rfl | decide) only [Rely.mask_in] at f12)
    have f13 : xs 13 = (.string ⟨su.toArray⟩) := hf 13 (by decide)
    have f14 : xs 14 = (.string ⟨a14.toArray⟩) := hf 14 (by decide)
    have f15 : xs 15 = (.string ⟨a15.toArray⟩) := hf 15 (by decide)
    have f16 : xs 16 = _ := hf 16 (by decide)
    (try simp (disch := first | rfl | decide) only [Rely.mask_in] at f16)
    have f17 : xs 17 = (.string ⟨st.toArray⟩) := hf 17 (by decide)
    have f18 : xs 18 = (.string ⟨a18.toArray⟩) := hf 18 (by decide)
    have f19 : xs 19 = (.string ⟨a19.toArray⟩) := hf 19 (by decide)
    have f20 : xs 20 = (.bool true) := hf 20 (by decide)
    have f21 : xs 21 = _ := hf 21 (by decide)
    (try simp (disch := first | rfl | decide) only [Rely.mask_in] at f21)
    have hbx : Below W7.heap.size W7 W8 := undrew (hbe _ (Nat.le_refl _) (fun q h => absurd h (Nat.not_lt_zero q)))
    clear hbe hbl hkp0 hf hp hn
    replace HB_r := Lib.hid ((hbx.block _ hlt_r).trans HB_r.out)
    clear hlt_r
    replace HB_p := Lib.hid ((hbx.block _ hlt_p).trans HB_p.out)
    clear hlt_p
    replace HB_q := Lib.hid ((hbx.block _ hlt_q).trans HB_q.out)
    clear hlt_q
    refine Rely.rest_done ?_
    simp only [Rely.fill, List.setIfInBounds_toArray, List.set_cons_zero, List.set_cons_succ, f0, f1, f2, f3, f4, f5, f6, f7, f8, f9, f10, f11, f12, f13, f14, f15, f16, f17, f18, f19, f20, f21]
    clear f0 f1 f2 f3 f4 f5 f6 f7 f8 f9 f10 f11 f12 f13 f14 f15 f16 f17 f18 f19 f20 f21
    have HBX := Lib.hid hbx
    clear hbx
    go_wp2_with fail
    go_ret
    exact ⟨rfl, HB7.out.trans (HBX.out.mono HB7.out.size)⟩
end Go.Proofs.YtcdacmbcecjliaaDoor
