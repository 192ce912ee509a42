/-
  Contracts of package whole: Div.
-/
import Derived.Test.YtbkeildnhimfbaaDoorWhoE
namespace Go.Proofs.YtbkeildnhimfbaaDoor
open Go.RowKit
set_option maxRecDepth 100000

theorem div_d {va vb : Value} {m n k1 k2 : Nat} {w : World} (hx : GN w va m k1) (hy : GN w vb n k2) (h1 : k1 ≤ 900000) (h0 : 0 < n) :
    Calls Tryd.prog 50 #[va, vb] w fun e w' => ∃ q r, e = .returned (.tuple #[q, r, .bool true]) ∧ Sl w' .u32 q (dig L32 (m / n)) ∧ Sl w' .u32 r (dig L32 (m % n)) ∧ Below w.heap.size w w' := div_n hx hy h1 h0

theorem blocks4 {w w1 : World} {T1 T2 T3 T4 : TypeId} {c1 c2 c3 c4 : Array Value} (hb : Below (w.heap.size + 4) ((((w.alloc (.cells c1 T1)).alloc (.cells c2 T2)).alloc (.cells c3 T3)).alloc (.cells c4 T4)) w1) :
    w1.heap[w.heap.size]? = some (.cells c1 T1 (0, 0)) ∧ w1.heap[w.heap.size + 1]? = some (.cells c2 T2 (0, 0)) ∧ w1.heap[w.heap.size + 2]? = some (.cells c3 T3 (0, 0)) ∧ w1.heap[w.heap.size + 3]? = some (.cells c4 T4 (0, 0)) := by
  have h1 := heap_alloc_new (((w.alloc (.cells c1 T1)).alloc (.cells c2 T2)).alloc (.cells c3 T3)) (.cells c4 T4)
  obtain ⟨a, b, c⟩ := blocks3 (Below.refl (w.heap.size + 3) (((w.alloc (.cells c1 T1)).alloc (.cells c2 T2)).alloc (.cells c3 T3)))
  refine ⟨(hb.block _ (by omega)).trans ?_, (hb.block _ (by omega)).trans ?_, (hb.block _ (by omega)).trans ?_, (hb.block _ (by omega)).trans (by simpa using h1)⟩
  · rw [Below.heap_alloc _ _ _ (by simp; omega)]; exact a
  · rw [Below.heap_alloc _ _ _ (by simp)]; exact b
  · rw [Below.heap_alloc _ _ _ (by simp)]; exact c
theorem below4 (w : World) (o1 o2 o3 o4 : Obj) : Below w.heap.size w ((((w.alloc o1).alloc o2).alloc o3).alloc o4) := (below3 w o1 o2 o3).alloc (by simp; omega) _

/-- The blocks of a division's call: the two arguments' boxes and the two results'. -/
def Four (w' : World) (g : Nat) (T : TypeId) (b : Bool) (s : Value) (d : Bool) (t : Value) : Prop :=
  w'.heap[g]? = some (.cells #[.bool b, s] T (0, 0)) ∧ w'.heap[g + 1]? = some (.cells #[.bool d, t] T (0, 0)) ∧
  w'.heap[g + 2]? = some (.cells #[.bool false, .slice none 0 0] T (0, 0)) ∧ w'.heap[g + 3]? = some (.cells #[.bool false, .slice none 0 0] T (0, 0))
theorem Four.below {w w' : World} {g : Nat} {T : TypeId} {b : Bool} {s : Value} {d : Bool} {t : Value} (h : Four w g T b s d t) (hb : Below w.heap.size w w') : Four w' g T b s d t :=
  ⟨(hb.block _ (lt_of_block h.1)).trans h.1, (hb.block _ (lt_of_block h.2.1)).trans h.2.1, (hb.block _ (lt_of_block h.2.2.1)).trans h.2.2.1, (hb.block _ (lt_of_block h.2.2.2)).trans h.2.2.2⟩

/-- Two results stored, one behind the other. -/
theorem CI.set4 {w : World} {v : Value} {z : Int} {k : Nat} (h : CI w v z k) {g g' : Nat} {T : TypeId} {b0 b1 : Bool} {a0 a1 : Option Addr} {n0 c0 n1 c1 : Nat} (hne : g ≠ g') (hB : w.heap[g]? = some (.cells #[.bool b0, .slice a0 n0 c0] T (0, 0))) (hC : w.heap[g']? = some (.cells #[.bool b1, .slice a1 n1 c1] T (0, 0))) (x y x' y' : Value) :
    CI ((((w.setCell ⟨g, 0, none⟩ x).setCell ⟨g, 1, none⟩ y).setCell ⟨g', 0, none⟩ x').setCell ⟨g', 1, none⟩ y') v z k := by
  refine (h.set2 hB x y).set2 (b0 := b1) (a0 := a1) (n0 := n1) (c0 := c1) (T := T) ?_ x' y'
  rw [Below.heap_setCell _ _ _ _ (fun e => hne e.symm), Below.heap_setCell _ _ _ _ (fun e => hne e.symm)]
  exact hC

theorem Sl.drew {w : World} {k : IntKind} {v : Value} {xs : List Nat} (h : Sl w k v xs) : Sl w.drew k v xs := h
theorem div_no {va vb : Value} {m k1 k2 : Nat} {w : World} (hx : GN w va m k1) (hy : GN w vb 0 k2) :
    Calls Tryd.prog 50 #[va, vb] w fun e w' => e = .returned (.tuple #[.slice none 0 0, .slice none 0 0, .bool false]) ∧ Below w.heap.size w w' := by
  obtain ⟨xs, hx, dx, rfl, lx⟩ := hx
  obtain ⟨ys, hy, dy, e0, ly⟩ := hy
  exact div_zero _ _ xs ys w hx hy dy e0

set_option maxHeartbeats 2000000 in
theorem wdiv_zero (va vb : Value) (y : Int) (k1 k2 : Nat) (w : World) (hx : GI w va y k1) (hy : GI w vb 0 k2) :
    Calls Tryd.prog 24 #[va, vb] w fun e w' => e = .returned (.tuple #[.agg #[.bool false, .slice none 0 0], .agg #[.bool false, .slice none 0 0], .bool false]) ∧ Below w.heap.size w w' := by
  obtain ⟨b, ao, l, c, m, rfl, hg, rfl⟩ := hx.shape
  obtain ⟨d, po, pl, pc, n, rfl, hg2, h0⟩ := hy.shape
  have hn0 : n = 0 := by rw [← sg_natAbs d n, ← h0]; rfl
  subst hn0
  clear h0
  have hW := below4 w (.cells #[.bool b, .slice ao l c] 25) (.cells #[.bool d, .slice po pl pc] 25) (.cells #[.bool false, .slice none 0 0] 25) (.cells #[.bool false, .slice none 0 0] 25)
  go_enter Tryd.func24, Tryd.ntmps24
  go_wp2_with fail
  refine (div_no ((((hg.alloc _).alloc _).alloc _).alloc _) ((((hg2.alloc _).alloc _).alloc _).alloc _)).mono ?_
  rintro e w2 ⟨rfl, hb2⟩
  obtain ⟨hk0, hk1, hk2, hk3⟩ := blocks4 (hb2.mono (by simp))
  have hb2t := hW.trans (hb2.mono (by simp; omega))
  clear hb2 hk0 hk1 hW
  obtain ⟨p0, p1, g0, g1⟩ := two_cells hk2
  obtain ⟨q0, q1, f0, f1⟩ := two_cells hk3
  clear hk2 hk3
  go_wp2_with fail
  exact bodyPost_ret (v := .tuple #[.agg #[.bool false, .slice none 0 0], .agg #[.bool false, .slice none 0 0], .bool false]) (by simp [results, Tryd.results24, go_sem, q0, q1, p0, p1]) rfl ⟨rfl, below_setg (below_setg hb2t (by omega) _ _) (by omega) _ _⟩

theorem sg_div {b d : Bool} {m n : Nat} (hn : 0 < n) (h : b = d ∨ m % n = 0) : Int.fdiv (sg b m) (sg d n) = sg (b != d) (m / n) ∧ Int.fmod (sg b m) (sg d n) = sg d (m % n) := by
  have hd := Nat.div_add_mod m n
  have hl := Nat.mod_lt m hn
  generalize m / n = q at *
  generalize m % n = r at *
  have hdz : (n : Int) * q + r = m := by exact_mod_cast hd
  cases d
  · have hp : sg false n > 0 := by simp [sg]; omega
    refine (Int.fdiv_fmod_unique hp).2 ?_
    cases b <;> simp [sg, Int.mul_neg] at * <;> (try subst h) <;> omega
  · have hp : sg true n < 0 := by simp [sg]; omega
    refine (Int.fdiv_fmod_unique' hp).2 ?_
    cases b <;> simp [sg, Int.neg_mul, Int.mul_neg] at * <;> (try subst h) <;> omega
theorem sg_div2 {b d : Bool} {m n : Nat} (hn : 0 < n) (h : b ≠ d) (hr : 0 < m % n) : Int.fdiv (sg b m) (sg d n) = sg (b != d) (m / n + 1) ∧ Int.fmod (sg b m) (sg d n) = sg d (n - m % n) := by
  have hd := Nat.div_add_mod m n
  have hl := Nat.mod_lt m hn
  generalize m / n = q at *
  generalize m % n = r at *
  have hdz : (n : Int) * q + r = m := by exact_mod_cast hd
  cases d
  · have hp : sg false n > 0 := by simp [sg]; omega
    refine (Int.fdiv_fmod_unique hp).2 ?_
    cases b <;> simp [sg, Int.mul_neg, Int.mul_add] at * <;> omega
  · have hp : sg true n < 0 := by simp [sg]; omega
    refine (Int.fdiv_fmod_unique' hp).2 ?_
    cases b <;> simp [sg, Int.neg_mul, Int.mul_neg, Int.mul_add] at * <;> omega

set_option maxHeartbeats 4000000 in
theorem wdiv_plain (b d s : Bool) (ao po : Option Addr) (l c pl pc m n k1 k2 : Nat) (w : World) (hg : GN w (.slice ao l c) m k1) (hg2 : GN w (.slice po pl pc) n k2) (h1 : k1 ≤ 900000) (h0 : 0 < n) (hs : s = (b != d)) (h : b = d ∨ m % n = 0) :
    Calls Tryd.prog 24 #[.agg #[.bool b, .slice ao l c], .agg #[.bool d, .slice po pl pc]] w fun e w' => ∃ q r, e = .returned (.tuple #[q, r, .bool true]) ∧ CI w' q (sg s (m / n)) (k1 + 3) ∧ CI w' r (sg d (m % n)) k2 ∧ Below w.heap.size w w' := by
  have hqn : m / n < L32 ^ (k1 + 3) := lt_pow_more (k := k1) (Nat.lt_of_le_of_lt (Nat.div_le_self _ _) hg.lt) (by omega)
  have hrn : m % n < L32 ^ k2 := Nat.lt_trans (Nat.mod_lt _ h0) hg2.lt
  cases b <;> cases d
  · obtain rfl : s = false := hs
    have hW := below4 w (.cells #[.bool false, .slice ao l c] 25) (.cells #[.bool false, .slice po pl pc] 25) (.cells #[.bool false, .slice none 0 0] 25) (.cells #[.bool false, .slice none 0 0] 25)
    clear h
    go_enter Tryd.func24, Tryd.ntmps24
    go_wp2_with fail
    refine (div_d ((((hg.alloc _).alloc _).alloc _).alloc _) ((((hg2.alloc _).alloc _).alloc _).alloc _) h1 h0).mono ?_
    rintro e w2 ⟨vq, vr, rfl, sq, sr, hb2⟩
    have h4 : Four w2 w.heap.size 25 false (.slice ao l c) false (.slice po pl pc) := blocks4 (hb2.mono (by simp))
    have hb4t := hW.trans (hb2.mono (by simp; omega))
    clear hb2 hW
    obtain ⟨qo, qc, rfl⟩ := sl_shape sq
    obtain ⟨ro, rc, rfl⟩ := sl_shape sr
    obtain ⟨kc0, kc1, _, _⟩ := two_cells h4.1
    obtain ⟨kd0, kd1, _, _⟩ := two_cells h4.2.1
    go_wp2_with fail
    go_region_held3 (fun w' => w'.cell? ⟨w.heap.size, 0, none⟩ = some (.bool false) ∧ w'.cell? ⟨w.heap.size + 1, 0, none⟩ = some (.bool false))
      (first | exact ⟨kc0, kd0⟩ | exact ⟨(far2 (by omega)).trans kc0, (far2 (by omega)).trans kd0⟩ | exact ⟨(far2 (by omega)).trans ((far2 (by omega)).trans kc0), (far2 (by omega)).trans ((far2 (by omega)).trans kd0)⟩ | go_keep)
      (first
        | (go_at_call 38; (with_reducible refine (signed_any _ (.slice ro _ rc) (m % n) k2 _ sr5 hrn).mono ?_); rintro e w6 ⟨v6, rfl, c6, hb6⟩; obtain ⟨cb, co, cl, cc, rfl⟩ := c6.shape
           have h46 := h45.below hb6; have hb6t := hb5t.trans (hb6.mono hb5t.size); have c56 := c5.below hb6; clear hb6 kc0 kd0 kc1 kd1
           obtain ⟨kc0, kc1, _, _⟩ := two_cells h46.1; obtain ⟨kd0, kd1, _, _⟩ := two_cells h46.2.1; obtain ⟨p0, p1, g0, g1⟩ := two_cells h46.2.2.1; obtain ⟨q0, q1, f0, f1⟩ := two_cells h46.2.2.2; have H46 := Lib.hid h46; clear h46 h45)
        | (go_at_call 38; (with_reducible refine (signed_any _ (.slice qo _ qc) (m / n) (k1 + 3) _ (Sl.drew sq) hqn).mono ?_); rintro e w5 ⟨v5, rfl, c5, hb5'⟩; have hb5 := undrew hb5'; clear hb5'; obtain ⟨bb, bo, bl, bc, rfl⟩ := c5.shape
           have h45 := h4.below hb5; have hb5t := hb4t.trans (hb5.mono hb4t.size); have sr5 := sr.below hb5; clear hb5 kc0 kd0
           obtain ⟨kc0, kc1, _, _⟩ := two_cells h45.1; obtain ⟨kd0, kd1, _, _⟩ := two_cells h45.2.1))
    go_wp2_with fail
    exact bodyPost_ret (v := .tuple #[.agg #[.bool bb, .slice bo bl bc], .agg #[.bool cb, .slice co cl cc], .bool true]) (by simp [results, Tryd.results24, go_sem, q0, q1, p0, p1]) rfl ⟨_, _, rfl, c56.set4 (by omega) H46.out.2.2.1 H46.out.2.2.2 _ _ _ _, c6.set4 (by omega) H46.out.2.2.1 H46.out.2.2.2 _ _ _ _, below_setg (below_setg hb6t (by omega) _ _) (by omega) _ _⟩
  · obtain rfl : s = true := hs
    have hW := below4 w (.cells #[.bool false, .slice ao l c] 25) (.cells #[.bool true, .slice po pl pc] 25) (.cells #[.bool false, .slice none 0 0] 25) (.cells #[.bool false, .slice none 0 0] 25)
    have hl0 : (dig L32 (m % n)).length ≤ 0 := by
      rcases h with h | h
      · cases h
      · rw [h, dig_zero]; exact Nat.le_refl _
    clear h
    go_enter Tryd.func24, Tryd.ntmps24
    go_wp2_with fail
    refine (div_d ((((hg.alloc _).alloc _).alloc _).alloc _) ((((hg2.alloc _).alloc _).alloc _).alloc _) h1 h0).mono ?_
    rintro e w2 ⟨vq, vr, rfl, sq, sr, hb2⟩
    have h4 : Four w2 w.heap.size 25 false (.slice ao l c) true (.slice po pl pc) := blocks4 (hb2.mono (by simp))
    have hb4t := hW.trans (hb2.mono (by simp; omega))
    clear hb2 hW
    obtain ⟨qo, qc, rfl⟩ := sl_shape sq
    obtain ⟨ro, rc, rfl⟩ := sl_shape sr
    obtain ⟨kc0, kc1, _, _⟩ := two_cells h4.1
    obtain ⟨kd0, kd1, _, _⟩ := two_cells h4.2.1
    go_wp2_with fail
    go_region_held3 (fun w' => w'.cell? ⟨w.heap.size, 0, none⟩ = some (.bool false) ∧ w'.cell? ⟨w.heap.size + 1, 0, none⟩ = some (.bool true))
      (first | exact ⟨kc0, kd0⟩ | exact ⟨(far2 (by omega)).trans kc0, (far2 (by omega)).trans kd0⟩ | exact ⟨(far2 (by omega)).trans ((far2 (by omega)).trans kc0), (far2 (by omega)).trans ((far2 (by omega)).trans kd0)⟩ | go_keep)
      (first
        | (go_at_call 38; (with_reducible refine (signed_any _ (.slice ro _ rc) (m % n) k2 _ sr5 hrn).mono ?_); rintro e w6 ⟨v6, rfl, c6, hb6⟩; obtain ⟨cb, co, cl, cc, rfl⟩ := c6.shape
           have h46 := h45.below hb6; have hb6t := hb5t.trans (hb6.mono hb5t.size); have c56 := c5.below hb6; clear hb6 kc0 kd0 kc1 kd1
           obtain ⟨kc0, kc1, _, _⟩ := two_cells h46.1; obtain ⟨kd0, kd1, _, _⟩ := two_cells h46.2.1; obtain ⟨p0, p1, g0, g1⟩ := two_cells h46.2.2.1; obtain ⟨q0, q1, f0, f1⟩ := two_cells h46.2.2.2; have H46 := Lib.hid h46; clear h46 h45)
        | (go_at_call 38; (with_reducible refine (signed_any _ (.slice qo _ qc) (m / n) (k1 + 3) _ (Sl.drew sq) hqn).mono ?_); rintro e w5 ⟨v5, rfl, c5, hb5'⟩; have hb5 := undrew hb5'; clear hb5'; obtain ⟨bb, bo, bl, bc, rfl⟩ := c5.shape
           have h45 := h4.below hb5; have hb5t := hb4t.trans (hb5.mono hb4t.size); have sr5 := sr.below hb5; clear hb5 kc0 kd0
           obtain ⟨kc0, kc1, _, _⟩ := two_cells h45.1; obtain ⟨kd0, kd1, _, _⟩ := two_cells h45.2.1))
    go_wp2_with fail
    exact bodyPost_ret (v := .tuple #[.agg #[.bool bb, .slice bo bl bc], .agg #[.bool cb, .slice co cl cc], .bool true]) (by simp [results, Tryd.results24, go_sem, q0, q1, p0, p1]) rfl ⟨_, _, rfl, c56.set4 (by omega) H46.out.2.2.1 H46.out.2.2.2 _ _ _ _, c6.set4 (by omega) H46.out.2.2.1 H46.out.2.2.2 _ _ _ _, below_setg (below_setg hb6t (by omega) _ _) (by omega) _ _⟩
  · obtain rfl : s = true := hs
    have hW := below4 w (.cells #[.bool true, .slice ao l c] 25) (.cells #[.bool false, .slice po pl pc] 25) (.cells #[.bool false, .slice none 0 0] 25) (.cells #[.bool false, .slice none 0 0] 25)
    have hl0 : (dig L32 (m % n)).length ≤ 0 := by
      rcases h with h | h
      · cases h
      · rw [h, dig_zero]; exact Nat.le_refl _
    clear h
    go_enter Tryd.func24, Tryd.ntmps24
    go_wp2_with fail
    refine (div_d ((((hg.alloc _).alloc _).alloc _).alloc _) ((((hg2.alloc _).alloc _).alloc _).alloc _) h1 h0).mono ?_
    rintro e w2 ⟨vq, vr, rfl, sq, sr, hb2⟩
    have h4 : Four w2 w.heap.size 25 true (.slice ao l c) false (.slice po pl pc) := blocks4 (hb2.mono (by simp))
    have hb4t := hW.trans (hb2.mono (by simp; omega))
    clear hb2 hW
    obtain ⟨qo, qc, rfl⟩ := sl_shape sq
    obtain ⟨ro, rc, rfl⟩ := sl_shape sr
    obtain ⟨kc0, kc1, _, _⟩ := two_cells h4.1
    obtain ⟨kd0, kd1, _, _⟩ := two_cells h4.2.1
    go_wp2_with fail
    go_region_held3 (fun w' => w'.cell? ⟨w.heap.size, 0, none⟩ = some (.bool true) ∧ w'.cell? ⟨w.heap.size + 1, 0, none⟩ = some (.bool false))
      (first | exact ⟨kc0, kd0⟩ | exact ⟨(far2 (by omega)).trans kc0, (far2 (by omega)).trans kd0⟩ | exact ⟨(far2 (by omega)).trans ((far2 (by omega)).trans kc0), (far2 (by omega)).trans ((far2 (by omega)).trans kd0)⟩ | go_keep)
      (first
        | (go_at_call 38; (with_reducible refine (signed_any _ (.slice ro _ rc) (m % n) k2 _ sr5 hrn).mono ?_); rintro e w6 ⟨v6, rfl, c6, hb6⟩; obtain ⟨cb, co, cl, cc, rfl⟩ := c6.shape
           have h46 := h45.below hb6; have hb6t := hb5t.trans (hb6.mono hb5t.size); have c56 := c5.below hb6; clear hb6 kc0 kd0 kc1 kd1
           obtain ⟨kc0, kc1, _, _⟩ := two_cells h46.1; obtain ⟨kd0, kd1, _, _⟩ := two_cells h46.2.1; obtain ⟨p0, p1, g0, g1⟩ := two_cells h46.2.2.1; obtain ⟨q0, q1, f0, f1⟩ := two_cells h46.2.2.2; have H46 := Lib.hid h46; clear h46 h45)
        | (go_at_call 38; (with_reducible refine (signed_any _ (.slice qo _ qc) (m / n) (k1 + 3) _ (Sl.drew sq) hqn).mono ?_); rintro e w5 ⟨v5, rfl, c5, hb5'⟩; have hb5 := undrew hb5'; clear hb5'; obtain ⟨bb, bo, bl, bc, rfl⟩ := c5.shape
           have h45 := h4.below hb5; have hb5t := hb4t.trans (hb5.mono hb4t.size); have sr5 := sr.below hb5; clear hb5 kc0 kd0
           obtain ⟨kc0, kc1, _, _⟩ := two_cells h45.1; obtain ⟨kd0, kd1, _, _⟩ := two_cells h45.2.1))
    go_wp2_with fail
    exact bodyPost_ret (v := .tuple #[.agg #[.bool bb, .slice bo bl bc], .agg #[.bool cb, .slice co cl cc], .bool true]) (by simp [results, Tryd.results24, go_sem, q0, q1, p0, p1]) rfl ⟨_, _, rfl, c56.set4 (by omega) H46.out.2.2.1 H46.out.2.2.2 _ _ _ _, c6.set4 (by omega) H46.out.2.2.1 H46.out.2.2.2 _ _ _ _, below_setg (below_setg hb6t (by omega) _ _) (by omega) _ _⟩
  · obtain rfl : s = false := hs
    have hW := below4 w (.cells #[.bool true, .slice ao l c] 25) (.cells #[.bool true, .slice po pl pc] 25) (.cells #[.bool false, .slice none 0 0] 25) (.cells #[.bool false, .slice none 0 0] 25)
    clear h
    go_enter Tryd.func24, Tryd.ntmps24
    go_wp2_with fail
    refine (div_d ((((hg.alloc _).alloc _).alloc _).alloc _) ((((hg2.alloc _).alloc _).alloc _).alloc _) h1 h0).mono ?_
    rintro e w2 ⟨vq, vr, rfl, sq, sr, hb2⟩
    have h4 : Four w2 w.heap.size 25 true (.slice ao l c) true (.slice po pl pc) := blocks4 (hb2.mono (by simp))
    have hb4t := hW.trans (hb2.mono (by simp; omega))
    clear hb2 hW
    obtain ⟨qo, qc, rfl⟩ := sl_shape sq
    obtain ⟨ro, rc, rfl⟩ := sl_shape sr
    obtain ⟨kc0, kc1, _, _⟩ := two_cells h4.1
    obtain ⟨kd0, kd1, _, _⟩ := two_cells h4.2.1
    go_wp2_with fail
    go_region_held3 (fun w' => w'.cell? ⟨w.heap.size, 0, none⟩ = some (.bool true) ∧ w'.cell? ⟨w.heap.size + 1, 0, none⟩ = some (.bool true))
      (first | exact ⟨kc0, kd0⟩ | exact ⟨(far2 (by omega)).trans kc0, (far2 (by omega)).trans kd0⟩ | exact ⟨(far2 (by omega)).trans ((far2 (by omega)).trans kc0), (far2 (by omega)).trans ((far2 (by omega)).trans kd0)⟩ | go_keep)
      (first
        | (go_at_call 38; (with_reducible refine (signed_any _ (.slice ro _ rc) (m % n) k2 _ sr5 hrn).mono ?_); rintro e w6 ⟨v6, rfl, c6, hb6⟩; obtain ⟨cb, co, cl, cc, rfl⟩ := c6.shape
           have h46 := h45.below hb6; have hb6t := hb5t.trans (hb6.mono hb5t.size); have c56 := c5.below hb6; clear hb6 kc0 kd0 kc1 kd1
           obtain ⟨kc0, kc1, _, _⟩ := two_cells h46.1; obtain ⟨kd0, kd1, _, _⟩ := two_cells h46.2.1; obtain ⟨p0, p1, g0, g1⟩ := two_cells h46.2.2.1; obtain ⟨q0, q1, f0, f1⟩ := two_cells h46.2.2.2; have H46 := Lib.hid h46; clear h46 h45)
        | (go_at_call 38; (with_reducible refine (signed_any _ (.slice qo _ qc) (m / n) (k1 + 3) _ (Sl.drew sq) hqn).mono ?_); rintro e w5 ⟨v5, rfl, c5, hb5'⟩; have hb5 := undrew hb5'; clear hb5'; obtain ⟨bb, bo, bl, bc, rfl⟩ := c5.shape
           have h45 := h4.below hb5; have hb5t := hb4t.trans (hb5.mono hb4t.size); have sr5 := sr.below hb5; clear hb5 kc0 kd0
           obtain ⟨kc0, kc1, _, _⟩ := two_cells h45.1; obtain ⟨kd0, kd1, _, _⟩ := two_cells h45.2.1))
    go_wp2_with fail
    exact bodyPost_ret (v := .tuple #[.agg #[.bool bb, .slice bo bl bc], .agg #[.bool cb, .slice co cl cc], .bool true]) (by simp [results, Tryd.results24, go_sem, q0, q1, p0, p1]) rfl ⟨_, _, rfl, c56.set4 (by omega) H46.out.2.2.1 H46.out.2.2.2 _ _ _ _, c6.set4 (by omega) H46.out.2.2.1 H46.out.2.2.2 _ _ _ _, below_setg (below_setg hb6t (by omega) _ _) (by omega) _ _⟩

set_option maxHeartbeats 4000000 in
theorem wdiv_adj (b d : Bool) (ao po : Option Addr) (l c pl pc m n k1 k2 : Nat) (w : World) (hg : GN w (.slice ao l c) m k1) (hg2 : GN w (.slice po pl pc) n k2) (h1 : k1 ≤ 900000) (h2 : k2 ≤ 900000) (h0 : 0 < n) (h : b ≠ d) (hr : 0 < m % n) :
    Calls Tryd.prog 24 #[.agg #[.bool b, .slice ao l c], .agg #[.bool d, .slice po pl pc]] w fun e w' => ∃ q r, e = .returned (.tuple #[q, r, .bool true]) ∧ CI w' q (sg true (m / n + 1)) (k1 + 3) ∧ CI w' r (sg d (n - m % n)) k2 ∧ Below w.heap.size w w' := by
  have hqn0 : m / n < L32 ^ k1 := Nat.lt_of_le_of_lt (Nat.div_le_self _ _) hg.lt
  have hqn : m / n + 1 < L32 ^ (k1 + 3) := by
    have h3 : 1 < L32 ^ 2 := by decide
    have := pow_add_lt hqn0 h3
    exact lt_pow_more this (by omega)
  have hrn0 : m % n < L32 ^ k2 := Nat.lt_trans (Nat.mod_lt _ h0) hg2.lt
  have hle : m % n ≤ n := Nat.le_of_lt (Nat.mod_lt _ h0)
  have hrn : n - m % n < L32 ^ k2 := Nat.lt_of_le_of_lt (Nat.sub_le _ _) hg2.lt
  have hl1 := dig_len_pos hr
  have h2' : k2 ≤ 1000000 := by omega
  cases b <;> cases d
  · exact absurd rfl h
  rotate_left 2
  · exact absurd rfl h
  all_goals clear h
  · have hW := below4 w (.cells #[.bool false, .slice ao l c] 25) (.cells #[.bool true, .slice po pl pc] 25) (.cells #[.bool false, .slice none 0 0] 25) (.cells #[.bool false, .slice none 0 0] 25)
    go_enter Tryd.func24, Tryd.ntmps24
    go_wp2_with fail
    refine (div_d ((((hg.alloc _).alloc _).alloc _).alloc _) ((((hg2.alloc _).alloc _).alloc _).alloc _) h1 h0).mono ?_
    rintro e w2 ⟨vq, vr, rfl, sq0, sr0, hb2⟩
    have h40 : Four w2 w.heap.size 25 false (.slice ao l c) true (.slice po pl pc) := blocks4 (hb2.mono (by simp))
    have hb2t := hW.trans (hb2.mono (by simp; omega))
    clear hb2 hW
    obtain ⟨qo0, qc0, rfl⟩ := sl_shape sq0
    obtain ⟨ro0, rc0, rfl⟩ := sl_shape sr0
    obtain ⟨kc0, kc1, _, _⟩ := two_cells h40.1
    obtain ⟨kd0, kd1, _, _⟩ := two_cells h40.2.1
    have gq0 := gn_dig sq0 hqn0
    have gr0 := gn_dig sr0 hrn0
    clear sq0 sr0
    go_wp2_with fail
    refine (of_n 1 _ w2 rfl (by decide)).mono ?_
    rintro e w7 ⟨v7, rfl, g7, hb7⟩
    have h47 := h40.below hb7
    have hb7t := hb2t.trans (hb7.mono hb2t.size)
    have gq7 := gq0.below hb7
    have gr7 := gr0.below hb7
    clear hb7 kc0 kc1 kd0 kd1 h40 gq0 gr0
    go_wp2_with fail
    refine (add_d gq7 g7 (by omega) (by omega)).mono ?_
    rintro e w8 ⟨v8, rfl, sq8, hb8⟩
    have h48 := h47.below hb8
    have hb8t := hb7t.trans (hb8.mono hb7t.size)
    have gr8 := gr7.below hb8
    obtain ⟨kd0, kd1, _, _⟩ := two_cells h48.2.1
    clear hb8 h47 gr7 gq7
    obtain ⟨qo, qc, rfl⟩ := sl_shape sq8
    go_wp2_with fail
    refine (sub_d (hg2.below hb8t) gr8 h2' hle).mono ?_
    rintro e w9 ⟨v9, rfl, sr, hb9⟩
    have h4 := h48.below hb9
    have hb4t := hb8t.trans (hb9.mono hb8t.size)
    have sq := sq8.below hb9
    clear hb9 h48 kd0 kd1 sq8 gr8
    obtain ⟨ro, rc, rfl⟩ := sl_shape sr
    obtain ⟨kc0, kc1, _, _⟩ := two_cells h4.1
    obtain ⟨kd0, kd1, _, _⟩ := two_cells h4.2.1
    go_wp2_with fail
    go_region_held3 (fun w' => w'.cell? ⟨w.heap.size, 0, none⟩ = some (.bool false) ∧ w'.cell? ⟨w.heap.size + 1, 0, none⟩ = some (.bool true))
      (first | exact ⟨kc0, kd0⟩ | exact ⟨(far2 (by omega)).trans kc0, (far2 (by omega)).trans kd0⟩ | exact ⟨(far2 (by omega)).trans ((far2 (by omega)).trans kc0), (far2 (by omega)).trans ((far2 (by omega)).trans kd0)⟩ | go_keep)
      (first
        | (go_at_call 38; (with_reducible refine (signed_any _ (.slice ro _ rc) (n - m % n) k2 _ sr5 hrn).mono ?_); rintro e w6 ⟨v6, rfl, c6, hb6⟩; obtain ⟨cb, co, cl, cc, rfl⟩ := c6.shape
           have h46 := h45.below hb6; have hb6t := hb5t.trans (hb6.mono hb5t.size); have c56 := c5.below hb6; clear hb6 kc0 kd0 kc1 kd1
           obtain ⟨kc0, kc1, _, _⟩ := two_cells h46.1; obtain ⟨kd0, kd1, _, _⟩ := two_cells h46.2.1; obtain ⟨p0, p1, g0, g1⟩ := two_cells h46.2.2.1; obtain ⟨q0, q1, f0, f1⟩ := two_cells h46.2.2.2; have H46 := Lib.hid h46; clear h46 h45)
        | (go_at_call 38; (with_reducible refine (signed_any _ (.slice qo _ qc) (m / n + 1) (k1 + 3) _ (Sl.drew sq) hqn).mono ?_); rintro e w5 ⟨v5, rfl, c5, hb5'⟩; have hb5 := undrew hb5'; clear hb5'; obtain ⟨bb, bo, bl, bc, rfl⟩ := c5.shape
           have h45 := h4.below hb5; have hb5t := hb4t.trans (hb5.mono hb4t.size); have sr5 := sr.below hb5; clear hb5 kc0 kd0
           obtain ⟨kc0, kc1, _, _⟩ := two_cells h45.1; obtain ⟨kd0, kd1, _, _⟩ := two_cells h45.2.1))
    go_wp2_with fail
    exact bodyPost_ret (v := .tuple #[.agg #[.bool bb, .slice bo bl bc], .agg #[.bool cb, .slice co cl cc], .bool true]) (by simp [results, Tryd.results24, go_sem, q0, q1, p0, p1]) rfl ⟨_, _, rfl, c56.set4 (by omega) H46.out.2.2.1 H46.out.2.2.2 _ _ _ _, c6.set4 (by omega) H46.out.2.2.1 H46.out.2.2.2 _ _ _ _, below_setg (below_setg hb6t (by omega) _ _) (by omega) _ _⟩
  · have hW := below4 w (.cells #[.bool true, .slice ao l c] 25) (.cells #[.bool false, .slice po pl pc] 25) (.cells #[.bool false, .slice none 0 0] 25) (.cells #[.bool false, .slice none 0 0] 25)
    go_enter Tryd.func24, Tryd.ntmps24
    go_wp2_with fail
    refine (div_d ((((hg.alloc _).alloc _).alloc _).alloc _) ((((hg2.alloc _).alloc _).alloc _).alloc _) h1 h0).mono ?_
    rintro e w2 ⟨vq, vr, rfl, sq0, sr0, hb2⟩
    have h40 : Four w2 w.heap.size 25 true (.slice ao l c) false (.slice po pl pc) := blocks4 (hb2.mono (by simp))
    have hb2t := hW.trans (hb2.mono (by simp; omega))
    clear hb2 hW
    obtain ⟨qo0, qc0, rfl⟩ := sl_shape sq0
    obtain ⟨ro0, rc0, rfl⟩ := sl_shape sr0
    obtain ⟨kc0, kc1, _, _⟩ := two_cells h40.1
    obtain ⟨kd0, kd1, _, _⟩ := two_cells h40.2.1
    have gq0 := gn_dig sq0 hqn0
    have gr0 := gn_dig sr0 hrn0
    clear sq0 sr0
    go_wp2_with fail
    refine (of_n 1 _ w2 rfl (by decide)).mono ?_
    rintro e w7 ⟨v7, rfl, g7, hb7⟩
    have h47 := h40.below hb7
    have hb7t := hb2t.trans (hb7.mono hb2t.size)
    have gq7 := gq0.below hb7
    have gr7 := gr0.below hb7
    clear hb7 kc0 kc1 kd0 kd1 h40 gq0 gr0
    go_wp2_with fail
    refine (add_d gq7 g7 (by omega) (by omega)).mono ?_
    rintro e w8 ⟨v8, rfl, sq8, hb8⟩
    have h48 := h47.below hb8
    have hb8t := hb7t.trans (hb8.mono hb7t.size)
    have gr8 := gr7.below hb8
    obtain ⟨kd0, kd1, _, _⟩ := two_cells h48.2.1
    clear hb8 h47 gr7 gq7
    obtain ⟨qo, qc, rfl⟩ := sl_shape sq8
    go_wp2_with fail
    refine (sub_d (hg2.below hb8t) gr8 h2' hle).mono ?_
    rintro e w9 ⟨v9, rfl, sr, hb9⟩
    have h4 := h48.below hb9
    have hb4t := hb8t.trans (hb9.mono hb8t.size)
    have sq := sq8.below hb9
    clear hb9 h48 kd0 kd1 sq8 gr8
    obtain ⟨ro, rc, rfl⟩ := sl_shape sr
    obtain ⟨kc0, kc1, _, _⟩ := two_cells h4.1
    obtain ⟨kd0, kd1, _, _⟩ := two_cells h4.2.1
    go_wp2_with fail
    go_region_held3 (fun w' => w'.cell? ⟨w.heap.size, 0, none⟩ = some (.bool true) ∧ w'.cell? ⟨w.heap.size + 1, 0, none⟩ = some (.bool false))
      (first | exact ⟨kc0, kd0⟩ | exact ⟨(far2 (by omega)).trans kc0, (far2 (by omega)).trans kd0⟩ | exact ⟨(far2 (by omega)).trans ((far2 (by omega)).trans kc0), (far2 (by omega)).trans ((far2 (by omega)).trans kd0)⟩ | go_keep)
      (first
        | (go_at_call 38; (with_reducible refine (signed_any _ (.slice ro _ rc) (n - m % n) k2 _ sr5 hrn).mono ?_); rintro e w6 ⟨v6, rfl, c6, hb6⟩; obtain ⟨cb, co, cl, cc, rfl⟩ := c6.shape
           have h46 := h45.below hb6; have hb6t := hb5t.trans (hb6.mono hb5t.size); have c56 := c5.below hb6; clear hb6 kc0 kd0 kc1 kd1
           obtain ⟨kc0, kc1, _, _⟩ := two_cells h46.1; obtain ⟨kd0, kd1, _, _⟩ := two_cells h46.2.1; obtain ⟨p0, p1, g0, g1⟩ := two_cells h46.2.2.1; obtain ⟨q0, q1, f0, f1⟩ := two_cells h46.2.2.2; have H46 := Lib.hid h46; clear h46 h45)
        | (go_at_call 38; (with_reducible refine (signed_any _ (.slice qo _ qc) (m / n + 1) (k1 + 3) _ (Sl.drew sq) hqn).mono ?_); rintro e w5 ⟨v5, rfl, c5, hb5'⟩; have hb5 := undrew hb5'; clear hb5'; obtain ⟨bb, bo, bl, bc, rfl⟩ := c5.shape
           have h45 := h4.below hb5; have hb5t := hb4t.trans (hb5.mono hb4t.size); have sr5 := sr.below hb5; clear hb5 kc0 kd0
           obtain ⟨kc0, kc1, _, _⟩ := two_cells h45.1; obtain ⟨kd0, kd1, _, _⟩ := two_cells h45.2.1))
    go_wp2_with fail
    exact bodyPost_ret (v := .tuple #[.agg #[.bool bb, .slice bo bl bc], .agg #[.bool cb, .slice co cl cc], .bool true]) (by simp [results, Tryd.results24, go_sem, q0, q1, p0, p1]) rfl ⟨_, _, rfl, c56.set4 (by omega) H46.out.2.2.1 H46.out.2.2.2 _ _ _ _, c6.set4 (by omega) H46.out.2.2.1 H46.out.2.2.2 _ _ _ _, below_setg (below_setg hb6t (by omega) _ _) (by omega) _ _⟩

theorem wdiv_any (va vb : Value) (y z : Int) (k1 k2 : Nat) (w : World) (hx : GI w va y k1) (hy : GI w vb z k2) (h1 : k1 ≤ 900000) (h2 : k2 ≤ 900000) (h0 : z ≠ 0) :
    Calls Tryd.prog 24 #[va, vb] w fun e w' => ∃ q r, e = .returned (.tuple #[q, r, .bool true]) ∧ CI w' q (Int.fdiv y z) (k1 + 3) ∧ CI w' r (Int.fmod y z) k2 ∧ Below w.heap.size w w' := by
  obtain ⟨b, ao, l, c, m, rfl, hg, rfl⟩ := hx.shape
  obtain ⟨d, po, pl, pc, n, rfl, hg2, rfl⟩ := hy.shape
  have hn : 0 < n := by
    rcases Nat.eq_zero_or_pos n with h | h
    · subst h; exact absurd (by cases d <;> rfl) h0
    · exact h
  by_cases h : b = d ∨ m % n = 0
  · obtain ⟨e1, e2⟩ := sg_div (b := b) (d := d) hn h
    rw [e1, e2]
    exact wdiv_plain b d _ ao po l c pl pc m n k1 k2 w hg hg2 h1 hn rfl h
  · have hbd : b ≠ d := fun e => h (Or.inl e)
    have hr : 0 < m % n := by
      rcases Nat.eq_zero_or_pos (m % n) with e | e
      · exact absurd (Or.inr e) h
      · exact e
    obtain ⟨e1, e2⟩ := sg_div2 (b := b) (d := d) hn hbd hr
    rw [e1, e2, show (b != d) = true by simpa using hbd]
    exact wdiv_adj b d ao po l c pl pc m n k1 k2 w hg hg2 h1 h2 hn hbd hr
end Go.Proofs.YtbkeildnhimfbaaDoor
