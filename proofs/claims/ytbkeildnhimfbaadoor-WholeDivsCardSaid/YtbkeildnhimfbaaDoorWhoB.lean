/-
  Contracts of package whole: Half, Neg, Sign, Bits, Mul, Gcd.
-/
import Derived.Test.YtbkeildnhimfbaaDoorWhoA
import Derived.Test.YtbkeildnhimfbaaDoorShA
import Derived.Test.YtbkeildnhimfbaaDoorGcdA
namespace Go.Proofs.YtbkeildnhimfbaaDoor
open Go.RowKit
set_option maxRecDepth 100000

theorem shr_n {va : Value} {n k : Nat} {z : Int} {w : World} (hx : GN w va n k) (hk : k ≤ 1000000) :
    Calls Tryd.prog 54 #[va, .int .i64 z] w fun e w' => ∃ v, e = .returned v ∧ Sl w' .u32 v (dig L32 (n / 2 ^ clampN z)) ∧ Below w.heap.size w w' := by
  obtain ⟨xs, hx, dx, rfl, lx⟩ := hx
  exact (shr_any _ xs z w hx dx (by omega)).mono fun _ _ ⟨v, he, hs, hb⟩ => ⟨v, he, hs, hb⟩
theorem mul_d {va vb : Value} {m n k1 k2 : Nat} {w : World} (hx : GN w va m k1) (hy : GN w vb n k2) (h1 : k1 ≤ 1000000) (h2 : k2 ≤ 1000000) :
    Calls Tryd.prog 44 #[va, vb] w fun e w' => ∃ v, e = .returned v ∧ Sl w' .u32 v (dig L32 (m * n)) ∧ Below w.heap.size w w' := by
  obtain ⟨xs, hx, dx, rfl, lx⟩ := hx
  obtain ⟨ys, hy, dy, rfl, ly⟩ := hy
  exact mul_any _ _ _ _ w hx hy dx dy (by omega) (by omega)
theorem add_d {va vb : Value} {m n k1 k2 : Nat} {w : World} (hx : GN w va m k1) (hy : GN w vb n k2) (h1 : k1 ≤ 1000000) (h2 : k2 ≤ 1000000) :
    Calls Tryd.prog 39 #[va, vb] w fun e w' => ∃ v, e = .returned v ∧ Sl w' .u32 v (dig L32 (m + n)) ∧ Below w.heap.size w w' := by
  obtain ⟨xs, hx, dx, rfl, lx⟩ := hx
  obtain ⟨ys, hy, dy, rfl, ly⟩ := hy
  exact add_any _ _ _ _ w hx hy dx dy (by omega) (by omega)
theorem gcd_d {va vb : Value} {m n k1 k2 : Nat} {w : World} (hx : GN w va m k1) (hy : GN w vb n k2) (h1 : k1 ≤ 900000) (h2 : k2 ≤ 900000) :
    Calls Tryd.prog 55 #[va, vb] w fun e w' => ∃ v, e = .returned v ∧ Sl w' .u32 v (dig L32 (Nat.gcd m n)) ∧ Below w.heap.size w w' := by
  obtain ⟨xs, hx, dx, rfl, lx⟩ := hx
  obtain ⟨ys, hy, dy, rfl, ly⟩ := hy
  exact gcd_any _ _ _ _ w hx hy dx dy (by omega) (by omega)
theorem GN.drew {w : World} {v : Value} {n k : Nat} (h : GN w v n k) : GN w.drew v n k := h
theorem GN.alloc {w : World} {v : Value} {n k : Nat} (h : GN w v n k) (o : Obj) : GN (w.alloc o) v n k := h.below ((Below.refl _ _).alloc (Nat.le_refl _) _)
theorem undrew {B : Nat} {w w1 : World} (h : Below B w.drew w1) : Below B w w1 := ⟨h.os, h.tape, h.output, h.size, h.block⟩

/-- The blocks that a function made at its beginning, behind what leaves them alone. -/
theorem blocks2 {w w1 : World} {T1 T2 : TypeId} {c1 c2 : Array Value} (hb : Below (w.heap.size + 2) ((w.alloc (.cells c1 T1)).alloc (.cells c2 T2)) w1) :
    w1.heap[w.heap.size]? = some (.cells c1 T1 (0, 0)) ∧ w1.heap[w.heap.size + 1]? = some (.cells c2 T2 (0, 0)) := by
  have h1 := heap_alloc_new (w.alloc (.cells c1 T1)) (.cells c2 T2)
  refine ⟨(hb.block _ (by omega)).trans ?_, (hb.block _ (by omega)).trans (by simpa using h1)⟩
  rw [Below.heap_alloc _ _ _ (by simp)]; exact heap_alloc_new w _
theorem blocks3 {w w1 : World} {T1 T2 T3 : TypeId} {c1 c2 c3 : Array Value} (hb : Below (w.heap.size + 3) (((w.alloc (.cells c1 T1)).alloc (.cells c2 T2)).alloc (.cells c3 T3)) w1) :
    w1.heap[w.heap.size]? = some (.cells c1 T1 (0, 0)) ∧ w1.heap[w.heap.size + 1]? = some (.cells c2 T2 (0, 0)) ∧ w1.heap[w.heap.size + 2]? = some (.cells c3 T3 (0, 0)) := by
  have h1 := heap_alloc_new ((w.alloc (.cells c1 T1)).alloc (.cells c2 T2)) (.cells c3 T3)
  obtain ⟨a, b⟩ := blocks2 (Below.refl (w.heap.size + 2) ((w.alloc (.cells c1 T1)).alloc (.cells c2 T2)))
  refine ⟨(hb.block _ (by omega)).trans ?_, (hb.block _ (by omega)).trans ?_, (hb.block _ (by omega)).trans (by simpa using h1)⟩
  · rw [Below.heap_alloc _ _ _ (by simp; omega)]; exact a
  · rw [Below.heap_alloc _ _ _ (by simp)]; exact b
theorem below2 (w : World) (o1 o2 : Obj) : Below w.heap.size w ((w.alloc o1).alloc o2) := ((Below.refl _ _).alloc (Nat.le_refl _) _).alloc (by simp) _
theorem below3 (w : World) (o1 o2 o3 : Obj) : Below w.heap.size w (((w.alloc o1).alloc o2).alloc o3) := (below2 w o1 o2).alloc (by simp; omega) _
theorem below_setg {B g : Nat} {w w' : World} (h : Below B w w') (hB : B ≤ g) (x y : Value) : Below B w ((w'.setCell ⟨g, 0, none⟩ x).setCell ⟨g, 1, none⟩ y) :=
  (h.setCell (by simpa using hB) _).setCell (by simpa using hB) _

/-- A store of a pair elsewhere. -/
theorem far2 {w : World} {g g' o : Nat} {x y : Value} (h : g' ≠ g) : ((w.setCell ⟨g, 0, none⟩ x).setCell ⟨g, 1, none⟩ y).cell? ⟨g', o, none⟩ = w.cell? ⟨g', o, none⟩ := by
  rw [World.cell?_setCell_other _ _ _ _ (by intro e; injection e with e; omega), World.cell?_setCell_other _ _ _ _ (by intro e; injection e with e; omega)]

theorem sg_half (b : Bool) (n : Nat) : Int.tdiv (sg b n) 2 = sg b (n / 2) := by
  cases b <;> simp [sg]

set_option maxHeartbeats 1000000 in
theorem half_any (va : Value) (z : Int) (k : Nat) (w : World) (hx : GI w va z k) (hk : k ≤ 1000000) :
    Calls Tryd.prog 30 #[va] w fun e w' => ∃ v, e = .returned v ∧ CI w' v (Int.tdiv z 2) k ∧ Below w.heap.size w w' := by
  obtain ⟨b, ao, l, c, n, rfl, hg, rfl⟩ := hx.shape
  have hn : n / 2 ^ clampN 1 < L32 ^ k := Nat.lt_of_le_of_lt (Nat.div_le_self _ _) hg.lt
  have HC := Lib.hid (show clampN 1 = 1 by rfl)
  rw [sg_half]
  have hW := below2 w (.cells #[.bool b, .slice ao l c] 25) (.cells #[.bool false, .slice none 0 0] 25)
  go_enter Tryd.func30, Tryd.ntmps30
  go_wp2_with fail
  go_region_held3 (fun w' => w'.cell? ⟨w.heap.size, 0, none⟩ = some (.bool b) ∧ w'.cell? ⟨w.heap.size, 1, none⟩ = some (.slice ao l c))
    (first | exact ⟨kc0, kc1⟩ | go_keep)
    (first
      | (go_at_call 54; refine (shr_n ((hg.alloc _).alloc _).drew hk).mono ?_; rintro e w2 ⟨v2, rfl, s2, hb2⟩; have hk2 := blocks2 (undrew (hb2.mono (by simp))); have hb2t := hW.trans (undrew (hb2.mono (by simp; omega))); clear hb2; obtain ⟨kc0, kc1, _, _⟩ := two_cells hk2.1)
      | (go_at_call 38; refine (signed_any b v2 _ k w2 s2 hn).mono ?_; rintro e w3 ⟨v3, rfl, c3, hb3⟩; obtain ⟨bb, bo, bl, bc, rfl⟩ := c3.shape
         have hk0 := (hb3.block _ (lt_of_block hk2.1)).trans hk2.1; have hk3 := (hb3.block _ (lt_of_block hk2.2)).trans hk2.2; have hb3t := hb2t.trans (hb3.mono hb2t.size); clear hb3 hk2 hb2t kc0 kc1
         obtain ⟨kc0, kc1, _, _⟩ := two_cells hk0; obtain ⟨q0, q1, f0, f1⟩ := two_cells hk3; have HB := Lib.hid hk3; clear hk0 hk3))
  go_wp2_with fail
  rw [HC.out] at c3
  exact bodyPost_ret (v := .agg #[.bool bb, .slice bo bl bc]) (by simp [results, Tryd.results30, go_sem, q0, q1]) rfl ⟨_, rfl, c3.set2 HB.out _ _, below_setg hb3t (by omega) _ _⟩

theorem sg_mul (a b : Bool) (m n : Nat) : sg a m * sg b n = sg (a != b) (m * n) := by
  cases a <;> cases b <;> simp [sg, Int.neg_mul, Int.mul_neg]

set_option maxHeartbeats 1000000 in
theorem wmul_any (va vb : Value) (y z : Int) (k1 k2 : Nat) (w : World) (hx : GI w va y k1) (hy : GI w vb z k2) (h1 : k1 ≤ 1000000) (h2 : k2 ≤ 1000000) :
    Calls Tryd.prog 18 #[va, vb] w fun e w' => ∃ v, e = .returned v ∧ CI w' v (y * z) (k1 + k2) ∧ Below w.heap.size w w' := by
  obtain ⟨b, ao, l, c, m, rfl, hg, rfl⟩ := hx.shape
  obtain ⟨d, po, pl, pc, n, rfl, hg2, rfl⟩ := hy.shape
  have hn : m * n < L32 ^ (k1 + k2) := by rw [Nat.pow_add]; exact Nat.mul_lt_mul'' hg.lt hg2.lt
  rw [sg_mul]
  have hW := below3 w (.cells #[.bool b, .slice ao l c] 25) (.cells #[.bool d, .slice po pl pc] 25) (.cells #[.bool false, .slice none 0 0] 25)
  go_enter Tryd.func18, Tryd.ntmps18
  go_wp2_with fail
  go_region_held3 (fun w' => w'.cell? ⟨w.heap.size, 0, none⟩ = some (.bool b) ∧ w'.cell? ⟨w.heap.size, 1, none⟩ = some (.slice ao l c) ∧ w'.cell? ⟨w.heap.size + 1, 0, none⟩ = some (.bool d) ∧ w'.cell? ⟨w.heap.size + 1, 1, none⟩ = some (.slice po pl pc))
    (first | exact ⟨kc0, kc1, kd0, kd1⟩ | exact ⟨(far2 (by omega)).trans kc0, (far2 (by omega)).trans kc1, (far2 (by omega)).trans kd0, (far2 (by omega)).trans kd1⟩ | go_keep)
    (first
      | (go_at_call 44; refine (mul_d (((hg.alloc _).alloc _).alloc _).drew (((hg2.alloc _).alloc _).alloc _).drew h1 h2).mono ?_; rintro e w2 ⟨v2, rfl, s2, hb2⟩; have hk2 := blocks3 (undrew (hb2.mono (by simp))); have hb2t := hW.trans (undrew (hb2.mono (by simp; omega))); clear hb2; obtain ⟨kc0, kc1, _, _⟩ := two_cells hk2.1; obtain ⟨kd0, kd1, _, _⟩ := two_cells hk2.2.1)
      | (go_at_call 38; refine (signed_any _ v2 _ (k1 + k2) w2 s2 hn).mono ?_; rintro e w3 ⟨v3, rfl, c3, hb3⟩; obtain ⟨bb, bo, bl, bc, rfl⟩ := c3.shape
         have hk0 := (hb3.block _ (lt_of_block hk2.1)).trans hk2.1; have hk1 := (hb3.block _ (lt_of_block hk2.2.1)).trans hk2.2.1; have hk3 := (hb3.block _ (lt_of_block hk2.2.2)).trans hk2.2.2; have hb3t := hb2t.trans (hb3.mono hb2t.size); clear hb3 hk2 hb2t kc0 kc1 kd0 kd1
         obtain ⟨kc0, kc1, _, _⟩ := two_cells hk0; obtain ⟨kd0, kd1, _, _⟩ := two_cells hk1; obtain ⟨q0, q1, f0, f1⟩ := two_cells hk3; have HB := Lib.hid hk3; clear hk0 hk1 hk3))
  go_wp2_with fail
  exact bodyPost_ret (v := .agg #[.bool bb, .slice bo bl bc]) (by simp [results, Tryd.results18, go_sem, q0, q1]) rfl ⟨_, rfl, c3.set2 HB.out _ _, below_setg hb3t (by omega) _ _⟩

set_option maxHeartbeats 1000000 in
theorem wgcd_any (va vb : Value) (y z : Int) (k1 k2 : Nat) (w : World) (hx : GI w va y k1) (hy : GI w vb z k2) (h1 : k1 ≤ 900000) (h2 : k2 ≤ 900000) :
    Calls Tryd.prog 32 #[va, vb] w fun e w' => ∃ v, e = .returned v ∧ CI w' v ((Nat.gcd y.natAbs z.natAbs : Nat) : Int) (max k1 k2) ∧ Below w.heap.size w w' := by
  obtain ⟨b, ao, l, c, m, rfl, hg, rfl⟩ := hx.shape
  obtain ⟨d, po, pl, pc, n, rfl, hg2, rfl⟩ := hy.shape
  rw [sg_natAbs, sg_natAbs]
  have hn : Nat.gcd m n < L32 ^ (max k1 k2) := gcd_lt (Nat.lt_of_lt_of_le hg.lt (Nat.pow_le_pow_right (by decide) (Nat.le_max_left _ _))) (Nat.lt_of_lt_of_le hg2.lt (Nat.pow_le_pow_right (by decide) (Nat.le_max_right _ _)))
  have hW := below3 w (.cells #[.bool b, .slice ao l c] 25) (.cells #[.bool d, .slice po pl pc] 25) (.cells #[.bool false, .slice none 0 0] 25)
  go_enter Tryd.func32, Tryd.ntmps32
  go_wp2_with fail
  refine (gcd_d (((hg.alloc _).alloc _).alloc _) (((hg2.alloc _).alloc _).alloc _) h1 h2).mono ?_
  rintro e w2 ⟨v2, rfl, s2, hb2⟩
  have hk2 := (blocks3 (hb2.mono (by simp))).2.2
  have hb2t := hW.trans (hb2.mono (by simp; omega))
  clear hb2
  go_wp2_with fail
  refine (signed_any _ v2 _ _ w2 s2 hn).mono ?_
  rintro e w3 ⟨v3, rfl, c3, hb3⟩
  obtain ⟨bb, bo, bl, bc, rfl⟩ := c3.shape
  have hk3 := (hb3.block _ (lt_of_block hk2)).trans hk2
  have hb3t := hb2t.trans (hb3.mono hb2t.size)
  clear hb3 hk2 hb2t
  obtain ⟨q0, q1, f0, f1⟩ := two_cells hk3
  have HB := Lib.hid hk3
  clear hk3
  go_wp2_with fail
  exact bodyPost_ret (v := .agg #[.bool bb, .slice bo bl bc]) (by simp [results, Tryd.results32, go_sem, q0, q1]) rfl ⟨_, rfl, c3.set2 HB.out _ _, below_setg hb3t (by omega) _ _⟩

set_option maxHeartbeats 1000000 in
theorem wneg_any (va : Value) (z : Int) (k : Nat) (w : World) (hx : GI w va z k) (hk : k ≤ 1000000) :
    Calls Tryd.prog 22 #[va] w fun e w' => ∃ v, e = .returned v ∧ CI w' v (-z) k ∧ Below w.heap.size w w' := by
  obtain ⟨b, ao, l, c, n, rfl, hg, rfl⟩ := hx.shape
  rw [show -(sg b n) = sg (!b) n by cases b <;> simp [sg]]
  have hW := below2 w (.cells #[.bool b, .slice ao l c] 25) (.cells #[.bool false, .slice none 0 0] 25)
  go_enter Tryd.func22, Tryd.ntmps22
  go_wp2_with fail
  refine (big_any (!b) _ _ k _ ((hg.alloc _).alloc _) hk).mono ?_
  rintro e w3 ⟨v3, rfl, c3, hb3⟩
  obtain ⟨bb, bo, bl, bc, rfl⟩ := c3.shape
  have hk3 := (blocks2 (hb3.mono (by simp))).2
  have hb3t := hW.trans (hb3.mono (by simp; omega))
  clear hb3
  obtain ⟨q0, q1, f0, f1⟩ := two_cells hk3
  have HB := Lib.hid hk3
  clear hk3
  go_wp2_with fail
  exact bodyPost_ret (v := .agg #[.bool bb, .slice bo bl bc]) (by simp [results, Tryd.results22, go_sem, q0, q1]) rfl ⟨_, rfl, c3.set2 HB.out _ _, below_setg hb3t (by omega) _ _⟩

set_option maxHeartbeats 1000000 in
theorem wbits_any (va : Value) (z : Int) (k : Nat) (w : World) (hx : GI w va z k) (hk : k ≤ 1000000) :
    Calls Tryd.prog 31 #[va] w fun e w' => e = .returned (.int .i64 ((bl z.natAbs : Nat) : Int)) ∧ Below w.heap.size w w' := by
  obtain ⟨b, ao, l, c, n, rfl, hg, rfl⟩ := hx.shape
  rw [sg_natAbs]
  go_enter Tryd.func31, Tryd.ntmps31
  go_wp2_with fail
  refine (bits_n (hg.alloc _) hk).mono ?_
  rintro e w3 ⟨rfl, rfl⟩
  go_wp2_with fail
  go_ret
  exact ⟨rfl, (Below.refl _ _).alloc (Nat.le_refl _) _⟩

theorem bl_eq0 {n : Nat} : bl n = 0 ↔ n = 0 := ⟨fun h => by rcases Nat.eq_zero_or_pos n with h0 | h0; exact h0; exact absurd h (by have := bl_pos h0; omega), fun h => by rw [h, bl_zero]⟩

/-- The sign, as a plain function. -/
def sgnZ (z : Int) : Int := if z = 0 then 0 else if z < 0 then -1 else 1

set_option maxHeartbeats 1000000 in
theorem wsign_any (va : Value) (z : Int) (k : Nat) (w : World) (hx : GI w va z k) (hk : k ≤ 1000000) :
    Calls Tryd.prog 23 #[va] w fun e w' => e = .returned (.int .i64 (sgnZ z)) ∧ Below w.heap.size w w' := by
  obtain ⟨b, ao, l, c, n, rfl, hg, rfl⟩ := hx.shape
  by_cases h0 : n = 0
  · subst h0
    have HB := Lib.hid (show sgnZ (sg b 0) = 0 by cases b <;> simp [sgnZ, sg])
    have hz : (((bl 0 : Nat) : Int) == 0) = true := by rw [bl_zero]; rfl
    go_enter Tryd.func23, Tryd.ntmps23
    go_wp2_with fail
    refine (bits_n (hg.alloc _) hk).mono ?_
    rintro e w3 ⟨rfl, rfl⟩
    go_wp2_with fail
    go_ret
    exact ⟨by rw [HB.out]; rfl, (Below.refl _ _).alloc (Nat.le_refl _) _⟩
  · have hz : (((bl n : Nat) : Int) == 0) = false := by rw [beq_eq_false_iff_ne]; have := mt bl_eq0.1 h0; omega
    have hp : 0 < n := by omega
    cases b
    · have HB := Lib.hid (show sgnZ (sg false n) = 1 by unfold sgnZ sg; simp only [Bool.false_eq_true, if_false]; rw [if_neg (by omega), if_neg (by omega)])
      go_enter Tryd.func23, Tryd.ntmps23
      go_wp2_with fail
      refine (bits_n (hg.alloc _) hk).mono ?_
      rintro e w3 ⟨rfl, rfl⟩
      go_wp2_with fail
      go_ret
      exact ⟨by rw [HB.out]; rfl, (Below.refl _ _).alloc (Nat.le_refl _) _⟩
    · have HB := Lib.hid (show sgnZ (sg true n) = -1 by unfold sgnZ sg; simp only [if_true]; rw [if_neg (by omega), if_pos (by omega)])
      go_enter Tryd.func23, Tryd.ntmps23
      go_wp2_with fail
      refine (bits_n (hg.alloc _) hk).mono ?_
      rintro e w3 ⟨rfl, rfl⟩
      go_wp2_with fail
      go_ret
      exact ⟨by rw [HB.out]; rfl, (Below.refl _ _).alloc (Nat.le_refl _) _⟩
end Go.Proofs.YtbkeildnhimfbaaDoor
