/-
  Contracts of the reference package's integers, and of the laws' helpers of, is.
-/
import Derived.Test.YtbkeildnhimfbaaDoorWhoH
import Derived.Test.YtbkeildnhimfbaaDoorDgt
import Derived.Test.YtbkeildnhimfbaaDoorIsA
namespace Go.Proofs.YtbkeildnhimfbaaDoor
open Go.RowKit
set_option maxRecDepth 100000

/-- The reference package's form of the integer z. -/
def RI (w : World) (v : Value) (z : Int) : Prop := ∃ va, v = .agg #[.bool (decide (z < 0)), va] ∧ Sl w .i64 va (dig 2 z.natAbs)
theorem RI.below {w w' : World} {v : Value} {z : Int} (h : RI w v z) (hb : Below w.heap.size w w') : RI w' v z := by
  obtain ⟨va, rfl, h⟩ := h; exact ⟨va, rfl, h.below hb⟩
theorem RI.set2 {w : World} {v : Value} {z : Int} (h : RI w v z) {g : Nat} {T : TypeId} {b0 : Bool} {a0 : Option Addr} {n0 c0 : Nat} (hB : w.heap[g]? = some (.cells #[.bool b0, .slice a0 n0 c0] T (0, 0))) (x y : Value) :
    RI ((w.setCell ⟨g, 0, none⟩ x).setCell ⟨g, 1, none⟩ y) v z := by
  obtain ⟨va, rfl, h⟩ := h; exact ⟨va, rfl, h.set2 hB x y⟩
theorem ri_mk {w : World} {b : Bool} {n : Nat} {va : Value} (h : Sl w .i64 va (dig 2 n)) : RI w (.agg #[.bool (b && decide (0 < n)), va]) (sg b n) :=
  ⟨va, by rw [sg_neg], by rw [sg_natAbs]; exact h⟩
theorem RI.shape {w : World} {v : Value} {z : Int} (h : RI w v z) : ∃ b ao l c n, v = .agg #[.bool b, .slice ao l c] ∧ Sl w .i64 (.slice ao l c) (dig 2 n) ∧ z = sg b n := by
  obtain ⟨va, rfl, h⟩ := h
  obtain ⟨ao, c, rfl⟩ := sl_shape h
  refine ⟨_, ao, _, c, _, rfl, h, ?_⟩
  unfold sg
  by_cases hz : z < 0
  · rw [if_pos (by simpa using hz)]; omega
  · rw [if_neg (by simpa using hz)]; omega

theorem dig2_len_pos {n : Nat} : 0 < n → 0 < (dig 2 n).length := fun h => bl_pos h

set_option maxHeartbeats 1000000 in
theorem rof_any (b : Bool) (va : Value) (n : Nat) (w : World) (hs : Sl w .i64 va (dig 2 n)) :
    Calls Tryd.prog 36 #[.bool b, va] w fun e w' => ∃ v, e = .returned v ∧ RI w' v (sg b n) ∧ Below w.heap.size w w' := by
  have hci : ∀ w' B, B = (b && decide (0 < n)) → Below w.heap.size w w' → RI w' (.agg #[.bool B, va]) (sg b n) := fun w' B e hb => by subst e; exact ri_mk (hs.below hb)
  obtain ⟨ao, ac, rfl⟩ := sl_shape hs
  have HS := Lib.hid hci
  clear hci hs
  cases b
  · go_enter Tryd.func36, Tryd.ntmps36
    go_wp2
    exact bodyPost_ret (v := .agg #[.bool false, .slice ao (dig 2 n).length ac]) (by simp [results, Tryd.results36, go_sem]) rfl ⟨_, rfl, HS.out _ _ rfl ((Below.refl _ _).alloc (Nat.le_refl _) _), (Below.refl _ _).alloc (Nat.le_refl _) _⟩
  · by_cases h0 : 0 < n
    · have hl := dig2_len_pos h0
      have HD := Lib.hid (show true = (true && decide (0 < n)) by simp [h0])
      go_enter Tryd.func36, Tryd.ntmps36
      go_wp2
      exact bodyPost_ret (v := .agg #[.bool true, .slice ao (dig 2 n).length ac]) (by simp [results, Tryd.results36, go_sem]) rfl ⟨_, rfl, HS.out _ _ HD.out ((Below.refl _ _).alloc (Nat.le_refl _) _), (Below.refl _ _).alloc (Nat.le_refl _) _⟩
    · obtain rfl : n = 0 := by omega
      have HD := Lib.hid (show false = (true && decide (0 < 0)) by simp)
      have hl : (dig 2 0).length ≤ 0 := by rw [dig_zero]; exact Nat.le_refl _
      have hd : decide (0 < (dig 2 0).length) = false := by rw [decide_eq_false_iff_not]; omega
      go_enter Tryd.func36, Tryd.ntmps36
      go_wp2
      exact bodyPost_ret (v := .agg #[.bool false, .slice ao (dig 2 0).length ac]) (by simp [results, Tryd.results36, go_sem]) rfl ⟨_, rfl, HS.out _ _ HD.out ((Below.refl _ _).alloc (Nat.le_refl _) _), (Below.refl _ _).alloc (Nat.le_refl _) _⟩

theorem Sl.alloc {w : World} {k : IntKind} {v : Value} {xs : List Nat} (h : Sl w k v xs) (o : Obj) : Sl (w.alloc o) k v xs := h.below ((Below.refl _ _).alloc (Nat.le_refl _) _)

theorem radd_d {va vb : Value} {m n : Nat} {w : World} (hx : Sl w .i64 va (dig 2 m)) (hy : Sl w .i64 vb (dig 2 n)) (h1 : bl m ≤ 1000000) (h2 : bl n ≤ 1000000) :
    Calls Tryd.prog 41 #[va, vb] w fun e w' => ∃ v, e = .returned v ∧ Sl w' .i64 v (dig 2 (m + n)) ∧ Below w.heap.size w w' := by
  have h := radd_any va vb _ _ w hx hy (Dig_dig (by decide) _) (Dig_dig (by decide) _) h1 h2
  rw [val_dig (by decide), val_dig (by decide)] at h
  exact h
theorem rmul_d {va vb : Value} {m n : Nat} {w : World} (hx : Sl w .i64 va (dig 2 m)) (hy : Sl w .i64 vb (dig 2 n)) (h1 : bl m ≤ 1000) (h2 : bl n ≤ 1000) :
    Calls Tryd.prog 45 #[va, vb] w fun e w' => ∃ v, e = .returned v ∧ Sl w' .i64 v (dig 2 (m * n)) ∧ Below w.heap.size w w' := by
  have h := rmul_any va vb _ _ w hx hy (Dig_dig (by decide) _) (Dig_dig (by decide) _) h1 h2
  rw [val_dig (by decide), val_dig (by decide)] at h
  exact h
theorem rsub_d {va vb : Value} {m n : Nat} {w : World} (hx : Sl w .i64 va (dig 2 m)) (hy : Sl w .i64 vb (dig 2 n)) (h1 : bl m ≤ 1000000) (hle : n ≤ m) :
    Calls Tryd.prog 43 #[va, vb] w fun e w' => ∃ v, e = .returned v ∧ Sl w' .i64 v (dig 2 (m - n)) ∧ Below w.heap.size w w' := by
  have h := rsub_any va vb _ _ w hx hy (Dig_dig (by decide) _) (Dig_dig (by decide) _) h1 (bits_le (by omega)) (by rw [val_dig (by decide), val_dig (by decide)]; exact hle)
  rw [val_dig (by decide), val_dig (by decide)] at h
  exact h

set_option maxHeartbeats 2000000 in
theorem rzadd_any (va vb : Value) (y z : Int) (w : World) (hx : RI w va y) (hy : RI w vb z) (h1 : bl y.natAbs ≤ 1000000) (h2 : bl z.natAbs ≤ 1000000) :
    Calls Tryd.prog 15 #[va, vb] w fun e w' => ∃ v, e = .returned v ∧ RI w' v (y + z) ∧ Below w.heap.size w w' := by
  obtain ⟨b, ao, l, c, m, rfl, hg, rfl⟩ := hx.shape
  obtain ⟨d, po, pl, pc, n, rfl, hg2, rfl⟩ := hy.shape
  rw [sg_natAbs] at h1 h2
  have hW := below3 w (.cells #[.bool b, .slice ao l c] 30) (.cells #[.bool d, .slice po pl pc] 30) (.cells #[.bool false, .slice none 0 0] 30)
  clear hx hy
  by_cases hbd : b = d
  · subst hbd
    rw [sg_add]
    have heq : (b == b) = true := by cases b <;> rfl
    go_enter Tryd.func15, Tryd.ntmps15
    go_wp2_with fail
    go_region_held3 (fun w' => w'.cell? ⟨w.heap.size, 0, none⟩ = some (.bool b) ∧ w'.cell? ⟨w.heap.size, 1, none⟩ = some (.slice ao l c) ∧ w'.cell? ⟨w.heap.size + 1, 1, none⟩ = some (.slice po pl pc))
      (first | exact ⟨kc0, kc1, kd1⟩ | exact ⟨(far2 (by omega)).trans kc0, (far2 (by omega)).trans kc1, (far2 (by omega)).trans kd1⟩ | go_keep)
      (first
        | (go_at_call 41; refine (radd_d (Sl.drew (((hg.alloc _).alloc _).alloc _)) (Sl.drew (((hg2.alloc _).alloc _).alloc _)) h1 h2).mono ?_; rintro e w2 ⟨v2, rfl, s2, hb2⟩; have hk2 := blocks3 (undrew (hb2.mono (by simp))); have hb2t := hW.trans (undrew (hb2.mono (by simp; omega))); clear hb2; obtain ⟨kc0, kc1, _, _⟩ := two_cells hk2.1; obtain ⟨kd0, kd1, _, _⟩ := two_cells hk2.2.1)
        | (go_at_call 36; refine (rof_any _ v2 _ w2 s2).mono ?_; rintro e w3 ⟨v3, rfl, c3, hb3⟩; obtain ⟨bb, bo, bl, bc, n3, rfl, _, _⟩ := c3.shape
           have hk0 := (hb3.block _ (lt_of_block hk2.1)).trans hk2.1; have hk1 := (hb3.block _ (lt_of_block hk2.2.1)).trans hk2.2.1; have hk3 := (hb3.block _ (lt_of_block hk2.2.2)).trans hk2.2.2; have hb3t := hb2t.trans (hb3.mono hb2t.size); clear hb3 hk2 hb2t kc0 kc1 kd0 kd1
           obtain ⟨kc0, kc1, _, _⟩ := two_cells hk0; obtain ⟨kd0, kd1, _, _⟩ := two_cells hk1; obtain ⟨q0, q1, f0, f1⟩ := two_cells hk3; have HB := Lib.hid hk3; clear hk0 hk1 hk3))
    go_wp2_with fail
    exact bodyPost_ret (v := .agg #[.bool bb, .slice bo bl bc]) (by simp [results, Tryd.results15, go_sem, q0, q1]) rfl ⟨_, rfl, c3.set2 HB.out _ _, below_setg hb3t (by omega) _ _⟩
  · have heq : (b == d) = false := by cases b <;> cases d <;> simp at hbd ⊢
    by_cases hle : n ≤ m
    · rw [sg_sub1 hbd hle]
      have hcm : 0 ≤ cmpN m n := by unfold cmpN; rw [if_neg (by omega)]; split <;> omega
      clear hbd
      go_enter Tryd.func15, Tryd.ntmps15
      go_wp2_with fail
      refine (rcmp_any _ _ m n _ (((hg.alloc _).alloc _).alloc _) (((hg2.alloc _).alloc _).alloc _)).mono ?_
      rintro e w8 ⟨rfl, hb8⟩
      obtain ⟨hk0, hk1, hk8⟩ := blocks3 (hb8.mono (by simp))
      have hW8 := hW.trans (hb8.mono (by simp; omega))
      clear hb8 hW
      obtain ⟨kc0, kc1, _, _⟩ := two_cells hk0
      obtain ⟨kd0, kd1, _, _⟩ := two_cells hk1
      have HK := Lib.hid (And.intro hk0 (And.intro hk1 hk8))
      clear hk0 hk1 hk8
      go_wp2_with fail
      go_region_held3 (fun w' => w'.cell? ⟨w.heap.size, 0, none⟩ = some (.bool b) ∧ w'.cell? ⟨w.heap.size, 1, none⟩ = some (.slice ao l c) ∧ w'.cell? ⟨w.heap.size + 1, 1, none⟩ = some (.slice po pl pc))
        (first | exact ⟨kc0, kc1, kd1⟩ | exact ⟨(far2 (by omega)).trans kc0, (far2 (by omega)).trans kc1, (far2 (by omega)).trans kd1⟩ | go_keep)
        (first
          | (go_at_call 43; refine (rsub_d (Sl.drew (hg.below hW8)) (Sl.drew (hg2.below hW8)) h1 hle).mono ?_; rintro e w2 ⟨v2, rfl, s2, hb2⟩; have hk2 := And.intro (((undrew hb2).block _ (lt_of_block HK.out.1)).trans HK.out.1) (And.intro (((undrew hb2).block _ (lt_of_block HK.out.2.1)).trans HK.out.2.1) (((undrew hb2).block _ (lt_of_block HK.out.2.2)).trans HK.out.2.2)); have hb2t := hW8.trans (undrew (hb2.mono hW8.size)); clear hb2; obtain ⟨kc0, kc1, _, _⟩ := two_cells hk2.1; obtain ⟨kd0, kd1, _, _⟩ := two_cells hk2.2.1)
          | (go_at_call 36; refine (rof_any _ v2 _ w2 s2).mono ?_; rintro e w3 ⟨v3, rfl, c3, hb3⟩; obtain ⟨bb, bo, bl, bc, n3, rfl, _, _⟩ := c3.shape
             have hk0 := (hb3.block _ (lt_of_block hk2.1)).trans hk2.1; have hk1 := (hb3.block _ (lt_of_block hk2.2.1)).trans hk2.2.1; have hk3 := (hb3.block _ (lt_of_block hk2.2.2)).trans hk2.2.2; have hb3t := hb2t.trans (hb3.mono hb2t.size); clear hb3 hk2 hb2t kc0 kc1 kd0 kd1
             obtain ⟨kc0, kc1, _, _⟩ := two_cells hk0; obtain ⟨kd0, kd1, _, _⟩ := two_cells hk1; obtain ⟨q0, q1, f0, f1⟩ := two_cells hk3; have HB := Lib.hid hk3; clear hk0 hk1 hk3))
      go_wp2_with fail
      exact bodyPost_ret (v := .agg #[.bool bb, .slice bo bl bc]) (by simp [results, Tryd.results15, go_sem, q0, q1]) rfl ⟨_, rfl, c3.set2 HB.out _ _, below_setg hb3t (by omega) _ _⟩
    · have hle2 : m ≤ n := by omega
      rw [sg_sub2 hbd hle2]
      have hcm : cmpN m n < 0 := by unfold cmpN; rw [if_pos (by omega)]; omega
      clear hbd hle
      go_enter Tryd.func15, Tryd.ntmps15
      go_wp2_with fail
      refine (rcmp_any _ _ m n _ (((hg.alloc _).alloc _).alloc _) (((hg2.alloc _).alloc _).alloc _)).mono ?_
      rintro e w8 ⟨rfl, hb8⟩
      obtain ⟨hk0, hk1, hk8⟩ := blocks3 (hb8.mono (by simp))
      have hW8 := hW.trans (hb8.mono (by simp; omega))
      clear hb8 hW
      obtain ⟨kc0, kc1, _, _⟩ := two_cells hk0
      obtain ⟨kd0, kd1, _, _⟩ := two_cells hk1
      have HK := Lib.hid (And.intro hk0 (And.intro hk1 hk8))
      clear hk0 hk1 hk8
      go_wp2_with fail
      go_region_held3 (fun w' => w'.cell? ⟨w.heap.size + 1, 0, none⟩ = some (.bool d) ∧ w'.cell? ⟨w.heap.size, 1, none⟩ = some (.slice ao l c) ∧ w'.cell? ⟨w.heap.size + 1, 1, none⟩ = some (.slice po pl pc))
        (first | exact ⟨kd0, kc1, kd1⟩ | exact ⟨(far2 (by omega)).trans kd0, (far2 (by omega)).trans kc1, (far2 (by omega)).trans kd1⟩ | go_keep)
        (first
          | (go_at_call 43; refine (rsub_d (Sl.drew (hg2.below hW8)) (Sl.drew (hg.below hW8)) h2 hle2).mono ?_; rintro e w2 ⟨v2, rfl, s2, hb2⟩; have hk2 := And.intro (((undrew hb2).block _ (lt_of_block HK.out.1)).trans HK.out.1) (And.intro (((undrew hb2).block _ (lt_of_block HK.out.2.1)).trans HK.out.2.1) (((undrew hb2).block _ (lt_of_block HK.out.2.2)).trans HK.out.2.2)); have hb2t := hW8.trans (undrew (hb2.mono hW8.size)); clear hb2; obtain ⟨kc0, kc1, _, _⟩ := two_cells hk2.1; obtain ⟨kd0, kd1, _, _⟩ := two_cells hk2.2.1)
          | (go_at_call 36; refine (rof_any _ v2 _ w2 s2).mono ?_; rintro e w3 ⟨v3, rfl, c3, hb3⟩; obtain ⟨bb, bo, bl, bc, n3, rfl, _, _⟩ := c3.shape
             have hk0 := (hb3.block _ (lt_of_block hk2.1)).trans hk2.1; have hk1 := (hb3.block _ (lt_of_block hk2.2.1)).trans hk2.2.1; have hk3 := (hb3.block _ (lt_of_block hk2.2.2)).trans hk2.2.2; have hb3t := hb2t.trans (hb3.mono hb2t.size); clear hb3 hk2 hb2t kc0 kc1 kd0 kd1
             obtain ⟨kc0, kc1, _, _⟩ := two_cells hk0; obtain ⟨kd0, kd1, _, _⟩ := two_cells hk1; obtain ⟨q0, q1, f0, f1⟩ := two_cells hk3; have HB := Lib.hid hk3; clear hk0 hk1 hk3))
      go_wp2_with fail
      exact bodyPost_ret (v := .agg #[.bool bb, .slice bo bl bc]) (by simp [results, Tryd.results15, go_sem, q0, q1]) rfl ⟨_, rfl, c3.set2 HB.out _ _, below_setg hb3t (by omega) _ _⟩

set_option maxHeartbeats 2000000 in
theorem rzmul_any (va vb : Value) (y z : Int) (w : World) (hx : RI w va y) (hy : RI w vb z) (h1 : bl y.natAbs ≤ 1000) (h2 : bl z.natAbs ≤ 1000) :
    Calls Tryd.prog 19 #[va, vb] w fun e w' => ∃ v, e = .returned v ∧ RI w' v (y * z) ∧ Below w.heap.size w w' := by
  obtain ⟨b, ao, l, c, m, rfl, hg, rfl⟩ := hx.shape
  obtain ⟨d, po, pl, pc, n, rfl, hg2, rfl⟩ := hy.shape
  rw [sg_natAbs] at h1 h2
  rw [sg_mul]
  have hW := below3 w (.cells #[.bool b, .slice ao l c] 30) (.cells #[.bool d, .slice po pl pc] 30) (.cells #[.bool false, .slice none 0 0] 30)
  clear hx hy
  go_enter Tryd.func19, Tryd.ntmps19
  go_wp2_with fail
  go_region_held3 (fun w' => w'.cell? ⟨w.heap.size, 0, none⟩ = some (.bool b) ∧ w'.cell? ⟨w.heap.size + 1, 0, none⟩ = some (.bool d) ∧ w'.cell? ⟨w.heap.size, 1, none⟩ = some (.slice ao l c) ∧ w'.cell? ⟨w.heap.size + 1, 1, none⟩ = some (.slice po pl pc))
    (first | exact ⟨kc0, kd0, kc1, kd1⟩ | exact ⟨(far2 (by omega)).trans kc0, (far2 (by omega)).trans kd0, (far2 (by omega)).trans kc1, (far2 (by omega)).trans kd1⟩ | go_keep)
    (first
      | (go_at_call 45; refine (rmul_d (Sl.drew (((hg.alloc _).alloc _).alloc _)) (Sl.drew (((hg2.alloc _).alloc _).alloc _)) h1 h2).mono ?_; rintro e w2 ⟨v2, rfl, s2, hb2⟩; have hk2 := blocks3 (undrew (hb2.mono (by simp))); have hb2t := hW.trans (undrew (hb2.mono (by simp; omega))); clear hb2; obtain ⟨kc0, kc1, _, _⟩ := two_cells hk2.1; obtain ⟨kd0, kd1, _, _⟩ := two_cells hk2.2.1)
      | (go_at_call 36; refine (rof_any _ v2 _ w2 s2).mono ?_; rintro e w3 ⟨v3, rfl, c3, hb3⟩; obtain ⟨bb, bo, bl, bc, n3, rfl, _, _⟩ := c3.shape
         have hk0 := (hb3.block _ (lt_of_block hk2.1)).trans hk2.1; have hk1 := (hb3.block _ (lt_of_block hk2.2.1)).trans hk2.2.1; have hk3 := (hb3.block _ (lt_of_block hk2.2.2)).trans hk2.2.2; have hb3t := hb2t.trans (hb3.mono hb2t.size); clear hb3 hk2 hb2t kc0 kc1 kd0 kd1
         obtain ⟨kc0, kc1, _, _⟩ := two_cells hk0; obtain ⟨kd0, kd1, _, _⟩ := two_cells hk1; obtain ⟨q0, q1, f0, f1⟩ := two_cells hk3; have HB := Lib.hid hk3; clear hk0 hk1 hk3))
  go_wp2_with fail
  exact bodyPost_ret (v := .agg #[.bool bb, .slice bo bl bc]) (by simp [results, Tryd.results19, go_sem, q0, q1]) rfl ⟨_, rfl, c3.set2 HB.out _ _, below_setg hb3t (by omega) _ _⟩

set_option maxHeartbeats 1000000 in
theorem rzneg_any (va : Value) (z : Int) (w : World) (hx : RI w va z) :
    Calls Tryd.prog 17 #[va] w fun e w' => ∃ v, e = .returned v ∧ RI w' v (-z) ∧ Below w.heap.size w w' := by
  obtain ⟨b, ao, l, c, n, rfl, hg, rfl⟩ := hx.shape
  rw [show -(sg b n) = sg (!b) n by cases b <;> simp [sg]]
  have hW := below2 w (.cells #[.bool b, .slice ao l c] 30) (.cells #[.bool false, .slice none 0 0] 30)
  clear hx
  go_enter Tryd.func17, Tryd.ntmps17
  go_wp2_with fail
  refine (rof_any (!b) _ n _ ((hg.alloc _).alloc _)).mono ?_
  rintro e w3 ⟨v3, rfl, c3, hb3⟩
  obtain ⟨bb, bo, bl, bc, n3, rfl, _, _⟩ := c3.shape
  have hk3 := (blocks2 (hb3.mono (by simp))).2
  have hb3t := hW.trans (hb3.mono (by simp; omega))
  clear hb3
  obtain ⟨q0, q1, f0, f1⟩ := two_cells hk3
  have HB := Lib.hid hk3
  clear hk3
  go_wp2_with fail
  exact bodyPost_ret (v := .agg #[.bool bb, .slice bo bl bc]) (by simp [results, Tryd.results17, go_sem, q0, q1]) rfl ⟨_, rfl, c3.set2 HB.out _ _, below_setg hb3t (by omega) _ _⟩
end Go.Proofs.YtbkeildnhimfbaaDoor
