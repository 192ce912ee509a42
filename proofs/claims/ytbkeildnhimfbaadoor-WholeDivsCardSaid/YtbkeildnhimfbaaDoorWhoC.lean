/-
  Contracts of package whole: Add, Sub, Of, Compare, Cmp.
-/
import Derived.Test.YtbkeildnhimfbaaDoorWhoB
namespace Go.Proofs.YtbkeildnhimfbaaDoor
open Go.RowKit
set_option maxRecDepth 100000

theorem sub_d {va vb : Value} {m n k1 k2 : Nat} {w : World} (hx : GN w va m k1) (hy : GN w vb n k2) (h1 : k1 ≤ 1000000) (hle : n ≤ m) :
    Calls Tryd.prog 40 #[va, vb] w fun e w' => ∃ v, e = .returned (.tuple #[v, .bool true]) ∧ Sl w' .u32 v (dig L32 (m - n)) ∧ Below w.heap.size w w' := by
  obtain ⟨xs, hx, dx, rfl, lx⟩ := hx
  obtain ⟨ys, hy, dy, rfl, ly⟩ := hy
  exact sub_ge _ _ _ _ w hx hy dx dy (by omega) hle
theorem sub_no {va vb : Value} {m n k1 k2 : Nat} {w : World} (hx : GN w va m k1) (hy : GN w vb n k2) (hlt : m < n) :
    Calls Tryd.prog 40 #[va, vb] w fun e w' => e = .returned (.tuple #[.slice none 0 0, .bool false]) ∧ Below w.heap.size w w' := by
  obtain ⟨xs, hx, dx, rfl, lx⟩ := hx
  obtain ⟨ys, hy, dy, rfl, ly⟩ := hy
  exact sub_lt _ _ _ _ w hx hy dx dy hlt
theorem lt_pow_more {m k k' : Nat} (h : m < L32 ^ k) (hk : k ≤ k') : m < L32 ^ k' := Nat.lt_of_lt_of_le h (Nat.pow_le_pow_right (by decide) hk)

theorem sg_add (b : Bool) (m n : Nat) : sg b m + sg b n = sg b (m + n) := by
  cases b <;> simp [sg]; omega
theorem sg_sub1 {b d : Bool} (h : b ≠ d) {m n : Nat} (hle : n ≤ m) : sg b m + sg d n = sg b (m - n) := by
  cases b <;> cases d <;> simp [sg] at * <;> omega
theorem sg_sub2 {b d : Bool} (h : b ≠ d) {m n : Nat} (hle : m ≤ n) : sg b m + sg d n = sg d (n - m) := by
  cases b <;> cases d <;> simp [sg] at * <;> omega

set_option maxHeartbeats 2000000 in
theorem wadd_any (va vb : Value) (y z : Int) (k1 k2 : Nat) (w : World) (hx : GI w va y k1) (hy : GI w vb z k2) (h1 : k1 ≤ 1000000) (h2 : k2 ≤ 1000000) :
    Calls Tryd.prog 14 #[va, vb] w fun e w' => ∃ v, e = .returned v ∧ CI w' v (y + z) (k1 + k2 + 1) ∧ Below w.heap.size w w' := by
  obtain ⟨b, ao, l, c, m, rfl, hg, rfl⟩ := hx.shape
  obtain ⟨d, po, pl, pc, n, rfl, hg2, rfl⟩ := hy.shape
  have hlm := hg.lt
  have hln := hg2.lt
  have hW := below3 w (.cells #[.bool b, .slice ao l c] 25) (.cells #[.bool d, .slice po pl pc] 25) (.cells #[.bool false, .slice none 0 0] 25)
  by_cases hbd : b = d
  · subst hbd
    have hn := pow_add_lt hlm hln
    rw [sg_add]
    have heq : (b == b) = true := by cases b <;> rfl
    go_enter Tryd.func14, Tryd.ntmps14
    go_wp2_with fail
    go_region_held3 (fun w' => w'.cell? ⟨w.heap.size, 0, none⟩ = some (.bool b) ∧ w'.cell? ⟨w.heap.size, 1, none⟩ = some (.slice ao l c) ∧ w'.cell? ⟨w.heap.size + 1, 1, none⟩ = some (.slice po pl pc))
      (first | exact ⟨kc0, kc1, kd1⟩ | exact ⟨(far2 (by omega)).trans kc0, (far2 (by omega)).trans kc1, (far2 (by omega)).trans kd1⟩ | go_keep)
      (first
        | (go_at_call 39; refine (add_d (((hg.alloc _).alloc _).alloc _).drew (((hg2.alloc _).alloc _).alloc _).drew h1 h2).mono ?_; rintro e w2 ⟨v2, rfl, s2, hb2⟩; have hk2 := blocks3 (undrew (hb2.mono (by simp))); have hb2t := hW.trans (undrew (hb2.mono (by simp; omega))); clear hb2; obtain ⟨kc0, kc1, _, _⟩ := two_cells hk2.1; obtain ⟨kd0, kd1, _, _⟩ := two_cells hk2.2.1)
        | (go_at_call 38; refine (signed_any _ v2 _ (k1 + k2 + 1) w2 s2 hn).mono ?_; rintro e w3 ⟨v3, rfl, c3, hb3⟩; obtain ⟨bb, bo, bl, bc, rfl⟩ := c3.shape
           have hk0 := (hb3.block _ (lt_of_block hk2.1)).trans hk2.1; have hk1 := (hb3.block _ (lt_of_block hk2.2.1)).trans hk2.2.1; have hk3 := (hb3.block _ (lt_of_block hk2.2.2)).trans hk2.2.2; have hb3t := hb2t.trans (hb3.mono hb2t.size); clear hb3 hk2 hb2t kc0 kc1 kd0 kd1
           obtain ⟨kc0, kc1, _, _⟩ := two_cells hk0; obtain ⟨kd0, kd1, _, _⟩ := two_cells hk1; obtain ⟨q0, q1, f0, f1⟩ := two_cells hk3; have HB := Lib.hid hk3; clear hk0 hk1 hk3))
    go_wp2_with fail
    exact bodyPost_ret (v := .agg #[.bool bb, .slice bo bl bc]) (by simp [results, Tryd.results14, go_sem, q0, q1]) rfl ⟨_, rfl, c3.set2 HB.out _ _, below_setg hb3t (by omega) _ _⟩
  · have heq : (b == d) = false := by cases b <;> cases d <;> simp at hbd ⊢
    by_cases hle : n ≤ m
    · have hn : m - n < L32 ^ (k1 + k2 + 1) := lt_pow_more (k := k1) (by omega) (by omega)
      rw [sg_sub1 hbd hle]
      clear hbd
      go_enter Tryd.func14, Tryd.ntmps14
      go_wp2_with fail
      refine (sub_d (((hg.alloc _).alloc _).alloc _) (((hg2.alloc _).alloc _).alloc _) h1 hle).mono ?_
      rintro e w2 ⟨v2, rfl, s2, hb2⟩
      have hk2 := blocks3 (hb2.mono (by simp))
      have hb2t := hW.trans (hb2.mono (by simp; omega))
      clear hb2
      obtain ⟨kc0, kc1, _, _⟩ := two_cells hk2.1
      obtain ⟨kd0, kd1, _, _⟩ := two_cells hk2.2.1
      have HK := Lib.hid hk2.2.2
      clear hk2
      obtain ⟨vo, vc, rfl⟩ := sl_shape s2
      go_wp2_with fail
      refine (signed_any _ _ _ (k1 + k2 + 1) w2 s2 hn).mono ?_
      rintro e w3 ⟨v3, rfl, c3, hb3⟩
      obtain ⟨bb, bo, bl, bc, rfl⟩ := c3.shape
      have hk3 := (hb3.block _ (lt_of_block HK.out)).trans HK.out
      have hb3t := hb2t.trans (hb3.mono hb2t.size)
      clear hb3 hb2t kc0 kc1 kd0 kd1
      obtain ⟨q0, q1, f0, f1⟩ := two_cells hk3
      have HB := Lib.hid hk3
      clear hk3
      go_wp2_with fail
      exact bodyPost_ret (v := .agg #[.bool bb, .slice bo bl bc]) (by simp [results, Tryd.results14, go_sem, q0, q1]) rfl ⟨_, rfl, c3.set2 HB.out _ _, below_setg hb3t (by omega) _ _⟩
    · have hn : n - m < L32 ^ (k1 + k2 + 1) := lt_pow_more (k := k2) (by omega) (by omega)
      have hlt : m < n := by omega
      have hle2 : m ≤ n := by omega
      rw [sg_sub2 hbd hle2]
      clear hbd hle
      go_enter Tryd.func14, Tryd.ntmps14
      go_wp2_with fail
      refine (sub_no (((hg.alloc _).alloc _).alloc _) (((hg2.alloc _).alloc _).alloc _) hlt).mono ?_
      rintro e w2 ⟨rfl, hb2⟩
      have hk2 := blocks3 (hb2.mono (by simp))
      have hb2t := hW.trans (hb2.mono (by simp; omega))
      clear hb2
      obtain ⟨kc0, kc1, _, _⟩ := two_cells hk2.1
      obtain ⟨kd0, kd1, _, _⟩ := two_cells hk2.2.1
      have HK := Lib.hid hk2
      clear hk2
      go_wp2_with fail
      refine (sub_d (hg2.below hb2t) (hg.below hb2t) h2 hle2).mono ?_
      rintro e w4 ⟨v4, rfl, s4, hb4⟩
      have hk0 := (hb4.block _ (lt_of_block HK.out.1)).trans HK.out.1
      have hk1 := (hb4.block _ (lt_of_block HK.out.2.1)).trans HK.out.2.1
      have hk2 := (hb4.block _ (lt_of_block HK.out.2.2)).trans HK.out.2.2
      have hb4t := hb2t.trans (hb4.mono hb2t.size)
      clear hb4 kc0 kc1 kd0 kd1
      obtain ⟨kc0, kc1, _, _⟩ := two_cells hk0
      obtain ⟨kd0, kd1, _, _⟩ := two_cells hk1
      have HK2 := Lib.hid hk2
      clear hk0 hk1 hk2
      obtain ⟨vo, vc, rfl⟩ := sl_shape s4
      go_wp2_with fail
      refine (signed_any _ _ _ (k1 + k2 + 1) w4 s4 hn).mono ?_
      rintro e w3 ⟨v3, rfl, c3, hb3⟩
      obtain ⟨bb, bo, bl, bc, rfl⟩ := c3.shape
      have hk3 := (hb3.block _ (lt_of_block HK2.out)).trans HK2.out
      have hb3t := hb4t.trans (hb3.mono hb4t.size)
      clear hb3 hb4t hb2t kc0 kc1 kd0 kd1
      obtain ⟨q0, q1, f0, f1⟩ := two_cells hk3
      have HB := Lib.hid hk3
      clear hk3
      go_wp2_with fail
      exact bodyPost_ret (v := .agg #[.bool bb, .slice bo bl bc]) (by simp [results, Tryd.results14, go_sem, q0, q1]) rfl ⟨_, rfl, c3.set2 HB.out _ _, below_setg hb3t (by omega) _ _⟩

theorem GI.alloc {w : World} {v : Value} {z : Int} {k : Nat} (h : GI w v z k) (o : Obj) : GI (w.alloc o) v z k := h.below ((Below.refl _ _).alloc (Nat.le_refl _) _)
theorem gi_mk {w : World} {va : Value} {n k : Nat} (h : GN w va n k) (b : Bool) : GI w (.agg #[.bool b, va]) (sg b n) k := ⟨b, va, n, rfl, h, rfl⟩

set_option maxHeartbeats 1000000 in
theorem wsub_any (va vb : Value) (y z : Int) (k1 k2 : Nat) (w : World) (hx : GI w va y k1) (hy : GI w vb z k2) (h1 : k1 ≤ 1000000) (h2 : k2 ≤ 1000000) :
    Calls Tryd.prog 16 #[va, vb] w fun e w' => ∃ v, e = .returned v ∧ CI w' v (y - z) (k1 + k2 + 1) ∧ Below w.heap.size w w' := by
  obtain ⟨b, ao, l, c, m, rfl, hg, rfl⟩ := hx.shape
  obtain ⟨d, po, pl, pc, n, rfl, hg2, rfl⟩ := hy.shape
  have hW := below3 w (.cells #[.bool b, .slice ao l c] 25) (.cells #[.bool d, .slice po pl pc] 25) (.cells #[.bool false, .slice none 0 0] 25)
  rw [show sg b m - sg d n = sg b m + sg (!d) n by cases d <;> simp [sg] <;> omega]
  go_enter Tryd.func16, Tryd.ntmps16
  go_wp2_with fail
  refine (wadd_any _ _ _ _ k1 k2 _ (((hx.alloc _).alloc _).alloc _) (gi_mk (((hg2.alloc _).alloc _).alloc _) (!d)) h1 h2).mono ?_
  rintro e w3 ⟨v3, rfl, c3, hb3⟩
  obtain ⟨bb, bo, bl, bc, rfl⟩ := c3.shape
  have hk3 := (blocks3 (hb3.mono (by simp))).2.2
  have hb3t := hW.trans (hb3.mono (by simp; omega))
  clear hb3
  obtain ⟨q0, q1, f0, f1⟩ := two_cells hk3
  have HB := Lib.hid hk3
  clear hk3
  go_wp2_with fail
  exact bodyPost_ret (v := .agg #[.bool bb, .slice bo bl bc]) (by simp [results, Tryd.results16, go_sem, q0, q1]) rfl ⟨_, rfl, c3.set2 HB.out _ _, below_setg hb3t (by omega) _ _⟩

set_option maxHeartbeats 1000000 in
theorem compare_any (a b : Int) (w : World) : Calls Tryd.prog 46 #[.int .i64 a, .int .i64 b] w fun e w' => e = .returned (.int .i64 (sgnZ (a - b))) ∧ w = w' := by
  have HN : ∀ (x : Int) (w : World), Calls Tryd.prog 67 #[.int .i64 x] w fun e w' => e = .returned (.bool false) ∧ w = w' := by
    intro x w
    go_enter Tryd.func67, Tryd.ntmps67
    go_wp2
    go_ret
    exact ⟨by simp, rfl⟩
  rcases Int.lt_trichotomy a b with h | h | h
  · have HS := Lib.hid (show sgnZ (a - b) = -1 by unfold sgnZ; rw [if_neg (by omega), if_pos (by omega)])
    have H := Lib.hid HN
    clear HN
    go_enter Tryd.func46, Tryd.ntmps46
    go_wp2_with fail
    refine (H.out a _).mono ?_; rintro e w' ⟨rfl, rfl⟩
    go_wp2_with fail
    refine (H.out b _).mono ?_; rintro e w' ⟨rfl, rfl⟩
    go_wp2_with fail
    go_ret
    exact ⟨by rw [HS.out]; rfl, rfl⟩
  · subst h
    have HS := Lib.hid (show sgnZ (a - a) = 0 by unfold sgnZ; rw [if_pos (by omega)])
    have H := Lib.hid HN
    clear HN
    go_enter Tryd.func46, Tryd.ntmps46
    go_wp2_with fail
    refine (H.out a _).mono ?_; rintro e w' ⟨rfl, rfl⟩
    go_wp2_with fail
    refine (H.out a _).mono ?_; rintro e w' ⟨rfl, rfl⟩
    go_wp2_with fail
    go_ret
    exact ⟨by rw [HS.out]; rfl, rfl⟩
  · have HS := Lib.hid (show sgnZ (a - b) = 1 by unfold sgnZ; rw [if_neg (by omega), if_neg (by omega)])
    have H := Lib.hid HN
    clear HN
    have h' : ¬ a < b := by omega
    go_enter Tryd.func46, Tryd.ntmps46
    go_wp2_with fail
    refine (H.out a _).mono ?_; rintro e w' ⟨rfl, rfl⟩
    go_wp2_with fail
    refine (H.out b _).mono ?_; rintro e w' ⟨rfl, rfl⟩
    go_wp2_with fail
    go_ret
    exact ⟨by rw [HS.out]; rfl, rfl⟩
end Go.Proofs.YtbkeildnhimfbaaDoor
