/-
  Contracts of package whole: Of, Cmp, Text.
-/
import Derived.Test.YtbkeildnhimfbaaDoorWhoC
import Derived.Test.YtbkeildnhimfbaaDoorFmt
namespace Go.Proofs.YtbkeildnhimfbaaDoor
open Go.RowKit
set_option maxRecDepth 100000

theorem of_d (n : Nat) (z : Int) (w : World) (hz : z = (n : Int)) (hn : n < 18446744073709551616) :
    Calls Tryd.prog 51 #[.int .u64 z] w fun e w' => ∃ v, e = .returned v ∧ Sl w' .u32 v (dig L32 n) ∧ n < L32 ^ 2 ∧ Below w.heap.size w w' :=
  (of_any n z w hz hn).mono fun _ _ ⟨v, he, hs, hb⟩ => ⟨v, he, hs, Nat.lt_of_lt_of_eq hn (by decide), hb⟩

set_option maxHeartbeats 1000000 in
theorem wof_any (z : Int) (w : World) (h1 : -9223372036854775808 ≤ z) (h2 : z ≤ 9223372036854775807) :
    Calls Tryd.prog 26 #[.int .i64 z] w fun e w' => ∃ v, e = .returned v ∧ CI w' v z 2 ∧ Below w.heap.size w w' := by
  have hW : Below w.heap.size w (w.alloc (.cells #[.bool false, .slice none 0 0] 25)) := (Below.refl _ _).alloc (Nat.le_refl _) _
  by_cases hz : z < 0
  · have HZ := Lib.hid (show sg true z.natAbs = z by simp [sg]; omega)
    go_enter Tryd.func26, Tryd.ntmps26
    go_wp2_with fail
    refine (of_d z.natAbs _ _ (by simp only [IntKind.wrap_u64]; omega) (by omega)).mono ?_
    rintro e w2 ⟨v2, rfl, s2, hn, hb2⟩
    have hk2 := (hb2.block w.heap.size (by simp)).trans (heap_alloc_new w _)
    have hb2t := hW.trans (hb2.mono (by simp))
    clear hb2
    obtain ⟨vo, vc, rfl⟩ := sl_shape s2
    go_wp2_with fail
    refine (signed_any _ _ _ 2 w2 s2 hn).mono ?_
    rintro e w3 ⟨v3, rfl, c3, hb3⟩
    obtain ⟨bb, bo, bl, bc, rfl⟩ := c3.shape
    have hk3 := (hb3.block _ (lt_of_block hk2)).trans hk2
    have hb3t := hb2t.trans (hb3.mono hb2t.size)
    clear hb3 hk2 hb2t
    obtain ⟨q0, q1, f0, f1⟩ := two_cells hk3
    have HB := Lib.hid hk3
    clear hk3
    rw [HZ.out] at c3
    go_wp2_with fail
    exact bodyPost_ret (v := .agg #[.bool bb, .slice bo bl bc]) (by simp [results, Tryd.results26, go_sem, q0, q1]) rfl ⟨_, rfl, c3.set2 HB.out _ _, below_setg hb3t (by omega) _ _⟩
  · have HZ := Lib.hid (show sg false z.natAbs = z by simp [sg]; omega)
    go_enter Tryd.func26, Tryd.ntmps26
    go_wp2_with fail
    refine (of_d z.natAbs _ _ (by omega) (by omega)).mono ?_
    rintro e w2 ⟨v2, rfl, s2, hn, hb2⟩
    have hk2 := (hb2.block w.heap.size (by simp)).trans (heap_alloc_new w _)
    have hb2t := hW.trans (hb2.mono (by simp))
    clear hb2
    obtain ⟨vo, vc, rfl⟩ := sl_shape s2
    go_wp2_with fail
    refine (signed_any _ _ _ 2 w2 s2 hn).mono ?_
    rintro e w3 ⟨v3, rfl, c3, hb3⟩
    obtain ⟨bb, bo, bl, bc, rfl⟩ := c3.shape
    have hk3 := (hb3.block _ (lt_of_block hk2)).trans hk2
    have hb3t := hb2t.trans (hb3.mono hb2t.size)
    clear hb3 hk2 hb2t
    obtain ⟨q0, q1, f0, f1⟩ := two_cells hk3
    have HB := Lib.hid hk3
    clear hk3
    rw [HZ.out] at c3
    go_wp2_with fail
    exact bodyPost_ret (v := .agg #[.bool bb, .slice bo bl bc]) (by simp [results, Tryd.results26, go_sem, q0, q1]) rfl ⟨_, rfl, c3.set2 HB.out _ _, below_setg hb3t (by omega) _ _⟩

theorem sgnZ_le (z : Int) : -1 ≤ sgnZ z ∧ sgnZ z ≤ 1 := by unfold sgnZ; split; omega; split <;> omega
theorem sgnZ_sg {b : Bool} {n : Nat} (h : 0 < n) : sgnZ (sg b n) = if b then -1 else 1 := by
  cases b
  · simp only [sg, Bool.false_eq_true, if_false]; unfold sgnZ; rw [if_neg (by omega), if_neg (by omega)]
  · simp only [sg, if_true]; unfold sgnZ; rw [if_neg (by omega), if_pos (by omega)]
theorem sgnZ_zero : sgnZ 0 = 0 := rfl
theorem sgnZ_diff {y z : Int} (h : sgnZ y ≠ sgnZ z) : sgnZ (sgnZ y - sgnZ z) = sgnZ (y - z) := by
  unfold sgnZ at h ⊢
  split at h <;> split at h <;> (try split at h) <;> (try split at h) <;> simp_all <;> first | omega | (rw [if_neg (by omega)]; first | rw [if_pos (by omega)] | rw [if_neg (by omega)])
theorem sgnZ_same {b d : Bool} {m n : Nat} (h : sgnZ (sg b m) = sgnZ (sg d n)) : sgnZ (sg b m) * cmpN m n = sgnZ (sg b m - sg d n) := by
  unfold sgnZ sg cmpN at *
  cases b <;> cases d <;> simp at h ⊢ <;> (repeat' split at h) <;> (repeat' split) <;> first | rfl | omega

set_option maxHeartbeats 2000000 in
theorem wcmp_any (va vb : Value) (y z : Int) (k1 k2 : Nat) (w : World) (hx : GI w va y k1) (hy : GI w vb z k2) (h1 : k1 ≤ 1000000) (h2 : k2 ≤ 1000000) :
    Calls Tryd.prog 20 #[va, vb] w fun e w' => e = .returned (.int .i64 (sgnZ (y - z))) ∧ Below w.heap.size w w' := by
  have hgx := hx
  have hgy := hy
  obtain ⟨b, ao, l, c, m, rfl, hg, rfl⟩ := hx.shape
  obtain ⟨d, po, pl, pc, n, rfl, hg2, rfl⟩ := hy.shape
  have hW := below2 w (.cells #[.bool b, .slice ao l c] 25) (.cells #[.bool d, .slice po pl pc] 25)
  by_cases hs : sgnZ (sg b m) = sgnZ (sg d n)
  · have HE := Lib.hid (sgnZ_same hs)
    have HS := Lib.hid hs
    have hbs := sgnZ_le (sg b m)
    have hbp := sgnZ_le (sg b m - sg d n)
    have hne : (sgnZ (sg d n) != sgnZ (sg d n)) = false := by simp
    clear hs
    go_enter Tryd.func20, Tryd.ntmps20
    go_wp2_with fail
    refine (wsign_any _ _ k1 _ ((hgx.alloc _).alloc _) h1).mono ?_
    rintro e w2 ⟨rfl, hb2⟩
    have hk2 := blocks2 (hb2.mono (by simp))
    have hb2t := hW.trans (hb2.mono (by simp; omega))
    clear hb2
    obtain ⟨kc0, kc1, _, _⟩ := two_cells hk2.1
    obtain ⟨kd0, kd1, _, _⟩ := two_cells hk2.2
    have HK := Lib.hid hk2
    clear hk2
    rw [HS.out]
    go_wp2_with fail
    refine (wsign_any _ _ k2 _ (hgy.below hb2t) h2).mono ?_
    rintro e w4 ⟨rfl, hb4⟩
    have hk0 := (hb4.block _ (lt_of_block HK.out.1)).trans HK.out.1
    have hk1 := (hb4.block _ (lt_of_block HK.out.2)).trans HK.out.2
    have hb4t := hb2t.trans (hb4.mono hb2t.size)
    clear hb4 kc0 kc1 kd0 kd1
    obtain ⟨kc0, kc1, _, _⟩ := two_cells hk0
    obtain ⟨kd0, kd1, _, _⟩ := two_cells hk1
    have HK0 := Lib.hid hk0
    have HK1 := Lib.hid hk1
    clear hk0 hk1
    go_wp2_with fail
    refine (cmp_n (hg.below hb4t) (hg2.below hb4t)).mono ?_
    rintro e w5 ⟨rfl, hb5⟩
    have hb5t := hb4t.trans (hb5.mono hb4t.size)
    have HP := Lib.hid (show sgnZ (sg d n) * cmpN m n = sgnZ (sg b m - sg d n) by rw [← HS.out]; exact HE.out)
    have p1 : -9223372036854775808 ≤ sgnZ (sg d n) * cmpN m n := by rw [HP.out]; omega
    have p2 : sgnZ (sg d n) * cmpN m n ≤ 9223372036854775807 := by rw [HP.out]; omega
    clear hb5
    go_wp2_with fail
    go_ret
    exact ⟨by rw [← HP.out]; rfl, hb5t⟩
  · have HD := Lib.hid (sgnZ_diff hs)
    have hne : (sgnZ (sg b m) != sgnZ (sg d n)) = true := by rw [bne_iff_ne]; exact hs
    clear hs
    go_enter Tryd.func20, Tryd.ntmps20
    go_wp2_with fail
    refine (wsign_any _ _ k1 _ ((hgx.alloc _).alloc _) h1).mono ?_
    rintro e w2 ⟨rfl, hb2⟩
    have hk2 := blocks2 (hb2.mono (by simp))
    have hb2t := hW.trans (hb2.mono (by simp; omega))
    clear hb2
    obtain ⟨kd0, kd1, _, _⟩ := two_cells hk2.2
    have HK := Lib.hid hk2.2
    clear hk2
    go_wp2_with fail
    refine (wsign_any _ _ k2 _ (hgy.below hb2t) h2).mono ?_
    rintro e w4 ⟨rfl, hb4⟩
    have hk1 := (hb4.block _ (lt_of_block HK.out)).trans HK.out
    have hb4t := hb2t.trans (hb4.mono hb2t.size)
    clear hb4 kd0 kd1
    obtain ⟨kd0, kd1, _, _⟩ := two_cells hk1
    clear hk1
    go_wp2_with fail
    refine (wsign_any _ _ k2 _ (hgy.below hb4t) h2).mono ?_
    rintro e w5 ⟨rfl, hb5⟩
    have hb5t := hb4t.trans (hb5.mono hb4t.size)
    clear hb5 kd0 kd1
    go_wp2_with fail
    refine (compare_any _ _ _).mono ?_
    rintro e w6 ⟨rfl, rfl⟩
    rw [HD.out]
    go_wp2_with fail
    go_ret
    exact ⟨rfl, hb5t⟩
end Go.Proofs.YtbkeildnhimfbaaDoor
