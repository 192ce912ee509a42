/-
  Contracts: the reference package's Cmp and Text of integers; the laws' helpers of, is.
-/
import Derived.Test.YtbkeildnhimfbaaDoorWhoR
namespace Go.Proofs.YtbkeildnhimfbaaDoor
open Go.RowKit
set_option maxRecDepth 100000

theorem bcell {W w1 : World} (hb : Below W.heap.size W w1) : (∀ b o, b < W.heap.size → w1.cell? ⟨b, o, none⟩ = W.cell? ⟨b, o, none⟩) ∧ (∀ b o, b < W.heap.size → w1.frozen? ⟨b, o, none⟩ = W.frozen? ⟨b, o, none⟩) :=
  ⟨fun b o h => hb.cell (p := ⟨b, o, none⟩) h, fun b o h => hb.frozen (p := ⟨b, o, none⟩) h⟩
theorem kept_local {W w1 : World} {T : TypeId} (hb : Below (W.alloc (.cells #[.bool false, .slice none 0 0] T)).heap.size (W.alloc (.cells #[.bool false, .slice none 0 0] T)) w1) :
    w1.cell? ⟨W.heap.size, 0, none⟩ = some (.bool false) ∧ w1.cell? ⟨W.heap.size, 1, none⟩ = some (.slice none 0 0) ∧ w1.frozen? ⟨W.heap.size, 0, none⟩ = false ∧ w1.frozen? ⟨W.heap.size, 1, none⟩ = false :=
  two_cells ((hb.block _ (by simp)).trans (heap_alloc_new W _))
theorem trans2 {a b c : World} (k : Below b.heap.size b c) (h : Below a.heap.size a b) : Below a.heap.size a c := h.trans (k.mono h.size)
theorem RI.drew {w : World} {v : Value} {z : Int} (h : RI w v z) : RI w.drew v z := h
theorem CI.drew {w : World} {v : Value} {z : Int} {k : Nat} (h : CI w v z k) : CI w.drew v z k := h
theorem GI.drew {w : World} {v : Value} {z : Int} {k : Nat} (h : GI w v z k) : GI w.drew v z k := h
/-- A local of two cells, made and stored. -/
theorem local_below (w : World) (T : TypeId) (x y : Value) : Below w.heap.size w (((w.alloc (.cells #[.bool false, .slice none 0 0] T)).setCell ⟨w.heap.size, 0, none⟩ x).setCell ⟨w.heap.size, 1, none⟩ y) :=
  below_setg ((Below.refl _ _).alloc (Nat.le_refl _) _) (Nat.le_refl _) x y
theorem local_heap (w : World) (T : TypeId) (x y : Value) : (((w.alloc (.cells #[.bool false, .slice none 0 0] T)).setCell ⟨w.heap.size, 0, none⟩ x).setCell ⟨w.heap.size, 1, none⟩ y).heap[w.heap.size]? = some (.cells #[x, y] T (0, 0)) := by
  have h1 := heap_setCell_same _ w.heap.size 0 _ T x (heap_alloc_new w (.cells #[.bool false, .slice none 0 0] T))
  have h2 := heap_setCell_same _ w.heap.size 1 _ T y h1
  rw [h2]; rfl
theorem size_setCell (w : World) (p : Addr) (x : Value) : (w.setCell p x).heap.size = w.heap.size := by simp [World.setCell]
theorem local_size (w : World) (T : TypeId) (x y : Value) : (((w.alloc (.cells #[.bool false, .slice none 0 0] T)).setCell ⟨w.heap.size, 0, none⟩ x).setCell ⟨w.heap.size, 1, none⟩ y).heap.size = w.heap.size + 1 := by
  rw [size_setCell, size_setCell]; exact World.size_alloc w _
theorem farA {w : World} {o : Obj} {g i : Nat} (h : g < w.heap.size) : (w.alloc o).cell? ⟨g, i, none⟩ = w.cell? ⟨g, i, none⟩ := World.cell?_alloc_lt w o _ h

set_option maxHeartbeats 2000000 in
theorem rzcmp_any (va vb : Value) (y z : Int) (w : World) (hx : RI w va y) (hy : RI w vb z) (h1 : bl y.natAbs ≤ 1000000) (h2 : bl z.natAbs ≤ 1000000) :
    Calls Tryd.prog 21 #[va, vb] w fun e w' => e = .returned (.int .i64 (sgnZ (y - z))) ∧ Below w.heap.size w w' := by
  have rx := hx
  have ry := hy
  obtain ⟨b, ao, l, c, m, rfl, -, -⟩ := hx.shape
  obtain ⟨d, po, pl, pc, n, rfl, -, -⟩ := hy.shape
  have h2' : bl (-z).natAbs ≤ 1000000 := by rw [Int.natAbs_neg]; exact h2
  have hW := below2 w (.cells #[.bool b, .slice ao l c] 30) (.cells #[.bool d, .slice po pl pc] 30)
  have HZ := Lib.hid (show y + -z = y - z by omega)
  have rx' := rx.below hW
  have ry' := ry.below hW
  clear hx hy rx ry
  go_enter Tryd.func21, Tryd.ntmps21
  go_upto_region 1 with fail
  go_cut [5] (fun s5 wx => ∃ g o3 c3, s5 = .pointer (some ⟨g, 0, none⟩) ∧ wx.cell? ⟨g, 0, none⟩ = some (.bool (decide (y - z < 0))) ∧ wx.cell? ⟨g, 1, none⟩ = some (.slice o3 (dig 2 (y - z).natAbs).length c3) ∧ Below w.heap.size w wx)
  case first =>
    go_region_held3 (fun w' => w'.cell? ⟨w.heap.size, 0, none⟩ = some (.bool b) ∧ w'.cell? ⟨w.heap.size, 1, none⟩ = some (.slice ao l c) ∧ w'.cell? ⟨w.heap.size + 1, 0, none⟩ = some (.bool d) ∧ w'.cell? ⟨w.heap.size + 1, 1, none⟩ = some (.slice po pl pc))
      (first | exact ⟨kc0, kc1, kd0, kd1⟩ | exact ⟨(far2 (by omega)).trans kc0, (far2 (by omega)).trans kc1, (far2 (by omega)).trans kd0, (far2 (by omega)).trans kd1⟩ | go_keep)
      (first
        | (go_at_call 17; refine (rzneg_any _ z _ (ry'.below (by first | exact Below.refl _ _ | (repeat (first | exact Below.refl _ _ | refine Below.drew ?_ | refine Below.alloc ?_ (by first | exact Nat.le_refl _ | (simp; done) | (simp; omega)) _))))).mono ?_; rintro e w2 ⟨v2, rfl, r2, hb2⟩; obtain ⟨hc2, hf2⟩ := bcell hb2; have hz2 := hb2.size; (try simp at hz2); have hb2t : Below ((w.alloc (.cells #[.bool b, .slice ao l c] 30)).alloc (.cells #[.bool d, .slice po pl pc] 30)).heap.size _ w2 := trans2 hb2 (by first | exact Below.refl _ _ | (repeat (first | exact Below.refl _ _ | refine Below.drew ?_ | refine Below.alloc ?_ (by first | exact Nat.le_refl _ | (simp; done) | (simp; omega)) _))); have rx2 := rx'.below hb2t; have hbw2 := hW.trans (hb2t.mono hW.size); obtain ⟨b2, o2, l2, c2, n2, rfl, -, -⟩ := r2.shape; have kc0 : w2.cell? ⟨w.heap.size, 0, none⟩ = some (.bool b) := (hc2 _ _ (by first | omega | (simp; omega) | (simp; done))).trans (by go_keep); have kc1 : w2.cell? ⟨w.heap.size, 1, none⟩ = some (.slice ao l c) := (hc2 _ _ (by first | omega | (simp; omega) | (simp; done))).trans (by go_keep); have kd0 : w2.cell? ⟨w.heap.size + 1, 0, none⟩ = some (.bool d) := (hc2 _ _ (by first | omega | (simp; omega) | (simp; done))).trans (by go_keep); have kd1 : w2.cell? ⟨w.heap.size + 1, 1, none⟩ = some (.slice po pl pc) := (hc2 _ _ (by first | omega | (simp; omega) | (simp; done))).trans (by go_keep); (first | (have hka := kept_local hb2; obtain ⟨ka0, ka1, ka2, ka3⟩ := hka; simp at ka0 ka1 ka2 ka3) | (have hka := kept_local (undrew hb2); obtain ⟨ka0, ka1, ka2, ka3⟩ := hka; simp at ka0 ka1 ka2 ka3) | skip))
        | (go_at_call 15; refine (rzadd_any _ _ y (-z) _ (rx2.below (by first | exact Below.refl _ _ | (repeat (first | exact Below.refl _ _ | refine Below.drew ?_ | refine Below.alloc ?_ (by first | exact Nat.le_refl _ | (simp; done) | (simp; omega)) _)))) (r2.below (by first | exact Below.refl _ _ | (repeat (first | exact Below.refl _ _ | refine Below.drew ?_ | refine Below.alloc ?_ (by first | exact Nat.le_refl _ | (simp; done) | (simp; omega)) _)))) h1 h2').mono ?_; rintro e w3 ⟨v3, rfl, r3, hb3⟩; rw [HZ.out] at r3; obtain ⟨hc3, hf3⟩ := bcell hb3; have hz3 := hb3.size; (try simp at hz3); have hb3t : Below w2.heap.size w2 w3 := trans2 hb3 (by first | exact Below.refl _ _ | (repeat (first | exact Below.refl _ _ | refine Below.drew ?_ | refine Below.alloc ?_ (by first | exact Nat.le_refl _ | (simp; done) | (simp; omega)) _))); have hbw3 := hbw2.trans (hb3t.mono hbw2.size); obtain ⟨v3', rfl, s3⟩ := r3; obtain ⟨o3, c3, rfl⟩ := sl_shape s3; have kc0 : w3.cell? ⟨w.heap.size, 0, none⟩ = some (.bool b) := (hc3 _ _ (by first | omega | (simp; omega) | (simp; done))).trans (by go_keep); have kc1 : w3.cell? ⟨w.heap.size, 1, none⟩ = some (.slice ao l c) := (hc3 _ _ (by first | omega | (simp; omega) | (simp; done))).trans (by go_keep); have kd0 : w3.cell? ⟨w.heap.size + 1, 0, none⟩ = some (.bool d) := (hc3 _ _ (by first | omega | (simp; omega) | (simp; done))).trans (by go_keep); have kd1 : w3.cell? ⟨w.heap.size + 1, 1, none⟩ = some (.slice po pl pc) := (hc3 _ _ (by first | omega | (simp; omega) | (simp; done))).trans (by go_keep); (first | (have hka := kept_local hb3; obtain ⟨ka0, ka1, ka2, ka3⟩ := hka) | (have kb0 := (hc3 _ _ (by omega)).trans ka0; have kb1 := (hc3 _ _ (by omega)).trans ka1; have kb2 := (hf3 _ _ (by omega)).trans ka2; have kb3 := (hf3 _ _ (by omega)).trans ka3) | skip)))
    all_goals
      go_wp2_with fail
      go_meet
      refine ⟨_, o3, c3, rfl, by go_simp, by go_simp, ?_⟩
      first | exact hbw3.alloc (by omega) _ | exact below_setg hbw3 (by omega) _ _
  case rest =>
    obtain ⟨g, o3, c3, rfl, q0, q1, hbf⟩ := hcut
    clear rx' ry' hW h1 h2 h2' HZ
    have hfin : Hid (y - z = 0 ∨ y - z < 0 ∨ 0 < y - z) := Lib.hid (by omega)
    rcases hfin.out with hc | hc | hc
    all_goals clear hfin
    · have HS := Lib.hid (show sgnZ (y - z) = 0 by unfold sgnZ; rw [if_pos hc])
      have hl : (((dig 2 (y - z).natAbs).length : Int) == 0) = true := by rw [hc, Int.natAbs_zero, dig_zero]; rfl
      clear hc
      go_wp2_with fail
      go_ret
      exact ⟨by rw [HS.out]; rfl, hbf⟩
    · have HS := Lib.hid (show sgnZ (y - z) = -1 by unfold sgnZ; rw [if_neg (by omega), if_pos hc])
      have hl : (((dig 2 (y - z).natAbs).length : Int) == 0) = false := by rw [beq_eq_false_iff_ne]; have := dig2_len_pos (n := (y - z).natAbs) (by omega); omega
      have hd : decide (y - z < 0) = true := by simpa using hc
      rw [hd] at q0
      clear hc hd
      go_wp2_with fail
      go_ret
      exact ⟨by rw [HS.out]; rfl, hbf⟩
    · have HS := Lib.hid (show sgnZ (y - z) = 1 by unfold sgnZ; rw [if_neg (by omega), if_neg (by omega)])
      have hl : (((dig 2 (y - z).natAbs).length : Int) == 0) = false := by rw [beq_eq_false_iff_ne]; have := dig2_len_pos (n := (y - z).natAbs) (by omega); omega
      have hd : decide (y - z < 0) = false := by rw [decide_eq_false_iff_not]; omega
      rw [hd] at q0
      clear hc hd
      go_wp2_with fail
      go_ret
      exact ⟨by rw [HS.out]; rfl, hbf⟩

set_option maxHeartbeats 1000000 in
theorem rztext_any (va : Value) (z : Int) (w : World) (hx : RI w va z) (hl : bl z.natAbs ≤ 100000) (hd : (decs z.natAbs).length ≤ 1000) :
    Calls Tryd.prog 35 #[va] w fun e w' => e = .returned (.string ⟨(zText z).toArray⟩) ∧ Below w.heap.size w w' := by
  obtain ⟨va, rfl, hs⟩ := hx
  obtain ⟨ao, c, rfl⟩ := sl_shape hs
  have hdl : (Lib.decDigits z.natAbs).length ≤ 1001 := by
    unfold decs at hd
    split at hd
    · next h0 => rw [h0, Lib.decDigits_one (by decide)]; decide
    · omega
  have hs' := Sl.alloc hs (.cells #[.bool (decide (z < 0)), .slice ao (dig 2 z.natAbs).length c] 30)
  have hW : Below w.heap.size w (w.alloc (.cells #[.bool (decide (z < 0)), .slice ao (dig 2 z.natAbs).length c] 30)) := (Below.refl _ _).alloc (Nat.le_refl _) _
  clear hs
  by_cases hz : z < 0
  · have HT := Lib.hid (show zText z = 45 :: Lib.decDigits z.natAbs by unfold zText; rw [if_pos hz])
    have hdz : decide (z < 0) = true := by simpa using hz
    rw [hdz] at hs' hW ⊢
    clear hz hdz
    go_enter Tryd.func35, Tryd.ntmps35
    go_wp2_with fail
    refine (digits_any _ z.natAbs _ hs' hl hd).mono ?_
    rintro e w2 ⟨rfl, hb2⟩
    have hb2t := hW.trans (hb2.mono hW.size)
    go_wp2_with fail
    go_ret
    exact ⟨by rw [HT.out, ← app45]; rfl, hb2t⟩
  · have HT := Lib.hid (show zText z = Lib.decDigits z.natAbs by unfold zText; rw [if_neg hz])
    have hdz : decide (z < 0) = false := by simpa using hz
    rw [hdz] at hs' hW ⊢
    clear hz hdz
    go_enter Tryd.func35, Tryd.ntmps35
    go_wp2_with fail
    refine (digits_any _ z.natAbs _ hs' hl hd).mono ?_
    rintro e w2 ⟨rfl, hb2⟩
    have hb2t := hW.trans (hb2.mono hW.size)
    go_wp2_with fail
    go_ret
    exact ⟨by rw [HT.out]; rfl, hb2t⟩

theorem bits_g {va : Value} {n k : Nat} {w : World} (hx : GN w va n k) (hk : k ≤ 10000) :
    Calls Tryd.prog 33 #[va] w fun e w' => ∃ v, e = .returned v ∧ Sl w' .i64 v (dig 2 n) ∧ Below w.heap.size w w' := by
  obtain ⟨xs, hs, dx, rfl, lx⟩ := hx
  exact bits_any _ xs w hs dx (by omega)

set_option maxHeartbeats 1000000 in
theorem lof_any (va : Value) (z : Int) (k : Nat) (w : World) (hx : GI w va z k) (hk : k ≤ 10000) :
    Calls Tryd.prog 12 #[va] w fun e w' => ∃ v, e = .returned v ∧ RI w' v z ∧ Below w.heap.size w w' := by
  obtain ⟨b, ao, l, c, n, rfl, hg, rfl⟩ := hx.shape
  have hW := below2 w (.cells #[.bool b, .slice ao l c] 25) (.cells #[.bool false, .slice none 0 0] 30)
  clear hx
  go_enter Tryd.func12, Tryd.ntmps12
  go_wp2_with fail
  go_region_held3 (fun w' => w'.cell? ⟨w.heap.size, 0, none⟩ = some (.bool b) ∧ w'.cell? ⟨w.heap.size, 1, none⟩ = some (.slice ao l c))
    (first | exact ⟨kc0, kc1⟩ | exact ⟨(far2 (by omega)).trans kc0, (far2 (by omega)).trans kc1⟩ | go_keep)
    (first
      | (go_at_call 33; refine (bits_g ((hg.alloc _).alloc _).drew hk).mono ?_; rintro e w2 ⟨v2, rfl, s2, hb2⟩; have hk2 := blocks2 (undrew (hb2.mono (by simp))); have hb2t := hW.trans (undrew (hb2.mono (by simp; omega))); clear hb2; obtain ⟨kc0, kc1, -, -⟩ := two_cells hk2.1)
      | (go_at_call 36; refine (rof_any b v2 _ w2 s2).mono ?_; rintro e w3 ⟨v3, rfl, c3, hb3⟩; obtain ⟨bb, bo, bl, bc, n3, rfl, -, -⟩ := c3.shape
         have hk0 := (hb3.block _ (lt_of_block hk2.1)).trans hk2.1; have hk3 := (hb3.block _ (lt_of_block hk2.2)).trans hk2.2; have hb3t := hb2t.trans (hb3.mono hb2t.size); clear hb3 hk2 hb2t kc0 kc1
         obtain ⟨kc0, kc1, -, -⟩ := two_cells hk0; obtain ⟨q0, q1, f0, f1⟩ := two_cells hk3; have HB := Lib.hid hk3; clear hk0 hk3))
  go_wp2_with fail
  exact bodyPost_ret (v := .agg #[.bool bb, .slice bo bl bc]) (by simp [results, Tryd.results12, go_sem, q0, q1]) rfl ⟨_, rfl, c3.set2 HB.out _ _, below_setg hb3t (by omega) _ _⟩

set_option maxHeartbeats 1000000 in
theorem lis_true (va vb : Value) (z : Int) (k : Nat) (w : World) (hx : CI w va z k) (hy : RI w vb z) (hk : k ≤ 10000) :
    Calls Tryd.prog 13 #[va, vb] w fun e w' => e = .returned (.bool true) ∧ Below w.heap.size w w' := by
  obtain ⟨va, rfl, hs, hlt⟩ := hx
  obtain ⟨vb, rfl, ht⟩ := hy
  obtain ⟨ao, ac, rfl⟩ := sl_shape hs
  obtain ⟨bo, bc, rfl⟩ := sl_shape ht
  have HL := Lib.hid (Nat.le_trans (length_dig_le (B := L32) (by decide) hlt) hk)
  have HS := Lib.hid hs
  have HT := Lib.hid ht
  clear hs ht hlt
  generalize decide (z < 0) = b at *
  have hW := below2 w (.cells #[.bool b, .slice ao (dig L32 z.natAbs).length ac] 25) (.cells #[.bool b, .slice bo (dig 2 z.natAbs).length bc] 30)
  have hbb : (b == b) = true := by cases b <;> rfl
  go_enter Tryd.func13, Tryd.ntmps13
  go_wp2_with fail
  refine (is_true _ _ z.natAbs _ ((HS.out.alloc _).alloc _) ((HT.out.alloc _).alloc _) HL.out).mono ?_
  rintro e w2 ⟨rfl, hb2⟩
  have hb2t := hW.trans (hb2.mono hW.size)
  go_wp2_with fail
  go_ret
  exact ⟨rfl, hb2t⟩
end Go.Proofs.YtbkeildnhimfbaaDoor
