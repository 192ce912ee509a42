/-
  The contract of the laws' helper full.
-/
import Derived.Test.YtcdacmbcecjliaaDoorTrS
import Derived.IntWalk
namespace Go.Proofs.YtcdacmbcecjliaaDoor
open Go.RowKit
set_option linter.unusedVariables false
set_option maxRecDepth 100000

theorem below_drewX (w : World) (n : Nat) (B : Nat) : Below B w (w.drewN n) := ⟨rfl, rfl, rfl, Nat.le_refl _, fun _ _ => rfl⟩
def strs (ls : List Bs) : List Value := ls.map fun s => Value.string ⟨s.toArray⟩
theorem strs_one (ls : List Bs) : ∀ u ∈ strs ls, u.oneCell' = true := by
  intro u hu
  obtain ⟨s, -, rfl⟩ := List.mem_map.1 hu
  rfl
theorem strs_app (a b : List Bs) : strs (a ++ b) = strs a ++ strs b := List.map_append ..

theorem below_grownN {w w' : World} (h : Below w.heap.size w w') (row : Option Nat) : w.grownBy w' row := ⟨h.os, h.tape, h.output, h.size, fun k hk _ => h.block k hk⟩
/-- The cells of a slice of strings of the call's own. -/
theorem own_strs {w : World} {base : Nat} {ko : Option Addr} {n kc : Nat} {ls : List Bs} (h : w.ownsRow base 9 1 (.slice ko n kc) n (strs ls)) (hn : ls.length = n) (hp : 0 < n) :
    ∃ g, ko = some ⟨g, 0, none⟩ ∧ ∀ i (hi : i < ls.length), w.cell? ⟨g, i, none⟩ = some (.string ⟨ls[i].toArray⟩) := by
  have h0 := h
  rcases h.2 with ⟨hv, h1⟩ | ⟨g, cap, cur, hv, hb, hg, h1, h2, h3, h4⟩
  · omega
  · injection hv with e1 e2 e3
    subst e1 e3
    refine ⟨g, rfl, fun i hi => ?_⟩
    rw [World.ownsRow.cellAt h0 i (by omega)]
    simp [strs, hi]

theorem ar_two (k : Nat) (h1 : k < 24) (h2 : 10 ≤ k) : ar k = 2 := (show ∀ k, k < 24 → 10 ≤ k → ar k = 2 by decide) k h1 h2
theorem shp_bin (k : Nat) (h10 : 10 ≤ k) (h24 : k < 24) (nm ot : Bs) (z : Nat) (ps : List Bs) : shp k nm ot z ps = ps.getD 0 [] ++ [32] ++ sg5 k ++ [32] ++ ps.getD 1 [] := by
  unfold shp
  rw [if_neg (by omega), if_neg (by omega), if_neg (by omega), if_neg (by omega), if_pos h24]
/-- The signs of the binary operators, in a slice. -/
def Signs (w : World) (v : Value) : Prop := ∃ gs, v = .slice (some ⟨gs, 0, none⟩) 14 14 ∧ ∀ i, 10 ≤ i → i < 24 → w.cell? ⟨gs, i - 10, none⟩ = some (.string ⟨(sg5 i).toArray⟩)
theorem Signs.below {w w' : World} {v : Value} (h : Signs w v) (hb : Below w.heap.size w w') : Signs w' v := by
  obtain ⟨gs, h1, h2⟩ := h
  exact ⟨gs, h1, fun i h3 h4 => by rw [hb.cell (cell_lt (h2 i h3 h4))]; exact h2 i h3 h4⟩
theorem signs_made (w : World) (g : Nat) (h : w.heap[g]? = some (.cells #[.string ⟨#[43]⟩, .string ⟨#[45]⟩, .string ⟨#[42]⟩, .string ⟨#[47]⟩, .string ⟨#[37]⟩, .string ⟨#[61]⟩, .string ⟨#[60, 62]⟩, .string ⟨#[60]⟩, .string ⟨#[60, 61]⟩, .string ⟨#[62]⟩, .string ⟨#[62, 61]⟩, .string ⟨#[38, 38]⟩, .string ⟨#[124, 124]⟩, .string ⟨#[58, 58]⟩] 9 (0, 0))) :
    ∀ i, 10 ≤ i → i < 24 → w.cell? ⟨g, i - 10, none⟩ = some (.string ⟨(sg5 i).toArray⟩) := by
  intro i h1 h2
  refine cell_at h (i - 10) ?_
  obtain rfl | rfl | rfl | rfl | rfl | rfl | rfl | rfl | rfl | rfl | rfl | rfl | rfl | rfl : i = 10 ∨ i = 11 ∨ i = 12 ∨ i = 13 ∨ i = 14 ∨ i = 15 ∨ i = 16 ∨ i = 17 ∨ i = 18 ∨ i = 19 ∨ i = 20 ∨ i = 21 ∨ i = 22 ∨ i = 23 := by omega
  all_goals rfl

def FullAt (d : Nat) : Prop := ∀ (x : X) (t : T) (w : World) (S : Nat → Prop), Tabs w → Tr w S d x t → Ok d t →
  Calls Tryd.prog 25 #[xv x] w fun e w' => e = .returned (.string ⟨(fl t).toArray⟩) ∧ Below w.heap.size w w'

set_option maxHeartbeats 8000000 in
theorem full_step (d : Nat) (hd : d + 1 ≤ 6) (IH : Hid (FullAt d)) : FullAt (d + 1) := by
  intro x t w S ht h ho
  obtain ⟨k, nm, ot, z, ks⟩ := t
  have hok := ho
  have htr := h
  obtain ⟨hk, hn, hoo, hz, ha, hl, hks⟩ := ho
  obtain ⟨⟨e1, e2, e3, e4⟩, ⟨h2, h3⟩, ⟨h4, h5, h6⟩, h7⟩ := h
  obtain ⟨xk, xnm, xot, xb, xao, xn, xq, xko, xkn, xkc, xln, xcl⟩ := x
  simp only at e1 e2 e3 e4 h2 h3 h4 h5 h6 h7
  subst e1 e2 e3 e4 h4
  have HTR := Lib.hid htr
  have HOK := Lib.hid hok
  have HK := Lib.hid h7
  have HKS := Lib.hid hks
  have HT := Lib.hid ht
  obtain ⟨k3, hk3⟩ : ∃ k3, k3 = w.heap.size := ⟨_, rfl⟩
  obtain ⟨w9, hw9⟩ : ∃ w9, w9 = w.alloc (.cells #[.int .i64 (k : Nat), .string ⟨nm.toArray⟩, .string ⟨ot.toArray⟩, .bool false, .slice xao xn xq, .slice xko ks.length xkc, .int .i64 xln, .int .i64 xcl] 29) := ⟨_, rfl⟩
  have hba : Below w.heap.size w w9 := by rw [hw9]; exact (Below.refl _ _).alloc (Nat.le_refl _) _
  have hx9 : w9.heap[k3]? = some (.cells #[.int .i64 (k : Nat), .string ⟨nm.toArray⟩, .string ⟨ot.toArray⟩, .bool false, .slice xao xn xq, .slice xko ks.length xkc, .int .i64 xln, .int .i64 xcl] 29 (0, 0)) := by rw [hw9, hk3]; exact made_at w _ _ rfl
  have HX9 := Lib.hid hx9
  have HB9 := Lib.hid hba
  have x0 := cell_at (v := .int .i64 (k : Nat)) hx9 0 rfl
  have x1 := cell_at (v := .string ⟨nm.toArray⟩) hx9 1 rfl
  have x2 := cell_at (v := .string ⟨ot.toArray⟩) hx9 2 rfl
  have x3 := cell_at (v := .bool false) hx9 3 rfl
  have x4 := cell_at (v := .slice xao xn xq) hx9 4 rfl
  have x5 := cell_at (v := .slice xko ks.length xkc) hx9 5 rfl
  have x6 := cell_at (v := .int .i64 xln) hx9 6 rfl
  have x7 := cell_at (v := .int .i64 xcl) hx9 7 rfl
  clear htr hok h2 h3 h5 h6 h7 hks ht hba hx9 hz
  have HW9 := Lib.hid hw9
  have HK3 := Lib.hid hk3
  clear hw9 hk3
  by_cases hleaf : (ks.isEmpty || k == 24) = true
  · have hfl : fl (.node k nm ot z ks) = tx (.node k nm ot z ks) := by rw [fl, if_pos hleaf]
    have HFL := Lib.hid hfl
    have hcase : ((ks.length : Int) == 0) = true ∨ (((ks.length : Int) == 0) = false ∧ (((k : Nat) : Int) == 24) = true) := by
      cases ks with
      | nil => exact .inl rfl
      | cons a b =>
        refine .inr ⟨by rw [beq_eq_false_iff_ne]; simp; omega, ?_⟩
        simp at hleaf
        subst hleaf; rfl
    clear hfl hleaf ha hk hn hoo
    rcases hcase with hz0 | ⟨hz0, hz1⟩
    all_goals
      simp only [xv]
      go_enter Tryd.func25, Tryd.ntmps25
      go_upto_region 1 with fail
      rw [← HW9.out, ← HK3.out]
      go_wp2_with fail
      refine (text_any5 (d + 1) hd ⟨(k : Nat), ⟨nm.toArray⟩, ⟨ot.toArray⟩, false, xao, xn, xq, xko, ks.length, xkc, xln, xcl⟩ _ S w9 (HT.out.below HB9.out) (HTR.out.below HB9.out) HOK.out).mono ?_
      rintro e w10 ⟨rfl, hb⟩
      have HB10 := Lib.hid (HB9.out.trans (hb.mono HB9.out.size))
      clear hb x0 x1 x2 x3 x4 x5 x6 x7
      go_wp2_with fail
      go_ret
      exact ⟨by rw [HFL.out]; rfl, HB10.out⟩
  · have h24 : k ≠ 24 := by intro e; subst e; simp at hleaf
    have hne : ks ≠ [] := by intro e; subst e; simp at hleaf
    have h5 : 5 ≤ k := by
      rcases Nat.lt_or_ge k 5 with h1 | h1
      · have := ar_leaf k h1
        rcases ha with ha | ha
        · exact absurd ha h24
        · rw [this] at ha; exact absurd (List.eq_nil_of_length_eq_zero ha) hne
      · exact h1
    have hlen : ks.length = ar k := by
      rcases ha with ha | ha
      · exact absurd ha h24
      · exact ha
    have hz0 : ((ks.length : Int) == 0) = false := by
      rw [beq_eq_false_iff_ne]
      have := List.length_pos_iff.2 hne
      omega
    have hz1 : (((k : Nat) : Int) == 24) = false := by rw [beq_eq_false_iff_ne]; omega
    have HLEN := Lib.hid hlen
    have HFL := Lib.hid (show fl (.node k nm ot z ks) = [40] ++ shp k nm ot z (fls ks) ++ [41] by rw [fl, if_neg hleaf])
    clear hleaf hne ha hn hoo hlen
    simp only [xv]
    go_enter Tryd.func25, Tryd.ntmps25
    go_upto_region 1 with fail
    rw [← HW9.out, ← HK3.out]
    go_wp2_with fail
    go_loopw [4, 6, 21] (fun s p i wr => ∃ j : Nat, i = .int .i64 (j : Nat) ∧ j ≤ ks.length ∧ wr.ownsRow w9.heap.size 9 1 s j (strs (fls (ks.take j))) ∧ Below w9.heap.size w9 wr) (fun _ _ i _ => ks.length - (intOf i).toNat)
    case atStart => exact ⟨0, rfl, Nat.zero_le _, World.ownsRow_nil _ _ _ _, Below.refl _ _⟩
    case round =>
      obtain ⟨j, rfl, hj, hown, hb⟩ := hrel
      have HOWN := Lib.hid hown
      have HR := Lib.hid hb
      clear hown
      by_cases hlt : j < ks.length
      · obtain ⟨y, hA, hT⟩ := HK.out j hlt
        have hT' := hT.below (HB9.out.trans (hb.mono HB9.out.size))
        obtain ⟨a, rfl, hc⟩ := hA.keep fun a ha => (HB9.out.trans (hb.mono HB9.out.size)).block _ (hA.lt a ha)
        obtain ⟨c0, c1, c2, c3, c4, c5, c6, c7⟩ := cells8 hc
        have HTY := Lib.hid hT'
        have HTA := Lib.hid (HT.out.below (HB9.out.trans (hb.mono HB9.out.size)))
        clear hc hA hT hT' hb
        go_wp2_with fail
        have hb10 : Below w9.heap.size w9 (wr.alloc (.cells #[.int .i64 y.k, .string y.nm, .string y.ot, .bool y.b, .slice y.ao y.n y.c, .slice y.ko y.kn y.kc, .int .i64 y.ln, .int .i64 y.cl] 29)) := HR.out.alloc HR.out.size _
        refine (IH.out y _ _ S (HTA.out.below ((Below.refl _ _).alloc (Nat.le_refl _) _)) (HTY.out.alloc _) (HKS.out _ (List.getElem_mem hlt))).mono ?_
        rintro e w11 ⟨rfl, hb11⟩
        have hb11' := hb10.trans (hb11.mono hb10.size)
        have hwr11 : Below wr.heap.size wr w11 := ((Below.refl _ _).alloc (Nat.le_refl _) _).trans (hb11.mono (by simp))
        have hown11 := HOWN.out.kept (below_grownN hwr11 none) (by cases hv : u4.ownBlock with | none => exact .inl rfl | some g => exact .inr (show some g ≠ none by simp))
        have HA12 := Lib.hid (hown11.alloc (.cells #[.string ⟨(fl ks[j]).toArray⟩] 9))
        have HM12 := Lib.hid (made_at w11 (.cells #[.string ⟨(fl ks[j]).toArray⟩] 9) _ rfl)
        have HB12 := Lib.hid (hb11'.alloc hb11'.size (.cells #[.string ⟨(fl ks[j]).toArray⟩] 9))
        have hs12 := HB12.out.size
        clear hb11 hb10 hb11' hwr11 hown11 c0 c1 c2 c3 c4 c5 c6 c7
        go_wp2_with (at_builtin; refine wpList_append_el _ rfl (.tmp 25) (.tmp 28) 75 rfl 9 Tryd.underlying75 infoStr rfl (by decide) (by decide) w9.heap.size u4 j _ rfl HA12.out w11.heap.size 9 [.string ⟨(fl ks[j]).toArray⟩] rfl (strs_one [_]) rfl HM12.out (by omega) (by omega) ?_; intro v' w13 hown' hgrow hfresh; have HOW := Lib.hid hown'; have HGR := Lib.hid hgrow; clear hown' hgrow hfresh)
        go_roundw
        case rel => exact ⟨j + 1, by go_num, by omega, (by rw [fls_take ks j hlt, strs_app]; exact HOW.out), HB12.out.grown HGR.out hs12 (fun k hk => (HA12.out.lt k hk).1)⟩
        case measure => simp [intOf]; omega
      · have e : j = ks.length := by omega
        subst e
        rw [List.take_length] at HOWN
        have hxr := (HR.out.block k3 (lt_of_block HX9.out)).trans HX9.out
        have HBR := Lib.hid (HB9.out.trans (HR.out.mono HB9.out.size))
        have hlf : ∀ t ∈ ks, (fl t).length ≤ 491520 := fun t ht => Nat.le_trans (len_all d t (HKS.out t ht)).2 (LL_mono (b := 6) (by omega))
        have hnl : nm.length ≤ 2 ∧ ot.length ≤ 2 := ⟨HOK.out.2.1.2, HOK.out.2.2.1⟩
        have hlen := HLEN.out
        obtain ⟨ko, kc, rfl, -⟩ := own_form HOWN.out
        have hpos : 0 < ks.length := by
          have := ar_pos k hk h5
          omega
        obtain ⟨g, rfl, hcs⟩ := own_strs HOWN.out (by rw [fls_len]) hpos
        have hgl : g < wr.heap.size := by
          have := hcs 0 (by rw [fls_len]; exact hpos)
          exact cell_lt this
        have hcase : k = 5 ∨ k = 6 ∨ k = 7 ∨ k = 8 ∨ k = 9 ∨ k = 25 ∨ k = 26 ∨ k = 27 ∨ k = 28 ∨ (10 ≤ k ∧ k < 24) := by omega
        clear x0 x1 x2 x3 x4 x5 x6 x7 hb HOWN HR HT HK HTR HOK IH HW9 HK3 HX9 HB9 HLEN HKS hl h5 h24 hz0 hz1 hk
        rcases hcase with rfl | rfl | rfl | rfl | rfl | rfl | rfl | rfl | rfl | ⟨h10, h24⟩
        · obtain ⟨t0, hks⟩ : ∃ t0, ks = [t0] := by
            have : ks.length = 1 := hlen
            match ks, this with
            | [a], _ => exact ⟨a, rfl⟩
          subst hks
          have g0 : wr.cell? ⟨g, 0, none⟩ = some (.string ⟨(fl t0).toArray⟩) := hcs 0 (by simp [fls])
          have q0 : (⟨(fl t0).toArray⟩ : ByteArray).size = (fl t0).length := rfl
          have u0 := hlf t0 (by simp)
          have v1 : (⟨nm.toArray⟩ : ByteArray).size = nm.length := rfl
          have v2 : (⟨ot.toArray⟩ : ByteArray).size = ot.length := rfl
          have x0 := cell_at (v := .int .i64 ((5 : Nat) : Int)) hxr 0 rfl
          clear hcs hlf hxr hlen
          go_wp2_with fail
          go_ret
          exact ⟨by rw [HFL.out]; exact congrArg (fun b => Ending.returned (Value.string b)) (by simp only [ByteArray.mk_append_mk]; simp [shp, fls, sg5]), HBR.out⟩
        · obtain ⟨t0, hks⟩ : ∃ t0, ks = [t0] := by
            have : ks.length = 1 := hlen
            match ks, this with
            | [a], _ => exact ⟨a, rfl⟩
          subst hks
          have g0 : wr.cell? ⟨g, 0, none⟩ = some (.string ⟨(fl t0).toArray⟩) := hcs 0 (by simp [fls])
          have q0 : (⟨(fl t0).toArray⟩ : ByteArray).size = (fl t0).length := rfl
          have u0 := hlf t0 (by simp)
          have v1 : (⟨nm.toArray⟩ : ByteArray).size = nm.length := rfl
          have v2 : (⟨ot.toArray⟩ : ByteArray).size = ot.length := rfl
          have x0 := cell_at (v := .int .i64 ((6 : Nat) : Int)) hxr 0 rfl
          clear hcs hlf hxr hlen
          go_wp2_with fail
          go_ret
          exact ⟨by rw [HFL.out]; exact congrArg (fun b => Ending.returned (Value.string b)) (by simp only [ByteArray.mk_append_mk]; simp [shp, fls, sg5]), HBR.out⟩
        · obtain ⟨t0, hks⟩ : ∃ t0, ks = [t0] := by
            have : ks.length = 1 := hlen
            match ks, this with
            | [a], _ => exact ⟨a, rfl⟩
          subst hks
          have g0 : wr.cell? ⟨g, 0, none⟩ = some (.string ⟨(fl t0).toArray⟩) := hcs 0 (by simp [fls])
          have q0 : (⟨(fl t0).toArray⟩ : ByteArray).size = (fl t0).length := rfl
          have u0 := hlf t0 (by simp)
          have v1 : (⟨nm.toArray⟩ : ByteArray).size = nm.length := rfl
          have v2 : (⟨ot.toArray⟩ : ByteArray).size = ot.length := rfl
          have x0 := cell_at (v := .int .i64 ((7 : Nat) : Int)) hxr 0 rfl
          clear hcs hlf hxr hlen
          go_wp2_with fail
          go_ret
          exact ⟨by rw [HFL.out]; exact congrArg (fun b => Ending.returned (Value.string b)) (by simp only [ByteArray.mk_append_mk]; simp [shp, fls, sg5]), HBR.out⟩
        · obtain ⟨t0, hks⟩ : ∃ t0, ks = [t0] := by
            have : ks.length = 1 := hlen
            match ks, this with
            | [a], _ => exact ⟨a, rfl⟩
          subst hks
          have g0 : wr.cell? ⟨g, 0, none⟩ = some (.string ⟨(fl t0).toArray⟩) := hcs 0 (by simp [fls])
          have q0 : (⟨(fl t0).toArray⟩ : ByteArray).size = (fl t0).length := rfl
          have u0 := hlf t0 (by simp)
          have v1 : (⟨nm.toArray⟩ : ByteArray).size = nm.length := rfl
          have v2 : (⟨ot.toArray⟩ : ByteArray).size = ot.length := rfl
          have x0 := cell_at (v := .int .i64 ((8 : Nat) : Int)) hxr 0 rfl
          clear hcs hlf hxr hlen
          go_wp2_with fail
          go_ret
          exact ⟨by rw [HFL.out]; exact congrArg (fun b => Ending.returned (Value.string b)) (by simp only [ByteArray.mk_append_mk]; simp [shp, fls, sg5]), HBR.out⟩
        · obtain ⟨t0, hks⟩ : ∃ t0, ks = [t0] := by
            have : ks.length = 1 := hlen
            match ks, this with
            | [a], _ => exact ⟨a, rfl⟩
          subst hks
          have g0 : wr.cell? ⟨g, 0, none⟩ = some (.string ⟨(fl t0).toArray⟩) := hcs 0 (by simp [fls])
          have q0 : (⟨(fl t0).toArray⟩ : ByteArray).size = (fl t0).length := rfl
          have u0 := hlf t0 (by simp)
          have v1 : (⟨nm.toArray⟩ : ByteArray).size = nm.length := rfl
          have v2 : (⟨ot.toArray⟩ : ByteArray).size = ot.length := rfl
          have x0 := cell_at (v := .int .i64 ((9 : Nat) : Int)) hxr 0 rfl
          clear hcs hlf hxr hlen
          go_wp2_with fail
          go_ret
          exact ⟨by rw [HFL.out]; exact congrArg (fun b => Ending.returned (Value.string b)) (by simp only [ByteArray.mk_append_mk]; simp [shp, fls, sg5]), HBR.out⟩
        · obtain ⟨t0, t1, t2, hks⟩ : ∃ t0 t1 t2, ks = [t0, t1, t2] := by
            have : ks.length = 3 := hlen
            match ks, this with
            | [a, b, c], _ => exact ⟨a, b, c, rfl⟩
          subst hks
          have g0 : wr.cell? ⟨g, 0, none⟩ = some (.string ⟨(fl t0).toArray⟩) := hcs 0 (by simp [fls])
          have q0 : (⟨(fl t0).toArray⟩ : ByteArray).size = (fl t0).length := rfl
          have u0 := hlf t0 (by simp)
          have g1 : wr.cell? ⟨g, 1, none⟩ = some (.string ⟨(fl t1).toArray⟩) := hcs 1 (by simp [fls])
          have q1 : (⟨(fl t1).toArray⟩ : ByteArray).size = (fl t1).length := rfl
          have u1 := hlf t1 (by simp)
          have g2 : wr.cell? ⟨g, 2, none⟩ = some (.string ⟨(fl t2).toArray⟩) := hcs 2 (by simp [fls])
          have q2 : (⟨(fl t2).toArray⟩ : ByteArray).size = (fl t2).length := rfl
          have u2 := hlf t2 (by simp)
          have v1 : (⟨nm.toArray⟩ : ByteArray).size = nm.length := rfl
          have v2 : (⟨ot.toArray⟩ : ByteArray).size = ot.length := rfl
          have x0 := cell_at (v := .int .i64 ((25 : Nat) : Int)) hxr 0 rfl
          have x1 := cell_at (v := .string ⟨nm.toArray⟩) hxr 1 rfl
          have x2 := cell_at (v := .string ⟨ot.toArray⟩) hxr 2 rfl
          clear hcs hlf hxr hlen
          go_wp2_with fail
          go_quiet (fail)
          go_wp2_with fail
          go_ret
          exact ⟨by rw [HFL.out]; exact congrArg (fun b => Ending.returned (Value.string b)) (by simp only [ByteArray.mk_append_mk]; simp [shp, fls, words, phr]), HBR.out.trans (below_drewX _ _ _)⟩
        · obtain ⟨t0, t1, hks⟩ : ∃ t0 t1, ks = [t0, t1] := by
            have : ks.length = 2 := hlen
            match ks, this with
            | [a, b], _ => exact ⟨a, b, rfl⟩
          subst hks
          have g0 : wr.cell? ⟨g, 0, none⟩ = some (.string ⟨(fl t0).toArray⟩) := hcs 0 (by simp [fls])
          have q0 : (⟨(fl t0).toArray⟩ : ByteArray).size = (fl t0).length := rfl
          have u0 := hlf t0 (by simp)
          have g1 : wr.cell? ⟨g, 1, none⟩ = some (.string ⟨(fl t1).toArray⟩) := hcs 1 (by simp [fls])
          have q1 : (⟨(fl t1).toArray⟩ : ByteArray).size = (fl t1).length := rfl
          have u1 := hlf t1 (by simp)
          have v1 : (⟨nm.toArray⟩ : ByteArray).size = nm.length := rfl
          have v2 : (⟨ot.toArray⟩ : ByteArray).size = ot.length := rfl
          have x0 := cell_at (v := .int .i64 ((26 : Nat) : Int)) hxr 0 rfl
          have x1 := cell_at (v := .string ⟨nm.toArray⟩) hxr 1 rfl
          have x2 := cell_at (v := .string ⟨ot.toArray⟩) hxr 2 rfl
          clear hcs hlf hxr hlen
          go_wp2_with fail
          go_quiet (fail)
          go_wp2_with fail
          go_ret
          exact ⟨by rw [HFL.out]; exact congrArg (fun b => Ending.returned (Value.string b)) (by simp only [ByteArray.mk_append_mk]; simp [shp, fls, words, phr]), HBR.out.trans (below_drewX _ _ _)⟩
        · obtain ⟨t0, t1, t2, hks⟩ : ∃ t0 t1 t2, ks = [t0, t1, t2] := by
            have : ks.length = 3 := hlen
            match ks, this with
            | [a, b, c], _ => exact ⟨a, b, c, rfl⟩
          subst hks
          have g0 : wr.cell? ⟨g, 0, none⟩ = some (.string ⟨(fl t0).toArray⟩) := hcs 0 (by simp [fls])
          have q0 : (⟨(fl t0).toArray⟩ : ByteArray).size = (fl t0).length := rfl
          have u0 := hlf t0 (by simp)
          have g1 : wr.cell? ⟨g, 1, none⟩ = some (.string ⟨(fl t1).toArray⟩) := hcs 1 (by simp [fls])
          have q1 : (⟨(fl t1).toArray⟩ : ByteArray).size = (fl t1).length := rfl
          have u1 := hlf t1 (by simp)
          have g2 : wr.cell? ⟨g, 2, none⟩ = some (.string ⟨(fl t2).toArray⟩) := hcs 2 (by simp [fls])
          have q2 : (⟨(fl t2).toArray⟩ : ByteArray).size = (fl t2).length := rfl
          have u2 := hlf t2 (by simp)
          have v1 : (⟨nm.toArray⟩ : ByteArray).size = nm.length := rfl
          have v2 : (⟨ot.toArray⟩ : ByteArray).size = ot.length := rfl
          have x0 := cell_at (v := .int .i64 ((27 : Nat) : Int)) hxr 0 rfl
          have x1 := cell_at (v := .string ⟨nm.toArray⟩) hxr 1 rfl
          have x2 := cell_at (v := .string ⟨ot.toArray⟩) hxr 2 rfl
          clear hcs hlf hxr hlen
          go_wp2_with fail
          go_quiet (fail)
          go_wp2_with fail
          go_ret
          exact ⟨by rw [HFL.out]; exact congrArg (fun b => Ending.returned (Value.string b)) (by simp only [ByteArray.mk_append_mk]; simp [shp, fls, words, phr]), HBR.out.trans (below_drewX _ _ _)⟩
        · obtain ⟨t0, t1, hks⟩ : ∃ t0 t1, ks = [t0, t1] := by
            have : ks.length = 2 := hlen
            match ks, this with
            | [a, b], _ => exact ⟨a, b, rfl⟩
          subst hks
          have g0 : wr.cell? ⟨g, 0, none⟩ = some (.string ⟨(fl t0).toArray⟩) := hcs 0 (by simp [fls])
          have q0 : (⟨(fl t0).toArray⟩ : ByteArray).size = (fl t0).length := rfl
          have u0 := hlf t0 (by simp)
          have g1 : wr.cell? ⟨g, 1, none⟩ = some (.string ⟨(fl t1).toArray⟩) := hcs 1 (by simp [fls])
          have q1 : (⟨(fl t1).toArray⟩ : ByteArray).size = (fl t1).length := rfl
          have u1 := hlf t1 (by simp)
          have v1 : (⟨nm.toArray⟩ : ByteArray).size = nm.length := rfl
          have v2 : (⟨ot.toArray⟩ : ByteArray).size = ot.length := rfl
          have x0 := cell_at (v := .int .i64 ((28 : Nat) : Int)) hxr 0 rfl
          have x1 := cell_at (v := .string ⟨nm.toArray⟩) hxr 1 rfl
          have x2 := cell_at (v := .string ⟨ot.toArray⟩) hxr 2 rfl
          clear hcs hlf hxr hlen
          go_wp2_with fail
          go_quiet (fail)
          go_wp2_with fail
          go_ret
          exact ⟨by rw [HFL.out]; exact congrArg (fun b => Ending.returned (Value.string b)) (by simp only [ByteArray.mk_append_mk]; simp [shp, fls, words, phr]), HBR.out.trans (below_drewX _ _ _)⟩
        · have hlen2 : ks.length = 2 := by rw [hlen]; exact ar_two k h24 h10
          rw [hlen2] at hlen
          obtain ⟨t0, t1, hks⟩ : ∃ t0 t1, ks = [t0, t1] := by
            have : ks.length = 2 := hlen2
            match ks, this with
            | [a, b], _ => exact ⟨a, b, rfl⟩
          subst hks
          have g0 : wr.cell? ⟨g, 0, none⟩ = some (.string ⟨(fl t0).toArray⟩) := hcs 0 (by simp [fls])
          have q0 : (⟨(fl t0).toArray⟩ : ByteArray).size = (fl t0).length := rfl
          have u0 := hlf t0 (by simp)
          have g1 : wr.cell? ⟨g, 1, none⟩ = some (.string ⟨(fl t1).toArray⟩) := hcs 1 (by simp [fls])
          have q1 : (⟨(fl t1).toArray⟩ : ByteArray).size = (fl t1).length := rfl
          have u1 := hlf t1 (by simp)
          have v1 : (⟨nm.toArray⟩ : ByteArray).size = nm.length := rfl
          have v2 : (⟨ot.toArray⟩ : ByteArray).size = ot.length := rfl
          clear hlen2 hlen
          have n5 : (((k : Nat) : Int) == 5) = false := by rw [beq_eq_false_iff_ne]; omega
          have n6 : (((k : Nat) : Int) == 6) = false := by rw [beq_eq_false_iff_ne]; omega
          have n7 : (((k : Nat) : Int) == 7) = false := by rw [beq_eq_false_iff_ne]; omega
          have n8 : (((k : Nat) : Int) == 8) = false := by rw [beq_eq_false_iff_ne]; omega
          have n9 : (((k : Nat) : Int) == 9) = false := by rw [beq_eq_false_iff_ne]; omega
          have n25 : (((k : Nat) : Int) == 25) = false := by rw [beq_eq_false_iff_ne]; omega
          have n26 : (((k : Nat) : Int) == 26) = false := by rw [beq_eq_false_iff_ne]; omega
          have n27 : (((k : Nat) : Int) == 27) = false := by rw [beq_eq_false_iff_ne]; omega
          have n28 : (((k : Nat) : Int) == 28) = false := by rw [beq_eq_false_iff_ne]; omega
          have v3 : (⟨(sg5 k).toArray⟩ : ByteArray).size = (sg5 k).length := rfl
          have v4 := sg5_len k (by omega)
          have hsub : IntKind.i64.wrap (((k : Nat) : Int) - 10) = ((k - 10 : Nat) : Int) := by rw [IntWalk.i64_in _ (by omega)]; omega
          have hk1 : ((k - 10 : Nat) : Int) < 14 := by omega
          have HG0 : Hid (∀ W, Below wr.heap.size wr W → W.cell? ⟨g, 0, none⟩ = some (.string ⟨(fl t0).toArray⟩)) := Lib.hid fun W hb => by rw [hb.cell (cell_lt g0)]; exact g0
          have HG1 : Hid (∀ W, Below wr.heap.size wr W → W.cell? ⟨g, 1, none⟩ = some (.string ⟨(fl t1).toArray⟩)) := Lib.hid fun W hb => by rw [hb.cell (cell_lt g1)]; exact g1
          have HB_x := Lib.hid hxr
          have x0 := cell_at (v := .int .i64 (k : Nat)) hxr 0 rfl
          clear hcs hlf hxr g0 g1
          go_wp2_with fail
          clear x0
          have hlt_x := lt_of_block HB_x.out
          refine Rely.region (by kernel_rfl) [[], [0], [0, 1], [0, 1, 2], [], [], [5], [5, 6], [4, 5, 6, 7], [4, 5, 6, 7, 8], [0, 1, 2, 3, 4, 5, 6, 7, 8, 9], [0, 1, 2, 3, 4, 5, 6, 7, 8, 9, 10], [], [12], [12, 13], [0, 1, 2, 3, 4, 5, 6, 7, 8, 9, 10, 11, 12, 13, 14], [0, 1, 2, 3, 4, 5, 6, 7, 8, 9, 10, 11, 12, 13, 14, 15]] [] [] (fun _ => 0) 0 17 (by kernel_rfl) (by kernel_rfl) (fun q h => absurd h (Nat.not_lt_zero q)) (fun q _ h => absurd h (Nat.not_lt_zero q)) ?_
          refine Rely.Chain.det ?_ (by rfl) (fun T xs wr hA => ?_) ?_
          rotate_left 1
          · have e4 := hA.pre 4 (by kernel_rfl)
            simp only [List.getElem?_toArray, List.getElem?_cons_succ, List.getElem?_cons_zero] at e4
            clear hA
            refine ⟨(by rfl), ?_⟩
            go_simp <;> (try with_reducible rfl)
          refine Rely.Chain.det ?_ (by rfl) (fun T xs wr hA => ?_) ?_
          rotate_left 1
          · have e33 := hA.tm 0 33 (by rfl) (by rfl)
            have f33 : xs 0 = _ := hA.fa 0 (by rfl)
            (try simp (disch := first | rfl | decide) only [Rely.mask_in] at f33)
            rw [f33] at e33
            clear f33
            clear hA
            refine ⟨(by rfl), ?_⟩
            go_simp <;> (try with_reducible rfl)
          refine Rely.Chain.det ?_ (by rfl) (fun T xs wr hA => ?_) ?_
          rotate_left 1
          · have e34 := hA.tm 1 34 (by rfl) (by rfl)
            have f34 : xs 1 = _ := hA.fa 1 (by rfl)
            (try simp (disch := first | rfl | decide) only [Rely.mask_in] at f34)
            rw [f34] at e34
            clear f34
            have hbw := undrew (hA.be _ (Nat.le_refl _) (fun q h => absurd h (Nat.not_lt_zero q)))
            have g0 := HG0.out wr hbw
            clear hbw
            clear hA
            refine ⟨(by rfl), ?_⟩
            go_simp <;> (try with_reducible rfl)
          refine Rely.Chain.grow (fun _ v _ => v = .string (⟨(fl t0).toArray⟩ ++ ⟨#[32]⟩)) (fun _ _ _ _ h _ => h) rfl (by rfl) (fun T xs wr hA => ?_) ?_
          · have e35 := hA.tm 2 35 (by rfl) (by rfl)
            have f35 : xs 2 = _ := hA.fa 2 (by rfl)
            (try simp (disch := first | rfl | decide) only [Rely.mask_in] at f35)
            rw [f35] at e35
            clear f35
            have hbw := undrew (hA.be _ (Nat.le_refl _) (fun q h => absurd h (Nat.not_lt_zero q)))
            clear hbw
            clear hA
            refine ⟨(by rfl), fun K hK => ?_⟩
            go_simp
            rw [if_neg (by omega)]
            exact hK.out _ _ rfl (Below.refl _ _)
          refine Rely.Chain.grow (fun xs v w => Signs w v) (fun _ _ _ _ h hb => h.below hb) rfl (by rfl) (fun T xs wr hA => ?_) ?_
          · have hbw := undrew (hA.be _ (Nat.le_refl _) (fun q h => absurd h (Nat.not_lt_zero q)))
            clear hA
            refine ⟨(by rfl), fun K hK => ?_⟩
            go_simp
            exact hK.out _ _ ⟨_, rfl, signs_made _ _ (made_at _ _ _ rfl)⟩ ((Below.refl _ _).alloc (Nat.le_refl _) _)
          refine Rely.Chain.det ?_ (by rfl) (fun T xs wr hA => ?_) ?_
          rotate_left 1
          · have e1 := hA.pre 1 (by kernel_rfl)
            simp only [List.getElem?_toArray, List.getElem?_cons_succ, List.getElem?_cons_zero] at e1
            clear hA
            refine ⟨(by rfl), ?_⟩
            go_simp <;> (try with_reducible rfl)
          refine Rely.Chain.det ?_ (by rfl) (fun T xs wr hA => ?_) ?_
          rotate_left 1
          · have e38 := hA.tm 5 38 (by rfl) (by rfl)
            have f38 : xs 5 = _ := hA.fa 5 (by rfl)
            (try simp (disch := first | rfl | decide) only [Rely.mask_in] at f38)
            rw [f38] at e38
            clear f38
            have hBq : wr.heap[k3]? = _ := (hA.bl _ hlt_x (fun q h => absurd h (Nat.not_lt_zero q))).trans HB_x.out
            have q0 := cell_at (v := .int .i64 (k : Nat)) hBq 0 rfl
            have q1 := cell_at (v := .string ⟨nm.toArray⟩) hBq 1 rfl
            have q2 := cell_at (v := .string ⟨ot.toArray⟩) hBq 2 rfl
            have q3 := cell_at (v := .bool false) hBq 3 rfl
            have q4 := cell_at (v := .slice xao xn xq) hBq 4 rfl
            have q5 := cell_at (v := .slice xko (List.length [t0, t1]) xkc) hBq 5 rfl
            have q6 := cell_at (v := .int .i64 xln) hBq 6 rfl
            have q7 := cell_at (v := .int .i64 xcl) hBq 7 rfl
            clear hBq
            clear hA
            refine ⟨(by rfl), ?_⟩
            go_simp <;> (try with_reducible rfl)
          refine Rely.Chain.grow (fun _ v _ => v = .int .i64 ((k - 10 : Nat) : Int)) (fun _ _ _ _ h _ => h) rfl (by rfl) (fun T xs wr hA => ?_) ?_
          · have e39 := hA.tm 6 39 (by rfl) (by rfl)
            have f39 : xs 6 = _ := hA.fa 6 (by rfl)
            (try simp (disch := first | rfl | decide) only [Rely.mask_in] at f39)
            rw [f39] at e39
            clear f39
            have hbw := undrew (hA.be _ (Nat.le_refl _) (fun q h => absurd h (Nat.not_lt_zero q)))
            clear hbw
            clear hA
            refine ⟨(by rfl), fun K hK => ?_⟩
            go_simp
            exact hK.out _ _ rfl (Below.refl _ _)
          refine Rely.Chain.grow (fun xs v w => ∃ gs, (xs 4) = .slice (some ⟨gs, 0, none⟩) 14 14 ∧ v = .pointer (some ⟨gs, k - 10, none⟩)) (fun _ _ _ _ h _ => h) rfl (by rfl) (fun T xs wr hA => ?_) ?_
          · have e37 := hA.tm 4 37 (by rfl) (by rfl)
            have e40 := hA.tm 7 40 (by rfl) (by rfl)
            have f40 : xs 7 = (.int .i64 ((k - 10 : Nat) : Int)) := hA.fa 7 (by rfl)
            rw [f40] at e40
            clear f40
            have hbw := undrew (hA.be _ (Nat.le_refl _) (fun q h => absurd h (Nat.not_lt_zero q)))
            have hF4 : Signs wr (xs 4) := hA.fa 4 (by rfl)
            obtain ⟨gs, hv, -⟩ := hF4
            rw [hv] at e37
            have HV := Lib.hid hv
            clear hv hbw
            clear hA
            refine ⟨(by rfl), fun K hK => ?_⟩
            go_simp
            exact hK.out _ _ ⟨gs, HV.out, rfl⟩ (Below.refl _ _)
          refine Rely.Chain.grow (fun _ v _ => v = .string ⟨(sg5 k).toArray⟩) (fun _ _ _ _ h _ => h) rfl (by rfl) (fun T xs wr hA => ?_) ?_
          · have e41 := hA.tm 8 41 (by rfl) (by rfl)
            have hbw := undrew (hA.be _ (Nat.le_refl _) (fun q h => absurd h (Nat.not_lt_zero q)))
            have hF4 : Signs wr (xs 4) := hA.fa 4 (by rfl)
            obtain ⟨gs, hv4, hc⟩ := hF4
            have hF8 : ∃ gs, (xs 4) = .slice (some ⟨gs, 0, none⟩) 14 14 ∧ (xs 8) = .pointer (some ⟨gs, k - 10, none⟩) := hA.fa 8 (by rfl)
            obtain ⟨gs2, hv42, hv8⟩ := hF8
            rw [hv4] at hv42
            injection hv42 with hv42; injection hv42 with hv42; injection hv42 with hv42
            subst hv42
            have hcell := hc k h10 h24
            rw [hv8] at e41
            clear hv4 hv8 hc hbw
            clear hA
            refine ⟨(by rfl), fun K hK => ?_⟩
            go_simp
            exact hK.out _ _ rfl (Below.refl _ _)
          refine Rely.Chain.grow (fun _ v _ => v = .string (⟨(fl t0).toArray⟩ ++ ⟨#[32]⟩ ++ ⟨(sg5 k).toArray⟩)) (fun _ _ _ _ h _ => h) rfl (by rfl) (fun T xs wr hA => ?_) ?_
          · have e36 := hA.tm 3 36 (by rfl) (by rfl)
            have f36 : xs 3 = (.string (⟨(fl t0).toArray⟩ ++ ⟨#[32]⟩)) := hA.fa 3 (by rfl)
            rw [f36] at e36
            clear f36
            have e42 := hA.tm 9 42 (by rfl) (by rfl)
            have f42 : xs 9 = (.string ⟨(sg5 k).toArray⟩) := hA.fa 9 (by rfl)
            rw [f42] at e42
            clear f42
            have hbw := undrew (hA.be _ (Nat.le_refl _) (fun q h => absurd h (Nat.not_lt_zero q)))
            clear hbw
            clear hA
            refine ⟨(by rfl), fun K hK => ?_⟩
            go_simp
            rw [if_neg (by omega)]
            exact hK.out _ _ rfl (Below.refl _ _)
          refine Rely.Chain.grow (fun _ v _ => v = .string (⟨(fl t0).toArray⟩ ++ ⟨#[32]⟩ ++ ⟨(sg5 k).toArray⟩ ++ ⟨#[32]⟩)) (fun _ _ _ _ h _ => h) rfl (by rfl) (fun T xs wr hA => ?_) ?_
          · have e43 := hA.tm 10 43 (by rfl) (by rfl)
            have f43 : xs 10 = (.string (⟨(fl t0).toArray⟩ ++ ⟨#[32]⟩ ++ ⟨(sg5 k).toArray⟩)) := hA.fa 10 (by rfl)
            rw [f43] at e43
            clear f43
            have hbw := undrew (hA.be _ (Nat.le_refl _) (fun q h => absurd h (Nat.not_lt_zero q)))
            clear hbw
            clear hA
            refine ⟨(by rfl), fun K hK => ?_⟩
            go_simp
            rw [if_neg (by omega)]
            exact hK.out _ _ rfl (Below.refl _ _)
          refine Rely.Chain.det ?_ (by rfl) (fun T xs wr hA => ?_) ?_
          rotate_left 1
          · have e4 := hA.pre 4 (by kernel_rfl)
            simp only [List.getElem?_toArray, List.getElem?_cons_succ, List.getElem?_cons_zero] at e4
            clear hA
            refine ⟨(by rfl), ?_⟩
            go_simp <;> (try with_reducible rfl)
          refine Rely.Chain.det ?_ (by rfl) (fun T xs wr hA => ?_) ?_
          rotate_left 1
          · have e45 := hA.tm 12 45 (by rfl) (by rfl)
            have f45 : xs 12 = _ := hA.fa 12 (by rfl)
            (try simp (disch := first | rfl | decide) only [Rely.mask_in] at f45)
            rw [f45] at e45
            clear f45
            clear hA
            refine ⟨(by rfl), ?_⟩
            go_simp <;> (try with_reducible rfl)
          refine Rely.Chain.det ?_ (by rfl) (fun T xs wr hA => ?_) ?_
          rotate_left 1
          · have e46 := hA.tm 13 46 (by rfl) (by rfl)
            have f46 : xs 13 = _ := hA.fa 13 (by rfl)
            (try simp (disch := first | rfl | decide) only [Rely.mask_in] at f46)
            rw [f46] at e46
            clear f46
            have hbw := undrew (hA.be _ (Nat.le_refl _) (fun q h => absurd h (Nat.not_lt_zero q)))
            have g1 := HG1.out wr hbw
            clear hbw
            clear hA
            refine ⟨(by rfl), ?_⟩
            go_simp <;> (try with_reducible rfl)
          refine Rely.Chain.grow (fun _ v _ => v = .string (⟨(fl t0).toArray⟩ ++ ⟨#[32]⟩ ++ ⟨(sg5 k).toArray⟩ ++ ⟨#[32]⟩ ++ ⟨(fl t1).toArray⟩)) (fun _ _ _ _ h _ => h) rfl (by rfl) (fun T xs wr hA => ?_) ?_
          · have e44 := hA.tm 11 44 (by rfl) (by rfl)
            have f44 : xs 11 = (.string (⟨(fl t0).toArray⟩ ++ ⟨#[32]⟩ ++ ⟨(sg5 k).toArray⟩ ++ ⟨#[32]⟩)) := hA.fa 11 (by rfl)
            rw [f44] at e44
            clear f44
            have e47 := hA.tm 14 47 (by rfl) (by rfl)
            have f47 : xs 14 = _ := hA.fa 14 (by rfl)
            (try simp (disch := first | rfl | decide) only [Rely.mask_in] at f47)
            rw [f47] at e47
            clear f47
            have hbw := undrew (hA.be _ (Nat.le_refl _) (fun q h => absurd h (Nat.not_lt_zero q)))
            clear hbw
            clear hA
            refine ⟨(by rfl), fun K hK => ?_⟩
            go_simp
            rw [if_neg (by omega)]
            exact hK.out _ _ rfl (Below.refl _ _)
          refine Rely.Chain.det ?_ (by rfl) (fun T xs wr hA => ?_) ?_
          rotate_left 1
          · have e48 := hA.tm 15 48 (by rfl) (by rfl)
            have f48 : xs 15 = (.string (⟨(fl t0).toArray⟩ ++ ⟨#[32]⟩ ++ ⟨(sg5 k).toArray⟩ ++ ⟨#[32]⟩ ++ ⟨(fl t1).toArray⟩)) := hA.fa 15 (by rfl)
            rw [f48] at e48
            clear f48
            clear hA
            refine ⟨(by rfl), ?_⟩
            go_simp <;> (try with_reducible rfl)
          refine Rely.Chain.done (fun xs wN hL => ?_)
          obtain ⟨⟨hbe, hbl, hkp0⟩, hf, hp, hn⟩ := hL
          have f0 : xs 0 = _ := hf 0 (by decide)
          (try simp (disch := first | rfl | decide) only [Rely.mask_in] at f0)
          have f1 : xs 1 = _ := hf 1 (by decide)
          (try simp (disch := first | rfl | decide) only [Rely.mask_in] at f1)
          have f2 : xs 2 = _ := hf 2 (by decide)
          (try simp (disch := first | rfl | decide) only [Rely.mask_in] at f2)
          have f3 : xs 3 = (.string (⟨(fl t0).toArray⟩ ++ ⟨#[32]⟩)) := hf 3 (by decide)
          have F4 : Signs wN (xs 4) := hf 4 (by decide)
          have f5 : xs 5 = _ := hf 5 (by decide)
          (try simp (disch := first | rfl | decide) only [Rely.mask_in] at f5)
          have f6 : xs 6 = _ := hf 6 (by decide)
          (try simp (disch := first | rfl | decide) only [Rely.mask_in] at f6)
          have f7 : xs 7 = (.int .i64 ((k - 10 : Nat) : Int)) := hf 7 (by decide)
          have F8 : ∃ gs, (xs 4) = .slice (some ⟨gs, 0, none⟩) 14 14 ∧ (xs 8) = .pointer (some ⟨gs, k - 10, none⟩) := hf 8 (by decide)
          have f9 : xs 9 = (.string ⟨(sg5 k).toArray⟩) := hf 9 (by decide)
          have f10 : xs 10 = (.string (⟨(fl t0).toArray⟩ ++ ⟨#[32]⟩ ++ ⟨(sg5 k).toArray⟩)) := hf 10 (by decide)
          have f11 : xs 11 = (.string (⟨(fl t0).toArray⟩ ++ ⟨#[32]⟩ ++ ⟨(sg5 k).toArray⟩ ++ ⟨#[32]⟩)) := hf 11 (by decide)
          have f12 : xs 12 = _ := hf 12 (by decide)
          (try simp (disch := first | rfl | decide) only [Rely.mask_in] at f12)
          have f13 : xs 13 = _ := hf 13 (by decide)
          (try simp (disch := first | rfl | decide) only [Rely.mask_in] at f13)
          have f14 : xs 14 = _ := hf 14 (by decide)
          (try simp (disch := first | rfl | decide) only [Rely.mask_in] at f14)
          have f15 : xs 15 = (.string (⟨(fl t0).toArray⟩ ++ ⟨#[32]⟩ ++ ⟨(sg5 k).toArray⟩ ++ ⟨#[32]⟩ ++ ⟨(fl t1).toArray⟩)) := hf 15 (by decide)
          have f16 : xs 16 = _ := hf 16 (by decide)
          (try simp (disch := first | rfl | decide) only [Rely.mask_in] at f16)
          have hbx : Below wr.heap.size wr wN := undrew (hbe _ (Nat.le_refl _) (fun q h => absurd h (Nat.not_lt_zero q)))
          clear hbe hbl hkp0 hf hp hn
          replace HB_x := Lib.hid ((hbx.block _ hlt_x).trans HB_x.out)
          clear hlt_x
          refine Rely.rest_done ?_
          clear F4 F8
          obtain ⟨q4, g4⟩ : ∃ q, xs 4 = q := ⟨_, rfl⟩
          obtain ⟨q8, g8⟩ : ∃ q, xs 8 = q := ⟨_, rfl⟩
          simp only [Rely.fill, List.setIfInBounds_toArray, List.set_cons_zero, List.set_cons_succ, f0, f1, f2, f3, f5, f6, f7, f9, f10, f11, f12, f13, f14, f15, f16, g4, g8]
          clear f0 f1 f2 f3 f5 f6 f7 f9 f10 f11 f12 f13 f14 f15 f16 g4 g8
          have HBX := Lib.hid hbx
          clear hbx
          go_wp2_with fail
          go_ret
          refine ⟨?_, HBR.out.trans (HBX.out.mono HBR.out.size)⟩
          rw [HFL.out, shp_bin k h10 h24]
          exact congrArg (fun b => Ending.returned (Value.string b)) (by simp only [ByteArray.mk_append_mk]; simp [fls])
/-- The contract of full. -/
theorem full_all : ∀ d, d ≤ 6 → FullAt d
  | 0, _ => fun x t w S _ h _ => absurd h id
  | d + 1, hd => full_step d hd (Lib.hid (full_all d (by omega)))
end Go.Proofs.YtcdacmbcecjliaaDoor
