/-
  The laws' anchor: minus seven by two, rounded down.
-/
import Derived.Test.YtbkeildnhimfbaaDoorWhoS
namespace Go.Proofs.YtbkeildnhimfbaaDoor
open Go.RowKit
set_option maxRecDepth 100000

/-- What the anchor does. -/
def WFitOk : Prop := ∀ w : World, Lib.TabIs Tryd.prog w "internal/strconv.uint64pow10" .u64 Lib.pow10Tab → Calls Tryd.prog 10 #[] w fun e w' => e = .returned (.bool true) ∧ Below w.heap.size w w'

theorem zText_m4 : zText (-4) = [45, 52] := by
  unfold zText
  rw [if_pos (by decide), show (-4 : Int).natAbs = 4 from rfl, Lib.decDigits_one (by decide)]
  rfl
theorem zText_1 : zText 1 = [49] := by
  unfold zText
  rw [if_neg (by decide), show (1 : Int).natAbs = 1 from rfl, Lib.decDigits_one (by decide)]
  rfl

set_option maxHeartbeats 2000000 in
theorem wfitOk : WFitOk := by
  intro w htab
  have HQ := Lib.hid (show Int.fdiv (-7) 2 = -4 by decide)
  have HR := Lib.hid (show Int.fmod (-7) 2 = 1 by decide)
  have HT := Lib.hid zText_m4
  have HU := Lib.hid zText_1
  have HT2 := Lib.hid htab
  clear htab
  go_enter Tryd.func10, Tryd.ntmps10
  go_wp2_with fail
  refine (wof_any (-7) _ (by decide) (by decide)).mono ?_
  rintro e w1 ⟨v1, rfl, c1, hb1⟩
  obtain ⟨b1, o1, l1, k1, rfl⟩ := c1.shape
  go_wp2_with fail
  refine (wof_any 2 _ (by decide) (by decide)).mono ?_
  rintro e w2 ⟨v2, rfl, c2, hb2⟩
  have hbt := hb1.trans (hb2.mono hb1.size)
  replace c1 := c1.below hb2
  clear hb1 hb2
  obtain ⟨b2, o2, l2, k2, rfl⟩ := c2.shape
  go_wp2_with fail
  refine (wdiv_any _ _ (-7) 2 2 2 w2 c1.gi c2.gi (by omega) (by omega) (by decide)).mono ?_
  rintro e w3 ⟨q, r, rfl, cq, cr, hb3⟩
  rw [HQ.out] at cq
  rw [HR.out] at cr
  replace hbt := hbt.trans (hb3.mono hbt.size)
  clear hb3 c1 c2
  obtain ⟨bq, oq, lq, kq, rfl⟩ := cq.shape
  obtain ⟨br, or', lr, kr, rfl⟩ := cr.shape
  have hbl : Below w3.heap.size w3 ((w3.alloc (.cells #[.bool bq, .slice oq lq kq] 25)).alloc (.cells #[.bool br, .slice or' lr kr] 25)) := below2 _ _ _
  have hB := blocks2 (Below.refl (w3.heap.size + 2) ((w3.alloc (.cells #[.bool bq, .slice oq lq kq] 25)).alloc (.cells #[.bool br, .slice or' lr kr] 25)))
  replace cq := cq.below hbl
  replace cr := cr.below hbl
  replace hbt := hbt.trans (hbl.mono hbt.size)
  clear hbl
  go_wp2_with fail
  generalize ((w3.alloc (.cells #[.bool bq, .slice oq lq kq] 25)).alloc (.cells #[.bool br, .slice or' lr kr] 25)) = w4 at *
  have HB_xq := Lib.hid hB.1
  have HB_xr := Lib.hid hB.2
  have xq0 := (two_cells hB.1).1
  have xq1 := (two_cells hB.1).2.1
  have xr0 := (two_cells hB.2).1
  have xr1 := (two_cells hB.2).2.1
  clear hB
  refine (wtext_any _ (-4) 5 _ (tab_below HT2.out hbt) cq.gi (by omega)).mono ?_
  rintro e wx1 ⟨rfl, hbx⟩
  replace cq := cq.below hbx
  replace cr := cr.below hbx
  replace hbt := hbt.trans (hbx.mono hbt.size)
  replace HB_xq := Lib.hid ((hbx.block _ (lt_of_block HB_xq.out)).trans HB_xq.out)
  replace HB_xr := Lib.hid ((hbx.block _ (lt_of_block HB_xr.out)).trans HB_xr.out)
  clear hbx
  replace xq0 := (two_cells HB_xq.out).1
  replace xq1 := (two_cells HB_xq.out).2.1
  replace xr0 := (two_cells HB_xr.out).1
  replace xr1 := (two_cells HB_xr.out).2.1
  rw [HT.out]
  go_wp2_with fail
  refine (wtext_any _ 1 2 _ (tab_below HT2.out hbt) cr.gi (by omega)).mono ?_
  rintro e wx2 ⟨rfl, hbx⟩
  replace cq := cq.below hbx
  replace cr := cr.below hbx
  replace hbt := hbt.trans (hbx.mono hbt.size)
  replace HB_xq := Lib.hid ((hbx.block _ (lt_of_block HB_xq.out)).trans HB_xq.out)
  replace HB_xr := Lib.hid ((hbx.block _ (lt_of_block HB_xr.out)).trans HB_xr.out)
  clear hbx
  replace xq0 := (two_cells HB_xq.out).1
  replace xq1 := (two_cells HB_xq.out).2.1
  replace xr0 := (two_cells HB_xr.out).1
  replace xr1 := (two_cells HB_xr.out).2.1
  rw [HU.out]
  go_wp2_with fail
  refine (wsign_any _ (-4) 5 _ cq.gi (by omega)).mono ?_
  rintro e wx3 ⟨rfl, hbx⟩
  replace cq := cq.below hbx
  replace cr := cr.below hbx
  replace hbt := hbt.trans (hbx.mono hbt.size)
  replace HB_xq := Lib.hid ((hbx.block _ (lt_of_block HB_xq.out)).trans HB_xq.out)
  replace HB_xr := Lib.hid ((hbx.block _ (lt_of_block HB_xr.out)).trans HB_xr.out)
  clear hbx
  replace xq0 := (two_cells HB_xq.out).1
  replace xq1 := (two_cells HB_xq.out).2.1
  replace xr0 := (two_cells HB_xr.out).1
  replace xr1 := (two_cells HB_xr.out).2.1
  rw [show sgnZ (-4) = -1 from rfl]
  go_wp2_with fail
  refine (wcmp_any _ _ (-4) 1 5 2 _ cq.gi cr.gi (by omega) (by omega)).mono ?_
  rintro e wx4 ⟨rfl, hbx⟩
  replace cq := cq.below hbx
  replace cr := cr.below hbx
  replace hbt := hbt.trans (hbx.mono hbt.size)
  replace HB_xq := Lib.hid ((hbx.block _ (lt_of_block HB_xq.out)).trans HB_xq.out)
  replace HB_xr := Lib.hid ((hbx.block _ (lt_of_block HB_xr.out)).trans HB_xr.out)
  clear hbx
  replace xq0 := (two_cells HB_xq.out).1
  replace xq1 := (two_cells HB_xq.out).2.1
  replace xr0 := (two_cells HB_xr.out).1
  replace xr1 := (two_cells HB_xr.out).2.1
  rw [show sgnZ (-4 - 1) = -1 from rfl]
  go_wp2_with fail
  go_ret
  exact ⟨rfl, hbt⟩
end Go.Proofs.YtbkeildnhimfbaaDoor
