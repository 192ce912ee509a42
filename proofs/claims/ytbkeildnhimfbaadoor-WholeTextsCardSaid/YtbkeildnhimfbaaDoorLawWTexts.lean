/-
  The walk of the law WholeTexts.
-/
import Derived.Test.YtbkeildnhimfbaaDoorWhoU
import Derived.Test.YtbkeildnhimfbaaDoorTwoA
namespace Go.Proofs.YtbkeildnhimfbaaDoor
open Go.RowKit
set_option maxRecDepth 100000

theorem ztext_zn {l : List UInt8} (h : ZNum l) : zText (zn l) = l := by
  rcases h with h | ⟨m, rfl, h, h0⟩
  · have e : zn l = (dn l : Int) := by unfold zn; rw [if_neg (num_head h)]
    rw [e]; unfold zText; rw [if_neg (by omega), Int.natAbs_natCast]; exact h.text
  · have e : zn (45 :: m) = -(dn m : Int) := by simp [zn]
    rw [e]; unfold zText; rw [if_pos (by omega), Int.natAbs_neg, Int.natAbs_natCast, h.text]
theorem znum_text {z : Int} (h : (Lib.decDigits z.natAbs).length ≤ 300) : ZNum (zText z) ∧ zn (zText z) = z := by
  have hn := numeral_dec h
  have hd := (dn_dec z.natAbs).2.1
  unfold zText
  by_cases hz : z < 0
  · rw [if_pos hz]
    exact ⟨Or.inr ⟨_, rfl, hn, by rw [hd]; omega⟩, by simp [zn, hd]; omega⟩
  · rw [if_neg hz]
    exact ⟨Or.inl hn, by unfold zn; rw [if_neg (num_head hn), hd]; omega⟩
theorem ztext_len {z : Int} (h : (Lib.decDigits z.natAbs).length ≤ 300) : (zText z).length ≤ 301 := by
  unfold zText; split
  · simp; omega
  · omega
theorem decs_len {n : Nat} (h : (Lib.decDigits n).length ≤ 300) : (decs n).length ≤ 1000 := by
  unfold decs; split
  · simp
  · omega
/-- Parse, of a text whose outcome is known. -/
theorem parse_yes (l : List UInt8) (z : Int) (w : World) (hm : l.length ≤ 1000000000) (h : ZNum l) (hz : zn l = z) :
    Calls Tryd.prog 34 #[.string ⟨l.toArray⟩] w fun e w' => ∃ v, e = .returned (.tuple #[v, .bool true]) ∧ CI w' v z 34 ∧ Below w.heap.size w w' :=
  (wparse_any l w hm).mono fun _ _ ⟨v, o, he, h1, h2, _, h4⟩ => by
    have ho : o = true := h1.2 h
    subst ho; subst hz
    exact ⟨v, he, h2 rfl, h4⟩
theorem parse_no (l : List UInt8) (w : World) (hm : l.length ≤ 1000000000) (h : ¬ ZNum l) :
    Calls Tryd.prog 34 #[.string ⟨l.toArray⟩] w fun e w' => e = .returned (.tuple #[.agg #[.bool false, .slice none 0 0], .bool false]) ∧ Below w.heap.size w w' :=
  (wparse_any l w hm).mono fun _ _ ⟨v, o, he, h1, _, h3, h4⟩ => by
    have ho : o = false := by cases o; rfl; exact absurd (h1.1 rfl) h
    subst ho
    rw [h3 rfl] at he
    exact ⟨he, h4⟩
theorem ci_zero (w : World) : CI w (.agg #[.bool false, .slice none 0 0]) 0 2 :=
  ⟨_, rfl, by rw [Int.natAbs_zero, dig_zero]; exact Sl.nil _ _, by decide⟩
theorem pow_big {k : Nat} {z : Int} (h : z.natAbs < L32 ^ k) (hk : 0 < k) (hk2 : k ≤ 30) : (Lib.decDigits z.natAbs).length ≤ 300 := text_len h hk hk2
theorem bl_pow {n k : Nat} (h : n < L32 ^ k) : bl n ≤ 32 * k := bl_le (by rwa [show L32 = 2 ^ 32 from rfl, ← Nat.pow_mul] at h)

set_option maxHeartbeats 8000000 in
theorem wholeTexts_walk (b0 : Bool) (o0 : Option Addr) (n0 m0 : Nat) (xs0 : List Nat) (by0 : ByteArray) (w : World) (a0 : Arg w b0 o0 n0 m0 xs0) (hsz : by0.size ≤ maxLen) (htab : Lib.TabIs Tryd.prog w "internal/strconv.uint64pow10" .u64 Lib.pow10Tab) :
    Calls Tryd.prog 9 #[.agg #[.bool b0, .slice o0 n0 m0], .string by0] w fun e w' => e = .returned (.bool true) ∧ Below w.heap.size w w' := by
  have HF := Lib.hid wfitOk
  have HTB := Lib.hid htab
  clear htab
  obtain ⟨l, rfl⟩ : ∃ l : List UInt8, by0 = ⟨l.toArray⟩ := ⟨by0.data.toList, by cases by0; simp⟩
  have hll : (⟨l.toArray⟩ : ByteArray).size = l.length := rfl
  clear hsz
  by_cases hs : n0 ≤ 20
  · have l0 := hs
    clear hs
    obtain ⟨A, g0⟩ := a0.gi l0
    clear a0
    by_cases hl4 : 400 < l.length
    · have hbt := (Below.refl w.heap.size w).alloc (Nat.le_refl _) (.cells #[.bool b0, .slice o0 n0 m0] 25)
      have HB_x0 := Lib.hid (heap_alloc_new w (.cells #[.bool b0, .slice o0 n0 m0] 25))
      replace g0 := g0.below hbt
      have x00 := (two_cells HB_x0.out).1
      have x01 := (two_cells HB_x0.out).2.1
      go_enter Tryd.func9, Tryd.ntmps9
      go_wp2_with fail
      generalize (w.alloc (.cells #[.bool b0, .slice o0 n0 m0] 25)) = w0 at *
      refine (HF.out _ (tab_below HTB.out hbt)).mono ?_
      rintro e wx1 ⟨rfl, hbx⟩
      replace g0 := g0.below hbx
      replace hbt := hbt.trans (hbx.mono hbt.size)
      replace HB_x0 := Lib.hid ((hbx.block _ (lt_of_block HB_x0.out)).trans HB_x0.out)
      clear hbx
      replace x00 := (two_cells HB_x0.out).1
      replace x01 := (two_cells HB_x0.out).2.1
      go_wp2_with fail
      refine (short_t1 20 _ rfl l0).mono ?_
      rintro e wx2 ⟨rfl, hbx⟩
      replace g0 := g0.below hbx
      replace hbt := hbt.trans (hbx.mono hbt.size)
      replace HB_x0 := Lib.hid ((hbx.block _ (lt_of_block HB_x0.out)).trans HB_x0.out)
      clear hbx
      replace x00 := (two_cells HB_x0.out).1
      replace x01 := (two_cells HB_x0.out).2.1
      go_wp2_with fail
      go_ret
      exact ⟨rfl, hbt⟩
    · have hdl := pow_big g0.lt (by decide) (by decide)
      have HZ := Lib.hid (znum_text hdl)
      have HLN := Lib.hid (Nat.le_trans (ztext_len hdl) (show 301 ≤ 1000000000 by decide))
      have HBL := Lib.hid (Nat.le_trans (bl_pow g0.lt) (show 32 * 20 ≤ 100000 by decide))
      have HDL := Lib.hid (decs_len hdl)
      have HSS := Lib.hid (sgnZ_self A)
      clear hdl
      have hl5 : l.length ≤ 400 := by omega
      clear hl4
      have hlen : l.length ≤ 1000000000 := by omega
      by_cases hy : ZNum l
      · have HY := Lib.hid hy
        have HYT := Lib.hid (ztext_zn hy)
        have HA0 := Lib.hid (show zn l + 0 = zn l by omega)
        clear hy
        have hbt := (Below.refl w.heap.size w).alloc (Nat.le_refl _) (.cells #[.bool b0, .slice o0 n0 m0] 25)
        have HB_x0 := Lib.hid (heap_alloc_new w (.cells #[.bool b0, .slice o0 n0 m0] 25))
        replace g0 := g0.below hbt
        have x00 := (two_cells HB_x0.out).1
        have x01 := (two_cells HB_x0.out).2.1
        go_enter Tryd.func9, Tryd.ntmps9
        go_wp2_with fail
        generalize (w.alloc (.cells #[.bool b0, .slice o0 n0 m0] 25)) = w0 at *
        refine (HF.out _ (tab_below HTB.out hbt)).mono ?_
        rintro e wx1 ⟨rfl, hbx⟩
        replace g0 := g0.below hbx
        replace hbt := hbt.trans (hbx.mono hbt.size)
        replace HB_x0 := Lib.hid ((hbx.block _ (lt_of_block HB_x0.out)).trans HB_x0.out)
        clear hbx
        replace x00 := (two_cells HB_x0.out).1
        replace x01 := (two_cells HB_x0.out).2.1
        go_wp2_with fail
        refine (short_t1 20 _ rfl l0).mono ?_
        rintro e wx2 ⟨rfl, hbx⟩
        replace g0 := g0.below hbx
        replace hbt := hbt.trans (hbx.mono hbt.size)
        replace HB_x0 := Lib.hid ((hbx.block _ (lt_of_block HB_x0.out)).trans HB_x0.out)
        clear hbx
        replace x00 := (two_cells HB_x0.out).1
        replace x01 := (two_cells HB_x0.out).2.1
        go_wp2_with fail
        refine (wtext_any _ A 20 _ (tab_below HTB.out hbt) g0 (by omega)).mono ?_
        rintro e wx3 ⟨rfl, hbx⟩
        replace g0 := g0.below hbx
        replace hbt := hbt.trans (hbx.mono hbt.size)
        replace HB_x0 := Lib.hid ((hbx.block _ (lt_of_block HB_x0.out)).trans HB_x0.out)
        clear hbx
        replace x00 := (two_cells HB_x0.out).1
        replace x01 := (two_cells HB_x0.out).2.1
        go_wp2_with fail
        refine (parse_yes _ A _ HLN.out HZ.out.1 HZ.out.2).mono ?_
        rintro e wx4 ⟨v_p, rfl, c_p, hbx⟩
        replace g0 := g0.below hbx
        replace hbt := hbt.trans (hbx.mono hbt.size)
        replace HB_x0 := Lib.hid ((hbx.block _ (lt_of_block HB_x0.out)).trans HB_x0.out)
        clear hbx
        replace x00 := (two_cells HB_x0.out).1
        replace x01 := (two_cells HB_x0.out).2.1
        obtain ⟨b_p, o_p, l_p, k_p, rfl⟩ := c_p.shape
        have hlt_x0 := lt_of_block HB_x0.out
        go_wp2_with fail
        clear hlt_x0
        have hbx : Below wx4.heap.size wx4 (wx4.alloc (.cells #[.bool b_p, .slice o_p l_p k_p] 25)) := (Below.refl _ _).alloc (Nat.le_refl _) _
        replace g0 := g0.below hbx
        replace c_p := c_p.below hbx
        replace hbt := hbt.trans (hbx.mono hbt.size)
        replace HB_x0 := Lib.hid ((hbx.block _ (lt_of_block HB_x0.out)).trans HB_x0.out)
        clear hbx
        replace x00 := (two_cells HB_x0.out).1
        replace x01 := (two_cells HB_x0.out).2.1
        have HB_xp := Lib.hid (heap_alloc_new wx4 (.cells #[.bool b_p, .slice o_p l_p k_p] 25))
        have xp0 := (two_cells HB_xp.out).1
        have xp1 := (two_cells HB_xp.out).2.1
        generalize (wx4.alloc (.cells #[.bool b_p, .slice o_p l_p k_p] 25)) = wx5 at *
        refine (lof_any _ A 20 _ g0 (by omega)).mono ?_
        rintro e wx6 ⟨v_r, rfl, c_r, hbx⟩
        replace g0 := g0.below hbx
        replace c_p := c_p.below hbx
        replace hbt := hbt.trans (hbx.mono hbt.size)
        replace HB_x0 := Lib.hid ((hbx.block _ (lt_of_block HB_x0.out)).trans HB_x0.out)
        replace HB_xp := Lib.hid ((hbx.block _ (lt_of_block HB_xp.out)).trans HB_xp.out)
        clear hbx
        replace x00 := (two_cells HB_x0.out).1
        replace x01 := (two_cells HB_x0.out).2.1
        replace xp0 := (two_cells HB_xp.out).1
        replace xp1 := (two_cells HB_xp.out).2.1
        obtain ⟨b_r, o_r, l_r, k_r, n_r, rfl, -, -⟩ := c_r.shape
        go_wp2_with fail
        refine (rztext_any _ A _ c_r HBL.out HDL.out).mono ?_
        rintro e wx7 ⟨rfl, hbx⟩
        replace g0 := g0.below hbx
        replace c_p := c_p.below hbx
        replace c_r := c_r.below hbx
        replace hbt := hbt.trans (hbx.mono hbt.size)
        replace HB_x0 := Lib.hid ((hbx.block _ (lt_of_block HB_x0.out)).trans HB_x0.out)
        replace HB_xp := Lib.hid ((hbx.block _ (lt_of_block HB_xp.out)).trans HB_xp.out)
        clear hbx
        replace x00 := (two_cells HB_x0.out).1
        replace x01 := (two_cells HB_x0.out).2.1
        replace xp0 := (two_cells HB_xp.out).1
        replace xp1 := (two_cells HB_xp.out).2.1
        go_wp2_with fail
        refine (wcmp_s _ _ A A 20 34 0 _ g0 c_p.gi HSS.out (by omega) (by omega)).mono ?_
        rintro e wx8 ⟨rfl, hbx⟩
        replace g0 := g0.below hbx
        replace c_p := c_p.below hbx
        replace c_r := c_r.below hbx
        replace hbt := hbt.trans (hbx.mono hbt.size)
        replace HB_x0 := Lib.hid ((hbx.block _ (lt_of_block HB_x0.out)).trans HB_x0.out)
        replace HB_xp := Lib.hid ((hbx.block _ (lt_of_block HB_xp.out)).trans HB_xp.out)
        clear hbx
        replace x00 := (two_cells HB_x0.out).1
        replace x01 := (two_cells HB_x0.out).2.1
        replace xp0 := (two_cells HB_xp.out).1
        replace xp1 := (two_cells HB_xp.out).2.1
        go_wp2_with fail
        refine (parse_yes l (zn l) _ hlen HY.out rfl).mono ?_
        rintro e wx9 ⟨v_c, rfl, c_c, hbx⟩
        replace g0 := g0.below hbx
        replace c_p := c_p.below hbx
        replace c_r := c_r.below hbx
        replace hbt := hbt.trans (hbx.mono hbt.size)
        replace HB_x0 := Lib.hid ((hbx.block _ (lt_of_block HB_x0.out)).trans HB_x0.out)
        replace HB_xp := Lib.hid ((hbx.block _ (lt_of_block HB_xp.out)).trans HB_xp.out)
        clear hbx
        replace x00 := (two_cells HB_x0.out).1
        replace x01 := (two_cells HB_x0.out).2.1
        replace xp0 := (two_cells HB_xp.out).1
        replace xp1 := (two_cells HB_xp.out).2.1
        obtain ⟨b_c, o_c, l_c, k_c, rfl⟩ := c_c.shape
        have hlt_x0 := lt_of_block HB_x0.out
        have hlt_xp := lt_of_block HB_xp.out
        go_wp2_with fail
        clear hlt_x0 hlt_xp
        have hbx : Below wx9.heap.size wx9 (wx9.alloc (.cells #[.bool b_c, .slice o_c l_c k_c] 25)) := (Below.refl _ _).alloc (Nat.le_refl _) _
        replace g0 := g0.below hbx
        replace c_p := c_p.below hbx
        replace c_r := c_r.below hbx
        replace c_c := c_c.below hbx
        replace hbt := hbt.trans (hbx.mono hbt.size)
        replace HB_x0 := Lib.hid ((hbx.block _ (lt_of_block HB_x0.out)).trans HB_x0.out)
        replace HB_xp := Lib.hid ((hbx.block _ (lt_of_block HB_xp.out)).trans HB_xp.out)
        clear hbx
        replace x00 := (two_cells HB_x0.out).1
        replace x01 := (two_cells HB_x0.out).2.1
        replace xp0 := (two_cells HB_xp.out).1
        replace xp1 := (two_cells HB_xp.out).2.1
        have HB_xc := Lib.hid (heap_alloc_new wx9 (.cells #[.bool b_c, .slice o_c l_c k_c] 25))
        have xc0 := (two_cells HB_xc.out).1
        have xc1 := (two_cells HB_xc.out).2.1
        generalize (wx9.alloc (.cells #[.bool b_c, .slice o_c l_c k_c] 25)) = wx10 at *
        go_region_held3 (fun w' => w'.cell? ⟨wx9.heap.size, 0, none⟩ = some (.bool b_c) ∧ w'.cell? ⟨wx9.heap.size, 1, none⟩ = some (.slice o_c l_c k_c))
          (first | exact ⟨xc0, xc1⟩ | go_keep)
          (first
            | (have := tok2; go_at_call 25; refine (same_true _ _ (zn l) 34 37 _ c_c (HA0.out ▸ c_q) (by omega) (by omega)).mono ?_; rintro e wx14 ⟨rfl, hbx⟩; replace g0 := g0.below hbx; replace c_p := c_p.below hbx; replace c_r := c_r.below hbx; replace c_c := c_c.below hbx; replace c_z := c_z.below hbx; replace c_q := c_q.below hbx; replace hbt := hbt.trans (hbx.mono hbt.size); replace HB_x0 := Lib.hid ((hbx.block _ (lt_of_block HB_x0.out)).trans HB_x0.out); replace HB_xp := Lib.hid ((hbx.block _ (lt_of_block HB_xp.out)).trans HB_xp.out); replace HB_xc := Lib.hid ((hbx.block _ (lt_of_block HB_xc.out)).trans HB_xc.out); clear hbx; replace x00 := (two_cells HB_x0.out).1; replace x01 := (two_cells HB_x0.out).2.1; replace xp0 := (two_cells HB_xp.out).1; replace xp1 := (two_cells HB_xp.out).2.1; replace xc0 := (two_cells HB_xc.out).1; replace xc1 := (two_cells HB_xc.out).2.1; have tok3 := Lib.hid trivial)
            | (have := tok1; go_at_call 14; refine (wadd_any _ _ (zn l) 0 34 2 _ c_c.gi c_z.gi (by omega) (by omega)).mono ?_; rintro e wx13 ⟨v_q, rfl, c_q, hbx⟩; replace g0 := g0.below hbx; replace c_p := c_p.below hbx; replace c_r := c_r.below hbx; replace c_c := c_c.below hbx; replace c_z := c_z.below hbx; replace hbt := hbt.trans (hbx.mono hbt.size); replace HB_x0 := Lib.hid ((hbx.block _ (lt_of_block HB_x0.out)).trans HB_x0.out); replace HB_xp := Lib.hid ((hbx.block _ (lt_of_block HB_xp.out)).trans HB_xp.out); replace HB_xc := Lib.hid ((hbx.block _ (lt_of_block HB_xc.out)).trans HB_xc.out); clear hbx; replace x00 := (two_cells HB_x0.out).1; replace x01 := (two_cells HB_x0.out).2.1; replace xp0 := (two_cells HB_xp.out).1; replace xp1 := (two_cells HB_xp.out).2.1; replace xc0 := (two_cells HB_xc.out).1; replace xc1 := (two_cells HB_xc.out).2.1; obtain ⟨b_q, o_q, l_q, k_q, rfl⟩ := c_q.shape; have tok2 := Lib.hid trivial)
            | (have := tok0; go_at_call 26; refine (wof_any 0 _ (by decide) (by decide)).mono ?_; rintro e wx12 ⟨v_z, rfl, c_z, hbx⟩; replace g0 := g0.below hbx; replace c_p := c_p.below hbx; replace c_r := c_r.below hbx; replace c_c := c_c.below hbx; replace hbt := hbt.trans (hbx.mono hbt.size); replace HB_x0 := Lib.hid ((hbx.block _ (lt_of_block HB_x0.out)).trans HB_x0.out); replace HB_xp := Lib.hid ((hbx.block _ (lt_of_block HB_xp.out)).trans HB_xp.out); replace HB_xc := Lib.hid ((hbx.block _ (lt_of_block HB_xc.out)).trans HB_xc.out); clear hbx; replace x00 := (two_cells HB_x0.out).1; replace x01 := (two_cells HB_x0.out).2.1; replace xp0 := (two_cells HB_xp.out).1; replace xp1 := (two_cells HB_xp.out).2.1; replace xc0 := (two_cells HB_xc.out).1; replace xc1 := (two_cells HB_xc.out).2.1; obtain ⟨b_z, o_z, l_z, k_z, rfl⟩ := c_z.shape; have tok1 := Lib.hid trivial)
            | (skip; go_at_call 28; refine (wtext_any _ (zn l) 34 _ (tab_below HTB.out hbt.drew) c_c.drew.gi (by omega)).mono ?_; rintro e wx11 ⟨rfl, hbx'⟩; have hbx := undrew hbx'; clear hbx'; replace g0 := g0.below hbx; replace c_p := c_p.below hbx; replace c_r := c_r.below hbx; replace c_c := c_c.below hbx; replace hbt := hbt.trans (hbx.mono hbt.size); replace HB_x0 := Lib.hid ((hbx.block _ (lt_of_block HB_x0.out)).trans HB_x0.out); replace HB_xp := Lib.hid ((hbx.block _ (lt_of_block HB_xp.out)).trans HB_xp.out); replace HB_xc := Lib.hid ((hbx.block _ (lt_of_block HB_xc.out)).trans HB_xc.out); clear hbx; replace x00 := (two_cells HB_x0.out).1; replace x01 := (two_cells HB_x0.out).2.1; replace xp0 := (two_cells HB_xp.out).1; replace xp1 := (two_cells HB_xp.out).2.1; replace xc0 := (two_cells HB_xc.out).1; replace xc1 := (two_cells HB_xc.out).2.1; rw [HYT.out]; have tok0 := Lib.hid trivial))
        go_wp2_with fail
        go_ret
        exact ⟨rfl, hbt⟩
      · have HY := Lib.hid hy
        clear hy
        have hbt := (Below.refl w.heap.size w).alloc (Nat.le_refl _) (.cells #[.bool b0, .slice o0 n0 m0] 25)
        have HB_x0 := Lib.hid (heap_alloc_new w (.cells #[.bool b0, .slice o0 n0 m0] 25))
        replace g0 := g0.below hbt
        have x00 := (two_cells HB_x0.out).1
        have x01 := (two_cells HB_x0.out).2.1
        go_enter Tryd.func9, Tryd.ntmps9
        go_wp2_with fail
        generalize (w.alloc (.cells #[.bool b0, .slice o0 n0 m0] 25)) = w0 at *
        refine (HF.out _ (tab_below HTB.out hbt)).mono ?_
        rintro e wx1 ⟨rfl, hbx⟩
        replace g0 := g0.below hbx
        replace hbt := hbt.trans (hbx.mono hbt.size)
        replace HB_x0 := Lib.hid ((hbx.block _ (lt_of_block HB_x0.out)).trans HB_x0.out)
        clear hbx
        replace x00 := (two_cells HB_x0.out).1
        replace x01 := (two_cells HB_x0.out).2.1
        go_wp2_with fail
        refine (short_t1 20 _ rfl l0).mono ?_
        rintro e wx2 ⟨rfl, hbx⟩
        replace g0 := g0.below hbx
        replace hbt := hbt.trans (hbx.mono hbt.size)
        replace HB_x0 := Lib.hid ((hbx.block _ (lt_of_block HB_x0.out)).trans HB_x0.out)
        clear hbx
        replace x00 := (two_cells HB_x0.out).1
        replace x01 := (two_cells HB_x0.out).2.1
        go_wp2_with fail
        refine (wtext_any _ A 20 _ (tab_below HTB.out hbt) g0 (by omega)).mono ?_
        rintro e wx3 ⟨rfl, hbx⟩
        replace g0 := g0.below hbx
        replace hbt := hbt.trans (hbx.mono hbt.size)
        replace HB_x0 := Lib.hid ((hbx.block _ (lt_of_block HB_x0.out)).trans HB_x0.out)
        clear hbx
        replace x00 := (two_cells HB_x0.out).1
        replace x01 := (two_cells HB_x0.out).2.1
        go_wp2_with fail
        refine (parse_yes _ A _ HLN.out HZ.out.1 HZ.out.2).mono ?_
        rintro e wx4 ⟨v_p, rfl, c_p, hbx⟩
        replace g0 := g0.below hbx
        replace hbt := hbt.trans (hbx.mono hbt.size)
        replace HB_x0 := Lib.hid ((hbx.block _ (lt_of_block HB_x0.out)).trans HB_x0.out)
        clear hbx
        replace x00 := (two_cells HB_x0.out).1
        replace x01 := (two_cells HB_x0.out).2.1
        obtain ⟨b_p, o_p, l_p, k_p, rfl⟩ := c_p.shape
        have hlt_x0 := lt_of_block HB_x0.out
        go_wp2_with fail
        clear hlt_x0
        have hbx : Below wx4.heap.size wx4 (wx4.alloc (.cells #[.bool b_p, .slice o_p l_p k_p] 25)) := (Below.refl _ _).alloc (Nat.le_refl _) _
        replace g0 := g0.below hbx
        replace c_p := c_p.below hbx
        replace hbt := hbt.trans (hbx.mono hbt.size)
        replace HB_x0 := Lib.hid ((hbx.block _ (lt_of_block HB_x0.out)).trans HB_x0.out)
        clear hbx
        replace x00 := (two_cells HB_x0.out).1
        replace x01 := (two_cells HB_x0.out).2.1
        have HB_xp := Lib.hid (heap_alloc_new wx4 (.cells #[.bool b_p, .slice o_p l_p k_p] 25))
        have xp0 := (two_cells HB_xp.out).1
        have xp1 := (two_cells HB_xp.out).2.1
        generalize (wx4.alloc (.cells #[.bool b_p, .slice o_p l_p k_p] 25)) = wx5 at *
        refine (lof_any _ A 20 _ g0 (by omega)).mono ?_
        rintro e wx6 ⟨v_r, rfl, c_r, hbx⟩
        replace g0 := g0.below hbx
        replace c_p := c_p.below hbx
        replace hbt := hbt.trans (hbx.mono hbt.size)
        replace HB_x0 := Lib.hid ((hbx.block _ (lt_of_block HB_x0.out)).trans HB_x0.out)
        replace HB_xp := Lib.hid ((hbx.block _ (lt_of_block HB_xp.out)).trans HB_xp.out)
        clear hbx
        replace x00 := (two_cells HB_x0.out).1
        replace x01 := (two_cells HB_x0.out).2.1
        replace xp0 := (two_cells HB_xp.out).1
        replace xp1 := (two_cells HB_xp.out).2.1
        obtain ⟨b_r, o_r, l_r, k_r, n_r, rfl, -, -⟩ := c_r.shape
        go_wp2_with fail
        refine (rztext_any _ A _ c_r HBL.out HDL.out).mono ?_
        rintro e wx7 ⟨rfl, hbx⟩
        replace g0 := g0.below hbx
        replace c_p := c_p.below hbx
        replace c_r := c_r.below hbx
        replace hbt := hbt.trans (hbx.mono hbt.size)
        replace HB_x0 := Lib.hid ((hbx.block _ (lt_of_block HB_x0.out)).trans HB_x0.out)
        replace HB_xp := Lib.hid ((hbx.block _ (lt_of_block HB_xp.out)).trans HB_xp.out)
        clear hbx
        replace x00 := (two_cells HB_x0.out).1
        replace x01 := (two_cells HB_x0.out).2.1
        replace xp0 := (two_cells HB_xp.out).1
        replace xp1 := (two_cells HB_xp.out).2.1
        go_wp2_with fail
        refine (wcmp_s _ _ A A 20 34 0 _ g0 c_p.gi HSS.out (by omega) (by omega)).mono ?_
        rintro e wx8 ⟨rfl, hbx⟩
        replace g0 := g0.below hbx
        replace c_p := c_p.below hbx
        replace c_r := c_r.below hbx
        replace hbt := hbt.trans (hbx.mono hbt.size)
        replace HB_x0 := Lib.hid ((hbx.block _ (lt_of_block HB_x0.out)).trans HB_x0.out)
        replace HB_xp := Lib.hid ((hbx.block _ (lt_of_block HB_xp.out)).trans HB_xp.out)
        clear hbx
        replace x00 := (two_cells HB_x0.out).1
        replace x01 := (two_cells HB_x0.out).2.1
        replace xp0 := (two_cells HB_xp.out).1
        replace xp1 := (two_cells HB_xp.out).2.1
        go_wp2_with fail
        refine (parse_no l _ hlen HY.out).mono ?_
        rintro e wx9 ⟨rfl, hbx⟩
        replace g0 := g0.below hbx
        replace c_p := c_p.below hbx
        replace c_r := c_r.below hbx
        replace hbt := hbt.trans (hbx.mono hbt.size)
        replace HB_x0 := Lib.hid ((hbx.block _ (lt_of_block HB_x0.out)).trans HB_x0.out)
        replace HB_xp := Lib.hid ((hbx.block _ (lt_of_block HB_xp.out)).trans HB_xp.out)
        clear hbx
        replace x00 := (two_cells HB_x0.out).1
        replace x01 := (two_cells HB_x0.out).2.1
        replace xp0 := (two_cells HB_xp.out).1
        replace xp1 := (two_cells HB_xp.out).2.1
        have hlt_x0 := lt_of_block HB_x0.out
        have hlt_xp := lt_of_block HB_xp.out
        go_wp2_with fail
        clear hlt_x0 hlt_xp
        have hbx : Below wx9.heap.size wx9 (wx9.alloc (.cells #[.bool false, .slice none 0 0] 25)) := (Below.refl _ _).alloc (Nat.le_refl _) _
        replace g0 := g0.below hbx
        replace c_p := c_p.below hbx
        replace c_r := c_r.below hbx
        replace hbt := hbt.trans (hbx.mono hbt.size)
        replace HB_x0 := Lib.hid ((hbx.block _ (lt_of_block HB_x0.out)).trans HB_x0.out)
        replace HB_xp := Lib.hid ((hbx.block _ (lt_of_block HB_xp.out)).trans HB_xp.out)
        clear hbx
        replace x00 := (two_cells HB_x0.out).1
        replace x01 := (two_cells HB_x0.out).2.1
        replace xp0 := (two_cells HB_xp.out).1
        replace xp1 := (two_cells HB_xp.out).2.1
        have HB_xc := Lib.hid (heap_alloc_new wx9 (.cells #[.bool false, .slice none 0 0] 25))
        have xc0 := (two_cells HB_xc.out).1
        have xc1 := (two_cells HB_xc.out).2.1
        generalize (wx9.alloc (.cells #[.bool false, .slice none 0 0] 25)) = wx10 at *
        refine (same_true _ _ 0 2 2 _ (ci_zero _) (ci_zero _) (by omega) (by omega)).mono ?_
        rintro e wx11 ⟨rfl, hbx⟩
        replace g0 := g0.below hbx
        replace c_p := c_p.below hbx
        replace c_r := c_r.below hbx
        replace hbt := hbt.trans (hbx.mono hbt.size)
        replace HB_x0 := Lib.hid ((hbx.block _ (lt_of_block HB_x0.out)).trans HB_x0.out)
        replace HB_xp := Lib.hid ((hbx.block _ (lt_of_block HB_xp.out)).trans HB_xp.out)
        replace HB_xc := Lib.hid ((hbx.block _ (lt_of_block HB_xc.out)).trans HB_xc.out)
        clear hbx
        replace x00 := (two_cells HB_x0.out).1
        replace x01 := (two_cells HB_x0.out).2.1
        replace xp0 := (two_cells HB_xp.out).1
        replace xp1 := (two_cells HB_xp.out).2.1
        replace xc0 := (two_cells HB_xc.out).1
        replace xc1 := (two_cells HB_xc.out).2.1
        go_wp2_with fail
        go_ret
        exact ⟨rfl, hbt⟩
  · have HS := Lib.hid hs
    clear hs
    have hbt := (Below.refl w.heap.size w).alloc (Nat.le_refl _) (.cells #[.bool b0, .slice o0 n0 m0] 25)
    clear a0
    have HB_x0 := Lib.hid (heap_alloc_new w (.cells #[.bool b0, .slice o0 n0 m0] 25))
    have x00 := (two_cells HB_x0.out).1
    have x01 := (two_cells HB_x0.out).2.1
    go_enter Tryd.func9, Tryd.ntmps9
    go_wp2_with fail
    generalize (w.alloc (.cells #[.bool b0, .slice o0 n0 m0] 25)) = w0 at *
    refine (HF.out _ (tab_below HTB.out hbt)).mono ?_
    rintro e wx1 ⟨rfl, hbx⟩
    replace hbt := hbt.trans (hbx.mono hbt.size)
    replace HB_x0 := Lib.hid ((hbx.block _ (lt_of_block HB_x0.out)).trans HB_x0.out)
    clear hbx
    replace x00 := (two_cells HB_x0.out).1
    replace x01 := (two_cells HB_x0.out).2.1
    go_wp2_with fail
    refine (short_f1 20 _ rfl HS.out).mono ?_
    rintro e wx2 ⟨rfl, hbx⟩
    replace hbt := hbt.trans (hbx.mono hbt.size)
    replace HB_x0 := Lib.hid ((hbx.block _ (lt_of_block HB_x0.out)).trans HB_x0.out)
    clear hbx
    replace x00 := (two_cells HB_x0.out).1
    replace x01 := (two_cells HB_x0.out).2.1
    go_wp2_with fail
    go_ret
    exact ⟨rfl, hbt⟩
end Go.Proofs.YtbkeildnhimfbaaDoor
