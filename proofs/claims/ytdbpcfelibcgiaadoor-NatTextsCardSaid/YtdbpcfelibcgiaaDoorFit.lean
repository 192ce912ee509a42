/-
  The laws' anchor: seven by two.
-/
import Derived.Test.YtdbpcfelibcgiaaDoorTextB
import Derived.Test.YtdbpcfelibcgiaaDoorLawB
namespace Go.Proofs.YtdbpcfelibcgiaaDoor
open Go.RowKit

theorem fmt_below100 (w0 : World) : FmtAt w0 (fun i => i < 100) := fun w i z _ hz hi =>
  (fmt_small i z hz hi w).mono fun _ _ ⟨he, hw⟩ => ⟨he, by rw [← hw]; exact Below.refl _ _⟩

theorem dig_one {B n : Nat} (hB : 2 ≤ B) (h0 : 0 < n) (h : n < B) : dig B n = [n] := by
  rw [dig_pos hB h0, Nat.mod_eq_of_lt h, Nat.div_eq_of_lt h, dig_zero]

set_option maxHeartbeats 1000000 in
theorem text_small (va : Value) (n : Nat) (w : World) (h0 : 0 < n) (h : n < 10) (hx : Sl w .u32 va (dig L32 n)) :
    Calls Tryd.prog 36 #[va] w fun e w' => e = .returned (.string ⟨[UInt8.ofNat (48 + n)].toArray⟩) ∧ Below w.heap.size w w' := by
  have hv : val L32 (dig L32 n) = n := val_dig (by decide) n
  have e9 : dig G9 n = [n] := dig_one (by decide) h0 (by have hG : G9 = 1000000000 := rfl; omega)
  have e32 : (dig L32 n).length = 1 := by rw [dig_one (by decide) h0 (by have hG : L32 = 4294967296 := rfl; omega)]; rfl
  refine (text_gen (fun i => i < 100) va (dig L32 n) w (fmt_below100 w) hx (Dig_dig (by decide) _) (by omega) ?_ ?_).mono ?_
  · intro g _ hg
    rw [hv, e9] at hg
    have : g = n := by simpa using hg.symm
    omega
  · intro h2
    rw [hv, e9] at h2
    simp at h2
  · intro e w' ⟨he, hb⟩
    rw [hv, Lib.decDigits_one h] at he
    exact ⟨he, hb⟩

set_option maxHeartbeats 1000000 in
set_option maxRecDepth 100000 in
theorem fitOk : FitOk := by
  intro w
  have v7 : val L32 (dig L32 7) = 7 := val_dig (by decide) 7
  have v2 : val L32 (dig L32 2) = 2 := val_dig (by decide) 2
  have v3 : val L32 (dig L32 3) = 3 := val_dig (by decide) 3
  have v1 : val L32 (dig L32 1) = 1 := val_dig (by decide) 1
  have v4 : val L32 (dig L32 4) = 4 := val_dig (by decide) 4
  have e7 : dig L32 7 = [7] := dig_one (by decide) (by decide) (by decide)
  have e2 : dig L32 2 = [2] := dig_one (by decide) (by decide) (by decide)
  have l7 : (dig L32 7).length ≤ 1000000 := by rw [e7]; decide
  have l3 : (dig L32 3).length ≤ 1000000 := by rw [dig_one (by decide) (by decide) (by decide)]; decide
  have l1 : (dig L32 1).length ≤ 1000000 := by rw [dig_one (by decide) (by decide) (by decide)]; decide
  have V7 := Lib.hid v7
  have V2 := Lib.hid v2
  have V3 := Lib.hid v3
  have V1 := Lib.hid v1
  have V4 := Lib.hid v4
  have E2 := Lib.hid (show nz (dig L32 2) = 1 by rw [e2]; decide)
  clear v7 v2 v3 v1 v4 e7 e2
  have D : ∀ n, Dig L32 (dig L32 n) := Dig_dig (by decide)
  have HD := Lib.hid D
  clear D
  go_enter Tryd.func14, Tryd.ntmps14
  go_wp2_with fail
  refine (of_any 7 _ w rfl (by decide)).mono ?_
  rintro e w1 ⟨p1, rfl, hs1, hb1⟩
  go_wp2_with fail
  refine (of_any 2 _ w1 rfl (by decide)).mono ?_
  rintro e w2 ⟨p2, rfl, hs2, hb2⟩
  have hb2' : Below w.heap.size w w2 := hb1.trans (hb2.mono hb1.size)
  go_wp2_with fail
  refine (div_one _ _ _ _ w2 (hs1.below hb2) hs2 (HD.out _) (HD.out _) l7 (by rw [V7.out, V2.out]; decide) E2.out).mono ?_
  rintro e w3 ⟨q, r, rfl, hq, hr, hb3⟩
  rw [V7.out, V2.out] at hq hr
  have hb3' : Below w.heap.size w w3 := hb2'.trans (hb3.mono hb2'.size)
  go_wp2_with fail
  refine (text_small _ 3 w3 (by decide) (by decide) hq).mono ?_
  rintro e w4 ⟨rfl, hb4⟩
  have hb4' : Below w.heap.size w w4 := hb3'.trans (hb4.mono hb3'.size)
  go_wp2_with fail
  refine (text_small _ 1 w4 (by decide) (by decide) (hr.below hb4)).mono ?_
  rintro e w5 ⟨rfl, hb5⟩
  have hb5' : Below w.heap.size w w5 := hb4'.trans (hb5.mono hb4'.size)
  go_wp2_with fail
  refine (add_any _ _ (dig L32 3) (dig L32 1) w5 ((hq.below hb4).below hb5) ((hr.below hb4).below hb5) (HD.out _) (HD.out _) l3 l1).mono ?_
  rintro e w6 ⟨v6, rfl, hs6, hb6⟩
  rw [V3.out, V1.out] at hs6
  have hb6' : Below w.heap.size w w6 := hb5'.trans (hb6.mono hb5'.size)
  go_wp2_with fail
  refine (of_any 4 _ w6 rfl (by decide)).mono ?_
  rintro e w7 ⟨v7, rfl, hs7, hb7⟩
  have hb7' : Below w.heap.size w w7 := hb6'.trans (hb7.mono hb6'.size)
  go_wp2_with fail
  refine (cmp_any _ _ (dig L32 4) (dig L32 4) w7 (hs6.below hb7) hs7 (HD.out _) (HD.out _)).mono ?_
  rintro e w8 ⟨rfl, hb8⟩
  rw [cmpN_eq rfl]
  go_wp2_with fail
  go_ret
  exact ⟨rfl, hb7'.trans (hb8.mono hb7'.size)⟩
end Go.Proofs.YtdbpcfelibcgiaaDoor
