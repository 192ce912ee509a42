/-
  Contracts of logic.fits, logic.isCanonical, logic.Right.
-/
import Derived.Test.YtinfbmnimkcdjaaLgD
namespace Go.Proofs.Ytinfbmnimkcdjaa
open Go.RowKit
set_option maxRecDepth 100000
set_option linter.unusedVariables false
set_option linter.unusedSimpArgs false

set_option maxHeartbeats 8000000 in
theorem fits_p (v : Value) (t : F) (d : Nat) (S : Nat → Prop) (w : World) (h : FC w S d v t) :
    Calls Try.prog 37 #[v] w fun e w' => e = .returned (.bool (fitF t.op t.num (srts t.kids))) ∧ Below w.heap.size w w' := by
  obtain ⟨b, ao, l, c, ko, kl, kc, rfl, ⟨hr, hz, -, -, -⟩, -, hk⟩ := h.open
  obtain ⟨o, z, nm, ks⟩ := t
  simp only [F.op, F.num, F.name, F.kids] at hr hz hk ⊢
  clear h hr
  rcases ops21 o with h | h
  · rcases h with rfl | rfl | rfl | rfl | rfl | rfl | rfl | rfl | rfl | rfl | rfl | rfl | rfl | rfl | rfl | rfl | rfl | rfl | rfl | rfl | rfl
    · have HX := Lib.hid hk
      have HZ := Lib.hid hz
      clear hk hz
      have HW := Lib.hid (Below.refl w.heap.size w)
      go_enter Try.func37, Try.ntmps37
      obtain ⟨x1, kf, ef, ekf, hbf, hkf, HBf⟩ := newV w #[.int .i64 0, .bool b, .slice ao l c, .string nm, .slice ko kl kc] 29
      replace HX := Lib.hid (HX.out.below hbf.out)
      replace HZ := Lib.hid (HZ.out.below hbf.out)
      replace HW := Lib.hid (HW.out.trans (hbf.out.mono HW.out.size))
      have c0 := cell_at (v := .int .i64 0) HBf.out 0 rfl
      have fc0 := froz_at HBf.out 0
      have c1 := cell_at (v := .bool b) HBf.out 1 rfl
      have fc1 := froz_at HBf.out 1
      have c2 := cell_at (v := .slice ao l c) HBf.out 2 rfl
      have fc2 := froz_at HBf.out 2
      have c3 := cell_at (v := .string nm) HBf.out 3 rfl
      have fc3 := froz_at HBf.out 3
      have c4 := cell_at (v := .slice ko kl kc) HBf.out 4 rfl
      have fc4 := froz_at HBf.out 4
      go_wp2_with fail
      refine (are_p _ _ ks [] (d - 1) S x1 HX.out (BL.nil _)).mono ?_
      rintro e x2 ⟨rfl, hb⟩
      clear c0 fc0 c1 fc1 c2 fc2 c3 fc3 c4 fc4
      replace HBf := kBV hb HBf
      replace HX := Lib.hid (HX.out.below hb)
      replace HZ := Lib.hid (HZ.out.below hb)
      replace HW := Lib.hid (HW.out.trans (hb.mono HW.out.size))
      go_wp2_with fail
      go_ret
      exact ⟨by simp [fitF, kidsOk], HW.out⟩
    · have HX := Lib.hid hk
      have HZ := Lib.hid hz
      clear hk hz
      have HW := Lib.hid (Below.refl w.heap.size w)
      go_enter Try.func37, Try.ntmps37
      obtain ⟨x1, kf, ef, ekf, hbf, hkf, HBf⟩ := newV w #[.int .i64 1, .bool b, .slice ao l c, .string nm, .slice ko kl kc] 29
      replace HX := Lib.hid (HX.out.below hbf.out)
      replace HZ := Lib.hid (HZ.out.below hbf.out)
      replace HW := Lib.hid (HW.out.trans (hbf.out.mono HW.out.size))
      have c0 := cell_at (v := .int .i64 1) HBf.out 0 rfl
      have fc0 := froz_at HBf.out 0
      have c1 := cell_at (v := .bool b) HBf.out 1 rfl
      have fc1 := froz_at HBf.out 1
      have c2 := cell_at (v := .slice ao l c) HBf.out 2 rfl
      have fc2 := froz_at HBf.out 2
      have c3 := cell_at (v := .string nm) HBf.out 3 rfl
      have fc3 := froz_at HBf.out 3
      have c4 := cell_at (v := .slice ko kl kc) HBf.out 4 rfl
      have fc4 := froz_at HBf.out 4
      go_wp2_with fail
      refine (are_p _ _ ks [] (d - 1) S x1 HX.out (BL.nil _)).mono ?_
      rintro e x2 ⟨rfl, hb⟩
      clear c0 fc0 c1 fc1 c2 fc2 c3 fc3 c4 fc4
      replace HBf := kBV hb HBf
      replace HX := Lib.hid (HX.out.below hb)
      replace HZ := Lib.hid (HZ.out.below hb)
      replace HW := Lib.hid (HW.out.trans (hb.mono HW.out.size))
      go_wp2_with fail
      go_ret
      exact ⟨by simp [fitF, kidsOk], HW.out⟩
    · have HX := Lib.hid hk
      have HZ := Lib.hid hz
      clear hk hz
      have HW := Lib.hid (Below.refl w.heap.size w)
      go_enter Try.func37, Try.ntmps37
      obtain ⟨x1, kf, ef, ekf, hbf, hkf, HBf⟩ := newV w #[.int .i64 2, .bool b, .slice ao l c, .string nm, .slice ko kl kc] 29
      replace HX := Lib.hid (HX.out.below hbf.out)
      replace HZ := Lib.hid (HZ.out.below hbf.out)
      replace HW := Lib.hid (HW.out.trans (hbf.out.mono HW.out.size))
      have c0 := cell_at (v := .int .i64 2) HBf.out 0 rfl
      have fc0 := froz_at HBf.out 0
      have c1 := cell_at (v := .bool b) HBf.out 1 rfl
      have fc1 := froz_at HBf.out 1
      have c2 := cell_at (v := .slice ao l c) HBf.out 2 rfl
      have fc2 := froz_at HBf.out 2
      have c3 := cell_at (v := .string nm) HBf.out 3 rfl
      have fc3 := froz_at HBf.out 3
      have c4 := cell_at (v := .slice ko kl kc) HBf.out 4 rfl
      have fc4 := froz_at HBf.out 4
      obtain ⟨x2, ky, ey, eky, hby, hky, HBy⟩ := newV x1 #[.int .i64 0, .int .i64 0] 32
      replace HBf := kBV hby.out HBf
      replace HX := Lib.hid (HX.out.below hby.out)
      replace HZ := Lib.hid (HZ.out.below hby.out)
      replace HW := Lib.hid (HW.out.trans (hby.out.mono HW.out.size))
      go_wp2_with fail
      refine (are_p _ _ ks [0, 0] (d - 1) S x2 HX.out (BL.block (ss := [0, 0]) HBy.out (by decide))).mono ?_
      rintro e x3 ⟨rfl, hb⟩
      clear c0 fc0 c1 fc1 c2 fc2 c3 fc3 c4 fc4
      replace HBf := kBV hb HBf
      replace HBy := kBV hb HBy
      replace HX := Lib.hid (HX.out.below hb)
      replace HZ := Lib.hid (HZ.out.below hb)
      replace HW := Lib.hid (HW.out.trans (hb.mono HW.out.size))
      go_wp2_with fail
      go_ret
      exact ⟨by simp [fitF, kidsOk], HW.out⟩
    · have HX := Lib.hid hk
      have HZ := Lib.hid hz
      clear hk hz
      have HW := Lib.hid (Below.refl w.heap.size w)
      go_enter Try.func37, Try.ntmps37
      obtain ⟨x1, kf, ef, ekf, hbf, hkf, HBf⟩ := newV w #[.int .i64 3, .bool b, .slice ao l c, .string nm, .slice ko kl kc] 29
      replace HX := Lib.hid (HX.out.below hbf.out)
      replace HZ := Lib.hid (HZ.out.below hbf.out)
      replace HW := Lib.hid (HW.out.trans (hbf.out.mono HW.out.size))
      have c0 := cell_at (v := .int .i64 3) HBf.out 0 rfl
      have fc0 := froz_at HBf.out 0
      have c1 := cell_at (v := .bool b) HBf.out 1 rfl
      have fc1 := froz_at HBf.out 1
      have c2 := cell_at (v := .slice ao l c) HBf.out 2 rfl
      have fc2 := froz_at HBf.out 2
      have c3 := cell_at (v := .string nm) HBf.out 3 rfl
      have fc3 := froz_at HBf.out 3
      have c4 := cell_at (v := .slice ko kl kc) HBf.out 4 rfl
      have fc4 := froz_at HBf.out 4
      obtain ⟨x2, ky, ey, eky, hby, hky, HBy⟩ := newV x1 #[.int .i64 0] 32
      replace HBf := kBV hby.out HBf
      replace HX := Lib.hid (HX.out.below hby.out)
      replace HZ := Lib.hid (HZ.out.below hby.out)
      replace HW := Lib.hid (HW.out.trans (hby.out.mono HW.out.size))
      go_wp2_with fail
      refine (are_p _ _ ks [0] (d - 1) S x2 HX.out (BL.block (ss := [0]) HBy.out (by decide))).mono ?_
      rintro e x3 ⟨rfl, hb⟩
      clear c0 fc0 c1 fc1 c2 fc2 c3 fc3 c4 fc4
      replace HBf := kBV hb HBf
      replace HBy := kBV hb HBy
      replace HX := Lib.hid (HX.out.below hb)
      replace HZ := Lib.hid (HZ.out.below hb)
      replace HW := Lib.hid (HW.out.trans (hb.mono HW.out.size))
      go_wp2_with fail
      go_ret
      exact ⟨by simp [fitF, kidsOk], HW.out⟩
    · have HX := Lib.hid hk
      have HZ := Lib.hid hz
      clear hk hz
      have HW := Lib.hid (Below.refl w.heap.size w)
      go_enter Try.func37, Try.ntmps37
      obtain ⟨x1, kf, ef, ekf, hbf, hkf, HBf⟩ := newV w #[.int .i64 4, .bool b, .slice ao l c, .string nm, .slice ko kl kc] 29
      replace HX := Lib.hid (HX.out.below hbf.out)
      replace HZ := Lib.hid (HZ.out.below hbf.out)
      replace HW := Lib.hid (HW.out.trans (hbf.out.mono HW.out.size))
      have c0 := cell_at (v := .int .i64 4) HBf.out 0 rfl
      have fc0 := froz_at HBf.out 0
      have c1 := cell_at (v := .bool b) HBf.out 1 rfl
      have fc1 := froz_at HBf.out 1
      have c2 := cell_at (v := .slice ao l c) HBf.out 2 rfl
      have fc2 := froz_at HBf.out 2
      have c3 := cell_at (v := .string nm) HBf.out 3 rfl
      have fc3 := froz_at HBf.out 3
      have c4 := cell_at (v := .slice ko kl kc) HBf.out 4 rfl
      have fc4 := froz_at HBf.out 4
      obtain ⟨x2, ky, ey, eky, hby, hky, HBy⟩ := newV x1 #[.int .i64 0, .int .i64 0] 32
      replace HBf := kBV hby.out HBf
      replace HX := Lib.hid (HX.out.below hby.out)
      replace HZ := Lib.hid (HZ.out.below hby.out)
      replace HW := Lib.hid (HW.out.trans (hby.out.mono HW.out.size))
      go_wp2_with fail
      refine (are_p _ _ ks [0, 0] (d - 1) S x2 HX.out (BL.block (ss := [0, 0]) HBy.out (by decide))).mono ?_
      rintro e x3 ⟨rfl, hb⟩
      clear c0 fc0 c1 fc1 c2 fc2 c3 fc3 c4 fc4
      replace HBf := kBV hb HBf
      replace HBy := kBV hb HBy
      replace HX := Lib.hid (HX.out.below hb)
      replace HZ := Lib.hid (HZ.out.below hb)
      replace HW := Lib.hid (HW.out.trans (hb.mono HW.out.size))
      go_wp2_with fail
      go_ret
      exact ⟨by simp [fitF, kidsOk], HW.out⟩
    · have HX := Lib.hid hk
      have HZ := Lib.hid hz
      clear hk hz
      have HW := Lib.hid (Below.refl w.heap.size w)
      go_enter Try.func37, Try.ntmps37
      obtain ⟨x1, kf, ef, ekf, hbf, hkf, HBf⟩ := newV w #[.int .i64 5, .bool b, .slice ao l c, .string nm, .slice ko kl kc] 29
      replace HX := Lib.hid (HX.out.below hbf.out)
      replace HZ := Lib.hid (HZ.out.below hbf.out)
      replace HW := Lib.hid (HW.out.trans (hbf.out.mono HW.out.size))
      have c0 := cell_at (v := .int .i64 5) HBf.out 0 rfl
      have fc0 := froz_at HBf.out 0
      have c1 := cell_at (v := .bool b) HBf.out 1 rfl
      have fc1 := froz_at HBf.out 1
      have c2 := cell_at (v := .slice ao l c) HBf.out 2 rfl
      have fc2 := froz_at HBf.out 2
      have c3 := cell_at (v := .string nm) HBf.out 3 rfl
      have fc3 := froz_at HBf.out 3
      have c4 := cell_at (v := .slice ko kl kc) HBf.out 4 rfl
      have fc4 := froz_at HBf.out 4
      go_wp2_with fail
      refine (wsign_any _ z 600 x1 HZ.out.gi (by decide)).mono ?_
      rintro e x2 ⟨rfl, hb⟩
      replace HBf := kBV hb HBf
      replace HX := Lib.hid (HX.out.below hb)
      replace HZ := Lib.hid (HZ.out.below hb)
      replace HW := Lib.hid (HW.out.trans (hb.mono HW.out.size))
      clear c0 fc0 c1 fc1 c2 fc2 c3 fc3 c4 fc4
      clear hb
      have c0 := cell_at (v := .int .i64 5) HBf.out 0 rfl
      have fc0 := froz_at HBf.out 0
      have c1 := cell_at (v := .bool b) HBf.out 1 rfl
      have fc1 := froz_at HBf.out 1
      have c2 := cell_at (v := .slice ao l c) HBf.out 2 rfl
      have fc2 := froz_at HBf.out 2
      have c3 := cell_at (v := .string nm) HBf.out 3 rfl
      have fc3 := froz_at HBf.out 3
      have c4 := cell_at (v := .slice ko kl kc) HBf.out 4 rfl
      have fc4 := froz_at HBf.out 4
      by_cases hs : z < 1
      · have hlt : decide (sgnZ z < 1) = true := by unfold sgnZ; (repeat' split) <;> first | rfl | (simp; omega) | (exfalso; omega)
        have hfit : fitF 5 z (srts ks) = false := by simp [fitF, kidsOk]; omega
        go_wp2_with fail
        go_ret
        exact ⟨by rw [hfit]; rfl, HW.out⟩
      · have hlt : decide (sgnZ z < 1) = false := by unfold sgnZ; (repeat' split) <;> first | rfl | (simp; omega) | (exfalso; omega)
        have hz1 : decide (1 ≤ z) = true := by simp; omega
        obtain ⟨x3, ky, ey, eky, hby, hky, HBy⟩ := newV x2 #[.int .i64 0] 32
        replace HBf := kBV hby.out HBf
        replace HX := Lib.hid (HX.out.below hby.out)
        replace HZ := Lib.hid (HZ.out.below hby.out)
        replace HW := Lib.hid (HW.out.trans (hby.out.mono HW.out.size))
        go_wp2_with fail
        refine (are_p _ _ ks [0] (d - 1) S x3 HX.out (BL.block (ss := [0]) HBy.out (by decide))).mono ?_
        rintro e x4 ⟨rfl, hb⟩
        clear c0 fc0 c1 fc1 c2 fc2 c3 fc3 c4 fc4
        replace HBf := kBV hb HBf
        replace HBy := kBV hb HBy
        replace HX := Lib.hid (HX.out.below hb)
        replace HZ := Lib.hid (HZ.out.below hb)
        replace HW := Lib.hid (HW.out.trans (hb.mono HW.out.size))
        go_wp2_with fail
        go_ret
        exact ⟨by simp [fitF, kidsOk, hz1], HW.out⟩
    · have HX := Lib.hid hk
      have HZ := Lib.hid hz
      clear hk hz
      have HW := Lib.hid (Below.refl w.heap.size w)
      go_enter Try.func37, Try.ntmps37
      obtain ⟨x1, kf, ef, ekf, hbf, hkf, HBf⟩ := newV w #[.int .i64 6, .bool b, .slice ao l c, .string nm, .slice ko kl kc] 29
      replace HX := Lib.hid (HX.out.below hbf.out)
      replace HZ := Lib.hid (HZ.out.below hbf.out)
      replace HW := Lib.hid (HW.out.trans (hbf.out.mono HW.out.size))
      have c0 := cell_at (v := .int .i64 6) HBf.out 0 rfl
      have fc0 := froz_at HBf.out 0
      have c1 := cell_at (v := .bool b) HBf.out 1 rfl
      have fc1 := froz_at HBf.out 1
      have c2 := cell_at (v := .slice ao l c) HBf.out 2 rfl
      have fc2 := froz_at HBf.out 2
      have c3 := cell_at (v := .string nm) HBf.out 3 rfl
      have fc3 := froz_at HBf.out 3
      have c4 := cell_at (v := .slice ko kl kc) HBf.out 4 rfl
      have fc4 := froz_at HBf.out 4
      obtain ⟨x2, ky, ey, eky, hby, hky, HBy⟩ := newV x1 #[.int .i64 2] 32
      replace HBf := kBV hby.out HBf
      replace HX := Lib.hid (HX.out.below hby.out)
      replace HZ := Lib.hid (HZ.out.below hby.out)
      replace HW := Lib.hid (HW.out.trans (hby.out.mono HW.out.size))
      go_wp2_with fail
      refine (are_p _ _ ks [2] (d - 1) S x2 HX.out (BL.block (ss := [2]) HBy.out (by decide))).mono ?_
      rintro e x3 ⟨rfl, hb⟩
      clear c0 fc0 c1 fc1 c2 fc2 c3 fc3 c4 fc4
      replace HBf := kBV hb HBf
      replace HBy := kBV hb HBy
      replace HX := Lib.hid (HX.out.below hb)
      replace HZ := Lib.hid (HZ.out.below hb)
      replace HW := Lib.hid (HW.out.trans (hb.mono HW.out.size))
      go_wp2_with fail
      go_ret
      exact ⟨by simp [fitF, kidsOk], HW.out⟩
    · have HX := Lib.hid hk
      have HZ := Lib.hid hz
      clear hk hz
      have HW := Lib.hid (Below.refl w.heap.size w)
      go_enter Try.func37, Try.ntmps37
      obtain ⟨x1, kf, ef, ekf, hbf, hkf, HBf⟩ := newV w #[.int .i64 7, .bool b, .slice ao l c, .string nm, .slice ko kl kc] 29
      replace HX := Lib.hid (HX.out.below hbf.out)
      replace HZ := Lib.hid (HZ.out.below hbf.out)
      replace HW := Lib.hid (HW.out.trans (hbf.out.mono HW.out.size))
      have c0 := cell_at (v := .int .i64 7) HBf.out 0 rfl
      have fc0 := froz_at HBf.out 0
      have c1 := cell_at (v := .bool b) HBf.out 1 rfl
      have fc1 := froz_at HBf.out 1
      have c2 := cell_at (v := .slice ao l c) HBf.out 2 rfl
      have fc2 := froz_at HBf.out 2
      have c3 := cell_at (v := .string nm) HBf.out 3 rfl
      have fc3 := froz_at HBf.out 3
      have c4 := cell_at (v := .slice ko kl kc) HBf.out 4 rfl
      have fc4 := froz_at HBf.out 4
      obtain ⟨x2, ky, ey, eky, hby, hky, HBy⟩ := newV x1 #[.int .i64 2] 32
      replace HBf := kBV hby.out HBf
      replace HX := Lib.hid (HX.out.below hby.out)
      replace HZ := Lib.hid (HZ.out.below hby.out)
      replace HW := Lib.hid (HW.out.trans (hby.out.mono HW.out.size))
      go_wp2_with fail
      refine (are_p _ _ ks [2] (d - 1) S x2 HX.out (BL.block (ss := [2]) HBy.out (by decide))).mono ?_
      rintro e x3 ⟨rfl, hb⟩
      clear c0 fc0 c1 fc1 c2 fc2 c3 fc3 c4 fc4
      replace HBf := kBV hb HBf
      replace HBy := kBV hb HBy
      replace HX := Lib.hid (HX.out.below hb)
      replace HZ := Lib.hid (HZ.out.below hb)
      replace HW := Lib.hid (HW.out.trans (hb.mono HW.out.size))
      go_wp2_with fail
      go_ret
      exact ⟨by simp [fitF, kidsOk], HW.out⟩
    · have HX := Lib.hid hk
      have HZ := Lib.hid hz
      clear hk hz
      have HW := Lib.hid (Below.refl w.heap.size w)
      go_enter Try.func37, Try.ntmps37
      obtain ⟨x1, kf, ef, ekf, hbf, hkf, HBf⟩ := newV w #[.int .i64 8, .bool b, .slice ao l c, .string nm, .slice ko kl kc] 29
      replace HX := Lib.hid (HX.out.below hbf.out)
      replace HZ := Lib.hid (HZ.out.below hbf.out)
      replace HW := Lib.hid (HW.out.trans (hbf.out.mono HW.out.size))
      have c0 := cell_at (v := .int .i64 8) HBf.out 0 rfl
      have fc0 := froz_at HBf.out 0
      have c1 := cell_at (v := .bool b) HBf.out 1 rfl
      have fc1 := froz_at HBf.out 1
      have c2 := cell_at (v := .slice ao l c) HBf.out 2 rfl
      have fc2 := froz_at HBf.out 2
      have c3 := cell_at (v := .string nm) HBf.out 3 rfl
      have fc3 := froz_at HBf.out 3
      have c4 := cell_at (v := .slice ko kl kc) HBf.out 4 rfl
      have fc4 := froz_at HBf.out 4
      go_wp2_with fail
      refine (are_p _ _ ks [] (d - 1) S x1 HX.out (BL.nil _)).mono ?_
      rintro e x2 ⟨rfl, hb⟩
      clear c0 fc0 c1 fc1 c2 fc2 c3 fc3 c4 fc4
      replace HBf := kBV hb HBf
      replace HX := Lib.hid (HX.out.below hb)
      replace HZ := Lib.hid (HZ.out.below hb)
      replace HW := Lib.hid (HW.out.trans (hb.mono HW.out.size))
      go_wp2_with fail
      go_ret
      exact ⟨by simp [fitF, kidsOk], HW.out⟩
    · have HX := Lib.hid hk
      have HZ := Lib.hid hz
      clear hk hz
      have HW := Lib.hid (Below.refl w.heap.size w)
      go_enter Try.func37, Try.ntmps37
      obtain ⟨x1, kf, ef, ekf, hbf, hkf, HBf⟩ := newV w #[.int .i64 9, .bool b, .slice ao l c, .string nm, .slice ko kl kc] 29
      replace HX := Lib.hid (HX.out.below hbf.out)
      replace HZ := Lib.hid (HZ.out.below hbf.out)
      replace HW := Lib.hid (HW.out.trans (hbf.out.mono HW.out.size))
      have c0 := cell_at (v := .int .i64 9) HBf.out 0 rfl
      have fc0 := froz_at HBf.out 0
      have c1 := cell_at (v := .bool b) HBf.out 1 rfl
      have fc1 := froz_at HBf.out 1
      have c2 := cell_at (v := .slice ao l c) HBf.out 2 rfl
      have fc2 := froz_at HBf.out 2
      have c3 := cell_at (v := .string nm) HBf.out 3 rfl
      have fc3 := froz_at HBf.out 3
      have c4 := cell_at (v := .slice ko kl kc) HBf.out 4 rfl
      have fc4 := froz_at HBf.out 4
      go_wp2_with fail
      refine (are_p _ _ ks [] (d - 1) S x1 HX.out (BL.nil _)).mono ?_
      rintro e x2 ⟨rfl, hb⟩
      clear c0 fc0 c1 fc1 c2 fc2 c3 fc3 c4 fc4
      replace HBf := kBV hb HBf
      replace HX := Lib.hid (HX.out.below hb)
      replace HZ := Lib.hid (HZ.out.below hb)
      replace HW := Lib.hid (HW.out.trans (hb.mono HW.out.size))
      go_wp2_with fail
      go_ret
      exact ⟨by simp [fitF, kidsOk], HW.out⟩
    · have HX := Lib.hid hk
      have HZ := Lib.hid hz
      clear hk hz
      have HW := Lib.hid (Below.refl w.heap.size w)
      go_enter Try.func37, Try.ntmps37
      obtain ⟨x1, kf, ef, ekf, hbf, hkf, HBf⟩ := newV w #[.int .i64 10, .bool b, .slice ao l c, .string nm, .slice ko kl kc] 29
      replace HX := Lib.hid (HX.out.below hbf.out)
      replace HZ := Lib.hid (HZ.out.below hbf.out)
      replace HW := Lib.hid (HW.out.trans (hbf.out.mono HW.out.size))
      have c0 := cell_at (v := .int .i64 10) HBf.out 0 rfl
      have fc0 := froz_at HBf.out 0
      have c1 := cell_at (v := .bool b) HBf.out 1 rfl
      have fc1 := froz_at HBf.out 1
      have c2 := cell_at (v := .slice ao l c) HBf.out 2 rfl
      have fc2 := froz_at HBf.out 2
      have c3 := cell_at (v := .string nm) HBf.out 3 rfl
      have fc3 := froz_at HBf.out 3
      have c4 := cell_at (v := .slice ko kl kc) HBf.out 4 rfl
      have fc4 := froz_at HBf.out 4
      obtain ⟨x2, ky, ey, eky, hby, hky, HBy⟩ := newV x1 #[.int .i64 0, .int .i64 2] 32
      replace HBf := kBV hby.out HBf
      replace HX := Lib.hid (HX.out.below hby.out)
      replace HZ := Lib.hid (HZ.out.below hby.out)
      replace HW := Lib.hid (HW.out.trans (hby.out.mono HW.out.size))
      go_wp2_with fail
      refine (are_p _ _ ks [0, 2] (d - 1) S x2 HX.out (BL.block (ss := [0, 2]) HBy.out (by decide))).mono ?_
      rintro e x3 ⟨rfl, hb⟩
      clear c0 fc0 c1 fc1 c2 fc2 c3 fc3 c4 fc4
      replace HBf := kBV hb HBf
      replace HBy := kBV hb HBy
      replace HX := Lib.hid (HX.out.below hb)
      replace HZ := Lib.hid (HZ.out.below hb)
      replace HW := Lib.hid (HW.out.trans (hb.mono HW.out.size))
      go_wp2_with fail
      go_ret
      exact ⟨by simp [fitF, kidsOk], HW.out⟩
    · have HX := Lib.hid hk
      have HZ := Lib.hid hz
      clear hk hz
      have HW := Lib.hid (Below.refl w.heap.size w)
      go_enter Try.func37, Try.ntmps37
      obtain ⟨x1, kf, ef, ekf, hbf, hkf, HBf⟩ := newV w #[.int .i64 11, .bool b, .slice ao l c, .string nm, .slice ko kl kc] 29
      replace HX := Lib.hid (HX.out.below hbf.out)
      replace HZ := Lib.hid (HZ.out.below hbf.out)
      replace HW := Lib.hid (HW.out.trans (hbf.out.mono HW.out.size))
      have c0 := cell_at (v := .int .i64 11) HBf.out 0 rfl
      have fc0 := froz_at HBf.out 0
      have c1 := cell_at (v := .bool b) HBf.out 1 rfl
      have fc1 := froz_at HBf.out 1
      have c2 := cell_at (v := .slice ao l c) HBf.out 2 rfl
      have fc2 := froz_at HBf.out 2
      have c3 := cell_at (v := .string nm) HBf.out 3 rfl
      have fc3 := froz_at HBf.out 3
      have c4 := cell_at (v := .slice ko kl kc) HBf.out 4 rfl
      have fc4 := froz_at HBf.out 4
      obtain ⟨x2, ky, ey, eky, hby, hky, HBy⟩ := newV x1 #[.int .i64 2] 32
      replace HBf := kBV hby.out HBf
      replace HX := Lib.hid (HX.out.below hby.out)
      replace HZ := Lib.hid (HZ.out.below hby.out)
      replace HW := Lib.hid (HW.out.trans (hby.out.mono HW.out.size))
      go_wp2_with fail
      refine (are_p _ _ ks [2] (d - 1) S x2 HX.out (BL.block (ss := [2]) HBy.out (by decide))).mono ?_
      rintro e x3 ⟨rfl, hb⟩
      clear c0 fc0 c1 fc1 c2 fc2 c3 fc3 c4 fc4
      replace HBf := kBV hb HBf
      replace HBy := kBV hb HBy
      replace HX := Lib.hid (HX.out.below hb)
      replace HZ := Lib.hid (HZ.out.below hb)
      replace HW := Lib.hid (HW.out.trans (hb.mono HW.out.size))
      go_wp2_with fail
      go_ret
      exact ⟨by simp [fitF, kidsOk], HW.out⟩
    · have HX := Lib.hid hk
      have HZ := Lib.hid hz
      clear hk hz
      have HW := Lib.hid (Below.refl w.heap.size w)
      go_enter Try.func37, Try.ntmps37
      obtain ⟨x1, kf, ef, ekf, hbf, hkf, HBf⟩ := newV w #[.int .i64 12, .bool b, .slice ao l c, .string nm, .slice ko kl kc] 29
      replace HX := Lib.hid (HX.out.below hbf.out)
      replace HZ := Lib.hid (HZ.out.below hbf.out)
      replace HW := Lib.hid (HW.out.trans (hbf.out.mono HW.out.size))
      have c0 := cell_at (v := .int .i64 12) HBf.out 0 rfl
      have fc0 := froz_at HBf.out 0
      have c1 := cell_at (v := .bool b) HBf.out 1 rfl
      have fc1 := froz_at HBf.out 1
      have c2 := cell_at (v := .slice ao l c) HBf.out 2 rfl
      have fc2 := froz_at HBf.out 2
      have c3 := cell_at (v := .string nm) HBf.out 3 rfl
      have fc3 := froz_at HBf.out 3
      have c4 := cell_at (v := .slice ko kl kc) HBf.out 4 rfl
      have fc4 := froz_at HBf.out 4
      go_wp2_with fail
      refine (are_p _ _ ks [] (d - 1) S x1 HX.out (BL.nil _)).mono ?_
      rintro e x2 ⟨rfl, hb⟩
      clear c0 fc0 c1 fc1 c2 fc2 c3 fc3 c4 fc4
      replace HBf := kBV hb HBf
      replace HX := Lib.hid (HX.out.below hb)
      replace HZ := Lib.hid (HZ.out.below hb)
      replace HW := Lib.hid (HW.out.trans (hb.mono HW.out.size))
      go_wp2_with fail
      go_ret
      exact ⟨by simp [fitF, kidsOk], HW.out⟩
    · have HX := Lib.hid hk
      have HZ := Lib.hid hz
      clear hk hz
      have HW := Lib.hid (Below.refl w.heap.size w)
      go_enter Try.func37, Try.ntmps37
      obtain ⟨x1, kf, ef, ekf, hbf, hkf, HBf⟩ := newV w #[.int .i64 13, .bool b, .slice ao l c, .string nm, .slice ko kl kc] 29
      replace HX := Lib.hid (HX.out.below hbf.out)
      replace HZ := Lib.hid (HZ.out.below hbf.out)
      replace HW := Lib.hid (HW.out.trans (hbf.out.mono HW.out.size))
      have c0 := cell_at (v := .int .i64 13) HBf.out 0 rfl
      have fc0 := froz_at HBf.out 0
      have c1 := cell_at (v := .bool b) HBf.out 1 rfl
      have fc1 := froz_at HBf.out 1
      have c2 := cell_at (v := .slice ao l c) HBf.out 2 rfl
      have fc2 := froz_at HBf.out 2
      have c3 := cell_at (v := .string nm) HBf.out 3 rfl
      have fc3 := froz_at HBf.out 3
      have c4 := cell_at (v := .slice ko kl kc) HBf.out 4 rfl
      have fc4 := froz_at HBf.out 4
      go_wp2_with fail
      refine (are_p _ _ ks [] (d - 1) S x1 HX.out (BL.nil _)).mono ?_
      rintro e x2 ⟨rfl, hb⟩
      clear c0 fc0 c1 fc1 c2 fc2 c3 fc3 c4 fc4
      replace HBf := kBV hb HBf
      replace HX := Lib.hid (HX.out.below hb)
      replace HZ := Lib.hid (HZ.out.below hb)
      replace HW := Lib.hid (HW.out.trans (hb.mono HW.out.size))
      go_wp2_with fail
      go_ret
      exact ⟨by simp [fitF, kidsOk], HW.out⟩
    · have HX := Lib.hid hk
      have HZ := Lib.hid hz
      clear hk hz
      have HW := Lib.hid (Below.refl w.heap.size w)
      go_enter Try.func37, Try.ntmps37
      obtain ⟨x1, kf, ef, ekf, hbf, hkf, HBf⟩ := newV w #[.int .i64 14, .bool b, .slice ao l c, .string nm, .slice ko kl kc] 29
      replace HX := Lib.hid (HX.out.below hbf.out)
      replace HZ := Lib.hid (HZ.out.below hbf.out)
      replace HW := Lib.hid (HW.out.trans (hbf.out.mono HW.out.size))
      have c0 := cell_at (v := .int .i64 14) HBf.out 0 rfl
      have fc0 := froz_at HBf.out 0
      have c1 := cell_at (v := .bool b) HBf.out 1 rfl
      have fc1 := froz_at HBf.out 1
      have c2 := cell_at (v := .slice ao l c) HBf.out 2 rfl
      have fc2 := froz_at HBf.out 2
      have c3 := cell_at (v := .string nm) HBf.out 3 rfl
      have fc3 := froz_at HBf.out 3
      have c4 := cell_at (v := .slice ko kl kc) HBf.out 4 rfl
      have fc4 := froz_at HBf.out 4
      go_wp2_with fail
      refine (are_p _ _ ks [] (d - 1) S x1 HX.out (BL.nil _)).mono ?_
      rintro e x2 ⟨rfl, hb⟩
      clear c0 fc0 c1 fc1 c2 fc2 c3 fc3 c4 fc4
      replace HBf := kBV hb HBf
      replace HX := Lib.hid (HX.out.below hb)
      replace HZ := Lib.hid (HZ.out.below hb)
      replace HW := Lib.hid (HW.out.trans (hb.mono HW.out.size))
      go_wp2_with fail
      go_ret
      exact ⟨by simp [fitF, kidsOk], HW.out⟩
    · have HX := Lib.hid hk
      have HZ := Lib.hid hz
      clear hk hz
      have HW := Lib.hid (Below.refl w.heap.size w)
      go_enter Try.func37, Try.ntmps37
      obtain ⟨x1, kf, ef, ekf, hbf, hkf, HBf⟩ := newV w #[.int .i64 15, .bool b, .slice ao l c, .string nm, .slice ko kl kc] 29
      replace HX := Lib.hid (HX.out.below hbf.out)
      replace HZ := Lib.hid (HZ.out.below hbf.out)
      replace HW := Lib.hid (HW.out.trans (hbf.out.mono HW.out.size))
      have c0 := cell_at (v := .int .i64 15) HBf.out 0 rfl
      have fc0 := froz_at HBf.out 0
      have c1 := cell_at (v := .bool b) HBf.out 1 rfl
      have fc1 := froz_at HBf.out 1
      have c2 := cell_at (v := .slice ao l c) HBf.out 2 rfl
      have fc2 := froz_at HBf.out 2
      have c3 := cell_at (v := .string nm) HBf.out 3 rfl
      have fc3 := froz_at HBf.out 3
      have c4 := cell_at (v := .slice ko kl kc) HBf.out 4 rfl
      have fc4 := froz_at HBf.out 4
      obtain ⟨x2, ky, ey, eky, hby, hky, HBy⟩ := newV x1 #[.int .i64 0, .int .i64 0] 32
      replace HBf := kBV hby.out HBf
      replace HX := Lib.hid (HX.out.below hby.out)
      replace HZ := Lib.hid (HZ.out.below hby.out)
      replace HW := Lib.hid (HW.out.trans (hby.out.mono HW.out.size))
      go_wp2_with fail
      refine (are_p _ _ ks [0, 0] (d - 1) S x2 HX.out (BL.block (ss := [0, 0]) HBy.out (by decide))).mono ?_
      rintro e x3 ⟨rfl, hb⟩
      clear c0 fc0 c1 fc1 c2 fc2 c3 fc3 c4 fc4
      replace HBf := kBV hb HBf
      replace HBy := kBV hb HBy
      replace HX := Lib.hid (HX.out.below hb)
      replace HZ := Lib.hid (HZ.out.below hb)
      replace HW := Lib.hid (HW.out.trans (hb.mono HW.out.size))
      go_wp2_with fail
      go_ret
      exact ⟨by simp [fitF, kidsOk], HW.out⟩
    · have HX := Lib.hid hk
      have HZ := Lib.hid hz
      clear hk hz
      have HW := Lib.hid (Below.refl w.heap.size w)
      go_enter Try.func37, Try.ntmps37
      obtain ⟨x1, kf, ef, ekf, hbf, hkf, HBf⟩ := newV w #[.int .i64 16, .bool b, .slice ao l c, .string nm, .slice ko kl kc] 29
      replace HX := Lib.hid (HX.out.below hbf.out)
      replace HZ := Lib.hid (HZ.out.below hbf.out)
      replace HW := Lib.hid (HW.out.trans (hbf.out.mono HW.out.size))
      have c0 := cell_at (v := .int .i64 16) HBf.out 0 rfl
      have fc0 := froz_at HBf.out 0
      have c1 := cell_at (v := .bool b) HBf.out 1 rfl
      have fc1 := froz_at HBf.out 1
      have c2 := cell_at (v := .slice ao l c) HBf.out 2 rfl
      have fc2 := froz_at HBf.out 2
      have c3 := cell_at (v := .string nm) HBf.out 3 rfl
      have fc3 := froz_at HBf.out 3
      have c4 := cell_at (v := .slice ko kl kc) HBf.out 4 rfl
      have fc4 := froz_at HBf.out 4
      obtain ⟨x2, ky, ey, eky, hby, hky, HBy⟩ := newV x1 #[.int .i64 0, .int .i64 0] 32
      replace HBf := kBV hby.out HBf
      replace HX := Lib.hid (HX.out.below hby.out)
      replace HZ := Lib.hid (HZ.out.below hby.out)
      replace HW := Lib.hid (HW.out.trans (hby.out.mono HW.out.size))
      go_wp2_with fail
      refine (are_p _ _ ks [0, 0] (d - 1) S x2 HX.out (BL.block (ss := [0, 0]) HBy.out (by decide))).mono ?_
      rintro e x3 ⟨rfl, hb⟩
      clear c0 fc0 c1 fc1 c2 fc2 c3 fc3 c4 fc4
      replace HBf := kBV hb HBf
      replace HBy := kBV hb HBy
      replace HX := Lib.hid (HX.out.below hb)
      replace HZ := Lib.hid (HZ.out.below hb)
      replace HW := Lib.hid (HW.out.trans (hb.mono HW.out.size))
      have c0 := cell_at (v := .int .i64 16) HBf.out 0 rfl
      have fc0 := froz_at HBf.out 0
      have c1 := cell_at (v := .bool b) HBf.out 1 rfl
      have fc1 := froz_at HBf.out 1
      have c2 := cell_at (v := .slice ao l c) HBf.out 2 rfl
      have fc2 := froz_at HBf.out 2
      have c3 := cell_at (v := .string nm) HBf.out 3 rfl
      have fc3 := froz_at HBf.out 3
      have c4 := cell_at (v := .slice ko kl kc) HBf.out 4 rfl
      have fc4 := froz_at HBf.out 4
      by_cases hs : srts ks = [0, 0]
      · rw [decide_eq_true hs]
        go_wp2_with fail
        go_ret
        exact ⟨by simp [fitF, kidsOk, hs], HW.out⟩
      · rw [decide_eq_false hs]
        obtain ⟨x4, kt, et, ekt, hbt, hkt, HBt⟩ := newV x3 #[.int .i64 2, .int .i64 2] 32
        replace HBf := kBV hbt.out HBf
        replace HBy := kBV hbt.out HBy
        replace HX := Lib.hid (HX.out.below hbt.out)
        replace HZ := Lib.hid (HZ.out.below hbt.out)
        replace HW := Lib.hid (HW.out.trans (hbt.out.mono HW.out.size))
        go_wp2_with fail
        refine (are_p _ _ ks [2, 2] (d - 1) S x4 HX.out (BL.block (ss := [2, 2]) HBt.out (by decide))).mono ?_
        rintro e x5 ⟨rfl, hb⟩
        clear c0 fc0 c1 fc1 c2 fc2 c3 fc3 c4 fc4
        replace HBf := kBV hb HBf
        replace HBy := kBV hb HBy
        replace HBt := kBV hb HBt
        replace HX := Lib.hid (HX.out.below hb)
        replace HZ := Lib.hid (HZ.out.below hb)
        replace HW := Lib.hid (HW.out.trans (hb.mono HW.out.size))
        go_wp2_with fail
        go_ret
        exact ⟨by simp [fitF, kidsOk, hs], HW.out⟩
    · have HX := Lib.hid hk
      have HZ := Lib.hid hz
      clear hk hz
      have HW := Lib.hid (Below.refl w.heap.size w)
      go_enter Try.func37, Try.ntmps37
      obtain ⟨x1, kf, ef, ekf, hbf, hkf, HBf⟩ := newV w #[.int .i64 17, .bool b, .slice ao l c, .string nm, .slice ko kl kc] 29
      replace HX := Lib.hid (HX.out.below hbf.out)
      replace HZ := Lib.hid (HZ.out.below hbf.out)
      replace HW := Lib.hid (HW.out.trans (hbf.out.mono HW.out.size))
      have c0 := cell_at (v := .int .i64 17) HBf.out 0 rfl
      have fc0 := froz_at HBf.out 0
      have c1 := cell_at (v := .bool b) HBf.out 1 rfl
      have fc1 := froz_at HBf.out 1
      have c2 := cell_at (v := .slice ao l c) HBf.out 2 rfl
      have fc2 := froz_at HBf.out 2
      have c3 := cell_at (v := .string nm) HBf.out 3 rfl
      have fc3 := froz_at HBf.out 3
      have c4 := cell_at (v := .slice ko kl kc) HBf.out 4 rfl
      have fc4 := froz_at HBf.out 4
      obtain ⟨x2, ky, ey, eky, hby, hky, HBy⟩ := newV x1 #[.int .i64 1] 32
      replace HBf := kBV hby.out HBf
      replace HX := Lib.hid (HX.out.below hby.out)
      replace HZ := Lib.hid (HZ.out.below hby.out)
      replace HW := Lib.hid (HW.out.trans (hby.out.mono HW.out.size))
      go_wp2_with fail
      refine (are_p _ _ ks [1] (d - 1) S x2 HX.out (BL.block (ss := [1]) HBy.out (by decide))).mono ?_
      rintro e x3 ⟨rfl, hb⟩
      clear c0 fc0 c1 fc1 c2 fc2 c3 fc3 c4 fc4
      replace HBf := kBV hb HBf
      replace HBy := kBV hb HBy
      replace HX := Lib.hid (HX.out.below hb)
      replace HZ := Lib.hid (HZ.out.below hb)
      replace HW := Lib.hid (HW.out.trans (hb.mono HW.out.size))
      go_wp2_with fail
      go_ret
      exact ⟨by simp [fitF, kidsOk], HW.out⟩
    · have HX := Lib.hid hk
      have HZ := Lib.hid hz
      clear hk hz
      have HW := Lib.hid (Below.refl w.heap.size w)
      go_enter Try.func37, Try.ntmps37
      obtain ⟨x1, kf, ef, ekf, hbf, hkf, HBf⟩ := newV w #[.int .i64 18, .bool b, .slice ao l c, .string nm, .slice ko kl kc] 29
      replace HX := Lib.hid (HX.out.below hbf.out)
      replace HZ := Lib.hid (HZ.out.below hbf.out)
      replace HW := Lib.hid (HW.out.trans (hbf.out.mono HW.out.size))
      have c0 := cell_at (v := .int .i64 18) HBf.out 0 rfl
      have fc0 := froz_at HBf.out 0
      have c1 := cell_at (v := .bool b) HBf.out 1 rfl
      have fc1 := froz_at HBf.out 1
      have c2 := cell_at (v := .slice ao l c) HBf.out 2 rfl
      have fc2 := froz_at HBf.out 2
      have c3 := cell_at (v := .string nm) HBf.out 3 rfl
      have fc3 := froz_at HBf.out 3
      have c4 := cell_at (v := .slice ko kl kc) HBf.out 4 rfl
      have fc4 := froz_at HBf.out 4
      go_wp2_with fail
      refine (areAll_p _ 1 ks (d - 1) S x1 HX.out).mono ?_
      rintro e x2 ⟨rfl, hb⟩
      clear c0 fc0 c1 fc1 c2 fc2 c3 fc3 c4 fc4
      replace HBf := kBV hb HBf
      replace HX := Lib.hid (HX.out.below hb)
      replace HZ := Lib.hid (HZ.out.below hb)
      replace HW := Lib.hid (HW.out.trans (hb.mono HW.out.size))
      go_wp2_with fail
      go_ret
      exact ⟨by simp [fitF, kidsOk], HW.out⟩
    · have HX := Lib.hid hk
      have HZ := Lib.hid hz
      clear hk hz
      have HW := Lib.hid (Below.refl w.heap.size w)
      go_enter Try.func37, Try.ntmps37
      obtain ⟨x1, kf, ef, ekf, hbf, hkf, HBf⟩ := newV w #[.int .i64 19, .bool b, .slice ao l c, .string nm, .slice ko kl kc] 29
      replace HX := Lib.hid (HX.out.below hbf.out)
      replace HZ := Lib.hid (HZ.out.below hbf.out)
      replace HW := Lib.hid (HW.out.trans (hbf.out.mono HW.out.size))
      have c0 := cell_at (v := .int .i64 19) HBf.out 0 rfl
      have fc0 := froz_at HBf.out 0
      have c1 := cell_at (v := .bool b) HBf.out 1 rfl
      have fc1 := froz_at HBf.out 1
      have c2 := cell_at (v := .slice ao l c) HBf.out 2 rfl
      have fc2 := froz_at HBf.out 2
      have c3 := cell_at (v := .string nm) HBf.out 3 rfl
      have fc3 := froz_at HBf.out 3
      have c4 := cell_at (v := .slice ko kl kc) HBf.out 4 rfl
      have fc4 := froz_at HBf.out 4
      go_wp2_with fail
      refine (areAll_p _ 1 ks (d - 1) S x1 HX.out).mono ?_
      rintro e x2 ⟨rfl, hb⟩
      clear c0 fc0 c1 fc1 c2 fc2 c3 fc3 c4 fc4
      replace HBf := kBV hb HBf
      replace HX := Lib.hid (HX.out.below hb)
      replace HZ := Lib.hid (HZ.out.below hb)
      replace HW := Lib.hid (HW.out.trans (hb.mono HW.out.size))
      go_wp2_with fail
      go_ret
      exact ⟨by simp [fitF, kidsOk], HW.out⟩
    · have HX := Lib.hid hk
      have HZ := Lib.hid hz
      clear hk hz
      have HW := Lib.hid (Below.refl w.heap.size w)
      go_enter Try.func37, Try.ntmps37
      obtain ⟨x1, kf, ef, ekf, hbf, hkf, HBf⟩ := newV w #[.int .i64 20, .bool b, .slice ao l c, .string nm, .slice ko kl kc] 29
      replace HX := Lib.hid (HX.out.below hbf.out)
      replace HZ := Lib.hid (HZ.out.below hbf.out)
      replace HW := Lib.hid (HW.out.trans (hbf.out.mono HW.out.size))
      have c0 := cell_at (v := .int .i64 20) HBf.out 0 rfl
      have fc0 := froz_at HBf.out 0
      have c1 := cell_at (v := .bool b) HBf.out 1 rfl
      have fc1 := froz_at HBf.out 1
      have c2 := cell_at (v := .slice ao l c) HBf.out 2 rfl
      have fc2 := froz_at HBf.out 2
      have c3 := cell_at (v := .string nm) HBf.out 3 rfl
      have fc3 := froz_at HBf.out 3
      have c4 := cell_at (v := .slice ko kl kc) HBf.out 4 rfl
      have fc4 := froz_at HBf.out 4
      obtain ⟨x2, ky, ey, eky, hby, hky, HBy⟩ := newV x1 #[.int .i64 1, .int .i64 1] 32
      replace HBf := kBV hby.out HBf
      replace HX := Lib.hid (HX.out.below hby.out)
      replace HZ := Lib.hid (HZ.out.below hby.out)
      replace HW := Lib.hid (HW.out.trans (hby.out.mono HW.out.size))
      go_wp2_with fail
      refine (are_p _ _ ks [1, 1] (d - 1) S x2 HX.out (BL.block (ss := [1, 1]) HBy.out (by decide))).mono ?_
      rintro e x3 ⟨rfl, hb⟩
      clear c0 fc0 c1 fc1 c2 fc2 c3 fc3 c4 fc4
      replace HBf := kBV hb HBf
      replace HBy := kBV hb HBy
      replace HX := Lib.hid (HX.out.below hb)
      replace HZ := Lib.hid (HZ.out.below hb)
      replace HW := Lib.hid (HW.out.trans (hb.mono HW.out.size))
      go_wp2_with fail
      go_ret
      exact ⟨by simp [fitF, kidsOk], HW.out⟩
  · have n0 : (o == 0) = false := beq_eq_false_iff_ne.2 (by omega)
    have n1 : (o == 1) = false := beq_eq_false_iff_ne.2 (by omega)
    have n2 : (o == 2) = false := beq_eq_false_iff_ne.2 (by omega)
    have n3 : (o == 3) = false := beq_eq_false_iff_ne.2 (by omega)
    have n4 : (o == 4) = false := beq_eq_false_iff_ne.2 (by omega)
    have n5 : (o == 5) = false := beq_eq_false_iff_ne.2 (by omega)
    have n6 : (o == 6) = false := beq_eq_false_iff_ne.2 (by omega)
    have n7 : (o == 7) = false := beq_eq_false_iff_ne.2 (by omega)
    have n8 : (o == 8) = false := beq_eq_false_iff_ne.2 (by omega)
    have n9 : (o == 9) = false := beq_eq_false_iff_ne.2 (by omega)
    have n10 : (o == 10) = false := beq_eq_false_iff_ne.2 (by omega)
    have n11 : (o == 11) = false := beq_eq_false_iff_ne.2 (by omega)
    have n12 : (o == 12) = false := beq_eq_false_iff_ne.2 (by omega)
    have n13 : (o == 13) = false := beq_eq_false_iff_ne.2 (by omega)
    have n14 : (o == 14) = false := beq_eq_false_iff_ne.2 (by omega)
    have n15 : (o == 15) = false := beq_eq_false_iff_ne.2 (by omega)
    have n16 : (o == 16) = false := beq_eq_false_iff_ne.2 (by omega)
    have n17 : (o == 17) = false := beq_eq_false_iff_ne.2 (by omega)
    have n18 : (o == 18) = false := beq_eq_false_iff_ne.2 (by omega)
    have n19 : (o == 19) = false := beq_eq_false_iff_ne.2 (by omega)
    have n20 : (o == 20) = false := beq_eq_false_iff_ne.2 (by omega)
    have hf : fitF o z (srts ks) = false := by
      unfold fitF kidsOk
      rw [if_neg (by omega), if_neg (by omega), if_neg (by omega), if_neg (by omega), if_neg (by omega), if_neg (by omega), if_neg (by omega), if_neg (by omega), if_neg (by omega)]
      rfl
    clear h
    have HW := Lib.hid ((Below.refl w.heap.size w).alloc (Nat.le_refl _) (.cells #[.int .i64 o, .bool b, .slice ao l c, .string nm, .slice ko kl kc] 29))
    clear hk hz
    go_enter Try.func37, Try.ntmps37
    go_wp2_with fail
    go_ret
    exact ⟨by rw [hf]; rfl, HW.out⟩
theorem canon_p (v : Value) (z : Int) (k : Nat) (w : World) (h : CI w v z k) :
    Calls Try.prog 38 #[v] w fun e w' => e = .returned (.bool true) ∧ Below w.heap.size w w' := by
  obtain ⟨va, rfl, h1, -⟩ := h
  obtain ⟨ao, cap, rfl, h2, h3, h4, h5⟩ := h1
  by_cases h0 : z = 0
  · subst h0
    have e0 : (dig L32 (Int.natAbs 0)).length = 0 := by rw [Int.natAbs_zero, dig_zero]; rfl
    rw [e0] at h2 ⊢
    rw [show decide ((0 : Int) < 0) = false from rfl]
    have HW := Lib.hid ((Below.refl w.heap.size w).alloc (Nat.le_refl _) (.cells #[.bool false, .slice ao 0 cap] 26))
    clear h5
    go_enter Try.func38, Try.ntmps38
    go_wp2_with fail
    go_ret
    exact ⟨rfl, HW.out⟩
  · have hp : 0 < (dig L32 z.natAbs).length := dig_len_pos (by omega)
    have hl := dig_last (B := L32) (by decide) hp
    obtain ⟨a, rfl, hc⟩ := h5 ((dig L32 z.natAbs).length - 1) (by omega)
    clear h5
    have hl2 : nth (dig L32 z.natAbs) ((dig L32 z.natAbs).length - 1) ≠ 0 := by unfold nth; simpa using hl
    clear hl
    generalize nth (dig L32 z.natAbs) ((dig L32 z.natAbs).length - 1) = x at hc hl2
    generalize (dig L32 z.natAbs).length = n at *
    generalize decide (z < 0) = sg at *
    have hne : (x != 0) = true := by rw [bne_iff_ne]; omega
    have hn0 : (((n : Nat) : Int) == 0) = false := beq_eq_false_iff_ne.2 (by omega)
    have hcap : cap ≤ 9223372036854775807 := h3
    have hb := (Below.refl w.heap.size w).alloc (Nat.le_refl _) (.cells #[.bool sg, .slice (some a) n cap] 26)
    have HW := Lib.hid hb
    rw [← hb.cell (World.block_lt_of_cell? w _ hc)] at hc
    clear hl2 hb h0
    have hsub : ((n : Nat) : Int) - 1 = ((n - 1 : Nat) : Int) := by omega
    go_enter Try.func38, Try.ntmps38
    go_wp2_with fail
    go_ret
    exact ⟨rfl, HW.out⟩
end Go.Proofs.Ytinfbmnimkcdjaa
