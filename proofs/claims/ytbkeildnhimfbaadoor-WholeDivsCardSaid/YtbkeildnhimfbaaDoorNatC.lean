/-
  Contracts of package nat: Cmp.
-/
import Derived.Test.YtbkeildnhimfbaaDoorNatB
import Derived.Deep.QuietTactic
import Derived.BigQuiet
namespace Go.Proofs.YtbkeildnhimfbaaDoor
open Go.RowKit
set_option maxRecDepth 100000

theorem cmpN_lt {a b : Nat} (h : a < b) : cmpN a b = -1 := by unfold cmpN; rw [if_pos h]
theorem cmpN_gt {a b : Nat} (h : b < a) : cmpN a b = 1 := by unfold cmpN; rw [if_neg (by omega), if_neg (by omega)]
theorem cmpN_eq {a b : Nat} (h : a = b) : cmpN a b = 0 := by unfold cmpN; rw [if_neg (by omega), if_pos h]

theorem below_drewN' (w : World) (n : Nat) (B : Nat) : Below B w (w.drewN n) := ⟨rfl, rfl, rfl, Nat.le_refl _, fun _ _ => rfl⟩

/-- A callee that leaves the world as it is, called in a region behind draws that have been counted up. -/
theorem calm_behind {P : Program} {f : FuncId} {args : Array Value} {w : World} {a b : Nat} {v : Value} (h : ∀ W : World, Calls P f args W fun e w' => e = .returned v ∧ w' = W) :
    Calls P f args (w.drewN (a + b)) fun e w' => e = .returned v ∧ ∃ m, w' = w.drewN (a + m) :=
  (h (w.drewN (a + b))).mono fun _ _ hh => ⟨hh.1, b, hh.2⟩

theorem order_t (w : World) : Calls Tryd.prog 68 #[.bool true] w fun e w' => e = .returned (.int .i64 (-1)) ∧ w' = w := by
  go_enter Tryd.func68, Tryd.ntmps68
  go_wp2
  go_ret
  exact ⟨rfl, rfl⟩
theorem order_f (w : World) : Calls Tryd.prog 68 #[.bool false] w fun e w' => e = .returned (.int .i64 1) ∧ w' = w := by
  go_enter Tryd.func68, Tryd.ntmps68
  go_wp2
  go_ret
  exact ⟨rfl, rfl⟩

set_option maxHeartbeats 1000000 in
theorem cmp_any (va vb : Value) (xs ys : List Nat) (w : World) (hx : Sl w .u32 va xs) (hy : Sl w .u32 vb ys) (dx : Dig L32 xs) (dy : Dig L32 ys) :
    Calls Tryd.prog 47 #[va, vb] w fun e w' => e = .returned (.int .i64 (cmpN (val L32 xs) (val L32 ys))) ∧ Below w.heap.size w w' := by
  have HX := Lib.hid hx
  have HY := Lib.hid hy
  obtain ⟨ao, ac, rfl, a1, a2, a3, a4⟩ := hx
  obtain ⟨bo, bc, rfl, b1, b2, b3, b4⟩ := hy
  have nx := nz_le xs
  have ny := nz_le ys
  by_cases hne : nz xs = nz ys
  · have hne' : (((nz xs : Nat) : Int) != ((nz ys : Nat) : Int)) = false := by simp [hne]
    have HN := Lib.hid hne
    clear hne
    have hny : nz xs ≤ nz ys ∧ nz ys ≤ nz xs := by have := HN.out; omega
    go_enter Tryd.func47, Tryd.ntmps47
    go_wp2_with fail
    refine (sig_any _ _ _ xs _ HX.out).mono ?_; rintro e w' ⟨rfl, rfl⟩
    go_wp2_with fail
    refine (sig_any _ _ _ ys _ HY.out).mono ?_; rintro e w' ⟨rfl, rfl⟩
    go_wp2_with fail
    go_loopw [5] (fun i wr => ∃ k : Nat, k ≤ nz xs ∧ i = .int .i64 ((k : Int) - 1) ∧ Hid ((xs.take (nz xs)).drop k = (ys.take (nz ys)).drop k) ∧ Below w.heap.size w wr) (fun i _ => (intOf i + 1).toNat)
    case atStart => exact ⟨nz xs, Nat.le_refl _, rfl, Lib.hid (by rw [HN.out, List.drop_eq_nil_of_le (by simp; omega), List.drop_eq_nil_of_le (by simp; omega)]), Below.refl _ _⟩
    case round =>
      obtain ⟨k, hk, rfl, HD, hb⟩ := hrel
      by_cases h0 : 0 < k
      · obtain ⟨a, rfl, hca⟩ := a4 (k - 1) (by omega)
        obtain ⟨b, rfl, hcb⟩ := b4 (k - 1) (by omega)
        have hca' : wr.cell? (a.add (k - 1)) = some (.int .u32 (nth xs (k - 1))) := by rw [hb.cell (cell_lt hca)]; exact hca
        have hcb' : wr.cell? (b.add (k - 1)) = some (.int .u32 (nth ys (k - 1))) := by rw [hb.cell (cell_lt hcb)]; exact hcb
        have gx : (xs.take (nz xs)).getD (k - 1) 0 = xs.getD (k - 1) 0 := by simp [List.getD, show k - 1 < nz xs by omega]
        have gy : (ys.take (nz ys)).getD (k - 1) 0 = ys.getD (k - 1) 0 := by simp [List.getD, show k - 1 < nz ys by omega]
        have lx : (xs.take (nz xs)).length = nz xs := by simp; omega
        have ly : (ys.take (nz ys)).length = nz ys := by simp; omega
        have HD' : Hid ((xs.take (nz xs)).drop (k - 1 + 1) = (ys.take (nz ys)).drop (k - 1 + 1)) := Lib.hid (by rw [show k - 1 + 1 = k by omega]; exact HD.out)
        have GX := Lib.hid gx
        have GY := Lib.hid gy
        have LX := Lib.hid lx
        have LY := Lib.hid ly
        clear gx gy lx ly hca hcb a4 b4
        by_cases he : xs.getD (k - 1) 0 = ys.getD (k - 1) 0
        · have he' : (nth xs (k - 1) != nth ys (k - 1)) = false := by simp only [nth, he]; exact bne_self_eq_false _
          have HE := Lib.hid he
          clear he
          go_wp2_with fail
          go_quiet (fail)
          go_wp2_with fail
          go_roundw
          case rel => exact ⟨k - 1, by omega, by go_num, Lib.hid (drop_step (by have := LX.out; omega) (by have := LY.out; omega) HD'.out (by rw [GX.out, GY.out, HE.out])), hb.trans (below_drewN' _ _ _)⟩
          case measure => simp [intOf]; omega
        · have he' : (nth xs (k - 1) != nth ys (k - 1)) = true := by simp only [nth, bne_iff_ne]; omega
          rcases Nat.lt_or_gt_of_ne he with hlt | hgt
          · have hd : nth xs (k - 1) < nth ys (k - 1) := by unfold nth; omega
            have hfin : cmpN (val L32 xs) (val L32 ys) = -1 := by
              have := cmp_top (B := L32) (dx.take (nz xs)) (ys := ys.take (nz ys)) (k := k - 1) (by have := LX.out; omega) (by have := LY.out; omega) HD'.out (by rw [GX.out, GY.out]; exact hlt)
              rw [val_take_nz (by decide) dx, val_take_nz (by decide) dy] at this
              exact cmpN_lt this
            have HF := Lib.hid hfin
            clear he hlt hfin
            go_wp2_with fail
            go_quiet (fail)
            go_wp2_with fail
            go_quiet ((go_at_call 68; exact calm_behind order_t))
            go_wp2_with fail
            go_ret
            exact ⟨by rw [HF.out]; rfl, (hb.trans (below_drewN' _ _ _)).trans (below_drewN' _ _ _)⟩
          · have hd : nth ys (k - 1) < nth xs (k - 1) := by unfold nth; omega
            have hd' : decide (nth xs (k - 1) < nth ys (k - 1)) = false := by simp; omega
            have hfin : cmpN (val L32 xs) (val L32 ys) = 1 := by
              have := cmp_top (B := L32) (dy.take (nz ys)) (ys := xs.take (nz xs)) (k := k - 1) (by have := LY.out; omega) (by have := LX.out; omega) HD'.out.symm (by rw [GX.out, GY.out]; exact hgt)
              rw [val_take_nz (by decide) dx, val_take_nz (by decide) dy] at this
              exact cmpN_gt this
            have HF := Lib.hid hfin
            clear he hgt hfin
            go_wp2_with fail
            go_quiet (fail)
            go_wp2_with fail
            go_quiet ((go_at_call 68; exact (calm_behind order_f)))
            go_wp2_with fail
            go_ret
            exact ⟨by rw [HF.out]; rfl, (hb.trans (below_drewN' _ _ _)).trans (below_drewN' _ _ _)⟩
      · have hfin : cmpN (val L32 xs) (val L32 ys) = 0 := by
          have hd := HD.out
          rw [show k = 0 by omega, List.drop_zero, List.drop_zero] at hd
          exact cmpN_eq (by rw [← val_take_nz (by decide) dx, hd, val_take_nz (by decide) dy])
        have HF := Lib.hid hfin
        clear hfin
        go_wp2_with fail
        go_ret
        exact ⟨by rw [HF.out]; rfl, hb⟩
  · have hne' : (((nz xs : Nat) : Int) != ((nz ys : Nat) : Int)) = true := by rw [bne_iff_ne]; omega
    rcases Nat.lt_or_gt_of_ne hne with hlt | hgt
    · have HF := Lib.hid (cmpN_lt (cmp_len dx dy hlt))
      clear hne
      go_enter Tryd.func47, Tryd.ntmps47
      go_wp2_with fail
      refine (sig_any _ _ _ xs _ HX.out).mono ?_; rintro e w' ⟨rfl, rfl⟩
      go_wp2_with fail
      refine (sig_any _ _ _ ys _ HY.out).mono ?_; rintro e w' ⟨rfl, rfl⟩
      go_wp2_with fail
      refine (order_t _).mono ?_; rintro e w' ⟨rfl, rfl⟩
      go_wp2_with fail
      go_ret
      exact ⟨by rw [HF.out]; rfl, Below.refl _ _⟩
    · have HF := Lib.hid (cmpN_gt (cmp_len dy dx hgt))
      have hd : decide (nz xs < nz ys) = false := by simp; omega
      clear hne
      go_enter Tryd.func47, Tryd.ntmps47
      go_wp2_with fail
      refine (sig_any _ _ _ xs _ HX.out).mono ?_; rintro e w' ⟨rfl, rfl⟩
      go_wp2_with fail
      refine (sig_any _ _ _ ys _ HY.out).mono ?_; rintro e w' ⟨rfl, rfl⟩
      go_wp2_with fail
      refine (order_f _).mono ?_; rintro e w' ⟨rfl, rfl⟩
      go_wp2_with fail
      go_ret
      exact ⟨by rw [HF.out]; rfl, Below.refl _ _⟩
end Go.Proofs.YtbkeildnhimfbaaDoor
