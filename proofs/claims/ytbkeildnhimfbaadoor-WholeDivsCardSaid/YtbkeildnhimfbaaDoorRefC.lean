/-
  Contracts of the reference package: Sub, Cmp.
-/
import Derived.Test.YtbkeildnhimfbaaDoorRefB
namespace Go.Proofs.YtbkeildnhimfbaaDoor
open Go.RowKit
set_option maxRecDepth 100000

theorem rsub_step {xs ys out : List Nat} {i cc d b : Nat} (hl : out.length = i) (hv : val 2 out + val 2 (ys.take i) = val 2 (xs.take i) + cc * 2 ^ i) (hn : d + ys.getD i 0 + cc = xs.getD i 0 + 2 * b) :
    val 2 (out ++ [d]) + val 2 (ys.take (i + 1)) = val 2 (xs.take (i + 1)) + b * 2 ^ (i + 1) := by
  rw [val_append, val_take_succ', val_take_succ', hl, Nat.pow_succ]
  simp only [val, Nat.mul_zero, Nat.add_zero]
  generalize 2 ^ i = P at *
  have h3 : (d + ys.getD i 0 + cc) * P = (xs.getD i 0 + 2 * b) * P := by rw [hn]
  grind

theorem rsub_end {xs ys out : List Nat} {cc : Nat} (hl : out.length = xs.length) (hd : Dig 2 out) (hy : ys.length ≤ xs.length) (hle : val 2 ys ≤ val 2 xs) (hv : val 2 out + val 2 (ys.take xs.length) = val 2 (xs.take xs.length) + cc * 2 ^ xs.length) : val 2 out = val 2 xs - val 2 ys := by
  rw [List.take_of_length_le hy, List.take_length] at hv
  have h1 := val_lt hd
  rw [hl] at h1
  rcases Nat.eq_zero_or_pos cc with h | h
  · subst h; omega
  · have : 1 * 2 ^ xs.length ≤ cc * 2 ^ xs.length := Nat.mul_le_mul_right _ h
    omega

theorem Ow.apart {w : World} {base : Nat} {k : IntKind} {T : TypeId} {v : Value} {xs : List Nat} (h : Ow w base k T v xs) {g : Nat} (hg : g < base) : Apart g v := by
  intro a n c e hb
  subst e
  have := h.base_le a.block rfl
  omega
theorem cut_ap (v : Value) (xs : List Nat) (w : World) (h : Sl w .i64 v xs) (hd : Dig 2 xs) :
    Calls Tryd.prog 56 #[v] w fun e w' => ∃ v', e = .returned v' ∧ Sl w .i64 v' (dig 2 (val 2 xs)) ∧ w = w' ∧ ∀ g, Apart g v → Apart g v' := by
  obtain ⟨ao, cap, rfl⟩ := sl_shape h
  refine (cut_any _ _ _ xs _ h).mono fun e w' ⟨he, hw⟩ => ⟨_, he, ?_, hw, ?_⟩
  · have := h.take _ (nz_le xs)
    rwa [take_nz (by decide) hd] at this
  · intro g hg a n c e hb
    injection e with e1 e2 e3
    subst e1
    have := hg a _ _ rfl hb
    have hl := nz_le xs
    omega

set_option maxHeartbeats 1000000 in
set_option maxRecDepth 100000 in
theorem rsub_ap (va vb : Value) (xs ys : List Nat) (w : World) (hx : Sl w .i64 va xs) (hy : Sl w .i64 vb ys) (dx : Dig 2 xs) (dy : Dig 2 ys) (lx : xs.length ≤ 1000000) (ly : ys.length ≤ xs.length) (hle : val 2 ys ≤ val 2 xs) :
    Calls Tryd.prog 43 #[va, vb] w fun e w' => ∃ v, e = .returned v ∧ Sl w' .i64 v (dig 2 (val 2 xs - val 2 ys)) ∧ Below w.heap.size w w' ∧ ∀ g, g < w.heap.size → Apart g v := by
  have HLE := Lib.hid hle
  clear hle
  obtain ⟨i0, hi, hz0, hz1, hz2⟩ := info_parts infoInt
  obtain ⟨ao, ac, rfl⟩ := sl_shape hx
  obtain ⟨bo, bc, rfl⟩ := sl_shape hy
  go_enter Tryd.func43, Tryd.ntmps43
  go_wp2_with fail
  go_loopw [5, 6, 7] (fun v c j wr => ∃ (i : Nat) (out : List Nat) (cc : Nat), j = .int .i64 i ∧ c = .int .i64 (cc : Int) ∧ cc ≤ 1 ∧ i ≤ xs.length ∧
      Ow wr w.heap.size .i64 3 v out ∧ Dig 2 out ∧ Hid (out.length = i) ∧ Hid (val 2 out + val 2 (ys.take i) = val 2 (xs.take i) + cc * 2 ^ i) ∧ Below w.heap.size w wr) (fun _ _ j _ => xs.length - (intOf j).toNat)
  case atStart => exact ⟨0, [], 0, rfl, rfl, by omega, by omega, Ow.nil _ _ _ _, Dig.nil _, Lib.hid rfl, Lib.hid rfl, Below.refl _ _⟩
  case round =>
    obtain ⟨i, out, cc, rfl, rfl, hcc, hi1, how, hdo, HL, HV, hb⟩ := hrel
    have X1 := bit_wf dx i
    have Y1 := bit_wf dy i
    have hol : out.length ≤ 2000000 := by have := HL.out; omega
    have hsz := hb.size
    have hx' := hx.below hb
    have hy' := hy.below hb
    by_cases hgo : i < xs.length
    · by_cases hneg : nth xs i - nth ys i - (cc : Int) < 0
      · have Hnext := Lib.hid (rsub_step (xs := xs) (ys := ys) (d := xs.getD i 0 + 2 - ys.getD i 0 - cc) (b := 1) HL.out HV.out (by unfold nth at X1 Y1; omega))
        go_wp2_with fail
        refine (at_any _ xs _ i _ hx' rfl).mono ?_; rintro e w' ⟨rfl, rfl⟩
        go_wp2_with fail
        refine (at_any _ ys _ i _ hy' rfl).mono ?_; rintro e w' ⟨rfl, rfl⟩
        go_wp2_with (at_builtin; refine wpList_append_one _ rfl (.tmp 28) (.tmp 30) 28 rfl 3 i0 .i64 Tryd.underlying28 hi hz0 hz1 (by omega) w.heap.size _ out rfl (how.alloc _) wr.heap.size (nth xs i - nth ys i - (cc : Int) + 2) (xs.getD i 0 + 2 - ys.getD i 0 - cc) rfl (by simp) (by unfold nth at X1 Y1 ⊢; omega) (by omega) (by simp; omega) ?_; intro v' w1 how' hb')
        go_roundw
        case rel => exact ⟨i + 1, _, 1, by go_num, rfl, by omega, by omega, how', hdo.append (by intro x hx; obtain rfl := List.mem_singleton.1 hx; unfold nth at X1 Y1 hneg; omega), Lib.hid (by rw [List.length_append, HL.out]; rfl), Hnext, hb.trans (((Below.refl _ _).alloc hsz _).trans hb')⟩
        case measure => simp [intOf]; omega
      · have Hnext := Lib.hid (rsub_step (xs := xs) (ys := ys) (d := xs.getD i 0 - ys.getD i 0 - cc) (b := 0) HL.out HV.out (by unfold nth at X1 Y1 hneg; omega))
        replace hneg : 0 ≤ nth xs i - nth ys i - (cc : Int) := by omega
        go_wp2_with fail
        refine (at_any _ xs _ i _ hx' rfl).mono ?_; rintro e w' ⟨rfl, rfl⟩
        go_wp2_with fail
        refine (at_any _ ys _ i _ hy' rfl).mono ?_; rintro e w' ⟨rfl, rfl⟩
        go_wp2_with (at_builtin; refine wpList_append_one _ rfl (.tmp 28) (.tmp 30) 28 rfl 3 i0 .i64 Tryd.underlying28 hi hz0 hz1 (by omega) w.heap.size _ out rfl (how.alloc _) wr.heap.size (nth xs i - nth ys i - (cc : Int)) (xs.getD i 0 - ys.getD i 0 - cc) rfl (by simp) (by unfold nth at X1 Y1 hneg ⊢; omega) (by omega) (by simp; omega) ?_; intro v' w1 how' hb')
        go_roundw
        case rel => exact ⟨i + 1, _, 0, by go_num, rfl, by omega, by omega, how', hdo.append (by intro x hx; obtain rfl := List.mem_singleton.1 hx; unfold nth at X1 Y1 hneg; omega), Lib.hid (by rw [List.length_append, HL.out]; rfl), Hnext, hb.trans (((Below.refl _ _).alloc hsz _).trans hb')⟩
        case measure => simp [intOf]; omega
    · have hii : i = xs.length := by omega
      subst hii
      have HV' := Lib.hid (rsub_end HL.out hdo ly HLE.out HV.out)
      have HAP := Lib.hid (fun g (hg : g < w.heap.size) => how.apart hg)
      go_wp2_with fail
      refine (cut_ap _ out _ how.sl hdo).mono ?_
      rintro e w' ⟨v', rfl, hsl, rfl, hap⟩
      have HAP' := Lib.hid hap
      clear hap
      go_wp2_with fail
      go_ret
      exact ⟨_, rfl, by rw [← HV'.out]; exact hsl, hb, fun g hg => HAP'.out g (HAP.out g hg)⟩

theorem rsub_any (va vb : Value) (xs ys : List Nat) (w : World) (hx : Sl w .i64 va xs) (hy : Sl w .i64 vb ys) (dx : Dig 2 xs) (dy : Dig 2 ys) (lx : xs.length ≤ 1000000) (ly : ys.length ≤ xs.length) (hle : val 2 ys ≤ val 2 xs) :
    Calls Tryd.prog 43 #[va, vb] w fun e w' => ∃ v, e = .returned v ∧ Sl w' .i64 v (dig 2 (val 2 xs - val 2 ys)) ∧ Below w.heap.size w w' :=
  (rsub_ap va vb xs ys w hx hy dx dy lx ly hle).mono fun _ _ ⟨v, he, hs, hb, _⟩ => ⟨v, he, hs, hb⟩

theorem cmp_canon {m n : Nat} {B : Nat} (hB : 2 ≤ B) (h : (dig B m).length < (dig B n).length) : m < n :=
  Nat.lt_of_lt_of_le (lt_pow_of_length hB (Nat.le_refl _)) (le_of_length hB h)
theorem cmp_top2 (m n k : Nat) (hk : k < (dig 2 m).length) (hk' : k < (dig 2 n).length) (he : (dig 2 m).drop (k + 1) = (dig 2 n).drop (k + 1)) (h : (dig 2 m).getD k 0 < (dig 2 n).getD k 0) : m < n := by
  have := cmp_top (Dig_dig (B := 2) (by decide) m) hk hk' he h
  rwa [val_dig (by decide), val_dig (by decide)] at this

set_option maxHeartbeats 1000000 in
theorem rcmp_any (va vb : Value) (m n : Nat) (w : World) (hx : Sl w .i64 va (dig 2 m)) (hy : Sl w .i64 vb (dig 2 n)) :
    Calls Tryd.prog 42 #[va, vb] w fun e w' => e = .returned (.int .i64 (cmpN m n)) ∧ Below w.heap.size w w' := by
  have dx := Dig_dig (B := 2) (by decide) m
  have dy := Dig_dig (B := 2) (by decide) n
  have HX0 := Lib.hid (val_dig (B := 2) (by decide) m)
  have HY0 := Lib.hid (val_dig (B := 2) (by decide) n)
  have CT := Lib.hid (cmp_top2 m n)
  have CT' := Lib.hid (cmp_top2 n m)
  have CL := Lib.hid (fun h => cmp_canon (m := m) (n := n) (B := 2) (by decide) h)
  have CL' := Lib.hid (fun h => cmp_canon (m := n) (n := m) (B := 2) (by decide) h)
  generalize hxs : dig 2 m = xs at *
  generalize hys : dig 2 n = ys at *
  clear hxs hys
  have HX := Lib.hid hx
  have HY := Lib.hid hy
  obtain ⟨ao, ac, rfl, a1, a2, a3, a4⟩ := hx
  obtain ⟨bo, bc, rfl, b1, b2, b3, b4⟩ := hy
  by_cases hne : xs.length = ys.length
  · have hne' : (((xs.length : Nat) : Int) != ((ys.length : Nat) : Int)) = false := by simp [hne]
    have HN := Lib.hid hne
    have hny : xs.length ≤ ys.length ∧ ys.length ≤ xs.length := by omega
    clear hne
    go_enter Tryd.func42, Tryd.ntmps42
    go_wp2_with fail
    go_loopw [5] (fun i wr => ∃ k : Nat, k ≤ xs.length ∧ i = .int .i64 ((k : Int) - 1) ∧ Hid (xs.drop k = ys.drop k) ∧ Below w.heap.size w wr) (fun i _ => (intOf i + 1).toNat)
    case atStart => exact ⟨xs.length, Nat.le_refl _, rfl, Lib.hid (by rw [List.drop_eq_nil_of_le (by omega), List.drop_eq_nil_of_le (by omega)]), Below.refl _ _⟩
    case round =>
      obtain ⟨k, hk, rfl, HD, hb⟩ := hrel
      by_cases h0 : 0 < k
      · obtain ⟨a, rfl, hca⟩ := a4 (k - 1) (by omega)
        obtain ⟨b, rfl, hcb⟩ := b4 (k - 1) (by omega)
        have hca' : wr.cell? (a.add (k - 1)) = some (.int .i64 (nth xs (k - 1))) := by rw [hb.cell (cell_lt hca)]; exact hca
        have hcb' : wr.cell? (b.add (k - 1)) = some (.int .i64 (nth ys (k - 1))) := by rw [hb.cell (cell_lt hcb)]; exact hcb
        have X1 := bit_wf dx (k - 1)
        have Y1 := bit_wf dy (k - 1)
        have HD' : Hid (xs.drop (k - 1 + 1) = ys.drop (k - 1 + 1)) := Lib.hid (by rw [show k - 1 + 1 = k by omega]; exact HD.out)
        clear hca hcb a4 b4
        by_cases he : xs.getD (k - 1) 0 = ys.getD (k - 1) 0
        · have he' : (nth xs (k - 1) != nth ys (k - 1)) = false := by simp only [nth, he]; exact bne_self_eq_false _
          have HE := Lib.hid he
          clear he
          go_wp2_with fail
          go_quiet (fail)
          go_wp2_with fail
          go_roundw
          case rel => exact ⟨k - 1, by omega, by go_num, Lib.hid (drop_step (by omega) (by omega) HD'.out HE.out), hb.trans (below_drewN' _ _ _)⟩
          case measure => simp [intOf]; omega
        · have he' : (nth xs (k - 1) != nth ys (k - 1)) = true := by simp only [nth, bne_iff_ne]; omega
          have hfin : cmpN m n = nth xs (k - 1) - nth ys (k - 1) := by
            rcases Nat.lt_or_gt_of_ne he with hlt | hgt
            · rw [cmpN_lt (CT.out _ (by omega) (by omega) HD'.out hlt)]; unfold nth at X1 Y1 ⊢; omega
            · rw [cmpN_gt (CT'.out _ (by omega) (by omega) HD'.out.symm hgt)]; unfold nth at X1 Y1 ⊢; omega
          have HF := Lib.hid hfin
          clear he hfin
          go_wp2_with fail
          go_quiet (fail)
          go_wp2_with fail
          go_quiet (fail)
          go_wp2_with fail
          go_ret
          exact ⟨by rw [HF.out]; rfl, (hb.trans (below_drewN' _ _ _)).trans (below_drewN' _ _ _)⟩
      · have hfin : cmpN m n = 0 := by
          have hd := HD.out
          rw [show k = 0 by omega, List.drop_zero, List.drop_zero] at hd
          exact cmpN_eq (by rw [← HX0.out, ← HY0.out, hd])
        have HF := Lib.hid hfin
        clear hfin
        go_wp2_with fail
        go_ret
        exact ⟨by rw [HF.out]; rfl, hb⟩
  · have hne' : (((xs.length : Nat) : Int) != ((ys.length : Nat) : Int)) = true := by rw [bne_iff_ne]; omega
    rcases Nat.lt_or_gt_of_ne hne with hlt | hgt
    · have HF := Lib.hid (cmpN_lt (CL.out hlt))
      clear hne
      go_enter Tryd.func42, Tryd.ntmps42
      go_wp2_with fail
      go_ret
      exact ⟨by rw [HF.out]; rfl, Below.refl _ _⟩
    · have HF := Lib.hid (cmpN_gt (CL'.out hgt))
      have hd : decide (xs.length < ys.length) = false := by simp; omega
      clear hne
      go_enter Tryd.func42, Tryd.ntmps42
      go_wp2_with fail
      go_ret
      exact ⟨by rw [HF.out]; rfl, Below.refl _ _⟩
end Go.Proofs.YtbkeildnhimfbaaDoor
