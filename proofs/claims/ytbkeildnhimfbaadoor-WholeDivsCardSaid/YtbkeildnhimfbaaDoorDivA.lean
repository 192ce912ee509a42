/-
  Contracts of package nat: divLimb; Div by 0, of less, by one limb.
-/
import Derived.Test.YtbkeildnhimfbaaDoorCore
namespace Go.Proofs.YtbkeildnhimfbaaDoor
open Go.RowKit
set_option maxRecDepth 100000

/-- Two limbs, r the higher one. -/
def joinN (r x : Nat) : Nat := r * 4294967296 + x
def joinI (r x : Nat) : Int := ((joinN r x : Nat) : Int)
theorem or_join {r x : Nat} (hr : r < 4294967296) (hx : x < 4294967296) : bits BinOp.or IntKind.u64 ((r : Int) * 4294967296) (x : Int) = joinI r x := by
  have h1 : (r : Int) * 4294967296 = ((r * 4294967296 : Nat) : Int) := by simp
  rw [h1, u64_or_nat _ _ (by omega) (by omega), nat_join 32 _ _ (by omega) (by omega)]; rfl
theorem joinI_bound {r x : Nat} (hr : r < 4294967296) (hx : x < 4294967296) : 0 ≤ joinI r x ∧ joinI r x < 18446744073709551616 := by unfold joinI joinN; omega
theorem join_div {r x d : Nat} (hr : r < d) (hx : x < 4294967296) : joinN r x / d < 4294967296 := by
  apply Nat.div_lt_of_lt_mul
  unfold joinN
  have : (r + 1) * 4294967296 ≤ d * 4294967296 := Nat.mul_le_mul_right _ hr
  omega

theorem divLimb_step {t s : List Nat} {k r d : Nat} (hk : k < t.length) (hl : t.length = s.length) (ht : t.take (k + 1) = s.take (k + 1)) (hv : val L32 (t.drop (k + 1)) * d + r = val L32 (s.drop (k + 1))) :
    (t.set k (joinN r (t.getD k 0) / d)).take k = s.take k ∧ val L32 ((t.set k (joinN r (t.getD k 0) / d)).drop k) * d + joinN r (t.getD k 0) % d = val L32 (s.drop k) := by
  have hks : k < s.length := by omega
  have e1 : t.getD k 0 = s.getD k 0 := by
    have := congrArg (fun l => l.getD k 0) ht
    simpa [List.getD] using this
  refine ⟨?_, ?_⟩
  · rw [List.take_set_of_le (Nat.le_refl k)]
    have := congrArg (List.take k) ht
    rw [List.take_take, List.take_take, Nat.min_eq_left (by omega)] at this
    exact this
  · rw [List.drop_eq_getElem_cons (by simpa using hk), List.drop_set_of_lt (by omega), List.drop_eq_getElem_cons hks]
    simp only [val, List.getElem_set_self]
    rw [← hv]
    have e2 : s[k] = s.getD k 0 := by simp [List.getD, hks]
    rw [e2, ← e1]
    have h := Nat.div_add_mod (joinN r (t.getD k 0)) d
    have hj : joinN r (t.getD k 0) = r * L32 + t.getD k 0 := rfl
    generalize joinN r (t.getD k 0) / d = q at *
    generalize joinN r (t.getD k 0) % d = m at *
    rw [hj] at h
    grind

set_option maxHeartbeats 1000000 in
theorem divLimb_any (g : Nat) (pre s post : List Nat) (vs : Value) (d : Nat) (z : Int) (w : World) (hw : Ws w .u32 72 vs g pre s post) (hs : Dig L32 s) (hz : z = (d : Int)) (hd0 : 0 < d) (hd1 : d < 4294967296) :
    Calls Tryd.prog 71 #[vs, .int .u32 z] w fun e w' => ∃ s', e = .returned (.int .u32 ((val L32 s % d : Nat) : Int)) ∧ Ws w' .u32 72 vs g pre s' post ∧ w.grownBy w' (some g) ∧ s'.length = s.length ∧ Dig L32 s' ∧
      val L32 s' = val L32 s / d := by
  subst hz
  obtain ⟨ao, cap, rfl, h1, h2, h3, h4⟩ := hw
  go_enter Tryd.func71, Tryd.ntmps71
  go_wp2
  go_loopw [5, 6] (fun c i wr => ∃ (k : Nat) (t : List Nat) (r : Nat), i = .int .i64 ((k : Int) - 1) ∧ c = .int .u64 (r : Int) ∧ r < d ∧ k ≤ s.length ∧ w.grownBy wr (some g) ∧ Hid (t.length = s.length) ∧ Dig 4294967296 t ∧
     WsAt wr .u32 72 ao g pre t post s.length ∧ Hid (t.take k = s.take k) ∧ Hid (val L32 (t.drop k) * d + r = val L32 (s.drop k)))
    (fun _ i _ => (intOf i + 1).toNat)
  case atStart => exact ⟨s.length, s, 0, rfl, rfl, hd0, by omega, World.grownBy.refl _ _, Lib.hid rfl, hs, h4, Lib.hid rfl, Lib.hid (by simp [val])⟩
  case round =>
    obtain ⟨k, t, r, rfl, rfl, hr, hk, hg, Ht, hdt, hB, HT, HV⟩ := hrel
    by_cases h0 : 0 < k
    · obtain ⟨rfl, hB'⟩ := hB (by omega)
      have hkt : k - 1 < t.length := by have := Ht.out; omega
      have hct : wr.cell? ⟨g, pre.length + (k - 1), none⟩ = some (.int .u32 (nth t (k - 1))) := by
        rw [hB'.cell (by simp; omega), nth_mid _ _ _ _ hkt]
      have hft := hB'.frozen (pre.length + (k - 1))
      have t1 := hdt.getD (by omega) (k - 1)
      obtain ⟨x, hx⟩ : ∃ x, x = t.getD (k - 1) 0 := ⟨_, rfl⟩
      have hnx : nth t (k - 1) = (x : Int) := by rw [hx]; rfl
      rw [← hx] at t1
      have hor := or_join (r := r) (x := x) (by omega) t1
      have hjb := joinI_bound (r := r) (x := x) (by omega) t1
      have hq0 := join_div hr t1
      have hq : 0 ≤ joinI r x / (d : Int) ∧ joinI r x / (d : Int) < 4294967296 := by
        have : joinI r x / (d : Int) = ((joinN r x / d : Nat) : Int) := by unfold joinI; simp
        rw [this]; exact ⟨Int.natCast_nonneg _, Int.ofNat_lt.2 hq0⟩
      have HS := Lib.hid (divLimb_step (t := t) (s := s) (k := k - 1) (r := r) (d := d) hkt Ht.out (by rw [show k - 1 + 1 = k by omega]; exact HT.out) (by rw [show k - 1 + 1 = k by omega]; exact HV.out))
      rw [← hx] at HS
      have HQ := Lib.hid hq0
      have hm0 : joinI r x % (d : Int) = ((joinN r x % d : Nat) : Int) := by unfold joinI; simp
      have hd0' : joinI r x / (d : Int) = ((joinN r x / d : Nat) : Int) := by unfold joinI; simp
      have HM := Lib.hid hm0
      have HD := Lib.hid hd0'
      rw [hnx] at hct
      clear hB h4 hq0 hm0 hd0' hx hnx
      go_wp2
      go_roundw
      case rel =>
        refine ⟨k - 1, t.set (k - 1) (joinN r x / d), joinN r x % d, by go_num, by rw [← HM.out], Nat.mod_lt _ hd0, by omega, grown_setCell hg _, Lib.hid (by rw [List.length_set]; exact Ht.out), hdt.set HQ.out, fun _ => ⟨rfl, ?_⟩, Lib.hid HS.out.1, Lib.hid HS.out.2⟩
        rw [← set_mid _ _ _ _ _ hkt]
        exact hB'.set _ _ _ HD.out
      case measure => simp [intOf]; omega
    · have hk0 : k = 0 := by omega
      subst hk0
      have hv := HV.out
      simp only [List.drop_zero] at hv
      have e1 : val L32 s % d = r := by rw [← hv, Nat.mul_add_mod_self_right, Nat.mod_eq_of_lt hr]
      have e2 : val L32 t = val L32 s / d := by rw [← hv, Nat.add_comm, Nat.add_mul_div_right _ _ hd0, Nat.div_eq_of_lt hr, Nat.zero_add]
      have E1 := Lib.hid e1
      have E2 := Lib.hid e2
      have hfin : Ws wr .u32 72 (.slice ao s.length cap) g pre t post := ⟨ao, cap, by rw [Ht.out], by rw [Ht.out]; exact h1, h2, h3, by rw [Ht.out]; exact hB⟩
      clear e1 e2 hv h4
      go_wp2
      go_ret
      exact ⟨t, by rw [E1.out]; rfl, hfin, hg, Ht.out, hdt, E2.out⟩

theorem nz_eq_zero {xs : List Nat} (hd : Dig L32 xs) (h : val L32 xs = 0) : nz xs = 0 := by
  have := length_dig_val (B := L32) (by decide) hd
  rw [h, dig_zero] at this; exact this.symm
theorem nz_pos_of {xs : List Nat} (hd : Dig L32 xs) (h : 0 < val L32 xs) : 0 < nz xs := by
  rw [← length_dig_val (B := L32) (by decide) hd, dig_pos (by decide) h]; simp

set_option maxHeartbeats 1000000 in
theorem div_zero (va vb : Value) (xs ys : List Nat) (w : World) (hx : Sl w .u32 va xs) (hy : Sl w .u32 vb ys) (dy : Dig L32 ys) (h0 : val L32 ys = 0) :
    Calls Tryd.prog 50 #[va, vb] w fun e w' => e = .returned (.tuple #[.slice none 0 0, .slice none 0 0, .bool false]) ∧ Below w.heap.size w w' := by
  obtain ⟨ao, ac, rfl⟩ := sl_shape hx
  obtain ⟨bo, bc, rfl⟩ := sl_shape hy
  have H0 := Lib.hid (nz_eq_zero dy h0)
  have hz : (((nz ys : Nat) : Int) == 0) = true := by rw [H0.out]; rfl
  clear h0
  go_enter Tryd.func50, Tryd.ntmps50
  go_wp2_with fail
  refine (sig_any _ _ _ xs _ hx).mono ?_; rintro e w' ⟨rfl, rfl⟩
  go_wp2_with fail
  refine (sig_any _ _ _ ys _ hy).mono ?_; rintro e w' ⟨rfl, rfl⟩
  go_wp2_with fail
  go_ret3
  exact ⟨rfl, Below.refl _ _⟩

set_option maxHeartbeats 1000000 in
theorem div_lt (va vb : Value) (xs ys : List Nat) (w : World) (hx : Sl w .u32 va xs) (hy : Sl w .u32 vb ys) (dx : Dig L32 xs) (dy : Dig L32 ys) (lx : xs.length ≤ 1000000) (h0 : val L32 xs < val L32 ys) :
    Calls Tryd.prog 50 #[va, vb] w fun e w' => ∃ r, e = .returned (.tuple #[.slice none 0 0, r, .bool true]) ∧ Sl w' .u32 r (dig L32 (val L32 xs)) ∧ Below w.heap.size w w' := by
  obtain ⟨ao, ac, rfl⟩ := sl_shape hx
  obtain ⟨bo, bc, rfl⟩ := sl_shape hy
  have hx' := hx.take (nz xs) (nz_le xs)
  have hy' := hy.take (nz ys) (nz_le ys)
  have VX := Lib.hid (val_take_nz (B := L32) (by decide) dx)
  have VY := Lib.hid (val_take_nz (B := L32) (by decide) dy)
  have hp := nz_pos_of dy (by omega)
  have hz : (((nz ys : Nat) : Int) == 0) = false := by simp; omega
  have HC := Lib.hid (show cmpN (val L32 (xs.take (nz xs))) (val L32 (ys.take (nz ys))) = -1 by rw [VX.out, VY.out]; exact cmpN_lt h0)
  have hlen : (xs.take (nz xs)).length ≤ 1000000 := by rw [List.length_take]; omega
  go_enter Tryd.func50, Tryd.ntmps50
  go_wp2_with fail
  refine (sig_any _ _ _ xs _ hx).mono ?_; rintro e w' ⟨rfl, rfl⟩
  go_wp2_with fail
  refine (sig_any _ _ _ ys _ hy).mono ?_; rintro e w' ⟨rfl, rfl⟩
  go_wp2_with fail
  refine (cmp_any _ _ _ _ _ hx' hy' (dx.take _) (dy.take _)).mono ?_; rintro e w1 ⟨rfl, hb1⟩
  rw [HC.out]
  go_wp2_with fail
  refine (trim_any _ _ w1 (hx'.below hb1) (dx.take _) hlen).mono ?_
  rintro e w2 ⟨v2, rfl, hs2, hb2⟩
  go_wp2_with fail
  go_ret3
  refine ⟨_, rfl, ?_, hb1.trans (hb2.mono hb1.size)⟩
  have := hs2.sl
  rw [VX.out] at this
  exact this

set_option maxHeartbeats 1000000 in
theorem div_one (va vb : Value) (xs ys : List Nat) (w : World) (hx : Sl w .u32 va xs) (hy : Sl w .u32 vb ys) (dx : Dig L32 xs) (dy : Dig L32 ys) (lx : xs.length ≤ 1000000) (h0 : val L32 ys ≤ val L32 xs) (h1 : nz ys = 1) :
    Calls Tryd.prog 50 #[va, vb] w fun e w' => ∃ q r, e = .returned (.tuple #[q, r, .bool true]) ∧ Sl w' .u32 q (dig L32 (val L32 xs / val L32 ys)) ∧ Sl w' .u32 r (dig L32 (val L32 xs % val L32 ys)) ∧ Below w.heap.size w w' := by
  obtain ⟨ao, ac, rfl⟩ := sl_shape hx
  have HY := Lib.hid hy
  obtain ⟨bo, bc, rfl, b1, b2, b3, b4⟩ := hy
  have hly := nz_le ys
  have nx := nz_le xs
  have hx' := hx.take (nz xs) (nz_le xs)
  have hy' := HY.out.take (nz ys) (nz_le ys)
  have VX := Lib.hid (val_take_nz (B := L32) (by decide) dx)
  have VY := Lib.hid (val_take_nz (B := L32) (by decide) dy)
  have EX := Lib.hid (show (xs.take (nz xs)).length = nz xs by simp; omega)
  have hz : (((nz ys : Nat) : Int) == 0) = false := by rw [h1]; rfl
  have hz1 : (((nz ys : Nat) : Int) == 1) = true := by rw [h1]; rfl
  have hc : 0 ≤ cmpN (val L32 (xs.take (nz xs))) (val L32 (ys.take (nz ys))) := by
    rw [VX.out, VY.out]; unfold cmpN; rw [if_neg (by omega)]; split <;> omega
  have hvy : val L32 ys = ys.getD 0 0 := by
    rw [← val_take_nz (B := L32) (by decide) dy, h1, val_take_succ' L32 ys 0]; simp [val]
  have hy0 := dy.getD (by decide) 0
  have hpos : 0 < val L32 ys := by
    rcases Nat.eq_zero_or_pos (val L32 ys) with h | h
    · have := nz_eq_zero dy h; omega
    · exact h
  obtain ⟨b, rfl, hcb⟩ := b4 0 (by omega)
  rw [show b.add 0 = b from by simp [Addr.add]] at hcb
  have HVY := Lib.hid hvy
  have hn1 : (0 : Int) < ((nz ys : Nat) : Int) := by omega
  have D0 : 0 < ys.getD 0 0 := by omega
  have hcb0 : ∀ {w1 : World}, Below w.heap.size w w1 → w1.cell? b = some (.int .u32 (nth ys 0)) := fun hb => by rw [hb.cell (cell_lt hcb)]; exact hcb
  clear h1 hvy b4 hcb
  go_enter Tryd.func50, Tryd.ntmps50
  go_wp2_with fail
  refine (sig_any _ _ _ xs _ hx).mono ?_; rintro e w' ⟨rfl, rfl⟩
  go_wp2_with fail
  refine (sig_any _ _ _ ys _ HY.out).mono ?_; rintro e w' ⟨rfl, rfl⟩
  go_wp2_with fail
  refine (cmp_any _ _ _ _ _ hx' hy' (dx.take _) (dy.take _)).mono ?_; rintro e w1 ⟨rfl, hb1⟩
  go_wp2_with fail
  refine (padded_any ao _ ac _ (nz xs) _ w1 (hx'.below hb1) (by rw [EX.out]; omega) (by omega) (by omega)).mono ?_
  rintro e w2 ⟨v2, rfl, hs2, hb2, hz2⟩
  have hb2' : Below w.heap.size w w2 := hb1.trans (hb2.mono hb1.size)
  have hcell := hcb0 hb2'
  rw [EX.out, Nat.sub_self, List.replicate_zero, List.append_nil] at hs2
  go_wp2_with fail
  refine (divLimb_any w1.heap.size [] _ [] _ (ys.getD 0 0) _ w2 hs2 (dx.take _) rfl D0 hy0).mono ?_
  rintro e w3 ⟨s', rfl, hs3, hg3, hl3, hd3, hv3⟩
  rw [VX.out, ← HVY.out] at hv3
  obtain ⟨m, hm⟩ : ∃ m, m = val L32 xs % val L32 ys := ⟨_, rfl⟩
  rw [show val L32 (xs.take (nz xs)) % ys.getD 0 0 = m by rw [VX.out, ← HVY.out, hm]]
  have hmb : m < 4294967296 := by rw [hm]; exact Nat.lt_trans (Nat.mod_lt _ hpos) (by rw [HVY.out]; exact hy0)
  have HM := Lib.hid hm
  clear hm
  have hb3 : Below w.heap.size w w3 := hb2'.trans (below_of_grown' hg3 hb1.size hb2'.size)
  have HV3 := Lib.hid hv3
  clear hv3 hl3
  go_wp2_with fail
  refine (trimmed_v _ s' _ hs3.sl hd3).mono ?_
  rintro e w4 ⟨v4, rfl, ht4, rfl⟩
  go_wp2_with fail
  refine (of_any m _ w3 rfl (by omega)).mono ?_
  rintro e w5 ⟨v5, rfl, hs5, hb5⟩
  have hb5' : Below w.heap.size w w5 := hb3.trans (hb5.mono hb3.size)
  go_wp2_with fail
  go_ret3
  refine ⟨_, _, rfl, ?_, ?_, hb5'⟩
  · rw [HV3.out] at ht4
    exact ht4.below hb5
  · rw [← HM.out]; exact hs5
end Go.Proofs.YtbkeildnhimfbaaDoor
