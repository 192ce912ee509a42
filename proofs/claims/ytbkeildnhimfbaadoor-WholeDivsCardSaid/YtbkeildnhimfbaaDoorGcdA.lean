/-
  Contracts of package nat: low, Gcd.
-/
import Derived.Test.YtbkeildnhimfbaaDoorDivE
namespace Go.Proofs.YtbkeildnhimfbaaDoor
open Go.RowKit
set_option maxRecDepth 100000

theorem low_step {xs : List Nat} {k n : Nat} (hk : 0 < k) (hl : k ≤ xs.length) (hn : n = val L32 (xs.drop k)) : joinN n (xs.getD (k - 1) 0) = val L32 (xs.drop (k - 1)) := by
  have h : xs.drop (k - 1) = xs.getD (k - 1) 0 :: xs.drop k := by
    rw [List.drop_eq_getElem_cons (by omega)]
    congr 1
    · simp [List.getD, show k - 1 < xs.length by omega]
    · congr 1; omega
  rw [h, hn]
  unfold joinN
  simp only [val]
  generalize val L32 (xs.drop k) = v
  show v * 4294967296 + _ = _ + 4294967296 * v
  omega

set_option maxHeartbeats 1000000 in
theorem low_any (va : Value) (xs : List Nat) (w : World) (hx : Sl w .u32 va xs) (dx : Dig L32 xs) (lx : xs.length ≤ 2) :
    Calls Tryd.prog 79 #[va] w fun e w' => e = .returned (.int .u64 ((val L32 xs : Nat) : Int)) ∧ w' = w := by
  have HX := Lib.hid hx
  obtain ⟨ao, ac, rfl, a1, a2, a3, a4⟩ := hx
  have hmin : min (xs.length : Int) 2 = (xs.length : Int) := by omega
  go_enter Tryd.func79, Tryd.ntmps79
  go_wp2
  go_loopw [3, 4] (fun c i wr => ∃ (k n : Nat), i = .int .i64 ((k : Int) - 1) ∧ c = .int .u64 (n : Int) ∧ k ≤ xs.length ∧ wr = w ∧ Hid (n = val L32 (xs.drop k))) (fun _ i _ => (intOf i + 1).toNat)
  case atStart => exact ⟨xs.length, 0, by first | rfl | (rw [hmin]) | go_num, rfl, Nat.le_refl _, rfl, Lib.hid (by simp [val])⟩
  case round =>
    obtain ⟨k, n, rfl, rfl, hk, rfl, HN⟩ := hrel
    by_cases h0 : 0 < k
    · obtain ⟨a, rfl, hca⟩ := a4 (k - 1) (by omega)
      have x0 := dx.getD (by decide) (k - 1)
      have hn : n < 4294967296 := by
        have h1 := val_lt (dx.drop k)
        rw [← HN.out, List.length_drop] at h1
        have h2 : L32 ^ (xs.length - k) ≤ L32 ^ 1 := Nat.pow_le_pow_right (by decide) (by omega)
        have h3 : L32 ^ 1 = 4294967296 := rfl
        omega
      have HS := Lib.hid (low_step h0 hk HN.out)
      unfold nth at hca
      generalize xs.getD (k - 1) 0 = x at *
      have hor := or_join (r := n) (x := x) hn x0
      have hjb := joinI_bound (r := n) (x := x) hn x0
      have x1 : x < 4294967296 := x0
      clear a4
      go_wp2
      go_roundw
      case rel => exact ⟨k - 1, joinN n x, by go_num, rfl, by omega, by trivial, HS⟩
      case measure => simp [intOf]; omega
    · have hk0 : k = 0 := by omega
      subst hk0
      have HV := Lib.hid (show val L32 xs = n by rw [HN.out, List.drop_zero])
      clear a4
      go_wp2
      go_ret
      exact ⟨by rw [HV.out]; rfl, rfl⟩

theorem sl_unique {w : World} {k : IntKind} {v : Value} {xs ys : List Nat} (hx : Sl w k v xs) (hy : Sl w k v ys) : xs = ys := by
  obtain ⟨ao, ac, rfl, a1, a2, a3, a4⟩ := hx
  obtain ⟨bo, bc, e, b1, b2, b3, b4⟩ := hy
  injection e with e1 e2 e3
  subst e1
  refine List.ext_getElem e2 fun i h1 h2 => ?_
  obtain ⟨a, rfl, c1⟩ := a4 i h1
  obtain ⟨b, e4, c2⟩ := b4 i h2
  injection e4 with e4
  subst e4
  rw [c1] at c2
  injection c2 with c2
  injection c2 with _ c2
  rw [nth_eq h1, nth_eq h2] at c2
  omega

open Classical in
/-- The number that a canonical slice of limbs reads as. -/
noncomputable def numOf (w : World) (v : Value) : Nat := if h : ∃ n, Sl w .u32 v (dig L32 n) then h.choose else 0
theorem numOf_eq {w : World} {v : Value} {n : Nat} (h : Sl w .u32 v (dig L32 n)) : numOf w v = n := by
  have h1 : ∃ n, Sl w .u32 v (dig L32 n) := ⟨n, h⟩
  unfold numOf
  rw [dif_pos h1]
  have h2 := sl_unique h1.choose_spec h
  have h3 := congrArg (val L32) h2
  rwa [val_dig (by decide), val_dig (by decide)] at h3

theorem gcd_step (m n : Nat) : Nat.gcd n (m % n) = Nat.gcd m n := by
  rw [Nat.gcd_comm n, ← Nat.gcd_rec, Nat.gcd_comm]

set_option maxHeartbeats 2000000 in
set_option maxRecDepth 100000 in
theorem gcd_any (va vb : Value) (xs ys : List Nat) (w : World) (hx : Sl w .u32 va xs) (hy : Sl w .u32 vb ys) (dx : Dig L32 xs) (dy : Dig L32 ys) (lx : xs.length ≤ 900000) (ly : ys.length ≤ 900000) :
    Calls Tryd.prog 55 #[va, vb] w fun e w' => ∃ v, e = .returned v ∧ Sl w' .u32 v (dig L32 (Nat.gcd (val L32 xs) (val L32 ys))) ∧ Below w.heap.size w w' := by
  have hx9 := Nat.lt_of_lt_of_le (val_lt dx) (Nat.pow_le_pow_right (n := L32) (by decide) lx)
  have hy9 := Nat.lt_of_lt_of_le (val_lt dy) (Nat.pow_le_pow_right (n := L32) (by decide) ly)
  have L1 := length_dig_le (B := L32) (by decide) hx9
  have L2 := length_dig_le (B := L32) (by decide) hy9
  clear hx9 hy9
  obtain ⟨G, hG⟩ : ∃ G, G = Nat.gcd (val L32 xs) (val L32 ys) := ⟨_, rfl⟩
  rw [← hG]
  have G0 := Lib.hid hG.symm
  clear hG
  go_enter Tryd.func55, Tryd.ntmps55
  go_wp2_with fail
  refine (trim_any _ xs w hx dx (by omega)).mono ?_
  rintro e w1 ⟨v1, rfl, hs1, hb1⟩
  have hs1 := hs1.sl
  go_wp2_with fail
  refine (trim_any _ ys w1 (hy.below hb1) dy (by omega)).mono ?_
  rintro e w2 ⟨v2, rfl, hs2, hb2⟩
  have hs2 := hs2.sl
  have hb2t : Below w.heap.size w w2 := hb1.trans (hb2.mono hb1.size)
  have hs1 := hs1.below hb2
  generalize hA : val L32 xs = A at *
  generalize hB : val L32 ys = Bn at *
  clear hA hB
  go_wp2_with fail
  go_loopw [0, 1] (fun a b wr => ∃ (m n : Nat), Sl wr .u32 a (dig L32 m) ∧ Sl wr .u32 b (dig L32 n) ∧ Below w.heap.size w wr ∧ (dig L32 m).length ≤ 900000 ∧ (dig L32 n).length ≤ 900000 ∧ Hid (Nat.gcd m n = G)) (fun _ b wr => numOf wr b)
  case atStart => exact ⟨A, Bn, hs1, hs2, hb2t, L1, L2, G0⟩
  case round =>
    clear hs1 hs2 hb2t L1 L2 G0 hb1 hb2
    obtain ⟨m, n, sa, sb, hb, l1, l2, HG⟩ := hrel
    obtain ⟨oa, ca, rfl⟩ := sl_shape sa
    obtain ⟨ob, cb, rfl⟩ := sl_shape sb
    have HM := Lib.hid (numOf_eq sb)
    have VM := Lib.hid (val_dig (B := L32) (by decide) m)
    have VN := Lib.hid (val_dig (B := L32) (by decide) n)
    have DM := Dig_dig (B := L32) (by decide) m
    have DN := Dig_dig (B := L32) (by decide) n
    by_cases h2 : 2 < (dig L32 n).length
    · have hn : 0 < n := by
        rcases Nat.eq_zero_or_pos n with h | h
        · rw [h, dig_zero] at h2; simp at h2
        · exact h
      have hlt : m % n < n := Nat.mod_lt _ hn
      have HLT := Lib.hid hlt
      have HST := Lib.hid (gcd_step m n)
      have HL := Lib.hid (show (dig L32 (m % n)).length ≤ (dig L32 n).length from length_dig_le (by decide) (Nat.lt_of_lt_of_le hlt (Nat.le_of_lt (by have := val_lt DN; rwa [VN.out] at this))))
      have HN := Lib.hid hn
      clear hn hlt
      go_wp2_with fail
      refine (div_any _ _ _ _ wr sa sb DM DN l1 (by rw [VN.out]; exact HN.out)).mono ?_
      rintro e w3 ⟨q, r, rfl, hq, hr, hb3⟩
      rw [VM.out, VN.out] at hr
      have hb3t : Below w.heap.size w w3 := hb.trans (hb3.mono hb.size)
      have sb3 := sb.below hb3
      go_wp2_with fail
      go_roundw
      case rel => exact ⟨n, m % n, sb3, hr, hb3t, l2, Nat.le_trans HL.out l2, Lib.hid (by rw [HST.out]; exact HG.out)⟩
      case measure =>
        show numOf w3 r < numOf wr _
        rw [numOf_eq hr, HM.out]; exact HLT.out
    · by_cases h0 : n = 0
      · have HL0 := Lib.hid (show (dig L32 n).length = 0 by rw [h0, dig_zero]; rfl)
        have HG' := Lib.hid (show m = G by have := HG.out; rwa [h0, Nat.gcd_zero_right] at this)
        rw [HL0.out]
        clear h0 h2
        go_wp2_with fail
        go_ret
        refine ⟨_, rfl, ?_, hb⟩
        rw [← HG'.out]
        exact sa
      · have hn : 0 < n := by omega
        have hlp : 0 < (dig L32 n).length := by rw [dig_pos (by decide) hn]; simp
        have hz : ((((dig L32 n).length : Nat) : Int) == 0) = false := by rw [beq_eq_false_iff_ne]; omega
        have hl2 : (dig L32 n).length ≤ 2 := by omega
        have hlt : m % n < n := Nat.mod_lt _ hn
        have hn64 : n < 18446744073709551616 := by
          have h3 := val_lt DN
          rw [VN.out] at h3
          have h4 : L32 ^ (dig L32 n).length ≤ L32 ^ 2 := Nat.pow_le_pow_right (by decide) hl2
          have h5 : L32 ^ 2 = 18446744073709551616 := by decide
          omega
        have HL := Lib.hid (show (dig L32 (m % n)).length ≤ 2 from Nat.le_trans (length_dig_le (by decide) (Nat.lt_of_lt_of_le hlt (Nat.le_of_lt (by have := val_lt DN; rwa [VN.out] at this)))) hl2)
        have HST := Lib.hid (show Nat.gcd n (m % n) = G by rw [gcd_step]; exact HG.out)
        have HN := Lib.hid hn
        have hr64 : m % n < 18446744073709551616 := by omega
        clear hn hlt h0 h2
        go_wp2_with fail
        refine (div_any _ _ _ _ wr sa sb DM DN l1 (by rw [VN.out]; exact HN.out)).mono ?_
        rintro e w3 ⟨q, r, rfl, hq, hr, hb3⟩
        rw [VM.out, VN.out] at hr
        have hb3t : Below w.heap.size w w3 := hb.trans (hb3.mono hb.size)
        have sb3 := sb.below hb3
        have VR := Lib.hid (val_dig (B := L32) (by decide) (m % n))
        go_wp2_with fail
        refine (low_any _ _ w3 sb3 DN hl2).mono ?_
        rintro e w4 ⟨rfl, hw4⟩; obtain rfl := hw4.symm
        rw [VN.out]
        go_wp2_with fail
        refine (low_any _ _ w3 hr (Dig_dig (by decide) _) HL.out).mono ?_
        rintro e w4 ⟨rfl, hw4⟩; obtain rfl := hw4.symm
        rw [VR.out]
        generalize m % n = t at *
        go_wp2_with fail
        go_loopw [11, 12] (fun x y wr => ∃ (p q : Nat), x = .int .u64 (p : Int) ∧ y = .int .u64 (q : Int) ∧ p < 18446744073709551616 ∧ q < 18446744073709551616 ∧ Below w.heap.size w wr ∧ Hid (Nat.gcd p q = G)) (fun _ y _ => (intOf y).toNat)
        case atStart => exact ⟨n, t, rfl, rfl, hn64, hr64, hb3t, HST⟩
        case round =>
          obtain ⟨p, q', rfl, rfl, hp, hq', hbw, HGG⟩ := hrel
          by_cases hq0 : 0 < q'
          · have hpm := Nat.mod_lt p hq0
            have HS := Lib.hid (show Nat.gcd q' (p % q') = G by rw [gcd_step]; exact HGG.out)
            have e0 : (p : Int) % (q' : Int) = ((p % q' : Nat) : Int) := by simp
            have hb0 : 0 ≤ (p : Int) % (q' : Int) ∧ (p : Int) % (q' : Int) < 18446744073709551616 := by rw [e0]; omega
            have E0 := Lib.hid e0
            have HPM := Lib.hid hpm
            clear e0 hpm
            go_wp2_with fail
            go_quiet (fail)
            go_wp2_with fail
            go_roundw
            case rel => exact ⟨q', p % q', rfl, by rw [E0.out], hq', by have := HPM.out; omega, hbw.trans (below_drewN' _ _ _), HS⟩
            case measure =>
              have := HPM.out
              simp [intOf]; omega
          · have hq1 : q' = 0 := by omega
            have HGp := Lib.hid (show p = G by have := HGG.out; rwa [hq1, Nat.gcd_zero_right] at this)
            clear hq1
            go_wp2_with fail
            refine (of_any p _ _ rfl hp).mono ?_
            rintro e w5 ⟨v5, rfl, hs5, hb5⟩
            go_wp2_with fail
            go_ret
            exact ⟨_, rfl, by rw [← HGp.out]; exact hs5, hbw.trans (hb5.mono hbw.size)⟩
theorem gcd_n {va vb : Value} {m n k1 k2 : Nat} {w : World} (hx : GN w va m k1) (hy : GN w vb n k2) (h1 : k1 ≤ 900000) (h2 : k2 ≤ 900000) :
    Calls Tryd.prog 55 #[va, vb] w fun e w' => ∃ v, e = .returned v ∧ Sl w' .u32 v (dig L32 (Nat.gcd m n)) ∧ Below w.heap.size w w' := by
  obtain ⟨xs, hx, dx, rfl, lx⟩ := hx
  obtain ⟨ys, hy, dy, rfl, ly⟩ := hy
  exact gcd_any _ _ _ _ w hx hy dx dy (by omega) (by omega)
theorem gcd_lt {m n B : Nat} (hm : m < B) (hn : n < B) : Nat.gcd m n < B := by
  rcases Nat.eq_zero_or_pos m with h | h
  · rw [h, Nat.gcd_zero_left]; exact hn
  · exact Nat.lt_of_le_of_lt (Nat.gcd_le_left n h) hm
theorem bl_pos {n : Nat} (h : 0 < n) : 0 < bl n := by rw [bl_half h]; omega

end Go.Proofs.YtbkeildnhimfbaaDoor
