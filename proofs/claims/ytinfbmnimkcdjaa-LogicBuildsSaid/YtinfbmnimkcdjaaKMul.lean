/-
  Joined: MulA, Num, BitsN, RefD.
-/
import Derived.Test.YtinfbmnimkcdjaaKRef
import Derived.Test.YtinfbmnimkcdjaaKText
import Derived.RegionTactic
import Derived.StillTailTactics
/- Contracts of package nat: addTimes, Mul. -/
namespace Go.Proofs.Ytinfbmnimkcdjaa
open Go.RowKit
set_option maxRecDepth 100000

theorem times_step {t ys : List Nat} {S x k c z : Nat} (hy : k < ys.length) (ht : k < t.length) (hv : val L32 t + c * L32 ^ k = S + x * val L32 (ys.take k)) (hz : z = c + (x * ys.getD k 0 + t.getD k 0)) :
    val L32 (t.set k (z % L32)) + (z / L32) * L32 ^ (k + 1) = S + x * val L32 (ys.take (k + 1)) := by
  have h1 := val_set L32 t k (z % L32) ht
  rw [val_take_succ L32 ys k hy, Nat.pow_succ]
  have h2 := Nat.mod_add_div z L32
  generalize z % L32 = r at *
  generalize z / L32 = q at *
  generalize L32 ^ k = P at *
  have h3 : (r + L32 * q) * P = (c + (x * ys.getD k 0 + t.getD k 0)) * P := by rw [h2, hz]
  grind

theorem mul_bound {x y : Nat} (hx : x < 4294967296) (hy : y < 4294967296) : x * y ≤ 18446744065119617025 :=
  Nat.le_trans (Nat.mul_le_mul (show x ≤ 4294967295 by omega) (show y ≤ 4294967295 by omega)) (by decide)

set_option maxHeartbeats 1000000 in
theorem addTimes_any (g : Nat) (pre s post ys : List Nat) (vs vb : Value) (x : Nat) (zx : Int) (w : World) (hw : Ws w .u32 97 vs g pre s post) (hb : Sl w .u32 vb ys) (ha : Apart g vb) (hl : ys.length < s.length)
   (hs : Dig L32 s) (hy : Dig L32 ys) (hzx : zx = (x : Int)) (hx : x < 4294967296) (h0 : s.getD ys.length 0 = 0) :
    Calls Try.prog 81 #[vs, vb, .int .u32 zx] w fun e w' => ∃ s', e = .returned (.tuple #[]) ∧ Ws w' .u32 97 vs g pre s' post ∧ w.grownBy w' (some g) ∧ s'.length = s.length ∧ Dig L32 s' ∧
      val L32 s' = val L32 s + x * val L32 ys := by
  subst hzx
  have H0 := Lib.hid h0
  clear h0
  obtain ⟨ao, cap, rfl, h1, h2, h3, h4⟩ := hw
  have HB := Lib.hid hb
  obtain ⟨bo, bcap, rfl, k1, k2, k3, k4⟩ := hb
  go_enter Try.func81, Try.ntmps81
  go_wp2
  go_loopw [6, 11] (fun c i wr => ∃ (k : Nat) (t : List Nat) (cc : Nat), i = .int .i64 k ∧ c = .int .u64 (cc : Int) ∧ cc < 4294967296 ∧ k ≤ ys.length ∧ w.grownBy wr (some g) ∧ Hid (t.length = s.length) ∧ Dig 4294967296 t ∧
     WsAt wr .u32 97 ao g pre t post s.length ∧ Hid (t.drop k = s.drop k) ∧ Hid (val L32 t + cc * L32 ^ k = val L32 s + x * val L32 (ys.take k)))
    (fun _ i _ => ys.length - (intOf i).toNat)
  case atStart => exact ⟨0, s, 0, rfl, rfl, by omega, by omega, World.grownBy.refl _ _, Lib.hid rfl, hs, h4, Lib.hid rfl, Lib.hid (by simp [val])⟩
  case round =>
    obtain ⟨k, t, cc, rfl, rfl, hcc, hk, hg, Ht, hdt, hB, HD, HV⟩ := hrel
    by_cases hlt : k < ys.length
    · obtain ⟨b, rfl, hcb⟩ := k4 k hlt
      obtain ⟨rfl, hB'⟩ := hB (by omega)
      have hkt : k < t.length := by have := Ht.out; omega
      have hcb' := (HB.out.grown hg ha).at hlt
      have hct : wr.cell? ⟨g, pre.length + k, none⟩ = some (.int .u32 (nth t k)) := by
        rw [hB'.cell (by simp; omega), nth_mid _ _ _ _ hkt]
      have hft := hB'.frozen (pre.length + k)
      have y1 := u32_wf hy k
      have t1 := u32_wf hdt k
      have y0 := hy.getD (by decide) k
      have t0 := hdt.getD (by decide) k
      have hm : 0 ≤ (x : Int) * nth ys k ∧ (x : Int) * nth ys k ≤ 18446744065119617025 := by
        have := mul_bound hx y0
        have e : (x : Int) * nth ys k = ((x * ys.getD k 0 : Nat) : Int) := by unfold nth; simp
        rw [e]; omega
      have HE := Lib.hid (show (cc : Int) + ((x : Int) * nth ys k + nth t k) = ((cc + (x * ys.getD k 0 + t.getD k 0) : Nat) : Int) by unfold nth; simp)
      have hzb : cc + (x * ys.getD k 0 + t.getD k 0) < 18446744073709551616 := by have := mul_bound hx y0; omega
      have HS := Lib.hid (times_step (x := x) (ys := ys) hlt hkt HV.out rfl)
      have HZ := Lib.hid hzb
      clear hcb hB h4 k4 y0 t0 hzb
      go_wp2
      go_roundw
      case rel =>
        have hE := HE.out
        have hz := HZ.out
        refine ⟨k + 1, t.set k ((cc + (x * ys.getD k 0 + t.getD k 0)) % L32), (cc + (x * ys.getD k 0 + t.getD k 0)) / L32, by go_num, ?_, ?_, by omega, grown_setCell hg _, Lib.hid (by rw [List.length_set]; exact Ht.out), hdt.set (Nat.mod_lt _ (by decide)), fun _ => ⟨rfl, ?_⟩, Lib.hid ?_, HS⟩
        · rw [hE]; congr 1
        · exact Nat.div_lt_of_lt_mul (by omega)
        · rw [← set_mid _ _ _ _ _ hkt]
          exact hB'.set _ _ _ (by rw [hE]; rfl)
        · rw [List.drop_set_of_lt (by omega)]
          have := congrArg (List.drop 1) HD.out
          rwa [List.drop_drop, List.drop_drop] at this
      case measure => simp [intOf]; omega
    · have hkk : k = ys.length := by omega
      subst hkk
      obtain ⟨rfl, hB'⟩ := hB (by omega)
      have hkt : ys.length < t.length := by have := Ht.out; omega
      have hft := hB'.frozen (pre.length + ys.length)
      have hct : wr.cell? ⟨g, pre.length + ys.length, none⟩ = some (.int .u32 (nth t ys.length)) := by
        rw [hB'.cell (by simp; omega), nth_mid _ _ _ _ hkt]
      have ht0 : t.getD ys.length 0 = 0 := by
        have := congrArg (fun l => l.getD 0 0) HD.out
        simp only [List.getD_eq_getElem?_getD, List.getElem?_drop, Nat.add_zero] at this ⊢
        rw [this]
        have h := H0.out
        simpa using h
      have hfinv : val L32 (t.set ys.length cc) = val L32 s + x * val L32 ys := by
        have h1 := val_set L32 t ys.length cc hkt
        have h2 := HV.out
        rw [List.take_length] at h2
        rw [ht0] at h1
        omega
      have HF := Lib.hid hfinv
      clear hfinv ht0 hB h4 k4
      go_wp2
      go_end0
      refine ⟨t.set ys.length cc, rfl, ⟨some ⟨g, pre.length, none⟩, cap, by rw [List.length_set, Ht.out], by rw [List.length_set, Ht.out]; exact h1, h2, h3, fun _ => ⟨rfl, ?_⟩⟩, grown_setCell hg _, by rw [List.length_set]; exact Ht.out, hdt.set hcc, HF.out⟩
      rw [← set_mid _ _ _ _ _ hkt]
      exact hB'.set _ _ _ (by omega)

/-- A number that is less than B^m has no digit but 0 from place m on. -/
theorem high_zero {B : Nat} {xs : List Nat} (hB : 2 ≤ B) {m : Nat} (h : val B xs < B ^ m) {j : Nat} (hj : m ≤ j) : xs.getD j 0 = 0 := by
  by_cases hl : j < xs.length
  · have h1 := val_split B xs (j + 1) (by omega)
    have h2 := val_take_succ B xs j hl
    rw [h2] at h1
    have h3 : B ^ m ≤ B ^ j := Nat.pow_le_pow_right (by omega) hj
    rcases Nat.eq_zero_or_pos (xs.getD j 0) with h0 | h0
    · exact h0
    · have : 1 * B ^ j ≤ xs.getD j 0 * B ^ j := Nat.mul_le_mul_right _ h0
      omega
  · exact getD_out (by omega)

theorem mul_step {P s' xs ys : List Nat} {i : Nat} (hi : i ≤ P.length) (hv : val L32 P = val L32 (xs.take i) * val L32 ys) (hs : val L32 s' = val L32 (P.drop i) + xs.getD i 0 * val L32 ys) :
    val L32 (P.take i ++ s') = val L32 (xs.take (i + 1)) * val L32 ys := by
  rw [val_append, hs, val_take_succ', Nat.add_mul, ← hv, val_split L32 P i hi, List.length_take, Nat.min_eq_left hi]
  grind

theorem mul_high {P xs ys : List Nat} {i : Nat} (dx : Dig L32 xs) (dy : Dig L32 ys) (hi : i ≤ xs.length) (hv : val L32 P = val L32 (xs.take i) * val L32 ys) : (P.drop i).getD ys.length 0 = 0 := by
  have h1 := val_lt (dx.take i)
  have h2 := val_lt dy
  rw [List.length_take, Nat.min_eq_left hi] at h1
  have h3 : val L32 P < L32 ^ (i + ys.length) := by
    rw [hv, Nat.pow_add]
    exact Nat.mul_lt_mul'' h1 h2
  have := high_zero (B := L32) (xs := P) (by decide) h3 (Nat.le_refl _)
  simpa [List.getD, List.getElem?_drop] using this

theorem ws_part {w : World} {T : TypeId} {g i n : Nat} {P : List Nat} (hB : Blk w g .u32 T P) (hi : i < P.length) (hn : n = P.length - i) (hm : P.length ≤ 9223372036854775807) :
    Ws w .u32 T (.slice (some ⟨g, i, none⟩) n n) g (P.take i) (P.drop i) [] := by
  have e1 : (P.drop i).length = n := by simp; omega
  have e2 : (P.take i).length = i := by simp; omega
  refine ⟨some ⟨g, i, none⟩, n, by rw [e1], by rw [e1]; omega, by omega, (fun e => by cases e), fun _ => ⟨by rw [e2], ?_⟩⟩
  rw [List.take_append_drop, List.append_nil]; exact hB
theorem ws_whole {w : World} {T : TypeId} {v : Value} {g : Nat} {pre s post : List Nat} (h : Ws w .u32 T v g pre s post) (h0 : s.length ≠ 0) : Blk w g .u32 T (pre ++ s ++ post) := by
  obtain ⟨_, _, _, _, _, _, h4⟩ := h; exact (h4 h0).2

set_option maxHeartbeats 1000000 in
theorem mul_any (va vb : Value) (xs ys : List Nat) (w : World) (hx : Sl w .u32 va xs) (hy : Sl w .u32 vb ys) (dx : Dig L32 xs) (dy : Dig L32 ys) (lx : xs.length ≤ 1000000) (ly : ys.length ≤ 1000000) :
    Calls Try.prog 65 #[va, vb] w fun e w' => ∃ v, e = .returned v ∧ Sl w' .u32 v (dig L32 (val L32 xs * val L32 ys)) ∧ Below w.heap.size w w' := by
  obtain ⟨i0, hi, hz0, hz1, hz2⟩ := info_parts info51
  obtain ⟨ao, ac, rfl⟩ := sl_shape hx
  obtain ⟨bo, bc, rfl⟩ := sl_shape hy
  have nx := nz_le xs
  have ny := nz_le ys
  have hx' := hx.take (nz xs) nx
  have hy' := hy.take (nz ys) ny
  have dx' := dx.take (nz xs)
  have dy' := dy.take (nz ys)
  have VX := val_take_nz (B := L32) (by decide) dx
  have VY := val_take_nz (B := L32) (by decide) dy
  have ex : (xs.take (nz xs)).length = nz xs := by simp; omega
  have ey : (ys.take (nz ys)).length = nz ys := by simp; omega
  have HSX := Lib.hid hx
  have HSY := Lib.hid hy
  have SIGX := Lib.hid (fun w => sig_any ao xs.length ac xs w)
  have SIGY := Lib.hid (fun w => sig_any bo ys.length bc ys w)
  clear hx hy
  rw [← VX, ← VY]
  clear VX VY dx dy
  generalize xs.take (nz xs) = X at *
  generalize ys.take (nz ys) = Y at *
  generalize nz xs = n at *
  generalize nz ys = m at *
  have SX : Hid (∀ w1, Below w.heap.size w w1 → ∀ k, k < n → ∃ a, ao = some a ∧ w1.cell? (a.add k) = some (.int .u32 (nth X k))) := by
    intro w1 hb k hk
    obtain ⟨ao', cap', e, _, _, _, q⟩ := hx'.below hb
    injection e with e1 e2 e3
    subst e1
    exact q k (by omega)
  have EX := Lib.hid ex
  have EY := Lib.hid ey
  clear ex ey
  go_enter Try.func65, Try.ntmps65
  go_wp2_with fail
  refine (SIGX.out _ HSX.out).mono ?_; rintro e w' ⟨rfl, rfl⟩
  go_wp2_with fail
  refine (SIGY.out _ HSY.out).mono ?_; rintro e w' ⟨rfl, rfl⟩
  go_wp2_with (at_make; refine wpList_make_blk _ rfl _ _ 24 rfl 97 i0 .u32 Try.underlying24 hi hz0 hz1 _ _ _ _ (n + m) rfl rfl (by omega) (by omega) (by omega) (by omega) ?_; intro w1 hB1 hb1 hs1)
  go_loopw [20] (fun j wr => ∃ (i : Nat) (P : List Nat), j = .int .i64 i ∧ i ≤ n ∧ Blk wr w.heap.size .u32 97 P ∧ Below w.heap.size w wr ∧ Dig L32 P ∧ Hid (P.length = n + m) ∧ Hid (val L32 P = val L32 (X.take i) * val L32 Y)) (fun j _ => n - (intOf j).toNat)
  case atStart => exact ⟨0, _, rfl, Nat.zero_le _, hB1, hb1, Dig.replicate (by decide) _, Lib.hid (by simp), Lib.hid (by rw [val_replicate_zero]; simp [val])⟩
  case round =>
    clear hB1 hb1 hs1
    obtain ⟨i, P, rfl, hin, hB, hb, hdP, HL, HV⟩ := hrel
    by_cases hlt : i < n
    · obtain ⟨a, rfl, hca⟩ := SX.out wr hb i hlt
      have hiP : i < P.length := by have := HL.out; omega
      have hx1 := u32_wf dx' i
      have hx0 := dx'.getD (by decide) i
      have hws := ws_part (n := n + m - i) hB hiP (by rw [HL.out]) (by have := HL.out; omega)
      have hh0 := Lib.hid (mul_high dx' dy' (by rw [EX.out]; exact hin) HV.out)
      have hap : Apart w.heap.size (.slice bo m bc) := sl_apart hy' (Nat.le_refl _)
      have hsize : Hid ((P.drop i).length = n + m - i) := Lib.hid (by rw [List.length_drop, HL.out])
      have hyr := hy'.below hb
      go_wp2_with fail
      refine (addTimes_any w.heap.size (P.take i) (P.drop i) [] Y _ _ (X.getD i 0) _ wr hws hyr hap (by rw [hsize.out, EY.out]; omega) (hdP.drop i) dy' rfl hx0 hh0.out).mono ?_
      rintro e w3 ⟨s', rfl, hs3, hg3, hl3, hd3, hv3⟩
      have hb3 : Below w.heap.size w w3 := hb.trans (below_of_grown' hg3 (Nat.le_refl _) hb.size)
      have hB3 := ws_whole hs3 (by rw [hl3, hsize.out]; omega)
      rw [List.append_nil] at hB3
      have HV3 := Lib.hid (mul_step (by omega) HV.out hv3)
      have HL3 := Lib.hid hl3
      clear hv3 hl3 hs3 hg3 hws hB
      go_wp2_with fail
      go_roundw
      case rel => exact ⟨i + 1, P.take i ++ s', by go_num, by omega, hB3, hb3, (hdP.take i).append hd3, Lib.hid (by rw [List.length_append, HL3.out, hsize.out, List.length_take, HL.out]; omega), HV3⟩
      case measure => simp [intOf]; omega
    · have hii : i = n := by omega
      subst hii
      have hv : val L32 P = val L32 X * val L32 Y := by
        have h := HV.out
        rwa [List.take_of_length_le (by rw [EX.out]; omega)] at h
      have HV' := Lib.hid hv
      clear hv
      have hsl := hB.sl 0 (i + m) (i + m) (by rw [HL.out]; omega) (Nat.le_refl _) (by omega)
      rw [List.drop_zero, List.take_of_length_le (by rw [HL.out]; omega)] at hsl
      go_wp2_with fail
      refine (trimmed_v _ P _ hsl hdP).mono ?_
      rintro e w4 ⟨v4, rfl, ht4, rfl⟩
      go_wp2_with fail
      go_ret
      refine ⟨_, rfl, ?_, hb⟩
      rw [HV'.out] at ht4
      exact ht4
end Go.Proofs.Ytinfbmnimkcdjaa

/- The contracts of package nat said of numbers: a value that reads as a number of at most k limbs. -/
namespace Go.Proofs.Ytinfbmnimkcdjaa
open Go.RowKit
set_option maxRecDepth 100000

/-- The slice v reads, in w, as limbs of the number n, of which there are at most k. -/
def GN (w : World) (v : Value) (n k : Nat) : Prop := ∃ xs, Sl w .u32 v xs ∧ Dig L32 xs ∧ val L32 xs = n ∧ xs.length ≤ k

theorem GN.below {w w' : World} {v : Value} {n k : Nat} (h : GN w v n k) (hb : Below w.heap.size w w') : GN w' v n k := by
  obtain ⟨xs, h1, h2, h3, h4⟩ := h; exact ⟨xs, h1.below hb, h2, h3, h4⟩
theorem GN.lt {w : World} {v : Value} {n k : Nat} (h : GN w v n k) : n < L32 ^ k := by
  obtain ⟨xs, _, h2, h3, h4⟩ := h
  rw [← h3]; exact Nat.lt_of_lt_of_le (val_lt h2) (Nat.pow_le_pow_right (by decide) h4)
theorem gn_dig {w : World} {v : Value} {n k : Nat} (h : Sl w .u32 v (dig L32 n)) (hn : n < L32 ^ k) : GN w v n k :=
  ⟨_, h, Dig_dig (by decide) _, val_dig (by decide) _, length_dig_le (by decide) hn⟩
theorem gn_of {w : World} {v : Value} {xs : List Nat} {k : Nat} (h : Sl w .u32 v xs) (hd : Dig L32 xs) (hk : xs.length ≤ k) : GN w v (val L32 xs) k := ⟨xs, h, hd, rfl, hk⟩

theorem pow_add_lt {m n k1 k2 : Nat} (h1 : m < L32 ^ k1) (h2 : n < L32 ^ k2) : m + n < L32 ^ (k1 + k2 + 1) := by
  have a : L32 ^ k1 ≤ L32 ^ (k1 + k2) := Nat.pow_le_pow_right (by decide) (by omega)
  have b : L32 ^ k2 ≤ L32 ^ (k1 + k2) := Nat.pow_le_pow_right (by decide) (by omega)
  rw [Nat.pow_succ]
  have : L32 ^ (k1 + k2) * 2 ≤ L32 ^ (k1 + k2) * L32 := Nat.mul_le_mul_left _ (by decide)
  omega

theorem add_n {va vb : Value} {m n k1 k2 : Nat} {w : World} (hx : GN w va m k1) (hy : GN w vb n k2) (h1 : k1 ≤ 1000000) (h2 : k2 ≤ 1000000) :
    Calls Try.prog 57 #[va, vb] w fun e w' => ∃ v, e = .returned v ∧ GN w' v (m + n) (k1 + k2 + 1) ∧ Below w.heap.size w w' := by
  have l1 := hx.lt
  have l2 := hy.lt
  obtain ⟨xs, hx, dx, rfl, lx⟩ := hx
  obtain ⟨ys, hy, dy, rfl, ly⟩ := hy
  exact (add_any _ _ _ _ w hx hy dx dy (by omega) (by omega)).mono fun _ _ ⟨v, he, hs, hb⟩ => ⟨v, he, gn_dig hs (pow_add_lt l1 l2), hb⟩
theorem mul_n {va vb : Value} {m n k1 k2 : Nat} {w : World} (hx : GN w va m k1) (hy : GN w vb n k2) (h1 : k1 ≤ 1000000) (h2 : k2 ≤ 1000000) :
    Calls Try.prog 65 #[va, vb] w fun e w' => ∃ v, e = .returned v ∧ GN w' v (m * n) (k1 + k2) ∧ Below w.heap.size w w' := by
  have l1 := hx.lt
  have l2 := hy.lt
  obtain ⟨xs, hx, dx, rfl, lx⟩ := hx
  obtain ⟨ys, hy, dy, rfl, ly⟩ := hy
  exact (mul_any _ _ _ _ w hx hy dx dy (by omega) (by omega)).mono fun _ _ ⟨v, he, hs, hb⟩ => ⟨v, he, gn_dig hs (by rw [Nat.pow_add]; exact Nat.mul_lt_mul'' l1 l2), hb⟩
theorem sub_n {va vb : Value} {m n k1 k2 : Nat} {w : World} (hx : GN w va m k1) (hy : GN w vb n k2) (h1 : k1 ≤ 1000000) (hle : n ≤ m) :
    Calls Try.prog 58 #[va, vb] w fun e w' => ∃ v, e = .returned (.tuple #[v, .bool true]) ∧ GN w' v (m - n) k1 ∧ Below w.heap.size w w' := by
  have l1 := hx.lt
  obtain ⟨xs, hx, dx, rfl, lx⟩ := hx
  obtain ⟨ys, hy, dy, rfl, ly⟩ := hy
  exact (sub_ge _ _ _ _ w hx hy dx dy (by omega) hle).mono fun _ _ ⟨v, he, hs, hb⟩ => ⟨v, he, gn_dig hs (by omega), hb⟩
theorem cmp_n {va vb : Value} {m n k1 k2 : Nat} {w : World} (hx : GN w va m k1) (hy : GN w vb n k2) :
    Calls Try.prog 50 #[va, vb] w fun e w' => e = .returned (.int .i64 (cmpN m n)) ∧ Below w.heap.size w w' := by
  obtain ⟨xs, hx, dx, rfl, lx⟩ := hx
  obtain ⟨ys, hy, dy, rfl, ly⟩ := hy
  exact cmp_any _ _ _ _ w hx hy dx dy
theorem of_n (n : Nat) (z : Int) (w : World) (hz : z = (n : Int)) (hn : n < 18446744073709551616) :
    Calls Try.prog 54 #[.int .u64 z] w fun e w' => ∃ v, e = .returned v ∧ GN w' v n 2 ∧ Below w.heap.size w w' :=
  (of_any n z w hz hn).mono fun _ _ ⟨v, he, hs, hb⟩ => ⟨v, he, gn_dig hs (by have h : L32 ^ 2 = 18446744073709551616 := by decide
                                                                             omega), hb⟩

/-- The lengths of three slices, one behind the other. -/
def three (a b c : Nat) : Nat → Nat
  | 0 => a
  | 1 => b
  | _ => c
theorem rows2_three {w : World} {g : Nat} {ao bo co : Option Addr} {n m l ac bc cc : Nat} (T : TypeId) (h : w.heap[g]? = some (.cells #[.slice ao n ac, .slice bo m bc, .slice co l cc] T (0, 0))) :
    Rows2 w g 3 (three n m l) := by
  intro j hj
  match j, hj with
  | 0, _ => exact ⟨ao, ac, by rw [cell_of_row w g 0 _ T (0, 0) h]; rfl⟩
  | 1, _ => exact ⟨bo, bc, by rw [cell_of_row w g 1 _ T (0, 0) h]; rfl⟩
  | 2, _ => exact ⟨co, cc, by rw [cell_of_row w g 2 _ T (0, 0) h]; rfl⟩
end Go.Proofs.Ytinfbmnimkcdjaa

/- The contract of nat.Bits. -/
namespace Go.Proofs.Ytinfbmnimkcdjaa
open Go.RowKit
set_option maxRecDepth 100000

/-- The number of bits. -/
def bl (n : Nat) : Nat := (dig 2 n).length

theorem bl_zero : bl 0 = 0 := by unfold bl; rw [dig_zero]; rfl
theorem bl_half {n : Nat} (h : 0 < n) : bl n = 1 + bl (n / 2) := by unfold bl; rw [dig_pos (by decide) h]; simp; omega
theorem bitLen_bl (n : Nat) (h : n < 2 ^ 64) : Lib.bitLen n = bl n := by
  induction n using Nat.strongRecOn with
  | ind n ih =>
    by_cases h0 : n = 0
    · subst h0; rw [bl_zero]; decide
    · rw [Lib.bitLen_half n h0 h, bl_half (by omega), ih (n / 2) (by omega) (by omega)]
theorem bl_top (k : Nat) : ∀ v t : Nat, v < 2 ^ k → 0 < t → bl (v + t * 2 ^ k) = k + bl t := by
  induction k with
  | zero => intro v t hv ht; simp at hv; subst hv; simp
  | succ k ih =>
    intro v t hv ht
    have hp : 0 < 2 ^ (k + 1) := Nat.pow_pos (by decide)
    have hpos : 0 < v + t * 2 ^ (k + 1) := by have := Nat.mul_pos ht hp; omega
    rw [bl_half hpos]
    have e : (v + t * 2 ^ (k + 1)) / 2 = v / 2 + t * 2 ^ k := by rw [Nat.pow_succ, ← Nat.mul_assoc]; omega
    rw [e, ih (v / 2) t (by rw [Nat.pow_succ] at hv; omega) ht]
    omega
theorem bl_le {n k : Nat} (h : n < 2 ^ k) : bl n ≤ k := length_dig_le (by decide) h
theorem bl_lt {m n : Nat} (h : bl m < bl n) : m < n := cmp_canon (B := 2) (by decide) h

set_option maxHeartbeats 1000000 in
theorem bits_nat (va : Value) (xs : List Nat) (w : World) (hx : Sl w .u32 va xs) (dx : Dig L32 xs) (lx : xs.length ≤ 1000000) :
    Calls Try.prog 52 #[va] w fun e w' => e = .returned (.int .i64 ((bl (val L32 xs) : Nat) : Int)) ∧ w = w' := by
  have HX := Lib.hid hx
  obtain ⟨ao, ac, rfl, a1, a2, a3, a4⟩ := hx
  have nx := nz_le xs
  by_cases h0 : nz xs = 0
  · have hv : val L32 xs = 0 := by rw [← val_take_nz (B := L32) (by decide) dx, h0]; rfl
    have HV := Lib.hid hv
    have hz : (((nz xs : Nat) : Int) == 0) = true := by rw [h0]; rfl
    clear h0 hv a4
    go_enter Try.func52, Try.ntmps52
    go_wp2_with fail
    refine (sig_any _ _ _ xs _ HX.out).mono ?_; rintro e w' ⟨rfl, rfl⟩
    go_wp2_with fail
    go_ret
    exact ⟨by rw [HV.out, bl_zero]; rfl, rfl⟩
  · have hz : (((nz xs : Nat) : Int) == 0) = false := by rw [beq_eq_false_iff_ne]; omega
    have hp : 1 ≤ nz xs := by omega
    obtain ⟨a, rfl, hca⟩ := a4 (nz xs - 1) (by omega)
    have t1 := dx.getD (by decide) (nz xs - 1)
    have t2 := u32_wf dx (nz xs - 1)
    have hl : bl (xs.getD (nz xs - 1) 0) ≤ 32 := bl_le t1
    have hbl : Lib.bitLen (nth xs (nz xs - 1)).toNat = bl (xs.getD (nz xs - 1) 0) := by
      unfold nth; rw [Int.toNat_natCast]; exact bitLen_bl _ (Nat.lt_trans t1 (by decide))
    have htop : 0 < xs.getD (nz xs - 1) 0 := by
      rcases Nat.eq_zero_or_pos (xs.getD (nz xs - 1) 0) with h | h
      · have h3 := nz_zero (xs := xs.take (nz xs)) (k := nz xs - 1) (by rw [List.length_take]; omega) (by simpa [List.getD, show nz xs - 1 < nz xs by omega] using h)
        have h5 : (dig L32 (val L32 xs)).length = nz xs := length_dig_val (by decide) dx
        have h6 := take_nz (B := L32) (by decide) (Dig_dig (B := L32) (by decide) (val L32 xs))
        rw [val_dig (by decide)] at h6
        have h7 := congrArg List.length h6
        rw [List.length_take, h5, dig_val_take (by decide) dx] at h7
        have h8 : nz ((xs.take (nz xs)).take (nz xs - 1 + 1)) = nz (xs.take (nz xs)) := by
          rw [show nz xs - 1 + 1 = nz xs by omega, List.take_take, Nat.min_self]
        have h9 := nz_le ((xs.take (nz xs)).take (nz xs - 1))
        rw [List.length_take, List.length_take] at h9
        omega
      · exact h
    have hfin : bl (val L32 xs) = (nz xs - 1) * 32 + bl (xs.getD (nz xs - 1) 0) := by
      have e := val_take_nz (B := L32) (by decide) dx
      have e2 := val_take_succ' L32 xs (nz xs - 1)
      rw [show nz xs - 1 + 1 = nz xs by omega] at e2
      have e3 : L32 ^ (nz xs - 1) = 2 ^ ((nz xs - 1) * 32) := by rw [Nat.mul_comm, Nat.pow_mul]
      have e4 := val_lt (dx.take (nz xs - 1))
      rw [List.length_take, Nat.min_eq_left (by omega), e3] at e4
      rw [← e, e2, e3, bl_top _ _ _ e4 htop]
    generalize bl (xs.getD (nz xs - 1) 0) = b at *
    have HF := Lib.hid hfin
    have HB := Lib.hid hbl
    clear h0 a4 hbl hfin
    go_enter Try.func52, Try.ntmps52
    go_wp2_with fail
    refine (sig_any _ _ _ xs _ HX.out).mono ?_; rintro e w' ⟨rfl, rfl⟩
    go_wp2_with fail
    refine (Try.bits_Len32 _ _ (by omega) (by omega)).mono ?_; rintro e w' ⟨rfl, rfl⟩
    rw [HB.out]
    go_wp2_with fail
    go_ret
    refine ⟨?_, rfl⟩
    rw [HF.out, show (((nz xs - 1) * 32 + b : Nat) : Int) = (((nz xs : Nat) : Int) - 1) * 32 + (b : Int) by omega]
    rfl
theorem cmpN_add (a b c : Nat) : cmpN (a + c) (b + c) = cmpN a b := by
  unfold cmpN
  by_cases h : a < b
  · rw [if_pos h, if_pos (by omega)]
  · rw [if_neg h, if_neg (by omega)]
    by_cases h2 : a = b
    · rw [if_pos h2, if_pos (by omega)]
    · rw [if_neg h2, if_neg (by omega)]
theorem bits_n {va : Value} {n k : Nat} {w : World} (hx : GN w va n k) (hk : k ≤ 1000000) :
    Calls Try.prog 52 #[va] w fun e w' => e = .returned (.int .i64 ((bl n : Nat) : Int)) ∧ w = w' := by
  obtain ⟨xs, hx, dx, rfl, lx⟩ := hx
  exact bits_nat _ _ w hx dx (by omega)

end Go.Proofs.Ytinfbmnimkcdjaa

/- Contracts of the reference package: Mul. -/
namespace Go.Proofs.Ytinfbmnimkcdjaa
open Go.RowKit
set_option maxRecDepth 100000

theorem val_add_at (B : Nat) (P : List Nat) (k d : Nat) (h : k < P.length) : val B (P.set k (P.getD k 0 + d)) = val B P + d * B ^ k := by
  have := val_set B P k (P.getD k 0 + d) h
  rw [Nat.add_mul] at this
  omega

theorem rmul_step {P xs ys : List Nat} {i j S : Nat} (hij : i + j < P.length) (hv : val 2 P = S + xs.getD i 0 * 2 ^ i * val 2 (ys.take j)) :
    val 2 (P.set (i + j) (P.getD (i + j) 0 + xs.getD i 0 * ys.getD j 0)) = S + xs.getD i 0 * 2 ^ i * val 2 (ys.take (j + 1)) := by
  rw [val_add_at _ _ _ _ hij, hv, val_take_succ', Nat.pow_add]
  grind
theorem rmul_round {P xs ys : List Nat} {i : Nat} (hv : val 2 P = val 2 (xs.take i) * val 2 ys + xs.getD i 0 * 2 ^ i * val 2 (ys.take ys.length)) : val 2 P = val 2 (xs.take (i + 1)) * val 2 ys := by
  rw [hv, val_take_succ', List.take_length, Nat.add_mul]

theorem getD_set (P : List Nat) (i v t : Nat) : (P.set i v).getD t 0 = if t = i ∧ i < P.length then v else P.getD t 0 := by
  by_cases h : t = i
  · subst h
    by_cases hl : t < P.length
    · simp [List.getD, hl]
    · simp [List.getD, hl]
  · rw [List.getD_eq_getElem?_getD, List.getElem?_set_ne (fun e => h e.symm), ← List.getD_eq_getElem?_getD, if_neg (by simp [h])]

theorem carry_step {Q : List Nat} {k : Nat} (hk : k + 1 < Q.length) :
    val 2 ((Q.set (k + 1) (Q.getD (k + 1) 0 + Q.getD k 0 / 2)).set k (Q.getD k 0 % 2)) = val 2 Q := by
  have h1 := val_add_at 2 Q (k + 1) (Q.getD k 0 / 2) hk
  have h2 := val_set 2 (Q.set (k + 1) (Q.getD (k + 1) 0 + Q.getD k 0 / 2)) k (Q.getD k 0 % 2) (by rw [List.length_set]; omega)
  rw [getD_set, if_neg (by omega), h1, Nat.pow_succ] at h2
  have h3 := Nat.mod_add_div (Q.getD k 0) 2
  generalize Q.getD k 0 % 2 = r at *
  generalize Q.getD k 0 / 2 = q at *
  generalize 2 ^ k = p at *
  rw [← h3] at h2
  grind

theorem mul_lt_bits {xs ys : List Nat} (dx : Dig 2 xs) (dy : Dig 2 ys) : val 2 xs * val 2 ys < 2 ^ (xs.length + ys.length) := by
  rw [Nat.pow_add]; exact Nat.mul_lt_mul'' (val_lt dx) (val_lt dy)
theorem dig_of_bits {Q : List Nat} {n : Nat} (hl : Q.length = n + 1) (hb : ∀ t, t < n → Q.getD t 0 < 2) (h0 : Q.getD n 0 = 0) : Dig 2 Q := by
  intro x hx
  obtain ⟨i, hi, rfl⟩ := List.getElem_of_mem hx
  have e : Q[i] = Q.getD i 0 := by simp [List.getD, hi]
  rw [e]
  by_cases h : i < n
  · exact hb i h
  · have : i = n := by omega
    subst this; omega

/-- No entry is greater than M. -/
def AtMost (M : Nat) (P : List Nat) : Prop := ∀ k, P.getD k 0 ≤ M
theorem AtMost.set {M M' : Nat} {P : List Nat} (h : AtMost M P) (hM : M ≤ M') {i v : Nat} (hv : v ≤ M') : AtMost M' (P.set i v) := by
  intro k
  by_cases hk : k = i
  · subst hk
    by_cases hl : k < P.length
    · simpa [List.getD, hl] using hv
    · simp [List.getD, Nat.le_of_not_lt hl]
  · have := h k
    rw [List.getD_eq_getElem?_getD, List.getElem?_set_ne (fun e => hk e.symm), ← List.getD_eq_getElem?_getD]; omega

theorem atMost_zeros (M n : Nat) : AtMost M (List.replicate n 0) := by
  intro k
  by_cases h : k < n
  · simp [List.getD, h]
  · simp [List.getD, Nat.le_of_not_lt h]

theorem mul_bit {x y : Nat} (hx : x < 2) (hy : y < 2) : x * y ≤ 1 := by
  have := Nat.mul_le_mul (show x ≤ 1 by omega) (show y ≤ 1 by omega); omega

end Go.Proofs.Ytinfbmnimkcdjaa
