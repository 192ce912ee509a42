/-
  Contracts of package nat: addTimes, Mul.
-/
import Derived.Test.YtbkeildnhimfbaaDoorCore
namespace Go.Proofs.YtbkeildnhimfbaaDoor
open Go.RowKit
set_option maxRecDepth 100000

theorem times_step {t ys : List Nat} {S x k c z : Nat} (hy : k < ys.length) (ht : k < t.length) (hv : val L32 t + c * L32 ^ k = S + x * val L32 (ys.take k)) (hz : z = c + (x * ys.getD k 0 + t.getD k 0)) :
    val L32 (t.set k (z % L32)) + (z / L32) * L32 ^ (k + 1) = S + x * val L32 (ys.take (k + 1)) := by
  have h1 := val_set L32 t k (z % L32) ht
  rw [val_take_succ L32 ys k hy, Nat.pow_succ]
  have h2 := Nat.mod_add_div z L32
  generalize z % L32 = r at *
  generalize z / L32 = q at *
  generalize L32 ^ k = P at *
  have h3 : (r + L32 * q) * P = (c + (x * ys.getD k 0 + t.getD k 0)) * P := by rw [h2, hz]
  grind

theorem mul_bound {x y : Nat} (hx : x < 4294967296) (hy : y < 4294967296) : x * y ≤ 18446744065119617025 :=
  Nat.le_trans (Nat.mul_le_mul (show x ≤ 4294967295 by omega) (show y ≤ 4294967295 by omega)) (by decide)

set_option maxHeartbeats 1000000 in
theorem addTimes_any (g : Nat) (pre s post ys : List Nat) (vs vb : Value) (x : Nat) (zx : Int) (w : World) (hw : Ws w .u32 72 vs g pre s post) (hb : Sl w .u32 vb ys) (ha : Apart g vb) (hl : ys.length < s.length)
   (hs : Dig L32 s) (hy : Dig L32 ys) (hzx : zx = (x : Int)) (hx : x < 4294967296) (h0 : s.getD ys.length 0 = 0) :
    Calls Tryd.prog 66 #[vs, vb, .int .u32 zx] w fun e w' => ∃ s', e = .returned (.tuple #[]) ∧ Ws w' .u32 72 vs g pre s' post ∧ w.grownBy w' (some g) ∧ s'.length = s.length ∧ Dig L32 s' ∧
      val L32 s' = val L32 s + x * val L32 ys := by
  subst hzx
  have H0 := Lib.hid h0
  clear h0
  obtain ⟨ao, cap, rfl, h1, h2, h3, h4⟩ := hw
  have HB := Lib.hid hb
  obtain ⟨bo, bcap, rfl, k1, k2, k3, k4⟩ := hb
  go_enter Tryd.func66, Tryd.ntmps66
  go_wp2
  go_loopw [6, 11] (fun c i wr => ∃ (k : Nat) (t : List Nat) (cc : Nat), i = .int .i64 k ∧ c = .int .u64 (cc : Int) ∧ cc < 4294967296 ∧ k ≤ ys.length ∧ w.grownBy wr (some g) ∧ Hid (t.length = s.length) ∧ Dig 4294967296 t ∧
     WsAt wr .u32 72 ao g pre t post s.length ∧ Hid (t.drop k = s.drop k) ∧ Hid (val L32 t + cc * L32 ^ k = val L32 s + x * val L32 (ys.take k)))
    (fun _ i _ => ys.length - (intOf i).toNat)
  case atStart => exact ⟨0, s, 0, rfl, rfl, by omega, by omega, World.grownBy.refl _ _, Lib.hid rfl, hs, h4, Lib.hid rfl, Lib.hid (by simp [val])⟩
  case round =>
    obtain ⟨k, t, cc, rfl, rfl, hcc, hk, hg, Ht, hdt, hB, HD, HV⟩ := hrel
    by_cases hlt : k < ys.length
    · obtain ⟨b, rfl, hcb⟩ := k4 k hlt
      obtain ⟨rfl, hB'⟩ := hB (by omega)
      have hkt : k < t.length := by have := Ht.out; omega
      have hcb' := (HB.out.grown hg ha).at hlt
      have hct : wr.cell? ⟨g, pre.length + k, none⟩ = some (.int .u32 (nth t k)) := by
        rw [hB'.cell (by simp; omega), nth_mid _ _ _ _ hkt]
      have hft := hB'.frozen (pre.length + k)
      have y1 := u32_wf hy k
      have t1 := u32_wf hdt k
      have y0 := hy.getD (by decide) k
      have t0 := hdt.getD (by decide) k
      have hm : 0 ≤ (x : Int) * nth ys k ∧ (x : Int) * nth ys k ≤ 18446744065119617025 := by
        have := mul_bound hx y0
        have e : (x : Int) * nth ys k = ((x * ys.getD k 0 : Nat) : Int) := by unfold nth; simp
        rw [e]; omega
      have HE := Lib.hid (show (cc : Int) + ((x : Int) * nth ys k + nth t k) = ((cc + (x * ys.getD k 0 + t.getD k 0) : Nat) : Int) by unfold nth; simp)
      have hzb : cc + (x * ys.getD k 0 + t.getD k 0) < 18446744073709551616 := by have := mul_bound hx y0; omega
      have HS := Lib.hid (times_step (x := x) (ys := ys) hlt hkt HV.out rfl)
      have HZ := Lib.hid hzb
      clear hcb hB h4 k4 y0 t0 hzb
      go_wp2
      go_roundw
      case rel =>
        have hE := HE.out
        have hz := HZ.out
        refine ⟨k + 1, t.set k ((cc + (x * ys.getD k 0 + t.getD k 0)) % L32), (cc + (x * ys.getD k 0 + t.getD k 0)) / L32, by go_num, ?_, ?_, by omega, grown_setCell hg _, Lib.hid (by rw [List.length_set]; exact Ht.out), hdt.set (Nat.mod_lt _ (by decide)), fun _ => ⟨rfl, ?_⟩, Lib.hid ?_, HS⟩
        · rw [hE]; congr 1
        · exact Nat.div_lt_of_lt_mul (by omega)
        · rw [← set_mid _ _ _ _ _ hkt]
          exact hB'.set _ _ _ (by rw [hE]; rfl)
        · rw [List.drop_set_of_lt (by omega)]
          have := congrArg (List.drop 1) HD.out
          rwa [List.drop_drop, List.drop_drop] at this
      case measure => simp [intOf]; omega
    · have hkk : k = ys.length := by omega
      subst hkk
      obtain ⟨rfl, hB'⟩ := hB (by omega)
      have hkt : ys.length < t.length := by have := Ht.out; omega
      have hft := hB'.frozen (pre.length + ys.length)
      have hct : wr.cell? ⟨g, pre.length + ys.length, none⟩ = some (.int .u32 (nth t ys.length)) := by
        rw [hB'.cell (by simp; omega), nth_mid _ _ _ _ hkt]
      have ht0 : t.getD ys.length 0 = 0 := by
        have := congrArg (fun l => l.getD 0 0) HD.out
        simp only [List.getD_eq_getElem?_getD, List.getElem?_drop, Nat.add_zero] at this ⊢
        rw [this]
        have h := H0.out
        simpa using h
      have hfinv : val L32 (t.set ys.length cc) = val L32 s + x * val L32 ys := by
        have h1 := val_set L32 t ys.length cc hkt
        have h2 := HV.out
        rw [List.take_length] at h2
        rw [ht0] at h1
        omega
      have HF := Lib.hid hfinv
      clear hfinv ht0 hB h4 k4
      go_wp2
      go_end0
      refine ⟨t.set ys.length cc, rfl, ⟨some ⟨g, pre.length, none⟩, cap, by rw [List.length_set, Ht.out], by rw [List.length_set, Ht.out]; exact h1, h2, h3, fun _ => ⟨rfl, ?_⟩⟩, grown_setCell hg _, by rw [List.length_set]; exact Ht.out, hdt.set hcc, HF.out⟩
      rw [← set_mid _ _ _ _ _ hkt]
      exact hB'.set _ _ _ (by omega)

/-- A number that is less than B^m has no digit but 0 from place m on. -/
theorem high_zero {B : Nat} {xs : List Nat} (hB : 2 ≤ B) {m : Nat} (h : val B xs < B ^ m) {j : Nat} (hj : m ≤ j) : xs.getD j 0 = 0 := by
  by_cases hl : j < xs.length
  · have h1 := val_split B xs (j + 1) (by omega)
    have h2 := val_take_succ B xs j hl
    rw [h2] at h1
    have h3 : B ^ m ≤ B ^ j := Nat.pow_le_pow_right (by omega) hj
    rcases Nat.eq_zero_or_pos (xs.getD j 0) with h0 | h0
    · exact h0
    · have : 1 * B ^ j ≤ xs.getD j 0 * B ^ j := Nat.mul_le_mul_right _ h0
      omega
  · exact getD_out (by omega)

theorem mul_step {P s' xs ys : List Nat} {i : Nat} (hi : i ≤ P.length) (hv : val L32 P = val L32 (xs.take i) * val L32 ys) (hs : val L32 s' = val L32 (P.drop i) + xs.getD i 0 * val L32 ys) :
    val L32 (P.take i ++ s') = val L32 (xs.take (i + 1)) * val L32 ys := by
  rw [val_append, hs, val_take_succ', Nat.add_mul, ← hv, val_split L32 P i hi, List.length_take, Nat.min_eq_left hi]
  grind

theorem mul_high {P xs ys : List Nat} {i : Nat} (dx : Dig L32 xs) (dy : Dig L32 ys) (hi : i ≤ xs.length) (hv : val L32 P = val L32 (xs.take i) * val L32 ys) : (P.drop i).getD ys.length 0 = 0 := by
  have h1 := val_lt (dx.take i)
  have h2 := val_lt dy
  rw [List.length_take, Nat.min_eq_left hi] at h1
  have h3 : val L32 P < L32 ^ (i + ys.length) := by
    rw [hv, Nat.pow_add]
    exact Nat.mul_lt_mul'' h1 h2
  have := high_zero (B := L32) (xs := P) (by decide) h3 (Nat.le_refl _)
  simpa [List.getD, List.getElem?_drop] using this

theorem ws_part {w : World} {T : TypeId} {g i n : Nat} {P : List Nat} (hB : Blk w g .u32 T P) (hi : i < P.length) (hn : n = P.length - i) (hm : P.length ≤ 9223372036854775807) :
    Ws w .u32 T (.slice (some ⟨g, i, none⟩) n n) g (P.take i) (P.drop i) [] := by
  have e1 : (P.drop i).length = n := by simp; omega
  have e2 : (P.take i).length = i := by simp; omega
  refine ⟨some ⟨g, i, none⟩, n, by rw [e1], by rw [e1]; omega, by omega, (fun e => by cases e), fun _ => ⟨by rw [e2], ?_⟩⟩
  rw [List.take_append_drop, List.append_nil]; exact hB
theorem ws_whole {w : World} {T : TypeId} {v : Value} {g : Nat} {pre s post : List Nat} (h : Ws w .u32 T v g pre s post) (h0 : s.length ≠ 0) : Blk w g .u32 T (pre ++ s ++ post) := by
  obtain ⟨_, _, _, _, _, _, h4⟩ := h; exact (h4 h0).2

set_option maxHeartbeats 1000000 in
theorem mul_any (va vb : Value) (xs ys : List Nat) (w : World) (hx : Sl w .u32 va xs) (hy : Sl w .u32 vb ys) (dx : Dig L32 xs) (dy : Dig L32 ys) (lx : xs.length ≤ 1000000) (ly : ys.length ≤ 1000000) :
    Calls Tryd.prog 44 #[va, vb] w fun e w' => ∃ v, e = .returned v ∧ Sl w' .u32 v (dig L32 (val L32 xs * val L32 ys)) ∧ Below w.heap.size w w' := by
  obtain ⟨i0, hi, hz0, hz1, hz2⟩ := info_parts info51
  obtain ⟨ao, ac, rfl⟩ := sl_shape hx
  obtain ⟨bo, bc, rfl⟩ := sl_shape hy
  have nx := nz_le xs
  have ny := nz_le ys
  have hx' := hx.take (nz xs) nx
  have hy' := hy.take (nz ys) ny
  have dx' := dx.take (nz xs)
  have dy' := dy.take (nz ys)
  have VX := val_take_nz (B := L32) (by decide) dx
  have VY := val_take_nz (B := L32) (by decide) dy
  have ex : (xs.take (nz xs)).length = nz xs := by simp; omega
  have ey : (ys.take (nz ys)).length = nz ys := by simp; omega
  have HSX := Lib.hid hx
  have HSY := Lib.hid hy
  have SIGX := Lib.hid (fun w => sig_any ao xs.length ac xs w)
  have SIGY := Lib.hid (fun w => sig_any bo ys.length bc ys w)
  clear hx hy
  rw [← VX, ← VY]
  clear VX VY dx dy
  generalize xs.take (nz xs) = X at *
  generalize ys.take (nz ys) = Y at *
  generalize nz xs = n at *
  generalize nz ys = m at *
  have SX : Hid (∀ w1, Below w.heap.size w w1 → ∀ k, k < n → ∃ a, ao = some a ∧ w1.cell? (a.add k) = some (.int .u32 (nth X k))) := by
    intro w1 hb k hk
    obtain ⟨ao', cap', e, _, _, _, q⟩ := hx'.below hb
    injection e with e1 e2 e3
    subst e1
    exact q k (by omega)
  have EX := Lib.hid ex
  have EY := Lib.hid ey
  clear ex ey
  go_enter Tryd.func44, Tryd.ntmps44
  go_wp2_with fail
  refine (SIGX.out _ HSX.out).mono ?_; rintro e w' ⟨rfl, rfl⟩
  go_wp2_with fail
  refine (SIGY.out _ HSY.out).mono ?_; rintro e w' ⟨rfl, rfl⟩
  go_wp2_with (at_make; refine wpList_make_blk _ rfl _ _ 23 rfl 72 i0 .u32 Tryd.underlying23 hi hz0 hz1 _ _ _ _ (n + m) rfl rfl (by omega) (by omega) (by omega) (by omega) ?_; intro w1 hB1 hb1 hs1)
  go_loopw [20] (fun j wr => ∃ (i : Nat) (P : List Nat), j = .int .i64 i ∧ i ≤ n ∧ Blk wr w.heap.size .u32 72 P ∧ Below w.heap.size w wr ∧ Dig L32 P ∧ Hid (P.length = n + m) ∧ Hid (val L32 P = val L32 (X.take i) * val L32 Y)) (fun j _ => n - (intOf j).toNat)
  case atStart => exact ⟨0, _, rfl, Nat.zero_le _, hB1, hb1, Dig.replicate (by decide) _, Lib.hid (by simp), Lib.hid (by rw [val_replicate_zero]; simp [val])⟩
  case round =>
    clear hB1 hb1 hs1
    obtain ⟨i, P, rfl, hin, hB, hb, hdP, HL, HV⟩ := hrel
    by_cases hlt : i < n
    · obtain ⟨a, rfl, hca⟩ := SX.out wr hb i hlt
      have hiP : i < P.length := by have := HL.out; omega
      have hx1 := u32_wf dx' i
      have hx0 := dx'.getD (by decide) i
      have hws := ws_part (n := n + m - i) hB hiP (by rw [HL.out]) (by have := HL.out; omega)
      have hh0 := Lib.hid (mul_high dx' dy' (by rw [EX.out]; exact hin) HV.out)
      have hap : Apart w.heap.size (.slice bo m bc) := sl_apart hy' (Nat.le_refl _)
      have hsize : Hid ((P.drop i).length = n + m - i) := Lib.hid (by rw [List.length_drop, HL.out])
      have hyr := hy'.below hb
      go_wp2_with fail
      refine (addTimes_any w.heap.size (P.take i) (P.drop i) [] Y _ _ (X.getD i 0) _ wr hws hyr hap (by rw [hsize.out, EY.out]; omega) (hdP.drop i) dy' rfl hx0 hh0.out).mono ?_
      rintro e w3 ⟨s', rfl, hs3, hg3, hl3, hd3, hv3⟩
      have hb3 : Below w.heap.size w w3 := hb.trans (below_of_grown' hg3 (Nat.le_refl _) hb.size)
      have hB3 := ws_whole hs3 (by rw [hl3, hsize.out]; omega)
      rw [List.append_nil] at hB3
      have HV3 := Lib.hid (mul_step (by omega) HV.out hv3)
      have HL3 := Lib.hid hl3
      clear hv3 hl3 hs3 hg3 hws hB
      go_wp2_with fail
      go_roundw
      case rel => exact ⟨i + 1, P.take i ++ s', by go_num, by omega, hB3, hb3, (hdP.take i).append hd3, Lib.hid (by rw [List.length_append, HL3.out, hsize.out, List.length_take, HL.out]; omega), HV3⟩
      case measure => simp [intOf]; omega
    · have hii : i = n := by omega
      subst hii
      have hv : val L32 P = val L32 X * val L32 Y := by
        have h := HV.out
        rwa [List.take_of_length_le (by rw [EX.out]; omega)] at h
      have HV' := Lib.hid hv
      clear hv
      have hsl := hB.sl 0 (i + m) (i + m) (by rw [HL.out]; omega) (Nat.le_refl _) (by omega)
      rw [List.drop_zero, List.take_of_length_le (by rw [HL.out]; omega)] at hsl
      go_wp2_with fail
      refine (trimmed_v _ P _ hsl hdP).mono ?_
      rintro e w4 ⟨v4, rfl, ht4, rfl⟩
      go_wp2_with fail
      go_ret
      refine ⟨_, rfl, ?_, hb⟩
      rw [HV'.out] at ht4
      exact ht4
end Go.Proofs.YtbkeildnhimfbaaDoor
