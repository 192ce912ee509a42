/-
  Contracts of package nat: subTimes, divStep.
-/
import Derived.Test.YtbkeildnhimfbaaDoorDivB
namespace Go.Proofs.YtbkeildnhimfbaaDoor
open Go.RowKit
set_option maxRecDepth 100000

theorem subTimes_step {B : Nat} {t ys : List Nat} {S x k c b z v b' : Nat} (hy : k < ys.length) (ht : k < t.length) (h : val B t + x * val B (ys.take k) = S + (c + b) * B ^ k) (hz : z = c + x * ys.getD k 0) (hv : v + z % B + b = t.getD k 0 + b' * B) :
    val B (t.set k v) + x * val B (ys.take (k + 1)) = S + (z / B + b') * B ^ (k + 1) := by
  have h1 := val_set B t k v ht
  rw [val_take_succ B ys k hy, Nat.pow_succ]
  have h2 := Nat.mod_add_div z B
  generalize z % B = r at *
  generalize z / B = q at *
  generalize B ^ k = P at *
  have h3 : (r + B * q) * P = (c + x * ys.getD k 0) * P := by rw [h2, hz]
  have h4 : (v + r + b) * P = (t.getD k 0 + b' * B) * P := by rw [hv]
  grind
theorem subTimes_last {B : Nat} {t : List Nat} {S Y k c b v b' : Nat} (ht : k < t.length) (h : val B t + Y = S + (c + b) * B ^ k) (hv : v + c + b = t.getD k 0 + b' * B) :
    val B (t.set k v) + Y = S + b' * B ^ (k + 1) := by
  have h1 := val_set B t k v ht
  rw [Nat.pow_succ]
  generalize B ^ k = P at *
  have h4 : (v + c + b) * P = (t.getD k 0 + b' * B) * P := by rw [hv]
  grind

set_option maxHeartbeats 2000000 in
theorem subTimes_any (g : Nat) (pre s post ys : List Nat) (vs vb : Value) (x : Nat) (zx : Int) (w : World) (hw : Ws w .u32 72 vs g pre s post) (hb : Sl w .u32 vb ys) (ha : Apart g vb) (hl : s.length = ys.length + 1)
   (hs : Dig L32 s) (hy : Dig L32 ys) (hzx : zx = (x : Int)) (hx : x < 4294967296) :
    Calls Tryd.prog 98 #[vs, vb, .int .u32 zx] w fun e w' => ∃ s' b o, e = .returned (.bool o) ∧ (b = 0 ∧ o = false ∨ b = 1 ∧ o = true) ∧ Ws w' .u32 72 vs g pre s' post ∧ w.grownBy w' (some g) ∧ s'.length = s.length ∧ Dig L32 s' ∧
      val L32 s' + x * val L32 ys = val L32 s + b * L32 ^ (ys.length + 1) := by
  subst hzx
  have hl1 : ys.length < s.length := by omega
  have HL := Lib.hid hl
  clear hl
  obtain ⟨ao, cap, rfl, h1, h2, h3, h4⟩ := hw
  have HB := Lib.hid hb
  obtain ⟨bo, bcap, rfl, k1, k2, k3, k4⟩ := hb
  go_enter Tryd.func98, Tryd.ntmps98
  go_wp2
  go_loopw [7, 8, 13] (fun c b i wr => ∃ (k : Nat) (t : List Nat) (cc bb : Nat), i = .int .i64 k ∧ c = .int .u64 (cc : Int) ∧ b = .int .u32 (bb : Int) ∧ cc < 4294967296 ∧ bb ≤ 1 ∧ k ≤ ys.length ∧ w.grownBy wr (some g) ∧ Hid (t.length = s.length) ∧ Dig 4294967296 t ∧
     WsAt wr .u32 72 ao g pre t post s.length ∧ Hid (val L32 t + x * val L32 (ys.take k) = val L32 s + (cc + bb) * L32 ^ k))
    (fun _ _ i _ => ys.length - (intOf i).toNat)
  case atStart => exact ⟨0, s, 0, 0, rfl, rfl, rfl, by omega, by omega, by omega, World.grownBy.refl _ _, Lib.hid rfl, hs, h4, Lib.hid (by simp [val])⟩
  case round =>
    obtain ⟨k, t, cc, bb, rfl, rfl, rfl, hcc, hbb, hk, hg, Ht, hdt, hB, HV⟩ := hrel
    by_cases hlt : k < ys.length
    · obtain ⟨b, rfl, hcb⟩ := k4 k hlt
      obtain ⟨rfl, hB'⟩ := hB (by omega)
      have hkt : k < t.length := by have := Ht.out; omega
      have hcb' := (HB.out.grown hg ha).at hlt
      have hct : wr.cell? ⟨g, pre.length + k, none⟩ = some (.int .u32 (nth t k)) := by
        rw [hB'.cell (by simp; omega), nth_mid _ _ _ _ hkt]
      have hft := hB'.frozen (pre.length + k)
      have y1 := u32_wf hy k
      have t1 := u32_wf hdt k
      have y0 := hy.getD (by decide) k
      have t0 := hdt.getD (by decide) k
      have hm : 0 ≤ (x : Int) * nth ys k ∧ (x : Int) * nth ys k ≤ 18446744065119617025 := by
        have := mul_bound hx y0
        have e : (x : Int) * nth ys k = ((x * ys.getD k 0 : Nat) : Int) := by unfold nth; simp
        rw [e]; omega
      have HE := Lib.hid (show (cc : Int) + (x : Int) * nth ys k = ((cc + x * ys.getD k 0 : Nat) : Int) by unfold nth; simp)
      have HZ := Lib.hid (show cc + x * ys.getD k 0 < 18446744073709551616 by have := mul_bound hx y0; omega)
      obtain ⟨b', e1, e2, v', e3, e4, e5⟩ := bor32_nat (t.getD k 0) ((cc + x * ys.getD k 0) % L32) bb t0 (Nat.mod_lt _ (by decide)) hbb
      have HS := Lib.hid (subTimes_step hlt hkt HV.out rfl e5)
      have E1 := Lib.hid e1
      have E3 := Lib.hid e3
      have HM := Lib.hid (show ((cc : Int) + (x : Int) * nth ys k) % 4294967296 = (((cc + x * ys.getD k 0) % L32 : Nat) : Int) by rw [HE.out]; rfl)
      clear hcb hB h4 k4 y0 t0 e1 e3 e5
      go_wp2_with (go_at_call 86; refine (sub32_any _ _ _ _ (by omega) (by omega) (by omega)).mono ?_; rintro e w' ⟨rfl, rfl⟩)
      go_roundw
      case rel =>
        have hE := HE.out
        have hz := HZ.out
        refine ⟨k + 1, t.set k v', (cc + x * ys.getD k 0) / L32, b', by go_num, ?_, ?_, ?_, e2, by omega, grown_setCell hg _, Lib.hid (by rw [List.length_set]; exact Ht.out), hdt.set e4, fun _ => ⟨rfl, ?_⟩, HS⟩
        · rw [hE]; congr 1
        · rw [← E1.out, HM.out]; rfl
        · exact Nat.div_lt_of_lt_mul (by omega)
        · rw [← set_mid _ _ _ _ _ hkt]
          exact hB'.set _ _ _ (by rw [HM.out, ← E3.out]; rfl)
      case measure => simp [intOf]; omega
    · have hkk : k = ys.length := by omega
      subst hkk
      obtain ⟨rfl, hB'⟩ := hB (by omega)
      have hkt : ys.length < t.length := by have := Ht.out; omega
      have hft := hB'.frozen (pre.length + ys.length)
      have hct : wr.cell? ⟨g, pre.length + ys.length, none⟩ = some (.int .u32 (nth t ys.length)) := by
        rw [hB'.cell (by simp; omega), nth_mid _ _ _ _ hkt]
      have t1 := u32_wf hdt ys.length
      have t0 := hdt.getD (by decide) ys.length
      obtain ⟨b', e1, e2, v', e3, e4, e5⟩ := bor32_nat (t.getD ys.length 0) cc bb t0 hcc hbb
      have HV' := Lib.hid (show val L32 t + x * val L32 ys = val L32 s + (cc + bb) * L32 ^ ys.length by have := HV.out; rwa [List.take_length] at this)
      have HS := Lib.hid (subTimes_last hkt HV'.out e5)
      have E1 := Lib.hid e1
      have E3 := Lib.hid e3
      have hfin : ∀ w2, Blk w2 g .u32 72 (pre ++ t.set ys.length v' ++ post) → Ws w2 .u32 72 (.slice (some ⟨g, pre.length, none⟩) s.length cap) g pre (t.set ys.length v') post := fun w2 h =>
        ⟨some ⟨g, pre.length, none⟩, cap, by rw [List.length_set, Ht.out], by rw [List.length_set, Ht.out]; exact h1, h2, h3, fun _ => ⟨rfl, h⟩⟩
      have HFIN := Lib.hid hfin
      have hbI : bor32 (nth t ys.length) cc bb = (b' : Int) := e1
      have HB1 := Lib.hid hbI
      clear hB h4 k4 e1 e3 e5 t0 hfin HV HV' hbI
      go_wp2_with (go_at_call 86; refine (sub32_any _ _ _ _ (by omega) (by omega) (by omega)).mono ?_; rintro e w' ⟨rfl, rfl⟩)
      go_ret
      refine ⟨t.set ys.length v', b', decide ((0 : Int) < bor32 (nth t ys.length) cc bb), rfl, ?_, ?_, grown_setCell hg _, by rw [List.length_set]; exact Ht.out, hdt.set e4, HS.out⟩
      · rcases Nat.eq_zero_or_pos b' with h | h
        · exact Or.inl ⟨h, by rw [HB1.out, h]; rfl⟩
        · exact Or.inr ⟨by omega, by rw [HB1.out]; simpa using h⟩
      · refine HFIN.out _ ?_
        rw [← set_mid _ _ _ _ _ hkt]
        exact hB'.set _ _ _ (by rw [← E3.out]; rfl)

theorem step_math {P D g t' b n : Nat} (hD : 0 < D) (h1 : P / D ≤ g) (h2 : g ≤ P / D + 1) (h : t' + g * D = P + b * L32 ^ n) (ht : t' < L32 ^ n) (hb : b = 0 ∨ b = 1) (hP : D ≤ L32 ^ n) :
    b = 0 ∧ g = P / D ∧ t' = P % D ∨ b = 1 ∧ g = P / D + 1 ∧ (t' + D) % L32 ^ n = P % D := by
  have hm := Nat.div_add_mod P D
  have hr := Nat.mod_lt P hD
  rw [Nat.mul_comm] at hm
  generalize P / D = Q at *
  generalize P % D = R at *
  generalize L32 ^ n = T at *
  have hg : g = Q ∨ g = Q + 1 := by omega
  rcases hg with rfl | rfl
  · rcases hb with rfl | rfl
    · left; exact ⟨rfl, rfl, by omega⟩
    · exfalso; omega
  · rw [Nat.succ_mul] at h
    rcases hb with rfl | rfl
    · exfalso; omega
    · right
      refine ⟨rfl, rfl, ?_⟩
      rw [show t' + D = R + 1 * T by omega, Nat.add_mul_mod_self_right, Nat.mod_eq_of_lt (by omega)]

set_option maxHeartbeats 1000000 in
theorem divStep_any (g : Nat) (pre s post ys : List Nat) (vs vb : Value) (w : World) (hw : Ws w .u32 72 vs g pre s post) (hb : Sl w .u32 vb ys) (ha : Apart g vb) (hl : s.length = ys.length + 1) (hl2 : 2 ≤ ys.length)
   (hs : Dig L32 s) (hy : Dig L32 ys) (ht : 0 < ys.getD (ys.length - 1) 0) (hlt : val L32 s < val L32 ys * L32) (hg : g < w.heap.size) :
    Calls Tryd.prog 89 #[vs, vb] w fun e w' => ∃ (s' : List Nat) (q : Nat), e = .returned (.int .u32 (q : Int)) ∧ q = val L32 s / val L32 ys ∧ q < L32 ∧ Ws w' .u32 72 vs g pre s' post ∧ w.grownBy w' (some g) ∧ s'.length = s.length ∧ Dig L32 s' ∧
      val L32 s' = val L32 s % val L32 ys := by
  have hpos : 0 < val L32 ys := by
    rcases Nat.eq_zero_or_pos (val L32 ys) with h | h
    · rw [h] at hlt; omega
    · exact h
  have HLT := Lib.hid hlt
  have HL := Lib.hid hl
  have hsl := Lib.hid hw.sl
  have HT := Lib.hid ht
  clear hlt hl ht
  obtain ⟨ao, cap, rfl⟩ := hw.at
  go_enter Tryd.func89, Tryd.ntmps89
  go_wp2_with fail
  refine (guessLimb_any _ _ s ys w hsl.out hb hs hy hl2 HL.out HT.out HLT.out).mono ?_
  rintro e w1 ⟨x, rfl, hx, hx1, hx2, hb1⟩
  have hw1 := hw.below hb1 hg
  have hy1 := hb.below hb1
  have hg1 : w.grownBy w1 (some g) := grown_of_below hb1
  go_wp2_with fail
  refine (subTimes_any g pre s post ys _ _ x _ w1 hw1 hy1 ha HL.out hs hy rfl hx).mono ?_
  rintro e w2 ⟨t, b, o, rfl, hbo, hw2, hg2, hl2', hd2, hv2⟩
  have hg2' := grown_trans hg1 hg2
  have hDn : val L32 ys ≤ L32 ^ (ys.length + 1) := Nat.le_trans (Nat.le_of_lt (val_lt hy)) (Nat.pow_le_pow_right (by decide) (by omega))
  have hm := step_math (n := ys.length + 1) hpos hx1 hx2 hv2 (by have := val_lt hd2; rw [hl2', HL.out] at this; exact this) (by omega) hDn
  have HV := Lib.hid hv2
  clear hv2 hx1 hx2
  have hxL : x < 4294967296 := hx
  rcases hbo with ⟨rfl, rfl⟩ | ⟨rfl, rfl⟩
  · have hm' : x = val L32 s / val L32 ys ∧ val L32 t = val L32 s % val L32 ys := by omega
    have HM := Lib.hid hm'
    clear hm hm'
    have HL2 := Lib.hid hl2'
    clear hl2'
    go_wp2_with fail
    go_ret
    exact ⟨t, x, rfl, HM.out.1, hx, hw2, hg2', HL2.out, hd2, HM.out.2⟩
  · have hm' : x = val L32 s / val L32 ys + 1 ∧ (val L32 t + val L32 ys) % L32 ^ (ys.length + 1) = val L32 s % val L32 ys := by omega
    have HM := Lib.hid hm'
    have hx0 : 0 < x := by rw [hm'.1]; exact Nat.succ_pos _
    have HL2 := Lib.hid hl2'
    clear hm hm' hl2'
    have hy2 := hy1.grown hg2 ha
    have hle : ys.length ≤ t.length := by have := HL2.out; have := HL.out; omega
    have hws2 : Ws w2 .u32 72 (.slice ao s.length cap) g pre t post := hw2
    go_wp2_with fail
    refine (addTo_any g pre t post ys _ _ w2 hw2 hy2 ha hle hd2 hy).mono ?_
    rintro e w3 ⟨r, rfl, hw3, hg3, hl3, hd3, hv3⟩
    have hg3' := grown_trans hg2' hg3
    have HV3 := Lib.hid hv3
    have HL3 := Lib.hid hl3
    clear hv3 hl3 hle
    go_wp2_with fail
    go_ret
    refine ⟨r, x - 1, ?_, by have := HM.out.1; omega, Nat.lt_of_le_of_lt (Nat.sub_le _ _) hx, hw3, hg3', by rw [HL3.out, HL2.out], hd3, ?_⟩
    · rw [show ((x - 1 : Nat) : Int) = (x : Int) - 1 by omega]; rfl
    · rw [HV3.out, HL2.out, HL.out]; exact HM.out.2
end Go.Proofs.YtbkeildnhimfbaaDoor
