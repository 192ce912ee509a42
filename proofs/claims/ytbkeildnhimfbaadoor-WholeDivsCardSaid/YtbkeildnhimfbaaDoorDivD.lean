/-
  Contracts of package nat: divLong, Div.
-/
import Derived.Test.YtbkeildnhimfbaaDoorDivC
import Derived.Test.YtbkeildnhimfbaaDoorShA
import Derived.Test.YtbkeildnhimfbaaDoorBitsN
namespace Go.Proofs.YtbkeildnhimfbaaDoor
open Go.RowKit
set_option maxRecDepth 100000

theorem lt_bl (n : Nat) : n < 2 ^ bl n := by
  have h := val_lt (Dig_dig (B := 2) (by decide) n)
  rwa [val_dig (by decide)] at h
/-- A shift that sets the top bit keeps the number of limbs. -/
theorem shift_len {Y : List Nat} {n s : Nat} (dy : Dig L32 Y) (hn : Y.length = n + 1) (ht : 0 < Y.getD n 0) (hs : s + bl (Y.getD n 0) ≤ 32) :
    (dig L32 (val L32 Y * 2 ^ s)).length = n + 1 ∧ 0 < (dig L32 (val L32 Y * 2 ^ s)).getD n 0 ∧ L32 ^ n * 2 ^ s ≤ val L32 Y * 2 ^ s := by
  have e := val_take_succ' L32 Y n
  rw [show n + 1 = Y.length by omega, List.take_length] at e
  have h1 := val_lt (dy.take n)
  rw [List.length_take, Nat.min_eq_left (by omega)] at h1
  have h2 := lt_bl (Y.getD n 0)
  generalize Y.getD n 0 = t at *
  have hlo : L32 ^ n ≤ val L32 Y := by
    rw [e]
    have := Nat.mul_le_mul_right (L32 ^ n) ht
    omega
  have hlo2 : L32 ^ n * 2 ^ s ≤ val L32 Y * 2 ^ s := Nat.mul_le_mul_right _ hlo
  have hup : val L32 Y * 2 ^ s < L32 ^ (n + 1) := by
    have h3 : val L32 Y < (t + 1) * L32 ^ n := by rw [e, Nat.succ_mul]; omega
    have h4 : (t + 1) * L32 ^ n ≤ 2 ^ bl t * L32 ^ n := Nat.mul_le_mul_right _ h2
    have h5 : val L32 Y * 2 ^ s < 2 ^ bl t * L32 ^ n * 2 ^ s := Nat.mul_lt_mul_of_pos_right (Nat.lt_of_lt_of_le h3 h4) (Nat.pow_pos (by decide))
    have h6 : 2 ^ bl t * L32 ^ n * 2 ^ s = 2 ^ (s + bl t) * L32 ^ n := by rw [Nat.pow_add]; grind
    have h7 : 2 ^ (s + bl t) ≤ 2 ^ 32 := Nat.pow_le_pow_right (by decide) hs
    have h8 : 2 ^ (s + bl t) * L32 ^ n ≤ 2 ^ 32 * L32 ^ n := Nat.mul_le_mul_right _ h7
    have h9 : L32 ^ (n + 1) = 2 ^ 32 * L32 ^ n := by rw [Nat.pow_succ, Nat.mul_comm]
    omega
  have hge : L32 ^ n ≤ val L32 Y * 2 ^ s := Nat.le_trans hlo (Nat.le_mul_of_pos_right _ (Nat.pow_pos (by decide)))
  generalize val L32 Y * 2 ^ s = D at *
  have hd := Dig_dig (B := L32) (by decide) D
  have hv := val_dig (B := L32) (by decide) D
  have hl : (dig L32 D).length = n + 1 := by
    have h1 := length_dig_le (B := L32) (by decide) hup
    rcases Nat.lt_or_ge (dig L32 D).length (n + 1) with h | h
    · exfalso
      have h3 := val_lt hd
      rw [hv] at h3
      have h4 : L32 ^ (dig L32 D).length ≤ L32 ^ n := Nat.pow_le_pow_right (by decide) (by omega)
      omega
    · omega
  refine ⟨hl, ?_, hlo2⟩
  rcases Nat.eq_zero_or_pos ((dig L32 D).getD n 0) with h | h
  · exfalso
    have e2 := val_take_succ' L32 (dig L32 D) n
    rw [show n + 1 = (dig L32 D).length by omega, List.take_length, h, hv, Nat.zero_mul] at e2
    have h3 := val_lt (hd.take n)
    rw [List.length_take, Nat.min_eq_left (by omega)] at h3
    omega
  · exact h

theorem val_zeros_high {B : Nat} {R : List Nat} {j : Nat} (h : val B R < B ^ j) : val B R = val B (R.take j) := by
  rcases Nat.lt_or_ge R.length j with hj | hj
  · rw [List.take_of_length_le (by omega)]
  · have h1 := val_split B R j hj
    rcases Nat.eq_zero_or_pos (val B (R.drop j)) with h0 | h0
    · rw [h0] at h1; omega
    · have := Nat.mul_le_mul_left (B ^ j) h0
      omega

/-- One step of the long division: what it takes, and what it leaves. -/
theorem long_part {B : Nat} (B0 : 0 < B) {R Q : List Nat} {D A i n : Nat} (dr : Dig B R) (hD : D < B ^ n) (hi : i + n + 1 ≤ R.length) (hA : val B R + D * val B Q = A) (hR : val B R < D * B ^ (i + 1)) :
    val B ((R.drop i).take (n + 1)) < D * B ∧ ∀ (s' : List Nat) (q : Nat), s'.length = n + 1 → i < Q.length → Q.getD i 0 = 0 → q = val B ((R.drop i).take (n + 1)) / D → val B s' = val B ((R.drop i).take (n + 1)) % D →
      val B (R.take i ++ s' ++ R.drop (i + (n + 1))) + D * val B (Q.set i q) = A ∧ val B (R.take i ++ s' ++ R.drop (i + (n + 1))) < D * B ^ i := by
  have hpos : 0 < D := by
    rcases Nat.eq_zero_or_pos D with h | h
    · rw [h] at hR; omega
    · exact h
  have hlt : val B R < B ^ (i + (n + 1)) := by
    refine Nat.lt_of_lt_of_le hR ?_
    rw [show i + (n + 1) = n + (i + 1) by omega, Nat.pow_add B n]
    exact Nat.mul_le_mul_right _ (Nat.le_of_lt hD)
  have h1 := val_zeros_high hlt
  have h0 : val B (R.drop (i + (n + 1))) = 0 := by
    have h2 := val_split B R (i + (n + 1)) (by omega)
    rw [← h1] at h2
    have h3 : 0 < B ^ (i + (n + 1)) := Nat.pow_pos B0
    rcases Nat.eq_zero_or_pos (val B (R.drop (i + (n + 1)))) with h | h
    · exact h
    · have := Nat.mul_pos h3 h; omega
  have h4 := val_split B R i (by omega)
  have h5 : val B (R.drop i) = val B ((R.drop i).take (n + 1)) := by
    have h6 := val_split B (R.drop i) (n + 1) (by rw [List.length_drop]; omega)
    rw [List.drop_drop, h0] at h6
    omega
  have h7 := val_lt (dr.take i)
  rw [List.length_take, Nat.min_eq_left (by omega)] at h7
  have hP : 0 < B ^ i := Nat.pow_pos B0
  rw [h5] at h4
  generalize hS : val B ((R.drop i).take (n + 1)) = S at *
  rw [Nat.pow_succ] at hR
  refine ⟨?_, ?_⟩
  · refine Nat.lt_of_mul_lt_mul_left (a := B ^ i) ?_
    have e : B ^ i * (D * B) = D * (B ^ i * B) := by grind
    rw [e]; omega
  · intro s' q hl hi2 hq0 hq hs
    have e1 : val B (R.take i ++ s' ++ R.drop (i + (n + 1))) = val B (R.take i) + B ^ i * val B s' := by
      rw [val_append, val_append, h0, List.length_take, Nat.min_eq_left (by omega)]
      omega
    have e2 := val_set B Q i q hi2
    rw [hq0] at e2
    have e3 := Nat.div_add_mod S D
    have e4 := Nat.mod_lt S hpos
    rw [e1, hs]
    rw [← hq] at e3
    generalize S % D = r at *
    generalize val B (R.take i) = T at *
    generalize B ^ i = P at *
    constructor
    · rw [← hA, h4, ← e3, show val B (Q.set i q) = val B Q + q * P by omega]
      grind
    · have e5 : P * (r + 1) ≤ P * D := Nat.mul_le_mul_left _ e4
      rw [Nat.mul_comm D P]
      rw [Nat.mul_succ] at e5
      omega

theorem ws_sub {w : World} {T : TypeId} {g i n c : Nat} {P : List Nat} (hB : Blk w g .u32 T P) (hi : i + n ≤ P.length) (hc : n ≤ c) (hm : c ≤ 9223372036854775807) :
    Ws w .u32 T (.slice (some ⟨g, i, none⟩) n c) g (P.take i) ((P.drop i).take n) (P.drop (i + n)) := by
  have e1 : ((P.drop i).take n).length = n := by simp; omega
  have e2 : (P.take i).length = i := by simp; omega
  refine ⟨some ⟨g, i, none⟩, c, by rw [e1], by rw [e1]; omega, hm, (fun e => by cases e), fun _ => ⟨by rw [e2], ?_⟩⟩
  have e3 : P.take i ++ (P.drop i).take n ++ P.drop (i + n) = P := by
    rw [List.append_assoc, ← List.drop_drop, List.take_append_drop, List.take_append_drop]
  rw [e3]; exact hB

set_option maxHeartbeats 2000000 in
set_option maxRecDepth 100000 in
theorem divLong_any (va vb : Value) (X Y : List Nat) (w : World) (hx : Sl w .u32 va X) (hy : Sl w .u32 vb Y) (dx : Dig L32 X) (dy : Dig L32 Y) (hn : 2 ≤ Y.length) (ht : 0 < Y.getD (Y.length - 1) 0) (hm : X.length ≤ 900000) (hle : val L32 Y ≤ val L32 X) :
    Calls Tryd.prog 72 #[va, vb] w fun e w' => ∃ q r, e = .returned (.tuple #[q, r]) ∧ Sl w' .u32 q (dig L32 (val L32 X / val L32 Y)) ∧ Sl w' .u32 r (dig L32 (val L32 X % val L32 Y)) ∧ Below w.heap.size w w' := by
  obtain ⟨i0, hi, hz0, hz1, hz2⟩ := info_parts info51
  have t0 := dy.getD (by decide) (Y.length - 1)
  have t1 := u32_wf dy (Y.length - 1)
  have hl32 : bl (Y.getD (Y.length - 1) 0) ≤ 32 := bl_le t0
  obtain ⟨s, hs⟩ : ∃ s, s = 32 - bl (Y.getD (Y.length - 1) 0) := ⟨_, rfl⟩
  have hbl : (32 : Int) - (Lib.bitLen (nth Y (Y.length - 1)).toNat : Int) = (s : Int) := by
    unfold nth; rw [Int.toNat_natCast, bitLen_bl _ (Nat.lt_trans t0 (by decide))]; omega
  have hcl : clampN (s : Int) = s := by unfold clampN; omega
  obtain ⟨h1, h2, h3⟩ := shift_len (n := Y.length - 1) (s := s) dy (by omega) ht (by omega)
  rw [show Y.length - 1 + 1 = Y.length by omega] at h1
  have hmn : Y.length ≤ X.length := by
    rcases Nat.lt_or_ge X.length Y.length with h | h
    · exfalso
      have e1 := val_lt dx
      have e2 : L32 ^ X.length ≤ L32 ^ (Y.length - 1) := Nat.pow_le_pow_right (by decide) (by omega)
      have e3 := Nat.le_of_mul_le_mul_right h3 (Nat.pow_pos (by decide))
      omega
    · exact h
  have hXA : val L32 X * 2 ^ s < L32 ^ (X.length + 1) := by
    rw [Nat.pow_succ]
    exact Nat.mul_lt_mul_of_lt_of_le (val_lt dx) (show 2 ^ s ≤ 2 ^ 32 from Nat.pow_le_pow_right (by decide) (by omega)) (by decide)
  have hla := length_dig_le (B := L32) (k := X.length + 1) (by decide) hXA
  have hq0 : val L32 X * 2 ^ s < val L32 Y * 2 ^ s * L32 ^ (X.length - Y.length + 1) := by
    have e1 : L32 ^ (Y.length - 1) * 2 ^ s * L32 ^ (X.length - Y.length + 1) ≤ val L32 Y * 2 ^ s * L32 ^ (X.length - Y.length + 1) := Nat.mul_le_mul_right _ h3
    have e2 : L32 ^ (Y.length - 1) * 2 ^ s * L32 ^ (X.length - Y.length + 1) = L32 ^ X.length * 2 ^ s := by
      rw [Nat.mul_right_comm, ← Nat.pow_add]; congr 2; omega
    have e3 : val L32 X * 2 ^ s < L32 ^ X.length * 2 ^ s := Nat.mul_lt_mul_of_pos_right (val_lt dx) (Nat.pow_pos (by decide))
    omega
  have hDn : val L32 Y * 2 ^ s < L32 ^ Y.length := by
    have := val_lt (Dig_dig (B := L32) (by decide) (val L32 Y * 2 ^ s))
    rwa [val_dig (by decide), h1] at this
  have hdiv : val L32 X * 2 ^ s / (val L32 Y * 2 ^ s) = val L32 X / val L32 Y := Nat.mul_div_mul_right _ _ (Nat.pow_pos (by decide))
  have hmod : val L32 X * 2 ^ s % (val L32 Y * 2 ^ s) / 2 ^ s = val L32 X % val L32 Y := by
    rw [Nat.mul_mod_mul_right, Nat.mul_div_cancel _ (Nat.pow_pos (by decide))]
  have hs32 : s ≤ 32 := by omega
  obtain ⟨Dl, hDl⟩ : ∃ Dl, Dl = dig L32 (val L32 Y * 2 ^ s) := ⟨_, rfl⟩
  obtain ⟨D, hDv⟩ : ∃ D, D = val L32 Y * 2 ^ s := ⟨_, rfl⟩
  obtain ⟨A, hAv⟩ : ∃ A, A = val L32 X * 2 ^ s := ⟨_, rfl⟩
  obtain ⟨R0, hR0⟩ : ∃ R0, R0 = dig L32 (val L32 X * 2 ^ s) ++ List.replicate (X.length + 1 - (dig L32 (val L32 X * 2 ^ s)).length) 0 := ⟨_, rfl⟩
  have dDl : Dig L32 Dl := by rw [hDl]; exact Dig_dig (by decide) _
  have vDl : val L32 Dl = D := by rw [hDl, val_dig (by decide), hDv]
  have dR0 : Dig L32 R0 := by rw [hR0]; exact (Dig_dig (by decide) _).append (Dig.replicate (by decide) _)
  have vR0 : val L32 R0 = A := by rw [hR0, append_zeros_val, val_dig (by decide), hAv]
  have lR0 : R0.length = X.length + 1 := by rw [hR0, List.length_append, List.length_replicate]; omega
  have hDpos : 0 < D := by
    rcases Nat.eq_zero_or_pos D with h | h
    · rw [hDv] at h; rw [h] at hq0; omega
    · exact h
  rw [← hDl] at h1 h2
  rw [← hDv] at hq0 hDn hdiv hmod
  rw [← hAv] at hq0 hdiv hmod
  have HRL := Lib.hid lR0
  have HVR := Lib.hid vR0
  have HVD := Lib.hid vDl
  have HDl := Lib.hid hDl
  have HR0 := Lib.hid hR0
  have HD := Lib.hid hdiv
  have HM := Lib.hid hmod
  have HC := Lib.hid hcl
  have HBL := Lib.hid hbl
  have HT := Lib.hid h2
  have HQ0 := Lib.hid hq0
  have HDN := Lib.hid hDn
  have HLA := Lib.hid hla
  have HLD := Lib.hid h1
  clear hdiv hmod hcl hbl h1 h2 h3 hq0 hDn hXA ht hle hla hs hDl hR0 vDl vR0 lR0 hDv hAv
  obtain ⟨ao, ac, rfl⟩ := sl_shape hx
  have HY := Lib.hid hy
  obtain ⟨bo, bc, rfl, b1, b2, b3, b4⟩ := hy
  obtain ⟨b, rfl, c1⟩ := b4 (Y.length - 1) (by omega)
  clear b4 b3
  go_enter Tryd.func72, Tryd.ntmps72
  go_wp2_with fail
  refine (Tryd.bits_LeadingZeros32 _ _ (by omega) (by omega)).mono ?_; rintro e w' ⟨rfl, hw'⟩; obtain rfl := hw'.symm
  rw [HBL.out]
  go_wp2_with fail
  refine (shl_any _ Y _ _ HY.out dy (by omega)).mono ?_
  rintro e w1 ⟨vd, rfl, hd1, hb1⟩
  rw [HC.out, ← HDl.out] at hd1
  go_wp2_with fail
  refine (shl_any _ X _ w1 (hx.below hb1) dx (by omega)).mono ?_
  rintro e w2 ⟨v2, rfl, ha2, hb2⟩
  rw [HC.out] at ha2
  have hd2 := hd1.below hb2
  have hb2t : Below _ _ w2 := hb1.trans (hb2.mono hb1.size)
  obtain ⟨o2, cp2, rfl⟩ := sl_shape ha2
  go_wp2_with fail
  refine (padded_any o2 _ cp2 _ (X.length + 1) _ w2 ha2 HLA.out (by omega) (by omega)).mono ?_
  rintro e w3 ⟨v3, rfl, hr3, hb3, hs3⟩
  rw [← HR0.out] at hr3
  have hb3t : Below _ _ w3 := hb2t.trans (hb3.mono hb2t.size)
  obtain ⟨o3, c3, rfl, r1, r2, r3, r4⟩ := hr3
  obtain ⟨rfl, hB3⟩ := r4 (by rw [HRL.out]; omega)
  rw [List.nil_append, List.append_nil] at hB3
  rw [HRL.out] at r1 r4 ⊢
  have hs3' : w2.heap.size < w3.heap.size := hs3 (by omega)
  have hd3 := hd2.below hb3
  obtain ⟨od, cd, rfl⟩ := sl_shape hd3
  have hap : Apart w2.heap.size (.slice od Dl.length cd) := sl_apart hd2 (Nat.le_refl _)
  rw [HLD.out] at hap hd3 ⊢
  clear hs3 r4 ha2 hd2 hd1
  go_wp2_with (at_make; refine wpList_make_blk _ rfl _ _ 23 rfl 72 i0 .u32 Tryd.underlying23 hi hz0 hz1 _ _ _ _ (X.length - Y.length + 1) rfl rfl (by omega) (by omega) (by omega) (by omega) ?_; intro w4 hB4 hb4 hs4)
  have hd4 := hd3.below hb4
  have hb4t : Below w.heap.size w w4 := hb3t.trans (hb4.mono hb3t.size)
  have hB34 := hB3.below hb4 (by omega)
  have hap2 : Apart w3.heap.size (.slice od Y.length cd) := sl_apart hd3 (Nat.le_refl _)
  have hg1 := hb2t.size
  have hg2 := hb3t.size
  clear hB3 hd3
  go_loopw [10] (fun i wr => ∃ (k : Nat) (R Q : List Nat), i = .int .i64 ((k : Int) - 1) ∧ k ≤ X.length - Y.length + 1 ∧ Blk wr w2.heap.size .u32 72 R ∧ Blk wr w3.heap.size .u32 72 Q ∧ Below w.heap.size w wr ∧ Sl wr .u32 (.slice od Y.length cd) Dl ∧ Dig L32 R ∧ Dig L32 Q ∧
    Hid (R.length = X.length + 1) ∧ Hid (Q.length = X.length - Y.length + 1) ∧ Hid (∀ j, j < k → Q.getD j 0 = 0) ∧ Hid (val L32 R + D * val L32 Q = A) ∧ Hid (val L32 R < D * L32 ^ k)) (fun i _ => (intOf i + 1).toNat)
  case atStart => exact ⟨X.length - Y.length + 1, R0, _, by go_num, Nat.le_refl _, hB34, hB4, hb4t, hd4, dR0, Dig.replicate (by decide) _, HRL, Lib.hid (by simp), Lib.hid (fun j _ => getD_zeros _ _), Lib.hid (by rw [val_replicate_zero, HVR.out]; simp), Lib.hid (by rw [HVR.out]; exact HQ0.out)⟩
  case round =>
    clear hB34 hB4 hb4t hd4 hb4 hs4
    obtain ⟨k, R, Q, rfl, hk, hBR, hBQ, hb, hd, dR, dQ, HLR, HLQ, HZ, HA, HR⟩ := hrel
    by_cases h0 : 0 < k
    · have hws := ws_sub (i := k - 1) (n := Y.length + 1) (c := c3 - (k - 1)) hBR (by have := HLR.out; omega) (by omega) (by omega)
      have hft := hBQ.frozen (k - 1)
      have hQl : k - 1 < Q.length := by have := HLQ.out; omega
      go_wp2_with fail
      rw [show k - 1 + Y.length + 1 - (k - 1) = Y.length + 1 by omega]
      have hlp := long_part (B := L32) (by decide) (i := k - 1) (n := Y.length) dR HDN.out (by have := HLR.out; omega) HA.out (by rw [show k - 1 + 1 = k by omega]; exact HR.out)
      refine (divStep_any w2.heap.size _ _ _ Dl _ _ wr hws hd hap (by rw [HLD.out, List.length_take, List.length_drop, HLR.out]; omega) (by rw [HLD.out]; omega) ((dR.drop _).take _) dDl (by rw [HLD.out]; exact HT.out) (by rw [HVD.out]; exact hlp.1) hBR.lt).mono ?_
      rintro e w5 ⟨r, q, rfl, hq, hqb, hw5, hg5, hl5, hd5, hv5⟩
      rw [HVD.out] at hq hv5
      rw [List.length_take, List.length_drop, HLR.out, Nat.min_eq_left (by omega)] at hl5
      have HN := Lib.hid (hlp.2 r q hl5 hQl (HZ.out _ (by omega)) hq hv5)
      have hBR5 := ws_whole hw5 (by omega)
      have hBQ5 := hBQ.other hg5 (fun e => by injection e with e; omega)
      have hft5 := hBQ5.frozen (k - 1)
      have hcl5 := hBQ5.cell hQl
      have hb5 := hb.trans (below_of_grown' hg5 hg1 hb.size)
      have hd5' := hd.grown hg5 hap
      have hqb' : q < 4294967296 := hqb
      have HL5 := Lib.hid hl5
      clear hlp hq hv5 hl5 hw5 hws hft
      go_wp2_with fail
      go_roundw
      case rel =>
        have hset := hBQ5.set (k - 1) q _ rfl
        refine ⟨k - 1, R.take (k - 1) ++ r ++ R.drop (k - 1 + (Y.length + 1)), Q.set (k - 1) q, by go_num, by omega, ?_, hset, below_of_grown' (grown_setCell (World.grownBy.refl _ _) _) hg2 hb5.size |> hb5.trans, hd5'.grown (grown_setCell (World.grownBy.refl _ _) _) hap2, ((dR.take _).append hd5).append (dR.drop _), dQ.set hqb, Lib.hid ?_, Lib.hid (by rw [List.length_set]; exact HLQ.out), Lib.hid ?_, Lib.hid HN.out.1, Lib.hid HN.out.2⟩
        · exact hBR5.other (grown_setCell (World.grownBy.refl _ (some w3.heap.size)) _) (fun e => by injection e with e; omega)
        · rw [List.length_append, List.length_append, HL5.out, List.length_take, List.length_drop, HLR.out]; omega
        · intro j hj
          rw [getD_set, if_neg (by omega)]
          exact HZ.out j (by omega)
      case measure => simp [intOf]; omega
    · have hk0 : k = 0 := by omega
      subst hk0
      have hA := HA.out
      have hR := HR.out
      rw [Nat.pow_zero, Nat.mul_one] at hR
      have e1 : val L32 Q = A / D := by
        rw [← hA, Nat.add_mul_div_left _ _ hDpos, Nat.div_eq_of_lt hR, Nat.zero_add]
      have e2 : val L32 R = A % D := by
        rw [← hA, Nat.add_mul_mod_self_left, Nat.mod_eq_of_lt hR]
      rw [HD.out] at e1
      have e3 : val L32 R / 2 ^ s = val L32 X % val L32 Y := by rw [e2]; exact HM.out
      have E1 := Lib.hid e1
      have E3 := Lib.hid e3
      have hsq := hBQ.sl 0 (X.length - Y.length + 1) (X.length - Y.length + 1) (by rw [HLQ.out]; omega) (Nat.le_refl _) (by omega)
      rw [List.drop_zero, List.take_of_length_le (by rw [HLQ.out]; omega)] at hsq
      have hsr := hBR.sl 0 (X.length + 1) c3 (by rw [HLR.out]; omega) (by omega) (by omega)
      rw [List.drop_zero, List.take_of_length_le (by rw [HLR.out]; omega)] at hsr
      clear e1 e2 e3 hA hR hBQ hBR
      go_wp2_with fail
      refine (trimmed_v _ Q _ hsq dQ).mono ?_
      rintro e w6 ⟨v6, rfl, ht6, rfl⟩
      go_wp2_with fail
      refine (shr_any _ R _ wr hsr dR (by rw [HLR.out]; omega)).mono ?_
      rintro e w7 ⟨v7, rfl, ht7, hb7⟩
      rw [HC.out, E3.out] at ht7
      rw [E1.out] at ht6
      go_wp2_with fail
      go_ret2
      exact ⟨_, _, rfl, ht6.below hb7, ht7, hb.trans (hb7.mono hb.size)⟩
end Go.Proofs.YtbkeildnhimfbaaDoor
