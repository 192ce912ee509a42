/-
  Contracts of package nat: guessLimb, subTimes, divStep.
-/
import Derived.Test.YtbkeildnhimfbaaDoorDivA
import Derived.Test.YtbkeildnhimfbaaDoorMulA
namespace Go.Proofs.YtbkeildnhimfbaaDoor
open Go.RowKit
set_option maxRecDepth 100000

/-- What guessLimb knows of its two numbers: P and D, their high limbs and the rest. -/
structure Gs (B P D H p t x E : Nat) : Prop where
  hp : ∃ lp, P = (H * B + p) * E + lp ∧ lp < E
  hd : ∃ ld, D = (t * B + x) * E + ld ∧ ld < E
  B0 : 0 < B
  pb : p < B
  xb : x < B
  tb : t < B
  t0 : 0 < t
  E0 : 0 < E
  lt : P < D * B

theorem Gs.D0 {B P D H p t x E : Nat} (h : Gs B P D H p t x E) : B * E ≤ D := by
  obtain ⟨ld, h1, h2⟩ := h.hd
  rw [h1]
  have h3 : B * E ≤ (t * B + x) * E := Nat.mul_le_mul_right _ (Nat.le_trans (by have := Nat.mul_le_mul_right B h.t0; omega) (Nat.le_add_right (t * B) x))
  omega
theorem Gs.pos {B P D H p t x E : Nat} (h : Gs B P D H p t x E) : 0 < D := Nat.lt_of_lt_of_le (Nat.mul_pos h.B0 h.E0) h.D0
theorem Gs.quo {B P D H p t x E : Nat} (h : Gs B P D H p t x E) : P / D < B := Nat.div_lt_of_lt_mul h.lt
/-- The high limbs of the greater number are less than those of the divisor, one place up, and a limb. -/
theorem Gs.high {B P D H p t x E : Nat} (h : Gs B P D H p t x E) : H < t * B + B := by
  obtain ⟨lp, h1, h2⟩ := h.hp
  obtain ⟨ld, h3, h4⟩ := h.hd
  have h5 := h.lt
  have hx := h.xb
  rcases Nat.lt_or_ge H (t * B + B) with hh | hh
  · exact hh
  · exfalso
    have e1 : (t * B + B) * (B * E) ≤ H * (B * E) := Nat.mul_le_mul_right _ hh
    have e2 : (x + 1) * (E * B) ≤ B * (E * B) := Nat.mul_le_mul_right _ hx
    have e3 : ld * B < E * B := Nat.mul_lt_mul_of_pos_right h4 h.B0
    rw [h1, h3] at h5
    grind
theorem Gs.start {B P D H p t x E : Nat} (h : Gs B P D H p t x E) : P / D ≤ H / t := by
  obtain ⟨lp, h1, h2⟩ := h.hp
  obtain ⟨ld, h3, h4⟩ := h.hd
  have hp := h.pb
  rw [Nat.le_div_iff_mul_le h.t0]
  have hq := Nat.div_mul_le_self P D
  generalize P / D = Q at *
  have e0 : Q * t * (B * E) ≤ Q * D := by
    rw [Nat.mul_assoc]
    refine Nat.mul_le_mul_left _ ?_
    rw [h3]
    grind
  have e1 : P < (H + 1) * (B * E) := by
    have e2 : (p + 1) * E ≤ B * E := Nat.mul_le_mul_right _ hp
    rw [h1]; grind
  have e3 : Q * t * (B * E) < (H + 1) * (B * E) := by omega
  exact Nat.lt_succ_iff.1 (Nat.lt_of_mul_lt_mul_right e3)
theorem Gs.down {B P D H p t x E q r : Nat} (h : Gs B P D H p t x E) (hq : q * t + r = H) (hc : r * B + p < q * x) : P / D < q := by
  obtain ⟨lp, h1, h2⟩ := h.hp
  obtain ⟨ld, h3, h4⟩ := h.hd
  refine Nat.div_lt_of_lt_mul ?_
  have e1 : (H * B + p + 1) * E ≤ q * (t * B + x) * E := Nat.mul_le_mul_right _ (by rw [← hq]; grind)
  have e2 : q * (t * B + x) * E ≤ q * D := by rw [Nat.mul_assoc, h3]; exact Nat.mul_le_mul_left _ (by omega)
  rw [Nat.mul_comm D q]
  grind
theorem Gs.stop {B P D H p t x E q r : Nat} (h : Gs B P D H p t x E) (hq : q * t + r = H) (hb : q < B) (hc : q * x ≤ r * B + p ∨ B ≤ r) : q ≤ P / D + 1 := by
  obtain ⟨lp, h1, h2⟩ := h.hp
  obtain ⟨ld, h3, h4⟩ := h.hd
  have hD := h.D0
  have hpos := h.pos
  have hx := h.xb
  have key : q * D < P + D := by
    rw [h3] at hD ⊢
    rw [h1]
    have e3 : q * ld ≤ q * E := Nat.mul_le_mul_left _ (by omega)
    have e4 : q * E < B * E := Nat.mul_lt_mul_of_pos_right hb h.E0
    rcases hc with hc | hc
    · have e1 : q * (t * B + x) * E ≤ (H * B + p) * E := Nat.mul_le_mul_right _ (by rw [← hq]; grind)
      grind
    · have e5 : q * x ≤ q * B := Nat.mul_le_mul_left _ (by omega)
      have e6 : q * B ≤ B * B := Nat.mul_le_mul_right _ (by omega)
      have e7 : B * B ≤ r * B := Nat.mul_le_mul_right _ hc
      have e1 : q * (t * B + x) * E ≤ (H * B + p) * E := Nat.mul_le_mul_right _ (by rw [← hq]; grind)
      grind
  rcases Nat.eq_zero_or_pos q with h0 | h0
  · rw [h0]; exact Nat.zero_le _
  · have e : (q - 1) * D ≤ P := by
      have : q * D = (q - 1) * D + D := by rw [← Nat.succ_mul]; congr 1; omega
      omega
    have := (Nat.le_div_iff_mul_le hpos).2 e
    omega

theorem top_split {xs : List Nat} {m : Nat} (dx : Dig L32 xs) (h : xs.length = m + 2) : ∃ l, val L32 xs = (xs.getD (m + 1) 0 * L32 + xs.getD m 0) * L32 ^ m + l ∧ l < L32 ^ m := by
  have h1 := val_take_succ' L32 xs (m + 1)
  have h2 := val_take_succ' L32 xs m
  have h3 := val_lt (dx.take m)
  rw [List.length_take, Nat.min_eq_left (by omega)] at h3
  refine ⟨val L32 (xs.take m), ?_, h3⟩
  rw [show m + 1 + 1 = xs.length by omega, List.take_length] at h1
  rw [h1, h2, Nat.pow_succ]
  grind
theorem gs_of {ps ds : List Nat} {m : Nat} (dp : Dig L32 ps) (dd : Dig L32 ds) (hd : ds.length = m + 2) (hp : ps.length = m + 3) (ht : 0 < ds.getD (m + 1) 0) (hlt : val L32 ps < val L32 ds * L32) :
    Gs L32 (val L32 ps) (val L32 ds) (joinN (ps.getD (m + 2) 0) (ps.getD (m + 1) 0)) (ps.getD m 0) (ds.getD (m + 1) 0) (ds.getD m 0) (L32 ^ m) where
  hp := by
    obtain ⟨l, h1, h2⟩ := top_split (m := m + 1) dp hp
    have h3 := val_take_succ' L32 ps (m + 2)
    have h4 := val_take_succ' L32 ps (m + 1)
    have h5 := val_take_succ' L32 ps m
    have h6 := val_lt (dp.take m)
    rw [List.length_take, Nat.min_eq_left (by omega)] at h6
    refine ⟨val L32 (ps.take m), ?_, h6⟩
    rw [show m + 2 + 1 = ps.length by omega, List.take_length] at h3
    rw [h3, h4, h5, Nat.pow_succ, Nat.pow_succ]
    unfold joinN
    grind
  hd := top_split dd hd
  B0 := by decide
  pb := dp.getD (by decide) m
  xb := dd.getD (by decide) m
  tb := dd.getD (by decide) _
  t0 := ht
  E0 := Nat.pow_pos (by decide)
  lt := hlt

set_option maxHeartbeats 2000000 in
set_option maxRecDepth 100000 in
theorem guessLimb_any (va vb : Value) (ps ds : List Nat) (w : World) (hx : Sl w .u32 va ps) (hy : Sl w .u32 vb ds) (dp : Dig L32 ps) (dd : Dig L32 ds) (hd : 2 ≤ ds.length) (hp : ps.length = ds.length + 1)
    (ht : 0 < ds.getD (ds.length - 1) 0) (hlt : val L32 ps < val L32 ds * L32) :
    Calls Tryd.prog 97 #[va, vb] w fun e w' => ∃ q : Nat, e = .returned (.int .u32 (q : Int)) ∧ q < L32 ∧ val L32 ps / val L32 ds ≤ q ∧ q ≤ val L32 ps / val L32 ds + 1 ∧ Below w.heap.size w w' := by
  have G := gs_of (m := ds.length - 2) dp dd (by omega) (by omega) (by rw [show ds.length - 2 + 1 = ds.length - 1 by omega]; exact ht) hlt
  rw [show ds.length - 2 + 2 = ds.length by omega, show ds.length - 2 + 1 = ds.length - 1 by omega] at G
  have HX := Lib.hid hx
  have HY := Lib.hid hy
  obtain ⟨ao, ac, rfl, a1, a2, a3, a4⟩ := hx
  obtain ⟨bo, bc, rfl, b1, b2, b3, b4⟩ := hy
  obtain ⟨a, rfl, c1⟩ := a4 ds.length (by omega)
  have c2 := HX.out.at (i := ds.length - 1) (by omega)
  have c3 := HX.out.at (i := ds.length - 2) (by omega)
  obtain ⟨b, rfl, c4⟩ := b4 (ds.length - 1) (by omega)
  have c5 := HY.out.at (i := ds.length - 2) (by omega)
  clear a4 b4 a3 b3 hlt
  have hH := G.high
  have hp0 := dp.getD (by decide) ds.length
  have hp1 := dp.getD (by decide) (ds.length - 1)
  have hp2 := dp.getD (by decide) (ds.length - 2)
  have ht1 := dd.getD (by decide) (ds.length - 1)
  have hx1 := dd.getD (by decide) (ds.length - 2)
  unfold nth at c1 c2 c3 c4 c5
  generalize ps.getD ds.length 0 = p0 at *
  generalize ps.getD (ds.length - 1) 0 = p1 at *
  generalize ps.getD (ds.length - 2) 0 = p2 at *
  generalize ds.getD (ds.length - 1) 0 = t at *
  generalize ds.getD (ds.length - 2) 0 = x at *
  generalize L32 ^ (ds.length - 2) = E at *
  generalize val L32 ps = P at *
  generalize val L32 ds = D at *
  have hor := or_join (r := p0) (x := p1) hp0 hp1
  have hjb := joinI_bound (r := p0) (x := p1) hp0 hp1
  have HJ : Hid (joinI p0 p1 = ((joinN p0 p1 : Nat) : Int)) := Lib.hid rfl
  have hJ : joinN p0 p1 < 18446744073709551616 := by have hL : L32 = 4294967296 := rfl; unfold joinN; omega
  have q0 : ((joinN p0 p1 : Nat) : Int) / (t : Int) = ((joinN p0 p1 / t : Nat) : Int) := by simp
  have r0 : ((joinN p0 p1 : Nat) : Int) % (t : Int) = ((joinN p0 p1 % t : Nat) : Int) := by simp
  rw [show ((joinN p0 p1 : Nat) : Int) = joinI p0 p1 from rfl] at q0 r0
  have hq0 : joinN p0 p1 / t ≤ joinN p0 p1 := Nat.div_le_self _ _
  have hqr : joinN p0 p1 / t * t + joinN p0 p1 % t = joinN p0 p1 := by rw [Nat.mul_comm]; exact Nat.div_add_mod _ _
  have hrs : joinN p0 p1 % t ≤ joinN p0 p1 := Nat.mod_le _ _
  have hst := G.start
  have HG := Lib.hid G
  clear G
  generalize hHn : joinN p0 p1 = H at *
  generalize H / t = qs at *
  generalize H % t = rs at *
  generalize joinI p0 p1 = HI at *
  have hn : ds.length ≤ ps.length := by omega
  have HST := Lib.hid hst
  have HQR := Lib.hid hqr
  have HH := Lib.hid hH
  have hqb : 0 ≤ HI / (t : Int) ∧ HI / (t : Int) < 18446744073709551616 := by rw [q0]; omega
  have hrb : 0 ≤ HI % (t : Int) ∧ HI % (t : Int) < 18446744073709551616 := by rw [r0]; omega
  have Q0 := Lib.hid q0
  have R0 := Lib.hid r0
  clear hst hqr hH q0 r0
  have hL : L32 = 4294967296 := rfl
  have W0 : IntKind.u64.wrap (p0 : Int) = (p0 : Int) := IntWalk.u64_in _ (by omega)
  have W1 : IntKind.u64.wrap (p1 : Int) = (p1 : Int) := IntWalk.u64_in _ (by omega)
  have W2 : IntKind.u64.wrap ((p0 : Int) * 4294967296) = (p0 : Int) * 4294967296 := IntWalk.u64_in _ (by omega)
  have W3 : IntKind.u64.wrap (t : Int) = (t : Int) := IntWalk.u64_in _ (by omega)
  have W4 : IntKind.u64.wrap (x : Int) = (x : Int) := IntWalk.u64_in _ (by omega)
  go_enter Tryd.func97, Tryd.ntmps97
  go_wp2_with fail
  go_quiet (fail)
  try simp only [W0, W1, W2, hor]
  go_wp2_with fail
  go_quiet (fail)
  try simp only [W3, W4]
  clear W0 W1 W2 W3 W4 hor
  go_wp2_with fail
  go_quiet (fail)
  simp only [Q0.out, R0.out]
  clear hqb hrb
  go_wp2_with fail
  go_loopw [9, 10] (fun c i wr => ∃ q r : Nat, c = .int .u64 (q : Int) ∧ i = .int .u64 (r : Int) ∧ q < 18446744073709551616 ∧ r < 18446744073709551616 ∧ Hid (q * t + r = H) ∧ Hid (P / D ≤ q) ∧ Below w.heap.size w wr) (fun c _ _ => (intOf c).toNat)
  case atStart => exact ⟨qs, rs, rfl, rfl, by omega, by omega, HQR, HST, ((below_drewN' _ _ _).trans (below_drewN' _ _ _)).trans (below_drewN' _ _ _)⟩
  case round =>
    clear HQR HST hrs hq0 Q0 R0
    obtain ⟨q, r, rfl, rfl, hq, hr, HQ, HP, hb⟩ := hrel
    have c3' : wr.cell? (a.add (ds.length - 2)) = some (.int .u32 (p2 : Int)) := by rw [hb.cell (cell_lt c3)]; exact c3
    clear c1 c2 c3 c4 c5
    have hp2' : p2 < 4294967296 := hp2
    by_cases hr1 : 4294967296 ≤ r
    · have hqB : q < L32 := by
        rcases Nat.lt_or_ge q L32 with h | h
        · exact h
        · exfalso
          have e := Nat.mul_le_mul_right t h
          have e2 := HQ.out
          have e3 := HH.out
          rw [Nat.mul_comm t L32] at e3
          have hL : L32 = 4294967296 := rfl
          omega
      have HF := Lib.hid (HG.out.stop HQ.out hqB (Or.inr hr1))
      have hqL : q < 4294967296 := hqB
      go_wp2_with fail
      go_ret
      exact ⟨q, rfl, hqB, HP.out, HF.out, hb⟩
    · by_cases hq1 : 4294967296 ≤ q
      · have HP' := Lib.hid (show P / D ≤ q - 1 by have hL : L32 = 4294967296 := rfl; have := HG.out.quo; omega)
        have HQ' := Lib.hid (show (q - 1) * t + (r + t) = H by
          have e : q * t = (q - 1) * t + t := by rw [← Nat.succ_mul]; congr 1; omega
          have := HQ.out; omega)
        have hrt : r + t < 18446744073709551616 := by have := HQ'.out; omega
        go_wp2_with fail
        go_roundw
        case rel => exact ⟨q - 1, r + t, by go_num, by go_num, by omega, hrt, HQ', HP', hb⟩
        case measure => simp [intOf]; omega
      · have hqx : 0 ≤ (q : Int) * (x : Int) ∧ (q : Int) * (x : Int) ≤ 18446744065119617025 := by
          have := mul_bound (x := q) (y := x) (by omega) hx1
          have e : (q : Int) * (x : Int) = ((q * x : Nat) : Int) := by simp
          rw [e]; omega
        have hor := or_join (r := r) (x := p2) (by omega) hp2
        have hjb := joinI_bound (r := r) (x := p2) (by omega) hp2
        by_cases hc : joinN r p2 < q * x
        · have hP := HG.out.down HQ.out hc
          have HP' := Lib.hid (show P / D ≤ q - 1 by omega)
          have hq0 : 0 < q := by
            rcases Nat.eq_zero_or_pos q with h | h
            · rw [h] at hc; omega
            · exact h
          have HQ' := Lib.hid (show (q - 1) * t + (r + t) = H by
            have e : q * t = (q - 1) * t + t := by rw [← Nat.succ_mul]; congr 1; omega
            have := HQ.out; omega)
          have hrt : r + t < 18446744073709551616 := by have := HQ'.out; omega
          have hc' : joinI r p2 < (q : Int) * (x : Int) := by unfold joinI; exact_mod_cast hc
          clear hc hP
          go_wp2_with fail
          go_roundw
          case rel => exact ⟨q - 1, r + t, by go_num, by go_num, by omega, hrt, HQ', HP', hb⟩
          case measure => simp [intOf]; omega
        · have HF := Lib.hid (HG.out.stop HQ.out (Nat.lt_of_not_le hq1) (Or.inl (Nat.le_of_not_lt hc)))
          have hc' : (q : Int) * (x : Int) ≤ joinI r p2 := by
            unfold joinI
            have := Nat.le_of_not_lt hc
            exact_mod_cast this
          clear hc
          have hqL : q < 4294967296 := by omega
          go_wp2_with fail
          go_ret
          exact ⟨q, rfl, Nat.lt_of_not_le hq1, HP.out, HF.out, hb⟩
end Go.Proofs.YtbkeildnhimfbaaDoor
