/-
  Joined: DivB, DivC, DivD, DivE, GcdA.
-/
import Derived.Test.YtinfbmnimkcdjaaKText
import Derived.Test.YtinfbmnimkcdjaaKMul
import Derived.Test.YtinfbmnimkcdjaaKSh
/- Contracts of package nat: guessLimb, subTimes, divStep. -/
namespace Go.Proofs.Ytinfbmnimkcdjaa
open Go.RowKit
set_option maxRecDepth 100000

/-- What guessLimb knows of its two numbers: P and D, their high limbs and the rest. -/
structure Gs (B P D H p t x E : Nat) : Prop where
  hp : ∃ lp, P = (H * B + p) * E + lp ∧ lp < E
  hd : ∃ ld, D = (t * B + x) * E + ld ∧ ld < E
  B0 : 0 < B
  pb : p < B
  xb : x < B
  tb : t < B
  t0 : 0 < t
  E0 : 0 < E
  lt : P < D * B

theorem Gs.D0 {B P D H p t x E : Nat} (h : Gs B P D H p t x E) : B * E ≤ D := by
  obtain ⟨ld, h1, h2⟩ := h.hd
  rw [h1]
  have h3 : B * E ≤ (t * B + x) * E := Nat.mul_le_mul_right _ (Nat.le_trans (by have := Nat.mul_le_mul_right B h.t0; omega) (Nat.le_add_right (t * B) x))
  omega
theorem Gs.pos {B P D H p t x E : Nat} (h : Gs B P D H p t x E) : 0 < D := Nat.lt_of_lt_of_le (Nat.mul_pos h.B0 h.E0) h.D0
theorem Gs.quo {B P D H p t x E : Nat} (h : Gs B P D H p t x E) : P / D < B := Nat.div_lt_of_lt_mul h.lt
/-- The high limbs of the greater number are less than those of the divisor, one place up, and a limb. -/
theorem Gs.high {B P D H p t x E : Nat} (h : Gs B P D H p t x E) : H < t * B + B := by
  obtain ⟨lp, h1, h2⟩ := h.hp
  obtain ⟨ld, h3, h4⟩ := h.hd
  have h5 := h.lt
  have hx := h.xb
  rcases Nat.lt_or_ge H (t * B + B) with hh | hh
  · exact hh
  · exfalso
    have e1 : (t * B + B) * (B * E) ≤ H * (B * E) := Nat.mul_le_mul_right _ hh
    have e2 : (x + 1) * (E * B) ≤ B * (E * B) := Nat.mul_le_mul_right _ hx
    have e3 : ld * B < E * B := Nat.mul_lt_mul_of_pos_right h4 h.B0
    rw [h1, h3] at h5
    grind
theorem Gs.start {B P D H p t x E : Nat} (h : Gs B P D H p t x E) : P / D ≤ H / t := by
  obtain ⟨lp, h1, h2⟩ := h.hp
  obtain ⟨ld, h3, h4⟩ := h.hd
  have hp := h.pb
  rw [Nat.le_div_iff_mul_le h.t0]
  have hq := Nat.div_mul_le_self P D
  generalize P / D = Q at *
  have e0 : Q * t * (B * E) ≤ Q * D := by
    rw [Nat.mul_assoc]
    refine Nat.mul_le_mul_left _ ?_
    rw [h3]
    grind
  have e1 : P < (H + 1) * (B * E) := by
    have e2 : (p + 1) * E ≤ B * E := Nat.mul_le_mul_right _ hp
    rw [h1]; grind
  have e3 : Q * t * (B * E) < (H + 1) * (B * E) := by omega
  exact Nat.lt_succ_iff.1 (Nat.lt_of_mul_lt_mul_right e3)
theorem Gs.down {B P D H p t x E q r : Nat} (h : Gs B P D H p t x E) (hq : q * t + r = H) (hc : r * B + p < q * x) : P / D < q := by
  obtain ⟨lp, h1, h2⟩ := h.hp
  obtain ⟨ld, h3, h4⟩ := h.hd
  refine Nat.div_lt_of_lt_mul ?_
  have e1 : (H * B + p + 1) * E ≤ q * (t * B + x) * E := Nat.mul_le_mul_right _ (by rw [← hq]; grind)
  have e2 : q * (t * B + x) * E ≤ q * D := by rw [Nat.mul_assoc, h3]; exact Nat.mul_le_mul_left _ (by omega)
  rw [Nat.mul_comm D q]
  grind
theorem Gs.stop {B P D H p t x E q r : Nat} (h : Gs B P D H p t x E) (hq : q * t + r = H) (hb : q < B) (hc : q * x ≤ r * B + p ∨ B ≤ r) : q ≤ P / D + 1 := by
  obtain ⟨lp, h1, h2⟩ := h.hp
  obtain ⟨ld, h3, h4⟩ := h.hd
  have hD := h.D0
  have hpos := h.pos
  have hx := h.xb
  have key : q * D < P + D := by
    rw [h3] at hD ⊢
    rw [h1]
    have e3 : q * ld ≤ q * E := Nat.mul_le_mul_left _ (by omega)
    have e4 : q * E < B * E := Nat.mul_lt_mul_of_pos_right hb h.E0
    rcases hc with hc | hc
    · have e1 : q * (t * B + x) * E ≤ (H * B + p) * E := Nat.mul_le_mul_right _ (by rw [← hq]; grind)
      grind
    · have e5 : q * x ≤ q * B := Nat.mul_le_mul_left _ (by omega)
      have e6 : q * B ≤ B * B := Nat.mul_le_mul_right _ (by omega)
      have e7 : B * B ≤ r * B := Nat.mul_le_mul_right _ hc
      have e1 : q * (t * B + x) * E ≤ (H * B + p) * E := Nat.mul_le_mul_right _ (by rw [← hq]; grind)
      grind
  rcases Nat.eq_zero_or_pos q with h0 | h0
  · rw [h0]; exact Nat.zero_le _
  · have e : (q - 1) * D ≤ P := by
      have : q * D = (q - 1) * D + D := by rw [← Nat.succ_mul]; congr 1; omega
      omega
    have := (Nat.le_div_iff_mul_le hpos).2 e
    omega

theorem top_split {xs : List Nat} {m : Nat} (dx : Dig L32 xs) (h : xs.length = m + 2) : ∃ l, val L32 xs = (xs.getD (m + 1) 0 * L32 + xs.getD m 0) * L32 ^ m + l ∧ l < L32 ^ m := by
  have h1 := val_take_succ' L32 xs (m + 1)
  have h2 := val_take_succ' L32 xs m
  have h3 := val_lt (dx.take m)
  rw [List.length_take, Nat.min_eq_left (by omega)] at h3
  refine ⟨val L32 (xs.take m), ?_, h3⟩
  rw [show m + 1 + 1 = xs.length by omega, List.take_length] at h1
  rw [h1, h2, Nat.pow_succ]
  grind
theorem gs_of {ps ds : List Nat} {m : Nat} (dp : Dig L32 ps) (dd : Dig L32 ds) (hd : ds.length = m + 2) (hp : ps.length = m + 3) (ht : 0 < ds.getD (m + 1) 0) (hlt : val L32 ps < val L32 ds * L32) :
    Gs L32 (val L32 ps) (val L32 ds) (joinN (ps.getD (m + 2) 0) (ps.getD (m + 1) 0)) (ps.getD m 0) (ds.getD (m + 1) 0) (ds.getD m 0) (L32 ^ m) where
  hp := by
    obtain ⟨l, h1, h2⟩ := top_split (m := m + 1) dp hp
    have h3 := val_take_succ' L32 ps (m + 2)
    have h4 := val_take_succ' L32 ps (m + 1)
    have h5 := val_take_succ' L32 ps m
    have h6 := val_lt (dp.take m)
    rw [List.length_take, Nat.min_eq_left (by omega)] at h6
    refine ⟨val L32 (ps.take m), ?_, h6⟩
    rw [show m + 2 + 1 = ps.length by omega, List.take_length] at h3
    rw [h3, h4, h5, Nat.pow_succ, Nat.pow_succ]
    unfold joinN
    grind
  hd := top_split dd hd
  B0 := by decide
  pb := dp.getD (by decide) m
  xb := dd.getD (by decide) m
  tb := dd.getD (by decide) _
  t0 := ht
  E0 := Nat.pow_pos (by decide)
  lt := hlt

set_option maxHeartbeats 2000000 in
set_option maxRecDepth 100000 in
theorem guessLimb_any (va vb : Value) (ps ds : List Nat) (w : World) (hx : Sl w .u32 va ps) (hy : Sl w .u32 vb ds) (dp : Dig L32 ps) (dd : Dig L32 ds) (hd : 2 ≤ ds.length) (hp : ps.length = ds.length + 1)
    (ht : 0 < ds.getD (ds.length - 1) 0) (hlt : val L32 ps < val L32 ds * L32) :
    Calls Try.prog 94 #[va, vb] w fun e w' => ∃ q : Nat, e = .returned (.int .u32 (q : Int)) ∧ q < L32 ∧ val L32 ps / val L32 ds ≤ q ∧ q ≤ val L32 ps / val L32 ds + 1 ∧ Below w.heap.size w w' := by
  have G := gs_of (m := ds.length - 2) dp dd (by omega) (by omega) (by rw [show ds.length - 2 + 1 = ds.length - 1 by omega]; exact ht) hlt
  rw [show ds.length - 2 + 2 = ds.length by omega, show ds.length - 2 + 1 = ds.length - 1 by omega] at G
  have HX := Lib.hid hx
  have HY := Lib.hid hy
  obtain ⟨ao, ac, rfl, a1, a2, a3, a4⟩ := hx
  obtain ⟨bo, bc, rfl, b1, b2, b3, b4⟩ := hy
  obtain ⟨a, rfl, c1⟩ := a4 ds.length (by omega)
  have c2 := HX.out.at (i := ds.length - 1) (by omega)
  have c3 := HX.out.at (i := ds.length - 2) (by omega)
  obtain ⟨b, rfl, c4⟩ := b4 (ds.length - 1) (by omega)
  have c5 := HY.out.at (i := ds.length - 2) (by omega)
  clear a4 b4 a3 b3 hlt
  have hH := G.high
  have hp0 := dp.getD (by decide) ds.length
  have hp1 := dp.getD (by decide) (ds.length - 1)
  have hp2 := dp.getD (by decide) (ds.length - 2)
  have ht1 := dd.getD (by decide) (ds.length - 1)
  have hx1 := dd.getD (by decide) (ds.length - 2)
  unfold nth at c1 c2 c3 c4 c5
  generalize ps.getD ds.length 0 = p0 at *
  generalize ps.getD (ds.length - 1) 0 = p1 at *
  generalize ps.getD (ds.length - 2) 0 = p2 at *
  generalize ds.getD (ds.length - 1) 0 = t at *
  generalize ds.getD (ds.length - 2) 0 = x at *
  generalize L32 ^ (ds.length - 2) = E at *
  generalize val L32 ps = P at *
  generalize val L32 ds = D at *
  have hor := or_join (r := p0) (x := p1) hp0 hp1
  have hjb := joinI_bound (r := p0) (x := p1) hp0 hp1
  have HJ : Hid (joinI p0 p1 = ((joinN p0 p1 : Nat) : Int)) := Lib.hid rfl
  have hJ : joinN p0 p1 < 18446744073709551616 := by have hL : L32 = 4294967296 := rfl; unfold joinN; omega
  have q0 : ((joinN p0 p1 : Nat) : Int) / (t : Int) = ((joinN p0 p1 / t : Nat) : Int) := by simp
  have r0 : ((joinN p0 p1 : Nat) : Int) % (t : Int) = ((joinN p0 p1 % t : Nat) : Int) := by simp
  rw [show ((joinN p0 p1 : Nat) : Int) = joinI p0 p1 from rfl] at q0 r0
  have hq0 : joinN p0 p1 / t ≤ joinN p0 p1 := Nat.div_le_self _ _
  have hqr : joinN p0 p1 / t * t + joinN p0 p1 % t = joinN p0 p1 := by rw [Nat.mul_comm]; exact Nat.div_add_mod _ _
  have hrs : joinN p0 p1 % t ≤ joinN p0 p1 := Nat.mod_le _ _
  have hst := G.start
  have HG := Lib.hid G
  clear G
  generalize hHn : joinN p0 p1 = H at *
  generalize H / t = qs at *
  generalize H % t = rs at *
  generalize joinI p0 p1 = HI at *
  have hn : ds.length ≤ ps.length := by omega
  have HST := Lib.hid hst
  have HQR := Lib.hid hqr
  have HH := Lib.hid hH
  have hqb : 0 ≤ HI / (t : Int) ∧ HI / (t : Int) < 18446744073709551616 := by rw [q0]; omega
  have hrb : 0 ≤ HI % (t : Int) ∧ HI % (t : Int) < 18446744073709551616 := by rw [r0]; omega
  have Q0 := Lib.hid q0
  have R0 := Lib.hid r0
  clear hst hqr hH q0 r0
  have hL : L32 = 4294967296 := rfl
  have W0 : IntKind.u64.wrap (p0 : Int) = (p0 : Int) := IntWalk.u64_in _ (by omega)
  have W1 : IntKind.u64.wrap (p1 : Int) = (p1 : Int) := IntWalk.u64_in _ (by omega)
  have W2 : IntKind.u64.wrap ((p0 : Int) * 4294967296) = (p0 : Int) * 4294967296 := IntWalk.u64_in _ (by omega)
  have W3 : IntKind.u64.wrap (t : Int) = (t : Int) := IntWalk.u64_in _ (by omega)
  have W4 : IntKind.u64.wrap (x : Int) = (x : Int) := IntWalk.u64_in _ (by omega)
  go_enter Try.func94, Try.ntmps94
  go_wp2_with fail
  go_quiet (fail)
  try simp only [W0, W1, W2, hor]
  go_wp2_with fail
  go_quiet (fail)
  try simp only [W3, W4]
  clear W0 W1 W2 W3 W4 hor
  go_wp2_with fail
  go_quiet (fail)
  simp only [Q0.out, R0.out]
  clear hqb hrb
  go_wp2_with fail
  go_loopw [9, 10] (fun c i wr => ∃ q r : Nat, c = .int .u64 (q : Int) ∧ i = .int .u64 (r : Int) ∧ q < 18446744073709551616 ∧ r < 18446744073709551616 ∧ Hid (q * t + r = H) ∧ Hid (P / D ≤ q) ∧ Below w.heap.size w wr) (fun c _ _ => (intOf c).toNat)
  case atStart => exact ⟨qs, rs, rfl, rfl, by omega, by omega, HQR, HST, ((below_drewN' _ _ _).trans (below_drewN' _ _ _)).trans (below_drewN' _ _ _)⟩
  case round =>
    clear HQR HST hrs hq0 Q0 R0
    obtain ⟨q, r, rfl, rfl, hq, hr, HQ, HP, hb⟩ := hrel
    have c3' : wr.cell? (a.add (ds.length - 2)) = some (.int .u32 (p2 : Int)) := by rw [hb.cell (cell_lt c3)]; exact c3
    clear c1 c2 c3 c4 c5
    have hp2' : p2 < 4294967296 := hp2
    by_cases hr1 : 4294967296 ≤ r
    · have hqB : q < L32 := by
        rcases Nat.lt_or_ge q L32 with h | h
        · exact h
        · exfalso
          have e := Nat.mul_le_mul_right t h
          have e2 := HQ.out
          have e3 := HH.out
          rw [Nat.mul_comm t L32] at e3
          have hL : L32 = 4294967296 := rfl
          omega
      have HF := Lib.hid (HG.out.stop HQ.out hqB (Or.inr hr1))
      have hqL : q < 4294967296 := hqB
      go_wp2_with fail
      go_ret
      exact ⟨q, rfl, hqB, HP.out, HF.out, hb⟩
    · by_cases hq1 : 4294967296 ≤ q
      · have HP' := Lib.hid (show P / D ≤ q - 1 by have hL : L32 = 4294967296 := rfl; have := HG.out.quo; omega)
        have HQ' := Lib.hid (show (q - 1) * t + (r + t) = H by
          have e : q * t = (q - 1) * t + t := by rw [← Nat.succ_mul]; congr 1; omega
          have := HQ.out; omega)
        have hrt : r + t < 18446744073709551616 := by have := HQ'.out; omega
        go_wp2_with fail
        go_roundw
        case rel => exact ⟨q - 1, r + t, by go_num, by go_num, by omega, hrt, HQ', HP', hb⟩
        case measure => simp [intOf]; omega
      · have hqx : 0 ≤ (q : Int) * (x : Int) ∧ (q : Int) * (x : Int) ≤ 18446744065119617025 := by
          have := mul_bound (x := q) (y := x) (by omega) hx1
          have e : (q : Int) * (x : Int) = ((q * x : Nat) : Int) := by simp
          rw [e]; omega
        have hor := or_join (r := r) (x := p2) (by omega) hp2
        have hjb := joinI_bound (r := r) (x := p2) (by omega) hp2
        by_cases hc : joinN r p2 < q * x
        · have hP := HG.out.down HQ.out hc
          have HP' := Lib.hid (show P / D ≤ q - 1 by omega)
          have hq0 : 0 < q := by
            rcases Nat.eq_zero_or_pos q with h | h
            · rw [h] at hc; omega
            · exact h
          have HQ' := Lib.hid (show (q - 1) * t + (r + t) = H by
            have e : q * t = (q - 1) * t + t := by rw [← Nat.succ_mul]; congr 1; omega
            have := HQ.out; omega)
          have hrt : r + t < 18446744073709551616 := by have := HQ'.out; omega
          have hc' : joinI r p2 < (q : Int) * (x : Int) := by unfold joinI; exact_mod_cast hc
          clear hc hP
          go_wp2_with fail
          go_roundw
          case rel => exact ⟨q - 1, r + t, by go_num, by go_num, by omega, hrt, HQ', HP', hb⟩
          case measure => simp [intOf]; omega
        · have HF := Lib.hid (HG.out.stop HQ.out (Nat.lt_of_not_le hq1) (Or.inl (Nat.le_of_not_lt hc)))
          have hc' : (q : Int) * (x : Int) ≤ joinI r p2 := by
            unfold joinI
            have := Nat.le_of_not_lt hc
            exact_mod_cast this
          clear hc
          have hqL : q < 4294967296 := by omega
          go_wp2_with fail
          go_ret
          exact ⟨q, rfl, Nat.lt_of_not_le hq1, HP.out, HF.out, hb⟩
end Go.Proofs.Ytinfbmnimkcdjaa

/- Contracts of package nat: subTimes, divStep. -/
namespace Go.Proofs.Ytinfbmnimkcdjaa
open Go.RowKit
set_option maxRecDepth 100000

theorem subTimes_step {B : Nat} {t ys : List Nat} {S x k c b z v b' : Nat} (hy : k < ys.length) (ht : k < t.length) (h : val B t + x * val B (ys.take k) = S + (c + b) * B ^ k) (hz : z = c + x * ys.getD k 0) (hv : v + z % B + b = t.getD k 0 + b' * B) :
    val B (t.set k v) + x * val B (ys.take (k + 1)) = S + (z / B + b') * B ^ (k + 1) := by
  have h1 := val_set B t k v ht
  rw [val_take_succ B ys k hy, Nat.pow_succ]
  have h2 := Nat.mod_add_div z B
  generalize z % B = r at *
  generalize z / B = q at *
  generalize B ^ k = P at *
  have h3 : (r + B * q) * P = (c + x * ys.getD k 0) * P := by rw [h2, hz]
  have h4 : (v + r + b) * P = (t.getD k 0 + b' * B) * P := by rw [hv]
  grind
theorem subTimes_last {B : Nat} {t : List Nat} {S Y k c b v b' : Nat} (ht : k < t.length) (h : val B t + Y = S + (c + b) * B ^ k) (hv : v + c + b = t.getD k 0 + b' * B) :
    val B (t.set k v) + Y = S + b' * B ^ (k + 1) := by
  have h1 := val_set B t k v ht
  rw [Nat.pow_succ]
  generalize B ^ k = P at *
  have h4 : (v + c + b) * P = (t.getD k 0 + b' * B) * P := by rw [hv]
  grind

set_option maxHeartbeats 2000000 in
theorem subTimes_any (g : Nat) (pre s post ys : List Nat) (vs vb : Value) (x : Nat) (zx : Int) (w : World) (hw : Ws w .u32 97 vs g pre s post) (hb : Sl w .u32 vb ys) (ha : Apart g vb) (hl : s.length = ys.length + 1)
   (hs : Dig L32 s) (hy : Dig L32 ys) (hzx : zx = (x : Int)) (hx : x < 4294967296) :
    Calls Try.prog 95 #[vs, vb, .int .u32 zx] w fun e w' => ∃ s' b o, e = .returned (.bool o) ∧ (b = 0 ∧ o = false ∨ b = 1 ∧ o = true) ∧ Ws w' .u32 97 vs g pre s' post ∧ w.grownBy w' (some g) ∧ s'.length = s.length ∧ Dig L32 s' ∧
      val L32 s' + x * val L32 ys = val L32 s + b * L32 ^ (ys.length + 1) := by
  subst hzx
  have hl1 : ys.length < s.length := by omega
  have HL := Lib.hid hl
  clear hl
  obtain ⟨ao, cap, rfl, h1, h2, h3, h4⟩ := hw
  have HB := Lib.hid hb
  obtain ⟨bo, bcap, rfl, k1, k2, k3, k4⟩ := hb
  go_enter Try.func95, Try.ntmps95
  go_wp2
  go_loopw [7, 8, 13] (fun c b i wr => ∃ (k : Nat) (t : List Nat) (cc bb : Nat), i = .int .i64 k ∧ c = .int .u64 (cc : Int) ∧ b = .int .u32 (bb : Int) ∧ cc < 4294967296 ∧ bb ≤ 1 ∧ k ≤ ys.length ∧ w.grownBy wr (some g) ∧ Hid (t.length = s.length) ∧ Dig 4294967296 t ∧
     WsAt wr .u32 97 ao g pre t post s.length ∧ Hid (val L32 t + x * val L32 (ys.take k) = val L32 s + (cc + bb) * L32 ^ k))
    (fun _ _ i _ => ys.length - (intOf i).toNat)
  case atStart => exact ⟨0, s, 0, 0, rfl, rfl, rfl, by omega, by omega, by omega, World.grownBy.refl _ _, Lib.hid rfl, hs, h4, Lib.hid (by simp [val])⟩
  case round =>
    obtain ⟨k, t, cc, bb, rfl, rfl, rfl, hcc, hbb, hk, hg, Ht, hdt, hB, HV⟩ := hrel
    by_cases hlt : k < ys.length
    · obtain ⟨b, rfl, hcb⟩ := k4 k hlt
      obtain ⟨rfl, hB'⟩ := hB (by omega)
      have hkt : k < t.length := by have := Ht.out; omega
      have hcb' := (HB.out.grown hg ha).at hlt
      have hct : wr.cell? ⟨g, pre.length + k, none⟩ = some (.int .u32 (nth t k)) := by
        rw [hB'.cell (by simp; omega), nth_mid _ _ _ _ hkt]
      have hft := hB'.frozen (pre.length + k)
      have y1 := u32_wf hy k
      have t1 := u32_wf hdt k
      have y0 := hy.getD (by decide) k
      have t0 := hdt.getD (by decide) k
      have hm : 0 ≤ (x : Int) * nth ys k ∧ (x : Int) * nth ys k ≤ 18446744065119617025 := by
        have := mul_bound hx y0
        have e : (x : Int) * nth ys k = ((x * ys.getD k 0 : Nat) : Int) := by unfold nth; simp
        rw [e]; omega
      have HE := Lib.hid (show (cc : Int) + (x : Int) * nth ys k = ((cc + x * ys.getD k 0 : Nat) : Int) by unfold nth; simp)
      have HZ := Lib.hid (show cc + x * ys.getD k 0 < 18446744073709551616 by have := mul_bound hx y0; omega)
      obtain ⟨b', e1, e2, v', e3, e4, e5⟩ := bor32_nat (t.getD k 0) ((cc + x * ys.getD k 0) % L32) bb t0 (Nat.mod_lt _ (by decide)) hbb
      have HS := Lib.hid (subTimes_step hlt hkt HV.out rfl e5)
      have E1 := Lib.hid e1
      have E3 := Lib.hid e3
      have HM := Lib.hid (show ((cc : Int) + (x : Int) * nth ys k) % 4294967296 = (((cc + x * ys.getD k 0) % L32 : Nat) : Int) by rw [HE.out]; rfl)
      clear hcb hB h4 k4 y0 t0 e1 e3 e5
      go_wp2_with (go_at_call 85; refine (sub32_any _ _ _ _ (by omega) (by omega) (by omega)).mono ?_; rintro e w' ⟨rfl, rfl⟩)
      go_roundw
      case rel =>
        have hE := HE.out
        have hz := HZ.out
        refine ⟨k + 1, t.set k v', (cc + x * ys.getD k 0) / L32, b', by go_num, ?_, ?_, ?_, e2, by omega, grown_setCell hg _, Lib.hid (by rw [List.length_set]; exact Ht.out), hdt.set e4, fun _ => ⟨rfl, ?_⟩, HS⟩
        · rw [hE]; congr 1
        · rw [← E1.out, HM.out]; rfl
        · exact Nat.div_lt_of_lt_mul (by omega)
        · rw [← set_mid _ _ _ _ _ hkt]
          exact hB'.set _ _ _ (by rw [HM.out, ← E3.out]; rfl)
      case measure => simp [intOf]; omega
    · have hkk : k = ys.length := by omega
      subst hkk
      obtain ⟨rfl, hB'⟩ := hB (by omega)
      have hkt : ys.length < t.length := by have := Ht.out; omega
      have hft := hB'.frozen (pre.length + ys.length)
      have hct : wr.cell? ⟨g, pre.length + ys.length, none⟩ = some (.int .u32 (nth t ys.length)) := by
        rw [hB'.cell (by simp; omega), nth_mid _ _ _ _ hkt]
      have t1 := u32_wf hdt ys.length
      have t0 := hdt.getD (by decide) ys.length
      obtain ⟨b', e1, e2, v', e3, e4, e5⟩ := bor32_nat (t.getD ys.length 0) cc bb t0 hcc hbb
      have HV' := Lib.hid (show val L32 t + x * val L32 ys = val L32 s + (cc + bb) * L32 ^ ys.length by have := HV.out; rwa [List.take_length] at this)
      have HS := Lib.hid (subTimes_last hkt HV'.out e5)
      have E1 := Lib.hid e1
      have E3 := Lib.hid e3
      have hfin : ∀ w2, Blk w2 g .u32 97 (pre ++ t.set ys.length v' ++ post) → Ws w2 .u32 97 (.slice (some ⟨g, pre.length, none⟩) s.length cap) g pre (t.set ys.length v') post := fun w2 h =>
        ⟨some ⟨g, pre.length, none⟩, cap, by rw [List.length_set, Ht.out], by rw [List.length_set, Ht.out]; exact h1, h2, h3, fun _ => ⟨rfl, h⟩⟩
      have HFIN := Lib.hid hfin
      have hbI : bor32 (nth t ys.length) cc bb = (b' : Int) := e1
      have HB1 := Lib.hid hbI
      clear hB h4 k4 e1 e3 e5 t0 hfin HV HV' hbI
      go_wp2_with (go_at_call 85; refine (sub32_any _ _ _ _ (by omega) (by omega) (by omega)).mono ?_; rintro e w' ⟨rfl, rfl⟩)
      go_ret
      refine ⟨t.set ys.length v', b', decide ((0 : Int) < bor32 (nth t ys.length) cc bb), rfl, ?_, ?_, grown_setCell hg _, by rw [List.length_set]; exact Ht.out, hdt.set e4, HS.out⟩
      · rcases Nat.eq_zero_or_pos b' with h | h
        · exact Or.inl ⟨h, by rw [HB1.out, h]; rfl⟩
        · exact Or.inr ⟨by omega, by rw [HB1.out]; simpa using h⟩
      · refine HFIN.out _ ?_
        rw [← set_mid _ _ _ _ _ hkt]
        exact hB'.set _ _ _ (by rw [← E3.out]; rfl)

theorem step_math {P D g t' b n : Nat} (hD : 0 < D) (h1 : P / D ≤ g) (h2 : g ≤ P / D + 1) (h : t' + g * D = P + b * L32 ^ n) (ht : t' < L32 ^ n) (hb : b = 0 ∨ b = 1) (hP : D ≤ L32 ^ n) :
    b = 0 ∧ g = P / D ∧ t' = P % D ∨ b = 1 ∧ g = P / D + 1 ∧ (t' + D) % L32 ^ n = P % D := by
  have hm := Nat.div_add_mod P D
  have hr := Nat.mod_lt P hD
  rw [Nat.mul_comm] at hm
  generalize P / D = Q at *
  generalize P % D = R at *
  generalize L32 ^ n = T at *
  have hg : g = Q ∨ g = Q + 1 := by omega
  rcases hg with rfl | rfl
  · rcases hb with rfl | rfl
    · left; exact ⟨rfl, rfl, by omega⟩
    · exfalso; omega
  · rw [Nat.succ_mul] at h
    rcases hb with rfl | rfl
    · exfalso; omega
    · right
      refine ⟨rfl, rfl, ?_⟩
      rw [show t' + D = R + 1 * T by omega, Nat.add_mul_mod_self_right, Nat.mod_eq_of_lt (by omega)]

set_option maxHeartbeats 1000000 in
theorem divStep_any (g : Nat) (pre s post ys : List Nat) (vs vb : Value) (w : World) (hw : Ws w .u32 97 vs g pre s post) (hb : Sl w .u32 vb ys) (ha : Apart g vb) (hl : s.length = ys.length + 1) (hl2 : 2 ≤ ys.length)
   (hs : Dig L32 s) (hy : Dig L32 ys) (ht : 0 < ys.getD (ys.length - 1) 0) (hlt : val L32 s < val L32 ys * L32) (hg : g < w.heap.size) :
    Calls Try.prog 90 #[vs, vb] w fun e w' => ∃ (s' : List Nat) (q : Nat), e = .returned (.int .u32 (q : Int)) ∧ q = val L32 s / val L32 ys ∧ q < L32 ∧ Ws w' .u32 97 vs g pre s' post ∧ w.grownBy w' (some g) ∧ s'.length = s.length ∧ Dig L32 s' ∧
      val L32 s' = val L32 s % val L32 ys := by
  have hpos : 0 < val L32 ys := by
    rcases Nat.eq_zero_or_pos (val L32 ys) with h | h
    · rw [h] at hlt; omega
    · exact h
  have HLT := Lib.hid hlt
  have HL := Lib.hid hl
  have hsl := Lib.hid hw.sl
  have HT := Lib.hid ht
  clear hlt hl ht
  obtain ⟨ao, cap, rfl⟩ := hw.at
  go_enter Try.func90, Try.ntmps90
  go_wp2_with fail
  refine (guessLimb_any _ _ s ys w hsl.out hb hs hy hl2 HL.out HT.out HLT.out).mono ?_
  rintro e w1 ⟨x, rfl, hx, hx1, hx2, hb1⟩
  have hw1 := hw.below hb1 hg
  have hy1 := hb.below hb1
  have hg1 : w.grownBy w1 (some g) := grown_of_below hb1
  go_wp2_with fail
  refine (subTimes_any g pre s post ys _ _ x _ w1 hw1 hy1 ha HL.out hs hy rfl hx).mono ?_
  rintro e w2 ⟨t, b, o, rfl, hbo, hw2, hg2, hl2', hd2, hv2⟩
  have hg2' := grown_trans hg1 hg2
  have hDn : val L32 ys ≤ L32 ^ (ys.length + 1) := Nat.le_trans (Nat.le_of_lt (val_lt hy)) (Nat.pow_le_pow_right (by decide) (by omega))
  have hm := step_math (n := ys.length + 1) hpos hx1 hx2 hv2 (by have := val_lt hd2; rw [hl2', HL.out] at this; exact this) (by omega) hDn
  have HV := Lib.hid hv2
  clear hv2 hx1 hx2
  have hxL : x < 4294967296 := hx
  rcases hbo with ⟨rfl, rfl⟩ | ⟨rfl, rfl⟩
  · have hm' : x = val L32 s / val L32 ys ∧ val L32 t = val L32 s % val L32 ys := by omega
    have HM := Lib.hid hm'
    clear hm hm'
    have HL2 := Lib.hid hl2'
    clear hl2'
    go_wp2_with fail
    go_ret
    exact ⟨t, x, rfl, HM.out.1, hx, hw2, hg2', HL2.out, hd2, HM.out.2⟩
  · have hm' : x = val L32 s / val L32 ys + 1 ∧ (val L32 t + val L32 ys) % L32 ^ (ys.length + 1) = val L32 s % val L32 ys := by omega
    have HM := Lib.hid hm'
    have hx0 : 0 < x := by rw [hm'.1]; exact Nat.succ_pos _
    have HL2 := Lib.hid hl2'
    clear hm hm' hl2'
    have hy2 := hy1.grown hg2 ha
    have hle : ys.length ≤ t.length := by have := HL2.out; have := HL.out; omega
    have hws2 : Ws w2 .u32 97 (.slice ao s.length cap) g pre t post := hw2
    go_wp2_with fail
    refine (addTo_any g pre t post ys _ _ w2 hw2 hy2 ha hle hd2 hy).mono ?_
    rintro e w3 ⟨r, rfl, hw3, hg3, hl3, hd3, hv3⟩
    have hg3' := grown_trans hg2' hg3
    have HV3 := Lib.hid hv3
    have HL3 := Lib.hid hl3
    clear hv3 hl3 hle
    go_wp2_with fail
    go_ret
    refine ⟨r, x - 1, ?_, by have := HM.out.1; omega, Nat.lt_of_le_of_lt (Nat.sub_le _ _) hx, hw3, hg3', by rw [HL3.out, HL2.out], hd3, ?_⟩
    · rw [show ((x - 1 : Nat) : Int) = (x : Int) - 1 by omega]; rfl
    · rw [HV3.out, HL2.out, HL.out]; exact HM.out.2
end Go.Proofs.Ytinfbmnimkcdjaa

/- Contracts of package nat: divLong, Div. -/
namespace Go.Proofs.Ytinfbmnimkcdjaa
open Go.RowKit
set_option maxRecDepth 100000

theorem lt_bl (n : Nat) : n < 2 ^ bl n := by
  have h := val_lt (Dig_dig (B := 2) (by decide) n)
  rwa [val_dig (by decide)] at h
/-- A shift that sets the top bit keeps the number of limbs. -/
theorem shift_len {Y : List Nat} {n s : Nat} (dy : Dig L32 Y) (hn : Y.length = n + 1) (ht : 0 < Y.getD n 0) (hs : s + bl (Y.getD n 0) ≤ 32) :
    (dig L32 (val L32 Y * 2 ^ s)).length = n + 1 ∧ 0 < (dig L32 (val L32 Y * 2 ^ s)).getD n 0 ∧ L32 ^ n * 2 ^ s ≤ val L32 Y * 2 ^ s := by
  have e := val_take_succ' L32 Y n
  rw [show n + 1 = Y.length by omega, List.take_length] at e
  have h1 := val_lt (dy.take n)
  rw [List.length_take, Nat.min_eq_left (by omega)] at h1
  have h2 := lt_bl (Y.getD n 0)
  generalize Y.getD n 0 = t at *
  have hlo : L32 ^ n ≤ val L32 Y := by
    rw [e]
    have := Nat.mul_le_mul_right (L32 ^ n) ht
    omega
  have hlo2 : L32 ^ n * 2 ^ s ≤ val L32 Y * 2 ^ s := Nat.mul_le_mul_right _ hlo
  have hup : val L32 Y * 2 ^ s < L32 ^ (n + 1) := by
    have h3 : val L32 Y < (t + 1) * L32 ^ n := by rw [e, Nat.succ_mul]; omega
    have h4 : (t + 1) * L32 ^ n ≤ 2 ^ bl t * L32 ^ n := Nat.mul_le_mul_right _ h2
    have h5 : val L32 Y * 2 ^ s < 2 ^ bl t * L32 ^ n * 2 ^ s := Nat.mul_lt_mul_of_pos_right (Nat.lt_of_lt_of_le h3 h4) (Nat.pow_pos (by decide))
    have h6 : 2 ^ bl t * L32 ^ n * 2 ^ s = 2 ^ (s + bl t) * L32 ^ n := by rw [Nat.pow_add]; grind
    have h7 : 2 ^ (s + bl t) ≤ 2 ^ 32 := Nat.pow_le_pow_right (by decide) hs
    have h8 : 2 ^ (s + bl t) * L32 ^ n ≤ 2 ^ 32 * L32 ^ n := Nat.mul_le_mul_right _ h7
    have h9 : L32 ^ (n + 1) = 2 ^ 32 * L32 ^ n := by rw [Nat.pow_succ, Nat.mul_comm]
    omega
  have hge : L32 ^ n ≤ val L32 Y * 2 ^ s := Nat.le_trans hlo (Nat.le_mul_of_pos_right _ (Nat.pow_pos (by decide)))
  generalize val L32 Y * 2 ^ s = D at *
  have hd := Dig_dig (B := L32) (by decide) D
  have hv := val_dig (B := L32) (by decide) D
  have hl : (dig L32 D).length = n + 1 := by
    have h1 := length_dig_le (B := L32) (by decide) hup
    rcases Nat.lt_or_ge (dig L32 D).length (n + 1) with h | h
    · exfalso
      have h3 := val_lt hd
      rw [hv] at h3
      have h4 : L32 ^ (dig L32 D).length ≤ L32 ^ n := Nat.pow_le_pow_right (by decide) (by omega)
      omega
    · omega
  refine ⟨hl, ?_, hlo2⟩
  rcases Nat.eq_zero_or_pos ((dig L32 D).getD n 0) with h | h
  · exfalso
    have e2 := val_take_succ' L32 (dig L32 D) n
    rw [show n + 1 = (dig L32 D).length by omega, List.take_length, h, hv, Nat.zero_mul] at e2
    have h3 := val_lt (hd.take n)
    rw [List.length_take, Nat.min_eq_left (by omega)] at h3
    omega
  · exact h

theorem val_zeros_high {B : Nat} {R : List Nat} {j : Nat} (h : val B R < B ^ j) : val B R = val B (R.take j) := by
  rcases Nat.lt_or_ge R.length j with hj | hj
  · rw [List.take_of_length_le (by omega)]
  · have h1 := val_split B R j hj
    rcases Nat.eq_zero_or_pos (val B (R.drop j)) with h0 | h0
    · rw [h0] at h1; omega
    · have := Nat.mul_le_mul_left (B ^ j) h0
      omega

/-- One step of the long division: what it takes, and what it leaves. -/
theorem long_part {B : Nat} (B0 : 0 < B) {R Q : List Nat} {D A i n : Nat} (dr : Dig B R) (hD : D < B ^ n) (hi : i + n + 1 ≤ R.length) (hA : val B R + D * val B Q = A) (hR : val B R < D * B ^ (i + 1)) :
    val B ((R.drop i).take (n + 1)) < D * B ∧ ∀ (s' : List Nat) (q : Nat), s'.length = n + 1 → i < Q.length → Q.getD i 0 = 0 → q = val B ((R.drop i).take (n + 1)) / D → val B s' = val B ((R.drop i).take (n + 1)) % D →
      val B (R.take i ++ s' ++ R.drop (i + (n + 1))) + D * val B (Q.set i q) = A ∧ val B (R.take i ++ s' ++ R.drop (i + (n + 1))) < D * B ^ i := by
  have hpos : 0 < D := by
    rcases Nat.eq_zero_or_pos D with h | h
    · rw [h] at hR; omega
    · exact h
  have hlt : val B R < B ^ (i + (n + 1)) := by
    refine Nat.lt_of_lt_of_le hR ?_
    rw [show i + (n + 1) = n + (i + 1) by omega, Nat.pow_add B n]
    exact Nat.mul_le_mul_right _ (Nat.le_of_lt hD)
  have h1 := val_zeros_high hlt
  have h0 : val B (R.drop (i + (n + 1))) = 0 := by
    have h2 := val_split B R (i + (n + 1)) (by omega)
    rw [← h1] at h2
    have h3 : 0 < B ^ (i + (n + 1)) := Nat.pow_pos B0
    rcases Nat.eq_zero_or_pos (val B (R.drop (i + (n + 1)))) with h | h
    · exact h
    · have := Nat.mul_pos h3 h; omega
  have h4 := val_split B R i (by omega)
  have h5 : val B (R.drop i) = val B ((R.drop i).take (n + 1)) := by
    have h6 := val_split B (R.drop i) (n + 1) (by rw [List.length_drop]; omega)
    rw [List.drop_drop, h0] at h6
    omega
  have h7 := val_lt (dr.take i)
  rw [List.length_take, Nat.min_eq_left (by omega)] at h7
  have hP : 0 < B ^ i := Nat.pow_pos B0
  rw [h5] at h4
  generalize hS : val B ((R.drop i).take (n + 1)) = S at *
  rw [Nat.pow_succ] at hR
  refine ⟨?_, ?_⟩
  · refine Nat.lt_of_mul_lt_mul_left (a := B ^ i) ?_
    have e : B ^ i * (D * B) = D * (B ^ i * B) := by grind
    rw [e]; omega
  · intro s' q hl hi2 hq0 hq hs
    have e1 : val B (R.take i ++ s' ++ R.drop (i + (n + 1))) = val B (R.take i) + B ^ i * val B s' := by
      rw [val_append, val_append, h0, List.length_take, Nat.min_eq_left (by omega)]
      omega
    have e2 := val_set B Q i q hi2
    rw [hq0] at e2
    have e3 := Nat.div_add_mod S D
    have e4 := Nat.mod_lt S hpos
    rw [e1, hs]
    rw [← hq] at e3
    generalize S % D = r at *
    generalize val B (R.take i) = T at *
    generalize B ^ i = P at *
    constructor
    · rw [← hA, h4, ← e3, show val B (Q.set i q) = val B Q + q * P by omega]
      grind
    · have e5 : P * (r + 1) ≤ P * D := Nat.mul_le_mul_left _ e4
      rw [Nat.mul_comm D P]
      rw [Nat.mul_succ] at e5
      omega

theorem ws_sub {w : World} {T : TypeId} {g i n c : Nat} {P : List Nat} (hB : Blk w g .u32 T P) (hi : i + n ≤ P.length) (hc : n ≤ c) (hm : c ≤ 9223372036854775807) :
    Ws w .u32 T (.slice (some ⟨g, i, none⟩) n c) g (P.take i) ((P.drop i).take n) (P.drop (i + n)) := by
  have e1 : ((P.drop i).take n).length = n := by simp; omega
  have e2 : (P.take i).length = i := by simp; omega
  refine ⟨some ⟨g, i, none⟩, c, by rw [e1], by rw [e1]; omega, hm, (fun e => by cases e), fun _ => ⟨by rw [e2], ?_⟩⟩
  have e3 : P.take i ++ (P.drop i).take n ++ P.drop (i + n) = P := by
    rw [List.append_assoc, ← List.drop_drop, List.take_append_drop, List.take_append_drop]
  rw [e3]; exact hB

set_option maxHeartbeats 2000000 in
set_option maxRecDepth 100000 in
theorem divLong_any (va vb : Value) (X Y : List Nat) (w : World) (hx : Sl w .u32 va X) (hy : Sl w .u32 vb Y) (dx : Dig L32 X) (dy : Dig L32 Y) (hn : 2 ≤ Y.length) (ht : 0 < Y.getD (Y.length - 1) 0) (hm : X.length ≤ 900000) (hle : val L32 Y ≤ val L32 X) :
    Calls Try.prog 83 #[va, vb] w fun e w' => ∃ q r, e = .returned (.tuple #[q, r]) ∧ Sl w' .u32 q (dig L32 (val L32 X / val L32 Y)) ∧ Sl w' .u32 r (dig L32 (val L32 X % val L32 Y)) ∧ Below w.heap.size w w' := by
  obtain ⟨i0, hi, hz0, hz1, hz2⟩ := info_parts info51
  have t0 := dy.getD (by decide) (Y.length - 1)
  have t1 := u32_wf dy (Y.length - 1)
  have hl32 : bl (Y.getD (Y.length - 1) 0) ≤ 32 := bl_le t0
  obtain ⟨s, hs⟩ : ∃ s, s = 32 - bl (Y.getD (Y.length - 1) 0) := ⟨_, rfl⟩
  have hbl : (32 : Int) - (Lib.bitLen (nth Y (Y.length - 1)).toNat : Int) = (s : Int) := by
    unfold nth; rw [Int.toNat_natCast, bitLen_bl _ (Nat.lt_trans t0 (by decide))]; omega
  have hcl : clampN (s : Int) = s := by unfold clampN; omega
  obtain ⟨h1, h2, h3⟩ := shift_len (n := Y.length - 1) (s := s) dy (by omega) ht (by omega)
  rw [show Y.length - 1 + 1 = Y.length by omega] at h1
  have hmn : Y.length ≤ X.length := by
    rcases Nat.lt_or_ge X.length Y.length with h | h
    · exfalso
      have e1 := val_lt dx
      have e2 : L32 ^ X.length ≤ L32 ^ (Y.length - 1) := Nat.pow_le_pow_right (by decide) (by omega)
      have e3 := Nat.le_of_mul_le_mul_right h3 (Nat.pow_pos (by decide))
      omega
    · exact h
  have hXA : val L32 X * 2 ^ s < L32 ^ (X.length + 1) := by
    rw [Nat.pow_succ]
    exact Nat.mul_lt_mul_of_lt_of_le (val_lt dx) (show 2 ^ s ≤ 2 ^ 32 from Nat.pow_le_pow_right (by decide) (by omega)) (by decide)
  have hla := length_dig_le (B := L32) (k := X.length + 1) (by decide) hXA
  have hq0 : val L32 X * 2 ^ s < val L32 Y * 2 ^ s * L32 ^ (X.length - Y.length + 1) := by
    have e1 : L32 ^ (Y.length - 1) * 2 ^ s * L32 ^ (X.length - Y.length + 1) ≤ val L32 Y * 2 ^ s * L32 ^ (X.length - Y.length + 1) := Nat.mul_le_mul_right _ h3
    have e2 : L32 ^ (Y.length - 1) * 2 ^ s * L32 ^ (X.length - Y.length + 1) = L32 ^ X.length * 2 ^ s := by
      rw [Nat.mul_right_comm, ← Nat.pow_add]; congr 2; omega
    have e3 : val L32 X * 2 ^ s < L32 ^ X.length * 2 ^ s := Nat.mul_lt_mul_of_pos_right (val_lt dx) (Nat.pow_pos (by decide))
    omega
  have hDn : val L32 Y * 2 ^ s < L32 ^ Y.length := by
    have := val_lt (Dig_dig (B := L32) (by decide) (val L32 Y * 2 ^ s))
    rwa [val_dig (by decide), h1] at this
  have hdiv : val L32 X * 2 ^ s / (val L32 Y * 2 ^ s) = val L32 X / val L32 Y := Nat.mul_div_mul_right _ _ (Nat.pow_pos (by decide))
  have hmod : val L32 X * 2 ^ s % (val L32 Y * 2 ^ s) / 2 ^ s = val L32 X % val L32 Y := by
    rw [Nat.mul_mod_mul_right, Nat.mul_div_cancel _ (Nat.pow_pos (by decide))]
  have hs32 : s ≤ 32 := by omega
  obtain ⟨Dl, hDl⟩ : ∃ Dl, Dl = dig L32 (val L32 Y * 2 ^ s) := ⟨_, rfl⟩
  obtain ⟨D, hDv⟩ : ∃ D, D = val L32 Y * 2 ^ s := ⟨_, rfl⟩
  obtain ⟨A, hAv⟩ : ∃ A, A = val L32 X * 2 ^ s := ⟨_, rfl⟩
  obtain ⟨R0, hR0⟩ : ∃ R0, R0 = dig L32 (val L32 X * 2 ^ s) ++ List.replicate (X.length + 1 - (dig L32 (val L32 X * 2 ^ s)).length) 0 := ⟨_, rfl⟩
  have dDl : Dig L32 Dl := by rw [hDl]; exact Dig_dig (by decide) _
  have vDl : val L32 Dl = D := by rw [hDl, val_dig (by decide), hDv]
  have dR0 : Dig L32 R0 := by rw [hR0]; exact (Dig_dig (by decide) _).append (Dig.replicate (by decide) _)
  have vR0 : val L32 R0 = A := by rw [hR0, append_zeros_val, val_dig (by decide), hAv]
  have lR0 : R0.length = X.length + 1 := by rw [hR0, List.length_append, List.length_replicate]; omega
  have hDpos : 0 < D := by
    rcases Nat.eq_zero_or_pos D with h | h
    · rw [hDv] at h; rw [h] at hq0; omega
    · exact h
  rw [← hDl] at h1 h2
  rw [← hDv] at hq0 hDn hdiv hmod
  rw [← hAv] at hq0 hdiv hmod
  have HRL := Lib.hid lR0
  have HVR := Lib.hid vR0
  have HVD := Lib.hid vDl
  have HDl := Lib.hid hDl
  have HR0 := Lib.hid hR0
  have HD := Lib.hid hdiv
  have HM := Lib.hid hmod
  have HC := Lib.hid hcl
  have HBL := Lib.hid hbl
  have HT := Lib.hid h2
  have HQ0 := Lib.hid hq0
  have HDN := Lib.hid hDn
  have HLA := Lib.hid hla
  have HLD := Lib.hid h1
  clear hdiv hmod hcl hbl h1 h2 h3 hq0 hDn hXA ht hle hla hs hDl hR0 vDl vR0 lR0 hDv hAv
  obtain ⟨ao, ac, rfl⟩ := sl_shape hx
  have HY := Lib.hid hy
  obtain ⟨bo, bc, rfl, b1, b2, b3, b4⟩ := hy
  obtain ⟨b, rfl, c1⟩ := b4 (Y.length - 1) (by omega)
  clear b4 b3
  go_enter Try.func83, Try.ntmps83
  go_wp2_with fail
  refine (Try.bits_LeadingZeros32 _ _ (by omega) (by omega)).mono ?_; rintro e w' ⟨rfl, hw'⟩; obtain rfl := hw'.symm
  rw [HBL.out]
  go_wp2_with fail
  refine (shl_any _ Y _ _ HY.out dy (by omega)).mono ?_
  rintro e w1 ⟨vd, rfl, hd1, hb1⟩
  rw [HC.out, ← HDl.out] at hd1
  go_wp2_with fail
  refine (shl_any _ X _ w1 (hx.below hb1) dx (by omega)).mono ?_
  rintro e w2 ⟨v2, rfl, ha2, hb2⟩
  rw [HC.out] at ha2
  have hd2 := hd1.below hb2
  have hb2t : Below _ _ w2 := hb1.trans (hb2.mono hb1.size)
  obtain ⟨o2, cp2, rfl⟩ := sl_shape ha2
  go_wp2_with fail
  refine (padded_any o2 _ cp2 _ (X.length + 1) _ w2 ha2 HLA.out (by omega) (by omega)).mono ?_
  rintro e w3 ⟨v3, rfl, hr3, hb3, hs3⟩
  rw [← HR0.out] at hr3
  have hb3t : Below _ _ w3 := hb2t.trans (hb3.mono hb2t.size)
  obtain ⟨o3, c3, rfl, r1, r2, r3, r4⟩ := hr3
  obtain ⟨rfl, hB3⟩ := r4 (by rw [HRL.out]; omega)
  rw [List.nil_append, List.append_nil] at hB3
  rw [HRL.out] at r1 r4 ⊢
  have hs3' : w2.heap.size < w3.heap.size := hs3 (by omega)
  have hd3 := hd2.below hb3
  obtain ⟨od, cd, rfl⟩ := sl_shape hd3
  have hap : Apart w2.heap.size (.slice od Dl.length cd) := sl_apart hd2 (Nat.le_refl _)
  rw [HLD.out] at hap hd3 ⊢
  clear hs3 r4 ha2 hd2 hd1
  go_wp2_with (at_make; refine wpList_make_blk _ rfl _ _ 24 rfl 97 i0 .u32 Try.underlying24 hi hz0 hz1 _ _ _ _ (X.length - Y.length + 1) rfl rfl (by omega) (by omega) (by omega) (by omega) ?_; intro w4 hB4 hb4 hs4)
  have hd4 := hd3.below hb4
  have hb4t : Below w.heap.size w w4 := hb3t.trans (hb4.mono hb3t.size)
  have hB34 := hB3.below hb4 (by omega)
  have hap2 : Apart w3.heap.size (.slice od Y.length cd) := sl_apart hd3 (Nat.le_refl _)
  have hg1 := hb2t.size
  have hg2 := hb3t.size
  clear hB3 hd3
  go_loopw [10] (fun i wr => ∃ (k : Nat) (R Q : List Nat), i = .int .i64 ((k : Int) - 1) ∧ k ≤ X.length - Y.length + 1 ∧ Blk wr w2.heap.size .u32 97 R ∧ Blk wr w3.heap.size .u32 97 Q ∧ Below w.heap.size w wr ∧ Sl wr .u32 (.slice od Y.length cd) Dl ∧ Dig L32 R ∧ Dig L32 Q ∧
    Hid (R.length = X.length + 1) ∧ Hid (Q.length = X.length - Y.length + 1) ∧ Hid (∀ j, j < k → Q.getD j 0 = 0) ∧ Hid (val L32 R + D * val L32 Q = A) ∧ Hid (val L32 R < D * L32 ^ k)) (fun i _ => (intOf i + 1).toNat)
  case atStart => exact ⟨X.length - Y.length + 1, R0, _, by go_num, Nat.le_refl _, hB34, hB4, hb4t, hd4, dR0, Dig.replicate (by decide) _, HRL, Lib.hid (by simp), Lib.hid (fun j _ => getD_zeros _ _), Lib.hid (by rw [val_replicate_zero, HVR.out]; simp), Lib.hid (by rw [HVR.out]; exact HQ0.out)⟩
  case round =>
    clear hB34 hB4 hb4t hd4 hb4 hs4
    obtain ⟨k, R, Q, rfl, hk, hBR, hBQ, hb, hd, dR, dQ, HLR, HLQ, HZ, HA, HR⟩ := hrel
    by_cases h0 : 0 < k
    · have hws := ws_sub (i := k - 1) (n := Y.length + 1) (c := c3 - (k - 1)) hBR (by have := HLR.out; omega) (by omega) (by omega)
      have hft := hBQ.frozen (k - 1)
      have hQl : k - 1 < Q.length := by have := HLQ.out; omega
      go_wp2_with fail
      rw [show k - 1 + Y.length + 1 - (k - 1) = Y.length + 1 by omega]
      have hlp := long_part (B := L32) (by decide) (i := k - 1) (n := Y.length) dR HDN.out (by have := HLR.out; omega) HA.out (by rw [show k - 1 + 1 = k by omega]; exact HR.out)
      refine (divStep_any w2.heap.size _ _ _ Dl _ _ wr hws hd hap (by rw [HLD.out, List.length_take, List.length_drop, HLR.out]; omega) (by rw [HLD.out]; omega) ((dR.drop _).take _) dDl (by rw [HLD.out]; exact HT.out) (by rw [HVD.out]; exact hlp.1) hBR.lt).mono ?_
      rintro e w5 ⟨r, q, rfl, hq, hqb, hw5, hg5, hl5, hd5, hv5⟩
      rw [HVD.out] at hq hv5
      rw [List.length_take, List.length_drop, HLR.out, Nat.min_eq_left (by omega)] at hl5
      have HN := Lib.hid (hlp.2 r q hl5 hQl (HZ.out _ (by omega)) hq hv5)
      have hBR5 := ws_whole hw5 (by omega)
      have hBQ5 := hBQ.other hg5 (fun e => by injection e with e; omega)
      have hft5 := hBQ5.frozen (k - 1)
      have hcl5 := hBQ5.cell hQl
      have hb5 := hb.trans (below_of_grown' hg5 hg1 hb.size)
      have hd5' := hd.grown hg5 hap
      have hqb' : q < 4294967296 := hqb
      have HL5 := Lib.hid hl5
      clear hlp hq hv5 hl5 hw5 hws hft
      go_wp2_with fail
      go_roundw
      case rel =>
        have hset := hBQ5.set (k - 1) q _ rfl
        refine ⟨k - 1, R.take (k - 1) ++ r ++ R.drop (k - 1 + (Y.length + 1)), Q.set (k - 1) q, by go_num, by omega, ?_, hset, below_of_grown' (grown_setCell (World.grownBy.refl _ _) _) hg2 hb5.size |> hb5.trans, hd5'.grown (grown_setCell (World.grownBy.refl _ _) _) hap2, ((dR.take _).append hd5).append (dR.drop _), dQ.set hqb, Lib.hid ?_, Lib.hid (by rw [List.length_set]; exact HLQ.out), Lib.hid ?_, Lib.hid HN.out.1, Lib.hid HN.out.2⟩
        · exact hBR5.other (grown_setCell (World.grownBy.refl _ (some w3.heap.size)) _) (fun e => by injection e with e; omega)
        · rw [List.length_append, List.length_append, HL5.out, List.length_take, List.length_drop, HLR.out]; omega
        · intro j hj
          rw [getD_set, if_neg (by omega)]
          exact HZ.out j (by omega)
      case measure => simp [intOf]; omega
    · have hk0 : k = 0 := by omega
      subst hk0
      have hA := HA.out
      have hR := HR.out
      rw [Nat.pow_zero, Nat.mul_one] at hR
      have e1 : val L32 Q = A / D := by
        rw [← hA, Nat.add_mul_div_left _ _ hDpos, Nat.div_eq_of_lt hR, Nat.zero_add]
      have e2 : val L32 R = A % D := by
        rw [← hA, Nat.add_mul_mod_self_left, Nat.mod_eq_of_lt hR]
      rw [HD.out] at e1
      have e3 : val L32 R / 2 ^ s = val L32 X % val L32 Y := by rw [e2]; exact HM.out
      have E1 := Lib.hid e1
      have E3 := Lib.hid e3
      have hsq := hBQ.sl 0 (X.length - Y.length + 1) (X.length - Y.length + 1) (by rw [HLQ.out]; omega) (Nat.le_refl _) (by omega)
      rw [List.drop_zero, List.take_of_length_le (by rw [HLQ.out]; omega)] at hsq
      have hsr := hBR.sl 0 (X.length + 1) c3 (by rw [HLR.out]; omega) (by omega) (by omega)
      rw [List.drop_zero, List.take_of_length_le (by rw [HLR.out]; omega)] at hsr
      clear e1 e2 e3 hA hR hBQ hBR
      go_wp2_with fail
      refine (trimmed_v _ Q _ hsq dQ).mono ?_
      rintro e w6 ⟨v6, rfl, ht6, rfl⟩
      go_wp2_with fail
      refine (shr_any _ R _ wr hsr dR (by rw [HLR.out]; omega)).mono ?_
      rintro e w7 ⟨v7, rfl, ht7, hb7⟩
      rw [HC.out, E3.out] at ht7
      rw [E1.out] at ht6
      go_wp2_with fail
      go_ret2
      exact ⟨_, _, rfl, ht6.below hb7, ht7, hb.trans (hb7.mono hb.size)⟩
end Go.Proofs.Ytinfbmnimkcdjaa

/- Contracts of package nat: Div whole, low, Gcd. -/
namespace Go.Proofs.Ytinfbmnimkcdjaa
open Go.RowKit
set_option maxRecDepth 100000

/-- The top digit of a number without needless zeros isn't 0. -/
theorem nz_top {xs : List Nat} {B : Nat} (hB : 2 ≤ B) (dx : Dig B xs) (h : nz xs = xs.length) (hp : 0 < xs.length) : 0 < xs.getD (xs.length - 1) 0 := by
  rcases Nat.eq_zero_or_pos (xs.getD (xs.length - 1) 0) with h0 | h0
  · exfalso
    have e := val_take_succ' B xs (xs.length - 1)
    rw [show xs.length - 1 + 1 = xs.length by omega, List.take_length, h0, Nat.zero_mul, Nat.add_zero] at e
    have h1 : (dig B (val B xs)).length = nz xs := length_dig_val hB dx
    have h2 := val_lt (dx.take (xs.length - 1))
    rw [← e, List.length_take, Nat.min_eq_left (by omega)] at h2
    have h3 := length_dig_le hB h2
    omega
  · exact h0
theorem nz_take_nz {xs : List Nat} {B : Nat} (hB : 2 ≤ B) (dx : Dig B xs) : nz (xs.take (nz xs)) = nz xs := by
  have h1 : (dig B (val B xs)).length = nz xs := length_dig_val hB dx
  have h2 : (dig B (val B (xs.take (nz xs)))).length = nz (xs.take (nz xs)) := length_dig_val hB (dx.take _)
  rw [val_take_nz hB dx] at h2
  omega

set_option maxHeartbeats 1000000 in
theorem div_two (va vb : Value) (xs ys : List Nat) (w : World) (hx : Sl w .u32 va xs) (hy : Sl w .u32 vb ys) (dx : Dig L32 xs) (dy : Dig L32 ys) (lx : xs.length ≤ 900000) (h0 : val L32 ys ≤ val L32 xs) (h1 : 2 ≤ nz ys) :
    Calls Try.prog 66 #[va, vb] w fun e w' => ∃ q r, e = .returned (.tuple #[q, r, .bool true]) ∧ Sl w' .u32 q (dig L32 (val L32 xs / val L32 ys)) ∧ Sl w' .u32 r (dig L32 (val L32 xs % val L32 ys)) ∧ Below w.heap.size w w' := by
  obtain ⟨ao, ac, rfl⟩ := sl_shape hx
  obtain ⟨bo, bc, rfl⟩ := sl_shape hy
  have hly := nz_le ys
  have nx := nz_le xs
  have hx' := hx.take (nz xs) (nz_le xs)
  have hy' := hy.take (nz ys) (nz_le ys)
  have VX := val_take_nz (B := L32) (by decide) dx
  have VY := val_take_nz (B := L32) (by decide) dy
  have lX : (xs.take (nz xs)).length = nz xs := by simp; omega
  have lY : (ys.take (nz ys)).length = nz ys := by simp; omega
  have hT := nz_top (B := L32) (by decide) (dy.take (nz ys)) (by rw [nz_take_nz (B := L32) (by decide) dy, lY]) (by omega)
  have hz : (((nz ys : Nat) : Int) == 0) = false := by rw [beq_eq_false_iff_ne]; omega
  have hz1 : (((nz ys : Nat) : Int) == 1) = false := by rw [beq_eq_false_iff_ne]; omega
  have hc : 0 ≤ cmpN (val L32 (xs.take (nz xs))) (val L32 (ys.take (nz ys))) := by
    rw [VX, VY]; unfold cmpN; rw [if_neg (by omega)]; split <;> omega
  have dX := dx.take (nz xs)
  have dY := dy.take (nz ys)
  have HSX := Lib.hid hx
  have HSY := Lib.hid hy
  have SIGX := Lib.hid (fun w => sig_any ao xs.length ac xs w)
  have SIGY := Lib.hid (fun w => sig_any bo ys.length bc ys w)
  rw [← VX, ← VY] at h0 ⊢
  clear hx hy VX VY dx dy
  generalize xs.take (nz xs) = X at *
  generalize ys.take (nz ys) = Y at *
  generalize nz xs = m at *
  generalize nz ys = n at *
  have LX := Lib.hid lX
  have LY := Lib.hid lY
  have HT := Lib.hid hT
  have HLE := Lib.hid h0
  clear lX lY hT h0
  go_enter Try.func66, Try.ntmps66
  go_wp2_with fail
  refine (SIGX.out _ HSX.out).mono ?_; rintro e w' ⟨rfl, rfl⟩
  go_wp2_with fail
  refine (SIGY.out _ HSY.out).mono ?_; rintro e w' ⟨rfl, rfl⟩
  go_wp2_with fail
  refine (cmp_any _ _ _ _ _ hx' hy' dX dY).mono ?_; rintro e w1 ⟨rfl, hb1⟩
  go_wp2_with fail
  refine (divLong_any _ _ X Y w1 (hx'.below hb1) (hy'.below hb1) dX dY (by rw [LY.out]; exact h1) HT.out (by rw [LX.out]; omega) HLE.out).mono ?_
  rintro e w2 ⟨q, r, rfl, hq, hr, hb2⟩
  go_wp2_with fail
  go_ret3
  exact ⟨_, _, rfl, hq, hr, hb1.trans (hb2.mono hb1.size)⟩

theorem div_any (va vb : Value) (xs ys : List Nat) (w : World) (hx : Sl w .u32 va xs) (hy : Sl w .u32 vb ys) (dx : Dig L32 xs) (dy : Dig L32 ys) (lx : xs.length ≤ 900000) (h0 : 0 < val L32 ys) :
    Calls Try.prog 66 #[va, vb] w fun e w' => ∃ q r, e = .returned (.tuple #[q, r, .bool true]) ∧ Sl w' .u32 q (dig L32 (val L32 xs / val L32 ys)) ∧ Sl w' .u32 r (dig L32 (val L32 xs % val L32 ys)) ∧ Below w.heap.size w w' := by
  by_cases h : val L32 xs < val L32 ys
  · refine (div_lt va vb xs ys w hx hy dx dy (by omega) h).mono ?_
    rintro e w' ⟨r, rfl, hr, hb⟩
    exact ⟨_, _, rfl, by rw [Nat.div_eq_of_lt h, dig_zero]; exact Sl.nil _ _, by rw [Nat.mod_eq_of_lt h]; exact hr, hb⟩
  · by_cases h1 : nz ys = 1
    · exact div_one va vb xs ys w hx hy dx dy (by omega) (by omega) h1
    · exact div_two va vb xs ys w hx hy dx dy lx (by omega) (by have := nz_pos_of dy h0; omega)

/-- The same, of numbers. -/
theorem div_n {va vb : Value} {m n k1 k2 : Nat} {w : World} (hx : GN w va m k1) (hy : GN w vb n k2) (h1 : k1 ≤ 900000) (h0 : 0 < n) :
    Calls Try.prog 66 #[va, vb] w fun e w' => ∃ q r, e = .returned (.tuple #[q, r, .bool true]) ∧ Sl w' .u32 q (dig L32 (m / n)) ∧ Sl w' .u32 r (dig L32 (m % n)) ∧ Below w.heap.size w w' := by
  obtain ⟨xs, hx, dx, rfl, lx⟩ := hx
  obtain ⟨ys, hy, dy, rfl, ly⟩ := hy
  exact div_any _ _ _ _ w hx hy dx dy (by omega) h0
end Go.Proofs.Ytinfbmnimkcdjaa

/- Contracts of package nat: low, Gcd. -/
namespace Go.Proofs.Ytinfbmnimkcdjaa
open Go.RowKit
set_option maxRecDepth 100000

theorem low_step {xs : List Nat} {k n : Nat} (hk : 0 < k) (hl : k ≤ xs.length) (hn : n = val L32 (xs.drop k)) : joinN n (xs.getD (k - 1) 0) = val L32 (xs.drop (k - 1)) := by
  have h : xs.drop (k - 1) = xs.getD (k - 1) 0 :: xs.drop k := by
    rw [List.drop_eq_getElem_cons (by omega)]
    congr 1
    · simp [List.getD, show k - 1 < xs.length by omega]
    · congr 1; omega
  rw [h, hn]
  unfold joinN
  simp only [val]
  generalize val L32 (xs.drop k) = v
  show v * 4294967296 + _ = _ + 4294967296 * v
  omega

theorem sl_unique {w : World} {k : IntKind} {v : Value} {xs ys : List Nat} (hx : Sl w k v xs) (hy : Sl w k v ys) : xs = ys := by
  obtain ⟨ao, ac, rfl, a1, a2, a3, a4⟩ := hx
  obtain ⟨bo, bc, e, b1, b2, b3, b4⟩ := hy
  injection e with e1 e2 e3
  subst e1
  refine List.ext_getElem e2 fun i h1 h2 => ?_
  obtain ⟨a, rfl, c1⟩ := a4 i h1
  obtain ⟨b, e4, c2⟩ := b4 i h2
  injection e4 with e4
  subst e4
  rw [c1] at c2
  injection c2 with c2
  injection c2 with _ c2
  rw [nth_eq h1, nth_eq h2] at c2
  omega

open Classical in
/-- The number that a canonical slice of limbs reads as. -/
noncomputable def numOf (w : World) (v : Value) : Nat := if h : ∃ n, Sl w .u32 v (dig L32 n) then h.choose else 0
theorem numOf_eq {w : World} {v : Value} {n : Nat} (h : Sl w .u32 v (dig L32 n)) : numOf w v = n := by
  have h1 : ∃ n, Sl w .u32 v (dig L32 n) := ⟨n, h⟩
  unfold numOf
  rw [dif_pos h1]
  have h2 := sl_unique h1.choose_spec h
  have h3 := congrArg (val L32) h2
  rwa [val_dig (by decide), val_dig (by decide)] at h3

theorem gcd_step (m n : Nat) : Nat.gcd n (m % n) = Nat.gcd m n := by
  rw [Nat.gcd_comm n, ← Nat.gcd_rec, Nat.gcd_comm]

theorem gcd_lt {m n B : Nat} (hm : m < B) (hn : n < B) : Nat.gcd m n < B := by
  rcases Nat.eq_zero_or_pos m with h | h
  · rw [h, Nat.gcd_zero_left]; exact hn
  · exact Nat.lt_of_le_of_lt (Nat.gcd_le_left n h) hm
theorem bl_pos {n : Nat} (h : 0 < n) : 0 < bl n := by rw [bl_half h]; omega

end Go.Proofs.Ytinfbmnimkcdjaa
