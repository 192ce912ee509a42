/-
  Joined: RefE, ShA.
-/
import Derived.Test.YtinfbmnimkcdjaaKMul
import Derived.RegionTactic
import Derived.Test.YtinfbmnimkcdjaaKText
/- A law for 'append(out, src...)'; the contract of the reference package's Div. -/
namespace Go.Proofs.Ytinfbmnimkcdjaa
open Go.RowKit
set_option maxRecDepth 100000

/-- 'append(out, src...)' of numbers, out owned by the call, src whatever. -/
theorem wpList_append_sl {P : Program} (w : World) {ops : Array Oper} {rest : List Oper} {o : Oper} {a : Act} {Q : Exit → Act → World → Prop} (hgd : o.guard = none) (s x : Operand) (t : TypeId)
    (ho : o.op = .call { callee := .builtin .append, args := #[s, x], argTypes := #[t, t] })
    (e : TypeId) (i : TypeInfo) (k : IntKind) (ht : P.underlying t = some (.slice e)) (hi : P.info? e = some i) (hz : i.zero = some (.int k 0)) (hsize : i.size = 1) (hby : i.bytes ≤ 8)
    (base : Nat) (v : Value) (xs : List Nat) (hs : a.eval s = v) (hown : Ow w base k e v xs)
    (sv : Value) (ys : List Nat) (hx : a.eval x = sv) (hsl : Sl w k sv ys)
    (hlen : xs.length + ys.length ≤ 1000000000) (hbase : base ≤ w.heap.size)
    (hK : ∀ v' w', Ow w' base k e v' (xs ++ ys) → Below base w w' → wpList P ops Q rest (a.put o.dst v') w') : wpList P ops Q (o :: rest) a w := by
  have hb2 : (xs.length + ys.length) * i.bytes ≤ 140737488355328 := Nat.le_trans (Nat.mul_le_mul hlen hby) (by omega)
  have fin : ∀ v' w', w'.ownsRow base e 1 v' (xs.length + ys.length) (xs.map (fun (x : Nat) => Value.int k ((x : Nat) : Int)) ++ ys.map (fun (x : Nat) => Value.int k ((x : Nat) : Int))) → w.grownBy w' v.ownBlock → wpList P ops Q rest (a.put o.dst v') w' := by
    intro v' w' h1 h2
    refine hK v' w' ?_ ⟨h2.os, h2.tape, h2.output, h2.size, fun j hj => h2.block j (by omega) (fun e' => ?_)⟩
    · unfold Ow
      rw [List.map_append, List.length_append]
      exact h1
    · have := hown.base_le j e'.symm
      omega
  have hsl' := hsl
  obtain ⟨so, sc, rfl, c1, c2, c3, c4⟩ := hsl
  cases so with
  | none =>
    have h0 : ys = [] := by
      have := c3 rfl
      exact List.eq_nil_of_length_eq_zero (by omega)
    have hc0 : sc = 0 := c3 rfl
    subst h0
    subst hc0
    refine wpList_append_own_none hgd s x t ho base e i 1 ht hi v xs.length _ hs hown hx ?_
    have h1 := hK v w (by rw [List.append_nil]; exact hown) (Below.refl _ _)
    exact h1
  | some ad =>
    refine wpList_append_own w hgd s x t ho base e i (.int k 0) 1 i.bytes ht hi hz hsize rfl rfl (by decide) v xs.length _ hs hown ad ys.length sc (ys.map fun (x : Nat) => Value.int k ((x : Nat) : Int)) hx (by simp) ?_ (ints_one k ys) (by unfold maxLen; omega) hb2 hbase ?_
    · intro j u hj
      have hjl : j < ys.length := by
        have := (List.getElem?_eq_some_iff.1 hj).1
        simpa using this
      rw [hsl'.at hjl, ← hj]
      simp [hjl, nth_eq hjl]
    · intro v' w' h1 h2 _
      exact fin v' w' h1 h2

theorem rdiv_step {xs Q : List Nat} {k R n b : Nat} (hk : k < xs.length) (hkq : k < Q.length) (hv : val 2 (Q.drop (k + 1)) * n + R = val 2 (xs.drop (k + 1))) (hR : b * n ≤ xs.getD k 0 + 2 * R) :
    val 2 ((Q.set k b).drop k) * n + (xs.getD k 0 + 2 * R - b * n) = val 2 (xs.drop k) := by
  rw [val_drop_step hk, ← hv, List.drop_eq_getElem_cons (by simpa using hkq), List.drop_set_of_lt (by omega)]
  simp only [val, List.getElem_set_self]
  generalize val 2 (Q.drop (k + 1)) = q at *
  rw [Nat.add_mul, Nat.mul_add]
  have e : 2 * q * n = 2 * (q * n) := Nat.mul_assoc _ _ _
  rw [e]
  generalize q * n = m at *
  generalize b * n = l at *
  omega

theorem set_same {Q : List Nat} {i v : Nat} (h : Q.getD i 0 = v) (hi : i < Q.length) : Q.set i v = Q := by
  have e : Q.getD i 0 = Q[i] := by simp [List.getD, hi]
  rw [← h, e, List.set_getElem_self]
theorem bl_double {x R : Nat} (hx : x < 2) : bl (x + 2 * R) ≤ bl R + 1 := by
  by_cases h : 0 < x + 2 * R
  · rw [bl_half h, show (x + 2 * R) / 2 = R by omega]; omega
  · rw [show x + 2 * R = 0 by omega, bl_zero]; omega
theorem zeros_step {Q : List Nat} {k v : Nat} (h : ∀ j, j < k → Q.getD j 0 = 0) : ∀ j, j < k - 1 → (Q.set (k - 1) v).getD j 0 = 0 := by
  intro j hj
  rw [getD_set, if_neg (by omega)]; exact h j (by omega)

theorem dig_two_append (a R : Nat) : val 2 (a :: dig 2 R) = a + 2 * R := by simp only [val, val_dig (B := 2) (by decide)]

end Go.Proofs.Ytinfbmnimkcdjaa

/- Contracts of package nat: shift, Shl, Shr. -/
namespace Go.Proofs.Ytinfbmnimkcdjaa
open Go.RowKit
set_option maxRecDepth 100000

/-- By how many bits is shifted. -/
def clampN (z : Int) : Nat := (min (max z 0) 4096).toNat
theorem clampN_le (z : Int) : clampN z ≤ 4096 := by unfold clampN; omega

set_option maxHeartbeats 400000 in
theorem shift_any (z : Int) (w : World) :
    Calls Try.prog 93 #[.int .i64 z] w fun e w' => e = .returned (.tuple #[.int .i64 ((clampN z / 32 : Nat) : Int), .int .i64 ((clampN z % 32 : Nat) : Int)]) ∧ w = w' := by
  have e1 : ((clampN z / 32 : Nat) : Int) = min (max z 0) 4096 / 32 := by unfold clampN; omega
  have e2 : ((clampN z % 32 : Nat) : Int) = min (max z 0) 4096 % 32 := by unfold clampN; omega
  rw [e1, e2]
  clear e1 e2
  go_enter Try.func93, Try.ntmps93
  go_wp2
  go_ret2
  exact ⟨rfl, rfl⟩

theorem shl_lt {x r : Nat} (hx : x < 4294967296) (hr : r < 32) : x * 2 ^ r < 18446744073709551616 ∧ x * 2 ^ r / 4294967296 < 2 ^ r ∧ x * 2 ^ r % 4294967296 % 2 ^ r = 0 := by
  have hp : 0 < 2 ^ r := Nat.pow_pos (by decide)
  have h32 : 2 ^ r * 2 ^ (32 - r) = 4294967296 := by rw [← Nat.pow_add, show r + (32 - r) = 32 by omega]
  refine ⟨?_, ?_, ?_⟩
  · have h1 : 2 ^ r ≤ 2 ^ 31 := Nat.pow_le_pow_right (by decide) (by omega)
    have := Nat.mul_lt_mul_of_lt_of_le hx h1 (by decide)
    omega
  · apply Nat.div_lt_of_lt_mul
    rw [Nat.mul_comm x]
    exact Nat.mul_comm 4294967296 (2 ^ r) ▸ (Nat.mul_lt_mul_left hp).2 hx
  · rw [← h32, Nat.mod_mod_of_dvd _ (Nat.dvd_mul_right _ _)]
    exact Nat.mul_mod_left _ _

theorem shl_low {P : List Nat} {x r j : Nat} (hr : r < 32) (hT : P.getD j 0 < 2 ^ r) : P.getD j 0 + x * 2 ^ r % L32 < L32 := by
  have h32 : 2 ^ r * 2 ^ (32 - r) = 4294967296 := by rw [← Nat.pow_add, show r + (32 - r) = 32 by omega]
  have h1 : x * 2 ^ r % 4294967296 = 2 ^ r * (x % 2 ^ (32 - r)) := by rw [← h32, Nat.mul_comm x, Nat.mul_mod_mul_left]
  have h2 : x % 2 ^ (32 - r) < 2 ^ (32 - r) := Nat.mod_lt _ (Nat.pow_pos (by decide))
  have h3 : 2 ^ r * (x % 2 ^ (32 - r) + 1) ≤ 2 ^ r * 2 ^ (32 - r) := Nat.mul_le_mul_left _ h2
  rw [Nat.mul_add, Nat.mul_one] at h3
  show P.getD j 0 + x * 2 ^ r % 4294967296 < 4294967296
  omega
theorem shl_ints {P X : List Nat} {i j r : Nat} (hx : X.getD i 0 < L32) (hr : r < 32) (hT : P.getD j 0 < 2 ^ r) :
    bits BinOp.or IntKind.u32 (nth P j) (IntKind.u64.wrap (nth X i * 2 ^ r) % 4294967296) = ((P.getD j 0 + X.getD i 0 * 2 ^ r % L32 : Nat) : Int) ∧
    IntKind.u64.wrap (nth X i * 2 ^ r) / 4294967296 % 4294967296 = ((X.getD i 0 * 2 ^ r / L32 : Nat) : Int) := by
  obtain ⟨q1, q2, q3⟩ := shl_lt hx hr
  have hp : 2 ^ r ≤ 2 ^ 31 := Nat.pow_le_pow_right (by decide) (by omega)
  have e0 : nth X i * 2 ^ r = ((X.getD i 0 * 2 ^ r : Nat) : Int) := by unfold nth; simp
  have e1 : IntKind.u64.wrap (nth X i * 2 ^ r) = ((X.getD i 0 * 2 ^ r : Nat) : Int) := by rw [e0, IntWalk.u64_in _ (by omega)]
  rw [e1]
  generalize hw : X.getD i 0 * 2 ^ r = wide at *
  refine ⟨?_, ?_⟩
  · have e2 : ((wide : Nat) : Int) % 4294967296 = ((wide % 4294967296 : Nat) : Int) := by omega
    rw [e2]
    show bits BinOp.or IntKind.u32 ((P.getD j 0 : Nat) : Int) _ = _
    rw [u32_or_nat _ _ (by omega) (by omega), Nat.or_comm, nat_join r _ _ q3 hT, Nat.add_comm]
  · show _ = ((wide / 4294967296 : Nat) : Int)
    omega

theorem shl_step {P xs : List Nat} {i m r wide : Nat} (hi : i + m + 1 < P.length) (hv : val L32 P = val L32 (xs.take i) * (2 ^ r * L32 ^ m)) (hw : wide = xs.getD i 0 * 2 ^ r) (h0 : P.getD (i + m + 1) 0 = 0) :
    val L32 ((P.set (i + m) (P.getD (i + m) 0 + wide % L32)).set (i + m + 1) (wide / L32)) = val L32 (xs.take (i + 1)) * (2 ^ r * L32 ^ m) := by
  have h1 := val_add_at L32 P (i + m) (wide % L32) (by omega)
  have h2 := val_set L32 (P.set (i + m) (P.getD (i + m) 0 + wide % L32)) (i + m + 1) (wide / L32) (by rw [List.length_set]; omega)
  rw [getD_set, if_neg (by omega), h0, h1, hv, Nat.pow_succ, Nat.zero_mul, Nat.add_zero] at h2
  rw [h2, val_take_succ', Nat.add_mul]
  have h3 := Nat.mod_add_div wide L32
  generalize wide % L32 = lo at *
  generalize wide / L32 = hi' at *
  rw [Nat.pow_add]
  generalize L32 ^ i = pi at *
  generalize L32 ^ m = pm at *
  generalize 2 ^ r = pr at *
  subst hw
  have h4 : (lo + L32 * hi') * (pi * pm) = xs.getD i 0 * pr * (pi * pm) := by rw [h3]
  grind

theorem getD_zeros (n t : Nat) : (List.replicate n 0).getD t 0 = 0 := by
  by_cases h : t < n
  · simp [List.getD, h]
  · simp [List.getD, Nat.le_of_not_lt h]

set_option maxHeartbeats 2000000 in
set_option maxRecDepth 100000 in
theorem shl_any (va : Value) (xs : List Nat) (z : Int) (w : World) (hx : Sl w .u32 va xs) (dx : Dig L32 xs) (lx : xs.length ≤ 1000000) :
    Calls Try.prog 89 #[va, .int .i64 z] w fun e w' => ∃ v, e = .returned v ∧ Sl w' .u32 v (dig L32 (val L32 xs * 2 ^ clampN z)) ∧ Below w.heap.size w w' := by
  obtain ⟨i0, hi, hz0, hz1, hz2⟩ := info_parts info51
  obtain ⟨ao, ac, rfl⟩ := sl_shape hx
  have nx := nz_le xs
  have hx' := hx.take (nz xs) nx
  have dx' := dx.take (nz xs)
  have VX := val_take_nz (B := L32) (by decide) dx
  have ex : (xs.take (nz xs)).length = nz xs := by simp; omega
  have HSX := Lib.hid hx
  have SIGX := Lib.hid (fun w => sig_any ao xs.length ac xs w)
  have cz := clampN_le z
  have SH := Lib.hid (fun w => shift_any z w)
  have hpow : 2 ^ clampN z = 2 ^ (clampN z % 32) * L32 ^ (clampN z / 32) := by
    rw [show L32 = 2 ^ 32 from rfl, ← Nat.pow_mul, ← Nat.pow_add]
    congr 1; omega
  clear hx
  rw [← VX, hpow]
  have hr : clampN z % 32 < 32 := Nat.mod_lt _ (by decide)
  have hm : clampN z / 32 ≤ 128 := by omega
  clear VX dx hpow cz
  generalize clampN z % 32 = r at *
  generalize clampN z / 32 = m at *
  generalize xs.take (nz xs) = X at *
  generalize nz xs = n at *
  have SX : Hid (∀ w1, Below w.heap.size w w1 → ∀ k, k < n → ∃ a, ao = some a ∧ w1.cell? (a.add k) = some (.int .u32 (nth X k))) := by
    intro w1 hb k hk
    obtain ⟨ao', cap', e, _, _, _, q⟩ := hx'.below hb
    injection e with e1 e2 e3
    subst e1
    exact q k (by omega)
  have EX := Lib.hid ex
  clear ex
  go_enter Try.func89, Try.ntmps89
  go_wp2_with fail
  refine (SIGX.out _ HSX.out).mono ?_; rintro e w' ⟨rfl, rfl⟩
  go_wp2_with fail
  refine (SH.out _).mono ?_; rintro e w' ⟨rfl, rfl⟩
  go_wp2_with (at_make; refine wpList_make_blk _ rfl _ _ 24 rfl 97 i0 .u32 Try.underlying24 hi hz0 hz1 _ _ _ _ (n + m + 1) rfl rfl (by omega) (by omega) (by omega) (by omega) ?_; intro w1 hB1 hb1 hs1)
  go_loopw [26] (fun j wr => ∃ (i : Nat) (P : List Nat), j = .int .i64 i ∧ i ≤ n ∧ Blk wr w.heap.size .u32 97 P ∧ Below w.heap.size w wr ∧ Dig L32 P ∧ Hid (P.length = n + m + 1) ∧ Hid (∀ t, i + m < t → P.getD t 0 = 0) ∧ Hid (P.getD (i + m) 0 < 2 ^ r) ∧ Hid (val L32 P = val L32 (X.take i) * (2 ^ r * L32 ^ m))) (fun j _ => n - (intOf j).toNat)
  case atStart => exact ⟨0, _, rfl, Nat.zero_le _, hB1, hb1, Dig.replicate (by decide) _, Lib.hid (by simp), Lib.hid (fun t _ => getD_zeros _ _), Lib.hid (by rw [getD_zeros]; exact Nat.pow_pos (by decide)), Lib.hid (by rw [val_replicate_zero]; simp [val])⟩
  case round =>
    clear hB1 hb1 hs1
    obtain ⟨i, P, rfl, hin, hB, hb, hdP, HL, HZ, HT, HV⟩ := hrel
    by_cases hlt : i < n
    · obtain ⟨a, rfl, hca⟩ := SX.out wr hb i hlt
      have x1 := u32_wf dx' i
      have x0 := dx'.getD (by decide) i
      obtain ⟨q1, q2, q3⟩ := shl_lt x0 hr
      have hc0 : wr.cell? ⟨w.heap.size, i + m, none⟩ = some (.int .u32 (nth P (i + m))) := hB.cell (by rw [HL.out]; omega)
      have hc1 : wr.cell? ⟨w.heap.size, i + m + 1, none⟩ = some (.int .u32 (nth P (i + m + 1))) := hB.cell (by rw [HL.out]; omega)
      have hf0 := hB.frozen (i + m)
      have hf1 := hB.frozen (i + m + 1)
      have hE := shl_ints (P := P) (X := X) (i := i) (j := i + m) x0 hr HT.out
      have E1 := Lib.hid hE.1
      have E2 := Lib.hid hE.2
      have HS := Lib.hid (shl_step (wide := X.getD i 0 * 2 ^ r) (by rw [HL.out]; omega) HV.out rfl (HZ.out (i + m + 1) (by omega)))
      have Q1 := Lib.hid q1
      have Q2 := Lib.hid q2
      have HT1 := Lib.hid (shl_low (P := P) (x := X.getD i 0) (j := i + m) hr HT.out)
      clear hE q1 q2 q3
      go_wp2_with fail
      go_roundw
      case rel =>
        refine ⟨i + 1, _, by go_num, by omega, Blk.set (Blk.set hB (i + m) _ _ E1.out) (i + m + 1) _ _ E2.out, (hb.setCell (p := ⟨w.heap.size, i + m, none⟩) (Nat.le_refl _) _).setCell (p := ⟨w.heap.size, i + m + 1, none⟩) (Nat.le_refl _) _, (hdP.set HT1.out).set (Nat.div_lt_of_lt_mul Q1.out), Lib.hid (by rw [List.length_set, List.length_set]; exact HL.out), Lib.hid ?_, Lib.hid ?_, HS⟩
        · intro t ht
          rw [getD_set, if_neg (by omega), getD_set, if_neg (by omega)]
          exact HZ.out t (by omega)
        · rw [getD_set, List.length_set, if_pos ⟨by omega, by rw [HL.out]; omega⟩]
          exact Q2.out
      case measure => simp [intOf]; omega
    · have hii : i = n := by omega
      subst hii
      have hv : val L32 P = val L32 X * (2 ^ r * L32 ^ m) := by
        have h := HV.out
        rwa [List.take_of_length_le (by rw [EX.out]; omega)] at h
      have HV' := Lib.hid hv
      clear hv
      have hsl := hB.sl 0 (i + m + 1) (i + m + 1) (by rw [HL.out]; omega) (Nat.le_refl _) (by omega)
      rw [List.drop_zero, List.take_of_length_le (by rw [HL.out]; omega)] at hsl
      go_wp2_with fail
      refine (trimmed_v _ P _ hsl hdP).mono ?_
      rintro e w4 ⟨v4, rfl, ht4, rfl⟩
      go_wp2_with fail
      go_ret
      refine ⟨_, rfl, ?_, hb⟩
      rw [HV'.out] at ht4
      exact ht4

theorem shr_step {P Y : List Nat} {i r S : Nat} (hr : r < 32) (hi : i < Y.length) (hd : Dig L32 Y) (hip : i < P.length) (hv : val L32 (P.take i) + (val L32 (Y.drop i) / 2 ^ r) * L32 ^ i = S) :
    val L32 ((P.set i ((Y.getD i 0 + L32 * Y.getD (i + 1) 0) / 2 ^ r % L32)).take (i + 1)) + (val L32 (Y.drop (i + 1)) / 2 ^ r) * L32 ^ (i + 1) = S := by
  have hp : 0 < 2 ^ r := Nat.pow_pos (by decide)
  have h32 : 2 ^ r * 2 ^ (32 - r) = L32 := by rw [← Nat.pow_add, show r + (32 - r) = 32 by omega]
  have e1 : val L32 (Y.drop i) = Y.getD i 0 + L32 * val L32 (Y.drop (i + 1)) := val_drop_step hi
  have e2 : val L32 (Y.drop (i + 1)) = Y.getD (i + 1) 0 + L32 * val L32 (Y.drop (i + 2)) := by
    by_cases h : i + 1 < Y.length
    · exact val_drop_step h
    · rw [List.drop_eq_nil_of_le (by omega), List.drop_eq_nil_of_le (by omega), getD_out (by omega)]; simp [val]
  have hq : val L32 (Y.drop i) / 2 ^ r % L32 = (Y.getD i 0 + L32 * Y.getD (i + 1) 0) / 2 ^ r % L32 := by
    rw [e1, e2, Nat.mul_add, ← Nat.add_assoc]
    have : L32 * (L32 * val L32 (Y.drop (i + 2))) = 2 ^ r * (2 ^ (32 - r) * (L32 * val L32 (Y.drop (i + 2)))) := by
      rw [← Nat.mul_assoc (2 ^ r), h32]
    rw [this, Nat.add_mul_div_left _ _ hp]
    have h3 : 2 ^ (32 - r) * (L32 * val L32 (Y.drop (i + 2))) = L32 * (2 ^ (32 - r) * val L32 (Y.drop (i + 2))) := by
      rw [← Nat.mul_assoc, Nat.mul_comm (2 ^ (32 - r)), Nat.mul_assoc]
    rw [h3, Nat.add_mul_mod_self_left]
  have hq2 : val L32 (Y.drop i) / 2 ^ r / L32 = val L32 (Y.drop (i + 1)) / 2 ^ r := by
    rw [Nat.div_div_eq_div_mul, Nat.mul_comm, ← Nat.div_div_eq_div_mul, e1, Nat.add_mul_div_left _ _ (by decide), Nat.div_eq_of_lt (hd.getD (by decide) i), Nat.zero_add]
  have h4 := Nat.mod_add_div (val L32 (Y.drop i) / 2 ^ r) L32
  rw [hq, hq2] at h4
  rw [val_take_succ', getD_set, if_pos ⟨rfl, hip⟩, List.take_set_of_le (Nat.le_refl i), ← hv, ← h4, Nat.pow_succ]
  generalize (Y.getD i 0 + L32 * Y.getD (i + 1) 0) / 2 ^ r % L32 = p
  generalize val L32 (Y.drop (i + 1)) / 2 ^ r = u
  generalize L32 ^ i = t
  rw [Nat.add_mul, Nat.add_assoc]
  congr 2
  grind

theorem shr_whole {X : List Nat} {m r : Nat} (dx : Dig L32 X) (hm : m ≤ X.length) : val L32 (X.drop m) / 2 ^ r = val L32 X / (2 ^ r * L32 ^ m) := by
  have h1 := val_lt (dx.take m)
  rw [List.length_take, Nat.min_eq_left hm] at h1
  rw [val_split L32 X m hm, Nat.mul_comm (2 ^ r), ← Nat.div_div_eq_div_mul, Nat.add_mul_div_left _ _ (Nat.pow_pos (by decide)), Nat.div_eq_of_lt h1, Nat.zero_add]

theorem shr_ints {y y1 r : Nat} (hy : y < L32) (hy1 : y1 < L32) :
    bits BinOp.or IntKind.u64 (y : Int) ((y1 : Int) * 4294967296) / 2 ^ r % 4294967296 = (((y + L32 * y1) / 2 ^ r % L32 : Nat) : Int) := by
  have e : (y1 : Int) * 4294967296 = ((y1 * 4294967296 : Nat) : Int) := by simp
  have hy' : y < 4294967296 := hy
  have hy1' : y1 < 4294967296 := hy1
  rw [e, u64_or_nat _ _ (by omega) (by omega), Nat.or_comm, nat_join 32 _ _ (by omega) hy']
  have e2 : y1 * 4294967296 + y = y + L32 * y1 := by show y1 * 4294967296 + y = y + 4294967296 * y1; omega
  rw [e2]; simp
theorem shr_ints0 {y r : Nat} : (y : Int) / 2 ^ r % 4294967296 = (((y + L32 * 0) / 2 ^ r % L32 : Nat) : Int) := by simp

set_option maxHeartbeats 2000000 in
set_option maxRecDepth 100000 in
theorem shr_any (va : Value) (xs : List Nat) (z : Int) (w : World) (hx : Sl w .u32 va xs) (dx : Dig L32 xs) (lx : xs.length ≤ 1000000) :
    Calls Try.prog 91 #[va, .int .i64 z] w fun e w' => ∃ v, e = .returned v ∧ Sl w' .u32 v (dig L32 (val L32 xs / 2 ^ clampN z)) ∧ Below w.heap.size w w' := by
  obtain ⟨i0, hi, hz0, hz1, hz2⟩ := info_parts info51
  obtain ⟨ao, ac, rfl⟩ := sl_shape hx
  have nx := nz_le xs
  have hx' := hx.take (nz xs) nx
  have dx' := dx.take (nz xs)
  have VX := val_take_nz (B := L32) (by decide) dx
  have ex : (xs.take (nz xs)).length = nz xs := by simp; omega
  have HSX := Lib.hid hx
  have SIGX := Lib.hid (fun w => sig_any ao xs.length ac xs w)
  have cz := clampN_le z
  have SH := Lib.hid (fun w => shift_any z w)
  have hpow : 2 ^ clampN z = 2 ^ (clampN z % 32) * L32 ^ (clampN z / 32) := by
    rw [show L32 = 2 ^ 32 from rfl, ← Nat.pow_mul, ← Nat.pow_add]
    congr 1; omega
  have hac : xs.length ≤ ac := by obtain ⟨_, _, e, h, _⟩ := hx; injection e with _ _ e3; omega
  clear hx
  rw [← VX, hpow]
  have hr : clampN z % 32 < 32 := Nat.mod_lt _ (by decide)
  have hm : clampN z / 32 ≤ 128 := by omega
  clear VX dx hpow cz
  generalize clampN z % 32 = r at *
  generalize clampN z / 32 = m at *
  generalize xs.take (nz xs) = X at *
  generalize nz xs = n at *
  have SX : Hid (∀ w1, Below w.heap.size w w1 → ∀ k, k < n → ∃ a, ao = some a ∧ w1.cell? (a.add k) = some (.int .u32 (nth X k))) := by
    intro w1 hb k hk
    obtain ⟨ao', cap', e, _, _, _, q⟩ := hx'.below hb
    injection e with e1 e2 e3
    subst e1
    exact q k (by omega)
  have EX := Lib.hid ex
  clear ex
  by_cases hmn : n ≤ m
  · have hv0 : val L32 X / (2 ^ r * L32 ^ m) = 0 := by
      apply Nat.div_eq_of_lt
      have h1 := val_lt dx'
      rw [EX.out] at h1
      have h2 : L32 ^ n ≤ L32 ^ m := Nat.pow_le_pow_right (by decide) hmn
      have h3 : 1 * L32 ^ m ≤ 2 ^ r * L32 ^ m := Nat.mul_le_mul_right _ (Nat.pow_pos (by decide))
      omega
    have HV0 := Lib.hid hv0
    clear hv0
    go_enter Try.func91, Try.ntmps91
    go_wp2_with fail
    refine (SIGX.out _ HSX.out).mono ?_; rintro e w' ⟨rfl, rfl⟩
    go_wp2_with fail
    refine (SH.out _).mono ?_; rintro e w' ⟨rfl, rfl⟩
    go_wp2_with fail
    go_ret
    refine ⟨_, rfl, ?_, Below.refl _ _⟩
    rw [HV0.out, dig_zero]; exact Sl.nil _ _
  · obtain ⟨a, rfl, _⟩ := SX.out w (Below.refl _ _) 0 (by omega)
    have hWH := Lib.hid (shr_whole (X := X) (m := m) (r := r) dx' (by rw [EX.out]; omega))
    have dY := dx'.drop m
    have lY : (X.drop m).length = n - m := by rw [List.length_drop, EX.out]
    have LY := Lib.hid lY
    clear lY
    have hcm : ¬ ac = m := by omega
    have SY : Hid (∀ w1, Below w.heap.size w w1 → ∀ k, k < n - m → w1.cell? ((a.add m).add k) = some (.int .u32 (nth (X.drop m) k))) := by
      intro w1 hb k hk
      obtain ⟨a', e, hc⟩ := SX.out w1 hb (m + k) (by omega)
      injection e with e; subst e
      rw [addr_add_add, hc]
      unfold nth; simp [List.getD]
    go_enter Try.func91, Try.ntmps91
    go_wp2_with fail
    refine (SIGX.out _ HSX.out).mono ?_; rintro e w' ⟨rfl, rfl⟩
    go_wp2_with fail
    refine (SH.out _).mono ?_; rintro e w' ⟨rfl, rfl⟩
    go_wp2_with (at_make; refine wpList_make_blk _ rfl _ _ 24 rfl 97 i0 .u32 Try.underlying24 hi hz0 hz1 _ _ _ _ (n - m) rfl rfl (by omega) (by omega) (by omega) (by omega) ?_; intro w1 hB1 hb1 hs1)
    generalize a.add m = b at *
    generalize X.drop m = Y at *
    generalize hN : n - m = N at *
    have hN1 : 0 < N ∧ N ≤ 1000000 := by omega
    clear hN
    go_loopw [29] (fun j wr => ∃ (i : Nat) (P : List Nat), j = .int .i64 i ∧ i ≤ N ∧ Blk wr w.heap.size .u32 97 P ∧ Below w.heap.size w wr ∧ Dig L32 P ∧ Hid (P.length = N) ∧ Hid (val L32 (P.take i) + (val L32 (Y.drop i) / 2 ^ r) * L32 ^ i = val L32 Y / 2 ^ r)) (fun j _ => N - (intOf j).toNat)
    case atStart => exact ⟨0, _, rfl, Nat.zero_le _, hB1, hb1, Dig.replicate (by decide) _, Lib.hid (by simp), Lib.hid (by simp [val])⟩
    case round =>
      clear hB1 hb1 hs1
      obtain ⟨i, P, rfl, hin, hB, hb, hdP, HL, HV⟩ := hrel
      by_cases hlt : i < N
      · have hc0 := SY.out wr hb i hlt
        have x1 := u32_wf dY i
        have y0 := dY.getD (by decide) i
        have y1 := dY.getD (by decide) (i + 1)
        have hcp : wr.cell? ⟨w.heap.size, i, none⟩ = some (.int .u32 (nth P i)) := hB.cell (by rw [HL.out]; omega)
        have hf := hB.frozen i
        have HS := Lib.hid (shr_step (P := P) (Y := Y) (i := i) hr (by rw [LY.out]; exact hlt) dY (by rw [HL.out]; exact hlt) HV.out)
        have HD1 := Lib.hid (hdP.set (i := i) (v := (Y.getD i 0 + L32 * Y.getD (i + 1) 0) / 2 ^ r % L32) (Nat.mod_lt _ (by decide)))
        have HL1 := Lib.hid (show (P.set i ((Y.getD i 0 + L32 * Y.getD (i + 1) 0) / 2 ^ r % L32)).length = N by rw [List.length_set]; exact HL.out)
        by_cases hlt2 : i + 1 < N
        · have hc1 : wr.cell? ⟨b.block, b.off + (i + 1), none⟩ = some (.int .u32 (nth Y (i + 1))) := by
            have := SY.out wr hb (i + 1) hlt2
            simpa [Addr.add] using this
          have x2 := u32_wf dY (i + 1)
          have E1 := Lib.hid (shr_ints (r := r) y0 y1)
          clear y0 y1
          go_wp2_with fail
          go_roundw
          case rel => exact ⟨i + 1, _, by go_num, by omega, Blk.set hB i _ _ E1.out, hb.setCell (p := ⟨w.heap.size, i, none⟩) (Nat.le_refl _) _, HD1.out, HL1, HS⟩
          case measure => simp [intOf]; omega
        · have y1' : Y.getD (i + 1) 0 = 0 := getD_out (by rw [LY.out]; omega)
          have E1 : Hid (nth Y i / 2 ^ r % 4294967296 = (((Y.getD i 0 + L32 * Y.getD (i + 1) 0) / 2 ^ r % L32 : Nat) : Int)) := Lib.hid (by rw [y1']; exact shr_ints0)
          clear y0 y1 y1'
          go_wp2_with fail
          go_roundw
          case rel => exact ⟨i + 1, _, by go_num, by omega, Blk.set hB i _ _ E1.out, hb.setCell (p := ⟨w.heap.size, i, none⟩) (Nat.le_refl _) _, HD1.out, HL1, HS⟩
          case measure => simp [intOf]; omega
      · have hii : i = N := by omega
        subst hii
        have hv : val L32 P = val L32 Y / 2 ^ r := by
          have h := HV.out
          rw [List.take_of_length_le (by rw [HL.out]; omega), List.drop_eq_nil_of_le (by rw [LY.out]; omega)] at h
          simpa [val] using h
        have HV' := Lib.hid hv
        clear hv
        have hsl := hB.sl 0 i i (by rw [HL.out]; omega) (Nat.le_refl _) (by omega)
        rw [List.drop_zero, List.take_of_length_le (by rw [HL.out]; omega)] at hsl
        go_wp2_with fail
        refine (trimmed_v _ P _ hsl hdP).mono ?_
        rintro e w4 ⟨v4, rfl, ht4, rfl⟩
        go_wp2_with fail
        go_ret
        refine ⟨_, rfl, ?_, hb⟩
        rw [HV'.out, hWH.out] at ht4
        exact ht4
end Go.Proofs.Ytinfbmnimkcdjaa
