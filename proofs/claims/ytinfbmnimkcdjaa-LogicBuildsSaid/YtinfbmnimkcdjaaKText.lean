/-
  Joined: DivA, TextA, TextB, Small.
-/
import Derived.Test.YtinfbmnimkcdjaaKRef
import Derived.Test.YtinfbmnimkcdjaaShelf
import Derived.Lib.Builder
import Derived.Lib.ItoaNum
import Derived.Lib.AppendStr
/- Contracts of package nat: divLimb; Div by 0, of less, by one limb. -/
namespace Go.Proofs.Ytinfbmnimkcdjaa
open Go.RowKit
set_option maxRecDepth 100000

/-- Two limbs, r the higher one. -/
def joinN (r x : Nat) : Nat := r * 4294967296 + x
def joinI (r x : Nat) : Int := ((joinN r x : Nat) : Int)
theorem or_join {r x : Nat} (hr : r < 4294967296) (hx : x < 4294967296) : bits BinOp.or IntKind.u64 ((r : Int) * 4294967296) (x : Int) = joinI r x := by
  have h1 : (r : Int) * 4294967296 = ((r * 4294967296 : Nat) : Int) := by simp
  rw [h1, u64_or_nat _ _ (by omega) (by omega), nat_join 32 _ _ (by omega) (by omega)]; rfl
theorem joinI_bound {r x : Nat} (hr : r < 4294967296) (hx : x < 4294967296) : 0 ≤ joinI r x ∧ joinI r x < 18446744073709551616 := by unfold joinI joinN; omega
theorem join_div {r x d : Nat} (hr : r < d) (hx : x < 4294967296) : joinN r x / d < 4294967296 := by
  apply Nat.div_lt_of_lt_mul
  unfold joinN
  have : (r + 1) * 4294967296 ≤ d * 4294967296 := Nat.mul_le_mul_right _ hr
  omega

theorem divLimb_step {t s : List Nat} {k r d : Nat} (hk : k < t.length) (hl : t.length = s.length) (ht : t.take (k + 1) = s.take (k + 1)) (hv : val L32 (t.drop (k + 1)) * d + r = val L32 (s.drop (k + 1))) :
    (t.set k (joinN r (t.getD k 0) / d)).take k = s.take k ∧ val L32 ((t.set k (joinN r (t.getD k 0) / d)).drop k) * d + joinN r (t.getD k 0) % d = val L32 (s.drop k) := by
  have hks : k < s.length := by omega
  have e1 : t.getD k 0 = s.getD k 0 := by
    have := congrArg (fun l => l.getD k 0) ht
    simpa [List.getD] using this
  refine ⟨?_, ?_⟩
  · rw [List.take_set_of_le (Nat.le_refl k)]
    have := congrArg (List.take k) ht
    rw [List.take_take, List.take_take, Nat.min_eq_left (by omega)] at this
    exact this
  · rw [List.drop_eq_getElem_cons (by simpa using hk), List.drop_set_of_lt (by omega), List.drop_eq_getElem_cons hks]
    simp only [val, List.getElem_set_self]
    rw [← hv]
    have e2 : s[k] = s.getD k 0 := by simp [List.getD, hks]
    rw [e2, ← e1]
    have h := Nat.div_add_mod (joinN r (t.getD k 0)) d
    have hj : joinN r (t.getD k 0) = r * L32 + t.getD k 0 := rfl
    generalize joinN r (t.getD k 0) / d = q at *
    generalize joinN r (t.getD k 0) % d = m at *
    rw [hj] at h
    grind

set_option maxHeartbeats 1000000 in
theorem divLimb_any (g : Nat) (pre s post : List Nat) (vs : Value) (d : Nat) (z : Int) (w : World) (hw : Ws w .u32 97 vs g pre s post) (hs : Dig L32 s) (hz : z = (d : Int)) (hd0 : 0 < d) (hd1 : d < 4294967296) :
    Calls Try.prog 82 #[vs, .int .u32 z] w fun e w' => ∃ s', e = .returned (.int .u32 ((val L32 s % d : Nat) : Int)) ∧ Ws w' .u32 97 vs g pre s' post ∧ w.grownBy w' (some g) ∧ s'.length = s.length ∧ Dig L32 s' ∧
      val L32 s' = val L32 s / d := by
  subst hz
  obtain ⟨ao, cap, rfl, h1, h2, h3, h4⟩ := hw
  go_enter Try.func82, Try.ntmps82
  go_wp2
  go_loopw [5, 6] (fun c i wr => ∃ (k : Nat) (t : List Nat) (r : Nat), i = .int .i64 ((k : Int) - 1) ∧ c = .int .u64 (r : Int) ∧ r < d ∧ k ≤ s.length ∧ w.grownBy wr (some g) ∧ Hid (t.length = s.length) ∧ Dig 4294967296 t ∧
     WsAt wr .u32 97 ao g pre t post s.length ∧ Hid (t.take k = s.take k) ∧ Hid (val L32 (t.drop k) * d + r = val L32 (s.drop k)))
    (fun _ i _ => (intOf i + 1).toNat)
  case atStart => exact ⟨s.length, s, 0, rfl, rfl, hd0, by omega, World.grownBy.refl _ _, Lib.hid rfl, hs, h4, Lib.hid rfl, Lib.hid (by simp [val])⟩
  case round =>
    obtain ⟨k, t, r, rfl, rfl, hr, hk, hg, Ht, hdt, hB, HT, HV⟩ := hrel
    by_cases h0 : 0 < k
    · obtain ⟨rfl, hB'⟩ := hB (by omega)
      have hkt : k - 1 < t.length := by have := Ht.out; omega
      have hct : wr.cell? ⟨g, pre.length + (k - 1), none⟩ = some (.int .u32 (nth t (k - 1))) := by
        rw [hB'.cell (by simp; omega), nth_mid _ _ _ _ hkt]
      have hft := hB'.frozen (pre.length + (k - 1))
      have t1 := hdt.getD (by omega) (k - 1)
      obtain ⟨x, hx⟩ : ∃ x, x = t.getD (k - 1) 0 := ⟨_, rfl⟩
      have hnx : nth t (k - 1) = (x : Int) := by rw [hx]; rfl
      rw [← hx] at t1
      have hor := or_join (r := r) (x := x) (by omega) t1
      have hjb := joinI_bound (r := r) (x := x) (by omega) t1
      have hq0 := join_div hr t1
      have hq : 0 ≤ joinI r x / (d : Int) ∧ joinI r x / (d : Int) < 4294967296 := by
        have : joinI r x / (d : Int) = ((joinN r x / d : Nat) : Int) := by unfold joinI; simp
        rw [this]; exact ⟨Int.natCast_nonneg _, Int.ofNat_lt.2 hq0⟩
      have HS := Lib.hid (divLimb_step (t := t) (s := s) (k := k - 1) (r := r) (d := d) hkt Ht.out (by rw [show k - 1 + 1 = k by omega]; exact HT.out) (by rw [show k - 1 + 1 = k by omega]; exact HV.out))
      rw [← hx] at HS
      have HQ := Lib.hid hq0
      have hm0 : joinI r x % (d : Int) = ((joinN r x % d : Nat) : Int) := by unfold joinI; simp
      have hd0' : joinI r x / (d : Int) = ((joinN r x / d : Nat) : Int) := by unfold joinI; simp
      have HM := Lib.hid hm0
      have HD := Lib.hid hd0'
      rw [hnx] at hct
      clear hB h4 hq0 hm0 hd0' hx hnx
      go_wp2
      go_roundw
      case rel =>
        refine ⟨k - 1, t.set (k - 1) (joinN r x / d), joinN r x % d, by go_num, by rw [← HM.out], Nat.mod_lt _ hd0, by omega, grown_setCell hg _, Lib.hid (by rw [List.length_set]; exact Ht.out), hdt.set HQ.out, fun _ => ⟨rfl, ?_⟩, Lib.hid HS.out.1, Lib.hid HS.out.2⟩
        rw [← set_mid _ _ _ _ _ hkt]
        exact hB'.set _ _ _ HD.out
      case measure => simp [intOf]; omega
    · have hk0 : k = 0 := by omega
      subst hk0
      have hv := HV.out
      simp only [List.drop_zero] at hv
      have e1 : val L32 s % d = r := by rw [← hv, Nat.mul_add_mod_self_right, Nat.mod_eq_of_lt hr]
      have e2 : val L32 t = val L32 s / d := by rw [← hv, Nat.add_comm, Nat.add_mul_div_right _ _ hd0, Nat.div_eq_of_lt hr, Nat.zero_add]
      have E1 := Lib.hid e1
      have E2 := Lib.hid e2
      have hfin : Ws wr .u32 97 (.slice ao s.length cap) g pre t post := ⟨ao, cap, by rw [Ht.out], by rw [Ht.out]; exact h1, h2, h3, by rw [Ht.out]; exact hB⟩
      clear e1 e2 hv h4
      go_wp2
      go_ret
      exact ⟨t, by rw [E1.out]; rfl, hfin, hg, Ht.out, hdt, E2.out⟩

theorem nz_eq_zero {xs : List Nat} (hd : Dig L32 xs) (h : val L32 xs = 0) : nz xs = 0 := by
  have := length_dig_val (B := L32) (by decide) hd
  rw [h, dig_zero] at this; exact this.symm
theorem nz_pos_of {xs : List Nat} (hd : Dig L32 xs) (h : 0 < val L32 xs) : 0 < nz xs := by
  rw [← length_dig_val (B := L32) (by decide) hd, dig_pos (by decide) h]; simp

set_option maxHeartbeats 1000000 in
theorem div_zero (va vb : Value) (xs ys : List Nat) (w : World) (hx : Sl w .u32 va xs) (hy : Sl w .u32 vb ys) (dy : Dig L32 ys) (h0 : val L32 ys = 0) :
    Calls Try.prog 66 #[va, vb] w fun e w' => e = .returned (.tuple #[.slice none 0 0, .slice none 0 0, .bool false]) ∧ Below w.heap.size w w' := by
  obtain ⟨ao, ac, rfl⟩ := sl_shape hx
  obtain ⟨bo, bc, rfl⟩ := sl_shape hy
  have H0 := Lib.hid (nz_eq_zero dy h0)
  have hz : (((nz ys : Nat) : Int) == 0) = true := by rw [H0.out]; rfl
  clear h0
  go_enter Try.func66, Try.ntmps66
  go_wp2_with fail
  refine (sig_any _ _ _ xs _ hx).mono ?_; rintro e w' ⟨rfl, rfl⟩
  go_wp2_with fail
  refine (sig_any _ _ _ ys _ hy).mono ?_; rintro e w' ⟨rfl, rfl⟩
  go_wp2_with fail
  go_ret3
  exact ⟨rfl, Below.refl _ _⟩

set_option maxHeartbeats 1000000 in
theorem div_lt (va vb : Value) (xs ys : List Nat) (w : World) (hx : Sl w .u32 va xs) (hy : Sl w .u32 vb ys) (dx : Dig L32 xs) (dy : Dig L32 ys) (lx : xs.length ≤ 1000000) (h0 : val L32 xs < val L32 ys) :
    Calls Try.prog 66 #[va, vb] w fun e w' => ∃ r, e = .returned (.tuple #[.slice none 0 0, r, .bool true]) ∧ Sl w' .u32 r (dig L32 (val L32 xs)) ∧ Below w.heap.size w w' := by
  obtain ⟨ao, ac, rfl⟩ := sl_shape hx
  obtain ⟨bo, bc, rfl⟩ := sl_shape hy
  have hx' := hx.take (nz xs) (nz_le xs)
  have hy' := hy.take (nz ys) (nz_le ys)
  have VX := Lib.hid (val_take_nz (B := L32) (by decide) dx)
  have VY := Lib.hid (val_take_nz (B := L32) (by decide) dy)
  have hp := nz_pos_of dy (by omega)
  have hz : (((nz ys : Nat) : Int) == 0) = false := by simp; omega
  have HC := Lib.hid (show cmpN (val L32 (xs.take (nz xs))) (val L32 (ys.take (nz ys))) = -1 by rw [VX.out, VY.out]; exact cmpN_lt h0)
  have hlen : (xs.take (nz xs)).length ≤ 1000000 := by rw [List.length_take]; omega
  go_enter Try.func66, Try.ntmps66
  go_wp2_with fail
  refine (sig_any _ _ _ xs _ hx).mono ?_; rintro e w' ⟨rfl, rfl⟩
  go_wp2_with fail
  refine (sig_any _ _ _ ys _ hy).mono ?_; rintro e w' ⟨rfl, rfl⟩
  go_wp2_with fail
  refine (cmp_any _ _ _ _ _ hx' hy' (dx.take _) (dy.take _)).mono ?_; rintro e w1 ⟨rfl, hb1⟩
  rw [HC.out]
  go_wp2_with fail
  refine (trim_any _ _ w1 (hx'.below hb1) (dx.take _) hlen).mono ?_
  rintro e w2 ⟨v2, rfl, hs2, hb2⟩
  go_wp2_with fail
  go_ret3
  refine ⟨_, rfl, ?_, hb1.trans (hb2.mono hb1.size)⟩
  have := hs2.sl
  rw [VX.out] at this
  exact this

set_option maxHeartbeats 1000000 in
theorem div_one (va vb : Value) (xs ys : List Nat) (w : World) (hx : Sl w .u32 va xs) (hy : Sl w .u32 vb ys) (dx : Dig L32 xs) (dy : Dig L32 ys) (lx : xs.length ≤ 1000000) (h0 : val L32 ys ≤ val L32 xs) (h1 : nz ys = 1) :
    Calls Try.prog 66 #[va, vb] w fun e w' => ∃ q r, e = .returned (.tuple #[q, r, .bool true]) ∧ Sl w' .u32 q (dig L32 (val L32 xs / val L32 ys)) ∧ Sl w' .u32 r (dig L32 (val L32 xs % val L32 ys)) ∧ Below w.heap.size w w' := by
  obtain ⟨ao, ac, rfl⟩ := sl_shape hx
  have HY := Lib.hid hy
  obtain ⟨bo, bc, rfl, b1, b2, b3, b4⟩ := hy
  have hly := nz_le ys
  have nx := nz_le xs
  have hx' := hx.take (nz xs) (nz_le xs)
  have hy' := HY.out.take (nz ys) (nz_le ys)
  have VX := Lib.hid (val_take_nz (B := L32) (by decide) dx)
  have VY := Lib.hid (val_take_nz (B := L32) (by decide) dy)
  have EX := Lib.hid (show (xs.take (nz xs)).length = nz xs by simp; omega)
  have hz : (((nz ys : Nat) : Int) == 0) = false := by rw [h1]; rfl
  have hz1 : (((nz ys : Nat) : Int) == 1) = true := by rw [h1]; rfl
  have hc : 0 ≤ cmpN (val L32 (xs.take (nz xs))) (val L32 (ys.take (nz ys))) := by
    rw [VX.out, VY.out]; unfold cmpN; rw [if_neg (by omega)]; split <;> omega
  have hvy : val L32 ys = ys.getD 0 0 := by
    rw [← val_take_nz (B := L32) (by decide) dy, h1, val_take_succ' L32 ys 0]; simp [val]
  have hy0 := dy.getD (by decide) 0
  have hpos : 0 < val L32 ys := by
    rcases Nat.eq_zero_or_pos (val L32 ys) with h | h
    · have := nz_eq_zero dy h; omega
    · exact h
  obtain ⟨b, rfl, hcb⟩ := b4 0 (by omega)
  rw [show b.add 0 = b from by simp [Addr.add]] at hcb
  have HVY := Lib.hid hvy
  have hn1 : (0 : Int) < ((nz ys : Nat) : Int) := by omega
  have D0 : 0 < ys.getD 0 0 := by omega
  have hcb0 : ∀ {w1 : World}, Below w.heap.size w w1 → w1.cell? b = some (.int .u32 (nth ys 0)) := fun hb => by rw [hb.cell (cell_lt hcb)]; exact hcb
  clear h1 hvy b4 hcb
  go_enter Try.func66, Try.ntmps66
  go_wp2_with fail
  refine (sig_any _ _ _ xs _ hx).mono ?_; rintro e w' ⟨rfl, rfl⟩
  go_wp2_with fail
  refine (sig_any _ _ _ ys _ HY.out).mono ?_; rintro e w' ⟨rfl, rfl⟩
  go_wp2_with fail
  refine (cmp_any _ _ _ _ _ hx' hy' (dx.take _) (dy.take _)).mono ?_; rintro e w1 ⟨rfl, hb1⟩
  go_wp2_with fail
  refine (padded_any ao _ ac _ (nz xs) _ w1 (hx'.below hb1) (by rw [EX.out]; omega) (by omega) (by omega)).mono ?_
  rintro e w2 ⟨v2, rfl, hs2, hb2, hz2⟩
  have hb2' : Below w.heap.size w w2 := hb1.trans (hb2.mono hb1.size)
  have hcell := hcb0 hb2'
  rw [EX.out, Nat.sub_self, List.replicate_zero, List.append_nil] at hs2
  go_wp2_with fail
  refine (divLimb_any w1.heap.size [] _ [] _ (ys.getD 0 0) _ w2 hs2 (dx.take _) rfl D0 hy0).mono ?_
  rintro e w3 ⟨s', rfl, hs3, hg3, hl3, hd3, hv3⟩
  rw [VX.out, ← HVY.out] at hv3
  obtain ⟨m, hm⟩ : ∃ m, m = val L32 xs % val L32 ys := ⟨_, rfl⟩
  rw [show val L32 (xs.take (nz xs)) % ys.getD 0 0 = m by rw [VX.out, ← HVY.out, hm]]
  have hmb : m < 4294967296 := by rw [hm]; exact Nat.lt_trans (Nat.mod_lt _ hpos) (by rw [HVY.out]; exact hy0)
  have HM := Lib.hid hm
  clear hm
  have hb3 : Below w.heap.size w w3 := hb2'.trans (below_of_grown' hg3 hb1.size hb2'.size)
  have HV3 := Lib.hid hv3
  clear hv3 hl3
  go_wp2_with fail
  refine (trimmed_v _ s' _ hs3.sl hd3).mono ?_
  rintro e w4 ⟨v4, rfl, ht4, rfl⟩
  go_wp2_with fail
  refine (of_any m _ w3 rfl (by omega)).mono ?_
  rintro e w5 ⟨v5, rfl, hs5, hb5⟩
  have hb5' : Below w.heap.size w w5 := hb3.trans (hb5.mono hb3.size)
  go_wp2_with fail
  go_ret3
  refine ⟨_, _, rfl, ?_, ?_, hb5'⟩
  · rw [HV3.out] at ht4
    exact ht4.below hb5
  · rw [← HM.out]; exact hs5
end Go.Proofs.Ytinfbmnimkcdjaa

/- Contracts: a Builder's copyCheck and WriteString; FormatUint of a small number; decimalGroups. -/
namespace Go.Proofs.Ytinfbmnimkcdjaa
open Go.RowKit
set_option maxRecDepth 100000

theorem infoByte : (Try.prog.info? 5).map (fun i => (i.zero, i.size, i.bytes)) = some (some (.int .u8 0), 1, 1) := by kernel_rfl
theorem strCells_bytes (l m : List UInt8) : Lib.byteCells l ++ Lib.strCells ⟨m.toArray⟩ = Lib.byteCells (l ++ m) := by
  simp [Lib.byteCells, Lib.strCells]

/-- A billion, behind a name. -/
abbrev G9 : Nat := 1000000000

theorem dig_dig_step {B n : Nat} (hB : 2 ≤ B) (h : 0 < n) : dig B n = n % B :: dig B (n / B) := dig_pos hB h

theorem Ow.len {w : World} {base : Nat} {k : IntKind} {T : TypeId} {v : Value} {xs : List Nat} (h : Ow w base k T v xs) : lenOfV v = xs.length := by
  obtain ⟨ao, cap, rfl⟩ := sl_shape h.sl; rfl
theorem Ow.grown {w w' : World} {base : Nat} {k : IntKind} {T : TypeId} {v : Value} {xs : List Nat} (h : Ow w base k T v xs) {g : Nat} (hg : w.grownBy w' (some g)) (hb : g < base) : Ow w' base k T v xs :=
  World.ownsRow.kept h hg (by
    cases hv : v.ownBlock with
    | none => exact .inl rfl
    | some j => exact .inr (fun e => by injection e with e; have := h.base_le j hv; omega))

/-- What 'trimmed' leaves of a writable part: a shorter one. -/
theorem ws_trimmed {w : World} {T : TypeId} {ao : Option Addr} {n cap g : Nat} {pre s post : List Nat} (h : Ws w .u32 T (.slice ao n cap) g pre s post) (hd : Dig L32 s) :
    ∃ post', Ws w .u32 T (trimmedOf ao cap s) g pre (dig L32 (val L32 s)) post' := by
  have e := take_nz (B := L32) (by decide) hd
  obtain ⟨ao', cap', e1, h1, h2, h3, h4⟩ := h
  injection e1 with e1 e2 e3
  subst e1; subst e3
  have hl := nz_le s
  have hlen : (s.take (nz s)).length = nz s := by rw [List.length_take]; omega
  refine ⟨s.drop (nz s) ++ post, ?_⟩
  rw [← e]
  unfold trimmedOf
  by_cases h0 : nz s = 0
  · rw [if_pos h0, h0]
    exact ⟨none, 0, rfl, by simp, by omega, fun _ => rfl, fun h => by simp at h⟩
  · rw [if_neg h0]
    refine ⟨ao, cap, by rw [hlen], by rw [hlen]; omega, h2, h3, fun _ => ?_⟩
    obtain ⟨a1, a2⟩ := h4 (by omega)
    refine ⟨a1, ?_⟩
    have : pre ++ s.take (nz s) ++ (s.drop (nz s) ++ post) = pre ++ s ++ post := by
      rw [← List.append_assoc, List.append_assoc pre, List.take_append_drop]
    rw [this]; exact a2
theorem trimmed_ws (v : Value) (g : Nat) (pre s post : List Nat) (w : World) (h : Ws w .u32 97 v g pre s post) (hd : Dig L32 s) :
    Calls Try.prog 71 #[v] w fun e w' => ∃ v' post', e = .returned v' ∧ Ws w .u32 97 v' g pre (dig L32 (val L32 s)) post' ∧ w = w' := by
  obtain ⟨ao, cap, rfl⟩ := h.at
  refine (trimmed_any _ _ _ s _ h.sl).mono fun e w' ⟨he, hw⟩ => ?_
  obtain ⟨post', h'⟩ := ws_trimmed h hd
  exact ⟨_, post', he, h', hw⟩
theorem Ws.len {w : World} {k : IntKind} {T : TypeId} {v : Value} {g : Nat} {pre s post : List Nat} (h : Ws w k T v g pre s post) : lenOfV v = s.length := by
  obtain ⟨ao, cap, rfl⟩ := h.at; rfl
theorem Ws.kept {w w' : World} {B : Nat} {k : IntKind} {T : TypeId} {v : Value} {g : Nat} {pre s post : List Nat} (h : Ws w k T v g pre s post) (hb : Below B w w') (hg : s.length ≠ 0 → g < B) : Ws w' k T v g pre s post := by
  obtain ⟨ao, cap, rfl, h1, h2, h3, h4⟩ := h
  exact ⟨ao, cap, rfl, h1, h2, h3, fun i => ⟨(h4 i).1, (h4 i).2.below hb (hg i)⟩⟩
theorem Ws.in_heap {w : World} {k : IntKind} {T : TypeId} {v : Value} {g : Nat} {pre s post : List Nat} (h : Ws w k T v g pre s post) (h0 : s.length ≠ 0) : g < w.heap.size := by
  obtain ⟨ao, cap, rfl, h1, h2, h3, h4⟩ := h
  exact (h4 h0).2.lt

/-- The two lists of groups, before and behind a round. -/
theorem groups_step {gs : List Nat} {ρ N : Nat} (h0 : 0 < ρ) (h : gs ++ dig G9 ρ = dig G9 N) : (gs ++ [ρ % G9]) ++ dig G9 (ρ / G9) = dig G9 N := by
  rw [← h, dig_pos (B := G9) (by decide) h0, List.append_assoc]; rfl

end Go.Proofs.Ytinfbmnimkcdjaa

/- Decimal digits, group by group; the contract of Text, from what FormatUint does. -/
namespace Go.Proofs.Ytinfbmnimkcdjaa
open Go.RowKit
set_option maxRecDepth 100000

/-- The last k decimal digits of g. -/
def pad : Nat → Nat → List UInt8
  | 0, _ => []
  | k + 1, g => pad k (g / 10) ++ [UInt8.ofNat (48 + g % 10)]

theorem decDigits_pad (k : Nat) : ∀ (q g : Nat), 0 < q → g < 10 ^ k → Lib.decDigits (q * 10 ^ k + g) = Lib.decDigits q ++ pad k g := by
  induction k with
  | zero => intro q g hq hg; simp at hg; subst hg; simp [pad]
  | succ k ih =>
    intro q g hq hg
    have hbig : ¬ q * 10 ^ (k + 1) + g < 10 := by
      have : 1 * 10 ^ (k + 1) ≤ q * 10 ^ (k + 1) := Nat.mul_le_mul_right _ hq
      have h2 : 10 ≤ 10 ^ (k + 1) := by rw [Nat.pow_succ]; have := Nat.pow_pos (n := k) (show 0 < 10 by omega); omega
      omega
    have e1 : (q * 10 ^ (k + 1) + g) / 10 = q * 10 ^ k + g / 10 := by
      rw [Nat.pow_succ, ← Nat.mul_assoc, Nat.add_comm, Nat.add_mul_div_right _ _ (by omega), Nat.add_comm]
    have e2 : (q * 10 ^ (k + 1) + g) % 10 = g % 10 := by
      rw [Nat.pow_succ, ← Nat.mul_assoc, Nat.add_comm, Nat.add_mul_mod_self_right]
    have hg' : g / 10 < 10 ^ k := Nat.div_lt_of_lt_mul (by rw [Nat.pow_succ] at hg; omega)
    rw [Lib.decDigits, dif_neg hbig, e1, e2, ih q (g / 10) hq hg', List.append_assoc]
    rfl
theorem decDigits_group {q g : Nat} (hq : 0 < q) (hg : g < G9) : Lib.decDigits (g + G9 * q) = Lib.decDigits q ++ (Lib.decDigits (G9 + g)).drop 1 := by
  have h1 := decDigits_pad 9 q g hq hg
  have h2 := decDigits_pad 9 1 g (by decide) hg
  have hG : G9 = 1000000000 := rfl
  rw [show q * 10 ^ 9 + g = g + G9 * q by rw [hG]; omega] at h1
  rw [show 1 * 10 ^ 9 + g = G9 + g by rw [hG]] at h2
  rw [h1, h2, Lib.decDigits_one (i := 1) (by decide)]
  rfl
theorem len_pad (k g : Nat) : (pad k g).length = k := by
  induction k generalizing g with
  | zero => rfl
  | succ k ih => simp [pad, ih]
theorem decDigits_ten {g : Nat} (hg : g < G9) : (Lib.decDigits (G9 + g)).length = 10 := by
  have h2 := decDigits_pad 9 1 g (by decide) hg
  rw [show 1 * 10 ^ 9 + g = G9 + g from rfl] at h2
  rw [h2, List.length_append, len_pad, Lib.decDigits_one (i := 1) (by decide)]; rfl

theorem decDigits_len {n k : Nat} (h : n < 10 ^ k) (hk : 0 < k) : (Lib.decDigits n).length ≤ k := by
  rw [Lib.decDigits_length]
  rcases Nat.lt_or_ge n 10 with h1 | h1
  · rw [Lib.nDigits_small h1]; exact hk
  · induction k generalizing n with
    | zero => omega
    | succ k ih =>
      rw [Lib.nDigits_big (by omega)]
      have h2 : n / 10 < 10 ^ k := Nat.div_lt_of_lt_mul (by rw [Nat.pow_succ] at h; omega)
      have hk0 : 0 < k := by
        rcases Nat.eq_zero_or_pos k with h0 | h0
        · subst h0; simp at h2; omega
        · exact h0
      rcases Nat.lt_or_ge (n / 10) 10 with h3 | h3
      · rw [Lib.nDigits_small h3]; omega
      · have := ih h2 hk0 h3; omega

theorem val_drop_step {B : Nat} {gs : List Nat} {k : Nat} (hk : k < gs.length) : val B (gs.drop k) = gs.getD k 0 + B * val B (gs.drop (k + 1)) := by
  rw [List.drop_eq_getElem_cons hk]
  simp [val, List.getD, hk]

theorem extract_one (l : List UInt8) : (⟨l.toArray⟩ : ByteArray).extract 1 (⟨l.toArray⟩ : ByteArray).size = ⟨(l.drop 1).toArray⟩ := by
  apply ByteArray.ext
  simp [ByteArray.size]
  rw [List.take_of_length_le (by simp)]

theorem digits_len {gs : List Nat} (hd : Dig G9 gs) (k : Nat) (hl : gs.length ≤ 20000) : (Lib.decDigits (val G9 (gs.drop k))).length ≤ 180009 := by
  have h1 := val_lt (hd.drop k)
  have h2 : G9 ^ (gs.drop k).length ≤ 10 ^ (9 * gs.length + 9) := by
    rw [show G9 = 10 ^ 9 from rfl, ← Nat.pow_mul]
    exact Nat.pow_le_pow_right (by decide) (by rw [List.length_drop]; omega)
  have := decDigits_len (Nat.lt_of_lt_of_le h1 h2) (by omega)
  omega
theorem digits_round {gs : List Nat} (hd : Dig G9 gs) {k : Nat} (hk : k < gs.length) (hp : 0 < val G9 (gs.drop (k + 1))) :
    Lib.decDigits (val G9 (gs.drop k)) = Lib.decDigits (val G9 (gs.drop (k + 1))) ++ (Lib.decDigits (G9 + gs.getD k 0)).drop 1 ∧ 0 < val G9 (gs.drop k) := by
  rw [val_drop_step hk]
  refine ⟨decDigits_group hp (hd.getD (by decide) k), ?_⟩
  have : 1 * 1 ≤ G9 * val G9 (gs.drop (k + 1)) := Nat.mul_le_mul (by decide) hp
  omega

end Go.Proofs.Ytinfbmnimkcdjaa

/- Small numbers' texts. -/
namespace Go.Proofs.Ytinfbmnimkcdjaa
open Go.RowKit
set_option maxRecDepth 100000

theorem dig_one {B n : Nat} (hB : 2 ≤ B) (h0 : 0 < n) (h : n < B) : dig B n = [n] := by
  rw [dig_pos hB h0, Nat.mod_eq_of_lt h, Nat.div_eq_of_lt h, dig_zero]

end Go.Proofs.Ytinfbmnimkcdjaa
