/-
  Joined: DivA, TextA, TextB, Small.
-/
import Derived.Test.YtdpfgfkoboihcaaDoorKRef
import Derived.Test.YtdpfgfkoboihcaaDoorShelf
import Derived.Lib.Builder
import Derived.Lib.ItoaNum
import Derived.Lib.AppendStr
/- Contracts of package nat: divLimb; Div by 0, of less, by one limb. -/
namespace Go.Proofs.YtdpfgfkoboihcaaDoor
open Go.RowKit
set_option maxRecDepth 100000

/-- Two limbs, r the higher one. -/
def joinN (r x : Nat) : Nat := r * 4294967296 + x
def joinI (r x : Nat) : Int := ((joinN r x : Nat) : Int)
theorem or_join {r x : Nat} (hr : r < 4294967296) (hx : x < 4294967296) : bits BinOp.or IntKind.u64 ((r : Int) * 4294967296) (x : Int) = joinI r x := by
  have h1 : (r : Int) * 4294967296 = ((r * 4294967296 : Nat) : Int) := by simp
  rw [h1, u64_or_nat _ _ (by omega) (by omega), nat_join 32 _ _ (by omega) (by omega)]; rfl
theorem joinI_bound {r x : Nat} (hr : r < 4294967296) (hx : x < 4294967296) : 0 ≤ joinI r x ∧ joinI r x < 18446744073709551616 := by unfold joinI joinN; omega
theorem join_div {r x d : Nat} (hr : r < d) (hx : x < 4294967296) : joinN r x / d < 4294967296 := by
  apply Nat.div_lt_of_lt_mul
  unfold joinN
  have : (r + 1) * 4294967296 ≤ d * 4294967296 := Nat.mul_le_mul_right _ hr
  omega

theorem divLimb_step {t s : List Nat} {k r d : Nat} (hk : k < t.length) (hl : t.length = s.length) (ht : t.take (k + 1) = s.take (k + 1)) (hv : val L32 (t.drop (k + 1)) * d + r = val L32 (s.drop (k + 1))) :
    (t.set k (joinN r (t.getD k 0) / d)).take k = s.take k ∧ val L32 ((t.set k (joinN r (t.getD k 0) / d)).drop k) * d + joinN r (t.getD k 0) % d = val L32 (s.drop k) := by
  have hks : k < s.length := by omega
  have e1 : t.getD k 0 = s.getD k 0 := by
    have := congrArg (fun l => l.getD k 0) ht
    simpa [List.getD] using this
  refine ⟨?_, ?_⟩
  · rw [List.take_set_of_le (Nat.le_refl k)]
    have := congrArg (List.take k) ht
    rw [List.take_take, List.take_take, Nat.min_eq_left (by omega)] at this
    exact this
  · rw [List.drop_eq_getElem_cons (by simpa using hk), List.drop_set_of_lt (by omega), List.drop_eq_getElem_cons hks]
    simp only [val, List.getElem_set_self]
    rw [← hv]
    have e2 : s[k] = s.getD k 0 := by simp [List.getD, hks]
    rw [e2, ← e1]
    have h := Nat.div_add_mod (joinN r (t.getD k 0)) d
    have hj : joinN r (t.getD k 0) = r * L32 + t.getD k 0 := rfl
    generalize joinN r (t.getD k 0) / d = q at *
    generalize joinN r (t.getD k 0) % d = m at *
    rw [hj] at h
    grind

theorem nz_eq_zero {xs : List Nat} (hd : Dig L32 xs) (h : val L32 xs = 0) : nz xs = 0 := by
  have := length_dig_val (B := L32) (by decide) hd
  rw [h, dig_zero] at this; exact this.symm
theorem nz_pos_of {xs : List Nat} (hd : Dig L32 xs) (h : 0 < val L32 xs) : 0 < nz xs := by
  rw [← length_dig_val (B := L32) (by decide) hd, dig_pos (by decide) h]; simp

end Go.Proofs.YtdpfgfkoboihcaaDoor

/- Contracts: a Builder's copyCheck and WriteString; FormatUint of a small number; decimalGroups. -/
namespace Go.Proofs.YtdpfgfkoboihcaaDoor
open Go.RowKit
set_option maxRecDepth 100000

theorem infoByte : (Tryd.prog.info? 5).map (fun i => (i.zero, i.size, i.bytes)) = some (some (.int .u8 0), 1, 1) := by kernel_rfl
theorem strCells_bytes (l m : List UInt8) : Lib.byteCells l ++ Lib.strCells ⟨m.toArray⟩ = Lib.byteCells (l ++ m) := by
  simp [Lib.byteCells, Lib.strCells]

/-- A billion, behind a name. -/
abbrev G9 : Nat := 1000000000

theorem dig_dig_step {B n : Nat} (hB : 2 ≤ B) (h : 0 < n) : dig B n = n % B :: dig B (n / B) := dig_pos hB h

theorem Ow.len {w : World} {base : Nat} {k : IntKind} {T : TypeId} {v : Value} {xs : List Nat} (h : Ow w base k T v xs) : lenOfV v = xs.length := by
  obtain ⟨ao, cap, rfl⟩ := sl_shape h.sl; rfl
theorem Ow.grown {w w' : World} {base : Nat} {k : IntKind} {T : TypeId} {v : Value} {xs : List Nat} (h : Ow w base k T v xs) {g : Nat} (hg : w.grownBy w' (some g)) (hb : g < base) : Ow w' base k T v xs :=
  World.ownsRow.kept h hg (by
    cases hv : v.ownBlock with
    | none => exact .inl rfl
    | some j => exact .inr (fun e => by injection e with e; have := h.base_le j hv; omega))

/-- What 'trimmed' leaves of a writable part: a shorter one. -/
theorem ws_trimmed {w : World} {T : TypeId} {ao : Option Addr} {n cap g : Nat} {pre s post : List Nat} (h : Ws w .u32 T (.slice ao n cap) g pre s post) (hd : Dig L32 s) :
    ∃ post', Ws w .u32 T (trimmedOf ao cap s) g pre (dig L32 (val L32 s)) post' := by
  have e := take_nz (B := L32) (by decide) hd
  obtain ⟨ao', cap', e1, h1, h2, h3, h4⟩ := h
  injection e1 with e1 e2 e3
  subst e1; subst e3
  have hl := nz_le s
  have hlen : (s.take (nz s)).length = nz s := by rw [List.length_take]; omega
  refine ⟨s.drop (nz s) ++ post, ?_⟩
  rw [← e]
  unfold trimmedOf
  by_cases h0 : nz s = 0
  · rw [if_pos h0, h0]
    exact ⟨none, 0, rfl, by simp, by omega, fun _ => rfl, fun h => by simp at h⟩
  · rw [if_neg h0]
    refine ⟨ao, cap, by rw [hlen], by rw [hlen]; omega, h2, h3, fun _ => ?_⟩
    obtain ⟨a1, a2⟩ := h4 (by omega)
    refine ⟨a1, ?_⟩
    have : pre ++ s.take (nz s) ++ (s.drop (nz s) ++ post) = pre ++ s ++ post := by
      rw [← List.append_assoc, List.append_assoc pre, List.take_append_drop]
    rw [this]; exact a2
theorem trimmed_ws (v : Value) (g : Nat) (pre s post : List Nat) (w : World) (h : Ws w .u32 129 v g pre s post) (hd : Dig L32 s) :
    Calls Tryd.prog 73 #[v] w fun e w' => ∃ v' post', e = .returned v' ∧ Ws w .u32 129 v' g pre (dig L32 (val L32 s)) post' ∧ w = w' := by
  obtain ⟨ao, cap, rfl⟩ := h.at
  refine (trimmed_any _ _ _ s _ h.sl).mono fun e w' ⟨he, hw⟩ => ?_
  obtain ⟨post', h'⟩ := ws_trimmed h hd
  exact ⟨_, post', he, h', hw⟩
theorem Ws.len {w : World} {k : IntKind} {T : TypeId} {v : Value} {g : Nat} {pre s post : List Nat} (h : Ws w k T v g pre s post) : lenOfV v = s.length := by
  obtain ⟨ao, cap, rfl⟩ := h.at; rfl
theorem Ws.kept {w w' : World} {B : Nat} {k : IntKind} {T : TypeId} {v : Value} {g : Nat} {pre s post : List Nat} (h : Ws w k T v g pre s post) (hb : Below B w w') (hg : s.length ≠ 0 → g < B) : Ws w' k T v g pre s post := by
  obtain ⟨ao, cap, rfl, h1, h2, h3, h4⟩ := h
  exact ⟨ao, cap, rfl, h1, h2, h3, fun i => ⟨(h4 i).1, (h4 i).2.below hb (hg i)⟩⟩
theorem Ws.in_heap {w : World} {k : IntKind} {T : TypeId} {v : Value} {g : Nat} {pre s post : List Nat} (h : Ws w k T v g pre s post) (h0 : s.length ≠ 0) : g < w.heap.size := by
  obtain ⟨ao, cap, rfl, h1, h2, h3, h4⟩ := h
  exact (h4 h0).2.lt

/-- The two lists of groups, before and behind a round. -/
theorem groups_step {gs : List Nat} {ρ N : Nat} (h0 : 0 < ρ) (h : gs ++ dig G9 ρ = dig G9 N) : (gs ++ [ρ % G9]) ++ dig G9 (ρ / G9) = dig G9 N := by
  rw [← h, dig_pos (B := G9) (by decide) h0, List.append_assoc]; rfl

end Go.Proofs.YtdpfgfkoboihcaaDoor

/- Decimal digits, group by group; the contract of Text, from what FormatUint does. -/
namespace Go.Proofs.YtdpfgfkoboihcaaDoor
open Go.RowKit
set_option maxRecDepth 100000

/-- The last k decimal digits of g. -/
def pad : Nat → Nat → List UInt8
  | 0, _ => []
  | k + 1, g => pad k (g / 10) ++ [UInt8.ofNat (48 + g % 10)]

theorem decDigits_pad (k : Nat) : ∀ (q g : Nat), 0 < q → g < 10 ^ k → Lib.decDigits (q * 10 ^ k + g) = Lib.decDigits q ++ pad k g := by
  induction k with
  | zero => intro q g hq hg; simp at hg; subst hg; simp [pad]
  | succ k ih =>
    intro q g hq hg
    have hbig : ¬ q * 10 ^ (k + 1) + g < 10 := by
      have : 1 * 10 ^ (k + 1) ≤ q * 10 ^ (k + 1) := Nat.mul_le_mul_right _ hq
      have h2 : 10 ≤ 10 ^ (k + 1) := by rw [Nat.pow_succ]; have := Nat.pow_pos (n := k) (show 0 < 10 by omega); omega
      omega
    have e1 : (q * 10 ^ (k + 1) + g) / 10 = q * 10 ^ k + g / 10 := by
      rw [Nat.pow_succ, ← Nat.mul_assoc, Nat.add_comm, Nat.add_mul_div_right _ _ (by omega), Nat.add_comm]
    have e2 : (q * 10 ^ (k + 1) + g) % 10 = g % 10 := by
      rw [Nat.pow_succ, ← Nat.mul_assoc, Nat.add_comm, Nat.add_mul_mod_self_right]
    have hg' : g / 10 < 10 ^ k := Nat.div_lt_of_lt_mul (by rw [Nat.pow_succ] at hg; omega)
    rw [Lib.decDigits, dif_neg hbig, e1, e2, ih q (g / 10) hq hg', List.append_assoc]
    rfl
theorem decDigits_group {q g : Nat} (hq : 0 < q) (hg : g < G9) : Lib.decDigits (g + G9 * q) = Lib.decDigits q ++ (Lib.decDigits (G9 + g)).drop 1 := by
  have h1 := decDigits_pad 9 q g hq hg
  have h2 := decDigits_pad 9 1 g (by decide) hg
  have hG : G9 = 1000000000 := rfl
  rw [show q * 10 ^ 9 + g = g + G9 * q by rw [hG]; omega] at h1
  rw [show 1 * 10 ^ 9 + g = G9 + g by rw [hG]] at h2
  rw [h1, h2, Lib.decDigits_one (i := 1) (by decide)]
  rfl
theorem len_pad (k g : Nat) : (pad k g).length = k := by
  induction k generalizing g with
  | zero => rfl
  | succ k ih => simp [pad, ih]
theorem decDigits_ten {g : Nat} (hg : g < G9) : (Lib.decDigits (G9 + g)).length = 10 := by
  have h2 := decDigits_pad 9 1 g (by decide) hg
  rw [show 1 * 10 ^ 9 + g = G9 + g from rfl] at h2
  rw [h2, List.length_append, len_pad, Lib.decDigits_one (i := 1) (by decide)]; rfl

theorem decDigits_len {n k : Nat} (h : n < 10 ^ k) (hk : 0 < k) : (Lib.decDigits n).length ≤ k := by
  rw [Lib.decDigits_length]
  rcases Nat.lt_or_ge n 10 with h1 | h1
  · rw [Lib.nDigits_small h1]; exact hk
  · induction k generalizing n with
    | zero => omega
    | succ k ih =>
      rw [Lib.nDigits_big (by omega)]
      have h2 : n / 10 < 10 ^ k := Nat.div_lt_of_lt_mul (by rw [Nat.pow_succ] at h; omega)
      have hk0 : 0 < k := by
        rcases Nat.eq_zero_or_pos k with h0 | h0
        · subst h0; simp at h2; omega
        · exact h0
      rcases Nat.lt_or_ge (n / 10) 10 with h3 | h3
      · rw [Lib.nDigits_small h3]; omega
      · have := ih h2 hk0 h3; omega

theorem val_drop_step {B : Nat} {gs : List Nat} {k : Nat} (hk : k < gs.length) : val B (gs.drop k) = gs.getD k 0 + B * val B (gs.drop (k + 1)) := by
  rw [List.drop_eq_getElem_cons hk]
  simp [val, List.getD, hk]

theorem extract_one (l : List UInt8) : (⟨l.toArray⟩ : ByteArray).extract 1 (⟨l.toArray⟩ : ByteArray).size = ⟨(l.drop 1).toArray⟩ := by
  apply ByteArray.ext
  simp [ByteArray.size]
  rw [List.take_of_length_le (by simp)]

theorem digits_len {gs : List Nat} (hd : Dig G9 gs) (k : Nat) (hl : gs.length ≤ 20000) : (Lib.decDigits (val G9 (gs.drop k))).length ≤ 180009 := by
  have h1 := val_lt (hd.drop k)
  have h2 : G9 ^ (gs.drop k).length ≤ 10 ^ (9 * gs.length + 9) := by
    rw [show G9 = 10 ^ 9 from rfl, ← Nat.pow_mul]
    exact Nat.pow_le_pow_right (by decide) (by rw [List.length_drop]; omega)
  have := decDigits_len (Nat.lt_of_lt_of_le h1 h2) (by omega)
  omega
theorem digits_round {gs : List Nat} (hd : Dig G9 gs) {k : Nat} (hk : k < gs.length) (hp : 0 < val G9 (gs.drop (k + 1))) :
    Lib.decDigits (val G9 (gs.drop k)) = Lib.decDigits (val G9 (gs.drop (k + 1))) ++ (Lib.decDigits (G9 + gs.getD k 0)).drop 1 ∧ 0 < val G9 (gs.drop k) := by
  rw [val_drop_step hk]
  refine ⟨decDigits_group hp (hd.getD (by decide) k), ?_⟩
  have : 1 * 1 ≤ G9 * val G9 (gs.drop (k + 1)) := Nat.mul_le_mul (by decide) hp
  omega

end Go.Proofs.YtdpfgfkoboihcaaDoor

/- Small numbers' texts. -/
namespace Go.Proofs.YtdpfgfkoboihcaaDoor
open Go.RowKit
set_option maxRecDepth 100000

theorem dig_one {B n : Nat} (hB : 2 ≤ B) (h0 : 0 < n) (h : n < B) : dig B n = [n] := by
  rw [dig_pos hB h0, Nat.mod_eq_of_lt h, Nat.div_eq_of_lt h, dig_zero]

end Go.Proofs.YtdpfgfkoboihcaaDoor
