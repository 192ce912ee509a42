/-
  Joined: DivA, TextA, TextB, Small.
-/
import Derived.Test.YtocadojeanhalaaGreatDoorKRef
import Derived.Test.YtocadojeanhalaaGreatDoorShelf
import Derived.Lib.Builder
import Derived.Lib.ItoaNum
import Derived.Lib.AppendStr
/- Contracts of package nat: divLimb; Div by 0, of less, by one limb. -/
namespace Go.Proofs.YtocadojeanhalaaGreatDoor
open Go.RowKit
set_option maxRecDepth 100000

/-- Two limbs, r the higher one. -/
def joinN (r x : Nat) : Nat := r * 4294967296 + x
def joinI (r x : Nat) : Int := ((joinN r x : Nat) : Int)
theorem or_join {r x : Nat} (hr : r < 4294967296) (hx : x < 4294967296) : bits BinOp.or IntKind.u64 ((r : Int) * 4294967296) (x : Int) = joinI r x := by
  have h1 : (r : Int) * 4294967296 = ((r * 4294967296 : Nat) : Int) := by simp
  rw [h1, u64_or_nat _ _ (by omega) (by omega), nat_join 32 _ _ (by omega) (by omega)]; rfl
theorem joinI_bound {r x : Nat} (hr : r < 4294967296) (hx : x < 4294967296) : 0 ≤ joinI r x ∧ joinI r x < 18446744073709551616 := by unfold joinI joinN; omega
theorem join_div {r x d : Nat} (hr : r < d) (hx : x < 4294967296) : joinN r x / d < 4294967296 := by
  apply Nat.div_lt_of_lt_mul
  unfold joinN
  have : (r + 1) * 4294967296 ≤ d * 4294967296 := Nat.mul_le_mul_right _ hr
  omega

theorem divLimb_step {t s : List Nat} {k r d : Nat} (hk : k < t.length) (hl : t.length = s.length) (ht : t.take (k + 1) = s.take (k + 1)) (hv : val L32 (t.drop (k + 1)) * d + r = val L32 (s.drop (k + 1))) :
    (t.set k (joinN r (t.getD k 0) / d)).take k = s.take k ∧ val L32 ((t.set k (joinN r (t.getD k 0) / d)).drop k) * d + joinN r (t.getD k 0) % d = val L32 (s.drop k) := by
  have hks : k < s.length := by omega
  have e1 : t.getD k 0 = s.getD k 0 := by
    have := congrArg (fun l => l.getD k 0) ht
    simpa [List.getD] using this
  refine ⟨?_, ?_⟩
  · rw [List.take_set_of_le (Nat.le_refl k)]
    have := congrArg (List.take k) ht
    rw [List.take_take, List.take_take, Nat.min_eq_left (by omega)] at this
    exact this
  · rw [List.drop_eq_getElem_cons (by simpa using hk), List.drop_set_of_lt (by omega), List.drop_eq_getElem_cons hks]
    simp only [val, List.getElem_set_self]
    rw [← hv]
    have e2 : s[k] = s.getD k 0 := by simp [List.getD, hks]
    rw [e2, ← e1]
    have h := Nat.div_add_mod (joinN r (t.getD k 0)) d
    have hj : joinN r (t.getD k 0) = r * L32 + t.getD k 0 := rfl
    generalize joinN r (t.getD k 0) / d = q at *
    generalize joinN r (t.getD k 0) % d = m at *
    rw [hj] at h
    grind

set_option maxHeartbeats 1000000 in
theorem divLimb_any (g : Nat) (pre s post : List Nat) (vs : Value) (d : Nat) (z : Int) (w : World) (hw : Ws w .u32 75 vs g pre s post) (hs : Dig L32 s) (hz : z = (d : Int)) (hd0 : 0 < d) (hd1 : d < 4294967296) :
    Calls Tryz.prog 71 #[vs, .int .u32 z] w fun e w' => ∃ s', e = .returned (.int .u32 ((val L32 s % d : Nat) : Int)) ∧ Ws w' .u32 75 vs g pre s' post ∧ w.grownBy w' (some g) ∧ s'.length = s.length ∧ Dig L32 s' ∧
      val L32 s' = val L32 s / d := by
  subst hz
  obtain ⟨ao, cap, rfl, h1, h2, h3, h4⟩ := hw
  go_enter Tryz.func71, Tryz.ntmps71
  go_wp2
  go_loopw [5, 6] (fun c i wr => ∃ (k : Nat) (t : List Nat) (r : Nat), i = .int .i64 ((k : Int) - 1) ∧ c = .int .u64 (r : Int) ∧ r < d ∧ k ≤ s.length ∧ w.grownBy wr (some g) ∧ Hid (t.length = s.length) ∧ Dig 4294967296 t ∧
     WsAt wr .u32 75 ao g pre t post s.length ∧ Hid (t.take k = s.take k) ∧ Hid (val L32 (t.drop k) * d + r = val L32 (s.drop k)))
    (fun _ i _ => (intOf i + 1).toNat)
  case atStart => exact ⟨s.length, s, 0, rfl, rfl, hd0, by omega, World.grownBy.refl _ _, Lib.hid rfl, hs, h4, Lib.hid rfl, Lib.hid (by simp [val])⟩
  case round =>
    obtain ⟨k, t, r, rfl, rfl, hr, hk, hg, Ht, hdt, hB, HT, HV⟩ := hrel
    by_cases h0 : 0 < k
    · obtain ⟨rfl, hB'⟩ := hB (by omega)
      have hkt : k - 1 < t.length := by have := Ht.out; omega
      have hct : wr.cell? ⟨g, pre.length + (k - 1), none⟩ = some (.int .u32 (nth t (k - 1))) := by
        rw [hB'.cell (by simp; omega), nth_mid _ _ _ _ hkt]
      have hft := hB'.frozen (pre.length + (k - 1))
      have t1 := hdt.getD (by omega) (k - 1)
      obtain ⟨x, hx⟩ : ∃ x, x = t.getD (k - 1) 0 := ⟨_, rfl⟩
      have hnx : nth t (k - 1) = (x : Int) := by rw [hx]; rfl
      rw [← hx] at t1
      have hor := or_join (r := r) (x := x) (by omega) t1
      have hjb := joinI_bound (r := r) (x := x) (by omega) t1
      have hq0 := join_div hr t1
      have hq : 0 ≤ joinI r x / (d : Int) ∧ joinI r x / (d : Int) < 4294967296 := by
        have : joinI r x / (d : Int) = ((joinN r x / d : Nat) : Int) := by unfold joinI; simp
        rw [this]; exact ⟨Int.natCast_nonneg _, Int.ofNat_lt.2 hq0⟩
      have HS := Lib.hid (divLimb_step (t := t) (s := s) (k := k - 1) (r := r) (d := d) hkt Ht.out (by rw [show k - 1 + 1 = k by omega]; exact HT.out) (by rw [show k - 1 + 1 = k by omega]; exact HV.out))
      rw [← hx] at HS
      have HQ := Lib.hid hq0
      have hm0 : joinI r x % (d : Int) = ((joinN r x % d : Nat) : Int) := by unfold joinI; simp
      have hd0' : joinI r x / (d : Int) = ((joinN r x / d : Nat) : Int) := by unfold joinI; simp
      have HM := Lib.hid hm0
      have HD := Lib.hid hd0'
      rw [hnx] at hct
      clear hB h4 hq0 hm0 hd0' hx hnx
      go_wp2
      go_roundw
      case rel =>
        refine ⟨k - 1, t.set (k - 1) (joinN r x / d), joinN r x % d, by go_num, by rw [← HM.out], Nat.mod_lt _ hd0, by omega, grown_setCell hg _, Lib.hid (by rw [List.length_set]; exact Ht.out), hdt.set HQ.out, fun _ => ⟨rfl, ?_⟩, Lib.hid HS.out.1, Lib.hid HS.out.2⟩
        rw [← set_mid _ _ _ _ _ hkt]
        exact hB'.set _ _ _ HD.out
      case measure => simp [intOf]; omega
    · have hk0 : k = 0 := by omega
      subst hk0
      have hv := HV.out
      simp only [List.drop_zero] at hv
      have e1 : val L32 s % d = r := by rw [← hv, Nat.mul_add_mod_self_right, Nat.mod_eq_of_lt hr]
      have e2 : val L32 t = val L32 s / d := by rw [← hv, Nat.add_comm, Nat.add_mul_div_right _ _ hd0, Nat.div_eq_of_lt hr, Nat.zero_add]
      have E1 := Lib.hid e1
      have E2 := Lib.hid e2
      have hfin : Ws wr .u32 75 (.slice ao s.length cap) g pre t post := ⟨ao, cap, by rw [Ht.out], by rw [Ht.out]; exact h1, h2, h3, by rw [Ht.out]; exact hB⟩
      clear e1 e2 hv h4
      go_wp2
      go_ret
      exact ⟨t, by rw [E1.out]; rfl, hfin, hg, Ht.out, hdt, E2.out⟩

theorem nz_eq_zero {xs : List Nat} (hd : Dig L32 xs) (h : val L32 xs = 0) : nz xs = 0 := by
  have := length_dig_val (B := L32) (by decide) hd
  rw [h, dig_zero] at this; exact this.symm
theorem nz_pos_of {xs : List Nat} (hd : Dig L32 xs) (h : 0 < val L32 xs) : 0 < nz xs := by
  rw [← length_dig_val (B := L32) (by decide) hd, dig_pos (by decide) h]; simp

end Go.Proofs.YtocadojeanhalaaGreatDoor

/- Contracts: a Builder's copyCheck and WriteString; FormatUint of a small number; decimalGroups. -/
namespace Go.Proofs.YtocadojeanhalaaGreatDoor
open Go.RowKit
set_option maxRecDepth 100000

theorem infoByte : (Tryz.prog.info? 5).map (fun i => (i.zero, i.size, i.bytes)) = some (some (.int .u8 0), 1, 1) := by kernel_rfl
theorem infoBld : (Tryz.prog.info? 89).map (·.size) = some 2 := by kernel_rfl
theorem liesBld : liesAt Tryz.prog Tryz.prog.depth 89 (2 / Tryz.prog.cellsOf 89) 0 89 1 = true := by kernel_rfl

set_option maxHeartbeats 1000000 in
set_option maxRecDepth 100000 in
theorem copyCheck_used (b : Nat) (w : World) (h0 : w.cell? ⟨b, 0, none⟩ = some (.pointer (some ⟨b, 0, none⟩))) :
    Calls Tryz.prog 72 #[.pointer (some ⟨b, 0, none⟩)] w fun e w' => e = .returned (.tuple #[]) ∧ w = w' := by
  obtain ⟨j, hj, _⟩ := Option.map_eq_some_iff.1 infoBld
  have hne := Lib.run_neq_ptr_same (P := Tryz.prog) w ⟨b, 0, none⟩ Tryz.underlying86 hj
  go_enter Tryz.func72, Tryz.ntmps72
  go_wp2
  go_end0
  exact ⟨rfl, rfl⟩

set_option maxHeartbeats 1000000 in
set_option maxRecDepth 100000 in
theorem copyCheck_fresh (b : Nat) (w : World) (h0 : w.cell? ⟨b, 0, none⟩ = some (.pointer none)) (hsh : w.shape? b = some (89, 2)) (hfz : w.frozen? ⟨b, 0, none⟩ = false) :
    Calls Tryz.prog 72 #[.pointer (some ⟨b, 0, none⟩)] w fun e w' => e = .returned (.tuple #[]) ∧ w.setCell ⟨b, 0, none⟩ (.pointer (some ⟨b, 0, none⟩)) = w' := by
  obtain ⟨j, hj, hjs⟩ := Option.map_eq_some_iff.1 infoBld
  have h1 := Lib.run_to_unsafe (P := Tryz.prog) w ⟨b, 0, none⟩ Tryz.underlying86 Tryz.underlying111 hj (by rw [hjs]; decide) hsh (Nat.zero_lt_succ 1)
  have h2 := run_callFunc_extern (P := Tryz.prog) (w := w) (args := #[.pointer (some ⟨b, 0, none⟩)]) Tryz.func81 (by kernel_rfl) (by kernel_rfl) (by kernel_rfl) (e := Extern.AbiNoEscape.same) (by kernel_rfl)
  have h3 := Lib.run_noEscape (P := Tryz.prog) w (.pointer (some ⟨b, 0, none⟩))
  have h4 := Lib.run_from_unsafe (P := Tryz.prog) w ⟨b, 0, none⟩ Tryz.underlying111 Tryz.underlying86 hj hsh liesBld
  go_enter Tryz.func72, Tryz.ntmps72
  go_wp2
  go_end0
  exact ⟨rfl, rfl⟩

/-- The Builder in block b (made by the call: from B on) holds these bytes. -/
def Bld (B b : Nat) (l : List UInt8) (w : World) : Prop := Lib.IsBuilder 89 5 B b (Lib.byteCells l) w

theorem Bld.at {B b : Nat} {l : List UInt8} {w : World} (h : Bld B b l w) : ∃ p v, w.heap[b]? = some (.cells #[p, v] 89 (0, 0)) ∧ w.ownsRow B 5 1 v l.length (Lib.byteCells l) ∧ v.ownBlock ≠ some b ∧ B ≤ b ∧ (p = .pointer none ∨ p = .pointer (some ⟨b, 0, none⟩)) := by
  rcases h with ⟨hB, v, h1, h2, h3⟩ | ⟨hB, v, h1, h2, h3⟩
  · exact ⟨_, v, h1, by simpa [Lib.byteCells_length] using h2, h3, hB, .inl rfl⟩
  · exact ⟨_, v, h1, by simpa [Lib.byteCells_length] using h2, h3, hB, .inr rfl⟩

theorem Bld.below {B b : Nat} {l : List UInt8} {w w' : World} (h : Bld B b l w) (hb : Below w.heap.size w w') : Bld B b l w' := by
  have go : ∀ p, Lib.BuilderAt 89 5 B b p (Lib.byteCells l) w → Lib.BuilderAt 89 5 B b p (Lib.byteCells l) w' := by
    intro p ⟨hB, v, h1, h2, h3⟩
    have hlt := lt_of_block h1
    exact ⟨hB, v, by rw [hb.block b hlt]; exact h1, World.ownsRow.kept h2 ⟨hb.os, hb.tape, hb.output, hb.size, fun j hj _ => hb.block j hj⟩ (by cases hv : v.ownBlock with | none => exact .inl rfl | some g => exact .inr (show some g ≠ none by simp)), h3⟩
  rcases h with h | h
  · exact .inl (go _ h)
  · exact .inr (go _ h)

theorem strCells_bytes (l m : List UInt8) : Lib.byteCells l ++ Lib.strCells ⟨m.toArray⟩ = Lib.byteCells (l ++ m) := by
  simp [Lib.byteCells, Lib.strCells]

set_option maxHeartbeats 1000000 in
set_option maxRecDepth 100000 in
theorem writeString_any (B b : Nat) (l m : List UInt8) (sv : ByteArray) (w : World) (h : Bld B b l w) (hs : sv = ⟨m.toArray⟩) (hlen : l.length + m.length ≤ 1000000) (hBw : B ≤ w.heap.size) :
    Calls Tryz.prog 59 #[.pointer (some ⟨b, 0, none⟩), .string sv] w fun e w' => ∃ v, e = .returned v ∧ Bld B b (l ++ m) w' ∧ Below B w w' := by
  obtain ⟨i0, hi, hz0, hz1, hz2⟩ := info_parts infoByte
  have hsz : sv.size = m.length := by subst hs; rfl
  obtain ⟨p, v, hbk, hown, hne, hBb, hp⟩ := h.at
  have hlt := lt_of_block hbk
  -- behind copyCheck
  have rest : ∀ w1 : World, w1.heap[b]? = some (.cells #[.pointer (some ⟨b, 0, none⟩), v] 89 (0, 0)) → w1.ownsRow B 5 1 v l.length (Lib.byteCells l) → Below B w w1 → True := fun _ _ _ _ => trivial
  clear rest
  have HS := Lib.hid hs
  have HSZ := Lib.hid hsz
  clear hs
  have hsz2 : sv.size ≤ m.length := by omega
  clear hsz
  have cc : Calls Tryz.prog 72 #[.pointer (some ⟨b, 0, none⟩)] w fun e w1 => e = .returned (.tuple #[]) ∧ w1.heap[b]? = some (.cells #[.pointer (some ⟨b, 0, none⟩), v] 89 (0, 0)) ∧ w1.ownsRow B 5 1 v l.length (Lib.byteCells l) ∧ Below B w w1 := by
    rcases hp with rfl | rfl
    · refine (copyCheck_fresh b w (by rw [cell_of_row w b 0 _ 89 (0, 0) hbk]; rfl) (by simp [World.shape?, hbk]) (frozen_of_row w b 0 _ 89 hbk)).mono ?_
      rintro e w1 ⟨rfl, rfl⟩
      refine ⟨rfl, ?_, ?_, (Below.refl _ _).setCell hBb _⟩
      · rw [heap_setCell_same w b 0 _ 89 _ hbk]; rfl
      · exact ownsRow_setCell_other hown (by simpa using hne) _
    · refine (copyCheck_used b w (by rw [cell_of_row w b 0 _ 89 (0, 0) hbk]; rfl)).mono ?_
      rintro e w1 ⟨rfl, rfl⟩
      exact ⟨rfl, hbk, hown, Below.refl _ _⟩
  have CC := Lib.hid cc
  clear cc hbk hown hp
  go_enter Tryz.func59, Tryz.ntmps59
  go_wp2_with fail
  refine CC.out.mono ?_
  rintro e w1 ⟨rfl, hbk1, hown1, hb1⟩
  have c0 : w1.cell? ⟨b, 0, none⟩ = some (.pointer (some ⟨b, 0, none⟩)) := by rw [cell_of_row w1 b 0 _ 89 (0, 0) hbk1]; rfl
  have c1 : w1.cell? ⟨b, 1, none⟩ = some v := by rw [cell_of_row w1 b 1 _ 89 (0, 0) hbk1]; rfl
  have HK := Lib.hid hbk1
  clear hbk1
  have hsz1 := hb1.size
  go_wp2_with (at_builtin; refine Lib.wpList_append_own_string _ rfl (.tmp 12) (.tmp 13) 87 9 rfl B 5 i0 Tryz.underlying87 Tryz.underlying9 hi hz0 hz1 hz2 _ _ _ rfl hown1 sv rfl ?c3 ?c4 ?c5 ?_)
  case c3 => unfold maxLen; omega
  case c4 => omega
  case c5 => omega
  intro v' w2 hown' hgrow _
  have hlt1 : b < w1.heap.size := lt_of_block HK.out
  have hb2 : w2.heap[b]? = some (.cells #[.pointer (some ⟨b, 0, none⟩), v] 89 (0, 0)) := by
    rw [hgrow.block b hlt1 (fun e => hne e.symm)]
    exact HK.out
  have d0 : w2.cell? ⟨b, 0, none⟩ = some (.pointer (some ⟨b, 0, none⟩)) := by rw [cell_of_row w2 b 0 _ 89 (0, 0) hb2]; rfl
  have d1 : w2.cell? ⟨b, 1, none⟩ = some v := by rw [cell_of_row w2 b 1 _ 89 (0, 0) hb2]; rfl
  have f1 : w2.frozen? ⟨b, 1, none⟩ = false := frozen_of_row w2 b 1 _ 89 hb2
  obtain ⟨ao, n', cap, rfl⟩ : ∃ ao n' cap, v' = .slice ao n' cap := by
    rcases hown'.2 with ⟨hv, _⟩ | ⟨g, cap, cur, hv, _⟩
    · exact ⟨_, _, _, hv⟩
    · exact ⟨_, _, _, hv⟩
  have HB2 := Lib.hid hb2
  clear hb2
  go_wp2
  go_ret2
  refine ⟨_, rfl, ?_, ?_⟩
  · refine .inr ?_
    rw [← strCells_bytes, ← HS.out]
    refine Lib.BuilderAt.put (T := 89) (e := 5) hBb HB2.out (bs' := Lib.byteCells l ++ Lib.strCells sv) ?_ (by decide)
    rw [List.length_append, Lib.byteCells_length, Lib.strCells_length]
    exact hown'
  · exact (hb1.grown hgrow (by omega) (fun k hk => (hown1.lt k hk).1)).setCell (p := ⟨b, 1, none⟩) hBb _

set_option maxHeartbeats 1000000 in
theorem fmt_small (i : Nat) (z : Int) (hz : z = (i : Int)) (h : i < 100) (w : World) :
    Calls Tryz.prog 60 #[.int .u64 z, .int .i64 10] w fun e w' => e = .returned (.string ⟨(Lib.decDigits i).toArray⟩) ∧ w = w' := by
  subst hz
  have inner : Calls Tryz.prog 73 #[.int .u64 i, .int .i64 10] w fun e w' => e = .returned (.string ⟨(Lib.decDigits i).toArray⟩) ∧ w = w' := by
    go_enter Tryz.func73, Tryz.ntmps73
    go_wp2_with fail
    refine (Tryz.internal_strconv_small i h _).mono ?_; rintro e w' ⟨rfl, rfl⟩
    go_wp2_with fail
    go_ret
    exact ⟨rfl, rfl⟩
  have IN := Lib.hid inner
  clear inner
  go_enter Tryz.func60, Tryz.ntmps60
  go_wp2_with fail
  refine IN.out.mono ?_; rintro e w' ⟨rfl, rfl⟩
  go_wp2_with fail
  go_ret
  exact ⟨rfl, rfl⟩

/-- A billion, behind a name. -/
abbrev G9 : Nat := 1000000000

theorem dig_dig_step {B n : Nat} (hB : 2 ≤ B) (h : 0 < n) : dig B n = n % B :: dig B (n / B) := dig_pos hB h

theorem Ow.len {w : World} {base : Nat} {k : IntKind} {T : TypeId} {v : Value} {xs : List Nat} (h : Ow w base k T v xs) : lenOfV v = xs.length := by
  obtain ⟨ao, cap, rfl⟩ := sl_shape h.sl; rfl
theorem Ow.grown {w w' : World} {base : Nat} {k : IntKind} {T : TypeId} {v : Value} {xs : List Nat} (h : Ow w base k T v xs) {g : Nat} (hg : w.grownBy w' (some g)) (hb : g < base) : Ow w' base k T v xs :=
  World.ownsRow.kept h hg (by
    cases hv : v.ownBlock with
    | none => exact .inl rfl
    | some j => exact .inr (fun e => by injection e with e; have := h.base_le j hv; omega))

/-- What 'trimmed' leaves of a writable part: a shorter one. -/
theorem ws_trimmed {w : World} {T : TypeId} {ao : Option Addr} {n cap g : Nat} {pre s post : List Nat} (h : Ws w .u32 T (.slice ao n cap) g pre s post) (hd : Dig L32 s) :
    ∃ post', Ws w .u32 T (trimmedOf ao cap s) g pre (dig L32 (val L32 s)) post' := by
  have e := take_nz (B := L32) (by decide) hd
  obtain ⟨ao', cap', e1, h1, h2, h3, h4⟩ := h
  injection e1 with e1 e2 e3
  subst e1; subst e3
  have hl := nz_le s
  have hlen : (s.take (nz s)).length = nz s := by rw [List.length_take]; omega
  refine ⟨s.drop (nz s) ++ post, ?_⟩
  rw [← e]
  unfold trimmedOf
  by_cases h0 : nz s = 0
  · rw [if_pos h0, h0]
    exact ⟨none, 0, rfl, by simp, by omega, fun _ => rfl, fun h => by simp at h⟩
  · rw [if_neg h0]
    refine ⟨ao, cap, by rw [hlen], by rw [hlen]; omega, h2, h3, fun _ => ?_⟩
    obtain ⟨a1, a2⟩ := h4 (by omega)
    refine ⟨a1, ?_⟩
    have : pre ++ s.take (nz s) ++ (s.drop (nz s) ++ post) = pre ++ s ++ post := by
      rw [← List.append_assoc, List.append_assoc pre, List.take_append_drop]
    rw [this]; exact a2
theorem trimmed_ws (v : Value) (g : Nat) (pre s post : List Nat) (w : World) (h : Ws w .u32 75 v g pre s post) (hd : Dig L32 s) :
    Calls Tryz.prog 46 #[v] w fun e w' => ∃ v' post', e = .returned v' ∧ Ws w .u32 75 v' g pre (dig L32 (val L32 s)) post' ∧ w = w' := by
  obtain ⟨ao, cap, rfl⟩ := h.at
  refine (trimmed_any _ _ _ s _ h.sl).mono fun e w' ⟨he, hw⟩ => ?_
  obtain ⟨post', h'⟩ := ws_trimmed h hd
  exact ⟨_, post', he, h', hw⟩
theorem Ws.len {w : World} {k : IntKind} {T : TypeId} {v : Value} {g : Nat} {pre s post : List Nat} (h : Ws w k T v g pre s post) : lenOfV v = s.length := by
  obtain ⟨ao, cap, rfl⟩ := h.at; rfl
theorem Ws.kept {w w' : World} {B : Nat} {k : IntKind} {T : TypeId} {v : Value} {g : Nat} {pre s post : List Nat} (h : Ws w k T v g pre s post) (hb : Below B w w') (hg : s.length ≠ 0 → g < B) : Ws w' k T v g pre s post := by
  obtain ⟨ao, cap, rfl, h1, h2, h3, h4⟩ := h
  exact ⟨ao, cap, rfl, h1, h2, h3, fun i => ⟨(h4 i).1, (h4 i).2.below hb (hg i)⟩⟩
theorem Ws.in_heap {w : World} {k : IntKind} {T : TypeId} {v : Value} {g : Nat} {pre s post : List Nat} (h : Ws w k T v g pre s post) (h0 : s.length ≠ 0) : g < w.heap.size := by
  obtain ⟨ao, cap, rfl, h1, h2, h3, h4⟩ := h
  exact (h4 h0).2.lt

/-- The two lists of groups, before and behind a round. -/
theorem groups_step {gs : List Nat} {ρ N : Nat} (h0 : 0 < ρ) (h : gs ++ dig G9 ρ = dig G9 N) : (gs ++ [ρ % G9]) ++ dig G9 (ρ / G9) = dig G9 N := by
  rw [← h, dig_pos (B := G9) (by decide) h0, List.append_assoc]; rfl

set_option maxHeartbeats 1000000 in
theorem decimalGroups_any (va : Value) (xs : List Nat) (w : World) (hx : Sl w .u32 va xs) (dx : Dig L32 xs) (lx : xs.length ≤ 100000) :
    Calls Tryz.prog 58 #[va] w fun e w' => ∃ v, e = .returned v ∧ Sl w' .u32 v (dig G9 (val L32 xs)) ∧ Below w.heap.size w w' := by
  obtain ⟨i0, hi, hz0, hz1, hz2⟩ := info_parts info51
  obtain ⟨ao, ac, rfl⟩ := sl_shape hx
  go_enter Tryz.func58, Tryz.ntmps58
  go_wp2_with fail
  refine (trim_any _ xs w hx dx (by omega)).mono ?_
  rintro e w1 ⟨v1, rfl, hs1, hb1⟩
  have hsz1 := hb1.size
  have Hg : Hid ((dig L32 (val L32 xs)).length ≠ 0 → w.heap.size < w1.heap.size) := Lib.hid (fun h => hs1.in_heap h)
  have HK : Hid ((dig G9 (val L32 xs)).length ≤ 1000000) := Lib.hid (Nat.le_trans (length_dig_le (B := G9) (k := 2 * xs.length) (by decide) (by
    have h1 := val_lt dx
    have h2 : L32 ^ xs.length ≤ G9 ^ (2 * xs.length) := by rw [Nat.pow_mul]; exact Nat.pow_le_pow_left (by decide) _
    omega)) (by omega))
  generalize hN : val L32 xs = N at *
  have HN := Lib.hid hN
  clear hN
  go_wp2_with fail
  go_loopw [3, 4] (fun gv rv wr => ∃ (ρ : Nat) (gs post : List Nat), Ow wr w1.heap.size .u32 75 gv gs ∧ Ws wr .u32 75 rv w.heap.size [] (dig L32 ρ) post ∧ Hid (gs ++ dig G9 ρ = dig G9 N) ∧ Dig L32 gs ∧ Below w.heap.size w wr ∧ w1.heap.size ≤ wr.heap.size ∧ Hid ((dig L32 ρ).length ≠ 0 → w.heap.size < w1.heap.size)) (fun gv _ _ => (dig G9 N).length - lenOfV gv)
  case atStart => exact ⟨N, [], [], Ow.nil _ _ _ _, hs1, Lib.hid rfl, Dig.nil _, hb1, Nat.le_refl _, Hg⟩
  case round =>
    clear hs1 hb1 Hg
    obtain ⟨ρ, gs, post, how, hws, HG, hdg, hb, hsz, Hg⟩ := hrel
    have hlen := Lib.hid hws.len
    obtain ⟨ro, rc, rfl⟩ := hws.at
    by_cases h0 : 0 < ρ
    · have hpos : 0 < (dig L32 ρ).length := by rw [dig_pos (by decide) h0]; simp
      have hgl := Hg.out (by omega)
      have HG' := Lib.hid (groups_step h0 HG.out)
      have hgsl : gs.length < (dig G9 N).length := by
        have := congrArg List.length HG.out
        rw [List.length_append, dig_pos (B := G9) (by decide) h0] at this
        simp at this; omega
      have hk := HK.out
      have hmod : ρ % G9 < 1000000000 := Nat.mod_lt _ (by decide)
      have HL := Lib.hid how.len
      go_wp2_with fail
      refine (divLimb_any w.heap.size [] _ post _ G9 _ wr hws (Dig_dig (by decide) _) rfl (by decide) (by decide)).mono ?_
      rintro e w3 ⟨s', rfl, hs3, hg3, hl3, hd3, hv3⟩
      rw [val_dig (by decide)] at hv3 ⊢
      have how3 := how.grown hg3 hgl
      have hb3 : Below w.heap.size w w3 := hb.trans (below_of_grown' hg3 (Nat.le_refl _) hb.size)
      have hsz3 := hg3.size
      have HV3 := Lib.hid hv3
      have HL3 := Lib.hid hl3
      clear hv3 hl3
      obtain ⟨m, hm⟩ : ∃ m, m = ρ % G9 := ⟨_, rfl⟩
      rw [← hm]
      rw [← hm] at HG' hmod
      clear hm
      go_wp2_with (at_builtin; refine wpList_append_one _ rfl (.tmp 12) (.tmp 15) 26 rfl 75 i0 .u32 Tryz.underlying26 hi hz0 hz1 ?c1 w1.heap.size _ gs rfl (how3.alloc _) w3.heap.size (m : Int) m rfl ?c2 rfl ?c3 ?c4 ?_)
      case c1 => omega
      case c2 => simp
      case c3 => omega
      case c4 => simp; omega
      intro v' w4 how4 hb4
      have hb4' : Below w1.heap.size w3 w4 := ((Below.refl _ _).alloc (by omega) _).trans hb4
      have hs4 := hs3.kept hb4' (fun _ => hgl)
      go_wp2_with fail
      refine (trimmed_ws _ _ _ s' _ w4 hs4 hd3).mono ?_
      rintro e w5 ⟨v5, post5, rfl, hs5, rfl⟩
      rw [HV3.out] at hs5
      go_wp2_with fail
      go_roundw
      case rel => exact ⟨ρ / G9, gs ++ [m], post5, how4, hs5, HG', hdg.append (by intro x hx; obtain rfl := List.mem_singleton.1 hx; exact Nat.lt_trans hmod (by decide)), hb3.trans (hb4'.mono (by omega)), Nat.le_trans (by omega) hb4'.size, Lib.hid (fun _ => hgl)⟩
      case measure =>
        have e1 := HL.out
        have e2 := how4.len
        rw [List.length_append] at e2
        simp at e2
        simp; omega
    · have hr : ρ = 0 := by omega
      subst hr
      have HE : Hid (gs = dig G9 N) := Lib.hid (by have := HG.out; rwa [dig_zero, List.append_nil] at this)
      have hl0 : (dig L32 0).length = 0 := by rw [dig_zero]; rfl
      have HL0 := Lib.hid hl0
      have hl1 : (dig L32 0).length ≤ 0 := by omega
      clear hl0
      go_wp2_with fail
      go_ret
      exact ⟨_, rfl, by rw [HN.out, ← HE.out]; exact how.sl, hb⟩
end Go.Proofs.YtocadojeanhalaaGreatDoor

/- Decimal digits, group by group; the contract of Text, from what FormatUint does. -/
namespace Go.Proofs.YtocadojeanhalaaGreatDoor
open Go.RowKit
set_option maxRecDepth 100000

/-- The last k decimal digits of g. -/
def pad : Nat → Nat → List UInt8
  | 0, _ => []
  | k + 1, g => pad k (g / 10) ++ [UInt8.ofNat (48 + g % 10)]

theorem decDigits_pad (k : Nat) : ∀ (q g : Nat), 0 < q → g < 10 ^ k → Lib.decDigits (q * 10 ^ k + g) = Lib.decDigits q ++ pad k g := by
  induction k with
  | zero => intro q g hq hg; simp at hg; subst hg; simp [pad]
  | succ k ih =>
    intro q g hq hg
    have hbig : ¬ q * 10 ^ (k + 1) + g < 10 := by
      have : 1 * 10 ^ (k + 1) ≤ q * 10 ^ (k + 1) := Nat.mul_le_mul_right _ hq
      have h2 : 10 ≤ 10 ^ (k + 1) := by rw [Nat.pow_succ]; have := Nat.pow_pos (n := k) (show 0 < 10 by omega); omega
      omega
    have e1 : (q * 10 ^ (k + 1) + g) / 10 = q * 10 ^ k + g / 10 := by
      rw [Nat.pow_succ, ← Nat.mul_assoc, Nat.add_comm, Nat.add_mul_div_right _ _ (by omega), Nat.add_comm]
    have e2 : (q * 10 ^ (k + 1) + g) % 10 = g % 10 := by
      rw [Nat.pow_succ, ← Nat.mul_assoc, Nat.add_comm, Nat.add_mul_mod_self_right]
    have hg' : g / 10 < 10 ^ k := Nat.div_lt_of_lt_mul (by rw [Nat.pow_succ] at hg; omega)
    rw [Lib.decDigits, dif_neg hbig, e1, e2, ih q (g / 10) hq hg', List.append_assoc]
    rfl
theorem decDigits_group {q g : Nat} (hq : 0 < q) (hg : g < G9) : Lib.decDigits (g + G9 * q) = Lib.decDigits q ++ (Lib.decDigits (G9 + g)).drop 1 := by
  have h1 := decDigits_pad 9 q g hq hg
  have h2 := decDigits_pad 9 1 g (by decide) hg
  have hG : G9 = 1000000000 := rfl
  rw [show q * 10 ^ 9 + g = g + G9 * q by rw [hG]; omega] at h1
  rw [show 1 * 10 ^ 9 + g = G9 + g by rw [hG]] at h2
  rw [h1, h2, Lib.decDigits_one (i := 1) (by decide)]
  rfl
theorem len_pad (k g : Nat) : (pad k g).length = k := by
  induction k generalizing g with
  | zero => rfl
  | succ k ih => simp [pad, ih]
theorem decDigits_ten {g : Nat} (hg : g < G9) : (Lib.decDigits (G9 + g)).length = 10 := by
  have h2 := decDigits_pad 9 1 g (by decide) hg
  rw [show 1 * 10 ^ 9 + g = G9 + g from rfl] at h2
  rw [h2, List.length_append, len_pad, Lib.decDigits_one (i := 1) (by decide)]; rfl

theorem decDigits_len {n k : Nat} (h : n < 10 ^ k) (hk : 0 < k) : (Lib.decDigits n).length ≤ k := by
  rw [Lib.decDigits_length]
  rcases Nat.lt_or_ge n 10 with h1 | h1
  · rw [Lib.nDigits_small h1]; exact hk
  · induction k generalizing n with
    | zero => omega
    | succ k ih =>
      rw [Lib.nDigits_big (by omega)]
      have h2 : n / 10 < 10 ^ k := Nat.div_lt_of_lt_mul (by rw [Nat.pow_succ] at h; omega)
      have hk0 : 0 < k := by
        rcases Nat.eq_zero_or_pos k with h0 | h0
        · subst h0; simp at h2; omega
        · exact h0
      rcases Nat.lt_or_ge (n / 10) 10 with h3 | h3
      · rw [Lib.nDigits_small h3]; omega
      · have := ih h2 hk0 h3; omega

theorem val_drop_step {B : Nat} {gs : List Nat} {k : Nat} (hk : k < gs.length) : val B (gs.drop k) = gs.getD k 0 + B * val B (gs.drop (k + 1)) := by
  rw [List.drop_eq_getElem_cons hk]
  simp [val, List.getD, hk]

theorem extract_one (l : List UInt8) : (⟨l.toArray⟩ : ByteArray).extract 1 (⟨l.toArray⟩ : ByteArray).size = ⟨(l.drop 1).toArray⟩ := by
  apply ByteArray.ext
  simp [ByteArray.size]
  rw [List.take_of_length_le (by simp)]

theorem digits_len {gs : List Nat} (hd : Dig G9 gs) (k : Nat) (hl : gs.length ≤ 20000) : (Lib.decDigits (val G9 (gs.drop k))).length ≤ 180009 := by
  have h1 := val_lt (hd.drop k)
  have h2 : G9 ^ (gs.drop k).length ≤ 10 ^ (9 * gs.length + 9) := by
    rw [show G9 = 10 ^ 9 from rfl, ← Nat.pow_mul]
    exact Nat.pow_le_pow_right (by decide) (by rw [List.length_drop]; omega)
  have := decDigits_len (Nat.lt_of_lt_of_le h1 h2) (by omega)
  omega
theorem digits_round {gs : List Nat} (hd : Dig G9 gs) {k : Nat} (hk : k < gs.length) (hp : 0 < val G9 (gs.drop (k + 1))) :
    Lib.decDigits (val G9 (gs.drop k)) = Lib.decDigits (val G9 (gs.drop (k + 1))) ++ (Lib.decDigits (G9 + gs.getD k 0)).drop 1 ∧ 0 < val G9 (gs.drop k) := by
  rw [val_drop_step hk]
  refine ⟨decDigits_group hp (hd.getD (by decide) k), ?_⟩
  have : 1 * 1 ≤ G9 * val G9 (gs.drop (k + 1)) := Nat.mul_le_mul (by decide) hp
  omega

/-- What FormatUint does, behind w0, at the numbers that P lets. -/
def FmtAt (w0 : World) (P : Nat → Prop) : Prop :=
  ∀ (w : World) (i : Nat) (z : Int), Below w0.heap.size w0 w → z = (i : Int) → P i → Calls Tryz.prog 60 #[.int .u64 z, .int .i64 10] w fun e w' => e = .returned (.string ⟨(Lib.decDigits i).toArray⟩) ∧ Below w.heap.size w w'

set_option maxHeartbeats 1000000 in
theorem text_gen (P : Nat → Prop) (va : Value) (xs : List Nat) (w : World) (fmt : FmtAt w P) (hx : Sl w .u32 va xs) (dx : Dig L32 xs) (lx : xs.length ≤ 10000)
    (hP1 : ∀ g, g < G9 → (dig G9 (val L32 xs)).getD ((dig G9 (val L32 xs)).length - 1) 0 = g → P g) (hP2 : 2 ≤ (dig G9 (val L32 xs)).length → ∀ g, g < G9 → P (G9 + g)) :
    Calls Tryz.prog 39 #[va] w fun e w' => e = .returned (.string ⟨(Lib.decDigits (val L32 xs)).toArray⟩) ∧ Below w.heap.size w w' := by
  have FMT := Lib.hid fmt
  clear fmt
  have HGL : Hid ((dig G9 (val L32 xs)).length ≤ 20000) := Lib.hid (Nat.le_trans (length_dig_le (B := G9) (k := 2 * xs.length) (by decide) (by
    have h1 := val_lt dx
    have h2 : L32 ^ xs.length ≤ G9 ^ (2 * xs.length) := by rw [Nat.pow_mul]; exact Nat.pow_le_pow_left (by decide) _
    omega)) (by omega))
  have DG := decimalGroups_any va xs w hx dx (by omega)
  have DGH := Lib.hid DG
  clear DG
  have dg := Dig_dig (B := G9) (by decide) (val L32 xs)
  have HV := Lib.hid (val_dig (B := G9) (by decide) (val L32 xs))
  have HLast := Lib.hid (@dig_last G9 (val L32 xs) (by decide))
  have HP1 := Lib.hid hP1
  have HP2 := Lib.hid hP2
  clear hP1 hP2 dx
  generalize dig G9 (val L32 xs) = gs at *
  generalize val L32 xs = N at *
  by_cases h0 : gs.length = 0
  · have HN : Hid (N = 0) := Lib.hid (by have := HV.out; rw [List.eq_nil_of_length_eq_zero h0] at this; simpa [val] using this.symm)
    have hz : (((gs.length : Nat) : Int) == 0) = true := by rw [h0]; rfl
    have H0 := Lib.hid h0
    clear h0
    go_enter Tryz.func39, Tryz.ntmps39
    go_wp2_with fail
    refine DGH.out.mono ?_
    rintro e w1 ⟨v1, rfl, hs1, hb1⟩
    obtain ⟨ao, ac, rfl⟩ := sl_shape hs1
    go_wp2_with fail
    go_ret
    exact ⟨by rw [HN.out, Lib.decDigits_one (i := 0) (by decide)]; rfl, hb1⟩
  · have hz : (((gs.length : Nat) : Int) == 0) = false := by rw [beq_eq_false_iff_ne]; omega
    have hp : 1 ≤ gs.length := by omega
    clear h0
    go_enter Tryz.func39, Tryz.ntmps39
    go_wp2_with fail
    refine DGH.out.mono ?_
    rintro e w1 ⟨v1, rfl, hs1, hb1⟩
    have HS1 := Lib.hid hs1
    obtain ⟨ao, ac, rfl, a1, a2, a3, a4⟩ := hs1
    obtain ⟨a, rfl, hca⟩ := a4 (gs.length - 1) (by omega)
    clear a4
    have g1 : 0 ≤ nth gs (gs.length - 1) ∧ nth gs (gs.length - 1) < 1000000000 := by have := dg.getD (by decide) (gs.length - 1); have hG : G9 = 1000000000 := rfl; unfold nth; omega
    have hgl := HGL.out
    have hcal : (w1.alloc (.cells #[.pointer none, .slice none 0 0] 89)).cell? (a.add (gs.length - 1)) = some (.int .u32 (nth gs (gs.length - 1))) := by
      rw [World.cell?_alloc_lt _ _ _ (cell_lt hca)]; exact hca
    have hBld : Bld w1.heap.size w1.heap.size [] (w1.alloc (.cells #[.pointer none, .slice none 0 0] 89)) := Lib.fresh_isBuilder 89 5 w1
    have hbW : Below w1.heap.size w1 (w1.alloc (.cells #[.pointer none, .slice none 0 0] 89)) := (Below.refl _ _).alloc (Nat.le_refl _) _
    have hsW : w1.heap.size < (w1.alloc (.cells #[.pointer none, .slice none 0 0] 89)).heap.size := by simp
    have hg0 := dg.getD (by decide) (gs.length - 1)
    have hlast := HLast.out (by omega)
    have hdrop : val G9 (gs.drop (gs.length - 1)) = gs.getD (gs.length - 1) 0 := by
      rw [val_drop_step (by omega), List.drop_eq_nil_of_le (by omega)]; simp [val]
    have HD0 := Lib.hid hdrop
    have HLA := Lib.hid hlast
    clear hdrop hlast
    go_wp2_with fail
    generalize (w1.alloc (.cells #[.pointer none, .slice none 0 0] 89)) = W2 at *
    have hbW' : Below w.heap.size w W2 := hb1.trans (hbW.mono hb1.size)
    refine (FMT.out W2 (gs.getD (gs.length - 1) 0) _ hbW' rfl (HP1.out _ hg0 rfl)).mono ?_
    rintro e w3 ⟨rfl, hb3⟩
    have hbl3 := hBld.below hb3
    have hs3 := hb3.size
    have hb3w : Below w.heap.size w w3 := hbW'.trans (hb3.mono hbW'.size)
    have hb3B : Below w1.heap.size w1 w3 := hbW.trans (hb3.mono (by omega))
    rw [← HD0.out]
    have hdl := digits_len dg (gs.length - 1) hgl
    have hpos : 0 < val G9 (gs.drop (gs.length - 1)) := by rw [HD0.out]; have := HLA.out; omega
    have HPOS := Lib.hid hpos
    clear hpos
    generalize hL : Lib.decDigits (val G9 (gs.drop (gs.length - 1))) = L at *
    have HL := Lib.hid hL
    clear hL
    generalize hS : (⟨L.toArray⟩ : ByteArray) = sv at *
    have HS := Lib.hid hS
    clear hS
    go_wp2_with fail
    refine (writeString_any w1.heap.size w1.heap.size [] L sv w3 hbl3 HS.out.symm (by simp; omega) (by omega)).mono ?_
    rintro e w4 ⟨v4, rfl, hbl4, hb4⟩
    rw [List.nil_append] at hbl4
    have hb4w : Below w.heap.size w w4 := hb3w.trans (hb4.mono hb1.size)
    have hb4B : Below w1.heap.size w1 w4 := hb3B.trans hb4
    have hs4 := hb4.size
    go_wp2_with fail
    go_loopw [6] (fun i wr => ∃ k : Nat, k ≤ gs.length - 1 ∧ i = .int .i64 ((k : Int) - 1) ∧ Bld w1.heap.size w1.heap.size (Lib.decDigits (val G9 (gs.drop k))) wr ∧ Hid (0 < val G9 (gs.drop k)) ∧ Below w.heap.size w wr ∧ Below w1.heap.size w1 wr ∧ w1.heap.size < wr.heap.size) (fun i _ => (intOf i + 1).toNat)
    case atStart => exact ⟨gs.length - 1, Nat.le_refl _, by congr 1; omega, by rw [HL.out]; exact hbl4, HPOS, hb4w, hb4B, by omega⟩
    case round =>
      clear hbl3 hb3w hb3B hbl4 hb4w hb4B hs4 hs3 hb3 hb4 HPOS HL HS hBld hbW hsW hbW' hcal hdl
      obtain ⟨k, hk, rfl, hbl, HPOS, hb, hbB, hsz⟩ := hrel
      by_cases h0 : 0 < k
      · have hc : wr.cell? (a.add (k - 1)) = some (.int .u32 (nth gs (k - 1))) := by
          have := HS1.out.at (i := k - 1) (by omega)
          rw [hbB.cell (cell_lt this)]; exact this
        have gk := dg.getD (by decide) (k - 1)
        have gk' : 0 ≤ nth gs (k - 1) ∧ nth gs (k - 1) < 1000000000 := by have hG : G9 = 1000000000 := rfl; unfold nth; omega
        have HR := Lib.hid (digits_round dg (k := k - 1) (by omega) (by rw [show k - 1 + 1 = k by omega]; exact HPOS.out))
        have hP := HP2.out (by omega) _ gk
        have hten := decDigits_ten gk
        have hdl := digits_len dg k hgl
        have hex := extract_one (Lib.decDigits (G9 + gs.getD (k - 1) 0))
        have hsize : (⟨(Lib.decDigits (G9 + gs.getD (k - 1) 0)).toArray⟩ : ByteArray).size = 10 := by simpa [ByteArray.size] using hten
        have hdr : ((Lib.decDigits (G9 + gs.getD (k - 1) 0)).drop 1).length = 9 := by rw [List.length_drop, hten]
        have HTEN := Lib.hid hten
        clear hten
        go_wp2_with fail
        refine (FMT.out wr (G9 + gs.getD (k - 1) 0) _ hb (by unfold nth; simp) hP).mono ?_
        rintro e w5 ⟨rfl, hb5⟩
        have hbl5 := hbl.below hb5
        have hs5 := hb5.size
        have hb5w : Below w.heap.size w w5 := hb.trans (hb5.mono hb.size)
        have hb5B : Below w1.heap.size w1 w5 := hbB.trans (hb5.mono (by omega))
        generalize hM : (Lib.decDigits (G9 + gs.getD (k - 1) 0)).drop 1 = M at *
        generalize hS : (⟨(Lib.decDigits (G9 + gs.getD (k - 1) 0)).toArray⟩ : ByteArray) = sv at *
        have HEX := Lib.hid hex
        have hsz1 : 1 ≤ sv.size ∧ sv.size ≤ 10 := by omega
        clear hex hS hM hsize
        go_wp2_with fail
        refine (writeString_any w1.heap.size w1.heap.size _ M _ w5 hbl5 HEX.out (by omega) (by omega)).mono ?_
        rintro e w6 ⟨v6, rfl, hbl6, hb6⟩
        have hs6 := hb6.size
        go_wp2_with fail
        go_roundw
        case rel =>
          refine ⟨k - 1, by omega, by go_num, ?_, Lib.hid HR.out.2, hb5w.trans (hb6.mono hb1.size), hb5B.trans hb6, by omega⟩
          have h := HR.out.1
          rw [show k - 1 + 1 = k by omega] at h
          rw [h]; exact hbl6
        case measure => simp [intOf]; omega
      · have hk0 : k = 0 := by omega
        subst hk0
        have HN : Hid (val G9 (gs.drop 0) = N) := Lib.hid (by rw [List.drop_zero]; exact HV.out)
        go_wp2_with fail
        refine (Tryz.Builder_String_any w1.heap.size w1.heap.size _ wr hbl (by omega)).mono ?_
        rintro e w7 ⟨rfl, hb7⟩
        rw [HN.out]
        go_wp2_with fail
        go_ret
        exact ⟨rfl, hb.trans (hb7.mono hb1.size)⟩
end Go.Proofs.YtocadojeanhalaaGreatDoor

/- Small numbers' texts. -/
namespace Go.Proofs.YtocadojeanhalaaGreatDoor
open Go.RowKit
set_option maxRecDepth 100000

theorem fmt_below100 (w0 : World) : FmtAt w0 (fun i => i < 100) := fun w i z _ hz hi =>
  (fmt_small i z hz hi w).mono fun _ _ ⟨he, hw⟩ => ⟨he, by rw [← hw]; exact Below.refl _ _⟩

theorem dig_one {B n : Nat} (hB : 2 ≤ B) (h0 : 0 < n) (h : n < B) : dig B n = [n] := by
  rw [dig_pos hB h0, Nat.mod_eq_of_lt h, Nat.div_eq_of_lt h, dig_zero]

set_option maxHeartbeats 1000000 in
theorem text_small (va : Value) (n : Nat) (w : World) (h0 : 0 < n) (h : n < 10) (hx : Sl w .u32 va (dig L32 n)) :
    Calls Tryz.prog 39 #[va] w fun e w' => e = .returned (.string ⟨[UInt8.ofNat (48 + n)].toArray⟩) ∧ Below w.heap.size w w' := by
  have hv : val L32 (dig L32 n) = n := val_dig (by decide) n
  have e9 : dig G9 n = [n] := dig_one (by decide) h0 (by have hG : G9 = 1000000000 := rfl; omega)
  have e32 : (dig L32 n).length = 1 := by rw [dig_one (by decide) h0 (by have hG : L32 = 4294967296 := rfl; omega)]; rfl
  refine (text_gen (fun i => i < 100) va (dig L32 n) w (fmt_below100 w) hx (Dig_dig (by decide) _) (by omega) ?_ ?_).mono ?_
  · intro g _ hg
    rw [hv, e9] at hg
    have : g = n := by simpa using hg.symm
    omega
  · intro h2
    rw [hv, e9] at h2
    simp at h2
  · intro e w' ⟨he, hb⟩
    rw [hv, Lib.decDigits_one h] at he
    exact ⟨he, hb⟩

end Go.Proofs.YtocadojeanhalaaGreatDoor
