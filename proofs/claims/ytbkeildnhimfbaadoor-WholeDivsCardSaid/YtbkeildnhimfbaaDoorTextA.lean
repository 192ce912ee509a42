/-
  Contracts: a Builder's copyCheck and WriteString; FormatUint of a small number; decimalGroups.
-/
import Derived.Test.YtbkeildnhimfbaaDoorDivA
import Derived.Test.YtbkeildnhimfbaaDoorShelf
import Derived.Lib.Builder
import Derived.Lib.AppendStr
namespace Go.Proofs.YtbkeildnhimfbaaDoor
open Go.RowKit
set_option maxRecDepth 100000

theorem infoByte : (Tryd.prog.info? 5).map (fun i => (i.zero, i.size, i.bytes)) = some (some (.int .u8 0), 1, 1) := by kernel_rfl
theorem infoBld : (Tryd.prog.info? 94).map (·.size) = some 2 := by kernel_rfl
theorem liesBld : liesAt Tryd.prog Tryd.prog.depth 94 (2 / Tryd.prog.cellsOf 94) 0 94 1 = true := by kernel_rfl

set_option maxHeartbeats 1000000 in
set_option maxRecDepth 100000 in
theorem copyCheck_used (b : Nat) (w : World) (h0 : w.cell? ⟨b, 0, none⟩ = some (.pointer (some ⟨b, 0, none⟩))) :
    Calls Tryd.prog 90 #[.pointer (some ⟨b, 0, none⟩)] w fun e w' => e = .returned (.tuple #[]) ∧ w = w' := by
  obtain ⟨j, hj, _⟩ := Option.map_eq_some_iff.1 infoBld
  have hne := Lib.run_neq_ptr_same (P := Tryd.prog) w ⟨b, 0, none⟩ Tryd.underlying91 hj
  go_enter Tryd.func90, Tryd.ntmps90
  go_wp2
  go_end0
  exact ⟨rfl, rfl⟩

set_option maxHeartbeats 1000000 in
set_option maxRecDepth 100000 in
theorem copyCheck_fresh (b : Nat) (w : World) (h0 : w.cell? ⟨b, 0, none⟩ = some (.pointer none)) (hsh : w.shape? b = some (94, 2)) (hfz : w.frozen? ⟨b, 0, none⟩ = false) :
    Calls Tryd.prog 90 #[.pointer (some ⟨b, 0, none⟩)] w fun e w' => e = .returned (.tuple #[]) ∧ w.setCell ⟨b, 0, none⟩ (.pointer (some ⟨b, 0, none⟩)) = w' := by
  obtain ⟨j, hj, hjs⟩ := Option.map_eq_some_iff.1 infoBld
  have h1 := Lib.run_to_unsafe (P := Tryd.prog) w ⟨b, 0, none⟩ Tryd.underlying91 Tryd.underlying121 hj (by rw [hjs]; decide) hsh (Nat.zero_lt_succ 1)
  have h2 := run_callFunc_extern (P := Tryd.prog) (w := w) (args := #[.pointer (some ⟨b, 0, none⟩)]) Tryd.func99 (by kernel_rfl) (by kernel_rfl) (by kernel_rfl) (e := Extern.AbiNoEscape.same) (by kernel_rfl)
  have h3 := Lib.run_noEscape (P := Tryd.prog) w (.pointer (some ⟨b, 0, none⟩))
  have h4 := Lib.run_from_unsafe (P := Tryd.prog) w ⟨b, 0, none⟩ Tryd.underlying121 Tryd.underlying91 hj hsh liesBld
  go_enter Tryd.func90, Tryd.ntmps90
  go_wp2
  go_end0
  exact ⟨rfl, rfl⟩

/-- The Builder in block b (made by the call: from B on) holds these bytes. -/
def Bld (B b : Nat) (l : List UInt8) (w : World) : Prop := Lib.IsBuilder 94 5 B b (Lib.byteCells l) w

theorem Bld.at {B b : Nat} {l : List UInt8} {w : World} (h : Bld B b l w) : ∃ p v, w.heap[b]? = some (.cells #[p, v] 94 (0, 0)) ∧ w.ownsRow B 5 1 v l.length (Lib.byteCells l) ∧ v.ownBlock ≠ some b ∧ B ≤ b ∧ (p = .pointer none ∨ p = .pointer (some ⟨b, 0, none⟩)) := by
  rcases h with ⟨hB, v, h1, h2, h3⟩ | ⟨hB, v, h1, h2, h3⟩
  · exact ⟨_, v, h1, by simpa [Lib.byteCells_length] using h2, h3, hB, .inl rfl⟩
  · exact ⟨_, v, h1, by simpa [Lib.byteCells_length] using h2, h3, hB, .inr rfl⟩

theorem Bld.below {B b : Nat} {l : List UInt8} {w w' : World} (h : Bld B b l w) (hb : Below w.heap.size w w') : Bld B b l w' := by
  have go : ∀ p, Lib.BuilderAt 94 5 B b p (Lib.byteCells l) w → Lib.BuilderAt 94 5 B b p (Lib.byteCells l) w' := by
    intro p ⟨hB, v, h1, h2, h3⟩
    have hlt := lt_of_block h1
    exact ⟨hB, v, by rw [hb.block b hlt]; exact h1, World.ownsRow.kept h2 ⟨hb.os, hb.tape, hb.output, hb.size, fun j hj _ => hb.block j hj⟩ (by cases hv : v.ownBlock with | none => exact .inl rfl | some g => exact .inr (show some g ≠ none by simp)), h3⟩
  rcases h with h | h
  · exact .inl (go _ h)
  · exact .inr (go _ h)

theorem strCells_bytes (l m : List UInt8) : Lib.byteCells l ++ Lib.strCells ⟨m.toArray⟩ = Lib.byteCells (l ++ m) := by
  simp [Lib.byteCells, Lib.strCells]

set_option maxHeartbeats 1000000 in
set_option maxRecDepth 100000 in
theorem writeString_any (B b : Nat) (l m : List UInt8) (sv : ByteArray) (w : World) (h : Bld B b l w) (hs : sv = ⟨m.toArray⟩) (hlen : l.length + m.length ≤ 1000000) (hBw : B ≤ w.heap.size) :
    Calls Tryd.prog 74 #[.pointer (some ⟨b, 0, none⟩), .string sv] w fun e w' => ∃ v, e = .returned v ∧ Bld B b (l ++ m) w' ∧ Below B w w' := by
  obtain ⟨i0, hi, hz0, hz1, hz2⟩ := info_parts infoByte
  have hsz : sv.size = m.length := by subst hs; rfl
  obtain ⟨p, v, hbk, hown, hne, hBb, hp⟩ := h.at
  have hlt := lt_of_block hbk
  -- behind copyCheck
  have rest : ∀ w1 : World, w1.heap[b]? = some (.cells #[.pointer (some ⟨b, 0, none⟩), v] 94 (0, 0)) → w1.ownsRow B 5 1 v l.length (Lib.byteCells l) → Below B w w1 → True := fun _ _ _ _ => trivial
  clear rest
  have HS := Lib.hid hs
  have HSZ := Lib.hid hsz
  clear hs
  have hsz2 : sv.size ≤ m.length := by omega
  clear hsz
  have cc : Calls Tryd.prog 90 #[.pointer (some ⟨b, 0, none⟩)] w fun e w1 => e = .returned (.tuple #[]) ∧ w1.heap[b]? = some (.cells #[.pointer (some ⟨b, 0, none⟩), v] 94 (0, 0)) ∧ w1.ownsRow B 5 1 v l.length (Lib.byteCells l) ∧ Below B w w1 := by
    rcases hp with rfl | rfl
    · refine (copyCheck_fresh b w (by rw [cell_of_row w b 0 _ 94 (0, 0) hbk]; rfl) (by simp [World.shape?, hbk]) (frozen_of_row w b 0 _ 94 hbk)).mono ?_
      rintro e w1 ⟨rfl, rfl⟩
      refine ⟨rfl, ?_, ?_, (Below.refl _ _).setCell hBb _⟩
      · rw [heap_setCell_same w b 0 _ 94 _ hbk]; rfl
      · exact ownsRow_setCell_other hown (by simpa using hne) _
    · refine (copyCheck_used b w (by rw [cell_of_row w b 0 _ 94 (0, 0) hbk]; rfl)).mono ?_
      rintro e w1 ⟨rfl, rfl⟩
      exact ⟨rfl, hbk, hown, Below.refl _ _⟩
  have CC := Lib.hid cc
  clear cc hbk hown hp
  go_enter Tryd.func74, Tryd.ntmps74
  go_wp2_with fail
  refine CC.out.mono ?_
  rintro e w1 ⟨rfl, hbk1, hown1, hb1⟩
  have c0 : w1.cell? ⟨b, 0, none⟩ = some (.pointer (some ⟨b, 0, none⟩)) := by rw [cell_of_row w1 b 0 _ 94 (0, 0) hbk1]; rfl
  have c1 : w1.cell? ⟨b, 1, none⟩ = some v := by rw [cell_of_row w1 b 1 _ 94 (0, 0) hbk1]; rfl
  have HK := Lib.hid hbk1
  clear hbk1
  have hsz1 := hb1.size
  go_wp2_with (at_builtin; refine Lib.wpList_append_own_string _ rfl (.tmp 12) (.tmp 13) 92 9 rfl B 5 i0 Tryd.underlying92 Tryd.underlying9 hi hz0 hz1 hz2 _ _ _ rfl hown1 sv rfl ?c3 ?c4 ?c5 ?_)
  case c3 => unfold maxLen; omega
  case c4 => omega
  case c5 => omega
  intro v' w2 hown' hgrow _
  have hlt1 : b < w1.heap.size := lt_of_block HK.out
  have hb2 : w2.heap[b]? = some (.cells #[.pointer (some ⟨b, 0, none⟩), v] 94 (0, 0)) := by
    rw [hgrow.block b hlt1 (fun e => hne e.symm)]
    exact HK.out
  have d0 : w2.cell? ⟨b, 0, none⟩ = some (.pointer (some ⟨b, 0, none⟩)) := by rw [cell_of_row w2 b 0 _ 94 (0, 0) hb2]; rfl
  have d1 : w2.cell? ⟨b, 1, none⟩ = some v := by rw [cell_of_row w2 b 1 _ 94 (0, 0) hb2]; rfl
  have f1 : w2.frozen? ⟨b, 1, none⟩ = false := frozen_of_row w2 b 1 _ 94 hb2
  obtain ⟨ao, n', cap, rfl⟩ : ∃ ao n' cap, v' = .slice ao n' cap := by
    rcases hown'.2 with ⟨hv, _⟩ | ⟨g, cap, cur, hv, _⟩
    · exact ⟨_, _, _, hv⟩
    · exact ⟨_, _, _, hv⟩
  have HB2 := Lib.hid hb2
  clear hb2
  go_wp2
  go_ret2
  refine ⟨_, rfl, ?_, ?_⟩
  · refine .inr ?_
    rw [← strCells_bytes, ← HS.out]
    refine Lib.BuilderAt.put (T := 94) (e := 5) hBb HB2.out (bs' := Lib.byteCells l ++ Lib.strCells sv) ?_ (by decide)
    rw [List.length_append, Lib.byteCells_length, Lib.strCells_length]
    exact hown'
  · exact (hb1.grown hgrow (by omega) (fun k hk => (hown1.lt k hk).1)).setCell (p := ⟨b, 1, none⟩) hBb _

set_option maxHeartbeats 1000000 in
theorem fmt_small (i : Nat) (z : Int) (hz : z = (i : Int)) (h : i < 100) (w : World) :
    Calls Tryd.prog 75 #[.int .u64 z, .int .i64 10] w fun e w' => e = .returned (.string ⟨(Lib.decDigits i).toArray⟩) ∧ w = w' := by
  subst hz
  have inner : Calls Tryd.prog 91 #[.int .u64 i, .int .i64 10] w fun e w' => e = .returned (.string ⟨(Lib.decDigits i).toArray⟩) ∧ w = w' := by
    go_enter Tryd.func91, Tryd.ntmps91
    go_wp2_with fail
    refine (Tryd.internal_strconv_small i h _).mono ?_; rintro e w' ⟨rfl, rfl⟩
    go_wp2_with fail
    go_ret
    exact ⟨rfl, rfl⟩
  have IN := Lib.hid inner
  clear inner
  go_enter Tryd.func75, Tryd.ntmps75
  go_wp2_with fail
  refine IN.out.mono ?_; rintro e w' ⟨rfl, rfl⟩
  go_wp2_with fail
  go_ret
  exact ⟨rfl, rfl⟩

/-- A billion, behind a name. -/
abbrev G9 : Nat := 1000000000

theorem dig_dig_step {B n : Nat} (hB : 2 ≤ B) (h : 0 < n) : dig B n = n % B :: dig B (n / B) := dig_pos hB h

theorem Ow.len {w : World} {base : Nat} {k : IntKind} {T : TypeId} {v : Value} {xs : List Nat} (h : Ow w base k T v xs) : lenOfV v = xs.length := by
  obtain ⟨ao, cap, rfl⟩ := sl_shape h.sl; rfl
theorem Ow.grown {w w' : World} {base : Nat} {k : IntKind} {T : TypeId} {v : Value} {xs : List Nat} (h : Ow w base k T v xs) {g : Nat} (hg : w.grownBy w' (some g)) (hb : g < base) : Ow w' base k T v xs :=
  World.ownsRow.kept h hg (by
    cases hv : v.ownBlock with
    | none => exact .inl rfl
    | some j => exact .inr (fun e => by injection e with e; have := h.base_le j hv; omega))

/-- What 'trimmed' leaves of a writable part: a shorter one. -/
theorem ws_trimmed {w : World} {T : TypeId} {ao : Option Addr} {n cap g : Nat} {pre s post : List Nat} (h : Ws w .u32 T (.slice ao n cap) g pre s post) (hd : Dig L32 s) :
    ∃ post', Ws w .u32 T (trimmedOf ao cap s) g pre (dig L32 (val L32 s)) post' := by
  have e := take_nz (B := L32) (by decide) hd
  obtain ⟨ao', cap', e1, h1, h2, h3, h4⟩ := h
  injection e1 with e1 e2 e3
  subst e1; subst e3
  have hl := nz_le s
  have hlen : (s.take (nz s)).length = nz s := by rw [List.length_take]; omega
  refine ⟨s.drop (nz s) ++ post, ?_⟩
  rw [← e]
  unfold trimmedOf
  by_cases h0 : nz s = 0
  · rw [if_pos h0, h0]
    exact ⟨none, 0, rfl, by simp, by omega, fun _ => rfl, fun h => by simp at h⟩
  · rw [if_neg h0]
    refine ⟨ao, cap, by rw [hlen], by rw [hlen]; omega, h2, h3, fun _ => ?_⟩
    obtain ⟨a1, a2⟩ := h4 (by omega)
    refine ⟨a1, ?_⟩
    have : pre ++ s.take (nz s) ++ (s.drop (nz s) ++ post) = pre ++ s ++ post := by
      rw [← List.append_assoc, List.append_assoc pre, List.take_append_drop]
    rw [this]; exact a2
theorem trimmed_ws (v : Value) (g : Nat) (pre s post : List Nat) (w : World) (h : Ws w .u32 72 v g pre s post) (hd : Dig L32 s) :
    Calls Tryd.prog 63 #[v] w fun e w' => ∃ v' post', e = .returned v' ∧ Ws w .u32 72 v' g pre (dig L32 (val L32 s)) post' ∧ w = w' := by
  obtain ⟨ao, cap, rfl⟩ := h.at
  refine (trimmed_any _ _ _ s _ h.sl).mono fun e w' ⟨he, hw⟩ => ?_
  obtain ⟨post', h'⟩ := ws_trimmed h hd
  exact ⟨_, post', he, h', hw⟩
theorem Ws.len {w : World} {k : IntKind} {T : TypeId} {v : Value} {g : Nat} {pre s post : List Nat} (h : Ws w k T v g pre s post) : lenOfV v = s.length := by
  obtain ⟨ao, cap, rfl⟩ := h.at; rfl
theorem Ws.kept {w w' : World} {B : Nat} {k : IntKind} {T : TypeId} {v : Value} {g : Nat} {pre s post : List Nat} (h : Ws w k T v g pre s post) (hb : Below B w w') (hg : s.length ≠ 0 → g < B) : Ws w' k T v g pre s post := by
  obtain ⟨ao, cap, rfl, h1, h2, h3, h4⟩ := h
  exact ⟨ao, cap, rfl, h1, h2, h3, fun i => ⟨(h4 i).1, (h4 i).2.below hb (hg i)⟩⟩
theorem Ws.in_heap {w : World} {k : IntKind} {T : TypeId} {v : Value} {g : Nat} {pre s post : List Nat} (h : Ws w k T v g pre s post) (h0 : s.length ≠ 0) : g < w.heap.size := by
  obtain ⟨ao, cap, rfl, h1, h2, h3, h4⟩ := h
  exact (h4 h0).2.lt

/-- The two lists of groups, before and behind a round. -/
theorem groups_step {gs : List Nat} {ρ N : Nat} (h0 : 0 < ρ) (h : gs ++ dig G9 ρ = dig G9 N) : (gs ++ [ρ % G9]) ++ dig G9 (ρ / G9) = dig G9 N := by
  rw [← h, dig_pos (B := G9) (by decide) h0, List.append_assoc]; rfl

set_option maxHeartbeats 1000000 in
theorem decimalGroups_any (va : Value) (xs : List Nat) (w : World) (hx : Sl w .u32 va xs) (dx : Dig L32 xs) (lx : xs.length ≤ 100000) :
    Calls Tryd.prog 73 #[va] w fun e w' => ∃ v, e = .returned v ∧ Sl w' .u32 v (dig G9 (val L32 xs)) ∧ Below w.heap.size w w' := by
  obtain ⟨i0, hi, hz0, hz1, hz2⟩ := info_parts info51
  obtain ⟨ao, ac, rfl⟩ := sl_shape hx
  go_enter Tryd.func73, Tryd.ntmps73
  go_wp2_with fail
  refine (trim_any _ xs w hx dx (by omega)).mono ?_
  rintro e w1 ⟨v1, rfl, hs1, hb1⟩
  have hsz1 := hb1.size
  have Hg : Hid ((dig L32 (val L32 xs)).length ≠ 0 → w.heap.size < w1.heap.size) := Lib.hid (fun h => hs1.in_heap h)
  have HK : Hid ((dig G9 (val L32 xs)).length ≤ 1000000) := Lib.hid (Nat.le_trans (length_dig_le (B := G9) (k := 2 * xs.length) (by decide) (by
    have h1 := val_lt dx
    have h2 : L32 ^ xs.length ≤ G9 ^ (2 * xs.length) := by rw [Nat.pow_mul]; exact Nat.pow_le_pow_left (by decide) _
    omega)) (by omega))
  generalize hN : val L32 xs = N at *
  have HN := Lib.hid hN
  clear hN
  go_wp2_with fail
  go_loopw [3, 4] (fun gv rv wr => ∃ (ρ : Nat) (gs post : List Nat), Ow wr w1.heap.size .u32 72 gv gs ∧ Ws wr .u32 72 rv w.heap.size [] (dig L32 ρ) post ∧ Hid (gs ++ dig G9 ρ = dig G9 N) ∧ Dig L32 gs ∧ Below w.heap.size w wr ∧ w1.heap.size ≤ wr.heap.size ∧ Hid ((dig L32 ρ).length ≠ 0 → w.heap.size < w1.heap.size)) (fun gv _ _ => (dig G9 N).length - lenOfV gv)
  case atStart => exact ⟨N, [], [], Ow.nil _ _ _ _, hs1, Lib.hid rfl, Dig.nil _, hb1, Nat.le_refl _, Hg⟩
  case round =>
    clear hs1 hb1 Hg
    obtain ⟨ρ, gs, post, how, hws, HG, hdg, hb, hsz, Hg⟩ := hrel
    have hlen := Lib.hid hws.len
    obtain ⟨ro, rc, rfl⟩ := hws.at
    by_cases h0 : 0 < ρ
    · have hpos : 0 < (dig L32 ρ).length := by rw [dig_pos (by decide) h0]; simp
      have hgl := Hg.out (by omega)
      have HG' := Lib.hid (groups_step h0 HG.out)
      have hgsl : gs.length < (dig G9 N).length := by
        have := congrArg List.length HG.out
        rw [List.length_append, dig_pos (B := G9) (by decide) h0] at this
        simp at this; omega
      have hk := HK.out
      have hmod : ρ % G9 < 1000000000 := Nat.mod_lt _ (by decide)
      have HL := Lib.hid how.len
      go_wp2_with fail
      refine (divLimb_any w.heap.size [] _ post _ G9 _ wr hws (Dig_dig (by decide) _) rfl (by decide) (by decide)).mono ?_
      rintro e w3 ⟨s', rfl, hs3, hg3, hl3, hd3, hv3⟩
      rw [val_dig (by decide)] at hv3 ⊢
      have how3 := how.grown hg3 hgl
      have hb3 : Below w.heap.size w w3 := hb.trans (below_of_grown' hg3 (Nat.le_refl _) hb.size)
      have hsz3 := hg3.size
      have HV3 := Lib.hid hv3
      have HL3 := Lib.hid hl3
      clear hv3 hl3
      obtain ⟨m, hm⟩ : ∃ m, m = ρ % G9 := ⟨_, rfl⟩
      rw [← hm]
      rw [← hm] at HG' hmod
      clear hm
      go_wp2_with (at_builtin; refine wpList_append_one _ rfl (.tmp 12) (.tmp 15) 22 rfl 72 i0 .u32 Tryd.underlying22 hi hz0 hz1 ?c1 w1.heap.size _ gs rfl (how3.alloc _) w3.heap.size (m : Int) m rfl ?c2 rfl ?c3 ?c4 ?_)
      case c1 => omega
      case c2 => simp
      case c3 => omega
      case c4 => simp; omega
      intro v' w4 how4 hb4
      have hb4' : Below w1.heap.size w3 w4 := ((Below.refl _ _).alloc (by omega) _).trans hb4
      have hs4 := hs3.kept hb4' (fun _ => hgl)
      go_wp2_with fail
      refine (trimmed_ws _ _ _ s' _ w4 hs4 hd3).mono ?_
      rintro e w5 ⟨v5, post5, rfl, hs5, rfl⟩
      rw [HV3.out] at hs5
      go_wp2_with fail
      go_roundw
      case rel => exact ⟨ρ / G9, gs ++ [m], post5, how4, hs5, HG', hdg.append (by intro x hx; obtain rfl := List.mem_singleton.1 hx; exact Nat.lt_trans hmod (by decide)), hb3.trans (hb4'.mono (by omega)), Nat.le_trans (by omega) hb4'.size, Lib.hid (fun _ => hgl)⟩
      case measure =>
        have e1 := HL.out
        have e2 := how4.len
        rw [List.length_append] at e2
        simp at e2
        simp; omega
    · have hr : ρ = 0 := by omega
      subst hr
      have HE : Hid (gs = dig G9 N) := Lib.hid (by have := HG.out; rwa [dig_zero, List.append_nil] at this)
      have hl0 : (dig L32 0).length = 0 := by rw [dig_zero]; rfl
      have HL0 := Lib.hid hl0
      have hl1 : (dig L32 0).length ≤ 0 := by omega
      clear hl0
      go_wp2_with fail
      go_ret
      exact ⟨_, rfl, by rw [HN.out, ← HE.out]; exact how.sl, hb⟩
end Go.Proofs.YtbkeildnhimfbaaDoor
