/-
  A law for 'append(out, src...)'; the contract of the reference package's Div.
-/
import Derived.Test.YtbkeildnhimfbaaDoorRefD
import Derived.Test.YtbkeildnhimfbaaDoorBitsN
namespace Go.Proofs.YtbkeildnhimfbaaDoor
open Go.RowKit
set_option maxRecDepth 100000

/-- 'append(out, src...)' of numbers, out owned by the call, src whatever. -/
theorem wpList_append_sl {P : Program} (w : World) {ops : Array Oper} {rest : List Oper} {o : Oper} {a : Act} {Q : Exit → Act → World → Prop} (hgd : o.guard = none) (s x : Operand) (t : TypeId)
    (ho : o.op = .call { callee := .builtin .append, args := #[s, x], argTypes := #[t, t] })
    (e : TypeId) (i : TypeInfo) (k : IntKind) (ht : P.underlying t = some (.slice e)) (hi : P.info? e = some i) (hz : i.zero = some (.int k 0)) (hsize : i.size = 1) (hby : i.bytes ≤ 8)
    (base : Nat) (v : Value) (xs : List Nat) (hs : a.eval s = v) (hown : Ow w base k e v xs)
    (sv : Value) (ys : List Nat) (hx : a.eval x = sv) (hsl : Sl w k sv ys)
    (hlen : xs.length + ys.length ≤ 1000000000) (hbase : base ≤ w.heap.size)
    (hK : ∀ v' w', Ow w' base k e v' (xs ++ ys) → Below base w w' → wpList P ops Q rest (a.put o.dst v') w') : wpList P ops Q (o :: rest) a w := by
  have hb2 : (xs.length + ys.length) * i.bytes ≤ 140737488355328 := Nat.le_trans (Nat.mul_le_mul hlen hby) (by omega)
  have fin : ∀ v' w', w'.ownsRow base e 1 v' (xs.length + ys.length) (xs.map (fun (x : Nat) => Value.int k ((x : Nat) : Int)) ++ ys.map (fun (x : Nat) => Value.int k ((x : Nat) : Int))) → w.grownBy w' v.ownBlock → wpList P ops Q rest (a.put o.dst v') w' := by
    intro v' w' h1 h2
    refine hK v' w' ?_ ⟨h2.os, h2.tape, h2.output, h2.size, fun j hj => h2.block j (by omega) (fun e' => ?_)⟩
    · unfold Ow
      rw [List.map_append, List.length_append]
      exact h1
    · have := hown.base_le j e'.symm
      omega
  have hsl' := hsl
  obtain ⟨so, sc, rfl, c1, c2, c3, c4⟩ := hsl
  cases so with
  | none =>
    have h0 : ys = [] := by
      have := c3 rfl
      exact List.eq_nil_of_length_eq_zero (by omega)
    have hc0 : sc = 0 := c3 rfl
    subst h0
    subst hc0
    refine wpList_append_own_none hgd s x t ho base e i 1 ht hi v xs.length _ hs hown hx ?_
    have h1 := hK v w (by rw [List.append_nil]; exact hown) (Below.refl _ _)
    exact h1
  | some ad =>
    refine wpList_append_own w hgd s x t ho base e i (.int k 0) 1 i.bytes ht hi hz hsize rfl rfl (by decide) v xs.length _ hs hown ad ys.length sc (ys.map fun (x : Nat) => Value.int k ((x : Nat) : Int)) hx (by simp) ?_ (ints_one k ys) (by unfold maxLen; omega) hb2 hbase ?_
    · intro j u hj
      have hjl : j < ys.length := by
        have := (List.getElem?_eq_some_iff.1 hj).1
        simpa using this
      rw [hsl'.at hjl, ← hj]
      simp [hjl, nth_eq hjl]
    · intro v' w' h1 h2 _
      exact fin v' w' h1 h2

theorem rdiv_step {xs Q : List Nat} {k R n b : Nat} (hk : k < xs.length) (hkq : k < Q.length) (hv : val 2 (Q.drop (k + 1)) * n + R = val 2 (xs.drop (k + 1))) (hR : b * n ≤ xs.getD k 0 + 2 * R) :
    val 2 ((Q.set k b).drop k) * n + (xs.getD k 0 + 2 * R - b * n) = val 2 (xs.drop k) := by
  rw [val_drop_step hk, ← hv, List.drop_eq_getElem_cons (by simpa using hkq), List.drop_set_of_lt (by omega)]
  simp only [val, List.getElem_set_self]
  generalize val 2 (Q.drop (k + 1)) = q at *
  rw [Nat.add_mul, Nat.mul_add]
  have e : 2 * q * n = 2 * (q * n) := Nat.mul_assoc _ _ _
  rw [e]
  generalize q * n = m at *
  generalize b * n = l at *
  omega

theorem set_same {Q : List Nat} {i v : Nat} (h : Q.getD i 0 = v) (hi : i < Q.length) : Q.set i v = Q := by
  have e : Q.getD i 0 = Q[i] := by simp [List.getD, hi]
  rw [← h, e, List.set_getElem_self]
theorem bl_double {x R : Nat} (hx : x < 2) : bl (x + 2 * R) ≤ bl R + 1 := by
  by_cases h : 0 < x + 2 * R
  · rw [bl_half h, show (x + 2 * R) / 2 = R by omega]; omega
  · rw [show x + 2 * R = 0 by omega, bl_zero]; omega
theorem zeros_step {Q : List Nat} {k v : Nat} (h : ∀ j, j < k → Q.getD j 0 = 0) : ∀ j, j < k - 1 → (Q.set (k - 1) v).getD j 0 = 0 := by
  intro j hj
  rw [getD_set, if_neg (by omega)]; exact h j (by omega)

theorem dig_two_append (a R : Nat) : val 2 (a :: dig 2 R) = a + 2 * R := by simp only [val, val_dig (B := 2) (by decide)]

set_option maxHeartbeats 2000000 in
set_option maxRecDepth 100000 in
theorem rdiv_any (va vb : Value) (xs : List Nat) (n : Nat) (w : World) (hx : Sl w .i64 va xs) (hy : Sl w .i64 vb (dig 2 n)) (dx : Dig 2 xs) (hn : 0 < n) (lx : xs.length ≤ 100000) (hln : bl n ≤ 100000) :
    Calls Tryd.prog 84 #[va, vb] w fun e w' => ∃ q r, e = .returned (.tuple #[q, r]) ∧ Sl w' .i64 q (dig 2 (val 2 xs / n)) ∧ Sl w' .i64 r (dig 2 (val 2 xs % n)) ∧ Below w.heap.size w w' := by
  obtain ⟨i0, hi, hz0, hz1, hz2⟩ := info_parts infoInt
  have HX := Lib.hid hx
  obtain ⟨ao, ac, rfl, a1, a2, a3, a4⟩ := hx
  have HLN := Lib.hid hln
  clear hln
  go_enter Tryd.func84, Tryd.ntmps84
  go_wp2_with (at_make; refine wpList_make_blk _ rfl _ _ 28 rfl 3 i0 .i64 Tryd.underlying28 hi hz0 hz1 _ _ _ _ xs.length rfl rfl (by omega) (by omega) (by omega) (by omega) ?_; intro w1 hB1 hb1 hs1)
  go_loopw [7, 8] (fun rv si wr => ∃ (k : Nat) (Q : List Nat) (R : Nat), si = .int .i64 ((k : Int) - 1) ∧ k ≤ xs.length ∧ Blk wr w.heap.size .i64 3 Q ∧ w.heap.size < wr.heap.size ∧ Below w.heap.size w wr ∧ Sl wr .i64 rv (dig 2 R) ∧ Apart w.heap.size rv ∧ R < n ∧ Dig 2 Q ∧ Hid (Q.length = xs.length) ∧ Hid (∀ j, j < k → Q.getD j 0 = 0) ∧ Hid (val 2 (Q.drop k) * n + R = val 2 (xs.drop k))) (fun _ si _ => (intOf si + 1).toNat)
  case atStart => exact ⟨xs.length, _, 0, rfl, Nat.le_refl _, hB1, hs1, hb1, (by rw [dig_zero]; exact Sl.nil _ _), (fun a n c e _ => by cases e), hn, Dig.replicate (by decide) _, Lib.hid (by simp), Lib.hid (fun j hj => by simp [List.getD, hj]), Lib.hid (by rw [List.drop_eq_nil_of_le (by simp), List.drop_eq_nil_of_le (by simp)]; simp [val])⟩
  case round =>
    clear hB1 hb1 hs1
    obtain ⟨k, Q, R, rfl, hk, hB, hsz, hb, hrs, hrap, hRn, hdQ, HL, HZ, HV⟩ := hrel
    by_cases h0 : 0 < k
    · obtain ⟨a, rfl, hca⟩ := a4 (k - 1) (by omega)
      clear a4
      have hca' : wr.cell? (a.add (k - 1)) = some (.int .i64 (nth xs (k - 1))) := by rw [hb.cell (cell_lt hca)]; exact hca
      have x0 := dx.getD (by decide) (k - 1)
      have x1 := bit_wf dx (k - 1)
      have hRl : (dig 2 R).length ≤ 100000 := by
        have := HLN.out
        have h2 : bl R ≤ bl n := by
          rcases Nat.lt_or_ge (bl n) (bl R) with h | h
          · have := bl_lt h; omega
          · exact h
        unfold bl at h2 this; omega
      obtain ⟨x, hxe⟩ : ∃ x, x = xs.getD (k - 1) 0 := ⟨_, rfl⟩
      have hnx : nth xs (k - 1) = (x : Int) := by rw [hxe]; rfl
      rw [hnx] at hca' x1
      rw [← hxe] at x0
      -- the new block of the one digit
      have hone : Blk (wr.alloc (.cells #[.int .i64 (x : Int)] 3)) wr.heap.size .i64 3 [x] := by
        unfold Blk; rw [heap_alloc_new]; rfl
      have hown : Ow (wr.alloc (.cells #[.int .i64 (x : Int)] 3)) wr.heap.size .i64 3 (.slice (some ⟨wr.heap.size, 0, none⟩) 1 1) [x] :=
        ⟨rfl, .inr ⟨wr.heap.size, 1, #[.int .i64 (x : Int)], rfl, Nat.le_refl _, by rw [heap_alloc_new], Nat.le_refl _, by decide, rfl, rfl⟩⟩
      have hrs' := hrs.below ((Below.refl _ _).alloc (Nat.le_refl _) (.cells #[.int .i64 (x : Int)] 3))
      have HXE := Lib.hid hxe
      have HC := Lib.hid hca
      clear hxe hnx hone hca
      go_wp2_with (at_builtin; refine wpList_append_sl _ rfl (.tmp 23) (.tmp 24) 28 rfl 3 i0 .i64 Tryd.underlying28 hi hz0 hz1 ?c1 wr.heap.size _ [x] rfl hown _ (dig 2 R) rfl hrs' ?c2 ?c3 ?_)
      case c1 => omega
      case c2 => simp; omega
      case c3 => simp
      intro v' w2 how2 hb2
      have how2 : Ow w2 wr.heap.size .i64 3 v' (x :: dig 2 R) := how2
      have hb2' : Below wr.heap.size wr w2 := ((Below.refl _ _).alloc (Nat.le_refl _) _).trans hb2
      have hd2 : Dig 2 (x :: dig 2 R) := (by intro t ht; obtain rfl := List.mem_singleton.1 ht; exact x0 : Dig 2 [x]).append (Dig_dig (by decide) _)
      have hsl2 := how2.sl
      have hsz2 := hb2'.size
      go_wp2_with fail
      refine (cut_ap _ _ _ hsl2 hd2).mono ?_
      rintro e w3 ⟨v3, rfl, hs3, rfl, hap3⟩
      rw [show val 2 (x :: dig 2 R) = x + 2 * R from dig_two_append x R] at hs3
      have HAP3 : Hid (Apart w.heap.size v3) := Lib.hid (hap3 _ (how2.apart hsz))
      clear hap3
      have hbw : Below w.heap.size w w2 := hb.trans (hb2'.mono hb.size)
      go_wp2_with fail
      refine (rcmp_any _ _ (x + 2 * R) n _ hs3 (hy.below hbw)).mono ?_
      rintro e w4 ⟨rfl, hb4⟩
      have hsz4 := hb4.size
      have hb4w : Below w.heap.size w w4 := hbw.trans (hb4.mono hbw.size)
      have hB4 : Blk w4 w.heap.size .i64 3 Q := (hB.below hb2' hsz).below hb4 (by omega)
      by_cases hge : n ≤ x + 2 * R
      · have hc : 0 ≤ cmpN (x + 2 * R) n := by unfold cmpN; rw [if_neg (by omega)]; split <;> omega
        have VX := Lib.hid (val_dig (B := 2) (by decide) (x + 2 * R))
        have VN := Lib.hid (val_dig (B := 2) (by decide) n)
        have hf := fun w5 (h : Blk w5 w.heap.size .i64 3 Q) => h.frozen (k - 1)
        have hlen4 : (dig 2 (x + 2 * R)).length ≤ 1000000 := by
          have := bl_double (R := R) x0
          unfold bl at this; omega
        have HLE := Lib.hid (bits_le (m := x + 2 * R) (n := n) (by omega))
        have HSTEP := Lib.hid (rdiv_step (b := 1) (k := k - 1) (xs := xs) (Q := Q) (R := R) (n := n) (by omega) (by rw [HL.out]; omega) (by rw [show k - 1 + 1 = k by omega]; exact HV.out) (by rw [← HXE.out]; omega))
        have HFR := Lib.hid hf
        clear hf
        go_wp2_with fail
        refine (rsub_ap _ _ _ _ _ (hs3.below hb4) (hy.below hb4w) (Dig_dig (by decide) _) (Dig_dig (by decide) _) hlen4 HLE.out (by rw [VX.out, VN.out]; exact hge)).mono ?_
        rintro e w5 ⟨v5, rfl, hs5, hb5, hap5⟩
        have HAP5 : Hid (Apart w.heap.size v5) := Lib.hid (hap5 _ (by omega))
        clear hap5
        rw [VX.out, VN.out] at hs5
        have hB5 := hB4.below hb5 (by omega)
        have hfz := HFR.out w5 hB5
        have hcq : w5.cell? ⟨w.heap.size, k - 1, none⟩ = some (.int .i64 (nth Q (k - 1))) := hB5.cell (by rw [HL.out]; omega)
        have hb5w : Below w.heap.size w w5 := hb4w.trans (hb5.mono hb4w.size)
        have hsz5 := hb5.size
        go_wp2_with fail
        go_roundw
        case rel =>
          refine ⟨k - 1, Q.set (k - 1) 1, x + 2 * R - n, by go_num, by omega, hB5.set (k - 1) 1 _ rfl, by simp [World.setCell]; omega, hb5w.setCell (p := ⟨w.heap.size, k - 1, none⟩) (Nat.le_refl _) _, ?_, HAP5.out, by omega, hdQ.set (by decide), Lib.hid (by rw [List.length_set]; exact HL.out), Lib.hid (zeros_step HZ.out), Lib.hid ?_⟩
          · exact hs5.grown (grown_setCell (World.grownBy.refl _ _) _) HAP5.out
          · have h := HSTEP.out
            rw [← HXE.out, Nat.one_mul] at h
            exact h
        case measure => simp [intOf]; omega
      · have hc : cmpN (x + 2 * R) n < 0 := by rw [cmpN_lt (by omega)]; decide
        have HSTEP := Lib.hid (rdiv_step (b := 0) (k := k - 1) (xs := xs) (Q := Q) (R := R) (n := n) (by omega) (by rw [HL.out]; omega) (by rw [show k - 1 + 1 = k by omega]; exact HV.out) (by omega))
        go_wp2_with fail
        go_roundw
        case rel =>
          refine ⟨k - 1, Q, x + 2 * R, by go_num, by omega, hB4, by omega, hb4w, hs3.below hb4, HAP3.out, by omega, hdQ, HL, Lib.hid (fun j hj => HZ.out j (by omega)), Lib.hid ?_⟩
          have h := HSTEP.out
          rw [← HXE.out, Nat.zero_mul, Nat.sub_zero, set_same (HZ.out (k - 1) (by omega)) (by rw [HL.out]; omega)] at h
          exact h
        case measure => simp [intOf]; omega
    · have hk0 : k = 0 := by omega
      subst hk0
      have hv := HV.out
      rw [List.drop_zero, List.drop_zero] at hv
      have e1 : val 2 xs % n = R := by rw [← hv, Nat.mul_add_mod_self_right, Nat.mod_eq_of_lt hRn]
      have e2 : val 2 Q = val 2 xs / n := by rw [← hv, Nat.add_comm, Nat.add_mul_div_right _ _ hn, Nat.div_eq_of_lt hRn, Nat.zero_add]
      have E1 := Lib.hid e1
      have E2 := Lib.hid e2
      have hsl := hB.sl 0 xs.length xs.length (by rw [HL.out]; omega) (Nat.le_refl _) (by omega)
      rw [List.drop_zero, List.take_of_length_le (by rw [HL.out]; omega)] at hsl
      clear e1 e2 hv a4
      go_wp2_with fail
      refine (cut_v _ Q _ hsl hdQ).mono ?_
      rintro e w4 ⟨v4, rfl, ht4, rfl⟩
      go_wp2_with fail
      go_ret2
      refine ⟨_, _, rfl, by rw [← E2.out]; exact ht4, by rw [E1.out]; exact hrs, hb⟩
end Go.Proofs.YtbkeildnhimfbaaDoor
