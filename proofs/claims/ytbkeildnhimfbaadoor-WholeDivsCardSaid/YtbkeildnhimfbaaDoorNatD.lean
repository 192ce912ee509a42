/-
  Contracts of package nat: Add, Sub, Trim, Of.
-/
import Derived.Test.YtbkeildnhimfbaaDoorNatC
namespace Go.Proofs.YtbkeildnhimfbaaDoor
open Go.RowKit
set_option maxRecDepth 100000

theorem sl_apart {w : World} {k : IntKind} {v : Value} {xs : List Nat} (h : Sl w k v xs) {g : Nat} (hg : w.heap.size ≤ g) : Apart g v := by
  obtain ⟨ao, cap, rfl, h1, h2, h3, h4⟩ := h
  intro a n c e hb
  injection e with e1 e2 e3
  subst e2
  rcases Nat.eq_zero_or_pos xs.length with h0 | h0
  · exact h0
  · obtain ⟨a', e, hc⟩ := h4 0 h0
    have := cell_lt hc
    rw [e1] at e
    injection e with e
    subst e
    have hb' : (a.add 0).block = a.block := by unfold Addr.add; split <;> rfl
    omega

theorem trimmed_sl {w : World} {ao : Option Addr} {n cap : Nat} {xs : List Nat} (h : Sl w .u32 (.slice ao n cap) xs) (hd : Dig L32 xs) : Sl w .u32 (trimmedOf ao cap xs) (dig L32 (val L32 xs)) := by
  rw [← take_nz (by decide) hd]
  unfold trimmedOf
  by_cases h0 : nz xs = 0
  · rw [if_pos h0, h0]; exact Sl.nil _ _
  · rw [if_neg h0]; exact h.take _ (nz_le xs)

theorem Ws.at {w : World} {k : IntKind} {T : TypeId} {v : Value} {g : Nat} {pre s post : List Nat} (h : Ws w k T v g pre s post) : ∃ ao cap, v = .slice ao s.length cap := by
  obtain ⟨ao, cap, e, _⟩ := h; exact ⟨ao, cap, e⟩
theorem Ws.shape {w : World} {k : IntKind} {T : TypeId} {ao : Option Addr} {n cap g : Nat} {pre s post : List Nat} (h : Ws w k T (.slice ao n cap) g pre s post) : n = s.length := by
  obtain ⟨_, _, e, _⟩ := h; injection e

theorem trimmed_v (v : Value) (xs : List Nat) (w : World) (h : Sl w .u32 v xs) (hd : Dig L32 xs) :
    Calls Tryd.prog 63 #[v] w fun e w' => ∃ v', e = .returned v' ∧ Sl w .u32 v' (dig L32 (val L32 xs)) ∧ w = w' := by
  obtain ⟨ao, cap, rfl⟩ : ∃ ao cap, v = .slice ao xs.length cap := by obtain ⟨ao, cap, e, _⟩ := h; exact ⟨ao, cap, e⟩
  exact (trimmed_any _ _ _ xs _ h).mono fun e w' ⟨he, hw⟩ => ⟨_, he, trimmed_sl h hd, hw⟩

theorem below_of_grown' {B : Nat} {a b : World} {g : Nat} (h : a.grownBy b (some g)) (hg : B ≤ g) (hB : B ≤ a.heap.size := by omega) : Below B a b :=
  ⟨h.os, h.tape, h.output, h.size, fun k hk => h.block k (by omega) (fun e => by injection e with e; omega)⟩

theorem append_zeros_val (B : Nat) (xs : List Nat) (n : Nat) : val B (xs ++ List.replicate n 0) = val B xs := by
  rw [val_append, val_replicate_zero]; simp

set_option maxHeartbeats 1000000 in
theorem add_any (va vb : Value) (xs ys : List Nat) (w : World) (hx : Sl w .u32 va xs) (hy : Sl w .u32 vb ys) (dx : Dig L32 xs) (dy : Dig L32 ys) (lx : xs.length ≤ 1000000) (ly : ys.length ≤ 1000000) :
    Calls Tryd.prog 39 #[va, vb] w fun e w' => ∃ v, e = .returned v ∧ Sl w' .u32 v (dig L32 (val L32 xs + val L32 ys)) ∧ Below w.heap.size w w' := by
  obtain ⟨ao, ac, rfl⟩ : ∃ ao cap, va = .slice ao xs.length cap := by obtain ⟨ao, cap, e, _⟩ := hx; exact ⟨ao, cap, e⟩
  obtain ⟨bo, bc, rfl⟩ : ∃ ao cap, vb = .slice ao ys.length cap := by obtain ⟨ao, cap, e, _⟩ := hy; exact ⟨ao, cap, e⟩
  have nx := nz_le xs
  have ny := nz_le ys
  have hx' := hx.take (nz xs) nx
  have hy' := hy.take (nz ys) ny
  have dx' := dx.take (nz xs)
  have dy' := dy.take (nz ys)
  have ex : (xs.take (nz xs)).length = nz xs := by simp; omega
  have ey : (ys.take (nz ys)).length = nz ys := by simp; omega
  have EX := Lib.hid ex
  have EY := Lib.hid ey
  clear ex ey
  -- what stands behind the two cuts, for the longer one first
  have fin : ∀ (s s' zs : List Nat), Dig L32 s → Dig L32 zs → zs.length ≤ s.length → s'.length = s.length + 1 → Dig L32 s' → val L32 s' = (val L32 (s ++ List.replicate 1 0) + val L32 zs) % L32 ^ (s.length + 1) → val L32 s + val L32 zs = val L32 xs + val L32 ys →
      dig L32 (val L32 s') = dig L32 (val L32 xs + val L32 ys) := by
    intro s s' zs h1 h2 h3 h4 h5 h6 h7
    rw [h6, append_zeros_val, h7]
    rw [Nat.mod_eq_of_lt]
    rw [← h7]
    have a1 := val_lt h1
    have a2 := val_lt h2
    have a3 : L32 ^ zs.length ≤ L32 ^ s.length := Nat.pow_le_pow_right (by decide) h3
    rw [Nat.pow_succ]
    have : L32 ^ s.length * 2 ≤ L32 ^ s.length * L32 := Nat.mul_le_mul_left _ (by decide)
    omega
  have vx := val_take_nz (B := L32) (by decide) dx
  have vy := val_take_nz (B := L32) (by decide) dy
  have VX := Lib.hid vx
  have VY := Lib.hid vy
  clear vx vy
  have FIN := Lib.hid fin
  clear fin
  by_cases hlt : nz xs < nz ys
  · go_enter Tryd.func39, Tryd.ntmps39
    go_wp2_with fail
    refine (sig_any _ _ _ xs _ hx).mono ?_; rintro e w' ⟨rfl, rfl⟩
    go_wp2_with fail
    refine (sig_any _ _ _ ys _ hy).mono ?_; rintro e w' ⟨rfl, rfl⟩
    go_wp2_with fail
    refine (padded_any bo _ bc _ (nz ys + 1) _ w hy' (by rw [EY.out]; omega) (by omega) (by omega)).mono ?_
    rintro e w1 ⟨v1, rfl, hs1, hb1, hz1⟩
    have hsz := hz1 (by omega)
    go_wp2_with fail
    refine (addTo_any w.heap.size [] _ [] _ _ _ w1 hs1 (hx'.below hb1) (sl_apart hx' (Nat.le_refl _)) ?_ (dy'.append (Dig.replicate (by decide) _)) dx').mono ?_
    · rw [EX.out, List.length_append, EY.out]; simp; omega
    rintro e w2 ⟨s', rfl, hs2, hg2, hl2, hd2, hv2⟩
    have hb2 : Below w.heap.size w w2 := hb1.trans (below_of_grown' hg2 (Nat.le_refl _))
    have HL2 := Lib.hid hl2
    have HV2 := Lib.hid hv2
    clear hl2 hv2
    have hss := hs2.sl
    go_wp2_with fail
    refine (trimmed_v _ s' _ hss hd2).mono ?_
    rintro e w3 ⟨v3, rfl, ht, rfl⟩
    go_wp2_with fail
    go_ret
    refine ⟨_, rfl, ?_, hb2⟩
    have hl := HL2.out
    have hv := HV2.out
    rw [List.length_append, EY.out] at hl hv
    rw [show nz ys + 1 - nz ys = 1 by omega] at hl hv
    simp only [List.length_replicate] at hl hv
    rw [FIN.out (ys.take (nz ys)) s' (xs.take (nz xs)) dy' dx' (by rw [EX.out, EY.out]; omega) (by rw [EY.out]; exact hl) hd2 (by rw [EY.out]; exact hv) (by have h1 := VX.out; have h2 := VY.out; omega)] at ht
    exact ht
  · go_enter Tryd.func39, Tryd.ntmps39
    go_wp2_with fail
    refine (sig_any _ _ _ xs _ hx).mono ?_; rintro e w' ⟨rfl, rfl⟩
    go_wp2_with fail
    refine (sig_any _ _ _ ys _ hy).mono ?_; rintro e w' ⟨rfl, rfl⟩
    go_wp2_with fail
    refine (padded_any ao _ ac _ (nz xs + 1) _ w hx' (by rw [EX.out]; omega) (by omega) (by omega)).mono ?_
    rintro e w1 ⟨v1, rfl, hs1, hb1, hz1⟩
    have hsz := hz1 (by omega)
    go_wp2_with fail
    refine (addTo_any w.heap.size [] _ [] _ _ _ w1 hs1 (hy'.below hb1) (sl_apart hy' (Nat.le_refl _)) ?_ (dx'.append (Dig.replicate (by decide) _)) dy').mono ?_
    · rw [EY.out, List.length_append, EX.out]; simp; omega
    rintro e w2 ⟨s', rfl, hs2, hg2, hl2, hd2, hv2⟩
    have hb2 : Below w.heap.size w w2 := hb1.trans (below_of_grown' hg2 (Nat.le_refl _))
    have HL2 := Lib.hid hl2
    have HV2 := Lib.hid hv2
    clear hl2 hv2
    have hss := hs2.sl
    go_wp2_with fail
    refine (trimmed_v _ s' _ hss hd2).mono ?_
    rintro e w3 ⟨v3, rfl, ht, rfl⟩
    go_wp2_with fail
    go_ret
    refine ⟨_, rfl, ?_, hb2⟩
    have hl := HL2.out
    have hv := HV2.out
    rw [List.length_append, EX.out] at hl hv
    rw [show nz xs + 1 - nz xs = 1 by omega] at hl hv
    simp only [List.length_replicate] at hl hv
    rw [FIN.out (xs.take (nz xs)) s' (ys.take (nz ys)) dx' dy' (by rw [EX.out, EY.out]; omega) (by rw [EX.out]; exact hl) hd2 (by rw [EX.out]; exact hv) (by have h1 := VX.out; have h2 := VY.out; omega)] at ht
    exact ht

theorem sl_shape {w : World} {k : IntKind} {v : Value} {xs : List Nat} (h : Sl w k v xs) : ∃ ao cap, v = .slice ao xs.length cap := by
  obtain ⟨ao, cap, e, _⟩ := h; exact ⟨ao, cap, e⟩

set_option maxHeartbeats 1000000 in
theorem sub_lt (va vb : Value) (xs ys : List Nat) (w : World) (hx : Sl w .u32 va xs) (hy : Sl w .u32 vb ys) (dx : Dig L32 xs) (dy : Dig L32 ys) (hlt : val L32 xs < val L32 ys) :
    Calls Tryd.prog 40 #[va, vb] w fun e w' => e = .returned (.tuple #[.slice none 0 0, .bool false]) ∧ Below w.heap.size w w' := by
  obtain ⟨ao, ac, rfl⟩ := sl_shape hx
  obtain ⟨bo, bc, rfl⟩ := sl_shape hy
  have hx' := hx.take (nz xs) (nz_le xs)
  have hy' := hy.take (nz ys) (nz_le ys)
  have HC := Lib.hid (show cmpN (val L32 (xs.take (nz xs))) (val L32 (ys.take (nz ys))) = -1 by rw [val_take_nz (by decide) dx, val_take_nz (by decide) dy]; exact cmpN_lt hlt)
  go_enter Tryd.func40, Tryd.ntmps40
  go_wp2_with fail
  refine (sig_any _ _ _ xs _ hx).mono ?_; rintro e w' ⟨rfl, rfl⟩
  go_wp2_with fail
  refine (sig_any _ _ _ ys _ hy).mono ?_; rintro e w' ⟨rfl, rfl⟩
  go_wp2_with fail
  refine (cmp_any _ _ _ _ _ hx' hy' (dx.take _) (dy.take _)).mono ?_; rintro e w' ⟨rfl, hb⟩
  rw [HC.out]
  go_wp2_with fail
  go_ret2
  exact ⟨rfl, hb⟩

set_option maxHeartbeats 1000000 in
theorem sub_ge (va vb : Value) (xs ys : List Nat) (w : World) (hx : Sl w .u32 va xs) (hy : Sl w .u32 vb ys) (dx : Dig L32 xs) (dy : Dig L32 ys) (lx : xs.length ≤ 1000000) (hge : val L32 ys ≤ val L32 xs) :
    Calls Tryd.prog 40 #[va, vb] w fun e w' => ∃ v, e = .returned (.tuple #[v, .bool true]) ∧ Sl w' .u32 v (dig L32 (val L32 xs - val L32 ys)) ∧ Below w.heap.size w w' := by
  obtain ⟨ao, ac, rfl⟩ := sl_shape hx
  obtain ⟨bo, bc, rfl⟩ := sl_shape hy
  have nx := nz_le xs
  have hx' := hx.take (nz xs) nx
  have hy' := hy.take (nz ys) (nz_le ys)
  have dx' := dx.take (nz xs)
  have dy' := dy.take (nz ys)
  have EX := Lib.hid (show (xs.take (nz xs)).length = nz xs by simp; omega)
  have VX := Lib.hid (val_take_nz (B := L32) (by decide) dx)
  have VY := Lib.hid (val_take_nz (B := L32) (by decide) dy)
  have hc : 0 ≤ cmpN (val L32 (xs.take (nz xs))) (val L32 (ys.take (nz ys))) := by
    rw [VX.out, VY.out]; unfold cmpN; rw [if_neg (by omega)]; split <;> omega
  have hlen : (ys.take (nz ys)).length ≤ nz xs := by
    rw [← length_dig_val (B := L32) (by decide) dx, ← dig_val_take (by decide) dy]
    exact length_dig_le (by decide) (by
      have h1 := val_lt (Dig_dig (B := L32) (by decide) (val L32 xs))
      rw [val_dig (by decide)] at h1
      omega)
  go_enter Tryd.func40, Tryd.ntmps40
  go_wp2_with fail
  refine (sig_any _ _ _ xs _ hx).mono ?_; rintro e w' ⟨rfl, rfl⟩
  go_wp2_with fail
  refine (sig_any _ _ _ ys _ hy).mono ?_; rintro e w' ⟨rfl, rfl⟩
  go_wp2_with fail
  refine (cmp_any _ _ _ _ _ hx' hy' dx' dy').mono ?_; rintro e w0 ⟨rfl, hb0⟩
  go_wp2_with fail
  refine (padded_any ao _ ac _ (nz xs) _ w0 (hx'.below hb0) (by rw [EX.out]; omega) (by omega) (by omega)).mono ?_
  rintro e w1 ⟨v1, rfl, hs1, hb1, hz1⟩
  have hb1' : Below w.heap.size w w1 := hb0.trans (hb1.mono hb0.size)
  go_wp2_with fail
  have HV := Lib.hid (show val L32 (xs.take (nz xs) ++ List.replicate (nz xs - (xs.take (nz xs)).length) 0) = val L32 xs by rw [append_zeros_val, VX.out])
  refine (subFrom_any w0.heap.size [] _ [] _ _ _ w1 hs1 (hy'.below hb1') (sl_apart (hy'.below hb0) (Nat.le_refl _)) (by rw [List.length_append, List.length_replicate, EX.out]; omega) (dx'.append (Dig.replicate (by decide) _)) dy' (by rw [HV.out, VY.out]; exact hge)).mono ?_
  rintro e w2 ⟨s', rfl, hs2, hg2, hl2, hd2, hv2⟩
  have hb2 : Below w.heap.size w w2 := hb1'.trans (below_of_grown' hg2 hb0.size hb1'.size)
  have HV2 := Lib.hid (show val L32 s' = val L32 xs - val L32 ys by rw [hv2, HV.out, VY.out])
  clear hl2 hv2
  go_wp2_with fail
  refine (trimmed_v _ s' _ hs2.sl hd2).mono ?_
  rintro e w3 ⟨v3, rfl, ht, rfl⟩
  go_wp2_with fail
  go_ret2
  refine ⟨_, rfl, ?_, hb2⟩
  rw [HV2.out] at ht
  exact ht

set_option maxHeartbeats 1000000 in
theorem trim_any (va : Value) (xs : List Nat) (w : World) (hx : Sl w .u32 va xs) (dx : Dig L32 xs) (lx : xs.length ≤ 1000000) :
    Calls Tryd.prog 69 #[va] w fun e w' => ∃ v, e = .returned v ∧ Ws w' .u32 72 v w.heap.size [] (dig L32 (val L32 xs)) [] ∧ Below w.heap.size w w' := by
  obtain ⟨ao, ac, rfl⟩ := sl_shape hx
  have nx := nz_le xs
  have hx' := hx.take (nz xs) nx
  have EX := Lib.hid (show (xs.take (nz xs)).length = nz xs by simp; omega)
  go_enter Tryd.func69, Tryd.ntmps69
  go_wp2_with fail
  refine (sig_any _ _ _ xs _ hx).mono ?_; rintro e w' ⟨rfl, rfl⟩
  go_wp2_with fail
  refine (padded_any ao _ ac _ (nz xs) _ w hx' (by rw [EX.out]; omega) (by omega) (by omega)).mono ?_
  rintro e w1 ⟨v1, rfl, hs1, hb1, hz1⟩
  go_wp2_with fail
  go_ret
  refine ⟨_, rfl, ?_, hb1⟩
  rw [EX.out, Nat.sub_self, List.replicate_zero, List.append_nil, take_nz (by decide) dx] at hs1
  exact hs1

set_option maxHeartbeats 1000000 in
theorem of_any (n : Nat) (z : Int) (w : World) (hz : z = (n : Int)) (hn : n < 18446744073709551616) :
    Calls Tryd.prog 51 #[.int .u64 z] w fun e w' => ∃ v, e = .returned v ∧ Sl w' .u32 v (dig L32 n) ∧ Below w.heap.size w w' := by
  have h0 : 0 ≤ z ∧ z < 18446744073709551616 := by omega
  have hB : Blk (w.alloc (.cells #[.int .u32 (z % 4294967296), .int .u32 (z / 4294967296)] 72)) w.heap.size .u32 72 [n % L32, n / L32] := by
    unfold Blk
    rw [heap_alloc_new, hz]
    rfl
  have hS := hB.sl 0 2 2 (by simp) (by omega) (by omega)
  have hD : Dig L32 [n % L32, n / L32] := by
    intro x hx
    rcases List.mem_cons.1 hx with rfl | hx
    · exact Nat.mod_lt _ (by decide)
    · obtain rfl := List.mem_singleton.1 hx
      exact Nat.div_lt_of_lt_mul (by omega)
  have hV : val L32 [n % L32, n / L32] = n := by
    have h := Nat.mod_add_div n L32
    simp only [val, Nat.mul_zero, Nat.add_zero]; exact h
  have HV := Lib.hid hV
  clear hV hz
  go_enter Tryd.func51, Tryd.ntmps51
  go_wp2_with fail
  refine (trimmed_v _ [n % L32, n / L32] _ hS hD).mono ?_
  rintro e w3 ⟨v3, rfl, ht, rfl⟩
  go_wp2_with fail
  go_ret
  refine ⟨_, rfl, ?_, (Below.refl _ _).alloc (Nat.le_refl _) _⟩
  rw [HV.out] at ht
  exact ht
end Go.Proofs.YtbkeildnhimfbaaDoor
