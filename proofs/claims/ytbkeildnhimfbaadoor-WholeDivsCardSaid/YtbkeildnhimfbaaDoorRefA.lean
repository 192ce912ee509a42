/-
  Contracts of the reference package: cut, Bits, at.
-/
import Derived.Test.YtbkeildnhimfbaaDoorNatD
namespace Go.Proofs.YtbkeildnhimfbaaDoor
open Go.RowKit
set_option maxRecDepth 100000

/-- The length in a slot. -/
def lenOfV : Value → Nat | .slice _ n _ => n | _ => 0

set_option maxHeartbeats 400000 in
theorem cut_any (ao : Option Addr) (n cap : Nat) (xs : List Nat) (w : World) (h : Sl w .i64 (.slice ao n cap) xs) :
    Calls Tryd.prog 56 #[.slice ao n cap] w fun e w' => e = .returned (.slice ao (nz xs) cap) ∧ w = w' := by
  have H := Lib.hid h
  obtain ⟨ao', cap', e, h1, h2, h3, h4⟩ := h
  injection e with e1 e2 e3
  subst e1; subst e2; subst e3
  go_enter Tryd.func56, Tryd.ntmps56
  go_wp2
  go_loop [0] (fun v => ∃ k : Nat, k ≤ xs.length ∧ v = .slice ao k cap ∧ Hid (nz (xs.take k) = nz xs)) (fun v => lenOfV v)
  case atStart => exact ⟨xs.length, Nat.le_refl _, rfl, Lib.hid (by rw [List.take_length])⟩
  case round =>
    obtain ⟨k, hk, rfl, Hn⟩ := hrel
    by_cases h0 : 0 < k
    · obtain ⟨a, rfl, g⟩ := h4 (k-1) (by omega)
      clear h4
      go_wp2
      · have hz : (nth xs (k - 1) == 0) = true := by assumption
        go_round
        case rel => exact ⟨k - 1, by omega, rfl, Lib.hid (by rw [← Hn.out, ← nz_zero (k := k - 1) (by omega) (by have := nth_eq (xs := xs) (i := k - 1) (by omega); simp at hz; unfold nth at hz; omega), show k - 1 + 1 = k by omega])⟩
        case measure => simp [lenOfV]; omega
      · have hz : (nth xs (k - 1) == 0) = false := by assumption
        have hk' : k = nz xs := by
          rw [← Hn.out, show k = (k - 1) + 1 by omega, nz_pos (by omega) (by simp at hz; unfold nth at hz; omega)]
        subst hk'
        go_ret
        exact ⟨rfl, rfl⟩
    · have hk' : k = nz xs := by
        rw [← Hn.out, show k = 0 by omega]; rfl
      have HK := Lib.hid hk'
      clear hk'
      have hk0 : k = 0 := by omega
      subst hk0
      go_wp2
      go_ret
      exact ⟨by rw [← HK.out]; rfl, rfl⟩

theorem cut_v (v : Value) (xs : List Nat) (w : World) (h : Sl w .i64 v xs) (hd : Dig 2 xs) :
    Calls Tryd.prog 56 #[v] w fun e w' => ∃ v', e = .returned v' ∧ Sl w .i64 v' (dig 2 (val 2 xs)) ∧ w = w' := by
  obtain ⟨ao, cap, rfl⟩ := sl_shape h
  refine (cut_any _ _ _ xs _ h).mono fun e w' ⟨he, hw⟩ => ⟨_, he, ?_, hw⟩
  have := h.take _ (nz_le xs)
  rwa [take_nz (by decide) hd] at this

/-- Bit m of limb k. -/
def bitN (xs : List Nat) (k m : Nat) : Nat := xs.getD k 0 / 2 ^ m % 2
def bitI (xs : List Nat) (k m : Nat) : Int := ((bitN xs k m : Nat) : Int)
theorem bitI_bound (xs : List Nat) (k m : Nat) : 0 ≤ bitI xs k m ∧ bitI xs k m ≤ 1 := by unfold bitI bitN; omega
theorem and_bit {xs : List Nat} (h : Dig L32 xs) (k m : Nat) : bits BinOp.and IntKind.u32 (nth xs k / 2 ^ m) 1 = bitI xs k m := by
  have h1 := h.getD (by decide) k
  unfold nth bitI bitN
  have e : ((xs.getD k 0 : Nat) : Int) / 2 ^ m = ((xs.getD k 0 / 2 ^ m : Nat) : Int) := by simp
  have hle : xs.getD k 0 / 2 ^ m < 4294967296 := Nat.lt_of_le_of_lt (Nat.div_le_self _ _) h1
  rw [e, show (1 : Int) = ((1 : Nat) : Int) from rfl, u32_and_nat _ _ hle (by decide), nat_mask1]

theorem bits_step {xs cs : List Nat} {k m V : Nat} (hl : cs.length = 32 * k + m) (hv : val 2 cs = V + 2 ^ (32 * k) * (xs.getD k 0 % 2 ^ m)) :
    val 2 (cs ++ [bitN xs k m]) = V + 2 ^ (32 * k) * (xs.getD k 0 % 2 ^ (m + 1)) := by
  rw [val_append, hv, hl, Nat.mod_pow_succ, Nat.pow_add]
  simp only [val, bitN, Nat.mul_zero, Nat.add_zero, Nat.mul_add]
  rw [Nat.mul_assoc, Nat.add_assoc]
theorem bits_round {xs cs : List Nat} {k : Nat} (hd : Dig L32 xs) (hk : k < xs.length) (hv : val 2 cs = val L32 (xs.take k) + 2 ^ (32 * k) * (xs.getD k 0 % 2 ^ 32)) : val 2 cs = val L32 (xs.take (k + 1)) := by
  rw [hv, val_take_succ _ _ _ hk, Nat.mod_eq_of_lt (hd.getD (by decide) k), Nat.pow_mul, Nat.mul_comm]

theorem infoInt : (Tryd.prog.info? 3).map (fun i => (i.zero, i.size, i.bytes)) = some (some (.int .i64 0), 1, 8) := by kernel_rfl

theorem bit_step {x k : Nat} : x % 2 ^ (k + 1) = x % 2 ^ k + 2 ^ k * (x / 2 ^ k % 2) := Nat.mod_pow_succ

set_option maxHeartbeats 1000000 in
set_option maxRecDepth 100000 in
theorem bits_any (va : Value) (xs : List Nat) (w : World) (hx : Sl w .u32 va xs) (dx : Dig L32 xs) (lx : xs.length ≤ 10000) :
    Calls Tryd.prog 33 #[va] w fun e w' => ∃ v, e = .returned v ∧ Sl w' .i64 v (dig 2 (val L32 xs)) ∧ Below w.heap.size w w' := by
  obtain ⟨i0, hi, hz0, hz1, hz2⟩ := info_parts infoInt
  have HX := Lib.hid hx
  obtain ⟨ao, ac, rfl, a1, a2, a3, a4⟩ := hx
  go_enter Tryd.func33, Tryd.ntmps33
  go_wp2
  go_loopw [3, 4, 5] (fun v i _ wr => ∃ (k : Nat) (bs : List Nat), k ≤ xs.length ∧ i = .int .i64 k ∧ Ow wr w.heap.size .i64 3 v bs ∧ Dig 2 bs ∧ Hid (bs.length = 32 * k) ∧ Hid (val 2 bs = val L32 (xs.take k)) ∧ Below w.heap.size w wr) (fun _ i _ _ => xs.length - (intOf i).toNat)
  case atStart => exact ⟨0, [], by omega, rfl, Ow.nil _ _ _ _, Dig.nil _, Lib.hid rfl, Lib.hid rfl, Below.refl _ _⟩
  case round =>
    obtain ⟨k, bs, hk, rfl, how, hdb, HL, HV, hb⟩ := hrel
    by_cases hlt : k < xs.length
    · obtain ⟨a, rfl, hca⟩ := a4 k hlt
      clear a4
      have X1 := u32_wf dx k
      have HLT := Lib.hid hlt
      go_wp2
      go_loopw [3, 5] (fun v j w2 => ∃ (m : Nat) (cs : List Nat), m ≤ 32 ∧ j = .int .i64 m ∧ Ow w2 w.heap.size .i64 3 v cs ∧ Dig 2 cs ∧ Hid (cs.length = 32 * k + m) ∧ Hid (val 2 cs = val L32 (xs.take k) + 2 ^ (32 * k) * (xs.getD k 0 % 2 ^ m)) ∧ Below w.heap.size w w2) (fun _ j _ => 32 - (intOf j).toNat)
      case atStart => exact ⟨0, bs, by omega, rfl, how, hdb, HL, Lib.hid (by rw [HV.out]; simp [Nat.mod_one]), hb⟩
      case round =>
        clear how hdb HL HV hb
        obtain ⟨m, cs, hm, rfl, how, hdb, HL, HV, hb⟩ := hrel
        by_cases hm2 : m < 32
        · have hca' : wr.cell? (a.add k) = some (.int .u32 (nth xs k)) := by rw [hb.cell (cell_lt hca)]; exact hca
          have hcl : cs.length ≤ 1000000 := by have := HL.out; omega
          have hsz := hb.size
          clear hca
          have hbit := and_bit dx k m
          have hb1 := bitI_bound xs k m
          go_wp2_with (at_builtin; refine wpList_append_one _ rfl (.tmp 16) (.tmp 25) 28 rfl 3 i0 .i64 Tryd.underlying28 hi hz0 hz1 ?c1 w.heap.size _ cs rfl (how.alloc _) wr.heap.size (bitI xs k m) (bitN xs k m) rfl ?c2 rfl ?c3 ?c4 ?_)
          case c1 => omega
          case c2 => simp
          case c3 => omega
          case c4 => simp; omega
          intro v' w1 how' hb'
          go_wp2
          go_roundw
          case rel => exact ⟨m + 1, cs ++ [bitN xs k m], by omega, by go_num, how', hdb.append (by intro x hx; obtain rfl := List.mem_singleton.1 hx; exact Nat.mod_lt _ (by decide)), Lib.hid (by rw [List.length_append, HL.out]; simp; omega), Lib.hid (bits_step HL.out HV.out), hb.trans (((Below.refl _ _).alloc hsz _).trans hb')⟩
          case measure => simp [intOf]; omega
        · have hm32 : m = 32 := by omega
          subst hm32
          have hlk := HLT.out
          go_wp2
          go_roundw
          case rel => exact ⟨k + 1, cs, by omega, by go_num, how, hdb, Lib.hid (by rw [HL.out]; omega), Lib.hid (bits_round dx hlk HV.out), hb⟩
          case measure => simp [intOf]; omega
    · have hkk : k = xs.length := by omega
      subst hkk
      have hV : val 2 bs = val L32 xs := by rw [HV.out, List.take_length]
      have HV' := Lib.hid hV
      clear hV
      go_wp2_with (go_at_call 56; refine (cut_v _ bs _ how.sl hdb).mono ?_; rintro e w' ⟨v', rfl, hsl, rfl⟩)
      go_ret
      exact ⟨_, rfl, by rw [← HV'.out]; exact hsl, hb⟩
end Go.Proofs.YtbkeildnhimfbaaDoor
