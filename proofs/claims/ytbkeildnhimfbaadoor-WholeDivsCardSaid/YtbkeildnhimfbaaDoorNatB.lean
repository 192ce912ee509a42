/-
  Contracts of package nat: subFrom, Cmp, Add, Sub, Trim.
-/
import Derived.Test.YtbkeildnhimfbaaDoorNatA
import Derived.Deep.QuietTactic
import Derived.BigQuiet
namespace Go.Proofs.YtbkeildnhimfbaaDoor
open Go.RowKit
set_option maxRecDepth 100000

/-- The base of a limb. -/
abbrev L32 : Nat := 4294967296

theorem step_sub {B : Nat} (t ys : List Nat) (S k cc v b : Nat) (hy : k < ys.length) (ht : k < t.length) (h : val B t + val B (ys.take k) = S + cc * B ^ k) (hv : v + ys.getD k 0 + cc = t.getD k 0 + b * B) :
    val B (t.set k v) + val B (ys.take (k + 1)) = S + b * B ^ (k + 1) := by
  have h1 := val_set B t k v ht
  rw [val_take_succ B ys k hy, Nat.pow_succ]
  generalize B ^ k = P at *
  have h3 : v * P + ys.getD k 0 * P + cc * P = t.getD k 0 * P + b * B * P := by rw [← Nat.add_mul, ← Nat.add_mul, hv, Nat.add_mul]
  grind
theorem step_borrow {B : Nat} (t : List Nat) (S Y k cc v b : Nat) (ht : k < t.length) (h : val B t + Y = S + cc * B ^ k) (hv : v + cc = t.getD k 0 + b * B) :
    val B (t.set k v) + Y = S + b * B ^ (k + 1) := by
  have h1 := val_set B t k v ht
  rw [Nat.pow_succ]
  generalize B ^ k = P at *
  have h3 : v * P + cc * P = t.getD k 0 * P + b * B * P := by rw [← Nat.add_mul, hv, Nat.add_mul]
  grind

theorem bor32_nat (x y c : Nat) (hx : x < 4294967296) (hy : y < 4294967296) (hc : c ≤ 1) :
    ∃ b : Nat, bor32 x y c = (b : Int) ∧ b ≤ 1 ∧ ∃ v : Nat, ((x : Int) - y - c) % 4294967296 = (v : Int) ∧ v < 4294967296 ∧ v + y + c = x + b * 4294967296 := by
  unfold bor32
  by_cases h : (x : Int) < y + c
  · rw [if_pos h]
    exact ⟨1, rfl, by omega, (((x : Int) - y - c) % 4294967296).toNat, by omega, by omega, by omega⟩
  · rw [if_neg h]
    exact ⟨0, rfl, by omega, (((x : Int) - y - c) % 4294967296).toNat, by omega, by omega, by omega⟩

set_option maxHeartbeats 1000000 in
theorem subFrom_any (g : Nat) (pre s post ys : List Nat) (vs vb : Value) (w : World) (hw : Ws w .u32 72 vs g pre s post) (hb : Sl w .u32 vb ys) (ha : Apart g vb) (hl : ys.length ≤ s.length)
   (hs : Dig 4294967296 s) (hy : Dig 4294967296 ys) (hle : val 4294967296 ys ≤ val 4294967296 s) :
    Calls Tryd.prog 64 #[vs, vb] w fun e w' => ∃ s', e = .returned (.tuple #[]) ∧ Ws w' .u32 72 vs g pre s' post ∧ w.grownBy w' (some g) ∧ s'.length = s.length ∧ Dig 4294967296 s' ∧
      val 4294967296 s' = val 4294967296 s - val 4294967296 ys := by
  have HLE := Lib.hid hle
  clear hle
  obtain ⟨ao, cap, rfl, h1, h2, h3, h4⟩ := hw
  have HB := Lib.hid hb
  obtain ⟨bo, bcap, rfl, k1, k2, k3, k4⟩ := hb
  go_enter Tryd.func64, Tryd.ntmps64
  go_wp2
  go_loopw [4, 10] (fun c i wr => ∃ (k : Nat) (t : List Nat) (cc : Nat), i = .int .i64 k ∧ c = .int .u32 (cc : Int) ∧ cc ≤ 1 ∧ k ≤ ys.length ∧ w.grownBy wr (some g) ∧ Hid (t.length = s.length) ∧ Dig 4294967296 t ∧
     WsAt wr .u32 72 ao g pre t post s.length ∧
     Hid (val 4294967296 t + val 4294967296 (ys.take k) = val 4294967296 s + cc * 4294967296 ^ k))
    (fun _ i _ => ys.length - (intOf i).toNat)
  case atStart => exact ⟨0, s, 0, rfl, rfl, by omega, by omega, World.grownBy.refl _ _, Lib.hid rfl, hs, h4, Lib.hid (by simp [val])⟩
  case round =>
    obtain ⟨k, t, cc, rfl, rfl, hcc, hk, hg, Ht, hdt, hB, HV⟩ := hrel
    by_cases hlt : k < ys.length
    · obtain ⟨b, rfl, hcb⟩ := k4 k hlt
      obtain ⟨rfl, hB'⟩ := hB (by omega)
      have hkt : k < t.length := by have := Ht.out; omega
      have hcb' := (HB.out.grown hg ha).at hlt
      have hct : wr.cell? ⟨g, pre.length + k, none⟩ = some (.int .u32 (nth t k)) := by
        rw [hB'.cell (by simp; omega), nth_mid _ _ _ _ hkt]
      have hft := hB'.frozen (pre.length + k)
      have y1 := u32_wf hy k
      have t1 := u32_wf hdt k
      clear hcb hB h4 k4
      go_wp2_with (go_at_call 86; refine (sub32_any _ _ _ _ (by omega) (by omega) (by omega)).mono ?_; rintro e w' ⟨rfl, rfl⟩)
      go_roundw
      case rel =>
        obtain ⟨b', e1, e2, v', e3, e4, e5⟩ := bor32_nat (t.getD k 0) (ys.getD k 0) cc (by unfold nth at t1; omega) (by unfold nth at y1; omega) hcc
        refine ⟨k + 1, t.set k v', b', by go_num, ?_, e2, by omega, grown_setCell hg _, Lib.hid (by rw [List.length_set]; exact Ht.out), hdt.set e4, fun _ => ⟨rfl, ?_⟩, Lib.hid (step_sub t ys _ k cc v' b' hlt hkt HV.out e5)⟩
        · rw [← e1]; rfl
        · rw [← set_mid _ _ _ _ _ hkt]
          exact hB'.set _ _ _ e3
      case measure => simp [intOf]; omega
    · have hkk : k = ys.length := by omega
      subst hkk
      go_wp2
      clear hk hlt
      go_loopw [4, 7] (fun c i w2 => ∃ (j : Nat) (t : List Nat) (cc : Nat), i = .int .i64 j ∧ c = .int .u32 (cc : Int) ∧ cc ≤ 1 ∧ j ≤ s.length ∧ w.grownBy w2 (some g) ∧ Hid (t.length = s.length) ∧ Dig 4294967296 t ∧
         WsAt w2 .u32 72 ao g pre t post s.length ∧
         Hid (val 4294967296 t + val 4294967296 ys = val 4294967296 s + cc * 4294967296 ^ j))
        (fun _ i _ => s.length - (intOf i).toNat)
      case atStart => exact ⟨ys.length, t, cc, rfl, rfl, hcc, hl, hg, Ht, hdt, hB, Lib.hid (by rw [← HV.out, List.take_length])⟩
      case round =>
        clear hB HV hdt Ht hg hcc k4
        obtain ⟨k, t, cc, rfl, rfl, hcc, hk, hg, Ht, hdt, hB, HV⟩ := hrel
        by_cases hc0 : 0 < cc
        · have hlt : k < s.length := by
            rcases Nat.lt_or_ge k s.length with h | h
            · exact h
            · exfalso
              have hk' : k = s.length := by omega
              have hv := HV.out
              have hv2 := val_lt hdt
              have hle := HLE.out
              rw [Ht.out] at hv2
              rw [hk', show cc = 1 by omega] at hv
              omega
          obtain ⟨rfl, hB'⟩ := hB (by omega)
          have hkt : k < t.length := by have := Ht.out; omega
          have hct : wr.cell? ⟨g, pre.length + k, none⟩ = some (.int .u32 (nth t k)) := by
            rw [hB'.cell (by simp; omega), nth_mid _ _ _ _ hkt]
          have hft := hB'.frozen (pre.length + k)
          have t1 := u32_wf hdt k
          clear hB h4
          go_wp2_with (go_at_call 86; refine (sub32_any _ _ _ _ (by omega) (by omega) (by omega)).mono ?_; rintro e w' ⟨rfl, rfl⟩)
          go_roundw
          case rel =>
            obtain ⟨b', e1, e2, v', e3, e4, e5⟩ := bor32_nat (t.getD k 0) 0 cc (by unfold nth at t1; omega) (by omega) hcc
            refine ⟨k + 1, t.set k v', b', by go_num, ?_, e2, by omega, grown_setCell hg _, Lib.hid (by rw [List.length_set]; exact Ht.out), hdt.set e4, fun _ => ⟨rfl, ?_⟩, Lib.hid (step_borrow t _ _ k cc v' b' hkt HV.out (by omega))⟩
            · rw [← e1]; rfl
            · rw [← set_mid _ _ _ _ _ hkt]
              exact hB'.set _ _ _ (by rw [← e3]; unfold nth; omega)
          case measure => simp [intOf]; omega
        · have hend : val 4294967296 t = val 4294967296 s - val 4294967296 ys := by
            have hv := HV.out
            rw [show cc = 0 by omega, Nat.zero_mul, Nat.add_zero] at hv
            omega
          have Hend := Lib.hid hend
          clear hend
          have hfin : Ws wr .u32 72 (.slice ao s.length cap) g pre t post := ⟨ao, cap, by rw [Ht.out], by rw [Ht.out]; exact h1, h2, h3, by rw [Ht.out]; exact hB⟩
          clear h4
          go_wp2
          go_end0
          exact ⟨t, rfl, hfin, hg, Ht.out, hdt, Hend.out⟩

/-- -1, 0 or 1 as a is less than, equal to or greater than b. -/
def cmpN (a b : Nat) : Int := if a < b then -1 else if a = b then 0 else 1

theorem cmp_len {xs ys : List Nat} (hx : Dig L32 xs) (hy : Dig L32 ys) (h : nz xs < nz ys) : val L32 xs < val L32 ys := by
  have h1 := length_dig_val (B := L32) (by decide) hx
  have h2 := length_dig_val (B := L32) (by decide) hy
  exact Nat.lt_of_lt_of_le (lt_pow_of_length (B := L32) (k := nz xs) (by decide) (by omega)) (le_of_length (by decide) (by omega))
theorem val_split (B : Nat) (xs : List Nat) (k : Nat) (h : k ≤ xs.length) : val B xs = val B (xs.take k) + B ^ k * val B (xs.drop k) := by
  have := val_append B (xs.take k) (xs.drop k)
  rw [List.take_append_drop] at this
  rw [this, List.length_take, Nat.min_eq_left h]
theorem cmp_top {B : Nat} {xs ys : List Nat} {k : Nat} (hx : Dig B xs) (hk : k < xs.length) (hk' : k < ys.length) (he : xs.drop (k + 1) = ys.drop (k + 1)) (h : xs.getD k 0 < ys.getD k 0) : val B xs < val B ys := by
  rw [val_split B xs (k + 1) (by omega), val_split B ys (k + 1) (by omega), he, val_take_succ B xs k hk, val_take_succ B ys k hk']
  have h1 := val_lt (hx.take k)
  rw [List.length_take, Nat.min_eq_left (by omega)] at h1
  have h2 : (xs.getD k 0 + 1) * B ^ k ≤ ys.getD k 0 * B ^ k := Nat.mul_le_mul_right _ h
  rw [Nat.add_mul, Nat.one_mul] at h2
  omega
theorem drop_step {xs ys : List Nat} {k : Nat} (hk : k < xs.length) (hk' : k < ys.length) (he : xs.drop (k + 1) = ys.drop (k + 1)) (h : xs.getD k 0 = ys.getD k 0) : xs.drop k = ys.drop k := by
  rw [List.drop_eq_getElem_cons hk, List.drop_eq_getElem_cons hk', he]
  congr 1
  simpa [List.getD, hk, hk'] using h

end Go.Proofs.YtbkeildnhimfbaaDoor
