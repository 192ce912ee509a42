/-
  Contracts of package nat: number, mulAdd, isNumeral, Parse.
-/
import Derived.Test.YtbkeildnhimfbaaDoorDecM
import Derived.Test.YtbkeildnhimfbaaDoorMulA
namespace Go.Proofs.YtbkeildnhimfbaaDoor
open Go.RowKit
set_option maxRecDepth 100000

theorem dn_take_succ (l : List UInt8) (k : Nat) (h : k < l.length) : dn (l.take (k + 1)) = 10 * dn (l.take k) + (l[k].toNat - 48) := by
  rw [List.take_succ_eq_append_getElem h, dn_snoc]
theorem at_bytes (l : List UInt8) (k : Nat) (h : k < (⟨l.toArray⟩ : ByteArray).size) : (⟨l.toArray⟩ : ByteArray)[k] = l[k]'h := rfl

set_option maxHeartbeats 1000000 in
theorem number_any (l : List UInt8) (w : World) (hd : AllD l) (hl : l.length ≤ 9) :
    Calls Tryd.prog 83 #[.string ⟨l.toArray⟩] w fun e w' => e = .returned (.int .u32 ((dn l : Nat) : Int)) ∧ w' = w := by
  have hsz : (⟨l.toArray⟩ : ByteArray).size = l.length := rfl
  go_enter Tryd.func83, Tryd.ntmps83
  go_wp2
  go_loopw [3, 7] (fun c i wr => ∃ k : Nat, i = .int .i64 k ∧ c = .int .u32 ((dn (l.take k) : Nat) : Int) ∧ k ≤ l.length ∧ wr = w) (fun _ i _ => l.length - (intOf i).toNat)
  case atStart => exact ⟨0, rfl, rfl, Nat.zero_le _, rfl⟩
  case round =>
    obtain ⟨k, rfl, rfl, hk, rfl⟩ := hrel
    by_cases hlt : k < l.length
    · have h1 := hd l[k] (List.getElem_mem hlt)
      have h2 := dn_lt (hd.take k)
      have h3 : 10 ^ (l.take k).length ≤ 10 ^ 8 := Nat.pow_le_pow_right (by decide) (by rw [List.length_take]; omega)
      have HS := Lib.hid (dn_take_succ l k hlt)
      have H1 := Lib.hid h1
      have hm : dn (l.take k) < 100000000 := by have h4 : 10 ^ 8 = 100000000 := rfl; omega
      clear h1 h2 h3
      go_wp2
      go_roundw
      case rel =>
        refine ⟨k + 1, by go_num, ?_, by omega, by trivial⟩
        have h1 := H1.out
        rw [at_bytes, HS.out]
        congr 1
        omega
      case measure => simp [intOf]; omega
    · have hk0 : k = l.length := by omega
      subst hk0
      have HT := Lib.hid (List.take_length (l := l))
      go_wp2
      go_ret
      exact ⟨by rw [← HT.out]; simp, rfl⟩

theorem mulAdd_step {B : Nat} {t s : List Nat} {m n k c z : Nat} (ht : k < t.length) (hv : val B (t.take k) + c * B ^ k = m * val B (s.take k) + n) (hz : z = c + m * s.getD k 0) :
    val B ((t.set k (z % B)).take (k + 1)) + z / B * B ^ (k + 1) = m * val B (s.take (k + 1)) + n := by
  have e1 : (t.set k (z % B)).take k = t.take k := List.take_set_of_le (by omega)
  have e2 : (t.set k (z % B)).getD k 0 = z % B := by simp [List.getD, ht]
  rw [val_take_succ' B (t.set k (z % B)) k, val_take_succ' B s k, e1, e2, Nat.pow_succ]
  have h2 := Nat.mod_add_div z B
  generalize z % B = r at *
  generalize z / B = q at *
  generalize B ^ k = P at *
  have h3 : (r + B * q) * P = (c + m * s.getD k 0) * P := by rw [h2, hz]
  grind

set_option maxHeartbeats 1000000 in
theorem mulAdd_any (g : Nat) (pre s post : List Nat) (vs : Value) (m n : Nat) (w : World) (hw : Ws w .u32 72 vs g pre s post) (hs : Dig L32 s) (hm : m < 4294967296) (hn : n < 4294967296) (hlt : m * val L32 s + n < L32 ^ s.length) :
    Calls Tryd.prog 82 #[vs, .int .u32 m, .int .u32 n] w fun e w' => ∃ s', e = .returned (.tuple #[]) ∧ Ws w' .u32 72 vs g pre s' post ∧ w.grownBy w' (some g) ∧ s'.length = s.length ∧ Dig L32 s' ∧
      val L32 s' = m * val L32 s + n := by
  have HLT := Lib.hid hlt
  clear hlt
  obtain ⟨ao, cap, rfl, h1, h2, h3, h4⟩ := hw
  go_enter Tryd.func82, Tryd.ntmps82
  go_wp2
  go_loopw [6, 13] (fun c i wr => ∃ (k : Nat) (t : List Nat) (cc : Nat), i = .int .i64 k ∧ c = .int .u64 (cc : Int) ∧ cc < 4294967296 ∧ k ≤ s.length ∧ w.grownBy wr (some g) ∧ Hid (t.length = s.length) ∧ Dig 4294967296 t ∧
     WsAt wr .u32 72 ao g pre t post s.length ∧ Hid (t.drop k = s.drop k) ∧ Hid (val L32 (t.take k) + cc * L32 ^ k = m * val L32 (s.take k) + n))
    (fun _ i _ => s.length - (intOf i).toNat)
  case atStart => exact ⟨0, s, n, rfl, rfl, hn, by omega, World.grownBy.refl _ _, Lib.hid rfl, hs, h4, Lib.hid rfl, Lib.hid (by simp [val])⟩
  case round =>
    obtain ⟨k, t, cc, rfl, rfl, hcc, hk, hg, Ht, hdt, hB, HD, HV⟩ := hrel
    by_cases hlt : k < s.length
    · obtain ⟨rfl, hB'⟩ := hB (by omega)
      have hkt : k < t.length := by have := Ht.out; omega
      have hsk : t.getD k 0 = s.getD k 0 := by
        have := congrArg (fun l => l.getD 0 0) HD.out
        simpa [List.getD, List.getElem?_drop] using this
      have hct : wr.cell? ⟨g, pre.length + k, none⟩ = some (.int .u32 (nth s k)) := by
        rw [hB'.cell (by simp; omega), nth_mid _ _ _ _ hkt]; unfold nth; rw [hsk]
      have hft := hB'.frozen (pre.length + k)
      have t1 := u32_wf hs k
      have t0 := hs.getD (by decide) k
      have hmm : 0 ≤ (m : Int) * nth s k ∧ (m : Int) * nth s k ≤ 18446744065119617025 := by
        have := mul_bound hm t0
        have e : (m : Int) * nth s k = ((m * s.getD k 0 : Nat) : Int) := by unfold nth; simp
        rw [e]; omega
      have HE := Lib.hid (show (cc : Int) + (m : Int) * nth s k = ((cc + m * s.getD k 0 : Nat) : Int) by unfold nth; simp)
      have HZ := Lib.hid (show cc + m * s.getD k 0 < 18446744073709551616 by have := mul_bound hm t0; omega)
      have HS := Lib.hid (mulAdd_step (B := L32) hkt HV.out rfl)
      clear hB h4 t0 hsk
      go_wp2
      go_roundw
      case rel =>
        have hE := HE.out
        have hz := HZ.out
        refine ⟨k + 1, t.set k ((cc + m * s.getD k 0) % L32), (cc + m * s.getD k 0) / L32, by go_num, ?_, ?_, by omega, grown_setCell hg _, Lib.hid (by rw [List.length_set]; exact Ht.out), hdt.set (Nat.mod_lt _ (by decide)), fun _ => ⟨rfl, ?_⟩, Lib.hid ?_, HS⟩
        · rw [hE]; congr 1
        · exact Nat.div_lt_of_lt_mul (by omega)
        · rw [← set_mid _ _ _ _ _ hkt]
          exact hB'.set _ _ _ (by rw [hE]; rfl)
        · rw [List.drop_set_of_lt (by omega)]
          have := congrArg (List.drop 1) HD.out
          rwa [List.drop_drop, List.drop_drop] at this
      case measure => simp [intOf]; omega
    · have hkk : k = s.length := by omega
      subst hkk
      have hv := HV.out
      rw [List.take_length, List.take_of_length_le (by have := Ht.out; omega)] at hv
      have hc0 : cc = 0 := by
        rcases Nat.eq_zero_or_pos cc with h | h
        · exact h
        · have := Nat.mul_le_mul_right (L32 ^ s.length) h
          have := HLT.out
          omega
      have HF := Lib.hid (show val L32 t = m * val L32 s + n by rw [hc0] at hv; omega)
      have hfin : Ws wr .u32 72 (.slice ao s.length cap) g pre t post := ⟨ao, cap, by rw [Ht.out], by rw [Ht.out]; exact h1, h2, h3, by rw [Ht.out]; exact hB⟩
      clear hv h4 hc0
      go_wp2
      go_end0
      exact ⟨t, rfl, hfin, hg, Ht.out, hdt, HF.out⟩

set_option maxHeartbeats 1000000 in
theorem isNum_true (l : List UInt8) (w : World) (h : Numeral l) :
    Calls Tryd.prog 81 #[.string ⟨l.toArray⟩] w fun e w' => e = .returned (.bool true) ∧ w' = w := by
  have hsz : (⟨l.toArray⟩ : ByteArray).size = l.length := rfl
  obtain ⟨h1, h2, h3, h4⟩ := h
  have hp : 0 < l.length := List.length_pos_iff.2 h1
  have hz : ((l.length : Int) == 0) = false := by rw [beq_eq_false_iff_ne]; omega
  have hx : l.length ≤ 1 ∨ 1 < l.length ∧ ((((⟨l.toArray⟩ : ByteArray)[0]'hp).toNat : Int) == 48) = false := by
    by_cases hl : l.length ≤ 1
    · exact .inl hl
    · refine .inr ⟨by omega, ?_⟩
      have := h3 (by omega)
      rw [at_bytes, beq_eq_false_iff_ne]
      intro e
      have e2 : l[0].toNat = 48 := by omega
      exact this (by simp only [List.getD_eq_getElem?_getD, List.getElem?_eq_getElem hp, Option.getD_some]; exact UInt8.toNat_inj.1 e2)
  have H4 := Lib.hid h4
  clear h1 h3 h4
  go_enter Tryd.func81, Tryd.ntmps81
  rcases hx with hx | ⟨hx1, hx2⟩
  all_goals go_wp2
  all_goals go_loopw [24] (fun i wr => ∃ k : Nat, i = .int .i64 k ∧ k ≤ l.length ∧ wr = w) (fun i _ => l.length - (intOf i).toNat)
  case atStart => exact ⟨0, rfl, Nat.zero_le _, rfl⟩
  case atStart => exact ⟨0, rfl, Nat.zero_le _, rfl⟩
  all_goals
    obtain ⟨k, rfl, hk, rfl⟩ := hrel
    by_cases hlt : k < l.length
    · have hk1 : 48 ≤ ((⟨l.toArray⟩ : ByteArray)[k]'hlt).toNat ∧ ((⟨l.toArray⟩ : ByteArray)[k]'hlt).toNat ≤ 57 := H4.out l[k] (List.getElem_mem hlt)
      go_wp2
      go_roundw
      case rel => exact ⟨k + 1, by go_num, by omega, by trivial⟩
      case measure => simp [intOf]; omega
    · go_wp2
      go_ret
      exact ⟨rfl, rfl⟩

theorem bad_of {l : List UInt8} (h : ¬ AllD l) : ∃ (j : Nat) (hj : j < l.length), ¬ (48 ≤ l[j].toNat ∧ l[j].toNat ≤ 57) := by
  refine Classical.byContradiction fun h2 => h fun c hc => ?_
  obtain ⟨j, hj, rfl⟩ := List.mem_iff_getElem.1 hc
  exact Classical.byContradiction fun h3 => h2 ⟨j, hj, h3⟩

set_option maxHeartbeats 1000000 in
theorem isNum_false (l : List UInt8) (w : World) (h : ¬ Numeral l) (hmax : l.length ≤ 1000000000) :
    Calls Tryd.prog 81 #[.string ⟨l.toArray⟩] w fun e w' => e = .returned (.bool false) ∧ w' = w := by
  have hsz : (⟨l.toArray⟩ : ByteArray).size = l.length := rfl
  by_cases h1 : l.length = 0
  · have hz : ((l.length : Int) == 0) = true := by rw [h1]; rfl
    have hl0 : l.length ≤ 0 := by omega
    clear h h1
    go_enter Tryd.func81, Tryd.ntmps81
    go_wp2
    go_ret
    exact ⟨rfl, rfl⟩
  · have hz : ((l.length : Int) == 0) = false := by rw [beq_eq_false_iff_ne]; omega
    have hp : 0 < l.length := by omega
    by_cases h2 : 300 < l.length
    · clear h h1
      go_enter Tryd.func81, Tryd.ntmps81
      go_wp2
      go_ret
      exact ⟨rfl, rfl⟩
    · by_cases h3 : 1 < l.length ∧ l.getD 0 48 = 48
      · obtain ⟨h3, h4⟩ := h3
        have hx : ((((⟨l.toArray⟩ : ByteArray)[0]'hp).toNat : Int) == 48) = true := by
          simp only [List.getD_eq_getElem?_getD, List.getElem?_eq_getElem hp, Option.getD_some] at h4
          rw [at_bytes, h4]; rfl
        clear h h1 h4
        go_enter Tryd.func81, Tryd.ntmps81
        go_wp2
        go_ret
        exact ⟨rfl, rfl⟩
      · have hnd : ¬ AllD l := fun hd => h ⟨fun e => h1 (by rw [e]; rfl), by omega, fun hl e => h3 ⟨hl, e⟩, hd⟩
        obtain ⟨j, hj, hb⟩ := bad_of hnd
        have hx : l.length ≤ 1 ∨ 1 < l.length ∧ ((((⟨l.toArray⟩ : ByteArray)[0]'hp).toNat : Int) == 48) = false := by
          by_cases hl : l.length ≤ 1
          · exact .inl hl
          · refine .inr ⟨by omega, ?_⟩
            rw [at_bytes, beq_eq_false_iff_ne]
            intro e
            have e2 : l[0].toNat = 48 := by omega
            exact h3 ⟨by omega, by simp only [List.getD_eq_getElem?_getD, List.getElem?_eq_getElem hp, Option.getD_some]; exact UInt8.toNat_inj.1 e2⟩
        have HB : Hid (¬ (48 ≤ (l[j]'hj).toNat ∧ (l[j]'hj).toNat ≤ 57)) := Lib.hid hb
        clear h h1 h3 hnd hb
        go_enter Tryd.func81, Tryd.ntmps81
        rcases hx with hx | ⟨hx1, hx2⟩
        all_goals go_wp2
        all_goals go_loopw [24] (fun i wr => ∃ k : Nat, i = .int .i64 k ∧ k ≤ j ∧ wr = w) (fun i _ => l.length - (intOf i).toNat)
        case atStart => exact ⟨0, rfl, Nat.zero_le _, rfl⟩
        case atStart => exact ⟨0, rfl, Nat.zero_le _, rfl⟩
        all_goals
          obtain ⟨k, rfl, hk, rfl⟩ := hrel
          have hlt : k < l.length := by omega
          by_cases hok : 48 ≤ (l[k]'hlt).toNat ∧ (l[k]'hlt).toNat ≤ 57
          · have hk1 : 48 ≤ ((⟨l.toArray⟩ : ByteArray)[k]'hlt).toNat ∧ ((⟨l.toArray⟩ : ByteArray)[k]'hlt).toNat ≤ 57 := hok
            have hne : k ≠ j := fun e => by subst e; exact HB.out hok
            go_wp2
            all_goals go_roundw
            all_goals first | exact ⟨k + 1, by go_num, by omega, by trivial⟩ | (simp [intOf]; omega)
          · by_cases hlo : (l[k]'hlt).toNat < 48
            · have hk1 : ((⟨l.toArray⟩ : ByteArray)[k]'hlt).toNat < 48 := hlo
              clear hok
              go_wp2
              go_ret
              exact ⟨rfl, rfl⟩
            · have hk1 : 57 < ((⟨l.toArray⟩ : ByteArray)[k]'hlt).toNat := by show 57 < (l[k]'hlt).toNat; omega
              clear hok
              go_wp2
              go_ret
              exact ⟨rfl, rfl⟩
end Go.Proofs.YtbkeildnhimfbaaDoor
