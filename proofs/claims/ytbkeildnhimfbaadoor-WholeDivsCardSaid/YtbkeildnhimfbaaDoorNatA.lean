/-
  Contracts of package nat's small functions: significant, trimmed, padded, order, addTo: what each call returns and what it writes.
-/
import Derived.Test.YtbkeildnhimfbaaDoorBits
import Derived.Test.YtbkeildnhimfbaaDoorLaws
namespace Go.Proofs.YtbkeildnhimfbaaDoor
open Go.RowKit
set_option maxRecDepth 100000

set_option maxHeartbeats 400000 in
theorem sig_any (ao : Option Addr) (n cap : Nat) (xs : List Nat) (w : World) (h : Sl w .u32 (.slice ao n cap) xs) :
    Calls Tryd.prog 60 #[.slice ao n cap] w fun e w' => e = .returned (.slice ao (nz xs) cap) ∧ w = w' := by
  have H := Lib.hid h
  obtain ⟨ao', cap', e, h1, h2, h3, h4⟩ := h
  injection e with e1 e2 e3
  subst e1; subst e2; subst e3
  go_enter Tryd.func60, Tryd.ntmps60
  go_wp2
  go_loop [3] (fun n => ∃ k : Nat, k ≤ xs.length ∧ n = .int .i64 k ∧ Hid (nz (xs.take k) = nz xs)) (fun n => (intOf n).toNat)
  case atStart => exact ⟨xs.length, Nat.le_refl _, rfl, Lib.hid (by rw [List.take_length])⟩
  case round =>
    obtain ⟨k, hk, rfl, Hn⟩ := hrel
    by_cases h0 : 0 < k
    · obtain ⟨a, rfl, g⟩ := h4 (k-1) (by omega)
      clear h4
      go_wp2
      · have hz : (nth xs (k - 1) == 0) = true := by assumption
        go_round
        case rel => exact ⟨k - 1, by omega, by go_num, Lib.hid (by rw [← Hn.out, ← nz_zero (k := k - 1) (by omega) (by have := nth_eq (xs := xs) (i := k - 1) (by omega); simp at hz; unfold nth at hz; omega), show k - 1 + 1 = k by omega])⟩
        case measure => simp [intOf]; omega
      · have hz : (nth xs (k - 1) == 0) = false := by assumption
        have hk' : k = nz xs := by
          rw [← Hn.out, show k = (k - 1) + 1 by omega, nz_pos (by omega) (by simp at hz; unfold nth at hz; omega)]
        subst hk'
        go_ret
        exact ⟨rfl, rfl⟩
    · have hk' : k = nz xs := by
        rw [← Hn.out, show k = 0 by omega]; rfl
      have HK := Lib.hid hk'
      clear hk'
      have hk0 : k = 0 := by omega
      subst hk0
      go_wp2
      go_ret
      exact ⟨by rw [← HK.out]; rfl, rfl⟩

set_option maxHeartbeats 400000 in
theorem order_any (b : Bool) (w : World) : Calls Tryd.prog 68 #[.bool b] w fun e w' => e = .returned (.int .i64 (if b then -1 else 1)) ∧ w = w' := by
  cases b
  all_goals
    go_enter Tryd.func68, Tryd.ntmps68
    go_wp2
    go_ret
    exact ⟨rfl, rfl⟩

/-- What 'trimmed' returns. -/
def trimmedOf (ao : Option Addr) (cap : Nat) (xs : List Nat) : Value := if nz xs = 0 then .slice none 0 0 else .slice ao (nz xs) cap

set_option maxHeartbeats 400000 in
theorem trimmed_any (ao : Option Addr) (n cap : Nat) (xs : List Nat) (w : World) (h : Sl w .u32 (.slice ao n cap) xs) :
    Calls Tryd.prog 63 #[.slice ao n cap] w fun e w' => e = .returned (trimmedOf ao cap xs) ∧ w = w' := by
  by_cases h0 : nz xs = 0
  · have H0 := Lib.hid h0
    clear h0
    have hz : (((nz xs : Nat) : Int) == 0) = true := by rw [H0.out]; rfl
    go_enter Tryd.func63, Tryd.ntmps63
    go_wp2_with (go_at_call 60; refine (sig_any _ _ _ _ _ h).mono ?_; rintro e w' ⟨rfl, rfl⟩)
    go_ret
    exact ⟨by unfold trimmedOf; rw [if_pos H0.out]; rfl, rfl⟩
  · have hz : (((nz xs : Nat) : Int) == 0) = false := by simp; omega
    go_enter Tryd.func63, Tryd.ntmps63
    go_wp2_with (go_at_call 60; refine (sig_any _ _ _ _ _ h).mono ?_; rintro e w' ⟨rfl, rfl⟩)
    go_ret
    exact ⟨by unfold trimmedOf; rw [if_neg h0]; rfl, rfl⟩

theorem info51 : (Tryd.prog.info? 72).map (fun i => (i.zero, i.size, i.bytes)) = some (some (.int .u32 0), 1, 4) := by kernel_rfl
theorem size51 : (Tryd.prog.info? 72).map (·.size) = some 1 := by kernel_rfl

set_option maxHeartbeats 400000 in
theorem padded_any (ao : Option Addr) (m cap : Nat) (xs : List Nat) (n : Nat) (z : Int) (w : World) (h : Sl w .u32 (.slice ao m cap) xs) (hn : xs.length ≤ n) (hb : n ≤ 1073741824) (hzn : z = (n : Int)) :
    Calls Tryd.prog 61 #[.slice ao m cap, .int .i64 z] w fun e w' => ∃ v, e = .returned v ∧ Ws w' .u32 72 v w.heap.size [] (xs ++ List.replicate (n - xs.length) 0) [] ∧ Below w.heap.size w w' ∧ (n ≠ 0 → w.heap.size < w'.heap.size) := by
  subst hzn
  by_cases h0 : n = 0
  · subst h0
    have hx : xs = [] := List.eq_nil_of_length_eq_zero (by omega)
    subst hx
    go_enter Tryd.func61, Tryd.ntmps61
    go_wp2
    go_ret
    exact ⟨_, rfl, ⟨none, 0, rfl, by simp, by omega, fun _ => rfl, fun e => by simp at e⟩, Below.refl _ _, fun e => absurd rfl e⟩
  · obtain ⟨i0, hi, hz0, hz1, hz2⟩ := info_parts info51
    have hz : (((n : Nat) : Int) == 0) = false := by simp; omega
    go_enter Tryd.func61, Tryd.ntmps61
    go_wp2_with (at_make; refine wpList_make_blk _ rfl _ _ 23 rfl 72 i0 .u32 Tryd.underlying23 hi hz0 hz1 _ _ _ _ n rfl rfl rfl rfl ?b2 ?b3 ?_)
    case b2 => omega
    case b3 => omega
    intro w1 hB1 hb1 hs1
    go_wp2_with (with_reducible refine wpList_copy_blk rfl (.tmp 10) (.tmp 11) 23 23 rfl 72 Tryd.underlying23 size51 w.heap.size n n ao m cap rfl rfl .u32 72 _ xs hB1 ?c1 (h.below hb1) hn w.heap.size w hb1 (Nat.le_refl _) ?_)
    case c1 => simp
    intro w2 hB2 hb2
    go_wp2
    go_ret
    refine ⟨_, rfl, ?_, hb2, fun _ => hB2.lt⟩
    refine ⟨some ⟨w.heap.size, 0, none⟩, n, ?_, ?_, by omega, (fun e => by cases e), fun _ => ⟨rfl, ?_⟩⟩
    · simp; omega
    · simp; omega
    · simpa using hB2

theorem step_add {B : Nat} (t ys : List Nat) (S k cc : Nat) (hy : k < ys.length) (ht : k < t.length) (h : val B t + cc * B ^ k = S + val B (ys.take k)) :
    val B (t.set k ((t.getD k 0 + ys.getD k 0 + cc) % B)) + ((t.getD k 0 + ys.getD k 0 + cc) / B) * B ^ (k + 1) = S + val B (ys.take (k + 1)) := by
  have h1 := val_set B t k ((t.getD k 0 + ys.getD k 0 + cc) % B) ht
  rw [val_take_succ B ys k hy]
  have h2 := Nat.mod_add_div (t.getD k 0 + ys.getD k 0 + cc) B
  generalize (t.getD k 0 + ys.getD k 0 + cc) % B = r at *
  generalize (t.getD k 0 + ys.getD k 0 + cc) / B = q at *
  rw [Nat.pow_succ]
  grind
theorem step_carry {B : Nat} (t : List Nat) (S k cc : Nat) (ht : k < t.length) (h : val B t + cc * B ^ k = S) :
    val B (t.set k ((t.getD k 0 + cc) % B)) + ((t.getD k 0 + cc) / B) * B ^ (k + 1) = S := by
  have h1 := val_set B t k ((t.getD k 0 + cc) % B) ht
  have h2 := Nat.mod_add_div (t.getD k 0 + cc) B
  generalize (t.getD k 0 + cc) % B = r at *
  generalize (t.getD k 0 + cc) / B = q at *
  rw [Nat.pow_succ]
  grind
theorem end_carry {B : Nat} {t : List Nat} {S n cc : Nat} (hd : Dig B t) (hn : t.length = n) (h : val B t + cc * B ^ n = S) : val B t = S % B ^ n := by
  have h1 := val_lt hd
  rw [hn] at h1
  rw [← h, Nat.add_mul_mod_self_right, Nat.mod_eq_of_lt h1]

set_option maxHeartbeats 1000000 in
theorem addTo_any (g : Nat) (pre s post ys : List Nat) (vs vb : Value) (w : World) (hw : Ws w .u32 72 vs g pre s post) (hb : Sl w .u32 vb ys) (ha : Apart g vb) (hl : ys.length ≤ s.length)
   (hs : Dig 4294967296 s) (hy : Dig 4294967296 ys) :
    Calls Tryd.prog 62 #[vs, vb] w fun e w' => ∃ s', e = .returned (.tuple #[]) ∧ Ws w' .u32 72 vs g pre s' post ∧ w.grownBy w' (some g) ∧ s'.length = s.length ∧ Dig 4294967296 s' ∧
      val 4294967296 s' = (val 4294967296 s + val 4294967296 ys) % 4294967296 ^ s.length := by
  obtain ⟨ao, cap, rfl, h1, h2, h3, h4⟩ := hw
  have HB := Lib.hid hb
  obtain ⟨bo, bcap, rfl, k1, k2, k3, k4⟩ := hb
  go_enter Tryd.func62, Tryd.ntmps62
  go_wp2
  go_loopw [4, 10] (fun c i wr => ∃ (k : Nat) (t : List Nat) (cc : Nat), i = .int .i64 k ∧ c = .int .u32 (cc : Int) ∧ cc ≤ 1 ∧ k ≤ ys.length ∧ w.grownBy wr (some g) ∧ Hid (t.length = s.length) ∧ Dig 4294967296 t ∧
     WsAt wr .u32 72 ao g pre t post s.length ∧
     Hid (val 4294967296 t + cc * 4294967296 ^ k = val 4294967296 s + val 4294967296 (ys.take k)))
    (fun _ i _ => ys.length - (intOf i).toNat)
  case atStart => exact ⟨0, s, 0, rfl, rfl, by omega, by omega, World.grownBy.refl _ _, Lib.hid rfl, hs, h4, Lib.hid (by simp [val])⟩
  case round =>
    obtain ⟨k, t, cc, rfl, rfl, hcc, hk, hg, Ht, hdt, hB, HV⟩ := hrel
    by_cases hlt : k < ys.length
    · obtain ⟨b, rfl, hcb⟩ := k4 k hlt
      obtain ⟨rfl, hB'⟩ := hB (by omega)
      have hkt : k < t.length := by have := Ht.out; omega
      have hcb' := (HB.out.grown hg ha).at hlt
      have hct : wr.cell? ⟨g, pre.length + k, none⟩ = some (.int .u32 (nth t k)) := by
        rw [hB'.cell (by simp; omega), nth_mid _ _ _ _ hkt]
      have hft := hB'.frozen (pre.length + k)
      have y1 := u32_wf hy k
      have t1 := u32_wf hdt k
      clear hcb hB h4 k4
      go_wp2_with (go_at_call 85; refine (add32_any _ _ _ _ (by omega) (by omega) (by omega)).mono ?_; rintro e w' ⟨rfl, rfl⟩)
      go_roundw
      case rel =>
        refine ⟨k + 1, t.set k ((t.getD k 0 + ys.getD k 0 + cc) % 4294967296), (t.getD k 0 + ys.getD k 0 + cc) / 4294967296, by go_num, ?_, ?_, by omega, grown_setCell hg _, Lib.hid (by rw [List.length_set]; exact Ht.out), hdt.set (by omega), fun _ => ⟨rfl, ?_⟩, Lib.hid (step_add t ys _ k cc hlt hkt HV.out)⟩
        · congr 1
        · unfold nth at y1 t1; omega
        · rw [← set_mid _ _ _ _ _ hkt]
          exact hB'.set _ _ _ (by unfold nth; omega)
      case measure => simp [intOf]; omega
    · have hkk : k = ys.length := by omega
      subst hkk
      go_wp2
      clear hk hlt
      go_loopw [4, 7] (fun c i w2 => ∃ (j : Nat) (t : List Nat) (cc : Nat), i = .int .i64 j ∧ c = .int .u32 (cc : Int) ∧ cc ≤ 1 ∧ j ≤ s.length ∧ w.grownBy w2 (some g) ∧ Hid (t.length = s.length) ∧ Dig 4294967296 t ∧
         WsAt w2 .u32 72 ao g pre t post s.length ∧
         Hid (val 4294967296 t + cc * 4294967296 ^ j = val 4294967296 s + val 4294967296 ys))
        (fun _ i _ => s.length - (intOf i).toNat)
      case atStart => exact ⟨ys.length, t, cc, rfl, rfl, hcc, hl, hg, Ht, hdt, hB, Lib.hid (by rw [HV.out, List.take_length])⟩
      case round =>
        clear hB HV hdt Ht hg hcc k4
        obtain ⟨k, t, cc, rfl, rfl, hcc, hk, hg, Ht, hdt, hB, HV⟩ := hrel
        by_cases hlt : 0 < cc ∧ k < s.length
        · obtain ⟨hc0, hlt⟩ := hlt
          obtain ⟨rfl, hB'⟩ := hB (by omega)
          have hkt : k < t.length := by have := Ht.out; omega
          have hct : wr.cell? ⟨g, pre.length + k, none⟩ = some (.int .u32 (nth t k)) := by
            rw [hB'.cell (by simp; omega), nth_mid _ _ _ _ hkt]
          have hft := hB'.frozen (pre.length + k)
          have t1 := u32_wf hdt k
          clear hB h4
          go_wp2_with (go_at_call 85; refine (add32_any _ _ _ _ (by omega) (by omega) (by omega)).mono ?_; rintro e w' ⟨rfl, rfl⟩)
          go_roundw
          case rel =>
            refine ⟨k + 1, t.set k ((t.getD k 0 + cc) % 4294967296), (t.getD k 0 + cc) / 4294967296, by go_num, ?_, ?_, by omega, grown_setCell hg _, Lib.hid (by rw [List.length_set]; exact Ht.out), hdt.set (by omega), fun _ => ⟨rfl, ?_⟩, Lib.hid (step_carry t _ k cc hkt HV.out)⟩
            · congr 1
            · unfold nth at t1; omega
            · rw [← set_mid _ _ _ _ _ hkt]
              exact hB'.set _ _ _ (by unfold nth; omega)
          case measure => simp [intOf]; omega
        · have hend : val 4294967296 t = (val 4294967296 s + val 4294967296 ys) % 4294967296 ^ s.length := by
            by_cases h0 : cc = 0
            · have hv := HV.out
              subst h0
              rw [Nat.zero_mul, Nat.add_zero] at hv
              rw [← hv, Nat.mod_eq_of_lt (by rw [← Ht.out]; exact val_lt hdt)]
            · have : k = s.length := by omega
              subst this
              exact end_carry hdt Ht.out HV.out
          have Hend := Lib.hid hend
          clear hend
          have hfin : Ws wr .u32 72 (.slice ao s.length cap) g pre t post := ⟨ao, cap, by rw [Ht.out], by rw [Ht.out]; exact h1, h2, h3, by rw [Ht.out]; exact hB⟩
          clear h4
          by_cases hc0 : 0 < cc
          · go_wp2
            go_end0
            exact ⟨t, rfl, hfin, hg, Ht.out, hdt, Hend.out⟩
          · go_wp2
            go_end0
            exact ⟨t, rfl, hfin, hg, Ht.out, hdt, Hend.out⟩
end Go.Proofs.YtbkeildnhimfbaaDoor
