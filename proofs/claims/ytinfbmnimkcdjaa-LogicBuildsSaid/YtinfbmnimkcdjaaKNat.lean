/-
  Joined: Bits, NatA, NatB, NatC, NatD.
-/
import Derived.Test.YtinfbmnimkcdjaaRows
import Derived.Test.YtinfbmnimkcdjaaKBase
import Derived.Deep.QuietTactic
import Derived.BigQuiet
/- Contracts of math/bits: the sum and the difference of two limbs with a carry. -/
namespace Go.Proofs.Ytinfbmnimkcdjaa
open Go.RowKit
set_option maxRecDepth 100000

/-- The borrow of a subtraction of limbs. -/
def bor32 (x y c : Int) : Int := if x < y + c then 1 else 0

theorem testBit31 (n : Nat) (h : n < 4294967296) : n / 2147483648 = (n.testBit 31).toNat := by
  rw [Nat.testBit_eq_decide_div_mod_eq]
  have : n / 2 ^ 31 < 2 := by omega
  rcases (show n / 2 ^ 31 = 0 ∨ n / 2 ^ 31 = 1 by omega) with h | h <;> simp [h] <;> omega
theorem top31 (n : Nat) (h : n < 4294967296) : n.testBit 31 = decide (2147483648 ≤ n) := by
  have := testBit31 n h
  cases hb : n.testBit 31
  · rw [hb] at this; simp at this ⊢; omega
  · rw [hb] at this; simp at this ⊢; omega

theorem borrow_bits (x y d : Nat) (hx : x < 4294967296) (hy : y < 4294967296) (hd : d < 4294967296) :
    (((4294967295 ^^^ x) &&& y) ||| ((4294967295 ^^^ (x ^^^ y)) &&& d)) / 2147483648 =
      if (x < 2147483648 ∧ 2147483648 ≤ y) ∨ ((x < 2147483648 ↔ y < 2147483648) ∧ 2147483648 ≤ d) then 1 else 0 := by
  have l1 : (4294967295 ^^^ x) < 2 ^ 32 := Nat.xor_lt_two_pow (by omega) (by omega)
  have l2 : (x ^^^ y) < 2 ^ 32 := Nat.xor_lt_two_pow (by omega) (by omega)
  have l3 : (4294967295 ^^^ (x ^^^ y)) < 2 ^ 32 := Nat.xor_lt_two_pow (by omega) l2
  have l4 : (4294967295 ^^^ x) &&& y < 2 ^ 32 := Nat.and_lt_two_pow _ (by omega)
  have l5 : (4294967295 ^^^ (x ^^^ y)) &&& d < 2 ^ 32 := Nat.and_lt_two_pow _ (by omega)
  rw [testBit31 _ (Nat.or_lt_two_pow l4 l5)]
  simp only [Nat.testBit_or, Nat.testBit_and, Nat.testBit_xor]
  rw [top31 x hx, top31 y hy, top31 d hd, top31 4294967295 (by omega)]
  by_cases a : x < 2147483648 <;> by_cases b : y < 2147483648 <;> by_cases c : 2147483648 ≤ d <;> simp [a, b, c, Nat.not_le.2, Nat.not_lt.1] <;> omega

theorem borrow_u32 (x y c : Int) (hx : 0 ≤ x ∧ x < 4294967296) (hy : 0 ≤ y ∧ y < 4294967296) (hc : 0 ≤ c ∧ c ≤ 1) :
    bits BinOp.or IntKind.u32 (bits BinOp.and IntKind.u32 (bits BinOp.xor IntKind.u32 IntKind.u32.max x) y)
                (bits BinOp.and IntKind.u32 (bits BinOp.xor IntKind.u32 IntKind.u32.max (bits BinOp.xor IntKind.u32 x y)) ((x - y - c) % 4294967296)) / 2147483648 = bor32 x y c := by
  obtain ⟨X, rfl⟩ := Int.eq_ofNat_of_zero_le hx.1
  obtain ⟨Y, rfl⟩ := Int.eq_ofNat_of_zero_le hy.1
  obtain ⟨D, hD⟩ := Int.eq_ofNat_of_zero_le (show 0 ≤ ((X : Int) - Y - c) % 4294967296 by omega)
  have hX : X < 4294967296 := by omega
  have hY : Y < 4294967296 := by omega
  have hD' : D < 4294967296 := by omega
  have em : IntKind.u32.max = ((4294967295 : Nat) : Int) := by decide
  have l1 : (4294967295 ^^^ X) < 2 ^ 32 := Nat.xor_lt_two_pow (by omega) (by omega)
  have l2 : (X ^^^ Y) < 2 ^ 32 := Nat.xor_lt_two_pow (by omega) (by omega)
  have l3 : (4294967295 ^^^ (X ^^^ Y)) < 2 ^ 32 := Nat.xor_lt_two_pow (by omega) l2
  have l4 : (4294967295 ^^^ X) &&& Y < 2 ^ 32 := Nat.and_lt_two_pow _ (by omega)
  have l5 : (4294967295 ^^^ (X ^^^ Y)) &&& D < 2 ^ 32 := Nat.and_lt_two_pow _ (by omega)
  rw [hD, em, u32_xor_nat _ _ (by omega) hX, u32_xor_nat X Y hX hY, u32_xor_nat _ _ (by omega) (by omega), u32_and_nat _ _ (by omega) hY, u32_and_nat _ _ (by omega) hD', u32_or_nat _ _ (by omega) (by omega)]
  have hb := borrow_bits X Y D hX hY hD'
  have e : ((((4294967295 ^^^ X) &&& Y ||| (4294967295 ^^^ (X ^^^ Y)) &&& D : Nat) : Int)) / 2147483648 = (((((4294967295 ^^^ X) &&& Y) ||| ((4294967295 ^^^ (X ^^^ Y)) &&& D)) / 2147483648 : Nat) : Int) := by omega
  rw [e, hb]
  unfold bor32
  by_cases h : (X : Int) < Y + c
  · rw [if_pos h, if_pos (by omega)]; rfl
  · rw [if_neg h, if_neg (by omega)]; rfl

set_option maxHeartbeats 400000 in
theorem add32_any (x y c : Int) (w : World) (hx : 0 ≤ x ∧ x < 4294967296)  (hy : 0 ≤ y ∧ y < 4294967296) (hc : 0 ≤ c ∧ c ≤ 1) :
    Calls Try.prog 84 #[.int .u32 x, .int .u32 y, .int .u32 c] w fun e w' => e = .returned (.tuple #[.int .u32 ((x + y + c) % 4294967296), .int .u32 ((x + y + c) / 4294967296)]) ∧ w = w' := by
  go_enter Try.func84, Try.ntmps84
  go_wp2
  go_ret2
  exact ⟨rfl, rfl⟩
set_option maxHeartbeats 400000 in
theorem sub32_any (x y c : Int) (w : World) (hx : 0 ≤ x ∧ x < 4294967296)  (hy : 0 ≤ y ∧ y < 4294967296) (hc : 0 ≤ c ∧ c ≤ 1) :
    Calls Try.prog 85 #[.int .u32 x, .int .u32 y, .int .u32 c] w fun e w' => e = .returned (.tuple #[.int .u32 ((x - y - c) % 4294967296), .int .u32 (bor32 x y c)]) ∧ w = w' := by
  have hb := Lib.hid (borrow_u32 x y c hx hy hc)
  go_enter Try.func85, Try.ntmps85
  go_wp2
  all_goals first
    | (go_ret2; exact ⟨by rw [← hb.out]; rfl, rfl⟩)
    | (exfalso; rename_i h; exact h rfl)
end Go.Proofs.Ytinfbmnimkcdjaa

/- Contracts of package nat's small functions: significant, trimmed, padded, order, addTo: what each call returns and what it writes. -/
namespace Go.Proofs.Ytinfbmnimkcdjaa
open Go.RowKit
set_option maxRecDepth 100000

set_option maxHeartbeats 400000 in
theorem sig_any (ao : Option Addr) (n cap : Nat) (xs : List Nat) (w : World) (h : Sl w .u32 (.slice ao n cap) xs) :
    Calls Try.prog 68 #[.slice ao n cap] w fun e w' => e = .returned (.slice ao (nz xs) cap) ∧ w = w' := by
  have H := Lib.hid h
  obtain ⟨ao', cap', e, h1, h2, h3, h4⟩ := h
  injection e with e1 e2 e3
  subst e1; subst e2; subst e3
  go_enter Try.func68, Try.ntmps68
  go_wp2
  go_loop [3] (fun n => ∃ k : Nat, k ≤ xs.length ∧ n = .int .i64 k ∧ Hid (nz (xs.take k) = nz xs)) (fun n => (intOf n).toNat)
  case atStart => exact ⟨xs.length, Nat.le_refl _, rfl, Lib.hid (by rw [List.take_length])⟩
  case round =>
    obtain ⟨k, hk, rfl, Hn⟩ := hrel
    by_cases h0 : 0 < k
    · obtain ⟨a, rfl, g⟩ := h4 (k-1) (by omega)
      clear h4
      go_wp2
      · have hz : (nth xs (k - 1) == 0) = true := by assumption
        go_round
        case rel => exact ⟨k - 1, by omega, by go_num, Lib.hid (by rw [← Hn.out, ← nz_zero (k := k - 1) (by omega) (by have := nth_eq (xs := xs) (i := k - 1) (by omega); simp at hz; unfold nth at hz; omega), show k - 1 + 1 = k by omega])⟩
        case measure => simp [intOf]; omega
      · have hz : (nth xs (k - 1) == 0) = false := by assumption
        have hk' : k = nz xs := by
          rw [← Hn.out, show k = (k - 1) + 1 by omega, nz_pos (by omega) (by simp at hz; unfold nth at hz; omega)]
        subst hk'
        go_ret
        exact ⟨rfl, rfl⟩
    · have hk' : k = nz xs := by
        rw [← Hn.out, show k = 0 by omega]; rfl
      have HK := Lib.hid hk'
      clear hk'
      have hk0 : k = 0 := by omega
      subst hk0
      go_wp2
      go_ret
      exact ⟨by rw [← HK.out]; rfl, rfl⟩

set_option maxHeartbeats 400000 in
theorem order_any (b : Bool) (w : World) : Calls Try.prog 69 #[.bool b] w fun e w' => e = .returned (.int .i64 (if b then -1 else 1)) ∧ w = w' := by
  cases b
  all_goals
    go_enter Try.func69, Try.ntmps69
    go_wp2
    go_ret
    exact ⟨rfl, rfl⟩

/-- What 'trimmed' returns. -/
def trimmedOf (ao : Option Addr) (cap : Nat) (xs : List Nat) : Value := if nz xs = 0 then .slice none 0 0 else .slice ao (nz xs) cap

set_option maxHeartbeats 400000 in
theorem trimmed_any (ao : Option Addr) (n cap : Nat) (xs : List Nat) (w : World) (h : Sl w .u32 (.slice ao n cap) xs) :
    Calls Try.prog 71 #[.slice ao n cap] w fun e w' => e = .returned (trimmedOf ao cap xs) ∧ w = w' := by
  by_cases h0 : nz xs = 0
  · have H0 := Lib.hid h0
    clear h0
    have hz : (((nz xs : Nat) : Int) == 0) = true := by rw [H0.out]; rfl
    go_enter Try.func71, Try.ntmps71
    go_wp2_with (go_at_call 68; refine (sig_any _ _ _ _ _ h).mono ?_; rintro e w' ⟨rfl, rfl⟩)
    go_ret
    exact ⟨by unfold trimmedOf; rw [if_pos H0.out]; rfl, rfl⟩
  · have hz : (((nz xs : Nat) : Int) == 0) = false := by simp; omega
    go_enter Try.func71, Try.ntmps71
    go_wp2_with (go_at_call 68; refine (sig_any _ _ _ _ _ h).mono ?_; rintro e w' ⟨rfl, rfl⟩)
    go_ret
    exact ⟨by unfold trimmedOf; rw [if_neg h0]; rfl, rfl⟩

theorem info51 : (Try.prog.info? 97).map (fun i => (i.zero, i.size, i.bytes)) = some (some (.int .u32 0), 1, 4) := by kernel_rfl
theorem size51 : (Try.prog.info? 97).map (·.size) = some 1 := by kernel_rfl

set_option maxHeartbeats 400000 in
theorem padded_any (ao : Option Addr) (m cap : Nat) (xs : List Nat) (n : Nat) (z : Int) (w : World) (h : Sl w .u32 (.slice ao m cap) xs) (hn : xs.length ≤ n) (hb : n ≤ 1073741824) (hzn : z = (n : Int)) :
    Calls Try.prog 72 #[.slice ao m cap, .int .i64 z] w fun e w' => ∃ v, e = .returned v ∧ Ws w' .u32 97 v w.heap.size [] (xs ++ List.replicate (n - xs.length) 0) [] ∧ Below w.heap.size w w' ∧ (n ≠ 0 → w.heap.size < w'.heap.size) := by
  subst hzn
  by_cases h0 : n = 0
  · subst h0
    have hx : xs = [] := List.eq_nil_of_length_eq_zero (by omega)
    subst hx
    go_enter Try.func72, Try.ntmps72
    go_wp2
    go_ret
    exact ⟨_, rfl, ⟨none, 0, rfl, by simp, by omega, fun _ => rfl, fun e => by simp at e⟩, Below.refl _ _, fun e => absurd rfl e⟩
  · obtain ⟨i0, hi, hz0, hz1, hz2⟩ := info_parts info51
    have hz : (((n : Nat) : Int) == 0) = false := by simp; omega
    go_enter Try.func72, Try.ntmps72
    go_wp2_with (at_make; refine wpList_make_blk _ rfl _ _ 24 rfl 97 i0 .u32 Try.underlying24 hi hz0 hz1 _ _ _ _ n rfl rfl rfl rfl ?b2 ?b3 ?_)
    case b2 => omega
    case b3 => omega
    intro w1 hB1 hb1 hs1
    go_wp2_with (with_reducible refine wpList_copy_blk rfl (.tmp 10) (.tmp 11) 24 24 rfl 97 Try.underlying24 size51 w.heap.size n n ao m cap rfl rfl .u32 97 _ xs hB1 ?c1 (h.below hb1) hn w.heap.size w hb1 (Nat.le_refl _) ?_)
    case c1 => simp
    intro w2 hB2 hb2
    go_wp2
    go_ret
    refine ⟨_, rfl, ?_, hb2, fun _ => hB2.lt⟩
    refine ⟨some ⟨w.heap.size, 0, none⟩, n, ?_, ?_, by omega, (fun e => by cases e), fun _ => ⟨rfl, ?_⟩⟩
    · simp; omega
    · simp; omega
    · simpa using hB2

theorem step_add {B : Nat} (t ys : List Nat) (S k cc : Nat) (hy : k < ys.length) (ht : k < t.length) (h : val B t + cc * B ^ k = S + val B (ys.take k)) :
    val B (t.set k ((t.getD k 0 + ys.getD k 0 + cc) % B)) + ((t.getD k 0 + ys.getD k 0 + cc) / B) * B ^ (k + 1) = S + val B (ys.take (k + 1)) := by
  have h1 := val_set B t k ((t.getD k 0 + ys.getD k 0 + cc) % B) ht
  rw [val_take_succ B ys k hy]
  have h2 := Nat.mod_add_div (t.getD k 0 + ys.getD k 0 + cc) B
  generalize (t.getD k 0 + ys.getD k 0 + cc) % B = r at *
  generalize (t.getD k 0 + ys.getD k 0 + cc) / B = q at *
  rw [Nat.pow_succ]
  grind
theorem step_carry {B : Nat} (t : List Nat) (S k cc : Nat) (ht : k < t.length) (h : val B t + cc * B ^ k = S) :
    val B (t.set k ((t.getD k 0 + cc) % B)) + ((t.getD k 0 + cc) / B) * B ^ (k + 1) = S := by
  have h1 := val_set B t k ((t.getD k 0 + cc) % B) ht
  have h2 := Nat.mod_add_div (t.getD k 0 + cc) B
  generalize (t.getD k 0 + cc) % B = r at *
  generalize (t.getD k 0 + cc) / B = q at *
  rw [Nat.pow_succ]
  grind
theorem end_carry {B : Nat} {t : List Nat} {S n cc : Nat} (hd : Dig B t) (hn : t.length = n) (h : val B t + cc * B ^ n = S) : val B t = S % B ^ n := by
  have h1 := val_lt hd
  rw [hn] at h1
  rw [← h, Nat.add_mul_mod_self_right, Nat.mod_eq_of_lt h1]

set_option maxHeartbeats 1000000 in
theorem addTo_any (g : Nat) (pre s post ys : List Nat) (vs vb : Value) (w : World) (hw : Ws w .u32 97 vs g pre s post) (hb : Sl w .u32 vb ys) (ha : Apart g vb) (hl : ys.length ≤ s.length)
   (hs : Dig 4294967296 s) (hy : Dig 4294967296 ys) :
    Calls Try.prog 73 #[vs, vb] w fun e w' => ∃ s', e = .returned (.tuple #[]) ∧ Ws w' .u32 97 vs g pre s' post ∧ w.grownBy w' (some g) ∧ s'.length = s.length ∧ Dig 4294967296 s' ∧
      val 4294967296 s' = (val 4294967296 s + val 4294967296 ys) % 4294967296 ^ s.length := by
  obtain ⟨ao, cap, rfl, h1, h2, h3, h4⟩ := hw
  have HB := Lib.hid hb
  obtain ⟨bo, bcap, rfl, k1, k2, k3, k4⟩ := hb
  go_enter Try.func73, Try.ntmps73
  go_wp2
  go_loopw [4, 10] (fun c i wr => ∃ (k : Nat) (t : List Nat) (cc : Nat), i = .int .i64 k ∧ c = .int .u32 (cc : Int) ∧ cc ≤ 1 ∧ k ≤ ys.length ∧ w.grownBy wr (some g) ∧ Hid (t.length = s.length) ∧ Dig 4294967296 t ∧
     WsAt wr .u32 97 ao g pre t post s.length ∧
     Hid (val 4294967296 t + cc * 4294967296 ^ k = val 4294967296 s + val 4294967296 (ys.take k)))
    (fun _ i _ => ys.length - (intOf i).toNat)
  case atStart => exact ⟨0, s, 0, rfl, rfl, by omega, by omega, World.grownBy.refl _ _, Lib.hid rfl, hs, h4, Lib.hid (by simp [val])⟩
  case round =>
    obtain ⟨k, t, cc, rfl, rfl, hcc, hk, hg, Ht, hdt, hB, HV⟩ := hrel
    by_cases hlt : k < ys.length
    · obtain ⟨b, rfl, hcb⟩ := k4 k hlt
      obtain ⟨rfl, hB'⟩ := hB (by omega)
      have hkt : k < t.length := by have := Ht.out; omega
      have hcb' := (HB.out.grown hg ha).at hlt
      have hct : wr.cell? ⟨g, pre.length + k, none⟩ = some (.int .u32 (nth t k)) := by
        rw [hB'.cell (by simp; omega), nth_mid _ _ _ _ hkt]
      have hft := hB'.frozen (pre.length + k)
      have y1 := u32_wf hy k
      have t1 := u32_wf hdt k
      clear hcb hB h4 k4
      go_wp2_with (go_at_call 84; refine (add32_any _ _ _ _ (by omega) (by omega) (by omega)).mono ?_; rintro e w' ⟨rfl, rfl⟩)
      go_roundw
      case rel =>
        refine ⟨k + 1, t.set k ((t.getD k 0 + ys.getD k 0 + cc) % 4294967296), (t.getD k 0 + ys.getD k 0 + cc) / 4294967296, by go_num, ?_, ?_, by omega, grown_setCell hg _, Lib.hid (by rw [List.length_set]; exact Ht.out), hdt.set (by omega), fun _ => ⟨rfl, ?_⟩, Lib.hid (step_add t ys _ k cc hlt hkt HV.out)⟩
        · congr 1
        · unfold nth at y1 t1; omega
        · rw [← set_mid _ _ _ _ _ hkt]
          exact hB'.set _ _ _ (by unfold nth; omega)
      case measure => simp [intOf]; omega
    · have hkk : k = ys.length := by omega
      subst hkk
      go_wp2
      clear hk hlt
      go_loopw [4, 7] (fun c i w2 => ∃ (j : Nat) (t : List Nat) (cc : Nat), i = .int .i64 j ∧ c = .int .u32 (cc : Int) ∧ cc ≤ 1 ∧ j ≤ s.length ∧ w.grownBy w2 (some g) ∧ Hid (t.length = s.length) ∧ Dig 4294967296 t ∧
         WsAt w2 .u32 97 ao g pre t post s.length ∧
         Hid (val 4294967296 t + cc * 4294967296 ^ j = val 4294967296 s + val 4294967296 ys))
        (fun _ i _ => s.length - (intOf i).toNat)
      case atStart => exact ⟨ys.length, t, cc, rfl, rfl, hcc, hl, hg, Ht, hdt, hB, Lib.hid (by rw [HV.out, List.take_length])⟩
      case round =>
        clear hB HV hdt Ht hg hcc k4
        obtain ⟨k, t, cc, rfl, rfl, hcc, hk, hg, Ht, hdt, hB, HV⟩ := hrel
        by_cases hlt : 0 < cc ∧ k < s.length
        · obtain ⟨hc0, hlt⟩ := hlt
          obtain ⟨rfl, hB'⟩ := hB (by omega)
          have hkt : k < t.length := by have := Ht.out; omega
          have hct : wr.cell? ⟨g, pre.length + k, none⟩ = some (.int .u32 (nth t k)) := by
            rw [hB'.cell (by simp; omega), nth_mid _ _ _ _ hkt]
          have hft := hB'.frozen (pre.length + k)
          have t1 := u32_wf hdt k
          clear hB h4
          go_wp2_with (go_at_call 84; refine (add32_any _ _ _ _ (by omega) (by omega) (by omega)).mono ?_; rintro e w' ⟨rfl, rfl⟩)
          go_roundw
          case rel =>
            refine ⟨k + 1, t.set k ((t.getD k 0 + cc) % 4294967296), (t.getD k 0 + cc) / 4294967296, by go_num, ?_, ?_, by omega, grown_setCell hg _, Lib.hid (by rw [List.length_set]; exact Ht.out), hdt.set (by omega), fun _ => ⟨rfl, ?_⟩, Lib.hid (step_carry t _ k cc hkt HV.out)⟩
            · congr 1
            · unfold nth at t1; omega
            · rw [← set_mid _ _ _ _ _ hkt]
              exact hB'.set _ _ _ (by unfold nth; omega)
          case measure => simp [intOf]; omega
        · have hend : val 4294967296 t = (val 4294967296 s + val 4294967296 ys) % 4294967296 ^ s.length := by
            by_cases h0 : cc = 0
            · have hv := HV.out
              subst h0
              rw [Nat.zero_mul, Nat.add_zero] at hv
              rw [← hv, Nat.mod_eq_of_lt (by rw [← Ht.out]; exact val_lt hdt)]
            · have : k = s.length := by omega
              subst this
              exact end_carry hdt Ht.out HV.out
          have Hend := Lib.hid hend
          clear hend
          have hfin : Ws wr .u32 97 (.slice ao s.length cap) g pre t post := ⟨ao, cap, by rw [Ht.out], by rw [Ht.out]; exact h1, h2, h3, by rw [Ht.out]; exact hB⟩
          clear h4
          by_cases hc0 : 0 < cc
          · go_wp2
            go_end0
            exact ⟨t, rfl, hfin, hg, Ht.out, hdt, Hend.out⟩
          · go_wp2
            go_end0
            exact ⟨t, rfl, hfin, hg, Ht.out, hdt, Hend.out⟩
end Go.Proofs.Ytinfbmnimkcdjaa

/- Contracts of package nat: subFrom, Cmp, Add, Sub, Trim. -/
namespace Go.Proofs.Ytinfbmnimkcdjaa
open Go.RowKit
set_option maxRecDepth 100000

/-- The base of a limb. -/
abbrev L32 : Nat := 4294967296

theorem step_sub {B : Nat} (t ys : List Nat) (S k cc v b : Nat) (hy : k < ys.length) (ht : k < t.length) (h : val B t + val B (ys.take k) = S + cc * B ^ k) (hv : v + ys.getD k 0 + cc = t.getD k 0 + b * B) :
    val B (t.set k v) + val B (ys.take (k + 1)) = S + b * B ^ (k + 1) := by
  have h1 := val_set B t k v ht
  rw [val_take_succ B ys k hy, Nat.pow_succ]
  generalize B ^ k = P at *
  have h3 : v * P + ys.getD k 0 * P + cc * P = t.getD k 0 * P + b * B * P := by rw [← Nat.add_mul, ← Nat.add_mul, hv, Nat.add_mul]
  grind
theorem step_borrow {B : Nat} (t : List Nat) (S Y k cc v b : Nat) (ht : k < t.length) (h : val B t + Y = S + cc * B ^ k) (hv : v + cc = t.getD k 0 + b * B) :
    val B (t.set k v) + Y = S + b * B ^ (k + 1) := by
  have h1 := val_set B t k v ht
  rw [Nat.pow_succ]
  generalize B ^ k = P at *
  have h3 : v * P + cc * P = t.getD k 0 * P + b * B * P := by rw [← Nat.add_mul, hv, Nat.add_mul]
  grind

theorem bor32_nat (x y c : Nat) (hx : x < 4294967296) (hy : y < 4294967296) (hc : c ≤ 1) :
    ∃ b : Nat, bor32 x y c = (b : Int) ∧ b ≤ 1 ∧ ∃ v : Nat, ((x : Int) - y - c) % 4294967296 = (v : Int) ∧ v < 4294967296 ∧ v + y + c = x + b * 4294967296 := by
  unfold bor32
  by_cases h : (x : Int) < y + c
  · rw [if_pos h]
    exact ⟨1, rfl, by omega, (((x : Int) - y - c) % 4294967296).toNat, by omega, by omega, by omega⟩
  · rw [if_neg h]
    exact ⟨0, rfl, by omega, (((x : Int) - y - c) % 4294967296).toNat, by omega, by omega, by omega⟩

set_option maxHeartbeats 1000000 in
theorem subFrom_any (g : Nat) (pre s post ys : List Nat) (vs vb : Value) (w : World) (hw : Ws w .u32 97 vs g pre s post) (hb : Sl w .u32 vb ys) (ha : Apart g vb) (hl : ys.length ≤ s.length)
   (hs : Dig 4294967296 s) (hy : Dig 4294967296 ys) (hle : val 4294967296 ys ≤ val 4294967296 s) :
    Calls Try.prog 74 #[vs, vb] w fun e w' => ∃ s', e = .returned (.tuple #[]) ∧ Ws w' .u32 97 vs g pre s' post ∧ w.grownBy w' (some g) ∧ s'.length = s.length ∧ Dig 4294967296 s' ∧
      val 4294967296 s' = val 4294967296 s - val 4294967296 ys := by
  have HLE := Lib.hid hle
  clear hle
  obtain ⟨ao, cap, rfl, h1, h2, h3, h4⟩ := hw
  have HB := Lib.hid hb
  obtain ⟨bo, bcap, rfl, k1, k2, k3, k4⟩ := hb
  go_enter Try.func74, Try.ntmps74
  go_wp2
  go_loopw [4, 10] (fun c i wr => ∃ (k : Nat) (t : List Nat) (cc : Nat), i = .int .i64 k ∧ c = .int .u32 (cc : Int) ∧ cc ≤ 1 ∧ k ≤ ys.length ∧ w.grownBy wr (some g) ∧ Hid (t.length = s.length) ∧ Dig 4294967296 t ∧
     WsAt wr .u32 97 ao g pre t post s.length ∧
     Hid (val 4294967296 t + val 4294967296 (ys.take k) = val 4294967296 s + cc * 4294967296 ^ k))
    (fun _ i _ => ys.length - (intOf i).toNat)
  case atStart => exact ⟨0, s, 0, rfl, rfl, by omega, by omega, World.grownBy.refl _ _, Lib.hid rfl, hs, h4, Lib.hid (by simp [val])⟩
  case round =>
    obtain ⟨k, t, cc, rfl, rfl, hcc, hk, hg, Ht, hdt, hB, HV⟩ := hrel
    by_cases hlt : k < ys.length
    · obtain ⟨b, rfl, hcb⟩ := k4 k hlt
      obtain ⟨rfl, hB'⟩ := hB (by omega)
      have hkt : k < t.length := by have := Ht.out; omega
      have hcb' := (HB.out.grown hg ha).at hlt
      have hct : wr.cell? ⟨g, pre.length + k, none⟩ = some (.int .u32 (nth t k)) := by
        rw [hB'.cell (by simp; omega), nth_mid _ _ _ _ hkt]
      have hft := hB'.frozen (pre.length + k)
      have y1 := u32_wf hy k
      have t1 := u32_wf hdt k
      clear hcb hB h4 k4
      go_wp2_with (go_at_call 85; refine (sub32_any _ _ _ _ (by omega) (by omega) (by omega)).mono ?_; rintro e w' ⟨rfl, rfl⟩)
      go_roundw
      case rel =>
        obtain ⟨b', e1, e2, v', e3, e4, e5⟩ := bor32_nat (t.getD k 0) (ys.getD k 0) cc (by unfold nth at t1; omega) (by unfold nth at y1; omega) hcc
        refine ⟨k + 1, t.set k v', b', by go_num, ?_, e2, by omega, grown_setCell hg _, Lib.hid (by rw [List.length_set]; exact Ht.out), hdt.set e4, fun _ => ⟨rfl, ?_⟩, Lib.hid (step_sub t ys _ k cc v' b' hlt hkt HV.out e5)⟩
        · rw [← e1]; rfl
        · rw [← set_mid _ _ _ _ _ hkt]
          exact hB'.set _ _ _ e3
      case measure => simp [intOf]; omega
    · have hkk : k = ys.length := by omega
      subst hkk
      go_wp2
      clear hk hlt
      go_loopw [4, 7] (fun c i w2 => ∃ (j : Nat) (t : List Nat) (cc : Nat), i = .int .i64 j ∧ c = .int .u32 (cc : Int) ∧ cc ≤ 1 ∧ j ≤ s.length ∧ w.grownBy w2 (some g) ∧ Hid (t.length = s.length) ∧ Dig 4294967296 t ∧
         WsAt w2 .u32 97 ao g pre t post s.length ∧
         Hid (val 4294967296 t + val 4294967296 ys = val 4294967296 s + cc * 4294967296 ^ j))
        (fun _ i _ => s.length - (intOf i).toNat)
      case atStart => exact ⟨ys.length, t, cc, rfl, rfl, hcc, hl, hg, Ht, hdt, hB, Lib.hid (by rw [← HV.out, List.take_length])⟩
      case round =>
        clear hB HV hdt Ht hg hcc k4
        obtain ⟨k, t, cc, rfl, rfl, hcc, hk, hg, Ht, hdt, hB, HV⟩ := hrel
        by_cases hc0 : 0 < cc
        · have hlt : k < s.length := by
            rcases Nat.lt_or_ge k s.length with h | h
            · exact h
            · exfalso
              have hk' : k = s.length := by omega
              have hv := HV.out
              have hv2 := val_lt hdt
              have hle := HLE.out
              rw [Ht.out] at hv2
              rw [hk', show cc = 1 by omega] at hv
              omega
          obtain ⟨rfl, hB'⟩ := hB (by omega)
          have hkt : k < t.length := by have := Ht.out; omega
          have hct : wr.cell? ⟨g, pre.length + k, none⟩ = some (.int .u32 (nth t k)) := by
            rw [hB'.cell (by simp; omega), nth_mid _ _ _ _ hkt]
          have hft := hB'.frozen (pre.length + k)
          have t1 := u32_wf hdt k
          clear hB h4
          go_wp2_with (go_at_call 85; refine (sub32_any _ _ _ _ (by omega) (by omega) (by omega)).mono ?_; rintro e w' ⟨rfl, rfl⟩)
          go_roundw
          case rel =>
            obtain ⟨b', e1, e2, v', e3, e4, e5⟩ := bor32_nat (t.getD k 0) 0 cc (by unfold nth at t1; omega) (by omega) hcc
            refine ⟨k + 1, t.set k v', b', by go_num, ?_, e2, by omega, grown_setCell hg _, Lib.hid (by rw [List.length_set]; exact Ht.out), hdt.set e4, fun _ => ⟨rfl, ?_⟩, Lib.hid (step_borrow t _ _ k cc v' b' hkt HV.out (by omega))⟩
            · rw [← e1]; rfl
            · rw [← set_mid _ _ _ _ _ hkt]
              exact hB'.set _ _ _ (by rw [← e3]; unfold nth; omega)
          case measure => simp [intOf]; omega
        · have hend : val 4294967296 t = val 4294967296 s - val 4294967296 ys := by
            have hv := HV.out
            rw [show cc = 0 by omega, Nat.zero_mul, Nat.add_zero] at hv
            omega
          have Hend := Lib.hid hend
          clear hend
          have hfin : Ws wr .u32 97 (.slice ao s.length cap) g pre t post := ⟨ao, cap, by rw [Ht.out], by rw [Ht.out]; exact h1, h2, h3, by rw [Ht.out]; exact hB⟩
          clear h4
          go_wp2
          go_end0
          exact ⟨t, rfl, hfin, hg, Ht.out, hdt, Hend.out⟩

/-- -1, 0 or 1 as a is less than, equal to or greater than b. -/
def cmpN (a b : Nat) : Int := if a < b then -1 else if a = b then 0 else 1

theorem cmp_len {xs ys : List Nat} (hx : Dig L32 xs) (hy : Dig L32 ys) (h : nz xs < nz ys) : val L32 xs < val L32 ys := by
  have h1 := length_dig_val (B := L32) (by decide) hx
  have h2 := length_dig_val (B := L32) (by decide) hy
  exact Nat.lt_of_lt_of_le (lt_pow_of_length (B := L32) (k := nz xs) (by decide) (by omega)) (le_of_length (by decide) (by omega))
theorem val_split (B : Nat) (xs : List Nat) (k : Nat) (h : k ≤ xs.length) : val B xs = val B (xs.take k) + B ^ k * val B (xs.drop k) := by
  have := val_append B (xs.take k) (xs.drop k)
  rw [List.take_append_drop] at this
  rw [this, List.length_take, Nat.min_eq_left h]
theorem cmp_top {B : Nat} {xs ys : List Nat} {k : Nat} (hx : Dig B xs) (hk : k < xs.length) (hk' : k < ys.length) (he : xs.drop (k + 1) = ys.drop (k + 1)) (h : xs.getD k 0 < ys.getD k 0) : val B xs < val B ys := by
  rw [val_split B xs (k + 1) (by omega), val_split B ys (k + 1) (by omega), he, val_take_succ B xs k hk, val_take_succ B ys k hk']
  have h1 := val_lt (hx.take k)
  rw [List.length_take, Nat.min_eq_left (by omega)] at h1
  have h2 : (xs.getD k 0 + 1) * B ^ k ≤ ys.getD k 0 * B ^ k := Nat.mul_le_mul_right _ h
  rw [Nat.add_mul, Nat.one_mul] at h2
  omega
theorem drop_step {xs ys : List Nat} {k : Nat} (hk : k < xs.length) (hk' : k < ys.length) (he : xs.drop (k + 1) = ys.drop (k + 1)) (h : xs.getD k 0 = ys.getD k 0) : xs.drop k = ys.drop k := by
  rw [List.drop_eq_getElem_cons hk, List.drop_eq_getElem_cons hk', he]
  congr 1
  simpa [List.getD, hk, hk'] using h

end Go.Proofs.Ytinfbmnimkcdjaa

/- Contracts of package nat: Cmp. -/
namespace Go.Proofs.Ytinfbmnimkcdjaa
open Go.RowKit
set_option maxRecDepth 100000

theorem cmpN_lt {a b : Nat} (h : a < b) : cmpN a b = -1 := by unfold cmpN; rw [if_pos h]
theorem cmpN_gt {a b : Nat} (h : b < a) : cmpN a b = 1 := by unfold cmpN; rw [if_neg (by omega), if_neg (by omega)]
theorem cmpN_eq {a b : Nat} (h : a = b) : cmpN a b = 0 := by unfold cmpN; rw [if_neg (by omega), if_pos h]

theorem below_drewN' (w : World) (n : Nat) (B : Nat) : Below B w (w.drewN n) := ⟨rfl, rfl, rfl, Nat.le_refl _, fun _ _ => rfl⟩

/-- A callee that leaves the world as it is, called in a region behind draws that have been counted up. -/
theorem calm_behind {P : Program} {f : FuncId} {args : Array Value} {w : World} {a b : Nat} {v : Value} (h : ∀ W : World, Calls P f args W fun e w' => e = .returned v ∧ w' = W) :
    Calls P f args (w.drewN (a + b)) fun e w' => e = .returned v ∧ ∃ m, w' = w.drewN (a + m) :=
  (h (w.drewN (a + b))).mono fun _ _ hh => ⟨hh.1, b, hh.2⟩

theorem order_t (w : World) : Calls Try.prog 69 #[.bool true] w fun e w' => e = .returned (.int .i64 (-1)) ∧ w' = w := by
  go_enter Try.func69, Try.ntmps69
  go_wp2
  go_ret
  exact ⟨rfl, rfl⟩
theorem order_f (w : World) : Calls Try.prog 69 #[.bool false] w fun e w' => e = .returned (.int .i64 1) ∧ w' = w := by
  go_enter Try.func69, Try.ntmps69
  go_wp2
  go_ret
  exact ⟨rfl, rfl⟩

set_option maxHeartbeats 1000000 in
theorem cmp_any (va vb : Value) (xs ys : List Nat) (w : World) (hx : Sl w .u32 va xs) (hy : Sl w .u32 vb ys) (dx : Dig L32 xs) (dy : Dig L32 ys) :
    Calls Try.prog 50 #[va, vb] w fun e w' => e = .returned (.int .i64 (cmpN (val L32 xs) (val L32 ys))) ∧ Below w.heap.size w w' := by
  have HX := Lib.hid hx
  have HY := Lib.hid hy
  obtain ⟨ao, ac, rfl, a1, a2, a3, a4⟩ := hx
  obtain ⟨bo, bc, rfl, b1, b2, b3, b4⟩ := hy
  have nx := nz_le xs
  have ny := nz_le ys
  by_cases hne : nz xs = nz ys
  · have hne' : (((nz xs : Nat) : Int) != ((nz ys : Nat) : Int)) = false := by simp [hne]
    have HN := Lib.hid hne
    clear hne
    have hny : nz xs ≤ nz ys ∧ nz ys ≤ nz xs := by have := HN.out; omega
    go_enter Try.func50, Try.ntmps50
    go_wp2_with fail
    refine (sig_any _ _ _ xs _ HX.out).mono ?_; rintro e w' ⟨rfl, rfl⟩
    go_wp2_with fail
    refine (sig_any _ _ _ ys _ HY.out).mono ?_; rintro e w' ⟨rfl, rfl⟩
    go_wp2_with fail
    go_loopw [5] (fun i wr => ∃ k : Nat, k ≤ nz xs ∧ i = .int .i64 ((k : Int) - 1) ∧ Hid ((xs.take (nz xs)).drop k = (ys.take (nz ys)).drop k) ∧ Below w.heap.size w wr) (fun i _ => (intOf i + 1).toNat)
    case atStart => exact ⟨nz xs, Nat.le_refl _, rfl, Lib.hid (by rw [HN.out, List.drop_eq_nil_of_le (by simp; omega), List.drop_eq_nil_of_le (by simp; omega)]), Below.refl _ _⟩
    case round =>
      obtain ⟨k, hk, rfl, HD, hb⟩ := hrel
      by_cases h0 : 0 < k
      · obtain ⟨a, rfl, hca⟩ := a4 (k - 1) (by omega)
        obtain ⟨b, rfl, hcb⟩ := b4 (k - 1) (by omega)
        have hca' : wr.cell? (a.add (k - 1)) = some (.int .u32 (nth xs (k - 1))) := by rw [hb.cell (cell_lt hca)]; exact hca
        have hcb' : wr.cell? (b.add (k - 1)) = some (.int .u32 (nth ys (k - 1))) := by rw [hb.cell (cell_lt hcb)]; exact hcb
        have gx : (xs.take (nz xs)).getD (k - 1) 0 = xs.getD (k - 1) 0 := by simp [List.getD, show k - 1 < nz xs by omega]
        have gy : (ys.take (nz ys)).getD (k - 1) 0 = ys.getD (k - 1) 0 := by simp [List.getD, show k - 1 < nz ys by omega]
        have lx : (xs.take (nz xs)).length = nz xs := by simp; omega
        have ly : (ys.take (nz ys)).length = nz ys := by simp; omega
        have HD' : Hid ((xs.take (nz xs)).drop (k - 1 + 1) = (ys.take (nz ys)).drop (k - 1 + 1)) := Lib.hid (by rw [show k - 1 + 1 = k by omega]; exact HD.out)
        have GX := Lib.hid gx
        have GY := Lib.hid gy
        have LX := Lib.hid lx
        have LY := Lib.hid ly
        clear gx gy lx ly hca hcb a4 b4
        by_cases he : xs.getD (k - 1) 0 = ys.getD (k - 1) 0
        · have he' : (nth xs (k - 1) != nth ys (k - 1)) = false := by simp only [nth, he]; exact bne_self_eq_false _
          have HE := Lib.hid he
          clear he
          go_wp2_with fail
          go_quiet (fail)
          go_wp2_with fail
          go_roundw
          case rel => exact ⟨k - 1, by omega, by go_num, Lib.hid (drop_step (by have := LX.out; omega) (by have := LY.out; omega) HD'.out (by rw [GX.out, GY.out, HE.out])), hb.trans (below_drewN' _ _ _)⟩
          case measure => simp [intOf]; omega
        · have he' : (nth xs (k - 1) != nth ys (k - 1)) = true := by simp only [nth, bne_iff_ne]; omega
          rcases Nat.lt_or_gt_of_ne he with hlt | hgt
          · have hd : nth xs (k - 1) < nth ys (k - 1) := by unfold nth; omega
            have hfin : cmpN (val L32 xs) (val L32 ys) = -1 := by
              have := cmp_top (B := L32) (dx.take (nz xs)) (ys := ys.take (nz ys)) (k := k - 1) (by have := LX.out; omega) (by have := LY.out; omega) HD'.out (by rw [GX.out, GY.out]; exact hlt)
              rw [val_take_nz (by decide) dx, val_take_nz (by decide) dy] at this
              exact cmpN_lt this
            have HF := Lib.hid hfin
            clear he hlt hfin
            go_wp2_with fail
            go_quiet (fail)
            go_wp2_with fail
            go_quiet ((go_at_call 69; exact calm_behind order_t))
            go_wp2_with fail
            go_ret
            exact ⟨by rw [HF.out]; rfl, (hb.trans (below_drewN' _ _ _)).trans (below_drewN' _ _ _)⟩
          · have hd : nth ys (k - 1) < nth xs (k - 1) := by unfold nth; omega
            have hd' : decide (nth xs (k - 1) < nth ys (k - 1)) = false := by simp; omega
            have hfin : cmpN (val L32 xs) (val L32 ys) = 1 := by
              have := cmp_top (B := L32) (dy.take (nz ys)) (ys := xs.take (nz xs)) (k := k - 1) (by have := LY.out; omega) (by have := LX.out; omega) HD'.out.symm (by rw [GX.out, GY.out]; exact hgt)
              rw [val_take_nz (by decide) dx, val_take_nz (by decide) dy] at this
              exact cmpN_gt this
            have HF := Lib.hid hfin
            clear he hgt hfin
            go_wp2_with fail
            go_quiet (fail)
            go_wp2_with fail
            go_quiet ((go_at_call 69; exact (calm_behind order_f)))
            go_wp2_with fail
            go_ret
            exact ⟨by rw [HF.out]; rfl, (hb.trans (below_drewN' _ _ _)).trans (below_drewN' _ _ _)⟩
      · have hfin : cmpN (val L32 xs) (val L32 ys) = 0 := by
          have hd := HD.out
          rw [show k = 0 by omega, List.drop_zero, List.drop_zero] at hd
          exact cmpN_eq (by rw [← val_take_nz (by decide) dx, hd, val_take_nz (by decide) dy])
        have HF := Lib.hid hfin
        clear hfin
        go_wp2_with fail
        go_ret
        exact ⟨by rw [HF.out]; rfl, hb⟩
  · have hne' : (((nz xs : Nat) : Int) != ((nz ys : Nat) : Int)) = true := by rw [bne_iff_ne]; omega
    rcases Nat.lt_or_gt_of_ne hne with hlt | hgt
    · have HF := Lib.hid (cmpN_lt (cmp_len dx dy hlt))
      clear hne
      go_enter Try.func50, Try.ntmps50
      go_wp2_with fail
      refine (sig_any _ _ _ xs _ HX.out).mono ?_; rintro e w' ⟨rfl, rfl⟩
      go_wp2_with fail
      refine (sig_any _ _ _ ys _ HY.out).mono ?_; rintro e w' ⟨rfl, rfl⟩
      go_wp2_with fail
      refine (order_t _).mono ?_; rintro e w' ⟨rfl, rfl⟩
      go_wp2_with fail
      go_ret
      exact ⟨by rw [HF.out]; rfl, Below.refl _ _⟩
    · have HF := Lib.hid (cmpN_gt (cmp_len dy dx hgt))
      have hd : decide (nz xs < nz ys) = false := by simp; omega
      clear hne
      go_enter Try.func50, Try.ntmps50
      go_wp2_with fail
      refine (sig_any _ _ _ xs _ HX.out).mono ?_; rintro e w' ⟨rfl, rfl⟩
      go_wp2_with fail
      refine (sig_any _ _ _ ys _ HY.out).mono ?_; rintro e w' ⟨rfl, rfl⟩
      go_wp2_with fail
      refine (order_f _).mono ?_; rintro e w' ⟨rfl, rfl⟩
      go_wp2_with fail
      go_ret
      exact ⟨by rw [HF.out]; rfl, Below.refl _ _⟩
end Go.Proofs.Ytinfbmnimkcdjaa

/- Contracts of package nat: Add, Sub, Trim, Of. -/
namespace Go.Proofs.Ytinfbmnimkcdjaa
open Go.RowKit
set_option maxRecDepth 100000

theorem sl_apart {w : World} {k : IntKind} {v : Value} {xs : List Nat} (h : Sl w k v xs) {g : Nat} (hg : w.heap.size ≤ g) : Apart g v := by
  obtain ⟨ao, cap, rfl, h1, h2, h3, h4⟩ := h
  intro a n c e hb
  injection e with e1 e2 e3
  subst e2
  rcases Nat.eq_zero_or_pos xs.length with h0 | h0
  · exact h0
  · obtain ⟨a', e, hc⟩ := h4 0 h0
    have := cell_lt hc
    rw [e1] at e
    injection e with e
    subst e
    have hb' : (a.add 0).block = a.block := by unfold Addr.add; split <;> rfl
    omega

theorem trimmed_sl {w : World} {ao : Option Addr} {n cap : Nat} {xs : List Nat} (h : Sl w .u32 (.slice ao n cap) xs) (hd : Dig L32 xs) : Sl w .u32 (trimmedOf ao cap xs) (dig L32 (val L32 xs)) := by
  rw [← take_nz (by decide) hd]
  unfold trimmedOf
  by_cases h0 : nz xs = 0
  · rw [if_pos h0, h0]; exact Sl.nil _ _
  · rw [if_neg h0]; exact h.take _ (nz_le xs)

theorem Ws.at {w : World} {k : IntKind} {T : TypeId} {v : Value} {g : Nat} {pre s post : List Nat} (h : Ws w k T v g pre s post) : ∃ ao cap, v = .slice ao s.length cap := by
  obtain ⟨ao, cap, e, _⟩ := h; exact ⟨ao, cap, e⟩
theorem Ws.shape {w : World} {k : IntKind} {T : TypeId} {ao : Option Addr} {n cap g : Nat} {pre s post : List Nat} (h : Ws w k T (.slice ao n cap) g pre s post) : n = s.length := by
  obtain ⟨_, _, e, _⟩ := h; injection e

theorem trimmed_v (v : Value) (xs : List Nat) (w : World) (h : Sl w .u32 v xs) (hd : Dig L32 xs) :
    Calls Try.prog 71 #[v] w fun e w' => ∃ v', e = .returned v' ∧ Sl w .u32 v' (dig L32 (val L32 xs)) ∧ w = w' := by
  obtain ⟨ao, cap, rfl⟩ : ∃ ao cap, v = .slice ao xs.length cap := by obtain ⟨ao, cap, e, _⟩ := h; exact ⟨ao, cap, e⟩
  exact (trimmed_any _ _ _ xs _ h).mono fun e w' ⟨he, hw⟩ => ⟨_, he, trimmed_sl h hd, hw⟩

theorem below_of_grown' {B : Nat} {a b : World} {g : Nat} (h : a.grownBy b (some g)) (hg : B ≤ g) (hB : B ≤ a.heap.size := by omega) : Below B a b :=
  ⟨h.os, h.tape, h.output, h.size, fun k hk => h.block k (by omega) (fun e => by injection e with e; omega)⟩

theorem append_zeros_val (B : Nat) (xs : List Nat) (n : Nat) : val B (xs ++ List.replicate n 0) = val B xs := by
  rw [val_append, val_replicate_zero]; simp

set_option maxHeartbeats 1000000 in
theorem add_any (va vb : Value) (xs ys : List Nat) (w : World) (hx : Sl w .u32 va xs) (hy : Sl w .u32 vb ys) (dx : Dig L32 xs) (dy : Dig L32 ys) (lx : xs.length ≤ 1000000) (ly : ys.length ≤ 1000000) :
    Calls Try.prog 57 #[va, vb] w fun e w' => ∃ v, e = .returned v ∧ Sl w' .u32 v (dig L32 (val L32 xs + val L32 ys)) ∧ Below w.heap.size w w' := by
  obtain ⟨ao, ac, rfl⟩ : ∃ ao cap, va = .slice ao xs.length cap := by obtain ⟨ao, cap, e, _⟩ := hx; exact ⟨ao, cap, e⟩
  obtain ⟨bo, bc, rfl⟩ : ∃ ao cap, vb = .slice ao ys.length cap := by obtain ⟨ao, cap, e, _⟩ := hy; exact ⟨ao, cap, e⟩
  have nx := nz_le xs
  have ny := nz_le ys
  have hx' := hx.take (nz xs) nx
  have hy' := hy.take (nz ys) ny
  have dx' := dx.take (nz xs)
  have dy' := dy.take (nz ys)
  have ex : (xs.take (nz xs)).length = nz xs := by simp; omega
  have ey : (ys.take (nz ys)).length = nz ys := by simp; omega
  have EX := Lib.hid ex
  have EY := Lib.hid ey
  clear ex ey
  -- what stands behind the two cuts, for the longer one first
  have fin : ∀ (s s' zs : List Nat), Dig L32 s → Dig L32 zs → zs.length ≤ s.length → s'.length = s.length + 1 → Dig L32 s' → val L32 s' = (val L32 (s ++ List.replicate 1 0) + val L32 zs) % L32 ^ (s.length + 1) → val L32 s + val L32 zs = val L32 xs + val L32 ys →
      dig L32 (val L32 s') = dig L32 (val L32 xs + val L32 ys) := by
    intro s s' zs h1 h2 h3 h4 h5 h6 h7
    rw [h6, append_zeros_val, h7]
    rw [Nat.mod_eq_of_lt]
    rw [← h7]
    have a1 := val_lt h1
    have a2 := val_lt h2
    have a3 : L32 ^ zs.length ≤ L32 ^ s.length := Nat.pow_le_pow_right (by decide) h3
    rw [Nat.pow_succ]
    have : L32 ^ s.length * 2 ≤ L32 ^ s.length * L32 := Nat.mul_le_mul_left _ (by decide)
    omega
  have vx := val_take_nz (B := L32) (by decide) dx
  have vy := val_take_nz (B := L32) (by decide) dy
  have VX := Lib.hid vx
  have VY := Lib.hid vy
  clear vx vy
  have FIN := Lib.hid fin
  clear fin
  by_cases hlt : nz xs < nz ys
  · go_enter Try.func57, Try.ntmps57
    go_wp2_with fail
    refine (sig_any _ _ _ xs _ hx).mono ?_; rintro e w' ⟨rfl, rfl⟩
    go_wp2_with fail
    refine (sig_any _ _ _ ys _ hy).mono ?_; rintro e w' ⟨rfl, rfl⟩
    go_wp2_with fail
    refine (padded_any bo _ bc _ (nz ys + 1) _ w hy' (by rw [EY.out]; omega) (by omega) (by omega)).mono ?_
    rintro e w1 ⟨v1, rfl, hs1, hb1, hz1⟩
    have hsz := hz1 (by omega)
    go_wp2_with fail
    refine (addTo_any w.heap.size [] _ [] _ _ _ w1 hs1 (hx'.below hb1) (sl_apart hx' (Nat.le_refl _)) ?_ (dy'.append (Dig.replicate (by decide) _)) dx').mono ?_
    · rw [EX.out, List.length_append, EY.out]; simp; omega
    rintro e w2 ⟨s', rfl, hs2, hg2, hl2, hd2, hv2⟩
    have hb2 : Below w.heap.size w w2 := hb1.trans (below_of_grown' hg2 (Nat.le_refl _))
    have HL2 := Lib.hid hl2
    have HV2 := Lib.hid hv2
    clear hl2 hv2
    have hss := hs2.sl
    go_wp2_with fail
    refine (trimmed_v _ s' _ hss hd2).mono ?_
    rintro e w3 ⟨v3, rfl, ht, rfl⟩
    go_wp2_with fail
    go_ret
    refine ⟨_, rfl, ?_, hb2⟩
    have hl := HL2.out
    have hv := HV2.out
    rw [List.length_append, EY.out] at hl hv
    rw [show nz ys + 1 - nz ys = 1 by omega] at hl hv
    simp only [List.length_replicate] at hl hv
    rw [FIN.out (ys.take (nz ys)) s' (xs.take (nz xs)) dy' dx' (by rw [EX.out, EY.out]; omega) (by rw [EY.out]; exact hl) hd2 (by rw [EY.out]; exact hv) (by have h1 := VX.out; have h2 := VY.out; omega)] at ht
    exact ht
  · go_enter Try.func57, Try.ntmps57
    go_wp2_with fail
    refine (sig_any _ _ _ xs _ hx).mono ?_; rintro e w' ⟨rfl, rfl⟩
    go_wp2_with fail
    refine (sig_any _ _ _ ys _ hy).mono ?_; rintro e w' ⟨rfl, rfl⟩
    go_wp2_with fail
    refine (padded_any ao _ ac _ (nz xs + 1) _ w hx' (by rw [EX.out]; omega) (by omega) (by omega)).mono ?_
    rintro e w1 ⟨v1, rfl, hs1, hb1, hz1⟩
    have hsz := hz1 (by omega)
    go_wp2_with fail
    refine (addTo_any w.heap.size [] _ [] _ _ _ w1 hs1 (hy'.below hb1) (sl_apart hy' (Nat.le_refl _)) ?_ (dx'.append (Dig.replicate (by decide) _)) dy').mono ?_
    · rw [EY.out, List.length_append, EX.out]; simp; omega
    rintro e w2 ⟨s', rfl, hs2, hg2, hl2, hd2, hv2⟩
    have hb2 : Below w.heap.size w w2 := hb1.trans (below_of_grown' hg2 (Nat.le_refl _))
    have HL2 := Lib.hid hl2
    have HV2 := Lib.hid hv2
    clear hl2 hv2
    have hss := hs2.sl
    go_wp2_with fail
    refine (trimmed_v _ s' _ hss hd2).mono ?_
    rintro e w3 ⟨v3, rfl, ht, rfl⟩
    go_wp2_with fail
    go_ret
    refine ⟨_, rfl, ?_, hb2⟩
    have hl := HL2.out
    have hv := HV2.out
    rw [List.length_append, EX.out] at hl hv
    rw [show nz xs + 1 - nz xs = 1 by omega] at hl hv
    simp only [List.length_replicate] at hl hv
    rw [FIN.out (xs.take (nz xs)) s' (ys.take (nz ys)) dx' dy' (by rw [EX.out, EY.out]; omega) (by rw [EX.out]; exact hl) hd2 (by rw [EX.out]; exact hv) (by have h1 := VX.out; have h2 := VY.out; omega)] at ht
    exact ht

theorem sl_shape {w : World} {k : IntKind} {v : Value} {xs : List Nat} (h : Sl w k v xs) : ∃ ao cap, v = .slice ao xs.length cap := by
  obtain ⟨ao, cap, e, _⟩ := h; exact ⟨ao, cap, e⟩

set_option maxHeartbeats 1000000 in
theorem sub_lt (va vb : Value) (xs ys : List Nat) (w : World) (hx : Sl w .u32 va xs) (hy : Sl w .u32 vb ys) (dx : Dig L32 xs) (dy : Dig L32 ys) (hlt : val L32 xs < val L32 ys) :
    Calls Try.prog 58 #[va, vb] w fun e w' => e = .returned (.tuple #[.slice none 0 0, .bool false]) ∧ Below w.heap.size w w' := by
  obtain ⟨ao, ac, rfl⟩ := sl_shape hx
  obtain ⟨bo, bc, rfl⟩ := sl_shape hy
  have hx' := hx.take (nz xs) (nz_le xs)
  have hy' := hy.take (nz ys) (nz_le ys)
  have HC := Lib.hid (show cmpN (val L32 (xs.take (nz xs))) (val L32 (ys.take (nz ys))) = -1 by rw [val_take_nz (by decide) dx, val_take_nz (by decide) dy]; exact cmpN_lt hlt)
  go_enter Try.func58, Try.ntmps58
  go_wp2_with fail
  refine (sig_any _ _ _ xs _ hx).mono ?_; rintro e w' ⟨rfl, rfl⟩
  go_wp2_with fail
  refine (sig_any _ _ _ ys _ hy).mono ?_; rintro e w' ⟨rfl, rfl⟩
  go_wp2_with fail
  refine (cmp_any _ _ _ _ _ hx' hy' (dx.take _) (dy.take _)).mono ?_; rintro e w' ⟨rfl, hb⟩
  rw [HC.out]
  go_wp2_with fail
  go_ret2
  exact ⟨rfl, hb⟩

set_option maxHeartbeats 1000000 in
theorem sub_ge (va vb : Value) (xs ys : List Nat) (w : World) (hx : Sl w .u32 va xs) (hy : Sl w .u32 vb ys) (dx : Dig L32 xs) (dy : Dig L32 ys) (lx : xs.length ≤ 1000000) (hge : val L32 ys ≤ val L32 xs) :
    Calls Try.prog 58 #[va, vb] w fun e w' => ∃ v, e = .returned (.tuple #[v, .bool true]) ∧ Sl w' .u32 v (dig L32 (val L32 xs - val L32 ys)) ∧ Below w.heap.size w w' := by
  obtain ⟨ao, ac, rfl⟩ := sl_shape hx
  obtain ⟨bo, bc, rfl⟩ := sl_shape hy
  have nx := nz_le xs
  have hx' := hx.take (nz xs) nx
  have hy' := hy.take (nz ys) (nz_le ys)
  have dx' := dx.take (nz xs)
  have dy' := dy.take (nz ys)
  have EX := Lib.hid (show (xs.take (nz xs)).length = nz xs by simp; omega)
  have VX := Lib.hid (val_take_nz (B := L32) (by decide) dx)
  have VY := Lib.hid (val_take_nz (B := L32) (by decide) dy)
  have hc : 0 ≤ cmpN (val L32 (xs.take (nz xs))) (val L32 (ys.take (nz ys))) := by
    rw [VX.out, VY.out]; unfold cmpN; rw [if_neg (by omega)]; split <;> omega
  have hlen : (ys.take (nz ys)).length ≤ nz xs := by
    rw [← length_dig_val (B := L32) (by decide) dx, ← dig_val_take (by decide) dy]
    exact length_dig_le (by decide) (by
      have h1 := val_lt (Dig_dig (B := L32) (by decide) (val L32 xs))
      rw [val_dig (by decide)] at h1
      omega)
  go_enter Try.func58, Try.ntmps58
  go_wp2_with fail
  refine (sig_any _ _ _ xs _ hx).mono ?_; rintro e w' ⟨rfl, rfl⟩
  go_wp2_with fail
  refine (sig_any _ _ _ ys _ hy).mono ?_; rintro e w' ⟨rfl, rfl⟩
  go_wp2_with fail
  refine (cmp_any _ _ _ _ _ hx' hy' dx' dy').mono ?_; rintro e w0 ⟨rfl, hb0⟩
  go_wp2_with fail
  refine (padded_any ao _ ac _ (nz xs) _ w0 (hx'.below hb0) (by rw [EX.out]; omega) (by omega) (by omega)).mono ?_
  rintro e w1 ⟨v1, rfl, hs1, hb1, hz1⟩
  have hb1' : Below w.heap.size w w1 := hb0.trans (hb1.mono hb0.size)
  go_wp2_with fail
  have HV := Lib.hid (show val L32 (xs.take (nz xs) ++ List.replicate (nz xs - (xs.take (nz xs)).length) 0) = val L32 xs by rw [append_zeros_val, VX.out])
  refine (subFrom_any w0.heap.size [] _ [] _ _ _ w1 hs1 (hy'.below hb1') (sl_apart (hy'.below hb0) (Nat.le_refl _)) (by rw [List.length_append, List.length_replicate, EX.out]; omega) (dx'.append (Dig.replicate (by decide) _)) dy' (by rw [HV.out, VY.out]; exact hge)).mono ?_
  rintro e w2 ⟨s', rfl, hs2, hg2, hl2, hd2, hv2⟩
  have hb2 : Below w.heap.size w w2 := hb1'.trans (below_of_grown' hg2 hb0.size hb1'.size)
  have HV2 := Lib.hid (show val L32 s' = val L32 xs - val L32 ys by rw [hv2, HV.out, VY.out])
  clear hl2 hv2
  go_wp2_with fail
  refine (trimmed_v _ s' _ hs2.sl hd2).mono ?_
  rintro e w3 ⟨v3, rfl, ht, rfl⟩
  go_wp2_with fail
  go_ret2
  refine ⟨_, rfl, ?_, hb2⟩
  rw [HV2.out] at ht
  exact ht

set_option maxHeartbeats 1000000 in
theorem trim_any (va : Value) (xs : List Nat) (w : World) (hx : Sl w .u32 va xs) (dx : Dig L32 xs) (lx : xs.length ≤ 1000000) :
    Calls Try.prog 56 #[va] w fun e w' => ∃ v, e = .returned v ∧ Ws w' .u32 97 v w.heap.size [] (dig L32 (val L32 xs)) [] ∧ Below w.heap.size w w' := by
  obtain ⟨ao, ac, rfl⟩ := sl_shape hx
  have nx := nz_le xs
  have hx' := hx.take (nz xs) nx
  have EX := Lib.hid (show (xs.take (nz xs)).length = nz xs by simp; omega)
  go_enter Try.func56, Try.ntmps56
  go_wp2_with fail
  refine (sig_any _ _ _ xs _ hx).mono ?_; rintro e w' ⟨rfl, rfl⟩
  go_wp2_with fail
  refine (padded_any ao _ ac _ (nz xs) _ w hx' (by rw [EX.out]; omega) (by omega) (by omega)).mono ?_
  rintro e w1 ⟨v1, rfl, hs1, hb1, hz1⟩
  go_wp2_with fail
  go_ret
  refine ⟨_, rfl, ?_, hb1⟩
  rw [EX.out, Nat.sub_self, List.replicate_zero, List.append_nil, take_nz (by decide) dx] at hs1
  exact hs1

set_option maxHeartbeats 1000000 in
theorem of_any (n : Nat) (z : Int) (w : World) (hz : z = (n : Int)) (hn : n < 18446744073709551616) :
    Calls Try.prog 54 #[.int .u64 z] w fun e w' => ∃ v, e = .returned v ∧ Sl w' .u32 v (dig L32 n) ∧ Below w.heap.size w w' := by
  have h0 : 0 ≤ z ∧ z < 18446744073709551616 := by omega
  have hB : Blk (w.alloc (.cells #[.int .u32 (z % 4294967296), .int .u32 (z / 4294967296)] 97)) w.heap.size .u32 97 [n % L32, n / L32] := by
    unfold Blk
    rw [heap_alloc_new, hz]
    rfl
  have hS := hB.sl 0 2 2 (by simp) (by omega) (by omega)
  have hD : Dig L32 [n % L32, n / L32] := by
    intro x hx
    rcases List.mem_cons.1 hx with rfl | hx
    · exact Nat.mod_lt _ (by decide)
    · obtain rfl := List.mem_singleton.1 hx
      exact Nat.div_lt_of_lt_mul (by omega)
  have hV : val L32 [n % L32, n / L32] = n := by
    have h := Nat.mod_add_div n L32
    simp only [val, Nat.mul_zero, Nat.add_zero]; exact h
  have HV := Lib.hid hV
  clear hV hz
  go_enter Try.func54, Try.ntmps54
  go_wp2_with fail
  refine (trimmed_v _ [n % L32, n / L32] _ hS hD).mono ?_
  rintro e w3 ⟨v3, rfl, ht, rfl⟩
  go_wp2_with fail
  go_ret
  refine ⟨_, rfl, ?_, (Below.refl _ _).alloc (Nat.le_refl _) _⟩
  rw [HV.out] at ht
  exact ht
end Go.Proofs.Ytinfbmnimkcdjaa
