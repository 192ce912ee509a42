/-
  Decimal digits, group by group; the contract of Text, from what FormatUint does.
-/
import Derived.Test.YtbkeildnhimfbaaDoorTextA
namespace Go.Proofs.YtbkeildnhimfbaaDoor
open Go.RowKit
set_option maxRecDepth 100000

/-- The last k decimal digits of g. -/
def pad : Nat → Nat → List UInt8
  | 0, _ => []
  | k + 1, g => pad k (g / 10) ++ [UInt8.ofNat (48 + g % 10)]

theorem decDigits_pad (k : Nat) : ∀ (q g : Nat), 0 < q → g < 10 ^ k → Lib.decDigits (q * 10 ^ k + g) = Lib.decDigits q ++ pad k g := by
  induction k with
  | zero => intro q g hq hg; simp at hg; subst hg; simp [pad]
  | succ k ih =>
    intro q g hq hg
    have hbig : ¬ q * 10 ^ (k + 1) + g < 10 := by
      have : 1 * 10 ^ (k + 1) ≤ q * 10 ^ (k + 1) := Nat.mul_le_mul_right _ hq
      have h2 : 10 ≤ 10 ^ (k + 1) := by rw [Nat.pow_succ]; have := Nat.pow_pos (n := k) (show 0 < 10 by omega); omega
      omega
    have e1 : (q * 10 ^ (k + 1) + g) / 10 = q * 10 ^ k + g / 10 := by
      rw [Nat.pow_succ, ← Nat.mul_assoc, Nat.add_comm, Nat.add_mul_div_right _ _ (by omega), Nat.add_comm]
    have e2 : (q * 10 ^ (k + 1) + g) % 10 = g % 10 := by
      rw [Nat.pow_succ, ← Nat.mul_assoc, Nat.add_comm, Nat.add_mul_mod_self_right]
    have hg' : g / 10 < 10 ^ k := Nat.div_lt_of_lt_mul (by rw [Nat.pow_succ] at hg; omega)
    rw [Lib.decDigits, dif_neg hbig, e1, e2, ih q (g / 10) hq hg', List.append_assoc]
    rfl
theorem decDigits_group {q g : Nat} (hq : 0 < q) (hg : g < G9) : Lib.decDigits (g + G9 * q) = Lib.decDigits q ++ (Lib.decDigits (G9 + g)).drop 1 := by
  have h1 := decDigits_pad 9 q g hq hg
  have h2 := decDigits_pad 9 1 g (by decide) hg
  have hG : G9 = 1000000000 := rfl
  rw [show q * 10 ^ 9 + g = g + G9 * q by rw [hG]; omega] at h1
  rw [show 1 * 10 ^ 9 + g = G9 + g by rw [hG]] at h2
  rw [h1, h2, Lib.decDigits_one (i := 1) (by decide)]
  rfl
theorem len_pad (k g : Nat) : (pad k g).length = k := by
  induction k generalizing g with
  | zero => rfl
  | succ k ih => simp [pad, ih]
theorem decDigits_ten {g : Nat} (hg : g < G9) : (Lib.decDigits (G9 + g)).length = 10 := by
  have h2 := decDigits_pad 9 1 g (by decide) hg
  rw [show 1 * 10 ^ 9 + g = G9 + g from rfl] at h2
  rw [h2, List.length_append, len_pad, Lib.decDigits_one (i := 1) (by decide)]; rfl

theorem decDigits_len {n k : Nat} (h : n < 10 ^ k) (hk : 0 < k) : (Lib.decDigits n).length ≤ k := by
  rw [Lib.decDigits_length]
  rcases Nat.lt_or_ge n 10 with h1 | h1
  · rw [Lib.nDigits_small h1]; exact hk
  · induction k generalizing n with
    | zero => omega
    | succ k ih =>
      rw [Lib.nDigits_big (by omega)]
      have h2 : n / 10 < 10 ^ k := Nat.div_lt_of_lt_mul (by rw [Nat.pow_succ] at h; omega)
      have hk0 : 0 < k := by
        rcases Nat.eq_zero_or_pos k with h0 | h0
        · subst h0; simp at h2; omega
        · exact h0
      rcases Nat.lt_or_ge (n / 10) 10 with h3 | h3
      · rw [Lib.nDigits_small h3]; omega
      · have := ih h2 hk0 h3; omega

theorem val_drop_step {B : Nat} {gs : List Nat} {k : Nat} (hk : k < gs.length) : val B (gs.drop k) = gs.getD k 0 + B * val B (gs.drop (k + 1)) := by
  rw [List.drop_eq_getElem_cons hk]
  simp [val, List.getD, hk]

theorem extract_one (l : List UInt8) : (⟨l.toArray⟩ : ByteArray).extract 1 (⟨l.toArray⟩ : ByteArray).size = ⟨(l.drop 1).toArray⟩ := by
  apply ByteArray.ext
  simp [ByteArray.size]
  rw [List.take_of_length_le (by simp)]

theorem digits_len {gs : List Nat} (hd : Dig G9 gs) (k : Nat) (hl : gs.length ≤ 20000) : (Lib.decDigits (val G9 (gs.drop k))).length ≤ 180009 := by
  have h1 := val_lt (hd.drop k)
  have h2 : G9 ^ (gs.drop k).length ≤ 10 ^ (9 * gs.length + 9) := by
    rw [show G9 = 10 ^ 9 from rfl, ← Nat.pow_mul]
    exact Nat.pow_le_pow_right (by decide) (by rw [List.length_drop]; omega)
  have := decDigits_len (Nat.lt_of_lt_of_le h1 h2) (by omega)
  omega
theorem digits_round {gs : List Nat} (hd : Dig G9 gs) {k : Nat} (hk : k < gs.length) (hp : 0 < val G9 (gs.drop (k + 1))) :
    Lib.decDigits (val G9 (gs.drop k)) = Lib.decDigits (val G9 (gs.drop (k + 1))) ++ (Lib.decDigits (G9 + gs.getD k 0)).drop 1 ∧ 0 < val G9 (gs.drop k) := by
  rw [val_drop_step hk]
  refine ⟨decDigits_group hp (hd.getD (by decide) k), ?_⟩
  have : 1 * 1 ≤ G9 * val G9 (gs.drop (k + 1)) := Nat.mul_le_mul (by decide) hp
  omega

/-- What FormatUint does, behind w0, at the numbers that P lets. -/
def FmtAt (w0 : World) (P : Nat → Prop) : Prop :=
  ∀ (w : World) (i : Nat) (z : Int), Below w0.heap.size w0 w → z = (i : Int) → P i → Calls Tryd.prog 75 #[.int .u64 z, .int .i64 10] w fun e w' => e = .returned (.string ⟨(Lib.decDigits i).toArray⟩) ∧ Below w.heap.size w w'

set_option maxHeartbeats 1000000 in
theorem text_gen (P : Nat → Prop) (va : Value) (xs : List Nat) (w : World) (fmt : FmtAt w P) (hx : Sl w .u32 va xs) (dx : Dig L32 xs) (lx : xs.length ≤ 10000)
    (hP1 : ∀ g, g < G9 → (dig G9 (val L32 xs)).getD ((dig G9 (val L32 xs)).length - 1) 0 = g → P g) (hP2 : 2 ≤ (dig G9 (val L32 xs)).length → ∀ g, g < G9 → P (G9 + g)) :
    Calls Tryd.prog 52 #[va] w fun e w' => e = .returned (.string ⟨(Lib.decDigits (val L32 xs)).toArray⟩) ∧ Below w.heap.size w w' := by
  have FMT := Lib.hid fmt
  clear fmt
  have HGL : Hid ((dig G9 (val L32 xs)).length ≤ 20000) := Lib.hid (Nat.le_trans (length_dig_le (B := G9) (k := 2 * xs.length) (by decide) (by
    have h1 := val_lt dx
    have h2 : L32 ^ xs.length ≤ G9 ^ (2 * xs.length) := by rw [Nat.pow_mul]; exact Nat.pow_le_pow_left (by decide) _
    omega)) (by omega))
  have DG := decimalGroups_any va xs w hx dx (by omega)
  have DGH := Lib.hid DG
  clear DG
  have dg := Dig_dig (B := G9) (by decide) (val L32 xs)
  have HV := Lib.hid (val_dig (B := G9) (by decide) (val L32 xs))
  have HLast := Lib.hid (@dig_last G9 (val L32 xs) (by decide))
  have HP1 := Lib.hid hP1
  have HP2 := Lib.hid hP2
  clear hP1 hP2 dx
  generalize dig G9 (val L32 xs) = gs at *
  generalize val L32 xs = N at *
  by_cases h0 : gs.length = 0
  · have HN : Hid (N = 0) := Lib.hid (by have := HV.out; rw [List.eq_nil_of_length_eq_zero h0] at this; simpa [val] using this.symm)
    have hz : (((gs.length : Nat) : Int) == 0) = true := by rw [h0]; rfl
    have H0 := Lib.hid h0
    clear h0
    go_enter Tryd.func52, Tryd.ntmps52
    go_wp2_with fail
    refine DGH.out.mono ?_
    rintro e w1 ⟨v1, rfl, hs1, hb1⟩
    obtain ⟨ao, ac, rfl⟩ := sl_shape hs1
    go_wp2_with fail
    go_ret
    exact ⟨by rw [HN.out, Lib.decDigits_one (i := 0) (by decide)]; rfl, hb1⟩
  · have hz : (((gs.length : Nat) : Int) == 0) = false := by rw [beq_eq_false_iff_ne]; omega
    have hp : 1 ≤ gs.length := by omega
    clear h0
    go_enter Tryd.func52, Tryd.ntmps52
    go_wp2_with fail
    refine DGH.out.mono ?_
    rintro e w1 ⟨v1, rfl, hs1, hb1⟩
    have HS1 := Lib.hid hs1
    obtain ⟨ao, ac, rfl, a1, a2, a3, a4⟩ := hs1
    obtain ⟨a, rfl, hca⟩ := a4 (gs.length - 1) (by omega)
    clear a4
    have g1 : 0 ≤ nth gs (gs.length - 1) ∧ nth gs (gs.length - 1) < 1000000000 := by have := dg.getD (by decide) (gs.length - 1); have hG : G9 = 1000000000 := rfl; unfold nth; omega
    have hgl := HGL.out
    have hcal : (w1.alloc (.cells #[.pointer none, .slice none 0 0] 94)).cell? (a.add (gs.length - 1)) = some (.int .u32 (nth gs (gs.length - 1))) := by
      rw [World.cell?_alloc_lt _ _ _ (cell_lt hca)]; exact hca
    have hBld : Bld w1.heap.size w1.heap.size [] (w1.alloc (.cells #[.pointer none, .slice none 0 0] 94)) := Lib.fresh_isBuilder 94 5 w1
    have hbW : Below w1.heap.size w1 (w1.alloc (.cells #[.pointer none, .slice none 0 0] 94)) := (Below.refl _ _).alloc (Nat.le_refl _) _
    have hsW : w1.heap.size < (w1.alloc (.cells #[.pointer none, .slice none 0 0] 94)).heap.size := by simp
    have hg0 := dg.getD (by decide) (gs.length - 1)
    have hlast := HLast.out (by omega)
    have hdrop : val G9 (gs.drop (gs.length - 1)) = gs.getD (gs.length - 1) 0 := by
      rw [val_drop_step (by omega), List.drop_eq_nil_of_le (by omega)]; simp [val]
    have HD0 := Lib.hid hdrop
    have HLA := Lib.hid hlast
    clear hdrop hlast
    go_wp2_with fail
    generalize (w1.alloc (.cells #[.pointer none, .slice none 0 0] 94)) = W2 at *
    have hbW' : Below w.heap.size w W2 := hb1.trans (hbW.mono hb1.size)
    refine (FMT.out W2 (gs.getD (gs.length - 1) 0) _ hbW' rfl (HP1.out _ hg0 rfl)).mono ?_
    rintro e w3 ⟨rfl, hb3⟩
    have hbl3 := hBld.below hb3
    have hs3 := hb3.size
    have hb3w : Below w.heap.size w w3 := hbW'.trans (hb3.mono hbW'.size)
    have hb3B : Below w1.heap.size w1 w3 := hbW.trans (hb3.mono (by omega))
    rw [← HD0.out]
    have hdl := digits_len dg (gs.length - 1) hgl
    have hpos : 0 < val G9 (gs.drop (gs.length - 1)) := by rw [HD0.out]; have := HLA.out; omega
    have HPOS := Lib.hid hpos
    clear hpos
    generalize hL : Lib.decDigits (val G9 (gs.drop (gs.length - 1))) = L at *
    have HL := Lib.hid hL
    clear hL
    generalize hS : (⟨L.toArray⟩ : ByteArray) = sv at *
    have HS := Lib.hid hS
    clear hS
    go_wp2_with fail
    refine (writeString_any w1.heap.size w1.heap.size [] L sv w3 hbl3 HS.out.symm (by simp; omega) (by omega)).mono ?_
    rintro e w4 ⟨v4, rfl, hbl4, hb4⟩
    rw [List.nil_append] at hbl4
    have hb4w : Below w.heap.size w w4 := hb3w.trans (hb4.mono hb1.size)
    have hb4B : Below w1.heap.size w1 w4 := hb3B.trans hb4
    have hs4 := hb4.size
    go_wp2_with fail
    go_loopw [6] (fun i wr => ∃ k : Nat, k ≤ gs.length - 1 ∧ i = .int .i64 ((k : Int) - 1) ∧ Bld w1.heap.size w1.heap.size (Lib.decDigits (val G9 (gs.drop k))) wr ∧ Hid (0 < val G9 (gs.drop k)) ∧ Below w.heap.size w wr ∧ Below w1.heap.size w1 wr ∧ w1.heap.size < wr.heap.size) (fun i _ => (intOf i + 1).toNat)
    case atStart => exact ⟨gs.length - 1, Nat.le_refl _, by congr 1; omega, by rw [HL.out]; exact hbl4, HPOS, hb4w, hb4B, by omega⟩
    case round =>
      clear hbl3 hb3w hb3B hbl4 hb4w hb4B hs4 hs3 hb3 hb4 HPOS HL HS hBld hbW hsW hbW' hcal hdl
      obtain ⟨k, hk, rfl, hbl, HPOS, hb, hbB, hsz⟩ := hrel
      by_cases h0 : 0 < k
      · have hc : wr.cell? (a.add (k - 1)) = some (.int .u32 (nth gs (k - 1))) := by
          have := HS1.out.at (i := k - 1) (by omega)
          rw [hbB.cell (cell_lt this)]; exact this
        have gk := dg.getD (by decide) (k - 1)
        have gk' : 0 ≤ nth gs (k - 1) ∧ nth gs (k - 1) < 1000000000 := by have hG : G9 = 1000000000 := rfl; unfold nth; omega
        have HR := Lib.hid (digits_round dg (k := k - 1) (by omega) (by rw [show k - 1 + 1 = k by omega]; exact HPOS.out))
        have hP := HP2.out (by omega) _ gk
        have hten := decDigits_ten gk
        have hdl := digits_len dg k hgl
        have hex := extract_one (Lib.decDigits (G9 + gs.getD (k - 1) 0))
        have hsize : (⟨(Lib.decDigits (G9 + gs.getD (k - 1) 0)).toArray⟩ : ByteArray).size = 10 := by simpa [ByteArray.size] using hten
        have hdr : ((Lib.decDigits (G9 + gs.getD (k - 1) 0)).drop 1).length = 9 := by rw [List.length_drop, hten]
        have HTEN := Lib.hid hten
        clear hten
        go_wp2_with fail
        refine (FMT.out wr (G9 + gs.getD (k - 1) 0) _ hb (by unfold nth; simp) hP).mono ?_
        rintro e w5 ⟨rfl, hb5⟩
        have hbl5 := hbl.below hb5
        have hs5 := hb5.size
        have hb5w : Below w.heap.size w w5 := hb.trans (hb5.mono hb.size)
        have hb5B : Below w1.heap.size w1 w5 := hbB.trans (hb5.mono (by omega))
        generalize hM : (Lib.decDigits (G9 + gs.getD (k - 1) 0)).drop 1 = M at *
        generalize hS : (⟨(Lib.decDigits (G9 + gs.getD (k - 1) 0)).toArray⟩ : ByteArray) = sv at *
        have HEX := Lib.hid hex
        have hsz1 : 1 ≤ sv.size ∧ sv.size ≤ 10 := by omega
        clear hex hS hM hsize
        go_wp2_with fail
        refine (writeString_any w1.heap.size w1.heap.size _ M _ w5 hbl5 HEX.out (by omega) (by omega)).mono ?_
        rintro e w6 ⟨v6, rfl, hbl6, hb6⟩
        have hs6 := hb6.size
        go_wp2_with fail
        go_roundw
        case rel =>
          refine ⟨k - 1, by omega, by go_num, ?_, Lib.hid HR.out.2, hb5w.trans (hb6.mono hb1.size), hb5B.trans hb6, by omega⟩
          have h := HR.out.1
          rw [show k - 1 + 1 = k by omega] at h
          rw [h]; exact hbl6
        case measure => simp [intOf]; omega
      · have hk0 : k = 0 := by omega
        subst hk0
        have HN : Hid (val G9 (gs.drop 0) = N) := Lib.hid (by rw [List.drop_zero]; exact HV.out)
        go_wp2_with fail
        refine (Tryd.Builder_String_any w1.heap.size w1.heap.size _ wr hbl (by omega)).mono ?_
        rintro e w7 ⟨rfl, hb7⟩
        rw [HN.out]
        go_wp2_with fail
        go_ret
        exact ⟨rfl, hb.trans (hb7.mono hb1.size)⟩
end Go.Proofs.YtbkeildnhimfbaaDoor
