/-
  The reference's Next: the length and the kind of the token that begins, or its error.
-/
import Derived.Test.YtnjdbljdaghdmaaDoorLxRef
namespace Go.Proofs.YtnjdbljdaghdmaaDoor
open Go.RowKit
set_option maxRecDepth 100000

/-- The triple that the reference returns. -/
def nres (m : Meas) : Value := match m with
  | .ok k n => .tuple #[.int .i64 (n : Nat), .int .i64 (k : Nat), .int .i64 0]
  | .bad e => .tuple #[.int .i64 0, .int .i64 0, .int .i64 (e : Nat)]
theorem digit_ways (c : UInt8) : (isD c = true ∧ 48 ≤ c.toNat ∧ c.toNat ≤ 57) ∨ (isD c = false ∧ c.toNat < 48) ∨ (isD c = false ∧ 57 < c.toNat ∧ 48 ≤ c.toNat) := by
  rw [isD_int]
  by_cases h1 : c.toNat < 48
  · exact .inr (.inl ⟨by simp; omega, h1⟩)
  · by_cases h2 : c.toNat ≤ 57
    · exact .inl ⟨by simp; omega, by omega, h2⟩
    · exact .inr (.inr ⟨by simp; omega, by omega, by omega⟩)

set_option maxHeartbeats 4000000 in
theorem next_name (a : UInt8) (r : Bs) (ha : isL a = true) (hl : (a :: r).length ≤ 1000000000) (w : World) :
    Calls Tryd.prog 11 #[.string ⟨(a :: r).toArray⟩] w fun e w' => e = .returned (nres (meas (a :: r))) ∧ Below w.heap.size w w' := by
  obtain ⟨l, hL⟩ : ∃ l, l = a :: r := ⟨_, rfl⟩
  have HM := Lib.hid (show meas l = if 40 < spn isLD l then .bad 2 else if isW (l.take (spn isLD l)) then .ok 3 (spn isLD l) else .ok 0 (spn isLD l) by rw [hL, meas_cons, if_pos ha])
  have hp : 0 < l.length := by rw [hL]; simp
  have h0 : (⟨l.toArray⟩ : ByteArray)[0]'hp = a := by subst hL; rfl
  rw [← hL] at hl ⊢
  clear hL
  have HA := Lib.hid ha
  clear ha
  have hsz : (⟨l.toArray⟩ : ByteArray).size = l.length := rfl
  go_enter Tryd.func11, Tryd.ntmps11
  go_wp2_with fail
  refine (begins_any a _).mono ?_
  rw [HA.out]
  rintro e w' ⟨rfl, hx⟩
  obtain rfl := hx.symm
  clear hx h0
  go_wp2_with fail
  go_loopw [5] (fun i wr => ∃ k : Nat, i = .int .i64 k ∧ k ≤ l.length ∧ Hid (spn isLD l = k + spn isLD (l.drop k)) ∧ wr = w) (fun i _ => l.length - (intOf i).toNat)
  case atStart => exact ⟨0, rfl, Nat.zero_le _, Lib.hid (by simp), rfl⟩
  case round =>
    obtain ⟨k, rfl, hk, HS, hx⟩ := hrel
    obtain rfl := hx.symm
    clear hx
    by_cases hlt : k < l.length
    · cases hp1 : isL ((⟨l.toArray⟩ : ByteArray)[k]'hlt)
      · rcases digit_ways ((⟨l.toArray⟩ : ByteArray)[k]'hlt) with ⟨hd, h1, h2⟩ | ⟨hd, h1⟩ | ⟨hd, h1, h2⟩
        · have HS1 := Lib.hid (spn_step (p := isLD) hlt (show isLD ((⟨l.toArray⟩ : ByteArray)[k]'hlt) = true by unfold isLD; rw [hp1, hd]; rfl))
          have HP := Lib.hid hp1
          clear hd hp1
          go_wp2_with (go_at_call 18; refine (begins_any _ _).mono ?_; rw [HP.out]; rintro e w' ⟨rfl, rfl⟩)
          go_roundw
          case rel => exact ⟨k + 1, by go_num, by omega, Lib.hid (by rw [HS.out, HS1.out]; omega), by trivial⟩
          case measure => simp [intOf]; omega
        all_goals
          have HN : Hid (spn isLD l = k) := Lib.hid (by rw [HS.out, spn_stop (p := isLD) hlt (show isLD ((⟨l.toArray⟩ : ByteArray)[k]'hlt) = false by unfold isLD; rw [hp1, hd]; rfl)]; rfl)
          have HP := Lib.hid hp1
          clear hd hp1
          by_cases h40 : 40 < k
          · have H2 := Lib.hid (show meas l = .bad 2 by rw [HM.out, HN.out, if_pos h40])
            go_wp2_with (go_at_call 18; refine (begins_any _ _).mono ?_; rw [HP.out]; rintro e w' ⟨rfl, rfl⟩)
            go_ret3
            exact ⟨by rw [H2.out]; rfl, Below.refl _ _⟩
          · have h40' : k ≤ 40 := by omega
            have HT := Lib.hid (extract_take l k)
            cases hw : isW (l.take k)
            all_goals
              have HM2 := HM.out
              rw [HN.out, if_neg h40, hw] at HM2
              have H2 := Lib.hid HM2
              have HW := Lib.hid hw
              clear hw HM2
              go_wp2_with (first | (go_at_call 18; refine (begins_any _ _).mono ?_; rw [HP.out]; rintro e w' ⟨rfl, rfl⟩) | (go_at_call 19; rw [HT.out]; refine (word_any _ _).mono ?_; rw [HW.out]; rintro e w' ⟨rfl, hb⟩; have HB := Lib.hid hb; clear hb))
              go_ret3
              exact ⟨by rw [H2.out]; rfl, HB.out⟩
      · have HS1 := Lib.hid (spn_step (p := isLD) hlt (show isLD ((⟨l.toArray⟩ : ByteArray)[k]'hlt) = true by unfold isLD; rw [hp1]; rfl))
        have HP := Lib.hid hp1
        clear hp1
        go_wp2_with (go_at_call 18; refine (begins_any _ _).mono ?_; rw [HP.out]; rintro e w' ⟨rfl, rfl⟩)
        go_roundw
        case rel => exact ⟨k + 1, by go_num, by omega, Lib.hid (by rw [HS.out, HS1.out]; omega), by trivial⟩
        case measure => simp [intOf]; omega
    · have hk0 : l.length ≤ k := by omega
      have HN : Hid (spn isLD l = k) := Lib.hid (by rw [HS.out, spn_end hk0]; rfl)
      by_cases h40 : 40 < k
      · have H2 := Lib.hid (show meas l = .bad 2 by rw [HM.out, HN.out, if_pos h40])
        go_wp2_with fail
        go_ret3
        exact ⟨by rw [H2.out]; rfl, Below.refl _ _⟩
      · have h40' : k ≤ 40 := by omega
        have HT := Lib.hid (extract_take l k)
        cases hw : isW (l.take k)
        all_goals
          have HM2 := HM.out
          rw [HN.out, if_neg h40, hw] at HM2
          have H2 := Lib.hid HM2
          have HW := Lib.hid hw
          clear hw HM2
          go_wp2_with (go_at_call 19; rw [HT.out]; refine (word_any _ _).mono ?_; rw [HW.out]; rintro e w' ⟨rfl, hb⟩; have HB := Lib.hid hb; clear hb)
          go_ret3
          exact ⟨by rw [H2.out]; rfl, HB.out⟩
set_option maxHeartbeats 4000000 in
theorem next_num (a : UInt8) (r : Bs) (ha : isL a = false) (hd0 : isD a = true) (hl : (a :: r).length ≤ 1000000000) (w : World) :
    Calls Tryd.prog 11 #[.string ⟨(a :: r).toArray⟩] w fun e w' => e = .returned (nres (meas (a :: r))) ∧ Below w.heap.size w w' := by
  obtain ⟨l, hL⟩ : ∃ l, l = a :: r := ⟨_, rfl⟩
  have HM := Lib.hid (show meas l = if 1 < spn isD l ∧ a = 48 then .bad 1 else if 300 < spn isD l then .bad 2 else .ok 1 (spn isD l) by rw [hL, meas_cons, if_neg (by rw [ha]; decide), if_pos hd0])
  have HN1 : Hid (1 ≤ spn isD l) := Lib.hid (by rw [hL, spn, if_pos hd0]; omega)
  have hp : 0 < l.length := by rw [hL]; simp
  have h0 : (⟨l.toArray⟩ : ByteArray)[0]'hp = a := by subst hL; rfl
  rw [← hL] at hl ⊢
  clear hL hd0
  have HA := Lib.hid ha
  clear ha
  have hsz : (⟨l.toArray⟩ : ByteArray).size = l.length := rfl
  have H0 := Lib.hid h0
  go_enter Tryd.func11, Tryd.ntmps11
  go_wp2_with fail
  refine (begins_any a _).mono ?_
  rw [HA.out]
  rintro e w' ⟨rfl, hx⟩
  obtain rfl := hx.symm
  clear hx
  go_wp2_with fail
  clear h0
  go_loopw [5] (fun i wr => ∃ k : Nat, i = .int .i64 k ∧ k ≤ l.length ∧ Hid (spn isD l = k + spn isD (l.drop k)) ∧ wr = w) (fun i _ => l.length - (intOf i).toNat)
  case atStart => exact ⟨0, rfl, Nat.zero_le _, Lib.hid (by simp), rfl⟩
  case round =>
    obtain ⟨k, rfl, hk, HS, hx⟩ := hrel
    obtain rfl := hx.symm
    clear hx
    by_cases hlt : k < l.length
    · rcases digit_ways ((⟨l.toArray⟩ : ByteArray)[k]'hlt) with ⟨hd, h1, h2⟩ | ⟨hd, h1⟩ | ⟨hd, h1, h2⟩
      · have HS1 := Lib.hid (spn_step (p := isD) hlt hd)
        clear hd
        go_wp2_with fail
        go_roundw
        case rel => exact ⟨k + 1, by go_num, by omega, Lib.hid (by rw [HS.out, HS1.out]; omega), by trivial⟩
        case measure => simp [intOf]; omega
      all_goals
        have HN : Hid (spn isD l = k) := Lib.hid (by rw [HS.out, spn_stop (p := isD) hlt hd]; rfl)
        clear hd
        have h0 := H0.out
        by_cases hk0 : k = 0
        · exact absurd HN1.out (by rw [HN.out, hk0]; decide)
        · have hk1 : 1 ≤ k := by omega
          clear hk0
          by_cases hz : 1 < k ∧ a = 48
          · obtain ⟨z1, z2⟩ := hz
            have H2 := Lib.hid (show meas l = .bad 1 by rw [HM.out, HN.out, if_pos ⟨z1, z2⟩])
            have hz1 : ((a.toNat : Int) == 48) = true := byte_yes 48 z2
            clear z2
            go_wp2_with fail
            go_ret3
            exact ⟨by rw [H2.out]; rfl, Below.refl _ _⟩
          · by_cases h3 : 300 < k
            · have H2 := Lib.hid (show meas l = .bad 2 by rw [HM.out, HN.out, if_neg hz, if_pos h3])
              have z1 : 1 < k := by omega
              have hz1 : ((a.toNat : Int) == 48) = false := byte_no 48 (fun e => hz ⟨z1, e⟩)
              clear hz
              go_wp2_with fail
              go_ret3
              exact ⟨by rw [H2.out]; rfl, Below.refl _ _⟩
            · have H2 := Lib.hid (show meas l = .ok 1 k by rw [HM.out, HN.out, if_neg hz, if_neg h3])
              have hk1 : 1 ≤ k := by have := HN1.out; rw [HN.out] at this; exact this
              have hk3 : k ≤ 300 := by omega
              by_cases z1 : 1 < k
              · have hz1 : ((a.toNat : Int) == 48) = false := byte_no 48 (fun e => hz ⟨z1, e⟩)
                clear hz h3
                go_wp2_with fail
                go_ret3
                exact ⟨by rw [H2.out]; rfl, Below.refl _ _⟩
              · have z2 : k ≤ 1 := by omega
                clear hz h3 z1
                go_wp2_with fail
                go_ret3
                exact ⟨by rw [H2.out]; rfl, Below.refl _ _⟩
    · have hk0 : l.length ≤ k := by omega
      have HN : Hid (spn isD l = k) := Lib.hid (by rw [HS.out, spn_end hk0]; rfl)
      have h0 := H0.out
      by_cases hk1' : k = 0
      · exact absurd HN1.out (by rw [HN.out, hk1']; decide)
      · have hk1 : 1 ≤ k := by omega
        clear hk1'
        by_cases hz : 1 < k ∧ a = 48
        · obtain ⟨z1, z2⟩ := hz
          have H2 := Lib.hid (show meas l = .bad 1 by rw [HM.out, HN.out, if_pos ⟨z1, z2⟩])
          have hz1 : ((a.toNat : Int) == 48) = true := byte_yes 48 z2
          clear z2
          go_wp2_with fail
          go_ret3
          exact ⟨by rw [H2.out]; rfl, Below.refl _ _⟩
        · by_cases h3 : 300 < k
          · have H2 := Lib.hid (show meas l = .bad 2 by rw [HM.out, HN.out, if_neg hz, if_pos h3])
            have z1 : 1 < k := by omega
            have hz1 : ((a.toNat : Int) == 48) = false := byte_no 48 (fun e => hz ⟨z1, e⟩)
            clear hz
            go_wp2_with fail
            go_ret3
            exact ⟨by rw [H2.out]; rfl, Below.refl _ _⟩
          · have H2 := Lib.hid (show meas l = .ok 1 k by rw [HM.out, HN.out, if_neg hz, if_neg h3])
            have hk1 : 1 ≤ k := by have := HN1.out; rw [HN.out] at this; exact this
            have hk3 : k ≤ 300 := by omega
            by_cases z1 : 1 < k
            · have hz1 : ((a.toNat : Int) == 48) = false := byte_no 48 (fun e => hz ⟨z1, e⟩)
              clear hz h3
              go_wp2_with fail
              go_ret3
              exact ⟨by rw [H2.out]; rfl, Below.refl _ _⟩
            · have z2 : k ≤ 1 := by omega
              clear hz h3 z1
              go_wp2_with fail
              go_ret3
              exact ⟨by rw [H2.out]; rfl, Below.refl _ _⟩

set_option maxHeartbeats 4000000 in
theorem next_sign (a : UInt8) (r : Bs) (ha : isL a = false) (hd0 : isD a = false) (w : World) :
    Calls Tryd.prog 11 #[.string ⟨(a :: r).toArray⟩] w fun e w' => e = .returned (nres (meas (a :: r))) ∧ Below w.heap.size w w' := by
  obtain ⟨l, hL⟩ : ∃ l, l = a :: r := ⟨_, rfl⟩
  have HM := Lib.hid (show meas l = if 0 < sgn l then .ok 2 (sgn l) else .bad 1 by rw [hL, meas_cons, if_neg (by rw [ha]; decide), if_neg (by rw [hd0]; decide)])
  have hp : 0 < l.length := by rw [hL]; simp
  have h0 : (⟨l.toArray⟩ : ByteArray)[0]'hp = a := by subst hL; rfl
  rw [← hL]
  clear hL
  have HA := Lib.hid ha
  have hw : a.toNat < 48 ∨ (57 < a.toNat ∧ 48 ≤ a.toNat) := by
    rcases digit_ways a with ⟨h, -, -⟩ | ⟨-, h⟩ | ⟨-, h1, h2⟩
    · rw [hd0] at h; cases h
    · exact .inl h
    · exact .inr ⟨h1, h2⟩
  clear ha hd0
  have hsz : (⟨l.toArray⟩ : ByteArray).size = l.length := rfl
  go_enter Tryd.func11, Tryd.ntmps11
  go_wp2_with fail
  refine (begins_any a _).mono ?_
  rw [HA.out]
  rintro e w' ⟨rfl, hx⟩
  obtain rfl := hx.symm
  clear hx
  go_wp2_with fail
  go_loopw [5] (fun i wr => i = .int .i64 0 ∧ wr = w) (fun _ _ => 0)
  case atStart => exact ⟨rfl, rfl⟩
  case round =>
    obtain ⟨rfl, hx⟩ := hrel
    obtain rfl := hx.symm
    clear hx
    rcases hw with h1 | ⟨h1, h2⟩
    all_goals
      go_wp2_with fail
      obtain ⟨W0, hW⟩ : ∃ W0, W0 = w.alloc (.cells #[.string ⟨#[58, 58]⟩, .string ⟨#[45, 62]⟩, .string ⟨#[38, 38]⟩, .string ⟨#[124, 124]⟩, .string ⟨#[91, 93]⟩, .string ⟨#[60, 62]⟩, .string ⟨#[60, 61]⟩, .string ⟨#[62, 61]⟩, .string ⟨#[40]⟩, .string ⟨#[41]⟩, .string ⟨#[123]⟩, .string ⟨#[125]⟩, .string ⟨#[44]⟩, .string ⟨#[58]⟩, .string ⟨#[59]⟩, .string ⟨#[124]⟩, .string ⟨#[61]⟩, .string ⟨#[60]⟩, .string ⟨#[62]⟩, .string ⟨#[43]⟩, .string ⟨#[45]⟩, .string ⟨#[42]⟩, .string ⟨#[47]⟩, .string ⟨#[37]⟩] 9) := ⟨_, rfl⟩
      have hb : Below w.heap.size w W0 := by rw [hW]; exact (Below.refl _ _).alloc (Nat.le_refl _) _
      have hB : W0.heap[w.heap.size]? = some (.cells (sgs.map fun b => Value.string ⟨b.toArray⟩).toArray 9 (0, 0)) := by rw [hW]; exact made_at w _ _ rfl
      have hc : ∀ k (hk : k < sgs.length), W0.cell? ⟨w.heap.size, k, none⟩ = some (.string ⟨(sgs[k]).toArray⟩) := fun k hk => cell_at hB k (by simp [hk])
      rw [← hW]
      have HC := Lib.hid hc
      have HB := Lib.hid hb
      clear hW hB hc hb
      go_loopw [75] (fun i wr => ∃ k : Nat, i = .int .i64 k ∧ k ≤ 24 ∧ Hid (sgF l = (sgs.drop k).find? (·.isPrefixOf l)) ∧ wr = W0) (fun i _ => 24 - (intOf i).toNat)
      case atStart => exact ⟨0, rfl, Nat.zero_le _, Lib.hid rfl, rfl⟩
      case round =>
        obtain ⟨k, rfl, hk, HI, hx⟩ := hrel
        obtain rfl := hx.symm
        clear hx
        by_cases hlt : k < 24
        · have hkl : k < sgs.length := hlt
          have c0 := HC.out k hkl
          have hpos := sgs_pos _ (List.getElem_mem hkl)
          have hpre := prefix_take sgs[k] l
          obtain ⟨p, hp⟩ : ∃ p, p = sgs[k] := ⟨_, rfl⟩
          rw [← hp] at c0 hpos hpre
          have HPE := Lib.hid hp
          clear hp
          by_cases hpl : p.length ≤ l.length
          · have HT := Lib.hid (extract_take l p.length)
            cases hq : (l.take p.length == p)
            · have hnp : p.isPrefixOf l = false := by rw [hpre, hq, Bool.and_false]
              have HS : Hid (sgF l = (sgs.drop (k + 1)).find? (·.isPrefixOf l)) := Lib.hid (sgF_step hkl HI.out (by rw [← HPE.out]; exact hnp))
              have hT := HT.out
              clear hpre hnp
              go_wp2_with fail
              go_roundw
              case rel => exact ⟨k + 1, by go_num, by omega, HS, by trivial⟩
              case measure => simp [intOf]; omega
            · have hnp : p.isPrefixOf l = true := by rw [hpre, hq, Bool.and_true]; simpa using hpl
              have hs : sgn l = p.length := by rw [← sgF_len, sgF_hit hkl HI.out (by rw [← HPE.out]; exact hnp), ← HPE.out]; rfl
              have HR := Lib.hid (show meas l = .ok 2 p.length by rw [HM.out, hs, if_pos (by omega)])
              have hT := HT.out
              clear hpre hnp hs
              go_wp2_with fail
              go_ret3
              exact ⟨by rw [HR.out]; rfl, HB.out⟩
          · have hnp : p.isPrefixOf l = false := by rw [hpre]; simp [hpl]
            have HS : Hid (sgF l = (sgs.drop (k + 1)).find? (·.isPrefixOf l)) := Lib.hid (sgF_step hkl HI.out (by rw [← HPE.out]; exact hnp))
            have hpl' : l.length < p.length := by omega
            clear hpre hnp hpl
            go_wp2_with fail
            go_roundw
            case rel => exact ⟨k + 1, by go_num, by omega, HS, by trivial⟩
            case measure => simp [intOf]; omega
        · have hkn : k = 24 := by omega
          subst hkn
          have hs : sgn l = 0 := by rw [← sgF_len, sgF_end HI.out]; rfl
          have HR := Lib.hid (show meas l = .bad 1 by rw [HM.out, hs]; rfl)
          clear hs
          go_wp2_with fail
          go_ret3
          exact ⟨by rw [HR.out]; rfl, HB.out⟩

theorem next_any (a : UInt8) (r : Bs) (hl : (a :: r).length ≤ 1000000000) (w : World) :
    Calls Tryd.prog 11 #[.string ⟨(a :: r).toArray⟩] w fun e w' => e = .returned (nres (meas (a :: r))) ∧ Below w.heap.size w w' := by
  cases ha : isL a
  · cases hd : isD a
    · exact next_sign a r ha hd w
    · exact next_num a r ha hd hl w
  · exact next_name a r ha hl w
end Go.Proofs.YtnjdbljdaghdmaaDoor
