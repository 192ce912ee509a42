/-
  The law ValueSteps: its walk.
-/
import Derived.Test.YtocadojeanhalaaDoorVlV
namespace Go.Proofs.YtocadojeanhalaaDoor
open Go.RowKit
set_option maxRecDepth 100000
set_option linter.unusedVariables false
set_option linter.unusedSimpArgs false

def OtherI (j i : Nat) : Nat := if j < i then 1 else 0
/-- The head of the loop over one step's values. -/
def STrel (xL : World) (n j : Nat) (ov iv : Value) (wr : World) : Prop :=
  ∃ i : Nat, iv = .int .i64 (i : Nat) ∧ ov = .int .i64 ((OtherI j i : Nat) : Int) ∧ i ≤ n ∧ Hid (Below xL.heap.size xL wr)
theorem other_le (j i : Nat) : OtherI j i ≤ 1 := by unfold OtherI; split <;> omega
theorem other_at (j i : Nat) : OtherI j (i + 1) = OtherI j i + (if i = j then 1 else 0) := by unfold OtherI; split <;> split <;> split <;> omega
set_option maxHeartbeats 40000000 in
theorem steps_walk (ko : Option Addr) (n0 kc0 : Nat) (we : World) (hx : RVals we ko n0 kc0) (htab : Lib.TabIs Tryd.prog we "internal/strconv.uint64pow10" .u64 Lib.pow10Tab) :
    Calls Tryd.prog 4 #[.slice ko n0 kc0] we fun e w' => e = .returned (.bool true) ∧ Below we.heap.size we w' := by
  have HX := Lib.hid hx
  have HTB := Lib.hid htab
  clear hx htab
  go_enter Tryd.func4, Tryd.ntmps4
  go_wp2_with fail
  refine (fitV we HTB.out).mono ?_
  rintro e w0 ⟨rfl, hb⟩
  have HW := Lib.hid hb
  clear hb
  go_wp2_with fail
  refine (tame_p ko n0 kc0 w0 (HX.out.below HW.out)).mono ?_
  rintro e w1 ⟨v, rs, rfl, hv, hl5, htv, hb⟩
  replace HW := Lib.hid (HW.out.trans (hb.mono HW.out.size))
  obtain ⟨lo, lc, rfl, ⟨hq1, hq2⟩, -⟩ := hv.form
  have HL := Lib.hid hv
  have HBD := Lib.hid (tame_bd htv hl5)
  have HTV := Lib.hid htv
  clear htv hv hb
  obtain ⟨S, hS⟩ : ∃ S, S = wL bitsZ rs := ⟨_, rfl⟩
  have HS := Lib.hid hS
  have hS4 : S ≤ 4000 := by rw [hS]; exact HBD.out
  clear hS
  obtain ⟨n, hn⟩ : ∃ n, n = rs.length := ⟨_, rfl⟩
  rw [← hn] at HL hq1 hl5 ⊢
  have hmx : lc ≤ 9223372036854775807 := hq2
  have HN := Lib.hid hn
  clear hn
  go_wp2_with fail
  refine (lsize_p _ rs w1 HL.out (by rw [← HN.out]; omega) (by have := HBD.out; omega)).mono ?_
  rintro e x2 ⟨rfl, hb⟩
  replace HL := Lib.hid (HL.out.below hb)
  replace HW := Lib.hid (HW.out.trans (hb.mono HW.out.size))
  clear hb
  rw [← HS.out]
  go_wp2_with fail
  refine (reduce_p _ rs x2 HL.out (by rw [← HN.out]; omega) (fun x hx l e => Nat.le_trans ((tv_bd (HTV.out x hx)).2 l e) (by decide))).mono ?_
  rintro e x3 ⟨v, rfl, hv, hb⟩
  replace HL := Lib.hid (HL.out.below hb)
  replace HW := Lib.hid (HW.out.trans (hb.mono HW.out.size))
  clear hb
  obtain ⟨so, sc, rfl, ⟨hs1, hs2⟩, -⟩ := hv.form
  have HR := Lib.hid hv
  obtain ⟨M, hM⟩ : ∃ M, M = (reduceV rs).length := ⟨_, rfl⟩
  rw [← hM] at HR hs1 ⊢
  have hmxs : sc ≤ 9223372036854775807 := hs2
  have HM := Lib.hid hM
  have HMA := Lib.hid (show wL cap2 rs = M by rw [hM, reduce_len])
  clear hM hv
  have hM4 : M ≤ 4000 := by
    have h1 : ∀ l : List V, wL cap2 l ≤ wL bitsZ l := by
      intro l
      induction l with
      | nil => exact Nat.le_refl _
      | cons a l ih =>
        have h2 : wV cap2 a ≤ wV bitsZ a := by
          cases a with
          | I z => exact Nat.min_le_left _ _
          | B b => exact Nat.le_refl _
          | L q =>
            have h3 : ∀ q : List Int, sumF cap2 q ≤ sumF bitsZ q := by
              intro q
              induction q with
              | nil => exact Nat.le_refl _
              | cons a q ih => have h9 : cap2 a ≤ bitsZ a := Nat.min_le_left _ _; simp only [sumF, List.map_cons, List.sum_cons] at *; omega
            exact Nat.add_le_add_left (h3 q) _
        simp only [wL, List.map_cons, List.sum_cons] at *; omega
    rw [← HMA.out]; exact Nat.le_trans (h1 rs) HBD.out
  go_wp2_with fail
  refine (vsize_p _ rs x3 HL.out (by rw [← HN.out]; omega) (by have := HBD.out; omega)).mono ?_
  rintro e x4 ⟨rfl, hb⟩
  replace HL := Lib.hid (HL.out.below hb)
  replace HW := Lib.hid (HW.out.trans (hb.mono HW.out.size))
  replace HR := Lib.hid (HR.out.below hb)
  clear hb
  rw [← HS.out]
  go_wp2_with fail
  refine (lall_p _ rs x4 HL.out (by rw [← HN.out]; omega) (by rw [HMA.out]; omega)).mono ?_
  rintro e x5 ⟨rfl, hb⟩
  replace HL := Lib.hid (HL.out.below hb)
  replace HW := Lib.hid (HW.out.trans (hb.mono HW.out.size))
  replace HR := Lib.hid (HR.out.below hb)
  clear hb
  rw [HMA.out]
  go_wp2_with fail
  go_loopw [30] (LoopB x5 M) (fun i _ => M - (intOf i).toNat)
  case atStart => exact ⟨0, rfl, Nat.zero_le _, Lib.hid (Below.refl _ _)⟩
  case round =>
    obtain ⟨t, rfl, ht, HT⟩ := hrel
    obtain ⟨wt, rfl⟩ : ∃ q, q = wr := ⟨_, rfl⟩
    by_cases hlt : t < M
    · have hz : t < (reduceV rs).length := by rw [← HM.out]; exact hlt
      have HLb := Lib.hid (HL.out.below HT.out)
      obtain ⟨sa, mo, ml, mc, rfl, c0, hv⟩ := (HR.out.below HT.out).cells.2 t hz
      obtain ⟨ms, hms⟩ : ∃ m, m = (reduceV rs)[t] := ⟨_, rfl⟩
      rw [← hms] at hv
      obtain ⟨j, s, hj, hlen, hsz, hat⟩ := red_mem (xs := rs) (m := ms) (by rw [hms]; exact List.getElem_mem hz)
      obtain ⟨hmll, hmlc, hmcm⟩ := hv.cells.1
      have hmln : ml = n := by rw [hmll, hlen, HN.out]
      subst hmln
      have HV := Lib.hid hv
      have HAT := Lib.hid hat
      have HLN := Lib.hid hlen
      obtain ⟨sm, hsm⟩ : ∃ q, q = wL bitsZ ms := ⟨_, rfl⟩
      have hsmS : sm < S := by rw [hsm, HS.out]; exact hsz
      have HSM := Lib.hid hsm
      have hmcx : mc ≤ 9223372036854775807 := hmcm
      have hne : ((ml : Int) != (ml : Int)) = false := bne_self_eq_false _
      have hne2 : ((sm : Int) != (sm : Int)) = false := bne_self_eq_false _
      have hge : ¬ ((sm : Int) ≥ (S : Int)) := by omega
      have hge2 : ¬ ((S : Int) ≤ (sm : Int)) := by omega
      have hjn : j < ml := by rw [HN.out]; exact hj
      clear hv hat hms hsm hsz hlen hmll hj
      go_wp2_with fail
      refine (lsize_p _ ms wt HV.out (by rw [HLN.out, ← HN.out]; omega) (by rw [← HSM.out]; omega)).mono ?_
      rintro e x21 ⟨rfl, hb⟩
      replace HLb := Lib.hid (HLb.out.below hb)
      replace HV := Lib.hid (HV.out.below hb)
      replace HT := Lib.hid (HT.out.trans (hb.mono HT.out.size))
      clear hb
      rw [← HSM.out]
      go_wp2_with fail
      refine (vsize_p _ ms x21 HV.out (by rw [HLN.out, ← HN.out]; omega) (by rw [← HSM.out]; omega)).mono ?_
      rintro e x22 ⟨rfl, hb⟩
      replace HLb := Lib.hid (HLb.out.below hb)
      replace HV := Lib.hid (HV.out.below hb)
      replace HT := Lib.hid (HT.out.trans (hb.mono HT.out.size))
      clear hb
      rw [← HSM.out]
      go_wp2_with fail
      refine (lsize_p _ ms x22 HV.out (by rw [HLN.out, ← HN.out]; omega) (by rw [← HSM.out]; omega)).mono ?_
      rintro e x23 ⟨rfl, hb⟩
      replace HLb := Lib.hid (HLb.out.below hb)
      replace HV := Lib.hid (HV.out.below hb)
      replace HT := Lib.hid (HT.out.trans (hb.mono HT.out.size))
      clear hb
      rw [← HSM.out]
      go_wp2_with fail
      go_loopw [7, 54] (STrel x23 ml j) (fun _ i _ => ml - (intOf i).toNat)
      case atStart => exact ⟨0, rfl, by go_num, Nat.zero_le _, Lib.hid (Below.refl _ _)⟩
      case round =>
        obtain ⟨i, rfl, rfl, hi, HI⟩ := hrel
        obtain ⟨wu, rfl⟩ : ∃ q, q = wr := ⟨_, rfl⟩
        have hol := other_le j i
        by_cases hli : i < ml
        · have hi1 : i < ms.length := by rw [HLN.out, ← HN.out]; exact hli
          have hi2 : i < rs.length := by rw [← HN.out]; exact hli
          obtain ⟨hkd, hdf⟩ := HAT.out i hi1 hi2
          obtain ⟨ma, mu, mk, mb, moo, mll, mcc, md, mp, mm, mq, rfl, hme, ⟨d0, d1, d2, d3, d4⟩, hmx2, hmr, hmv⟩ := (HV.out.below HI.out).unitAt hi1
          obtain ⟨la, lu, lk, lb, loo, lll, lcc, ld, lp, lm, lq, rfl, hle, ⟨e0, e1, e2, e3, e4⟩, hlx, hlr, hlv⟩ := (HLb.out.below HI.out).unitAt hi2
          have hkk : mk = lk := by rw [← kv hme, ← kv hle, kind_of hmr, kind_of hlr, hmx2, hlx]; exact hkd
          subst hkk
          have hk1 : (mk != mk) = false := bne_self_eq_false _
          have HMC := Lib.hid (vc_of hmv hmr)
          have HLC := Lib.hid (vc_of hlv hlr)
          have hdec : (mu.x = lu.x) ↔ i ≠ j := by rw [hmx2, hlx]; exact hdf
          have HDEC := Lib.hid hdec
          have D0 := Lib.hid d0
          have D1 := Lib.hid d1
          have D2 := Lib.hid d2
          have D3 := Lib.hid d3
          have D4 := Lib.hid d4
          have E0 := Lib.hid e0
          have E1 := Lib.hid e1
          have E2 := Lib.hid e2
          have E3 := Lib.hid e3
          have E4 := Lib.hid e4
          clear d0 d1 d2 d3 d4 e0 e1 e2 e3 e4 hme hle hmr hlr hmv hlv hkd hdf hdec hmx2 hlx
          go_upto_region 17 with fail
          have hog : Hid (∀ q, q < 0 → (fun q => 0) q < wu.heap.size) := Lib.hid (fun q h => absurd h (Nat.not_lt_zero _))
          refine Rel7.region (by kernel_rfl) [[], [], [0, 1], [0, 1, 2], [0, 1, 2, 3], [], [], [5, 6], [5, 6, 7], [5, 6, 7, 8], [0, 1, 2, 3, 4, 5, 6, 7, 8, 9]] [] [] (fun q => 0) 0 11 (by kernel_rfl) (by kernel_rfl) (by rfl) hog.out (fun q q' h h' hn => absurd hn (by omega)) ?_
          refine Rel7.Chain.det ?_ (by rfl) (fun T xs wr hA => ?_) ?_
          rotate_left 1
          · have e6 := hA.pre 6 (by kernel_rfl)
            simp only [List.getElem?_toArray, List.getElem?_cons_succ, List.getElem?_cons_zero] at e6
            clear hA
            refine ⟨(by rfl), ?_⟩
            go_simp <;> (try with_reducible rfl)
          refine Rel7.Chain.det ?_ (by rfl) (fun T xs wr hA => ?_) ?_
          rotate_left 1
          · have e8 := hA.pre 8 (by kernel_rfl)
            simp only [List.getElem?_toArray, List.getElem?_cons_succ, List.getElem?_cons_zero] at e8
            clear hA
            refine ⟨(by rfl), ?_⟩
            go_simp <;> (try with_reducible rfl)
          refine Rel7.Chain.det ?_ (by rfl) (fun T xs wr hA => ?_) ?_
          rotate_left 1
          · have e57 := hA.tm 0 57 (by rfl) (by rfl)
            have f57 : xs 0 = _ := hA.fa 0 (by rfl)
            (try simp (disch := first | rfl | decide) only [Rel7.mask_in] at f57)
            rw [f57] at e57
            clear f57
            have e58 := hA.tm 1 58 (by rfl) (by rfl)
            have f58 : xs 1 = _ := hA.fa 1 (by rfl)
            (try simp (disch := first | rfl | decide) only [Rel7.mask_in] at f58)
            rw [f58] at e58
            clear f58
            clear hA
            refine ⟨(by rfl), ?_⟩
            go_simp <;> (try with_reducible rfl)
          refine Rel7.Chain.det ?_ (by rfl) (fun T xs wr hA => ?_) ?_
          rotate_left 1
          · have e59 := hA.tm 2 59 (by rfl) (by rfl)
            have f59 : xs 2 = _ := hA.fa 2 (by rfl)
            (try simp (disch := first | rfl | decide) only [Rel7.mask_in] at f59)
            rw [f59] at e59
            clear f59
            clear hA
            refine ⟨(by rfl), ?_⟩
            go_simp <;> (try with_reducible rfl)
          refine Rel7.Chain.det ?_ (by rfl) (fun T xs wr hA => ?_) ?_
          rotate_left 1
          · have e60 := hA.tm 3 60 (by rfl) (by rfl)
            have f60 : xs 3 = _ := hA.fa 3 (by rfl)
            (try simp (disch := first | rfl | decide) only [Rel7.mask_in] at f60)
            rw [f60] at e60
            clear f60
            have hbw := undrew (hA.be wu.heap.size (Nat.le_refl _) (fun q h => absurd h (Nat.not_lt_zero q)))
            have qD0 := (hbw.cell (by have := cell_lt D0.out; exact this)).trans D0.out
            clear hA
            refine ⟨(by rfl), ?_⟩
            go_simp <;> (try with_reducible rfl)
          refine Rel7.Chain.det ?_ (by rfl) (fun T xs wr hA => ?_) ?_
          rotate_left 1
          · have e0 := hA.pre 0 (by kernel_rfl)
            simp only [List.getElem?_toArray, List.getElem?_cons_zero] at e0
            clear hA
            refine ⟨(by rfl), ?_⟩
            go_simp <;> (try with_reducible rfl)
          refine Rel7.Chain.det ?_ (by rfl) (fun T xs wr hA => ?_) ?_
          rotate_left 1
          · have e8 := hA.pre 8 (by kernel_rfl)
            simp only [List.getElem?_toArray, List.getElem?_cons_succ, List.getElem?_cons_zero] at e8
            clear hA
            refine ⟨(by rfl), ?_⟩
            go_simp <;> (try with_reducible rfl)
          refine Rel7.Chain.det ?_ (by rfl) (fun T xs wr hA => ?_) ?_
          rotate_left 1
          · have e62 := hA.tm 5 62 (by rfl) (by rfl)
            have f62 : xs 5 = _ := hA.fa 5 (by rfl)
            (try simp (disch := first | rfl | decide) only [Rel7.mask_in] at f62)
            rw [f62] at e62
            clear f62
            have e63 := hA.tm 6 63 (by rfl) (by rfl)
            have f63 : xs 6 = _ := hA.fa 6 (by rfl)
            (try simp (disch := first | rfl | decide) only [Rel7.mask_in] at f63)
            rw [f63] at e63
            clear f63
            clear hA
            refine ⟨(by rfl), ?_⟩
            go_simp <;> (try with_reducible rfl)
          refine Rel7.Chain.det ?_ (by rfl) (fun T xs wr hA => ?_) ?_
          rotate_left 1
          · have e64 := hA.tm 7 64 (by rfl) (by rfl)
            have f64 : xs 7 = _ := hA.fa 7 (by rfl)
            (try simp (disch := first | rfl | decide) only [Rel7.mask_in] at f64)
            rw [f64] at e64
            clear f64
            clear hA
            refine ⟨(by rfl), ?_⟩
            go_simp <;> (try with_reducible rfl)
          refine Rel7.Chain.det ?_ (by rfl) (fun T xs wr hA => ?_) ?_
          rotate_left 1
          · have e65 := hA.tm 8 65 (by rfl) (by rfl)
            have f65 : xs 8 = _ := hA.fa 8 (by rfl)
            (try simp (disch := first | rfl | decide) only [Rel7.mask_in] at f65)
            rw [f65] at e65
            clear f65
            have hbw := undrew (hA.be wu.heap.size (Nat.le_refl _) (fun q h => absurd h (Nat.not_lt_zero q)))
            have qE0 := (hbw.cell (by have := cell_lt E0.out; exact this)).trans E0.out
            clear hA
            refine ⟨(by rfl), ?_⟩
            go_simp <;> (try with_reducible rfl)
          refine Rel7.Chain.det ?_ (by rfl) (fun T xs wr hA => ?_) ?_
          rotate_left 1
          · have e61 := hA.tm 4 61 (by rfl) (by rfl)
            have f61 : xs 4 = _ := hA.fa 4 (by rfl)
            (try simp (disch := first | rfl | decide) only [Rel7.mask_in] at f61)
            rw [f61] at e61
            clear f61
            have e66 := hA.tm 9 66 (by rfl) (by rfl)
            have f66 : xs 9 = _ := hA.fa 9 (by rfl)
            (try simp (disch := first | rfl | decide) only [Rel7.mask_in] at f66)
            rw [f66] at e66
            clear f66
            clear hA
            refine ⟨(by rfl), ?_⟩
            go_simp <;> (try with_reducible rfl)
          refine Rel7.Chain.done (fun xs x41 hL => ?_)
          obtain ⟨⟨hbe, hbl⟩, hf, -, -⟩ := hL
          have f0 : xs 0 = _ := hf 0 (by decide)
          (try simp (disch := first | rfl | decide) only [Rel7.mask_in] at f0)
          have f1 : xs 1 = _ := hf 1 (by decide)
          (try simp (disch := first | rfl | decide) only [Rel7.mask_in] at f1)
          have f2 : xs 2 = _ := hf 2 (by decide)
          (try simp (disch := first | rfl | decide) only [Rel7.mask_in] at f2)
          have f3 : xs 3 = _ := hf 3 (by decide)
          (try simp (disch := first | rfl | decide) only [Rel7.mask_in] at f3)
          have f4 : xs 4 = _ := hf 4 (by decide)
          (try simp (disch := first | rfl | decide) only [Rel7.mask_in] at f4)
          have f5 : xs 5 = _ := hf 5 (by decide)
          (try simp (disch := first | rfl | decide) only [Rel7.mask_in] at f5)
          have f6 : xs 6 = _ := hf 6 (by decide)
          (try simp (disch := first | rfl | decide) only [Rel7.mask_in] at f6)
          have f7 : xs 7 = _ := hf 7 (by decide)
          (try simp (disch := first | rfl | decide) only [Rel7.mask_in] at f7)
          have f8 : xs 8 = _ := hf 8 (by decide)
          (try simp (disch := first | rfl | decide) only [Rel7.mask_in] at f8)
          have f9 : xs 9 = _ := hf 9 (by decide)
          (try simp (disch := first | rfl | decide) only [Rel7.mask_in] at f9)
          have f10 : xs 10 = _ := hf 10 (by decide)
          (try simp (disch := first | rfl | decide) only [Rel7.mask_in] at f10)
          have hb0 : Below 0 wu x41 := undrew (hbe 0 (Nat.zero_le _) (fun _ _ => Nat.zero_le _))
          have hgr : ∀ j, j < wu.heap.size → (∀ q, q < 0 → (fun q => 0) q ≠ j) → x41.heap[j]? = wu.heap[j]? := hbl
          clear hbe hbl hf
          have hb : Below wu.heap.size wu x41 := ⟨hb0.os, hb0.tape, hb0.output, hb0.size, fun q hq => hgr q hq (fun q h => absurd h (Nat.not_lt_zero _))⟩
          refine Rel7.rest_done ?_
          simp only [Rel7.fill, List.setIfInBounds_toArray, List.set_cons_zero, List.set_cons_succ, f0, f1, f2, f3, f4, f5, f6, f7, f8, f9, f10]
          clear hb0 hgr hog  f0 f1 f2 f3 f4 f5 f6 f7 f8 f9 f10
          replace HMC := Lib.hid (VC.below HMC.out hb)
          replace HLC := Lib.hid (VC.below HLC.out hb)
          replace HI := Lib.hid (HI.out.trans (hb.mono HI.out.size))
          replace hb := Lib.hid hb
          replace D0 := Lib.hid ((hb.out.cell (by have := cell_lt D0.out; exact this)).trans D0.out)
          replace D1 := Lib.hid ((hb.out.cell (by have := cell_lt D1.out; exact this)).trans D1.out)
          replace D2 := Lib.hid ((hb.out.cell (by have := cell_lt D2.out; exact this)).trans D2.out)
          replace D3 := Lib.hid ((hb.out.cell (by have := cell_lt D3.out; exact this)).trans D3.out)
          replace D4 := Lib.hid ((hb.out.cell (by have := cell_lt D4.out; exact this)).trans D4.out)
          replace E0 := Lib.hid ((hb.out.cell (by have := cell_lt E0.out; exact this)).trans E0.out)
          replace E1 := Lib.hid ((hb.out.cell (by have := cell_lt E1.out; exact this)).trans E1.out)
          replace E2 := Lib.hid ((hb.out.cell (by have := cell_lt E2.out; exact this)).trans E2.out)
          replace E3 := Lib.hid ((hb.out.cell (by have := cell_lt E3.out; exact this)).trans E3.out)
          replace E4 := Lib.hid ((hb.out.cell (by have := cell_lt E4.out; exact this)).trans E4.out)
          go_upto_region 19 with fail
          by_cases hij : i = j
          · have hdv : decide (mu.x = lu.x) = false := decide_eq_false (fun h => HDEC.out.1 h hij)
            have hoth : OtherI j (i + 1) = OtherI j i + 1 := by rw [other_at, if_pos hij]
            have HOTH := Lib.hid hoth
            clear hoth hij
            have hog : Hid (∀ q, q < 0 → (fun q => 0) q < x41.heap.size) := Lib.hid (fun q h => absurd h (Nat.not_lt_zero _))
            refine Rel7.region (by kernel_rfl) [[], [], [0, 1], [0, 1, 2], [], [], [4, 5], [4, 5, 6], [0, 1, 2, 3, 4, 5, 6, 7], [0, 1, 2, 3, 4, 5, 6, 7, 8]] [] [] (fun q => 0) 0 10 (by kernel_rfl) (by kernel_rfl) (by rfl) hog.out (fun q q' h h' hn => absurd hn (by omega)) ?_
            refine Rel7.Chain.det ?_ (by rfl) (fun T xs wr hA => ?_) ?_
            rotate_left 1
            · have e6 := hA.pre 6 (by kernel_rfl)
              simp only [List.getElem?_toArray, List.getElem?_cons_succ, List.getElem?_cons_zero] at e6
              clear hA
              refine ⟨(by rfl), ?_⟩
              go_simp <;> (try with_reducible rfl)
            refine Rel7.Chain.det ?_ (by rfl) (fun T xs wr hA => ?_) ?_
            rotate_left 1
            · have e8 := hA.pre 8 (by kernel_rfl)
              simp only [List.getElem?_toArray, List.getElem?_cons_succ, List.getElem?_cons_zero] at e8
              clear hA
              refine ⟨(by rfl), ?_⟩
              go_simp <;> (try with_reducible rfl)
            refine Rel7.Chain.det ?_ (by rfl) (fun T xs wr hA => ?_) ?_
            rotate_left 1
            · have e68 := hA.tm 0 68 (by rfl) (by rfl)
              have f68 : xs 0 = _ := hA.fa 0 (by rfl)
              (try simp (disch := first | rfl | decide) only [Rel7.mask_in] at f68)
              rw [f68] at e68
              clear f68
              have e69 := hA.tm 1 69 (by rfl) (by rfl)
              have f69 : xs 1 = _ := hA.fa 1 (by rfl)
              (try simp (disch := first | rfl | decide) only [Rel7.mask_in] at f69)
              rw [f69] at e69
              clear f69
              clear hA
              refine ⟨(by rfl), ?_⟩
              go_simp <;> (try with_reducible rfl)
            refine Rel7.Chain.det ?_ (by rfl) (fun T xs wr hA => ?_) ?_
            rotate_left 1
            · have e70 := hA.tm 2 70 (by rfl) (by rfl)
              have f70 : xs 2 = _ := hA.fa 2 (by rfl)
              (try simp (disch := first | rfl | decide) only [Rel7.mask_in] at f70)
              rw [f70] at e70
              clear f70
              have hbw := undrew (hA.be x41.heap.size (Nat.le_refl _) (fun q h => absurd h (Nat.not_lt_zero q)))
              have qD0 := (hbw.cell (by have := cell_lt D0.out; exact this)).trans D0.out
              have qD1 := (hbw.cell (by have := cell_lt D1.out; exact this)).trans D1.out
              have qD2 := (hbw.cell (by have := cell_lt D2.out; exact this)).trans D2.out
              have qD3 := (hbw.cell (by have := cell_lt D3.out; exact this)).trans D3.out
              have qD4 := (hbw.cell (by have := cell_lt D4.out; exact this)).trans D4.out
              clear hA
              refine ⟨(by rfl), ?_⟩
              go_simp <;> (try with_reducible rfl)
            refine Rel7.Chain.det ?_ (by rfl) (fun T xs wr hA => ?_) ?_
            rotate_left 1
            · have e0 := hA.pre 0 (by kernel_rfl)
              simp only [List.getElem?_toArray, List.getElem?_cons_zero] at e0
              clear hA
              refine ⟨(by rfl), ?_⟩
              go_simp <;> (try with_reducible rfl)
            refine Rel7.Chain.det ?_ (by rfl) (fun T xs wr hA => ?_) ?_
            rotate_left 1
            · have e8 := hA.pre 8 (by kernel_rfl)
              simp only [List.getElem?_toArray, List.getElem?_cons_succ, List.getElem?_cons_zero] at e8
              clear hA
              refine ⟨(by rfl), ?_⟩
              go_simp <;> (try with_reducible rfl)
            refine Rel7.Chain.det ?_ (by rfl) (fun T xs wr hA => ?_) ?_
            rotate_left 1
            · have e72 := hA.tm 4 72 (by rfl) (by rfl)
              have f72 : xs 4 = _ := hA.fa 4 (by rfl)
              (try simp (disch := first | rfl | decide) only [Rel7.mask_in] at f72)
              rw [f72] at e72
              clear f72
              have e73 := hA.tm 5 73 (by rfl) (by rfl)
              have f73 : xs 5 = _ := hA.fa 5 (by rfl)
              (try simp (disch := first | rfl | decide) only [Rel7.mask_in] at f73)
              rw [f73] at e73
              clear f73
              clear hA
              refine ⟨(by rfl), ?_⟩
              go_simp <;> (try with_reducible rfl)
            refine Rel7.Chain.det ?_ (by rfl) (fun T xs wr hA => ?_) ?_
            rotate_left 1
            · have e74 := hA.tm 6 74 (by rfl) (by rfl)
              have f74 : xs 6 = _ := hA.fa 6 (by rfl)
              (try simp (disch := first | rfl | decide) only [Rel7.mask_in] at f74)
              rw [f74] at e74
              clear f74
              have hbw := undrew (hA.be x41.heap.size (Nat.le_refl _) (fun q h => absurd h (Nat.not_lt_zero q)))
              have qE0 := (hbw.cell (by have := cell_lt E0.out; exact this)).trans E0.out
              have qE1 := (hbw.cell (by have := cell_lt E1.out; exact this)).trans E1.out
              have qE2 := (hbw.cell (by have := cell_lt E2.out; exact this)).trans E2.out
              have qE3 := (hbw.cell (by have := cell_lt E3.out; exact this)).trans E3.out
              have qE4 := (hbw.cell (by have := cell_lt E4.out; exact this)).trans E4.out
              clear hA
              refine ⟨(by rfl), ?_⟩
              go_simp <;> (try with_reducible rfl)
            refine Rel7.Chain.call (fun xs v w => v = .bool false) (fun _ _ _ _ h _ => h) (fun _ _ _ _ _ h _ _ => h) (by rfl) (fun T xs wr hA => ?_) ?_
            · have hsw := (hA.be 0 (Nat.zero_le _) (fun _ _ => Nat.zero_le _)).size
              have e71 := hA.tm 3 71 (by rfl) (by rfl)
              have f71 : xs 3 = _ := hA.fa 3 (by rfl)
              (try simp (disch := first | rfl | decide) only [Rel7.mask_in] at f71)
              rw [f71] at e71
              clear f71
              have e75 := hA.tm 7 75 (by rfl) (by rfl)
              have f75 : xs 7 = _ := hA.fa 7 (by rfl)
              (try simp (disch := first | rfl | decide) only [Rel7.mask_in] at f75)
              rw [f75] at e75
              clear f75
              have hbw := undrew (hA.be x41.heap.size (Nat.le_refl _) (fun q h => absurd h (Nat.not_lt_zero q)))
              clear hA
              refine ⟨(by rfl), fun K hK => ?_⟩
              go_simp
              refine (same_p _ _ mu.x lu.x wr (VC.below HMC.out hbw) (VC.below HLC.out hbw)).mono ?_
              rintro e w' ⟨rfl, hb'⟩
              exact hK.out _ _ (by rw [hdv]) hb'
            refine Rel7.Chain.det ?_ (by rfl) (fun T xs wr hA => ?_) ?_
            rotate_left 1
            · have e76 := hA.tm 8 76 (by rfl) (by rfl)
              have f76 : xs 8 = (.bool false) := hA.fa 8 (by rfl)
              rw [f76] at e76
              clear f76
              clear hA
              refine ⟨(by rfl), ?_⟩
              go_simp <;> (try with_reducible rfl)
            refine Rel7.Chain.done (fun xs x42 hL => ?_)
            obtain ⟨⟨hbe, hbl⟩, hf, -, -⟩ := hL
            have f0 : xs 0 = _ := hf 0 (by decide)
            (try simp (disch := first | rfl | decide) only [Rel7.mask_in] at f0)
            have f1 : xs 1 = _ := hf 1 (by decide)
            (try simp (disch := first | rfl | decide) only [Rel7.mask_in] at f1)
            have f2 : xs 2 = _ := hf 2 (by decide)
            (try simp (disch := first | rfl | decide) only [Rel7.mask_in] at f2)
            have f3 : xs 3 = _ := hf 3 (by decide)
            (try simp (disch := first | rfl | decide) only [Rel7.mask_in] at f3)
            have f4 : xs 4 = _ := hf 4 (by decide)
            (try simp (disch := first | rfl | decide) only [Rel7.mask_in] at f4)
            have f5 : xs 5 = _ := hf 5 (by decide)
            (try simp (disch := first | rfl | decide) only [Rel7.mask_in] at f5)
            have f6 : xs 6 = _ := hf 6 (by decide)
            (try simp (disch := first | rfl | decide) only [Rel7.mask_in] at f6)
            have f7 : xs 7 = _ := hf 7 (by decide)
            (try simp (disch := first | rfl | decide) only [Rel7.mask_in] at f7)
            have f8 : xs 8 = (.bool false) := hf 8 (by decide)
            have f9 : xs 9 = _ := hf 9 (by decide)
            (try simp (disch := first | rfl | decide) only [Rel7.mask_in] at f9)
            have hb0 : Below 0 x41 x42 := undrew (hbe 0 (Nat.zero_le _) (fun _ _ => Nat.zero_le _))
            have hgr : ∀ j, j < x41.heap.size → (∀ q, q < 0 → (fun q => 0) q ≠ j) → x42.heap[j]? = x41.heap[j]? := hbl
            clear hbe hbl hf
            have hb : Below x41.heap.size x41 x42 := ⟨hb0.os, hb0.tape, hb0.output, hb0.size, fun q hq => hgr q hq (fun q h => absurd h (Nat.not_lt_zero _))⟩
            refine Rel7.rest_done ?_
            simp only [Rel7.fill, List.setIfInBounds_toArray, List.set_cons_zero, List.set_cons_succ, f0, f1, f2, f3, f4, f5, f6, f7, f8, f9]
            clear hb0 hgr hog  f0 f1 f2 f3 f4 f5 f6 f7 f8 f9
            replace HMC := Lib.hid (VC.below HMC.out hb)
            replace HLC := Lib.hid (VC.below HLC.out hb)
            replace HI := Lib.hid (HI.out.trans (hb.mono HI.out.size))
            replace hb := Lib.hid hb
            obtain ⟨O, hO⟩ : ∃ O, O = OtherI j i := ⟨_, rfl⟩
            rw [← hO] at hol HOTH
            rw [← hO]
            clear hO
            go_wp2_with fail
            go_roundw
            case rel => exact ⟨i + 1, by go_num, (by rw [HOTH.out]; try go_num), hli, HI⟩
            case measure => simp [intOf]; omega
          · have hdv : decide (mu.x = lu.x) = true := decide_eq_true (HDEC.out.2 hij)
            have hoth : OtherI j (i + 1) = OtherI j i := by rw [other_at, if_neg hij, Nat.add_zero]
            have HOTH := Lib.hid hoth
            clear hoth hij
            have hog : Hid (∀ q, q < 0 → (fun q => 0) q < x41.heap.size) := Lib.hid (fun q h => absurd h (Nat.not_lt_zero _))
            refine Rel7.region (by kernel_rfl) [[], [], [0, 1], [0, 1, 2], [], [], [4, 5], [4, 5, 6], [0, 1, 2, 3, 4, 5, 6, 7], [0, 1, 2, 3, 4, 5, 6, 7, 8]] [] [] (fun q => 0) 0 10 (by kernel_rfl) (by kernel_rfl) (by rfl) hog.out (fun q q' h h' hn => absurd hn (by omega)) ?_
            refine Rel7.Chain.det ?_ (by rfl) (fun T xs wr hA => ?_) ?_
            rotate_left 1
            · have e6 := hA.pre 6 (by kernel_rfl)
              simp only [List.getElem?_toArray, List.getElem?_cons_succ, List.getElem?_cons_zero] at e6
              clear hA
              refine ⟨(by rfl), ?_⟩
              go_simp <;> (try with_reducible rfl)
            refine Rel7.Chain.det ?_ (by rfl) (fun T xs wr hA => ?_) ?_
            rotate_left 1
            · have e8 := hA.pre 8 (by kernel_rfl)
              simp only [List.getElem?_toArray, List.getElem?_cons_succ, List.getElem?_cons_zero] at e8
              clear hA
              refine ⟨(by rfl), ?_⟩
              go_simp <;> (try with_reducible rfl)
            refine Rel7.Chain.det ?_ (by rfl) (fun T xs wr hA => ?_) ?_
            rotate_left 1
            · have e68 := hA.tm 0 68 (by rfl) (by rfl)
              have f68 : xs 0 = _ := hA.fa 0 (by rfl)
              (try simp (disch := first | rfl | decide) only [Rel7.mask_in] at f68)
              rw [f68] at e68
              clear f68
              have e69 := hA.tm 1 69 (by rfl) (by rfl)
              have f69 : xs 1 = _ := hA.fa 1 (by rfl)
              (try simp (disch := first | rfl | decide) only [Rel7.mask_in] at f69)
              rw [f69] at e69
              clear f69
              clear hA
              refine ⟨(by rfl), ?_⟩
              go_simp <;> (try with_reducible rfl)
            refine Rel7.Chain.det ?_ (by rfl) (fun T xs wr hA => ?_) ?_
            rotate_left 1
            · have e70 := hA.tm 2 70 (by rfl) (by rfl)
              have f70 : xs 2 = _ := hA.fa 2 (by rfl)
              (try simp (disch := first | rfl | decide) only [Rel7.mask_in] at f70)
              rw [f70] at e70
              clear f70
              have hbw := undrew (hA.be x41.heap.size (Nat.le_refl _) (fun q h => absurd h (Nat.not_lt_zero q)))
              have qD0 := (hbw.cell (by have := cell_lt D0.out; exact this)).trans D0.out
              have qD1 := (hbw.cell (by have := cell_lt D1.out; exact this)).trans D1.out
              have qD2 := (hbw.cell (by have := cell_lt D2.out; exact this)).trans D2.out
              have qD3 := (hbw.cell (by have := cell_lt D3.out; exact this)).trans D3.out
              have qD4 := (hbw.cell (by have := cell_lt D4.out; exact this)).trans D4.out
              clear hA
              refine ⟨(by rfl), ?_⟩
              go_simp <;> (try with_reducible rfl)
            refine Rel7.Chain.det ?_ (by rfl) (fun T xs wr hA => ?_) ?_
            rotate_left 1
            · have e0 := hA.pre 0 (by kernel_rfl)
              simp only [List.getElem?_toArray, List.getElem?_cons_zero] at e0
              clear hA
              refine ⟨(by rfl), ?_⟩
              go_simp <;> (try with_reducible rfl)
            refine Rel7.Chain.det ?_ (by rfl) (fun T xs wr hA => ?_) ?_
            rotate_left 1
            · have e8 := hA.pre 8 (by kernel_rfl)
              simp only [List.getElem?_toArray, List.getElem?_cons_succ, List.getElem?_cons_zero] at e8
              clear hA
              refine ⟨(by rfl), ?_⟩
              go_simp <;> (try with_reducible rfl)
            refine Rel7.Chain.det ?_ (by rfl) (fun T xs wr hA => ?_) ?_
            rotate_left 1
            · have e72 := hA.tm 4 72 (by rfl) (by rfl)
              have f72 : xs 4 = _ := hA.fa 4 (by rfl)
              (try simp (disch := first | rfl | decide) only [Rel7.mask_in] at f72)
              rw [f72] at e72
              clear f72
              have e73 := hA.tm 5 73 (by rfl) (by rfl)
              have f73 : xs 5 = _ := hA.fa 5 (by rfl)
              (try simp (disch := first | rfl | decide) only [Rel7.mask_in] at f73)
              rw [f73] at e73
              clear f73
              clear hA
              refine ⟨(by rfl), ?_⟩
              go_simp <;> (try with_reducible rfl)
            refine Rel7.Chain.det ?_ (by rfl) (fun T xs wr hA => ?_) ?_
            rotate_left 1
            · have e74 := hA.tm 6 74 (by rfl) (by rfl)
              have f74 : xs 6 = _ := hA.fa 6 (by rfl)
              (try simp (disch := first | rfl | decide) only [Rel7.mask_in] at f74)
              rw [f74] at e74
              clear f74
              have hbw := undrew (hA.be x41.heap.size (Nat.le_refl _) (fun q h => absurd h (Nat.not_lt_zero q)))
              have qE0 := (hbw.cell (by have := cell_lt E0.out; exact this)).trans E0.out
              have qE1 := (hbw.cell (by have := cell_lt E1.out; exact this)).trans E1.out
              have qE2 := (hbw.cell (by have := cell_lt E2.out; exact this)).trans E2.out
              have qE3 := (hbw.cell (by have := cell_lt E3.out; exact this)).trans E3.out
              have qE4 := (hbw.cell (by have := cell_lt E4.out; exact this)).trans E4.out
              clear hA
              refine ⟨(by rfl), ?_⟩
              go_simp <;> (try with_reducible rfl)
            refine Rel7.Chain.call (fun xs v w => v = .bool true) (fun _ _ _ _ h _ => h) (fun _ _ _ _ _ h _ _ => h) (by rfl) (fun T xs wr hA => ?_) ?_
            · have hsw := (hA.be 0 (Nat.zero_le _) (fun _ _ => Nat.zero_le _)).size
              have e71 := hA.tm 3 71 (by rfl) (by rfl)
              have f71 : xs 3 = _ := hA.fa 3 (by rfl)
              (try simp (disch := first | rfl | decide) only [Rel7.mask_in] at f71)
              rw [f71] at e71
              clear f71
              have e75 := hA.tm 7 75 (by rfl) (by rfl)
              have f75 : xs 7 = _ := hA.fa 7 (by rfl)
              (try simp (disch := first | rfl | decide) only [Rel7.mask_in] at f75)
              rw [f75] at e75
              clear f75
              have hbw := undrew (hA.be x41.heap.size (Nat.le_refl _) (fun q h => absurd h (Nat.not_lt_zero q)))
              clear hA
              refine ⟨(by rfl), fun K hK => ?_⟩
              go_simp
              refine (same_p _ _ mu.x lu.x wr (VC.below HMC.out hbw) (VC.below HLC.out hbw)).mono ?_
              rintro e w' ⟨rfl, hb'⟩
              exact hK.out _ _ (by rw [hdv]) hb'
            refine Rel7.Chain.det ?_ (by rfl) (fun T xs wr hA => ?_) ?_
            rotate_left 1
            · have e76 := hA.tm 8 76 (by rfl) (by rfl)
              have f76 : xs 8 = (.bool true) := hA.fa 8 (by rfl)
              rw [f76] at e76
              clear f76
              clear hA
              refine ⟨(by rfl), ?_⟩
              go_simp <;> (try with_reducible rfl)
            refine Rel7.Chain.done (fun xs x42 hL => ?_)
            obtain ⟨⟨hbe, hbl⟩, hf, -, -⟩ := hL
            have f0 : xs 0 = _ := hf 0 (by decide)
            (try simp (disch := first | rfl | decide) only [Rel7.mask_in] at f0)
            have f1 : xs 1 = _ := hf 1 (by decide)
            (try simp (disch := first | rfl | decide) only [Rel7.mask_in] at f1)
            have f2 : xs 2 = _ := hf 2 (by decide)
            (try simp (disch := first | rfl | decide) only [Rel7.mask_in] at f2)
            have f3 : xs 3 = _ := hf 3 (by decide)
            (try simp (disch := first | rfl | decide) only [Rel7.mask_in] at f3)
            have f4 : xs 4 = _ := hf 4 (by decide)
            (try simp (disch := first | rfl | decide) only [Rel7.mask_in] at f4)
            have f5 : xs 5 = _ := hf 5 (by decide)
            (try simp (disch := first | rfl | decide) only [Rel7.mask_in] at f5)
            have f6 : xs 6 = _ := hf 6 (by decide)
            (try simp (disch := first | rfl | decide) only [Rel7.mask_in] at f6)
            have f7 : xs 7 = _ := hf 7 (by decide)
            (try simp (disch := first | rfl | decide) only [Rel7.mask_in] at f7)
            have f8 : xs 8 = (.bool true) := hf 8 (by decide)
            have f9 : xs 9 = _ := hf 9 (by decide)
            (try simp (disch := first | rfl | decide) only [Rel7.mask_in] at f9)
            have hb0 : Below 0 x41 x42 := undrew (hbe 0 (Nat.zero_le _) (fun _ _ => Nat.zero_le _))
            have hgr : ∀ j, j < x41.heap.size → (∀ q, q < 0 → (fun q => 0) q ≠ j) → x42.heap[j]? = x41.heap[j]? := hbl
            clear hbe hbl hf
            have hb : Below x41.heap.size x41 x42 := ⟨hb0.os, hb0.tape, hb0.output, hb0.size, fun q hq => hgr q hq (fun q h => absurd h (Nat.not_lt_zero _))⟩
            refine Rel7.rest_done ?_
            simp only [Rel7.fill, List.setIfInBounds_toArray, List.set_cons_zero, List.set_cons_succ, f0, f1, f2, f3, f4, f5, f6, f7, f8, f9]
            clear hb0 hgr hog  f0 f1 f2 f3 f4 f5 f6 f7 f8 f9
            replace HMC := Lib.hid (VC.below HMC.out hb)
            replace HLC := Lib.hid (VC.below HLC.out hb)
            replace HI := Lib.hid (HI.out.trans (hb.mono HI.out.size))
            replace hb := Lib.hid hb
            obtain ⟨O, hO⟩ : ∃ O, O = OtherI j i := ⟨_, rfl⟩
            rw [← hO] at hol HOTH
            rw [← hO]
            clear hO
            go_wp2_with fail
            go_roundw
            case rel => exact ⟨i + 1, by go_num, (by rw [HOTH.out]; try go_num), hli, HI⟩
            case measure => simp [intOf]; omega
        · have hin : i = ml := by omega
          have hO : OtherI j i = 1 := by unfold OtherI; rw [if_pos (by omega)]
          rw [hO]
          clear hO hol
          go_wp2_with fail
          go_roundw
          case rel => exact ⟨t + 1, by go_num, hlt, Lib.hid (HT.out.trans (HI.out.mono HT.out.size))⟩
          case measure => simp [intOf]; omega
    · go_wp2_with fail
      go_ret
      exact ⟨rfl, HW.out.trans (HT.out.mono HW.out.size)⟩
end Go.Proofs.YtocadojeanhalaaDoor
