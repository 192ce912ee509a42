/-
  Joined texts: PsZ, PsRa, PsRx, PsTb, PsFn, PsBn, PsRt, PsPl, PsFo, PsLawExprs, PsDoorE.
-/
import Derived.BigQuiet
import Derived.Test.YtdpfgfkoboihcaaGreatDoorCards
import Derived.Test.YtdpfgfkoboihcaaGreatDoorTie
import Derived.ProofKit
import Derived.OpenShut
import Derived.ShutString
import Derived.ChangeOld
import Derived.Deep.DeepHandedRow
import Derived.LaidMore
import Derived.LaidHandle
import Derived.LaidSub
import Derived.Lib.LaidTab
import Derived.Test.YtdpfgfkoboihcaaGreatDoorJPsParseExprs2
import Derived.Test.YtdpfgfkoboihcaaGreatDoorJPsParseExprs5
import Derived.Test.YtdpfgfkoboihcaaGreatDoorJPsParseExprs6
/-
  The contract of the reference's expr.
-/
namespace Go.Proofs.YtdpfgfkoboihcaaGreatDoor
open Go.RowKit
set_option maxRecDepth 100000
set_option linter.unusedVariables false

set_option linter.unusedSimpArgs false
set_option maxHeartbeats 32000000 in
theorem rexpr_p (n : Nat) (E : Hid (RExprAt n)) (C : Hid (RClimbAt n)) : RExprAt (n + 1) := by
  intro g r x w hps htb hpw hc
  have hgw : g < w.heap.size := hps.lt
  have HP := Lib.hid hps
  have HTD := Lib.hid htb
  have HTB := Lib.hid hpw
  have HGR := Lib.hid (show GR r from ⟨hps.good, htb⟩)
  clear hps htb hpw
  rw [rExpr] at hc
  go_enter Tryz.func56, Tryz.ntmps56
  go_upto_region 1 with fail
  obtain ⟨w1, hw⟩ : ∃ x, x = w.alloc (.cells #[.string ⟨#[]⟩, .int .i64 0] 117) := ⟨_, rfl⟩
  have hb : Below w.heap.size w w1 := by rw [hw]; exact (Below.refl _ _).alloc (Nat.le_refl _) _
  have hk : w1.heap[w.heap.size]? = some (.cells #[.string ⟨#[]⟩, .int .i64 0] 117 (0, 0)) := by rw [hw]; exact made_at w _ _ rfl
  rw [← hw]
  obtain ⟨kr, hkk⟩ : ∃ k, k = w.heap.size := ⟨_, rfl⟩
  have hgr : g < kr := by rw [hkk]; exact HP.out.lt
  have her : w.heap.size ≤ kr := by omega
  rw [← hkk] at hk ⊢
  replace HP := Lib.hid (HP.out.below hb)
  replace HTB := Lib.hid (HTB.out.below hb)
  have HD := Lib.hid (below_grown hb (some g))
  have hsz1 := HD.out.size
  have HBr := Lib.hid hk
  clear hw hb hk hkk
  go_wp2_with fail
  refine (at_p g r w1 HP.out).mono ?_
  rintro e w2 ⟨rfl, hb⟩
  replace HBr := Lib.hid ((hb.block _ (lt_of_block HBr.out)).trans HBr.out)
  replace HP := Lib.hid (HP.out.below hb)
  replace HTB := Lib.hid (HTB.out.below hb)
  replace HD := Lib.hid (grown_tr HD.out (below_grown hb (some g)))
  have hsz2 := HD.out.size
  clear hb
  simp only [tokV]
  obtain ⟨t, hnx⟩ : ∃ t, t = RS.at' r := ⟨_, rfl⟩
  rw [← hnx]
  have HNt := Lib.hid hnx
  clear hnx
  go_upto_region 2 with fail
  obtain ⟨w3, hw⟩ : ∃ x, x = w2.alloc (.cells #[.int .i64 (t.kind : Nat), .string ⟨t.text.toArray⟩, .int .i64 (t.line : Nat), .int .i64 (t.col : Nat)] 60) := ⟨_, rfl⟩
  have hb : Below w2.heap.size w2 w3 := by rw [hw]; exact (Below.refl _ _).alloc (Nat.le_refl _) _
  have hk : w3.heap[w2.heap.size]? = some (.cells #[.int .i64 (t.kind : Nat), .string ⟨t.text.toArray⟩, .int .i64 (t.line : Nat), .int .i64 (t.col : Nat)] 60 (0, 0)) := by rw [hw]; exact made_at w2 _ _ rfl
  rw [← hw]
  obtain ⟨kt, hkk⟩ : ∃ k, k = w2.heap.size := ⟨_, rfl⟩
  have hgt : g < kt := by rw [hkk]; exact HP.out.lt
  have het : w.heap.size ≤ kt := by omega
  have hr_t : kr < kt := by rw [hkk]; exact lt_of_block HBr.out
  rw [← hkk] at hk ⊢
  replace HBr := Lib.hid ((hb.block _ (lt_of_block HBr.out)).trans HBr.out)
  replace HP := Lib.hid (HP.out.below hb)
  replace HTB := Lib.hid (HTB.out.below hb)
  replace HD := Lib.hid (grown_tr HD.out (below_grown hb (some g)))
  have hsz3 := HD.out.size
  have HBt := Lib.hid hk
  clear hw hb hk hkk
  go_wp2_with fail
  refine (is_p g r [108, 101, 116] w3 HP.out).mono ?_
  rintro e w4 ⟨rfl, hb⟩
  replace HBr := Lib.hid ((hb.block _ (lt_of_block HBr.out)).trans HBr.out)
  replace HBt := Lib.hid ((hb.block _ (lt_of_block HBt.out)).trans HBt.out)
  replace HP := Lib.hid (HP.out.below hb)
  replace HTB := Lib.hid (HTB.out.below hb)
  replace HD := Lib.hid (grown_tr HD.out (below_grown hb (some g)))
  have hsz4 := HD.out.size
  clear hb
  cases hi : r.is [108, 101, 116]
  · rw [if_neg (show ¬ (r.is wLet = true) by rw [show r.is wLet = false from hi]; decide)] at hc
    clear hi
    go_wp2_with fail
    refine (is_p g r [105, 102] w4 HP.out).mono ?_
    rintro e w5 ⟨rfl, hb⟩
    replace HBr := Lib.hid ((hb.block _ (lt_of_block HBr.out)).trans HBr.out)
    replace HBt := Lib.hid ((hb.block _ (lt_of_block HBt.out)).trans HBt.out)
    replace HP := Lib.hid (HP.out.below hb)
    replace HTB := Lib.hid (HTB.out.below hb)
    replace HD := Lib.hid (grown_tr HD.out (below_grown hb (some g)))
    have hsz5 := HD.out.size
    clear hb
    cases hi : r.is [105, 102]
    · rw [if_neg (show ¬ (r.is wIf = true) by rw [show r.is wIf = false from hi]; decide)] at hc
      clear hi
      go_wp2_with fail
      refine (is_p g r [109, 97, 116, 99, 104] w5 HP.out).mono ?_
      rintro e w6 ⟨rfl, hb⟩
      replace HBr := Lib.hid ((hb.block _ (lt_of_block HBr.out)).trans HBr.out)
      replace HBt := Lib.hid ((hb.block _ (lt_of_block HBt.out)).trans HBt.out)
      replace HP := Lib.hid (HP.out.below hb)
      replace HTB := Lib.hid (HTB.out.below hb)
      replace HD := Lib.hid (grown_tr HD.out (below_grown hb (some g)))
      have hsz6 := HD.out.size
      clear hb
      cases hi : r.is [109, 97, 116, 99, 104]
      · rw [if_neg (show ¬ (r.is wMatch = true) by rw [show r.is wMatch = false from hi]; decide)] at hc
        clear hi
        go_wp2_with fail
        refine (is_p g r [97, 115, 115, 101, 114, 116] w6 HP.out).mono ?_
        rintro e w7 ⟨rfl, hb⟩
        replace HBr := Lib.hid ((hb.block _ (lt_of_block HBr.out)).trans HBr.out)
        replace HBt := Lib.hid ((hb.block _ (lt_of_block HBt.out)).trans HBt.out)
        replace HP := Lib.hid (HP.out.below hb)
        replace HTB := Lib.hid (HTB.out.below hb)
        replace HD := Lib.hid (grown_tr HD.out (below_grown hb (some g)))
        have hsz7 := HD.out.size
        clear hb
        cases hi : r.is [97, 115, 115, 101, 114, 116]
        · rw [if_neg (show ¬ (r.is wAssert = true) by rw [show r.is wAssert = false from hi]; decide)] at hc
          clear hi
          have HC := Lib.hid hc
          clear hc
          go_wp2_with fail
          refine (C.out g 1 r x w7 (by decide) (by decide) HP.out HTD.out HTB.out HC.out).mono ?_
          rintro e w8 ⟨rfl, hp, hg⟩
          replace HBr := Lib.hid ((hg.block _ (lt_of_block HBr.out) (fun e => by injection e with e; omega)).trans HBr.out)
          replace HBt := Lib.hid ((hg.block _ (lt_of_block HBt.out) (fun e => by injection e with e; omega)).trans HBt.out)
          replace HTB := Lib.hid (HTB.out.grown hg (by omega))
          replace HP := Lib.hid hp
          replace HD := Lib.hid (grown_tr HD.out (hg))
          have hsz8 := HD.out.size
          clear hp hg
          simp only [eV]
          have z0 := cell_at (v := .string ⟨#[]⟩) HBr.out 0 rfl
          have fz0 := froz_at HBr.out 0
          have z1 := cell_at (v := .int .i64 0) HBr.out 1 rfl
          have fz1 := froz_at HBr.out 1
          go_wp2_with fail
          have hg := st2_grown w8 kr (.string ⟨x.1.S.toArray⟩) (.int .i64 (x.1.d : Nat))
          exact bodyPost_ret (v := .agg #[.string ⟨x.1.S.toArray⟩, .int .i64 (x.1.d : Nat)]) (by simp [results, Tryz.results56, go_sem, z0, z1]) rfl ⟨rfl, HP.out.store (by omega) hg, grown_new HD.out hg (by omega)⟩
        · rw [if_pos (show r.is wAssert = true from hi)] at hc
          have HIK := Lib.hid (RS.is_kind hi)
          simp only [Option.bind_eq_some_iff] at hc
          obtain ⟨x1, h1, x2, h2, hx⟩ := hc
          injection hx with hx
          subst hx
          have H1 := Lib.hid h1
          have H2 := Lib.hid h2
          clear hi h1 h2
          have hT := HTD.out.at
          rw [← HNt.out] at hT
          have HG0 := Lib.hid (HGR.out.inc HIK.out.1)
          have HK4 : Hid (r.at'.kind ≠ 4) := Lib.hid (HIK.out.1)
          obtain ⟨pb, pi, pn, pc, h1, h2, h3, h4, h5, h6, h7, h8, h9⟩ := HP.out
          have g1 := cell_at (v := .int .i64 (pi : Nat)) h1 1 rfl
          have f1 := froz_at h1 1
          have hil : pi ≤ 30000 := by omega
          have HH := Lib.hid (And.intro h1 (And.intro h2 (And.intro h3 (And.intro h4 (And.intro h5 (And.intro h6 (And.intro h7 (And.intro h8 h9))))))))
          clear h1 h2 h3 h4 h5 h6 h7 h8 h9
          go_upto_region 31 with fail
          clear g1 f1
          obtain ⟨h1, h2, h3, h4, h5, h6, h7, h8, h9⟩ := HH.out
          have hc0 := heap_setCell_same _ g 1 _ _ (.int .i64 ((pi + 1 : Nat) : Int)) h1
          obtain ⟨w8, hw⟩ : ∃ x, x = w7.setCell ⟨g, 1, none⟩ (.int .i64 ((pi + 1 : Nat) : Int)) := ⟨_, rfl⟩
          have hg : w7.grownBy w8 (some g) := by rw [hw]; exact grown_set _ _ _ _
          rw [← hw] at hc0
          have hw' : w7.setCell ⟨g, 1, none⟩ (.int .i64 ((pi : Int) + 1)) = w8 := by rw [hw]; rfl
          rw [hw']
          have hp := PR.inc hg hc0 HK4.out h2 h3 h4 h5 h6 h7 h8 h9
          clear hw hw' hc0 h1 h2 h3 h4 h5 h6 h7 h8 h9 HH HK4 hil
          replace HBr := Lib.hid ((hg.block _ (lt_of_block HBr.out) (fun e => by injection e with e; omega)).trans HBr.out)
          replace HBt := Lib.hid ((hg.block _ (lt_of_block HBt.out) (fun e => by injection e with e; omega)).trans HBt.out)
          replace HTB := Lib.hid (HTB.out.grown hg (by omega))
          replace HP := Lib.hid hp
          replace HD := Lib.hid (grown_tr HD.out (hg))
          have hsz8 := HD.out.size
          clear hp hg
          have HF1 := Lib.hid ((r_len n).1 _ _ (HG0.out) H1.out)
          have HP1 : Hid (x1.1.S.length ≤ 300000000 ∧ x1.1.d ≤ 300000000) := Lib.hid (by
            have h : x1.1.S.length ≤ 300000000 := Nat.le_trans (Nat.le_trans (Nat.le_add_right _ _) HF1.out.2.1) HP.out.phi
            exact ⟨h, Nat.le_trans HF1.out.2.2.1 h⟩)
          go_wp2_with fail
          refine (E.out g _ x1 w8 HP.out (HG0.out).2 HTB.out H1.out).mono ?_
          rintro e w9 ⟨rfl, hp, hg⟩
          replace HBr := Lib.hid ((hg.block _ (lt_of_block HBr.out) (fun e => by injection e with e; omega)).trans HBr.out)
          replace HBt := Lib.hid ((hg.block _ (lt_of_block HBt.out) (fun e => by injection e with e; omega)).trans HBt.out)
          replace HTB := Lib.hid (HTB.out.grown hg (by omega))
          replace HP := Lib.hid hp
          replace HD := Lib.hid (grown_tr HD.out (hg))
          have hsz9 := HD.out.size
          clear hp hg
          simp only [eV]
          go_upto_region 32 with fail
          obtain ⟨w10, hw⟩ : ∃ x, x = w9.alloc (.cells #[.string ⟨x1.1.S.toArray⟩, .int .i64 (x1.1.d : Nat)] 117) := ⟨_, rfl⟩
          have hb : Below w9.heap.size w9 w10 := by rw [hw]; exact (Below.refl _ _).alloc (Nat.le_refl _) _
          have hk : w10.heap[w9.heap.size]? = some (.cells #[.string ⟨x1.1.S.toArray⟩, .int .i64 (x1.1.d : Nat)] 117 (0, 0)) := by rw [hw]; exact made_at w9 _ _ rfl
          rw [← hw]
          obtain ⟨ka, hkk⟩ : ∃ k, k = w9.heap.size := ⟨_, rfl⟩
          have hga : g < ka := by rw [hkk]; exact HP.out.lt
          have hea : w.heap.size ≤ ka := by omega
          have hr_a : kr < ka := by rw [hkk]; exact lt_of_block HBr.out
          have ht_a : kt < ka := by rw [hkk]; exact lt_of_block HBt.out
          rw [← hkk] at hk ⊢
          replace HBr := Lib.hid ((hb.block _ (lt_of_block HBr.out)).trans HBr.out)
          replace HBt := Lib.hid ((hb.block _ (lt_of_block HBt.out)).trans HBt.out)
          replace HP := Lib.hid (HP.out.below hb)
          replace HTB := Lib.hid (HTB.out.below hb)
          replace HD := Lib.hid (grown_tr HD.out (below_grown hb (some g)))
          have hsz10 := HD.out.size
          have HBa := Lib.hid hk
          clear hw hb hk hkk
          go_wp2_with fail
          refine (eat_p g (x1.2) [59] w10 HP.out).mono ?_
          rintro e w11 ⟨⟨v, rfl⟩, hp, hg⟩
          replace HBr := Lib.hid ((hg.block _ (lt_of_block HBr.out) (fun e => by injection e with e; omega)).trans HBr.out)
          replace HBt := Lib.hid ((hg.block _ (lt_of_block HBt.out) (fun e => by injection e with e; omega)).trans HBt.out)
          replace HBa := Lib.hid ((hg.block _ (lt_of_block HBa.out) (fun e => by injection e with e; omega)).trans HBa.out)
          replace HTB := Lib.hid (HTB.out.grown hg (by omega))
          replace HP := Lib.hid hp
          replace HD := Lib.hid (grown_tr HD.out (hg))
          have hsz11 := HD.out.size
          clear hp hg
          have HF2 := Lib.hid ((r_len n).1 _ _ (HF1.out.1.eat wSemi) H2.out)
          have HP2 : Hid (x2.1.S.length ≤ 300000000 ∧ x2.1.d ≤ 300000000) := Lib.hid (by
            have h : x2.1.S.length ≤ 300000000 := Nat.le_trans (Nat.le_trans (Nat.le_add_right _ _) HF2.out.2.1) HP.out.phi
            exact ⟨h, Nat.le_trans HF2.out.2.2.1 h⟩)
          go_upto_region 33 with fail
          have hlt_t := lt_of_block HBt.out
          have hlt_a := lt_of_block HBa.out
          have hog : ∀ q, q < 1 → (fun q => g) q < w11.heap.size := fun q _ => by show g < _; exact HP.out.lt
          refine Rel7.region (by kernel_rfl) [[], [], [], [2], [1, 2, 3], [0, 1, 2, 3, 4], [0, 1, 2, 3, 4, 5]] [] [(3, 1000)] (fun q => g) 1 5 (by kernel_rfl) (by kernel_rfl) (by rfl) hog (fun q q' h h' hn => absurd hn (by omega)) ?_
          refine Rel7.Chain.det ?_ (by rfl) (fun T xs wr hA => ?_) ?_
          rotate_left 1
          · have e3 := hA.pre 3 (by kernel_rfl)
            simp only [List.getElem?_toArray, List.getElem?_cons_succ, List.getElem?_cons_zero] at e3
            have hBq : wr.heap[kt]? = _ := (hA.bl _ hlt_t (fun q _ => by show g ≠ kt; omega)).trans HBt.out
            have q0 := cell_at (v := .int .i64 (t.kind : Nat)) hBq 0 rfl
            have q1 := cell_at (v := .string ⟨t.text.toArray⟩) hBq 1 rfl
            have q2 := cell_at (v := .int .i64 (t.line : Nat)) hBq 2 rfl
            have q3 := cell_at (v := .int .i64 (t.col : Nat)) hBq 3 rfl
            clear hBq
            clear hA
            refine ⟨(by rfl), ?_⟩
            go_simp <;> (try with_reducible rfl)
          refine Rel7.Chain.det ?_ (by rfl) (fun T xs wr hA => ?_) ?_
          rotate_left 1
          · have e12 := hA.pre 12 (by kernel_rfl)
            simp only [List.getElem?_toArray, List.getElem?_cons_succ, List.getElem?_cons_zero] at e12
            have hBq : wr.heap[ka]? = _ := (hA.bl _ hlt_a (fun q _ => by show g ≠ ka; omega)).trans HBa.out
            have q0 := cell_at (v := .string ⟨x1.1.S.toArray⟩) hBq 0 rfl
            have q1 := cell_at (v := .int .i64 (x1.1.d : Nat)) hBq 1 rfl
            clear hBq
            clear hA
            refine ⟨(by rfl), ?_⟩
            go_simp <;> (try with_reducible rfl)
          refine Rel7.Chain.det ?_ (by rfl) (fun T xs wr hA => ?_) ?_
          rotate_left 1
          · have e0 := hA.pre 0 (by kernel_rfl)
            simp only [List.getElem?_toArray, List.getElem?_cons_zero] at e0
            clear hA
            refine ⟨(by rfl), ?_⟩
            go_simp <;> (try with_reducible rfl)
          refine Rel7.Chain.callOld 0 (fun xs v w => v = eV x2.1 ∧ PR w g x2.2) (fun _ _ _ _ ⟨h1, h2⟩ hb => ⟨h1, h2.below hb⟩) (fun _ _ _ _ q' _ hq hne _ => absurd rfl hne) (by rfl) (by rfl) (by decide) (Rel7.own_one (by rfl)) (fun T xs wr hA hold => ?_) ?_
          · have hsw := (hA.be 0 (Nat.zero_le _) (fun _ _ => Nat.zero_le _)).size
            have e121 := hA.tm 2 121 (by rfl) (by rfl)
            have f121 : xs 2 = _ := hA.fa 2 (by rfl)
            (try simp (disch := first | rfl | decide) only [Rel7.mask_in] at f121)
            rw [f121] at e121
            clear f121
            have h0 := undrew (hA.be 0 (Nat.zero_le _) (fun _ _ => Nat.zero_le _))
            have hbw : Below w11.heap.size w11 wr := ⟨h0.os, h0.tape, h0.output, h0.size, fun k hk => by
              by_cases e : k = g
              · rw [e]; exact hold
              · exact hA.bl k hk (fun q _ h => e h.symm)⟩
            clear hA
            refine ⟨(by rfl), fun K hK => ?_⟩
            go_simp
            refine (E.out g _ x2 _ (HP.out.below hbw) (HF1.out.1.eat wSemi).2 (HTB.out.below hbw) H2.out).mono ?_
            rintro e w' ⟨rfl, hp, hg⟩
            exact hK.out _ _ ⟨rfl, hp⟩ (Rel7.Priv.of hg)
          refine Rel7.Chain.call (fun xs v w => ∃ g, v = .slice (some ⟨g, 0, none⟩) 2 2 ∧ w11.heap.size ≤ g ∧ w.heap[g]? = some (.cells #[.string ⟨x1.1.S.toArray⟩, .int .i64 (x1.1.d : Nat), .string ⟨x2.1.S.toArray⟩, .int .i64 (x2.1.d : Nat)] 117 (0, 0))) (fun _ _ _ _ ⟨g, hv, hl, hg⟩ hb => ⟨g, hv, hl, by rw [hb.block g (Array.getElem?_eq_some_iff.1 hg).1]; exact hg⟩) (fun _ _ _ _ _ ⟨g, hv, hl, hg⟩ ⟨q, hq, e⟩ hp => ⟨g, hv, hl, by rw [hp.block g (Array.getElem?_eq_some_iff.1 hg).1 (fun h => by have := hog q hq; omega)]; exact hg⟩) (by rfl) (fun T xs wr hA => ?_) ?_
          · have hsw := (hA.be 0 (Nat.zero_le _) (fun _ _ => Nat.zero_le _)).size
            have e120 := hA.tm 1 120 (by rfl) (by rfl)
            have f120 : xs 1 = _ := hA.fa 1 (by rfl)
            (try simp (disch := first | rfl | decide) only [Rel7.mask_in] at f120)
            rw [f120] at e120
            clear f120
            have e122 := hA.tm 3 122 (by rfl) (by rfl)
            have hF3 : xs 3 = eV x2.1 ∧ PR wr g x2.2 := hA.fa 3 (by rfl)
            rw [hF3.1] at e122
            unfold eV at e122
            clear hA
            refine ⟨(by rfl), fun K hK => ?_⟩
            go_simp
            exact hK.out _ _ ⟨_, rfl, hsw, by simpa using made_at wr _ _ rfl⟩ ((Below.refl _ _).alloc (Nat.le_refl _) _)
          refine Rel7.Chain.done (fun xs w12 hL => ?_)
          obtain ⟨⟨hbe, hbl⟩, hf, -, -⟩ := hL
          have f0 : xs 0 = _ := hf 0 (by decide)
          (try simp (disch := first | rfl | decide) only [Rel7.mask_in] at f0)
          have f1 : xs 1 = _ := hf 1 (by decide)
          (try simp (disch := first | rfl | decide) only [Rel7.mask_in] at f1)
          have f2 : xs 2 = _ := hf 2 (by decide)
          (try simp (disch := first | rfl | decide) only [Rel7.mask_in] at f2)
          have F3 : (xs 3) = eV x2.1 ∧ PR w12 g x2.2 := hf 3 (by decide)
          have F4 : ∃ g, (xs 4) = .slice (some ⟨g, 0, none⟩) 2 2 ∧ w11.heap.size ≤ g ∧ w12.heap[g]? = some (.cells #[.string ⟨x1.1.S.toArray⟩, .int .i64 (x1.1.d : Nat), .string ⟨x2.1.S.toArray⟩, .int .i64 (x2.1.d : Nat)] 117 (0, 0)) := hf 4 (by decide)
          have hb0 : Below 0 w11 w12 := undrew (hbe 0 (Nat.zero_le _) (fun _ _ => Nat.zero_le _))
          have hgr : ∀ j, j < w11.heap.size → (∀ q, q < 1 → (fun q => g) q ≠ j) → w12.heap[j]? = w11.heap[j]? := hbl
          clear hbe hbl hf
          obtain ⟨hv4, hp⟩ := F3
          obtain ⟨g5, hv5, hl5, hg5⟩ := F4
          have hg : w11.grownBy w12 (some g) := ⟨hb0.os, hb0.tape, hb0.output, hb0.size, fun k hk hn => hgr k hk (fun q _ e => hn (by rw [← e]))⟩
          refine Rel7.rest_list (by decide) (by kernel_rfl) ?_
          simp only [Rel7.fill, List.take_succ_cons, List.take_zero, List.drop_succ_cons, List.drop_zero, List.setIfInBounds_toArray, List.set_cons_zero, List.set_cons_succ, f0, f1, f2]
          simp only [hv4, hv5]
          clear hog hv4 hv5 hl5 hb0 hgr hlt_t hlt_a f0 f1 f2
          replace HBr := Lib.hid ((hg.block _ (lt_of_block HBr.out) (fun e => by injection e with e; omega)).trans HBr.out)
          replace HBt := Lib.hid ((hg.block _ (lt_of_block HBt.out) (fun e => by injection e with e; omega)).trans HBt.out)
          replace HBa := Lib.hid ((hg.block _ (lt_of_block HBa.out) (fun e => by injection e with e; omega)).trans HBa.out)
          replace HTB := Lib.hid (HTB.out.grown hg (by omega))
          replace HP := Lib.hid hp
          replace HD := Lib.hid (grown_tr HD.out (hg))
          have hsz12 := HD.out.size
          have HG5 := Lib.hid hg5
          clear hp hg hg5
          have hnm : ([] : Bs).length ≤ 1000000 := by simp
          have hf1 := HP1.out.1
          have hr1 := HP1.out.2
          have hf2 := HP2.out.1
          have hr2 := HP2.out.2
          have hS : ([x1.1, x2.1].flatMap RE.S).length ≤ 1000000000 := by rw [fl2]; omega
          have hd : ∀ e ∈ [x1.1, x2.1], e.d ≤ 1000000000 := by intro e he; simp only [List.mem_cons, List.not_mem_nil, or_false] at he; rcases he with rfl | rfl <;> omega
          go_wp2_with fail
          refine (made_p 28 t [] (some ⟨g5, 0, none⟩) 2 [x1.1, x2.1] w12 HTB.out.1 (by first | decide | omega) hT.1 hT.2.1 hnm (at2_blk (ks := [x1.1, x2.1]) HG5.out) (by simp) hS hd).mono ?_
          rintro e w13 ⟨rfl, hb⟩
          replace HBr := Lib.hid ((hb.block _ (lt_of_block HBr.out)).trans HBr.out)
          replace HBt := Lib.hid ((hb.block _ (lt_of_block HBt.out)).trans HBt.out)
          replace HBa := Lib.hid ((hb.block _ (lt_of_block HBa.out)).trans HBa.out)
          replace HP := Lib.hid (HP.out.below hb)
          replace HTB := Lib.hid (HTB.out.below hb)
          replace HD := Lib.hid (grown_tr HD.out (below_grown hb (some g)))
          have hsz13 := HD.out.size
          clear hb
          clear HG5
          simp only [eV]
          have z0 := cell_at (v := .string ⟨#[]⟩) HBr.out 0 rfl
          have fz0 := froz_at HBr.out 0
          have z1 := cell_at (v := .int .i64 0) HBr.out 1 rfl
          have fz1 := froz_at HBr.out 1
          go_wp2_with fail
          have hg := st2_grown w13 kr (.string ⟨(mk 28 t [] [x1.1, x2.1]).S.toArray⟩) (.int .i64 ((mk 28 t [] [x1.1, x2.1]).d : Nat))
          exact bodyPost_ret (v := .agg #[.string ⟨(mk 28 t [] [x1.1, x2.1]).S.toArray⟩, .int .i64 ((mk 28 t [] [x1.1, x2.1]).d : Nat)]) (by simp [results, Tryz.results56, go_sem, z0, z1]) rfl ⟨by rw [HNt.out]; rfl, HP.out.store (by omega) hg, grown_new HD.out hg (by omega)⟩
      · rw [if_pos (show r.is wMatch = true from hi)] at hc
        have HIK := Lib.hid (RS.is_kind hi)
        simp only [Option.bind_eq_some_iff] at hc
        obtain ⟨x1, h1, x2, h2, x3, h3, hx⟩ := hc
        injection hx with hx
        subst hx
        have H1 := Lib.hid h1
        have H2 := Lib.hid h2
        have H3 := Lib.hid h3
        clear hi h1 h2 h3
        have hT := HTD.out.at
        rw [← HNt.out] at hT
        have HG0 := Lib.hid (HGR.out.inc HIK.out.1)
        have HK4 : Hid (r.at'.kind ≠ 4) := Lib.hid (HIK.out.1)
        obtain ⟨pb, pi, pn, pc, h1, h2, h3, h4, h5, h6, h7, h8, h9⟩ := HP.out
        have g1 := cell_at (v := .int .i64 (pi : Nat)) h1 1 rfl
        have f1 := froz_at h1 1
        have hil : pi ≤ 30000 := by omega
        have HH := Lib.hid (And.intro h1 (And.intro h2 (And.intro h3 (And.intro h4 (And.intro h5 (And.intro h6 (And.intro h7 (And.intro h8 h9))))))))
        clear h1 h2 h3 h4 h5 h6 h7 h8 h9
        go_upto_region 18 with fail
        clear g1 f1
        obtain ⟨h1, h2, h3, h4, h5, h6, h7, h8, h9⟩ := HH.out
        have hc0 := heap_setCell_same _ g 1 _ _ (.int .i64 ((pi + 1 : Nat) : Int)) h1
        obtain ⟨w7, hw⟩ : ∃ x, x = w6.setCell ⟨g, 1, none⟩ (.int .i64 ((pi + 1 : Nat) : Int)) := ⟨_, rfl⟩
        have hg : w6.grownBy w7 (some g) := by rw [hw]; exact grown_set _ _ _ _
        rw [← hw] at hc0
        have hw' : w6.setCell ⟨g, 1, none⟩ (.int .i64 ((pi : Int) + 1)) = w7 := by rw [hw]; rfl
        rw [hw']
        have hp := PR.inc hg hc0 HK4.out h2 h3 h4 h5 h6 h7 h8 h9
        clear hw hw' hc0 h1 h2 h3 h4 h5 h6 h7 h8 h9 HH HK4 hil
        replace HBr := Lib.hid ((hg.block _ (lt_of_block HBr.out) (fun e => by injection e with e; omega)).trans HBr.out)
        replace HBt := Lib.hid ((hg.block _ (lt_of_block HBt.out) (fun e => by injection e with e; omega)).trans HBt.out)
        replace HTB := Lib.hid (HTB.out.grown hg (by omega))
        replace HP := Lib.hid hp
        replace HD := Lib.hid (grown_tr HD.out (hg))
        have hsz7 := HD.out.size
        clear hp hg
        have HF1 := Lib.hid ((r_len n).1 _ _ (HG0.out) H1.out)
        have HP1 : Hid (x1.1.S.length ≤ 300000000 ∧ x1.1.d ≤ 300000000) := Lib.hid (by
          have h : x1.1.S.length ≤ 300000000 := Nat.le_trans (Nat.le_trans (Nat.le_add_right _ _) HF1.out.2.1) HP.out.phi
          exact ⟨h, Nat.le_trans HF1.out.2.2.1 h⟩)
        go_wp2_with fail
        refine (E.out g _ x1 w7 HP.out (HG0.out).2 HTB.out H1.out).mono ?_
        rintro e w8 ⟨rfl, hp, hg⟩
        replace HBr := Lib.hid ((hg.block _ (lt_of_block HBr.out) (fun e => by injection e with e; omega)).trans HBr.out)
        replace HBt := Lib.hid ((hg.block _ (lt_of_block HBt.out) (fun e => by injection e with e; omega)).trans HBt.out)
        replace HTB := Lib.hid (HTB.out.grown hg (by omega))
        replace HP := Lib.hid hp
        replace HD := Lib.hid (grown_tr HD.out (hg))
        have hsz8 := HD.out.size
        clear hp hg
        simp only [eV]
        go_upto_region 19 with fail
        obtain ⟨w9, hw⟩ : ∃ x, x = w8.alloc (.cells #[.string ⟨x1.1.S.toArray⟩, .int .i64 (x1.1.d : Nat)] 117) := ⟨_, rfl⟩
        have hb : Below w8.heap.size w8 w9 := by rw [hw]; exact (Below.refl _ _).alloc (Nat.le_refl _) _
        have hk : w9.heap[w8.heap.size]? = some (.cells #[.string ⟨x1.1.S.toArray⟩, .int .i64 (x1.1.d : Nat)] 117 (0, 0)) := by rw [hw]; exact made_at w8 _ _ rfl
        rw [← hw]
        obtain ⟨ka, hkk⟩ : ∃ k, k = w8.heap.size := ⟨_, rfl⟩
        have hga : g < ka := by rw [hkk]; exact HP.out.lt
        have hea : w.heap.size ≤ ka := by omega
        have hr_a : kr < ka := by rw [hkk]; exact lt_of_block HBr.out
        have ht_a : kt < ka := by rw [hkk]; exact lt_of_block HBt.out
        rw [← hkk] at hk ⊢
        replace HBr := Lib.hid ((hb.block _ (lt_of_block HBr.out)).trans HBr.out)
        replace HBt := Lib.hid ((hb.block _ (lt_of_block HBt.out)).trans HBt.out)
        replace HP := Lib.hid (HP.out.below hb)
        replace HTB := Lib.hid (HTB.out.below hb)
        replace HD := Lib.hid (grown_tr HD.out (below_grown hb (some g)))
        have hsz9 := HD.out.size
        have HBa := Lib.hid hk
        clear hw hb hk hkk
        go_wp2_with fail
        refine (eat_p g (x1.2) [119, 105, 116, 104] w9 HP.out).mono ?_
        rintro e w10 ⟨⟨v, rfl⟩, hp, hg⟩
        replace HBr := Lib.hid ((hg.block _ (lt_of_block HBr.out) (fun e => by injection e with e; omega)).trans HBr.out)
        replace HBt := Lib.hid ((hg.block _ (lt_of_block HBt.out) (fun e => by injection e with e; omega)).trans HBt.out)
        replace HBa := Lib.hid ((hg.block _ (lt_of_block HBa.out) (fun e => by injection e with e; omega)).trans HBa.out)
        replace HTB := Lib.hid (HTB.out.grown hg (by omega))
        replace HP := Lib.hid hp
        replace HD := Lib.hid (grown_tr HD.out (hg))
        have hsz10 := HD.out.size
        clear hp hg
        go_wp2_with fail
        refine (eat_p g (x1.2.eat wWith) [91, 93] w10 HP.out).mono ?_
        rintro e w11 ⟨⟨v, rfl⟩, hp, hg⟩
        replace HBr := Lib.hid ((hg.block _ (lt_of_block HBr.out) (fun e => by injection e with e; omega)).trans HBr.out)
        replace HBt := Lib.hid ((hg.block _ (lt_of_block HBt.out) (fun e => by injection e with e; omega)).trans HBt.out)
        replace HBa := Lib.hid ((hg.block _ (lt_of_block HBa.out) (fun e => by injection e with e; omega)).trans HBa.out)
        replace HTB := Lib.hid (HTB.out.grown hg (by omega))
        replace HP := Lib.hid hp
        replace HD := Lib.hid (grown_tr HD.out (hg))
        have hsz11 := HD.out.size
        clear hp hg
        go_wp2_with fail
        refine (eat_p g ((x1.2.eat wWith).eat wNil) [45, 62] w11 HP.out).mono ?_
        rintro e w12 ⟨⟨v, rfl⟩, hp, hg⟩
        replace HBr := Lib.hid ((hg.block _ (lt_of_block HBr.out) (fun e => by injection e with e; omega)).trans HBr.out)
        replace HBt := Lib.hid ((hg.block _ (lt_of_block HBt.out) (fun e => by injection e with e; omega)).trans HBt.out)
        replace HBa := Lib.hid ((hg.block _ (lt_of_block HBa.out) (fun e => by injection e with e; omega)).trans HBa.out)
        replace HTB := Lib.hid (HTB.out.grown hg (by omega))
        replace HP := Lib.hid hp
        replace HD := Lib.hid (grown_tr HD.out (hg))
        have hsz12 := HD.out.size
        clear hp hg
        have HF2 := Lib.hid ((r_len n).1 _ _ (((HF1.out.1.eat wWith).eat wNil).eat wArrow) H2.out)
        have HP2 : Hid (x2.1.S.length ≤ 300000000 ∧ x2.1.d ≤ 300000000) := Lib.hid (by
          have h : x2.1.S.length ≤ 300000000 := Nat.le_trans (Nat.le_trans (Nat.le_add_right _ _) HF2.out.2.1) HP.out.phi
          exact ⟨h, Nat.le_trans HF2.out.2.2.1 h⟩)
        go_wp2_with fail
        refine (E.out g _ x2 w12 HP.out (((HF1.out.1.eat wWith).eat wNil).eat wArrow).2 HTB.out H2.out).mono ?_
        rintro e w13 ⟨rfl, hp, hg⟩
        replace HBr := Lib.hid ((hg.block _ (lt_of_block HBr.out) (fun e => by injection e with e; omega)).trans HBr.out)
        replace HBt := Lib.hid ((hg.block _ (lt_of_block HBt.out) (fun e => by injection e with e; omega)).trans HBt.out)
        replace HBa := Lib.hid ((hg.block _ (lt_of_block HBa.out) (fun e => by injection e with e; omega)).trans HBa.out)
        replace HTB := Lib.hid (HTB.out.grown hg (by omega))
        replace HP := Lib.hid hp
        replace HD := Lib.hid (grown_tr HD.out (hg))
        have hsz13 := HD.out.size
        clear hp hg
        simp only [eV]
        go_upto_region 23 with fail
        obtain ⟨w14, hw⟩ : ∃ x, x = w13.alloc (.cells #[.string ⟨x2.1.S.toArray⟩, .int .i64 (x2.1.d : Nat)] 117) := ⟨_, rfl⟩
        have hb : Below w13.heap.size w13 w14 := by rw [hw]; exact (Below.refl _ _).alloc (Nat.le_refl _) _
        have hk : w14.heap[w13.heap.size]? = some (.cells #[.string ⟨x2.1.S.toArray⟩, .int .i64 (x2.1.d : Nat)] 117 (0, 0)) := by rw [hw]; exact made_at w13 _ _ rfl
        rw [← hw]
        obtain ⟨kb, hkk⟩ : ∃ k, k = w13.heap.size := ⟨_, rfl⟩
        have hgb : g < kb := by rw [hkk]; exact HP.out.lt
        have heb : w.heap.size ≤ kb := by omega
        have hr_b : kr < kb := by rw [hkk]; exact lt_of_block HBr.out
        have ht_b : kt < kb := by rw [hkk]; exact lt_of_block HBt.out
        have ha_b : ka < kb := by rw [hkk]; exact lt_of_block HBa.out
        rw [← hkk] at hk ⊢
        replace HBr := Lib.hid ((hb.block _ (lt_of_block HBr.out)).trans HBr.out)
        replace HBt := Lib.hid ((hb.block _ (lt_of_block HBt.out)).trans HBt.out)
        replace HBa := Lib.hid ((hb.block _ (lt_of_block HBa.out)).trans HBa.out)
        replace HP := Lib.hid (HP.out.below hb)
        replace HTB := Lib.hid (HTB.out.below hb)
        replace HD := Lib.hid (grown_tr HD.out (below_grown hb (some g)))
        have hsz14 := HD.out.size
        have HBb := Lib.hid hk
        clear hw hb hk hkk
        go_wp2_with fail
        refine (eat_p g (x2.2) [124] w14 HP.out).mono ?_
        rintro e w15 ⟨⟨v, rfl⟩, hp, hg⟩
        replace HBr := Lib.hid ((hg.block _ (lt_of_block HBr.out) (fun e => by injection e with e; omega)).trans HBr.out)
        replace HBt := Lib.hid ((hg.block _ (lt_of_block HBt.out) (fun e => by injection e with e; omega)).trans HBt.out)
        replace HBa := Lib.hid ((hg.block _ (lt_of_block HBa.out) (fun e => by injection e with e; omega)).trans HBa.out)
        replace HBb := Lib.hid ((hg.block _ (lt_of_block HBb.out) (fun e => by injection e with e; omega)).trans HBb.out)
        replace HTB := Lib.hid (HTB.out.grown hg (by omega))
        replace HP := Lib.hid hp
        replace HD := Lib.hid (grown_tr HD.out (hg))
        have hsz15 := HD.out.size
        clear hp hg
        go_wp2_with fail
        refine (rname_p g (x2.2.eat wBar) w15 HP.out).mono ?_
        rintro e w16 ⟨rfl, hp, hg⟩
        replace HBr := Lib.hid ((hg.block _ (lt_of_block HBr.out) (fun e => by injection e with e; omega)).trans HBr.out)
        replace HBt := Lib.hid ((hg.block _ (lt_of_block HBt.out) (fun e => by injection e with e; omega)).trans HBt.out)
        replace HBa := Lib.hid ((hg.block _ (lt_of_block HBa.out) (fun e => by injection e with e; omega)).trans HBa.out)
        replace HBb := Lib.hid ((hg.block _ (lt_of_block HBb.out) (fun e => by injection e with e; omega)).trans HBb.out)
        replace HTB := Lib.hid (HTB.out.grown hg (by omega))
        replace HP := Lib.hid hp
        replace HD := Lib.hid (grown_tr HD.out (hg))
        have hsz16 := HD.out.size
        clear hp hg
        simp only [tokV]
        obtain ⟨th, hnx⟩ : ∃ t, t = RS.at' (x2.2.eat wBar) := ⟨_, rfl⟩
        rw [← hnx]
        have HNth := Lib.hid hnx
        clear hnx
        go_upto_region 25 with fail
        obtain ⟨w17, hw⟩ : ∃ x, x = w16.alloc (.cells #[.int .i64 (th.kind : Nat), .string ⟨th.text.toArray⟩, .int .i64 (th.line : Nat), .int .i64 (th.col : Nat)] 60) := ⟨_, rfl⟩
        have hb : Below w16.heap.size w16 w17 := by rw [hw]; exact (Below.refl _ _).alloc (Nat.le_refl _) _
        have hk : w17.heap[w16.heap.size]? = some (.cells #[.int .i64 (th.kind : Nat), .string ⟨th.text.toArray⟩, .int .i64 (th.line : Nat), .int .i64 (th.col : Nat)] 60 (0, 0)) := by rw [hw]; exact made_at w16 _ _ rfl
        rw [← hw]
        obtain ⟨kth, hkk⟩ : ∃ k, k = w16.heap.size := ⟨_, rfl⟩
        have hgth : g < kth := by rw [hkk]; exact HP.out.lt
        have heth : w.heap.size ≤ kth := by omega
        have hr_th : kr < kth := by rw [hkk]; exact lt_of_block HBr.out
        have ht_th : kt < kth := by rw [hkk]; exact lt_of_block HBt.out
        have ha_th : ka < kth := by rw [hkk]; exact lt_of_block HBa.out
        have hb_th : kb < kth := by rw [hkk]; exact lt_of_block HBb.out
        rw [← hkk] at hk ⊢
        replace HBr := Lib.hid ((hb.block _ (lt_of_block HBr.out)).trans HBr.out)
        replace HBt := Lib.hid ((hb.block _ (lt_of_block HBt.out)).trans HBt.out)
        replace HBa := Lib.hid ((hb.block _ (lt_of_block HBa.out)).trans HBa.out)
        replace HBb := Lib.hid ((hb.block _ (lt_of_block HBb.out)).trans HBb.out)
        replace HP := Lib.hid (HP.out.below hb)
        replace HTB := Lib.hid (HTB.out.below hb)
        replace HD := Lib.hid (grown_tr HD.out (below_grown hb (some g)))
        have hsz17 := HD.out.size
        have HBth := Lib.hid hk
        clear hw hb hk hkk
        have hN := (HF2.out.1.eat wBar).2.at
        rw [← HNth.out] at hN
        go_wp2_with fail
        refine (eat_p g ((x2.2.eat wBar).name) [58, 58] w17 HP.out).mono ?_
        rintro e w18 ⟨⟨v, rfl⟩, hp, hg⟩
        replace HBr := Lib.hid ((hg.block _ (lt_of_block HBr.out) (fun e => by injection e with e; omega)).trans HBr.out)
        replace HBt := Lib.hid ((hg.block _ (lt_of_block HBt.out) (fun e => by injection e with e; omega)).trans HBt.out)
        replace HBa := Lib.hid ((hg.block _ (lt_of_block HBa.out) (fun e => by injection e with e; omega)).trans HBa.out)
        replace HBb := Lib.hid ((hg.block _ (lt_of_block HBb.out) (fun e => by injection e with e; omega)).trans HBb.out)
        replace HBth := Lib.hid ((hg.block _ (lt_of_block HBth.out) (fun e => by injection e with e; omega)).trans HBth.out)
        replace HTB := Lib.hid (HTB.out.grown hg (by omega))
        replace HP := Lib.hid hp
        replace HD := Lib.hid (grown_tr HD.out (hg))
        have hsz18 := HD.out.size
        clear hp hg
        go_wp2_with fail
        refine (rname_p g (((x2.2.eat wBar).name).eat wCons) w18 HP.out).mono ?_
        rintro e w19 ⟨rfl, hp, hg⟩
        replace HBr := Lib.hid ((hg.block _ (lt_of_block HBr.out) (fun e => by injection e with e; omega)).trans HBr.out)
        replace HBt := Lib.hid ((hg.block _ (lt_of_block HBt.out) (fun e => by injection e with e; omega)).trans HBt.out)
        replace HBa := Lib.hid ((hg.block _ (lt_of_block HBa.out) (fun e => by injection e with e; omega)).trans HBa.out)
        replace HBb := Lib.hid ((hg.block _ (lt_of_block HBb.out) (fun e => by injection e with e; omega)).trans HBb.out)
        replace HBth := Lib.hid ((hg.block _ (lt_of_block HBth.out) (fun e => by injection e with e; omega)).trans HBth.out)
        replace HTB := Lib.hid (HTB.out.grown hg (by omega))
        replace HP := Lib.hid hp
        replace HD := Lib.hid (grown_tr HD.out (hg))
        have hsz19 := HD.out.size
        clear hp hg
        simp only [tokV]
        obtain ⟨tt, hnx⟩ : ∃ t, t = RS.at' (((x2.2.eat wBar).name).eat wCons) := ⟨_, rfl⟩
        rw [← hnx]
        have HNtt := Lib.hid hnx
        clear hnx
        go_upto_region 27 with fail
        obtain ⟨w20, hw⟩ : ∃ x, x = w19.alloc (.cells #[.int .i64 (tt.kind : Nat), .string ⟨tt.text.toArray⟩, .int .i64 (tt.line : Nat), .int .i64 (tt.col : Nat)] 60) := ⟨_, rfl⟩
        have hb : Below w19.heap.size w19 w20 := by rw [hw]; exact (Below.refl _ _).alloc (Nat.le_refl _) _
        have hk : w20.heap[w19.heap.size]? = some (.cells #[.int .i64 (tt.kind : Nat), .string ⟨tt.text.toArray⟩, .int .i64 (tt.line : Nat), .int .i64 (tt.col : Nat)] 60 (0, 0)) := by rw [hw]; exact made_at w19 _ _ rfl
        rw [← hw]
        obtain ⟨ktt, hkk⟩ : ∃ k, k = w19.heap.size := ⟨_, rfl⟩
        have hgtt : g < ktt := by rw [hkk]; exact HP.out.lt
        have hett : w.heap.size ≤ ktt := by omega
        have hr_tt : kr < ktt := by rw [hkk]; exact lt_of_block HBr.out
        have ht_tt : kt < ktt := by rw [hkk]; exact lt_of_block HBt.out
        have ha_tt : ka < ktt := by rw [hkk]; exact lt_of_block HBa.out
        have hb_tt : kb < ktt := by rw [hkk]; exact lt_of_block HBb.out
        have hth_tt : kth < ktt := by rw [hkk]; exact lt_of_block HBth.out
        rw [← hkk] at hk ⊢
        replace HBr := Lib.hid ((hb.block _ (lt_of_block HBr.out)).trans HBr.out)
        replace HBt := Lib.hid ((hb.block _ (lt_of_block HBt.out)).trans HBt.out)
        replace HBa := Lib.hid ((hb.block _ (lt_of_block HBa.out)).trans HBa.out)
        replace HBb := Lib.hid ((hb.block _ (lt_of_block HBb.out)).trans HBb.out)
        replace HBth := Lib.hid ((hb.block _ (lt_of_block HBth.out)).trans HBth.out)
        replace HP := Lib.hid (HP.out.below hb)
        replace HTB := Lib.hid (HTB.out.below hb)
        replace HD := Lib.hid (grown_tr HD.out (below_grown hb (some g)))
        have hsz20 := HD.out.size
        have HBtt := Lib.hid hk
        clear hw hb hk hkk
        have hM := ((HF2.out.1.eat wBar).name.eat wCons).2.at
        rw [← HNtt.out] at hM
        go_wp2_with fail
        refine (eat_p g ((((x2.2.eat wBar).name).eat wCons).name) [45, 62] w20 HP.out).mono ?_
        rintro e w21 ⟨⟨v, rfl⟩, hp, hg⟩
        replace HBr := Lib.hid ((hg.block _ (lt_of_block HBr.out) (fun e => by injection e with e; omega)).trans HBr.out)
        replace HBt := Lib.hid ((hg.block _ (lt_of_block HBt.out) (fun e => by injection e with e; omega)).trans HBt.out)
        replace HBa := Lib.hid ((hg.block _ (lt_of_block HBa.out) (fun e => by injection e with e; omega)).trans HBa.out)
        replace HBb := Lib.hid ((hg.block _ (lt_of_block HBb.out) (fun e => by injection e with e; omega)).trans HBb.out)
        replace HBth := Lib.hid ((hg.block _ (lt_of_block HBth.out) (fun e => by injection e with e; omega)).trans HBth.out)
        replace HBtt := Lib.hid ((hg.block _ (lt_of_block HBtt.out) (fun e => by injection e with e; omega)).trans HBtt.out)
        replace HTB := Lib.hid (HTB.out.grown hg (by omega))
        replace HP := Lib.hid hp
        replace HD := Lib.hid (grown_tr HD.out (hg))
        have hsz21 := HD.out.size
        clear hp hg
        have HF3 := Lib.hid ((r_len n).1 _ _ (((((HF2.out.1.eat wBar).name).eat wCons).name).eat wArrow) H3.out)
        have HP3 : Hid (x3.1.S.length ≤ 300000000 ∧ x3.1.d ≤ 300000000) := Lib.hid (by
          have h : x3.1.S.length ≤ 300000000 := Nat.le_trans (Nat.le_trans (Nat.le_add_right _ _) HF3.out.2.1) HP.out.phi
          exact ⟨h, Nat.le_trans HF3.out.2.2.1 h⟩)
        go_upto_region 28 with fail
        obtain ⟨C3, hC3⟩ : ∃ l : Bs, l = th.text ++ [32] := ⟨_, rfl⟩
        have lC3 : C3.length ≤ 3001 := by rw [hC3]; simp only [List.length_append, List.length_cons, List.length_nil]; omega
        have HC3 := Lib.hid hC3
        clear hC3
        obtain ⟨C6, hC6⟩ : ∃ l : Bs, l = C3 ++ tt.text := ⟨_, rfl⟩
        have lC6 : C6.length ≤ 6001 := by rw [hC6]; simp only [List.length_append, List.length_cons, List.length_nil]; omega
        have HC6 := Lib.hid hC6
        clear hC6
        have hlt_t := lt_of_block HBt.out
        have hlt_th := lt_of_block HBth.out
        have hlt_tt := lt_of_block HBtt.out
        have hlt_a := lt_of_block HBa.out
        have hlt_b := lt_of_block HBb.out
        have hog : ∀ q, q < 1 → (fun q => g) q < w21.heap.size := fun q _ => by show g < _; exact HP.out.lt
        refine Rel7.region (by kernel_rfl) [[], [], [1], [1, 2], [], [4], [1, 2, 3, 4, 5], [], [], [], [9], [7, 8, 9, 10], [0, 1, 2, 3, 4, 5, 6, 7, 8, 9, 10, 11], [0, 1, 2, 3, 4, 5, 6, 7, 8, 9, 10, 11, 12]] [] [(10, 1000)] (fun q => g) 1 12 (by kernel_rfl) (by kernel_rfl) (by rfl) hog (fun q q' h h' hn => absurd hn (by omega)) ?_
        refine Rel7.Chain.det ?_ (by rfl) (fun T xs wr hA => ?_) ?_
        rotate_left 1
        · have e3 := hA.pre 3 (by kernel_rfl)
          simp only [List.getElem?_toArray, List.getElem?_cons_succ, List.getElem?_cons_zero] at e3
          have hBq : wr.heap[kt]? = _ := (hA.bl _ hlt_t (fun q _ => by show g ≠ kt; omega)).trans HBt.out
          have q0 := cell_at (v := .int .i64 (t.kind : Nat)) hBq 0 rfl
          have q1 := cell_at (v := .string ⟨t.text.toArray⟩) hBq 1 rfl
          have q2 := cell_at (v := .int .i64 (t.line : Nat)) hBq 2 rfl
          have q3 := cell_at (v := .int .i64 (t.col : Nat)) hBq 3 rfl
          clear hBq
          clear hA
          refine ⟨(by rfl), ?_⟩
          go_simp <;> (try with_reducible rfl)
        refine Rel7.Chain.det ?_ (by rfl) (fun T xs wr hA => ?_) ?_
        rotate_left 1
        · have e10 := hA.pre 10 (by kernel_rfl)
          simp only [List.getElem?_toArray, List.getElem?_cons_succ, List.getElem?_cons_zero] at e10
          clear hA
          refine ⟨(by rfl), ?_⟩
          go_simp <;> (try with_reducible rfl)
        refine Rel7.Chain.det ?_ (by rfl) (fun T xs wr hA => ?_) ?_
        rotate_left 1
        · have e94 := hA.tm 1 94 (by rfl) (by rfl)
          have f94 : xs 1 = _ := hA.fa 1 (by rfl)
          (try simp (disch := first | rfl | decide) only [Rel7.mask_in] at f94)
          rw [f94] at e94
          clear f94
          have hBq : wr.heap[kth]? = _ := (hA.bl _ hlt_th (fun q _ => by show g ≠ kth; omega)).trans HBth.out
          have q0 := cell_at (v := .int .i64 (th.kind : Nat)) hBq 0 rfl
          have q1 := cell_at (v := .string ⟨th.text.toArray⟩) hBq 1 rfl
          have q2 := cell_at (v := .int .i64 (th.line : Nat)) hBq 2 rfl
          have q3 := cell_at (v := .int .i64 (th.col : Nat)) hBq 3 rfl
          clear hBq
          clear hA
          refine ⟨(by rfl), ?_⟩
          go_simp <;> (try with_reducible rfl)
        refine Rel7.Chain.call (fun xs v w => v = .string ⟨C3.toArray⟩) (fun _ _ _ _ h _ => h) (fun _ _ _ _ _ h _ _ => h) (by rfl) (fun T xs wr hA => ?_) ?_
        · have hsw := (hA.be 0 (Nat.zero_le _) (fun _ _ => Nat.zero_le _)).size
          have e95 := hA.tm 2 95 (by rfl) (by rfl)
          have f95 : xs 2 = _ := hA.fa 2 (by rfl)
          (try simp (disch := first | rfl | decide) only [Rel7.mask_in] at f95)
          rw [f95] at e95
          clear f95
          clear hA
          refine ⟨(by rfl), fun K hK => ?_⟩
          go_simp
          rw [if_neg (by omega)]
          exact hK.out _ _ (congrArg Value.string (by rw [HC3.out]; exact cat _ _)) (Below.refl _ _)
        refine Rel7.Chain.det ?_ (by rfl) (fun T xs wr hA => ?_) ?_
        rotate_left 1
        · have e11 := hA.pre 11 (by kernel_rfl)
          simp only [List.getElem?_toArray, List.getElem?_cons_succ, List.getElem?_cons_zero] at e11
          clear hA
          refine ⟨(by rfl), ?_⟩
          go_simp <;> (try with_reducible rfl)
        refine Rel7.Chain.det ?_ (by rfl) (fun T xs wr hA => ?_) ?_
        rotate_left 1
        · have e97 := hA.tm 4 97 (by rfl) (by rfl)
          have f97 : xs 4 = _ := hA.fa 4 (by rfl)
          (try simp (disch := first | rfl | decide) only [Rel7.mask_in] at f97)
          rw [f97] at e97
          clear f97
          have hBq : wr.heap[ktt]? = _ := (hA.bl _ hlt_tt (fun q _ => by show g ≠ ktt; omega)).trans HBtt.out
          have q0 := cell_at (v := .int .i64 (tt.kind : Nat)) hBq 0 rfl
          have q1 := cell_at (v := .string ⟨tt.text.toArray⟩) hBq 1 rfl
          have q2 := cell_at (v := .int .i64 (tt.line : Nat)) hBq 2 rfl
          have q3 := cell_at (v := .int .i64 (tt.col : Nat)) hBq 3 rfl
          clear hBq
          clear hA
          refine ⟨(by rfl), ?_⟩
          go_simp <;> (try with_reducible rfl)
        refine Rel7.Chain.call (fun xs v w => v = .string ⟨C6.toArray⟩) (fun _ _ _ _ h _ => h) (fun _ _ _ _ _ h _ _ => h) (by rfl) (fun T xs wr hA => ?_) ?_
        · have hsw := (hA.be 0 (Nat.zero_le _) (fun _ _ => Nat.zero_le _)).size
          have e96 := hA.tm 3 96 (by rfl) (by rfl)
          have f96 : xs 3 = (.string ⟨C3.toArray⟩) := hA.fa 3 (by rfl)
          rw [f96] at e96
          clear f96
          have e98 := hA.tm 5 98 (by rfl) (by rfl)
          have f98 : xs 5 = _ := hA.fa 5 (by rfl)
          (try simp (disch := first | rfl | decide) only [Rel7.mask_in] at f98)
          rw [f98] at e98
          clear f98
          clear hA
          refine ⟨(by rfl), fun K hK => ?_⟩
          go_simp
          rw [if_neg (by omega)]
          exact hK.out _ _ (congrArg Value.string (by rw [HC6.out]; exact cat _ _)) (Below.refl _ _)
        refine Rel7.Chain.det ?_ (by rfl) (fun T xs wr hA => ?_) ?_
        rotate_left 1
        · have e8 := hA.pre 8 (by kernel_rfl)
          simp only [List.getElem?_toArray, List.getElem?_cons_succ, List.getElem?_cons_zero] at e8
          have hBq : wr.heap[ka]? = _ := (hA.bl _ hlt_a (fun q _ => by show g ≠ ka; omega)).trans HBa.out
          have q0 := cell_at (v := .string ⟨x1.1.S.toArray⟩) hBq 0 rfl
          have q1 := cell_at (v := .int .i64 (x1.1.d : Nat)) hBq 1 rfl
          clear hBq
          clear hA
          refine ⟨(by rfl), ?_⟩
          go_simp <;> (try with_reducible rfl)
        refine Rel7.Chain.det ?_ (by rfl) (fun T xs wr hA => ?_) ?_
        rotate_left 1
        · have e9 := hA.pre 9 (by kernel_rfl)
          simp only [List.getElem?_toArray, List.getElem?_cons_succ, List.getElem?_cons_zero] at e9
          have hBq : wr.heap[kb]? = _ := (hA.bl _ hlt_b (fun q _ => by show g ≠ kb; omega)).trans HBb.out
          have q0 := cell_at (v := .string ⟨x2.1.S.toArray⟩) hBq 0 rfl
          have q1 := cell_at (v := .int .i64 (x2.1.d : Nat)) hBq 1 rfl
          clear hBq
          clear hA
          refine ⟨(by rfl), ?_⟩
          go_simp <;> (try with_reducible rfl)
        refine Rel7.Chain.det ?_ (by rfl) (fun T xs wr hA => ?_) ?_
        rotate_left 1
        · have e0 := hA.pre 0 (by kernel_rfl)
          simp only [List.getElem?_toArray, List.getElem?_cons_zero] at e0
          clear hA
          refine ⟨(by rfl), ?_⟩
          go_simp <;> (try with_reducible rfl)
        refine Rel7.Chain.callOld 0 (fun xs v w => v = eV x3.1 ∧ PR w g x3.2) (fun _ _ _ _ ⟨h1, h2⟩ hb => ⟨h1, h2.below hb⟩) (fun _ _ _ _ q' _ hq hne _ => absurd rfl hne) (by rfl) (by rfl) (by decide) (Rel7.own_one (by rfl)) (fun T xs wr hA hold => ?_) ?_
        · have hsw := (hA.be 0 (Nat.zero_le _) (fun _ _ => Nat.zero_le _)).size
          have e102 := hA.tm 9 102 (by rfl) (by rfl)
          have f102 : xs 9 = _ := hA.fa 9 (by rfl)
          (try simp (disch := first | rfl | decide) only [Rel7.mask_in] at f102)
          rw [f102] at e102
          clear f102
          have h0 := undrew (hA.be 0 (Nat.zero_le _) (fun _ _ => Nat.zero_le _))
          have hbw : Below w21.heap.size w21 wr := ⟨h0.os, h0.tape, h0.output, h0.size, fun k hk => by
            by_cases e : k = g
            · rw [e]; exact hold
            · exact hA.bl k hk (fun q _ h => e h.symm)⟩
          clear hA
          refine ⟨(by rfl), fun K hK => ?_⟩
          go_simp
          refine (E.out g _ x3 _ (HP.out.below hbw) (((((HF2.out.1.eat wBar).name).eat wCons).name).eat wArrow).2 (HTB.out.below hbw) H3.out).mono ?_
          rintro e w' ⟨rfl, hp, hg⟩
          exact hK.out _ _ ⟨rfl, hp⟩ (Rel7.Priv.of hg)
        refine Rel7.Chain.call (fun xs v w => ∃ g, v = .slice (some ⟨g, 0, none⟩) 3 3 ∧ w21.heap.size ≤ g ∧ w.heap[g]? = some (.cells #[.string ⟨x1.1.S.toArray⟩, .int .i64 (x1.1.d : Nat), .string ⟨x2.1.S.toArray⟩, .int .i64 (x2.1.d : Nat), .string ⟨x3.1.S.toArray⟩, .int .i64 (x3.1.d : Nat)] 117 (0, 0))) (fun _ _ _ _ ⟨g, hv, hl, hg⟩ hb => ⟨g, hv, hl, by rw [hb.block g (Array.getElem?_eq_some_iff.1 hg).1]; exact hg⟩) (fun _ _ _ _ _ ⟨g, hv, hl, hg⟩ ⟨q, hq, e⟩ hp => ⟨g, hv, hl, by rw [hp.block g (Array.getElem?_eq_some_iff.1 hg).1 (fun h => by have := hog q hq; omega)]; exact hg⟩) (by rfl) (fun T xs wr hA => ?_) ?_
        · have hsw := (hA.be 0 (Nat.zero_le _) (fun _ _ => Nat.zero_le _)).size
          have e100 := hA.tm 7 100 (by rfl) (by rfl)
          have f100 : xs 7 = _ := hA.fa 7 (by rfl)
          (try simp (disch := first | rfl | decide) only [Rel7.mask_in] at f100)
          rw [f100] at e100
          clear f100
          have e101 := hA.tm 8 101 (by rfl) (by rfl)
          have f101 : xs 8 = _ := hA.fa 8 (by rfl)
          (try simp (disch := first | rfl | decide) only [Rel7.mask_in] at f101)
          rw [f101] at e101
          clear f101
          have e103 := hA.tm 10 103 (by rfl) (by rfl)
          have hF10 : xs 10 = eV x3.1 ∧ PR wr g x3.2 := hA.fa 10 (by rfl)
          rw [hF10.1] at e103
          unfold eV at e103
          clear hA
          refine ⟨(by rfl), fun K hK => ?_⟩
          go_simp
          exact hK.out _ _ ⟨_, rfl, hsw, by simpa using made_at wr _ _ rfl⟩ ((Below.refl _ _).alloc (Nat.le_refl _) _)
        refine Rel7.Chain.done (fun xs w22 hL => ?_)
        obtain ⟨⟨hbe, hbl⟩, hf, -, -⟩ := hL
        have f0 : xs 0 = _ := hf 0 (by decide)
        (try simp (disch := first | rfl | decide) only [Rel7.mask_in] at f0)
        have f1 : xs 1 = _ := hf 1 (by decide)
        (try simp (disch := first | rfl | decide) only [Rel7.mask_in] at f1)
        have f2 : xs 2 = _ := hf 2 (by decide)
        (try simp (disch := first | rfl | decide) only [Rel7.mask_in] at f2)
        have f3 : xs 3 = (.string ⟨C3.toArray⟩) := hf 3 (by decide)
        have f4 : xs 4 = _ := hf 4 (by decide)
        (try simp (disch := first | rfl | decide) only [Rel7.mask_in] at f4)
        have f5 : xs 5 = _ := hf 5 (by decide)
        (try simp (disch := first | rfl | decide) only [Rel7.mask_in] at f5)
        have f6 : xs 6 = (.string ⟨C6.toArray⟩) := hf 6 (by decide)
        have f7 : xs 7 = _ := hf 7 (by decide)
        (try simp (disch := first | rfl | decide) only [Rel7.mask_in] at f7)
        have f8 : xs 8 = _ := hf 8 (by decide)
        (try simp (disch := first | rfl | decide) only [Rel7.mask_in] at f8)
        have f9 : xs 9 = _ := hf 9 (by decide)
        (try simp (disch := first | rfl | decide) only [Rel7.mask_in] at f9)
        have F10 : (xs 10) = eV x3.1 ∧ PR w22 g x3.2 := hf 10 (by decide)
        have F11 : ∃ g, (xs 11) = .slice (some ⟨g, 0, none⟩) 3 3 ∧ w21.heap.size ≤ g ∧ w22.heap[g]? = some (.cells #[.string ⟨x1.1.S.toArray⟩, .int .i64 (x1.1.d : Nat), .string ⟨x2.1.S.toArray⟩, .int .i64 (x2.1.d : Nat), .string ⟨x3.1.S.toArray⟩, .int .i64 (x3.1.d : Nat)] 117 (0, 0)) := hf 11 (by decide)
        have hb0 : Below 0 w21 w22 := undrew (hbe 0 (Nat.zero_le _) (fun _ _ => Nat.zero_le _))
        have hgr : ∀ j, j < w21.heap.size → (∀ q, q < 1 → (fun q => g) q ≠ j) → w22.heap[j]? = w21.heap[j]? := hbl
        clear hbe hbl hf
        obtain ⟨hv4, hp⟩ := F10
        obtain ⟨g5, hv5, hl5, hg5⟩ := F11
        have hg : w21.grownBy w22 (some g) := ⟨hb0.os, hb0.tape, hb0.output, hb0.size, fun k hk hn => hgr k hk (fun q _ e => hn (by rw [← e]))⟩
        refine Rel7.rest_list (by decide) (by kernel_rfl) ?_
        simp only [Rel7.fill, List.take_succ_cons, List.take_zero, List.drop_succ_cons, List.drop_zero, List.setIfInBounds_toArray, List.set_cons_zero, List.set_cons_succ, f0, f1, f2, f3, f4, f5, f6, f7, f8, f9]
        simp only [hv4, hv5]
        clear hog hv4 hv5 hl5 hb0 hgr hlt_t hlt_th hlt_tt hlt_a hlt_b f0 f1 f2 f3 f4 f5 f6 f7 f8 f9
        replace HBr := Lib.hid ((hg.block _ (lt_of_block HBr.out) (fun e => by injection e with e; omega)).trans HBr.out)
        replace HBt := Lib.hid ((hg.block _ (lt_of_block HBt.out) (fun e => by injection e with e; omega)).trans HBt.out)
        replace HBa := Lib.hid ((hg.block _ (lt_of_block HBa.out) (fun e => by injection e with e; omega)).trans HBa.out)
        replace HBb := Lib.hid ((hg.block _ (lt_of_block HBb.out) (fun e => by injection e with e; omega)).trans HBb.out)
        replace HBth := Lib.hid ((hg.block _ (lt_of_block HBth.out) (fun e => by injection e with e; omega)).trans HBth.out)
        replace HBtt := Lib.hid ((hg.block _ (lt_of_block HBtt.out) (fun e => by injection e with e; omega)).trans HBtt.out)
        replace HTB := Lib.hid (HTB.out.grown hg (by omega))
        replace HP := Lib.hid hp
        replace HD := Lib.hid (grown_tr HD.out (hg))
        have hsz22 := HD.out.size
        have HG5 := Lib.hid hg5
        clear hp hg hg5
        have hnm : (C6).length ≤ 1000000 := by omega
        have hf1 := HP1.out.1
        have hr1 := HP1.out.2
        have hf2 := HP2.out.1
        have hr2 := HP2.out.2
        have hf3 := HP3.out.1
        have hr3 := HP3.out.2
        have hS : ([x1.1, x2.1, x3.1].flatMap RE.S).length ≤ 1000000000 := by rw [fl3]; omega
        have hd : ∀ e ∈ [x1.1, x2.1, x3.1], e.d ≤ 1000000000 := by intro e he; simp only [List.mem_cons, List.not_mem_nil, or_false] at he; rcases he with rfl | rfl | rfl <;> omega
        go_wp2_with fail
        refine (made_p 27 t C6 (some ⟨g5, 0, none⟩) 3 [x1.1, x2.1, x3.1] w22 HTB.out.1 (by first | decide | omega) hT.1 hT.2.1 hnm (at2_blk (ks := [x1.1, x2.1, x3.1]) HG5.out) (by simp) hS hd).mono ?_
        rintro e w23 ⟨rfl, hb⟩
        replace HBr := Lib.hid ((hb.block _ (lt_of_block HBr.out)).trans HBr.out)
        replace HBt := Lib.hid ((hb.block _ (lt_of_block HBt.out)).trans HBt.out)
        replace HBa := Lib.hid ((hb.block _ (lt_of_block HBa.out)).trans HBa.out)
        replace HBb := Lib.hid ((hb.block _ (lt_of_block HBb.out)).trans HBb.out)
        replace HBth := Lib.hid ((hb.block _ (lt_of_block HBth.out)).trans HBth.out)
        replace HBtt := Lib.hid ((hb.block _ (lt_of_block HBtt.out)).trans HBtt.out)
        replace HP := Lib.hid (HP.out.below hb)
        replace HTB := Lib.hid (HTB.out.below hb)
        replace HD := Lib.hid (grown_tr HD.out (below_grown hb (some g)))
        have hsz23 := HD.out.size
        clear hb
        clear HG5
        simp only [eV]
        have z0 := cell_at (v := .string ⟨#[]⟩) HBr.out 0 rfl
        have fz0 := froz_at HBr.out 0
        have z1 := cell_at (v := .int .i64 0) HBr.out 1 rfl
        have fz1 := froz_at HBr.out 1
        go_wp2_with fail
        have hg := st2_grown w23 kr (.string ⟨(mk 27 t C6 [x1.1, x2.1, x3.1]).S.toArray⟩) (.int .i64 ((mk 27 t C6 [x1.1, x2.1, x3.1]).d : Nat))
        exact bodyPost_ret (v := .agg #[.string ⟨(mk 27 t C6 [x1.1, x2.1, x3.1]).S.toArray⟩, .int .i64 ((mk 27 t C6 [x1.1, x2.1, x3.1]).d : Nat)]) (by simp [results, Tryz.results56, go_sem, z0, z1]) rfl ⟨by rw [HC6.out, HC3.out, HNt.out, HNth.out, HNtt.out]; rfl, HP.out.store (by omega) hg, grown_new HD.out hg (by omega)⟩
    · rw [if_pos (show r.is wIf = true from hi)] at hc
      have HIK := Lib.hid (RS.is_kind hi)
      simp only [Option.bind_eq_some_iff] at hc
      obtain ⟨x1, h1, x2, h2, x3, h3, hx⟩ := hc
      injection hx with hx
      subst hx
      have H1 := Lib.hid h1
      have H2 := Lib.hid h2
      have H3 := Lib.hid h3
      clear hi h1 h2 h3
      have hT := HTD.out.at
      rw [← HNt.out] at hT
      have HG0 := Lib.hid (HGR.out.inc HIK.out.1)
      have HK4 : Hid (r.at'.kind ≠ 4) := Lib.hid (HIK.out.1)
      obtain ⟨pb, pi, pn, pc, h1, h2, h3, h4, h5, h6, h7, h8, h9⟩ := HP.out
      have g1 := cell_at (v := .int .i64 (pi : Nat)) h1 1 rfl
      have f1 := froz_at h1 1
      have hil : pi ≤ 30000 := by omega
      have HH := Lib.hid (And.intro h1 (And.intro h2 (And.intro h3 (And.intro h4 (And.intro h5 (And.intro h6 (And.intro h7 (And.intro h8 h9))))))))
      clear h1 h2 h3 h4 h5 h6 h7 h8 h9
      go_upto_region 11 with fail
      clear g1 f1
      obtain ⟨h1, h2, h3, h4, h5, h6, h7, h8, h9⟩ := HH.out
      have hc0 := heap_setCell_same _ g 1 _ _ (.int .i64 ((pi + 1 : Nat) : Int)) h1
      obtain ⟨w6, hw⟩ : ∃ x, x = w5.setCell ⟨g, 1, none⟩ (.int .i64 ((pi + 1 : Nat) : Int)) := ⟨_, rfl⟩
      have hg : w5.grownBy w6 (some g) := by rw [hw]; exact grown_set _ _ _ _
      rw [← hw] at hc0
      have hw' : w5.setCell ⟨g, 1, none⟩ (.int .i64 ((pi : Int) + 1)) = w6 := by rw [hw]; rfl
      rw [hw']
      have hp := PR.inc hg hc0 HK4.out h2 h3 h4 h5 h6 h7 h8 h9
      clear hw hw' hc0 h1 h2 h3 h4 h5 h6 h7 h8 h9 HH HK4 hil
      replace HBr := Lib.hid ((hg.block _ (lt_of_block HBr.out) (fun e => by injection e with e; omega)).trans HBr.out)
      replace HBt := Lib.hid ((hg.block _ (lt_of_block HBt.out) (fun e => by injection e with e; omega)).trans HBt.out)
      replace HTB := Lib.hid (HTB.out.grown hg (by omega))
      replace HP := Lib.hid hp
      replace HD := Lib.hid (grown_tr HD.out (hg))
      have hsz6 := HD.out.size
      clear hp hg
      have HF1 := Lib.hid ((r_len n).1 _ _ (HG0.out) H1.out)
      have HP1 : Hid (x1.1.S.length ≤ 300000000 ∧ x1.1.d ≤ 300000000) := Lib.hid (by
        have h : x1.1.S.length ≤ 300000000 := Nat.le_trans (Nat.le_trans (Nat.le_add_right _ _) HF1.out.2.1) HP.out.phi
        exact ⟨h, Nat.le_trans HF1.out.2.2.1 h⟩)
      go_wp2_with fail
      refine (E.out g _ x1 w6 HP.out (HG0.out).2 HTB.out H1.out).mono ?_
      rintro e w7 ⟨rfl, hp, hg⟩
      replace HBr := Lib.hid ((hg.block _ (lt_of_block HBr.out) (fun e => by injection e with e; omega)).trans HBr.out)
      replace HBt := Lib.hid ((hg.block _ (lt_of_block HBt.out) (fun e => by injection e with e; omega)).trans HBt.out)
      replace HTB := Lib.hid (HTB.out.grown hg (by omega))
      replace HP := Lib.hid hp
      replace HD := Lib.hid (grown_tr HD.out (hg))
      have hsz7 := HD.out.size
      clear hp hg
      simp only [eV]
      go_upto_region 12 with fail
      obtain ⟨w8, hw⟩ : ∃ x, x = w7.alloc (.cells #[.string ⟨x1.1.S.toArray⟩, .int .i64 (x1.1.d : Nat)] 117) := ⟨_, rfl⟩
      have hb : Below w7.heap.size w7 w8 := by rw [hw]; exact (Below.refl _ _).alloc (Nat.le_refl _) _
      have hk : w8.heap[w7.heap.size]? = some (.cells #[.string ⟨x1.1.S.toArray⟩, .int .i64 (x1.1.d : Nat)] 117 (0, 0)) := by rw [hw]; exact made_at w7 _ _ rfl
      rw [← hw]
      obtain ⟨ka, hkk⟩ : ∃ k, k = w7.heap.size := ⟨_, rfl⟩
      have hga : g < ka := by rw [hkk]; exact HP.out.lt
      have hea : w.heap.size ≤ ka := by omega
      have hr_a : kr < ka := by rw [hkk]; exact lt_of_block HBr.out
      have ht_a : kt < ka := by rw [hkk]; exact lt_of_block HBt.out
      rw [← hkk] at hk ⊢
      replace HBr := Lib.hid ((hb.block _ (lt_of_block HBr.out)).trans HBr.out)
      replace HBt := Lib.hid ((hb.block _ (lt_of_block HBt.out)).trans HBt.out)
      replace HP := Lib.hid (HP.out.below hb)
      replace HTB := Lib.hid (HTB.out.below hb)
      replace HD := Lib.hid (grown_tr HD.out (below_grown hb (some g)))
      have hsz8 := HD.out.size
      have HBa := Lib.hid hk
      clear hw hb hk hkk
      go_wp2_with fail
      refine (eat_p g (x1.2) [116, 104, 101, 110] w8 HP.out).mono ?_
      rintro e w9 ⟨⟨v, rfl⟩, hp, hg⟩
      replace HBr := Lib.hid ((hg.block _ (lt_of_block HBr.out) (fun e => by injection e with e; omega)).trans HBr.out)
      replace HBt := Lib.hid ((hg.block _ (lt_of_block HBt.out) (fun e => by injection e with e; omega)).trans HBt.out)
      replace HBa := Lib.hid ((hg.block _ (lt_of_block HBa.out) (fun e => by injection e with e; omega)).trans HBa.out)
      replace HTB := Lib.hid (HTB.out.grown hg (by omega))
      replace HP := Lib.hid hp
      replace HD := Lib.hid (grown_tr HD.out (hg))
      have hsz9 := HD.out.size
      clear hp hg
      have HF2 := Lib.hid ((r_len n).1 _ _ (HF1.out.1.eat wThen) H2.out)
      have HP2 : Hid (x2.1.S.length ≤ 300000000 ∧ x2.1.d ≤ 300000000) := Lib.hid (by
        have h : x2.1.S.length ≤ 300000000 := Nat.le_trans (Nat.le_trans (Nat.le_add_right _ _) HF2.out.2.1) HP.out.phi
        exact ⟨h, Nat.le_trans HF2.out.2.2.1 h⟩)
      go_wp2_with fail
      refine (E.out g _ x2 w9 HP.out (HF1.out.1.eat wThen).2 HTB.out H2.out).mono ?_
      rintro e w10 ⟨rfl, hp, hg⟩
      replace HBr := Lib.hid ((hg.block _ (lt_of_block HBr.out) (fun e => by injection e with e; omega)).trans HBr.out)
      replace HBt := Lib.hid ((hg.block _ (lt_of_block HBt.out) (fun e => by injection e with e; omega)).trans HBt.out)
      replace HBa := Lib.hid ((hg.block _ (lt_of_block HBa.out) (fun e => by injection e with e; omega)).trans HBa.out)
      replace HTB := Lib.hid (HTB.out.grown hg (by omega))
      replace HP := Lib.hid hp
      replace HD := Lib.hid (grown_tr HD.out (hg))
      have hsz10 := HD.out.size
      clear hp hg
      simp only [eV]
      go_upto_region 14 with fail
      obtain ⟨w11, hw⟩ : ∃ x, x = w10.alloc (.cells #[.string ⟨x2.1.S.toArray⟩, .int .i64 (x2.1.d : Nat)] 117) := ⟨_, rfl⟩
      have hb : Below w10.heap.size w10 w11 := by rw [hw]; exact (Below.refl _ _).alloc (Nat.le_refl _) _
      have hk : w11.heap[w10.heap.size]? = some (.cells #[.string ⟨x2.1.S.toArray⟩, .int .i64 (x2.1.d : Nat)] 117 (0, 0)) := by rw [hw]; exact made_at w10 _ _ rfl
      rw [← hw]
      obtain ⟨kb, hkk⟩ : ∃ k, k = w10.heap.size := ⟨_, rfl⟩
      have hgb : g < kb := by rw [hkk]; exact HP.out.lt
      have heb : w.heap.size ≤ kb := by omega
      have hr_b : kr < kb := by rw [hkk]; exact lt_of_block HBr.out
      have ht_b : kt < kb := by rw [hkk]; exact lt_of_block HBt.out
      have ha_b : ka < kb := by rw [hkk]; exact lt_of_block HBa.out
      rw [← hkk] at hk ⊢
      replace HBr := Lib.hid ((hb.block _ (lt_of_block HBr.out)).trans HBr.out)
      replace HBt := Lib.hid ((hb.block _ (lt_of_block HBt.out)).trans HBt.out)
      replace HBa := Lib.hid ((hb.block _ (lt_of_block HBa.out)).trans HBa.out)
      replace HP := Lib.hid (HP.out.below hb)
      replace HTB := Lib.hid (HTB.out.below hb)
      replace HD := Lib.hid (grown_tr HD.out (below_grown hb (some g)))
      have hsz11 := HD.out.size
      have HBb := Lib.hid hk
      clear hw hb hk hkk
      go_wp2_with fail
      refine (eat_p g (x2.2) [101, 108, 115, 101] w11 HP.out).mono ?_
      rintro e w12 ⟨⟨v, rfl⟩, hp, hg⟩
      replace HBr := Lib.hid ((hg.block _ (lt_of_block HBr.out) (fun e => by injection e with e; omega)).trans HBr.out)
      replace HBt := Lib.hid ((hg.block _ (lt_of_block HBt.out) (fun e => by injection e with e; omega)).trans HBt.out)
      replace HBa := Lib.hid ((hg.block _ (lt_of_block HBa.out) (fun e => by injection e with e; omega)).trans HBa.out)
      replace HBb := Lib.hid ((hg.block _ (lt_of_block HBb.out) (fun e => by injection e with e; omega)).trans HBb.out)
      replace HTB := Lib.hid (HTB.out.grown hg (by omega))
      replace HP := Lib.hid hp
      replace HD := Lib.hid (grown_tr HD.out (hg))
      have hsz12 := HD.out.size
      clear hp hg
      have HF3 := Lib.hid ((r_len n).1 _ _ (HF2.out.1.eat wElse) H3.out)
      have HP3 : Hid (x3.1.S.length ≤ 300000000 ∧ x3.1.d ≤ 300000000) := Lib.hid (by
        have h : x3.1.S.length ≤ 300000000 := Nat.le_trans (Nat.le_trans (Nat.le_add_right _ _) HF3.out.2.1) HP.out.phi
        exact ⟨h, Nat.le_trans HF3.out.2.2.1 h⟩)
      go_upto_region 15 with fail
      have hlt_t := lt_of_block HBt.out
      have hlt_a := lt_of_block HBa.out
      have hlt_b := lt_of_block HBb.out
      have hog : ∀ q, q < 1 → (fun q => g) q < w12.heap.size := fun q _ => by show g < _; exact HP.out.lt
      refine Rel7.region (by kernel_rfl) [[], [], [], [], [3], [1, 2, 3, 4], [0, 1, 2, 3, 4, 5], [0, 1, 2, 3, 4, 5, 6]] [] [(4, 1000)] (fun q => g) 1 6 (by kernel_rfl) (by kernel_rfl) (by rfl) hog (fun q q' h h' hn => absurd hn (by omega)) ?_
      refine Rel7.Chain.det ?_ (by rfl) (fun T xs wr hA => ?_) ?_
      rotate_left 1
      · have e3 := hA.pre 3 (by kernel_rfl)
        simp only [List.getElem?_toArray, List.getElem?_cons_succ, List.getElem?_cons_zero] at e3
        have hBq : wr.heap[kt]? = _ := (hA.bl _ hlt_t (fun q _ => by show g ≠ kt; omega)).trans HBt.out
        have q0 := cell_at (v := .int .i64 (t.kind : Nat)) hBq 0 rfl
        have q1 := cell_at (v := .string ⟨t.text.toArray⟩) hBq 1 rfl
        have q2 := cell_at (v := .int .i64 (t.line : Nat)) hBq 2 rfl
        have q3 := cell_at (v := .int .i64 (t.col : Nat)) hBq 3 rfl
        clear hBq
        clear hA
        refine ⟨(by rfl), ?_⟩
        go_simp <;> (try with_reducible rfl)
      refine Rel7.Chain.det ?_ (by rfl) (fun T xs wr hA => ?_) ?_
      rotate_left 1
      · have e6 := hA.pre 6 (by kernel_rfl)
        simp only [List.getElem?_toArray, List.getElem?_cons_succ, List.getElem?_cons_zero] at e6
        have hBq : wr.heap[ka]? = _ := (hA.bl _ hlt_a (fun q _ => by show g ≠ ka; omega)).trans HBa.out
        have q0 := cell_at (v := .string ⟨x1.1.S.toArray⟩) hBq 0 rfl
        have q1 := cell_at (v := .int .i64 (x1.1.d : Nat)) hBq 1 rfl
        clear hBq
        clear hA
        refine ⟨(by rfl), ?_⟩
        go_simp <;> (try with_reducible rfl)
      refine Rel7.Chain.det ?_ (by rfl) (fun T xs wr hA => ?_) ?_
      rotate_left 1
      · have e7 := hA.pre 7 (by kernel_rfl)
        simp only [List.getElem?_toArray, List.getElem?_cons_succ, List.getElem?_cons_zero] at e7
        have hBq : wr.heap[kb]? = _ := (hA.bl _ hlt_b (fun q _ => by show g ≠ kb; omega)).trans HBb.out
        have q0 := cell_at (v := .string ⟨x2.1.S.toArray⟩) hBq 0 rfl
        have q1 := cell_at (v := .int .i64 (x2.1.d : Nat)) hBq 1 rfl
        clear hBq
        clear hA
        refine ⟨(by rfl), ?_⟩
        go_simp <;> (try with_reducible rfl)
      refine Rel7.Chain.det ?_ (by rfl) (fun T xs wr hA => ?_) ?_
      rotate_left 1
      · have e0 := hA.pre 0 (by kernel_rfl)
        simp only [List.getElem?_toArray, List.getElem?_cons_zero] at e0
        clear hA
        refine ⟨(by rfl), ?_⟩
        go_simp <;> (try with_reducible rfl)
      refine Rel7.Chain.callOld 0 (fun xs v w => v = eV x3.1 ∧ PR w g x3.2) (fun _ _ _ _ ⟨h1, h2⟩ hb => ⟨h1, h2.below hb⟩) (fun _ _ _ _ q' _ hq hne _ => absurd rfl hne) (by rfl) (by rfl) (by decide) (Rel7.own_one (by rfl)) (fun T xs wr hA hold => ?_) ?_
      · have hsw := (hA.be 0 (Nat.zero_le _) (fun _ _ => Nat.zero_le _)).size
        have e60 := hA.tm 3 60 (by rfl) (by rfl)
        have f60 : xs 3 = _ := hA.fa 3 (by rfl)
        (try simp (disch := first | rfl | decide) only [Rel7.mask_in] at f60)
        rw [f60] at e60
        clear f60
        have h0 := undrew (hA.be 0 (Nat.zero_le _) (fun _ _ => Nat.zero_le _))
        have hbw : Below w12.heap.size w12 wr := ⟨h0.os, h0.tape, h0.output, h0.size, fun k hk => by
          by_cases e : k = g
          · rw [e]; exact hold
          · exact hA.bl k hk (fun q _ h => e h.symm)⟩
        clear hA
        refine ⟨(by rfl), fun K hK => ?_⟩
        go_simp
        refine (E.out g _ x3 _ (HP.out.below hbw) (HF2.out.1.eat wElse).2 (HTB.out.below hbw) H3.out).mono ?_
        rintro e w' ⟨rfl, hp, hg⟩
        exact hK.out _ _ ⟨rfl, hp⟩ (Rel7.Priv.of hg)
      refine Rel7.Chain.call (fun xs v w => ∃ g, v = .slice (some ⟨g, 0, none⟩) 3 3 ∧ w12.heap.size ≤ g ∧ w.heap[g]? = some (.cells #[.string ⟨x1.1.S.toArray⟩, .int .i64 (x1.1.d : Nat), .string ⟨x2.1.S.toArray⟩, .int .i64 (x2.1.d : Nat), .string ⟨x3.1.S.toArray⟩, .int .i64 (x3.1.d : Nat)] 117 (0, 0))) (fun _ _ _ _ ⟨g, hv, hl, hg⟩ hb => ⟨g, hv, hl, by rw [hb.block g (Array.getElem?_eq_some_iff.1 hg).1]; exact hg⟩) (fun _ _ _ _ _ ⟨g, hv, hl, hg⟩ ⟨q, hq, e⟩ hp => ⟨g, hv, hl, by rw [hp.block g (Array.getElem?_eq_some_iff.1 hg).1 (fun h => by have := hog q hq; omega)]; exact hg⟩) (by rfl) (fun T xs wr hA => ?_) ?_
      · have hsw := (hA.be 0 (Nat.zero_le _) (fun _ _ => Nat.zero_le _)).size
        have e58 := hA.tm 1 58 (by rfl) (by rfl)
        have f58 : xs 1 = _ := hA.fa 1 (by rfl)
        (try simp (disch := first | rfl | decide) only [Rel7.mask_in] at f58)
        rw [f58] at e58
        clear f58
        have e59 := hA.tm 2 59 (by rfl) (by rfl)
        have f59 : xs 2 = _ := hA.fa 2 (by rfl)
        (try simp (disch := first | rfl | decide) only [Rel7.mask_in] at f59)
        rw [f59] at e59
        clear f59
        have e61 := hA.tm 4 61 (by rfl) (by rfl)
        have hF4 : xs 4 = eV x3.1 ∧ PR wr g x3.2 := hA.fa 4 (by rfl)
        rw [hF4.1] at e61
        unfold eV at e61
        clear hA
        refine ⟨(by rfl), fun K hK => ?_⟩
        go_simp
        exact hK.out _ _ ⟨_, rfl, hsw, by simpa using made_at wr _ _ rfl⟩ ((Below.refl _ _).alloc (Nat.le_refl _) _)
      refine Rel7.Chain.done (fun xs w13 hL => ?_)
      obtain ⟨⟨hbe, hbl⟩, hf, -, -⟩ := hL
      have f0 : xs 0 = _ := hf 0 (by decide)
      (try simp (disch := first | rfl | decide) only [Rel7.mask_in] at f0)
      have f1 : xs 1 = _ := hf 1 (by decide)
      (try simp (disch := first | rfl | decide) only [Rel7.mask_in] at f1)
      have f2 : xs 2 = _ := hf 2 (by decide)
      (try simp (disch := first | rfl | decide) only [Rel7.mask_in] at f2)
      have f3 : xs 3 = _ := hf 3 (by decide)
      (try simp (disch := first | rfl | decide) only [Rel7.mask_in] at f3)
      have F4 : (xs 4) = eV x3.1 ∧ PR w13 g x3.2 := hf 4 (by decide)
      have F5 : ∃ g, (xs 5) = .slice (some ⟨g, 0, none⟩) 3 3 ∧ w12.heap.size ≤ g ∧ w13.heap[g]? = some (.cells #[.string ⟨x1.1.S.toArray⟩, .int .i64 (x1.1.d : Nat), .string ⟨x2.1.S.toArray⟩, .int .i64 (x2.1.d : Nat), .string ⟨x3.1.S.toArray⟩, .int .i64 (x3.1.d : Nat)] 117 (0, 0)) := hf 5 (by decide)
      have hb0 : Below 0 w12 w13 := undrew (hbe 0 (Nat.zero_le _) (fun _ _ => Nat.zero_le _))
      have hgr : ∀ j, j < w12.heap.size → (∀ q, q < 1 → (fun q => g) q ≠ j) → w13.heap[j]? = w12.heap[j]? := hbl
      clear hbe hbl hf
      obtain ⟨hv4, hp⟩ := F4
      obtain ⟨g5, hv5, hl5, hg5⟩ := F5
      have hg : w12.grownBy w13 (some g) := ⟨hb0.os, hb0.tape, hb0.output, hb0.size, fun k hk hn => hgr k hk (fun q _ e => hn (by rw [← e]))⟩
      refine Rel7.rest_list (by decide) (by kernel_rfl) ?_
      simp only [Rel7.fill, List.take_succ_cons, List.take_zero, List.drop_succ_cons, List.drop_zero, List.setIfInBounds_toArray, List.set_cons_zero, List.set_cons_succ, f0, f1, f2, f3]
      simp only [hv4, hv5]
      clear hog hv4 hv5 hl5 hb0 hgr hlt_t hlt_a hlt_b f0 f1 f2 f3
      replace HBr := Lib.hid ((hg.block _ (lt_of_block HBr.out) (fun e => by injection e with e; omega)).trans HBr.out)
      replace HBt := Lib.hid ((hg.block _ (lt_of_block HBt.out) (fun e => by injection e with e; omega)).trans HBt.out)
      replace HBa := Lib.hid ((hg.block _ (lt_of_block HBa.out) (fun e => by injection e with e; omega)).trans HBa.out)
      replace HBb := Lib.hid ((hg.block _ (lt_of_block HBb.out) (fun e => by injection e with e; omega)).trans HBb.out)
      replace HTB := Lib.hid (HTB.out.grown hg (by omega))
      replace HP := Lib.hid hp
      replace HD := Lib.hid (grown_tr HD.out (hg))
      have hsz13 := HD.out.size
      have HG5 := Lib.hid hg5
      clear hp hg hg5
      have hnm : ([] : Bs).length ≤ 1000000 := by simp
      have hf1 := HP1.out.1
      have hr1 := HP1.out.2
      have hf2 := HP2.out.1
      have hr2 := HP2.out.2
      have hf3 := HP3.out.1
      have hr3 := HP3.out.2
      have hS : ([x1.1, x2.1, x3.1].flatMap RE.S).length ≤ 1000000000 := by rw [fl3]; omega
      have hd : ∀ e ∈ [x1.1, x2.1, x3.1], e.d ≤ 1000000000 := by intro e he; simp only [List.mem_cons, List.not_mem_nil, or_false] at he; rcases he with rfl | rfl | rfl <;> omega
      go_wp2_with fail
      refine (made_p 25 t [] (some ⟨g5, 0, none⟩) 3 [x1.1, x2.1, x3.1] w13 HTB.out.1 (by first | decide | omega) hT.1 hT.2.1 hnm (at2_blk (ks := [x1.1, x2.1, x3.1]) HG5.out) (by simp) hS hd).mono ?_
      rintro e w14 ⟨rfl, hb⟩
      replace HBr := Lib.hid ((hb.block _ (lt_of_block HBr.out)).trans HBr.out)
      replace HBt := Lib.hid ((hb.block _ (lt_of_block HBt.out)).trans HBt.out)
      replace HBa := Lib.hid ((hb.block _ (lt_of_block HBa.out)).trans HBa.out)
      replace HBb := Lib.hid ((hb.block _ (lt_of_block HBb.out)).trans HBb.out)
      replace HP := Lib.hid (HP.out.below hb)
      replace HTB := Lib.hid (HTB.out.below hb)
      replace HD := Lib.hid (grown_tr HD.out (below_grown hb (some g)))
      have hsz14 := HD.out.size
      clear hb
      clear HG5
      simp only [eV]
      have z0 := cell_at (v := .string ⟨#[]⟩) HBr.out 0 rfl
      have fz0 := froz_at HBr.out 0
      have z1 := cell_at (v := .int .i64 0) HBr.out 1 rfl
      have fz1 := froz_at HBr.out 1
      go_wp2_with fail
      have hg := st2_grown w14 kr (.string ⟨(mk 25 t [] [x1.1, x2.1, x3.1]).S.toArray⟩) (.int .i64 ((mk 25 t [] [x1.1, x2.1, x3.1]).d : Nat))
      exact bodyPost_ret (v := .agg #[.string ⟨(mk 25 t [] [x1.1, x2.1, x3.1]).S.toArray⟩, .int .i64 ((mk 25 t [] [x1.1, x2.1, x3.1]).d : Nat)]) (by simp [results, Tryz.results56, go_sem, z0, z1]) rfl ⟨by rw [HNt.out]; rfl, HP.out.store (by omega) hg, grown_new HD.out hg (by omega)⟩
  · rw [if_pos (show r.is wLet = true from hi)] at hc
    have HIK := Lib.hid (RS.is_kind hi)
    simp only [Option.bind_eq_some_iff] at hc
    obtain ⟨x1, h1, x2, h2, hx⟩ := hc
    injection hx with hx
    subst hx
    have H1 := Lib.hid h1
    have H2 := Lib.hid h2
    clear hi h1 h2
    have hT := HTD.out.at
    rw [← HNt.out] at hT
    have HG0 := Lib.hid (HGR.out.inc HIK.out.1)
    have HK4 : Hid (r.at'.kind ≠ 4) := Lib.hid (HIK.out.1)
    obtain ⟨pb, pi, pn, pc, h1, h2, h3, h4, h5, h6, h7, h8, h9⟩ := HP.out
    have g1 := cell_at (v := .int .i64 (pi : Nat)) h1 1 rfl
    have f1 := froz_at h1 1
    have hil : pi ≤ 30000 := by omega
    have HH := Lib.hid (And.intro h1 (And.intro h2 (And.intro h3 (And.intro h4 (And.intro h5 (And.intro h6 (And.intro h7 (And.intro h8 h9))))))))
    clear h1 h2 h3 h4 h5 h6 h7 h8 h9
    go_upto_region 4 with fail
    clear g1 f1
    obtain ⟨h1, h2, h3, h4, h5, h6, h7, h8, h9⟩ := HH.out
    have hc0 := heap_setCell_same _ g 1 _ _ (.int .i64 ((pi + 1 : Nat) : Int)) h1
    obtain ⟨w5, hw⟩ : ∃ x, x = w4.setCell ⟨g, 1, none⟩ (.int .i64 ((pi + 1 : Nat) : Int)) := ⟨_, rfl⟩
    have hg : w4.grownBy w5 (some g) := by rw [hw]; exact grown_set _ _ _ _
    rw [← hw] at hc0
    have hw' : w4.setCell ⟨g, 1, none⟩ (.int .i64 ((pi : Int) + 1)) = w5 := by rw [hw]; rfl
    rw [hw']
    have hp := PR.inc hg hc0 HK4.out h2 h3 h4 h5 h6 h7 h8 h9
    clear hw hw' hc0 h1 h2 h3 h4 h5 h6 h7 h8 h9 HH HK4 hil
    replace HBr := Lib.hid ((hg.block _ (lt_of_block HBr.out) (fun e => by injection e with e; omega)).trans HBr.out)
    replace HBt := Lib.hid ((hg.block _ (lt_of_block HBt.out) (fun e => by injection e with e; omega)).trans HBt.out)
    replace HTB := Lib.hid (HTB.out.grown hg (by omega))
    replace HP := Lib.hid hp
    replace HD := Lib.hid (grown_tr HD.out (hg))
    have hsz5 := HD.out.size
    clear hp hg
    go_wp2_with fail
    refine (rname_p g (r.inc) w5 HP.out).mono ?_
    rintro e w6 ⟨rfl, hp, hg⟩
    replace HBr := Lib.hid ((hg.block _ (lt_of_block HBr.out) (fun e => by injection e with e; omega)).trans HBr.out)
    replace HBt := Lib.hid ((hg.block _ (lt_of_block HBt.out) (fun e => by injection e with e; omega)).trans HBt.out)
    replace HTB := Lib.hid (HTB.out.grown hg (by omega))
    replace HP := Lib.hid hp
    replace HD := Lib.hid (grown_tr HD.out (hg))
    have hsz6 := HD.out.size
    clear hp hg
    simp only [tokV]
    obtain ⟨tn, hnx⟩ : ∃ t, t = RS.at' (r.inc) := ⟨_, rfl⟩
    rw [← hnx]
    have HNtn := Lib.hid hnx
    clear hnx
    go_upto_region 5 with fail
    obtain ⟨w7, hw⟩ : ∃ x, x = w6.alloc (.cells #[.int .i64 (tn.kind : Nat), .string ⟨tn.text.toArray⟩, .int .i64 (tn.line : Nat), .int .i64 (tn.col : Nat)] 60) := ⟨_, rfl⟩
    have hb : Below w6.heap.size w6 w7 := by rw [hw]; exact (Below.refl _ _).alloc (Nat.le_refl _) _
    have hk : w7.heap[w6.heap.size]? = some (.cells #[.int .i64 (tn.kind : Nat), .string ⟨tn.text.toArray⟩, .int .i64 (tn.line : Nat), .int .i64 (tn.col : Nat)] 60 (0, 0)) := by rw [hw]; exact made_at w6 _ _ rfl
    rw [← hw]
    obtain ⟨ktn, hkk⟩ : ∃ k, k = w6.heap.size := ⟨_, rfl⟩
    have hgtn : g < ktn := by rw [hkk]; exact HP.out.lt
    have hetn : w.heap.size ≤ ktn := by omega
    have hr_tn : kr < ktn := by rw [hkk]; exact lt_of_block HBr.out
    have ht_tn : kt < ktn := by rw [hkk]; exact lt_of_block HBt.out
    rw [← hkk] at hk ⊢
    replace HBr := Lib.hid ((hb.block _ (lt_of_block HBr.out)).trans HBr.out)
    replace HBt := Lib.hid ((hb.block _ (lt_of_block HBt.out)).trans HBt.out)
    replace HP := Lib.hid (HP.out.below hb)
    replace HTB := Lib.hid (HTB.out.below hb)
    replace HD := Lib.hid (grown_tr HD.out (below_grown hb (some g)))
    have hsz7 := HD.out.size
    have HBtn := Lib.hid hk
    clear hw hb hk hkk
    have hN := HG0.out.2.at
    rw [← HNtn.out] at hN
    go_wp2_with fail
    refine (eat_p g (r.inc.name) [61] w7 HP.out).mono ?_
    rintro e w8 ⟨⟨v, rfl⟩, hp, hg⟩
    replace HBr := Lib.hid ((hg.block _ (lt_of_block HBr.out) (fun e => by injection e with e; omega)).trans HBr.out)
    replace HBt := Lib.hid ((hg.block _ (lt_of_block HBt.out) (fun e => by injection e with e; omega)).trans HBt.out)
    replace HBtn := Lib.hid ((hg.block _ (lt_of_block HBtn.out) (fun e => by injection e with e; omega)).trans HBtn.out)
    replace HTB := Lib.hid (HTB.out.grown hg (by omega))
    replace HP := Lib.hid hp
    replace HD := Lib.hid (grown_tr HD.out (hg))
    have hsz8 := HD.out.size
    clear hp hg
    have HF1 := Lib.hid ((r_len n).1 _ _ (HG0.out.name.eat wEq) H1.out)
    have HP1 : Hid (x1.1.S.length ≤ 300000000 ∧ x1.1.d ≤ 300000000) := Lib.hid (by
      have h : x1.1.S.length ≤ 300000000 := Nat.le_trans (Nat.le_trans (Nat.le_add_right _ _) HF1.out.2.1) HP.out.phi
      exact ⟨h, Nat.le_trans HF1.out.2.2.1 h⟩)
    go_wp2_with fail
    refine (E.out g _ x1 w8 HP.out (HG0.out.name.eat wEq).2 HTB.out H1.out).mono ?_
    rintro e w9 ⟨rfl, hp, hg⟩
    replace HBr := Lib.hid ((hg.block _ (lt_of_block HBr.out) (fun e => by injection e with e; omega)).trans HBr.out)
    replace HBt := Lib.hid ((hg.block _ (lt_of_block HBt.out) (fun e => by injection e with e; omega)).trans HBt.out)
    replace HBtn := Lib.hid ((hg.block _ (lt_of_block HBtn.out) (fun e => by injection e with e; omega)).trans HBtn.out)
    replace HTB := Lib.hid (HTB.out.grown hg (by omega))
    replace HP := Lib.hid hp
    replace HD := Lib.hid (grown_tr HD.out (hg))
    have hsz9 := HD.out.size
    clear hp hg
    simp only [eV]
    go_upto_region 7 with fail
    obtain ⟨w10, hw⟩ : ∃ x, x = w9.alloc (.cells #[.string ⟨x1.1.S.toArray⟩, .int .i64 (x1.1.d : Nat)] 117) := ⟨_, rfl⟩
    have hb : Below w9.heap.size w9 w10 := by rw [hw]; exact (Below.refl _ _).alloc (Nat.le_refl _) _
    have hk : w10.heap[w9.heap.size]? = some (.cells #[.string ⟨x1.1.S.toArray⟩, .int .i64 (x1.1.d : Nat)] 117 (0, 0)) := by rw [hw]; exact made_at w9 _ _ rfl
    rw [← hw]
    obtain ⟨ka, hkk⟩ : ∃ k, k = w9.heap.size := ⟨_, rfl⟩
    have hga : g < ka := by rw [hkk]; exact HP.out.lt
    have hea : w.heap.size ≤ ka := by omega
    have hr_a : kr < ka := by rw [hkk]; exact lt_of_block HBr.out
    have ht_a : kt < ka := by rw [hkk]; exact lt_of_block HBt.out
    have htn_a : ktn < ka := by rw [hkk]; exact lt_of_block HBtn.out
    rw [← hkk] at hk ⊢
    replace HBr := Lib.hid ((hb.block _ (lt_of_block HBr.out)).trans HBr.out)
    replace HBt := Lib.hid ((hb.block _ (lt_of_block HBt.out)).trans HBt.out)
    replace HBtn := Lib.hid ((hb.block _ (lt_of_block HBtn.out)).trans HBtn.out)
    replace HP := Lib.hid (HP.out.below hb)
    replace HTB := Lib.hid (HTB.out.below hb)
    replace HD := Lib.hid (grown_tr HD.out (below_grown hb (some g)))
    have hsz10 := HD.out.size
    have HBa := Lib.hid hk
    clear hw hb hk hkk
    go_wp2_with fail
    refine (eat_p g (x1.2) [105, 110] w10 HP.out).mono ?_
    rintro e w11 ⟨⟨v, rfl⟩, hp, hg⟩
    replace HBr := Lib.hid ((hg.block _ (lt_of_block HBr.out) (fun e => by injection e with e; omega)).trans HBr.out)
    replace HBt := Lib.hid ((hg.block _ (lt_of_block HBt.out) (fun e => by injection e with e; omega)).trans HBt.out)
    replace HBtn := Lib.hid ((hg.block _ (lt_of_block HBtn.out) (fun e => by injection e with e; omega)).trans HBtn.out)
    replace HBa := Lib.hid ((hg.block _ (lt_of_block HBa.out) (fun e => by injection e with e; omega)).trans HBa.out)
    replace HTB := Lib.hid (HTB.out.grown hg (by omega))
    replace HP := Lib.hid hp
    replace HD := Lib.hid (grown_tr HD.out (hg))
    have hsz11 := HD.out.size
    clear hp hg
    have HF2 := Lib.hid ((r_len n).1 _ _ (HF1.out.1.eat wIn) H2.out)
    have HP2 : Hid (x2.1.S.length ≤ 300000000 ∧ x2.1.d ≤ 300000000) := Lib.hid (by
      have h : x2.1.S.length ≤ 300000000 := Nat.le_trans (Nat.le_trans (Nat.le_add_right _ _) HF2.out.2.1) HP.out.phi
      exact ⟨h, Nat.le_trans HF2.out.2.2.1 h⟩)
    go_upto_region 8 with fail
    have hlt_t := lt_of_block HBt.out
    have hlt_tn := lt_of_block HBtn.out
    have hlt_a := lt_of_block HBa.out
    have hog : ∀ q, q < 1 → (fun q => g) q < w11.heap.size := fun q _ => by show g < _; exact HP.out.lt
    refine Rel7.region (by kernel_rfl) [[], [], [1], [], [], [4], [3, 4, 5], [0, 1, 2, 3, 4, 5, 6], [0, 1, 2, 3, 4, 5, 6, 7]] [] [(5, 1000)] (fun q => g) 1 7 (by kernel_rfl) (by kernel_rfl) (by rfl) hog (fun q q' h h' hn => absurd hn (by omega)) ?_
    refine Rel7.Chain.det ?_ (by rfl) (fun T xs wr hA => ?_) ?_
    rotate_left 1
    · have e3 := hA.pre 3 (by kernel_rfl)
      simp only [List.getElem?_toArray, List.getElem?_cons_succ, List.getElem?_cons_zero] at e3
      have hBq : wr.heap[kt]? = _ := (hA.bl _ hlt_t (fun q _ => by show g ≠ kt; omega)).trans HBt.out
      have q0 := cell_at (v := .int .i64 (t.kind : Nat)) hBq 0 rfl
      have q1 := cell_at (v := .string ⟨t.text.toArray⟩) hBq 1 rfl
      have q2 := cell_at (v := .int .i64 (t.line : Nat)) hBq 2 rfl
      have q3 := cell_at (v := .int .i64 (t.col : Nat)) hBq 3 rfl
      clear hBq
      clear hA
      refine ⟨(by rfl), ?_⟩
      go_simp <;> (try with_reducible rfl)
    refine Rel7.Chain.det ?_ (by rfl) (fun T xs wr hA => ?_) ?_
    rotate_left 1
    · have e4 := hA.pre 4 (by kernel_rfl)
      simp only [List.getElem?_toArray, List.getElem?_cons_succ, List.getElem?_cons_zero] at e4
      clear hA
      refine ⟨(by rfl), ?_⟩
      go_simp <;> (try with_reducible rfl)
    refine Rel7.Chain.det ?_ (by rfl) (fun T xs wr hA => ?_) ?_
    rotate_left 1
    · have e33 := hA.tm 1 33 (by rfl) (by rfl)
      have f33 : xs 1 = _ := hA.fa 1 (by rfl)
      (try simp (disch := first | rfl | decide) only [Rel7.mask_in] at f33)
      rw [f33] at e33
      clear f33
      have hBq : wr.heap[ktn]? = _ := (hA.bl _ hlt_tn (fun q _ => by show g ≠ ktn; omega)).trans HBtn.out
      have q0 := cell_at (v := .int .i64 (tn.kind : Nat)) hBq 0 rfl
      have q1 := cell_at (v := .string ⟨tn.text.toArray⟩) hBq 1 rfl
      have q2 := cell_at (v := .int .i64 (tn.line : Nat)) hBq 2 rfl
      have q3 := cell_at (v := .int .i64 (tn.col : Nat)) hBq 3 rfl
      clear hBq
      clear hA
      refine ⟨(by rfl), ?_⟩
      go_simp <;> (try with_reducible rfl)
    refine Rel7.Chain.det ?_ (by rfl) (fun T xs wr hA => ?_) ?_
    rotate_left 1
    · have e5 := hA.pre 5 (by kernel_rfl)
      simp only [List.getElem?_toArray, List.getElem?_cons_succ, List.getElem?_cons_zero] at e5
      have hBq : wr.heap[ka]? = _ := (hA.bl _ hlt_a (fun q _ => by show g ≠ ka; omega)).trans HBa.out
      have q0 := cell_at (v := .string ⟨x1.1.S.toArray⟩) hBq 0 rfl
      have q1 := cell_at (v := .int .i64 (x1.1.d : Nat)) hBq 1 rfl
      clear hBq
      clear hA
      refine ⟨(by rfl), ?_⟩
      go_simp <;> (try with_reducible rfl)
    refine Rel7.Chain.det ?_ (by rfl) (fun T xs wr hA => ?_) ?_
    rotate_left 1
    · have e0 := hA.pre 0 (by kernel_rfl)
      simp only [List.getElem?_toArray, List.getElem?_cons_zero] at e0
      clear hA
      refine ⟨(by rfl), ?_⟩
      go_simp <;> (try with_reducible rfl)
    refine Rel7.Chain.callOld 0 (fun xs v w => v = eV x2.1 ∧ PR w g x2.2) (fun _ _ _ _ ⟨h1, h2⟩ hb => ⟨h1, h2.below hb⟩) (fun _ _ _ _ q' _ hq hne _ => absurd rfl hne) (by rfl) (by rfl) (by decide) (Rel7.own_one (by rfl)) (fun T xs wr hA hold => ?_) ?_
    · have hsw := (hA.be 0 (Nat.zero_le _) (fun _ _ => Nat.zero_le _)).size
      have e36 := hA.tm 4 36 (by rfl) (by rfl)
      have f36 : xs 4 = _ := hA.fa 4 (by rfl)
      (try simp (disch := first | rfl | decide) only [Rel7.mask_in] at f36)
      rw [f36] at e36
      clear f36
      have h0 := undrew (hA.be 0 (Nat.zero_le _) (fun _ _ => Nat.zero_le _))
      have hbw : Below w11.heap.size w11 wr := ⟨h0.os, h0.tape, h0.output, h0.size, fun k hk => by
        by_cases e : k = g
        · rw [e]; exact hold
        · exact hA.bl k hk (fun q _ h => e h.symm)⟩
      clear hA
      refine ⟨(by rfl), fun K hK => ?_⟩
      go_simp
      refine (E.out g _ x2 _ (HP.out.below hbw) (HF1.out.1.eat wIn).2 (HTB.out.below hbw) H2.out).mono ?_
      rintro e w' ⟨rfl, hp, hg⟩
      exact hK.out _ _ ⟨rfl, hp⟩ (Rel7.Priv.of hg)
    refine Rel7.Chain.call (fun xs v w => ∃ g, v = .slice (some ⟨g, 0, none⟩) 2 2 ∧ w11.heap.size ≤ g ∧ w.heap[g]? = some (.cells #[.string ⟨x1.1.S.toArray⟩, .int .i64 (x1.1.d : Nat), .string ⟨x2.1.S.toArray⟩, .int .i64 (x2.1.d : Nat)] 117 (0, 0))) (fun _ _ _ _ ⟨g, hv, hl, hg⟩ hb => ⟨g, hv, hl, by rw [hb.block g (Array.getElem?_eq_some_iff.1 hg).1]; exact hg⟩) (fun _ _ _ _ _ ⟨g, hv, hl, hg⟩ ⟨q, hq, e⟩ hp => ⟨g, hv, hl, by rw [hp.block g (Array.getElem?_eq_some_iff.1 hg).1 (fun h => by have := hog q hq; omega)]; exact hg⟩) (by rfl) (fun T xs wr hA => ?_) ?_
    · have hsw := (hA.be 0 (Nat.zero_le _) (fun _ _ => Nat.zero_le _)).size
      have e35 := hA.tm 3 35 (by rfl) (by rfl)
      have f35 : xs 3 = _ := hA.fa 3 (by rfl)
      (try simp (disch := first | rfl | decide) only [Rel7.mask_in] at f35)
      rw [f35] at e35
      clear f35
      have e37 := hA.tm 5 37 (by rfl) (by rfl)
      have hF5 : xs 5 = eV x2.1 ∧ PR wr g x2.2 := hA.fa 5 (by rfl)
      rw [hF5.1] at e37
      unfold eV at e37
      clear hA
      refine ⟨(by rfl), fun K hK => ?_⟩
      go_simp
      exact hK.out _ _ ⟨_, rfl, hsw, by simpa using made_at wr _ _ rfl⟩ ((Below.refl _ _).alloc (Nat.le_refl _) _)
    refine Rel7.Chain.done (fun xs w12 hL => ?_)
    obtain ⟨⟨hbe, hbl⟩, hf, -, -⟩ := hL
    have f0 : xs 0 = _ := hf 0 (by decide)
    (try simp (disch := first | rfl | decide) only [Rel7.mask_in] at f0)
    have f1 : xs 1 = _ := hf 1 (by decide)
    (try simp (disch := first | rfl | decide) only [Rel7.mask_in] at f1)
    have f2 : xs 2 = _ := hf 2 (by decide)
    (try simp (disch := first | rfl | decide) only [Rel7.mask_in] at f2)
    have f3 : xs 3 = _ := hf 3 (by decide)
    (try simp (disch := first | rfl | decide) only [Rel7.mask_in] at f3)
    have f4 : xs 4 = _ := hf 4 (by decide)
    (try simp (disch := first | rfl | decide) only [Rel7.mask_in] at f4)
    have F5 : (xs 5) = eV x2.1 ∧ PR w12 g x2.2 := hf 5 (by decide)
    have F6 : ∃ g, (xs 6) = .slice (some ⟨g, 0, none⟩) 2 2 ∧ w11.heap.size ≤ g ∧ w12.heap[g]? = some (.cells #[.string ⟨x1.1.S.toArray⟩, .int .i64 (x1.1.d : Nat), .string ⟨x2.1.S.toArray⟩, .int .i64 (x2.1.d : Nat)] 117 (0, 0)) := hf 6 (by decide)
    have hb0 : Below 0 w11 w12 := undrew (hbe 0 (Nat.zero_le _) (fun _ _ => Nat.zero_le _))
    have hgr : ∀ j, j < w11.heap.size → (∀ q, q < 1 → (fun q => g) q ≠ j) → w12.heap[j]? = w11.heap[j]? := hbl
    clear hbe hbl hf
    obtain ⟨hv4, hp⟩ := F5
    obtain ⟨g5, hv5, hl5, hg5⟩ := F6
    have hg : w11.grownBy w12 (some g) := ⟨hb0.os, hb0.tape, hb0.output, hb0.size, fun k hk hn => hgr k hk (fun q _ e => hn (by rw [← e]))⟩
    refine Rel7.rest_list (by decide) (by kernel_rfl) ?_
    simp only [Rel7.fill, List.take_succ_cons, List.take_zero, List.drop_succ_cons, List.drop_zero, List.setIfInBounds_toArray, List.set_cons_zero, List.set_cons_succ, f0, f1, f2, f3, f4]
    simp only [hv4, hv5]
    clear hog hv4 hv5 hl5 hb0 hgr hlt_t hlt_tn hlt_a f0 f1 f2 f3 f4
    replace HBr := Lib.hid ((hg.block _ (lt_of_block HBr.out) (fun e => by injection e with e; omega)).trans HBr.out)
    replace HBt := Lib.hid ((hg.block _ (lt_of_block HBt.out) (fun e => by injection e with e; omega)).trans HBt.out)
    replace HBtn := Lib.hid ((hg.block _ (lt_of_block HBtn.out) (fun e => by injection e with e; omega)).trans HBtn.out)
    replace HBa := Lib.hid ((hg.block _ (lt_of_block HBa.out) (fun e => by injection e with e; omega)).trans HBa.out)
    replace HTB := Lib.hid (HTB.out.grown hg (by omega))
    replace HP := Lib.hid hp
    replace HD := Lib.hid (grown_tr HD.out (hg))
    have hsz12 := HD.out.size
    have HG5 := Lib.hid hg5
    clear hp hg hg5
    have hnm : (tn.text).length ≤ 1000000 := by have := hN.2.2; omega
    have hf1 := HP1.out.1
    have hr1 := HP1.out.2
    have hf2 := HP2.out.1
    have hr2 := HP2.out.2
    have hS : ([x1.1, x2.1].flatMap RE.S).length ≤ 1000000000 := by rw [fl2]; omega
    have hd : ∀ e ∈ [x1.1, x2.1], e.d ≤ 1000000000 := by intro e he; simp only [List.mem_cons, List.not_mem_nil, or_false] at he; rcases he with rfl | rfl <;> omega
    go_wp2_with fail
    refine (made_p 26 t tn.text (some ⟨g5, 0, none⟩) 2 [x1.1, x2.1] w12 HTB.out.1 (by first | decide | omega) hT.1 hT.2.1 hnm (at2_blk (ks := [x1.1, x2.1]) HG5.out) (by simp) hS hd).mono ?_
    rintro e w13 ⟨rfl, hb⟩
    replace HBr := Lib.hid ((hb.block _ (lt_of_block HBr.out)).trans HBr.out)
    replace HBt := Lib.hid ((hb.block _ (lt_of_block HBt.out)).trans HBt.out)
    replace HBtn := Lib.hid ((hb.block _ (lt_of_block HBtn.out)).trans HBtn.out)
    replace HBa := Lib.hid ((hb.block _ (lt_of_block HBa.out)).trans HBa.out)
    replace HP := Lib.hid (HP.out.below hb)
    replace HTB := Lib.hid (HTB.out.below hb)
    replace HD := Lib.hid (grown_tr HD.out (below_grown hb (some g)))
    have hsz13 := HD.out.size
    clear hb
    clear HG5
    simp only [eV]
    have z0 := cell_at (v := .string ⟨#[]⟩) HBr.out 0 rfl
    have fz0 := froz_at HBr.out 0
    have z1 := cell_at (v := .int .i64 0) HBr.out 1 rfl
    have fz1 := froz_at HBr.out 1
    go_wp2_with fail
    have hg := st2_grown w13 kr (.string ⟨(mk 26 t tn.text [x1.1, x2.1]).S.toArray⟩) (.int .i64 ((mk 26 t tn.text [x1.1, x2.1]).d : Nat))
    exact bodyPost_ret (v := .agg #[.string ⟨(mk 26 t tn.text [x1.1, x2.1]).S.toArray⟩, .int .i64 ((mk 26 t tn.text [x1.1, x2.1]).d : Nat)]) (by simp [results, Tryz.results56, go_sem, z0, z1]) rfl ⟨by rw [HNt.out, HNtn.out]; rfl, HP.out.store (by omega) hg, grown_new HD.out hg (by omega)⟩
end Go.Proofs.YtdpfgfkoboihcaaGreatDoor

/-
  All contracts of the reference's recursion together; all.
-/
namespace Go.Proofs.YtdpfgfkoboihcaaGreatDoor
open Go.RowKit
set_option maxRecDepth 100000
set_option linter.unusedVariables false

set_option linter.unusedSimpArgs false
theorem r_all (n : Nat) : ∀ m, m ≤ n → RExprAt m ∧ RClimbAt m ∧ RSingleAt m ∧ RAtomAt m := by
  induction n with
  | zero =>
    intro m hm
    obtain rfl : m = 0 := by omega
    refine ⟨?_, ?_, ?_, ?_⟩
    · intro g r x w _ _ _ h; simp [rExpr] at h
    · intro g l r x w _ _ _ _ _ h; simp [rClimb] at h
    · intro g r x w _ _ _ h; simp [rSingle] at h
    · intro g r x w _ _ _ h; simp [rAtom] at h
  | succ n ih =>
    intro m hm
    by_cases h : m ≤ n
    · exact ih m h
    · obtain rfl : m = n + 1 := by omega
      obtain ⟨h1, h2, h3, h4⟩ := ih n (Nat.le_refl _)
      exact ⟨rexpr_p n (Lib.hid h1) (Lib.hid h2), climb_p n (Lib.hid h3) (Lib.hid fun m hm => (ih m hm).2.1), single_p n (Lib.hid h3) (Lib.hid h4), ratom_p n (Lib.hid h1) (Lib.hid fun m hm => (ih m hm).1)⟩
set_option maxHeartbeats 16000000 in
theorem rall_p (n g : Nat) (r : RS) (y : Bs × RS) (w : World) (hps : PR w g r) (htb : TBd r) (hpw : Pw w g) (hc : rAll n r = some y) :
    Calls Tryz.prog 27 #[.pointer (some ⟨g, 0, none⟩)] w fun e w' => e = .returned (.string ⟨y.1.toArray⟩) ∧ Rid w g y.2 w' := by
  have hgw : g < w.heap.size := hps.lt
  have HP := Lib.hid hps
  have HTD := Lib.hid htb
  have HTB := Lib.hid hpw
  have HGR := Lib.hid (show GR r from ⟨hps.good, htb⟩)
  have E := Lib.hid (r_all n n (Nat.le_refl _)).1
  clear hps htb hpw
  unfold rAll at hc
  rw [Option.bind_eq_some_iff] at hc
  obtain ⟨x1, h1, h2⟩ := hc
  injection h2 with h2
  subst h2
  have H1 := Lib.hid h1
  clear h1
  go_enter Tryz.func27, Tryz.ntmps27
  go_wp2_with fail
  refine (at_p g r w HP.out).mono ?_
  rintro e w1 ⟨rfl, hb⟩
  replace HP := Lib.hid (HP.out.below hb)
  replace HTB := Lib.hid (HTB.out.below hb)
  have HD := Lib.hid (below_grown hb (some g))
  have hsz1 := HD.out.size
  clear hb
  simp only [tokV]
  obtain ⟨t, hnx⟩ : ∃ t, t = RS.at' r := ⟨_, rfl⟩
  rw [← hnx]
  have HNt := Lib.hid hnx
  clear hnx
  go_upto_region 2 with fail
  obtain ⟨w2, hw⟩ : ∃ x, x = w1.alloc (.cells #[.int .i64 (t.kind : Nat), .string ⟨t.text.toArray⟩, .int .i64 (t.line : Nat), .int .i64 (t.col : Nat)] 60) := ⟨_, rfl⟩
  have hb : Below w1.heap.size w1 w2 := by rw [hw]; exact (Below.refl _ _).alloc (Nat.le_refl _) _
  have hk : w2.heap[w1.heap.size]? = some (.cells #[.int .i64 (t.kind : Nat), .string ⟨t.text.toArray⟩, .int .i64 (t.line : Nat), .int .i64 (t.col : Nat)] 60 (0, 0)) := by rw [hw]; exact made_at w1 _ _ rfl
  rw [← hw]
  obtain ⟨kt, hkk⟩ : ∃ k, k = w1.heap.size := ⟨_, rfl⟩
  have hgt : g < kt := by rw [hkk]; exact HP.out.lt
  have het : w.heap.size ≤ kt := by omega
  rw [← hkk] at hk ⊢
  replace HP := Lib.hid (HP.out.below hb)
  replace HTB := Lib.hid (HTB.out.below hb)
  replace HD := Lib.hid (grown_tr HD.out (below_grown hb (some g)))
  have hsz2 := HD.out.size
  have HBt := Lib.hid hk
  clear hw hb hk hkk
  have HF1 := Lib.hid ((r_len n).1 _ _ (HGR.out) H1.out)
  have HP1 : Hid (x1.1.S.length ≤ 300000000 ∧ x1.1.d ≤ 300000000) := Lib.hid (by
    have h : x1.1.S.length ≤ 300000000 := Nat.le_trans (Nat.le_trans (Nat.le_add_right _ _) HF1.out.2.1) HP.out.phi
    exact ⟨h, Nat.le_trans HF1.out.2.2.1 h⟩)
  go_wp2_with fail
  refine (E.out g _ x1 w2 HP.out (HGR.out).2 HTB.out H1.out).mono ?_
  rintro e w3 ⟨rfl, hp, hg⟩
  replace HBt := Lib.hid ((hg.block _ (lt_of_block HBt.out) (fun e => by injection e with e; omega)).trans HBt.out)
  replace HTB := Lib.hid (HTB.out.grown hg (by omega))
  replace HP := Lib.hid hp
  replace HD := Lib.hid (grown_tr HD.out (hg))
  have hsz3 := HD.out.size
  clear hp hg
  simp only [eV]
  go_upto_region 3 with fail
  obtain ⟨w4, hw⟩ : ∃ x, x = w3.alloc (.cells #[.string ⟨x1.1.S.toArray⟩, .int .i64 (x1.1.d : Nat)] 117) := ⟨_, rfl⟩
  have hb : Below w3.heap.size w3 w4 := by rw [hw]; exact (Below.refl _ _).alloc (Nat.le_refl _) _
  have hk : w4.heap[w3.heap.size]? = some (.cells #[.string ⟨x1.1.S.toArray⟩, .int .i64 (x1.1.d : Nat)] 117 (0, 0)) := by rw [hw]; exact made_at w3 _ _ rfl
  rw [← hw]
  obtain ⟨ke, hkk⟩ : ∃ k, k = w3.heap.size := ⟨_, rfl⟩
  have hge : g < ke := by rw [hkk]; exact HP.out.lt
  have hee : w.heap.size ≤ ke := by omega
  have ht_e : kt < ke := by rw [hkk]; exact lt_of_block HBt.out
  rw [← hkk] at hk ⊢
  replace HBt := Lib.hid ((hb.block _ (lt_of_block HBt.out)).trans HBt.out)
  replace HP := Lib.hid (HP.out.below hb)
  replace HTB := Lib.hid (HTB.out.below hb)
  replace HD := Lib.hid (grown_tr HD.out (below_grown hb (some g)))
  have hsz4 := HD.out.size
  have HBe := Lib.hid hk
  clear hw hb hk hkk
  obtain ⟨pb, pi, pn, pc, p1, -⟩ := HP.out
  have p2 := cell_at (v := .int .i64 (x1.2.bad : Nat)) p1 2 rfl
  clear p1
  by_cases hb : ¬ (x1.2.bad = 0)
  · have HX : Hid ((if x1.2.bad = 0 ∧ 60 < x1.1.d then x1.2.bd r.at' 2 else x1.2) = x1.2) := Lib.hid (if_neg (fun h => hb h.1))
    have hb' : (((x1.2.bad : Nat) : Int) == 0) = false := by rw [beq_eq_false_iff_ne]; omega
    go_upto_region 5 with fail
    clear hb' p2
    have y0 := cell_at (v := .string ⟨x1.1.S.toArray⟩) HBe.out 0 rfl
    have y1 := cell_at (v := .int .i64 (x1.1.d : Nat)) HBe.out 1 rfl
    go_wp2_with fail
    go_ret
    exact ⟨rfl, by first | (rw [HX.out]; exact HP.out) | exact HP.out | (rw [← HNt.out]; exact HP.out), HD.out⟩
  · replace hb : x1.2.bad = 0 := by omega
    rw [hb] at p2
    by_cases hd : 60 < x1.1.d
    · have HX : Hid ((if x1.2.bad = 0 ∧ 60 < x1.1.d then x1.2.bd r.at' 2 else x1.2) = x1.2.bd t 2) := Lib.hid (by rw [if_pos ⟨hb, hd⟩, HNt.out])
      have hd' : decide (60 < x1.1.d) = true := by simpa using hd
      have y0 := cell_at (v := .string ⟨x1.1.S.toArray⟩) HBe.out 0 rfl
      have y1 := cell_at (v := .int .i64 (x1.1.d : Nat)) HBe.out 1 rfl
      go_upto_region 4 with fail
      clear hd' p2
      clear y0 y1
      have c0 := cell_at (v := .int .i64 (t.kind : Nat)) HBt.out 0 rfl
      have c1 := cell_at (v := .string ⟨t.text.toArray⟩) HBt.out 1 rfl
      have c2 := cell_at (v := .int .i64 (t.line : Nat)) HBt.out 2 rfl
      have c3 := cell_at (v := .int .i64 (t.col : Nat)) HBt.out 3 rfl
      go_wp2_with fail
      have hp0 := bad_p g x1.2 t 2 w4 HP.out
      simp only [tokV] at hp0
      refine (hp0).mono ?_
      rintro e w5 ⟨⟨v, rfl⟩, hp, hg⟩
      clear c0 c1 c2 c3
      replace HBt := Lib.hid ((hg.block _ (lt_of_block HBt.out) (fun e => by injection e with e; omega)).trans HBt.out)
      replace HBe := Lib.hid ((hg.block _ (lt_of_block HBe.out) (fun e => by injection e with e; omega)).trans HBe.out)
      replace HTB := Lib.hid (HTB.out.grown hg (by omega))
      replace HP := Lib.hid hp
      replace HD := Lib.hid (grown_tr HD.out (hg))
      have hsz5 := HD.out.size
      clear hp hg
      clear hp0
      go_upto_region 5 with fail
      have y0 := cell_at (v := .string ⟨x1.1.S.toArray⟩) HBe.out 0 rfl
      have y1 := cell_at (v := .int .i64 (x1.1.d : Nat)) HBe.out 1 rfl
      go_wp2_with fail
      go_ret
      exact ⟨rfl, by first | (rw [HX.out]; exact HP.out) | exact HP.out | (rw [← HNt.out]; exact HP.out), HD.out⟩
    · have HX : Hid ((if x1.2.bad = 0 ∧ 60 < x1.1.d then x1.2.bd r.at' 2 else x1.2) = x1.2) := Lib.hid (if_neg (fun h => hd h.2))
      have hd' : decide (60 < x1.1.d) = false := by simpa using hd
      have y0 := cell_at (v := .string ⟨x1.1.S.toArray⟩) HBe.out 0 rfl
      have y1 := cell_at (v := .int .i64 (x1.1.d : Nat)) HBe.out 1 rfl
      go_upto_region 5 with fail
      clear hd' p2
      have y0 := cell_at (v := .string ⟨x1.1.S.toArray⟩) HBe.out 0 rfl
      have y1 := cell_at (v := .int .i64 (x1.1.d : Nat)) HBe.out 1 rfl
      go_wp2_with fail
      go_ret
      exact ⟨rfl, by first | (rw [HX.out]; exact HP.out) | exact HP.out | (rw [← HNt.out]; exact HP.out), HD.out⟩
end Go.Proofs.YtdpfgfkoboihcaaGreatDoor

/-
  The contract of the reference's Expr.
-/
namespace Go.Proofs.YtdpfgfkoboihcaaGreatDoor
open Go.RowKit
set_option maxRecDepth 100000
set_option linter.unusedVariables false

set_option linter.unusedSimpArgs false
def rs0 (l : Bs) : RS := ⟨(lexS l (1, 1)).1, 0, ⟨0, [], 0, 0⟩⟩
def RS.fin (r : RS) : RS := if r.bad = 0 ∧ r.at'.kind ≠ 4 then r.bd r.at' 1 else r
def rexV (l : Bs) (y : Bs × RS) : Value :=
  if (lexS l (1, 1)).2 ≠ 0 then .tuple #[.string ⟨#[]⟩, .int .i64 ((lexS l (1, 1)).2 : Nat), .int .i64 ((((lexS l (1, 1)).1.getLast?).getD tk0).line : Nat), .int .i64 ((((lexS l (1, 1)).1.getLast?).getD tk0).col : Nat)]
  else if y.2.fin.bad ≠ 0 then .tuple #[.string ⟨#[]⟩, .int .i64 (y.2.fin.bad : Nat), .int .i64 (y.2.fin.pl.line : Nat), .int .i64 (y.2.fin.pl.col : Nat)]
  else .tuple #[.string ⟨y.1.toArray⟩, .int .i64 0, .int .i64 0, .int .i64 0]
theorem field_kindT (a c d : Int) (l : ByteArray) (w : World) : (Instr.field 60 (.agg #[.int .i64 a, .string l, .int .i64 c, .int .i64 d]) 0).run Tryz.prog w = .ok (.int .i64 a) w := by kernel_rfl
theorem pow_lt {w : World} (h : Pow w) : 4 < w.heap.size := by
  unfold Pow Lib.TabIs World.var? at h
  rw [nPow] at h
  simp only [Option.bind_some] at h
  rcases Nat.lt_or_ge 4 w.heap.size with h' | h'
  · exact h'
  · rw [Array.getElem?_eq_none h'] at h; simp at h
theorem toks_mem {l : Bs} (hl : l.length ≤ 3000) : (lexS l (1, 1)).1.length ≤ 3001 := by
  have := (lex_sum l (1, 1)).1
  omega
set_option maxHeartbeats 16000000 in
theorem rex_p (n : Nat) (l : Bs) (y : Bs × RS) (w : World) (hl : l.length ≤ 3000) (hpw : Pow w) (htb : (lexS l (1, 1)).2 = 0 → TBd (rs0 l)) (hc : (lexS l (1, 1)).2 = 0 → rAll n (rs0 l) = some y) :
    Calls Tryz.prog 12 #[.string ⟨l.toArray⟩] w fun e w' => e = .returned (rexV l y) ∧ Below w.heap.size w w' := by
  have hlen := toks_mem hl
  have hne := lex_ne l (1, 1)
  have HPW := Lib.hid hpw
  have HTD := Lib.hid htb
  have HC := Lib.hid hc
  have HGL := Lib.hid (lex_good l (1, 1))
  clear hpw htb hc
  go_enter Tryz.func12, Tryz.ntmps12
  go_wp2_with fail
  refine (ref_any l w (by omega)).mono ?_
  rintro e w1 ⟨v, rfl, hT, hb⟩
  obtain ⟨tb, cap, rfl, h1, h2, h3, h4, h5⟩ : ∃ g cap, v = .slice (some ⟨g, 0, none⟩) (lexS l (1, 1)).1.length cap ∧ (lexS l (1, 1)).1.length ≤ cap ∧ cap ≤ maxLen ∧ w.heap.size ≤ g ∧ g < w1.heap.size ∧ ∀ k (hk : k < (lexS l (1, 1)).1.length), w1.cell? ⟨g, k * 4, none⟩ = some (.int .i64 ((lexS l (1, 1)).1[k].kind : Nat)) ∧ w1.cell? ⟨g, k * 4 + 1, none⟩ = some (.string ⟨(lexS l (1, 1)).1[k].text.toArray⟩) ∧ w1.cell? ⟨g, k * 4 + 2, none⟩ = some (.int .i64 ((lexS l (1, 1)).1[k].line : Nat)) ∧ w1.cell? ⟨g, k * 4 + 3, none⟩ = some (.int .i64 ((lexS l (1, 1)).1[k].col : Nat)) := by
    obtain ⟨a, cap, rfl, q1, q2, q3⟩ := hT.form
    obtain ⟨g, rfl, q4, q5, q6⟩ := q3 hne
    exact ⟨g, cap, rfl, q1, q2, q4, q5, q6⟩
  have HB := Lib.hid hb
  replace HPW := Lib.hid (tab_below HPW.out hb)
  clear hb hT
  by_cases hz : (lexS l (1, 1)).2 = 0
  · have HTK := Lib.hid (toks_of (o := 0) fun k hk => by rw [Nat.zero_add, Nat.zero_add, Nat.zero_add, Nat.zero_add]; exact h5 k hk)
    have HCC := Lib.hid (HC.out hz)
    have HTT := Lib.hid (HTD.out hz)
    have HGG := Lib.hid (HGL.out hz)
    clear h5 HC HTD HGL
    rw [hz]
    have HV : Hid (rexV l y = if y.2.fin.bad ≠ 0 then .tuple #[.string ⟨#[]⟩, .int .i64 (y.2.fin.bad : Nat), .int .i64 (y.2.fin.pl.line : Nat), .int .i64 (y.2.fin.pl.col : Nat)] else .tuple #[.string ⟨y.1.toArray⟩, .int .i64 0, .int .i64 0, .int .i64 0]) := Lib.hid (by unfold rexV; rw [if_neg (by omega)])
    go_upto_region 6 with fail
    obtain ⟨w2, hw⟩ : ∃ x, x = w1.alloc (.cells #[.slice (some ⟨tb, 0, none⟩) (lexS l (1, 1)).1.length cap, .int .i64 0, .int .i64 0, .int .i64 0, .string ⟨#[]⟩, .int .i64 0, .int .i64 0] 63) := ⟨_, rfl⟩
    have hb : Below w1.heap.size w1 w2 := by rw [hw]; exact (Below.refl _ _).alloc (Nat.le_refl _) _
    have hk : w2.heap[w1.heap.size]? = some (.cells #[.slice (some ⟨tb, 0, none⟩) (lexS l (1, 1)).1.length cap, .int .i64 0, .int .i64 0, .int .i64 0, .string ⟨#[]⟩, .int .i64 0, .int .i64 0] 63 (0, 0)) := by rw [hw]; exact made_at w1 _ _ rfl
    rw [← hw]
    obtain ⟨kp, hkk⟩ : ∃ k, k = w1.heap.size := ⟨_, rfl⟩
    have hwg : w.heap.size ≤ kp := by rw [hkk]; exact HB.out.size
    rw [← hkk] at hk ⊢
    have HB2 := Lib.hid (HB.out.trans (hb.mono HB.out.size))
    have HPR : Hid (PR w2 kp (rs0 l)) := Lib.hid ⟨tb, 0, _, cap, hk, HGG.out, by simp [rs0], h1, h2, by omega, by omega, Nat.lt_of_lt_of_le h4 hb.size, by rw [Nat.zero_mul]; exact HTK.out.below h4 hb⟩
    have HPw : Hid (Pw w2 kp) := Lib.hid ⟨tab_below HPW.out hb, by have := pow_lt HPW.out; omega⟩
    clear hw hb hk hkk h1 h2 h3 h4 HGG HTK hne hlen
    go_wp2_with fail
    refine (rall_p n kp (rs0 l) y w2 HPR.out HTT.out HPw.out HCC.out).mono ?_
    rintro e w3 ⟨rfl, hp, hg⟩
    have HB3 := Lib.hid (HB2.out.trans (grown_below hg HB2.out.size hwg))
    have HP := Lib.hid hp
    clear hp hg
    obtain ⟨pb, pi, pn, pc, p1, -⟩ := HP.out
    have p2 := cell_at (v := .int .i64 (y.2.bad : Nat)) p1 2 rfl
    clear p1
    by_cases hb0 : y.2.bad = 0
    · rw [hb0] at p2
      by_cases hk4 : y.2.at'.kind = 4
      · have HF : Hid (y.2.fin = y.2) := Lib.hid (by unfold RS.fin; rw [if_neg (fun h => h.2 hk4)])
        have hk4' : (((y.2.at'.kind : Nat) : Int) == 4) = true := by rw [hk4]; rfl
        have HB0 := Lib.hid hb0
        clear hb0 hk4
        go_wp2_with fail
        refine (at_p kp y.2 w3 HP.out).mono ?_
        rintro e w4 ⟨rfl, hb⟩
        simp only [tokV]
        have hf := field_kindT (y.2.at'.kind : Nat) (y.2.at'.line : Nat) (y.2.at'.col : Nat) ⟨y.2.at'.text.toArray⟩ w4
        have HB4 := Lib.hid (HB3.out.trans (hb.mono HB3.out.size))
        obtain ⟨qb, qi, qn, qc, q1, -⟩ := HP.out.below hb
        have q2 := cell_at (v := .int .i64 (y.2.bad : Nat)) q1 2 rfl
        rw [HB0.out] at q2
        clear q1 hb p2
        go_wp2_with fail
        refine bodyPost_ret (v := .tuple #[.string ⟨y.1.toArray⟩, .int .i64 0, .int .i64 0, .int .i64 0]) (by simp [results, Tryz.results12, go_sem]) rfl ⟨?_, HB4.out⟩
        rw [HV.out, HF.out, if_neg (by rw [HB0.out]; simp)]
      · have HF : Hid (y.2.fin = y.2.bd y.2.at' 1) := Lib.hid (by unfold RS.fin; rw [if_pos ⟨hb0, hk4⟩])
        have hk4' : (((y.2.at'.kind : Nat) : Int) == 4) = false := by rw [beq_eq_false_iff_ne]; omega
        have HBD : Hid ((y.2.bd y.2.at' 1).bad = 1) := Lib.hid (by unfold RS.bd; rw [if_pos hb0])
        clear hb0 hk4
        go_wp2_with fail
        refine (at_p kp y.2 w3 HP.out).mono ?_
        rintro e w4 ⟨rfl, hb⟩
        simp only [tokV]
        have hf := field_kindT (y.2.at'.kind : Nat) (y.2.at'.line : Nat) (y.2.at'.col : Nat) ⟨y.2.at'.text.toArray⟩ w4
        replace HB3 := Lib.hid (HB3.out.trans (hb.mono HB3.out.size))
        replace HP := Lib.hid (HP.out.below hb)
        clear hb p2
        go_wp2_with fail
        clear hf hk4'
        refine (at_p kp y.2 w4 HP.out).mono ?_
        rintro e w5 ⟨rfl, hb⟩
        replace HB3 := Lib.hid (HB3.out.trans (hb.mono HB3.out.size))
        replace HP := Lib.hid (HP.out.below hb)
        clear hb
        go_wp2_with fail
        refine (bad_p kp y.2 y.2.at' 1 w5 HP.out).mono ?_
        rintro e w6 ⟨⟨v, rfl⟩, hp, hg⟩
        replace HB3 := Lib.hid (HB3.out.trans (grown_below hg HB3.out.size hwg))
        replace HP := Lib.hid hp
        clear hp hg
        rw [← HF.out] at HP HBD
        obtain ⟨pb, pi, pn, pc, p1, -⟩ := HP.out
        have p2 := cell_at (v := .int .i64 (y.2.fin.bad : Nat)) p1 2 rfl
        have hb' : (((y.2.fin.bad : Nat) : Int) == 0) = false := by rw [HBD.out]; rfl
        clear p1
        go_upto_region 10 with fail
        clear p2 hb'
        obtain ⟨qb, qi, qn, qc, q1, -⟩ := HP.out
        have HBp := Lib.hid q1
        clear q1
        have hlt_p := lt_of_block HBp.out
        have hog : ∀ q, q < 0 → (fun q => 0) q < w6.heap.size := fun q h => absurd h (Nat.not_lt_zero _)
        refine Rel7.region (by kernel_rfl) [[], [0], [0, 1], [0, 1, 2], [], [4], [4, 5], [4, 5, 6], [4, 5, 6, 7], [], [9], [9, 10], [9, 10, 11], [9, 10, 11, 12], [], [0, 1, 2, 3, 14], [0, 1, 2, 3, 4, 5, 6, 7, 8, 14, 15], [0, 1, 2, 3, 4, 5, 6, 7, 8, 9, 10, 11, 12, 13, 14, 15, 16]] [] [] (fun q => 0) 0 18 (by kernel_rfl) (by kernel_rfl) (by rfl) hog (fun q q' h h' hn => absurd hn (by omega)) ?_
        refine Rel7.Chain.det ?_ (by rfl) (fun T xs wr hA => ?_) ?_
        rotate_left 1
        · have e9 := hA.pre 9 (by kernel_rfl)
          simp only [List.getElem?_toArray, List.getElem?_cons_succ, List.getElem?_cons_zero] at e9
          clear hA
          refine ⟨(by rfl), ?_⟩
          go_simp <;> (try with_reducible rfl)
        refine Rel7.Chain.det ?_ (by rfl) (fun T xs wr hA => ?_) ?_
        rotate_left 1
        · have e54 := hA.tm 0 54 (by rfl) (by rfl)
          have f54 : xs 0 = _ := hA.fa 0 (by rfl)
          (try simp (disch := first | rfl | decide) only [Rel7.mask_in] at f54)
          rw [f54] at e54
          clear f54
          clear hA
          refine ⟨(by rfl), ?_⟩
          go_simp <;> (try with_reducible rfl)
        refine Rel7.Chain.det ?_ (by rfl) (fun T xs wr hA => ?_) ?_
        rotate_left 1
        · have e55 := hA.tm 1 55 (by rfl) (by rfl)
          have f55 : xs 1 = _ := hA.fa 1 (by rfl)
          (try simp (disch := first | rfl | decide) only [Rel7.mask_in] at f55)
          rw [f55] at e55
          clear f55
          clear hA
          refine ⟨(by rfl), ?_⟩
          go_simp <;> (try with_reducible rfl)
        refine Rel7.Chain.det ?_ (by rfl) (fun T xs wr hA => ?_) ?_
        rotate_left 1
        · have e56 := hA.tm 2 56 (by rfl) (by rfl)
          have f56 : xs 2 = _ := hA.fa 2 (by rfl)
          (try simp (disch := first | rfl | decide) only [Rel7.mask_in] at f56)
          rw [f56] at e56
          clear f56
          have hBq : wr.heap[kp]? = _ := (hA.bl _ hlt_p (fun q h => absurd h (Nat.not_lt_zero _))).trans HBp.out
          have q0 := cell_at (v := .slice (some ⟨qb, 0, none⟩) qn qc) hBq 0 rfl
          have q1 := cell_at (v := .int .i64 (qi : Nat)) hBq 1 rfl
          have q2 := cell_at (v := .int .i64 (y.2.fin.bad : Nat)) hBq 2 rfl
          have q3 := cell_at (v := .int .i64 (y.2.fin.pl.kind : Nat)) hBq 3 rfl
          have q4 := cell_at (v := .string ⟨y.2.fin.pl.text.toArray⟩) hBq 4 rfl
          have q5 := cell_at (v := .int .i64 (y.2.fin.pl.line : Nat)) hBq 5 rfl
          have q6 := cell_at (v := .int .i64 (y.2.fin.pl.col : Nat)) hBq 6 rfl
          clear hBq
          clear hA
          refine ⟨(by rfl), ?_⟩
          go_simp <;> (try with_reducible rfl)
        refine Rel7.Chain.det ?_ (by rfl) (fun T xs wr hA => ?_) ?_
        rotate_left 1
        · have e9 := hA.pre 9 (by kernel_rfl)
          simp only [List.getElem?_toArray, List.getElem?_cons_succ, List.getElem?_cons_zero] at e9
          clear hA
          refine ⟨(by rfl), ?_⟩
          go_simp <;> (try with_reducible rfl)
        refine Rel7.Chain.det ?_ (by rfl) (fun T xs wr hA => ?_) ?_
        rotate_left 1
        · have e58 := hA.tm 4 58 (by rfl) (by rfl)
          have f58 : xs 4 = _ := hA.fa 4 (by rfl)
          (try simp (disch := first | rfl | decide) only [Rel7.mask_in] at f58)
          rw [f58] at e58
          clear f58
          clear hA
          refine ⟨(by rfl), ?_⟩
          go_simp <;> (try with_reducible rfl)
        refine Rel7.Chain.det ?_ (by rfl) (fun T xs wr hA => ?_) ?_
        rotate_left 1
        · have e59 := hA.tm 5 59 (by rfl) (by rfl)
          have f59 : xs 5 = _ := hA.fa 5 (by rfl)
          (try simp (disch := first | rfl | decide) only [Rel7.mask_in] at f59)
          rw [f59] at e59
          clear f59
          clear hA
          refine ⟨(by rfl), ?_⟩
          go_simp <;> (try with_reducible rfl)
        refine Rel7.Chain.det ?_ (by rfl) (fun T xs wr hA => ?_) ?_
        rotate_left 1
        · have e60 := hA.tm 6 60 (by rfl) (by rfl)
          have f60 : xs 6 = _ := hA.fa 6 (by rfl)
          (try simp (disch := first | rfl | decide) only [Rel7.mask_in] at f60)
          rw [f60] at e60
          clear f60
          clear hA
          refine ⟨(by rfl), ?_⟩
          go_simp <;> (try with_reducible rfl)
        refine Rel7.Chain.det ?_ (by rfl) (fun T xs wr hA => ?_) ?_
        rotate_left 1
        · have e61 := hA.tm 7 61 (by rfl) (by rfl)
          have f61 : xs 7 = _ := hA.fa 7 (by rfl)
          (try simp (disch := first | rfl | decide) only [Rel7.mask_in] at f61)
          rw [f61] at e61
          clear f61
          have hBq : wr.heap[kp]? = _ := (hA.bl _ hlt_p (fun q h => absurd h (Nat.not_lt_zero _))).trans HBp.out
          have q0 := cell_at (v := .slice (some ⟨qb, 0, none⟩) qn qc) hBq 0 rfl
          have q1 := cell_at (v := .int .i64 (qi : Nat)) hBq 1 rfl
          have q2 := cell_at (v := .int .i64 (y.2.fin.bad : Nat)) hBq 2 rfl
          have q3 := cell_at (v := .int .i64 (y.2.fin.pl.kind : Nat)) hBq 3 rfl
          have q4 := cell_at (v := .string ⟨y.2.fin.pl.text.toArray⟩) hBq 4 rfl
          have q5 := cell_at (v := .int .i64 (y.2.fin.pl.line : Nat)) hBq 5 rfl
          have q6 := cell_at (v := .int .i64 (y.2.fin.pl.col : Nat)) hBq 6 rfl
          clear hBq
          clear hA
          refine ⟨(by rfl), ?_⟩
          go_simp <;> (try with_reducible rfl)
        refine Rel7.Chain.det ?_ (by rfl) (fun T xs wr hA => ?_) ?_
        rotate_left 1
        · have e9 := hA.pre 9 (by kernel_rfl)
          simp only [List.getElem?_toArray, List.getElem?_cons_succ, List.getElem?_cons_zero] at e9
          clear hA
          refine ⟨(by rfl), ?_⟩
          go_simp <;> (try with_reducible rfl)
        refine Rel7.Chain.det ?_ (by rfl) (fun T xs wr hA => ?_) ?_
        rotate_left 1
        · have e63 := hA.tm 9 63 (by rfl) (by rfl)
          have f63 : xs 9 = _ := hA.fa 9 (by rfl)
          (try simp (disch := first | rfl | decide) only [Rel7.mask_in] at f63)
          rw [f63] at e63
          clear f63
          clear hA
          refine ⟨(by rfl), ?_⟩
          go_simp <;> (try with_reducible rfl)
        refine Rel7.Chain.det ?_ (by rfl) (fun T xs wr hA => ?_) ?_
        rotate_left 1
        · have e64 := hA.tm 10 64 (by rfl) (by rfl)
          have f64 : xs 10 = _ := hA.fa 10 (by rfl)
          (try simp (disch := first | rfl | decide) only [Rel7.mask_in] at f64)
          rw [f64] at e64
          clear f64
          clear hA
          refine ⟨(by rfl), ?_⟩
          go_simp <;> (try with_reducible rfl)
        refine Rel7.Chain.det ?_ (by rfl) (fun T xs wr hA => ?_) ?_
        rotate_left 1
        · have e65 := hA.tm 11 65 (by rfl) (by rfl)
          have f65 : xs 11 = _ := hA.fa 11 (by rfl)
          (try simp (disch := first | rfl | decide) only [Rel7.mask_in] at f65)
          rw [f65] at e65
          clear f65
          clear hA
          refine ⟨(by rfl), ?_⟩
          go_simp <;> (try with_reducible rfl)
        refine Rel7.Chain.det ?_ (by rfl) (fun T xs wr hA => ?_) ?_
        rotate_left 1
        · have e66 := hA.tm 12 66 (by rfl) (by rfl)
          have f66 : xs 12 = _ := hA.fa 12 (by rfl)
          (try simp (disch := first | rfl | decide) only [Rel7.mask_in] at f66)
          rw [f66] at e66
          clear f66
          have hBq : wr.heap[kp]? = _ := (hA.bl _ hlt_p (fun q h => absurd h (Nat.not_lt_zero _))).trans HBp.out
          have q0 := cell_at (v := .slice (some ⟨qb, 0, none⟩) qn qc) hBq 0 rfl
          have q1 := cell_at (v := .int .i64 (qi : Nat)) hBq 1 rfl
          have q2 := cell_at (v := .int .i64 (y.2.fin.bad : Nat)) hBq 2 rfl
          have q3 := cell_at (v := .int .i64 (y.2.fin.pl.kind : Nat)) hBq 3 rfl
          have q4 := cell_at (v := .string ⟨y.2.fin.pl.text.toArray⟩) hBq 4 rfl
          have q5 := cell_at (v := .int .i64 (y.2.fin.pl.line : Nat)) hBq 5 rfl
          have q6 := cell_at (v := .int .i64 (y.2.fin.pl.col : Nat)) hBq 6 rfl
          clear hBq
          clear hA
          refine ⟨(by rfl), ?_⟩
          go_simp <;> (try with_reducible rfl)
        refine Rel7.Chain.det ?_ (by rfl) (fun T xs wr hA => ?_) ?_
        rotate_left 1
        · clear hA
          refine ⟨(by rfl), ?_⟩
          go_simp <;> (try with_reducible rfl)
        refine Rel7.Chain.det ?_ (by rfl) (fun T xs wr hA => ?_) ?_
        rotate_left 1
        · have e57 := hA.tm 3 57 (by rfl) (by rfl)
          have f57 : xs 3 = _ := hA.fa 3 (by rfl)
          (try simp (disch := first | rfl | decide) only [Rel7.mask_in] at f57)
          rw [f57] at e57
          clear f57
          clear hA
          refine ⟨(by rfl), ?_⟩
          go_simp <;> (try with_reducible rfl)
        refine Rel7.Chain.det ?_ (by rfl) (fun T xs wr hA => ?_) ?_
        rotate_left 1
        · have e62 := hA.tm 8 62 (by rfl) (by rfl)
          have f62 : xs 8 = _ := hA.fa 8 (by rfl)
          (try simp (disch := first | rfl | decide) only [Rel7.mask_in] at f62)
          rw [f62] at e62
          clear f62
          clear hA
          refine ⟨(by rfl), ?_⟩
          go_simp <;> (try with_reducible rfl)
        refine Rel7.Chain.det ?_ (by rfl) (fun T xs wr hA => ?_) ?_
        rotate_left 1
        · have e67 := hA.tm 13 67 (by rfl) (by rfl)
          have f67 : xs 13 = _ := hA.fa 13 (by rfl)
          (try simp (disch := first | rfl | decide) only [Rel7.mask_in] at f67)
          rw [f67] at e67
          clear f67
          clear hA
          refine ⟨(by rfl), ?_⟩
          go_simp <;> (try with_reducible rfl)
        refine Rel7.Chain.done (fun xs w1 hL => ?_)
        obtain ⟨⟨hbe, hbl⟩, hf, -, -⟩ := hL
        have f0 : xs 0 = _ := hf 0 (by decide)
        (try simp (disch := first | rfl | decide) only [Rel7.mask_in] at f0)
        have f1 : xs 1 = _ := hf 1 (by decide)
        (try simp (disch := first | rfl | decide) only [Rel7.mask_in] at f1)
        have f2 : xs 2 = _ := hf 2 (by decide)
        (try simp (disch := first | rfl | decide) only [Rel7.mask_in] at f2)
        have f3 : xs 3 = _ := hf 3 (by decide)
        (try simp (disch := first | rfl | decide) only [Rel7.mask_in] at f3)
        have f4 : xs 4 = _ := hf 4 (by decide)
        (try simp (disch := first | rfl | decide) only [Rel7.mask_in] at f4)
        have f5 : xs 5 = _ := hf 5 (by decide)
        (try simp (disch := first | rfl | decide) only [Rel7.mask_in] at f5)
        have f6 : xs 6 = _ := hf 6 (by decide)
        (try simp (disch := first | rfl | decide) only [Rel7.mask_in] at f6)
        have f7 : xs 7 = _ := hf 7 (by decide)
        (try simp (disch := first | rfl | decide) only [Rel7.mask_in] at f7)
        have f8 : xs 8 = _ := hf 8 (by decide)
        (try simp (disch := first | rfl | decide) only [Rel7.mask_in] at f8)
        have f9 : xs 9 = _ := hf 9 (by decide)
        (try simp (disch := first | rfl | decide) only [Rel7.mask_in] at f9)
        have f10 : xs 10 = _ := hf 10 (by decide)
        (try simp (disch := first | rfl | decide) only [Rel7.mask_in] at f10)
        have f11 : xs 11 = _ := hf 11 (by decide)
        (try simp (disch := first | rfl | decide) only [Rel7.mask_in] at f11)
        have f12 : xs 12 = _ := hf 12 (by decide)
        (try simp (disch := first | rfl | decide) only [Rel7.mask_in] at f12)
        have f13 : xs 13 = _ := hf 13 (by decide)
        (try simp (disch := first | rfl | decide) only [Rel7.mask_in] at f13)
        have f14 : xs 14 = _ := hf 14 (by decide)
        (try simp (disch := first | rfl | decide) only [Rel7.mask_in] at f14)
        have f15 : xs 15 = _ := hf 15 (by decide)
        (try simp (disch := first | rfl | decide) only [Rel7.mask_in] at f15)
        have f16 : xs 16 = _ := hf 16 (by decide)
        (try simp (disch := first | rfl | decide) only [Rel7.mask_in] at f16)
        have f17 : xs 17 = _ := hf 17 (by decide)
        (try simp (disch := first | rfl | decide) only [Rel7.mask_in] at f17)
        have hb0 : Below 0 w6 w1 := undrew (hbe 0 (Nat.zero_le _) (fun _ _ => Nat.zero_le _))
        have hgr : ∀ j, j < w6.heap.size → (∀ q, q < 0 → (fun q => 0) q ≠ j) → w1.heap[j]? = w6.heap[j]? := hbl
        clear hbe hbl hf
        have hb : Below w6.heap.size w6 w1 := ⟨hb0.os, hb0.tape, hb0.output, hb0.size, fun q hq => hgr q hq (fun q h => absurd h (Nat.not_lt_zero _))⟩
        refine Rel7.rest_done ?_
        simp only [Rel7.fill, List.setIfInBounds_toArray, List.set_cons_zero, List.set_cons_succ, f0, f1, f2, f3, f4, f5, f6, f7, f8, f9, f10, f11, f12, f13, f14, f15, f16, f17]
        go_wp2_with fail
        refine bodyPost_ret (v := .tuple #[.string ⟨#[]⟩, .int .i64 (y.2.fin.bad : Nat), .int .i64 (y.2.fin.pl.line : Nat), .int .i64 (y.2.fin.pl.col : Nat)]) (by simp [results, Tryz.results12, go_sem]) rfl ⟨?_, HB3.out.trans (hb.mono HB3.out.size)⟩
        rw [HV.out, if_pos (by rw [HBD.out]; decide)]
    · have HF : Hid (y.2.fin = y.2) := Lib.hid (by unfold RS.fin; rw [if_neg (fun h => hb0 h.1)])
      have hb' : (((y.2.bad : Nat) : Int) == 0) = false := by rw [beq_eq_false_iff_ne]; omega
      have HBN := Lib.hid hb0
      clear hb0
      go_upto_region 10 with fail
      clear p2 hb'
      obtain ⟨qb, qi, qn, qc, q1, -⟩ := HP.out
      have HBp := Lib.hid q1
      clear q1
      have hlt_p := lt_of_block HBp.out
      have hog : ∀ q, q < 0 → (fun q => 0) q < w3.heap.size := fun q h => absurd h (Nat.not_lt_zero _)
      refine Rel7.region (by kernel_rfl) [[], [0], [0, 1], [0, 1, 2], [], [4], [4, 5], [4, 5, 6], [4, 5, 6, 7], [], [9], [9, 10], [9, 10, 11], [9, 10, 11, 12], [], [0, 1, 2, 3, 14], [0, 1, 2, 3, 4, 5, 6, 7, 8, 14, 15], [0, 1, 2, 3, 4, 5, 6, 7, 8, 9, 10, 11, 12, 13, 14, 15, 16]] [] [] (fun q => 0) 0 18 (by kernel_rfl) (by kernel_rfl) (by rfl) hog (fun q q' h h' hn => absurd hn (by omega)) ?_
      refine Rel7.Chain.det ?_ (by rfl) (fun T xs wr hA => ?_) ?_
      rotate_left 1
      · have e9 := hA.pre 9 (by kernel_rfl)
        simp only [List.getElem?_toArray, List.getElem?_cons_succ, List.getElem?_cons_zero] at e9
        clear hA
        refine ⟨(by rfl), ?_⟩
        go_simp <;> (try with_reducible rfl)
      refine Rel7.Chain.det ?_ (by rfl) (fun T xs wr hA => ?_) ?_
      rotate_left 1
      · have e54 := hA.tm 0 54 (by rfl) (by rfl)
        have f54 : xs 0 = _ := hA.fa 0 (by rfl)
        (try simp (disch := first | rfl | decide) only [Rel7.mask_in] at f54)
        rw [f54] at e54
        clear f54
        clear hA
        refine ⟨(by rfl), ?_⟩
        go_simp <;> (try with_reducible rfl)
      refine Rel7.Chain.det ?_ (by rfl) (fun T xs wr hA => ?_) ?_
      rotate_left 1
      · have e55 := hA.tm 1 55 (by rfl) (by rfl)
        have f55 : xs 1 = _ := hA.fa 1 (by rfl)
        (try simp (disch := first | rfl | decide) only [Rel7.mask_in] at f55)
        rw [f55] at e55
        clear f55
        clear hA
        refine ⟨(by rfl), ?_⟩
        go_simp <;> (try with_reducible rfl)
      refine Rel7.Chain.det ?_ (by rfl) (fun T xs wr hA => ?_) ?_
      rotate_left 1
      · have e56 := hA.tm 2 56 (by rfl) (by rfl)
        have f56 : xs 2 = _ := hA.fa 2 (by rfl)
        (try simp (disch := first | rfl | decide) only [Rel7.mask_in] at f56)
        rw [f56] at e56
        clear f56
        have hBq : wr.heap[kp]? = _ := (hA.bl _ hlt_p (fun q h => absurd h (Nat.not_lt_zero _))).trans HBp.out
        have q0 := cell_at (v := .slice (some ⟨qb, 0, none⟩) qn qc) hBq 0 rfl
        have q1 := cell_at (v := .int .i64 (qi : Nat)) hBq 1 rfl
        have q2 := cell_at (v := .int .i64 (y.2.bad : Nat)) hBq 2 rfl
        have q3 := cell_at (v := .int .i64 (y.2.pl.kind : Nat)) hBq 3 rfl
        have q4 := cell_at (v := .string ⟨y.2.pl.text.toArray⟩) hBq 4 rfl
        have q5 := cell_at (v := .int .i64 (y.2.pl.line : Nat)) hBq 5 rfl
        have q6 := cell_at (v := .int .i64 (y.2.pl.col : Nat)) hBq 6 rfl
        clear hBq
        clear hA
        refine ⟨(by rfl), ?_⟩
        go_simp <;> (try with_reducible rfl)
      refine Rel7.Chain.det ?_ (by rfl) (fun T xs wr hA => ?_) ?_
      rotate_left 1
      · have e9 := hA.pre 9 (by kernel_rfl)
        simp only [List.getElem?_toArray, List.getElem?_cons_succ, List.getElem?_cons_zero] at e9
        clear hA
        refine ⟨(by rfl), ?_⟩
        go_simp <;> (try with_reducible rfl)
      refine Rel7.Chain.det ?_ (by rfl) (fun T xs wr hA => ?_) ?_
      rotate_left 1
      · have e58 := hA.tm 4 58 (by rfl) (by rfl)
        have f58 : xs 4 = _ := hA.fa 4 (by rfl)
        (try simp (disch := first | rfl | decide) only [Rel7.mask_in] at f58)
        rw [f58] at e58
        clear f58
        clear hA
        refine ⟨(by rfl), ?_⟩
        go_simp <;> (try with_reducible rfl)
      refine Rel7.Chain.det ?_ (by rfl) (fun T xs wr hA => ?_) ?_
      rotate_left 1
      · have e59 := hA.tm 5 59 (by rfl) (by rfl)
        have f59 : xs 5 = _ := hA.fa 5 (by rfl)
        (try simp (disch := first | rfl | decide) only [Rel7.mask_in] at f59)
        rw [f59] at e59
        clear f59
        clear hA
        refine ⟨(by rfl), ?_⟩
        go_simp <;> (try with_reducible rfl)
      refine Rel7.Chain.det ?_ (by rfl) (fun T xs wr hA => ?_) ?_
      rotate_left 1
      · have e60 := hA.tm 6 60 (by rfl) (by rfl)
        have f60 : xs 6 = _ := hA.fa 6 (by rfl)
        (try simp (disch := first | rfl | decide) only [Rel7.mask_in] at f60)
        rw [f60] at e60
        clear f60
        clear hA
        refine ⟨(by rfl), ?_⟩
        go_simp <;> (try with_reducible rfl)
      refine Rel7.Chain.det ?_ (by rfl) (fun T xs wr hA => ?_) ?_
      rotate_left 1
      · have e61 := hA.tm 7 61 (by rfl) (by rfl)
        have f61 : xs 7 = _ := hA.fa 7 (by rfl)
        (try simp (disch := first | rfl | decide) only [Rel7.mask_in] at f61)
        rw [f61] at e61
        clear f61
        have hBq : wr.heap[kp]? = _ := (hA.bl _ hlt_p (fun q h => absurd h (Nat.not_lt_zero _))).trans HBp.out
        have q0 := cell_at (v := .slice (some ⟨qb, 0, none⟩) qn qc) hBq 0 rfl
        have q1 := cell_at (v := .int .i64 (qi : Nat)) hBq 1 rfl
        have q2 := cell_at (v := .int .i64 (y.2.bad : Nat)) hBq 2 rfl
        have q3 := cell_at (v := .int .i64 (y.2.pl.kind : Nat)) hBq 3 rfl
        have q4 := cell_at (v := .string ⟨y.2.pl.text.toArray⟩) hBq 4 rfl
        have q5 := cell_at (v := .int .i64 (y.2.pl.line : Nat)) hBq 5 rfl
        have q6 := cell_at (v := .int .i64 (y.2.pl.col : Nat)) hBq 6 rfl
        clear hBq
        clear hA
        refine ⟨(by rfl), ?_⟩
        go_simp <;> (try with_reducible rfl)
      refine Rel7.Chain.det ?_ (by rfl) (fun T xs wr hA => ?_) ?_
      rotate_left 1
      · have e9 := hA.pre 9 (by kernel_rfl)
        simp only [List.getElem?_toArray, List.getElem?_cons_succ, List.getElem?_cons_zero] at e9
        clear hA
        refine ⟨(by rfl), ?_⟩
        go_simp <;> (try with_reducible rfl)
      refine Rel7.Chain.det ?_ (by rfl) (fun T xs wr hA => ?_) ?_
      rotate_left 1
      · have e63 := hA.tm 9 63 (by rfl) (by rfl)
        have f63 : xs 9 = _ := hA.fa 9 (by rfl)
        (try simp (disch := first | rfl | decide) only [Rel7.mask_in] at f63)
        rw [f63] at e63
        clear f63
        clear hA
        refine ⟨(by rfl), ?_⟩
        go_simp <;> (try with_reducible rfl)
      refine Rel7.Chain.det ?_ (by rfl) (fun T xs wr hA => ?_) ?_
      rotate_left 1
      · have e64 := hA.tm 10 64 (by rfl) (by rfl)
        have f64 : xs 10 = _ := hA.fa 10 (by rfl)
        (try simp (disch := first | rfl | decide) only [Rel7.mask_in] at f64)
        rw [f64] at e64
        clear f64
        clear hA
        refine ⟨(by rfl), ?_⟩
        go_simp <;> (try with_reducible rfl)
      refine Rel7.Chain.det ?_ (by rfl) (fun T xs wr hA => ?_) ?_
      rotate_left 1
      · have e65 := hA.tm 11 65 (by rfl) (by rfl)
        have f65 : xs 11 = _ := hA.fa 11 (by rfl)
        (try simp (disch := first | rfl | decide) only [Rel7.mask_in] at f65)
        rw [f65] at e65
        clear f65
        clear hA
        refine ⟨(by rfl), ?_⟩
        go_simp <;> (try with_reducible rfl)
      refine Rel7.Chain.det ?_ (by rfl) (fun T xs wr hA => ?_) ?_
      rotate_left 1
      · have e66 := hA.tm 12 66 (by rfl) (by rfl)
        have f66 : xs 12 = _ := hA.fa 12 (by rfl)
        (try simp (disch := first | rfl | decide) only [Rel7.mask_in] at f66)
        rw [f66] at e66
        clear f66
        have hBq : wr.heap[kp]? = _ := (hA.bl _ hlt_p (fun q h => absurd h (Nat.not_lt_zero _))).trans HBp.out
        have q0 := cell_at (v := .slice (some ⟨qb, 0, none⟩) qn qc) hBq 0 rfl
        have q1 := cell_at (v := .int .i64 (qi : Nat)) hBq 1 rfl
        have q2 := cell_at (v := .int .i64 (y.2.bad : Nat)) hBq 2 rfl
        have q3 := cell_at (v := .int .i64 (y.2.pl.kind : Nat)) hBq 3 rfl
        have q4 := cell_at (v := .string ⟨y.2.pl.text.toArray⟩) hBq 4 rfl
        have q5 := cell_at (v := .int .i64 (y.2.pl.line : Nat)) hBq 5 rfl
        have q6 := cell_at (v := .int .i64 (y.2.pl.col : Nat)) hBq 6 rfl
        clear hBq
        clear hA
        refine ⟨(by rfl), ?_⟩
        go_simp <;> (try with_reducible rfl)
      refine Rel7.Chain.det ?_ (by rfl) (fun T xs wr hA => ?_) ?_
      rotate_left 1
      · clear hA
        refine ⟨(by rfl), ?_⟩
        go_simp <;> (try with_reducible rfl)
      refine Rel7.Chain.det ?_ (by rfl) (fun T xs wr hA => ?_) ?_
      rotate_left 1
      · have e57 := hA.tm 3 57 (by rfl) (by rfl)
        have f57 : xs 3 = _ := hA.fa 3 (by rfl)
        (try simp (disch := first | rfl | decide) only [Rel7.mask_in] at f57)
        rw [f57] at e57
        clear f57
        clear hA
        refine ⟨(by rfl), ?_⟩
        go_simp <;> (try with_reducible rfl)
      refine Rel7.Chain.det ?_ (by rfl) (fun T xs wr hA => ?_) ?_
      rotate_left 1
      · have e62 := hA.tm 8 62 (by rfl) (by rfl)
        have f62 : xs 8 = _ := hA.fa 8 (by rfl)
        (try simp (disch := first | rfl | decide) only [Rel7.mask_in] at f62)
        rw [f62] at e62
        clear f62
        clear hA
        refine ⟨(by rfl), ?_⟩
        go_simp <;> (try with_reducible rfl)
      refine Rel7.Chain.det ?_ (by rfl) (fun T xs wr hA => ?_) ?_
      rotate_left 1
      · have e67 := hA.tm 13 67 (by rfl) (by rfl)
        have f67 : xs 13 = _ := hA.fa 13 (by rfl)
        (try simp (disch := first | rfl | decide) only [Rel7.mask_in] at f67)
        rw [f67] at e67
        clear f67
        clear hA
        refine ⟨(by rfl), ?_⟩
        go_simp <;> (try with_reducible rfl)
      refine Rel7.Chain.done (fun xs w1 hL => ?_)
      obtain ⟨⟨hbe, hbl⟩, hf, -, -⟩ := hL
      have f0 : xs 0 = _ := hf 0 (by decide)
      (try simp (disch := first | rfl | decide) only [Rel7.mask_in] at f0)
      have f1 : xs 1 = _ := hf 1 (by decide)
      (try simp (disch := first | rfl | decide) only [Rel7.mask_in] at f1)
      have f2 : xs 2 = _ := hf 2 (by decide)
      (try simp (disch := first | rfl | decide) only [Rel7.mask_in] at f2)
      have f3 : xs 3 = _ := hf 3 (by decide)
      (try simp (disch := first | rfl | decide) only [Rel7.mask_in] at f3)
      have f4 : xs 4 = _ := hf 4 (by decide)
      (try simp (disch := first | rfl | decide) only [Rel7.mask_in] at f4)
      have f5 : xs 5 = _ := hf 5 (by decide)
      (try simp (disch := first | rfl | decide) only [Rel7.mask_in] at f5)
      have f6 : xs 6 = _ := hf 6 (by decide)
      (try simp (disch := first | rfl | decide) only [Rel7.mask_in] at f6)
      have f7 : xs 7 = _ := hf 7 (by decide)
      (try simp (disch := first | rfl | decide) only [Rel7.mask_in] at f7)
      have f8 : xs 8 = _ := hf 8 (by decide)
      (try simp (disch := first | rfl | decide) only [Rel7.mask_in] at f8)
      have f9 : xs 9 = _ := hf 9 (by decide)
      (try simp (disch := first | rfl | decide) only [Rel7.mask_in] at f9)
      have f10 : xs 10 = _ := hf 10 (by decide)
      (try simp (disch := first | rfl | decide) only [Rel7.mask_in] at f10)
      have f11 : xs 11 = _ := hf 11 (by decide)
      (try simp (disch := first | rfl | decide) only [Rel7.mask_in] at f11)
      have f12 : xs 12 = _ := hf 12 (by decide)
      (try simp (disch := first | rfl | decide) only [Rel7.mask_in] at f12)
      have f13 : xs 13 = _ := hf 13 (by decide)
      (try simp (disch := first | rfl | decide) only [Rel7.mask_in] at f13)
      have f14 : xs 14 = _ := hf 14 (by decide)
      (try simp (disch := first | rfl | decide) only [Rel7.mask_in] at f14)
      have f15 : xs 15 = _ := hf 15 (by decide)
      (try simp (disch := first | rfl | decide) only [Rel7.mask_in] at f15)
      have f16 : xs 16 = _ := hf 16 (by decide)
      (try simp (disch := first | rfl | decide) only [Rel7.mask_in] at f16)
      have f17 : xs 17 = _ := hf 17 (by decide)
      (try simp (disch := first | rfl | decide) only [Rel7.mask_in] at f17)
      have hb0 : Below 0 w3 w1 := undrew (hbe 0 (Nat.zero_le _) (fun _ _ => Nat.zero_le _))
      have hgr : ∀ j, j < w3.heap.size → (∀ q, q < 0 → (fun q => 0) q ≠ j) → w1.heap[j]? = w3.heap[j]? := hbl
      clear hbe hbl hf
      have hb : Below w3.heap.size w3 w1 := ⟨hb0.os, hb0.tape, hb0.output, hb0.size, fun q hq => hgr q hq (fun q h => absurd h (Nat.not_lt_zero _))⟩
      refine Rel7.rest_done ?_
      simp only [Rel7.fill, List.setIfInBounds_toArray, List.set_cons_zero, List.set_cons_succ, f0, f1, f2, f3, f4, f5, f6, f7, f8, f9, f10, f11, f12, f13, f14, f15, f16, f17]
      go_wp2_with fail
      refine bodyPost_ret (v := .tuple #[.string ⟨#[]⟩, .int .i64 (y.2.bad : Nat), .int .i64 (y.2.pl.line : Nat), .int .i64 (y.2.pl.col : Nat)]) (by simp [results, Tryz.results12, go_sem]) rfl ⟨?_, HB3.out.trans (hb.mono HB3.out.size)⟩
      rw [HV.out, HF.out, if_pos HBN.out]
  · have HV : Hid (rexV l y = .tuple #[.string ⟨#[]⟩, .int .i64 ((lexS l (1, 1)).2 : Nat), .int .i64 ((((lexS l (1, 1)).1.getLast?).getD tk0).line : Nat), .int .i64 ((((lexS l (1, 1)).1.getLast?).getD tk0).col : Nat)]) := Lib.hid (by unfold rexV; rw [if_pos hz])
    have hz' : ((((lexS l (1, 1)).2 : Nat) : Int) == 0) = false := by rw [beq_eq_false_iff_ne]; omega
    have hpos := List.length_pos_iff.2 hne
    have hg := h5 ((lexS l (1, 1)).1.length - 1) (by omega)
    have hlast : ((lexS l (1, 1)).1.getLast?).getD tk0 = (lexS l (1, 1)).1[(lexS l (1, 1)).1.length - 1]'(by omega) := by rw [List.getLast?_eq_getElem?, List.getElem?_eq_getElem (by omega)]; rfl
    rw [hlast] at HV
    generalize (lexS l (1, 1)).1[(lexS l (1, 1)).1.length - 1]'(by omega) = t at *
    clear h5 hlast HTD HC HGL hne
    generalize (lexS l (1, 1)).1.length = nn at *
    obtain ⟨c0, c1, c2, c3⟩ := hg
    have hi1 : IntKind.i64.wrap ((nn : Int) - 1) = (nn : Int) - 1 := IntWalk.i64_in _ (by omega)
    have hi2 : (1 : Int) ≤ (nn : Int) := by omega
    have hi3 : ((nn : Int) - 1).toNat = nn - 1 := by omega
    have hi4 : (nn : Int) - 1 < (nn : Int) := by omega
    have hi5 : nn - 1 < nn := by omega
    go_upto_region 4 with fail
    obtain ⟨w2, hw⟩ : ∃ x, x = w1.alloc (.cells #[.int .i64 (t.kind : Nat), .string ⟨t.text.toArray⟩, .int .i64 (t.line : Nat), .int .i64 (t.col : Nat)] 60) := ⟨_, rfl⟩
    have hb : Below w1.heap.size w1 w2 := by rw [hw]; exact (Below.refl _ _).alloc (Nat.le_refl _) _
    have hk : w2.heap[w1.heap.size]? = some (.cells #[.int .i64 (t.kind : Nat), .string ⟨t.text.toArray⟩, .int .i64 (t.line : Nat), .int .i64 (t.col : Nat)] 60 (0, 0)) := by rw [hw]; exact made_at w1 _ _ rfl
    rw [← hw]
    obtain ⟨kt, hkk⟩ : ∃ k, k = w1.heap.size := ⟨_, rfl⟩
    rw [← hkk] at hk ⊢
    have HBt := Lib.hid hk
    have HB2 := Lib.hid (HB.out.trans (hb.mono HB.out.size))
    clear hw hb hk hkk c0 c1 c2 c3 hi1 hi2 hi3 hi4 hi5 hz'
    have hlt_t := lt_of_block HBt.out
    have hog : ∀ q, q < 0 → (fun q => 0) q < w2.heap.size := fun q h => absurd h (Nat.not_lt_zero _)
    refine Rel7.region (by kernel_rfl) [[], [], [1], [], [3], [], [0, 5], [0, 1, 2, 5, 6], [0, 1, 2, 3, 4, 5, 6, 7]] [] [] (fun q => 0) 0 9 (by kernel_rfl) (by kernel_rfl) (by rfl) hog (fun q q' h h' hn => absurd hn (by omega)) ?_
    refine Rel7.Chain.det ?_ (by rfl) (fun T xs wr hA => ?_) ?_
    rotate_left 1
    · have e7 := hA.pre 7 (by kernel_rfl)
      simp only [List.getElem?_toArray, List.getElem?_cons_succ, List.getElem?_cons_zero] at e7
      clear hA
      refine ⟨(by rfl), ?_⟩
      go_simp <;> (try with_reducible rfl)
    refine Rel7.Chain.det ?_ (by rfl) (fun T xs wr hA => ?_) ?_
    rotate_left 1
    · have e8 := hA.pre 8 (by kernel_rfl)
      simp only [List.getElem?_toArray, List.getElem?_cons_succ, List.getElem?_cons_zero] at e8
      clear hA
      refine ⟨(by rfl), ?_⟩
      go_simp <;> (try with_reducible rfl)
    refine Rel7.Chain.det ?_ (by rfl) (fun T xs wr hA => ?_) ?_
    rotate_left 1
    · have e25 := hA.tm 1 25 (by rfl) (by rfl)
      have f25 : xs 1 = _ := hA.fa 1 (by rfl)
      (try simp (disch := first | rfl | decide) only [Rel7.mask_in] at f25)
      rw [f25] at e25
      clear f25
      have hBq : wr.heap[kt]? = _ := (hA.bl _ hlt_t (fun q h => absurd h (Nat.not_lt_zero _))).trans HBt.out
      have q0 := cell_at (v := .int .i64 (t.kind : Nat)) hBq 0 rfl
      have q1 := cell_at (v := .string ⟨t.text.toArray⟩) hBq 1 rfl
      have q2 := cell_at (v := .int .i64 (t.line : Nat)) hBq 2 rfl
      have q3 := cell_at (v := .int .i64 (t.col : Nat)) hBq 3 rfl
      clear hBq
      clear hA
      refine ⟨(by rfl), ?_⟩
      go_simp <;> (try with_reducible rfl)
    refine Rel7.Chain.det ?_ (by rfl) (fun T xs wr hA => ?_) ?_
    rotate_left 1
    · have e8 := hA.pre 8 (by kernel_rfl)
      simp only [List.getElem?_toArray, List.getElem?_cons_succ, List.getElem?_cons_zero] at e8
      clear hA
      refine ⟨(by rfl), ?_⟩
      go_simp <;> (try with_reducible rfl)
    refine Rel7.Chain.det ?_ (by rfl) (fun T xs wr hA => ?_) ?_
    rotate_left 1
    · have e27 := hA.tm 3 27 (by rfl) (by rfl)
      have f27 : xs 3 = _ := hA.fa 3 (by rfl)
      (try simp (disch := first | rfl | decide) only [Rel7.mask_in] at f27)
      rw [f27] at e27
      clear f27
      have hBq : wr.heap[kt]? = _ := (hA.bl _ hlt_t (fun q h => absurd h (Nat.not_lt_zero _))).trans HBt.out
      have q0 := cell_at (v := .int .i64 (t.kind : Nat)) hBq 0 rfl
      have q1 := cell_at (v := .string ⟨t.text.toArray⟩) hBq 1 rfl
      have q2 := cell_at (v := .int .i64 (t.line : Nat)) hBq 2 rfl
      have q3 := cell_at (v := .int .i64 (t.col : Nat)) hBq 3 rfl
      clear hBq
      clear hA
      refine ⟨(by rfl), ?_⟩
      go_simp <;> (try with_reducible rfl)
    refine Rel7.Chain.det ?_ (by rfl) (fun T xs wr hA => ?_) ?_
    rotate_left 1
    · clear hA
      refine ⟨(by rfl), ?_⟩
      go_simp <;> (try with_reducible rfl)
    refine Rel7.Chain.det ?_ (by rfl) (fun T xs wr hA => ?_) ?_
    rotate_left 1
    · have e24 := hA.tm 0 24 (by rfl) (by rfl)
      have f24 : xs 0 = _ := hA.fa 0 (by rfl)
      (try simp (disch := first | rfl | decide) only [Rel7.mask_in] at f24)
      rw [f24] at e24
      clear f24
      clear hA
      refine ⟨(by rfl), ?_⟩
      go_simp <;> (try with_reducible rfl)
    refine Rel7.Chain.det ?_ (by rfl) (fun T xs wr hA => ?_) ?_
    rotate_left 1
    · have e26 := hA.tm 2 26 (by rfl) (by rfl)
      have f26 : xs 2 = _ := hA.fa 2 (by rfl)
      (try simp (disch := first | rfl | decide) only [Rel7.mask_in] at f26)
      rw [f26] at e26
      clear f26
      clear hA
      refine ⟨(by rfl), ?_⟩
      go_simp <;> (try with_reducible rfl)
    refine Rel7.Chain.det ?_ (by rfl) (fun T xs wr hA => ?_) ?_
    rotate_left 1
    · have e28 := hA.tm 4 28 (by rfl) (by rfl)
      have f28 : xs 4 = _ := hA.fa 4 (by rfl)
      (try simp (disch := first | rfl | decide) only [Rel7.mask_in] at f28)
      rw [f28] at e28
      clear f28
      clear hA
      refine ⟨(by rfl), ?_⟩
      go_simp <;> (try with_reducible rfl)
    refine Rel7.Chain.done (fun xs w1 hL => ?_)
    obtain ⟨⟨hbe, hbl⟩, hf, -, -⟩ := hL
    have f0 : xs 0 = _ := hf 0 (by decide)
    (try simp (disch := first | rfl | decide) only [Rel7.mask_in] at f0)
    have f1 : xs 1 = _ := hf 1 (by decide)
    (try simp (disch := first | rfl | decide) only [Rel7.mask_in] at f1)
    have f2 : xs 2 = _ := hf 2 (by decide)
    (try simp (disch := first | rfl | decide) only [Rel7.mask_in] at f2)
    have f3 : xs 3 = _ := hf 3 (by decide)
    (try simp (disch := first | rfl | decide) only [Rel7.mask_in] at f3)
    have f4 : xs 4 = _ := hf 4 (by decide)
    (try simp (disch := first | rfl | decide) only [Rel7.mask_in] at f4)
    have f5 : xs 5 = _ := hf 5 (by decide)
    (try simp (disch := first | rfl | decide) only [Rel7.mask_in] at f5)
    have f6 : xs 6 = _ := hf 6 (by decide)
    (try simp (disch := first | rfl | decide) only [Rel7.mask_in] at f6)
    have f7 : xs 7 = _ := hf 7 (by decide)
    (try simp (disch := first | rfl | decide) only [Rel7.mask_in] at f7)
    have f8 : xs 8 = _ := hf 8 (by decide)
    (try simp (disch := first | rfl | decide) only [Rel7.mask_in] at f8)
    have hb0 : Below 0 w2 w1 := undrew (hbe 0 (Nat.zero_le _) (fun _ _ => Nat.zero_le _))
    have hgr : ∀ j, j < w2.heap.size → (∀ q, q < 0 → (fun q => 0) q ≠ j) → w1.heap[j]? = w2.heap[j]? := hbl
    clear hbe hbl hf
    have hb : Below w2.heap.size w2 w1 := ⟨hb0.os, hb0.tape, hb0.output, hb0.size, fun q hq => hgr q hq (fun q h => absurd h (Nat.not_lt_zero _))⟩
    refine Rel7.rest_done ?_
    simp only [Rel7.fill, List.setIfInBounds_toArray, List.set_cons_zero, List.set_cons_succ, f0, f1, f2, f3, f4, f5, f6, f7, f8]
    go_wp2_with fail
    exact bodyPost_ret (v := .tuple #[.string ⟨#[]⟩, .int .i64 ((lexS l (1, 1)).2 : Nat), .int .i64 (t.line : Nat), .int .i64 (t.col : Nat)]) (by simp [results, Tryz.results12, go_sem]) rfl ⟨by rw [HV.out], HB2.out.trans (hb.mono HB2.out.size)⟩
end Go.Proofs.YtdpfgfkoboihcaaGreatDoor

/-
  The tokens of a source that is not too long have places and texts that are not too great; what both parsers tell of a whole text.
-/
namespace Go.Proofs.YtdpfgfkoboihcaaGreatDoor
set_option maxRecDepth 100000

theorem placed_bd {s : Bs} {p : Nat × Nat} : ∀ {ts : List Tok} {off : Nat}, Placed s p off ts → ∀ t ∈ ts, t.line ≤ p.1 + s.length ∧ t.col ≤ p.2 + 1 + s.length ∧ t.text.length ≤ s.length
  | [], _, _, t, ht => by simp at ht
  | u :: us, off, h, t, ht => by
    obtain ⟨o, h1, h2, h3, h4, h5, h6⟩ := h
    rcases List.mem_cons.1 ht with rfl | ht
    · have := adv_bd p (s.take o)
      rw [h3] at this
      simp only [List.length_take] at this
      omega
    · exact placed_bd h6 t ht
theorem tbd_rs0 (l : Bs) (hl : l.length ≤ 3000) (h0 : (lexS l (1, 1)).2 = 0) : TBd (rs0 l) := fun t ht => by
  have := placed_bd (lex_placed l (1, 1) h0) t ht
  simp only at this
  exact ⟨by omega, by omega, by omega⟩
/-- Both models have an answer to a source without a lexer's fault, and it is the same. -/
theorem both (l : Bs) (hl : l.length ≤ 3000) (h0 : (lexS l (1, 1)).2 = 0) : ∃ x y, cAll 30000 (st0 l) = some x ∧ rAll 40000 (rs0 l) = some y ∧ RR x.2 y.2 (y.1 = frm x.1) := by
  have hg := lex_good l (1, 1) h0
  have hlen := toks_mem hl
  have c1 := (c_tot 30000).1 (st0 l) hg (by show 8 * (lexS l (1, 1)).1.length + 7 ≤ 30000; omega)
  have r1 := (r_tot 40000).1 (rs0 l) ⟨hg, tbd_rs0 l hl h0⟩ (by show 12 * (lexS l (1, 1)).1.length + 9 ≤ 40000; omega)
  obtain ⟨cx, hcx⟩ := Option.isSome_iff_exists.1 c1
  obtain ⟨rx, hrx⟩ := Option.isSome_iff_exists.1 r1
  have hca : cAll 30000 (st0 l) = some (cx.1, if 60 < ud cx.1 then cx.2.fail (st0 l).nx 2 else cx.2) := by unfold cAll; rw [hcx]; rfl
  have hra : rAll 40000 (rs0 l) = some (rx.1.S, if rx.2.bad = 0 ∧ 60 < rx.1.d then rx.2.bd (rs0 l).at' 2 else rx.2) := by unfold rAll; rw [hrx]; rfl
  refine ⟨_, _, hca, hra, ?_⟩
  have hR : RR (st0 l) (rs0 l) True := .inl ⟨⟨rfl, rfl, rfl, hg⟩, trivial⟩
  have := eqv_whole hR hca hra
  rcases this with ⟨h1, h2⟩ | h
  · exact .inl ⟨h1, h2.2⟩
  · exact .inr h
end Go.Proofs.YtdpfgfkoboihcaaGreatDoor

/-
  What is told of a text's end, by both.
-/
namespace Go.Proofs.YtdpfgfkoboihcaaGreatDoor
set_option maxRecDepth 100000
theorem fin_RR {s : St} {r : RS} {F : Prop} (h : RR s r F) : RR s.fin r.fin F := by
  rcases h with ⟨h, hF⟩ | h
  · by_cases hk : s.nx.kind = 4
    · have e1 : s.fin = s := by unfold St.fin; rw [if_pos hk]
      have e2 : r.fin = r := by unfold RS.fin; rw [if_neg (fun h2 => h2.2 (by rw [← h.nx]; exact hk))]
      rw [e1, e2]; exact .inl ⟨h, hF⟩
    · have e1 : s.fin = s.fail s.nx 1 := by unfold St.fin; rw [if_neg hk]
      have e2 : r.fin = r.bd r.at' 1 := by unfold RS.fin; rw [if_pos ⟨h.2.1, by rw [← h.nx]; exact hk⟩]
      rw [e1, e2, ← h.nx]
      obtain ⟨h1, h2, h3, h4⟩ := h
      obtain ⟨e, q1, q2, q3⟩ := h4.last
      refine .inr ⟨⟨(1, s.nx.line, s.nx.col), e, ?_, q1, q2, q3⟩, ?_, ?_⟩
      · unfold St.fail; simp [h1]
      · unfold RS.bd; simp [h2]
      · unfold St.fail RS.bd; simp [h1, h2]
  · obtain ⟨⟨x, e, g1, g2, g3, g4⟩, h2, h3⟩ := h
    have e1 : s.fin = s := by unfold St.fin St.nx; rw [g2]; simp [g3]
    have e2 : r.fin = r := by unfold RS.fin; rw [if_neg (fun h => h2 h.1)]
    rw [e1, e2]
    exact .inr ⟨⟨x, e, g1, g2, g3, g4⟩, h2, h3⟩
/-- What Expr and the reference tell of a source without a lexer's fault. -/
theorem told (l : Bs) (hl : l.length ≤ 3000) (h0 : (lexS l (1, 1)).2 = 0) : ∃ x y, cAll 30000 (st0 l) = some x ∧ rAll 40000 (rs0 l) = some y ∧
    ((exF l x = none ∧ y.2.fin.bad = 0 ∧ y.1 = frm x.1) ∨ (y.2.fin.bad ≠ 0 ∧ exF l x = some (y.2.fin.bad, y.2.fin.pl.line, y.2.fin.pl.col))) := by
  obtain ⟨x, y, h1, h2, h3⟩ := both l hl h0
  refine ⟨x, y, h1, h2, ?_⟩
  have hx : exF l x = x.2.fin.err := by unfold exF lexF; rw [if_pos h0]; rfl
  rw [hx]
  rcases fin_RR h3 with ⟨⟨g1, g2, -, -⟩, hF⟩ | ⟨-, g2, g3⟩
  · exact .inl ⟨g1, g2, hF⟩
  · exact .inr ⟨g2, g3⟩
end Go.Proofs.YtdpfgfkoboihcaaGreatDoor

/-
  Plain mathematics of layer 6: bounds of the trees that package parse makes: kinds, numbers of kids, names, numbers, places. No program, no Go stands here.
-/
namespace Go.Proofs.YtdpfgfkoboihcaaGreatDoor
set_option maxRecDepth 100000

def TBs (s : St) : Prop := ∀ t ∈ s.rest, t.line ≤ 1000000000 ∧ t.col ≤ 1000000000 ∧ t.text.length ≤ 3000
theorem TBs.nx {s : St} (h : TBs s) : s.nx.line ≤ 1000000000 ∧ s.nx.col ≤ 1000000000 ∧ s.nx.text.length ≤ 3000 := by
  unfold St.nx
  obtain ⟨rest, err⟩ := s
  match rest, h with
  | [], _ => simp [tk0]
  | t :: ts, h => exact h t (by simp)
theorem TBs.tk {s : St} (h : TBs s) : TBs s.tk := by unfold St.tk; split; exact h; exact fun t ht => h t (List.mem_of_mem_drop ht)
theorem TBs.fail {s : St} (h : TBs s) (t : Tok) (c : Nat) : TBs (s.fail t c) := fun t ht => h t (List.mem_of_mem_drop ht)
theorem TBs.exp {s : St} (h : TBs s) (w : Bs) : TBs (s.exp w) := by unfold St.exp; split; exact h.tk; exact h.fail _ _
theorem TBs.name {s : St} (h : TBs s) : TBs s.name := by unfold St.name; split; exact h.tk; exact h.tk.fail _ _
/-- The error's number. -/
def E12 (s : St) : Prop := ∀ x, s.err = some x → x.1 = 1 ∨ x.1 = 2
theorem E12.tk {s : St} (h : E12 s) : E12 s.tk := by unfold St.tk; split; exact h; exact h
theorem E12.fail {s : St} (h : E12 s) (t : Tok) {c : Nat} (hc : c = 1 ∨ c = 2) : E12 (s.fail t c) := by
  intro x hx
  unfold St.fail at hx
  simp only at hx
  cases he : s.err with
  | none => rw [he, Option.none_or] at hx; injection hx with hx; subst hx; exact hc
  | some y => rw [he, Option.some_or] at hx; injection hx with hx; subst hx; exact h _ he
theorem E12.exp {s : St} (h : E12 s) (w : Bs) : E12 (s.exp w) := by unfold St.exp; split; exact h.tk; exact h.fail _ (.inl rfl)
theorem E12.name {s : St} (h : E12 s) : E12 s.name := by unfold St.name; split; exact h.tk; exact h.tk.fail _ (.inl rfl)
/-- Tokens as the lexer makes them, of bounded places and texts; an error of one of the two numbers. -/
def GT (s : St) : Prop := GoodL s.rest ∧ TBs s ∧ E12 s
theorem GT.tk {s : St} (h : GT s) : GT s.tk := ⟨good_tk h.1, h.2.1.tk, h.2.2.tk⟩
theorem GT.fail {s : St} (h : GT s) (t : Tok) {c : Nat} (hc : c = 1 ∨ c = 2) : GT (s.fail t c) := ⟨good_fail h.1 t c, h.2.1.fail t c, h.2.2.fail t hc⟩
theorem GT.exp {s : St} (h : GT s) (w : Bs) : GT (s.exp w) := ⟨good_exp h.1 w, h.2.1.exp w, h.2.2.exp w⟩
theorem GT.name {s : St} (h : GT s) : GT s.name := ⟨good_name h.1, h.2.1.name, h.2.2.name⟩
theorem GT.fin {s : St} (h : GT s) : GT s.fin := by unfold St.fin; split; exact h; exact h.fail _ (.inl rfl)
theorem GT.l {s : St} (h : GT s) : s.nx.line ≤ 1000000000 := h.2.1.nx.1
theorem GT.c {s : St} (h : GT s) : s.nx.col ≤ 1000000000 := h.2.1.nx.2.1
theorem GT.t {s : St} (h : GT s) : s.nx.text.length ≤ 3000 := h.2.1.nx.2.2

def Zb (z : Nat) : Prop := ∃ m, m ≤ 300 ∧ z < L32 ^ m
theorem zb_zero : Zb 0 := ⟨0, by decide, by decide⟩
theorem zb_dn {l : Bs} (h : Numeral l) : Zb (dn l) := ⟨l.length, h.2.1, Nat.lt_of_lt_of_le (dn_lt h.2.2.2) (Nat.pow_le_pow_left (by decide) _)⟩

mutual
/-- A tree of right parts, with names, numbers and places of bounded size. -/
def Bnd : U → Prop
  | .node k nm ot z ln cl ks => (k < 29 ∧ (k = 24 ∨ ks.length = ar k)) ∧ (nm.length ≤ 3000 ∧ ot.length ≤ 3000 ∧ Zb z) ∧ (ln ≤ 1000000000 ∧ cl ≤ 1000000000) ∧ Bnds ks
def Bnds : List U → Prop
  | [] => True
  | u :: us => Bnd u ∧ Bnds us
end
theorem bnds_mem {us : List U} (h : Bnds us) {u : U} (hu : u ∈ us) : Bnd u := by
  induction us with
  | nil => simp at hu
  | cons v us ih =>
    rw [Bnds] at h
    rcases List.mem_cons.1 hu with rfl | hu
    · exact h.1
    · exact ih h.2 hu
theorem bnds_app {a b : List U} (ha : Bnds a) (hb : Bnds b) : Bnds (a ++ b) := by
  induction a with
  | nil => exact hb
  | cons u a ih => rw [Bnds] at ha; rw [List.cons_append, Bnds]; exact ⟨ha.1, ih ha.2⟩
theorem bnd_u0 : Bnd u0 := by unfold u0; rw [Bnd]; exact ⟨⟨by decide, .inr rfl⟩, ⟨by decide, by decide, zb_zero⟩, ⟨by decide, by decide⟩, by rw [Bnds]; trivial⟩
theorem bnd_prt {k : Nat} {s : St} {ks : List U} (h : GT s) (hk : k < 29) (ha : k = 24 ∨ ks.length = ar k) (hs : Bnds ks) : Bnd (prt k s.nx ks) := by
  unfold prt; rw [Bnd]; exact ⟨⟨hk, ha⟩, ⟨by decide, by decide, zb_zero⟩, ⟨h.l, h.c⟩, hs⟩
theorem bnd_nmd {k : Nat} {s : St} {ks : List U} (h : GT s) (hk : k < 29) (ha : k = 24 ∨ ks.length = ar k) (hs : Bnds ks) : Bnd (nmd k s.nx ks) := by
  unfold nmd; rw [Bnd]; exact ⟨⟨hk, ha⟩, ⟨h.t, by decide, zb_zero⟩, ⟨h.l, h.c⟩, hs⟩
theorem bnds0 : Bnds [] := by rw [Bnds]; trivial
theorem bnds1 {a : U} (h : Bnd a) : Bnds [a] := by rw [Bnds]; exact ⟨h, bnds0⟩
theorem bnds2 {a b : U} (h : Bnd a) (k : Bnd b) : Bnds [a, b] := by rw [Bnds]; exact ⟨h, bnds1 k⟩
theorem bnds3 {a b c : U} (h : Bnd a) (k : Bnd b) (l : Bnd c) : Bnds [a, b, c] := by rw [Bnds]; exact ⟨h, bnds2 k l⟩
theorem bop_ar {w : Bs} {op : Bop} (h : bopOf w = some op) : op.kind < 29 ∧ 2 = ar op.kind :=
  (show ∀ op ∈ bops, op.kind < 29 ∧ 2 = ar op.kind by decide) op (List.mem_of_find?_eq_some h)
theorem un_ar {w : Bs} {k : Nat} (h : unOf w = some k) : k < 29 ∧ 1 = ar k := by
  unfold unOf at h
  split at h; (injection h with h; subst h; decide)
  split at h; (injection h with h; subst h; decide)
  split at h; (injection h with h; subst h; decide)
  split at h; (injection h with h; subst h; decide)
  split at h; (injection h with h; subst h; decide)
  cases h
abbrev BG (x : U × St) : Prop := Bnd x.1 ∧ GT x.2
theorem c_bnd (n : Nat) : (∀ s x, GT s → cExpr n s = some x → BG x) ∧ (∀ s x, GT s → cLet n s = some x → BG x) ∧ (∀ s x, GT s → cIf n s = some x → BG x) ∧ (∀ s x, GT s → cMatch n s = some x → BG x) ∧ (∀ s x, GT s → cAssert n s = some x → BG x) ∧
    (∀ l s x, GT s → cBin n l s = some x → BG x) ∧ (∀ l e v s x, GT s → Bnd e → cLoop n l e v s = some x → BG x) ∧ (∀ s x, GT s → cOne n s = some x → BG x) ∧ (∀ s x, GT s → cAtom n s = some x → BG x) ∧ (∀ s x, GT s → cArgs n s = some x → Bnds x.1 ∧ GT x.2) ∧ (∀ l s x, GT s → Bnds l → cMore n l s = some x → Bnds x.1 ∧ GT x.2) := by
  induction n with
  | zero => refine ⟨?_, ?_, ?_, ?_, ?_, ?_, ?_, ?_, ?_, ?_, ?_⟩ <;> intros <;> simp_all [cExpr, cLet, cIf, cMatch, cAssert, cBin, cLoop, cOne, cAtom, cArgs, cMore]
  | succ n ih =>
    obtain ⟨i1, i2, i3, i4, i5, i6, i7, i8, i9, i10, i11⟩ := ih
    refine ⟨?_, ?_, ?_, ?_, ?_, ?_, ?_, ?_, ?_, ?_, ?_⟩
    · intro s x g h
      rw [cExpr] at h
      split at h; exact i2 _ _ g h
      split at h; exact i3 _ _ g h
      split at h; exact i4 _ _ g h
      split at h; exact i5 _ _ g h
      exact i6 _ _ _ g h
    · intro s x g h
      rw [cLet] at h
      simp only [Option.bind_eq_some_iff] at h
      obtain ⟨r1, h1, r2, h2, h3⟩ := h
      injection h3 with h3; subst h3
      have a1 := i1 _ _ (g.tk.name.exp _) h1
      have a2 := i1 _ _ (a1.2.exp _) h2
      exact ⟨by rw [Bnd]; exact ⟨⟨by decide, .inr rfl⟩, ⟨g.tk.t, by decide, zb_zero⟩, ⟨g.l, g.c⟩, bnds2 a1.1 a2.1⟩, a2.2⟩
    · intro s x g h
      rw [cIf] at h
      simp only [Option.bind_eq_some_iff] at h
      obtain ⟨r1, h1, r2, h2, r3, h3, h4⟩ := h
      injection h4 with h4; subst h4
      have a1 := i1 _ _ g.tk h1
      have a2 := i1 _ _ (a1.2.exp _) h2
      have a3 := i1 _ _ (a2.2.exp _) h3
      exact ⟨bnd_prt g (by decide) (.inr rfl) (bnds3 a1.1 a2.1 a3.1), a3.2⟩
    · intro s x g h
      rw [cMatch] at h
      simp only [Option.bind_eq_some_iff] at h
      obtain ⟨r1, h1, r2, h2, r3, h3, h4⟩ := h
      injection h4 with h4; subst h4
      have a1 := i1 _ _ g.tk h1
      have a2 := i1 _ _ (((a1.2.exp _).exp _).exp _) h2
      have a3 := i1 _ _ (((((a2.2.exp _).name).exp _).name).exp _) h3
      exact ⟨by rw [Bnd]; exact ⟨⟨by decide, .inr rfl⟩, ⟨(a2.2.exp _).t, (((a2.2.exp _).name).exp _).t, zb_zero⟩, ⟨g.l, g.c⟩, bnds3 a1.1 a2.1 a3.1⟩, a3.2⟩
    · intro s x g h
      rw [cAssert] at h
      simp only [Option.bind_eq_some_iff] at h
      obtain ⟨r1, h1, r2, h2, h3⟩ := h
      injection h3 with h3; subst h3
      have a1 := i1 _ _ g.tk h1
      have a2 := i1 _ _ (a1.2.exp _) h2
      exact ⟨bnd_prt g (by decide) (.inr rfl) (bnds2 a1.1 a2.1), a2.2⟩
    · intro l s x g h
      rw [cBin, Option.bind_eq_some_iff] at h
      obtain ⟨r1, h1, h2⟩ := h
      have a1 := i8 _ _ g h1
      exact i7 _ _ _ _ _ a1.2 a1.1 h2
    · intro l e v s x g hE h
      rw [cLoop] at h
      split at h
      · injection h with h; subst h; exact ⟨hE, g⟩
      · rename_i op hop
        split at h
        · injection h with h; subst h; exact ⟨hE, g⟩
        · rw [Option.bind_eq_some_iff] at h
          obtain ⟨r1, h1, h2⟩ := h
          have a1 := i6 _ _ _ g.tk h1
          have hb := bop_ar hop
          exact i7 _ (prt op.kind s.nx [e, r1.1]) _ _ _ a1.2 (bnd_prt g hb.1 (.inr hb.2) (bnds2 hE a1.1)) h2
    · intro s x g h
      rw [cOne] at h
      split at h
      · exact i9 _ _ g h
      · rename_i k hk
        rw [Option.bind_eq_some_iff] at h
        obtain ⟨r1, h1, h2⟩ := h
        injection h2 with h2; subst h2
        have a1 := i8 _ _ g.tk h1
        have hb := un_ar hk
        exact ⟨bnd_prt g hb.1 (.inr hb.2) (bnds1 a1.1), a1.2⟩
    · intro s x g h
      rw [cAtom] at h
      split at h
      · rename_i hk
        injection h with h; subst h
        exact ⟨by rw [Bnd]; exact ⟨⟨by decide, .inr rfl⟩, ⟨by decide, by decide, zb_dn ((g.1.head).k1 hk).2⟩, ⟨g.l, g.c⟩, bnds0⟩, g.tk⟩
      split at h
      · split at h
        · rw [Option.bind_eq_some_iff] at h
          obtain ⟨r1, h1, h2⟩ := h
          injection h2 with h2; subst h2
          have a1 := i10 _ _ g.tk.tk h1
          exact ⟨bnd_nmd g (by decide) (.inl rfl) a1.1, a1.2⟩
        · injection h with h; subst h; exact ⟨bnd_nmd g (by decide) (.inr rfl) bnds0, g.tk⟩
      split at h
      · injection h with h; subst h; exact ⟨bnd_nmd g (by decide) (.inr rfl) bnds0, g.tk⟩
      split at h
      · injection h with h; subst h; exact ⟨bnd_prt g (by decide) (.inr rfl) bnds0, g.tk⟩
      split at h
      · injection h with h; subst h; exact ⟨bnd_prt g (by decide) (.inr rfl) bnds0, g.tk⟩
      split at h
      · injection h with h; subst h; exact ⟨bnd_prt g (by decide) (.inr rfl) bnds0, g.tk⟩
      split at h
      · rw [Option.bind_eq_some_iff] at h
        obtain ⟨r1, h1, h2⟩ := h
        injection h2 with h2; subst h2
        have a1 := i1 _ _ g.tk h1
        exact ⟨a1.1, a1.2.exp _⟩
      · injection h with h; subst h; exact ⟨bnd_u0, g.tk.fail _ (.inl rfl)⟩
    · intro s x g h
      rw [cArgs] at h
      split at h
      · injection h with h; subst h; exact ⟨bnds0, g.tk⟩
      · rw [Option.bind_eq_some_iff] at h
        obtain ⟨r1, h1, h2⟩ := h
        have a1 := i1 _ _ g h1
        exact i11 _ _ _ a1.2 (bnds1 a1.1) h2
    · intro l s x g hl h
      rw [cMore] at h
      split at h
      · rw [Option.bind_eq_some_iff] at h
        obtain ⟨r1, h1, h2⟩ := h
        have a1 := i1 _ _ g.tk h1
        exact i11 _ _ _ a1.2 (bnds_app hl (bnds1 a1.1)) h2
      · injection h with h; subst h; exact ⟨hl, g.exp _⟩
theorem gt_st0 (l : Bs) (hl : l.length ≤ 3000) (h0 : (lexS l (1, 1)).2 = 0) : GT (st0 l) :=
  ⟨lex_good l (1, 1) h0, fun t ht => by
    have := placed_bd (lex_placed l (1, 1) h0) t ht
    simp only at this
    exact ⟨by omega, by omega, by omega⟩, fun x hx => by cases hx⟩
theorem all_gt {n : Nat} {s : St} {x : U × St} (g : GT s) (h : cAll n s = some x) : BG x := by
  unfold cAll at h
  rw [Option.bind_eq_some_iff] at h
  obtain ⟨r, h1, h2⟩ := h
  injection h2 with h2; subst h2
  have := (c_bnd n).1 _ _ g h1
  refine ⟨this.1, ?_⟩
  simp only
  split
  · exact this.2.fail _ (.inr rfl)
  · exact this.2
mutual
/-- A tree's parts are shorter than the whole is, told. -/
theorem frm_deep : ∀ u : U, ud u ≤ (frm u).length
  | .node k nm ot z ln cl ks => by
    rw [ud, frm]
    have := frms_deep ks
    have h1 : 1 ≤ (opn k ln cl (fname k nm ot z)).length := by unfold opn; simp only [List.length_append, List.length_cons, List.length_nil]; omega
    simp only [List.length_append, List.length_cons, List.length_nil]; omega
theorem frms_deep : ∀ us : List U, uds us ≤ (frms us).length
  | [] => by rw [uds]; exact Nat.zero_le _
  | u :: us => by
    rw [uds, frms]
    have h1 := frm_deep u
    have h2 := frms_deep us
    simp only [List.length_append]; omega
end
theorem frms_app (a b : List U) : frms (a ++ b) = frms a ++ frms b := by
  induction a with
  | nil => rw [frms]; rfl
  | cons u a ih => rw [List.cons_append, frms, frms, ih, List.append_assoc]
theorem frms_take (ks : List U) (j : Nat) (h : j < ks.length) : frms (ks.take (j + 1)) = frms (ks.take j) ++ frm ks[j] := by
  rw [List.take_succ_eq_append_getElem h, frms_app, frms, frms, List.append_nil]
theorem frms_take_le (ks : List U) (j : Nat) : (frms (ks.take j)).length ≤ (frms ks).length := by
  have := congrArg List.length (congrArg frms (List.take_append_drop j ks))
  rw [frms_app, List.length_append] at this; omega
theorem all_len {n : Nat} {r : RS} {y : Bs × RS} (g : GR r) (h : rAll n r = some y) : y.1.length ≤ phi r := by
  unfold rAll at h
  rw [Option.bind_eq_some_iff] at h
  obtain ⟨x, h1, h2⟩ := h
  injection h2 with h2; subst h2
  have := ((r_len n).1 _ _ g h1).2.1
  simp only; omega
/-- What package parse and the reference tell of any source as an expression. -/
theorem exprs_told (l : Bs) (hl : l.length ≤ 3000) : ∃ (r : U × St) (y : Bs × RS), (lexF l = none → cAll 30000 (st0 l) = some r) ∧ ((lexS l (1, 1)).2 = 0 → rAll 40000 (rs0 l) = some y) ∧
    ((exF l r = none ∧ rexV l y = .tuple #[.string ⟨(frm r.1).toArray⟩, .int .i64 0, .int .i64 0, .int .i64 0] ∧ Bnd r.1 ∧ (frm r.1).length ≤ 300000000) ∨
     (∃ c ln cl : Nat, (c = 1 ∨ c = 2) ∧ exF l r = some (c, ln, cl) ∧ rexV l y = .tuple #[.string ⟨#[]⟩, .int .i64 (c : Nat), .int .i64 (ln : Nat), .int .i64 (cl : Nat)])) := by
  by_cases h0 : (lexS l (1, 1)).2 = 0
  · obtain ⟨x, y, h1, h2, h3⟩ := told l hl h0
    refine ⟨x, y, fun _ => h1, fun _ => h2, ?_⟩
    have hgt := all_gt (gt_st0 l hl h0) h1
    have hx : exF l x = x.2.fin.err := by unfold exF lexF; rw [if_pos h0]; rfl
    have hR : rexV l y = if y.2.fin.bad ≠ 0 then .tuple #[.string ⟨#[]⟩, .int .i64 (y.2.fin.bad : Nat), .int .i64 (y.2.fin.pl.line : Nat), .int .i64 (y.2.fin.pl.col : Nat)] else .tuple #[.string ⟨y.1.toArray⟩, .int .i64 0, .int .i64 0, .int .i64 0] := by unfold rexV; rw [if_neg (by omega)]
    rcases h3 with ⟨g1, g2, g3⟩ | ⟨g1, g2⟩
    · left
      rw [if_neg (by omega), g3] at hR
      have hlen := all_len (r := rs0 l) ⟨lex_good l (1, 1) h0, tbd_rs0 l hl h0⟩ h2
      have hph : phi (rs0 l) ≤ 300000000 := by
        have := toks_mem hl
        unfold phi rs0
        simp only [if_true]
        omega
      exact ⟨g1, hR, hgt.1, by rw [← g3]; omega⟩
    · right
      rw [if_pos g1] at hR
      exact ⟨_, _, _, hgt.2.fin.2.2 _ (hx ▸ g2), g2, hR⟩
  · have hne : lexF l = ((lexS l (1, 1)).1.getLast?).map fun t => ((lexS l (1, 1)).2, t.line, t.col) := by unfold lexF; rw [if_neg h0]
    obtain ⟨t, ht⟩ : ∃ t, (lexS l (1, 1)).1.getLast? = some t := by
      cases h : (lexS l (1, 1)).1.getLast? with
      | none => rw [List.getLast?_eq_none_iff] at h; exact absurd h (lex_ne l (1, 1))
      | some t => exact ⟨t, rfl⟩
    rw [ht] at hne
    refine ⟨(u0, st0 l), ([], rs0 l), fun h => ?_, fun h => absurd h h0, .inr ⟨(lexS l (1, 1)).2, t.line, t.col, ?_, ?_, ?_⟩⟩
    · rw [hne] at h; cases h
    · rcases lex_code l (1, 1) with h | h | h <;> omega
    · unfold exF; rw [hne]; rfl
    · unfold rexV; rw [if_pos h0, ht]; rfl
end Go.Proofs.YtdpfgfkoboihcaaGreatDoor

/-
  Contracts of tree.Arity, tree.Right for any tree with places whose parts are right.
-/
namespace Go.Proofs.YtdpfgfkoboihcaaGreatDoor
open Go.RowKit
set_option maxRecDepth 100000

/-- What Arity says of a kind. -/
def arW (k : Nat) : Int := if k = 24 then -1 else (ar k : Int)
/-- The table of arities lies where the program's start laid it. -/
def ArT (w : World) : Prop := ∀ i, i < 29 → w.cell? ⟨1, i, none⟩ = some (.int .i64 (arW i))
theorem ArT.below {w w' : World} (h : ArT w) (hb : Below w.heap.size w w') : ArT w' := fun i hi => by rw [hb.cell (cell_lt (h i hi))]; exact h i hi
theorem arityW_ok (k : Nat) (z : Int) (hk : k < 29) (hz : arW k = z) (w : World) (ht : ArT w) :
    Calls Tryz.prog 40 #[.int .i64 (k : Nat)] w fun e w' => e = .returned (.int .i64 z) ∧ w = w' := by
  have c := ht k hk
  rw [hz] at c
  clear hz ht
  go_enter Tryz.func40, Tryz.ntmps40
  go_wp2
  go_ret
  exact ⟨rfl, rfl⟩

set_option maxHeartbeats 1000000 in
theorem isNatW (ao : Option Addr) (n c z : Nat) (w : World) (h : Sl w .u32 (.slice ao n c) (dig L32 z)) :
    Calls Tryz.prog 41 #[.agg #[.bool false, .slice ao n c]] w fun e w' => e = .returned (.bool true) ∧ Below w.heap.size w w' := by
  obtain ⟨ao', cap, e, h1, h2, h3, h4⟩ := h
  injection e with e1 e2 e3
  subst e1 e3 e2
  by_cases h0 : (dig L32 z).length = 0
  · have hz : (((dig L32 z).length : Int) == 0) = true := by rw [h0]; rfl
    have H0 := Lib.hid h0
    clear h0 h4
    go_enter Tryz.func41, Tryz.ntmps41
    go_wp2
    go_ret
    exact ⟨rfl, (Below.refl _ _).alloc (Nat.le_refl _) _⟩
  · obtain ⟨a, rfl, hc⟩ := h4 ((dig L32 z).length - 1) (by omega)
    have hl := dig_last (B := L32) (n := z) (by decide) (by omega)
    have hd := (Dig_dig (B := L32) (by decide) z).getD (by decide) ((dig L32 z).length - 1)
    have hp : nth (dig L32 z) ((dig L32 z).length - 1) ≠ 0 := by unfold nth; omega
    have hn : ((nth (dig L32 z) ((dig L32 z).length - 1)) != 0) = true := by simpa using hp
    have hca : (w.alloc (.cells #[.bool false, .slice (some a) (dig L32 z).length c] 42)).cell? (a.add ((dig L32 z).length - 1)) = some (.int .u32 (nth (dig L32 z) ((dig L32 z).length - 1))) := by
      rw [World.cell?_alloc_lt _ _ _ (cell_lt hc)]; exact hc
    have hz : (((dig L32 z).length : Int) == 0) = false := by rw [beq_eq_false_iff_ne]; omega
    have hp1 : 1 ≤ (dig L32 z).length := by omega
    clear h4 hc hl hd hp h0
    generalize nth (dig L32 z) ((dig L32 z).length - 1) = q at *
    generalize (dig L32 z).length = n at *
    go_enter Tryz.func41, Tryz.ntmps41
    go_wp2
    go_ret
    exact ⟨rfl, (Below.refl _ _).alloc (Nat.le_refl _) _⟩

theorem arW_ne (n : Nat) : (((n : Nat) : Int) != -1) = true := by simp

set_option maxHeartbeats 8000000 in
theorem right_p (d : Nat) (hd : d ≤ 4000000000000000000) (x : X) (u : U) (w : World) (S : Nat → Prop) (ht : ArT w) (h : Um w S x u) (hB : Bnd u) (ho : ud u ≤ d) :
    Calls Tryz.prog 14 #[xv x] w fun e w' => e = .returned (.bool true) ∧ Below w.heap.size w w' := by
  induction d generalizing x u w with
  | zero => obtain ⟨k, nm, ot, z, ln, cl, ks⟩ := u; rw [ud] at ho; omega
  | succ d ih =>
    obtain ⟨k, nm, ot, z, ln, cl, ks⟩ := u
    rw [Um] at h
    rw [Bnd] at hB
    obtain ⟨⟨hk, ha⟩, -, -, hks⟩ := hB
    obtain ⟨⟨e1, e2, e3, e4, e5, e6⟩, ⟨h2, h3⟩, ⟨h4, h5, h6⟩, h7⟩ := h
    obtain ⟨xk, xnm, xot, xb, xao, xn, xc, xko, xkn, xkc, xln, xcl⟩ := x
    simp only at e1 e2 e3 e4 e5 e6 h2 h3 h4 h5 h6 h7
    have HK := Lib.hid (fun j (hj : j < ks.length) => ums_get 0 j h7 hj)
    have HKS := Lib.hid (fun j (hj : j < ks.length) => bnds_mem hks (List.getElem_mem hj))
    have HKD := Lib.hid (fun j (hj : j < ks.length) => uds_mem (List.getElem_mem hj))
    clear h7 hks
    subst e1 e2 e3 e4 e5 e6
    subst h4
    rw [ud] at ho
    have hkl : ks.length ≤ 9223372036854775807 := Nat.le_trans h5.1 h5.2
    have HS := Lib.hid h2
    have HT := Lib.hid ht
    have IH := Lib.hid ih
    have hdd : uds ks ≤ d := by omega
    have AR : ∃ r : Int, arW k = r ∧ ((r = -1) ∨ r = (ks.length : Int)) := by
      refine ⟨_, rfl, ?_⟩
      unfold arW
      split
      · exact .inl rfl
      · rcases ha with ha | ha
        · exact absurd ha (by assumption)
        · exact .inr (by rw [ha])
    obtain ⟨r, hr, hr2⟩ := AR
    have HR := Lib.hid hr
    clear h2 h3 h5 h6 ih ha ht hr ho
    simp only [xv]
    by_cases hk0 : k = 0
    · subst hk0
      have hr0 : r = 0 := by rw [← HR.out]; rfl
      have hl0 : ks.length = 0 := by
        rcases hr2 with e | e
        · rw [hr0] at e; exact absurd e (by decide)
        · rw [hr0] at e; omega
      have hks0 : ks = [] := List.eq_nil_of_length_eq_zero hl0
      subst hr0
      clear hr2 hl0
      subst hks0
      clear HK HKS HKD
      simp only [List.length_nil]
      go_enter Tryz.func14, Tryz.ntmps14
      go_wp2_with fail
      refine (arityW_ok 0 0 hk HR.out _ (HT.out.below ((Below.refl _ _).alloc (Nat.le_refl _) _))).mono ?_
      rintro e w1 ⟨rfl, rfl⟩
      go_wp2_with fail
      refine (isNatW xao xn xc z _ (HS.out.below ((Below.refl _ _).alloc (Nat.le_refl _) _))).mono ?_
      rintro e w1 ⟨rfl, hb1⟩
      have hcell : w1.cell? ⟨w.heap.size, 5, none⟩ = some (.slice xko 0 xkc) := by
        rw [hb1.cell (by simp)]; exact cell_of_row _ _ 5 _ _ (0, 0) (made_at w _ _ rfl)
      have HB0 := Lib.hid (((Below.refl w.heap.size w).alloc (Nat.le_refl _) _).trans (hb1.mono (by simp)))
      clear hb1
      go_wp2_with fail
      go_loopw [30] (fun i wr => i = .int .i64 0 ∧ Below w.heap.size w wr) (fun i _ => 0)
      case atStart => exact ⟨rfl, HB0.out⟩
      case round =>
        obtain ⟨rfl, hb⟩ := hrel
        have HB := Lib.hid hb
        clear hb
        go_wp2_with fail
        go_ret
        exact ⟨rfl, HB.out⟩
    · have hkz : (((k : Nat) : Int) == 0) = false := by rw [beq_eq_false_iff_ne]; omega
      have hne := arW_ne ks.length
      have HB0 := Lib.hid ((Below.refl w.heap.size w).alloc (Nat.le_refl _) (.cells #[.int .i64 (k : Nat), .string ⟨nm.toArray⟩, .string ⟨ot.toArray⟩, .bool false, .slice xao xn xc, .slice xko ks.length xkc, .int .i64 (ln : Nat), .int .i64 (cl : Nat)] 45))
      rcases hr2 with rfl | rfl
      · go_enter Tryz.func14, Tryz.ntmps14
        go_wp2_with fail
        refine (arityW_ok k (-1) hk HR.out _ (HT.out.below ((Below.refl _ _).alloc (Nat.le_refl _) _))).mono ?_
        rintro e w1 ⟨rfl, rfl⟩
        go_wp2_with fail
        go_loopw [30] (fun i wr => ∃ j : Nat, i = .int .i64 (j : Nat) ∧ j ≤ ks.length ∧ Below w.heap.size w wr) (fun i _ => ks.length - (intOf i).toNat)
        case atStart => exact ⟨0, rfl, Nat.zero_le _, HB0.out⟩
        case round =>
          obtain ⟨j, rfl, hj, hb⟩ := hrel
          by_cases hlt : j < ks.length
          · obtain ⟨y, hA, hT⟩ := HK.out j hlt
            rw [Nat.zero_add] at hA
            have hT' := hT.below hb
            have hTb := HT.out.below hb
            obtain ⟨a, rfl, hc⟩ := hA.keep fun a ha => hb.block _ (hA.lt a ha)
            obtain ⟨c0, c1, c2, c3, c4, c5, c6, c7⟩ := cells8 hc
            have HB := Lib.hid hb
            have HTr := Lib.hid hT'
            have HTb := Lib.hid hTb
            clear hc hA hT hT' hb hTb
            go_wp2_with fail
            refine (IH.out (by omega) y _ _ (HTb.out.below ((Below.refl _ _).alloc (Nat.le_refl _) _)) (HTr.out.below ((Below.refl _ _).alloc (Nat.le_refl _) _)) (HKS.out j hlt) (Nat.le_trans (HKD.out j hlt) hdd)).mono ?_
            rintro e w2 ⟨rfl, hb2⟩
            have HB2 := Lib.hid hb2
            clear hb2 c0 c1 c2 c3 c4 c5 c6 c7
            go_wp2_with fail
            go_roundw
            case rel => exact ⟨j + 1, by go_num, by omega, (HB.out.alloc HB.out.size _).trans (HB2.out.mono (by have := HB.out.size; simp; omega))⟩
            case measure => simp [intOf]; omega
          · have e : j = ks.length := by omega
            subst e
            have HB := Lib.hid hb
            clear hb
            go_wp2_with fail
            go_ret
            exact ⟨rfl, HB.out⟩
      · go_enter Tryz.func14, Tryz.ntmps14
        go_wp2_with fail
        refine (arityW_ok k _ hk HR.out _ (HT.out.below ((Below.refl _ _).alloc (Nat.le_refl _) _))).mono ?_
        rintro e w1 ⟨rfl, rfl⟩
        go_wp2_with fail
        go_loopw [30] (fun i wr => ∃ j : Nat, i = .int .i64 (j : Nat) ∧ j ≤ ks.length ∧ Below w.heap.size w wr) (fun i _ => ks.length - (intOf i).toNat)
        case atStart => exact ⟨0, rfl, Nat.zero_le _, HB0.out⟩
        case round =>
          obtain ⟨j, rfl, hj, hb⟩ := hrel
          by_cases hlt : j < ks.length
          · obtain ⟨y, hA, hT⟩ := HK.out j hlt
            rw [Nat.zero_add] at hA
            have hT' := hT.below hb
            have hTb := HT.out.below hb
            obtain ⟨a, rfl, hc⟩ := hA.keep fun a ha => hb.block _ (hA.lt a ha)
            obtain ⟨c0, c1, c2, c3, c4, c5, c6, c7⟩ := cells8 hc
            have HB := Lib.hid hb
            have HTr := Lib.hid hT'
            have HTb := Lib.hid hTb
            clear hc hA hT hT' hb hTb
            go_wp2_with fail
            refine (IH.out (by omega) y _ _ (HTb.out.below ((Below.refl _ _).alloc (Nat.le_refl _) _)) (HTr.out.below ((Below.refl _ _).alloc (Nat.le_refl _) _)) (HKS.out j hlt) (Nat.le_trans (HKD.out j hlt) hdd)).mono ?_
            rintro e w2 ⟨rfl, hb2⟩
            have HB2 := Lib.hid hb2
            clear hb2 c0 c1 c2 c3 c4 c5 c6 c7
            go_wp2_with fail
            go_roundw
            case rel => exact ⟨j + 1, by go_num, by omega, (HB.out.alloc HB.out.size _).trans (HB2.out.mono (by have := HB.out.size; simp; omega))⟩
            case measure => simp [intOf]; omega
          · have e : j = ks.length := by omega
            subst e
            have HB := Lib.hid hb
            clear hb
            go_wp2_with fail
            go_ret
            exact ⟨rfl, HB.out⟩
end Go.Proofs.YtdpfgfkoboihcaaGreatDoor

/-
  The law's place.
-/
namespace Go.Proofs.YtdpfgfkoboihcaaGreatDoor
open Go.RowKit
set_option maxRecDepth 100000
set_option linter.unusedSimpArgs false
set_option maxHeartbeats 4000000 in
theorem place_p (s : Bs) (ln cl : Nat) (w : World) (htab : Pow w) (hs : s.length ≤ 10000000000) (h1 : ln ≤ 1000000000) (h2 : cl ≤ 1000000000) :
    Calls Tryz.prog 33 #[.string ⟨s.toArray⟩, .int .i64 (ln : Nat), .int .i64 (cl : Nat)] w fun e w' => e = .returned (.string ⟨(s ++ plc ln cl).toArray⟩) ∧ Below w.heap.size w w' := by
  obtain ⟨Z1, hZ1⟩ : ∃ l : Bs, l = zText (ln : Nat) := ⟨_, rfl⟩
  obtain ⟨Z2, hZ2⟩ : ∃ l : Bs, l = zText (cl : Nat) := ⟨_, rfl⟩
  have l1 : Z1.length ≤ 10 := by rw [hZ1]; exact zl ln h1
  have l2 : Z2.length ≤ 10 := by rw [hZ2]; exact zl cl h2
  have HZ1 := Lib.hid hZ1
  have HZ2 := Lib.hid hZ2
  have HT := Lib.hid htab
  have s0 : (⟨s.toArray⟩ : ByteArray).size = s.length := rfl
  have s1 : (⟨Z1.toArray⟩ : ByteArray).size = Z1.length := rfl
  have s2 : (⟨Z2.toArray⟩ : ByteArray).size = Z2.length := rfl
  have HV : Hid ((⟨(s ++ plc ln cl).toArray⟩ : ByteArray) = (((⟨s.toArray⟩ ++ ⟨#[64]⟩) ++ ⟨Z1.toArray⟩) ++ ⟨#[58]⟩) ++ ⟨Z2.toArray⟩) := Lib.hid (by
    rw [show (⟨#[64]⟩ : ByteArray) = ⟨([64] : Bs).toArray⟩ from rfl, show (⟨#[58]⟩ : ByteArray) = ⟨([58] : Bs).toArray⟩ from rfl, cat, cat, cat, cat, hZ1, hZ2]
    unfold plc
    simp only [List.append_assoc])
  clear hZ1 hZ2 htab
  go_enter Tryz.func33, Tryz.ntmps33
  go_wp2_with fail
  refine (itoa_any (ln : Nat) w (by omega) (by omega) HT.out).mono ?_
  rintro e w1 ⟨rfl, hb⟩
  rw [← HZ1.out]
  have HB := Lib.hid hb
  replace HT := Lib.hid (tab_below HT.out hb)
  clear hb
  go_wp2_with fail
  refine (itoa_any (cl : Nat) w1 (by omega) (by omega) HT.out).mono ?_
  rintro e w2 ⟨rfl, hb⟩
  rw [← HZ2.out]
  have HB2 := Lib.hid (HB.out.trans (hb.mono HB.out.size))
  clear hb
  go_wp2_with fail
  go_ret
  exact ⟨by rw [HV.out]; rfl, HB2.out⟩
end Go.Proofs.YtdpfgfkoboihcaaGreatDoor

/-
  The contract of the law's form.
-/
namespace Go.Proofs.YtdpfgfkoboihcaaGreatDoor
open Go.RowKit
set_option maxRecDepth 100000
set_option linter.unusedVariables false

set_option linter.unusedSimpArgs false
theorem gi_num {w : World} {ao : Option Addr} {n c z m : Nat} (h : Sl w .u32 (.slice ao n c) (dig L32 z)) (hz : z < L32 ^ m) : GI w (.agg #[.bool false, .slice ao n c]) (z : Nat) m := by
  have : CI w (.agg #[.bool (decide ((z : Int) < 0)), .slice ao n c]) (z : Nat) m := ⟨.slice ao n c, rfl, h, hz⟩
  rw [show decide ((z : Int) < 0) = false from decide_eq_false (by omega)] at this
  exact this.gi
theorem zl_le (n : Nat) (h : n ≤ 28) : (zText (n : Nat)).length ≤ 10 := zl n (by omega)
set_option maxHeartbeats 16000000 in
theorem form_p (d : Nat) (hd : d ≤ 4000000000000000000) (x : X) (u : U) (w : World) (S : Nat → Prop) (htab : Pow w) (h : Um w S x u) (hB : Bnd u) (ho : ud u ≤ d) (hL : (frm u).length ≤ 300000000) :
    Calls Tryz.prog 13 #[xv x] w fun e w' => e = .returned (.string ⟨(frm u).toArray⟩) ∧ Below w.heap.size w w' := by
  induction d generalizing x u w with
  | zero => obtain ⟨k, nm, ot, z, ln, cl, ks⟩ := u; rw [ud] at ho; omega
  | succ d ih =>
    obtain ⟨k, nm, ot, z, ln, cl, ks⟩ := u
    rw [Um] at h
    rw [Bnd] at hB
    obtain ⟨⟨hk, ha⟩, ⟨b1, b2, m, hm, hz⟩, ⟨b4, b5⟩, hks⟩ := hB
    obtain ⟨⟨e1, e2, e3, e4, e5, e6⟩, ⟨h2, h3⟩, ⟨h4, h5, h6⟩, h7⟩ := h
    obtain ⟨xk, xnm, xot, xb, xao, xn, xq, xko, xkn, xkc, xln, xcl⟩ := x
    simp only at e1 e2 e3 e4 e5 e6 h2 h3 h4 h5 h6 h7
    have HK := Lib.hid (fun j (hj : j < ks.length) => ums_get 0 j h7 hj)
    have HKS := Lib.hid (fun j (hj : j < ks.length) => bnds_mem hks (List.getElem_mem hj))
    have HKD := Lib.hid (fun j (hj : j < ks.length) => uds_mem (List.getElem_mem hj))
    clear h7 hks
    subst e1 e2 e3 e4 e5 e6
    subst h4
    rw [ud] at ho
    have hkl : ks.length ≤ 9223372036854775807 := Nat.le_trans h5.1 h5.2
    have HGI := Lib.hid (gi_num h2 hz)
    have HTB := Lib.hid htab
    have IH := Lib.hid ih
    have hdd : uds ks ≤ d := by omega
    have HHD : Hid (uds ks ≤ d) := Lib.hid hdd
    have HFE : Hid (frm (.node k nm ot z ln cl ks) = opn k ln cl (fname k nm ot z) ++ frms ks ++ [41]) := Lib.hid (by rw [frm])
    have hFL : (opn k ln cl (fname k nm ot z)).length + (frms ks).length + 1 ≤ 300000000 := by rw [HFE.out] at hL; simp only [List.length_append, List.length_cons, List.length_nil] at hL; omega
    have HOL : (fname k nm ot z).length ≤ (opn k ln cl (fname k nm ot z)).length := by unfold opn; simp only [List.length_append, List.length_cons, List.length_nil]; omega
    have hnl : (fname k nm ot z).length ≤ 300000000 := by omega
    have hfl : (frms ks).length ≤ 300000000 := by omega
    clear h2 h3 h5 h6 ih htab ho hL hz hFL HOL hdd ha
    simp only [xv]
    have HBW := Lib.hid (Below.refl w.heap.size w)
    have HTW0 := Lib.hid HTB.out
    go_enter Tryz.func13, Tryz.ntmps13
    go_upto_region 1 with fail
    obtain ⟨w1, hw⟩ : ∃ x, x = w.alloc (.cells #[.int .i64 (k : Nat), .string ⟨nm.toArray⟩, .string ⟨ot.toArray⟩, .bool false, .slice xao xn xq, .slice xko ks.length xkc, .int .i64 (ln : Nat), .int .i64 (cl : Nat)] 45) := ⟨_, rfl⟩
    have hb : Below w.heap.size w w1 := by rw [hw]; exact (Below.refl _ _).alloc (Nat.le_refl _) _
    have hk : w1.heap[w.heap.size]? = some (.cells #[.int .i64 (k : Nat), .string ⟨nm.toArray⟩, .string ⟨ot.toArray⟩, .bool false, .slice xao xn xq, .slice xko ks.length xkc, .int .i64 (ln : Nat), .int .i64 (cl : Nat)] 45 (0, 0)) := by rw [hw]; exact made_at w _ _ rfl
    rw [← hw]
    obtain ⟨ke, hkk⟩ : ∃ k, k = w.heap.size := ⟨_, rfl⟩
    have hee : w.heap.size ≤ ke := by omega
    rw [← hkk] at hk ⊢
    replace HBW := Lib.hid (HBW.out.trans (hb.mono HBW.out.size))
    replace HTB := Lib.hid (tab_below HTB.out hb)
    replace HGI := Lib.hid (HGI.out.below hb)
    have HD := Lib.hid (below_grown hb (some 0))
    have hsz1 := HD.out.size
    have HBe := Lib.hid hk
    clear hw hb hk hkk
    obtain ⟨Z1, hZ1⟩ : ∃ l : Bs, l = zText (k : Nat) := ⟨_, rfl⟩
    have lZ1 : Z1.length ≤ 10 := by rw [hZ1]; exact zl_le k (by omega)
    have HZ1 := Lib.hid hZ1
    have lpl : (plc ln cl).length ≤ 22 := by have q1 := zl ln b4; have q2 := zl cl b5; unfold plc; simp only [List.length_append, List.length_cons, List.length_nil]; omega
    obtain ⟨Z2, hZ2⟩ : ∃ l : Bs, l = Z1 ++ plc ln cl := ⟨_, rfl⟩
    have lZ2 : Z2.length ≤ 32 := by rw [hZ2]; rw [List.length_append]; omega
    have HZ2 := Lib.hid hZ2
    obtain ⟨S8, hS8⟩ : ∃ l : Bs, l = [40] ++ Z2 := ⟨_, rfl⟩
    have lS8 : S8.length ≤ 33 := by rw [hS8]; simp only [List.length_append, List.length_cons, List.length_nil]; omega
    have HS8 := Lib.hid hS8
    obtain ⟨S9, hS9⟩ : ∃ l : Bs, l = S8 ++ [32] := ⟨_, rfl⟩
    have lS9 : S9.length ≤ 34 := by rw [hS9]; simp only [List.length_append, List.length_cons, List.length_nil]; omega
    have HS9 := Lib.hid hS9
    clear hZ1 hZ2 hS8 hS9 lpl
    have hlt_e := lt_of_block HBe.out
    have hog : ∀ q, q < 0 → (fun q => 0) q < w1.heap.size := fun q h => absurd h (Nat.not_lt_zero _)
    refine Rel7.region (by kernel_rfl) [[], [0], [0, 1], [], [3], [], [5], [0, 1, 2, 3, 4, 5, 6], [0, 1, 2, 3, 4, 5, 6, 7], [0, 1, 2, 3, 4, 5, 6, 7, 8], [0, 1, 2, 3, 4, 5, 6, 7, 8, 9]] [] [] (fun q => 0) 0 11 (by kernel_rfl) (by kernel_rfl) (by rfl) hog (fun q q' h h' hn => absurd hn (by omega)) ?_
    refine Rel7.Chain.det ?_ (by rfl) (fun T xs wr hA => ?_) ?_
    rotate_left 1
    · have e1 := hA.pre 1 (by kernel_rfl)
      simp only [List.getElem?_toArray, List.getElem?_cons_succ, List.getElem?_cons_zero] at e1
      clear hA
      refine ⟨(by rfl), ?_⟩
      go_simp <;> (try with_reducible rfl)
    refine Rel7.Chain.det ?_ (by rfl) (fun T xs wr hA => ?_) ?_
    rotate_left 1
    · have e6 := hA.tm 0 6 (by rfl) (by rfl)
      have f6 : xs 0 = _ := hA.fa 0 (by rfl)
      (try simp (disch := first | rfl | decide) only [Rel7.mask_in] at f6)
      rw [f6] at e6
      clear f6
      have hBq : wr.heap[ke]? = _ := (hA.bl _ hlt_e (fun q h => absurd h (Nat.not_lt_zero _))).trans HBe.out
      have q0 := cell_at (v := .int .i64 (k : Nat)) hBq 0 rfl
      have q1 := cell_at (v := .string ⟨nm.toArray⟩) hBq 1 rfl
      have q2 := cell_at (v := .string ⟨ot.toArray⟩) hBq 2 rfl
      have q3 := cell_at (v := .bool false) hBq 3 rfl
      have q4 := cell_at (v := .slice xao xn xq) hBq 4 rfl
      have q5 := cell_at (v := .slice xko ks.length xkc) hBq 5 rfl
      have q6 := cell_at (v := .int .i64 (ln : Nat)) hBq 6 rfl
      have q7 := cell_at (v := .int .i64 (cl : Nat)) hBq 7 rfl
      clear hBq
      clear hA
      refine ⟨(by rfl), ?_⟩
      go_simp <;> (try with_reducible rfl)
    refine Rel7.Chain.call (fun xs v w => v = .string ⟨Z1.toArray⟩) (fun _ _ _ _ h _ => h) (fun _ _ _ _ _ h _ _ => h) (by rfl) (fun T xs wr hA => ?_) ?_
    · have hsw := (hA.be 0 (Nat.zero_le _) (fun _ _ => Nat.zero_le _)).size
      have e7 := hA.tm 1 7 (by rfl) (by rfl)
      have f7 : xs 1 = _ := hA.fa 1 (by rfl)
      (try simp (disch := first | rfl | decide) only [Rel7.mask_in] at f7)
      rw [f7] at e7
      clear f7
      have hbw := undrew (hA.be w1.heap.size (Nat.le_refl _) (fun q h => absurd h (Nat.not_lt_zero _)))
      have htw := tab_below HTB.out hbw
      clear hA
      refine ⟨(by rfl), fun K hK => ?_⟩
      go_simp
      refine (itoa_any (k : Nat) _ (by omega) (by omega) htw).mono ?_
      rintro e w' ⟨rfl, hb⟩
      exact hK.out _ _ (by rw [HZ1.out]) hb
    refine Rel7.Chain.det ?_ (by rfl) (fun T xs wr hA => ?_) ?_
    rotate_left 1
    · have e1 := hA.pre 1 (by kernel_rfl)
      simp only [List.getElem?_toArray, List.getElem?_cons_succ, List.getElem?_cons_zero] at e1
      clear hA
      refine ⟨(by rfl), ?_⟩
      go_simp <;> (try with_reducible rfl)
    refine Rel7.Chain.det ?_ (by rfl) (fun T xs wr hA => ?_) ?_
    rotate_left 1
    · have e9 := hA.tm 3 9 (by rfl) (by rfl)
      have f9 : xs 3 = _ := hA.fa 3 (by rfl)
      (try simp (disch := first | rfl | decide) only [Rel7.mask_in] at f9)
      rw [f9] at e9
      clear f9
      have hBq : wr.heap[ke]? = _ := (hA.bl _ hlt_e (fun q h => absurd h (Nat.not_lt_zero _))).trans HBe.out
      have q0 := cell_at (v := .int .i64 (k : Nat)) hBq 0 rfl
      have q1 := cell_at (v := .string ⟨nm.toArray⟩) hBq 1 rfl
      have q2 := cell_at (v := .string ⟨ot.toArray⟩) hBq 2 rfl
      have q3 := cell_at (v := .bool false) hBq 3 rfl
      have q4 := cell_at (v := .slice xao xn xq) hBq 4 rfl
      have q5 := cell_at (v := .slice xko ks.length xkc) hBq 5 rfl
      have q6 := cell_at (v := .int .i64 (ln : Nat)) hBq 6 rfl
      have q7 := cell_at (v := .int .i64 (cl : Nat)) hBq 7 rfl
      clear hBq
      clear hA
      refine ⟨(by rfl), ?_⟩
      go_simp <;> (try with_reducible rfl)
    refine Rel7.Chain.det ?_ (by rfl) (fun T xs wr hA => ?_) ?_
    rotate_left 1
    · have e1 := hA.pre 1 (by kernel_rfl)
      simp only [List.getElem?_toArray, List.getElem?_cons_succ, List.getElem?_cons_zero] at e1
      clear hA
      refine ⟨(by rfl), ?_⟩
      go_simp <;> (try with_reducible rfl)
    refine Rel7.Chain.det ?_ (by rfl) (fun T xs wr hA => ?_) ?_
    rotate_left 1
    · have e11 := hA.tm 5 11 (by rfl) (by rfl)
      have f11 : xs 5 = _ := hA.fa 5 (by rfl)
      (try simp (disch := first | rfl | decide) only [Rel7.mask_in] at f11)
      rw [f11] at e11
      clear f11
      have hBq : wr.heap[ke]? = _ := (hA.bl _ hlt_e (fun q h => absurd h (Nat.not_lt_zero _))).trans HBe.out
      have q0 := cell_at (v := .int .i64 (k : Nat)) hBq 0 rfl
      have q1 := cell_at (v := .string ⟨nm.toArray⟩) hBq 1 rfl
      have q2 := cell_at (v := .string ⟨ot.toArray⟩) hBq 2 rfl
      have q3 := cell_at (v := .bool false) hBq 3 rfl
      have q4 := cell_at (v := .slice xao xn xq) hBq 4 rfl
      have q5 := cell_at (v := .slice xko ks.length xkc) hBq 5 rfl
      have q6 := cell_at (v := .int .i64 (ln : Nat)) hBq 6 rfl
      have q7 := cell_at (v := .int .i64 (cl : Nat)) hBq 7 rfl
      clear hBq
      clear hA
      refine ⟨(by rfl), ?_⟩
      go_simp <;> (try with_reducible rfl)
    refine Rel7.Chain.call (fun xs v w => v = .string ⟨Z2.toArray⟩) (fun _ _ _ _ h _ => h) (fun _ _ _ _ _ h _ _ => h) (by rfl) (fun T xs wr hA => ?_) ?_
    · have hsw := (hA.be 0 (Nat.zero_le _) (fun _ _ => Nat.zero_le _)).size
      have e8 := hA.tm 2 8 (by rfl) (by rfl)
      have f8 : xs 2 = (.string ⟨Z1.toArray⟩) := hA.fa 2 (by rfl)
      rw [f8] at e8
      clear f8
      have e10 := hA.tm 4 10 (by rfl) (by rfl)
      have f10 : xs 4 = _ := hA.fa 4 (by rfl)
      (try simp (disch := first | rfl | decide) only [Rel7.mask_in] at f10)
      rw [f10] at e10
      clear f10
      have e12 := hA.tm 6 12 (by rfl) (by rfl)
      have f12 : xs 6 = _ := hA.fa 6 (by rfl)
      (try simp (disch := first | rfl | decide) only [Rel7.mask_in] at f12)
      rw [f12] at e12
      clear f12
      have hbw := undrew (hA.be w1.heap.size (Nat.le_refl _) (fun q h => absurd h (Nat.not_lt_zero _)))
      have htw := tab_below HTB.out hbw
      clear hA
      refine ⟨(by rfl), fun K hK => ?_⟩
      go_simp
      refine (place_p Z1 ln cl _ htw (by omega) b4 b5).mono ?_
      rintro e w' ⟨rfl, hb⟩
      exact hK.out _ _ (by rw [HZ2.out]) hb
    refine Rel7.Chain.call (fun xs v w => v = .string ⟨S8.toArray⟩) (fun _ _ _ _ h _ => h) (fun _ _ _ _ _ h _ _ => h) (by rfl) (fun T xs wr hA => ?_) ?_
    · have hsw := (hA.be 0 (Nat.zero_le _) (fun _ _ => Nat.zero_le _)).size
      have e13 := hA.tm 7 13 (by rfl) (by rfl)
      have f13 : xs 7 = (.string ⟨Z2.toArray⟩) := hA.fa 7 (by rfl)
      rw [f13] at e13
      clear f13
      clear hA
      refine ⟨(by rfl), fun K hK => ?_⟩
      go_simp
      rw [if_neg (by omega)]
      exact hK.out _ _ (congrArg Value.string (by rw [HS8.out]; exact cat _ _)) (Below.refl _ _)
    refine Rel7.Chain.call (fun xs v w => v = .string ⟨S9.toArray⟩) (fun _ _ _ _ h _ => h) (fun _ _ _ _ _ h _ _ => h) (by rfl) (fun T xs wr hA => ?_) ?_
    · have hsw := (hA.be 0 (Nat.zero_le _) (fun _ _ => Nat.zero_le _)).size
      have e14 := hA.tm 8 14 (by rfl) (by rfl)
      have f14 : xs 8 = (.string ⟨S8.toArray⟩) := hA.fa 8 (by rfl)
      rw [f14] at e14
      clear f14
      clear hA
      refine ⟨(by rfl), fun K hK => ?_⟩
      go_simp
      rw [if_neg (by omega)]
      exact hK.out _ _ (congrArg Value.string (by rw [HS9.out]; exact cat _ _)) (Below.refl _ _)
    refine Rel7.Chain.det ?_ (by rfl) (fun T xs wr hA => ?_) ?_
    rotate_left 1
    · have e15 := hA.tm 9 15 (by rfl) (by rfl)
      have f15 : xs 9 = (.string ⟨S9.toArray⟩) := hA.fa 9 (by rfl)
      rw [f15] at e15
      clear f15
      clear hA
      refine ⟨(by rfl), ?_⟩
      go_simp <;> (try with_reducible rfl)
    refine Rel7.Chain.done (fun xs w2 hL => ?_)
    obtain ⟨⟨hbe, hbl⟩, hf, -, -⟩ := hL
    have f0 : xs 0 = _ := hf 0 (by decide)
    (try simp (disch := first | rfl | decide) only [Rel7.mask_in] at f0)
    have f1 : xs 1 = _ := hf 1 (by decide)
    (try simp (disch := first | rfl | decide) only [Rel7.mask_in] at f1)
    have f2 : xs 2 = (.string ⟨Z1.toArray⟩) := hf 2 (by decide)
    have f3 : xs 3 = _ := hf 3 (by decide)
    (try simp (disch := first | rfl | decide) only [Rel7.mask_in] at f3)
    have f4 : xs 4 = _ := hf 4 (by decide)
    (try simp (disch := first | rfl | decide) only [Rel7.mask_in] at f4)
    have f5 : xs 5 = _ := hf 5 (by decide)
    (try simp (disch := first | rfl | decide) only [Rel7.mask_in] at f5)
    have f6 : xs 6 = _ := hf 6 (by decide)
    (try simp (disch := first | rfl | decide) only [Rel7.mask_in] at f6)
    have f7 : xs 7 = (.string ⟨Z2.toArray⟩) := hf 7 (by decide)
    have f8 : xs 8 = (.string ⟨S8.toArray⟩) := hf 8 (by decide)
    have f9 : xs 9 = (.string ⟨S9.toArray⟩) := hf 9 (by decide)
    have f10 : xs 10 = _ := hf 10 (by decide)
    (try simp (disch := first | rfl | decide) only [Rel7.mask_in] at f10)
    have hb0 : Below 0 w1 w2 := undrew (hbe 0 (Nat.zero_le _) (fun _ _ => Nat.zero_le _))
    have hgr : ∀ j, j < w1.heap.size → (∀ q, q < 0 → (fun q => 0) q ≠ j) → w2.heap[j]? = w1.heap[j]? := hbl
    clear hbe hbl hf
    have hb : Below w1.heap.size w1 w2 := ⟨hb0.os, hb0.tape, hb0.output, hb0.size, fun q hq => hgr q hq (fun q h => absurd h (Nat.not_lt_zero _))⟩
    refine Rel7.rest_done ?_
    simp only [Rel7.fill, List.setIfInBounds_toArray, List.set_cons_zero, List.set_cons_succ, f0, f1, f2, f3, f4, f5, f6, f7, f8, f9, f10]
    clear hb0 hgr hog hlt_e f0 f1 f2 f3 f4 f5 f6 f7 f8 f9 f10
    replace HBe := Lib.hid ((hb.block _ (lt_of_block HBe.out)).trans HBe.out)
    replace HBW := Lib.hid (HBW.out.trans (hb.mono HBW.out.size))
    replace HTB := Lib.hid (tab_below HTB.out hb)
    replace HGI := Lib.hid (HGI.out.below hb)
    replace HD := Lib.hid (grown_tr HD.out (below_grown hb (some 0)))
    have hsz2 := HD.out.size
    clear hb
    obtain ⟨Sn, hSn⟩ : ∃ l : Bs, l = S9 ++ fname k nm ot z := ⟨_, rfl⟩
    have lSn : Sn.length ≤ 400000000 := by rw [hSn, List.length_append]; omega
    have HSn := Lib.hid hSn
    have HFR : Hid (frm (.node k nm ot z ln cl ks) = Sn ++ frms ks ++ [41]) := Lib.hid (by rw [HFE.out, HSn.out, HS9.out, HS8.out, HZ2.out, HZ1.out]; unfold opn; simp only [List.append_assoc])
    have h9s : (⟨S9.toArray⟩ : ByteArray).size = S9.length := rfl
    have hns : (⟨nm.toArray⟩ : ByteArray).size = nm.length := rfl
    have hos : (⟨ot.toArray⟩ : ByteArray).size = ot.length := rfl
    clear hSn HFE
    by_cases hk0 : k = 0
    · subst hk0
      have x0 := cell_at (v := .int .i64 ((0 : Nat) : Int)) HBe.out 0 rfl
      have x1 := cell_at (v := .string ⟨nm.toArray⟩) HBe.out 1 rfl
      have x2 := cell_at (v := .string ⟨ot.toArray⟩) HBe.out 2 rfl
      have x3 := cell_at (v := .bool false) HBe.out 3 rfl
      have x4 := cell_at (v := .slice xao xn xq) HBe.out 4 rfl
      have x5 := cell_at (v := .slice xko ks.length xkc) HBe.out 5 rfl
      have x6 := cell_at (v := .int .i64 (ln : Nat)) HBe.out 6 rfl
      have x7 := cell_at (v := .int .i64 (cl : Nat)) HBe.out 7 rfl
      go_wp2_with fail
      refine (wtext_any _ (z : Nat) m w2 HTB.out HGI.out (by omega)).mono ?_
      rintro e w3 ⟨rfl, hb⟩
      clear x0 x1 x2 x3 x4 x5 x6 x7
      replace HBe := Lib.hid ((hb.block _ (lt_of_block HBe.out)).trans HBe.out)
      replace HBW := Lib.hid (HBW.out.trans (hb.mono HBW.out.size))
      replace HTB := Lib.hid (tab_below HTB.out hb)
      replace HGI := Lib.hid (HGI.out.below hb)
      replace HD := Lib.hid (grown_tr HD.out (below_grown hb (some 0)))
      have hsz3 := HD.out.size
      clear hb
      have hzn : fname 0 nm ot z = zText (z : Nat) := rfl
      obtain ⟨Zz, hZz⟩ : ∃ l : Bs, l = zText (z : Nat) := ⟨_, rfl⟩
      rw [hzn] at hnl HSn
      rw [← hZz] at hnl HSn ⊢
      have hzs : (⟨Zz.toArray⟩ : ByteArray).size = Zz.length := rfl
      clear hZz hzn
      have HQ : Hid (Value.string ((⟨S9.toArray⟩ : ByteArray) ++ ⟨Zz.toArray⟩) = .string ⟨Sn.toArray⟩) := Lib.hid (congrArg Value.string (by rw [HSn.out]; exact cat _ _))
      have x0 := cell_at (v := .int .i64 ((0 : Nat) : Int)) HBe.out 0 rfl
      have x1 := cell_at (v := .string ⟨nm.toArray⟩) HBe.out 1 rfl
      have x2 := cell_at (v := .string ⟨ot.toArray⟩) HBe.out 2 rfl
      have x3 := cell_at (v := .bool false) HBe.out 3 rfl
      have x4 := cell_at (v := .slice xao xn xq) HBe.out 4 rfl
      have x5 := cell_at (v := .slice xko ks.length xkc) HBe.out 5 rfl
      have x6 := cell_at (v := .int .i64 (ln : Nat)) HBe.out 6 rfl
      have x7 := cell_at (v := .int .i64 (cl : Nat)) HBe.out 7 rfl
      go_wp2_with fail
      clear x0 x1 x2 x3 x4 x5 x6 x7
      clear h9s hns hos
      go_loopw [3, 42] (fun s i wr => ∃ j : Nat, s = .string ⟨(Sn ++ frms (ks.take j)).toArray⟩ ∧ i = .int .i64 (j : Nat) ∧ j ≤ ks.length ∧ Below w.heap.size w wr) (fun _ i _ => ks.length - (intOf i).toNat)
      case atStart => exact ⟨0, by rw [HQ.out, List.take_zero, frms, List.append_nil], rfl, Nat.zero_le _, HBW.out⟩
      case round =>
        obtain ⟨j, rfl, rfl, hj, hbw⟩ := hrel
        obtain ⟨Sj, hSj⟩ : ∃ l : Bs, l = Sn ++ frms (ks.take j) := ⟨_, rfl⟩
        have lSj : Sj.length ≤ 700000000 := by rw [hSj, List.length_append]; have := frms_take_le ks j; omega
        rw [← hSj]
        have HSj := Lib.hid hSj
        have HW2 := Lib.hid hbw
        have hss : (⟨Sj.toArray⟩ : ByteArray).size = Sj.length := rfl
        clear hSj
        by_cases hlt : j < ks.length
        · obtain ⟨y, hA, hT⟩ := HK.out j hlt
          rw [Nat.zero_add] at hA
          have hT' := hT.below hbw
          obtain ⟨a, rfl, hc⟩ := hA.keep fun a ha => hbw.block _ (hA.lt a ha)
          obtain ⟨c0, c1, c2, c3, c4, c5, c6, c7⟩ := cells8 hc
          have HU := Lib.hid hT'
          have hT1 := frms_take ks j hlt
          have hxl : (frm ks[j]).length ≤ 300000000 := by have := frms_take_le ks (j + 1); rw [hT1, List.length_append] at this; omega
          have HT1 : Hid (frms (ks.take (j + 1)) = frms (ks.take j) ++ frm ks[j]) := Lib.hid hT1
          have HUB := Lib.hid (HKS.out j hlt)
          have HUD : Hid (ud ks[j] ≤ d) := Lib.hid (Nat.le_trans (HKD.out j hlt) HHD.out)
          generalize ks[j] = v at *
          have HTW := Lib.hid (tab_below HTW0.out hbw)
          clear hc hA hT hT' hbw hT1
          go_wp2_with fail
          have hbx : Below wr.heap.size wr _ := (Below.refl wr.heap.size wr).alloc (Nat.le_refl _) (.cells #[.int .i64 y.k, .string y.nm, .string y.ot, .bool y.b, .slice y.ao y.n y.c, .slice y.ko y.kn y.kc, .int .i64 y.ln, .int .i64 y.cl] 45)
          refine (IH.out (by omega) y v _ (tab_below HTW.out hbx) (HU.out.below hbx) HUB.out HUD.out hxl).mono ?_
          rintro e w9 ⟨rfl, hb2⟩
          have HB2 := Lib.hid hb2
          have hvs : (⟨(frm v).toArray⟩ : ByteArray).size = (frm v).length := rfl
          clear hb2 hbx c0 c1 c2 c3 c4 c5 c6 c7
          go_wp2_with fail
          go_roundw
          case rel => exact ⟨j + 1, by rw [HT1.out, ← List.append_assoc, ← HSj.out]; exact congrArg Value.string (cat _ _), by go_num, by omega, (HW2.out.alloc HW2.out.size _).trans (HB2.out.mono (by have := HW2.out.size; simp; omega))⟩
          case measure => simp [intOf]; omega
        · have e : j = ks.length := by omega
          subst e
          rw [List.take_length] at HSj
          clear hbw
          go_wp2_with fail
          go_ret
          exact ⟨by rw [HFR.out, ← HSj.out, ← cat]; rfl, HW2.out⟩
    · have hkz : (((k : Nat) : Int) == 0) = false := by rw [beq_eq_false_iff_ne]; omega
      by_cases hk27 : k = 27
      · have hk7 : (((k : Nat) : Int) == 27) = true := by rw [hk27]; rfl
        have hzn : fname k nm ot z = nm ++ [32] ++ ot := by rw [hk27]; rfl
        rw [hzn] at hnl HSn
        clear hzn hk27
        have h32 : (⟨#[32]⟩ : ByteArray).size = 1 := rfl
        have hQ : (⟨S9.toArray⟩ : ByteArray) ++ ((⟨nm.toArray⟩ ++ ⟨#[32]⟩) ++ ⟨ot.toArray⟩) = ⟨Sn.toArray⟩ := by rw [show (⟨#[32]⟩ : ByteArray) = ⟨([32] : Bs).toArray⟩ from rfl, cat, cat, cat, HSn.out]
        have HQ : Hid (Value.string ((⟨S9.toArray⟩ : ByteArray) ++ ((⟨nm.toArray⟩ ++ ⟨#[32]⟩) ++ ⟨ot.toArray⟩)) = .string ⟨Sn.toArray⟩) := Lib.hid (congrArg Value.string hQ)
        clear hQ
        have x0 := cell_at (v := .int .i64 (k : Nat)) HBe.out 0 rfl
        have x1 := cell_at (v := .string ⟨nm.toArray⟩) HBe.out 1 rfl
        have x2 := cell_at (v := .string ⟨ot.toArray⟩) HBe.out 2 rfl
        have x3 := cell_at (v := .bool false) HBe.out 3 rfl
        have x4 := cell_at (v := .slice xao xn xq) HBe.out 4 rfl
        have x5 := cell_at (v := .slice xko ks.length xkc) HBe.out 5 rfl
        have x6 := cell_at (v := .int .i64 (ln : Nat)) HBe.out 6 rfl
        have x7 := cell_at (v := .int .i64 (cl : Nat)) HBe.out 7 rfl
        go_wp2_with fail
        clear x0 x1 x2 x3 x4 x5 x6 x7
        clear h9s hns hos
        go_loopw [3, 42] (fun s i wr => ∃ j : Nat, s = .string ⟨(Sn ++ frms (ks.take j)).toArray⟩ ∧ i = .int .i64 (j : Nat) ∧ j ≤ ks.length ∧ Below w.heap.size w wr) (fun _ i _ => ks.length - (intOf i).toNat)
        case atStart => exact ⟨0, by rw [HQ.out, List.take_zero, frms, List.append_nil], rfl, Nat.zero_le _, HBW.out⟩
        case round =>
          obtain ⟨j, rfl, rfl, hj, hbw⟩ := hrel
          obtain ⟨Sj, hSj⟩ : ∃ l : Bs, l = Sn ++ frms (ks.take j) := ⟨_, rfl⟩
          have lSj : Sj.length ≤ 700000000 := by rw [hSj, List.length_append]; have := frms_take_le ks j; omega
          rw [← hSj]
          have HSj := Lib.hid hSj
          have HW2 := Lib.hid hbw
          have hss : (⟨Sj.toArray⟩ : ByteArray).size = Sj.length := rfl
          clear hSj
          by_cases hlt : j < ks.length
          · obtain ⟨y, hA, hT⟩ := HK.out j hlt
            rw [Nat.zero_add] at hA
            have hT' := hT.below hbw
            obtain ⟨a, rfl, hc⟩ := hA.keep fun a ha => hbw.block _ (hA.lt a ha)
            obtain ⟨c0, c1, c2, c3, c4, c5, c6, c7⟩ := cells8 hc
            have HU := Lib.hid hT'
            have hT1 := frms_take ks j hlt
            have hxl : (frm ks[j]).length ≤ 300000000 := by have := frms_take_le ks (j + 1); rw [hT1, List.length_append] at this; omega
            have HT1 : Hid (frms (ks.take (j + 1)) = frms (ks.take j) ++ frm ks[j]) := Lib.hid hT1
            have HUB := Lib.hid (HKS.out j hlt)
            have HUD : Hid (ud ks[j] ≤ d) := Lib.hid (Nat.le_trans (HKD.out j hlt) HHD.out)
            generalize ks[j] = v at *
            have HTW := Lib.hid (tab_below HTW0.out hbw)
            clear hc hA hT hT' hbw hT1
            go_wp2_with fail
            have hbx : Below wr.heap.size wr _ := (Below.refl wr.heap.size wr).alloc (Nat.le_refl _) (.cells #[.int .i64 y.k, .string y.nm, .string y.ot, .bool y.b, .slice y.ao y.n y.c, .slice y.ko y.kn y.kc, .int .i64 y.ln, .int .i64 y.cl] 45)
            refine (IH.out (by omega) y v _ (tab_below HTW.out hbx) (HU.out.below hbx) HUB.out HUD.out hxl).mono ?_
            rintro e w9 ⟨rfl, hb2⟩
            have HB2 := Lib.hid hb2
            have hvs : (⟨(frm v).toArray⟩ : ByteArray).size = (frm v).length := rfl
            clear hb2 hbx c0 c1 c2 c3 c4 c5 c6 c7
            go_wp2_with fail
            go_roundw
            case rel => exact ⟨j + 1, by rw [HT1.out, ← List.append_assoc, ← HSj.out]; exact congrArg Value.string (cat _ _), by go_num, by omega, (HW2.out.alloc HW2.out.size _).trans (HB2.out.mono (by have := HW2.out.size; simp; omega))⟩
            case measure => simp [intOf]; omega
          · have e : j = ks.length := by omega
            subst e
            rw [List.take_length] at HSj
            clear hbw
            go_wp2_with fail
            go_ret
            exact ⟨by rw [HFR.out, ← HSj.out, ← cat]; rfl, HW2.out⟩
      · have hk7 : (((k : Nat) : Int) == 27) = false := by rw [beq_eq_false_iff_ne]; omega
        have hzn : fname k nm ot z = nm := by unfold fname; rw [if_neg hk0, if_neg hk27]
        rw [hzn] at hnl HSn
        clear hzn
        have HQ : Hid (Value.string ((⟨S9.toArray⟩ : ByteArray) ++ ⟨nm.toArray⟩) = .string ⟨Sn.toArray⟩) := Lib.hid (congrArg Value.string (by rw [HSn.out]; exact cat _ _))
        have x0 := cell_at (v := .int .i64 (k : Nat)) HBe.out 0 rfl
        have x1 := cell_at (v := .string ⟨nm.toArray⟩) HBe.out 1 rfl
        have x2 := cell_at (v := .string ⟨ot.toArray⟩) HBe.out 2 rfl
        have x3 := cell_at (v := .bool false) HBe.out 3 rfl
        have x4 := cell_at (v := .slice xao xn xq) HBe.out 4 rfl
        have x5 := cell_at (v := .slice xko ks.length xkc) HBe.out 5 rfl
        have x6 := cell_at (v := .int .i64 (ln : Nat)) HBe.out 6 rfl
        have x7 := cell_at (v := .int .i64 (cl : Nat)) HBe.out 7 rfl
        go_wp2_with fail
        clear x0 x1 x2 x3 x4 x5 x6 x7
        clear h9s hns hos
        go_loopw [3, 42] (fun s i wr => ∃ j : Nat, s = .string ⟨(Sn ++ frms (ks.take j)).toArray⟩ ∧ i = .int .i64 (j : Nat) ∧ j ≤ ks.length ∧ Below w.heap.size w wr) (fun _ i _ => ks.length - (intOf i).toNat)
        case atStart => exact ⟨0, by rw [HQ.out, List.take_zero, frms, List.append_nil], rfl, Nat.zero_le _, HBW.out⟩
        case round =>
          obtain ⟨j, rfl, rfl, hj, hbw⟩ := hrel
          obtain ⟨Sj, hSj⟩ : ∃ l : Bs, l = Sn ++ frms (ks.take j) := ⟨_, rfl⟩
          have lSj : Sj.length ≤ 700000000 := by rw [hSj, List.length_append]; have := frms_take_le ks j; omega
          rw [← hSj]
          have HSj := Lib.hid hSj
          have HW2 := Lib.hid hbw
          have hss : (⟨Sj.toArray⟩ : ByteArray).size = Sj.length := rfl
          clear hSj
          by_cases hlt : j < ks.length
          · obtain ⟨y, hA, hT⟩ := HK.out j hlt
            rw [Nat.zero_add] at hA
            have hT' := hT.below hbw
            obtain ⟨a, rfl, hc⟩ := hA.keep fun a ha => hbw.block _ (hA.lt a ha)
            obtain ⟨c0, c1, c2, c3, c4, c5, c6, c7⟩ := cells8 hc
            have HU := Lib.hid hT'
            have hT1 := frms_take ks j hlt
            have hxl : (frm ks[j]).length ≤ 300000000 := by have := frms_take_le ks (j + 1); rw [hT1, List.length_append] at this; omega
            have HT1 : Hid (frms (ks.take (j + 1)) = frms (ks.take j) ++ frm ks[j]) := Lib.hid hT1
            have HUB := Lib.hid (HKS.out j hlt)
            have HUD : Hid (ud ks[j] ≤ d) := Lib.hid (Nat.le_trans (HKD.out j hlt) HHD.out)
            generalize ks[j] = v at *
            have HTW := Lib.hid (tab_below HTW0.out hbw)
            clear hc hA hT hT' hbw hT1
            go_wp2_with fail
            have hbx : Below wr.heap.size wr _ := (Below.refl wr.heap.size wr).alloc (Nat.le_refl _) (.cells #[.int .i64 y.k, .string y.nm, .string y.ot, .bool y.b, .slice y.ao y.n y.c, .slice y.ko y.kn y.kc, .int .i64 y.ln, .int .i64 y.cl] 45)
            refine (IH.out (by omega) y v _ (tab_below HTW.out hbx) (HU.out.below hbx) HUB.out HUD.out hxl).mono ?_
            rintro e w9 ⟨rfl, hb2⟩
            have HB2 := Lib.hid hb2
            have hvs : (⟨(frm v).toArray⟩ : ByteArray).size = (frm v).length := rfl
            clear hb2 hbx c0 c1 c2 c3 c4 c5 c6 c7
            go_wp2_with fail
            go_roundw
            case rel => exact ⟨j + 1, by rw [HT1.out, ← List.append_assoc, ← HSj.out]; exact congrArg Value.string (cat _ _), by go_num, by omega, (HW2.out.alloc HW2.out.size _).trans (HB2.out.mono (by have := HW2.out.size; simp; omega))⟩
            case measure => simp [intOf]; omega
          · have e : j = ks.length := by omega
            subst e
            rw [List.take_length] at HSj
            clear hbw
            go_wp2_with fail
            go_ret
            exact ⟨by rw [HFR.out, ← HSj.out, ← cat]; rfl, HW2.out⟩
end Go.Proofs.YtdpfgfkoboihcaaGreatDoor

/-
  The walk of the law ParseExprs.
-/
namespace Go.Proofs.YtdpfgfkoboihcaaGreatDoor
open Go.RowKit
set_option maxRecDepth 1000000
set_option linter.unusedVariables false

set_option maxHeartbeats 8000000 in
theorem parseExprs_long (l : Bs) (w : World) (hl : 3000 < l.length) (hm : l.length ≤ maxLen) (hop : OpsAt w) :
    Calls Tryz.prog 4 #[.string ⟨l.toArray⟩] w fun e w' => e = .returned (.bool true) ∧ Below w.heap.size w w' := by
  have hsz : (⟨l.toArray⟩ : ByteArray).size = l.length := rfl
  unfold maxLen at hm
  have HO := Lib.hid hop
  clear hop
  go_enter Tryz.func4, Tryz.ntmps4
  go_wp2_with fail
  refine (fit_p w HO.out).mono ?_
  rintro e w1 ⟨rfl, hb⟩
  have HB := Lib.hid hb
  clear hb
  go_wp2_with fail
  go_ret
  exact ⟨rfl, HB.out⟩

set_option maxHeartbeats 8000000 in
theorem parseExprs_short (l : Bs) (w : World) (hl : l.length ≤ 3000) (hop : OpsAt w) (hg : ErrType w) (htab : Pow w) (har : ArT w) :
    Calls Tryz.prog 4 #[.string ⟨l.toArray⟩] w fun e w' => e = .returned (.bool true) ∧ Below w.heap.size w w' := by
  have hsz : (⟨l.toArray⟩ : ByteArray).size = l.length := rfl
  have hd3 : decide ((3000 : Int) < (l.length : Int)) = false := by simp; omega
  obtain ⟨r, y, q1, q2, hcase⟩ := exprs_told l hl
  have HRX : Hid (∀ w', Pow w' → Calls Tryz.prog 12 #[.string ⟨l.toArray⟩] w' fun e w'' => e = .returned (rexV l y) ∧ Below w'.heap.size w' w'') := Lib.hid (fun w' hp => rex_p 40000 l y w' hl hp (tbd_rs0 l hl) q2)
  have HEX : Hid (∀ w', OpsAt w' → Calls Tryz.prog 11 #[.string ⟨l.toArray⟩] w' (ExPost l r w')) := Lib.hid (fun w' ho => exprs_p 30000 (by decide) l r w' (by omega) ho q1)
  have HC := Lib.hid hcase
  have HG := Lib.hid hg
  have HO := Lib.hid hop
  have HT := Lib.hid htab
  have HA := Lib.hid har
  clear hop hg htab har q1 q2 hcase
  go_enter Tryz.func4, Tryz.ntmps4
  go_wp2_with fail
  refine (fit_p w HO.out).mono ?_
  rintro e w1 ⟨rfl, hb⟩
  have HB := Lib.hid hb
  clear hb
  go_wp2_with fail
  refine (HEX.out w1 (HO.out.below HB.out)).mono ?_
  rintro e w2 ⟨hb, hp⟩
  have HP := Lib.hid hp
  have HB2 := Lib.hid (HB.out.trans (hb.mono HB.out.size))
  clear hb hp HEX
  rcases HC.out with ⟨f1, f2, f3, f4⟩ | ⟨c, ln, cl, f1, f2, f3⟩
  · rcases HP.out with ⟨f, ev, hf, -, -⟩ | ⟨-, x, rfl, hu⟩
    · rw [f1] at hf; cases hf
    · have HU := Lib.hid hu
      have HF2 := Lib.hid f2
      have HF3 := Lib.hid f3
      have HF4 := Lib.hid f4
      clear hu f1 f2 f3 f4 HC HP
      obtain ⟨xk, xnm, xot, xb, xao, xn, xq, xko, xkn, xkc, xln, xcl⟩ := x
      simp only [xv]
      go_upto_region 6 with fail
      obtain ⟨w3, hw⟩ : ∃ z, z = w2.alloc (.cells #[.int .i64 xk, .string xnm, .string xot, .bool xb, .slice xao xn xq, .slice xko xkn xkc, .int .i64 xln, .int .i64 xcl] 45) := ⟨_, rfl⟩
      have hb : Below w2.heap.size w2 w3 := by rw [hw]; exact (Below.refl _ _).alloc (Nat.le_refl _) _
      have hk3 : w3.heap[w2.heap.size]? = some (.cells #[.int .i64 xk, .string xnm, .string xot, .bool xb, .slice xao xn xq, .slice xko xkn xkc, .int .i64 xln, .int .i64 xcl] 45 (0, 0)) := by rw [hw]; exact made_at w2 _ _ rfl
      rw [← hw]
      obtain ⟨kb, hkb⟩ : ∃ k, k = w2.heap.size := ⟨_, rfl⟩
      rw [← hkb] at hk3 ⊢
      have HK3 := Lib.hid hk3
      have HB3 := Lib.hid (HB2.out.trans (hb.mono HB2.out.size))
      replace HU := Lib.hid (HU.out.below hb)
      clear hw hb hk3 hkb
      go_wp2_with fail
      refine (HRX.out w3 (tab_below HT.out HB3.out)).mono ?_
      rintro e w4 ⟨rfl, hb⟩
      rw [HF2.out]
      replace HK3 := Lib.hid ((hb.block _ (lt_of_block HK3.out)).trans HK3.out)
      have HB4 := Lib.hid (HB3.out.trans (hb.mono HB3.out.size))
      replace HU := Lib.hid (HU.out.below hb)
      clear hb HRX HF2
      have x0 := cell_at HK3.out 0 rfl
      have x1 := cell_at HK3.out 1 rfl
      have x2 := cell_at HK3.out 2 rfl
      have x3 := cell_at HK3.out 3 rfl
      have x4 := cell_at HK3.out 4 rfl
      have x5 := cell_at HK3.out 5 rfl
      have x6 := cell_at HK3.out 6 rfl
      have x7 := cell_at HK3.out 7 rfl
      have hdp : ud r.1 ≤ 300000000 := Nat.le_trans (frm_deep r.1) HF4.out
      go_wp2_with fail
      refine (form_p 300000000 (by decide) ⟨xk, xnm, xot, xb, xao, xn, xq, xko, xkn, xkc, xln, xcl⟩ r.1 w4 _ (tab_below HT.out HB4.out) HU.out HF3.out hdp HF4.out).mono ?_
      rintro e w5 ⟨rfl, hb⟩
      replace HK3 := Lib.hid ((hb.block _ (lt_of_block HK3.out)).trans HK3.out)
      have HB5 := Lib.hid (HB4.out.trans (hb.mono HB4.out.size))
      replace HU := Lib.hid (HU.out.below hb)
      clear hb x0 x1 x2 x3 x4 x5 x6 x7
      have x0 := cell_at HK3.out 0 rfl
      have x1 := cell_at HK3.out 1 rfl
      have x2 := cell_at HK3.out 2 rfl
      have x3 := cell_at HK3.out 3 rfl
      have x4 := cell_at HK3.out 4 rfl
      have x5 := cell_at HK3.out 5 rfl
      have x6 := cell_at HK3.out 6 rfl
      have x7 := cell_at HK3.out 7 rfl
      go_wp2_with fail
      refine (right_p 300000000 (by decide) ⟨xk, xnm, xot, xb, xao, xn, xq, xko, xkn, xkc, xln, xcl⟩ r.1 w5 _ (HA.out.below HB5.out) HU.out HF3.out hdp).mono ?_
      rintro e w6 ⟨rfl, hb⟩
      have HB6 := Lib.hid (HB5.out.trans (hb.mono HB5.out.size))
      clear hb x0 x1 x2 x3 x4 x5 x6 x7
      go_wp2_with fail
      go_ret
      exact ⟨rfl, HB6.out⟩
  · rcases HP.out with ⟨f, ev, hf, rfl, q, rfl, hA⟩ | ⟨hf, -⟩
    · rw [f2] at hf
      injection hf with hf
      subst hf
      have HA' := Lib.hid hA
      have HF1 := Lib.hid f1
      have HF3 := Lib.hid f3
      have hc2 : c ≤ 2 := by omega
      have hcn : (((c : Nat) : Int) != 0) = true := by simp; omega
      clear hA f1 f2 f3 HC HP
      simp only at HA'
      go_upto_region 6 with fail
      obtain ⟨w3, hw⟩ : ∃ z, z = w2.alloc (.cells #[.int .i64 0, .string ⟨#[]⟩, .string ⟨#[]⟩, .bool false, .slice none 0 0, .slice none 0 0, .int .i64 0, .int .i64 0] 45) := ⟨_, rfl⟩
      have hb : Below w2.heap.size w2 w3 := by rw [hw]; exact (Below.refl _ _).alloc (Nat.le_refl _) _
      have hk3 : w3.heap[w2.heap.size]? = some (.cells #[.int .i64 0, .string ⟨#[]⟩, .string ⟨#[]⟩, .bool false, .slice none 0 0, .slice none 0 0, .int .i64 0, .int .i64 0] 45 (0, 0)) := by rw [hw]; exact made_at w2 _ _ rfl
      rw [← hw]
      obtain ⟨kb, hkb⟩ : ∃ k, k = w2.heap.size := ⟨_, rfl⟩
      rw [← hkb] at hk3 ⊢
      have HK3 := Lib.hid hk3
      have HB3 := Lib.hid (HB2.out.trans (hb.mono HB2.out.size))
      replace HA' := Lib.hid ((hb.block _ (lt_of_block HA'.out)).trans HA'.out)
      clear hw hb hk3 hkb
      go_wp2_with fail
      refine (HRX.out w3 (tab_below HT.out HB3.out)).mono ?_
      rintro e w4 ⟨rfl, hb⟩
      rw [HF3.out]
      replace HK3 := Lib.hid ((hb.block _ (lt_of_block HK3.out)).trans HK3.out)
      have HB4 := Lib.hid (HB3.out.trans (hb.mono HB3.out.size))
      replace HA' := Lib.hid ((hb.block _ (lt_of_block HA'.out)).trans HA'.out)
      clear hb HRX HF3
      go_wp2_with fail
      refine (fault_at q (ln, cl) c HF1.out w4 (HG.out.below HB4.out) HA'.out).mono ?_
      rintro e w5 ⟨rfl, hb⟩
      replace HK3 := Lib.hid ((hb.block _ (lt_of_block HK3.out)).trans HK3.out)
      have HB5 := Lib.hid (HB4.out.trans (hb.mono HB4.out.size))
      clear hb
      have x5 := cell_at HK3.out 5 rfl
      have x6 := cell_at HK3.out 6 rfl
      go_wp2_with fail
      go_ret
      exact ⟨rfl, HB5.out⟩
    · rw [f2] at hf; cases hf

theorem parseExprs_walk (s : ByteArray) (w : World) (hm : s.size ≤ maxLen) (hop : OpsAt w) (hg : ErrType w) (htab : Pow w) (har : ArT w) :
    Calls Tryz.prog 4 #[.string s] w fun e w' => e = .returned (.bool true) ∧ Below w.heap.size w w' := by
  obtain ⟨l, rfl⟩ : ∃ l : Bs, s = ⟨l.toArray⟩ := ⟨s.data.toList, rfl⟩
  have hsz : (⟨l.toArray⟩ : ByteArray).size = l.length := rfl
  by_cases hl : l.length ≤ 3000
  · exact parseExprs_short l w hl hop hg htab har
  · exact parseExprs_long l w (by omega) (by omega) hop
end Go.Proofs.YtdpfgfkoboihcaaGreatDoor

/-
  What the frames of layer 6's laws share: what the rows' condition says of the listed variables (the errors' type, the tables of operators, of arities, of powers of ten), and a world that meets it.
-/
namespace Go.Proofs.YtdpfgfkoboihcaaGreatDoor
open Go.ChangeShapes Go.WideShapes Go.ChangeAt Go.RowKit
set_option maxRecDepth 100000

theorem errGlobal : Tryz.prog.globalNamed "errors.errorType" = some 0 := by kernel_rfl
theorem rtypeRow : (Tryz.prog.cutTypes.find? (·.1 == "internal/reflectlite.rtype")).map (·.2) = some 165 := by kernel_rfl
theorem errRow : ((List.range Tryz.prog.types.size).filter fun t => Tryz.prog.rowNamed t [101, 114, 114, 111, 114]) = [28] := by kernel_rfl
theorem gOps : (Tryz.prog.globalNamed "litmus/parse.operators").bind (fun g => (Tryz.prog.globals[g]?).map fun x => (Tryz.prog.underlying x.type, Tryz.prog.cellsOf x.type)) = some (some (.array 14 200), 70) := by kernel_rfl
theorem nOps : Tryz.prog.globalNamed "litmus/parse.operators" = some 3 := by kernel_rfl
theorem cells5Op : Tryz.prog.cellsOf 200 = 5 := by kernel_rfl
theorem cells1Int : Tryz.prog.cellsOf 3 = 1 := by kernel_rfl
theorem cells1Str : Tryz.prog.cellsOf 9 = 1 := by kernel_rfl
theorem cells1Kind : Tryz.prog.cellsOf 38 = 1 := by kernel_rfl
def opD (op : Bop) : DataW Unit := .agg [.lit (.string op.sign), .lit (.int .i64 (op.kind : Nat)), .lit (.int .i64 (op.level : Nat)), .lit (.int .i64 (op.left : Nat)), .lit (.int .i64 (op.right : Nat))]
theorem opsData : (Rows.laid_litmus_parse_operators : DataW Unit) = .agg (bops.map opD) := by rfl

theorem op_cells {enc : TypeId × Value → Unit} {w : World} {base : Nat} {sp : Nat → Bool} {held : Bool} {fuel : Nat} {cs : List Value} {y : DataW Unit × List MemPlace} {op : Bop}
    (h : DataW.trod enc Tryz.prog w base sp held fuel 200 cs = some y) (hy : y.1 = opD op) : cs = opC op := by
  obtain ⟨xs, n, rfl, rfl, hl, hx, hf⟩ := DataW.trod_struct Tryz.underlying200 h
  have h0 : DataW.trod enc Tryz.prog w base sp held n 9 ((cs.drop 0).take (Tryz.prog.cellsOf 9)) = xs[0]? := hf 0 _ rfl
  have h1 : DataW.trod enc Tryz.prog w base sp held n 38 ((cs.drop 1).take (Tryz.prog.cellsOf 38)) = xs[1]? := hf 1 _ rfl
  have h2 : DataW.trod enc Tryz.prog w base sp held n 3 ((cs.drop 2).take (Tryz.prog.cellsOf 3)) = xs[2]? := hf 2 _ rfl
  have h3 : DataW.trod enc Tryz.prog w base sp held n 3 ((cs.drop 3).take (Tryz.prog.cellsOf 3)) = xs[3]? := hf 3 _ rfl
  have h4 : DataW.trod enc Tryz.prog w base sp held n 3 ((cs.drop 4).take (Tryz.prog.cellsOf 3)) = xs[4]? := hf 4 _ rfl
  rw [cells5Op] at hl
  match xs, hx with
  | [a0, a1, a2, a3, a4], _ =>
    match cs, hl with
    | [c0, c1, c2, c3, c4], _ =>
      simp only [List.getElem?_cons_zero, List.getElem?_cons_succ] at h0 h1 h2 h3 h4
      simp only [opD, List.map_cons, List.map_nil, DataW.agg.injEq, List.cons.injEq, and_true] at hy
      obtain ⟨y0, y1, y2, y3, y4⟩ := hy
      obtain ⟨s0, e0, rfl, _⟩ := DataW.trod_string Tryz.underlying9 h0
      obtain ⟨s1, e1, rfl, _⟩ := DataW.trod_int Tryz.underlying38 h1
      obtain ⟨s2, e2, rfl, _⟩ := DataW.trod_int Tryz.underlying3 h2
      obtain ⟨s3, e3, rfl, _⟩ := DataW.trod_int Tryz.underlying3 h3
      obtain ⟨s4, e4, rfl, _⟩ := DataW.trod_int Tryz.underlying3 h4
      simp only [cells1Int, cells1Str, cells1Kind, List.drop_zero, List.take_succ_cons, List.take_zero, List.drop_succ_cons, List.cons.injEq, and_true] at e0 e1 e2 e3 e4
      simp only [DataW.lit.injEq, Lit.string.injEq, Lit.int.injEq, true_and] at y0 y1 y2 y3 y4
      subst e0 e1 e2 e3 e4
      rw [y1, y2, y3, y4]
      unfold opC
      rw [← y0]

theorem cells_of_ops {enc : TypeId × Value → Unit} {w : World} {base : Nat} {sp : Nat → Bool} {held : Bool} {fuel : Nat} {t : TypeId} {cs : List Value} {l : List Bop} {p : List MemPlace} {n : Nat}
    (ht : Tryz.prog.underlying t = some (.array n 200)) (hct : Tryz.prog.cellsOf t = n * 5)
    (h : DataW.trod enc Tryz.prog w base sp held fuel t cs = some (.agg (l.map opD), p)) : cs = l.flatMap opC := by
  obtain ⟨xs, m, rfl, he, hl, hx, hf⟩ := DataW.trod_array ht h
  rw [hct] at hl
  rw [cells5Op] at hf
  have hxs : l.map opD = xs.map (·.1) := by injection he with he _; injection he
  have hln : l.length = n := by have := congrArg List.length hxs; simp at this; omega
  clear h he hct ht
  clear hx
  induction l generalizing cs xs n with
  | nil => simp at hln; subst hln; simpa using hl
  | cons op l ih =>
    match xs, hxs with
    | a :: xs, hxs =>
      match n, hln with
      | n + 1, hln =>
        simp only [List.map_cons, List.cons.injEq] at hxs
        have h0 := hf 0 (by omega)
        simp only [Nat.zero_mul, List.drop_zero, List.getElem?_cons_zero] at h0
        have hc := op_cells h0 hxs.1.symm
        have := ih (cs := cs.drop 5) (xs := xs) (n := n) (by rw [List.length_drop, hl]; omega) (fun i hi => by
          have := hf (i + 1) (by omega)
          simp only [List.getElem?_cons_succ] at this
          rw [List.drop_drop, show 5 + i * 5 = (i + 1) * 5 by omega]; exact this) hxs.2 (by simpa using hln)
        rw [List.flatMap_cons, ← this, ← hc, List.take_append_drop]

theorem gPow7 : (Tryz.prog.globalNamed "internal/strconv.uint64pow10").bind (fun g => (Tryz.prog.globals[g]?).map fun x => (Tryz.prog.underlying x.type, Tryz.prog.cellsOf x.type)) = some (some (.array 20 184), 20) := by kernel_rfl
theorem cellsU647 : Tryz.prog.cellsOf 184 = 1 := by kernel_rfl
theorem powData7 : (Rows.laid_internal_strconv_uint64pow10 : DataW Unit) = Lib.tabData .u64 Lib.pow10Tab := rfl
theorem gArs7 : (Tryz.prog.globalNamed "litmus/tree.arities").bind (fun g => (Tryz.prog.globals[g]?).map fun x => (Tryz.prog.underlying x.type, Tryz.prog.cellsOf x.type)) = some (some (.array 29 3), 29) := by kernel_rfl
theorem nArs7 : Tryz.prog.globalNamed "litmus/tree.arities" = some 1 := by kernel_rfl
def arTab7 : List Int := (List.range 29).map arW
theorem arData7 : (Rows.laid_litmus_tree_arities : DataW Unit) = Lib.tabData .i64 arTab7 := by rfl

theorem ops_of_var {W : World} {g : Nat} {t : TypeId} {cs : Array Value} {fuel : Nat} {p : List MemPlace} (hg : Tryz.prog.globalNamed "litmus/parse.operators" = some g) (ht : (Tryz.prog.globals[g]?).map (·.type) = some t) (hvar : W.var? Tryz.prog "litmus/parse.operators" = some cs)
    (hd : DataW.trod (fun _ => ()) Tryz.prog W 0 (fun _ => true) false fuel t cs.toList = some (Rows.laid_litmus_parse_operators, p)) : OpsAt W := by
  have e := gOps
  rw [hg, Option.bind_some] at e
  obtain ⟨x, hx, ex⟩ := Option.map_eq_some_iff.1 e
  rw [hx, Option.map_some] at ht
  injection ht with ht
  injection ex with e1 e2
  rw [ht] at e1 e2
  have hc := cells_of_ops e1 (by rw [e2]) (opsData ▸ hd)
  intro j v hv
  rw [World.var?_cell nOps hvar j]
  have : cs[j]? = cs.toList[j]? := by simp
  rw [this, hc]
  exact hv

theorem laid_all {W : World} (h : laidMetH Tryz.prog Rows.parseExprsRow.laid W) : OpsAt W ∧ Lib.TabIs Tryz.prog W "internal/strconv.uint64pow10" .u64 Lib.pow10Tab ∧ ArT W := by
  have h1 : laidMet Tryz.prog [("math/bits.deBruijn32tab", Rows.laid_math_bits_deBruijn32tab), ("math/bits.deBruijn64tab", Rows.laid_math_bits_deBruijn64tab), ("internal/strconv.uint64pow10", Rows.laid_internal_strconv_uint64pow10), ("litmus/tree.arities", Rows.laid_litmus_tree_arities), ("litmus/parse.operators", Rows.laid_litmus_parse_operators)] W := (laidMetH_iff.1 h).1
  obtain ⟨_, ⟨_, _, _, _, _, _, _, _, _, _, ⟨_, _, _, _, _, _, _, _, _, _, ⟨g, t, cs, fuel, p, q, hg, ht, hvar, hd, ⟨g1, t1, cs1, fuel1, p1, q1, hg1, ht1, hvar1, hd1, ⟨g2, t2, cs2, fuel2, p2, q2, hg2, ht2, hvar2, hd2, _, _⟩, _⟩, _⟩, _⟩, _⟩, _⟩ := h1
  refine ⟨ops_of_var hg2 ht2 hvar2 hd2, ?_, fun i hi => ?_⟩
  · have e := gPow7
    rw [hg, Option.bind_some] at e
    obtain ⟨x, hx, ex⟩ := Option.map_eq_some_iff.1 e
    rw [hx, Option.map_some] at ht
    injection ht with ht
    injection ex with e1 e2
    rw [ht] at e1 e2
    unfold Lib.TabIs
    rw [hvar, ← Lib.cells_of_tab e1 Tryz.underlying184 cellsU647 e2 (powData7 ▸ hd)]
  · have e := gArs7
    rw [hg1, Option.bind_some] at e
    obtain ⟨x, hx, ex⟩ := Option.map_eq_some_iff.1 e
    rw [hx, Option.map_some] at ht1
    injection ht1 with ht1
    injection ex with e1 e2
    rw [ht1] at e1 e2
    have hc := Lib.cells_of_tab e1 Tryz.underlying3 cells1Int e2 (arData7 ▸ hd1)
    rw [World.var?_cell nArs7 hvar1 i]
    have : cs1[i]? = cs1.toList[i]? := by simp
    rw [this, hc]
    unfold arTab7
    simp [hi]
theorem ops_of_laid {W : World} (h : laidMetH Tryz.prog Rows.parseExprsRow.laid W) : OpsAt W := (laid_all h).1
theorem pow_of_laid {W : World} (h : laidMetH Tryz.prog Rows.parseExprsRow.laid W) : Lib.TabIs Tryz.prog W "internal/strconv.uint64pow10" .u64 Lib.pow10Tab := (laid_all h).2.1
theorem ar_of_laid {W : World} (h : laidMetH Tryz.prog Rows.parseExprsRow.laid W) : ArT W := (laid_all h).2.2

theorem err_of_laid {W : World} (h : laidMetH Tryz.prog Rows.parseExprsRow.laid W) : ErrType W := by
  have h' : handlesMet Tryz.prog [("errors.errorType", Rows.laid_errors_errorType)] W := (laidMetH_iff.1 h).2
  obtain ⟨name, u, ty, e1, e2, e3, e4, e5⟩ := h' _ (List.mem_singleton.2 rfl)
  have en : name = [101, 114, 114, 111, 114] := (Option.some.inj e1).symm
  subst en
  obtain rfl := Option.some.inj (rtypeRow.symm.trans e2)
  have hm : ty ∈ (List.range Tryz.prog.types.size).filter fun t => Tryz.prog.rowNamed t [101, 114, 114, 111, 114] := List.mem_filter.2 ⟨List.mem_range.2 e3, e4⟩
  rw [errRow] at hm
  obtain rfl := List.mem_singleton.1 hm
  have hh : typeHandle Tryz.prog 28 = .pointer (some ⟨Tryz.prog.globals.size, 28, none⟩) := by kernel_rfl
  rw [hh, gSize] at e5
  unfold ErrType
  simpa using World.var?_cell errGlobal e5 0

/-- A world that meets the condition: what the program's start leaves, the errors' type laid. -/
noncomputable def laidWorld (os : Os) : World :=
  let w0 := World.doorLaid Tryz.prog 4000 os
  { w0 with heap := w0.heap.modify 0 fun
      | .cells _ t frozen => .cells #[.iface 165 (.agg #[.pointer (some ⟨Tryz.prog.globals.size, 28, none⟩)])] t frozen
      | o => o }
theorem laid_met (os : Os) (args : Array Value) : laidMetH Tryz.prog Rows.parseExprsRow.laid ((laidWorld os).forCall (fun _ _ => 0) ⟨#[], args, []⟩).memory :=
  laidMetH_of_parts (laidMet_of_run' 24 (by kernel_rfl) (by kernel_rfl)) (by kernel_rfl)
end Go.Proofs.YtdpfgfkoboihcaaGreatDoor
