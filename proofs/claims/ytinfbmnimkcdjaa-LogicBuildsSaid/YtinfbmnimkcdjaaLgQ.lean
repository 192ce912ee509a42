/-
  Size, Less; the anchor of the laws.
-/
import Derived.Test.YtinfbmnimkcdjaaLgP
namespace Go.Proofs.Ytinfbmnimkcdjaa
open Go.RowKit
set_option maxRecDepth 100000
set_option linter.unusedVariables false
set_option linter.unusedSimpArgs false

attribute [local go_sem] fieldV0 fieldV1 fieldV2 fieldV3
set_option maxHeartbeats 4000000 in
theorem size_p (d : Nat) : ∀ (v : Value) (t : F) (S : Nat → Prop) (w : World), FC w S d v t → szF t ≤ 1000000 →
    Calls Try.prog 32 #[v] w fun e w' => e = .returned (.int .i64 (szF t : Nat)) ∧ Below w.heap.size w w' := by
  induction d with
  | zero => intro v t S w h; obtain ⟨_, _, _, _, _, _, _, _, _, h0, _⟩ := h.open; omega
  | succ d ih =>
    intro v t S w h hsz
    obtain ⟨b, ao, l, c, ko, kl, kc, rfl, ⟨hr, hz, hkl, hkc, hkm⟩, -, hk⟩ := h.open
    obtain ⟨o, z, nm, ks⟩ := t
    simp only [F.op, F.num, F.name, F.kids] at hr hz hk hkl ⊢
    obtain ⟨n, hn⟩ : ∃ n, n = ks.length := ⟨_, rfl⟩
    rw [← hn] at hkl
    subst hkl
    have HN := Lib.hid hn
    have HSZ := Lib.hid hsz
    clear hn hr hz h hsz
    have HX := Lib.hid hk
    have IH := Lib.hid ih
    clear hk ih
    have HW := Lib.hid (Below.refl w.heap.size w)
    have hkm' : kc ≤ 9223372036854775807 := hkm
    go_enter Try.func32, Try.ntmps32
    obtain ⟨x1, kf, ef, ekf, hbf, hkf, HBf⟩ := newV w #[.int .i64 o, .bool b, .slice ao l c, .string nm, .slice ko kl kc] 29
    replace HX := Lib.hid (HX.out.below hbf.out)
    replace HW := Lib.hid (HW.out.trans (hbf.out.mono HW.out.size))
    have c0 := cell_at (v := .int .i64 o) HBf.out 0 rfl
    have fc0 := froz_at HBf.out 0
    have c1 := cell_at (v := .bool b) HBf.out 1 rfl
    have fc1 := froz_at HBf.out 1
    have c2 := cell_at (v := .slice ao l c) HBf.out 2 rfl
    have fc2 := froz_at HBf.out 2
    have c3 := cell_at (v := .string nm) HBf.out 3 rfl
    have fc3 := froz_at HBf.out 3
    have c4 := cell_at (v := .slice ko kl kc) HBf.out 4 rfl
    have fc4 := froz_at HBf.out 4
    go_wp2_with fail
    clear c0 fc0 c1 fc1 c2 fc2 c3 fc3 c4 fc4
    go_loopw [3, 9] (fun m i wr => ∃ j : Nat, m = .int .i64 ((1 + szsF (ks.take j) : Nat) : Int) ∧ i = .int .i64 (j : Nat) ∧ j ≤ kl ∧ Hid (Below x1.heap.size x1 wr)) (fun _ i _ => kl - (intOf i).toNat)
    case atStart => exact ⟨0, rfl, rfl, Nat.zero_le _, Lib.hid (Below.refl _ _)⟩
    case round =>
      obtain ⟨j, rfl, rfl, hj, HB⟩ := hrel
      replace HX := Lib.hid (HX.out.below HB.out)
      replace HW := Lib.hid (HW.out.trans (HB.out.mono HW.out.size))
      by_cases hlt : j < kl
      · have hz : j < ks.length := by rw [← HN.out]; exact hlt
        obtain ⟨a, bb, qo, ql, qc, po, pl, pc, rfl, ⟨c0, c1, c2, c3, c4⟩, hf⟩ := HX.out.cells j hz
        have HFC := Lib.hid hf
        clear hf
        obtain ⟨x, hxx⟩ : ∃ x, x = ks[j].op := ⟨_, rfl⟩
        obtain ⟨ym, hnm⟩ : ∃ x, x = ks[j].name := ⟨_, rfl⟩
        rw [← hxx] at c0 HFC
        rw [← hnm] at c3 HFC
        clear hxx hnm
        have hst := szsF_take ks j hz
        have hle := szsF_take_le ks (j + 1)
        have hs1 : szsF ks + 1 ≤ 1000000 := by have := HSZ.out; rw [szF] at this; omega
        have HST := Lib.hid hst
        have hb1 : szsF (ks.take j) ≤ 1000000 := by omega
        have hb2 : szF ks[j] ≤ 1000000 := by omega
        have hb3 : szsF (ks.take j) + szF ks[j] ≤ 1000000 := by omega
        clear hst hle hs1
        obtain ⟨x2, k8, e8, ek8, hb8, hk8, HB8⟩ := newV wr #[.int .i64 x, .bool bb, .slice qo ql qc, .string ym, .slice po pl pc] 29
        replace HW := Lib.hid (HW.out.trans (hb8.out.mono HW.out.size))
        replace HB := Lib.hid (HB.out.trans (hb8.out.mono HB.out.size))
        replace HFC := Lib.hid (HFC.out.below hb8.out)
        have g0 := cell_at (v := .int .i64 x) HB8.out 0 rfl
        have fg0 := froz_at HB8.out 0
        have g1 := cell_at (v := .bool bb) HB8.out 1 rfl
        have fg1 := froz_at HB8.out 1
        have g2 := cell_at (v := .slice qo ql qc) HB8.out 2 rfl
        have fg2 := froz_at HB8.out 2
        have g3 := cell_at (v := .string ym) HB8.out 3 rfl
        have fg3 := froz_at HB8.out 3
        have g4 := cell_at (v := .slice po pl pc) HB8.out 4 rfl
        have fg4 := froz_at HB8.out 4
        go_wp2_with fail
        refine (IH.out _ ks[j] S x2 HFC.out hb2).mono ?_
        rintro e x3 ⟨rfl, hb⟩
        clear g0 fg0 g1 fg1 g2 fg2 g3 fg3 g4 fg4
        replace HB8 := kBV hb HB8
        replace HW := Lib.hid (HW.out.trans (hb.mono HW.out.size))
        replace HB := Lib.hid (HB.out.trans (hb.mono HB.out.size))
        replace HFC := Lib.hid (HFC.out.below hb)
        clear hb HFC
        obtain ⟨X, hX⟩ : ∃ X, X = szF ks[j] := ⟨_, rfl⟩
        obtain ⟨Y, hY⟩ : ∃ Y, Y = szsF (ks.take j) := ⟨_, rfl⟩
        rw [← hX] at HST hb2 hb3 ⊢
        rw [← hY] at HST hb1 hb3 ⊢
        clear hX hY
        go_wp2_with fail
        go_roundw
        case rel => exact ⟨j + 1, by rw [HST.out]; go_num, by go_num, hlt, HB⟩
        case measure => simp [intOf]; omega
      · go_wp2_with fail
        go_ret
        refine ⟨?_, HW.out⟩
        rw [show j = kl by omega, HN.out, List.take_length, szF]; rfl
set_option maxHeartbeats 4000000 in
theorem less_p (va vb : Value) (p q : F) (d : Nat) (w : World) (hd : 1 ≤ d) (hp : FC w tS d va p) (hq : FC w tS (d + 1) vb q) :
    Calls Try.prog 23 #[va, vb] w fun e w' => ∃ v, e = .returned v ∧ FC w' tS (d + 2) v (.node 15 0 ⟨#[]⟩ [.node 2 0 ⟨#[]⟩ [p, .node 0 1 ⟨#[]⟩ []], q]) ∧ Below w.heap.size w w' := by
  have HP := Lib.hid hp
  have HQ := Lib.hid hq
  obtain ⟨pb, po, pl, pc, pko, pkl, pkc, rfl, -, -, -⟩ := hp.open
  obtain ⟨qb, qo, ql, qc, qko, qkl, qkc, rfl, -, -, -⟩ := hq.open
  obtain ⟨p0, hp0⟩ : ∃ x, x = p.op := ⟨_, rfl⟩
  obtain ⟨pn, hpn⟩ : ∃ x, x = p.name := ⟨_, rfl⟩
  obtain ⟨q0, hq0⟩ : ∃ x, x = q.op := ⟨_, rfl⟩
  obtain ⟨qn, hqn⟩ : ∃ x, x = q.name := ⟨_, rfl⟩
  rw [← hp0, ← hpn] at HP ⊢
  rw [← hq0, ← hqn] at HQ ⊢
  clear hp hq hp0 hpn hq0 hqn
  have HW := Lib.hid (Below.refl w.heap.size w)
  have HP0 := Lib.hid HP.out.lt
  have HQ0 := Lib.hid HQ.out.lt
  go_enter Try.func23, Try.ntmps23
  obtain ⟨x1, ka, ea, eka, hba, hka, HBa⟩ := newV w #[.int .i64 p0, .bool pb, .slice po pl pc, .string pn, .slice pko pkl pkc] 29
  replace HW := Lib.hid (HW.out.trans (hba.out.mono HW.out.size))
  replace HP := Lib.hid (HP.out.below hba.out)
  replace HQ := Lib.hid (HQ.out.below hba.out)
  obtain ⟨x2, kq, eq, ekq, hbq, hkq, HBq⟩ := newV x1 #[.int .i64 q0, .bool qb, .slice qo ql qc, .string qn, .slice qko qkl qkc] 29
  replace HBa := kBV hbq.out HBa
  replace HW := Lib.hid (HW.out.trans (hbq.out.mono HW.out.size))
  replace HP := Lib.hid (HP.out.below hbq.out)
  replace HQ := Lib.hid (HQ.out.below hbq.out)
  have HWq := HW
  obtain ⟨x3, kr, er, ekr, hbr, hkr, HBr⟩ := newV x2 #[.int .i64 0, .bool false, .slice none 0 0, .string ⟨#[]⟩, .slice none 0 0] 29
  replace HBa := kBV hbr.out HBa
  replace HBq := kBV hbr.out HBq
  replace HW := Lib.hid (HW.out.trans (hbr.out.mono HW.out.size))
  replace HP := Lib.hid (HP.out.below hbr.out)
  replace HQ := Lib.hid (HQ.out.below hbr.out)
  have HKr : Hid (w.heap.size ≤ kr) := Lib.hid (Nat.le_trans HWq.out.size hkr.out)
  replace HP := Lib.hid ((HP0.out.below HW.out).mono (S' := fun b => b ≠ kr) (fun b hb => by have := HKr.out; omega))
  replace HQ := Lib.hid ((HQ0.out.below HW.out).mono (S' := fun b => b ≠ kr) (fun b hb => by have := HKr.out; omega))
  go_upto_region 1 with fail
  have hlt_a := lt_of_block HBa.out
  have hlt_q := lt_of_block HBq.out
  have hog : Hid (∀ q, q < 0 → (fun q => 0) q < x3.heap.size) := Lib.hid (fun q h => absurd h (Nat.not_lt_zero _))
  refine Rel7.region (by kernel_rfl) [[], [], [0, 1], [0, 1, 2], [], [0, 1, 2, 3, 4], [0, 1, 2, 3, 4, 5], [0, 1, 2, 3, 4, 5, 6]] [] [] (fun q => 0) 0 7 (by kernel_rfl) (by kernel_rfl) (by rfl) hog.out (fun q q' h h' hn => absurd hn (by omega)) ?_
  refine Rel7.Chain.det ?_ (by rfl) (fun T xs wr hA => ?_) ?_
  rotate_left 1
  · have e2 := hA.pre 2 (by kernel_rfl)
    simp only [List.getElem?_toArray, List.getElem?_cons_succ, List.getElem?_cons_zero] at e2
    have hBq : wr.heap[ka]? = _ := (hA.bl _ hlt_a (fun q h => absurd h (Nat.not_lt_zero _))).trans HBa.out
    have q0 := cell_at (v := .int .i64 p0) hBq 0 rfl
    have q1 := cell_at (v := .bool pb) hBq 1 rfl
    have q2 := cell_at (v := .slice po pl pc) hBq 2 rfl
    have q3 := cell_at (v := .string pn) hBq 3 rfl
    have q4 := cell_at (v := .slice pko pkl pkc) hBq 4 rfl
    clear hBq
    clear hA
    refine ⟨(by rfl), ?_⟩
    go_simp <;> (try with_reducible rfl)
  refine Rel7.Chain.call (fun xs v w => ∃ b o l c, v = .agg #[.int .i64 0, .bool b, .slice o l c, .string ⟨#[]⟩, .slice none 0 0] ∧ FC w (fun b => b ≠ kr) 1 (.agg #[.int .i64 0, .bool b, .slice o l c, .string ⟨#[]⟩, .slice none 0 0]) (.node 0 1 ⟨#[]⟩ [])) (fun _ _ _ _ h hb => by obtain ⟨b, o, l, c, h1, h2⟩ := h; exact ⟨b, o, l, c, h1, h2.below hb⟩) (fun _ _ _ _ _ _ h _ => by obtain ⟨q, hq, _⟩ := h; exact absurd hq (Nat.not_lt_zero _)) (by rfl) (fun T xs wr hA => ?_) ?_
  · have hsw := (hA.be 0 (Nat.zero_le _) (fun _ _ => Nat.zero_le _)).size
    have hbw := undrew (hA.be x3.heap.size (Nat.le_refl _) (fun q h => absurd h (Nat.not_lt_zero q)))
    clear hA
    refine ⟨(by rfl), fun K hK => ?_⟩
    go_simp
    refine (int_p 1 _ (by decide) (by decide)).mono ?_
    rintro e w' ⟨b, o, l, c, rfl, hc, hb'⟩
    exact hK.out _ _ ⟨b, o, l, c, rfl, FC.mk (by unfold IR; decide) hc (FL.nil _ _ _)⟩ hb'
  refine Rel7.Chain.call (fun xs v w => ∃ g, v = .slice (some ⟨g, 0, none⟩) 2 2 ∧ FL w (fun b => b ≠ kr) d (.slice (some ⟨g, 0, none⟩) 2 2) [p, .node 0 1 ⟨#[]⟩ []]) (fun _ _ _ _ h hb => by obtain ⟨g, h1, h2⟩ := h; exact ⟨g, h1, h2.below hb⟩) (fun _ _ _ _ _ _ h _ => by obtain ⟨q, hq, _⟩ := h; exact absurd hq (Nat.not_lt_zero _)) (by rfl) (fun T xs wr hA => ?_) ?_
  · have hsw := (hA.be 0 (Nat.zero_le _) (fun _ _ => Nat.zero_le _)).size
    have e5 := hA.tm 0 5 (by rfl) (by rfl)
    have f5 : xs 0 = _ := hA.fa 0 (by rfl)
    (try simp (disch := first | rfl | decide) only [Rel7.mask_in] at f5)
    rw [f5] at e5
    clear f5
    have e6 := hA.tm 1 6 (by rfl) (by rfl)
    have hbw := undrew (hA.be x3.heap.size (Nat.le_refl _) (fun q h => absurd h (Nat.not_lt_zero q)))
    have hF1 : ∃ b o l c, (xs 1) = .agg #[.int .i64 0, .bool b, .slice o l c, .string ⟨#[]⟩, .slice none 0 0] ∧ FC wr (fun b => b ≠ kr) 1 (.agg #[.int .i64 0, .bool b, .slice o l c, .string ⟨#[]⟩, .slice none 0 0]) (.node 0 1 ⟨#[]⟩ []) := hA.fa 1 (by rfl)
    obtain ⟨b1, o1, l1, c1, e1, hc1⟩ := hF1
    have hpw := HP.out.below hbw
    clear hA
    refine ⟨(by rfl), fun K hK => ?_⟩
    go_simp
    exact hK.out _ _ ⟨_, rfl, FL.two (made_at _ _ _ rfl) (by have h1 := lt_of_block HBr.out; have h2 := hbw.size; show _ ≠ kr; omega) (hpw.below ((Below.refl _ _).alloc (Nat.le_refl _) _)) ((hc1.up hd).below ((Below.refl _ _).alloc (Nat.le_refl _) _))⟩ ((Below.refl _ _).alloc (Nat.le_refl _) _)
  refine Rel7.Chain.call (fun xs v w => ∃ g, v = .agg #[.int .i64 2, .bool false, .slice none 0 0, .string ⟨#[]⟩, .slice (some ⟨g, 0, none⟩) 2 2] ∧ FC w (fun b => b ≠ kr) (d + 1) (.agg #[.int .i64 2, .bool false, .slice none 0 0, .string ⟨#[]⟩, .slice (some ⟨g, 0, none⟩) 2 2]) (.node 2 0 ⟨#[]⟩ [p, .node 0 1 ⟨#[]⟩ []])) (fun _ _ _ _ h hb => by obtain ⟨g, h1, h2⟩ := h; exact ⟨g, h1, h2.below hb⟩) (fun _ _ _ _ _ _ h _ => by obtain ⟨q, hq, _⟩ := h; exact absurd hq (Nat.not_lt_zero _)) (by rfl) (fun T xs wr hA => ?_) ?_
  · have hsw := (hA.be 0 (Nat.zero_le _) (fun _ _ => Nat.zero_le _)).size
    have e7 := hA.tm 2 7 (by rfl) (by rfl)
    have hbw := undrew (hA.be x3.heap.size (Nat.le_refl _) (fun q h => absurd h (Nat.not_lt_zero q)))
    have hF2 : ∃ g, (xs 2) = .slice (some ⟨g, 0, none⟩) 2 2 ∧ FL wr (fun b => b ≠ kr) d (.slice (some ⟨g, 0, none⟩) 2 2) [p, .node 0 1 ⟨#[]⟩ []] := hA.fa 2 (by rfl)
    obtain ⟨g2, e2, hl2⟩ := hF2
    clear hA
    refine ⟨(by rfl), fun K hK => ?_⟩
    go_simp
    refine (of_p 2 _ _ _ _).mono ?_
    rintro e w' ⟨rfl, hb'⟩
    exact hK.out _ _ ⟨_, rfl, FC.mk (by unfold IR; decide) (nr0 _) (hl2.below hb')⟩ hb'
  refine Rel7.Chain.det ?_ (by rfl) (fun T xs wr hA => ?_) ?_
  rotate_left 1
  · have e3 := hA.pre 3 (by kernel_rfl)
    simp only [List.getElem?_toArray, List.getElem?_cons_succ, List.getElem?_cons_zero] at e3
    have hBq : wr.heap[kq]? = _ := (hA.bl _ hlt_q (fun q h => absurd h (Nat.not_lt_zero _))).trans HBq.out
    have q0 := cell_at (v := .int .i64 q0) hBq 0 rfl
    have q1 := cell_at (v := .bool qb) hBq 1 rfl
    have q2 := cell_at (v := .slice qo ql qc) hBq 2 rfl
    have q3 := cell_at (v := .string qn) hBq 3 rfl
    have q4 := cell_at (v := .slice qko qkl qkc) hBq 4 rfl
    clear hBq
    clear hA
    refine ⟨(by rfl), ?_⟩
    go_simp <;> (try with_reducible rfl)
  refine Rel7.Chain.call (fun xs v w => ∃ g, v = .slice (some ⟨g, 0, none⟩) 2 2 ∧ FL w (fun b => b ≠ kr) (d + 1) (.slice (some ⟨g, 0, none⟩) 2 2) [(.node 2 0 ⟨#[]⟩ [p, .node 0 1 ⟨#[]⟩ []]), q]) (fun _ _ _ _ h hb => by obtain ⟨g, h1, h2⟩ := h; exact ⟨g, h1, h2.below hb⟩) (fun _ _ _ _ _ _ h _ => by obtain ⟨q, hq, _⟩ := h; exact absurd hq (Nat.not_lt_zero _)) (by rfl) (fun T xs wr hA => ?_) ?_
  · have hsw := (hA.be 0 (Nat.zero_le _) (fun _ _ => Nat.zero_le _)).size
    have e8 := hA.tm 3 8 (by rfl) (by rfl)
    have e9 := hA.tm 4 9 (by rfl) (by rfl)
    have f9 : xs 4 = _ := hA.fa 4 (by rfl)
    (try simp (disch := first | rfl | decide) only [Rel7.mask_in] at f9)
    rw [f9] at e9
    clear f9
    have hbw := undrew (hA.be x3.heap.size (Nat.le_refl _) (fun q h => absurd h (Nat.not_lt_zero q)))
    have hF3 : ∃ g, (xs 3) = .agg #[.int .i64 2, .bool false, .slice none 0 0, .string ⟨#[]⟩, .slice (some ⟨g, 0, none⟩) 2 2] ∧ FC wr (fun b => b ≠ kr) (d + 1) (.agg #[.int .i64 2, .bool false, .slice none 0 0, .string ⟨#[]⟩, .slice (some ⟨g, 0, none⟩) 2 2]) (.node 2 0 ⟨#[]⟩ [p, .node 0 1 ⟨#[]⟩ []]) := hA.fa 3 (by rfl)
    obtain ⟨g3, e3, hc3⟩ := hF3
    have hqw := HQ.out.below hbw
    clear hA
    refine ⟨(by rfl), fun K hK => ?_⟩
    go_simp
    exact hK.out _ _ ⟨_, rfl, FL.two (made_at _ _ _ rfl) (by have h1 := lt_of_block HBr.out; have h2 := hbw.size; show _ ≠ kr; omega) (hc3.below ((Below.refl _ _).alloc (Nat.le_refl _) _)) (hqw.below ((Below.refl _ _).alloc (Nat.le_refl _) _))⟩ ((Below.refl _ _).alloc (Nat.le_refl _) _)
  refine Rel7.Chain.call (fun xs v w => ∃ g, v = .agg #[.int .i64 15, .bool false, .slice none 0 0, .string ⟨#[]⟩, .slice (some ⟨g, 0, none⟩) 2 2] ∧ FC w (fun b => b ≠ kr) (d + 2) (.agg #[.int .i64 15, .bool false, .slice none 0 0, .string ⟨#[]⟩, .slice (some ⟨g, 0, none⟩) 2 2]) (.node 15 0 ⟨#[]⟩ [(.node 2 0 ⟨#[]⟩ [p, .node 0 1 ⟨#[]⟩ []]), q])) (fun _ _ _ _ h hb => by obtain ⟨g, h1, h2⟩ := h; exact ⟨g, h1, h2.below hb⟩) (fun _ _ _ _ _ _ h _ => by obtain ⟨q, hq, _⟩ := h; exact absurd hq (Nat.not_lt_zero _)) (by rfl) (fun T xs wr hA => ?_) ?_
  · have hsw := (hA.be 0 (Nat.zero_le _) (fun _ _ => Nat.zero_le _)).size
    have e10 := hA.tm 5 10 (by rfl) (by rfl)
    have hbw := undrew (hA.be x3.heap.size (Nat.le_refl _) (fun q h => absurd h (Nat.not_lt_zero q)))
    have hF5 : ∃ g, (xs 5) = .slice (some ⟨g, 0, none⟩) 2 2 ∧ FL wr (fun b => b ≠ kr) (d + 1) (.slice (some ⟨g, 0, none⟩) 2 2) [(.node 2 0 ⟨#[]⟩ [p, .node 0 1 ⟨#[]⟩ []]), q] := hA.fa 5 (by rfl)
    obtain ⟨g5, e5, hl5⟩ := hF5
    clear hA
    refine ⟨(by rfl), fun K hK => ?_⟩
    go_simp
    refine (of_p 15 _ _ _ _).mono ?_
    rintro e w' ⟨rfl, hb'⟩
    exact hK.out _ _ ⟨_, rfl, FC.mk (by unfold IR; decide) (nr0 _) (hl5.below hb')⟩ hb'
  refine Rel7.Chain.done (fun xs x4 hL => ?_)
  obtain ⟨⟨hbe, hbl⟩, hf, -, -⟩ := hL
  have f0 : xs 0 = _ := hf 0 (by decide)
  (try simp (disch := first | rfl | decide) only [Rel7.mask_in] at f0)
  have F1 : ∃ b o l c, (xs 1) = .agg #[.int .i64 0, .bool b, .slice o l c, .string ⟨#[]⟩, .slice none 0 0] ∧ FC x4 (fun b => b ≠ kr) 1 (.agg #[.int .i64 0, .bool b, .slice o l c, .string ⟨#[]⟩, .slice none 0 0]) (.node 0 1 ⟨#[]⟩ []) := hf 1 (by decide)
  have F2 : ∃ g, (xs 2) = .slice (some ⟨g, 0, none⟩) 2 2 ∧ FL x4 (fun b => b ≠ kr) d (.slice (some ⟨g, 0, none⟩) 2 2) [p, .node 0 1 ⟨#[]⟩ []] := hf 2 (by decide)
  have F3 : ∃ g, (xs 3) = .agg #[.int .i64 2, .bool false, .slice none 0 0, .string ⟨#[]⟩, .slice (some ⟨g, 0, none⟩) 2 2] ∧ FC x4 (fun b => b ≠ kr) (d + 1) (.agg #[.int .i64 2, .bool false, .slice none 0 0, .string ⟨#[]⟩, .slice (some ⟨g, 0, none⟩) 2 2]) (.node 2 0 ⟨#[]⟩ [p, .node 0 1 ⟨#[]⟩ []]) := hf 3 (by decide)
  have f4 : xs 4 = _ := hf 4 (by decide)
  (try simp (disch := first | rfl | decide) only [Rel7.mask_in] at f4)
  have F5 : ∃ g, (xs 5) = .slice (some ⟨g, 0, none⟩) 2 2 ∧ FL x4 (fun b => b ≠ kr) (d + 1) (.slice (some ⟨g, 0, none⟩) 2 2) [(.node 2 0 ⟨#[]⟩ [p, .node 0 1 ⟨#[]⟩ []]), q] := hf 5 (by decide)
  have F6 : ∃ g, (xs 6) = .agg #[.int .i64 15, .bool false, .slice none 0 0, .string ⟨#[]⟩, .slice (some ⟨g, 0, none⟩) 2 2] ∧ FC x4 (fun b => b ≠ kr) (d + 2) (.agg #[.int .i64 15, .bool false, .slice none 0 0, .string ⟨#[]⟩, .slice (some ⟨g, 0, none⟩) 2 2]) (.node 15 0 ⟨#[]⟩ [(.node 2 0 ⟨#[]⟩ [p, .node 0 1 ⟨#[]⟩ []]), q]) := hf 6 (by decide)
  have hb0 : Below 0 x3 x4 := undrew (hbe 0 (Nat.zero_le _) (fun _ _ => Nat.zero_le _))
  have hgr : ∀ j, j < x3.heap.size → (∀ q, q < 0 → (fun q => 0) q ≠ j) → x4.heap[j]? = x3.heap[j]? := hbl
  clear hbe hbl hf
  have hb : Below x3.heap.size x3 x4 := ⟨hb0.os, hb0.tape, hb0.output, hb0.size, fun q hq => hgr q hq (fun q h => absurd h (Nat.not_lt_zero _))⟩
  refine Rel7.rest_list (by decide) (by kernel_rfl) ?_
  simp only [Rel7.fill, List.take_succ_cons, List.take_zero, List.drop_succ_cons, List.drop_zero, List.setIfInBounds_toArray, List.set_cons_zero, List.set_cons_succ, f0, f4]
  clear hb0 hgr hog hlt_a hlt_q f0 f4
  replace HBa := kBV hb HBa
  replace HBq := kBV hb HBq
  replace HBr := kBV hb HBr
  replace HW := Lib.hid (HW.out.trans (hb.mono HW.out.size))
  replace HP := Lib.hid (HP.out.below hb)
  replace HQ := Lib.hid (HQ.out.below hb)
  replace hb := Lib.hid hb
  obtain ⟨g, hy1, hy2⟩ := F6
  have HV := Lib.hid hy2
  obtain ⟨⟨r0, r1, r2, r3, r4⟩, fr0, fr1, fr2, fr3, fr4⟩ := cells5V HBr.out
  go_wp2_with fail
  obtain ⟨s1, s2⟩ := res5F HW.out HBr.out n32_F HKr.out (.int .i64 15) (.bool false) (.slice none 0 0) (.string ⟨#[]⟩) (.slice (some ⟨g, 0, none⟩) 2 2)
  (try simp only [Exit.inBlock, Exit.then])
  exact bodyPost_ret (v := .agg #[.int .i64 15, .bool false, .slice none 0 0, .string ⟨#[]⟩, .slice (some ⟨g, 0, none⟩) 2 2]) (by simp [results, Try.results23, go_sem, r0, r1, r2, r3, r4]) rfl ⟨_, rfl, (HV.out.put (grown5V _ _ _ _ _) s1).t, s2⟩
end Go.Proofs.Ytinfbmnimkcdjaa
