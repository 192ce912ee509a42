/-
  The value of a bool: one step.
-/
import Derived.Test.YtinfbmnimkcdjaaLgK
namespace Go.Proofs.Ytinfbmnimkcdjaa
open Go.RowKit
set_option maxRecDepth 100000
set_option linter.unusedVariables false
set_option linter.unusedSimpArgs false

attribute [local go_sem] fieldV0 fieldV1 fieldV2 fieldV3

theorem truth1_p (d : Nat) (IT : TruC d) (eo : Option Addr) (en ec : Nat) (env : List (ByteArray × V)) (ke : Nat) (v : Value) (t : F) (S : Nat → Prop) (w : World) (hB : w.heap[ke]? = some (.cells #[.slice eo en ec] 74 (0, 0))) (h : FC w S d v t) (he : EL w (.slice eo en ec) env) (hr : rt t = true) (hs : srt t.op = 1) (hsm : Sm (rho env) t) :
    Calls Try.prog 80 #[v, .pointer (some ⟨ke, 0, none⟩)] w fun e w' => e = .returned (.bool (!asB (ev (rho env) t))) ∧ Below w.heap.size w w' := by
  have HT := Lib.hid h
  obtain ⟨b, ao, l, c, ko, kl, kc, rfl, -, -, -⟩ := h.open
  obtain ⟨o, hoo⟩ : ∃ o, o = t.op := ⟨_, rfl⟩
  obtain ⟨nm, hnm⟩ : ∃ o, o = t.name := ⟨_, rfl⟩
  rw [← hoo] at HT ⊢
  rw [← hnm] at HT ⊢
  have HBe := Lib.hid hB
  have HE := Lib.hid he
  have HR := Lib.hid hr
  have HS := Lib.hid hs
  have HSM := Lib.hid hsm
  clear h hB he hr hs hsm hoo hnm
  have HW := Lib.hid (Below.refl w.heap.size w)
  go_enter Try.func80, Try.ntmps80
  obtain ⟨x1, kf, ef, ekf, hbf, hkf, HBf⟩ := newV w #[.int .i64 o, .bool b, .slice ao l c, .string nm, .slice ko kl kc] 29
  replace HBe := kBV hbf.out HBe
  replace HT := Lib.hid (HT.out.below hbf.out)
  replace HE := Lib.hid (HE.out.below hbf.out)
  replace HW := Lib.hid (HW.out.trans (hbf.out.mono HW.out.size))
  have c0 := cell_at (v := .int .i64 o) HBf.out 0 rfl
  have fc0 := froz_at HBf.out 0
  have c1 := cell_at (v := .bool b) HBf.out 1 rfl
  have fc1 := froz_at HBf.out 1
  have c2 := cell_at (v := .slice ao l c) HBf.out 2 rfl
  have fc2 := froz_at HBf.out 2
  have c3 := cell_at (v := .string nm) HBf.out 3 rfl
  have fc3 := froz_at HBf.out 3
  have c4 := cell_at (v := .slice ko kl kc) HBf.out 4 rfl
  have fc4 := froz_at HBf.out 4
  have e0 := cell_at (v := .slice eo en ec) HBe.out 0 rfl
  have fe0 := froz_at HBe.out 0
  go_wp2_with fail
  refine (IT _ _ env t S x1 HT.out HE.out HR.out HS.out HSM.out).mono ?_
  rintro e x2 ⟨rfl, hb⟩
  clear c0 fc0 c1 fc1 c2 fc2 c3 fc3 c4 fc4 e0 fe0
  replace HBe := kBV hb HBe
  replace HBf := kBV hb HBf
  replace HT := Lib.hid (HT.out.below hb)
  replace HE := Lib.hid (HE.out.below hb)
  replace HW := Lib.hid (HW.out.trans (hb.mono HW.out.size))
  go_wp2_with fail
  go_ret
  exact ⟨rfl, HW.out⟩
set_option maxHeartbeats 8000000 in
theorem tru_step (d : Nat) (IN : NumC d) (IT : TruC d) (IV : ValC d) : TruC (d + 1) := by
  intro ve v env t S w h he hr hs hsm
  obtain ⟨b, ao, l, c, ko, kl, kc, rfl, ⟨-, hz, hkl, hkc, hkm⟩, -, hk⟩ := h.open
  obtain ⟨o, z, nm, ks⟩ := t
  simp only [F.op, F.num, F.name, F.kids] at hz hk hkl hs ⊢
  rw [show d + 1 - 1 = d from rfl] at hk
  obtain ⟨hfit, hrs⟩ := rt_node hr
  have ho : o = 12 ∨ o = 13 ∨ o = 14 ∨ o = 15 ∨ o = 16 ∨ o = 17 ∨ o = 18 ∨ o = 19 ∨ o = 20 := by
    have := fit_range hfit
    unfold srt at hs
    split at hs
    · omega
    · split at hs
      · omega
      · omega
  obtain ⟨eo, en, ec, rfl⟩ := he.shape
  have hkm' : kc ≤ 9223372036854775807 := hkm
  clear h hr hs hkm hkc hz
  rcases ho with rfl | rfl | rfl | rfl | rfl | rfl | rfl | rfl | rfl
  · have HX := Lib.hid hk
    have HE := Lib.hid he
    have HKL0 := Lib.hid hkl
    have HW := Lib.hid (Below.refl w.heap.size w)
    clear hk he hsm hrs hfit hkl HKL0
    go_enter Try.func62, Try.ntmps62
    obtain ⟨x1, ke, ee, eke, hbe, hke, HBe⟩ := newV w #[.slice eo en ec] 74
    replace HX := Lib.hid (HX.out.below hbe.out)
    replace HE := Lib.hid (HE.out.below hbe.out)
    replace HW := Lib.hid (HW.out.trans (hbe.out.mono HW.out.size))
    obtain ⟨x2, kf, ef, ekf, hbf, hkf, HBf⟩ := newV x1 #[.int .i64 12, .bool b, .slice ao l c, .string nm, .slice ko kl kc] 29
    replace HBe := kBV hbf.out HBe
    replace HX := Lib.hid (HX.out.below hbf.out)
    replace HE := Lib.hid (HE.out.below hbf.out)
    replace HW := Lib.hid (HW.out.trans (hbf.out.mono HW.out.size))
    have e0 := cell_at (v := .slice eo en ec) HBe.out 0 rfl
    have fe0 := froz_at HBe.out 0
    have c0 := cell_at (v := .int .i64 12) HBf.out 0 rfl
    have fc0 := froz_at HBf.out 0
    have c1 := cell_at (v := .bool b) HBf.out 1 rfl
    have fc1 := froz_at HBf.out 1
    have c2 := cell_at (v := .slice ao l c) HBf.out 2 rfl
    have fc2 := froz_at HBf.out 2
    have c3 := cell_at (v := .string nm) HBf.out 3 rfl
    have fc3 := froz_at HBf.out 3
    have c4 := cell_at (v := .slice ko kl kc) HBf.out 4 rfl
    have fc4 := froz_at HBf.out 4
    go_wp2_with fail
    go_ret
    exact ⟨rfl, HW.out⟩
  · have HX := Lib.hid hk
    have HE := Lib.hid he
    have HKL0 := Lib.hid hkl
    have HW := Lib.hid (Below.refl w.heap.size w)
    clear hk he hsm hrs hfit hkl HKL0
    go_enter Try.func62, Try.ntmps62
    obtain ⟨x1, ke, ee, eke, hbe, hke, HBe⟩ := newV w #[.slice eo en ec] 74
    replace HX := Lib.hid (HX.out.below hbe.out)
    replace HE := Lib.hid (HE.out.below hbe.out)
    replace HW := Lib.hid (HW.out.trans (hbe.out.mono HW.out.size))
    obtain ⟨x2, kf, ef, ekf, hbf, hkf, HBf⟩ := newV x1 #[.int .i64 13, .bool b, .slice ao l c, .string nm, .slice ko kl kc] 29
    replace HBe := kBV hbf.out HBe
    replace HX := Lib.hid (HX.out.below hbf.out)
    replace HE := Lib.hid (HE.out.below hbf.out)
    replace HW := Lib.hid (HW.out.trans (hbf.out.mono HW.out.size))
    have e0 := cell_at (v := .slice eo en ec) HBe.out 0 rfl
    have fe0 := froz_at HBe.out 0
    have c0 := cell_at (v := .int .i64 13) HBf.out 0 rfl
    have fc0 := froz_at HBf.out 0
    have c1 := cell_at (v := .bool b) HBf.out 1 rfl
    have fc1 := froz_at HBf.out 1
    have c2 := cell_at (v := .slice ao l c) HBf.out 2 rfl
    have fc2 := froz_at HBf.out 2
    have c3 := cell_at (v := .string nm) HBf.out 3 rfl
    have fc3 := froz_at HBf.out 3
    have c4 := cell_at (v := .slice ko kl kc) HBf.out 4 rfl
    have fc4 := froz_at HBf.out 4
    go_wp2_with fail
    go_ret
    exact ⟨rfl, HW.out⟩
  · have HX := Lib.hid hk
    have HE := Lib.hid he
    have HKL0 := Lib.hid hkl
    have HW := Lib.hid (Below.refl w.heap.size w)
    clear hk he hsm hrs hfit hkl HKL0
    go_enter Try.func62, Try.ntmps62
    obtain ⟨x1, ke, ee, eke, hbe, hke, HBe⟩ := newV w #[.slice eo en ec] 74
    replace HX := Lib.hid (HX.out.below hbe.out)
    replace HE := Lib.hid (HE.out.below hbe.out)
    replace HW := Lib.hid (HW.out.trans (hbe.out.mono HW.out.size))
    obtain ⟨x2, kf, ef, ekf, hbf, hkf, HBf⟩ := newV x1 #[.int .i64 14, .bool b, .slice ao l c, .string nm, .slice ko kl kc] 29
    replace HBe := kBV hbf.out HBe
    replace HX := Lib.hid (HX.out.below hbf.out)
    replace HE := Lib.hid (HE.out.below hbf.out)
    replace HW := Lib.hid (HW.out.trans (hbf.out.mono HW.out.size))
    have e0 := cell_at (v := .slice eo en ec) HBe.out 0 rfl
    have fe0 := froz_at HBe.out 0
    have c0 := cell_at (v := .int .i64 14) HBf.out 0 rfl
    have fc0 := froz_at HBf.out 0
    have c1 := cell_at (v := .bool b) HBf.out 1 rfl
    have fc1 := froz_at HBf.out 1
    have c2 := cell_at (v := .slice ao l c) HBf.out 2 rfl
    have fc2 := froz_at HBf.out 2
    have c3 := cell_at (v := .string nm) HBf.out 3 rfl
    have fc3 := froz_at HBf.out 3
    have c4 := cell_at (v := .slice ko kl kc) HBf.out 4 rfl
    have fc4 := froz_at HBf.out 4
    go_wp2_with fail
    refine (lookup_p _ env nm 1 x2 HE.out).mono ?_
    rintro e x3 ⟨v, rfl, hv, hb⟩
    clear e0 fe0 c0 fc0 c1 fc1 c2 fc2 c3 fc3 c4 fc4
    replace HBe := kBV hb HBe
    replace HBf := kBV hb HBf
    replace HX := Lib.hid (HX.out.below hb)
    replace HE := Lib.hid (HE.out.below hb)
    replace HW := Lib.hid (HW.out.trans (hb.mono HW.out.size))
    obtain ⟨k1, b1, o1, l1, c1, p1, m1, q1, rfl⟩ := hv.lk1
    clear hv
    go_wp2_with fail
    go_ret
    exact ⟨rfl, HW.out⟩
  · have HX := Lib.hid hk
    have HE := Lib.hid he
    have HKL0 := Lib.hid hkl
    have HW := Lib.hid (Below.refl w.heap.size w)
    obtain ⟨p, q, rfl, hp, hq⟩ := srts_two (ks := ks) (s := 0) (r := 0) (by simpa [fitF, kidsOk] using hfit)
    have HSP := Lib.hid (hsm.kid p (by simp))
    have HRP := Lib.hid (hrs p (by simp))
    have HP := Lib.hid hp
    have HSQ := Lib.hid (hsm.kid q (by simp))
    have HRQ := Lib.hid (hrs q (by simp))
    have HQ := Lib.hid hq
    have HEV : Hid (asB (ev (rho env) (.node 15 z nm [p, q])) = asB (opV (rho env) 15 z nm [ev (rho env) p, ev (rho env) q])) := Lib.hid (by rw [ev, evs, evs, evs])
    have hkl1 : kl = 2 := HKL0.out
    subst hkl1
    clear hk he hsm hrs hfit hkl HKL0 hp hq
    go_enter Try.func62, Try.ntmps62
    obtain ⟨x1, ke, ee, eke, hbe, hke, HBe⟩ := newV w #[.slice eo en ec] 74
    replace HX := Lib.hid (HX.out.below hbe.out)
    replace HE := Lib.hid (HE.out.below hbe.out)
    replace HW := Lib.hid (HW.out.trans (hbe.out.mono HW.out.size))
    obtain ⟨x2, kf, ef, ekf, hbf, hkf, HBf⟩ := newV x1 #[.int .i64 15, .bool b, .slice ao l c, .string nm, .slice ko 2 kc] 29
    replace HBe := kBV hbf.out HBe
    replace HX := Lib.hid (HX.out.below hbf.out)
    replace HE := Lib.hid (HE.out.below hbf.out)
    replace HW := Lib.hid (HW.out.trans (hbf.out.mono HW.out.size))
    have e0 := cell_at (v := .slice eo en ec) HBe.out 0 rfl
    have fe0 := froz_at HBe.out 0
    have c0 := cell_at (v := .int .i64 15) HBf.out 0 rfl
    have fc0 := froz_at HBf.out 0
    have c1 := cell_at (v := .bool b) HBf.out 1 rfl
    have fc1 := froz_at HBf.out 1
    have c2 := cell_at (v := .slice ao l c) HBf.out 2 rfl
    have fc2 := froz_at HBf.out 2
    have c3 := cell_at (v := .string nm) HBf.out 3 rfl
    have fc3 := froz_at HBf.out 3
    have c4 := cell_at (v := .slice ko 2 kc) HBf.out 4 rfl
    have fc4 := froz_at HBf.out 4
    obtain ⟨a, bp, op, lp, cp, kop, klp, kcp, hkop, ⟨p0, p1, p2, p3, p4⟩, hfp⟩ := HX.out.first
    subst hkop
    obtain ⟨opp, hopp⟩ : ∃ x, x = p.op := ⟨_, rfl⟩
    obtain ⟨nmp, hnmp⟩ : ∃ x, x = p.name := ⟨_, rfl⟩
    rw [← hopp] at p0 hfp
    rw [← hnmp] at p3 hfp
    have HFP := Lib.hid hfp
    have HPC : Hid (At5 x2 a opp bp op lp cp nmp kop klp kcp) := Lib.hid ⟨p0, p1, p2, p3, p4⟩
    clear hopp hnmp hfp p0 p1 p2 p3 p4
    obtain ⟨a2, bq, oq, lq, cq, koq, klq, kcq, hkoq, ⟨q0, q1, q2, q3, q4⟩, hfq⟩ := HX.out.second
    injection hkoq with ha2
    subst ha2
    obtain ⟨opq, hopq⟩ : ∃ x, x = q.op := ⟨_, rfl⟩
    obtain ⟨nmq, hnmq⟩ : ∃ x, x = q.name := ⟨_, rfl⟩
    rw [← hopq] at q0 hfq
    rw [← hnmq] at q3 hfq
    have HFQ := Lib.hid hfq
    have HQC : Hid (At5 x2 ⟨a.block, a.off + 5, none⟩ opq bq oq lq cq nmq koq klq kcq) := Lib.hid ⟨q0, q1, q2, q3, q4⟩
    clear hopq hnmq hfq q0 q1 q2 q3 q4
    go_upto_region 7 with fail
    clear e0 fe0 c0 fc0 c1 fc1 c2 fc2 c3 fc3 c4 fc4
    have hlt_e := lt_of_block HBe.out
    have hlt_f := lt_of_block HBf.out
    have hog : Hid (∀ q, q < 0 → (fun q => 0) q < x2.heap.size) := Lib.hid (fun q h => absurd h (Nat.not_lt_zero _))
    refine Rel7.region (by kernel_rfl) [[], [], [1], [1, 2], [1, 2, 3], [0, 1, 2, 3, 4], [], [], [7], [7, 8], [7, 8, 9], [0, 1, 2, 3, 4, 5, 6, 7, 8, 9, 10], [0, 1, 2, 3, 4, 5, 6, 7, 8, 9, 10, 11], [0, 1, 2, 3, 4, 5, 6, 7, 8, 9, 10, 11, 12], [0, 1, 2, 3, 4, 5, 6, 7, 8, 9, 10, 11, 12, 13]] [] [] (fun q => 0) 0 15 (by kernel_rfl) (by kernel_rfl) (by rfl) hog.out (fun q q' h h' hn => absurd hn (by omega)) ?_
    refine Rel7.Chain.det ?_ (by rfl) (fun T xs wr hA => ?_) ?_
    rotate_left 1
    · have e2 := hA.pre 2 (by kernel_rfl)
      simp only [List.getElem?_toArray, List.getElem?_cons_succ, List.getElem?_cons_zero] at e2
      have hBq : wr.heap[ke]? = _ := (hA.bl _ hlt_e (fun q h => absurd h (Nat.not_lt_zero _))).trans HBe.out
      have q0 := cell_at (v := .slice eo en ec) hBq 0 rfl
      clear hBq
      clear hA
      refine ⟨(by rfl), ?_⟩
      go_simp <;> (try with_reducible rfl)
    refine Rel7.Chain.det ?_ (by rfl) (fun T xs wr hA => ?_) ?_
    rotate_left 1
    · have e3 := hA.pre 3 (by kernel_rfl)
      simp only [List.getElem?_toArray, List.getElem?_cons_succ, List.getElem?_cons_zero] at e3
      clear hA
      refine ⟨(by rfl), ?_⟩
      go_simp <;> (try with_reducible rfl)
    refine Rel7.Chain.det ?_ (by rfl) (fun T xs wr hA => ?_) ?_
    rotate_left 1
    · have e19 := hA.tm 1 19 (by rfl) (by rfl)
      have f19 : xs 1 = _ := hA.fa 1 (by rfl)
      (try simp (disch := first | rfl | decide) only [Rel7.mask_in] at f19)
      rw [f19] at e19
      clear f19
      have hBq : wr.heap[kf]? = _ := (hA.bl _ hlt_f (fun q h => absurd h (Nat.not_lt_zero _))).trans HBf.out
      have q0 := cell_at (v := .int .i64 15) hBq 0 rfl
      have q1 := cell_at (v := .bool b) hBq 1 rfl
      have q2 := cell_at (v := .slice ao l c) hBq 2 rfl
      have q3 := cell_at (v := .string nm) hBq 3 rfl
      have q4 := cell_at (v := .slice (some a) 2 kc) hBq 4 rfl
      clear hBq
      clear hA
      refine ⟨(by rfl), ?_⟩
      go_simp <;> (try with_reducible rfl)
    refine Rel7.Chain.det ?_ (by rfl) (fun T xs wr hA => ?_) ?_
    rotate_left 1
    · have e20 := hA.tm 2 20 (by rfl) (by rfl)
      have f20 : xs 2 = _ := hA.fa 2 (by rfl)
      (try simp (disch := first | rfl | decide) only [Rel7.mask_in] at f20)
      rw [f20] at e20
      clear f20
      clear hA
      refine ⟨(by rfl), ?_⟩
      go_simp <;> (try with_reducible rfl)
    refine Rel7.Chain.det ?_ (by rfl) (fun T xs wr hA => ?_) ?_
    rotate_left 1
    · have e21 := hA.tm 3 21 (by rfl) (by rfl)
      have f21 : xs 3 = _ := hA.fa 3 (by rfl)
      (try simp (disch := first | rfl | decide) only [Rel7.mask_in] at f21)
      rw [f21] at e21
      clear f21
      have hbw := undrew (hA.be x2.heap.size (Nat.le_refl _) (fun q h => absurd h (Nat.not_lt_zero q)))
      obtain ⟨q0, q1, q2, q3, q4⟩ := HPC.out.below hbw
      try simp only at q0 q1 q2 q3 q4
      clear hA
      refine ⟨(by rfl), ?_⟩
      go_simp <;> (try with_reducible rfl)
    refine Rel7.Chain.call (fun xs v w => ∃ y, v = y ∧ CI w y (asI (ev (rho env) p)) 600) (fun _ _ _ _ h hb => by obtain ⟨y, h1, h2⟩ := h; exact ⟨y, h1, h2.below hb⟩) (fun _ _ _ _ _ _ h _ => by obtain ⟨q, hq, _⟩ := h; exact absurd hq (Nat.not_lt_zero _)) (by rfl) (fun T xs wr hA => ?_) ?_
    · have hsw := (hA.be 0 (Nat.zero_le _) (fun _ _ => Nat.zero_le _)).size
      have e18 := hA.tm 0 18 (by rfl) (by rfl)
      have f18 : xs 0 = _ := hA.fa 0 (by rfl)
      (try simp (disch := first | rfl | decide) only [Rel7.mask_in] at f18)
      rw [f18] at e18
      clear f18
      have e22 := hA.tm 4 22 (by rfl) (by rfl)
      have f22 : xs 4 = _ := hA.fa 4 (by rfl)
      (try simp (disch := first | rfl | decide) only [Rel7.mask_in] at f22)
      rw [f22] at e22
      clear f22
      have hbw := undrew (hA.be x2.heap.size (Nat.le_refl _) (fun q h => absurd h (Nat.not_lt_zero q)))
      have hfq := HFP.out.below hbw
      clear hA
      refine ⟨(by rfl), fun K hK => ?_⟩
      go_simp
      refine (IN _ _ env p S _ hfq (HE.out.below hbw) HRP.out HP.out HSP.out).mono ?_
      rintro e w' ⟨y, rfl, hy, hb'⟩
      exact hK.out _ _ ⟨y, rfl, hy⟩ hb'
    refine Rel7.Chain.det ?_ (by rfl) (fun T xs wr hA => ?_) ?_
    rotate_left 1
    · have e2 := hA.pre 2 (by kernel_rfl)
      simp only [List.getElem?_toArray, List.getElem?_cons_succ, List.getElem?_cons_zero] at e2
      have hBq : wr.heap[ke]? = _ := (hA.bl _ hlt_e (fun q h => absurd h (Nat.not_lt_zero _))).trans HBe.out
      have q0 := cell_at (v := .slice eo en ec) hBq 0 rfl
      clear hBq
      clear hA
      refine ⟨(by rfl), ?_⟩
      go_simp <;> (try with_reducible rfl)
    refine Rel7.Chain.det ?_ (by rfl) (fun T xs wr hA => ?_) ?_
    rotate_left 1
    · have e3 := hA.pre 3 (by kernel_rfl)
      simp only [List.getElem?_toArray, List.getElem?_cons_succ, List.getElem?_cons_zero] at e3
      clear hA
      refine ⟨(by rfl), ?_⟩
      go_simp <;> (try with_reducible rfl)
    refine Rel7.Chain.det ?_ (by rfl) (fun T xs wr hA => ?_) ?_
    rotate_left 1
    · have e25 := hA.tm 7 25 (by rfl) (by rfl)
      have f25 : xs 7 = _ := hA.fa 7 (by rfl)
      (try simp (disch := first | rfl | decide) only [Rel7.mask_in] at f25)
      rw [f25] at e25
      clear f25
      have hBq : wr.heap[kf]? = _ := (hA.bl _ hlt_f (fun q h => absurd h (Nat.not_lt_zero _))).trans HBf.out
      have q0 := cell_at (v := .int .i64 15) hBq 0 rfl
      have q1 := cell_at (v := .bool b) hBq 1 rfl
      have q2 := cell_at (v := .slice ao l c) hBq 2 rfl
      have q3 := cell_at (v := .string nm) hBq 3 rfl
      have q4 := cell_at (v := .slice (some a) 2 kc) hBq 4 rfl
      clear hBq
      clear hA
      refine ⟨(by rfl), ?_⟩
      go_simp <;> (try with_reducible rfl)
    refine Rel7.Chain.det ?_ (by rfl) (fun T xs wr hA => ?_) ?_
    rotate_left 1
    · have e26 := hA.tm 8 26 (by rfl) (by rfl)
      have f26 : xs 8 = _ := hA.fa 8 (by rfl)
      (try simp (disch := first | rfl | decide) only [Rel7.mask_in] at f26)
      rw [f26] at e26
      clear f26
      clear hA
      refine ⟨(by rfl), ?_⟩
      go_simp <;> (try with_reducible rfl)
    refine Rel7.Chain.det ?_ (by rfl) (fun T xs wr hA => ?_) ?_
    rotate_left 1
    · have e27 := hA.tm 9 27 (by rfl) (by rfl)
      have f27 : xs 9 = _ := hA.fa 9 (by rfl)
      (try simp (disch := first | rfl | decide) only [Rel7.mask_in] at f27)
      rw [f27] at e27
      clear f27
      have hbw := undrew (hA.be x2.heap.size (Nat.le_refl _) (fun q h => absurd h (Nat.not_lt_zero q)))
      obtain ⟨q0, q1, q2, q3, q4⟩ := HQC.out.below hbw
      try simp only at q0 q1 q2 q3 q4
      clear hA
      refine ⟨(by rfl), ?_⟩
      go_simp <;> (try with_reducible rfl)
    refine Rel7.Chain.call (fun xs v w => ∃ y, v = y ∧ CI w y (asI (ev (rho env) q)) 600) (fun _ _ _ _ h hb => by obtain ⟨y, h1, h2⟩ := h; exact ⟨y, h1, h2.below hb⟩) (fun _ _ _ _ _ _ h _ => by obtain ⟨q, hq, _⟩ := h; exact absurd hq (Nat.not_lt_zero _)) (by rfl) (fun T xs wr hA => ?_) ?_
    · have hsw := (hA.be 0 (Nat.zero_le _) (fun _ _ => Nat.zero_le _)).size
      have e24 := hA.tm 6 24 (by rfl) (by rfl)
      have f24 : xs 6 = _ := hA.fa 6 (by rfl)
      (try simp (disch := first | rfl | decide) only [Rel7.mask_in] at f24)
      rw [f24] at e24
      clear f24
      have e28 := hA.tm 10 28 (by rfl) (by rfl)
      have f28 : xs 10 = _ := hA.fa 10 (by rfl)
      (try simp (disch := first | rfl | decide) only [Rel7.mask_in] at f28)
      rw [f28] at e28
      clear f28
      have hbw := undrew (hA.be x2.heap.size (Nat.le_refl _) (fun q h => absurd h (Nat.not_lt_zero q)))
      have hfq := HFQ.out.below hbw
      clear hA
      refine ⟨(by rfl), fun K hK => ?_⟩
      go_simp
      refine (IN _ _ env q S _ hfq (HE.out.below hbw) HRQ.out HQ.out HSQ.out).mono ?_
      rintro e w' ⟨y, rfl, hy, hb'⟩
      exact hK.out _ _ ⟨y, rfl, hy⟩ hb'
    refine Rel7.Chain.call (fun xs v w => v = .int .i64 (sgnZ (asI (ev (rho env) p) - asI (ev (rho env) q)))) (fun _ _ _ _ h _ => h) (fun _ _ _ _ _ h _ _ => h) (by rfl) (fun T xs wr hA => ?_) ?_
    · have hsw := (hA.be 0 (Nat.zero_le _) (fun _ _ => Nat.zero_le _)).size
      have e23 := hA.tm 5 23 (by rfl) (by rfl)
      have e29 := hA.tm 11 29 (by rfl) (by rfl)
      have hF5 : ∃ y, (xs 5) = y ∧ CI wr y (asI (ev (rho env) p)) 600 := hA.fa 5 (by rfl)
      obtain ⟨y5, e5, hy5⟩ := hF5
      have hF11 : ∃ y, (xs 11) = y ∧ CI wr y (asI (ev (rho env) q)) 600 := hA.fa 11 (by rfl)
      obtain ⟨y11, e11, hy11⟩ := hF11
      clear hA
      refine ⟨(by rfl), fun K hK => ?_⟩
      go_simp
      refine (wcmp_any _ _ (asI (ev (rho env) p)) (asI (ev (rho env) q)) 600 600 _ (by first | exact hy5.gi | (rw [e5]; exact hy5.gi)) (by first | exact hy11.gi | (rw [e11]; exact hy11.gi)) (by decide) (by decide)).mono ?_
      rintro e w' ⟨rfl, hb'⟩
      exact hK.out _ _ rfl hb'
    refine Rel7.Chain.det ?_ (by rfl) (fun T xs wr hA => ?_) ?_
    rotate_left 1
    · have e30 := hA.tm 12 30 (by rfl) (by rfl)
      have f30 : xs 12 = (.int .i64 (sgnZ (asI (ev (rho env) p) - asI (ev (rho env) q)))) := hA.fa 12 (by rfl)
      rw [f30] at e30
      clear f30
      clear hA
      refine ⟨(by rfl), ?_⟩
      go_simp <;> (try with_reducible rfl)
    refine Rel7.Chain.det ?_ (by rfl) (fun T xs wr hA => ?_) ?_
    rotate_left 1
    · have e31 := hA.tm 13 31 (by rfl) (by rfl)
      have f31 : xs 13 = _ := hA.fa 13 (by rfl)
      (try simp (disch := first | rfl | decide) only [Rel7.mask_in] at f31)
      rw [f31] at e31
      clear f31
      clear hA
      refine ⟨(by rfl), ?_⟩
      go_simp <;> (try with_reducible rfl)
    refine Rel7.Chain.done (fun xs x3 hL => ?_)
    obtain ⟨⟨hbe, hbl⟩, hf, -, -⟩ := hL
    have f0 : xs 0 = _ := hf 0 (by decide)
    (try simp (disch := first | rfl | decide) only [Rel7.mask_in] at f0)
    have f1 : xs 1 = _ := hf 1 (by decide)
    (try simp (disch := first | rfl | decide) only [Rel7.mask_in] at f1)
    have f2 : xs 2 = _ := hf 2 (by decide)
    (try simp (disch := first | rfl | decide) only [Rel7.mask_in] at f2)
    have f3 : xs 3 = _ := hf 3 (by decide)
    (try simp (disch := first | rfl | decide) only [Rel7.mask_in] at f3)
    have f4 : xs 4 = _ := hf 4 (by decide)
    (try simp (disch := first | rfl | decide) only [Rel7.mask_in] at f4)
    have F5 : ∃ y, (xs 5) = y ∧ CI x3 y (asI (ev (rho env) p)) 600 := hf 5 (by decide)
    have f6 : xs 6 = _ := hf 6 (by decide)
    (try simp (disch := first | rfl | decide) only [Rel7.mask_in] at f6)
    have f7 : xs 7 = _ := hf 7 (by decide)
    (try simp (disch := first | rfl | decide) only [Rel7.mask_in] at f7)
    have f8 : xs 8 = _ := hf 8 (by decide)
    (try simp (disch := first | rfl | decide) only [Rel7.mask_in] at f8)
    have f9 : xs 9 = _ := hf 9 (by decide)
    (try simp (disch := first | rfl | decide) only [Rel7.mask_in] at f9)
    have f10 : xs 10 = _ := hf 10 (by decide)
    (try simp (disch := first | rfl | decide) only [Rel7.mask_in] at f10)
    have F11 : ∃ y, (xs 11) = y ∧ CI x3 y (asI (ev (rho env) q)) 600 := hf 11 (by decide)
    have f12 : xs 12 = (.int .i64 (sgnZ (asI (ev (rho env) p) - asI (ev (rho env) q)))) := hf 12 (by decide)
    have f13 : xs 13 = _ := hf 13 (by decide)
    (try simp (disch := first | rfl | decide) only [Rel7.mask_in] at f13)
    have f14 : xs 14 = _ := hf 14 (by decide)
    (try simp (disch := first | rfl | decide) only [Rel7.mask_in] at f14)
    have hb0 : Below 0 x2 x3 := undrew (hbe 0 (Nat.zero_le _) (fun _ _ => Nat.zero_le _))
    have hgr : ∀ j, j < x2.heap.size → (∀ q, q < 0 → (fun q => 0) q ≠ j) → x3.heap[j]? = x2.heap[j]? := hbl
    clear hbe hbl hf
    have hb : Below x2.heap.size x2 x3 := ⟨hb0.os, hb0.tape, hb0.output, hb0.size, fun q hq => hgr q hq (fun q h => absurd h (Nat.not_lt_zero _))⟩
    refine Rel7.rest_done ?_
    simp only [Rel7.fill, List.setIfInBounds_toArray, List.set_cons_zero, List.set_cons_succ, f0, f1, f2, f3, f4, f6, f7, f8, f9, f10, f12, f13, f14]
    clear hb0 hgr hog hlt_e hlt_f f0 f1 f2 f3 f4 f6 f7 f8 f9 f10 f12 f13 f14
    replace HBe := kBV hb HBe
    replace HBf := kBV hb HBf
    replace HX := Lib.hid (HX.out.below hb)
    replace HE := Lib.hid (HE.out.below hb)
    replace HW := Lib.hid (HW.out.trans (hb.mono HW.out.size))
    replace HFP := Lib.hid (HFP.out.below hb)
    replace HPC := Lib.hid (HPC.out.below hb)
    replace HFQ := Lib.hid (HFQ.out.below hb)
    replace HQC := Lib.hid (HQC.out.below hb)
    replace hb := Lib.hid hb
    go_wp2_with fail
    go_ret
    refine ⟨?_, HW.out⟩
    have hle : decide (sgnZ (asI (ev (rho env) p) - asI (ev (rho env) q)) ≤ 0) = decide (asI (ev (rho env) p) ≤ asI (ev (rho env) q)) := by
      unfold sgnZ; congr 1; apply propext; (repeat' split) <;> constructor <;> intro h <;> first | omega | (exfalso; omega)
    rw [HEV.out]
    show Ending.returned _ = Ending.returned (.bool (decide (asI (ev (rho env) p) ≤ asI (ev (rho env) q))))
    rw [← hle]; rfl
  · have HX := Lib.hid hk
    have HE := Lib.hid he
    have HKL0 := Lib.hid hkl
    have HW := Lib.hid (Below.refl w.heap.size w)
    have hh : srts ks = [0, 0] ∨ srts ks = [2, 2] := by simpa [fitF, kidsOk] using hfit
    obtain ⟨p, q, rfl⟩ : ∃ p q, ks = [p, q] := by rcases hh with hh | hh <;> (obtain ⟨p, q, rfl, -, -⟩ := srts_two hh; exact ⟨p, q, rfl⟩)
    have hp := trivial
    have hq := trivial
    have HSP := Lib.hid (hsm.kid p (by simp))
    have HRP := Lib.hid (hrs p (by simp))
    have HP := Lib.hid hp
    have HSQ := Lib.hid (hsm.kid q (by simp))
    have HRQ := Lib.hid (hrs q (by simp))
    have HQ := Lib.hid hq
    have HEV : Hid (asB (ev (rho env) (.node 16 z nm [p, q])) = asB (opV (rho env) 16 z nm [ev (rho env) p, ev (rho env) q])) := Lib.hid (by rw [ev, evs, evs, evs])
    have hkl1 : kl = 2 := HKL0.out
    subst hkl1
    clear hk he hsm hrs hfit hkl HKL0 hp hq
    clear hh
    go_enter Try.func62, Try.ntmps62
    obtain ⟨x1, ke, ee, eke, hbe, hke, HBe⟩ := newV w #[.slice eo en ec] 74
    replace HX := Lib.hid (HX.out.below hbe.out)
    replace HE := Lib.hid (HE.out.below hbe.out)
    replace HW := Lib.hid (HW.out.trans (hbe.out.mono HW.out.size))
    obtain ⟨x2, kf, ef, ekf, hbf, hkf, HBf⟩ := newV x1 #[.int .i64 16, .bool b, .slice ao l c, .string nm, .slice ko 2 kc] 29
    replace HBe := kBV hbf.out HBe
    replace HX := Lib.hid (HX.out.below hbf.out)
    replace HE := Lib.hid (HE.out.below hbf.out)
    replace HW := Lib.hid (HW.out.trans (hbf.out.mono HW.out.size))
    have e0 := cell_at (v := .slice eo en ec) HBe.out 0 rfl
    have fe0 := froz_at HBe.out 0
    have c0 := cell_at (v := .int .i64 16) HBf.out 0 rfl
    have fc0 := froz_at HBf.out 0
    have c1 := cell_at (v := .bool b) HBf.out 1 rfl
    have fc1 := froz_at HBf.out 1
    have c2 := cell_at (v := .slice ao l c) HBf.out 2 rfl
    have fc2 := froz_at HBf.out 2
    have c3 := cell_at (v := .string nm) HBf.out 3 rfl
    have fc3 := froz_at HBf.out 3
    have c4 := cell_at (v := .slice ko 2 kc) HBf.out 4 rfl
    have fc4 := froz_at HBf.out 4
    obtain ⟨a, bp, op, lp, cp, kop, klp, kcp, hkop, ⟨p0, p1, p2, p3, p4⟩, hfp⟩ := HX.out.first
    subst hkop
    obtain ⟨opp, hopp⟩ : ∃ x, x = p.op := ⟨_, rfl⟩
    obtain ⟨nmp, hnmp⟩ : ∃ x, x = p.name := ⟨_, rfl⟩
    rw [← hopp] at p0 hfp
    rw [← hnmp] at p3 hfp
    have HFP := Lib.hid hfp
    have HPC : Hid (At5 x2 a opp bp op lp cp nmp kop klp kcp) := Lib.hid ⟨p0, p1, p2, p3, p4⟩
    clear hopp hnmp hfp p0 p1 p2 p3 p4
    obtain ⟨a2, bq, oq, lq, cq, koq, klq, kcq, hkoq, ⟨q0, q1, q2, q3, q4⟩, hfq⟩ := HX.out.second
    injection hkoq with ha2
    subst ha2
    obtain ⟨opq, hopq⟩ : ∃ x, x = q.op := ⟨_, rfl⟩
    obtain ⟨nmq, hnmq⟩ : ∃ x, x = q.name := ⟨_, rfl⟩
    rw [← hopq] at q0 hfq
    rw [← hnmq] at q3 hfq
    have HFQ := Lib.hid hfq
    have HQC : Hid (At5 x2 ⟨a.block, a.off + 5, none⟩ opq bq oq lq cq nmq koq klq kcq) := Lib.hid ⟨q0, q1, q2, q3, q4⟩
    clear hopq hnmq hfq q0 q1 q2 q3 q4
    go_upto_region 9 with fail
    clear e0 fe0 c0 fc0 c1 fc1 c2 fc2 c3 fc3 c4 fc4
    have hlt_e := lt_of_block HBe.out
    have hlt_f := lt_of_block HBf.out
    have hog : Hid (∀ q, q < 0 → (fun q => 0) q < x2.heap.size) := Lib.hid (fun q h => absurd h (Nat.not_lt_zero _))
    refine Rel7.region (by kernel_rfl) [[], [], [1], [1, 2], [1, 2, 3], [0, 1, 2, 3, 4], [], [], [7], [7, 8], [7, 8, 9], [0, 1, 2, 3, 4, 5, 6, 7, 8, 9, 10], [0, 1, 2, 3, 4, 5, 6, 7, 8, 9, 10, 11], [0, 1, 2, 3, 4, 5, 6, 7, 8, 9, 10, 11, 12]] [] [] (fun q => 0) 0 14 (by kernel_rfl) (by kernel_rfl) (by rfl) hog.out (fun q q' h h' hn => absurd hn (by omega)) ?_
    refine Rel7.Chain.det ?_ (by rfl) (fun T xs wr hA => ?_) ?_
    rotate_left 1
    · have e2 := hA.pre 2 (by kernel_rfl)
      simp only [List.getElem?_toArray, List.getElem?_cons_succ, List.getElem?_cons_zero] at e2
      have hBq : wr.heap[ke]? = _ := (hA.bl _ hlt_e (fun q h => absurd h (Nat.not_lt_zero _))).trans HBe.out
      have q0 := cell_at (v := .slice eo en ec) hBq 0 rfl
      clear hBq
      clear hA
      refine ⟨(by rfl), ?_⟩
      go_simp <;> (try with_reducible rfl)
    refine Rel7.Chain.det ?_ (by rfl) (fun T xs wr hA => ?_) ?_
    rotate_left 1
    · have e3 := hA.pre 3 (by kernel_rfl)
      simp only [List.getElem?_toArray, List.getElem?_cons_succ, List.getElem?_cons_zero] at e3
      clear hA
      refine ⟨(by rfl), ?_⟩
      go_simp <;> (try with_reducible rfl)
    refine Rel7.Chain.det ?_ (by rfl) (fun T xs wr hA => ?_) ?_
    rotate_left 1
    · have e35 := hA.tm 1 35 (by rfl) (by rfl)
      have f35 : xs 1 = _ := hA.fa 1 (by rfl)
      (try simp (disch := first | rfl | decide) only [Rel7.mask_in] at f35)
      rw [f35] at e35
      clear f35
      have hBq : wr.heap[kf]? = _ := (hA.bl _ hlt_f (fun q h => absurd h (Nat.not_lt_zero _))).trans HBf.out
      have q0 := cell_at (v := .int .i64 16) hBq 0 rfl
      have q1 := cell_at (v := .bool b) hBq 1 rfl
      have q2 := cell_at (v := .slice ao l c) hBq 2 rfl
      have q3 := cell_at (v := .string nm) hBq 3 rfl
      have q4 := cell_at (v := .slice (some a) 2 kc) hBq 4 rfl
      clear hBq
      clear hA
      refine ⟨(by rfl), ?_⟩
      go_simp <;> (try with_reducible rfl)
    refine Rel7.Chain.det ?_ (by rfl) (fun T xs wr hA => ?_) ?_
    rotate_left 1
    · have e36 := hA.tm 2 36 (by rfl) (by rfl)
      have f36 : xs 2 = _ := hA.fa 2 (by rfl)
      (try simp (disch := first | rfl | decide) only [Rel7.mask_in] at f36)
      rw [f36] at e36
      clear f36
      clear hA
      refine ⟨(by rfl), ?_⟩
      go_simp <;> (try with_reducible rfl)
    refine Rel7.Chain.det ?_ (by rfl) (fun T xs wr hA => ?_) ?_
    rotate_left 1
    · have e37 := hA.tm 3 37 (by rfl) (by rfl)
      have f37 : xs 3 = _ := hA.fa 3 (by rfl)
      (try simp (disch := first | rfl | decide) only [Rel7.mask_in] at f37)
      rw [f37] at e37
      clear f37
      have hbw := undrew (hA.be x2.heap.size (Nat.le_refl _) (fun q h => absurd h (Nat.not_lt_zero q)))
      obtain ⟨q0, q1, q2, q3, q4⟩ := HPC.out.below hbw
      try simp only at q0 q1 q2 q3 q4
      clear hA
      refine ⟨(by rfl), ?_⟩
      go_simp <;> (try with_reducible rfl)
    refine Rel7.Chain.call (fun xs v w => ∃ y, v = y ∧ VC w y (ev (rho env) p)) (fun _ _ _ _ h hb => by obtain ⟨y, h1, h2⟩ := h; exact ⟨y, h1, h2.below hb⟩) (fun _ _ _ _ _ _ h _ => by obtain ⟨q, hq, _⟩ := h; exact absurd hq (Nat.not_lt_zero _)) (by rfl) (fun T xs wr hA => ?_) ?_
    · have hsw := (hA.be 0 (Nat.zero_le _) (fun _ _ => Nat.zero_le _)).size
      have e34 := hA.tm 0 34 (by rfl) (by rfl)
      have f34 : xs 0 = _ := hA.fa 0 (by rfl)
      (try simp (disch := first | rfl | decide) only [Rel7.mask_in] at f34)
      rw [f34] at e34
      clear f34
      have e38 := hA.tm 4 38 (by rfl) (by rfl)
      have f38 : xs 4 = _ := hA.fa 4 (by rfl)
      (try simp (disch := first | rfl | decide) only [Rel7.mask_in] at f38)
      rw [f38] at e38
      clear f38
      have hbw := undrew (hA.be x2.heap.size (Nat.le_refl _) (fun q h => absurd h (Nat.not_lt_zero q)))
      have hfq := HFP.out.below hbw
      clear hA
      refine ⟨(by rfl), fun K hK => ?_⟩
      go_simp
      refine (IV _ _ env p S _ hfq (HE.out.below hbw) HRP.out HSP.out).mono ?_
      rintro e w' ⟨y, rfl, hy, hb'⟩
      exact hK.out _ _ ⟨y, rfl, hy⟩ hb'
    refine Rel7.Chain.det ?_ (by rfl) (fun T xs wr hA => ?_) ?_
    rotate_left 1
    · have e2 := hA.pre 2 (by kernel_rfl)
      simp only [List.getElem?_toArray, List.getElem?_cons_succ, List.getElem?_cons_zero] at e2
      have hBq : wr.heap[ke]? = _ := (hA.bl _ hlt_e (fun q h => absurd h (Nat.not_lt_zero _))).trans HBe.out
      have q0 := cell_at (v := .slice eo en ec) hBq 0 rfl
      clear hBq
      clear hA
      refine ⟨(by rfl), ?_⟩
      go_simp <;> (try with_reducible rfl)
    refine Rel7.Chain.det ?_ (by rfl) (fun T xs wr hA => ?_) ?_
    rotate_left 1
    · have e3 := hA.pre 3 (by kernel_rfl)
      simp only [List.getElem?_toArray, List.getElem?_cons_succ, List.getElem?_cons_zero] at e3
      clear hA
      refine ⟨(by rfl), ?_⟩
      go_simp <;> (try with_reducible rfl)
    refine Rel7.Chain.det ?_ (by rfl) (fun T xs wr hA => ?_) ?_
    rotate_left 1
    · have e41 := hA.tm 7 41 (by rfl) (by rfl)
      have f41 : xs 7 = _ := hA.fa 7 (by rfl)
      (try simp (disch := first | rfl | decide) only [Rel7.mask_in] at f41)
      rw [f41] at e41
      clear f41
      have hBq : wr.heap[kf]? = _ := (hA.bl _ hlt_f (fun q h => absurd h (Nat.not_lt_zero _))).trans HBf.out
      have q0 := cell_at (v := .int .i64 16) hBq 0 rfl
      have q1 := cell_at (v := .bool b) hBq 1 rfl
      have q2 := cell_at (v := .slice ao l c) hBq 2 rfl
      have q3 := cell_at (v := .string nm) hBq 3 rfl
      have q4 := cell_at (v := .slice (some a) 2 kc) hBq 4 rfl
      clear hBq
      clear hA
      refine ⟨(by rfl), ?_⟩
      go_simp <;> (try with_reducible rfl)
    refine Rel7.Chain.det ?_ (by rfl) (fun T xs wr hA => ?_) ?_
    rotate_left 1
    · have e42 := hA.tm 8 42 (by rfl) (by rfl)
      have f42 : xs 8 = _ := hA.fa 8 (by rfl)
      (try simp (disch := first | rfl | decide) only [Rel7.mask_in] at f42)
      rw [f42] at e42
      clear f42
      clear hA
      refine ⟨(by rfl), ?_⟩
      go_simp <;> (try with_reducible rfl)
    refine Rel7.Chain.det ?_ (by rfl) (fun T xs wr hA => ?_) ?_
    rotate_left 1
    · have e43 := hA.tm 9 43 (by rfl) (by rfl)
      have f43 : xs 9 = _ := hA.fa 9 (by rfl)
      (try simp (disch := first | rfl | decide) only [Rel7.mask_in] at f43)
      rw [f43] at e43
      clear f43
      have hbw := undrew (hA.be x2.heap.size (Nat.le_refl _) (fun q h => absurd h (Nat.not_lt_zero q)))
      obtain ⟨q0, q1, q2, q3, q4⟩ := HQC.out.below hbw
      try simp only at q0 q1 q2 q3 q4
      clear hA
      refine ⟨(by rfl), ?_⟩
      go_simp <;> (try with_reducible rfl)
    refine Rel7.Chain.call (fun xs v w => ∃ y, v = y ∧ VC w y (ev (rho env) q)) (fun _ _ _ _ h hb => by obtain ⟨y, h1, h2⟩ := h; exact ⟨y, h1, h2.below hb⟩) (fun _ _ _ _ _ _ h _ => by obtain ⟨q, hq, _⟩ := h; exact absurd hq (Nat.not_lt_zero _)) (by rfl) (fun T xs wr hA => ?_) ?_
    · have hsw := (hA.be 0 (Nat.zero_le _) (fun _ _ => Nat.zero_le _)).size
      have e40 := hA.tm 6 40 (by rfl) (by rfl)
      have f40 : xs 6 = _ := hA.fa 6 (by rfl)
      (try simp (disch := first | rfl | decide) only [Rel7.mask_in] at f40)
      rw [f40] at e40
      clear f40
      have e44 := hA.tm 10 44 (by rfl) (by rfl)
      have f44 : xs 10 = _ := hA.fa 10 (by rfl)
      (try simp (disch := first | rfl | decide) only [Rel7.mask_in] at f44)
      rw [f44] at e44
      clear f44
      have hbw := undrew (hA.be x2.heap.size (Nat.le_refl _) (fun q h => absurd h (Nat.not_lt_zero q)))
      have hfq := HFQ.out.below hbw
      clear hA
      refine ⟨(by rfl), fun K hK => ?_⟩
      go_simp
      refine (IV _ _ env q S _ hfq (HE.out.below hbw) HRQ.out HSQ.out).mono ?_
      rintro e w' ⟨y, rfl, hy, hb'⟩
      exact hK.out _ _ ⟨y, rfl, hy⟩ hb'
    refine Rel7.Chain.call (fun xs v w => v = .bool (decide (ev (rho env) p = ev (rho env) q))) (fun _ _ _ _ h _ => h) (fun _ _ _ _ _ h _ _ => h) (by rfl) (fun T xs wr hA => ?_) ?_
    · have hsw := (hA.be 0 (Nat.zero_le _) (fun _ _ => Nat.zero_le _)).size
      have e39 := hA.tm 5 39 (by rfl) (by rfl)
      have e45 := hA.tm 11 45 (by rfl) (by rfl)
      have hF5 : ∃ y, (xs 5) = y ∧ VC wr y (ev (rho env) p) := hA.fa 5 (by rfl)
      obtain ⟨y5, e5, hy5⟩ := hF5
      have hF11 : ∃ y, (xs 11) = y ∧ VC wr y (ev (rho env) q) := hA.fa 11 (by rfl)
      obtain ⟨y11, e11, hy11⟩ := hF11
      clear hA
      refine ⟨(by rfl), fun K hK => ?_⟩
      go_simp
      refine (same_p _ _ (ev (rho env) p) (ev (rho env) q) _ (by first | exact hy5 | (rw [e5]; exact hy5)) (by first | exact hy11 | (rw [e11]; exact hy11))).mono ?_
      rintro e w' ⟨rfl, hb'⟩
      exact hK.out _ _ rfl hb'
    refine Rel7.Chain.det ?_ (by rfl) (fun T xs wr hA => ?_) ?_
    rotate_left 1
    · have e46 := hA.tm 12 46 (by rfl) (by rfl)
      have f46 : xs 12 = (.bool (decide (ev (rho env) p = ev (rho env) q))) := hA.fa 12 (by rfl)
      rw [f46] at e46
      clear f46
      clear hA
      refine ⟨(by rfl), ?_⟩
      go_simp <;> (try with_reducible rfl)
    refine Rel7.Chain.done (fun xs x3 hL => ?_)
    obtain ⟨⟨hbe, hbl⟩, hf, -, -⟩ := hL
    have f0 : xs 0 = _ := hf 0 (by decide)
    (try simp (disch := first | rfl | decide) only [Rel7.mask_in] at f0)
    have f1 : xs 1 = _ := hf 1 (by decide)
    (try simp (disch := first | rfl | decide) only [Rel7.mask_in] at f1)
    have f2 : xs 2 = _ := hf 2 (by decide)
    (try simp (disch := first | rfl | decide) only [Rel7.mask_in] at f2)
    have f3 : xs 3 = _ := hf 3 (by decide)
    (try simp (disch := first | rfl | decide) only [Rel7.mask_in] at f3)
    have f4 : xs 4 = _ := hf 4 (by decide)
    (try simp (disch := first | rfl | decide) only [Rel7.mask_in] at f4)
    have F5 : ∃ y, (xs 5) = y ∧ VC x3 y (ev (rho env) p) := hf 5 (by decide)
    have f6 : xs 6 = _ := hf 6 (by decide)
    (try simp (disch := first | rfl | decide) only [Rel7.mask_in] at f6)
    have f7 : xs 7 = _ := hf 7 (by decide)
    (try simp (disch := first | rfl | decide) only [Rel7.mask_in] at f7)
    have f8 : xs 8 = _ := hf 8 (by decide)
    (try simp (disch := first | rfl | decide) only [Rel7.mask_in] at f8)
    have f9 : xs 9 = _ := hf 9 (by decide)
    (try simp (disch := first | rfl | decide) only [Rel7.mask_in] at f9)
    have f10 : xs 10 = _ := hf 10 (by decide)
    (try simp (disch := first | rfl | decide) only [Rel7.mask_in] at f10)
    have F11 : ∃ y, (xs 11) = y ∧ VC x3 y (ev (rho env) q) := hf 11 (by decide)
    have f12 : xs 12 = (.bool (decide (ev (rho env) p = ev (rho env) q))) := hf 12 (by decide)
    have f13 : xs 13 = _ := hf 13 (by decide)
    (try simp (disch := first | rfl | decide) only [Rel7.mask_in] at f13)
    have hb0 : Below 0 x2 x3 := undrew (hbe 0 (Nat.zero_le _) (fun _ _ => Nat.zero_le _))
    have hgr : ∀ j, j < x2.heap.size → (∀ q, q < 0 → (fun q => 0) q ≠ j) → x3.heap[j]? = x2.heap[j]? := hbl
    clear hbe hbl hf
    have hb : Below x2.heap.size x2 x3 := ⟨hb0.os, hb0.tape, hb0.output, hb0.size, fun q hq => hgr q hq (fun q h => absurd h (Nat.not_lt_zero _))⟩
    refine Rel7.rest_done ?_
    simp only [Rel7.fill, List.setIfInBounds_toArray, List.set_cons_zero, List.set_cons_succ, f0, f1, f2, f3, f4, f6, f7, f8, f9, f10, f12, f13]
    clear hb0 hgr hog hlt_e hlt_f f0 f1 f2 f3 f4 f6 f7 f8 f9 f10 f12 f13
    replace HBe := kBV hb HBe
    replace HBf := kBV hb HBf
    replace HX := Lib.hid (HX.out.below hb)
    replace HE := Lib.hid (HE.out.below hb)
    replace HW := Lib.hid (HW.out.trans (hb.mono HW.out.size))
    replace HFP := Lib.hid (HFP.out.below hb)
    replace HPC := Lib.hid (HPC.out.below hb)
    replace HFQ := Lib.hid (HFQ.out.below hb)
    replace HQC := Lib.hid (HQC.out.below hb)
    replace hb := Lib.hid hb
    go_wp2_with fail
    go_ret
    refine ⟨?_, HW.out⟩
    rw [HEV.out]; rfl
  · have HX := Lib.hid hk
    have HE := Lib.hid he
    have HKL0 := Lib.hid hkl
    have HW := Lib.hid (Below.refl w.heap.size w)
    obtain ⟨p, rfl, hp⟩ := srts_one (ks := ks) (s := 1) (by simpa [fitF, kidsOk] using hfit)
    have HSP := Lib.hid (hsm.kid p (by simp))
    have HRP := Lib.hid (hrs p (by simp))
    have HP := Lib.hid hp
    have HEV : Hid (asB (ev (rho env) (.node 17 z nm [p])) = asB (opV (rho env) 17 z nm [ev (rho env) p])) := Lib.hid (by rw [ev, evs, evs])
    have hkl1 : kl = 1 := HKL0.out
    subst hkl1
    clear hk he hsm hrs hfit hkl HKL0 hp
    go_enter Try.func62, Try.ntmps62
    obtain ⟨x1, ke, ee, eke, hbe, hke, HBe⟩ := newV w #[.slice eo en ec] 74
    replace HX := Lib.hid (HX.out.below hbe.out)
    replace HE := Lib.hid (HE.out.below hbe.out)
    replace HW := Lib.hid (HW.out.trans (hbe.out.mono HW.out.size))
    obtain ⟨x2, kf, ef, ekf, hbf, hkf, HBf⟩ := newV x1 #[.int .i64 17, .bool b, .slice ao l c, .string nm, .slice ko 1 kc] 29
    replace HBe := kBV hbf.out HBe
    replace HX := Lib.hid (HX.out.below hbf.out)
    replace HE := Lib.hid (HE.out.below hbf.out)
    replace HW := Lib.hid (HW.out.trans (hbf.out.mono HW.out.size))
    have e0 := cell_at (v := .slice eo en ec) HBe.out 0 rfl
    have fe0 := froz_at HBe.out 0
    have c0 := cell_at (v := .int .i64 17) HBf.out 0 rfl
    have fc0 := froz_at HBf.out 0
    have c1 := cell_at (v := .bool b) HBf.out 1 rfl
    have fc1 := froz_at HBf.out 1
    have c2 := cell_at (v := .slice ao l c) HBf.out 2 rfl
    have fc2 := froz_at HBf.out 2
    have c3 := cell_at (v := .string nm) HBf.out 3 rfl
    have fc3 := froz_at HBf.out 3
    have c4 := cell_at (v := .slice ko 1 kc) HBf.out 4 rfl
    have fc4 := froz_at HBf.out 4
    obtain ⟨a, bp, op, lp, cp, kop, klp, kcp, hkop, ⟨p0, p1, p2, p3, p4⟩, hfp⟩ := HX.out.first
    subst hkop
    obtain ⟨opp, hopp⟩ : ∃ x, x = p.op := ⟨_, rfl⟩
    obtain ⟨nmp, hnmp⟩ : ∃ x, x = p.name := ⟨_, rfl⟩
    rw [← hopp] at p0 hfp
    rw [← hnmp] at p3 hfp
    have HFP := Lib.hid hfp
    have HPC : Hid (At5 x2 a opp bp op lp cp nmp kop klp kcp) := Lib.hid ⟨p0, p1, p2, p3, p4⟩
    clear hopp hnmp hfp p0 p1 p2 p3 p4
    go_upto_region 13 with fail
    clear e0 fe0 c0 fc0 c1 fc1 c2 fc2 c3 fc3 c4 fc4
    have hlt_e := lt_of_block HBe.out
    have hlt_f := lt_of_block HBf.out
    have hog : Hid (∀ q, q < 0 → (fun q => 0) q < x2.heap.size) := Lib.hid (fun q h => absurd h (Nat.not_lt_zero _))
    refine Rel7.region (by kernel_rfl) [[], [], [1], [1, 2], [1, 2, 3], [0, 1, 2, 3, 4], [0, 1, 2, 3, 4, 5], [0, 1, 2, 3, 4, 5, 6]] [] [] (fun q => 0) 0 8 (by kernel_rfl) (by kernel_rfl) (by rfl) hog.out (fun q q' h h' hn => absurd hn (by omega)) ?_
    refine Rel7.Chain.det ?_ (by rfl) (fun T xs wr hA => ?_) ?_
    rotate_left 1
    · have e2 := hA.pre 2 (by kernel_rfl)
      simp only [List.getElem?_toArray, List.getElem?_cons_succ, List.getElem?_cons_zero] at e2
      have hBq : wr.heap[ke]? = _ := (hA.bl _ hlt_e (fun q h => absurd h (Nat.not_lt_zero _))).trans HBe.out
      have q0 := cell_at (v := .slice eo en ec) hBq 0 rfl
      clear hBq
      clear hA
      refine ⟨(by rfl), ?_⟩
      go_simp <;> (try with_reducible rfl)
    refine Rel7.Chain.det ?_ (by rfl) (fun T xs wr hA => ?_) ?_
    rotate_left 1
    · have e3 := hA.pre 3 (by kernel_rfl)
      simp only [List.getElem?_toArray, List.getElem?_cons_succ, List.getElem?_cons_zero] at e3
      clear hA
      refine ⟨(by rfl), ?_⟩
      go_simp <;> (try with_reducible rfl)
    refine Rel7.Chain.det ?_ (by rfl) (fun T xs wr hA => ?_) ?_
    rotate_left 1
    · have e65 := hA.tm 1 65 (by rfl) (by rfl)
      have f65 : xs 1 = _ := hA.fa 1 (by rfl)
      (try simp (disch := first | rfl | decide) only [Rel7.mask_in] at f65)
      rw [f65] at e65
      clear f65
      have hBq : wr.heap[kf]? = _ := (hA.bl _ hlt_f (fun q h => absurd h (Nat.not_lt_zero _))).trans HBf.out
      have q0 := cell_at (v := .int .i64 17) hBq 0 rfl
      have q1 := cell_at (v := .bool b) hBq 1 rfl
      have q2 := cell_at (v := .slice ao l c) hBq 2 rfl
      have q3 := cell_at (v := .string nm) hBq 3 rfl
      have q4 := cell_at (v := .slice (some a) 1 kc) hBq 4 rfl
      clear hBq
      clear hA
      refine ⟨(by rfl), ?_⟩
      go_simp <;> (try with_reducible rfl)
    refine Rel7.Chain.det ?_ (by rfl) (fun T xs wr hA => ?_) ?_
    rotate_left 1
    · have e66 := hA.tm 2 66 (by rfl) (by rfl)
      have f66 : xs 2 = _ := hA.fa 2 (by rfl)
      (try simp (disch := first | rfl | decide) only [Rel7.mask_in] at f66)
      rw [f66] at e66
      clear f66
      clear hA
      refine ⟨(by rfl), ?_⟩
      go_simp <;> (try with_reducible rfl)
    refine Rel7.Chain.det ?_ (by rfl) (fun T xs wr hA => ?_) ?_
    rotate_left 1
    · have e67 := hA.tm 3 67 (by rfl) (by rfl)
      have f67 : xs 3 = _ := hA.fa 3 (by rfl)
      (try simp (disch := first | rfl | decide) only [Rel7.mask_in] at f67)
      rw [f67] at e67
      clear f67
      have hbw := undrew (hA.be x2.heap.size (Nat.le_refl _) (fun q h => absurd h (Nat.not_lt_zero q)))
      obtain ⟨q0, q1, q2, q3, q4⟩ := HPC.out.below hbw
      try simp only at q0 q1 q2 q3 q4
      clear hA
      refine ⟨(by rfl), ?_⟩
      go_simp <;> (try with_reducible rfl)
    refine Rel7.Chain.call (fun xs v w => v = .bool (asB (ev (rho env) p))) (fun _ _ _ _ h _ => h) (fun _ _ _ _ _ h _ _ => h) (by rfl) (fun T xs wr hA => ?_) ?_
    · have hsw := (hA.be 0 (Nat.zero_le _) (fun _ _ => Nat.zero_le _)).size
      have e64 := hA.tm 0 64 (by rfl) (by rfl)
      have f64 : xs 0 = _ := hA.fa 0 (by rfl)
      (try simp (disch := first | rfl | decide) only [Rel7.mask_in] at f64)
      rw [f64] at e64
      clear f64
      have e68 := hA.tm 4 68 (by rfl) (by rfl)
      have f68 : xs 4 = _ := hA.fa 4 (by rfl)
      (try simp (disch := first | rfl | decide) only [Rel7.mask_in] at f68)
      rw [f68] at e68
      clear f68
      have hbw := undrew (hA.be x2.heap.size (Nat.le_refl _) (fun q h => absurd h (Nat.not_lt_zero q)))
      have hfq := HFP.out.below hbw
      clear hA
      refine ⟨(by rfl), fun K hK => ?_⟩
      go_simp
      refine (IT _ _ env p S _ hfq (HE.out.below hbw) HRP.out HP.out HSP.out).mono ?_
      rintro e w' ⟨rfl, hb'⟩
      exact hK.out _ _ rfl hb'
    refine Rel7.Chain.det ?_ (by rfl) (fun T xs wr hA => ?_) ?_
    rotate_left 1
    · have e69 := hA.tm 5 69 (by rfl) (by rfl)
      have f69 : xs 5 = (.bool (asB (ev (rho env) p))) := hA.fa 5 (by rfl)
      rw [f69] at e69
      clear f69
      clear hA
      refine ⟨(by rfl), ?_⟩
      go_simp <;> (try with_reducible rfl)
    refine Rel7.Chain.det ?_ (by rfl) (fun T xs wr hA => ?_) ?_
    rotate_left 1
    · have e70 := hA.tm 6 70 (by rfl) (by rfl)
      have f70 : xs 6 = _ := hA.fa 6 (by rfl)
      (try simp (disch := first | rfl | decide) only [Rel7.mask_in] at f70)
      rw [f70] at e70
      clear f70
      clear hA
      refine ⟨(by rfl), ?_⟩
      go_simp <;> (try with_reducible rfl)
    refine Rel7.Chain.done (fun xs x3 hL => ?_)
    obtain ⟨⟨hbe, hbl⟩, hf, -, -⟩ := hL
    have f0 : xs 0 = _ := hf 0 (by decide)
    (try simp (disch := first | rfl | decide) only [Rel7.mask_in] at f0)
    have f1 : xs 1 = _ := hf 1 (by decide)
    (try simp (disch := first | rfl | decide) only [Rel7.mask_in] at f1)
    have f2 : xs 2 = _ := hf 2 (by decide)
    (try simp (disch := first | rfl | decide) only [Rel7.mask_in] at f2)
    have f3 : xs 3 = _ := hf 3 (by decide)
    (try simp (disch := first | rfl | decide) only [Rel7.mask_in] at f3)
    have f4 : xs 4 = _ := hf 4 (by decide)
    (try simp (disch := first | rfl | decide) only [Rel7.mask_in] at f4)
    have f5 : xs 5 = (.bool (asB (ev (rho env) p))) := hf 5 (by decide)
    have f6 : xs 6 = _ := hf 6 (by decide)
    (try simp (disch := first | rfl | decide) only [Rel7.mask_in] at f6)
    have f7 : xs 7 = _ := hf 7 (by decide)
    (try simp (disch := first | rfl | decide) only [Rel7.mask_in] at f7)
    have hb0 : Below 0 x2 x3 := undrew (hbe 0 (Nat.zero_le _) (fun _ _ => Nat.zero_le _))
    have hgr : ∀ j, j < x2.heap.size → (∀ q, q < 0 → (fun q => 0) q ≠ j) → x3.heap[j]? = x2.heap[j]? := hbl
    clear hbe hbl hf
    have hb : Below x2.heap.size x2 x3 := ⟨hb0.os, hb0.tape, hb0.output, hb0.size, fun q hq => hgr q hq (fun q h => absurd h (Nat.not_lt_zero _))⟩
    refine Rel7.rest_done ?_
    simp only [Rel7.fill, List.setIfInBounds_toArray, List.set_cons_zero, List.set_cons_succ, f0, f1, f2, f3, f4, f5, f6, f7]
    clear hb0 hgr hog hlt_e hlt_f f0 f1 f2 f3 f4 f5 f6 f7
    replace HBe := kBV hb HBe
    replace HBf := kBV hb HBf
    replace HX := Lib.hid (HX.out.below hb)
    replace HE := Lib.hid (HE.out.below hb)
    replace HW := Lib.hid (HW.out.trans (hb.mono HW.out.size))
    replace HFP := Lib.hid (HFP.out.below hb)
    replace HPC := Lib.hid (HPC.out.below hb)
    replace hb := Lib.hid hb
    go_wp2_with fail
    go_ret
    refine ⟨?_, HW.out⟩
    rw [HEV.out]; rfl
  · have HX := Lib.hid hk
    have HE := Lib.hid he
    have HKL0 := Lib.hid hkl
    have HW := Lib.hid (Below.refl w.heap.size w)
    have hall : ∀ f ∈ ks, srt f.op = 1 := by
      have h1 : (srts ks).all (fun s => decide (s = 1)) = true := by simpa [fitF, kidsOk] using hfit
      intro f hf
      have := List.all_eq_true.1 h1 (srt f.op) (List.mem_map.2 ⟨f, hf, rfl⟩)
      simpa using this
    have HALL := Lib.hid hall
    have HRS := Lib.hid hrs
    have HSM := Lib.hid hsm
    clear hk he hsm hrs hfit hkl HKL0 hall
    go_enter Try.func62, Try.ntmps62
    obtain ⟨x1, ke, ee, eke, hbe, hke, HBe⟩ := newV w #[.slice eo en ec] 74
    replace HX := Lib.hid (HX.out.below hbe.out)
    replace HE := Lib.hid (HE.out.below hbe.out)
    replace HW := Lib.hid (HW.out.trans (hbe.out.mono HW.out.size))
    obtain ⟨x2, kf, ef, ekf, hbf, hkf, HBf⟩ := newV x1 #[.int .i64 18, .bool b, .slice ao l c, .string nm, .slice ko kl kc] 29
    replace HBe := kBV hbf.out HBe
    replace HX := Lib.hid (HX.out.below hbf.out)
    replace HE := Lib.hid (HE.out.below hbf.out)
    replace HW := Lib.hid (HW.out.trans (hbf.out.mono HW.out.size))
    have e0 := cell_at (v := .slice eo en ec) HBe.out 0 rfl
    have fe0 := froz_at HBe.out 0
    have c0 := cell_at (v := .int .i64 18) HBf.out 0 rfl
    have fc0 := froz_at HBf.out 0
    have c1 := cell_at (v := .bool b) HBf.out 1 rfl
    have fc1 := froz_at HBf.out 1
    have c2 := cell_at (v := .slice ao l c) HBf.out 2 rfl
    have fc2 := froz_at HBf.out 2
    have c3 := cell_at (v := .string nm) HBf.out 3 rfl
    have fc3 := froz_at HBf.out 3
    have c4 := cell_at (v := .slice ko kl kc) HBf.out 4 rfl
    have fc4 := froz_at HBf.out 4
    go_wp2_with fail
    refine (contains_and _ ks (fun f => !asB (ev (rho env) f)) d S x2 ke HX.out (fun f hf v w' hb hv => ?_)).mono ?_
    · exact truth1_p d IT eo en ec env ke v f S w' ((hb.block _ (lt_of_block HBe.out)).trans HBe.out) hv (HE.out.below hb) (HRS.out f hf) (HALL.out f hf) (HSM.out.kid f hf)
    rintro e x3 ⟨rfl, hb⟩
    clear e0 fe0 c0 fc0 c1 fc1 c2 fc2 c3 fc3 c4 fc4
    replace HBe := kBV hb HBe
    replace HBf := kBV hb HBf
    replace HX := Lib.hid (HX.out.below hb)
    replace HE := Lib.hid (HE.out.below hb)
    replace HW := Lib.hid (HW.out.trans (hb.mono HW.out.size))
    go_wp2_with fail
    go_ret
    refine ⟨?_, HW.out⟩
    rw [show asB (ev (rho env) (.node 18 z nm ks)) = !(ks.any fun f => !asB (ev (rho env) f)) by rw [ev, evs_map]; show (List.map (ev (rho env)) ks).all asB = _; rw [List.all_map, List.not_any_eq_all_not]; congr 1; funext f; simp]
    rfl
  · have HX := Lib.hid hk
    have HE := Lib.hid he
    have HKL0 := Lib.hid hkl
    have HW := Lib.hid (Below.refl w.heap.size w)
    have hall : ∀ f ∈ ks, srt f.op = 1 := by
      have h1 : (srts ks).all (fun s => decide (s = 1)) = true := by simpa [fitF, kidsOk] using hfit
      intro f hf
      have := List.all_eq_true.1 h1 (srt f.op) (List.mem_map.2 ⟨f, hf, rfl⟩)
      simpa using this
    have HALL := Lib.hid hall
    have HRS := Lib.hid hrs
    have HSM := Lib.hid hsm
    clear hk he hsm hrs hfit hkl HKL0 hall
    go_enter Try.func62, Try.ntmps62
    obtain ⟨x1, ke, ee, eke, hbe, hke, HBe⟩ := newV w #[.slice eo en ec] 74
    replace HX := Lib.hid (HX.out.below hbe.out)
    replace HE := Lib.hid (HE.out.below hbe.out)
    replace HW := Lib.hid (HW.out.trans (hbe.out.mono HW.out.size))
    obtain ⟨x2, kf, ef, ekf, hbf, hkf, HBf⟩ := newV x1 #[.int .i64 19, .bool b, .slice ao l c, .string nm, .slice ko kl kc] 29
    replace HBe := kBV hbf.out HBe
    replace HX := Lib.hid (HX.out.below hbf.out)
    replace HE := Lib.hid (HE.out.below hbf.out)
    replace HW := Lib.hid (HW.out.trans (hbf.out.mono HW.out.size))
    have e0 := cell_at (v := .slice eo en ec) HBe.out 0 rfl
    have fe0 := froz_at HBe.out 0
    have c0 := cell_at (v := .int .i64 19) HBf.out 0 rfl
    have fc0 := froz_at HBf.out 0
    have c1 := cell_at (v := .bool b) HBf.out 1 rfl
    have fc1 := froz_at HBf.out 1
    have c2 := cell_at (v := .slice ao l c) HBf.out 2 rfl
    have fc2 := froz_at HBf.out 2
    have c3 := cell_at (v := .string nm) HBf.out 3 rfl
    have fc3 := froz_at HBf.out 3
    have c4 := cell_at (v := .slice ko kl kc) HBf.out 4 rfl
    have fc4 := froz_at HBf.out 4
    go_wp2_with fail
    refine (contains_or _ ks (fun f => asB (ev (rho env) f)) d S x2 (.slice eo en ec) HX.out (fun f hf v w' hb hv => ?_)).mono ?_
    · exact IT _ _ env f S w' hv (HE.out.below hb) (HRS.out f hf) (HALL.out f hf) (HSM.out.kid f hf)
    rintro e x3 ⟨rfl, hb⟩
    clear e0 fe0 c0 fc0 c1 fc1 c2 fc2 c3 fc3 c4 fc4
    replace HBe := kBV hb HBe
    replace HBf := kBV hb HBf
    replace HX := Lib.hid (HX.out.below hb)
    replace HE := Lib.hid (HE.out.below hb)
    replace HW := Lib.hid (HW.out.trans (hb.mono HW.out.size))
    go_wp2_with fail
    go_ret
    refine ⟨?_, HW.out⟩
    rw [show asB (ev (rho env) (.node 19 z nm ks)) = (ks.any fun f => asB (ev (rho env) f)) by rw [ev, evs_map]; show (List.map (ev (rho env)) ks).any asB = _; rw [List.any_map]; rfl]
    rfl
  · have HX := Lib.hid hk
    have HE := Lib.hid he
    have HKL0 := Lib.hid hkl
    have HW := Lib.hid (Below.refl w.heap.size w)
    obtain ⟨p, q, rfl, hp, hq⟩ := srts_two (ks := ks) (s := 1) (r := 1) (by simpa [fitF, kidsOk] using hfit)
    have HSP := Lib.hid (hsm.kid p (by simp))
    have HRP := Lib.hid (hrs p (by simp))
    have HP := Lib.hid hp
    have HSQ := Lib.hid (hsm.kid q (by simp))
    have HRQ := Lib.hid (hrs q (by simp))
    have HQ := Lib.hid hq
    have HEV : Hid (asB (ev (rho env) (.node 20 z nm [p, q])) = asB (opV (rho env) 20 z nm [ev (rho env) p, ev (rho env) q])) := Lib.hid (by rw [ev, evs, evs, evs])
    have hkl1 : kl = 2 := HKL0.out
    subst hkl1
    clear hk he hsm hrs hfit hkl HKL0 hp hq
    go_enter Try.func62, Try.ntmps62
    obtain ⟨x1, ke, ee, eke, hbe, hke, HBe⟩ := newV w #[.slice eo en ec] 74
    replace HX := Lib.hid (HX.out.below hbe.out)
    replace HE := Lib.hid (HE.out.below hbe.out)
    replace HW := Lib.hid (HW.out.trans (hbe.out.mono HW.out.size))
    obtain ⟨x2, kf, ef, ekf, hbf, hkf, HBf⟩ := newV x1 #[.int .i64 20, .bool b, .slice ao l c, .string nm, .slice ko 2 kc] 29
    replace HBe := kBV hbf.out HBe
    replace HX := Lib.hid (HX.out.below hbf.out)
    replace HE := Lib.hid (HE.out.below hbf.out)
    replace HW := Lib.hid (HW.out.trans (hbf.out.mono HW.out.size))
    have e0 := cell_at (v := .slice eo en ec) HBe.out 0 rfl
    have fe0 := froz_at HBe.out 0
    have c0 := cell_at (v := .int .i64 20) HBf.out 0 rfl
    have fc0 := froz_at HBf.out 0
    have c1 := cell_at (v := .bool b) HBf.out 1 rfl
    have fc1 := froz_at HBf.out 1
    have c2 := cell_at (v := .slice ao l c) HBf.out 2 rfl
    have fc2 := froz_at HBf.out 2
    have c3 := cell_at (v := .string nm) HBf.out 3 rfl
    have fc3 := froz_at HBf.out 3
    have c4 := cell_at (v := .slice ko 2 kc) HBf.out 4 rfl
    have fc4 := froz_at HBf.out 4
    obtain ⟨a, bp, op, lp, cp, kop, klp, kcp, hkop, ⟨p0, p1, p2, p3, p4⟩, hfp⟩ := HX.out.first
    subst hkop
    obtain ⟨opp, hopp⟩ : ∃ x, x = p.op := ⟨_, rfl⟩
    obtain ⟨nmp, hnmp⟩ : ∃ x, x = p.name := ⟨_, rfl⟩
    rw [← hopp] at p0 hfp
    rw [← hnmp] at p3 hfp
    have HFP := Lib.hid hfp
    have HPC : Hid (At5 x2 a opp bp op lp cp nmp kop klp kcp) := Lib.hid ⟨p0, p1, p2, p3, p4⟩
    clear hopp hnmp hfp p0 p1 p2 p3 p4
    obtain ⟨a2, bq, oq, lq, cq, koq, klq, kcq, hkoq, ⟨q0, q1, q2, q3, q4⟩, hfq⟩ := HX.out.second
    injection hkoq with ha2
    subst ha2
    obtain ⟨opq, hopq⟩ : ∃ x, x = q.op := ⟨_, rfl⟩
    obtain ⟨nmq, hnmq⟩ : ∃ x, x = q.name := ⟨_, rfl⟩
    rw [← hopq] at q0 hfq
    rw [← hnmq] at q3 hfq
    have HFQ := Lib.hid hfq
    have HQC : Hid (At5 x2 ⟨a.block, a.off + 5, none⟩ opq bq oq lq cq nmq koq klq kcq) := Lib.hid ⟨q0, q1, q2, q3, q4⟩
    clear hopq hnmq hfq q0 q1 q2 q3 q4
    go_upto_region 11 with fail
    clear e0 fe0 c0 fc0 c1 fc1 c2 fc2 c3 fc3 c4 fc4
    have hlt_e := lt_of_block HBe.out
    have hlt_f := lt_of_block HBf.out
    have hog : Hid (∀ q, q < 0 → (fun q => 0) q < x2.heap.size) := Lib.hid (fun q h => absurd h (Nat.not_lt_zero _))
    refine Rel7.region (by kernel_rfl) [[], [], [1], [1, 2], [1, 2, 3], [0, 1, 2, 3, 4], [], [], [7], [7, 8], [7, 8, 9], [0, 1, 2, 3, 4, 5, 6, 7, 8, 9, 10], [0, 1, 2, 3, 4, 5, 6, 7, 8, 9, 10, 11], [0, 1, 2, 3, 4, 5, 6, 7, 8, 9, 10, 11, 12]] [] [] (fun q => 0) 0 14 (by kernel_rfl) (by kernel_rfl) (by rfl) hog.out (fun q q' h h' hn => absurd hn (by omega)) ?_
    refine Rel7.Chain.det ?_ (by rfl) (fun T xs wr hA => ?_) ?_
    rotate_left 1
    · have e2 := hA.pre 2 (by kernel_rfl)
      simp only [List.getElem?_toArray, List.getElem?_cons_succ, List.getElem?_cons_zero] at e2
      have hBq : wr.heap[ke]? = _ := (hA.bl _ hlt_e (fun q h => absurd h (Nat.not_lt_zero _))).trans HBe.out
      have q0 := cell_at (v := .slice eo en ec) hBq 0 rfl
      clear hBq
      clear hA
      refine ⟨(by rfl), ?_⟩
      go_simp <;> (try with_reducible rfl)
    refine Rel7.Chain.det ?_ (by rfl) (fun T xs wr hA => ?_) ?_
    rotate_left 1
    · have e3 := hA.pre 3 (by kernel_rfl)
      simp only [List.getElem?_toArray, List.getElem?_cons_succ, List.getElem?_cons_zero] at e3
      clear hA
      refine ⟨(by rfl), ?_⟩
      go_simp <;> (try with_reducible rfl)
    refine Rel7.Chain.det ?_ (by rfl) (fun T xs wr hA => ?_) ?_
    rotate_left 1
    · have e50 := hA.tm 1 50 (by rfl) (by rfl)
      have f50 : xs 1 = _ := hA.fa 1 (by rfl)
      (try simp (disch := first | rfl | decide) only [Rel7.mask_in] at f50)
      rw [f50] at e50
      clear f50
      have hBq : wr.heap[kf]? = _ := (hA.bl _ hlt_f (fun q h => absurd h (Nat.not_lt_zero _))).trans HBf.out
      have q0 := cell_at (v := .int .i64 20) hBq 0 rfl
      have q1 := cell_at (v := .bool b) hBq 1 rfl
      have q2 := cell_at (v := .slice ao l c) hBq 2 rfl
      have q3 := cell_at (v := .string nm) hBq 3 rfl
      have q4 := cell_at (v := .slice (some a) 2 kc) hBq 4 rfl
      clear hBq
      clear hA
      refine ⟨(by rfl), ?_⟩
      go_simp <;> (try with_reducible rfl)
    refine Rel7.Chain.det ?_ (by rfl) (fun T xs wr hA => ?_) ?_
    rotate_left 1
    · have e51 := hA.tm 2 51 (by rfl) (by rfl)
      have f51 : xs 2 = _ := hA.fa 2 (by rfl)
      (try simp (disch := first | rfl | decide) only [Rel7.mask_in] at f51)
      rw [f51] at e51
      clear f51
      clear hA
      refine ⟨(by rfl), ?_⟩
      go_simp <;> (try with_reducible rfl)
    refine Rel7.Chain.det ?_ (by rfl) (fun T xs wr hA => ?_) ?_
    rotate_left 1
    · have e52 := hA.tm 3 52 (by rfl) (by rfl)
      have f52 : xs 3 = _ := hA.fa 3 (by rfl)
      (try simp (disch := first | rfl | decide) only [Rel7.mask_in] at f52)
      rw [f52] at e52
      clear f52
      have hbw := undrew (hA.be x2.heap.size (Nat.le_refl _) (fun q h => absurd h (Nat.not_lt_zero q)))
      obtain ⟨q0, q1, q2, q3, q4⟩ := HPC.out.below hbw
      try simp only at q0 q1 q2 q3 q4
      clear hA
      refine ⟨(by rfl), ?_⟩
      go_simp <;> (try with_reducible rfl)
    refine Rel7.Chain.call (fun xs v w => v = .bool (asB (ev (rho env) p))) (fun _ _ _ _ h _ => h) (fun _ _ _ _ _ h _ _ => h) (by rfl) (fun T xs wr hA => ?_) ?_
    · have hsw := (hA.be 0 (Nat.zero_le _) (fun _ _ => Nat.zero_le _)).size
      have e49 := hA.tm 0 49 (by rfl) (by rfl)
      have f49 : xs 0 = _ := hA.fa 0 (by rfl)
      (try simp (disch := first | rfl | decide) only [Rel7.mask_in] at f49)
      rw [f49] at e49
      clear f49
      have e53 := hA.tm 4 53 (by rfl) (by rfl)
      have f53 : xs 4 = _ := hA.fa 4 (by rfl)
      (try simp (disch := first | rfl | decide) only [Rel7.mask_in] at f53)
      rw [f53] at e53
      clear f53
      have hbw := undrew (hA.be x2.heap.size (Nat.le_refl _) (fun q h => absurd h (Nat.not_lt_zero q)))
      have hfq := HFP.out.below hbw
      clear hA
      refine ⟨(by rfl), fun K hK => ?_⟩
      go_simp
      refine (IT _ _ env p S _ hfq (HE.out.below hbw) HRP.out HP.out HSP.out).mono ?_
      rintro e w' ⟨rfl, hb'⟩
      exact hK.out _ _ rfl hb'
    refine Rel7.Chain.det ?_ (by rfl) (fun T xs wr hA => ?_) ?_
    rotate_left 1
    · have e2 := hA.pre 2 (by kernel_rfl)
      simp only [List.getElem?_toArray, List.getElem?_cons_succ, List.getElem?_cons_zero] at e2
      have hBq : wr.heap[ke]? = _ := (hA.bl _ hlt_e (fun q h => absurd h (Nat.not_lt_zero _))).trans HBe.out
      have q0 := cell_at (v := .slice eo en ec) hBq 0 rfl
      clear hBq
      clear hA
      refine ⟨(by rfl), ?_⟩
      go_simp <;> (try with_reducible rfl)
    refine Rel7.Chain.det ?_ (by rfl) (fun T xs wr hA => ?_) ?_
    rotate_left 1
    · have e3 := hA.pre 3 (by kernel_rfl)
      simp only [List.getElem?_toArray, List.getElem?_cons_succ, List.getElem?_cons_zero] at e3
      clear hA
      refine ⟨(by rfl), ?_⟩
      go_simp <;> (try with_reducible rfl)
    refine Rel7.Chain.det ?_ (by rfl) (fun T xs wr hA => ?_) ?_
    rotate_left 1
    · have e56 := hA.tm 7 56 (by rfl) (by rfl)
      have f56 : xs 7 = _ := hA.fa 7 (by rfl)
      (try simp (disch := first | rfl | decide) only [Rel7.mask_in] at f56)
      rw [f56] at e56
      clear f56
      have hBq : wr.heap[kf]? = _ := (hA.bl _ hlt_f (fun q h => absurd h (Nat.not_lt_zero _))).trans HBf.out
      have q0 := cell_at (v := .int .i64 20) hBq 0 rfl
      have q1 := cell_at (v := .bool b) hBq 1 rfl
      have q2 := cell_at (v := .slice ao l c) hBq 2 rfl
      have q3 := cell_at (v := .string nm) hBq 3 rfl
      have q4 := cell_at (v := .slice (some a) 2 kc) hBq 4 rfl
      clear hBq
      clear hA
      refine ⟨(by rfl), ?_⟩
      go_simp <;> (try with_reducible rfl)
    refine Rel7.Chain.det ?_ (by rfl) (fun T xs wr hA => ?_) ?_
    rotate_left 1
    · have e57 := hA.tm 8 57 (by rfl) (by rfl)
      have f57 : xs 8 = _ := hA.fa 8 (by rfl)
      (try simp (disch := first | rfl | decide) only [Rel7.mask_in] at f57)
      rw [f57] at e57
      clear f57
      clear hA
      refine ⟨(by rfl), ?_⟩
      go_simp <;> (try with_reducible rfl)
    refine Rel7.Chain.det ?_ (by rfl) (fun T xs wr hA => ?_) ?_
    rotate_left 1
    · have e58 := hA.tm 9 58 (by rfl) (by rfl)
      have f58 : xs 9 = _ := hA.fa 9 (by rfl)
      (try simp (disch := first | rfl | decide) only [Rel7.mask_in] at f58)
      rw [f58] at e58
      clear f58
      have hbw := undrew (hA.be x2.heap.size (Nat.le_refl _) (fun q h => absurd h (Nat.not_lt_zero q)))
      obtain ⟨q0, q1, q2, q3, q4⟩ := HQC.out.below hbw
      try simp only at q0 q1 q2 q3 q4
      clear hA
      refine ⟨(by rfl), ?_⟩
      go_simp <;> (try with_reducible rfl)
    refine Rel7.Chain.call (fun xs v w => v = .bool (asB (ev (rho env) q))) (fun _ _ _ _ h _ => h) (fun _ _ _ _ _ h _ _ => h) (by rfl) (fun T xs wr hA => ?_) ?_
    · have hsw := (hA.be 0 (Nat.zero_le _) (fun _ _ => Nat.zero_le _)).size
      have e55 := hA.tm 6 55 (by rfl) (by rfl)
      have f55 : xs 6 = _ := hA.fa 6 (by rfl)
      (try simp (disch := first | rfl | decide) only [Rel7.mask_in] at f55)
      rw [f55] at e55
      clear f55
      have e59 := hA.tm 10 59 (by rfl) (by rfl)
      have f59 : xs 10 = _ := hA.fa 10 (by rfl)
      (try simp (disch := first | rfl | decide) only [Rel7.mask_in] at f59)
      rw [f59] at e59
      clear f59
      have hbw := undrew (hA.be x2.heap.size (Nat.le_refl _) (fun q h => absurd h (Nat.not_lt_zero q)))
      have hfq := HFQ.out.below hbw
      clear hA
      refine ⟨(by rfl), fun K hK => ?_⟩
      go_simp
      refine (IT _ _ env q S _ hfq (HE.out.below hbw) HRQ.out HQ.out HSQ.out).mono ?_
      rintro e w' ⟨rfl, hb'⟩
      exact hK.out _ _ rfl hb'
    refine Rel7.Chain.det ?_ (by rfl) (fun T xs wr hA => ?_) ?_
    rotate_left 1
    · have e54 := hA.tm 5 54 (by rfl) (by rfl)
      have f54 : xs 5 = (.bool (asB (ev (rho env) p))) := hA.fa 5 (by rfl)
      rw [f54] at e54
      clear f54
      have e60 := hA.tm 11 60 (by rfl) (by rfl)
      have f60 : xs 11 = (.bool (asB (ev (rho env) q))) := hA.fa 11 (by rfl)
      rw [f60] at e60
      clear f60
      clear hA
      refine ⟨(by rfl), ?_⟩
      go_simp <;> (try with_reducible rfl)
    refine Rel7.Chain.det ?_ (by rfl) (fun T xs wr hA => ?_) ?_
    rotate_left 1
    · have e61 := hA.tm 12 61 (by rfl) (by rfl)
      have f61 : xs 12 = _ := hA.fa 12 (by rfl)
      (try simp (disch := first | rfl | decide) only [Rel7.mask_in] at f61)
      rw [f61] at e61
      clear f61
      clear hA
      refine ⟨(by rfl), ?_⟩
      go_simp <;> (try with_reducible rfl)
    refine Rel7.Chain.done (fun xs x3 hL => ?_)
    obtain ⟨⟨hbe, hbl⟩, hf, -, -⟩ := hL
    have f0 : xs 0 = _ := hf 0 (by decide)
    (try simp (disch := first | rfl | decide) only [Rel7.mask_in] at f0)
    have f1 : xs 1 = _ := hf 1 (by decide)
    (try simp (disch := first | rfl | decide) only [Rel7.mask_in] at f1)
    have f2 : xs 2 = _ := hf 2 (by decide)
    (try simp (disch := first | rfl | decide) only [Rel7.mask_in] at f2)
    have f3 : xs 3 = _ := hf 3 (by decide)
    (try simp (disch := first | rfl | decide) only [Rel7.mask_in] at f3)
    have f4 : xs 4 = _ := hf 4 (by decide)
    (try simp (disch := first | rfl | decide) only [Rel7.mask_in] at f4)
    have f5 : xs 5 = (.bool (asB (ev (rho env) p))) := hf 5 (by decide)
    have f6 : xs 6 = _ := hf 6 (by decide)
    (try simp (disch := first | rfl | decide) only [Rel7.mask_in] at f6)
    have f7 : xs 7 = _ := hf 7 (by decide)
    (try simp (disch := first | rfl | decide) only [Rel7.mask_in] at f7)
    have f8 : xs 8 = _ := hf 8 (by decide)
    (try simp (disch := first | rfl | decide) only [Rel7.mask_in] at f8)
    have f9 : xs 9 = _ := hf 9 (by decide)
    (try simp (disch := first | rfl | decide) only [Rel7.mask_in] at f9)
    have f10 : xs 10 = _ := hf 10 (by decide)
    (try simp (disch := first | rfl | decide) only [Rel7.mask_in] at f10)
    have f11 : xs 11 = (.bool (asB (ev (rho env) q))) := hf 11 (by decide)
    have f12 : xs 12 = _ := hf 12 (by decide)
    (try simp (disch := first | rfl | decide) only [Rel7.mask_in] at f12)
    have f13 : xs 13 = _ := hf 13 (by decide)
    (try simp (disch := first | rfl | decide) only [Rel7.mask_in] at f13)
    have hb0 : Below 0 x2 x3 := undrew (hbe 0 (Nat.zero_le _) (fun _ _ => Nat.zero_le _))
    have hgr : ∀ j, j < x2.heap.size → (∀ q, q < 0 → (fun q => 0) q ≠ j) → x3.heap[j]? = x2.heap[j]? := hbl
    clear hbe hbl hf
    have hb : Below x2.heap.size x2 x3 := ⟨hb0.os, hb0.tape, hb0.output, hb0.size, fun q hq => hgr q hq (fun q h => absurd h (Nat.not_lt_zero _))⟩
    refine Rel7.rest_done ?_
    simp only [Rel7.fill, List.setIfInBounds_toArray, List.set_cons_zero, List.set_cons_succ, f0, f1, f2, f3, f4, f5, f6, f7, f8, f9, f10, f11, f12, f13]
    clear hb0 hgr hog hlt_e hlt_f f0 f1 f2 f3 f4 f5 f6 f7 f8 f9 f10 f11 f12 f13
    replace HBe := kBV hb HBe
    replace HBf := kBV hb HBf
    replace HX := Lib.hid (HX.out.below hb)
    replace HE := Lib.hid (HE.out.below hb)
    replace HW := Lib.hid (HW.out.trans (hb.mono HW.out.size))
    replace HFP := Lib.hid (HFP.out.below hb)
    replace HPC := Lib.hid (HPC.out.below hb)
    replace HFQ := Lib.hid (HFQ.out.below hb)
    replace HQC := Lib.hid (HQC.out.below hb)
    replace hb := Lib.hid hb
    go_wp2_with fail
    go_ret
    refine ⟨?_, HW.out⟩
    rw [HEV.out]; rfl
end Go.Proofs.Ytinfbmnimkcdjaa
