/-
  The value of an int: one step.
-/
import Derived.Test.YtinfbmnimkcdjaaLgI
namespace Go.Proofs.Ytinfbmnimkcdjaa
open Go.RowKit
set_option maxRecDepth 100000
set_option linter.unusedVariables false
set_option linter.unusedSimpArgs false

attribute [local go_sem] fieldV0 fieldV1 fieldV2 fieldV3
set_option maxHeartbeats 8000000 in
theorem num_step (d : Nat) (IN : NumC d) (IL : LstC d) : NumC (d + 1) := by
  intro ve v env t S w h he hr hs hsm
  obtain ⟨b, ao, l, c, ko, kl, kc, rfl, ⟨-, hz, hkl, hkc, hkm⟩, -, hk⟩ := h.open
  obtain ⟨o, z, nm, ks⟩ := t
  simp only [F.op, F.num, F.name, F.kids] at hz hk hkl hs ⊢
  rw [show d + 1 - 1 = d from rfl] at hk
  obtain ⟨hfit, hrs⟩ := rt_node hr
  have ho : o = 0 ∨ o = 1 ∨ o = 2 ∨ o = 3 ∨ o = 4 ∨ o = 5 ∨ o = 6 ∨ o = 7 := by
    have := fit_range hfit
    unfold srt at hs
    split at hs
    · omega
    · split at hs
      · omega
      · omega
  obtain ⟨eo, en, ec, rfl⟩ := he.shape
  have hkm' : kc ≤ 9223372036854775807 := hkm
  have hval := hsm.val
  clear h hr hs hkm
  rcases ho with rfl | rfl | rfl | rfl | rfl | rfl | rfl | rfl
  · have HX := Lib.hid hk
    have HZ := Lib.hid hz
    have HE := Lib.hid he
    have HSM := Lib.hid hsm
    have HRS := Lib.hid hrs
    have HW := Lib.hid (Below.refl w.heap.size w)
    have HKL0 := Lib.hid hkl
    clear hkl hkc
    clear hz hk he hsm hrs hval hfit
    go_enter Try.func64, Try.ntmps64
    obtain ⟨x1, kf, ef, ekf, hbf, hkf, HBf⟩ := newV w #[.int .i64 0, .bool b, .slice ao l c, .string nm, .slice ko kl kc] 29
    replace HX := Lib.hid (HX.out.below hbf.out)
    replace HZ := Lib.hid (HZ.out.below hbf.out)
    replace HE := Lib.hid (HE.out.below hbf.out)
    replace HW := Lib.hid (HW.out.trans (hbf.out.mono HW.out.size))
    have HKf0 := hkf
    obtain ⟨x2, kr, er, ekr, hbr, hkr, HBr⟩ := newV x1 #[.bool false, .slice none 0 0] 26
    replace HBf := kBV hbr.out HBf
    replace HX := Lib.hid (HX.out.below hbr.out)
    replace HZ := Lib.hid (HZ.out.below hbr.out)
    replace HE := Lib.hid (HE.out.below hbr.out)
    replace HW := Lib.hid (HW.out.trans (hbr.out.mono HW.out.size))
    have HKr : Hid (w.heap.size ≤ kr) := Lib.hid (Nat.le_trans hbf.out.size hkr.out)
    have c0 := cell_at (v := .int .i64 0) HBf.out 0 rfl
    have fc0 := froz_at HBf.out 0
    have c1 := cell_at (v := .bool b) HBf.out 1 rfl
    have fc1 := froz_at HBf.out 1
    have c2 := cell_at (v := .slice ao l c) HBf.out 2 rfl
    have fc2 := froz_at HBf.out 2
    have c3 := cell_at (v := .string nm) HBf.out 3 rfl
    have fc3 := froz_at HBf.out 3
    have c4 := cell_at (v := .slice ko kl kc) HBf.out 4 rfl
    have fc4 := froz_at HBf.out 4
    obtain ⟨r0, r1', fr0, fr1⟩ := cells2V HBr.out
    go_wp2_with fail
    clear c0 fc0 c1 fc1 c2 fc2 c3 fc3 c4 fc4
    obtain ⟨r1, r2⟩ := res2V HW.out HBr.out n32_2 HKr.out (.bool b) (.slice ao l c)
    (try simp only [Exit.inBlock, Exit.then])
    exact bodyPost_ret (v := .agg #[.bool b, .slice ao l c]) (by simp [results, Try.results64, go_sem, r0, r1']) rfl ⟨_, rfl, (HZ.out).fr r1, r2⟩
  · have HX := Lib.hid hk
    have HZ := Lib.hid hz
    have HE := Lib.hid he
    have HSM := Lib.hid hsm
    have HRS := Lib.hid hrs
    have HW := Lib.hid (Below.refl w.heap.size w)
    have HKL0 := Lib.hid hkl
    clear hkl hkc
    clear hz hk he hsm hrs hval hfit
    go_enter Try.func64, Try.ntmps64
    obtain ⟨x1, kf, ef, ekf, hbf, hkf, HBf⟩ := newV w #[.int .i64 1, .bool b, .slice ao l c, .string nm, .slice ko kl kc] 29
    replace HX := Lib.hid (HX.out.below hbf.out)
    replace HZ := Lib.hid (HZ.out.below hbf.out)
    replace HE := Lib.hid (HE.out.below hbf.out)
    replace HW := Lib.hid (HW.out.trans (hbf.out.mono HW.out.size))
    have HKf0 := hkf
    obtain ⟨x2, kr, er, ekr, hbr, hkr, HBr⟩ := newV x1 #[.bool false, .slice none 0 0] 26
    replace HBf := kBV hbr.out HBf
    replace HX := Lib.hid (HX.out.below hbr.out)
    replace HZ := Lib.hid (HZ.out.below hbr.out)
    replace HE := Lib.hid (HE.out.below hbr.out)
    replace HW := Lib.hid (HW.out.trans (hbr.out.mono HW.out.size))
    have HKr : Hid (w.heap.size ≤ kr) := Lib.hid (Nat.le_trans hbf.out.size hkr.out)
    have c0 := cell_at (v := .int .i64 1) HBf.out 0 rfl
    have fc0 := froz_at HBf.out 0
    have c1 := cell_at (v := .bool b) HBf.out 1 rfl
    have fc1 := froz_at HBf.out 1
    have c2 := cell_at (v := .slice ao l c) HBf.out 2 rfl
    have fc2 := froz_at HBf.out 2
    have c3 := cell_at (v := .string nm) HBf.out 3 rfl
    have fc3 := froz_at HBf.out 3
    have c4 := cell_at (v := .slice ko kl kc) HBf.out 4 rfl
    have fc4 := froz_at HBf.out 4
    go_wp2_with fail
    refine (lookup_p _ env nm 0 x2 HE.out).mono ?_
    rintro e x3 ⟨v, rfl, hv, hb⟩
    clear c0 fc0 c1 fc1 c2 fc2 c3 fc3 c4 fc4
    replace HBf := kBV hb HBf
    replace HBr := kBV hb HBr
    replace HX := Lib.hid (HX.out.below hb)
    replace HZ := Lib.hid (HZ.out.below hb)
    replace HE := Lib.hid (HE.out.below hb)
    replace HW := Lib.hid (HW.out.trans (hb.mono HW.out.size))
    rw [lk0] at hv
    obtain ⟨o1, l1, c1, rfl, hci⟩ := hv.int
    have HV := Lib.hid hci
    clear hv hci
    obtain ⟨r0, r1', fr0, fr1⟩ := cells2V HBr.out
    go_wp2_with fail
    obtain ⟨r1, r2⟩ := res2V HW.out HBr.out n32_2 HKr.out (.bool (decide (asI (rho env nm) < 0))) (.slice o1 l1 c1)
    (try simp only [Exit.inBlock, Exit.then])
    exact bodyPost_ret (v := .agg #[.bool (decide (asI (rho env nm) < 0)), .slice o1 l1 c1]) (by simp [results, Try.results64, go_sem, r0, r1']) rfl ⟨_, rfl, (HV.out).fr r1, r2⟩
  · have HX := Lib.hid hk
    have HZ := Lib.hid hz
    have HE := Lib.hid he
    have HSM := Lib.hid hsm
    have HRS := Lib.hid hrs
    have HW := Lib.hid (Below.refl w.heap.size w)
    have HKL0 := Lib.hid hkl
    clear hkl hkc
    obtain ⟨p, q, rfl, hp, hq⟩ := srts_two (ks := ks) (s := 0) (r := 0) (by simpa [fitF, kidsOk] using hfit)
    have HSP := Lib.hid (hsm.kid p (by simp))
    have HRP := Lib.hid (hrs p (by simp))
    have HP := Lib.hid hp
    have HSQ := Lib.hid (hsm.kid q (by simp))
    have HRQ := Lib.hid (hrs q (by simp))
    have HQ := Lib.hid hq
    have HEV : Hid (asI (ev (rho env) (.node 2 z nm [p, q])) = asI (opV (rho env) 2 z nm [ev (rho env) p, ev (rho env) q])) := Lib.hid (by rw [ev, evs, evs, evs])
    have HVAL : Hid ((asI (opV (rho env) 2 z nm [ev (rho env) p, ev (rho env) q])).natAbs < L32 ^ 600) := Lib.hid (by rw [ev, evs, evs, evs] at hval; exact hval)
    have hkl1 : kl = 2 := HKL0.out
    subst hkl1
    clear hz hk he hsm hrs hval hfit hp HKL0 hq
    go_enter Try.func64, Try.ntmps64
    obtain ⟨x1, kf, ef, ekf, hbf, hkf, HBf⟩ := newV w #[.int .i64 2, .bool b, .slice ao l c, .string nm, .slice ko 2 kc] 29
    replace HX := Lib.hid (HX.out.below hbf.out)
    replace HZ := Lib.hid (HZ.out.below hbf.out)
    replace HE := Lib.hid (HE.out.below hbf.out)
    replace HW := Lib.hid (HW.out.trans (hbf.out.mono HW.out.size))
    have HKf0 := hkf
    obtain ⟨x2, kr, er, ekr, hbr, hkr, HBr⟩ := newV x1 #[.bool false, .slice none 0 0] 26
    replace HBf := kBV hbr.out HBf
    replace HX := Lib.hid (HX.out.below hbr.out)
    replace HZ := Lib.hid (HZ.out.below hbr.out)
    replace HE := Lib.hid (HE.out.below hbr.out)
    replace HW := Lib.hid (HW.out.trans (hbr.out.mono HW.out.size))
    have HKr : Hid (w.heap.size ≤ kr) := Lib.hid (Nat.le_trans hbf.out.size hkr.out)
    have c0 := cell_at (v := .int .i64 2) HBf.out 0 rfl
    have fc0 := froz_at HBf.out 0
    have c1 := cell_at (v := .bool b) HBf.out 1 rfl
    have fc1 := froz_at HBf.out 1
    have c2 := cell_at (v := .slice ao l c) HBf.out 2 rfl
    have fc2 := froz_at HBf.out 2
    have c3 := cell_at (v := .string nm) HBf.out 3 rfl
    have fc3 := froz_at HBf.out 3
    have c4 := cell_at (v := .slice ko 2 kc) HBf.out 4 rfl
    have fc4 := froz_at HBf.out 4
    obtain ⟨a, bp, op, lp, cp, kop, klp, kcp, hkop, ⟨p0, p1, p2, p3, p4⟩, hfp⟩ := HX.out.first
    have HFP := Lib.hid hfp
    clear hfp
    obtain ⟨opp, hopp⟩ : ∃ x, x = p.op := ⟨_, rfl⟩
    obtain ⟨nmp, hnmp⟩ : ∃ x, x = p.name := ⟨_, rfl⟩
    rw [← hopp] at p0 HFP
    rw [← hnmp] at p3 HFP
    clear hopp hnmp
    obtain ⟨a2, bq, oq, lq, cq, koq, klq, kcq, hkoq, ⟨q0, q1, q2, q3, q4⟩, hfq⟩ := HX.out.second
    have HFQ := Lib.hid hfq
    clear hfq
    obtain ⟨opq, hopq⟩ : ∃ x, x = q.op := ⟨_, rfl⟩
    obtain ⟨nmq, hnmq⟩ : ∃ x, x = q.name := ⟨_, rfl⟩
    rw [← hopq] at q0 HFQ
    rw [← hnmq] at q3 HFQ
    clear hopq hnmq
    have HQC : Hid (At5 x2 ⟨a2.block, a2.off + 5, none⟩ opq bq oq lq cq nmq koq klq kcq) := Lib.hid ⟨q0, q1, q2, q3, q4⟩
    subst hkop
    injection hkoq with ha2
    subst ha2
    go_wp2_with fail
    refine (IN _ _ env p S x2 HFP.out HE.out HRP.out HP.out HSP.out).mono ?_
    rintro e x3 ⟨x, rfl, hx, hb⟩
    clear c0 fc0 c1 fc1 c2 fc2 c3 fc3 c4 fc4 p0 p1 p2 p3 p4 q0 q1 q2 q3 q4
    replace HBf := kBV hb HBf
    replace HBr := kBV hb HBr
    replace HX := Lib.hid (HX.out.below hb)
    replace HZ := Lib.hid (HZ.out.below hb)
    replace HE := Lib.hid (HE.out.below hb)
    replace HW := Lib.hid (HW.out.trans (hb.mono HW.out.size))
    replace HFP := Lib.hid (HFP.out.below hb)
    replace HFQ := Lib.hid (HFQ.out.below hb)
    replace HQC := Lib.hid (HQC.out.below hb)
    obtain ⟨X, hX⟩ : ∃ X, X = asI (ev (rho env) p) := ⟨_, rfl⟩
    rw [← hX] at hx
    have HX0 := Lib.hid hX
    clear hX
    obtain ⟨bx, ox, lx, cx, rfl⟩ := hx.shape
    have HPX := Lib.hid hx
    clear hx HFP
    obtain ⟨x4, ka, ea, eka, hba, hka, HBa⟩ := newV x3 #[.bool bx, .slice ox lx cx] 26
    replace HBf := kBV hba.out HBf
    replace HBr := kBV hba.out HBr
    replace HX := Lib.hid (HX.out.below hba.out)
    replace HZ := Lib.hid (HZ.out.below hba.out)
    replace HE := Lib.hid (HE.out.below hba.out)
    replace HW := Lib.hid (HW.out.trans (hba.out.mono HW.out.size))
    replace HFQ := Lib.hid (HFQ.out.below hba.out)
    replace HQC := Lib.hid (HQC.out.below hba.out)
    replace HPX := Lib.hid (HPX.out.below hba.out)
    have c0 := cell_at (v := .int .i64 2) HBf.out 0 rfl
    have fc0 := froz_at HBf.out 0
    have c1 := cell_at (v := .bool b) HBf.out 1 rfl
    have fc1 := froz_at HBf.out 1
    have c2 := cell_at (v := .slice ao l c) HBf.out 2 rfl
    have fc2 := froz_at HBf.out 2
    have c3 := cell_at (v := .string nm) HBf.out 3 rfl
    have fc3 := froz_at HBf.out 3
    have c4 := cell_at (v := .slice (some a) 2 kc) HBf.out 4 rfl
    have fc4 := froz_at HBf.out 4
    have d0 := cell_at (v := .bool bx) HBa.out 0 rfl
    have fd0 := froz_at HBa.out 0
    have d1 := cell_at (v := .slice ox lx cx) HBa.out 1 rfl
    have fd1 := froz_at HBa.out 1
    go_upto_region 22 with fail
    clear c0 fc0 c1 fc1 c2 fc2 c3 fc3 c4 fc4 d0 fd0 d1 fd1
    have hlt_f := lt_of_block HBf.out
    have hlt_a := lt_of_block HBa.out
    have hog : Hid (∀ q, q < 0 → (fun q => 0) q < x4.heap.size) := Lib.hid (fun q h => absurd h (Nat.not_lt_zero _))
    refine Rel7.region (by kernel_rfl) [[], [], [], [2], [2, 3], [2, 3, 4], [1, 2, 3, 4, 5], [0, 1, 2, 3, 4, 5, 6], [0, 1, 2, 3, 4, 5, 6, 7]] [] [] (fun q => 0) 0 8 (by kernel_rfl) (by kernel_rfl) (by rfl) hog.out (fun q q' h h' hn => absurd hn (by omega)) ?_
    refine Rel7.Chain.det ?_ (by rfl) (fun T xs wr hA => ?_) ?_
    rotate_left 1
    · have e6 := hA.pre 6 (by kernel_rfl)
      simp only [List.getElem?_toArray, List.getElem?_cons_succ, List.getElem?_cons_zero] at e6
      have hBq : wr.heap[ka]? = _ := (hA.bl _ hlt_a (fun q h => absurd h (Nat.not_lt_zero _))).trans HBa.out
      have q0 := cell_at (v := .bool bx) hBq 0 rfl
      have q1 := cell_at (v := .slice ox lx cx) hBq 1 rfl
      clear hBq
      clear hA
      refine ⟨(by rfl), ?_⟩
      go_simp <;> (try with_reducible rfl)
    refine Rel7.Chain.det ?_ (by rfl) (fun T xs wr hA => ?_) ?_
    rotate_left 1
    · have e0 := hA.pre 0 (by kernel_rfl)
      simp only [List.getElem?_toArray, List.getElem?_cons_zero] at e0
      clear hA
      refine ⟨(by rfl), ?_⟩
      go_simp <;> (try with_reducible rfl)
    refine Rel7.Chain.det ?_ (by rfl) (fun T xs wr hA => ?_) ?_
    rotate_left 1
    · have e3 := hA.pre 3 (by kernel_rfl)
      simp only [List.getElem?_toArray, List.getElem?_cons_succ, List.getElem?_cons_zero] at e3
      clear hA
      refine ⟨(by rfl), ?_⟩
      go_simp <;> (try with_reducible rfl)
    refine Rel7.Chain.det ?_ (by rfl) (fun T xs wr hA => ?_) ?_
    rotate_left 1
    · have e85 := hA.tm 2 85 (by rfl) (by rfl)
      have f85 : xs 2 = _ := hA.fa 2 (by rfl)
      (try simp (disch := first | rfl | decide) only [Rel7.mask_in] at f85)
      rw [f85] at e85
      clear f85
      have hBq : wr.heap[kf]? = _ := (hA.bl _ hlt_f (fun q h => absurd h (Nat.not_lt_zero _))).trans HBf.out
      have q0 := cell_at (v := .int .i64 2) hBq 0 rfl
      have q1 := cell_at (v := .bool b) hBq 1 rfl
      have q2 := cell_at (v := .slice ao l c) hBq 2 rfl
      have q3 := cell_at (v := .string nm) hBq 3 rfl
      have q4 := cell_at (v := .slice (some a) 2 kc) hBq 4 rfl
      clear hBq
      clear hA
      refine ⟨(by rfl), ?_⟩
      go_simp <;> (try with_reducible rfl)
    refine Rel7.Chain.det ?_ (by rfl) (fun T xs wr hA => ?_) ?_
    rotate_left 1
    · have e86 := hA.tm 3 86 (by rfl) (by rfl)
      have f86 : xs 3 = _ := hA.fa 3 (by rfl)
      (try simp (disch := first | rfl | decide) only [Rel7.mask_in] at f86)
      rw [f86] at e86
      clear f86
      clear hA
      refine ⟨(by rfl), ?_⟩
      go_simp <;> (try with_reducible rfl)
    refine Rel7.Chain.det ?_ (by rfl) (fun T xs wr hA => ?_) ?_
    rotate_left 1
    · have e87 := hA.tm 4 87 (by rfl) (by rfl)
      have f87 : xs 4 = _ := hA.fa 4 (by rfl)
      (try simp (disch := first | rfl | decide) only [Rel7.mask_in] at f87)
      rw [f87] at e87
      clear f87
      have hbw := undrew (hA.be x4.heap.size (Nat.le_refl _) (fun q h => absurd h (Nat.not_lt_zero q)))
      obtain ⟨q0, q1, q2, q3, q4⟩ := HQC.out.below hbw
      simp only at q0 q1 q2 q3 q4
      clear hA
      refine ⟨(by rfl), ?_⟩
      go_simp <;> (try with_reducible rfl)
    refine Rel7.Chain.call (fun xs v w => ∃ y, v = y ∧ CI w y (asI (ev (rho env) q)) 600) (fun _ _ _ _ h hb => by obtain ⟨y, h1, h2⟩ := h; exact ⟨y, h1, h2.below hb⟩) (fun _ _ _ _ _ _ h _ => by obtain ⟨q, hq, _⟩ := h; exact absurd hq (Nat.not_lt_zero _)) (by rfl) (fun T xs wr hA => ?_) ?_
    · have hsw := (hA.be 0 (Nat.zero_le _) (fun _ _ => Nat.zero_le _)).size
      have e84 := hA.tm 1 84 (by rfl) (by rfl)
      have f84 : xs 1 = _ := hA.fa 1 (by rfl)
      (try simp (disch := first | rfl | decide) only [Rel7.mask_in] at f84)
      rw [f84] at e84
      clear f84
      have e88 := hA.tm 5 88 (by rfl) (by rfl)
      have f88 : xs 5 = _ := hA.fa 5 (by rfl)
      (try simp (disch := first | rfl | decide) only [Rel7.mask_in] at f88)
      rw [f88] at e88
      clear f88
      have hbw := undrew (hA.be x4.heap.size (Nat.le_refl _) (fun q h => absurd h (Nat.not_lt_zero q)))
      have hfq := HFQ.out.below hbw
      clear hA
      refine ⟨(by rfl), fun K hK => ?_⟩
      go_simp
      refine (IN _ _ env q S _ hfq (HE.out.below hbw) HRQ.out HQ.out HSQ.out).mono ?_
      rintro e w' ⟨y, rfl, hy, hb'⟩
      exact hK.out _ _ ⟨y, rfl, hy⟩ hb'
    refine Rel7.Chain.call (fun xs v w => ∃ y, v = y ∧ CI w y (asI (opV (rho env) 2 z nm [ev (rho env) p, ev (rho env) q])) 600) (fun _ _ _ _ h hb => by obtain ⟨y, h1, h2⟩ := h; exact ⟨y, h1, h2.below hb⟩) (fun _ _ _ _ _ _ h _ => by obtain ⟨q, hq, _⟩ := h; exact absurd hq (Nat.not_lt_zero _)) (by rfl) (fun T xs wr hA => ?_) ?_
    · have hsw := (hA.be 0 (Nat.zero_le _) (fun _ _ => Nat.zero_le _)).size
      have e83 := hA.tm 0 83 (by rfl) (by rfl)
      have f83 : xs 0 = _ := hA.fa 0 (by rfl)
      (try simp (disch := first | rfl | decide) only [Rel7.mask_in] at f83)
      rw [f83] at e83
      clear f83
      have e89 := hA.tm 6 89 (by rfl) (by rfl)
      have hbw := undrew (hA.be x4.heap.size (Nat.le_refl _) (fun q h => absurd h (Nat.not_lt_zero q)))
      have hF6 : ∃ y, (xs 6) = y ∧ CI wr y (asI (ev (rho env) q)) 600 := hA.fa 6 (by rfl)
      obtain ⟨y6, e6, hy6⟩ := hF6
      have hpx := HPX.out.below hbw
      clear hA
      refine ⟨(by rfl), fun K hK => ?_⟩
      go_simp
      refine (wadd_any _ _ X (asI (ev (rho env) q)) 600 600 _ hpx.gi (by first | exact hy6.gi | (rw [e6]; exact hy6.gi)) (by decide) (by decide)).mono ?_
      rintro e w' ⟨y, rfl, hy, hb'⟩
      exact hK.out _ _ ⟨y, rfl, CI.tight (by show CI _ _ (asI (ev (rho env) p) + asI (ev (rho env) q)) _; rw [← HX0.out]; exact hy) HVAL.out⟩ hb'
    refine Rel7.Chain.done (fun xs x5 hL => ?_)
    obtain ⟨⟨hbe, hbl⟩, hf, -, -⟩ := hL
    have f0 : xs 0 = _ := hf 0 (by decide)
    (try simp (disch := first | rfl | decide) only [Rel7.mask_in] at f0)
    have f1 : xs 1 = _ := hf 1 (by decide)
    (try simp (disch := first | rfl | decide) only [Rel7.mask_in] at f1)
    have f2 : xs 2 = _ := hf 2 (by decide)
    (try simp (disch := first | rfl | decide) only [Rel7.mask_in] at f2)
    have f3 : xs 3 = _ := hf 3 (by decide)
    (try simp (disch := first | rfl | decide) only [Rel7.mask_in] at f3)
    have f4 : xs 4 = _ := hf 4 (by decide)
    (try simp (disch := first | rfl | decide) only [Rel7.mask_in] at f4)
    have f5 : xs 5 = _ := hf 5 (by decide)
    (try simp (disch := first | rfl | decide) only [Rel7.mask_in] at f5)
    have F6 : ∃ y, (xs 6) = y ∧ CI x5 y (asI (ev (rho env) q)) 600 := hf 6 (by decide)
    have F7 : ∃ y, (xs 7) = y ∧ CI x5 y (asI (opV (rho env) 2 z nm [ev (rho env) p, ev (rho env) q])) 600 := hf 7 (by decide)
    have hb0 : Below 0 x4 x5 := undrew (hbe 0 (Nat.zero_le _) (fun _ _ => Nat.zero_le _))
    have hgr : ∀ j, j < x4.heap.size → (∀ q, q < 0 → (fun q => 0) q ≠ j) → x5.heap[j]? = x4.heap[j]? := hbl
    clear hbe hbl hf
    have hb : Below x4.heap.size x4 x5 := ⟨hb0.os, hb0.tape, hb0.output, hb0.size, fun q hq => hgr q hq (fun q h => absurd h (Nat.not_lt_zero _))⟩
    refine Rel7.rest_list (by decide) (by kernel_rfl) ?_
    simp only [Rel7.fill, List.take_succ_cons, List.take_zero, List.drop_succ_cons, List.drop_zero, List.setIfInBounds_toArray, List.set_cons_zero, List.set_cons_succ, f0, f1, f2, f3, f4, f5]
    clear hb0 hgr hog hlt_f hlt_a f0 f1 f2 f3 f4 f5
    replace HBf := kBV hb HBf
    replace HBr := kBV hb HBr
    replace HBa := kBV hb HBa
    replace HX := Lib.hid (HX.out.below hb)
    replace HZ := Lib.hid (HZ.out.below hb)
    replace HE := Lib.hid (HE.out.below hb)
    replace HW := Lib.hid (HW.out.trans (hb.mono HW.out.size))
    replace HFQ := Lib.hid (HFQ.out.below hb)
    replace HQC := Lib.hid (HQC.out.below hb)
    replace HPX := Lib.hid (HPX.out.below hb)
    replace hb := Lib.hid hb
    obtain ⟨y, hy1, hy2⟩ := F7
    obtain ⟨b1, o1, l1, c1, hys⟩ := hy2.shape
    rw [hys] at hy1 hy2
    have HV := Lib.hid hy2
    obtain ⟨r0, r1', fr0, fr1⟩ := cells2V HBr.out
    go_wp2_with fail
    obtain ⟨r1, r2⟩ := res2V HW.out HBr.out n32_2 HKr.out (.bool b1) (.slice o1 l1 c1)
    (try simp only [Exit.inBlock, Exit.then])
    exact bodyPost_ret (v := .agg #[.bool b1, .slice o1 l1 c1]) (by simp [results, Try.results64, go_sem, r0, r1']) rfl ⟨_, rfl, ((show CI _ _ (asI (ev (rho env) (.node 2 z nm [p, q]))) 600 from by rw [HEV.out]; exact HV.out)).fr r1, r2⟩
  · have HX := Lib.hid hk
    have HZ := Lib.hid hz
    have HE := Lib.hid he
    have HSM := Lib.hid hsm
    have HRS := Lib.hid hrs
    have HW := Lib.hid (Below.refl w.heap.size w)
    have HKL0 := Lib.hid hkl
    clear hkl hkc
    obtain ⟨p, rfl, hp⟩ := srts_one (ks := ks) (s := 0) (by simpa [fitF, kidsOk] using hfit)
    have HSP := Lib.hid (hsm.kid p (by simp))
    have HRP := Lib.hid (hrs p (by simp))
    have HP := Lib.hid hp
    have HEV : Hid (asI (ev (rho env) (.node 3 z nm [p])) = asI (opV (rho env) 3 z nm [ev (rho env) p])) := Lib.hid (by rw [ev, evs, evs])
    have HVAL : Hid ((asI (opV (rho env) 3 z nm [ev (rho env) p])).natAbs < L32 ^ 600) := Lib.hid (by rw [ev, evs, evs] at hval; exact hval)
    have hkl1 : kl = 1 := HKL0.out
    subst hkl1
    clear hz hk he hsm hrs hval hfit hp HKL0
    go_enter Try.func64, Try.ntmps64
    obtain ⟨x1, kf, ef, ekf, hbf, hkf, HBf⟩ := newV w #[.int .i64 3, .bool b, .slice ao l c, .string nm, .slice ko 1 kc] 29
    replace HX := Lib.hid (HX.out.below hbf.out)
    replace HZ := Lib.hid (HZ.out.below hbf.out)
    replace HE := Lib.hid (HE.out.below hbf.out)
    replace HW := Lib.hid (HW.out.trans (hbf.out.mono HW.out.size))
    have HKf0 := hkf
    obtain ⟨x2, kr, er, ekr, hbr, hkr, HBr⟩ := newV x1 #[.bool false, .slice none 0 0] 26
    replace HBf := kBV hbr.out HBf
    replace HX := Lib.hid (HX.out.below hbr.out)
    replace HZ := Lib.hid (HZ.out.below hbr.out)
    replace HE := Lib.hid (HE.out.below hbr.out)
    replace HW := Lib.hid (HW.out.trans (hbr.out.mono HW.out.size))
    have HKr : Hid (w.heap.size ≤ kr) := Lib.hid (Nat.le_trans hbf.out.size hkr.out)
    have c0 := cell_at (v := .int .i64 3) HBf.out 0 rfl
    have fc0 := froz_at HBf.out 0
    have c1 := cell_at (v := .bool b) HBf.out 1 rfl
    have fc1 := froz_at HBf.out 1
    have c2 := cell_at (v := .slice ao l c) HBf.out 2 rfl
    have fc2 := froz_at HBf.out 2
    have c3 := cell_at (v := .string nm) HBf.out 3 rfl
    have fc3 := froz_at HBf.out 3
    have c4 := cell_at (v := .slice ko 1 kc) HBf.out 4 rfl
    have fc4 := froz_at HBf.out 4
    obtain ⟨a, bp, op, lp, cp, kop, klp, kcp, hkop, ⟨p0, p1, p2, p3, p4⟩, hfp⟩ := HX.out.first
    have HFP := Lib.hid hfp
    clear hfp
    obtain ⟨opp, hopp⟩ : ∃ x, x = p.op := ⟨_, rfl⟩
    obtain ⟨nmp, hnmp⟩ : ∃ x, x = p.name := ⟨_, rfl⟩
    rw [← hopp] at p0 HFP
    rw [← hnmp] at p3 HFP
    clear hopp hnmp
    subst hkop
    go_wp2_with fail
    refine (IN _ _ env p S x2 HFP.out HE.out HRP.out HP.out HSP.out).mono ?_
    rintro e x3 ⟨x, rfl, hx, hb⟩
    clear c0 fc0 c1 fc1 c2 fc2 c3 fc3 c4 fc4 p0 p1 p2 p3 p4
    replace HBf := kBV hb HBf
    replace HBr := kBV hb HBr
    replace HX := Lib.hid (HX.out.below hb)
    replace HZ := Lib.hid (HZ.out.below hb)
    replace HE := Lib.hid (HE.out.below hb)
    replace HW := Lib.hid (HW.out.trans (hb.mono HW.out.size))
    replace HFP := Lib.hid (HFP.out.below hb)
    obtain ⟨X, hX⟩ : ∃ X, X = asI (ev (rho env) p) := ⟨_, rfl⟩
    rw [← hX] at hx
    have HX0 := Lib.hid hX
    clear hX
    obtain ⟨bx, ox, lx, cx, rfl⟩ := hx.shape
    have HPX := Lib.hid hx
    clear hx HFP
    obtain ⟨x4, ka, ea, eka, hba, hka, HBa⟩ := newV x3 #[.bool bx, .slice ox lx cx] 26
    replace HBf := kBV hba.out HBf
    replace HBr := kBV hba.out HBr
    replace HX := Lib.hid (HX.out.below hba.out)
    replace HZ := Lib.hid (HZ.out.below hba.out)
    replace HE := Lib.hid (HE.out.below hba.out)
    replace HW := Lib.hid (HW.out.trans (hba.out.mono HW.out.size))
    replace HPX := Lib.hid (HPX.out.below hba.out)
    have c0 := cell_at (v := .int .i64 3) HBf.out 0 rfl
    have fc0 := froz_at HBf.out 0
    have c1 := cell_at (v := .bool b) HBf.out 1 rfl
    have fc1 := froz_at HBf.out 1
    have c2 := cell_at (v := .slice ao l c) HBf.out 2 rfl
    have fc2 := froz_at HBf.out 2
    have c3 := cell_at (v := .string nm) HBf.out 3 rfl
    have fc3 := froz_at HBf.out 3
    have c4 := cell_at (v := .slice (some a) 1 kc) HBf.out 4 rfl
    have fc4 := froz_at HBf.out 4
    have d0 := cell_at (v := .bool bx) HBa.out 0 rfl
    have fd0 := froz_at HBa.out 0
    have d1 := cell_at (v := .slice ox lx cx) HBa.out 1 rfl
    have fd1 := froz_at HBa.out 1
    go_wp2_with fail
    refine (wmul_any _ _ z X 600 600 x4 HZ.out.gi HPX.out.gi (by decide) (by decide)).mono ?_
    rintro e x5 ⟨y, rfl, hy, hb⟩
    clear c0 fc0 c1 fc1 c2 fc2 c3 fc3 c4 fc4 d0 fd0 d1 fd1
    replace HBf := kBV hb HBf
    replace HBr := kBV hb HBr
    replace HBa := kBV hb HBa
    replace HX := Lib.hid (HX.out.below hb)
    replace HZ := Lib.hid (HZ.out.below hb)
    replace HE := Lib.hid (HE.out.below hb)
    replace HW := Lib.hid (HW.out.trans (hb.mono HW.out.size))
    replace HPX := Lib.hid (HPX.out.below hb)
    obtain ⟨b1, o1, l1, c1, rfl⟩ := hy.shape
    have HV := Lib.hid (CI.tight (z := asI (opV (rho env) 3 z nm [ev (rho env) p])) (by show CI _ _ (z * asI (ev (rho env) p)) _; rw [← HX0.out]; exact hy) HVAL.out)
    clear hy
    obtain ⟨r0, r1', fr0, fr1⟩ := cells2V HBr.out
    go_wp2_with fail
    obtain ⟨r1, r2⟩ := res2V HW.out HBr.out n32_2 HKr.out (.bool b1) (.slice o1 l1 c1)
    (try simp only [Exit.inBlock, Exit.then])
    exact bodyPost_ret (v := .agg #[.bool b1, .slice o1 l1 c1]) (by simp [results, Try.results64, go_sem, r0, r1']) rfl ⟨_, rfl, ((show CI _ _ (asI (ev (rho env) (.node 3 z nm [p]))) 600 from by rw [HEV.out]; exact HV.out)).fr r1, r2⟩
  · have HX := Lib.hid hk
    have HZ := Lib.hid hz
    have HE := Lib.hid he
    have HSM := Lib.hid hsm
    have HRS := Lib.hid hrs
    have HW := Lib.hid (Below.refl w.heap.size w)
    have HKL0 := Lib.hid hkl
    clear hkl hkc
    obtain ⟨p, q, rfl, hp, hq⟩ := srts_two (ks := ks) (s := 0) (r := 0) (by simpa [fitF, kidsOk] using hfit)
    have HSP := Lib.hid (hsm.kid p (by simp))
    have HRP := Lib.hid (hrs p (by simp))
    have HP := Lib.hid hp
    have HSQ := Lib.hid (hsm.kid q (by simp))
    have HRQ := Lib.hid (hrs q (by simp))
    have HQ := Lib.hid hq
    have HEV : Hid (asI (ev (rho env) (.node 4 z nm [p, q])) = asI (opV (rho env) 4 z nm [ev (rho env) p, ev (rho env) q])) := Lib.hid (by rw [ev, evs, evs, evs])
    have HVAL : Hid ((asI (opV (rho env) 4 z nm [ev (rho env) p, ev (rho env) q])).natAbs < L32 ^ 600) := Lib.hid (by rw [ev, evs, evs, evs] at hval; exact hval)
    have hkl1 : kl = 2 := HKL0.out
    subst hkl1
    clear hz hk he hsm hrs hval hfit hp HKL0 hq
    go_enter Try.func64, Try.ntmps64
    obtain ⟨x1, kf, ef, ekf, hbf, hkf, HBf⟩ := newV w #[.int .i64 4, .bool b, .slice ao l c, .string nm, .slice ko 2 kc] 29
    replace HX := Lib.hid (HX.out.below hbf.out)
    replace HZ := Lib.hid (HZ.out.below hbf.out)
    replace HE := Lib.hid (HE.out.below hbf.out)
    replace HW := Lib.hid (HW.out.trans (hbf.out.mono HW.out.size))
    have HKf0 := hkf
    obtain ⟨x2, kr, er, ekr, hbr, hkr, HBr⟩ := newV x1 #[.bool false, .slice none 0 0] 26
    replace HBf := kBV hbr.out HBf
    replace HX := Lib.hid (HX.out.below hbr.out)
    replace HZ := Lib.hid (HZ.out.below hbr.out)
    replace HE := Lib.hid (HE.out.below hbr.out)
    replace HW := Lib.hid (HW.out.trans (hbr.out.mono HW.out.size))
    have HKr : Hid (w.heap.size ≤ kr) := Lib.hid (Nat.le_trans hbf.out.size hkr.out)
    have c0 := cell_at (v := .int .i64 4) HBf.out 0 rfl
    have fc0 := froz_at HBf.out 0
    have c1 := cell_at (v := .bool b) HBf.out 1 rfl
    have fc1 := froz_at HBf.out 1
    have c2 := cell_at (v := .slice ao l c) HBf.out 2 rfl
    have fc2 := froz_at HBf.out 2
    have c3 := cell_at (v := .string nm) HBf.out 3 rfl
    have fc3 := froz_at HBf.out 3
    have c4 := cell_at (v := .slice ko 2 kc) HBf.out 4 rfl
    have fc4 := froz_at HBf.out 4
    obtain ⟨a, bp, op, lp, cp, kop, klp, kcp, hkop, ⟨p0, p1, p2, p3, p4⟩, hfp⟩ := HX.out.first
    have HFP := Lib.hid hfp
    clear hfp
    obtain ⟨opp, hopp⟩ : ∃ x, x = p.op := ⟨_, rfl⟩
    obtain ⟨nmp, hnmp⟩ : ∃ x, x = p.name := ⟨_, rfl⟩
    rw [← hopp] at p0 HFP
    rw [← hnmp] at p3 HFP
    clear hopp hnmp
    obtain ⟨a2, bq, oq, lq, cq, koq, klq, kcq, hkoq, ⟨q0, q1, q2, q3, q4⟩, hfq⟩ := HX.out.second
    have HFQ := Lib.hid hfq
    clear hfq
    obtain ⟨opq, hopq⟩ : ∃ x, x = q.op := ⟨_, rfl⟩
    obtain ⟨nmq, hnmq⟩ : ∃ x, x = q.name := ⟨_, rfl⟩
    rw [← hopq] at q0 HFQ
    rw [← hnmq] at q3 HFQ
    clear hopq hnmq
    have HQC : Hid (At5 x2 ⟨a2.block, a2.off + 5, none⟩ opq bq oq lq cq nmq koq klq kcq) := Lib.hid ⟨q0, q1, q2, q3, q4⟩
    subst hkop
    injection hkoq with ha2
    subst ha2
    go_wp2_with fail
    refine (IN _ _ env p S x2 HFP.out HE.out HRP.out HP.out HSP.out).mono ?_
    rintro e x3 ⟨x, rfl, hx, hb⟩
    clear c0 fc0 c1 fc1 c2 fc2 c3 fc3 c4 fc4 p0 p1 p2 p3 p4 q0 q1 q2 q3 q4
    replace HBf := kBV hb HBf
    replace HBr := kBV hb HBr
    replace HX := Lib.hid (HX.out.below hb)
    replace HZ := Lib.hid (HZ.out.below hb)
    replace HE := Lib.hid (HE.out.below hb)
    replace HW := Lib.hid (HW.out.trans (hb.mono HW.out.size))
    replace HFP := Lib.hid (HFP.out.below hb)
    replace HFQ := Lib.hid (HFQ.out.below hb)
    replace HQC := Lib.hid (HQC.out.below hb)
    obtain ⟨X, hX⟩ : ∃ X, X = asI (ev (rho env) p) := ⟨_, rfl⟩
    rw [← hX] at hx
    have HX0 := Lib.hid hX
    clear hX
    obtain ⟨bx, ox, lx, cx, rfl⟩ := hx.shape
    have HPX := Lib.hid hx
    clear hx HFP
    obtain ⟨x4, ka, ea, eka, hba, hka, HBa⟩ := newV x3 #[.bool bx, .slice ox lx cx] 26
    replace HBf := kBV hba.out HBf
    replace HBr := kBV hba.out HBr
    replace HX := Lib.hid (HX.out.below hba.out)
    replace HZ := Lib.hid (HZ.out.below hba.out)
    replace HE := Lib.hid (HE.out.below hba.out)
    replace HW := Lib.hid (HW.out.trans (hba.out.mono HW.out.size))
    replace HFQ := Lib.hid (HFQ.out.below hba.out)
    replace HQC := Lib.hid (HQC.out.below hba.out)
    replace HPX := Lib.hid (HPX.out.below hba.out)
    have c0 := cell_at (v := .int .i64 4) HBf.out 0 rfl
    have fc0 := froz_at HBf.out 0
    have c1 := cell_at (v := .bool b) HBf.out 1 rfl
    have fc1 := froz_at HBf.out 1
    have c2 := cell_at (v := .slice ao l c) HBf.out 2 rfl
    have fc2 := froz_at HBf.out 2
    have c3 := cell_at (v := .string nm) HBf.out 3 rfl
    have fc3 := froz_at HBf.out 3
    have c4 := cell_at (v := .slice (some a) 2 kc) HBf.out 4 rfl
    have fc4 := froz_at HBf.out 4
    have d0 := cell_at (v := .bool bx) HBa.out 0 rfl
    have fd0 := froz_at HBa.out 0
    have d1 := cell_at (v := .slice ox lx cx) HBa.out 1 rfl
    have fd1 := froz_at HBa.out 1
    go_upto_region 21 with fail
    clear c0 fc0 c1 fc1 c2 fc2 c3 fc3 c4 fc4 d0 fd0 d1 fd1
    have hlt_f := lt_of_block HBf.out
    have hlt_a := lt_of_block HBa.out
    have hog : Hid (∀ q, q < 0 → (fun q => 0) q < x4.heap.size) := Lib.hid (fun q h => absurd h (Nat.not_lt_zero _))
    refine Rel7.region (by kernel_rfl) [[], [], [], [2], [2, 3], [2, 3, 4], [1, 2, 3, 4, 5], [0, 1, 2, 3, 4, 5, 6], [0, 1, 2, 3, 4, 5, 6, 7]] [] [] (fun q => 0) 0 8 (by kernel_rfl) (by kernel_rfl) (by rfl) hog.out (fun q q' h h' hn => absurd hn (by omega)) ?_
    refine Rel7.Chain.det ?_ (by rfl) (fun T xs wr hA => ?_) ?_
    rotate_left 1
    · have e6 := hA.pre 6 (by kernel_rfl)
      simp only [List.getElem?_toArray, List.getElem?_cons_succ, List.getElem?_cons_zero] at e6
      have hBq : wr.heap[ka]? = _ := (hA.bl _ hlt_a (fun q h => absurd h (Nat.not_lt_zero _))).trans HBa.out
      have q0 := cell_at (v := .bool bx) hBq 0 rfl
      have q1 := cell_at (v := .slice ox lx cx) hBq 1 rfl
      clear hBq
      clear hA
      refine ⟨(by rfl), ?_⟩
      go_simp <;> (try with_reducible rfl)
    refine Rel7.Chain.det ?_ (by rfl) (fun T xs wr hA => ?_) ?_
    rotate_left 1
    · have e0 := hA.pre 0 (by kernel_rfl)
      simp only [List.getElem?_toArray, List.getElem?_cons_zero] at e0
      clear hA
      refine ⟨(by rfl), ?_⟩
      go_simp <;> (try with_reducible rfl)
    refine Rel7.Chain.det ?_ (by rfl) (fun T xs wr hA => ?_) ?_
    rotate_left 1
    · have e3 := hA.pre 3 (by kernel_rfl)
      simp only [List.getElem?_toArray, List.getElem?_cons_succ, List.getElem?_cons_zero] at e3
      clear hA
      refine ⟨(by rfl), ?_⟩
      go_simp <;> (try with_reducible rfl)
    refine Rel7.Chain.det ?_ (by rfl) (fun T xs wr hA => ?_) ?_
    rotate_left 1
    · have e77 := hA.tm 2 77 (by rfl) (by rfl)
      have f77 : xs 2 = _ := hA.fa 2 (by rfl)
      (try simp (disch := first | rfl | decide) only [Rel7.mask_in] at f77)
      rw [f77] at e77
      clear f77
      have hBq : wr.heap[kf]? = _ := (hA.bl _ hlt_f (fun q h => absurd h (Nat.not_lt_zero _))).trans HBf.out
      have q0 := cell_at (v := .int .i64 4) hBq 0 rfl
      have q1 := cell_at (v := .bool b) hBq 1 rfl
      have q2 := cell_at (v := .slice ao l c) hBq 2 rfl
      have q3 := cell_at (v := .string nm) hBq 3 rfl
      have q4 := cell_at (v := .slice (some a) 2 kc) hBq 4 rfl
      clear hBq
      clear hA
      refine ⟨(by rfl), ?_⟩
      go_simp <;> (try with_reducible rfl)
    refine Rel7.Chain.det ?_ (by rfl) (fun T xs wr hA => ?_) ?_
    rotate_left 1
    · have e78 := hA.tm 3 78 (by rfl) (by rfl)
      have f78 : xs 3 = _ := hA.fa 3 (by rfl)
      (try simp (disch := first | rfl | decide) only [Rel7.mask_in] at f78)
      rw [f78] at e78
      clear f78
      clear hA
      refine ⟨(by rfl), ?_⟩
      go_simp <;> (try with_reducible rfl)
    refine Rel7.Chain.det ?_ (by rfl) (fun T xs wr hA => ?_) ?_
    rotate_left 1
    · have e79 := hA.tm 4 79 (by rfl) (by rfl)
      have f79 : xs 4 = _ := hA.fa 4 (by rfl)
      (try simp (disch := first | rfl | decide) only [Rel7.mask_in] at f79)
      rw [f79] at e79
      clear f79
      have hbw := undrew (hA.be x4.heap.size (Nat.le_refl _) (fun q h => absurd h (Nat.not_lt_zero q)))
      obtain ⟨q0, q1, q2, q3, q4⟩ := HQC.out.below hbw
      simp only at q0 q1 q2 q3 q4
      clear hA
      refine ⟨(by rfl), ?_⟩
      go_simp <;> (try with_reducible rfl)
    refine Rel7.Chain.call (fun xs v w => ∃ y, v = y ∧ CI w y (asI (ev (rho env) q)) 600) (fun _ _ _ _ h hb => by obtain ⟨y, h1, h2⟩ := h; exact ⟨y, h1, h2.below hb⟩) (fun _ _ _ _ _ _ h _ => by obtain ⟨q, hq, _⟩ := h; exact absurd hq (Nat.not_lt_zero _)) (by rfl) (fun T xs wr hA => ?_) ?_
    · have hsw := (hA.be 0 (Nat.zero_le _) (fun _ _ => Nat.zero_le _)).size
      have e76 := hA.tm 1 76 (by rfl) (by rfl)
      have f76 : xs 1 = _ := hA.fa 1 (by rfl)
      (try simp (disch := first | rfl | decide) only [Rel7.mask_in] at f76)
      rw [f76] at e76
      clear f76
      have e80 := hA.tm 5 80 (by rfl) (by rfl)
      have f80 : xs 5 = _ := hA.fa 5 (by rfl)
      (try simp (disch := first | rfl | decide) only [Rel7.mask_in] at f80)
      rw [f80] at e80
      clear f80
      have hbw := undrew (hA.be x4.heap.size (Nat.le_refl _) (fun q h => absurd h (Nat.not_lt_zero q)))
      have hfq := HFQ.out.below hbw
      clear hA
      refine ⟨(by rfl), fun K hK => ?_⟩
      go_simp
      refine (IN _ _ env q S _ hfq (HE.out.below hbw) HRQ.out HQ.out HSQ.out).mono ?_
      rintro e w' ⟨y, rfl, hy, hb'⟩
      exact hK.out _ _ ⟨y, rfl, hy⟩ hb'
    refine Rel7.Chain.call (fun xs v w => ∃ y, v = y ∧ CI w y (asI (opV (rho env) 4 z nm [ev (rho env) p, ev (rho env) q])) 600) (fun _ _ _ _ h hb => by obtain ⟨y, h1, h2⟩ := h; exact ⟨y, h1, h2.below hb⟩) (fun _ _ _ _ _ _ h _ => by obtain ⟨q, hq, _⟩ := h; exact absurd hq (Nat.not_lt_zero _)) (by rfl) (fun T xs wr hA => ?_) ?_
    · have hsw := (hA.be 0 (Nat.zero_le _) (fun _ _ => Nat.zero_le _)).size
      have e75 := hA.tm 0 75 (by rfl) (by rfl)
      have f75 : xs 0 = _ := hA.fa 0 (by rfl)
      (try simp (disch := first | rfl | decide) only [Rel7.mask_in] at f75)
      rw [f75] at e75
      clear f75
      have e81 := hA.tm 6 81 (by rfl) (by rfl)
      have hbw := undrew (hA.be x4.heap.size (Nat.le_refl _) (fun q h => absurd h (Nat.not_lt_zero q)))
      have hF6 : ∃ y, (xs 6) = y ∧ CI wr y (asI (ev (rho env) q)) 600 := hA.fa 6 (by rfl)
      obtain ⟨y6, e6, hy6⟩ := hF6
      have hpx := HPX.out.below hbw
      clear hA
      refine ⟨(by rfl), fun K hK => ?_⟩
      go_simp
      refine (wmul_any _ _ X (asI (ev (rho env) q)) 600 600 _ hpx.gi (by first | exact hy6.gi | (rw [e6]; exact hy6.gi)) (by decide) (by decide)).mono ?_
      rintro e w' ⟨y, rfl, hy, hb'⟩
      exact hK.out _ _ ⟨y, rfl, CI.tight (by show CI _ _ (asI (ev (rho env) p) * asI (ev (rho env) q)) _; rw [← HX0.out]; exact hy) HVAL.out⟩ hb'
    refine Rel7.Chain.done (fun xs x5 hL => ?_)
    obtain ⟨⟨hbe, hbl⟩, hf, -, -⟩ := hL
    have f0 : xs 0 = _ := hf 0 (by decide)
    (try simp (disch := first | rfl | decide) only [Rel7.mask_in] at f0)
    have f1 : xs 1 = _ := hf 1 (by decide)
    (try simp (disch := first | rfl | decide) only [Rel7.mask_in] at f1)
    have f2 : xs 2 = _ := hf 2 (by decide)
    (try simp (disch := first | rfl | decide) only [Rel7.mask_in] at f2)
    have f3 : xs 3 = _ := hf 3 (by decide)
    (try simp (disch := first | rfl | decide) only [Rel7.mask_in] at f3)
    have f4 : xs 4 = _ := hf 4 (by decide)
    (try simp (disch := first | rfl | decide) only [Rel7.mask_in] at f4)
    have f5 : xs 5 = _ := hf 5 (by decide)
    (try simp (disch := first | rfl | decide) only [Rel7.mask_in] at f5)
    have F6 : ∃ y, (xs 6) = y ∧ CI x5 y (asI (ev (rho env) q)) 600 := hf 6 (by decide)
    have F7 : ∃ y, (xs 7) = y ∧ CI x5 y (asI (opV (rho env) 4 z nm [ev (rho env) p, ev (rho env) q])) 600 := hf 7 (by decide)
    have hb0 : Below 0 x4 x5 := undrew (hbe 0 (Nat.zero_le _) (fun _ _ => Nat.zero_le _))
    have hgr : ∀ j, j < x4.heap.size → (∀ q, q < 0 → (fun q => 0) q ≠ j) → x5.heap[j]? = x4.heap[j]? := hbl
    clear hbe hbl hf
    have hb : Below x4.heap.size x4 x5 := ⟨hb0.os, hb0.tape, hb0.output, hb0.size, fun q hq => hgr q hq (fun q h => absurd h (Nat.not_lt_zero _))⟩
    refine Rel7.rest_list (by decide) (by kernel_rfl) ?_
    simp only [Rel7.fill, List.take_succ_cons, List.take_zero, List.drop_succ_cons, List.drop_zero, List.setIfInBounds_toArray, List.set_cons_zero, List.set_cons_succ, f0, f1, f2, f3, f4, f5]
    clear hb0 hgr hog hlt_f hlt_a f0 f1 f2 f3 f4 f5
    replace HBf := kBV hb HBf
    replace HBr := kBV hb HBr
    replace HBa := kBV hb HBa
    replace HX := Lib.hid (HX.out.below hb)
    replace HZ := Lib.hid (HZ.out.below hb)
    replace HE := Lib.hid (HE.out.below hb)
    replace HW := Lib.hid (HW.out.trans (hb.mono HW.out.size))
    replace HFQ := Lib.hid (HFQ.out.below hb)
    replace HQC := Lib.hid (HQC.out.below hb)
    replace HPX := Lib.hid (HPX.out.below hb)
    replace hb := Lib.hid hb
    obtain ⟨y, hy1, hy2⟩ := F7
    obtain ⟨b1, o1, l1, c1, hys⟩ := hy2.shape
    rw [hys] at hy1 hy2
    have HV := Lib.hid hy2
    obtain ⟨r0, r1', fr0, fr1⟩ := cells2V HBr.out
    go_wp2_with fail
    obtain ⟨r1, r2⟩ := res2V HW.out HBr.out n32_2 HKr.out (.bool b1) (.slice o1 l1 c1)
    (try simp only [Exit.inBlock, Exit.then])
    exact bodyPost_ret (v := .agg #[.bool b1, .slice o1 l1 c1]) (by simp [results, Try.results64, go_sem, r0, r1']) rfl ⟨_, rfl, ((show CI _ _ (asI (ev (rho env) (.node 4 z nm [p, q]))) 600 from by rw [HEV.out]; exact HV.out)).fr r1, r2⟩
  · have HX := Lib.hid hk
    have HZ := Lib.hid hz
    have HE := Lib.hid he
    have HSM := Lib.hid hsm
    have HRS := Lib.hid hrs
    have HW := Lib.hid (Below.refl w.heap.size w)
    have HKL0 := Lib.hid hkl
    clear hkl hkc
    obtain ⟨p, rfl, hp⟩ := srts_one (ks := ks) (s := 0) (by simp [fitF, kidsOk] at hfit; exact hfit.1)
    have HSP := Lib.hid (hsm.kid p (by simp))
    have HRP := Lib.hid (hrs p (by simp))
    have HP := Lib.hid hp
    have HEV : Hid (asI (ev (rho env) (.node 5 z nm [p])) = asI (opV (rho env) 5 z nm [ev (rho env) p])) := Lib.hid (by rw [ev, evs, evs])
    have HVAL : Hid ((asI (opV (rho env) 5 z nm [ev (rho env) p])).natAbs < L32 ^ 600) := Lib.hid (by rw [ev, evs, evs] at hval; exact hval)
    have HZ1 : Hid (1 ≤ z) := Lib.hid (by simp [fitF, kidsOk] at hfit; exact hfit.2)
    have hkl1 : kl = 1 := HKL0.out
    subst hkl1
    clear hz hk he hsm hrs hval hfit hp HKL0
    go_enter Try.func64, Try.ntmps64
    obtain ⟨x1, kf, ef, ekf, hbf, hkf, HBf⟩ := newV w #[.int .i64 5, .bool b, .slice ao l c, .string nm, .slice ko 1 kc] 29
    replace HX := Lib.hid (HX.out.below hbf.out)
    replace HZ := Lib.hid (HZ.out.below hbf.out)
    replace HE := Lib.hid (HE.out.below hbf.out)
    replace HW := Lib.hid (HW.out.trans (hbf.out.mono HW.out.size))
    have HKf0 := hkf
    obtain ⟨x2, kr, er, ekr, hbr, hkr, HBr⟩ := newV x1 #[.bool false, .slice none 0 0] 26
    replace HBf := kBV hbr.out HBf
    replace HX := Lib.hid (HX.out.below hbr.out)
    replace HZ := Lib.hid (HZ.out.below hbr.out)
    replace HE := Lib.hid (HE.out.below hbr.out)
    replace HW := Lib.hid (HW.out.trans (hbr.out.mono HW.out.size))
    have HKr : Hid (w.heap.size ≤ kr) := Lib.hid (Nat.le_trans hbf.out.size hkr.out)
    have c0 := cell_at (v := .int .i64 5) HBf.out 0 rfl
    have fc0 := froz_at HBf.out 0
    have c1 := cell_at (v := .bool b) HBf.out 1 rfl
    have fc1 := froz_at HBf.out 1
    have c2 := cell_at (v := .slice ao l c) HBf.out 2 rfl
    have fc2 := froz_at HBf.out 2
    have c3 := cell_at (v := .string nm) HBf.out 3 rfl
    have fc3 := froz_at HBf.out 3
    have c4 := cell_at (v := .slice ko 1 kc) HBf.out 4 rfl
    have fc4 := froz_at HBf.out 4
    obtain ⟨a, bp, op, lp, cp, kop, klp, kcp, hkop, ⟨p0, p1, p2, p3, p4⟩, hfp⟩ := HX.out.first
    have HFP := Lib.hid hfp
    clear hfp
    obtain ⟨opp, hopp⟩ : ∃ x, x = p.op := ⟨_, rfl⟩
    obtain ⟨nmp, hnmp⟩ : ∃ x, x = p.name := ⟨_, rfl⟩
    rw [← hopp] at p0 HFP
    rw [← hnmp] at p3 HFP
    clear hopp hnmp
    subst hkop
    go_wp2_with fail
    refine (IN _ _ env p S x2 HFP.out HE.out HRP.out HP.out HSP.out).mono ?_
    rintro e x3 ⟨x, rfl, hx, hb⟩
    clear c0 fc0 c1 fc1 c2 fc2 c3 fc3 c4 fc4 p0 p1 p2 p3 p4
    replace HBf := kBV hb HBf
    replace HBr := kBV hb HBr
    replace HX := Lib.hid (HX.out.below hb)
    replace HZ := Lib.hid (HZ.out.below hb)
    replace HE := Lib.hid (HE.out.below hb)
    replace HW := Lib.hid (HW.out.trans (hb.mono HW.out.size))
    replace HFP := Lib.hid (HFP.out.below hb)
    obtain ⟨X, hX⟩ : ∃ X, X = asI (ev (rho env) p) := ⟨_, rfl⟩
    rw [← hX] at hx
    have HX0 := Lib.hid hX
    clear hX
    obtain ⟨bx, ox, lx, cx, rfl⟩ := hx.shape
    have HPX := Lib.hid hx
    clear hx HFP
    obtain ⟨x4, ka, ea, eka, hba, hka, HBa⟩ := newV x3 #[.bool bx, .slice ox lx cx] 26
    replace HBf := kBV hba.out HBf
    replace HBr := kBV hba.out HBr
    replace HX := Lib.hid (HX.out.below hba.out)
    replace HZ := Lib.hid (HZ.out.below hba.out)
    replace HE := Lib.hid (HE.out.below hba.out)
    replace HW := Lib.hid (HW.out.trans (hba.out.mono HW.out.size))
    replace HPX := Lib.hid (HPX.out.below hba.out)
    have c0 := cell_at (v := .int .i64 5) HBf.out 0 rfl
    have fc0 := froz_at HBf.out 0
    have c1 := cell_at (v := .bool b) HBf.out 1 rfl
    have fc1 := froz_at HBf.out 1
    have c2 := cell_at (v := .slice ao l c) HBf.out 2 rfl
    have fc2 := froz_at HBf.out 2
    have c3 := cell_at (v := .string nm) HBf.out 3 rfl
    have fc3 := froz_at HBf.out 3
    have c4 := cell_at (v := .slice (some a) 1 kc) HBf.out 4 rfl
    have fc4 := froz_at HBf.out 4
    have d0 := cell_at (v := .bool bx) HBa.out 0 rfl
    have fd0 := froz_at HBa.out 0
    have d1 := cell_at (v := .slice ox lx cx) HBa.out 1 rfl
    have fd1 := froz_at HBa.out 1
    go_wp2_with fail
    refine (wdiv_any _ _ X z 600 600 x4 HPX.out.gi HZ.out.gi (by decide) (by decide) (by have := HZ1.out; omega)).mono ?_
    rintro e x5 ⟨y, r, rfl, hy, hr, hb⟩
    clear c0 fc0 c1 fc1 c2 fc2 c3 fc3 c4 fc4 d0 fd0 d1 fd1
    replace HBf := kBV hb HBf
    replace HBr := kBV hb HBr
    replace HBa := kBV hb HBa
    replace HX := Lib.hid (HX.out.below hb)
    replace HZ := Lib.hid (HZ.out.below hb)
    replace HE := Lib.hid (HE.out.below hb)
    replace HW := Lib.hid (HW.out.trans (hb.mono HW.out.size))
    replace HPX := Lib.hid (HPX.out.below hb)
    obtain ⟨b1, o1, l1, c1, rfl⟩ := hy.shape
    obtain ⟨b2, o2, l2, c2, rfl⟩ := hr.shape
    have HV := Lib.hid (CI.tight (z := asI (opV (rho env) 5 z nm [ev (rho env) p])) (by show CI _ _ (Int.fdiv (asI (ev (rho env) p)) z) _; rw [← HX0.out]; exact hy) HVAL.out)
    clear hy hr
    have hru := lt_of_block HBr.out
    obtain ⟨x6, ku, eu, eku, hbu, hku, HBu⟩ := newV x5 #[.bool false, .slice none 0 0] 26
    replace HBf := kBV hbu.out HBf
    replace HBr := kBV hbu.out HBr
    replace HBa := kBV hbu.out HBa
    replace HX := Lib.hid (HX.out.below hbu.out)
    replace HZ := Lib.hid (HZ.out.below hbu.out)
    replace HE := Lib.hid (HE.out.below hbu.out)
    replace HW := Lib.hid (HW.out.trans (hbu.out.mono HW.out.size))
    replace HPX := Lib.hid (HPX.out.below hbu.out)
    replace HV := Lib.hid (HV.out.below hbu.out)
    rw [eku] at hru
    have huv := lt_of_block HBu.out
    have HKu : Hid (w.heap.size ≤ ku) := Lib.hid (Nat.le_trans HKr.out (Nat.le_of_lt hru))
    obtain ⟨x7, kt, et, ekt, hbt, hkt, HBt⟩ := newV x6 #[.bool false, .slice none 0 0] 26
    replace HBf := kBV hbt.out HBf
    replace HBr := kBV hbt.out HBr
    replace HBa := kBV hbt.out HBa
    replace HBu := kBV hbt.out HBu
    replace HX := Lib.hid (HX.out.below hbt.out)
    replace HZ := Lib.hid (HZ.out.below hbt.out)
    replace HE := Lib.hid (HE.out.below hbt.out)
    replace HW := Lib.hid (HW.out.trans (hbt.out.mono HW.out.size))
    replace HPX := Lib.hid (HPX.out.below hbt.out)
    replace HV := Lib.hid (HV.out.below hbt.out)
    rw [ekt] at huv
    have HKt : Hid (w.heap.size ≤ kt) := Lib.hid (Nat.le_trans HKu.out (Nat.le_of_lt huv))
    have hrv := Nat.lt_trans hru huv
    have n1 : ku ≠ kt := by omega
    have n2 : kt ≠ ku := by omega
    have n3 : kr ≠ ku := by omega
    have n4 : kr ≠ kt := by omega
    have n5 : ku ≠ kr := by omega
    have n6 : kt ≠ kr := by omega
    have HRU := Lib.hid hru
    have HRV := Lib.hid hrv
    have HUV := Lib.hid huv
    clear hru hrv huv
    obtain ⟨u0, u1, fu0, fu1⟩ := cells2V HBu.out
    obtain ⟨v0, v1, fv0, fv1⟩ := cells2V HBt.out
    obtain ⟨r0, r1', fr0, fr1⟩ := cells2V HBr.out
    go_wp2_with fail
    obtain ⟨s1, s2⟩ := res2V HW.out HBu.out n32_2 HKu.out (.bool b1) (.slice o1 l1 c1)
    obtain ⟨W1, hW1⟩ : ∃ q, q = (x7.setCell ⟨ku, 0, none⟩ (.bool b1)).setCell ⟨ku, 1, none⟩ (.slice o1 l1 c1) := ⟨_, rfl⟩
    have hg1 : x7.grownBy W1 (some ku) := by rw [hW1]; exact grown2V _ _
    rw [← hW1] at s1 s2 ⊢
    have HBt1 := (hg1.block kt (lt_of_block HBt.out) (fun e => by injection e with e; exact n2 e)).trans HBt.out
    have HBr1 := (hg1.block kr (lt_of_block HBr.out) (fun e => by injection e with e; exact n3 e)).trans HBr.out
    obtain ⟨s3, s4⟩ := res2V s2 HBt1 n32_2 HKt.out (.bool b2) (.slice o2 l2 c2)
    obtain ⟨W2, hW2⟩ : ∃ q, q = (W1.setCell ⟨kt, 0, none⟩ (.bool b2)).setCell ⟨kt, 1, none⟩ (.slice o2 l2 c2) := ⟨_, rfl⟩
    have hg2 : W1.grownBy W2 (some kt) := by rw [hW2]; exact grown2V _ _
    rw [← hW2] at s3 s4 ⊢
    have HBr2 := (hg2.block kr (lt_of_block HBr1) (fun e => by injection e with e; exact n4 e)).trans HBr1
    obtain ⟨q0, q1, -, -⟩ := cells2V HBr2
    obtain ⟨r1, r2⟩ := res2V s4 HBr2 n32_2 HKr.out (.bool b1) (.slice o1 l1 c1)
    (try simp only [Exit.inBlock, Exit.then])
    exact bodyPost_ret (v := .agg #[.bool b1, .slice o1 l1 c1]) (by simp [results, Try.results64, go_sem, q0, q1]) rfl ⟨_, rfl, (((show CI _ _ (asI (ev (rho env) (.node 5 z nm [p]))) 600 from by rw [HEV.out]; exact HV.out).fr s1).fr s3).fr r1, r2⟩
  · have HX := Lib.hid hk
    have HZ := Lib.hid hz
    have HE := Lib.hid he
    have HSM := Lib.hid hsm
    have HRS := Lib.hid hrs
    have HW := Lib.hid (Below.refl w.heap.size w)
    have HKL0 := Lib.hid hkl
    clear hkl hkc
    obtain ⟨p, rfl, hp⟩ := srts_one (ks := ks) (s := 2) (by simpa [fitF, kidsOk] using hfit)
    have HSP := Lib.hid (hsm.kid p (by simp))
    have HRP := Lib.hid (hrs p (by simp))
    have HP := Lib.hid hp
    have hx2 := ev_list (r := rho env) hp
    have HEV : Hid (asI (ev (rho env) (.node 6 z nm [p])) = asI (opV (rho env) 6 z nm [ev (rho env) p])) := Lib.hid (by rw [ev, evs, evs])
    have HVAL := Lib.hid hval
    have HX2 := Lib.hid hx2
    have HKL : Hid ((asL (ev (rho env) p)).length ≤ 1000 ∧ ∀ z ∈ asL (ev (rho env) p), z.natAbs < L32 ^ 600) := Lib.hid (by have := (hsm.kid p (by simp)).val; rw [hx2] at this; exact this)
    have hkl1 : kl = 1 := HKL0.out
    subst hkl1
    clear hz hk he hsm hrs hval hfit hp hx2 HKL0
    go_enter Try.func64, Try.ntmps64
    obtain ⟨x1, kf, ef, ekf, hbf, hkf, HBf⟩ := newV w #[.int .i64 6, .bool b, .slice ao l c, .string nm, .slice ko 1 kc] 29
    replace HX := Lib.hid (HX.out.below hbf.out)
    replace HZ := Lib.hid (HZ.out.below hbf.out)
    replace HE := Lib.hid (HE.out.below hbf.out)
    replace HW := Lib.hid (HW.out.trans (hbf.out.mono HW.out.size))
    have HKf0 := hkf
    obtain ⟨x2, kr, er, ekr, hbr, hkr, HBr⟩ := newV x1 #[.bool false, .slice none 0 0] 26
    replace HBf := kBV hbr.out HBf
    replace HX := Lib.hid (HX.out.below hbr.out)
    replace HZ := Lib.hid (HZ.out.below hbr.out)
    replace HE := Lib.hid (HE.out.below hbr.out)
    replace HW := Lib.hid (HW.out.trans (hbr.out.mono HW.out.size))
    have HKr : Hid (w.heap.size ≤ kr) := Lib.hid (Nat.le_trans hbf.out.size hkr.out)
    have c0 := cell_at (v := .int .i64 6) HBf.out 0 rfl
    have fc0 := froz_at HBf.out 0
    have c1 := cell_at (v := .bool b) HBf.out 1 rfl
    have fc1 := froz_at HBf.out 1
    have c2 := cell_at (v := .slice ao l c) HBf.out 2 rfl
    have fc2 := froz_at HBf.out 2
    have c3 := cell_at (v := .string nm) HBf.out 3 rfl
    have fc3 := froz_at HBf.out 3
    have c4 := cell_at (v := .slice ko 1 kc) HBf.out 4 rfl
    have fc4 := froz_at HBf.out 4
    obtain ⟨a, bp, op, lp, cp, kop, klp, kcp, hkop, ⟨p0, p1, p2, p3, p4⟩, hfp⟩ := HX.out.first
    have HFP := Lib.hid hfp
    clear hfp
    obtain ⟨opp, hopp⟩ : ∃ x, x = p.op := ⟨_, rfl⟩
    obtain ⟨nmp, hnmp⟩ : ∃ x, x = p.name := ⟨_, rfl⟩
    rw [← hopp] at p0 HFP
    rw [← hnmp] at p3 HFP
    clear hopp hnmp
    subst hkop
    go_wp2_with fail
    refine (IL _ _ env p S x2 HFP.out HE.out HRP.out HP.out HSP.out).mono ?_
    rintro e x3 ⟨x, rfl, hx, hb⟩
    clear c0 fc0 c1 fc1 c2 fc2 c3 fc3 c4 fc4 p0 p1 p2 p3 p4
    replace HBf := kBV hb HBf
    replace HBr := kBV hb HBr
    replace HX := Lib.hid (HX.out.below hb)
    replace HZ := Lib.hid (HZ.out.below hb)
    replace HE := Lib.hid (HE.out.below hb)
    replace HW := Lib.hid (HW.out.trans (hb.mono HW.out.size))
    replace HFP := Lib.hid (HFP.out.below hb)
    obtain ⟨L, hL⟩ : ∃ L, L = asL (ev (rho env) p) := ⟨_, rfl⟩
    rw [← hL] at hx
    have HL := Lib.hid hL
    have HKL2 := HKL.out
    rw [← hL] at HKL2
    clear HFP hL
    obtain ⟨xo, xc, rfl, ⟨hx1, hx2⟩, hxc⟩ := hx.form
    have hxm : xc ≤ 9223372036854775807 := hx2
    have HLX := Lib.hid hx
    clear hx
    clear hxc
    go_wp2_with fail
    refine (wof_any (L.length : Nat) x3 (by omega) (by have := HKL2.1; omega)).mono ?_
    rintro e x4 ⟨x, rfl, hx, hb⟩
    replace HBf := kBV hb HBf
    replace HBr := kBV hb HBr
    replace HX := Lib.hid (HX.out.below hb)
    replace HZ := Lib.hid (HZ.out.below hb)
    replace HE := Lib.hid (HE.out.below hb)
    replace HW := Lib.hid (HW.out.trans (hb.mono HW.out.size))
    replace HLX := Lib.hid (HLX.out.below hb)
    obtain ⟨b1, o1, l1, c1, rfl⟩ := hx.shape
    have HV := Lib.hid (hx.mono (k' := 600) (by decide))
    clear hx
    obtain ⟨r0, r1', fr0, fr1⟩ := cells2V HBr.out
    go_wp2_with fail
    obtain ⟨r1, r2⟩ := res2V HW.out HBr.out n32_2 HKr.out (.bool b1) (.slice o1 l1 c1)
    (try simp only [Exit.inBlock, Exit.then])
    exact bodyPost_ret (v := .agg #[.bool b1, .slice o1 l1 c1]) (by simp [results, Try.results64, go_sem, r0, r1']) rfl ⟨_, rfl, ((show CI _ _ (asI (ev (rho env) (.node 6 z nm [p]))) 600 from by rw [HEV.out]; show CI _ _ ((asL (ev (rho env) p)).length : Int) 600; rw [← HL.out]; exact HV.out)).fr r1, r2⟩
  · have HX := Lib.hid hk
    have HZ := Lib.hid hz
    have HE := Lib.hid he
    have HSM := Lib.hid hsm
    have HRS := Lib.hid hrs
    have HW := Lib.hid (Below.refl w.heap.size w)
    have HKL0 := Lib.hid hkl
    clear hkl hkc
    obtain ⟨p, rfl, hp⟩ := srts_one (ks := ks) (s := 2) (by simpa [fitF, kidsOk] using hfit)
    have HSP := Lib.hid (hsm.kid p (by simp))
    have HRP := Lib.hid (hrs p (by simp))
    have HP := Lib.hid hp
    have hx2 := ev_list (r := rho env) hp
    have HEV : Hid (asI (ev (rho env) (.node 7 z nm [p])) = asI (opV (rho env) 7 z nm [ev (rho env) p])) := Lib.hid (by rw [ev, evs, evs])
    have HVAL := Lib.hid hval
    have HX2 := Lib.hid hx2
    have HKL : Hid ((asL (ev (rho env) p)).length ≤ 1000 ∧ ∀ z ∈ asL (ev (rho env) p), z.natAbs < L32 ^ 600) := Lib.hid (by have := (hsm.kid p (by simp)).val; rw [hx2] at this; exact this)
    have hkl1 : kl = 1 := HKL0.out
    subst hkl1
    clear hz hk he hsm hrs hval hfit hp hx2 HKL0
    go_enter Try.func64, Try.ntmps64
    obtain ⟨x1, kf, ef, ekf, hbf, hkf, HBf⟩ := newV w #[.int .i64 7, .bool b, .slice ao l c, .string nm, .slice ko 1 kc] 29
    replace HX := Lib.hid (HX.out.below hbf.out)
    replace HZ := Lib.hid (HZ.out.below hbf.out)
    replace HE := Lib.hid (HE.out.below hbf.out)
    replace HW := Lib.hid (HW.out.trans (hbf.out.mono HW.out.size))
    have HKf0 := hkf
    obtain ⟨x2, kr, er, ekr, hbr, hkr, HBr⟩ := newV x1 #[.bool false, .slice none 0 0] 26
    replace HBf := kBV hbr.out HBf
    replace HX := Lib.hid (HX.out.below hbr.out)
    replace HZ := Lib.hid (HZ.out.below hbr.out)
    replace HE := Lib.hid (HE.out.below hbr.out)
    replace HW := Lib.hid (HW.out.trans (hbr.out.mono HW.out.size))
    have HKr : Hid (w.heap.size ≤ kr) := Lib.hid (Nat.le_trans hbf.out.size hkr.out)
    have c0 := cell_at (v := .int .i64 7) HBf.out 0 rfl
    have fc0 := froz_at HBf.out 0
    have c1 := cell_at (v := .bool b) HBf.out 1 rfl
    have fc1 := froz_at HBf.out 1
    have c2 := cell_at (v := .slice ao l c) HBf.out 2 rfl
    have fc2 := froz_at HBf.out 2
    have c3 := cell_at (v := .string nm) HBf.out 3 rfl
    have fc3 := froz_at HBf.out 3
    have c4 := cell_at (v := .slice ko 1 kc) HBf.out 4 rfl
    have fc4 := froz_at HBf.out 4
    obtain ⟨a, bp, op, lp, cp, kop, klp, kcp, hkop, ⟨p0, p1, p2, p3, p4⟩, hfp⟩ := HX.out.first
    have HFP := Lib.hid hfp
    clear hfp
    obtain ⟨opp, hopp⟩ : ∃ x, x = p.op := ⟨_, rfl⟩
    obtain ⟨nmp, hnmp⟩ : ∃ x, x = p.name := ⟨_, rfl⟩
    rw [← hopp] at p0 HFP
    rw [← hnmp] at p3 HFP
    clear hopp hnmp
    subst hkop
    go_wp2_with fail
    refine (IL _ _ env p S x2 HFP.out HE.out HRP.out HP.out HSP.out).mono ?_
    rintro e x3 ⟨x, rfl, hx, hb⟩
    clear c0 fc0 c1 fc1 c2 fc2 c3 fc3 c4 fc4 p0 p1 p2 p3 p4
    replace HBf := kBV hb HBf
    replace HBr := kBV hb HBr
    replace HX := Lib.hid (HX.out.below hb)
    replace HZ := Lib.hid (HZ.out.below hb)
    replace HE := Lib.hid (HE.out.below hb)
    replace HW := Lib.hid (HW.out.trans (hb.mono HW.out.size))
    replace HFP := Lib.hid (HFP.out.below hb)
    obtain ⟨L, hL⟩ : ∃ L, L = asL (ev (rho env) p) := ⟨_, rfl⟩
    rw [← hL] at hx
    have HL := Lib.hid hL
    have HKL2 := HKL.out
    rw [← hL] at HKL2
    clear HFP hL
    obtain ⟨xo, xc, rfl, ⟨hx1, hx2⟩, hxc⟩ := hx.form
    have hxm : xc ≤ 9223372036854775807 := hx2
    have HLX := Lib.hid hx
    clear hx
    cases L with
    | nil =>
      clear hxc
      obtain ⟨r0, r1', fr0, fr1⟩ := cells2V HBr.out
      go_wp2_with fail
      obtain ⟨r1, r2⟩ := res2V HW.out HBr.out n32_2 HKr.out (.bool false) (.slice none 0 0)
      (try simp only [Exit.inBlock, Exit.then])
      exact bodyPost_ret (v := .agg #[.bool false, .slice none 0 0]) (by simp [results, Try.results64, go_sem, r0, r1']) rfl ⟨_, rfl, ((show CI _ _ (asI (ev (rho env) (.node 7 z nm [p]))) 600 from by rw [HEV.out]; show CI _ _ ((asL (ev (rho env) p)).headD 0) 600; rw [← HL.out]; exact nr0 _)).fr r1, r2⟩
    | cons y L =>
      obtain ⟨q, yo, yl, yc, rfl, d0, d1, hy⟩ := hxc 0 (by simp)
      simp only [List.getElem_cons_zero, Nat.zero_mul, Addr.add, if_true] at d0 d1 hy
      have HV := Lib.hid hy
      clear hy hxc
      have hgt : decide ((0 : Int) < (((y :: L).length : Nat) : Int)) = true := by simp
      obtain ⟨r0, r1', fr0, fr1⟩ := cells2V HBr.out
      go_wp2_with fail
      obtain ⟨r1, r2⟩ := res2V HW.out HBr.out n32_2 HKr.out (.bool (decide (y < 0))) (.slice yo yl yc)
      (try simp only [Exit.inBlock, Exit.then])
      exact bodyPost_ret (v := .agg #[.bool (decide (y < 0)), .slice yo yl yc]) (by simp [results, Try.results64, go_sem, r0, r1']) rfl ⟨_, rfl, ((show CI _ _ (asI (ev (rho env) (.node 7 z nm [p]))) 600 from by rw [HEV.out]; show CI _ _ ((asL (ev (rho env) p)).headD 0) 600; rw [← HL.out]; exact HV.out)).fr r1, r2⟩
end Go.Proofs.Ytinfbmnimkcdjaa
