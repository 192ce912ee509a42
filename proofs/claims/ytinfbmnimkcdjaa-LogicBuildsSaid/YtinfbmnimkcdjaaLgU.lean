/-
  The law LogicBuilds.
-/
import Derived.Test.YtinfbmnimkcdjaaLgT
namespace Go.Proofs.Ytinfbmnimkcdjaa
open Go.RowKit
set_option maxRecDepth 100000
set_option linter.unusedVariables false
set_option linter.unusedSimpArgs false

attribute [local go_sem] fieldV0 fieldV1 fieldV2 fieldV3
theorem env7 {env : List (ByteArray × V)} (h : EnvAt 7 env) : ∃ z0 z1 z2 l0 l1 b0 b1, env = [(⟨#[105, 48]⟩, .I z0), (⟨#[105, 49]⟩, .I z1), (⟨#[105, 50]⟩, .I z2), (⟨#[108, 48]⟩, .L l0), (⟨#[108, 49]⟩, .L l1), (⟨#[98, 48]⟩, .B b0), (⟨#[98, 49]⟩, .B b1)] ∧ ∀ p ∈ env, TV p.2 := by
  obtain ⟨h1, h2, h3⟩ := h
  have hl : env.length = 7 := by have := congrArg List.length h1; simpa using this
  match env, hl with
  | [p0, p1, p2, p3, p4, p5, p6], _ =>
    have e1 : [p0.1, p1.1, p2.1, p3.1, p4.1, p5.1, p6.1] = [nmAt 0, nmAt 1, nmAt 2, nmAt 3, nmAt 4, nmAt 5, nmAt 6] := h1
    have e2 : [sortOf p0.2, sortOf p1.2, sortOf p2.2, sortOf p3.2, sortOf p4.2, sortOf p5.2, sortOf p6.2] = [0, 0, 0, 2, 2, 1, 1] := h2
    simp only [List.cons.injEq, and_true] at e1 e2
    obtain ⟨n0, n1, n2, n3, n4, n5, n6⟩ := e1
    obtain ⟨s0, s1, s2, s3, s4, s5, s6⟩ := e2
    obtain ⟨a0, x0⟩ := p0
    obtain ⟨a1, x1⟩ := p1
    obtain ⟨a2, x2⟩ := p2
    obtain ⟨a3, x3⟩ := p3
    obtain ⟨a4, x4⟩ := p4
    obtain ⟨a5, x5⟩ := p5
    obtain ⟨a6, x6⟩ := p6
    simp only at n0 n1 n2 n3 n4 n5 n6 s0 s1 s2 s3 s4 s5 s6
    subst n0 n1 n2 n3 n4 n5 n6
    have toI : ∀ {x : V}, sortOf x = 0 → ∃ z, x = .I z := fun {x} h => by cases x with | I z => exact ⟨z, rfl⟩ | B b => cases h | L l => cases h
    have toL : ∀ {x : V}, sortOf x = 2 → ∃ z, x = .L z := fun {x} h => by cases x with | I z => cases h | B b => cases h | L l => exact ⟨l, rfl⟩
    have toB : ∀ {x : V}, sortOf x = 1 → ∃ z, x = .B z := fun {x} h => by cases x with | I z => cases h | B b => exact ⟨b, rfl⟩ | L l => cases h
    obtain ⟨z0, rfl⟩ := toI s0
    obtain ⟨z1, rfl⟩ := toI s1
    obtain ⟨z2, rfl⟩ := toI s2
    obtain ⟨l0, rfl⟩ := toL s3
    obtain ⟨l1, rfl⟩ := toL s4
    obtain ⟨b0, rfl⟩ := toB s5
    obtain ⟨b1, rfl⟩ := toB s6
    exact ⟨z0, z1, z2, l0, l1, b0, b1, rfl, h3⟩
theorem env_i0 {env : List (ByteArray × V)} (h : EnvAt 7 env) : ∃ z, rho env ⟨#[105, 48]⟩ = .I z ∧ z.natAbs < L32 ^ 4 := by
  obtain ⟨z0, z1, z2, l0, l1, b0, b1, rfl, h3⟩ := env7 h
  exact ⟨z0, by simp [rho], h3 (⟨#[105, 48]⟩, .I z0) (by simp)⟩
theorem pow46 {n : Nat} (h : n < L32 ^ 4) : n < L32 ^ 600 := lt_pow_more (k := 4) (k' := 600) h (by decide)
theorem pow26 {z : Int} (h1 : -9223372036854775808 ≤ z) (h2 : z ≤ 9223372036854775807) : z.natAbs < L32 ^ 600 := by
  have h3 : L32 ^ 2 = 18446744073709551616 := by decide
  exact lt_pow_more (k := 2) (k' := 600) (show z.natAbs < L32 ^ 2 by rw [h3]; omega) (by decide)
theorem rtVar (j : Int) (nm : ByteArray) (h : j = 0 ∨ j = 1 ∨ j = 2) : rt (.node (opVar j) 0 nm []) = true := by rcases h with rfl | rfl | rfl <;> rfl
theorem evVar0 (r : ByteArray → V) (nm : ByteArray) : ev r (.node 1 0 nm []) = .I (asI (r nm)) := rfl
theorem evVar1 (r : ByteArray → V) (nm : ByteArray) : ev r (.node 14 0 nm []) = .B (asB (r nm)) := rfl
theorem evVar2 (r : ByteArray → V) (nm : ByteArray) : ev r (.node 8 0 nm []) = .L (asL (r nm)) := rfl
theorem smVar (r : ByteArray → V) (o : Int) (nm : ByteArray) (h : SmV (ev r (.node o 0 nm []))) : Sm r (.node o 0 nm []) := by
  rw [Sm]; rw [ev] at h; exact ⟨h, trivial⟩
theorem wanted_undef {ops : List Oper} {o : Oper} {T : Array Value} {g d : Nat} {want : Bool} (hg : o.guard = some (g, want)) (hd : Rely.dstOf ops g = some d) (hT : T[d]? = some undef) : Region.wanted o (yielded ops.toArray T) = false := by
  have hy : yielded ops.toArray T g = none := by
    have hd' : (ops.toArray[g]?).bind (·.dst) = some d := by simpa [Rely.dstOf] using hd
    unfold yielded
    rw [hd']
    simp only [Option.bind_some, hT]; rfl
  unfold Region.wanted
  rw [hg]
  simp only [hy]; rfl
set_option maxHeartbeats 20000000 in
theorem builds_walk (nm : ByteArray) (n : Int) (ko : Option Addr) (kl kc : Nat) (w : World) (hn1 : -9223372036854775808 ≤ n) (hn2 : n ≤ 9223372036854775807) (hx : RVals w ko kl kc) :
    Calls Try.prog 6 #[.string nm, .int .i64 n, .slice ko kl kc] w fun e w' => e = .returned (.bool true) ∧ Below w.heap.size w w' := by
  have HX := Lib.hid hx
  have HN1 := Lib.hid hn1
  have HN2 := Lib.hid hn2
  clear hx hn1 hn2
  have HW := Lib.hid (Below.refl w.heap.size w)
  go_enter Try.func6, Try.ntmps6
  go_wp2_with fail
  refine (fit_p w).mono ?_
  rintro e x1 ⟨rfl, hb⟩
  replace HW := Lib.hid (HW.out.trans (hb.mono HW.out.size))
  replace HX := Lib.hid (HX.out.below hb)
  go_wp2_with fail
  refine (env_p ko kl kc x1 HX.out).mono ?_
  rintro e x2 ⟨ve, env, rfl, hel, hen, hb⟩
  replace HW := Lib.hid (HW.out.trans (hb.mono HW.out.size))
  replace HX := Lib.hid (HX.out.below hb)
  have HEL := Lib.hid hel
  have HEN := Lib.hid hen
  clear hel hen
  obtain ⟨eo, en, ec, rfl⟩ := HEL.out.shape
  obtain ⟨z0, hz0, hz0b⟩ := env_i0 HEN.out
  have HZ0 := Lib.hid hz0
  have HZB := Lib.hid hz0b
  clear hz0 hz0b HX
  go_wp2_with fail
  go_loopw [8] (fun i wr => ∃ j : Nat, i = .int .i64 (j : Nat) ∧ j ≤ 3 ∧ Hid (Below x2.heap.size x2 wr)) (fun i _ => 3 - (intOf i).toNat)
  case atStart => exact ⟨0, rfl, by decide, Lib.hid (Below.refl _ _)⟩
  case round =>
    obtain ⟨wl, hwl⟩ : ∃ q, q = wr := ⟨_, rfl⟩
    subst hwl
    obtain ⟨j, rfl, hj, HB⟩ := hrel
    replace HW := Lib.hid (HW.out.trans (HB.out.mono HW.out.size))
    replace HEL := Lib.hid (HEL.out.below HB.out)
    by_cases hlt : j < 3
    · have hj3 : j = 0 ∨ j = 1 ∨ j = 2 := by omega
      clear hlt hj
      rcases hj3 with rfl | rfl | rfl
      · have hz := HZ0.out
        have hzb := HZB.out
        go_wp2_with fail
        refine (var_p ⟨#[105, 48]⟩ 0 wl).mono ?_
        rintro e x3 ⟨rfl, hb⟩
        replace HW := Lib.hid (HW.out.trans (hb.mono HW.out.size))
        replace HB := Lib.hid (HB.out.trans (hb.mono HB.out.size))
        replace HEL := Lib.hid (HEL.out.below hb)
        rw [show opVar 0 = 1 from rfl]
        go_wp2_with fail
        obtain ⟨x4, kf, ef, ekf, hbf, hkf, HBf⟩ := newV x3 #[.int .i64 1, .bool false, .slice none 0 0, .string ⟨#[105, 48]⟩, .slice none 0 0] 29
        replace HW := Lib.hid (HW.out.trans (hbf.out.mono HW.out.size))
        replace HB := Lib.hid (HB.out.trans (hbf.out.mono HB.out.size))
        replace HEL := Lib.hid (HEL.out.below hbf.out)
        rw [ef, ekf]
        have HF : Hid (FC x4 tS 1 (.agg #[.int .i64 1, .bool false, .slice none 0 0, .string ⟨#[105, 48]⟩, .slice none 0 0]) (.node 1 0 ⟨#[105, 48]⟩ [])) := Lib.hid (FC.mk (d := 0) (by unfold IR; decide) (nr0 _) (FL.nil _ _ _))
        have HSM : Hid (Sm (rho env) (.node 1 0 ⟨#[105, 48]⟩ [])) := Lib.hid (smVar _ _ _ (by rw [evVar0, hz]; exact pow46 hzb))
        clear hz hzb
        refine (eval_p 1 _ _ env (.node 1 0 ⟨#[105, 48]⟩ []) tS x4 HF.out HEL.out rfl HSM.out).mono ?_
        rintro e x5 ⟨v, rfl, hv, hb⟩
        replace HBf := kBV hb HBf
        replace HW := Lib.hid (HW.out.trans (hb.mono HW.out.size))
        replace HB := Lib.hid (HB.out.trans (hb.mono HB.out.size))
        replace HEL := Lib.hid (HEL.out.below hb)
        replace HF := Lib.hid (HF.out.below hb)
        rw [evVar0, HZ0.out, show asI (V.I z0) = z0 from rfl] at hv
        obtain ⟨vo, vl, vc, rfl, -⟩ := hv.int
        have HV := Lib.hid hv
        clear hv
        go_upto_region 9 with fail
        obtain ⟨x6, kq, eq, ekq, hbq, hkq, HBq⟩ := newV x5 #[.int .i64 0, .bool (decide (z0 < 0)), .slice vo vl vc, .bool false, .slice none 0 0] 41
        replace HBf := kBV hbq.out HBf
        replace HW := Lib.hid (HW.out.trans (hbq.out.mono HW.out.size))
        replace HB := Lib.hid (HB.out.trans (hbq.out.mono HB.out.size))
        replace HEL := Lib.hid (HEL.out.below hbq.out)
        replace HF := Lib.hid (HF.out.below hbq.out)
        replace HV := Lib.hid (HV.out.below hbq.out)
        rw [eq, ekq]
        have hlt_f := lt_of_block HBf.out
        have hlt_q := lt_of_block HBq.out
        have hog : Hid (∀ q, q < 0 → (fun q => 0) q < x6.heap.size) := Lib.hid (fun q h => absurd h (Nat.not_lt_zero _))
        refine Rel7.region (by kernel_rfl) [[], [0], [0, 1], [0, 1, 2], [0, 1, 2, 3], [0, 1, 2, 3, 4], [0, 1, 2, 3], [0, 1, 2, 3, 4, 5, 6], [0, 1, 2, 3, 4, 5, 6, 7], [0, 1, 2, 3, 4, 5, 6, 7, 8], [0, 1, 2, 3, 4, 5, 6, 7, 8, 9], [0, 1, 2, 3, 4, 5, 6, 7, 8, 9, 10], [0, 1, 2, 3, 4, 5, 6, 7, 8, 9], [0, 1, 2, 3, 4, 5, 6, 7, 8, 9, 10, 11, 12], [0, 1, 2, 3, 4, 5, 6, 7, 8, 9, 10, 11, 12, 13], [0, 1, 2, 3, 4, 5, 6, 7, 8, 9, 10, 11, 12, 13, 14], [0, 1, 2, 3, 4, 5, 6, 7, 8, 9, 10, 11, 12, 13, 14, 15], [0, 1, 2, 3, 4, 5, 6, 7, 8, 9, 10, 11, 12, 13, 14, 15, 16], [0, 1, 2, 3, 4, 5, 6, 7, 8, 9, 10, 11, 12, 13, 14, 15, 16, 17], [0, 1, 2, 3, 4, 5, 6, 7, 8, 9, 10, 11, 12, 13, 14, 15, 16, 17, 18], [0, 1, 2, 3, 4, 5, 6, 7, 8, 9, 10, 11, 12, 13, 14, 15, 16, 17, 18], [0, 1, 2, 3, 4, 5, 6, 7, 8, 9, 10, 11, 12, 13, 14, 15, 16, 17, 18, 20], [0, 1, 2, 3, 4, 5, 6, 7, 8, 9, 10, 11, 12, 13, 14, 15, 16, 17, 18, 19, 20, 21], [0, 1, 2, 3, 4, 5, 6, 7, 8, 9, 10, 11, 12, 13, 14, 15, 16, 17, 18, 19, 20, 21, 22], [0, 1, 2, 3, 4, 5, 6, 7, 8, 9, 10, 11, 12, 13, 14, 15, 16, 17, 18, 19, 20, 21, 22, 23], [0, 1, 2, 3, 4, 5, 6, 7, 8, 9, 10, 11, 12, 13, 14, 15, 16, 17, 18, 19, 20, 21, 22, 23, 24], [0, 1, 2, 3, 4, 5, 6, 7, 8, 9, 10, 11, 12, 13, 14, 15, 16, 17, 18, 19, 20, 21, 22, 23, 24, 25], [0, 1, 2, 3, 4, 5, 6, 7, 8, 9, 10, 11, 12, 13, 14, 15, 16, 17, 18, 19, 20, 21, 22, 23, 24, 25, 26], [0, 1, 2, 3, 4, 5, 6, 7, 8, 9, 10, 11, 12, 13, 14, 15, 16, 17, 18, 19, 20, 21, 22, 23, 24, 25, 26, 27], [0, 1, 2, 3, 4, 5, 6, 7, 8, 9, 10, 11, 12, 13, 14, 15, 16, 17, 18, 19, 20, 21, 22, 23, 24, 25, 26, 27, 28], [0, 1, 2, 3, 4, 5, 6, 7, 8, 9, 10, 11, 12, 13, 14, 15, 16, 17, 18, 19, 20, 21, 22, 23, 24, 25, 26, 27, 28, 29], [0, 1, 2, 3, 4, 5, 6, 7, 8, 9, 10, 11, 12, 13, 14, 15, 16, 17, 18, 19, 20, 21, 22, 23, 24, 25, 26, 27, 28, 29, 30], [0, 1, 2, 3, 4, 5, 6, 7, 8, 9, 10, 11, 12, 13, 14, 15, 16, 17, 18, 19, 20, 21, 22, 23, 24, 25, 26, 27, 28, 29, 30, 31], [0, 1, 2, 3, 4, 5, 6, 7, 8, 9, 10, 11, 12, 13, 14, 15, 16, 17, 18, 19, 20, 21, 22, 23, 24, 25, 26, 27, 28, 29, 30, 31, 32], [0, 1, 2, 3, 4, 5, 6, 7, 8, 9, 10, 11, 12, 13, 14, 15, 16, 17, 18, 19, 20, 21, 22, 23, 24, 25, 26, 27, 28, 29, 30, 31, 32, 33], [0, 1, 2, 3, 4, 5, 6, 7, 8, 9, 10, 11, 12, 13, 14, 15, 16, 17, 18, 19, 20, 21, 22, 23, 24, 25, 26, 27, 28, 29, 30, 31, 32, 33, 34], [0, 1, 2, 3, 4, 5, 6, 7, 8, 9, 10, 11, 12, 13, 14, 15, 16, 17, 18, 19, 20, 21, 22, 23, 24, 25, 26, 27, 28, 29, 30, 31, 32, 33, 34, 35], [0, 1, 2, 3, 4, 5, 6, 7, 8, 9, 10, 11, 12, 13, 14, 15, 16, 17, 18, 19, 20, 21, 22, 23, 24, 25, 26, 27, 28, 29, 30, 31, 32, 33, 34, 35, 36], [0, 1, 2, 3, 4, 5, 6, 7, 8, 9, 10, 11, 12, 13, 14, 15, 16, 17, 18, 19, 20, 21, 22, 23, 24, 25, 26, 27, 28, 29, 30, 31, 32, 33, 34, 35, 36, 37], [0, 1, 2, 3, 4, 5, 6, 7, 8, 9, 10, 11, 12, 13, 14, 15, 16, 17, 18, 19, 20, 21, 22, 23, 24, 25, 26, 27, 28, 29, 30, 31, 32, 33, 34, 35, 36, 37, 38]] [] [] (fun q => 0) 0 40 (by kernel_rfl) (by kernel_rfl) (by rfl) hog.out (fun q q' h h' hn => absurd hn (by omega)) ?_
        refine Rel7.Chain.det ?_ (by rfl) (fun T xs wr hA => ?_) ?_
        rotate_left 1
        · have e9 := hA.pre 9 (by kernel_rfl)
          simp only [List.getElem?_toArray, List.getElem?_cons_succ, List.getElem?_cons_zero] at e9
          have hBq : wr.heap[kf]? = _ := (hA.bl _ hlt_f (fun q h => absurd h (Nat.not_lt_zero _))).trans HBf.out
          have q0 := cell_at (v := .int .i64 1) hBq 0 rfl
          have q1 := cell_at (v := .bool false) hBq 1 rfl
          have q2 := cell_at (v := .slice none 0 0) hBq 2 rfl
          have q3 := cell_at (v := .string ⟨#[105, 48]⟩) hBq 3 rfl
          have q4 := cell_at (v := .slice none 0 0) hBq 4 rfl
          clear hBq
          clear hA
          refine ⟨(by rfl), ?_⟩
          go_simp <;> (try with_reducible rfl)
        refine Rel7.Chain.call (fun xs v w => v = .bool true) (fun _ _ _ _ h _ => h) (fun _ _ _ _ _ h _ _ => h) (by rfl) (fun T xs wr hA => ?_) ?_
        · have hsw := (hA.be 0 (Nat.zero_le _) (fun _ _ => Nat.zero_le _)).size
          have e25 := hA.tm 0 25 (by rfl) (by rfl)
          have f25 : xs 0 = _ := hA.fa 0 (by rfl)
          (try simp (disch := first | rfl | decide) only [Rel7.mask_in] at f25)
          rw [f25] at e25
          clear f25
          have hbw := undrew (hA.be x6.heap.size (Nat.le_refl _) (fun q h => absurd h (Nat.not_lt_zero q)))
          have hfw := HF.out.below hbw
          clear hA
          refine ⟨(by rfl), fun K hK => ?_⟩
          go_simp
          refine (right_p 1 _ _ tS _ hfw).mono ?_
          rintro e w' ⟨rfl, hb'⟩
          exact hK.out _ _ rfl hb'
        refine Rel7.Chain.det ?_ (by rfl) (fun T xs wr hA => ?_) ?_
        rotate_left 1
        · have e26 := hA.tm 1 26 (by rfl) (by rfl)
          have f26 : xs 1 = (.bool true) := hA.fa 1 (by rfl)
          rw [f26] at e26
          clear f26
          clear hA
          refine ⟨(by rfl), ?_⟩
          go_simp <;> (try with_reducible rfl)
        refine Rel7.Chain.det ?_ (by rfl) (fun T xs wr hA => ?_) ?_
        rotate_left 1
        · have e27 := hA.tm 2 27 (by rfl) (by rfl)
          have f27 : xs 2 = _ := hA.fa 2 (by rfl)
          (try simp (disch := first | rfl | decide) only [Rel7.mask_in] at f27)
          rw [f27] at e27
          clear f27
          clear hA
          refine ⟨(by rfl), ?_⟩
          go_simp <;> (try with_reducible rfl)
        refine Rel7.Chain.det ?_ (by rfl) (fun T xs wr hA => ?_) ?_
        rotate_left 1
        · have e28 := hA.tm 3 28 (by rfl) (by rfl)
          have f28 : xs 3 = _ := hA.fa 3 (by rfl)
          (try simp (disch := first | rfl | decide) only [Rel7.mask_in] at f28)
          rw [f28] at e28
          clear f28
          have e9 := hA.pre 9 (by kernel_rfl)
          simp only [List.getElem?_toArray, List.getElem?_cons_succ, List.getElem?_cons_zero] at e9
          have hBq : wr.heap[kf]? = _ := (hA.bl _ hlt_f (fun q h => absurd h (Nat.not_lt_zero _))).trans HBf.out
          have q0 := cell_at (v := .int .i64 1) hBq 0 rfl
          have q1 := cell_at (v := .bool false) hBq 1 rfl
          have q2 := cell_at (v := .slice none 0 0) hBq 2 rfl
          have q3 := cell_at (v := .string ⟨#[105, 48]⟩) hBq 3 rfl
          have q4 := cell_at (v := .slice none 0 0) hBq 4 rfl
          clear hBq
          clear hA
          refine ⟨((Rely.wanted_at rfl (by rfl) e28).trans (by rfl)), ?_⟩
          go_simp <;> (try with_reducible rfl)
        refine Rel7.Chain.call (fun xs v w => v = .int .i64 0) (fun _ _ _ _ h _ => h) (fun _ _ _ _ _ h _ _ => h) (by rfl) (fun T xs wr hA => ?_) ?_
        · have e28 := hA.tm 3 28 (by rfl) (by rfl)
          have f28 : xs 3 = _ := hA.fa 3 (by rfl)
          (try simp (disch := first | rfl | decide) only [Rel7.mask_in] at f28)
          rw [f28] at e28
          clear f28
          have hsw := (hA.be 0 (Nat.zero_le _) (fun _ _ => Nat.zero_le _)).size
          have e29 := hA.tm 4 29 (by rfl) (by rfl)
          have f29 : xs 4 = _ := hA.fa 4 (by rfl)
          (try simp (disch := first | rfl | decide) only [Rel7.mask_in] at f29)
          rw [f29] at e29
          clear f29
          have hbw := undrew (hA.be x6.heap.size (Nat.le_refl _) (fun q h => absurd h (Nat.not_lt_zero q)))
          clear hA
          refine ⟨((Rely.wanted_at rfl (by rfl) e28).trans (by rfl)), fun K hK => ?_⟩
          go_simp
          refine (sort_p _ _ _ _ _ _ _ _ _ _).mono ?_
          rintro e w' ⟨rfl, hb'⟩
          exact hK.out _ _ rfl hb'
        refine Rel7.Chain.det ?_ (by rfl) (fun T xs wr hA => ?_) ?_
        rotate_left 1
        · have e28 := hA.tm 3 28 (by rfl) (by rfl)
          have f28 : xs 3 = _ := hA.fa 3 (by rfl)
          (try simp (disch := first | rfl | decide) only [Rel7.mask_in] at f28)
          rw [f28] at e28
          clear f28
          have e8 := hA.pre 8 (by kernel_rfl)
          simp only [List.getElem?_toArray, List.getElem?_cons_succ, List.getElem?_cons_zero] at e8
          clear hA
          refine ⟨((Rely.wanted_at rfl (by rfl) e28).trans (by rfl)), ?_⟩
          go_simp <;> (try with_reducible rfl)
        refine Rel7.Chain.det ?_ (by rfl) (fun T xs wr hA => ?_) ?_
        rotate_left 1
        · have e28 := hA.tm 3 28 (by rfl) (by rfl)
          have f28 : xs 3 = _ := hA.fa 3 (by rfl)
          (try simp (disch := first | rfl | decide) only [Rel7.mask_in] at f28)
          rw [f28] at e28
          clear f28
          have e30 := hA.tm 5 30 (by rfl) (by rfl)
          have f30 : xs 5 = (.int .i64 0) := hA.fa 5 (by rfl)
          rw [f30] at e30
          clear f30
          have e31 := hA.tm 6 31 (by rfl) (by rfl)
          have f31 : xs 6 = _ := hA.fa 6 (by rfl)
          (try simp (disch := first | rfl | decide) only [Rel7.mask_in] at f31)
          rw [f31] at e31
          clear f31
          clear hA
          refine ⟨((Rely.wanted_at rfl (by rfl) e28).trans (by rfl)), ?_⟩
          go_simp <;> (try with_reducible rfl)
        refine Rel7.Chain.det ?_ (by rfl) (fun T xs wr hA => ?_) ?_
        rotate_left 1
        · have e28 := hA.tm 3 28 (by rfl) (by rfl)
          have f28 : xs 3 = _ := hA.fa 3 (by rfl)
          (try simp (disch := first | rfl | decide) only [Rel7.mask_in] at f28)
          rw [f28] at e28
          clear f28
          have e32 := hA.tm 7 32 (by rfl) (by rfl)
          have f32 : xs 7 = _ := hA.fa 7 (by rfl)
          (try simp (disch := first | rfl | decide) only [Rel7.mask_in] at f32)
          rw [f32] at e32
          clear f32
          clear hA
          refine ⟨(by rfl), ?_⟩
          go_simp <;> (try with_reducible rfl)
        refine Rel7.Chain.det ?_ (by rfl) (fun T xs wr hA => ?_) ?_
        rotate_left 1
        · have e33 := hA.tm 8 33 (by rfl) (by rfl)
          have f33 : xs 8 = _ := hA.fa 8 (by rfl)
          (try simp (disch := first | rfl | decide) only [Rel7.mask_in] at f33)
          rw [f33] at e33
          clear f33
          clear hA
          refine ⟨(by rfl), ?_⟩
          go_simp <;> (try with_reducible rfl)
        refine Rel7.Chain.det ?_ (by rfl) (fun T xs wr hA => ?_) ?_
        rotate_left 1
        · have e34 := hA.tm 9 34 (by rfl) (by rfl)
          have f34 : xs 9 = _ := hA.fa 9 (by rfl)
          (try simp (disch := first | rfl | decide) only [Rel7.mask_in] at f34)
          rw [f34] at e34
          clear f34
          have e10 := hA.pre 10 (by kernel_rfl)
          simp only [List.getElem?_toArray, List.getElem?_cons_succ, List.getElem?_cons_zero] at e10
          clear hA
          refine ⟨((Rely.wanted_at rfl (by rfl) e34).trans (by rfl)), ?_⟩
          go_simp <;> (try with_reducible rfl)
        refine Rel7.Chain.det ?_ (by rfl) (fun T xs wr hA => ?_) ?_
        rotate_left 1
        · have e34 := hA.tm 9 34 (by rfl) (by rfl)
          have f34 : xs 9 = _ := hA.fa 9 (by rfl)
          (try simp (disch := first | rfl | decide) only [Rel7.mask_in] at f34)
          rw [f34] at e34
          clear f34
          have e35 := hA.tm 10 35 (by rfl) (by rfl)
          have f35 : xs 10 = _ := hA.fa 10 (by rfl)
          (try simp (disch := first | rfl | decide) only [Rel7.mask_in] at f35)
          rw [f35] at e35
          clear f35
          have hBq : wr.heap[kq]? = _ := (hA.bl _ hlt_q (fun q h => absurd h (Nat.not_lt_zero _))).trans HBq.out
          have q0 := cell_at (v := .int .i64 0) hBq 0 rfl
          have q1 := cell_at (v := .bool (decide (z0 < 0))) hBq 1 rfl
          have q2 := cell_at (v := .slice vo vl vc) hBq 2 rfl
          have q3 := cell_at (v := .bool false) hBq 3 rfl
          have q4 := cell_at (v := .slice none 0 0) hBq 4 rfl
          clear hBq
          clear hA
          refine ⟨((Rely.wanted_at rfl (by rfl) e34).trans (by rfl)), ?_⟩
          go_simp <;> (try with_reducible rfl)
        refine Rel7.Chain.det ?_ (by rfl) (fun T xs wr hA => ?_) ?_
        rotate_left 1
        · have e34 := hA.tm 9 34 (by rfl) (by rfl)
          have f34 : xs 9 = _ := hA.fa 9 (by rfl)
          (try simp (disch := first | rfl | decide) only [Rel7.mask_in] at f34)
          rw [f34] at e34
          clear f34
          have e8 := hA.pre 8 (by kernel_rfl)
          simp only [List.getElem?_toArray, List.getElem?_cons_succ, List.getElem?_cons_zero] at e8
          clear hA
          refine ⟨((Rely.wanted_at rfl (by rfl) e34).trans (by rfl)), ?_⟩
          go_simp <;> (try with_reducible rfl)
        refine Rel7.Chain.det ?_ (by rfl) (fun T xs wr hA => ?_) ?_
        rotate_left 1
        · have e34 := hA.tm 9 34 (by rfl) (by rfl)
          have f34 : xs 9 = _ := hA.fa 9 (by rfl)
          (try simp (disch := first | rfl | decide) only [Rel7.mask_in] at f34)
          rw [f34] at e34
          clear f34
          have e36 := hA.tm 11 36 (by rfl) (by rfl)
          have f36 : xs 11 = _ := hA.fa 11 (by rfl)
          (try simp (disch := first | rfl | decide) only [Rel7.mask_in] at f36)
          rw [f36] at e36
          clear f36
          have e37 := hA.tm 12 37 (by rfl) (by rfl)
          have f37 : xs 12 = _ := hA.fa 12 (by rfl)
          (try simp (disch := first | rfl | decide) only [Rel7.mask_in] at f37)
          rw [f37] at e37
          clear f37
          clear hA
          refine ⟨((Rely.wanted_at rfl (by rfl) e34).trans (by rfl)), ?_⟩
          go_simp <;> (try with_reducible rfl)
        refine Rel7.Chain.det ?_ (by rfl) (fun T xs wr hA => ?_) ?_
        rotate_left 1
        · have e34 := hA.tm 9 34 (by rfl) (by rfl)
          have f34 : xs 9 = _ := hA.fa 9 (by rfl)
          (try simp (disch := first | rfl | decide) only [Rel7.mask_in] at f34)
          rw [f34] at e34
          clear f34
          have e38 := hA.tm 13 38 (by rfl) (by rfl)
          have f38 : xs 13 = _ := hA.fa 13 (by rfl)
          (try simp (disch := first | rfl | decide) only [Rel7.mask_in] at f38)
          rw [f38] at e38
          clear f38
          clear hA
          refine ⟨(by rfl), ?_⟩
          go_simp <;> (try with_reducible rfl)
        refine Rel7.Chain.det ?_ (by rfl) (fun T xs wr hA => ?_) ?_
        rotate_left 1
        · have e39 := hA.tm 14 39 (by rfl) (by rfl)
          have f39 : xs 14 = _ := hA.fa 14 (by rfl)
          (try simp (disch := first | rfl | decide) only [Rel7.mask_in] at f39)
          rw [f39] at e39
          clear f39
          clear hA
          refine ⟨(by rfl), ?_⟩
          go_simp <;> (try with_reducible rfl)
        refine Rel7.Chain.det ?_ (by rfl) (fun T xs wr hA => ?_) ?_
        rotate_left 1
        · have e40 := hA.tm 15 40 (by rfl) (by rfl)
          have f40 : xs 15 = _ := hA.fa 15 (by rfl)
          (try simp (disch := first | rfl | decide) only [Rel7.mask_in] at f40)
          rw [f40] at e40
          clear f40
          have e8 := hA.pre 8 (by kernel_rfl)
          simp only [List.getElem?_toArray, List.getElem?_cons_succ, List.getElem?_cons_zero] at e8
          clear hA
          refine ⟨((Rely.wanted_at rfl (by rfl) e40).trans (by rfl)), ?_⟩
          go_simp <;> (try with_reducible rfl)
        refine Rel7.Chain.det ?_ (by rfl) (fun T xs wr hA => ?_) ?_
        rotate_left 1
        · have e40 := hA.tm 15 40 (by rfl) (by rfl)
          have f40 : xs 15 = _ := hA.fa 15 (by rfl)
          (try simp (disch := first | rfl | decide) only [Rel7.mask_in] at f40)
          rw [f40] at e40
          clear f40
          have e41 := hA.tm 16 41 (by rfl) (by rfl)
          have f41 : xs 16 = _ := hA.fa 16 (by rfl)
          (try simp (disch := first | rfl | decide) only [Rel7.mask_in] at f41)
          rw [f41] at e41
          clear f41
          clear hA
          refine ⟨((Rely.wanted_at rfl (by rfl) e40).trans (by rfl)), ?_⟩
          go_simp <;> (try with_reducible rfl)
        refine Rel7.Chain.det ?_ (by rfl) (fun T xs wr hA => ?_) ?_
        rotate_left 1
        · have e40 := hA.tm 15 40 (by rfl) (by rfl)
          have f40 : xs 15 = _ := hA.fa 15 (by rfl)
          (try simp (disch := first | rfl | decide) only [Rel7.mask_in] at f40)
          rw [f40] at e40
          clear f40
          have e42 := hA.tm 17 42 (by rfl) (by rfl)
          have f42 : xs 17 = _ := hA.fa 17 (by rfl)
          (try simp (disch := first | rfl | decide) only [Rel7.mask_in] at f42)
          rw [f42] at e42
          clear f42
          clear hA
          refine ⟨((Rely.wanted_at rfl (by rfl) e40).trans (by rfl)), ?_⟩
          go_simp <;> (try with_reducible rfl)
        refine Rel7.Chain.det ?_ (by rfl) (fun T xs wr hA => ?_) ?_
        rotate_left 1
        · have e43 := hA.tm 18 43 (by rfl) (by rfl)
          have f43 : xs 18 = _ := hA.fa 18 (by rfl)
          (try simp (disch := first | rfl | decide) only [Rel7.mask_in] at f43)
          rw [f43] at e43
          clear f43
          have e10 := hA.pre 10 (by kernel_rfl)
          simp only [List.getElem?_toArray, List.getElem?_cons_succ, List.getElem?_cons_zero] at e10
          have hBq : wr.heap[kq]? = _ := (hA.bl _ hlt_q (fun q h => absurd h (Nat.not_lt_zero _))).trans HBq.out
          have q0 := cell_at (v := .int .i64 0) hBq 0 rfl
          have q1 := cell_at (v := .bool (decide (z0 < 0))) hBq 1 rfl
          have q2 := cell_at (v := .slice vo vl vc) hBq 2 rfl
          have q3 := cell_at (v := .bool false) hBq 3 rfl
          have q4 := cell_at (v := .slice none 0 0) hBq 4 rfl
          clear hBq
          clear hA
          refine ⟨((Rely.wanted_at rfl (by rfl) e43).trans (by rfl)), ?_⟩
          go_simp <;> (try with_reducible rfl)
        refine Rel7.Chain.det ?_ (by rfl) (fun T xs wr hA => ?_) ?_
        rotate_left 1
        · have e43 := hA.tm 18 43 (by rfl) (by rfl)
          have f43 : xs 18 = _ := hA.fa 18 (by rfl)
          (try simp (disch := first | rfl | decide) only [Rel7.mask_in] at f43)
          rw [f43] at e43
          clear f43
          have e7 := hA.pre 7 (by kernel_rfl)
          simp only [List.getElem?_toArray, List.getElem?_cons_succ, List.getElem?_cons_zero] at e7
          clear hA
          refine ⟨((Rely.wanted_at rfl (by rfl) e43).trans (by rfl)), ?_⟩
          go_simp <;> (try with_reducible rfl)
        refine Rel7.Chain.call (fun xs v w => ∃ y, v = y ∧ VC w y (.I z0)) (fun _ _ _ _ h hb => by obtain ⟨y, h1, h2⟩ := h; exact ⟨y, h1, h2.below hb⟩) (fun _ _ _ _ _ _ h _ => by obtain ⟨q, hq, _⟩ := h; exact absurd hq (Nat.not_lt_zero _)) (by rfl) (fun T xs wr hA => ?_) ?_
        · have e43 := hA.tm 18 43 (by rfl) (by rfl)
          have f43 : xs 18 = _ := hA.fa 18 (by rfl)
          (try simp (disch := first | rfl | decide) only [Rel7.mask_in] at f43)
          rw [f43] at e43
          clear f43
          have hsw := (hA.be 0 (Nat.zero_le _) (fun _ _ => Nat.zero_le _)).size
          have e45 := hA.tm 20 45 (by rfl) (by rfl)
          have f45 : xs 20 = _ := hA.fa 20 (by rfl)
          (try simp (disch := first | rfl | decide) only [Rel7.mask_in] at f45)
          rw [f45] at e45
          clear f45
          have hbw := undrew (hA.be x6.heap.size (Nat.le_refl _) (fun q h => absurd h (Nat.not_lt_zero q)))
          clear hA
          refine ⟨((Rely.wanted_at rfl (by rfl) e43).trans (by rfl)), fun K hK => ?_⟩
          go_simp
          refine (find_p _ env _ _ (HEL.out.below hbw)).mono ?_
          rintro e w' ⟨y, rfl, hy, hb'⟩
          rw [HZ0.out] at hy
          exact hK.out _ _ ⟨y, rfl, hy⟩ hb'
        refine Rel7.Chain.call (fun xs v w => v = .bool true) (fun _ _ _ _ h _ => h) (fun _ _ _ _ _ h _ _ => h) (by rfl) (fun T xs wr hA => ?_) ?_
        · have e43 := hA.tm 18 43 (by rfl) (by rfl)
          have f43 : xs 18 = _ := hA.fa 18 (by rfl)
          (try simp (disch := first | rfl | decide) only [Rel7.mask_in] at f43)
          rw [f43] at e43
          clear f43
          have hsw := (hA.be 0 (Nat.zero_le _) (fun _ _ => Nat.zero_le _)).size
          have e44 := hA.tm 19 44 (by rfl) (by rfl)
          have f44 : xs 19 = _ := hA.fa 19 (by rfl)
          (try simp (disch := first | rfl | decide) only [Rel7.mask_in] at f44)
          rw [f44] at e44
          clear f44
          have e46 := hA.tm 21 46 (by rfl) (by rfl)
          have hbw := undrew (hA.be x6.heap.size (Nat.le_refl _) (fun q h => absurd h (Nat.not_lt_zero q)))
          have hF21 : ∃ y, (xs 21) = y ∧ VC wr y (.I z0) := hA.fa 21 (by rfl)
          obtain ⟨y, ey, hy⟩ := hF21
          have hvw := HV.out.below hbw
          clear hA
          refine ⟨((Rely.wanted_at rfl (by rfl) e43).trans (by rfl)), fun K hK => ?_⟩
          go_simp
          refine (same_p _ _ (.I z0) (.I z0) _ hvw (by first | exact hy | (rw [ey]; exact hy))).mono ?_
          rintro e w' ⟨rfl, hb'⟩
          exact hK.out _ _ (by simp) hb'
        refine Rel7.Chain.det ?_ (by rfl) (fun T xs wr hA => ?_) ?_
        rotate_left 1
        · have e43 := hA.tm 18 43 (by rfl) (by rfl)
          have f43 : xs 18 = _ := hA.fa 18 (by rfl)
          (try simp (disch := first | rfl | decide) only [Rel7.mask_in] at f43)
          rw [f43] at e43
          clear f43
          have e47 := hA.tm 22 47 (by rfl) (by rfl)
          have f47 : xs 22 = (.bool true) := hA.fa 22 (by rfl)
          rw [f47] at e47
          clear f47
          clear hA
          refine ⟨((Rely.wanted_at rfl (by rfl) e43).trans (by rfl)), ?_⟩
          go_simp <;> (try with_reducible rfl)
        refine Rel7.Chain.det ?_ (by rfl) (fun T xs wr hA => ?_) ?_
        rotate_left 1
        · have e40 := hA.tm 15 40 (by rfl) (by rfl)
          have f40 : xs 15 = _ := hA.fa 15 (by rfl)
          (try simp (disch := first | rfl | decide) only [Rel7.mask_in] at f40)
          rw [f40] at e40
          clear f40
          have e43 := hA.tm 18 43 (by rfl) (by rfl)
          have f43 : xs 18 = _ := hA.fa 18 (by rfl)
          (try simp (disch := first | rfl | decide) only [Rel7.mask_in] at f43)
          rw [f43] at e43
          clear f43
          have e48 := hA.tm 23 48 (by rfl) (by rfl)
          have f48 : xs 23 = _ := hA.fa 23 (by rfl)
          (try simp (disch := first | rfl | decide) only [Rel7.mask_in] at f48)
          rw [f48] at e48
          clear f48
          clear hA
          refine ⟨((Rely.wanted_at rfl (by rfl) e40).trans (by rfl)), ?_⟩
          go_simp <;> (try with_reducible rfl)
        refine Rel7.Chain.det ?_ (by rfl) (fun T xs wr hA => ?_) ?_
        rotate_left 1
        · have e40 := hA.tm 15 40 (by rfl) (by rfl)
          have f40 : xs 15 = _ := hA.fa 15 (by rfl)
          (try simp (disch := first | rfl | decide) only [Rel7.mask_in] at f40)
          rw [f40] at e40
          clear f40
          have e49 := hA.tm 24 49 (by rfl) (by rfl)
          have f49 : xs 24 = _ := hA.fa 24 (by rfl)
          (try simp (disch := first | rfl | decide) only [Rel7.mask_in] at f49)
          rw [f49] at e49
          clear f49
          clear hA
          refine ⟨(by rfl), ?_⟩
          go_simp <;> (try with_reducible rfl)
        refine Rel7.Chain.det ?_ (by rfl) (fun T xs wr hA => ?_) ?_
        rotate_left 1
        · have e50 := hA.tm 25 50 (by rfl) (by rfl)
          have f50 : xs 25 = _ := hA.fa 25 (by rfl)
          (try simp (disch := first | rfl | decide) only [Rel7.mask_in] at f50)
          rw [f50] at e50
          clear f50
          clear hA
          refine ⟨(by rfl), ?_⟩
          go_simp <;> (try with_reducible rfl)
        refine Rel7.Chain.det ?_ (by rfl) (fun T xs wr hA => ?_) ?_
        rotate_left 1
        · have e51 := hA.tm 26 51 (by rfl) (by rfl)
          have f51 : xs 26 = _ := hA.fa 26 (by rfl)
          (try simp (disch := first | rfl | decide) only [Rel7.mask_in] at f51)
          rw [f51] at e51
          clear f51
          have e8 := hA.pre 8 (by kernel_rfl)
          simp only [List.getElem?_toArray, List.getElem?_cons_succ, List.getElem?_cons_zero] at e8
          clear hA
          refine ⟨((Rely.wanted_at rfl (by rfl) e51).trans (by rfl)), ?_⟩
          go_simp <;> (try with_reducible rfl)
        refine Rel7.Chain.det ?_ (by rfl) (fun T xs wr hA => ?_) ?_
        rotate_left 1
        · have e51 := hA.tm 26 51 (by rfl) (by rfl)
          have f51 : xs 26 = _ := hA.fa 26 (by rfl)
          (try simp (disch := first | rfl | decide) only [Rel7.mask_in] at f51)
          rw [f51] at e51
          clear f51
          have e52 := hA.tm 27 52 (by rfl) (by rfl)
          have f52 : xs 27 = _ := hA.fa 27 (by rfl)
          (try simp (disch := first | rfl | decide) only [Rel7.mask_in] at f52)
          rw [f52] at e52
          clear f52
          clear hA
          refine ⟨((Rely.wanted_at rfl (by rfl) e51).trans (by rfl)), ?_⟩
          go_simp <;> (try with_reducible rfl)
        refine Rel7.Chain.det ?_ (by rfl) (fun T xs wr hA => ?_) ?_
        rotate_left 1
        · have e51 := hA.tm 26 51 (by rfl) (by rfl)
          have f51 : xs 26 = _ := hA.fa 26 (by rfl)
          (try simp (disch := first | rfl | decide) only [Rel7.mask_in] at f51)
          rw [f51] at e51
          clear f51
          have e53 := hA.tm 28 53 (by rfl) (by rfl)
          have f53 : xs 28 = _ := hA.fa 28 (by rfl)
          (try simp (disch := first | rfl | decide) only [Rel7.mask_in] at f53)
          rw [f53] at e53
          clear f53
          clear hA
          refine ⟨((Rely.wanted_at rfl (by rfl) e51).trans (by rfl)), ?_⟩
          go_simp <;> (try with_reducible rfl)
        refine Rel7.Chain.skip (by rfl) (fun T xs wr hA => ?_) ?_
        · have e54 := hA.tm 29 54 (by rfl) (by rfl)
          have f54 : xs 29 = _ := hA.fa 29 (by rfl)
          (try simp (disch := first | rfl | decide) only [Rel7.mask_in] at f54)
          rw [f54] at e54
          clear f54
          exact ((Rely.wanted_at rfl (by rfl) e54).trans (by rfl))
        refine Rel7.Chain.skip (by rfl) (fun T xs wr hA => ?_) ?_
        · have e54 := hA.tm 29 54 (by rfl) (by rfl)
          have f54 : xs 29 = _ := hA.fa 29 (by rfl)
          (try simp (disch := first | rfl | decide) only [Rel7.mask_in] at f54)
          rw [f54] at e54
          clear f54
          exact ((Rely.wanted_at rfl (by rfl) e54).trans (by rfl))
        refine Rel7.Chain.skip (by rfl) (fun T xs wr hA => ?_) ?_
        · have e54 := hA.tm 29 54 (by rfl) (by rfl)
          have f54 : xs 29 = _ := hA.fa 29 (by rfl)
          (try simp (disch := first | rfl | decide) only [Rel7.mask_in] at f54)
          rw [f54] at e54
          clear f54
          exact ((Rely.wanted_at rfl (by rfl) e54).trans (by rfl))
        refine Rel7.Chain.skip (by rfl) (fun T xs wr hA => ?_) ?_
        · have e57 := hA.tm 32 57 (by rfl) (by rfl)
          have f57 : xs 32 = (undef) := hA.fa 32 (by rfl)
          rw [f57] at e57
          clear f57
          exact (wanted_undef rfl (by rfl) e57)
        refine Rel7.Chain.skip (by rfl) (fun T xs wr hA => ?_) ?_
        · have e57 := hA.tm 32 57 (by rfl) (by rfl)
          have f57 : xs 32 = (undef) := hA.fa 32 (by rfl)
          rw [f57] at e57
          clear f57
          exact (wanted_undef rfl (by rfl) e57)
        refine Rel7.Chain.skip (by rfl) (fun T xs wr hA => ?_) ?_
        · have e57 := hA.tm 32 57 (by rfl) (by rfl)
          have f57 : xs 32 = (undef) := hA.fa 32 (by rfl)
          rw [f57] at e57
          clear f57
          exact (wanted_undef rfl (by rfl) e57)
        refine Rel7.Chain.skip (by rfl) (fun T xs wr hA => ?_) ?_
        · have e57 := hA.tm 32 57 (by rfl) (by rfl)
          have f57 : xs 32 = (undef) := hA.fa 32 (by rfl)
          rw [f57] at e57
          clear f57
          exact (wanted_undef rfl (by rfl) e57)
        refine Rel7.Chain.skip (by rfl) (fun T xs wr hA => ?_) ?_
        · have e54 := hA.tm 29 54 (by rfl) (by rfl)
          have f54 : xs 29 = _ := hA.fa 29 (by rfl)
          (try simp (disch := first | rfl | decide) only [Rel7.mask_in] at f54)
          rw [f54] at e54
          clear f54
          exact ((Rely.wanted_at rfl (by rfl) e54).trans (by rfl))
        refine Rel7.Chain.det ?_ (by rfl) (fun T xs wr hA => ?_) ?_
        rotate_left 1
        · have e51 := hA.tm 26 51 (by rfl) (by rfl)
          have f51 : xs 26 = _ := hA.fa 26 (by rfl)
          (try simp (disch := first | rfl | decide) only [Rel7.mask_in] at f51)
          rw [f51] at e51
          clear f51
          have e54 := hA.tm 29 54 (by rfl) (by rfl)
          have f54 : xs 29 = _ := hA.fa 29 (by rfl)
          (try simp (disch := first | rfl | decide) only [Rel7.mask_in] at f54)
          rw [f54] at e54
          clear f54
          have e62 := hA.tm 37 62 (by rfl) (by rfl)
          have f62 : xs 37 = (undef) := hA.fa 37 (by rfl)
          rw [f62] at e62
          clear f62
          clear hA
          refine ⟨((Rely.wanted_at rfl (by rfl) e51).trans (by rfl)), ?_⟩
          go_simp <;> (try with_reducible rfl)
        refine Rel7.Chain.det ?_ (by rfl) (fun T xs wr hA => ?_) ?_
        rotate_left 1
        · have e51 := hA.tm 26 51 (by rfl) (by rfl)
          have f51 : xs 26 = _ := hA.fa 26 (by rfl)
          (try simp (disch := first | rfl | decide) only [Rel7.mask_in] at f51)
          rw [f51] at e51
          clear f51
          have e63 := hA.tm 38 63 (by rfl) (by rfl)
          have f63 : xs 38 = _ := hA.fa 38 (by rfl)
          (try simp (disch := first | rfl | decide) only [Rel7.mask_in] at f63)
          rw [f63] at e63
          clear f63
          clear hA
          refine ⟨(by rfl), ?_⟩
          go_simp <;> (try with_reducible rfl)
        refine Rel7.Chain.done (fun xs x7 hL => ?_)
        obtain ⟨⟨hbe, hbl⟩, hf, -, -⟩ := hL
        have f0 : xs 0 = _ := hf 0 (by decide)
        (try simp (disch := first | rfl | decide) only [Rel7.mask_in] at f0)
        have f1 : xs 1 = (.bool true) := hf 1 (by decide)
        have f2 : xs 2 = _ := hf 2 (by decide)
        (try simp (disch := first | rfl | decide) only [Rel7.mask_in] at f2)
        have f3 : xs 3 = _ := hf 3 (by decide)
        (try simp (disch := first | rfl | decide) only [Rel7.mask_in] at f3)
        have f4 : xs 4 = _ := hf 4 (by decide)
        (try simp (disch := first | rfl | decide) only [Rel7.mask_in] at f4)
        have f5 : xs 5 = (.int .i64 0) := hf 5 (by decide)
        have f6 : xs 6 = _ := hf 6 (by decide)
        (try simp (disch := first | rfl | decide) only [Rel7.mask_in] at f6)
        have f7 : xs 7 = _ := hf 7 (by decide)
        (try simp (disch := first | rfl | decide) only [Rel7.mask_in] at f7)
        have f8 : xs 8 = _ := hf 8 (by decide)
        (try simp (disch := first | rfl | decide) only [Rel7.mask_in] at f8)
        have f9 : xs 9 = _ := hf 9 (by decide)
        (try simp (disch := first | rfl | decide) only [Rel7.mask_in] at f9)
        have f10 : xs 10 = _ := hf 10 (by decide)
        (try simp (disch := first | rfl | decide) only [Rel7.mask_in] at f10)
        have f11 : xs 11 = _ := hf 11 (by decide)
        (try simp (disch := first | rfl | decide) only [Rel7.mask_in] at f11)
        have f12 : xs 12 = _ := hf 12 (by decide)
        (try simp (disch := first | rfl | decide) only [Rel7.mask_in] at f12)
        have f13 : xs 13 = _ := hf 13 (by decide)
        (try simp (disch := first | rfl | decide) only [Rel7.mask_in] at f13)
        have f14 : xs 14 = _ := hf 14 (by decide)
        (try simp (disch := first | rfl | decide) only [Rel7.mask_in] at f14)
        have f15 : xs 15 = _ := hf 15 (by decide)
        (try simp (disch := first | rfl | decide) only [Rel7.mask_in] at f15)
        have f16 : xs 16 = _ := hf 16 (by decide)
        (try simp (disch := first | rfl | decide) only [Rel7.mask_in] at f16)
        have f17 : xs 17 = _ := hf 17 (by decide)
        (try simp (disch := first | rfl | decide) only [Rel7.mask_in] at f17)
        have f18 : xs 18 = _ := hf 18 (by decide)
        (try simp (disch := first | rfl | decide) only [Rel7.mask_in] at f18)
        have f19 : xs 19 = _ := hf 19 (by decide)
        (try simp (disch := first | rfl | decide) only [Rel7.mask_in] at f19)
        have f20 : xs 20 = _ := hf 20 (by decide)
        (try simp (disch := first | rfl | decide) only [Rel7.mask_in] at f20)
        have F21 : ∃ y, (xs 21) = y ∧ VC x7 y (.I z0) := hf 21 (by decide)
        have f22 : xs 22 = (.bool true) := hf 22 (by decide)
        have f23 : xs 23 = _ := hf 23 (by decide)
        (try simp (disch := first | rfl | decide) only [Rel7.mask_in] at f23)
        have f24 : xs 24 = _ := hf 24 (by decide)
        (try simp (disch := first | rfl | decide) only [Rel7.mask_in] at f24)
        have f25 : xs 25 = _ := hf 25 (by decide)
        (try simp (disch := first | rfl | decide) only [Rel7.mask_in] at f25)
        have f26 : xs 26 = _ := hf 26 (by decide)
        (try simp (disch := first | rfl | decide) only [Rel7.mask_in] at f26)
        have f27 : xs 27 = _ := hf 27 (by decide)
        (try simp (disch := first | rfl | decide) only [Rel7.mask_in] at f27)
        have f28 : xs 28 = _ := hf 28 (by decide)
        (try simp (disch := first | rfl | decide) only [Rel7.mask_in] at f28)
        have f29 : xs 29 = _ := hf 29 (by decide)
        (try simp (disch := first | rfl | decide) only [Rel7.mask_in] at f29)
        have f30 : xs 30 = (undef) := hf 30 (by decide)
        have f31 : xs 31 = (undef) := hf 31 (by decide)
        have f32 : xs 32 = (undef) := hf 32 (by decide)
        have f33 : xs 33 = (undef) := hf 33 (by decide)
        have f34 : xs 34 = (undef) := hf 34 (by decide)
        have f35 : xs 35 = (undef) := hf 35 (by decide)
        have f36 : xs 36 = (undef) := hf 36 (by decide)
        have f37 : xs 37 = (undef) := hf 37 (by decide)
        have f38 : xs 38 = _ := hf 38 (by decide)
        (try simp (disch := first | rfl | decide) only [Rel7.mask_in] at f38)
        have f39 : xs 39 = _ := hf 39 (by decide)
        (try simp (disch := first | rfl | decide) only [Rel7.mask_in] at f39)
        have hb0 : Below 0 x6 x7 := undrew (hbe 0 (Nat.zero_le _) (fun _ _ => Nat.zero_le _))
        have hgr : ∀ j, j < x6.heap.size → (∀ q, q < 0 → (fun q => 0) q ≠ j) → x7.heap[j]? = x6.heap[j]? := hbl
        clear hbe hbl hf
        have hb : Below x6.heap.size x6 x7 := ⟨hb0.os, hb0.tape, hb0.output, hb0.size, fun q hq => hgr q hq (fun q h => absurd h (Nat.not_lt_zero _))⟩
        refine Rel7.rest_done ?_
        simp only [Rel7.fill, List.setIfInBounds_toArray, List.set_cons_zero, List.set_cons_succ, f0, f1, f2, f3, f4, f5, f6, f7, f8, f9, f10, f11, f12, f13, f14, f15, f16, f17, f18, f19, f20, f22, f23, f24, f25, f26, f27, f28, f29, f30, f31, f32, f33, f34, f35, f36, f37, f38, f39]
        clear hb0 hgr hog hlt_f hlt_q f0 f1 f2 f3 f4 f5 f6 f7 f8 f9 f10 f11 f12 f13 f14 f15 f16 f17 f18 f19 f20 f22 f23 f24 f25 f26 f27 f28 f29 f30 f31 f32 f33 f34 f35 f36 f37 f38 f39
        replace HBf := kBV hb HBf
        replace HBq := kBV hb HBq
        replace HW := Lib.hid (HW.out.trans (hb.mono HW.out.size))
        replace HB := Lib.hid (HB.out.trans (hb.mono HB.out.size))
        replace HEL := Lib.hid (HEL.out.below hb)
        replace HF := Lib.hid (HF.out.below hb)
        replace HV := Lib.hid (HV.out.below hb)
        replace hb := Lib.hid hb
        go_wp2_with fail
        refine (var_p nm 0 x7).mono ?_
        rintro e x8 ⟨rfl, hb⟩
        replace HBf := kBV hb HBf
        replace HBq := kBV hb HBq
        replace HW := Lib.hid (HW.out.trans (hb.mono HW.out.size))
        replace HB := Lib.hid (HB.out.trans (hb.mono HB.out.size))
        replace HEL := Lib.hid (HEL.out.below hb)
        replace HF := Lib.hid (HF.out.below hb)
        replace HV := Lib.hid (HV.out.below hb)
        rw [show opVar 0 = 1 from rfl]
        go_wp2_with fail
        refine (eval_p 1 _ _ [] (.node 1 0 nm []) tS x8 (FC.mk (d := 0) (by unfold IR; decide) (nr0 _) (FL.nil _ _ _)) (EL.nil _) rfl (smVar _ _ _ (by rw [evVar0, rho_nil]; exact small600 (by decide)))).mono ?_
        rintro e x9 ⟨v, rfl, hv, hb⟩
        replace HBf := kBV hb HBf
        replace HBq := kBV hb HBq
        replace HW := Lib.hid (HW.out.trans (hb.mono HW.out.size))
        replace HB := Lib.hid (HB.out.trans (hb.mono HB.out.size))
        replace HEL := Lib.hid (HEL.out.below hb)
        replace HF := Lib.hid (HF.out.below hb)
        replace HV := Lib.hid (HV.out.below hb)
        rw [evVar0, rho_nil, show asI (V.I 0) = 0 from rfl] at hv
        obtain ⟨uo, ul, uc, rfl, hci⟩ := hv.int
        rw [show decide ((0 : Int) < 0) = false from rfl] at hci ⊢
        have HC := Lib.hid hci
        clear hci
        clear hv
        go_wp2_with fail
        obtain ⟨x10, ku, eu, eku, hbu, hku, HBu⟩ := newV x9 #[.int .i64 0, .bool false, .slice uo ul uc, .bool false, .slice none 0 0] 41
        replace HBf := kBV hbu.out HBf
        replace HBq := kBV hbu.out HBq
        replace HW := Lib.hid (HW.out.trans (hbu.out.mono HW.out.size))
        replace HB := Lib.hid (HB.out.trans (hbu.out.mono HB.out.size))
        replace HEL := Lib.hid (HEL.out.below hbu.out)
        replace HF := Lib.hid (HF.out.below hbu.out)
        replace HV := Lib.hid (HV.out.below hbu.out)
        replace HC := Lib.hid (HC.out.below hbu.out)
        rw [eu, eku]
        refine (wsign_any _ 0 600 x10 HC.out.gi (by decide)).mono ?_
        rintro e x11 ⟨rfl, hb⟩
        replace HBf := kBV hb HBf
        replace HBq := kBV hb HBq
        replace HBu := kBV hb HBu
        replace HW := Lib.hid (HW.out.trans (hb.mono HW.out.size))
        replace HB := Lib.hid (HB.out.trans (hb.mono HB.out.size))
        replace HEL := Lib.hid (HEL.out.below hb)
        replace HF := Lib.hid (HF.out.below hb)
        replace HV := Lib.hid (HV.out.below hb)
        replace HC := Lib.hid (HC.out.below hb)
        rw [show sgnZ 0 = 0 from rfl]
        go_wp2_with fail
        go_roundw
        case rel => exact ⟨1, rfl, by decide, HB⟩
        case measure => simp [intOf]
      · have hz := HZ0.out
        have hzb := HZB.out
        go_wp2_with fail
        refine (var_p ⟨#[105, 48]⟩ 1 wl).mono ?_
        rintro e x3 ⟨rfl, hb⟩
        replace HW := Lib.hid (HW.out.trans (hb.mono HW.out.size))
        replace HB := Lib.hid (HB.out.trans (hb.mono HB.out.size))
        replace HEL := Lib.hid (HEL.out.below hb)
        rw [show opVar 1 = 14 from rfl]
        go_wp2_with fail
        obtain ⟨x4, kf, ef, ekf, hbf, hkf, HBf⟩ := newV x3 #[.int .i64 14, .bool false, .slice none 0 0, .string ⟨#[105, 48]⟩, .slice none 0 0] 29
        replace HW := Lib.hid (HW.out.trans (hbf.out.mono HW.out.size))
        replace HB := Lib.hid (HB.out.trans (hbf.out.mono HB.out.size))
        replace HEL := Lib.hid (HEL.out.below hbf.out)
        rw [ef, ekf]
        have HF : Hid (FC x4 tS 1 (.agg #[.int .i64 14, .bool false, .slice none 0 0, .string ⟨#[105, 48]⟩, .slice none 0 0]) (.node 14 0 ⟨#[105, 48]⟩ [])) := Lib.hid (FC.mk (d := 0) (by unfold IR; decide) (nr0 _) (FL.nil _ _ _))
        have HSM : Hid (Sm (rho env) (.node 14 0 ⟨#[105, 48]⟩ [])) := Lib.hid (smVar _ _ _ (by rw [evVar1]; exact trivial))
        clear hz hzb
        refine (eval_p 1 _ _ env (.node 14 0 ⟨#[105, 48]⟩ []) tS x4 HF.out HEL.out rfl HSM.out).mono ?_
        rintro e x5 ⟨v, rfl, hv, hb⟩
        replace HBf := kBV hb HBf
        replace HW := Lib.hid (HW.out.trans (hb.mono HW.out.size))
        replace HB := Lib.hid (HB.out.trans (hb.mono HB.out.size))
        replace HEL := Lib.hid (HEL.out.below hb)
        replace HF := Lib.hid (HF.out.below hb)
        rw [evVar1, HZ0.out, show asB (V.I z0) = false from rfl] at hv
        have hv1 := hv.bool
        subst hv1
        have HV := Lib.hid hv
        clear hv
        go_upto_region 9 with fail
        obtain ⟨x6, kq, eq, ekq, hbq, hkq, HBq⟩ := newV x5 #[.int .i64 1, .bool false, .slice none 0 0, .bool false, .slice none 0 0] 41
        replace HBf := kBV hbq.out HBf
        replace HW := Lib.hid (HW.out.trans (hbq.out.mono HW.out.size))
        replace HB := Lib.hid (HB.out.trans (hbq.out.mono HB.out.size))
        replace HEL := Lib.hid (HEL.out.below hbq.out)
        replace HF := Lib.hid (HF.out.below hbq.out)
        replace HV := Lib.hid (HV.out.below hbq.out)
        rw [eq, ekq]
        have hlt_f := lt_of_block HBf.out
        have hlt_q := lt_of_block HBq.out
        have hog : Hid (∀ q, q < 0 → (fun q => 0) q < x6.heap.size) := Lib.hid (fun q h => absurd h (Nat.not_lt_zero _))
        refine Rel7.region (by kernel_rfl) [[], [0], [0, 1], [0, 1, 2], [0, 1, 2, 3], [0, 1, 2, 3, 4], [0, 1, 2, 3], [0, 1, 2, 3, 4, 5, 6], [0, 1, 2, 3, 4, 5, 6, 7], [0, 1, 2, 3, 4, 5, 6, 7, 8], [0, 1, 2, 3, 4, 5, 6, 7, 8, 9], [0, 1, 2, 3, 4, 5, 6, 7, 8, 9, 10], [0, 1, 2, 3, 4, 5, 6, 7, 8, 9], [0, 1, 2, 3, 4, 5, 6, 7, 8, 9, 10, 11, 12], [0, 1, 2, 3, 4, 5, 6, 7, 8, 9, 10, 11, 12, 13], [0, 1, 2, 3, 4, 5, 6, 7, 8, 9, 10, 11, 12, 13, 14], [0, 1, 2, 3, 4, 5, 6, 7, 8, 9, 10, 11, 12, 13, 14, 15], [0, 1, 2, 3, 4, 5, 6, 7, 8, 9, 10, 11, 12, 13, 14, 15, 16], [0, 1, 2, 3, 4, 5, 6, 7, 8, 9, 10, 11, 12, 13, 14, 15, 16, 17], [0, 1, 2, 3, 4, 5, 6, 7, 8, 9, 10, 11, 12, 13, 14, 15, 16, 17, 18], [0, 1, 2, 3, 4, 5, 6, 7, 8, 9, 10, 11, 12, 13, 14, 15, 16, 17, 18], [0, 1, 2, 3, 4, 5, 6, 7, 8, 9, 10, 11, 12, 13, 14, 15, 16, 17, 18, 20], [0, 1, 2, 3, 4, 5, 6, 7, 8, 9, 10, 11, 12, 13, 14, 15, 16, 17, 18, 19, 20, 21], [0, 1, 2, 3, 4, 5, 6, 7, 8, 9, 10, 11, 12, 13, 14, 15, 16, 17, 18, 19, 20, 21, 22], [0, 1, 2, 3, 4, 5, 6, 7, 8, 9, 10, 11, 12, 13, 14, 15, 16, 17, 18, 19, 20, 21, 22, 23], [0, 1, 2, 3, 4, 5, 6, 7, 8, 9, 10, 11, 12, 13, 14, 15, 16, 17, 18, 19, 20, 21, 22, 23, 24], [0, 1, 2, 3, 4, 5, 6, 7, 8, 9, 10, 11, 12, 13, 14, 15, 16, 17, 18, 19, 20, 21, 22, 23, 24, 25], [0, 1, 2, 3, 4, 5, 6, 7, 8, 9, 10, 11, 12, 13, 14, 15, 16, 17, 18, 19, 20, 21, 22, 23, 24, 25, 26], [0, 1, 2, 3, 4, 5, 6, 7, 8, 9, 10, 11, 12, 13, 14, 15, 16, 17, 18, 19, 20, 21, 22, 23, 24, 25, 26, 27], [0, 1, 2, 3, 4, 5, 6, 7, 8, 9, 10, 11, 12, 13, 14, 15, 16, 17, 18, 19, 20, 21, 22, 23, 24, 25, 26, 27, 28], [0, 1, 2, 3, 4, 5, 6, 7, 8, 9, 10, 11, 12, 13, 14, 15, 16, 17, 18, 19, 20, 21, 22, 23, 24, 25, 26, 27, 28, 29], [0, 1, 2, 3, 4, 5, 6, 7, 8, 9, 10, 11, 12, 13, 14, 15, 16, 17, 18, 19, 20, 21, 22, 23, 24, 25, 26, 27, 28, 29, 30], [0, 1, 2, 3, 4, 5, 6, 7, 8, 9, 10, 11, 12, 13, 14, 15, 16, 17, 18, 19, 20, 21, 22, 23, 24, 25, 26, 27, 28, 29, 30, 31], [0, 1, 2, 3, 4, 5, 6, 7, 8, 9, 10, 11, 12, 13, 14, 15, 16, 17, 18, 19, 20, 21, 22, 23, 24, 25, 26, 27, 28, 29, 30, 31, 32], [0, 1, 2, 3, 4, 5, 6, 7, 8, 9, 10, 11, 12, 13, 14, 15, 16, 17, 18, 19, 20, 21, 22, 23, 24, 25, 26, 27, 28, 29, 30, 31, 32, 33], [0, 1, 2, 3, 4, 5, 6, 7, 8, 9, 10, 11, 12, 13, 14, 15, 16, 17, 18, 19, 20, 21, 22, 23, 24, 25, 26, 27, 28, 29, 30, 31, 32, 33, 34], [0, 1, 2, 3, 4, 5, 6, 7, 8, 9, 10, 11, 12, 13, 14, 15, 16, 17, 18, 19, 20, 21, 22, 23, 24, 25, 26, 27, 28, 29, 30, 31, 32, 33, 34, 35], [0, 1, 2, 3, 4, 5, 6, 7, 8, 9, 10, 11, 12, 13, 14, 15, 16, 17, 18, 19, 20, 21, 22, 23, 24, 25, 26, 27, 28, 29, 30, 31, 32, 33, 34, 35, 36], [0, 1, 2, 3, 4, 5, 6, 7, 8, 9, 10, 11, 12, 13, 14, 15, 16, 17, 18, 19, 20, 21, 22, 23, 24, 25, 26, 27, 28, 29, 30, 31, 32, 33, 34, 35, 36, 37], [0, 1, 2, 3, 4, 5, 6, 7, 8, 9, 10, 11, 12, 13, 14, 15, 16, 17, 18, 19, 20, 21, 22, 23, 24, 25, 26, 27, 28, 29, 30, 31, 32, 33, 34, 35, 36, 37, 38]] [] [] (fun q => 0) 0 40 (by kernel_rfl) (by kernel_rfl) (by rfl) hog.out (fun q q' h h' hn => absurd hn (by omega)) ?_
        refine Rel7.Chain.det ?_ (by rfl) (fun T xs wr hA => ?_) ?_
        rotate_left 1
        · have e9 := hA.pre 9 (by kernel_rfl)
          simp only [List.getElem?_toArray, List.getElem?_cons_succ, List.getElem?_cons_zero] at e9
          have hBq : wr.heap[kf]? = _ := (hA.bl _ hlt_f (fun q h => absurd h (Nat.not_lt_zero _))).trans HBf.out
          have q0 := cell_at (v := .int .i64 14) hBq 0 rfl
          have q1 := cell_at (v := .bool false) hBq 1 rfl
          have q2 := cell_at (v := .slice none 0 0) hBq 2 rfl
          have q3 := cell_at (v := .string ⟨#[105, 48]⟩) hBq 3 rfl
          have q4 := cell_at (v := .slice none 0 0) hBq 4 rfl
          clear hBq
          clear hA
          refine ⟨(by rfl), ?_⟩
          go_simp <;> (try with_reducible rfl)
        refine Rel7.Chain.call (fun xs v w => v = .bool true) (fun _ _ _ _ h _ => h) (fun _ _ _ _ _ h _ _ => h) (by rfl) (fun T xs wr hA => ?_) ?_
        · have hsw := (hA.be 0 (Nat.zero_le _) (fun _ _ => Nat.zero_le _)).size
          have e25 := hA.tm 0 25 (by rfl) (by rfl)
          have f25 : xs 0 = _ := hA.fa 0 (by rfl)
          (try simp (disch := first | rfl | decide) only [Rel7.mask_in] at f25)
          rw [f25] at e25
          clear f25
          have hbw := undrew (hA.be x6.heap.size (Nat.le_refl _) (fun q h => absurd h (Nat.not_lt_zero q)))
          have hfw := HF.out.below hbw
          clear hA
          refine ⟨(by rfl), fun K hK => ?_⟩
          go_simp
          refine (right_p 1 _ _ tS _ hfw).mono ?_
          rintro e w' ⟨rfl, hb'⟩
          exact hK.out _ _ rfl hb'
        refine Rel7.Chain.det ?_ (by rfl) (fun T xs wr hA => ?_) ?_
        rotate_left 1
        · have e26 := hA.tm 1 26 (by rfl) (by rfl)
          have f26 : xs 1 = (.bool true) := hA.fa 1 (by rfl)
          rw [f26] at e26
          clear f26
          clear hA
          refine ⟨(by rfl), ?_⟩
          go_simp <;> (try with_reducible rfl)
        refine Rel7.Chain.det ?_ (by rfl) (fun T xs wr hA => ?_) ?_
        rotate_left 1
        · have e27 := hA.tm 2 27 (by rfl) (by rfl)
          have f27 : xs 2 = _ := hA.fa 2 (by rfl)
          (try simp (disch := first | rfl | decide) only [Rel7.mask_in] at f27)
          rw [f27] at e27
          clear f27
          clear hA
          refine ⟨(by rfl), ?_⟩
          go_simp <;> (try with_reducible rfl)
        refine Rel7.Chain.det ?_ (by rfl) (fun T xs wr hA => ?_) ?_
        rotate_left 1
        · have e28 := hA.tm 3 28 (by rfl) (by rfl)
          have f28 : xs 3 = _ := hA.fa 3 (by rfl)
          (try simp (disch := first | rfl | decide) only [Rel7.mask_in] at f28)
          rw [f28] at e28
          clear f28
          have e9 := hA.pre 9 (by kernel_rfl)
          simp only [List.getElem?_toArray, List.getElem?_cons_succ, List.getElem?_cons_zero] at e9
          have hBq : wr.heap[kf]? = _ := (hA.bl _ hlt_f (fun q h => absurd h (Nat.not_lt_zero _))).trans HBf.out
          have q0 := cell_at (v := .int .i64 14) hBq 0 rfl
          have q1 := cell_at (v := .bool false) hBq 1 rfl
          have q2 := cell_at (v := .slice none 0 0) hBq 2 rfl
          have q3 := cell_at (v := .string ⟨#[105, 48]⟩) hBq 3 rfl
          have q4 := cell_at (v := .slice none 0 0) hBq 4 rfl
          clear hBq
          clear hA
          refine ⟨((Rely.wanted_at rfl (by rfl) e28).trans (by rfl)), ?_⟩
          go_simp <;> (try with_reducible rfl)
        refine Rel7.Chain.call (fun xs v w => v = .int .i64 1) (fun _ _ _ _ h _ => h) (fun _ _ _ _ _ h _ _ => h) (by rfl) (fun T xs wr hA => ?_) ?_
        · have e28 := hA.tm 3 28 (by rfl) (by rfl)
          have f28 : xs 3 = _ := hA.fa 3 (by rfl)
          (try simp (disch := first | rfl | decide) only [Rel7.mask_in] at f28)
          rw [f28] at e28
          clear f28
          have hsw := (hA.be 0 (Nat.zero_le _) (fun _ _ => Nat.zero_le _)).size
          have e29 := hA.tm 4 29 (by rfl) (by rfl)
          have f29 : xs 4 = _ := hA.fa 4 (by rfl)
          (try simp (disch := first | rfl | decide) only [Rel7.mask_in] at f29)
          rw [f29] at e29
          clear f29
          have hbw := undrew (hA.be x6.heap.size (Nat.le_refl _) (fun q h => absurd h (Nat.not_lt_zero q)))
          clear hA
          refine ⟨((Rely.wanted_at rfl (by rfl) e28).trans (by rfl)), fun K hK => ?_⟩
          go_simp
          refine (sort_p _ _ _ _ _ _ _ _ _ _).mono ?_
          rintro e w' ⟨rfl, hb'⟩
          exact hK.out _ _ rfl hb'
        refine Rel7.Chain.det ?_ (by rfl) (fun T xs wr hA => ?_) ?_
        rotate_left 1
        · have e28 := hA.tm 3 28 (by rfl) (by rfl)
          have f28 : xs 3 = _ := hA.fa 3 (by rfl)
          (try simp (disch := first | rfl | decide) only [Rel7.mask_in] at f28)
          rw [f28] at e28
          clear f28
          have e8 := hA.pre 8 (by kernel_rfl)
          simp only [List.getElem?_toArray, List.getElem?_cons_succ, List.getElem?_cons_zero] at e8
          clear hA
          refine ⟨((Rely.wanted_at rfl (by rfl) e28).trans (by rfl)), ?_⟩
          go_simp <;> (try with_reducible rfl)
        refine Rel7.Chain.det ?_ (by rfl) (fun T xs wr hA => ?_) ?_
        rotate_left 1
        · have e28 := hA.tm 3 28 (by rfl) (by rfl)
          have f28 : xs 3 = _ := hA.fa 3 (by rfl)
          (try simp (disch := first | rfl | decide) only [Rel7.mask_in] at f28)
          rw [f28] at e28
          clear f28
          have e30 := hA.tm 5 30 (by rfl) (by rfl)
          have f30 : xs 5 = (.int .i64 1) := hA.fa 5 (by rfl)
          rw [f30] at e30
          clear f30
          have e31 := hA.tm 6 31 (by rfl) (by rfl)
          have f31 : xs 6 = _ := hA.fa 6 (by rfl)
          (try simp (disch := first | rfl | decide) only [Rel7.mask_in] at f31)
          rw [f31] at e31
          clear f31
          clear hA
          refine ⟨((Rely.wanted_at rfl (by rfl) e28).trans (by rfl)), ?_⟩
          go_simp <;> (try with_reducible rfl)
        refine Rel7.Chain.det ?_ (by rfl) (fun T xs wr hA => ?_) ?_
        rotate_left 1
        · have e28 := hA.tm 3 28 (by rfl) (by rfl)
          have f28 : xs 3 = _ := hA.fa 3 (by rfl)
          (try simp (disch := first | rfl | decide) only [Rel7.mask_in] at f28)
          rw [f28] at e28
          clear f28
          have e32 := hA.tm 7 32 (by rfl) (by rfl)
          have f32 : xs 7 = _ := hA.fa 7 (by rfl)
          (try simp (disch := first | rfl | decide) only [Rel7.mask_in] at f32)
          rw [f32] at e32
          clear f32
          clear hA
          refine ⟨(by rfl), ?_⟩
          go_simp <;> (try with_reducible rfl)
        refine Rel7.Chain.det ?_ (by rfl) (fun T xs wr hA => ?_) ?_
        rotate_left 1
        · have e33 := hA.tm 8 33 (by rfl) (by rfl)
          have f33 : xs 8 = _ := hA.fa 8 (by rfl)
          (try simp (disch := first | rfl | decide) only [Rel7.mask_in] at f33)
          rw [f33] at e33
          clear f33
          clear hA
          refine ⟨(by rfl), ?_⟩
          go_simp <;> (try with_reducible rfl)
        refine Rel7.Chain.det ?_ (by rfl) (fun T xs wr hA => ?_) ?_
        rotate_left 1
        · have e34 := hA.tm 9 34 (by rfl) (by rfl)
          have f34 : xs 9 = _ := hA.fa 9 (by rfl)
          (try simp (disch := first | rfl | decide) only [Rel7.mask_in] at f34)
          rw [f34] at e34
          clear f34
          have e10 := hA.pre 10 (by kernel_rfl)
          simp only [List.getElem?_toArray, List.getElem?_cons_succ, List.getElem?_cons_zero] at e10
          clear hA
          refine ⟨((Rely.wanted_at rfl (by rfl) e34).trans (by rfl)), ?_⟩
          go_simp <;> (try with_reducible rfl)
        refine Rel7.Chain.det ?_ (by rfl) (fun T xs wr hA => ?_) ?_
        rotate_left 1
        · have e34 := hA.tm 9 34 (by rfl) (by rfl)
          have f34 : xs 9 = _ := hA.fa 9 (by rfl)
          (try simp (disch := first | rfl | decide) only [Rel7.mask_in] at f34)
          rw [f34] at e34
          clear f34
          have e35 := hA.tm 10 35 (by rfl) (by rfl)
          have f35 : xs 10 = _ := hA.fa 10 (by rfl)
          (try simp (disch := first | rfl | decide) only [Rel7.mask_in] at f35)
          rw [f35] at e35
          clear f35
          have hBq : wr.heap[kq]? = _ := (hA.bl _ hlt_q (fun q h => absurd h (Nat.not_lt_zero _))).trans HBq.out
          have q0 := cell_at (v := .int .i64 1) hBq 0 rfl
          have q1 := cell_at (v := .bool false) hBq 1 rfl
          have q2 := cell_at (v := .slice none 0 0) hBq 2 rfl
          have q3 := cell_at (v := .bool false) hBq 3 rfl
          have q4 := cell_at (v := .slice none 0 0) hBq 4 rfl
          clear hBq
          clear hA
          refine ⟨((Rely.wanted_at rfl (by rfl) e34).trans (by rfl)), ?_⟩
          go_simp <;> (try with_reducible rfl)
        refine Rel7.Chain.det ?_ (by rfl) (fun T xs wr hA => ?_) ?_
        rotate_left 1
        · have e34 := hA.tm 9 34 (by rfl) (by rfl)
          have f34 : xs 9 = _ := hA.fa 9 (by rfl)
          (try simp (disch := first | rfl | decide) only [Rel7.mask_in] at f34)
          rw [f34] at e34
          clear f34
          have e8 := hA.pre 8 (by kernel_rfl)
          simp only [List.getElem?_toArray, List.getElem?_cons_succ, List.getElem?_cons_zero] at e8
          clear hA
          refine ⟨((Rely.wanted_at rfl (by rfl) e34).trans (by rfl)), ?_⟩
          go_simp <;> (try with_reducible rfl)
        refine Rel7.Chain.det ?_ (by rfl) (fun T xs wr hA => ?_) ?_
        rotate_left 1
        · have e34 := hA.tm 9 34 (by rfl) (by rfl)
          have f34 : xs 9 = _ := hA.fa 9 (by rfl)
          (try simp (disch := first | rfl | decide) only [Rel7.mask_in] at f34)
          rw [f34] at e34
          clear f34
          have e36 := hA.tm 11 36 (by rfl) (by rfl)
          have f36 : xs 11 = _ := hA.fa 11 (by rfl)
          (try simp (disch := first | rfl | decide) only [Rel7.mask_in] at f36)
          rw [f36] at e36
          clear f36
          have e37 := hA.tm 12 37 (by rfl) (by rfl)
          have f37 : xs 12 = _ := hA.fa 12 (by rfl)
          (try simp (disch := first | rfl | decide) only [Rel7.mask_in] at f37)
          rw [f37] at e37
          clear f37
          clear hA
          refine ⟨((Rely.wanted_at rfl (by rfl) e34).trans (by rfl)), ?_⟩
          go_simp <;> (try with_reducible rfl)
        refine Rel7.Chain.det ?_ (by rfl) (fun T xs wr hA => ?_) ?_
        rotate_left 1
        · have e34 := hA.tm 9 34 (by rfl) (by rfl)
          have f34 : xs 9 = _ := hA.fa 9 (by rfl)
          (try simp (disch := first | rfl | decide) only [Rel7.mask_in] at f34)
          rw [f34] at e34
          clear f34
          have e38 := hA.tm 13 38 (by rfl) (by rfl)
          have f38 : xs 13 = _ := hA.fa 13 (by rfl)
          (try simp (disch := first | rfl | decide) only [Rel7.mask_in] at f38)
          rw [f38] at e38
          clear f38
          clear hA
          refine ⟨(by rfl), ?_⟩
          go_simp <;> (try with_reducible rfl)
        refine Rel7.Chain.det ?_ (by rfl) (fun T xs wr hA => ?_) ?_
        rotate_left 1
        · have e39 := hA.tm 14 39 (by rfl) (by rfl)
          have f39 : xs 14 = _ := hA.fa 14 (by rfl)
          (try simp (disch := first | rfl | decide) only [Rel7.mask_in] at f39)
          rw [f39] at e39
          clear f39
          clear hA
          refine ⟨(by rfl), ?_⟩
          go_simp <;> (try with_reducible rfl)
        refine Rel7.Chain.det ?_ (by rfl) (fun T xs wr hA => ?_) ?_
        rotate_left 1
        · have e40 := hA.tm 15 40 (by rfl) (by rfl)
          have f40 : xs 15 = _ := hA.fa 15 (by rfl)
          (try simp (disch := first | rfl | decide) only [Rel7.mask_in] at f40)
          rw [f40] at e40
          clear f40
          have e8 := hA.pre 8 (by kernel_rfl)
          simp only [List.getElem?_toArray, List.getElem?_cons_succ, List.getElem?_cons_zero] at e8
          clear hA
          refine ⟨((Rely.wanted_at rfl (by rfl) e40).trans (by rfl)), ?_⟩
          go_simp <;> (try with_reducible rfl)
        refine Rel7.Chain.det ?_ (by rfl) (fun T xs wr hA => ?_) ?_
        rotate_left 1
        · have e40 := hA.tm 15 40 (by rfl) (by rfl)
          have f40 : xs 15 = _ := hA.fa 15 (by rfl)
          (try simp (disch := first | rfl | decide) only [Rel7.mask_in] at f40)
          rw [f40] at e40
          clear f40
          have e41 := hA.tm 16 41 (by rfl) (by rfl)
          have f41 : xs 16 = _ := hA.fa 16 (by rfl)
          (try simp (disch := first | rfl | decide) only [Rel7.mask_in] at f41)
          rw [f41] at e41
          clear f41
          clear hA
          refine ⟨((Rely.wanted_at rfl (by rfl) e40).trans (by rfl)), ?_⟩
          go_simp <;> (try with_reducible rfl)
        refine Rel7.Chain.det ?_ (by rfl) (fun T xs wr hA => ?_) ?_
        rotate_left 1
        · have e40 := hA.tm 15 40 (by rfl) (by rfl)
          have f40 : xs 15 = _ := hA.fa 15 (by rfl)
          (try simp (disch := first | rfl | decide) only [Rel7.mask_in] at f40)
          rw [f40] at e40
          clear f40
          have e42 := hA.tm 17 42 (by rfl) (by rfl)
          have f42 : xs 17 = _ := hA.fa 17 (by rfl)
          (try simp (disch := first | rfl | decide) only [Rel7.mask_in] at f42)
          rw [f42] at e42
          clear f42
          clear hA
          refine ⟨((Rely.wanted_at rfl (by rfl) e40).trans (by rfl)), ?_⟩
          go_simp <;> (try with_reducible rfl)
        refine Rel7.Chain.skip (by rfl) (fun T xs wr hA => ?_) ?_
        · have e43 := hA.tm 18 43 (by rfl) (by rfl)
          have f43 : xs 18 = _ := hA.fa 18 (by rfl)
          (try simp (disch := first | rfl | decide) only [Rel7.mask_in] at f43)
          rw [f43] at e43
          clear f43
          exact ((Rely.wanted_at rfl (by rfl) e43).trans (by rfl))
        refine Rel7.Chain.skip (by rfl) (fun T xs wr hA => ?_) ?_
        · have e43 := hA.tm 18 43 (by rfl) (by rfl)
          have f43 : xs 18 = _ := hA.fa 18 (by rfl)
          (try simp (disch := first | rfl | decide) only [Rel7.mask_in] at f43)
          rw [f43] at e43
          clear f43
          exact ((Rely.wanted_at rfl (by rfl) e43).trans (by rfl))
        refine Rel7.Chain.skip (by rfl) (fun T xs wr hA => ?_) ?_
        · have e43 := hA.tm 18 43 (by rfl) (by rfl)
          have f43 : xs 18 = _ := hA.fa 18 (by rfl)
          (try simp (disch := first | rfl | decide) only [Rel7.mask_in] at f43)
          rw [f43] at e43
          clear f43
          exact ((Rely.wanted_at rfl (by rfl) e43).trans (by rfl))
        refine Rel7.Chain.skip (by rfl) (fun T xs wr hA => ?_) ?_
        · have e43 := hA.tm 18 43 (by rfl) (by rfl)
          have f43 : xs 18 = _ := hA.fa 18 (by rfl)
          (try simp (disch := first | rfl | decide) only [Rel7.mask_in] at f43)
          rw [f43] at e43
          clear f43
          exact ((Rely.wanted_at rfl (by rfl) e43).trans (by rfl))
        refine Rel7.Chain.skip (by rfl) (fun T xs wr hA => ?_) ?_
        · have e43 := hA.tm 18 43 (by rfl) (by rfl)
          have f43 : xs 18 = _ := hA.fa 18 (by rfl)
          (try simp (disch := first | rfl | decide) only [Rel7.mask_in] at f43)
          rw [f43] at e43
          clear f43
          exact ((Rely.wanted_at rfl (by rfl) e43).trans (by rfl))
        refine Rel7.Chain.det ?_ (by rfl) (fun T xs wr hA => ?_) ?_
        rotate_left 1
        · have e40 := hA.tm 15 40 (by rfl) (by rfl)
          have f40 : xs 15 = _ := hA.fa 15 (by rfl)
          (try simp (disch := first | rfl | decide) only [Rel7.mask_in] at f40)
          rw [f40] at e40
          clear f40
          have e43 := hA.tm 18 43 (by rfl) (by rfl)
          have f43 : xs 18 = _ := hA.fa 18 (by rfl)
          (try simp (disch := first | rfl | decide) only [Rel7.mask_in] at f43)
          rw [f43] at e43
          clear f43
          have e48 := hA.tm 23 48 (by rfl) (by rfl)
          have f48 : xs 23 = (undef) := hA.fa 23 (by rfl)
          rw [f48] at e48
          clear f48
          clear hA
          refine ⟨((Rely.wanted_at rfl (by rfl) e40).trans (by rfl)), ?_⟩
          go_simp <;> (try with_reducible rfl)
        refine Rel7.Chain.det ?_ (by rfl) (fun T xs wr hA => ?_) ?_
        rotate_left 1
        · have e40 := hA.tm 15 40 (by rfl) (by rfl)
          have f40 : xs 15 = _ := hA.fa 15 (by rfl)
          (try simp (disch := first | rfl | decide) only [Rel7.mask_in] at f40)
          rw [f40] at e40
          clear f40
          have e49 := hA.tm 24 49 (by rfl) (by rfl)
          have f49 : xs 24 = _ := hA.fa 24 (by rfl)
          (try simp (disch := first | rfl | decide) only [Rel7.mask_in] at f49)
          rw [f49] at e49
          clear f49
          clear hA
          refine ⟨(by rfl), ?_⟩
          go_simp <;> (try with_reducible rfl)
        refine Rel7.Chain.det ?_ (by rfl) (fun T xs wr hA => ?_) ?_
        rotate_left 1
        · have e50 := hA.tm 25 50 (by rfl) (by rfl)
          have f50 : xs 25 = _ := hA.fa 25 (by rfl)
          (try simp (disch := first | rfl | decide) only [Rel7.mask_in] at f50)
          rw [f50] at e50
          clear f50
          clear hA
          refine ⟨(by rfl), ?_⟩
          go_simp <;> (try with_reducible rfl)
        refine Rel7.Chain.det ?_ (by rfl) (fun T xs wr hA => ?_) ?_
        rotate_left 1
        · have e51 := hA.tm 26 51 (by rfl) (by rfl)
          have f51 : xs 26 = _ := hA.fa 26 (by rfl)
          (try simp (disch := first | rfl | decide) only [Rel7.mask_in] at f51)
          rw [f51] at e51
          clear f51
          have e8 := hA.pre 8 (by kernel_rfl)
          simp only [List.getElem?_toArray, List.getElem?_cons_succ, List.getElem?_cons_zero] at e8
          clear hA
          refine ⟨((Rely.wanted_at rfl (by rfl) e51).trans (by rfl)), ?_⟩
          go_simp <;> (try with_reducible rfl)
        refine Rel7.Chain.det ?_ (by rfl) (fun T xs wr hA => ?_) ?_
        rotate_left 1
        · have e51 := hA.tm 26 51 (by rfl) (by rfl)
          have f51 : xs 26 = _ := hA.fa 26 (by rfl)
          (try simp (disch := first | rfl | decide) only [Rel7.mask_in] at f51)
          rw [f51] at e51
          clear f51
          have e52 := hA.tm 27 52 (by rfl) (by rfl)
          have f52 : xs 27 = _ := hA.fa 27 (by rfl)
          (try simp (disch := first | rfl | decide) only [Rel7.mask_in] at f52)
          rw [f52] at e52
          clear f52
          clear hA
          refine ⟨((Rely.wanted_at rfl (by rfl) e51).trans (by rfl)), ?_⟩
          go_simp <;> (try with_reducible rfl)
        refine Rel7.Chain.det ?_ (by rfl) (fun T xs wr hA => ?_) ?_
        rotate_left 1
        · have e51 := hA.tm 26 51 (by rfl) (by rfl)
          have f51 : xs 26 = _ := hA.fa 26 (by rfl)
          (try simp (disch := first | rfl | decide) only [Rel7.mask_in] at f51)
          rw [f51] at e51
          clear f51
          have e53 := hA.tm 28 53 (by rfl) (by rfl)
          have f53 : xs 28 = _ := hA.fa 28 (by rfl)
          (try simp (disch := first | rfl | decide) only [Rel7.mask_in] at f53)
          rw [f53] at e53
          clear f53
          clear hA
          refine ⟨((Rely.wanted_at rfl (by rfl) e51).trans (by rfl)), ?_⟩
          go_simp <;> (try with_reducible rfl)
        refine Rel7.Chain.det ?_ (by rfl) (fun T xs wr hA => ?_) ?_
        rotate_left 1
        · have e54 := hA.tm 29 54 (by rfl) (by rfl)
          have f54 : xs 29 = _ := hA.fa 29 (by rfl)
          (try simp (disch := first | rfl | decide) only [Rel7.mask_in] at f54)
          rw [f54] at e54
          clear f54
          have e10 := hA.pre 10 (by kernel_rfl)
          simp only [List.getElem?_toArray, List.getElem?_cons_succ, List.getElem?_cons_zero] at e10
          clear hA
          refine ⟨((Rely.wanted_at rfl (by rfl) e54).trans (by rfl)), ?_⟩
          go_simp <;> (try with_reducible rfl)
        refine Rel7.Chain.det ?_ (by rfl) (fun T xs wr hA => ?_) ?_
        rotate_left 1
        · have e54 := hA.tm 29 54 (by rfl) (by rfl)
          have f54 : xs 29 = _ := hA.fa 29 (by rfl)
          (try simp (disch := first | rfl | decide) only [Rel7.mask_in] at f54)
          rw [f54] at e54
          clear f54
          have e55 := hA.tm 30 55 (by rfl) (by rfl)
          have f55 : xs 30 = _ := hA.fa 30 (by rfl)
          (try simp (disch := first | rfl | decide) only [Rel7.mask_in] at f55)
          rw [f55] at e55
          clear f55
          have hBq : wr.heap[kq]? = _ := (hA.bl _ hlt_q (fun q h => absurd h (Nat.not_lt_zero _))).trans HBq.out
          have q0 := cell_at (v := .int .i64 1) hBq 0 rfl
          have q1 := cell_at (v := .bool false) hBq 1 rfl
          have q2 := cell_at (v := .slice none 0 0) hBq 2 rfl
          have q3 := cell_at (v := .bool false) hBq 3 rfl
          have q4 := cell_at (v := .slice none 0 0) hBq 4 rfl
          clear hBq
          clear hA
          refine ⟨((Rely.wanted_at rfl (by rfl) e54).trans (by rfl)), ?_⟩
          go_simp <;> (try with_reducible rfl)
        refine Rel7.Chain.det ?_ (by rfl) (fun T xs wr hA => ?_) ?_
        rotate_left 1
        · have e54 := hA.tm 29 54 (by rfl) (by rfl)
          have f54 : xs 29 = _ := hA.fa 29 (by rfl)
          (try simp (disch := first | rfl | decide) only [Rel7.mask_in] at f54)
          rw [f54] at e54
          clear f54
          have e56 := hA.tm 31 56 (by rfl) (by rfl)
          have f56 : xs 31 = _ := hA.fa 31 (by rfl)
          (try simp (disch := first | rfl | decide) only [Rel7.mask_in] at f56)
          rw [f56] at e56
          clear f56
          clear hA
          refine ⟨((Rely.wanted_at rfl (by rfl) e54).trans (by rfl)), ?_⟩
          go_simp <;> (try with_reducible rfl)
        refine Rel7.Chain.det ?_ (by rfl) (fun T xs wr hA => ?_) ?_
        rotate_left 1
        · have e57 := hA.tm 32 57 (by rfl) (by rfl)
          have f57 : xs 32 = _ := hA.fa 32 (by rfl)
          (try simp (disch := first | rfl | decide) only [Rel7.mask_in] at f57)
          rw [f57] at e57
          clear f57
          have e10 := hA.pre 10 (by kernel_rfl)
          simp only [List.getElem?_toArray, List.getElem?_cons_succ, List.getElem?_cons_zero] at e10
          clear hA
          refine ⟨((Rely.wanted_at rfl (by rfl) e57).trans (by rfl)), ?_⟩
          go_simp <;> (try with_reducible rfl)
        refine Rel7.Chain.det ?_ (by rfl) (fun T xs wr hA => ?_) ?_
        rotate_left 1
        · have e57 := hA.tm 32 57 (by rfl) (by rfl)
          have f57 : xs 32 = _ := hA.fa 32 (by rfl)
          (try simp (disch := first | rfl | decide) only [Rel7.mask_in] at f57)
          rw [f57] at e57
          clear f57
          have e58 := hA.tm 33 58 (by rfl) (by rfl)
          have f58 : xs 33 = _ := hA.fa 33 (by rfl)
          (try simp (disch := first | rfl | decide) only [Rel7.mask_in] at f58)
          rw [f58] at e58
          clear f58
          have hBq : wr.heap[kq]? = _ := (hA.bl _ hlt_q (fun q h => absurd h (Nat.not_lt_zero _))).trans HBq.out
          have q0 := cell_at (v := .int .i64 1) hBq 0 rfl
          have q1 := cell_at (v := .bool false) hBq 1 rfl
          have q2 := cell_at (v := .slice none 0 0) hBq 2 rfl
          have q3 := cell_at (v := .bool false) hBq 3 rfl
          have q4 := cell_at (v := .slice none 0 0) hBq 4 rfl
          clear hBq
          clear hA
          refine ⟨((Rely.wanted_at rfl (by rfl) e57).trans (by rfl)), ?_⟩
          go_simp <;> (try with_reducible rfl)
        refine Rel7.Chain.det ?_ (by rfl) (fun T xs wr hA => ?_) ?_
        rotate_left 1
        · have e57 := hA.tm 32 57 (by rfl) (by rfl)
          have f57 : xs 32 = _ := hA.fa 32 (by rfl)
          (try simp (disch := first | rfl | decide) only [Rel7.mask_in] at f57)
          rw [f57] at e57
          clear f57
          have e59 := hA.tm 34 59 (by rfl) (by rfl)
          have f59 : xs 34 = _ := hA.fa 34 (by rfl)
          (try simp (disch := first | rfl | decide) only [Rel7.mask_in] at f59)
          rw [f59] at e59
          clear f59
          clear hA
          refine ⟨((Rely.wanted_at rfl (by rfl) e57).trans (by rfl)), ?_⟩
          go_simp <;> (try with_reducible rfl)
        refine Rel7.Chain.det ?_ (by rfl) (fun T xs wr hA => ?_) ?_
        rotate_left 1
        · have e57 := hA.tm 32 57 (by rfl) (by rfl)
          have f57 : xs 32 = _ := hA.fa 32 (by rfl)
          (try simp (disch := first | rfl | decide) only [Rel7.mask_in] at f57)
          rw [f57] at e57
          clear f57
          have e60 := hA.tm 35 60 (by rfl) (by rfl)
          have f60 : xs 35 = _ := hA.fa 35 (by rfl)
          (try simp (disch := first | rfl | decide) only [Rel7.mask_in] at f60)
          rw [f60] at e60
          clear f60
          clear hA
          refine ⟨((Rely.wanted_at rfl (by rfl) e57).trans (by rfl)), ?_⟩
          go_simp <;> (try with_reducible rfl)
        refine Rel7.Chain.det ?_ (by rfl) (fun T xs wr hA => ?_) ?_
        rotate_left 1
        · have e54 := hA.tm 29 54 (by rfl) (by rfl)
          have f54 : xs 29 = _ := hA.fa 29 (by rfl)
          (try simp (disch := first | rfl | decide) only [Rel7.mask_in] at f54)
          rw [f54] at e54
          clear f54
          have e57 := hA.tm 32 57 (by rfl) (by rfl)
          have f57 : xs 32 = _ := hA.fa 32 (by rfl)
          (try simp (disch := first | rfl | decide) only [Rel7.mask_in] at f57)
          rw [f57] at e57
          clear f57
          have e61 := hA.tm 36 61 (by rfl) (by rfl)
          have f61 : xs 36 = _ := hA.fa 36 (by rfl)
          (try simp (disch := first | rfl | decide) only [Rel7.mask_in] at f61)
          rw [f61] at e61
          clear f61
          clear hA
          refine ⟨((Rely.wanted_at rfl (by rfl) e54).trans (by rfl)), ?_⟩
          go_simp <;> (try with_reducible rfl)
        refine Rel7.Chain.det ?_ (by rfl) (fun T xs wr hA => ?_) ?_
        rotate_left 1
        · have e51 := hA.tm 26 51 (by rfl) (by rfl)
          have f51 : xs 26 = _ := hA.fa 26 (by rfl)
          (try simp (disch := first | rfl | decide) only [Rel7.mask_in] at f51)
          rw [f51] at e51
          clear f51
          have e54 := hA.tm 29 54 (by rfl) (by rfl)
          have f54 : xs 29 = _ := hA.fa 29 (by rfl)
          (try simp (disch := first | rfl | decide) only [Rel7.mask_in] at f54)
          rw [f54] at e54
          clear f54
          have e62 := hA.tm 37 62 (by rfl) (by rfl)
          have f62 : xs 37 = _ := hA.fa 37 (by rfl)
          (try simp (disch := first | rfl | decide) only [Rel7.mask_in] at f62)
          rw [f62] at e62
          clear f62
          clear hA
          refine ⟨((Rely.wanted_at rfl (by rfl) e51).trans (by rfl)), ?_⟩
          go_simp <;> (try with_reducible rfl)
        refine Rel7.Chain.det ?_ (by rfl) (fun T xs wr hA => ?_) ?_
        rotate_left 1
        · have e51 := hA.tm 26 51 (by rfl) (by rfl)
          have f51 : xs 26 = _ := hA.fa 26 (by rfl)
          (try simp (disch := first | rfl | decide) only [Rel7.mask_in] at f51)
          rw [f51] at e51
          clear f51
          have e63 := hA.tm 38 63 (by rfl) (by rfl)
          have f63 : xs 38 = _ := hA.fa 38 (by rfl)
          (try simp (disch := first | rfl | decide) only [Rel7.mask_in] at f63)
          rw [f63] at e63
          clear f63
          clear hA
          refine ⟨(by rfl), ?_⟩
          go_simp <;> (try with_reducible rfl)
        refine Rel7.Chain.done (fun xs x7 hL => ?_)
        obtain ⟨⟨hbe, hbl⟩, hf, -, -⟩ := hL
        have f0 : xs 0 = _ := hf 0 (by decide)
        (try simp (disch := first | rfl | decide) only [Rel7.mask_in] at f0)
        have f1 : xs 1 = (.bool true) := hf 1 (by decide)
        have f2 : xs 2 = _ := hf 2 (by decide)
        (try simp (disch := first | rfl | decide) only [Rel7.mask_in] at f2)
        have f3 : xs 3 = _ := hf 3 (by decide)
        (try simp (disch := first | rfl | decide) only [Rel7.mask_in] at f3)
        have f4 : xs 4 = _ := hf 4 (by decide)
        (try simp (disch := first | rfl | decide) only [Rel7.mask_in] at f4)
        have f5 : xs 5 = (.int .i64 1) := hf 5 (by decide)
        have f6 : xs 6 = _ := hf 6 (by decide)
        (try simp (disch := first | rfl | decide) only [Rel7.mask_in] at f6)
        have f7 : xs 7 = _ := hf 7 (by decide)
        (try simp (disch := first | rfl | decide) only [Rel7.mask_in] at f7)
        have f8 : xs 8 = _ := hf 8 (by decide)
        (try simp (disch := first | rfl | decide) only [Rel7.mask_in] at f8)
        have f9 : xs 9 = _ := hf 9 (by decide)
        (try simp (disch := first | rfl | decide) only [Rel7.mask_in] at f9)
        have f10 : xs 10 = _ := hf 10 (by decide)
        (try simp (disch := first | rfl | decide) only [Rel7.mask_in] at f10)
        have f11 : xs 11 = _ := hf 11 (by decide)
        (try simp (disch := first | rfl | decide) only [Rel7.mask_in] at f11)
        have f12 : xs 12 = _ := hf 12 (by decide)
        (try simp (disch := first | rfl | decide) only [Rel7.mask_in] at f12)
        have f13 : xs 13 = _ := hf 13 (by decide)
        (try simp (disch := first | rfl | decide) only [Rel7.mask_in] at f13)
        have f14 : xs 14 = _ := hf 14 (by decide)
        (try simp (disch := first | rfl | decide) only [Rel7.mask_in] at f14)
        have f15 : xs 15 = _ := hf 15 (by decide)
        (try simp (disch := first | rfl | decide) only [Rel7.mask_in] at f15)
        have f16 : xs 16 = _ := hf 16 (by decide)
        (try simp (disch := first | rfl | decide) only [Rel7.mask_in] at f16)
        have f17 : xs 17 = _ := hf 17 (by decide)
        (try simp (disch := first | rfl | decide) only [Rel7.mask_in] at f17)
        have f18 : xs 18 = _ := hf 18 (by decide)
        (try simp (disch := first | rfl | decide) only [Rel7.mask_in] at f18)
        have f19 : xs 19 = (undef) := hf 19 (by decide)
        have f20 : xs 20 = (undef) := hf 20 (by decide)
        have f21 : xs 21 = (undef) := hf 21 (by decide)
        have f22 : xs 22 = (undef) := hf 22 (by decide)
        have f23 : xs 23 = (undef) := hf 23 (by decide)
        have f24 : xs 24 = _ := hf 24 (by decide)
        (try simp (disch := first | rfl | decide) only [Rel7.mask_in] at f24)
        have f25 : xs 25 = _ := hf 25 (by decide)
        (try simp (disch := first | rfl | decide) only [Rel7.mask_in] at f25)
        have f26 : xs 26 = _ := hf 26 (by decide)
        (try simp (disch := first | rfl | decide) only [Rel7.mask_in] at f26)
        have f27 : xs 27 = _ := hf 27 (by decide)
        (try simp (disch := first | rfl | decide) only [Rel7.mask_in] at f27)
        have f28 : xs 28 = _ := hf 28 (by decide)
        (try simp (disch := first | rfl | decide) only [Rel7.mask_in] at f28)
        have f29 : xs 29 = _ := hf 29 (by decide)
        (try simp (disch := first | rfl | decide) only [Rel7.mask_in] at f29)
        have f30 : xs 30 = _ := hf 30 (by decide)
        (try simp (disch := first | rfl | decide) only [Rel7.mask_in] at f30)
        have f31 : xs 31 = _ := hf 31 (by decide)
        (try simp (disch := first | rfl | decide) only [Rel7.mask_in] at f31)
        have f32 : xs 32 = _ := hf 32 (by decide)
        (try simp (disch := first | rfl | decide) only [Rel7.mask_in] at f32)
        have f33 : xs 33 = _ := hf 33 (by decide)
        (try simp (disch := first | rfl | decide) only [Rel7.mask_in] at f33)
        have f34 : xs 34 = _ := hf 34 (by decide)
        (try simp (disch := first | rfl | decide) only [Rel7.mask_in] at f34)
        have f35 : xs 35 = _ := hf 35 (by decide)
        (try simp (disch := first | rfl | decide) only [Rel7.mask_in] at f35)
        have f36 : xs 36 = _ := hf 36 (by decide)
        (try simp (disch := first | rfl | decide) only [Rel7.mask_in] at f36)
        have f37 : xs 37 = _ := hf 37 (by decide)
        (try simp (disch := first | rfl | decide) only [Rel7.mask_in] at f37)
        have f38 : xs 38 = _ := hf 38 (by decide)
        (try simp (disch := first | rfl | decide) only [Rel7.mask_in] at f38)
        have f39 : xs 39 = _ := hf 39 (by decide)
        (try simp (disch := first | rfl | decide) only [Rel7.mask_in] at f39)
        have hb0 : Below 0 x6 x7 := undrew (hbe 0 (Nat.zero_le _) (fun _ _ => Nat.zero_le _))
        have hgr : ∀ j, j < x6.heap.size → (∀ q, q < 0 → (fun q => 0) q ≠ j) → x7.heap[j]? = x6.heap[j]? := hbl
        clear hbe hbl hf
        have hb : Below x6.heap.size x6 x7 := ⟨hb0.os, hb0.tape, hb0.output, hb0.size, fun q hq => hgr q hq (fun q h => absurd h (Nat.not_lt_zero _))⟩
        refine Rel7.rest_done ?_
        simp only [Rel7.fill, List.setIfInBounds_toArray, List.set_cons_zero, List.set_cons_succ, f0, f1, f2, f3, f4, f5, f6, f7, f8, f9, f10, f11, f12, f13, f14, f15, f16, f17, f18, f19, f20, f21, f22, f23, f24, f25, f26, f27, f28, f29, f30, f31, f32, f33, f34, f35, f36, f37, f38, f39]
        clear hb0 hgr hog hlt_f hlt_q f0 f1 f2 f3 f4 f5 f6 f7 f8 f9 f10 f11 f12 f13 f14 f15 f16 f17 f18 f19 f20 f21 f22 f23 f24 f25 f26 f27 f28 f29 f30 f31 f32 f33 f34 f35 f36 f37 f38 f39
        replace HBf := kBV hb HBf
        replace HBq := kBV hb HBq
        replace HW := Lib.hid (HW.out.trans (hb.mono HW.out.size))
        replace HB := Lib.hid (HB.out.trans (hb.mono HB.out.size))
        replace HEL := Lib.hid (HEL.out.below hb)
        replace HF := Lib.hid (HF.out.below hb)
        replace HV := Lib.hid (HV.out.below hb)
        replace hb := Lib.hid hb
        go_wp2_with fail
        refine (var_p nm 1 x7).mono ?_
        rintro e x8 ⟨rfl, hb⟩
        replace HBf := kBV hb HBf
        replace HBq := kBV hb HBq
        replace HW := Lib.hid (HW.out.trans (hb.mono HW.out.size))
        replace HB := Lib.hid (HB.out.trans (hb.mono HB.out.size))
        replace HEL := Lib.hid (HEL.out.below hb)
        replace HF := Lib.hid (HF.out.below hb)
        replace HV := Lib.hid (HV.out.below hb)
        rw [show opVar 1 = 14 from rfl]
        go_wp2_with fail
        refine (eval_p 1 _ _ [] (.node 14 0 nm []) tS x8 (FC.mk (d := 0) (by unfold IR; decide) (nr0 _) (FL.nil _ _ _)) (EL.nil _) rfl (smVar _ _ _ (by rw [evVar1]; exact trivial))).mono ?_
        rintro e x9 ⟨v, rfl, hv, hb⟩
        replace HBf := kBV hb HBf
        replace HBq := kBV hb HBq
        replace HW := Lib.hid (HW.out.trans (hb.mono HW.out.size))
        replace HB := Lib.hid (HB.out.trans (hb.mono HB.out.size))
        replace HEL := Lib.hid (HEL.out.below hb)
        replace HF := Lib.hid (HF.out.below hb)
        replace HV := Lib.hid (HV.out.below hb)
        rw [evVar1, rho_nil, show asB (V.I 0) = false from rfl] at hv
        have hv1 := hv.bool
        subst hv1
        have HC : Hid (CI x9 (.agg #[.bool false, .slice none 0 0]) 0 600) := Lib.hid (nr0 _)
        clear hv
        go_wp2_with fail
        obtain ⟨x10, ku, eu, eku, hbu, hku, HBu⟩ := newV x9 #[.int .i64 1, .bool false, .slice none 0 0, .bool false, .slice none 0 0] 41
        replace HBf := kBV hbu.out HBf
        replace HBq := kBV hbu.out HBq
        replace HW := Lib.hid (HW.out.trans (hbu.out.mono HW.out.size))
        replace HB := Lib.hid (HB.out.trans (hbu.out.mono HB.out.size))
        replace HEL := Lib.hid (HEL.out.below hbu.out)
        replace HF := Lib.hid (HF.out.below hbu.out)
        replace HV := Lib.hid (HV.out.below hbu.out)
        replace HC := Lib.hid (HC.out.below hbu.out)
        rw [eu, eku]
        refine (wsign_any _ 0 600 x10 HC.out.gi (by decide)).mono ?_
        rintro e x11 ⟨rfl, hb⟩
        replace HBf := kBV hb HBf
        replace HBq := kBV hb HBq
        replace HBu := kBV hb HBu
        replace HW := Lib.hid (HW.out.trans (hb.mono HW.out.size))
        replace HB := Lib.hid (HB.out.trans (hb.mono HB.out.size))
        replace HEL := Lib.hid (HEL.out.below hb)
        replace HF := Lib.hid (HF.out.below hb)
        replace HV := Lib.hid (HV.out.below hb)
        replace HC := Lib.hid (HC.out.below hb)
        rw [show sgnZ 0 = 0 from rfl]
        go_wp2_with fail
        go_roundw
        case rel => exact ⟨2, rfl, by decide, HB⟩
        case measure => simp [intOf]
      · have hz := HZ0.out
        have hzb := HZB.out
        go_wp2_with fail
        refine (var_p ⟨#[105, 48]⟩ 2 wl).mono ?_
        rintro e x3 ⟨rfl, hb⟩
        replace HW := Lib.hid (HW.out.trans (hb.mono HW.out.size))
        replace HB := Lib.hid (HB.out.trans (hb.mono HB.out.size))
        replace HEL := Lib.hid (HEL.out.below hb)
        rw [show opVar 2 = 8 from rfl]
        go_wp2_with fail
        obtain ⟨x4, kf, ef, ekf, hbf, hkf, HBf⟩ := newV x3 #[.int .i64 8, .bool false, .slice none 0 0, .string ⟨#[105, 48]⟩, .slice none 0 0] 29
        replace HW := Lib.hid (HW.out.trans (hbf.out.mono HW.out.size))
        replace HB := Lib.hid (HB.out.trans (hbf.out.mono HB.out.size))
        replace HEL := Lib.hid (HEL.out.below hbf.out)
        rw [ef, ekf]
        have HF : Hid (FC x4 tS 1 (.agg #[.int .i64 8, .bool false, .slice none 0 0, .string ⟨#[105, 48]⟩, .slice none 0 0]) (.node 8 0 ⟨#[105, 48]⟩ [])) := Lib.hid (FC.mk (d := 0) (by unfold IR; decide) (nr0 _) (FL.nil _ _ _))
        have HSM : Hid (Sm (rho env) (.node 8 0 ⟨#[105, 48]⟩ [])) := Lib.hid (smVar _ _ _ (by rw [evVar2, hz]; exact ⟨Nat.zero_le _, fun z h => by cases h⟩))
        clear hz hzb
        refine (eval_p 1 _ _ env (.node 8 0 ⟨#[105, 48]⟩ []) tS x4 HF.out HEL.out rfl HSM.out).mono ?_
        rintro e x5 ⟨v, rfl, hv, hb⟩
        replace HBf := kBV hb HBf
        replace HW := Lib.hid (HW.out.trans (hb.mono HW.out.size))
        replace HB := Lib.hid (HB.out.trans (hb.mono HB.out.size))
        replace HEL := Lib.hid (HEL.out.below hb)
        replace HF := Lib.hid (HF.out.below hb)
        rw [evVar2, HZ0.out, show asL (V.I z0) = [] from rfl] at hv
        obtain ⟨vo, vl, vc, rfl, hnl⟩ := hv.list
        have hvl : vl = 0 := by obtain ⟨_, _, e, _⟩ := hnl.form; injection e
        subst hvl
        clear hnl
        have HV := Lib.hid hv
        clear hv
        go_upto_region 9 with fail
        obtain ⟨x6, kq, eq, ekq, hbq, hkq, HBq⟩ := newV x5 #[.int .i64 2, .bool false, .slice none 0 0, .bool false, .slice vo 0 vc] 41
        replace HBf := kBV hbq.out HBf
        replace HW := Lib.hid (HW.out.trans (hbq.out.mono HW.out.size))
        replace HB := Lib.hid (HB.out.trans (hbq.out.mono HB.out.size))
        replace HEL := Lib.hid (HEL.out.below hbq.out)
        replace HF := Lib.hid (HF.out.below hbq.out)
        replace HV := Lib.hid (HV.out.below hbq.out)
        rw [eq, ekq]
        have hlt_f := lt_of_block HBf.out
        have hlt_q := lt_of_block HBq.out
        have hog : Hid (∀ q, q < 0 → (fun q => 0) q < x6.heap.size) := Lib.hid (fun q h => absurd h (Nat.not_lt_zero _))
        refine Rel7.region (by kernel_rfl) [[], [0], [0, 1], [0, 1, 2], [0, 1, 2, 3], [0, 1, 2, 3, 4], [0, 1, 2, 3], [0, 1, 2, 3, 4, 5, 6], [0, 1, 2, 3, 4, 5, 6, 7], [0, 1, 2, 3, 4, 5, 6, 7, 8], [0, 1, 2, 3, 4, 5, 6, 7, 8, 9], [0, 1, 2, 3, 4, 5, 6, 7, 8, 9, 10], [0, 1, 2, 3, 4, 5, 6, 7, 8, 9], [0, 1, 2, 3, 4, 5, 6, 7, 8, 9, 10, 11, 12], [0, 1, 2, 3, 4, 5, 6, 7, 8, 9, 10, 11, 12, 13], [0, 1, 2, 3, 4, 5, 6, 7, 8, 9, 10, 11, 12, 13, 14], [0, 1, 2, 3, 4, 5, 6, 7, 8, 9, 10, 11, 12, 13, 14, 15], [0, 1, 2, 3, 4, 5, 6, 7, 8, 9, 10, 11, 12, 13, 14, 15, 16], [0, 1, 2, 3, 4, 5, 6, 7, 8, 9, 10, 11, 12, 13, 14, 15, 16, 17], [0, 1, 2, 3, 4, 5, 6, 7, 8, 9, 10, 11, 12, 13, 14, 15, 16, 17, 18], [0, 1, 2, 3, 4, 5, 6, 7, 8, 9, 10, 11, 12, 13, 14, 15, 16, 17, 18], [0, 1, 2, 3, 4, 5, 6, 7, 8, 9, 10, 11, 12, 13, 14, 15, 16, 17, 18, 20], [0, 1, 2, 3, 4, 5, 6, 7, 8, 9, 10, 11, 12, 13, 14, 15, 16, 17, 18, 19, 20, 21], [0, 1, 2, 3, 4, 5, 6, 7, 8, 9, 10, 11, 12, 13, 14, 15, 16, 17, 18, 19, 20, 21, 22], [0, 1, 2, 3, 4, 5, 6, 7, 8, 9, 10, 11, 12, 13, 14, 15, 16, 17, 18, 19, 20, 21, 22, 23], [0, 1, 2, 3, 4, 5, 6, 7, 8, 9, 10, 11, 12, 13, 14, 15, 16, 17, 18, 19, 20, 21, 22, 23, 24], [0, 1, 2, 3, 4, 5, 6, 7, 8, 9, 10, 11, 12, 13, 14, 15, 16, 17, 18, 19, 20, 21, 22, 23, 24, 25], [0, 1, 2, 3, 4, 5, 6, 7, 8, 9, 10, 11, 12, 13, 14, 15, 16, 17, 18, 19, 20, 21, 22, 23, 24, 25, 26], [0, 1, 2, 3, 4, 5, 6, 7, 8, 9, 10, 11, 12, 13, 14, 15, 16, 17, 18, 19, 20, 21, 22, 23, 24, 25, 26, 27], [0, 1, 2, 3, 4, 5, 6, 7, 8, 9, 10, 11, 12, 13, 14, 15, 16, 17, 18, 19, 20, 21, 22, 23, 24, 25, 26, 27, 28], [0, 1, 2, 3, 4, 5, 6, 7, 8, 9, 10, 11, 12, 13, 14, 15, 16, 17, 18, 19, 20, 21, 22, 23, 24, 25, 26, 27, 28, 29], [0, 1, 2, 3, 4, 5, 6, 7, 8, 9, 10, 11, 12, 13, 14, 15, 16, 17, 18, 19, 20, 21, 22, 23, 24, 25, 26, 27, 28, 29, 30], [0, 1, 2, 3, 4, 5, 6, 7, 8, 9, 10, 11, 12, 13, 14, 15, 16, 17, 18, 19, 20, 21, 22, 23, 24, 25, 26, 27, 28, 29, 30, 31], [0, 1, 2, 3, 4, 5, 6, 7, 8, 9, 10, 11, 12, 13, 14, 15, 16, 17, 18, 19, 20, 21, 22, 23, 24, 25, 26, 27, 28, 29, 30, 31, 32], [0, 1, 2, 3, 4, 5, 6, 7, 8, 9, 10, 11, 12, 13, 14, 15, 16, 17, 18, 19, 20, 21, 22, 23, 24, 25, 26, 27, 28, 29, 30, 31, 32, 33], [0, 1, 2, 3, 4, 5, 6, 7, 8, 9, 10, 11, 12, 13, 14, 15, 16, 17, 18, 19, 20, 21, 22, 23, 24, 25, 26, 27, 28, 29, 30, 31, 32, 33, 34], [0, 1, 2, 3, 4, 5, 6, 7, 8, 9, 10, 11, 12, 13, 14, 15, 16, 17, 18, 19, 20, 21, 22, 23, 24, 25, 26, 27, 28, 29, 30, 31, 32, 33, 34, 35], [0, 1, 2, 3, 4, 5, 6, 7, 8, 9, 10, 11, 12, 13, 14, 15, 16, 17, 18, 19, 20, 21, 22, 23, 24, 25, 26, 27, 28, 29, 30, 31, 32, 33, 34, 35, 36], [0, 1, 2, 3, 4, 5, 6, 7, 8, 9, 10, 11, 12, 13, 14, 15, 16, 17, 18, 19, 20, 21, 22, 23, 24, 25, 26, 27, 28, 29, 30, 31, 32, 33, 34, 35, 36, 37], [0, 1, 2, 3, 4, 5, 6, 7, 8, 9, 10, 11, 12, 13, 14, 15, 16, 17, 18, 19, 20, 21, 22, 23, 24, 25, 26, 27, 28, 29, 30, 31, 32, 33, 34, 35, 36, 37, 38]] [] [] (fun q => 0) 0 40 (by kernel_rfl) (by kernel_rfl) (by rfl) hog.out (fun q q' h h' hn => absurd hn (by omega)) ?_
        refine Rel7.Chain.det ?_ (by rfl) (fun T xs wr hA => ?_) ?_
        rotate_left 1
        · have e9 := hA.pre 9 (by kernel_rfl)
          simp only [List.getElem?_toArray, List.getElem?_cons_succ, List.getElem?_cons_zero] at e9
          have hBq : wr.heap[kf]? = _ := (hA.bl _ hlt_f (fun q h => absurd h (Nat.not_lt_zero _))).trans HBf.out
          have q0 := cell_at (v := .int .i64 8) hBq 0 rfl
          have q1 := cell_at (v := .bool false) hBq 1 rfl
          have q2 := cell_at (v := .slice none 0 0) hBq 2 rfl
          have q3 := cell_at (v := .string ⟨#[105, 48]⟩) hBq 3 rfl
          have q4 := cell_at (v := .slice none 0 0) hBq 4 rfl
          clear hBq
          clear hA
          refine ⟨(by rfl), ?_⟩
          go_simp <;> (try with_reducible rfl)
        refine Rel7.Chain.call (fun xs v w => v = .bool true) (fun _ _ _ _ h _ => h) (fun _ _ _ _ _ h _ _ => h) (by rfl) (fun T xs wr hA => ?_) ?_
        · have hsw := (hA.be 0 (Nat.zero_le _) (fun _ _ => Nat.zero_le _)).size
          have e25 := hA.tm 0 25 (by rfl) (by rfl)
          have f25 : xs 0 = _ := hA.fa 0 (by rfl)
          (try simp (disch := first | rfl | decide) only [Rel7.mask_in] at f25)
          rw [f25] at e25
          clear f25
          have hbw := undrew (hA.be x6.heap.size (Nat.le_refl _) (fun q h => absurd h (Nat.not_lt_zero q)))
          have hfw := HF.out.below hbw
          clear hA
          refine ⟨(by rfl), fun K hK => ?_⟩
          go_simp
          refine (right_p 1 _ _ tS _ hfw).mono ?_
          rintro e w' ⟨rfl, hb'⟩
          exact hK.out _ _ rfl hb'
        refine Rel7.Chain.det ?_ (by rfl) (fun T xs wr hA => ?_) ?_
        rotate_left 1
        · have e26 := hA.tm 1 26 (by rfl) (by rfl)
          have f26 : xs 1 = (.bool true) := hA.fa 1 (by rfl)
          rw [f26] at e26
          clear f26
          clear hA
          refine ⟨(by rfl), ?_⟩
          go_simp <;> (try with_reducible rfl)
        refine Rel7.Chain.det ?_ (by rfl) (fun T xs wr hA => ?_) ?_
        rotate_left 1
        · have e27 := hA.tm 2 27 (by rfl) (by rfl)
          have f27 : xs 2 = _ := hA.fa 2 (by rfl)
          (try simp (disch := first | rfl | decide) only [Rel7.mask_in] at f27)
          rw [f27] at e27
          clear f27
          clear hA
          refine ⟨(by rfl), ?_⟩
          go_simp <;> (try with_reducible rfl)
        refine Rel7.Chain.det ?_ (by rfl) (fun T xs wr hA => ?_) ?_
        rotate_left 1
        · have e28 := hA.tm 3 28 (by rfl) (by rfl)
          have f28 : xs 3 = _ := hA.fa 3 (by rfl)
          (try simp (disch := first | rfl | decide) only [Rel7.mask_in] at f28)
          rw [f28] at e28
          clear f28
          have e9 := hA.pre 9 (by kernel_rfl)
          simp only [List.getElem?_toArray, List.getElem?_cons_succ, List.getElem?_cons_zero] at e9
          have hBq : wr.heap[kf]? = _ := (hA.bl _ hlt_f (fun q h => absurd h (Nat.not_lt_zero _))).trans HBf.out
          have q0 := cell_at (v := .int .i64 8) hBq 0 rfl
          have q1 := cell_at (v := .bool false) hBq 1 rfl
          have q2 := cell_at (v := .slice none 0 0) hBq 2 rfl
          have q3 := cell_at (v := .string ⟨#[105, 48]⟩) hBq 3 rfl
          have q4 := cell_at (v := .slice none 0 0) hBq 4 rfl
          clear hBq
          clear hA
          refine ⟨((Rely.wanted_at rfl (by rfl) e28).trans (by rfl)), ?_⟩
          go_simp <;> (try with_reducible rfl)
        refine Rel7.Chain.call (fun xs v w => v = .int .i64 2) (fun _ _ _ _ h _ => h) (fun _ _ _ _ _ h _ _ => h) (by rfl) (fun T xs wr hA => ?_) ?_
        · have e28 := hA.tm 3 28 (by rfl) (by rfl)
          have f28 : xs 3 = _ := hA.fa 3 (by rfl)
          (try simp (disch := first | rfl | decide) only [Rel7.mask_in] at f28)
          rw [f28] at e28
          clear f28
          have hsw := (hA.be 0 (Nat.zero_le _) (fun _ _ => Nat.zero_le _)).size
          have e29 := hA.tm 4 29 (by rfl) (by rfl)
          have f29 : xs 4 = _ := hA.fa 4 (by rfl)
          (try simp (disch := first | rfl | decide) only [Rel7.mask_in] at f29)
          rw [f29] at e29
          clear f29
          have hbw := undrew (hA.be x6.heap.size (Nat.le_refl _) (fun q h => absurd h (Nat.not_lt_zero q)))
          clear hA
          refine ⟨((Rely.wanted_at rfl (by rfl) e28).trans (by rfl)), fun K hK => ?_⟩
          go_simp
          refine (sort_p _ _ _ _ _ _ _ _ _ _).mono ?_
          rintro e w' ⟨rfl, hb'⟩
          exact hK.out _ _ rfl hb'
        refine Rel7.Chain.det ?_ (by rfl) (fun T xs wr hA => ?_) ?_
        rotate_left 1
        · have e28 := hA.tm 3 28 (by rfl) (by rfl)
          have f28 : xs 3 = _ := hA.fa 3 (by rfl)
          (try simp (disch := first | rfl | decide) only [Rel7.mask_in] at f28)
          rw [f28] at e28
          clear f28
          have e8 := hA.pre 8 (by kernel_rfl)
          simp only [List.getElem?_toArray, List.getElem?_cons_succ, List.getElem?_cons_zero] at e8
          clear hA
          refine ⟨((Rely.wanted_at rfl (by rfl) e28).trans (by rfl)), ?_⟩
          go_simp <;> (try with_reducible rfl)
        refine Rel7.Chain.det ?_ (by rfl) (fun T xs wr hA => ?_) ?_
        rotate_left 1
        · have e28 := hA.tm 3 28 (by rfl) (by rfl)
          have f28 : xs 3 = _ := hA.fa 3 (by rfl)
          (try simp (disch := first | rfl | decide) only [Rel7.mask_in] at f28)
          rw [f28] at e28
          clear f28
          have e30 := hA.tm 5 30 (by rfl) (by rfl)
          have f30 : xs 5 = (.int .i64 2) := hA.fa 5 (by rfl)
          rw [f30] at e30
          clear f30
          have e31 := hA.tm 6 31 (by rfl) (by rfl)
          have f31 : xs 6 = _ := hA.fa 6 (by rfl)
          (try simp (disch := first | rfl | decide) only [Rel7.mask_in] at f31)
          rw [f31] at e31
          clear f31
          clear hA
          refine ⟨((Rely.wanted_at rfl (by rfl) e28).trans (by rfl)), ?_⟩
          go_simp <;> (try with_reducible rfl)
        refine Rel7.Chain.det ?_ (by rfl) (fun T xs wr hA => ?_) ?_
        rotate_left 1
        · have e28 := hA.tm 3 28 (by rfl) (by rfl)
          have f28 : xs 3 = _ := hA.fa 3 (by rfl)
          (try simp (disch := first | rfl | decide) only [Rel7.mask_in] at f28)
          rw [f28] at e28
          clear f28
          have e32 := hA.tm 7 32 (by rfl) (by rfl)
          have f32 : xs 7 = _ := hA.fa 7 (by rfl)
          (try simp (disch := first | rfl | decide) only [Rel7.mask_in] at f32)
          rw [f32] at e32
          clear f32
          clear hA
          refine ⟨(by rfl), ?_⟩
          go_simp <;> (try with_reducible rfl)
        refine Rel7.Chain.det ?_ (by rfl) (fun T xs wr hA => ?_) ?_
        rotate_left 1
        · have e33 := hA.tm 8 33 (by rfl) (by rfl)
          have f33 : xs 8 = _ := hA.fa 8 (by rfl)
          (try simp (disch := first | rfl | decide) only [Rel7.mask_in] at f33)
          rw [f33] at e33
          clear f33
          clear hA
          refine ⟨(by rfl), ?_⟩
          go_simp <;> (try with_reducible rfl)
        refine Rel7.Chain.det ?_ (by rfl) (fun T xs wr hA => ?_) ?_
        rotate_left 1
        · have e34 := hA.tm 9 34 (by rfl) (by rfl)
          have f34 : xs 9 = _ := hA.fa 9 (by rfl)
          (try simp (disch := first | rfl | decide) only [Rel7.mask_in] at f34)
          rw [f34] at e34
          clear f34
          have e10 := hA.pre 10 (by kernel_rfl)
          simp only [List.getElem?_toArray, List.getElem?_cons_succ, List.getElem?_cons_zero] at e10
          clear hA
          refine ⟨((Rely.wanted_at rfl (by rfl) e34).trans (by rfl)), ?_⟩
          go_simp <;> (try with_reducible rfl)
        refine Rel7.Chain.det ?_ (by rfl) (fun T xs wr hA => ?_) ?_
        rotate_left 1
        · have e34 := hA.tm 9 34 (by rfl) (by rfl)
          have f34 : xs 9 = _ := hA.fa 9 (by rfl)
          (try simp (disch := first | rfl | decide) only [Rel7.mask_in] at f34)
          rw [f34] at e34
          clear f34
          have e35 := hA.tm 10 35 (by rfl) (by rfl)
          have f35 : xs 10 = _ := hA.fa 10 (by rfl)
          (try simp (disch := first | rfl | decide) only [Rel7.mask_in] at f35)
          rw [f35] at e35
          clear f35
          have hBq : wr.heap[kq]? = _ := (hA.bl _ hlt_q (fun q h => absurd h (Nat.not_lt_zero _))).trans HBq.out
          have q0 := cell_at (v := .int .i64 2) hBq 0 rfl
          have q1 := cell_at (v := .bool false) hBq 1 rfl
          have q2 := cell_at (v := .slice none 0 0) hBq 2 rfl
          have q3 := cell_at (v := .bool false) hBq 3 rfl
          have q4 := cell_at (v := .slice vo 0 vc) hBq 4 rfl
          clear hBq
          clear hA
          refine ⟨((Rely.wanted_at rfl (by rfl) e34).trans (by rfl)), ?_⟩
          go_simp <;> (try with_reducible rfl)
        refine Rel7.Chain.det ?_ (by rfl) (fun T xs wr hA => ?_) ?_
        rotate_left 1
        · have e34 := hA.tm 9 34 (by rfl) (by rfl)
          have f34 : xs 9 = _ := hA.fa 9 (by rfl)
          (try simp (disch := first | rfl | decide) only [Rel7.mask_in] at f34)
          rw [f34] at e34
          clear f34
          have e8 := hA.pre 8 (by kernel_rfl)
          simp only [List.getElem?_toArray, List.getElem?_cons_succ, List.getElem?_cons_zero] at e8
          clear hA
          refine ⟨((Rely.wanted_at rfl (by rfl) e34).trans (by rfl)), ?_⟩
          go_simp <;> (try with_reducible rfl)
        refine Rel7.Chain.det ?_ (by rfl) (fun T xs wr hA => ?_) ?_
        rotate_left 1
        · have e34 := hA.tm 9 34 (by rfl) (by rfl)
          have f34 : xs 9 = _ := hA.fa 9 (by rfl)
          (try simp (disch := first | rfl | decide) only [Rel7.mask_in] at f34)
          rw [f34] at e34
          clear f34
          have e36 := hA.tm 11 36 (by rfl) (by rfl)
          have f36 : xs 11 = _ := hA.fa 11 (by rfl)
          (try simp (disch := first | rfl | decide) only [Rel7.mask_in] at f36)
          rw [f36] at e36
          clear f36
          have e37 := hA.tm 12 37 (by rfl) (by rfl)
          have f37 : xs 12 = _ := hA.fa 12 (by rfl)
          (try simp (disch := first | rfl | decide) only [Rel7.mask_in] at f37)
          rw [f37] at e37
          clear f37
          clear hA
          refine ⟨((Rely.wanted_at rfl (by rfl) e34).trans (by rfl)), ?_⟩
          go_simp <;> (try with_reducible rfl)
        refine Rel7.Chain.det ?_ (by rfl) (fun T xs wr hA => ?_) ?_
        rotate_left 1
        · have e34 := hA.tm 9 34 (by rfl) (by rfl)
          have f34 : xs 9 = _ := hA.fa 9 (by rfl)
          (try simp (disch := first | rfl | decide) only [Rel7.mask_in] at f34)
          rw [f34] at e34
          clear f34
          have e38 := hA.tm 13 38 (by rfl) (by rfl)
          have f38 : xs 13 = _ := hA.fa 13 (by rfl)
          (try simp (disch := first | rfl | decide) only [Rel7.mask_in] at f38)
          rw [f38] at e38
          clear f38
          clear hA
          refine ⟨(by rfl), ?_⟩
          go_simp <;> (try with_reducible rfl)
        refine Rel7.Chain.det ?_ (by rfl) (fun T xs wr hA => ?_) ?_
        rotate_left 1
        · have e39 := hA.tm 14 39 (by rfl) (by rfl)
          have f39 : xs 14 = _ := hA.fa 14 (by rfl)
          (try simp (disch := first | rfl | decide) only [Rel7.mask_in] at f39)
          rw [f39] at e39
          clear f39
          clear hA
          refine ⟨(by rfl), ?_⟩
          go_simp <;> (try with_reducible rfl)
        refine Rel7.Chain.det ?_ (by rfl) (fun T xs wr hA => ?_) ?_
        rotate_left 1
        · have e40 := hA.tm 15 40 (by rfl) (by rfl)
          have f40 : xs 15 = _ := hA.fa 15 (by rfl)
          (try simp (disch := first | rfl | decide) only [Rel7.mask_in] at f40)
          rw [f40] at e40
          clear f40
          have e8 := hA.pre 8 (by kernel_rfl)
          simp only [List.getElem?_toArray, List.getElem?_cons_succ, List.getElem?_cons_zero] at e8
          clear hA
          refine ⟨((Rely.wanted_at rfl (by rfl) e40).trans (by rfl)), ?_⟩
          go_simp <;> (try with_reducible rfl)
        refine Rel7.Chain.det ?_ (by rfl) (fun T xs wr hA => ?_) ?_
        rotate_left 1
        · have e40 := hA.tm 15 40 (by rfl) (by rfl)
          have f40 : xs 15 = _ := hA.fa 15 (by rfl)
          (try simp (disch := first | rfl | decide) only [Rel7.mask_in] at f40)
          rw [f40] at e40
          clear f40
          have e41 := hA.tm 16 41 (by rfl) (by rfl)
          have f41 : xs 16 = _ := hA.fa 16 (by rfl)
          (try simp (disch := first | rfl | decide) only [Rel7.mask_in] at f41)
          rw [f41] at e41
          clear f41
          clear hA
          refine ⟨((Rely.wanted_at rfl (by rfl) e40).trans (by rfl)), ?_⟩
          go_simp <;> (try with_reducible rfl)
        refine Rel7.Chain.det ?_ (by rfl) (fun T xs wr hA => ?_) ?_
        rotate_left 1
        · have e40 := hA.tm 15 40 (by rfl) (by rfl)
          have f40 : xs 15 = _ := hA.fa 15 (by rfl)
          (try simp (disch := first | rfl | decide) only [Rel7.mask_in] at f40)
          rw [f40] at e40
          clear f40
          have e42 := hA.tm 17 42 (by rfl) (by rfl)
          have f42 : xs 17 = _ := hA.fa 17 (by rfl)
          (try simp (disch := first | rfl | decide) only [Rel7.mask_in] at f42)
          rw [f42] at e42
          clear f42
          clear hA
          refine ⟨((Rely.wanted_at rfl (by rfl) e40).trans (by rfl)), ?_⟩
          go_simp <;> (try with_reducible rfl)
        refine Rel7.Chain.skip (by rfl) (fun T xs wr hA => ?_) ?_
        · have e43 := hA.tm 18 43 (by rfl) (by rfl)
          have f43 : xs 18 = _ := hA.fa 18 (by rfl)
          (try simp (disch := first | rfl | decide) only [Rel7.mask_in] at f43)
          rw [f43] at e43
          clear f43
          exact ((Rely.wanted_at rfl (by rfl) e43).trans (by rfl))
        refine Rel7.Chain.skip (by rfl) (fun T xs wr hA => ?_) ?_
        · have e43 := hA.tm 18 43 (by rfl) (by rfl)
          have f43 : xs 18 = _ := hA.fa 18 (by rfl)
          (try simp (disch := first | rfl | decide) only [Rel7.mask_in] at f43)
          rw [f43] at e43
          clear f43
          exact ((Rely.wanted_at rfl (by rfl) e43).trans (by rfl))
        refine Rel7.Chain.skip (by rfl) (fun T xs wr hA => ?_) ?_
        · have e43 := hA.tm 18 43 (by rfl) (by rfl)
          have f43 : xs 18 = _ := hA.fa 18 (by rfl)
          (try simp (disch := first | rfl | decide) only [Rel7.mask_in] at f43)
          rw [f43] at e43
          clear f43
          exact ((Rely.wanted_at rfl (by rfl) e43).trans (by rfl))
        refine Rel7.Chain.skip (by rfl) (fun T xs wr hA => ?_) ?_
        · have e43 := hA.tm 18 43 (by rfl) (by rfl)
          have f43 : xs 18 = _ := hA.fa 18 (by rfl)
          (try simp (disch := first | rfl | decide) only [Rel7.mask_in] at f43)
          rw [f43] at e43
          clear f43
          exact ((Rely.wanted_at rfl (by rfl) e43).trans (by rfl))
        refine Rel7.Chain.skip (by rfl) (fun T xs wr hA => ?_) ?_
        · have e43 := hA.tm 18 43 (by rfl) (by rfl)
          have f43 : xs 18 = _ := hA.fa 18 (by rfl)
          (try simp (disch := first | rfl | decide) only [Rel7.mask_in] at f43)
          rw [f43] at e43
          clear f43
          exact ((Rely.wanted_at rfl (by rfl) e43).trans (by rfl))
        refine Rel7.Chain.det ?_ (by rfl) (fun T xs wr hA => ?_) ?_
        rotate_left 1
        · have e40 := hA.tm 15 40 (by rfl) (by rfl)
          have f40 : xs 15 = _ := hA.fa 15 (by rfl)
          (try simp (disch := first | rfl | decide) only [Rel7.mask_in] at f40)
          rw [f40] at e40
          clear f40
          have e43 := hA.tm 18 43 (by rfl) (by rfl)
          have f43 : xs 18 = _ := hA.fa 18 (by rfl)
          (try simp (disch := first | rfl | decide) only [Rel7.mask_in] at f43)
          rw [f43] at e43
          clear f43
          have e48 := hA.tm 23 48 (by rfl) (by rfl)
          have f48 : xs 23 = (undef) := hA.fa 23 (by rfl)
          rw [f48] at e48
          clear f48
          clear hA
          refine ⟨((Rely.wanted_at rfl (by rfl) e40).trans (by rfl)), ?_⟩
          go_simp <;> (try with_reducible rfl)
        refine Rel7.Chain.det ?_ (by rfl) (fun T xs wr hA => ?_) ?_
        rotate_left 1
        · have e40 := hA.tm 15 40 (by rfl) (by rfl)
          have f40 : xs 15 = _ := hA.fa 15 (by rfl)
          (try simp (disch := first | rfl | decide) only [Rel7.mask_in] at f40)
          rw [f40] at e40
          clear f40
          have e49 := hA.tm 24 49 (by rfl) (by rfl)
          have f49 : xs 24 = _ := hA.fa 24 (by rfl)
          (try simp (disch := first | rfl | decide) only [Rel7.mask_in] at f49)
          rw [f49] at e49
          clear f49
          clear hA
          refine ⟨(by rfl), ?_⟩
          go_simp <;> (try with_reducible rfl)
        refine Rel7.Chain.det ?_ (by rfl) (fun T xs wr hA => ?_) ?_
        rotate_left 1
        · have e50 := hA.tm 25 50 (by rfl) (by rfl)
          have f50 : xs 25 = _ := hA.fa 25 (by rfl)
          (try simp (disch := first | rfl | decide) only [Rel7.mask_in] at f50)
          rw [f50] at e50
          clear f50
          clear hA
          refine ⟨(by rfl), ?_⟩
          go_simp <;> (try with_reducible rfl)
        refine Rel7.Chain.det ?_ (by rfl) (fun T xs wr hA => ?_) ?_
        rotate_left 1
        · have e51 := hA.tm 26 51 (by rfl) (by rfl)
          have f51 : xs 26 = _ := hA.fa 26 (by rfl)
          (try simp (disch := first | rfl | decide) only [Rel7.mask_in] at f51)
          rw [f51] at e51
          clear f51
          have e8 := hA.pre 8 (by kernel_rfl)
          simp only [List.getElem?_toArray, List.getElem?_cons_succ, List.getElem?_cons_zero] at e8
          clear hA
          refine ⟨((Rely.wanted_at rfl (by rfl) e51).trans (by rfl)), ?_⟩
          go_simp <;> (try with_reducible rfl)
        refine Rel7.Chain.det ?_ (by rfl) (fun T xs wr hA => ?_) ?_
        rotate_left 1
        · have e51 := hA.tm 26 51 (by rfl) (by rfl)
          have f51 : xs 26 = _ := hA.fa 26 (by rfl)
          (try simp (disch := first | rfl | decide) only [Rel7.mask_in] at f51)
          rw [f51] at e51
          clear f51
          have e52 := hA.tm 27 52 (by rfl) (by rfl)
          have f52 : xs 27 = _ := hA.fa 27 (by rfl)
          (try simp (disch := first | rfl | decide) only [Rel7.mask_in] at f52)
          rw [f52] at e52
          clear f52
          clear hA
          refine ⟨((Rely.wanted_at rfl (by rfl) e51).trans (by rfl)), ?_⟩
          go_simp <;> (try with_reducible rfl)
        refine Rel7.Chain.det ?_ (by rfl) (fun T xs wr hA => ?_) ?_
        rotate_left 1
        · have e51 := hA.tm 26 51 (by rfl) (by rfl)
          have f51 : xs 26 = _ := hA.fa 26 (by rfl)
          (try simp (disch := first | rfl | decide) only [Rel7.mask_in] at f51)
          rw [f51] at e51
          clear f51
          have e53 := hA.tm 28 53 (by rfl) (by rfl)
          have f53 : xs 28 = _ := hA.fa 28 (by rfl)
          (try simp (disch := first | rfl | decide) only [Rel7.mask_in] at f53)
          rw [f53] at e53
          clear f53
          clear hA
          refine ⟨((Rely.wanted_at rfl (by rfl) e51).trans (by rfl)), ?_⟩
          go_simp <;> (try with_reducible rfl)
        refine Rel7.Chain.det ?_ (by rfl) (fun T xs wr hA => ?_) ?_
        rotate_left 1
        · have e54 := hA.tm 29 54 (by rfl) (by rfl)
          have f54 : xs 29 = _ := hA.fa 29 (by rfl)
          (try simp (disch := first | rfl | decide) only [Rel7.mask_in] at f54)
          rw [f54] at e54
          clear f54
          have e10 := hA.pre 10 (by kernel_rfl)
          simp only [List.getElem?_toArray, List.getElem?_cons_succ, List.getElem?_cons_zero] at e10
          clear hA
          refine ⟨((Rely.wanted_at rfl (by rfl) e54).trans (by rfl)), ?_⟩
          go_simp <;> (try with_reducible rfl)
        refine Rel7.Chain.det ?_ (by rfl) (fun T xs wr hA => ?_) ?_
        rotate_left 1
        · have e54 := hA.tm 29 54 (by rfl) (by rfl)
          have f54 : xs 29 = _ := hA.fa 29 (by rfl)
          (try simp (disch := first | rfl | decide) only [Rel7.mask_in] at f54)
          rw [f54] at e54
          clear f54
          have e55 := hA.tm 30 55 (by rfl) (by rfl)
          have f55 : xs 30 = _ := hA.fa 30 (by rfl)
          (try simp (disch := first | rfl | decide) only [Rel7.mask_in] at f55)
          rw [f55] at e55
          clear f55
          have hBq : wr.heap[kq]? = _ := (hA.bl _ hlt_q (fun q h => absurd h (Nat.not_lt_zero _))).trans HBq.out
          have q0 := cell_at (v := .int .i64 2) hBq 0 rfl
          have q1 := cell_at (v := .bool false) hBq 1 rfl
          have q2 := cell_at (v := .slice none 0 0) hBq 2 rfl
          have q3 := cell_at (v := .bool false) hBq 3 rfl
          have q4 := cell_at (v := .slice vo 0 vc) hBq 4 rfl
          clear hBq
          clear hA
          refine ⟨((Rely.wanted_at rfl (by rfl) e54).trans (by rfl)), ?_⟩
          go_simp <;> (try with_reducible rfl)
        refine Rel7.Chain.det ?_ (by rfl) (fun T xs wr hA => ?_) ?_
        rotate_left 1
        · have e54 := hA.tm 29 54 (by rfl) (by rfl)
          have f54 : xs 29 = _ := hA.fa 29 (by rfl)
          (try simp (disch := first | rfl | decide) only [Rel7.mask_in] at f54)
          rw [f54] at e54
          clear f54
          have e56 := hA.tm 31 56 (by rfl) (by rfl)
          have f56 : xs 31 = _ := hA.fa 31 (by rfl)
          (try simp (disch := first | rfl | decide) only [Rel7.mask_in] at f56)
          rw [f56] at e56
          clear f56
          clear hA
          refine ⟨((Rely.wanted_at rfl (by rfl) e54).trans (by rfl)), ?_⟩
          go_simp <;> (try with_reducible rfl)
        refine Rel7.Chain.det ?_ (by rfl) (fun T xs wr hA => ?_) ?_
        rotate_left 1
        · have e57 := hA.tm 32 57 (by rfl) (by rfl)
          have f57 : xs 32 = _ := hA.fa 32 (by rfl)
          (try simp (disch := first | rfl | decide) only [Rel7.mask_in] at f57)
          rw [f57] at e57
          clear f57
          have e10 := hA.pre 10 (by kernel_rfl)
          simp only [List.getElem?_toArray, List.getElem?_cons_succ, List.getElem?_cons_zero] at e10
          clear hA
          refine ⟨((Rely.wanted_at rfl (by rfl) e57).trans (by rfl)), ?_⟩
          go_simp <;> (try with_reducible rfl)
        refine Rel7.Chain.det ?_ (by rfl) (fun T xs wr hA => ?_) ?_
        rotate_left 1
        · have e57 := hA.tm 32 57 (by rfl) (by rfl)
          have f57 : xs 32 = _ := hA.fa 32 (by rfl)
          (try simp (disch := first | rfl | decide) only [Rel7.mask_in] at f57)
          rw [f57] at e57
          clear f57
          have e58 := hA.tm 33 58 (by rfl) (by rfl)
          have f58 : xs 33 = _ := hA.fa 33 (by rfl)
          (try simp (disch := first | rfl | decide) only [Rel7.mask_in] at f58)
          rw [f58] at e58
          clear f58
          have hBq : wr.heap[kq]? = _ := (hA.bl _ hlt_q (fun q h => absurd h (Nat.not_lt_zero _))).trans HBq.out
          have q0 := cell_at (v := .int .i64 2) hBq 0 rfl
          have q1 := cell_at (v := .bool false) hBq 1 rfl
          have q2 := cell_at (v := .slice none 0 0) hBq 2 rfl
          have q3 := cell_at (v := .bool false) hBq 3 rfl
          have q4 := cell_at (v := .slice vo 0 vc) hBq 4 rfl
          clear hBq
          clear hA
          refine ⟨((Rely.wanted_at rfl (by rfl) e57).trans (by rfl)), ?_⟩
          go_simp <;> (try with_reducible rfl)
        refine Rel7.Chain.det ?_ (by rfl) (fun T xs wr hA => ?_) ?_
        rotate_left 1
        · have e57 := hA.tm 32 57 (by rfl) (by rfl)
          have f57 : xs 32 = _ := hA.fa 32 (by rfl)
          (try simp (disch := first | rfl | decide) only [Rel7.mask_in] at f57)
          rw [f57] at e57
          clear f57
          have e59 := hA.tm 34 59 (by rfl) (by rfl)
          have f59 : xs 34 = _ := hA.fa 34 (by rfl)
          (try simp (disch := first | rfl | decide) only [Rel7.mask_in] at f59)
          rw [f59] at e59
          clear f59
          clear hA
          refine ⟨((Rely.wanted_at rfl (by rfl) e57).trans (by rfl)), ?_⟩
          go_simp <;> (try with_reducible rfl)
        refine Rel7.Chain.det ?_ (by rfl) (fun T xs wr hA => ?_) ?_
        rotate_left 1
        · have e57 := hA.tm 32 57 (by rfl) (by rfl)
          have f57 : xs 32 = _ := hA.fa 32 (by rfl)
          (try simp (disch := first | rfl | decide) only [Rel7.mask_in] at f57)
          rw [f57] at e57
          clear f57
          have e60 := hA.tm 35 60 (by rfl) (by rfl)
          have f60 : xs 35 = _ := hA.fa 35 (by rfl)
          (try simp (disch := first | rfl | decide) only [Rel7.mask_in] at f60)
          rw [f60] at e60
          clear f60
          clear hA
          refine ⟨((Rely.wanted_at rfl (by rfl) e57).trans (by rfl)), ?_⟩
          go_simp <;> (try with_reducible rfl)
        refine Rel7.Chain.det ?_ (by rfl) (fun T xs wr hA => ?_) ?_
        rotate_left 1
        · have e54 := hA.tm 29 54 (by rfl) (by rfl)
          have f54 : xs 29 = _ := hA.fa 29 (by rfl)
          (try simp (disch := first | rfl | decide) only [Rel7.mask_in] at f54)
          rw [f54] at e54
          clear f54
          have e57 := hA.tm 32 57 (by rfl) (by rfl)
          have f57 : xs 32 = _ := hA.fa 32 (by rfl)
          (try simp (disch := first | rfl | decide) only [Rel7.mask_in] at f57)
          rw [f57] at e57
          clear f57
          have e61 := hA.tm 36 61 (by rfl) (by rfl)
          have f61 : xs 36 = _ := hA.fa 36 (by rfl)
          (try simp (disch := first | rfl | decide) only [Rel7.mask_in] at f61)
          rw [f61] at e61
          clear f61
          clear hA
          refine ⟨((Rely.wanted_at rfl (by rfl) e54).trans (by rfl)), ?_⟩
          go_simp <;> (try with_reducible rfl)
        refine Rel7.Chain.det ?_ (by rfl) (fun T xs wr hA => ?_) ?_
        rotate_left 1
        · have e51 := hA.tm 26 51 (by rfl) (by rfl)
          have f51 : xs 26 = _ := hA.fa 26 (by rfl)
          (try simp (disch := first | rfl | decide) only [Rel7.mask_in] at f51)
          rw [f51] at e51
          clear f51
          have e54 := hA.tm 29 54 (by rfl) (by rfl)
          have f54 : xs 29 = _ := hA.fa 29 (by rfl)
          (try simp (disch := first | rfl | decide) only [Rel7.mask_in] at f54)
          rw [f54] at e54
          clear f54
          have e62 := hA.tm 37 62 (by rfl) (by rfl)
          have f62 : xs 37 = _ := hA.fa 37 (by rfl)
          (try simp (disch := first | rfl | decide) only [Rel7.mask_in] at f62)
          rw [f62] at e62
          clear f62
          clear hA
          refine ⟨((Rely.wanted_at rfl (by rfl) e51).trans (by rfl)), ?_⟩
          go_simp <;> (try with_reducible rfl)
        refine Rel7.Chain.det ?_ (by rfl) (fun T xs wr hA => ?_) ?_
        rotate_left 1
        · have e51 := hA.tm 26 51 (by rfl) (by rfl)
          have f51 : xs 26 = _ := hA.fa 26 (by rfl)
          (try simp (disch := first | rfl | decide) only [Rel7.mask_in] at f51)
          rw [f51] at e51
          clear f51
          have e63 := hA.tm 38 63 (by rfl) (by rfl)
          have f63 : xs 38 = _ := hA.fa 38 (by rfl)
          (try simp (disch := first | rfl | decide) only [Rel7.mask_in] at f63)
          rw [f63] at e63
          clear f63
          clear hA
          refine ⟨(by rfl), ?_⟩
          go_simp <;> (try with_reducible rfl)
        refine Rel7.Chain.done (fun xs x7 hL => ?_)
        obtain ⟨⟨hbe, hbl⟩, hf, -, -⟩ := hL
        have f0 : xs 0 = _ := hf 0 (by decide)
        (try simp (disch := first | rfl | decide) only [Rel7.mask_in] at f0)
        have f1 : xs 1 = (.bool true) := hf 1 (by decide)
        have f2 : xs 2 = _ := hf 2 (by decide)
        (try simp (disch := first | rfl | decide) only [Rel7.mask_in] at f2)
        have f3 : xs 3 = _ := hf 3 (by decide)
        (try simp (disch := first | rfl | decide) only [Rel7.mask_in] at f3)
        have f4 : xs 4 = _ := hf 4 (by decide)
        (try simp (disch := first | rfl | decide) only [Rel7.mask_in] at f4)
        have f5 : xs 5 = (.int .i64 2) := hf 5 (by decide)
        have f6 : xs 6 = _ := hf 6 (by decide)
        (try simp (disch := first | rfl | decide) only [Rel7.mask_in] at f6)
        have f7 : xs 7 = _ := hf 7 (by decide)
        (try simp (disch := first | rfl | decide) only [Rel7.mask_in] at f7)
        have f8 : xs 8 = _ := hf 8 (by decide)
        (try simp (disch := first | rfl | decide) only [Rel7.mask_in] at f8)
        have f9 : xs 9 = _ := hf 9 (by decide)
        (try simp (disch := first | rfl | decide) only [Rel7.mask_in] at f9)
        have f10 : xs 10 = _ := hf 10 (by decide)
        (try simp (disch := first | rfl | decide) only [Rel7.mask_in] at f10)
        have f11 : xs 11 = _ := hf 11 (by decide)
        (try simp (disch := first | rfl | decide) only [Rel7.mask_in] at f11)
        have f12 : xs 12 = _ := hf 12 (by decide)
        (try simp (disch := first | rfl | decide) only [Rel7.mask_in] at f12)
        have f13 : xs 13 = _ := hf 13 (by decide)
        (try simp (disch := first | rfl | decide) only [Rel7.mask_in] at f13)
        have f14 : xs 14 = _ := hf 14 (by decide)
        (try simp (disch := first | rfl | decide) only [Rel7.mask_in] at f14)
        have f15 : xs 15 = _ := hf 15 (by decide)
        (try simp (disch := first | rfl | decide) only [Rel7.mask_in] at f15)
        have f16 : xs 16 = _ := hf 16 (by decide)
        (try simp (disch := first | rfl | decide) only [Rel7.mask_in] at f16)
        have f17 : xs 17 = _ := hf 17 (by decide)
        (try simp (disch := first | rfl | decide) only [Rel7.mask_in] at f17)
        have f18 : xs 18 = _ := hf 18 (by decide)
        (try simp (disch := first | rfl | decide) only [Rel7.mask_in] at f18)
        have f19 : xs 19 = (undef) := hf 19 (by decide)
        have f20 : xs 20 = (undef) := hf 20 (by decide)
        have f21 : xs 21 = (undef) := hf 21 (by decide)
        have f22 : xs 22 = (undef) := hf 22 (by decide)
        have f23 : xs 23 = (undef) := hf 23 (by decide)
        have f24 : xs 24 = _ := hf 24 (by decide)
        (try simp (disch := first | rfl | decide) only [Rel7.mask_in] at f24)
        have f25 : xs 25 = _ := hf 25 (by decide)
        (try simp (disch := first | rfl | decide) only [Rel7.mask_in] at f25)
        have f26 : xs 26 = _ := hf 26 (by decide)
        (try simp (disch := first | rfl | decide) only [Rel7.mask_in] at f26)
        have f27 : xs 27 = _ := hf 27 (by decide)
        (try simp (disch := first | rfl | decide) only [Rel7.mask_in] at f27)
        have f28 : xs 28 = _ := hf 28 (by decide)
        (try simp (disch := first | rfl | decide) only [Rel7.mask_in] at f28)
        have f29 : xs 29 = _ := hf 29 (by decide)
        (try simp (disch := first | rfl | decide) only [Rel7.mask_in] at f29)
        have f30 : xs 30 = _ := hf 30 (by decide)
        (try simp (disch := first | rfl | decide) only [Rel7.mask_in] at f30)
        have f31 : xs 31 = _ := hf 31 (by decide)
        (try simp (disch := first | rfl | decide) only [Rel7.mask_in] at f31)
        have f32 : xs 32 = _ := hf 32 (by decide)
        (try simp (disch := first | rfl | decide) only [Rel7.mask_in] at f32)
        have f33 : xs 33 = _ := hf 33 (by decide)
        (try simp (disch := first | rfl | decide) only [Rel7.mask_in] at f33)
        have f34 : xs 34 = _ := hf 34 (by decide)
        (try simp (disch := first | rfl | decide) only [Rel7.mask_in] at f34)
        have f35 : xs 35 = _ := hf 35 (by decide)
        (try simp (disch := first | rfl | decide) only [Rel7.mask_in] at f35)
        have f36 : xs 36 = _ := hf 36 (by decide)
        (try simp (disch := first | rfl | decide) only [Rel7.mask_in] at f36)
        have f37 : xs 37 = _ := hf 37 (by decide)
        (try simp (disch := first | rfl | decide) only [Rel7.mask_in] at f37)
        have f38 : xs 38 = _ := hf 38 (by decide)
        (try simp (disch := first | rfl | decide) only [Rel7.mask_in] at f38)
        have f39 : xs 39 = _ := hf 39 (by decide)
        (try simp (disch := first | rfl | decide) only [Rel7.mask_in] at f39)
        have hb0 : Below 0 x6 x7 := undrew (hbe 0 (Nat.zero_le _) (fun _ _ => Nat.zero_le _))
        have hgr : ∀ j, j < x6.heap.size → (∀ q, q < 0 → (fun q => 0) q ≠ j) → x7.heap[j]? = x6.heap[j]? := hbl
        clear hbe hbl hf
        have hb : Below x6.heap.size x6 x7 := ⟨hb0.os, hb0.tape, hb0.output, hb0.size, fun q hq => hgr q hq (fun q h => absurd h (Nat.not_lt_zero _))⟩
        refine Rel7.rest_done ?_
        simp only [Rel7.fill, List.setIfInBounds_toArray, List.set_cons_zero, List.set_cons_succ, f0, f1, f2, f3, f4, f5, f6, f7, f8, f9, f10, f11, f12, f13, f14, f15, f16, f17, f18, f19, f20, f21, f22, f23, f24, f25, f26, f27, f28, f29, f30, f31, f32, f33, f34, f35, f36, f37, f38, f39]
        clear hb0 hgr hog hlt_f hlt_q f0 f1 f2 f3 f4 f5 f6 f7 f8 f9 f10 f11 f12 f13 f14 f15 f16 f17 f18 f19 f20 f21 f22 f23 f24 f25 f26 f27 f28 f29 f30 f31 f32 f33 f34 f35 f36 f37 f38 f39
        replace HBf := kBV hb HBf
        replace HBq := kBV hb HBq
        replace HW := Lib.hid (HW.out.trans (hb.mono HW.out.size))
        replace HB := Lib.hid (HB.out.trans (hb.mono HB.out.size))
        replace HEL := Lib.hid (HEL.out.below hb)
        replace HF := Lib.hid (HF.out.below hb)
        replace HV := Lib.hid (HV.out.below hb)
        replace hb := Lib.hid hb
        go_wp2_with fail
        refine (var_p nm 2 x7).mono ?_
        rintro e x8 ⟨rfl, hb⟩
        replace HBf := kBV hb HBf
        replace HBq := kBV hb HBq
        replace HW := Lib.hid (HW.out.trans (hb.mono HW.out.size))
        replace HB := Lib.hid (HB.out.trans (hb.mono HB.out.size))
        replace HEL := Lib.hid (HEL.out.below hb)
        replace HF := Lib.hid (HF.out.below hb)
        replace HV := Lib.hid (HV.out.below hb)
        rw [show opVar 2 = 8 from rfl]
        go_wp2_with fail
        refine (eval_p 1 _ _ [] (.node 8 0 nm []) tS x8 (FC.mk (d := 0) (by unfold IR; decide) (nr0 _) (FL.nil _ _ _)) (EL.nil _) rfl (smVar _ _ _ (by rw [evVar2, rho_nil]; exact ⟨Nat.zero_le _, fun z h => by cases h⟩))).mono ?_
        rintro e x9 ⟨v, rfl, hv, hb⟩
        replace HBf := kBV hb HBf
        replace HBq := kBV hb HBq
        replace HW := Lib.hid (HW.out.trans (hb.mono HW.out.size))
        replace HB := Lib.hid (HB.out.trans (hb.mono HB.out.size))
        replace HEL := Lib.hid (HEL.out.below hb)
        replace HF := Lib.hid (HF.out.below hb)
        replace HV := Lib.hid (HV.out.below hb)
        rw [evVar2, rho_nil, show asL (V.I 0) = [] from rfl] at hv
        obtain ⟨uo, ul, uc, rfl, hnl⟩ := hv.list
        have hvl : ul = 0 := by obtain ⟨_, _, e, _⟩ := hnl.form; injection e
        subst hvl
        clear hnl
        have HC : Hid (CI x9 (.agg #[.bool false, .slice none 0 0]) 0 600) := Lib.hid (nr0 _)
        clear hv
        go_wp2_with fail
        obtain ⟨x10, ku, eu, eku, hbu, hku, HBu⟩ := newV x9 #[.int .i64 2, .bool false, .slice none 0 0, .bool false, .slice uo 0 uc] 41
        replace HBf := kBV hbu.out HBf
        replace HBq := kBV hbu.out HBq
        replace HW := Lib.hid (HW.out.trans (hbu.out.mono HW.out.size))
        replace HB := Lib.hid (HB.out.trans (hbu.out.mono HB.out.size))
        replace HEL := Lib.hid (HEL.out.below hbu.out)
        replace HF := Lib.hid (HF.out.below hbu.out)
        replace HV := Lib.hid (HV.out.below hbu.out)
        replace HC := Lib.hid (HC.out.below hbu.out)
        rw [eu, eku]
        refine (wsign_any _ 0 600 x10 HC.out.gi (by decide)).mono ?_
        rintro e x11 ⟨rfl, hb⟩
        replace HBf := kBV hb HBf
        replace HBq := kBV hb HBq
        replace HBu := kBV hb HBu
        replace HW := Lib.hid (HW.out.trans (hb.mono HW.out.size))
        replace HB := Lib.hid (HB.out.trans (hb.mono HB.out.size))
        replace HEL := Lib.hid (HEL.out.below hb)
        replace HF := Lib.hid (HF.out.below hb)
        replace HV := Lib.hid (HV.out.below hb)
        replace HC := Lib.hid (HC.out.below hb)
        rw [show sgnZ 0 = 0 from rfl]
        go_wp2_with fail
        go_roundw
        case rel => exact ⟨3, rfl, by decide, HB⟩
        case measure => simp [intOf]
    · have hj3 : j = 3 := by omega
      subst hj3
      have hn1 := HN1.out
      have hn2 := HN2.out
      go_wp2_with fail
      refine (int_p n wl HN1.out HN2.out).mono ?_
      rintro e x3 ⟨ib, io, il, ic, rfl, hci, hb⟩
      replace HW := Lib.hid (HW.out.trans (hb.mono HW.out.size))
      replace HB := Lib.hid (HB.out.trans (hb.mono HB.out.size))
      replace HEL := Lib.hid (HEL.out.below hb)
      have HC := Lib.hid hci
      clear hci
      go_wp2_with fail
      refine (eval_p 1 _ _ [] (.node 0 n ⟨#[]⟩ []) tS x3 (FC.mk (d := 0) (by unfold IR; decide) HC.out (FL.nil _ _ _)) (EL.nil _) rfl (by rw [Sm]; exact ⟨pow26 HN1.out HN2.out, trivial⟩)).mono ?_
      rintro e x4 ⟨v, rfl, hv, hb⟩
      replace HW := Lib.hid (HW.out.trans (hb.mono HW.out.size))
      replace HB := Lib.hid (HB.out.trans (hb.mono HB.out.size))
      replace HEL := Lib.hid (HEL.out.below hb)
      replace HC := Lib.hid (HC.out.below hb)
      rw [show ev (rho []) (.node 0 n ⟨#[]⟩ []) = .I n from rfl] at hv
      obtain ⟨uo, ul, uc, rfl, hci⟩ := hv.int
      have HD := Lib.hid hci
      clear hci hv HC
      go_wp2_with fail
      refine (wof_any n x4 HN1.out HN2.out).mono ?_
      rintro e x5 ⟨x, rfl, hx, hb⟩
      replace HW := Lib.hid (HW.out.trans (hb.mono HW.out.size))
      replace HB := Lib.hid (HB.out.trans (hb.mono HB.out.size))
      replace HEL := Lib.hid (HEL.out.below hb)
      replace HD := Lib.hid (HD.out.below hb)
      have HXX := Lib.hid hx
      clear hx
      obtain ⟨xb, xo, xl, xc, rfl⟩ := HXX.out.shape
      go_wp2_with fail
      refine (wcmp_any _ _ n n 600 2 x5 HD.out.gi HXX.out.gi (by decide) (by decide)).mono ?_
      rintro e x6 ⟨rfl, hb⟩
      replace HW := Lib.hid (HW.out.trans (hb.mono HW.out.size))
      replace HB := Lib.hid (HB.out.trans (hb.mono HB.out.size))
      replace HEL := Lib.hid (HEL.out.below hb)
      replace HD := Lib.hid (HD.out.below hb)
      rw [show sgnZ (n - n) = 0 by rw [Int.sub_self]; rfl]
      go_wp2_with fail
      refine (int_p n x6 HN1.out HN2.out).mono ?_
      rintro e x7 ⟨yb, yo, yl, yc, rfl, -, hb⟩
      replace HW := Lib.hid (HW.out.trans (hb.mono HW.out.size))
      replace HB := Lib.hid (HB.out.trans (hb.mono HB.out.size))
      replace HEL := Lib.hid (HEL.out.below hb)
      replace HD := Lib.hid (HD.out.below hb)
      go_wp2_with fail
      refine (sort_p _ _ _ _ _ _ _ _ _ x7).mono ?_
      rintro e x8 ⟨rfl, hb⟩
      replace HW := Lib.hid (HW.out.trans (hb.mono HW.out.size))
      replace HB := Lib.hid (HB.out.trans (hb.mono HB.out.size))
      replace HEL := Lib.hid (HEL.out.below hb)
      replace HD := Lib.hid (HD.out.below hb)
      rw [show srt 0 = 0 from rfl]
      go_wp2_with fail
      go_ret
      exact ⟨rfl, HW.out⟩
end Go.Proofs.Ytinfbmnimkcdjaa
