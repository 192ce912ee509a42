/-
  The law ValueSames: its walk.
-/
import Derived.Test.YtocadojeanhalaaDoorVlS
namespace Go.Proofs.YtocadojeanhalaaDoor
open Go.RowKit
set_option maxRecDepth 100000
set_option linter.unusedVariables false
set_option linter.unusedSimpArgs false

theorem two_atV {w : World} {g : Nat} {u v : VU} {k1 : Int} {b1 d1 : Bool} {o1 p1 : Option Addr} {l1 c1 m1 q1 : Nat} {k2 : Int} {b2 d2 : Bool} {o2 p2 : Option Addr} {l2 c2 m2 q2 : Nat} (hB : w.heap[g]? = some (.cells #[.int .i64 k1, .bool b1, .slice o1 l1 c1, .bool d1, .slice p1 m1 q1, .int .i64 k2, .bool b2, .slice o2 l2 c2, .bool d2, .slice p2 m2 q2] 30 (0, 0))) (hu : vC u = [.int .i64 k1, .bool b1, .slice o1 l1 c1, .bool d1, .slice p1 m1 q1]) (hv : vC v = [.int .i64 k2, .bool b2, .slice o2 l2 c2, .bool d2, .slice p2 m2 q2]) (hR : VR w u) (hS : VR w v) : vE.At w (.slice (some ⟨g, 0, none⟩) 2 2) [u, v] :=
  El.At.block (E := vE) (el := [u, v]) (by show _ = some (Obj.cells (([u, v] : List VU).flatMap vC).toArray _ _); rw [List.flatMap_cons, List.flatMap_cons, hu, hv]; exact hB) (by simp [maxLen]) (fun a ha => by
    rcases List.mem_cons.1 ha with rfl | ha
    · exact hR
    · rw [List.mem_singleton] at ha; subst ha; exact hS)
theorem vc_of {w : World} {u : VU} {v : Value} (h : vV u = v) (hR : VR w u) : VC w v u.x := ⟨u, h.symm, rfl, hR⟩
theorem base_eq {w : World} {u v : VU} (h1 : VR w u) (h2 : VR w v) (h : u.x = v.x) : u.k = v.k := by
  unfold VR at h1 h2
  rw [h] at h1
  split at h2 <;> rename_i e <;> rw [e] at h1 <;> exact h1.1.trans h2.1.symm
theorem kv {u : VU} {k : Int} {b d : Bool} {o p : Option Addr} {l c m q : Nat} (h : vC u = [.int .i64 k, .bool b, .slice o l c, .bool d, .slice p m q]) : u.k = k := by
  simp only [vC, List.cons.injEq, Value.int.injEq, true_and] at h; exact h.1
theorem pair_swap (x y : V) : ([x, y] = [y, x]) ↔ x = y := by
  constructor
  · intro h; injection h
  · rintro rfl; rfl
def LoopB (we : World) (n : Nat) (iv : Value) (wr : World) : Prop := ∃ j : Nat, iv = .int .i64 (j : Nat) ∧ j ≤ n ∧ Hid (Below we.heap.size we wr)
set_option maxHeartbeats 40000000 in
theorem sames_walk (ko : Option Addr) (n0 kc0 : Nat) (we : World) (hx : RVals we ko n0 kc0) (htab : Lib.TabIs Tryd.prog we "internal/strconv.uint64pow10" .u64 Lib.pow10Tab) :
    Calls Tryd.prog 5 #[.slice ko n0 kc0] we fun e w' => e = .returned (.bool true) ∧ Below we.heap.size we w' := by
  have HX := Lib.hid hx
  have HTB := Lib.hid htab
  clear hx htab
  go_enter Tryd.func5, Tryd.ntmps5
  go_wp2_with fail
  refine (fitV we HTB.out).mono ?_
  rintro e w0 ⟨rfl, hb⟩
  have HW := Lib.hid hb
  clear hb
  go_wp2_with fail
  refine (tame_p ko n0 kc0 w0 (HX.out.below HW.out)).mono ?_
  rintro e w1 ⟨v, rs, rfl, hv, hl5, -, hb⟩
  replace HW := Lib.hid (HW.out.trans (hb.mono HW.out.size))
  obtain ⟨lo, lc, rfl, ⟨hq1, hq2⟩, -⟩ := hv.form
  have HL := Lib.hid hv
  obtain ⟨n, hn⟩ : ∃ n, n = rs.length := ⟨_, rfl⟩
  rw [← hn] at HL hq1 hl5 ⊢
  have hmx : lc ≤ 9223372036854775807 := hq2
  have HN := Lib.hid hn
  clear hb hv hn
  go_wp2_with fail
  go_loopw [15] (LoopB w1 n) (fun i _ => n - (intOf i).toNat)
  case atStart => exact ⟨0, rfl, Nat.zero_le _, Lib.hid (Below.refl _ _)⟩
  case round =>
    obtain ⟨i, rfl, hi, HI⟩ := hrel
    by_cases hlt : i < n
    · obtain ⟨wa, rfl⟩ : ∃ q, q = wr := ⟨_, rfl⟩
      have hza : i < rs.length := by rw [← HN.out]; exact hlt
      obtain ⟨aa, au, ak, ab, ao, al, ac, ad, ap, am, aq, are, hne, ⟨c0, c1, c2, c3, c4⟩, -, hnr, hnv⟩ := (HL.out.below HI.out).unitAt hza
      subst are
      have HAE := Lib.hid hne
      have HAR := Lib.hid hnr
      have HAC : Hid (VC wa (.agg #[.int .i64 ak, .bool ab, .slice ao al ac, .bool ad, .slice ap am aq]) au.x) := Lib.hid (vc_of hnv hnr)
      clear hne hnr hnv
      obtain ⟨x11, k4, e4, ek4, hb4, hk4, HB4⟩ := newV wa #[.int .i64 ak, .bool ab, .slice ao al ac, .bool ad, .slice ap am aq] 30
      replace HI := Lib.hid (HI.out.trans (hb4.out.mono HI.out.size))
      replace HAR := Lib.hid (VR.below HAR.out hb4.out)
      replace HAC := Lib.hid (VC.below HAC.out hb4.out)
      go_wp2_with fail
      clear c0 c1 c2 c3 c4
      go_loopw [21] (LoopB x11 n) (fun i _ => n - (intOf i).toNat)
      case atStart => exact ⟨0, rfl, Nat.zero_le _, Lib.hid (Below.refl _ _)⟩
      case round =>
        obtain ⟨j, rfl, hj, HJ⟩ := hrel
        by_cases hlt2 : j < n
        · obtain ⟨wb, rfl⟩ : ∃ q, q = wr := ⟨_, rfl⟩
          have HB4 := kBV HJ.out HB4
          have HI := Lib.hid (HI.out.trans (HJ.out.mono HI.out.size))
          have HAR := Lib.hid (VR.below HAR.out HJ.out)
          have HAC := Lib.hid (VC.below HAC.out HJ.out)
          have hzb : j < rs.length := by rw [← HN.out]; exact hlt2
          obtain ⟨ba, bu, bk, bb, bo, bl, bc, bd, bp, bm, bq, bre, hne, ⟨c0, c1, c2, c3, c4⟩, -, hnr, hnv⟩ := (HL.out.below HI.out).unitAt hzb
          injection bre with bre
          subst bre
          have HBE := Lib.hid hne
          have HBR := Lib.hid hnr
          have HBC : Hid (VC wb (.agg #[.int .i64 bk, .bool bb, .slice bo bl bc, .bool bd, .slice bp bm bq]) bu.x) := Lib.hid (vc_of hnv hnr)
          clear hne hnr hnv
          obtain ⟨x21, k6, e6, ek6, hb6, hk6, HB6⟩ := newV wb #[.int .i64 bk, .bool bb, .slice bo bl bc, .bool bd, .slice bp bm bq] 30
          replace HB4 := kBV hb6.out HB4
          replace HI := Lib.hid (HI.out.trans (hb6.out.mono HI.out.size))
          replace HAR := Lib.hid (VR.below HAR.out hb6.out)
          replace HAC := Lib.hid (VC.below HAC.out hb6.out)
          replace HJ := Lib.hid (HJ.out.trans (hb6.out.mono HJ.out.size))
          replace HBR := Lib.hid (VR.below HBR.out hb6.out)
          replace HBC := Lib.hid (VC.below HBC.out hb6.out)
          have hdaa : decide (au.x = au.x) = true := decide_eq_true rfl
          skip
          by_cases hab : au.x = bu.x
          · have hdab : decide (au.x = bu.x) = true := decide_eq_true hab
            have hdba : decide (bu.x = au.x) = true := decide_eq_true hab.symm
            have hkk : ak = bk := by rw [← kv HAE.out, ← kv HBE.out]; exact base_eq HAR.out HBR.out hab
            have hk1 : (ak != bk) = false := by rw [hkk]; exact bne_self_eq_false _
            have HEQ := Lib.hid hab
            clear hab hkk
            skip
            go_upto_region 10 with fail
            have hlt_4 := lt_of_block HB4.out
            have hlt_6 := lt_of_block HB6.out
            have hog : Hid (∀ q, q < 0 → (fun q => 0) q < x21.heap.size) := Lib.hid (fun q h => absurd h (Nat.not_lt_zero _))
            refine Rel7.region (by kernel_rfl) [[], [], [0, 1], [], [], [0, 1, 2, 3, 4], [0, 1, 2, 3, 4, 5], [0, 1, 2, 3, 4, 5, 6], [0, 1, 2, 3, 4, 5, 6, 7], [0, 1, 2, 3, 4, 5, 6, 7], [0, 1, 2, 3, 4, 5, 6, 7, 8, 9], [0, 1, 2, 3, 4, 5, 6, 7, 8, 9, 10], [0, 1, 2, 3, 4, 5, 6, 7, 8, 9, 10, 11], [0, 1, 2, 3, 4, 5, 6, 7, 8, 9, 10, 11, 12], [0, 1, 2, 3, 4, 5, 6, 7, 8, 9, 10, 11, 12, 13], [0, 1, 2, 3, 4, 5, 6, 7, 8, 9, 10, 11, 12, 13, 14], [0, 1, 2, 3, 4, 5, 6, 7, 8, 9, 10, 11, 12, 13], [0, 1, 2, 3, 4, 5, 6, 7, 8, 9, 10, 11, 12, 13, 16], [0, 1, 2, 3, 4, 5, 6, 7, 8, 9, 10, 11, 12, 13, 14, 15, 16, 17], [0, 1, 2, 3, 4, 5, 6, 7, 8, 9, 10, 11, 12, 13, 14, 15, 16, 17, 18], [0, 1, 2, 3, 4, 5, 6, 7, 8, 9, 10, 11, 12, 13, 14, 15, 16, 17, 18, 19], [0, 1, 2, 3, 4, 5, 6, 7, 8, 9, 10, 11, 12, 13, 14, 15, 16, 17, 18, 19], [0, 1, 2, 3, 4, 5, 6, 7, 8, 9, 10, 11, 12, 13, 14, 15, 16, 17, 18, 19, 20, 21], [0, 1, 2, 3, 4, 5, 6, 7, 8, 9, 10, 11, 12, 13, 14, 15, 16, 17, 18, 19, 20, 21, 22], [0, 1, 2, 3, 4, 5, 6, 7, 8, 9, 10, 11, 12, 13, 14, 15, 16, 17, 18, 19, 20, 21, 22, 23]] [] [] (fun q => 0) 0 25 (by kernel_rfl) (by kernel_rfl) (by rfl) hog.out (fun q q' h h' hn => absurd hn (by omega)) ?_
            refine Rel7.Chain.det ?_ (by rfl) (fun T xs wr hA => ?_) ?_
            rotate_left 1
            · have e4 := hA.pre 4 (by kernel_rfl)
              simp only [List.getElem?_toArray, List.getElem?_cons_succ, List.getElem?_cons_zero] at e4
              have hBq : wr.heap[k4]? = _ := (hA.bl _ hlt_4 (fun q h => absurd h (Nat.not_lt_zero _))).trans HB4.out
              have q0 := cell_at (v := .int .i64 ak) hBq 0 rfl
              have q1 := cell_at (v := .bool ab) hBq 1 rfl
              have q2 := cell_at (v := .slice ao al ac) hBq 2 rfl
              have q3 := cell_at (v := .bool ad) hBq 3 rfl
              have q4 := cell_at (v := .slice ap am aq) hBq 4 rfl
              clear hBq
              clear hA
              refine ⟨(by rfl), ?_⟩
              go_simp <;> (try with_reducible rfl)
            refine Rel7.Chain.det ?_ (by rfl) (fun T xs wr hA => ?_) ?_
            rotate_left 1
            · have e6 := hA.pre 6 (by kernel_rfl)
              simp only [List.getElem?_toArray, List.getElem?_cons_succ, List.getElem?_cons_zero] at e6
              have hBq : wr.heap[k6]? = _ := (hA.bl _ hlt_6 (fun q h => absurd h (Nat.not_lt_zero _))).trans HB6.out
              have q0 := cell_at (v := .int .i64 bk) hBq 0 rfl
              have q1 := cell_at (v := .bool bb) hBq 1 rfl
              have q2 := cell_at (v := .slice bo bl bc) hBq 2 rfl
              have q3 := cell_at (v := .bool bd) hBq 3 rfl
              have q4 := cell_at (v := .slice bp bm bq) hBq 4 rfl
              clear hBq
              clear hA
              refine ⟨(by rfl), ?_⟩
              go_simp <;> (try with_reducible rfl)
            refine Rel7.Chain.call (fun xs v w => v = .bool true) (fun _ _ _ _ h _ => h) (fun _ _ _ _ _ h _ _ => h) (by rfl) (fun T xs wr hA => ?_) ?_
            · have hsw := (hA.be 0 (Nat.zero_le _) (fun _ _ => Nat.zero_le _)).size
              have e25 := hA.tm 0 25 (by rfl) (by rfl)
              have f25 : xs 0 = _ := hA.fa 0 (by rfl)
              (try simp (disch := first | rfl | decide) only [Rel7.mask_in] at f25)
              rw [f25] at e25
              clear f25
              have e26 := hA.tm 1 26 (by rfl) (by rfl)
              have f26 : xs 1 = _ := hA.fa 1 (by rfl)
              (try simp (disch := first | rfl | decide) only [Rel7.mask_in] at f26)
              rw [f26] at e26
              clear f26
              have hbw := undrew (hA.be x21.heap.size (Nat.le_refl _) (fun q h => absurd h (Nat.not_lt_zero q)))
              clear hA
              refine ⟨(by rfl), fun K hK => ?_⟩
              go_simp
              refine (same_p _ _ au.x bu.x wr (VC.below HAC.out hbw) (VC.below HBC.out hbw)).mono ?_
              rintro e w' ⟨rfl, hb'⟩
              exact hK.out _ _ (by rw [hdab]) hb'
            refine Rel7.Chain.det ?_ (by rfl) (fun T xs wr hA => ?_) ?_
            rotate_left 1
            · have e6 := hA.pre 6 (by kernel_rfl)
              simp only [List.getElem?_toArray, List.getElem?_cons_succ, List.getElem?_cons_zero] at e6
              have hBq : wr.heap[k6]? = _ := (hA.bl _ hlt_6 (fun q h => absurd h (Nat.not_lt_zero _))).trans HB6.out
              have q0 := cell_at (v := .int .i64 bk) hBq 0 rfl
              have q1 := cell_at (v := .bool bb) hBq 1 rfl
              have q2 := cell_at (v := .slice bo bl bc) hBq 2 rfl
              have q3 := cell_at (v := .bool bd) hBq 3 rfl
              have q4 := cell_at (v := .slice bp bm bq) hBq 4 rfl
              clear hBq
              clear hA
              refine ⟨(by rfl), ?_⟩
              go_simp <;> (try with_reducible rfl)
            refine Rel7.Chain.det ?_ (by rfl) (fun T xs wr hA => ?_) ?_
            rotate_left 1
            · have e4 := hA.pre 4 (by kernel_rfl)
              simp only [List.getElem?_toArray, List.getElem?_cons_succ, List.getElem?_cons_zero] at e4
              have hBq : wr.heap[k4]? = _ := (hA.bl _ hlt_4 (fun q h => absurd h (Nat.not_lt_zero _))).trans HB4.out
              have q0 := cell_at (v := .int .i64 ak) hBq 0 rfl
              have q1 := cell_at (v := .bool ab) hBq 1 rfl
              have q2 := cell_at (v := .slice ao al ac) hBq 2 rfl
              have q3 := cell_at (v := .bool ad) hBq 3 rfl
              have q4 := cell_at (v := .slice ap am aq) hBq 4 rfl
              clear hBq
              clear hA
              refine ⟨(by rfl), ?_⟩
              go_simp <;> (try with_reducible rfl)
            refine Rel7.Chain.call (fun xs v w => v = .bool true) (fun _ _ _ _ h _ => h) (fun _ _ _ _ _ h _ _ => h) (by rfl) (fun T xs wr hA => ?_) ?_
            · have hsw := (hA.be 0 (Nat.zero_le _) (fun _ _ => Nat.zero_le _)).size
              have e28 := hA.tm 3 28 (by rfl) (by rfl)
              have f28 : xs 3 = _ := hA.fa 3 (by rfl)
              (try simp (disch := first | rfl | decide) only [Rel7.mask_in] at f28)
              rw [f28] at e28
              clear f28
              have e29 := hA.tm 4 29 (by rfl) (by rfl)
              have f29 : xs 4 = _ := hA.fa 4 (by rfl)
              (try simp (disch := first | rfl | decide) only [Rel7.mask_in] at f29)
              rw [f29] at e29
              clear f29
              have hbw := undrew (hA.be x21.heap.size (Nat.le_refl _) (fun q h => absurd h (Nat.not_lt_zero q)))
              clear hA
              refine ⟨(by rfl), fun K hK => ?_⟩
              go_simp
              refine (same_p _ _ bu.x au.x wr (VC.below HBC.out hbw) (VC.below HAC.out hbw)).mono ?_
              rintro e w' ⟨rfl, hb'⟩
              exact hK.out _ _ (by rw [hdba]) hb'
            refine Rel7.Chain.det ?_ (by rfl) (fun T xs wr hA => ?_) ?_
            rotate_left 1
            · have e27 := hA.tm 2 27 (by rfl) (by rfl)
              have f27 : xs 2 = (.bool true) := hA.fa 2 (by rfl)
              rw [f27] at e27
              clear f27
              have e30 := hA.tm 5 30 (by rfl) (by rfl)
              have f30 : xs 5 = (.bool true) := hA.fa 5 (by rfl)
              rw [f30] at e30
              clear f30
              clear hA
              refine ⟨(by rfl), ?_⟩
              go_simp <;> (try with_reducible rfl)
            refine Rel7.Chain.det ?_ (by rfl) (fun T xs wr hA => ?_) ?_
            rotate_left 1
            · have e31 := hA.tm 6 31 (by rfl) (by rfl)
              have f31 : xs 6 = _ := hA.fa 6 (by rfl)
              (try simp (disch := first | rfl | decide) only [Rel7.mask_in] at f31)
              rw [f31] at e31
              clear f31
              clear hA
              refine ⟨(by rfl), ?_⟩
              go_simp <;> (try with_reducible rfl)
            refine Rel7.Chain.det ?_ (by rfl) (fun T xs wr hA => ?_) ?_
            rotate_left 1
            · have e32 := hA.tm 7 32 (by rfl) (by rfl)
              have f32 : xs 7 = _ := hA.fa 7 (by rfl)
              (try simp (disch := first | rfl | decide) only [Rel7.mask_in] at f32)
              rw [f32] at e32
              clear f32
              have e4 := hA.pre 4 (by kernel_rfl)
              simp only [List.getElem?_toArray, List.getElem?_cons_succ, List.getElem?_cons_zero] at e4
              have hBq : wr.heap[k4]? = _ := (hA.bl _ hlt_4 (fun q h => absurd h (Nat.not_lt_zero _))).trans HB4.out
              have q0 := cell_at (v := .int .i64 ak) hBq 0 rfl
              have q1 := cell_at (v := .bool ab) hBq 1 rfl
              have q2 := cell_at (v := .slice ao al ac) hBq 2 rfl
              have q3 := cell_at (v := .bool ad) hBq 3 rfl
              have q4 := cell_at (v := .slice ap am aq) hBq 4 rfl
              clear hBq
              clear hA
              refine ⟨((Rely.wanted_at rfl (by rfl) e32).trans (by rfl)), ?_⟩
              go_simp <;> (try with_reducible rfl)
            refine Rel7.Chain.det ?_ (by rfl) (fun T xs wr hA => ?_) ?_
            rotate_left 1
            · have e32 := hA.tm 7 32 (by rfl) (by rfl)
              have f32 : xs 7 = _ := hA.fa 7 (by rfl)
              (try simp (disch := first | rfl | decide) only [Rel7.mask_in] at f32)
              rw [f32] at e32
              clear f32
              have e4 := hA.pre 4 (by kernel_rfl)
              simp only [List.getElem?_toArray, List.getElem?_cons_succ, List.getElem?_cons_zero] at e4
              have hBq : wr.heap[k4]? = _ := (hA.bl _ hlt_4 (fun q h => absurd h (Nat.not_lt_zero _))).trans HB4.out
              have q0 := cell_at (v := .int .i64 ak) hBq 0 rfl
              have q1 := cell_at (v := .bool ab) hBq 1 rfl
              have q2 := cell_at (v := .slice ao al ac) hBq 2 rfl
              have q3 := cell_at (v := .bool ad) hBq 3 rfl
              have q4 := cell_at (v := .slice ap am aq) hBq 4 rfl
              clear hBq
              clear hA
              refine ⟨((Rely.wanted_at rfl (by rfl) e32).trans (by rfl)), ?_⟩
              go_simp <;> (try with_reducible rfl)
            refine Rel7.Chain.call (fun xs v w => v = .bool true) (fun _ _ _ _ h _ => h) (fun _ _ _ _ _ h _ _ => h) (by rfl) (fun T xs wr hA => ?_) ?_
            · have e32 := hA.tm 7 32 (by rfl) (by rfl)
              have f32 : xs 7 = _ := hA.fa 7 (by rfl)
              (try simp (disch := first | rfl | decide) only [Rel7.mask_in] at f32)
              rw [f32] at e32
              clear f32
              have hsw := (hA.be 0 (Nat.zero_le _) (fun _ _ => Nat.zero_le _)).size
              have e33 := hA.tm 8 33 (by rfl) (by rfl)
              have f33 : xs 8 = _ := hA.fa 8 (by rfl)
              (try simp (disch := first | rfl | decide) only [Rel7.mask_in] at f33)
              rw [f33] at e33
              clear f33
              have e34 := hA.tm 9 34 (by rfl) (by rfl)
              have f34 : xs 9 = _ := hA.fa 9 (by rfl)
              (try simp (disch := first | rfl | decide) only [Rel7.mask_in] at f34)
              rw [f34] at e34
              clear f34
              have hbw := undrew (hA.be x21.heap.size (Nat.le_refl _) (fun q h => absurd h (Nat.not_lt_zero q)))
              clear hA
              refine ⟨((Rely.wanted_at rfl (by rfl) e32).trans (by rfl)), fun K hK => ?_⟩
              go_simp
              refine (same_p _ _ au.x au.x wr (VC.below HAC.out hbw) (VC.below HAC.out hbw)).mono ?_
              rintro e w' ⟨rfl, hb'⟩
              exact hK.out _ _ (by rw [hdaa]) hb'
            refine Rel7.Chain.det ?_ (by rfl) (fun T xs wr hA => ?_) ?_
            rotate_left 1
            · have e32 := hA.tm 7 32 (by rfl) (by rfl)
              have f32 : xs 7 = _ := hA.fa 7 (by rfl)
              (try simp (disch := first | rfl | decide) only [Rel7.mask_in] at f32)
              rw [f32] at e32
              clear f32
              have e35 := hA.tm 10 35 (by rfl) (by rfl)
              have f35 : xs 10 = (.bool true) := hA.fa 10 (by rfl)
              rw [f35] at e35
              clear f35
              clear hA
              refine ⟨((Rely.wanted_at rfl (by rfl) e32).trans (by rfl)), ?_⟩
              go_simp <;> (try with_reducible rfl)
            refine Rel7.Chain.det ?_ (by rfl) (fun T xs wr hA => ?_) ?_
            rotate_left 1
            · have e32 := hA.tm 7 32 (by rfl) (by rfl)
              have f32 : xs 7 = _ := hA.fa 7 (by rfl)
              (try simp (disch := first | rfl | decide) only [Rel7.mask_in] at f32)
              rw [f32] at e32
              clear f32
              have e36 := hA.tm 11 36 (by rfl) (by rfl)
              have f36 : xs 11 = _ := hA.fa 11 (by rfl)
              (try simp (disch := first | rfl | decide) only [Rel7.mask_in] at f36)
              rw [f36] at e36
              clear f36
              clear hA
              refine ⟨(by rfl), ?_⟩
              go_simp <;> (try with_reducible rfl)
            refine Rel7.Chain.det ?_ (by rfl) (fun T xs wr hA => ?_) ?_
            rotate_left 1
            · have e37 := hA.tm 12 37 (by rfl) (by rfl)
              have f37 : xs 12 = _ := hA.fa 12 (by rfl)
              (try simp (disch := first | rfl | decide) only [Rel7.mask_in] at f37)
              rw [f37] at e37
              clear f37
              clear hA
              refine ⟨(by rfl), ?_⟩
              go_simp <;> (try with_reducible rfl)
            refine Rel7.Chain.det ?_ (by rfl) (fun T xs wr hA => ?_) ?_
            rotate_left 1
            · have e38 := hA.tm 13 38 (by rfl) (by rfl)
              have f38 : xs 13 = _ := hA.fa 13 (by rfl)
              (try simp (disch := first | rfl | decide) only [Rel7.mask_in] at f38)
              rw [f38] at e38
              clear f38
              have e4 := hA.pre 4 (by kernel_rfl)
              simp only [List.getElem?_toArray, List.getElem?_cons_succ, List.getElem?_cons_zero] at e4
              clear hA
              refine ⟨((Rely.wanted_at rfl (by rfl) e38).trans (by rfl)), ?_⟩
              go_simp <;> (try with_reducible rfl)
            refine Rel7.Chain.det ?_ (by rfl) (fun T xs wr hA => ?_) ?_
            rotate_left 1
            · have e38 := hA.tm 13 38 (by rfl) (by rfl)
              have f38 : xs 13 = _ := hA.fa 13 (by rfl)
              (try simp (disch := first | rfl | decide) only [Rel7.mask_in] at f38)
              rw [f38] at e38
              clear f38
              have e39 := hA.tm 14 39 (by rfl) (by rfl)
              have f39 : xs 14 = _ := hA.fa 14 (by rfl)
              (try simp (disch := first | rfl | decide) only [Rel7.mask_in] at f39)
              rw [f39] at e39
              clear f39
              have hBq : wr.heap[k4]? = _ := (hA.bl _ hlt_4 (fun q h => absurd h (Nat.not_lt_zero _))).trans HB4.out
              have q0 := cell_at (v := .int .i64 ak) hBq 0 rfl
              have q1 := cell_at (v := .bool ab) hBq 1 rfl
              have q2 := cell_at (v := .slice ao al ac) hBq 2 rfl
              have q3 := cell_at (v := .bool ad) hBq 3 rfl
              have q4 := cell_at (v := .slice ap am aq) hBq 4 rfl
              clear hBq
              clear hA
              refine ⟨((Rely.wanted_at rfl (by rfl) e38).trans (by rfl)), ?_⟩
              go_simp <;> (try with_reducible rfl)
            refine Rel7.Chain.det ?_ (by rfl) (fun T xs wr hA => ?_) ?_
            rotate_left 1
            · have e38 := hA.tm 13 38 (by rfl) (by rfl)
              have f38 : xs 13 = _ := hA.fa 13 (by rfl)
              (try simp (disch := first | rfl | decide) only [Rel7.mask_in] at f38)
              rw [f38] at e38
              clear f38
              have e6 := hA.pre 6 (by kernel_rfl)
              simp only [List.getElem?_toArray, List.getElem?_cons_succ, List.getElem?_cons_zero] at e6
              clear hA
              refine ⟨((Rely.wanted_at rfl (by rfl) e38).trans (by rfl)), ?_⟩
              go_simp <;> (try with_reducible rfl)
            refine Rel7.Chain.det ?_ (by rfl) (fun T xs wr hA => ?_) ?_
            rotate_left 1
            · have e38 := hA.tm 13 38 (by rfl) (by rfl)
              have f38 : xs 13 = _ := hA.fa 13 (by rfl)
              (try simp (disch := first | rfl | decide) only [Rel7.mask_in] at f38)
              rw [f38] at e38
              clear f38
              have e41 := hA.tm 16 41 (by rfl) (by rfl)
              have f41 : xs 16 = _ := hA.fa 16 (by rfl)
              (try simp (disch := first | rfl | decide) only [Rel7.mask_in] at f41)
              rw [f41] at e41
              clear f41
              have hBq : wr.heap[k6]? = _ := (hA.bl _ hlt_6 (fun q h => absurd h (Nat.not_lt_zero _))).trans HB6.out
              have q0 := cell_at (v := .int .i64 bk) hBq 0 rfl
              have q1 := cell_at (v := .bool bb) hBq 1 rfl
              have q2 := cell_at (v := .slice bo bl bc) hBq 2 rfl
              have q3 := cell_at (v := .bool bd) hBq 3 rfl
              have q4 := cell_at (v := .slice bp bm bq) hBq 4 rfl
              clear hBq
              clear hA
              refine ⟨((Rely.wanted_at rfl (by rfl) e38).trans (by rfl)), ?_⟩
              go_simp <;> (try with_reducible rfl)
            refine Rel7.Chain.det ?_ (by rfl) (fun T xs wr hA => ?_) ?_
            rotate_left 1
            · have e38 := hA.tm 13 38 (by rfl) (by rfl)
              have f38 : xs 13 = _ := hA.fa 13 (by rfl)
              (try simp (disch := first | rfl | decide) only [Rel7.mask_in] at f38)
              rw [f38] at e38
              clear f38
              have e40 := hA.tm 15 40 (by rfl) (by rfl)
              have f40 : xs 15 = _ := hA.fa 15 (by rfl)
              (try simp (disch := first | rfl | decide) only [Rel7.mask_in] at f40)
              rw [f40] at e40
              clear f40
              have e42 := hA.tm 17 42 (by rfl) (by rfl)
              have f42 : xs 17 = _ := hA.fa 17 (by rfl)
              (try simp (disch := first | rfl | decide) only [Rel7.mask_in] at f42)
              rw [f42] at e42
              clear f42
              clear hA
              refine ⟨((Rely.wanted_at rfl (by rfl) e38).trans (by rfl)), ?_⟩
              go_simp <;> (try with_reducible rfl)
            refine Rel7.Chain.det ?_ (by rfl) (fun T xs wr hA => ?_) ?_
            rotate_left 1
            · have e38 := hA.tm 13 38 (by rfl) (by rfl)
              have f38 : xs 13 = _ := hA.fa 13 (by rfl)
              (try simp (disch := first | rfl | decide) only [Rel7.mask_in] at f38)
              rw [f38] at e38
              clear f38
              have e43 := hA.tm 18 43 (by rfl) (by rfl)
              have f43 : xs 18 = _ := hA.fa 18 (by rfl)
              (try simp (disch := first | rfl | decide) only [Rel7.mask_in] at f43)
              rw [f43] at e43
              clear f43
              clear hA
              refine ⟨((Rely.wanted_at rfl (by rfl) e38).trans (by rfl)), ?_⟩
              go_simp <;> (try with_reducible rfl)
            refine Rel7.Chain.skip (by rfl) (fun T xs wr hA => ?_) ?_
            · have e44 := hA.tm 19 44 (by rfl) (by rfl)
              have f44 : xs 19 = _ := hA.fa 19 (by rfl)
              (try simp (disch := first | rfl | decide) only [Rel7.mask_in] at f44)
              rw [f44] at e44
              clear f44
              exact ((Rely.wanted_at rfl (by rfl) e44).trans (by rfl))
            refine Rel7.Chain.skip (by rfl) (fun T xs wr hA => ?_) ?_
            · have e44 := hA.tm 19 44 (by rfl) (by rfl)
              have f44 : xs 19 = _ := hA.fa 19 (by rfl)
              (try simp (disch := first | rfl | decide) only [Rel7.mask_in] at f44)
              rw [f44] at e44
              clear f44
              exact ((Rely.wanted_at rfl (by rfl) e44).trans (by rfl))
            refine Rel7.Chain.skip (by rfl) (fun T xs wr hA => ?_) ?_
            · have e44 := hA.tm 19 44 (by rfl) (by rfl)
              have f44 : xs 19 = _ := hA.fa 19 (by rfl)
              (try simp (disch := first | rfl | decide) only [Rel7.mask_in] at f44)
              rw [f44] at e44
              clear f44
              exact ((Rely.wanted_at rfl (by rfl) e44).trans (by rfl))
            refine Rel7.Chain.det ?_ (by rfl) (fun T xs wr hA => ?_) ?_
            rotate_left 1
            · have e38 := hA.tm 13 38 (by rfl) (by rfl)
              have f38 : xs 13 = _ := hA.fa 13 (by rfl)
              (try simp (disch := first | rfl | decide) only [Rel7.mask_in] at f38)
              rw [f38] at e38
              clear f38
              have e44 := hA.tm 19 44 (by rfl) (by rfl)
              have f44 : xs 19 = _ := hA.fa 19 (by rfl)
              (try simp (disch := first | rfl | decide) only [Rel7.mask_in] at f44)
              rw [f44] at e44
              clear f44
              have e47 := hA.tm 22 47 (by rfl) (by rfl)
              have f47 : xs 22 = (undef) := hA.fa 22 (by rfl)
              rw [f47] at e47
              clear f47
              clear hA
              refine ⟨((Rely.wanted_at rfl (by rfl) e38).trans (by rfl)), ?_⟩
              go_simp <;> (try with_reducible rfl)
            refine Rel7.Chain.det ?_ (by rfl) (fun T xs wr hA => ?_) ?_
            rotate_left 1
            · have e38 := hA.tm 13 38 (by rfl) (by rfl)
              have f38 : xs 13 = _ := hA.fa 13 (by rfl)
              (try simp (disch := first | rfl | decide) only [Rel7.mask_in] at f38)
              rw [f38] at e38
              clear f38
              have e48 := hA.tm 23 48 (by rfl) (by rfl)
              have f48 : xs 23 = _ := hA.fa 23 (by rfl)
              (try simp (disch := first | rfl | decide) only [Rel7.mask_in] at f48)
              rw [f48] at e48
              clear f48
              clear hA
              refine ⟨(by rfl), ?_⟩
              go_simp <;> (try with_reducible rfl)
            refine Rel7.Chain.done (fun xs x22 hL => ?_)
            obtain ⟨⟨hbe, hbl⟩, hf, -, -⟩ := hL
            have f0 : xs 0 = _ := hf 0 (by decide)
            (try simp (disch := first | rfl | decide) only [Rel7.mask_in] at f0)
            have f1 : xs 1 = _ := hf 1 (by decide)
            (try simp (disch := first | rfl | decide) only [Rel7.mask_in] at f1)
            have f2 : xs 2 = (.bool true) := hf 2 (by decide)
            have f3 : xs 3 = _ := hf 3 (by decide)
            (try simp (disch := first | rfl | decide) only [Rel7.mask_in] at f3)
            have f4 : xs 4 = _ := hf 4 (by decide)
            (try simp (disch := first | rfl | decide) only [Rel7.mask_in] at f4)
            have f5 : xs 5 = (.bool true) := hf 5 (by decide)
            have f6 : xs 6 = _ := hf 6 (by decide)
            (try simp (disch := first | rfl | decide) only [Rel7.mask_in] at f6)
            have f7 : xs 7 = _ := hf 7 (by decide)
            (try simp (disch := first | rfl | decide) only [Rel7.mask_in] at f7)
            have f8 : xs 8 = _ := hf 8 (by decide)
            (try simp (disch := first | rfl | decide) only [Rel7.mask_in] at f8)
            have f9 : xs 9 = _ := hf 9 (by decide)
            (try simp (disch := first | rfl | decide) only [Rel7.mask_in] at f9)
            have f10 : xs 10 = (.bool true) := hf 10 (by decide)
            have f11 : xs 11 = _ := hf 11 (by decide)
            (try simp (disch := first | rfl | decide) only [Rel7.mask_in] at f11)
            have f12 : xs 12 = _ := hf 12 (by decide)
            (try simp (disch := first | rfl | decide) only [Rel7.mask_in] at f12)
            have f13 : xs 13 = _ := hf 13 (by decide)
            (try simp (disch := first | rfl | decide) only [Rel7.mask_in] at f13)
            have f14 : xs 14 = _ := hf 14 (by decide)
            (try simp (disch := first | rfl | decide) only [Rel7.mask_in] at f14)
            have f15 : xs 15 = _ := hf 15 (by decide)
            (try simp (disch := first | rfl | decide) only [Rel7.mask_in] at f15)
            have f16 : xs 16 = _ := hf 16 (by decide)
            (try simp (disch := first | rfl | decide) only [Rel7.mask_in] at f16)
            have f17 : xs 17 = _ := hf 17 (by decide)
            (try simp (disch := first | rfl | decide) only [Rel7.mask_in] at f17)
            have f18 : xs 18 = _ := hf 18 (by decide)
            (try simp (disch := first | rfl | decide) only [Rel7.mask_in] at f18)
            have f19 : xs 19 = _ := hf 19 (by decide)
            (try simp (disch := first | rfl | decide) only [Rel7.mask_in] at f19)
            have f20 : xs 20 = (undef) := hf 20 (by decide)
            have f21 : xs 21 = (undef) := hf 21 (by decide)
            have f22 : xs 22 = (undef) := hf 22 (by decide)
            have f23 : xs 23 = _ := hf 23 (by decide)
            (try simp (disch := first | rfl | decide) only [Rel7.mask_in] at f23)
            have f24 : xs 24 = _ := hf 24 (by decide)
            (try simp (disch := first | rfl | decide) only [Rel7.mask_in] at f24)
            have hb0 : Below 0 x21 x22 := undrew (hbe 0 (Nat.zero_le _) (fun _ _ => Nat.zero_le _))
            have hgr : ∀ j, j < x21.heap.size → (∀ q, q < 0 → (fun q => 0) q ≠ j) → x22.heap[j]? = x21.heap[j]? := hbl
            clear hbe hbl hf
            have hb : Below x21.heap.size x21 x22 := ⟨hb0.os, hb0.tape, hb0.output, hb0.size, fun q hq => hgr q hq (fun q h => absurd h (Nat.not_lt_zero _))⟩
            refine Rel7.rest_done ?_
            simp only [Rel7.fill, List.setIfInBounds_toArray, List.set_cons_zero, List.set_cons_succ, f0, f1, f2, f3, f4, f5, f6, f7, f8, f9, f10, f11, f12, f13, f14, f15, f16, f17, f18, f19, f20, f21, f22, f23, f24]
            clear hb0 hgr hog hlt_4 hlt_6 f0 f1 f2 f3 f4 f5 f6 f7 f8 f9 f10 f11 f12 f13 f14 f15 f16 f17 f18 f19 f20 f21 f22 f23 f24
            replace HB4 := kBV hb HB4
            replace HB6 := kBV hb HB6
            replace HI := Lib.hid (HI.out.trans (hb.mono HI.out.size))
            replace HAR := Lib.hid (VR.below HAR.out hb)
            replace HAC := Lib.hid (VC.below HAC.out hb)
            replace HJ := Lib.hid (HJ.out.trans (hb.mono HJ.out.size))
            replace HBR := Lib.hid (VR.below HBR.out hb)
            replace HBC := Lib.hid (VC.below HBC.out hb)
            replace hb := Lib.hid hb
            go_wp2_with fail
            go_loopw [52] (LoopB x22 n) (fun i _ => n - (intOf i).toNat)
            case atStart => exact ⟨0, rfl, Nat.zero_le _, Lib.hid (Below.refl _ _)⟩
            case round =>
              obtain ⟨m, rfl, hm, HM⟩ := hrel
              obtain ⟨wc, rfl⟩ : ∃ q, q = wr := ⟨_, rfl⟩
              have HB4 := kBV HM.out HB4
              have HB6 := kBV HM.out HB6
              have HI := Lib.hid (HI.out.trans (HM.out.mono HI.out.size))
              have HAR := Lib.hid (VR.below HAR.out HM.out)
              have HAC := Lib.hid (VC.below HAC.out HM.out)
              have HJ := Lib.hid (HJ.out.trans (HM.out.mono HJ.out.size))
              have HBR := Lib.hid (VR.below HBR.out HM.out)
              have HBC := Lib.hid (VC.below HBC.out HM.out)
              by_cases hlt3 : m < n
              · have hzc : m < rs.length := by rw [← HN.out]; exact hlt3
                obtain ⟨ca, cu, ck, cb, co, cl, cc, cd, cp, cm, cq, cre, hne, ⟨c0, c1, c2, c3, c4⟩, -, hnr, hnv⟩ := (HL.out.below HI.out).unitAt hzc
                injection cre with cre
                subst cre
                have HCE := Lib.hid hne
                have HCR := Lib.hid hnr
                have HCC : Hid (VC wc (.agg #[.int .i64 ck, .bool cb, .slice co cl cc, .bool cd, .slice cp cm cq]) cu.x) := Lib.hid (vc_of hnv hnr)
                clear hne hnr hnv
                obtain ⟨x61, k8, e8, ek8, hb8, hk8, HB8⟩ := newV wc #[.int .i64 ck, .bool cb, .slice co cl cc, .bool cd, .slice cp cm cq] 30
                replace HB4 := kBV hb8.out HB4
                replace HB6 := kBV hb8.out HB6
                replace HI := Lib.hid (HI.out.trans (hb8.out.mono HI.out.size))
                replace HAR := Lib.hid (VR.below HAR.out hb8.out)
                replace HAC := Lib.hid (VC.below HAC.out hb8.out)
                replace HJ := Lib.hid (HJ.out.trans (hb8.out.mono HJ.out.size))
                replace HBR := Lib.hid (VR.below HBR.out hb8.out)
                replace HBC := Lib.hid (VC.below HBC.out hb8.out)
                replace HM := Lib.hid (HM.out.trans (hb8.out.mono HM.out.size))
                replace HCR := Lib.hid (VR.below HCR.out hb8.out)
                replace HCC := Lib.hid (VC.below HCC.out hb8.out)
                have g0 := cell_at (v := .int .i64 ak) HB4.out 0 rfl
                have fg0 := froz_at HB4.out 0
                have g1 := cell_at (v := .bool ab) HB4.out 1 rfl
                have fg1 := froz_at HB4.out 1
                have g2 := cell_at (v := .slice ao al ac) HB4.out 2 rfl
                have fg2 := froz_at HB4.out 2
                have g3 := cell_at (v := .bool ad) HB4.out 3 rfl
                have fg3 := froz_at HB4.out 3
                have g4 := cell_at (v := .slice ap am aq) HB4.out 4 rfl
                have fg4 := froz_at HB4.out 4
                have h0 := cell_at (v := .int .i64 bk) HB6.out 0 rfl
                have fh0 := froz_at HB6.out 0
                have h1 := cell_at (v := .bool bb) HB6.out 1 rfl
                have fh1 := froz_at HB6.out 1
                have h2 := cell_at (v := .slice bo bl bc) HB6.out 2 rfl
                have fh2 := froz_at HB6.out 2
                have h3 := cell_at (v := .bool bd) HB6.out 3 rfl
                have fh3 := froz_at HB6.out 3
                have h4 := cell_at (v := .slice bp bm bq) HB6.out 4 rfl
                have fh4 := froz_at HB6.out 4
                have i0 := cell_at (v := .int .i64 ck) HB8.out 0 rfl
                have fi0 := froz_at HB8.out 0
                have i1 := cell_at (v := .bool cb) HB8.out 1 rfl
                have fi1 := froz_at HB8.out 1
                have i2 := cell_at (v := .slice co cl cc) HB8.out 2 rfl
                have fi2 := froz_at HB8.out 2
                have i3 := cell_at (v := .bool cd) HB8.out 3 rfl
                have fi3 := froz_at HB8.out 3
                have i4 := cell_at (v := .slice cp cm cq) HB8.out 4 rfl
                have fi4 := froz_at HB8.out 4
                by_cases hbc : bu.x = cu.x
                · have hdbc : decide (bu.x = cu.x) = true := decide_eq_true hbc
                  have hdac : decide (au.x = cu.x) = true := decide_eq_true (HEQ.out.trans hbc)
                  clear hbc
                  go_wp2_with fail
                  refine (same_p _ _ au.x bu.x x61 HAC.out HBC.out).mono ?_
                  rintro e x62 ⟨rfl, hb⟩
                  rw [hdab]
                  clear g0 fg0 g1 fg1 g2 fg2 g3 fg3 g4 fg4 h0 fh0 h1 fh1 h2 fh2 h3 fh3 h4 fh4 i0 fi0 i1 fi1 i2 fi2 i3 fi3 i4 fi4
                  replace HB4 := kBV hb HB4
                  replace HB6 := kBV hb HB6
                  replace HB8 := kBV hb HB8
                  replace HI := Lib.hid (HI.out.trans (hb.mono HI.out.size))
                  replace HAR := Lib.hid (VR.below HAR.out hb)
                  replace HAC := Lib.hid (VC.below HAC.out hb)
                  replace HJ := Lib.hid (HJ.out.trans (hb.mono HJ.out.size))
                  replace HBR := Lib.hid (VR.below HBR.out hb)
                  replace HBC := Lib.hid (VC.below HBC.out hb)
                  replace HM := Lib.hid (HM.out.trans (hb.mono HM.out.size))
                  replace HCR := Lib.hid (VR.below HCR.out hb)
                  replace HCC := Lib.hid (VC.below HCC.out hb)
                  clear hb
                  have g0 := cell_at (v := .int .i64 ak) HB4.out 0 rfl
                  have fg0 := froz_at HB4.out 0
                  have g1 := cell_at (v := .bool ab) HB4.out 1 rfl
                  have fg1 := froz_at HB4.out 1
                  have g2 := cell_at (v := .slice ao al ac) HB4.out 2 rfl
                  have fg2 := froz_at HB4.out 2
                  have g3 := cell_at (v := .bool ad) HB4.out 3 rfl
                  have fg3 := froz_at HB4.out 3
                  have g4 := cell_at (v := .slice ap am aq) HB4.out 4 rfl
                  have fg4 := froz_at HB4.out 4
                  have h0 := cell_at (v := .int .i64 bk) HB6.out 0 rfl
                  have fh0 := froz_at HB6.out 0
                  have h1 := cell_at (v := .bool bb) HB6.out 1 rfl
                  have fh1 := froz_at HB6.out 1
                  have h2 := cell_at (v := .slice bo bl bc) HB6.out 2 rfl
                  have fh2 := froz_at HB6.out 2
                  have h3 := cell_at (v := .bool bd) HB6.out 3 rfl
                  have fh3 := froz_at HB6.out 3
                  have h4 := cell_at (v := .slice bp bm bq) HB6.out 4 rfl
                  have fh4 := froz_at HB6.out 4
                  have i0 := cell_at (v := .int .i64 ck) HB8.out 0 rfl
                  have fi0 := froz_at HB8.out 0
                  have i1 := cell_at (v := .bool cb) HB8.out 1 rfl
                  have fi1 := froz_at HB8.out 1
                  have i2 := cell_at (v := .slice co cl cc) HB8.out 2 rfl
                  have fi2 := froz_at HB8.out 2
                  have i3 := cell_at (v := .bool cd) HB8.out 3 rfl
                  have fi3 := froz_at HB8.out 3
                  have i4 := cell_at (v := .slice cp cm cq) HB8.out 4 rfl
                  have fi4 := froz_at HB8.out 4
                  go_wp2_with fail
                  refine (same_p _ _ bu.x cu.x x62 HBC.out HCC.out).mono ?_
                  rintro e x63 ⟨rfl, hb⟩
                  rw [hdbc]
                  clear g0 fg0 g1 fg1 g2 fg2 g3 fg3 g4 fg4 h0 fh0 h1 fh1 h2 fh2 h3 fh3 h4 fh4 i0 fi0 i1 fi1 i2 fi2 i3 fi3 i4 fi4
                  replace HB4 := kBV hb HB4
                  replace HB6 := kBV hb HB6
                  replace HB8 := kBV hb HB8
                  replace HI := Lib.hid (HI.out.trans (hb.mono HI.out.size))
                  replace HAR := Lib.hid (VR.below HAR.out hb)
                  replace HAC := Lib.hid (VC.below HAC.out hb)
                  replace HJ := Lib.hid (HJ.out.trans (hb.mono HJ.out.size))
                  replace HBR := Lib.hid (VR.below HBR.out hb)
                  replace HBC := Lib.hid (VC.below HBC.out hb)
                  replace HM := Lib.hid (HM.out.trans (hb.mono HM.out.size))
                  replace HCR := Lib.hid (VR.below HCR.out hb)
                  replace HCC := Lib.hid (VC.below HCC.out hb)
                  clear hb
                  have g0 := cell_at (v := .int .i64 ak) HB4.out 0 rfl
                  have fg0 := froz_at HB4.out 0
                  have g1 := cell_at (v := .bool ab) HB4.out 1 rfl
                  have fg1 := froz_at HB4.out 1
                  have g2 := cell_at (v := .slice ao al ac) HB4.out 2 rfl
                  have fg2 := froz_at HB4.out 2
                  have g3 := cell_at (v := .bool ad) HB4.out 3 rfl
                  have fg3 := froz_at HB4.out 3
                  have g4 := cell_at (v := .slice ap am aq) HB4.out 4 rfl
                  have fg4 := froz_at HB4.out 4
                  have h0 := cell_at (v := .int .i64 bk) HB6.out 0 rfl
                  have fh0 := froz_at HB6.out 0
                  have h1 := cell_at (v := .bool bb) HB6.out 1 rfl
                  have fh1 := froz_at HB6.out 1
                  have h2 := cell_at (v := .slice bo bl bc) HB6.out 2 rfl
                  have fh2 := froz_at HB6.out 2
                  have h3 := cell_at (v := .bool bd) HB6.out 3 rfl
                  have fh3 := froz_at HB6.out 3
                  have h4 := cell_at (v := .slice bp bm bq) HB6.out 4 rfl
                  have fh4 := froz_at HB6.out 4
                  have i0 := cell_at (v := .int .i64 ck) HB8.out 0 rfl
                  have fi0 := froz_at HB8.out 0
                  have i1 := cell_at (v := .bool cb) HB8.out 1 rfl
                  have fi1 := froz_at HB8.out 1
                  have i2 := cell_at (v := .slice co cl cc) HB8.out 2 rfl
                  have fi2 := froz_at HB8.out 2
                  have i3 := cell_at (v := .bool cd) HB8.out 3 rfl
                  have fi3 := froz_at HB8.out 3
                  have i4 := cell_at (v := .slice cp cm cq) HB8.out 4 rfl
                  have fi4 := froz_at HB8.out 4
                  go_wp2_with fail
                  refine (same_p _ _ au.x cu.x x63 HAC.out HCC.out).mono ?_
                  rintro e x64 ⟨rfl, hb⟩
                  rw [hdac]
                  clear g0 fg0 g1 fg1 g2 fg2 g3 fg3 g4 fg4 h0 fh0 h1 fh1 h2 fh2 h3 fh3 h4 fh4 i0 fi0 i1 fi1 i2 fi2 i3 fi3 i4 fi4
                  replace HB4 := kBV hb HB4
                  replace HB6 := kBV hb HB6
                  replace HB8 := kBV hb HB8
                  replace HI := Lib.hid (HI.out.trans (hb.mono HI.out.size))
                  replace HAR := Lib.hid (VR.below HAR.out hb)
                  replace HAC := Lib.hid (VC.below HAC.out hb)
                  replace HJ := Lib.hid (HJ.out.trans (hb.mono HJ.out.size))
                  replace HBR := Lib.hid (VR.below HBR.out hb)
                  replace HBC := Lib.hid (VC.below HBC.out hb)
                  replace HM := Lib.hid (HM.out.trans (hb.mono HM.out.size))
                  replace HCR := Lib.hid (VR.below HCR.out hb)
                  replace HCC := Lib.hid (VC.below HCC.out hb)
                  clear hb
                  have g0 := cell_at (v := .int .i64 ak) HB4.out 0 rfl
                  have fg0 := froz_at HB4.out 0
                  have g1 := cell_at (v := .bool ab) HB4.out 1 rfl
                  have fg1 := froz_at HB4.out 1
                  have g2 := cell_at (v := .slice ao al ac) HB4.out 2 rfl
                  have fg2 := froz_at HB4.out 2
                  have g3 := cell_at (v := .bool ad) HB4.out 3 rfl
                  have fg3 := froz_at HB4.out 3
                  have g4 := cell_at (v := .slice ap am aq) HB4.out 4 rfl
                  have fg4 := froz_at HB4.out 4
                  have h0 := cell_at (v := .int .i64 bk) HB6.out 0 rfl
                  have fh0 := froz_at HB6.out 0
                  have h1 := cell_at (v := .bool bb) HB6.out 1 rfl
                  have fh1 := froz_at HB6.out 1
                  have h2 := cell_at (v := .slice bo bl bc) HB6.out 2 rfl
                  have fh2 := froz_at HB6.out 2
                  have h3 := cell_at (v := .bool bd) HB6.out 3 rfl
                  have fh3 := froz_at HB6.out 3
                  have h4 := cell_at (v := .slice bp bm bq) HB6.out 4 rfl
                  have fh4 := froz_at HB6.out 4
                  have i0 := cell_at (v := .int .i64 ck) HB8.out 0 rfl
                  have fi0 := froz_at HB8.out 0
                  have i1 := cell_at (v := .bool cb) HB8.out 1 rfl
                  have fi1 := froz_at HB8.out 1
                  have i2 := cell_at (v := .slice co cl cc) HB8.out 2 rfl
                  have fi2 := froz_at HB8.out 2
                  have i3 := cell_at (v := .bool cd) HB8.out 3 rfl
                  have fi3 := froz_at HB8.out 3
                  have i4 := cell_at (v := .slice cp cm cq) HB8.out 4 rfl
                  have fi4 := froz_at HB8.out 4
                  go_wp2_with fail
                  go_roundw
                  case rel => exact ⟨m + 1, by go_num, hlt3, HM⟩
                  case measure => simp [intOf]; omega
                · have hdbc : decide (bu.x = cu.x) = false := decide_eq_false hbc
                  clear hbc
                  go_wp2_with fail
                  refine (same_p _ _ au.x bu.x x61 HAC.out HBC.out).mono ?_
                  rintro e x62 ⟨rfl, hb⟩
                  rw [hdab]
                  clear g0 fg0 g1 fg1 g2 fg2 g3 fg3 g4 fg4 h0 fh0 h1 fh1 h2 fh2 h3 fh3 h4 fh4 i0 fi0 i1 fi1 i2 fi2 i3 fi3 i4 fi4
                  replace HB4 := kBV hb HB4
                  replace HB6 := kBV hb HB6
                  replace HB8 := kBV hb HB8
                  replace HI := Lib.hid (HI.out.trans (hb.mono HI.out.size))
                  replace HAR := Lib.hid (VR.below HAR.out hb)
                  replace HAC := Lib.hid (VC.below HAC.out hb)
                  replace HJ := Lib.hid (HJ.out.trans (hb.mono HJ.out.size))
                  replace HBR := Lib.hid (VR.below HBR.out hb)
                  replace HBC := Lib.hid (VC.below HBC.out hb)
                  replace HM := Lib.hid (HM.out.trans (hb.mono HM.out.size))
                  replace HCR := Lib.hid (VR.below HCR.out hb)
                  replace HCC := Lib.hid (VC.below HCC.out hb)
                  clear hb
                  have g0 := cell_at (v := .int .i64 ak) HB4.out 0 rfl
                  have fg0 := froz_at HB4.out 0
                  have g1 := cell_at (v := .bool ab) HB4.out 1 rfl
                  have fg1 := froz_at HB4.out 1
                  have g2 := cell_at (v := .slice ao al ac) HB4.out 2 rfl
                  have fg2 := froz_at HB4.out 2
                  have g3 := cell_at (v := .bool ad) HB4.out 3 rfl
                  have fg3 := froz_at HB4.out 3
                  have g4 := cell_at (v := .slice ap am aq) HB4.out 4 rfl
                  have fg4 := froz_at HB4.out 4
                  have h0 := cell_at (v := .int .i64 bk) HB6.out 0 rfl
                  have fh0 := froz_at HB6.out 0
                  have h1 := cell_at (v := .bool bb) HB6.out 1 rfl
                  have fh1 := froz_at HB6.out 1
                  have h2 := cell_at (v := .slice bo bl bc) HB6.out 2 rfl
                  have fh2 := froz_at HB6.out 2
                  have h3 := cell_at (v := .bool bd) HB6.out 3 rfl
                  have fh3 := froz_at HB6.out 3
                  have h4 := cell_at (v := .slice bp bm bq) HB6.out 4 rfl
                  have fh4 := froz_at HB6.out 4
                  have i0 := cell_at (v := .int .i64 ck) HB8.out 0 rfl
                  have fi0 := froz_at HB8.out 0
                  have i1 := cell_at (v := .bool cb) HB8.out 1 rfl
                  have fi1 := froz_at HB8.out 1
                  have i2 := cell_at (v := .slice co cl cc) HB8.out 2 rfl
                  have fi2 := froz_at HB8.out 2
                  have i3 := cell_at (v := .bool cd) HB8.out 3 rfl
                  have fi3 := froz_at HB8.out 3
                  have i4 := cell_at (v := .slice cp cm cq) HB8.out 4 rfl
                  have fi4 := froz_at HB8.out 4
                  go_wp2_with fail
                  refine (same_p _ _ bu.x cu.x x62 HBC.out HCC.out).mono ?_
                  rintro e x63 ⟨rfl, hb⟩
                  rw [hdbc]
                  clear g0 fg0 g1 fg1 g2 fg2 g3 fg3 g4 fg4 h0 fh0 h1 fh1 h2 fh2 h3 fh3 h4 fh4 i0 fi0 i1 fi1 i2 fi2 i3 fi3 i4 fi4
                  replace HB4 := kBV hb HB4
                  replace HB6 := kBV hb HB6
                  replace HB8 := kBV hb HB8
                  replace HI := Lib.hid (HI.out.trans (hb.mono HI.out.size))
                  replace HAR := Lib.hid (VR.below HAR.out hb)
                  replace HAC := Lib.hid (VC.below HAC.out hb)
                  replace HJ := Lib.hid (HJ.out.trans (hb.mono HJ.out.size))
                  replace HBR := Lib.hid (VR.below HBR.out hb)
                  replace HBC := Lib.hid (VC.below HBC.out hb)
                  replace HM := Lib.hid (HM.out.trans (hb.mono HM.out.size))
                  replace HCR := Lib.hid (VR.below HCR.out hb)
                  replace HCC := Lib.hid (VC.below HCC.out hb)
                  clear hb
                  have g0 := cell_at (v := .int .i64 ak) HB4.out 0 rfl
                  have fg0 := froz_at HB4.out 0
                  have g1 := cell_at (v := .bool ab) HB4.out 1 rfl
                  have fg1 := froz_at HB4.out 1
                  have g2 := cell_at (v := .slice ao al ac) HB4.out 2 rfl
                  have fg2 := froz_at HB4.out 2
                  have g3 := cell_at (v := .bool ad) HB4.out 3 rfl
                  have fg3 := froz_at HB4.out 3
                  have g4 := cell_at (v := .slice ap am aq) HB4.out 4 rfl
                  have fg4 := froz_at HB4.out 4
                  have h0 := cell_at (v := .int .i64 bk) HB6.out 0 rfl
                  have fh0 := froz_at HB6.out 0
                  have h1 := cell_at (v := .bool bb) HB6.out 1 rfl
                  have fh1 := froz_at HB6.out 1
                  have h2 := cell_at (v := .slice bo bl bc) HB6.out 2 rfl
                  have fh2 := froz_at HB6.out 2
                  have h3 := cell_at (v := .bool bd) HB6.out 3 rfl
                  have fh3 := froz_at HB6.out 3
                  have h4 := cell_at (v := .slice bp bm bq) HB6.out 4 rfl
                  have fh4 := froz_at HB6.out 4
                  have i0 := cell_at (v := .int .i64 ck) HB8.out 0 rfl
                  have fi0 := froz_at HB8.out 0
                  have i1 := cell_at (v := .bool cb) HB8.out 1 rfl
                  have fi1 := froz_at HB8.out 1
                  have i2 := cell_at (v := .slice co cl cc) HB8.out 2 rfl
                  have fi2 := froz_at HB8.out 2
                  have i3 := cell_at (v := .bool cd) HB8.out 3 rfl
                  have fi3 := froz_at HB8.out 3
                  have i4 := cell_at (v := .slice cp cm cq) HB8.out 4 rfl
                  have fi4 := froz_at HB8.out 4
                  go_wp2_with fail
                  go_roundw
                  case rel => exact ⟨m + 1, by go_num, hlt3, HM⟩
                  case measure => simp [intOf]; omega
              · go_upto_region 18 with fail
                have hlt_4 := lt_of_block HB4.out
                have hlt_6 := lt_of_block HB6.out
                have hog : Hid (∀ q, q < 0 → (fun q => 0) q < wc.heap.size) := Lib.hid (fun q h => absurd h (Nat.not_lt_zero _))
                refine Rel7.region (by kernel_rfl) [[], [], [0, 1], [], [], [3, 4], [0, 1, 2, 3, 4, 5], [], [], [0, 1, 2, 3, 4, 5, 6, 7, 8], [0, 1, 2, 3, 4, 5, 6, 7, 8, 9]] [] [] (fun q => 0) 0 11 (by kernel_rfl) (by kernel_rfl) (by rfl) hog.out (fun q q' h h' hn => absurd hn (by omega)) ?_
                refine Rel7.Chain.det ?_ (by rfl) (fun T xs wr hA => ?_) ?_
                rotate_left 1
                · have e4 := hA.pre 4 (by kernel_rfl)
                  simp only [List.getElem?_toArray, List.getElem?_cons_succ, List.getElem?_cons_zero] at e4
                  have hBq : wr.heap[k4]? = _ := (hA.bl _ hlt_4 (fun q h => absurd h (Nat.not_lt_zero _))).trans HB4.out
                  have q0 := cell_at (v := .int .i64 ak) hBq 0 rfl
                  have q1 := cell_at (v := .bool ab) hBq 1 rfl
                  have q2 := cell_at (v := .slice ao al ac) hBq 2 rfl
                  have q3 := cell_at (v := .bool ad) hBq 3 rfl
                  have q4 := cell_at (v := .slice ap am aq) hBq 4 rfl
                  clear hBq
                  clear hA
                  refine ⟨(by rfl), ?_⟩
                  go_simp <;> (try with_reducible rfl)
                refine Rel7.Chain.det ?_ (by rfl) (fun T xs wr hA => ?_) ?_
                rotate_left 1
                · have e6 := hA.pre 6 (by kernel_rfl)
                  simp only [List.getElem?_toArray, List.getElem?_cons_succ, List.getElem?_cons_zero] at e6
                  have hBq : wr.heap[k6]? = _ := (hA.bl _ hlt_6 (fun q h => absurd h (Nat.not_lt_zero _))).trans HB6.out
                  have q0 := cell_at (v := .int .i64 bk) hBq 0 rfl
                  have q1 := cell_at (v := .bool bb) hBq 1 rfl
                  have q2 := cell_at (v := .slice bo bl bc) hBq 2 rfl
                  have q3 := cell_at (v := .bool bd) hBq 3 rfl
                  have q4 := cell_at (v := .slice bp bm bq) hBq 4 rfl
                  clear hBq
                  clear hA
                  refine ⟨(by rfl), ?_⟩
                  go_simp <;> (try with_reducible rfl)
                refine Rel7.Chain.call (fun xs v w => VL w v [au.x, bu.x]) (fun _ _ _ _ h hb => VL.below h hb) (fun _ _ _ _ _ _ h _ => by obtain ⟨q, hq, _⟩ := h; exact absurd hq (Nat.not_lt_zero _)) (by rfl) (fun T xs wr hA => ?_) ?_
                · have hsw := (hA.be 0 (Nat.zero_le _) (fun _ _ => Nat.zero_le _)).size
                  have e71 := hA.tm 0 71 (by rfl) (by rfl)
                  have f71 : xs 0 = _ := hA.fa 0 (by rfl)
                  (try simp (disch := first | rfl | decide) only [Rel7.mask_in] at f71)
                  rw [f71] at e71
                  clear f71
                  have e72 := hA.tm 1 72 (by rfl) (by rfl)
                  have f72 : xs 1 = _ := hA.fa 1 (by rfl)
                  (try simp (disch := first | rfl | decide) only [Rel7.mask_in] at f72)
                  rw [f72] at e72
                  clear f72
                  have hbw := undrew (hA.be wc.heap.size (Nat.le_refl _) (fun q h => absurd h (Nat.not_lt_zero q)))
                  clear hA
                  refine ⟨(by rfl), fun K hK => ?_⟩
                  go_simp
                  exact hK.out _ _ ⟨[au, bu], two_atV (heap_alloc_new wr _) HAE.out HBE.out (VR.below (VR.below HAR.out hbw) ((Below.refl _ _).alloc (Nat.le_refl _) _)) (VR.below (VR.below HBR.out hbw) ((Below.refl _ _).alloc (Nat.le_refl _) _)), rfl⟩ ((Below.refl _ _).alloc (Nat.le_refl _) _)
                refine Rel7.Chain.det ?_ (by rfl) (fun T xs wr hA => ?_) ?_
                rotate_left 1
                · have e6 := hA.pre 6 (by kernel_rfl)
                  simp only [List.getElem?_toArray, List.getElem?_cons_succ, List.getElem?_cons_zero] at e6
                  have hBq : wr.heap[k6]? = _ := (hA.bl _ hlt_6 (fun q h => absurd h (Nat.not_lt_zero _))).trans HB6.out
                  have q0 := cell_at (v := .int .i64 bk) hBq 0 rfl
                  have q1 := cell_at (v := .bool bb) hBq 1 rfl
                  have q2 := cell_at (v := .slice bo bl bc) hBq 2 rfl
                  have q3 := cell_at (v := .bool bd) hBq 3 rfl
                  have q4 := cell_at (v := .slice bp bm bq) hBq 4 rfl
                  clear hBq
                  clear hA
                  refine ⟨(by rfl), ?_⟩
                  go_simp <;> (try with_reducible rfl)
                refine Rel7.Chain.det ?_ (by rfl) (fun T xs wr hA => ?_) ?_
                rotate_left 1
                · have e4 := hA.pre 4 (by kernel_rfl)
                  simp only [List.getElem?_toArray, List.getElem?_cons_succ, List.getElem?_cons_zero] at e4
                  have hBq : wr.heap[k4]? = _ := (hA.bl _ hlt_4 (fun q h => absurd h (Nat.not_lt_zero _))).trans HB4.out
                  have q0 := cell_at (v := .int .i64 ak) hBq 0 rfl
                  have q1 := cell_at (v := .bool ab) hBq 1 rfl
                  have q2 := cell_at (v := .slice ao al ac) hBq 2 rfl
                  have q3 := cell_at (v := .bool ad) hBq 3 rfl
                  have q4 := cell_at (v := .slice ap am aq) hBq 4 rfl
                  clear hBq
                  clear hA
                  refine ⟨(by rfl), ?_⟩
                  go_simp <;> (try with_reducible rfl)
                refine Rel7.Chain.call (fun xs v w => VL w v [bu.x, au.x]) (fun _ _ _ _ h hb => VL.below h hb) (fun _ _ _ _ _ _ h _ => by obtain ⟨q, hq, _⟩ := h; exact absurd hq (Nat.not_lt_zero _)) (by rfl) (fun T xs wr hA => ?_) ?_
                · have hsw := (hA.be 0 (Nat.zero_le _) (fun _ _ => Nat.zero_le _)).size
                  have e74 := hA.tm 3 74 (by rfl) (by rfl)
                  have f74 : xs 3 = _ := hA.fa 3 (by rfl)
                  (try simp (disch := first | rfl | decide) only [Rel7.mask_in] at f74)
                  rw [f74] at e74
                  clear f74
                  have e75 := hA.tm 4 75 (by rfl) (by rfl)
                  have f75 : xs 4 = _ := hA.fa 4 (by rfl)
                  (try simp (disch := first | rfl | decide) only [Rel7.mask_in] at f75)
                  rw [f75] at e75
                  clear f75
                  have hbw := undrew (hA.be wc.heap.size (Nat.le_refl _) (fun q h => absurd h (Nat.not_lt_zero q)))
                  clear hA
                  refine ⟨(by rfl), fun K hK => ?_⟩
                  go_simp
                  exact hK.out _ _ ⟨[bu, au], two_atV (heap_alloc_new wr _) HBE.out HAE.out (VR.below (VR.below HBR.out hbw) ((Below.refl _ _).alloc (Nat.le_refl _) _)) (VR.below (VR.below HAR.out hbw) ((Below.refl _ _).alloc (Nat.le_refl _) _)), rfl⟩ ((Below.refl _ _).alloc (Nat.le_refl _) _)
                refine Rel7.Chain.call (fun xs v w => v = .bool true) (fun _ _ _ _ h _ => h) (fun _ _ _ _ _ h _ _ => h) (by rfl) (fun T xs wr hA => ?_) ?_
                · have hsw := (hA.be 0 (Nat.zero_le _) (fun _ _ => Nat.zero_le _)).size
                  have e73 := hA.tm 2 73 (by rfl) (by rfl)
                  have e76 := hA.tm 5 76 (by rfl) (by rfl)
                  have hF2 : VL wr (xs 2) [au.x, bu.x] := hA.fa 2 (by rfl)
                  have h2 := hF2
                  have hF5 : VL wr (xs 5) [bu.x, au.x] := hA.fa 5 (by rfl)
                  have h5 := hF5
                  clear hA
                  refine ⟨(by rfl), fun K hK => ?_⟩
                  go_simp
                  refine (sameAll_p _ _ [au.x, bu.x] [bu.x, au.x] wr h2 h5).mono ?_
                  rintro e w' ⟨rfl, hb'⟩
                  exact hK.out _ _ (by rw [decide_eq_decide.2 (pair_swap au.x bu.x), hdab]) hb'
                refine Rel7.Chain.det ?_ (by rfl) (fun T xs wr hA => ?_) ?_
                rotate_left 1
                · have e4 := hA.pre 4 (by kernel_rfl)
                  simp only [List.getElem?_toArray, List.getElem?_cons_succ, List.getElem?_cons_zero] at e4
                  have hBq : wr.heap[k4]? = _ := (hA.bl _ hlt_4 (fun q h => absurd h (Nat.not_lt_zero _))).trans HB4.out
                  have q0 := cell_at (v := .int .i64 ak) hBq 0 rfl
                  have q1 := cell_at (v := .bool ab) hBq 1 rfl
                  have q2 := cell_at (v := .slice ao al ac) hBq 2 rfl
                  have q3 := cell_at (v := .bool ad) hBq 3 rfl
                  have q4 := cell_at (v := .slice ap am aq) hBq 4 rfl
                  clear hBq
                  clear hA
                  refine ⟨(by rfl), ?_⟩
                  go_simp <;> (try with_reducible rfl)
                refine Rel7.Chain.det ?_ (by rfl) (fun T xs wr hA => ?_) ?_
                rotate_left 1
                · have e6 := hA.pre 6 (by kernel_rfl)
                  simp only [List.getElem?_toArray, List.getElem?_cons_succ, List.getElem?_cons_zero] at e6
                  have hBq : wr.heap[k6]? = _ := (hA.bl _ hlt_6 (fun q h => absurd h (Nat.not_lt_zero _))).trans HB6.out
                  have q0 := cell_at (v := .int .i64 bk) hBq 0 rfl
                  have q1 := cell_at (v := .bool bb) hBq 1 rfl
                  have q2 := cell_at (v := .slice bo bl bc) hBq 2 rfl
                  have q3 := cell_at (v := .bool bd) hBq 3 rfl
                  have q4 := cell_at (v := .slice bp bm bq) hBq 4 rfl
                  clear hBq
                  clear hA
                  refine ⟨(by rfl), ?_⟩
                  go_simp <;> (try with_reducible rfl)
                refine Rel7.Chain.call (fun xs v w => v = .bool true) (fun _ _ _ _ h _ => h) (fun _ _ _ _ _ h _ _ => h) (by rfl) (fun T xs wr hA => ?_) ?_
                · have hsw := (hA.be 0 (Nat.zero_le _) (fun _ _ => Nat.zero_le _)).size
                  have e78 := hA.tm 7 78 (by rfl) (by rfl)
                  have f78 : xs 7 = _ := hA.fa 7 (by rfl)
                  (try simp (disch := first | rfl | decide) only [Rel7.mask_in] at f78)
                  rw [f78] at e78
                  clear f78
                  have e79 := hA.tm 8 79 (by rfl) (by rfl)
                  have f79 : xs 8 = _ := hA.fa 8 (by rfl)
                  (try simp (disch := first | rfl | decide) only [Rel7.mask_in] at f79)
                  rw [f79] at e79
                  clear f79
                  have hbw := undrew (hA.be wc.heap.size (Nat.le_refl _) (fun q h => absurd h (Nat.not_lt_zero q)))
                  clear hA
                  refine ⟨(by rfl), fun K hK => ?_⟩
                  go_simp
                  refine (same_p _ _ au.x bu.x wr (VC.below HAC.out hbw) (VC.below HBC.out hbw)).mono ?_
                  rintro e w' ⟨rfl, hb'⟩
                  exact hK.out _ _ (by rw [hdab]) hb'
                refine Rel7.Chain.det ?_ (by rfl) (fun T xs wr hA => ?_) ?_
                rotate_left 1
                · have e77 := hA.tm 6 77 (by rfl) (by rfl)
                  have f77 : xs 6 = (.bool true) := hA.fa 6 (by rfl)
                  rw [f77] at e77
                  clear f77
                  have e80 := hA.tm 9 80 (by rfl) (by rfl)
                  have f80 : xs 9 = (.bool true) := hA.fa 9 (by rfl)
                  rw [f80] at e80
                  clear f80
                  clear hA
                  refine ⟨(by rfl), ?_⟩
                  go_simp <;> (try with_reducible rfl)
                refine Rel7.Chain.done (fun xs x81 hL => ?_)
                obtain ⟨⟨hbe, hbl⟩, hf, -, -⟩ := hL
                have f0 : xs 0 = _ := hf 0 (by decide)
                (try simp (disch := first | rfl | decide) only [Rel7.mask_in] at f0)
                have f1 : xs 1 = _ := hf 1 (by decide)
                (try simp (disch := first | rfl | decide) only [Rel7.mask_in] at f1)
                have F2 : VL x81 (xs 2) [au.x, bu.x] := hf 2 (by decide)
                have f3 : xs 3 = _ := hf 3 (by decide)
                (try simp (disch := first | rfl | decide) only [Rel7.mask_in] at f3)
                have f4 : xs 4 = _ := hf 4 (by decide)
                (try simp (disch := first | rfl | decide) only [Rel7.mask_in] at f4)
                have F5 : VL x81 (xs 5) [bu.x, au.x] := hf 5 (by decide)
                have f6 : xs 6 = (.bool true) := hf 6 (by decide)
                have f7 : xs 7 = _ := hf 7 (by decide)
                (try simp (disch := first | rfl | decide) only [Rel7.mask_in] at f7)
                have f8 : xs 8 = _ := hf 8 (by decide)
                (try simp (disch := first | rfl | decide) only [Rel7.mask_in] at f8)
                have f9 : xs 9 = (.bool true) := hf 9 (by decide)
                have f10 : xs 10 = _ := hf 10 (by decide)
                (try simp (disch := first | rfl | decide) only [Rel7.mask_in] at f10)
                have hb0 : Below 0 wc x81 := undrew (hbe 0 (Nat.zero_le _) (fun _ _ => Nat.zero_le _))
                have hgr : ∀ j, j < wc.heap.size → (∀ q, q < 0 → (fun q => 0) q ≠ j) → x81.heap[j]? = wc.heap[j]? := hbl
                clear hbe hbl hf
                have hb : Below wc.heap.size wc x81 := ⟨hb0.os, hb0.tape, hb0.output, hb0.size, fun q hq => hgr q hq (fun q h => absurd h (Nat.not_lt_zero _))⟩
                refine Rel7.rest_done ?_
                simp only [Rel7.fill, List.setIfInBounds_toArray, List.set_cons_zero, List.set_cons_succ, f0, f1, f3, f4, f6, f7, f8, f9, f10]
                clear hb0 hgr hog hlt_4 hlt_6 f0 f1 f3 f4 f6 f7 f8 f9 f10
                replace HB4 := kBV hb HB4
                replace HB6 := kBV hb HB6
                replace HI := Lib.hid (HI.out.trans (hb.mono HI.out.size))
                replace HAR := Lib.hid (VR.below HAR.out hb)
                replace HAC := Lib.hid (VC.below HAC.out hb)
                replace HJ := Lib.hid (HJ.out.trans (hb.mono HJ.out.size))
                replace HBR := Lib.hid (VR.below HBR.out hb)
                replace HBC := Lib.hid (VC.below HBC.out hb)
                replace hb := Lib.hid hb
                go_wp2_with fail
                go_roundw
                case rel => exact ⟨j + 1, by go_num, hlt2, HJ⟩
                case measure => simp [intOf]; omega
          · have hdab : decide (au.x = bu.x) = false := decide_eq_false hab
            have hdba : decide (bu.x = au.x) = false := decide_eq_false (fun h => hab h.symm)
            clear hab
            by_cases hkk : ak = bk
            · have hk1 : (ak != bk) = false := by rw [hkk]; exact bne_self_eq_false _
              clear hkk
              skip
              go_upto_region 10 with fail
              have hlt_4 := lt_of_block HB4.out
              have hlt_6 := lt_of_block HB6.out
              have hog : Hid (∀ q, q < 0 → (fun q => 0) q < x21.heap.size) := Lib.hid (fun q h => absurd h (Nat.not_lt_zero _))
              refine Rel7.region (by kernel_rfl) [[], [], [0, 1], [], [], [0, 1, 2, 3, 4], [0, 1, 2, 3, 4, 5], [0, 1, 2, 3, 4, 5, 6], [0, 1, 2, 3, 4, 5, 6, 7], [0, 1, 2, 3, 4, 5, 6, 7], [0, 1, 2, 3, 4, 5, 6, 7, 8, 9], [0, 1, 2, 3, 4, 5, 6, 7, 8, 9, 10], [0, 1, 2, 3, 4, 5, 6, 7, 8, 9, 10, 11], [0, 1, 2, 3, 4, 5, 6, 7, 8, 9, 10, 11, 12], [0, 1, 2, 3, 4, 5, 6, 7, 8, 9, 10, 11, 12, 13], [0, 1, 2, 3, 4, 5, 6, 7, 8, 9, 10, 11, 12, 13, 14], [0, 1, 2, 3, 4, 5, 6, 7, 8, 9, 10, 11, 12, 13], [0, 1, 2, 3, 4, 5, 6, 7, 8, 9, 10, 11, 12, 13, 16], [0, 1, 2, 3, 4, 5, 6, 7, 8, 9, 10, 11, 12, 13, 14, 15, 16, 17], [0, 1, 2, 3, 4, 5, 6, 7, 8, 9, 10, 11, 12, 13, 14, 15, 16, 17, 18], [0, 1, 2, 3, 4, 5, 6, 7, 8, 9, 10, 11, 12, 13, 14, 15, 16, 17, 18, 19], [0, 1, 2, 3, 4, 5, 6, 7, 8, 9, 10, 11, 12, 13, 14, 15, 16, 17, 18, 19], [0, 1, 2, 3, 4, 5, 6, 7, 8, 9, 10, 11, 12, 13, 14, 15, 16, 17, 18, 19, 20, 21], [0, 1, 2, 3, 4, 5, 6, 7, 8, 9, 10, 11, 12, 13, 14, 15, 16, 17, 18, 19, 20, 21, 22], [0, 1, 2, 3, 4, 5, 6, 7, 8, 9, 10, 11, 12, 13, 14, 15, 16, 17, 18, 19, 20, 21, 22, 23]] [] [] (fun q => 0) 0 25 (by kernel_rfl) (by kernel_rfl) (by rfl) hog.out (fun q q' h h' hn => absurd hn (by omega)) ?_
              refine Rel7.Chain.det ?_ (by rfl) (fun T xs wr hA => ?_) ?_
              rotate_left 1
              · have e4 := hA.pre 4 (by kernel_rfl)
                simp only [List.getElem?_toArray, List.getElem?_cons_succ, List.getElem?_cons_zero] at e4
                have hBq : wr.heap[k4]? = _ := (hA.bl _ hlt_4 (fun q h => absurd h (Nat.not_lt_zero _))).trans HB4.out
                have q0 := cell_at (v := .int .i64 ak) hBq 0 rfl
                have q1 := cell_at (v := .bool ab) hBq 1 rfl
                have q2 := cell_at (v := .slice ao al ac) hBq 2 rfl
                have q3 := cell_at (v := .bool ad) hBq 3 rfl
                have q4 := cell_at (v := .slice ap am aq) hBq 4 rfl
                clear hBq
                clear hA
                refine ⟨(by rfl), ?_⟩
                go_simp <;> (try with_reducible rfl)
              refine Rel7.Chain.det ?_ (by rfl) (fun T xs wr hA => ?_) ?_
              rotate_left 1
              · have e6 := hA.pre 6 (by kernel_rfl)
                simp only [List.getElem?_toArray, List.getElem?_cons_succ, List.getElem?_cons_zero] at e6
                have hBq : wr.heap[k6]? = _ := (hA.bl _ hlt_6 (fun q h => absurd h (Nat.not_lt_zero _))).trans HB6.out
                have q0 := cell_at (v := .int .i64 bk) hBq 0 rfl
                have q1 := cell_at (v := .bool bb) hBq 1 rfl
                have q2 := cell_at (v := .slice bo bl bc) hBq 2 rfl
                have q3 := cell_at (v := .bool bd) hBq 3 rfl
                have q4 := cell_at (v := .slice bp bm bq) hBq 4 rfl
                clear hBq
                clear hA
                refine ⟨(by rfl), ?_⟩
                go_simp <;> (try with_reducible rfl)
              refine Rel7.Chain.call (fun xs v w => v = .bool false) (fun _ _ _ _ h _ => h) (fun _ _ _ _ _ h _ _ => h) (by rfl) (fun T xs wr hA => ?_) ?_
              · have hsw := (hA.be 0 (Nat.zero_le _) (fun _ _ => Nat.zero_le _)).size
                have e25 := hA.tm 0 25 (by rfl) (by rfl)
                have f25 : xs 0 = _ := hA.fa 0 (by rfl)
                (try simp (disch := first | rfl | decide) only [Rel7.mask_in] at f25)
                rw [f25] at e25
                clear f25
                have e26 := hA.tm 1 26 (by rfl) (by rfl)
                have f26 : xs 1 = _ := hA.fa 1 (by rfl)
                (try simp (disch := first | rfl | decide) only [Rel7.mask_in] at f26)
                rw [f26] at e26
                clear f26
                have hbw := undrew (hA.be x21.heap.size (Nat.le_refl _) (fun q h => absurd h (Nat.not_lt_zero q)))
                clear hA
                refine ⟨(by rfl), fun K hK => ?_⟩
                go_simp
                refine (same_p _ _ au.x bu.x wr (VC.below HAC.out hbw) (VC.below HBC.out hbw)).mono ?_
                rintro e w' ⟨rfl, hb'⟩
                exact hK.out _ _ (by rw [hdab]) hb'
              refine Rel7.Chain.det ?_ (by rfl) (fun T xs wr hA => ?_) ?_
              rotate_left 1
              · have e6 := hA.pre 6 (by kernel_rfl)
                simp only [List.getElem?_toArray, List.getElem?_cons_succ, List.getElem?_cons_zero] at e6
                have hBq : wr.heap[k6]? = _ := (hA.bl _ hlt_6 (fun q h => absurd h (Nat.not_lt_zero _))).trans HB6.out
                have q0 := cell_at (v := .int .i64 bk) hBq 0 rfl
                have q1 := cell_at (v := .bool bb) hBq 1 rfl
                have q2 := cell_at (v := .slice bo bl bc) hBq 2 rfl
                have q3 := cell_at (v := .bool bd) hBq 3 rfl
                have q4 := cell_at (v := .slice bp bm bq) hBq 4 rfl
                clear hBq
                clear hA
                refine ⟨(by rfl), ?_⟩
                go_simp <;> (try with_reducible rfl)
              refine Rel7.Chain.det ?_ (by rfl) (fun T xs wr hA => ?_) ?_
              rotate_left 1
              · have e4 := hA.pre 4 (by kernel_rfl)
                simp only [List.getElem?_toArray, List.getElem?_cons_succ, List.getElem?_cons_zero] at e4
                have hBq : wr.heap[k4]? = _ := (hA.bl _ hlt_4 (fun q h => absurd h (Nat.not_lt_zero _))).trans HB4.out
                have q0 := cell_at (v := .int .i64 ak) hBq 0 rfl
                have q1 := cell_at (v := .bool ab) hBq 1 rfl
                have q2 := cell_at (v := .slice ao al ac) hBq 2 rfl
                have q3 := cell_at (v := .bool ad) hBq 3 rfl
                have q4 := cell_at (v := .slice ap am aq) hBq 4 rfl
                clear hBq
                clear hA
                refine ⟨(by rfl), ?_⟩
                go_simp <;> (try with_reducible rfl)
              refine Rel7.Chain.call (fun xs v w => v = .bool false) (fun _ _ _ _ h _ => h) (fun _ _ _ _ _ h _ _ => h) (by rfl) (fun T xs wr hA => ?_) ?_
              · have hsw := (hA.be 0 (Nat.zero_le _) (fun _ _ => Nat.zero_le _)).size
                have e28 := hA.tm 3 28 (by rfl) (by rfl)
                have f28 : xs 3 = _ := hA.fa 3 (by rfl)
                (try simp (disch := first | rfl | decide) only [Rel7.mask_in] at f28)
                rw [f28] at e28
                clear f28
                have e29 := hA.tm 4 29 (by rfl) (by rfl)
                have f29 : xs 4 = _ := hA.fa 4 (by rfl)
                (try simp (disch := first | rfl | decide) only [Rel7.mask_in] at f29)
                rw [f29] at e29
                clear f29
                have hbw := undrew (hA.be x21.heap.size (Nat.le_refl _) (fun q h => absurd h (Nat.not_lt_zero q)))
                clear hA
                refine ⟨(by rfl), fun K hK => ?_⟩
                go_simp
                refine (same_p _ _ bu.x au.x wr (VC.below HBC.out hbw) (VC.below HAC.out hbw)).mono ?_
                rintro e w' ⟨rfl, hb'⟩
                exact hK.out _ _ (by rw [hdba]) hb'
              refine Rel7.Chain.det ?_ (by rfl) (fun T xs wr hA => ?_) ?_
              rotate_left 1
              · have e27 := hA.tm 2 27 (by rfl) (by rfl)
                have f27 : xs 2 = (.bool false) := hA.fa 2 (by rfl)
                rw [f27] at e27
                clear f27
                have e30 := hA.tm 5 30 (by rfl) (by rfl)
                have f30 : xs 5 = (.bool false) := hA.fa 5 (by rfl)
                rw [f30] at e30
                clear f30
                clear hA
                refine ⟨(by rfl), ?_⟩
                go_simp <;> (try with_reducible rfl)
              refine Rel7.Chain.det ?_ (by rfl) (fun T xs wr hA => ?_) ?_
              rotate_left 1
              · have e31 := hA.tm 6 31 (by rfl) (by rfl)
                have f31 : xs 6 = _ := hA.fa 6 (by rfl)
                (try simp (disch := first | rfl | decide) only [Rel7.mask_in] at f31)
                rw [f31] at e31
                clear f31
                clear hA
                refine ⟨(by rfl), ?_⟩
                go_simp <;> (try with_reducible rfl)
              refine Rel7.Chain.det ?_ (by rfl) (fun T xs wr hA => ?_) ?_
              rotate_left 1
              · have e32 := hA.tm 7 32 (by rfl) (by rfl)
                have f32 : xs 7 = _ := hA.fa 7 (by rfl)
                (try simp (disch := first | rfl | decide) only [Rel7.mask_in] at f32)
                rw [f32] at e32
                clear f32
                have e4 := hA.pre 4 (by kernel_rfl)
                simp only [List.getElem?_toArray, List.getElem?_cons_succ, List.getElem?_cons_zero] at e4
                have hBq : wr.heap[k4]? = _ := (hA.bl _ hlt_4 (fun q h => absurd h (Nat.not_lt_zero _))).trans HB4.out
                have q0 := cell_at (v := .int .i64 ak) hBq 0 rfl
                have q1 := cell_at (v := .bool ab) hBq 1 rfl
                have q2 := cell_at (v := .slice ao al ac) hBq 2 rfl
                have q3 := cell_at (v := .bool ad) hBq 3 rfl
                have q4 := cell_at (v := .slice ap am aq) hBq 4 rfl
                clear hBq
                clear hA
                refine ⟨((Rely.wanted_at rfl (by rfl) e32).trans (by rfl)), ?_⟩
                go_simp <;> (try with_reducible rfl)
              refine Rel7.Chain.det ?_ (by rfl) (fun T xs wr hA => ?_) ?_
              rotate_left 1
              · have e32 := hA.tm 7 32 (by rfl) (by rfl)
                have f32 : xs 7 = _ := hA.fa 7 (by rfl)
                (try simp (disch := first | rfl | decide) only [Rel7.mask_in] at f32)
                rw [f32] at e32
                clear f32
                have e4 := hA.pre 4 (by kernel_rfl)
                simp only [List.getElem?_toArray, List.getElem?_cons_succ, List.getElem?_cons_zero] at e4
                have hBq : wr.heap[k4]? = _ := (hA.bl _ hlt_4 (fun q h => absurd h (Nat.not_lt_zero _))).trans HB4.out
                have q0 := cell_at (v := .int .i64 ak) hBq 0 rfl
                have q1 := cell_at (v := .bool ab) hBq 1 rfl
                have q2 := cell_at (v := .slice ao al ac) hBq 2 rfl
                have q3 := cell_at (v := .bool ad) hBq 3 rfl
                have q4 := cell_at (v := .slice ap am aq) hBq 4 rfl
                clear hBq
                clear hA
                refine ⟨((Rely.wanted_at rfl (by rfl) e32).trans (by rfl)), ?_⟩
                go_simp <;> (try with_reducible rfl)
              refine Rel7.Chain.call (fun xs v w => v = .bool true) (fun _ _ _ _ h _ => h) (fun _ _ _ _ _ h _ _ => h) (by rfl) (fun T xs wr hA => ?_) ?_
              · have e32 := hA.tm 7 32 (by rfl) (by rfl)
                have f32 : xs 7 = _ := hA.fa 7 (by rfl)
                (try simp (disch := first | rfl | decide) only [Rel7.mask_in] at f32)
                rw [f32] at e32
                clear f32
                have hsw := (hA.be 0 (Nat.zero_le _) (fun _ _ => Nat.zero_le _)).size
                have e33 := hA.tm 8 33 (by rfl) (by rfl)
                have f33 : xs 8 = _ := hA.fa 8 (by rfl)
                (try simp (disch := first | rfl | decide) only [Rel7.mask_in] at f33)
                rw [f33] at e33
                clear f33
                have e34 := hA.tm 9 34 (by rfl) (by rfl)
                have f34 : xs 9 = _ := hA.fa 9 (by rfl)
                (try simp (disch := first | rfl | decide) only [Rel7.mask_in] at f34)
                rw [f34] at e34
                clear f34
                have hbw := undrew (hA.be x21.heap.size (Nat.le_refl _) (fun q h => absurd h (Nat.not_lt_zero q)))
                clear hA
                refine ⟨((Rely.wanted_at rfl (by rfl) e32).trans (by rfl)), fun K hK => ?_⟩
                go_simp
                refine (same_p _ _ au.x au.x wr (VC.below HAC.out hbw) (VC.below HAC.out hbw)).mono ?_
                rintro e w' ⟨rfl, hb'⟩
                exact hK.out _ _ (by rw [hdaa]) hb'
              refine Rel7.Chain.det ?_ (by rfl) (fun T xs wr hA => ?_) ?_
              rotate_left 1
              · have e32 := hA.tm 7 32 (by rfl) (by rfl)
                have f32 : xs 7 = _ := hA.fa 7 (by rfl)
                (try simp (disch := first | rfl | decide) only [Rel7.mask_in] at f32)
                rw [f32] at e32
                clear f32
                have e35 := hA.tm 10 35 (by rfl) (by rfl)
                have f35 : xs 10 = (.bool true) := hA.fa 10 (by rfl)
                rw [f35] at e35
                clear f35
                clear hA
                refine ⟨((Rely.wanted_at rfl (by rfl) e32).trans (by rfl)), ?_⟩
                go_simp <;> (try with_reducible rfl)
              refine Rel7.Chain.det ?_ (by rfl) (fun T xs wr hA => ?_) ?_
              rotate_left 1
              · have e32 := hA.tm 7 32 (by rfl) (by rfl)
                have f32 : xs 7 = _ := hA.fa 7 (by rfl)
                (try simp (disch := first | rfl | decide) only [Rel7.mask_in] at f32)
                rw [f32] at e32
                clear f32
                have e36 := hA.tm 11 36 (by rfl) (by rfl)
                have f36 : xs 11 = _ := hA.fa 11 (by rfl)
                (try simp (disch := first | rfl | decide) only [Rel7.mask_in] at f36)
                rw [f36] at e36
                clear f36
                clear hA
                refine ⟨(by rfl), ?_⟩
                go_simp <;> (try with_reducible rfl)
              refine Rel7.Chain.det ?_ (by rfl) (fun T xs wr hA => ?_) ?_
              rotate_left 1
              · have e37 := hA.tm 12 37 (by rfl) (by rfl)
                have f37 : xs 12 = _ := hA.fa 12 (by rfl)
                (try simp (disch := first | rfl | decide) only [Rel7.mask_in] at f37)
                rw [f37] at e37
                clear f37
                clear hA
                refine ⟨(by rfl), ?_⟩
                go_simp <;> (try with_reducible rfl)
              refine Rel7.Chain.det ?_ (by rfl) (fun T xs wr hA => ?_) ?_
              rotate_left 1
              · have e38 := hA.tm 13 38 (by rfl) (by rfl)
                have f38 : xs 13 = _ := hA.fa 13 (by rfl)
                (try simp (disch := first | rfl | decide) only [Rel7.mask_in] at f38)
                rw [f38] at e38
                clear f38
                have e4 := hA.pre 4 (by kernel_rfl)
                simp only [List.getElem?_toArray, List.getElem?_cons_succ, List.getElem?_cons_zero] at e4
                clear hA
                refine ⟨((Rely.wanted_at rfl (by rfl) e38).trans (by rfl)), ?_⟩
                go_simp <;> (try with_reducible rfl)
              refine Rel7.Chain.det ?_ (by rfl) (fun T xs wr hA => ?_) ?_
              rotate_left 1
              · have e38 := hA.tm 13 38 (by rfl) (by rfl)
                have f38 : xs 13 = _ := hA.fa 13 (by rfl)
                (try simp (disch := first | rfl | decide) only [Rel7.mask_in] at f38)
                rw [f38] at e38
                clear f38
                have e39 := hA.tm 14 39 (by rfl) (by rfl)
                have f39 : xs 14 = _ := hA.fa 14 (by rfl)
                (try simp (disch := first | rfl | decide) only [Rel7.mask_in] at f39)
                rw [f39] at e39
                clear f39
                have hBq : wr.heap[k4]? = _ := (hA.bl _ hlt_4 (fun q h => absurd h (Nat.not_lt_zero _))).trans HB4.out
                have q0 := cell_at (v := .int .i64 ak) hBq 0 rfl
                have q1 := cell_at (v := .bool ab) hBq 1 rfl
                have q2 := cell_at (v := .slice ao al ac) hBq 2 rfl
                have q3 := cell_at (v := .bool ad) hBq 3 rfl
                have q4 := cell_at (v := .slice ap am aq) hBq 4 rfl
                clear hBq
                clear hA
                refine ⟨((Rely.wanted_at rfl (by rfl) e38).trans (by rfl)), ?_⟩
                go_simp <;> (try with_reducible rfl)
              refine Rel7.Chain.det ?_ (by rfl) (fun T xs wr hA => ?_) ?_
              rotate_left 1
              · have e38 := hA.tm 13 38 (by rfl) (by rfl)
                have f38 : xs 13 = _ := hA.fa 13 (by rfl)
                (try simp (disch := first | rfl | decide) only [Rel7.mask_in] at f38)
                rw [f38] at e38
                clear f38
                have e6 := hA.pre 6 (by kernel_rfl)
                simp only [List.getElem?_toArray, List.getElem?_cons_succ, List.getElem?_cons_zero] at e6
                clear hA
                refine ⟨((Rely.wanted_at rfl (by rfl) e38).trans (by rfl)), ?_⟩
                go_simp <;> (try with_reducible rfl)
              refine Rel7.Chain.det ?_ (by rfl) (fun T xs wr hA => ?_) ?_
              rotate_left 1
              · have e38 := hA.tm 13 38 (by rfl) (by rfl)
                have f38 : xs 13 = _ := hA.fa 13 (by rfl)
                (try simp (disch := first | rfl | decide) only [Rel7.mask_in] at f38)
                rw [f38] at e38
                clear f38
                have e41 := hA.tm 16 41 (by rfl) (by rfl)
                have f41 : xs 16 = _ := hA.fa 16 (by rfl)
                (try simp (disch := first | rfl | decide) only [Rel7.mask_in] at f41)
                rw [f41] at e41
                clear f41
                have hBq : wr.heap[k6]? = _ := (hA.bl _ hlt_6 (fun q h => absurd h (Nat.not_lt_zero _))).trans HB6.out
                have q0 := cell_at (v := .int .i64 bk) hBq 0 rfl
                have q1 := cell_at (v := .bool bb) hBq 1 rfl
                have q2 := cell_at (v := .slice bo bl bc) hBq 2 rfl
                have q3 := cell_at (v := .bool bd) hBq 3 rfl
                have q4 := cell_at (v := .slice bp bm bq) hBq 4 rfl
                clear hBq
                clear hA
                refine ⟨((Rely.wanted_at rfl (by rfl) e38).trans (by rfl)), ?_⟩
                go_simp <;> (try with_reducible rfl)
              refine Rel7.Chain.det ?_ (by rfl) (fun T xs wr hA => ?_) ?_
              rotate_left 1
              · have e38 := hA.tm 13 38 (by rfl) (by rfl)
                have f38 : xs 13 = _ := hA.fa 13 (by rfl)
                (try simp (disch := first | rfl | decide) only [Rel7.mask_in] at f38)
                rw [f38] at e38
                clear f38
                have e40 := hA.tm 15 40 (by rfl) (by rfl)
                have f40 : xs 15 = _ := hA.fa 15 (by rfl)
                (try simp (disch := first | rfl | decide) only [Rel7.mask_in] at f40)
                rw [f40] at e40
                clear f40
                have e42 := hA.tm 17 42 (by rfl) (by rfl)
                have f42 : xs 17 = _ := hA.fa 17 (by rfl)
                (try simp (disch := first | rfl | decide) only [Rel7.mask_in] at f42)
                rw [f42] at e42
                clear f42
                clear hA
                refine ⟨((Rely.wanted_at rfl (by rfl) e38).trans (by rfl)), ?_⟩
                go_simp <;> (try with_reducible rfl)
              refine Rel7.Chain.det ?_ (by rfl) (fun T xs wr hA => ?_) ?_
              rotate_left 1
              · have e38 := hA.tm 13 38 (by rfl) (by rfl)
                have f38 : xs 13 = _ := hA.fa 13 (by rfl)
                (try simp (disch := first | rfl | decide) only [Rel7.mask_in] at f38)
                rw [f38] at e38
                clear f38
                have e43 := hA.tm 18 43 (by rfl) (by rfl)
                have f43 : xs 18 = _ := hA.fa 18 (by rfl)
                (try simp (disch := first | rfl | decide) only [Rel7.mask_in] at f43)
                rw [f43] at e43
                clear f43
                clear hA
                refine ⟨((Rely.wanted_at rfl (by rfl) e38).trans (by rfl)), ?_⟩
                go_simp <;> (try with_reducible rfl)
              refine Rel7.Chain.skip (by rfl) (fun T xs wr hA => ?_) ?_
              · have e44 := hA.tm 19 44 (by rfl) (by rfl)
                have f44 : xs 19 = _ := hA.fa 19 (by rfl)
                (try simp (disch := first | rfl | decide) only [Rel7.mask_in] at f44)
                rw [f44] at e44
                clear f44
                exact ((Rely.wanted_at rfl (by rfl) e44).trans (by rfl))
              refine Rel7.Chain.skip (by rfl) (fun T xs wr hA => ?_) ?_
              · have e44 := hA.tm 19 44 (by rfl) (by rfl)
                have f44 : xs 19 = _ := hA.fa 19 (by rfl)
                (try simp (disch := first | rfl | decide) only [Rel7.mask_in] at f44)
                rw [f44] at e44
                clear f44
                exact ((Rely.wanted_at rfl (by rfl) e44).trans (by rfl))
              refine Rel7.Chain.skip (by rfl) (fun T xs wr hA => ?_) ?_
              · have e44 := hA.tm 19 44 (by rfl) (by rfl)
                have f44 : xs 19 = _ := hA.fa 19 (by rfl)
                (try simp (disch := first | rfl | decide) only [Rel7.mask_in] at f44)
                rw [f44] at e44
                clear f44
                exact ((Rely.wanted_at rfl (by rfl) e44).trans (by rfl))
              refine Rel7.Chain.det ?_ (by rfl) (fun T xs wr hA => ?_) ?_
              rotate_left 1
              · have e38 := hA.tm 13 38 (by rfl) (by rfl)
                have f38 : xs 13 = _ := hA.fa 13 (by rfl)
                (try simp (disch := first | rfl | decide) only [Rel7.mask_in] at f38)
                rw [f38] at e38
                clear f38
                have e44 := hA.tm 19 44 (by rfl) (by rfl)
                have f44 : xs 19 = _ := hA.fa 19 (by rfl)
                (try simp (disch := first | rfl | decide) only [Rel7.mask_in] at f44)
                rw [f44] at e44
                clear f44
                have e47 := hA.tm 22 47 (by rfl) (by rfl)
                have f47 : xs 22 = (undef) := hA.fa 22 (by rfl)
                rw [f47] at e47
                clear f47
                clear hA
                refine ⟨((Rely.wanted_at rfl (by rfl) e38).trans (by rfl)), ?_⟩
                go_simp <;> (try with_reducible rfl)
              refine Rel7.Chain.det ?_ (by rfl) (fun T xs wr hA => ?_) ?_
              rotate_left 1
              · have e38 := hA.tm 13 38 (by rfl) (by rfl)
                have f38 : xs 13 = _ := hA.fa 13 (by rfl)
                (try simp (disch := first | rfl | decide) only [Rel7.mask_in] at f38)
                rw [f38] at e38
                clear f38
                have e48 := hA.tm 23 48 (by rfl) (by rfl)
                have f48 : xs 23 = _ := hA.fa 23 (by rfl)
                (try simp (disch := first | rfl | decide) only [Rel7.mask_in] at f48)
                rw [f48] at e48
                clear f48
                clear hA
                refine ⟨(by rfl), ?_⟩
                go_simp <;> (try with_reducible rfl)
              refine Rel7.Chain.done (fun xs x22 hL => ?_)
              obtain ⟨⟨hbe, hbl⟩, hf, -, -⟩ := hL
              have f0 : xs 0 = _ := hf 0 (by decide)
              (try simp (disch := first | rfl | decide) only [Rel7.mask_in] at f0)
              have f1 : xs 1 = _ := hf 1 (by decide)
              (try simp (disch := first | rfl | decide) only [Rel7.mask_in] at f1)
              have f2 : xs 2 = (.bool false) := hf 2 (by decide)
              have f3 : xs 3 = _ := hf 3 (by decide)
              (try simp (disch := first | rfl | decide) only [Rel7.mask_in] at f3)
              have f4 : xs 4 = _ := hf 4 (by decide)
              (try simp (disch := first | rfl | decide) only [Rel7.mask_in] at f4)
              have f5 : xs 5 = (.bool false) := hf 5 (by decide)
              have f6 : xs 6 = _ := hf 6 (by decide)
              (try simp (disch := first | rfl | decide) only [Rel7.mask_in] at f6)
              have f7 : xs 7 = _ := hf 7 (by decide)
              (try simp (disch := first | rfl | decide) only [Rel7.mask_in] at f7)
              have f8 : xs 8 = _ := hf 8 (by decide)
              (try simp (disch := first | rfl | decide) only [Rel7.mask_in] at f8)
              have f9 : xs 9 = _ := hf 9 (by decide)
              (try simp (disch := first | rfl | decide) only [Rel7.mask_in] at f9)
              have f10 : xs 10 = (.bool true) := hf 10 (by decide)
              have f11 : xs 11 = _ := hf 11 (by decide)
              (try simp (disch := first | rfl | decide) only [Rel7.mask_in] at f11)
              have f12 : xs 12 = _ := hf 12 (by decide)
              (try simp (disch := first | rfl | decide) only [Rel7.mask_in] at f12)
              have f13 : xs 13 = _ := hf 13 (by decide)
              (try simp (disch := first | rfl | decide) only [Rel7.mask_in] at f13)
              have f14 : xs 14 = _ := hf 14 (by decide)
              (try simp (disch := first | rfl | decide) only [Rel7.mask_in] at f14)
              have f15 : xs 15 = _ := hf 15 (by decide)
              (try simp (disch := first | rfl | decide) only [Rel7.mask_in] at f15)
              have f16 : xs 16 = _ := hf 16 (by decide)
              (try simp (disch := first | rfl | decide) only [Rel7.mask_in] at f16)
              have f17 : xs 17 = _ := hf 17 (by decide)
              (try simp (disch := first | rfl | decide) only [Rel7.mask_in] at f17)
              have f18 : xs 18 = _ := hf 18 (by decide)
              (try simp (disch := first | rfl | decide) only [Rel7.mask_in] at f18)
              have f19 : xs 19 = _ := hf 19 (by decide)
              (try simp (disch := first | rfl | decide) only [Rel7.mask_in] at f19)
              have f20 : xs 20 = (undef) := hf 20 (by decide)
              have f21 : xs 21 = (undef) := hf 21 (by decide)
              have f22 : xs 22 = (undef) := hf 22 (by decide)
              have f23 : xs 23 = _ := hf 23 (by decide)
              (try simp (disch := first | rfl | decide) only [Rel7.mask_in] at f23)
              have f24 : xs 24 = _ := hf 24 (by decide)
              (try simp (disch := first | rfl | decide) only [Rel7.mask_in] at f24)
              have hb0 : Below 0 x21 x22 := undrew (hbe 0 (Nat.zero_le _) (fun _ _ => Nat.zero_le _))
              have hgr : ∀ j, j < x21.heap.size → (∀ q, q < 0 → (fun q => 0) q ≠ j) → x22.heap[j]? = x21.heap[j]? := hbl
              clear hbe hbl hf
              have hb : Below x21.heap.size x21 x22 := ⟨hb0.os, hb0.tape, hb0.output, hb0.size, fun q hq => hgr q hq (fun q h => absurd h (Nat.not_lt_zero _))⟩
              refine Rel7.rest_done ?_
              simp only [Rel7.fill, List.setIfInBounds_toArray, List.set_cons_zero, List.set_cons_succ, f0, f1, f2, f3, f4, f5, f6, f7, f8, f9, f10, f11, f12, f13, f14, f15, f16, f17, f18, f19, f20, f21, f22, f23, f24]
              clear hb0 hgr hog hlt_4 hlt_6 f0 f1 f2 f3 f4 f5 f6 f7 f8 f9 f10 f11 f12 f13 f14 f15 f16 f17 f18 f19 f20 f21 f22 f23 f24
              replace HB4 := kBV hb HB4
              replace HB6 := kBV hb HB6
              replace HI := Lib.hid (HI.out.trans (hb.mono HI.out.size))
              replace HAR := Lib.hid (VR.below HAR.out hb)
              replace HAC := Lib.hid (VC.below HAC.out hb)
              replace HJ := Lib.hid (HJ.out.trans (hb.mono HJ.out.size))
              replace HBR := Lib.hid (VR.below HBR.out hb)
              replace HBC := Lib.hid (VC.below HBC.out hb)
              replace hb := Lib.hid hb
              go_wp2_with fail
              go_loopw [52] (LoopB x22 n) (fun i _ => n - (intOf i).toNat)
              case atStart => exact ⟨0, rfl, Nat.zero_le _, Lib.hid (Below.refl _ _)⟩
              case round =>
                obtain ⟨m, rfl, hm, HM⟩ := hrel
                obtain ⟨wc, rfl⟩ : ∃ q, q = wr := ⟨_, rfl⟩
                have HB4 := kBV HM.out HB4
                have HB6 := kBV HM.out HB6
                have HI := Lib.hid (HI.out.trans (HM.out.mono HI.out.size))
                have HAR := Lib.hid (VR.below HAR.out HM.out)
                have HAC := Lib.hid (VC.below HAC.out HM.out)
                have HJ := Lib.hid (HJ.out.trans (HM.out.mono HJ.out.size))
                have HBR := Lib.hid (VR.below HBR.out HM.out)
                have HBC := Lib.hid (VC.below HBC.out HM.out)
                by_cases hlt3 : m < n
                · have hzc : m < rs.length := by rw [← HN.out]; exact hlt3
                  obtain ⟨ca, cu, ck, cb, co, cl, cc, cd, cp, cm, cq, cre, hne, ⟨c0, c1, c2, c3, c4⟩, -, hnr, hnv⟩ := (HL.out.below HI.out).unitAt hzc
                  injection cre with cre
                  subst cre
                  have HCE := Lib.hid hne
                  have HCR := Lib.hid hnr
                  have HCC : Hid (VC wc (.agg #[.int .i64 ck, .bool cb, .slice co cl cc, .bool cd, .slice cp cm cq]) cu.x) := Lib.hid (vc_of hnv hnr)
                  clear hne hnr hnv
                  obtain ⟨x61, k8, e8, ek8, hb8, hk8, HB8⟩ := newV wc #[.int .i64 ck, .bool cb, .slice co cl cc, .bool cd, .slice cp cm cq] 30
                  replace HB4 := kBV hb8.out HB4
                  replace HB6 := kBV hb8.out HB6
                  replace HI := Lib.hid (HI.out.trans (hb8.out.mono HI.out.size))
                  replace HAR := Lib.hid (VR.below HAR.out hb8.out)
                  replace HAC := Lib.hid (VC.below HAC.out hb8.out)
                  replace HJ := Lib.hid (HJ.out.trans (hb8.out.mono HJ.out.size))
                  replace HBR := Lib.hid (VR.below HBR.out hb8.out)
                  replace HBC := Lib.hid (VC.below HBC.out hb8.out)
                  replace HM := Lib.hid (HM.out.trans (hb8.out.mono HM.out.size))
                  replace HCR := Lib.hid (VR.below HCR.out hb8.out)
                  replace HCC := Lib.hid (VC.below HCC.out hb8.out)
                  have g0 := cell_at (v := .int .i64 ak) HB4.out 0 rfl
                  have fg0 := froz_at HB4.out 0
                  have g1 := cell_at (v := .bool ab) HB4.out 1 rfl
                  have fg1 := froz_at HB4.out 1
                  have g2 := cell_at (v := .slice ao al ac) HB4.out 2 rfl
                  have fg2 := froz_at HB4.out 2
                  have g3 := cell_at (v := .bool ad) HB4.out 3 rfl
                  have fg3 := froz_at HB4.out 3
                  have g4 := cell_at (v := .slice ap am aq) HB4.out 4 rfl
                  have fg4 := froz_at HB4.out 4
                  have h0 := cell_at (v := .int .i64 bk) HB6.out 0 rfl
                  have fh0 := froz_at HB6.out 0
                  have h1 := cell_at (v := .bool bb) HB6.out 1 rfl
                  have fh1 := froz_at HB6.out 1
                  have h2 := cell_at (v := .slice bo bl bc) HB6.out 2 rfl
                  have fh2 := froz_at HB6.out 2
                  have h3 := cell_at (v := .bool bd) HB6.out 3 rfl
                  have fh3 := froz_at HB6.out 3
                  have h4 := cell_at (v := .slice bp bm bq) HB6.out 4 rfl
                  have fh4 := froz_at HB6.out 4
                  have i0 := cell_at (v := .int .i64 ck) HB8.out 0 rfl
                  have fi0 := froz_at HB8.out 0
                  have i1 := cell_at (v := .bool cb) HB8.out 1 rfl
                  have fi1 := froz_at HB8.out 1
                  have i2 := cell_at (v := .slice co cl cc) HB8.out 2 rfl
                  have fi2 := froz_at HB8.out 2
                  have i3 := cell_at (v := .bool cd) HB8.out 3 rfl
                  have fi3 := froz_at HB8.out 3
                  have i4 := cell_at (v := .slice cp cm cq) HB8.out 4 rfl
                  have fi4 := froz_at HB8.out 4
                  go_wp2_with fail
                  refine (same_p _ _ au.x bu.x x61 HAC.out HBC.out).mono ?_
                  rintro e x62 ⟨rfl, hb⟩
                  rw [hdab]
                  clear g0 fg0 g1 fg1 g2 fg2 g3 fg3 g4 fg4 h0 fh0 h1 fh1 h2 fh2 h3 fh3 h4 fh4 i0 fi0 i1 fi1 i2 fi2 i3 fi3 i4 fi4
                  replace HB4 := kBV hb HB4
                  replace HB6 := kBV hb HB6
                  replace HB8 := kBV hb HB8
                  replace HI := Lib.hid (HI.out.trans (hb.mono HI.out.size))
                  replace HAR := Lib.hid (VR.below HAR.out hb)
                  replace HAC := Lib.hid (VC.below HAC.out hb)
                  replace HJ := Lib.hid (HJ.out.trans (hb.mono HJ.out.size))
                  replace HBR := Lib.hid (VR.below HBR.out hb)
                  replace HBC := Lib.hid (VC.below HBC.out hb)
                  replace HM := Lib.hid (HM.out.trans (hb.mono HM.out.size))
                  replace HCR := Lib.hid (VR.below HCR.out hb)
                  replace HCC := Lib.hid (VC.below HCC.out hb)
                  clear hb
                  have g0 := cell_at (v := .int .i64 ak) HB4.out 0 rfl
                  have fg0 := froz_at HB4.out 0
                  have g1 := cell_at (v := .bool ab) HB4.out 1 rfl
                  have fg1 := froz_at HB4.out 1
                  have g2 := cell_at (v := .slice ao al ac) HB4.out 2 rfl
                  have fg2 := froz_at HB4.out 2
                  have g3 := cell_at (v := .bool ad) HB4.out 3 rfl
                  have fg3 := froz_at HB4.out 3
                  have g4 := cell_at (v := .slice ap am aq) HB4.out 4 rfl
                  have fg4 := froz_at HB4.out 4
                  have h0 := cell_at (v := .int .i64 bk) HB6.out 0 rfl
                  have fh0 := froz_at HB6.out 0
                  have h1 := cell_at (v := .bool bb) HB6.out 1 rfl
                  have fh1 := froz_at HB6.out 1
                  have h2 := cell_at (v := .slice bo bl bc) HB6.out 2 rfl
                  have fh2 := froz_at HB6.out 2
                  have h3 := cell_at (v := .bool bd) HB6.out 3 rfl
                  have fh3 := froz_at HB6.out 3
                  have h4 := cell_at (v := .slice bp bm bq) HB6.out 4 rfl
                  have fh4 := froz_at HB6.out 4
                  have i0 := cell_at (v := .int .i64 ck) HB8.out 0 rfl
                  have fi0 := froz_at HB8.out 0
                  have i1 := cell_at (v := .bool cb) HB8.out 1 rfl
                  have fi1 := froz_at HB8.out 1
                  have i2 := cell_at (v := .slice co cl cc) HB8.out 2 rfl
                  have fi2 := froz_at HB8.out 2
                  have i3 := cell_at (v := .bool cd) HB8.out 3 rfl
                  have fi3 := froz_at HB8.out 3
                  have i4 := cell_at (v := .slice cp cm cq) HB8.out 4 rfl
                  have fi4 := froz_at HB8.out 4
                  go_wp2_with fail
                  go_roundw
                  case rel => exact ⟨m + 1, by go_num, hlt3, HM⟩
                  case measure => simp [intOf]; omega
                · go_upto_region 18 with fail
                  have hlt_4 := lt_of_block HB4.out
                  have hlt_6 := lt_of_block HB6.out
                  have hog : Hid (∀ q, q < 0 → (fun q => 0) q < wc.heap.size) := Lib.hid (fun q h => absurd h (Nat.not_lt_zero _))
                  refine Rel7.region (by kernel_rfl) [[], [], [0, 1], [], [], [3, 4], [0, 1, 2, 3, 4, 5], [], [], [0, 1, 2, 3, 4, 5, 6, 7, 8], [0, 1, 2, 3, 4, 5, 6, 7, 8, 9]] [] [] (fun q => 0) 0 11 (by kernel_rfl) (by kernel_rfl) (by rfl) hog.out (fun q q' h h' hn => absurd hn (by omega)) ?_
                  refine Rel7.Chain.det ?_ (by rfl) (fun T xs wr hA => ?_) ?_
                  rotate_left 1
                  · have e4 := hA.pre 4 (by kernel_rfl)
                    simp only [List.getElem?_toArray, List.getElem?_cons_succ, List.getElem?_cons_zero] at e4
                    have hBq : wr.heap[k4]? = _ := (hA.bl _ hlt_4 (fun q h => absurd h (Nat.not_lt_zero _))).trans HB4.out
                    have q0 := cell_at (v := .int .i64 ak) hBq 0 rfl
                    have q1 := cell_at (v := .bool ab) hBq 1 rfl
                    have q2 := cell_at (v := .slice ao al ac) hBq 2 rfl
                    have q3 := cell_at (v := .bool ad) hBq 3 rfl
                    have q4 := cell_at (v := .slice ap am aq) hBq 4 rfl
                    clear hBq
                    clear hA
                    refine ⟨(by rfl), ?_⟩
                    go_simp <;> (try with_reducible rfl)
                  refine Rel7.Chain.det ?_ (by rfl) (fun T xs wr hA => ?_) ?_
                  rotate_left 1
                  · have e6 := hA.pre 6 (by kernel_rfl)
                    simp only [List.getElem?_toArray, List.getElem?_cons_succ, List.getElem?_cons_zero] at e6
                    have hBq : wr.heap[k6]? = _ := (hA.bl _ hlt_6 (fun q h => absurd h (Nat.not_lt_zero _))).trans HB6.out
                    have q0 := cell_at (v := .int .i64 bk) hBq 0 rfl
                    have q1 := cell_at (v := .bool bb) hBq 1 rfl
                    have q2 := cell_at (v := .slice bo bl bc) hBq 2 rfl
                    have q3 := cell_at (v := .bool bd) hBq 3 rfl
                    have q4 := cell_at (v := .slice bp bm bq) hBq 4 rfl
                    clear hBq
                    clear hA
                    refine ⟨(by rfl), ?_⟩
                    go_simp <;> (try with_reducible rfl)
                  refine Rel7.Chain.call (fun xs v w => VL w v [au.x, bu.x]) (fun _ _ _ _ h hb => VL.below h hb) (fun _ _ _ _ _ _ h _ => by obtain ⟨q, hq, _⟩ := h; exact absurd hq (Nat.not_lt_zero _)) (by rfl) (fun T xs wr hA => ?_) ?_
                  · have hsw := (hA.be 0 (Nat.zero_le _) (fun _ _ => Nat.zero_le _)).size
                    have e71 := hA.tm 0 71 (by rfl) (by rfl)
                    have f71 : xs 0 = _ := hA.fa 0 (by rfl)
                    (try simp (disch := first | rfl | decide) only [Rel7.mask_in] at f71)
                    rw [f71] at e71
                    clear f71
                    have e72 := hA.tm 1 72 (by rfl) (by rfl)
                    have f72 : xs 1 = _ := hA.fa 1 (by rfl)
                    (try simp (disch := first | rfl | decide) only [Rel7.mask_in] at f72)
                    rw [f72] at e72
                    clear f72
                    have hbw := undrew (hA.be wc.heap.size (Nat.le_refl _) (fun q h => absurd h (Nat.not_lt_zero q)))
                    clear hA
                    refine ⟨(by rfl), fun K hK => ?_⟩
                    go_simp
                    exact hK.out _ _ ⟨[au, bu], two_atV (heap_alloc_new wr _) HAE.out HBE.out (VR.below (VR.below HAR.out hbw) ((Below.refl _ _).alloc (Nat.le_refl _) _)) (VR.below (VR.below HBR.out hbw) ((Below.refl _ _).alloc (Nat.le_refl _) _)), rfl⟩ ((Below.refl _ _).alloc (Nat.le_refl _) _)
                  refine Rel7.Chain.det ?_ (by rfl) (fun T xs wr hA => ?_) ?_
                  rotate_left 1
                  · have e6 := hA.pre 6 (by kernel_rfl)
                    simp only [List.getElem?_toArray, List.getElem?_cons_succ, List.getElem?_cons_zero] at e6
                    have hBq : wr.heap[k6]? = _ := (hA.bl _ hlt_6 (fun q h => absurd h (Nat.not_lt_zero _))).trans HB6.out
                    have q0 := cell_at (v := .int .i64 bk) hBq 0 rfl
                    have q1 := cell_at (v := .bool bb) hBq 1 rfl
                    have q2 := cell_at (v := .slice bo bl bc) hBq 2 rfl
                    have q3 := cell_at (v := .bool bd) hBq 3 rfl
                    have q4 := cell_at (v := .slice bp bm bq) hBq 4 rfl
                    clear hBq
                    clear hA
                    refine ⟨(by rfl), ?_⟩
                    go_simp <;> (try with_reducible rfl)
                  refine Rel7.Chain.det ?_ (by rfl) (fun T xs wr hA => ?_) ?_
                  rotate_left 1
                  · have e4 := hA.pre 4 (by kernel_rfl)
                    simp only [List.getElem?_toArray, List.getElem?_cons_succ, List.getElem?_cons_zero] at e4
                    have hBq : wr.heap[k4]? = _ := (hA.bl _ hlt_4 (fun q h => absurd h (Nat.not_lt_zero _))).trans HB4.out
                    have q0 := cell_at (v := .int .i64 ak) hBq 0 rfl
                    have q1 := cell_at (v := .bool ab) hBq 1 rfl
                    have q2 := cell_at (v := .slice ao al ac) hBq 2 rfl
                    have q3 := cell_at (v := .bool ad) hBq 3 rfl
                    have q4 := cell_at (v := .slice ap am aq) hBq 4 rfl
                    clear hBq
                    clear hA
                    refine ⟨(by rfl), ?_⟩
                    go_simp <;> (try with_reducible rfl)
                  refine Rel7.Chain.call (fun xs v w => VL w v [bu.x, au.x]) (fun _ _ _ _ h hb => VL.below h hb) (fun _ _ _ _ _ _ h _ => by obtain ⟨q, hq, _⟩ := h; exact absurd hq (Nat.not_lt_zero _)) (by rfl) (fun T xs wr hA => ?_) ?_
                  · have hsw := (hA.be 0 (Nat.zero_le _) (fun _ _ => Nat.zero_le _)).size
                    have e74 := hA.tm 3 74 (by rfl) (by rfl)
                    have f74 : xs 3 = _ := hA.fa 3 (by rfl)
                    (try simp (disch := first | rfl | decide) only [Rel7.mask_in] at f74)
                    rw [f74] at e74
                    clear f74
                    have e75 := hA.tm 4 75 (by rfl) (by rfl)
                    have f75 : xs 4 = _ := hA.fa 4 (by rfl)
                    (try simp (disch := first | rfl | decide) only [Rel7.mask_in] at f75)
                    rw [f75] at e75
                    clear f75
                    have hbw := undrew (hA.be wc.heap.size (Nat.le_refl _) (fun q h => absurd h (Nat.not_lt_zero q)))
                    clear hA
                    refine ⟨(by rfl), fun K hK => ?_⟩
                    go_simp
                    exact hK.out _ _ ⟨[bu, au], two_atV (heap_alloc_new wr _) HBE.out HAE.out (VR.below (VR.below HBR.out hbw) ((Below.refl _ _).alloc (Nat.le_refl _) _)) (VR.below (VR.below HAR.out hbw) ((Below.refl _ _).alloc (Nat.le_refl _) _)), rfl⟩ ((Below.refl _ _).alloc (Nat.le_refl _) _)
                  refine Rel7.Chain.call (fun xs v w => v = .bool false) (fun _ _ _ _ h _ => h) (fun _ _ _ _ _ h _ _ => h) (by rfl) (fun T xs wr hA => ?_) ?_
                  · have hsw := (hA.be 0 (Nat.zero_le _) (fun _ _ => Nat.zero_le _)).size
                    have e73 := hA.tm 2 73 (by rfl) (by rfl)
                    have e76 := hA.tm 5 76 (by rfl) (by rfl)
                    have hF2 : VL wr (xs 2) [au.x, bu.x] := hA.fa 2 (by rfl)
                    have h2 := hF2
                    have hF5 : VL wr (xs 5) [bu.x, au.x] := hA.fa 5 (by rfl)
                    have h5 := hF5
                    clear hA
                    refine ⟨(by rfl), fun K hK => ?_⟩
                    go_simp
                    refine (sameAll_p _ _ [au.x, bu.x] [bu.x, au.x] wr h2 h5).mono ?_
                    rintro e w' ⟨rfl, hb'⟩
                    exact hK.out _ _ (by rw [decide_eq_decide.2 (pair_swap au.x bu.x), hdab]) hb'
                  refine Rel7.Chain.det ?_ (by rfl) (fun T xs wr hA => ?_) ?_
                  rotate_left 1
                  · have e4 := hA.pre 4 (by kernel_rfl)
                    simp only [List.getElem?_toArray, List.getElem?_cons_succ, List.getElem?_cons_zero] at e4
                    have hBq : wr.heap[k4]? = _ := (hA.bl _ hlt_4 (fun q h => absurd h (Nat.not_lt_zero _))).trans HB4.out
                    have q0 := cell_at (v := .int .i64 ak) hBq 0 rfl
                    have q1 := cell_at (v := .bool ab) hBq 1 rfl
                    have q2 := cell_at (v := .slice ao al ac) hBq 2 rfl
                    have q3 := cell_at (v := .bool ad) hBq 3 rfl
                    have q4 := cell_at (v := .slice ap am aq) hBq 4 rfl
                    clear hBq
                    clear hA
                    refine ⟨(by rfl), ?_⟩
                    go_simp <;> (try with_reducible rfl)
                  refine Rel7.Chain.det ?_ (by rfl) (fun T xs wr hA => ?_) ?_
                  rotate_left 1
                  · have e6 := hA.pre 6 (by kernel_rfl)
                    simp only [List.getElem?_toArray, List.getElem?_cons_succ, List.getElem?_cons_zero] at e6
                    have hBq : wr.heap[k6]? = _ := (hA.bl _ hlt_6 (fun q h => absurd h (Nat.not_lt_zero _))).trans HB6.out
                    have q0 := cell_at (v := .int .i64 bk) hBq 0 rfl
                    have q1 := cell_at (v := .bool bb) hBq 1 rfl
                    have q2 := cell_at (v := .slice bo bl bc) hBq 2 rfl
                    have q3 := cell_at (v := .bool bd) hBq 3 rfl
                    have q4 := cell_at (v := .slice bp bm bq) hBq 4 rfl
                    clear hBq
                    clear hA
                    refine ⟨(by rfl), ?_⟩
                    go_simp <;> (try with_reducible rfl)
                  refine Rel7.Chain.call (fun xs v w => v = .bool false) (fun _ _ _ _ h _ => h) (fun _ _ _ _ _ h _ _ => h) (by rfl) (fun T xs wr hA => ?_) ?_
                  · have hsw := (hA.be 0 (Nat.zero_le _) (fun _ _ => Nat.zero_le _)).size
                    have e78 := hA.tm 7 78 (by rfl) (by rfl)
                    have f78 : xs 7 = _ := hA.fa 7 (by rfl)
                    (try simp (disch := first | rfl | decide) only [Rel7.mask_in] at f78)
                    rw [f78] at e78
                    clear f78
                    have e79 := hA.tm 8 79 (by rfl) (by rfl)
                    have f79 : xs 8 = _ := hA.fa 8 (by rfl)
                    (try simp (disch := first | rfl | decide) only [Rel7.mask_in] at f79)
                    rw [f79] at e79
                    clear f79
                    have hbw := undrew (hA.be wc.heap.size (Nat.le_refl _) (fun q h => absurd h (Nat.not_lt_zero q)))
                    clear hA
                    refine ⟨(by rfl), fun K hK => ?_⟩
                    go_simp
                    refine (same_p _ _ au.x bu.x wr (VC.below HAC.out hbw) (VC.below HBC.out hbw)).mono ?_
                    rintro e w' ⟨rfl, hb'⟩
                    exact hK.out _ _ (by rw [hdab]) hb'
                  refine Rel7.Chain.det ?_ (by rfl) (fun T xs wr hA => ?_) ?_
                  rotate_left 1
                  · have e77 := hA.tm 6 77 (by rfl) (by rfl)
                    have f77 : xs 6 = (.bool false) := hA.fa 6 (by rfl)
                    rw [f77] at e77
                    clear f77
                    have e80 := hA.tm 9 80 (by rfl) (by rfl)
                    have f80 : xs 9 = (.bool false) := hA.fa 9 (by rfl)
                    rw [f80] at e80
                    clear f80
                    clear hA
                    refine ⟨(by rfl), ?_⟩
                    go_simp <;> (try with_reducible rfl)
                  refine Rel7.Chain.done (fun xs x81 hL => ?_)
                  obtain ⟨⟨hbe, hbl⟩, hf, -, -⟩ := hL
                  have f0 : xs 0 = _ := hf 0 (by decide)
                  (try simp (disch := first | rfl | decide) only [Rel7.mask_in] at f0)
                  have f1 : xs 1 = _ := hf 1 (by decide)
                  (try simp (disch := first | rfl | decide) only [Rel7.mask_in] at f1)
                  have F2 : VL x81 (xs 2) [au.x, bu.x] := hf 2 (by decide)
                  have f3 : xs 3 = _ := hf 3 (by decide)
                  (try simp (disch := first | rfl | decide) only [Rel7.mask_in] at f3)
                  have f4 : xs 4 = _ := hf 4 (by decide)
                  (try simp (disch := first | rfl | decide) only [Rel7.mask_in] at f4)
                  have F5 : VL x81 (xs 5) [bu.x, au.x] := hf 5 (by decide)
                  have f6 : xs 6 = (.bool false) := hf 6 (by decide)
                  have f7 : xs 7 = _ := hf 7 (by decide)
                  (try simp (disch := first | rfl | decide) only [Rel7.mask_in] at f7)
                  have f8 : xs 8 = _ := hf 8 (by decide)
                  (try simp (disch := first | rfl | decide) only [Rel7.mask_in] at f8)
                  have f9 : xs 9 = (.bool false) := hf 9 (by decide)
                  have f10 : xs 10 = _ := hf 10 (by decide)
                  (try simp (disch := first | rfl | decide) only [Rel7.mask_in] at f10)
                  have hb0 : Below 0 wc x81 := undrew (hbe 0 (Nat.zero_le _) (fun _ _ => Nat.zero_le _))
                  have hgr : ∀ j, j < wc.heap.size → (∀ q, q < 0 → (fun q => 0) q ≠ j) → x81.heap[j]? = wc.heap[j]? := hbl
                  clear hbe hbl hf
                  have hb : Below wc.heap.size wc x81 := ⟨hb0.os, hb0.tape, hb0.output, hb0.size, fun q hq => hgr q hq (fun q h => absurd h (Nat.not_lt_zero _))⟩
                  refine Rel7.rest_done ?_
                  simp only [Rel7.fill, List.setIfInBounds_toArray, List.set_cons_zero, List.set_cons_succ, f0, f1, f3, f4, f6, f7, f8, f9, f10]
                  clear hb0 hgr hog hlt_4 hlt_6 f0 f1 f3 f4 f6 f7 f8 f9 f10
                  replace HB4 := kBV hb HB4
                  replace HB6 := kBV hb HB6
                  replace HI := Lib.hid (HI.out.trans (hb.mono HI.out.size))
                  replace HAR := Lib.hid (VR.below HAR.out hb)
                  replace HAC := Lib.hid (VC.below HAC.out hb)
                  replace HJ := Lib.hid (HJ.out.trans (hb.mono HJ.out.size))
                  replace HBR := Lib.hid (VR.below HBR.out hb)
                  replace HBC := Lib.hid (VC.below HBC.out hb)
                  replace hb := Lib.hid hb
                  go_wp2_with fail
                  go_roundw
                  case rel => exact ⟨j + 1, by go_num, hlt2, HJ⟩
                  case measure => simp [intOf]; omega
            · have hk1 : (ak != bk) = true := bne_iff_ne.2 hkk
              clear hkk
              skip
              go_upto_region 10 with fail
              have hlt_4 := lt_of_block HB4.out
              have hlt_6 := lt_of_block HB6.out
              have hog : Hid (∀ q, q < 0 → (fun q => 0) q < x21.heap.size) := Lib.hid (fun q h => absurd h (Nat.not_lt_zero _))
              refine Rel7.region (by kernel_rfl) [[], [], [0, 1], [], [], [0, 1, 2, 3, 4], [0, 1, 2, 3, 4, 5], [0, 1, 2, 3, 4, 5, 6], [0, 1, 2, 3, 4, 5, 6, 7], [0, 1, 2, 3, 4, 5, 6, 7], [0, 1, 2, 3, 4, 5, 6, 7, 8, 9], [0, 1, 2, 3, 4, 5, 6, 7, 8, 9, 10], [0, 1, 2, 3, 4, 5, 6, 7, 8, 9, 10, 11], [0, 1, 2, 3, 4, 5, 6, 7, 8, 9, 10, 11, 12], [0, 1, 2, 3, 4, 5, 6, 7, 8, 9, 10, 11, 12, 13], [0, 1, 2, 3, 4, 5, 6, 7, 8, 9, 10, 11, 12, 13, 14], [0, 1, 2, 3, 4, 5, 6, 7, 8, 9, 10, 11, 12, 13], [0, 1, 2, 3, 4, 5, 6, 7, 8, 9, 10, 11, 12, 13, 16], [0, 1, 2, 3, 4, 5, 6, 7, 8, 9, 10, 11, 12, 13, 14, 15, 16, 17], [0, 1, 2, 3, 4, 5, 6, 7, 8, 9, 10, 11, 12, 13, 14, 15, 16, 17, 18], [0, 1, 2, 3, 4, 5, 6, 7, 8, 9, 10, 11, 12, 13, 14, 15, 16, 17, 18, 19], [0, 1, 2, 3, 4, 5, 6, 7, 8, 9, 10, 11, 12, 13, 14, 15, 16, 17, 18, 19], [0, 1, 2, 3, 4, 5, 6, 7, 8, 9, 10, 11, 12, 13, 14, 15, 16, 17, 18, 19, 20, 21], [0, 1, 2, 3, 4, 5, 6, 7, 8, 9, 10, 11, 12, 13, 14, 15, 16, 17, 18, 19, 20, 21, 22], [0, 1, 2, 3, 4, 5, 6, 7, 8, 9, 10, 11, 12, 13, 14, 15, 16, 17, 18, 19, 20, 21, 22, 23]] [] [] (fun q => 0) 0 25 (by kernel_rfl) (by kernel_rfl) (by rfl) hog.out (fun q q' h h' hn => absurd hn (by omega)) ?_
              refine Rel7.Chain.det ?_ (by rfl) (fun T xs wr hA => ?_) ?_
              rotate_left 1
              · have e4 := hA.pre 4 (by kernel_rfl)
                simp only [List.getElem?_toArray, List.getElem?_cons_succ, List.getElem?_cons_zero] at e4
                have hBq : wr.heap[k4]? = _ := (hA.bl _ hlt_4 (fun q h => absurd h (Nat.not_lt_zero _))).trans HB4.out
                have q0 := cell_at (v := .int .i64 ak) hBq 0 rfl
                have q1 := cell_at (v := .bool ab) hBq 1 rfl
                have q2 := cell_at (v := .slice ao al ac) hBq 2 rfl
                have q3 := cell_at (v := .bool ad) hBq 3 rfl
                have q4 := cell_at (v := .slice ap am aq) hBq 4 rfl
                clear hBq
                clear hA
                refine ⟨(by rfl), ?_⟩
                go_simp <;> (try with_reducible rfl)
              refine Rel7.Chain.det ?_ (by rfl) (fun T xs wr hA => ?_) ?_
              rotate_left 1
              · have e6 := hA.pre 6 (by kernel_rfl)
                simp only [List.getElem?_toArray, List.getElem?_cons_succ, List.getElem?_cons_zero] at e6
                have hBq : wr.heap[k6]? = _ := (hA.bl _ hlt_6 (fun q h => absurd h (Nat.not_lt_zero _))).trans HB6.out
                have q0 := cell_at (v := .int .i64 bk) hBq 0 rfl
                have q1 := cell_at (v := .bool bb) hBq 1 rfl
                have q2 := cell_at (v := .slice bo bl bc) hBq 2 rfl
                have q3 := cell_at (v := .bool bd) hBq 3 rfl
                have q4 := cell_at (v := .slice bp bm bq) hBq 4 rfl
                clear hBq
                clear hA
                refine ⟨(by rfl), ?_⟩
                go_simp <;> (try with_reducible rfl)
              refine Rel7.Chain.call (fun xs v w => v = .bool false) (fun _ _ _ _ h _ => h) (fun _ _ _ _ _ h _ _ => h) (by rfl) (fun T xs wr hA => ?_) ?_
              · have hsw := (hA.be 0 (Nat.zero_le _) (fun _ _ => Nat.zero_le _)).size
                have e25 := hA.tm 0 25 (by rfl) (by rfl)
                have f25 : xs 0 = _ := hA.fa 0 (by rfl)
                (try simp (disch := first | rfl | decide) only [Rel7.mask_in] at f25)
                rw [f25] at e25
                clear f25
                have e26 := hA.tm 1 26 (by rfl) (by rfl)
                have f26 : xs 1 = _ := hA.fa 1 (by rfl)
                (try simp (disch := first | rfl | decide) only [Rel7.mask_in] at f26)
                rw [f26] at e26
                clear f26
                have hbw := undrew (hA.be x21.heap.size (Nat.le_refl _) (fun q h => absurd h (Nat.not_lt_zero q)))
                clear hA
                refine ⟨(by rfl), fun K hK => ?_⟩
                go_simp
                refine (same_p _ _ au.x bu.x wr (VC.below HAC.out hbw) (VC.below HBC.out hbw)).mono ?_
                rintro e w' ⟨rfl, hb'⟩
                exact hK.out _ _ (by rw [hdab]) hb'
              refine Rel7.Chain.det ?_ (by rfl) (fun T xs wr hA => ?_) ?_
              rotate_left 1
              · have e6 := hA.pre 6 (by kernel_rfl)
                simp only [List.getElem?_toArray, List.getElem?_cons_succ, List.getElem?_cons_zero] at e6
                have hBq : wr.heap[k6]? = _ := (hA.bl _ hlt_6 (fun q h => absurd h (Nat.not_lt_zero _))).trans HB6.out
                have q0 := cell_at (v := .int .i64 bk) hBq 0 rfl
                have q1 := cell_at (v := .bool bb) hBq 1 rfl
                have q2 := cell_at (v := .slice bo bl bc) hBq 2 rfl
                have q3 := cell_at (v := .bool bd) hBq 3 rfl
                have q4 := cell_at (v := .slice bp bm bq) hBq 4 rfl
                clear hBq
                clear hA
                refine ⟨(by rfl), ?_⟩
                go_simp <;> (try with_reducible rfl)
              refine Rel7.Chain.det ?_ (by rfl) (fun T xs wr hA => ?_) ?_
              rotate_left 1
              · have e4 := hA.pre 4 (by kernel_rfl)
                simp only [List.getElem?_toArray, List.getElem?_cons_succ, List.getElem?_cons_zero] at e4
                have hBq : wr.heap[k4]? = _ := (hA.bl _ hlt_4 (fun q h => absurd h (Nat.not_lt_zero _))).trans HB4.out
                have q0 := cell_at (v := .int .i64 ak) hBq 0 rfl
                have q1 := cell_at (v := .bool ab) hBq 1 rfl
                have q2 := cell_at (v := .slice ao al ac) hBq 2 rfl
                have q3 := cell_at (v := .bool ad) hBq 3 rfl
                have q4 := cell_at (v := .slice ap am aq) hBq 4 rfl
                clear hBq
                clear hA
                refine ⟨(by rfl), ?_⟩
                go_simp <;> (try with_reducible rfl)
              refine Rel7.Chain.call (fun xs v w => v = .bool false) (fun _ _ _ _ h _ => h) (fun _ _ _ _ _ h _ _ => h) (by rfl) (fun T xs wr hA => ?_) ?_
              · have hsw := (hA.be 0 (Nat.zero_le _) (fun _ _ => Nat.zero_le _)).size
                have e28 := hA.tm 3 28 (by rfl) (by rfl)
                have f28 : xs 3 = _ := hA.fa 3 (by rfl)
                (try simp (disch := first | rfl | decide) only [Rel7.mask_in] at f28)
                rw [f28] at e28
                clear f28
                have e29 := hA.tm 4 29 (by rfl) (by rfl)
                have f29 : xs 4 = _ := hA.fa 4 (by rfl)
                (try simp (disch := first | rfl | decide) only [Rel7.mask_in] at f29)
                rw [f29] at e29
                clear f29
                have hbw := undrew (hA.be x21.heap.size (Nat.le_refl _) (fun q h => absurd h (Nat.not_lt_zero q)))
                clear hA
                refine ⟨(by rfl), fun K hK => ?_⟩
                go_simp
                refine (same_p _ _ bu.x au.x wr (VC.below HBC.out hbw) (VC.below HAC.out hbw)).mono ?_
                rintro e w' ⟨rfl, hb'⟩
                exact hK.out _ _ (by rw [hdba]) hb'
              refine Rel7.Chain.det ?_ (by rfl) (fun T xs wr hA => ?_) ?_
              rotate_left 1
              · have e27 := hA.tm 2 27 (by rfl) (by rfl)
                have f27 : xs 2 = (.bool false) := hA.fa 2 (by rfl)
                rw [f27] at e27
                clear f27
                have e30 := hA.tm 5 30 (by rfl) (by rfl)
                have f30 : xs 5 = (.bool false) := hA.fa 5 (by rfl)
                rw [f30] at e30
                clear f30
                clear hA
                refine ⟨(by rfl), ?_⟩
                go_simp <;> (try with_reducible rfl)
              refine Rel7.Chain.det ?_ (by rfl) (fun T xs wr hA => ?_) ?_
              rotate_left 1
              · have e31 := hA.tm 6 31 (by rfl) (by rfl)
                have f31 : xs 6 = _ := hA.fa 6 (by rfl)
                (try simp (disch := first | rfl | decide) only [Rel7.mask_in] at f31)
                rw [f31] at e31
                clear f31
                clear hA
                refine ⟨(by rfl), ?_⟩
                go_simp <;> (try with_reducible rfl)
              refine Rel7.Chain.det ?_ (by rfl) (fun T xs wr hA => ?_) ?_
              rotate_left 1
              · have e32 := hA.tm 7 32 (by rfl) (by rfl)
                have f32 : xs 7 = _ := hA.fa 7 (by rfl)
                (try simp (disch := first | rfl | decide) only [Rel7.mask_in] at f32)
                rw [f32] at e32
                clear f32
                have e4 := hA.pre 4 (by kernel_rfl)
                simp only [List.getElem?_toArray, List.getElem?_cons_succ, List.getElem?_cons_zero] at e4
                have hBq : wr.heap[k4]? = _ := (hA.bl _ hlt_4 (fun q h => absurd h (Nat.not_lt_zero _))).trans HB4.out
                have q0 := cell_at (v := .int .i64 ak) hBq 0 rfl
                have q1 := cell_at (v := .bool ab) hBq 1 rfl
                have q2 := cell_at (v := .slice ao al ac) hBq 2 rfl
                have q3 := cell_at (v := .bool ad) hBq 3 rfl
                have q4 := cell_at (v := .slice ap am aq) hBq 4 rfl
                clear hBq
                clear hA
                refine ⟨((Rely.wanted_at rfl (by rfl) e32).trans (by rfl)), ?_⟩
                go_simp <;> (try with_reducible rfl)
              refine Rel7.Chain.det ?_ (by rfl) (fun T xs wr hA => ?_) ?_
              rotate_left 1
              · have e32 := hA.tm 7 32 (by rfl) (by rfl)
                have f32 : xs 7 = _ := hA.fa 7 (by rfl)
                (try simp (disch := first | rfl | decide) only [Rel7.mask_in] at f32)
                rw [f32] at e32
                clear f32
                have e4 := hA.pre 4 (by kernel_rfl)
                simp only [List.getElem?_toArray, List.getElem?_cons_succ, List.getElem?_cons_zero] at e4
                have hBq : wr.heap[k4]? = _ := (hA.bl _ hlt_4 (fun q h => absurd h (Nat.not_lt_zero _))).trans HB4.out
                have q0 := cell_at (v := .int .i64 ak) hBq 0 rfl
                have q1 := cell_at (v := .bool ab) hBq 1 rfl
                have q2 := cell_at (v := .slice ao al ac) hBq 2 rfl
                have q3 := cell_at (v := .bool ad) hBq 3 rfl
                have q4 := cell_at (v := .slice ap am aq) hBq 4 rfl
                clear hBq
                clear hA
                refine ⟨((Rely.wanted_at rfl (by rfl) e32).trans (by rfl)), ?_⟩
                go_simp <;> (try with_reducible rfl)
              refine Rel7.Chain.call (fun xs v w => v = .bool true) (fun _ _ _ _ h _ => h) (fun _ _ _ _ _ h _ _ => h) (by rfl) (fun T xs wr hA => ?_) ?_
              · have e32 := hA.tm 7 32 (by rfl) (by rfl)
                have f32 : xs 7 = _ := hA.fa 7 (by rfl)
                (try simp (disch := first | rfl | decide) only [Rel7.mask_in] at f32)
                rw [f32] at e32
                clear f32
                have hsw := (hA.be 0 (Nat.zero_le _) (fun _ _ => Nat.zero_le _)).size
                have e33 := hA.tm 8 33 (by rfl) (by rfl)
                have f33 : xs 8 = _ := hA.fa 8 (by rfl)
                (try simp (disch := first | rfl | decide) only [Rel7.mask_in] at f33)
                rw [f33] at e33
                clear f33
                have e34 := hA.tm 9 34 (by rfl) (by rfl)
                have f34 : xs 9 = _ := hA.fa 9 (by rfl)
                (try simp (disch := first | rfl | decide) only [Rel7.mask_in] at f34)
                rw [f34] at e34
                clear f34
                have hbw := undrew (hA.be x21.heap.size (Nat.le_refl _) (fun q h => absurd h (Nat.not_lt_zero q)))
                clear hA
                refine ⟨((Rely.wanted_at rfl (by rfl) e32).trans (by rfl)), fun K hK => ?_⟩
                go_simp
                refine (same_p _ _ au.x au.x wr (VC.below HAC.out hbw) (VC.below HAC.out hbw)).mono ?_
                rintro e w' ⟨rfl, hb'⟩
                exact hK.out _ _ (by rw [hdaa]) hb'
              refine Rel7.Chain.det ?_ (by rfl) (fun T xs wr hA => ?_) ?_
              rotate_left 1
              · have e32 := hA.tm 7 32 (by rfl) (by rfl)
                have f32 : xs 7 = _ := hA.fa 7 (by rfl)
                (try simp (disch := first | rfl | decide) only [Rel7.mask_in] at f32)
                rw [f32] at e32
                clear f32
                have e35 := hA.tm 10 35 (by rfl) (by rfl)
                have f35 : xs 10 = (.bool true) := hA.fa 10 (by rfl)
                rw [f35] at e35
                clear f35
                clear hA
                refine ⟨((Rely.wanted_at rfl (by rfl) e32).trans (by rfl)), ?_⟩
                go_simp <;> (try with_reducible rfl)
              refine Rel7.Chain.det ?_ (by rfl) (fun T xs wr hA => ?_) ?_
              rotate_left 1
              · have e32 := hA.tm 7 32 (by rfl) (by rfl)
                have f32 : xs 7 = _ := hA.fa 7 (by rfl)
                (try simp (disch := first | rfl | decide) only [Rel7.mask_in] at f32)
                rw [f32] at e32
                clear f32
                have e36 := hA.tm 11 36 (by rfl) (by rfl)
                have f36 : xs 11 = _ := hA.fa 11 (by rfl)
                (try simp (disch := first | rfl | decide) only [Rel7.mask_in] at f36)
                rw [f36] at e36
                clear f36
                clear hA
                refine ⟨(by rfl), ?_⟩
                go_simp <;> (try with_reducible rfl)
              refine Rel7.Chain.det ?_ (by rfl) (fun T xs wr hA => ?_) ?_
              rotate_left 1
              · have e37 := hA.tm 12 37 (by rfl) (by rfl)
                have f37 : xs 12 = _ := hA.fa 12 (by rfl)
                (try simp (disch := first | rfl | decide) only [Rel7.mask_in] at f37)
                rw [f37] at e37
                clear f37
                clear hA
                refine ⟨(by rfl), ?_⟩
                go_simp <;> (try with_reducible rfl)
              refine Rel7.Chain.det ?_ (by rfl) (fun T xs wr hA => ?_) ?_
              rotate_left 1
              · have e38 := hA.tm 13 38 (by rfl) (by rfl)
                have f38 : xs 13 = _ := hA.fa 13 (by rfl)
                (try simp (disch := first | rfl | decide) only [Rel7.mask_in] at f38)
                rw [f38] at e38
                clear f38
                have e4 := hA.pre 4 (by kernel_rfl)
                simp only [List.getElem?_toArray, List.getElem?_cons_succ, List.getElem?_cons_zero] at e4
                clear hA
                refine ⟨((Rely.wanted_at rfl (by rfl) e38).trans (by rfl)), ?_⟩
                go_simp <;> (try with_reducible rfl)
              refine Rel7.Chain.det ?_ (by rfl) (fun T xs wr hA => ?_) ?_
              rotate_left 1
              · have e38 := hA.tm 13 38 (by rfl) (by rfl)
                have f38 : xs 13 = _ := hA.fa 13 (by rfl)
                (try simp (disch := first | rfl | decide) only [Rel7.mask_in] at f38)
                rw [f38] at e38
                clear f38
                have e39 := hA.tm 14 39 (by rfl) (by rfl)
                have f39 : xs 14 = _ := hA.fa 14 (by rfl)
                (try simp (disch := first | rfl | decide) only [Rel7.mask_in] at f39)
                rw [f39] at e39
                clear f39
                have hBq : wr.heap[k4]? = _ := (hA.bl _ hlt_4 (fun q h => absurd h (Nat.not_lt_zero _))).trans HB4.out
                have q0 := cell_at (v := .int .i64 ak) hBq 0 rfl
                have q1 := cell_at (v := .bool ab) hBq 1 rfl
                have q2 := cell_at (v := .slice ao al ac) hBq 2 rfl
                have q3 := cell_at (v := .bool ad) hBq 3 rfl
                have q4 := cell_at (v := .slice ap am aq) hBq 4 rfl
                clear hBq
                clear hA
                refine ⟨((Rely.wanted_at rfl (by rfl) e38).trans (by rfl)), ?_⟩
                go_simp <;> (try with_reducible rfl)
              refine Rel7.Chain.det ?_ (by rfl) (fun T xs wr hA => ?_) ?_
              rotate_left 1
              · have e38 := hA.tm 13 38 (by rfl) (by rfl)
                have f38 : xs 13 = _ := hA.fa 13 (by rfl)
                (try simp (disch := first | rfl | decide) only [Rel7.mask_in] at f38)
                rw [f38] at e38
                clear f38
                have e6 := hA.pre 6 (by kernel_rfl)
                simp only [List.getElem?_toArray, List.getElem?_cons_succ, List.getElem?_cons_zero] at e6
                clear hA
                refine ⟨((Rely.wanted_at rfl (by rfl) e38).trans (by rfl)), ?_⟩
                go_simp <;> (try with_reducible rfl)
              refine Rel7.Chain.det ?_ (by rfl) (fun T xs wr hA => ?_) ?_
              rotate_left 1
              · have e38 := hA.tm 13 38 (by rfl) (by rfl)
                have f38 : xs 13 = _ := hA.fa 13 (by rfl)
                (try simp (disch := first | rfl | decide) only [Rel7.mask_in] at f38)
                rw [f38] at e38
                clear f38
                have e41 := hA.tm 16 41 (by rfl) (by rfl)
                have f41 : xs 16 = _ := hA.fa 16 (by rfl)
                (try simp (disch := first | rfl | decide) only [Rel7.mask_in] at f41)
                rw [f41] at e41
                clear f41
                have hBq : wr.heap[k6]? = _ := (hA.bl _ hlt_6 (fun q h => absurd h (Nat.not_lt_zero _))).trans HB6.out
                have q0 := cell_at (v := .int .i64 bk) hBq 0 rfl
                have q1 := cell_at (v := .bool bb) hBq 1 rfl
                have q2 := cell_at (v := .slice bo bl bc) hBq 2 rfl
                have q3 := cell_at (v := .bool bd) hBq 3 rfl
                have q4 := cell_at (v := .slice bp bm bq) hBq 4 rfl
                clear hBq
                clear hA
                refine ⟨((Rely.wanted_at rfl (by rfl) e38).trans (by rfl)), ?_⟩
                go_simp <;> (try with_reducible rfl)
              refine Rel7.Chain.det ?_ (by rfl) (fun T xs wr hA => ?_) ?_
              rotate_left 1
              · have e38 := hA.tm 13 38 (by rfl) (by rfl)
                have f38 : xs 13 = _ := hA.fa 13 (by rfl)
                (try simp (disch := first | rfl | decide) only [Rel7.mask_in] at f38)
                rw [f38] at e38
                clear f38
                have e40 := hA.tm 15 40 (by rfl) (by rfl)
                have f40 : xs 15 = _ := hA.fa 15 (by rfl)
                (try simp (disch := first | rfl | decide) only [Rel7.mask_in] at f40)
                rw [f40] at e40
                clear f40
                have e42 := hA.tm 17 42 (by rfl) (by rfl)
                have f42 : xs 17 = _ := hA.fa 17 (by rfl)
                (try simp (disch := first | rfl | decide) only [Rel7.mask_in] at f42)
                rw [f42] at e42
                clear f42
                clear hA
                refine ⟨((Rely.wanted_at rfl (by rfl) e38).trans (by rfl)), ?_⟩
                go_simp <;> (try with_reducible rfl)
              refine Rel7.Chain.det ?_ (by rfl) (fun T xs wr hA => ?_) ?_
              rotate_left 1
              · have e38 := hA.tm 13 38 (by rfl) (by rfl)
                have f38 : xs 13 = _ := hA.fa 13 (by rfl)
                (try simp (disch := first | rfl | decide) only [Rel7.mask_in] at f38)
                rw [f38] at e38
                clear f38
                have e43 := hA.tm 18 43 (by rfl) (by rfl)
                have f43 : xs 18 = _ := hA.fa 18 (by rfl)
                (try simp (disch := first | rfl | decide) only [Rel7.mask_in] at f43)
                rw [f43] at e43
                clear f43
                clear hA
                refine ⟨((Rely.wanted_at rfl (by rfl) e38).trans (by rfl)), ?_⟩
                go_simp <;> (try with_reducible rfl)
              refine Rel7.Chain.det ?_ (by rfl) (fun T xs wr hA => ?_) ?_
              rotate_left 1
              · have e44 := hA.tm 19 44 (by rfl) (by rfl)
                have f44 : xs 19 = _ := hA.fa 19 (by rfl)
                (try simp (disch := first | rfl | decide) only [Rel7.mask_in] at f44)
                rw [f44] at e44
                clear f44
                have e4 := hA.pre 4 (by kernel_rfl)
                simp only [List.getElem?_toArray, List.getElem?_cons_succ, List.getElem?_cons_zero] at e4
                have hBq : wr.heap[k4]? = _ := (hA.bl _ hlt_4 (fun q h => absurd h (Nat.not_lt_zero _))).trans HB4.out
                have q0 := cell_at (v := .int .i64 ak) hBq 0 rfl
                have q1 := cell_at (v := .bool ab) hBq 1 rfl
                have q2 := cell_at (v := .slice ao al ac) hBq 2 rfl
                have q3 := cell_at (v := .bool ad) hBq 3 rfl
                have q4 := cell_at (v := .slice ap am aq) hBq 4 rfl
                clear hBq
                clear hA
                refine ⟨((Rely.wanted_at rfl (by rfl) e44).trans (by rfl)), ?_⟩
                go_simp <;> (try with_reducible rfl)
              refine Rel7.Chain.det ?_ (by rfl) (fun T xs wr hA => ?_) ?_
              rotate_left 1
              · have e44 := hA.tm 19 44 (by rfl) (by rfl)
                have f44 : xs 19 = _ := hA.fa 19 (by rfl)
                (try simp (disch := first | rfl | decide) only [Rel7.mask_in] at f44)
                rw [f44] at e44
                clear f44
                have e6 := hA.pre 6 (by kernel_rfl)
                simp only [List.getElem?_toArray, List.getElem?_cons_succ, List.getElem?_cons_zero] at e6
                have hBq : wr.heap[k6]? = _ := (hA.bl _ hlt_6 (fun q h => absurd h (Nat.not_lt_zero _))).trans HB6.out
                have q0 := cell_at (v := .int .i64 bk) hBq 0 rfl
                have q1 := cell_at (v := .bool bb) hBq 1 rfl
                have q2 := cell_at (v := .slice bo bl bc) hBq 2 rfl
                have q3 := cell_at (v := .bool bd) hBq 3 rfl
                have q4 := cell_at (v := .slice bp bm bq) hBq 4 rfl
                clear hBq
                clear hA
                refine ⟨((Rely.wanted_at rfl (by rfl) e44).trans (by rfl)), ?_⟩
                go_simp <;> (try with_reducible rfl)
              refine Rel7.Chain.call (fun xs v w => v = .bool false) (fun _ _ _ _ h _ => h) (fun _ _ _ _ _ h _ _ => h) (by rfl) (fun T xs wr hA => ?_) ?_
              · have e44 := hA.tm 19 44 (by rfl) (by rfl)
                have f44 : xs 19 = _ := hA.fa 19 (by rfl)
                (try simp (disch := first | rfl | decide) only [Rel7.mask_in] at f44)
                rw [f44] at e44
                clear f44
                have hsw := (hA.be 0 (Nat.zero_le _) (fun _ _ => Nat.zero_le _)).size
                have e45 := hA.tm 20 45 (by rfl) (by rfl)
                have f45 : xs 20 = _ := hA.fa 20 (by rfl)
                (try simp (disch := first | rfl | decide) only [Rel7.mask_in] at f45)
                rw [f45] at e45
                clear f45
                have e46 := hA.tm 21 46 (by rfl) (by rfl)
                have f46 : xs 21 = _ := hA.fa 21 (by rfl)
                (try simp (disch := first | rfl | decide) only [Rel7.mask_in] at f46)
                rw [f46] at e46
                clear f46
                have hbw := undrew (hA.be x21.heap.size (Nat.le_refl _) (fun q h => absurd h (Nat.not_lt_zero q)))
                clear hA
                refine ⟨((Rely.wanted_at rfl (by rfl) e44).trans (by rfl)), fun K hK => ?_⟩
                go_simp
                refine (same_p _ _ au.x bu.x wr (VC.below HAC.out hbw) (VC.below HBC.out hbw)).mono ?_
                rintro e w' ⟨rfl, hb'⟩
                exact hK.out _ _ (by rw [hdab]) hb'
              refine Rel7.Chain.det ?_ (by rfl) (fun T xs wr hA => ?_) ?_
              rotate_left 1
              · have e38 := hA.tm 13 38 (by rfl) (by rfl)
                have f38 : xs 13 = _ := hA.fa 13 (by rfl)
                (try simp (disch := first | rfl | decide) only [Rel7.mask_in] at f38)
                rw [f38] at e38
                clear f38
                have e44 := hA.tm 19 44 (by rfl) (by rfl)
                have f44 : xs 19 = _ := hA.fa 19 (by rfl)
                (try simp (disch := first | rfl | decide) only [Rel7.mask_in] at f44)
                rw [f44] at e44
                clear f44
                have e47 := hA.tm 22 47 (by rfl) (by rfl)
                have f47 : xs 22 = (.bool false) := hA.fa 22 (by rfl)
                rw [f47] at e47
                clear f47
                clear hA
                refine ⟨((Rely.wanted_at rfl (by rfl) e38).trans (by rfl)), ?_⟩
                go_simp <;> (try with_reducible rfl)
              refine Rel7.Chain.det ?_ (by rfl) (fun T xs wr hA => ?_) ?_
              rotate_left 1
              · have e38 := hA.tm 13 38 (by rfl) (by rfl)
                have f38 : xs 13 = _ := hA.fa 13 (by rfl)
                (try simp (disch := first | rfl | decide) only [Rel7.mask_in] at f38)
                rw [f38] at e38
                clear f38
                have e48 := hA.tm 23 48 (by rfl) (by rfl)
                have f48 : xs 23 = _ := hA.fa 23 (by rfl)
                (try simp (disch := first | rfl | decide) only [Rel7.mask_in] at f48)
                rw [f48] at e48
                clear f48
                clear hA
                refine ⟨(by rfl), ?_⟩
                go_simp <;> (try with_reducible rfl)
              refine Rel7.Chain.done (fun xs x22 hL => ?_)
              obtain ⟨⟨hbe, hbl⟩, hf, -, -⟩ := hL
              have f0 : xs 0 = _ := hf 0 (by decide)
              (try simp (disch := first | rfl | decide) only [Rel7.mask_in] at f0)
              have f1 : xs 1 = _ := hf 1 (by decide)
              (try simp (disch := first | rfl | decide) only [Rel7.mask_in] at f1)
              have f2 : xs 2 = (.bool false) := hf 2 (by decide)
              have f3 : xs 3 = _ := hf 3 (by decide)
              (try simp (disch := first | rfl | decide) only [Rel7.mask_in] at f3)
              have f4 : xs 4 = _ := hf 4 (by decide)
              (try simp (disch := first | rfl | decide) only [Rel7.mask_in] at f4)
              have f5 : xs 5 = (.bool false) := hf 5 (by decide)
              have f6 : xs 6 = _ := hf 6 (by decide)
              (try simp (disch := first | rfl | decide) only [Rel7.mask_in] at f6)
              have f7 : xs 7 = _ := hf 7 (by decide)
              (try simp (disch := first | rfl | decide) only [Rel7.mask_in] at f7)
              have f8 : xs 8 = _ := hf 8 (by decide)
              (try simp (disch := first | rfl | decide) only [Rel7.mask_in] at f8)
              have f9 : xs 9 = _ := hf 9 (by decide)
              (try simp (disch := first | rfl | decide) only [Rel7.mask_in] at f9)
              have f10 : xs 10 = (.bool true) := hf 10 (by decide)
              have f11 : xs 11 = _ := hf 11 (by decide)
              (try simp (disch := first | rfl | decide) only [Rel7.mask_in] at f11)
              have f12 : xs 12 = _ := hf 12 (by decide)
              (try simp (disch := first | rfl | decide) only [Rel7.mask_in] at f12)
              have f13 : xs 13 = _ := hf 13 (by decide)
              (try simp (disch := first | rfl | decide) only [Rel7.mask_in] at f13)
              have f14 : xs 14 = _ := hf 14 (by decide)
              (try simp (disch := first | rfl | decide) only [Rel7.mask_in] at f14)
              have f15 : xs 15 = _ := hf 15 (by decide)
              (try simp (disch := first | rfl | decide) only [Rel7.mask_in] at f15)
              have f16 : xs 16 = _ := hf 16 (by decide)
              (try simp (disch := first | rfl | decide) only [Rel7.mask_in] at f16)
              have f17 : xs 17 = _ := hf 17 (by decide)
              (try simp (disch := first | rfl | decide) only [Rel7.mask_in] at f17)
              have f18 : xs 18 = _ := hf 18 (by decide)
              (try simp (disch := first | rfl | decide) only [Rel7.mask_in] at f18)
              have f19 : xs 19 = _ := hf 19 (by decide)
              (try simp (disch := first | rfl | decide) only [Rel7.mask_in] at f19)
              have f20 : xs 20 = _ := hf 20 (by decide)
              (try simp (disch := first | rfl | decide) only [Rel7.mask_in] at f20)
              have f21 : xs 21 = _ := hf 21 (by decide)
              (try simp (disch := first | rfl | decide) only [Rel7.mask_in] at f21)
              have f22 : xs 22 = (.bool false) := hf 22 (by decide)
              have f23 : xs 23 = _ := hf 23 (by decide)
              (try simp (disch := first | rfl | decide) only [Rel7.mask_in] at f23)
              have f24 : xs 24 = _ := hf 24 (by decide)
              (try simp (disch := first | rfl | decide) only [Rel7.mask_in] at f24)
              have hb0 : Below 0 x21 x22 := undrew (hbe 0 (Nat.zero_le _) (fun _ _ => Nat.zero_le _))
              have hgr : ∀ j, j < x21.heap.size → (∀ q, q < 0 → (fun q => 0) q ≠ j) → x22.heap[j]? = x21.heap[j]? := hbl
              clear hbe hbl hf
              have hb : Below x21.heap.size x21 x22 := ⟨hb0.os, hb0.tape, hb0.output, hb0.size, fun q hq => hgr q hq (fun q h => absurd h (Nat.not_lt_zero _))⟩
              refine Rel7.rest_done ?_
              simp only [Rel7.fill, List.setIfInBounds_toArray, List.set_cons_zero, List.set_cons_succ, f0, f1, f2, f3, f4, f5, f6, f7, f8, f9, f10, f11, f12, f13, f14, f15, f16, f17, f18, f19, f20, f21, f22, f23, f24]
              clear hb0 hgr hog hlt_4 hlt_6 f0 f1 f2 f3 f4 f5 f6 f7 f8 f9 f10 f11 f12 f13 f14 f15 f16 f17 f18 f19 f20 f21 f22 f23 f24
              replace HB4 := kBV hb HB4
              replace HB6 := kBV hb HB6
              replace HI := Lib.hid (HI.out.trans (hb.mono HI.out.size))
              replace HAR := Lib.hid (VR.below HAR.out hb)
              replace HAC := Lib.hid (VC.below HAC.out hb)
              replace HJ := Lib.hid (HJ.out.trans (hb.mono HJ.out.size))
              replace HBR := Lib.hid (VR.below HBR.out hb)
              replace HBC := Lib.hid (VC.below HBC.out hb)
              replace hb := Lib.hid hb
              go_wp2_with fail
              go_loopw [52] (LoopB x22 n) (fun i _ => n - (intOf i).toNat)
              case atStart => exact ⟨0, rfl, Nat.zero_le _, Lib.hid (Below.refl _ _)⟩
              case round =>
                obtain ⟨m, rfl, hm, HM⟩ := hrel
                obtain ⟨wc, rfl⟩ : ∃ q, q = wr := ⟨_, rfl⟩
                have HB4 := kBV HM.out HB4
                have HB6 := kBV HM.out HB6
                have HI := Lib.hid (HI.out.trans (HM.out.mono HI.out.size))
                have HAR := Lib.hid (VR.below HAR.out HM.out)
                have HAC := Lib.hid (VC.below HAC.out HM.out)
                have HJ := Lib.hid (HJ.out.trans (HM.out.mono HJ.out.size))
                have HBR := Lib.hid (VR.below HBR.out HM.out)
                have HBC := Lib.hid (VC.below HBC.out HM.out)
                by_cases hlt3 : m < n
                · have hzc : m < rs.length := by rw [← HN.out]; exact hlt3
                  obtain ⟨ca, cu, ck, cb, co, cl, cc, cd, cp, cm, cq, cre, hne, ⟨c0, c1, c2, c3, c4⟩, -, hnr, hnv⟩ := (HL.out.below HI.out).unitAt hzc
                  injection cre with cre
                  subst cre
                  have HCE := Lib.hid hne
                  have HCR := Lib.hid hnr
                  have HCC : Hid (VC wc (.agg #[.int .i64 ck, .bool cb, .slice co cl cc, .bool cd, .slice cp cm cq]) cu.x) := Lib.hid (vc_of hnv hnr)
                  clear hne hnr hnv
                  obtain ⟨x61, k8, e8, ek8, hb8, hk8, HB8⟩ := newV wc #[.int .i64 ck, .bool cb, .slice co cl cc, .bool cd, .slice cp cm cq] 30
                  replace HB4 := kBV hb8.out HB4
                  replace HB6 := kBV hb8.out HB6
                  replace HI := Lib.hid (HI.out.trans (hb8.out.mono HI.out.size))
                  replace HAR := Lib.hid (VR.below HAR.out hb8.out)
                  replace HAC := Lib.hid (VC.below HAC.out hb8.out)
                  replace HJ := Lib.hid (HJ.out.trans (hb8.out.mono HJ.out.size))
                  replace HBR := Lib.hid (VR.below HBR.out hb8.out)
                  replace HBC := Lib.hid (VC.below HBC.out hb8.out)
                  replace HM := Lib.hid (HM.out.trans (hb8.out.mono HM.out.size))
                  replace HCR := Lib.hid (VR.below HCR.out hb8.out)
                  replace HCC := Lib.hid (VC.below HCC.out hb8.out)
                  have g0 := cell_at (v := .int .i64 ak) HB4.out 0 rfl
                  have fg0 := froz_at HB4.out 0
                  have g1 := cell_at (v := .bool ab) HB4.out 1 rfl
                  have fg1 := froz_at HB4.out 1
                  have g2 := cell_at (v := .slice ao al ac) HB4.out 2 rfl
                  have fg2 := froz_at HB4.out 2
                  have g3 := cell_at (v := .bool ad) HB4.out 3 rfl
                  have fg3 := froz_at HB4.out 3
                  have g4 := cell_at (v := .slice ap am aq) HB4.out 4 rfl
                  have fg4 := froz_at HB4.out 4
                  have h0 := cell_at (v := .int .i64 bk) HB6.out 0 rfl
                  have fh0 := froz_at HB6.out 0
                  have h1 := cell_at (v := .bool bb) HB6.out 1 rfl
                  have fh1 := froz_at HB6.out 1
                  have h2 := cell_at (v := .slice bo bl bc) HB6.out 2 rfl
                  have fh2 := froz_at HB6.out 2
                  have h3 := cell_at (v := .bool bd) HB6.out 3 rfl
                  have fh3 := froz_at HB6.out 3
                  have h4 := cell_at (v := .slice bp bm bq) HB6.out 4 rfl
                  have fh4 := froz_at HB6.out 4
                  have i0 := cell_at (v := .int .i64 ck) HB8.out 0 rfl
                  have fi0 := froz_at HB8.out 0
                  have i1 := cell_at (v := .bool cb) HB8.out 1 rfl
                  have fi1 := froz_at HB8.out 1
                  have i2 := cell_at (v := .slice co cl cc) HB8.out 2 rfl
                  have fi2 := froz_at HB8.out 2
                  have i3 := cell_at (v := .bool cd) HB8.out 3 rfl
                  have fi3 := froz_at HB8.out 3
                  have i4 := cell_at (v := .slice cp cm cq) HB8.out 4 rfl
                  have fi4 := froz_at HB8.out 4
                  go_wp2_with fail
                  refine (same_p _ _ au.x bu.x x61 HAC.out HBC.out).mono ?_
                  rintro e x62 ⟨rfl, hb⟩
                  rw [hdab]
                  clear g0 fg0 g1 fg1 g2 fg2 g3 fg3 g4 fg4 h0 fh0 h1 fh1 h2 fh2 h3 fh3 h4 fh4 i0 fi0 i1 fi1 i2 fi2 i3 fi3 i4 fi4
                  replace HB4 := kBV hb HB4
                  replace HB6 := kBV hb HB6
                  replace HB8 := kBV hb HB8
                  replace HI := Lib.hid (HI.out.trans (hb.mono HI.out.size))
                  replace HAR := Lib.hid (VR.below HAR.out hb)
                  replace HAC := Lib.hid (VC.below HAC.out hb)
                  replace HJ := Lib.hid (HJ.out.trans (hb.mono HJ.out.size))
                  replace HBR := Lib.hid (VR.below HBR.out hb)
                  replace HBC := Lib.hid (VC.below HBC.out hb)
                  replace HM := Lib.hid (HM.out.trans (hb.mono HM.out.size))
                  replace HCR := Lib.hid (VR.below HCR.out hb)
                  replace HCC := Lib.hid (VC.below HCC.out hb)
                  clear hb
                  have g0 := cell_at (v := .int .i64 ak) HB4.out 0 rfl
                  have fg0 := froz_at HB4.out 0
                  have g1 := cell_at (v := .bool ab) HB4.out 1 rfl
                  have fg1 := froz_at HB4.out 1
                  have g2 := cell_at (v := .slice ao al ac) HB4.out 2 rfl
                  have fg2 := froz_at HB4.out 2
                  have g3 := cell_at (v := .bool ad) HB4.out 3 rfl
                  have fg3 := froz_at HB4.out 3
                  have g4 := cell_at (v := .slice ap am aq) HB4.out 4 rfl
                  have fg4 := froz_at HB4.out 4
                  have h0 := cell_at (v := .int .i64 bk) HB6.out 0 rfl
                  have fh0 := froz_at HB6.out 0
                  have h1 := cell_at (v := .bool bb) HB6.out 1 rfl
                  have fh1 := froz_at HB6.out 1
                  have h2 := cell_at (v := .slice bo bl bc) HB6.out 2 rfl
                  have fh2 := froz_at HB6.out 2
                  have h3 := cell_at (v := .bool bd) HB6.out 3 rfl
                  have fh3 := froz_at HB6.out 3
                  have h4 := cell_at (v := .slice bp bm bq) HB6.out 4 rfl
                  have fh4 := froz_at HB6.out 4
                  have i0 := cell_at (v := .int .i64 ck) HB8.out 0 rfl
                  have fi0 := froz_at HB8.out 0
                  have i1 := cell_at (v := .bool cb) HB8.out 1 rfl
                  have fi1 := froz_at HB8.out 1
                  have i2 := cell_at (v := .slice co cl cc) HB8.out 2 rfl
                  have fi2 := froz_at HB8.out 2
                  have i3 := cell_at (v := .bool cd) HB8.out 3 rfl
                  have fi3 := froz_at HB8.out 3
                  have i4 := cell_at (v := .slice cp cm cq) HB8.out 4 rfl
                  have fi4 := froz_at HB8.out 4
                  go_wp2_with fail
                  go_roundw
                  case rel => exact ⟨m + 1, by go_num, hlt3, HM⟩
                  case measure => simp [intOf]; omega
                · go_upto_region 18 with fail
                  have hlt_4 := lt_of_block HB4.out
                  have hlt_6 := lt_of_block HB6.out
                  have hog : Hid (∀ q, q < 0 → (fun q => 0) q < wc.heap.size) := Lib.hid (fun q h => absurd h (Nat.not_lt_zero _))
                  refine Rel7.region (by kernel_rfl) [[], [], [0, 1], [], [], [3, 4], [0, 1, 2, 3, 4, 5], [], [], [0, 1, 2, 3, 4, 5, 6, 7, 8], [0, 1, 2, 3, 4, 5, 6, 7, 8, 9]] [] [] (fun q => 0) 0 11 (by kernel_rfl) (by kernel_rfl) (by rfl) hog.out (fun q q' h h' hn => absurd hn (by omega)) ?_
                  refine Rel7.Chain.det ?_ (by rfl) (fun T xs wr hA => ?_) ?_
                  rotate_left 1
                  · have e4 := hA.pre 4 (by kernel_rfl)
                    simp only [List.getElem?_toArray, List.getElem?_cons_succ, List.getElem?_cons_zero] at e4
                    have hBq : wr.heap[k4]? = _ := (hA.bl _ hlt_4 (fun q h => absurd h (Nat.not_lt_zero _))).trans HB4.out
                    have q0 := cell_at (v := .int .i64 ak) hBq 0 rfl
                    have q1 := cell_at (v := .bool ab) hBq 1 rfl
                    have q2 := cell_at (v := .slice ao al ac) hBq 2 rfl
                    have q3 := cell_at (v := .bool ad) hBq 3 rfl
                    have q4 := cell_at (v := .slice ap am aq) hBq 4 rfl
                    clear hBq
                    clear hA
                    refine ⟨(by rfl), ?_⟩
                    go_simp <;> (try with_reducible rfl)
                  refine Rel7.Chain.det ?_ (by rfl) (fun T xs wr hA => ?_) ?_
                  rotate_left 1
                  · have e6 := hA.pre 6 (by kernel_rfl)
                    simp only [List.getElem?_toArray, List.getElem?_cons_succ, List.getElem?_cons_zero] at e6
                    have hBq : wr.heap[k6]? = _ := (hA.bl _ hlt_6 (fun q h => absurd h (Nat.not_lt_zero _))).trans HB6.out
                    have q0 := cell_at (v := .int .i64 bk) hBq 0 rfl
                    have q1 := cell_at (v := .bool bb) hBq 1 rfl
                    have q2 := cell_at (v := .slice bo bl bc) hBq 2 rfl
                    have q3 := cell_at (v := .bool bd) hBq 3 rfl
                    have q4 := cell_at (v := .slice bp bm bq) hBq 4 rfl
                    clear hBq
                    clear hA
                    refine ⟨(by rfl), ?_⟩
                    go_simp <;> (try with_reducible rfl)
                  refine Rel7.Chain.call (fun xs v w => VL w v [au.x, bu.x]) (fun _ _ _ _ h hb => VL.below h hb) (fun _ _ _ _ _ _ h _ => by obtain ⟨q, hq, _⟩ := h; exact absurd hq (Nat.not_lt_zero _)) (by rfl) (fun T xs wr hA => ?_) ?_
                  · have hsw := (hA.be 0 (Nat.zero_le _) (fun _ _ => Nat.zero_le _)).size
                    have e71 := hA.tm 0 71 (by rfl) (by rfl)
                    have f71 : xs 0 = _ := hA.fa 0 (by rfl)
                    (try simp (disch := first | rfl | decide) only [Rel7.mask_in] at f71)
                    rw [f71] at e71
                    clear f71
                    have e72 := hA.tm 1 72 (by rfl) (by rfl)
                    have f72 : xs 1 = _ := hA.fa 1 (by rfl)
                    (try simp (disch := first | rfl | decide) only [Rel7.mask_in] at f72)
                    rw [f72] at e72
                    clear f72
                    have hbw := undrew (hA.be wc.heap.size (Nat.le_refl _) (fun q h => absurd h (Nat.not_lt_zero q)))
                    clear hA
                    refine ⟨(by rfl), fun K hK => ?_⟩
                    go_simp
                    exact hK.out _ _ ⟨[au, bu], two_atV (heap_alloc_new wr _) HAE.out HBE.out (VR.below (VR.below HAR.out hbw) ((Below.refl _ _).alloc (Nat.le_refl _) _)) (VR.below (VR.below HBR.out hbw) ((Below.refl _ _).alloc (Nat.le_refl _) _)), rfl⟩ ((Below.refl _ _).alloc (Nat.le_refl _) _)
                  refine Rel7.Chain.det ?_ (by rfl) (fun T xs wr hA => ?_) ?_
                  rotate_left 1
                  · have e6 := hA.pre 6 (by kernel_rfl)
                    simp only [List.getElem?_toArray, List.getElem?_cons_succ, List.getElem?_cons_zero] at e6
                    have hBq : wr.heap[k6]? = _ := (hA.bl _ hlt_6 (fun q h => absurd h (Nat.not_lt_zero _))).trans HB6.out
                    have q0 := cell_at (v := .int .i64 bk) hBq 0 rfl
                    have q1 := cell_at (v := .bool bb) hBq 1 rfl
                    have q2 := cell_at (v := .slice bo bl bc) hBq 2 rfl
                    have q3 := cell_at (v := .bool bd) hBq 3 rfl
                    have q4 := cell_at (v := .slice bp bm bq) hBq 4 rfl
                    clear hBq
                    clear hA
                    refine ⟨(by rfl), ?_⟩
                    go_simp <;> (try with_reducible rfl)
                  refine Rel7.Chain.det ?_ (by rfl) (fun T xs wr hA => ?_) ?_
                  rotate_left 1
                  · have e4 := hA.pre 4 (by kernel_rfl)
                    simp only [List.getElem?_toArray, List.getElem?_cons_succ, List.getElem?_cons_zero] at e4
                    have hBq : wr.heap[k4]? = _ := (hA.bl _ hlt_4 (fun q h => absurd h (Nat.not_lt_zero _))).trans HB4.out
                    have q0 := cell_at (v := .int .i64 ak) hBq 0 rfl
                    have q1 := cell_at (v := .bool ab) hBq 1 rfl
                    have q2 := cell_at (v := .slice ao al ac) hBq 2 rfl
                    have q3 := cell_at (v := .bool ad) hBq 3 rfl
                    have q4 := cell_at (v := .slice ap am aq) hBq 4 rfl
                    clear hBq
                    clear hA
                    refine ⟨(by rfl), ?_⟩
                    go_simp <;> (try with_reducible rfl)
                  refine Rel7.Chain.call (fun xs v w => VL w v [bu.x, au.x]) (fun _ _ _ _ h hb => VL.below h hb) (fun _ _ _ _ _ _ h _ => by obtain ⟨q, hq, _⟩ := h; exact absurd hq (Nat.not_lt_zero _)) (by rfl) (fun T xs wr hA => ?_) ?_
                  · have hsw := (hA.be 0 (Nat.zero_le _) (fun _ _ => Nat.zero_le _)).size
                    have e74 := hA.tm 3 74 (by rfl) (by rfl)
                    have f74 : xs 3 = _ := hA.fa 3 (by rfl)
                    (try simp (disch := first | rfl | decide) only [Rel7.mask_in] at f74)
                    rw [f74] at e74
                    clear f74
                    have e75 := hA.tm 4 75 (by rfl) (by rfl)
                    have f75 : xs 4 = _ := hA.fa 4 (by rfl)
                    (try simp (disch := first | rfl | decide) only [Rel7.mask_in] at f75)
                    rw [f75] at e75
                    clear f75
                    have hbw := undrew (hA.be wc.heap.size (Nat.le_refl _) (fun q h => absurd h (Nat.not_lt_zero q)))
                    clear hA
                    refine ⟨(by rfl), fun K hK => ?_⟩
                    go_simp
                    exact hK.out _ _ ⟨[bu, au], two_atV (heap_alloc_new wr _) HBE.out HAE.out (VR.below (VR.below HBR.out hbw) ((Below.refl _ _).alloc (Nat.le_refl _) _)) (VR.below (VR.below HAR.out hbw) ((Below.refl _ _).alloc (Nat.le_refl _) _)), rfl⟩ ((Below.refl _ _).alloc (Nat.le_refl _) _)
                  refine Rel7.Chain.call (fun xs v w => v = .bool false) (fun _ _ _ _ h _ => h) (fun _ _ _ _ _ h _ _ => h) (by rfl) (fun T xs wr hA => ?_) ?_
                  · have hsw := (hA.be 0 (Nat.zero_le _) (fun _ _ => Nat.zero_le _)).size
                    have e73 := hA.tm 2 73 (by rfl) (by rfl)
                    have e76 := hA.tm 5 76 (by rfl) (by rfl)
                    have hF2 : VL wr (xs 2) [au.x, bu.x] := hA.fa 2 (by rfl)
                    have h2 := hF2
                    have hF5 : VL wr (xs 5) [bu.x, au.x] := hA.fa 5 (by rfl)
                    have h5 := hF5
                    clear hA
                    refine ⟨(by rfl), fun K hK => ?_⟩
                    go_simp
                    refine (sameAll_p _ _ [au.x, bu.x] [bu.x, au.x] wr h2 h5).mono ?_
                    rintro e w' ⟨rfl, hb'⟩
                    exact hK.out _ _ (by rw [decide_eq_decide.2 (pair_swap au.x bu.x), hdab]) hb'
                  refine Rel7.Chain.det ?_ (by rfl) (fun T xs wr hA => ?_) ?_
                  rotate_left 1
                  · have e4 := hA.pre 4 (by kernel_rfl)
                    simp only [List.getElem?_toArray, List.getElem?_cons_succ, List.getElem?_cons_zero] at e4
                    have hBq : wr.heap[k4]? = _ := (hA.bl _ hlt_4 (fun q h => absurd h (Nat.not_lt_zero _))).trans HB4.out
                    have q0 := cell_at (v := .int .i64 ak) hBq 0 rfl
                    have q1 := cell_at (v := .bool ab) hBq 1 rfl
                    have q2 := cell_at (v := .slice ao al ac) hBq 2 rfl
                    have q3 := cell_at (v := .bool ad) hBq 3 rfl
                    have q4 := cell_at (v := .slice ap am aq) hBq 4 rfl
                    clear hBq
                    clear hA
                    refine ⟨(by rfl), ?_⟩
                    go_simp <;> (try with_reducible rfl)
                  refine Rel7.Chain.det ?_ (by rfl) (fun T xs wr hA => ?_) ?_
                  rotate_left 1
                  · have e6 := hA.pre 6 (by kernel_rfl)
                    simp only [List.getElem?_toArray, List.getElem?_cons_succ, List.getElem?_cons_zero] at e6
                    have hBq : wr.heap[k6]? = _ := (hA.bl _ hlt_6 (fun q h => absurd h (Nat.not_lt_zero _))).trans HB6.out
                    have q0 := cell_at (v := .int .i64 bk) hBq 0 rfl
                    have q1 := cell_at (v := .bool bb) hBq 1 rfl
                    have q2 := cell_at (v := .slice bo bl bc) hBq 2 rfl
                    have q3 := cell_at (v := .bool bd) hBq 3 rfl
                    have q4 := cell_at (v := .slice bp bm bq) hBq 4 rfl
                    clear hBq
                    clear hA
                    refine ⟨(by rfl), ?_⟩
                    go_simp <;> (try with_reducible rfl)
                  refine Rel7.Chain.call (fun xs v w => v = .bool false) (fun _ _ _ _ h _ => h) (fun _ _ _ _ _ h _ _ => h) (by rfl) (fun T xs wr hA => ?_) ?_
                  · have hsw := (hA.be 0 (Nat.zero_le _) (fun _ _ => Nat.zero_le _)).size
                    have e78 := hA.tm 7 78 (by rfl) (by rfl)
                    have f78 : xs 7 = _ := hA.fa 7 (by rfl)
                    (try simp (disch := first | rfl | decide) only [Rel7.mask_in] at f78)
                    rw [f78] at e78
                    clear f78
                    have e79 := hA.tm 8 79 (by rfl) (by rfl)
                    have f79 : xs 8 = _ := hA.fa 8 (by rfl)
                    (try simp (disch := first | rfl | decide) only [Rel7.mask_in] at f79)
                    rw [f79] at e79
                    clear f79
                    have hbw := undrew (hA.be wc.heap.size (Nat.le_refl _) (fun q h => absurd h (Nat.not_lt_zero q)))
                    clear hA
                    refine ⟨(by rfl), fun K hK => ?_⟩
                    go_simp
                    refine (same_p _ _ au.x bu.x wr (VC.below HAC.out hbw) (VC.below HBC.out hbw)).mono ?_
                    rintro e w' ⟨rfl, hb'⟩
                    exact hK.out _ _ (by rw [hdab]) hb'
                  refine Rel7.Chain.det ?_ (by rfl) (fun T xs wr hA => ?_) ?_
                  rotate_left 1
                  · have e77 := hA.tm 6 77 (by rfl) (by rfl)
                    have f77 : xs 6 = (.bool false) := hA.fa 6 (by rfl)
                    rw [f77] at e77
                    clear f77
                    have e80 := hA.tm 9 80 (by rfl) (by rfl)
                    have f80 : xs 9 = (.bool false) := hA.fa 9 (by rfl)
                    rw [f80] at e80
                    clear f80
                    clear hA
                    refine ⟨(by rfl), ?_⟩
                    go_simp <;> (try with_reducible rfl)
                  refine Rel7.Chain.done (fun xs x81 hL => ?_)
                  obtain ⟨⟨hbe, hbl⟩, hf, -, -⟩ := hL
                  have f0 : xs 0 = _ := hf 0 (by decide)
                  (try simp (disch := first | rfl | decide) only [Rel7.mask_in] at f0)
                  have f1 : xs 1 = _ := hf 1 (by decide)
                  (try simp (disch := first | rfl | decide) only [Rel7.mask_in] at f1)
                  have F2 : VL x81 (xs 2) [au.x, bu.x] := hf 2 (by decide)
                  have f3 : xs 3 = _ := hf 3 (by decide)
                  (try simp (disch := first | rfl | decide) only [Rel7.mask_in] at f3)
                  have f4 : xs 4 = _ := hf 4 (by decide)
                  (try simp (disch := first | rfl | decide) only [Rel7.mask_in] at f4)
                  have F5 : VL x81 (xs 5) [bu.x, au.x] := hf 5 (by decide)
                  have f6 : xs 6 = (.bool false) := hf 6 (by decide)
                  have f7 : xs 7 = _ := hf 7 (by decide)
                  (try simp (disch := first | rfl | decide) only [Rel7.mask_in] at f7)
                  have f8 : xs 8 = _ := hf 8 (by decide)
                  (try simp (disch := first | rfl | decide) only [Rel7.mask_in] at f8)
                  have f9 : xs 9 = (.bool false) := hf 9 (by decide)
                  have f10 : xs 10 = _ := hf 10 (by decide)
                  (try simp (disch := first | rfl | decide) only [Rel7.mask_in] at f10)
                  have hb0 : Below 0 wc x81 := undrew (hbe 0 (Nat.zero_le _) (fun _ _ => Nat.zero_le _))
                  have hgr : ∀ j, j < wc.heap.size → (∀ q, q < 0 → (fun q => 0) q ≠ j) → x81.heap[j]? = wc.heap[j]? := hbl
                  clear hbe hbl hf
                  have hb : Below wc.heap.size wc x81 := ⟨hb0.os, hb0.tape, hb0.output, hb0.size, fun q hq => hgr q hq (fun q h => absurd h (Nat.not_lt_zero _))⟩
                  refine Rel7.rest_done ?_
                  simp only [Rel7.fill, List.setIfInBounds_toArray, List.set_cons_zero, List.set_cons_succ, f0, f1, f3, f4, f6, f7, f8, f9, f10]
                  clear hb0 hgr hog hlt_4 hlt_6 f0 f1 f3 f4 f6 f7 f8 f9 f10
                  replace HB4 := kBV hb HB4
                  replace HB6 := kBV hb HB6
                  replace HI := Lib.hid (HI.out.trans (hb.mono HI.out.size))
                  replace HAR := Lib.hid (VR.below HAR.out hb)
                  replace HAC := Lib.hid (VC.below HAC.out hb)
                  replace HJ := Lib.hid (HJ.out.trans (hb.mono HJ.out.size))
                  replace HBR := Lib.hid (VR.below HBR.out hb)
                  replace HBC := Lib.hid (VC.below HBC.out hb)
                  replace hb := Lib.hid hb
                  go_wp2_with fail
                  go_roundw
                  case rel => exact ⟨j + 1, by go_num, hlt2, HJ⟩
                  case measure => simp [intOf]; omega
        · go_wp2_with fail
          go_roundw
          case rel => exact ⟨i + 1, by go_num, hlt, Lib.hid (HI.out.trans (HJ.out.mono HI.out.size))⟩
          case measure => simp [intOf]; omega
    · go_wp2_with fail
      go_ret
      exact ⟨rfl, HW.out.trans (HI.out.mono HW.out.size)⟩
end Go.Proofs.YtocadojeanhalaaDoor
