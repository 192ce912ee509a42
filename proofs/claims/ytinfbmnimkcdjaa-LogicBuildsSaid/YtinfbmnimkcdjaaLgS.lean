/-
  The laws' names: find, Env.
-/
import Derived.Test.YtinfbmnimkcdjaaLgR
namespace Go.Proofs.Ytinfbmnimkcdjaa
open Go.RowKit
set_option maxRecDepth 100000
set_option linter.unusedVariables false
set_option linter.unusedSimpArgs false

attribute [local go_sem] fieldV0 fieldV1 fieldV2 fieldV3
set_option maxHeartbeats 8000000 in
theorem find_p (ve : Value) (env : List (ByteArray × V)) (nm : ByteArray) (w : World) (h : EL w ve env) :
    Calls Try.prog 22 #[ve, .string nm] w fun e w' => ∃ v, e = .returned v ∧ VC w' v (rho env nm) ∧ Below w.heap.size w w' := by
  obtain ⟨us, hu, rfl⟩ := h
  obtain ⟨ko, kc, rfl, hk1, hk2, -⟩ := bAt_cells hu
  have hkm : kc ≤ 9223372036854775807 := hk2
  obtain ⟨N, hN⟩ : ∃ N, N = us.length := ⟨_, rfl⟩
  rw [← hN] at hu hk1 ⊢
  have HN := Lib.hid hN
  have HU := Lib.hid hu
  clear hN hu hk2
  have HW := Lib.hid (Below.refl w.heap.size w)
  go_enter Try.func22, Try.ntmps22
  obtain ⟨x1, kr, er, ekr, hbr, hkr, HBr⟩ := newV w #[.int .i64 0, .bool false, .slice none 0 0, .bool false, .slice none 0 0] 41
  replace HW := Lib.hid (HW.out.trans (hbr.out.mono HW.out.size))
  have HKr : Hid (w.heap.size ≤ kr) := hkr
  go_wp2_with fail
  obtain ⟨x2, kq, eq, ekq, hbq, hkq, HBq⟩ := newV x1 #[.int .i64 0, .bool false, .slice none 0 0, .bool false, .slice none 0 0] 41
  replace HBr := kBV hbq.out HBr
  replace HW := Lib.hid (HW.out.trans (hbq.out.mono HW.out.size))
  rw [eq, ekq]
  have HKq : Hid (w.heap.size ≤ kq) := Lib.hid (Nat.le_trans hbr.out.size hkq.out)
  have HQR : Hid (kr < kq) := Lib.hid (by rw [← ekq]; exact lt_of_block (show x1.heap[kr]? = _ from by have := heap_alloc_new w (.cells #[.int .i64 0, .bool false, .slice none 0 0, .bool false, .slice none 0 0] 41); rw [er, ekr] at this; exact this))
  go_loopw [11] (fun i wr => ∃ (j : Nat) (u : VU), i = .int .i64 (j : Nat) ∧ j ≤ N ∧ Hid (wr.heap[kq]? = some (.cells #[.int .i64 u.k, .bool (decide (u.n.z < 0)), .slice u.n.o u.n.l u.n.c, .bool u.b, .slice u.lo u.ll u.lc] 41 (0, 0))) ∧ Hid (wr.heap[kr]? = some (.cells #[.int .i64 0, .bool false, .slice none 0 0, .bool false, .slice none 0 0] 41 (0, 0))) ∧ Hid (VR w u) ∧ Hid (u.x = rho ((envOf us).take j) nm) ∧ Hid (Below w.heap.size w wr)) (fun i _ => N - (intOf i).toNat)
  case atStart => exact ⟨0, v0, rfl, Nat.zero_le _, HBq, HBr, Lib.hid (vr0 _), Lib.hid rfl, HW⟩
  case round =>
    obtain ⟨wl, hwl⟩ : ∃ q, q = wr := ⟨_, rfl⟩
    subst hwl
    clear HW HBq HBr
    obtain ⟨j, u, rfl, hj, HBq, HBr, HVR, HUX, HW⟩ := hrel
    by_cases hlt : j < N
    · have hz : j < us.length := by rw [← HN.out]; exact hlt
      obtain ⟨ko2, kc2, e, -, -, hcs⟩ := bAt_cells (HU.out.below HW.out)
      injection e with e1 e2 e3
      subst e1
      obtain ⟨a, rfl, d0, d1, d2, d3, d4, d5, -⟩ := hcs j hz
      obtain ⟨_, _, -, -, -, hcw⟩ := bAt_cells HU.out
      obtain ⟨_, -, -, -, -, -, -, -, hvr⟩ := hcw j hz
      obtain ⟨y, hyy⟩ : ∃ y, y = us[j] := ⟨_, rfl⟩
      rw [← hyy] at d0 d1 d2 d3 d4 d5 hvr
      have HYV := Lib.hid hvr
      have hje : j < (envOf us).length := by unfold envOf; simpa using hz
      have HRT : Hid (rho ((envOf us).take (j + 1)) nm = if y.nm = nm then y.u.x else rho ((envOf us).take j) nm) := Lib.hid (by rw [rho_take _ _ _ hje, show (envOf us)[j] = (y.nm, y.u.x) from by rw [hyy]; exact List.getElem_map (fun b : BU => (b.nm, b.u.x))])
      clear hcs hcw e2 e3 hyy hvr hje
      obtain ⟨x3, k8, e8, ek8, hb8, hk8, HB8⟩ := newV wl #[.string y.nm, .int .i64 y.u.k, .bool (decide (y.u.n.z < 0)), .slice y.u.n.o y.u.n.l y.u.n.c, .bool y.u.b, .slice y.u.lo y.u.ll y.u.lc] 61
      replace HBq := kBV hb8.out HBq
      replace HBr := kBV hb8.out HBr
      replace HW := Lib.hid (HW.out.trans (hb8.out.mono HW.out.size))
      have g0 := cell_at (v := .string y.nm) HB8.out 0 rfl
      have fg0 := froz_at HB8.out 0
      have g1 := cell_at (v := .int .i64 y.u.k) HB8.out 1 rfl
      have fg1 := froz_at HB8.out 1
      have g2 := cell_at (v := .bool (decide (y.u.n.z < 0))) HB8.out 2 rfl
      have fg2 := froz_at HB8.out 2
      have g3 := cell_at (v := .slice y.u.n.o y.u.n.l y.u.n.c) HB8.out 3 rfl
      have fg3 := froz_at HB8.out 3
      have g4 := cell_at (v := .bool y.u.b) HB8.out 4 rfl
      have fg4 := froz_at HB8.out 4
      have g5 := cell_at (v := .slice y.u.lo y.u.ll y.u.lc) HB8.out 5 rfl
      have fg5 := froz_at HB8.out 5
      by_cases hnm : y.nm = nm
      · have hne : (y.nm.toList == nm.toList) = true := bs_yes hnm
        have HNM := Lib.hid hnm
        clear hnm
        have f0 := froz_at HBq.out 0
        have r0 := cell_at (v := .int .i64 u.k) HBq.out 0 rfl
        have f1 := froz_at HBq.out 1
        have r1 := cell_at (v := .bool (decide (u.n.z < 0))) HBq.out 1 rfl
        have f2 := froz_at HBq.out 2
        have r2 := cell_at (v := .slice u.n.o u.n.l u.n.c) HBq.out 2 rfl
        have f3 := froz_at HBq.out 3
        have r3 := cell_at (v := .bool u.b) HBq.out 3 rfl
        have f4 := froz_at HBq.out 4
        have r4 := cell_at (v := .slice u.lo u.ll u.lc) HBq.out 4 rfl
        go_wp2_with fail
        have hg := grown5V (w := x3) (k := kq) (.int .i64 y.u.k) (.bool (decide (y.u.n.z < 0))) (.slice y.u.n.o y.u.n.l y.u.n.c) (.bool y.u.b) (.slice y.u.lo y.u.ll y.u.lc)
        go_roundw
        case rel => exact ⟨j + 1, y.u, by go_num, hlt, Lib.hid (set5_same HBq.out _ _ _ _ _), Lib.hid ((hg.block kr (lt_of_block HBr.out) (fun e => by injection e with e; have := HQR.out; omega)).trans HBr.out), HYV, Lib.hid (by rw [HRT.out, if_pos HNM.out]), Lib.hid (ext_below HW.out hg HKq.out)⟩
        case measure => simp [intOf]; omega
      · have hne : (y.nm.toList == nm.toList) = false := bs_no hnm
        have HNM := Lib.hid hnm
        clear hnm
        go_wp2_with fail
        go_roundw
        case rel => exact ⟨j + 1, u, by go_num, hlt, HBq, HBr, HVR, Lib.hid (by rw [HRT.out, if_neg HNM.out]; exact HUX.out), HW⟩
        case measure => simp [intOf]; omega
    · have HUX2 : Hid (u.x = rho (envOf us) nm) := Lib.hid (by have := HUX.out; rw [show j = N by omega, HN.out, show us.length = (envOf us).length by unfold envOf; simp, List.take_length] at this; exact this)
      have q0 := cell_at (v := .int .i64 u.k) HBq.out 0 rfl
      have fq0 := froz_at HBq.out 0
      have q1 := cell_at (v := .bool (decide (u.n.z < 0))) HBq.out 1 rfl
      have fq1 := froz_at HBq.out 1
      have q2 := cell_at (v := .slice u.n.o u.n.l u.n.c) HBq.out 2 rfl
      have fq2 := froz_at HBq.out 2
      have q3 := cell_at (v := .bool u.b) HBq.out 3 rfl
      have fq3 := froz_at HBq.out 3
      have q4 := cell_at (v := .slice u.lo u.ll u.lc) HBq.out 4 rfl
      have fq4 := froz_at HBq.out 4
      obtain ⟨⟨r0, r1, r2, r3, r4⟩, fr0, fr1, fr2, fr3, fr4⟩ := cells5V HBr.out
      go_wp2_with fail
      clear q0 fq0 q1 fq1 q2 fq2 q3 fq3 q4 fq4
      obtain ⟨s1, s2⟩ := res5V HW.out HBr.out n32_5 HKr.out (.int .i64 u.k) (.bool (decide (u.n.z < 0))) (.slice u.n.o u.n.l u.n.c) (.bool u.b) (.slice u.lo u.ll u.lc)
      (try simp only [Exit.inBlock, Exit.then])
      exact bodyPost_ret (v := vV u) (by simp [results, Try.results22, go_sem, r0, r1, r2, r3, r4, vV]) rfl ⟨_, rfl, ⟨u, rfl, HUX2.out, (HVR.out.below HW.out).fr (by decide) s1⟩, s2⟩
end Go.Proofs.Ytinfbmnimkcdjaa
