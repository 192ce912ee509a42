/-
  Tame.
-/
import Derived.Test.YtinfbmnimkcdjaaVlG
namespace Go.Proofs.Ytinfbmnimkcdjaa
open Go.RowKit
set_option maxRecDepth 100000
set_option linter.unusedVariables false
set_option linter.unusedSimpArgs false

theorem vV_form (u : VU) : ∃ k b o l c d p m q, vV u = .agg #[.int .i64 k, .bool b, .slice o l c, .bool d, .slice p m q] ∧ vC u = [.int .i64 k, .bool b, .slice o l c, .bool d, .slice p m q] := ⟨_, _, _, _, _, _, _, _, _, rfl, rfl⟩
theorem nV_form (u : NU) : ∃ b o l c, nV u = .agg #[.bool b, .slice o l c] ∧ nC u = [.bool b, .slice o l c] := ⟨_, _, _, _, rfl, rfl⟩
theorem VC.unit {w : World} {v : Value} {x : V} (h : VC w v x) : ∃ (u : VU) (k : Int) (b : Bool) (o : Option Addr) (l c : Nat) (d : Bool) (p : Option Addr) (m q : Nat), v = .agg #[.int .i64 k, .bool b, .slice o l c, .bool d, .slice p m q] ∧ vC u = [.int .i64 k, .bool b, .slice o l c, .bool d, .slice p m q] ∧ u.x = x ∧ VR w u := by
  obtain ⟨u, rfl, h1, h2⟩ := h
  exact ⟨u, _, _, _, _, _, _, _, _, _, rfl, rfl, h1, h2⟩
theorem CI.unit {w : World} {v : Value} {z : Int} {k : Nat} (h : CI w v z k) (hk : k ≤ 600) : ∃ (u : NU) (b : Bool) (o : Option Addr) (l c : Nat), v = .agg #[.bool b, .slice o l c] ∧ nC u = [.bool b, .slice o l c] ∧ u.z = z ∧ NR w u := by
  obtain ⟨u, rfl, h1, h2⟩ := ci_nu h hk
  exact ⟨u, _, _, _, _, rfl, rfl, h1, h2⟩
theorem one_atV {w : World} {g : Nat} {u : VU} {k : Int} {b d : Bool} {o p : Option Addr} {l c m q : Nat} (hB : w.heap[g]? = some (.cells #[.int .i64 k, .bool b, .slice o l c, .bool d, .slice p m q] 41 (0, 0))) (hu : vC u = [.int .i64 k, .bool b, .slice o l c, .bool d, .slice p m q]) (hR : VR w u) : vE.At w (.slice (some ⟨g, 0, none⟩) 1 1) [u] :=
  El.At.block (E := vE) (el := [u]) (by show _ = some (Obj.cells (([u] : List VU).flatMap vC).toArray _ _); rw [List.flatMap_cons, hu]; exact hB) (by simp [maxLen]) (fun a ha => by rw [List.mem_singleton] at ha; subst ha; exact hR)
theorem one_atN {w : World} {g : Nat} {u : NU} {b : Bool} {o : Option Addr} {l c : Nat} (hB : w.heap[g]? = some (.cells #[.bool b, .slice o l c] 26 (0, 0))) (hu : nC u = [.bool b, .slice o l c]) (hR : NR w u) : nE.At w (.slice (some ⟨g, 0, none⟩) 1 1) [u] :=
  El.At.block (E := nE) (el := [u]) (by show _ = some (Obj.cells (([u] : List NU).flatMap nC).toArray _ _); rw [List.flatMap_cons, hu]; exact hB) (by simp [maxLen]) (fun a ha => by rw [List.mem_singleton] at ha; subst ha; exact hR)
/-- What Tame makes. -/
def TV : V → Prop
  | .I z => z.natAbs < L32 ^ 4
  | .B _ => True
  | .L l => l.length ≤ 6 ∧ ∀ z ∈ l, z.natAbs < L32 ^ 4
theorem CI.lt {w : World} {v : Value} {z : Int} {k : Nat} (h : CI w v z k) : z.natAbs < L32 ^ k := by obtain ⟨_, _, _, h3⟩ := h; exact h3
/-- The sort of a value is what its raw Base says. -/
def sortOf : V → Int
  | .I _ => 0
  | .B _ => 1
  | .L _ => 2
def KS (w : World) (ko : Option Addr) (xs : List V) : Prop := ∀ i (h : i < xs.length) a k, ko = some a → w.cell? (a.add (i * 5)) = some (.int .i64 k) → sortOf xs[i] = (k.tmod 3 + 3).tmod 3
theorem KS.snoc {w : World} {ko : Option Addr} {xs : List V} {x : V} (h : KS w ko xs) (hx : ∀ a k, ko = some a → w.cell? (a.add (xs.length * 5)) = some (.int .i64 k) → sortOf x = (k.tmod 3 + 3).tmod 3) : KS w ko (xs ++ [x]) := by
  intro i hi a k ha hc
  by_cases hlt : i < xs.length
  · rw [List.getElem_append_left hlt]; exact h i hlt a k ha hc
  · have e : i = xs.length := by simp at hi; omega
    subst e
    rw [List.getElem_append_right (Nat.le_refl _)]; simp only [Nat.sub_self, List.getElem_cons_zero]; exact hx a k ha hc
def TMrel (w : World) (ko : Option Addr) (N : Nat) (ov iv : Value) (wr : World) : Prop :=
  ∃ (j : Nat) (us : List VU), iv = .int .i64 (j : Nat) ∧ j ≤ N ∧ Hid (us.length = j) ∧ Hid (∀ u ∈ us, TV u.x) ∧ Hid (KS w ko (us.map (·.x))) ∧ Hid (vE.Row wr w.heap.size ov us) ∧ Hid (Below w.heap.size w wr)
/-- The head of the loop within. -/
def TIrel (w wS : World) (M : Nat) (mv iv : Value) (wr : World) : Prop :=
  ∃ (j : Nat) (ns : List NU), iv = .int .i64 (j : Nat) ∧ j ≤ M ∧ Hid (ns.length = j) ∧ Hid (∀ n ∈ ns, n.z.natAbs < L32 ^ 4) ∧ Hid (nE.Row wr wS.heap.size mv ns) ∧ Hid (Below wS.heap.size wS wr)

set_option maxHeartbeats 8000000 in
theorem tame_q (ko : Option Addr) (n kc : Nat) (w : World) (hx : RVals w ko n kc) :
    Calls Try.prog 36 #[.slice ko n kc] w fun e w' => ∃ v xs, e = .returned v ∧ VL w' v xs ∧ xs.length = min n 5 ∧ (∀ x ∈ xs, TV x) ∧ KS w ko xs ∧ Below w.heap.size w w' := by
  obtain ⟨N, hN⟩ : ∃ N, N = min n 5 := ⟨_, rfl⟩
  have hmin : min (n : Int) 5 = (N : Int) := by omega
  have hN5 : N ≤ 5 := by omega
  have hNn : N ≤ n := by omega
  obtain ⟨h1, h2⟩ := hx.1
  have hNk : N ≤ kc := by omega
  have hmx : kc ≤ 9223372036854775807 := h2
  have HX := Lib.hid hx
  have HNN := Lib.hid hN
  clear hx hN h1 h2
  go_enter Try.func36, Try.ntmps36
  go_wp2_with fail
  go_loopw [3, 16] (TMrel w ko N) (fun _ i _ => N - (intOf i).toNat)
  case atStart => exact ⟨0, [], rfl, Nat.zero_le _, Lib.hid rfl, Lib.hid (fun u hu => by cases hu), Lib.hid (fun i h => absurd h (Nat.not_lt_zero i)), Lib.hid (El.Row.nil _ _), Lib.hid (Below.refl _ _)⟩
  case round =>
    obtain ⟨j, us, rfl, hj, HU, HTV, HKS, HR, HW⟩ := hrel
    obtain ⟨oo, oc, rfl, hol, hoc, -⟩ := HR.out.form
    have hul := HU.out
    rw [hul] at hol
    by_cases hlt : j < N
    · obtain ⟨a, xk, b, o, l, c, d, p, m, q, rfl, ⟨c0, c1, c2, c3, c4⟩, ⟨xk1, xk2⟩, hn, hi⟩ := (HX.out.below HW.out).2 j (by omega)
      have HKX : Hid (∀ a2 k2, some a = some a2 → w.cell? (a2.add ((us.map (·.x)).length * 5)) = some (.int .i64 k2) → k2 = xk) := Lib.hid (fun a2 k2 e hc => by injection e with e; subst e; rw [List.length_map, HU.out] at hc; have h2 := (HW.out.cell (World.block_lt_of_cell? w _ hc)).trans hc; rw [c0] at h2; injection h2 with h2; injection h2 with _ h2; exact h2.symm)
      have HN := Lib.hid hn
      have HI := Lib.hid hi
      clear hn hi hul
      have tm1 := Int.tmod_lt_of_pos xk (b := 3) (by decide)
      have tm2 := Int.lt_tmod_of_pos xk (b := 3) (by decide)
      have wr1 : IntKind.i64.wrap (xk.tmod 3 + 3) = xk.tmod 3 + 3 := IntWalk.i64_in _ (by omega)
      have hK : (xk.tmod 3 + 3).tmod 3 = 0 ∨ (xk.tmod 3 + 3).tmod 3 = 1 ∨ (xk.tmod 3 + 3).tmod 3 = 2 := by rw [Int.tmod_eq_emod_of_nonneg (by omega)]; omega
      clear tm1 tm2
      obtain ⟨x1, k5, e5, ek5, hb5, hk5, HB5⟩ := newV wr #[.int .i64 xk, .bool b, .slice o l c, .bool d, .slice p m q] 41
      replace HN := Lib.hid (HN.out.below hb5.out)
      replace HI := Lib.hid (HI.out.below hb5.out)
      replace HR := Lib.hid (HR.out.below hb5.out)
      replace HW := Lib.hid (HW.out.trans (hb5.out.mono HW.out.size))
      have g0 := cell_at (v := .int .i64 xk) HB5.out 0 rfl
      have fg0 := froz_at HB5.out 0
      have g1 := cell_at (v := .bool b) HB5.out 1 rfl
      have fg1 := froz_at HB5.out 1
      have g2 := cell_at (v := .slice o l c) HB5.out 2 rfl
      have fg2 := froz_at HB5.out 2
      have g3 := cell_at (v := .bool d) HB5.out 3 rfl
      have fg3 := froz_at HB5.out 3
      have g4 := cell_at (v := .slice p m q) HB5.out 4 rfl
      have fg4 := froz_at HB5.out 4
      rcases hK with hK | hK | hK
      · go_wp2_with fail
        refine (small_p b o l c x1 HN.out).mono ?_
        rintro e x2 ⟨v, z, rfl, hz, hb⟩
        clear g0 fg0 g1 fg1 g2 fg2 g3 fg3 g4 fg4
        replace HB5 := kBV hb HB5
        replace HN := Lib.hid (HN.out.below hb)
        replace HI := Lib.hid (HI.out.below hb)
        replace HR := Lib.hid (HR.out.below hb)
        replace HW := Lib.hid (HW.out.trans (hb.mono HW.out.size))
        obtain ⟨zb, zo, zl, zc, rfl⟩ := hz.shape
        have HZ := Lib.hid hz
        clear hz hb
        go_wp2_with fail
        refine (ofInt_p _ z 4 x2 HZ.out.gi (by decide)).mono ?_
        rintro e x3 ⟨v, rfl, hc, hb⟩
        replace HB5 := kBV hb HB5
        replace HN := Lib.hid (HN.out.below hb)
        replace HI := Lib.hid (HI.out.below hb)
        replace HR := Lib.hid (HR.out.below hb)
        replace HW := Lib.hid (HW.out.trans (hb.mono HW.out.size))
        replace HZ := Lib.hid (HZ.out.below hb)
        clear hb
        obtain ⟨u, uk, ub, uo, ul, uc, ud, up, um, uq, rfl, hue, hux, hur⟩ := hc.unit
        have HUE := Lib.hid hue
        have HUX := Lib.hid hux
        have HUR := Lib.hid hur
        clear hc hue hux hur
        obtain ⟨x4, kq, eq, ekq, hbq, hkq, HBq⟩ := newV x3 #[.int .i64 uk, .bool ub, .slice uo ul uc, .bool ud, .slice up um uq] 41
        replace HB5 := kBV hbq.out HB5
        replace HN := Lib.hid (HN.out.below hbq.out)
        replace HI := Lib.hid (HI.out.below hbq.out)
        replace HR := Lib.hid (HR.out.below hbq.out)
        replace HW := Lib.hid (HW.out.trans (hbq.out.mono HW.out.size))
        replace HZ := Lib.hid (HZ.out.below hbq.out)
        replace HUR := Lib.hid (HUR.out.below hbq.out)
        have HAT := Lib.hid (one_atV HBq.out HUE.out HUR.out)
        go_wp2_with (at_builtin; refine El.Row.append (E := vE) HR.out rfl (.tmp 51) (.tmp 56) rfl rfl rfl HAT.out (by rw [HU.out]; simp; omega) HW.out.size ?_; intro v9 w9 r1 r2 r3 r4)
        go_roundw
        case rel => exact ⟨j + 1, us ++ [u], by go_num, hlt, Lib.hid (by rw [List.length_append, HU.out]; rfl), Lib.hid (fun y hy => by rcases List.mem_append.1 hy with hy | hy; exact HTV.out y hy; rw [List.mem_singleton] at hy; subst hy; rw [HUX.out]; exact HZ.out.lt), Lib.hid (by rw [List.map_append]; exact HKS.out.snoc (fun a2 k2 e hc => by rw [HKX.out a2 k2 e hc, hK]; show sortOf u.x = _; rw [HUX.out]; rfl)), Lib.hid r1, Lib.hid (HW.out.trans r3)⟩
        case measure => simp [intOf]; omega
      · go_wp2_with fail
        refine (ofBool_p d x1).mono ?_
        rintro e x2 ⟨v, rfl, hc, hb⟩
        clear g0 fg0 g1 fg1 g2 fg2 g3 fg3 g4 fg4
        replace HB5 := kBV hb HB5
        replace HN := Lib.hid (HN.out.below hb)
        replace HI := Lib.hid (HI.out.below hb)
        replace HR := Lib.hid (HR.out.below hb)
        replace HW := Lib.hid (HW.out.trans (hb.mono HW.out.size))
        clear hb
        obtain ⟨u, uk, ub, uo, ul, uc, ud, up, um, uq, rfl, hue, hux, hur⟩ := hc.unit
        have HUE := Lib.hid hue
        have HUX := Lib.hid hux
        have HUR := Lib.hid hur
        clear hc hue hux hur
        obtain ⟨x3, kq, eq, ekq, hbq, hkq, HBq⟩ := newV x2 #[.int .i64 uk, .bool ub, .slice uo ul uc, .bool ud, .slice up um uq] 41
        replace HB5 := kBV hbq.out HB5
        replace HN := Lib.hid (HN.out.below hbq.out)
        replace HI := Lib.hid (HI.out.below hbq.out)
        replace HR := Lib.hid (HR.out.below hbq.out)
        replace HW := Lib.hid (HW.out.trans (hbq.out.mono HW.out.size))
        replace HUR := Lib.hid (HUR.out.below hbq.out)
        have HAT := Lib.hid (one_atV HBq.out HUE.out HUR.out)
        go_wp2_with (at_builtin; refine El.Row.append (E := vE) HR.out rfl (.tmp 60) (.tmp 64) rfl rfl rfl HAT.out (by rw [HU.out]; simp; omega) HW.out.size ?_; intro v9 w9 r1 r2 r3 r4)
        go_roundw
        case rel => exact ⟨j + 1, us ++ [u], by go_num, hlt, Lib.hid (by rw [List.length_append, HU.out]; rfl), Lib.hid (fun y hy => by rcases List.mem_append.1 hy with hy | hy; exact HTV.out y hy; rw [List.mem_singleton] at hy; subst hy; rw [HUX.out]; exact trivial), Lib.hid (by rw [List.map_append]; exact HKS.out.snoc (fun a2 k2 e hc => by rw [HKX.out a2 k2 e hc, hK]; show sortOf u.x = _; rw [HUX.out]; rfl)), Lib.hid r1, Lib.hid (HW.out.trans r3)⟩
        case measure => simp [intOf]; omega
      · obtain ⟨M, hM⟩ : ∃ M, M = min m 6 := ⟨_, rfl⟩
        have hmin2 : min (m : Int) 6 = (M : Int) := by omega
        have hM6 : M ≤ 6 := by omega
        have hMm : M ≤ m := by omega
        obtain ⟨h1, h2⟩ := HI.out.1
        have hMk : M ≤ q := by omega
        have hmq : q ≤ 9223372036854775807 := h2
        clear hM h1 h2
        go_wp2_with fail
        clear g0 fg0 g1 fg1 g2 fg2 g3 fg3 g4 fg4
        go_loopw [7, 34] (TIrel w x1 M) (fun _ i _ => M - (intOf i).toNat)
        case atStart => exact ⟨0, [], rfl, Nat.zero_le _, Lib.hid rfl, Lib.hid (fun u hu => by cases hu), Lib.hid (El.Row.nil _ _), Lib.hid (Below.refl _ _)⟩
        case round =>
          obtain ⟨i, ns, rfl, hi, HNL, HNV, HRI, HS⟩ := hrel
          obtain ⟨io, ic, rfl, hil, hic, -⟩ := HRI.out.form
          have hnl := HNL.out
          rw [hnl] at hil
          by_cases hil2 : i < M
          · obtain ⟨ia, ib, io2, il, icc, rfl, i0, i1, hin⟩ := (HI.out.below HS.out).2 i (by omega)
            have HIN := Lib.hid hin
            clear hin hnl
            obtain ⟨x21, k9, e9, ek9, hb9, hk9, HB9⟩ := newV wr #[.bool ib, .slice io2 il icc] 26
            replace HIN := Lib.hid (HIN.out.below hb9.out)
            replace HRI := Lib.hid (HRI.out.below hb9.out)
            replace HS := Lib.hid (HS.out.trans (hb9.out.mono HS.out.size))
            have g0 := cell_at (v := .bool ib) HB9.out 0 rfl
            have fg0 := froz_at HB9.out 0
            have g1 := cell_at (v := .slice io2 il icc) HB9.out 1 rfl
            have fg1 := froz_at HB9.out 1
            go_wp2_with fail
            refine (small_p ib io2 il icc x21 HIN.out).mono ?_
            rintro e x22 ⟨v, z, rfl, hz, hb⟩
            clear g0 fg0 g1 fg1
            replace HB9 := kBV hb HB9
            replace HIN := Lib.hid (HIN.out.below hb)
            replace HRI := Lib.hid (HRI.out.below hb)
            replace HS := Lib.hid (HS.out.trans (hb.mono HS.out.size))
            clear hb
            obtain ⟨nu, zb, zo, zl, zc, rfl, hne, hnz, hnr⟩ := hz.unit (by decide)
            have HNE := Lib.hid hne
            have HNZ := Lib.hid hnz
            have HNR := Lib.hid hnr
            have HZL := Lib.hid hz.lt
            clear hz hne hnz hnr
            obtain ⟨x23, kq, eq, ekq, hbq, hkq, HBq⟩ := newV x22 #[.bool zb, .slice zo zl zc] 26
            replace HB9 := kBV hbq.out HB9
            replace HIN := Lib.hid (HIN.out.below hbq.out)
            replace HRI := Lib.hid (HRI.out.below hbq.out)
            replace HS := Lib.hid (HS.out.trans (hbq.out.mono HS.out.size))
            replace HNR := Lib.hid (nE.below HNR.out hbq.out)
            have HAT := Lib.hid (one_atN HBq.out HNE.out HNR.out)
            go_wp2_with (at_builtin; refine El.Row.append (E := nE) HRI.out rfl (.tmp 38) (.tmp 41) rfl rfl rfl HAT.out (by rw [HNL.out]; simp; omega) HS.out.size ?_; intro v9 w9 r1 r2 r3 r4)
            go_roundw
            case rel => exact ⟨i + 1, ns ++ [nu], by go_num, hil2, Lib.hid (by rw [List.length_append, HNL.out]; rfl), Lib.hid (fun y hy => by rcases List.mem_append.1 hy with hy | hy; exact HNV.out y hy; rw [List.mem_singleton] at hy; subst hy; rw [HNZ.out]; exact HZL.out), Lib.hid r1, Lib.hid (HS.out.trans r3)⟩
            case measure => simp [intOf]; omega
          · have eM : i = M := by omega
            go_wp2_with fail
            have hnlist : NL wr (.slice io M ic) (ns.map (·.z)) := ⟨ns, by have h := HRI.out.at; rw [HNL.out, eM] at h; exact h, rfl⟩
            replace HR := Lib.hid (HR.out.below HS.out)
            replace HW := Lib.hid (HW.out.trans (HS.out.mono HW.out.size))
            refine (ofList_p _ (ns.map (·.z)) wr hnlist (by simp; omega)).mono ?_
            rintro e x41 ⟨v, rfl, hc, hb⟩
            replace HR := Lib.hid (HR.out.below hb)
            replace HW := Lib.hid (HW.out.trans (hb.mono HW.out.size))
            clear hb
            obtain ⟨u, uk, ub, uo, ul, uc, ud, up, um, uq, rfl, hue, hux, hur⟩ := hc.unit
            have HUE := Lib.hid hue
            have HUX := Lib.hid hux
            have HUR := Lib.hid hur
            clear hc hue hux hur
            obtain ⟨x42, kq, eq, ekq, hbq, hkq, HBq⟩ := newV x41 #[.int .i64 uk, .bool ub, .slice uo ul uc, .bool ud, .slice up um uq] 41
            replace HR := Lib.hid (HR.out.below hbq.out)
            replace HW := Lib.hid (HW.out.trans (hbq.out.mono HW.out.size))
            replace HUR := Lib.hid (HUR.out.below hbq.out)
            have HAT := Lib.hid (one_atV HBq.out HUE.out HUR.out)
            go_wp2_with (at_builtin; refine El.Row.append (E := vE) HR.out rfl (.tmp 44) (.tmp 47) rfl rfl rfl HAT.out (by rw [HU.out]; simp; omega) HW.out.size ?_; intro v9 w9 r1 r2 r3 r4)
            go_roundw
            case rel => exact ⟨j + 1, us ++ [u], by go_num, hlt, Lib.hid (by rw [List.length_append, HU.out]; rfl), Lib.hid (fun y hy => by rcases List.mem_append.1 hy with hy | hy; exact HTV.out y hy; rw [List.mem_singleton] at hy; subst hy; rw [HUX.out]; exact ⟨by rw [List.length_map, HNL.out]; omega, fun y hy => by obtain ⟨t, ht, rfl⟩ := List.mem_map.1 hy; exact HNV.out t ht⟩), Lib.hid (by rw [List.map_append]; exact HKS.out.snoc (fun a2 k2 e hc => by rw [HKX.out a2 k2 e hc, hK]; show sortOf u.x = _; rw [HUX.out]; rfl)), Lib.hid r1, Lib.hid (HW.out.trans r3)⟩
            case measure => simp [intOf]; omega
    · go_wp2_with fail
      exact bodyPost_ret (results_tmp Try.results36 _ _ _) rfl ⟨_, us.map (·.x), rfl, ⟨us, HR.out.at, rfl⟩, by rw [List.length_map, HU.out, ← HNN.out]; omega, fun x hx => by obtain ⟨t, ht, rfl⟩ := List.mem_map.1 hx; exact HTV.out t ht, HKS.out, HW.out⟩
theorem tame_p (ko : Option Addr) (n kc : Nat) (w : World) (hx : RVals w ko n kc) :
    Calls Try.prog 36 #[.slice ko n kc] w fun e w' => ∃ v xs, e = .returned v ∧ VL w' v xs ∧ xs.length ≤ 5 ∧ (∀ x ∈ xs, TV x) ∧ Below w.heap.size w w' :=
  (tame_q ko n kc w hx).mono fun e w' ⟨v, xs, h1, h2, h3, h4, _, h5⟩ => ⟨v, xs, h1, h2, by omega, h4, h5⟩
end Go.Proofs.Ytinfbmnimkcdjaa
