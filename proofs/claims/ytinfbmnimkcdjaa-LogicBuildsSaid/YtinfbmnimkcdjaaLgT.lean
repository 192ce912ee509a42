/-
  What the laws bind names to: Env.
-/
import Derived.Test.YtinfbmnimkcdjaaLgS
namespace Go.Proofs.Ytinfbmnimkcdjaa
open Go.RowKit
set_option maxRecDepth 100000
set_option linter.unusedVariables false
set_option linter.unusedSimpArgs false

attribute [local go_sem] fieldV0 fieldV1 fieldV2 fieldV3
def nmAt (j : Nat) : ByteArray := [(⟨#[105, 48]⟩ : ByteArray), ⟨#[105, 49]⟩, ⟨#[105, 50]⟩, ⟨#[108, 48]⟩, ⟨#[108, 49]⟩, ⟨#[98, 48]⟩, ⟨#[98, 49]⟩].getD j ⟨#[]⟩
def kdAt (j : Nat) : Int := [(0 : Int), 0, 0, 2, 2, 1, 1].getD j 0
theorem kd_small (j : Nat) : kdAt j = 0 ∨ kdAt j = 1 ∨ kdAt j = 2 := by
  unfold kdAt
  match j with
  | 0 | 1 | 2 | 3 | 4 | 5 | 6 => simp
  | j + 7 => simp
theorem idx7 (j : Nat) (h : j < 7) (w : World) : (Instr.index 69 (.agg #[.int .i64 0, .int .i64 0, .int .i64 0, .int .i64 2, .int .i64 2, .int .i64 1, .int .i64 1]) (.int .i64 (j : Nat))).run Try.prog w = .ok (.int .i64 (kdAt j)) w := by
  have : j = 0 ∨ j = 1 ∨ j = 2 ∨ j = 3 ∨ j = 4 ∨ j = 5 ∨ j = 6 := by omega
  rcases this with rfl | rfl | rfl | rfl | rfl | rfl | rfl <;> (unfold Instr.index; simp [go_sem, asIntOf, kdAt])
theorem names_at {w : World} {g : Nat} {T : TypeId} (h : w.heap[g]? = some (.cells #[.string ⟨#[105, 48]⟩, .string ⟨#[105, 49]⟩, .string ⟨#[105, 50]⟩, .string ⟨#[108, 48]⟩, .string ⟨#[108, 49]⟩, .string ⟨#[98, 48]⟩, .string ⟨#[98, 49]⟩] T (0, 0))) (j : Nat) (hj : j < 7) : w.cell? ⟨g, j, none⟩ = some (.string (nmAt j)) := by
  have : j = 0 ∨ j = 1 ∨ j = 2 ∨ j = 3 ∨ j = 4 ∨ j = 5 ∨ j = 6 := by omega
  rcases this with rfl | rfl | rfl | rfl | rfl | rfl | rfl <;> exact cell_at h _ rfl
theorem RVals.one {w : World} {g : Nat} {k : Int} {b d : Bool} {o p : Option Addr} {l c m q : Nat} (h : w.heap[g]? = some (.cells #[.int .i64 k, .bool b, .slice o l c, .bool d, .slice p m q] 41 (0, 0))) (hk : -9223372036854775808 ≤ k ∧ k ≤ 9223372036854775807) (h1 : RNum w (.slice o l c)) (h2 : RInts w p m q) : RVals w (some ⟨g, 0, none⟩) 1 1 := by
  refine ⟨⟨Nat.le_refl _, by decide⟩, fun i hi => ?_⟩
  obtain rfl : i = 0 := by omega
  exact ⟨_, k, b, o, l, c, d, p, m, q, rfl, ⟨cell_at h 0 rfl, cell_at h 1 rfl, cell_at h 2 rfl, cell_at h 3 rfl, cell_at h 4 rfl⟩, hk, h1, h2⟩
theorem RNum.nil (w : World) : RNum w (.slice none 0 0) := ⟨[], Sl.nil _ _, Dig.nil _⟩
theorem RInts.nil (w : World) : RInts w none 0 0 := ⟨⟨Nat.le_refl _, Nat.zero_le _⟩, fun i hi => absurd hi (Nat.not_lt_zero i)⟩
theorem one_atB {w : World} {g : Nat} {nm : ByteArray} {u : VU} {k : Int} {b d : Bool} {o p : Option Addr} {l c m q : Nat} (hB : w.heap[g]? = some (.cells #[.string nm, .int .i64 k, .bool b, .slice o l c, .bool d, .slice p m q] 61 (0, 0))) (hu : vC u = [.int .i64 k, .bool b, .slice o l c, .bool d, .slice p m q]) (hR : VR w u) : bE.At w (.slice (some ⟨g, 0, none⟩) 1 1) [⟨nm, u⟩] :=
  El.At.block (E := bE) (el := [⟨nm, u⟩]) (by rw [hB]; simp only [List.flatMap_cons, List.flatMap_nil, List.append_nil, show bE.f ⟨nm, u⟩ = .string nm :: vC u from rfl, hu]; rfl) (show 1 ≤ maxLen by decide) (fun a ha => by rw [List.mem_singleton] at ha; subst ha; exact hR)
/-- What the first j names are bound to. -/
def EnvAt (j : Nat) (env : List (ByteArray × V)) : Prop := env.map (·.1) = (List.range j).map nmAt ∧ env.map (fun p => sortOf p.2) = (List.range j).map kdAt ∧ ∀ p ∈ env, TV p.2
theorem EnvAt.snoc {j : Nat} {env : List (ByteArray × V)} {x : V} (h : EnvAt j env) (hs : sortOf x = kdAt j) (hx : TV x) : EnvAt (j + 1) (env ++ [(nmAt j, x)]) := by
  obtain ⟨h1, h2, h3⟩ := h
  refine ⟨by rw [List.map_append, h1, List.range_succ, List.map_append]; rfl, by rw [List.map_append, h2, List.range_succ, List.map_append]; simp [hs], fun p hp => ?_⟩
  rcases List.mem_append.1 hp with hp | hp
  · exact h3 p hp
  · rw [List.mem_singleton] at hp; subst hp; exact hx
theorem set1_of5 {w : World} {g : Nat} {T : TypeId} {a0 a1 a2 a3 a4 : Value} (h : w.heap[g]? = some (.cells #[a0, a1, a2, a3, a4] T (0, 0))) (v : Value) : (w.setCell ⟨g, 0, none⟩ v).heap[g]? = some (.cells #[v, a1, a2, a3, a4] T (0, 0)) := heap_setCell_same _ g 0 _ T v h
/-- A growing list where a block is written that is not its own. -/
theorem El.Row.other2 {α : Type} {E : El α} {w w' : World} {B g : Nat} {v : Value} {el : List α} (h : E.Row w B v el) (hg : w.grownBy w' (some g)) (hne : ∀ j, v.ownBlock = some j → j ≠ g) {e : TypeId} (hf : Fr e w w') (hok : E.ok e) : E.Row w' B v el := by
  refine ⟨?_, fun j hj => ?_, fun q hq => E.fr hok hf (h.rd q hq)⟩
  · rcases hr : v.ownBlock with _ | j
    · exact World.ownsRow.kept h.own hg (.inl hr)
    · exact World.ownsRow.kept h.own hg (.inr (by rw [hr]; intro e; injection e with e; exact hne j hr e))
  · obtain ⟨c, hc, h32⟩ := h.n32 j hj
    exact ⟨c, (hg.block j (lt_of_block hc) (fun e => by injection e with e; exact hne j hj e)).trans hc, h32⟩
/-- What the loop holds. -/
def EvRel (w : World) (kn : Nat) (B : Nat) (ov iv : Value) (wr : World) : Prop :=
  ∃ (j : Nat) (us : List BU), iv = .int .i64 (j : Nat) ∧ j ≤ 7 ∧ Hid (us.length = j) ∧ Hid (EnvAt j (envOf us)) ∧ Hid (bE.Row wr B ov us) ∧ Hid (Below w.heap.size w wr) ∧ Hid (wr.heap[kn]? = some (.cells #[.string ⟨#[105, 48]⟩, .string ⟨#[105, 49]⟩, .string ⟨#[105, 50]⟩, .string ⟨#[108, 48]⟩, .string ⟨#[108, 49]⟩, .string ⟨#[98, 48]⟩, .string ⟨#[98, 49]⟩] 9 (0, 0))) ∧ Hid (B ≤ wr.heap.size)
set_option maxHeartbeats 8000000 in
theorem env_p (ko : Option Addr) (n kc : Nat) (w : World) (hx : RVals w ko n kc) :
    Calls Try.prog 9 #[.slice ko n kc] w fun e w' => ∃ v env, e = .returned v ∧ EL w' v env ∧ EnvAt 7 env ∧ Below w.heap.size w w' := by
  obtain ⟨h1, h2⟩ := hx.1
  have hmx : kc ≤ 9223372036854775807 := h2
  have HX := Lib.hid hx
  clear hx h2
  have HW := Lib.hid (Below.refl w.heap.size w)
  go_enter Try.func9, Try.ntmps9
  obtain ⟨x1, kn, en, ekn, hbn, hkn, HBn⟩ := newV w #[.string ⟨#[105, 48]⟩, .string ⟨#[105, 49]⟩, .string ⟨#[105, 50]⟩, .string ⟨#[108, 48]⟩, .string ⟨#[108, 49]⟩, .string ⟨#[98, 48]⟩, .string ⟨#[98, 49]⟩] 9
  replace HW := Lib.hid (HW.out.trans (hbn.out.mono HW.out.size))
  have HNB : Hid (kn < x1.heap.size) := Lib.hid (lt_of_block HBn.out)
  go_wp2_with fail
  go_loopw [3, 9] (EvRel w kn x1.heap.size) (fun _ i _ => 7 - (intOf i).toNat)
  case atStart => exact ⟨0, [], rfl, Nat.zero_le _, Lib.hid rfl, Lib.hid ⟨rfl, rfl, fun p hp => by cases hp⟩, Lib.hid (El.Row.nil _ _), HW, HBn, Lib.hid (Nat.le_refl _)⟩
  case round =>
    obtain ⟨wl, hwl⟩ : ∃ q, q = wr := ⟨_, rfl⟩
    subst hwl
    clear HW HBn
    obtain ⟨j, us, rfl, hj, HU, HEN, HR, HW, HBn, HSZ⟩ := hrel
    obtain ⟨oo, oc, rfl, hol, hoc, -⟩ := HR.out.form
    have hul := HU.out
    rw [hul] at hol
    by_cases hlt : j < 7
    · have nmc := names_at HBn.out j hlt
      have hix := idx7 j hlt
      have HL := Lib.hid hlt
      clear hul
      go_upto_region 6 with fail
      have HWp := HW
      have HRp := HR
      have HBnp := HBn
      obtain ⟨x2, kv, ev, ekv, hbv, hkv, HBv⟩ := newV wl #[.int .i64 0, .bool false, .slice none 0 0, .bool false, .slice none 0 0] 41
      replace HBn := kBV hbv.out HBn
      replace HW := Lib.hid (HW.out.trans (hbv.out.mono HW.out.size))
      replace HR := Lib.hid (HR.out.below hbv.out)
      replace HSZ := Lib.hid (Nat.le_trans HSZ.out hbv.out.size)
      rw [ev, ekv]
      have HKv : Hid (w.heap.size ≤ kv) := Lib.hid (by rw [← ekv]; exact HWp.out.size)
      have HRV0 : Hid (∀ q, (Value.slice oo us.length oc).ownBlock = some q → q ≠ kv) := Lib.hid (fun q hq => by have h1 := (HRp.out.ge hq).2; rw [ekv] at h1; omega)
      have HNV : Hid (some kn ≠ some kv) := Lib.hid (fun e => by injection e with e; have h1 := lt_of_block HBnp.out; rw [ekv] at h1; omega)
      by_cases hjn : j < n
      · obtain ⟨a, xk, rb, ro, rl, rc, rd, rp, rm, rq, rfl, ⟨g0, g1, g2, g3, g4⟩, hxk, hrn, hri⟩ := HX.out.2 j hjn
        have HRN0 := Lib.hid hrn
        have HRI0 := Lib.hid hri
        clear hrn hri hxk
        rw [← HW.out.cell (World.block_lt_of_cell? w _ g0)] at g0
        rw [← HW.out.cell (World.block_lt_of_cell? w _ g1)] at g1
        rw [← HW.out.cell (World.block_lt_of_cell? w _ g2)] at g2
        rw [← HW.out.cell (World.block_lt_of_cell? w _ g3)] at g3
        rw [← HW.out.cell (World.block_lt_of_cell? w _ g4)] at g4
        have hjn2 : ((j : Nat) : Int) < ((n : Nat) : Int) := by omega
        have v0 := cell_at (v := .int .i64 0) HBv.out 0 rfl
        have fv0 := froz_at HBv.out 0
        have v1 := cell_at (v := .bool false) HBv.out 1 rfl
        have fv1 := froz_at HBv.out 1
        have v2 := cell_at (v := .slice none 0 0) HBv.out 2 rfl
        have fv2 := froz_at HBv.out 2
        have v3 := cell_at (v := .bool false) HBv.out 3 rfl
        have fv3 := froz_at HBv.out 3
        have v4 := cell_at (v := .slice none 0 0) HBv.out 4 rfl
        have fv4 := froz_at HBv.out 4
        go_upto_region 9 with fail
        clear nmc v0 fv0 v1 fv1 v2 fv2 v3 fv3 v4 fv4 g0 g1 g2 g3 g4
        have hg1 := grown5V (w := x2) (k := kv) (.int .i64 xk) (.bool rb) (.slice ro rl rc) (.bool rd) (.slice rp rm rq)
        have hb1 := set5_same HBv.out (.int .i64 xk) (.bool rb) (.slice ro rl rc) (.bool rd) (.slice rp rm rq)
        obtain ⟨W1, hW1⟩ : ∃ q, q = ((((x2.setCell ⟨kv, 0, none⟩ (.int .i64 xk)).setCell ⟨kv, 1, none⟩ (.bool rb)).setCell ⟨kv, 2, none⟩ (.slice ro rl rc)).setCell ⟨kv, 3, none⟩ (.bool rd)).setCell ⟨kv, 4, none⟩ (.slice rp rm rq) := ⟨_, rfl⟩
        rw [← hW1] at hg1 hb1 ⊢
        have hg2 : W1.grownBy (W1.setCell ⟨kv, 0, none⟩ (.int .i64 (kdAt j))) (some kv) := grown_setCell (World.grownBy.refl _ _) _
        have hb2 := set1_of5 hb1 (.int .i64 (kdAt j))
        obtain ⟨W2, hW2⟩ : ∃ q, q = W1.setCell ⟨kv, 0, none⟩ (.int .i64 (kdAt j)) := ⟨_, rfl⟩
        rw [← hW2] at hg2 hb2 ⊢
        have hf1 : Fr 41 x2 W1 := .of_grown hg1 (fun j hj => by injection hj with hj; subst hj; exact ⟨_, HBv.out, n32_5⟩)
        have hf2 : Fr 41 W1 W2 := .of_grown hg2 (fun j hj => by injection hj with hj; subst hj; exact ⟨_, hb1, n32_5⟩)
        replace HR := Lib.hid ((HR.out.other2 hg1 HRV0.out hf1 (show 26 ≠ 41 by decide)).other2 hg2 HRV0.out hf2 (show 26 ≠ 41 by decide))
        replace HW := Lib.hid (ext_below (ext_below HW.out hg1 HKv.out) hg2 HKv.out)
        replace HSZ := Lib.hid (Nat.le_trans HSZ.out (Nat.le_trans hg1.size hg2.size))
        replace HBn := Lib.hid ((hg2.block kn (lt_of_block ((hg1.block kn (lt_of_block HBn.out) HNV.out).trans HBn.out)) HNV.out).trans ((hg1.block kn (lt_of_block HBn.out) HNV.out).trans HBn.out))
        have HRN2 := Lib.hid (HRN0.out.below HW.out)
        have HRI2 := Lib.hid (HRI0.out.below HW.out)
        replace HBv := Lib.hid hb2
        clear hg2 hb2 hW2 hf2 hg1 hb1 hW1 hf1
        have v0 := cell_at (v := .int .i64 (kdAt j)) HBv.out 0 rfl
        have fv0 := froz_at HBv.out 0
        have v1 := cell_at (v := .bool rb) HBv.out 1 rfl
        have fv1 := froz_at HBv.out 1
        have v2 := cell_at (v := .slice ro rl rc) HBv.out 2 rfl
        have fv2 := froz_at HBv.out 2
        have v3 := cell_at (v := .bool rd) HBv.out 3 rfl
        have fv3 := froz_at HBv.out 3
        have v4 := cell_at (v := .slice rp rm rq) HBv.out 4 rfl
        have fv4 := froz_at HBv.out 4
        obtain ⟨x3, ky, ey, eky, hby, hky, HBy⟩ := newV W2 #[.int .i64 (kdAt j), .bool rb, .slice ro rl rc, .bool rd, .slice rp rm rq] 41
        replace HBn := kBV hby.out HBn
        replace HBv := kBV hby.out HBv
        replace HW := Lib.hid (HW.out.trans (hby.out.mono HW.out.size))
        replace HR := Lib.hid (HR.out.below hby.out)
        replace HSZ := Lib.hid (Nat.le_trans HSZ.out hby.out.size)
        have HRV := Lib.hid (RVals.one HBy.out (by rcases kd_small j with h | h | h <;> rw [h] <;> decide) (HRN2.out.below hby.out) (HRI2.out.below hby.out))
        have hyc := cell_at (v := .int .i64 (kdAt j)) HBy.out 0 rfl
        go_wp2_with fail
        refine (tame_q _ 1 1 x3 HRV.out).mono ?_
        rintro e x4 ⟨t, xs, rfl, hvl, hlen, htv, hks, hb⟩
        clear v0 fv0 v1 fv1 v2 fv2 v3 fv3 v4 fv4
        replace HBn := kBV hb HBn
        replace HBv := kBV hb HBv
        replace HBy := kBV hb HBy
        replace HW := Lib.hid (HW.out.trans (hb.mono HW.out.size))
        replace HR := Lib.hid (HR.out.below hb)
        replace HSZ := Lib.hid (Nat.le_trans HSZ.out hb.size)
        obtain ⟨x, rfl⟩ : ∃ x, xs = [x] := by
          have hl1 : xs.length = 1 := by rw [hlen]; rfl
          exact List.length_eq_one_iff.1 hl1
        have hsx : sortOf x = kdAt j := by
          have := hks 0 (by simp) _ (kdAt j) rfl (by rw [show (⟨ky, 0, none⟩ : Addr).add (0 * 5) = ⟨ky, 0, none⟩ from rfl]; exact hyc)
          simp only [List.getElem_cons_zero] at this
          rw [this]
          rcases kd_small j with h | h | h <;> rw [h] <;> rfl
        have HSX := Lib.hid hsx
        have HTX := Lib.hid (htv x (by simp))
        obtain ⟨tO, tc, rfl, ⟨ht1, ht2⟩, htc⟩ := hvl.form
        obtain ⟨a3, tk, tb, to2, tl2, tc2, td, tp, tm, tq, rfl, ⟨t0, t1, t2, t3, t4⟩, hvc⟩ := htc 0 (by simp)
        have htcm : tc ≤ 9223372036854775807 := ht2
        simp only [List.getElem_cons_zero, Nat.zero_mul, Addr.add, if_true] at t0 t1 t2 t3 t4 hvc
        have hlen1 : [x].length ≤ tc := ht1
        simp only [List.length_cons, List.length_nil] at hlen1
        obtain ⟨u, uk, ub, uo, ul, uc, ud, up, um, uq, hue0, hue, hux, hur⟩ := hvc.unit
        injection hue0 with hue0
        have e0 := congrArg Array.toList hue0
        simp only [List.cons.injEq, Value.int.injEq, Value.bool.injEq, Value.slice.injEq, and_true, true_and] at e0
        obtain ⟨rfl, rfl, ⟨rfl, rfl, rfl⟩, rfl, rfl, rfl, rfl⟩ := e0
        have HUE := Lib.hid hue
        have HUX := Lib.hid hux
        have HUR := Lib.hid hur
        clear hue0 hvl hlen htv hks hsx hvc hue hux hur htc ht1 ht2 hyc
        obtain ⟨x5, kz, ez, ekz, hbz, hkz, HBz⟩ := newV x4 #[.string (nmAt j), .int .i64 tk, .bool tb, .slice to2 tl2 tc2, .bool td, .slice tp tm tq] 61
        replace HBn := kBV hbz.out HBn
        replace HBv := kBV hbz.out HBv
        replace HBy := kBV hbz.out HBy
        replace HW := Lib.hid (HW.out.trans (hbz.out.mono HW.out.size))
        replace HR := Lib.hid (HR.out.below hbz.out)
        replace HSZ := Lib.hid (Nat.le_trans HSZ.out hbz.out.size)
        replace HUR := Lib.hid (HUR.out.below hbz.out)
        have HAT := Lib.hid (one_atB HBz.out HUE.out HUR.out)
        go_wp2_with (at_builtin; refine El.Row.append (E := bE) HR.out rfl (.tmp 27) (.tmp 35) rfl rfl rfl HAT.out (by rw [HU.out]; simp; omega) HSZ.out ?_; intro v9 w9 r1 r2 r3 r4)
        go_roundw
        case rel => exact ⟨j + 1, us ++ [⟨nmAt j, u⟩], by go_num, HL.out, Lib.hid (by rw [List.length_append, HU.out]; rfl), Lib.hid (by unfold envOf; rw [List.map_append]; exact HEN.out.snoc (by rw [HUX.out]; exact HSX.out) (by rw [HUX.out]; exact HTX.out)), Lib.hid r1, Lib.hid (HW.out.trans (r3.mono (by have := hbn.out.size; exact this))), Lib.hid ((r3.block kn HNB.out).trans HBn.out), Lib.hid (Nat.le_trans HSZ.out r3.size)⟩
        case measure => simp [intOf]; omega
      · have hjn2 : ¬ ((j : Nat) : Int) < ((n : Nat) : Int) := by omega
        have v0 := cell_at (v := .int .i64 0) HBv.out 0 rfl
        have fv0 := froz_at HBv.out 0
        have v1 := cell_at (v := .bool false) HBv.out 1 rfl
        have fv1 := froz_at HBv.out 1
        have v2 := cell_at (v := .slice none 0 0) HBv.out 2 rfl
        have fv2 := froz_at HBv.out 2
        have v3 := cell_at (v := .bool false) HBv.out 3 rfl
        have fv3 := froz_at HBv.out 3
        have v4 := cell_at (v := .slice none 0 0) HBv.out 4 rfl
        have fv4 := froz_at HBv.out 4
        go_upto_region 9 with fail
        clear nmc v0 fv0 v1 fv1 v2 fv2 v3 fv3 v4 fv4
        have hg2 : x2.grownBy (x2.setCell ⟨kv, 0, none⟩ (.int .i64 (kdAt j))) (some kv) := grown_setCell (World.grownBy.refl _ _) _
        have hb2 := set1_of5 HBv.out (.int .i64 (kdAt j))
        obtain ⟨W2, hW2⟩ : ∃ q, q = x2.setCell ⟨kv, 0, none⟩ (.int .i64 (kdAt j)) := ⟨_, rfl⟩
        rw [← hW2] at hg2 hb2 ⊢
        have hf2 : Fr 41 x2 W2 := .of_grown hg2 (fun j hj => by injection hj with hj; subst hj; exact ⟨_, HBv.out, n32_5⟩)
        replace HR := Lib.hid (HR.out.other2 hg2 HRV0.out hf2 (show 26 ≠ 41 by decide))
        replace HW := Lib.hid (ext_below HW.out hg2 HKv.out)
        replace HSZ := Lib.hid (Nat.le_trans HSZ.out hg2.size)
        replace HBn := Lib.hid ((hg2.block kn (lt_of_block HBn.out) HNV.out).trans HBn.out)
        replace HBv := Lib.hid hb2
        clear hg2 hb2 hW2 hf2
        have v0 := cell_at (v := .int .i64 (kdAt j)) HBv.out 0 rfl
        have fv0 := froz_at HBv.out 0
        have v1 := cell_at (v := .bool false) HBv.out 1 rfl
        have fv1 := froz_at HBv.out 1
        have v2 := cell_at (v := .slice none 0 0) HBv.out 2 rfl
        have fv2 := froz_at HBv.out 2
        have v3 := cell_at (v := .bool false) HBv.out 3 rfl
        have fv3 := froz_at HBv.out 3
        have v4 := cell_at (v := .slice none 0 0) HBv.out 4 rfl
        have fv4 := froz_at HBv.out 4
        obtain ⟨x3, ky, ey, eky, hby, hky, HBy⟩ := newV W2 #[.int .i64 (kdAt j), .bool false, .slice none 0 0, .bool false, .slice none 0 0] 41
        replace HBn := kBV hby.out HBn
        replace HBv := kBV hby.out HBv
        replace HW := Lib.hid (HW.out.trans (hby.out.mono HW.out.size))
        replace HR := Lib.hid (HR.out.below hby.out)
        replace HSZ := Lib.hid (Nat.le_trans HSZ.out hby.out.size)
        have HRV := Lib.hid (RVals.one HBy.out (by rcases kd_small j with h | h | h <;> rw [h] <;> decide) (RNum.nil _) (RInts.nil _))
        have hyc := cell_at (v := .int .i64 (kdAt j)) HBy.out 0 rfl
        go_wp2_with fail
        refine (tame_q _ 1 1 x3 HRV.out).mono ?_
        rintro e x4 ⟨t, xs, rfl, hvl, hlen, htv, hks, hb⟩
        clear v0 fv0 v1 fv1 v2 fv2 v3 fv3 v4 fv4
        replace HBn := kBV hb HBn
        replace HBv := kBV hb HBv
        replace HBy := kBV hb HBy
        replace HW := Lib.hid (HW.out.trans (hb.mono HW.out.size))
        replace HR := Lib.hid (HR.out.below hb)
        replace HSZ := Lib.hid (Nat.le_trans HSZ.out hb.size)
        obtain ⟨x, rfl⟩ : ∃ x, xs = [x] := by
          have hl1 : xs.length = 1 := by rw [hlen]; rfl
          exact List.length_eq_one_iff.1 hl1
        have hsx : sortOf x = kdAt j := by
          have := hks 0 (by simp) _ (kdAt j) rfl (by rw [show (⟨ky, 0, none⟩ : Addr).add (0 * 5) = ⟨ky, 0, none⟩ from rfl]; exact hyc)
          simp only [List.getElem_cons_zero] at this
          rw [this]
          rcases kd_small j with h | h | h <;> rw [h] <;> rfl
        have HSX := Lib.hid hsx
        have HTX := Lib.hid (htv x (by simp))
        obtain ⟨tO, tc, rfl, ⟨ht1, ht2⟩, htc⟩ := hvl.form
        obtain ⟨a3, tk, tb, to2, tl2, tc2, td, tp, tm, tq, rfl, ⟨t0, t1, t2, t3, t4⟩, hvc⟩ := htc 0 (by simp)
        have htcm : tc ≤ 9223372036854775807 := ht2
        simp only [List.getElem_cons_zero, Nat.zero_mul, Addr.add, if_true] at t0 t1 t2 t3 t4 hvc
        have hlen1 : [x].length ≤ tc := ht1
        simp only [List.length_cons, List.length_nil] at hlen1
        obtain ⟨u, uk, ub, uo, ul, uc, ud, up, um, uq, hue0, hue, hux, hur⟩ := hvc.unit
        injection hue0 with hue0
        have e0 := congrArg Array.toList hue0
        simp only [List.cons.injEq, Value.int.injEq, Value.bool.injEq, Value.slice.injEq, and_true, true_and] at e0
        obtain ⟨rfl, rfl, ⟨rfl, rfl, rfl⟩, rfl, rfl, rfl, rfl⟩ := e0
        have HUE := Lib.hid hue
        have HUX := Lib.hid hux
        have HUR := Lib.hid hur
        clear hue0 hvl hlen htv hks hsx hvc hue hux hur htc ht1 ht2 hyc
        obtain ⟨x5, kz, ez, ekz, hbz, hkz, HBz⟩ := newV x4 #[.string (nmAt j), .int .i64 tk, .bool tb, .slice to2 tl2 tc2, .bool td, .slice tp tm tq] 61
        replace HBn := kBV hbz.out HBn
        replace HBv := kBV hbz.out HBv
        replace HBy := kBV hbz.out HBy
        replace HW := Lib.hid (HW.out.trans (hbz.out.mono HW.out.size))
        replace HR := Lib.hid (HR.out.below hbz.out)
        replace HSZ := Lib.hid (Nat.le_trans HSZ.out hbz.out.size)
        replace HUR := Lib.hid (HUR.out.below hbz.out)
        have HAT := Lib.hid (one_atB HBz.out HUE.out HUR.out)
        go_wp2_with (at_builtin; refine El.Row.append (E := bE) HR.out rfl (.tmp 27) (.tmp 35) rfl rfl rfl HAT.out (by rw [HU.out]; simp; omega) HSZ.out ?_; intro v9 w9 r1 r2 r3 r4)
        go_roundw
        case rel => exact ⟨j + 1, us ++ [⟨nmAt j, u⟩], by go_num, HL.out, Lib.hid (by rw [List.length_append, HU.out]; rfl), Lib.hid (by unfold envOf; rw [List.map_append]; exact HEN.out.snoc (by rw [HUX.out]; exact HSX.out) (by rw [HUX.out]; exact HTX.out)), Lib.hid r1, Lib.hid (HW.out.trans (r3.mono (by have := hbn.out.size; exact this))), Lib.hid ((r3.block kn HNB.out).trans HBn.out), Lib.hid (Nat.le_trans HSZ.out r3.size)⟩
        case measure => simp [intOf]; omega
    · go_wp2_with fail
      go_ret
      have e7 : j = 7 := by omega
      exact ⟨_, _, rfl, ⟨us, HR.out.at, rfl⟩, by rw [← e7]; exact HEN.out, HW.out⟩
end Go.Proofs.Ytinfbmnimkcdjaa
