/-
  What a name is bound to: (logic.bindings).lookup.
-/
import Derived.Test.YtinfbmnimkcdjaaLgG
namespace Go.Proofs.Ytinfbmnimkcdjaa
open Go.RowKit Go.Shelf
set_option maxRecDepth 100000
set_option linter.unusedVariables false
set_option linter.unusedSimpArgs false
attribute [local go_sem] Oper.semAt_some

theorem bs_no {a b : ByteArray} (h : a ≠ b) : (a.toList == b.toList) = false := beq_eq_false_iff_ne.2 (fun e => h (by
  rw [ByteArray.toList_eq, ByteArray.toList_eq] at e
  exact ByteArray.ext (Array.toList_inj.1 e)))
theorem bs_yes {a b : ByteArray} (h : a = b) : (a.toList == b.toList) = true := by subst h; exact beq_self_eq_true _
theorem zip_two (T : Array Value) (k l : Nat) (v u : Value) : (#[k, l].zip #[v, u]).foldl (fun t (x : Nat × Value) => t.setIfInBounds x.1 x.2) T = (T.setIfInBounds k v).setIfInBounds l u := by simp
theorem set5_same {w : World} {g : Nat} {T : TypeId} {a0 a1 a2 a3 a4 : Value} (h : w.heap[g]? = some (.cells #[a0, a1, a2, a3, a4] T (0, 0))) (v0 v1 v2 v3 v4 : Value) :
    (((((w.setCell ⟨g, 0, none⟩ v0).setCell ⟨g, 1, none⟩ v1).setCell ⟨g, 2, none⟩ v2).setCell ⟨g, 3, none⟩ v3).setCell ⟨g, 4, none⟩ v4).heap[g]? = some (.cells #[v0, v1, v2, v3, v4] T (0, 0)) := by
  have h0 : (w.setCell ⟨g, 0, none⟩ v0).heap[g]? = some (.cells #[v0, a1, a2, a3, a4] T (0, 0)) := heap_setCell_same _ g 0 _ T v0 h
  have h1 : ((w.setCell ⟨g, 0, none⟩ v0).setCell ⟨g, 1, none⟩ v1).heap[g]? = some (.cells #[v0, v1, a2, a3, a4] T (0, 0)) := heap_setCell_same _ g 1 _ T v1 h0
  have h2 : (((w.setCell ⟨g, 0, none⟩ v0).setCell ⟨g, 1, none⟩ v1).setCell ⟨g, 2, none⟩ v2).heap[g]? = some (.cells #[v0, v1, v2, a3, a4] T (0, 0)) := heap_setCell_same _ g 2 _ T v2 h1
  have h3 : ((((w.setCell ⟨g, 0, none⟩ v0).setCell ⟨g, 1, none⟩ v1).setCell ⟨g, 2, none⟩ v2).setCell ⟨g, 3, none⟩ v3).heap[g]? = some (.cells #[v0, v1, v2, v3, a4] T (0, 0)) := heap_setCell_same _ g 3 _ T v3 h2
  exact heap_setCell_same _ g 4 _ T v4 h3
/-- What a name of sort b is bound to. -/
def lkV (x : V) (b : Int) : V := if sortOf x = b then x else .I 0
theorem VR.sort {w : World} {u : VU} (h : VR w u) : u.k = sortOf u.x := by
  unfold VR at h
  cases hx : u.x <;> rw [hx] at h <;> exact h.1
theorem fold_none {nm : ByteArray} : ∀ (l : List (ByteArray × V)) (a : V), (∀ p ∈ l, p.1 ≠ nm) → l.foldl (fun a p => if p.1 = nm then p.2 else a) a = a
  | [], _, _ => rfl
  | q :: l, a, h => by rw [List.foldl_cons, if_neg (h q (by simp))]; exact fold_none l a (fun p hp => h p (by simp [hp]))
theorem rho_none {env : List (ByteArray × V)} {nm : ByteArray} (h : ∀ p ∈ env, p.1 ≠ nm) : rho env nm = .I 0 := fold_none env _ h
theorem rho_hit {env : List (ByteArray × V)} {nm : ByteArray} {k : Nat} (hk : k < env.length) (h1 : env[k].1 = nm) (h2 : ∀ p ∈ env.drop (k + 1), p.1 ≠ nm) : rho env nm = env[k].2 := by
  have key : rho (env.take (k + 1) ++ env.drop (k + 1)) nm = rho (env.take (k + 1)) nm := by
    unfold rho; rw [List.foldl_append]; exact fold_none _ _ h2
  rw [List.take_append_drop] at key
  rw [key, rho_take env nm k hk, if_pos h1]
/-- What the loop holds. -/
def LkI (w4 : World) (nm : ByteArray) (pre : List YI) (W : World) : Prop := Below w4.heap.size w4 W ∧ ∀ x ∈ pre, x.2.nm ≠ nm
theorem LkI.own (w4 : World) (nm : ByteArray) : OwnFrom w4.heap.size (LkI w4 nm) := by
  rintro pre W W' row ⟨h1, h2⟩ hg hr
  exact ⟨⟨hg.os.trans h1.os, hg.tape.trans h1.tape, hg.output.trans h1.output, Nat.le_trans h1.size hg.size, fun k hk => (hg.block k (by have := h1.size; omega) (fun e => by have := (hr k e.symm).1; omega)).trans (h1.block k hk)⟩, h2⟩
def LkX (w w4 : World) (kr : Nat) (nm : ByteArray) (b : Int) (c : Code) (pre : List YI) (W : World) : Prop :=
  ∃ pre' x, pre = pre' ++ [x] ∧ (∀ y ∈ pre', y.2.nm ≠ nm) ∧ x.2.nm = nm ∧ Below w.heap.size w W ∧ w4.heap.size ≤ W.heap.size ∧
    ((c = .ret ∧ x.2.u.k = b ∧ W.heap[kr]? = some (.cells #[.int .i64 x.2.u.k, .bool (decide (x.2.u.n.z < 0)), .slice x.2.u.n.o x.2.u.n.l x.2.u.n.c, .bool x.2.u.b, .slice x.2.u.lo x.2.u.ll x.2.u.lc] 41 (0, 0))) ∨
     (c = .exit 0 ∧ x.2.u.k ≠ b ∧ W.heap[kr]? = some (.cells #[.int .i64 0, .bool false, .slice none 0 0, .bool false, .slice none 0 0] 41 (0, 0))))
theorem LkX.own (w w4 : World) (kr : Nat) (nm : ByteArray) (b : Int) (c : Code) (hw : w.heap.size ≤ w4.heap.size) (hkr : kr < w4.heap.size) : OwnFrom w4.heap.size (LkX w w4 kr nm b c) := by
  rintro pre W W' row ⟨pre', x, h1, h2, h3, h4, h6, h5⟩ hg hr
  have hkb : W'.heap[kr]? = W.heap[kr]? := hg.block kr (by omega) (fun e => by have := (hr kr e.symm).1; omega)
  refine ⟨pre', x, h1, h2, h3, ⟨hg.os.trans h4.os, hg.tape.trans h4.tape, hg.output.trans h4.output, Nat.le_trans h4.size hg.size, fun k hk => (hg.block k (by have := h4.size; omega) (fun e => by have := (hr k e.symm).1; omega)).trans (h4.block k hk)⟩, Nat.le_trans h6 hg.size, ?_⟩
  rw [hkb]; exact h5
theorem put_belowL {n₀ : Nat} {W : World} {l : Nat} {o o' : Obj} (hn : n₀ ≤ l) (h : W.heap[l]? = some o) : Below n₀ W (W.putObj l o') :=
  (Below.refl n₀ W).grown (grownBy_putObj' W l o') (by have := lt_of_block h; omega) (fun k e => by cases e; exact hn)
theorem ext_below {w W W' : World} {g : Nat} (h : Below w.heap.size w W) (hg : W.grownBy W' (some g)) (hk : w.heap.size ≤ g) : Below w.heap.size w W' :=
  ⟨hg.os.trans h.os, hg.tape.trans h.tape, hg.output.trans h.output, Nat.le_trans h.size hg.size, fun k hk2 => (hg.block k (by have := h.size; omega) (fun e => by injection e with e; omega)).trans (h.block k hk2)⟩
set_option maxHeartbeats 8000000 in
theorem lookup_p (ve : Value) (env : List (ByteArray × V)) (nm : ByteArray) (b : Int) (w : World) (h : EL w ve env) :
    Calls Try.prog 79 #[ve, .string nm, .int .i64 b] w fun e w' => ∃ v, e = .returned v ∧ VC w' v (lkV (rho env nm) b) ∧ Below w.heap.size w w' := by
  obtain ⟨us, hu, rfl⟩ := h
  have hu0 := hu
  obtain ⟨ko, kc, rfl, -, -, -⟩ := bAt_cells hu0
  obtain ⟨N, hN⟩ : ∃ N, N = us.length := ⟨_, rfl⟩
  rw [← hN]
  rw [← hN] at hu
  have HN := Lib.hid hN
  have HU := Lib.hid hu
  have HU0 := Lib.hid hu
  clear hN hu hu0
  have HW := Lib.hid (Below.refl w.heap.size w)
  obtain ⟨x1, kn, en, ekn, hbn, hkn, HBn⟩ := newV w #[.string nm] 9
  replace HU := Lib.hid (El.At.below HU.out hbn.out)
  replace HW := Lib.hid (HW.out.trans (hbn.out.mono HW.out.size))
  have hkn : Hid (w.heap.size ≤ kn) := Lib.hid (by rw [← ekn]; exact Nat.le_refl _)
  obtain ⟨x2, kb, eb, ekb, hbb, hkb, HBb⟩ := newV x1 #[.int .i64 b] 32
  replace HBn := kBV hbb.out HBn
  replace HU := Lib.hid (El.At.below HU.out hbb.out)
  replace HW := Lib.hid (HW.out.trans (hbb.out.mono HW.out.size))
  obtain ⟨x3, kr, er, ekr, hbr, hkr, HBr⟩ := newV x2 #[.int .i64 0, .bool false, .slice none 0 0, .bool false, .slice none 0 0] 41
  replace HBn := kBV hbr.out HBn
  replace HBb := kBV hbr.out HBb
  replace HU := Lib.hid (El.At.below HU.out hbr.out)
  replace HW := Lib.hid (HW.out.trans (hbr.out.mono HW.out.size))
  have HRK : Hid (w.heap.size ≤ kr) := Lib.hid (by rw [← ekr]; exact Nat.le_trans (hbn.out.size) (hbb.out.size))
  obtain ⟨x4, kt, et, ekt, hbt, hkt, HBt⟩ := newV x3 #[.slice ko N kc] 74
  replace HBn := kBV hbt.out HBn
  replace HBb := kBV hbt.out HBb
  replace HBr := kBV hbt.out HBr
  replace HU := Lib.hid (El.At.below HU.out hbt.out)
  replace HW := Lib.hid (HW.out.trans (hbt.out.mono HW.out.size))
  have HSZ : Hid (kr < x4.heap.size ∧ kn < x4.heap.size ∧ kb < x4.heap.size) := Lib.hid ⟨lt_of_block HBr.out, lt_of_block HBn.out, lt_of_block HBb.out⟩
  refine callsIn_wide.1 (callsIn_of_wp_marks (F := Fence.wide) (n := 9) Try.func79 rfl trivial ?_ rfl)
  simp only [Try.ntmps79, List.size_toArray, List.length_cons, List.length_nil, Nat.reduceAdd, Nat.reduceSub, Array.replicate_succ, Array.replicate_zero, List.push_toArray, List.append_toArray, List.nil_append, List.cons_append]
  refine wpIn_wide.2 ?_
  go_wp2_with (first | (refine (back_p ko N kc _).mono ?_; rintro e w' ⟨rfl, rfl⟩; rw [et, ekt]) | fail)
  refine (wpIn_wide (n := 9)).1 ?_
  refine wpIn_rangeFunc_ownH rfl (by decide) (gf := 92) (lb := #[.pointer (some ⟨kt, 0, none⟩)]) rfl trivial (enters_of Try.func92 (by kernel_rfl) rfl) (back_stops Fence.wide rfl (fun _ => trivial) rfl 8 kt _ us x4 HBt.out HU.out) (fun h k => h.trans k) (fun W l o o' hl h hc _ => put_belowL hl h) (Below.refl _ _) (fun _ => rfl)
    (LkI x4 nm) (LkX w x4 kr nm b) (LkI.own _ _) (fun c => LkX.own _ _ _ _ _ _ HW.out.size HSZ.out.1) ⟨Below.refl _ _, fun x h => by cases h⟩
    (fun y a' W => ∃ kp, W.heap[kp]? = some (.cells #[.string y.2.nm, .int .i64 y.2.u.k, .bool (decide (y.2.u.n.z < 0)), .slice y.2.u.n.o y.2.u.n.l y.2.u.n.c, .bool y.2.u.b, .slice y.2.u.lo y.2.u.ll y.2.u.lc] 61 (0, 0)) ∧ a' = ⟨#[.slice ko N kc, .string nm, .int .i64 b, undef, .pointer (some ⟨kn, 0, none⟩), .pointer (some ⟨kb, 0, none⟩), .pointer (some ⟨kr, 0, none⟩), undef, .pointer (some ⟨kp, 0, none⟩), .slice ko N kc, .func (.func 92) #[] #[.pointer (some ⟨kt, 0, none⟩)], .int .i64 (y.1 : Nat), bV y.2, undef, undef, undef, undef, undef, undef, undef, undef, undef, undef, undef, undef], []⟩) ?hax ?assign ?body ?done ?stop
  case hax =>
    rintro y a' _ W W' row ⟨kp, h1, h2⟩ hg hr
    exact ⟨kp, (hg.block kp (lt_of_block h1) (fun e => by obtain ⟨-, o, ho, hc⟩ := hr kp e.symm; rw [h1] at ho; injection ho with ho; subst ho; cases hc)).trans h1, h2⟩
  case assign =>
    rintro l pre y W K hI hK
    have HK0 := Lib.hid hK
    have HI0 := Lib.hid hI
    clear hK hI
    rw [show yI y = #[.int .i64 (y.1 : Nat), bV y.2] from rfl, zip_two]
    simp only [bV, List.setIfInBounds_toArray, List.set_cons_succ, List.set_cons_zero]
    gi_wp2_with fail
    refine HK0.out _ _ ((KeepsOthers.alloc _ _).from _) (((Below.refl _ _).alloc (Nat.le_refl _) _).mono HI0.out.1.size) ((LkI.own _ _).alloc _ HI0.out) ⟨W.heap.size, made_at W _ _ rfl, ?_⟩
    rfl
  case body =>
    rintro l pre y a' W hl - ⟨hI, hpre⟩ ⟨kp, hB, rfl⟩ hlen
    obtain ⟨i, y⟩ := y
    simp only [bV]
    simp only at hB
    have HI := Lib.hid hI
    have HPRE := Lib.hid hpre
    have HBp := Lib.hid hB
    have HBn2 := kBV hI HBn
    have HBb2 := kBV hI HBb
    have HBr2 := kBV hI HBr
    clear hI hpre hB hlen
    have c0 := cell_at (v := .string y.nm) HBp.out 0 rfl
    have fc0 := froz_at HBp.out 0
    have c1 := cell_at (v := .int .i64 y.u.k) HBp.out 1 rfl
    have fc1 := froz_at HBp.out 1
    have c2 := cell_at (v := .bool (decide (y.u.n.z < 0))) HBp.out 2 rfl
    have fc2 := froz_at HBp.out 2
    have c3 := cell_at (v := .slice y.u.n.o y.u.n.l y.u.n.c) HBp.out 3 rfl
    have fc3 := froz_at HBp.out 3
    have c4 := cell_at (v := .bool y.u.b) HBp.out 4 rfl
    have fc4 := froz_at HBp.out 4
    have c5 := cell_at (v := .slice y.u.lo y.u.ll y.u.lc) HBp.out 5 rfl
    have fc5 := froz_at HBp.out 5
    have d0 := cell_at (v := .string nm) HBn2.out 0 rfl
    have e0 := cell_at (v := .int .i64 b) HBb2.out 0 rfl
    by_cases hnm : y.nm = nm
    · have hne : (y.nm.toList == nm.toList) = true := bs_yes hnm
      have HNM := Lib.hid hnm
      clear hnm
      by_cases hkb : y.u.k = b
      · have hkk : (y.u.k == b) = true := by rw [hkb]; exact beq_self_eq_true _
        have HKB := Lib.hid hkb
        clear hkb
        have f0 := froz_at HBr2.out 0
        have r0 := cell_at (v := .int .i64 0) HBr2.out 0 rfl
        have f1 := froz_at HBr2.out 1
        have r1 := cell_at (v := .bool false) HBr2.out 1 rfl
        have f2 := froz_at HBr2.out 2
        have r2 := cell_at (v := .slice none 0 0) HBr2.out 2 rfl
        have f3 := froz_at HBr2.out 3
        have r3 := cell_at (v := .bool false) HBr2.out 3 rfl
        have f4 := froz_at HBr2.out 4
        have r4 := cell_at (v := .slice none 0 0) HBr2.out 4 rfl
        gi_wp2_with fail
        refine ⟨KeepsFrom.of_grownBy (row := some kr) (grown5V _ _ _ _ _) (fun j e => by injection e with e; have := HSZ.out.1; omega), pre, (i, y), rfl, HPRE.out, HNM.out, ext_below (HW.out.trans (HI.out.mono HW.out.size)) (grown5V _ _ _ _ _) HRK.out, Nat.le_trans HI.out.size (grown5V (k := kr) _ _ _ _ _).size, .inl ⟨rfl, HKB.out, set5_same HBr2.out _ _ _ _ _⟩⟩
      · have hkk : (y.u.k == b) = false := by rw [beq_eq_false_iff_ne]; exact hkb
        have HKB := Lib.hid hkb
        clear hkb
        gi_wp2_with fail
        exact ⟨KeepsFrom.refl _ _, pre, (i, y), rfl, HPRE.out, HNM.out, HW.out.trans (HI.out.mono HW.out.size), HI.out.size, .inr ⟨rfl, HKB.out, HBr2.out⟩⟩
    · have hne : (y.nm.toList == nm.toList) = false := bs_no hnm
      have HNM := Lib.hid hnm
      clear hnm
      gi_wp2_with fail
      refine ⟨KeepsFrom.refl _ _, Below.refl _ _, HI.out, fun x hx => ?_⟩
      rcases List.mem_append.1 hx with hx | hx
      · exact HPRE.out x hx
      · rw [List.mem_singleton] at hx; subst hx; exact HNM.out
  case done =>
    rintro D xs W hD hS ⟨hI, hx⟩ hDW
    have hno : rho (envOf us) nm = .I 0 := rho_none (fun p hp => by
      obtain ⟨q, hq, rfl⟩ := List.mem_map.1 hp
      have : q ∈ us.reverse := by simpa using hq
      rw [← hS] at this
      obtain ⟨x, hx1, rfl⟩ := List.mem_map.1 this
      exact hx x hx1)
    have HNO := Lib.hid hno
    have HI := Lib.hid hI
    have HDW := Lib.hid hDW
    have HD := Lib.hid hD
    have HBr2 := kBV hI HBr
    clear hno hI hDW hD hx hS
    have f0 := froz_at HBr2.out 0
    have r0 := cell_at (v := .int .i64 0) HBr2.out 0 rfl
    have f1 := froz_at HBr2.out 1
    have r1 := cell_at (v := .bool false) HBr2.out 1 rfl
    have f2 := froz_at HBr2.out 2
    have r2 := cell_at (v := .slice none 0 0) HBr2.out 2 rfl
    have f3 := froz_at HBr2.out 3
    have r3 := cell_at (v := .bool false) HBr2.out 3 rfl
    have f4 := froz_at HBr2.out 4
    have r4 := cell_at (v := .slice none 0 0) HBr2.out 4 rfl
    go_wp2_with fail
    have hg : W.grownBy (((((W.setCell ⟨kr, 0, none⟩ (.int .i64 0)).setCell ⟨kr, 1, none⟩ (.bool false)).setCell ⟨kr, 2, none⟩ (.slice none 0 0)).setCell ⟨kr, 3, none⟩ (.bool false)).setCell ⟨kr, 4, none⟩ (.slice none 0 0)) (some kr) := grown5V _ _ _ _ _
    have hs := set5_same HBr2.out (.int .i64 0) (.bool false) (.slice none 0 0) (.bool false) (.slice none 0 0)
    obtain ⟨W5, hW5⟩ : ∃ q, q = ((((W.setCell ⟨kr, 0, none⟩ (.int .i64 0)).setCell ⟨kr, 1, none⟩ (.bool false)).setCell ⟨kr, 2, none⟩ (.slice none 0 0)).setCell ⟨kr, 3, none⟩ (.bool false)).setCell ⟨kr, 4, none⟩ (.slice none 0 0) := ⟨_, rfl⟩
    rw [← hW5] at hg hs ⊢
    have hD5 := (hg.block D (lt_of_block HDW.out) (fun e => by injection e with e; have := HSZ.out.1; have := HD.out; omega)).trans HDW.out
    refine ⟨by simp, .inl ⟨_, _, rfl, run_takeDeferred hD5, ?_⟩⟩
    have hp : Below w.heap.size w (W5.putObj D (.deferred none)) := (ext_below (HW.out.trans (HI.out.mono HW.out.size)) hg HRK.out).trans (put_belowL (Nat.le_trans HW.out.size HD.out) hD5)
    have hs6 : (W5.putObj D (.deferred none)).heap[kr]? = some (.cells #[.int .i64 0, .bool false, .slice none 0 0, .bool false, .slice none 0 0] 41 (0, 0)) := by
      rw [World.putObj_heap_other (by have := HSZ.out.1; have := HD.out; omega)]; exact hs
    obtain ⟨⟨q0, q1, q2, q3, q4⟩, -⟩ := cells5V hs6
    exact ⟨.agg #[.int .i64 0, .bool false, .slice none 0 0, .bool false, .slice none 0 0], by simp [results, Try.results79, go_sem, q0, q1, q2, q3, q4], _, rfl, by rw [show lkV (rho (envOf us) nm) b = V.I 0 from by unfold lkV; rw [HNO.out]; split <;> rfl]; exact ⟨v0, rfl, rfl, vr0 _⟩, (by first | exact hp | (rw [← ekn]; exact hp))⟩
  case stop =>
    rintro D c pre W hD ⟨m, hm, hmn⟩ ⟨pre', x, rfl, h2, h3, h4, h6, h5⟩ hDW
    obtain ⟨k, hk, hxk, hlk⟩ : ∃ k, ∃ (hk : k < us.length), x.2 = us[k] ∧ ∀ p ∈ us.drop (k + 1), p.nm ≠ nm := by
      rw [List.map_append] at hm
      have hml : m < us.length := by
        have := congrArg List.length hm
        simp at this; omega
      rw [drop_rev us m hml] at hm
      have hsplit := List.append_inj' hm rfl
      refine ⟨m, hml, by simpa using hsplit.2, fun p hp => ?_⟩
      have hp2 : p ∈ (us.drop (m + 1)).reverse := by simpa using hp
      rw [← hsplit.1] at hp2
      obtain ⟨q, hq1, rfl⟩ := List.mem_map.1 hp2
      exact h2 q hq1
    have hrho : rho (envOf us) nm = x.2.u.x := by
      rw [rho_hit (k := k) (by unfold envOf; simpa using hk) (by unfold envOf; simp only [List.getElem_map]; rw [← hxk]; exact h3) (fun p hp => by
        unfold envOf at hp
        rw [← List.map_drop] at hp
        obtain ⟨q, hq, rfl⟩ := List.mem_map.1 hp
        exact hlk q hq)]
      unfold envOf; simp only [List.getElem_map]; rw [← hxk]
    obtain ⟨_, _, _, _, _, hcs⟩ := bAt_cells HU0.out
    obtain ⟨_, _, _, _, _, _, _, _, hvr⟩ := hcs k hk
    rw [← hxk] at hvr
    have hsrt := hvr.sort
    have HVR := Lib.hid hvr
    have HNO := Lib.hid hrho
    have HI := Lib.hid h4
    have HDW := Lib.hid hDW
    have HD := Lib.hid hD
    have H6 := Lib.hid h6
    clear hvr hrho h4 hDW hD h6 hcs hxk hlk hm hmn h2
    rcases h5 with ⟨rfl, hkb, hbr⟩ | ⟨rfl, hkb, hbr⟩
    · refine (wpIn_wide (n := 9)).2 ?_
      go_wp2_with fail
      have hD5 := HDW.out
      refine ⟨by simp, .inl ⟨_, _, rfl, run_takeDeferred hD5, ?_⟩⟩
      have hp : Below w.heap.size w (W.putObj D (.deferred none)) := HI.out.trans (put_belowL (Nat.le_trans HW.out.size HD.out) hD5)
      have hs6 : (W.putObj D (.deferred none)).heap[kr]? = _ := (World.putObj_heap_other (by have := HSZ.out.1; have := HD.out; omega)).trans hbr
      obtain ⟨⟨q0, q1, q2, q3, q4⟩, -⟩ := cells5V hs6
      refine ⟨vV x.2.u, by simp [results, Try.results79, go_sem, q0, q1, q2, q3, q4, vV], _, rfl, ⟨x.2.u, rfl, ?_, ?_⟩, (by first | exact hp | (rw [← ekn]; exact hp))⟩
      · rw [HNO.out]; unfold lkV; rw [if_pos (by rw [← hsrt]; exact hkb)]
      · exact HVR.out.below hp
    · refine (wpIn_wide (n := 9)).2 ?_
      have HBr2 := Lib.hid hbr
      have hnb : sortOf x.2.u.x ≠ b := by rw [← hsrt]; exact hkb
      have HNB := Lib.hid hnb
      clear hbr hkb hsrt hnb h3
      have f0 := froz_at HBr2.out 0
      have r0 := cell_at (v := .int .i64 0) HBr2.out 0 rfl
      have f1 := froz_at HBr2.out 1
      have r1 := cell_at (v := .bool false) HBr2.out 1 rfl
      have f2 := froz_at HBr2.out 2
      have r2 := cell_at (v := .slice none 0 0) HBr2.out 2 rfl
      have f3 := froz_at HBr2.out 3
      have r3 := cell_at (v := .bool false) HBr2.out 3 rfl
      have f4 := froz_at HBr2.out 4
      have r4 := cell_at (v := .slice none 0 0) HBr2.out 4 rfl
      go_wp2_with fail
      have hg : W.grownBy (((((W.setCell ⟨kr, 0, none⟩ (.int .i64 0)).setCell ⟨kr, 1, none⟩ (.bool false)).setCell ⟨kr, 2, none⟩ (.slice none 0 0)).setCell ⟨kr, 3, none⟩ (.bool false)).setCell ⟨kr, 4, none⟩ (.slice none 0 0)) (some kr) := grown5V _ _ _ _ _
      have hs := set5_same HBr2.out (.int .i64 0) (.bool false) (.slice none 0 0) (.bool false) (.slice none 0 0)
      obtain ⟨W5, hW5⟩ : ∃ q, q = ((((W.setCell ⟨kr, 0, none⟩ (.int .i64 0)).setCell ⟨kr, 1, none⟩ (.bool false)).setCell ⟨kr, 2, none⟩ (.slice none 0 0)).setCell ⟨kr, 3, none⟩ (.bool false)).setCell ⟨kr, 4, none⟩ (.slice none 0 0) := ⟨_, rfl⟩
      rw [← hW5] at hg hs ⊢
      have hD5 := (hg.block D (lt_of_block HDW.out) (fun e => by injection e with e; have := HSZ.out.1; have := HD.out; omega)).trans HDW.out
      refine ⟨by simp, .inl ⟨_, _, rfl, run_takeDeferred hD5, ?_⟩⟩
      have hp : Below w.heap.size w (W5.putObj D (.deferred none)) := (ext_below (HI.out) hg HRK.out).trans (put_belowL (Nat.le_trans HW.out.size HD.out) hD5)
      have hs6 : (W5.putObj D (.deferred none)).heap[kr]? = some (.cells #[.int .i64 0, .bool false, .slice none 0 0, .bool false, .slice none 0 0] 41 (0, 0)) := by
        rw [World.putObj_heap_other (by have := HSZ.out.1; have := HD.out; omega)]; exact hs
      obtain ⟨⟨q0, q1, q2, q3, q4⟩, -⟩ := cells5V hs6
      exact ⟨.agg #[.int .i64 0, .bool false, .slice none 0 0, .bool false, .slice none 0 0], by simp [results, Try.results79, go_sem, q0, q1, q2, q3, q4], _, rfl, by rw [show lkV (rho (envOf us) nm) b = V.I 0 from by unfold lkV; rw [HNO.out, if_neg HNB.out]]; exact ⟨v0, rfl, rfl, vr0 _⟩, (by first | exact hp | (rw [← ekn]; exact hp))⟩
end Go.Proofs.Ytinfbmnimkcdjaa
