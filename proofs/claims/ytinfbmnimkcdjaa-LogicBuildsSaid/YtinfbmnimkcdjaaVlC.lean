/-
  Contracts of package value: copies, the three makers, sameness.
-/
import Derived.Test.YtinfbmnimkcdjaaVlB
import Derived.BigQuiet
namespace Go.Proofs.Ytinfbmnimkcdjaa
open Go.RowKit
set_option maxRecDepth 100000
set_option linter.unusedVariables false
set_option linter.unusedSimpArgs false

theorem grown2V {w : World} {k : Nat} (v0 v1 : Value) : w.grownBy ((w.setCell ⟨k, 0, none⟩ v0).setCell ⟨k, 1, none⟩ v1) (some k) := by
  refine grown_setCell ?_ _
  refine grown_setCell ?_ _
  exact World.grownBy.refl _ _
theorem grown5V {w : World} {k : Nat} (v0 v1 v2 v3 v4 : Value) : w.grownBy (((((w.setCell ⟨k, 0, none⟩ v0).setCell ⟨k, 1, none⟩ v1).setCell ⟨k, 2, none⟩ v2).setCell ⟨k, 3, none⟩ v3).setCell ⟨k, 4, none⟩ v4) (some k) := by
  refine grown_setCell ?_ _
  refine grown_setCell ?_ _
  refine grown_setCell ?_ _
  refine grown_setCell ?_ _
  refine grown_setCell ?_ _
  exact World.grownBy.refl _ _
theorem grown_belowV {w w' : World} {B g : Nat} (h : w.grownBy w' (some g)) (hB : B ≤ w.heap.size) (hg : B ≤ g) : Below B w w' :=
  ⟨h.os, h.tape, h.output, h.size, fun k hk => h.block k (by omega) (fun e => by injection e with e; omega)⟩
/-- A result's variable written: what it leaves. -/
theorem res5V {w0 w : World} {k : Nat} {c : Array Value} (hb : Below w0.heap.size w0 w) (hB : w.heap[k]? = some (.cells c 41 (0, 0))) (h32 : N32 c.toList) (hk : w0.heap.size ≤ k) (v0 v1 v2 v3 v4 : Value) :
    Fr 41 w (((((w.setCell ⟨k, 0, none⟩ v0).setCell ⟨k, 1, none⟩ v1).setCell ⟨k, 2, none⟩ v2).setCell ⟨k, 3, none⟩ v3).setCell ⟨k, 4, none⟩ v4) ∧ Below w0.heap.size w0 (((((w.setCell ⟨k, 0, none⟩ v0).setCell ⟨k, 1, none⟩ v1).setCell ⟨k, 2, none⟩ v2).setCell ⟨k, 3, none⟩ v3).setCell ⟨k, 4, none⟩ v4) :=
  ⟨.of_grown (grown5V v0 v1 v2 v3 v4) (fun g hg => by injection hg with hg; subst hg; exact ⟨_, hB, h32⟩), hb.trans ((grown_belowV (grown5V v0 v1 v2 v3 v4) (Nat.le_of_lt (by have := lt_of_block hB; omega)) hk).mono (Nat.le_refl _))⟩
theorem res2V {w0 w : World} {k : Nat} {c : Array Value} (hb : Below w0.heap.size w0 w) (hB : w.heap[k]? = some (.cells c 26 (0, 0))) (h32 : N32 c.toList) (hk : w0.heap.size ≤ k) (v0 v1 : Value) :
    Fr 26 w ((w.setCell ⟨k, 0, none⟩ v0).setCell ⟨k, 1, none⟩ v1) ∧ Below w0.heap.size w0 ((w.setCell ⟨k, 0, none⟩ v0).setCell ⟨k, 1, none⟩ v1) :=
  ⟨.of_grown (grown2V v0 v1) (fun g hg => by injection hg with hg; subst hg; exact ⟨_, hB, h32⟩), hb.trans ((grown_belowV (grown2V v0 v1) (Nat.le_of_lt (by have := lt_of_block hB; omega)) hk).mono (Nat.le_refl _))⟩
theorem n32_2 {b : Bool} {o : Option Addr} {l c : Nat} : N32 (#[Value.bool b, .slice o l c] : Array Value).toList := by
  intro u hu z; simp only [List.mem_cons, List.not_mem_nil, or_false] at hu; rcases hu with rfl | rfl <;> (intro h; cases h)
theorem n32_5 {k : Int} {b d : Bool} {o p : Option Addr} {l c m q : Nat} : N32 (#[Value.int .i64 k, .bool b, .slice o l c, .bool d, .slice p m q] : Array Value).toList := by
  intro u hu z; simp only [List.mem_cons, List.not_mem_nil, or_false] at hu; rcases hu with rfl | rfl | rfl | rfl | rfl <;> (intro h; cases h)
/-- A new block under a name. -/
theorem newV (w : World) (c : Array Value) (T : TypeId) : ∃ w1 k, w.alloc (.cells c T) = w1 ∧ w.heap.size = k ∧ Hid (Below w.heap.size w w1) ∧ Hid (w.heap.size ≤ k) ∧ Hid (w1.heap[k]? = some (.cells c T (0, 0))) :=
  ⟨_, _, rfl, rfl, Lib.hid ((Below.refl _ _).alloc (Nat.le_refl _) _), Lib.hid (Nat.le_refl _), Lib.hid (heap_alloc_new w _)⟩
theorem kBV {w w' : World} {k : Nat} {o : Obj} (hb : Below w.heap.size w w') (h : Hid (w.heap[k]? = some o)) : Hid (w'.heap[k]? = some o) := Lib.hid ((hb.block _ (lt_of_block h.out)).trans h.out)
theorem cells2V {w : World} {g : Nat} {T : TypeId} {a b : Value} (h : w.heap[g]? = some (.cells #[a, b] T (0, 0))) :
    w.cell? ⟨g, 0, none⟩ = some a ∧ w.cell? ⟨g, 1, none⟩ = some b ∧ w.frozen? ⟨g, 0, none⟩ = false ∧ w.frozen? ⟨g, 1, none⟩ = false :=
  ⟨cell_at h 0 rfl, cell_at h 1 rfl, froz_at h 0, froz_at h 1⟩
theorem cells5V {w : World} {g : Nat} {T : TypeId} {a b c d e : Value} (h : w.heap[g]? = some (.cells #[a, b, c, d, e] T (0, 0))) :
    (w.cell? ⟨g, 0, none⟩ = some a ∧ w.cell? ⟨g, 1, none⟩ = some b ∧ w.cell? ⟨g, 2, none⟩ = some c ∧ w.cell? ⟨g, 3, none⟩ = some d ∧ w.cell? ⟨g, 4, none⟩ = some e) ∧
    w.frozen? ⟨g, 0, none⟩ = false ∧ w.frozen? ⟨g, 1, none⟩ = false ∧ w.frozen? ⟨g, 2, none⟩ = false ∧ w.frozen? ⟨g, 3, none⟩ = false ∧ w.frozen? ⟨g, 4, none⟩ = false :=
  ⟨⟨cell_at h 0 rfl, cell_at h 1 rfl, cell_at h 2 rfl, cell_at h 3 rfl, cell_at h 4 rfl⟩, froz_at h 0, froz_at h 1, froz_at h 2, froz_at h 3, froz_at h 4⟩

set_option maxHeartbeats 1000000 in
theorem copied_p (va : Value) (z : Int) (k : Nat) (w : World) (hx : GI w va z k) (hk : k ≤ 600) :
    Calls Try.prog 55 #[va] w fun e w' => ∃ v, e = .returned v ∧ CI w' v z k ∧ Below w.heap.size w w' := by
  obtain ⟨b, ao, l, c, n, rfl, hg, rfl⟩ := hx.shape
  go_enter Try.func55, Try.ntmps55
  obtain ⟨w1, k1, e1, ek1, hb1, hk1, HB1⟩ := newV w #[.bool b, .slice ao l c] 26
  obtain ⟨w2, k2, e2, ek2, hb2, hk2, HB2⟩ := newV w1 #[.bool false, .slice none 0 0] 26
  replace HB1 := kBV hb2.out HB1
  have hbt := Lib.hid (hb1.out.trans (hb2.out.mono hb1.out.size))
  have hk0 : w.heap.size ≤ k2 := Nat.le_trans hb1.out.size hk2.out
  have HK := Lib.hid hk0
  have hg2 := Lib.hid (hg.below hbt.out)
  clear hk0 hg hx
  obtain ⟨c0, c1, f0, f1⟩ := cells2V HB1.out
  go_wp2_with fail
  refine (big_any b _ n k w2 hg2.out (by omega)).mono ?_
  rintro e w3 ⟨v, rfl, hc, hb3⟩
  obtain ⟨b2, o2, l2, d2, rfl⟩ := hc.shape
  replace HB2 := kBV hb3 HB2
  replace hbt := Lib.hid (hbt.out.trans (hb3.mono hbt.out.size))
  have HC := Lib.hid hc
  clear hc hb3 c0 c1 f0 f1
  obtain ⟨c0, c1, f0, f1⟩ := cells2V HB2.out
  go_wp2_with fail
  obtain ⟨r1, r2⟩ := res2V hbt.out HB2.out n32_2 HK.out (.bool b2) (.slice o2 l2 d2)
  exact bodyPost_ret (v := .agg #[.bool b2, .slice o2 l2 d2]) (by simp [results, Try.results55, go_sem, c0, c1]) rfl ⟨_, rfl, HC.out.fr r1, r2⟩
set_option maxHeartbeats 1000000 in
theorem ofInt_p (va : Value) (z : Int) (k : Nat) (w : World) (hx : GI w va z k) (hk : k ≤ 600) :
    Calls Try.prog 31 #[va] w fun e w' => ∃ v, e = .returned v ∧ VC w' v (.I z) ∧ Below w.heap.size w w' := by
  obtain ⟨b, ao, l, c, n, rfl, hg, rfl⟩ := hx.shape
  go_enter Try.func31, Try.ntmps31
  obtain ⟨w1, k1, e1, ek1, hb1, hk1, HB1⟩ := newV w #[.bool b, .slice ao l c] 26
  obtain ⟨w2, k2, e2, ek2, hb2, hk2, HB2⟩ := newV w1 #[.int .i64 0, .bool false, .slice none 0 0, .bool false, .slice none 0 0] 41
  replace HB1 := kBV hb2.out HB1
  have hbt := Lib.hid (hb1.out.trans (hb2.out.mono hb1.out.size))
  have hk0 : w.heap.size ≤ k2 := Nat.le_trans hb1.out.size hk2.out
  have HK := Lib.hid hk0
  have hx2 := Lib.hid (hx.below hbt.out)
  clear hk0 hg hx
  obtain ⟨c0, c1, f0, f1⟩ := cells2V HB1.out
  go_wp2_with fail
  refine (copied_p _ _ k w2 hx2.out hk).mono ?_
  rintro e w3 ⟨v, rfl, hc, hb3⟩
  obtain ⟨o2, l2, d2, rfl, hv⟩ := VC.mkI hc hk
  replace HB2 := kBV hb3 HB2
  replace hbt := Lib.hid (hbt.out.trans (hb3.mono hbt.out.size))
  have HC := Lib.hid hv
  clear hc hb3 hv c0 c1 f0 f1
  obtain ⟨⟨c0, c1, c2, c3, c4⟩, f0, f1, f2, f3, f4⟩ := cells5V HB2.out
  go_wp2_with fail
  obtain ⟨r1, r2⟩ := res5V hbt.out HB2.out n32_5 HK.out (.int .i64 0) (.bool (decide (sg b n < 0))) (.slice o2 l2 d2) (.bool false) (.slice none 0 0)
  exact bodyPost_ret (v := .agg #[.int .i64 0, .bool (decide (sg b n < 0)), .slice o2 l2 d2, .bool false, .slice none 0 0]) (by simp [results, Try.results31, go_sem, c0, c1, c2, c3, c4]) rfl ⟨_, rfl, HC.out.fr (by decide) r1, r2⟩
set_option maxHeartbeats 1000000 in
theorem ofBool_p (b : Bool) (w : World) :
    Calls Try.prog 43 #[.bool b] w fun e w' => ∃ v, e = .returned v ∧ VC w' v (.B b) ∧ Below w.heap.size w w' := by
  go_enter Try.func43, Try.ntmps43
  obtain ⟨w2, k2, e2, ek2, hb2, hk2, HB2⟩ := newV w #[.int .i64 0, .bool false, .slice none 0 0, .bool false, .slice none 0 0] 41
  obtain ⟨⟨c0, c1, c2, c3, c4⟩, f0, f1, f2, f3, f4⟩ := cells5V HB2.out
  go_wp2_with fail
  obtain ⟨r1, r2⟩ := res5V hb2.out HB2.out n32_5 hk2.out (.int .i64 1) (.bool false) (.slice none 0 0) (.bool b) (.slice none 0 0)
  exact bodyPost_ret (v := .agg #[.int .i64 1, .bool false, .slice none 0 0, .bool b, .slice none 0 0]) (by simp [results, Try.results43, go_sem, c0, c1, c2, c3, c4]) rfl ⟨_, rfl, VC.mkB _ _, r2⟩
set_option maxHeartbeats 1000000 in
theorem sameInt_p (va vb : Value) (y z : Int) (k1 k2 : Nat) (w : World) (hx : GI w va y k1) (hy : GI w vb z k2) (h1 : k1 ≤ 1000) (h2 : k2 ≤ 1000) :
    Calls Try.prog 39 #[va, vb] w fun e w' => e = .returned (.bool (decide (y = z))) ∧ Below w.heap.size w w' := by
  obtain ⟨b, ao, l, c, n, rfl, hg, rfl⟩ := hx.shape
  obtain ⟨d, bo, m, q, p, rfl, hg', rfl⟩ := hy.shape
  go_enter Try.func39, Try.ntmps39
  obtain ⟨w1, k1, e1, ek1, hb1, hk1, HB1⟩ := newV w #[.bool b, .slice ao l c] 26
  obtain ⟨w2, k2, e2, ek2, hb2, hk2, HB2⟩ := newV w1 #[.bool d, .slice bo m q] 26
  replace HB1 := kBV hb2.out HB1
  have hbt := Lib.hid (hb1.out.trans (hb2.out.mono hb1.out.size))
  have hx2 := Lib.hid (hx.below hbt.out)
  have hy2 := Lib.hid (hy.below hbt.out)
  clear hg hg' hx hy
  obtain ⟨c0, c1, f0, f1⟩ := cells2V HB1.out
  obtain ⟨d0, d1, g0, g1⟩ := cells2V HB2.out
  go_wp2_with fail
  refine (wcmp_any _ _ _ _ _ _ w2 hx2.out hy2.out (by omega) (by omega)).mono ?_
  rintro e w3 ⟨rfl, hb3⟩
  replace hbt := Lib.hid (hbt.out.trans (hb3.mono hbt.out.size))
  have hs : (sgnZ (sg b n - sg d p) == 0) = decide (sg b n = sg d p) := by
    unfold sgnZ
    by_cases h : sg b n = sg d p
    · rw [if_pos (by omega), decide_eq_true h]; rfl
    · rw [if_neg (by omega), decide_eq_false h]; split <;> rfl
  go_wp2_with fail
  go_ret
  exact ⟨by simp only [decide_eq_true_eq] at hs ⊢; rw [← hs]; rfl, hbt.out⟩
end Go.Proofs.Ytinfbmnimkcdjaa
