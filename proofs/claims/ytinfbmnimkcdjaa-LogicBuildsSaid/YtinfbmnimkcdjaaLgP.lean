/-
  What makes forms: Var, Int, of, Less; the anchor.
-/
import Derived.Test.YtinfbmnimkcdjaaLgN
namespace Go.Proofs.Ytinfbmnimkcdjaa
open Go.RowKit
set_option maxRecDepth 100000
set_option linter.unusedVariables false
set_option linter.unusedSimpArgs false

attribute [local go_sem] fieldV0 fieldV1 fieldV2 fieldV3

def tS : Nat → Prop := fun _ => True
theorem FC.t {w : World} {S : Nat → Prop} {d : Nat} {v : Value} {t : F} (h : FC w S d v t) : FC w tS d v t := h.mono fun _ _ => trivial
theorem FC.lt {w : World} {S : Nat → Prop} {d : Nat} {v : Value} {t : F} (h : FC w S d v t) : FC w (fun b => b < w.heap.size) d v t := by
  obtain ⟨u, h1, h2⟩ := h; exact ⟨u, h1, h2.lt.mono fun _ h => h.2⟩
/-- A form where a block is written that none of it lies in. -/
theorem FC.put {w w' : World} {d k : Nat} {v : Value} {t : F} (h : FC w (fun b => b ≠ k) d v t) (hg : w.grownBy w' (some k)) {e : TypeId} (hf : Fr e w w') : FC w' (fun b => b ≠ k) d v t :=
  h.grown hg (KN.of_fr hf) (fun b hb e => hb (by injection e with e; exact e.symm))
/-- Lists that are blocks. -/
theorem FC.unit5 {w : World} {S : Nat → Prop} {d : Nat} {v0 v1 v2 v3 v4 : Value} {t : F} (h : FC w S d (.agg #[v0, v1, v2, v3, v4]) t) : ∃ u : FU, fC u = [v0, v1, v2, v3, v4] ∧ FT w S d u t := by
  obtain ⟨u, e, h⟩ := h
  refine ⟨u, ?_, h⟩
  unfold fV at e
  injection e with e
  unfold fC
  have := congrArg Array.toList e
  simpa using this.symm
theorem FL.one {w : World} {S : Nat → Prop} {d g : Nat} {v0 v1 v2 v3 v4 : Value} {t : F} (hB : w.heap[g]? = some (.cells #[v0, v1, v2, v3, v4] 29 (0, 0))) (hS : S g) (h : FC w S d (.agg #[v0, v1, v2, v3, v4]) t) : FL w S d (.slice (some ⟨g, 0, none⟩) 1 1) [t] := by
  obtain ⟨u, hu, hT⟩ := h.unit5
  refine ⟨[(u, t)], ⟨_, _, rfl, ⟨Nat.le_refl _, by decide, fun h => by cases h⟩, fun _ a ha => by injection ha with ha; subst ha; exact hS, fun i hi => ?_⟩, rfl⟩
  obtain rfl : i = 0 := by simp at hi; omega
  refine ⟨⟨_, rfl, fun j v hj => ?_⟩, hT⟩
  have hj2 : (fC u)[j]? = some v := hj
  rw [hu] at hj2
  rw [add_litV, add_litV, show 0 + 0 * (fE d).n + j = j by omega, cell_of_row w g _ _ _ _ hB]
  simpa using hj2
theorem FL.two {w : World} {S : Nat → Prop} {d g : Nat} {v0 v1 v2 v3 v4 u0 u1 u2 u3 u4 : Value} {t s : F} (hB : w.heap[g]? = some (.cells #[v0, v1, v2, v3, v4, u0, u1, u2, u3, u4] 29 (0, 0))) (hS : S g) (h : FC w S d (.agg #[v0, v1, v2, v3, v4]) t) (k : FC w S d (.agg #[u0, u1, u2, u3, u4]) s) : FL w S d (.slice (some ⟨g, 0, none⟩) 2 2) [t, s] := by
  obtain ⟨u, hu, hT⟩ := h.unit5
  obtain ⟨x, hx, hX⟩ := k.unit5
  refine ⟨[(u, t), (x, s)], ⟨_, _, rfl, ⟨Nat.le_refl _, by decide, fun h => by cases h⟩, fun _ a ha => by injection ha with ha; subst ha; exact hS, fun i hi => ?_⟩, rfl⟩
  have hi2 : i = 0 ∨ i = 1 := by simp at hi; omega
  rcases hi2 with rfl | rfl
  · refine ⟨⟨_, rfl, fun j v hj => ?_⟩, hT⟩
    have hj2 : (fC u)[j]? = some v := hj
    rw [hu] at hj2
    rw [add_litV, add_litV, show 0 + 0 * (fE d).n + j = j by omega, cell_of_row w g _ _ _ _ hB]
    have hlt : j < 5 := by have := (List.getElem?_eq_some_iff.1 hj2).1; simpa using this
    have : ([v0, v1, v2, v3, v4] ++ [u0, u1, u2, u3, u4])[j]? = some v := by rw [List.getElem?_append_left (by simpa using hlt)]; exact hj2
    simpa using this
  · refine ⟨⟨_, rfl, fun j v hj => ?_⟩, hX⟩
    have hj2 : (fC x)[j]? = some v := hj
    rw [hx] at hj2
    rw [add_litV, add_litV, show 0 + 1 * (fE d).n + j = 5 + j from by show 0 + 1 * 5 + j = 5 + j; omega, cell_of_row w g _ _ _ _ hB]
    have : ([v0, v1, v2, v3, v4] ++ [u0, u1, u2, u3, u4])[5 + j]? = some v := by rw [List.getElem?_append_right (by simp)]; simpa using hj2
    simpa using this
theorem res5F {w0 w : World} {k : Nat} {c : Array Value} (hb : Below w0.heap.size w0 w) (hB : w.heap[k]? = some (.cells c 29 (0, 0))) (h32 : N32 c.toList) (hk : w0.heap.size ≤ k) (v0 v1 v2 v3 v4 : Value) :
    Fr 29 w (((((w.setCell ⟨k, 0, none⟩ v0).setCell ⟨k, 1, none⟩ v1).setCell ⟨k, 2, none⟩ v2).setCell ⟨k, 3, none⟩ v3).setCell ⟨k, 4, none⟩ v4) ∧ Below w0.heap.size w0 (((((w.setCell ⟨k, 0, none⟩ v0).setCell ⟨k, 1, none⟩ v1).setCell ⟨k, 2, none⟩ v2).setCell ⟨k, 3, none⟩ v3).setCell ⟨k, 4, none⟩ v4) :=
  ⟨.of_grown (grown5V v0 v1 v2 v3 v4) (fun g hg => by injection hg with hg; subst hg; exact ⟨_, hB, h32⟩), hb.trans ((grown_belowV (grown5V v0 v1 v2 v3 v4) (Nat.le_of_lt (by have := lt_of_block hB; omega)) hk).mono (Nat.le_refl _))⟩
def opVar (b : Int) : Int := if b = 1 then 14 else if b = 2 then 8 else 1
set_option maxHeartbeats 1000000 in
theorem var_p (nm : ByteArray) (b : Int) (w : World) :
    Calls Try.prog 21 #[.string nm, .int .i64 b] w fun e w' => e = .returned (.agg #[.int .i64 (opVar b), .bool false, .slice none 0 0, .string nm, .slice none 0 0]) ∧ Below w.heap.size w w' := by
  have hb : b = 1 ∨ b = 2 ∨ (b ≠ 1 ∧ b ≠ 2) := by omega
  rcases hb with rfl | rfl | ⟨h1, h2⟩
  · have HW := Lib.hid (Below.refl w.heap.size w)
    go_enter Try.func21, Try.ntmps21
    obtain ⟨x1, kr, er, ekr, hbr, hkr, HBr⟩ := newV w #[.int .i64 0, .bool false, .slice none 0 0, .string ⟨#[]⟩, .slice none 0 0] 29
    replace HW := Lib.hid (HW.out.trans (hbr.out.mono HW.out.size))
    have HKr : Hid (w.heap.size ≤ kr) := hkr
    obtain ⟨⟨r0, r1, r2, r3, r4⟩, fr0, fr1, fr2, fr3, fr4⟩ := cells5V HBr.out
    go_wp2_with fail
    obtain ⟨s1, s2⟩ := res5F HW.out HBr.out n32_F HKr.out (.int .i64 14) (.bool false) (.slice none 0 0) (.string nm) (.slice none 0 0)
    (try simp only [Exit.inBlock, Exit.then])
    exact bodyPost_ret (v := .agg #[.int .i64 14, .bool false, .slice none 0 0, .string nm, .slice none 0 0]) (by simp [results, Try.results21, go_sem, r0, r1, r2, r3, r4]) rfl ⟨rfl, s2⟩
  · have HW := Lib.hid (Below.refl w.heap.size w)
    go_enter Try.func21, Try.ntmps21
    obtain ⟨x1, kr, er, ekr, hbr, hkr, HBr⟩ := newV w #[.int .i64 0, .bool false, .slice none 0 0, .string ⟨#[]⟩, .slice none 0 0] 29
    replace HW := Lib.hid (HW.out.trans (hbr.out.mono HW.out.size))
    have HKr : Hid (w.heap.size ≤ kr) := hkr
    obtain ⟨⟨r0, r1, r2, r3, r4⟩, fr0, fr1, fr2, fr3, fr4⟩ := cells5V HBr.out
    go_wp2_with fail
    obtain ⟨s1, s2⟩ := res5F HW.out HBr.out n32_F HKr.out (.int .i64 8) (.bool false) (.slice none 0 0) (.string nm) (.slice none 0 0)
    (try simp only [Exit.inBlock, Exit.then])
    exact bodyPost_ret (v := .agg #[.int .i64 8, .bool false, .slice none 0 0, .string nm, .slice none 0 0]) (by simp [results, Try.results21, go_sem, r0, r1, r2, r3, r4]) rfl ⟨rfl, s2⟩
  · have HW := Lib.hid (Below.refl w.heap.size w)
    have n1 : (b == 1) = false := beq_eq_false_iff_ne.2 h1
    have n2 : (b == 2) = false := beq_eq_false_iff_ne.2 h2
    have ho : opVar b = 1 := by unfold opVar; rw [if_neg h1, if_neg h2]
    rw [ho]
    clear h1 h2 ho
    go_enter Try.func21, Try.ntmps21
    obtain ⟨x1, kr, er, ekr, hbr, hkr, HBr⟩ := newV w #[.int .i64 0, .bool false, .slice none 0 0, .string ⟨#[]⟩, .slice none 0 0] 29
    replace HW := Lib.hid (HW.out.trans (hbr.out.mono HW.out.size))
    have HKr : Hid (w.heap.size ≤ kr) := hkr
    obtain ⟨⟨r0, r1, r2, r3, r4⟩, fr0, fr1, fr2, fr3, fr4⟩ := cells5V HBr.out
    go_wp2_with fail
    obtain ⟨s1, s2⟩ := res5F HW.out HBr.out n32_F HKr.out (.int .i64 1) (.bool false) (.slice none 0 0) (.string nm) (.slice none 0 0)
    (try simp only [Exit.inBlock, Exit.then])
    exact bodyPost_ret (v := .agg #[.int .i64 1, .bool false, .slice none 0 0, .string nm, .slice none 0 0]) (by simp [results, Try.results21, go_sem, r0, r1, r2, r3, r4]) rfl ⟨rfl, s2⟩
set_option maxHeartbeats 1000000 in
theorem int_p (n : Int) (w : World) (h1 : -9223372036854775808 ≤ n) (h2 : n ≤ 9223372036854775807) :
    Calls Try.prog 29 #[.int .i64 n] w fun e w' => ∃ b o l c, e = .returned (.agg #[.int .i64 0, .bool b, .slice o l c, .string ⟨#[]⟩, .slice none 0 0]) ∧ CI w' (.agg #[.bool b, .slice o l c]) n 600 ∧ Below w.heap.size w w' := by
  have HW := Lib.hid (Below.refl w.heap.size w)
  go_enter Try.func29, Try.ntmps29
  obtain ⟨x1, kr, er, ekr, hbr, hkr, HBr⟩ := newV w #[.int .i64 0, .bool false, .slice none 0 0, .string ⟨#[]⟩, .slice none 0 0] 29
  replace HW := Lib.hid (HW.out.trans (hbr.out.mono HW.out.size))
  have HKr : Hid (w.heap.size ≤ kr) := hkr
  go_wp2_with fail
  refine (wof_any n x1 h1 h2).mono ?_
  rintro e x2 ⟨x, rfl, hx, hb⟩
  replace HBr := kBV hb HBr
  replace HW := Lib.hid (HW.out.trans (hb.mono HW.out.size))
  obtain ⟨b1, o1, l1, c1, rfl⟩ := hx.shape
  have HV := Lib.hid (hx.mono (k' := 600) (by decide))
  clear hx
  obtain ⟨⟨r0, r1, r2, r3, r4⟩, fr0, fr1, fr2, fr3, fr4⟩ := cells5V HBr.out
  go_wp2_with fail
  obtain ⟨s1, s2⟩ := res5F HW.out HBr.out n32_F HKr.out (.int .i64 0) (.bool b1) (.slice o1 l1 c1) (.string ⟨#[]⟩) (.slice none 0 0)
  (try simp only [Exit.inBlock, Exit.then])
  exact bodyPost_ret (v := .agg #[.int .i64 0, .bool b1, .slice o1 l1 c1, .string ⟨#[]⟩, .slice none 0 0]) (by simp [results, Try.results29, go_sem, r0, r1, r2, r3, r4]) rfl ⟨_, _, _, _, rfl, HV.out.fr s1, s2⟩
set_option maxHeartbeats 1000000 in
theorem of_p (o : Int) (ko : Option Addr) (kl kc : Nat) (w : World) :
    Calls Try.prog 47 #[.int .i64 o, .slice ko kl kc] w fun e w' => e = .returned (.agg #[.int .i64 o, .bool false, .slice none 0 0, .string ⟨#[]⟩, .slice ko kl kc]) ∧ Below w.heap.size w w' := by
  have HW := Lib.hid (Below.refl w.heap.size w)
  go_enter Try.func47, Try.ntmps47
  obtain ⟨x1, kr, er, ekr, hbr, hkr, HBr⟩ := newV w #[.int .i64 0, .bool false, .slice none 0 0, .string ⟨#[]⟩, .slice none 0 0] 29
  replace HW := Lib.hid (HW.out.trans (hbr.out.mono HW.out.size))
  have HKr : Hid (w.heap.size ≤ kr) := hkr
  obtain ⟨⟨r0, r1, r2, r3, r4⟩, fr0, fr1, fr2, fr3, fr4⟩ := cells5V HBr.out
  go_wp2_with fail
  obtain ⟨s1, s2⟩ := res5F HW.out HBr.out n32_F HKr.out (.int .i64 o) (.bool false) (.slice none 0 0) (.string ⟨#[]⟩) (.slice ko kl kc)
  (try simp only [Exit.inBlock, Exit.then])
  exact bodyPost_ret (v := .agg #[.int .i64 o, .bool false, .slice none 0 0, .string ⟨#[]⟩, .slice ko kl kc]) (by simp [results, Try.results47, go_sem, r0, r1, r2, r3, r4]) rfl ⟨rfl, s2⟩
end Go.Proofs.Ytinfbmnimkcdjaa
