/-
  The arguments of a call: the closure that reads one, list, args.
-/
import Derived.Test.YtdpfgfkoboihcaaDoorPsH
import Derived.Deep.AppendLies
import Derived.Deep.MidRow
namespace Go.Proofs.YtdpfgfkoboihcaaDoor
open Go.RowKit
set_option maxRecDepth 100000
set_option linter.unusedVariables false

theorem setCell_comm (w : World) (p q : Addr) (u v : Value) (h : p.block ≠ q.block) : (w.setCell p u).setCell q v = (w.setCell q v).setCell p u := by
  unfold World.setCell
  simp only
  congr 1
  refine Array.ext_getElem? fun i => ?_
  simp only [Array.getElem?_modify]
  by_cases h1 : p.block = i
  · have h2 : ¬ q.block = i := fun e => h (h1.trans e.symm)
    simp [h1, h2]
  · by_cases h2 : q.block = i <;> simp [h1, h2]
theorem setCells_comm (b : Nat) (q : Addr) (u : Value) (h : q.block ≠ b) : ∀ (cs : List Value) (o : Nat) (w : World), (w.setCell q u).setCells b o cs = (w.setCells b o cs).setCell q u
  | [], _, _ => rfl
  | c :: cs, o, w => by
    simp only [World.setCells]
    rw [setCell_comm w q ⟨b, o, none⟩ u c h]
    exact setCells_comm b q u h cs (o + 1) _
theorem setCells_cells {b : Nat} {T : TypeId} : ∀ (cs : List Value) (o : Nat) (w : World) (cur : Array Value), w.heap[b]? = some (.cells cur T (0, 0)) → ∃ cur', (w.setCells b o cs).heap[b]? = some (.cells cur' T (0, 0)) ∧ cur'.size = cur.size ∧ ∀ i, (i < o → cur'[i]? = cur[i]?) ∧ (∀ j, o + cs.length ≤ cur.size → i = o + j → j < cs.length → cur'[i]? = cs[j]?)
  | [], o, w, cur, h => ⟨cur, h, rfl, fun i => ⟨fun _ => rfl, fun j _ _ hj => absurd hj (Nat.not_lt_zero j)⟩⟩
  | c :: cs, o, w, cur, h => by
    have h1 : (w.setCell ⟨b, o, none⟩ c).heap[b]? = some (.cells (cur.setIfInBounds o c) T (0, 0)) := heap_setCell_same w b o _ T c h
    obtain ⟨cur', a1, a2, a3⟩ := setCells_cells cs (o + 1) _ _ h1
    refine ⟨cur', a1, by rw [a2]; simp, fun i => ⟨fun hi => ?_, fun j hl hj hjl => ?_⟩⟩
    · rw [(a3 i).1 (by omega), Array.getElem?_setIfInBounds_ne (by omega)]
    · cases j with
      | zero =>
        have hi : i < o + 1 := by omega
        rw [(a3 i).1 hi]
        have : i = o := by omega
        subst this
        simp at hl
        simp [show i < cur.size by omega]
      | succ j =>
        simp only [List.length_cons] at hl hjl
        have := (a3 i).2 j (by simp; omega) (by omega) (by omega)
        rw [this]; simp
theorem setCells_grown (b : Nat) : ∀ (cs : List Value) (o : Nat) (w : World), w.grownBy (w.setCells b o cs) (some b)
  | [], _, w => World.grownBy.refl _ _
  | c :: cs, o, w => grown_tr (grown_set w b o c) (setCells_grown b cs (o + 1) _)

/-- The list of arguments so far: a variable at ka, whose slice is of the call's own. -/
def AllAt (w : World) (B ka kb : Nat) (us : List U) : Prop := ∃ (ko : Option Addr) (kc : Nat) (ys : List X), w.heap[ka]? = some (.cells #[.slice ko us.length kc] 28 (0, 0)) ∧ w.ownsRow (ka + 1) 30 8 (.slice ko us.length kc) us.length (ys.flatMap xc) ∧ ys.length = us.length ∧
  ∀ i (h1 : i < ys.length) (h2 : i < us.length), Um w (fun b => B ≤ b ∧ b ≠ ka ∧ b ≠ kb ∧ (Value.slice ko us.length kc).ownBlock ≠ some b) ys[i] us[i]
theorem AllAt.lt {w : World} {B ka kb : Nat} {us : List U} (h : AllAt w B ka kb us) : ka < w.heap.size := by obtain ⟨ko, kc, ys, h1, -⟩ := h; exact lt_of_block h1
theorem AllAt.keep {w w' : World} {B ka kb g : Nat} {us : List U} (h : AllAt w B ka kb us) (hg : w.grownBy w' (some g)) (h1 : g < B) (h2 : g < ka) : AllAt w' B ka kb us := by
  obtain ⟨ko, kc, ys, a1, a2, a3, a4⟩ := h
  refine ⟨ko, kc, ys, (hg.block _ (lt_of_block a1) (fun e => by injection e with e; omega)).trans a1, World.ownsRow.kept a2 hg ?_, a3, fun i p q => (a4 i p q).grown hg (fun h => by have := h.1; omega)⟩
  cases hv : (Value.slice ko us.length kc).ownBlock with
  | none => exact .inl rfl
  | some j => exact .inr (fun e => by injection e with e; have := (World.ownsRow.lt a2 j hv).1; omega)
theorem infoExpr1 : (Tryd.prog.info? 30).map (·.size) = some 8 := by kernel_rfl

set_option maxHeartbeats 4000000 in
/-- The end of the closure's region: an element of zeroes is appended, the index is reckoned, the element is stored, the variable is set, in any of three orders. -/
theorem all_tail {ops : Array Oper} {Q : Exit → Act → World → Prop} (a : Act) (w : World) (l : Array Bool) {o5 o6 o7 o8 : Oper}
    (ho5 : ops[5]? = some o5) (ho6 : ops[6]? = some o6) (ho7 : ops[7]? = some o7) (ho8 : ops[8]? = some o8) (q5 : o5.guard = none) (q6 : o6.guard = none) (q7 : o7.guard = none) (q8 : o8.guard = none)
    (r0 : Region.ready .any ops l = [5]) (r1 : Region.ready .any ops (l.setIfInBounds 5 true) = [6, 8]) (r2 : Region.ready .any ops ((l.setIfInBounds 5 true).setIfInBounds 6 true) = [7, 8])
    (r3 : Region.ready .any ops (((l.setIfInBounds 5 true).setIfInBounds 6 true).setIfInBounds 7 true) = [8]) (r4 : Region.ready .any ops ((((l.setIfInBounds 5 true).setIfInBounds 6 true).setIfInBounds 7 true).setIfInBounds 8 true) = [])
    (r5 : Region.ready .any ops (((l.setIfInBounds 5 true).setIfInBounds 6 true).setIfInBounds 8 true) = [7]) (r6 : Region.ready .any ops ((((l.setIfInBounds 5 true).setIfInBounds 6 true).setIfInBounds 8 true).setIfInBounds 7 true) = [])
    (r7 : Region.ready .any ops ((l.setIfInBounds 5 true).setIfInBounds 8 true) = [6]) (r8 : Region.ready .any ops (((l.setIfInBounds 5 true).setIfInBounds 8 true).setIfInBounds 6 true) = [7]) (r9 : Region.ready .any ops ((((l.setIfInBounds 5 true).setIfInBounds 8 true).setIfInBounds 6 true).setIfInBounds 7 true) = [])
    (s x : Operand) (e5 : o5.op = .call { callee := .builtin .append, args := #[s, x], argTypes := #[28, 28] }) (ka n kc : Nat) (ko : Option Addr) (hs : a.eval s = .slice ko n kc) (xs : List Value)
    (hown : w.ownsRow (ka + 1) 30 8 (.slice ko n kc) n xs) (hka : w.heap[ka]? = some (.cells #[.slice ko n kc] 28 (0, 0)))
    (h4 : Nat) (hx : a.eval x = .slice (some ⟨h4, 0, none⟩) 1 1) (hz : w.heap[h4]? = some (.cells #[.int .i64 0, .string ⟨#[]⟩, .string ⟨#[]⟩, .bool false, .slice none 0 0, .slice none 0 0, .int .i64 0, .int .i64 0] 30 (0, 0))) (hn : n ≤ 100000)
    (v6 ix : Operand) (e6 : o6.op = .indexAddr 28 v6 ix) (he6 : ∀ v', (a.put o5.dst v').eval v6 = v') (hi6 : ∀ v', (a.put o5.dst v').eval ix = .int .i64 (n : Nat))
    (p7 y7 : Operand) (e7 : o7.op = .store 30 p7 y7) (d7 : o7.dst = none) (cs : List Value) (hc8 : cs.length = 8) (hc1 : ∀ v ∈ cs, v.oneCell' = true) (he7 : ∀ v' q, ((a.put o5.dst v').put o6.dst q).eval p7 = q) (hy7 : ∀ v' q, ((a.put o5.dst v').put o6.dst q).eval y7 = .agg cs.toArray)
    (p8 v8 : Operand) (e8 : o8.op = .store 28 p8 v8) (d8 : o8.dst = none) (he8 : ∀ v', (a.put o5.dst v').eval p8 = .pointer (some ⟨ka, 0, none⟩)) (hv8 : ∀ v', (a.put o5.dst v').eval v8 = v')
    (he8' : ∀ v' q, ((a.put o5.dst v').put o6.dst q).eval p8 = .pointer (some ⟨ka, 0, none⟩)) (hv8' : ∀ v' q, ((a.put o5.dst v').put o6.dst q).eval v8 = v')
    (hQ : ∀ gq cap w' q, w'.heap[ka]? = some (.cells #[.slice (some ⟨gq, 0, none⟩) (n + 1) cap] 28 (0, 0)) → w'.ownsRow (ka + 1) 30 8 (.slice (some ⟨gq, 0, none⟩) (n + 1) cap) (n + 1) (xs ++ cs) →
      (∀ k, k < w.heap.size → k ≠ ka → (Value.slice ko n kc).ownBlock ≠ some k → w'.heap[k]? = w.heap[k]?) → w'.os = w.os → w'.tape = w.tape → w'.output = w.output → w.heap.size ≤ w'.heap.size →
      ((Value.slice ko n kc).ownBlock = some gq ∨ gq = w.heap.size) → Q .normal ((a.put o5.dst (.slice (some ⟨gq, 0, none⟩) (n + 1) cap)).put o6.dst q) w') : wpAny Tryd.prog .any ops Q 4 l a w := by
  obtain ⟨i, hi, hz0, hz1, hz2⟩ := info_parts infoExpr
  have hkl := lt_of_block hka
  have one : ∀ {fuel k : Nat} {o : Oper} {l : Array Bool} {a : Act} {w : World}, Region.ready .any ops l = [k] → ops[k]? = some o → o.guard = none → o.wp Tryd.prog a w (wpAny Tryd.prog .any ops Q fuel (l.setIfInBounds k true)) Q → wpAny Tryd.prog .any ops Q (fuel + 1) l a w := by
    intro fuel k o l a w hr ho hg h
    refine ⟨fun h0 => (by rw [hr] at h0; cases h0), fun j hj => ?_⟩
    rw [hr, List.mem_singleton] at hj
    subst hj
    unfold wpOp
    rw [ho]
    have hw : ∀ y, Region.wanted o y = true := fun y => by unfold Region.wanted; rw [hg]
    simp only [hw, if_true]
    exact Or.inl h
  have two : ∀ {fuel k k' : Nat} {o o' : Oper} {l : Array Bool} {a : Act} {w : World}, Region.ready .any ops l = [k, k'] → ops[k]? = some o → ops[k']? = some o' → o.guard = none → o'.guard = none → o.wp Tryd.prog a w (wpAny Tryd.prog .any ops Q fuel (l.setIfInBounds k true)) Q → o'.wp Tryd.prog a w (wpAny Tryd.prog .any ops Q fuel (l.setIfInBounds k' true)) Q → wpAny Tryd.prog .any ops Q (fuel + 1) l a w := by
    intro fuel k k' o o' l a w hr ho ho' hg hg' h h'
    have hw : ∀ y, Region.wanted o y = true := fun y => by unfold Region.wanted; rw [hg]
    have hw' : ∀ y, Region.wanted o' y = true := fun y => by unfold Region.wanted; rw [hg']
    refine ⟨fun h0 => (by rw [hr] at h0; cases h0), fun j hj => ?_⟩
    rw [hr] at hj
    rcases List.mem_cons.1 hj with rfl | hj
    · unfold wpOp; rw [ho]; simp only [hw, if_true]; exact Or.inl h
    · rw [List.mem_singleton] at hj; subst hj
      unfold wpOp; rw [ho']; simp only [hw', if_true]; exact Or.inl h'
  refine one r0 ho5 q5 ?_
  refine wp_append_lies w s x 28 e5 (ka + 1) 30 i _ 8 112 Tryd.underlying28 hi hz0 hz1 hz2 rfl (by decide) (.slice ko n kc) n xs hs hown ⟨h4, 0, none⟩ 1 1 [.int .i64 0, .string ⟨#[]⟩, .string ⟨#[]⟩, .bool false, .slice none 0 0, .slice none 0 0, .int .i64 0, .int .i64 0] hx rfl (fun j u hj => World.news_of_block hz j u (by simpa using hj)) (by
    intro u hu
    simp only [List.mem_cons, List.not_mem_nil, or_false] at hu
    rcases hu with rfl | rfl | rfl | rfl | rfl | rfl | rfl | rfl <;> rfl) (by decide) (by unfold maxLen; omega) (by omega) (by omega) w.heap.size rfl ?_
  intro gq cap w1 hown1 hg1 hat hlt
  obtain ⟨cur, hcur, hle, hcm, hcs, htk⟩ : ∃ cur, w1.heap[gq]? = some (.cells cur 30 (0, 0)) ∧ n + 1 ≤ cap ∧ cap ≤ maxLen ∧ cur.size = cap * 8 ∧ cur.toList.take ((n + 1) * 8) = xs ++ [.int .i64 0, .string ⟨#[]⟩, .string ⟨#[]⟩, .bool false, .slice none 0 0, .slice none 0 0, .int .i64 0, .int .i64 0] := by
    rcases hown1.2 with ⟨h, -⟩ | ⟨g', cap', cur, hv, -, h1, h2, h3, h5, h6⟩
    · cases h
    · injection hv with hv1 hv2 hv3
      injection hv1 with hv1; injection hv1 with hv1
      subst hv1 hv3
      exact ⟨cur, h1, h2, h3, h5, h6⟩
  have hxl : xs.length = n * 8 := hown.1
  have hge : ka < gq := by
    rcases hat with h | h
    · have := (World.ownsRow.lt hown gq h).1; omega
    · omega
  have hka1 : w1.heap[ka]? = some (.cells #[.slice ko n kc] 28 (0, 0)) := (hg1.block ka hkl (fun e => by have := (World.ownsRow.lt hown ka e.symm).1; omega)).trans hka
  have hi6' : ∀ v' w2 (K : Act → World → Prop), v' = Value.slice (some ⟨gq, 0, none⟩) (n + 1) cap → K ((a.put o5.dst v').put o6.dst (.pointer (some ⟨gq, n * 8, none⟩))) w2 → o6.wp Tryd.prog (a.put o5.dst v') w2 K Q := by
    intro v' w2 K hv hK
    subst hv
    have hrun : (Instr.indexAt 28 (.slice (some ⟨gq, 0, none⟩) (n + 1) cap) (.int .i64 (n : Nat))).run Tryd.prog w2 = .ok (.pointer (some ⟨gq, n * 8, none⟩)) w2 := by
      have h0 : (0 : Int) ≤ (n : Int) := by omega
      have h1 : (n : Int) < ((n + 1 : Nat) : Int) := by omega
      rw [run_indexAt_slice w2 28 ⟨gq, 0, none⟩ (n + 1) cap .i64 (n : Nat) (by kernel_rfl)]
      go_simp
      exact fun h => absurd h (by omega)
    unfold Oper.wp execOp
    simp only [e6, he6, hi6, Sem.run_bind, hrun, Result.andThen_ok, Sem.run_pure]
    exact hK
  have there : ∀ w2 : World, w2.heap[gq]? = some (.cells cur 30 (0, 0)) → w2.there gq (n * 8) cs.toArray.size := by
    intro w2 h j hj
    have hj8 : j < 8 := by rw [← hc8]; simpa using hj
    have hlt : n * 8 + j < cur.size := by rw [hcs]; omega
    exact ⟨by rw [cell_at h (n * 8 + j) (Array.getElem?_eq_getElem hlt)]; rfl, froz_at h _⟩
  have h7 : ∀ v' q w2 (K : Act → World → Prop), q = Value.pointer (some ⟨gq, n * 8, none⟩) → w2.heap[gq]? = some (.cells cur 30 (0, 0)) → K ((a.put o5.dst v').put o6.dst q) (w2.setCells gq (n * 8) cs) → o7.wp Tryd.prog ((a.put o5.dst v').put o6.dst q) w2 K Q := by
    intro v' q w2 K hq h hK
    refine wp_store_mid 30 p7 y7 e7 gq (n * 8) cs.toArray (by rw [he7, hq]) (hy7 v' q) (there w2 h) (by rw [List.size_toArray, hc8]; exact infoExpr1) (all_oneCell_toArray hc1) ?_
    rw [d7]; exact hK
  have h8 : ∀ act v' w2 (K : Act → World → Prop), act.eval p8 = .pointer (some ⟨ka, 0, none⟩) → act.eval v8 = v' → v' = Value.slice (some ⟨gq, 0, none⟩) (n + 1) cap → w2.heap[ka]? = some (.cells #[.slice ko n kc] 28 (0, 0)) → K act (w2.setCell ⟨ka, 0, none⟩ v') → o8.wp Tryd.prog act w2 K Q := by
    intro act v' w2 K hp hv hv2 h hK
    have c0 := cell_at (v := .slice ko n kc) h 0 rfl
    have f0 := froz_at h 0
    subst hv2
    unfold Oper.wp execOp
    simp only [e8, hp, hv]
    go_simp
    exact hK
  have hfin : ∀ q v', v' = Value.slice (some ⟨gq, 0, none⟩) (n + 1) cap → Q .normal ((a.put o5.dst v').put o6.dst q) ((w1.setCells gq (n * 8) cs).setCell ⟨ka, 0, none⟩ v') := by
    intro q v' hv
    subst hv
    obtain ⟨cur', c1, c2, c3⟩ := setCells_cells cs (n * 8) w1 cur hcur
    have hgr := grown_tr (setCells_grown gq cs (n * 8) w1) (World.grownBy.refl _ _)
    have hk : ∀ k, k ≠ gq → k < w1.heap.size → (w1.setCells gq (n * 8) cs).heap[k]? = w1.heap[k]? := fun k h1 h2 => (setCells_grown gq cs (n * 8) w1).block k h2 (fun e => h1 (by injection e))
    have hka2 := (hk ka (by omega) (lt_of_block hka1)).trans hka1
    have hset : ∀ k, k ≠ ka → ((w1.setCells gq (n * 8) cs).setCell ⟨ka, 0, none⟩ (.slice (some ⟨gq, 0, none⟩) (n + 1) cap)).heap[k]? = (w1.setCells gq (n * 8) cs).heap[k]? := fun k h => set1_other _ _ _ _ h
    refine hQ gq cap _ q ?_ ⟨?_, .inr ⟨gq, cap, cur', rfl, hge, (hset gq (by omega)).trans c1, hle, hcm, by rw [c2, hcs], ?_⟩⟩ (fun k h1 h2 h3 => ?_) ?_ ?_ ?_ ?_ hat
    · rw [heap_setCell_same _ ka 0 _ _ _ hka2]; rfl
    · rw [List.length_append, hxl, hc8]; omega
    · refine List.ext_getElem? fun j => ?_
      by_cases hj : j < n * 8
      · rw [List.getElem?_take_of_lt (by omega), List.getElem?_append_left (by omega), Array.getElem?_toList, (c3 j).1 hj]
        have := congrArg (fun l => l[j]?) htk
        rw [List.getElem?_take_of_lt (by omega), List.getElem?_append_left (by omega), Array.getElem?_toList] at this
        exact this
      · by_cases hj2 : j < (n + 1) * 8
        · rw [List.getElem?_take_of_lt hj2, List.getElem?_append_right (by omega), Array.getElem?_toList, hxl]
          exact (c3 j).2 (j - n * 8) (by rw [hcs, hc8]; omega) (by omega) (by rw [hc8]; omega)
        · rw [List.getElem?_eq_none (by simp; omega), List.getElem?_eq_none (by rw [List.length_append, hxl, hc8]; omega)]
    · rw [hset k h2, hk k (fun e => by rcases hat with h | h; exact h3 (e ▸ h); omega) (Nat.lt_of_lt_of_le h1 hg1.size)]
      exact hg1.block k h1 h3.symm
    · exact (setCells_grown gq cs (n * 8) w1).os.trans hg1.os
    · exact (setCells_grown gq cs (n * 8) w1).tape.trans hg1.tape
    · exact (setCells_grown gq cs (n * 8) w1).output.trans hg1.output
    · simp only [setCell_size]; exact Nat.le_trans hg1.size (setCells_grown gq cs (n * 8) w1).size
  have hcomm : ∀ v', (w1.setCell ⟨ka, 0, none⟩ v').setCells gq (n * 8) cs = (w1.setCells gq (n * 8) cs).setCell ⟨ka, 0, none⟩ v' := fun v' => setCells_comm gq ⟨ka, 0, none⟩ v' (by show ka ≠ gq; omega) cs (n * 8) w1
  have hcur8 : ∀ v', (w1.setCell ⟨ka, 0, none⟩ v').heap[gq]? = some (.cells cur 30 (0, 0)) := fun v' => (set1_other _ _ _ _ (by omega)).trans hcur
  have hka7 : (w1.setCells gq (n * 8) cs).heap[ka]? = some (.cells #[.slice ko n kc] 28 (0, 0)) := ((setCells_grown gq cs (n * 8) w1).block ka (lt_of_block hka1) (fun e => by injection e with e; omega)).trans hka1
  refine two r1 ho6 ho8 q6 q8 ?_ ?_
  · refine hi6' _ _ _ rfl ?_
    refine two r2 ho7 ho8 q7 q8 ?_ ?_
    · refine h7 _ _ _ _ rfl hcur ?_
      refine one r3 ho8 q8 ?_
      exact h8 _ _ _ _ (he8' _ _) (hv8' _ _) rfl hka7 ⟨r4, hfin _ _ rfl⟩
    · refine h8 _ _ _ _ (he8' _ _) (hv8' _ _) rfl hka1 ?_
      refine one r5 ho7 q7 ?_
      refine h7 _ _ _ _ rfl (hcur8 _) ?_
      rw [hcomm]
      exact ⟨r6, hfin _ _ rfl⟩
  · refine h8 _ _ _ _ (he8 _) (hv8 _) rfl hka1 ?_
    refine one r7 ho6 q6 ?_
    refine hi6' _ _ _ rfl ?_
    refine one r8 ho7 q7 ?_
    refine h7 _ _ _ _ rfl (hcur8 _) ?_
    rw [hcomm]
    exact ⟨r9, hfin _ _ rfl⟩

theorem PSA.keepAll {w w' : World} {g : Nat} {s : St} (h : PSA w g s) (hk : ∀ k, k < w.heap.size → (w'.heap[k]? = w.heap[k]?) ∨ (g < k ∧ ∃ c T, w.heap[k]? = some (.cells c T (0, 0)) ∧ T ≠ 50)) (hsz : w.heap.size ≤ w'.heap.size) : PSA w' g s := by
  obtain ⟨b, o, cc, ev, h1, h2, h3, h4, h5, h6, h7, h8⟩ := h
  have e : ∀ q, q ≤ g → q < w.heap.size → w'.heap[q]? = w.heap[q]? := fun q hq hl => by
    rcases hk q hl with h | ⟨h, -⟩
    · exact h
    · omega
  refine ⟨b, o, cc, ev, by rw [e g (Nat.le_refl _) (lt_of_block h1)]; exact h1, h2, h3, h4, h5, Nat.lt_of_lt_of_le h6 hsz, h7.keep (e b (by omega) h6), ?_⟩
  obtain ⟨rest, err⟩ := s
  simp only at h8 ⊢
  match err, h8 with
  | none, h8 => exact h8
  | some (c, l, k'), h8 =>
    obtain ⟨q, q1, q2, q3⟩ := h8
    refine ⟨q, q1, ?_, q3⟩
    unfold AtB at q2 ⊢
    rcases hk q (lt_of_block q2) with h | ⟨-, c', T, h, hT⟩
    · rw [h]; exact q2
    · rw [q2] at h; injection h with h; injection h with _ h; exact absurd h.symm hT
set_option maxHeartbeats 8000000 in
theorem clos_p (n : Nat) (E : Hid (ExprAt7 n)) (g ka kb B : Nat) (s : St) (r : U × St) (us : List U) (we wc : World) (hop : GOps wc g) (hD : we.grownBy wc (some g)) (hgN : g < we.heap.size) (hgB : g < B) (hBN : B ≤ we.heap.size) (hN : we.heap.size ≤ kb) (hab : kb < ka) (hps : PS wc g s) (hall : AllAt wc B ka kb us)
    (hbx : wc.heap[kb]? = some (.cells #[.pointer (some ⟨g, 0, none⟩)] 40 (0, 0))) (hlen : us.length ≤ 100000) (hc : cExpr n s = some r) :
    Calls Tryd.prog 67 #[.pointer (some ⟨ka, 0, none⟩), .pointer (some ⟨kb, 0, none⟩)] wc fun e w' => (∃ v, e = .returned v) ∧ PS w' g r.2 ∧ AllAt w' B ka kb (us ++ [r.1]) ∧ w'.heap[kb]? = some (.cells #[.pointer (some ⟨g, 0, none⟩)] 40 (0, 0)) ∧ we.grownBy w' (some g) := by
  obtain ⟨ko, kc, ys, hka, hown, hyl, hys⟩ := hall
  have HP := Lib.hid hps
  have HOP := Lib.hid hop
  have HC := Lib.hid hc
  have HBa := Lib.hid hka
  have HBb := Lib.hid hbx
  have HOW := Lib.hid hown
  have HYS := Lib.hid hys
  have HD := Lib.hid hD
  clear hps hop hc hka hbx hown hys hD
  go_enter Tryd.func67, Tryd.ntmps67
  have hlt_a := lt_of_block HBa.out
  have hlt_b := lt_of_block HBb.out
  have hog : ∀ q, q < 1 → (fun q => g) q < wc.heap.size := fun q _ => by show g < _; exact HP.out.lt
  refine Rel7.region (by kernel_rfl) [[], [], [1], [0], [], [0, 1, 2, 3, 4], [0, 1, 2, 3, 4, 5], [0, 1, 2, 3, 4, 5, 6], [0, 1, 2, 3, 4, 5]] [] [(2, 1000)] (fun q => g) 1 5 (by kernel_rfl) (by kernel_rfl) (by rfl) hog (fun q q' h h' hn => absurd hn (by omega)) ?_
  refine Rel7.Chain.det ?_ (by rfl) (fun T xs wr hA => ?_) ?_
  rotate_left 1
  · have e0 := hA.pre 0 (by kernel_rfl)
    simp only [List.getElem?_toArray, List.getElem?_cons_zero] at e0
    have hBq : wr.heap[ka]? = _ := (hA.bl _ hlt_a (fun q _ => by show g ≠ ka; omega)).trans HBa.out
    have q0 := cell_at (v := .slice ko us.length kc) hBq 0 rfl
    clear hBq
    clear hA
    refine ⟨(by rfl), ?_⟩
    go_simp <;> (try with_reducible rfl)
  refine Rel7.Chain.det ?_ (by rfl) (fun T xs wr hA => ?_) ?_
  rotate_left 1
  · have e1 := hA.pre 1 (by kernel_rfl)
    simp only [List.getElem?_toArray, List.getElem?_cons_succ, List.getElem?_cons_zero] at e1
    have hBq : wr.heap[kb]? = _ := (hA.bl _ hlt_b (fun q _ => by show g ≠ kb; omega)).trans HBb.out
    have q0 := cell_at (v := .pointer (some ⟨g, 0, none⟩)) hBq 0 rfl
    clear hBq
    clear hA
    refine ⟨(by rfl), ?_⟩
    go_simp <;> (try with_reducible rfl)
  refine Rel7.Chain.callOld 0 (fun xs v w => ∃ x, v = xv x ∧ Um w (fun b => wc.heap.size ≤ b) x r.1 ∧ PS w g r.2) (fun _ _ _ _ ⟨x, h1, h2, h3⟩ hb => ⟨x, h1, h2.below hb, h3.below hb⟩) (fun _ _ _ _ q' _ hq hne _ => absurd rfl hne) (by rfl) (by rfl) (by decide) (Rel7.own_one (by rfl)) (fun T xs wr hA hold => ?_) ?_
  · have hsw := (hA.be 0 (Nat.zero_le _) (fun _ _ => Nat.zero_le _)).size
    have e3 := hA.tm 1 3 (by rfl) (by rfl)
    have f3 : xs 1 = _ := hA.fa 1 (by rfl)
    (try simp (disch := first | rfl | decide) only [Rel7.mask_in] at f3)
    rw [f3] at e3
    clear f3
    have h0 := undrew (hA.be 0 (Nat.zero_le _) (fun _ _ => Nat.zero_le _))
    have hbw : Below wc.heap.size wc wr := ⟨h0.os, h0.tape, h0.output, h0.size, fun k hk => by
      by_cases e : k = g
      · rw [e]; exact hold
      · exact hA.bl k hk (fun q _ h => e h.symm)⟩
    clear hA
    refine ⟨(by rfl), fun K hK => ?_⟩
    go_simp
    refine (E.out g s r wr (HP.out.below hbw) (HOP.out.below hbw) HC.out).mono ?_
    rintro e w' ⟨x, rfl, hu, hp, hg⟩
    exact hK.out _ _ ⟨x, rfl, hu.mono (fun b h => Nat.le_trans hbw.size h), hp⟩ (Rel7.Priv.of hg)
  refine Rel7.Chain.det ?_ (by rfl) (fun T xs wr hA => ?_) ?_
  rotate_left 1
  · have e2 := hA.tm 0 2 (by rfl) (by rfl)
    have f2 : xs 0 = _ := hA.fa 0 (by rfl)
    (try simp (disch := first | rfl | decide) only [Rel7.mask_in] at f2)
    rw [f2] at e2
    clear f2
    clear hA
    refine ⟨(by rfl), ?_⟩
    go_simp <;> (try with_reducible rfl)
  refine Rel7.Chain.call (fun xs v w => ∃ g, v = .slice (some ⟨g, 0, none⟩) 1 1 ∧ wc.heap.size ≤ g ∧ w.heap[g]? = some (.cells #[.int .i64 0, .string ⟨#[]⟩, .string ⟨#[]⟩, .bool false, .slice none 0 0, .slice none 0 0, .int .i64 0, .int .i64 0] 30 (0, 0))) (fun _ _ _ _ ⟨g, hv, hl, hg⟩ hb => ⟨g, hv, hl, by rw [hb.block g (Array.getElem?_eq_some_iff.1 hg).1]; exact hg⟩) (fun _ _ _ _ _ ⟨g, hv, hl, hg⟩ ⟨q, hq, e⟩ hp => ⟨g, hv, hl, by rw [hp.block g (Array.getElem?_eq_some_iff.1 hg).1 (fun h => by have := hog q hq; omega)]; exact hg⟩) (by rfl) (fun T xs wr hA => ?_) ?_
  · have hsw := (hA.be 0 (Nat.zero_le _) (fun _ _ => Nat.zero_le _)).size
    clear hA
    refine ⟨(by rfl), fun K hK => ?_⟩
    go_simp
    exact hK.out _ _ ⟨_, rfl, hsw, by simpa using made_at wr _ _ rfl⟩ ((Below.refl _ _).alloc (Nat.le_refl _) _)
  refine Rel7.Chain.done (fun xs w1 hL => ?_)
  obtain ⟨⟨hbe, hbl⟩, hf, -, -⟩ := hL
  have f0 : xs 0 = _ := hf 0 (by decide)
  (try simp (disch := first | rfl | decide) only [Rel7.mask_in] at f0)
  have f1 : xs 1 = _ := hf 1 (by decide)
  (try simp (disch := first | rfl | decide) only [Rel7.mask_in] at f1)
  have F2 : ∃ x, (xs 2) = xv x ∧ Um w1 (fun b => wc.heap.size ≤ b) x r.1 ∧ PS w1 g r.2 := hf 2 (by decide)
  have f3 : xs 3 = _ := hf 3 (by decide)
  (try simp (disch := first | rfl | decide) only [Rel7.mask_in] at f3)
  have F4 : ∃ g, (xs 4) = .slice (some ⟨g, 0, none⟩) 1 1 ∧ wc.heap.size ≤ g ∧ w1.heap[g]? = some (.cells #[.int .i64 0, .string ⟨#[]⟩, .string ⟨#[]⟩, .bool false, .slice none 0 0, .slice none 0 0, .int .i64 0, .int .i64 0] 30 (0, 0)) := hf 4 (by decide)
  have hb0 : Below 0 wc w1 := undrew (hbe 0 (Nat.zero_le _) (fun _ _ => Nat.zero_le _))
  have hgr : ∀ j, j < wc.heap.size → (∀ q, q < 1 → (fun q => g) q ≠ j) → w1.heap[j]? = wc.heap[j]? := hbl
  clear hbe hbl hf
  obtain ⟨x, hx, hu, hp⟩ := F2
  obtain ⟨g4, hv4, hl4, hg4⟩ := F4
  unfold Rel7.Rest
  simp only [Rel7.fill, List.take_succ_cons, List.take_zero, List.setIfInBounds_toArray, List.set_cons_zero, List.set_cons_succ, f0, f1, f3]
  simp only [hx, hv4]
  clear hog hlt_a hlt_b f0 f1 f3
  have hg : wc.grownBy w1 (some g) := ⟨hb0.os, hb0.tape, hb0.output, hb0.size, fun k hk hn => hgr k hk (fun q _ e => hn (by rw [← e]))⟩
  obtain ⟨z0, z1, z2, z3, z4, z5, z6, z7, z8, z9, z10, z11⟩ := x
  simp only [xv]
  have ha1 : w1.heap[ka]? = _ := (hg.block ka (lt_of_block HBa.out) (fun e => by injection e with e; omega)).trans HBa.out
  have hown1 := World.ownsRow.kept HOW.out hg (by
    cases hv : (Value.slice ko us.length kc).ownBlock with
    | none => exact .inl rfl
    | some j => exact .inr (fun e => by injection e with e; have := (World.ownsRow.lt HOW.out j hv).1; omega))
  refine all_tail (ops := _) _ _ _ rfl rfl rfl rfl rfl rfl rfl rfl (by kernel_rfl) (by kernel_rfl) (by kernel_rfl) (by kernel_rfl) (by kernel_rfl) (by kernel_rfl) (by kernel_rfl) (by kernel_rfl) (by kernel_rfl) (by kernel_rfl) _ _ rfl ka us.length kc ko rfl (ys.flatMap xc) hown1 ha1 g4 rfl hg4 hlen _ _ rfl (fun _ => rfl) (fun _ => rfl) _ _ rfl rfl [.int .i64 z0, .string z1, .string z2, .bool z3, .slice z4 z5 z6, .slice z7 z8 z9, .int .i64 z10, .int .i64 z11] rfl (by intro u hu; simp only [List.mem_cons, List.not_mem_nil, or_false] at hu; rcases hu with rfl | rfl | rfl | rfl | rfl | rfl | rfl | rfl <;> rfl) (fun _ _ => rfl) (fun _ _ => rfl) _ _ rfl rfl (fun _ => rfl) (fun _ => rfl) (fun _ _ => rfl) (fun _ _ => rfl) ?_
  intro gq cap w' q ha' hown' hk' h1 h2 h3 h4 hat
  go_end0
  have hxl : ∀ q, (Value.slice ko us.length kc).ownBlock = some q → ka < q ∧ q < wc.heap.size := fun q hq => by have := World.ownsRow.lt HOW.out q hq; omega
  have hwN := hg.size
  have hsame : ∀ k, k < w1.heap.size → k ≠ ka → (Value.slice ko us.length kc).ownBlock ≠ some k → w'.heap[k]? = w1.heap[k]? := hk'
  refine ⟨⟨_, rfl⟩, ⟨hp.1.keepAll (fun k hk => ?_) h4, hp.2⟩, ⟨some ⟨gq, 0, none⟩, cap, ys ++ [⟨z0, z1, z2, z3, z4, z5, z6, z7, z8, z9, z10, z11⟩], ?_, ?_, ?_, fun i p1 p2 => ?_⟩, ?_, ?_⟩
  · by_cases e1 : k = ka
    · exact .inr ⟨by omega, _, _, by rw [e1]; exact ha1, by decide⟩
    · by_cases e2 : (Value.slice ko us.length kc).ownBlock = some k
      · refine .inr ⟨by have := hxl k e2; omega, ?_⟩
        rcases hown1.2 with ⟨h, -⟩ | ⟨q, c0, cur, hv, -, hq, -⟩
        · rw [h] at e2; cases e2
        · rw [hv] at e2
          have : q = k := by simpa [Value.ownBlock] using e2
          subst this
          exact ⟨_, _, hq, by decide⟩
      · exact .inl (hsame k hk e1 e2)
  · rw [ha', List.length_append]; rfl
  · rw [List.length_append, List.flatMap_append]; exact hown'
  · rw [List.length_append, List.length_append, hyl]; rfl
  · have hS : ∀ b, (b < w1.heap.size) → b ≠ ka → (Value.slice ko us.length kc).ownBlock ≠ some b → w'.heap[b]? = w1.heap[b]? := hsame
    have hgq : ∀ b, b < w1.heap.size → (Value.slice ko us.length kc).ownBlock ≠ some b → (Value.slice (some ⟨gq, 0, none⟩) (us ++ [r.1]).length cap).ownBlock ≠ some b := fun b hb hn e => by
      have e : gq = b := by simpa [Value.ownBlock] using e
      subst e
      rcases hat with h | h
      · exact hn h
      · omega
    by_cases hi : i < ys.length
    · have hu1 := ((HYS.out i hi (by omega)).grown hg (fun h => by have := h.1; omega)).lt
      have hu2 := (hu1.keep (w' := w') (fun b h => hS b h.2 h.1.2.1 h.1.2.2.2)).mono (S' := fun b => B ≤ b ∧ b ≠ ka ∧ b ≠ kb ∧ (Value.slice (some ⟨gq, 0, none⟩) (us ++ [r.1]).length cap).ownBlock ≠ some b) (fun b h => ⟨h.1.1, h.1.2.1, h.1.2.2.1, hgq b h.2 h.1.2.2.2⟩)
      rw [List.getElem_append_left hi, List.getElem_append_left (by omega)]
      exact hu2
    · have hi2 : i = ys.length := by rw [List.length_append] at p1; simp at p1; omega
      have hne : ∀ b, wc.heap.size ≤ b → (Value.slice ko us.length kc).ownBlock ≠ some b := fun b hb e => by have := hxl b e; omega
      have hu2 := (hu.lt.keep (w' := w') (fun b h => by have h1 : wc.heap.size ≤ b := h.1; exact hS b h.2 (by have := lt_of_block HBa.out; omega) (hne b h1))).mono (S' := fun b => B ≤ b ∧ b ≠ ka ∧ b ≠ kb ∧ (Value.slice (some ⟨gq, 0, none⟩) (us ++ [r.1]).length cap).ownBlock ≠ some b) (fun b h => by have h1 : wc.heap.size ≤ b := h.1; exact ⟨by have := HD.out.size; omega, by have := lt_of_block HBa.out; omega, by have := lt_of_block HBb.out; omega, hgq b h.2 (hne b h1)⟩)
      have e1 : (ys ++ [(⟨z0, z1, z2, z3, z4, z5, z6, z7, z8, z9, z10, z11⟩ : X)])[i] = ⟨z0, z1, z2, z3, z4, z5, z6, z7, z8, z9, z10, z11⟩ := by subst hi2; simp
      have e2 : (us ++ [r.1])[i] = r.1 := by have : i = us.length := by omega
                                             subst this; simp
      rw [e1, e2]
      exact hu2
  · have hlb := lt_of_block HBb.out
    rw [hsame kb (by omega) (by omega) (fun e => by have := hxl kb e; omega)]
    exact (hg.block kb hlb (fun e => by injection e with e; omega)).trans HBb.out
  · have hD := HD.out
    have := hD.size
    refine ⟨h1.trans (hg.os.trans hD.os), h2.trans (hg.tape.trans hD.tape), h3.trans (hg.output.trans hD.output), by omega, fun k hk hn => ?_⟩
    rw [hsame k (by omega) (by omega) (fun e => by have := hxl k e; omega), hg.block k (by omega) hn]
    exact hD.block k hk hn

/-- What list leaves where the closure of args reads. -/
def ListPost (we : World) (B ka kb g : Nat) (us : List U) (s : St) (w' : World) : Prop := PS w' g s ∧ AllAt w' B ka kb us ∧ w'.heap[kb]? = some (.cells #[.pointer (some ⟨g, 0, none⟩)] 40 (0, 0)) ∧ we.grownBy w' (some g)
theorem ListPost.did {we w w' : World} {B ka kb g : Nat} {us : List U} {s s' : St} (h : ListPost we B ka kb g us s w) (hd : Did w g s' w') (h1 : g < B) (h2 : g < ka) (h3 : g < kb) : ListPost we B ka kb g us s' w' :=
  ⟨hd.1, h.2.1.keep hd.2 h1 h2, (hd.2.block _ (lt_of_block h.2.2.1) (fun e => by injection e with e; omega)).trans h.2.2.1, grown_tr h.2.2.2 hd.2⟩
theorem more_len {n : Nat} : ∀ {l : List U} {s : St} {x : List U × St}, cMore n l s = some x → l.length ≤ x.1.length := by
  induction n with
  | zero => intro l s x h; simp [cMore] at h
  | succ n ih =>
    intro l s x h
    rw [cMore] at h
    split at h
    · rw [Option.bind_eq_some_iff] at h
      obtain ⟨r, h1, h2⟩ := h
      have := ih h2
      rw [List.length_append] at this; omega
    · injection h with h; subst h; exact Nat.le_refl _
theorem tk_less {s : St} (h : GoodL s.rest) {w : Bs} (hw : w ≠ []) (hi : s.is w = true) : s.tk.rest.length < s.rest.length := by
  have hk : s.nx.kind ≠ 4 := fun hk => hw (by have := h.head.ke hk; rw [show (s.rest.headD tk0).text = s.nx.text from rfl, St.is_true hi] at this; exact this)
  have h4 := List.length_pos_iff.2 h.ne
  unfold St.tk; rw [if_neg hk]; simp; omega
set_option maxHeartbeats 8000000 in
theorem list_p (n : Nat) (E : Hid (∀ m, m ≤ n → ExprAt7 m)) (g ka kb B : Nat) (s : St) (r : List U × St) (we w : World) (hop : GOps we g) (hgN : g < we.heap.size) (hgB : g < B) (hBN : B ≤ we.heap.size) (hN : we.heap.size ≤ kb) (hab : kb < ka) (h0 : ListPost we B ka kb g [] s w) (hc : cArgs (n + 1) s = some r) :
    Calls Tryd.prog 66 #[.pointer (some ⟨g, 0, none⟩), .func (.func 67) #[] #[.pointer (some ⟨ka, 0, none⟩), .pointer (some ⟨kb, 0, none⟩)]] w fun e w' => (∃ v, e = .returned v) ∧ ListPost we B ka kb g r.1 r.2 w' := by
  have HL := Lib.hid h0
  have HOP := Lib.hid hop
  have hlen := h0.1.2
  clear h0 hop
  rw [cArgs] at hc
  by_cases hcl : s.is wClose = true
  · rw [if_pos hcl] at hc
    injection hc with hc
    subst hc
    have HI : Hid (s.acc [41] = s.tk) := Lib.hid (by unfold St.acc; rw [show s.is [41] = true from hcl]; rfl)
    go_enter Tryd.func66, Tryd.ntmps66
    go_wp2_with fail
    refine (accept_p g s [41] w HL.out.1).mono ?_
    rintro e w1 ⟨rfl, hd⟩
    have HL1 := Lib.hid (HL.out.did hd hgB (by omega) (by omega))
    rw [HI.out] at HL1
    rw [show s.is [41] = true from hcl]
    clear hd hcl
    go_wp2_with fail
    exact bodyPost_ret (v := .tuple #[]) (by simp [results, Tryd.results66, go_sem]) rfl ⟨⟨_, rfl⟩, HL1.out⟩
  · rw [if_neg hcl, Option.bind_eq_some_iff] at hc
    obtain ⟨r1, hc1, hc2⟩ := hc
    have HC1 := Lib.hid hc1
    have HC2 := Lib.hid hc2
    have hcf : s.is [41] = false := by simpa using hcl
    have HI : Hid (s.acc [41] = s) := Lib.hid (by unfold St.acc; rw [hcf]; rfl)
    have hl1 := (c_len n).1 _ _ hc1
    clear hc1 hc2 hcl
    go_enter Tryd.func66, Tryd.ntmps66
    go_wp2_with fail
    refine (accept_p g s [41] w HL.out.1).mono ?_
    rintro e w1 ⟨rfl, hd⟩
    have HL1 := Lib.hid (HL.out.did hd hgB (by omega) (by omega))
    rw [HI.out] at HL1
    rw [hcf]
    clear hd
    go_wp2_with fail
    refine (clos_p n (Lib.hid (E.out n (Nat.le_refl _))) g ka kb B s r1 [] we w1 (HOP.out.grown HL1.out.2.2.2 (Nat.le_refl _)) HL1.out.2.2.2 hgN hgB hBN hN hab HL1.out.1 HL1.out.2.1 HL1.out.2.2.1 (by simp) HC1.out).mono ?_
    rintro e w2 ⟨⟨v, rfl⟩, p1, p2, p3, p4⟩
    have HL2 : Hid (ListPost we B ka kb g [r1.1] r1.2 w2) := Lib.hid ⟨p1, p2, p3, p4⟩
    clear p1 p2 p3 p4
    go_wp2_with fail
    go_loopw [8] (fun _ wr => ∃ (m : Nat) (us : List U) (sj : St), m ≤ n ∧ us.length + sj.rest.length ≤ 30001 ∧ Hid (cMore m us sj = some r) ∧ Hid (ListPost we B ka kb g us sj wr)) (fun _ wr => pLen wr g)
    case atStart => exact ⟨n, [r1.1], r1.2, Nat.le_refl _, by simp; omega, HC2, HL2⟩
    case round =>
      obtain ⟨m, us, sj, hm, hlj, HC, HLj⟩ := hrel
      cases m with
      | zero => exact absurd HC.out (by simp [cMore])
      | succ m =>
        have hcm := HC.out
        rw [cMore] at hcm
        have HLN := Lib.hid HLj.out.1.len
        have HGD := Lib.hid HLj.out.1.good
        go_wp2_with fail
        refine (accept_p g sj [44] wr HLj.out.1).mono ?_
        rintro e w3 ⟨rfl, hd⟩
        have HL3 := Lib.hid (HLj.out.did hd hgB (by omega) (by omega))
        clear hd
        by_cases hi : sj.is [44] = true
        · have hi2 : sj.is wComma = true := hi
          rw [if_pos hi2, Option.bind_eq_some_iff] at hcm
          obtain ⟨r2, hd1, hd2⟩ := hcm
          have HD1 := Lib.hid hd1
          have HD2 := Lib.hid hd2
          have hlt := tk_less HGD.out (w := wComma) (by decide) hi2
          have hl2 := (c_len m).1 _ _ hd1
          have HX : Hid (sj.acc [44] = sj.tk) := Lib.hid (by unfold St.acc; rw [hi]; rfl)
          rw [HX.out] at HL3
          rw [hi]
          clear hi hi2 hd1 hd2
          go_wp2_with fail
          refine (clos_p m (Lib.hid (E.out m (by omega))) g ka kb B sj.tk r2 us we w3 (HOP.out.grown HL3.out.2.2.2 (Nat.le_refl _)) HL3.out.2.2.2 hgN hgB hBN hN hab HL3.out.1 HL3.out.2.1 HL3.out.2.2.1 (by omega) HD1.out).mono ?_
          rintro e w4 ⟨⟨v, rfl⟩, p1, p2, p3, p4⟩
          have HL4 : Hid (ListPost we B ka kb g (us ++ [r2.1]) r2.2 w4) := Lib.hid ⟨p1, p2, p3, p4⟩
          clear p1 p2 p3 p4
          go_wp2_with fail
          go_roundw
          case rel => exact ⟨m, us ++ [r2.1], r2.2, by omega, by rw [List.length_append]; simp; omega, HD2, HL4⟩
          case measure => rw [HL4.out.1.len, HLN.out]; omega
        · have hif : sj.is [44] = false := by simpa using hi
          rw [if_neg (show ¬ sj.is wComma = true from hi)] at hcm
          injection hcm with hcm
          subst hcm
          have HX : Hid (sj.acc [44] = sj) := Lib.hid (by unfold St.acc; rw [hif]; rfl)
          rw [HX.out] at HL3
          rw [hif]
          clear hi
          go_wp2_with fail
          obtain ⟨w4, hw⟩ : ∃ x, x = w3.alloc (.cells #[.string ⟨#[41]⟩] 9) := ⟨_, rfl⟩
          have hb : Below w3.heap.size w3 w4 := by rw [hw]; exact (Below.refl _ _).alloc (Nat.le_refl _) _
          have hk : w4.heap[w3.heap.size]? = some (.cells #[.string ⟨#[41]⟩] 9 (0, 0)) := by rw [hw]; exact made_at w3 _ _ rfl
          rw [← hw]
          have HL4 := Lib.hid (HL3.out.did (Did.of_below HL3.out.1 hb) hgB (by omega) (by omega))
          obtain ⟨kq, hkk⟩ : ∃ k, k = w3.heap.size := ⟨_, rfl⟩
          have hgk : g < kq := by rw [hkk]; exact HL3.out.1.lt
          rw [← hkk] at hk ⊢
          have HK := Lib.hid hk
          clear hw hb hk hkk
          refine (expect_p g sj [[41]] kq w4 HL4.out.1 HK.out (by omega) (by decide)).mono ?_
          rintro e w5 ⟨⟨v, rfl⟩, hd⟩
          have HL5 := Lib.hid (HL4.out.did hd hgB (by omega) (by omega))
          clear hd
          go_wp2_with fail
          go_end0
          exact ⟨⟨_, rfl⟩, HL5.out⟩
set_option maxHeartbeats 8000000 in
theorem args_p (n : Nat) (E : Hid (∀ m, m ≤ n → ExprAt7 m)) : ArgsAt (n + 1) := by
  intro g s r w hps hop hc
  have hgN := hps.lt
  have HP := Lib.hid hps
  have HOP := Lib.hid hop
  have HC := Lib.hid hc
  clear hps hop hc
  have hmf : ∀ (fn : Fn) (first cap : Array Value) (w : World), (Instr.makeFunc fn first cap).run Tryd.prog w = .ok (.func fn first cap) w := fun _ _ _ _ => rfl
  obtain ⟨w1, hw1⟩ : ∃ x, x = w.alloc (.cells #[.pointer (some ⟨g, 0, none⟩)] 40) := ⟨_, rfl⟩
  obtain ⟨w2, hw2⟩ : ∃ x, x = w1.alloc (.cells #[.slice none 0 0] 28) := ⟨_, rfl⟩
  obtain ⟨kb, hkb⟩ : ∃ k, k = w.heap.size := ⟨_, rfl⟩
  obtain ⟨ka, hka⟩ : ∃ k, k = w.heap.size + 1 := ⟨_, rfl⟩
  have hb1 : Below w.heap.size w w1 := by rw [hw1]; exact (Below.refl _ _).alloc (Nat.le_refl _) _
  have hs1 : w1.heap.size = w.heap.size + 1 := by rw [hw1]; simp
  have hb2 : Below w1.heap.size w1 w2 := by rw [hw2]; exact (Below.refl _ _).alloc (Nat.le_refl _) _
  have h1 : w1.heap[kb]? = some (.cells #[.pointer (some ⟨g, 0, none⟩)] 40 (0, 0)) := by rw [hw1, hkb]; exact made_at w _ _ rfl
  have h2 : w2.heap[ka]? = some (.cells #[.slice none 0 0] 28 (0, 0)) := by rw [hw2, hka, ← hs1]; exact made_at w1 _ _ rfl
  have h12 := (hb2.block _ (lt_of_block h1)).trans h1
  have hBB : Below w.heap.size w w2 := hb1.trans (hb2.mono hb1.size)
  have HL : Hid (ListPost w w.heap.size ka kb g [] s w2) := Lib.hid ⟨HP.out.below hBB, ⟨none, 0, [], h2, World.ownsRow_nil _ _ _ _, rfl, fun i h => by simp at h⟩, h12, below_grown hBB _⟩
  have HW1 := Lib.hid hw1
  have HW2 := Lib.hid hw2
  have HKB := Lib.hid hkb
  have HKA := Lib.hid hka
  have hN : w.heap.size ≤ kb := by omega
  have hab : kb < ka := by omega
  have HX1 := Lib.hid h12
  clear hb1 hb2 h1 h2 h12 hBB hw1 hw2 hkb hka hs1
  go_enter Tryd.func60, Tryd.ntmps60
  go_upto_region 2 with fail
  rw [← HW1.out, ← HW2.out, ← HKA.out, ← HKB.out]
  have b0 := cell_at (v := .pointer (some ⟨g, 0, none⟩)) HX1.out 0 rfl
  go_wp2_with fail
  refine (list_p n E g ka kb w.heap.size s r w w2 HOP.out hgN hgN (Nat.le_refl _) hN hab HL.out HC.out).mono ?_
  rintro e w3 ⟨⟨v, rfl⟩, hl⟩
  obtain ⟨hp, ⟨ko, kc, ys, ha, hown, hyl, hys⟩, -, hg⟩ := hl
  have a0 := cell_at (v := .slice ko r.1.length kc) ha 0 rfl
  have HPP := Lib.hid hp
  have HOW := Lib.hid hown
  have HYS := Lib.hid hys
  have HG := Lib.hid hg
  clear ha hp hown hys hg b0
  go_wp2_with fail
  go_ret
  refine ⟨ko, kc, rfl, ?_, fun h a e => ?_, ums_of 0 fun j hj => ?_, HPP.out, HG.out⟩
  · rcases HOW.out.2 with ⟨h, h0⟩ | ⟨q, cap, cur, h, -, -, h1, h2, -⟩
    · injection h with _ _ h; subst h; rw [h0]; exact ⟨Nat.le_refl _, Nat.zero_le _⟩
    · injection h with _ _ h; subst h; exact ⟨h1, h2⟩
  · subst e
    have := World.ownsRow.lt HOW.out a.block rfl
    omega
  · rw [Nat.zero_add]
    exact ⟨ys[j], own_at HOW.out j (by omega), (HYS.out j (by omega) hj).mono fun b h => h.1⟩
end Go.Proofs.YtdpfgfkoboihcaaDoor
