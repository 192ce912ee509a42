/-
  Contracts of the writer's methods phrase, call, binary: one step, given those of expr for the kids.
-/
import Derived.Test.YtcdacmbcecjliaaDoorTrW
import Derived.Deep.RegionHeld3
namespace Go.Proofs.YtcdacmbcecjliaaDoor
open Go.RowKit
set_option maxRecDepth 100000

/-- What expr does with trees of no more than d parts within one another, which lie in w0. -/
def ExprAt (w0 : World) (d : Nat) : Prop := ∀ (b : Nat) (l : Bs) (lev : Nat) (x : X) (t : T) (S : Nat → Prop) (w : World), Tr w0 S d x t → Ok d t → lev ≤ 8 → Below w0.heap.size w0 w → Wr w0.heap.size b l w → l.length + LL d + 1 ≤ 1000000 →
  Calls Tryd.prog 30 #[.pointer (some ⟨b, 0, none⟩), xv x, .int .i64 (lev : Nat)] w (WrPost w0.heap.size b (l ++ ex lev t) w)

/-- Kids' texts at level 0. -/
def k0 (ks : List T) : List Bs := ks.map (ex 0)
theorem exs_k0 (k : Nat) (h : 24 ≤ k) (i : Nat) (ks : List T) : exs k i ks = k0 ks := by
  induction ks generalizing i with
  | nil => rfl
  | cons t ts ih =>
    have : rq k i = 0 := by unfold rq; rw [if_neg (by omega), if_neg (by omega)]
    simp only [exs, k0, List.map_cons, this, ih]; rfl
theorem k0_len (ks : List T) : (k0 ks).length = ks.length := List.length_map ..
theorem phr_take (ws ps : List Bs) (j : Nat) (h1 : j < ws.length) (h2 : j < ps.length) : phr (ws.take (j + 1)) (ps.take (j + 1)) = phr (ws.take j) (ps.take j) ++ ws[j] ++ ps[j] := by
  induction ws generalizing ps j with
  | nil => simp at h1
  | cons w ws ih =>
    cases ps with
    | nil => simp at h2
    | cons p ps =>
      cases j with
      | zero => simp [phr]
      | succ j => simp only [List.take_succ_cons, phr, List.getElem_cons_succ, List.append_assoc]; rw [ih ps j (by simpa using h1) (by simpa using h2)]; simp
theorem com_take (ps : List Bs) (j : Nat) (h2 : j < ps.length) : com (ps.take (j + 1)) = com (ps.take j) ++ (if j = 0 then [] else [44, 32]) ++ ps[j] := by
  induction ps generalizing j with
  | nil => simp at h2
  | cons p ps ih =>
    cases j with
    | zero => simp [com]
    | succ j =>
      have h3 : j < ps.length := by simpa using h2
      have := ih j h3
      cases ps with
      | nil => simp at h3
      | cons q ps =>
        cases j with
        | zero => simp [com]
        | succ j =>
          simp only [List.take_succ_cons, com, List.getElem_cons_succ, List.append_assoc] at this ⊢
          rw [this]; simp
theorem k0_get (ks : List T) (j : Nat) (h : j < ks.length) : (k0 ks)[j]'(by rw [k0_len]; exact h) = ex 0 ks[j] := by simp [k0]
theorem k0_sum {d : Nat} {ks : List T} (h : ∀ t ∈ ks, Ok d t) (j : Nat) : (((k0 ks).take j).map List.length).sum ≤ j * LL d := by
  have h1 : ∀ p ∈ (k0 ks).take j, p.length ≤ LL d := fun p hp => by
    obtain ⟨t, ht, rfl⟩ := List.mem_map.1 (List.mem_of_mem_take hp)
    exact ex_len (h t ht) 0
  have h2 := sum_len h1
  have h3 : ((k0 ks).take j).length ≤ j := List.length_take_le ..
  exact Nat.le_trans h2 (Nat.mul_le_mul_right _ h3)
theorem words_take_sum (ws : List Bs) (j : Nat) : ((ws.take j).map List.length).sum ≤ (ws.map List.length).sum := by
  have := congrArg (fun q => (q.map List.length).sum) (List.take_append_drop j ws)
  simp only [List.map_append, List.sum_append] at this
  omega
theorem phr_bd {d : Nat} {ks : List T} (h : ∀ t ∈ ks, Ok d t) (ws : List Bs) (hw : (ws.map List.length).sum ≤ 40) (j : Nat) (hj : j ≤ 2) : (phr (ws.take j) ((k0 ks).take j)).length ≤ 40 + 2 * LL d := by
  have h1 := phr_len (ws.take j) ((k0 ks).take j)
  have h2 := k0_sum h j
  have h3 := words_take_sum ws j
  have h4 : j * LL d ≤ 2 * LL d := Nat.mul_le_mul_right _ hj
  omega
theorem word_bd (ws : List Bs) (hw : (ws.map List.length).sum ≤ 40) (j : Nat) (hj : j < ws.length) : ws[j].length ≤ 40 := by
  have := words_take_sum ws (j + 1)
  rw [List.take_succ_eq_append_getElem hj] at this
  simp only [List.map_append, List.sum_append, List.map_cons, List.map_nil, List.sum_cons, List.sum_nil] at this
  omega
theorem com_bd {d : Nat} {ks : List T} (h : ∀ t ∈ ks, Ok d t) (j : Nat) (hj : j ≤ 3) : (com ((k0 ks).take j)).length ≤ 6 + j * LL d := by
  have h1 := com_len ((k0 ks).take j)
  have h2 := k0_sum h j
  have h3 : ((k0 ks).take j).length ≤ j := List.length_take_le ..
  omega

/-- The strings ws lie, one cell each, in block g. -/
def Words (w : World) (g : Nat) (ws : List Bs) : Prop := w.heap[g]? = some (.cells (ws.map fun s => Value.string ⟨s.toArray⟩).toArray 9 (0, 0))
theorem Words.at {w : World} {g : Nat} {ws : List Bs} (h : Words w g ws) (j : Nat) (hj : j < ws.length) : w.cell? ⟨g, j, none⟩ = some (.string ⟨ws[j].toArray⟩) := by
  rw [cell_of_row w g j _ 9 (0, 0) h]; simp [hj]
theorem Words.fr {w w' : World} {g : Nat} {ws : List Bs} (h : Words w g ws) (hf : Fr w w') : Words w' g ws := hf g _ _ _ h (by decide) (by decide)
theorem Words.below {w w' : World} {g : Nat} {ws : List Bs} (h : Words w g ws) (hb : Below w.heap.size w w') : Words w' g ws := h.fr (fr_below hb)

set_option maxHeartbeats 8000000 in
theorem phrase_any (w0 : World) (d : Nat) (E : Hid (ExprAt w0 d)) (b : Nat) (l : Bs) (k : Nat) (nm ot : Bs) (z : Nat) (ks : List T) (x : X) (S : Nat → Prop) (g : Nat) (ws : List Bs) (c : Nat) (w : World) (h : Tr w0 S (d + 1) x (.node k nm ot z ks)) (ho : Ok (d + 1) (.node k nm ot z ks)) (hws : ws.length = ks.length) (hwl : (ws.map List.length).sum ≤ 40) (hwd : Words w g ws)
    (hbw : Below w0.heap.size w0 w) (hwr : Wr w0.heap.size b l w) (hlen : l.length + LL (d + 1) ≤ 1000000) :
    Calls Tryd.prog 41 #[.pointer (some ⟨b, 0, none⟩), xv x, .slice (some ⟨g, 0, none⟩) ks.length c] w (WrPost w0.heap.size b (l ++ phr ws (k0 ks)) w) := by
  obtain ⟨hk, hn, hoo, hz, ha, hl, hks⟩ := ho
  obtain ⟨⟨e1, e2, e3, e4⟩, ⟨h2, h3⟩, ⟨h4, h5, h6⟩, h7⟩ := h
  obtain ⟨xk, xnm, xot, xb, xao, xn, xq, xko, xkn, xkc, xln, xcl⟩ := x
  simp only at e1 e2 e3 e4 h2 h3 h4 h5 h6 h7
  subst e1 e2 e3 e4 h4
  have HK := Lib.hid h7
  have HKS := Lib.hid hks
  have HS := Lib.hid h2
  have HBW := Lib.hid hbw
  have HWR := Lib.hid hwr
  have hsB := hbw.size
  have hLS := LL_succ d
  clear h2 h3 h6 h7 hks hbw hwr
  simp only [xv]
  have HWD := Lib.hid hwd
  have HWS := Lib.hid hws
  have HWL := Lib.hid hwl
  clear hwd hws hwl
  have hba : Below w.heap.size w (w.alloc (.cells #[.int .i64 (k : Nat), .string ⟨nm.toArray⟩, .string ⟨ot.toArray⟩, .bool false, .slice xao xn xq, .slice xko ks.length xkc, .int .i64 xln, .int .i64 xcl] 29)) := (Below.refl _ _).alloc (Nat.le_refl _) _
  have HI : Hid (Wr w0.heap.size b (l ++ phr (ws.take 0) ((k0 ks).take 0)) (w.alloc (.cells #[.int .i64 (k : Nat), .string ⟨nm.toArray⟩, .string ⟨ot.toArray⟩, .bool false, .slice xao xn xq, .slice xko ks.length xkc, .int .i64 xln, .int .i64 xcl] 29))) := Lib.hid (by simp only [List.take_zero, phr, List.append_nil]; exact HWR.out.below hba)
  have HI2 := Lib.hid (HWD.out.below hba)
  have HI3 : Hid (Below w0.heap.size w (w.alloc (.cells #[.int .i64 (k : Nat), .string ⟨nm.toArray⟩, .string ⟨ot.toArray⟩, .bool false, .slice xao xn xq, .slice xko ks.length xkc, .int .i64 xln, .int .i64 xcl] 29))) := Lib.hid (hba.mono hsB)
  have HI4 := Lib.hid (fr_below hba)
  clear hba
  go_enter Tryd.func41, Tryd.ntmps41
  go_wp2_with fail
  go_loopw [11] (fun i wr => ∃ j : Nat, i = .int .i64 (j : Nat) ∧ j ≤ ks.length ∧ Wr w0.heap.size b (l ++ phr (ws.take j) ((k0 ks).take j)) wr ∧ Words wr g ws ∧ Below w0.heap.size w wr ∧ Fr w wr) (fun i _ => ks.length - (intOf i).toNat)
  case atStart => exact ⟨0, rfl, Nat.zero_le _, HI.out, HI2.out, HI3.out, HI4.out⟩
  case round =>
    obtain ⟨j, rfl, hj, hw1, hw2, hw3, hw4⟩ := hrel
    have H1 := Lib.hid hw1
    have H2 := Lib.hid hw2
    have H3 := Lib.hid hw3
    have H4 := Lib.hid hw4
    have hs3 := hw3.size
    clear hw1 hw2 hw3 hw4
    by_cases hlt : j < ks.length
    · obtain ⟨wL, hwL⟩ : ∃ wL, wL = wr := ⟨_, rfl⟩
      subst hwL
      have hb3 : Below w0.heap.size w0 wL := HBW.out.trans H3.out
      obtain ⟨Y, hA, hT⟩ := HK.out j hlt
      obtain ⟨a, rfl, hc⟩ := hA.keep fun a ha => hb3.block _ (hA.lt a ha)
      obtain ⟨c0, c1, c2, c3, c4, c5, c6, c7⟩ := cells8 hc
      have HT := Lib.hid hT
      have HB3 := Lib.hid hb3
      have hsB3 := hb3.size
      clear hc hA hT hb3
      go_wp2_with fail
      obtain ⟨w9, hw9⟩ : ∃ w9, w9 = wL.alloc (.cells #[.int .i64 Y.k, .string Y.nm, .string Y.ot, .bool Y.b, .slice Y.ao Y.n Y.c, .slice Y.ko Y.kn Y.kc, .int .i64 Y.ln, .int .i64 Y.cl] 29) := ⟨_, rfl⟩
      have hb9 : Below wL.heap.size wL w9 := by rw [hw9]; exact (Below.refl _ _).alloc (Nat.le_refl _) _
      obtain ⟨k9, hk9⟩ : ∃ k9, k9 = wL.heap.size := ⟨_, rfl⟩
      have HB_k : Hid (w9.heap[k9]? = some (.cells #[.int .i64 Y.k, .string Y.nm, .string Y.ot, .bool Y.b, .slice Y.ao Y.n Y.c, .slice Y.ko Y.kn Y.kc, .int .i64 Y.ln, .int .i64 Y.cl] 29 (0, 0))) := Lib.hid (by rw [hw9, hk9]; exact made_at wL _ _ rfl)
      have H2' := H2.out.below hb9
      have HB_s : Hid (w9.heap[g]? = some (.cells (ws.map fun s => Value.string ⟨s.toArray⟩).toArray 9 (0, 0))) := Lib.hid H2'
      have H19 := Lib.hid (H1.out.below hb9)
      have HB9 := Lib.hid hb9
      rw [← hw9, ← hk9]
      have hwj : j < ws.length := by have := HWS.out; omega
      have hs9 := hb9.size
      clear hw9 hb9 hk9 H2' c0 c1 c2 c3 c4 c5 c6 c7
      have hlt_s := lt_of_block HB_s.out
      have hlt_k := lt_of_block HB_k.out
      refine Rely.region (by kernel_rfl) [[], [0], [0, 1], [], [], [3, 4], [3, 4, 5], [0, 1, 2, 3, 4, 5, 6]] [] [] (fun _ => 0) 0 7 (by kernel_rfl) (by kernel_rfl) (fun q h => absurd h (Nat.not_lt_zero q)) (fun q _ h => absurd h (Nat.not_lt_zero q)) ?_
      refine Rely.Chain.det ?_ (by rfl) (fun T xs wr hA => ?_) ?_
      rotate_left 1
      · have e0 := hA.pre 0 (by kernel_rfl)
        simp only [List.getElem?_toArray, List.getElem?_cons_zero] at e0
        clear hA
        refine ⟨(by rfl), ?_⟩
        go_simp <;> (try with_reducible rfl)
      refine Rely.Chain.det ?_ (by rfl) (fun T xs wr hA => ?_) ?_
      rotate_left 1
      · have e16 := hA.tm 0 16 (by rfl) (by rfl)
        have f16 : xs 0 = _ := hA.fa 0 (by rfl)
        (try simp (disch := first | rfl | decide) only [Rely.mask_in] at f16)
        rw [f16] at e16
        clear f16
        clear hA
        refine ⟨(by rfl), ?_⟩
        go_simp <;> (try with_reducible rfl)
      refine Rely.Chain.det ?_ (by rfl) (fun T xs wr hA => ?_) ?_
      rotate_left 1
      · have e17 := hA.tm 1 17 (by rfl) (by rfl)
        have f17 : xs 1 = _ := hA.fa 1 (by rfl)
        (try simp (disch := first | rfl | decide) only [Rely.mask_in] at f17)
        rw [f17] at e17
        clear f17
        clear hA
        refine ⟨(by rfl), ?_⟩
        go_simp <;> (try with_reducible rfl)
      refine Rely.Chain.det ?_ (by rfl) (fun T xs wr hA => ?_) ?_
      rotate_left 1
      · have e2 := hA.pre 2 (by kernel_rfl)
        simp only [List.getElem?_toArray, List.getElem?_cons_succ, List.getElem?_cons_zero] at e2
        clear hA
        refine ⟨(by rfl), ?_⟩
        go_simp <;> (try with_reducible rfl)
      refine Rely.Chain.det ?_ (by rfl) (fun T xs wr hA => ?_) ?_
      rotate_left 1
      · have e6 := hA.pre 6 (by kernel_rfl)
        simp only [List.getElem?_toArray, List.getElem?_cons_succ, List.getElem?_cons_zero] at e6
        clear hA
        refine ⟨(by rfl), ?_⟩
        go_simp <;> (try with_reducible rfl)
      refine Rely.Chain.det ?_ (by rfl) (fun T xs wr hA => ?_) ?_
      rotate_left 1
      · have e19 := hA.tm 3 19 (by rfl) (by rfl)
        have f19 : xs 3 = _ := hA.fa 3 (by rfl)
        (try simp (disch := first | rfl | decide) only [Rely.mask_in] at f19)
        rw [f19] at e19
        clear f19
        have e20 := hA.tm 4 20 (by rfl) (by rfl)
        have f20 : xs 4 = _ := hA.fa 4 (by rfl)
        (try simp (disch := first | rfl | decide) only [Rely.mask_in] at f20)
        rw [f20] at e20
        clear f20
        clear hA
        refine ⟨(by rfl), ?_⟩
        go_simp <;> (try with_reducible rfl)
      refine Rely.Chain.det ?_ (by rfl) (fun T xs wr hA => ?_) ?_
      rotate_left 1
      · have e21 := hA.tm 5 21 (by rfl) (by rfl)
        have f21 : xs 5 = _ := hA.fa 5 (by rfl)
        (try simp (disch := first | rfl | decide) only [Rely.mask_in] at f21)
        rw [f21] at e21
        clear f21
        have q : wr.heap[g]? = _ := (hA.bl _ hlt_s (fun q h => absurd h (Nat.not_lt_zero q))).trans HB_s.out
        have qj := Words.at (w := wr) (g := g) (ws := ws) q j hwj
        clear q
        clear hA
        refine ⟨(by rfl), ?_⟩
        go_simp <;> (try with_reducible rfl)
      refine Rely.Chain.done (fun xs w10 hL => ?_)
      obtain ⟨⟨hbe, hbl, hkp0⟩, hf, hp, hn⟩ := hL
      have f0 : xs 0 = _ := hf 0 (by decide)
      (try simp (disch := first | rfl | decide) only [Rely.mask_in] at f0)
      have f1 : xs 1 = _ := hf 1 (by decide)
      (try simp (disch := first | rfl | decide) only [Rely.mask_in] at f1)
      have f2 : xs 2 = _ := hf 2 (by decide)
      (try simp (disch := first | rfl | decide) only [Rely.mask_in] at f2)
      have f3 : xs 3 = _ := hf 3 (by decide)
      (try simp (disch := first | rfl | decide) only [Rely.mask_in] at f3)
      have f4 : xs 4 = _ := hf 4 (by decide)
      (try simp (disch := first | rfl | decide) only [Rely.mask_in] at f4)
      have f5 : xs 5 = _ := hf 5 (by decide)
      (try simp (disch := first | rfl | decide) only [Rely.mask_in] at f5)
      have f6 : xs 6 = _ := hf 6 (by decide)
      (try simp (disch := first | rfl | decide) only [Rely.mask_in] at f6)
      have hbx : Below w9.heap.size w9 w10 := undrew (hbe _ (Nat.le_refl _) (fun q h => absurd h (Nat.not_lt_zero q)))
      clear hbe hbl hkp0 hf hp hn
      replace HB_s := Lib.hid ((hbx.block _ hlt_s).trans HB_s.out)
      clear hlt_s
      replace HB_k := Lib.hid ((hbx.block _ hlt_k).trans HB_k.out)
      clear hlt_k
      refine Rely.rest_list (by decide) (by kernel_rfl) ?_
      have hf6 := f6
      simp only [Rely.fill, List.take_succ_cons, List.take_zero, List.drop_succ_cons, List.drop_zero, List.setIfInBounds_toArray, List.set_cons_zero, List.set_cons_succ, f0, f1, f2, f3, f4, f5, f6]
      have HBX := Lib.hid hbx
      have HFR9 := Lib.hid (fr_below hbx)
      have H10 := Lib.hid (H19.out.below hbx)
      have hs10 : w9.heap.size ≤ w10.heap.size := hbx.size
      clear hbx f0 f1 f2 f3 f4 f5 f6 hf6
      have hpb := phr_bd HKS.out ws HWL.out j (by omega)
      have hwb := word_bd ws HWL.out j hwj
      go_wp2_with fail
      refine (wr_str w0.heap.size b _ ws[j] w10 H10.out (by rw [List.length_append]; omega) (by omega)).mono ?_
      rintro e w11 ⟨⟨v, rfl⟩, hw5, hb5, hfr5⟩
      have HB_k11 := hfr5 k9 _ _ _ HB_k.out (by decide) (by decide)
      have d0 := cell_at (v := .int .i64 Y.k) HB_k11 0 rfl
      have d1 := cell_at (v := .string Y.nm) HB_k11 1 rfl
      have d2 := cell_at (v := .string Y.ot) HB_k11 2 rfl
      have d3 := cell_at (v := .bool Y.b) HB_k11 3 rfl
      have d4 := cell_at (v := .slice Y.ao Y.n Y.c) HB_k11 4 rfl
      have d5 := cell_at (v := .slice Y.ko Y.kn Y.kc) HB_k11 5 rfl
      have d6 := cell_at (v := .int .i64 Y.ln) HB_k11 6 rfl
      have d7 := cell_at (v := .int .i64 Y.cl) HB_k11 7 rfl
      have HB11 : Hid (Below w0.heap.size wL w11) := Lib.hid (((HB9.out.mono (by omega)).trans (HBX.out.mono (by omega))).trans hb5)
      have HF11 : Hid (Fr wL w11) := Lib.hid (((fr_below HB9.out).trans HFR9.out).trans hfr5)
      have HW11 := Lib.hid hw5
      clear hw5 hb5 hfr5 HB_k11
      have hlj : (ws[j] : Bs).length ≤ 40 := hwb
      go_wp2_with fail
      refine (E.out b _ 0 Y ks[j] S w11 HT.out (HKS.out _ (List.getElem_mem hlt)) (by omega) (HB3.out.trans HB11.out) HW11.out (by simp only [List.length_append]; omega)).mono ?_
      rintro e w12 ⟨⟨v2, rfl⟩, hw6, hb6, hfr6⟩
      have HW12 := Lib.hid hw6
      have HB12 := Lib.hid hb6
      have HF12 := Lib.hid hfr6
      clear hw6 hb6 hfr6 d0 d1 d2 d3 d4 d5 d6 d7
      go_wp2_with fail
      go_roundw
      case rel =>
        refine ⟨j + 1, by go_num, by omega, ?_, H2.out.fr (HF11.out.trans HF12.out), (H3.out.trans HB11.out).trans HB12.out, H4.out.trans (HF11.out.trans HF12.out)⟩
        have hkj : j < (k0 ks).length := by rw [k0_len]; exact hlt
        rw [phr_take ws (k0 ks) j hwj hkj, k0_get ks j hlt]
        have := HW12.out
        simp only [List.append_assoc] at this ⊢
        exact this
      case measure => simp [intOf]; omega
    · have e : j = ks.length := by omega
      subst e
      go_wp2_with fail
      go_end0
      refine ⟨⟨_, rfl⟩, ?_, H3.out, H4.out⟩
      have := H1.out
      rw [List.take_of_length_le (by have := HWS.out; omega), List.take_of_length_le (by rw [k0_len]; omega)] at this
      exact this

set_option maxHeartbeats 8000000 in
theorem call_any (w0 : World) (d : Nat) (E : Hid (ExprAt w0 d)) (b : Nat) (l : Bs) (k : Nat) (nm ot : Bs) (z : Nat) (ks : List T) (x : X) (S : Nat → Prop) (w : World) (h : Tr w0 S (d + 1) x (.node k nm ot z ks)) (ho : Ok (d + 1) (.node k nm ot z ks))
    (hbw : Below w0.heap.size w0 w) (hwr : Wr w0.heap.size b l w) (hlen : l.length + LL (d + 1) ≤ 1000000) :
    Calls Tryd.prog 40 #[.pointer (some ⟨b, 0, none⟩), xv x] w (WrPost w0.heap.size b (l ++ (nm ++ [40] ++ com (k0 ks) ++ [41])) w) := by
  obtain ⟨hk, hn, hoo, hz, ha, hl, hks⟩ := ho
  obtain ⟨⟨e1, e2, e3, e4⟩, ⟨h2, h3⟩, ⟨h4, h5, h6⟩, h7⟩ := h
  obtain ⟨xk, xnm, xot, xb, xao, xn, xq, xko, xkn, xkc, xln, xcl⟩ := x
  simp only at e1 e2 e3 e4 h2 h3 h4 h5 h6 h7
  subst e1 e2 e3 e4 h4
  have HK := Lib.hid h7
  have HKS := Lib.hid hks
  have HS := Lib.hid h2
  have HBW := Lib.hid hbw
  have HWR := Lib.hid hwr
  have hsB := hbw.size
  have hLS := LL_succ d
  clear h2 h3 h6 h7 hks hbw hwr
  simp only [xv]
  obtain ⟨k3, hk3⟩ : ∃ k3, k3 = w.heap.size := ⟨_, rfl⟩
  obtain ⟨w9, hw9⟩ : ∃ w9, w9 = w.alloc (.cells #[.int .i64 (k : Nat), .string ⟨nm.toArray⟩, .string ⟨ot.toArray⟩, .bool false, .slice xao xn xq, .slice xko ks.length xkc, .int .i64 xln, .int .i64 xcl] 29) := ⟨_, rfl⟩
  have hba : Below w.heap.size w w9 := by rw [hw9]; exact (Below.refl _ _).alloc (Nat.le_refl _) _
  have HB_x : Hid (w9.heap[k3]? = some (.cells #[.int .i64 (k : Nat), .string ⟨nm.toArray⟩, .string ⟨ot.toArray⟩, .bool false, .slice xao xn xq, .slice xko ks.length xkc, .int .i64 xln, .int .i64 xcl] 29 (0, 0))) := Lib.hid (by rw [hw9, hk3]; exact made_at w _ _ rfl)
  have HW9 := Lib.hid (HWR.out.below hba)
  have HB9 := Lib.hid hba
  have hs9 := hba.size
  have HK3 := Lib.hid hk3
  have HWE := Lib.hid hw9
  clear hba
  go_enter Tryd.func40, Tryd.ntmps40
  go_wp2_with fail
  rw [← hw9, ← hk3]
  clear hw9 hk3
  have hlt_x := lt_of_block HB_x.out
  refine Rely.region (by kernel_rfl) [[], [0], [0, 1], [], [3], [0, 1, 2, 3, 4]] [] [] (fun _ => 0) 0 5 (by kernel_rfl) (by kernel_rfl) (fun q h => absurd h (Nat.not_lt_zero q)) (fun q _ h => absurd h (Nat.not_lt_zero q)) ?_
  refine Rely.Chain.det ?_ (by rfl) (fun T xs wr hA => ?_) ?_
  rotate_left 1
  · have e0 := hA.pre 0 (by kernel_rfl)
    simp only [List.getElem?_toArray, List.getElem?_cons_zero] at e0
    clear hA
    refine ⟨(by rfl), ?_⟩
    go_simp <;> (try with_reducible rfl)
  refine Rely.Chain.det ?_ (by rfl) (fun T xs wr hA => ?_) ?_
  rotate_left 1
  · have e6 := hA.tm 0 6 (by rfl) (by rfl)
    have f6 : xs 0 = _ := hA.fa 0 (by rfl)
    (try simp (disch := first | rfl | decide) only [Rely.mask_in] at f6)
    rw [f6] at e6
    clear f6
    clear hA
    refine ⟨(by rfl), ?_⟩
    go_simp <;> (try with_reducible rfl)
  refine Rely.Chain.det ?_ (by rfl) (fun T xs wr hA => ?_) ?_
  rotate_left 1
  · have e7 := hA.tm 1 7 (by rfl) (by rfl)
    have f7 : xs 1 = _ := hA.fa 1 (by rfl)
    (try simp (disch := first | rfl | decide) only [Rely.mask_in] at f7)
    rw [f7] at e7
    clear f7
    clear hA
    refine ⟨(by rfl), ?_⟩
    go_simp <;> (try with_reducible rfl)
  refine Rely.Chain.det ?_ (by rfl) (fun T xs wr hA => ?_) ?_
  rotate_left 1
  · have e3 := hA.pre 3 (by kernel_rfl)
    simp only [List.getElem?_toArray, List.getElem?_cons_succ, List.getElem?_cons_zero] at e3
    clear hA
    refine ⟨(by rfl), ?_⟩
    go_simp <;> (try with_reducible rfl)
  refine Rely.Chain.det ?_ (by rfl) (fun T xs wr hA => ?_) ?_
  rotate_left 1
  · have e9 := hA.tm 3 9 (by rfl) (by rfl)
    have f9 : xs 3 = _ := hA.fa 3 (by rfl)
    (try simp (disch := first | rfl | decide) only [Rely.mask_in] at f9)
    rw [f9] at e9
    clear f9
    have hBq : wr.heap[k3]? = _ := (hA.bl _ hlt_x (fun q h => absurd h (Nat.not_lt_zero q))).trans HB_x.out
    have q0 := cell_at (v := .int .i64 (k : Nat)) hBq 0 rfl
    have q1 := cell_at (v := .string ⟨nm.toArray⟩) hBq 1 rfl
    have q2 := cell_at (v := .string ⟨ot.toArray⟩) hBq 2 rfl
    have q3 := cell_at (v := .bool false) hBq 3 rfl
    have q4 := cell_at (v := .slice xao xn xq) hBq 4 rfl
    have q5 := cell_at (v := .slice xko ks.length xkc) hBq 5 rfl
    have q6 := cell_at (v := .int .i64 xln) hBq 6 rfl
    have q7 := cell_at (v := .int .i64 xcl) hBq 7 rfl
    clear hBq
    clear hA
    refine ⟨(by rfl), ?_⟩
    go_simp <;> (try with_reducible rfl)
  refine Rely.Chain.done (fun xs w10 hL => ?_)
  obtain ⟨⟨hbe, hbl, hkp0⟩, hf, hp, hn⟩ := hL
  have f0 : xs 0 = _ := hf 0 (by decide)
  (try simp (disch := first | rfl | decide) only [Rely.mask_in] at f0)
  have f1 : xs 1 = _ := hf 1 (by decide)
  (try simp (disch := first | rfl | decide) only [Rely.mask_in] at f1)
  have f2 : xs 2 = _ := hf 2 (by decide)
  (try simp (disch := first | rfl | decide) only [Rely.mask_in] at f2)
  have f3 : xs 3 = _ := hf 3 (by decide)
  (try simp (disch := first | rfl | decide) only [Rely.mask_in] at f3)
  have f4 : xs 4 = _ := hf 4 (by decide)
  (try simp (disch := first | rfl | decide) only [Rely.mask_in] at f4)
  have hbx : Below w9.heap.size w9 w10 := undrew (hbe _ (Nat.le_refl _) (fun q h => absurd h (Nat.not_lt_zero q)))
  clear hbe hbl hkp0 hf hp hn
  replace HB_x := Lib.hid ((hbx.block _ hlt_x).trans HB_x.out)
  clear hlt_x
  refine Rely.rest_list (by decide) (by kernel_rfl) ?_
  simp only [Rely.fill, List.take_succ_cons, List.take_zero, List.drop_succ_cons, List.drop_zero, List.setIfInBounds_toArray, List.set_cons_zero, List.set_cons_succ, f0, f1, f2, f3, f4]
  have HBX := Lib.hid hbx
  have hs10 := hbx.size
  have H10 := Lib.hid (HW9.out.below hbx)
  clear hbx f0 f1 f2 f3 f4
  go_wp2_with fail
  refine (wr_str w0.heap.size b l nm w10 H10.out (by omega) (by omega)).mono ?_
  rintro e w11 ⟨⟨v, rfl⟩, hw5, hb5, hfr5⟩
  have hs11 := hb5.size
  have HX11 := Lib.hid (hfr5 k3 _ _ _ HB_x.out (by decide) (by decide))
  have H11 := Lib.hid hw5
  have HB11 := Lib.hid hb5
  have HF11 := Lib.hid hfr5
  clear hw5 hb5 hfr5
  go_wp2_with fail
  refine (wr_byte w0.heap.size b _ 40 _ rfl w11 H11.out (by rw [List.length_append]; omega) (by omega)).mono ?_
  rintro e w12 ⟨⟨v2, rfl⟩, hw6, hb6, hfr6⟩
  have hs12 := hb6.size
  have hx12 := hfr6 k3 _ _ _ HX11.out (by decide) (by decide)
  have b5 := cell_at (v := .slice xko ks.length xkc) hx12 5 rfl
  have HX12 := Lib.hid hx12
  have H12 : Hid (Wr w0.heap.size b (l ++ nm ++ [40] ++ com ((k0 ks).take 0)) w12) := Lib.hid (by simp only [List.take_zero, com, List.append_nil]; exact hw6)
  have HB12 : Hid (Below w0.heap.size w w12) := Lib.hid ((((HB9.out.mono hsB).trans (HBX.out.mono (by omega))).trans HB11.out).trans hb6)
  have HF12 : Hid (Fr w w12) := Lib.hid ((((fr_below HB9.out).trans (fr_below HBX.out)).trans HF11.out).trans hfr6)
  clear hw6 hb6 hfr6 hx12
  go_wp2_with fail
  go_loopw [19] (fun i wr => ∃ j : Nat, i = .int .i64 (j : Nat) ∧ j ≤ ks.length ∧ Wr w0.heap.size b (l ++ nm ++ [40] ++ com ((k0 ks).take j)) wr ∧ Below w0.heap.size w wr ∧ Fr w wr) (fun i _ => ks.length - (intOf i).toNat)
  case atStart => exact ⟨0, rfl, Nat.zero_le _, H12.out, HB12.out, HF12.out⟩
  case round =>
    clear b5
    obtain ⟨j, rfl, hj, hw1, hw3, hw4⟩ := hrel
    have H1 := Lib.hid hw1
    have H3 := Lib.hid hw3
    have H4 := Lib.hid hw4
    have hs3 := hw3.size
    clear hw1 hw3 hw4
    have hcb := com_bd HKS.out j (by omega)
    by_cases hlt : j < ks.length
    · obtain ⟨wL, hwL⟩ : ∃ wL, wL = wr := ⟨_, rfl⟩
      subst hwL
      have hb3 : Below w0.heap.size w0 wL := HBW.out.trans H3.out
      obtain ⟨Y, hA, hT⟩ := HK.out j hlt
      obtain ⟨a, rfl, hc⟩ := hA.keep fun a ha => hb3.block _ (hA.lt a ha)
      obtain ⟨c0, c1, c2, c3, c4, c5, c6, c7⟩ := cells8 hc
      have HT := Lib.hid hT
      have HB3 := Lib.hid hb3
      have hsB3 := hb3.size
      clear hc hA hT hb3
      have hba : Below wL.heap.size wL (wL.alloc (.cells #[.int .i64 Y.k, .string Y.nm, .string Y.ot, .bool Y.b, .slice Y.ao Y.n Y.c, .slice Y.ko Y.kn Y.kc, .int .i64 Y.ln, .int .i64 Y.cl] 29)) := (Below.refl _ _).alloc (Nat.le_refl _) _
      have HBA := Lib.hid hba
      have HWA := Lib.hid (H1.out.below hba)
      have HKA := Lib.hid (made_at wL (.cells #[.int .i64 Y.k, .string Y.nm, .string Y.ot, .bool Y.b, .slice Y.ao Y.n Y.c, .slice Y.ko Y.kn Y.kc, .int .i64 Y.ln, .int .i64 Y.cl] 29) _ rfl)
      have hsA := hba.size
      clear hba
      have hj2 : j * LL d ≤ 2 * LL d := Nat.mul_le_mul_right _ (by omega)
      by_cases hj0 : j = 0
      · have hgt : decide ((0 : Int) < (j : Int)) = false := by rw [decide_eq_false_iff_not]; omega
        have HJ0 := Lib.hid hj0
        have hgt2 : decide (0 < j) = false := by rw [decide_eq_false_iff_not]; omega
        clear hj0
        go_wp2_with fail
        refine (E.out b _ 0 Y ks[j] S _ HT.out (HKS.out _ (List.getElem_mem hlt)) (by omega) (HB3.out.trans (HBA.out.mono hsB3)) HWA.out (by simp only [List.length_append, List.length_cons, List.length_nil]; omega)).mono ?_
        rintro e w15 ⟨⟨v3, rfl⟩, hw7, hb7, hfr7⟩
        have H15 := Lib.hid hw7
        have HB15 := Lib.hid hb7
        have HF15 := Lib.hid hfr7
        clear hw7 hb7 hfr7 c0 c1 c2 c3 c4 c5 c6 c7
        go_wp2_with fail
        go_roundw
        case rel =>
          refine ⟨j + 1, by go_num, by omega, ?_, (H3.out.trans (HBA.out.mono hsB3)).trans HB15.out, (H4.out.trans (fr_below HBA.out)).trans HF15.out⟩
          have hkj : j < (k0 ks).length := by rw [k0_len]; exact hlt
          rw [com_take (k0 ks) j hkj, k0_get ks j hlt, if_pos HJ0.out]
          have := H15.out
          simp only [List.append_assoc, List.nil_append] at this ⊢
          exact this
        case measure => simp [intOf]; omega
      · have hgt : decide ((0 : Int) < (j : Int)) = true := by rw [decide_eq_true_iff]; omega
        go_wp2_with fail
        refine (wr_str w0.heap.size b _ [44, 32] _ HWA.out (by simp only [List.length_append, List.length_cons, List.length_nil]; omega) (by omega)).mono ?_
        rintro e w14 ⟨⟨v4, rfl⟩, hw8, hb8, hfr8⟩
        have hk14 := hfr8 _ _ _ _ HKA.out (by decide) (by decide)
        have d0 := cell_at (v := .int .i64 Y.k) hk14 0 rfl
        have d1 := cell_at (v := .string Y.nm) hk14 1 rfl
        have d2 := cell_at (v := .string Y.ot) hk14 2 rfl
        have d3 := cell_at (v := .bool Y.b) hk14 3 rfl
        have d4 := cell_at (v := .slice Y.ao Y.n Y.c) hk14 4 rfl
        have d5 := cell_at (v := .slice Y.ko Y.kn Y.kc) hk14 5 rfl
        have d6 := cell_at (v := .int .i64 Y.ln) hk14 6 rfl
        have d7 := cell_at (v := .int .i64 Y.cl) hk14 7 rfl
        have H14 := Lib.hid hw8
        have HB14 := Lib.hid hb8
        have HF14 := Lib.hid hfr8
        clear hw8 hb8 hfr8 hk14
        go_wp2_with fail
        refine (E.out b _ 0 Y ks[j] S w14 HT.out (HKS.out _ (List.getElem_mem hlt)) (by omega) ((HB3.out.trans (HBA.out.mono hsB3)).trans HB14.out) H14.out (by simp only [List.length_append, List.length_cons, List.length_nil]; omega)).mono ?_
        rintro e w15 ⟨⟨v3, rfl⟩, hw7, hb7, hfr7⟩
        have H15 := Lib.hid hw7
        have HB15 := Lib.hid hb7
        have HF15 := Lib.hid hfr7
        clear hw7 hb7 hfr7 c0 c1 c2 c3 c4 c5 c6 c7 d0 d1 d2 d3 d4 d5 d6 d7
        go_wp2_with fail
        go_roundw
        case rel =>
          refine ⟨j + 1, by go_num, by omega, ?_, ((H3.out.trans (HBA.out.mono hsB3)).trans HB14.out).trans HB15.out, ((H4.out.trans (fr_below HBA.out)).trans HF14.out).trans HF15.out⟩
          have hkj : j < (k0 ks).length := by rw [k0_len]; exact hlt
          rw [com_take (k0 ks) j hkj, k0_get ks j hlt, if_neg hj0]
          have := H15.out
          simp only [List.append_assoc] at this ⊢
          exact this
        case measure => simp [intOf]; omega
    · have e : j = ks.length := by omega
      subst e
      have hs5 := H3.out.size
      have hj3 : ks.length * LL d ≤ 3 * LL d := Nat.mul_le_mul_right _ hl
      go_wp2_with fail
      refine (wr_byte w0.heap.size b _ 41 _ rfl wr H1.out (by simp only [List.length_append, List.length_cons, List.length_nil]; omega) (by omega)).mono ?_
      rintro e w16 ⟨⟨v2, rfl⟩, hw6, hb6, hfr6⟩
      have H16 := Lib.hid hw6
      have HB16 := Lib.hid hb6
      have HF16 := Lib.hid hfr6
      clear hw6 hb6 hfr6
      go_wp2_with fail
      go_end0
      refine ⟨⟨_, rfl⟩, ?_, H3.out.trans HB16.out, H4.out.trans HF16.out⟩
      have := H16.out
      rw [List.take_of_length_le (by rw [k0_len]; omega)] at this
      simp only [List.append_assoc] at this ⊢
      exact this

end Go.Proofs.YtcdacmbcecjliaaDoor
