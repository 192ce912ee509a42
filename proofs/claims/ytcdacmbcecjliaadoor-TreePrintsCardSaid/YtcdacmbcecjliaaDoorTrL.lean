/-
  The contract of Print.
-/
import Derived.Test.YtcdacmbcecjliaaDoorTrJ
import Derived.Deep.MidRow
import Derived.Deep.WholeRow
namespace Go.Proofs.YtcdacmbcecjliaaDoor
open Go.RowKit
set_option linter.unusedVariables false
set_option maxRecDepth 100000

/-- Element i of the structs of n cells at ko holds these cells. -/
def AtC (n : Nat) (w : World) (ko : Option Addr) (i : Nat) (cs : List Value) : Prop := ∃ a, ko = some a ∧ ∀ j v, cs[j]? = some v → w.cell? ((a.add (i * n)).add j) = some v
theorem AtC.keep {n : Nat} {w w' : World} {ko : Option Addr} {i : Nat} {cs : List Value} (h : AtC n w ko i cs) (hk : ∀ a, ko = some a → w'.heap[a.block]? = w.heap[a.block]?) : AtC n w' ko i cs := by
  obtain ⟨a, rfl, h⟩ := h
  refine ⟨a, rfl, fun j v hv => ?_⟩
  rw [cell_keep (w := w) (by rw [add_block, add_block]; exact hk a rfl)]; exact h j v hv
theorem AtC.lt {n : Nat} {w : World} {ko : Option Addr} {i : Nat} {c : Value} {cs : List Value} (h : AtC n w ko i (c :: cs)) : ∀ a, ko = some a → a.block < w.heap.size := by
  obtain ⟨a, rfl, h⟩ := h
  rintro _ ⟨⟩
  have := cell_lt (h 0 _ rfl)
  rwa [add_block, add_block] at this
theorem AtC.below {n : Nat} {w w' : World} {ko : Option Addr} {i : Nat} {c : Value} {cs : List Value} (h : AtC n w ko i (c :: cs)) (hb : Below w.heap.size w w') : AtC n w' ko i (c :: cs) := h.keep fun a ha => hb.block _ (h.lt a ha)

/-- A qualifier; a function. -/
structure Qd where
  nm : Bs
  ko : Option Addr
  kc : Nat
  ps : List (Pm × Bs × Bs)
  r : X
  t : T
structure Fd where
  nm : Bs
  ko : Option Addr
  kc : Nat
  ps : List (Pm × Bs × Bs)
  rs : Pm
  rq : Bs
  bt : Bs
  r : X
  t : T
def qc (q : Qd) : List Value := [.string ⟨q.nm.toArray⟩, .slice q.ko q.ps.length q.kc, .int .i64 q.r.k, .string q.r.nm, .string q.r.ot, .bool q.r.b, .slice q.r.ao q.r.n q.r.c, .slice q.r.ko q.r.kn q.r.kc, .int .i64 q.r.ln, .int .i64 q.r.cl, .int .i64 0, .int .i64 0]
def fc (q : Fd) : List Value := [.string ⟨q.nm.toArray⟩, .slice q.ko q.ps.length q.kc, .string q.rs.nm, .int .i64 q.rs.bs, .bool q.rs.kn, .int .i64 q.rs.rf.k, .string q.rs.rf.nm, .string q.rs.rf.ot, .bool q.rs.rf.b, .slice q.rs.rf.ao q.rs.rf.n q.rs.rf.c, .slice q.rs.rf.ko q.rs.rf.kn q.rs.rf.kc, .int .i64 q.rs.rf.ln, .int .i64 q.rs.rf.cl, .int .i64 q.rs.ln, .int .i64 q.rs.cl, .int .i64 q.r.k, .string q.r.nm, .string q.r.ot, .bool q.r.b, .slice q.r.ao q.r.n q.r.c, .slice q.r.ko q.r.kn q.r.kc, .int .i64 q.r.ln, .int .i64 q.r.cl, .int .i64 0, .int .i64 0]
def qT (q : Qd) : Bs := [113, 117, 97, 108, 105, 102, 32] ++ hdT q.nm q.ps ++ tx q.t ++ [10]
def fT (q : Fd) : Bs := [102, 117, 110, 32] ++ hdT q.nm q.ps ++ q.bt ++ [32, 61, 32] ++ tx q.t ++ [10]
def QOk (w : World) (q : Qd) : Prop := q.nm.length ≤ 5 ∧ q.ps.length ≤ 3 ∧ PsAt w q.ko q.ps ∧ Tr w (fun _ => True) 4 q.r q.t ∧ Ok 4 q.t
def FOk (w : World) (q : Fd) : Prop := q.nm.length ≤ 5 ∧ q.ps.length ≤ 3 ∧ PsAt w q.ko q.ps ∧ PmOk w q.rs q.rq q.bt ∧ Tr w (fun _ => True) 4 q.r q.t ∧ Ok 4 q.t
theorem QOk.below {w w' : World} {q : Qd} (h : QOk w q) (hb : Below w.heap.size w w') : QOk w' q := ⟨h.1, h.2.1, h.2.2.1.below hb, h.2.2.2.1.below hb, h.2.2.2.2⟩
theorem FOk.below {w w' : World} {q : Fd} (h : FOk w q) (hb : Below w.heap.size w w') : FOk w' q := ⟨h.1, h.2.1, h.2.2.1.below hb, h.2.2.2.1.below hb, h.2.2.2.2.1.below hb, h.2.2.2.2.2⟩
theorem qT_len {w : World} {q : Qd} (h : QOk w q) : (qT q).length ≤ 162000 := by
  have h1 := hdT_len h.2.2.1 h.2.1 h.1
  have h2 := (len_all 4 q.t h.2.2.2.2).1
  have hLL : LL 4 = 30720 := rfl
  simp only [qT, List.length_append, List.length_cons, List.length_nil]; omega
theorem fT_len {w : World} {q : Fd} (h : FOk w q) : (fT q).length ≤ 162000 := by
  have h1 := hdT_len h.2.2.1 h.2.1 h.1
  have h2 := (len_all 4 q.t h.2.2.2.2.2).1
  have h3 := h.2.2.2.1.len
  have hLL : LL 4 = 30720 := rfl
  simp only [fT, List.length_append, List.length_cons, List.length_nil]; omega
theorem run_loadAt_any {P : Program} (w : World) (p : Addr) (ty : TypeId) (cs : List Value) (d : TypeDesc) (hc : ∀ j v, cs[j]? = some v → w.cell? (p.add j) = some v)
    (hu : P.underlying ty = some d) (hd : d.isRow = true) (hi : (P.info? ty).map (·.size) = some cs.length) :
    (Instr.loadAt ty (.pointer (some p))).run P w = .ok (.agg cs.toArray) w := by
  have hl := run_loadCells_list (P := P) w p cs hc
  cases hq : P.info? ty with
  | none => simp [hq] at hi
  | some i =>
    have hs : i.size = cs.length := by simpa [hq] using hi
    have hagg : (isAgg ty).run P w = .ok true w := by
      unfold isAgg
      rw [Sem.run_bind, run_underlying hu w]
      cases d <;> simp_all
    simp [Instr.loadAt, Instr.sureAddr, loadVar, Sem.run_bind, hagg, sizeOf, typeInfo, hq, hs, hl]
theorem wp_load_any {P : Program} {op : Oper} {a : Act} {w : World} {K : Act → World → Prop} {Q : Exit → Act → World → Prop} (ty : TypeId) (x : Operand) (ho : op.op = .load ty x)
    (p : Addr) (hx : a.eval x = .pointer (some p)) (cs : List Value) (d : TypeDesc) (hc : ∀ j v, cs[j]? = some v → w.cell? (p.add j) = some v)
    (hu : P.underlying ty = some d) (hd : d.isRow = true) (hi : (P.info? ty).map (·.size) = some cs.length)
    (h : K (a.put op.dst (.agg cs.toArray)) w) : op.wp P a w K Q := by
  unfold Oper.wp execOp
  simp only [ho, hx, Sem.run_bind, Sem.run_pure, Result.andThen_ok, run_loadAt_any w p ty cs d hc hu hd hi]
  exact h
theorem flat_take {α : Type} (f : α → Bs) (qs : List α) (j : Nat) (h : j < qs.length) : (qs.take (j + 1)).flatMap f = (qs.take j).flatMap f ++ f qs[j] := by
  rw [List.take_succ_eq_append_getElem h, List.flatMap_append]; simp
theorem flat_bd {α : Type} (f : α → Bs) (B : Nat) (qs : List α) (h : ∀ q ∈ qs, (f q).length ≤ B) (hl : qs.length ≤ 1) : (qs.flatMap f).length ≤ B := by
  match qs, hl with
  | [], _ => simp
  | [q], _ => simpa using h q (by simp)
/-- Qualifiers and functions in memory. -/
def QsAt (w : World) (ko : Option Addr) (qs : List Qd) : Prop := ∀ i (h : i < qs.length), AtC 12 w ko i (qc qs[i]) ∧ QOk w qs[i]
def FsAt (w : World) (ko : Option Addr) (qs : List Fd) : Prop := ∀ i (h : i < qs.length), AtC 25 w ko i (fc qs[i]) ∧ FOk w qs[i]
theorem QsAt.bd {w : World} {ko : Option Addr} {qs : List Qd} (h : QsAt w ko qs) (hl : qs.length ≤ 1) (j : Nat) : ((qs.take j).flatMap qT).length ≤ 162000 := by
  refine flat_bd qT 162000 (qs.take j) (fun q hq => ?_) (by simp; omega)
  obtain ⟨i, hi, rfl⟩ := List.getElem_of_mem (List.mem_of_mem_take hq)
  exact qT_len (h i hi).2
theorem FsAt.bd {w : World} {ko : Option Addr} {qs : List Fd} (h : FsAt w ko qs) (hl : qs.length ≤ 2) (j : Nat) (hj : j < qs.length) : ((qs.take j).flatMap fT).length ≤ 162000 := by
  refine flat_bd fT 162000 (qs.take j) (fun q hq => ?_) (by simp; omega)
  obtain ⟨i, hi, rfl⟩ := List.getElem_of_mem (List.mem_of_mem_take hq)
  exact fT_len (h i hi).2
theorem cells12 {w : World} {p : Addr} {q : Qd} (h : ∀ j v, (qc q)[j]? = some v → w.cell? (p.add j) = some v) : w.cell? p = some (.string ⟨q.nm.toArray⟩) ∧ w.cell? ⟨p.block, p.off + 1, none⟩ = some (.slice q.ko q.ps.length q.kc) ∧ w.cell? ⟨p.block, p.off + 2, none⟩ = some (.int .i64 q.r.k) ∧ w.cell? ⟨p.block, p.off + 3, none⟩ = some (.string q.r.nm) ∧ w.cell? ⟨p.block, p.off + 4, none⟩ = some (.string q.r.ot) ∧ w.cell? ⟨p.block, p.off + 5, none⟩ = some (.bool q.r.b) ∧ w.cell? ⟨p.block, p.off + 6, none⟩ = some (.slice q.r.ao q.r.n q.r.c) ∧ w.cell? ⟨p.block, p.off + 7, none⟩ = some (.slice q.r.ko q.r.kn q.r.kc) ∧ w.cell? ⟨p.block, p.off + 8, none⟩ = some (.int .i64 q.r.ln) ∧ w.cell? ⟨p.block, p.off + 9, none⟩ = some (.int .i64 q.r.cl) ∧ w.cell? ⟨p.block, p.off + 10, none⟩ = some (.int .i64 0) ∧ w.cell? ⟨p.block, p.off + 11, none⟩ = some (.int .i64 0) :=
  ⟨h 0 _ rfl, h 1 _ rfl, h 2 _ rfl, h 3 _ rfl, h 4 _ rfl, h 5 _ rfl, h 6 _ rfl, h 7 _ rfl, h 8 _ rfl, h 9 _ rfl, h 10 _ rfl, h 11 _ rfl⟩

set_option maxHeartbeats 8000000 in
theorem print_any (qs : List Qd) (fs : List Fd) (qo fo : Option Addr) (qcap fcap : Nat) (w : World) (ht : Tabs w) (hq : QsAt w qo qs) (hf : FsAt w fo fs) (hq1 : qs.length ≤ 1) (hf1 : fs.length ≤ 2) (hne : qs.flatMap qT ++ fs.flatMap fT ≠ []) :
    Calls Tryd.prog 17 #[.agg #[.slice qo qs.length qcap, .slice fo fs.length fcap]] w fun e w' => e = .returned (.string ⟨(qs.flatMap qT ++ fs.flatMap fT).toArray⟩) ∧ Below w.heap.size w w' := by
  have HT := Lib.hid ht
  have HQS := Lib.hid hq
  have HFS := Lib.hid hf
  have HNE := Lib.hid hne
  have HQB := Lib.hid (fun j => hq.bd hq1 j)
  have HFB := Lib.hid (fun j hj => hf.bd hf1 j hj)
  obtain ⟨w9, hw9⟩ : ∃ w9, w9 = w.alloc (.cells #[.slice qo qs.length qcap, .slice fo fs.length fcap] 51) := ⟨_, rfl⟩
  obtain ⟨wA, hwA⟩ : ∃ wA, wA = w9.alloc (.cells #[.pointer none, .slice none 0 0] 64) := ⟨_, rfl⟩
  obtain ⟨k3, hk3⟩ : ∃ k3, k3 = w.heap.size := ⟨_, rfl⟩
  obtain ⟨k4, hk4⟩ : ∃ k4, k4 = w.heap.size + 1 := ⟨_, rfl⟩
  have hba : Below w.heap.size w w9 := by rw [hw9]; exact (Below.refl _ _).alloc (Nat.le_refl _) _
  have hs9 : w9.heap.size = w.heap.size + 1 := by rw [hw9]; simp
  have hbA : Below w.heap.size w wA := by rw [hwA]; exact hba.alloc (by omega) _
  have hx9 : wA.heap[k3]? = some (.cells #[.slice qo qs.length qcap, .slice fo fs.length fcap] 51 (0, 0)) := by rw [hwA, hw9, hk3]; exact made_more (made_at w _ _ rfl) _
  have HWr : Hid (Wr w.heap.size k4 [] wA) := Lib.hid (by
    have := Wr.fresh w9
    rw [← hwA] at this
    rw [hk4, ← hs9]; exact this.lower (by omega))
  have HXA := Lib.hid hx9
  have HBA0 := Lib.hid hbA
  have x0 := cell_at (v := .slice qo qs.length qcap) hx9 0 rfl
  clear hba hs9 hbA hx9 ht hq hf hne
  subst hw9
  go_enter Tryd.func17, Tryd.ntmps17
  go_upto_region 2 with fail
  rw [← hwA, ← hk4, ← hk3]
  clear hwA hk3 hk4
  go_wp2_with fail
  go_loopw [5, 11] (fun _ i wr => ∃ j : Nat, i = .int .i64 (j : Nat) ∧ j ≤ qs.length ∧ Wr w.heap.size k4 ((qs.take j).flatMap qT) wr ∧ Below w.heap.size w wr ∧ Fr wA wr) (fun _ i _ => qs.length - (intOf i).toNat)
  case atStart => exact ⟨0, rfl, Nat.zero_le _, HWr.out, HBA0.out, Fr.refl _⟩
  case round =>
    obtain ⟨j, rfl, hj, hw1, hw3, hw4⟩ := hrel
    have H1 := Lib.hid hw1
    have H3 := Lib.hid hw3
    have H4 := Lib.hid hw4
    have hs3 := hw3.size
    clear hw1 hw3 hw4
    by_cases hlt : j < qs.length
    · obtain ⟨wL, hwL⟩ : ∃ wL, wL = wr := ⟨_, rfl⟩
      subst hwL
      obtain ⟨hA, hO⟩ := HQS.out j hlt
      have hbd := HQB.out j
      obtain ⟨q, hq⟩ : ∃ q, q = qs[j] := ⟨_, rfl⟩
      rw [← hq] at hA hO
      have HQ := Lib.hid hq
      clear hq
      obtain ⟨a, rfl, hc⟩ := hA.keep fun a ha => H3.out.block _ (hA.lt a ha)
      obtain ⟨c0, c1, c2, c3, c4, c5, c6, c7, c8, c9, c10, c11⟩ := cells12 hc
      have HOK := Lib.hid hO
      clear hc hA hO
      have hba : Below wL.heap.size wL (wL.alloc (.cells #[.string ⟨q.nm.toArray⟩, .slice q.ko q.ps.length q.kc, .int .i64 q.r.k, .string q.r.nm, .string q.r.ot, .bool q.r.b, .slice q.r.ao q.r.n q.r.c, .slice q.r.ko q.r.kn q.r.kc, .int .i64 q.r.ln, .int .i64 q.r.cl, .int .i64 0, .int .i64 0] 45)) := (Below.refl _ _).alloc (Nat.le_refl _) _
      have HWA := Lib.hid (H1.out.below hba)
      have HBA := Lib.hid (H3.out.trans (hba.mono hs3))
      have HFA := Lib.hid (H4.out.trans (fr_below hba))
      clear hba
      go_wp2_with fail
      refine (qual_any w HT.out q.nm HOK.out.1 q.ps HOK.out.2.1 q.ko q.kc HOK.out.2.2.1 q.r q.t HOK.out.2.2.2.1 HOK.out.2.2.2.2 k4 _ _ HBA.out HWA.out (by omega)).mono ?_
      rintro e w15 ⟨⟨v3, rfl⟩, hw7, hb7, hfr7⟩
      have H15 := Lib.hid hw7
      have HB15 := Lib.hid (HBA.out.trans hb7)
      have HF15 := Lib.hid (HFA.out.trans hfr7)
      clear hw7 hb7 hfr7 c0 c1 c2 c3 c4 c5 c6 c7 c8 c9 c10 c11
      go_wp2_with fail
      go_roundw
      case rel =>
        refine ⟨j + 1, by go_num, by omega, ?_, HB15.out, HF15.out⟩
        rw [flat_take qT qs j hlt, ← HQ.out]
        have := H15.out
        simp only [qT, List.append_assoc] at this ⊢
        exact this
      case measure => simp [intOf]; omega
    · have e : j = qs.length := by omega
      subst e
      rw [List.take_length] at H1
      have hbq := HQB.out qs.length
      rw [List.take_length] at hbq
      have hxr := H4.out k3 _ _ _ HXA.out (by decide) (by decide)
      have y1 := cell_at (v := .slice fo fs.length fcap) hxr 1 rfl
      clear x0 hxr
      go_wp2_with fail
      go_loopw [7, 21] (fun _ i wr => ∃ j : Nat, i = .int .i64 (j : Nat) ∧ j ≤ fs.length ∧ Wr w.heap.size k4 (qs.flatMap qT ++ (fs.take j).flatMap fT) wr ∧ Below w.heap.size w wr ∧ Fr wA wr) (fun _ i _ => fs.length - (intOf i).toNat)
      case atStart => exact ⟨0, rfl, Nat.zero_le _, by rw [List.take_zero, List.flatMap_nil, List.append_nil]; exact H1.out, H3.out, H4.out⟩
      case round =>
        obtain ⟨j, rfl, hj, hw1, hw3, hw4⟩ := hrel
        have G1 := Lib.hid hw1
        have G3 := Lib.hid hw3
        have G4 := Lib.hid hw4
        have gs3 := hw3.size
        clear hw1 hw3 hw4
        by_cases hlt : j < fs.length
        · obtain ⟨wM, hwM⟩ : ∃ wM, wM = wr := ⟨_, rfl⟩
          subst hwM
          obtain ⟨hA, hO⟩ := HFS.out j hlt
          have hbd := HFB.out j hlt
          obtain ⟨q, hq⟩ : ∃ q, q = fs[j] := ⟨_, rfl⟩
          rw [← hq] at hA hO
          have HQ := Lib.hid hq
          clear hq
          obtain ⟨a, rfl, hc⟩ := hA.keep fun a ha => G3.out.block _ (hA.lt a ha)
          have HC := Lib.hid hc
          have HOK := Lib.hid hO
          clear hc hA hO
          go_upto_region 9 with fail
          refine wp_region_lit ?_
          refine wpList_plain rfl fun K0 hK0 => ?_
          go_simp
          refine hK0 _ _ ?_
          clear hK0
          refine wpList_plain rfl fun K0 hK0 => ?_
          refine wp_load_any 48 (.tmp 23) rfl _ rfl (fc q) _ HC.out Tryd.underlying48 rfl (by kernel_rfl) ?_
          refine hK0 _ _ ?_
          clear hK0
          refine wpList_plain rfl fun K0 hK0 => ?_
          go_simp
          refine hK0 _ _ ?_
          clear hK0
          refine wpList_plain rfl fun K0 hK0 => ?_
          refine wp_store_row 48 (.tmp 7) (.tmp 24) rfl wM.heap.size (fc q).toArray rfl rfl 48 _ (heap_alloc_last wM _) (by kernel_rfl) rfl (by simp [fc, Value.oneCell']) ?_
          rw [World.setRow_alloc_new]
          refine hK0 _ _ ?_
          clear hK0
          go_upto_region 10 with fail
          refine wp_region_lit ?_
          refine wpList_plain rfl fun K0 hK0 => ?_
          refine wp_load_any 48 (.tmp 7) rfl ⟨wM.heap.size, 0, none⟩ rfl (fc q) _ (fun i v hv => by rw [add_lit, cell_of_row _ _ _ _ _ (0, 0) (made_at wM _ _ rfl)]; simpa using hv) Tryd.underlying48 rfl (by kernel_rfl) ?_
          refine hK0 _ _ ?_
          clear hK0
          obtain ⟨wN, hwN⟩ : ∃ wN, wN = wM.alloc (.cells (fc q).toArray 48) := ⟨_, rfl⟩
          rw [← hwN]
          have HWN := Lib.hid hwN
          clear hwN
          have hba : Below wM.heap.size wM wN := by rw [HWN.out]; exact (Below.refl _ _).alloc (Nat.le_refl _) _
          have HWA := Lib.hid (G1.out.below hba)
          have HBA := Lib.hid (G3.out.trans (hba.mono gs3))
          have HFA := Lib.hid (G4.out.trans (fr_below hba))
          clear hba
          generalize hv : Value.agg (fc q).toArray = vq
          have HV := Lib.hid hv
          clear hv
          go_wp2_with fail
          rw [← HV.out]
          refine (fun_any w HT.out q.nm HOK.out.1 q.ps HOK.out.2.1 q.ko q.kc HOK.out.2.2.1 q.rs q.rq q.bt HOK.out.2.2.2.1 q.r q.t HOK.out.2.2.2.2.1 HOK.out.2.2.2.2.2 k4 _ _ HBA.out HWA.out (by simp only [List.length_append]; omega)).mono ?_
          rintro e w15 ⟨⟨v3, rfl⟩, hw7, hb7, hfr7⟩
          have H15 := Lib.hid hw7
          have HB15 := Lib.hid (HBA.out.trans hb7)
          have HF15 := Lib.hid (HFA.out.trans hfr7)
          clear hw7 hb7 hfr7
          go_wp2_with fail
          go_roundw
          case rel =>
            refine ⟨j + 1, by go_num, by omega, ?_, HB15.out, HF15.out⟩
            rw [flat_take fT fs j hlt, ← HQ.out]
            have := H15.out
            simp only [fT, List.append_assoc] at this ⊢
            exact this
          case measure => simp [intOf]; omega
        · have e : j = fs.length := by omega
          subst e
          rw [List.take_length] at G1
          go_wp2_with fail
          refine (wr_string w.heap.size k4 _ wr G1.out HNE.out).mono ?_
          rintro e w12 ⟨rfl, hb6⟩
          have HB12 := Lib.hid (G3.out.trans hb6)
          clear hb6
          go_wp2_with fail
          go_ret
          exact ⟨rfl, HB12.out⟩
end Go.Proofs.YtcdacmbcecjliaaDoor
