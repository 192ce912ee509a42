/-
  Contracts of the reader's methods: skip, fault, next; of strings.Clone.
-/
import Derived.Test.YtdpfgfkoboihcaaDoorLxB
import Derived.Laws.Rows
import Derived.Deep.RegionHeld3
import Derived.Deep.DrawnRows
import Derived.Deep.AppendLies
import Derived.OwnWalk
namespace Go.Proofs.YtdpfgfkoboihcaaDoor
open Go.RowKit
set_option maxRecDepth 100000

theorem lt_of_block {w : World} {g : Nat} {o : Obj} (h : w.heap[g]? = some o) : g < w.heap.size := (Array.getElem?_eq_some_iff.1 h).1
theorem grown_below {w w' : World} {g B : Nat} (h : w.grownBy w' (some g)) (hB : B ≤ w.heap.size) (hg : B ≤ g) : Below B w w' :=
  ⟨h.os, h.tape, h.output, h.size, fun k hk => h.block k (by omega) (fun e => by injection e with e; omega)⟩
theorem below_grown {w w' : World} (h : Below w.heap.size w w') (row : Option Nat) : w.grownBy w' row := ⟨h.os, h.tape, h.output, h.size, fun k hk _ => h.block k hk⟩
theorem grown_tr {a b c : World} {row : Option Nat} (h : a.grownBy b row) (k : b.grownBy c row) : a.grownBy c row :=
  ⟨k.os.trans h.os, k.tape.trans h.tape, k.output.trans h.output, Nat.le_trans h.size k.size, fun i hi hn => (k.block i (Nat.lt_of_lt_of_le hi h.size) hn).trans (h.block i hi hn)⟩
theorem grown_set (w : World) (g i : Nat) (v : Value) : w.grownBy (w.setCell ⟨g, i, none⟩ v) (some g) :=
  ⟨rfl, rfl, rfl, by simp, fun k _ hn => heap_setCell_other w _ k v (fun e => hn (by rw [e]))⟩

/-- The reader's block: what is left of the text, and the place. -/
def Rd (w : World) (g : Nat) (l : Bs) (p : Nat × Nat) : Prop := w.heap[g]? = some (.cells #[.string ⟨l.toArray⟩, .int .i64 (p.1 : Nat), .int .i64 (p.2 : Nat)] 75 (0, 0))

theorem rd_nl {w : World} {g : Nat} {l : Bs} {q : Nat × Nat} (h : Rd w g l q) (x : Value) : Rd (((w.setCell ⟨g, 2, none⟩ x).setCell ⟨g, 1, none⟩ (.int .i64 ((q.1 : Int) + 1))).setCell ⟨g, 2, none⟩ (.int .i64 1)) g l (q.1 + 1, 1) := by
  unfold Rd at *
  rw [heap_setCell_same _ g 2 _ _ _ (heap_setCell_same _ g 1 _ _ _ (heap_setCell_same w g 2 _ _ x h))]; rfl
theorem rd_no {w : World} {g : Nat} {l : Bs} {q : Nat × Nat} (h : Rd w g l q) : Rd (w.setCell ⟨g, 2, none⟩ (.int .i64 ((q.2 : Int) + 1))) g l (q.1, q.2 + 1) := by
  unfold Rd at *
  rw [heap_setCell_same w g 2 _ _ _ h]; rfl
theorem rd_rest {w : World} {g : Nat} {l : Bs} {q : Nat × Nat} (h : Rd w g l q) (k : Nat) : Rd (w.setCell ⟨g, 0, none⟩ (.string ((⟨l.toArray⟩ : ByteArray).extract k l.length))) g (l.drop k) q := by
  unfold Rd at *
  rw [heap_setCell_same w g 0 _ _ _ h, extract_drop]; rfl
set_option maxHeartbeats 2000000 in
theorem skip_any (g : Nat) (l : Bs) (p : Nat × Nat) (n : Nat) (w : World) (hR : Rd w g l p) (hn : n ≤ l.length) (hl : l.length ≤ 20000) (h1 : p.1 ≤ 1000000) (h2 : p.2 ≤ 1000000) :
    Calls Tryd.prog 32 #[.pointer (some ⟨g, 0, none⟩), .int .i64 (n : Nat)] w fun e w' => e = .returned (.tuple #[]) ∧ Rd w' g (l.drop n) (adv p (l.take n)) ∧ w.grownBy w' (some g) := by
  have hsz : (⟨l.toArray⟩ : ByteArray).size = l.length := rfl
  go_enter Tryd.func32, Tryd.ntmps32
  go_wp2
  go_loopw [6] (fun i wr => ∃ k : Nat, i = .int .i64 k ∧ k ≤ n ∧ Rd wr g l (adv p (l.take k)) ∧ w.grownBy wr (some g)) (fun i _ => n - (intOf i).toNat)
  case atStart => exact ⟨0, rfl, Nat.zero_le _, hR, World.grownBy.refl _ _⟩
  case round =>
    obtain ⟨k, rfl, hk, hRk, hg⟩ := hrel
    obtain ⟨q, hq⟩ : ∃ q, q = adv p (l.take k) := ⟨_, rfl⟩
    rw [← hq] at hRk
    have HQ := Lib.hid hq
    have hb := adv_bd p (l.take k)
    have hlt' : (l.take k).length ≤ k := List.length_take_le _ _
    rw [← hq] at hb
    clear hq
    have hq1 : q.1 ≤ 1100000 := by omega
    have hq2 : q.2 ≤ 1100000 := by omega
    clear hb hlt'
    have c0 := cell_at hRk 0 rfl
    have c1 := cell_at hRk 1 rfl
    have c2 := cell_at hRk 2 rfl
    have f0 := froz_at hRk 0
    have f1 := froz_at hRk 1
    have f2 := froz_at hRk 2
    have HR := Lib.hid hRk
    have HG := Lib.hid hg
    clear hRk hg
    by_cases hlt : k < n
    · have hlt2 : k < l.length := by omega
      by_cases h10 : l[k] = 10
      · have hx : ((((⟨l.toArray⟩ : ByteArray)[k]'hlt2).toNat : Int) == 10) = true := byte_yes (c := (⟨l.toArray⟩ : ByteArray)[k]'hlt2) 10 h10
        have HS := Lib.hid ((adv_take_succ p l k hlt2).trans (by rw [← HQ.out, stepP_nl h10]))
        clear h10
        go_wp2
        go_roundw
        case rel =>
          refine ⟨k + 1, by go_num, by omega, ?_, grown_tr (grown_tr (grown_tr HG.out (grown_set _ g 2 _)) (grown_set _ g 1 _)) (grown_set _ g 2 _)⟩
          rw [HS.out]; exact rd_nl HR.out _
        case measure => simp [intOf]; omega
      · have hx : ((((⟨l.toArray⟩ : ByteArray)[k]'hlt2).toNat : Int) == 10) = false := byte_no (c := (⟨l.toArray⟩ : ByteArray)[k]'hlt2) 10 h10
        have HS := Lib.hid ((adv_take_succ p l k hlt2).trans (by rw [← HQ.out, stepP_no h10]))
        clear h10
        go_wp2
        go_roundw
        case rel =>
          refine ⟨k + 1, by go_num, by omega, ?_, grown_tr HG.out (grown_set _ g 2 _)⟩
          rw [HS.out]; exact rd_no HR.out
        case measure => simp [intOf]; omega
    · have hkn : k = n := by omega
      subst hkn
      go_wp2
      go_end0
      refine ⟨rfl, ?_, grown_tr HG.out (grown_set _ g 0 _)⟩
      rw [← HQ.out]; exact rd_rest HR.out k

/-- The error at a place. -/
def AtB (w : World) (q : Nat) (p : Nat × Nat) (v : Value) : Prop := w.heap[q]? = some (.cells #[.int .i64 (p.1 : Nat), .int .i64 (p.2 : Nat), v] 50 (0, 0))
set_option maxHeartbeats 2000000 in
theorem fault_any (g : Nat) (l : Bs) (p : Nat × Nat) (c : Int) (w : World) (hR : Rd w g l p) :
    Calls Tryd.prog 23 #[.pointer (some ⟨g, 0, none⟩), .iface 36 (.int .i64 c)] w fun e w' => ∃ q, e = .returned (.iface 45 (.pointer (some ⟨q, 0, none⟩))) ∧ AtB w' q p (.iface 36 (.int .i64 c)) ∧ w.heap.size ≤ q ∧ Below w.heap.size w w' := by
  have c1 := cell_at hR 1 rfl
  have c2 := cell_at hR 2 rfl
  go_enter Tryd.func23, Tryd.ntmps23
  go_wp2
  go_region_held3 (fun w' => w'.cell? ⟨g, 1, none⟩ = some (.int .i64 (p.1 : Nat)) ∧ w'.cell? ⟨g, 2, none⟩ = some (.int .i64 (p.2 : Nat))) (go_keep) (fail)
  go_wp2
  go_ret
  exact ⟨w.heap.size, rfl, made_at w _ _ rfl, Nat.le_refl _, ((Below.refl _ _).alloc (Nat.le_refl _) _).drew⟩

theorem strSize (l : Bs) : (⟨l.toArray⟩ : ByteArray).size = l.length := rfl
theorem clone_any (l : Bs) (hl : l.length ≤ 1000000000) (w : World) :
    Calls Tryd.prog 35 #[.string ⟨l.toArray⟩] w fun e w' => e = .returned (.string ⟨l.toArray⟩) ∧ Below w.heap.size w w' := by
  have H := Lib.hid (Tryd.stringslite_Clone ⟨l.toArray⟩ w (by rw [strSize]; omega))
  go_enter Tryd.func35, Tryd.ntmps35
  go_wp2_with fail
  refine H.out.mono ?_
  rintro e w1 ⟨rfl, hb⟩
  go_wp2
  go_ret
  exact ⟨rfl, hb⟩

theorem Rd.below {w w' : World} {g : Nat} {l : Bs} {p : Nat × Nat} (h : Rd w g l p) (hb : Below w.heap.size w w') : Rd w' g l p := by
  unfold Rd at *; rw [hb.block _ (lt_of_block h)]; exact h
theorem Rd.lt {w : World} {g : Nat} {l : Bs} {p : Nat × Nat} (h : Rd w g l p) : g < w.heap.size := lt_of_block h
theorem alloc_grown (w : World) (o : Obj) (row : Option Nat) : w.grownBy (w.alloc o) row := below_grown ((Below.refl _ _).alloc (Nat.le_refl _) _) row
theorem Rd.alloc {w : World} {g : Nat} {l : Bs} {p : Nat × Nat} (h : Rd w g l p) (o : Obj) : Rd (w.alloc o) g l p := h.below ((Below.refl _ _).alloc (Nat.le_refl _) _)

theorem hset4 {w : World} {g : Nat} {T : TypeId} {a b c d : Value} (h : w.heap[g]? = some (.cells #[a, b, c, d] T (0, 0))) (x y z u : Value) :
    ((((w.setCell ⟨g, 0, none⟩ x).setCell ⟨g, 1, none⟩ y).setCell ⟨g, 2, none⟩ z).setCell ⟨g, 3, none⟩ u).heap[g]? = some (.cells #[x, y, z, u] T (0, 0)) := by
  rw [heap_setCell_same _ g 3 _ T u (heap_setCell_same _ g 2 _ T z (heap_setCell_same _ g 1 _ T y (heap_setCell_same w g 0 _ T x h)))]; rfl
theorem other4 (w : World) (g : Nat) (x y z u : Value) {k : Nat} (hk : k ≠ g) :
    ((((w.setCell ⟨g, 0, none⟩ x).setCell ⟨g, 1, none⟩ y).setCell ⟨g, 2, none⟩ z).setCell ⟨g, 3, none⟩ u).heap[k]? = w.heap[k]? := by
  rw [heap_setCell_other _ _ k _ hk, heap_setCell_other _ _ k _ hk, heap_setCell_other _ _ k _ hk, heap_setCell_other _ _ k _ hk]
theorem grown4 (w : World) (g : Nat) (x y z u : Value) : w.grownBy ((((w.setCell ⟨g, 0, none⟩ x).setCell ⟨g, 1, none⟩ y).setCell ⟨g, 2, none⟩ z).setCell ⟨g, 3, none⟩ u) (some g) :=
  grown_tr (grown_tr (grown_tr (grown_set w g 0 x) (grown_set _ g 1 y)) (grown_set _ g 2 z)) (grown_set _ g 3 u)
/-- What is turned above the start's blocks does not count. -/
theorem grown_new {a b c : World} {row : Option Nat} {t : Nat} (h : a.grownBy b row) (k : b.grownBy c (some t)) (ht : a.heap.size ≤ t) : a.grownBy c row :=
  ⟨k.os.trans h.os, k.tape.trans h.tape, k.output.trans h.output, Nat.le_trans h.size k.size, fun i hi hn => (k.block i (Nat.lt_of_lt_of_le hi h.size) (fun e => by injection e with e; omega)).trans (h.block i hi hn)⟩

set_option maxHeartbeats 4000000 in
theorem next_bad (g : Nat) (l : Bs) (p : Nat × Nat) (w : World) (c : Nat) (hR : Rd w g l p) (hl : l.length ≤ 20000) (h1 : p.1 ≤ 900000) (h2 : p.2 ≤ 900000) (hm : meas (l.drop (gapL false l)) = .bad c) :
    Calls Tryd.prog 24 #[.pointer (some ⟨g, 0, none⟩)] w fun e w' => ∃ q, e = .returned (.tuple #[.agg #[.int .i64 0, .string ⟨#[]⟩, .int .i64 0, .int .i64 0], .iface 45 (.pointer (some ⟨q, 0, none⟩))]) ∧
      AtB w' q (adv p (l.take (gapL false l))) (.iface 36 (.int .i64 (c : Nat))) ∧ w.heap.size ≤ q ∧ w.grownBy w' (some g) := by
  have hg := gap_le false l
  have hb := adv_bd p (l.take (gapL false l))
  have hlt : (l.take (gapL false l)).length ≤ 20000 := by rw [List.length_take]; omega
  obtain ⟨n, hn⟩ : ∃ n, n = gapL false l := ⟨_, rfl⟩
  have hbl := fun w => blanks_any l w (by omega)
  rw [← hn] at hg hb hm hbl hlt ⊢
  obtain ⟨q, hq⟩ : ∃ q, q = adv p (l.take n) := ⟨_, rfl⟩
  rw [← hq] at hb ⊢
  have hq1 : q.1 ≤ 1000000 := by omega
  have hq2 : q.2 ≤ 1000000 := by omega
  have HQ := Lib.hid hq
  clear hq hb hlt
  have HBl := Lib.hid hbl
  have HM := Lib.hid hm
  have HR := Lib.hid hR
  clear hn hbl hm
  have c0 := cell_at hR 0 rfl
  have ca := World.cell?_alloc_lt w (.cells #[.int .i64 0, .string ⟨#[]⟩, .int .i64 0, .int .i64 0] 57) ⟨g, 0, none⟩ hR.lt
  clear hR
  go_enter Tryd.func24, Tryd.ntmps24
  go_wp2_with fail
  refine (HBl.out _).mono ?_
  rintro e w' ⟨rfl, rfl⟩
  go_wp2_with fail
  clear c0 ca
  obtain ⟨w0, hw0⟩ : ∃ w0, w0 = w.alloc (.cells #[.int .i64 0, .string ⟨#[]⟩, .int .i64 0, .int .i64 0] 57) := ⟨_, rfl⟩
  have hR0 : Rd w0 g l p := by rw [hw0]; exact HR.out.alloc _
  have hG0 : w.grownBy w0 (some g) := by rw [hw0]; exact alloc_grown _ _ _
  have hT0 : w0.heap[w.heap.size]? = some (.cells #[.int .i64 0, .string ⟨#[]⟩, .int .i64 0, .int .i64 0] 57 (0, 0)) := by rw [hw0]; exact made_at w _ _ rfl
  rw [← hw0]
  clear hw0
  have hgl := HR.out.lt
  refine (skip_any g l p n w0 hR0 hg hl (by omega) (by omega)).mono ?_
  rintro e w1 ⟨rfl, hR1, hG1⟩
  have hT1 : w1.heap[w.heap.size]? = some (.cells #[.int .i64 0, .string ⟨#[]⟩, .int .i64 0, .int .i64 0] 57 (0, 0)) := by
    rw [hG1.block _ (lt_of_block hT0) (fun e => by injection e with e; omega)]; exact hT0
  have HG := Lib.hid (grown_tr hG0 hG1)
  have hsz1 : w.heap.size < w1.heap.size := lt_of_block hT1
  have HT := Lib.hid hT1
  rw [← HQ.out] at hR1
  have HR1 := Lib.hid hR1
  have c0 := cell_at HR1.out 0 rfl
  clear hT1 hR1 hG1 hT0 hG0 hR0
  go_wp2_with fail
  refine (measure_any (l.drop n) (by rw [List.length_drop]; omega) w1).mono ?_
  rw [HM.out]
  rintro e wx ⟨rfl, hx⟩
  obtain rfl := hx.symm
  clear hx
  simp only [mres]
  go_wp2_with fail
  refine (fault_any g (l.drop n) q c w1 HR1.out).mono ?_
  rintro e w2 ⟨a, rfl, hA, ha, hb2⟩
  have hT2 : w2.heap[w.heap.size]? = some (.cells #[.int .i64 0, .string ⟨#[]⟩, .int .i64 0, .int .i64 0] 57 (0, 0)) := by rw [hb2.block _ hsz1]; exact HT.out
  have t0 := cell_at hT2 0 rfl
  have t1 := cell_at hT2 1 rfl
  have t2 := cell_at hT2 2 rfl
  have t3 := cell_at hT2 3 rfl
  have f0 := froz_at hT2 0
  have f1 := froz_at hT2 1
  have f2 := froz_at hT2 2
  have f3 := froz_at hT2 3
  have HT2 := Lib.hid hT2
  have HA := Lib.hid hA
  have HB2 := Lib.hid hb2
  clear hT2 hA hb2 c0
  go_wp2_with fail
  refine bodyPost_ret (v := .tuple #[.agg #[.int .i64 0, .string ⟨#[]⟩, .int .i64 0, .int .i64 0], .iface 45 (.pointer (some ⟨a, 0, none⟩))]) (by simp [results, Tryd.results24, go_sem, t0, t1, t2, t3]) rfl ⟨a, rfl, ?_, by omega, ?_⟩
  · have := HA.out
    unfold AtB at this ⊢
    rw [other4 _ _ _ _ _ _ (by omega)]; exact this
  · exact grown_new (grown_tr HG.out (below_grown HB2.out _)) (grown4 _ _ _ _ _ _) (Nat.le_refl _)

set_option maxHeartbeats 4000000 in
theorem next_ok (g : Nat) (l : Bs) (p : Nat × Nat) (w : World) (k m : Nat) (hR : Rd w g l p) (hl : l.length ≤ 20000) (h1 : p.1 ≤ 900000) (h2 : p.2 ≤ 900000) (hm : meas (l.drop (gapL false l)) = .ok k m) (hm2 : m ≤ (l.drop (gapL false l)).length) :
    Calls Tryd.prog 24 #[.pointer (some ⟨g, 0, none⟩)] w fun e w' => e = .returned (.tuple #[.agg #[.int .i64 (k : Nat), .string ⟨((l.drop (gapL false l)).take m).toArray⟩, .int .i64 ((adv p (l.take (gapL false l))).1 : Nat), .int .i64 ((adv p (l.take (gapL false l))).2 : Nat)], .nilIface]) ∧
      Rd w' g ((l.drop (gapL false l)).drop m) (adv (adv p (l.take (gapL false l))) ((l.drop (gapL false l)).take m)) ∧ w.grownBy w' (some g) := by
  have hg := gap_le false l
  have hb := adv_bd p (l.take (gapL false l))
  have hlt : (l.take (gapL false l)).length ≤ 20000 := by rw [List.length_take]; omega
  obtain ⟨n, hn⟩ : ∃ n, n = gapL false l := ⟨_, rfl⟩
  have hbl := fun w => blanks_any l w (by omega)
  rw [← hn] at hg hb hm hm2 hbl hlt ⊢
  obtain ⟨q, hq⟩ : ∃ q, q = adv p (l.take n) := ⟨_, rfl⟩
  rw [← hq] at hb ⊢
  have hq1 : q.1 ≤ 1000000 := by omega
  have hq2 : q.2 ≤ 1000000 := by omega
  have HQ := Lib.hid hq
  clear hq hb hlt
  have HBl := Lib.hid hbl
  have HM := Lib.hid hm
  obtain ⟨s1, hs1⟩ : ∃ s1, s1 = l.drop n := ⟨_, rfl⟩
  have hl1 : s1.length ≤ 20000 := by rw [hs1, List.length_drop]; omega
  rw [← hs1] at hm2 ⊢
  have HS1 := Lib.hid hs1
  clear hs1
  have HR := Lib.hid hR
  clear hn hbl hm
  have c0 := cell_at hR 0 rfl
  have ca := World.cell?_alloc_lt w (.cells #[.int .i64 0, .string ⟨#[]⟩, .int .i64 0, .int .i64 0] 57) ⟨g, 0, none⟩ hR.lt
  clear hR
  go_enter Tryd.func24, Tryd.ntmps24
  go_wp2_with fail
  refine (HBl.out _).mono ?_
  rintro e w' ⟨rfl, rfl⟩
  go_wp2_with fail
  clear c0 ca
  obtain ⟨w0, hw0⟩ : ∃ w0, w0 = w.alloc (.cells #[.int .i64 0, .string ⟨#[]⟩, .int .i64 0, .int .i64 0] 57) := ⟨_, rfl⟩
  have hR0 : Rd w0 g l p := by rw [hw0]; exact HR.out.alloc _
  have hG0 : w.grownBy w0 (some g) := by rw [hw0]; exact alloc_grown _ _ _
  have hT0 : w0.heap[w.heap.size]? = some (.cells #[.int .i64 0, .string ⟨#[]⟩, .int .i64 0, .int .i64 0] 57 (0, 0)) := by rw [hw0]; exact made_at w _ _ rfl
  rw [← hw0]
  clear hw0
  have hgl := HR.out.lt
  refine (skip_any g l p n w0 hR0 hg hl (by omega) (by omega)).mono ?_
  rintro e w1 ⟨rfl, hR1, hG1⟩
  have hT1 : w1.heap[w.heap.size]? = some (.cells #[.int .i64 0, .string ⟨#[]⟩, .int .i64 0, .int .i64 0] 57 (0, 0)) := by
    rw [hG1.block _ (lt_of_block hT0) (fun e => by injection e with e; omega)]; exact hT0
  have HG := Lib.hid (grown_tr hG0 hG1)
  have hsz1 : w.heap.size < w1.heap.size := lt_of_block hT1
  have HT := Lib.hid hT1
  rw [← HQ.out, ← HS1.out] at hR1
  have HR1 := Lib.hid hR1
  have c0 := cell_at HR1.out 0 rfl
  clear hT1 hR1 hG1 hT0 hG0 hR0
  go_wp2_with fail
  refine (measure_any s1 (by omega) w1).mono ?_
  rw [HS1.out, HM.out, ← HS1.out]
  rintro e wx ⟨rfl, hx⟩
  obtain rfl := hx.symm
  clear hx
  simp only [mres]
  go_wp2_with fail
  rw [extract_take]
  refine (clone_any (s1.take m) (by rw [List.length_take]; omega) w1).mono ?_
  rintro e w2 ⟨rfl, hb2⟩
  have hT2 : w2.heap[w.heap.size]? = some (.cells #[.int .i64 0, .string ⟨#[]⟩, .int .i64 0, .int .i64 0] 57 (0, 0)) := by rw [hb2.block _ hsz1]; exact HT.out
  have hR2 : Rd w2 g s1 q := HR1.out.below hb2
  have hG2 := grown_tr HG.out (below_grown hb2 (some g))
  have hsz2 : w.heap.size < w2.heap.size := lt_of_block hT2
  clear c0 hb2
  have c1 := cell_at hR2 1 rfl
  have c2 := cell_at hR2 2 rfl
  have HT2 := Lib.hid hT2
  have HR2 := Lib.hid hR2
  have HG2 := Lib.hid hG2
  have hgl2 := hR2.lt
  clear hT2 hR2 hG2
  go_wp2_with fail
  go_region_held3 (fun w' => w'.cell? ⟨g, 1, none⟩ = some (.int .i64 (q.1 : Nat)) ∧ w'.cell? ⟨g, 2, none⟩ = some (.int .i64 (q.2 : Nat))) (go_keep) (fail)
  rename_i hHeld
  clear hHeld c1 c2
  obtain ⟨w3, hw3⟩ : ∃ w3, w3 = (w2.alloc (.cells #[.int .i64 (k : Nat), .string ⟨(s1.take m).toArray⟩, .int .i64 (q.1 : Nat), .int .i64 (q.2 : Nat)] 57)).drew := ⟨_, rfl⟩
  rw [← hw3]
  have hb3 : Below w2.heap.size w2 w3 := by rw [hw3]; exact ((Below.refl _ _).alloc (Nat.le_refl _) _).drew
  have hK3 : w3.heap[w2.heap.size]? = some (.cells #[.int .i64 (k : Nat), .string ⟨(s1.take m).toArray⟩, .int .i64 (q.1 : Nat), .int .i64 (q.2 : Nat)] 57 (0, 0)) := by rw [hw3]; exact made_at w2 _ _ rfl
  have hT3 := (hb3.block _ hsz2).trans HT2.out
  have hR3 : Rd w3 g s1 q := HR2.out.below hb3
  have hG3 := grown_tr HG2.out (below_grown hb3 (some g))
  have hsz3 : w2.heap.size < w3.heap.size := lt_of_block hK3
  have HR3 := Lib.hid hR3
  have HT3 := Lib.hid hT3
  have HK3 := Lib.hid hK3
  have HG3 := Lib.hid hG3
  clear hw3 hb3 hK3 hT3 hR3 hG3
  go_wp2_with fail
  refine (skip_any g s1 q m w3 HR3.out hm2 hl1 hq1 hq2).mono ?_
  rintro e w4 ⟨rfl, hR4, hG4⟩
  have hK4 := (hG4.block _ hsz3 (fun e => by injection e with e; omega)).trans HK3.out
  have hT4 := (hG4.block w.heap.size (by omega) (fun e => by injection e with e; omega)).trans HT3.out
  have HR4 := Lib.hid hR4
  have HG4 := Lib.hid (grown_tr HG3.out hG4)
  have t0 := cell_at hT4 0 rfl
  have t1 := cell_at hT4 1 rfl
  have t2 := cell_at hT4 2 rfl
  have t3 := cell_at hT4 3 rfl
  have f0 := froz_at hT4 0
  have f1 := froz_at hT4 1
  have f2 := froz_at hT4 2
  have f3 := froz_at hT4 3
  have k0 := cell_at hK4 0 rfl
  have k1 := cell_at hK4 1 rfl
  have k2 := cell_at hK4 2 rfl
  have k3 := cell_at hK4 3 rfl
  have HT4 := Lib.hid hT4
  clear hK4 hT4 hR4 hG4
  go_wp2_with fail
  refine bodyPost_ret (v := .tuple #[.agg #[.int .i64 (k : Nat), .string ⟨(s1.take m).toArray⟩, .int .i64 (q.1 : Nat), .int .i64 (q.2 : Nat)], .nilIface]) (by simp [results, Tryd.results24, go_sem, t0, t1, t2, t3]) rfl ⟨rfl, ?_, ?_⟩
  · have := HR4.out
    unfold Rd at this ⊢
    rw [other4 _ _ _ _ _ _ (by omega)]; exact this
  · exact grown_new HG4.out (grown4 _ _ _ _ _ _) (Nat.le_refl _)
end Go.Proofs.YtdpfgfkoboihcaaDoor
