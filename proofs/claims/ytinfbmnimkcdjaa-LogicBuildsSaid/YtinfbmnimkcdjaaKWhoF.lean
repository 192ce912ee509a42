/-
  Joined: WhoE, WhoF.
-/
import Derived.Test.YtinfbmnimkcdjaaKWhoA
import Derived.Test.YtinfbmnimkcdjaaKPar
import Derived.Test.YtinfbmnimkcdjaaRely
/- Contracts of package whole: Text, Parse. -/
namespace Go.Proofs.Ytinfbmnimkcdjaa
open Go.RowKit
set_option maxRecDepth 100000

/-- The text of an integer. -/
def zText (z : Int) : List UInt8 := if z < 0 then 45 :: Lib.decDigits z.natAbs else Lib.decDigits z.natAbs

theorem app45 (l : List UInt8) : ((⟨#[45]⟩ : ByteArray) ++ (⟨l.toArray⟩ : ByteArray)) = ⟨(45 :: l).toArray⟩ := by
  apply ByteArray.ext
  simp [ByteArray.data_append]
theorem take_one (c : UInt8) (m : List UInt8) : ((⟨(c :: m).toArray⟩ : ByteArray).extract 0 1).toList = [c] := by
  rw [extract_take, ByteArray.toList_mk]; rfl
theorem dec_len {n k : Nat} (h : n < L32 ^ k) (hk : k ≤ 10000) : (Lib.decDigits n).length ≤ 100001 := by
  have h1 : L32 ^ k ≤ 10 ^ (10 * k) := by rw [Nat.pow_mul]; exact Nat.pow_le_pow_left (by decide) _
  have := decDigits_len (k := 10 * k + 1) (Nat.lt_of_lt_of_le h (Nat.le_trans h1 (Nat.pow_le_pow_right (by decide) (by omega)))) (by omega)
  omega

/-- The text of some integer of at most 300 digits. -/
def ZNum (l : List UInt8) : Prop := Numeral l ∨ ∃ m, l = 45 :: m ∧ Numeral m ∧ dn m ≠ 0
/-- The integer that a text is. -/
def zn (l : List UInt8) : Int := if l.head? = some 45 then -(dn (l.drop 1) : Int) else (dn l : Int)

theorem num_head {l : List UInt8} (h : Numeral l) : l.head? ≠ some 45 := by
  intro e
  obtain ⟨h1, _, _, h4⟩ := h
  cases l with
  | nil => exact h1 rfl
  | cons c m =>
    injection e with e
    have := h4 c (List.mem_cons_self ..)
    subst e
    simp at this
theorem num_lt {l : List UInt8} (h : Numeral l) : dn l < L32 ^ 34 := by
  have h1 := parse_room h.2.2.2 (Nat.le_refl l.length)
  exact lt_pow_more h1 (by have := h.2.1; omega)

/-- What Parse gives. -/
def Parsed (l : List UInt8) (w : World) (e : Ending) (w' : World) : Prop :=
  ∃ v o, e = .returned (.tuple #[v, .bool o]) ∧ (o = true ↔ ZNum l) ∧ (o = true → CI w' v (zn l) 34) ∧ (o = false → v = .agg #[.bool false, .slice none 0 0]) ∧ Below w.heap.size w w'

end Go.Proofs.Ytinfbmnimkcdjaa

/- Contracts of package whole: Div. -/
namespace Go.Proofs.Ytinfbmnimkcdjaa
open Go.RowKit
set_option maxRecDepth 100000

theorem div_d {va vb : Value} {m n k1 k2 : Nat} {w : World} (hx : GN w va m k1) (hy : GN w vb n k2) (h1 : k1 ≤ 900000) (h0 : 0 < n) :
    Calls Try.prog 66 #[va, vb] w fun e w' => ∃ q r, e = .returned (.tuple #[q, r, .bool true]) ∧ Sl w' .u32 q (dig L32 (m / n)) ∧ Sl w' .u32 r (dig L32 (m % n)) ∧ Below w.heap.size w w' := div_n hx hy h1 h0

theorem blocks4 {w w1 : World} {T1 T2 T3 T4 : TypeId} {c1 c2 c3 c4 : Array Value} (hb : Below (w.heap.size + 4) ((((w.alloc (.cells c1 T1)).alloc (.cells c2 T2)).alloc (.cells c3 T3)).alloc (.cells c4 T4)) w1) :
    w1.heap[w.heap.size]? = some (.cells c1 T1 (0, 0)) ∧ w1.heap[w.heap.size + 1]? = some (.cells c2 T2 (0, 0)) ∧ w1.heap[w.heap.size + 2]? = some (.cells c3 T3 (0, 0)) ∧ w1.heap[w.heap.size + 3]? = some (.cells c4 T4 (0, 0)) := by
  have h1 := heap_alloc_new (((w.alloc (.cells c1 T1)).alloc (.cells c2 T2)).alloc (.cells c3 T3)) (.cells c4 T4)
  obtain ⟨a, b, c⟩ := blocks3 (Below.refl (w.heap.size + 3) (((w.alloc (.cells c1 T1)).alloc (.cells c2 T2)).alloc (.cells c3 T3)))
  refine ⟨(hb.block _ (by omega)).trans ?_, (hb.block _ (by omega)).trans ?_, (hb.block _ (by omega)).trans ?_, (hb.block _ (by omega)).trans (by simpa using h1)⟩
  · rw [Below.heap_alloc _ _ _ (by simp; omega)]; exact a
  · rw [Below.heap_alloc _ _ _ (by simp)]; exact b
  · rw [Below.heap_alloc _ _ _ (by simp)]; exact c
theorem below4 (w : World) (o1 o2 o3 o4 : Obj) : Below w.heap.size w ((((w.alloc o1).alloc o2).alloc o3).alloc o4) := (below3 w o1 o2 o3).alloc (by simp; omega) _

/-- The blocks of a division's call: the two arguments' boxes and the two results'. -/
def Four (w' : World) (g : Nat) (T : TypeId) (b : Bool) (s : Value) (d : Bool) (t : Value) : Prop :=
  w'.heap[g]? = some (.cells #[.bool b, s] T (0, 0)) ∧ w'.heap[g + 1]? = some (.cells #[.bool d, t] T (0, 0)) ∧
  w'.heap[g + 2]? = some (.cells #[.bool false, .slice none 0 0] T (0, 0)) ∧ w'.heap[g + 3]? = some (.cells #[.bool false, .slice none 0 0] T (0, 0))
theorem Four.below {w w' : World} {g : Nat} {T : TypeId} {b : Bool} {s : Value} {d : Bool} {t : Value} (h : Four w g T b s d t) (hb : Below w.heap.size w w') : Four w' g T b s d t :=
  ⟨(hb.block _ (lt_of_block h.1)).trans h.1, (hb.block _ (lt_of_block h.2.1)).trans h.2.1, (hb.block _ (lt_of_block h.2.2.1)).trans h.2.2.1, (hb.block _ (lt_of_block h.2.2.2)).trans h.2.2.2⟩

/-- Two results stored, one behind the other. -/
theorem CI.set4 {w : World} {v : Value} {z : Int} {k : Nat} (h : CI w v z k) {g g' : Nat} {T : TypeId} {b0 b1 : Bool} {a0 a1 : Option Addr} {n0 c0 n1 c1 : Nat} (hne : g ≠ g') (hB : w.heap[g]? = some (.cells #[.bool b0, .slice a0 n0 c0] T (0, 0))) (hC : w.heap[g']? = some (.cells #[.bool b1, .slice a1 n1 c1] T (0, 0))) (x y x' y' : Value) :
    CI ((((w.setCell ⟨g, 0, none⟩ x).setCell ⟨g, 1, none⟩ y).setCell ⟨g', 0, none⟩ x').setCell ⟨g', 1, none⟩ y') v z k := by
  refine (h.set2 hB x y).set2 (b0 := b1) (a0 := a1) (n0 := n1) (c0 := c1) (T := T) ?_ x' y'
  rw [Below.heap_setCell _ _ _ _ (fun e => hne e.symm), Below.heap_setCell _ _ _ _ (fun e => hne e.symm)]
  exact hC

theorem Sl.drew {w : World} {k : IntKind} {v : Value} {xs : List Nat} (h : Sl w k v xs) : Sl w.drew k v xs := h
theorem div_no {va vb : Value} {m k1 k2 : Nat} {w : World} (hx : GN w va m k1) (hy : GN w vb 0 k2) :
    Calls Try.prog 66 #[va, vb] w fun e w' => e = .returned (.tuple #[.slice none 0 0, .slice none 0 0, .bool false]) ∧ Below w.heap.size w w' := by
  obtain ⟨xs, hx, dx, rfl, lx⟩ := hx
  obtain ⟨ys, hy, dy, e0, ly⟩ := hy
  exact div_zero _ _ xs ys w hx hy dy e0

set_option maxHeartbeats 2000000 in
theorem wdiv_zero (va vb : Value) (y : Int) (k1 k2 : Nat) (w : World) (hx : GI w va y k1) (hy : GI w vb 0 k2) :
    Calls Try.prog 45 #[va, vb] w fun e w' => e = .returned (.tuple #[.agg #[.bool false, .slice none 0 0], .agg #[.bool false, .slice none 0 0], .bool false]) ∧ Below w.heap.size w w' := by
  obtain ⟨b, ao, l, c, m, rfl, hg, rfl⟩ := hx.shape
  obtain ⟨d, po, pl, pc, n, rfl, hg2, h0⟩ := hy.shape
  have hn0 : n = 0 := by rw [← sg_natAbs d n, ← h0]; rfl
  subst hn0
  clear h0
  have hW := below4 w (.cells #[.bool b, .slice ao l c] 26) (.cells #[.bool d, .slice po pl pc] 26) (.cells #[.bool false, .slice none 0 0] 26) (.cells #[.bool false, .slice none 0 0] 26)
  go_enter Try.func45, Try.ntmps45
  go_wp2_with fail
  refine (div_no ((((hg.alloc _).alloc _).alloc _).alloc _) ((((hg2.alloc _).alloc _).alloc _).alloc _)).mono ?_
  rintro e w2 ⟨rfl, hb2⟩
  obtain ⟨hk0, hk1, hk2, hk3⟩ := blocks4 (hb2.mono (by simp))
  have hb2t := hW.trans (hb2.mono (by simp; omega))
  clear hb2 hk0 hk1 hW
  obtain ⟨p0, p1, g0, g1⟩ := two_cells hk2
  obtain ⟨q0, q1, f0, f1⟩ := two_cells hk3
  clear hk2 hk3
  go_wp2_with fail
  exact bodyPost_ret (v := .tuple #[.agg #[.bool false, .slice none 0 0], .agg #[.bool false, .slice none 0 0], .bool false]) (by simp [results, Try.results45, go_sem, q0, q1, p0, p1]) rfl ⟨rfl, below_setg (below_setg hb2t (by omega) _ _) (by omega) _ _⟩

theorem sg_div {b d : Bool} {m n : Nat} (hn : 0 < n) (h : b = d ∨ m % n = 0) : Int.fdiv (sg b m) (sg d n) = sg (b != d) (m / n) ∧ Int.fmod (sg b m) (sg d n) = sg d (m % n) := by
  have hd := Nat.div_add_mod m n
  have hl := Nat.mod_lt m hn
  generalize m / n = q at *
  generalize m % n = r at *
  have hdz : (n : Int) * q + r = m := by exact_mod_cast hd
  cases d
  · have hp : sg false n > 0 := by simp [sg]; omega
    refine (Int.fdiv_fmod_unique hp).2 ?_
    cases b <;> simp [sg, Int.mul_neg] at * <;> (try subst h) <;> omega
  · have hp : sg true n < 0 := by simp [sg]; omega
    refine (Int.fdiv_fmod_unique' hp).2 ?_
    cases b <;> simp [sg, Int.neg_mul, Int.mul_neg] at * <;> (try subst h) <;> omega
theorem sg_div2 {b d : Bool} {m n : Nat} (hn : 0 < n) (h : b ≠ d) (hr : 0 < m % n) : Int.fdiv (sg b m) (sg d n) = sg (b != d) (m / n + 1) ∧ Int.fmod (sg b m) (sg d n) = sg d (n - m % n) := by
  have hd := Nat.div_add_mod m n
  have hl := Nat.mod_lt m hn
  generalize m / n = q at *
  generalize m % n = r at *
  have hdz : (n : Int) * q + r = m := by exact_mod_cast hd
  cases d
  · have hp : sg false n > 0 := by simp [sg]; omega
    refine (Int.fdiv_fmod_unique hp).2 ?_
    cases b <;> simp [sg, Int.mul_neg, Int.mul_add] at * <;> omega
  · have hp : sg true n < 0 := by simp [sg]; omega
    refine (Int.fdiv_fmod_unique' hp).2 ?_
    cases b <;> simp [sg, Int.neg_mul, Int.mul_neg, Int.mul_add] at * <;> omega

set_option maxHeartbeats 4000000 in
theorem wdiv_plain (b d s : Bool) (ao po : Option Addr) (l c pl pc m n k1 k2 : Nat) (w : World) (hg : GN w (.slice ao l c) m k1) (hg2 : GN w (.slice po pl pc) n k2) (h1 : k1 ≤ 900000) (h0 : 0 < n) (hs : s = (b != d)) (h : b = d ∨ m % n = 0) :
    Calls Try.prog 45 #[.agg #[.bool b, .slice ao l c], .agg #[.bool d, .slice po pl pc]] w fun e w' => ∃ q r, e = .returned (.tuple #[q, r, .bool true]) ∧ CI w' q (sg s (m / n)) (k1 + 3) ∧ CI w' r (sg d (m % n)) k2 ∧ Below w.heap.size w w' := by
  have hqn : m / n < L32 ^ (k1 + 3) := lt_pow_more (k := k1) (Nat.lt_of_le_of_lt (Nat.div_le_self _ _) hg.lt) (by omega)
  have hrn : m % n < L32 ^ k2 := Nat.lt_trans (Nat.mod_lt _ h0) hg2.lt
  cases b <;> cases d
  · obtain rfl : s = false := hs
    clear h
    have hbt := Below.refl w.heap.size w
    go_enter Try.func45, Try.ntmps45
    go_wp2_with fail
    have hbx : Below w.heap.size w ((((w.alloc (.cells #[.bool false, .slice ao l c] 26)).alloc (.cells #[.bool false, .slice po pl pc] 26)).alloc (.cells #[.bool false, .slice none 0 0] 26)).alloc (.cells #[.bool false, .slice none 0 0] 26)) := (((((Below.refl _ _).alloc (by simp) _).alloc (by simp) _).alloc (by simp; omega) _).alloc (by simp; omega) _)
    replace hg := hg.below hbx
    replace hg2 := hg2.below hbx
    replace hbt := hbt.trans (hbx.mono hbt.size)
    clear hbx
    have HB_xa : Hid (((((w.alloc (.cells #[.bool false, .slice ao l c] 26)).alloc (.cells #[.bool false, .slice po pl pc] 26)).alloc (.cells #[.bool false, .slice none 0 0] 26)).alloc (.cells #[.bool false, .slice none 0 0] 26)).heap[w.heap.size]? = some (.cells #[.bool false, .slice ao l c] 26 (0, 0))) := Lib.hid (made_more (made_more (made_more (made_at w (.cells #[.bool false, .slice ao l c] 26) _ (by first | rfl | simp)) _) _) _)
    have HB_xb : Hid (((((w.alloc (.cells #[.bool false, .slice ao l c] 26)).alloc (.cells #[.bool false, .slice po pl pc] 26)).alloc (.cells #[.bool false, .slice none 0 0] 26)).alloc (.cells #[.bool false, .slice none 0 0] 26)).heap[w.heap.size + 1]? = some (.cells #[.bool false, .slice po pl pc] 26 (0, 0))) := Lib.hid (made_more (made_more (made_at (w.alloc (.cells #[.bool false, .slice ao l c] 26)) (.cells #[.bool false, .slice po pl pc] 26) _ (by first | rfl | simp)) _) _)
    have HB_q : Hid (((((w.alloc (.cells #[.bool false, .slice ao l c] 26)).alloc (.cells #[.bool false, .slice po pl pc] 26)).alloc (.cells #[.bool false, .slice none 0 0] 26)).alloc (.cells #[.bool false, .slice none 0 0] 26)).heap[w.heap.size + 2]? = some (.cells #[.bool false, .slice none 0 0] 26 (0, 0))) := Lib.hid (made_more (made_at ((w.alloc (.cells #[.bool false, .slice ao l c] 26)).alloc (.cells #[.bool false, .slice po pl pc] 26)) (.cells #[.bool false, .slice none 0 0] 26) _ (by first | rfl | simp)) _)
    have HB_r : Hid (((((w.alloc (.cells #[.bool false, .slice ao l c] 26)).alloc (.cells #[.bool false, .slice po pl pc] 26)).alloc (.cells #[.bool false, .slice none 0 0] 26)).alloc (.cells #[.bool false, .slice none 0 0] 26)).heap[w.heap.size + 3]? = some (.cells #[.bool false, .slice none 0 0] 26 (0, 0))) := Lib.hid (made_at (((w.alloc (.cells #[.bool false, .slice ao l c] 26)).alloc (.cells #[.bool false, .slice po pl pc] 26)).alloc (.cells #[.bool false, .slice none 0 0] 26)) (.cells #[.bool false, .slice none 0 0] 26) _ (by first | rfl | simp))
    generalize ((((w.alloc (.cells #[.bool false, .slice ao l c] 26)).alloc (.cells #[.bool false, .slice po pl pc] 26)).alloc (.cells #[.bool false, .slice none 0 0] 26)).alloc (.cells #[.bool false, .slice none 0 0] 26)) = wx1 at *
    have xa0 := cell_at (v := .bool false) HB_xa.out 0 rfl
    have xa1 := cell_at (v := .slice ao l c) HB_xa.out 1 rfl
    have xb0 := cell_at (v := .bool false) HB_xb.out 0 rfl
    have xb1 := cell_at (v := .slice po pl pc) HB_xb.out 1 rfl
    have q0 := cell_at (v := .bool false) HB_q.out 0 rfl
    have q1 := cell_at (v := .slice none 0 0) HB_q.out 1 rfl
    have r0 := cell_at (v := .bool false) HB_r.out 0 rfl
    have r1 := cell_at (v := .slice none 0 0) HB_r.out 1 rfl
    refine (div_d hg hg2 h1 h0).mono ?_
    rintro e wx2 ⟨vq, vr, rfl, sq, sr, hbx⟩
    replace hg := hg.below hbx
    replace hg2 := hg2.below hbx
    replace hbt := hbt.trans (hbx.mono hbt.size)
    replace HB_xa := Lib.hid ((hbx.block _ (lt_of_block HB_xa.out)).trans HB_xa.out)
    replace HB_xb := Lib.hid ((hbx.block _ (lt_of_block HB_xb.out)).trans HB_xb.out)
    replace HB_q := Lib.hid ((hbx.block _ (lt_of_block HB_q.out)).trans HB_q.out)
    replace HB_r := Lib.hid ((hbx.block _ (lt_of_block HB_r.out)).trans HB_r.out)
    clear hbx
    replace xa0 := cell_at (v := .bool false) HB_xa.out 0 rfl
    replace xa1 := cell_at (v := .slice ao l c) HB_xa.out 1 rfl
    replace xb0 := cell_at (v := .bool false) HB_xb.out 0 rfl
    replace xb1 := cell_at (v := .slice po pl pc) HB_xb.out 1 rfl
    replace q0 := cell_at (v := .bool false) HB_q.out 0 rfl
    replace q1 := cell_at (v := .slice none 0 0) HB_q.out 1 rfl
    replace r0 := cell_at (v := .bool false) HB_r.out 0 rfl
    replace r1 := cell_at (v := .slice none 0 0) HB_r.out 1 rfl
    obtain ⟨qo, qc, rfl⟩ := sl_shape sq
    obtain ⟨ro, rc, rfl⟩ := sl_shape sr
    go_wp2_with fail
    have hlt_xa := lt_of_block HB_xa.out
    have hlt_xb := lt_of_block HB_xb.out
    have hlt_q := lt_of_block HB_q.out
    have hlt_r := lt_of_block HB_r.out
    have hszb := hbt.size
    refine Rely.region (by kernel_rfl) [[], [0], [], [2], [0, 1, 2, 3], [], [0, 1, 2, 3, 4, 5], [], [7], [], [0, 1, 2, 3, 4, 5, 6, 7, 8, 9], [0, 1, 2, 3, 4, 5, 6, 7, 8, 9, 10], [0, 1, 2, 3, 4, 5, 6, 7, 8, 9, 10, 11], [0, 1, 2, 3, 4, 5, 6, 7, 8, 9, 10, 11, 12]] [] [(11, 1000), (12, 1001)] (fun q => [w.heap.size + 2, w.heap.size + 3].getD q 0) 2 14 (by kernel_rfl) (by kernel_rfl) (fun q hq => by match q, hq with | 0, _ => exact hlt_q | 1, _ => exact hlt_r) (fun q r hq hr hne => by match q, r, hq, hr, hne with | 0, 0, _, _, h => exact absurd rfl h | 0, 1, _, _, h => exact (by show w.heap.size + 2 ≠ w.heap.size + 3; omega) | 1, 0, _, _, h => exact (by show w.heap.size + 3 ≠ w.heap.size + 2; omega) | 1, 1, _, _, h => exact absurd rfl h) ?_
    refine Rely.Chain.det ?_ (by rfl) (fun T xs wr hA => ?_) ?_
    rotate_left 1
    · have e2 := hA.pre 2 (by kernel_rfl)
      simp only [List.getElem?_toArray, List.getElem?_cons_succ, List.getElem?_cons_zero] at e2
      clear hA
      refine ⟨(by rfl), ?_⟩
      go_simp <;> (try with_reducible rfl)
    refine Rely.Chain.det ?_ (by rfl) (fun T xs wr hA => ?_) ?_
    rotate_left 1
    · have e43 := hA.tm 0 43 (by rfl) (by rfl)
      have f43 : xs 0 = _ := hA.fa 0 (by rfl)
      (try simp (disch := rfl) only [Rely.mask_in] at f43)
      rw [f43] at e43
      clear f43
      have hBq : wr.heap[w.heap.size]? = _ := (hA.bl _ hlt_xa (fun q hq => by match q, hq with | 0, _ => exact (by show w.heap.size + 2 ≠ w.heap.size; omega) | 1, _ => exact (by show w.heap.size + 3 ≠ w.heap.size; omega))).trans HB_xa.out
      have q0 := cell_at (v := .bool false) hBq 0 rfl
      have q1 := cell_at (v := .slice ao l c) hBq 1 rfl
      clear hBq
      clear hA
      refine ⟨(by rfl), ?_⟩
      go_simp <;> (try with_reducible rfl)
    refine Rely.Chain.det ?_ (by rfl) (fun T xs wr hA => ?_) ?_
    rotate_left 1
    · have e3 := hA.pre 3 (by kernel_rfl)
      simp only [List.getElem?_toArray, List.getElem?_cons_succ, List.getElem?_cons_zero] at e3
      clear hA
      refine ⟨(by rfl), ?_⟩
      go_simp <;> (try with_reducible rfl)
    refine Rely.Chain.det ?_ (by rfl) (fun T xs wr hA => ?_) ?_
    rotate_left 1
    · have e45 := hA.tm 2 45 (by rfl) (by rfl)
      have f45 : xs 2 = _ := hA.fa 2 (by rfl)
      (try simp (disch := rfl) only [Rely.mask_in] at f45)
      rw [f45] at e45
      clear f45
      have hBq : wr.heap[w.heap.size + 1]? = _ := (hA.bl _ hlt_xb (fun q hq => by match q, hq with | 0, _ => exact (by show w.heap.size + 2 ≠ w.heap.size + 1; omega) | 1, _ => exact (by show w.heap.size + 3 ≠ w.heap.size + 1; omega))).trans HB_xb.out
      have q0 := cell_at (v := .bool false) hBq 0 rfl
      have q1 := cell_at (v := .slice po pl pc) hBq 1 rfl
      clear hBq
      clear hA
      refine ⟨(by rfl), ?_⟩
      go_simp <;> (try with_reducible rfl)
    refine Rely.Chain.det ?_ (by rfl) (fun T xs wr hA => ?_) ?_
    rotate_left 1
    · have e44 := hA.tm 1 44 (by rfl) (by rfl)
      have f44 : xs 1 = _ := hA.fa 1 (by rfl)
      (try simp (disch := rfl) only [Rely.mask_in] at f44)
      rw [f44] at e44
      clear f44
      have e46 := hA.tm 3 46 (by rfl) (by rfl)
      have f46 : xs 3 = _ := hA.fa 3 (by rfl)
      (try simp (disch := rfl) only [Rely.mask_in] at f46)
      rw [f46] at e46
      clear f46
      clear hA
      refine ⟨(by rfl), ?_⟩
      go_simp <;> (try with_reducible rfl)
    refine Rely.Chain.det ?_ (by rfl) (fun T xs wr hA => ?_) ?_
    rotate_left 1
    · have e7 := hA.pre 7 (by kernel_rfl)
      simp only [List.getElem?_toArray, List.getElem?_cons_succ, List.getElem?_cons_zero] at e7
      clear hA
      refine ⟨(by rfl), ?_⟩
      go_simp <;> (try with_reducible rfl)
    refine Rely.Chain.call (fun _ v w => CI w v (sg false (m / n)) (k1 + 3)) (fun _ _ _ _ h hb => h.below hb) (fun _ _ _ _ _ h hp => h.keeps hp.keeps) (by rfl) (fun T xs wr hA => ?_) ?_
    · have e47 := hA.tm 4 47 (by rfl) (by rfl)
      have f47 : xs 4 = _ := hA.fa 4 (by rfl)
      (try simp (disch := rfl) only [Rely.mask_in] at f47)
      rw [f47] at e47
      clear f47
      have e48 := hA.tm 5 48 (by rfl) (by rfl)
      have f48 : xs 5 = _ := hA.fa 5 (by rfl)
      (try simp (disch := rfl) only [Rely.mask_in] at f48)
      rw [f48] at e48
      clear f48
      have hkp := undrewK hA.kp
      have hbt' := hbt.trans (undrew (hA.be w.heap.size hszb (fun q hq => by match q, hq with | 0, _ => exact (by show w.heap.size ≤ w.heap.size + 2; omega) | 1, _ => exact (by show w.heap.size ≤ w.heap.size + 3; omega))))
      have sq := sq.keeps hkp
      clear hA
      refine ⟨(by rfl), fun K hK => ?_⟩
      go_simp
      refine (signed_any false (.slice qo _ qc) (m / n) (k1 + 3) _ sq hqn).mono ?_
      rintro e wq ⟨v, rfl, c, hb⟩
      exact hK.out _ _ c hb
    refine Rely.Chain.det ?_ (by rfl) (fun T xs wr hA => ?_) ?_
    rotate_left 1
    · have e3 := hA.pre 3 (by kernel_rfl)
      simp only [List.getElem?_toArray, List.getElem?_cons_succ, List.getElem?_cons_zero] at e3
      clear hA
      refine ⟨(by rfl), ?_⟩
      go_simp <;> (try with_reducible rfl)
    refine Rely.Chain.det ?_ (by rfl) (fun T xs wr hA => ?_) ?_
    rotate_left 1
    · have e50 := hA.tm 7 50 (by rfl) (by rfl)
      have f50 : xs 7 = _ := hA.fa 7 (by rfl)
      (try simp (disch := rfl) only [Rely.mask_in] at f50)
      rw [f50] at e50
      clear f50
      have hBq : wr.heap[w.heap.size + 1]? = _ := (hA.bl _ hlt_xb (fun q hq => by match q, hq with | 0, _ => exact (by show w.heap.size + 2 ≠ w.heap.size + 1; omega) | 1, _ => exact (by show w.heap.size + 3 ≠ w.heap.size + 1; omega))).trans HB_xb.out
      have q0 := cell_at (v := .bool false) hBq 0 rfl
      have q1 := cell_at (v := .slice po pl pc) hBq 1 rfl
      clear hBq
      clear hA
      refine ⟨(by rfl), ?_⟩
      go_simp <;> (try with_reducible rfl)
    refine Rely.Chain.det ?_ (by rfl) (fun T xs wr hA => ?_) ?_
    rotate_left 1
    · have e8 := hA.pre 8 (by kernel_rfl)
      simp only [List.getElem?_toArray, List.getElem?_cons_succ, List.getElem?_cons_zero] at e8
      clear hA
      refine ⟨(by rfl), ?_⟩
      go_simp <;> (try with_reducible rfl)
    refine Rely.Chain.call (fun _ v w => CI w v (sg false (m % n)) k2) (fun _ _ _ _ h hb => h.below hb) (fun _ _ _ _ _ h hp => h.keeps hp.keeps) (by rfl) (fun T xs wr hA => ?_) ?_
    · have e51 := hA.tm 8 51 (by rfl) (by rfl)
      have f51 : xs 8 = _ := hA.fa 8 (by rfl)
      (try simp (disch := rfl) only [Rely.mask_in] at f51)
      rw [f51] at e51
      clear f51
      have e52 := hA.tm 9 52 (by rfl) (by rfl)
      have f52 : xs 9 = _ := hA.fa 9 (by rfl)
      (try simp (disch := rfl) only [Rely.mask_in] at f52)
      rw [f52] at e52
      clear f52
      have hkp := undrewK hA.kp
      have hbt' := hbt.trans (undrew (hA.be w.heap.size hszb (fun q hq => by match q, hq with | 0, _ => exact (by show w.heap.size ≤ w.heap.size + 2; omega) | 1, _ => exact (by show w.heap.size ≤ w.heap.size + 3; omega))))
      have sr := sr.keeps hkp
      clear hA
      refine ⟨(by rfl), fun K hK => ?_⟩
      go_simp
      refine (signed_any false (.slice ro _ rc) (m % n) k2 _ sr hrn).mono ?_
      rintro e wq ⟨v, rfl, c, hb⟩
      exact hK.out _ _ c hb
    refine Rely.Chain.storeOld 0 6 26 (by rfl) (by rfl) (by decide) (Rely.own_one (by rfl)) (fun T xs wr hA hB0 => ?_) ?_
    · have e4 := hA.pre 4 (by kernel_rfl)
      simp only [List.getElem?_toArray, List.getElem?_cons_succ, List.getElem?_cons_zero] at e4
      have hB : wr.heap[w.heap.size + 2]? = _ := hB0.trans HB_q.out
      clear hB0
      have e49 := hA.tm 6 49 (by rfl) (by rfl)
      have hc : CI wr (xs 6) (sg false (m / n)) (k1 + 3) := hA.fa 6 (by rfl)
      obtain ⟨b_h, o_h, l_h, k_h, hv⟩ := hc.shape
      clear hc
      rw [hv] at e49
      have z0 := cell_at hB 0 rfl
      have z1 := cell_at hB 1 rfl
      have fz0 := froz_at hB 0
      have fz1 := froz_at hB 1
      clear hA
      refine ⟨(by rfl), fun K hK => ?_⟩
      go_simp
      exact hK.out _ _ hv (hset2 hB _ _) (priv2 hB (by rfl) (by rfl))
    refine Rely.Chain.storeOld 1 10 26 (by rfl) (by rfl) (by decide) (Rely.own_one (by rfl)) (fun T xs wr hA hB0 => ?_) ?_
    · have e5 := hA.pre 5 (by kernel_rfl)
      simp only [List.getElem?_toArray, List.getElem?_cons_succ, List.getElem?_cons_zero] at e5
      have hB : wr.heap[w.heap.size + 3]? = _ := hB0.trans HB_r.out
      clear hB0
      have e53 := hA.tm 10 53 (by rfl) (by rfl)
      have hc : CI wr (xs 10) (sg false (m % n)) k2 := hA.fa 10 (by rfl)
      obtain ⟨b_h, o_h, l_h, k_h, hv⟩ := hc.shape
      clear hc
      rw [hv] at e53
      have z0 := cell_at hB 0 rfl
      have z1 := cell_at hB 1 rfl
      have fz0 := froz_at hB 0
      have fz1 := froz_at hB 1
      clear hA
      refine ⟨(by rfl), fun K hK => ?_⟩
      go_simp
      exact hK.out _ _ hv (hset2 hB _ _) (priv2 hB (by rfl) (by rfl))
    refine Rely.Chain.det ?_ (by rfl) (fun T xs wr hA => ?_) ?_
    rotate_left 1
    · clear hA
      refine ⟨(by rfl), ?_⟩
      go_simp <;> (try with_reducible rfl)
    refine Rely.Chain.done (fun xs wx3 hL => ?_)
    obtain ⟨⟨hbe, hbl, hkp0⟩, hf, hp, hn⟩ := hL
    have f0 : xs 0 = _ := hf 0 (by decide)
    (try simp (disch := rfl) only [Rely.mask_in] at f0)
    have f1 : xs 1 = _ := hf 1 (by decide)
    (try simp (disch := rfl) only [Rely.mask_in] at f1)
    have f2 : xs 2 = _ := hf 2 (by decide)
    (try simp (disch := rfl) only [Rely.mask_in] at f2)
    have f3 : xs 3 = _ := hf 3 (by decide)
    (try simp (disch := rfl) only [Rely.mask_in] at f3)
    have f4 : xs 4 = _ := hf 4 (by decide)
    (try simp (disch := rfl) only [Rely.mask_in] at f4)
    have f5 : xs 5 = _ := hf 5 (by decide)
    (try simp (disch := rfl) only [Rely.mask_in] at f5)
    have c_q2 : CI wx3 (xs 6) (sg false (m / n)) (k1 + 3) := hf 6 (by decide)
    have f7 : xs 7 = _ := hf 7 (by decide)
    (try simp (disch := rfl) only [Rely.mask_in] at f7)
    have f8 : xs 8 = _ := hf 8 (by decide)
    (try simp (disch := rfl) only [Rely.mask_in] at f8)
    have f9 : xs 9 = _ := hf 9 (by decide)
    (try simp (disch := rfl) only [Rely.mask_in] at f9)
    have c_r2 : CI wx3 (xs 10) (sg false (m % n)) k2 := hf 10 (by decide)
    obtain ⟨cc, hv, hB_q⟩ := hf 11 (by decide)
    change xs 6 = _ at hv
    obtain ⟨b_q2, o_q2, l_q2, k_q2, hs_q2⟩ := c_q2.shape
    rw [hs_q2] at hv
    injection hv with hv
    subst hv
    obtain ⟨cc, hv, hB_r⟩ := hf 12 (by decide)
    change xs 10 = _ at hv
    obtain ⟨b_r2, o_r2, l_r2, k_r2, hs_r2⟩ := c_r2.shape
    rw [hs_r2] at hv
    injection hv with hv
    subst hv
    have f13 : xs 13 = _ := hf 13 (by decide)
    (try simp (disch := rfl) only [Rely.mask_in] at f13)
    clear hf hp hn
    refine Rely.rest_done ?_
    rw [hs_q2] at c_q2
    rw [hs_r2] at c_r2
    simp only [Rely.fill, List.setIfInBounds_toArray, List.set_cons_zero, List.set_cons_succ, f0, f1, f2, f3, f4, f5, f7, f8, f9, f13, hs_q2, hs_r2]
    clear f0 f1 f2 f3 f4 f5 f7 f8 f9 f13 hs_q2 hs_r2
    clear xs
    replace hkp0 := undrewK hkp0
    replace hg := hg.keeps hkp0
    replace hg2 := hg2.keeps hkp0
    replace sq := sq.keeps hkp0
    replace sr := sr.keeps hkp0
    replace hbt := hbt.trans (undrew (hbe w.heap.size hszb (fun q hq => by match q, hq with | 0, _ => exact (by show w.heap.size ≤ w.heap.size + 2; omega) | 1, _ => exact (by show w.heap.size ≤ w.heap.size + 3; omega))))
    replace HB_xa := Lib.hid ((hbl _ hlt_xa (fun q hq => by match q, hq with | 0, _ => exact (by show w.heap.size + 2 ≠ w.heap.size; omega) | 1, _ => exact (by show w.heap.size + 3 ≠ w.heap.size; omega))).trans HB_xa.out)
    replace HB_xb := Lib.hid ((hbl _ hlt_xb (fun q hq => by match q, hq with | 0, _ => exact (by show w.heap.size + 2 ≠ w.heap.size + 1; omega) | 1, _ => exact (by show w.heap.size + 3 ≠ w.heap.size + 1; omega))).trans HB_xb.out)
    replace HB_q := Lib.hid (show wx3.heap[w.heap.size + 2]? = some (.cells #[.bool b_q2, .slice o_q2 l_q2 k_q2] 26 (0, 0)) from hB_q)
    clear hB_q
    replace HB_r := Lib.hid (show wx3.heap[w.heap.size + 3]? = some (.cells #[.bool b_r2, .slice o_r2 l_r2 k_r2] 26 (0, 0)) from hB_r)
    clear hB_r
    clear hkp0 hbe hbl hszb
    replace xa0 := cell_at (v := .bool false) HB_xa.out 0 rfl
    replace xa1 := cell_at (v := .slice ao l c) HB_xa.out 1 rfl
    replace xb0 := cell_at (v := .bool false) HB_xb.out 0 rfl
    replace xb1 := cell_at (v := .slice po pl pc) HB_xb.out 1 rfl
    replace q0 := cell_at (v := .bool b_q2) HB_q.out 0 rfl
    replace q1 := cell_at (v := .slice o_q2 l_q2 k_q2) HB_q.out 1 rfl
    replace r0 := cell_at (v := .bool b_r2) HB_r.out 0 rfl
    replace r1 := cell_at (v := .slice o_r2 l_r2 k_r2) HB_r.out 1 rfl
    clear hlt_xa hlt_xb hlt_q hlt_r
    go_wp2_with fail
    exact bodyPost_ret (v := .tuple #[.agg #[.bool b_q2, .slice o_q2 l_q2 k_q2], .agg #[.bool b_r2, .slice o_r2 l_r2 k_r2], .bool true]) (by simp [results, Try.results45, go_sem, q0, q1, r0, r1]) rfl ⟨_, _, rfl, c_q2, c_r2, hbt⟩
  · obtain rfl : s = true := hs
    have hl0 : (dig L32 (m % n)).length ≤ 0 := by
      rcases h with h | h
      · cases h
      · rw [h, dig_zero]; exact Nat.le_refl _
    clear h
    have hbt := Below.refl w.heap.size w
    go_enter Try.func45, Try.ntmps45
    go_wp2_with fail
    have hbx : Below w.heap.size w ((((w.alloc (.cells #[.bool false, .slice ao l c] 26)).alloc (.cells #[.bool true, .slice po pl pc] 26)).alloc (.cells #[.bool false, .slice none 0 0] 26)).alloc (.cells #[.bool false, .slice none 0 0] 26)) := (((((Below.refl _ _).alloc (by simp) _).alloc (by simp) _).alloc (by simp; omega) _).alloc (by simp; omega) _)
    replace hg := hg.below hbx
    replace hg2 := hg2.below hbx
    replace hbt := hbt.trans (hbx.mono hbt.size)
    clear hbx
    have HB_xa : Hid (((((w.alloc (.cells #[.bool false, .slice ao l c] 26)).alloc (.cells #[.bool true, .slice po pl pc] 26)).alloc (.cells #[.bool false, .slice none 0 0] 26)).alloc (.cells #[.bool false, .slice none 0 0] 26)).heap[w.heap.size]? = some (.cells #[.bool false, .slice ao l c] 26 (0, 0))) := Lib.hid (made_more (made_more (made_more (made_at w (.cells #[.bool false, .slice ao l c] 26) _ (by first | rfl | simp)) _) _) _)
    have HB_xb : Hid (((((w.alloc (.cells #[.bool false, .slice ao l c] 26)).alloc (.cells #[.bool true, .slice po pl pc] 26)).alloc (.cells #[.bool false, .slice none 0 0] 26)).alloc (.cells #[.bool false, .slice none 0 0] 26)).heap[w.heap.size + 1]? = some (.cells #[.bool true, .slice po pl pc] 26 (0, 0))) := Lib.hid (made_more (made_more (made_at (w.alloc (.cells #[.bool false, .slice ao l c] 26)) (.cells #[.bool true, .slice po pl pc] 26) _ (by first | rfl | simp)) _) _)
    have HB_q : Hid (((((w.alloc (.cells #[.bool false, .slice ao l c] 26)).alloc (.cells #[.bool true, .slice po pl pc] 26)).alloc (.cells #[.bool false, .slice none 0 0] 26)).alloc (.cells #[.bool false, .slice none 0 0] 26)).heap[w.heap.size + 2]? = some (.cells #[.bool false, .slice none 0 0] 26 (0, 0))) := Lib.hid (made_more (made_at ((w.alloc (.cells #[.bool false, .slice ao l c] 26)).alloc (.cells #[.bool true, .slice po pl pc] 26)) (.cells #[.bool false, .slice none 0 0] 26) _ (by first | rfl | simp)) _)
    have HB_r : Hid (((((w.alloc (.cells #[.bool false, .slice ao l c] 26)).alloc (.cells #[.bool true, .slice po pl pc] 26)).alloc (.cells #[.bool false, .slice none 0 0] 26)).alloc (.cells #[.bool false, .slice none 0 0] 26)).heap[w.heap.size + 3]? = some (.cells #[.bool false, .slice none 0 0] 26 (0, 0))) := Lib.hid (made_at (((w.alloc (.cells #[.bool false, .slice ao l c] 26)).alloc (.cells #[.bool true, .slice po pl pc] 26)).alloc (.cells #[.bool false, .slice none 0 0] 26)) (.cells #[.bool false, .slice none 0 0] 26) _ (by first | rfl | simp))
    generalize ((((w.alloc (.cells #[.bool false, .slice ao l c] 26)).alloc (.cells #[.bool true, .slice po pl pc] 26)).alloc (.cells #[.bool false, .slice none 0 0] 26)).alloc (.cells #[.bool false, .slice none 0 0] 26)) = wx1 at *
    have xa0 := cell_at (v := .bool false) HB_xa.out 0 rfl
    have xa1 := cell_at (v := .slice ao l c) HB_xa.out 1 rfl
    have xb0 := cell_at (v := .bool true) HB_xb.out 0 rfl
    have xb1 := cell_at (v := .slice po pl pc) HB_xb.out 1 rfl
    have q0 := cell_at (v := .bool false) HB_q.out 0 rfl
    have q1 := cell_at (v := .slice none 0 0) HB_q.out 1 rfl
    have r0 := cell_at (v := .bool false) HB_r.out 0 rfl
    have r1 := cell_at (v := .slice none 0 0) HB_r.out 1 rfl
    refine (div_d hg hg2 h1 h0).mono ?_
    rintro e wx2 ⟨vq, vr, rfl, sq, sr, hbx⟩
    replace hg := hg.below hbx
    replace hg2 := hg2.below hbx
    replace hbt := hbt.trans (hbx.mono hbt.size)
    replace HB_xa := Lib.hid ((hbx.block _ (lt_of_block HB_xa.out)).trans HB_xa.out)
    replace HB_xb := Lib.hid ((hbx.block _ (lt_of_block HB_xb.out)).trans HB_xb.out)
    replace HB_q := Lib.hid ((hbx.block _ (lt_of_block HB_q.out)).trans HB_q.out)
    replace HB_r := Lib.hid ((hbx.block _ (lt_of_block HB_r.out)).trans HB_r.out)
    clear hbx
    replace xa0 := cell_at (v := .bool false) HB_xa.out 0 rfl
    replace xa1 := cell_at (v := .slice ao l c) HB_xa.out 1 rfl
    replace xb0 := cell_at (v := .bool true) HB_xb.out 0 rfl
    replace xb1 := cell_at (v := .slice po pl pc) HB_xb.out 1 rfl
    replace q0 := cell_at (v := .bool false) HB_q.out 0 rfl
    replace q1 := cell_at (v := .slice none 0 0) HB_q.out 1 rfl
    replace r0 := cell_at (v := .bool false) HB_r.out 0 rfl
    replace r1 := cell_at (v := .slice none 0 0) HB_r.out 1 rfl
    obtain ⟨qo, qc, rfl⟩ := sl_shape sq
    obtain ⟨ro, rc, rfl⟩ := sl_shape sr
    go_wp2_with fail
    have hlt_xa := lt_of_block HB_xa.out
    have hlt_xb := lt_of_block HB_xb.out
    have hlt_q := lt_of_block HB_q.out
    have hlt_r := lt_of_block HB_r.out
    have hszb := hbt.size
    refine Rely.region (by kernel_rfl) [[], [0], [], [2], [0, 1, 2, 3], [], [0, 1, 2, 3, 4, 5], [], [7], [], [0, 1, 2, 3, 4, 5, 6, 7, 8, 9], [0, 1, 2, 3, 4, 5, 6, 7, 8, 9, 10], [0, 1, 2, 3, 4, 5, 6, 7, 8, 9, 10, 11], [0, 1, 2, 3, 4, 5, 6, 7, 8, 9, 10, 11, 12]] [] [(11, 1000), (12, 1001)] (fun q => [w.heap.size + 2, w.heap.size + 3].getD q 0) 2 14 (by kernel_rfl) (by kernel_rfl) (fun q hq => by match q, hq with | 0, _ => exact hlt_q | 1, _ => exact hlt_r) (fun q r hq hr hne => by match q, r, hq, hr, hne with | 0, 0, _, _, h => exact absurd rfl h | 0, 1, _, _, h => exact (by show w.heap.size + 2 ≠ w.heap.size + 3; omega) | 1, 0, _, _, h => exact (by show w.heap.size + 3 ≠ w.heap.size + 2; omega) | 1, 1, _, _, h => exact absurd rfl h) ?_
    refine Rely.Chain.det ?_ (by rfl) (fun T xs wr hA => ?_) ?_
    rotate_left 1
    · have e2 := hA.pre 2 (by kernel_rfl)
      simp only [List.getElem?_toArray, List.getElem?_cons_succ, List.getElem?_cons_zero] at e2
      clear hA
      refine ⟨(by rfl), ?_⟩
      go_simp <;> (try with_reducible rfl)
    refine Rely.Chain.det ?_ (by rfl) (fun T xs wr hA => ?_) ?_
    rotate_left 1
    · have e43 := hA.tm 0 43 (by rfl) (by rfl)
      have f43 : xs 0 = _ := hA.fa 0 (by rfl)
      (try simp (disch := rfl) only [Rely.mask_in] at f43)
      rw [f43] at e43
      clear f43
      have hBq : wr.heap[w.heap.size]? = _ := (hA.bl _ hlt_xa (fun q hq => by match q, hq with | 0, _ => exact (by show w.heap.size + 2 ≠ w.heap.size; omega) | 1, _ => exact (by show w.heap.size + 3 ≠ w.heap.size; omega))).trans HB_xa.out
      have q0 := cell_at (v := .bool false) hBq 0 rfl
      have q1 := cell_at (v := .slice ao l c) hBq 1 rfl
      clear hBq
      clear hA
      refine ⟨(by rfl), ?_⟩
      go_simp <;> (try with_reducible rfl)
    refine Rely.Chain.det ?_ (by rfl) (fun T xs wr hA => ?_) ?_
    rotate_left 1
    · have e3 := hA.pre 3 (by kernel_rfl)
      simp only [List.getElem?_toArray, List.getElem?_cons_succ, List.getElem?_cons_zero] at e3
      clear hA
      refine ⟨(by rfl), ?_⟩
      go_simp <;> (try with_reducible rfl)
    refine Rely.Chain.det ?_ (by rfl) (fun T xs wr hA => ?_) ?_
    rotate_left 1
    · have e45 := hA.tm 2 45 (by rfl) (by rfl)
      have f45 : xs 2 = _ := hA.fa 2 (by rfl)
      (try simp (disch := rfl) only [Rely.mask_in] at f45)
      rw [f45] at e45
      clear f45
      have hBq : wr.heap[w.heap.size + 1]? = _ := (hA.bl _ hlt_xb (fun q hq => by match q, hq with | 0, _ => exact (by show w.heap.size + 2 ≠ w.heap.size + 1; omega) | 1, _ => exact (by show w.heap.size + 3 ≠ w.heap.size + 1; omega))).trans HB_xb.out
      have q0 := cell_at (v := .bool true) hBq 0 rfl
      have q1 := cell_at (v := .slice po pl pc) hBq 1 rfl
      clear hBq
      clear hA
      refine ⟨(by rfl), ?_⟩
      go_simp <;> (try with_reducible rfl)
    refine Rely.Chain.det ?_ (by rfl) (fun T xs wr hA => ?_) ?_
    rotate_left 1
    · have e44 := hA.tm 1 44 (by rfl) (by rfl)
      have f44 : xs 1 = _ := hA.fa 1 (by rfl)
      (try simp (disch := rfl) only [Rely.mask_in] at f44)
      rw [f44] at e44
      clear f44
      have e46 := hA.tm 3 46 (by rfl) (by rfl)
      have f46 : xs 3 = _ := hA.fa 3 (by rfl)
      (try simp (disch := rfl) only [Rely.mask_in] at f46)
      rw [f46] at e46
      clear f46
      clear hA
      refine ⟨(by rfl), ?_⟩
      go_simp <;> (try with_reducible rfl)
    refine Rely.Chain.det ?_ (by rfl) (fun T xs wr hA => ?_) ?_
    rotate_left 1
    · have e7 := hA.pre 7 (by kernel_rfl)
      simp only [List.getElem?_toArray, List.getElem?_cons_succ, List.getElem?_cons_zero] at e7
      clear hA
      refine ⟨(by rfl), ?_⟩
      go_simp <;> (try with_reducible rfl)
    refine Rely.Chain.call (fun _ v w => CI w v (sg true (m / n)) (k1 + 3)) (fun _ _ _ _ h hb => h.below hb) (fun _ _ _ _ _ h hp => h.keeps hp.keeps) (by rfl) (fun T xs wr hA => ?_) ?_
    · have e47 := hA.tm 4 47 (by rfl) (by rfl)
      have f47 : xs 4 = _ := hA.fa 4 (by rfl)
      (try simp (disch := rfl) only [Rely.mask_in] at f47)
      rw [f47] at e47
      clear f47
      have e48 := hA.tm 5 48 (by rfl) (by rfl)
      have f48 : xs 5 = _ := hA.fa 5 (by rfl)
      (try simp (disch := rfl) only [Rely.mask_in] at f48)
      rw [f48] at e48
      clear f48
      have hkp := undrewK hA.kp
      have hbt' := hbt.trans (undrew (hA.be w.heap.size hszb (fun q hq => by match q, hq with | 0, _ => exact (by show w.heap.size ≤ w.heap.size + 2; omega) | 1, _ => exact (by show w.heap.size ≤ w.heap.size + 3; omega))))
      have sq := sq.keeps hkp
      clear hA
      refine ⟨(by rfl), fun K hK => ?_⟩
      go_simp
      refine (signed_any true (.slice qo _ qc) (m / n) (k1 + 3) _ sq hqn).mono ?_
      rintro e wq ⟨v, rfl, c, hb⟩
      exact hK.out _ _ c hb
    refine Rely.Chain.det ?_ (by rfl) (fun T xs wr hA => ?_) ?_
    rotate_left 1
    · have e3 := hA.pre 3 (by kernel_rfl)
      simp only [List.getElem?_toArray, List.getElem?_cons_succ, List.getElem?_cons_zero] at e3
      clear hA
      refine ⟨(by rfl), ?_⟩
      go_simp <;> (try with_reducible rfl)
    refine Rely.Chain.det ?_ (by rfl) (fun T xs wr hA => ?_) ?_
    rotate_left 1
    · have e50 := hA.tm 7 50 (by rfl) (by rfl)
      have f50 : xs 7 = _ := hA.fa 7 (by rfl)
      (try simp (disch := rfl) only [Rely.mask_in] at f50)
      rw [f50] at e50
      clear f50
      have hBq : wr.heap[w.heap.size + 1]? = _ := (hA.bl _ hlt_xb (fun q hq => by match q, hq with | 0, _ => exact (by show w.heap.size + 2 ≠ w.heap.size + 1; omega) | 1, _ => exact (by show w.heap.size + 3 ≠ w.heap.size + 1; omega))).trans HB_xb.out
      have q0 := cell_at (v := .bool true) hBq 0 rfl
      have q1 := cell_at (v := .slice po pl pc) hBq 1 rfl
      clear hBq
      clear hA
      refine ⟨(by rfl), ?_⟩
      go_simp <;> (try with_reducible rfl)
    refine Rely.Chain.det ?_ (by rfl) (fun T xs wr hA => ?_) ?_
    rotate_left 1
    · have e8 := hA.pre 8 (by kernel_rfl)
      simp only [List.getElem?_toArray, List.getElem?_cons_succ, List.getElem?_cons_zero] at e8
      clear hA
      refine ⟨(by rfl), ?_⟩
      go_simp <;> (try with_reducible rfl)
    refine Rely.Chain.call (fun _ v w => CI w v (sg true (m % n)) k2) (fun _ _ _ _ h hb => h.below hb) (fun _ _ _ _ _ h hp => h.keeps hp.keeps) (by rfl) (fun T xs wr hA => ?_) ?_
    · have e51 := hA.tm 8 51 (by rfl) (by rfl)
      have f51 : xs 8 = _ := hA.fa 8 (by rfl)
      (try simp (disch := rfl) only [Rely.mask_in] at f51)
      rw [f51] at e51
      clear f51
      have e52 := hA.tm 9 52 (by rfl) (by rfl)
      have f52 : xs 9 = _ := hA.fa 9 (by rfl)
      (try simp (disch := rfl) only [Rely.mask_in] at f52)
      rw [f52] at e52
      clear f52
      have hkp := undrewK hA.kp
      have hbt' := hbt.trans (undrew (hA.be w.heap.size hszb (fun q hq => by match q, hq with | 0, _ => exact (by show w.heap.size ≤ w.heap.size + 2; omega) | 1, _ => exact (by show w.heap.size ≤ w.heap.size + 3; omega))))
      have sr := sr.keeps hkp
      clear hA
      refine ⟨(by rfl), fun K hK => ?_⟩
      go_simp
      refine (signed_any true (.slice ro _ rc) (m % n) k2 _ sr hrn).mono ?_
      rintro e wq ⟨v, rfl, c, hb⟩
      exact hK.out _ _ c hb
    refine Rely.Chain.storeOld 0 6 26 (by rfl) (by rfl) (by decide) (Rely.own_one (by rfl)) (fun T xs wr hA hB0 => ?_) ?_
    · have e4 := hA.pre 4 (by kernel_rfl)
      simp only [List.getElem?_toArray, List.getElem?_cons_succ, List.getElem?_cons_zero] at e4
      have hB : wr.heap[w.heap.size + 2]? = _ := hB0.trans HB_q.out
      clear hB0
      have e49 := hA.tm 6 49 (by rfl) (by rfl)
      have hc : CI wr (xs 6) (sg true (m / n)) (k1 + 3) := hA.fa 6 (by rfl)
      obtain ⟨b_h, o_h, l_h, k_h, hv⟩ := hc.shape
      clear hc
      rw [hv] at e49
      have z0 := cell_at hB 0 rfl
      have z1 := cell_at hB 1 rfl
      have fz0 := froz_at hB 0
      have fz1 := froz_at hB 1
      clear hA
      refine ⟨(by rfl), fun K hK => ?_⟩
      go_simp
      exact hK.out _ _ hv (hset2 hB _ _) (priv2 hB (by rfl) (by rfl))
    refine Rely.Chain.storeOld 1 10 26 (by rfl) (by rfl) (by decide) (Rely.own_one (by rfl)) (fun T xs wr hA hB0 => ?_) ?_
    · have e5 := hA.pre 5 (by kernel_rfl)
      simp only [List.getElem?_toArray, List.getElem?_cons_succ, List.getElem?_cons_zero] at e5
      have hB : wr.heap[w.heap.size + 3]? = _ := hB0.trans HB_r.out
      clear hB0
      have e53 := hA.tm 10 53 (by rfl) (by rfl)
      have hc : CI wr (xs 10) (sg true (m % n)) k2 := hA.fa 10 (by rfl)
      obtain ⟨b_h, o_h, l_h, k_h, hv⟩ := hc.shape
      clear hc
      rw [hv] at e53
      have z0 := cell_at hB 0 rfl
      have z1 := cell_at hB 1 rfl
      have fz0 := froz_at hB 0
      have fz1 := froz_at hB 1
      clear hA
      refine ⟨(by rfl), fun K hK => ?_⟩
      go_simp
      exact hK.out _ _ hv (hset2 hB _ _) (priv2 hB (by rfl) (by rfl))
    refine Rely.Chain.det ?_ (by rfl) (fun T xs wr hA => ?_) ?_
    rotate_left 1
    · clear hA
      refine ⟨(by rfl), ?_⟩
      go_simp <;> (try with_reducible rfl)
    refine Rely.Chain.done (fun xs wx3 hL => ?_)
    obtain ⟨⟨hbe, hbl, hkp0⟩, hf, hp, hn⟩ := hL
    have f0 : xs 0 = _ := hf 0 (by decide)
    (try simp (disch := rfl) only [Rely.mask_in] at f0)
    have f1 : xs 1 = _ := hf 1 (by decide)
    (try simp (disch := rfl) only [Rely.mask_in] at f1)
    have f2 : xs 2 = _ := hf 2 (by decide)
    (try simp (disch := rfl) only [Rely.mask_in] at f2)
    have f3 : xs 3 = _ := hf 3 (by decide)
    (try simp (disch := rfl) only [Rely.mask_in] at f3)
    have f4 : xs 4 = _ := hf 4 (by decide)
    (try simp (disch := rfl) only [Rely.mask_in] at f4)
    have f5 : xs 5 = _ := hf 5 (by decide)
    (try simp (disch := rfl) only [Rely.mask_in] at f5)
    have c_q2 : CI wx3 (xs 6) (sg true (m / n)) (k1 + 3) := hf 6 (by decide)
    have f7 : xs 7 = _ := hf 7 (by decide)
    (try simp (disch := rfl) only [Rely.mask_in] at f7)
    have f8 : xs 8 = _ := hf 8 (by decide)
    (try simp (disch := rfl) only [Rely.mask_in] at f8)
    have f9 : xs 9 = _ := hf 9 (by decide)
    (try simp (disch := rfl) only [Rely.mask_in] at f9)
    have c_r2 : CI wx3 (xs 10) (sg true (m % n)) k2 := hf 10 (by decide)
    obtain ⟨cc, hv, hB_q⟩ := hf 11 (by decide)
    change xs 6 = _ at hv
    obtain ⟨b_q2, o_q2, l_q2, k_q2, hs_q2⟩ := c_q2.shape
    rw [hs_q2] at hv
    injection hv with hv
    subst hv
    obtain ⟨cc, hv, hB_r⟩ := hf 12 (by decide)
    change xs 10 = _ at hv
    obtain ⟨b_r2, o_r2, l_r2, k_r2, hs_r2⟩ := c_r2.shape
    rw [hs_r2] at hv
    injection hv with hv
    subst hv
    have f13 : xs 13 = _ := hf 13 (by decide)
    (try simp (disch := rfl) only [Rely.mask_in] at f13)
    clear hf hp hn
    refine Rely.rest_done ?_
    rw [hs_q2] at c_q2
    rw [hs_r2] at c_r2
    simp only [Rely.fill, List.setIfInBounds_toArray, List.set_cons_zero, List.set_cons_succ, f0, f1, f2, f3, f4, f5, f7, f8, f9, f13, hs_q2, hs_r2]
    clear f0 f1 f2 f3 f4 f5 f7 f8 f9 f13 hs_q2 hs_r2
    clear xs
    replace hkp0 := undrewK hkp0
    replace hg := hg.keeps hkp0
    replace hg2 := hg2.keeps hkp0
    replace sq := sq.keeps hkp0
    replace sr := sr.keeps hkp0
    replace hbt := hbt.trans (undrew (hbe w.heap.size hszb (fun q hq => by match q, hq with | 0, _ => exact (by show w.heap.size ≤ w.heap.size + 2; omega) | 1, _ => exact (by show w.heap.size ≤ w.heap.size + 3; omega))))
    replace HB_xa := Lib.hid ((hbl _ hlt_xa (fun q hq => by match q, hq with | 0, _ => exact (by show w.heap.size + 2 ≠ w.heap.size; omega) | 1, _ => exact (by show w.heap.size + 3 ≠ w.heap.size; omega))).trans HB_xa.out)
    replace HB_xb := Lib.hid ((hbl _ hlt_xb (fun q hq => by match q, hq with | 0, _ => exact (by show w.heap.size + 2 ≠ w.heap.size + 1; omega) | 1, _ => exact (by show w.heap.size + 3 ≠ w.heap.size + 1; omega))).trans HB_xb.out)
    replace HB_q := Lib.hid (show wx3.heap[w.heap.size + 2]? = some (.cells #[.bool b_q2, .slice o_q2 l_q2 k_q2] 26 (0, 0)) from hB_q)
    clear hB_q
    replace HB_r := Lib.hid (show wx3.heap[w.heap.size + 3]? = some (.cells #[.bool b_r2, .slice o_r2 l_r2 k_r2] 26 (0, 0)) from hB_r)
    clear hB_r
    clear hkp0 hbe hbl hszb
    replace xa0 := cell_at (v := .bool false) HB_xa.out 0 rfl
    replace xa1 := cell_at (v := .slice ao l c) HB_xa.out 1 rfl
    replace xb0 := cell_at (v := .bool true) HB_xb.out 0 rfl
    replace xb1 := cell_at (v := .slice po pl pc) HB_xb.out 1 rfl
    replace q0 := cell_at (v := .bool b_q2) HB_q.out 0 rfl
    replace q1 := cell_at (v := .slice o_q2 l_q2 k_q2) HB_q.out 1 rfl
    replace r0 := cell_at (v := .bool b_r2) HB_r.out 0 rfl
    replace r1 := cell_at (v := .slice o_r2 l_r2 k_r2) HB_r.out 1 rfl
    clear hlt_xa hlt_xb hlt_q hlt_r
    go_wp2_with fail
    exact bodyPost_ret (v := .tuple #[.agg #[.bool b_q2, .slice o_q2 l_q2 k_q2], .agg #[.bool b_r2, .slice o_r2 l_r2 k_r2], .bool true]) (by simp [results, Try.results45, go_sem, q0, q1, r0, r1]) rfl ⟨_, _, rfl, c_q2, c_r2, hbt⟩
  · obtain rfl : s = true := hs
    have hl0 : (dig L32 (m % n)).length ≤ 0 := by
      rcases h with h | h
      · cases h
      · rw [h, dig_zero]; exact Nat.le_refl _
    clear h
    have hbt := Below.refl w.heap.size w
    go_enter Try.func45, Try.ntmps45
    go_wp2_with fail
    have hbx : Below w.heap.size w ((((w.alloc (.cells #[.bool true, .slice ao l c] 26)).alloc (.cells #[.bool false, .slice po pl pc] 26)).alloc (.cells #[.bool false, .slice none 0 0] 26)).alloc (.cells #[.bool false, .slice none 0 0] 26)) := (((((Below.refl _ _).alloc (by simp) _).alloc (by simp) _).alloc (by simp; omega) _).alloc (by simp; omega) _)
    replace hg := hg.below hbx
    replace hg2 := hg2.below hbx
    replace hbt := hbt.trans (hbx.mono hbt.size)
    clear hbx
    have HB_xa : Hid (((((w.alloc (.cells #[.bool true, .slice ao l c] 26)).alloc (.cells #[.bool false, .slice po pl pc] 26)).alloc (.cells #[.bool false, .slice none 0 0] 26)).alloc (.cells #[.bool false, .slice none 0 0] 26)).heap[w.heap.size]? = some (.cells #[.bool true, .slice ao l c] 26 (0, 0))) := Lib.hid (made_more (made_more (made_more (made_at w (.cells #[.bool true, .slice ao l c] 26) _ (by first | rfl | simp)) _) _) _)
    have HB_xb : Hid (((((w.alloc (.cells #[.bool true, .slice ao l c] 26)).alloc (.cells #[.bool false, .slice po pl pc] 26)).alloc (.cells #[.bool false, .slice none 0 0] 26)).alloc (.cells #[.bool false, .slice none 0 0] 26)).heap[w.heap.size + 1]? = some (.cells #[.bool false, .slice po pl pc] 26 (0, 0))) := Lib.hid (made_more (made_more (made_at (w.alloc (.cells #[.bool true, .slice ao l c] 26)) (.cells #[.bool false, .slice po pl pc] 26) _ (by first | rfl | simp)) _) _)
    have HB_q : Hid (((((w.alloc (.cells #[.bool true, .slice ao l c] 26)).alloc (.cells #[.bool false, .slice po pl pc] 26)).alloc (.cells #[.bool false, .slice none 0 0] 26)).alloc (.cells #[.bool false, .slice none 0 0] 26)).heap[w.heap.size + 2]? = some (.cells #[.bool false, .slice none 0 0] 26 (0, 0))) := Lib.hid (made_more (made_at ((w.alloc (.cells #[.bool true, .slice ao l c] 26)).alloc (.cells #[.bool false, .slice po pl pc] 26)) (.cells #[.bool false, .slice none 0 0] 26) _ (by first | rfl | simp)) _)
    have HB_r : Hid (((((w.alloc (.cells #[.bool true, .slice ao l c] 26)).alloc (.cells #[.bool false, .slice po pl pc] 26)).alloc (.cells #[.bool false, .slice none 0 0] 26)).alloc (.cells #[.bool false, .slice none 0 0] 26)).heap[w.heap.size + 3]? = some (.cells #[.bool false, .slice none 0 0] 26 (0, 0))) := Lib.hid (made_at (((w.alloc (.cells #[.bool true, .slice ao l c] 26)).alloc (.cells #[.bool false, .slice po pl pc] 26)).alloc (.cells #[.bool false, .slice none 0 0] 26)) (.cells #[.bool false, .slice none 0 0] 26) _ (by first | rfl | simp))
    generalize ((((w.alloc (.cells #[.bool true, .slice ao l c] 26)).alloc (.cells #[.bool false, .slice po pl pc] 26)).alloc (.cells #[.bool false, .slice none 0 0] 26)).alloc (.cells #[.bool false, .slice none 0 0] 26)) = wx1 at *
    have xa0 := cell_at (v := .bool true) HB_xa.out 0 rfl
    have xa1 := cell_at (v := .slice ao l c) HB_xa.out 1 rfl
    have xb0 := cell_at (v := .bool false) HB_xb.out 0 rfl
    have xb1 := cell_at (v := .slice po pl pc) HB_xb.out 1 rfl
    have q0 := cell_at (v := .bool false) HB_q.out 0 rfl
    have q1 := cell_at (v := .slice none 0 0) HB_q.out 1 rfl
    have r0 := cell_at (v := .bool false) HB_r.out 0 rfl
    have r1 := cell_at (v := .slice none 0 0) HB_r.out 1 rfl
    refine (div_d hg hg2 h1 h0).mono ?_
    rintro e wx2 ⟨vq, vr, rfl, sq, sr, hbx⟩
    replace hg := hg.below hbx
    replace hg2 := hg2.below hbx
    replace hbt := hbt.trans (hbx.mono hbt.size)
    replace HB_xa := Lib.hid ((hbx.block _ (lt_of_block HB_xa.out)).trans HB_xa.out)
    replace HB_xb := Lib.hid ((hbx.block _ (lt_of_block HB_xb.out)).trans HB_xb.out)
    replace HB_q := Lib.hid ((hbx.block _ (lt_of_block HB_q.out)).trans HB_q.out)
    replace HB_r := Lib.hid ((hbx.block _ (lt_of_block HB_r.out)).trans HB_r.out)
    clear hbx
    replace xa0 := cell_at (v := .bool true) HB_xa.out 0 rfl
    replace xa1 := cell_at (v := .slice ao l c) HB_xa.out 1 rfl
    replace xb0 := cell_at (v := .bool false) HB_xb.out 0 rfl
    replace xb1 := cell_at (v := .slice po pl pc) HB_xb.out 1 rfl
    replace q0 := cell_at (v := .bool false) HB_q.out 0 rfl
    replace q1 := cell_at (v := .slice none 0 0) HB_q.out 1 rfl
    replace r0 := cell_at (v := .bool false) HB_r.out 0 rfl
    replace r1 := cell_at (v := .slice none 0 0) HB_r.out 1 rfl
    obtain ⟨qo, qc, rfl⟩ := sl_shape sq
    obtain ⟨ro, rc, rfl⟩ := sl_shape sr
    go_wp2_with fail
    have hlt_xa := lt_of_block HB_xa.out
    have hlt_xb := lt_of_block HB_xb.out
    have hlt_q := lt_of_block HB_q.out
    have hlt_r := lt_of_block HB_r.out
    have hszb := hbt.size
    refine Rely.region (by kernel_rfl) [[], [0], [], [2], [0, 1, 2, 3], [], [0, 1, 2, 3, 4, 5], [], [7], [], [0, 1, 2, 3, 4, 5, 6, 7, 8, 9], [0, 1, 2, 3, 4, 5, 6, 7, 8, 9, 10], [0, 1, 2, 3, 4, 5, 6, 7, 8, 9, 10, 11], [0, 1, 2, 3, 4, 5, 6, 7, 8, 9, 10, 11, 12]] [] [(11, 1000), (12, 1001)] (fun q => [w.heap.size + 2, w.heap.size + 3].getD q 0) 2 14 (by kernel_rfl) (by kernel_rfl) (fun q hq => by match q, hq with | 0, _ => exact hlt_q | 1, _ => exact hlt_r) (fun q r hq hr hne => by match q, r, hq, hr, hne with | 0, 0, _, _, h => exact absurd rfl h | 0, 1, _, _, h => exact (by show w.heap.size + 2 ≠ w.heap.size + 3; omega) | 1, 0, _, _, h => exact (by show w.heap.size + 3 ≠ w.heap.size + 2; omega) | 1, 1, _, _, h => exact absurd rfl h) ?_
    refine Rely.Chain.det ?_ (by rfl) (fun T xs wr hA => ?_) ?_
    rotate_left 1
    · have e2 := hA.pre 2 (by kernel_rfl)
      simp only [List.getElem?_toArray, List.getElem?_cons_succ, List.getElem?_cons_zero] at e2
      clear hA
      refine ⟨(by rfl), ?_⟩
      go_simp <;> (try with_reducible rfl)
    refine Rely.Chain.det ?_ (by rfl) (fun T xs wr hA => ?_) ?_
    rotate_left 1
    · have e43 := hA.tm 0 43 (by rfl) (by rfl)
      have f43 : xs 0 = _ := hA.fa 0 (by rfl)
      (try simp (disch := rfl) only [Rely.mask_in] at f43)
      rw [f43] at e43
      clear f43
      have hBq : wr.heap[w.heap.size]? = _ := (hA.bl _ hlt_xa (fun q hq => by match q, hq with | 0, _ => exact (by show w.heap.size + 2 ≠ w.heap.size; omega) | 1, _ => exact (by show w.heap.size + 3 ≠ w.heap.size; omega))).trans HB_xa.out
      have q0 := cell_at (v := .bool true) hBq 0 rfl
      have q1 := cell_at (v := .slice ao l c) hBq 1 rfl
      clear hBq
      clear hA
      refine ⟨(by rfl), ?_⟩
      go_simp <;> (try with_reducible rfl)
    refine Rely.Chain.det ?_ (by rfl) (fun T xs wr hA => ?_) ?_
    rotate_left 1
    · have e3 := hA.pre 3 (by kernel_rfl)
      simp only [List.getElem?_toArray, List.getElem?_cons_succ, List.getElem?_cons_zero] at e3
      clear hA
      refine ⟨(by rfl), ?_⟩
      go_simp <;> (try with_reducible rfl)
    refine Rely.Chain.det ?_ (by rfl) (fun T xs wr hA => ?_) ?_
    rotate_left 1
    · have e45 := hA.tm 2 45 (by rfl) (by rfl)
      have f45 : xs 2 = _ := hA.fa 2 (by rfl)
      (try simp (disch := rfl) only [Rely.mask_in] at f45)
      rw [f45] at e45
      clear f45
      have hBq : wr.heap[w.heap.size + 1]? = _ := (hA.bl _ hlt_xb (fun q hq => by match q, hq with | 0, _ => exact (by show w.heap.size + 2 ≠ w.heap.size + 1; omega) | 1, _ => exact (by show w.heap.size + 3 ≠ w.heap.size + 1; omega))).trans HB_xb.out
      have q0 := cell_at (v := .bool false) hBq 0 rfl
      have q1 := cell_at (v := .slice po pl pc) hBq 1 rfl
      clear hBq
      clear hA
      refine ⟨(by rfl), ?_⟩
      go_simp <;> (try with_reducible rfl)
    refine Rely.Chain.det ?_ (by rfl) (fun T xs wr hA => ?_) ?_
    rotate_left 1
    · have e44 := hA.tm 1 44 (by rfl) (by rfl)
      have f44 : xs 1 = _ := hA.fa 1 (by rfl)
      (try simp (disch := rfl) only [Rely.mask_in] at f44)
      rw [f44] at e44
      clear f44
      have e46 := hA.tm 3 46 (by rfl) (by rfl)
      have f46 : xs 3 = _ := hA.fa 3 (by rfl)
      (try simp (disch := rfl) only [Rely.mask_in] at f46)
      rw [f46] at e46
      clear f46
      clear hA
      refine ⟨(by rfl), ?_⟩
      go_simp <;> (try with_reducible rfl)
    refine Rely.Chain.det ?_ (by rfl) (fun T xs wr hA => ?_) ?_
    rotate_left 1
    · have e7 := hA.pre 7 (by kernel_rfl)
      simp only [List.getElem?_toArray, List.getElem?_cons_succ, List.getElem?_cons_zero] at e7
      clear hA
      refine ⟨(by rfl), ?_⟩
      go_simp <;> (try with_reducible rfl)
    refine Rely.Chain.call (fun _ v w => CI w v (sg true (m / n)) (k1 + 3)) (fun _ _ _ _ h hb => h.below hb) (fun _ _ _ _ _ h hp => h.keeps hp.keeps) (by rfl) (fun T xs wr hA => ?_) ?_
    · have e47 := hA.tm 4 47 (by rfl) (by rfl)
      have f47 : xs 4 = _ := hA.fa 4 (by rfl)
      (try simp (disch := rfl) only [Rely.mask_in] at f47)
      rw [f47] at e47
      clear f47
      have e48 := hA.tm 5 48 (by rfl) (by rfl)
      have f48 : xs 5 = _ := hA.fa 5 (by rfl)
      (try simp (disch := rfl) only [Rely.mask_in] at f48)
      rw [f48] at e48
      clear f48
      have hkp := undrewK hA.kp
      have hbt' := hbt.trans (undrew (hA.be w.heap.size hszb (fun q hq => by match q, hq with | 0, _ => exact (by show w.heap.size ≤ w.heap.size + 2; omega) | 1, _ => exact (by show w.heap.size ≤ w.heap.size + 3; omega))))
      have sq := sq.keeps hkp
      clear hA
      refine ⟨(by rfl), fun K hK => ?_⟩
      go_simp
      refine (signed_any true (.slice qo _ qc) (m / n) (k1 + 3) _ sq hqn).mono ?_
      rintro e wq ⟨v, rfl, c, hb⟩
      exact hK.out _ _ c hb
    refine Rely.Chain.det ?_ (by rfl) (fun T xs wr hA => ?_) ?_
    rotate_left 1
    · have e3 := hA.pre 3 (by kernel_rfl)
      simp only [List.getElem?_toArray, List.getElem?_cons_succ, List.getElem?_cons_zero] at e3
      clear hA
      refine ⟨(by rfl), ?_⟩
      go_simp <;> (try with_reducible rfl)
    refine Rely.Chain.det ?_ (by rfl) (fun T xs wr hA => ?_) ?_
    rotate_left 1
    · have e50 := hA.tm 7 50 (by rfl) (by rfl)
      have f50 : xs 7 = _ := hA.fa 7 (by rfl)
      (try simp (disch := rfl) only [Rely.mask_in] at f50)
      rw [f50] at e50
      clear f50
      have hBq : wr.heap[w.heap.size + 1]? = _ := (hA.bl _ hlt_xb (fun q hq => by match q, hq with | 0, _ => exact (by show w.heap.size + 2 ≠ w.heap.size + 1; omega) | 1, _ => exact (by show w.heap.size + 3 ≠ w.heap.size + 1; omega))).trans HB_xb.out
      have q0 := cell_at (v := .bool false) hBq 0 rfl
      have q1 := cell_at (v := .slice po pl pc) hBq 1 rfl
      clear hBq
      clear hA
      refine ⟨(by rfl), ?_⟩
      go_simp <;> (try with_reducible rfl)
    refine Rely.Chain.det ?_ (by rfl) (fun T xs wr hA => ?_) ?_
    rotate_left 1
    · have e8 := hA.pre 8 (by kernel_rfl)
      simp only [List.getElem?_toArray, List.getElem?_cons_succ, List.getElem?_cons_zero] at e8
      clear hA
      refine ⟨(by rfl), ?_⟩
      go_simp <;> (try with_reducible rfl)
    refine Rely.Chain.call (fun _ v w => CI w v (sg false (m % n)) k2) (fun _ _ _ _ h hb => h.below hb) (fun _ _ _ _ _ h hp => h.keeps hp.keeps) (by rfl) (fun T xs wr hA => ?_) ?_
    · have e51 := hA.tm 8 51 (by rfl) (by rfl)
      have f51 : xs 8 = _ := hA.fa 8 (by rfl)
      (try simp (disch := rfl) only [Rely.mask_in] at f51)
      rw [f51] at e51
      clear f51
      have e52 := hA.tm 9 52 (by rfl) (by rfl)
      have f52 : xs 9 = _ := hA.fa 9 (by rfl)
      (try simp (disch := rfl) only [Rely.mask_in] at f52)
      rw [f52] at e52
      clear f52
      have hkp := undrewK hA.kp
      have hbt' := hbt.trans (undrew (hA.be w.heap.size hszb (fun q hq => by match q, hq with | 0, _ => exact (by show w.heap.size ≤ w.heap.size + 2; omega) | 1, _ => exact (by show w.heap.size ≤ w.heap.size + 3; omega))))
      have sr := sr.keeps hkp
      clear hA
      refine ⟨(by rfl), fun K hK => ?_⟩
      go_simp
      refine (signed_any false (.slice ro _ rc) (m % n) k2 _ sr hrn).mono ?_
      rintro e wq ⟨v, rfl, c, hb⟩
      exact hK.out _ _ c hb
    refine Rely.Chain.storeOld 0 6 26 (by rfl) (by rfl) (by decide) (Rely.own_one (by rfl)) (fun T xs wr hA hB0 => ?_) ?_
    · have e4 := hA.pre 4 (by kernel_rfl)
      simp only [List.getElem?_toArray, List.getElem?_cons_succ, List.getElem?_cons_zero] at e4
      have hB : wr.heap[w.heap.size + 2]? = _ := hB0.trans HB_q.out
      clear hB0
      have e49 := hA.tm 6 49 (by rfl) (by rfl)
      have hc : CI wr (xs 6) (sg true (m / n)) (k1 + 3) := hA.fa 6 (by rfl)
      obtain ⟨b_h, o_h, l_h, k_h, hv⟩ := hc.shape
      clear hc
      rw [hv] at e49
      have z0 := cell_at hB 0 rfl
      have z1 := cell_at hB 1 rfl
      have fz0 := froz_at hB 0
      have fz1 := froz_at hB 1
      clear hA
      refine ⟨(by rfl), fun K hK => ?_⟩
      go_simp
      exact hK.out _ _ hv (hset2 hB _ _) (priv2 hB (by rfl) (by rfl))
    refine Rely.Chain.storeOld 1 10 26 (by rfl) (by rfl) (by decide) (Rely.own_one (by rfl)) (fun T xs wr hA hB0 => ?_) ?_
    · have e5 := hA.pre 5 (by kernel_rfl)
      simp only [List.getElem?_toArray, List.getElem?_cons_succ, List.getElem?_cons_zero] at e5
      have hB : wr.heap[w.heap.size + 3]? = _ := hB0.trans HB_r.out
      clear hB0
      have e53 := hA.tm 10 53 (by rfl) (by rfl)
      have hc : CI wr (xs 10) (sg false (m % n)) k2 := hA.fa 10 (by rfl)
      obtain ⟨b_h, o_h, l_h, k_h, hv⟩ := hc.shape
      clear hc
      rw [hv] at e53
      have z0 := cell_at hB 0 rfl
      have z1 := cell_at hB 1 rfl
      have fz0 := froz_at hB 0
      have fz1 := froz_at hB 1
      clear hA
      refine ⟨(by rfl), fun K hK => ?_⟩
      go_simp
      exact hK.out _ _ hv (hset2 hB _ _) (priv2 hB (by rfl) (by rfl))
    refine Rely.Chain.det ?_ (by rfl) (fun T xs wr hA => ?_) ?_
    rotate_left 1
    · clear hA
      refine ⟨(by rfl), ?_⟩
      go_simp <;> (try with_reducible rfl)
    refine Rely.Chain.done (fun xs wx3 hL => ?_)
    obtain ⟨⟨hbe, hbl, hkp0⟩, hf, hp, hn⟩ := hL
    have f0 : xs 0 = _ := hf 0 (by decide)
    (try simp (disch := rfl) only [Rely.mask_in] at f0)
    have f1 : xs 1 = _ := hf 1 (by decide)
    (try simp (disch := rfl) only [Rely.mask_in] at f1)
    have f2 : xs 2 = _ := hf 2 (by decide)
    (try simp (disch := rfl) only [Rely.mask_in] at f2)
    have f3 : xs 3 = _ := hf 3 (by decide)
    (try simp (disch := rfl) only [Rely.mask_in] at f3)
    have f4 : xs 4 = _ := hf 4 (by decide)
    (try simp (disch := rfl) only [Rely.mask_in] at f4)
    have f5 : xs 5 = _ := hf 5 (by decide)
    (try simp (disch := rfl) only [Rely.mask_in] at f5)
    have c_q2 : CI wx3 (xs 6) (sg true (m / n)) (k1 + 3) := hf 6 (by decide)
    have f7 : xs 7 = _ := hf 7 (by decide)
    (try simp (disch := rfl) only [Rely.mask_in] at f7)
    have f8 : xs 8 = _ := hf 8 (by decide)
    (try simp (disch := rfl) only [Rely.mask_in] at f8)
    have f9 : xs 9 = _ := hf 9 (by decide)
    (try simp (disch := rfl) only [Rely.mask_in] at f9)
    have c_r2 : CI wx3 (xs 10) (sg false (m % n)) k2 := hf 10 (by decide)
    obtain ⟨cc, hv, hB_q⟩ := hf 11 (by decide)
    change xs 6 = _ at hv
    obtain ⟨b_q2, o_q2, l_q2, k_q2, hs_q2⟩ := c_q2.shape
    rw [hs_q2] at hv
    injection hv with hv
    subst hv
    obtain ⟨cc, hv, hB_r⟩ := hf 12 (by decide)
    change xs 10 = _ at hv
    obtain ⟨b_r2, o_r2, l_r2, k_r2, hs_r2⟩ := c_r2.shape
    rw [hs_r2] at hv
    injection hv with hv
    subst hv
    have f13 : xs 13 = _ := hf 13 (by decide)
    (try simp (disch := rfl) only [Rely.mask_in] at f13)
    clear hf hp hn
    refine Rely.rest_done ?_
    rw [hs_q2] at c_q2
    rw [hs_r2] at c_r2
    simp only [Rely.fill, List.setIfInBounds_toArray, List.set_cons_zero, List.set_cons_succ, f0, f1, f2, f3, f4, f5, f7, f8, f9, f13, hs_q2, hs_r2]
    clear f0 f1 f2 f3 f4 f5 f7 f8 f9 f13 hs_q2 hs_r2
    clear xs
    replace hkp0 := undrewK hkp0
    replace hg := hg.keeps hkp0
    replace hg2 := hg2.keeps hkp0
    replace sq := sq.keeps hkp0
    replace sr := sr.keeps hkp0
    replace hbt := hbt.trans (undrew (hbe w.heap.size hszb (fun q hq => by match q, hq with | 0, _ => exact (by show w.heap.size ≤ w.heap.size + 2; omega) | 1, _ => exact (by show w.heap.size ≤ w.heap.size + 3; omega))))
    replace HB_xa := Lib.hid ((hbl _ hlt_xa (fun q hq => by match q, hq with | 0, _ => exact (by show w.heap.size + 2 ≠ w.heap.size; omega) | 1, _ => exact (by show w.heap.size + 3 ≠ w.heap.size; omega))).trans HB_xa.out)
    replace HB_xb := Lib.hid ((hbl _ hlt_xb (fun q hq => by match q, hq with | 0, _ => exact (by show w.heap.size + 2 ≠ w.heap.size + 1; omega) | 1, _ => exact (by show w.heap.size + 3 ≠ w.heap.size + 1; omega))).trans HB_xb.out)
    replace HB_q := Lib.hid (show wx3.heap[w.heap.size + 2]? = some (.cells #[.bool b_q2, .slice o_q2 l_q2 k_q2] 26 (0, 0)) from hB_q)
    clear hB_q
    replace HB_r := Lib.hid (show wx3.heap[w.heap.size + 3]? = some (.cells #[.bool b_r2, .slice o_r2 l_r2 k_r2] 26 (0, 0)) from hB_r)
    clear hB_r
    clear hkp0 hbe hbl hszb
    replace xa0 := cell_at (v := .bool true) HB_xa.out 0 rfl
    replace xa1 := cell_at (v := .slice ao l c) HB_xa.out 1 rfl
    replace xb0 := cell_at (v := .bool false) HB_xb.out 0 rfl
    replace xb1 := cell_at (v := .slice po pl pc) HB_xb.out 1 rfl
    replace q0 := cell_at (v := .bool b_q2) HB_q.out 0 rfl
    replace q1 := cell_at (v := .slice o_q2 l_q2 k_q2) HB_q.out 1 rfl
    replace r0 := cell_at (v := .bool b_r2) HB_r.out 0 rfl
    replace r1 := cell_at (v := .slice o_r2 l_r2 k_r2) HB_r.out 1 rfl
    clear hlt_xa hlt_xb hlt_q hlt_r
    go_wp2_with fail
    exact bodyPost_ret (v := .tuple #[.agg #[.bool b_q2, .slice o_q2 l_q2 k_q2], .agg #[.bool b_r2, .slice o_r2 l_r2 k_r2], .bool true]) (by simp [results, Try.results45, go_sem, q0, q1, r0, r1]) rfl ⟨_, _, rfl, c_q2, c_r2, hbt⟩
  · obtain rfl : s = false := hs
    clear h
    have hbt := Below.refl w.heap.size w
    go_enter Try.func45, Try.ntmps45
    go_wp2_with fail
    have hbx : Below w.heap.size w ((((w.alloc (.cells #[.bool true, .slice ao l c] 26)).alloc (.cells #[.bool true, .slice po pl pc] 26)).alloc (.cells #[.bool false, .slice none 0 0] 26)).alloc (.cells #[.bool false, .slice none 0 0] 26)) := (((((Below.refl _ _).alloc (by simp) _).alloc (by simp) _).alloc (by simp; omega) _).alloc (by simp; omega) _)
    replace hg := hg.below hbx
    replace hg2 := hg2.below hbx
    replace hbt := hbt.trans (hbx.mono hbt.size)
    clear hbx
    have HB_xa : Hid (((((w.alloc (.cells #[.bool true, .slice ao l c] 26)).alloc (.cells #[.bool true, .slice po pl pc] 26)).alloc (.cells #[.bool false, .slice none 0 0] 26)).alloc (.cells #[.bool false, .slice none 0 0] 26)).heap[w.heap.size]? = some (.cells #[.bool true, .slice ao l c] 26 (0, 0))) := Lib.hid (made_more (made_more (made_more (made_at w (.cells #[.bool true, .slice ao l c] 26) _ (by first | rfl | simp)) _) _) _)
    have HB_xb : Hid (((((w.alloc (.cells #[.bool true, .slice ao l c] 26)).alloc (.cells #[.bool true, .slice po pl pc] 26)).alloc (.cells #[.bool false, .slice none 0 0] 26)).alloc (.cells #[.bool false, .slice none 0 0] 26)).heap[w.heap.size + 1]? = some (.cells #[.bool true, .slice po pl pc] 26 (0, 0))) := Lib.hid (made_more (made_more (made_at (w.alloc (.cells #[.bool true, .slice ao l c] 26)) (.cells #[.bool true, .slice po pl pc] 26) _ (by first | rfl | simp)) _) _)
    have HB_q : Hid (((((w.alloc (.cells #[.bool true, .slice ao l c] 26)).alloc (.cells #[.bool true, .slice po pl pc] 26)).alloc (.cells #[.bool false, .slice none 0 0] 26)).alloc (.cells #[.bool false, .slice none 0 0] 26)).heap[w.heap.size + 2]? = some (.cells #[.bool false, .slice none 0 0] 26 (0, 0))) := Lib.hid (made_more (made_at ((w.alloc (.cells #[.bool true, .slice ao l c] 26)).alloc (.cells #[.bool true, .slice po pl pc] 26)) (.cells #[.bool false, .slice none 0 0] 26) _ (by first | rfl | simp)) _)
    have HB_r : Hid (((((w.alloc (.cells #[.bool true, .slice ao l c] 26)).alloc (.cells #[.bool true, .slice po pl pc] 26)).alloc (.cells #[.bool false, .slice none 0 0] 26)).alloc (.cells #[.bool false, .slice none 0 0] 26)).heap[w.heap.size + 3]? = some (.cells #[.bool false, .slice none 0 0] 26 (0, 0))) := Lib.hid (made_at (((w.alloc (.cells #[.bool true, .slice ao l c] 26)).alloc (.cells #[.bool true, .slice po pl pc] 26)).alloc (.cells #[.bool false, .slice none 0 0] 26)) (.cells #[.bool false, .slice none 0 0] 26) _ (by first | rfl | simp))
    generalize ((((w.alloc (.cells #[.bool true, .slice ao l c] 26)).alloc (.cells #[.bool true, .slice po pl pc] 26)).alloc (.cells #[.bool false, .slice none 0 0] 26)).alloc (.cells #[.bool false, .slice none 0 0] 26)) = wx1 at *
    have xa0 := cell_at (v := .bool true) HB_xa.out 0 rfl
    have xa1 := cell_at (v := .slice ao l c) HB_xa.out 1 rfl
    have xb0 := cell_at (v := .bool true) HB_xb.out 0 rfl
    have xb1 := cell_at (v := .slice po pl pc) HB_xb.out 1 rfl
    have q0 := cell_at (v := .bool false) HB_q.out 0 rfl
    have q1 := cell_at (v := .slice none 0 0) HB_q.out 1 rfl
    have r0 := cell_at (v := .bool false) HB_r.out 0 rfl
    have r1 := cell_at (v := .slice none 0 0) HB_r.out 1 rfl
    refine (div_d hg hg2 h1 h0).mono ?_
    rintro e wx2 ⟨vq, vr, rfl, sq, sr, hbx⟩
    replace hg := hg.below hbx
    replace hg2 := hg2.below hbx
    replace hbt := hbt.trans (hbx.mono hbt.size)
    replace HB_xa := Lib.hid ((hbx.block _ (lt_of_block HB_xa.out)).trans HB_xa.out)
    replace HB_xb := Lib.hid ((hbx.block _ (lt_of_block HB_xb.out)).trans HB_xb.out)
    replace HB_q := Lib.hid ((hbx.block _ (lt_of_block HB_q.out)).trans HB_q.out)
    replace HB_r := Lib.hid ((hbx.block _ (lt_of_block HB_r.out)).trans HB_r.out)
    clear hbx
    replace xa0 := cell_at (v := .bool true) HB_xa.out 0 rfl
    replace xa1 := cell_at (v := .slice ao l c) HB_xa.out 1 rfl
    replace xb0 := cell_at (v := .bool true) HB_xb.out 0 rfl
    replace xb1 := cell_at (v := .slice po pl pc) HB_xb.out 1 rfl
    replace q0 := cell_at (v := .bool false) HB_q.out 0 rfl
    replace q1 := cell_at (v := .slice none 0 0) HB_q.out 1 rfl
    replace r0 := cell_at (v := .bool false) HB_r.out 0 rfl
    replace r1 := cell_at (v := .slice none 0 0) HB_r.out 1 rfl
    obtain ⟨qo, qc, rfl⟩ := sl_shape sq
    obtain ⟨ro, rc, rfl⟩ := sl_shape sr
    go_wp2_with fail
    have hlt_xa := lt_of_block HB_xa.out
    have hlt_xb := lt_of_block HB_xb.out
    have hlt_q := lt_of_block HB_q.out
    have hlt_r := lt_of_block HB_r.out
    have hszb := hbt.size
    refine Rely.region (by kernel_rfl) [[], [0], [], [2], [0, 1, 2, 3], [], [0, 1, 2, 3, 4, 5], [], [7], [], [0, 1, 2, 3, 4, 5, 6, 7, 8, 9], [0, 1, 2, 3, 4, 5, 6, 7, 8, 9, 10], [0, 1, 2, 3, 4, 5, 6, 7, 8, 9, 10, 11], [0, 1, 2, 3, 4, 5, 6, 7, 8, 9, 10, 11, 12]] [] [(11, 1000), (12, 1001)] (fun q => [w.heap.size + 2, w.heap.size + 3].getD q 0) 2 14 (by kernel_rfl) (by kernel_rfl) (fun q hq => by match q, hq with | 0, _ => exact hlt_q | 1, _ => exact hlt_r) (fun q r hq hr hne => by match q, r, hq, hr, hne with | 0, 0, _, _, h => exact absurd rfl h | 0, 1, _, _, h => exact (by show w.heap.size + 2 ≠ w.heap.size + 3; omega) | 1, 0, _, _, h => exact (by show w.heap.size + 3 ≠ w.heap.size + 2; omega) | 1, 1, _, _, h => exact absurd rfl h) ?_
    refine Rely.Chain.det ?_ (by rfl) (fun T xs wr hA => ?_) ?_
    rotate_left 1
    · have e2 := hA.pre 2 (by kernel_rfl)
      simp only [List.getElem?_toArray, List.getElem?_cons_succ, List.getElem?_cons_zero] at e2
      clear hA
      refine ⟨(by rfl), ?_⟩
      go_simp <;> (try with_reducible rfl)
    refine Rely.Chain.det ?_ (by rfl) (fun T xs wr hA => ?_) ?_
    rotate_left 1
    · have e43 := hA.tm 0 43 (by rfl) (by rfl)
      have f43 : xs 0 = _ := hA.fa 0 (by rfl)
      (try simp (disch := rfl) only [Rely.mask_in] at f43)
      rw [f43] at e43
      clear f43
      have hBq : wr.heap[w.heap.size]? = _ := (hA.bl _ hlt_xa (fun q hq => by match q, hq with | 0, _ => exact (by show w.heap.size + 2 ≠ w.heap.size; omega) | 1, _ => exact (by show w.heap.size + 3 ≠ w.heap.size; omega))).trans HB_xa.out
      have q0 := cell_at (v := .bool true) hBq 0 rfl
      have q1 := cell_at (v := .slice ao l c) hBq 1 rfl
      clear hBq
      clear hA
      refine ⟨(by rfl), ?_⟩
      go_simp <;> (try with_reducible rfl)
    refine Rely.Chain.det ?_ (by rfl) (fun T xs wr hA => ?_) ?_
    rotate_left 1
    · have e3 := hA.pre 3 (by kernel_rfl)
      simp only [List.getElem?_toArray, List.getElem?_cons_succ, List.getElem?_cons_zero] at e3
      clear hA
      refine ⟨(by rfl), ?_⟩
      go_simp <;> (try with_reducible rfl)
    refine Rely.Chain.det ?_ (by rfl) (fun T xs wr hA => ?_) ?_
    rotate_left 1
    · have e45 := hA.tm 2 45 (by rfl) (by rfl)
      have f45 : xs 2 = _ := hA.fa 2 (by rfl)
      (try simp (disch := rfl) only [Rely.mask_in] at f45)
      rw [f45] at e45
      clear f45
      have hBq : wr.heap[w.heap.size + 1]? = _ := (hA.bl _ hlt_xb (fun q hq => by match q, hq with | 0, _ => exact (by show w.heap.size + 2 ≠ w.heap.size + 1; omega) | 1, _ => exact (by show w.heap.size + 3 ≠ w.heap.size + 1; omega))).trans HB_xb.out
      have q0 := cell_at (v := .bool true) hBq 0 rfl
      have q1 := cell_at (v := .slice po pl pc) hBq 1 rfl
      clear hBq
      clear hA
      refine ⟨(by rfl), ?_⟩
      go_simp <;> (try with_reducible rfl)
    refine Rely.Chain.det ?_ (by rfl) (fun T xs wr hA => ?_) ?_
    rotate_left 1
    · have e44 := hA.tm 1 44 (by rfl) (by rfl)
      have f44 : xs 1 = _ := hA.fa 1 (by rfl)
      (try simp (disch := rfl) only [Rely.mask_in] at f44)
      rw [f44] at e44
      clear f44
      have e46 := hA.tm 3 46 (by rfl) (by rfl)
      have f46 : xs 3 = _ := hA.fa 3 (by rfl)
      (try simp (disch := rfl) only [Rely.mask_in] at f46)
      rw [f46] at e46
      clear f46
      clear hA
      refine ⟨(by rfl), ?_⟩
      go_simp <;> (try with_reducible rfl)
    refine Rely.Chain.det ?_ (by rfl) (fun T xs wr hA => ?_) ?_
    rotate_left 1
    · have e7 := hA.pre 7 (by kernel_rfl)
      simp only [List.getElem?_toArray, List.getElem?_cons_succ, List.getElem?_cons_zero] at e7
      clear hA
      refine ⟨(by rfl), ?_⟩
      go_simp <;> (try with_reducible rfl)
    refine Rely.Chain.call (fun _ v w => CI w v (sg false (m / n)) (k1 + 3)) (fun _ _ _ _ h hb => h.below hb) (fun _ _ _ _ _ h hp => h.keeps hp.keeps) (by rfl) (fun T xs wr hA => ?_) ?_
    · have e47 := hA.tm 4 47 (by rfl) (by rfl)
      have f47 : xs 4 = _ := hA.fa 4 (by rfl)
      (try simp (disch := rfl) only [Rely.mask_in] at f47)
      rw [f47] at e47
      clear f47
      have e48 := hA.tm 5 48 (by rfl) (by rfl)
      have f48 : xs 5 = _ := hA.fa 5 (by rfl)
      (try simp (disch := rfl) only [Rely.mask_in] at f48)
      rw [f48] at e48
      clear f48
      have hkp := undrewK hA.kp
      have hbt' := hbt.trans (undrew (hA.be w.heap.size hszb (fun q hq => by match q, hq with | 0, _ => exact (by show w.heap.size ≤ w.heap.size + 2; omega) | 1, _ => exact (by show w.heap.size ≤ w.heap.size + 3; omega))))
      have sq := sq.keeps hkp
      clear hA
      refine ⟨(by rfl), fun K hK => ?_⟩
      go_simp
      refine (signed_any false (.slice qo _ qc) (m / n) (k1 + 3) _ sq hqn).mono ?_
      rintro e wq ⟨v, rfl, c, hb⟩
      exact hK.out _ _ c hb
    refine Rely.Chain.det ?_ (by rfl) (fun T xs wr hA => ?_) ?_
    rotate_left 1
    · have e3 := hA.pre 3 (by kernel_rfl)
      simp only [List.getElem?_toArray, List.getElem?_cons_succ, List.getElem?_cons_zero] at e3
      clear hA
      refine ⟨(by rfl), ?_⟩
      go_simp <;> (try with_reducible rfl)
    refine Rely.Chain.det ?_ (by rfl) (fun T xs wr hA => ?_) ?_
    rotate_left 1
    · have e50 := hA.tm 7 50 (by rfl) (by rfl)
      have f50 : xs 7 = _ := hA.fa 7 (by rfl)
      (try simp (disch := rfl) only [Rely.mask_in] at f50)
      rw [f50] at e50
      clear f50
      have hBq : wr.heap[w.heap.size + 1]? = _ := (hA.bl _ hlt_xb (fun q hq => by match q, hq with | 0, _ => exact (by show w.heap.size + 2 ≠ w.heap.size + 1; omega) | 1, _ => exact (by show w.heap.size + 3 ≠ w.heap.size + 1; omega))).trans HB_xb.out
      have q0 := cell_at (v := .bool true) hBq 0 rfl
      have q1 := cell_at (v := .slice po pl pc) hBq 1 rfl
      clear hBq
      clear hA
      refine ⟨(by rfl), ?_⟩
      go_simp <;> (try with_reducible rfl)
    refine Rely.Chain.det ?_ (by rfl) (fun T xs wr hA => ?_) ?_
    rotate_left 1
    · have e8 := hA.pre 8 (by kernel_rfl)
      simp only [List.getElem?_toArray, List.getElem?_cons_succ, List.getElem?_cons_zero] at e8
      clear hA
      refine ⟨(by rfl), ?_⟩
      go_simp <;> (try with_reducible rfl)
    refine Rely.Chain.call (fun _ v w => CI w v (sg true (m % n)) k2) (fun _ _ _ _ h hb => h.below hb) (fun _ _ _ _ _ h hp => h.keeps hp.keeps) (by rfl) (fun T xs wr hA => ?_) ?_
    · have e51 := hA.tm 8 51 (by rfl) (by rfl)
      have f51 : xs 8 = _ := hA.fa 8 (by rfl)
      (try simp (disch := rfl) only [Rely.mask_in] at f51)
      rw [f51] at e51
      clear f51
      have e52 := hA.tm 9 52 (by rfl) (by rfl)
      have f52 : xs 9 = _ := hA.fa 9 (by rfl)
      (try simp (disch := rfl) only [Rely.mask_in] at f52)
      rw [f52] at e52
      clear f52
      have hkp := undrewK hA.kp
      have hbt' := hbt.trans (undrew (hA.be w.heap.size hszb (fun q hq => by match q, hq with | 0, _ => exact (by show w.heap.size ≤ w.heap.size + 2; omega) | 1, _ => exact (by show w.heap.size ≤ w.heap.size + 3; omega))))
      have sr := sr.keeps hkp
      clear hA
      refine ⟨(by rfl), fun K hK => ?_⟩
      go_simp
      refine (signed_any true (.slice ro _ rc) (m % n) k2 _ sr hrn).mono ?_
      rintro e wq ⟨v, rfl, c, hb⟩
      exact hK.out _ _ c hb
    refine Rely.Chain.storeOld 0 6 26 (by rfl) (by rfl) (by decide) (Rely.own_one (by rfl)) (fun T xs wr hA hB0 => ?_) ?_
    · have e4 := hA.pre 4 (by kernel_rfl)
      simp only [List.getElem?_toArray, List.getElem?_cons_succ, List.getElem?_cons_zero] at e4
      have hB : wr.heap[w.heap.size + 2]? = _ := hB0.trans HB_q.out
      clear hB0
      have e49 := hA.tm 6 49 (by rfl) (by rfl)
      have hc : CI wr (xs 6) (sg false (m / n)) (k1 + 3) := hA.fa 6 (by rfl)
      obtain ⟨b_h, o_h, l_h, k_h, hv⟩ := hc.shape
      clear hc
      rw [hv] at e49
      have z0 := cell_at hB 0 rfl
      have z1 := cell_at hB 1 rfl
      have fz0 := froz_at hB 0
      have fz1 := froz_at hB 1
      clear hA
      refine ⟨(by rfl), fun K hK => ?_⟩
      go_simp
      exact hK.out _ _ hv (hset2 hB _ _) (priv2 hB (by rfl) (by rfl))
    refine Rely.Chain.storeOld 1 10 26 (by rfl) (by rfl) (by decide) (Rely.own_one (by rfl)) (fun T xs wr hA hB0 => ?_) ?_
    · have e5 := hA.pre 5 (by kernel_rfl)
      simp only [List.getElem?_toArray, List.getElem?_cons_succ, List.getElem?_cons_zero] at e5
      have hB : wr.heap[w.heap.size + 3]? = _ := hB0.trans HB_r.out
      clear hB0
      have e53 := hA.tm 10 53 (by rfl) (by rfl)
      have hc : CI wr (xs 10) (sg true (m % n)) k2 := hA.fa 10 (by rfl)
      obtain ⟨b_h, o_h, l_h, k_h, hv⟩ := hc.shape
      clear hc
      rw [hv] at e53
      have z0 := cell_at hB 0 rfl
      have z1 := cell_at hB 1 rfl
      have fz0 := froz_at hB 0
      have fz1 := froz_at hB 1
      clear hA
      refine ⟨(by rfl), fun K hK => ?_⟩
      go_simp
      exact hK.out _ _ hv (hset2 hB _ _) (priv2 hB (by rfl) (by rfl))
    refine Rely.Chain.det ?_ (by rfl) (fun T xs wr hA => ?_) ?_
    rotate_left 1
    · clear hA
      refine ⟨(by rfl), ?_⟩
      go_simp <;> (try with_reducible rfl)
    refine Rely.Chain.done (fun xs wx3 hL => ?_)
    obtain ⟨⟨hbe, hbl, hkp0⟩, hf, hp, hn⟩ := hL
    have f0 : xs 0 = _ := hf 0 (by decide)
    (try simp (disch := rfl) only [Rely.mask_in] at f0)
    have f1 : xs 1 = _ := hf 1 (by decide)
    (try simp (disch := rfl) only [Rely.mask_in] at f1)
    have f2 : xs 2 = _ := hf 2 (by decide)
    (try simp (disch := rfl) only [Rely.mask_in] at f2)
    have f3 : xs 3 = _ := hf 3 (by decide)
    (try simp (disch := rfl) only [Rely.mask_in] at f3)
    have f4 : xs 4 = _ := hf 4 (by decide)
    (try simp (disch := rfl) only [Rely.mask_in] at f4)
    have f5 : xs 5 = _ := hf 5 (by decide)
    (try simp (disch := rfl) only [Rely.mask_in] at f5)
    have c_q2 : CI wx3 (xs 6) (sg false (m / n)) (k1 + 3) := hf 6 (by decide)
    have f7 : xs 7 = _ := hf 7 (by decide)
    (try simp (disch := rfl) only [Rely.mask_in] at f7)
    have f8 : xs 8 = _ := hf 8 (by decide)
    (try simp (disch := rfl) only [Rely.mask_in] at f8)
    have f9 : xs 9 = _ := hf 9 (by decide)
    (try simp (disch := rfl) only [Rely.mask_in] at f9)
    have c_r2 : CI wx3 (xs 10) (sg true (m % n)) k2 := hf 10 (by decide)
    obtain ⟨cc, hv, hB_q⟩ := hf 11 (by decide)
    change xs 6 = _ at hv
    obtain ⟨b_q2, o_q2, l_q2, k_q2, hs_q2⟩ := c_q2.shape
    rw [hs_q2] at hv
    injection hv with hv
    subst hv
    obtain ⟨cc, hv, hB_r⟩ := hf 12 (by decide)
    change xs 10 = _ at hv
    obtain ⟨b_r2, o_r2, l_r2, k_r2, hs_r2⟩ := c_r2.shape
    rw [hs_r2] at hv
    injection hv with hv
    subst hv
    have f13 : xs 13 = _ := hf 13 (by decide)
    (try simp (disch := rfl) only [Rely.mask_in] at f13)
    clear hf hp hn
    refine Rely.rest_done ?_
    rw [hs_q2] at c_q2
    rw [hs_r2] at c_r2
    simp only [Rely.fill, List.setIfInBounds_toArray, List.set_cons_zero, List.set_cons_succ, f0, f1, f2, f3, f4, f5, f7, f8, f9, f13, hs_q2, hs_r2]
    clear f0 f1 f2 f3 f4 f5 f7 f8 f9 f13 hs_q2 hs_r2
    clear xs
    replace hkp0 := undrewK hkp0
    replace hg := hg.keeps hkp0
    replace hg2 := hg2.keeps hkp0
    replace sq := sq.keeps hkp0
    replace sr := sr.keeps hkp0
    replace hbt := hbt.trans (undrew (hbe w.heap.size hszb (fun q hq => by match q, hq with | 0, _ => exact (by show w.heap.size ≤ w.heap.size + 2; omega) | 1, _ => exact (by show w.heap.size ≤ w.heap.size + 3; omega))))
    replace HB_xa := Lib.hid ((hbl _ hlt_xa (fun q hq => by match q, hq with | 0, _ => exact (by show w.heap.size + 2 ≠ w.heap.size; omega) | 1, _ => exact (by show w.heap.size + 3 ≠ w.heap.size; omega))).trans HB_xa.out)
    replace HB_xb := Lib.hid ((hbl _ hlt_xb (fun q hq => by match q, hq with | 0, _ => exact (by show w.heap.size + 2 ≠ w.heap.size + 1; omega) | 1, _ => exact (by show w.heap.size + 3 ≠ w.heap.size + 1; omega))).trans HB_xb.out)
    replace HB_q := Lib.hid (show wx3.heap[w.heap.size + 2]? = some (.cells #[.bool b_q2, .slice o_q2 l_q2 k_q2] 26 (0, 0)) from hB_q)
    clear hB_q
    replace HB_r := Lib.hid (show wx3.heap[w.heap.size + 3]? = some (.cells #[.bool b_r2, .slice o_r2 l_r2 k_r2] 26 (0, 0)) from hB_r)
    clear hB_r
    clear hkp0 hbe hbl hszb
    replace xa0 := cell_at (v := .bool true) HB_xa.out 0 rfl
    replace xa1 := cell_at (v := .slice ao l c) HB_xa.out 1 rfl
    replace xb0 := cell_at (v := .bool true) HB_xb.out 0 rfl
    replace xb1 := cell_at (v := .slice po pl pc) HB_xb.out 1 rfl
    replace q0 := cell_at (v := .bool b_q2) HB_q.out 0 rfl
    replace q1 := cell_at (v := .slice o_q2 l_q2 k_q2) HB_q.out 1 rfl
    replace r0 := cell_at (v := .bool b_r2) HB_r.out 0 rfl
    replace r1 := cell_at (v := .slice o_r2 l_r2 k_r2) HB_r.out 1 rfl
    clear hlt_xa hlt_xb hlt_q hlt_r
    go_wp2_with fail
    exact bodyPost_ret (v := .tuple #[.agg #[.bool b_q2, .slice o_q2 l_q2 k_q2], .agg #[.bool b_r2, .slice o_r2 l_r2 k_r2], .bool true]) (by simp [results, Try.results45, go_sem, q0, q1, r0, r1]) rfl ⟨_, _, rfl, c_q2, c_r2, hbt⟩

set_option maxHeartbeats 4000000 in
theorem wdiv_adj (b d : Bool) (ao po : Option Addr) (l c pl pc m n k1 k2 : Nat) (w : World) (hg : GN w (.slice ao l c) m k1) (hg2 : GN w (.slice po pl pc) n k2) (h1 : k1 ≤ 900000) (h2 : k2 ≤ 900000) (h0 : 0 < n) (h : b ≠ d) (hr : 0 < m % n) :
    Calls Try.prog 45 #[.agg #[.bool b, .slice ao l c], .agg #[.bool d, .slice po pl pc]] w fun e w' => ∃ q r, e = .returned (.tuple #[q, r, .bool true]) ∧ CI w' q (sg true (m / n + 1)) (k1 + 3) ∧ CI w' r (sg d (n - m % n)) k2 ∧ Below w.heap.size w w' := by
  have hqn0 : m / n < L32 ^ k1 := Nat.lt_of_le_of_lt (Nat.div_le_self _ _) hg.lt
  have hqn : m / n + 1 < L32 ^ (k1 + 3) := by
    have h3 : 1 < L32 ^ 2 := by decide
    have := pow_add_lt hqn0 h3
    exact lt_pow_more this (by omega)
  have hrn0 : m % n < L32 ^ k2 := Nat.lt_trans (Nat.mod_lt _ h0) hg2.lt
  have hle : m % n ≤ n := Nat.le_of_lt (Nat.mod_lt _ h0)
  have hrn : n - m % n < L32 ^ k2 := Nat.lt_of_le_of_lt (Nat.sub_le _ _) hg2.lt
  have hl1 := dig_len_pos hr
  have h2' : k2 ≤ 1000000 := by omega
  cases b <;> cases d
  · exact absurd rfl h
  rotate_left 2
  · exact absurd rfl h
  all_goals clear h
  · have hbt := Below.refl w.heap.size w
    go_enter Try.func45, Try.ntmps45
    go_wp2_with fail
    have hbx : Below w.heap.size w ((((w.alloc (.cells #[.bool false, .slice ao l c] 26)).alloc (.cells #[.bool true, .slice po pl pc] 26)).alloc (.cells #[.bool false, .slice none 0 0] 26)).alloc (.cells #[.bool false, .slice none 0 0] 26)) := (((((Below.refl _ _).alloc (by simp) _).alloc (by simp) _).alloc (by simp; omega) _).alloc (by simp; omega) _)
    replace hg := hg.below hbx
    replace hg2 := hg2.below hbx
    replace hbt := hbt.trans (hbx.mono hbt.size)
    clear hbx
    have HB_xa : Hid (((((w.alloc (.cells #[.bool false, .slice ao l c] 26)).alloc (.cells #[.bool true, .slice po pl pc] 26)).alloc (.cells #[.bool false, .slice none 0 0] 26)).alloc (.cells #[.bool false, .slice none 0 0] 26)).heap[w.heap.size]? = some (.cells #[.bool false, .slice ao l c] 26 (0, 0))) := Lib.hid (made_more (made_more (made_more (made_at w (.cells #[.bool false, .slice ao l c] 26) _ (by first | rfl | simp)) _) _) _)
    have HB_xb : Hid (((((w.alloc (.cells #[.bool false, .slice ao l c] 26)).alloc (.cells #[.bool true, .slice po pl pc] 26)).alloc (.cells #[.bool false, .slice none 0 0] 26)).alloc (.cells #[.bool false, .slice none 0 0] 26)).heap[w.heap.size + 1]? = some (.cells #[.bool true, .slice po pl pc] 26 (0, 0))) := Lib.hid (made_more (made_more (made_at (w.alloc (.cells #[.bool false, .slice ao l c] 26)) (.cells #[.bool true, .slice po pl pc] 26) _ (by first | rfl | simp)) _) _)
    have HB_q : Hid (((((w.alloc (.cells #[.bool false, .slice ao l c] 26)).alloc (.cells #[.bool true, .slice po pl pc] 26)).alloc (.cells #[.bool false, .slice none 0 0] 26)).alloc (.cells #[.bool false, .slice none 0 0] 26)).heap[w.heap.size + 2]? = some (.cells #[.bool false, .slice none 0 0] 26 (0, 0))) := Lib.hid (made_more (made_at ((w.alloc (.cells #[.bool false, .slice ao l c] 26)).alloc (.cells #[.bool true, .slice po pl pc] 26)) (.cells #[.bool false, .slice none 0 0] 26) _ (by first | rfl | simp)) _)
    have HB_r : Hid (((((w.alloc (.cells #[.bool false, .slice ao l c] 26)).alloc (.cells #[.bool true, .slice po pl pc] 26)).alloc (.cells #[.bool false, .slice none 0 0] 26)).alloc (.cells #[.bool false, .slice none 0 0] 26)).heap[w.heap.size + 3]? = some (.cells #[.bool false, .slice none 0 0] 26 (0, 0))) := Lib.hid (made_at (((w.alloc (.cells #[.bool false, .slice ao l c] 26)).alloc (.cells #[.bool true, .slice po pl pc] 26)).alloc (.cells #[.bool false, .slice none 0 0] 26)) (.cells #[.bool false, .slice none 0 0] 26) _ (by first | rfl | simp))
    generalize ((((w.alloc (.cells #[.bool false, .slice ao l c] 26)).alloc (.cells #[.bool true, .slice po pl pc] 26)).alloc (.cells #[.bool false, .slice none 0 0] 26)).alloc (.cells #[.bool false, .slice none 0 0] 26)) = wx1 at *
    have xa0 := cell_at (v := .bool false) HB_xa.out 0 rfl
    have xa1 := cell_at (v := .slice ao l c) HB_xa.out 1 rfl
    have xb0 := cell_at (v := .bool true) HB_xb.out 0 rfl
    have xb1 := cell_at (v := .slice po pl pc) HB_xb.out 1 rfl
    have q0 := cell_at (v := .bool false) HB_q.out 0 rfl
    have q1 := cell_at (v := .slice none 0 0) HB_q.out 1 rfl
    have r0 := cell_at (v := .bool false) HB_r.out 0 rfl
    have r1 := cell_at (v := .slice none 0 0) HB_r.out 1 rfl
    refine (div_d hg hg2 h1 h0).mono ?_
    rintro e wx2 ⟨vq, vr, rfl, sq, sr, hbx⟩
    replace hg := hg.below hbx
    replace hg2 := hg2.below hbx
    replace hbt := hbt.trans (hbx.mono hbt.size)
    replace HB_xa := Lib.hid ((hbx.block _ (lt_of_block HB_xa.out)).trans HB_xa.out)
    replace HB_xb := Lib.hid ((hbx.block _ (lt_of_block HB_xb.out)).trans HB_xb.out)
    replace HB_q := Lib.hid ((hbx.block _ (lt_of_block HB_q.out)).trans HB_q.out)
    replace HB_r := Lib.hid ((hbx.block _ (lt_of_block HB_r.out)).trans HB_r.out)
    clear hbx
    replace xa0 := cell_at (v := .bool false) HB_xa.out 0 rfl
    replace xa1 := cell_at (v := .slice ao l c) HB_xa.out 1 rfl
    replace xb0 := cell_at (v := .bool true) HB_xb.out 0 rfl
    replace xb1 := cell_at (v := .slice po pl pc) HB_xb.out 1 rfl
    replace q0 := cell_at (v := .bool false) HB_q.out 0 rfl
    replace q1 := cell_at (v := .slice none 0 0) HB_q.out 1 rfl
    replace r0 := cell_at (v := .bool false) HB_r.out 0 rfl
    replace r1 := cell_at (v := .slice none 0 0) HB_r.out 1 rfl
    obtain ⟨qo0, qc0, rfl⟩ := sl_shape sq
    obtain ⟨ro0, rc0, rfl⟩ := sl_shape sr
    have gq := gn_dig sq hqn0
    have gr := gn_dig sr hrn0
    clear sq sr
    go_wp2_with fail
    refine (of_n 1 _ _ rfl (by decide)).mono ?_
    rintro e wx3 ⟨v7, rfl, g7, hbx⟩
    replace hg := hg.below hbx
    replace hg2 := hg2.below hbx
    replace gq := gq.below hbx
    replace gr := gr.below hbx
    replace hbt := hbt.trans (hbx.mono hbt.size)
    replace HB_xa := Lib.hid ((hbx.block _ (lt_of_block HB_xa.out)).trans HB_xa.out)
    replace HB_xb := Lib.hid ((hbx.block _ (lt_of_block HB_xb.out)).trans HB_xb.out)
    replace HB_q := Lib.hid ((hbx.block _ (lt_of_block HB_q.out)).trans HB_q.out)
    replace HB_r := Lib.hid ((hbx.block _ (lt_of_block HB_r.out)).trans HB_r.out)
    clear hbx
    replace xa0 := cell_at (v := .bool false) HB_xa.out 0 rfl
    replace xa1 := cell_at (v := .slice ao l c) HB_xa.out 1 rfl
    replace xb0 := cell_at (v := .bool true) HB_xb.out 0 rfl
    replace xb1 := cell_at (v := .slice po pl pc) HB_xb.out 1 rfl
    replace q0 := cell_at (v := .bool false) HB_q.out 0 rfl
    replace q1 := cell_at (v := .slice none 0 0) HB_q.out 1 rfl
    replace r0 := cell_at (v := .bool false) HB_r.out 0 rfl
    replace r1 := cell_at (v := .slice none 0 0) HB_r.out 1 rfl
    go_wp2_with fail
    refine (add_d gq g7 (by omega) (by omega)).mono ?_
    rintro e wx4 ⟨v8, rfl, sq, hbx⟩
    replace hg := hg.below hbx
    replace hg2 := hg2.below hbx
    replace gq := gq.below hbx
    replace gr := gr.below hbx
    replace g7 := g7.below hbx
    replace hbt := hbt.trans (hbx.mono hbt.size)
    replace HB_xa := Lib.hid ((hbx.block _ (lt_of_block HB_xa.out)).trans HB_xa.out)
    replace HB_xb := Lib.hid ((hbx.block _ (lt_of_block HB_xb.out)).trans HB_xb.out)
    replace HB_q := Lib.hid ((hbx.block _ (lt_of_block HB_q.out)).trans HB_q.out)
    replace HB_r := Lib.hid ((hbx.block _ (lt_of_block HB_r.out)).trans HB_r.out)
    clear hbx
    replace xa0 := cell_at (v := .bool false) HB_xa.out 0 rfl
    replace xa1 := cell_at (v := .slice ao l c) HB_xa.out 1 rfl
    replace xb0 := cell_at (v := .bool true) HB_xb.out 0 rfl
    replace xb1 := cell_at (v := .slice po pl pc) HB_xb.out 1 rfl
    replace q0 := cell_at (v := .bool false) HB_q.out 0 rfl
    replace q1 := cell_at (v := .slice none 0 0) HB_q.out 1 rfl
    replace r0 := cell_at (v := .bool false) HB_r.out 0 rfl
    replace r1 := cell_at (v := .slice none 0 0) HB_r.out 1 rfl
    obtain ⟨qo, qc, rfl⟩ := sl_shape sq
    go_wp2_with fail
    refine (sub_d hg2 gr h2' hle).mono ?_
    rintro e wx5 ⟨v9, rfl, sr, hbx⟩
    replace hg := hg.below hbx
    replace hg2 := hg2.below hbx
    replace gq := gq.below hbx
    replace gr := gr.below hbx
    replace g7 := g7.below hbx
    replace sq := sq.below hbx
    replace hbt := hbt.trans (hbx.mono hbt.size)
    replace HB_xa := Lib.hid ((hbx.block _ (lt_of_block HB_xa.out)).trans HB_xa.out)
    replace HB_xb := Lib.hid ((hbx.block _ (lt_of_block HB_xb.out)).trans HB_xb.out)
    replace HB_q := Lib.hid ((hbx.block _ (lt_of_block HB_q.out)).trans HB_q.out)
    replace HB_r := Lib.hid ((hbx.block _ (lt_of_block HB_r.out)).trans HB_r.out)
    clear hbx
    replace xa0 := cell_at (v := .bool false) HB_xa.out 0 rfl
    replace xa1 := cell_at (v := .slice ao l c) HB_xa.out 1 rfl
    replace xb0 := cell_at (v := .bool true) HB_xb.out 0 rfl
    replace xb1 := cell_at (v := .slice po pl pc) HB_xb.out 1 rfl
    replace q0 := cell_at (v := .bool false) HB_q.out 0 rfl
    replace q1 := cell_at (v := .slice none 0 0) HB_q.out 1 rfl
    replace r0 := cell_at (v := .bool false) HB_r.out 0 rfl
    replace r1 := cell_at (v := .slice none 0 0) HB_r.out 1 rfl
    obtain ⟨ro, rc, rfl⟩ := sl_shape sr
    clear hl1 g7 gq gr
    go_wp2_with fail
    have hlt_xa := lt_of_block HB_xa.out
    have hlt_xb := lt_of_block HB_xb.out
    have hlt_q := lt_of_block HB_q.out
    have hlt_r := lt_of_block HB_r.out
    have hszb := hbt.size
    refine Rely.region (by kernel_rfl) [[], [0], [], [2], [0, 1, 2, 3], [], [0, 1, 2, 3, 4, 5], [], [7], [], [0, 1, 2, 3, 4, 5, 6, 7, 8, 9], [0, 1, 2, 3, 4, 5, 6, 7, 8, 9, 10], [0, 1, 2, 3, 4, 5, 6, 7, 8, 9, 10, 11], [0, 1, 2, 3, 4, 5, 6, 7, 8, 9, 10, 11, 12]] [] [(11, 1000), (12, 1001)] (fun q => [w.heap.size + 2, w.heap.size + 3].getD q 0) 2 14 (by kernel_rfl) (by kernel_rfl) (fun q hq => by match q, hq with | 0, _ => exact hlt_q | 1, _ => exact hlt_r) (fun q r hq hr hne => by match q, r, hq, hr, hne with | 0, 0, _, _, h => exact absurd rfl h | 0, 1, _, _, h => exact (by show w.heap.size + 2 ≠ w.heap.size + 3; omega) | 1, 0, _, _, h => exact (by show w.heap.size + 3 ≠ w.heap.size + 2; omega) | 1, 1, _, _, h => exact absurd rfl h) ?_
    refine Rely.Chain.det ?_ (by rfl) (fun T xs wr hA => ?_) ?_
    rotate_left 1
    · have e2 := hA.pre 2 (by kernel_rfl)
      simp only [List.getElem?_toArray, List.getElem?_cons_succ, List.getElem?_cons_zero] at e2
      clear hA
      refine ⟨(by rfl), ?_⟩
      go_simp <;> (try with_reducible rfl)
    refine Rely.Chain.det ?_ (by rfl) (fun T xs wr hA => ?_) ?_
    rotate_left 1
    · have e43 := hA.tm 0 43 (by rfl) (by rfl)
      have f43 : xs 0 = _ := hA.fa 0 (by rfl)
      (try simp (disch := rfl) only [Rely.mask_in] at f43)
      rw [f43] at e43
      clear f43
      have hBq : wr.heap[w.heap.size]? = _ := (hA.bl _ hlt_xa (fun q hq => by match q, hq with | 0, _ => exact (by show w.heap.size + 2 ≠ w.heap.size; omega) | 1, _ => exact (by show w.heap.size + 3 ≠ w.heap.size; omega))).trans HB_xa.out
      have q0 := cell_at (v := .bool false) hBq 0 rfl
      have q1 := cell_at (v := .slice ao l c) hBq 1 rfl
      clear hBq
      clear hA
      refine ⟨(by rfl), ?_⟩
      go_simp <;> (try with_reducible rfl)
    refine Rely.Chain.det ?_ (by rfl) (fun T xs wr hA => ?_) ?_
    rotate_left 1
    · have e3 := hA.pre 3 (by kernel_rfl)
      simp only [List.getElem?_toArray, List.getElem?_cons_succ, List.getElem?_cons_zero] at e3
      clear hA
      refine ⟨(by rfl), ?_⟩
      go_simp <;> (try with_reducible rfl)
    refine Rely.Chain.det ?_ (by rfl) (fun T xs wr hA => ?_) ?_
    rotate_left 1
    · have e45 := hA.tm 2 45 (by rfl) (by rfl)
      have f45 : xs 2 = _ := hA.fa 2 (by rfl)
      (try simp (disch := rfl) only [Rely.mask_in] at f45)
      rw [f45] at e45
      clear f45
      have hBq : wr.heap[w.heap.size + 1]? = _ := (hA.bl _ hlt_xb (fun q hq => by match q, hq with | 0, _ => exact (by show w.heap.size + 2 ≠ w.heap.size + 1; omega) | 1, _ => exact (by show w.heap.size + 3 ≠ w.heap.size + 1; omega))).trans HB_xb.out
      have q0 := cell_at (v := .bool true) hBq 0 rfl
      have q1 := cell_at (v := .slice po pl pc) hBq 1 rfl
      clear hBq
      clear hA
      refine ⟨(by rfl), ?_⟩
      go_simp <;> (try with_reducible rfl)
    refine Rely.Chain.det ?_ (by rfl) (fun T xs wr hA => ?_) ?_
    rotate_left 1
    · have e44 := hA.tm 1 44 (by rfl) (by rfl)
      have f44 : xs 1 = _ := hA.fa 1 (by rfl)
      (try simp (disch := rfl) only [Rely.mask_in] at f44)
      rw [f44] at e44
      clear f44
      have e46 := hA.tm 3 46 (by rfl) (by rfl)
      have f46 : xs 3 = _ := hA.fa 3 (by rfl)
      (try simp (disch := rfl) only [Rely.mask_in] at f46)
      rw [f46] at e46
      clear f46
      clear hA
      refine ⟨(by rfl), ?_⟩
      go_simp <;> (try with_reducible rfl)
    refine Rely.Chain.det ?_ (by rfl) (fun T xs wr hA => ?_) ?_
    rotate_left 1
    · have e7 := hA.pre 7 (by kernel_rfl)
      simp only [List.getElem?_toArray, List.getElem?_cons_succ, List.getElem?_cons_zero] at e7
      clear hA
      refine ⟨(by rfl), ?_⟩
      go_simp <;> (try with_reducible rfl)
    refine Rely.Chain.call (fun _ v w => CI w v (sg true (m / n + 1)) (k1 + 3)) (fun _ _ _ _ h hb => h.below hb) (fun _ _ _ _ _ h hp => h.keeps hp.keeps) (by rfl) (fun T xs wr hA => ?_) ?_
    · have e47 := hA.tm 4 47 (by rfl) (by rfl)
      have f47 : xs 4 = _ := hA.fa 4 (by rfl)
      (try simp (disch := rfl) only [Rely.mask_in] at f47)
      rw [f47] at e47
      clear f47
      have e48 := hA.tm 5 48 (by rfl) (by rfl)
      have f48 : xs 5 = _ := hA.fa 5 (by rfl)
      (try simp (disch := rfl) only [Rely.mask_in] at f48)
      rw [f48] at e48
      clear f48
      have hkp := undrewK hA.kp
      have hbt' := hbt.trans (undrew (hA.be w.heap.size hszb (fun q hq => by match q, hq with | 0, _ => exact (by show w.heap.size ≤ w.heap.size + 2; omega) | 1, _ => exact (by show w.heap.size ≤ w.heap.size + 3; omega))))
      have sq := sq.keeps hkp
      clear hA
      refine ⟨(by rfl), fun K hK => ?_⟩
      go_simp
      refine (signed_any true (.slice qo _ qc) (m / n + 1) (k1 + 3) _ sq hqn).mono ?_
      rintro e wq ⟨v, rfl, c, hb⟩
      exact hK.out _ _ c hb
    refine Rely.Chain.det ?_ (by rfl) (fun T xs wr hA => ?_) ?_
    rotate_left 1
    · have e3 := hA.pre 3 (by kernel_rfl)
      simp only [List.getElem?_toArray, List.getElem?_cons_succ, List.getElem?_cons_zero] at e3
      clear hA
      refine ⟨(by rfl), ?_⟩
      go_simp <;> (try with_reducible rfl)
    refine Rely.Chain.det ?_ (by rfl) (fun T xs wr hA => ?_) ?_
    rotate_left 1
    · have e50 := hA.tm 7 50 (by rfl) (by rfl)
      have f50 : xs 7 = _ := hA.fa 7 (by rfl)
      (try simp (disch := rfl) only [Rely.mask_in] at f50)
      rw [f50] at e50
      clear f50
      have hBq : wr.heap[w.heap.size + 1]? = _ := (hA.bl _ hlt_xb (fun q hq => by match q, hq with | 0, _ => exact (by show w.heap.size + 2 ≠ w.heap.size + 1; omega) | 1, _ => exact (by show w.heap.size + 3 ≠ w.heap.size + 1; omega))).trans HB_xb.out
      have q0 := cell_at (v := .bool true) hBq 0 rfl
      have q1 := cell_at (v := .slice po pl pc) hBq 1 rfl
      clear hBq
      clear hA
      refine ⟨(by rfl), ?_⟩
      go_simp <;> (try with_reducible rfl)
    refine Rely.Chain.det ?_ (by rfl) (fun T xs wr hA => ?_) ?_
    rotate_left 1
    · have e8 := hA.pre 8 (by kernel_rfl)
      simp only [List.getElem?_toArray, List.getElem?_cons_succ, List.getElem?_cons_zero] at e8
      clear hA
      refine ⟨(by rfl), ?_⟩
      go_simp <;> (try with_reducible rfl)
    refine Rely.Chain.call (fun _ v w => CI w v (sg true (n - m % n)) k2) (fun _ _ _ _ h hb => h.below hb) (fun _ _ _ _ _ h hp => h.keeps hp.keeps) (by rfl) (fun T xs wr hA => ?_) ?_
    · have e51 := hA.tm 8 51 (by rfl) (by rfl)
      have f51 : xs 8 = _ := hA.fa 8 (by rfl)
      (try simp (disch := rfl) only [Rely.mask_in] at f51)
      rw [f51] at e51
      clear f51
      have e52 := hA.tm 9 52 (by rfl) (by rfl)
      have f52 : xs 9 = _ := hA.fa 9 (by rfl)
      (try simp (disch := rfl) only [Rely.mask_in] at f52)
      rw [f52] at e52
      clear f52
      have hkp := undrewK hA.kp
      have hbt' := hbt.trans (undrew (hA.be w.heap.size hszb (fun q hq => by match q, hq with | 0, _ => exact (by show w.heap.size ≤ w.heap.size + 2; omega) | 1, _ => exact (by show w.heap.size ≤ w.heap.size + 3; omega))))
      have sr := sr.keeps hkp
      clear hA
      refine ⟨(by rfl), fun K hK => ?_⟩
      go_simp
      refine (signed_any true (.slice ro _ rc) (n - m % n) k2 _ sr hrn).mono ?_
      rintro e wq ⟨v, rfl, c, hb⟩
      exact hK.out _ _ c hb
    refine Rely.Chain.storeOld 0 6 26 (by rfl) (by rfl) (by decide) (Rely.own_one (by rfl)) (fun T xs wr hA hB0 => ?_) ?_
    · have e4 := hA.pre 4 (by kernel_rfl)
      simp only [List.getElem?_toArray, List.getElem?_cons_succ, List.getElem?_cons_zero] at e4
      have hB : wr.heap[w.heap.size + 2]? = _ := hB0.trans HB_q.out
      clear hB0
      have e49 := hA.tm 6 49 (by rfl) (by rfl)
      have hc : CI wr (xs 6) (sg true (m / n + 1)) (k1 + 3) := hA.fa 6 (by rfl)
      obtain ⟨b_h, o_h, l_h, k_h, hv⟩ := hc.shape
      clear hc
      rw [hv] at e49
      have z0 := cell_at hB 0 rfl
      have z1 := cell_at hB 1 rfl
      have fz0 := froz_at hB 0
      have fz1 := froz_at hB 1
      clear hA
      refine ⟨(by rfl), fun K hK => ?_⟩
      go_simp
      exact hK.out _ _ hv (hset2 hB _ _) (priv2 hB (by rfl) (by rfl))
    refine Rely.Chain.storeOld 1 10 26 (by rfl) (by rfl) (by decide) (Rely.own_one (by rfl)) (fun T xs wr hA hB0 => ?_) ?_
    · have e5 := hA.pre 5 (by kernel_rfl)
      simp only [List.getElem?_toArray, List.getElem?_cons_succ, List.getElem?_cons_zero] at e5
      have hB : wr.heap[w.heap.size + 3]? = _ := hB0.trans HB_r.out
      clear hB0
      have e53 := hA.tm 10 53 (by rfl) (by rfl)
      have hc : CI wr (xs 10) (sg true (n - m % n)) k2 := hA.fa 10 (by rfl)
      obtain ⟨b_h, o_h, l_h, k_h, hv⟩ := hc.shape
      clear hc
      rw [hv] at e53
      have z0 := cell_at hB 0 rfl
      have z1 := cell_at hB 1 rfl
      have fz0 := froz_at hB 0
      have fz1 := froz_at hB 1
      clear hA
      refine ⟨(by rfl), fun K hK => ?_⟩
      go_simp
      exact hK.out _ _ hv (hset2 hB _ _) (priv2 hB (by rfl) (by rfl))
    refine Rely.Chain.det ?_ (by rfl) (fun T xs wr hA => ?_) ?_
    rotate_left 1
    · clear hA
      refine ⟨(by rfl), ?_⟩
      go_simp <;> (try with_reducible rfl)
    refine Rely.Chain.done (fun xs wx6 hL => ?_)
    obtain ⟨⟨hbe, hbl, hkp0⟩, hf, hp, hn⟩ := hL
    have f0 : xs 0 = _ := hf 0 (by decide)
    (try simp (disch := rfl) only [Rely.mask_in] at f0)
    have f1 : xs 1 = _ := hf 1 (by decide)
    (try simp (disch := rfl) only [Rely.mask_in] at f1)
    have f2 : xs 2 = _ := hf 2 (by decide)
    (try simp (disch := rfl) only [Rely.mask_in] at f2)
    have f3 : xs 3 = _ := hf 3 (by decide)
    (try simp (disch := rfl) only [Rely.mask_in] at f3)
    have f4 : xs 4 = _ := hf 4 (by decide)
    (try simp (disch := rfl) only [Rely.mask_in] at f4)
    have f5 : xs 5 = _ := hf 5 (by decide)
    (try simp (disch := rfl) only [Rely.mask_in] at f5)
    have c_q2 : CI wx6 (xs 6) (sg true (m / n + 1)) (k1 + 3) := hf 6 (by decide)
    have f7 : xs 7 = _ := hf 7 (by decide)
    (try simp (disch := rfl) only [Rely.mask_in] at f7)
    have f8 : xs 8 = _ := hf 8 (by decide)
    (try simp (disch := rfl) only [Rely.mask_in] at f8)
    have f9 : xs 9 = _ := hf 9 (by decide)
    (try simp (disch := rfl) only [Rely.mask_in] at f9)
    have c_r2 : CI wx6 (xs 10) (sg true (n - m % n)) k2 := hf 10 (by decide)
    obtain ⟨cc, hv, hB_q⟩ := hf 11 (by decide)
    change xs 6 = _ at hv
    obtain ⟨b_q2, o_q2, l_q2, k_q2, hs_q2⟩ := c_q2.shape
    rw [hs_q2] at hv
    injection hv with hv
    subst hv
    obtain ⟨cc, hv, hB_r⟩ := hf 12 (by decide)
    change xs 10 = _ at hv
    obtain ⟨b_r2, o_r2, l_r2, k_r2, hs_r2⟩ := c_r2.shape
    rw [hs_r2] at hv
    injection hv with hv
    subst hv
    have f13 : xs 13 = _ := hf 13 (by decide)
    (try simp (disch := rfl) only [Rely.mask_in] at f13)
    clear hf hp hn
    refine Rely.rest_done ?_
    rw [hs_q2] at c_q2
    rw [hs_r2] at c_r2
    simp only [Rely.fill, List.setIfInBounds_toArray, List.set_cons_zero, List.set_cons_succ, f0, f1, f2, f3, f4, f5, f7, f8, f9, f13, hs_q2, hs_r2]
    clear f0 f1 f2 f3 f4 f5 f7 f8 f9 f13 hs_q2 hs_r2
    clear xs
    replace hkp0 := undrewK hkp0
    replace hg := hg.keeps hkp0
    replace hg2 := hg2.keeps hkp0
    replace sq := sq.keeps hkp0
    replace sr := sr.keeps hkp0
    replace hbt := hbt.trans (undrew (hbe w.heap.size hszb (fun q hq => by match q, hq with | 0, _ => exact (by show w.heap.size ≤ w.heap.size + 2; omega) | 1, _ => exact (by show w.heap.size ≤ w.heap.size + 3; omega))))
    replace HB_xa := Lib.hid ((hbl _ hlt_xa (fun q hq => by match q, hq with | 0, _ => exact (by show w.heap.size + 2 ≠ w.heap.size; omega) | 1, _ => exact (by show w.heap.size + 3 ≠ w.heap.size; omega))).trans HB_xa.out)
    replace HB_xb := Lib.hid ((hbl _ hlt_xb (fun q hq => by match q, hq with | 0, _ => exact (by show w.heap.size + 2 ≠ w.heap.size + 1; omega) | 1, _ => exact (by show w.heap.size + 3 ≠ w.heap.size + 1; omega))).trans HB_xb.out)
    replace HB_q := Lib.hid (show wx6.heap[w.heap.size + 2]? = some (.cells #[.bool b_q2, .slice o_q2 l_q2 k_q2] 26 (0, 0)) from hB_q)
    clear hB_q
    replace HB_r := Lib.hid (show wx6.heap[w.heap.size + 3]? = some (.cells #[.bool b_r2, .slice o_r2 l_r2 k_r2] 26 (0, 0)) from hB_r)
    clear hB_r
    clear hkp0 hbe hbl hszb
    replace xa0 := cell_at (v := .bool false) HB_xa.out 0 rfl
    replace xa1 := cell_at (v := .slice ao l c) HB_xa.out 1 rfl
    replace xb0 := cell_at (v := .bool true) HB_xb.out 0 rfl
    replace xb1 := cell_at (v := .slice po pl pc) HB_xb.out 1 rfl
    replace q0 := cell_at (v := .bool b_q2) HB_q.out 0 rfl
    replace q1 := cell_at (v := .slice o_q2 l_q2 k_q2) HB_q.out 1 rfl
    replace r0 := cell_at (v := .bool b_r2) HB_r.out 0 rfl
    replace r1 := cell_at (v := .slice o_r2 l_r2 k_r2) HB_r.out 1 rfl
    clear hlt_xa hlt_xb hlt_q hlt_r
    go_wp2_with fail
    exact bodyPost_ret (v := .tuple #[.agg #[.bool b_q2, .slice o_q2 l_q2 k_q2], .agg #[.bool b_r2, .slice o_r2 l_r2 k_r2], .bool true]) (by simp [results, Try.results45, go_sem, q0, q1, r0, r1]) rfl ⟨_, _, rfl, c_q2, c_r2, hbt⟩
  · have hbt := Below.refl w.heap.size w
    go_enter Try.func45, Try.ntmps45
    go_wp2_with fail
    have hbx : Below w.heap.size w ((((w.alloc (.cells #[.bool true, .slice ao l c] 26)).alloc (.cells #[.bool false, .slice po pl pc] 26)).alloc (.cells #[.bool false, .slice none 0 0] 26)).alloc (.cells #[.bool false, .slice none 0 0] 26)) := (((((Below.refl _ _).alloc (by simp) _).alloc (by simp) _).alloc (by simp; omega) _).alloc (by simp; omega) _)
    replace hg := hg.below hbx
    replace hg2 := hg2.below hbx
    replace hbt := hbt.trans (hbx.mono hbt.size)
    clear hbx
    have HB_xa : Hid (((((w.alloc (.cells #[.bool true, .slice ao l c] 26)).alloc (.cells #[.bool false, .slice po pl pc] 26)).alloc (.cells #[.bool false, .slice none 0 0] 26)).alloc (.cells #[.bool false, .slice none 0 0] 26)).heap[w.heap.size]? = some (.cells #[.bool true, .slice ao l c] 26 (0, 0))) := Lib.hid (made_more (made_more (made_more (made_at w (.cells #[.bool true, .slice ao l c] 26) _ (by first | rfl | simp)) _) _) _)
    have HB_xb : Hid (((((w.alloc (.cells #[.bool true, .slice ao l c] 26)).alloc (.cells #[.bool false, .slice po pl pc] 26)).alloc (.cells #[.bool false, .slice none 0 0] 26)).alloc (.cells #[.bool false, .slice none 0 0] 26)).heap[w.heap.size + 1]? = some (.cells #[.bool false, .slice po pl pc] 26 (0, 0))) := Lib.hid (made_more (made_more (made_at (w.alloc (.cells #[.bool true, .slice ao l c] 26)) (.cells #[.bool false, .slice po pl pc] 26) _ (by first | rfl | simp)) _) _)
    have HB_q : Hid (((((w.alloc (.cells #[.bool true, .slice ao l c] 26)).alloc (.cells #[.bool false, .slice po pl pc] 26)).alloc (.cells #[.bool false, .slice none 0 0] 26)).alloc (.cells #[.bool false, .slice none 0 0] 26)).heap[w.heap.size + 2]? = some (.cells #[.bool false, .slice none 0 0] 26 (0, 0))) := Lib.hid (made_more (made_at ((w.alloc (.cells #[.bool true, .slice ao l c] 26)).alloc (.cells #[.bool false, .slice po pl pc] 26)) (.cells #[.bool false, .slice none 0 0] 26) _ (by first | rfl | simp)) _)
    have HB_r : Hid (((((w.alloc (.cells #[.bool true, .slice ao l c] 26)).alloc (.cells #[.bool false, .slice po pl pc] 26)).alloc (.cells #[.bool false, .slice none 0 0] 26)).alloc (.cells #[.bool false, .slice none 0 0] 26)).heap[w.heap.size + 3]? = some (.cells #[.bool false, .slice none 0 0] 26 (0, 0))) := Lib.hid (made_at (((w.alloc (.cells #[.bool true, .slice ao l c] 26)).alloc (.cells #[.bool false, .slice po pl pc] 26)).alloc (.cells #[.bool false, .slice none 0 0] 26)) (.cells #[.bool false, .slice none 0 0] 26) _ (by first | rfl | simp))
    generalize ((((w.alloc (.cells #[.bool true, .slice ao l c] 26)).alloc (.cells #[.bool false, .slice po pl pc] 26)).alloc (.cells #[.bool false, .slice none 0 0] 26)).alloc (.cells #[.bool false, .slice none 0 0] 26)) = wx1 at *
    have xa0 := cell_at (v := .bool true) HB_xa.out 0 rfl
    have xa1 := cell_at (v := .slice ao l c) HB_xa.out 1 rfl
    have xb0 := cell_at (v := .bool false) HB_xb.out 0 rfl
    have xb1 := cell_at (v := .slice po pl pc) HB_xb.out 1 rfl
    have q0 := cell_at (v := .bool false) HB_q.out 0 rfl
    have q1 := cell_at (v := .slice none 0 0) HB_q.out 1 rfl
    have r0 := cell_at (v := .bool false) HB_r.out 0 rfl
    have r1 := cell_at (v := .slice none 0 0) HB_r.out 1 rfl
    refine (div_d hg hg2 h1 h0).mono ?_
    rintro e wx2 ⟨vq, vr, rfl, sq, sr, hbx⟩
    replace hg := hg.below hbx
    replace hg2 := hg2.below hbx
    replace hbt := hbt.trans (hbx.mono hbt.size)
    replace HB_xa := Lib.hid ((hbx.block _ (lt_of_block HB_xa.out)).trans HB_xa.out)
    replace HB_xb := Lib.hid ((hbx.block _ (lt_of_block HB_xb.out)).trans HB_xb.out)
    replace HB_q := Lib.hid ((hbx.block _ (lt_of_block HB_q.out)).trans HB_q.out)
    replace HB_r := Lib.hid ((hbx.block _ (lt_of_block HB_r.out)).trans HB_r.out)
    clear hbx
    replace xa0 := cell_at (v := .bool true) HB_xa.out 0 rfl
    replace xa1 := cell_at (v := .slice ao l c) HB_xa.out 1 rfl
    replace xb0 := cell_at (v := .bool false) HB_xb.out 0 rfl
    replace xb1 := cell_at (v := .slice po pl pc) HB_xb.out 1 rfl
    replace q0 := cell_at (v := .bool false) HB_q.out 0 rfl
    replace q1 := cell_at (v := .slice none 0 0) HB_q.out 1 rfl
    replace r0 := cell_at (v := .bool false) HB_r.out 0 rfl
    replace r1 := cell_at (v := .slice none 0 0) HB_r.out 1 rfl
    obtain ⟨qo0, qc0, rfl⟩ := sl_shape sq
    obtain ⟨ro0, rc0, rfl⟩ := sl_shape sr
    have gq := gn_dig sq hqn0
    have gr := gn_dig sr hrn0
    clear sq sr
    go_wp2_with fail
    refine (of_n 1 _ _ rfl (by decide)).mono ?_
    rintro e wx3 ⟨v7, rfl, g7, hbx⟩
    replace hg := hg.below hbx
    replace hg2 := hg2.below hbx
    replace gq := gq.below hbx
    replace gr := gr.below hbx
    replace hbt := hbt.trans (hbx.mono hbt.size)
    replace HB_xa := Lib.hid ((hbx.block _ (lt_of_block HB_xa.out)).trans HB_xa.out)
    replace HB_xb := Lib.hid ((hbx.block _ (lt_of_block HB_xb.out)).trans HB_xb.out)
    replace HB_q := Lib.hid ((hbx.block _ (lt_of_block HB_q.out)).trans HB_q.out)
    replace HB_r := Lib.hid ((hbx.block _ (lt_of_block HB_r.out)).trans HB_r.out)
    clear hbx
    replace xa0 := cell_at (v := .bool true) HB_xa.out 0 rfl
    replace xa1 := cell_at (v := .slice ao l c) HB_xa.out 1 rfl
    replace xb0 := cell_at (v := .bool false) HB_xb.out 0 rfl
    replace xb1 := cell_at (v := .slice po pl pc) HB_xb.out 1 rfl
    replace q0 := cell_at (v := .bool false) HB_q.out 0 rfl
    replace q1 := cell_at (v := .slice none 0 0) HB_q.out 1 rfl
    replace r0 := cell_at (v := .bool false) HB_r.out 0 rfl
    replace r1 := cell_at (v := .slice none 0 0) HB_r.out 1 rfl
    go_wp2_with fail
    refine (add_d gq g7 (by omega) (by omega)).mono ?_
    rintro e wx4 ⟨v8, rfl, sq, hbx⟩
    replace hg := hg.below hbx
    replace hg2 := hg2.below hbx
    replace gq := gq.below hbx
    replace gr := gr.below hbx
    replace g7 := g7.below hbx
    replace hbt := hbt.trans (hbx.mono hbt.size)
    replace HB_xa := Lib.hid ((hbx.block _ (lt_of_block HB_xa.out)).trans HB_xa.out)
    replace HB_xb := Lib.hid ((hbx.block _ (lt_of_block HB_xb.out)).trans HB_xb.out)
    replace HB_q := Lib.hid ((hbx.block _ (lt_of_block HB_q.out)).trans HB_q.out)
    replace HB_r := Lib.hid ((hbx.block _ (lt_of_block HB_r.out)).trans HB_r.out)
    clear hbx
    replace xa0 := cell_at (v := .bool true) HB_xa.out 0 rfl
    replace xa1 := cell_at (v := .slice ao l c) HB_xa.out 1 rfl
    replace xb0 := cell_at (v := .bool false) HB_xb.out 0 rfl
    replace xb1 := cell_at (v := .slice po pl pc) HB_xb.out 1 rfl
    replace q0 := cell_at (v := .bool false) HB_q.out 0 rfl
    replace q1 := cell_at (v := .slice none 0 0) HB_q.out 1 rfl
    replace r0 := cell_at (v := .bool false) HB_r.out 0 rfl
    replace r1 := cell_at (v := .slice none 0 0) HB_r.out 1 rfl
    obtain ⟨qo, qc, rfl⟩ := sl_shape sq
    go_wp2_with fail
    refine (sub_d hg2 gr h2' hle).mono ?_
    rintro e wx5 ⟨v9, rfl, sr, hbx⟩
    replace hg := hg.below hbx
    replace hg2 := hg2.below hbx
    replace gq := gq.below hbx
    replace gr := gr.below hbx
    replace g7 := g7.below hbx
    replace sq := sq.below hbx
    replace hbt := hbt.trans (hbx.mono hbt.size)
    replace HB_xa := Lib.hid ((hbx.block _ (lt_of_block HB_xa.out)).trans HB_xa.out)
    replace HB_xb := Lib.hid ((hbx.block _ (lt_of_block HB_xb.out)).trans HB_xb.out)
    replace HB_q := Lib.hid ((hbx.block _ (lt_of_block HB_q.out)).trans HB_q.out)
    replace HB_r := Lib.hid ((hbx.block _ (lt_of_block HB_r.out)).trans HB_r.out)
    clear hbx
    replace xa0 := cell_at (v := .bool true) HB_xa.out 0 rfl
    replace xa1 := cell_at (v := .slice ao l c) HB_xa.out 1 rfl
    replace xb0 := cell_at (v := .bool false) HB_xb.out 0 rfl
    replace xb1 := cell_at (v := .slice po pl pc) HB_xb.out 1 rfl
    replace q0 := cell_at (v := .bool false) HB_q.out 0 rfl
    replace q1 := cell_at (v := .slice none 0 0) HB_q.out 1 rfl
    replace r0 := cell_at (v := .bool false) HB_r.out 0 rfl
    replace r1 := cell_at (v := .slice none 0 0) HB_r.out 1 rfl
    obtain ⟨ro, rc, rfl⟩ := sl_shape sr
    clear hl1 g7 gq gr
    go_wp2_with fail
    have hlt_xa := lt_of_block HB_xa.out
    have hlt_xb := lt_of_block HB_xb.out
    have hlt_q := lt_of_block HB_q.out
    have hlt_r := lt_of_block HB_r.out
    have hszb := hbt.size
    refine Rely.region (by kernel_rfl) [[], [0], [], [2], [0, 1, 2, 3], [], [0, 1, 2, 3, 4, 5], [], [7], [], [0, 1, 2, 3, 4, 5, 6, 7, 8, 9], [0, 1, 2, 3, 4, 5, 6, 7, 8, 9, 10], [0, 1, 2, 3, 4, 5, 6, 7, 8, 9, 10, 11], [0, 1, 2, 3, 4, 5, 6, 7, 8, 9, 10, 11, 12]] [] [(11, 1000), (12, 1001)] (fun q => [w.heap.size + 2, w.heap.size + 3].getD q 0) 2 14 (by kernel_rfl) (by kernel_rfl) (fun q hq => by match q, hq with | 0, _ => exact hlt_q | 1, _ => exact hlt_r) (fun q r hq hr hne => by match q, r, hq, hr, hne with | 0, 0, _, _, h => exact absurd rfl h | 0, 1, _, _, h => exact (by show w.heap.size + 2 ≠ w.heap.size + 3; omega) | 1, 0, _, _, h => exact (by show w.heap.size + 3 ≠ w.heap.size + 2; omega) | 1, 1, _, _, h => exact absurd rfl h) ?_
    refine Rely.Chain.det ?_ (by rfl) (fun T xs wr hA => ?_) ?_
    rotate_left 1
    · have e2 := hA.pre 2 (by kernel_rfl)
      simp only [List.getElem?_toArray, List.getElem?_cons_succ, List.getElem?_cons_zero] at e2
      clear hA
      refine ⟨(by rfl), ?_⟩
      go_simp <;> (try with_reducible rfl)
    refine Rely.Chain.det ?_ (by rfl) (fun T xs wr hA => ?_) ?_
    rotate_left 1
    · have e43 := hA.tm 0 43 (by rfl) (by rfl)
      have f43 : xs 0 = _ := hA.fa 0 (by rfl)
      (try simp (disch := rfl) only [Rely.mask_in] at f43)
      rw [f43] at e43
      clear f43
      have hBq : wr.heap[w.heap.size]? = _ := (hA.bl _ hlt_xa (fun q hq => by match q, hq with | 0, _ => exact (by show w.heap.size + 2 ≠ w.heap.size; omega) | 1, _ => exact (by show w.heap.size + 3 ≠ w.heap.size; omega))).trans HB_xa.out
      have q0 := cell_at (v := .bool true) hBq 0 rfl
      have q1 := cell_at (v := .slice ao l c) hBq 1 rfl
      clear hBq
      clear hA
      refine ⟨(by rfl), ?_⟩
      go_simp <;> (try with_reducible rfl)
    refine Rely.Chain.det ?_ (by rfl) (fun T xs wr hA => ?_) ?_
    rotate_left 1
    · have e3 := hA.pre 3 (by kernel_rfl)
      simp only [List.getElem?_toArray, List.getElem?_cons_succ, List.getElem?_cons_zero] at e3
      clear hA
      refine ⟨(by rfl), ?_⟩
      go_simp <;> (try with_reducible rfl)
    refine Rely.Chain.det ?_ (by rfl) (fun T xs wr hA => ?_) ?_
    rotate_left 1
    · have e45 := hA.tm 2 45 (by rfl) (by rfl)
      have f45 : xs 2 = _ := hA.fa 2 (by rfl)
      (try simp (disch := rfl) only [Rely.mask_in] at f45)
      rw [f45] at e45
      clear f45
      have hBq : wr.heap[w.heap.size + 1]? = _ := (hA.bl _ hlt_xb (fun q hq => by match q, hq with | 0, _ => exact (by show w.heap.size + 2 ≠ w.heap.size + 1; omega) | 1, _ => exact (by show w.heap.size + 3 ≠ w.heap.size + 1; omega))).trans HB_xb.out
      have q0 := cell_at (v := .bool false) hBq 0 rfl
      have q1 := cell_at (v := .slice po pl pc) hBq 1 rfl
      clear hBq
      clear hA
      refine ⟨(by rfl), ?_⟩
      go_simp <;> (try with_reducible rfl)
    refine Rely.Chain.det ?_ (by rfl) (fun T xs wr hA => ?_) ?_
    rotate_left 1
    · have e44 := hA.tm 1 44 (by rfl) (by rfl)
      have f44 : xs 1 = _ := hA.fa 1 (by rfl)
      (try simp (disch := rfl) only [Rely.mask_in] at f44)
      rw [f44] at e44
      clear f44
      have e46 := hA.tm 3 46 (by rfl) (by rfl)
      have f46 : xs 3 = _ := hA.fa 3 (by rfl)
      (try simp (disch := rfl) only [Rely.mask_in] at f46)
      rw [f46] at e46
      clear f46
      clear hA
      refine ⟨(by rfl), ?_⟩
      go_simp <;> (try with_reducible rfl)
    refine Rely.Chain.det ?_ (by rfl) (fun T xs wr hA => ?_) ?_
    rotate_left 1
    · have e7 := hA.pre 7 (by kernel_rfl)
      simp only [List.getElem?_toArray, List.getElem?_cons_succ, List.getElem?_cons_zero] at e7
      clear hA
      refine ⟨(by rfl), ?_⟩
      go_simp <;> (try with_reducible rfl)
    refine Rely.Chain.call (fun _ v w => CI w v (sg true (m / n + 1)) (k1 + 3)) (fun _ _ _ _ h hb => h.below hb) (fun _ _ _ _ _ h hp => h.keeps hp.keeps) (by rfl) (fun T xs wr hA => ?_) ?_
    · have e47 := hA.tm 4 47 (by rfl) (by rfl)
      have f47 : xs 4 = _ := hA.fa 4 (by rfl)
      (try simp (disch := rfl) only [Rely.mask_in] at f47)
      rw [f47] at e47
      clear f47
      have e48 := hA.tm 5 48 (by rfl) (by rfl)
      have f48 : xs 5 = _ := hA.fa 5 (by rfl)
      (try simp (disch := rfl) only [Rely.mask_in] at f48)
      rw [f48] at e48
      clear f48
      have hkp := undrewK hA.kp
      have hbt' := hbt.trans (undrew (hA.be w.heap.size hszb (fun q hq => by match q, hq with | 0, _ => exact (by show w.heap.size ≤ w.heap.size + 2; omega) | 1, _ => exact (by show w.heap.size ≤ w.heap.size + 3; omega))))
      have sq := sq.keeps hkp
      clear hA
      refine ⟨(by rfl), fun K hK => ?_⟩
      go_simp
      refine (signed_any true (.slice qo _ qc) (m / n + 1) (k1 + 3) _ sq hqn).mono ?_
      rintro e wq ⟨v, rfl, c, hb⟩
      exact hK.out _ _ c hb
    refine Rely.Chain.det ?_ (by rfl) (fun T xs wr hA => ?_) ?_
    rotate_left 1
    · have e3 := hA.pre 3 (by kernel_rfl)
      simp only [List.getElem?_toArray, List.getElem?_cons_succ, List.getElem?_cons_zero] at e3
      clear hA
      refine ⟨(by rfl), ?_⟩
      go_simp <;> (try with_reducible rfl)
    refine Rely.Chain.det ?_ (by rfl) (fun T xs wr hA => ?_) ?_
    rotate_left 1
    · have e50 := hA.tm 7 50 (by rfl) (by rfl)
      have f50 : xs 7 = _ := hA.fa 7 (by rfl)
      (try simp (disch := rfl) only [Rely.mask_in] at f50)
      rw [f50] at e50
      clear f50
      have hBq : wr.heap[w.heap.size + 1]? = _ := (hA.bl _ hlt_xb (fun q hq => by match q, hq with | 0, _ => exact (by show w.heap.size + 2 ≠ w.heap.size + 1; omega) | 1, _ => exact (by show w.heap.size + 3 ≠ w.heap.size + 1; omega))).trans HB_xb.out
      have q0 := cell_at (v := .bool false) hBq 0 rfl
      have q1 := cell_at (v := .slice po pl pc) hBq 1 rfl
      clear hBq
      clear hA
      refine ⟨(by rfl), ?_⟩
      go_simp <;> (try with_reducible rfl)
    refine Rely.Chain.det ?_ (by rfl) (fun T xs wr hA => ?_) ?_
    rotate_left 1
    · have e8 := hA.pre 8 (by kernel_rfl)
      simp only [List.getElem?_toArray, List.getElem?_cons_succ, List.getElem?_cons_zero] at e8
      clear hA
      refine ⟨(by rfl), ?_⟩
      go_simp <;> (try with_reducible rfl)
    refine Rely.Chain.call (fun _ v w => CI w v (sg false (n - m % n)) k2) (fun _ _ _ _ h hb => h.below hb) (fun _ _ _ _ _ h hp => h.keeps hp.keeps) (by rfl) (fun T xs wr hA => ?_) ?_
    · have e51 := hA.tm 8 51 (by rfl) (by rfl)
      have f51 : xs 8 = _ := hA.fa 8 (by rfl)
      (try simp (disch := rfl) only [Rely.mask_in] at f51)
      rw [f51] at e51
      clear f51
      have e52 := hA.tm 9 52 (by rfl) (by rfl)
      have f52 : xs 9 = _ := hA.fa 9 (by rfl)
      (try simp (disch := rfl) only [Rely.mask_in] at f52)
      rw [f52] at e52
      clear f52
      have hkp := undrewK hA.kp
      have hbt' := hbt.trans (undrew (hA.be w.heap.size hszb (fun q hq => by match q, hq with | 0, _ => exact (by show w.heap.size ≤ w.heap.size + 2; omega) | 1, _ => exact (by show w.heap.size ≤ w.heap.size + 3; omega))))
      have sr := sr.keeps hkp
      clear hA
      refine ⟨(by rfl), fun K hK => ?_⟩
      go_simp
      refine (signed_any false (.slice ro _ rc) (n - m % n) k2 _ sr hrn).mono ?_
      rintro e wq ⟨v, rfl, c, hb⟩
      exact hK.out _ _ c hb
    refine Rely.Chain.storeOld 0 6 26 (by rfl) (by rfl) (by decide) (Rely.own_one (by rfl)) (fun T xs wr hA hB0 => ?_) ?_
    · have e4 := hA.pre 4 (by kernel_rfl)
      simp only [List.getElem?_toArray, List.getElem?_cons_succ, List.getElem?_cons_zero] at e4
      have hB : wr.heap[w.heap.size + 2]? = _ := hB0.trans HB_q.out
      clear hB0
      have e49 := hA.tm 6 49 (by rfl) (by rfl)
      have hc : CI wr (xs 6) (sg true (m / n + 1)) (k1 + 3) := hA.fa 6 (by rfl)
      obtain ⟨b_h, o_h, l_h, k_h, hv⟩ := hc.shape
      clear hc
      rw [hv] at e49
      have z0 := cell_at hB 0 rfl
      have z1 := cell_at hB 1 rfl
      have fz0 := froz_at hB 0
      have fz1 := froz_at hB 1
      clear hA
      refine ⟨(by rfl), fun K hK => ?_⟩
      go_simp
      exact hK.out _ _ hv (hset2 hB _ _) (priv2 hB (by rfl) (by rfl))
    refine Rely.Chain.storeOld 1 10 26 (by rfl) (by rfl) (by decide) (Rely.own_one (by rfl)) (fun T xs wr hA hB0 => ?_) ?_
    · have e5 := hA.pre 5 (by kernel_rfl)
      simp only [List.getElem?_toArray, List.getElem?_cons_succ, List.getElem?_cons_zero] at e5
      have hB : wr.heap[w.heap.size + 3]? = _ := hB0.trans HB_r.out
      clear hB0
      have e53 := hA.tm 10 53 (by rfl) (by rfl)
      have hc : CI wr (xs 10) (sg false (n - m % n)) k2 := hA.fa 10 (by rfl)
      obtain ⟨b_h, o_h, l_h, k_h, hv⟩ := hc.shape
      clear hc
      rw [hv] at e53
      have z0 := cell_at hB 0 rfl
      have z1 := cell_at hB 1 rfl
      have fz0 := froz_at hB 0
      have fz1 := froz_at hB 1
      clear hA
      refine ⟨(by rfl), fun K hK => ?_⟩
      go_simp
      exact hK.out _ _ hv (hset2 hB _ _) (priv2 hB (by rfl) (by rfl))
    refine Rely.Chain.det ?_ (by rfl) (fun T xs wr hA => ?_) ?_
    rotate_left 1
    · clear hA
      refine ⟨(by rfl), ?_⟩
      go_simp <;> (try with_reducible rfl)
    refine Rely.Chain.done (fun xs wx6 hL => ?_)
    obtain ⟨⟨hbe, hbl, hkp0⟩, hf, hp, hn⟩ := hL
    have f0 : xs 0 = _ := hf 0 (by decide)
    (try simp (disch := rfl) only [Rely.mask_in] at f0)
    have f1 : xs 1 = _ := hf 1 (by decide)
    (try simp (disch := rfl) only [Rely.mask_in] at f1)
    have f2 : xs 2 = _ := hf 2 (by decide)
    (try simp (disch := rfl) only [Rely.mask_in] at f2)
    have f3 : xs 3 = _ := hf 3 (by decide)
    (try simp (disch := rfl) only [Rely.mask_in] at f3)
    have f4 : xs 4 = _ := hf 4 (by decide)
    (try simp (disch := rfl) only [Rely.mask_in] at f4)
    have f5 : xs 5 = _ := hf 5 (by decide)
    (try simp (disch := rfl) only [Rely.mask_in] at f5)
    have c_q2 : CI wx6 (xs 6) (sg true (m / n + 1)) (k1 + 3) := hf 6 (by decide)
    have f7 : xs 7 = _ := hf 7 (by decide)
    (try simp (disch := rfl) only [Rely.mask_in] at f7)
    have f8 : xs 8 = _ := hf 8 (by decide)
    (try simp (disch := rfl) only [Rely.mask_in] at f8)
    have f9 : xs 9 = _ := hf 9 (by decide)
    (try simp (disch := rfl) only [Rely.mask_in] at f9)
    have c_r2 : CI wx6 (xs 10) (sg false (n - m % n)) k2 := hf 10 (by decide)
    obtain ⟨cc, hv, hB_q⟩ := hf 11 (by decide)
    change xs 6 = _ at hv
    obtain ⟨b_q2, o_q2, l_q2, k_q2, hs_q2⟩ := c_q2.shape
    rw [hs_q2] at hv
    injection hv with hv
    subst hv
    obtain ⟨cc, hv, hB_r⟩ := hf 12 (by decide)
    change xs 10 = _ at hv
    obtain ⟨b_r2, o_r2, l_r2, k_r2, hs_r2⟩ := c_r2.shape
    rw [hs_r2] at hv
    injection hv with hv
    subst hv
    have f13 : xs 13 = _ := hf 13 (by decide)
    (try simp (disch := rfl) only [Rely.mask_in] at f13)
    clear hf hp hn
    refine Rely.rest_done ?_
    rw [hs_q2] at c_q2
    rw [hs_r2] at c_r2
    simp only [Rely.fill, List.setIfInBounds_toArray, List.set_cons_zero, List.set_cons_succ, f0, f1, f2, f3, f4, f5, f7, f8, f9, f13, hs_q2, hs_r2]
    clear f0 f1 f2 f3 f4 f5 f7 f8 f9 f13 hs_q2 hs_r2
    clear xs
    replace hkp0 := undrewK hkp0
    replace hg := hg.keeps hkp0
    replace hg2 := hg2.keeps hkp0
    replace sq := sq.keeps hkp0
    replace sr := sr.keeps hkp0
    replace hbt := hbt.trans (undrew (hbe w.heap.size hszb (fun q hq => by match q, hq with | 0, _ => exact (by show w.heap.size ≤ w.heap.size + 2; omega) | 1, _ => exact (by show w.heap.size ≤ w.heap.size + 3; omega))))
    replace HB_xa := Lib.hid ((hbl _ hlt_xa (fun q hq => by match q, hq with | 0, _ => exact (by show w.heap.size + 2 ≠ w.heap.size; omega) | 1, _ => exact (by show w.heap.size + 3 ≠ w.heap.size; omega))).trans HB_xa.out)
    replace HB_xb := Lib.hid ((hbl _ hlt_xb (fun q hq => by match q, hq with | 0, _ => exact (by show w.heap.size + 2 ≠ w.heap.size + 1; omega) | 1, _ => exact (by show w.heap.size + 3 ≠ w.heap.size + 1; omega))).trans HB_xb.out)
    replace HB_q := Lib.hid (show wx6.heap[w.heap.size + 2]? = some (.cells #[.bool b_q2, .slice o_q2 l_q2 k_q2] 26 (0, 0)) from hB_q)
    clear hB_q
    replace HB_r := Lib.hid (show wx6.heap[w.heap.size + 3]? = some (.cells #[.bool b_r2, .slice o_r2 l_r2 k_r2] 26 (0, 0)) from hB_r)
    clear hB_r
    clear hkp0 hbe hbl hszb
    replace xa0 := cell_at (v := .bool true) HB_xa.out 0 rfl
    replace xa1 := cell_at (v := .slice ao l c) HB_xa.out 1 rfl
    replace xb0 := cell_at (v := .bool false) HB_xb.out 0 rfl
    replace xb1 := cell_at (v := .slice po pl pc) HB_xb.out 1 rfl
    replace q0 := cell_at (v := .bool b_q2) HB_q.out 0 rfl
    replace q1 := cell_at (v := .slice o_q2 l_q2 k_q2) HB_q.out 1 rfl
    replace r0 := cell_at (v := .bool b_r2) HB_r.out 0 rfl
    replace r1 := cell_at (v := .slice o_r2 l_r2 k_r2) HB_r.out 1 rfl
    clear hlt_xa hlt_xb hlt_q hlt_r
    go_wp2_with fail
    exact bodyPost_ret (v := .tuple #[.agg #[.bool b_q2, .slice o_q2 l_q2 k_q2], .agg #[.bool b_r2, .slice o_r2 l_r2 k_r2], .bool true]) (by simp [results, Try.results45, go_sem, q0, q1, r0, r1]) rfl ⟨_, _, rfl, c_q2, c_r2, hbt⟩

theorem wdiv_any (va vb : Value) (y z : Int) (k1 k2 : Nat) (w : World) (hx : GI w va y k1) (hy : GI w vb z k2) (h1 : k1 ≤ 900000) (h2 : k2 ≤ 900000) (h0 : z ≠ 0) :
    Calls Try.prog 45 #[va, vb] w fun e w' => ∃ q r, e = .returned (.tuple #[q, r, .bool true]) ∧ CI w' q (Int.fdiv y z) (k1 + 3) ∧ CI w' r (Int.fmod y z) k2 ∧ Below w.heap.size w w' := by
  obtain ⟨b, ao, l, c, m, rfl, hg, rfl⟩ := hx.shape
  obtain ⟨d, po, pl, pc, n, rfl, hg2, rfl⟩ := hy.shape
  have hn : 0 < n := by
    rcases Nat.eq_zero_or_pos n with h | h
    · subst h; exact absurd (by cases d <;> rfl) h0
    · exact h
  by_cases h : b = d ∨ m % n = 0
  · obtain ⟨e1, e2⟩ := sg_div (b := b) (d := d) hn h
    rw [e1, e2]
    exact wdiv_plain b d _ ao po l c pl pc m n k1 k2 w hg hg2 h1 hn rfl h
  · have hbd : b ≠ d := fun e => h (Or.inl e)
    have hr : 0 < m % n := by
      rcases Nat.eq_zero_or_pos (m % n) with e | e
      · exact absurd (Or.inr e) h
      · exact e
    obtain ⟨e1, e2⟩ := sg_div2 (b := b) (d := d) hn hbd hr
    rw [e1, e2, show (b != d) = true by simpa using hbd]
    exact wdiv_adj b d ao po l c pl pc m n k1 k2 w hg hg2 h1 h2 hn hbd hr
end Go.Proofs.Ytinfbmnimkcdjaa
