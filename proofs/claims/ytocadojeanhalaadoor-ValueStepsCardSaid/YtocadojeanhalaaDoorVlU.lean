/-
  bits, Size, size, all: how much a list of values weighs.
-/
import Derived.Test.YtocadojeanhalaaDoorVlS
namespace Go.Proofs.YtocadojeanhalaaDoor
open Go.RowKit
set_option maxRecDepth 100000
set_option linter.unusedVariables false
set_option linter.unusedSimpArgs false

theorem bits0 {z : Int} (h : z = 0) : bitsZ z = 0 := by subst h; exact bl_zero
theorem bits1 {z : Int} (h : z ≠ 0) : bitsZ z = 1 + bitsZ (Int.tdiv z 2) := by
  unfold bitsZ
  rw [bl_half (by omega), Int.natAbs_tdiv]; rfl
theorem bits_bdk {z : Int} {k : Nat} (h : z.natAbs < L32 ^ k) : bitsZ z ≤ 32 * k := bl_le (Nat.lt_of_lt_of_le h (by rw [show L32 = 2 ^ 32 from rfl, ← Nat.pow_mul]; exact Nat.le_refl _))
theorem bits_bd {z : Int} (h : z.natAbs < L32 ^ 40) : bitsZ z ≤ 1280 := bits_bdk h
set_option maxHeartbeats 4000000 in
theorem bits_p (va : Value) (z : Int) (w : World) (hx : GI w va z 40) :
    Calls Tryd.prog 29 #[va] w fun e w' => e = .returned (.int .i64 ((bitsZ z : Nat) : Int)) ∧ Below w.heap.size w w' := by
  have hbd : bitsZ z ≤ 1280 := bits_bd hx.lt
  obtain ⟨b, ao, l, c, n, rfl, hg, hz⟩ := hx.shape
  have HX := Lib.hid hx
  have HW := Lib.hid (Below.refl w.heap.size w)
  clear hx hg hz
  go_enter Tryd.func29, Tryd.ntmps29
  obtain ⟨x1, k1, e1, ek1, hb1, hk1, HB1⟩ := newV w #[.bool b, .slice ao l c] 27
  replace HX := Lib.hid (HX.out.below hb1.out)
  replace HW := Lib.hid (HW.out.trans (hb1.out.mono HW.out.size))
  go_wp2_with fail
  go_loopw [3] (fun nv wr => ∃ (j : Nat) (y : Int) (b : Bool) (o : Option Addr) (l c : Nat), nv = .int .i64 (j : Nat) ∧ j ≤ 1280 ∧ Hid (wr.heap[k1]? = some (.cells #[.bool b, .slice o l c] 27 (0, 0))) ∧ Hid (GI wr (.agg #[.bool b, .slice o l c]) y 40) ∧ Hid (bitsZ z = j + bitsZ y) ∧ Hid (Below w.heap.size w wr)) (fun nv _ => 2000 - (intOf nv).toNat)
  case atStart => exact ⟨0, z, b, ao, l, c, rfl, Nat.zero_le _, HB1, HX, Lib.hid (by omega), HW⟩
  case round =>
    clear HB1 HX HW
    obtain ⟨j, y, sb, so, sl, sc, rfl, hj, HB1, HX, HE, HW⟩ := hrel
    have c0 := cell_at (v := .bool sb) HB1.out 0 rfl
    have fc0 := froz_at HB1.out 0
    have c1 := cell_at (v := .slice so sl sc) HB1.out 1 rfl
    have fc1 := froz_at HB1.out 1
    by_cases h0 : y = 0
    · subst h0
      have hs : sgnZ 0 = 0 := rfl
      go_wp2_with fail
      refine (wsign_any _ 0 40 wr HX.out (by decide)).mono ?_
      rintro e x11 ⟨rfl, hb⟩
      clear c0 fc0 c1 fc1
      replace HB1 := kBV hb HB1
      replace HX := Lib.hid (HX.out.below hb)
      replace HW := Lib.hid (HW.out.trans (hb.mono HW.out.size))
      clear hb
      rw [hs]
      go_wp2_with fail
      go_ret
      refine ⟨?_, HW.out⟩
      have e := HE.out
      rw [bits0 rfl] at e
      rw [e]; rfl
    · obtain ⟨s, hs, hs0⟩ := sg0 h0
      have HS := Lib.hid hs
      have H0 := Lib.hid h0
      have he : (s != 0) = true := bne_iff_ne.2 hs0
      clear hs h0
      go_wp2_with fail
      refine (wsign_any _ y 40 wr HX.out (by decide)).mono ?_
      rintro e x2 ⟨rfl, hb⟩
      rw [← HS.out]
      clear c0 fc0 c1 fc1
      replace HB1 := kBV hb HB1
      replace HX := Lib.hid (HX.out.below hb)
      replace HW := Lib.hid (HW.out.trans (hb.mono HW.out.size))
      clear hb
      have c0 := cell_at (v := .bool sb) HB1.out 0 rfl
      have fc0 := froz_at HB1.out 0
      have c1 := cell_at (v := .slice so sl sc) HB1.out 1 rfl
      have fc1 := froz_at HB1.out 1
      go_wp2_with fail
      refine (half_any _ y 40 x2 HX.out (by decide)).mono ?_
      rintro e x21 ⟨v, rfl, hc, hb⟩
      clear c0 fc0 c1 fc1
      replace HB1 := kBV hb HB1
      replace HX := Lib.hid (HX.out.below hb)
      replace HW := Lib.hid (HW.out.trans (hb.mono HW.out.size))
      clear hb
      obtain ⟨b2, o2, l2, d2, rfl⟩ := hc.shape
      have HC := Lib.hid hc
      clear hc
      have d0 := cell_at (v := .bool sb) HB1.out 0 rfl
      have fd0 := froz_at HB1.out 0
      have d1 := cell_at (v := .slice so sl sc) HB1.out 1 rfl
      have fd1 := froz_at HB1.out 1
      have hk1w := hk1
      go_wp2_with fail
      obtain ⟨r1, r2⟩ := res2V HW.out HB1.out n32_2 hk1w.out (.bool b2) (.slice o2 l2 d2)
      have hB2 := heap_setCell_same _ k1 1 _ _ (.slice o2 l2 d2) (heap_setCell_same _ k1 0 _ _ (.bool b2) HB1.out)
      have hj2 : j + 1 ≤ 1280 := by have h1 := HE.out; rw [bits1 H0.out] at h1; omega
      go_roundw
      case rel => exact ⟨j + 1, Int.tdiv y 2, b2, o2, l2, d2, by go_num, hj2, Lib.hid hB2, Lib.hid (HC.out.fr r1).gi, Lib.hid (by rw [HE.out, bits1 H0.out]; omega), Lib.hid r2⟩
      case measure => simp [intOf]; omega
theorem VL.intAt {w : World} {ko : Option Addr} {n kc : Nat} {xs : List V} (h : VL w (.slice ko n kc) xs) {i : Nat} (hi : i < xs.length) {z : Int} (hx : xs[i] = .I z) : ∃ (a : Addr) (o : Option Addr) (l c : Nat) (d : Bool) (p : Option Addr) (m q : Nat), ko = some a ∧ (w.cell? (a.add (i * 5)) = some (.int .i64 0) ∧ w.cell? ⟨(a.add (i * 5)).block, (a.add (i * 5)).off + 1, none⟩ = some (.bool (decide (z < 0))) ∧ w.cell? ⟨(a.add (i * 5)).block, (a.add (i * 5)).off + 2, none⟩ = some (.slice o l c) ∧ w.cell? ⟨(a.add (i * 5)).block, (a.add (i * 5)).off + 3, none⟩ = some (.bool d) ∧ w.cell? ⟨(a.add (i * 5)).block, (a.add (i * 5)).off + 4, none⟩ = some (.slice p m q)) ∧ GI w (.agg #[.bool (decide (z < 0)), .slice o l c]) z 40 := by
  obtain ⟨us, hat, rfl⟩ := h
  obtain ⟨_, _, e, _, h3⟩ := hat
  injection e with e1 e2 e3
  subst e1
  have hi' : i < us.length := by simpa using hi
  obtain ⟨a, ha, -, h4, h5⟩ := h3 i hi'
  have hx' : us[i].x = .I z := by simpa using hx
  have h6 : VR w us[i] := h5
  unfold VR at h6
  rw [hx'] at h6
  obtain ⟨f0, f1, f2, f3, f4, f5, f6⟩ := h6
  have g : ∀ j q, (vC us[i])[j]? = some q → w.cell? ((a.add (i * 5)).add j) = some q := fun j q hj => by rw [add_addV]; exact h4 j q hj
  have g0 := g 0 _ rfl
  have g1 := g 1 _ rfl
  have g2 := g 2 _ rfl
  have g3 := g 3 _ rfl
  have g4 := g 4 _ rfl
  rw [f0] at g0; rw [f1] at g1; unfold NR nV at f2; rw [f1] at f2
  exact ⟨a, _, _, _, _, _, _, _, ha, ⟨g0, g1, g2, g3, g4⟩, f2.gi⟩
theorem VL.boolAt {w : World} {ko : Option Addr} {n kc : Nat} {xs : List V} (h : VL w (.slice ko n kc) xs) {i : Nat} (hi : i < xs.length) {b : Bool} (hx : xs[i] = .B b) : ∃ (a : Addr) (e : Bool) (o : Option Addr) (l c : Nat) (d : Bool) (p : Option Addr) (m q : Nat), ko = some a ∧ (w.cell? (a.add (i * 5)) = some (.int .i64 1) ∧ w.cell? ⟨(a.add (i * 5)).block, (a.add (i * 5)).off + 1, none⟩ = some (.bool e) ∧ w.cell? ⟨(a.add (i * 5)).block, (a.add (i * 5)).off + 2, none⟩ = some (.slice o l c) ∧ w.cell? ⟨(a.add (i * 5)).block, (a.add (i * 5)).off + 3, none⟩ = some (.bool d) ∧ w.cell? ⟨(a.add (i * 5)).block, (a.add (i * 5)).off + 4, none⟩ = some (.slice p m q)) ∧ m = 0 := by
  obtain ⟨us, hat, rfl⟩ := h
  obtain ⟨_, _, e, _, h3⟩ := hat
  injection e with e1 e2 e3
  subst e1
  have hi' : i < us.length := by simpa using hi
  obtain ⟨a, ha, -, h4, h5⟩ := h3 i hi'
  have hx' : us[i].x = .B b := by simpa using hx
  have h6 : VR w us[i] := h5
  unfold VR at h6
  rw [hx'] at h6
  obtain ⟨f0, f1, f2, f3, f4, f5⟩ := h6
  have g : ∀ j q, (vC us[i])[j]? = some q → w.cell? ((a.add (i * 5)).add j) = some q := fun j q hj => by rw [add_addV]; exact h4 j q hj
  have g0 := g 0 _ rfl
  have g1 := g 1 _ rfl
  have g2 := g 2 _ rfl
  have g3 := g 3 _ rfl
  have g4 := g 4 _ rfl
  rw [f0] at g0
  exact ⟨a, _, _, _, _, _, _, _, _, ha, ⟨g0, g1, g2, g3, g4⟩, f4⟩
theorem VL.listAt {w : World} {ko : Option Addr} {n kc : Nat} {xs : List V} (h : VL w (.slice ko n kc) xs) {i : Nat} (hi : i < xs.length) {zs : List Int} (hx : xs[i] = .L zs) : ∃ (a : Addr) (e : Bool) (o : Option Addr) (l c : Nat) (d : Bool) (p : Option Addr) (m q : Nat), ko = some a ∧ (w.cell? (a.add (i * 5)) = some (.int .i64 2) ∧ w.cell? ⟨(a.add (i * 5)).block, (a.add (i * 5)).off + 1, none⟩ = some (.bool e) ∧ w.cell? ⟨(a.add (i * 5)).block, (a.add (i * 5)).off + 2, none⟩ = some (.slice p m q) ∧ w.cell? ⟨(a.add (i * 5)).block, (a.add (i * 5)).off + 3, none⟩ = some (.bool d) ∧ w.cell? ⟨(a.add (i * 5)).block, (a.add (i * 5)).off + 4, none⟩ = some (.slice o l c)) ∧ NL w (.slice o l c) zs := by
  obtain ⟨us, hat, rfl⟩ := h
  obtain ⟨_, _, e, _, h3⟩ := hat
  injection e with e1 e2 e3
  subst e1
  have hi' : i < us.length := by simpa using hi
  obtain ⟨a, ha, -, h4, h5⟩ := h3 i hi'
  have hx' : us[i].x = .L zs := by simpa using hx
  have h6 : VR w us[i] := h5
  unfold VR at h6
  rw [hx'] at h6
  obtain ⟨f0, f1, f2, f3⟩ := h6
  have g : ∀ j q, (vC us[i])[j]? = some q → w.cell? ((a.add (i * 5)).add j) = some q := fun j q hj => by rw [add_addV]; exact h4 j q hj
  have g0 := g 0 _ rfl
  have g1 := g 1 _ rfl
  have g2 := g 2 _ rfl
  have g3 := g 3 _ rfl
  have g4 := g 4 _ rfl
  rw [f0] at g0
  exact ⟨a, _, _, _, _, _, _, _, _, ha, ⟨g0, g1, g2, g3, g4⟩, f3⟩
def sumF (f : Int → Nat) (l : List Int) : Nat := (l.map f).sum
def cap2 (z : Int) : Nat := min (bitsZ z) 2
def wV (f : Int → Nat) : V → Nat
  | .I z => f z
  | .B _ => 0
  | .L l => l.length + sumF f l
def wL (f : Int → Nat) (xs : List V) : Nat := (xs.map (wV f)).sum
theorem sum_take {α : Type} (f : α → Nat) (l : List α) (j : Nat) (hj : j < l.length) : ((l.take (j + 1)).map f).sum = ((l.take j).map f).sum + f l[j] := by
  rw [List.take_succ_eq_append_getElem hj, List.map_append, List.sum_append]; simp
theorem sum_le {α : Type} (f : α → Nat) (l : List α) (j : Nat) : ((l.take j).map f).sum ≤ (l.map f).sum := by
  conv => rhs; rw [← List.take_append_drop j l, List.map_append, List.sum_append]
  omega
theorem wL_take (f : Int → Nat) (xs : List V) (j : Nat) (hj : j < xs.length) : wL f (xs.take (j + 1)) = wL f (xs.take j) + wV f xs[j] ∧ wL f (xs.take (j + 1)) ≤ wL f xs := ⟨sum_take _ _ _ hj, sum_le _ _ _⟩
theorem sumF_take (f : Int → Nat) (l : List Int) (j : Nat) (hj : j < l.length) : sumF f (l.take (j + 1)) = sumF f (l.take j) + f l[j] ∧ sumF f (l.take (j + 1)) ≤ sumF f l := ⟨sum_take _ _ _ hj, sum_le _ _ _⟩
/-- The heads of the two loops. -/
def WOrel (we : World) (n : Nat) (f : Int → Nat) (rs : List V) (nv iv : Value) (wr : World) : Prop :=
  ∃ j s : Nat, iv = .int .i64 (j : Nat) ∧ nv = .int .i64 (s : Nat) ∧ j ≤ n ∧ s ≤ 1000000 ∧ Hid (s = wL f (rs.take j)) ∧ Hid (Below we.heap.size we wr)
def WIrel (xL : World) (M S0 e : Nat) (f : Int → Nat) (zs : List Int) (nv iv : Value) (wr : World) : Prop :=
  ∃ i s : Nat, iv = .int .i64 (i : Nat) ∧ nv = .int .i64 (s : Nat) ∧ i ≤ M ∧ s ≤ 1000000 ∧ Hid (s = S0 + e * i + sumF f (zs.take i)) ∧ Hid (Below xL.heap.size xL wr)
set_option maxHeartbeats 8000000 in
theorem vsize_p (va : Value) (rs : List V) (we : World) (hx : VL we va rs) (hlen : rs.length ≤ 100) (hbd : wL bitsZ rs ≤ 1000000) :
    Calls Tryd.prog 13 #[va] we fun e w' => e = .returned (.int .i64 ((wL bitsZ rs : Nat) : Int)) ∧ Below we.heap.size we w' := by
  obtain ⟨ko, kc, rfl, ⟨hq1, hq2⟩, -⟩ := hx.form
  have HL := Lib.hid hx
  have HBD := Lib.hid hbd
  obtain ⟨n, hn⟩ : ∃ n, n = rs.length := ⟨_, rfl⟩
  rw [← hn] at hlen hq1 HL ⊢
  have hmx : kc ≤ 9223372036854775807 := hq2
  have HN := Lib.hid hn
  clear hn hx hbd
  go_enter Tryd.func13, Tryd.ntmps13
  go_wp2_with fail
  go_loopw [3, 10] (WOrel we n bitsZ rs) (fun _ i _ => n - (intOf i).toNat)
  case atStart => exact ⟨0, 0, rfl, rfl, Nat.zero_le _, Nat.zero_le _, Lib.hid rfl, Lib.hid (Below.refl _ _)⟩
  case round =>
    obtain ⟨j, s, rfl, rfl, hj, hs, HS, HW⟩ := hrel
    by_cases hlt : j < n
    · have hz : j < rs.length := by rw [← HN.out]; exact hlt
      obtain ⟨wq, rfl⟩ : ∃ q, q = wr := ⟨_, rfl⟩
      obtain ⟨t1, t2⟩ := wL_take bitsZ rs j hz
      rw [← HS.out] at t1
      have HT1 := Lib.hid t1
      have HT2 := Lib.hid t2
      clear t1 t2
      cases hy : rs[j] with
      | I z =>
        obtain ⟨a, o, l, c, vd, vp, vm, vq, rfl, ⟨c0, c1, c2, c3, c4⟩, hg⟩ := (HL.out.below HW.out).intAt hz hy
        have HG := Lib.hid hg
        have hsum : s + bitsZ z ≤ 1000000 := by have h1 := HT1.out; have h2 := HT2.out; have h3 := HBD.out; rw [hy] at h1; simp only [wV] at h1; omega
        obtain ⟨sz, hsz⟩ : ∃ q, q = decide (z < 0) := ⟨_, rfl⟩
        rw [← hsz] at c1 HG
        have HY := Lib.hid hy
        clear hg hsz hy
        obtain ⟨x11, k5, e5, ek5, hb5, hk5, HB5⟩ := newV wq #[.int .i64 0, .bool sz, .slice o l c, .bool vd, .slice vp vm vq] 30
        replace HW := Lib.hid (HW.out.trans (hb5.out.mono HW.out.size))
        replace HG := Lib.hid (HG.out.below hb5.out)
        have g0 := cell_at (v := .int .i64 0) HB5.out 0 rfl
        have fg0 := froz_at HB5.out 0
        have g1 := cell_at (v := .bool sz) HB5.out 1 rfl
        have fg1 := froz_at HB5.out 1
        have g2 := cell_at (v := .slice o l c) HB5.out 2 rfl
        have fg2 := froz_at HB5.out 2
        have g3 := cell_at (v := .bool vd) HB5.out 3 rfl
        have fg3 := froz_at HB5.out 3
        have g4 := cell_at (v := .slice vp vm vq) HB5.out 4 rfl
        have fg4 := froz_at HB5.out 4
        go_wp2_with fail
        refine (wbits_any _ z 40 x11 HG.out (by decide)).mono ?_
        rintro e x12 ⟨rfl, hb⟩
        clear g0 fg0 g1 fg1 g2 fg2 g3 fg3 g4 fg4
        replace HB5 := kBV hb HB5
        replace HW := Lib.hid (HW.out.trans (hb.mono HW.out.size))
        replace HG := Lib.hid (HG.out.below hb)
        clear hb
        have g0 := cell_at (v := .int .i64 0) HB5.out 0 rfl
        have fg0 := froz_at HB5.out 0
        have g1 := cell_at (v := .bool sz) HB5.out 1 rfl
        have fg1 := froz_at HB5.out 1
        have g2 := cell_at (v := .slice o l c) HB5.out 2 rfl
        have fg2 := froz_at HB5.out 2
        have g3 := cell_at (v := .bool vd) HB5.out 3 rfl
        have fg3 := froz_at HB5.out 3
        have g4 := cell_at (v := .slice vp vm vq) HB5.out 4 rfl
        have fg4 := froz_at HB5.out 4
        rw [show bl z.natAbs = bitsZ z from rfl]
        obtain ⟨B, hB⟩ : ∃ B, B = bitsZ z := ⟨_, rfl⟩
        rw [← hB] at hsum
        rw [← hB]
        have hy := HY.out
        clear HY
        go_wp2_with fail
        go_roundw
        case rel => exact ⟨j + 1, s + B, by go_num, by go_num, hlt, hsum, Lib.hid (by rw [HT1.out, hy]; rw [hB]; rfl), HW⟩
        case measure => simp [intOf]; omega
      | B b =>
        obtain ⟨a, ve, o, l, c, vd, vp, vm, vq, rfl, ⟨c0, c1, c2, c3, c4⟩, hm0⟩ := (HL.out.below HW.out).boolAt hz hy
        subst hm0
        have hsum : s ≤ 1000000 := hs
        have HY := Lib.hid hy
        clear hy
        obtain ⟨x11, k5, e5, ek5, hb5, hk5, HB5⟩ := newV wq #[.int .i64 1, .bool ve, .slice o l c, .bool vd, .slice vp 0 vq] 30
        replace HW := Lib.hid (HW.out.trans (hb5.out.mono HW.out.size))
        have g0 := cell_at (v := .int .i64 1) HB5.out 0 rfl
        have fg0 := froz_at HB5.out 0
        have g1 := cell_at (v := .bool ve) HB5.out 1 rfl
        have fg1 := froz_at HB5.out 1
        have g2 := cell_at (v := .slice o l c) HB5.out 2 rfl
        have fg2 := froz_at HB5.out 2
        have g3 := cell_at (v := .bool vd) HB5.out 3 rfl
        have fg3 := froz_at HB5.out 3
        have g4 := cell_at (v := .slice vp 0 vq) HB5.out 4 rfl
        have fg4 := froz_at HB5.out 4
        have hy := HY.out
        clear HY
        go_wp2_with fail
        go_roundw
        case rel => exact ⟨j + 1, s, by go_num, by go_num, hlt, hsum, Lib.hid (by rw [HT1.out, hy]; rfl), HW⟩
        case measure => simp [intOf]; omega
      | L zs =>
        obtain ⟨a, ve, o, l, c, vd, vp, vm, vq, rfl, ⟨c0, c1, c2, c3, c4⟩, hg⟩ := (HL.out.below HW.out).listAt hz hy
        have HG := Lib.hid hg
        obtain ⟨⟨hl0, hlc, hcm⟩, -⟩ := hg.cells
        have hsum : s + l + sumF bitsZ zs ≤ 1000000 := by have h1 := HT1.out; have h2 := HT2.out; have h3 := HBD.out; rw [hy] at h1; simp only [wV] at h1; omega
        have HY := Lib.hid hy
        have HL0 := Lib.hid hl0
        have hcm2 : c ≤ 9223372036854775807 := hcm
        clear hg hy hl0
        obtain ⟨x11, k5, e5, ek5, hb5, hk5, HB5⟩ := newV wq #[.int .i64 2, .bool ve, .slice vp vm vq, .bool vd, .slice o l c] 30
        replace HW := Lib.hid (HW.out.trans (hb5.out.mono HW.out.size))
        replace HG := Lib.hid (HG.out.below hb5.out)
        have g0 := cell_at (v := .int .i64 2) HB5.out 0 rfl
        have fg0 := froz_at HB5.out 0
        have g1 := cell_at (v := .bool ve) HB5.out 1 rfl
        have fg1 := froz_at HB5.out 1
        have g2 := cell_at (v := .slice vp vm vq) HB5.out 2 rfl
        have fg2 := froz_at HB5.out 2
        have g3 := cell_at (v := .bool vd) HB5.out 3 rfl
        have fg3 := froz_at HB5.out 3
        have g4 := cell_at (v := .slice o l c) HB5.out 4 rfl
        have fg4 := froz_at HB5.out 4
        have HSM := Lib.hid hsum
        have hsl : s + l ≤ 1000000 := by omega
        go_wp2_with fail
        go_loopw [3, 28] (WIrel x11 l s 1 bitsZ zs) (fun _ i _ => l - (intOf i).toNat)
        case atStart => exact ⟨0, s, rfl, by go_num, Nat.zero_le _, by omega, Lib.hid (by simp [sumF]), Lib.hid (Below.refl _ _)⟩
        case round =>
          obtain ⟨i, s2, rfl, rfl, hi, hs2, HS2, HJ⟩ := hrel
          obtain ⟨wp, rfl⟩ : ∃ q, q = wr := ⟨_, rfl⟩
          by_cases hli : i < l
          · have hiz : i < zs.length := by rw [← HL0.out]; exact hli
            obtain ⟨t1, t2⟩ := sumF_take bitsZ zs i hiz
            obtain ⟨pa, po, pl, pc, hpa, e0, e1, hpc⟩ := (HG.out.below HJ.out).cells.2 i hiz
            subst hpa
            obtain ⟨y, hyy⟩ : ∃ y, y = zs[i] := ⟨_, rfl⟩
            rw [← hyy] at e0 hpc t1
            obtain ⟨sy, hsy⟩ : ∃ q, q = decide (y < 0) := ⟨_, rfl⟩
            rw [← hsy] at e0 hpc
            have HPC := Lib.hid hpc.gi
            have hs3 : s2 + 1 + bitsZ y ≤ 1000000 := by have h1 := HS2.out; have h2 := HSM.out; rw [t1] at t2; omega
            have HT := Lib.hid t1
            clear hyy hsy hpc t1 t2
            obtain ⟨x31, k7, e7, ek7, hb7, hk7, HB7⟩ := newV wp #[.bool sy, .slice po pl pc] 27
            replace HPC := Lib.hid (HPC.out.below hb7.out)
            replace HJ := Lib.hid (HJ.out.trans (hb7.out.mono HJ.out.size))
            have h0 := cell_at (v := .bool sy) HB7.out 0 rfl
            have fh0 := froz_at HB7.out 0
            have h1 := cell_at (v := .slice po pl pc) HB7.out 1 rfl
            have fh1 := froz_at HB7.out 1
            go_wp2_with fail
            refine (wbits_any _ y 40 x31 HPC.out (by decide)).mono ?_
            rintro e x32 ⟨rfl, hb⟩
            clear h0 fh0 h1 fh1
            replace HB7 := kBV hb HB7
            replace HPC := Lib.hid (HPC.out.below hb)
            replace HJ := Lib.hid (HJ.out.trans (hb.mono HJ.out.size))
            clear hb
            rw [show bl y.natAbs = bitsZ y from rfl]
            obtain ⟨B, hB⟩ : ∃ B, B = bitsZ y := ⟨_, rfl⟩
            rw [← hB] at hs3 HT
            rw [← hB]
            clear hB
            go_wp2_with fail
            go_roundw
            case rel => exact ⟨i + 1, s2 + (1 + B), by go_num, by go_num, hli, by omega, Lib.hid (by rw [HT.out]; have := HS2.out; omega), HJ⟩
            case measure => simp [intOf]; omega
          · have hil : i = l := by omega
            have hy := HY.out
            clear HY
            have hfin : s2 = s + (zs.length + sumF bitsZ zs) := by have h1 := HS2.out; rw [hil, HL0.out, List.take_length] at h1; omega
            have HFIN := Lib.hid hfin
            clear hfin
            go_wp2_with fail
            go_roundw
            case rel => exact ⟨j + 1, s2, by go_num, rfl, hlt, hs2, Lib.hid (by rw [HT1.out, hy, HFIN.out]; rfl), Lib.hid (HW.out.trans (HJ.out.mono HW.out.size))⟩
            case measure => simp [intOf]; omega
    · go_wp2_with fail
      go_ret
      refine ⟨?_, HW.out⟩
      have e := HS.out
      rw [show j = rs.length by rw [← HN.out]; omega, List.take_length] at e
      rw [← e]; rfl
set_option maxHeartbeats 8000000 in
theorem lsize_p (va : Value) (rs : List V) (we : World) (hx : VL we va rs) (hlen : rs.length ≤ 100) (hbd : wL bitsZ rs ≤ 1000000) :
    Calls Tryd.prog 11 #[va] we fun e w' => e = .returned (.int .i64 ((wL bitsZ rs : Nat) : Int)) ∧ Below we.heap.size we w' := by
  obtain ⟨ko, kc, rfl, ⟨hq1, hq2⟩, -⟩ := hx.form
  have HL := Lib.hid hx
  have HBD := Lib.hid hbd
  obtain ⟨n, hn⟩ : ∃ n, n = rs.length := ⟨_, rfl⟩
  rw [← hn] at hlen hq1 HL ⊢
  have hmx : kc ≤ 9223372036854775807 := hq2
  have HN := Lib.hid hn
  clear hn hx hbd
  go_enter Tryd.func11, Tryd.ntmps11
  go_wp2_with fail
  go_loopw [3, 10] (WOrel we n bitsZ rs) (fun _ i _ => n - (intOf i).toNat)
  case atStart => exact ⟨0, 0, rfl, rfl, Nat.zero_le _, Nat.zero_le _, Lib.hid rfl, Lib.hid (Below.refl _ _)⟩
  case round =>
    obtain ⟨j, s, rfl, rfl, hj, hs, HS, HW⟩ := hrel
    by_cases hlt : j < n
    · have hz : j < rs.length := by rw [← HN.out]; exact hlt
      obtain ⟨wq, rfl⟩ : ∃ q, q = wr := ⟨_, rfl⟩
      obtain ⟨t1, t2⟩ := wL_take bitsZ rs j hz
      rw [← HS.out] at t1
      have HT1 := Lib.hid t1
      have HT2 := Lib.hid t2
      clear t1 t2
      cases hy : rs[j] with
      | I z =>
        obtain ⟨a, o, l, c, vd, vp, vm, vq, rfl, ⟨c0, c1, c2, c3, c4⟩, hg⟩ := (HL.out.below HW.out).intAt hz hy
        have HG := Lib.hid hg
        have hsum : s + bitsZ z ≤ 1000000 := by have h1 := HT1.out; have h2 := HT2.out; have h3 := HBD.out; rw [hy] at h1; simp only [wV] at h1; omega
        obtain ⟨sz, hsz⟩ : ∃ q, q = decide (z < 0) := ⟨_, rfl⟩
        rw [← hsz] at c1 HG
        have HY := Lib.hid hy
        clear hg hsz hy
        obtain ⟨x11, k5, e5, ek5, hb5, hk5, HB5⟩ := newV wq #[.int .i64 0, .bool sz, .slice o l c, .bool vd, .slice vp vm vq] 30
        replace HW := Lib.hid (HW.out.trans (hb5.out.mono HW.out.size))
        replace HG := Lib.hid (HG.out.below hb5.out)
        have g0 := cell_at (v := .int .i64 0) HB5.out 0 rfl
        have fg0 := froz_at HB5.out 0
        have g1 := cell_at (v := .bool sz) HB5.out 1 rfl
        have fg1 := froz_at HB5.out 1
        have g2 := cell_at (v := .slice o l c) HB5.out 2 rfl
        have fg2 := froz_at HB5.out 2
        have g3 := cell_at (v := .bool vd) HB5.out 3 rfl
        have fg3 := froz_at HB5.out 3
        have g4 := cell_at (v := .slice vp vm vq) HB5.out 4 rfl
        have fg4 := froz_at HB5.out 4
        go_wp2_with fail
        refine (bits_p _ z x11 HG.out).mono ?_
        rintro e x12 ⟨rfl, hb⟩
        clear g0 fg0 g1 fg1 g2 fg2 g3 fg3 g4 fg4
        replace HB5 := kBV hb HB5
        replace HW := Lib.hid (HW.out.trans (hb.mono HW.out.size))
        replace HG := Lib.hid (HG.out.below hb)
        clear hb
        have g0 := cell_at (v := .int .i64 0) HB5.out 0 rfl
        have fg0 := froz_at HB5.out 0
        have g1 := cell_at (v := .bool sz) HB5.out 1 rfl
        have fg1 := froz_at HB5.out 1
        have g2 := cell_at (v := .slice o l c) HB5.out 2 rfl
        have fg2 := froz_at HB5.out 2
        have g3 := cell_at (v := .bool vd) HB5.out 3 rfl
        have fg3 := froz_at HB5.out 3
        have g4 := cell_at (v := .slice vp vm vq) HB5.out 4 rfl
        have fg4 := froz_at HB5.out 4
        obtain ⟨B, hB⟩ : ∃ B, B = bitsZ z := ⟨_, rfl⟩
        rw [← hB] at hsum
        rw [← hB]
        have hy := HY.out
        clear HY
        go_wp2_with fail
        go_roundw
        case rel => exact ⟨j + 1, s + B, by go_num, by go_num, hlt, hsum, Lib.hid (by rw [HT1.out, hy]; rw [hB]; rfl), HW⟩
        case measure => simp [intOf]; omega
      | B b =>
        obtain ⟨a, ve, o, l, c, vd, vp, vm, vq, rfl, ⟨c0, c1, c2, c3, c4⟩, hm0⟩ := (HL.out.below HW.out).boolAt hz hy
        subst hm0
        have hsum : s ≤ 1000000 := hs
        have HY := Lib.hid hy
        clear hy
        obtain ⟨x11, k5, e5, ek5, hb5, hk5, HB5⟩ := newV wq #[.int .i64 1, .bool ve, .slice o l c, .bool vd, .slice vp 0 vq] 30
        replace HW := Lib.hid (HW.out.trans (hb5.out.mono HW.out.size))
        have g0 := cell_at (v := .int .i64 1) HB5.out 0 rfl
        have fg0 := froz_at HB5.out 0
        have g1 := cell_at (v := .bool ve) HB5.out 1 rfl
        have fg1 := froz_at HB5.out 1
        have g2 := cell_at (v := .slice o l c) HB5.out 2 rfl
        have fg2 := froz_at HB5.out 2
        have g3 := cell_at (v := .bool vd) HB5.out 3 rfl
        have fg3 := froz_at HB5.out 3
        have g4 := cell_at (v := .slice vp 0 vq) HB5.out 4 rfl
        have fg4 := froz_at HB5.out 4
        have hy := HY.out
        clear HY
        go_wp2_with fail
        go_roundw
        case rel => exact ⟨j + 1, s, by go_num, by go_num, hlt, hsum, Lib.hid (by rw [HT1.out, hy]; rfl), HW⟩
        case measure => simp [intOf]; omega
      | L zs =>
        obtain ⟨a, ve, o, l, c, vd, vp, vm, vq, rfl, ⟨c0, c1, c2, c3, c4⟩, hg⟩ := (HL.out.below HW.out).listAt hz hy
        have HG := Lib.hid hg
        obtain ⟨⟨hl0, hlc, hcm⟩, -⟩ := hg.cells
        have hsum : s + l + sumF bitsZ zs ≤ 1000000 := by have h1 := HT1.out; have h2 := HT2.out; have h3 := HBD.out; rw [hy] at h1; simp only [wV] at h1; omega
        have HY := Lib.hid hy
        have HL0 := Lib.hid hl0
        have hcm2 : c ≤ 9223372036854775807 := hcm
        clear hg hy hl0
        obtain ⟨x11, k5, e5, ek5, hb5, hk5, HB5⟩ := newV wq #[.int .i64 2, .bool ve, .slice vp vm vq, .bool vd, .slice o l c] 30
        replace HW := Lib.hid (HW.out.trans (hb5.out.mono HW.out.size))
        replace HG := Lib.hid (HG.out.below hb5.out)
        have g0 := cell_at (v := .int .i64 2) HB5.out 0 rfl
        have fg0 := froz_at HB5.out 0
        have g1 := cell_at (v := .bool ve) HB5.out 1 rfl
        have fg1 := froz_at HB5.out 1
        have g2 := cell_at (v := .slice vp vm vq) HB5.out 2 rfl
        have fg2 := froz_at HB5.out 2
        have g3 := cell_at (v := .bool vd) HB5.out 3 rfl
        have fg3 := froz_at HB5.out 3
        have g4 := cell_at (v := .slice o l c) HB5.out 4 rfl
        have fg4 := froz_at HB5.out 4
        have HSM := Lib.hid hsum
        have hsl : s + l ≤ 1000000 := by omega
        go_wp2_with fail
        go_loopw [3, 33] (WIrel x11 l (s + l) 0 bitsZ zs) (fun _ i _ => l - (intOf i).toNat)
        case atStart => exact ⟨0, (s + l), rfl, by go_num, Nat.zero_le _, by omega, Lib.hid (by simp [sumF]), Lib.hid (Below.refl _ _)⟩
        case round =>
          obtain ⟨i, s2, rfl, rfl, hi, hs2, HS2, HJ⟩ := hrel
          obtain ⟨wp, rfl⟩ : ∃ q, q = wr := ⟨_, rfl⟩
          by_cases hli : i < l
          · have hiz : i < zs.length := by rw [← HL0.out]; exact hli
            obtain ⟨t1, t2⟩ := sumF_take bitsZ zs i hiz
            obtain ⟨pa, po, pl, pc, hpa, e0, e1, hpc⟩ := (HG.out.below HJ.out).cells.2 i hiz
            subst hpa
            obtain ⟨y, hyy⟩ : ∃ y, y = zs[i] := ⟨_, rfl⟩
            rw [← hyy] at e0 hpc t1
            obtain ⟨sy, hsy⟩ : ∃ q, q = decide (y < 0) := ⟨_, rfl⟩
            rw [← hsy] at e0 hpc
            have HPC := Lib.hid hpc.gi
            have hs3 : s2 + 0 + bitsZ y ≤ 1000000 := by have h1 := HS2.out; have h2 := HSM.out; rw [t1] at t2; omega
            have HT := Lib.hid t1
            clear hyy hsy hpc t1 t2
            obtain ⟨x31, k7, e7, ek7, hb7, hk7, HB7⟩ := newV wp #[.bool sy, .slice po pl pc] 27
            replace HPC := Lib.hid (HPC.out.below hb7.out)
            replace HJ := Lib.hid (HJ.out.trans (hb7.out.mono HJ.out.size))
            have h0 := cell_at (v := .bool sy) HB7.out 0 rfl
            have fh0 := froz_at HB7.out 0
            have h1 := cell_at (v := .slice po pl pc) HB7.out 1 rfl
            have fh1 := froz_at HB7.out 1
            go_wp2_with fail
            refine (bits_p _ y x31 HPC.out).mono ?_
            rintro e x32 ⟨rfl, hb⟩
            clear h0 fh0 h1 fh1
            replace HB7 := kBV hb HB7
            replace HPC := Lib.hid (HPC.out.below hb)
            replace HJ := Lib.hid (HJ.out.trans (hb.mono HJ.out.size))
            clear hb
            obtain ⟨B, hB⟩ : ∃ B, B = bitsZ y := ⟨_, rfl⟩
            rw [← hB] at hs3 HT
            rw [← hB]
            clear hB
            go_wp2_with fail
            go_roundw
            case rel => exact ⟨i + 1, s2 + (B), by go_num, by go_num, hli, by omega, Lib.hid (by rw [HT.out]; have := HS2.out; omega), HJ⟩
            case measure => simp [intOf]; omega
          · have hil : i = l := by omega
            have hy := HY.out
            clear HY
            have hfin : s2 = s + (zs.length + sumF bitsZ zs) := by have h1 := HS2.out; rw [hil, HL0.out, List.take_length] at h1; omega
            have HFIN := Lib.hid hfin
            clear hfin
            go_wp2_with fail
            go_roundw
            case rel => exact ⟨j + 1, s2, by go_num, rfl, hlt, hs2, Lib.hid (by rw [HT1.out, hy, HFIN.out]; rfl), Lib.hid (HW.out.trans (HJ.out.mono HW.out.size))⟩
            case measure => simp [intOf]; omega
    · go_wp2_with fail
      go_ret
      refine ⟨?_, HW.out⟩
      have e := HS.out
      rw [show j = rs.length by rw [← HN.out]; omega, List.take_length] at e
      rw [← e]; rfl
set_option maxHeartbeats 8000000 in
theorem lall_p (va : Value) (rs : List V) (we : World) (hx : VL we va rs) (hlen : rs.length ≤ 100) (hbd : wL cap2 rs ≤ 1000000) :
    Calls Tryd.prog 14 #[va] we fun e w' => e = .returned (.int .i64 ((wL cap2 rs : Nat) : Int)) ∧ Below we.heap.size we w' := by
  obtain ⟨ko, kc, rfl, ⟨hq1, hq2⟩, -⟩ := hx.form
  have HL := Lib.hid hx
  have HBD := Lib.hid hbd
  obtain ⟨n, hn⟩ : ∃ n, n = rs.length := ⟨_, rfl⟩
  rw [← hn] at hlen hq1 HL ⊢
  have hmx : kc ≤ 9223372036854775807 := hq2
  have HN := Lib.hid hn
  clear hn hx hbd
  go_enter Tryd.func14, Tryd.ntmps14
  go_wp2_with fail
  go_loopw [3, 11] (WOrel we n cap2 rs) (fun _ i _ => n - (intOf i).toNat)
  case atStart => exact ⟨0, 0, rfl, rfl, Nat.zero_le _, Nat.zero_le _, Lib.hid rfl, Lib.hid (Below.refl _ _)⟩
  case round =>
    obtain ⟨j, s, rfl, rfl, hj, hs, HS, HW⟩ := hrel
    by_cases hlt : j < n
    · have hz : j < rs.length := by rw [← HN.out]; exact hlt
      obtain ⟨wq, rfl⟩ : ∃ q, q = wr := ⟨_, rfl⟩
      obtain ⟨t1, t2⟩ := wL_take cap2 rs j hz
      rw [← HS.out] at t1
      have HT1 := Lib.hid t1
      have HT2 := Lib.hid t2
      clear t1 t2
      cases hy : rs[j] with
      | I z =>
        obtain ⟨a, o, l, c, vd, vp, vm, vq, rfl, ⟨c0, c1, c2, c3, c4⟩, hg⟩ := (HL.out.below HW.out).intAt hz hy
        have HG := Lib.hid hg
        have hsum : s + cap2 z ≤ 1000000 := by have h1 := HT1.out; have h2 := HT2.out; have h3 := HBD.out; rw [hy] at h1; simp only [wV] at h1; omega
        obtain ⟨sz, hsz⟩ : ∃ q, q = decide (z < 0) := ⟨_, rfl⟩
        rw [← hsz] at c1 HG
        have HY := Lib.hid hy
        clear hg hsz hy
        obtain ⟨x11, k5, e5, ek5, hb5, hk5, HB5⟩ := newV wq #[.int .i64 0, .bool sz, .slice o l c, .bool vd, .slice vp vm vq] 30
        replace HW := Lib.hid (HW.out.trans (hb5.out.mono HW.out.size))
        replace HG := Lib.hid (HG.out.below hb5.out)
        have g0 := cell_at (v := .int .i64 0) HB5.out 0 rfl
        have fg0 := froz_at HB5.out 0
        have g1 := cell_at (v := .bool sz) HB5.out 1 rfl
        have fg1 := froz_at HB5.out 1
        have g2 := cell_at (v := .slice o l c) HB5.out 2 rfl
        have fg2 := froz_at HB5.out 2
        have g3 := cell_at (v := .bool vd) HB5.out 3 rfl
        have fg3 := froz_at HB5.out 3
        have g4 := cell_at (v := .slice vp vm vq) HB5.out 4 rfl
        have fg4 := froz_at HB5.out 4
        obtain ⟨x12, k6, e6, ek6, hb6, hk6, HB6⟩ := newV x11 #[.bool sz, .slice o l c] 27
        replace HB5 := kBV hb6.out HB5
        replace HW := Lib.hid (HW.out.trans (hb6.out.mono HW.out.size))
        replace HG := Lib.hid (HG.out.below hb6.out)
        skip
        go_wp2_with fail
        go_loopw [3, 29] (fun nv iv wr => ∃ i s2 : Nat, iv = .int .i64 (i : Nat) ∧ nv = .int .i64 (s2 : Nat) ∧ i ≤ 1 ∧ s2 ≤ 1000000 ∧ Hid (s2 = s + i * cap2 z) ∧ Hid (Below x12.heap.size x12 wr)) (fun _ i _ => 1 - (intOf i).toNat)
        case atStart => exact ⟨0, s, rfl, rfl, Nat.zero_le _, hs, Lib.hid (by omega), Lib.hid (Below.refl _ _)⟩
        case round =>
          obtain ⟨i, s2, rfl, rfl, hi, hs2, HS2, HJ⟩ := hrel
          obtain ⟨wp, rfl⟩ : ∃ q, q = wr := ⟨_, rfl⟩
          by_cases hli : i < 1
          · have hi0 : i = 0 := by omega
            subst hi0
            have hs3 : s2 = s := by rw [HS2.out]; omega
            subst hs3
            have HG2 := Lib.hid (HG.out.below HJ.out)
            have HB6b := kBV HJ.out HB6
            have e0 := cell_at (v := .bool sz) HB6b.out 0 rfl
            have e1 := cell_at (v := .slice o l c) HB6b.out 1 rfl
            obtain ⟨x31, k8, e8, ek8, hb8, hk8, HB8⟩ := newV wp #[.bool sz, .slice o l c] 27
            replace HG2 := Lib.hid (HG2.out.below hb8.out)
            replace HJ := Lib.hid (HJ.out.trans (hb8.out.mono HJ.out.size))
            have h0 := cell_at (v := .bool sz) HB8.out 0 rfl
            have fh0 := froz_at HB8.out 0
            have h1 := cell_at (v := .slice o l c) HB8.out 1 rfl
            have fh1 := froz_at HB8.out 1
            go_wp2_with fail
            refine (bits_p _ z x31 HG2.out).mono ?_
            rintro e x32 ⟨rfl, hb⟩
            clear h0 fh0 h1 fh1
            replace HB8 := kBV hb HB8
            replace HG2 := Lib.hid (HG2.out.below hb)
            replace HJ := Lib.hid (HJ.out.trans (hb.mono HJ.out.size))
            clear hb
            obtain ⟨B, hB⟩ : ∃ B, B = bitsZ z := ⟨_, rfl⟩
            rw [← hB]
            have hmin : min (B : Int) 2 = ((min B 2 : Nat) : Int) := by omega
            obtain ⟨C, hC⟩ : ∃ C, C = min B 2 := ⟨_, rfl⟩
            rw [← hC] at hmin
            have hC2 : C ≤ 2 := by omega
            have hCz : cap2 z = C := by unfold cap2; rw [← hB, hC]
            have HCB := Lib.hid hCz
            have hsum2 : s2 + C ≤ 1000000 := by omega
            clear hCz
            clear hB hC
            go_wp2_with fail
            go_roundw
            case rel => exact ⟨1, s2 + C, by go_num, by go_num, Nat.le_refl _, hsum2, Lib.hid (by rw [HCB.out]; omega), HJ⟩
            case measure => simp [intOf]
          · have hy := HY.out
            clear HY
            have hi1 : i = 1 := by omega
            subst hi1
            go_wp2_with fail
            go_roundw
            case rel => exact ⟨j + 1, s2, by go_num, rfl, hlt, hs2, Lib.hid (by rw [HT1.out, hy, HS2.out]; simp [wV]), Lib.hid (HW.out.trans (HJ.out.mono HW.out.size))⟩
            case measure => simp [intOf]; omega
      | B b =>
        obtain ⟨a, ve, o, l, c, vd, vp, vm, vq, rfl, ⟨c0, c1, c2, c3, c4⟩, hm0⟩ := (HL.out.below HW.out).boolAt hz hy
        subst hm0
        have hsum : s ≤ 1000000 := hs
        have HY := Lib.hid hy
        clear hy
        obtain ⟨x11, k5, e5, ek5, hb5, hk5, HB5⟩ := newV wq #[.int .i64 1, .bool ve, .slice o l c, .bool vd, .slice vp 0 vq] 30
        replace HW := Lib.hid (HW.out.trans (hb5.out.mono HW.out.size))
        have g0 := cell_at (v := .int .i64 1) HB5.out 0 rfl
        have fg0 := froz_at HB5.out 0
        have g1 := cell_at (v := .bool ve) HB5.out 1 rfl
        have fg1 := froz_at HB5.out 1
        have g2 := cell_at (v := .slice o l c) HB5.out 2 rfl
        have fg2 := froz_at HB5.out 2
        have g3 := cell_at (v := .bool vd) HB5.out 3 rfl
        have fg3 := froz_at HB5.out 3
        have g4 := cell_at (v := .slice vp 0 vq) HB5.out 4 rfl
        have fg4 := froz_at HB5.out 4
        go_wp2_with fail
        go_loopw [3, 29] (fun nv iv wr => ∃ s2 : Nat, iv = .int .i64 0 ∧ nv = .int .i64 (s2 : Nat) ∧ s2 ≤ 1000000 ∧ Hid (s2 = s) ∧ Hid (Below x11.heap.size x11 wr)) (fun _ i _ => 1)
        case atStart => exact ⟨s, rfl, by go_num, hs, Lib.hid rfl, Lib.hid (Below.refl _ _)⟩
        case round =>
          obtain ⟨s2, rfl, rfl, hs2, HS2, HJ⟩ := hrel
          have hy := HY.out
          clear HY
          go_wp2_with fail
          go_roundw
          case rel => exact ⟨j + 1, s2, by go_num, rfl, hlt, hs2, Lib.hid (by rw [HT1.out, hy, HS2.out]; rfl), Lib.hid (HW.out.trans (HJ.out.mono HW.out.size))⟩
          case measure => simp [intOf]; omega
      | L zs =>
        obtain ⟨a, ve, o, l, c, vd, vp, vm, vq, rfl, ⟨c0, c1, c2, c3, c4⟩, hg⟩ := (HL.out.below HW.out).listAt hz hy
        have HG := Lib.hid hg
        obtain ⟨⟨hl0, hlc, hcm⟩, -⟩ := hg.cells
        have hsum : s + l + sumF cap2 zs ≤ 1000000 := by have h1 := HT1.out; have h2 := HT2.out; have h3 := HBD.out; rw [hy] at h1; simp only [wV] at h1; omega
        have HY := Lib.hid hy
        have HL0 := Lib.hid hl0
        have hcm2 : c ≤ 9223372036854775807 := hcm
        clear hg hy hl0
        obtain ⟨x11, k5, e5, ek5, hb5, hk5, HB5⟩ := newV wq #[.int .i64 2, .bool ve, .slice vp vm vq, .bool vd, .slice o l c] 30
        replace HW := Lib.hid (HW.out.trans (hb5.out.mono HW.out.size))
        replace HG := Lib.hid (HG.out.below hb5.out)
        have g0 := cell_at (v := .int .i64 2) HB5.out 0 rfl
        have fg0 := froz_at HB5.out 0
        have g1 := cell_at (v := .bool ve) HB5.out 1 rfl
        have fg1 := froz_at HB5.out 1
        have g2 := cell_at (v := .slice vp vm vq) HB5.out 2 rfl
        have fg2 := froz_at HB5.out 2
        have g3 := cell_at (v := .bool vd) HB5.out 3 rfl
        have fg3 := froz_at HB5.out 3
        have g4 := cell_at (v := .slice o l c) HB5.out 4 rfl
        have fg4 := froz_at HB5.out 4
        have HSM := Lib.hid hsum
        have hsl : s + l ≤ 1000000 := by omega
        go_wp2_with fail
        go_loopw [3, 29] (WIrel x11 l (s + l) 0 cap2 zs) (fun _ i _ => l - (intOf i).toNat)
        case atStart => exact ⟨0, (s + l), rfl, by go_num, Nat.zero_le _, by omega, Lib.hid (by simp [sumF]), Lib.hid (Below.refl _ _)⟩
        case round =>
          obtain ⟨i, s2, rfl, rfl, hi, hs2, HS2, HJ⟩ := hrel
          obtain ⟨wp, rfl⟩ : ∃ q, q = wr := ⟨_, rfl⟩
          by_cases hli : i < l
          · have hiz : i < zs.length := by rw [← HL0.out]; exact hli
            obtain ⟨t1, t2⟩ := sumF_take cap2 zs i hiz
            obtain ⟨pa, po, pl, pc, hpa, e0, e1, hpc⟩ := (HG.out.below HJ.out).cells.2 i hiz
            subst hpa
            obtain ⟨y, hyy⟩ : ∃ y, y = zs[i] := ⟨_, rfl⟩
            rw [← hyy] at e0 hpc t1
            obtain ⟨sy, hsy⟩ : ∃ q, q = decide (y < 0) := ⟨_, rfl⟩
            rw [← hsy] at e0 hpc
            have HPC := Lib.hid hpc.gi
            have hs3 : s2 + 0 + cap2 y ≤ 1000000 := by have h1 := HS2.out; have h2 := HSM.out; rw [t1] at t2; omega
            have HT := Lib.hid t1
            clear hyy hsy hpc t1 t2
            obtain ⟨x31, k8, e8, ek8, hb8, hk8, HB8⟩ := newV wp #[.bool sy, .slice po pl pc] 27
            replace HPC := Lib.hid (HPC.out.below hb8.out)
            replace HJ := Lib.hid (HJ.out.trans (hb8.out.mono HJ.out.size))
            have h0 := cell_at (v := .bool sy) HB8.out 0 rfl
            have fh0 := froz_at HB8.out 0
            have h1 := cell_at (v := .slice po pl pc) HB8.out 1 rfl
            have fh1 := froz_at HB8.out 1
            go_wp2_with fail
            refine (bits_p _ y x31 HPC.out).mono ?_
            rintro e x32 ⟨rfl, hb⟩
            clear h0 fh0 h1 fh1
            replace HB8 := kBV hb HB8
            replace HPC := Lib.hid (HPC.out.below hb)
            replace HJ := Lib.hid (HJ.out.trans (hb.mono HJ.out.size))
            clear hb
            obtain ⟨B, hB⟩ : ∃ B, B = bitsZ y := ⟨_, rfl⟩
            rw [← hB]
            have hmin : min (B : Int) 2 = ((min B 2 : Nat) : Int) := by omega
            obtain ⟨C, hC⟩ : ∃ C, C = min B 2 := ⟨_, rfl⟩
            rw [← hC] at hmin
            have hCy : cap2 y = C := by unfold cap2; rw [← hB, hC]
            rw [hCy] at hs3 HT
            clear hB hC hCy
            go_wp2_with fail
            go_roundw
            case rel => exact ⟨i + 1, s2 + C, by go_num, by go_num, hli, by omega, Lib.hid (by rw [HT.out]; have := HS2.out; omega), HJ⟩
            case measure => simp [intOf]; omega
          · have hil : i = l := by omega
            have hy := HY.out
            clear HY
            have hfin : s2 = s + (zs.length + sumF cap2 zs) := by have h1 := HS2.out; rw [hil, HL0.out, List.take_length] at h1; omega
            have HFIN := Lib.hid hfin
            clear hfin
            go_wp2_with fail
            go_roundw
            case rel => exact ⟨j + 1, s2, by go_num, rfl, hlt, hs2, Lib.hid (by rw [HT1.out, hy, HFIN.out]; rfl), Lib.hid (HW.out.trans (HJ.out.mono HW.out.size))⟩
            case measure => simp [intOf]; omega
    · go_wp2_with fail
      go_ret
      refine ⟨?_, HW.out⟩
      have e := HS.out
      rw [show j = rs.length by rw [← HN.out]; omega, List.take_length] at e
      rw [← e]; rfl
end Go.Proofs.YtocadojeanhalaaDoor
