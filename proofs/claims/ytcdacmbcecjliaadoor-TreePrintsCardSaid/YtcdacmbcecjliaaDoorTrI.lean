/-
  Contracts of the writer's methods base, head, qual, fun, and of Print.
-/
import Derived.Test.YtcdacmbcecjliaaDoorTrV
namespace Go.Proofs.YtcdacmbcecjliaaDoor
open Go.RowKit
set_option linter.unusedVariables false
set_option maxRecDepth 100000

/-- A parameter's fields. -/
structure Pm where
  nm : ByteArray
  bs : Int
  kn : Bool
  rf : X
  ln : Int
  cl : Int
def pc (p : Pm) : List Value := [.string p.nm, .int .i64 p.bs, .bool p.kn, .int .i64 p.rf.k, .string p.rf.nm, .string p.rf.ot, .bool p.rf.b, .slice p.rf.ao p.rf.n p.rf.c, .slice p.rf.ko p.rf.kn p.rf.kc, .int .i64 p.rf.ln, .int .i64 p.rf.cl, .int .i64 p.ln, .int .i64 p.cl]
def pv (p : Pm) : Value := .agg #[.string p.nm, .int .i64 p.bs, .bool p.kn, .int .i64 p.rf.k, .string p.rf.nm, .string p.rf.ot, .bool p.rf.b, .slice p.rf.ao p.rf.n p.rf.c, .slice p.rf.ko p.rf.kn p.rf.kc, .int .i64 p.rf.ln, .int .i64 p.rf.cl, .int .i64 p.ln, .int .i64 p.cl]
/-- The text of a base type. -/
def bsT (b : Nat) : Bs := if b = 0 then [105, 110, 116] else if b = 1 then [98, 111, 111, 108] else [108, 105, 115, 116]
theorem bsT_len (b : Nat) : (bsT b).length ≤ 4 := by
  unfold bsT
  split
  · decide
  · split <;> decide
/-- A parameter that is printed so: its name, its base with its refinement. -/
def PmOk (w : World) (p : Pm) (nm bt : Bs) : Prop := p.nm = ⟨nm.toArray⟩ ∧ nm.length ≤ 5 ∧ ∃ b : Nat, b < 3 ∧ p.bs = (b : Int) ∧ ((p.kn = false ∧ bt = bsT b) ∨ (p.kn = true ∧ ∃ t, Tr w (fun _ => True) 4 p.rf t ∧ Ok 4 t ∧ bt = bsT b ++ [123] ++ tx t ++ [125]))
theorem PmOk.len {w : World} {p : Pm} {nm bt : Bs} (h : PmOk w p nm bt) : bt.length ≤ 30730 := by
  obtain ⟨-, -, b, -, -, h⟩ := h
  have hb := bsT_len b
  rcases h with ⟨-, rfl⟩ | ⟨-, t, -, ho, rfl⟩
  · omega
  · have := (len_all 4 t ho).1
    have hL : LL 4 = 30720 := rfl
    simp only [List.length_append, List.length_cons, List.length_nil]; omega
theorem PmOk.below {w w' : World} {p : Pm} {nm bt : Bs} (h : PmOk w p nm bt) (hb : Below w.heap.size w w') : PmOk w' p nm bt := by
  obtain ⟨h1, h2, b, h3, h4, h5⟩ := h
  refine ⟨h1, h2, b, h3, h4, ?_⟩
  rcases h5 with h5 | ⟨h5, t, h6, h7⟩
  · exact .inl h5
  · exact .inr ⟨h5, t, h6.below hb, h7⟩

set_option maxHeartbeats 8000000 in
theorem base_any (w0 : World) (ht : Tabs w0) (p : Pm) (nm bt : Bs) (hp : PmOk w0 p nm bt) (b : Nat) (l : Bs) (w : World) (hbw : Below w0.heap.size w0 w) (hwr : Wr w0.heap.size b l w) (hlen : l.length ≤ 500000) :
    Calls Tryd.prog 34 #[.pointer (some ⟨b, 0, none⟩), pv p] w (WrPost w0.heap.size b (l ++ bt) w) := by
  obtain ⟨pnm, pbs, pkn, ⟨rk, rnm, rot, rb, rao, rn, rc, rko, rkn, rkc, rln, rcl⟩, pln, pcl⟩ := p
  obtain ⟨e1, hn, bb, hb3, e2, hcase⟩ := hp
  simp only at e1 e2 hcase
  subst e1 e2
  have HTB := Lib.hid ht
  have hLL : LL 4 = 30720 := rfl
  have hbl := bsT_len bb
  clear ht hn
  simp only [pv]
  obtain ⟨k3, hk3⟩ : ∃ k3, k3 = w.heap.size := ⟨_, rfl⟩
  obtain ⟨w9, hw9⟩ : ∃ w9, w9 = w.alloc (.cells #[.string ⟨nm.toArray⟩, .int .i64 (bb : Nat), .bool pkn, .int .i64 rk, .string rnm, .string rot, .bool rb, .slice rao rn rc, .slice rko rkn rkc, .int .i64 rln, .int .i64 rcl, .int .i64 pln, .int .i64 pcl] 42) := ⟨_, rfl⟩
  have hba : Below w.heap.size w w9 := by rw [hw9]; exact (Below.refl _ _).alloc (Nat.le_refl _) _
  have hx9 : w9.heap[k3]? = some (.cells #[.string ⟨nm.toArray⟩, .int .i64 (bb : Nat), .bool pkn, .int .i64 rk, .string rnm, .string rot, .bool rb, .slice rao rn rc, .slice rko rkn rkc, .int .i64 rln, .int .i64 rcl, .int .i64 pln, .int .i64 pcl] 42 (0, 0)) := by rw [hw9, hk3]; exact made_at w _ _ rfl
  have HX9 := Lib.hid hx9
  have hsB := hbw.size
  have H9 := Lib.hid (hwr.below hba)
  have HB9 := Lib.hid (hba.mono hsB)
  have HF9 := Lib.hid (fr_below hba)
  have HBW := Lib.hid hbw
  have hs9 := hba.size
  clear hba hx9 hbw hwr
  go_enter Tryd.func34, Tryd.ntmps34
  go_upto_region 1 with fail
  rw [← hw9, ← hk3]
  clear hw9 hk3
  have h3 : bb = 0 ∨ bb = 1 ∨ bb = 2 := by omega
  clear hb3
  rcases hcase with ⟨rfl, rfl⟩ | ⟨rfl, t, hT, hO, rfl⟩
  · rcases h3 with rfl | rfl | rfl
    · have x1 := cell_at (v := .int .i64 ((0 : Nat) : Int)) HX9.out 1 rfl
      have x2 := cell_at (v := .bool false) HX9.out 2 rfl
      go_wp2_with fail
      refine (wr_str w0.heap.size b l [105, 110, 116] w9 H9.out (by simp only [List.length_cons, List.length_nil]; omega) (by omega)).mono ?_
      rintro e w10 ⟨⟨v10, rfl⟩, hw, hb, hfr⟩
      have hs10 := hb.size
      have HX10 := Lib.hid (hfr k3 _ _ _ HX9.out (by decide) (by decide))
      have H10 := Lib.hid hw
      have HB10 := Lib.hid (HB9.out.trans hb)
      have HF10 := Lib.hid (HF9.out.trans hfr)
      clear hw hb hfr
      clear x1 x2
      have x1 := cell_at (v := .int .i64 ((0 : Nat) : Int)) HX10.out 1 rfl
      have x2 := cell_at (v := .bool false) HX10.out 2 rfl
      go_wp2_with fail
      go_end0
      exact ⟨⟨_, rfl⟩, H10.out, HB10.out, HF10.out⟩
    · have x1 := cell_at (v := .int .i64 ((1 : Nat) : Int)) HX9.out 1 rfl
      have x2 := cell_at (v := .bool false) HX9.out 2 rfl
      go_wp2_with fail
      refine (wr_str w0.heap.size b l [98, 111, 111, 108] w9 H9.out (by simp only [List.length_cons, List.length_nil]; omega) (by omega)).mono ?_
      rintro e w10 ⟨⟨v10, rfl⟩, hw, hb, hfr⟩
      have hs10 := hb.size
      have HX10 := Lib.hid (hfr k3 _ _ _ HX9.out (by decide) (by decide))
      have H10 := Lib.hid hw
      have HB10 := Lib.hid (HB9.out.trans hb)
      have HF10 := Lib.hid (HF9.out.trans hfr)
      clear hw hb hfr
      clear x1 x2
      have x1 := cell_at (v := .int .i64 ((1 : Nat) : Int)) HX10.out 1 rfl
      have x2 := cell_at (v := .bool false) HX10.out 2 rfl
      go_wp2_with fail
      go_end0
      exact ⟨⟨_, rfl⟩, H10.out, HB10.out, HF10.out⟩
    · have x1 := cell_at (v := .int .i64 ((2 : Nat) : Int)) HX9.out 1 rfl
      have x2 := cell_at (v := .bool false) HX9.out 2 rfl
      go_wp2_with fail
      refine (wr_str w0.heap.size b l [108, 105, 115, 116] w9 H9.out (by simp only [List.length_cons, List.length_nil]; omega) (by omega)).mono ?_
      rintro e w10 ⟨⟨v10, rfl⟩, hw, hb, hfr⟩
      have hs10 := hb.size
      have HX10 := Lib.hid (hfr k3 _ _ _ HX9.out (by decide) (by decide))
      have H10 := Lib.hid hw
      have HB10 := Lib.hid (HB9.out.trans hb)
      have HF10 := Lib.hid (HF9.out.trans hfr)
      clear hw hb hfr
      clear x1 x2
      have x1 := cell_at (v := .int .i64 ((2 : Nat) : Int)) HX10.out 1 rfl
      have x2 := cell_at (v := .bool false) HX10.out 2 rfl
      go_wp2_with fail
      go_end0
      exact ⟨⟨_, rfl⟩, H10.out, HB10.out, HF10.out⟩
  · have HT := Lib.hid hT
    have HO := Lib.hid hO
    have hlx := (len_all 4 t hO).1
    rw [hLL] at hlx
    clear hT hO
    rcases h3 with rfl | rfl | rfl
    · have x1 := cell_at (v := .int .i64 ((0 : Nat) : Int)) HX9.out 1 rfl
      have x2 := cell_at (v := .bool true) HX9.out 2 rfl
      go_wp2_with fail
      refine (wr_str w0.heap.size b l [105, 110, 116] w9 H9.out (by simp only [List.length_cons, List.length_nil]; omega) (by omega)).mono ?_
      rintro e w10 ⟨⟨v10, rfl⟩, hw, hb, hfr⟩
      have hs10 := hb.size
      have HX10 := Lib.hid (hfr k3 _ _ _ HX9.out (by decide) (by decide))
      have H10 := Lib.hid hw
      have HB10 := Lib.hid (HB9.out.trans hb)
      have HF10 := Lib.hid (HF9.out.trans hfr)
      clear hw hb hfr
      clear x1 x2
      have x1 := cell_at (v := .int .i64 ((0 : Nat) : Int)) HX10.out 1 rfl
      have x2 := cell_at (v := .bool true) HX10.out 2 rfl
      go_wp2_with fail
      refine (wr_byte w0.heap.size b _ 123 _ rfl w10 H10.out (by simp only [List.length_append, List.length_cons, List.length_nil]; omega) (by omega)).mono ?_
      rintro e w11 ⟨⟨v11, rfl⟩, hw, hb, hfr⟩
      have hs11 := hb.size
      have HX11 := Lib.hid (hfr k3 _ _ _ HX10.out (by decide) (by decide))
      have H11 := Lib.hid hw
      have HB11 := Lib.hid (HB10.out.trans hb)
      have HF11 := Lib.hid (HF10.out.trans hfr)
      clear hw hb hfr
      clear x1 x2
      have x3 := cell_at (v := .int .i64 rk) HX11.out 3 rfl
      have x4 := cell_at (v := .string rnm) HX11.out 4 rfl
      have x5 := cell_at (v := .string rot) HX11.out 5 rfl
      have x6 := cell_at (v := .bool rb) HX11.out 6 rfl
      have x7 := cell_at (v := .slice rao rn rc) HX11.out 7 rfl
      have x8 := cell_at (v := .slice rko rkn rkc) HX11.out 8 rfl
      have x9 := cell_at (v := .int .i64 rln) HX11.out 9 rfl
      have x10 := cell_at (v := .int .i64 rcl) HX11.out 10 rfl
      go_wp2_with fail
      refine (valid_any w0 HTB.out 4 (by decide) b _ ⟨rk, rnm, rot, rb, rao, rn, rc, rko, rkn, rkc, rln, rcl⟩ t (fun _ => True) w11 HT.out HO.out (HBW.out.trans HB11.out) H11.out (by rw [hLL]; simp only [List.length_append, List.length_cons, List.length_nil]; omega)).mono ?_
      rintro e w12 ⟨⟨v12, rfl⟩, hw, hb, hfr⟩
      have hs12 := hb.size
      have H12 := Lib.hid hw
      have HB12 := Lib.hid (HB11.out.trans hb)
      have HF12 := Lib.hid (HF11.out.trans hfr)
      clear hw hb hfr
      clear x3 x4 x5 x6 x7 x8 x9 x10
      go_wp2_with fail
      refine (wr_byte w0.heap.size b _ 125 _ rfl w12 H12.out (by simp only [List.length_append, List.length_cons, List.length_nil]; omega) (by omega)).mono ?_
      rintro e w13 ⟨⟨v13, rfl⟩, hw, hb, hfr⟩
      have hs13 := hb.size
      have H13 := Lib.hid hw
      have HB13 := Lib.hid (HB12.out.trans hb)
      have HF13 := Lib.hid (HF12.out.trans hfr)
      clear hw hb hfr
      go_wp2_with fail
      go_end0
      exact ⟨⟨_, rfl⟩, by have h := H13.out; simp only [List.append_assoc] at h ⊢; exact h, HB13.out, HF13.out⟩
    · have x1 := cell_at (v := .int .i64 ((1 : Nat) : Int)) HX9.out 1 rfl
      have x2 := cell_at (v := .bool true) HX9.out 2 rfl
      go_wp2_with fail
      refine (wr_str w0.heap.size b l [98, 111, 111, 108] w9 H9.out (by simp only [List.length_cons, List.length_nil]; omega) (by omega)).mono ?_
      rintro e w10 ⟨⟨v10, rfl⟩, hw, hb, hfr⟩
      have hs10 := hb.size
      have HX10 := Lib.hid (hfr k3 _ _ _ HX9.out (by decide) (by decide))
      have H10 := Lib.hid hw
      have HB10 := Lib.hid (HB9.out.trans hb)
      have HF10 := Lib.hid (HF9.out.trans hfr)
      clear hw hb hfr
      clear x1 x2
      have x1 := cell_at (v := .int .i64 ((1 : Nat) : Int)) HX10.out 1 rfl
      have x2 := cell_at (v := .bool true) HX10.out 2 rfl
      go_wp2_with fail
      refine (wr_byte w0.heap.size b _ 123 _ rfl w10 H10.out (by simp only [List.length_append, List.length_cons, List.length_nil]; omega) (by omega)).mono ?_
      rintro e w11 ⟨⟨v11, rfl⟩, hw, hb, hfr⟩
      have hs11 := hb.size
      have HX11 := Lib.hid (hfr k3 _ _ _ HX10.out (by decide) (by decide))
      have H11 := Lib.hid hw
      have HB11 := Lib.hid (HB10.out.trans hb)
      have HF11 := Lib.hid (HF10.out.trans hfr)
      clear hw hb hfr
      clear x1 x2
      have x3 := cell_at (v := .int .i64 rk) HX11.out 3 rfl
      have x4 := cell_at (v := .string rnm) HX11.out 4 rfl
      have x5 := cell_at (v := .string rot) HX11.out 5 rfl
      have x6 := cell_at (v := .bool rb) HX11.out 6 rfl
      have x7 := cell_at (v := .slice rao rn rc) HX11.out 7 rfl
      have x8 := cell_at (v := .slice rko rkn rkc) HX11.out 8 rfl
      have x9 := cell_at (v := .int .i64 rln) HX11.out 9 rfl
      have x10 := cell_at (v := .int .i64 rcl) HX11.out 10 rfl
      go_wp2_with fail
      refine (valid_any w0 HTB.out 4 (by decide) b _ ⟨rk, rnm, rot, rb, rao, rn, rc, rko, rkn, rkc, rln, rcl⟩ t (fun _ => True) w11 HT.out HO.out (HBW.out.trans HB11.out) H11.out (by rw [hLL]; simp only [List.length_append, List.length_cons, List.length_nil]; omega)).mono ?_
      rintro e w12 ⟨⟨v12, rfl⟩, hw, hb, hfr⟩
      have hs12 := hb.size
      have H12 := Lib.hid hw
      have HB12 := Lib.hid (HB11.out.trans hb)
      have HF12 := Lib.hid (HF11.out.trans hfr)
      clear hw hb hfr
      clear x3 x4 x5 x6 x7 x8 x9 x10
      go_wp2_with fail
      refine (wr_byte w0.heap.size b _ 125 _ rfl w12 H12.out (by simp only [List.length_append, List.length_cons, List.length_nil]; omega) (by omega)).mono ?_
      rintro e w13 ⟨⟨v13, rfl⟩, hw, hb, hfr⟩
      have hs13 := hb.size
      have H13 := Lib.hid hw
      have HB13 := Lib.hid (HB12.out.trans hb)
      have HF13 := Lib.hid (HF12.out.trans hfr)
      clear hw hb hfr
      go_wp2_with fail
      go_end0
      exact ⟨⟨_, rfl⟩, by have h := H13.out; simp only [List.append_assoc] at h ⊢; exact h, HB13.out, HF13.out⟩
    · have x1 := cell_at (v := .int .i64 ((2 : Nat) : Int)) HX9.out 1 rfl
      have x2 := cell_at (v := .bool true) HX9.out 2 rfl
      go_wp2_with fail
      refine (wr_str w0.heap.size b l [108, 105, 115, 116] w9 H9.out (by simp only [List.length_cons, List.length_nil]; omega) (by omega)).mono ?_
      rintro e w10 ⟨⟨v10, rfl⟩, hw, hb, hfr⟩
      have hs10 := hb.size
      have HX10 := Lib.hid (hfr k3 _ _ _ HX9.out (by decide) (by decide))
      have H10 := Lib.hid hw
      have HB10 := Lib.hid (HB9.out.trans hb)
      have HF10 := Lib.hid (HF9.out.trans hfr)
      clear hw hb hfr
      clear x1 x2
      have x1 := cell_at (v := .int .i64 ((2 : Nat) : Int)) HX10.out 1 rfl
      have x2 := cell_at (v := .bool true) HX10.out 2 rfl
      go_wp2_with fail
      refine (wr_byte w0.heap.size b _ 123 _ rfl w10 H10.out (by simp only [List.length_append, List.length_cons, List.length_nil]; omega) (by omega)).mono ?_
      rintro e w11 ⟨⟨v11, rfl⟩, hw, hb, hfr⟩
      have hs11 := hb.size
      have HX11 := Lib.hid (hfr k3 _ _ _ HX10.out (by decide) (by decide))
      have H11 := Lib.hid hw
      have HB11 := Lib.hid (HB10.out.trans hb)
      have HF11 := Lib.hid (HF10.out.trans hfr)
      clear hw hb hfr
      clear x1 x2
      have x3 := cell_at (v := .int .i64 rk) HX11.out 3 rfl
      have x4 := cell_at (v := .string rnm) HX11.out 4 rfl
      have x5 := cell_at (v := .string rot) HX11.out 5 rfl
      have x6 := cell_at (v := .bool rb) HX11.out 6 rfl
      have x7 := cell_at (v := .slice rao rn rc) HX11.out 7 rfl
      have x8 := cell_at (v := .slice rko rkn rkc) HX11.out 8 rfl
      have x9 := cell_at (v := .int .i64 rln) HX11.out 9 rfl
      have x10 := cell_at (v := .int .i64 rcl) HX11.out 10 rfl
      go_wp2_with fail
      refine (valid_any w0 HTB.out 4 (by decide) b _ ⟨rk, rnm, rot, rb, rao, rn, rc, rko, rkn, rkc, rln, rcl⟩ t (fun _ => True) w11 HT.out HO.out (HBW.out.trans HB11.out) H11.out (by rw [hLL]; simp only [List.length_append, List.length_cons, List.length_nil]; omega)).mono ?_
      rintro e w12 ⟨⟨v12, rfl⟩, hw, hb, hfr⟩
      have hs12 := hb.size
      have H12 := Lib.hid hw
      have HB12 := Lib.hid (HB11.out.trans hb)
      have HF12 := Lib.hid (HF11.out.trans hfr)
      clear hw hb hfr
      clear x3 x4 x5 x6 x7 x8 x9 x10
      go_wp2_with fail
      refine (wr_byte w0.heap.size b _ 125 _ rfl w12 H12.out (by simp only [List.length_append, List.length_cons, List.length_nil]; omega) (by omega)).mono ?_
      rintro e w13 ⟨⟨v13, rfl⟩, hw, hb, hfr⟩
      have hs13 := hb.size
      have H13 := Lib.hid hw
      have HB13 := Lib.hid (HB12.out.trans hb)
      have HF13 := Lib.hid (HF12.out.trans hfr)
      clear hw hb hfr
      go_wp2_with fail
      go_end0
      exact ⟨⟨_, rfl⟩, by have h := H13.out; simp only [List.append_assoc] at h ⊢; exact h, HB13.out, HF13.out⟩


/-- Element i of the parameters at ko is p. -/
def At13 (w : World) (ko : Option Addr) (i : Nat) (p : Pm) : Prop := ∃ a, ko = some a ∧ ∀ j v, (pc p)[j]? = some v → w.cell? ((a.add (i * 13)).add j) = some v
theorem At13.keep {w w' : World} {ko : Option Addr} {i : Nat} {y : Pm} (h : At13 w ko i y) (hk : ∀ a, ko = some a → w'.heap[a.block]? = w.heap[a.block]?) : At13 w' ko i y := by
  obtain ⟨a, rfl, h⟩ := h
  refine ⟨a, rfl, fun j v hv => ?_⟩
  rw [cell_keep (w := w) (by rw [add_block, add_block]; exact hk a rfl)]; exact h j v hv
theorem At13.lt {w : World} {ko : Option Addr} {i : Nat} {y : Pm} (h : At13 w ko i y) : ∀ a, ko = some a → a.block < w.heap.size := by
  obtain ⟨a, rfl, h⟩ := h
  rintro _ ⟨⟩
  have := cell_lt (h 0 _ rfl)
  rwa [add_block, add_block] at this
theorem At13.below {w w' : World} {ko : Option Addr} {i : Nat} {y : Pm} (h : At13 w ko i y) (hb : Below w.heap.size w w') : At13 w' ko i y := h.keep fun a ha => hb.block _ (h.lt a ha)
def ptx (q : Pm × Bs × Bs) : Bs := q.2.1 ++ [58, 32] ++ q.2.2
/-- Parameters in memory, each with its two texts. -/
def PsAt (w : World) (ko : Option Addr) (ps : List (Pm × Bs × Bs)) : Prop := ∀ i (h : i < ps.length), At13 w ko i ps[i].1 ∧ PmOk w ps[i].1 ps[i].2.1 ps[i].2.2
theorem PsAt.below {w w' : World} {ko : Option Addr} {ps : List (Pm × Bs × Bs)} (h : PsAt w ko ps) (hb : Below w.heap.size w w') : PsAt w' ko ps := fun i hi => ⟨(h i hi).1.below hb, (h i hi).2.below hb⟩
theorem PsAt.len {w : World} {ko : Option Addr} {ps : List (Pm × Bs × Bs)} (h : PsAt w ko ps) (hl : ps.length ≤ 3) (j : Nat) : (com ((ps.map ptx).take j)).length ≤ 100000 := by
  have h1 := com_len ((ps.map ptx).take j)
  have h2 : ∀ p ∈ (ps.map ptx).take j, p.length ≤ 30737 := fun p hp => by
    obtain ⟨q, hq, rfl⟩ := List.mem_map.1 (List.mem_of_mem_take hp)
    obtain ⟨i, hi, rfl⟩ := List.getElem_of_mem hq
    have h3 := (h i hi).2.len
    have h4 := (h i hi).2.2.1
    simp only [ptx, List.length_append, List.length_cons, List.length_nil]; omega
  have h3 := sum_len h2
  have h4 : ((ps.map ptx).take j).length ≤ 3 := by simp; omega
  have h5 : ((ps.map ptx).take j).length * 30737 ≤ 3 * 30737 := Nat.mul_le_mul_right _ h4
  omega
/-- What a qualifier and a function have in common. -/
def hdT (nm : Bs) (ps : List (Pm × Bs × Bs)) : Bs := nm ++ [40] ++ com (ps.map ptx) ++ [41, 58, 32]
theorem hdT_len {w : World} {ko : Option Addr} {ps : List (Pm × Bs × Bs)} (h : PsAt w ko ps) (hl : ps.length ≤ 3) {nm : Bs} (hn : nm.length ≤ 5) : (hdT nm ps).length ≤ 100010 := by
  have := h.len hl ps.length
  rw [List.take_of_length_le (by simp)] at this
  simp only [hdT, List.length_append, List.length_cons, List.length_nil]; omega

theorem cells13 {w : World} {p : Addr} {pnm : ByteArray} {pbs : Int} {pkn : Bool} {rk : Int} {rnm rot : ByteArray} {rb : Bool} {rao : Option Addr} {rn rc : Nat} {rko : Option Addr} {rkn rkc : Nat} {rln rcl pln pcl : Int}
    (h : ∀ j v, (pc ⟨pnm, pbs, pkn, ⟨rk, rnm, rot, rb, rao, rn, rc, rko, rkn, rkc, rln, rcl⟩, pln, pcl⟩)[j]? = some v → w.cell? (p.add j) = some v) : w.cell? p = some (.string pnm) ∧ w.cell? ⟨p.block, p.off + 1, none⟩ = some (.int .i64 pbs) ∧ w.cell? ⟨p.block, p.off + 2, none⟩ = some (.bool pkn) ∧ w.cell? ⟨p.block, p.off + 3, none⟩ = some (.int .i64 rk) ∧ w.cell? ⟨p.block, p.off + 4, none⟩ = some (.string rnm) ∧ w.cell? ⟨p.block, p.off + 5, none⟩ = some (.string rot) ∧ w.cell? ⟨p.block, p.off + 6, none⟩ = some (.bool rb) ∧ w.cell? ⟨p.block, p.off + 7, none⟩ = some (.slice rao rn rc) ∧ w.cell? ⟨p.block, p.off + 8, none⟩ = some (.slice rko rkn rkc) ∧ w.cell? ⟨p.block, p.off + 9, none⟩ = some (.int .i64 rln) ∧ w.cell? ⟨p.block, p.off + 10, none⟩ = some (.int .i64 rcl) ∧ w.cell? ⟨p.block, p.off + 11, none⟩ = some (.int .i64 pln) ∧ w.cell? ⟨p.block, p.off + 12, none⟩ = some (.int .i64 pcl) :=
  ⟨h 0 _ rfl, h 1 _ rfl, h 2 _ rfl, h 3 _ rfl, h 4 _ rfl, h 5 _ rfl, h 6 _ rfl, h 7 _ rfl, h 8 _ rfl, h 9 _ rfl, h 10 _ rfl, h 11 _ rfl, h 12 _ rfl⟩

set_option maxHeartbeats 8000000 in
theorem head_any (w0 : World) (ht : Tabs w0) (nm : Bs) (hn : nm.length ≤ 5) (ps : List (Pm × Bs × Bs)) (hl : ps.length ≤ 3) (ko : Option Addr) (kc : Nat) (hps : PsAt w0 ko ps) (b : Nat) (l : Bs) (w : World) (hbw : Below w0.heap.size w0 w) (hwr : Wr w0.heap.size b l w) (hlen : l.length ≤ 350000) :
    Calls Tryd.prog 32 #[.pointer (some ⟨b, 0, none⟩), .string ⟨nm.toArray⟩, .slice ko ps.length kc] w (WrPost w0.heap.size b (l ++ hdT nm ps) w) := by
  have HTB := Lib.hid ht
  have HPS := Lib.hid hps
  have HBW := Lib.hid hbw
  have HWR := Lib.hid hwr
  have hsB := hbw.size
  have HCL := Lib.hid (fun j => hps.len hl j)
  clear ht hps hbw hwr
  go_enter Tryd.func32, Tryd.ntmps32
  go_wp2_with fail
  refine (wr_str w0.heap.size b l nm w HWR.out (by omega) (by omega)).mono ?_
  rintro e w11 ⟨⟨v, rfl⟩, hw5, hb5, hfr5⟩
  have hs11 := hb5.size
  have H11 := Lib.hid hw5
  have HB11 := Lib.hid hb5
  have HF11 := Lib.hid hfr5
  clear hw5 hb5 hfr5
  go_wp2_with fail
  refine (wr_byte w0.heap.size b _ 40 _ rfl w11 H11.out (by rw [List.length_append]; omega) (by omega)).mono ?_
  rintro e w12 ⟨⟨v2, rfl⟩, hw6, hb6, hfr6⟩
  have hs12 := hb6.size
  have H12 : Hid (Wr w0.heap.size b (l ++ nm ++ [40] ++ com ((ps.map ptx).take 0)) w12) := Lib.hid (by simp only [List.take_zero, com, List.append_nil]; exact hw6)
  have HB12 : Hid (Below w0.heap.size w w12) := Lib.hid (HB11.out.trans hb6)
  have HF12 : Hid (Fr w w12) := Lib.hid (HF11.out.trans hfr6)
  clear hw6 hb6 hfr6
  go_wp2_with fail
  go_loopw [6, 7, 19] (fun _ _ i wr => ∃ j : Nat, i = .int .i64 (j : Nat) ∧ j ≤ ps.length ∧ Wr w0.heap.size b (l ++ nm ++ [40] ++ com ((ps.map ptx).take j)) wr ∧ Below w0.heap.size w wr ∧ Fr w wr) (fun _ _ i _ => ps.length - (intOf i).toNat)
  case atStart => exact ⟨0, rfl, Nat.zero_le _, H12.out, HB12.out, HF12.out⟩
  case round =>
    obtain ⟨j, rfl, hj, hw1, hw3, hw4⟩ := hrel
    have H1 := Lib.hid hw1
    have H3 := Lib.hid hw3
    have H4 := Lib.hid hw4
    have hs3 := hw3.size
    clear hw1 hw3 hw4
    have hcb := HCL.out j
    by_cases hlt : j < ps.length
    · obtain ⟨wL, hwL⟩ : ∃ wL, wL = wr := ⟨_, rfl⟩
      subst hwL
      have hb3 : Below w0.heap.size w0 wL := HBW.out.trans H3.out
      obtain ⟨hA, hO⟩ := HPS.out j hlt
      have hptl := hO.len
      have hpnl := hO.2.1
      obtain ⟨q, hq⟩ : ∃ q, q = ps[j] := ⟨_, rfl⟩
      rw [← hq] at hA hO hptl hpnl
      have HQ := Lib.hid hq
      clear hq
      obtain ⟨⟨pnm, pbs, pkn, ⟨rk, rnm, rot, rb, rao, rn, rc, rko, rkn, rkc, rln, rcl⟩, pln, pcl⟩, pn, pt⟩ := q
      simp only at hA hO hptl hpnl
      obtain ⟨a, rfl, hc⟩ := hA.keep fun a ha => hb3.block _ (hA.lt a ha)
      obtain ⟨c0, c1, c2, c3, c4, c5, c6, c7, c8, c9, c10, c11, c12⟩ := cells13 hc
      have hpn : pnm = ⟨pn.toArray⟩ := hO.1
      subst hpn
      have HOK := Lib.hid hO
      have HB3 := Lib.hid hb3
      have hsB3 := hb3.size
      clear hc hA hO hb3
      obtain ⟨kA, hkA⟩ : ∃ kA, kA = wL.heap.size := ⟨_, rfl⟩
      obtain ⟨wA, hwA⟩ : ∃ wA, wA = wL.alloc (.cells #[.string ⟨pn.toArray⟩, .int .i64 pbs, .bool pkn, .int .i64 rk, .string rnm, .string rot, .bool rb, .slice rao rn rc, .slice rko rkn rkc, .int .i64 rln, .int .i64 rcl, .int .i64 pln, .int .i64 pcl] 42) := ⟨_, rfl⟩
      have hba : Below wL.heap.size wL wA := by rw [hwA]; exact (Below.refl _ _).alloc (Nat.le_refl _) _
      have HWA := Lib.hid (H1.out.below hba)
      have HXA : Hid (wA.heap[kA]? = some (.cells #[.string ⟨pn.toArray⟩, .int .i64 pbs, .bool pkn, .int .i64 rk, .string rnm, .string rot, .bool rb, .slice rao rn rc, .slice rko rkn rkc, .int .i64 rln, .int .i64 rcl, .int .i64 pln, .int .i64 pcl] 42 (0, 0))) := Lib.hid (by rw [hwA, hkA]; exact made_at wL _ _ rfl)
      have hsA := hba.size
      have HBA : Hid (Below w0.heap.size w wA) := Lib.hid (H3.out.trans (hba.mono hsB3))
      have HFA : Hid (Fr w wA) := Lib.hid (H4.out.trans (fr_below hba))
      have HAW := Lib.hid hwA
      have HAK := Lib.hid hkA
      clear hba hwA hkA
      by_cases hj0 : j = 0
      · have hgt : decide ((0 : Int) < (j : Int)) = false := by rw [decide_eq_false_iff_not]; omega
        have HJ0 := Lib.hid hj0
        have hgt2 : decide (0 < j) = false := by rw [decide_eq_false_iff_not]; omega
        clear hj0
        go_wp2_with fail
        rw [← HAW.out, ← HAK.out]
        have HB_x := HXA
        have hlt_x := lt_of_block HB_x.out
        refine Rely.region (by kernel_rfl) [[], [0], [0, 1], [], [3], [0, 1, 2, 3, 4]] [] [] (fun _ => 0) 0 5 (by kernel_rfl) (by kernel_rfl) (fun q h => absurd h (Nat.not_lt_zero q)) (fun q _ h => absurd h (Nat.not_lt_zero q)) ?_
        refine Rely.Chain.det ?_ (by rfl) (fun T xs wr hA => ?_) ?_
        rotate_left 1
        · have e0 := hA.pre 0 (by kernel_rfl)
          simp only [List.getElem?_toArray, List.getElem?_cons_zero] at e0
          clear hA
          refine ⟨(by rfl), ?_⟩
          go_simp <;> (try with_reducible rfl)
        refine Rely.Chain.det ?_ (by rfl) (fun T xs wr hA => ?_) ?_
        rotate_left 1
        · have e30 := hA.tm 0 30 (by rfl) (by rfl)
          have f30 : xs 0 = _ := hA.fa 0 (by rfl)
          (try simp (disch := first | rfl | decide) only [Rely.mask_in] at f30)
          rw [f30] at e30
          clear f30
          clear hA
          refine ⟨(by rfl), ?_⟩
          go_simp <;> (try with_reducible rfl)
        refine Rely.Chain.det ?_ (by rfl) (fun T xs wr hA => ?_) ?_
        rotate_left 1
        · have e31 := hA.tm 1 31 (by rfl) (by rfl)
          have f31 : xs 1 = _ := hA.fa 1 (by rfl)
          (try simp (disch := first | rfl | decide) only [Rely.mask_in] at f31)
          rw [f31] at e31
          clear f31
          clear hA
          refine ⟨(by rfl), ?_⟩
          go_simp <;> (try with_reducible rfl)
        refine Rely.Chain.det ?_ (by rfl) (fun T xs wr hA => ?_) ?_
        rotate_left 1
        · have e7 := hA.pre 7 (by kernel_rfl)
          simp only [List.getElem?_toArray, List.getElem?_cons_succ, List.getElem?_cons_zero] at e7
          clear hA
          refine ⟨(by rfl), ?_⟩
          go_simp <;> (try with_reducible rfl)
        refine Rely.Chain.det ?_ (by rfl) (fun T xs wr hA => ?_) ?_
        rotate_left 1
        · have e33 := hA.tm 3 33 (by rfl) (by rfl)
          have f33 : xs 3 = _ := hA.fa 3 (by rfl)
          (try simp (disch := first | rfl | decide) only [Rely.mask_in] at f33)
          rw [f33] at e33
          clear f33
          have hBq : wr.heap[kA]? = _ := (hA.bl _ hlt_x (fun q h => absurd h (Nat.not_lt_zero q))).trans HB_x.out
          have q0 := cell_at (v := .string ⟨pn.toArray⟩) hBq 0 rfl
          have q1 := cell_at (v := .int .i64 pbs) hBq 1 rfl
          have q2 := cell_at (v := .bool pkn) hBq 2 rfl
          have q3 := cell_at (v := .int .i64 rk) hBq 3 rfl
          have q4 := cell_at (v := .string rnm) hBq 4 rfl
          have q5 := cell_at (v := .string rot) hBq 5 rfl
          have q6 := cell_at (v := .bool rb) hBq 6 rfl
          have q7 := cell_at (v := .slice rao rn rc) hBq 7 rfl
          have q8 := cell_at (v := .slice rko rkn rkc) hBq 8 rfl
          have q9 := cell_at (v := .int .i64 rln) hBq 9 rfl
          have q10 := cell_at (v := .int .i64 rcl) hBq 10 rfl
          have q11 := cell_at (v := .int .i64 pln) hBq 11 rfl
          have q12 := cell_at (v := .int .i64 pcl) hBq 12 rfl
          clear hBq
          clear hA
          refine ⟨(by rfl), ?_⟩
          go_simp <;> (try with_reducible rfl)
        refine Rely.Chain.done (fun xs wB hL => ?_)
        obtain ⟨⟨hbe, hbl, hkp0⟩, hf, hp, hn⟩ := hL
        have f0 : xs 0 = _ := hf 0 (by decide)
        (try simp (disch := first | rfl | decide) only [Rely.mask_in] at f0)
        have f1 : xs 1 = _ := hf 1 (by decide)
        (try simp (disch := first | rfl | decide) only [Rely.mask_in] at f1)
        have f2 : xs 2 = _ := hf 2 (by decide)
        (try simp (disch := first | rfl | decide) only [Rely.mask_in] at f2)
        have f3 : xs 3 = _ := hf 3 (by decide)
        (try simp (disch := first | rfl | decide) only [Rely.mask_in] at f3)
        have f4 : xs 4 = _ := hf 4 (by decide)
        (try simp (disch := first | rfl | decide) only [Rely.mask_in] at f4)
        have hbx : Below wA.heap.size wA wB := undrew (hbe _ (Nat.le_refl _) (fun q h => absurd h (Nat.not_lt_zero q)))
        clear hbe hbl hkp0 hf hp hn
        replace HB_x := Lib.hid ((hbx.block _ hlt_x).trans HB_x.out)
        clear hlt_x
        refine Rely.rest_list (by decide) (by kernel_rfl) ?_
        simp only [Rely.fill, List.take_succ_cons, List.take_zero, List.drop_succ_cons, List.drop_zero, List.setIfInBounds_toArray, List.set_cons_zero, List.set_cons_succ, f0, f1, f2, f3, f4]
        clear f0 f1 f2 f3 f4
        have hsb := hbx.size
        have hsc := HBA.out.size
        have HWB := Lib.hid (HWA.out.below hbx)
        have HBB := Lib.hid (HBA.out.trans (hbx.mono (by omega)))
        have HFB := Lib.hid (HFA.out.trans (fr_below hbx))
        clear hbx
        go_wp2_with fail
        have HX20 := HB_x
        have H20 := HWB
        have HB20 := HBB
        have HF20 := HFB
        refine (wr_str w0.heap.size b _ pn wB H20.out (by simp only [List.length_append, List.length_cons, List.length_nil]; omega) (by omega)).mono ?_
        rintro e w21 ⟨⟨v21, rfl⟩, hw, hb, hfr⟩
        have hs21 := hb.size
        have HX21 := Lib.hid (hfr kA _ _ _ HX20.out (by decide) (by decide))
        have H21 := Lib.hid hw
        have HB21 := Lib.hid (HB20.out.trans hb)
        have HF21 := Lib.hid (HF20.out.trans hfr)
        clear hw hb hfr
        go_wp2_with fail
        refine (wr_str w0.heap.size b _ [58, 32] w21 H21.out (by simp only [List.length_append, List.length_cons, List.length_nil]; omega) (by omega)).mono ?_
        rintro e w22 ⟨⟨v22, rfl⟩, hw, hb, hfr⟩
        have hs22 := hb.size
        have HX22 := Lib.hid (hfr kA _ _ _ HX21.out (by decide) (by decide))
        have H22 := Lib.hid hw
        have HB22 := Lib.hid (HB21.out.trans hb)
        have HF22 := Lib.hid (HF21.out.trans hfr)
        clear hw hb hfr
        have x0 := cell_at (v := .string ⟨pn.toArray⟩) HX22.out 0 rfl
        have x1 := cell_at (v := .int .i64 pbs) HX22.out 1 rfl
        have x2 := cell_at (v := .bool pkn) HX22.out 2 rfl
        have x3 := cell_at (v := .int .i64 rk) HX22.out 3 rfl
        have x4 := cell_at (v := .string rnm) HX22.out 4 rfl
        have x5 := cell_at (v := .string rot) HX22.out 5 rfl
        have x6 := cell_at (v := .bool rb) HX22.out 6 rfl
        have x7 := cell_at (v := .slice rao rn rc) HX22.out 7 rfl
        have x8 := cell_at (v := .slice rko rkn rkc) HX22.out 8 rfl
        have x9 := cell_at (v := .int .i64 rln) HX22.out 9 rfl
        have x10 := cell_at (v := .int .i64 rcl) HX22.out 10 rfl
        have x11 := cell_at (v := .int .i64 pln) HX22.out 11 rfl
        have x12 := cell_at (v := .int .i64 pcl) HX22.out 12 rfl
        go_wp2_with fail
        refine (base_any w0 HTB.out ⟨⟨pn.toArray⟩, pbs, pkn, ⟨rk, rnm, rot, rb, rao, rn, rc, rko, rkn, rkc, rln, rcl⟩, pln, pcl⟩ pn pt HOK.out b _ w22 (HBW.out.trans HB22.out) H22.out (by simp only [List.length_append, List.length_cons, List.length_nil]; omega)).mono ?_
        rintro e w23 ⟨⟨v23, rfl⟩, hw, hb, hfr⟩
        have hs23 := hb.size
        have H23 := Lib.hid hw
        have HB23 := Lib.hid (HB22.out.trans hb)
        have HF23 := Lib.hid (HF22.out.trans hfr)
        clear hw hb hfr
        clear x0 x1 x2 x3 x4 x5 x6 x7 x8 x9 x10 x11 x12 c0 c1 c2 c3 c4 c5 c6 c7 c8 c9 c10 c11 c12
        go_wp2_with fail
        go_roundw
        case rel =>
          refine ⟨j + 1, by go_num, by omega, ?_, HB23.out, HF23.out⟩
          have hkj : j < (ps.map ptx).length := by simp; exact hlt
          rw [com_take (ps.map ptx) j hkj, if_pos HJ0.out, List.getElem_map, ← HQ.out]
          have := H23.out
          simp only [ptx, List.append_assoc, List.nil_append] at this ⊢
          exact this
        case measure => simp [intOf]; omega
      · have hgt : decide ((0 : Int) < (j : Int)) = true := by rw [decide_eq_true_iff]; omega
        go_wp2_with fail
        rw [← HAW.out, ← HAK.out]
        refine (wr_str w0.heap.size b _ [44, 32] wA HWA.out (by simp only [List.length_append, List.length_cons, List.length_nil]; omega) (by omega)).mono ?_
        rintro e w14 ⟨⟨v4, rfl⟩, hw8, hb8, hfr8⟩
        have HB_x := Lib.hid (hfr8 _ _ _ _ HXA.out (by decide) (by decide))
        have H14 := Lib.hid hw8
        have HB14 := Lib.hid (HBA.out.trans hb8)
        have HF14 := Lib.hid (HFA.out.trans hfr8)
        clear hw8 hb8 hfr8
        go_wp2_with fail
        have hlt_x := lt_of_block HB_x.out
        refine Rely.region (by kernel_rfl) [[], [0], [0, 1], [], [3], [0, 1, 2, 3, 4]] [] [] (fun _ => 0) 0 5 (by kernel_rfl) (by kernel_rfl) (fun q h => absurd h (Nat.not_lt_zero q)) (fun q _ h => absurd h (Nat.not_lt_zero q)) ?_
        refine Rely.Chain.det ?_ (by rfl) (fun T xs wr hA => ?_) ?_
        rotate_left 1
        · have e0 := hA.pre 0 (by kernel_rfl)
          simp only [List.getElem?_toArray, List.getElem?_cons_zero] at e0
          clear hA
          refine ⟨(by rfl), ?_⟩
          go_simp <;> (try with_reducible rfl)
        refine Rely.Chain.det ?_ (by rfl) (fun T xs wr hA => ?_) ?_
        rotate_left 1
        · have e30 := hA.tm 0 30 (by rfl) (by rfl)
          have f30 : xs 0 = _ := hA.fa 0 (by rfl)
          (try simp (disch := first | rfl | decide) only [Rely.mask_in] at f30)
          rw [f30] at e30
          clear f30
          clear hA
          refine ⟨(by rfl), ?_⟩
          go_simp <;> (try with_reducible rfl)
        refine Rely.Chain.det ?_ (by rfl) (fun T xs wr hA => ?_) ?_
        rotate_left 1
        · have e31 := hA.tm 1 31 (by rfl) (by rfl)
          have f31 : xs 1 = _ := hA.fa 1 (by rfl)
          (try simp (disch := first | rfl | decide) only [Rely.mask_in] at f31)
          rw [f31] at e31
          clear f31
          clear hA
          refine ⟨(by rfl), ?_⟩
          go_simp <;> (try with_reducible rfl)
        refine Rely.Chain.det ?_ (by rfl) (fun T xs wr hA => ?_) ?_
        rotate_left 1
        · have e7 := hA.pre 7 (by kernel_rfl)
          simp only [List.getElem?_toArray, List.getElem?_cons_succ, List.getElem?_cons_zero] at e7
          clear hA
          refine ⟨(by rfl), ?_⟩
          go_simp <;> (try with_reducible rfl)
        refine Rely.Chain.det ?_ (by rfl) (fun T xs wr hA => ?_) ?_
        rotate_left 1
        · have e33 := hA.tm 3 33 (by rfl) (by rfl)
          have f33 : xs 3 = _ := hA.fa 3 (by rfl)
          (try simp (disch := first | rfl | decide) only [Rely.mask_in] at f33)
          rw [f33] at e33
          clear f33
          have hBq : wr.heap[kA]? = _ := (hA.bl _ hlt_x (fun q h => absurd h (Nat.not_lt_zero q))).trans HB_x.out
          have q0 := cell_at (v := .string ⟨pn.toArray⟩) hBq 0 rfl
          have q1 := cell_at (v := .int .i64 pbs) hBq 1 rfl
          have q2 := cell_at (v := .bool pkn) hBq 2 rfl
          have q3 := cell_at (v := .int .i64 rk) hBq 3 rfl
          have q4 := cell_at (v := .string rnm) hBq 4 rfl
          have q5 := cell_at (v := .string rot) hBq 5 rfl
          have q6 := cell_at (v := .bool rb) hBq 6 rfl
          have q7 := cell_at (v := .slice rao rn rc) hBq 7 rfl
          have q8 := cell_at (v := .slice rko rkn rkc) hBq 8 rfl
          have q9 := cell_at (v := .int .i64 rln) hBq 9 rfl
          have q10 := cell_at (v := .int .i64 rcl) hBq 10 rfl
          have q11 := cell_at (v := .int .i64 pln) hBq 11 rfl
          have q12 := cell_at (v := .int .i64 pcl) hBq 12 rfl
          clear hBq
          clear hA
          refine ⟨(by rfl), ?_⟩
          go_simp <;> (try with_reducible rfl)
        refine Rely.Chain.done (fun xs wB hL => ?_)
        obtain ⟨⟨hbe, hbl, hkp0⟩, hf, hp, hn⟩ := hL
        have f0 : xs 0 = _ := hf 0 (by decide)
        (try simp (disch := first | rfl | decide) only [Rely.mask_in] at f0)
        have f1 : xs 1 = _ := hf 1 (by decide)
        (try simp (disch := first | rfl | decide) only [Rely.mask_in] at f1)
        have f2 : xs 2 = _ := hf 2 (by decide)
        (try simp (disch := first | rfl | decide) only [Rely.mask_in] at f2)
        have f3 : xs 3 = _ := hf 3 (by decide)
        (try simp (disch := first | rfl | decide) only [Rely.mask_in] at f3)
        have f4 : xs 4 = _ := hf 4 (by decide)
        (try simp (disch := first | rfl | decide) only [Rely.mask_in] at f4)
        have hbx : Below w14.heap.size w14 wB := undrew (hbe _ (Nat.le_refl _) (fun q h => absurd h (Nat.not_lt_zero q)))
        clear hbe hbl hkp0 hf hp hn
        replace HB_x := Lib.hid ((hbx.block _ hlt_x).trans HB_x.out)
        clear hlt_x
        refine Rely.rest_list (by decide) (by kernel_rfl) ?_
        simp only [Rely.fill, List.take_succ_cons, List.take_zero, List.drop_succ_cons, List.drop_zero, List.setIfInBounds_toArray, List.set_cons_zero, List.set_cons_succ, f0, f1, f2, f3, f4]
        clear f0 f1 f2 f3 f4
        have hsb := hbx.size
        have hsc := HB14.out.size
        have HWB := Lib.hid (H14.out.below hbx)
        have HBB := Lib.hid (HB14.out.trans (hbx.mono (by omega)))
        have HFB := Lib.hid (HF14.out.trans (fr_below hbx))
        clear hbx
        go_wp2_with fail
        have HX20 := HB_x
        have H20 := HWB
        have HB20 := HBB
        have HF20 := HFB
        refine (wr_str w0.heap.size b _ pn wB H20.out (by simp only [List.length_append, List.length_cons, List.length_nil]; omega) (by omega)).mono ?_
        rintro e w21 ⟨⟨v21, rfl⟩, hw, hb, hfr⟩
        have hs21 := hb.size
        have HX21 := Lib.hid (hfr kA _ _ _ HX20.out (by decide) (by decide))
        have H21 := Lib.hid hw
        have HB21 := Lib.hid (HB20.out.trans hb)
        have HF21 := Lib.hid (HF20.out.trans hfr)
        clear hw hb hfr
        go_wp2_with fail
        refine (wr_str w0.heap.size b _ [58, 32] w21 H21.out (by simp only [List.length_append, List.length_cons, List.length_nil]; omega) (by omega)).mono ?_
        rintro e w22 ⟨⟨v22, rfl⟩, hw, hb, hfr⟩
        have hs22 := hb.size
        have HX22 := Lib.hid (hfr kA _ _ _ HX21.out (by decide) (by decide))
        have H22 := Lib.hid hw
        have HB22 := Lib.hid (HB21.out.trans hb)
        have HF22 := Lib.hid (HF21.out.trans hfr)
        clear hw hb hfr
        have x0 := cell_at (v := .string ⟨pn.toArray⟩) HX22.out 0 rfl
        have x1 := cell_at (v := .int .i64 pbs) HX22.out 1 rfl
        have x2 := cell_at (v := .bool pkn) HX22.out 2 rfl
        have x3 := cell_at (v := .int .i64 rk) HX22.out 3 rfl
        have x4 := cell_at (v := .string rnm) HX22.out 4 rfl
        have x5 := cell_at (v := .string rot) HX22.out 5 rfl
        have x6 := cell_at (v := .bool rb) HX22.out 6 rfl
        have x7 := cell_at (v := .slice rao rn rc) HX22.out 7 rfl
        have x8 := cell_at (v := .slice rko rkn rkc) HX22.out 8 rfl
        have x9 := cell_at (v := .int .i64 rln) HX22.out 9 rfl
        have x10 := cell_at (v := .int .i64 rcl) HX22.out 10 rfl
        have x11 := cell_at (v := .int .i64 pln) HX22.out 11 rfl
        have x12 := cell_at (v := .int .i64 pcl) HX22.out 12 rfl
        go_wp2_with fail
        refine (base_any w0 HTB.out ⟨⟨pn.toArray⟩, pbs, pkn, ⟨rk, rnm, rot, rb, rao, rn, rc, rko, rkn, rkc, rln, rcl⟩, pln, pcl⟩ pn pt HOK.out b _ w22 (HBW.out.trans HB22.out) H22.out (by simp only [List.length_append, List.length_cons, List.length_nil]; omega)).mono ?_
        rintro e w23 ⟨⟨v23, rfl⟩, hw, hb, hfr⟩
        have hs23 := hb.size
        have H23 := Lib.hid hw
        have HB23 := Lib.hid (HB22.out.trans hb)
        have HF23 := Lib.hid (HF22.out.trans hfr)
        clear hw hb hfr
        clear x0 x1 x2 x3 x4 x5 x6 x7 x8 x9 x10 x11 x12 c0 c1 c2 c3 c4 c5 c6 c7 c8 c9 c10 c11 c12
        go_wp2_with fail
        go_roundw
        case rel =>
          refine ⟨j + 1, by go_num, by omega, ?_, HB23.out, HF23.out⟩
          have hkj : j < (ps.map ptx).length := by simp; exact hlt
          rw [com_take (ps.map ptx) j hkj, if_neg hj0, List.getElem_map, ← HQ.out]
          have := H23.out
          simp only [ptx, List.append_assoc] at this ⊢
          exact this
        case measure => simp [intOf]; omega
    · have e : j = ps.length := by omega
      subst e
      have hs5 := H3.out.size
      go_wp2_with fail
      refine (wr_str w0.heap.size b _ [41, 58, 32] wr H1.out (by simp only [List.length_append, List.length_cons, List.length_nil]; omega) (by omega)).mono ?_
      rintro e w16 ⟨⟨v2, rfl⟩, hw6, hb6, hfr6⟩
      have H16 := Lib.hid hw6
      have HB16 := Lib.hid hb6
      have HF16 := Lib.hid hfr6
      clear hw6 hb6 hfr6
      go_wp2_with fail
      go_end0
      refine ⟨⟨_, rfl⟩, ?_, H3.out.trans HB16.out, H4.out.trans HF16.out⟩
      have := H16.out
      rw [List.take_of_length_le (by simp)] at this
      simp only [hdT, List.append_assoc] at this ⊢
      exact this

end Go.Proofs.YtcdacmbcecjliaaDoor
