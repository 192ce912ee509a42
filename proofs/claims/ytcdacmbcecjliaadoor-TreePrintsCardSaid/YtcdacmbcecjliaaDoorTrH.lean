/-
  What holds on Tame's way: where its variables lie, its loop.
-/
import Derived.Test.YtcdacmbcecjliaaDoorTrD
import Derived.Test.YtcdacmbcecjliaaDoorTrG
namespace Go.Proofs.YtcdacmbcecjliaaDoor
open Go.RowKit
set_option maxRecDepth 100000

/-- Every part has a name. -/
def Nm : Nat → T → Prop
  | 0, _ => False
  | d + 1, .node _ nm _ _ ks => 1 ≤ nm.length ∧ ∀ t ∈ ks, Nm d t
def OkN (d : Nat) (t : T) : Prop := Ok d t ∧ Nm d t
def TamePost (d : Nat) (w : World) (e : Ending) (w' : World) : Prop := ∃ y t, e = .returned (xv y) ∧ Tr w' (fun g => w.heap.size ≤ g) d y t ∧ OkN d t ∧ Below w.heap.size w w'

/-- Where Tame stands: its variable out lies in block g, the argument and the result's variable in their own. -/
def Out (w wx : World) (g : Nat) (x r : Array Value) (K : Nat) (l1 l2 : Bs) (ao : Option Addr) (n c : Nat) (ko : Option Addr) (kn kc : Nat) (ln cl : Int) : Prop :=
  wx.heap[g]? = some (.cells #[.int .i64 (K : Nat), .string ⟨l1.toArray⟩, .string ⟨l2.toArray⟩, .bool false, .slice ao n c, .slice ko kn kc, .int .i64 ln, .int .i64 cl] 29 (0, 0)) ∧
  wx.heap[w.heap.size]? = some (.cells x 29 (0, 0)) ∧ wx.heap[w.heap.size + 1]? = some (.cells r 29 (0, 0)) ∧ Below w.heap.size w wx ∧ w.heap.size + 2 ≤ g
theorem Out.kind {w wx : World} {g : Nat} {x r : Array Value} {K : Nat} {l1 l2 : Bs} {ao : Option Addr} {n c : Nat} {ko : Option Addr} {kn kc : Nat} {ln cl : Int} (h : Out w wx g x r K l1 l2 ao n c ko kn kc ln cl) (K' : Nat) : Out w (wx.setCell ⟨g, 0, none⟩ (.int .i64 (K' : Nat))) g x r K' l1 l2 ao n c ko kn kc ln cl := by
  obtain ⟨h1, h2, h3, h4, h5⟩ := h
  refine ⟨heap_setCell_same _ g 0 _ _ _ h1, by rw [set1_other _ _ _ _ (by omega)]; exact h2, by rw [set1_other _ _ _ _ (by omega)]; exact h3, below_set1 h4 (by omega) _ _, h5⟩
theorem Out.kids {w wx : World} {g : Nat} {x r : Array Value} {K : Nat} {l1 l2 : Bs} {ao : Option Addr} {n c : Nat} {ko : Option Addr} {kn kc : Nat} {ln cl : Int} (h : Out w wx g x r K l1 l2 ao n c ko kn kc ln cl) (ko' : Option Addr) (kn' kc' : Nat) : Out w (wx.setCell ⟨g, 5, none⟩ (.slice ko' kn' kc')) g x r K l1 l2 ao n c ko' kn' kc' ln cl := by
  obtain ⟨h1, h2, h3, h4, h5⟩ := h
  refine ⟨heap_setCell_same _ g 5 _ _ _ h1, by rw [set1_other _ _ _ _ (by omega)]; exact h2, by rw [set1_other _ _ _ _ (by omega)]; exact h3, below_set1 h4 (by omega) _ _, h5⟩
theorem Out.abs {w wx : World} {g : Nat} {x r : Array Value} {K : Nat} {l1 l2 : Bs} {ao : Option Addr} {n c : Nat} {ko : Option Addr} {kn kc : Nat} {ln cl : Int} (h : Out w wx g x r K l1 l2 ao n c ko kn kc ln cl) (ao' : Option Addr) (n' c' : Nat) : Out w ((wx.setCell ⟨g, 3, none⟩ (.bool false)).setCell ⟨g, 4, none⟩ (.slice ao' n' c')) g x r K l1 l2 ao' n' c' ko kn kc ln cl := by
  obtain ⟨h1, h2, h3, h4, h5⟩ := h
  refine ⟨heap_setCell_same _ g 4 _ _ _ (heap_setCell_same _ g 3 _ _ _ h1), by rw [set1_other _ _ _ _ (by omega), set1_other _ _ _ _ (by omega)]; exact h2, by rw [set1_other _ _ _ _ (by omega), set1_other _ _ _ _ (by omega)]; exact h3, below_set1 (below_set1 h4 (by omega) _ _) (by omega) _ _, h5⟩
theorem Out.below {w wx wy : World} {g : Nat} {x r : Array Value} {K : Nat} {l1 l2 : Bs} {ao : Option Addr} {n c : Nat} {ko : Option Addr} {kn kc : Nat} {ln cl : Int} (h : Out w wx g x r K l1 l2 ao n c ko kn kc ln cl) (hb : Below wx.heap.size wx wy) : Out w wy g x r K l1 l2 ao n c ko kn kc ln cl := by
  obtain ⟨h1, h2, h3, h4, h5⟩ := h
  exact ⟨by rw [hb.block _ (lt_of_block h1)]; exact h1, by rw [hb.block _ (lt_of_block h2)]; exact h2, by rw [hb.block _ (lt_of_block h3)]; exact h3, h4.trans (hb.mono h4.size), h5⟩
def CUT2 (w wx : World) (g : Nat) (x r : Array Value) (K : Nat) (l1 l2 : Bs) (ln cl : Int) : Prop := ∃ ao n c z, z < L32 ^ 4 ∧ Sl wx .u32 (.slice ao n c) (dig L32 z) ∧ (n ≠ 0 → ∀ a, ao = some a → w.heap.size + 2 ≤ a.block ∧ a.block ≠ g) ∧ Out w wx g x r K l1 l2 ao n c none 0 0 ln cl
def CUT3 (K : Nat) (w0 : World) (s6 : Value) (wx : World) : Prop := wx = w0 ∧ ∃ n : Nat, s6 = .int .i64 (n : Nat) ∧ (K = 24 ∨ n = ar K) ∧ n ≤ 3
theorem ar_one_tab : ∀ k, k < 10 → 5 ≤ k → ar k = 1 := by decide
theorem ar_two_tab : ∀ k, k < 24 → 10 ≤ k → ar k = 2 := by decide
/-- What holds at the head of Tame's loop: wL: the world ahead of it. -/
def TLoop (w wL : World) (g : Nat) (x r : Array Value) (K : Nat) (l1 l2 : Bs) (ao : Option Addr) (n c : Nat) (ln cl : Int) (d j : Nat) (wr : World) : Prop :=
  ∃ (ko : Option Addr) (kc : Nat) (ts : List T) (ys : List X), ts.length = j ∧ ys.length = j ∧ Out w wr g x r K l1 l2 ao n c ko j kc ln cl ∧ wr.ownsRow wL.heap.size 29 8 (.slice ko j kc) j (ys.flatMap xc) ∧
    (∀ b, b < wL.heap.size → b ≠ g → wr.heap[b]? = wL.heap[b]?) ∧ wL.heap.size ≤ wr.heap.size ∧
    ∀ q (h1 : q < ts.length) (h2 : q < ys.length), Tr wr (fun b => wL.heap.size ≤ b ∧ (Value.slice ko j kc).ownBlock ≠ some b) d ys[q] ts[q] ∧ OkN d ts[q]
def CUT1 (w wx : World) (g d : Nat) (x r : Array Value) (l1 l2 : Bs) (ln cl : Int) : Prop := ∃ K : Nat, K < 29 ∧ (d = 0 → K < 5) ∧ Out w wx g x r K l1 l2 none 0 0 none 0 0 ln cl


/-- What Tame's call of itself brings. -/
def KidOk (w9 : World) (d : Nat) (w : World) (y : X) (t : T) : Prop := Tr w (fun g => w9.heap.size ≤ g) d y t ∧ OkN d t
theorem KidOk.below {w9 : World} {d : Nat} {w w' : World} {y : X} {t : T} (h : KidOk w9 d w y t) (hb : Below w.heap.size w w') : KidOk w9 d w' y t := ⟨h.1.below hb, h.2⟩

theorem tloop_next {w wL wr w10 w11 : World} {g : Nat} {x r : Array Value} {K : Nat} {l1 l2 : Bs} {ao : Option Addr} {n c : Nat} {ln cl : Int} {d j : Nat} {ko : Option Addr} {kc : Nat} {ts : List T} {yy : List X} (hts : ts.length = j) (hyy : yy.length = j)
    (hO : Out w wr g x r K l1 l2 ao n c ko j kc ln cl) (hown : wr.ownsRow wL.heap.size 29 8 (.slice ko j kc) j (yy.flatMap xc)) (hfr : ∀ b, b < wL.heap.size → b ≠ g → wr.heap[b]? = wL.heap[b]?) (hsz : wL.heap.size ≤ wr.heap.size)
    (htr : ∀ q (h1 : q < ts.length) (h2 : q < yy.length), Tr wr (fun b => wL.heap.size ≤ b ∧ (Value.slice ko j kc).ownBlock ≠ some b) d yy[q] ts[q] ∧ OkN d ts[q]) (hg : g < wL.heap.size) (hb : Below wr.heap.size wr w10)
    {ko' : Option Addr} {kc' : Nat} {y : X} {t : T} (hown' : w11.ownsRow wL.heap.size 29 8 (.slice ko' (j + 1) kc') (j + 1) (yy.flatMap xc ++ xc y)) (hgrow : w10.grownBy w11 (Value.slice ko j kc).ownBlock) (hfresh : Fresh w10 (.slice ko j kc) (.slice ko' (j + 1) kc'))
    (hk : Tr w10 (fun b => wr.heap.size ≤ b) d y t) (hok : OkN d t) : TLoop w wL g x r K l1 l2 ao n c ln cl d (j + 1) (w11.setCell ⟨g, 5, none⟩ (.slice ko' (j + 1) kc')) := by
  have hlt := hown.lt
  have hlt' := hown'.lt
  have hs := hb.size
  have hs1 := hgrow.size
  have hgo := hO.2.2.2.2
  have hO10 := hO.below hb
  have keep : ∀ b, b < w10.heap.size → b ≠ g → (Value.slice ko j kc).ownBlock ≠ some b → (w11.setCell ⟨g, 5, none⟩ (.slice ko' (j + 1) kc')).heap[b]? = w10.heap[b]? := fun b h1 h2 h3 => by
    rw [set1_other _ _ _ _ h2]
    exact hgrow.block b h1 (fun e => h3 e.symm)
  have low : ∀ b, b < wL.heap.size → (Value.slice ko j kc).ownBlock ≠ some b := fun b h e => by have := (hlt b e).1; omega
  have hO11 : Out w w11 g x r K l1 l2 ao n c ko j kc ln cl := by
    obtain ⟨h1, h2, h3, h4, h5⟩ := hO10
    refine ⟨by rw [hgrow.block _ (lt_of_block h1) (fun e => low _ hg e.symm)]; exact h1, by rw [hgrow.block _ (lt_of_block h2) (fun e => low _ (by omega) e.symm)]; exact h2, by rw [hgrow.block _ (lt_of_block h3) (fun e => low _ (by omega) e.symm)]; exact h3, ?_, h5⟩
    exact ⟨hgrow.os.trans h4.os, hgrow.tape.trans h4.tape, hgrow.output.trans h4.output, Nat.le_trans h4.size hgrow.size, fun q hq => by rw [hgrow.block q (by have := h4.size; omega) (fun e => low q (by omega) e.symm)]; exact h4.block q hq⟩
  refine ⟨ko', kc', ts ++ [t], yy ++ [y], by simp [hts], by simp [hyy], hO11.kids ko' (j + 1) kc', ?_, fun b h1 h2 => ?_, ?_, fun q h1 h2 => ?_⟩
  · rw [List.flatMap_append, show [y].flatMap xc = xc y by simp]
    refine World.ownsRow.kept hown' (row := some g) (grown_setCell (World.grownBy.refl _ _) _) ?_
    refine .inr (fun e => ?_)
    have := (hlt' g e).1
    omega
  · rw [keep b (by omega) h2 (low b h1), hb.block b (by omega)]; exact hfr b h1 h2
  · rw [setCell_size]; omega
  · have new : ∀ b, b < w10.heap.size → (Value.slice ko j kc).ownBlock ≠ some b → (Value.slice ko' (j + 1) kc').ownBlock ≠ some b := fun b h3 h4 e => by
      rcases hfresh b e with h | h
      · exact h4 h
      · omega
    by_cases hq : q < j
    · have e1 : (ts ++ [t])[q] = ts[q]'(by omega) := List.getElem_append_left (by omega)
      have e2 : (yy ++ [y])[q] = yy[q]'(by omega) := List.getElem_append_left (by omega)
      rw [e1, e2]
      obtain ⟨a1, a2⟩ := htr q (by omega) (by omega)
      refine ⟨(a1.lt.keep (w' := w11.setCell ⟨g, 5, none⟩ (.slice ko' (j + 1) kc')) fun b hb' => ?_).mono fun b hb' => ⟨hb'.1.1, new b (by omega) hb'.1.2⟩, a2⟩
      rw [keep b (by omega) (by omega) hb'.1.2]
      exact hb.block b hb'.2
    · have hqj : q = j := by simp [hts] at h1; omega
      subst hqj
      have e1 : (ts ++ [t])[q] = t := by rw [List.getElem_append_right (by omega)]; simp
      have e2 : (yy ++ [y])[q] = y := by rw [List.getElem_append_right (by omega)]; simp
      rw [e1, e2]
      have own : ∀ b, wr.heap.size ≤ b → (Value.slice ko q kc).ownBlock ≠ some b := fun b h e => by have := (hlt b e).2; omega
      exact ⟨(hk.lt.keep (w' := w11.setCell ⟨g, 5, none⟩ (.slice ko' (q + 1) kc')) fun b hb' => keep b hb'.2 (by omega) (own b hb'.1)).mono fun b hb' => ⟨by omega, new b hb'.2 (own b hb'.1)⟩, hok⟩

/-- Behind the loop: the result, once it is laid into the result's variable. -/
theorem tloop_end {w wL wr w' : World} {g : Nat} {x r : Array Value} {K : Nat} {l1 l2 : Bs} {ao : Option Addr} {n c : Nat} {ln cl : Int} {d N z : Nat} (h : TLoop w wL g x r K l1 l2 ao n c ln cl d N wr) (hz : z < 4294967296 ^ 4) (hS : Sl wL .u32 (.slice ao n c) (dig L32 z)) (hF : n ≠ 0 → ∀ a, ao = some a → w.heap.size + 2 ≤ a.block ∧ a.block ≠ g)
    (hK : K < 29) (h11 : 1 ≤ l1.length) (h1 : (K = 3 → 1 ≤ l1.length) ∧ l1.length ≤ 2) (h2 : l2.length ≤ 2) (hN : K = 24 ∨ N = ar K) (hN3 : N ≤ 3) (hg : g < wL.heap.size) (hlo : w.heap.size + 2 ≤ g) (hb : ∀ b, b ≠ w.heap.size + 1 → w'.heap[b]? = wr.heap[b]?) :
    ∃ ko kc t, wr.heap[g]? = some (.cells #[.int .i64 (K : Nat), .string ⟨l1.toArray⟩, .string ⟨l2.toArray⟩, .bool false, .slice ao n c, .slice ko N kc, .int .i64 ln, .int .i64 cl] 29 (0, 0)) ∧
      Tr w' (fun b => w.heap.size ≤ b) (d + 1) ⟨(K : Nat), ⟨l1.toArray⟩, ⟨l2.toArray⟩, false, ao, n, c, ko, N, kc, ln, cl⟩ t ∧ OkN (d + 1) t := by
  obtain ⟨ko, kc, ts, yy, hts, hyy, hO, hown, hfr, hsz, htr⟩ := h
  refine ⟨ko, kc, .node K l1 l2 z ts, hO.1, ⟨⟨rfl, rfl, rfl, rfl⟩, ⟨?_, fun h0 a ha => by have := (hF h0 a ha).1; omega⟩, ⟨hts.symm, ?_, fun h0 a ha => ?_⟩, fun i hi => ?_⟩, ⟨hK, h1, h2, hz, ?_, by omega, fun t ht => ?_⟩, h11, fun t ht => ?_⟩
  · refine hS.keep fun h0 a ha => ?_
    have hlt : a.block < wL.heap.size := by
      obtain ⟨ao', cap, e, -, -, -, q⟩ := hS
      injection e with e1 e2 e3
      obtain ⟨b, hb, hc⟩ := q 0 (by omega)
      have : b = a := by rw [ha] at e1; rw [← e1] at hb; injection hb with hb; exact hb.symm
      subst this
      have := cell_lt hc
      rwa [add_block] at this
    obtain ⟨h3, h4⟩ := hF h0 a ha
    rw [hb _ (by omega), hfr _ hlt h4]
  · obtain ⟨ko2, kc2, e, hl⟩ := own_form hown
    injection e with e1 e2 e3
    subst e3; exact hl
  · have := (hown.lt a.block (by simp only at ha; rw [ha]; rfl)).1
    have := hO.2.2.2.1.size
    show w.heap.size ≤ a.block
    omega
  · have hi2 : i < yy.length := by omega
    obtain ⟨a1, a2⟩ := htr i hi hi2
    refine ⟨yy[i], (own_at hown i hi2).keep fun a ha => hb _ ?_, (a1.keep fun b hb' => hb b ?_).mono fun b hb' => ?_⟩
    · have := (hown.lt a.block (by rw [ha]; rfl)).1; omega
    · omega
    · show w.heap.size ≤ b
      have := hb'.1; omega
  · rcases hN with h | h
    · exact .inl h
    · exact .inr (by omega)
  · obtain ⟨i, hi, rfl⟩ := List.getElem_of_mem ht
    exact (htr i hi (by omega)).2.1
  · obtain ⟨i, hi, rfl⟩ := List.getElem_of_mem ht
    exact (htr i hi (by omega)).2.2
end Go.Proofs.YtcdacmbcecjliaaDoor
