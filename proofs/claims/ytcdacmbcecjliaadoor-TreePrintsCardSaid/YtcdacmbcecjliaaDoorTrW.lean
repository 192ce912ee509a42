/-
  Contracts of a writer: a struct that embeds a string builder.
-/
import Derived.Test.YtcdacmbcecjliaaDoorTrE
import Derived.Test.YtcdacmbcecjliaaDoorTrR
import Derived.Test.YtcdacmbcecjliaaDoorTrG
import Derived.Lib.UnsafeStr
import Derived.Lib.Builder
import Derived.Lib.AppendStr
namespace Go.Proofs.YtcdacmbcecjliaaDoor
open Go.RowKit
set_option maxRecDepth 100000

theorem liesWr : liesAt Tryd.prog Tryd.prog.depth 64 (2 / Tryd.prog.cellsOf 64) 0 62 1 = true := by kernel_rfl
theorem cellsByte : Tryd.prog.cellsOf 5 = 1 := by kernel_rfl

set_option maxHeartbeats 1000000 in
theorem wr_copyCheck (b : Nat) (w : World) (h0 : w.cell? ⟨b, 0, none⟩ = some (.pointer none)) (hsh : w.shape? b = some (64, 2)) (hfz : w.frozen? ⟨b, 0, none⟩ = false) :
    Calls Tryd.prog 38 #[.pointer (some ⟨b, 0, none⟩)] w fun e w' => e = .returned (.tuple #[]) ∧ w.setCell ⟨b, 0, none⟩ (.pointer (some ⟨b, 0, none⟩)) = w' := by
  obtain ⟨j, hj, hjs⟩ := Option.map_eq_some_iff.1 infoBld
  have h1 := Lib.run_to_unsafe (P := Tryd.prog) w ⟨b, 0, none⟩ Tryd.underlying59 Tryd.underlying87 hj (by rw [hjs]; decide) hsh (Nat.zero_lt_succ 1)
  have h2 := run_callFunc_extern (P := Tryd.prog) (w := w) (args := #[.pointer (some ⟨b, 0, none⟩)]) Tryd.func43 (by kernel_rfl) (by kernel_rfl) (by kernel_rfl) (e := Extern.AbiNoEscape.same) (by kernel_rfl)
  have h3 := Lib.run_noEscape (P := Tryd.prog) w (.pointer (some ⟨b, 0, none⟩))
  have h4 := Lib.run_from_unsafe (P := Tryd.prog) w ⟨b, 0, none⟩ Tryd.underlying87 Tryd.underlying59 hj hsh liesWr
  go_enter Tryd.func38, Tryd.ntmps38
  go_wp2
  go_end0
  exact ⟨rfl, rfl⟩

/-- The writer in block b (made by the call: from B on) holds these bytes. -/
def Wr (B b : Nat) (l : Bs) (w : World) : Prop := Lib.IsBuilder 64 5 B b (Lib.byteCells l) w

theorem Wr.at {B b : Nat} {l : Bs} {w : World} (h : Wr B b l w) : ∃ p v, w.heap[b]? = some (.cells #[p, v] 64 (0, 0)) ∧ w.ownsRow B 5 1 v l.length (Lib.byteCells l) ∧ v.ownBlock ≠ some b ∧ B ≤ b ∧ (p = .pointer none ∨ p = .pointer (some ⟨b, 0, none⟩)) := by
  rcases h with ⟨hB, v, h1, h2, h3⟩ | ⟨hB, v, h1, h2, h3⟩
  · exact ⟨_, v, h1, by simpa [Lib.byteCells_length] using h2, h3, hB, .inl rfl⟩
  · exact ⟨_, v, h1, by simpa [Lib.byteCells_length] using h2, h3, hB, .inr rfl⟩
theorem Wr.below {B b : Nat} {l : Bs} {w w' : World} (h : Wr B b l w) (hb : Below w.heap.size w w') : Wr B b l w' := by
  have go : ∀ p, Lib.BuilderAt 64 5 B b p (Lib.byteCells l) w → Lib.BuilderAt 64 5 B b p (Lib.byteCells l) w' := by
    intro p ⟨hB, v, h1, h2, h3⟩
    have hlt := lt_of_block h1
    exact ⟨hB, v, by rw [hb.block b hlt]; exact h1, World.ownsRow.kept h2 ⟨hb.os, hb.tape, hb.output, hb.size, fun j hj _ => hb.block j hj⟩ (by cases hv : v.ownBlock with | none => exact .inl rfl | some g => exact .inr (show some g ≠ none by simp)), h3⟩
  rcases h with h | h
  · exact .inl (go _ h)
  · exact .inr (go _ h)
theorem Wr.lt {B b : Nat} {l : Bs} {w : World} (h : Wr B b l w) : B ≤ b ∧ b < w.heap.size := by
  obtain ⟨p, v, h1, -, -, h2, -⟩ := h.at
  exact ⟨h2, lt_of_block h1⟩
theorem Wr.fresh (w : World) : Wr w.heap.size w.heap.size [] (w.alloc (.cells #[.pointer none, .slice none 0 0] 64)) := Lib.fresh_isBuilder 64 5 w
theorem Wr.lower {B B' b : Nat} {l : Bs} {w : World} (h : Wr B b l w) (hB : B' ≤ B) : Wr B' b l w := by
  have go : ∀ p, Lib.BuilderAt 64 5 B b p (Lib.byteCells l) w → Lib.BuilderAt 64 5 B' b p (Lib.byteCells l) w := by
    rintro p ⟨h1, v, h2, ⟨h3, h4⟩, h5⟩
    refine ⟨by omega, v, h2, ⟨h3, ?_⟩, h5⟩
    rcases h4 with h4 | ⟨g, cap, cur, a1, a2, a3⟩
    · exact .inl h4
    · exact .inr ⟨g, cap, cur, a1, by omega, a3⟩
  rcases h with h | h
  · exact .inl (go _ h)
  · exact .inr (go _ h)

/-- Every block that is neither a writer nor bytes lies as before. -/
def Fr (w w' : World) : Prop := ∀ (g : Nat) (c : Array Value) (T : TypeId) (fz : Nat × Nat), w.heap[g]? = some (.cells c T fz) → T ≠ 5 → T ≠ 64 → w'.heap[g]? = some (.cells c T fz)
theorem Fr.refl (w : World) : Fr w w := fun _ _ _ _ h _ _ => h
theorem Fr.trans {a b c : World} (h : Fr a b) (k : Fr b c) : Fr a c := fun g x T fz h1 h2 h3 => k g x T fz (h g x T fz h1 h2 h3) h2 h3
theorem fr_below {w w' : World} (h : Below w.heap.size w w') : Fr w w' := fun g c T fz h1 _ _ => by rw [h.block g (lt_of_block h1)]; exact h1
theorem fr_set {w : World} {b : Nat} {c0 : Array Value} {f0 : Nat × Nat} (hb : w.heap[b]? = some (.cells c0 64 f0)) (i : Nat) (x : Value) : Fr w (w.setCell ⟨b, i, none⟩ x) := fun g c T fz h1 _ h3 => by
  by_cases e : g = b
  · subst e; rw [hb] at h1; injection h1 with h1; injection h1 with _ h1 _; exact absurd h1.symm h3
  · rw [set1_other _ _ _ _ e]; exact h1
theorem fr_grown {w w' : World} {B : Nat} {v : Value} {n : Nat} {xs : List Value} (hown : w.ownsRow B 5 1 v n xs) (hg : w.grownBy w' v.ownBlock) : Fr w w' := fun g c T fz h1 h2 _ => by
  rw [hg.block g (lt_of_block h1) (fun e => ?_)]; exact h1
  rcases hown.2 with ⟨rfl, _⟩ | ⟨q, cap, cur, rfl, _, hq, _⟩
  · cases e
  · injection e with e
    subst e
    rw [hq] at h1; injection h1 with h1; injection h1 with _ h1 _; exact h2 h1.symm

/-- What copyCheck leaves of it. -/
theorem wr_checked {B b : Nat} {l : Bs} {w : World} (h : Wr B b l w) : ∃ v, Calls Tryd.prog 38 #[.pointer (some ⟨b, 0, none⟩)] w fun e w1 => e = .returned (.tuple #[]) ∧ w1.heap[b]? = some (.cells #[.pointer (some ⟨b, 0, none⟩), v] 64 (0, 0)) ∧ w1.ownsRow B 5 1 v l.length (Lib.byteCells l) ∧ v.ownBlock ≠ some b ∧ Below B w w1 ∧ Fr w w1 := by
  obtain ⟨p, v, hbk, hown, hne, hBb, hp⟩ := h.at
  refine ⟨v, ?_⟩
  rcases hp with rfl | rfl
  · refine (wr_copyCheck b w (by rw [cell_of_row w b 0 _ 64 (0, 0) hbk]; rfl) (by simp [World.shape?, hbk]) (frozen_of_row w b 0 _ 64 hbk)).mono ?_
    rintro e w1 ⟨rfl, rfl⟩
    refine ⟨rfl, ?_, ?_, hne, (Below.refl _ _).setCell hBb _, fr_set hbk 0 _⟩
    · rw [heap_setCell_same w b 0 _ 64 _ hbk]; rfl
    · exact ownsRow_setCell_other hown (by simpa using hne) _
  · refine (copyCheck_used b w (by rw [cell_of_row w b 0 _ 64 (0, 0) hbk]; rfl)).mono ?_
    rintro e w1 ⟨rfl, rfl⟩
    exact ⟨rfl, hbk, hown, hne, Below.refl _ _, Fr.refl _⟩

def WrPost (B b : Nat) (l : Bs) (w : World) (e : Ending) (w' : World) : Prop := (∃ v, e = .returned v) ∧ Wr B b l w' ∧ Below B w w' ∧ Fr w w'

set_option maxHeartbeats 1000000 in
theorem wr_str (B b : Nat) (l m : Bs) (w : World) (h : Wr B b l w) (hlen : l.length + m.length ≤ 1000000) (hBw : B ≤ w.heap.size) :
    Calls Tryd.prog 31 #[.pointer (some ⟨b, 0, none⟩), .string ⟨m.toArray⟩] w (WrPost B b (l ++ m) w) := by
  obtain ⟨i0, hi, hz0, hz1, hz2⟩ := info_parts infoByte
  obtain ⟨v, cc⟩ := wr_checked h
  have hBb := h.lt.1
  have hsz : (⟨m.toArray⟩ : ByteArray).size = m.length := rfl
  have CC := Lib.hid cc
  clear cc h
  go_enter Tryd.func31, Tryd.ntmps31
  go_wp2_with fail
  refine CC.out.mono ?_
  rintro e w1 ⟨rfl, hbk1, hown1, hne, hb1, hfr1⟩
  have HFR := Lib.hid hfr1
  clear hfr1
  have c0 : w1.cell? ⟨b, 0, none⟩ = some (.pointer (some ⟨b, 0, none⟩)) := by rw [cell_of_row w1 b 0 _ 64 (0, 0) hbk1]; rfl
  have c1 : w1.cell? ⟨b, 1, none⟩ = some v := by rw [cell_of_row w1 b 1 _ 64 (0, 0) hbk1]; rfl
  have HK := Lib.hid hbk1
  clear hbk1
  have hsz1 := hb1.size
  go_wp2_with (at_builtin; refine Lib.wpList_append_own_string _ rfl (.tmp 12) (.tmp 13) 60 9 rfl B 5 i0 Tryd.underlying60 Tryd.underlying9 hi hz0 hz1 hz2 _ _ _ rfl hown1 ⟨m.toArray⟩ rfl ?c3 ?c4 ?c5 ?_)
  case c3 => unfold maxLen; omega
  case c4 => omega
  case c5 => omega
  intro v' w2 hown' hgrow _
  have HFG := Lib.hid (fr_grown hown1 hgrow)
  have hlt1 : b < w1.heap.size := lt_of_block HK.out
  have hb2 : w2.heap[b]? = some (.cells #[.pointer (some ⟨b, 0, none⟩), v] 64 (0, 0)) := by
    rw [hgrow.block b hlt1 (fun e => hne e.symm)]
    exact HK.out
  have d0 : w2.cell? ⟨b, 0, none⟩ = some (.pointer (some ⟨b, 0, none⟩)) := by rw [cell_of_row w2 b 0 _ 64 (0, 0) hb2]; rfl
  have d1 : w2.cell? ⟨b, 1, none⟩ = some v := by rw [cell_of_row w2 b 1 _ 64 (0, 0) hb2]; rfl
  have f1 : w2.frozen? ⟨b, 1, none⟩ = false := frozen_of_row w2 b 1 _ 64 hb2
  obtain ⟨ao, cap, rfl, -⟩ := own_form hown'
  have HB2 := Lib.hid hb2
  clear hb2
  go_wp2
  go_ret2
  refine ⟨⟨_, rfl⟩, ?_, (hb1.grown hgrow (by omega) (fun k hk => (hown1.lt k hk).1)).setCell (p := ⟨b, 1, none⟩) hBb _, (HFR.out.trans HFG.out).trans (fr_set HB2.out 1 _)⟩
  refine .inr ?_
  rw [← strCells_bytes]
  refine Lib.BuilderAt.put (T := 64) (e := 5) hBb HB2.out (bs' := Lib.byteCells l ++ Lib.strCells ⟨m.toArray⟩) ?_ (by decide)
  rw [List.length_append, Lib.byteCells_length, Lib.strCells_length]
  exact hown'

set_option maxHeartbeats 1000000 in
theorem wr_byte (B b : Nat) (l : Bs) (c : UInt8) (z : Int) (hz : z = (c.toNat : Int)) (w : World) (h : Wr B b l w) (hlen : l.length ≤ 1000000) (hBw : B ≤ w.heap.size) :
    Calls Tryd.prog 33 #[.pointer (some ⟨b, 0, none⟩), .int .u8 z] w (WrPost B b (l ++ [c]) w) := by
  obtain ⟨v, cc⟩ := wr_checked h
  have hBb := h.lt.1
  have CC := Lib.hid cc
  have HZ := Lib.hid hz
  clear cc h hz
  go_enter Tryd.func33, Tryd.ntmps33
  go_wp2_with fail
  refine CC.out.mono ?_
  rintro e w1 ⟨rfl, hbk1, hown1, hne, hb1, hfr1⟩
  have HFR := Lib.hid hfr1
  clear hfr1
  have hlt1 : b < w1.heap.size := lt_of_block hbk1
  have c0 : w1.cell? ⟨b, 0, none⟩ = some (.pointer (some ⟨b, 0, none⟩)) := by rw [cell_of_row w1 b 0 _ 64 (0, 0) hbk1]; rfl
  have c1 : w1.cell? ⟨b, 1, none⟩ = some v := by rw [cell_of_row w1 b 1 _ 64 (0, 0) hbk1]; rfl
  have hA := hown1.alloc (.cells #[.int .u8 z] 5)
  have HA := Lib.hid hA
  have HK := Lib.hid (made_more hbk1 (.cells #[.int .u8 z] 5))
  have HM := Lib.hid (made_at w1 (.cells #[.int .u8 z] 5) _ rfl)
  clear hbk1 hA
  have hsz1 := hb1.size
  go_wp2_with (at_builtin; go_loud (refine wpList_append_el _ rfl (.tmp 11) (.tmp 13) 60 rfl 5 Tryd.underlying60 infoByte rfl (by decide) (by decide) B v l.length _ rfl HA.out w1.heap.size 5 [.int .u8 z] rfl (by intro u hu; simp at hu; subst hu; rfl) rfl HM.out (by omega) (by simp; omega) ?_; intro v' w2 hown' hgrow hfr; have hb2 := (hgrow.block b (lt_of_block HK.out) (fun e => hne e.symm)).trans HK.out; have d1 : w2.cell? ⟨b, 1, none⟩ = some v := (by rw [cell_of_row w2 b 1 _ 64 (0, 0) hb2]; rfl); have f1 : w2.frozen? ⟨b, 1, none⟩ = false := frozen_of_row w2 b 1 _ 64 hb2; obtain ⟨ao, cap, rfl, -⟩ := own_form hown'; have HB2 := Lib.hid hb2; have HOW := Lib.hid hown'; have HGR := Lib.hid hgrow; clear hb2 hown' hgrow hfr))
  go_ret
  have hBw1 : Below B w (w1.alloc (.cells #[.int .u8 z] 5)) := hb1.alloc (by omega) _
  refine ⟨⟨_, rfl⟩, .inr ?_, (hBw1.grown HGR.out (by have := hBw1.size; omega) (fun k hk => (HA.out.lt k hk).1)).setCell (p := ⟨b, 1, none⟩) hBb _, ((HFR.out.trans (fr_below ((Below.refl _ _).alloc (Nat.le_refl _) _))).trans (fr_grown HA.out HGR.out)).trans (fr_set HB2.out 1 _)⟩
  have e : Lib.byteCells (l ++ [c]) = Lib.byteCells l ++ [.int .u8 z] := by rw [HZ.out]; simp [Lib.byteCells]
  rw [e]
  refine Lib.BuilderAt.put (T := 64) (e := 5) hBb HB2.out (bs' := Lib.byteCells l ++ [.int .u8 z]) ?_ (by decide)
  rw [List.length_append, Lib.byteCells_length]
  exact HOW.out

set_option maxHeartbeats 2000000 in
theorem wr_string_some (B b g cap : Nat) (p : Value) (cur : Array Value) (l : Bs) (w : World) (h0 : l ≠ []) (hB : B ≤ g) (hbk : w.heap[b]? = some (.cells #[p, .slice (some ⟨g, 0, none⟩) l.length cap] 64 (0, 0))) (hg : w.heap[g]? = some (.cells cur 5 (0, 0)))
    (hnc : l.length ≤ cap) (hcm : cap ≤ maxLen) (hcs : cur.size = cap) (hcell : ∀ j (x : UInt8), l[j]? = some x → w.cell? ((⟨g, 0, none⟩ : Addr).add j) = some (.int .u8 x.toNat)) :
    Calls Tryd.prog 24 #[.pointer (some ⟨b, 0, none⟩)] w fun e w' => e = .returned (.string ⟨l.toArray⟩) ∧ Below B w w' := by
  have hl0 : l.length ≠ 0 := by simpa using h0
  have c1 : w.drew.cell? ⟨b, 1, none⟩ = some (.slice (some ⟨g, 0, none⟩) l.length cap) := by
    have : w.drew.heap[b]? = some (.cells #[p, .slice (some ⟨g, 0, none⟩) l.length cap] 64 (0, 0)) := hbk
    rw [Lib.cell_of_heap this]; rfl
  have hSD : (Builtin.unsafeSliceData_ #[60] 74 #[.slice (some ⟨g, 0, none⟩) l.length cap]).run Tryd.prog w.drew = .ok (.pointer (some ⟨g, 0, none⟩)) w.drew :=
    Lib.run_unsafeSliceData_row _ _ _ _ _ _ (by omega)
  have hUS : (Builtin.unsafeString_ #[74, 3] 9 #[.pointer (some ⟨g, 0, none⟩), .int .i64 l.length]).run Tryd.prog w.drew = .ok (.string ⟨l.toArray⟩) (w.drew.freeze ⟨g, 0, none⟩ l.length) := by
    refine Lib.run_unsafeString_row w.drew 74 3 9 5 Tryd.underlying74 cellsByte g cur.size (by have hg' : w.drew.heap[g]? = some (.cells cur 5 (0, 0)) := hg; simp [World.shape?, hg']) l h0 (by omega) (by unfold maxLen at hcm; omega) ?_
    intro j x hx
    exact hcell j x hx
  clear hcell hcs hg hbk
  go_enter Tryd.func24, Tryd.ntmps24
  go_wp2
  go_region
  all_goals (go_wp2; go_ret; exact ⟨rfl, Lib.below_freeze (Below.drew (Below.refl B w)) (p := ⟨g, 0, none⟩) hB _⟩)

theorem wr_string (B b : Nat) (l : Bs) (w : World) (h : Wr B b l w) (h0 : l ≠ []) :
    Calls Tryd.prog 24 #[.pointer (some ⟨b, 0, none⟩)] w fun e w' => e = .returned (.string ⟨l.toArray⟩) ∧ Below B w w' := by
  obtain ⟨p, v, hbk, hown, hne, hBb, hp⟩ := h.at
  have hl0 : l.length ≠ 0 := by simpa using h0
  have h1 := hown
  rcases hown.2 with ⟨_, hz⟩ | ⟨g, cap, cur, rfl, hbg, hg, hnc, hcm, hcs, htake⟩
  · exact absurd hz hl0
  · refine wr_string_some B b g cap p cur l w h0 hbg hbk hg hnc hcm (by omega) fun j x hx => ?_
    exact h1.cells (g := g) rfl j (.int .u8 x.toNat) (by simp [Lib.byteCells, hx])
end Go.Proofs.YtcdacmbcecjliaaDoor
