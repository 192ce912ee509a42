/-
  The walk of the law LexLongs.
-/
import Derived.Test.YtnjdbljdaghdmaaDoorLxG
import Derived.IntWalk
import Derived.Laws.MakeOwn
import Derived.Laws.BytesString
namespace Go.Proofs.YtnjdbljdaghdmaaDoor
open Go.RowKit
set_option maxRecDepth 100000

theorem and3 (n : Int) : ∃ m : Nat, m < 4 ∧ bits .and .i64 n 3 = (m : Int) := by
  have hlt : (BitVec.ofInt IntKind.i64.bits n &&& BitVec.ofInt IntKind.i64.bits 3).toNat < 4 := by
    rw [BitVec.toNat_and]; exact Nat.lt_of_le_of_lt Nat.and_le_right (by decide)
  refine ⟨_, hlt, ?_⟩
  show IntKind.i64.wrap ((BitVec.ofInt IntKind.i64.bits n &&& BitVec.ofInt IntKind.i64.bits 3).toNat : Int) = _
  exact IntWalk.i64_in _ (by omega)
theorem infoByte : (Tryd.prog.info? 5).map (fun i => (i.zero, i.size, i.bytes)) = some (some (.int .u8 0), 1, 1) := by kernel_rfl

/-- A block of bytes: so many cells, the first k of them blanks. -/
def Sp (w : World) (g N k : Nat) : Prop := ∃ cur : Array Value, w.heap[g]? = some (.cells cur 5 (0, 0)) ∧ cur.size = N ∧ ∀ j, j < k → cur[j]? = some (.int .u8 32)
theorem Sp.set {w : World} {g N k : Nat} (h : Sp w g N k) (hk : k < N) : Sp (w.setCell ⟨g, k, none⟩ (.int .u8 32)) g N (k + 1) := by
  obtain ⟨cur, h1, h2, h3⟩ := h
  refine ⟨_, heap_setCell_same w g k _ _ _ h1, by simp [h2], fun j hj => ?_⟩
  by_cases hjk : j = k
  · subst hjk; simp [h2, hk]
  · simp only [Array.getElem?_setIfInBounds]
    rw [if_neg (fun e => hjk e.symm)]
    exact h3 j (by omega)

set_option maxHeartbeats 4000000 in
theorem lexLongs_walk (n : Int) (w : World) (_hn : (Lit.int .i64 n).wf = true) (hg : ErrType w) :
    Calls Tryd.prog 4 #[.int .i64 n] w fun e w' => e = .returned (.bool true) ∧ Below w.heap.size w w' := by
  obtain ⟨m, hm4, hm⟩ := and3 n
  obtain ⟨N, hN⟩ : ∃ N, N = 20000 + m - 1 := ⟨_, rfl⟩
  have hN1 : 19999 ≤ N := by omega
  have hN2 : N ≤ 20002 := by omega
  have HG := Lib.hid hg
  have HN := Lib.hid hN
  clear hN hg
  go_enter Tryd.func4, Tryd.ntmps4
  go_wp2_with fail
  refine (fit_any _).mono ?_
  rintro e w1 ⟨rfl, hb⟩
  have HB := Lib.hid hb
  clear hb
  obtain ⟨i0, hi, hz0, hz1, hz2⟩ := info_parts infoByte
  obtain ⟨M, hM⟩ : ∃ M, M = madeCells (Value.int .u8 0).cells (N * i0.size) := ⟨_, rfl⟩
  have hMs : M.size = N := by rw [hM, size_madeCells, hz1]; simp
  have hmk : ∀ W : World, (Instr.makeSlice 38 (.int .i64 (20000 + (m : Int) - 1)) (.int .i64 (20000 + (m : Int) - 1))).run Tryd.prog W = .ok (.slice (some ⟨W.heap.size, 0, none⟩) N N) (W.alloc (.cells M 5)) := fun W => by
    have h := run_make (P := Tryd.prog) W 38 5 i0 (.int .u8 0) Tryd.underlying38 hi hz0 .i64 .i64 (20000 + (m : Int) - 1) (20000 + (m : Int) - 1) (by omega) (by omega) (by rw [hz2]; omega) (by omega)
    have e : (20000 + (m : Int) - 1).toNat = N := by have := HN.out; omega
    rw [e, ← hM] at h
    exact h
  have HMs := Lib.hid hMs
  clear hM hMs hi hz0 hz1 hz2
  go_wp2_with fail
  clear hmk
  obtain ⟨w2, hw2⟩ : ∃ w2, w2 = w1.alloc (.cells M 5) := ⟨_, rfl⟩
  have hS0 : Sp w2 w1.heap.size N 0 := ⟨M, by rw [hw2]; exact made_at w1 _ _ rfl, HMs.out, fun j hj => absurd hj (Nat.not_lt_zero j)⟩
  have hb2 : Below w1.heap.size w1 w2 := by rw [hw2]; exact (Below.refl _ _).alloc (Nat.le_refl _) _
  rw [← hw2]
  clear hw2
  go_loopw [20] (fun i wr => ∃ k : Nat, i = .int .i64 k ∧ k ≤ N ∧ Sp wr w1.heap.size N k ∧ Below w1.heap.size w1 wr) (fun i _ => N - (intOf i).toNat)
  case atStart => exact ⟨0, rfl, Nat.zero_le _, hS0, hb2⟩
  case round =>
    obtain ⟨k, rfl, hk, hS, hbr⟩ := hrel
    by_cases hlt : k < N
    · obtain ⟨cur, s1, s2, s3⟩ := hS
      have hkc : k < cur.size := by omega
      have c0 := cell_at s1 k (Array.getElem?_eq_getElem hkc)
      have f0 := froz_at s1 k
      obtain ⟨u0, hu0⟩ : ∃ u0, u0 = cur[k] := ⟨_, rfl⟩
      rw [← hu0] at c0
      have HS : Hid (Sp wr w1.heap.size N k) := Lib.hid ⟨cur, s1, s2, s3⟩
      have HBR := Lib.hid hbr
      clear s1 s2 s3 hbr hu0 hkc
      go_wp2
      go_roundw
      case rel => exact ⟨k + 1, by go_num, by omega, HS.out.set hlt, HBR.out.setCell (Nat.le_refl _) _⟩
      case measure => simp [intOf]; omega
    · have hkn : k = N := by omega
      subst hkn
      obtain ⟨cur, s1, s2, s3⟩ := hS
      have hcv := run_convert_bytes_back (P := Tryd.prog) wr 38 9 5 ⟨w1.heap.size, 0, none⟩ k (List.replicate k 32) Tryd.underlying38 Tryd.underlying5 Tryd.underlying9 (fun j hj => by
        rw [List.length_replicate] at hj
        rw [List.getElem_replicate]
        have hadd : (⟨w1.heap.size, 0, none⟩ : Addr).add j = ⟨w1.heap.size, j, none⟩ := by unfold Addr.add; split <;> simp_all
        rw [hadd]
        exact cell_at s1 j (s3 j hj))
      rw [List.length_replicate] at hcv
      obtain ⟨L, hL⟩ : ∃ L : Bs, L = List.replicate k 32 := ⟨_, rfl⟩
      have hLl : L.length = k := by rw [hL, List.length_replicate]
      rw [← hL] at hcv
      have HL := Lib.hid hL
      have HBR := Lib.hid hbr
      clear s1 s2 s3 hbr hL
      go_wp2_with fail
      clear hcv
      have hz01 := HB.out.size
      have hz1r := HBR.out.size
      have HBW := Lib.hid (HB.out.trans (HBR.out.mono hz01))
      have HGr := Lib.hid (HG.out.below HBW.out)
      by_cases hm2 : m < 2
      · have hlx : lexS L (1, 1) = ([⟨4, [], 1, k + 1⟩], 0) := by rw [HL.out]; exact lex_spaces k
        have HLX := Lib.hid hlx
        clear hlx
        refine (lex_any L wr (by have := HN.out; omega)).mono ?_
        intro e w3 hp
        obtain ⟨v, rfl, hT, hb⟩ := ok_post hp (by rw [HLX.out])
        rw [HLX.out] at hT
        obtain ⟨g, cap, rfl, h1, h2, h3, h4, h5⟩ := tok_cells hT (by simp)
        have c1 := (h5 0 (by simp)).2.2.2
        simp only [List.length_cons, List.length_nil] at h1 h2 ⊢
        have HB3 := Lib.hid hb
        clear hb hT h5 hp
        go_wp2_with fail
        go_ret
        exact ⟨rfl, HBW.out.trans (HB3.out.mono (by omega))⟩
      · have hm2' : 2 ≤ m := by omega
        clear hm2
        refine (lex_long L wr (by have := HN.out; omega)).mono ?_
        rintro e w3 ⟨q, rfl, hA, hq, hb⟩
        have HA := Lib.hid hA
        have HB3 := Lib.hid hb
        have HG3 := Lib.hid (HGr.out.below hb)
        clear hA hb
        go_wp2_with fail
        refine (fault_at q (1, 1) 2 (.inr rfl) w3 HG3.out HA.out).mono ?_
        rintro e w4 ⟨rfl, hb4⟩
        have HB4 := Lib.hid hb4
        clear hb4
        go_wp2_with fail
        go_ret
        exact ⟨rfl, (HBW.out.trans (HB3.out.mono (by omega))).trans (HB4.out.mono (by have := HB3.out.size; omega))⟩
end Go.Proofs.YtnjdbljdaghdmaaDoor
