/-
  The walk of the law ParseDeeps.
-/
import Derived.Test.YtdpfgfkoboihcaaDoorPsFit
import Derived.Test.YtdpfgfkoboihcaaDoorLxIs
import Derived.IntWalk
namespace Go.Proofs.YtdpfgfkoboihcaaDoor
open Go.RowKit
set_option maxRecDepth 1000000
set_option linter.unusedVariables false

theorem and3 (n : Int) : ∃ m : Nat, m < 4 ∧ bits .and .i64 n 3 = (m : Int) := by
  have hlt : (BitVec.ofInt IntKind.i64.bits n &&& BitVec.ofInt IntKind.i64.bits 3).toNat < 4 := by
    rw [BitVec.toNat_and]; exact Nat.lt_of_le_of_lt Nat.and_le_right (by decide)
  refine ⟨_, hlt, ?_⟩
  show IntKind.i64.wrap ((BitVec.ofInt IntKind.i64.bits n &&& BitVec.ofInt IntKind.i64.bits 3).toNat : Int) = _
  exact IntWalk.i64_in _ (by omega)
theorem and15 (n : Int) : ∃ m : Nat, m < 16 ∧ bits .and .i64 n 15 = (m : Int) := by
  have hlt : (BitVec.ofInt IntKind.i64.bits n &&& BitVec.ofInt IntKind.i64.bits 15).toNat < 16 := by
    rw [BitVec.toNat_and]; exact Nat.lt_of_le_of_lt Nat.and_le_right (by decide)
  refine ⟨_, hlt, ?_⟩
  show IntKind.i64.wrap ((BitVec.ofInt IntKind.i64.bits n &&& BitVec.ofInt IntKind.i64.bits 15).toNat : Int) = _
  exact IntWalk.i64_in _ (by omega)

set_option maxHeartbeats 8000000 in
theorem parseDeeps_walk (n kind : Int) (w : World) (_hn : (Lit.int .i64 n).wf = true) (_hk : (Lit.int .i64 kind).wf = true) (hop : OpsAt w) (hg : ErrType w) :
    Calls Tryd.prog 3 #[.int .i64 n, .int .i64 kind] w fun e w' => e = .returned (.bool true) ∧ Below w.heap.size w w' := by
  obtain ⟨m, hm16, hm⟩ := and15 n
  obtain ⟨k, hk4, hk⟩ := and3 kind
  have HG := Lib.hid hg
  have HO := Lib.hid hop
  clear hop hg
  go_enter Tryd.func3, Tryd.ntmps3
  go_wp2_with fail
  refine (fit_p w HO.out).mono ?_
  rintro e w1 ⟨rfl, hb⟩
  have HB := Lib.hid hb
  replace HO := Lib.hid (HO.out.below hb)
  replace HG := Lib.hid (HG.out.below hb)
  clear hb
  go_wp2_with fail
  go_loopw [5, 6] (fun s i wr => ∃ j : Nat, s = .string ⟨(famT k j).toArray⟩ ∧ i = .int .i64 ((j + 1 : Nat) : Int) ∧ j ≤ 49 + m ∧ wr = w1) (fun _ i _ => 50 + m - (intOf i).toNat)
  case atStart => exact ⟨0, rfl, rfl, Nat.zero_le _, rfl⟩
  case round =>
    obtain ⟨j, rfl, rfl, hj, rfl⟩ := hrel
    have hl := fam_len k j
    by_cases hlt : j < 49 + m
    · have hsz : (⟨(famT k j).toArray⟩ : ByteArray).size = (famT k j).length := rfl
      obtain rfl | rfl | rfl | rfl : k = 0 ∨ k = 1 ∨ k = 2 ∨ k = 3 := by omega
      · go_wp2_with fail
        go_roundw
        case rel => exact ⟨j + 1, congrArg Value.string (by apply ByteArray.ext; simp [famT, ByteArray.data_append]), by go_num, by omega, trivial⟩
        case measure => simp [intOf]; omega
      · go_wp2_with fail
        go_roundw
        case rel => exact ⟨j + 1, congrArg Value.string (by apply ByteArray.ext; simp [famT, ByteArray.data_append]), by go_num, by omega, trivial⟩
        case measure => simp [intOf]; omega
      · go_wp2_with fail
        go_roundw
        case rel => exact ⟨j + 1, congrArg Value.string (by apply ByteArray.ext; simp [famT, ByteArray.data_append]), by go_num, by omega, trivial⟩
        case measure => simp [intOf]; omega
      · go_wp2_with fail
        go_roundw
        case rel => exact ⟨j + 1, congrArg Value.string (by apply ByteArray.ext; simp [famT, ByteArray.data_append]), by go_num, by omega, trivial⟩
        case measure => simp [intOf]; omega
    · have e : j = 49 + m := by omega
      subst e
      have hsz : (⟨(famT k (49 + m)).toArray⟩ : ByteArray).size = (famT k (49 + m)).length := rfl
      have hcat : (⟨#[32]⟩ : ByteArray) ++ ⟨(famT k (49 + m)).toArray⟩ = ⟨(32 :: famT k (49 + m)).toArray⟩ := by apply ByteArray.ext; simp [ByteArray.data_append]
      obtain ⟨hlx, r, hc, h1, h2⟩ := fam_ok k m hk4 hm16
      have HX := Lib.hid (exprs_p 600 (by decide) (32 :: famT k (49 + m)) r wr (by simp only [List.length_cons]; omega) HO.out (fun _ => hc))
      have HE : Hid (exF (32 :: famT k (49 + m)) r = r.2.fin.err) := Lib.hid (by unfold exF; rw [hlx]; rfl)
      have H1 := Lib.hid h1
      have H2 := Lib.hid h2
      clear hlx hc h1 h2
      go_wp2_with fail
      refine HX.out.mono ?_
      rintro e w2 ⟨hb, hcase⟩
      have HB2 := Lib.hid (HB.out.trans (hb.mono HB.out.size))
      have HG2 := Lib.hid (HG.out.below hb)
      clear hb HX HO HG HB
      by_cases hm10 : m ≤ 10
      · obtain ⟨he, hud⟩ := H1.out hm10
        have hmi : (50 : Int) + m ≤ 60 := by omega
        clear H1 H2
        rcases hcase with ⟨f, ev, hf, -, -⟩ | ⟨-, x, rfl, hu⟩
        · rw [HE.out, he] at hf; cases hf
        · have HU := Lib.hid hu
          have HUD := Lib.hid hud
          clear hu hud he HE
          obtain ⟨xk, xnm, xot, xb, xao, xn, xq, xko, xkn, xkc, xln, xcl⟩ := x
          simp only [xv]
          go_upto_region 17 with fail
          obtain ⟨w3, hw⟩ : ∃ z, z = w2.alloc (.cells #[.int .i64 xk, .string xnm, .string xot, .bool xb, .slice xao xn xq, .slice xko xkn xkc, .int .i64 xln, .int .i64 xcl] 30) := ⟨_, rfl⟩
          have hb : Below w2.heap.size w2 w3 := by rw [hw]; exact (Below.refl _ _).alloc (Nat.le_refl _) _
          have hk3 : w3.heap[w2.heap.size]? = some (.cells #[.int .i64 xk, .string xnm, .string xot, .bool xb, .slice xao xn xq, .slice xko xkn xkc, .int .i64 xln, .int .i64 xcl] 30 (0, 0)) := by rw [hw]; exact made_at w2 _ _ rfl
          rw [← hw]
          have x0 := cell_at hk3 0 rfl
          have x1 := cell_at hk3 1 rfl
          have x2 := cell_at hk3 2 rfl
          have x3 := cell_at hk3 3 rfl
          have x4 := cell_at hk3 4 rfl
          have x5 := cell_at hk3 5 rfl
          have x6 := cell_at hk3 6 rfl
          have x7 := cell_at hk3 7 rfl
          have HB3 := Lib.hid (HB2.out.trans (hb.mono HB2.out.size))
          replace HU := Lib.hid (HU.out.below hb)
          clear hw hb hk3
          go_wp2_with fail
          refine (depth_p 100 (by decide) ⟨xk, xnm, xot, xb, xao, xn, xq, xko, xkn, xkc, xln, xcl⟩ r.1 w3 _ HU.out (by have := HUD.out; omega)).mono ?_
          rintro e w4 ⟨rfl, hb⟩
          have HB4 := Lib.hid (HB3.out.trans (hb.mono HB3.out.size))
          clear hb x0 x1 x2 x3 x4 x5 x6 x7
          rw [HUD.out]
          have hq : (((50 + m : Nat) : Int) == 50 + (m : Int)) = true := by simp
          go_wp2
          go_ret
          exact ⟨rfl, HB4.out⟩
      · have he := H2.out (by omega)
        have hmi : ¬ ((50 : Int) + m ≤ 60) := by omega
        clear H1 H2
        rcases hcase with ⟨f, ev, hf, rfl, q, rfl, hA⟩ | ⟨hf, -⟩
        · rw [HE.out, he] at hf
          injection hf with hf
          subst hf
          have HA := Lib.hid hA
          clear hA he HE
          go_upto_region 17 with fail
          obtain ⟨w3, hw⟩ : ∃ z, z = w2.alloc (.cells #[.int .i64 0, .string ⟨#[]⟩, .string ⟨#[]⟩, .bool false, .slice none 0 0, .slice none 0 0, .int .i64 0, .int .i64 0] 30) := ⟨_, rfl⟩
          have hb : Below w2.heap.size w2 w3 := by rw [hw]; exact (Below.refl _ _).alloc (Nat.le_refl _) _
          have hk3 : w3.heap[w2.heap.size]? = some (.cells #[.int .i64 0, .string ⟨#[]⟩, .string ⟨#[]⟩, .bool false, .slice none 0 0, .slice none 0 0, .int .i64 0, .int .i64 0] 30 (0, 0)) := by rw [hw]; exact made_at w2 _ _ rfl
          rw [← hw]
          have HK3 := Lib.hid hk3
          have HB3 := Lib.hid (HB2.out.trans (hb.mono HB2.out.size))
          replace HG2 := Lib.hid (HG2.out.below hb)
          replace HA := Lib.hid ((hb.block _ (lt_of_block HA.out)).trans HA.out)
          clear hw hb hk3
          go_wp2_with fail
          refine (fault_at q (1, 2) 2 (.inr rfl) w3 HG2.out HA.out).mono ?_
          rintro e w4 ⟨rfl, hb⟩
          have x5 := cell_at ((hb.block _ (lt_of_block HK3.out)).trans HK3.out) 5 rfl
          have HB4 := Lib.hid (HB3.out.trans (hb.mono HB3.out.size))
          clear hb
          go_wp2
          go_ret
          exact ⟨rfl, HB4.out⟩
        · rw [HE.out, he] at hf; cases hf
end Go.Proofs.YtdpfgfkoboihcaaDoor
