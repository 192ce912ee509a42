/-
  The laws' anchor of layer 6: 1 - 2 - 3 is read from the left.
-/
import Derived.Test.YtdpfgfkoboihcaaDoorPsV
namespace Go.Proofs.YtdpfgfkoboihcaaDoor
open Go.RowKit
set_option maxRecDepth 1000000
set_option linter.unusedVariables false

theorem add0 (a : Addr) : a.add 0 = a := by unfold Addr.add; split <;> simp_all
def fitT : Bs := [49, 32, 45, 32, 50, 32, 45, 32, 51]
def fitR : U × St := (.node 11 [] [] 0 1 7 [.node 11 [] [] 0 1 3 [.node 0 [] [] 1 1 1 [], .node 0 [] [] 2 1 5 []], .node 0 [] [] 3 1 9 []], ⟨[⟨4, [], 1, 10⟩], none⟩)
theorem fit_lx : lexN 20 fitT (1, 1) = ([⟨1, [49], 1, 1⟩, ⟨2, [45], 1, 3⟩, ⟨1, [50], 1, 5⟩, ⟨2, [45], 1, 7⟩, ⟨1, [51], 1, 9⟩, ⟨4, [], 1, 10⟩], 0) := by kernel_rfl
theorem fit_c : cAll 600 ⟨[⟨1, [49], 1, 1⟩, ⟨2, [45], 1, 3⟩, ⟨1, [50], 1, 5⟩, ⟨2, [45], 1, 7⟩, ⟨1, [51], 1, 9⟩, ⟨4, [], 1, 10⟩], none⟩ = some fitR := by kernel_rfl
theorem fit_st : st0 fitT = ⟨[⟨1, [49], 1, 1⟩, ⟨2, [45], 1, 3⟩, ⟨1, [50], 1, 5⟩, ⟨2, [45], 1, 7⟩, ⟨1, [51], 1, 9⟩, ⟨4, [], 1, 10⟩], none⟩ := by
  unfold st0; rw [← lexN_eq 20 _ _ (by decide), fit_lx]
theorem fit_ex : exF fitT fitR = none := by
  unfold exF lexF; rw [← lexN_eq 20 _ _ (by decide), fit_lx]; decide

set_option maxHeartbeats 4000000 in
theorem fit_p (w : World) (hop : OpsAt w) : Calls Tryd.prog 4 #[] w fun e w' => e = .returned (.bool true) ∧ Below w.heap.size w w' := by
  have HX := Lib.hid (exprs_p 600 (by decide) fitT fitR w (by decide) hop (fun _ => by rw [fit_st]; exact fit_c))
  clear hop
  go_enter Tryd.func4, Tryd.ntmps4
  go_wp2_with fail
  refine HX.out.mono ?_
  rintro e w1 ⟨hb, hcase⟩
  rcases hcase with ⟨f, ev, hf, -, -⟩ | ⟨-, x, rfl, hu⟩
  · rw [fit_ex] at hf; cases hf
  · have HB := Lib.hid hb
    clear hb HX
    obtain ⟨xk, xnm, xot, xb, xao, xn, xq, xko, xkn, xkc, xln, xcl⟩ := x
    rw [fitR, Um] at hu
    obtain ⟨⟨e1, e2, e3, e4, e5, e6⟩, -, ⟨h4, h5, h6⟩, h7⟩ := hu
    obtain ⟨y, ⟨a, ha, hc⟩, hy⟩ := ums_get 0 0 h7 (show 0 < 2 by decide)
    clear h7
    simp only at e1 e2 e3 e4 e5 e6 h4 h5 h6 ha
    obtain ⟨yk, ynm, yot, yb, yao, yn, yq, yko, ykn, ykc, yln, ycl⟩ := y
    simp only [List.getElem_cons_zero] at hy
    rw [Um] at hy
    obtain ⟨⟨y1, -, -, -, -, -⟩, -, ⟨y4, -, -⟩, -⟩ := hy
    obtain ⟨c0, c1, c2, c3, c4, c5, c6, c7⟩ := cells8 hc
    simp only [List.length_cons, List.length_nil] at e1 e6 h4 y1 y4
    subst e1 e2 e3 e4 e5 e6 h4 y1 y4 ha
    clear hc c1 c2 c3 c4 c6 c7
    simp only [Nat.zero_add, Nat.zero_mul, add0] at c0 c5
    have ha1 : a.block < w1.heap.size := cell_lt c0
    simp only [xv]
    go_upto_region 2 with fail
    obtain ⟨w2, hw⟩ : ∃ z, z = w1.alloc (.cells #[.int .i64 11, .string ⟨#[]⟩, .string ⟨#[]⟩, .bool false, .slice xao xn xq, .slice (some a) 2 xkc, .int .i64 1, .int .i64 7] 30) := ⟨_, rfl⟩
    have hb : Below w1.heap.size w1 w2 := by rw [hw]; exact (Below.refl _ _).alloc (Nat.le_refl _) _
    have hk : w2.heap[w1.heap.size]? = some (.cells #[.int .i64 11, .string ⟨#[]⟩, .string ⟨#[]⟩, .bool false, .slice xao xn xq, .slice (some a) 2 xkc, .int .i64 1, .int .i64 7] 30 (0, 0)) := by rw [hw]; exact made_at w1 _ _ rfl
    rw [← hw]
    replace c0 := (hb.cell ha1).trans c0
    replace c5 := (hb.cell (show (a.add 5).block < w1.heap.size by rw [add_block]; exact ha1)).trans c5
    rw [show a.add 5 = ⟨a.block, a.off + 5, none⟩ from rfl] at c5
    have x0 := cell_at hk 0 rfl
    have x5 := cell_at hk 5 rfl
    have x7 := cell_at hk 7 rfl
    have HB2 := Lib.hid (HB.out.trans (hb.mono HB.out.size))
    clear hw hk hb ha1
    go_wp2
    go_ret
    exact ⟨rfl, HB2.out⟩
end Go.Proofs.YtdpfgfkoboihcaaDoor
