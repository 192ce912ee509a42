/-
  What the walks of the laws of integers share.
-/
import Derived.Test.YtbkeildnhimfbaaDoorWhoT
namespace Go.Proofs.YtbkeildnhimfbaaDoor
open Go.RowKit
set_option maxRecDepth 100000

theorem rowsI_1 {w : World} {g : Nat} {T : TypeId} {b0 : Bool} {o0 : Option Addr} {n0 c0 : Nat} (h : w.heap[g]? = some (.cells #[.bool b0, .slice o0 n0 c0] T (0, 0))) : RowsI w g 1 (fun _ => n0) := by
  intro j hj
  match j, hj with
  | 0, _ => exact ⟨_, _, _, by rw [cell_of_row w g 0 _ T (0, 0) h]; rfl, by rw [cell_of_row w g 1 _ T (0, 0) h]; rfl⟩
theorem rowsI_2 {w : World} {g : Nat} {T : TypeId} {b0 b1 : Bool} {o0 o1 : Option Addr} {n0 c0 n1 c1 : Nat} (h : w.heap[g]? = some (.cells #[.bool b0, .slice o0 n0 c0, .bool b1, .slice o1 n1 c1] T (0, 0))) : RowsI w g 2 (three n0 n1 0) := by
  intro j hj
  match j, hj with
  | 0, _ => exact ⟨_, _, _, by rw [cell_of_row w g 0 _ T (0, 0) h]; rfl, by rw [cell_of_row w g 1 _ T (0, 0) h]; rfl⟩
  | 1, _ => exact ⟨_, _, _, by rw [cell_of_row w g 2 _ T (0, 0) h]; rfl, by rw [cell_of_row w g 3 _ T (0, 0) h]; rfl⟩
theorem rowsI_3 {w : World} {g : Nat} {T : TypeId} {b0 b1 b2 : Bool} {o0 o1 o2 : Option Addr} {n0 c0 n1 c1 n2 c2 : Nat} (h : w.heap[g]? = some (.cells #[.bool b0, .slice o0 n0 c0, .bool b1, .slice o1 n1 c1, .bool b2, .slice o2 n2 c2] T (0, 0))) : RowsI w g 3 (three n0 n1 n2) := by
  intro j hj
  match j, hj with
  | 0, _ => exact ⟨_, _, _, by rw [cell_of_row w g 0 _ T (0, 0) h]; rfl, by rw [cell_of_row w g 1 _ T (0, 0) h]; rfl⟩
  | 1, _ => exact ⟨_, _, _, by rw [cell_of_row w g 2 _ T (0, 0) h]; rfl, by rw [cell_of_row w g 3 _ T (0, 0) h]; rfl⟩
  | 2, _ => exact ⟨_, _, _, by rw [cell_of_row w g 4 _ T (0, 0) h]; rfl, by rw [cell_of_row w g 5 _ T (0, 0) h]; rfl⟩

theorem wcmp_s (va vb : Value) (y z : Int) (k1 k2 : Nat) (s : Int) (w : World) (hx : GI w va y k1) (hy : GI w vb z k2) (hs : sgnZ (y - z) = s) (h1 : k1 ≤ 1000000) (h2 : k2 ≤ 1000000) :
    Calls Tryd.prog 20 #[va, vb] w fun e w' => e = .returned (.int .i64 s) ∧ Below w.heap.size w w' := by
  subst hs; exact wcmp_any va vb y z k1 k2 w hx hy h1 h2
theorem wsign_s (va : Value) (z : Int) (k : Nat) (s : Int) (w : World) (hx : GI w va z k) (hs : sgnZ z = s) (hk : k ≤ 1000000) :
    Calls Tryd.prog 23 #[va] w fun e w' => e = .returned (.int .i64 s) ∧ Below w.heap.size w w' := by
  subst hs; exact wsign_any va z k w hx hk
theorem rzcmp_s (va vb : Value) (y z : Int) (s : Int) (w : World) (hx : RI w va y) (hy : RI w vb z) (hs : sgnZ (y - z) = s) (h1 : bl y.natAbs ≤ 1000000) (h2 : bl z.natAbs ≤ 1000000) :
    Calls Tryd.prog 21 #[va, vb] w fun e w' => e = .returned (.int .i64 s) ∧ Below w.heap.size w w' := by
  subst hs; exact rzcmp_any va vb y z w hx hy h1 h2
/-- The short test, in a block that was made for it. -/
theorem short_t1 {z : Int} (most : Nat) {b0 : Bool} {o0 : Option Addr} {n0 c0 : Nat} {T : TypeId} (w : World) (hz : z = (most : Int)) (l0 : n0 ≤ most) :
    Calls Tryd.prog 11 #[.int .i64 z, .slice (some ⟨w.heap.size, 0, none⟩) 1 1] (w.alloc (.cells #[.bool b0, .slice o0 n0 c0] T)) fun e w' => e = .returned (.bool true) ∧ Below w.heap.size w w' :=
  (wshort_true z most w.heap.size 1 _ _ hz (rowsI_1 (heap_alloc_new w _)) (by omega) (by simp) (fun _ _ => l0)).mono fun _ _ ⟨he, hb⟩ => ⟨he, trans2 hb ((Below.refl _ _).alloc (Nat.le_refl _) _)⟩
theorem short_t2 {z : Int} (most : Nat) {b0 b1 : Bool} {o0 o1 : Option Addr} {n0 c0 n1 c1 : Nat} {T : TypeId} (w : World) (hz : z = (most : Int)) (l0 : n0 ≤ most) (l1 : n1 ≤ most) :
    Calls Tryd.prog 11 #[.int .i64 z, .slice (some ⟨w.heap.size, 0, none⟩) 2 2] (w.alloc (.cells #[.bool b0, .slice o0 n0 c0, .bool b1, .slice o1 n1 c1] T)) fun e w' => e = .returned (.bool true) ∧ Below w.heap.size w w' :=
  (wshort_true z most w.heap.size 2 _ _ hz (rowsI_2 (heap_alloc_new w _)) (by omega) (by simp) (fun j hj => by match j, hj with | 0, _ => exact l0 | 1, _ => exact l1)).mono fun _ _ ⟨he, hb⟩ => ⟨he, trans2 hb ((Below.refl _ _).alloc (Nat.le_refl _) _)⟩
theorem short_t3 {z : Int} (most : Nat) {b0 b1 b2 : Bool} {o0 o1 o2 : Option Addr} {n0 c0 n1 c1 n2 c2 : Nat} {T : TypeId} (w : World) (hz : z = (most : Int)) (l0 : n0 ≤ most) (l1 : n1 ≤ most) (l2 : n2 ≤ most) :
    Calls Tryd.prog 11 #[.int .i64 z, .slice (some ⟨w.heap.size, 0, none⟩) 3 3] (w.alloc (.cells #[.bool b0, .slice o0 n0 c0, .bool b1, .slice o1 n1 c1, .bool b2, .slice o2 n2 c2] T)) fun e w' => e = .returned (.bool true) ∧ Below w.heap.size w w' :=
  (wshort_true z most w.heap.size 3 _ _ hz (rowsI_3 (heap_alloc_new w _)) (by omega) (by simp) (fun j hj => by match j, hj with | 0, _ => exact l0 | 1, _ => exact l1 | 2, _ => exact l2)).mono fun _ _ ⟨he, hb⟩ => ⟨he, trans2 hb ((Below.refl _ _).alloc (Nat.le_refl _) _)⟩
theorem short_f1 {z : Int} (most : Nat) {b0 : Bool} {o0 : Option Addr} {n0 c0 : Nat} {T : TypeId} (w : World) (hz : z = (most : Int)) (h : ¬ n0 ≤ most) :
    Calls Tryd.prog 11 #[.int .i64 z, .slice (some ⟨w.heap.size, 0, none⟩) 1 1] (w.alloc (.cells #[.bool b0, .slice o0 n0 c0] T)) fun e w' => e = .returned (.bool false) ∧ Below w.heap.size w w' :=
  (wshort_false z most w.heap.size 1 _ _ hz (rowsI_1 (heap_alloc_new w _)) (by omega) (by simp) 0 (by omega) (by omega)).mono fun _ _ ⟨he, hb⟩ => ⟨he, trans2 hb ((Below.refl _ _).alloc (Nat.le_refl _) _)⟩
theorem short_f2 {z : Int} (most : Nat) {b0 b1 : Bool} {o0 o1 : Option Addr} {n0 c0 n1 c1 : Nat} {T : TypeId} (w : World) (hz : z = (most : Int)) (h : ¬ (n0 ≤ most ∧ n1 ≤ most)) :
    Calls Tryd.prog 11 #[.int .i64 z, .slice (some ⟨w.heap.size, 0, none⟩) 2 2] (w.alloc (.cells #[.bool b0, .slice o0 n0 c0, .bool b1, .slice o1 n1 c1] T)) fun e w' => e = .returned (.bool false) ∧ Below w.heap.size w w' := by
  obtain ⟨j, hj, hlj⟩ : ∃ j, j < 2 ∧ most < three n0 n1 0 j := by
    by_cases h1 : n0 ≤ most
    · exact ⟨1, by omega, by show most < n1; omega⟩
    · exact ⟨0, by omega, by show most < n0; omega⟩
  exact (wshort_false z most w.heap.size 2 _ _ hz (rowsI_2 (heap_alloc_new w _)) (by omega) (by simp) j hj hlj).mono fun _ _ ⟨he, hb⟩ => ⟨he, trans2 hb ((Below.refl _ _).alloc (Nat.le_refl _) _)⟩
theorem short_f3 {z : Int} (most : Nat) {b0 b1 b2 : Bool} {o0 o1 o2 : Option Addr} {n0 c0 n1 c1 n2 c2 : Nat} {T : TypeId} (w : World) (hz : z = (most : Int)) (h : ¬ (n0 ≤ most ∧ n1 ≤ most ∧ n2 ≤ most)) :
    Calls Tryd.prog 11 #[.int .i64 z, .slice (some ⟨w.heap.size, 0, none⟩) 3 3] (w.alloc (.cells #[.bool b0, .slice o0 n0 c0, .bool b1, .slice o1 n1 c1, .bool b2, .slice o2 n2 c2] T)) fun e w' => e = .returned (.bool false) ∧ Below w.heap.size w w' := by
  obtain ⟨j, hj, hlj⟩ : ∃ j, j < 3 ∧ most < three n0 n1 n2 j := by
    by_cases h1 : n0 ≤ most
    · by_cases h2 : n1 ≤ most
      · exact ⟨2, by omega, by show most < n2; omega⟩
      · exact ⟨1, by omega, by show most < n1; omega⟩
    · exact ⟨0, by omega, by show most < n0; omega⟩
  exact (wshort_false z most w.heap.size 3 _ _ hz (rowsI_3 (heap_alloc_new w _)) (by omega) (by simp) j hj hlj).mono fun _ _ ⟨he, hb⟩ => ⟨he, trans2 hb ((Below.refl _ _).alloc (Nat.le_refl _) _)⟩

/-- An argument: its sign and its limbs. -/
structure Arg (w : World) (b : Bool) (o : Option Addr) (n c : Nat) (xs : List Nat) : Prop where
  sl : Sl w .u32 (.slice o n c) xs
  dig : Dig L32 xs
theorem Arg.len {w : World} {b : Bool} {o : Option Addr} {n c : Nat} {xs : List Nat} (h : Arg w b o n c xs) : n = xs.length := sl_len h.sl
theorem Arg.gi {w : World} {b : Bool} {o : Option Addr} {n c : Nat} {xs : List Nat} (h : Arg w b o n c xs) {k : Nat} (hk : n ≤ k) : ∃ A, GI w (.agg #[.bool b, .slice o n c]) A k :=
  ⟨_, gi_mk (gn_of h.sl h.dig (by have := h.len; omega)) b⟩
end Go.Proofs.YtbkeildnhimfbaaDoor
