/-
  strconv.Itoa, of every int.
-/
import Derived.Test.YtbkeildnhimfbaaDoorShelfB
import Derived.Test.YtbkeildnhimfbaaDoorWhoG
namespace Go.Proofs.YtbkeildnhimfbaaDoor
open Go.RowKit Go.Sort Go.Lib
set_option maxRecDepth 100000

theorem itoa_z (n : Int) : Lib.itoa n = zText n := by
  unfold Lib.itoa zText
  split
  · rfl
  · rw [show n.toNat = n.natAbs by omega]
theorem itoa_any (n : Int) (w : World) (h0 : -9223372036854775808 ≤ n) (h1 : n ≤ 9223372036854775807) (htab : Lib.TabIs Tryd.prog w "internal/strconv.uint64pow10" .u64 Lib.pow10Tab) :
    Calls Tryd.prog 29 #[.int .i64 n] w fun e w' => e = .returned (.string ⟨(zText n).toArray⟩) ∧ Below w.heap.size w w' :=
  (Tryd.strconv_Itoa n h0 h1 w htab).mono fun e w' ⟨he, k, os, hw⟩ => ⟨by rw [he, itoa_z], by
    subst hw
    exact ⟨rfl, rfl, rfl, by show w.heap.size ≤ (w.heap ++ os).size; rw [Array.size_append]; omega, fun i hi => heap_grow_old w os hi⟩⟩
end Go.Proofs.YtbkeildnhimfbaaDoor
