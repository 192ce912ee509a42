/-
  Two limbs of a uint64; how long a text is.
-/
import Derived.Test.YtbkeildnhimfbaaDoorParB
import Derived.Test.YtbkeildnhimfbaaDoorFmt
import Derived.Test.YtbkeildnhimfbaaDoorDgt
namespace Go.Proofs.YtbkeildnhimfbaaDoor
open Go.RowKit
set_option maxRecDepth 100000

theorem two_limbs {n : Nat} (h : n < 18446744073709551616) : Dig L32 [n % 4294967296, n / 4294967296] ∧ val L32 [n % 4294967296, n / 4294967296] = n := by
  refine ⟨?_, ?_⟩
  · intro x hx
    simp only [List.mem_cons, List.not_mem_nil, or_false] at hx
    rcases hx with rfl | rfl
    · exact Nat.mod_lt _ (by decide)
    · exact Nat.div_lt_of_lt_mul (by show n < 4294967296 * 4294967296; omega)
  · show n % 4294967296 + 4294967296 * (n / 4294967296 + 4294967296 * 0) = n
    omega
theorem two_blk (w : World) (n : Nat) : Blk (w.alloc (.cells #[.int .u32 ((n : Int) % 4294967296), .int .u32 ((n : Int) / 4294967296)] 72)) w.heap.size .u32 72 [n % 4294967296, n / 4294967296] := by
  unfold Blk
  rw [heap_alloc_new]
  simp
theorem text_len {n k : Nat} (h : n < L32 ^ k) (hk : 0 < k) (hk2 : k ≤ 30) : (Lib.decDigits n).length ≤ 300 := by
  have h1 : L32 ^ k ≤ 10 ^ (10 * k) := by rw [Nat.pow_mul]; exact Nat.pow_le_pow_left (by decide) _
  have := decDigits_len (Nat.lt_of_lt_of_le h h1) (by omega)
  omega

end Go.Proofs.YtbkeildnhimfbaaDoor
