/-
  Small numbers' texts.
-/
import Derived.Test.YtbkeildnhimfbaaDoorTextB
namespace Go.Proofs.YtbkeildnhimfbaaDoor
open Go.RowKit
set_option maxRecDepth 100000

theorem fmt_below100 (w0 : World) : FmtAt w0 (fun i => i < 100) := fun w i z _ hz hi =>
  (fmt_small i z hz hi w).mono fun _ _ ⟨he, hw⟩ => ⟨he, by rw [← hw]; exact Below.refl _ _⟩

theorem dig_one {B n : Nat} (hB : 2 ≤ B) (h0 : 0 < n) (h : n < B) : dig B n = [n] := by
  rw [dig_pos hB h0, Nat.mod_eq_of_lt h, Nat.div_eq_of_lt h, dig_zero]

set_option maxHeartbeats 1000000 in
theorem text_small (va : Value) (n : Nat) (w : World) (h0 : 0 < n) (h : n < 10) (hx : Sl w .u32 va (dig L32 n)) :
    Calls Tryd.prog 52 #[va] w fun e w' => e = .returned (.string ⟨[UInt8.ofNat (48 + n)].toArray⟩) ∧ Below w.heap.size w w' := by
  have hv : val L32 (dig L32 n) = n := val_dig (by decide) n
  have e9 : dig G9 n = [n] := dig_one (by decide) h0 (by have hG : G9 = 1000000000 := rfl; omega)
  have e32 : (dig L32 n).length = 1 := by rw [dig_one (by decide) h0 (by have hG : L32 = 4294967296 := rfl; omega)]; rfl
  refine (text_gen (fun i => i < 100) va (dig L32 n) w (fmt_below100 w) hx (Dig_dig (by decide) _) (by omega) ?_ ?_).mono ?_
  · intro g _ hg
    rw [hv, e9] at hg
    have : g = n := by simpa using hg.symm
    omega
  · intro h2
    rw [hv, e9] at h2
    simp at h2
  · intro e w' ⟨he, hb⟩
    rw [hv, Lib.decDigits_one h] at he
    exact ⟨he, hb⟩

end Go.Proofs.YtbkeildnhimfbaaDoor
