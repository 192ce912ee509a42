/-
  Contracts of the laws' helpers word and Tame.
-/
import Derived.Test.YtcdacmbcecjliaaDoorTrC
import Derived.Laws.IdiomStrings
namespace Go.Proofs.YtcdacmbcecjliaaDoor
open Go.RowKit
set_option maxRecDepth 100000

/-- 'string([]byte{b})'. -/
theorem one_byte (v : Int) (b : UInt8) (hb : v = (b.toNat : Int)) (w : World) :
    (convert 60 9 (.slice (some ⟨w.heap.size, 0, none⟩) 1 1)).run Tryd.prog (w.alloc (.cells #[.int .u8 v] 5)) = .ok (.string ⟨#[b]⟩) (w.alloc (.cells #[.int .u8 v] 5)) := by
  subst hb
  refine run_convert_bytes_back (P := Tryd.prog) _ 60 9 5 ⟨w.heap.size, 0, none⟩ 1 [b] Tryd.underlying60 Tryd.underlying5 Tryd.underlying9 ?_
  intro j hj
  have : j = 0 := by simpa using hj
  subst this
  exact cell_of_row _ _ 0 _ _ (0, 0) (made_at w _ _ rfl)

def WordPost (w : World) (e : Ending) (w' : World) : Prop := ∃ l : Bs, (1 ≤ l.length ∧ l.length ≤ 2) ∧ e = .returned (.string ⟨l.toArray⟩) ∧ Below w.heap.size w w'

set_option maxHeartbeats 1000000 in
theorem word_any (s : ByteArray) (w : World) (hs : s.size ≤ 9223372036854775807) : Calls Tryd.prog 18 #[.string s] w (WordPost w) := by
  by_cases h0 : s.size = 0
  · have hz : (((s.size : Nat) : Int) == 0) = true := by rw [h0]; rfl
    have H0 := Lib.hid h0
    clear h0
    go_enter Tryd.func18, Tryd.ntmps18
    go_wp2
    go_ret
    exact ⟨[120], by decide, rfl, Below.refl _ _⟩
  · have hz : (((s.size : Nat) : Int) == 0) = false := by rw [beq_eq_false_iff_ne]; omega
    have hp : 0 < s.size := by omega
    have hc := one_byte ((97 : Int) + ((s[0]'hp).toNat : Int) % 26) (UInt8.ofNat (97 + (s[0]'hp).toNat % 26)) (by simp [UInt8.toNat_ofNat']; omega) w
    clear h0
    go_enter Tryd.func18, Tryd.ntmps18
    go_wp2_with fail
    go_ret
    exact ⟨([110, (97 : UInt8) + UInt8.ofNat ((s[0]'hp).toNat % 26)] : Bs), by simp, congrArg (fun b => Ending.returned (.string b)) (ByteArray.mk_append_mk [110] [_]), (Below.refl _ _).alloc (Nat.le_refl _) _⟩

set_option maxHeartbeats 1000000 in
theorem signed_f (ao : Option Addr) (n c : Nat) (w : World) :
    Calls Tryd.prog 21 #[.bool false, .slice ao n c] w fun e w' => e = .returned (.agg #[.bool false, .slice ao n c]) ∧ Below w.heap.size w w' := by
  go_enter Tryd.func21, Tryd.ntmps21
  go_wp2
  exact bodyPost_ret (v := .agg #[.bool false, .slice ao n c]) (by simp [results, Tryd.results21, go_sem]) rfl ⟨rfl, (Below.refl _ _).alloc (Nat.le_refl _) _⟩

def BigPost (z : Nat) (w : World) (e : Ending) (w' : World) : Prop := ∃ ao n c, e = .returned (.agg #[.bool false, .slice ao n c]) ∧ Sl w' .u32 (.slice ao n c) (dig L32 z) ∧ (n ≠ 0 → ∀ a, ao = some a → w.heap.size ≤ a.block) ∧ Below w.heap.size w w'

set_option maxHeartbeats 1000000 in
/-- A number's own copy: in memory of its own. -/
theorem big_f (ao : Option Addr) (l c : Nat) (xs : List Nat) (w : World) (hx : Sl w .u32 (.slice ao l c) xs) (dx : Dig L32 xs) (hk : xs.length ≤ 1000000) :
    Calls Tryd.prog 19 #[.bool false, .slice ao l c] w (BigPost (val L32 xs) w) := by
  have HX := Lib.hid hx
  have HD := Lib.hid dx
  clear hx dx
  go_enter Tryd.func19, Tryd.ntmps19
  go_wp2_with fail
  refine (trim_any _ xs _ (HX.out.below ((Below.refl _ _).alloc (Nat.le_refl _) _)) HD.out hk).mono ?_
  rintro e w1 ⟨v1, rfl, s1, hb1⟩
  have hB1 := (hb1.block w.heap.size (by simp)).trans (heap_alloc_new w _)
  have hb1t : Below w.heap.size w w1 := ((Below.refl _ _).alloc (Nat.le_refl _) _).trans (hb1.mono (by simp))
  have hsl := s1.sl
  obtain ⟨bo, bc, hv, h1, h2, h3, h4⟩ := s1
  subst hv
  have HF : Hid ((dig L32 (val L32 xs)).length ≠ 0 → ∀ a, bo = some a → w.heap.size ≤ a.block) := Lib.hid (fun h0 a ha => by
    obtain ⟨h5, -⟩ := h4 h0
    rw [ha] at h5; injection h5 with h5; subst h5; simp)
  have HS := Lib.hid hsl
  clear h4 hsl h1 h2 h3
  go_wp2_with fail
  refine (signed_f bo _ bc w1).mono ?_
  rintro e w2 ⟨rfl, hb2⟩
  have hB2 := (hb2.block w.heap.size (lt_of_block hB1)).trans hB1
  have hb2t : Below w.heap.size w w2 := hb1t.trans (hb2.mono hb1t.size)
  obtain ⟨q0, q1, f0, f1⟩ := two_cells hB2
  have HB := Lib.hid hB2
  have HS2 := Lib.hid (HS.out.below hb2)
  clear hB1 hB2
  go_wp2_with fail
  exact bodyPost_ret (v := .agg #[.bool false, .slice bo (dig L32 (val L32 xs)).length bc]) (by simp [results, Tryd.results19, go_sem, q0, q1]) rfl ⟨_, _, _, rfl, HS2.out.set2 HB.out _ _, HF.out, below_set2 hb2t (Nat.le_refl _) _ _⟩
end Go.Proofs.YtcdacmbcecjliaaDoor
