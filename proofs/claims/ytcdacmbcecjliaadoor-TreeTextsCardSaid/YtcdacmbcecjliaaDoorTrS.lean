/-
  The contract of the laws' helper strip.
-/
import Derived.Test.YtcdacmbcecjliaaDoorTrV
import Derived.Test.YtcdacmbcecjliaaDoorTrD
import Derived.Lib.ConvBytes
namespace Go.Proofs.YtcdacmbcecjliaaDoor
open Go.RowKit
set_option linter.unusedVariables false
set_option maxRecDepth 100000

theorem strip_take (l : Bs) (j : Nat) (h : j < l.length) : strip (l.take (j + 1)) = strip (l.take j) ++ (if kp l[j] then [l[j]] else []) := by
  rw [List.take_succ_eq_append_getElem h, strip_app]
  congr 1
  simp only [strip, List.filter_cons, List.filter_nil]
theorem strip_len (l : Bs) : (strip l).length ≤ l.length := List.length_filter_le ..
theorem bytesWorld_below (w : World) (e : TypeId) (s : ByteArray) : Below w.heap.size w (Lib.bytesWorld w e s) := by
  refine ⟨rfl, rfl, rfl, by rw [Lib.bytesWorld_size]; omega, fun k hk => Lib.bytesWorld_at_old w e s k hk⟩
theorem kp_int (c : UInt8) (v : Int) (hv : v = (c.toNat : Int)) : kp c = ((v != 40) && (v != 41) && (v != 32)) := by
  subst hv
  have e : ∀ n : UInt8, (c != n) = (((c.toNat : Int)) != (n.toNat : Int)) := fun n => by
    rw [Bool.eq_iff_iff, bne_iff_ne, bne_iff_ne]
    constructor
    · intro h h2; exact h (UInt8.toNat_inj.1 (by omega))
    · intro h h2; exact h (by rw [h2])
  unfold kp
  rw [e 40, e 41, e 32]; rfl

set_option maxHeartbeats 4000000 in
theorem strip_any (l : Bs) (hl : l.length ≤ 1000000) (w : World) :
    Calls Tryd.prog 16 #[.string ⟨l.toArray⟩] w fun e w' => e = .returned (.string ⟨(strip l).toArray⟩) ∧ Below w.heap.size w w' := by
  have hcv := Lib.run_convert_string_bytes (P := Tryd.prog) w 9 60 5 ⟨l.toArray⟩ (u := .string) Tryd.underlying9 Tryd.underlying60 Tryd.underlying5
  have hB : ∀ j (h : j < l.length), (Lib.bytesWorld w 5 ⟨l.toArray⟩).cell? ⟨w.heap.size, j, none⟩ = some (.int .u8 (l[j].toNat : Int)) := fun j hj => by
    rw [Lib.bytesWorld_cell w 5 ⟨l.toArray⟩ j hj]; simp [List.getD, hj]
  have hbw := bytesWorld_below w 5 ⟨l.toArray⟩
  have hsz : (⟨l.toArray⟩ : ByteArray).size = l.length := rfl
  rw [hsz] at hcv
  have hs1 : (Lib.bytesWorld w 5 ⟨l.toArray⟩).heap.size = w.heap.size + 1 := Lib.bytesWorld_size ..
  obtain ⟨w1, hw1⟩ : ∃ w1, w1 = Lib.bytesWorld w 5 ⟨l.toArray⟩ := ⟨_, rfl⟩
  rw [← hw1] at hcv hB hbw hs1
  clear hw1
  generalize hcap : grownCap w l.length 0 5 = cap at hcv
  generalize hk1 : w.heap.size = k1 at hcv hB
  have HB := Lib.hid hB
  have HBW := Lib.hid hbw
  have HS1 := Lib.hid hs1
  have HK1 := Lib.hid hk1
  clear hB hbw hs1 hcap hk1
  go_enter Tryd.func16, Tryd.ntmps16
  go_wp2_with fail
  go_loopw [3, 5, 9] (fun o c i wr => ∃ j : Nat, o = .string ⟨(strip (l.take j)).toArray⟩ ∧ i = .int .i64 (j : Nat) ∧ j ≤ l.length ∧ Below w1.heap.size w1 wr) (fun _ _ i _ => l.length - (intOf i).toNat)
  case atStart => exact ⟨0, rfl, rfl, Nat.zero_le _, Below.refl _ _⟩
  case round =>
    obtain ⟨j, rfl, rfl, hj, hb⟩ := hrel
    have HR := Lib.hid hb
    clear hb
    by_cases hlt : j < l.length
    · have hc : wr.cell? ⟨k1, j, none⟩ = some (.int .u8 (l[j].toNat : Int)) := by rw [HR.out.cell (cell_lt (HB.out j hlt))]; exact HB.out j hlt
      have hst := strip_take l j hlt
      have hln := strip_len (l.take j)
      have hs2 : (⟨(strip (l.take j)).toArray⟩ : ByteArray).size = (strip (l.take j)).length := rfl
      have htl : (l.take j).length = j := by simp; omega
      obtain ⟨v, hv⟩ : ∃ v : Int, v = (l[j].toNat : Int) := ⟨_, rfl⟩
      rw [← hv] at hc
      have hkp := kp_int l[j] v hv
      have hcb := one_byte v l[j] hv wr
      by_cases hkeep : kp l[j] = true
      · rw [hkeep] at hkp
        rw [if_pos hkeep] at hst
        obtain ⟨⟨h40, h41⟩, h32⟩ : ((v != 40) = true ∧ (v != 41) = true) ∧ (v != 32) = true := by simpa using hkp.symm
        have HST := Lib.hid hst
        have HV := Lib.hid hv
        clear hst hv hkp hkeep
        go_wp2_with fail
        exact ⟨⟨j + 1, by rw [HST.out]; exact congrArg Value.string (ByteArray.mk_append_mk _ [l[j]]), by go_num, by omega, HR.out.alloc HR.out.size _⟩, by simp [intOf]; omega⟩
      · have hkf : kp l[j] = false := by simpa using hkeep
        rw [hkf] at hkp
        rw [if_neg hkeep, List.append_nil] at hst
        have HST := Lib.hid hst
        have HV := Lib.hid hv
        have hcases : (v != 40) = false ∨ ((v != 40) = true ∧ (v != 41) = false) ∨ ((v != 40) = true ∧ (v != 41) = true ∧ (v != 32) = false) := by
          cases h1 : (v != 40) <;> cases h2 : (v != 41) <;> cases h3 : (v != 32) <;> simp_all
        clear hst hv hkp hkeep hkf hcb
        rcases hcases with h40 | ⟨h40, h41⟩ | ⟨h40, h41, h32⟩
        all_goals
          go_wp2_with fail
          exact ⟨⟨j + 1, by rw [HST.out], by go_num, by omega, HR.out⟩, by simp [intOf]; omega⟩
    · have e : j = l.length := by omega
      subst e
      go_wp2_with fail
      go_ret
      exact ⟨by rw [List.take_length]; rfl, by rw [← HK1.out]; exact HBW.out.trans (HR.out.mono HBW.out.size)⟩
end Go.Proofs.YtcdacmbcecjliaaDoor
