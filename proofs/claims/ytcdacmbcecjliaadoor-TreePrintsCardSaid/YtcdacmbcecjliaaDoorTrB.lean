/-
  Contracts of package tree and of the laws' helpers: Size, Depth, count, Arity, Right.
-/
import Derived.Test.YtcdacmbcecjliaaDoorTrA
namespace Go.Proofs.YtcdacmbcecjliaaDoor
open Go.RowKit
set_option maxRecDepth 100000

theorem szs_take_le (ks : List T) (j : Nat) : szs (ks.take j) ≤ szs ks := by
  have := szs_app (ks.take j) (ks.drop j)
  rw [List.take_append_drop] at this; omega
theorem szs_bound {k : Nat} {nm ot : Bs} {z d : Nat} {ks : List T} (h : sz (T.node k nm ot z ks) ≤ 4 ^ (d + 1)) (hd : d + 1 ≤ 6) (j : Nat) (hj : j < ks.length) : szs (ks.take j) ≤ 4096 ∧ sz ks[j] ≤ 4096 := by
  have h1 : 4 ^ (d + 1) ≤ 4 ^ 6 := Nat.pow_le_pow_right (by decide) hd
  have h2 := szs_take_le ks (j + 1)
  rw [szs_take ks j hj] at h2
  rw [sz] at h
  omega

theorem dps_take_le (ks : List T) (j : Nat) : dps (ks.take j) ≤ dps ks := by
  have := dps_app (ks.take j) (ks.drop j)
  rw [List.take_append_drop] at this; omega
theorem dps_bound2 {k : Nat} {nm ot : Bs} {z d : Nat} {ks : List T} (h : dp (T.node k nm ot z ks) ≤ d + 1) (hd : d + 1 ≤ 6) : dps ks ≤ 6 := by
  rw [dp] at h
  omega
theorem dps_bound {k : Nat} {nm ot : Bs} {z d : Nat} {ks : List T} (h : dp (T.node k nm ot z ks) ≤ d + 1) (hd : d + 1 ≤ 6) (j : Nat) (hj : j < ks.length) : dps (ks.take j) ≤ 6 ∧ dp ks[j] ≤ 6 := by
  have h2 := dps_take_le ks (j + 1)
  rw [dps_take ks j hj] at h2
  rw [dp] at h
  omega
theorem max_val (a b : Nat) : Value.int .i64 (max (a : Int) b) = .int .i64 ((max a b : Nat) : Int) := by congr 1; omega

set_option maxHeartbeats 2000000 in
theorem size_any (d : Nat) (hd : d ≤ 6) (x : X) (t : T) (w : World) (S : Nat → Prop) (h : Tr w S d x t) (ho : Ok d t) :
    Calls Tryd.prog 9 #[xv x] w fun e w' => e = .returned (.int .i64 (sz t : Nat)) ∧ Below w.heap.size w w' := by
  induction d generalizing x t w with
  | zero => exact absurd h id
  | succ d ih =>
    obtain ⟨k, nm, ot, z, ks⟩ := t
    have hsz := sz_le (d + 1) _ ho
    obtain ⟨hk, hn, hoo, hz, ha, hl, hks⟩ := ho
    obtain ⟨⟨e1, e2, e3, e4⟩, ⟨h2, h3⟩, ⟨h4, h5, h6⟩, h7⟩ := h
    obtain ⟨xk, xnm, xot, xb, xao, xn, xc, xko, xkn, xkc, xln, xcl⟩ := x
    simp only at e1 e2 e3 e4 h2 h3 h4 h5 h6 h7
    have HK := Lib.hid h7
    clear h7
    subst e1 e2 e3 e4
    subst h4
    have IH := Lib.hid ih
    have HKS := Lib.hid hks
    clear h2 h3 h6 ih ha hks
    simp only [xv]
    go_enter Tryd.func9, Tryd.ntmps9
    go_wp2_with fail
    go_loopw [3, 9] (fun n i wr => ∃ j : Nat, n = .int .i64 ((1 + szs (ks.take j) : Nat) : Int) ∧ i = .int .i64 (j : Nat) ∧ j ≤ ks.length ∧ Below w.heap.size w wr) (fun _ i _ => ks.length - (intOf i).toNat)
    case atStart => exact ⟨0, rfl, rfl, Nat.zero_le _, (Below.refl _ _).alloc (Nat.le_refl _) _⟩
    case round =>
      obtain ⟨j, rfl, rfl, hj, hb⟩ := hrel
      by_cases hlt : j < ks.length
      · obtain ⟨y, hA, hT⟩ := HK.out j hlt
        have hT' := hT.below hb
        obtain ⟨a, rfl, hc⟩ := hA.keep fun a ha => hb.block _ (hA.lt a ha)
        obtain ⟨c0, c1, c2, c3, c4, c5, c6, c7⟩ := cells8 hc
        have hbd := szs_bound hsz hd j hlt
        have HB := Lib.hid hb
        have HT := Lib.hid hT'
        clear hc hA hT hT' hb
        go_wp2_with fail
        refine (IH.out (by omega) y _ _ (HT.out.alloc _) (HKS.out _ (List.getElem_mem hlt))).mono ?_
        rintro e w2 ⟨rfl, hb2⟩
        have HB2 := Lib.hid hb2
        clear hb2 c0 c1 c2 c3 c4 c5 c6 c7
        go_wp2_with fail
        go_roundw
        case rel => exact ⟨j + 1, by rw [szs_take ks j hlt]; go_num, by go_num, by omega, (HB.out.alloc HB.out.size _).trans (HB2.out.mono (by have := HB.out.size; simp; omega))⟩
        case measure => simp [intOf]; omega
      · have e : j = ks.length := by omega
        subst e
        have HB := Lib.hid hb
        clear hb
        go_wp2_with fail
        go_ret
        refine ⟨?_, HB.out⟩
        rw [List.take_length, sz]; rfl
set_option maxHeartbeats 2000000 in
theorem depth_any (d : Nat) (hd : d ≤ 6) (x : X) (t : T) (w : World) (S : Nat → Prop) (h : Tr w S d x t) (ho : Ok d t) :
    Calls Tryd.prog 10 #[xv x] w fun e w' => e = .returned (.int .i64 (dp t : Nat)) ∧ Below w.heap.size w w' := by
  induction d generalizing x t w with
  | zero => exact absurd h id
  | succ d ih =>
    obtain ⟨k, nm, ot, z, ks⟩ := t
    have hsz := dp_le (d + 1) _ ho
    obtain ⟨hk, hn, hoo, hz, ha, hl, hks⟩ := ho
    obtain ⟨⟨e1, e2, e3, e4⟩, ⟨h2, h3⟩, ⟨h4, h5, h6⟩, h7⟩ := h
    obtain ⟨xk, xnm, xot, xb, xao, xn, xc, xko, xkn, xkc, xln, xcl⟩ := x
    simp only at e1 e2 e3 e4 h2 h3 h4 h5 h6 h7
    have HK := Lib.hid h7
    clear h7
    subst e1 e2 e3 e4
    subst h4
    have IH := Lib.hid ih
    have HKS := Lib.hid hks
    clear h2 h3 h6 ih ha hks
    simp only [xv]
    go_enter Tryd.func10, Tryd.ntmps10
    go_wp2_with fail
    go_loopw [3, 9] (fun n i wr => ∃ j : Nat, n = .int .i64 ((dps (ks.take j) : Nat) : Int) ∧ i = .int .i64 (j : Nat) ∧ j ≤ ks.length ∧ Below w.heap.size w wr) (fun _ i _ => ks.length - (intOf i).toNat)
    case atStart => exact ⟨0, rfl, rfl, Nat.zero_le _, (Below.refl _ _).alloc (Nat.le_refl _) _⟩
    case round =>
      obtain ⟨j, rfl, rfl, hj, hb⟩ := hrel
      by_cases hlt : j < ks.length
      · obtain ⟨y, hA, hT⟩ := HK.out j hlt
        have hT' := hT.below hb
        obtain ⟨a, rfl, hc⟩ := hA.keep fun a ha => hb.block _ (hA.lt a ha)
        obtain ⟨c0, c1, c2, c3, c4, c5, c6, c7⟩ := cells8 hc
        have hbd := dps_bound hsz hd j hlt
        have HB := Lib.hid hb
        have HT := Lib.hid hT'
        clear hc hA hT hT' hb
        go_wp2_with fail
        refine (IH.out (by omega) y _ _ (HT.out.alloc _) (HKS.out _ (List.getElem_mem hlt))).mono ?_
        rintro e w2 ⟨rfl, hb2⟩
        have HB2 := Lib.hid hb2
        clear hb2 c0 c1 c2 c3 c4 c5 c6 c7
        go_wp2_with fail
        go_roundw
        case rel => exact ⟨j + 1, by rw [dps_take ks j hlt]; exact max_val _ _, by go_num, by omega, (HB.out.alloc HB.out.size _).trans (HB2.out.mono (by have := HB.out.size; simp; omega))⟩
        case measure => simp [intOf]; omega
      · have e : j = ks.length := by omega
        subst e
        have hbd := dps_bound2 hsz hd
        have HB := Lib.hid hb
        clear hb
        go_wp2_with fail
        go_ret
        refine ⟨?_, HB.out⟩
        rw [List.take_length, dp, Nat.add_comm]; rfl
set_option maxHeartbeats 2000000 in
theorem count_any (d : Nat) (hd : d ≤ 6) (x : X) (t : T) (w : World) (S : Nat → Prop) (h : Tr w S d x t) (ho : Ok d t) :
    Calls Tryd.prog 8 #[xv x] w fun e w' => e = .returned (.tuple #[.int .i64 (sz t : Nat), .int .i64 (dp t : Nat)]) ∧ Below w.heap.size w w' := by
  induction d generalizing x t w with
  | zero => exact absurd h id
  | succ d ih =>
    obtain ⟨k, nm, ot, z, ks⟩ := t
    have hsz := sz_le (d + 1) _ ho
    have hdp := dp_le (d + 1) _ ho
    obtain ⟨hk, hn, hoo, hz, ha, hl, hks⟩ := ho
    obtain ⟨⟨e1, e2, e3, e4⟩, ⟨h2, h3⟩, ⟨h4, h5, h6⟩, h7⟩ := h
    obtain ⟨xk, xnm, xot, xb, xao, xn, xc, xko, xkn, xkc, xln, xcl⟩ := x
    simp only at e1 e2 e3 e4 h2 h3 h4 h5 h6 h7
    have HK := Lib.hid h7
    clear h7
    subst e1 e2 e3 e4
    subst h4
    have IH := Lib.hid ih
    have HKS := Lib.hid hks
    clear h2 h3 h6 ih ha hks
    simp only [xv]
    go_enter Tryd.func8, Tryd.ntmps8
    go_wp2_with fail
    go_loopw [4, 5, 13] (fun n m i wr => ∃ j : Nat, n = .int .i64 ((1 + szs (ks.take j) : Nat) : Int) ∧ m = .int .i64 ((dps (ks.take j) : Nat) : Int) ∧ i = .int .i64 (j : Nat) ∧ j ≤ ks.length ∧ Below w.heap.size w wr) (fun _ _ i _ => ks.length - (intOf i).toNat)
    case atStart => exact ⟨0, rfl, rfl, rfl, Nat.zero_le _, (Below.refl _ _).alloc (Nat.le_refl _) _⟩
    case round =>
      obtain ⟨j, rfl, rfl, rfl, hj, hb⟩ := hrel
      by_cases hlt : j < ks.length
      · obtain ⟨y, hA, hT⟩ := HK.out j hlt
        have hT' := hT.below hb
        obtain ⟨a, rfl, hc⟩ := hA.keep fun a ha => hb.block _ (hA.lt a ha)
        obtain ⟨c0, c1, c2, c3, c4, c5, c6, c7⟩ := cells8 hc
        have hbd := szs_bound hsz hd j hlt
        have hbe := dps_bound hdp hd j hlt
        have HB := Lib.hid hb
        have HT := Lib.hid hT'
        clear hc hA hT hT' hb
        go_wp2_with fail
        refine (IH.out (by omega) y _ _ (HT.out.alloc _) (HKS.out _ (List.getElem_mem hlt))).mono ?_
        rintro e w2 ⟨rfl, hb2⟩
        have HB2 := Lib.hid hb2
        clear hb2 c0 c1 c2 c3 c4 c5 c6 c7
        go_wp2_with fail
        go_roundw
        case rel => exact ⟨j + 1, by rw [szs_take ks j hlt]; go_num, by rw [dps_take ks j hlt]; exact max_val _ _, by go_num, by omega, (HB.out.alloc HB.out.size _).trans (HB2.out.mono (by have := HB.out.size; simp; omega))⟩
        case measure => simp [intOf]; omega
      · have e : j = ks.length := by omega
        subst e
        have hbd := dps_bound2 hdp hd
        have HB := Lib.hid hb
        clear hb
        go_wp2_with fail
        go_ret2
        refine ⟨?_, HB.out⟩
        rw [List.take_length, sz, dp]; rfl
end Go.Proofs.YtcdacmbcecjliaaDoor
