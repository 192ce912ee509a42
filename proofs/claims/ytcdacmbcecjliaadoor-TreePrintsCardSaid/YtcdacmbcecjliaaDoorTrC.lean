/-
  Contracts of Arity, isNatural, Right; the tables.
-/
import Derived.Test.YtcdacmbcecjliaaDoorTrB
import Derived.Test.YtcdacmbcecjliaaDoorKPar
namespace Go.Proofs.YtcdacmbcecjliaaDoor
open Go.RowKit
set_option maxRecDepth 100000

/-- What Arity says of a kind. -/
def arZ (k : Nat) : Int := if k = 24 then -1 else (ar k : Int)

/-- The package's tables lie where the program's start laid them. -/
structure Tabs (w : World) : Prop where
  p10 : Lib.TabIs Tryd.prog w "internal/strconv.uint64pow10" .u64 Lib.pow10Tab
  ar : ∀ i, i < 29 → w.cell? ⟨0, i, none⟩ = some (.int .i64 (arZ i))
  lv : ∀ i, i < 29 → w.cell? ⟨1, i, none⟩ = some (.int .i64 (lv i : Nat))
  sg : ∀ i, i < 24 → w.cell? ⟨2, i, none⟩ = some (.string ⟨(sg5 i).toArray⟩)
theorem Tabs.below {w w' : World} (h : Tabs w) (hb : Below w.heap.size w w') : Tabs w' :=
  ⟨tab_below h.p10 hb, fun i hi => by rw [hb.cell (cell_lt (h.ar i hi))]; exact h.ar i hi, fun i hi => by rw [hb.cell (cell_lt (h.lv i hi))]; exact h.lv i hi, fun i hi => by rw [hb.cell (cell_lt (h.sg i hi))]; exact h.sg i hi⟩

theorem arity_ok (k : Nat) (z : Int) (hk : k < 29) (hz : arZ k = z) (w : World) (ht : Tabs w) :
    Calls Tryd.prog 13 #[.int .i64 (k : Nat)] w fun e w' => e = .returned (.int .i64 z) ∧ w = w' := by
  have c := ht.ar k hk
  rw [hz] at c
  clear hz
  go_enter Tryd.func13, Tryd.ntmps13
  go_wp2
  go_ret
  exact ⟨rfl, rfl⟩
theorem arity_no (k : Int) (hk : k < 0 ∨ 29 ≤ k) (w : World) :
    Calls Tryd.prog 13 #[.int .i64 k] w fun e w' => e = .returned (.int .i64 (-2)) ∧ w = w' := by
  rcases hk with hk | hk
  · go_enter Tryd.func13, Tryd.ntmps13
    go_wp2
    go_ret
    exact ⟨rfl, rfl⟩
  · have h0 : ¬ k < 0 := by omega
    go_enter Tryd.func13, Tryd.ntmps13
    go_wp2
    go_ret
    exact ⟨rfl, rfl⟩

set_option maxHeartbeats 1000000 in
theorem isNat_yes (ao : Option Addr) (n c z : Nat) (w : World) (h : Sl w .u32 (.slice ao n c) (dig L32 z)) :
    Calls Tryd.prog 20 #[.agg #[.bool false, .slice ao n c]] w fun e w' => e = .returned (.bool true) ∧ Below w.heap.size w w' := by
  obtain ⟨ao', cap, e, h1, h2, h3, h4⟩ := h
  injection e with e1 e2 e3
  subst e1 e3 e2
  by_cases h0 : (dig L32 z).length = 0
  · have hz : (((dig L32 z).length : Int) == 0) = true := by rw [h0]; rfl
    have H0 := Lib.hid h0
    clear h0 h4
    go_enter Tryd.func20, Tryd.ntmps20
    go_wp2
    go_ret
    exact ⟨rfl, (Below.refl _ _).alloc (Nat.le_refl _) _⟩
  · obtain ⟨a, rfl, hc⟩ := h4 ((dig L32 z).length - 1) (by omega)
    have hl := dig_last (B := L32) (n := z) (by decide) (by omega)
    have hd := (Dig_dig (B := L32) (by decide) z).getD (by decide) ((dig L32 z).length - 1)
    have hp : nth (dig L32 z) ((dig L32 z).length - 1) ≠ 0 := by unfold nth; omega
    have hn : ((nth (dig L32 z) ((dig L32 z).length - 1)) != 0) = true := by simpa using hp
    have hca : (w.alloc (.cells #[.bool false, .slice (some a) (dig L32 z).length c] 26)).cell? (a.add ((dig L32 z).length - 1)) = some (.int .u32 (nth (dig L32 z) ((dig L32 z).length - 1))) := by
      rw [World.cell?_alloc_lt _ _ _ (cell_lt hc)]; exact hc
    have hz : (((dig L32 z).length : Int) == 0) = false := by rw [beq_eq_false_iff_ne]; omega
    have hp1 : 1 ≤ (dig L32 z).length := by omega
    clear h4 hc hl hd hp h0
    generalize nth (dig L32 z) ((dig L32 z).length - 1) = q at *
    generalize (dig L32 z).length = n at *
    go_enter Tryd.func20, Tryd.ntmps20
    go_wp2
    go_ret
    exact ⟨rfl, (Below.refl _ _).alloc (Nat.le_refl _) _⟩
theorem isNat_no (ao : Option Addr) (n c : Nat) (w : World) :
    Calls Tryd.prog 20 #[.agg #[.bool true, .slice ao n c]] w fun e w' => e = .returned (.bool false) ∧ Below w.heap.size w w' := by
  go_enter Tryd.func20, Tryd.ntmps20
  go_wp2
  go_ret
  exact ⟨rfl, (Below.refl _ _).alloc (Nat.le_refl _) _⟩

/-- The bool of a comparison, behind a name that the walk does not open. -/
theorem ar_ne (n : Nat) : (((n : Nat) : Int) != -1) = true := by simp

set_option maxHeartbeats 4000000 in
theorem right_any (d : Nat) (hd : d ≤ 6) (x : X) (t : T) (w : World) (S : Nat → Prop) (ht : Tabs w) (h : Tr w S d x t) (ho : Ok d t) :
    Calls Tryd.prog 11 #[xv x] w fun e w' => e = .returned (.bool true) ∧ Below w.heap.size w w' := by
  induction d generalizing x t w with
  | zero => exact absurd h id
  | succ d ih =>
    obtain ⟨k, nm, ot, z, ks⟩ := t
    obtain ⟨hk, hn, hoo, hz, ha, hl, hks⟩ := ho
    obtain ⟨⟨e1, e2, e3, e4⟩, ⟨h2, h3⟩, ⟨h4, h5, h6⟩, h7⟩ := h
    obtain ⟨xk, xnm, xot, xb, xao, xn, xc, xko, xkn, xkc, xln, xcl⟩ := x
    simp only at e1 e2 e3 e4 h2 h3 h4 h5 h6 h7
    subst e1 e2 e3 e4 h4
    have HK := Lib.hid h7
    have IH := Lib.hid ih
    have HKS := Lib.hid hks
    have HS := Lib.hid h2
    have HT := Lib.hid ht
    have AR : ∃ r : Int, arZ k = r ∧ ((r = -1) ∨ r = (ks.length : Int)) := by
      refine ⟨_, rfl, ?_⟩
      unfold arZ
      split
      · exact .inl rfl
      · rcases ha with ha | ha
        · exact absurd ha (by assumption)
        · exact .inr (by rw [ha])
    obtain ⟨r, hr, hr2⟩ := AR
    have HR := Lib.hid hr
    clear h2 h3 h6 ih ha hks h7 ht hr
    simp only [xv]
    have hbox : ∀ W : World, Below w.heap.size w W → Tabs W := fun W hb => HT.out.below hb
    have HBX := Lib.hid hbox
    clear hbox
    by_cases hk0 : k = 0
    · subst hk0
      have hl0 : ks.length = 0 := by
        rcases hr2 with e | e
        · have h0 := HR.out; rw [e] at h0; exact absurd h0 (by decide)
        · have h0 := HR.out; rw [e] at h0; unfold arZ at h0; rw [if_neg (by decide), show ar 0 = 0 from rfl] at h0; omega
      have HL := Lib.hid hl0
      have hr0 : r = 0 := by rw [← HR.out]; rfl
      subst hr0
      clear hr2 hl0 hl
      have hks0 : ks = [] := List.eq_nil_of_length_eq_zero HL.out
      subst hks0
      simp only [List.length_nil]
      go_enter Tryd.func11, Tryd.ntmps11
      go_wp2_with fail
      refine (arity_ok 0 0 hk HR.out _ (HBX.out _ ((Below.refl _ _).alloc (Nat.le_refl _) _))).mono ?_
      rintro e w1 ⟨rfl, rfl⟩
      go_wp2_with fail
      refine (isNat_yes xao xn xc z _ (HS.out.below ((Below.refl _ _).alloc (Nat.le_refl _) _))).mono ?_
      rintro e w1 ⟨rfl, hb1⟩
      have hcell : w1.cell? ⟨w.heap.size, 5, none⟩ = some (.slice xko 0 xkc) := by
        rw [hb1.cell (by simp)]; exact cell_of_row _ _ 5 _ _ (0, 0) (made_at w _ _ rfl)
      have HB0 := Lib.hid (((Below.refl w.heap.size w).alloc (Nat.le_refl _) _).trans (hb1.mono (by simp)))
      clear hb1
      go_wp2_with fail
      go_loopw [30] (fun i wr => i = .int .i64 0 ∧ Below w.heap.size w wr) (fun i _ => 0)
      case atStart => exact ⟨rfl, HB0.out⟩
      case round =>
        obtain ⟨rfl, hb⟩ := hrel
        have HB := Lib.hid hb
        clear hb
        go_wp2_with fail
        go_ret
        exact ⟨rfl, HB.out⟩
    · have hkz : (((k : Nat) : Int) == 0) = false := by rw [beq_eq_false_iff_ne]; omega
      have hne := ar_ne ks.length
      have HB0 := Lib.hid ((Below.refl w.heap.size w).alloc (Nat.le_refl _) (.cells #[.int .i64 (k : Nat), .string ⟨nm.toArray⟩, .string ⟨ot.toArray⟩, .bool false, .slice xao xn xc, .slice xko ks.length xkc, .int .i64 xln, .int .i64 xcl] 29))
      rcases hr2 with rfl | rfl
      · go_enter Tryd.func11, Tryd.ntmps11
        go_wp2_with fail
        refine (arity_ok k (-1) hk HR.out _ (HBX.out _ ((Below.refl _ _).alloc (Nat.le_refl _) _))).mono ?_
        rintro e w1 ⟨rfl, rfl⟩
        go_wp2_with fail
        go_loopw [30] (fun i wr => ∃ j : Nat, i = .int .i64 (j : Nat) ∧ j ≤ ks.length ∧ Below w.heap.size w wr) (fun i _ => ks.length - (intOf i).toNat)
        case atStart => exact ⟨0, rfl, Nat.zero_le _, HB0.out⟩
        case round =>
          obtain ⟨j, rfl, hj, hb⟩ := hrel
          by_cases hlt : j < ks.length
          · obtain ⟨y, hA, hT⟩ := HK.out j hlt
            have hT' := hT.below hb
            have hTb := HT.out.below hb
            obtain ⟨a, rfl, hc⟩ := hA.keep fun a ha => hb.block _ (hA.lt a ha)
            obtain ⟨c0, c1, c2, c3, c4, c5, c6, c7⟩ := cells8 hc
            have HB := Lib.hid hb
            have HTr := Lib.hid hT'
            have HTb := Lib.hid hTb
            clear hc hA hT hT' hb hTb
            go_wp2_with fail
            refine (IH.out (by omega) y _ _ (HTb.out.below ((Below.refl _ _).alloc (Nat.le_refl _) _)) (HTr.out.alloc _) (HKS.out _ (List.getElem_mem hlt))).mono ?_
            rintro e w2 ⟨rfl, hb2⟩
            have HB2 := Lib.hid hb2
            clear hb2 c0 c1 c2 c3 c4 c5 c6 c7
            go_wp2_with fail
            go_roundw
            case rel => exact ⟨j + 1, by go_num, by omega, (HB.out.alloc HB.out.size _).trans (HB2.out.mono (by have := HB.out.size; simp; omega))⟩
            case measure => simp [intOf]; omega
          · have e : j = ks.length := by omega
            subst e
            have HB := Lib.hid hb
            clear hb
            go_wp2_with fail
            go_ret
            exact ⟨rfl, HB.out⟩
      · go_enter Tryd.func11, Tryd.ntmps11
        go_wp2_with fail
        refine (arity_ok k _ hk HR.out _ (HBX.out _ ((Below.refl _ _).alloc (Nat.le_refl _) _))).mono ?_
        rintro e w1 ⟨rfl, rfl⟩
        go_wp2_with fail
        go_loopw [30] (fun i wr => ∃ j : Nat, i = .int .i64 (j : Nat) ∧ j ≤ ks.length ∧ Below w.heap.size w wr) (fun i _ => ks.length - (intOf i).toNat)
        case atStart => exact ⟨0, rfl, Nat.zero_le _, HB0.out⟩
        case round =>
          obtain ⟨j, rfl, hj, hb⟩ := hrel
          by_cases hlt : j < ks.length
          · obtain ⟨y, hA, hT⟩ := HK.out j hlt
            have hT' := hT.below hb
            have hTb := HT.out.below hb
            obtain ⟨a, rfl, hc⟩ := hA.keep fun a ha => hb.block _ (hA.lt a ha)
            obtain ⟨c0, c1, c2, c3, c4, c5, c6, c7⟩ := cells8 hc
            have HB := Lib.hid hb
            have HTr := Lib.hid hT'
            have HTb := Lib.hid hTb
            clear hc hA hT hT' hb hTb
            go_wp2_with fail
            refine (IH.out (by omega) y _ _ (HTb.out.below ((Below.refl _ _).alloc (Nat.le_refl _) _)) (HTr.out.alloc _) (HKS.out _ (List.getElem_mem hlt))).mono ?_
            rintro e w2 ⟨rfl, hb2⟩
            have HB2 := Lib.hid hb2
            clear hb2 c0 c1 c2 c3 c4 c5 c6 c7
            go_wp2_with fail
            go_roundw
            case rel => exact ⟨j + 1, by go_num, by omega, (HB.out.alloc HB.out.size _).trans (HB2.out.mono (by have := HB.out.size; simp; omega))⟩
            case measure => simp [intOf]; omega
          · have e : j = ks.length := by omega
            subst e
            have HB := Lib.hid hb
            clear hb
            go_wp2_with fail
            go_ret
            exact ⟨rfl, HB.out⟩
end Go.Proofs.YtcdacmbcecjliaaDoor
