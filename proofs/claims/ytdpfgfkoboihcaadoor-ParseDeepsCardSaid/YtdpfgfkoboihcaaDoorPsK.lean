/-
  Depth of a tree with places; complete; newParser; Expr.
-/
import Derived.Test.YtdpfgfkoboihcaaDoorPsJ
import Derived.Test.YtdpfgfkoboihcaaDoorPsL
import Derived.Test.YtdpfgfkoboihcaaDoorPsO
namespace Go.Proofs.YtdpfgfkoboihcaaDoor
open Go.RowKit
set_option maxRecDepth 100000
set_option linter.unusedVariables false

theorem max_val7 (a b : Nat) : Value.int .i64 (max (a : Int) b) = .int .i64 ((max a b : Nat) : Int) := by congr 1; omega
set_option maxHeartbeats 4000000 in
theorem depth_p (d : Nat) (hd : d ≤ 4000000000000000000) (x : X) (u : U) (w : World) (S : Nat → Prop) (h : Um w S x u) (ho : ud u ≤ d) :
    Calls Tryd.prog 6 #[xv x] w fun e w' => e = .returned (.int .i64 (ud u : Nat)) ∧ Below w.heap.size w w' := by
  induction d generalizing x u w with
  | zero => obtain ⟨k, nm, ot, z, ln, cl, ks⟩ := u; rw [ud] at ho; omega
  | succ d ih =>
    obtain ⟨k, nm, ot, z, ln, cl, ks⟩ := u
    rw [Um] at h
    obtain ⟨⟨e1, e2, e3, e4, e5, e6⟩, ⟨h2, h3⟩, ⟨h4, h5, h6⟩, h7⟩ := h
    obtain ⟨xk, xnm, xot, xb, xao, xn, xc, xko, xkn, xkc, xln, xcl⟩ := x
    simp only at e1 e2 e3 e4 e5 e6 h2 h3 h4 h5 h6 h7
    have HK := Lib.hid (fun j (hj : j < ks.length) => ums_get 0 j h7 hj)
    clear h7
    subst e1 e2 e3 e4 e5 e6
    subst h4
    rw [ud] at ho
    have hkl : ks.length ≤ 9223372036854775807 := Nat.le_trans h5.1 h5.2
    clear h5
    have IH := Lib.hid ih
    have hdd : uds ks ≤ d := by omega
    clear h2 h3 h6 ih ho
    simp only [xv]
    go_enter Tryd.func6, Tryd.ntmps6
    go_wp2_with fail
    go_loopw [3, 9] (fun n i wr => ∃ j : Nat, n = .int .i64 ((uds (ks.take j) : Nat) : Int) ∧ i = .int .i64 (j : Nat) ∧ j ≤ ks.length ∧ Below w.heap.size w wr) (fun _ i _ => ks.length - (intOf i).toNat)
    case atStart => exact ⟨0, rfl, rfl, Nat.zero_le _, (Below.refl _ _).alloc (Nat.le_refl _) _⟩
    case round =>
      obtain ⟨j, rfl, rfl, hj, hb⟩ := hrel
      by_cases hlt : j < ks.length
      · obtain ⟨y, hA, hT⟩ := HK.out j hlt
        rw [Nat.zero_add] at hA
        have hT' := hT.below hb
        obtain ⟨a, rfl, hc⟩ := hA.keep fun a ha => hb.block _ (hA.lt a ha)
        obtain ⟨c0, c1, c2, c3, c4, c5, c6, c7⟩ := cells8 hc
        have hbd := uds_take_le ks j
        have hbe := uds_mem (List.getElem_mem hlt)
        have HB := Lib.hid hb
        have HT := Lib.hid hT'
        clear hc hA hT hT' hb
        go_wp2_with fail
        refine (IH.out (by omega) y _ _ (HT.out.below ((Below.refl _ _).alloc (Nat.le_refl _) _)) (by omega)).mono ?_
        rintro e w2 ⟨rfl, hb2⟩
        have HB2 := Lib.hid hb2
        clear hb2 c0 c1 c2 c3 c4 c5 c6 c7
        go_wp2_with fail
        go_roundw
        case rel => exact ⟨j + 1, by rw [uds_take ks j hlt]; exact max_val7 _ _, by go_num, by omega, (HB.out.alloc HB.out.size _).trans (HB2.out.mono (by have := HB.out.size; simp; omega))⟩
        case measure => simp [intOf]; omega
      · have e : j = ks.length := by omega
        subst e
        have hbd := uds_take_le ks ks.length
        have HB := Lib.hid hb
        clear hb
        go_wp2_with fail
        go_ret
        refine ⟨?_, HB.out⟩
        rw [List.take_length, ud, Nat.add_comm]; rfl

set_option maxHeartbeats 8000000 in
theorem complete_p (n : Nat) (hn : n ≤ 1000000) (g : Nat) (s : St) (r : U × St) (w : World) (hps : PS w g s) (hop : GOps w g) (hc : cAll n s = some r) :
    Calls Tryd.prog 9 #[.pointer (some ⟨g, 0, none⟩)] w (TreePost w g r.1 r.2) := by
  have E := Lib.hid (all_p n).ex
  have HP := Lib.hid hps
  have HOP := Lib.hid hop
  clear hps hop
  unfold cAll at hc
  rw [Option.bind_eq_some_iff] at hc
  obtain ⟨r1, h1, hr⟩ := hc
  injection hr with hr
  subst hr
  have hdp := (c_deep n).1 _ _ h1
  have hBn : Bd n ≤ 4000000000000000000 := by unfold Bd; have := Nat.mul_le_mul (show n + 1 ≤ 1000001 by omega) (show n + 1 ≤ 1000001 by omega); omega
  have h1 := Lib.hid h1
  by_cases hdeep : 60 < ud r1.1
  · have HIF : Hid ((if 60 < ud r1.1 then r1.2.fail s.nx 2 else r1.2) = r1.2.fail s.nx 2) := Lib.hid (if_pos hdeep)
    have hgt : decide (60 < ud r1.1) = true := by simpa using hdeep
    rw [HIF.out]
    go_enter Tryd.func9, Tryd.ntmps9
    go_upto_region 1 with fail
    obtain ⟨w1, hw⟩ : ∃ x, x = w.alloc (.cells #[.int .i64 0, .string ⟨#[]⟩, .string ⟨#[]⟩, .bool false, .slice none 0 0, .slice none 0 0, .int .i64 0, .int .i64 0] 30) := ⟨_, rfl⟩
    have hb : Below w.heap.size w w1 := by rw [hw]; exact (Below.refl _ _).alloc (Nat.le_refl _) _
    have hk : w1.heap[w.heap.size]? = some (.cells #[.int .i64 0, .string ⟨#[]⟩, .string ⟨#[]⟩, .bool false, .slice none 0 0, .slice none 0 0, .int .i64 0, .int .i64 0] 30 (0, 0)) := by rw [hw]; exact made_at w _ _ rfl
    rw [← hw]
    obtain ⟨kr, hkk⟩ : ∃ k, k = w.heap.size := ⟨_, rfl⟩
    have hgr : g < kr := by rw [hkk]; exact HP.out.lt
    have her : w.heap.size ≤ kr := by omega
    rw [← hkk] at hk ⊢
    replace HP := Lib.hid (HP.out.below hb)
    replace HOP := Lib.hid (HOP.out.below hb)
    have HD := Lib.hid (below_grown hb (some g))
    have hsz1 := HD.out.size
    have HBr := Lib.hid hk
    clear hw hb hk hkk
    go_wp2_with fail
    refine (next_p g s w1 HP.out).mono ?_
    rintro e w2 ⟨rfl, hb⟩
    replace HBr := Lib.hid ((hb.block _ (lt_of_block HBr.out)).trans HBr.out)
    replace HP := Lib.hid (HP.out.below hb)
    replace HOP := Lib.hid (HOP.out.below hb)
    replace HD := Lib.hid (grown_tr HD.out (below_grown hb (some g)))
    have hsz2 := HD.out.size
    clear hb
    simp only [tokV]
    obtain ⟨t, hnx⟩ : ∃ t, t = St.nx s := ⟨_, rfl⟩
    rw [← hnx]
    have HNt := Lib.hid hnx
    clear hnx
    go_upto_region 2 with fail
    obtain ⟨w3, hw⟩ : ∃ x, x = w2.alloc (.cells #[.int .i64 (t.kind : Nat), .string ⟨t.text.toArray⟩, .int .i64 (t.line : Nat), .int .i64 (t.col : Nat)] 57) := ⟨_, rfl⟩
    have hb : Below w2.heap.size w2 w3 := by rw [hw]; exact (Below.refl _ _).alloc (Nat.le_refl _) _
    have hk : w3.heap[w2.heap.size]? = some (.cells #[.int .i64 (t.kind : Nat), .string ⟨t.text.toArray⟩, .int .i64 (t.line : Nat), .int .i64 (t.col : Nat)] 57 (0, 0)) := by rw [hw]; exact made_at w2 _ _ rfl
    rw [← hw]
    obtain ⟨kt, hkk⟩ : ∃ k, k = w2.heap.size := ⟨_, rfl⟩
    have hgt : g < kt := by rw [hkk]; exact HP.out.lt
    have het : w.heap.size ≤ kt := by omega
    have hr_t : kr < kt := by rw [hkk]; exact lt_of_block HBr.out
    rw [← hkk] at hk ⊢
    replace HBr := Lib.hid ((hb.block _ (lt_of_block HBr.out)).trans HBr.out)
    replace HP := Lib.hid (HP.out.below hb)
    replace HOP := Lib.hid (HOP.out.below hb)
    replace HD := Lib.hid (grown_tr HD.out (below_grown hb (some g)))
    have hsz3 := HD.out.size
    have HBt := Lib.hid hk
    clear hw hb hk hkk
    go_wp2_with fail
    obtain ⟨Na, hN⟩ : ∃ k, k = w3.heap.size := ⟨_, rfl⟩
    have hr_Na : kr < Na := by rw [hN]; exact lt_of_block HBr.out
    have ht_Na : kt < Na := by rw [hN]; exact lt_of_block HBt.out
    have hg_Na : g < Na := by rw [hN]; exact HP.out.lt
    have he_Na : w.heap.size ≤ Na := by omega
    refine (E.out g _ _ w3 HP.out HOP.out h1.out).mono ?_
    rintro e w4 ⟨xa, rfl, hu, hp, hg⟩
    replace HBr := Lib.hid ((hg.block _ (lt_of_block HBr.out) (fun e => by injection e with e; omega)).trans HBr.out)
    replace HBt := Lib.hid ((hg.block _ (lt_of_block HBt.out) (fun e => by injection e with e; omega)).trans HBt.out)
    replace HOP := Lib.hid (HOP.out.grown hg (by omega))
    replace HP := Lib.hid hp
    replace HD := Lib.hid (grown_tr HD.out (hg))
    have hsz4 := HD.out.size
    rw [← hN] at hu
    have HUa := Lib.hid (hu.mono (S' := fun b => Na ≤ b ∧ True) (fun b h => ⟨h, trivial⟩))
    clear hN hu
    clear hp hg
    obtain ⟨ak, anm, aot, ab, aao, an, aq, ako, akn, akc, aln, acl⟩ := xa
    simp only [xv]
    go_upto_region 3 with fail
    obtain ⟨w5, hw⟩ : ∃ x, x = w4.alloc (.cells #[.int .i64 ak, .string anm, .string aot, .bool ab, .slice aao an aq, .slice ako akn akc, .int .i64 aln, .int .i64 acl] 30) := ⟨_, rfl⟩
    have hb : Below w4.heap.size w4 w5 := by rw [hw]; exact (Below.refl _ _).alloc (Nat.le_refl _) _
    have hk : w5.heap[w4.heap.size]? = some (.cells #[.int .i64 ak, .string anm, .string aot, .bool ab, .slice aao an aq, .slice ako akn akc, .int .i64 aln, .int .i64 acl] 30 (0, 0)) := by rw [hw]; exact made_at w4 _ _ rfl
    rw [← hw]
    obtain ⟨ka, hkk⟩ : ∃ k, k = w4.heap.size := ⟨_, rfl⟩
    have hga : g < ka := by rw [hkk]; exact HP.out.lt
    have hea : w.heap.size ≤ ka := by omega
    have hr_a : kr < ka := by rw [hkk]; exact lt_of_block HBr.out
    have ht_a : kt < ka := by rw [hkk]; exact lt_of_block HBt.out
    replace HUa := Lib.hid (HUa.out.off.mono (S' := fun b => (Na ≤ b ∧ True) ∧ b ≠ ka) (fun b h => ⟨h.1, fun e => h.2 (by rw [e, hkk])⟩))
    rw [← hkk] at hk ⊢
    replace HBr := Lib.hid ((hb.block _ (lt_of_block HBr.out)).trans HBr.out)
    replace HBt := Lib.hid ((hb.block _ (lt_of_block HBt.out)).trans HBt.out)
    replace HP := Lib.hid (HP.out.below hb)
    replace HUa := Lib.hid (HUa.out.below hb)
    replace HOP := Lib.hid (HOP.out.below hb)
    replace HD := Lib.hid (grown_tr HD.out (below_grown hb (some g)))
    have hsz5 := HD.out.size
    have HBa := Lib.hid hk
    clear hw hb hk hkk
    have ca0 := cell_at (v := .int .i64 ak) HBa.out 0 rfl
    have ca1 := cell_at (v := .string anm) HBa.out 1 rfl
    have ca2 := cell_at (v := .string aot) HBa.out 2 rfl
    have ca3 := cell_at (v := .bool ab) HBa.out 3 rfl
    have ca4 := cell_at (v := .slice aao an aq) HBa.out 4 rfl
    have ca5 := cell_at (v := .slice ako akn akc) HBa.out 5 rfl
    have ca6 := cell_at (v := .int .i64 aln) HBa.out 6 rfl
    have ca7 := cell_at (v := .int .i64 acl) HBa.out 7 rfl
    have ct0 := cell_at (v := .int .i64 (t.kind : Nat)) HBt.out 0 rfl
    have ct1 := cell_at (v := .string ⟨t.text.toArray⟩) HBt.out 1 rfl
    have ct2 := cell_at (v := .int .i64 (t.line : Nat)) HBt.out 2 rfl
    have ct3 := cell_at (v := .int .i64 (t.col : Nat)) HBt.out 3 rfl
    go_wp2_with fail
    refine (depth_p (Bd n) hBn ⟨ak, anm, aot, ab, aao, an, aq, ako, akn, akc, aln, acl⟩ r1.1 w5 _ HUa.out hdp).mono ?_
    rintro e w6 ⟨rfl, hb⟩
    clear ca0 ca1 ca2 ca3 ca4 ca5 ca6 ca7 ct0 ct1 ct2 ct3
    replace HBr := Lib.hid ((hb.block _ (lt_of_block HBr.out)).trans HBr.out)
    replace HBt := Lib.hid ((hb.block _ (lt_of_block HBt.out)).trans HBt.out)
    replace HBa := Lib.hid ((hb.block _ (lt_of_block HBa.out)).trans HBa.out)
    replace HP := Lib.hid (HP.out.below hb)
    replace HUa := Lib.hid (HUa.out.below hb)
    replace HOP := Lib.hid (HOP.out.below hb)
    replace HD := Lib.hid (grown_tr HD.out (below_grown hb (some g)))
    have hsz6 := HD.out.size
    clear hb
    have ct0 := cell_at (v := .int .i64 (t.kind : Nat)) HBt.out 0 rfl
    have ct1 := cell_at (v := .string ⟨t.text.toArray⟩) HBt.out 1 rfl
    have ct2 := cell_at (v := .int .i64 (t.line : Nat)) HBt.out 2 rfl
    have ct3 := cell_at (v := .int .i64 (t.col : Nat)) HBt.out 3 rfl
    go_wp2_with fail
    have hp0 := fail_p g r1.2 t 2 w6 HP.out
    simp only [tokV] at hp0
    refine (hp0).mono ?_
    rintro e w7 ⟨⟨v, rfl⟩, hp, hg⟩
    clear ct0 ct1 ct2 ct3
    replace HBr := Lib.hid ((hg.block _ (lt_of_block HBr.out) (fun e => by injection e with e; omega)).trans HBr.out)
    replace HBt := Lib.hid ((hg.block _ (lt_of_block HBt.out) (fun e => by injection e with e; omega)).trans HBt.out)
    replace HBa := Lib.hid ((hg.block _ (lt_of_block HBa.out) (fun e => by injection e with e; omega)).trans HBa.out)
    replace HUa := Lib.hid (HUa.out.grown hg (fun h => by have h : (Na ≤ g ∧ True) ∧ g ≠ ka := h; omega))
    replace HOP := Lib.hid (HOP.out.grown hg (by omega))
    replace HP := Lib.hid hp
    replace HD := Lib.hid (grown_tr HD.out (hg))
    have hsz7 := HD.out.size
    clear hp hg
    clear hp0
    have ca0 := cell_at (v := .int .i64 ak) HBa.out 0 rfl
    have ca1 := cell_at (v := .string anm) HBa.out 1 rfl
    have ca2 := cell_at (v := .string aot) HBa.out 2 rfl
    have ca3 := cell_at (v := .bool ab) HBa.out 3 rfl
    have ca4 := cell_at (v := .slice aao an aq) HBa.out 4 rfl
    have ca5 := cell_at (v := .slice ako akn akc) HBa.out 5 rfl
    have ca6 := cell_at (v := .int .i64 aln) HBa.out 6 rfl
    have ca7 := cell_at (v := .int .i64 acl) HBa.out 7 rfl
    have z0 := cell_at (v := .int .i64 0) HBr.out 0 rfl
    have fz0 := froz_at HBr.out 0
    have z1 := cell_at (v := .string ⟨#[]⟩) HBr.out 1 rfl
    have fz1 := froz_at HBr.out 1
    have z2 := cell_at (v := .string ⟨#[]⟩) HBr.out 2 rfl
    have fz2 := froz_at HBr.out 2
    have z3 := cell_at (v := .bool false) HBr.out 3 rfl
    have fz3 := froz_at HBr.out 3
    have z4 := cell_at (v := .slice none 0 0) HBr.out 4 rfl
    have fz4 := froz_at HBr.out 4
    have z5 := cell_at (v := .slice none 0 0) HBr.out 5 rfl
    have fz5 := froz_at HBr.out 5
    have z6 := cell_at (v := .int .i64 0) HBr.out 6 rfl
    have fz6 := froz_at HBr.out 6
    have z7 := cell_at (v := .int .i64 0) HBr.out 7 rfl
    have fz7 := froz_at HBr.out 7
    go_wp2_with fail
    refine bodyPost_ret (v := .agg #[.int .i64 ak, .string anm, .string aot, .bool ab, .slice aao an aq, .slice ako akn akc, .int .i64 aln, .int .i64 acl]) (by simp [results, Tryd.results9, go_sem, z0, z1, z2, z3, z4, z5, z6, z7]) rfl ?_
    obtain ⟨wz, hw⟩ : ∃ x, x = st8 w7 kr (.int .i64 ak) (.string anm) (.string aot) (.bool ab) (.slice aao an aq) (.slice ako akn akc) (.int .i64 aln) (.int .i64 acl) := ⟨_, rfl⟩
    have hg : w7.grownBy wz (some kr) := by rw [hw]; exact st8_grown _ _ _ _ _ _ _ _ _ _
    change TreePost w g _ _ _ (st8 w7 kr (.int .i64 ak) (.string anm) (.string aot) (.bool ab) (.slice aao an aq) (.slice ako akn akc) (.int .i64 aln) (.int .i64 acl))
    rw [← hw]
    clear ca0 ca1 ca2 ca3 ca4 ca5 ca6 ca7 z0 fz0 z1 fz1 z2 fz2 z3 fz3 z4 fz4 z5 fz5 z6 fz6 z7 fz7
    replace HP := Lib.hid (HP.out.store HBr.out (by decide) (by omega) hg)
    replace HBt := Lib.hid ((hg.block _ (lt_of_block HBt.out) (fun e => by injection e with e; omega)).trans HBt.out)
    replace HBa := Lib.hid ((hg.block _ (lt_of_block HBa.out) (fun e => by injection e with e; omega)).trans HBa.out)
    replace HUa := Lib.hid (HUa.out.grown hg (fun h => by have h : (Na ≤ kr ∧ True) ∧ kr ≠ ka := h; omega))
    replace HOP := Lib.hid (HOP.out.grown hg (by omega))
    replace HD := Lib.hid (grown_new HD.out hg (by omega))
    have hsz7 := HD.out.size
    clear hw hg
    exact ⟨⟨ak, anm, aot, ab, aao, an, aq, ako, akn, akc, aln, acl⟩, rfl, (HUa.out.mono (fun b h => by have h : (Na ≤ b ∧ True) ∧ b ≠ ka := h; show _ ≤ b; omega)), by rw [← HNt.out]; exact HP.out, HD.out⟩
  · have HIF : Hid ((if 60 < ud r1.1 then r1.2.fail s.nx 2 else r1.2) = r1.2) := Lib.hid (if_neg hdeep)
    have hgt : decide (60 < ud r1.1) = false := by simpa using hdeep
    rw [HIF.out]
    go_enter Tryd.func9, Tryd.ntmps9
    go_upto_region 1 with fail
    obtain ⟨w1, hw⟩ : ∃ x, x = w.alloc (.cells #[.int .i64 0, .string ⟨#[]⟩, .string ⟨#[]⟩, .bool false, .slice none 0 0, .slice none 0 0, .int .i64 0, .int .i64 0] 30) := ⟨_, rfl⟩
    have hb : Below w.heap.size w w1 := by rw [hw]; exact (Below.refl _ _).alloc (Nat.le_refl _) _
    have hk : w1.heap[w.heap.size]? = some (.cells #[.int .i64 0, .string ⟨#[]⟩, .string ⟨#[]⟩, .bool false, .slice none 0 0, .slice none 0 0, .int .i64 0, .int .i64 0] 30 (0, 0)) := by rw [hw]; exact made_at w _ _ rfl
    rw [← hw]
    obtain ⟨kr, hkk⟩ : ∃ k, k = w.heap.size := ⟨_, rfl⟩
    have hgr : g < kr := by rw [hkk]; exact HP.out.lt
    have her : w.heap.size ≤ kr := by omega
    rw [← hkk] at hk ⊢
    replace HP := Lib.hid (HP.out.below hb)
    replace HOP := Lib.hid (HOP.out.below hb)
    have HD := Lib.hid (below_grown hb (some g))
    have hsz1 := HD.out.size
    have HBr := Lib.hid hk
    clear hw hb hk hkk
    go_wp2_with fail
    refine (next_p g s w1 HP.out).mono ?_
    rintro e w2 ⟨rfl, hb⟩
    replace HBr := Lib.hid ((hb.block _ (lt_of_block HBr.out)).trans HBr.out)
    replace HP := Lib.hid (HP.out.below hb)
    replace HOP := Lib.hid (HOP.out.below hb)
    replace HD := Lib.hid (grown_tr HD.out (below_grown hb (some g)))
    have hsz2 := HD.out.size
    clear hb
    simp only [tokV]
    obtain ⟨t, hnx⟩ : ∃ t, t = St.nx s := ⟨_, rfl⟩
    rw [← hnx]
    have HNt := Lib.hid hnx
    clear hnx
    go_upto_region 2 with fail
    obtain ⟨w3, hw⟩ : ∃ x, x = w2.alloc (.cells #[.int .i64 (t.kind : Nat), .string ⟨t.text.toArray⟩, .int .i64 (t.line : Nat), .int .i64 (t.col : Nat)] 57) := ⟨_, rfl⟩
    have hb : Below w2.heap.size w2 w3 := by rw [hw]; exact (Below.refl _ _).alloc (Nat.le_refl _) _
    have hk : w3.heap[w2.heap.size]? = some (.cells #[.int .i64 (t.kind : Nat), .string ⟨t.text.toArray⟩, .int .i64 (t.line : Nat), .int .i64 (t.col : Nat)] 57 (0, 0)) := by rw [hw]; exact made_at w2 _ _ rfl
    rw [← hw]
    obtain ⟨kt, hkk⟩ : ∃ k, k = w2.heap.size := ⟨_, rfl⟩
    have hgt : g < kt := by rw [hkk]; exact HP.out.lt
    have het : w.heap.size ≤ kt := by omega
    have hr_t : kr < kt := by rw [hkk]; exact lt_of_block HBr.out
    rw [← hkk] at hk ⊢
    replace HBr := Lib.hid ((hb.block _ (lt_of_block HBr.out)).trans HBr.out)
    replace HP := Lib.hid (HP.out.below hb)
    replace HOP := Lib.hid (HOP.out.below hb)
    replace HD := Lib.hid (grown_tr HD.out (below_grown hb (some g)))
    have hsz3 := HD.out.size
    have HBt := Lib.hid hk
    clear hw hb hk hkk
    go_wp2_with fail
    obtain ⟨Na, hN⟩ : ∃ k, k = w3.heap.size := ⟨_, rfl⟩
    have hr_Na : kr < Na := by rw [hN]; exact lt_of_block HBr.out
    have ht_Na : kt < Na := by rw [hN]; exact lt_of_block HBt.out
    have hg_Na : g < Na := by rw [hN]; exact HP.out.lt
    have he_Na : w.heap.size ≤ Na := by omega
    refine (E.out g _ _ w3 HP.out HOP.out h1.out).mono ?_
    rintro e w4 ⟨xa, rfl, hu, hp, hg⟩
    replace HBr := Lib.hid ((hg.block _ (lt_of_block HBr.out) (fun e => by injection e with e; omega)).trans HBr.out)
    replace HBt := Lib.hid ((hg.block _ (lt_of_block HBt.out) (fun e => by injection e with e; omega)).trans HBt.out)
    replace HOP := Lib.hid (HOP.out.grown hg (by omega))
    replace HP := Lib.hid hp
    replace HD := Lib.hid (grown_tr HD.out (hg))
    have hsz4 := HD.out.size
    rw [← hN] at hu
    have HUa := Lib.hid (hu.mono (S' := fun b => Na ≤ b ∧ True) (fun b h => ⟨h, trivial⟩))
    clear hN hu
    clear hp hg
    obtain ⟨ak, anm, aot, ab, aao, an, aq, ako, akn, akc, aln, acl⟩ := xa
    simp only [xv]
    go_upto_region 3 with fail
    obtain ⟨w5, hw⟩ : ∃ x, x = w4.alloc (.cells #[.int .i64 ak, .string anm, .string aot, .bool ab, .slice aao an aq, .slice ako akn akc, .int .i64 aln, .int .i64 acl] 30) := ⟨_, rfl⟩
    have hb : Below w4.heap.size w4 w5 := by rw [hw]; exact (Below.refl _ _).alloc (Nat.le_refl _) _
    have hk : w5.heap[w4.heap.size]? = some (.cells #[.int .i64 ak, .string anm, .string aot, .bool ab, .slice aao an aq, .slice ako akn akc, .int .i64 aln, .int .i64 acl] 30 (0, 0)) := by rw [hw]; exact made_at w4 _ _ rfl
    rw [← hw]
    obtain ⟨ka, hkk⟩ : ∃ k, k = w4.heap.size := ⟨_, rfl⟩
    have hga : g < ka := by rw [hkk]; exact HP.out.lt
    have hea : w.heap.size ≤ ka := by omega
    have hr_a : kr < ka := by rw [hkk]; exact lt_of_block HBr.out
    have ht_a : kt < ka := by rw [hkk]; exact lt_of_block HBt.out
    replace HUa := Lib.hid (HUa.out.off.mono (S' := fun b => (Na ≤ b ∧ True) ∧ b ≠ ka) (fun b h => ⟨h.1, fun e => h.2 (by rw [e, hkk])⟩))
    rw [← hkk] at hk ⊢
    replace HBr := Lib.hid ((hb.block _ (lt_of_block HBr.out)).trans HBr.out)
    replace HBt := Lib.hid ((hb.block _ (lt_of_block HBt.out)).trans HBt.out)
    replace HP := Lib.hid (HP.out.below hb)
    replace HUa := Lib.hid (HUa.out.below hb)
    replace HOP := Lib.hid (HOP.out.below hb)
    replace HD := Lib.hid (grown_tr HD.out (below_grown hb (some g)))
    have hsz5 := HD.out.size
    have HBa := Lib.hid hk
    clear hw hb hk hkk
    have ca0 := cell_at (v := .int .i64 ak) HBa.out 0 rfl
    have ca1 := cell_at (v := .string anm) HBa.out 1 rfl
    have ca2 := cell_at (v := .string aot) HBa.out 2 rfl
    have ca3 := cell_at (v := .bool ab) HBa.out 3 rfl
    have ca4 := cell_at (v := .slice aao an aq) HBa.out 4 rfl
    have ca5 := cell_at (v := .slice ako akn akc) HBa.out 5 rfl
    have ca6 := cell_at (v := .int .i64 aln) HBa.out 6 rfl
    have ca7 := cell_at (v := .int .i64 acl) HBa.out 7 rfl
    have ct0 := cell_at (v := .int .i64 (t.kind : Nat)) HBt.out 0 rfl
    have ct1 := cell_at (v := .string ⟨t.text.toArray⟩) HBt.out 1 rfl
    have ct2 := cell_at (v := .int .i64 (t.line : Nat)) HBt.out 2 rfl
    have ct3 := cell_at (v := .int .i64 (t.col : Nat)) HBt.out 3 rfl
    go_wp2_with fail
    refine (depth_p (Bd n) hBn ⟨ak, anm, aot, ab, aao, an, aq, ako, akn, akc, aln, acl⟩ r1.1 w5 _ HUa.out hdp).mono ?_
    rintro e w6 ⟨rfl, hb⟩
    clear ca0 ca1 ca2 ca3 ca4 ca5 ca6 ca7 ct0 ct1 ct2 ct3
    replace HBr := Lib.hid ((hb.block _ (lt_of_block HBr.out)).trans HBr.out)
    replace HBt := Lib.hid ((hb.block _ (lt_of_block HBt.out)).trans HBt.out)
    replace HBa := Lib.hid ((hb.block _ (lt_of_block HBa.out)).trans HBa.out)
    replace HP := Lib.hid (HP.out.below hb)
    replace HUa := Lib.hid (HUa.out.below hb)
    replace HOP := Lib.hid (HOP.out.below hb)
    replace HD := Lib.hid (grown_tr HD.out (below_grown hb (some g)))
    have hsz6 := HD.out.size
    clear hb
    have ca0 := cell_at (v := .int .i64 ak) HBa.out 0 rfl
    have ca1 := cell_at (v := .string anm) HBa.out 1 rfl
    have ca2 := cell_at (v := .string aot) HBa.out 2 rfl
    have ca3 := cell_at (v := .bool ab) HBa.out 3 rfl
    have ca4 := cell_at (v := .slice aao an aq) HBa.out 4 rfl
    have ca5 := cell_at (v := .slice ako akn akc) HBa.out 5 rfl
    have ca6 := cell_at (v := .int .i64 aln) HBa.out 6 rfl
    have ca7 := cell_at (v := .int .i64 acl) HBa.out 7 rfl
    have z0 := cell_at (v := .int .i64 0) HBr.out 0 rfl
    have fz0 := froz_at HBr.out 0
    have z1 := cell_at (v := .string ⟨#[]⟩) HBr.out 1 rfl
    have fz1 := froz_at HBr.out 1
    have z2 := cell_at (v := .string ⟨#[]⟩) HBr.out 2 rfl
    have fz2 := froz_at HBr.out 2
    have z3 := cell_at (v := .bool false) HBr.out 3 rfl
    have fz3 := froz_at HBr.out 3
    have z4 := cell_at (v := .slice none 0 0) HBr.out 4 rfl
    have fz4 := froz_at HBr.out 4
    have z5 := cell_at (v := .slice none 0 0) HBr.out 5 rfl
    have fz5 := froz_at HBr.out 5
    have z6 := cell_at (v := .int .i64 0) HBr.out 6 rfl
    have fz6 := froz_at HBr.out 6
    have z7 := cell_at (v := .int .i64 0) HBr.out 7 rfl
    have fz7 := froz_at HBr.out 7
    go_wp2_with fail
    refine bodyPost_ret (v := .agg #[.int .i64 ak, .string anm, .string aot, .bool ab, .slice aao an aq, .slice ako akn akc, .int .i64 aln, .int .i64 acl]) (by simp [results, Tryd.results9, go_sem, z0, z1, z2, z3, z4, z5, z6, z7]) rfl ?_
    obtain ⟨wz, hw⟩ : ∃ x, x = st8 w6 kr (.int .i64 ak) (.string anm) (.string aot) (.bool ab) (.slice aao an aq) (.slice ako akn akc) (.int .i64 aln) (.int .i64 acl) := ⟨_, rfl⟩
    have hg : w6.grownBy wz (some kr) := by rw [hw]; exact st8_grown _ _ _ _ _ _ _ _ _ _
    change TreePost w g _ _ _ (st8 w6 kr (.int .i64 ak) (.string anm) (.string aot) (.bool ab) (.slice aao an aq) (.slice ako akn akc) (.int .i64 aln) (.int .i64 acl))
    rw [← hw]
    clear ca0 ca1 ca2 ca3 ca4 ca5 ca6 ca7 z0 fz0 z1 fz1 z2 fz2 z3 fz3 z4 fz4 z5 fz5 z6 fz6 z7 fz7
    replace HP := Lib.hid (HP.out.store HBr.out (by decide) (by omega) hg)
    replace HBt := Lib.hid ((hg.block _ (lt_of_block HBt.out) (fun e => by injection e with e; omega)).trans HBt.out)
    replace HBa := Lib.hid ((hg.block _ (lt_of_block HBa.out) (fun e => by injection e with e; omega)).trans HBa.out)
    replace HUa := Lib.hid (HUa.out.grown hg (fun h => by have h : (Na ≤ kr ∧ True) ∧ kr ≠ ka := h; omega))
    replace HOP := Lib.hid (HOP.out.grown hg (by omega))
    replace HD := Lib.hid (grown_new HD.out hg (by omega))
    have hsz6 := HD.out.size
    clear hw hg
    exact ⟨⟨ak, anm, aot, ab, aao, an, aq, ako, akn, akc, aln, acl⟩, rfl, (HUa.out.mono (fun b h => by have h : (Na ≤ b ∧ True) ∧ b ≠ ka := h; show _ ≤ b; omega)), HP.out, HD.out⟩

theorem toks_of {w : World} {b : Nat} : ∀ {ts : List Tok} {o : Nat}, (∀ k (hk : k < ts.length), w.cell? ⟨b, o + k * 4, none⟩ = some (.int .i64 (ts[k].kind : Nat)) ∧ w.cell? ⟨b, o + (k * 4 + 1), none⟩ = some (.string ⟨ts[k].text.toArray⟩) ∧ w.cell? ⟨b, o + (k * 4 + 2), none⟩ = some (.int .i64 (ts[k].line : Nat)) ∧ w.cell? ⟨b, o + (k * 4 + 3), none⟩ = some (.int .i64 (ts[k].col : Nat))) → Toks w b o ts
  | [], _, _ => trivial
  | t :: ts, o, h => by
    refine ⟨by have := h 0 (by simp); simp only [List.getElem_cons_zero, Nat.zero_mul, Nat.zero_add, Nat.add_zero] at this; exact this, toks_of fun k hk => ?_⟩
    have := h (k + 1) (by simpa using hk)
    simp only [List.getElem_cons_succ] at this
    rw [show o + (k + 1) * 4 = o + 4 + k * 4 by omega, show o + ((k + 1) * 4 + 1) = o + 4 + (k * 4 + 1) by omega, show o + ((k + 1) * 4 + 2) = o + 4 + (k * 4 + 2) by omega, show o + ((k + 1) * 4 + 3) = o + 4 + (k * 4 + 3) by omega] at this
    exact this
def st0 (l : Bs) : St := ⟨(lexS l (1, 1)).1, none⟩
/-- The error of the lexer at a text, if there is one. -/
def lexF (l : Bs) : Option (Nat × Nat × Nat) := if (lexS l (1, 1)).2 = 0 then none else ((lexS l (1, 1)).1.getLast?).map fun t => ((lexS l (1, 1)).2, t.line, t.col)
/-- A fault as a value: in w it lies at q. -/
def AtF (w : World) (v : Value) (f : Nat × Nat × Nat) : Prop := ∃ q, v = .iface 45 (.pointer (some ⟨q, 0, none⟩)) ∧ AtB w q (f.2.1, f.2.2) (.iface 36 (.int .i64 (f.1 : Nat)))
theorem AtF.below {w w' : World} {v : Value} {f : Nat × Nat × Nat} (h : AtF w v f) (hb : Below w.heap.size w w') : AtF w' v f := by
  obtain ⟨q, h1, h2⟩ := h
  refine ⟨q, h1, ?_⟩
  unfold AtB at h2 ⊢; rw [hb.block _ (lt_of_block h2)]; exact h2
theorem GOps.of {w : World} (h : OpsAt w) {g : Nat} (hg : w.heap.size ≤ g) : GOps w g := ⟨h, Nat.lt_of_lt_of_le (cell_lt (h 0 _ rfl)) hg⟩

set_option maxHeartbeats 4000000 in
theorem newp_p (l : Bs) (w : World) (hl : l.length ≤ 20000) :
    Calls Tryd.prog 8 #[.string ⟨l.toArray⟩] w fun e w' => Below w.heap.size w w' ∧ ((∃ f ev, lexF l = some f ∧ e = .returned (.tuple #[.pointer none, ev]) ∧ AtF w' ev f) ∨ (lexF l = none ∧ ∃ g, e = .returned (.tuple #[.pointer (some ⟨g, 0, none⟩), .nilIface]) ∧ w.heap.size ≤ g ∧ PS w' g (st0 l))) := by
  have HX := Lib.hid (lex_any l w hl)
  have HGL := Lib.hid (lex_good l (1, 1))
  have HSM := Lib.hid (lex_sum l (1, 1)).1
  go_enter Tryd.func8, Tryd.ntmps8
  go_wp2_with fail
  refine HX.out.mono ?_
  rintro e w1 ⟨hb, hp⟩
  rcases hp with ⟨h0, v, rfl, hT⟩ | ⟨h0, q, t, hlast, rfl, hA, -⟩
  · obtain ⟨tb, cap, rfl, h1, h2, -, h4, h5⟩ : ∃ g cap, v = .slice (some ⟨g, 0, none⟩) (lexS l (1, 1)).1.length cap ∧ (lexS l (1, 1)).1.length ≤ cap ∧ cap ≤ maxLen ∧ w.heap.size + 1 ≤ g ∧ g < w1.heap.size ∧ ∀ k (hk : k < (lexS l (1, 1)).1.length), w1.cell? ⟨g, k * 4, none⟩ = some (.int .i64 ((lexS l (1, 1)).1[k].kind : Nat)) ∧ w1.cell? ⟨g, k * 4 + 1, none⟩ = some (.string ⟨(lexS l (1, 1)).1[k].text.toArray⟩) ∧ w1.cell? ⟨g, k * 4 + 2, none⟩ = some (.int .i64 ((lexS l (1, 1)).1[k].line : Nat)) ∧ w1.cell? ⟨g, k * 4 + 3, none⟩ = some (.int .i64 ((lexS l (1, 1)).1[k].col : Nat)) := by
      obtain ⟨a, cap, rfl, h1, h2, h3⟩ := hT.form
      obtain ⟨g, rfl, h4, h5, h6⟩ := h3 (lex_ne l (1, 1))
      exact ⟨g, cap, rfl, h1, h2, h4, h5, h6⟩
    have HT := Lib.hid (toks_of (o := 0) fun k hk => by rw [Nat.zero_add, Nat.zero_add, Nat.zero_add, Nat.zero_add]; exact h5 k hk)
    have H0 := Lib.hid h0
    have HB := Lib.hid hb
    have HC := Lib.hid (And.intro h1 h2)
    clear h5 hT hb h0 h1 h2
    generalize hn : (lexS l (1, 1)).1.length = nl at *
    have HN := Lib.hid hn
    clear hn
    go_wp2_with fail
    go_ret2
    refine ⟨HB.out.alloc HB.out.size _, .inr ⟨by unfold lexF; rw [if_pos H0.out], w1.heap.size, rfl, HB.out.size, ⟨tb, 0, cap, .nilIface, ?_, HGL.out H0.out, ?_, HC.out.2, h4, ?_, ?_, rfl⟩, ?_⟩⟩
    · rw [made_at w1 _ _ rfl]; unfold st0; simp only; rw [HN.out]
    · unfold st0; simp only; rw [HN.out]; exact HC.out.1
    · simp; omega
    · exact HT.out.below h4 ((Below.refl _ _).alloc (Nat.le_refl _) _)
    · unfold st0; simp only; rw [HN.out]; have := HSM.out; omega
  · have H0 := Lib.hid h0
    have HB := Lib.hid hb
    have HA := Lib.hid hA
    have HL := Lib.hid hlast
    clear hb hA h0 hlast
    go_wp2_with fail
    go_ret2
    exact ⟨HB.out, .inl ⟨((lexS l (1, 1)).2, t.line, t.col), _, by unfold lexF; rw [if_neg H0.out, HL.out]; rfl, rfl, q, rfl, HA.out⟩⟩

/-- The fault of a text as an expression, read in n steps. -/
def exF (l : Bs) (r : U × St) : Option (Nat × Nat × Nat) := (lexF l).or r.2.fin.err
/-- What Expr gives. -/
def ExPost (l : Bs) (r : U × St) (w : World) (e : Ending) (w' : World) : Prop := Below w.heap.size w w' ∧ ((∃ f ev, exF l r = some f ∧ e = .returned (.tuple #[.agg #[.int .i64 0, .string ⟨#[]⟩, .string ⟨#[]⟩, .bool false, .slice none 0 0, .slice none 0 0, .int .i64 0, .int .i64 0], ev]) ∧ AtF w' ev f) ∨ (exF l r = none ∧ ∃ x, e = .returned (.tuple #[xv x, .nilIface]) ∧ Um w' (fun b => w.heap.size ≤ b) x r.1))

set_option maxHeartbeats 8000000 in
theorem exprs_p (n : Nat) (hn : n ≤ 1000000) (l : Bs) (r : U × St) (w : World) (hl : l.length ≤ 20000) (hop : OpsAt w) (hc : lexF l = none → cAll n (st0 l) = some r) :
    Calls Tryd.prog 5 #[.string ⟨l.toArray⟩] w (ExPost l r w) := by
  obtain ⟨w1, hw1⟩ : ∃ x, x = w.alloc (.cells #[.int .i64 0, .string ⟨#[]⟩, .string ⟨#[]⟩, .bool false, .slice none 0 0, .slice none 0 0, .int .i64 0, .int .i64 0] 30) := ⟨_, rfl⟩
  have hb1 : Below w.heap.size w w1 := by rw [hw1]; exact (Below.refl _ _).alloc (Nat.le_refl _) _
  obtain ⟨kr, hkr⟩ : ∃ k, k = w.heap.size := ⟨_, rfl⟩
  have hk1 : w1.heap[kr]? = some (.cells #[.int .i64 0, .string ⟨#[]⟩, .string ⟨#[]⟩, .bool false, .slice none 0 0, .slice none 0 0, .int .i64 0, .int .i64 0] 30 (0, 0)) := by rw [hw1, hkr]; exact made_at w _ _ rfl
  have HW1 := Lib.hid hw1
  have HKR := Lib.hid hkr
  have HB1 := Lib.hid hb1
  have HR1 := Lib.hid hk1
  have HO1 := Lib.hid (hop.below hb1)
  have hNr : w.heap.size ≤ kr := by omega
  have hs1 := hb1.size
  clear hw1 hb1 hkr hk1 hop
  have HC := Lib.hid hc
  clear hc
  go_enter Tryd.func5, Tryd.ntmps5
  go_upto_region 1 with fail
  rw [← HW1.out, ← HKR.out]
  go_wp2_with fail
  refine (newp_p l w1 hl).mono ?_
  rintro e w2 ⟨hb2, hcase⟩
  have HB2 := Lib.hid (HB1.out.trans (hb2.mono HB1.out.size))
  have HR2 := Lib.hid ((hb2.block _ (lt_of_block HR1.out)).trans HR1.out)
  have HO2 := Lib.hid (HO1.out.below hb2)
  have hs2 := hb2.size
  clear hb2
  rcases hcase with ⟨f, ev, hf, rfl, hA⟩ | ⟨hf, g, rfl, hg, hps⟩
  · obtain ⟨q, rfl, hq⟩ := hA
    have HA := Lib.hid hq
    have HF := Lib.hid hf
    have hqk : q ≠ kr := fun e => by subst e; have := HR2.out; unfold AtB at hq; rw [hq] at this; injection this with this; injection this with _ this; exact absurd this (by decide)
    clear hq hf
    have z0 := cell_at (v := .int .i64 0) HR2.out 0 rfl
    have fz0 := froz_at HR2.out 0
    have z1 := cell_at (v := .string ⟨#[]⟩) HR2.out 1 rfl
    have fz1 := froz_at HR2.out 1
    have z2 := cell_at (v := .string ⟨#[]⟩) HR2.out 2 rfl
    have fz2 := froz_at HR2.out 2
    have z3 := cell_at (v := .bool false) HR2.out 3 rfl
    have fz3 := froz_at HR2.out 3
    have z4 := cell_at (v := .slice none 0 0) HR2.out 4 rfl
    have fz4 := froz_at HR2.out 4
    have z5 := cell_at (v := .slice none 0 0) HR2.out 5 rfl
    have fz5 := froz_at HR2.out 5
    have z6 := cell_at (v := .int .i64 0) HR2.out 6 rfl
    have fz6 := froz_at HR2.out 6
    have z7 := cell_at (v := .int .i64 0) HR2.out 7 rfl
    have fz7 := froz_at HR2.out 7
    go_wp2_with fail
    refine bodyPost_ret (v := .tuple #[.agg #[.int .i64 0, .string ⟨#[]⟩, .string ⟨#[]⟩, .bool false, .slice none 0 0, .slice none 0 0, .int .i64 0, .int .i64 0], .iface 45 (.pointer (some ⟨q, 0, none⟩))]) (by simp [results, Tryd.results5, go_sem, z0, z1, z2, z3, z4, z5, z6, z7]) rfl ⟨st8_below HB2.out hNr _ _ _ _ _ _ _ _, .inl ⟨f, _, by unfold exF; rw [HF.out]; rfl, rfl, q, rfl, ?_⟩⟩
    have := HA.out
    unfold AtB at this ⊢
    exact (st8_other w2 kr _ _ _ _ _ _ _ _ hqk).trans this
  · have HF := Lib.hid hf
    have HPS := Lib.hid hps
    have HC2 := Lib.hid (HC.out hf)
    have hgr : kr < g := Nat.lt_of_lt_of_le (lt_of_block HR1.out) hg
    have HGO : Hid (GOps w2 g) := Lib.hid ⟨HO2.out, Nat.lt_of_lt_of_le (cell_lt (HO1.out 0 _ rfl)) hg⟩
    clear hf hps hg
    go_wp2_with fail
    obtain ⟨N, hN⟩ : ∃ k, k = w2.heap.size := ⟨_, rfl⟩
    have hrN : kr < N := by rw [hN]; exact lt_of_block HR2.out
    have hwN : w.heap.size ≤ N := by omega
    have hgN : g < N := by rw [hN]; exact HPS.out.lt
    have hgw : w.heap.size ≤ g := by omega
    refine (complete_p n hn g (st0 l) r w2 HPS.out HGO.out HC2.out).mono ?_
    rintro e w3 ⟨x, rfl, hu, hp, hg⟩
    rw [← hN] at hu
    have HR3 := Lib.hid ((hg.block _ (lt_of_block HR2.out) (fun e => by injection e with e; omega)).trans HR2.out)
    have HB3 := Lib.hid (HB2.out.trans (grown_below hg HB2.out.size hgw))
    have HU3 := Lib.hid hu
    have HP3 := Lib.hid hp
    have hs3 := hg.size
    clear hu hp hg hN
    obtain ⟨xk, xnm, xot, xb, xao, xn, xq, xko, xkn, xkc, xln, xcl⟩ := x
    simp only [xv]
    go_upto_region 5 with fail
    obtain ⟨w4, hw4⟩ : ∃ y, y = w3.alloc (.cells #[.int .i64 xk, .string xnm, .string xot, .bool xb, .slice xao xn xq, .slice xko xkn xkc, .int .i64 xln, .int .i64 xcl] 30) := ⟨_, rfl⟩
    have hb4 : Below w3.heap.size w3 w4 := by rw [hw4]; exact (Below.refl _ _).alloc (Nat.le_refl _) _
    have he4 : w4.heap[w3.heap.size]? = some (.cells #[.int .i64 xk, .string xnm, .string xot, .bool xb, .slice xao xn xq, .slice xko xkn xkc, .int .i64 xln, .int .i64 xcl] 30 (0, 0)) := by rw [hw4]; exact made_at w3 _ _ rfl
    rw [← hw4]
    obtain ⟨ke, hke⟩ : ∃ k, k = w3.heap.size := ⟨_, rfl⟩
    have hre : kr < ke := by rw [hke]; exact lt_of_block HR3.out
    have hge : g < ke := by rw [hke]; exact HP3.out.lt
    rw [← hke] at he4 ⊢
    have HE4 := Lib.hid he4
    have HR4 := Lib.hid ((hb4.block _ (lt_of_block HR3.out)).trans HR3.out)
    have HB4 := Lib.hid (HB3.out.trans (hb4.mono HB3.out.size))
    have HU4 := Lib.hid (HU3.out.below hb4)
    have HP4 := Lib.hid (HP3.out.below hb4)
    clear hw4 hb4 he4 hke
    go_wp2_with fail
    refine (finish_p g r.2 w4 HP4.out).mono ?_
    rintro e w5 ⟨ev, rfl, hev, hp, hg⟩
    have HR5 := Lib.hid ((hg.block _ (lt_of_block HR4.out) (fun e => by injection e with e; omega)).trans HR4.out)
    have HE5 := Lib.hid ((hg.block _ (lt_of_block HE4.out) (fun e => by injection e with e; omega)).trans HE4.out)
    have HB5 := Lib.hid (HB4.out.trans (grown_below hg HB4.out.size hgw))
    have HU5 := Lib.hid (HU4.out.grown hg (Nat.not_le.2 hgN))
    clear hp hg
    cases hfe : r.2.fin.err with
    | none =>
      rw [hfe] at hev
      have hev2 : ev = .nilIface := hev
      subst hev2
      have HX : Hid (exF l r = none) := Lib.hid (by unfold exF; rw [HF.out, hfe]; rfl)
      clear hev hfe
      have x0 := cell_at (v := .int .i64 xk) HE5.out 0 rfl
      have x1 := cell_at (v := .string xnm) HE5.out 1 rfl
      have x2 := cell_at (v := .string xot) HE5.out 2 rfl
      have x3 := cell_at (v := .bool xb) HE5.out 3 rfl
      have x4 := cell_at (v := .slice xao xn xq) HE5.out 4 rfl
      have x5 := cell_at (v := .slice xko xkn xkc) HE5.out 5 rfl
      have x6 := cell_at (v := .int .i64 xln) HE5.out 6 rfl
      have x7 := cell_at (v := .int .i64 xcl) HE5.out 7 rfl
      have z0 := cell_at (v := .int .i64 0) HR5.out 0 rfl
      have fz0 := froz_at HR5.out 0
      have z1 := cell_at (v := .string ⟨#[]⟩) HR5.out 1 rfl
      have fz1 := froz_at HR5.out 1
      have z2 := cell_at (v := .string ⟨#[]⟩) HR5.out 2 rfl
      have fz2 := froz_at HR5.out 2
      have z3 := cell_at (v := .bool false) HR5.out 3 rfl
      have fz3 := froz_at HR5.out 3
      have z4 := cell_at (v := .slice none 0 0) HR5.out 4 rfl
      have fz4 := froz_at HR5.out 4
      have z5 := cell_at (v := .slice none 0 0) HR5.out 5 rfl
      have fz5 := froz_at HR5.out 5
      have z6 := cell_at (v := .int .i64 0) HR5.out 6 rfl
      have fz6 := froz_at HR5.out 6
      have z7 := cell_at (v := .int .i64 0) HR5.out 7 rfl
      have fz7 := froz_at HR5.out 7
      go_wp2_with fail
      refine bodyPost_ret (v := .tuple #[.agg #[.int .i64 xk, .string xnm, .string xot, .bool xb, .slice xao xn xq, .slice xko xkn xkc, .int .i64 xln, .int .i64 xcl], .nilIface]) (by simp [results, Tryd.results5, go_sem, z0, z1, z2, z3, z4, z5, z6, z7]) rfl ⟨st8_below HB5.out hNr _ _ _ _ _ _ _ _, .inr ⟨HX.out, ⟨xk, xnm, xot, xb, xao, xn, xq, xko, xkn, xkc, xln, xcl⟩, rfl, ?_⟩⟩
      exact (HU5.out.grown (st8_grown _ _ _ _ _ _ _ _ _ _) (Nat.not_le.2 hrN)).mono fun b h => Nat.le_trans hwN h
    | some f =>
      rw [hfe] at hev
      obtain ⟨fc, fl, fk⟩ := f
      obtain ⟨q, rfl, hq, hqg⟩ := hev
      have HX : Hid (exF l r = some (fc, fl, fk)) := Lib.hid (by unfold exF; rw [HF.out, hfe]; rfl)
      have hqk : q ≠ kr := fun e => by subst e; have := HR5.out; unfold AtB at hq; rw [hq] at this; injection this with this; injection this with _ this; exact absurd this (by decide)
      have HA := Lib.hid hq
      clear hq hfe
      have z0 := cell_at (v := .int .i64 0) HR5.out 0 rfl
      have fz0 := froz_at HR5.out 0
      have z1 := cell_at (v := .string ⟨#[]⟩) HR5.out 1 rfl
      have fz1 := froz_at HR5.out 1
      have z2 := cell_at (v := .string ⟨#[]⟩) HR5.out 2 rfl
      have fz2 := froz_at HR5.out 2
      have z3 := cell_at (v := .bool false) HR5.out 3 rfl
      have fz3 := froz_at HR5.out 3
      have z4 := cell_at (v := .slice none 0 0) HR5.out 4 rfl
      have fz4 := froz_at HR5.out 4
      have z5 := cell_at (v := .slice none 0 0) HR5.out 5 rfl
      have fz5 := froz_at HR5.out 5
      have z6 := cell_at (v := .int .i64 0) HR5.out 6 rfl
      have fz6 := froz_at HR5.out 6
      have z7 := cell_at (v := .int .i64 0) HR5.out 7 rfl
      have fz7 := froz_at HR5.out 7
      go_wp2_with fail
      refine bodyPost_ret (v := .tuple #[.agg #[.int .i64 0, .string ⟨#[]⟩, .string ⟨#[]⟩, .bool false, .slice none 0 0, .slice none 0 0, .int .i64 0, .int .i64 0], .iface 45 (.pointer (some ⟨q, 0, none⟩))]) (by simp [results, Tryd.results5, go_sem, z0, z1, z2, z3, z4, z5, z6, z7]) rfl ⟨st8_below HB5.out hNr _ _ _ _ _ _ _ _, .inl ⟨(fc, fl, fk), _, HX.out, rfl, q, rfl, ?_⟩⟩
      have := HA.out
      unfold AtB at this ⊢
      exact (st8_other w5 kr _ _ _ _ _ _ _ _ hqk).trans this
end Go.Proofs.YtdpfgfkoboihcaaDoor
