/-
  The contract of binary: its loop over the operators.
-/
import Derived.Test.YtdpfgfkoboihcaaDoorPsG
import Derived.Test.YtdpfgfkoboihcaaDoorRel7
import Derived.BigQuiet
namespace Go.Proofs.YtdpfgfkoboihcaaDoor
open Go.RowKit
set_option maxRecDepth 100000
set_option linter.unusedVariables false

/-- How many tokens the parser at g has left. -/
def pLen (w : World) (g : Nat) : Nat := match w.cell? ⟨g, 0, none⟩ with | some (.slice _ n _) => n | _ => 0
theorem PS.len {w : World} {g : Nat} {s : St} (h : PS w g s) : pLen w g = s.rest.length := by
  obtain ⟨b, o, c, ev, h1, -⟩ := h.1
  unfold pLen; rw [cell_at (v := .slice (some ⟨b, o, none⟩) s.rest.length c) h1 0 rfl]
theorem len_exp (s : St) (w : Bs) : (s.exp w).rest.length ≤ s.rest.length := by unfold St.exp; split; exact len_tk s; exact len_fail s _ _
theorem len_name (s : St) : s.name.rest.length ≤ s.rest.length := by unfold St.name; split; exact len_tk s; exact Nat.le_trans (len_fail _ _ _) (len_tk s)
/-- Nothing that is read makes the rest longer. -/
theorem c_len (n : Nat) : (∀ s x, cExpr n s = some x → x.2.rest.length ≤ s.rest.length) ∧ (∀ s x, cLet n s = some x → x.2.rest.length ≤ s.rest.length) ∧ (∀ s x, cIf n s = some x → x.2.rest.length ≤ s.rest.length) ∧ (∀ s x, cMatch n s = some x → x.2.rest.length ≤ s.rest.length) ∧ (∀ s x, cAssert n s = some x → x.2.rest.length ≤ s.rest.length) ∧
    (∀ l s x, cBin n l s = some x → x.2.rest.length ≤ s.rest.length) ∧ (∀ l e v s x, cLoop n l e v s = some x → x.2.rest.length ≤ s.rest.length) ∧ (∀ s x, cOne n s = some x → x.2.rest.length ≤ s.rest.length) ∧ (∀ s x, cAtom n s = some x → x.2.rest.length ≤ s.rest.length) ∧ (∀ s x, cArgs n s = some x → x.2.rest.length ≤ s.rest.length) ∧ (∀ l s x, cMore n l s = some x → x.2.rest.length ≤ s.rest.length) := by
  induction n with
  | zero => refine ⟨?_, ?_, ?_, ?_, ?_, ?_, ?_, ?_, ?_, ?_, ?_⟩ <;> intros <;> simp_all [cExpr, cLet, cIf, cMatch, cAssert, cBin, cLoop, cOne, cAtom, cArgs, cMore]
  | succ n ih =>
    obtain ⟨i1, i2, i3, i4, i5, i6, i7, i8, i9, i10, i11⟩ := ih
    refine ⟨?_, ?_, ?_, ?_, ?_, ?_, ?_, ?_, ?_, ?_, ?_⟩
    · intro s x h
      rw [cExpr] at h
      split at h; exact i2 _ _ h
      split at h; exact i3 _ _ h
      split at h; exact i4 _ _ h
      split at h; exact i5 _ _ h
      exact i6 _ _ _ h
    · intro s x h
      rw [cLet] at h
      simp only [Option.bind_eq_some_iff] at h
      obtain ⟨r1, h1, r2, h2, h3⟩ := h
      injection h3 with h3; subst h3
      show r2.2.rest.length ≤ _
      exact Nat.le_trans (i1 _ _ h2) (Nat.le_trans (len_exp _ _) (Nat.le_trans (i1 _ _ h1) (Nat.le_trans (len_exp _ _) (Nat.le_trans (len_name _) (len_tk _)))))
    · intro s x h
      rw [cIf] at h
      simp only [Option.bind_eq_some_iff] at h
      obtain ⟨r1, h1, r2, h2, r3, h3, h4⟩ := h
      injection h4 with h4; subst h4
      show r3.2.rest.length ≤ _
      exact Nat.le_trans (i1 _ _ h3) (Nat.le_trans (len_exp _ _) (Nat.le_trans (i1 _ _ h2) (Nat.le_trans (len_exp _ _) (Nat.le_trans (i1 _ _ h1) (len_tk _)))))
    · intro s x h
      rw [cMatch] at h
      simp only [Option.bind_eq_some_iff] at h
      obtain ⟨r1, h1, r2, h2, r3, h3, h4⟩ := h
      injection h4 with h4; subst h4
      show r3.2.rest.length ≤ _
      refine Nat.le_trans (i1 _ _ h3) (Nat.le_trans (len_exp _ _) (Nat.le_trans (len_name _) (Nat.le_trans (len_exp _ _) (Nat.le_trans (len_name _) (Nat.le_trans (len_exp _ _) (Nat.le_trans (i1 _ _ h2) ?_))))))
      exact Nat.le_trans (len_exp _ _) (Nat.le_trans (len_exp _ _) (Nat.le_trans (len_exp _ _) (Nat.le_trans (i1 _ _ h1) (len_tk _))))
    · intro s x h
      rw [cAssert] at h
      simp only [Option.bind_eq_some_iff] at h
      obtain ⟨r1, h1, r2, h2, h3⟩ := h
      injection h3 with h3; subst h3
      show r2.2.rest.length ≤ _
      exact Nat.le_trans (i1 _ _ h2) (Nat.le_trans (len_exp _ _) (Nat.le_trans (i1 _ _ h1) (len_tk _)))
    · intro l s x h
      rw [cBin, Option.bind_eq_some_iff] at h
      obtain ⟨r1, h1, h2⟩ := h
      exact Nat.le_trans (i7 _ _ _ _ _ h2) (i8 _ _ h1)
    · intro l e v s x h
      rw [cLoop] at h
      split at h
      · injection h with h; subst h; exact Nat.le_refl _
      · split at h
        · injection h with h; subst h; exact Nat.le_refl _
        · rw [Option.bind_eq_some_iff] at h
          obtain ⟨r1, h1, h2⟩ := h
          exact Nat.le_trans (i7 _ _ _ _ _ h2) (Nat.le_trans (i6 _ _ _ h1) (len_tk _))
    · intro s x h
      rw [cOne] at h
      split at h
      · exact i9 _ _ h
      · rw [Option.bind_eq_some_iff] at h
        obtain ⟨r1, h1, h2⟩ := h
        injection h2 with h2; subst h2
        show r1.2.rest.length ≤ _
        exact Nat.le_trans (i8 _ _ h1) (len_tk _)
    · intro s x h
      rw [cAtom] at h
      split at h
      · injection h with h; subst h; exact len_tk _
      split at h
      · split at h
        · rw [Option.bind_eq_some_iff] at h
          obtain ⟨r1, h1, h2⟩ := h
          injection h2 with h2; subst h2
          exact Nat.le_trans (i10 _ _ h1) (Nat.le_trans (len_tk _) (len_tk _))
        · injection h with h; subst h; exact len_tk _
      split at h
      · injection h with h; subst h; exact len_tk _
      split at h
      · injection h with h; subst h; exact len_tk _
      split at h
      · injection h with h; subst h; exact len_tk _
      split at h
      · injection h with h; subst h; exact len_tk _
      split at h
      · rw [Option.bind_eq_some_iff] at h
        obtain ⟨r1, h1, h2⟩ := h
        injection h2 with h2; subst h2
        exact Nat.le_trans (len_exp _ _) (Nat.le_trans (i1 _ _ h1) (len_tk _))
      · injection h with h; subst h; exact Nat.le_trans (len_fail _ _ _) (len_tk _)
    · intro s x h
      rw [cArgs] at h
      split at h
      · injection h with h; subst h; exact len_tk _
      · rw [Option.bind_eq_some_iff] at h
        obtain ⟨r1, h1, h2⟩ := h
        exact Nat.le_trans (i11 _ _ _ h2) (i1 _ _ h1)
    · intro l s x h
      rw [cMore] at h
      split at h
      · rw [Option.bind_eq_some_iff] at h
        obtain ⟨r1, h1, h2⟩ := h
        exact Nat.le_trans (i11 _ _ _ h2) (Nat.le_trans (i1 _ _ h1) (len_tk _))
      · injection h with h; subst h; exact len_exp _ _

/-- What holds at the head of binary's loop. -/
def BinRel (n g : Nat) (w : World) (ke kr l : Nat) (r : U × St) (lv : Value) (wr : World) : Prop :=
  ∃ (m : Nat) (x : X) (u : U) (lev : Nat) (sj : St), lv = .int .i64 (lev : Nat) ∧ m ≤ n ∧ Hid (cLoop m l u lev sj = some r) ∧ Hid (wr.heap[ke]? = some (.cells #[.int .i64 x.k, .string x.nm, .string x.ot, .bool x.b, .slice x.ao x.n x.c, .slice x.ko x.kn x.kc, .int .i64 x.ln, .int .i64 x.cl] 30 (0, 0))) ∧ Hid (Um wr (fun b => w.heap.size ≤ b ∧ b ≠ ke ∧ b ≠ kr) x u) ∧ Hid (PS wr g sj) ∧ Hid (GOps wr g) ∧ Hid (w.grownBy wr (some g)) ∧ Hid (wr.heap[kr]? = some (.cells #[.int .i64 0, .string ⟨#[]⟩, .string ⟨#[]⟩, .bool false, .slice none 0 0, .slice none 0 0, .int .i64 0, .int .i64 0] 30 (0, 0)))
set_option maxHeartbeats 16000000 in
theorem bin_p (n : Nat) (O : Hid (OneAt n)) (B : Hid (∀ m, m < n → BinAt m)) : BinAt (n + 1) := by
  intro g l s r w hps hop hc
  have hgw : g < w.heap.size := hps.lt
  have HP := Lib.hid hps
  have HOP := Lib.hid hop
  clear hps hop
  rw [cBin, Option.bind_eq_some_iff] at hc
  obtain ⟨r1, h1, h2⟩ := hc
  have h1 := Lib.hid h1
  have h2 := Lib.hid h2
  go_enter Tryd.func29, Tryd.ntmps29
  go_upto_region 1 with fail
  obtain ⟨w1, hw⟩ : ∃ x, x = w.alloc (.cells #[.int .i64 0, .string ⟨#[]⟩, .string ⟨#[]⟩, .bool false, .slice none 0 0, .slice none 0 0, .int .i64 0, .int .i64 0] 30) := ⟨_, rfl⟩
  have hb : Below w.heap.size w w1 := by rw [hw]; exact (Below.refl _ _).alloc (Nat.le_refl _) _
  have hk : w1.heap[w.heap.size]? = some (.cells #[.int .i64 0, .string ⟨#[]⟩, .string ⟨#[]⟩, .bool false, .slice none 0 0, .slice none 0 0, .int .i64 0, .int .i64 0] 30 (0, 0)) := by rw [hw]; exact made_at w _ _ rfl
  rw [← hw]
  obtain ⟨kr, hkk⟩ : ∃ k, k = w.heap.size := ⟨_, rfl⟩
  have hgr : g < kr := by rw [hkk]; exact HP.out.lt
  have her : w.heap.size ≤ kr := by omega
  rw [← hkk] at hk ⊢
  replace HP := Lib.hid (HP.out.below hb)
  replace HOP := Lib.hid (HOP.out.below hb)
  have HD := Lib.hid (below_grown hb (some g))
  have hsz1 := HD.out.size
  have HBr := Lib.hid hk
  clear hw hb hk hkk
  go_wp2_with fail
  obtain ⟨Na, hN⟩ : ∃ k, k = w1.heap.size := ⟨_, rfl⟩
  have hr_Na : kr < Na := by rw [hN]; exact lt_of_block HBr.out
  have hg_Na : g < Na := by rw [hN]; exact HP.out.lt
  have he_Na : w.heap.size ≤ Na := by omega
  refine (O.out g _ _ w1 HP.out HOP.out h1.out).mono ?_
  rintro e w2 ⟨xa, rfl, hu, hp, hg⟩
  replace HBr := Lib.hid ((hg.block _ (lt_of_block HBr.out) (fun e => by injection e with e; omega)).trans HBr.out)
  replace HOP := Lib.hid (HOP.out.grown hg (by omega))
  replace HP := Lib.hid hp
  replace HD := Lib.hid (grown_tr HD.out (hg))
  have hsz2 := HD.out.size
  rw [← hN] at hu
  have HUa := Lib.hid (hu.mono (S' := fun b => Na ≤ b ∧ True) (fun b h => ⟨h, trivial⟩))
  clear hN hu
  clear hp hg
  obtain ⟨ak, anm, aot, ab, aao, an, aq, ako, akn, akc, aln, acl⟩ := xa
  simp only [xv]
  go_wp2_with fail
  obtain ⟨w3, hw⟩ : ∃ x, x = w2.alloc (.cells #[.int .i64 ak, .string anm, .string aot, .bool ab, .slice aao an aq, .slice ako akn akc, .int .i64 aln, .int .i64 acl] 30) := ⟨_, rfl⟩
  have hb : Below w2.heap.size w2 w3 := by rw [hw]; exact (Below.refl _ _).alloc (Nat.le_refl _) _
  have hk : w3.heap[w2.heap.size]? = some (.cells #[.int .i64 ak, .string anm, .string aot, .bool ab, .slice aao an aq, .slice ako akn akc, .int .i64 aln, .int .i64 acl] 30 (0, 0)) := by rw [hw]; exact made_at w2 _ _ rfl
  rw [← hw]
  obtain ⟨ke, hkk⟩ : ∃ k, k = w2.heap.size := ⟨_, rfl⟩
  have hge : g < ke := by rw [hkk]; exact HP.out.lt
  have hee : w.heap.size ≤ ke := by omega
  have hr_e : kr < ke := by rw [hkk]; exact lt_of_block HBr.out
  replace HUa := Lib.hid (HUa.out.off.mono (S' := fun b => (Na ≤ b ∧ True) ∧ b ≠ ke) (fun b h => ⟨h.1, fun e => h.2 (by rw [e, hkk])⟩))
  rw [← hkk] at hk ⊢
  replace HBr := Lib.hid ((hb.block _ (lt_of_block HBr.out)).trans HBr.out)
  replace HP := Lib.hid (HP.out.below hb)
  replace HUa := Lib.hid (HUa.out.below hb)
  replace HOP := Lib.hid (HOP.out.below hb)
  replace HD := Lib.hid (grown_tr HD.out (below_grown hb (some g)))
  have hsz3 := HD.out.size
  have HBe := Lib.hid hk
  clear hw hb hk hkk
  go_loopw [6] (fun lv wr => BinRel n g w ke kr l r lv wr) (fun _ wr => pLen wr g)
  case atStart => exact ⟨n, ⟨ak, anm, aot, ab, aao, an, aq, ako, akn, akc, aln, acl⟩, r1.1, 7, r1.2, rfl, Nat.le_refl _, Lib.hid h2.out, HBe, Lib.hid (HUa.out.mono (fun b h => by have h : (Na ≤ b ∧ True) ∧ b ≠ ke := h; exact ⟨by omega, by omega, by omega⟩)), HP, HOP, HD, HBr⟩
  case round =>
    obtain ⟨m, x, u, lev, sj, rfl, hm, HC, HBe, HUe, HP, HOP, HD, HBr⟩ := hrel
    obtain ⟨xk, xnm, xot, xb, xao, xn, xq, xko, xkn, xkc, xln, xcl⟩ := x
    simp only at HBe HUe
    have hsz100 := HD.out.size
    have HLN := Lib.hid HP.out.len
    have HGD := Lib.hid HP.out.good
    cases m with
    | zero => exact absurd HC.out (by simp [cLoop])
    | succ m =>
      have hcl := HC.out
      rw [cLoop] at hcl
      go_wp2_with fail
      refine (next_p g sj wr HP.out).mono ?_
      rintro e w101 ⟨rfl, hb⟩
      replace HBr := Lib.hid ((hb.block _ (lt_of_block HBr.out)).trans HBr.out)
      replace HBe := Lib.hid ((hb.block _ (lt_of_block HBe.out)).trans HBe.out)
      replace HP := Lib.hid (HP.out.below hb)
      replace HUe := Lib.hid (HUe.out.below hb)
      replace HOP := Lib.hid (HOP.out.below hb)
      replace HD := Lib.hid (grown_tr HD.out (below_grown hb (some g)))
      have hsz101 := HD.out.size
      clear hb
      simp only [tokV]
      have hf := field_text (sj.nx.kind : Nat) (sj.nx.line : Nat) (sj.nx.col : Nat) ⟨sj.nx.text.toArray⟩ w101
      go_wp2_with fail
      refine (binop_p sj.nx.text w101 HOP.out.1).mono ?_
      rintro e w102 ⟨rfl, hb⟩
      replace HBr := Lib.hid ((hb.block _ (lt_of_block HBr.out)).trans HBr.out)
      replace HBe := Lib.hid ((hb.block _ (lt_of_block HBe.out)).trans HBe.out)
      replace HP := Lib.hid (HP.out.below hb)
      replace HUe := Lib.hid (HUe.out.below hb)
      replace HOP := Lib.hid (HOP.out.below hb)
      replace HD := Lib.hid (grown_tr HD.out (below_grown hb (some g)))
      have hsz102 := HD.out.size
      clear hb
      clear hf
      cases ho : bopOf sj.nx.text with
      | none =>
        rw [ho] at hcl
        injection hcl with hcl
        subst hcl
        clear ho
        simp only [opV, Option.isSome_none]
        go_upto_region 3 with fail
        obtain ⟨w103, hw⟩ : ∃ x, x = w102.alloc (.cells #[.string ⟨#[]⟩, .int .i64 0, .int .i64 0, .int .i64 0, .int .i64 0] 104) := ⟨_, rfl⟩
        have hb : Below w102.heap.size w102 w103 := by rw [hw]; exact (Below.refl _ _).alloc (Nat.le_refl _) _
        have hk : w103.heap[w102.heap.size]? = some (.cells #[.string ⟨#[]⟩, .int .i64 0, .int .i64 0, .int .i64 0, .int .i64 0] 104 (0, 0)) := by rw [hw]; exact made_at w102 _ _ rfl
        rw [← hw]
        obtain ⟨kop, hkk⟩ : ∃ k, k = w102.heap.size := ⟨_, rfl⟩
        have hgop : g < kop := by rw [hkk]; exact HP.out.lt
        have heop : w.heap.size ≤ kop := by omega
        have hr_op : kr < kop := by rw [hkk]; exact lt_of_block HBr.out
        have he_op : ke < kop := by rw [hkk]; exact lt_of_block HBe.out
        replace HUe := Lib.hid (HUe.out.off.mono (S' := fun b => (w.heap.size ≤ b ∧ b ≠ ke ∧ b ≠ kr) ∧ b ≠ kop) (fun b h => ⟨h.1, fun e => h.2 (by rw [e, hkk])⟩))
        rw [← hkk] at hk ⊢
        replace HBr := Lib.hid ((hb.block _ (lt_of_block HBr.out)).trans HBr.out)
        replace HBe := Lib.hid ((hb.block _ (lt_of_block HBe.out)).trans HBe.out)
        replace HP := Lib.hid (HP.out.below hb)
        replace HUe := Lib.hid (HUe.out.below hb)
        replace HOP := Lib.hid (HOP.out.below hb)
        replace HD := Lib.hid (grown_tr HD.out (below_grown hb (some g)))
        have hsz103 := HD.out.size
        have HBop := Lib.hid hk
        clear hw hb hk hkk
        have o0 := cell_at (v := .string ⟨#[]⟩) HBop.out 0 rfl
        have o1 := cell_at (v := .int .i64 0) HBop.out 1 rfl
        have o2 := cell_at (v := .int .i64 0) HBop.out 2 rfl
        have o3 := cell_at (v := .int .i64 0) HBop.out 3 rfl
        have o4 := cell_at (v := .int .i64 0) HBop.out 4 rfl
        have ce0 := cell_at (v := .int .i64 xk) HBe.out 0 rfl
        have ce1 := cell_at (v := .string xnm) HBe.out 1 rfl
        have ce2 := cell_at (v := .string xot) HBe.out 2 rfl
        have ce3 := cell_at (v := .bool xb) HBe.out 3 rfl
        have ce4 := cell_at (v := .slice xao xn xq) HBe.out 4 rfl
        have ce5 := cell_at (v := .slice xko xkn xkc) HBe.out 5 rfl
        have ce6 := cell_at (v := .int .i64 xln) HBe.out 6 rfl
        have ce7 := cell_at (v := .int .i64 xcl) HBe.out 7 rfl
        have z0 := cell_at (v := .int .i64 0) HBr.out 0 rfl
        have fz0 := froz_at HBr.out 0
        have z1 := cell_at (v := .string ⟨#[]⟩) HBr.out 1 rfl
        have fz1 := froz_at HBr.out 1
        have z2 := cell_at (v := .string ⟨#[]⟩) HBr.out 2 rfl
        have fz2 := froz_at HBr.out 2
        have z3 := cell_at (v := .bool false) HBr.out 3 rfl
        have fz3 := froz_at HBr.out 3
        have z4 := cell_at (v := .slice none 0 0) HBr.out 4 rfl
        have fz4 := froz_at HBr.out 4
        have z5 := cell_at (v := .slice none 0 0) HBr.out 5 rfl
        have fz5 := froz_at HBr.out 5
        have z6 := cell_at (v := .int .i64 0) HBr.out 6 rfl
        have fz6 := froz_at HBr.out 6
        have z7 := cell_at (v := .int .i64 0) HBr.out 7 rfl
        have fz7 := froz_at HBr.out 7
        go_wp2_with fail
        refine bodyPost_ret (v := .agg #[.int .i64 xk, .string xnm, .string xot, .bool xb, .slice xao xn xq, .slice xko xkn xkc, .int .i64 xln, .int .i64 xcl]) (by simp [results, Tryd.results29, go_sem, z0, z1, z2, z3, z4, z5, z6, z7]) rfl ?_
        obtain ⟨wz, hw⟩ : ∃ x, x = st8 w103 kr (.int .i64 xk) (.string xnm) (.string xot) (.bool xb) (.slice xao xn xq) (.slice xko xkn xkc) (.int .i64 xln) (.int .i64 xcl) := ⟨_, rfl⟩
        have hg : w103.grownBy wz (some kr) := by rw [hw]; exact st8_grown _ _ _ _ _ _ _ _ _ _
        change TreePost w g _ _ _ (st8 w103 kr (.int .i64 xk) (.string xnm) (.string xot) (.bool xb) (.slice xao xn xq) (.slice xko xkn xkc) (.int .i64 xln) (.int .i64 xcl))
        rw [← hw]
        clear o0 o1 o2 o3 o4 ce0 ce1 ce2 ce3 ce4 ce5 ce6 ce7 z0 fz0 z1 fz1 z2 fz2 z3 fz3 z4 fz4 z5 fz5 z6 fz6 z7 fz7
        replace HP := Lib.hid (HP.out.store HBr.out (by decide) (by omega) hg)
        replace HBe := Lib.hid ((hg.block _ (lt_of_block HBe.out) (fun e => by injection e with e; omega)).trans HBe.out)
        replace HBop := Lib.hid ((hg.block _ (lt_of_block HBop.out) (fun e => by injection e with e; omega)).trans HBop.out)
        replace HUe := Lib.hid (HUe.out.grown hg (fun h => by have h : (w.heap.size ≤ kr ∧ kr ≠ ke ∧ kr ≠ kr) ∧ kr ≠ kop := h; omega))
        replace HOP := Lib.hid (HOP.out.grown hg (by omega))
        replace HD := Lib.hid (grown_new HD.out hg (by omega))
        have hsz103 := HD.out.size
        clear hw hg
        exact ⟨⟨xk, xnm, xot, xb, xao, xn, xq, xko, xkn, xkc, xln, xcl⟩, rfl, (HUe.out.mono (fun b h => by have h : (w.heap.size ≤ b ∧ b ≠ ke ∧ b ≠ kr) ∧ b ≠ kop := h; show _ ≤ b; omega)), HP.out, HD.out⟩
      | some op =>
        rw [ho] at hcl
        simp only at hcl
        have HOPP := Lib.hid ho
        clear ho
        simp only [opV, Option.isSome_some]
        by_cases hst : op.level < l ∨ lev < op.left
        · rw [if_pos hst] at hcl
          injection hcl with hcl
          subst hcl
          by_cases hs1 : op.level < l
          · have hs3 : decide (op.level < l) = true := by simpa using hs1
            clear hst
            go_upto_region 3 with fail
            obtain ⟨w103, hw⟩ : ∃ x, x = w102.alloc (.cells #[.string ⟨op.sign.toArray⟩, .int .i64 (op.kind : Nat), .int .i64 (op.level : Nat), .int .i64 (op.left : Nat), .int .i64 (op.right : Nat)] 104) := ⟨_, rfl⟩
            have hb : Below w102.heap.size w102 w103 := by rw [hw]; exact (Below.refl _ _).alloc (Nat.le_refl _) _
            have hk : w103.heap[w102.heap.size]? = some (.cells #[.string ⟨op.sign.toArray⟩, .int .i64 (op.kind : Nat), .int .i64 (op.level : Nat), .int .i64 (op.left : Nat), .int .i64 (op.right : Nat)] 104 (0, 0)) := by rw [hw]; exact made_at w102 _ _ rfl
            rw [← hw]
            obtain ⟨kop, hkk⟩ : ∃ k, k = w102.heap.size := ⟨_, rfl⟩
            have hgop : g < kop := by rw [hkk]; exact HP.out.lt
            have heop : w.heap.size ≤ kop := by omega
            have hr_op : kr < kop := by rw [hkk]; exact lt_of_block HBr.out
            have he_op : ke < kop := by rw [hkk]; exact lt_of_block HBe.out
            replace HUe := Lib.hid (HUe.out.off.mono (S' := fun b => (w.heap.size ≤ b ∧ b ≠ ke ∧ b ≠ kr) ∧ b ≠ kop) (fun b h => ⟨h.1, fun e => h.2 (by rw [e, hkk])⟩))
            rw [← hkk] at hk ⊢
            replace HBr := Lib.hid ((hb.block _ (lt_of_block HBr.out)).trans HBr.out)
            replace HBe := Lib.hid ((hb.block _ (lt_of_block HBe.out)).trans HBe.out)
            replace HP := Lib.hid (HP.out.below hb)
            replace HUe := Lib.hid (HUe.out.below hb)
            replace HOP := Lib.hid (HOP.out.below hb)
            replace HD := Lib.hid (grown_tr HD.out (below_grown hb (some g)))
            have hsz103 := HD.out.size
            have HBop := Lib.hid hk
            clear hw hb hk hkk
            have o0 := cell_at (v := .string ⟨op.sign.toArray⟩) HBop.out 0 rfl
            have o1 := cell_at (v := .int .i64 (op.kind : Nat)) HBop.out 1 rfl
            have o2 := cell_at (v := .int .i64 (op.level : Nat)) HBop.out 2 rfl
            have o3 := cell_at (v := .int .i64 (op.left : Nat)) HBop.out 3 rfl
            have o4 := cell_at (v := .int .i64 (op.right : Nat)) HBop.out 4 rfl
            have ce0 := cell_at (v := .int .i64 xk) HBe.out 0 rfl
            have ce1 := cell_at (v := .string xnm) HBe.out 1 rfl
            have ce2 := cell_at (v := .string xot) HBe.out 2 rfl
            have ce3 := cell_at (v := .bool xb) HBe.out 3 rfl
            have ce4 := cell_at (v := .slice xao xn xq) HBe.out 4 rfl
            have ce5 := cell_at (v := .slice xko xkn xkc) HBe.out 5 rfl
            have ce6 := cell_at (v := .int .i64 xln) HBe.out 6 rfl
            have ce7 := cell_at (v := .int .i64 xcl) HBe.out 7 rfl
            have z0 := cell_at (v := .int .i64 0) HBr.out 0 rfl
            have fz0 := froz_at HBr.out 0
            have z1 := cell_at (v := .string ⟨#[]⟩) HBr.out 1 rfl
            have fz1 := froz_at HBr.out 1
            have z2 := cell_at (v := .string ⟨#[]⟩) HBr.out 2 rfl
            have fz2 := froz_at HBr.out 2
            have z3 := cell_at (v := .bool false) HBr.out 3 rfl
            have fz3 := froz_at HBr.out 3
            have z4 := cell_at (v := .slice none 0 0) HBr.out 4 rfl
            have fz4 := froz_at HBr.out 4
            have z5 := cell_at (v := .slice none 0 0) HBr.out 5 rfl
            have fz5 := froz_at HBr.out 5
            have z6 := cell_at (v := .int .i64 0) HBr.out 6 rfl
            have fz6 := froz_at HBr.out 6
            have z7 := cell_at (v := .int .i64 0) HBr.out 7 rfl
            have fz7 := froz_at HBr.out 7
            go_wp2_with fail
            refine bodyPost_ret (v := .agg #[.int .i64 xk, .string xnm, .string xot, .bool xb, .slice xao xn xq, .slice xko xkn xkc, .int .i64 xln, .int .i64 xcl]) (by simp [results, Tryd.results29, go_sem, z0, z1, z2, z3, z4, z5, z6, z7]) rfl ?_
            obtain ⟨wz, hw⟩ : ∃ x, x = st8 w103 kr (.int .i64 xk) (.string xnm) (.string xot) (.bool xb) (.slice xao xn xq) (.slice xko xkn xkc) (.int .i64 xln) (.int .i64 xcl) := ⟨_, rfl⟩
            have hg : w103.grownBy wz (some kr) := by rw [hw]; exact st8_grown _ _ _ _ _ _ _ _ _ _
            change TreePost w g _ _ _ (st8 w103 kr (.int .i64 xk) (.string xnm) (.string xot) (.bool xb) (.slice xao xn xq) (.slice xko xkn xkc) (.int .i64 xln) (.int .i64 xcl))
            rw [← hw]
            clear o0 o1 o2 o3 o4 ce0 ce1 ce2 ce3 ce4 ce5 ce6 ce7 z0 fz0 z1 fz1 z2 fz2 z3 fz3 z4 fz4 z5 fz5 z6 fz6 z7 fz7
            replace HP := Lib.hid (HP.out.store HBr.out (by decide) (by omega) hg)
            replace HBe := Lib.hid ((hg.block _ (lt_of_block HBe.out) (fun e => by injection e with e; omega)).trans HBe.out)
            replace HBop := Lib.hid ((hg.block _ (lt_of_block HBop.out) (fun e => by injection e with e; omega)).trans HBop.out)
            replace HUe := Lib.hid (HUe.out.grown hg (fun h => by have h : (w.heap.size ≤ kr ∧ kr ≠ ke ∧ kr ≠ kr) ∧ kr ≠ kop := h; omega))
            replace HOP := Lib.hid (HOP.out.grown hg (by omega))
            replace HD := Lib.hid (grown_new HD.out hg (by omega))
            have hsz103 := HD.out.size
            clear hw hg
            exact ⟨⟨xk, xnm, xot, xb, xao, xn, xq, xko, xkn, xkc, xln, xcl⟩, rfl, (HUe.out.mono (fun b h => by have h : (w.heap.size ≤ b ∧ b ≠ ke ∧ b ≠ kr) ∧ b ≠ kop := h; show _ ≤ b; omega)), HP.out, HD.out⟩
          · have hs3 : decide (op.level < l) = false := by simpa using hs1
            have hs4 : decide (lev < op.left) = true := by have := hst.resolve_left hs1; simpa using this
            clear hst
            go_upto_region 3 with fail
            obtain ⟨w103, hw⟩ : ∃ x, x = w102.alloc (.cells #[.string ⟨op.sign.toArray⟩, .int .i64 (op.kind : Nat), .int .i64 (op.level : Nat), .int .i64 (op.left : Nat), .int .i64 (op.right : Nat)] 104) := ⟨_, rfl⟩
            have hb : Below w102.heap.size w102 w103 := by rw [hw]; exact (Below.refl _ _).alloc (Nat.le_refl _) _
            have hk : w103.heap[w102.heap.size]? = some (.cells #[.string ⟨op.sign.toArray⟩, .int .i64 (op.kind : Nat), .int .i64 (op.level : Nat), .int .i64 (op.left : Nat), .int .i64 (op.right : Nat)] 104 (0, 0)) := by rw [hw]; exact made_at w102 _ _ rfl
            rw [← hw]
            obtain ⟨kop, hkk⟩ : ∃ k, k = w102.heap.size := ⟨_, rfl⟩
            have hgop : g < kop := by rw [hkk]; exact HP.out.lt
            have heop : w.heap.size ≤ kop := by omega
            have hr_op : kr < kop := by rw [hkk]; exact lt_of_block HBr.out
            have he_op : ke < kop := by rw [hkk]; exact lt_of_block HBe.out
            replace HUe := Lib.hid (HUe.out.off.mono (S' := fun b => (w.heap.size ≤ b ∧ b ≠ ke ∧ b ≠ kr) ∧ b ≠ kop) (fun b h => ⟨h.1, fun e => h.2 (by rw [e, hkk])⟩))
            rw [← hkk] at hk ⊢
            replace HBr := Lib.hid ((hb.block _ (lt_of_block HBr.out)).trans HBr.out)
            replace HBe := Lib.hid ((hb.block _ (lt_of_block HBe.out)).trans HBe.out)
            replace HP := Lib.hid (HP.out.below hb)
            replace HUe := Lib.hid (HUe.out.below hb)
            replace HOP := Lib.hid (HOP.out.below hb)
            replace HD := Lib.hid (grown_tr HD.out (below_grown hb (some g)))
            have hsz103 := HD.out.size
            have HBop := Lib.hid hk
            clear hw hb hk hkk
            have o0 := cell_at (v := .string ⟨op.sign.toArray⟩) HBop.out 0 rfl
            have o1 := cell_at (v := .int .i64 (op.kind : Nat)) HBop.out 1 rfl
            have o2 := cell_at (v := .int .i64 (op.level : Nat)) HBop.out 2 rfl
            have o3 := cell_at (v := .int .i64 (op.left : Nat)) HBop.out 3 rfl
            have o4 := cell_at (v := .int .i64 (op.right : Nat)) HBop.out 4 rfl
            have ce0 := cell_at (v := .int .i64 xk) HBe.out 0 rfl
            have ce1 := cell_at (v := .string xnm) HBe.out 1 rfl
            have ce2 := cell_at (v := .string xot) HBe.out 2 rfl
            have ce3 := cell_at (v := .bool xb) HBe.out 3 rfl
            have ce4 := cell_at (v := .slice xao xn xq) HBe.out 4 rfl
            have ce5 := cell_at (v := .slice xko xkn xkc) HBe.out 5 rfl
            have ce6 := cell_at (v := .int .i64 xln) HBe.out 6 rfl
            have ce7 := cell_at (v := .int .i64 xcl) HBe.out 7 rfl
            have z0 := cell_at (v := .int .i64 0) HBr.out 0 rfl
            have fz0 := froz_at HBr.out 0
            have z1 := cell_at (v := .string ⟨#[]⟩) HBr.out 1 rfl
            have fz1 := froz_at HBr.out 1
            have z2 := cell_at (v := .string ⟨#[]⟩) HBr.out 2 rfl
            have fz2 := froz_at HBr.out 2
            have z3 := cell_at (v := .bool false) HBr.out 3 rfl
            have fz3 := froz_at HBr.out 3
            have z4 := cell_at (v := .slice none 0 0) HBr.out 4 rfl
            have fz4 := froz_at HBr.out 4
            have z5 := cell_at (v := .slice none 0 0) HBr.out 5 rfl
            have fz5 := froz_at HBr.out 5
            have z6 := cell_at (v := .int .i64 0) HBr.out 6 rfl
            have fz6 := froz_at HBr.out 6
            have z7 := cell_at (v := .int .i64 0) HBr.out 7 rfl
            have fz7 := froz_at HBr.out 7
            go_wp2_with fail
            refine bodyPost_ret (v := .agg #[.int .i64 xk, .string xnm, .string xot, .bool xb, .slice xao xn xq, .slice xko xkn xkc, .int .i64 xln, .int .i64 xcl]) (by simp [results, Tryd.results29, go_sem, z0, z1, z2, z3, z4, z5, z6, z7]) rfl ?_
            obtain ⟨wz, hw⟩ : ∃ x, x = st8 w103 kr (.int .i64 xk) (.string xnm) (.string xot) (.bool xb) (.slice xao xn xq) (.slice xko xkn xkc) (.int .i64 xln) (.int .i64 xcl) := ⟨_, rfl⟩
            have hg : w103.grownBy wz (some kr) := by rw [hw]; exact st8_grown _ _ _ _ _ _ _ _ _ _
            change TreePost w g _ _ _ (st8 w103 kr (.int .i64 xk) (.string xnm) (.string xot) (.bool xb) (.slice xao xn xq) (.slice xko xkn xkc) (.int .i64 xln) (.int .i64 xcl))
            rw [← hw]
            clear o0 o1 o2 o3 o4 ce0 ce1 ce2 ce3 ce4 ce5 ce6 ce7 z0 fz0 z1 fz1 z2 fz2 z3 fz3 z4 fz4 z5 fz5 z6 fz6 z7 fz7
            replace HP := Lib.hid (HP.out.store HBr.out (by decide) (by omega) hg)
            replace HBe := Lib.hid ((hg.block _ (lt_of_block HBe.out) (fun e => by injection e with e; omega)).trans HBe.out)
            replace HBop := Lib.hid ((hg.block _ (lt_of_block HBop.out) (fun e => by injection e with e; omega)).trans HBop.out)
            replace HUe := Lib.hid (HUe.out.grown hg (fun h => by have h : (w.heap.size ≤ kr ∧ kr ≠ ke ∧ kr ≠ kr) ∧ kr ≠ kop := h; omega))
            replace HOP := Lib.hid (HOP.out.grown hg (by omega))
            replace HD := Lib.hid (grown_new HD.out hg (by omega))
            have hsz103 := HD.out.size
            clear hw hg
            exact ⟨⟨xk, xnm, xot, xb, xao, xn, xq, xko, xkn, xkc, xln, xcl⟩, rfl, (HUe.out.mono (fun b h => by have h : (w.heap.size ≤ b ∧ b ≠ ke ∧ b ≠ kr) ∧ b ≠ kop := h; show _ ≤ b; omega)), HP.out, HD.out⟩
        · rw [if_neg hst, Option.bind_eq_some_iff] at hcl
          obtain ⟨r2, hc2, hc3⟩ := hcl
          have hs3 : decide (op.level < l) = false := by simp; omega
          have hs4 : decide (lev < op.left) = false := by simp; omega
          have HC2 := Lib.hid hc2
          have HC3 := Lib.hid hc3
          clear hst hc2 hc3
          go_upto_region 3 with fail
          obtain ⟨w103, hw⟩ : ∃ x, x = w102.alloc (.cells #[.string ⟨op.sign.toArray⟩, .int .i64 (op.kind : Nat), .int .i64 (op.level : Nat), .int .i64 (op.left : Nat), .int .i64 (op.right : Nat)] 104) := ⟨_, rfl⟩
          have hb : Below w102.heap.size w102 w103 := by rw [hw]; exact (Below.refl _ _).alloc (Nat.le_refl _) _
          have hk : w103.heap[w102.heap.size]? = some (.cells #[.string ⟨op.sign.toArray⟩, .int .i64 (op.kind : Nat), .int .i64 (op.level : Nat), .int .i64 (op.left : Nat), .int .i64 (op.right : Nat)] 104 (0, 0)) := by rw [hw]; exact made_at w102 _ _ rfl
          rw [← hw]
          obtain ⟨kop, hkk⟩ : ∃ k, k = w102.heap.size := ⟨_, rfl⟩
          have hgop : g < kop := by rw [hkk]; exact HP.out.lt
          have heop : w.heap.size ≤ kop := by omega
          have hr_op : kr < kop := by rw [hkk]; exact lt_of_block HBr.out
          have he_op : ke < kop := by rw [hkk]; exact lt_of_block HBe.out
          replace HUe := Lib.hid (HUe.out.off.mono (S' := fun b => (w.heap.size ≤ b ∧ b ≠ ke ∧ b ≠ kr) ∧ b ≠ kop) (fun b h => ⟨h.1, fun e => h.2 (by rw [e, hkk])⟩))
          rw [← hkk] at hk ⊢
          replace HBr := Lib.hid ((hb.block _ (lt_of_block HBr.out)).trans HBr.out)
          replace HBe := Lib.hid ((hb.block _ (lt_of_block HBe.out)).trans HBe.out)
          replace HP := Lib.hid (HP.out.below hb)
          replace HUe := Lib.hid (HUe.out.below hb)
          replace HOP := Lib.hid (HOP.out.below hb)
          replace HD := Lib.hid (grown_tr HD.out (below_grown hb (some g)))
          have hsz103 := HD.out.size
          have HBop := Lib.hid hk
          clear hw hb hk hkk
          have o0 := cell_at (v := .string ⟨op.sign.toArray⟩) HBop.out 0 rfl
          have o1 := cell_at (v := .int .i64 (op.kind : Nat)) HBop.out 1 rfl
          have o2 := cell_at (v := .int .i64 (op.level : Nat)) HBop.out 2 rfl
          have o3 := cell_at (v := .int .i64 (op.left : Nat)) HBop.out 3 rfl
          have o4 := cell_at (v := .int .i64 (op.right : Nat)) HBop.out 4 rfl
          go_wp2_with fail
          refine (take_p g sj w103 HP.out).mono ?_
          rintro e w104 ⟨rfl, hp, hg⟩
          clear o0 o1 o2 o3 o4
          replace HBr := Lib.hid ((hg.block _ (lt_of_block HBr.out) (fun e => by injection e with e; omega)).trans HBr.out)
          replace HBe := Lib.hid ((hg.block _ (lt_of_block HBe.out) (fun e => by injection e with e; omega)).trans HBe.out)
          replace HBop := Lib.hid ((hg.block _ (lt_of_block HBop.out) (fun e => by injection e with e; omega)).trans HBop.out)
          replace HUe := Lib.hid (HUe.out.grown hg (fun h => by have h : (w.heap.size ≤ g ∧ g ≠ ke ∧ g ≠ kr) ∧ g ≠ kop := h; omega))
          replace HOP := Lib.hid (HOP.out.grown hg (by omega))
          replace HP := Lib.hid hp
          replace HD := Lib.hid (grown_tr HD.out (hg))
          have hsz104 := HD.out.size
          clear hp hg
          simp only [tokV]
          obtain ⟨t, hnx⟩ : ∃ t, t = St.nx sj := ⟨_, rfl⟩
          rw [← hnx]
          have HNt := Lib.hid hnx
          clear hnx
          go_upto_region 6 with fail
          obtain ⟨w105, hw⟩ : ∃ x, x = w104.alloc (.cells #[.int .i64 (t.kind : Nat), .string ⟨t.text.toArray⟩, .int .i64 (t.line : Nat), .int .i64 (t.col : Nat)] 57) := ⟨_, rfl⟩
          have hb : Below w104.heap.size w104 w105 := by rw [hw]; exact (Below.refl _ _).alloc (Nat.le_refl _) _
          have hk : w105.heap[w104.heap.size]? = some (.cells #[.int .i64 (t.kind : Nat), .string ⟨t.text.toArray⟩, .int .i64 (t.line : Nat), .int .i64 (t.col : Nat)] 57 (0, 0)) := by rw [hw]; exact made_at w104 _ _ rfl
          rw [← hw]
          obtain ⟨kt, hkk⟩ : ∃ k, k = w104.heap.size := ⟨_, rfl⟩
          have hgt : g < kt := by rw [hkk]; exact HP.out.lt
          have het : w.heap.size ≤ kt := by omega
          have hr_t : kr < kt := by rw [hkk]; exact lt_of_block HBr.out
          have he_t : ke < kt := by rw [hkk]; exact lt_of_block HBe.out
          have hop_t : kop < kt := by rw [hkk]; exact lt_of_block HBop.out
          replace HUe := Lib.hid (HUe.out.off.mono (S' := fun b => ((w.heap.size ≤ b ∧ b ≠ ke ∧ b ≠ kr) ∧ b ≠ kop) ∧ b ≠ kt) (fun b h => ⟨h.1, fun e => h.2 (by rw [e, hkk])⟩))
          rw [← hkk] at hk ⊢
          replace HBr := Lib.hid ((hb.block _ (lt_of_block HBr.out)).trans HBr.out)
          replace HBe := Lib.hid ((hb.block _ (lt_of_block HBe.out)).trans HBe.out)
          replace HBop := Lib.hid ((hb.block _ (lt_of_block HBop.out)).trans HBop.out)
          replace HP := Lib.hid (HP.out.below hb)
          replace HUe := Lib.hid (HUe.out.below hb)
          replace HOP := Lib.hid (HOP.out.below hb)
          replace HD := Lib.hid (grown_tr HD.out (below_grown hb (some g)))
          have hsz105 := HD.out.size
          have HBt := Lib.hid hk
          clear hw hb hk hkk
          have o0 := cell_at (v := .string ⟨op.sign.toArray⟩) HBop.out 0 rfl
          have o1 := cell_at (v := .int .i64 (op.kind : Nat)) HBop.out 1 rfl
          have o2 := cell_at (v := .int .i64 (op.level : Nat)) HBop.out 2 rfl
          have o3 := cell_at (v := .int .i64 (op.left : Nat)) HBop.out 3 rfl
          have o4 := cell_at (v := .int .i64 (op.right : Nat)) HBop.out 4 rfl
          go_wp2_with fail
          obtain ⟨Nb, hN⟩ : ∃ k, k = w105.heap.size := ⟨_, rfl⟩
          have hr_Nb : kr < Nb := by rw [hN]; exact lt_of_block HBr.out
          have he_Nb : ke < Nb := by rw [hN]; exact lt_of_block HBe.out
          have hop_Nb : kop < Nb := by rw [hN]; exact lt_of_block HBop.out
          have ht_Nb : kt < Nb := by rw [hN]; exact lt_of_block HBt.out
          have hg_Nb : g < Nb := by rw [hN]; exact HP.out.lt
          have he_Nb : w.heap.size ≤ Nb := by omega
          refine (B.out m (by omega) g op.right _ _ w105 HP.out HOP.out HC2.out).mono ?_
          rintro e w106 ⟨xb, rfl, hu, hp, hg⟩
          clear o0 o1 o2 o3 o4
          replace HBr := Lib.hid ((hg.block _ (lt_of_block HBr.out) (fun e => by injection e with e; omega)).trans HBr.out)
          replace HBe := Lib.hid ((hg.block _ (lt_of_block HBe.out) (fun e => by injection e with e; omega)).trans HBe.out)
          replace HBop := Lib.hid ((hg.block _ (lt_of_block HBop.out) (fun e => by injection e with e; omega)).trans HBop.out)
          replace HBt := Lib.hid ((hg.block _ (lt_of_block HBt.out) (fun e => by injection e with e; omega)).trans HBt.out)
          replace HUe := Lib.hid (HUe.out.grown hg (fun h => by have h : ((w.heap.size ≤ g ∧ g ≠ ke ∧ g ≠ kr) ∧ g ≠ kop) ∧ g ≠ kt := h; omega))
          replace HOP := Lib.hid (HOP.out.grown hg (by omega))
          replace HP := Lib.hid hp
          replace HD := Lib.hid (grown_tr HD.out (hg))
          have hsz106 := HD.out.size
          rw [← hN] at hu
          have HUb := Lib.hid (hu.mono (S' := fun b => Nb ≤ b ∧ True) (fun b h => ⟨h, trivial⟩))
          clear hN hu
          clear hp hg
          obtain ⟨bk, bnm, bot, bb, bao, bn, bq, bko, bkn, bkc, bln, bcl⟩ := xb
          simp only [xv]
          go_upto_region 7 with fail
          obtain ⟨w107, hw⟩ : ∃ x, x = w106.alloc (.cells #[.int .i64 bk, .string bnm, .string bot, .bool bb, .slice bao bn bq, .slice bko bkn bkc, .int .i64 bln, .int .i64 bcl] 30) := ⟨_, rfl⟩
          have hb : Below w106.heap.size w106 w107 := by rw [hw]; exact (Below.refl _ _).alloc (Nat.le_refl _) _
          have hk : w107.heap[w106.heap.size]? = some (.cells #[.int .i64 bk, .string bnm, .string bot, .bool bb, .slice bao bn bq, .slice bko bkn bkc, .int .i64 bln, .int .i64 bcl] 30 (0, 0)) := by rw [hw]; exact made_at w106 _ _ rfl
          rw [← hw]
          obtain ⟨kb, hkk⟩ : ∃ k, k = w106.heap.size := ⟨_, rfl⟩
          have hgb : g < kb := by rw [hkk]; exact HP.out.lt
          have heb : w.heap.size ≤ kb := by omega
          have hr_b : kr < kb := by rw [hkk]; exact lt_of_block HBr.out
          have he_b : ke < kb := by rw [hkk]; exact lt_of_block HBe.out
          have hop_b : kop < kb := by rw [hkk]; exact lt_of_block HBop.out
          have ht_b : kt < kb := by rw [hkk]; exact lt_of_block HBt.out
          replace HUe := Lib.hid (HUe.out.off.mono (S' := fun b => (((w.heap.size ≤ b ∧ b ≠ ke ∧ b ≠ kr) ∧ b ≠ kop) ∧ b ≠ kt) ∧ b ≠ kb) (fun b h => ⟨h.1, fun e => h.2 (by rw [e, hkk])⟩))
          replace HUb := Lib.hid (HUb.out.off.mono (S' := fun b => (Nb ≤ b ∧ True) ∧ b ≠ kb) (fun b h => ⟨h.1, fun e => h.2 (by rw [e, hkk])⟩))
          rw [← hkk] at hk ⊢
          replace HBr := Lib.hid ((hb.block _ (lt_of_block HBr.out)).trans HBr.out)
          replace HBe := Lib.hid ((hb.block _ (lt_of_block HBe.out)).trans HBe.out)
          replace HBop := Lib.hid ((hb.block _ (lt_of_block HBop.out)).trans HBop.out)
          replace HBt := Lib.hid ((hb.block _ (lt_of_block HBt.out)).trans HBt.out)
          replace HP := Lib.hid (HP.out.below hb)
          replace HUe := Lib.hid (HUe.out.below hb)
          replace HUb := Lib.hid (HUb.out.below hb)
          replace HOP := Lib.hid (HOP.out.below hb)
          replace HD := Lib.hid (grown_tr HD.out (below_grown hb (some g)))
          have hsz107 := HD.out.size
          have HBb := Lib.hid hk
          clear hw hb hk hkk
          have hlt_op := lt_of_block HBop.out
          have hlt_t := lt_of_block HBt.out
          have hlt_b := lt_of_block HBb.out
          have hlt_e := lt_of_block HBe.out
          have hog : ∀ q, q < 1 → (fun q => ke) q < w107.heap.size := fun q _ => by show ke < _; exact lt_of_block HBe.out
          refine Rel7.region (by kernel_rfl) [[], [0], [], [], [], [3, 4], [0, 1, 2, 3, 4, 5], [], [7], [0, 1, 2, 3, 4, 5, 6], [0, 1, 2, 3, 4, 5, 6, 7, 8, 9]] [] [(9, 1000)] (fun q => ke) 1 11 (by kernel_rfl) (by kernel_rfl) (by rfl) hog (fun q q' h h' hn => absurd hn (by omega)) ?_
          refine Rel7.Chain.det ?_ (by rfl) (fun T xs wr hA => ?_) ?_
          rotate_left 1
          · have e7 := hA.pre 7 (by kernel_rfl)
            simp only [List.getElem?_toArray, List.getElem?_cons_succ, List.getElem?_cons_zero] at e7
            clear hA
            refine ⟨(by rfl), ?_⟩
            go_simp <;> (try with_reducible rfl)
          refine Rel7.Chain.det ?_ (by rfl) (fun T xs wr hA => ?_) ?_
          rotate_left 1
          · have e41 := hA.tm 0 41 (by rfl) (by rfl)
            have f41 : xs 0 = _ := hA.fa 0 (by rfl)
            (try simp (disch := first | rfl | decide) only [Rel7.mask_in] at f41)
            rw [f41] at e41
            clear f41
            have hBq : wr.heap[kop]? = _ := (hA.bl _ hlt_op (fun q _ => by show ke ≠ kop; omega)).trans HBop.out
            have q0 := cell_at (v := .string ⟨op.sign.toArray⟩) hBq 0 rfl
            have q1 := cell_at (v := .int .i64 (op.kind : Nat)) hBq 1 rfl
            have q2 := cell_at (v := .int .i64 (op.level : Nat)) hBq 2 rfl
            have q3 := cell_at (v := .int .i64 (op.left : Nat)) hBq 3 rfl
            have q4 := cell_at (v := .int .i64 (op.right : Nat)) hBq 4 rfl
            clear hBq
            clear hA
            refine ⟨(by rfl), ?_⟩
            go_simp <;> (try with_reducible rfl)
          refine Rel7.Chain.det ?_ (by rfl) (fun T xs wr hA => ?_) ?_
          rotate_left 1
          · have e9 := hA.pre 9 (by kernel_rfl)
            simp only [List.getElem?_toArray, List.getElem?_cons_succ, List.getElem?_cons_zero] at e9
            have hBq : wr.heap[kt]? = _ := (hA.bl _ hlt_t (fun q _ => by show ke ≠ kt; omega)).trans HBt.out
            have q0 := cell_at (v := .int .i64 (t.kind : Nat)) hBq 0 rfl
            have q1 := cell_at (v := .string ⟨t.text.toArray⟩) hBq 1 rfl
            have q2 := cell_at (v := .int .i64 (t.line : Nat)) hBq 2 rfl
            have q3 := cell_at (v := .int .i64 (t.col : Nat)) hBq 3 rfl
            clear hBq
            clear hA
            refine ⟨(by rfl), ?_⟩
            go_simp <;> (try with_reducible rfl)
          refine Rel7.Chain.det ?_ (by rfl) (fun T xs wr hA => ?_) ?_
          rotate_left 1
          · have e5 := hA.pre 5 (by kernel_rfl)
            simp only [List.getElem?_toArray, List.getElem?_cons_succ, List.getElem?_cons_zero] at e5
            have hBq : wr.heap[ke]? = _ := (hA.od 0 (by decide) (fun k' h => by rw [Rel7.own_one (k := 9) (by rfl) k' h]; first | exact .inr (by decide) | exact .inl rfl)).trans HBe.out
            have q0 := cell_at (v := .int .i64 xk) hBq 0 rfl
            have q1 := cell_at (v := .string xnm) hBq 1 rfl
            have q2 := cell_at (v := .string xot) hBq 2 rfl
            have q3 := cell_at (v := .bool xb) hBq 3 rfl
            have q4 := cell_at (v := .slice xao xn xq) hBq 4 rfl
            have q5 := cell_at (v := .slice xko xkn xkc) hBq 5 rfl
            have q6 := cell_at (v := .int .i64 xln) hBq 6 rfl
            have q7 := cell_at (v := .int .i64 xcl) hBq 7 rfl
            clear hBq
            clear hA
            refine ⟨(by rfl), ?_⟩
            go_simp <;> (try with_reducible rfl)
          refine Rel7.Chain.det ?_ (by rfl) (fun T xs wr hA => ?_) ?_
          rotate_left 1
          · have e10 := hA.pre 10 (by kernel_rfl)
            simp only [List.getElem?_toArray, List.getElem?_cons_succ, List.getElem?_cons_zero] at e10
            have hBq : wr.heap[kb]? = _ := (hA.bl _ hlt_b (fun q _ => by show ke ≠ kb; omega)).trans HBb.out
            have q0 := cell_at (v := .int .i64 bk) hBq 0 rfl
            have q1 := cell_at (v := .string bnm) hBq 1 rfl
            have q2 := cell_at (v := .string bot) hBq 2 rfl
            have q3 := cell_at (v := .bool bb) hBq 3 rfl
            have q4 := cell_at (v := .slice bao bn bq) hBq 4 rfl
            have q5 := cell_at (v := .slice bko bkn bkc) hBq 5 rfl
            have q6 := cell_at (v := .int .i64 bln) hBq 6 rfl
            have q7 := cell_at (v := .int .i64 bcl) hBq 7 rfl
            clear hBq
            clear hA
            refine ⟨(by rfl), ?_⟩
            go_simp <;> (try with_reducible rfl)
          refine Rel7.Chain.call (fun xs v w => ∃ g, v = .slice (some ⟨g, 0, none⟩) 2 2 ∧ w107.heap.size ≤ g ∧ w.heap[g]? = some (.cells #[.int .i64 xk, .string xnm, .string xot, .bool xb, .slice xao xn xq, .slice xko xkn xkc, .int .i64 xln, .int .i64 xcl, .int .i64 bk, .string bnm, .string bot, .bool bb, .slice bao bn bq, .slice bko bkn bkc, .int .i64 bln, .int .i64 bcl] 30 (0, 0))) (fun _ _ _ _ ⟨g, hv, hl, hg⟩ hb => ⟨g, hv, hl, by rw [hb.block g (Array.getElem?_eq_some_iff.1 hg).1]; exact hg⟩) (fun _ _ _ _ _ ⟨g, hv, hl, hg⟩ ⟨q, hq, e⟩ hp => ⟨g, hv, hl, by rw [hp.block g (Array.getElem?_eq_some_iff.1 hg).1 (fun h => by have := hog q hq; omega)]; exact hg⟩) (by rfl) (fun T xs wr hA => ?_) ?_
          · have hsw := (hA.be 0 (Nat.zero_le _) (fun _ _ => Nat.zero_le _)).size
            have e44 := hA.tm 3 44 (by rfl) (by rfl)
            have f44 : xs 3 = _ := hA.fa 3 (by rfl)
            (try simp (disch := first | rfl | decide) only [Rel7.mask_in] at f44)
            rw [f44] at e44
            clear f44
            have e45 := hA.tm 4 45 (by rfl) (by rfl)
            have f45 : xs 4 = _ := hA.fa 4 (by rfl)
            (try simp (disch := first | rfl | decide) only [Rel7.mask_in] at f45)
            rw [f45] at e45
            clear f45
            clear hA
            refine ⟨(by rfl), fun K hK => ?_⟩
            go_simp
            exact hK.out _ _ ⟨_, rfl, hsw, by simpa using made_at wr _ _ rfl⟩ ((Below.refl _ _).alloc (Nat.le_refl _) _)
          refine Rel7.Chain.call (fun xs v w => ∃ g5, (xs 5) = .slice (some ⟨g5, 0, none⟩) 2 2 ∧ v = .agg #[.int .i64 (op.kind : Nat), .string ⟨#[]⟩, .string ⟨#[]⟩, .bool false, .slice none 0 0, .slice (some ⟨g5, 0, none⟩) 2 2, .int .i64 (t.line : Nat), .int .i64 (t.col : Nat)]) (fun _ _ _ _ h _ => h) (fun _ _ _ _ _ h _ _ => h) (by rfl) (fun T xs wr hA => ?_) ?_
          · have hsw := (hA.be 0 (Nat.zero_le _) (fun _ _ => Nat.zero_le _)).size
            have e42 := hA.tm 1 42 (by rfl) (by rfl)
            have f42 : xs 1 = _ := hA.fa 1 (by rfl)
            (try simp (disch := first | rfl | decide) only [Rel7.mask_in] at f42)
            rw [f42] at e42
            clear f42
            have e43 := hA.tm 2 43 (by rfl) (by rfl)
            have f43 : xs 2 = _ := hA.fa 2 (by rfl)
            (try simp (disch := first | rfl | decide) only [Rel7.mask_in] at f43)
            rw [f43] at e43
            clear f43
            have e46 := hA.tm 5 46 (by rfl) (by rfl)
            have hF5 : ∃ g, (xs 5) = .slice (some ⟨g, 0, none⟩) 2 2 ∧ w107.heap.size ≤ g ∧ wr.heap[g]? = some (.cells #[.int .i64 xk, .string xnm, .string xot, .bool xb, .slice xao xn xq, .slice xko xkn xkc, .int .i64 xln, .int .i64 xcl, .int .i64 bk, .string bnm, .string bot, .bool bb, .slice bao bn bq, .slice bko bkn bkc, .int .i64 bln, .int .i64 bcl] 30 (0, 0)) := hA.fa 5 (by rfl)
            obtain ⟨g5, hv5, -, -⟩ := hF5
            rw [hv5] at e46
            clear hA
            refine ⟨(by rfl), fun K hK => ?_⟩
            go_simp
            refine (part_p op.kind t (some ⟨g5, 0, none⟩) 2 2 _).mono ?_
            rintro e w' ⟨rfl, hb⟩
            exact hK.out _ _ ⟨g5, hv5, rfl⟩ hb
          refine Rel7.Chain.det ?_ (by rfl) (fun T xs wr hA => ?_) ?_
          rotate_left 1
          · have e7 := hA.pre 7 (by kernel_rfl)
            simp only [List.getElem?_toArray, List.getElem?_cons_succ, List.getElem?_cons_zero] at e7
            clear hA
            refine ⟨(by rfl), ?_⟩
            go_simp <;> (try with_reducible rfl)
          refine Rel7.Chain.det ?_ (by rfl) (fun T xs wr hA => ?_) ?_
          rotate_left 1
          · have e48 := hA.tm 7 48 (by rfl) (by rfl)
            have f48 : xs 7 = _ := hA.fa 7 (by rfl)
            (try simp (disch := first | rfl | decide) only [Rel7.mask_in] at f48)
            rw [f48] at e48
            clear f48
            have hBq : wr.heap[kop]? = _ := (hA.bl _ hlt_op (fun q _ => by show ke ≠ kop; omega)).trans HBop.out
            have q0 := cell_at (v := .string ⟨op.sign.toArray⟩) hBq 0 rfl
            have q1 := cell_at (v := .int .i64 (op.kind : Nat)) hBq 1 rfl
            have q2 := cell_at (v := .int .i64 (op.level : Nat)) hBq 2 rfl
            have q3 := cell_at (v := .int .i64 (op.left : Nat)) hBq 3 rfl
            have q4 := cell_at (v := .int .i64 (op.right : Nat)) hBq 4 rfl
            clear hBq
            clear hA
            refine ⟨(by rfl), ?_⟩
            go_simp <;> (try with_reducible rfl)
          refine Rel7.Chain.storeOld 0 6 30 (by rfl) (by rfl) (by decide) (Rel7.own_one (by rfl)) (fun T xs wr hA hold => ?_) ?_
          · have e5 := hA.pre 5 (by kernel_rfl)
            simp only [List.getElem?_toArray, List.getElem?_cons_succ, List.getElem?_cons_zero] at e5
            have e47 := hA.tm 6 47 (by rfl) (by rfl)
            have hF6 : ∃ g5, (xs 5) = .slice (some ⟨g5, 0, none⟩) 2 2 ∧ (xs 6) = .agg #[.int .i64 (op.kind : Nat), .string ⟨#[]⟩, .string ⟨#[]⟩, .bool false, .slice none 0 0, .slice (some ⟨g5, 0, none⟩) 2 2, .int .i64 (t.line : Nat), .int .i64 (t.col : Nat)] := hA.fa 6 (by rfl)
            obtain ⟨g5, hv5, hv6⟩ := hF6
            rw [hv6] at e47
            have hBq : wr.heap[ke]? = some (.cells #[.int .i64 xk, .string xnm, .string xot, .bool xb, .slice xao xn xq, .slice xko xkn xkc, .int .i64 xln, .int .i64 xcl] 30 (0, 0)) := hold.trans HBe.out
            have q0 := cell_at (v := .int .i64 xk) hBq 0 rfl
            have fq0 := froz_at hBq 0
            have q1 := cell_at (v := .string xnm) hBq 1 rfl
            have fq1 := froz_at hBq 1
            have q2 := cell_at (v := .string xot) hBq 2 rfl
            have fq2 := froz_at hBq 2
            have q3 := cell_at (v := .bool xb) hBq 3 rfl
            have fq3 := froz_at hBq 3
            have q4 := cell_at (v := .slice xao xn xq) hBq 4 rfl
            have fq4 := froz_at hBq 4
            have q5 := cell_at (v := .slice xko xkn xkc) hBq 5 rfl
            have fq5 := froz_at hBq 5
            have q6 := cell_at (v := .int .i64 xln) hBq 6 rfl
            have fq6 := froz_at hBq 6
            have q7 := cell_at (v := .int .i64 xcl) hBq 7 rfl
            have fq7 := froz_at hBq 7
            have HBq := Lib.hid hBq
            clear hA hBq
            refine ⟨(by rfl), fun K hK => ?_⟩
            go_simp
            exact hK.out _ _ hv6 (st8_same HBq.out _ _ _ _ _ _ _ _) (Rel7.Priv.of (st8_grown _ _ _ _ _ _ _ _ _ _))
          refine Rel7.Chain.det ?_ (by rfl) (fun T xs wr hA => ?_) ?_
          rotate_left 1
          · have e49 := hA.tm 8 49 (by rfl) (by rfl)
            have f49 : xs 8 = _ := hA.fa 8 (by rfl)
            (try simp (disch := first | rfl | decide) only [Rel7.mask_in] at f49)
            rw [f49] at e49
            clear f49
            clear hA
            refine ⟨(by rfl), ?_⟩
            go_simp <;> (try with_reducible rfl)
          refine Rel7.Chain.done (fun xs w108 hL => ?_)
          obtain ⟨⟨hbe, hbl⟩, hf, -, -⟩ := hL
          have f0 : xs 0 = _ := hf 0 (by decide)
          (try simp (disch := first | rfl | decide) only [Rel7.mask_in] at f0)
          have f1 : xs 1 = _ := hf 1 (by decide)
          (try simp (disch := first | rfl | decide) only [Rel7.mask_in] at f1)
          have f2 : xs 2 = _ := hf 2 (by decide)
          (try simp (disch := first | rfl | decide) only [Rel7.mask_in] at f2)
          have f3 : xs 3 = _ := hf 3 (by decide)
          (try simp (disch := first | rfl | decide) only [Rel7.mask_in] at f3)
          have f4 : xs 4 = _ := hf 4 (by decide)
          (try simp (disch := first | rfl | decide) only [Rel7.mask_in] at f4)
          have F5 : ∃ g, (xs 5) = .slice (some ⟨g, 0, none⟩) 2 2 ∧ w107.heap.size ≤ g ∧ w108.heap[g]? = some (.cells #[.int .i64 xk, .string xnm, .string xot, .bool xb, .slice xao xn xq, .slice xko xkn xkc, .int .i64 xln, .int .i64 xcl, .int .i64 bk, .string bnm, .string bot, .bool bb, .slice bao bn bq, .slice bko bkn bkc, .int .i64 bln, .int .i64 bcl] 30 (0, 0)) := hf 5 (by decide)
          have F6 : ∃ g5, (xs 5) = .slice (some ⟨g5, 0, none⟩) 2 2 ∧ (xs 6) = .agg #[.int .i64 (op.kind : Nat), .string ⟨#[]⟩, .string ⟨#[]⟩, .bool false, .slice none 0 0, .slice (some ⟨g5, 0, none⟩) 2 2, .int .i64 (t.line : Nat), .int .i64 (t.col : Nat)] := hf 6 (by decide)
          have f7 : xs 7 = _ := hf 7 (by decide)
          (try simp (disch := first | rfl | decide) only [Rel7.mask_in] at f7)
          have f8 : xs 8 = _ := hf 8 (by decide)
          (try simp (disch := first | rfl | decide) only [Rel7.mask_in] at f8)
          have F9 := hf 9 (by decide)
          have f10 : xs 10 = _ := hf 10 (by decide)
          (try simp (disch := first | rfl | decide) only [Rel7.mask_in] at f10)
          have hb0 : Below 0 w107 w108 := undrew (hbe 0 (Nat.zero_le _) (fun _ _ => Nat.zero_le _))
          have hgr : ∀ j, j < w107.heap.size → (∀ q, q < 1 → (fun q => ke) q ≠ j) → w108.heap[j]? = w107.heap[j]? := hbl
          clear hbe hbl hf
          obtain ⟨g5, hv5, hl5, hg5⟩ := F5
          obtain ⟨g6, hv6, hv7⟩ := F6
          rw [hv5] at hv6
          injection hv6 with hv6
          injection hv6 with hv6
          injection hv6 with hv6
          subst hv6
          obtain ⟨c9, hc9, hb9⟩ := F9
          replace hc9 : xs 6 = .agg c9 := hc9
          rw [hv7] at hc9
          injection hc9 with hc9
          subst hc9
          have hne5 : ke < g5 := Nat.lt_of_lt_of_le (lt_of_block HBe.out) hl5
          have hnr5 : kr < g5 := by omega
          have hg : w107.grownBy w108 (some ke) := ⟨hb0.os, hb0.tape, hb0.output, hb0.size, fun k hk hn => hgr k hk (fun q _ e => hn (by rw [← e]))⟩
          refine Rel7.rest_done ?_
          simp only [Rel7.fill, List.setIfInBounds_toArray, List.set_cons_zero, List.set_cons_succ, f0, f1, f2, f3, f4, f7, f8, f10]
          simp only [hv5, hv7]
          clear hv5 hv7 hb0 hgr f0 f1 f2 f3 f4 f7 f8 f10
          replace HP := Lib.hid (HP.out.store HBe.out (by decide) (by omega) hg)
          replace HBr := Lib.hid ((hg.block _ (lt_of_block HBr.out) (fun e => by injection e with e; omega)).trans HBr.out)
          replace HBop := Lib.hid ((hg.block _ (lt_of_block HBop.out) (fun e => by injection e with e; omega)).trans HBop.out)
          replace HBt := Lib.hid ((hg.block _ (lt_of_block HBt.out) (fun e => by injection e with e; omega)).trans HBt.out)
          replace HBb := Lib.hid ((hg.block _ (lt_of_block HBb.out) (fun e => by injection e with e; omega)).trans HBb.out)
          replace HUe := Lib.hid (HUe.out.grown hg (fun h => by have h : (((w.heap.size ≤ ke ∧ ke ≠ ke ∧ ke ≠ kr) ∧ ke ≠ kop) ∧ ke ≠ kt) ∧ ke ≠ kb := h; omega))
          replace HUb := Lib.hid (HUb.out.grown hg (fun h => by have h : (Nb ≤ ke ∧ True) ∧ ke ≠ kb := h; omega))
          replace HOP := Lib.hid (HOP.out.grown hg (by omega))
          replace HD := Lib.hid (grown_new HD.out hg (by omega))
          have hsz108 := HD.out.size
          replace HBe := Lib.hid hb9
          have HG5 := Lib.hid hg5
          have HLE := Lib.hid (c_len m).2.2.2.2.2.1
          clear hb9 hg5 hg hog hlt_op hlt_t hlt_b hlt_e
          go_wp2_with fail
          go_roundw
          case rel =>
            refine ⟨m, ⟨(op.kind : Nat), ⟨#[]⟩, ⟨#[]⟩, false, none, 0, 0, some ⟨g5, 0, none⟩, 2, 2, (t.line : Nat), (t.col : Nat)⟩, prt op.kind sj.nx [u, r2.1], op.level, r2.2, rfl, by omega, HC3, HBe, Lib.hid ?_, HP, HOP, HD, HBr⟩
            have hu : prt op.kind sj.nx [u, r2.1] = U.node op.kind [] [] 0 t.line t.col [u, r2.1] := by unfold prt; rw [HNt.out]
            rw [hu]
            exact um_node op.kind [] [] t.line t.col g5 [⟨xk, xnm, xot, xb, xao, xn, xq, xko, xkn, xkc, xln, xcl⟩, ⟨bk, bnm, bot, bb, bao, bn, bq, bko, bkn, bkc, bln, bcl⟩] [u, r2.1] 2 rfl ⟨by omega, by omega, by omega⟩ HG5.out rfl (all2 (HUe.out.mono (fun b h => by have h : (((w.heap.size ≤ b ∧ b ≠ ke ∧ b ≠ kr) ∧ b ≠ kop) ∧ b ≠ kt) ∧ b ≠ kb := h; exact ⟨by omega, by omega, by omega⟩)) (HUb.out.mono (fun b h => by have h : (Nb ≤ b ∧ True) ∧ b ≠ kb := h; exact ⟨by omega, by omega, by omega⟩)))
          case measure =>
            rw [HP.out.len, HLN.out]
            have h1 : r2.2.rest.length ≤ sj.tk.rest.length := HLE.out _ _ _ HC2.out
            have h2 := HGD.out
            have hk : sj.nx.kind ≠ 4 := fun h => by
              have h5 : sj.nx.text = [] := (h2.head).ke h
              have h6 := HOPP.out
              rw [h5] at h6
              have h7 : bopOf [] = none := by decide
              rw [h7] at h6; cases h6
            have h3 : sj.tk.rest.length = sj.rest.length - 1 := by unfold St.tk; rw [if_neg hk]; simp
            have h4 := List.length_pos_iff.2 h2.ne
            omega
end Go.Proofs.YtdpfgfkoboihcaaDoor
