/-
 Joined texts: PsZ, PsRa, PsRx, PsTb, PsFn, PsBn, PsPr, PsRl, PsRn, PsPs, PsPu, PsTp, PsKi, PsRb, PsRp.
-/
import Derived.BigQuiet
import Derived.Test.YtdpfgfkoboihcaaGreatDoorJPsParseRuns1
import Derived.Test.YtdpfgfkoboihcaaGreatDoorJPsParseRuns5
import Derived.Test.YtdpfgfkoboihcaaGreatDoorJPsParseRuns6
set_option maxHeartbeats 32000000
namespace Go.Proofs.YtdpfgfkoboihcaaGreatDoor
open Go.RowKit
set_option maxRecDepth 100000
set_option linter.unusedVariables false
set_option linter.unusedSimpArgs false
theorem rexpr_p (n : Nat) (E : Hid (RExprAt n)) (C : Hid (RClimbAt n)) : RExprAt (n + 1) := by
 intro g r x w hps htb hpw hc;have hgw : g < w.heap.size := hps.lt;have HP := h_ hps;have HTD := h_ htb;have HTB := h_ hpw;have HGR := h_ (show GR r from ⟨hps.good, htb⟩);clear hps htb hpw;rw [rExpr] at hc;go_enter Tryz.func56, Tryz.ntmps56
 go_upto_region 1 with fail
 obtain ⟨w1, kr, hw, hkk, hb, -, HBr⟩ := newb w #[.string ⟨#[]⟩, .int .i64 0] 117;have hgr : g < kr := by rw [hkk]; exact HP.out.lt
 have her : w.heap.size <= kr := by omega
 rw [hw, <- hkk];replace HP := h_ (HP.out.below hb);replace HTB := h_ (HTB.out.below hb);have HD := h_ (below_grown hb (some g));clear hw hb hkk;go_wp2_with fail
 refine (at_p g r w1 HP.out).mono ?_;rintro e w2 ⟨rfl, hb⟩;replace HBr := kB hb HBr;replace HP := h_ (HP.out.below hb);replace HTB := h_ (HTB.out.below hb);replace HD := dB HD hb;have hsz2 := HD.out.size;clear hb;simp only [tokV];obtain ⟨t, hnx⟩ : ∃ t, t = RS.at' r := ⟨_, rfl⟩
 rw [<- hnx];have HNt := h_ hnx;clear hnx;go_upto_region 2 with fail
 obtain ⟨w3, kt, hw, hkk, hb, -, HBt⟩ := newb w2 #[.int .i64 (t.kind : Nat), .string ⟨t.text.toArray⟩, .int .i64 (t.line : Nat), .int .i64 (t.col : Nat)] 60;have hgt : g < kt := by rw [hkk]; exact HP.out.lt
 have het : w.heap.size <= kt := by omega
 have hr_t : kr < kt := by rw [hkk]; exact lt_of_block HBr.out
 rw [hw, <- hkk];replace HBr := kB hb HBr;replace HP := h_ (HP.out.below hb);replace HTB := h_ (HTB.out.below hb);replace HD := dB HD hb;clear hw hb hkk;go_wp2_with fail
 refine (is_p g r [108, 101, 116] w3 HP.out).mono ?_;rintro e w4 ⟨rfl, hb⟩;replace HBr := kB hb HBr;replace HBt := kB hb HBt;replace HP := h_ (HP.out.below hb);replace HTB := h_ (HTB.out.below hb);replace HD := dB HD hb;have hsz4 := HD.out.size;clear hb
 cases hi : r.is [108, 101, 116]
 ·rw [if_neg (show ¬ (r.is wLet = true) by rw [show r.is wLet = false from hi]; decide)] at hc;clear hi;go_wp2_with fail
  refine (is_p g r [105, 102] w4 HP.out).mono ?_;rintro e w5 ⟨rfl, hb⟩;replace HBr := kB hb HBr;replace HBt := kB hb HBt;replace HP := h_ (HP.out.below hb);replace HTB := h_ (HTB.out.below hb);replace HD := dB HD hb;have hsz5 := HD.out.size;clear hb
  cases hi : r.is [105, 102]
  ·rw [if_neg (show ¬ (r.is wIf = true) by rw [show r.is wIf = false from hi]; decide)] at hc;clear hi;go_wp2_with fail
   refine (is_p g r [109, 97, 116, 99, 104] w5 HP.out).mono ?_;rintro e w6 ⟨rfl, hb⟩;replace HBr := kB hb HBr;replace HBt := kB hb HBt;replace HP := h_ (HP.out.below hb);replace HTB := h_ (HTB.out.below hb);replace HD := dB HD hb;have hsz6 := HD.out.size;clear hb
   cases hi : r.is [109, 97, 116, 99, 104]
   ·rw [if_neg (show ¬ (r.is wMatch = true) by rw [show r.is wMatch = false from hi]; decide)] at hc;clear hi;go_wp2_with fail
    refine (is_p g r [97, 115, 115, 101, 114, 116] w6 HP.out).mono ?_;rintro e w7 ⟨rfl, hb⟩;replace HBr := kB hb HBr;replace HBt := kB hb HBt;replace HP := h_ (HP.out.below hb);replace HTB := h_ (HTB.out.below hb);replace HD := dB HD hb;have hsz7 := HD.out.size;clear hb
    cases hi : r.is [97, 115, 115, 101, 114, 116]
    ·rw [if_neg (show ¬ (r.is wAssert = true) by rw [show r.is wAssert = false from hi]; decide)] at hc;clear hi;have HC := h_ hc;clear hc;go_wp2_with fail
     refine (C.out g 1 r x w7 (by decide) (by decide) HP.out HTD.out HTB.out HC.out).mono ?_;rintro e w8 ⟨rfl, hp, hg⟩;replace HBr := kG hg HBr;replace HBt := kG hg HBt;replace HTB := h_ (HTB.out.grown hg (by omega));replace HP := h_ hp;replace HD := dG HD hg;have hsz8 := HD.out.size;clear hp hg;simp only [eV];obtain ⟨z0, z1⟩ := cl2 HBr.out;obtain ⟨fz0, fz1⟩ := fr2 HBr.out;go_wp2_with fail
     have hg := st2_grown w8 kr (.string ⟨x.1.S.toArray⟩) (.int .i64 (x.1.d : Nat));exact bodyPost_ret (v := .agg #[.string ⟨x.1.S.toArray⟩, .int .i64 (x.1.d : Nat)]) (by simp [results, Tryz.results56, go_sem, z0, z1]) rfl ⟨rfl, HP.out.store (by omega) hg, grown_new HD.out hg (by omega)⟩
    rw [if_pos (show r.is wAssert = true from hi)] at hc;have HIK := h_ (RS.is_kind hi);simp only [Option.bind_eq_some_iff] at hc;obtain ⟨x1, h1, x2, h2, hx⟩ := hc;injection hx with hx;subst hx;have H1 := h_ h1;have H2 := h_ h2;clear hi h1 h2;have hT := HTD.out.at;rw [<- HNt.out] at hT;have HG0 := h_ (HGR.out.inc HIK.out.1);have HK4 : Hid (r.at'.kind ≠ 4) := h_ (HIK.out.1);obtain ⟨pb, pi, pn, pc, h1, h2, h3, h4, h5, h6, h7, h8, h9⟩ := HP.out;have g1 := cell_at (v := .int .i64 (pi : Nat)) h1 1 rfl;have f1 := froz_at h1 1;have hil : pi <= 30000 := by omega
    have HH := h_ (And.intro h1 (And.intro h2 (And.intro h3 (And.intro h4 (And.intro h5 (And.intro h6 (And.intro h7 (And.intro h8 h9))))))));clear h1 h2 h3 h4 h5 h6 h7 h8 h9;go_upto_region 31 with fail
    clear g1 f1;obtain ⟨h1, h2, h3, h4, h5, h6, h7, h8, h9⟩ := HH.out;have hc0 := heap_setCell_same _ g 1 _ _ (.int .i64 ((pi + 1 : Nat) : Int)) h1;obtain ⟨w8, hw⟩ : ∃ x, x = w7.setCell ⟨g, 1, none⟩ (.int .i64 ((pi + 1 : Nat) : Int)) := ⟨_, rfl⟩
    have hg : w7.grownBy w8 (some g) := by rw [hw]; exact grown_set _ _ _ _
    rw [<- hw] at hc0;have hw' : w7.setCell ⟨g, 1, none⟩ (.int .i64 ((pi : Int) + 1)) = w8 := by rw [hw]; rfl
    rw [hw'];have hp := PR.inc hg hc0 HK4.out h2 h3 h4 h5 h6 h7 h8 h9;clear hw hw' hc0 h1 h2 h3 h4 h5 h6 h7 h8 h9 HH HK4 hil;replace HBr := kG hg HBr;replace HBt := kG hg HBt;replace HTB := h_ (HTB.out.grown hg (by omega));replace HP := h_ hp;replace HD := dG HD hg;clear hp hg;have HF1 := h_ ((r_len n).1 _ _ (HG0.out) H1.out)
    have HP1 : Hid (x1.1.S.length <= 300000000 /\ x1.1.d <= 300000000) := h_ (by
     have h : x1.1.S.length <= 300000000 := Nat.le_trans (Nat.le_trans (Nat.le_add_right _ _) HF1.out.2.1) HP.out.phi
     exact ⟨h, Nat.le_trans HF1.out.2.2.1 h⟩)
    go_wp2_with fail
    refine (E.out g _ x1 w8 HP.out (HG0.out).2 HTB.out H1.out).mono ?_;rintro e w9 ⟨rfl, hp, hg⟩;replace HBr := kG hg HBr;replace HBt := kG hg HBt;replace HTB := h_ (HTB.out.grown hg (by omega));replace HP := h_ hp;replace HD := dG HD hg;have hsz9 := HD.out.size;clear hp hg;simp only [eV];go_upto_region 32 with fail
    obtain ⟨w10, ka, hw, hkk, hb, -, HBa⟩ := newb w9 #[.string ⟨x1.1.S.toArray⟩, .int .i64 (x1.1.d : Nat)] 117;have hga : g < ka := by rw [hkk]; exact HP.out.lt
    have hea : w.heap.size <= ka := by omega
    have hr_a : kr < ka := by rw [hkk]; exact lt_of_block HBr.out
    have ht_a : kt < ka := by rw [hkk]; exact lt_of_block HBt.out
    rw [hw, <- hkk];replace HBr := kB hb HBr;replace HBt := kB hb HBt;replace HP := h_ (HP.out.below hb);replace HTB := h_ (HTB.out.below hb);replace HD := dB HD hb;clear hw hb hkk;go_wp2_with fail
    refine (eat_p g (x1.2) [59] w10 HP.out).mono ?_;rintro e w11 ⟨⟨v, rfl⟩, hp, hg⟩;replace HBr := kG hg HBr;replace HBt := kG hg HBt;replace HBa := kG hg HBa;replace HTB := h_ (HTB.out.grown hg (by omega));replace HP := h_ hp;replace HD := dG HD hg;have hsz11 := HD.out.size;clear hp hg;have HF2 := h_ ((r_len n).1 _ _ (HF1.out.1.eat wSemi) H2.out)
    have HP2 : Hid (x2.1.S.length <= 300000000 /\ x2.1.d <= 300000000) := h_ (by
     have h : x2.1.S.length <= 300000000 := Nat.le_trans (Nat.le_trans (Nat.le_add_right _ _) HF2.out.2.1) HP.out.phi
     exact ⟨h, Nat.le_trans HF2.out.2.2.1 h⟩)
    go_upto_region 33 with fail
    have hlt_t := lt_of_block HBt.out;have hlt_a := lt_of_block HBa.out;have hog : ∀ q, q < 1 -> (fun q => g) q < w11.heap.size := fun q _ => by show g < _; exact HP.out.lt
    refine R7.region (by kernel_rfl) [[], [], [], [2], [1, 2, 3], [0, 1, 2, 3, 4], [0, 1, 2, 3, 4, 5]] [] [(3, 1000)] (fun q => g) 1 5 (by kernel_rfl) (by kernel_rfl) (by rfl) hog (fun q q' h h' hn => absurd hn (by omega)) ?_;refine R7.Chain.det ?_ (by rfl) (fun T xs wr hA => ?_) ?_
    rotate_left 1
    ·have e3 := hA.pre 3 (by kernel_rfl);simp only [gsa, gsc, gsz] at e3;have hBq : wr.heap[kt]? = _ := (hA.bl _ hlt_t (fun q _ => by show g ≠ kt; omega)).trans HBt.out;obtain ⟨q0, q1, q2, q3⟩ := cl4 hBq;clear hBq;clear hA;refine ⟨(by rfl), ?_⟩;go_simp <;> (try with_reducible rfl)
    refine R7.Chain.det ?_ (by rfl) (fun T xs wr hA => ?_) ?_
    rotate_left 1
    ·have e12 := hA.pre 12 (by kernel_rfl);simp only [gsa, gsc, gsz] at e12;have hBq : wr.heap[ka]? = _ := (hA.bl _ hlt_a (fun q _ => by show g ≠ ka; omega)).trans HBa.out;obtain ⟨q0, q1⟩ := cl2 hBq;clear hBq;clear hA;refine ⟨(by rfl), ?_⟩;go_simp <;> (try with_reducible rfl)
    refine R7.Chain.det ?_ (by rfl) (fun T xs wr hA => ?_) ?_
    rotate_left 1
    ·have e0 := hA.pre 0 (by kernel_rfl);simp only [gsa, gsz] at e0;clear hA;refine ⟨(by rfl), ?_⟩;go_simp <;> (try with_reducible rfl)
    refine R7.Chain.callOld 0 (fun xs v w => v = eV x2.1 /\ PR w g x2.2) (fun _ _ _ _ ⟨h1, h2⟩ hb => ⟨h1, h2.below hb⟩) (fun _ _ _ _ q' _ hq hne _ => absurd rfl hne) (by rfl) (by rfl) (by decide) (R7.own_one (by rfl)) (fun T xs wr hA hold => ?_) ?_
    ·have hsw := (hA.be 0 (Nat.zero_le _) (fun _ _ => Nat.zero_le _)).size;have e121 := (hA.tm 2 121 (by rfl) (by rfl)).trans (congrArg some (hA.fa 2 (by rfl)))
     (try simp (disch := first | rfl | decide) only [R7.mask_in] at e121)
     have h0 := undrew (hA.be 0 (Nat.zero_le _) (fun _ _ => Nat.zero_le _))
     have hbw : Below w11.heap.size w11 wr := ⟨h0.os, h0.tape, h0.output, h0.size, fun k hk => by
      by_cases e : k = g
      ·rw [e]; exact hold
      exact hA.bl k hk (fun q _ h => e h.symm)⟩
     clear hA;refine ⟨(by rfl), fun K hK => ?_⟩;go_simp
     refine (E.out g _ x2 _ (HP.out.below hbw) (HF1.out.1.eat wSemi).2 (HTB.out.below hbw) H2.out).mono ?_;rintro e w' ⟨rfl, hp, hg⟩;exact hK.out _ _ ⟨rfl, hp⟩ (R7.Priv.of hg)
    refine R7.Chain.call (fun xs v w => ∃ g, v = .slice (some ⟨g, 0, none⟩) 2 2 /\ w11.heap.size <= g /\ w.heap[g]? = some (.cells #[.string ⟨x1.1.S.toArray⟩, .int .i64 (x1.1.d : Nat), .string ⟨x2.1.S.toArray⟩, .int .i64 (x2.1.d : Nat)] 117 (0, 0))) (fun _ _ _ _ ⟨g, hv, hl, hg⟩ hb => ⟨g, hv, hl, by rw [hb.block g (Array.getElem?_eq_some_iff.1 hg).1]; exact hg⟩) (fun _ _ _ _ _ ⟨g, hv, hl, hg⟩ ⟨q, hq, e⟩ hp => ⟨g, hv, hl, by rw [hp.block g (Array.getElem?_eq_some_iff.1 hg).1 (fun h => by have := hog q hq; omega)]; exact hg⟩) (by rfl) (fun T xs wr hA => ?_) ?_
    ·have hsw := (hA.be 0 (Nat.zero_le _) (fun _ _ => Nat.zero_le _)).size;have e120 := (hA.tm 1 120 (by rfl) (by rfl)).trans (congrArg some (hA.fa 1 (by rfl)))
     (try simp (disch := first | rfl | decide) only [R7.mask_in] at e120)
     have e122 := hA.tm 3 122 (by rfl) (by rfl);have hF3 : xs 3 = eV x2.1 /\ PR wr g x2.2 := hA.fa 3 (by rfl);rw [hF3.1] at e122;unfold eV at e122;clear hA;refine ⟨(by rfl), fun K hK => ?_⟩;go_simp
     exact hK.out _ _ ⟨_, rfl, hsw, by simpa using made_at wr _ _ rfl⟩ ((Below.refl _ _).alloc (Nat.le_refl _) _)
    refine R7.Chain.done (fun xs w12 hL => ?_);obtain ⟨⟨hbe, hbl⟩, hf, -, -⟩ := hL;have f0 : xs 0 = _ := hf 0 (by decide);have f1 : xs 1 = _ := hf 1 (by decide);have f2 : xs 2 = _ := hf 2 (by decide);have F3 : (xs 3) = eV x2.1 /\ PR w12 g x2.2 := hf 3 (by decide);have F4 : ∃ g, (xs 4) = .slice (some ⟨g, 0, none⟩) 2 2 /\ w11.heap.size <= g /\ w12.heap[g]? = some (.cells #[.string ⟨x1.1.S.toArray⟩, .int .i64 (x1.1.d : Nat), .string ⟨x2.1.S.toArray⟩, .int .i64 (x2.1.d : Nat)] 117 (0, 0)) := hf 4 (by decide)
    (try simp (disch := first | rfl | decide) only [R7.mask_in] at f0 f1 f2)
    have hb0 : Below 0 w11 w12 := undrew (hbe 0 (Nat.zero_le _) (fun _ _ => Nat.zero_le _));have hgr : ∀ j, j < w11.heap.size -> (∀ q, q < 1 -> (fun q => g) q ≠ j) -> w12.heap[j]? = w11.heap[j]? := hbl;clear hbe hbl hf;obtain ⟨hv4, hp⟩ := F3;obtain ⟨g5, hv5, hl5, hg5⟩ := F4;have hg : w11.grownBy w12 (some g) := ⟨hb0.os, hb0.tape, hb0.output, hb0.size, fun k hk hn => hgr k hk (fun q _ e => hn (by rw [<- e]))⟩
    refine R7.rest_list (by decide) (by kernel_rfl) ?_;simp only [R7.fill, List.take_succ_cons, List.take_zero, List.drop_succ_cons, List.drop_zero, List.setIfInBounds_toArray, List.set_cons_zero, List.set_cons_succ, f0, f1, f2];simp only [hv4, hv5];clear hog hv4 hv5 hl5 hb0 hgr hlt_t hlt_a f0 f1 f2;replace HBr := kG hg HBr;replace HBt := kG hg HBt;replace HBa := kG hg HBa;replace HTB := h_ (HTB.out.grown hg (by omega));replace HP := h_ hp;replace HD := dG HD hg;have hsz12 := HD.out.size;have HG5 := h_ hg5;clear hp hg hg5;have hnm : ([] : Bs).length <= 1000000 := by simp
    have hf1 := HP1.out.1;have hr1 := HP1.out.2;have hf2 := HP2.out.1;have hr2 := HP2.out.2;have hS : ([x1.1, x2.1].flatMap RE.S).length <= 1000000000 := by rw [fl2]; omega
    have hd : ∀ e ∈ [x1.1, x2.1], e.d <= 1000000000 := by intro e he; simp only [List.mem_cons, List.not_mem_nil, or_false] at he; rcases he with rfl | rfl <;> omega
    go_wp2_with fail
    refine (made_p 28 t [] (some ⟨g5, 0, none⟩) 2 [x1.1, x2.1] w12 HTB.out.1 (by first | decide | omega) hT.1 hT.2.1 hnm (at2_blk (ks := [x1.1, x2.1]) HG5.out) (by simp) hS hd).mono ?_;rintro e w13 ⟨rfl, hb⟩;replace HBr := kB hb HBr;replace HBt := kB hb HBt;replace HBa := kB hb HBa;replace HP := h_ (HP.out.below hb);replace HTB := h_ (HTB.out.below hb);replace HD := dB HD hb;have hsz13 := HD.out.size;clear hb;clear HG5;simp only [eV];obtain ⟨z0, z1⟩ := cl2 HBr.out;obtain ⟨fz0, fz1⟩ := fr2 HBr.out;go_wp2_with fail
    have hg := st2_grown w13 kr (.string ⟨(mk 28 t [] [x1.1, x2.1]).S.toArray⟩) (.int .i64 ((mk 28 t [] [x1.1, x2.1]).d : Nat));exact bodyPost_ret (v := .agg #[.string ⟨(mk 28 t [] [x1.1, x2.1]).S.toArray⟩, .int .i64 ((mk 28 t [] [x1.1, x2.1]).d : Nat)]) (by simp [results, Tryz.results56, go_sem, z0, z1]) rfl ⟨by rw [HNt.out]; rfl, HP.out.store (by omega) hg, grown_new HD.out hg (by omega)⟩
   rw [if_pos (show r.is wMatch = true from hi)] at hc;have HIK := h_ (RS.is_kind hi);simp only [Option.bind_eq_some_iff] at hc;obtain ⟨x1, h1, x2, h2, x3, h3, hx⟩ := hc;injection hx with hx;subst hx;have H1 := h_ h1;have H2 := h_ h2;have H3 := h_ h3;clear hi h1 h2 h3;have hT := HTD.out.at;rw [<- HNt.out] at hT;have HG0 := h_ (HGR.out.inc HIK.out.1);have HK4 : Hid (r.at'.kind ≠ 4) := h_ (HIK.out.1);obtain ⟨pb, pi, pn, pc, h1, h2, h3, h4, h5, h6, h7, h8, h9⟩ := HP.out;have g1 := cell_at (v := .int .i64 (pi : Nat)) h1 1 rfl;have f1 := froz_at h1 1;have hil : pi <= 30000 := by omega
   have HH := h_ (And.intro h1 (And.intro h2 (And.intro h3 (And.intro h4 (And.intro h5 (And.intro h6 (And.intro h7 (And.intro h8 h9))))))));clear h1 h2 h3 h4 h5 h6 h7 h8 h9;go_upto_region 18 with fail
   clear g1 f1;obtain ⟨h1, h2, h3, h4, h5, h6, h7, h8, h9⟩ := HH.out;have hc0 := heap_setCell_same _ g 1 _ _ (.int .i64 ((pi + 1 : Nat) : Int)) h1;obtain ⟨w7, hw⟩ : ∃ x, x = w6.setCell ⟨g, 1, none⟩ (.int .i64 ((pi + 1 : Nat) : Int)) := ⟨_, rfl⟩
   have hg : w6.grownBy w7 (some g) := by rw [hw]; exact grown_set _ _ _ _
   rw [<- hw] at hc0;have hw' : w6.setCell ⟨g, 1, none⟩ (.int .i64 ((pi : Int) + 1)) = w7 := by rw [hw]; rfl
   rw [hw'];have hp := PR.inc hg hc0 HK4.out h2 h3 h4 h5 h6 h7 h8 h9;clear hw hw' hc0 h1 h2 h3 h4 h5 h6 h7 h8 h9 HH HK4 hil;replace HBr := kG hg HBr;replace HBt := kG hg HBt;replace HTB := h_ (HTB.out.grown hg (by omega));replace HP := h_ hp;replace HD := dG HD hg;clear hp hg;have HF1 := h_ ((r_len n).1 _ _ (HG0.out) H1.out)
   have HP1 : Hid (x1.1.S.length <= 300000000 /\ x1.1.d <= 300000000) := h_ (by
    have h : x1.1.S.length <= 300000000 := Nat.le_trans (Nat.le_trans (Nat.le_add_right _ _) HF1.out.2.1) HP.out.phi
    exact ⟨h, Nat.le_trans HF1.out.2.2.1 h⟩)
   go_wp2_with fail
   refine (E.out g _ x1 w7 HP.out (HG0.out).2 HTB.out H1.out).mono ?_;rintro e w8 ⟨rfl, hp, hg⟩;replace HBr := kG hg HBr;replace HBt := kG hg HBt;replace HTB := h_ (HTB.out.grown hg (by omega));replace HP := h_ hp;replace HD := dG HD hg;have hsz8 := HD.out.size;clear hp hg;simp only [eV];go_upto_region 19 with fail
   obtain ⟨w9, ka, hw, hkk, hb, -, HBa⟩ := newb w8 #[.string ⟨x1.1.S.toArray⟩, .int .i64 (x1.1.d : Nat)] 117;have hga : g < ka := by rw [hkk]; exact HP.out.lt
   have hea : w.heap.size <= ka := by omega
   have hr_a : kr < ka := by rw [hkk]; exact lt_of_block HBr.out
   have ht_a : kt < ka := by rw [hkk]; exact lt_of_block HBt.out
   rw [hw, <- hkk];replace HBr := kB hb HBr;replace HBt := kB hb HBt;replace HP := h_ (HP.out.below hb);replace HTB := h_ (HTB.out.below hb);replace HD := dB HD hb;clear hw hb hkk;go_wp2_with fail
   refine (eat_p g (x1.2) [119, 105, 116, 104] w9 HP.out).mono ?_;rintro e w10 ⟨⟨v, rfl⟩, hp, hg⟩;replace HBr := kG hg HBr;replace HBt := kG hg HBt;replace HBa := kG hg HBa;replace HTB := h_ (HTB.out.grown hg (by omega));replace HP := h_ hp;replace HD := dG HD hg;clear hp hg;go_wp2_with fail
   refine (eat_p g (x1.2.eat wWith) [91, 93] w10 HP.out).mono ?_;rintro e w11 ⟨⟨v, rfl⟩, hp, hg⟩;replace HBr := kG hg HBr;replace HBt := kG hg HBt;replace HBa := kG hg HBa;replace HTB := h_ (HTB.out.grown hg (by omega));replace HP := h_ hp;replace HD := dG HD hg;clear hp hg;go_wp2_with fail
   refine (eat_p g ((x1.2.eat wWith).eat wNil) [45, 62] w11 HP.out).mono ?_;rintro e w12 ⟨⟨v, rfl⟩, hp, hg⟩;replace HBr := kG hg HBr;replace HBt := kG hg HBt;replace HBa := kG hg HBa;replace HTB := h_ (HTB.out.grown hg (by omega));replace HP := h_ hp;replace HD := dG HD hg;clear hp hg;have HF2 := h_ ((r_len n).1 _ _ (((HF1.out.1.eat wWith).eat wNil).eat wArrow) H2.out)
   have HP2 : Hid (x2.1.S.length <= 300000000 /\ x2.1.d <= 300000000) := h_ (by
    have h : x2.1.S.length <= 300000000 := Nat.le_trans (Nat.le_trans (Nat.le_add_right _ _) HF2.out.2.1) HP.out.phi
    exact ⟨h, Nat.le_trans HF2.out.2.2.1 h⟩)
   go_wp2_with fail
   refine (E.out g _ x2 w12 HP.out (((HF1.out.1.eat wWith).eat wNil).eat wArrow).2 HTB.out H2.out).mono ?_;rintro e w13 ⟨rfl, hp, hg⟩;replace HBr := kG hg HBr;replace HBt := kG hg HBt;replace HBa := kG hg HBa;replace HTB := h_ (HTB.out.grown hg (by omega));replace HP := h_ hp;replace HD := dG HD hg;have hsz13 := HD.out.size;clear hp hg;simp only [eV];go_upto_region 23 with fail
   obtain ⟨w14, kb, hw, hkk, hb, -, HBb⟩ := newb w13 #[.string ⟨x2.1.S.toArray⟩, .int .i64 (x2.1.d : Nat)] 117;have hgb : g < kb := by rw [hkk]; exact HP.out.lt
   have heb : w.heap.size <= kb := by omega
   have hr_b : kr < kb := by rw [hkk]; exact lt_of_block HBr.out
   have ht_b : kt < kb := by rw [hkk]; exact lt_of_block HBt.out
   have ha_b : ka < kb := by rw [hkk]; exact lt_of_block HBa.out
   rw [hw, <- hkk];replace HBr := kB hb HBr;replace HBt := kB hb HBt;replace HBa := kB hb HBa;replace HP := h_ (HP.out.below hb);replace HTB := h_ (HTB.out.below hb);replace HD := dB HD hb;clear hw hb hkk;go_wp2_with fail
   refine (eat_p g (x2.2) [124] w14 HP.out).mono ?_;rintro e w15 ⟨⟨v, rfl⟩, hp, hg⟩;replace HBr := kG hg HBr;replace HBt := kG hg HBt;replace HBa := kG hg HBa;replace HBb := kG hg HBb;replace HTB := h_ (HTB.out.grown hg (by omega));replace HP := h_ hp;replace HD := dG HD hg;clear hp hg;go_wp2_with fail
   refine (rname_p g (x2.2.eat wBar) w15 HP.out).mono ?_;rintro e w16 ⟨rfl, hp, hg⟩;replace HBr := kG hg HBr;replace HBt := kG hg HBt;replace HBa := kG hg HBa;replace HBb := kG hg HBb;replace HTB := h_ (HTB.out.grown hg (by omega));replace HP := h_ hp;replace HD := dG HD hg;have hsz16 := HD.out.size;clear hp hg;simp only [tokV];obtain ⟨th, hnx⟩ : ∃ t, t = RS.at' (x2.2.eat wBar) := ⟨_, rfl⟩
   rw [<- hnx];have HNth := h_ hnx;clear hnx;go_upto_region 25 with fail
   obtain ⟨w17, kth, hw, hkk, hb, -, HBth⟩ := newb w16 #[.int .i64 (th.kind : Nat), .string ⟨th.text.toArray⟩, .int .i64 (th.line : Nat), .int .i64 (th.col : Nat)] 60;have hgth : g < kth := by rw [hkk]; exact HP.out.lt
   have heth : w.heap.size <= kth := by omega
   have hr_th : kr < kth := by rw [hkk]; exact lt_of_block HBr.out
   have ht_th : kt < kth := by rw [hkk]; exact lt_of_block HBt.out
   have ha_th : ka < kth := by rw [hkk]; exact lt_of_block HBa.out
   have hb_th : kb < kth := by rw [hkk]; exact lt_of_block HBb.out
   rw [hw, <- hkk];replace HBr := kB hb HBr;replace HBt := kB hb HBt;replace HBa := kB hb HBa;replace HBb := kB hb HBb;replace HP := h_ (HP.out.below hb);replace HTB := h_ (HTB.out.below hb);replace HD := dB HD hb;clear hw hb hkk;have hN := (HF2.out.1.eat wBar).2.at;rw [<- HNth.out] at hN;go_wp2_with fail
   refine (eat_p g ((x2.2.eat wBar).name) [58, 58] w17 HP.out).mono ?_;rintro e w18 ⟨⟨v, rfl⟩, hp, hg⟩;replace HBr := kG hg HBr;replace HBt := kG hg HBt;replace HBa := kG hg HBa;replace HBb := kG hg HBb;replace HBth := kG hg HBth;replace HTB := h_ (HTB.out.grown hg (by omega));replace HP := h_ hp;replace HD := dG HD hg;clear hp hg;go_wp2_with fail
   refine (rname_p g (((x2.2.eat wBar).name).eat wCons) w18 HP.out).mono ?_;rintro e w19 ⟨rfl, hp, hg⟩;replace HBr := kG hg HBr;replace HBt := kG hg HBt;replace HBa := kG hg HBa;replace HBb := kG hg HBb;replace HBth := kG hg HBth;replace HTB := h_ (HTB.out.grown hg (by omega));replace HP := h_ hp;replace HD := dG HD hg;have hsz19 := HD.out.size;clear hp hg;simp only [tokV];obtain ⟨tt, hnx⟩ : ∃ t, t = RS.at' (((x2.2.eat wBar).name).eat wCons) := ⟨_, rfl⟩
   rw [<- hnx];have HNtt := h_ hnx;clear hnx;go_upto_region 27 with fail
   obtain ⟨w20, ktt, hw, hkk, hb, -, HBtt⟩ := newb w19 #[.int .i64 (tt.kind : Nat), .string ⟨tt.text.toArray⟩, .int .i64 (tt.line : Nat), .int .i64 (tt.col : Nat)] 60;have hgtt : g < ktt := by rw [hkk]; exact HP.out.lt
   have hett : w.heap.size <= ktt := by omega
   have hr_tt : kr < ktt := by rw [hkk]; exact lt_of_block HBr.out
   have ht_tt : kt < ktt := by rw [hkk]; exact lt_of_block HBt.out
   have ha_tt : ka < ktt := by rw [hkk]; exact lt_of_block HBa.out
   have hb_tt : kb < ktt := by rw [hkk]; exact lt_of_block HBb.out
   have hth_tt : kth < ktt := by rw [hkk]; exact lt_of_block HBth.out
   rw [hw, <- hkk];replace HBr := kB hb HBr;replace HBt := kB hb HBt;replace HBa := kB hb HBa;replace HBb := kB hb HBb;replace HBth := kB hb HBth;replace HP := h_ (HP.out.below hb);replace HTB := h_ (HTB.out.below hb);replace HD := dB HD hb;clear hw hb hkk;have hM := ((HF2.out.1.eat wBar).name.eat wCons).2.at;rw [<- HNtt.out] at hM;go_wp2_with fail
   refine (eat_p g ((((x2.2.eat wBar).name).eat wCons).name) [45, 62] w20 HP.out).mono ?_;rintro e w21 ⟨⟨v, rfl⟩, hp, hg⟩;replace HBr := kG hg HBr;replace HBt := kG hg HBt;replace HBa := kG hg HBa;replace HBb := kG hg HBb;replace HBth := kG hg HBth;replace HBtt := kG hg HBtt;replace HTB := h_ (HTB.out.grown hg (by omega));replace HP := h_ hp;replace HD := dG HD hg;have hsz21 := HD.out.size;clear hp hg;have HF3 := h_ ((r_len n).1 _ _ (((((HF2.out.1.eat wBar).name).eat wCons).name).eat wArrow) H3.out)
   have HP3 : Hid (x3.1.S.length <= 300000000 /\ x3.1.d <= 300000000) := h_ (by
    have h : x3.1.S.length <= 300000000 := Nat.le_trans (Nat.le_trans (Nat.le_add_right _ _) HF3.out.2.1) HP.out.phi
    exact ⟨h, Nat.le_trans HF3.out.2.2.1 h⟩)
   go_upto_region 28 with fail
   obtain ⟨C3, hC3⟩ : ∃ l : Bs, l = th.text ++ [32] := ⟨_, rfl⟩
   have lC3 : C3.length <= 3001 := by rw [hC3]; simp only [lsa, lsc, lsn]; omega
   have HC3 := h_ hC3;clear hC3;obtain ⟨C6, hC6⟩ : ∃ l : Bs, l = C3 ++ tt.text := ⟨_, rfl⟩
   have lC6 : C6.length <= 6001 := by rw [hC6]; simp only [lsa, lsc, lsn]; omega
   have HC6 := h_ hC6;clear hC6;have hlt_t := lt_of_block HBt.out;have hlt_th := lt_of_block HBth.out;have hlt_tt := lt_of_block HBtt.out;have hlt_a := lt_of_block HBa.out;have hlt_b := lt_of_block HBb.out;have hog : ∀ q, q < 1 -> (fun q => g) q < w21.heap.size := fun q _ => by show g < _; exact HP.out.lt
   refine R7.region (by kernel_rfl) [[], [], [1], [1, 2], [], [4], [1, 2, 3, 4, 5], [], [], [], [9], [7, 8, 9, 10], [0, 1, 2, 3, 4, 5, 6, 7, 8, 9, 10, 11], [0, 1, 2, 3, 4, 5, 6, 7, 8, 9, 10, 11, 12]] [] [(10, 1000)] (fun q => g) 1 12 (by kernel_rfl) (by kernel_rfl) (by rfl) hog (fun q q' h h' hn => absurd hn (by omega)) ?_;refine R7.Chain.det ?_ (by rfl) (fun T xs wr hA => ?_) ?_
   rotate_left 1
   ·have e3 := hA.pre 3 (by kernel_rfl);simp only [gsa, gsc, gsz] at e3;have hBq : wr.heap[kt]? = _ := (hA.bl _ hlt_t (fun q _ => by show g ≠ kt; omega)).trans HBt.out;obtain ⟨q0, q1, q2, q3⟩ := cl4 hBq;clear hBq;clear hA;refine ⟨(by rfl), ?_⟩;go_simp <;> (try with_reducible rfl)
   refine R7.Chain.det ?_ (by rfl) (fun T xs wr hA => ?_) ?_
   rotate_left 1
   ·have e10 := hA.pre 10 (by kernel_rfl);simp only [gsa, gsc, gsz] at e10;clear hA;refine ⟨(by rfl), ?_⟩;go_simp <;> (try with_reducible rfl)
   refine R7.Chain.det ?_ (by rfl) (fun T xs wr hA => ?_) ?_
   rotate_left 1
   ·have e94 := (hA.tm 1 94 (by rfl) (by rfl)).trans (congrArg some (hA.fa 1 (by rfl)))
    (try simp (disch := first | rfl | decide) only [R7.mask_in] at e94)
    have hBq : wr.heap[kth]? = _ := (hA.bl _ hlt_th (fun q _ => by show g ≠ kth; omega)).trans HBth.out;obtain ⟨q0, q1, q2, q3⟩ := cl4 hBq;clear hBq;clear hA;refine ⟨(by rfl), ?_⟩;go_simp <;> (try with_reducible rfl)
   refine R7.Chain.call (fun xs v w => v = .string ⟨C3.toArray⟩) (fun _ _ _ _ h _ => h) (fun _ _ _ _ _ h _ _ => h) (by rfl) (fun T xs wr hA => ?_) ?_
   ·have hsw := (hA.be 0 (Nat.zero_le _) (fun _ _ => Nat.zero_le _)).size;have e95 := (hA.tm 2 95 (by rfl) (by rfl)).trans (congrArg some (hA.fa 2 (by rfl)))
    (try simp (disch := first | rfl | decide) only [R7.mask_in] at e95)
    clear hA;refine ⟨(by rfl), fun K hK => ?_⟩;go_simp
    rw [if_neg (by omega)];exact hK.out _ _ (congrArg Value.string (by rw [HC3.out]; exact cat _ _)) (Below.refl _ _)
   refine R7.Chain.det ?_ (by rfl) (fun T xs wr hA => ?_) ?_
   rotate_left 1
   ·have e11 := hA.pre 11 (by kernel_rfl);simp only [gsa, gsc, gsz] at e11;clear hA;refine ⟨(by rfl), ?_⟩;go_simp <;> (try with_reducible rfl)
   refine R7.Chain.det ?_ (by rfl) (fun T xs wr hA => ?_) ?_
   rotate_left 1
   ·have e97 := (hA.tm 4 97 (by rfl) (by rfl)).trans (congrArg some (hA.fa 4 (by rfl)))
    (try simp (disch := first | rfl | decide) only [R7.mask_in] at e97)
    have hBq : wr.heap[ktt]? = _ := (hA.bl _ hlt_tt (fun q _ => by show g ≠ ktt; omega)).trans HBtt.out;obtain ⟨q0, q1, q2, q3⟩ := cl4 hBq;clear hBq;clear hA;refine ⟨(by rfl), ?_⟩;go_simp <;> (try with_reducible rfl)
   refine R7.Chain.call (fun xs v w => v = .string ⟨C6.toArray⟩) (fun _ _ _ _ h _ => h) (fun _ _ _ _ _ h _ _ => h) (by rfl) (fun T xs wr hA => ?_) ?_
   ·have hsw := (hA.be 0 (Nat.zero_le _) (fun _ _ => Nat.zero_le _)).size;have e96 := hA.tm 3 96 (by rfl) (by rfl);have f96 : xs 3 = (.string ⟨C3.toArray⟩) := hA.fa 3 (by rfl);rw [f96] at e96;clear f96;have e98 := (hA.tm 5 98 (by rfl) (by rfl)).trans (congrArg some (hA.fa 5 (by rfl)))
    (try simp (disch := first | rfl | decide) only [R7.mask_in] at e98)
    clear hA;refine ⟨(by rfl), fun K hK => ?_⟩;go_simp
    rw [if_neg (by omega)];exact hK.out _ _ (congrArg Value.string (by rw [HC6.out]; exact cat _ _)) (Below.refl _ _)
   refine R7.Chain.det ?_ (by rfl) (fun T xs wr hA => ?_) ?_
   rotate_left 1
   ·have e8 := hA.pre 8 (by kernel_rfl);simp only [gsa, gsc, gsz] at e8;have hBq : wr.heap[ka]? = _ := (hA.bl _ hlt_a (fun q _ => by show g ≠ ka; omega)).trans HBa.out;obtain ⟨q0, q1⟩ := cl2 hBq;clear hBq;clear hA;refine ⟨(by rfl), ?_⟩;go_simp <;> (try with_reducible rfl)
   refine R7.Chain.det ?_ (by rfl) (fun T xs wr hA => ?_) ?_
   rotate_left 1
   ·have e9 := hA.pre 9 (by kernel_rfl);simp only [gsa, gsc, gsz] at e9;have hBq : wr.heap[kb]? = _ := (hA.bl _ hlt_b (fun q _ => by show g ≠ kb; omega)).trans HBb.out;obtain ⟨q0, q1⟩ := cl2 hBq;clear hBq;clear hA;refine ⟨(by rfl), ?_⟩;go_simp <;> (try with_reducible rfl)
   refine R7.Chain.det ?_ (by rfl) (fun T xs wr hA => ?_) ?_
   rotate_left 1
   ·have e0 := hA.pre 0 (by kernel_rfl);simp only [gsa, gsz] at e0;clear hA;refine ⟨(by rfl), ?_⟩;go_simp <;> (try with_reducible rfl)
   refine R7.Chain.callOld 0 (fun xs v w => v = eV x3.1 /\ PR w g x3.2) (fun _ _ _ _ ⟨h1, h2⟩ hb => ⟨h1, h2.below hb⟩) (fun _ _ _ _ q' _ hq hne _ => absurd rfl hne) (by rfl) (by rfl) (by decide) (R7.own_one (by rfl)) (fun T xs wr hA hold => ?_) ?_
   ·have hsw := (hA.be 0 (Nat.zero_le _) (fun _ _ => Nat.zero_le _)).size;have e102 := (hA.tm 9 102 (by rfl) (by rfl)).trans (congrArg some (hA.fa 9 (by rfl)))
    (try simp (disch := first | rfl | decide) only [R7.mask_in] at e102)
    have h0 := undrew (hA.be 0 (Nat.zero_le _) (fun _ _ => Nat.zero_le _))
    have hbw : Below w21.heap.size w21 wr := ⟨h0.os, h0.tape, h0.output, h0.size, fun k hk => by
     by_cases e : k = g
     ·rw [e]; exact hold
     exact hA.bl k hk (fun q _ h => e h.symm)⟩
    clear hA;refine ⟨(by rfl), fun K hK => ?_⟩;go_simp
    refine (E.out g _ x3 _ (HP.out.below hbw) (((((HF2.out.1.eat wBar).name).eat wCons).name).eat wArrow).2 (HTB.out.below hbw) H3.out).mono ?_;rintro e w' ⟨rfl, hp, hg⟩;exact hK.out _ _ ⟨rfl, hp⟩ (R7.Priv.of hg)
   refine R7.Chain.call (fun xs v w => ∃ g, v = .slice (some ⟨g, 0, none⟩) 3 3 /\ w21.heap.size <= g /\ w.heap[g]? = some (.cells #[.string ⟨x1.1.S.toArray⟩, .int .i64 (x1.1.d : Nat), .string ⟨x2.1.S.toArray⟩, .int .i64 (x2.1.d : Nat), .string ⟨x3.1.S.toArray⟩, .int .i64 (x3.1.d : Nat)] 117 (0, 0))) (fun _ _ _ _ ⟨g, hv, hl, hg⟩ hb => ⟨g, hv, hl, by rw [hb.block g (Array.getElem?_eq_some_iff.1 hg).1]; exact hg⟩) (fun _ _ _ _ _ ⟨g, hv, hl, hg⟩ ⟨q, hq, e⟩ hp => ⟨g, hv, hl, by rw [hp.block g (Array.getElem?_eq_some_iff.1 hg).1 (fun h => by have := hog q hq; omega)]; exact hg⟩) (by rfl) (fun T xs wr hA => ?_) ?_
   ·have hsw := (hA.be 0 (Nat.zero_le _) (fun _ _ => Nat.zero_le _)).size;have e100 := (hA.tm 7 100 (by rfl) (by rfl)).trans (congrArg some (hA.fa 7 (by rfl)))
    (try simp (disch := first | rfl | decide) only [R7.mask_in] at e100)
    have e101 := (hA.tm 8 101 (by rfl) (by rfl)).trans (congrArg some (hA.fa 8 (by rfl)))
    (try simp (disch := first | rfl | decide) only [R7.mask_in] at e101)
    have e103 := hA.tm 10 103 (by rfl) (by rfl);have hF10 : xs 10 = eV x3.1 /\ PR wr g x3.2 := hA.fa 10 (by rfl);rw [hF10.1] at e103;unfold eV at e103;clear hA;refine ⟨(by rfl), fun K hK => ?_⟩;go_simp
    exact hK.out _ _ ⟨_, rfl, hsw, by simpa using made_at wr _ _ rfl⟩ ((Below.refl _ _).alloc (Nat.le_refl _) _)
   refine R7.Chain.done (fun xs w22 hL => ?_);obtain ⟨⟨hbe, hbl⟩, hf, -, -⟩ := hL;have f0 : xs 0 = _ := hf 0 (by decide);have f1 : xs 1 = _ := hf 1 (by decide);have f2 : xs 2 = _ := hf 2 (by decide);have f3 : xs 3 = (.string ⟨C3.toArray⟩) := hf 3 (by decide);have f4 : xs 4 = _ := hf 4 (by decide);have f5 : xs 5 = _ := hf 5 (by decide);have f6 : xs 6 = (.string ⟨C6.toArray⟩) := hf 6 (by decide);have f7 : xs 7 = _ := hf 7 (by decide);have f8 : xs 8 = _ := hf 8 (by decide);have f9 : xs 9 = _ := hf 9 (by decide);have F10 : (xs 10) = eV x3.1 /\ PR w22 g x3.2 := hf 10 (by decide);have F11 : ∃ g, (xs 11) = .slice (some ⟨g, 0, none⟩) 3 3 /\ w21.heap.size <= g /\ w22.heap[g]? = some (.cells #[.string ⟨x1.1.S.toArray⟩, .int .i64 (x1.1.d : Nat), .string ⟨x2.1.S.toArray⟩, .int .i64 (x2.1.d : Nat), .string ⟨x3.1.S.toArray⟩, .int .i64 (x3.1.d : Nat)] 117 (0, 0)) := hf 11 (by decide)
   (try simp (disch := first | rfl | decide) only [R7.mask_in] at f0 f1 f2 f4 f5 f7 f8 f9)
   have hb0 : Below 0 w21 w22 := undrew (hbe 0 (Nat.zero_le _) (fun _ _ => Nat.zero_le _));have hgr : ∀ j, j < w21.heap.size -> (∀ q, q < 1 -> (fun q => g) q ≠ j) -> w22.heap[j]? = w21.heap[j]? := hbl;clear hbe hbl hf;obtain ⟨hv4, hp⟩ := F10;obtain ⟨g5, hv5, hl5, hg5⟩ := F11;have hg : w21.grownBy w22 (some g) := ⟨hb0.os, hb0.tape, hb0.output, hb0.size, fun k hk hn => hgr k hk (fun q _ e => hn (by rw [<- e]))⟩
   refine R7.rest_list (by decide) (by kernel_rfl) ?_;simp only [R7.fill, List.take_succ_cons, List.take_zero, List.drop_succ_cons, List.drop_zero, List.setIfInBounds_toArray, List.set_cons_zero, List.set_cons_succ, f0, f1, f2, f3, f4, f5, f6, f7, f8, f9];simp only [hv4, hv5];clear hog hv4 hv5 hl5 hb0 hgr hlt_t hlt_th hlt_tt hlt_a hlt_b f0 f1 f2 f3 f4 f5 f6 f7 f8 f9;replace HBr := kG hg HBr;replace HBt := kG hg HBt;replace HBa := kG hg HBa;replace HBb := kG hg HBb;replace HBth := kG hg HBth;replace HBtt := kG hg HBtt;replace HTB := h_ (HTB.out.grown hg (by omega));replace HP := h_ hp;replace HD := dG HD hg;have hsz22 := HD.out.size;have HG5 := h_ hg5;clear hp hg hg5;have hnm : (C6).length <= 1000000 := by omega
   have hf1 := HP1.out.1;have hr1 := HP1.out.2;have hf2 := HP2.out.1;have hr2 := HP2.out.2;have hf3 := HP3.out.1;have hr3 := HP3.out.2;have hS : ([x1.1, x2.1, x3.1].flatMap RE.S).length <= 1000000000 := by rw [fl3]; omega
   have hd : ∀ e ∈ [x1.1, x2.1, x3.1], e.d <= 1000000000 := by intro e he; simp only [List.mem_cons, List.not_mem_nil, or_false] at he; rcases he with rfl | rfl | rfl <;> omega
   go_wp2_with fail
   refine (made_p 27 t C6 (some ⟨g5, 0, none⟩) 3 [x1.1, x2.1, x3.1] w22 HTB.out.1 (by first | decide | omega) hT.1 hT.2.1 hnm (at2_blk (ks := [x1.1, x2.1, x3.1]) HG5.out) (by simp) hS hd).mono ?_;rintro e w23 ⟨rfl, hb⟩;replace HBr := kB hb HBr;replace HBt := kB hb HBt;replace HBa := kB hb HBa;replace HBb := kB hb HBb;replace HBth := kB hb HBth;replace HBtt := kB hb HBtt;replace HP := h_ (HP.out.below hb);replace HTB := h_ (HTB.out.below hb);replace HD := dB HD hb;have hsz23 := HD.out.size;clear hb;clear HG5;simp only [eV];obtain ⟨z0, z1⟩ := cl2 HBr.out;obtain ⟨fz0, fz1⟩ := fr2 HBr.out;go_wp2_with fail
   have hg := st2_grown w23 kr (.string ⟨(mk 27 t C6 [x1.1, x2.1, x3.1]).S.toArray⟩) (.int .i64 ((mk 27 t C6 [x1.1, x2.1, x3.1]).d : Nat));exact bodyPost_ret (v := .agg #[.string ⟨(mk 27 t C6 [x1.1, x2.1, x3.1]).S.toArray⟩, .int .i64 ((mk 27 t C6 [x1.1, x2.1, x3.1]).d : Nat)]) (by simp [results, Tryz.results56, go_sem, z0, z1]) rfl ⟨by rw [HC6.out, HC3.out, HNt.out, HNth.out, HNtt.out]; rfl, HP.out.store (by omega) hg, grown_new HD.out hg (by omega)⟩
  rw [if_pos (show r.is wIf = true from hi)] at hc;have HIK := h_ (RS.is_kind hi);simp only [Option.bind_eq_some_iff] at hc;obtain ⟨x1, h1, x2, h2, x3, h3, hx⟩ := hc;injection hx with hx;subst hx;have H1 := h_ h1;have H2 := h_ h2;have H3 := h_ h3;clear hi h1 h2 h3;have hT := HTD.out.at;rw [<- HNt.out] at hT;have HG0 := h_ (HGR.out.inc HIK.out.1);have HK4 : Hid (r.at'.kind ≠ 4) := h_ (HIK.out.1);obtain ⟨pb, pi, pn, pc, h1, h2, h3, h4, h5, h6, h7, h8, h9⟩ := HP.out;have g1 := cell_at (v := .int .i64 (pi : Nat)) h1 1 rfl;have f1 := froz_at h1 1;have hil : pi <= 30000 := by omega
  have HH := h_ (And.intro h1 (And.intro h2 (And.intro h3 (And.intro h4 (And.intro h5 (And.intro h6 (And.intro h7 (And.intro h8 h9))))))));clear h1 h2 h3 h4 h5 h6 h7 h8 h9;go_upto_region 11 with fail
  clear g1 f1;obtain ⟨h1, h2, h3, h4, h5, h6, h7, h8, h9⟩ := HH.out;have hc0 := heap_setCell_same _ g 1 _ _ (.int .i64 ((pi + 1 : Nat) : Int)) h1;obtain ⟨w6, hw⟩ : ∃ x, x = w5.setCell ⟨g, 1, none⟩ (.int .i64 ((pi + 1 : Nat) : Int)) := ⟨_, rfl⟩
  have hg : w5.grownBy w6 (some g) := by rw [hw]; exact grown_set _ _ _ _
  rw [<- hw] at hc0;have hw' : w5.setCell ⟨g, 1, none⟩ (.int .i64 ((pi : Int) + 1)) = w6 := by rw [hw]; rfl
  rw [hw'];have hp := PR.inc hg hc0 HK4.out h2 h3 h4 h5 h6 h7 h8 h9;clear hw hw' hc0 h1 h2 h3 h4 h5 h6 h7 h8 h9 HH HK4 hil;replace HBr := kG hg HBr;replace HBt := kG hg HBt;replace HTB := h_ (HTB.out.grown hg (by omega));replace HP := h_ hp;replace HD := dG HD hg;clear hp hg;have HF1 := h_ ((r_len n).1 _ _ (HG0.out) H1.out)
  have HP1 : Hid (x1.1.S.length <= 300000000 /\ x1.1.d <= 300000000) := h_ (by
   have h : x1.1.S.length <= 300000000 := Nat.le_trans (Nat.le_trans (Nat.le_add_right _ _) HF1.out.2.1) HP.out.phi
   exact ⟨h, Nat.le_trans HF1.out.2.2.1 h⟩)
  go_wp2_with fail
  refine (E.out g _ x1 w6 HP.out (HG0.out).2 HTB.out H1.out).mono ?_;rintro e w7 ⟨rfl, hp, hg⟩;replace HBr := kG hg HBr;replace HBt := kG hg HBt;replace HTB := h_ (HTB.out.grown hg (by omega));replace HP := h_ hp;replace HD := dG HD hg;have hsz7 := HD.out.size;clear hp hg;simp only [eV];go_upto_region 12 with fail
  obtain ⟨w8, ka, hw, hkk, hb, -, HBa⟩ := newb w7 #[.string ⟨x1.1.S.toArray⟩, .int .i64 (x1.1.d : Nat)] 117;have hga : g < ka := by rw [hkk]; exact HP.out.lt
  have hea : w.heap.size <= ka := by omega
  have hr_a : kr < ka := by rw [hkk]; exact lt_of_block HBr.out
  have ht_a : kt < ka := by rw [hkk]; exact lt_of_block HBt.out
  rw [hw, <- hkk];replace HBr := kB hb HBr;replace HBt := kB hb HBt;replace HP := h_ (HP.out.below hb);replace HTB := h_ (HTB.out.below hb);replace HD := dB HD hb;clear hw hb hkk;go_wp2_with fail
  refine (eat_p g (x1.2) [116, 104, 101, 110] w8 HP.out).mono ?_;rintro e w9 ⟨⟨v, rfl⟩, hp, hg⟩;replace HBr := kG hg HBr;replace HBt := kG hg HBt;replace HBa := kG hg HBa;replace HTB := h_ (HTB.out.grown hg (by omega));replace HP := h_ hp;replace HD := dG HD hg;clear hp hg;have HF2 := h_ ((r_len n).1 _ _ (HF1.out.1.eat wThen) H2.out)
  have HP2 : Hid (x2.1.S.length <= 300000000 /\ x2.1.d <= 300000000) := h_ (by
   have h : x2.1.S.length <= 300000000 := Nat.le_trans (Nat.le_trans (Nat.le_add_right _ _) HF2.out.2.1) HP.out.phi
   exact ⟨h, Nat.le_trans HF2.out.2.2.1 h⟩)
  go_wp2_with fail
  refine (E.out g _ x2 w9 HP.out (HF1.out.1.eat wThen).2 HTB.out H2.out).mono ?_;rintro e w10 ⟨rfl, hp, hg⟩;replace HBr := kG hg HBr;replace HBt := kG hg HBt;replace HBa := kG hg HBa;replace HTB := h_ (HTB.out.grown hg (by omega));replace HP := h_ hp;replace HD := dG HD hg;have hsz10 := HD.out.size;clear hp hg;simp only [eV];go_upto_region 14 with fail
  obtain ⟨w11, kb, hw, hkk, hb, -, HBb⟩ := newb w10 #[.string ⟨x2.1.S.toArray⟩, .int .i64 (x2.1.d : Nat)] 117;have hgb : g < kb := by rw [hkk]; exact HP.out.lt
  have heb : w.heap.size <= kb := by omega
  have hr_b : kr < kb := by rw [hkk]; exact lt_of_block HBr.out
  have ht_b : kt < kb := by rw [hkk]; exact lt_of_block HBt.out
  have ha_b : ka < kb := by rw [hkk]; exact lt_of_block HBa.out
  rw [hw, <- hkk];replace HBr := kB hb HBr;replace HBt := kB hb HBt;replace HBa := kB hb HBa;replace HP := h_ (HP.out.below hb);replace HTB := h_ (HTB.out.below hb);replace HD := dB HD hb;clear hw hb hkk;go_wp2_with fail
  refine (eat_p g (x2.2) [101, 108, 115, 101] w11 HP.out).mono ?_;rintro e w12 ⟨⟨v, rfl⟩, hp, hg⟩;replace HBr := kG hg HBr;replace HBt := kG hg HBt;replace HBa := kG hg HBa;replace HBb := kG hg HBb;replace HTB := h_ (HTB.out.grown hg (by omega));replace HP := h_ hp;replace HD := dG HD hg;have hsz12 := HD.out.size;clear hp hg;have HF3 := h_ ((r_len n).1 _ _ (HF2.out.1.eat wElse) H3.out)
  have HP3 : Hid (x3.1.S.length <= 300000000 /\ x3.1.d <= 300000000) := h_ (by
   have h : x3.1.S.length <= 300000000 := Nat.le_trans (Nat.le_trans (Nat.le_add_right _ _) HF3.out.2.1) HP.out.phi
   exact ⟨h, Nat.le_trans HF3.out.2.2.1 h⟩)
  go_upto_region 15 with fail
  have hlt_t := lt_of_block HBt.out;have hlt_a := lt_of_block HBa.out;have hlt_b := lt_of_block HBb.out;have hog : ∀ q, q < 1 -> (fun q => g) q < w12.heap.size := fun q _ => by show g < _; exact HP.out.lt
  refine R7.region (by kernel_rfl) [[], [], [], [], [3], [1, 2, 3, 4], [0, 1, 2, 3, 4, 5], [0, 1, 2, 3, 4, 5, 6]] [] [(4, 1000)] (fun q => g) 1 6 (by kernel_rfl) (by kernel_rfl) (by rfl) hog (fun q q' h h' hn => absurd hn (by omega)) ?_;refine R7.Chain.det ?_ (by rfl) (fun T xs wr hA => ?_) ?_
  rotate_left 1
  ·have e3 := hA.pre 3 (by kernel_rfl);simp only [gsa, gsc, gsz] at e3;have hBq : wr.heap[kt]? = _ := (hA.bl _ hlt_t (fun q _ => by show g ≠ kt; omega)).trans HBt.out;obtain ⟨q0, q1, q2, q3⟩ := cl4 hBq;clear hBq;clear hA;refine ⟨(by rfl), ?_⟩;go_simp <;> (try with_reducible rfl)
  refine R7.Chain.det ?_ (by rfl) (fun T xs wr hA => ?_) ?_
  rotate_left 1
  ·have e6 := hA.pre 6 (by kernel_rfl);simp only [gsa, gsc, gsz] at e6;have hBq : wr.heap[ka]? = _ := (hA.bl _ hlt_a (fun q _ => by show g ≠ ka; omega)).trans HBa.out;obtain ⟨q0, q1⟩ := cl2 hBq;clear hBq;clear hA;refine ⟨(by rfl), ?_⟩;go_simp <;> (try with_reducible rfl)
  refine R7.Chain.det ?_ (by rfl) (fun T xs wr hA => ?_) ?_
  rotate_left 1
  ·have e7 := hA.pre 7 (by kernel_rfl);simp only [gsa, gsc, gsz] at e7;have hBq : wr.heap[kb]? = _ := (hA.bl _ hlt_b (fun q _ => by show g ≠ kb; omega)).trans HBb.out;obtain ⟨q0, q1⟩ := cl2 hBq;clear hBq;clear hA;refine ⟨(by rfl), ?_⟩;go_simp <;> (try with_reducible rfl)
  refine R7.Chain.det ?_ (by rfl) (fun T xs wr hA => ?_) ?_
  rotate_left 1
  ·have e0 := hA.pre 0 (by kernel_rfl);simp only [gsa, gsz] at e0;clear hA;refine ⟨(by rfl), ?_⟩;go_simp <;> (try with_reducible rfl)
  refine R7.Chain.callOld 0 (fun xs v w => v = eV x3.1 /\ PR w g x3.2) (fun _ _ _ _ ⟨h1, h2⟩ hb => ⟨h1, h2.below hb⟩) (fun _ _ _ _ q' _ hq hne _ => absurd rfl hne) (by rfl) (by rfl) (by decide) (R7.own_one (by rfl)) (fun T xs wr hA hold => ?_) ?_
  ·have hsw := (hA.be 0 (Nat.zero_le _) (fun _ _ => Nat.zero_le _)).size;have e60 := (hA.tm 3 60 (by rfl) (by rfl)).trans (congrArg some (hA.fa 3 (by rfl)))
   (try simp (disch := first | rfl | decide) only [R7.mask_in] at e60)
   have h0 := undrew (hA.be 0 (Nat.zero_le _) (fun _ _ => Nat.zero_le _))
   have hbw : Below w12.heap.size w12 wr := ⟨h0.os, h0.tape, h0.output, h0.size, fun k hk => by
    by_cases e : k = g
    ·rw [e]; exact hold
    exact hA.bl k hk (fun q _ h => e h.symm)⟩
   clear hA;refine ⟨(by rfl), fun K hK => ?_⟩;go_simp
   refine (E.out g _ x3 _ (HP.out.below hbw) (HF2.out.1.eat wElse).2 (HTB.out.below hbw) H3.out).mono ?_;rintro e w' ⟨rfl, hp, hg⟩;exact hK.out _ _ ⟨rfl, hp⟩ (R7.Priv.of hg)
  refine R7.Chain.call (fun xs v w => ∃ g, v = .slice (some ⟨g, 0, none⟩) 3 3 /\ w12.heap.size <= g /\ w.heap[g]? = some (.cells #[.string ⟨x1.1.S.toArray⟩, .int .i64 (x1.1.d : Nat), .string ⟨x2.1.S.toArray⟩, .int .i64 (x2.1.d : Nat), .string ⟨x3.1.S.toArray⟩, .int .i64 (x3.1.d : Nat)] 117 (0, 0))) (fun _ _ _ _ ⟨g, hv, hl, hg⟩ hb => ⟨g, hv, hl, by rw [hb.block g (Array.getElem?_eq_some_iff.1 hg).1]; exact hg⟩) (fun _ _ _ _ _ ⟨g, hv, hl, hg⟩ ⟨q, hq, e⟩ hp => ⟨g, hv, hl, by rw [hp.block g (Array.getElem?_eq_some_iff.1 hg).1 (fun h => by have := hog q hq; omega)]; exact hg⟩) (by rfl) (fun T xs wr hA => ?_) ?_
  ·have hsw := (hA.be 0 (Nat.zero_le _) (fun _ _ => Nat.zero_le _)).size;have e58 := (hA.tm 1 58 (by rfl) (by rfl)).trans (congrArg some (hA.fa 1 (by rfl)))
   (try simp (disch := first | rfl | decide) only [R7.mask_in] at e58)
   have e59 := (hA.tm 2 59 (by rfl) (by rfl)).trans (congrArg some (hA.fa 2 (by rfl)))
   (try simp (disch := first | rfl | decide) only [R7.mask_in] at e59)
   have e61 := hA.tm 4 61 (by rfl) (by rfl);have hF4 : xs 4 = eV x3.1 /\ PR wr g x3.2 := hA.fa 4 (by rfl);rw [hF4.1] at e61;unfold eV at e61;clear hA;refine ⟨(by rfl), fun K hK => ?_⟩;go_simp
   exact hK.out _ _ ⟨_, rfl, hsw, by simpa using made_at wr _ _ rfl⟩ ((Below.refl _ _).alloc (Nat.le_refl _) _)
  refine R7.Chain.done (fun xs w13 hL => ?_);obtain ⟨⟨hbe, hbl⟩, hf, -, -⟩ := hL;have f0 : xs 0 = _ := hf 0 (by decide);have f1 : xs 1 = _ := hf 1 (by decide);have f2 : xs 2 = _ := hf 2 (by decide);have f3 : xs 3 = _ := hf 3 (by decide);have F4 : (xs 4) = eV x3.1 /\ PR w13 g x3.2 := hf 4 (by decide);have F5 : ∃ g, (xs 5) = .slice (some ⟨g, 0, none⟩) 3 3 /\ w12.heap.size <= g /\ w13.heap[g]? = some (.cells #[.string ⟨x1.1.S.toArray⟩, .int .i64 (x1.1.d : Nat), .string ⟨x2.1.S.toArray⟩, .int .i64 (x2.1.d : Nat), .string ⟨x3.1.S.toArray⟩, .int .i64 (x3.1.d : Nat)] 117 (0, 0)) := hf 5 (by decide)
  (try simp (disch := first | rfl | decide) only [R7.mask_in] at f0 f1 f2 f3)
  have hb0 : Below 0 w12 w13 := undrew (hbe 0 (Nat.zero_le _) (fun _ _ => Nat.zero_le _));have hgr : ∀ j, j < w12.heap.size -> (∀ q, q < 1 -> (fun q => g) q ≠ j) -> w13.heap[j]? = w12.heap[j]? := hbl;clear hbe hbl hf;obtain ⟨hv4, hp⟩ := F4;obtain ⟨g5, hv5, hl5, hg5⟩ := F5;have hg : w12.grownBy w13 (some g) := ⟨hb0.os, hb0.tape, hb0.output, hb0.size, fun k hk hn => hgr k hk (fun q _ e => hn (by rw [<- e]))⟩
  refine R7.rest_list (by decide) (by kernel_rfl) ?_;simp only [R7.fill, List.take_succ_cons, List.take_zero, List.drop_succ_cons, List.drop_zero, List.setIfInBounds_toArray, List.set_cons_zero, List.set_cons_succ, f0, f1, f2, f3];simp only [hv4, hv5];clear hog hv4 hv5 hl5 hb0 hgr hlt_t hlt_a hlt_b f0 f1 f2 f3;replace HBr := kG hg HBr;replace HBt := kG hg HBt;replace HBa := kG hg HBa;replace HBb := kG hg HBb;replace HTB := h_ (HTB.out.grown hg (by omega));replace HP := h_ hp;replace HD := dG HD hg;have hsz13 := HD.out.size;have HG5 := h_ hg5;clear hp hg hg5;have hnm : ([] : Bs).length <= 1000000 := by simp
  have hf1 := HP1.out.1;have hr1 := HP1.out.2;have hf2 := HP2.out.1;have hr2 := HP2.out.2;have hf3 := HP3.out.1;have hr3 := HP3.out.2;have hS : ([x1.1, x2.1, x3.1].flatMap RE.S).length <= 1000000000 := by rw [fl3]; omega
  have hd : ∀ e ∈ [x1.1, x2.1, x3.1], e.d <= 1000000000 := by intro e he; simp only [List.mem_cons, List.not_mem_nil, or_false] at he; rcases he with rfl | rfl | rfl <;> omega
  go_wp2_with fail
  refine (made_p 25 t [] (some ⟨g5, 0, none⟩) 3 [x1.1, x2.1, x3.1] w13 HTB.out.1 (by first | decide | omega) hT.1 hT.2.1 hnm (at2_blk (ks := [x1.1, x2.1, x3.1]) HG5.out) (by simp) hS hd).mono ?_;rintro e w14 ⟨rfl, hb⟩;replace HBr := kB hb HBr;replace HBt := kB hb HBt;replace HBa := kB hb HBa;replace HBb := kB hb HBb;replace HP := h_ (HP.out.below hb);replace HTB := h_ (HTB.out.below hb);replace HD := dB HD hb;have hsz14 := HD.out.size;clear hb;clear HG5;simp only [eV];obtain ⟨z0, z1⟩ := cl2 HBr.out;obtain ⟨fz0, fz1⟩ := fr2 HBr.out;go_wp2_with fail
  have hg := st2_grown w14 kr (.string ⟨(mk 25 t [] [x1.1, x2.1, x3.1]).S.toArray⟩) (.int .i64 ((mk 25 t [] [x1.1, x2.1, x3.1]).d : Nat));exact bodyPost_ret (v := .agg #[.string ⟨(mk 25 t [] [x1.1, x2.1, x3.1]).S.toArray⟩, .int .i64 ((mk 25 t [] [x1.1, x2.1, x3.1]).d : Nat)]) (by simp [results, Tryz.results56, go_sem, z0, z1]) rfl ⟨by rw [HNt.out]; rfl, HP.out.store (by omega) hg, grown_new HD.out hg (by omega)⟩
 rw [if_pos (show r.is wLet = true from hi)] at hc;have HIK := h_ (RS.is_kind hi);simp only [Option.bind_eq_some_iff] at hc;obtain ⟨x1, h1, x2, h2, hx⟩ := hc;injection hx with hx;subst hx;have H1 := h_ h1;have H2 := h_ h2;clear hi h1 h2;have hT := HTD.out.at;rw [<- HNt.out] at hT;have HG0 := h_ (HGR.out.inc HIK.out.1);have HK4 : Hid (r.at'.kind ≠ 4) := h_ (HIK.out.1);obtain ⟨pb, pi, pn, pc, h1, h2, h3, h4, h5, h6, h7, h8, h9⟩ := HP.out;have g1 := cell_at (v := .int .i64 (pi : Nat)) h1 1 rfl;have f1 := froz_at h1 1;have hil : pi <= 30000 := by omega
 have HH := h_ (And.intro h1 (And.intro h2 (And.intro h3 (And.intro h4 (And.intro h5 (And.intro h6 (And.intro h7 (And.intro h8 h9))))))));clear h1 h2 h3 h4 h5 h6 h7 h8 h9;go_upto_region 4 with fail
 clear g1 f1;obtain ⟨h1, h2, h3, h4, h5, h6, h7, h8, h9⟩ := HH.out;have hc0 := heap_setCell_same _ g 1 _ _ (.int .i64 ((pi + 1 : Nat) : Int)) h1;obtain ⟨w5, hw⟩ : ∃ x, x = w4.setCell ⟨g, 1, none⟩ (.int .i64 ((pi + 1 : Nat) : Int)) := ⟨_, rfl⟩
 have hg : w4.grownBy w5 (some g) := by rw [hw]; exact grown_set _ _ _ _
 rw [<- hw] at hc0;have hw' : w4.setCell ⟨g, 1, none⟩ (.int .i64 ((pi : Int) + 1)) = w5 := by rw [hw]; rfl
 rw [hw'];have hp := PR.inc hg hc0 HK4.out h2 h3 h4 h5 h6 h7 h8 h9;clear hw hw' hc0 h1 h2 h3 h4 h5 h6 h7 h8 h9 HH HK4 hil;replace HBr := kG hg HBr;replace HBt := kG hg HBt;replace HTB := h_ (HTB.out.grown hg (by omega));replace HP := h_ hp;replace HD := dG HD hg;clear hp hg;go_wp2_with fail
 refine (rname_p g (r.inc) w5 HP.out).mono ?_;rintro e w6 ⟨rfl, hp, hg⟩;replace HBr := kG hg HBr;replace HBt := kG hg HBt;replace HTB := h_ (HTB.out.grown hg (by omega));replace HP := h_ hp;replace HD := dG HD hg;have hsz6 := HD.out.size;clear hp hg;simp only [tokV];obtain ⟨tn, hnx⟩ : ∃ t, t = RS.at' (r.inc) := ⟨_, rfl⟩
 rw [<- hnx];have HNtn := h_ hnx;clear hnx;go_upto_region 5 with fail
 obtain ⟨w7, ktn, hw, hkk, hb, -, HBtn⟩ := newb w6 #[.int .i64 (tn.kind : Nat), .string ⟨tn.text.toArray⟩, .int .i64 (tn.line : Nat), .int .i64 (tn.col : Nat)] 60;have hgtn : g < ktn := by rw [hkk]; exact HP.out.lt
 have hetn : w.heap.size <= ktn := by omega
 have hr_tn : kr < ktn := by rw [hkk]; exact lt_of_block HBr.out
 have ht_tn : kt < ktn := by rw [hkk]; exact lt_of_block HBt.out
 rw [hw, <- hkk];replace HBr := kB hb HBr;replace HBt := kB hb HBt;replace HP := h_ (HP.out.below hb);replace HTB := h_ (HTB.out.below hb);replace HD := dB HD hb;clear hw hb hkk;have hN := HG0.out.2.at;rw [<- HNtn.out] at hN;go_wp2_with fail
 refine (eat_p g (r.inc.name) [61] w7 HP.out).mono ?_;rintro e w8 ⟨⟨v, rfl⟩, hp, hg⟩;replace HBr := kG hg HBr;replace HBt := kG hg HBt;replace HBtn := kG hg HBtn;replace HTB := h_ (HTB.out.grown hg (by omega));replace HP := h_ hp;replace HD := dG HD hg;clear hp hg;have HF1 := h_ ((r_len n).1 _ _ (HG0.out.name.eat wEq) H1.out)
 have HP1 : Hid (x1.1.S.length <= 300000000 /\ x1.1.d <= 300000000) := h_ (by
  have h : x1.1.S.length <= 300000000 := Nat.le_trans (Nat.le_trans (Nat.le_add_right _ _) HF1.out.2.1) HP.out.phi
  exact ⟨h, Nat.le_trans HF1.out.2.2.1 h⟩)
 go_wp2_with fail
 refine (E.out g _ x1 w8 HP.out (HG0.out.name.eat wEq).2 HTB.out H1.out).mono ?_;rintro e w9 ⟨rfl, hp, hg⟩;replace HBr := kG hg HBr;replace HBt := kG hg HBt;replace HBtn := kG hg HBtn;replace HTB := h_ (HTB.out.grown hg (by omega));replace HP := h_ hp;replace HD := dG HD hg;have hsz9 := HD.out.size;clear hp hg;simp only [eV];go_upto_region 7 with fail
 obtain ⟨w10, ka, hw, hkk, hb, -, HBa⟩ := newb w9 #[.string ⟨x1.1.S.toArray⟩, .int .i64 (x1.1.d : Nat)] 117;have hga : g < ka := by rw [hkk]; exact HP.out.lt
 have hea : w.heap.size <= ka := by omega
 have hr_a : kr < ka := by rw [hkk]; exact lt_of_block HBr.out
 have ht_a : kt < ka := by rw [hkk]; exact lt_of_block HBt.out
 have htn_a : ktn < ka := by rw [hkk]; exact lt_of_block HBtn.out
 rw [hw, <- hkk];replace HBr := kB hb HBr;replace HBt := kB hb HBt;replace HBtn := kB hb HBtn;replace HP := h_ (HP.out.below hb);replace HTB := h_ (HTB.out.below hb);replace HD := dB HD hb;clear hw hb hkk;go_wp2_with fail
 refine (eat_p g (x1.2) [105, 110] w10 HP.out).mono ?_;rintro e w11 ⟨⟨v, rfl⟩, hp, hg⟩;replace HBr := kG hg HBr;replace HBt := kG hg HBt;replace HBtn := kG hg HBtn;replace HBa := kG hg HBa;replace HTB := h_ (HTB.out.grown hg (by omega));replace HP := h_ hp;replace HD := dG HD hg;have hsz11 := HD.out.size;clear hp hg;have HF2 := h_ ((r_len n).1 _ _ (HF1.out.1.eat wIn) H2.out)
 have HP2 : Hid (x2.1.S.length <= 300000000 /\ x2.1.d <= 300000000) := h_ (by
  have h : x2.1.S.length <= 300000000 := Nat.le_trans (Nat.le_trans (Nat.le_add_right _ _) HF2.out.2.1) HP.out.phi
  exact ⟨h, Nat.le_trans HF2.out.2.2.1 h⟩)
 go_upto_region 8 with fail
 have hlt_t := lt_of_block HBt.out;have hlt_tn := lt_of_block HBtn.out;have hlt_a := lt_of_block HBa.out;have hog : ∀ q, q < 1 -> (fun q => g) q < w11.heap.size := fun q _ => by show g < _; exact HP.out.lt
 refine R7.region (by kernel_rfl) [[], [], [1], [], [], [4], [3, 4, 5], [0, 1, 2, 3, 4, 5, 6], [0, 1, 2, 3, 4, 5, 6, 7]] [] [(5, 1000)] (fun q => g) 1 7 (by kernel_rfl) (by kernel_rfl) (by rfl) hog (fun q q' h h' hn => absurd hn (by omega)) ?_;refine R7.Chain.det ?_ (by rfl) (fun T xs wr hA => ?_) ?_
 rotate_left 1
 ·have e3 := hA.pre 3 (by kernel_rfl);simp only [gsa, gsc, gsz] at e3;have hBq : wr.heap[kt]? = _ := (hA.bl _ hlt_t (fun q _ => by show g ≠ kt; omega)).trans HBt.out;obtain ⟨q0, q1, q2, q3⟩ := cl4 hBq;clear hBq;clear hA;refine ⟨(by rfl), ?_⟩;go_simp <;> (try with_reducible rfl)
 refine R7.Chain.det ?_ (by rfl) (fun T xs wr hA => ?_) ?_
 rotate_left 1
 ·have e4 := hA.pre 4 (by kernel_rfl);simp only [gsa, gsc, gsz] at e4;clear hA;refine ⟨(by rfl), ?_⟩;go_simp <;> (try with_reducible rfl)
 refine R7.Chain.det ?_ (by rfl) (fun T xs wr hA => ?_) ?_
 rotate_left 1
 ·have e33 := (hA.tm 1 33 (by rfl) (by rfl)).trans (congrArg some (hA.fa 1 (by rfl)))
  (try simp (disch := first | rfl | decide) only [R7.mask_in] at e33)
  have hBq : wr.heap[ktn]? = _ := (hA.bl _ hlt_tn (fun q _ => by show g ≠ ktn; omega)).trans HBtn.out;obtain ⟨q0, q1, q2, q3⟩ := cl4 hBq;clear hBq;clear hA;refine ⟨(by rfl), ?_⟩;go_simp <;> (try with_reducible rfl)
 refine R7.Chain.det ?_ (by rfl) (fun T xs wr hA => ?_) ?_
 rotate_left 1
 ·have e5 := hA.pre 5 (by kernel_rfl);simp only [gsa, gsc, gsz] at e5;have hBq : wr.heap[ka]? = _ := (hA.bl _ hlt_a (fun q _ => by show g ≠ ka; omega)).trans HBa.out;obtain ⟨q0, q1⟩ := cl2 hBq;clear hBq;clear hA;refine ⟨(by rfl), ?_⟩;go_simp <;> (try with_reducible rfl)
 refine R7.Chain.det ?_ (by rfl) (fun T xs wr hA => ?_) ?_
 rotate_left 1
 ·have e0 := hA.pre 0 (by kernel_rfl);simp only [gsa, gsz] at e0;clear hA;refine ⟨(by rfl), ?_⟩;go_simp <;> (try with_reducible rfl)
 refine R7.Chain.callOld 0 (fun xs v w => v = eV x2.1 /\ PR w g x2.2) (fun _ _ _ _ ⟨h1, h2⟩ hb => ⟨h1, h2.below hb⟩) (fun _ _ _ _ q' _ hq hne _ => absurd rfl hne) (by rfl) (by rfl) (by decide) (R7.own_one (by rfl)) (fun T xs wr hA hold => ?_) ?_
 ·have hsw := (hA.be 0 (Nat.zero_le _) (fun _ _ => Nat.zero_le _)).size;have e36 := (hA.tm 4 36 (by rfl) (by rfl)).trans (congrArg some (hA.fa 4 (by rfl)))
  (try simp (disch := first | rfl | decide) only [R7.mask_in] at e36)
  have h0 := undrew (hA.be 0 (Nat.zero_le _) (fun _ _ => Nat.zero_le _))
  have hbw : Below w11.heap.size w11 wr := ⟨h0.os, h0.tape, h0.output, h0.size, fun k hk => by
   by_cases e : k = g
   ·rw [e]; exact hold
   exact hA.bl k hk (fun q _ h => e h.symm)⟩
  clear hA;refine ⟨(by rfl), fun K hK => ?_⟩;go_simp
  refine (E.out g _ x2 _ (HP.out.below hbw) (HF1.out.1.eat wIn).2 (HTB.out.below hbw) H2.out).mono ?_;rintro e w' ⟨rfl, hp, hg⟩;exact hK.out _ _ ⟨rfl, hp⟩ (R7.Priv.of hg)
 refine R7.Chain.call (fun xs v w => ∃ g, v = .slice (some ⟨g, 0, none⟩) 2 2 /\ w11.heap.size <= g /\ w.heap[g]? = some (.cells #[.string ⟨x1.1.S.toArray⟩, .int .i64 (x1.1.d : Nat), .string ⟨x2.1.S.toArray⟩, .int .i64 (x2.1.d : Nat)] 117 (0, 0))) (fun _ _ _ _ ⟨g, hv, hl, hg⟩ hb => ⟨g, hv, hl, by rw [hb.block g (Array.getElem?_eq_some_iff.1 hg).1]; exact hg⟩) (fun _ _ _ _ _ ⟨g, hv, hl, hg⟩ ⟨q, hq, e⟩ hp => ⟨g, hv, hl, by rw [hp.block g (Array.getElem?_eq_some_iff.1 hg).1 (fun h => by have := hog q hq; omega)]; exact hg⟩) (by rfl) (fun T xs wr hA => ?_) ?_
 ·have hsw := (hA.be 0 (Nat.zero_le _) (fun _ _ => Nat.zero_le _)).size;have e35 := (hA.tm 3 35 (by rfl) (by rfl)).trans (congrArg some (hA.fa 3 (by rfl)))
  (try simp (disch := first | rfl | decide) only [R7.mask_in] at e35)
  have e37 := hA.tm 5 37 (by rfl) (by rfl);have hF5 : xs 5 = eV x2.1 /\ PR wr g x2.2 := hA.fa 5 (by rfl);rw [hF5.1] at e37;unfold eV at e37;clear hA;refine ⟨(by rfl), fun K hK => ?_⟩;go_simp
  exact hK.out _ _ ⟨_, rfl, hsw, by simpa using made_at wr _ _ rfl⟩ ((Below.refl _ _).alloc (Nat.le_refl _) _)
 refine R7.Chain.done (fun xs w12 hL => ?_);obtain ⟨⟨hbe, hbl⟩, hf, -, -⟩ := hL;have f0 : xs 0 = _ := hf 0 (by decide);have f1 : xs 1 = _ := hf 1 (by decide);have f2 : xs 2 = _ := hf 2 (by decide);have f3 : xs 3 = _ := hf 3 (by decide);have f4 : xs 4 = _ := hf 4 (by decide);have F5 : (xs 5) = eV x2.1 /\ PR w12 g x2.2 := hf 5 (by decide);have F6 : ∃ g, (xs 6) = .slice (some ⟨g, 0, none⟩) 2 2 /\ w11.heap.size <= g /\ w12.heap[g]? = some (.cells #[.string ⟨x1.1.S.toArray⟩, .int .i64 (x1.1.d : Nat), .string ⟨x2.1.S.toArray⟩, .int .i64 (x2.1.d : Nat)] 117 (0, 0)) := hf 6 (by decide)
 (try simp (disch := first | rfl | decide) only [R7.mask_in] at f0 f1 f2 f3 f4)
 have hb0 : Below 0 w11 w12 := undrew (hbe 0 (Nat.zero_le _) (fun _ _ => Nat.zero_le _));have hgr : ∀ j, j < w11.heap.size -> (∀ q, q < 1 -> (fun q => g) q ≠ j) -> w12.heap[j]? = w11.heap[j]? := hbl;clear hbe hbl hf;obtain ⟨hv4, hp⟩ := F5;obtain ⟨g5, hv5, hl5, hg5⟩ := F6;have hg : w11.grownBy w12 (some g) := ⟨hb0.os, hb0.tape, hb0.output, hb0.size, fun k hk hn => hgr k hk (fun q _ e => hn (by rw [<- e]))⟩
 refine R7.rest_list (by decide) (by kernel_rfl) ?_;simp only [R7.fill, List.take_succ_cons, List.take_zero, List.drop_succ_cons, List.drop_zero, List.setIfInBounds_toArray, List.set_cons_zero, List.set_cons_succ, f0, f1, f2, f3, f4];simp only [hv4, hv5];clear hog hv4 hv5 hl5 hb0 hgr hlt_t hlt_tn hlt_a f0 f1 f2 f3 f4;replace HBr := kG hg HBr;replace HBt := kG hg HBt;replace HBtn := kG hg HBtn;replace HBa := kG hg HBa;replace HTB := h_ (HTB.out.grown hg (by omega));replace HP := h_ hp;replace HD := dG HD hg;have hsz12 := HD.out.size;have HG5 := h_ hg5;clear hp hg hg5;have hnm : (tn.text).length <= 1000000 := by have := hN.2.2; omega
 have hf1 := HP1.out.1;have hr1 := HP1.out.2;have hf2 := HP2.out.1;have hr2 := HP2.out.2;have hS : ([x1.1, x2.1].flatMap RE.S).length <= 1000000000 := by rw [fl2]; omega
 have hd : ∀ e ∈ [x1.1, x2.1], e.d <= 1000000000 := by intro e he; simp only [List.mem_cons, List.not_mem_nil, or_false] at he; rcases he with rfl | rfl <;> omega
 go_wp2_with fail
 refine (made_p 26 t tn.text (some ⟨g5, 0, none⟩) 2 [x1.1, x2.1] w12 HTB.out.1 (by first | decide | omega) hT.1 hT.2.1 hnm (at2_blk (ks := [x1.1, x2.1]) HG5.out) (by simp) hS hd).mono ?_;rintro e w13 ⟨rfl, hb⟩;replace HBr := kB hb HBr;replace HBt := kB hb HBt;replace HBtn := kB hb HBtn;replace HBa := kB hb HBa;replace HP := h_ (HP.out.below hb);replace HTB := h_ (HTB.out.below hb);replace HD := dB HD hb;have hsz13 := HD.out.size;clear hb;clear HG5;simp only [eV];obtain ⟨z0, z1⟩ := cl2 HBr.out;obtain ⟨fz0, fz1⟩ := fr2 HBr.out;go_wp2_with fail
 have hg := st2_grown w13 kr (.string ⟨(mk 26 t tn.text [x1.1, x2.1]).S.toArray⟩) (.int .i64 ((mk 26 t tn.text [x1.1, x2.1]).d : Nat));exact bodyPost_ret (v := .agg #[.string ⟨(mk 26 t tn.text [x1.1, x2.1]).S.toArray⟩, .int .i64 ((mk 26 t tn.text [x1.1, x2.1]).d : Nat)]) (by simp [results, Tryz.results56, go_sem, z0, z1]) rfl ⟨by rw [HNt.out, HNtn.out]; rfl, HP.out.store (by omega) hg, grown_new HD.out hg (by omega)⟩
theorem r_all (n : Nat) : ∀ m, m <= n -> RExprAt m /\ RClimbAt m /\ RSingleAt m /\ RAtomAt m := by
 induction n with
 | zero =>
  intro m hm;obtain rfl : m = 0 := by omega
  refine ⟨?_, ?_, ?_, ?_⟩
  ·intro g r x w _ _ _ h; simp [rExpr] at h
  ·intro g l r x w _ _ _ _ _ h; simp [rClimb] at h
  ·intro g r x w _ _ _ h; simp [rSingle] at h
  intro g r x w _ _ _ h; simp [rAtom] at h
 | succ n ih =>
  intro m hm
  by_cases h : m <= n
  ·exact ih m h
  obtain rfl : m = n + 1 := by omega
  obtain ⟨h1, h2, h3, h4⟩ := ih n (Nat.le_refl _);exact ⟨rexpr_p n (h_ h1) (h_ h2), climb_p n (h_ h3) (h_ fun m hm => (ih m hm).2.1), single_p n (h_ h3) (h_ h4), ratom_p n (h_ h1) (h_ fun m hm => (ih m hm).1)⟩
theorem rall_p (n g : Nat) (r : RS) (y : Bs × RS) (w : World) (hps : PR w g r) (htb : TBd r) (hpw : Pw w g) (hc : rAll n r = some y) :
  Calls Tryz.prog 27 #[.pointer (some ⟨g, 0, none⟩)] w fun e w' => e = .returned (.string ⟨y.1.toArray⟩) /\ Rid w g y.2 w' := by
 have hgw : g < w.heap.size := hps.lt;have HP := h_ hps;have HTD := h_ htb;have HTB := h_ hpw;have HGR := h_ (show GR r from ⟨hps.good, htb⟩);have E := h_ (r_all n n (Nat.le_refl _)).1;clear hps htb hpw;unfold rAll at hc;rw [Option.bind_eq_some_iff] at hc;obtain ⟨x1, h1, h2⟩ := hc;injection h2 with h2;subst h2;have H1 := h_ h1;clear h1;go_enter Tryz.func27, Tryz.ntmps27
 go_wp2_with fail
 refine (at_p g r w HP.out).mono ?_;rintro e w1 ⟨rfl, hb⟩;replace HP := h_ (HP.out.below hb);replace HTB := h_ (HTB.out.below hb);have HD := h_ (below_grown hb (some g));have hsz1 := HD.out.size;clear hb;simp only [tokV];obtain ⟨t, hnx⟩ : ∃ t, t = RS.at' r := ⟨_, rfl⟩
 rw [<- hnx];have HNt := h_ hnx;clear hnx;go_upto_region 2 with fail
 obtain ⟨w2, kt, hw, hkk, hb, -, HBt⟩ := newb w1 #[.int .i64 (t.kind : Nat), .string ⟨t.text.toArray⟩, .int .i64 (t.line : Nat), .int .i64 (t.col : Nat)] 60;have hgt : g < kt := by rw [hkk]; exact HP.out.lt
 have het : w.heap.size <= kt := by omega
 rw [hw, <- hkk];replace HP := h_ (HP.out.below hb);replace HTB := h_ (HTB.out.below hb);replace HD := dB HD hb;clear hw hb hkk;have HF1 := h_ ((r_len n).1 _ _ (HGR.out) H1.out)
 have HP1 : Hid (x1.1.S.length <= 300000000 /\ x1.1.d <= 300000000) := h_ (by
  have h : x1.1.S.length <= 300000000 := Nat.le_trans (Nat.le_trans (Nat.le_add_right _ _) HF1.out.2.1) HP.out.phi
  exact ⟨h, Nat.le_trans HF1.out.2.2.1 h⟩)
 go_wp2_with fail
 refine (E.out g _ x1 w2 HP.out (HGR.out).2 HTB.out H1.out).mono ?_;rintro e w3 ⟨rfl, hp, hg⟩;replace HBt := kG hg HBt;replace HTB := h_ (HTB.out.grown hg (by omega));replace HP := h_ hp;replace HD := dG HD hg;have hsz3 := HD.out.size;clear hp hg;simp only [eV];go_upto_region 3 with fail
 obtain ⟨w4, ke, hw, hkk, hb, -, HBe⟩ := newb w3 #[.string ⟨x1.1.S.toArray⟩, .int .i64 (x1.1.d : Nat)] 117;have hge : g < ke := by rw [hkk]; exact HP.out.lt
 have hee : w.heap.size <= ke := by omega
 have ht_e : kt < ke := by rw [hkk]; exact lt_of_block HBt.out
 rw [hw, <- hkk];replace HBt := kB hb HBt;replace HP := h_ (HP.out.below hb);replace HTB := h_ (HTB.out.below hb);replace HD := dB HD hb;have hsz4 := HD.out.size;clear hw hb hkk;obtain ⟨pb, pi, pn, pc, p1, -⟩ := HP.out;have p2 := cell_at (v := .int .i64 (x1.2.bad : Nat)) p1 2 rfl;clear p1
 by_cases hb : ¬ (x1.2.bad = 0)
 ·have HX : Hid ((if x1.2.bad = 0 /\ 60 < x1.1.d then x1.2.bd r.at' 2 else x1.2) = x1.2) := h_ (if_neg (fun h => hb h.1));have hb' : (((x1.2.bad : Nat) : Int) == 0) = false := by rw [beq_eq_false_iff_ne]; omega
  go_upto_region 5 with fail
  clear hb' p2;obtain ⟨y0, y1⟩ := cl2 HBe.out;go_wp2_with fail
  go_ret
  exact ⟨rfl, by first | (rw [HX.out]; exact HP.out) | exact HP.out | (rw [<- HNt.out]; exact HP.out), HD.out⟩
 replace hb : x1.2.bad = 0 := by omega
 rw [hb] at p2
 by_cases hd : 60 < x1.1.d
 ·have HX : Hid ((if x1.2.bad = 0 /\ 60 < x1.1.d then x1.2.bd r.at' 2 else x1.2) = x1.2.bd t 2) := h_ (by rw [if_pos ⟨hb, hd⟩, HNt.out]);have hd' : decide (60 < x1.1.d) = true := by simpa using hd
  obtain ⟨y0, y1⟩ := cl2 HBe.out;go_upto_region 4 with fail
  clear hd' p2;clear y0 y1;obtain ⟨c0, c1, c2, c3⟩ := cl4 HBt.out;go_wp2_with fail
  have hp0 := bad_p g x1.2 t 2 w4 HP.out;simp only [tokV] at hp0;refine (hp0).mono ?_;rintro e w5 ⟨⟨v, rfl⟩, hp, hg⟩;clear c0 c1 c2 c3;replace HBt := kG hg HBt;replace HBe := kG hg HBe;replace HTB := h_ (HTB.out.grown hg (by omega));replace HP := h_ hp;replace HD := dG HD hg;have hsz5 := HD.out.size;clear hp hg;clear hp0;go_upto_region 5 with fail
  obtain ⟨y0, y1⟩ := cl2 HBe.out;go_wp2_with fail
  go_ret
  exact ⟨rfl, by first | (rw [HX.out]; exact HP.out) | exact HP.out | (rw [<- HNt.out]; exact HP.out), HD.out⟩
 have HX : Hid ((if x1.2.bad = 0 /\ 60 < x1.1.d then x1.2.bd r.at' 2 else x1.2) = x1.2) := h_ (if_neg (fun h => hd h.2));have hd' : decide (60 < x1.1.d) = false := by simpa using hd
 obtain ⟨y0, y1⟩ := cl2 HBe.out;go_upto_region 5 with fail
 clear hd' p2;obtain ⟨y0, y1⟩ := cl2 HBe.out;go_wp2_with fail
 go_ret
 exact ⟨rfl, by first | (rw [HX.out]; exact HP.out) | exact HP.out | (rw [<- HNt.out]; exact HP.out), HD.out⟩
def rs0 (l : Bs) : RS := ⟨(lexS l (1, 1)).1, 0, ⟨0, [], 0, 0⟩⟩
def RS.fin (r : RS) : RS := if r.bad = 0 /\ r.at'.kind ≠ 4 then r.bd r.at' 1 else r
theorem field_kindT (a c d : Int) (l : ByteArray) (w : World) : (Instr.field 60 (.agg #[.int .i64 a, .string l, .int .i64 c, .int .i64 d]) 0).run Tryz.prog w = .ok (.int .i64 a) w := by kernel_rfl
theorem pow_lt {w : World} (h : Pow w) : 4 < w.heap.size := by
 unfold Pow Lib.TabIs World.var? at h;rw [nPow] at h;simp only [Option.bind_some] at h;rcases Nat.lt_or_ge 4 w.heap.size with h' | h'
 ·exact h'
 rw [Array.getElem?_eq_none h'] at h; simp at h
theorem toks_mem {l : Bs} (hl : l.length <= 3000) : (lexS l (1, 1)).1.length <= 3001 := by
 have := (lex_sum l (1, 1)).1
 omega
end Go.Proofs.YtdpfgfkoboihcaaGreatDoor
namespace Go.Proofs.YtdpfgfkoboihcaaGreatDoor
set_option maxRecDepth 100000
theorem placed_bd {s : Bs} {p : Nat × Nat} : ∀ {ts : List Tok} {off : Nat}, Placed s p off ts -> ∀ t ∈ ts, t.line <= p.1 + s.length /\ t.col <= p.2 + 1 + s.length /\ t.text.length <= s.length
 | [], _, _, t, ht => by simp at ht
 | u :: us, off, h, t, ht => by
  obtain ⟨o, h1, h2, h3, h4, h5, h6⟩ := h;rcases List.mem_cons.1 ht with rfl | ht
  ·have := adv_bd p (s.take o);rw [h3] at this;simp only [List.length_take] at this
   omega
  exact placed_bd h6 t ht
theorem tbd_rs0 (l : Bs) (hl : l.length <= 3000) (h0 : (lexS l (1, 1)).2 = 0) : TBd (rs0 l) := fun t ht => by
 have := placed_bd (lex_placed l (1, 1) h0) t ht;simp only at this;exact ⟨by omega, by omega, by omega⟩
def TBs (s : St) : Prop := ∀ t ∈ s.rest, t.line <= 1000000000 /\ t.col <= 1000000000 /\ t.text.length <= 3000
theorem TBs.nx {s : St} (h : TBs s) : s.nx.line <= 1000000000 /\ s.nx.col <= 1000000000 /\ s.nx.text.length <= 3000 := by
 unfold St.nx;obtain ⟨rest, err⟩ := s
 match rest, h with
 | [], _ => simp [tk0]
 | t :: ts, h => exact h t (by simp)
theorem TBs.tk {s : St} (h : TBs s) : TBs s.tk := by unfold St.tk; split; exact h; exact fun t ht => h t (List.mem_of_mem_drop ht)
theorem TBs.fail {s : St} (h : TBs s) (t : Tok) (c : Nat) : TBs (s.fail t c) := fun t ht => h t (List.mem_of_mem_drop ht)
theorem TBs.exp {s : St} (h : TBs s) (w : Bs) : TBs (s.exp w) := by unfold St.exp; split; exact h.tk; exact h.fail _ _
theorem TBs.name {s : St} (h : TBs s) : TBs s.name := by unfold St.name; split; exact h.tk; exact h.tk.fail _ _
def E12 (s : St) : Prop := ∀ x, s.err = some x -> x.1 = 1 \/ x.1 = 2
theorem E12.tk {s : St} (h : E12 s) : E12 s.tk := by unfold St.tk; split; exact h; exact h
theorem E12.fail {s : St} (h : E12 s) (t : Tok) {c : Nat} (hc : c = 1 \/ c = 2) : E12 (s.fail t c) := by
 intro x hx;unfold St.fail at hx;simp only at hx
 cases he : s.err with
 | none => rw [he, Option.none_or] at hx; injection hx with hx; subst hx; exact hc
 | some y => rw [he, Option.some_or] at hx; injection hx with hx; subst hx; exact h _ he
theorem E12.exp {s : St} (h : E12 s) (w : Bs) : E12 (s.exp w) := by unfold St.exp; split; exact h.tk; exact h.fail _ (.inl rfl)
theorem E12.name {s : St} (h : E12 s) : E12 s.name := by unfold St.name; split; exact h.tk; exact h.tk.fail _ (.inl rfl)
def GT (s : St) : Prop := GoodL s.rest /\ TBs s /\ E12 s
theorem GT.tk {s : St} (h : GT s) : GT s.tk := ⟨good_tk h.1, h.2.1.tk, h.2.2.tk⟩
theorem GT.fail {s : St} (h : GT s) (t : Tok) {c : Nat} (hc : c = 1 \/ c = 2) : GT (s.fail t c) := ⟨good_fail h.1 t c, h.2.1.fail t c, h.2.2.fail t hc⟩
theorem GT.exp {s : St} (h : GT s) (w : Bs) : GT (s.exp w) := ⟨good_exp h.1 w, h.2.1.exp w, h.2.2.exp w⟩
theorem GT.name {s : St} (h : GT s) : GT s.name := ⟨good_name h.1, h.2.1.name, h.2.2.name⟩
theorem GT.fin {s : St} (h : GT s) : GT s.fin := by unfold St.fin; split; exact h; exact h.fail _ (.inl rfl)
theorem GT.l {s : St} (h : GT s) : s.nx.line <= 1000000000 := h.2.1.nx.1
theorem GT.c {s : St} (h : GT s) : s.nx.col <= 1000000000 := h.2.1.nx.2.1
theorem GT.t {s : St} (h : GT s) : s.nx.text.length <= 3000 := h.2.1.nx.2.2
def Zb (z : Nat) : Prop := ∃ m, m <= 300 /\ z < L32 ^ m
theorem zb_zero : Zb 0 := ⟨0, by decide, by decide⟩
theorem zb_dn {l : Bs} (h : Numeral l) : Zb (dn l) := ⟨l.length, h.2.1, Nat.lt_of_lt_of_le (dn_lt h.2.2.2) (Nat.pow_le_pow_left (by decide) _)⟩
mutual
def Bnd : U -> Prop
 | .node k nm ot z ln cl ks => (k < 29 /\ (k = 24 \/ ks.length = ar k)) /\ (nm.length <= 3000 /\ ot.length <= 3000 /\ Zb z) /\ (ln <= 1000000000 /\ cl <= 1000000000) /\ Bnds ks
def Bnds : List U -> Prop
 | [] => True
 | u :: us => Bnd u /\ Bnds us
end
theorem bnds_mem {us : List U} (h : Bnds us) {u : U} (hu : u ∈ us) : Bnd u := by
 induction us with
 | nil => simp at hu
 | cons v us ih =>
  rw [Bnds] at h;rcases List.mem_cons.1 hu with rfl | hu
  ·exact h.1
  exact ih h.2 hu
theorem bnds_app {a b : List U} (ha : Bnds a) (hb : Bnds b) : Bnds (a ++ b) := by
 induction a with
 | nil => exact hb
 | cons u a ih => rw [Bnds] at ha; rw [List.cons_append, Bnds]; exact ⟨ha.1, ih ha.2⟩
theorem bnd_u0 : Bnd u0 := by unfold u0; rw [Bnd]; exact ⟨⟨by decide, .inr rfl⟩, ⟨by decide, by decide, zb_zero⟩, ⟨by decide, by decide⟩, by rw [Bnds]; trivial⟩
theorem bnd_prt {k : Nat} {s : St} {ks : List U} (h : GT s) (hk : k < 29) (ha : k = 24 \/ ks.length = ar k) (hs : Bnds ks) : Bnd (prt k s.nx ks) := by
 unfold prt; rw [Bnd]; exact ⟨⟨hk, ha⟩, ⟨by decide, by decide, zb_zero⟩, ⟨h.l, h.c⟩, hs⟩
theorem bnd_nmd {k : Nat} {s : St} {ks : List U} (h : GT s) (hk : k < 29) (ha : k = 24 \/ ks.length = ar k) (hs : Bnds ks) : Bnd (nmd k s.nx ks) := by
 unfold nmd; rw [Bnd]; exact ⟨⟨hk, ha⟩, ⟨h.t, by decide, zb_zero⟩, ⟨h.l, h.c⟩, hs⟩
theorem bnds0 : Bnds [] := by rw [Bnds]; trivial
theorem bnds1 {a : U} (h : Bnd a) : Bnds [a] := by rw [Bnds]; exact ⟨h, bnds0⟩
theorem bnds2 {a b : U} (h : Bnd a) (k : Bnd b) : Bnds [a, b] := by rw [Bnds]; exact ⟨h, bnds1 k⟩
theorem bnds3 {a b c : U} (h : Bnd a) (k : Bnd b) (l : Bnd c) : Bnds [a, b, c] := by rw [Bnds]; exact ⟨h, bnds2 k l⟩
theorem bop_ar {w : Bs} {op : Bop} (h : bopOf w = some op) : op.kind < 29 /\ 2 = ar op.kind :=
 (show ∀ op ∈ bops, op.kind < 29 /\ 2 = ar op.kind by decide) op (List.mem_of_find?_eq_some h)
theorem un_ar {w : Bs} {k : Nat} (h : unOf w = some k) : k < 29 /\ 1 = ar k := by
 unfold unOf at h
 split at h; (injection h with h; subst h; decide)
 split at h; (injection h with h; subst h; decide)
 split at h; (injection h with h; subst h; decide)
 split at h; (injection h with h; subst h; decide)
 split at h; (injection h with h; subst h; decide)
 cases h
abbrev BG (x : U × St) : Prop := Bnd x.1 /\ GT x.2
theorem c_bnd (n : Nat) : (∀ s x, GT s -> cExpr n s = some x -> BG x) /\ (∀ s x, GT s -> cLet n s = some x -> BG x) /\ (∀ s x, GT s -> cIf n s = some x -> BG x) /\ (∀ s x, GT s -> cMatch n s = some x -> BG x) /\ (∀ s x, GT s -> cAssert n s = some x -> BG x) /\
  (∀ l s x, GT s -> cBin n l s = some x -> BG x) /\ (∀ l e v s x, GT s -> Bnd e -> cLoop n l e v s = some x -> BG x) /\ (∀ s x, GT s -> cOne n s = some x -> BG x) /\ (∀ s x, GT s -> cAtom n s = some x -> BG x) /\ (∀ s x, GT s -> cArgs n s = some x -> Bnds x.1 /\ GT x.2) /\ (∀ l s x, GT s -> Bnds l -> cMore n l s = some x -> Bnds x.1 /\ GT x.2) := by
 induction n with
 | zero => refine ⟨?_, ?_, ?_, ?_, ?_, ?_, ?_, ?_, ?_, ?_, ?_⟩ <;> intros <;> simp_all [cExpr, cLet, cIf, cMatch, cAssert, cBin, cLoop, cOne, cAtom, cArgs, cMore]
 | succ n ih =>
  obtain ⟨i1, i2, i3, i4, i5, i6, i7, i8, i9, i10, i11⟩ := ih;refine ⟨?_, ?_, ?_, ?_, ?_, ?_, ?_, ?_, ?_, ?_, ?_⟩
  ·intro s x g h;rw [cExpr] at h
   split at h; exact i2 _ _ g h
   split at h; exact i3 _ _ g h
   split at h; exact i4 _ _ g h
   split at h; exact i5 _ _ g h
   exact i6 _ _ _ g h
  ·intro s x g h;rw [cLet] at h;simp only [Option.bind_eq_some_iff] at h;obtain ⟨r1, h1, r2, h2, h3⟩ := h;injection h3 with h3; subst h3;have a1 := i1 _ _ (g.tk.name.exp _) h1;have a2 := i1 _ _ (a1.2.exp _) h2;exact ⟨by rw [Bnd]; exact ⟨⟨by decide, .inr rfl⟩, ⟨g.tk.t, by decide, zb_zero⟩, ⟨g.l, g.c⟩, bnds2 a1.1 a2.1⟩, a2.2⟩
  ·intro s x g h;rw [cIf] at h;simp only [Option.bind_eq_some_iff] at h;obtain ⟨r1, h1, r2, h2, r3, h3, h4⟩ := h;injection h4 with h4; subst h4;have a1 := i1 _ _ g.tk h1;have a2 := i1 _ _ (a1.2.exp _) h2;have a3 := i1 _ _ (a2.2.exp _) h3;exact ⟨bnd_prt g (by decide) (.inr rfl) (bnds3 a1.1 a2.1 a3.1), a3.2⟩
  ·intro s x g h;rw [cMatch] at h;simp only [Option.bind_eq_some_iff] at h;obtain ⟨r1, h1, r2, h2, r3, h3, h4⟩ := h;injection h4 with h4; subst h4;have a1 := i1 _ _ g.tk h1;have a2 := i1 _ _ (((a1.2.exp _).exp _).exp _) h2;have a3 := i1 _ _ (((((a2.2.exp _).name).exp _).name).exp _) h3;exact ⟨by rw [Bnd]; exact ⟨⟨by decide, .inr rfl⟩, ⟨(a2.2.exp _).t, (((a2.2.exp _).name).exp _).t, zb_zero⟩, ⟨g.l, g.c⟩, bnds3 a1.1 a2.1 a3.1⟩, a3.2⟩
  ·intro s x g h;rw [cAssert] at h;simp only [Option.bind_eq_some_iff] at h;obtain ⟨r1, h1, r2, h2, h3⟩ := h;injection h3 with h3; subst h3;have a1 := i1 _ _ g.tk h1;have a2 := i1 _ _ (a1.2.exp _) h2;exact ⟨bnd_prt g (by decide) (.inr rfl) (bnds2 a1.1 a2.1), a2.2⟩
  ·intro l s x g h;rw [cBin, Option.bind_eq_some_iff] at h;obtain ⟨r1, h1, h2⟩ := h;have a1 := i8 _ _ g h1;exact i7 _ _ _ _ _ a1.2 a1.1 h2
  ·intro l e v s x g hE h;rw [cLoop] at h
   split at h
   ·injection h with h; subst h; exact ⟨hE, g⟩
   rename_i op hop
   split at h
   ·injection h with h; subst h; exact ⟨hE, g⟩
   rw [Option.bind_eq_some_iff] at h;obtain ⟨r1, h1, h2⟩ := h;have a1 := i6 _ _ _ g.tk h1;have hb := bop_ar hop;exact i7 _ (prt op.kind s.nx [e, r1.1]) _ _ _ a1.2 (bnd_prt g hb.1 (.inr hb.2) (bnds2 hE a1.1)) h2
  ·intro s x g h;rw [cOne] at h
   split at h
   ·exact i9 _ _ g h
   rename_i k hk
   rw [Option.bind_eq_some_iff] at h;obtain ⟨r1, h1, h2⟩ := h;injection h2 with h2; subst h2;have a1 := i8 _ _ g.tk h1;have hb := un_ar hk;exact ⟨bnd_prt g hb.1 (.inr hb.2) (bnds1 a1.1), a1.2⟩
  ·intro s x g h;rw [cAtom] at h
   split at h
   ·rename_i hk
    injection h with h; subst h;exact ⟨by rw [Bnd]; exact ⟨⟨by decide, .inr rfl⟩, ⟨by decide, by decide, zb_dn ((g.1.head).k1 hk).2⟩, ⟨g.l, g.c⟩, bnds0⟩, g.tk⟩
   split at h
   ·split at h
    ·rw [Option.bind_eq_some_iff] at h;obtain ⟨r1, h1, h2⟩ := h;injection h2 with h2; subst h2;have a1 := i10 _ _ g.tk.tk h1;exact ⟨bnd_nmd g (by decide) (.inl rfl) a1.1, a1.2⟩
    injection h with h; subst h; exact ⟨bnd_nmd g (by decide) (.inr rfl) bnds0, g.tk⟩
   split at h
   ·injection h with h; subst h; exact ⟨bnd_nmd g (by decide) (.inr rfl) bnds0, g.tk⟩
   split at h
   ·injection h with h; subst h; exact ⟨bnd_prt g (by decide) (.inr rfl) bnds0, g.tk⟩
   split at h
   ·injection h with h; subst h; exact ⟨bnd_prt g (by decide) (.inr rfl) bnds0, g.tk⟩
   split at h
   ·injection h with h; subst h; exact ⟨bnd_prt g (by decide) (.inr rfl) bnds0, g.tk⟩
   split at h
   ·rw [Option.bind_eq_some_iff] at h;obtain ⟨r1, h1, h2⟩ := h;injection h2 with h2; subst h2;have a1 := i1 _ _ g.tk h1;exact ⟨a1.1, a1.2.exp _⟩
   injection h with h; subst h; exact ⟨bnd_u0, g.tk.fail _ (.inl rfl)⟩
  ·intro s x g h;rw [cArgs] at h
   split at h
   ·injection h with h; subst h; exact ⟨bnds0, g.tk⟩
   rw [Option.bind_eq_some_iff] at h;obtain ⟨r1, h1, h2⟩ := h;have a1 := i1 _ _ g h1;exact i11 _ _ _ a1.2 (bnds1 a1.1) h2
  intro l s x g hl h;rw [cMore] at h
  split at h
  ·rw [Option.bind_eq_some_iff] at h;obtain ⟨r1, h1, h2⟩ := h;have a1 := i1 _ _ g.tk h1;exact i11 _ _ _ a1.2 (bnds_app hl (bnds1 a1.1)) h2
  injection h with h; subst h; exact ⟨hl, g.exp _⟩
theorem gt_st0 (l : Bs) (hl : l.length <= 3000) (h0 : (lexS l (1, 1)).2 = 0) : GT (st0 l) :=
 ⟨lex_good l (1, 1) h0, fun t ht => by
  have := placed_bd (lex_placed l (1, 1) h0) t ht;simp only at this
  exact ⟨by omega, by omega, by omega⟩, fun x hx => by cases hx⟩
theorem all_gt {n : Nat} {s : St} {x : U × St} (g : GT s) (h : cAll n s = some x) : BG x := by
 unfold cAll at h;rw [Option.bind_eq_some_iff] at h;obtain ⟨r, h1, h2⟩ := h;injection h2 with h2; subst h2;have := (c_bnd n).1 _ _ g h1;refine ⟨this.1, ?_⟩;simp only
 split
 ·exact this.2.fail _ (.inr rfl)
 exact this.2
mutual
theorem frm_deep : ∀ u : U, ud u <= (frm u).length
 | .node k nm ot z ln cl ks => by
  rw [ud, frm];have := frms_deep ks;have h1 : 1 <= (opn k ln cl (fname k nm ot z)).length := by unfold opn; simp only [lsa, lsc, lsn]; omega
  simp only [lsa, lsc, lsn]; omega
theorem frms_deep : ∀ us : List U, uds us <= (frms us).length
 | [] => by rw [uds]; exact Nat.zero_le _
 | u :: us => by
  rw [uds, frms];have h1 := frm_deep u;have h2 := frms_deep us;simp only [lsa]; omega
end
theorem frms_app (a b : List U) : frms (a ++ b) = frms a ++ frms b := by
 induction a with
 | nil => rw [frms]; rfl
 | cons u a ih => rw [List.cons_append, frms, frms, ih, List.append_assoc]
theorem frms_take (ks : List U) (j : Nat) (h : j < ks.length) : frms (ks.take (j + 1)) = frms (ks.take j) ++ frm ks[j] := by
 rw [List.take_succ_eq_append_getElem h, frms_app, frms, frms, List.append_nil]
theorem frms_take_le (ks : List U) (j : Nat) : (frms (ks.take j)).length <= (frms ks).length := by
 have := congrArg List.length (congrArg frms (List.take_append_drop j ks));rw [frms_app, lsa] at this; omega
set_option linter.unusedVariables false
def bsx (b : Nat) : Bs := if b = 0 then wInt else if b = 1 then wBool else wList
def knw (p : PmU) : Bs := if p.kn then [123] ++ frm p.ref ++ [125] else []
def ptx (p : PmU) : Bs := p.nm ++ plc p.ln p.cl ++ bsx p.b ++ knw p ++ [44]
def qlx (q : QlU) : Bs := [91, 113, 32] ++ q.nm ++ plc q.ln q.cl ++ q.ps.flatMap ptx ++ frm q.body ++ [93]
def fnx (f : FnU) : Bs := [91, 102, 32] ++ f.nm ++ plc f.ln f.cl ++ f.ps.flatMap ptx ++ bsx f.res.b ++ plc f.res.ln f.res.cl ++ knw f.res ++ frm f.body ++ [93]
def pgx (p : PgU) : Bs := p.qs.flatMap qlx ++ p.fs.flatMap fnx
def rBase (r : RS) : Bs × RS := (r.at'.text, if (r.is wInt || r.is wBool) = true then r.inc else r.eat wList)
def rRef (n : Nat) (r : RS) : Option (Bs × RS) := if r.is wBraceO then (rAll n r.inc).bind fun x => some ([123] ++ x.1 ++ [125], x.2.eat wBraceC) else some ([], r)
def rPre (k : Nat) (r : RS) : RS :=
 let r1 := if 0 < k then r.eat wComma else r
 if r1.bad = 0 /\ r1.at'.kind = 0 /\ k = 6 then r1.bd r1.at' 2 else r1
def rPar (n : Nat) (qual : Bool) (r2 : RS) : Option (Bs × RS) :=
 let b := rBase (r2.name.eat wColon)
 (if qual then some ([], b.2) else rRef n b.2).bind fun x => some (r2.at'.text ++ plc r2.at'.line r2.at'.col ++ b.1 ++ x.1 ++ [44], x.2)
def rPars : Nat -> Nat -> Bool -> Nat -> Bs -> RS -> Option (Bs × RS)
 | 0, _, _, _, _, _ => none
 | m + 1, n, qual, k, t, r => if r.bad ≠ 0 \/ r.is wClose = true then some (t, r) else (rPar n qual (rPre k r)).bind fun x => rPars m n qual (k + 1) (t ++ x.1) x.2
def rParams (m n : Nat) (qual : Bool) (r : RS) : Option (Bs × RS) :=
 let r1 := r.eat wOpen
 if qual then
  let b := rBase ((r1.eat wV).eat wColon)
  (rPars m n true 1 (r1.at'.text ++ plc r1.at'.line r1.at'.col ++ b.1 ++ [44]) b.2).bind fun x => some (x.1, (x.2.eat wClose).eat wColon)
 else (rPars m n false 0 [] r1).bind fun x => some (x.1, (x.2.eat wClose).eat wColon)
def rQual (m n a : Nat) (r1 : RS) : Option (Bs × RS) :=
 let r3 := if a = 20 then r1.name.bd r1.at' 2 else r1.name
 (rParams m n true r3).bind fun x => (rAll n x.2).bind fun y => some ([91, 113, 32] ++ (r1.at'.text ++ plc r1.at'.line r1.at'.col) ++ x.1 ++ (y.1 ++ [93]), y.2)
def rFun (m n b : Nat) (r1 : RS) : Option (Bs × RS) :=
 let r3 := if b = 20 then r1.name.bd r1.at' 2 else r1.name
 (rParams m n false r3).bind fun x =>
 (rRef n (rBase x.2).2).bind fun z => (rAll n (z.2.eat wEq)).bind fun y =>
 some ([91, 102, 32] ++ (r1.at'.text ++ plc r1.at'.line r1.at'.col) ++ x.1 ++ ((rBase x.2).1 ++ plc x.2.at'.line x.2.at'.col) ++ z.1 ++ (y.1 ++ [93]), y.2)
def rProg : Nat -> Nat -> Nat -> Nat -> Bs -> Bs -> RS -> Option ((Bs × Bs) × RS)
 | 0, _, _, _, _, _, _ => none
 | m + 1, n, a, b, qs, fs, r =>
  if r.bad ≠ 0 \/ r.at'.kind = 4 then some ((qs, fs), r)
  else if r.is wQualif then (rQual m n a r.inc).bind fun x => rProg m n (a + 1) b (qs ++ x.1) fs x.2
  else (rFun m n b (r.eat wFun)).bind fun x => rProg m n a (b + 1) qs (fs ++ x.1) x.2
theorem Rel.tkfail {s : St} {r : RS} (h : Rel s r) {c : Nat} (hc : c ≠ 0) : BB (s.tk.fail s.nx c) (r.bd s.nx c) := by
 by_cases h4 : s.nx.kind = 4
 ·have : s.tk = s := by unfold St.tk; rw [if_pos h4]
  rw [this]; exact h.fail hc rfl
 have := (h.tk h4).fail (t := s.nx) (c := c) hc rfl;unfold RS.bd RS.inc at this;unfold RS.bd;rw [if_pos h.2.1];simp only [h.2.1, if_true] at this;exact this
theorem SB.base {s : St} (h : SB s) : (cBase s).2 = s := by
 unfold cBase;rw [h.is (by decide), h.is (by decide), h.is (by decide)];simp only [Bool.false_eq_true, if_false];rw [h.tk]; exact h.fail _ _
theorem RS.base_bad {r : RS} (h : r.bad ≠ 0) : (rBase r).2 = r := by
 unfold rBase; simp only [RS.is_bad h, Bool.or_self, Bool.false_eq_true, if_false]; exact RS.eat_bad h _
theorem RR.base {s : St} {r : RS} {F : Prop} (h : RR s r F) : RR (cBase s).2 (rBase r).2 (F /\ (rBase r).1 = bsx (cBase s).1) := by
 refine h.seq (fun h => ?_) (fun h => ⟨h.1.base, RS.base_bad h.2.1⟩);unfold cBase rBase;rw [<- h.nx, h.is (by decide), h.is (by decide)]
 cases e1 : s.is wInt with
 | true => simp only [Bool.true_or, if_true]; exact .inl ⟨h.take (by decide) e1, by rw [St.is_true e1]; rfl⟩
 | false =>
  cases e2 : s.is wBool with
  | true => simp only [Bool.false_eq_true, if_false, Bool.false_or, if_true]; exact .inl ⟨h.take (by decide) e2, by rw [St.is_true e2]; rfl⟩
  | false =>
   simp only [Bool.false_eq_true, if_false, Bool.false_or];unfold RS.eat;rw [h.is (by decide)]
   cases e3 : s.is wList with
   | true => simp only [if_true]; exact .inl ⟨h.take (by decide) e3, by rw [St.is_true e3]; rfl⟩
   | false => simp only [Bool.false_eq_true, if_false]; rw [<- h.nx]; exact .inr (h.tkfail (by decide))
theorem r_allbad {n : Nat} {r : RS} {x : Bs × RS} (h : r.bad ≠ 0) (hc : rAll n r = some x) : x.2 = r := by
 unfold rAll at hc;rw [Option.bind_eq_some_iff] at hc;obtain ⟨y, h1, h2⟩ := hc;injection h2 with h2; subst h2;have := (r_bad n).1 _ _ h h1;simp only [this];rw [if_neg (fun e => h e.1)]
theorem SB.ref {n : Nat} {p : PmU} {s : St} {x : PmU × St} (h : SB s) (hc : cRef n p s = some x) : x.2 = s := by
 unfold cRef at hc;rw [h.is (by decide)] at hc;simp only [Bool.false_eq_true, if_false] at hc;injection hc with hc; subst hc; rfl
theorem RS.ref_bad {n : Nat} {r : RS} {x : Bs × RS} (h : r.bad ≠ 0) (hc : rRef n r = some x) : x.2 = r := by
 unfold rRef at hc;rw [RS.is_bad h] at hc;simp only [Bool.false_eq_true, if_false] at hc;injection hc with hc; subst hc; rfl
theorem RR.ref {s : St} {r : RS} {F : Prop} (h : RR s r F) {n m : Nat} {p : PmU} (hp : p.kn = false) {x : PmU × St} {y : Bs × RS} (hc : cRef n p s = some x) (hr : rRef m r = some y) :
  RR x.2 y.2 (F /\ y.1 = knw x.1 /\ x.1.nm = p.nm /\ x.1.b = p.b /\ x.1.ln = p.ln /\ x.1.cl = p.cl) := by
 refine h.seq (fun h => ?_) (fun h => ⟨h.1.ref hc, RS.ref_bad h.2.1 hr⟩);unfold cRef at hc;unfold rRef at hr;rw [h.is (by decide)] at hr
 cases e : s.is wBraceO with
 | true =>
  rw [e] at hc hr;simp only [if_true] at hc hr;rw [Option.bind_eq_some_iff] at hc hr;obtain ⟨q, h1, h2⟩ := hc;obtain ⟨z, h3, h4⟩ := hr;injection h2 with h2; injection h4 with h4; subst h2 h4;have := (eqv_whole (h.take (by decide) e).rr h1 h3).exp (w := wBraceC) (by decide);exact this.imp fun f => ⟨by unfold knw; simp only [if_true]; rw [f.2], rfl, rfl, rfl, rfl⟩
 | false =>
  rw [e] at hc hr;simp only [Bool.false_eq_true, if_false] at hc hr;injection hc with hc; injection hr with hr; subst hc hr;exact .inl ⟨h, by unfold knw; rw [hp]; rfl, rfl, rfl, rfl, rfl⟩
theorem plc_len (ln cl : Nat) (h1 : ln <= 1000000000) (h2 : cl <= 1000000000) : (plc ln cl).length <= 22 := by
 have q1 := zl ln h1; have q2 := zl cl h2;unfold plc; simp only [lsa, lsc, lsn]; omega
theorem GR.base {r : RS} (h : GR r) : GR (rBase r).2 /\ phi (rBase r).2 <= phi r /\ (rBase r).1.length <= 3000 := by
 unfold rBase;refine ⟨?_, ?_, h.2.at.2.2⟩
 ·simp only
  split
  ·rename_i hi
   refine h.inc fun hk => ?_
   have ht := h.1.head.ke hk
   rcases Bool.or_eq_true _ _ ▸ hi with hi | hi <;>
    (unfold RS.is at hi; simp only [Bool.and_eq_true, beq_iff_eq] at hi; rw [show r.at'.text = [] from ht] at hi; exact absurd hi.2 (by decide))
  exact h.eat _
 simp only
 split
 ·have := phi_inc h; omega
 have := phi_eat h wList; omega
theorem all_fin {n : Nat} {r : RS} {y : Bs × RS} (g : GR r) (h : rAll n r = some y) : GR y.2 /\ y.1.length + phi y.2 <= phi r := by
 unfold rAll at h;rw [Option.bind_eq_some_iff] at h;obtain ⟨x, h1, h2⟩ := h;injection h2 with h2; subst h2;obtain ⟨f1, f2, -, -⟩ := (r_len n).1 _ _ g h1;simp only
 split
 ·rename_i hb
  refine ⟨f1.bd _ _, ?_⟩;have : phi (x.2.bd r.at' 2) <= phi x.2 := by unfold RS.bd; rw [if_pos hb.1]; unfold phi; simp only [hb.1, if_true]; split <;> omega
  omega
 exact ⟨f1, f2⟩
theorem GR.isk {r : RS} (h : GR r) {w : Bs} (hw : w ≠ []) (hi : r.is w = true) : r.at'.kind ≠ 4 /\ r.bad = 0 := by
 unfold RS.is at hi;simp only [Bool.and_eq_true, beq_iff_eq] at hi;exact ⟨fun hk => hw (by rw [<- hi.2]; exact h.1.head.ke hk), hi.1.1⟩
theorem ref_fin {n : Nat} {r : RS} {y : Bs × RS} (g : GR r) (h : rRef n r = some y) : GR y.2 /\ y.1.length + phi y.2 <= phi r := by
 unfold rRef at h
 split at h
 ·rename_i hi
  rw [Option.bind_eq_some_iff] at h;obtain ⟨x, h1, h2⟩ := h;injection h2 with h2; subst h2;obtain ⟨hk, hb⟩ := g.isk (by decide) hi;obtain ⟨f1, f2⟩ := all_fin (g.inc hk) h1;have p1 := phi_inc g;have p2 := phi_eat f1 wBraceC;refine ⟨f1.eat _, ?_⟩;simp only [lsa, lsc, lsn]; omega
 injection h with h; subst h; exact ⟨g, by simp⟩
theorem phi_bd2 {r : RS} (t : Tok) (h : r.bad = 0) : phi (r.bd t 2) + 7000 = phi r /\ (r.bd t 2).bad ≠ 0 := by
 unfold RS.bd; rw [if_pos h]; unfold phi; simp [h]
theorem pre_fin {k : Nat} {r : RS} (g : GR r) (hb : r.bad = 0) : GR (rPre k r) /\ ((rPre k r).bad = 0 /\ phi (rPre k r) <= phi r \/ (rPre k r).bad ≠ 0 /\ phi (rPre k r) + 7000 <= phi r) := by
 unfold rPre;generalize hr1 : (if 0 < k then r.eat wComma else r) = r1
 have h1 : GR r1 /\ (r1.bad = 0 /\ phi r1 <= phi r \/ r1.bad ≠ 0 /\ phi r1 + 7000 <= phi r) := by
  rw [<- hr1]
  split
  ·have := phi_eat g wComma;rw [if_pos hb] at this;refine ⟨g.eat _, ?_⟩
   by_cases h : (r.eat wComma).bad = 0
   ·exact .inl ⟨h, by omega⟩
   exact .inr ⟨h, by omega⟩
  exact ⟨g, .inl ⟨hb, Nat.le_refl _⟩⟩
 simp only
 split
 ·rename_i h
  have := phi_bd2 r1.at' h.1;rcases h1.2 with h2 | h2
  ·exact ⟨h1.1.bd _ _, .inr ⟨this.2, by omega⟩⟩
  exact absurd h.1 h2.1
 exact h1
theorem par_fin {n k : Nat} {q : Bool} {r : RS} {z : Bs × RS} (g : GR r) (hb : r.bad = 0) (h : rPar n q (rPre k r) = some z) : GR z.2 /\ z.1.length + phi z.2 <= phi r := by
 obtain ⟨g2, hp⟩ := pre_fin (k := k) g hb;generalize rPre k r = r2 at *;unfold rPar at h;rw [Option.bind_eq_some_iff] at h;obtain ⟨x, h1, h2⟩ := h;injection h2 with h2; subst h2;have g3 := (g2.name.eat wColon).base
 have hx : GR x.2 /\ x.1.length + phi x.2 <= phi (rBase (r2.name.eat wColon)).2 := by
  cases q with
  | true => simp only [if_true] at h1; injection h1 with h1; subst h1; exact ⟨g3.1, by simp⟩
  | false => simp only [Bool.false_eq_true, if_false] at h1; exact ref_fin g3.1 h1
 have hn := phi_name g2;have he := phi_eat g2.name wColon;have ht := g2.2.at.2.2;have hpl := plc_len _ _ g2.2.at.1 g2.2.at.2.1;refine ⟨hx.1, ?_⟩;simp only [lsa, lsc, lsn];rcases hp with ⟨hb2, hp⟩ | ⟨hb2, hp⟩
 ·rw [if_pos hb2] at hn;have := g3.2.1; have := g3.2.2; have := hx.2
  omega
 have := g3.2.1; have := g3.2.2; have := hx.2
 omega
theorem pars_fin : ∀ {m n : Nat} {q : Bool} {k : Nat} {t : Bs} {r : RS} {y : Bs × RS}, GR r -> rPars m n q k t r = some y -> GR y.2 /\ y.1.length + phi y.2 <= t.length + phi r := by
 intro m
 induction m with
 | zero => intro n q k t r y g h; simp [rPars] at h
 | succ m ih =>
  intro n q k t r y g h;rw [rPars] at h
  split at h
  ·injection h with h; subst h; exact ⟨g, Nat.le_refl _⟩
  rename_i hc
  have hb : r.bad = 0 := by
   by_cases h : r.bad = 0
   ·exact h
   exact absurd (.inl h) hc
  rw [Option.bind_eq_some_iff] at h;obtain ⟨z, h1, h2⟩ := h;obtain ⟨g1, f1⟩ := par_fin g hb h1;obtain ⟨g2, f2⟩ := ih g1 h2;refine ⟨g2, ?_⟩;rw [lsa] at f2; omega
theorem params_fin {m n : Nat} {q : Bool} {r : RS} {y : Bs × RS} (g : GR r) (h : rParams m n q r = some y) : GR y.2 /\ y.1.length + phi y.2 <= (if q then 7000 else 0) + phi r := by
 unfold rParams at h;have p0 := phi_eat g wOpen;have g0 := g.eat wOpen;generalize r.eat wOpen = r1 at *
 cases q with
 | true =>
  simp only [if_true, Option.bind_eq_some_iff] at h ⊢;obtain ⟨x, h1, h2⟩ := h;injection h2 with h2; subst h2;have gb := ((g0.eat wV).eat wColon).base;obtain ⟨f1, f2⟩ := pars_fin gb.1 h1;have p1 := phi_eat g0 wV;have p2 := phi_eat (g0.eat wV) wColon;have p3 := phi_eat f1 wClose;have p4 := phi_eat (f1.eat wClose) wColon;refine ⟨(f1.eat _).eat _, ?_⟩;have ht := g0.2.at.2.2;have hpl := plc_len _ _ g0.2.at.1 g0.2.at.2.1;simp only [lsa, lsc, lsn] at f2;have := gb.2.1; have := gb.2.2;simp only; omega
 | false =>
  simp only [Bool.false_eq_true, if_false, Option.bind_eq_some_iff] at h ⊢;obtain ⟨x, h1, h2⟩ := h;injection h2 with h2; subst h2;obtain ⟨f1, f2⟩ := pars_fin g0 h1;have p3 := phi_eat f1 wClose;have p4 := phi_eat (f1.eat wClose) wColon;refine ⟨(f1.eat _).eat _, ?_⟩;simp only [lsn] at f2;simp only; omega
theorem lim_fin {a : Nat} {r : RS} (g : GR r) : GR (if a = 20 then r.name.bd r.at' 2 else r.name) /\ phi (if a = 20 then r.name.bd r.at' 2 else r.name) + (if r.bad = 0 then 7000 else 0) <= phi r := by
 have hn := phi_name g
 split
 ·refine ⟨g.name.bd _ _, ?_⟩;have : phi (r.name.bd r.at' 2) <= phi r.name := by unfold RS.bd; split; (rename_i h; unfold phi; simp only [h, if_true]; split <;> omega); exact Nat.le_refl _
  omega
 exact ⟨g.name, hn⟩
theorem qual_fin {m n a : Nat} {r : RS} {z : Bs × RS} (g : GR r) (hb : r.bad = 0) (h : rQual m n a r = some z) : GR z.2 /\ z.1.length + phi z.2 <= phi r + 3100 := by
 unfold rQual at h;simp only [Option.bind_eq_some_iff] at h;obtain ⟨x, h1, y, h2, h3⟩ := h;injection h3 with h3; subst h3;obtain ⟨g1, p1⟩ := lim_fin (a := a) g;obtain ⟨g2, p2⟩ := params_fin g1 h1;obtain ⟨g3, p3⟩ := all_fin g2 h2;have ht := g.2.at.2.2;have hpl := plc_len _ _ g.2.at.1 g.2.at.2.1;rw [if_pos hb] at p1;refine ⟨g3, ?_⟩;simp only [if_true] at p2;simp only [lsa, lsc, lsn]; omega
theorem fun_fin {m n b : Nat} {r : RS} {z : Bs × RS} (g : GR r) (h : rFun m n b r = some z) : GR z.2 /\ z.1.length + phi z.2 <= phi r + 6100 := by
 unfold rFun at h;simp only [Option.bind_eq_some_iff] at h;obtain ⟨x, h1, u, h2, y, h3, h4⟩ := h;injection h4 with h4; subst h4;obtain ⟨g1, p1⟩ := lim_fin (a := b) g;obtain ⟨g2, p2⟩ := params_fin g1 h1;obtain ⟨gb, pb, lb⟩ := g2.base;obtain ⟨g3, p3⟩ := ref_fin gb h2;have p4 := phi_eat g3 wEq;obtain ⟨g4, p5⟩ := all_fin (g3.eat wEq) h3;have ht := g.2.at.2.2;have hpl := plc_len _ _ g.2.at.1 g.2.at.2.1;have hpx := plc_len _ _ g2.2.at.1 g2.2.at.2.1;refine ⟨g4, ?_⟩;simp only [Bool.false_eq_true, if_false, Nat.zero_add] at p2;simp only [lsa, lsc, lsn]; omega
def rLim (k : Nat) (r : RS) : RS := if r.bad = 0 /\ r.at'.kind = 0 /\ k = 6 then r.bd r.at' 2 else r
theorem rLim_at (k : Nat) (r : RS) : (rLim k r).at' = r.at' := by unfold rLim; split; (unfold RS.bd; split; rfl; rfl); rfl
theorem rLim_bad {k : Nat} {r : RS} (h : r.bad ≠ 0) : rLim k r = r := by unfold rLim; rw [if_neg (fun e => h e.1)]
theorem rPre_zero (r : RS) : rPre 0 r = rLim 0 r := rfl
theorem rPre_pos {k : Nat} (h : 0 < k) (r : RS) : rPre k r = rLim k (r.eat wComma) := by unfold rPre rLim; simp only [h, if_true]
theorem Rel.cnt {s : St} {r : RS} (h : Rel s r) {k : Nat} (hk : k <= 6) : RR (s.counted k 6) (rLim k r).name (s.nx.kind = 0 /\ k < 6) := by
 unfold St.counted rLim;rw [<- h.nx]
 by_cases hk0 : s.nx.kind = 0
 ·by_cases h6 : k = 6
  ·rw [if_pos (by omega), if_pos ⟨h.2.1, hk0, h6⟩];have hn : s.name = s.tk := by unfold St.name; rw [if_pos hk0]
   have hb := h.tkfail (c := 2) (by decide);rw [hn, RS.name_bad hb.2.1];exact .inr hb
  rw [if_neg (by omega), if_neg (fun e => h6 e.2.2)];rcases h.name with ⟨h1, h2⟩ | h1
  ·exact .inl ⟨h1, h2, by omega⟩
  exact .inr h1
 rw [if_neg (show ¬ (r.bad = 0 /\ s.nx.kind = 0 /\ k = 6) from fun e => hk0 e.2.1)];rcases h.name with ⟨h1, h2⟩ | h1
 ·exact absurd h2 hk0
 split
 ·rw [h1.1.fail]; exact .inr h1
 exact .inr h1
theorem Rel.par {s : St} {r : RS} (h : Rel s r) {k : Nat} (hk : k <= 6) : RR (cParam k s).2 (rBase ((rLim k r).name.eat wColon)).2 ((s.nx.kind = 0 /\ k < 6) /\ (rBase ((rLim k r).name.eat wColon)).1 = bsx (cParam k s).1.b) :=
 ((h.cnt hk).exp (w := wColon) (by decide)).base
theorem SB.counted {s : St} (h : SB s) (k l : Nat) : s.counted k l = s := by unfold St.counted; split; rw [h.name]; exact h.fail _ _; exact h.name
theorem SB.param {s : St} (h : SB s) (k : Nat) : (cParam k s).2 = s := by
 show (cBase ((s.counted k 6).exp wColon)).2 = s
 rw [h.counted, h.exp (by decide)]; exact h.base
theorem SB.qmore {m : Nat} {l : List PmU} {s : St} {x : List PmU × St} (h : SB s) (hc : cQMore m l s = some x) : x.2 = s := by
 cases m with
 | zero => simp [cQMore] at hc
 | succ m =>
  rw [cQMore, h.is (by decide)] at hc;simp only [Bool.false_eq_true, if_false] at hc;injection hc with hc; subst hc; rfl
theorem RS.pars_bad {m n : Nat} {q : Bool} {k : Nat} {t : Bs} {r : RS} {y : Bs × RS} (h : r.bad ≠ 0) (hr : rPars m n q k t r = some y) : y.2 = r := by
 cases m with
 | zero => simp [rPars] at hr
 | succ m => rw [rPars, if_pos (.inl h)] at hr; injection hr with hr; subst hr; rfl
theorem RS.par_bad {n : Nat} {q : Bool} {r : RS} {y : Bs × RS} (h : r.bad ≠ 0) (hr : rPar n q r = some y) : y.2 = r := by
 unfold rPar at hr;rw [Option.bind_eq_some_iff] at hr;obtain ⟨z, h1, h2⟩ := hr;injection h2 with h2; subst h2;have hb : (rBase (r.name.eat wColon)).2 = r := by rw [RS.name_bad h, RS.eat_bad h]; exact RS.base_bad h
 rw [hb] at h1
 cases q with
 | true => simp only [if_true] at h1; injection h1 with h1; subst h1; rfl
 | false => simp only [Bool.false_eq_true, if_false] at h1; have := RS.ref_bad h h1; exact this
theorem Rel.noComma {s : St} {r : RS} (h : Rel s r) {m n : Nat} {q : Bool} {k : Nat} {t : Bs} {y : Bs × RS} (hk : 0 < k) (e1 : s.is wComma = false) (e2 : s.is wClose = false) (hr : rPars m n q k t r = some y) : BB (s.exp wClose) (y.2.eat wClose) := by
 have hb := h.fail (t := s.nx) (c := 1) (by decide) rfl;have e3 : r.eat wComma = r.bd s.nx 1 := by unfold RS.eat; rw [h.is (by decide), e1, h.nx]; rfl
 cases m with
 | zero => simp [rPars] at hr
 | succ m =>
  rw [rPars, if_neg (by rw [h.is (by decide), e2]; simp [h.2.1]), Option.bind_eq_some_iff] at hr;obtain ⟨z, h1, h2⟩ := hr;rw [rPre_pos hk, e3, rLim_bad hb.2.1] at h1;have hz := RS.par_bad hb.2.1 h1;have hy := RS.pars_bad (by rw [hz]; exact hb.2.1) h2;rw [hz] at hy;rw [hy, RS.eat_bad hb.2.1];unfold St.exp; rw [e2]; exact hb
theorem comma_close {s : St} (h : s.is wComma = true) : s.is wClose = false := by
 have := St.is_true h;unfold St.is; rw [this]; decide
theorem eqv_qmore : ∀ (m1 m2 n : Nat) (l : List PmU) (s : St) (r : RS) (x : List PmU × St) (y : Bs × RS), Rel s r -> 1 <= l.length -> l.length <= 6 -> cQMore m1 l s = some x -> rPars m2 n true l.length (l.flatMap ptx) r = some y -> RR (x.2.exp wClose) (y.2.eat wClose) (y.1 = x.1.flatMap ptx) := by
 intro m1
 induction m1 with
 | zero => intro m2 n l s r x y h h1 h6 hc hr; simp [cQMore] at hc
 | succ m1 ih =>
  intro m2 n l s r x y h h1 h6 hc hr;rw [cQMore] at hc
  cases e : s.is wComma with
  | true =>
   rw [e] at hc;simp only [if_true] at hc;have e2 := comma_close e
   cases m2 with
   | zero => simp [rPars] at hr
   | succ m2 =>
    rw [rPars, if_neg (by rw [h.is (by decide), e2]; simp [h.2.1]), Option.bind_eq_some_iff] at hr;obtain ⟨z, hz1, hz2⟩ := hr;have e3 : r.eat wComma = r.inc := by unfold RS.eat; rw [h.is (by decide), e]; rfl
    rw [rPre_pos h1, e3] at hz1;have hT := h.take (w := wComma) (by decide) e;unfold rPar at hz1;simp only [if_true, Option.bind_some] at hz1;injection hz1 with hz1;rw [rLim_at, <- hT.nx] at hz1;have hp := hT.par h6;have hx1 : z.1 = (s.tk.nx.text ++ plc s.tk.nx.line s.tk.nx.col ++ (rBase ((rLim l.length r.inc).name.eat wColon)).1 ++ [] ++ [44]) := by rw [<- hz1]
    have hx2 : z.2 = (rBase ((rLim l.length r.inc).name.eat wColon)).2 := by rw [<- hz1]
    rw [<- hx2] at hp;rcases hp with ⟨hR, ⟨-, h5⟩, hb⟩ | hB
    ·refine ih m2 n (l ++ [(cParam l.length s.tk).1]) (cParam l.length s.tk).2 z.2 x y hR (by simp) (by simp; omega) hc ?_;rw [lsa, List.flatMap_append]
     have : l.flatMap ptx ++ z.1 = l.flatMap ptx ++ List.flatMap ptx [(cParam l.length s.tk).1] := by
      congr 1
      rw [List.flatMap_cons, List.flatMap_nil, List.append_nil, hx1, hb]
      rfl
     rw [<- this]; exact hz2
    have q1 := hB.1.qmore hc;have q2 := RS.pars_bad hB.2.1 hz2;rw [q1, q2, hB.1.exp (by decide), RS.eat_bad hB.2.1];exact .inr hB
  | false =>
   rw [e] at hc;simp only [Bool.false_eq_true, if_false] at hc;injection hc with hc;subst hc
   cases e2 : s.is wClose with
   | true =>
    cases m2 with
    | zero => simp [rPars] at hr
    | succ m2 =>
     rw [rPars, if_pos (.inr (by rw [h.is (by decide), e2]))] at hr;injection hr with hr;subst hr;exact (Rel.rr h).exp (w := wClose) (by decide) |>.imp fun _ => rfl
   | false => exact .inr (h.noComma h1 e e2 hr)
theorem eqv_fpar {n n2 : Nat} {k : Nat} (hk : k <= 6) {s : St} {r : RS} (h : Rel s r) {q : PmU × St} {z : Bs × RS} (hc : cRef n (cParam k s).1 (cParam k s).2 = some q) (hr : rPar n2 false (rLim k r) = some z) : RR q.2 z.2 (k < 6 /\ z.1 = ptx q.1) := by
 unfold rPar at hr;simp only [Bool.false_eq_true, if_false] at hr;rw [Option.bind_eq_some_iff] at hr;obtain ⟨x, h1, h2⟩ := hr;injection h2 with h2;subst h2;rw [rLim_at, <- h.nx];refine ((h.par hk).ref (p := (cParam k s).1) rfl hc h1).imp fun f => ?_
 obtain ⟨⟨⟨-, f1⟩, f2⟩, f3, f4, f5, f6, f7⟩ := f;refine ⟨f1, ?_⟩
 show _ = ptx q.1
 unfold ptx;rw [f2, f3, f4, f5, f6, f7]
 rfl
theorem SB.fpar {n : Nat} {l : List PmU} {s : St} {x : List PmU × St} (h : SB s) (hc : cFPar n l s = some x) : x.2 = s := by
 unfold cFPar at hc;rw [Option.bind_eq_some_iff] at hc;obtain ⟨q, h1, h2⟩ := hc;injection h2 with h2; subst h2;rw [h.param] at h1;exact h.ref h1
theorem SB.fmore {m n : Nat} {l : List PmU} {s : St} {x : List PmU × St} (h : SB s) (hc : cFMore m n l s = some x) : x.2 = s := by
 cases m with
 | zero => simp [cFMore] at hc
 | succ m =>
  rw [cFMore, h.is (by decide)] at hc;simp only [Bool.false_eq_true, if_false] at hc;injection hc with hc; subst hc; exact h.exp (by decide)
theorem eqv_fmore : ∀ (m1 m2 n n2 : Nat) (l : List PmU) (s : St) (r : RS) (x : List PmU × St) (y : Bs × RS), Rel s r -> 1 <= l.length -> l.length <= 6 -> cFMore m1 n l s = some x -> rPars m2 n2 false l.length (l.flatMap ptx) r = some y -> RR x.2 (y.2.eat wClose) (y.1 = x.1.flatMap ptx) := by
 intro m1
 induction m1 with
 | zero => intro m2 n n2 l s r x y h h1 h6 hc hr; simp [cFMore] at hc
 | succ m1 ih =>
  intro m2 n n2 l s r x y h h1 h6 hc hr;rw [cFMore] at hc
  cases e : s.is wComma with
  | true =>
   rw [e] at hc;simp only [if_true] at hc;rw [Option.bind_eq_some_iff] at hc;obtain ⟨w, hw, hc⟩ := hc;have e2 := comma_close e
   cases m2 with
   | zero => simp [rPars] at hr
   | succ m2 =>
    rw [rPars, if_neg (by rw [h.is (by decide), e2]; simp [h.2.1]), Option.bind_eq_some_iff] at hr;obtain ⟨z, hz1, hz2⟩ := hr;have e3 : r.eat wComma = r.inc := by unfold RS.eat; rw [h.is (by decide), e]; rfl
    rw [rPre_pos h1, e3] at hz1;have hT := h.take (w := wComma) (by decide) e;unfold cFPar at hw;rw [Option.bind_eq_some_iff] at hw;obtain ⟨q, hq, hw⟩ := hw;injection hw with hw;subst hw;rcases eqv_fpar h6 hT hq hz1 with ⟨hR, h5, hb⟩ | hB
    ·refine ih m2 n n2 (l ++ [q.1]) q.2 z.2 x y hR (by simp) (by simp; omega) hc ?_;rw [lsa, List.flatMap_append]
     have : l.flatMap ptx ++ z.1 = l.flatMap ptx ++ List.flatMap ptx [q.1] := by
      congr 1
      rw [List.flatMap_cons, List.flatMap_nil, List.append_nil, hb]
     rw [<- this]; exact hz2
    have q1 := hB.1.fmore hc;have q2 := RS.pars_bad hB.2.1 hz2;rw [q1, q2, RS.eat_bad hB.2.1];exact .inr hB
  | false =>
   rw [e] at hc;simp only [Bool.false_eq_true, if_false] at hc;injection hc with hc;subst hc
   cases e2 : s.is wClose with
   | true =>
    cases m2 with
    | zero => simp [rPars] at hr
    | succ m2 =>
     rw [rPars, if_pos (.inr (by rw [h.is (by decide), e2]))] at hr;injection hr with hr;subst hr;exact (Rel.rr h).exp (w := wClose) (by decide) |>.imp fun _ => rfl
   | false => exact .inr (h.noComma h1 e e2 hr)
theorem eqv_fpars {m1 m2 n n2 : Nat} {s : St} {r : RS} {x : List PmU × St} {y : Bs × RS} (h : Rel s r) (hc : cFPars m1 n s = some x) (hr : rPars m2 n2 false 0 [] r = some y) : RR x.2 (y.2.eat wClose) (y.1 = x.1.flatMap ptx) := by
 unfold cFPars at hc
 cases m2 with
 | zero => simp [rPars] at hr
 | succ m2 =>
  cases e : s.is wClose with
  | true =>
   rw [e] at hc;simp only [if_true] at hc;injection hc with hc;subst hc;rw [rPars, if_pos (.inr (by rw [h.is (by decide), e]))] at hr;injection hr with hr;subst hr;have : r.eat wClose = r.inc := by unfold RS.eat; rw [h.is (by decide), e]; rfl
   rw [this];exact .inl ⟨h.take (by decide) e, rfl⟩
  | false =>
   rw [e] at hc;simp only [Bool.false_eq_true, if_false] at hc;rw [Option.bind_eq_some_iff] at hc;obtain ⟨w, hw, hc⟩ := hc;rw [rPars, if_neg (by rw [h.is (by decide), e]; simp [h.2.1]), Option.bind_eq_some_iff, rPre_zero] at hr;obtain ⟨z, hz1, hz2⟩ := hr;unfold cFPar at hw;rw [Option.bind_eq_some_iff] at hw;obtain ⟨q, hq, hw⟩ := hw;injection hw with hw;subst hw;rcases eqv_fpar (k := 0) (by decide) h hq hz1 with ⟨hR, h5, hb⟩ | hB
   ·refine eqv_fmore m1 m2 n n2 ([] ++ [q.1]) q.2 z.2 x y hR (by simp) (by simp) hc ?_;have : ([] : Bs) ++ z.1 = List.flatMap ptx ([] ++ [q.1]) := by rw [hb]; simp
    rw [<- this]; exact hz2
   have q1 := hB.1.fmore hc;have q2 := RS.pars_bad hB.2.1 hz2;rw [q1, q2, RS.eat_bad hB.2.1];exact .inr hB
theorem RR.at {s : St} {r : RS} {F : Prop} (h : RR s r F) : RR s r (F /\ r.at' = s.nx) := by
 rcases h with ⟨h, f⟩ | h
 ·exact .inl ⟨h, f, h.nx.symm⟩
 exact .inr h
theorem Rel.cnt20 {s : St} {r : RS} (h : Rel s r) {a : Nat} (ha : a <= 20) : RR (s.counted a 20) (if a = 20 then r.name.bd r.at' 2 else r.name) (a < 20) := by
 unfold St.counted;rw [<- h.nx];rcases h.name with ⟨h1, h2⟩ | h1
 ·by_cases h20 : a = 20
  ·rw [if_pos (by omega), if_pos h20]; exact .inr (h1.fail (by decide) rfl)
  rw [if_neg (by omega), if_neg h20]; exact .inl ⟨h1, by omega⟩
 split
 ·rw [h1.1.fail]
  split
  ·rw [RS.bd_bad h1.2.1]; exact .inr h1
  exact .inr h1
 rw [if_neg (by omega)]; exact .inr h1
theorem eqv_qual {m1 m2 n n2 a : Nat} {s : St} {r : RS} (h : Rel s r) (ha : a <= 20) {x : QlU × St} {y : Bs × RS} (hc : cQual m1 n a s = some x) (hr : rQual m2 n2 a r = some y) : RR x.2 y.2 (a < 20 /\ y.1 = qlx x.1) := by
 unfold cQual at hc;simp only [Option.bind_eq_some_iff] at hc;obtain ⟨ra, hm, q, hq, hc⟩ := hc;injection hc with hc;subst hc;unfold rQual rParams at hr;simp only [if_true, Option.bind_eq_some_iff] at hr;obtain ⟨px, ⟨pz, hpz, hpx⟩, py, hpy, hr⟩ := hr;injection hpx with hpx;injection hr with hr;subst hpx hr;have h0 := ((h.cnt20 ha).exp (w := wOpen) (by decide)).at;generalize hs1 : (s.counted a 20).exp wOpen = s1 at *;generalize hr1 : (if a = 20 then r.name.bd r.at' 2 else r.name).eat wOpen = r1 at *;have h1 := ((h0.exp (w := wV) (by decide)).exp (w := wColon) (by decide)).base;have hv : RR (cVar s1).2 (rBase ((r1.eat wV).eat wColon)).2 (((a < 20) /\ r1.at' = s1.nx) /\ (rBase ((r1.eat wV).eat wColon)).1 = bsx (cVar s1).1.b) := h1
 have key : RR (ra.2.exp wClose) (pz.2.eat wClose) (a < 20 /\ pz.1 = ra.1.flatMap ptx) := by
  rcases hv with ⟨hR, ⟨h20, hat⟩, hb⟩ | hB
  ·refine (eqv_qmore m1 m2 n2 [(cVar s1).1] (cVar s1).2 _ ra pz hR (by simp) (by simp) hm ?_).imp fun f => ⟨h20, f⟩
   have : List.flatMap ptx [(cVar s1).1] = r1.at'.text ++ plc r1.at'.line r1.at'.col ++ (rBase ((r1.eat wV).eat wColon)).1 ++ [44] := by
    rw [List.flatMap_cons, List.flatMap_nil, List.append_nil, hat, hb];unfold ptx knw
    simp [cVar, typ]
   rw [this]; exact hpz
  have q1 := hB.1.qmore hm;have q2 := RS.pars_bad hB.2.1 hpz;rw [q1, q2, hB.1.exp (by decide), RS.eat_bad hB.2.1];exact .inr hB
 refine (eqv_whole (key.exp (w := wColon) (by decide)) hq hpy).imp fun f => ⟨f.1.1, ?_⟩
 rw [f.1.2, f.2, <- h.nx];unfold qlx;simp only [List.append_assoc]
theorem eqv_fun {m1 m2 n n2 a : Nat} {s : St} {r : RS} (h : Rel s r) (ha : a <= 20) {x : FnU × St} {y : Bs × RS} (hc : cFun m1 n a s = some x) (hr : rFun m2 n2 a r = some y) : RR x.2 y.2 (a < 20 /\ y.1 = fnx x.1) := by
 unfold cFun at hc;simp only [Option.bind_eq_some_iff] at hc;obtain ⟨ra, hm, rt, ht, q, hq, hc⟩ := hc;injection hc with hc;subst hc;unfold rFun rParams at hr;simp only [Bool.false_eq_true, if_false, Option.bind_eq_some_iff] at hr;obtain ⟨px, ⟨pz, hpz, hpx⟩, z, hz, py, hpy, hr⟩ := hr;injection hpx with hpx;injection hr with hr;subst hpx hr;have h0 := ((h.cnt20 ha).exp (w := wOpen) (by decide))
 generalize hs1 : (s.counted a 20).exp wOpen = s1 at *;generalize hr1 : (if a = 20 then r.name.bd r.at' 2 else r.name).eat wOpen = r1 at *
 have key : RR ra.2 (pz.2.eat wClose) (a < 20 /\ pz.1 = ra.1.flatMap ptx) := by
  rcases h0 with ⟨hR, h20⟩ | hB
  ·exact (eqv_fpars hR hm hpz).imp fun f => ⟨h20, f⟩
  have q1 : ra.2 = s1 := by
   unfold cFPars at hm;rw [hB.1.is (by decide)] at hm;simp only [Bool.false_eq_true, if_false] at hm;rw [Option.bind_eq_some_iff] at hm;obtain ⟨w, hw, hm⟩ := hm;have e1 := hB.1.fpar hw;have e2 := SB.fmore (by rw [e1]; exact hB.1) hm;rw [e2, e1]
  have q2 := RS.pars_bad hB.2.1 hpz;rw [q1, q2, RS.eat_bad hB.2.1];exact .inr hB
 have k2 := (key.exp (w := wColon) (by decide)).at;have k3 := k2.base;unfold cRes at ht;have k4 := k3.ref (p := typ wV (ra.2.exp wColon).nx (cBase (ra.2.exp wColon)).1) rfl ht hz;refine (eqv_whole (k4.exp (w := wEq) (by decide)) hq hpy).imp fun f => ?_
 obtain ⟨⟨⟨⟨⟨f1, f2⟩, f3⟩, f4⟩, f5, f6, f7, f8, f9⟩, f10⟩ := f;refine ⟨f1, ?_⟩;simp only;rw [f2, f3, f4, f5, f10, <- h.nx];unfold fnx;simp only [f7, f8, f9];simp only [typ, List.append_assoc]
theorem SB.prog {m n : Nat} {p : PgU} {s : St} {x : PgU × St} (h : SB s) (hc : cProg m n p s = some x) : x.2 = s := by
 cases m with
 | zero => simp [cProg] at hc
 | succ m =>
  rw [cProg, h.is (by decide), h.is (by decide)] at hc;simp only [Bool.false_eq_true, if_false] at hc;injection hc with hc; subst hc; rfl
theorem RS.prog_bad {m n a b : Nat} {qs fs : Bs} {r : RS} {y : (Bs × Bs) × RS} (h : r.bad ≠ 0) (hr : rProg m n a b qs fs r = some y) : y.2 = r := by
 cases m with
 | zero => simp [rProg] at hr
 | succ m => rw [rProg, if_pos (.inl h)] at hr; injection hr with hr; subst hr; rfl
theorem RS.fun_bad {m n b : Nat} {r : RS} {y : Bs × RS} (h : r.bad ≠ 0) (hr : rFun m n b r = some y) : y.2 = r := by
 unfold rFun rParams at hr;simp only [Bool.false_eq_true, if_false, Option.bind_eq_some_iff] at hr;obtain ⟨px, ⟨pz, hpz, hpx⟩, z, hz, py, hpy, hr⟩ := hr;injection hpx with hpx;injection hr with hr;subst hpx hr;have e0 : (if b = 20 then r.name.bd r.at' 2 else r.name) = r := by rw [RS.name_bad h]; split; exact RS.bd_bad h _ _; rfl
 rw [e0, RS.eat_bad h] at hpz;have e1 := RS.pars_bad h hpz;simp only [e1, RS.eat_bad h, RS.base_bad h] at hz hpy ⊢;have e2 := RS.ref_bad h hz;rw [e2, RS.eat_bad h] at hpy;exact r_allbad h hpy
theorem eqv_prog : ∀ (m1 m2 n n2 : Nat) (p : PgU) (s : St) (r : RS) (x : PgU × St) (y : (Bs × Bs) × RS), Rel s r -> p.qs.length <= 20 -> p.fs.length <= 20 -> cProg m1 n p s = some x -> rProg m2 n2 p.qs.length p.fs.length (p.qs.flatMap qlx) (p.fs.flatMap fnx) r = some y -> RR x.2.fin y.2 (y.1.1 ++ y.1.2 = pgx x.1) := by
 intro m1
 induction m1 with
 | zero => intro m2 n n2 p s r x y h h1 h2 hc hr; simp [cProg] at hc
 | succ m1 ih =>
  intro m2 n n2 p s r x y h h1 h2 hc hr
  have stuck : ∀ {s' : St} {r' : RS} {p' : PgU} {m m' a b : Nat} {t u : Bs}, BB s' r' -> cProg m n p' s' = some x -> rProg m' n2 a b t u r' = some y -> RR x.2.fin y.2 (y.1.1 ++ y.1.2 = pgx x.1) := by
   intro s' r' p' m m' a b t u hB h3 h4;have e1 := hB.1.prog h3;have e2 := RS.prog_bad hB.2.1 h4;rw [e1, e2];have : s'.fin = s' := by unfold St.fin; rw [if_pos hB.1.nx.1]
   rw [this]; exact .inr hB
  cases m2 with
  | zero => simp [rProg] at hr
  | succ m2 =>
   rw [cProg] at hc;rw [rProg] at hr
   by_cases h4 : s.nx.kind = 4
   ·have ht : s.nx.text = [] := h.tok.ke h4;have i1 : s.is wQualif = false := by unfold St.is; rw [ht]; decide
    have i2 : s.is wFun = false := by unfold St.is; rw [ht]; decide
    rw [i1, i2] at hc;simp only [Bool.false_eq_true, if_false] at hc;rw [if_pos (.inr (by rw [<- h.nx]; exact h4))] at hr;injection hc with hc; injection hr with hr;subst hc hr;have : s.fin = s := by unfold St.fin; rw [if_pos h4]
    simp only;rw [this]; exact .inl ⟨h, rfl⟩
   rw [if_neg (by rw [<- h.nx]; simp [h.2.1, h4])] at hr;rw [h.is (by decide)] at hr
   cases e : s.is wQualif with
   | true =>
    rw [e] at hc hr;simp only [if_true] at hc hr;rw [Option.bind_eq_some_iff] at hc hr;obtain ⟨u, hu, hc⟩ := hc;obtain ⟨v, hv, hr⟩ := hr;rcases eqv_qual (h.take (by decide) e) h1 hu hv with ⟨hR, h5, hb⟩ | hB
    ·refine ih m2 n n2 ⟨p.qs ++ [u.1], p.fs⟩ u.2 v.2 x y hR (by simp; omega) h2 hc ?_;have : List.flatMap qlx (p.qs ++ [u.1]) = p.qs.flatMap qlx ++ v.1 := by rw [List.flatMap_append, List.flatMap_cons, List.flatMap_nil, List.append_nil, hb]
     simp only [this, lsa]; exact hr
    exact stuck hB hc hr
   | false =>
    rw [e] at hc hr;simp only [Bool.false_eq_true, if_false] at hc hr;rw [Option.bind_eq_some_iff] at hr;obtain ⟨v, hv, hr⟩ := hr
    cases e2 : s.is wFun with
    | true =>
     rw [e2] at hc;simp only [if_true] at hc;rw [Option.bind_eq_some_iff] at hc;obtain ⟨u, hu, hc⟩ := hc;have e3 : r.eat wFun = r.inc := by unfold RS.eat; rw [h.is (by decide), e2]; rfl
     rw [e3] at hv;rcases eqv_fun (h.take (by decide) e2) h2 hu hv with ⟨hR, h5, hb⟩ | hB
     ·refine ih m2 n n2 ⟨p.qs, p.fs ++ [u.1]⟩ u.2 v.2 x y hR h1 (by simp; omega) hc ?_;have : List.flatMap fnx (p.fs ++ [u.1]) = p.fs.flatMap fnx ++ v.1 := by rw [List.flatMap_append, List.flatMap_cons, List.flatMap_nil, List.append_nil, hb]
      simp only [this, lsa]; exact hr
     exact stuck hB hc hr
    | false =>
     rw [e2] at hc;simp only [Bool.false_eq_true, if_false] at hc;injection hc with hc;subst hc;have e3 : r.eat wFun = r.bd s.nx 1 := by unfold RS.eat; rw [h.is (by decide), e2, h.nx]; rfl
     have hB := h.fail (t := s.nx) (c := 1) (by decide) rfl;rw [e3] at hv;have e4 := RS.fun_bad hB.2.1 hv;have e5 := RS.prog_bad (by rw [e4]; exact hB.2.1) hr;rw [e5, e4];have : s.fin = s.fail s.nx 1 := by unfold St.fin; rw [if_neg h4]
     simp only;rw [this]; exact .inr hB
def PmB (p : PmU) : Prop := p.nm.length <= 3000 /\ p.b <= 2 /\ p.ln <= 1000000000 /\ p.cl <= 1000000000 /\ Bnd p.ref
def QlB (q : QlU) : Prop := q.nm.length <= 3000 /\ (∀ p ∈ q.ps, PmB p) /\ Bnd q.body /\ q.ln <= 1000000000 /\ q.cl <= 1000000000
def FnB (f : FnU) : Prop := f.nm.length <= 3000 /\ (∀ p ∈ f.ps, PmB p) /\ PmB f.res /\ Bnd f.body /\ f.ln <= 1000000000 /\ f.cl <= 1000000000
def PgB (p : PgU) : Prop := (∀ q ∈ p.qs, QlB q) /\ (∀ f ∈ p.fs, FnB f)
abbrev Sh (s s' : St) : Prop := GT s' /\ s'.rest.length <= s.rest.length
theorem Sh.exp {s t : St} (h : Sh s t) (w : Bs) : Sh s (t.exp w) := ⟨h.1.exp w, Nat.le_trans (len_exp t w) h.2⟩
theorem Sh.name {s t : St} (h : Sh s t) : Sh s t.name := ⟨h.1.name, Nat.le_trans (len_name t) h.2⟩
theorem Sh.counted {s t : St} (h : Sh s t) (k l : Nat) : Sh s (t.counted k l) := by
 unfold St.counted
 split
 ·exact ⟨h.name.1.fail _ (.inr rfl), Nat.le_trans (len_fail _ _ _) h.name.2⟩
 exact h.name
theorem Sh.tk {s t : St} (h : Sh s t) : Sh s t.tk := ⟨h.1.tk, Nat.le_trans (len_tk t) h.2⟩
theorem Sh.tr {s t u : St} (h : Sh s t) (k : Sh t u) : Sh s u := ⟨k.1, Nat.le_trans k.2 h.2⟩
theorem Sh.rfl' {s : St} (h : GT s) : Sh s s := ⟨h, Nat.le_refl _⟩
theorem Sh.base {s t : St} (h : Sh s t) : Sh s (cBase t).2 /\ (cBase t).1 <= 2 := by
 unfold cBase
 split
 ·exact ⟨h.tk, Nat.le_of_ble_eq_true rfl⟩
 split
 ·exact ⟨h.tk, Nat.le_of_ble_eq_true rfl⟩
 split
 ·exact ⟨h.tk, Nat.le_of_ble_eq_true rfl⟩
 exact ⟨⟨h.tk.1.fail _ (.inl rfl), Nat.le_trans (len_fail _ _ _) h.tk.2⟩, Nat.le_of_ble_eq_true rfl⟩
theorem all_c {n : Nat} {s : St} (g : GT s) (hn : 8 * s.rest.length + 7 <= n) : ∃ x, cAll n s = some x /\ Bnd x.1 /\ Sh s x.2 := by
 obtain ⟨y, hy⟩ := Option.isSome_iff_exists.1 ((c_tot n).1 s g.1 hn);have hx : cAll n s = some (y.1, if 60 < ud y.1 then y.2.fail s.nx 2 else y.2) := by unfold cAll; rw [hy]; rfl
 have hb := all_gt g hx;refine ⟨_, hx, hb.1, hb.2, ?_⟩;have := (c_len n).1 _ _ hy;simp only
 split
 ·exact Nat.le_trans (len_fail _ _ _) this
 exact this
theorem ref_c {n : Nat} {p : PmU} {s : St} (hp : PmB p) (g : GT s) (hn : 8 * s.rest.length + 7 <= n) : ∃ x, cRef n p s = some x /\ PmB x.1 /\ Sh s x.2 := by
 unfold cRef
 split
 ·obtain ⟨x, h1, h2, h3⟩ := all_c (n := n) g.tk (by have := len_tk s; omega);refine ⟨_, by rw [h1]; rfl, ⟨hp.1, hp.2.1, hp.2.2.1, hp.2.2.2.1, h2⟩, ((Sh.rfl' g).tk.tr h3).exp _⟩
 exact ⟨_, rfl, hp, Sh.rfl' g⟩
theorem typ_b {s : St} (g : GT s) {nm : Bs} (hn : nm.length <= 3000) {b : Nat} (hb : b <= 2) : PmB (typ nm s.nx b) := ⟨hn, hb, g.l, g.c, bnd_u0⟩
theorem var_c {s : St} (g : GT s) : PmB (cVar s).1 /\ Sh s (cVar s).2 := by
 have h := (((Sh.rfl' g).exp wV).exp wColon).base;exact ⟨typ_b g g.t h.2, h.1⟩
theorem param_c {s : St} (g : GT s) (k : Nat) : PmB (cParam k s).1 /\ Sh s (cParam k s).2 := by
 have h := (((Sh.rfl' g).counted k 6).exp wColon).base;exact ⟨typ_b g g.t h.2, h.1⟩
theorem res_c {n : Nat} {s : St} (g : GT s) (hn : 8 * s.rest.length + 7 <= n) : ∃ x, cRes n s = some x /\ PmB x.1 /\ Sh s x.2 := by
 have h := (Sh.rfl' g).base;obtain ⟨x, h1, h2, h3⟩ := ref_c (n := n) (typ_b g (nm := wV) (by decide) h.2) h.1.1 (by have := h.1.2; omega);exact ⟨x, h1, h2, h.1.tr h3⟩
theorem all_snoc {α : Type} {P : α -> Prop} {l : List α} {a : α} (h : ∀ x ∈ l, P x) (ha : P a) : ∀ x ∈ l ++ [a], P x := by
 intro x hx;rcases List.mem_append.1 hx with hx | hx
 ·exact h x hx
 rw [List.mem_singleton.1 hx]; exact ha
theorem qmore_c : ∀ {m : Nat} {l : List PmU} {s : St}, GT s -> (∀ p ∈ l, PmB p) -> s.rest.length <= m -> ∃ x, cQMore m l s = some x /\ (∀ p ∈ x.1, PmB p) /\ Sh s x.2 := by
 intro m
 induction m with
 | zero => intro l s g hl hm; exact absurd (List.length_pos_iff.2 g.1.ne) (by omega)
 | succ m ih =>
  intro l s g hl hm;rw [cQMore]
  split
  ·rename_i hi
   have h1 := tk_one g.1 (kind_is g.1 (by decide) hi);obtain ⟨hp, hs⟩ := param_c g.tk l.length;obtain ⟨x, q1, q2, q3⟩ := ih (l := l ++ [(cParam l.length s.tk).1]) hs.1 (all_snoc hl hp) (by have := hs.2; omega);exact ⟨x, q1, q2, ((Sh.rfl' g).tk.tr hs).tr q3⟩
  exact ⟨_, rfl, hl, Sh.rfl' g⟩
theorem fpar_c {n : Nat} {l : List PmU} {s : St} (g : GT s) (hl : ∀ p ∈ l, PmB p) (hn : 8 * s.rest.length + 7 <= n) : ∃ x, cFPar n l s = some x /\ (∀ p ∈ x.1, PmB p) /\ Sh s x.2 := by
 obtain ⟨hp, hs⟩ := param_c g l.length;obtain ⟨x, q1, q2, q3⟩ := ref_c (n := n) hp hs.1 (by have := hs.2; omega);refine ⟨(l ++ [x.1], x.2), by unfold cFPar; rw [q1]; rfl, all_snoc hl q2, hs.tr q3⟩
theorem fmore_c : ∀ {m n : Nat} {l : List PmU} {s : St}, GT s -> (∀ p ∈ l, PmB p) -> s.rest.length <= m -> 8 * s.rest.length + 7 <= n -> ∃ x, cFMore m n l s = some x /\ (∀ p ∈ x.1, PmB p) /\ Sh s x.2 := by
 intro m
 induction m with
 | zero => intro n l s g hl hm; exact absurd (List.length_pos_iff.2 g.1.ne) (by omega)
 | succ m ih =>
  intro n l s g hl hm hn;rw [cFMore]
  split
  ·rename_i hi
   have h1 := tk_one g.1 (kind_is g.1 (by decide) hi);obtain ⟨y, p1, p2, p3⟩ := fpar_c (n := n) g.tk hl (by omega);obtain ⟨x, q1, q2, q3⟩ := ih (n := n) p3.1 p2 (by have := p3.2; omega) (by have := p3.2; omega);exact ⟨x, by rw [p1]; exact q1, q2, ((Sh.rfl' g).tk.tr p3).tr q3⟩
  exact ⟨_, rfl, hl, (Sh.rfl' g).exp _⟩
theorem fpars_c {m n : Nat} {s : St} (g : GT s) (hm : s.rest.length <= m) (hn : 8 * s.rest.length + 7 <= n) : ∃ x, cFPars m n s = some x /\ (∀ p ∈ x.1, PmB p) /\ Sh s x.2 := by
 unfold cFPars
 split
 ·exact ⟨_, rfl, by simp, (Sh.rfl' g).tk⟩
 obtain ⟨y, p1, p2, p3⟩ := fpar_c (n := n) (l := []) g (by simp) hn;obtain ⟨x, q1, q2, q3⟩ := fmore_c (m := m) (n := n) p3.1 p2 (by have := p3.2; omega) (by have := p3.2; omega);exact ⟨x, by rw [p1]; exact q1, q2, p3.tr q3⟩
theorem qual_c {m n k : Nat} {s : St} (g : GT s) (hm : s.rest.length <= m) (hn : 8 * s.rest.length + 7 <= n) : ∃ x, cQual m n k s = some x /\ QlB x.1 /\ Sh s x.2 := by
 have h1 := ((Sh.rfl' g).counted k 20).exp wOpen;obtain ⟨hv, h2⟩ := var_c h1.1;obtain ⟨x, q1, q2, q3⟩ := qmore_c (m := m) (l := [(cVar ((s.counted k 20).exp wOpen)).1]) h2.1 (by simpa using hv) (by have := h2.2; have := h1.2; omega);have h4 := ((((h1.tr h2).tr q3).exp wClose).exp wColon)
 obtain ⟨y, p1, p2, p3⟩ := all_c (n := n) h4.1 (by have := h4.2; omega);refine ⟨(⟨s.nx.text, x.1, y.1, s.nx.line, s.nx.col⟩, y.2), ?_, ⟨g.t, q2, p2, g.l, g.c⟩, h4.tr p3⟩;unfold cQual;simp only [q1, Option.bind_some, p1]
theorem fun_c {m n k : Nat} {s : St} (g : GT s) (hm : s.rest.length <= m) (hn : 8 * s.rest.length + 7 <= n) : ∃ x, cFun m n k s = some x /\ FnB x.1 /\ Sh s x.2 := by
 have h1 := ((Sh.rfl' g).counted k 20).exp wOpen;obtain ⟨x, q1, q2, q3⟩ := fpars_c (m := m) (n := n) h1.1 (by have := h1.2; omega) (by have := h1.2; omega);have h2 := (h1.tr q3).exp wColon;obtain ⟨t, t1, t2, t3⟩ := res_c (n := n) h2.1 (by have := h2.2; omega);have h4 := (h2.tr t3).exp wEq;obtain ⟨y, p1, p2, p3⟩ := all_c (n := n) h4.1 (by have := h4.2; omega);refine ⟨(⟨s.nx.text, x.1, t.1, y.1, s.nx.line, s.nx.col⟩, y.2), ?_, ⟨g.t, q2, t2, p2, g.l, g.c⟩, h4.tr p3⟩;unfold cFun;simp only [q1, Option.bind_some, t1, p1]
theorem prog_c : ∀ {m n : Nat} {p : PgU} {s : St}, GT s -> PgB p -> s.rest.length <= m -> 8 * s.rest.length + 7 <= n -> ∃ x, cProg m n p s = some x /\ PgB x.1 /\ GT x.2 := by
 intro m
 induction m with
 | zero => intro n p s g hp hm; exact absurd (List.length_pos_iff.2 g.1.ne) (by omega)
 | succ m ih =>
  intro n p s g hp hm hn;rw [cProg]
  split
  ·rename_i hi
   have h1 := tk_one g.1 (kind_is g.1 (by decide) hi);obtain ⟨y, p1, p2, p3⟩ := qual_c (m := m) (n := n) (k := p.qs.length) g.tk (by omega) (by omega);obtain ⟨x, q1, q2, q3⟩ := ih (n := n) (p := ⟨p.qs ++ [y.1], p.fs⟩) p3.1 ⟨all_snoc hp.1 p2, hp.2⟩ (by have := p3.2; omega) (by have := p3.2; omega);exact ⟨x, by rw [p1]; exact q1, q2, q3⟩
  split
  ·rename_i hi
   have h1 := tk_one g.1 (kind_is g.1 (by decide) hi);obtain ⟨y, p1, p2, p3⟩ := fun_c (m := m) (n := n) (k := p.fs.length) g.tk (by omega) (by omega);obtain ⟨x, q1, q2, q3⟩ := ih (n := n) (p := ⟨p.qs, p.fs ++ [y.1]⟩) p3.1 ⟨hp.1, all_snoc hp.2 p2⟩ (by have := p3.2; omega) (by have := p3.2; omega);exact ⟨x, by rw [p1]; exact q1, q2, q3⟩
  exact ⟨_, rfl, hp, g⟩
theorem len_phi (r : RS) : r.rest.length <= phi r := by unfold phi; omega
theorem rall_r {n : Nat} {r : RS} (g : GR r) (hn : 12 * phi r + 9 <= n) : ∃ x, rAll n r = some x := by
 obtain ⟨y, hy⟩ := Option.isSome_iff_exists.1 ((r_tot n).1 r g (by have := len_phi r; omega));exact ⟨_, by unfold rAll; rw [hy]; rfl⟩
theorem rref_r {n : Nat} {r : RS} (g : GR r) (hn : 12 * phi r + 9 <= n) : ∃ x, rRef n r = some x := by
 unfold rRef
 split
 ·rename_i hi
  have hk := g.isk (by decide) hi;have := phi_inc g;obtain ⟨x, hx⟩ := rall_r (n := n) (g.inc hk.1) (by omega);exact ⟨_, by rw [hx]; rfl⟩
 exact ⟨_, rfl⟩
theorem rpar_r {n k : Nat} {q : Bool} {r : RS} (g : GR r) (hb : r.bad = 0) (hn : 12 * phi r + 9 <= n) : ∃ x, rPar n q (rPre k r) = some x /\ 1 <= x.1.length := by
 obtain ⟨g2, hp⟩ := pre_fin (k := k) g hb;have h2 : phi (rPre k r) <= phi r := by rcases hp with h | h <;> omega
 generalize rPre k r = r2 at *;have g3 := (g2.name.eat wColon).base;have hn2 := phi_name g2;have he := phi_eat g2.name wColon;have h3 := g3.2.1;unfold rPar
 cases q with
 | true => simp only [if_true, Option.bind_some]; exact ⟨_, rfl, by simp only [lsa, lsc, lsn]; omega⟩
 | false =>
  simp only [Bool.false_eq_true, if_false];obtain ⟨x, hx⟩ := rref_r (n := n) g3.1 (by omega);rw [hx];exact ⟨_, rfl, by simp only [lsa, lsc, lsn]; omega⟩
theorem rpars_r : ∀ {m n : Nat} {q : Bool} {k : Nat} {t : Bs} {r : RS}, GR r -> phi r < m -> 12 * phi r + 9 <= n -> ∃ x, rPars m n q k t r = some x := by
 intro m
 induction m with
 | zero => intro n q k t r g hm hn; exact absurd hm (Nat.not_lt_zero _)
 | succ m ih =>
  intro n q k t r g hm hn;rw [rPars]
  split
  ·exact ⟨_, rfl⟩
  rename_i hc
  have hb : r.bad = 0 := by
   by_cases h : r.bad = 0
   ·exact h
   exact absurd (.inl h) hc
  obtain ⟨z, hz, hz1⟩ := rpar_r (n := n) (k := k) (q := q) g hb hn;obtain ⟨g1, f1⟩ := par_fin g hb hz;obtain ⟨x, hx⟩ := ih (n := n) (q := q) (k := k + 1) (t := t ++ z.1) g1 (by omega) (by omega);exact ⟨x, by rw [hz]; exact hx⟩
theorem rparams_r {m n : Nat} {q : Bool} {r : RS} (g : GR r) (hm : phi r < m) (hn : 12 * phi r + 9 <= n) : ∃ x, rParams m n q r = some x := by
 have p0 := phi_eat g wOpen;have g0 := g.eat wOpen;unfold rParams
 cases q with
 | true =>
  have gb := ((g0.eat wV).eat wColon).base;have p1 := phi_eat g0 wV;have p2 := phi_eat (g0.eat wV) wColon;have p3 := gb.2.1;simp only [if_true];obtain ⟨x, hx⟩ := rpars_r (m := m) (n := n) (q := true) (k := 1) (t := (r.eat wOpen).at'.text ++ plc (r.eat wOpen).at'.line (r.eat wOpen).at'.col ++ (rBase (((r.eat wOpen).eat wV).eat wColon)).1 ++ [44]) gb.1 (by omega) (by omega);rw [hx]; exact ⟨_, rfl⟩
 | false =>
  simp only [Bool.false_eq_true, if_false];obtain ⟨x, hx⟩ := rpars_r (m := m) (n := n) (q := false) (k := 0) (t := []) g0 (by omega) (by omega);rw [hx]; exact ⟨_, rfl⟩
theorem rqual_r {m n a : Nat} {r : RS} (g : GR r) (hb : r.bad = 0) (hm : phi r < m) (hn : 12 * phi r + 9 <= n) : ∃ x, rQual m n a r = some x := by
 obtain ⟨g1, p1⟩ := lim_fin (a := a) g;obtain ⟨x, hx⟩ := rparams_r (m := m) (n := n) (q := true) g1 (by omega) (by omega);obtain ⟨g2, p2⟩ := params_fin g1 hx;simp only [if_true] at p2;rw [if_pos hb] at p1;obtain ⟨y, hy⟩ := rall_r (n := n) g2 (by omega);unfold rQual;simp only [hx, Option.bind_some, hy];exact ⟨_, rfl⟩
theorem rfun_r {m n b : Nat} {r : RS} (g : GR r) (hm : phi r < m) (hn : 12 * phi r + 9 <= n) : ∃ x, rFun m n b r = some x := by
 obtain ⟨g1, p1⟩ := lim_fin (a := b) g;obtain ⟨x, hx⟩ := rparams_r (m := m) (n := n) (q := false) g1 (by omega) (by omega);obtain ⟨g2, p2⟩ := params_fin g1 hx;simp only [Bool.false_eq_true, if_false, Nat.zero_add] at p2;obtain ⟨gb, pb, lb⟩ := g2.base;obtain ⟨z, hz⟩ := rref_r (n := n) gb (by omega);obtain ⟨g3, p3⟩ := ref_fin gb hz;have p4 := phi_eat g3 wEq;obtain ⟨y, hy⟩ := rall_r (n := n) (g3.eat wEq) (by omega);unfold rFun;simp only [hx, Option.bind_some, hz, hy];exact ⟨_, rfl⟩
theorem rprog_r : ∀ {m n a b : Nat} {qs fs : Bs} {r : RS}, GR r -> phi r < m -> 12 * phi r + 9 <= n -> ∃ x, rProg m n a b qs fs r = some x := by
 intro m
 induction m with
 | zero => intro n a b qs fs r g hm; exact absurd hm (Nat.not_lt_zero _)
 | succ m ih =>
  intro n a b qs fs r g hm hn;rw [rProg]
  split
  ·exact ⟨_, rfl⟩
  rename_i hc
  have hb : r.bad = 0 := by
   by_cases h : r.bad = 0
   ·exact h
   exact absurd (.inl h) hc
  split
  ·rename_i hi
   have hk := g.isk (by decide) hi;have p := phi_inc g;obtain ⟨z, hz⟩ := rqual_r (m := m) (n := n) (a := a) (g.inc hk.1) hb (by omega) (by omega);obtain ⟨g1, f1⟩ := qual_fin (g.inc hk.1) hb hz;obtain ⟨x, hx⟩ := ih (n := n) (a := a + 1) (b := b) (qs := qs ++ z.1) (fs := fs) g1 (by omega) (by omega);exact ⟨x, by rw [hz]; exact hx⟩
  have p := phi_eat g wFun;rw [if_pos hb] at p;obtain ⟨z, hz⟩ := rfun_r (m := m) (n := n) (b := b) (g.eat wFun) (by omega) (by omega);obtain ⟨g1, f1⟩ := fun_fin (g.eat wFun) hz;obtain ⟨x, hx⟩ := ih (n := n) (a := a) (b := b + 1) (qs := qs) (fs := fs ++ z.1) g1 (by omega) (by omega);exact ⟨x, by rw [hz]; exact hx⟩
theorem prog_fin : ∀ {m n a b : Nat} {qs fs : Bs} {r : RS} {y : (Bs × Bs) × RS}, GR r -> rProg m n a b qs fs r = some y -> GR y.2 /\ y.1.1.length + y.1.2.length + phi y.2 <= qs.length + fs.length + phi r := by
 intro m
 induction m with
 | zero => intro n a b qs fs r y g h; simp [rProg] at h
 | succ m ih =>
  intro n a b qs fs r y g h;rw [rProg] at h
  split at h
  ·injection h with h; subst h; exact ⟨g, Nat.le_refl _⟩
  rename_i hc
  have hb : r.bad = 0 := by
   by_cases h : r.bad = 0
   ·exact h
   exact absurd (.inl h) hc
  split at h
  ·rename_i hi
   have hk := g.isk (by decide) hi;have p := phi_inc g;rw [Option.bind_eq_some_iff] at h;obtain ⟨z, hz, h⟩ := h;obtain ⟨g1, f1⟩ := qual_fin (g.inc hk.1) hb hz;obtain ⟨g2, f2⟩ := ih g1 h;rw [lsa] at f2;exact ⟨g2, by omega⟩
  have p := phi_eat g wFun;rw [if_pos hb] at p;rw [Option.bind_eq_some_iff] at h;obtain ⟨z, hz, h⟩ := h;obtain ⟨g1, f1⟩ := fun_fin (g.eat wFun) hz;obtain ⟨g2, f2⟩ := ih g1 h;rw [lsa] at f2;exact ⟨g2, by omega⟩
end Go.Proofs.YtdpfgfkoboihcaaGreatDoor
namespace Go.Proofs.YtdpfgfkoboihcaaGreatDoor
open Go.RowKit
set_option maxRecDepth 100000
theorem put_list (l : List Value) (o : Nat) (c : Value) (cs : List Value) (h : o < l.length) : (l.set o c).take (o + 1) ++ (cs ++ (l.set o c).drop (o + 1 + cs.length)) = l.take o ++ (c :: cs ++ l.drop (o + (cs.length + 1))) := by
 rw [List.take_succ_eq_append_getElem (by simpa using h), List.take_set_of_le (Nat.le_refl _), List.getElem_set_self, List.drop_set_of_lt (by omega), show o + 1 + cs.length = o + (cs.length + 1) by omega]
 simp
theorem put_same : ∀ (cs : List Value) (w : World) (g o : Nat) (cur : Array Value) (T : TypeId), w.heap[g]? = some (.cells cur T (0, 0)) -> o + cs.length <= cur.size -> (w.setCells g o cs).heap[g]? = some (.cells (cur.toList.take o ++ (cs ++ cur.toList.drop (o + cs.length))).toArray T (0, 0)) := by
 intro cs
 induction cs with
 | nil => intro w g o cur T h _; rw [World.setCells]; simp [h]
 | cons c cs ih =>
  intro w g o cur T h hl;rw [lsc] at hl;have h0 := heap_setCell_same w g o cur T c h;have h1 := ih (w.setCell ⟨g, o, none⟩ c) g (o + 1) _ T h0 (by rw [Array.size_setIfInBounds]; omega);rw [World.setCells, h1, Array.toList_setIfInBounds, put_list _ _ _ _ (by simpa using (by omega : o < cur.size))]
  rfl
def pmV (p : PmU) (x : X) : Value := .agg #[.string ⟨p.nm.toArray⟩, .int .i64 (p.b : Nat), .bool p.kn, .int .i64 x.k, .string x.nm, .string x.ot, .bool x.b, .slice x.ao x.n x.c, .slice x.ko x.kn x.kc, .int .i64 x.ln, .int .i64 x.cl, .int .i64 (p.ln : Nat), .int .i64 (p.cl : Nat)]
def pmC (p : PmU) (x : X) : List Value := [.string ⟨p.nm.toArray⟩, .int .i64 (p.b : Nat), .bool p.kn, .int .i64 x.k, .string x.nm, .string x.ot, .bool x.b, .slice x.ao x.n x.c, .slice x.ko x.kn x.kc, .int .i64 x.ln, .int .i64 x.cl, .int .i64 (p.ln : Nat), .int .i64 (p.cl : Nat)]
def xZ : X := ⟨0, ⟨#[]⟩, ⟨#[]⟩, false, none, 0, 0, none, 0, 0, 0, 0⟩
set_option linter.unusedVariables false
theorem field_textT (a c d : Int) (l : ByteArray) (w : World) : (Instr.field 60 (.agg #[.int .i64 a, .string l, .int .i64 c, .int .i64 d]) 1).run Tryz.prog w = .ok (.string l) w := by kernel_rfl
theorem is_kind4 {r : RS} (hg : GoodL r.rest) {w : Bs} (hw : w ≠ []) (h : r.is w = true) : r.at'.kind ≠ 4 := fun hk => by
 unfold RS.is at h;simp only [Bool.and_eq_true, beq_iff_eq] at h;exact hw (by rw [<- h.2]; exact hg.head.ke hk)
theorem rbase_p (g : Nat) (r : RS) (w : World) (hps : PR w g r) :
  Calls Tryz.prog 29 #[.pointer (some ⟨g, 0, none⟩)] w fun e w' => e = .returned (.string ⟨(rBase r).1.toArray⟩) /\ Rid w g (rBase r).2 w' := by
 have HP := h_ hps;clear hps;go_enter Tryz.func29, Tryz.ntmps29
 go_wp2_with fail
 refine (at_p g r w HP.out).mono ?_;rintro e w1 ⟨rfl, hb⟩;replace HP := h_ (HP.out.below hb);have HD := h_ (below_grown hb (some g));clear hb;simp only [tokV];obtain ⟨t, hnx⟩ : ∃ t, t = RS.at' r := ⟨_, rfl⟩
 rw [<- hnx];have HNt := h_ hnx;clear hnx;have hf := field_textT (t.kind : Nat) (t.line : Nat) (t.col : Nat) ⟨t.text.toArray⟩ w1;go_wp2_with fail
 clear hf;refine (is_p g r [105, 110, 116] w1 HP.out).mono ?_;rintro e w2 ⟨rfl, hb⟩;replace HP := h_ (HP.out.below hb);replace HD := dB HD hb;have hsz2 := HD.out.size;clear hb
 by_cases hi : r.is [105, 110, 116] = true
 ·rw [hi];have HC : Hid (rBase r = (t.text, r.inc)) := h_ (by unfold rBase; rw [HNt.out, show r.is wInt = true from hi]; rfl);have HK4 : Hid (r.at'.kind ≠ 4) := h_ (is_kind4 HP.out.good (w := [105, 110, 116]) (by decide) hi);obtain ⟨pb, pi, pn, pc, h1, h2, h3, h4, h5, h6, h7, h8, h9⟩ := HP.out;have g1 := cell_at (v := .int .i64 (pi : Nat)) h1 1 rfl;have f1 := froz_at h1 1;have hil : pi <= 30000 := by omega
  have HH := h_ (And.intro h1 (And.intro h2 (And.intro h3 (And.intro h4 (And.intro h5 (And.intro h6 (And.intro h7 (And.intro h8 h9))))))));clear h1 h2 h3 h4 h5 h6 h7 h8 h9;go_upto_region 4 with fail
  clear g1 f1;obtain ⟨h1, h2, h3, h4, h5, h6, h7, h8, h9⟩ := HH.out;have hc0 := heap_setCell_same _ g 1 _ _ (.int .i64 ((pi + 1 : Nat) : Int)) h1;obtain ⟨w3, hw⟩ : ∃ x, x = w2.setCell ⟨g, 1, none⟩ (.int .i64 ((pi + 1 : Nat) : Int)) := ⟨_, rfl⟩
  have hg : w2.grownBy w3 (some g) := by rw [hw]; exact grown_set _ _ _ _
  rw [<- hw] at hc0;have hw' : w2.setCell ⟨g, 1, none⟩ (.int .i64 ((pi : Int) + 1)) = w3 := by rw [hw]; rfl
  rw [hw'];have hp := PR.inc hg hc0 HK4.out h2 h3 h4 h5 h6 h7 h8 h9;clear hw hw' hc0 h1 h2 h3 h4 h5 h6 h7 h8 h9 HH HK4 hil;replace HP := h_ hp;replace HD := dG HD (hg);have hsz3 := HD.out.size;clear hp hg;go_wp2_with fail
  go_ret
  exact ⟨by rw [HC.out]; rfl, by rw [HC.out]; exact ⟨HP.out, HD.out⟩⟩
 have hif : r.is [105, 110, 116] = false := by simpa using hi
 rw [hif];have HI1 := h_ hif;clear hi hif;go_wp2_with fail
 refine (is_p g r [98, 111, 111, 108] w2 HP.out).mono ?_;rintro e w3 ⟨rfl, hb⟩;replace HP := h_ (HP.out.below hb);replace HD := dB HD hb;have hsz3 := HD.out.size;clear hb
 by_cases hi : r.is [98, 111, 111, 108] = true
 ·rw [hi];have HC : Hid (rBase r = (t.text, r.inc)) := h_ (by unfold rBase; rw [HNt.out, show r.is wInt = false from HI1.out, show r.is wBool = true from hi]; rfl);have HK4 : Hid (r.at'.kind ≠ 4) := h_ (is_kind4 HP.out.good (w := [98, 111, 111, 108]) (by decide) hi);obtain ⟨pb, pi, pn, pc, h1, h2, h3, h4, h5, h6, h7, h8, h9⟩ := HP.out;have g1 := cell_at (v := .int .i64 (pi : Nat)) h1 1 rfl;have f1 := froz_at h1 1;have hil : pi <= 30000 := by omega
  have HH := h_ (And.intro h1 (And.intro h2 (And.intro h3 (And.intro h4 (And.intro h5 (And.intro h6 (And.intro h7 (And.intro h8 h9))))))));clear h1 h2 h3 h4 h5 h6 h7 h8 h9;go_upto_region 4 with fail
  clear g1 f1;obtain ⟨h1, h2, h3, h4, h5, h6, h7, h8, h9⟩ := HH.out;have hc0 := heap_setCell_same _ g 1 _ _ (.int .i64 ((pi + 1 : Nat) : Int)) h1;obtain ⟨w4, hw⟩ : ∃ x, x = w3.setCell ⟨g, 1, none⟩ (.int .i64 ((pi + 1 : Nat) : Int)) := ⟨_, rfl⟩
  have hg : w3.grownBy w4 (some g) := by rw [hw]; exact grown_set _ _ _ _
  rw [<- hw] at hc0;have hw' : w3.setCell ⟨g, 1, none⟩ (.int .i64 ((pi : Int) + 1)) = w4 := by rw [hw]; rfl
  rw [hw'];have hp := PR.inc hg hc0 HK4.out h2 h3 h4 h5 h6 h7 h8 h9;clear hw hw' hc0 h1 h2 h3 h4 h5 h6 h7 h8 h9 HH HK4 hil;replace HP := h_ hp;replace HD := dG HD (hg);have hsz4 := HD.out.size;clear hp hg;go_wp2_with fail
  go_ret
  exact ⟨by rw [HC.out]; rfl, by rw [HC.out]; exact ⟨HP.out, HD.out⟩⟩
 have hif : r.is [98, 111, 111, 108] = false := by simpa using hi
 rw [hif];have HC : Hid (rBase r = (t.text, r.eat wList)) := h_ (by unfold rBase; rw [HNt.out, show r.is wInt = false from HI1.out, show r.is wBool = false from hif]; rfl);clear hi hif;go_wp2_with fail
 refine (eat_p g r [108, 105, 115, 116] w3 HP.out).mono ?_;rintro e w4 ⟨⟨v, rfl⟩, hp, hg⟩;replace HP := h_ hp;replace HD := dG HD (hg);have hsz4 := HD.out.size;clear hp hg;go_wp2_with fail
 go_ret
 exact ⟨by rw [HC.out]; rfl, by rw [HC.out]; exact ⟨HP.out, HD.out⟩⟩
theorem phi_le {w : World} {g : Nat} {r : RS} (h : PR w g r) : phi r <= 211000000 := by
 obtain ⟨b, i, n, c, -, -, h3, -, -, h6, -⟩ := h;unfold phi; split <;> omega
theorem rest_inc {w : World} {g : Nat} {r : RS} (h : PR w g r) : phi r.inc <= 211000000 := by
 obtain ⟨b, i, n, c, -, -, h3, -, -, h6, -⟩ := h;have : r.inc.rest.length <= r.rest.length := by unfold RS.inc; simp
 unfold phi; split <;> omega
theorem all_le {n : Nat} {r : RS} {y : Bs × RS} (g : GR r) (hp : phi r <= 211000000) (h : rAll n r = some y) : y.1.length <= 300000000 := by
 unfold rAll at h;rw [Option.bind_eq_some_iff] at h;obtain ⟨x, h1, h2⟩ := h;injection h2 with h2; subst h2;have := ((r_len n).1 _ _ g h1).2.1;simp only; omega
theorem rref_p (n g : Nat) (r : RS) (y : Bs × RS) (w : World) (hps : PR w g r) (htb : TBd r) (hpw : Pw w g) (hc : rRef n r = some y) :
  Calls Tryz.prog 30 #[.pointer (some ⟨g, 0, none⟩)] w fun e w' => e = .returned (.string ⟨y.1.toArray⟩) /\ Rid w g y.2 w' := by
 have HP := h_ hps;have HTB := h_ hpw;have HT := h_ htb;have hgw : g < w.heap.size := hps.lt;clear hps hpw htb;unfold rRef at hc;go_enter Tryz.func30, Tryz.ntmps30
 go_wp2_with fail
 refine (is_p g r [123] w HP.out).mono ?_;rintro e w1 ⟨rfl, hb⟩;replace HP := h_ (HP.out.below hb);replace HTB := h_ (HTB.out.below hb);have HD := h_ (below_grown hb (some g));have hsz1 := HD.out.size;clear hb
 by_cases hi : r.is wBraceO = true
 ·rw [if_pos hi, Option.bind_eq_some_iff] at hc;obtain ⟨x, hx, hc⟩ := hc;injection hc with hc;subst hc;have HX := h_ hx;have hk4 := is_kind4 HP.out.good (w := wBraceO) (by decide) hi;have hgr : GR r.inc := GR.inc ⟨HP.out.good, HT.out⟩ hk4;have hxl : x.1.length <= 300000000 := all_le hgr (rest_inc HP.out) hx;rw [show r.is [123] = true from hi];have HT1 := h_ hgr.2;clear hx hgr;have HK4 : Hid (r.at'.kind ≠ 4) := h_ (hk4);obtain ⟨pb, pi, pn, pc, h1, h2, h3, h4, h5, h6, h7, h8, h9⟩ := HP.out;have g1 := cell_at (v := .int .i64 (pi : Nat)) h1 1 rfl;have f1 := froz_at h1 1;have hil : pi <= 30000 := by omega
  have HH := h_ (And.intro h1 (And.intro h2 (And.intro h3 (And.intro h4 (And.intro h5 (And.intro h6 (And.intro h7 (And.intro h8 h9))))))));clear h1 h2 h3 h4 h5 h6 h7 h8 h9;go_upto_region 4 with fail
  clear g1 f1;obtain ⟨h1, h2, h3, h4, h5, h6, h7, h8, h9⟩ := HH.out;have hc0 := heap_setCell_same _ g 1 _ _ (.int .i64 ((pi + 1 : Nat) : Int)) h1;obtain ⟨w2, hw⟩ : ∃ x, x = w1.setCell ⟨g, 1, none⟩ (.int .i64 ((pi + 1 : Nat) : Int)) := ⟨_, rfl⟩
  have hg : w1.grownBy w2 (some g) := by rw [hw]; exact grown_set _ _ _ _
  rw [<- hw] at hc0;have hw' : w1.setCell ⟨g, 1, none⟩ (.int .i64 ((pi : Int) + 1)) = w2 := by rw [hw]; rfl
  rw [hw'];have hp := PR.inc hg hc0 HK4.out h2 h3 h4 h5 h6 h7 h8 h9;clear hw hw' hc0 h1 h2 h3 h4 h5 h6 h7 h8 h9 HH HK4 hil;replace HTB := h_ (HTB.out.grown hg (by omega));replace HP := h_ hp;replace HD := dG HD (hg);clear hp hg;clear hk4;go_wp2_with fail
  refine (rall_p n g r.inc x w2 HP.out HT1.out HTB.out HX.out).mono ?_;rintro e w3 ⟨rfl, hp, hg⟩;replace HTB := h_ (HTB.out.grown hg (by omega));replace HP := h_ hp;replace HD := dG HD (hg);clear hp hg;go_wp2_with fail
  refine (eat_p g x.2 [125] w3 HP.out).mono ?_;rintro e w4 ⟨⟨v, rfl⟩, hp, hg⟩;replace HTB := h_ (HTB.out.grown hg (by omega));replace HP := h_ hp;replace HD := dG HD (hg);have hsz4 := HD.out.size;clear hp hg;have hxs : (⟨x.1.toArray⟩ : ByteArray).size = x.1.length := rfl;have hx1 : (⟨#[123]⟩ : ByteArray).size = 1 := rfl;have hx2 : (⟨#[125]⟩ : ByteArray).size = 1 := rfl;go_wp2_with fail
  go_ret
  exact ⟨by show _ = Ending.returned (.string ⟨([123] ++ x.1 ++ [125]).toArray⟩); rw [<- cat, <- cat]; rfl, HP.out, HD.out⟩
 rw [if_neg hi] at hc;injection hc with hc;subst hc;have hif : r.is [123] = false := by simpa using hi
 rw [hif];clear hi hif;go_wp2_with fail
 go_ret
 exact ⟨rfl, HP.out, HD.out⟩
set_option linter.unusedSimpArgs false
theorem rplace_p (t : Tok) (w : World) (htab : Pow w) (h1 : t.text.length <= 1000000) (h2 : t.line <= 1000000000) (h3 : t.col <= 1000000000) :
  Calls Tryz.prog 25 #[tokV t] w fun e w' => e = .returned (.string ⟨(t.text ++ plc t.line t.col).toArray⟩) /\ Below w.heap.size w w' := by
 have HTB := h_ htab;clear htab;unfold tokV;have HBW := h_ (Below.refl w.heap.size w);go_enter Tryz.func25, Tryz.ntmps25
 go_upto_region 1 with fail
 obtain ⟨w1, ke, hw, hkk, hb, hs1, HBe⟩ := newb w #[.int .i64 (t.kind : Nat), .string ⟨t.text.toArray⟩, .int .i64 (t.line : Nat), .int .i64 (t.col : Nat)] 60;have hee : w.heap.size <= ke := by omega
 rw [hw, <- hkk];replace HBW := h_ (HBW.out.trans (hb.mono HBW.out.size));replace HTB := h_ (tab_below HTB.out hb);have HD := h_ (below_grown hb (some 0));have hsz1 := HD.out.size;clear hw hb hkk hs1;obtain ⟨Z1, hZ1⟩ : ∃ l : Bs, l = zText (t.line : Nat) := ⟨_, rfl⟩
 have lZ1 : Z1.length <= 10 := by rw [hZ1]; exact zl t.line h2
 have HZ1 := h_ hZ1;obtain ⟨Z2, hZ2⟩ : ∃ l : Bs, l = zText (t.col : Nat) := ⟨_, rfl⟩
 have lZ2 : Z2.length <= 10 := by rw [hZ2]; exact zl t.col h3
 have HZ2 := h_ hZ2;obtain ⟨S2, hS2⟩ : ∃ l : Bs, l = t.text ++ [64] := ⟨_, rfl⟩
 have lS2 : S2.length <= 1000001 := by rw [hS2]; simp only [lsa, lsc, lsn]; omega
 have HS2 := h_ hS2;obtain ⟨S6, hS6⟩ : ∃ l : Bs, l = S2 ++ Z1 := ⟨_, rfl⟩
 have lS6 : S6.length <= 1000011 := by rw [hS6]; simp only [lsa, lsc, lsn]; omega
 have HS6 := h_ hS6;obtain ⟨S7, hS7⟩ : ∃ l : Bs, l = S6 ++ [58] := ⟨_, rfl⟩
 have lS7 : S7.length <= 1000012 := by rw [hS7]; simp only [lsa, lsc, lsn]; omega
 have HS7 := h_ hS7;obtain ⟨S11, hS11⟩ : ∃ l : Bs, l = S7 ++ Z2 := ⟨_, rfl⟩
 have lS11 : S11.length <= 1000022 := by rw [hS11]; simp only [lsa, lsc, lsn]; omega
 have HS11 := h_ hS11;clear hZ1 hZ2 hS2 hS6 hS7 hS11;have htl : (⟨t.text.toArray⟩ : ByteArray).size = t.text.length := rfl;have hlt_e := lt_of_block HBe.out;have hog : ∀ q, q < 0 -> (fun q => 0) q < w1.heap.size := fun q h => absurd h (Nat.not_lt_zero _)
 refine R7.region (by kernel_rfl) [[], [0], [0, 1], [], [3], [3, 4], [0, 1, 2, 3, 4, 5], [0, 1, 2, 3, 4, 5, 6], [], [8], [3, 4, 5, 8, 9], [0, 1, 2, 3, 4, 5, 6, 7, 8, 9, 10], [0, 1, 2, 3, 4, 5, 6, 7, 8, 9, 10, 11]] [] [] (fun q => 0) 0 13 (by kernel_rfl) (by kernel_rfl) (by rfl) hog (fun q q' h h' hn => absurd hn (by omega)) ?_;refine R7.Chain.det ?_ (by rfl) (fun T xs wr hA => ?_) ?_
 rotate_left 1
 ·have e1 := hA.pre 1 (by kernel_rfl);simp only [gsa, gsc, gsz] at e1;clear hA;refine ⟨(by rfl), ?_⟩;go_simp <;> (try with_reducible rfl)
 refine R7.Chain.det ?_ (by rfl) (fun T xs wr hA => ?_) ?_
 rotate_left 1
 ·have e3 := (hA.tm 0 3 (by rfl) (by rfl)).trans (congrArg some (hA.fa 0 (by rfl)))
  (try simp (disch := first | rfl | decide) only [R7.mask_in] at e3)
  have hBq : wr.heap[ke]? = _ := (hA.bl _ hlt_e (fun q h => absurd h (Nat.not_lt_zero _))).trans HBe.out;obtain ⟨q0, q1, q2, q3⟩ := cl4 hBq;clear hBq;clear hA;refine ⟨(by rfl), ?_⟩;go_simp <;> (try with_reducible rfl)
 refine R7.Chain.call (fun xs v w => v = .string ⟨S2.toArray⟩) (fun _ _ _ _ h _ => h) (fun _ _ _ _ _ h _ _ => h) (by rfl) (fun T xs wr hA => ?_) ?_
 ·have hsw := (hA.be 0 (Nat.zero_le _) (fun _ _ => Nat.zero_le _)).size;have e4 := (hA.tm 1 4 (by rfl) (by rfl)).trans (congrArg some (hA.fa 1 (by rfl)))
  (try simp (disch := first | rfl | decide) only [R7.mask_in] at e4)
  clear hA;refine ⟨(by rfl), fun K hK => ?_⟩;go_simp
  rw [if_neg (by omega)];exact hK.out _ _ (congrArg Value.string (by rw [HS2.out]; exact cat _ _)) (Below.refl _ _)
 refine R7.Chain.det ?_ (by rfl) (fun T xs wr hA => ?_) ?_
 rotate_left 1
 ·have e1 := hA.pre 1 (by kernel_rfl);simp only [gsa, gsc, gsz] at e1;clear hA;refine ⟨(by rfl), ?_⟩;go_simp <;> (try with_reducible rfl)
 refine R7.Chain.det ?_ (by rfl) (fun T xs wr hA => ?_) ?_
 rotate_left 1
 ·have e6 := (hA.tm 3 6 (by rfl) (by rfl)).trans (congrArg some (hA.fa 3 (by rfl)))
  (try simp (disch := first | rfl | decide) only [R7.mask_in] at e6)
  have hBq : wr.heap[ke]? = _ := (hA.bl _ hlt_e (fun q h => absurd h (Nat.not_lt_zero _))).trans HBe.out;obtain ⟨q0, q1, q2, q3⟩ := cl4 hBq;clear hBq;clear hA;refine ⟨(by rfl), ?_⟩;go_simp <;> (try with_reducible rfl)
 refine R7.Chain.call (fun xs v w => v = .string ⟨Z1.toArray⟩) (fun _ _ _ _ h _ => h) (fun _ _ _ _ _ h _ _ => h) (by rfl) (fun T xs wr hA => ?_) ?_
 ·have hsw := (hA.be 0 (Nat.zero_le _) (fun _ _ => Nat.zero_le _)).size;have e7 := (hA.tm 4 7 (by rfl) (by rfl)).trans (congrArg some (hA.fa 4 (by rfl)))
  (try simp (disch := first | rfl | decide) only [R7.mask_in] at e7)
  have hbw := undrew (hA.be w1.heap.size (Nat.le_refl _) (fun q h => absurd h (Nat.not_lt_zero _)));have htw := tab_below HTB.out hbw;clear hA;refine ⟨(by rfl), fun K hK => ?_⟩;go_simp
  refine (itoa_any (t.line : Nat) _ (by omega) (by omega) htw).mono ?_;rintro e w' ⟨rfl, hb⟩;exact hK.out _ _ (by rw [HZ1.out]) hb
 refine R7.Chain.call (fun xs v w => v = .string ⟨S6.toArray⟩) (fun _ _ _ _ h _ => h) (fun _ _ _ _ _ h _ _ => h) (by rfl) (fun T xs wr hA => ?_) ?_
 ·have hsw := (hA.be 0 (Nat.zero_le _) (fun _ _ => Nat.zero_le _)).size;have e5 := hA.tm 2 5 (by rfl) (by rfl);have f5 : xs 2 = (.string ⟨S2.toArray⟩) := hA.fa 2 (by rfl);rw [f5] at e5;clear f5;have e8 := hA.tm 5 8 (by rfl) (by rfl);have f8 : xs 5 = (.string ⟨Z1.toArray⟩) := hA.fa 5 (by rfl);rw [f8] at e8;clear f8;clear hA;refine ⟨(by rfl), fun K hK => ?_⟩;go_simp
  rw [if_neg (by omega)];exact hK.out _ _ (congrArg Value.string (by rw [HS6.out]; exact cat _ _)) (Below.refl _ _)
 refine R7.Chain.call (fun xs v w => v = .string ⟨S7.toArray⟩) (fun _ _ _ _ h _ => h) (fun _ _ _ _ _ h _ _ => h) (by rfl) (fun T xs wr hA => ?_) ?_
 ·have hsw := (hA.be 0 (Nat.zero_le _) (fun _ _ => Nat.zero_le _)).size;have e9 := hA.tm 6 9 (by rfl) (by rfl);have f9 : xs 6 = (.string ⟨S6.toArray⟩) := hA.fa 6 (by rfl);rw [f9] at e9;clear f9;clear hA;refine ⟨(by rfl), fun K hK => ?_⟩;go_simp
  rw [if_neg (by omega)];exact hK.out _ _ (congrArg Value.string (by rw [HS7.out]; exact cat _ _)) (Below.refl _ _)
 refine R7.Chain.det ?_ (by rfl) (fun T xs wr hA => ?_) ?_
 rotate_left 1
 ·have e1 := hA.pre 1 (by kernel_rfl);simp only [gsa, gsc, gsz] at e1;clear hA;refine ⟨(by rfl), ?_⟩;go_simp <;> (try with_reducible rfl)
 refine R7.Chain.det ?_ (by rfl) (fun T xs wr hA => ?_) ?_
 rotate_left 1
 ·have e11 := (hA.tm 8 11 (by rfl) (by rfl)).trans (congrArg some (hA.fa 8 (by rfl)))
  (try simp (disch := first | rfl | decide) only [R7.mask_in] at e11)
  have hBq : wr.heap[ke]? = _ := (hA.bl _ hlt_e (fun q h => absurd h (Nat.not_lt_zero _))).trans HBe.out;obtain ⟨q0, q1, q2, q3⟩ := cl4 hBq;clear hBq;clear hA;refine ⟨(by rfl), ?_⟩;go_simp <;> (try with_reducible rfl)
 refine R7.Chain.call (fun xs v w => v = .string ⟨Z2.toArray⟩) (fun _ _ _ _ h _ => h) (fun _ _ _ _ _ h _ _ => h) (by rfl) (fun T xs wr hA => ?_) ?_
 ·have hsw := (hA.be 0 (Nat.zero_le _) (fun _ _ => Nat.zero_le _)).size;have e12 := (hA.tm 9 12 (by rfl) (by rfl)).trans (congrArg some (hA.fa 9 (by rfl)))
  (try simp (disch := first | rfl | decide) only [R7.mask_in] at e12)
  have hbw := undrew (hA.be w1.heap.size (Nat.le_refl _) (fun q h => absurd h (Nat.not_lt_zero _)));have htw := tab_below HTB.out hbw;clear hA;refine ⟨(by rfl), fun K hK => ?_⟩;go_simp
  refine (itoa_any (t.col : Nat) _ (by omega) (by omega) htw).mono ?_;rintro e w' ⟨rfl, hb⟩;exact hK.out _ _ (by rw [HZ2.out]) hb
 refine R7.Chain.call (fun xs v w => v = .string ⟨S11.toArray⟩) (fun _ _ _ _ h _ => h) (fun _ _ _ _ _ h _ _ => h) (by rfl) (fun T xs wr hA => ?_) ?_
 ·have hsw := (hA.be 0 (Nat.zero_le _) (fun _ _ => Nat.zero_le _)).size;have e10 := hA.tm 7 10 (by rfl) (by rfl);have f10 : xs 7 = (.string ⟨S7.toArray⟩) := hA.fa 7 (by rfl);rw [f10] at e10;clear f10;have e13 := hA.tm 10 13 (by rfl) (by rfl);have f13 : xs 10 = (.string ⟨Z2.toArray⟩) := hA.fa 10 (by rfl);rw [f13] at e13;clear f13;clear hA;refine ⟨(by rfl), fun K hK => ?_⟩;go_simp
  rw [if_neg (by omega)];exact hK.out _ _ (congrArg Value.string (by rw [HS11.out]; exact cat _ _)) (Below.refl _ _)
 refine R7.Chain.det ?_ (by rfl) (fun T xs wr hA => ?_) ?_
 rotate_left 1
 ·have e14 := hA.tm 11 14 (by rfl) (by rfl);have f14 : xs 11 = (.string ⟨S11.toArray⟩) := hA.fa 11 (by rfl);rw [f14] at e14;clear f14;clear hA;refine ⟨(by rfl), ?_⟩;go_simp <;> (try with_reducible rfl)
 refine R7.Chain.done (fun xs w2 hL => ?_);obtain ⟨⟨hbe, hbl⟩, hf, -, -⟩ := hL;have f0 : xs 0 = _ := hf 0 (by decide);have f1 : xs 1 = _ := hf 1 (by decide);have f2 : xs 2 = (.string ⟨S2.toArray⟩) := hf 2 (by decide);have f3 : xs 3 = _ := hf 3 (by decide);have f4 : xs 4 = _ := hf 4 (by decide);have f5 : xs 5 = (.string ⟨Z1.toArray⟩) := hf 5 (by decide);have f6 : xs 6 = (.string ⟨S6.toArray⟩) := hf 6 (by decide);have f7 : xs 7 = (.string ⟨S7.toArray⟩) := hf 7 (by decide);have f8 : xs 8 = _ := hf 8 (by decide);have f9 : xs 9 = _ := hf 9 (by decide);have f10 : xs 10 = (.string ⟨Z2.toArray⟩) := hf 10 (by decide);have f11 : xs 11 = (.string ⟨S11.toArray⟩) := hf 11 (by decide);have f12 : xs 12 = _ := hf 12 (by decide)
 (try simp (disch := first | rfl | decide) only [R7.mask_in] at f0 f1 f3 f4 f8 f9 f12)
 have hb0 : Below 0 w1 w2 := undrew (hbe 0 (Nat.zero_le _) (fun _ _ => Nat.zero_le _));have hgr : ∀ j, j < w1.heap.size -> (∀ q, q < 0 -> (fun q => 0) q ≠ j) -> w2.heap[j]? = w1.heap[j]? := hbl;clear hbe hbl hf;have hb : Below w1.heap.size w1 w2 := ⟨hb0.os, hb0.tape, hb0.output, hb0.size, fun q hq => hgr q hq (fun q h => absurd h (Nat.not_lt_zero _))⟩
 refine R7.rest_done ?_;simp only [R7.fill, List.setIfInBounds_toArray, List.set_cons_zero, List.set_cons_succ, f0, f1, f2, f3, f4, f5, f6, f7, f8, f9, f10, f11, f12];clear hb0 hgr hog hlt_e f0 f1 f2 f3 f4 f5 f6 f7 f8 f9 f10 f11 f12;replace HBe := kB hb HBe;replace HBW := h_ (HBW.out.trans (hb.mono HBW.out.size));replace HTB := h_ (tab_below HTB.out hb);replace HD := dB HD hb;have hsz2 := HD.out.size;clear hb;go_wp2_with fail
 go_ret
 exact ⟨by rw [HS11.out, HS7.out, HS6.out, HS2.out, HZ1.out, HZ2.out]; unfold plc; simp only [List.append_assoc]; rfl, HBW.out⟩
end Go.Proofs.YtdpfgfkoboihcaaGreatDoor
