/-
 Joined texts: PsY, LxErr, LxIs, LxG, LxRef, LxRefN, LxRefL, PsEk, PsAt.
-/
import Derived.IntWalk
import Derived.LaidEql
import Derived.Stop.Asserts
import Derived.RowKitTokens
import Derived.Lib.IfaceEq
import Derived.Test.YtdpfgfkoboihcaaGreatDoorJPsParseRuns2
import Derived.Test.YtdpfgfkoboihcaaGreatDoorJPsParseRuns5
set_option maxHeartbeats 32000000
namespace Go.Proofs.YtdpfgfkoboihcaaGreatDoor
open Go.RowKit
set_option maxRecDepth 100000
set_option linter.unusedVariables false
set_option linter.unusedSimpArgs false
def rLen (w : World) (g : Nat) : Nat := match w.cell? ⟨g, 0, none⟩, w.cell? ⟨g, 1, none⟩ with | some (.slice _ n _), some (.int _ i) => n - i.toNat | _, _ => 0
theorem PR.len {w : World} {g : Nat} {r : RS} (h : PR w g r) : rLen w g = r.rest.length := by
 obtain ⟨b, i, n, c, h1, -, h3, -⟩ := h;unfold rLen;rw [cell_at (v := .slice (some ⟨b, 0, none⟩) n c) h1 0 rfl, cell_at (v := .int .i64 (i : Nat)) h1 1 rfl];simp only [Int.toNat_natCast]; omega
theorem st2_same {w : World} {g : Nat} {T : TypeId} {a0 a1 : Value} (h : w.heap[g]? = some (.cells #[a0, a1] T (0, 0))) (v0 v1 : Value) : (st2 w g v0 v1).heap[g]? = some (.cells #[v0, v1] T (0, 0)) := by
 have h0 : (w.setCell ⟨g, 0, none⟩ v0).heap[g]? = some (.cells #[v0, a1] T (0, 0)) := heap_setCell_same _ g 0 _ T v0 h;exact heap_setCell_same _ g 1 _ T v1 h0
theorem climb_p (n : Nat) (S : Hid (RSingleAt n)) (C : Hid (∀ m, m <= n -> RClimbAt m)) : RClimbAt (n + 1) := by
 intro g l r x w hl1 hl7 hps htb hpw hc;have hgw : g < w.heap.size := hps.lt;have HP := h_ hps;have HTD := h_ htb;have HTB := h_ hpw;have HGR := h_ (show GR r from ⟨hps.good, htb⟩);have HPH := h_ hps.phi;clear hps htb hpw;rw [rClimb] at hc;go_enter Tryz.func90, Tryz.ntmps90
 go_upto_region 1 with fail
 obtain ⟨w1, kr, hw, hkk, hb, -, HBr⟩ := newb w #[.string ⟨#[]⟩, .int .i64 0] 117;have hgr : g < kr := by rw [hkk]; exact HP.out.lt
 have her : w.heap.size <= kr := by omega
 rw [hw, <- hkk];replace HP := h_ (HP.out.below hb);replace HTB := h_ (HTB.out.below hb);have HD := h_ (below_grown hb (some g));have hsz1 := HD.out.size;clear hw hb hkk
 by_cases h7 : l = 7
 ·have h7' : ((l : Int) == 7) = true := by rw [h7]; rfl
  rw [if_pos h7] at hc;have HC := h_ hc;clear hc;go_wp2_with fail
  clear h7' h7;refine (S.out g r x w1 HP.out HTD.out HTB.out HC.out).mono ?_;rintro e w2 ⟨rfl, hp, hg⟩;replace HBr := kG hg HBr;replace HTB := h_ (HTB.out.grown hg (by omega));replace HP := h_ hp;replace HD := dG HD hg;have hsz2 := HD.out.size;clear hp hg;simp only [eV];obtain ⟨z0, z1⟩ := cl2 HBr.out;obtain ⟨fz0, fz1⟩ := fr2 HBr.out;go_wp2_with fail
  have hg := st2_grown w2 kr (.string ⟨x.1.S.toArray⟩) (.int .i64 (x.1.d : Nat));exact bodyPost_ret (v := .agg #[.string ⟨x.1.S.toArray⟩, .int .i64 (x.1.d : Nat)]) (by simp [results, Tryz.results90, go_sem, z0, z1]) rfl ⟨rfl, HP.out.store (by omega) hg, grown_new HD.out hg (by omega)⟩
 have h7' : ((l : Int) == 7) = false := by rw [beq_eq_false_iff_ne]; omega
 rw [if_neg h7, Option.bind_eq_some_iff] at hc;obtain ⟨x1, h1, h2⟩ := hc;have H1 := h_ h1;have H2 := h_ h2;have HF := h_ ((r_len n).2.1 _ _ _ (by omega) HGR.out h1);clear h1 h2;have hwr : IntKind.i64.wrap ((l : Int) + 1) = (l : Int) + 1 := IntWalk.i64_in _ (by omega);go_wp2_with fail
 refine ((C.out n (Nat.le_refl _)) g (l + 1) r x1 w1 (by omega) (by omega) HP.out HTD.out HTB.out H1.out).mono ?_;rintro e w2 ⟨rfl, hp, hg⟩;replace HBr := kG hg HBr;replace HTB := h_ (HTB.out.grown hg (by omega));replace HP := h_ hp;replace HD := dG HD hg;have hsz2 := HD.out.size;clear hp hg;simp only [eV];go_wp2_with fail
 obtain ⟨w3, ke, hw, hkk, hb, -, HBe⟩ := newb w2 #[.string ⟨x1.1.S.toArray⟩, .int .i64 (x1.1.d : Nat)] 117;have hge : g < ke := by rw [hkk]; exact HP.out.lt
 have hee : w.heap.size <= ke := by omega
 have hr_e : kr < ke := by rw [hkk]; exact lt_of_block HBr.out
 rw [hw, <- hkk];replace HBr := kB hb HBr;replace HP := h_ (HP.out.below hb);replace HTB := h_ (HTB.out.below hb);replace HD := dB HD hb;have hsz3 := HD.out.size;clear hw hb hkk;replace HTD := h_ HF.out.1.2
 go_loopw [7] (fun v wr => ∃ (m : Nat) (e : RE) (r1 : RS), m <= n /\ Hid (rLoop m l e r1 = some x) /\ Hid (GR r1) /\ Hid (e.d <= e.S.length /\ e.S.length + phi r1 <= 300000000) /\ Hid (PR wr g r1) /\ Hid (Pw wr g) /\ Hid (w.grownBy wr (some g)) /\ Hid (wr.heap[kr]? = some (.cells #[.string ⟨#[]⟩, .int .i64 0] 117 (0, 0))) /\ Hid (wr.heap[ke]? = some (.cells #[.string ⟨e.S.toArray⟩, .int .i64 (e.d : Nat)] 117 (0, 0)))) (fun _ wr => rLen wr g)
 case atStart => exact ⟨n, x1.1, x1.2, Nat.le_refl _, H2, h_ HF.out.1, h_ ⟨HF.out.2.2.1, by have := HF.out.2.1; have := HPH.out; omega⟩, HP, HTB, HD, HBr, HBe⟩
 case round =>
  clear HP HTB HD HBr HBe HF H1 H2 HTD HGR HPH hwr;obtain ⟨m, e, r1, hmn, HC, HGR, HEB, HP, HTB, HD, HBr, HBe⟩ := hrel;have hszr := HD.out.size;have HLEN := h_ HP.out.len;have HTD := h_ HGR.out.2
  obtain ⟨m, rfl⟩ : ∃ m', m = m' + 1 := by
   cases m with
   | zero => have := HC.out; simp [rLoop] at this
   | succ m => exact ⟨m, rfl⟩
  have hc := HC.out;clear HC;rw [rLoop] at hc;obtain ⟨pb, pi, pn, pc, p1, -⟩ := HP.out;have p2 := cell_at (v := .int .i64 (r1.bad : Nat)) p1 2 rfl;clear p1
  by_cases hb : r1.bad ≠ 0
  ·have hb' : (((r1.bad : Nat) : Int) == 0) = false := by rw [beq_eq_false_iff_ne]; omega
   rw [if_pos hb] at hc;injection hc with hc;subst hc;clear hb;obtain ⟨y0, y1⟩ := cl2 HBe.out;obtain ⟨z0, z1⟩ := cl2 HBr.out;obtain ⟨fz0, fz1⟩ := fr2 HBr.out;go_wp2_with fail
   have hg := st2_grown wr kr (.string ⟨e.S.toArray⟩) (.int .i64 (e.d : Nat));exact bodyPost_ret (v := .agg #[.string ⟨e.S.toArray⟩, .int .i64 (e.d : Nat)]) (by simp [results, Tryz.results90, go_sem, z0, z1]) rfl ⟨rfl, HP.out.store (by omega) hg, grown_new HD.out hg (by omega)⟩
  have hb0 : r1.bad = 0 := by omega
  rw [hb0] at p2;rw [if_neg (by omega)] at hc;clear hb;go_wp2_with fail
  refine (at_p g r1 wr HP.out).mono ?_;rintro e w4 ⟨rfl, hb⟩;replace HBr := kB hb HBr;replace HBe := kB hb HBe;replace HP := h_ (HP.out.below hb);replace HTB := h_ (HTB.out.below hb);replace HD := dB HD hb;have hsz4 := HD.out.size;clear hb;simp only [tokV];obtain ⟨t, hnx⟩ : ∃ t, t = RS.at' r1 := ⟨_, rfl⟩
  rw [<- hnx];have HNt := h_ hnx;clear hnx;go_upto_region 6 with fail
  obtain ⟨w5, kt, hw, hkk, hb, -, HBt⟩ := newb w4 #[.int .i64 (t.kind : Nat), .string ⟨t.text.toArray⟩, .int .i64 (t.line : Nat), .int .i64 (t.col : Nat)] 60;have hgt : g < kt := by rw [hkk]; exact HP.out.lt
  have het : w.heap.size <= kt := by omega
  have hr_t : kr < kt := by rw [hkk]; exact lt_of_block HBr.out
  have he_t : ke < kt := by rw [hkk]; exact lt_of_block HBe.out
  rw [hw, <- hkk];replace HBr := kB hb HBr;replace HBe := kB hb HBe;replace HP := h_ (HP.out.below hb);replace HTB := h_ (HTB.out.below hb);replace HD := dB HD hb;clear hw hb hkk;clear p2;have hT := HTD.out.at;rw [<- HNt.out] at hT hc;obtain ⟨c0, c1, c2, c3⟩ := cl4 HBt.out;go_wp2_with fail
  have hp2 := two_p t w5;unfold tokV at hp2;refine (hp2).mono ?_;rintro e w6 ⟨rfl, hb⟩;clear c0 c1 c2 c3;replace HBr := kB hb HBr;replace HBe := kB hb HBe;replace HBt := kB hb HBt;replace HP := h_ (HP.out.below hb);replace HTB := h_ (HTB.out.below hb);replace HD := dB HD hb;have hsz6 := HD.out.size;clear hb;clear hp2
  by_cases hl : (two t).1 ≠ l
  ·have hl' : ((((two t).1 : Nat) : Int) == (l : Int)) = false := by rw [beq_eq_false_iff_ne]; omega
   rw [if_pos hl] at hc;injection hc with hc;subst hc;obtain ⟨y0, y1⟩ := cl2 HBe.out;obtain ⟨z0, z1⟩ := cl2 HBr.out;obtain ⟨fz0, fz1⟩ := fr2 HBr.out;go_wp2_with fail
   have hg := st2_grown w6 kr (.string ⟨e.S.toArray⟩) (.int .i64 (e.d : Nat));exact bodyPost_ret (v := .agg #[.string ⟨e.S.toArray⟩, .int .i64 (e.d : Nat)]) (by simp [results, Tryz.results90, go_sem, z0, z1]) rfl ⟨rfl, HP.out.store (by omega) hg, grown_new HD.out hg (by omega)⟩
  have hl0 : (two t).1 = l := by omega
  have hl' : ((((two t).1 : Nat) : Int) == (l : Int)) = true := by rw [hl0]; simp
  rw [if_neg (by omega)] at hc;have HTK := h_ (two_kind (show (two t).1 ≠ 0 by omega));clear hl hl0;have HK4 : Hid (r1.at'.kind ≠ 4) := h_ (by rw [<- HNt.out]; have := HTK.out.1; omega);obtain ⟨pb, pi, pn, pc, h1, h2, h3, h4, h5, h6, h7, h8, h9⟩ := HP.out;have g1 := cell_at (v := .int .i64 (pi : Nat)) h1 1 rfl;have f1 := froz_at h1 1;have hil : pi <= 30000 := by omega
  have HH := h_ (And.intro h1 (And.intro h2 (And.intro h3 (And.intro h4 (And.intro h5 (And.intro h6 (And.intro h7 (And.intro h8 h9))))))));clear h1 h2 h3 h4 h5 h6 h7 h8 h9;go_upto_region 9 with fail
  clear g1 f1;obtain ⟨h1, h2, h3, h4, h5, h6, h7, h8, h9⟩ := HH.out;have hc0 := heap_setCell_same _ g 1 _ _ (.int .i64 ((pi + 1 : Nat) : Int)) h1;obtain ⟨w7, hw⟩ : ∃ x, x = w6.setCell ⟨g, 1, none⟩ (.int .i64 ((pi + 1 : Nat) : Int)) := ⟨_, rfl⟩
  have hg : w6.grownBy w7 (some g) := by rw [hw]; exact grown_set _ _ _ _
  rw [<- hw] at hc0;have hw' : w6.setCell ⟨g, 1, none⟩ (.int .i64 ((pi : Int) + 1)) = w7 := by rw [hw]; rfl
  rw [hw'];have hp := PR.inc hg hc0 HK4.out h2 h3 h4 h5 h6 h7 h8 h9;clear hw hw' hc0 h1 h2 h3 h4 h5 h6 h7 h8 h9 HH HK4 hil;replace HBr := kG hg HBr;replace HBe := kG hg HBe;replace HBt := kG hg HBt;replace HTB := h_ (HTB.out.grown hg (by omega));replace HP := h_ hp;replace HD := dG HD hg;have hsz7 := HD.out.size;clear hp hg;clear hl';obtain ⟨kd, hkd⟩ : ∃ kd, kd = (two t).2 := ⟨_, rfl⟩
  have hkd2 : kd <= 100 := by have := HTK.out.2; omega
  rw [<- hkd] at hc ⊢;clear hkd
  by_cases h4 : l = 4
  ·have h4' : ((l : Int) == 4) = true := by rw [h4]; rfl
   rw [if_pos h4, Option.bind_eq_some_iff] at hc;obtain ⟨x1, h1, h2⟩ := hc;injection h2 with h2;subst h2;have H1 := h_ h1;have HF := h_ ((r_len m).2.1 _ _ _ (by decide) (HGR.out.inc (by rw [<- HNt.out]; have := HTK.out.1; omega)) h1);clear h1;go_upto_region 10 with fail
   clear h4';have hlt_t := lt_of_block HBt.out;have hlt_e := lt_of_block HBe.out;have hog : ∀ q, q < 1 -> (fun q => g) q < w7.heap.size := fun q _ => by show g < _; exact HP.out.lt
   refine R7.region (by kernel_rfl) [[], [], [], [], [3], [2, 3, 4], [0, 1, 2, 3, 4, 5], [0, 1, 2, 3, 4, 5, 6]] [] [(4, 1000)] (fun q => g) 1 6 (by kernel_rfl) (by kernel_rfl) (by rfl) hog (fun q q' h h' hn => absurd hn (by omega)) ?_;refine R7.Chain.det ?_ (by rfl) (fun T xs wr hA => ?_) ?_
   rotate_left 1
   ·have e8 := hA.pre 8 (by kernel_rfl);simp only [gsa, gsc, gsz] at e8;clear hA;refine ⟨(by rfl), ?_⟩;go_simp <;> (try with_reducible rfl)
   refine R7.Chain.det ?_ (by rfl) (fun T xs wr hA => ?_) ?_
   rotate_left 1
   ·have e6 := hA.pre 6 (by kernel_rfl);simp only [gsa, gsc, gsz] at e6;have hBq : wr.heap[kt]? = _ := (hA.bl _ hlt_t (fun q _ => by show g ≠ kt; omega)).trans HBt.out;obtain ⟨q0, q1, q2, q3⟩ := cl4 hBq;clear hBq;clear hA;refine ⟨(by rfl), ?_⟩;go_simp <;> (try with_reducible rfl)
   refine R7.Chain.det ?_ (by rfl) (fun T xs wr hA => ?_) ?_
   rotate_left 1
   ·have e5 := hA.pre 5 (by kernel_rfl);simp only [gsa, gsc, gsz] at e5;have hBq : wr.heap[ke]? = _ := (hA.bl _ hlt_e (fun q _ => by show g ≠ ke; omega)).trans HBe.out;obtain ⟨q0, q1⟩ := cl2 hBq;clear hBq;clear hA;refine ⟨(by rfl), ?_⟩;go_simp <;> (try with_reducible rfl)
   refine R7.Chain.det ?_ (by rfl) (fun T xs wr hA => ?_) ?_
   rotate_left 1
   ·have e0 := hA.pre 0 (by kernel_rfl);simp only [gsa, gsz] at e0;clear hA;refine ⟨(by rfl), ?_⟩;go_simp <;> (try with_reducible rfl)
   refine R7.Chain.callOld 0 (fun xs v w => v = eV x1.1 /\ PR w g x1.2) (fun _ _ _ _ ⟨h1, h2⟩ hb => ⟨h1, h2.below hb⟩) (fun _ _ _ _ q' _ hq hne _ => absurd rfl hne) (by rfl) (by rfl) (by decide) (R7.own_one (by rfl)) (fun T xs wr hA hold => ?_) ?_
   ·have hsw := (hA.be 0 (Nat.zero_le _) (fun _ _ => Nat.zero_le _)).size;have e44 := (hA.tm 3 44 (by rfl) (by rfl)).trans (congrArg some (hA.fa 3 (by rfl)))
    (try simp (disch := first | rfl | decide) only [R7.mask_in] at e44)
    have h0 := undrew (hA.be 0 (Nat.zero_le _) (fun _ _ => Nat.zero_le _))
    have hbw : Below w7.heap.size w7 wr := ⟨h0.os, h0.tape, h0.output, h0.size, fun k hk => by
     by_cases e : k = g
     ·rw [e]; exact hold
     exact hA.bl k hk (fun q _ h => e h.symm)⟩
    clear hA;refine ⟨(by rfl), fun K hK => ?_⟩;go_simp
    refine ((C.out m (by omega)) g 4 r1.inc x1 _ (by decide) (by decide) (HP.out.below hbw) HTD.out.inc (HTB.out.below hbw) H1.out).mono ?_;rintro e w' ⟨rfl, hp, hg⟩;exact hK.out _ _ ⟨rfl, hp⟩ (R7.Priv.of hg)
   refine R7.Chain.call (fun xs v w => ∃ g, v = .slice (some ⟨g, 0, none⟩) 2 2 /\ w7.heap.size <= g /\ w.heap[g]? = some (.cells #[.string ⟨e.S.toArray⟩, .int .i64 (e.d : Nat), .string ⟨x1.1.S.toArray⟩, .int .i64 (x1.1.d : Nat)] 117 (0, 0))) (fun _ _ _ _ ⟨g, hv, hl, hg⟩ hb => ⟨g, hv, hl, by rw [hb.block g (Array.getElem?_eq_some_iff.1 hg).1]; exact hg⟩) (fun _ _ _ _ _ ⟨g, hv, hl, hg⟩ ⟨q, hq, e⟩ hp => ⟨g, hv, hl, by rw [hp.block g (Array.getElem?_eq_some_iff.1 hg).1 (fun h => by have := hog q hq; omega)]; exact hg⟩) (by rfl) (fun T xs wr hA => ?_) ?_
   ·have hsw := (hA.be 0 (Nat.zero_le _) (fun _ _ => Nat.zero_le _)).size;have e43 := (hA.tm 2 43 (by rfl) (by rfl)).trans (congrArg some (hA.fa 2 (by rfl)))
    (try simp (disch := first | rfl | decide) only [R7.mask_in] at e43)
    have e45 := hA.tm 4 45 (by rfl) (by rfl);have hF4 : xs 4 = eV x1.1 /\ PR wr g x1.2 := hA.fa 4 (by rfl);rw [hF4.1] at e45;unfold eV at e45;clear hA;refine ⟨(by rfl), fun K hK => ?_⟩;go_simp
    exact hK.out _ _ ⟨_, rfl, hsw, by simpa using made_at wr _ _ rfl⟩ ((Below.refl _ _).alloc (Nat.le_refl _) _)
   refine R7.Chain.done (fun xs w8 hL => ?_);obtain ⟨⟨hbe, hbl⟩, hf, -, -⟩ := hL;have f0 : xs 0 = _ := hf 0 (by decide);have f1 : xs 1 = _ := hf 1 (by decide);have f2 : xs 2 = _ := hf 2 (by decide);have f3 : xs 3 = _ := hf 3 (by decide);have F4 : (xs 4) = eV x1.1 /\ PR w8 g x1.2 := hf 4 (by decide);have F5 : ∃ g, (xs 5) = .slice (some ⟨g, 0, none⟩) 2 2 /\ w7.heap.size <= g /\ w8.heap[g]? = some (.cells #[.string ⟨e.S.toArray⟩, .int .i64 (e.d : Nat), .string ⟨x1.1.S.toArray⟩, .int .i64 (x1.1.d : Nat)] 117 (0, 0)) := hf 5 (by decide)
   (try simp (disch := first | rfl | decide) only [R7.mask_in] at f0 f1 f2 f3)
   have hb0 : Below 0 w7 w8 := undrew (hbe 0 (Nat.zero_le _) (fun _ _ => Nat.zero_le _));have hgr : ∀ j, j < w7.heap.size -> (∀ q, q < 1 -> (fun q => g) q ≠ j) -> w8.heap[j]? = w7.heap[j]? := hbl;clear hbe hbl hf;obtain ⟨hv4, hp⟩ := F4;obtain ⟨g5, hv5, hl5, hg5⟩ := F5;have hg : w7.grownBy w8 (some g) := ⟨hb0.os, hb0.tape, hb0.output, hb0.size, fun k hk hn => hgr k hk (fun q _ e => hn (by rw [<- e]))⟩
   refine R7.rest_list (by decide) (by kernel_rfl) ?_;simp only [R7.fill, List.take_succ_cons, List.take_zero, List.drop_succ_cons, List.drop_zero, List.setIfInBounds_toArray, List.set_cons_zero, List.set_cons_succ, f0, f1, f2, f3];simp only [hv4, hv5];clear hog hv4 hv5 hl5 hb0 hgr hlt_t hlt_e f0 f1 f2 f3;replace HBr := kG hg HBr;replace HBe := kG hg HBe;replace HBt := kG hg HBt;replace HTB := h_ (HTB.out.grown hg (by omega));replace HP := h_ hp;replace HD := dG HD hg;have hsz8 := HD.out.size;have HG5 := h_ hg5;clear hp hg hg5;have hnm : ([] : Bs).length <= 1000000 := by simp
   have hph := phi_inc HGR.out;have heb := HEB.out;have hS : ([e, x1.1].flatMap RE.S).length <= 1000000000 := by rw [fl2]; have := HF.out.2.1; omega
   have hd : ∀ e1 ∈ [e, x1.1], e1.d <= 1000000000 := by intro e1 he1; simp only [List.mem_cons, List.not_mem_nil, or_false] at he1; have := HF.out.2.1; have := HF.out.2.2.1; rcases he1 with rfl | rfl <;> omega
   go_wp2_with fail
   refine (made_p kd t [] (some ⟨g5, 0, none⟩) 2 [e, x1.1] w8 HTB.out.1 (by first | decide | omega) hT.1 hT.2.1 hnm (at2_blk (ks := [e, x1.1]) HG5.out) (by simp) hS hd).mono ?_;rintro e w9 ⟨rfl, hb⟩;replace HBr := kB hb HBr;replace HBe := kB hb HBe;replace HBt := kB hb HBt;replace HP := h_ (HP.out.below hb);replace HTB := h_ (HTB.out.below hb);replace HD := dB HD hb;have hsz9 := HD.out.size;clear hb;clear HG5;simp only [eV];obtain ⟨z0, z1⟩ := cl2 HBr.out;obtain ⟨fz0, fz1⟩ := fr2 HBr.out;go_wp2_with fail
   have hg := st2_grown w9 kr (.string ⟨(mk kd t [] [e, x1.1]).S.toArray⟩) (.int .i64 ((mk kd t [] [e, x1.1]).d : Nat));exact bodyPost_ret (v := .agg #[.string ⟨(mk kd t [] [e, x1.1]).S.toArray⟩, .int .i64 ((mk kd t [] [e, x1.1]).d : Nat)]) (by simp [results, Tryz.results90, go_sem, z0, z1]) rfl ⟨rfl, HP.out.store (by omega) hg, grown_new HD.out hg (by omega)⟩
  have h4' : ((l : Int) == 4) = false := by rw [beq_eq_false_iff_ne]; omega
  rw [if_neg h4, Option.bind_eq_some_iff] at hc;obtain ⟨x1, h1, h2⟩ := hc;have H1 := h_ h1;have H2 := h_ h2;have HF := h_ ((r_len m).2.1 _ _ _ (by omega) (HGR.out.inc (by rw [<- HNt.out]; have := HTK.out.1; omega)) h1);clear h1 h2;go_upto_region 11 with fail
  clear h4';have hwr : IntKind.i64.wrap ((l : Int) + 1) = (l : Int) + 1 := IntWalk.i64_in _ (by omega);have hlt_t := lt_of_block HBt.out;have hlt_e := lt_of_block HBe.out;have hog : ∀ q, q < 1 -> (fun q => g) q < w7.heap.size := fun q _ => by show g < _; exact HP.out.lt
  refine R7.region (by kernel_rfl) [[], [], [], [], [], [4], [3, 4, 5], [2, 3, 4, 5, 6], [0, 1, 2, 3, 4, 5, 6, 7], [0, 1, 2, 3, 4, 5, 6, 7, 8]] [] [(6, 1000)] (fun q => g) 1 8 (by kernel_rfl) (by kernel_rfl) (by rfl) hog (fun q q' h h' hn => absurd hn (by omega)) ?_;refine R7.Chain.det ?_ (by rfl) (fun T xs wr hA => ?_) ?_
  rotate_left 1
  ·have e8 := hA.pre 8 (by kernel_rfl);simp only [gsa, gsc, gsz] at e8;clear hA;refine ⟨(by rfl), ?_⟩;go_simp <;> (try with_reducible rfl)
  refine R7.Chain.det ?_ (by rfl) (fun T xs wr hA => ?_) ?_
  rotate_left 1
  ·have e6 := hA.pre 6 (by kernel_rfl);simp only [gsa, gsc, gsz] at e6;have hBq : wr.heap[kt]? = _ := (hA.bl _ hlt_t (fun q _ => by show g ≠ kt; omega)).trans HBt.out;obtain ⟨q0, q1, q2, q3⟩ := cl4 hBq;clear hBq;clear hA;refine ⟨(by rfl), ?_⟩;go_simp <;> (try with_reducible rfl)
  refine R7.Chain.det ?_ (by rfl) (fun T xs wr hA => ?_) ?_
  rotate_left 1
  ·have e5 := hA.pre 5 (by kernel_rfl);simp only [gsa, gsc, gsz] at e5;have hBq : wr.heap[ke]? = _ := (hA.bl _ hlt_e (fun q _ => by show g ≠ ke; omega)).trans HBe.out;obtain ⟨q0, q1⟩ := cl2 hBq;clear hBq;clear hA;refine ⟨(by rfl), ?_⟩;go_simp <;> (try with_reducible rfl)
  refine R7.Chain.det ?_ (by rfl) (fun T xs wr hA => ?_) ?_
  rotate_left 1
  ·have e0 := hA.pre 0 (by kernel_rfl);simp only [gsa, gsz] at e0;clear hA;refine ⟨(by rfl), ?_⟩;go_simp <;> (try with_reducible rfl)
  refine R7.Chain.det ?_ (by rfl) (fun T xs wr hA => ?_) ?_
  rotate_left 1
  ·have e1 := hA.pre 1 (by kernel_rfl);simp only [gsa, gsc, gsz] at e1;clear hA;refine ⟨(by rfl), ?_⟩;go_simp <;> (try with_reducible rfl)
  refine R7.Chain.det ?_ (by rfl) (fun T xs wr hA => ?_) ?_
  rotate_left 1
  ·have e52 := (hA.tm 4 52 (by rfl) (by rfl)).trans (congrArg some (hA.fa 4 (by rfl)))
   (try simp (disch := first | rfl | decide) only [R7.mask_in] at e52)
   clear hA;refine ⟨(by rfl), ?_⟩;go_simp <;> (try with_reducible rfl)
  refine R7.Chain.callOld 0 (fun xs v w => v = eV x1.1 /\ PR w g x1.2) (fun _ _ _ _ ⟨h1, h2⟩ hb => ⟨h1, h2.below hb⟩) (fun _ _ _ _ q' _ hq hne _ => absurd rfl hne) (by rfl) (by rfl) (by decide) (R7.own_one (by rfl)) (fun T xs wr hA hold => ?_) ?_
  ·have hsw := (hA.be 0 (Nat.zero_le _) (fun _ _ => Nat.zero_le _)).size;have e51 := (hA.tm 3 51 (by rfl) (by rfl)).trans (congrArg some (hA.fa 3 (by rfl)))
   (try simp (disch := first | rfl | decide) only [R7.mask_in] at e51)
   have e53 := (hA.tm 5 53 (by rfl) (by rfl)).trans (congrArg some (hA.fa 5 (by rfl)))
   (try simp (disch := first | rfl | decide) only [R7.mask_in] at e53)
   have h0 := undrew (hA.be 0 (Nat.zero_le _) (fun _ _ => Nat.zero_le _))
   have hbw : Below w7.heap.size w7 wr := ⟨h0.os, h0.tape, h0.output, h0.size, fun k hk => by
    by_cases e : k = g
    ·rw [e]; exact hold
    exact hA.bl k hk (fun q _ h => e h.symm)⟩
   clear hA;refine ⟨(by rfl), fun K hK => ?_⟩;go_simp
   refine ((C.out m (by omega)) g (l + 1) r1.inc x1 _ (by omega) (by omega) (HP.out.below hbw) HTD.out.inc (HTB.out.below hbw) H1.out).mono ?_;rintro e w' ⟨rfl, hp, hg⟩;exact hK.out _ _ ⟨rfl, hp⟩ (R7.Priv.of hg)
  refine R7.Chain.call (fun xs v w => ∃ g, v = .slice (some ⟨g, 0, none⟩) 2 2 /\ w7.heap.size <= g /\ w.heap[g]? = some (.cells #[.string ⟨e.S.toArray⟩, .int .i64 (e.d : Nat), .string ⟨x1.1.S.toArray⟩, .int .i64 (x1.1.d : Nat)] 117 (0, 0))) (fun _ _ _ _ ⟨g, hv, hl, hg⟩ hb => ⟨g, hv, hl, by rw [hb.block g (Array.getElem?_eq_some_iff.1 hg).1]; exact hg⟩) (fun _ _ _ _ _ ⟨g, hv, hl, hg⟩ ⟨q, hq, e⟩ hp => ⟨g, hv, hl, by rw [hp.block g (Array.getElem?_eq_some_iff.1 hg).1 (fun h => by have := hog q hq; omega)]; exact hg⟩) (by rfl) (fun T xs wr hA => ?_) ?_
  ·have hsw := (hA.be 0 (Nat.zero_le _) (fun _ _ => Nat.zero_le _)).size;have e50 := (hA.tm 2 50 (by rfl) (by rfl)).trans (congrArg some (hA.fa 2 (by rfl)))
   (try simp (disch := first | rfl | decide) only [R7.mask_in] at e50)
   have e54 := hA.tm 6 54 (by rfl) (by rfl);have hF6 : xs 6 = eV x1.1 /\ PR wr g x1.2 := hA.fa 6 (by rfl);rw [hF6.1] at e54;unfold eV at e54;clear hA;refine ⟨(by rfl), fun K hK => ?_⟩;go_simp
   exact hK.out _ _ ⟨_, rfl, hsw, by simpa using made_at wr _ _ rfl⟩ ((Below.refl _ _).alloc (Nat.le_refl _) _)
  refine R7.Chain.done (fun xs w8 hL => ?_);obtain ⟨⟨hbe, hbl⟩, hf, -, -⟩ := hL;have f0 : xs 0 = _ := hf 0 (by decide);have f1 : xs 1 = _ := hf 1 (by decide);have f2 : xs 2 = _ := hf 2 (by decide);have f3 : xs 3 = _ := hf 3 (by decide);have f4 : xs 4 = _ := hf 4 (by decide);have f5 : xs 5 = _ := hf 5 (by decide);have F6 : (xs 6) = eV x1.1 /\ PR w8 g x1.2 := hf 6 (by decide);have F7 : ∃ g, (xs 7) = .slice (some ⟨g, 0, none⟩) 2 2 /\ w7.heap.size <= g /\ w8.heap[g]? = some (.cells #[.string ⟨e.S.toArray⟩, .int .i64 (e.d : Nat), .string ⟨x1.1.S.toArray⟩, .int .i64 (x1.1.d : Nat)] 117 (0, 0)) := hf 7 (by decide)
  (try simp (disch := first | rfl | decide) only [R7.mask_in] at f0 f1 f2 f3 f4 f5)
  have hb0 : Below 0 w7 w8 := undrew (hbe 0 (Nat.zero_le _) (fun _ _ => Nat.zero_le _));have hgr : ∀ j, j < w7.heap.size -> (∀ q, q < 1 -> (fun q => g) q ≠ j) -> w8.heap[j]? = w7.heap[j]? := hbl;clear hbe hbl hf;obtain ⟨hv4, hp⟩ := F6;obtain ⟨g5, hv5, hl5, hg5⟩ := F7;have hg : w7.grownBy w8 (some g) := ⟨hb0.os, hb0.tape, hb0.output, hb0.size, fun k hk hn => hgr k hk (fun q _ e => hn (by rw [<- e]))⟩
  refine R7.rest_list (by decide) (by kernel_rfl) ?_;simp only [R7.fill, List.take_succ_cons, List.take_zero, List.drop_succ_cons, List.drop_zero, List.setIfInBounds_toArray, List.set_cons_zero, List.set_cons_succ, f0, f1, f2, f3, f4, f5];simp only [hv4, hv5];clear hog hv4 hv5 hl5 hb0 hgr hlt_t hlt_e f0 f1 f2 f3 f4 f5;replace HBr := kG hg HBr;replace HBe := kG hg HBe;replace HBt := kG hg HBt;replace HTB := h_ (HTB.out.grown hg (by omega));replace HP := h_ hp;replace HD := dG HD hg;have hsz8 := HD.out.size;have HG5 := h_ hg5;clear hp hg hg5;have hnm : ([] : Bs).length <= 1000000 := by simp
  have hph := phi_inc HGR.out;have heb := HEB.out;have hS : ([e, x1.1].flatMap RE.S).length <= 1000000000 := by rw [fl2]; have := HF.out.2.1; omega
  have hd : ∀ e1 ∈ [e, x1.1], e1.d <= 1000000000 := by intro e1 he1; simp only [List.mem_cons, List.not_mem_nil, or_false] at he1; have := HF.out.2.1; have := HF.out.2.2.1; rcases he1 with rfl | rfl <;> omega
  go_wp2_with fail
  refine (made_p kd t [] (some ⟨g5, 0, none⟩) 2 [e, x1.1] w8 HTB.out.1 (by first | decide | omega) hT.1 hT.2.1 hnm (at2_blk (ks := [e, x1.1]) HG5.out) (by simp) hS hd).mono ?_;rintro e w9 ⟨rfl, hb⟩;replace HBr := kB hb HBr;replace HBe := kB hb HBe;replace HBt := kB hb HBt;replace HP := h_ (HP.out.below hb);replace HTB := h_ (HTB.out.below hb);replace HD := dB HD hb;have hsz9 := HD.out.size;clear hb;clear HG5;simp only [eV];obtain ⟨y0, y1⟩ := cl2 HBe.out;obtain ⟨fy0, fy1⟩ := fr2 HBe.out;go_upto_region 12 with fail
  obtain ⟨w10, hw⟩ : ∃ y, y = st2 w9 ke (.string ⟨(mk kd t [] [e, x1.1]).S.toArray⟩) (.int .i64 ((mk kd t [] [e, x1.1]).d : Nat)) := ⟨_, rfl⟩
  have hg : w9.grownBy w10 (some ke) := by rw [hw]; exact st2_grown _ _ _ _
  have hv : w10.heap[ke]? = some (.cells #[.string ⟨(mk kd t [] [e, x1.1]).S.toArray⟩, .int .i64 ((mk kd t [] [e, x1.1]).d : Nat)] 117 (0, 0)) := by rw [hw]; exact st2_same HBe.out _ _
  unfold st2 at hw;rw [<- hw];clear y0 fy0 y1 fy1;replace HP := h_ (HP.out.store (by omega) hg);replace HBr := kG hg HBr;replace HBt := kG hg HBt;replace HTB := h_ (HTB.out.grown hg (by omega));replace HD := dN HD hg (by omega);have hsz10 := HD.out.size;replace HBe := h_ hv;clear hw hg hv
  by_cases h3 : l = 3
  ·have h3' : ((l : Int) == 3) = true := by rw [h3]; rfl
   have h2 := H2.out;rw [if_pos h3] at h2;injection h2 with h2;subst h2;obtain ⟨y0, y1⟩ := cl2 HBe.out;obtain ⟨z0, z1⟩ := cl2 HBr.out;obtain ⟨fz0, fz1⟩ := fr2 HBr.out;go_wp2_with fail
   have hg := st2_grown w10 kr (.string ⟨(mk kd t [] [e, x1.1]).S.toArray⟩) (.int .i64 ((mk kd t [] [e, x1.1]).d : Nat));exact bodyPost_ret (v := .agg #[.string ⟨(mk kd t [] [e, x1.1]).S.toArray⟩, .int .i64 ((mk kd t [] [e, x1.1]).d : Nat)]) (by simp [results, Tryz.results90, go_sem, z0, z1]) rfl ⟨rfl, HP.out.store (by omega) hg, grown_new HD.out hg (by omega)⟩
  have h3' : ((l : Int) == 3) = false := by rw [beq_eq_false_iff_ne]; omega
  have h2 := H2.out;rw [if_neg h3] at h2;have HM := h_ (mk_len kd t [] [e, x1.1] (by omega) hT.1 hT.2.1 (d2 heb.1 HF.out.2.2.1));have HC := h_ h2;clear h2;go_wp2_with fail
  go_roundw
  case rel => exact ⟨m, mk kd t [] [e, x1.1], x1.2, by omega, HC, h_ HF.out.1, h_ ⟨HM.out.2.1, by have h := HM.out.1; rw [fl2, lsn] at h; have := HF.out.2.1; omega⟩, HP, HTB, HD, HBr, HBe⟩
  case measure =>
   rw [HP.out.len, HLEN.out];have h := HF.out.len.1;have h2 := rl_inc r1 HGR.out
   omega
end Go.Proofs.YtdpfgfkoboihcaaGreatDoor
namespace Go.Proofs.YtdpfgfkoboihcaaGreatDoor
open Go.RowKit Go.Extern.Stop Go.Stop Go.Extern
set_option maxRecDepth 100000
theorem gSize : Tryz.prog.globals.size = 9 := by kernel_rfl
theorem as_valueOfP (t : Addr) (w : World) : (ReflectliteValue.unpack (.iface 72 (.pointer (some t)))).run Tryz.prog w
  = .ok (.agg #[.pointer (some ⟨9, 72, none⟩), .pointer (some ⟨w.heap.size, 0, none⟩), .int .u64 150]) (w.alloc (.cells #[.pointer (some t)] 72)) := by kernel_rfl
theorem as_typeP (a : Addr) (w : World) : (ReflectliteValue.methodAny (ReflectliteValue.valueError "reflectlite.Value.Type" 0) (fun t _ _ _ => ReflectliteType.toType t) #[.agg #[.pointer (some ⟨9, 72, none⟩), .pointer (some a), .int .u64 150]]).run Tryz.prog w
  = .ok (.iface 165 (.agg #[.pointer (some ⟨9, 72, none⟩)])) w := by kernel_rfl
theorem as_methodKind (h : Value) (w : World) : (Go.method 373 165 (.agg #[h]) "Kind").run Tryz.prog w = .ok (191, h) w := by kernel_rfl
theorem as_kindP (w : World) : ((ReflectliteType.abiMethod fun t => (fun a : Nat => Value.int IntKind.u8 (a : Int)) <$> Rtype.kind t) #[.pointer (some ⟨9, 72, none⟩)]).run Tryz.prog w = .ok (.int .u8 22) w := by kernel_rfl
theorem as_kindA (w : World) : ((ReflectliteType.abiMethod fun t => (fun a : Nat => Value.int IntKind.u8 (a : Int)) <$> Rtype.kind t) #[.pointer (some ⟨9, 70, none⟩)]).run Tryz.prog w = .ok (.int .u8 22) w := by kernel_rfl
theorem rlm (z : Sem Value) (f : TypeId -> Addr -> Nat -> Nat -> Sem Value) (v : Value) :
  ReflectliteValue.method z f #[v] = (do match <- ReflectliteValue.parts v with | none => z | some (t, a, fl) => f t a fl (fl % 32)) := rfl
theorem as_partsP (a : Addr) (w : World) : (ReflectliteValue.parts (.agg #[.pointer (some ⟨9, 72, none⟩), .pointer (some a), .int .u64 150])).run Tryz.prog w = .ok (some (72, a, 150)) w := by kernel_rfl
theorem as_isNilP (a p : Addr) (W : World) (ha : W.cell? a = some (.pointer (some p))) :
  (ReflectliteValue.method (ReflectliteValue.valueError "reflectlite.Value.IsNil" 0) ReflectliteValue.isNil #[.agg #[.pointer (some ⟨9, 72, none⟩), .pointer (some a), .int .u64 150]]).run Tryz.prog W = .ok (.bool false) W := by
 rw [rlm];simp only [Sem.run_bind, as_partsP, Result.andThen]
 simp [ReflectliteValue.isNil, loadVar, isAgg, underlying, Tryz.underlying72, ha, Result.andThen]
theorem as_methodElem (h : Value) (w : World) : (Go.method 373 165 (.agg #[h]) "Elem").run Tryz.prog w = .ok (204, .agg #[h]) w := by kernel_rfl
theorem as_methodImplements (h : Value) (w : World) : (Go.method 373 165 (.agg #[h]) "Implements").run Tryz.prog w = .ok (205, .agg #[h]) w := by kernel_rfl
theorem as_methodAssignableTo (h : Value) (w : World) : (Go.method 373 165 (.agg #[h]) "AssignableTo").run Tryz.prog w = .ok (202, .agg #[h]) w := by kernel_rfl
theorem as_elem27 (w : World) : (ReflectliteType.method ReflectliteType.elem #[.agg #[.pointer (some ⟨9, 72, none⟩)]]).run Tryz.prog w = .ok (.iface 165 (.agg #[.pointer (some ⟨9, 70, none⟩)])) w := by kernel_rfl
theorem as_implementsA (w : World) : (ReflectliteType.relation "Implements" ReflectliteType.implements_ #[.agg #[.pointer (some ⟨9, 70, none⟩)], .iface 165 (.agg #[.pointer (some ⟨9, 28, none⟩)])]).run Tryz.prog w = .ok (.bool true) w := by kernel_rfl
theorem as_typeOfA (v : Value) (w : World) : (ReflectliteType.typeOf #[.iface 70 v]).run Tryz.prog w = .ok (.iface 165 (.agg #[.pointer (some ⟨9, 70, none⟩)])) w := by kernel_rfl
theorem as_assignableA (w : World) : (ReflectliteType.relation "AssignableTo" ReflectliteType.assignableTo #[.agg #[.pointer (some ⟨9, 70, none⟩)], .iface 165 (.agg #[.pointer (some ⟨9, 70, none⟩)])]).run Tryz.prog w = .ok (.bool true) w := by kernel_rfl
theorem as_valueOfA (e : Addr) (w : World) : (ReflectliteValue.unpack (.iface 70 (.pointer (some e)))).run Tryz.prog w
  = .ok (.agg #[.pointer (some ⟨9, 70, none⟩), .pointer (some ⟨w.heap.size, 0, none⟩), .int .u64 150]) (w.alloc (.cells #[.pointer (some e)] 70)) := by kernel_rfl
theorem as_elemOf27 (w : World) : (Rtype.elem? 72).run Tryz.prog w = .ok (some 70) w := by kernel_rfl
theorem as_mkA (p : Addr) (w : World) : (ReflectliteValue.mk 70 p ReflectliteValue.flagAddr).run Tryz.prog w = .ok (.agg #[.pointer (some ⟨9, 70, none⟩), .pointer (some p), .int .u64 406]) w := by kernel_rfl
theorem as_elemV27 (a p : Addr) (W : World) (ha : W.cell? a = some (.pointer (some p))) :
  (ReflectliteValue.method (ReflectliteValue.valueError "reflectlite.Value.Elem" 0) ReflectliteValue.elem #[.agg #[.pointer (some ⟨9, 72, none⟩), .pointer (some a), .int .u64 150]]).run Tryz.prog W
   = .ok (.agg #[.pointer (some ⟨9, 70, none⟩), .pointer (some p), .int .u64 406]) W := by
 rw [rlm];simp only [Sem.run_bind, as_partsP, Result.andThen]
 simp [ReflectliteValue.elem, loadVar, isAgg, underlying, Tryz.underlying72, ha, Result.andThen, as_elemOf27, as_mkA]
theorem rls (v x : Value) : ReflectliteValue.set #[v, x] = (do
  let (some (dst, a, fl), some (src, b, _)) := (<- ReflectliteValue.parts v, <- ReflectliteValue.parts x)
   | unsupported (.noEntry "extern/(internal/reflectlite.Value).Set.zeroValue")
  if fl / ReflectliteValue.flagAddr % 2 == 0 then unsupported (.noEntry "extern/(internal/reflectlite.Value).Set.unaddressable")
  let val <- loadVar src b
  if <- Rtype.directlyAssignable dst src then storeVar dst a val
  else if <- Rtype.implements dst src then
   if (<- Rtype.kind src) == 20 then
    match val with
    | .nilIface => unsupported (.noEntry "extern/reflectlite: a nil value of one interface type handed on as a value of another")
    | _ => storeVar dst a val
   else storeVar dst a (.iface src val)
  else panicString ("reflectlite.Set: value of type " ++ (← Rtype.spelt src) ++ " is not assignable to type " ++ (← Rtype.spelt dst))
  pure (.tuple #[])) := rfl
theorem as_partsAa (a : Addr) (w : World) : (ReflectliteValue.parts (.agg #[.pointer (some ⟨9, 70, none⟩), .pointer (some a), .int .u64 406])).run Tryz.prog w = .ok (some (70, a, 406)) w := by kernel_rfl
theorem as_partsA (a : Addr) (w : World) : (ReflectliteValue.parts (.agg #[.pointer (some ⟨9, 70, none⟩), .pointer (some a), .int .u64 150])).run Tryz.prog w = .ok (some (70, a, 150)) w := by kernel_rfl
theorem as_directA (w : World) : (Rtype.directlyAssignable 70 70).run Tryz.prog w = .ok true w := by kernel_rfl
theorem as_setA (ta b e : Addr) (old : Value) (W : World) (hb : W.cell? b = some (.pointer (some e))) (ht : W.cell? ta = some old) (hf : W.frozen? ta = false) :
  (ReflectliteValue.set #[.agg #[.pointer (some ⟨9, 70, none⟩), .pointer (some ta), .int .u64 406], .agg #[.pointer (some ⟨9, 70, none⟩), .pointer (some b), .int .u64 150]]).run Tryz.prog W
   = .ok (.tuple #[]) (W.setCell ta (.pointer (some e))) := by
 rw [rls];simp only [Sem.run_bind, as_partsAa, as_partsA, Result.andThen]
 simp [ReflectliteValue.flagAddr, loadVar, isAgg, underlying, Tryz.underlying70, hb, Result.andThen, as_directA, storeVar, Value.cells, storeCells, Addr.add]
 rw [run_store Tryz.prog W ta _ _ (by rfl)]
 simp [ht, hf]
theorem as_hit (e t : Addr) (old : Value) (w : World) (hg : w.cell? ⟨0, 0, none⟩ = some (.iface 165 (.agg #[.pointer (some ⟨9, 28, none⟩)]))) (ht0 : w.cell? t = some old) (hf0 : w.frozen? t = false) :
  Calls Tryz.prog 31 #[.iface 70 (.pointer (some e)), .iface 72 (.pointer (some t))] w fun ev w' => ev = .returned (.bool true) /\ w' = ((((w.alloc (.cells #[.pointer (some t)] 72)).alloc (.cells #[.pointer (some ⟨9, 72, none⟩), .pointer (some ⟨w.heap.size, 0, none⟩), .int .u64 150] 122)).alloc (.cells #[.pointer (some ⟨9, 72, none⟩), .pointer (some ⟨w.heap.size, 0, none⟩), .int .u64 150] 122)).alloc (.cells #[.pointer (some e)] 70)).setCell t (.pointer (some e)) := by
 have h6 := @run_callFunc_extern Tryz.prog 57 _ (fun args => ReflectliteValue.unpack (args.getD 0 (.tuple #[]))) Tryz.func57 (by kernel_rfl) (by kernel_rfl) (by kernel_rfl) (by kernel_rfl);have h7 := @run_callFunc_extern Tryz.prog 58 _ (ReflectliteValue.methodAny (ReflectliteValue.valueError "reflectlite.Value.Type" 0) (fun t _ _ _ => ReflectliteType.toType t)) Tryz.func58 (by kernel_rfl) (by kernel_rfl) (by kernel_rfl) (by kernel_rfl);have h8 := @run_callFunc_extern Tryz.prog 59 _ (ReflectliteValue.method (ReflectliteValue.valueError "reflectlite.Value.IsNil" 0) ReflectliteValue.isNil) Tryz.func59 (by kernel_rfl) (by kernel_rfl) (by kernel_rfl) (by kernel_rfl);have h27 := @run_callFunc_extern Tryz.prog 191 _ (ReflectliteType.abiMethod fun t => do pure (.int .u8 (← Rtype.kind t))) Tryz.func191 (by kernel_rfl) (by kernel_rfl) (by kernel_rfl) (by kernel_rfl)
 have h37 := @run_callFunc_extern Tryz.prog 204 _ (ReflectliteType.method ReflectliteType.elem) Tryz.func204 (by kernel_rfl) (by kernel_rfl) (by kernel_rfl) (by kernel_rfl);have h38 := @run_callFunc_extern Tryz.prog 205 _ (ReflectliteType.relation "Implements" ReflectliteType.implements_) Tryz.func205 (by kernel_rfl) (by kernel_rfl) (by kernel_rfl) (by kernel_rfl);have h10 := @run_callFunc_extern Tryz.prog 61 _ ReflectliteType.typeOf Tryz.func61 (by kernel_rfl) (by kernel_rfl) (by kernel_rfl) (by kernel_rfl);have h35 := @run_callFunc_extern Tryz.prog 202 _ (ReflectliteType.relation "AssignableTo" ReflectliteType.assignableTo) Tryz.func202 (by kernel_rfl) (by kernel_rfl) (by kernel_rfl) (by kernel_rfl)
 have h11 := @run_callFunc_extern Tryz.prog 91 _ (ReflectliteValue.method (ReflectliteValue.valueError "reflectlite.Value.Elem" 0) ReflectliteValue.elem) Tryz.func91 (by kernel_rfl) (by kernel_rfl) (by kernel_rfl) (by kernel_rfl);have h12 := @run_callFunc_extern Tryz.prog 92 _ ReflectliteValue.set Tryz.func92 (by kernel_rfl) (by kernel_rfl) (by kernel_rfl) (by kernel_rfl);have tO := as_typeOfA;have mA := as_methodAssignableTo;have a25 := as_assignableA;have v25 := as_valueOfA;have f6 := as_valueOfP;have f7 := as_typeP;have mK := as_methodKind;have mE := as_methodElem;have mI := as_methodImplements;have k27 := as_kindP;have k25 := as_kindA;have e27 := as_elem27;have i25 := as_implementsA
 have n8 := as_isNilP ⟨w.heap.size, 0, none⟩ t ((w.alloc (.cells #[.pointer (some t)] 72)).alloc (.cells #[.pointer (some ⟨9, 72, none⟩), .pointer (some ⟨w.heap.size, 0, none⟩), .int .u64 150] 122)) (by simp)
 have hlt : 0 < w.heap.size := by
  rcases Nat.eq_zero_or_pos w.heap.size with h0 | h
  ·simp [World.cell?, h0] at hg
  exact h
 have hg2 : ((w.alloc (.cells #[.pointer (some t)] 72)).alloc (.cells #[.pointer (some ⟨9, 72, none⟩), .pointer (some ⟨w.heap.size, 0, none⟩), .int .u64 150] 122)).cell? ⟨0, 0, none⟩ = some (.iface 165 (.agg #[.pointer (some ⟨9, 28, none⟩)])) := by
  rw [World.cell?_alloc_lt _ _ ⟨0, 0, none⟩ (by simp), World.cell?_alloc_lt _ _ ⟨0, 0, none⟩ hlt]; exact hg
 have htl : t.block < w.heap.size := by
  rcases Nat.lt_or_ge t.block w.heap.size with h | h
  ·exact h
  simp [World.cell?, Array.getElem?_eq_none h] at ht0
 have el := as_elemV27 ⟨w.heap.size, 0, none⟩ t (((w.alloc (.cells #[.pointer (some t)] 72)).alloc (.cells #[.pointer (some ⟨9, 72, none⟩), .pointer (some ⟨w.heap.size, 0, none⟩), .int .u64 150] 122)).alloc (.cells #[.pointer (some ⟨9, 72, none⟩), .pointer (some ⟨w.heap.size, 0, none⟩), .int .u64 150] 122)) (by rw [World.cell?_alloc_lt _ _ ⟨w.heap.size, 0, none⟩ (by simp; omega)]; simp)
 have st := as_setA t ⟨w.heap.size + 1 + 1 + 1, 0, none⟩ e old ((((w.alloc (.cells #[.pointer (some t)] 72)).alloc (.cells #[.pointer (some ⟨9, 72, none⟩), .pointer (some ⟨w.heap.size, 0, none⟩), .int .u64 150] 122)).alloc (.cells #[.pointer (some ⟨9, 72, none⟩), .pointer (some ⟨w.heap.size, 0, none⟩), .int .u64 150] 122)).alloc (.cells #[.pointer (some e)] 70))
  (by rw [World.cell?_alloc_at _ _ _ _ (by simp)]; rfl)
  (by rw [World.cell?_alloc_lt _ _ t (by simp; omega), World.cell?_alloc_lt _ _ t (by simp; omega), World.cell?_alloc_lt _ _ t (by simp; omega), World.cell?_alloc_lt _ _ t htl]; exact ht0)
  (by rw [World.frozen?_alloc_old _ _ t (by simp; omega), World.frozen?_alloc_old _ _ t (by simp; omega), World.frozen?_alloc_old _ _ t (by simp; omega), World.frozen?_alloc_old _ _ t (Nat.ne_of_lt htl)]; exact hf0)
 go_enter Tryz.func31, Tryz.ntmps31
 go_wp2
 refine wp_loop_rounds 1 ?_;rw [rounds_succ]
 go_wp2
 go_ret
 exact ⟨rfl, rfl⟩
theorem is_typeOf (v : Value) (w : World) : (Extern.ReflectliteType.typeOf #[.iface 33 v]).run Tryz.prog w = .ok (.iface 165 (.agg #[.pointer (some ⟨9, 33, none⟩)])) w := by kernel_rfl
def cmpEntry : Array Value → Sem Value := Extern.ReflectliteType.method fun t => do Extern.Rtype.noPackHeld "Comparable" t; pure (.bool (← typeInfo t).comparable)
theorem is_comparable (w : World) : (cmpEntry #[.agg #[.pointer (some ⟨9, 33, none⟩)]]).run Tryz.prog w = .ok (.bool true) w := by kernel_rfl
theorem is_methodComparable (v : Value) (w : World) : (Go.method 373 165 v "Comparable").run Tryz.prog w = .ok (203, v) w := by kernel_rfl
theorem is_comp : (Tryz.prog.info? 33).map (·.comparable) = some true := by kernel_rfl
theorem is_noIsA (v : Value) (xT : TypeId) (w : World) : (Instr.typeAssert (.iface 70 v) xT 176 true).run Tryz.prog w = .ok (.tuple #[.nilIface, .bool false]) w := run_typeAssert_lacksB Tryz.underlying176 (by kernel_rfl) (by kernel_rfl) v xT w
theorem is_hasUnwrapA (v : Value) (xT : TypeId) (w : World) : (Instr.typeAssert (.iface 70 v) xT 172 true).run Tryz.prog w = .ok (.tuple #[.iface 70 v, .bool true]) w := run_typeAssert_hasB Tryz.underlying172 (by kernel_rfl) v xT w
theorem is_methodUnwrap (v : Value) (w : World) : (Go.method 373 70 v "Unwrap").run Tryz.prog w = .ok (196, v) w := by kernel_rfl
theorem is_noIsE (v : Value) (xT : TypeId) (w : World) : (Instr.typeAssert (.iface 33 v) xT 176 true).run Tryz.prog w = .ok (.tuple #[.nilIface, .bool false]) w := run_typeAssert_lacksB Tryz.underlying176 (by kernel_rfl) (by kernel_rfl) v xT w
theorem is_noUnwrapE (v : Value) (xT : TypeId) (w : World) : (Instr.typeAssert (.iface 33 v) xT 172 true).run Tryz.prog w = .ok (.tuple #[.nilIface, .bool false]) w := run_typeAssert_lacksB Tryz.underlying172 (by kernel_rfl) (by kernel_rfl) v xT w
theorem is_noUnwrapsE (v : Value) (xT : TypeId) (w : World) : (Instr.typeAssert (.iface 33 v) xT 173 true).run Tryz.prog w = .ok (.tuple #[.nilIface, .bool false]) w := run_typeAssert_lacksB Tryz.underlying173 (by kernel_rfl) (by kernel_rfl) v xT w
theorem is_yes (q : Nat) (p : Nat × Nat) (c k : Int) (w : World) (hA : AtB w q p (.iface 33 (.int .i64 c))) (hck : (c == k) = true) :
  Calls Tryz.prog 32 #[.iface 70 (.pointer (some ⟨q, 0, none⟩)), .iface 33 (.int .i64 k)] w fun e w' => e = .returned (.bool true) /\ w' = w := by
 have h8 := @run_callFunc_extern Tryz.prog 61 _ Extern.ReflectliteType.typeOf Tryz.func61 (by kernel_rfl) (by kernel_rfl) (by kernel_rfl) (by kernel_rfl);have h32 := @run_callFunc_extern Tryz.prog 203 _ cmpEntry Tryz.func203 (by kernel_rfl) (by kernel_rfl) (by kernel_rfl) (by kernel_rfl);have tT := is_typeOf;have cT := is_comparable;have mR := is_methodComparable;have nA := is_noIsA;have uA := is_hasUnwrapA;have mU := is_methodUnwrap;have nE := is_noIsE;have uE := is_noUnwrapE;have vE := is_noUnwrapsE;have heq := Lib.run_eql_iface_int (P := Tryz.prog) (k := .i64) w c k Tryz.underlying28 is_comp Tryz.underlying33;rw [hck] at heq;have hty := run_eql_iface_types (P := Tryz.prog) 70 33 (.pointer (some ⟨q, 0, none⟩)) (.int .i64 k) Tryz.underlying28 (by decide) w;have c2 := cell_at hA 2 rfl;clear hck;go_enter Tryz.func32, Tryz.ntmps32
 go_wp2
 refine wp_loop_rounds 2 ?_;rw [rounds_succ]
 go_wp2
 rw [rounds_succ]
 go_wp2
 go_ret
 exact ⟨rfl, rfl⟩
theorem is_no (q : Nat) (p : Nat × Nat) (c k : Int) (w : World) (hA : AtB w q p (.iface 33 (.int .i64 c))) (hck : (c == k) = false) :
  Calls Tryz.prog 32 #[.iface 70 (.pointer (some ⟨q, 0, none⟩)), .iface 33 (.int .i64 k)] w fun e w' => e = .returned (.bool false) /\ w' = w := by
 have h8 := @run_callFunc_extern Tryz.prog 61 _ Extern.ReflectliteType.typeOf Tryz.func61 (by kernel_rfl) (by kernel_rfl) (by kernel_rfl) (by kernel_rfl);have h32 := @run_callFunc_extern Tryz.prog 203 _ cmpEntry Tryz.func203 (by kernel_rfl) (by kernel_rfl) (by kernel_rfl) (by kernel_rfl);have tT := is_typeOf;have cT := is_comparable;have mR := is_methodComparable;have nA := is_noIsA;have uA := is_hasUnwrapA;have mU := is_methodUnwrap;have nE := is_noIsE;have uE := is_noUnwrapE;have vE := is_noUnwrapsE;have heq := Lib.run_eql_iface_int (P := Tryz.prog) (k := .i64) w c k Tryz.underlying28 is_comp Tryz.underlying33;rw [hck] at heq;have hty := run_eql_iface_types (P := Tryz.prog) 70 33 (.pointer (some ⟨q, 0, none⟩)) (.int .i64 k) Tryz.underlying28 (by decide) w;have c2 := cell_at hA 2 rfl;clear hck;go_enter Tryz.func32, Tryz.ntmps32
 go_wp2
 refine wp_loop_rounds 2 ?_;rw [rounds_succ]
 go_wp2
 rw [rounds_succ]
 go_wp2
 go_ret
 exact ⟨rfl, rfl⟩
def ErrType (w : World) : Prop := w.cell? ⟨0, 0, none⟩ = some (.iface 165 (.agg #[.pointer (some ⟨9, 28, none⟩)]))
theorem ErrType.lt {w : World} (h : ErrType w) : 0 < w.heap.size := by
 rcases Nat.eq_zero_or_pos w.heap.size with h0 | h'
 ·unfold ErrType at h; simp [World.cell?, h0] at h
 exact h'
theorem ErrType.below {w w' : World} (h : ErrType w) (hb : Below w.heap.size w w') : ErrType w' := (hb.cell (p := ⟨0, 0, none⟩) h.lt).trans h
theorem as_at (q t : Nat) (w : World) (hg : ErrType w) (ht : w.heap[t]? = some (.cells #[.pointer none] 70 (0, 0))) :
  Calls Tryz.prog 31 #[.iface 70 (.pointer (some ⟨q, 0, none⟩)), .iface 72 (.pointer (some ⟨t, 0, none⟩))] w fun e w' => e = .returned (.bool true) /\ w'.heap[t]? = some (.cells #[.pointer (some ⟨q, 0, none⟩)] 70 (0, 0)) /\ w.grownBy w' (some t) := by
 refine (as_hit ⟨q, 0, none⟩ ⟨t, 0, none⟩ (.pointer none) w hg (cell_at ht 0 rfl) (froz_at ht 0)).mono ?_;rintro e w' ⟨rfl, rfl⟩;have hlt := lt_of_block ht;refine ⟨rfl, ?_, ?_⟩
 ·rw [heap_setCell_same _ t 0 _ _ _ (by rw [Below.heap_alloc _ _ _ (by simp; omega), Below.heap_alloc _ _ _ (by simp; omega), Below.heap_alloc _ _ _ (by simp; omega), Below.heap_alloc _ _ _ hlt]; exact ht)]
  rfl
 exact grown_tr (grown_tr (grown_tr (grown_tr (alloc_grown _ _ _) (alloc_grown _ _ _)) (alloc_grown _ _ _)) (alloc_grown _ _ _)) (grown_set _ t 0 _)
theorem fault_one (q : Nat) (p : Nat × Nat) (w : World) (hg : ErrType w) (hA : AtB w q p (.iface 33 (.int .i64 1))) :
  Calls Tryz.prog 9 #[.iface 70 (.pointer (some ⟨q, 0, none⟩))] w fun e w' => e = .returned (.tuple #[.int .i64 1, .int .i64 (p.1 : Nat), .int .i64 (p.2 : Nat)]) /\ Below w.heap.size w w' := by
 have HG := h_ hg;have HA := h_ hA;clear hg hA;go_enter Tryz.func9, Tryz.ntmps9
 go_wp2_with fail
 refine (as_at q w.heap.size _ (HG.out.below ((Below.refl _ _).alloc (Nat.le_refl _) _)) (made_at w _ _ rfl)).mono ?_;rintro e w2 ⟨rfl, ht, hgr⟩
 have hA2 : AtB w2 q p (.iface 33 (.int .i64 1)) := by
  have h := HA.out;have hq := lt_of_block h;unfold AtB at h ⊢;rw [hgr.block _ (by simp; omega) (fun e => by injection e with e; omega), Below.heap_alloc _ _ _ hq]; exact h
 have HB : Hid (Below w.heap.size w w2) := h_ (((Below.refl _ _).alloc (Nat.le_refl _) _).trans (grown_below hgr (by simp) (Nat.le_refl _)));have t0 := cell_at ht 0 rfl;have a0 := cell_at hA2 0 rfl;have a1 := cell_at hA2 1 rfl;have HA2 := h_ hA2;clear ht hgr hA2;go_wp2_with fail
 refine wp_loop_rounds 1 ?_;rw [rounds_succ];go_wp2_with fail
 refine (is_yes q p 1 1 w2 HA2.out rfl).mono ?_;rintro e wx ⟨rfl, hx⟩;obtain rfl := hx.symm;clear hx;go_wp2_with fail
 go_quiet (fail)
 go_wp2
 go_ret3
 exact ⟨rfl, HB.out.os, HB.out.tape, HB.out.output, HB.out.size, HB.out.block⟩
theorem fault_two (q : Nat) (p : Nat × Nat) (w : World) (hg : ErrType w) (hA : AtB w q p (.iface 33 (.int .i64 2))) :
  Calls Tryz.prog 9 #[.iface 70 (.pointer (some ⟨q, 0, none⟩))] w fun e w' => e = .returned (.tuple #[.int .i64 2, .int .i64 (p.1 : Nat), .int .i64 (p.2 : Nat)]) /\ Below w.heap.size w w' := by
 have HG := h_ hg;have HA := h_ hA;clear hg hA;go_enter Tryz.func9, Tryz.ntmps9
 go_wp2_with fail
 refine (as_at q w.heap.size _ (HG.out.below ((Below.refl _ _).alloc (Nat.le_refl _) _)) (made_at w _ _ rfl)).mono ?_;rintro e w2 ⟨rfl, ht, hgr⟩
 have hA2 : AtB w2 q p (.iface 33 (.int .i64 2)) := by
  have h := HA.out;have hq := lt_of_block h;unfold AtB at h ⊢;rw [hgr.block _ (by simp; omega) (fun e => by injection e with e; omega), Below.heap_alloc _ _ _ hq]; exact h
 have HB : Hid (Below w.heap.size w w2) := h_ (((Below.refl _ _).alloc (Nat.le_refl _) _).trans (grown_below hgr (by simp) (Nat.le_refl _)));have t0 := cell_at ht 0 rfl;have a0 := cell_at hA2 0 rfl;have a1 := cell_at hA2 1 rfl;have HA2 := h_ hA2;clear ht hgr hA2;go_wp2_with fail
 refine wp_loop_rounds 2 ?_;rw [rounds_succ];go_wp2_with fail
 refine (is_no q p 2 1 w2 HA2.out rfl).mono ?_;rintro e wx ⟨rfl, hx⟩;obtain rfl := hx.symm;clear hx;go_wp2_with fail
 rw [rounds_succ];go_wp2_with fail
 refine (is_yes q p 2 2 w2 HA2.out rfl).mono ?_;rintro e wx ⟨rfl, hx⟩;obtain rfl := hx.symm;clear hx;go_wp2_with fail
 go_quiet (fail)
 go_wp2
 go_ret3
 exact ⟨rfl, HB.out.os, HB.out.tape, HB.out.output, HB.out.size, HB.out.block⟩
theorem fault_at (q : Nat) (p : Nat × Nat) (c : Nat) (hc : c = 1 \/ c = 2) (w : World) (hg : ErrType w) (hA : AtB w q p (.iface 33 (.int .i64 (c : Nat)))) :
  Calls Tryz.prog 9 #[.iface 70 (.pointer (some ⟨q, 0, none⟩))] w fun e w' => e = .returned (.tuple #[.int .i64 (c : Nat), .int .i64 (p.1 : Nat), .int .i64 (p.2 : Nat)]) /\ Below w.heap.size w w' := by
 rcases hc with rfl | rfl
 ·exact fault_one q p w hg hA
 exact fault_two q p w hg hA
end Go.Proofs.YtdpfgfkoboihcaaGreatDoor
namespace Go.Proofs.YtdpfgfkoboihcaaGreatDoor
open Go.RowKit
set_option maxRecDepth 100000
def sgs : List Bs := [[58, 58], [45, 62], [38, 38], [124, 124], [91, 93], [60, 62], [60, 61], [62, 61], [40], [41], [123], [125], [44], [58], [59], [124], [61], [60], [62], [43], [45], [42], [47], [37]]
def sgF (l : Bs) : Option Bs := sgs.find? (·.isPrefixOf l)
def olen : Option Bs -> Nat | some p => p.length | none => 0
theorem find_len (ps : List Bs) (l : Bs) (n : Nat) (hn : ∀ p ∈ ps, p.length = n) : olen (ps.find? (·.isPrefixOf l)) = if ps.any (·.isPrefixOf l) then n else 0 := by
 induction ps with
 | nil => rfl
 | cons p ps ih =>
  cases h : p.isPrefixOf l with
  | true => simp [List.find?, h, olen, hn p (by simp)]
  | false => simp only [List.find?, h, List.any_cons, Bool.false_or]; exact ih (fun q hq => hn q (by simp [hq]))
theorem any_sgl (a : UInt8) (r : Bs) : (List.any [[40], [41], [123], [125], [44], [58], [59], [124], [61], [60], [62], [43], [45], [42], [47], [37]] fun x : Bs => x.isPrefixOf (a :: r)) = sglB a := by
 have hc : ∀ x : UInt8, (x == a) = (a == x) := fun x => by rw [Bool.eq_iff_iff, beq_iff_eq, beq_iff_eq]; exact ⟨Eq.symm, Eq.symm⟩
 simp only [List.any_cons, List.any_nil, List.isPrefixOf, hc, Bool.and_true, Bool.or_false, sglB, Bool.or_assoc]
theorem any_pair (a b : UInt8) (r : Bs) : (List.any [[58, 58], [45, 62], [38, 38], [124, 124], [91, 93], [60, 62], [60, 61], [62, 61]] fun x : Bs => x.isPrefixOf (a :: b :: r)) = pairB a b := by
 have hc : ∀ x : UInt8, (x == a) = (a == x) := fun x => by rw [Bool.eq_iff_iff, beq_iff_eq, beq_iff_eq]; exact ⟨Eq.symm, Eq.symm⟩
 have hd : ∀ x : UInt8, (x == b) = (b == x) := fun x => by rw [Bool.eq_iff_iff, beq_iff_eq, beq_iff_eq]; exact ⟨Eq.symm, Eq.symm⟩
 simp only [List.any_cons, List.any_nil, List.isPrefixOf, hc, hd, Bool.and_true, Bool.or_false, pairB, Bool.or_assoc]
theorem any_short (a : UInt8) : (List.any [[58, 58], [45, 62], [38, 38], [124, 124], [91, 93], [60, 62], [60, 61], [62, 61]] fun x : Bs => x.isPrefixOf [a]) = false := by
 simp [List.isPrefixOf]
theorem sgF_len (l : Bs) : olen (sgF l) = sgn l := by
 have e : sgs = [[58, 58], [45, 62], [38, 38], [124, 124], [91, 93], [60, 62], [60, 61], [62, 61]] ++ [[40], [41], [123], [125], [44], [58], [59], [124], [61], [60], [62], [43], [45], [42], [47], [37]] := rfl;have h2 := find_len [[58, 58], [45, 62], [38, 38], [124, 124], [91, 93], [60, 62], [60, 61], [62, 61]] l 2 (by simp);have h1 := find_len [[40], [41], [123], [125], [44], [58], [59], [124], [61], [60], [62], [43], [45], [42], [47], [37]] l 1 (by simp);unfold sgF;rw [e, List.find?_append]
 match l, h1, h2 with
 | [], _, _ => rfl
 | [a], h1, h2 =>
  rw [any_short] at h2;rw [any_sgl] at h1
  have hn : List.find? (fun x : Bs => x.isPrefixOf [a]) [[58, 58], [45, 62], [38, 38], [124, 124], [91, 93], [60, 62], [60, 61], [62, 61]] = none := by
   have := any_short a;rw [List.any_eq_false] at this;exact List.find?_eq_none.2 (fun x hx => this x hx)
  rw [hn, Option.none_or, h1]; rfl
 | a :: b :: r, h1, h2 =>
  rw [any_pair] at h2;rw [any_sgl] at h1
  by_cases hp : pairB a b = true
  ·rw [if_pos hp] at h2
   cases hf : List.find? (fun x : Bs => x.isPrefixOf (a :: b :: r)) [[58, 58], [45, 62], [38, 38], [124, 124], [91, 93], [60, 62], [60, 61], [62, 61]] with
   | none => rw [hf] at h2; cases h2
   | some p => rw [hf] at h2; rw [Option.some_or, h2]; simp [sgn, hp]
  have hn : List.find? (fun x : Bs => x.isPrefixOf (a :: b :: r)) [[58, 58], [45, 62], [38, 38], [124, 124], [91, 93], [60, 62], [60, 61], [62, 61]] = none := by
   have := any_pair a b r;rw [show pairB a b = false by simpa using hp, List.any_eq_false] at this;exact List.find?_eq_none.2 (fun x hx => this x hx)
  rw [hn, Option.none_or, h1]; simp [sgn, hp]
theorem prefix_take (p l : Bs) : p.isPrefixOf l = (decide (p.length <= l.length) && (l.take p.length == p)) := by
 rw [Bool.eq_iff_iff, List.isPrefixOf_iff_prefix, Bool.and_eq_true, decide_eq_true_iff, beq_iff_eq, List.prefix_iff_eq_take]
 constructor
 ·intro h; exact ⟨by have := congrArg List.length h; simp at this; omega, h.symm⟩
 intro h; exact h.2.symm
theorem sgs_pos : ∀ p ∈ sgs, p.length = 1 \/ p.length = 2 := by simp [sgs]
theorem sgF_step {l : Bs} {k : Nat} (hk : k < sgs.length) (h : sgF l = (sgs.drop k).find? (·.isPrefixOf l)) (hp : (sgs[k]).isPrefixOf l = false) : sgF l = (sgs.drop (k + 1)).find? (·.isPrefixOf l) := by
 rw [h, List.drop_eq_getElem_cons hk, List.find?_cons, hp]
theorem sgF_hit {l : Bs} {k : Nat} (hk : k < sgs.length) (h : sgF l = (sgs.drop k).find? (·.isPrefixOf l)) (hp : (sgs[k]).isPrefixOf l = true) : sgF l = some sgs[k] := by
 rw [h, List.drop_eq_getElem_cons hk, List.find?_cons, hp]
theorem sgF_end {l : Bs} (h : sgF l = (sgs.drop 24).find? (·.isPrefixOf l)) : sgF l = none := by
 rw [h]; rfl
theorem isW_step {l : Bs} {k : Nat} (hk : k < wds.length) (h : isW l = (wds.drop k).contains l) (hp : (wds[k] == l) = false) : isW l = (wds.drop (k + 1)).contains l := by
 rw [h, List.drop_eq_getElem_cons hk, List.contains_cons];have : (l == wds[k]) = false := by rw [beq_eq_false_iff_ne] at hp ⊢; exact fun e => hp e.symm
 rw [this]; rfl
theorem isW_hit {l : Bs} {k : Nat} (hk : k < wds.length) (hp : (wds[k] == l) = true) : isW l = true := by
 rw [beq_iff_eq] at hp; rw [<- hp]; exact isW_mem (List.getElem_mem hk)
theorem isW_end {l : Bs} (h : isW l = (wds.drop 20).contains l) : isW l = false := by rw [h]; rfl
theorem begins_any (c : UInt8) (w : World) :
  Calls Tryz.prog 87 #[.int .u8 (c.toNat : Int)] w fun e w' => e = .returned (.bool (isL c)) /\ w' = w := by
 rw [isL_int];go_enter Tryz.func87, Tryz.ntmps87
 go_wp2
 all_goals (go_ret; refine ⟨ret_bool ?_, rfl⟩; (first | (simp [*]; done) | (rw [Bool.eq_iff_iff]; simp; omega)))
theorem word_any (l : Bs) (w : World) :
  Calls Tryz.prog 88 #[.string ⟨l.toArray⟩] w fun e w' => e = .returned (.bool (isW l)) /\ Below w.heap.size w w' := by
 go_enter Tryz.func88, Tryz.ntmps88
 go_wp2_with fail
 obtain ⟨W0, hW⟩ : ∃ W0, W0 = w.alloc (.cells #[.string ⟨#[102, 117, 110]⟩, .string ⟨#[113, 117, 97, 108, 105, 102]⟩, .string ⟨#[108, 101, 116]⟩, .string ⟨#[105, 110]⟩, .string ⟨#[105, 102]⟩, .string ⟨#[116, 104, 101, 110]⟩, .string ⟨#[101, 108, 115, 101]⟩, .string ⟨#[109, 97, 116, 99, 104]⟩, .string ⟨#[119, 105, 116, 104]⟩, .string ⟨#[97, 115, 115, 101, 114, 116]⟩, .string ⟨#[110, 111, 116]⟩, .string ⟨#[116, 114, 117, 101]⟩, .string ⟨#[102, 97, 108, 115, 101]⟩, .string ⟨#[105, 110, 116]⟩, .string ⟨#[98, 111, 111, 108]⟩, .string ⟨#[108, 105, 115, 116]⟩, .string ⟨#[108, 101, 110]⟩, .string ⟨#[104, 100]⟩, .string ⟨#[116, 108]⟩, .string ⟨#[118]⟩] 9) := ⟨_, rfl⟩
 have hb : Below w.heap.size w W0 := by rw [hW]; exact (Below.refl _ _).alloc (Nat.le_refl _) _
 have hB : W0.heap[w.heap.size]? = some (.cells (wds.map fun b => Value.string ⟨b.toArray⟩).toArray 9 (0, 0)) := by rw [hW]; exact made_at w _ _ rfl
 have hc : ∀ k (hk : k < wds.length), W0.cell? ⟨w.heap.size, k, none⟩ = some (.string ⟨(wds[k]).toArray⟩) := fun k hk => cell_at hB k (by simp [hk])
 rw [<- hW];have HC := h_ hc;have HB := h_ hb;clear hW hB hc hb
 go_loopw [7] (fun i wr => ∃ k : Nat, i = .int .i64 k /\ k <= 20 /\ Hid (isW l = (wds.drop k).contains l) /\ wr = W0) (fun i _ => 20 - (intOf i).toNat)
 case atStart => exact ⟨0, rfl, Nat.zero_le _, h_ rfl, rfl⟩
 case round =>
  obtain ⟨k, rfl, hk, HI, rfl⟩ := hrel
  by_cases hlt : k < 20
  ·have hkl : k < wds.length := hlt;have c0 := HC.out k hkl;obtain ⟨p, hp⟩ : ∃ p, p = wds[k] := ⟨_, rfl⟩
   rw [<- hp] at c0
   cases hq : (p == l)
   ·have HS : Hid (isW l = (wds.drop (k + 1)).contains l) := h_ (isW_step hkl HI.out (by rw [<- hp]; exact hq));clear hp
    go_wp2
    go_roundw
    case rel => exact ⟨k + 1, by go_num, by omega, HS, by trivial⟩
    case measure => simp [intOf]; omega
   have HS := h_ (isW_hit hkl (by rw [<- hp]; exact hq));clear hp
   go_wp2
   go_ret
   exact ⟨ret_bool HS.out.symm, HB.out⟩
  have hkn : k = 20 := by omega
  subst hkn;have HS := h_ (isW_end HI.out)
  go_wp2
  go_ret
  exact ⟨ret_bool HS.out.symm, HB.out⟩
def nres (m : Meas) : Value := match m with
 | .ok k n => .tuple #[.int .i64 (n : Nat), .int .i64 (k : Nat), .int .i64 0]
 | .bad e => .tuple #[.int .i64 0, .int .i64 0, .int .i64 (e : Nat)]
theorem digit_ways (c : UInt8) : (isD c = true /\ 48 <= c.toNat /\ c.toNat <= 57) \/ (isD c = false /\ c.toNat < 48) \/ (isD c = false /\ 57 < c.toNat /\ 48 <= c.toNat) := by
 rw [isD_int]
 by_cases h1 : c.toNat < 48
 ·exact .inr (.inl ⟨by simp; omega, h1⟩)
 by_cases h2 : c.toNat <= 57
 ·exact .inl ⟨by simp; omega, by omega, h2⟩
 ·exact .inr (.inr ⟨by simp; omega, by omega, by omega⟩)
theorem next_name (a : UInt8) (r : Bs) (ha : isL a = true) (hl : (a :: r).length <= 1000000000) (w : World) :
  Calls Tryz.prog 55 #[.string ⟨(a :: r).toArray⟩] w fun e w' => e = .returned (nres (meas (a :: r))) /\ Below w.heap.size w w' := by
 obtain ⟨l, hL⟩ : ∃ l, l = a :: r := ⟨_, rfl⟩
 have HM := h_ (show meas l = if 40 < spn isLD l then .bad 2 else if isW (l.take (spn isLD l)) then .ok 3 (spn isLD l) else .ok 0 (spn isLD l) by rw [hL, meas_cons, if_pos ha]);have hp : 0 < l.length := by rw [hL]; simp
 have h0 : (⟨l.toArray⟩ : ByteArray)[0]'hp = a := by subst hL; rfl
 rw [<- hL] at hl ⊢;clear hL;have HA := h_ ha;clear ha;have hsz : (⟨l.toArray⟩ : ByteArray).size = l.length := rfl;go_enter Tryz.func55, Tryz.ntmps55
 go_wp2_with fail
 refine (begins_any a _).mono ?_;rw [HA.out];rintro e w' ⟨rfl, hx⟩;obtain rfl := hx.symm;clear hx h0;go_wp2_with fail
 go_loopw [5] (fun i wr => ∃ k : Nat, i = .int .i64 k /\ k <= l.length /\ Hid (spn isLD l = k + spn isLD (l.drop k)) /\ wr = w) (fun i _ => l.length - (intOf i).toNat)
 case atStart => exact ⟨0, rfl, Nat.zero_le _, h_ (by simp), rfl⟩
 case round =>
  obtain ⟨k, rfl, hk, HS, hx⟩ := hrel;obtain rfl := hx.symm;clear hx
  by_cases hlt : k < l.length
  ·cases hp1 : isL ((⟨l.toArray⟩ : ByteArray)[k]'hlt)
   ·rcases digit_ways ((⟨l.toArray⟩ : ByteArray)[k]'hlt) with ⟨hd, h1, h2⟩ | ⟨hd, h1⟩ | ⟨hd, h1, h2⟩
    ·have HS1 := h_ (spn_step (p := isLD) hlt (show isLD ((⟨l.toArray⟩ : ByteArray)[k]'hlt) = true by unfold isLD; rw [hp1, hd]; rfl));have HP := h_ hp1;clear hd hp1;go_wp2_with (go_at_call 87; refine (begins_any _ _).mono ?_; rw [HP.out]; rintro e w' ⟨rfl, rfl⟩)
     go_roundw
     case rel => exact ⟨k + 1, by go_num, by omega, h_ (by rw [HS.out, HS1.out]; omega), by trivial⟩
     case measure => simp [intOf]; omega
    all_goals
     have HN : Hid (spn isLD l = k) := h_ (by rw [HS.out, spn_stop (p := isLD) hlt (show isLD ((⟨l.toArray⟩ : ByteArray)[k]'hlt) = false by unfold isLD; rw [hp1, hd]; rfl)]; rfl);have HP := h_ hp1;clear hd hp1
     by_cases h40 : 40 < k
     ·have H2 := h_ (show meas l = .bad 2 by rw [HM.out, HN.out, if_pos h40]);go_wp2_with (go_at_call 87; refine (begins_any _ _).mono ?_; rw [HP.out]; rintro e w' ⟨rfl, rfl⟩)
      go_ret3
      exact ⟨by rw [H2.out]; rfl, Below.refl _ _⟩
     have h40' : k <= 40 := by omega
     have HT := h_ (extract_take l k)
     cases hw : isW (l.take k)
     all_goals
      have HM2 := HM.out;rw [HN.out, if_neg h40, hw] at HM2;have H2 := h_ HM2;have HW := h_ hw;clear hw HM2;go_wp2_with (first | (go_at_call 87; refine (begins_any _ _).mono ?_; rw [HP.out]; rintro e w' ⟨rfl, rfl⟩) | (go_at_call 88; rw [HT.out]; refine (word_any _ _).mono ?_; rw [HW.out]; rintro e w' ⟨rfl, hb⟩; have HB := h_ hb; clear hb))
      go_ret3
      exact ⟨by rw [H2.out]; rfl, HB.out⟩
   have HS1 := h_ (spn_step (p := isLD) hlt (show isLD ((⟨l.toArray⟩ : ByteArray)[k]'hlt) = true by unfold isLD; rw [hp1]; rfl));have HP := h_ hp1;clear hp1;go_wp2_with (go_at_call 87; refine (begins_any _ _).mono ?_; rw [HP.out]; rintro e w' ⟨rfl, rfl⟩)
   go_roundw
   case rel => exact ⟨k + 1, by go_num, by omega, h_ (by rw [HS.out, HS1.out]; omega), by trivial⟩
   case measure => simp [intOf]; omega
  have hk0 : l.length <= k := by omega
  have HN : Hid (spn isLD l = k) := h_ (by rw [HS.out, spn_end hk0]; rfl)
  by_cases h40 : 40 < k
  ·have H2 := h_ (show meas l = .bad 2 by rw [HM.out, HN.out, if_pos h40]);go_wp2_with fail
   go_ret3
   exact ⟨by rw [H2.out]; rfl, Below.refl _ _⟩
  have h40' : k <= 40 := by omega
  have HT := h_ (extract_take l k)
  cases hw : isW (l.take k)
  all_goals
   have HM2 := HM.out;rw [HN.out, if_neg h40, hw] at HM2;have H2 := h_ HM2;have HW := h_ hw;clear hw HM2;go_wp2_with (go_at_call 88; rw [HT.out]; refine (word_any _ _).mono ?_; rw [HW.out]; rintro e w' ⟨rfl, hb⟩; have HB := h_ hb; clear hb)
   go_ret3
   exact ⟨by rw [H2.out]; rfl, HB.out⟩
theorem next_num (a : UInt8) (r : Bs) (ha : isL a = false) (hd0 : isD a = true) (hl : (a :: r).length <= 1000000000) (w : World) :
  Calls Tryz.prog 55 #[.string ⟨(a :: r).toArray⟩] w fun e w' => e = .returned (nres (meas (a :: r))) /\ Below w.heap.size w w' := by
 obtain ⟨l, hL⟩ : ∃ l, l = a :: r := ⟨_, rfl⟩
 have HM := h_ (show meas l = if 1 < spn isD l /\ a = 48 then .bad 1 else if 300 < spn isD l then .bad 2 else .ok 1 (spn isD l) by rw [hL, meas_cons, if_neg (by rw [ha]; decide), if_pos hd0]);have HN1 : Hid (1 <= spn isD l) := h_ (by rw [hL, spn, if_pos hd0]; omega);have hp : 0 < l.length := by rw [hL]; simp
 have h0 : (⟨l.toArray⟩ : ByteArray)[0]'hp = a := by subst hL; rfl
 rw [<- hL] at hl ⊢;clear hL hd0;have HA := h_ ha;clear ha;have hsz : (⟨l.toArray⟩ : ByteArray).size = l.length := rfl;have H0 := h_ h0;go_enter Tryz.func55, Tryz.ntmps55
 go_wp2_with fail
 refine (begins_any a _).mono ?_;rw [HA.out];rintro e w' ⟨rfl, hx⟩;obtain rfl := hx.symm;clear hx;go_wp2_with fail
 clear h0
 go_loopw [5] (fun i wr => ∃ k : Nat, i = .int .i64 k /\ k <= l.length /\ Hid (spn isD l = k + spn isD (l.drop k)) /\ wr = w) (fun i _ => l.length - (intOf i).toNat)
 case atStart => exact ⟨0, rfl, Nat.zero_le _, h_ (by simp), rfl⟩
 case round =>
  obtain ⟨k, rfl, hk, HS, hx⟩ := hrel;obtain rfl := hx.symm;clear hx
  by_cases hlt : k < l.length
  ·rcases digit_ways ((⟨l.toArray⟩ : ByteArray)[k]'hlt) with ⟨hd, h1, h2⟩ | ⟨hd, h1⟩ | ⟨hd, h1, h2⟩
   ·have HS1 := h_ (spn_step (p := isD) hlt hd);clear hd;go_wp2_with fail
    go_roundw
    case rel => exact ⟨k + 1, by go_num, by omega, h_ (by rw [HS.out, HS1.out]; omega), by trivial⟩
    case measure => simp [intOf]; omega
   all_goals
    have HN : Hid (spn isD l = k) := h_ (by rw [HS.out, spn_stop (p := isD) hlt hd]; rfl);clear hd;have h0 := H0.out
    by_cases hk0 : k = 0
    ·exact absurd HN1.out (by rw [HN.out, hk0]; decide)
    have hk1 : 1 <= k := by omega
    clear hk0
    by_cases hz : 1 < k /\ a = 48
    ·obtain ⟨z1, z2⟩ := hz;have H2 := h_ (show meas l = .bad 1 by rw [HM.out, HN.out, if_pos ⟨z1, z2⟩]);have hz1 : ((a.toNat : Int) == 48) = true := byte_yes 48 z2;clear z2;go_wp2_with fail
     go_ret3
     exact ⟨by rw [H2.out]; rfl, Below.refl _ _⟩
    by_cases h3 : 300 < k
    ·have H2 := h_ (show meas l = .bad 2 by rw [HM.out, HN.out, if_neg hz, if_pos h3]);have z1 : 1 < k := by omega
     have hz1 : ((a.toNat : Int) == 48) = false := byte_no 48 (fun e => hz ⟨z1, e⟩);clear hz;go_wp2_with fail
     go_ret3
     exact ⟨by rw [H2.out]; rfl, Below.refl _ _⟩
    have H2 := h_ (show meas l = .ok 1 k by rw [HM.out, HN.out, if_neg hz, if_neg h3]);have hk1 : 1 <= k := by have := HN1.out; rw [HN.out] at this; exact this
    have hk3 : k <= 300 := by omega
    by_cases z1 : 1 < k
    ·have hz1 : ((a.toNat : Int) == 48) = false := byte_no 48 (fun e => hz ⟨z1, e⟩);clear hz h3;go_wp2_with fail
     go_ret3
     exact ⟨by rw [H2.out]; rfl, Below.refl _ _⟩
    have z2 : k <= 1 := by omega
    clear hz h3 z1;go_wp2_with fail
    go_ret3
    exact ⟨by rw [H2.out]; rfl, Below.refl _ _⟩
  have hk0 : l.length <= k := by omega
  have HN : Hid (spn isD l = k) := h_ (by rw [HS.out, spn_end hk0]; rfl);have h0 := H0.out
  by_cases hk1' : k = 0
  ·exact absurd HN1.out (by rw [HN.out, hk1']; decide)
  have hk1 : 1 <= k := by omega
  clear hk1'
  by_cases hz : 1 < k /\ a = 48
  ·obtain ⟨z1, z2⟩ := hz;have H2 := h_ (show meas l = .bad 1 by rw [HM.out, HN.out, if_pos ⟨z1, z2⟩]);have hz1 : ((a.toNat : Int) == 48) = true := byte_yes 48 z2;clear z2;go_wp2_with fail
   go_ret3
   exact ⟨by rw [H2.out]; rfl, Below.refl _ _⟩
  by_cases h3 : 300 < k
  ·have H2 := h_ (show meas l = .bad 2 by rw [HM.out, HN.out, if_neg hz, if_pos h3]);have z1 : 1 < k := by omega
   have hz1 : ((a.toNat : Int) == 48) = false := byte_no 48 (fun e => hz ⟨z1, e⟩);clear hz;go_wp2_with fail
   go_ret3
   exact ⟨by rw [H2.out]; rfl, Below.refl _ _⟩
  have H2 := h_ (show meas l = .ok 1 k by rw [HM.out, HN.out, if_neg hz, if_neg h3]);have hk1 : 1 <= k := by have := HN1.out; rw [HN.out] at this; exact this
  have hk3 : k <= 300 := by omega
  by_cases z1 : 1 < k
  ·have hz1 : ((a.toNat : Int) == 48) = false := byte_no 48 (fun e => hz ⟨z1, e⟩);clear hz h3;go_wp2_with fail
   go_ret3
   exact ⟨by rw [H2.out]; rfl, Below.refl _ _⟩
  have z2 : k <= 1 := by omega
  clear hz h3 z1;go_wp2_with fail
  go_ret3
  exact ⟨by rw [H2.out]; rfl, Below.refl _ _⟩
theorem next_sign (a : UInt8) (r : Bs) (ha : isL a = false) (hd0 : isD a = false) (w : World) :
  Calls Tryz.prog 55 #[.string ⟨(a :: r).toArray⟩] w fun e w' => e = .returned (nres (meas (a :: r))) /\ Below w.heap.size w w' := by
 obtain ⟨l, hL⟩ : ∃ l, l = a :: r := ⟨_, rfl⟩
 have HM := h_ (show meas l = if 0 < sgn l then .ok 2 (sgn l) else .bad 1 by rw [hL, meas_cons, if_neg (by rw [ha]; decide), if_neg (by rw [hd0]; decide)]);have hp : 0 < l.length := by rw [hL]; simp
 have h0 : (⟨l.toArray⟩ : ByteArray)[0]'hp = a := by subst hL; rfl
 rw [<- hL];clear hL;have HA := h_ ha
 have hw : a.toNat < 48 \/ (57 < a.toNat /\ 48 <= a.toNat) := by
  rcases digit_ways a with ⟨h, -, -⟩ | ⟨-, h⟩ | ⟨-, h1, h2⟩
  ·rw [hd0] at h; cases h
  ·exact .inl h
  exact .inr ⟨h1, h2⟩
 clear ha hd0;have hsz : (⟨l.toArray⟩ : ByteArray).size = l.length := rfl;go_enter Tryz.func55, Tryz.ntmps55
 go_wp2_with fail
 refine (begins_any a _).mono ?_;rw [HA.out];rintro e w' ⟨rfl, hx⟩;obtain rfl := hx.symm;clear hx;go_wp2_with fail
 go_loopw [5] (fun i wr => i = .int .i64 0 /\ wr = w) (fun _ _ => 0)
 case atStart => exact ⟨rfl, rfl⟩
 case round =>
  obtain ⟨rfl, hx⟩ := hrel;obtain rfl := hx.symm;clear hx;rcases hw with h1 | ⟨h1, h2⟩
  all_goals
   go_wp2_with fail
   obtain ⟨W0, hW⟩ : ∃ W0, W0 = w.alloc (.cells #[.string ⟨#[58, 58]⟩, .string ⟨#[45, 62]⟩, .string ⟨#[38, 38]⟩, .string ⟨#[124, 124]⟩, .string ⟨#[91, 93]⟩, .string ⟨#[60, 62]⟩, .string ⟨#[60, 61]⟩, .string ⟨#[62, 61]⟩, .string ⟨#[40]⟩, .string ⟨#[41]⟩, .string ⟨#[123]⟩, .string ⟨#[125]⟩, .string ⟨#[44]⟩, .string ⟨#[58]⟩, .string ⟨#[59]⟩, .string ⟨#[124]⟩, .string ⟨#[61]⟩, .string ⟨#[60]⟩, .string ⟨#[62]⟩, .string ⟨#[43]⟩, .string ⟨#[45]⟩, .string ⟨#[42]⟩, .string ⟨#[47]⟩, .string ⟨#[37]⟩] 9) := ⟨_, rfl⟩
   have hb : Below w.heap.size w W0 := by rw [hW]; exact (Below.refl _ _).alloc (Nat.le_refl _) _
   have hB : W0.heap[w.heap.size]? = some (.cells (sgs.map fun b => Value.string ⟨b.toArray⟩).toArray 9 (0, 0)) := by rw [hW]; exact made_at w _ _ rfl
   have hc : ∀ k (hk : k < sgs.length), W0.cell? ⟨w.heap.size, k, none⟩ = some (.string ⟨(sgs[k]).toArray⟩) := fun k hk => cell_at hB k (by simp [hk])
   rw [<- hW];have HC := h_ hc;have HB := h_ hb;clear hW hB hc hb
   go_loopw [75] (fun i wr => ∃ k : Nat, i = .int .i64 k /\ k <= 24 /\ Hid (sgF l = (sgs.drop k).find? (·.isPrefixOf l)) /\ wr = W0) (fun i _ => 24 - (intOf i).toNat)
   case atStart => exact ⟨0, rfl, Nat.zero_le _, h_ rfl, rfl⟩
   case round =>
    obtain ⟨k, rfl, hk, HI, hx⟩ := hrel;obtain rfl := hx.symm;clear hx
    by_cases hlt : k < 24
    ·have hkl : k < sgs.length := hlt;have c0 := HC.out k hkl;have hpos := sgs_pos _ (List.getElem_mem hkl);have hpre := prefix_take sgs[k] l;obtain ⟨p, hp⟩ : ∃ p, p = sgs[k] := ⟨_, rfl⟩
     rw [<- hp] at c0 hpos hpre;have HPE := h_ hp;clear hp
     by_cases hpl : p.length <= l.length
     ·have HT := h_ (extract_take l p.length)
      cases hq : (l.take p.length == p)
      ·have hnp : p.isPrefixOf l = false := by rw [hpre, hq, Bool.and_false]
       have HS : Hid (sgF l = (sgs.drop (k + 1)).find? (·.isPrefixOf l)) := h_ (sgF_step hkl HI.out (by rw [<- HPE.out]; exact hnp));have hT := HT.out;clear hpre hnp;go_wp2_with fail
       go_roundw
       case rel => exact ⟨k + 1, by go_num, by omega, HS, by trivial⟩
       case measure => simp [intOf]; omega
      have hnp : p.isPrefixOf l = true := by rw [hpre, hq, Bool.and_true]; simpa using hpl
      have hs : sgn l = p.length := by rw [<- sgF_len, sgF_hit hkl HI.out (by rw [<- HPE.out]; exact hnp), <- HPE.out]; rfl
      have HR := h_ (show meas l = .ok 2 p.length by rw [HM.out, hs, if_pos (by omega)]);have hT := HT.out;clear hpre hnp hs;go_wp2_with fail
      go_ret3
      exact ⟨by rw [HR.out]; rfl, HB.out⟩
     have hnp : p.isPrefixOf l = false := by rw [hpre]; simp [hpl]
     have HS : Hid (sgF l = (sgs.drop (k + 1)).find? (·.isPrefixOf l)) := h_ (sgF_step hkl HI.out (by rw [<- HPE.out]; exact hnp));have hpl' : l.length < p.length := by omega
     clear hpre hnp hpl;go_wp2_with fail
     go_roundw
     case rel => exact ⟨k + 1, by go_num, by omega, HS, by trivial⟩
     case measure => simp [intOf]; omega
    have hkn : k = 24 := by omega
    subst hkn;have hs : sgn l = 0 := by rw [<- sgF_len, sgF_end HI.out]; rfl
    have HR := h_ (show meas l = .bad 1 by rw [HM.out, hs]; rfl);clear hs;go_wp2_with fail
    go_ret3
    exact ⟨by rw [HR.out]; rfl, HB.out⟩
theorem next_any (a : UInt8) (r : Bs) (hl : (a :: r).length <= 1000000000) (w : World) :
  Calls Tryz.prog 55 #[.string ⟨(a :: r).toArray⟩] w fun e w' => e = .returned (nres (meas (a :: r))) /\ Below w.heap.size w w' := by
 cases ha : isL a
 ·cases hd : isD a
  ·exact next_sign a r ha hd w
  exact next_num a r ha hd hl w
 exact next_name a r ha hl w
theorem extract_mid (l : Bs) (j n : Nat) : (⟨l.toArray⟩ : ByteArray).extract j (j + n) = ⟨((l.drop j).take n).toArray⟩ := by
 apply ByteArray.ext
 simp only [ByteArray.data_extract, List.extract_toArray];rw [List.extract_eq_take_drop];have : j + n - j = n := by omega
 rw [this]
theorem Tk.kept {w w' : World} {base t : Nat} {e : TypeId} {v : Value} {ts : List Tok} (h : Tk w base e v ts) (hg : w.grownBy w' (some t)) (ht : ∀ j, v.ownBlock = some j -> j ≠ t) : Tk w' base e v ts :=
 World.ownsRow.kept h hg (by cases hv : v.ownBlock with | none => exact .inl rfl | some j => exact .inr (fun e => by injection e with e; exact ht j hv e))
theorem infoT : (Tryz.prog.info? 60).map (fun i => (i.zero, i.size, i.bytes)) = some (some (.agg #[.int .i64 0, .string ⟨#[]⟩, .int .i64 0, .int .i64 0]), 4, 40) := by kernel_rfl
theorem five_35 {c : UInt8} (h : c = 35) : ((c.toNat : Int) == 35) = true /\ ((c.toNat : Int) == 32) = false /\ ((c.toNat : Int) == 9) = false /\ ((c.toNat : Int) == 10) = false /\ ((c.toNat : Int) == 13) = false := by
 subst h; exact ⟨rfl, rfl, rfl, rfl, rfl⟩
theorem five_32 {c : UInt8} (h : c = 32) : ((c.toNat : Int) == 35) = false /\ ((c.toNat : Int) == 32) = true /\ ((c.toNat : Int) == 9) = false /\ ((c.toNat : Int) == 10) = false /\ ((c.toNat : Int) == 13) = false := by
 subst h; exact ⟨rfl, rfl, rfl, rfl, rfl⟩
theorem five_9 {c : UInt8} (h : c = 9) : ((c.toNat : Int) == 35) = false /\ ((c.toNat : Int) == 32) = false /\ ((c.toNat : Int) == 9) = true /\ ((c.toNat : Int) == 10) = false /\ ((c.toNat : Int) == 13) = false := by
 subst h; exact ⟨rfl, rfl, rfl, rfl, rfl⟩
theorem five_10 {c : UInt8} (h : c = 10) : ((c.toNat : Int) == 35) = false /\ ((c.toNat : Int) == 32) = false /\ ((c.toNat : Int) == 9) = false /\ ((c.toNat : Int) == 10) = true /\ ((c.toNat : Int) == 13) = false := by
 subst h; exact ⟨rfl, rfl, rfl, rfl, rfl⟩
theorem five_13 {c : UInt8} (h : c = 13) : ((c.toNat : Int) == 35) = false /\ ((c.toNat : Int) == 32) = false /\ ((c.toNat : Int) == 9) = false /\ ((c.toNat : Int) == 10) = false /\ ((c.toNat : Int) == 13) = true := by
 subst h; exact ⟨rfl, rfl, rfl, rfl, rfl⟩
theorem five_no {c : UInt8} (h : blk c = false) (h2 : c ≠ 35) : ((c.toNat : Int) == 35) = false /\ ((c.toNat : Int) == 32) = false /\ ((c.toNat : Int) == 9) = false /\ ((c.toNat : Int) == 10) = false /\ ((c.toNat : Int) == 13) = false := by
 obtain ⟨a, b, d, e⟩ := blk_not h;exact ⟨byte_no 35 h2, a, b, d, e⟩
theorem gap_ways (c : UInt8) : c = 35 \/ c = 10 \/ c = 32 \/ c = 9 \/ c = 13 \/ (blk c = false /\ c ≠ 35) := by
 by_cases h : c = 35
 ·exact .inl h
 cases hb : blk c with
 | false => exact .inr (.inr (.inr (.inr (.inr ⟨rfl, h⟩))))
 | true =>
  have : c = 32 \/ c = 9 \/ c = 10 \/ c = 13 := by simpa [blk, or_assoc] using hb
  rcases this with e | e | e | e <;> simp [e]
def RefPost (l : Bs) (w0 : World) (e : Ending) (w' : World) : Prop :=
 ∃ v, e = .returned (.tuple #[v, .int .i64 ((lexS l (1, 1)).2 : Nat)]) /\ Tk w' w0.heap.size 60 v (lexS l (1, 1)).1 /\ Below w0.heap.size w0 w'
def RefInv (l : Bs) (w0 : World) (out li st i : Value) (wr : World) : Prop :=
 ∃ (ts : List Tok) (j s : Nat), i = .int .i64 j /\ j <= l.length /\ li = .int .i64 ((adv (1, 1) (l.take j)).1 : Nat) /\ st = .int .i64 s /\ (adv (1, 1) (l.take j)).2 + s = j + 1 /\ ts.length <= j /\
  Tk wr w0.heap.size 60 out ts /\ ts ++ (lexS (l.drop j) (adv (1, 1) (l.take j))).1 = (lexS l (1, 1)).1 /\ (lexS (l.drop j) (adv (1, 1) (l.take j))).2 = (lexS l (1, 1)).2 /\ Below w0.heap.size w0 wr
def GapInv (l : Bs) (i : Nat) (li st jv b : Value) : Prop :=
 ∃ (j s : Nat) (r : Bool), jv = .int .i64 j /\ b = .bool r /\ i <= j /\ j <= l.length /\ li = .int .i64 ((adv (1, 1) (l.take j)).1 : Nat) /\ st = .int .i64 s /\ (adv (1, 1) (l.take j)).2 + s = j + 1 /\ gapL false (l.drop i) = (j - i) + gapL r (l.drop j)
theorem ref_any (l : Bs) (w0 : World) (hl : l.length <= 20000) :
  Calls Tryz.prog 20 #[.string ⟨l.toArray⟩] w0 (RefPost l w0) := by
 have hsz : (⟨l.toArray⟩ : ByteArray).size = l.length := rfl;have hd : decide ((20000 : Int) < (l.length : Int)) = false := by simp; omega
 go_enter Tryz.func20, Tryz.ntmps20
 go_wp2_with fail
 go_loopw [4, 5, 6, 7] (fun out li st i wr => RefInv l w0 out li st i wr) (fun _ _ _ i _ => l.length - (intOf i).toNat)
 case atStart => exact ⟨[], 0, 0, rfl, Nat.zero_le _, rfl, rfl, rfl, Nat.le_refl _, Tk.nil _ _ _, rfl, rfl, Below.refl _ _⟩
 case round =>
  obtain ⟨ts, i, s, rfl, hi, rfl, rfl, hs, htl, hT, he1, he2, hb⟩ := hrel;have HT := h_ hT;have HE1 := h_ he1;have HE2 := h_ he2;have HBw := h_ hb;have HS := h_ hs;clear hT he1 he2 hb hs;go_wp2_with fail
  obtain ⟨W, hWr⟩ : ∃ W, W = wr := ⟨_, rfl⟩
  rw [<- hWr] at HT HBw ⊢;clear hWr
  go_loopw [5, 6, 7, 8] (fun li st jv b wi => GapInv l i li st jv b /\ wi = W) (fun _ _ jv _ _ => l.length - (intOf jv).toNat)
  case atStart => exact ⟨⟨i, s, false, rfl, rfl, Nat.le_refl _, hi, rfl, rfl, HS.out, by simp⟩, rfl⟩
  case round =>
   clear HS;obtain ⟨⟨j, s, r, rfl, rfl, j1, j2, rfl, rfl, hs, hgp⟩, hx⟩ := hrel;obtain rfl := hx.symm;clear hx;have HGP := h_ hgp;obtain ⟨q, hq⟩ : ∃ q, q = adv (1, 1) (l.take j) := ⟨_, rfl⟩
   have hqb := adv_bd (1, 1) (l.take j);have hlj : (l.take j).length <= 20000 := by rw [List.length_take]; omega
   rw [<- hq] at hs hqb ⊢;simp only at hqb;have hq1 : q.1 <= 100000 := by omega
   have hq2 : q.2 <= 100000 := by omega
   have hsj : s <= j + 1 := by omega
   have HQ := h_ hq;have HS := h_ hs;clear hgp hq hqb hlj hs
   by_cases hlt : j < l.length
   ·have HST : Hid (adv (1, 1) (l.take (j + 1)) = stepP q l[j]) := h_ (by rw [adv_take_succ _ _ _ hlt, <- HQ.out]);have hs := HS.out
    cases r
    ·rcases gap_ways (l[j]'hlt) with h | h | h | h | h | ⟨h, h'⟩
     ·obtain ⟨x35, x32, x9, x10, x13⟩ := five_35 (c := (⟨l.toArray⟩ : ByteArray)[j]'hlt) h;have HG1 := h_ (gap_hash hlt h);have HSP := h_ (stepP_no (p := q) (show l[j] ≠ 10 by rw [h]; decide));clear h
      go_wp2
      go_roundw
      case rel => exact ⟨⟨j + 1, s, true, by go_num, rfl, by omega, by omega, by rw [HST.out, HSP.out] <;> go_num, rfl, by rw [HST.out, HSP.out]; simp only; omega, by rw [HGP.out, HG1.out]; omega⟩, by trivial⟩
      case measure => simp [intOf]; omega
     ·obtain ⟨x35, x32, x9, x10, x13⟩ := five_10 (c := (⟨l.toArray⟩ : ByteArray)[j]'hlt) h;have HG1 := h_ (gap_blank hlt (show blk l[j] = true by rw [h]; rfl));have HSP := h_ (stepP_nl (p := q) h);clear h
      go_wp2
      go_roundw
      case rel => exact ⟨⟨j + 1, j + 1, false, by go_num, rfl, by omega, by omega, by rw [HST.out, HSP.out] <;> go_num, by go_num, by rw [HST.out, HSP.out]; simp only; omega, by rw [HGP.out, HG1.out]; omega⟩, by trivial⟩
      case measure => simp [intOf]; omega
     ·obtain ⟨x35, x32, x9, x10, x13⟩ := five_32 (c := (⟨l.toArray⟩ : ByteArray)[j]'hlt) h;have HG1 := h_ (gap_blank hlt (show blk l[j] = true by rw [h]; rfl));have HSP := h_ (stepP_no (p := q) (show l[j] ≠ 10 by rw [h]; decide));clear h
      go_wp2
      go_roundw
      case rel => exact ⟨⟨j + 1, s, false, by go_num, rfl, by omega, by omega, by rw [HST.out, HSP.out] <;> go_num, rfl, by rw [HST.out, HSP.out]; simp only; omega, by rw [HGP.out, HG1.out]; omega⟩, by trivial⟩
      case measure => simp [intOf]; omega
     ·obtain ⟨x35, x32, x9, x10, x13⟩ := five_9 (c := (⟨l.toArray⟩ : ByteArray)[j]'hlt) h;have HG1 := h_ (gap_blank hlt (show blk l[j] = true by rw [h]; rfl));have HSP := h_ (stepP_no (p := q) (show l[j] ≠ 10 by rw [h]; decide));clear h
      go_wp2
      go_roundw
      case rel => exact ⟨⟨j + 1, s, false, by go_num, rfl, by omega, by omega, by rw [HST.out, HSP.out] <;> go_num, rfl, by rw [HST.out, HSP.out]; simp only; omega, by rw [HGP.out, HG1.out]; omega⟩, by trivial⟩
      case measure => simp [intOf]; omega
     ·obtain ⟨x35, x32, x9, x10, x13⟩ := five_13 (c := (⟨l.toArray⟩ : ByteArray)[j]'hlt) h;have HG1 := h_ (gap_blank hlt (show blk l[j] = true by rw [h]; rfl));have HSP := h_ (stepP_no (p := q) (show l[j] ≠ 10 by rw [h]; decide));clear h
      go_wp2
      go_roundw
      case rel => exact ⟨⟨j + 1, s, false, by go_num, rfl, by omega, by omega, by rw [HST.out, HSP.out] <;> go_num, rfl, by rw [HST.out, HSP.out]; simp only; omega, by rw [HGP.out, HG1.out]; omega⟩, by trivial⟩
      case measure => simp [intOf]; omega
     obtain ⟨x35, x32, x9, x10, x13⟩ := five_no (c := (⟨l.toArray⟩ : ByteArray)[j]'hlt) h h';have HG1 := h_ (gap_stop hlt h h');clear h h';have hje : ((j : Int) == (l.length : Int)) = false := by rw [beq_eq_false_iff_ne]; omega
     have hcol : ((j : Int) - (s : Int) + 1) = (q.2 : Int) := by omega
     have hg : gapL false (l.drop i) = j - i := by rw [HGP.out, HG1.out]; rfl
     have hdd : (l.drop i).drop (gapL false (l.drop i)) = l.drop j := by rw [hg, List.drop_drop]; congr 1; omega
     have hqq : adv (adv (1, 1) (l.take i)) ((l.drop i).take (gapL false (l.drop i))) = q := by
      rw [hg, <- adv_app, <- List.take_add, show i + (j - i) = j by omega]; exact HQ.out.symm
     have hne : l.drop j ≠ [] := fun e => by have := congrArg List.length e; simp at this; omega
     have hNx : ∀ w : World, Calls Tryz.prog 55 #[.string ⟨(l.drop j).toArray⟩] w fun e w' => e = .returned (nres (meas (l.drop j))) /\ Below w.heap.size w w' := fun w => by
      rw [List.drop_eq_getElem_cons hlt];exact next_any _ _ (by rw [<- List.drop_eq_getElem_cons hlt, List.length_drop]; omega) w
     have hbad : ∀ c, meas (l.drop j) = .bad c -> lexS (l.drop i) (adv (1, 1) (l.take i)) = ([⟨4, [], q.1, q.2⟩], c) := fun c hc => by
      rw [lex_bad (by rw [hdd]; exact hne) (by rw [hdd]; exact hc), hqq]
     have htok : ∀ k n, meas (l.drop j) = .ok k n -> lexS (l.drop i) (adv (1, 1) (l.take i)) = (⟨k, (l.drop j).take n, q.1, q.2⟩ :: (lexS ((l.drop j).drop n) (adv q ((l.drop j).take n))).1, (lexS ((l.drop j).drop n) (adv q ((l.drop j).take n))).2) := fun k n hc => by
      rw [lex_tok (by rw [hdd]; exact hne) (by rw [hdd]; exact hc), hqq, hdd]
     have HNX := h_ hNx;have HBAD := h_ hbad;have HTOK := h_ htok;have HNE := h_ hne;have HED := h_ (extract_drop l j);have hlow := HT.out.lt;have hz0 := HBw.out.size;have HLOW := h_ hlow;have HCOL := h_ hcol;clear hg hdd hqq hne hNx hbad htok hlow hs;obtain ⟨W1, hW1⟩ : ∃ W1, W1 = W.alloc (.cells #[.int .i64 4, .string ⟨#[]⟩, .int .i64 (q.1 : Nat), .int .i64 ((j : Int) - (s : Int) + 1)] 60) := ⟨_, rfl⟩
     have hbW1 : Below W.heap.size W W1 := by rw [hW1]; exact (Below.refl _ _).alloc (Nat.le_refl _) _
     have hLW1 : W1.heap[W.heap.size]? = some (.cells #[.int .i64 4, .string ⟨#[]⟩, .int .i64 (q.1 : Nat), .int .i64 (q.2 : Nat)] 60 (0, 0)) := by rw [hW1, hcol]; exact made_at W _ _ rfl
     have HW1 := h_ hW1;have HBW1 := h_ hbW1;have HLW1 := h_ hLW1;clear hW1 hbW1 hLW1 hcol;go_wp2_with fail
     rw [<- HW1.out, HED.out];refine (HNX.out _).mono ?_
     cases hm : meas (l.drop j) with
     | bad c =>
      have hc := meas_bad hm;rintro e w2 ⟨rfl, hb2⟩;simp only [nres];have hL2 := (hb2.block _ (lt_of_block HLW1.out)).trans HLW1.out;have hT2 := (HT.out.below HBW1.out).below hb2;have hx := HBAD.out c hm;have hcn : ((c : Int) == 0) = false := by rw [beq_eq_false_iff_ne]; omega
      have t0 := cell_at hL2 0 rfl;have t1 := cell_at hL2 1 rfl;have t2 := cell_at hL2 2 rfl;have t3 := cell_at hL2 3 rfl;have hz2 : W.heap.size + 1 <= w2.heap.size := lt_of_block hL2;have hO : Below w2.heap.size w2 (w2.alloc (.cells #[.int .i64 4, .string ⟨#[]⟩, .int .i64 (q.1 : Nat), .int .i64 (q.2 : Nat)] 60)) := (Below.refl _ _).alloc (Nat.le_refl _) _;have HTW := h_ (hT2.below hO);have HNW : Hid ((w2.alloc (.cells #[.int .i64 4, .string ⟨#[]⟩, .int .i64 (q.1 : Nat), .int .i64 (q.2 : Nat)] 60)).heap[w2.heap.size]? = some (.cells (tokCells ⟨4, [], q.1, q.2⟩).toArray 60 (0, 0))) := h_ (made_at _ _ _ rfl);have HSZ : Hid (w0.heap.size <= (w2.alloc (.cells #[.int .i64 4, .string ⟨#[]⟩, .int .i64 (q.1 : Nat), .int .i64 (q.2 : Nat)] 60)).heap.size) := h_ (by have := hO.size; omega)
      have HB5 := h_ (fun (w5 : World) h5 => (((HBw.out.trans (HBW1.out.mono hz0)).trans (hb2.mono (by have := HBW1.out.size; omega))).trans (hO.mono (by omega))).trans (grown_belowR (w' := w5) h5 HSZ.out (fun j hj => (HLOW.out j hj).1)));have HX := h_ hx;have hc2 : c <= 2 := by omega
      clear hL2 hT2 hx hO hm hc hb2;go_wp2_with (at_builtin; refine wpList_append_tok _ rfl (.tmp 96) (.tmp 98) 56 rfl 60 Tryz.underlying56 infoT w0.heap.size u4 ts rfl HTW.out w2.heap.size 60 ⟨4, [], q.1, q.2⟩ rfl HNW.out (by omega) HSZ.out ?_; intro v' w5 hT5 hG5; have HT5 := h_ hT5; have HG5 := h_ hG5; clear hT5 hG5)
      go_ret2
      refine ⟨v', by rw [<- HE2.out, HX.out]; rfl, ?_, HB5.out w5 HG5.out⟩;rw [<- HE1.out, HX.out]; exact HT5.out
     | ok k n =>
      have hmk := meas_ok HNE.out hm;rintro e w2 ⟨rfl, hb2⟩;simp only [nres];have hL2 := (hb2.block _ (lt_of_block HLW1.out)).trans HLW1.out;have hT2 := (HT.out.below HBW1.out).below hb2;have hx := HTOK.out k n hm;have hjn : j + n <= l.length := by have := hmk.2.2.1; rw [List.length_drop] at this; omega
      have hn1 := hmk.2.1;have hk4 := hmk.1;have t0 := cell_at hL2 0 rfl;have t1 := cell_at hL2 1 rfl;have t2 := cell_at hL2 2 rfl;have t3 := cell_at hL2 3 rfl;have f0 := froz_at hL2 0;have f1 := froz_at hL2 1;have hz2 : W.heap.size + 1 <= w2.heap.size := lt_of_block hL2;have hnl := hmk.2.2.2.1;have hlow := HLOW.out;have hne1 : ∀ j, u4.ownBlock = some j -> j ≠ W.heap.size := fun j hj => by have := (hlow j hj).2; omega
      have hO : Below w2.heap.size ((w2.setCell ⟨W.heap.size, 0, none⟩ (.int .i64 (k : Nat))).setCell ⟨W.heap.size, 1, none⟩ (.string ((⟨l.toArray⟩ : ByteArray).extract j (j + n)))) (((w2.setCell ⟨W.heap.size, 0, none⟩ (.int .i64 (k : Nat))).setCell ⟨W.heap.size, 1, none⟩ (.string ((⟨l.toArray⟩ : ByteArray).extract j (j + n)))).alloc (.cells #[.int .i64 (k : Nat), .string ((⟨l.toArray⟩ : ByteArray).extract j (j + n)), .int .i64 (q.1 : Nat), .int .i64 (q.2 : Nat)] 60)) := (Below.refl _ _).alloc (by simp) _
      have HTW := h_ (((hT2.kept (grown_set w2 W.heap.size 0 _) hne1).kept (grown_set _ W.heap.size 1 _) hne1).below (w' := ((w2.setCell ⟨W.heap.size, 0, none⟩ (.int .i64 (k : Nat))).setCell ⟨W.heap.size, 1, none⟩ (.string ((⟨l.toArray⟩ : ByteArray).extract j (j + n)))).alloc (.cells #[.int .i64 (k : Nat), .string ((⟨l.toArray⟩ : ByteArray).extract j (j + n)), .int .i64 (q.1 : Nat), .int .i64 (q.2 : Nat)] 60)) ((Below.refl _ _).alloc (Nat.le_refl _) _))
      have HNW : Hid ((((w2.setCell ⟨W.heap.size, 0, none⟩ (.int .i64 (k : Nat))).setCell ⟨W.heap.size, 1, none⟩ (.string ((⟨l.toArray⟩ : ByteArray).extract j (j + n)))).alloc (.cells #[.int .i64 (k : Nat), .string ((⟨l.toArray⟩ : ByteArray).extract j (j + n)), .int .i64 (q.1 : Nat), .int .i64 (q.2 : Nat)] 60)).heap[w2.heap.size]? = some (.cells (tokCells ⟨k, (l.drop j).take n, q.1, q.2⟩).toArray 60 (0, 0))) := h_ (by rw [extract_mid]; exact made_at _ _ _ (by simp));have HSZ : Hid (w0.heap.size <= (((w2.setCell ⟨W.heap.size, 0, none⟩ (.int .i64 (k : Nat))).setCell ⟨W.heap.size, 1, none⟩ (.string ((⟨l.toArray⟩ : ByteArray).extract j (j + n)))).alloc (.cells #[.int .i64 (k : Nat), .string ((⟨l.toArray⟩ : ByteArray).extract j (j + n)), .int .i64 (q.1 : Nat), .int .i64 (q.2 : Nat)] 60)).heap.size) := h_ (by have := hO.size; simp at this ⊢; omega)
      have HB5 := h_ (fun (w5 : World) h5 => (((((HBw.out.trans (HBW1.out.mono hz0)).trans (hb2.mono (by have := HBW1.out.size; omega))).setCell (p := ⟨W.heap.size, 0, none⟩) hz0 (.int .i64 (k : Nat))).setCell (p := ⟨W.heap.size, 1, none⟩) hz0 (.string ((⟨l.toArray⟩ : ByteArray).extract j (j + n)))).trans (hO.mono (by omega))).trans (grown_belowR (w' := w5) h5 HSZ.out (fun j hj => (hlow j hj).1)))
      have ha : adv (1, 1) (l.take (j + n)) = (q.1, q.2 + n) := by
       rw [List.take_add, adv_app, <- HQ.out, adv_flat _ _ hnl, List.length_take, List.length_drop]
       congr 2; omega
      have hb : adv q ((l.drop j).take n) = adv (1, 1) (l.take (j + n)) := by rw [List.take_add, adv_app, <- HQ.out]
      rw [hb, List.drop_drop] at hx;have HX := h_ hx;have HAA := h_ ha;clear hm hmk hnl hx hb2 hT2 hL2 hlow hne1 hO ha hb;go_wp2_with (at_builtin; refine wpList_append_tok _ rfl (.tmp 110) (.tmp 112) 56 rfl 60 Tryz.underlying56 infoT w0.heap.size u4 ts rfl HTW.out w2.heap.size 60 ⟨k, (l.drop j).take n, q.1, q.2⟩ rfl HNW.out (by omega) HSZ.out ?_; intro v' w5 hT5 hG5; have HT5 := h_ hT5; have HG5 := h_ hG5; clear hT5 hG5)
      go_roundw
      case rel =>
       have hs := HS.out;refine ⟨ts ++ [⟨k, (l.drop j).take n, q.1, q.2⟩], j + n, s, by go_num, hjn, by rw [HAA.out], rfl, by rw [HAA.out]; simp only; omega, by simp only [lsa, lsc, lsn]; omega, HT5.out, ?_, ?_, HB5.out w5 HG5.out⟩
       ·rw [<- HE1.out, HX.out]; simp
       rw [<- HE2.out, HX.out]
      case measure => simp [intOf]; omega
    by_cases h10 : l[j] = 10
    ·have x10 : ((((⟨l.toArray⟩ : ByteArray)[j]'hlt).toNat : Int) == 10) = true := byte_yes (c := (⟨l.toArray⟩ : ByteArray)[j]'hlt) 10 h10;have HG1 := h_ (gap_true_nl hlt h10);have HSP := h_ (stepP_nl (p := q) h10);clear h10
     go_wp2
     go_roundw
     case rel => exact ⟨⟨j + 1, j + 1, false, by go_num, rfl, by omega, by omega, by rw [HST.out, HSP.out] <;> go_num, by go_num, by rw [HST.out, HSP.out]; simp only; omega, by rw [HGP.out, HG1.out]; omega⟩, by trivial⟩
     case measure => simp [intOf]; omega
    have x10 : ((((⟨l.toArray⟩ : ByteArray)[j]'hlt).toNat : Int) == 10) = false := byte_no (c := (⟨l.toArray⟩ : ByteArray)[j]'hlt) 10 h10;have HG1 := h_ (gap_true hlt h10);have HSP := h_ (stepP_no (p := q) h10);clear h10
    go_wp2
    go_roundw
    case rel => exact ⟨⟨j + 1, s, true, by go_num, rfl, by omega, by omega, by rw [HST.out, HSP.out] <;> go_num, rfl, by rw [HST.out, HSP.out]; simp only; omega, by rw [HGP.out, HG1.out]; omega⟩, by trivial⟩
    case measure => simp [intOf]; omega
   have hjl : j = l.length := by omega
   have hje : ((j : Int) == (l.length : Int)) = true := by rw [hjl]; simp
   have hs := HS.out;subst hjl;have hcol : ((l.length : Int) - (s : Int) + 1) = (q.2 : Int) := by omega
   have hO : Below W.heap.size W ((W.alloc (.cells #[.int .i64 4, .string ⟨#[]⟩, .int .i64 (q.1 : Nat), .int .i64 ((l.length : Int) - (s : Int) + 1)] 60)).alloc (.cells #[.int .i64 4, .string ⟨#[]⟩, .int .i64 (q.1 : Nat), .int .i64 ((l.length : Int) - (s : Int) + 1)] 60)) := ((Below.refl _ _).alloc (Nat.le_refl _) _).alloc (by simp) _;have hTW := HT.out.below hO
   have hNW : ((W.alloc (.cells #[.int .i64 4, .string ⟨#[]⟩, .int .i64 (q.1 : Nat), .int .i64 ((l.length : Int) - (s : Int) + 1)] 60)).alloc (.cells #[.int .i64 4, .string ⟨#[]⟩, .int .i64 (q.1 : Nat), .int .i64 ((l.length : Int) - (s : Int) + 1)] 60)).heap[W.heap.size + 1]? = some (.cells (tokCells ⟨4, [], q.1, q.2⟩).toArray 60 (0, 0)) := by
    rw [hcol]; exact made_at _ _ _ (by simp)
   have hlow := HT.out.lt;have hz0 := HBw.out.size;have HSZ : Hid (w0.heap.size <= ((W.alloc (.cells #[.int .i64 4, .string ⟨#[]⟩, .int .i64 (q.1 : Nat), .int .i64 ((l.length : Int) - (s : Int) + 1)] 60)).alloc (.cells #[.int .i64 4, .string ⟨#[]⟩, .int .i64 (q.1 : Nat), .int .i64 ((l.length : Int) - (s : Int) + 1)] 60)).heap.size) := h_ (Nat.le_trans hz0 hO.size);have HB5 := h_ (fun (w5 : World) h5 => (HBw.out.trans (hO.mono hz0)).trans (grown_belowR (w' := w5) h5 HSZ.out (fun j hj => (hlow j hj).1)));have HTW := h_ hTW;have HNW := h_ hNW
   have hx : lexS (l.drop i) (adv (1, 1) (l.take i)) = ([⟨4, [], q.1, q.2⟩], 0) := by
    rw [lex_end (by rw [HGP.out, List.drop_eq_nil_iff, List.length_drop]; omega), <- adv_app, List.take_append_drop];rw [List.take_length] at HQ;rw [HQ.out]
   have HX := h_ hx;clear hTW hNW hlow hO hx hcol hs;go_wp2_with (at_builtin; refine wpList_append_tok _ rfl (.tmp 82) (.tmp 84) 56 rfl 60 Tryz.underlying56 infoT w0.heap.size u4 ts rfl HTW.out (W.heap.size + 1) 60 ⟨4, [], q.1, q.2⟩ rfl HNW.out (by omega) HSZ.out ?_; intro v' w5 hT5 hG5; have HT5 := h_ hT5; have HG5 := h_ hG5; clear hT5 hG5)
   go_ret2
   refine ⟨v', by rw [<- HE2.out, HX.out]; rfl, ?_, HB5.out w5 HG5.out⟩;rw [<- HE1.out, HX.out]; exact HT5.out
set_option linter.unusedSimpArgs false
def Ek (w : World) (base : Nat) (v : Value) (l : List RE) : Prop := w.ownsRow base 117 2 v l.length (l.flatMap eC)
theorem ek_at (l : List RE) (k : Nat) (hk : k < l.length) : (l.flatMap eC)[k * 2]? = some (.string ⟨(l[k]).S.toArray⟩) /\ (l.flatMap eC)[k * 2 + 1]? = some (.int .i64 ((l[k]).d : Nat)) := by
 induction l generalizing k with
 | nil => simp at hk
 | cons a ks ih =>
  cases k with
  | zero => exact ⟨rfl, rfl⟩
  | succ j =>
   have := ih j (by simpa using hk);simp only [List.flatMap_cons, eC, List.cons_append, List.nil_append, List.getElem_cons_succ];rw [show (j + 1) * 2 = j * 2 + 1 + 1 by omega];simp only [gsc];exact this
theorem Ek.form {w : World} {base : Nat} {v : Value} {l : List RE} (h : Ek w base v l) : ∃ a cap, v = .slice a l.length cap /\ ∀ j (hj : j < l.length), At2 w a j l[j] := by
 have h0 := h;rcases h.2 with ⟨rfl, hn⟩ | ⟨g, cap, cur, rfl, hb, hg, hn, hm, hs, ht⟩
 ·exact ⟨none, 0, by rw [hn], fun j hj => by omega⟩
 refine ⟨some ⟨g, 0, none⟩, cap, rfl, fun j hj => ⟨_, rfl, ?_, ?_, lt_of_block hg⟩⟩
 ·rw [add_lit, Nat.zero_add, World.ownsRow.cellAt h0 (j * 2) (by omega), (ek_at l j hj).1]
 rw [add_lit, add_lit, Nat.zero_add, World.ownsRow.cellAt h0 (j * 2 + 1) (by omega), (ek_at l j hj).2]
theorem Ek.lt {w : World} {base : Nat} {v : Value} {l : List RE} (h : Ek w base v l) : ∀ j, v.ownBlock = some j -> base <= j /\ j < w.heap.size := fun j hj => World.ownsRow.lt h j hj
theorem Ek.below {w w' : World} {base : Nat} {v : Value} {l : List RE} (h : Ek w base v l) (hb : Below w.heap.size w w') : Ek w' base v l :=
 World.ownsRow.kept h (below_grown hb none) (by cases hv : v.ownBlock with | none => exact .inl rfl | some g => exact .inr (show some g ≠ none by simp))
theorem Ek.grown {w w' : World} {base g : Nat} {v : Value} {l : List RE} (h : Ek w base v l) (hg : w.grownBy w' (some g)) (hlt : g < base) : Ek w' base v l :=
 World.ownsRow.kept h hg (by cases hv : v.ownBlock with | none => exact .inl rfl | some j => refine .inr (fun e => ?_); injection e with e; have := (h.lt j hv).1; omega)
theorem infoE : (Tryz.prog.info? 117).map (fun i => (i.zero, i.size, i.bytes)) = some (some (.agg #[.string ⟨#[]⟩, .int .i64 0]), 2, 24) := by kernel_rfl
theorem wpList_append_E {P : Program} (w : World) {ops : Array Oper} {rest : List Oper} {o : Oper} {a : Act} {Q : Exit -> Act -> World -> Prop} (hgd : o.guard = none) (s x : Operand) (t : TypeId)
  (ho : o.op = .call { callee := .builtin .append, args := #[s, x], argTypes := #[t, t] })
  (ht : P.underlying t = some (.slice 117)) (hinfo : (P.info? 117).map (fun i => (i.zero, i.size, i.bytes)) = some (some (.agg #[.string ⟨#[]⟩, .int .i64 0]), 2, 24))
  (base : Nat) (v : Value) (l : List RE) (hs : a.eval s = v) (hown : Ek w base v l)
  (h : Nat) (T : TypeId) (E : RE) (hx : a.eval x = .slice (some ⟨h, 0, none⟩) 1 1) (hc : w.heap[h]? = some (.cells (eC E).toArray T (0, 0)))
  (hlen : l.length <= 1000000000) (hbase : base <= w.heap.size)
  (hK : ∀ v' w', Ek w' base v' (l ++ [E]) -> w.grownBy w' v.ownBlock -> wpList P ops Q rest (a.put o.dst v') w') : wpList P ops Q (o :: rest) a w := by
 obtain ⟨i, hi, hz, hz1, hz2⟩ := info_parts hinfo;refine wpList_append_own w hgd s x t ho base 117 i _ 2 24 ht hi hz hz1 hz2 rfl (by decide) v l.length _ hs hown ⟨h, 0, none⟩ 1 1 (eC E) hx rfl ?_ ?_ (by unfold maxLen; omega) (by omega) hbase ?_
 ·intro j u hj;exact World.news_of_block hc j u (by simpa using hj)
 ·intro u hu;simp only [eC, List.mem_cons, List.not_mem_nil, or_false] at hu;rcases hu with rfl | rfl <;> rfl
 intro v' w' h1 h2 _;refine hK v' w' ?_ h2;unfold Ek;rw [List.flatMap_append, lsa]
 simpa [List.flatMap_cons] using h1
set_option linter.unusedVariables false
def aLT (n : Nat) (r : RS) : Option (RE × RS) :=
  if r.at'.kind = 1 then some (mk 0 r.at' r.at'.text [], r.inc)
  else if r.is wOpen then (rExpr n r.inc).bind fun x => some (x.1, x.2.eat wClose)
  else if (r.name).is wOpen then (rKids n [] (r.name).inc).bind fun x => some (mk 24 r.at' r.at'.text x.1, x.2.eat wClose)
  else some (mk 3 r.at' r.at'.text [], r.name)
def aL (n : Nat) (r : RS) : Nat -> Option (RE × RS)
 | 0 => if r.is wTrue then some (mk 1 r.at' [] [], r.inc) else if r.is wFalse then some (mk 2 r.at' [] [], r.inc) else if r.is wV then some (mk 3 r.at' wV [], r.inc) else if r.is wNil then some (mk 4 r.at' [] [], r.inc) else aLT n r
 | 1 => if r.is wFalse then some (mk 2 r.at' [] [], r.inc) else if r.is wV then some (mk 3 r.at' wV [], r.inc) else if r.is wNil then some (mk 4 r.at' [] [], r.inc) else aLT n r
 | 2 => if r.is wV then some (mk 3 r.at' wV [], r.inc) else if r.is wNil then some (mk 4 r.at' [] [], r.inc) else aLT n r
 | 3 => if r.is wNil then some (mk 4 r.at' [] [], r.inc) else aLT n r
 | _ => aLT n r
def rPhi (w : World) (g : Nat) : Nat := 7000 * rLen w g + (match w.cell? ⟨g, 2, none⟩ with | some (.int _ i) => if i = 0 then 7000 else 0 | _ => 0)
theorem pr_rphi {w : World} {g : Nat} {r : RS} (h : PR w g r) : rPhi w g = phi r := by
 have hl := h.len;obtain ⟨b, i, n, c, h1, -⟩ := h;unfold rPhi YtdpfgfkoboihcaaGreatDoor.phi;rw [hl, cell_at (v := .int .i64 (r.bad : Nat)) h1 2 rfl];simp only [Int.natCast_eq_zero]
theorem PR.row {w w' : World} {g : Nat} {r : RS} {row : Option Nat} (h : PR w g r) (hg : w.grownBy w' row) (hr : ∀ j, row = some j -> g < j) : PR w' g r := by
 obtain ⟨b, i, n, c, h1, h2, h3, h4, h5, h6, h7, h8, h9⟩ := h;have e : ∀ q, q <= g -> q < w.heap.size -> w'.heap[q]? = w.heap[q]? := fun q hq hl => hg.block q hl (fun e => by have := hr q e.symm; omega)
 exact ⟨b, i, n, c, by rw [e g (Nat.le_refl _) (lt_of_block h1)]; exact h1, h2, h3, h4, h5, h6, h7, Nat.lt_of_lt_of_le h8 hg.size, h9.keep (e b (by omega) h8)⟩
theorem Pw.row {w w' : World} {g : Nat} {row : Option Nat} (h : Pw w g) (hg : w.grownBy w' row) (hr : ∀ j, row = some j -> g <= j) : Pw w' g := by
 cases row with
 | none => exact h.below ⟨hg.os, hg.tape, hg.output, hg.size, fun k hk => hg.block k hk (by simp)⟩
 | some j => exact h.grown hg (hr j rfl)
theorem grown_row {a b c : World} {row row2 : Option Nat} (h : a.grownBy b row) (k : b.grownBy c row2) (hr : ∀ j, row2 = some j -> a.heap.size <= j) : a.grownBy c row :=
 ⟨k.os.trans h.os, k.tape.trans h.tape, k.output.trans h.output, Nat.le_trans h.size k.size, fun q hq hn => (k.block q (Nat.lt_of_lt_of_le hq h.size) (fun e => by have := hr q e.symm; omega)).trans (h.block q hq hn)⟩
theorem keep_row {w w' : World} {row : Option Nat} {k N : Nat} {o : Obj} (h : w.heap[k]? = some o) (hg : w.grownBy w' row) (hr : ∀ j, row = some j -> N <= j) (hk : k < N) : w'.heap[k]? = some o :=
 (hg.block k (Array.getElem?_eq_some_iff.1 h).1 (fun e => by have := hr k e.symm; omega)).trans h
theorem Ek.at2 {w : World} {base n cap : Nat} {a : Option Addr} {l : List RE} (h : Ek w base (.slice a n cap) l) : ∀ j (hj : j < l.length), At2 w a j l[j] := by
 obtain ⟨a', cap', e, h2⟩ := h.form;injection e with e1 e2 e3;subst e1;exact h2
theorem mapmaxd (l : List RE) (h : ∀ e ∈ l, e.d <= e.S.length) (B : Nat) (hB : (l.flatMap RE.S).length <= B) : ∀ e ∈ l, e.d <= B := fun e he => by
 have h1 := h e he;obtain ⟨p, q, rfl⟩ := List.append_of_mem he;simp only [List.flatMap_append, List.flatMap_cons, lsa] at hB; omega
theorem rAtom_L (n : Nat) (r : RS) (hb : r.bad = 0) : rAtom (n + 1) r = aL n r 0 := by rw [rAtom, if_neg (by omega)]; rfl
theorem ratom_p (n : Nat) (E : Hid (RExprAt n)) (EE : Hid (∀ m, m <= n -> RExprAt m)) : RAtomAt (n + 1) := by
 intro g r x w hps htb hpw hc;have hgw : g < w.heap.size := hps.lt;have HP := h_ hps;have HTD := h_ htb;have HTB := h_ hpw;have HGR := h_ (show GR r from ⟨hps.good, htb⟩);clear hps htb hpw;go_enter Tryz.func138, Tryz.ntmps138
 go_upto_region 1 with fail
 obtain ⟨w1, kr, hw, hkk, hb, -, HBr⟩ := newb w #[.string ⟨#[]⟩, .int .i64 0] 117;have hgr : g < kr := by rw [hkk]; exact HP.out.lt
 have her : w.heap.size <= kr := by omega
 rw [hw, <- hkk];replace HP := h_ (HP.out.below hb);replace HTB := h_ (HTB.out.below hb);have HD := h_ (below_grown hb (some g));clear hw hb hkk;go_wp2_with fail
 refine (at_p g r w1 HP.out).mono ?_;rintro e w2 ⟨rfl, hb⟩;replace HBr := kB hb HBr;replace HP := h_ (HP.out.below hb);replace HTB := h_ (HTB.out.below hb);replace HD := dB HD hb;have hsz2 := HD.out.size;clear hb;simp only [tokV];obtain ⟨t, hnx⟩ : ∃ t, t = RS.at' r := ⟨_, rfl⟩
 rw [<- hnx];have HNt := h_ hnx;clear hnx;go_upto_region 2 with fail
 obtain ⟨w3, kt, hw, hkk, hb, -, HBt⟩ := newb w2 #[.int .i64 (t.kind : Nat), .string ⟨t.text.toArray⟩, .int .i64 (t.line : Nat), .int .i64 (t.col : Nat)] 60;have hgt : g < kt := by rw [hkk]; exact HP.out.lt
 have het : w.heap.size <= kt := by omega
 have hr_t : kr < kt := by rw [hkk]; exact lt_of_block HBr.out
 rw [hw, <- hkk];replace HBr := kB hb HBr;replace HP := h_ (HP.out.below hb);replace HTB := h_ (HTB.out.below hb);replace HD := dB HD hb;have hsz3 := HD.out.size;clear hw hb hkk;have hT := HTD.out.at;rw [<- HNt.out] at hT;obtain ⟨pb, pi, pn, pc, p1, -⟩ := HP.out;have p2 := cell_at (v := .int .i64 (r.bad : Nat)) p1 2 rfl;clear p1
 by_cases hb : r.bad ≠ 0
 ·have hb' : (((r.bad : Nat) : Int) == 0) = false := by rw [beq_eq_false_iff_ne]; omega
  rw [rAtom, if_pos hb] at hc;injection hc with hc;subst hc;obtain ⟨z0, z1⟩ := cl2 HBr.out;obtain ⟨fz0, fz1⟩ := fr2 HBr.out;go_wp2_with fail
  have hg := st2_grown w3 kr (.string ⟨#[]⟩) (.int .i64 0);exact bodyPost_ret (v := .agg #[.string ⟨#[]⟩, .int .i64 0]) (by simp [results, Tryz.results138, go_sem, z0, z1]) rfl ⟨rfl, HP.out.store (by omega) hg, grown_new HD.out hg (by omega)⟩
 have hb0 : r.bad = 0 := by omega
 rw [hb0] at p2;rw [rAtom_L n r hb0] at hc;have HC0 := h_ hc;have HB0 := h_ hb0;clear hc hb hb0;go_wp2_with fail
 clear p2;obtain ⟨w4, ks, hw, hkk, hb, -, HBs⟩ := newb w3 #[.string ⟨#[116, 114, 117, 101]⟩, .string ⟨#[102, 97, 108, 115, 101]⟩, .string ⟨#[118]⟩, .string ⟨#[91, 93]⟩] 9;have hgs : g < ks := by rw [hkk]; exact HP.out.lt
 have hes : w.heap.size <= ks := by omega
 have hr_s : kr < ks := by rw [hkk]; exact lt_of_block HBr.out
 have ht_s : kt < ks := by rw [hkk]; exact lt_of_block HBt.out
 rw [hw, <- hkk];replace HBr := kB hb HBr;replace HBt := kB hb HBt;replace HP := h_ (HP.out.below hb);replace HTB := h_ (HTB.out.below hb);replace HD := dB HD hb;have hsz4 := HD.out.size;clear hw hb hkk
 go_loopw [18] (fun i wr => ∃ j : Nat, i = .int .i64 (j : Nat) /\ j <= 4 /\ Hid (aL n r j = some x) /\ Hid (PR wr g r) /\ Hid (Pw wr g) /\ Hid (w.grownBy wr (some g)) /\ Hid (wr.heap[kr]? = some (.cells #[.string ⟨#[]⟩, .int .i64 0] 117 (0, 0))) /\ Hid (wr.heap[kt]? = some (.cells #[.int .i64 (t.kind : Nat), .string ⟨t.text.toArray⟩, .int .i64 (t.line : Nat), .int .i64 (t.col : Nat)] 60 (0, 0))) /\ Hid (wr.heap[ks]? = some (.cells #[.string ⟨#[116, 114, 117, 101]⟩, .string ⟨#[102, 97, 108, 115, 101]⟩, .string ⟨#[118]⟩, .string ⟨#[91, 93]⟩] 9 (0, 0)))) (fun i _ => 4 - (intOf i).toNat)
 case atStart => exact ⟨0, rfl, by omega, HC0, HP, HTB, HD, HBr, HBt, HBs⟩
 case round =>
  clear HP HTB HD HBr HBt HBs HC0;obtain ⟨j, rfl, hj, HU, HP, HTB, HD, HBr, HBt, HBs⟩ := hrel;have hszr := HD.out.size;have hjj : j = 0 \/ j = 1 \/ j = 2 \/ j = 3 \/ j = 4 := by omega
  rcases hjj with rfl | rfl | rfl | rfl | rfl
  ·have HH : Hid ((if r.is wTrue then some (mk 1 r.at' [] [], r.inc) else aL n r 1) = some x) := h_ HU.out;obtain ⟨s0, s1, s2, s3⟩ := cl4 HBs.out;go_wp2_with fail
   refine (is_p g r [116, 114, 117, 101] wr HP.out).mono ?_;rintro e w5 ⟨rfl, hb⟩;clear s0 s1 s2 s3;replace HBr := kB hb HBr;replace HBt := kB hb HBt;replace HBs := kB hb HBs;replace HP := h_ (HP.out.below hb);replace HTB := h_ (HTB.out.below hb);replace HD := dB HD hb;have hsz5 := HD.out.size;clear hb
   cases hi : r.is [116, 114, 117, 101]
   ·have HN : Hid (aL n r 1 = some x) := h_ (by have h := HH.out; rw [if_neg (show ¬ (r.is wTrue = true) by rw [show r.is wTrue = false from hi]; decide)] at h; exact h);go_wp2_with fail
    go_roundw
    case rel => exact ⟨1, by go_num, by omega, HN, HP, HTB, HD, HBr, HBt, HBs⟩
    case measure => simp [intOf]
   have h := HH.out;rw [if_pos (show r.is wTrue = true from hi)] at h;injection h with h;subst h;have HIK := h_ (RS.is_kind hi);clear hi HU HH;have HK4 : Hid (r.at'.kind ≠ 4) := h_ (HIK.out.1);obtain ⟨pb, pi, pn, pc, h1, h2, h3, h4, h5, h6, h7, h8, h9⟩ := HP.out;have g1 := cell_at (v := .int .i64 (pi : Nat)) h1 1 rfl;have f1 := froz_at h1 1;have hil : pi <= 30000 := by omega
   have HH := h_ (And.intro h1 (And.intro h2 (And.intro h3 (And.intro h4 (And.intro h5 (And.intro h6 (And.intro h7 (And.intro h8 h9))))))));clear h1 h2 h3 h4 h5 h6 h7 h8 h9;go_upto_region 9 with fail
   clear g1 f1;obtain ⟨h1, h2, h3, h4, h5, h6, h7, h8, h9⟩ := HH.out;have hc0 := heap_setCell_same _ g 1 _ _ (.int .i64 ((pi + 1 : Nat) : Int)) h1;obtain ⟨w6, hw⟩ : ∃ x, x = w5.setCell ⟨g, 1, none⟩ (.int .i64 ((pi + 1 : Nat) : Int)) := ⟨_, rfl⟩
   have hg : w5.grownBy w6 (some g) := by rw [hw]; exact grown_set _ _ _ _
   rw [<- hw] at hc0;have hw' : w5.setCell ⟨g, 1, none⟩ (.int .i64 ((pi : Int) + 1)) = w6 := by rw [hw]; rfl
   rw [hw'];have hp := PR.inc hg hc0 HK4.out h2 h3 h4 h5 h6 h7 h8 h9;clear hw hw' hc0 h1 h2 h3 h4 h5 h6 h7 h8 h9 HH HK4 hil;replace HBr := kG hg HBr;replace HBt := kG hg HBt;replace HBs := kG hg HBs;replace HTB := h_ (HTB.out.grown hg (by omega));replace HP := h_ hp;replace HD := dG HD hg;clear hp hg;obtain ⟨c0, c1, c2, c3⟩ := cl4 HBt.out;go_wp2_with fail
   refine (made_p 1 t [] none 0 [] w6 HTB.out.1 (by decide) hT.1 hT.2.1 (by simp) (fun j hj => by simp at hj) (by simp) (by simp) (by simp)).mono ?_;rintro e w7 ⟨rfl, hb⟩;clear c0 c1 c2 c3;replace HBr := kB hb HBr;replace HBt := kB hb HBt;replace HBs := kB hb HBs;replace HP := h_ (HP.out.below hb);replace HTB := h_ (HTB.out.below hb);replace HD := dB HD hb;have hsz7 := HD.out.size;clear hb;simp only [eV];obtain ⟨z0, z1⟩ := cl2 HBr.out;obtain ⟨fz0, fz1⟩ := fr2 HBr.out;go_wp2_with fail
   have hg := st2_grown w7 kr (.string ⟨(mk 1 t [] []).S.toArray⟩) (.int .i64 ((mk 1 t [] []).d : Nat));exact bodyPost_ret (v := .agg #[.string ⟨(mk 1 t [] []).S.toArray⟩, .int .i64 ((mk 1 t [] []).d : Nat)]) (by simp [results, Tryz.results138, go_sem, z0, z1]) rfl ⟨by rw [HNt.out]; rfl, HP.out.store (by omega) hg, grown_new HD.out hg (by omega)⟩
  ·have HH : Hid ((if r.is wFalse then some (mk 2 r.at' [] [], r.inc) else aL n r 2) = some x) := h_ HU.out;obtain ⟨s0, s1, s2, s3⟩ := cl4 HBs.out;go_wp2_with fail
   refine (is_p g r [102, 97, 108, 115, 101] wr HP.out).mono ?_;rintro e w5 ⟨rfl, hb⟩;clear s0 s1 s2 s3;replace HBr := kB hb HBr;replace HBt := kB hb HBt;replace HBs := kB hb HBs;replace HP := h_ (HP.out.below hb);replace HTB := h_ (HTB.out.below hb);replace HD := dB HD hb;have hsz5 := HD.out.size;clear hb
   cases hi : r.is [102, 97, 108, 115, 101]
   ·have HN : Hid (aL n r 2 = some x) := h_ (by have h := HH.out; rw [if_neg (show ¬ (r.is wFalse = true) by rw [show r.is wFalse = false from hi]; decide)] at h; exact h);go_wp2_with fail
    go_roundw
    case rel => exact ⟨2, by go_num, by omega, HN, HP, HTB, HD, HBr, HBt, HBs⟩
    case measure => simp [intOf]
   have h := HH.out;rw [if_pos (show r.is wFalse = true from hi)] at h;injection h with h;subst h;have HIK := h_ (RS.is_kind hi);clear hi HU HH;have HK4 : Hid (r.at'.kind ≠ 4) := h_ (HIK.out.1);obtain ⟨pb, pi, pn, pc, h1, h2, h3, h4, h5, h6, h7, h8, h9⟩ := HP.out;have g1 := cell_at (v := .int .i64 (pi : Nat)) h1 1 rfl;have f1 := froz_at h1 1;have hil : pi <= 30000 := by omega
   have HH := h_ (And.intro h1 (And.intro h2 (And.intro h3 (And.intro h4 (And.intro h5 (And.intro h6 (And.intro h7 (And.intro h8 h9))))))));clear h1 h2 h3 h4 h5 h6 h7 h8 h9;go_upto_region 9 with fail
   clear g1 f1;obtain ⟨h1, h2, h3, h4, h5, h6, h7, h8, h9⟩ := HH.out;have hc0 := heap_setCell_same _ g 1 _ _ (.int .i64 ((pi + 1 : Nat) : Int)) h1;obtain ⟨w6, hw⟩ : ∃ x, x = w5.setCell ⟨g, 1, none⟩ (.int .i64 ((pi + 1 : Nat) : Int)) := ⟨_, rfl⟩
   have hg : w5.grownBy w6 (some g) := by rw [hw]; exact grown_set _ _ _ _
   rw [<- hw] at hc0;have hw' : w5.setCell ⟨g, 1, none⟩ (.int .i64 ((pi : Int) + 1)) = w6 := by rw [hw]; rfl
   rw [hw'];have hp := PR.inc hg hc0 HK4.out h2 h3 h4 h5 h6 h7 h8 h9;clear hw hw' hc0 h1 h2 h3 h4 h5 h6 h7 h8 h9 HH HK4 hil;replace HBr := kG hg HBr;replace HBt := kG hg HBt;replace HBs := kG hg HBs;replace HTB := h_ (HTB.out.grown hg (by omega));replace HP := h_ hp;replace HD := dG HD hg;clear hp hg;obtain ⟨c0, c1, c2, c3⟩ := cl4 HBt.out;go_wp2_with fail
   refine (made_p 2 t [] none 0 [] w6 HTB.out.1 (by decide) hT.1 hT.2.1 (by simp) (fun j hj => by simp at hj) (by simp) (by simp) (by simp)).mono ?_;rintro e w7 ⟨rfl, hb⟩;clear c0 c1 c2 c3;replace HBr := kB hb HBr;replace HBt := kB hb HBt;replace HBs := kB hb HBs;replace HP := h_ (HP.out.below hb);replace HTB := h_ (HTB.out.below hb);replace HD := dB HD hb;have hsz7 := HD.out.size;clear hb;simp only [eV];obtain ⟨z0, z1⟩ := cl2 HBr.out;obtain ⟨fz0, fz1⟩ := fr2 HBr.out;go_wp2_with fail
   have hg := st2_grown w7 kr (.string ⟨(mk 2 t [] []).S.toArray⟩) (.int .i64 ((mk 2 t [] []).d : Nat));exact bodyPost_ret (v := .agg #[.string ⟨(mk 2 t [] []).S.toArray⟩, .int .i64 ((mk 2 t [] []).d : Nat)]) (by simp [results, Tryz.results138, go_sem, z0, z1]) rfl ⟨by rw [HNt.out]; rfl, HP.out.store (by omega) hg, grown_new HD.out hg (by omega)⟩
  ·have HH : Hid ((if r.is wV then some (mk 3 r.at' wV [], r.inc) else aL n r 3) = some x) := h_ HU.out;obtain ⟨s0, s1, s2, s3⟩ := cl4 HBs.out;go_wp2_with fail
   refine (is_p g r [118] wr HP.out).mono ?_;rintro e w5 ⟨rfl, hb⟩;clear s0 s1 s2 s3;replace HBr := kB hb HBr;replace HBt := kB hb HBt;replace HBs := kB hb HBs;replace HP := h_ (HP.out.below hb);replace HTB := h_ (HTB.out.below hb);replace HD := dB HD hb;have hsz5 := HD.out.size;clear hb
   cases hi : r.is [118]
   ·have HN : Hid (aL n r 3 = some x) := h_ (by have h := HH.out; rw [if_neg (show ¬ (r.is wV = true) by rw [show r.is wV = false from hi]; decide)] at h; exact h);go_wp2_with fail
    go_roundw
    case rel => exact ⟨3, by go_num, by omega, HN, HP, HTB, HD, HBr, HBt, HBs⟩
    case measure => simp [intOf]
   have h := HH.out;rw [if_pos (show r.is wV = true from hi)] at h;injection h with h;subst h;have HIK := h_ (RS.is_kind hi);clear hi HU HH;have HK4 : Hid (r.at'.kind ≠ 4) := h_ (HIK.out.1);obtain ⟨pb, pi, pn, pc, h1, h2, h3, h4, h5, h6, h7, h8, h9⟩ := HP.out;have g1 := cell_at (v := .int .i64 (pi : Nat)) h1 1 rfl;have f1 := froz_at h1 1;have hil : pi <= 30000 := by omega
   have HH := h_ (And.intro h1 (And.intro h2 (And.intro h3 (And.intro h4 (And.intro h5 (And.intro h6 (And.intro h7 (And.intro h8 h9))))))));clear h1 h2 h3 h4 h5 h6 h7 h8 h9;go_upto_region 9 with fail
   clear g1 f1;obtain ⟨h1, h2, h3, h4, h5, h6, h7, h8, h9⟩ := HH.out;have hc0 := heap_setCell_same _ g 1 _ _ (.int .i64 ((pi + 1 : Nat) : Int)) h1;obtain ⟨w6, hw⟩ : ∃ x, x = w5.setCell ⟨g, 1, none⟩ (.int .i64 ((pi + 1 : Nat) : Int)) := ⟨_, rfl⟩
   have hg : w5.grownBy w6 (some g) := by rw [hw]; exact grown_set _ _ _ _
   rw [<- hw] at hc0;have hw' : w5.setCell ⟨g, 1, none⟩ (.int .i64 ((pi : Int) + 1)) = w6 := by rw [hw]; rfl
   rw [hw'];have hp := PR.inc hg hc0 HK4.out h2 h3 h4 h5 h6 h7 h8 h9;clear hw hw' hc0 h1 h2 h3 h4 h5 h6 h7 h8 h9 HH HK4 hil;replace HBr := kG hg HBr;replace HBt := kG hg HBt;replace HBs := kG hg HBs;replace HTB := h_ (HTB.out.grown hg (by omega));replace HP := h_ hp;replace HD := dG HD hg;clear hp hg;obtain ⟨c0, c1, c2, c3⟩ := cl4 HBt.out;go_wp2_with fail
   refine (made_p 3 t [118] none 0 [] w6 HTB.out.1 (by decide) hT.1 hT.2.1 (by simp) (fun j hj => by simp at hj) (by simp) (by simp) (by simp)).mono ?_;rintro e w7 ⟨rfl, hb⟩;clear c0 c1 c2 c3;replace HBr := kB hb HBr;replace HBt := kB hb HBt;replace HBs := kB hb HBs;replace HP := h_ (HP.out.below hb);replace HTB := h_ (HTB.out.below hb);replace HD := dB HD hb;have hsz7 := HD.out.size;clear hb;simp only [eV];obtain ⟨z0, z1⟩ := cl2 HBr.out;obtain ⟨fz0, fz1⟩ := fr2 HBr.out;go_wp2_with fail
   have hg := st2_grown w7 kr (.string ⟨(mk 3 t [118] []).S.toArray⟩) (.int .i64 ((mk 3 t [118] []).d : Nat));exact bodyPost_ret (v := .agg #[.string ⟨(mk 3 t [118] []).S.toArray⟩, .int .i64 ((mk 3 t [118] []).d : Nat)]) (by simp [results, Tryz.results138, go_sem, z0, z1]) rfl ⟨by rw [HNt.out]; rfl, HP.out.store (by omega) hg, grown_new HD.out hg (by omega)⟩
  ·have HH : Hid ((if r.is wNil then some (mk 4 r.at' [] [], r.inc) else aL n r 4) = some x) := h_ HU.out;obtain ⟨s0, s1, s2, s3⟩ := cl4 HBs.out;go_wp2_with fail
   refine (is_p g r [91, 93] wr HP.out).mono ?_;rintro e w5 ⟨rfl, hb⟩;clear s0 s1 s2 s3;replace HBr := kB hb HBr;replace HBt := kB hb HBt;replace HBs := kB hb HBs;replace HP := h_ (HP.out.below hb);replace HTB := h_ (HTB.out.below hb);replace HD := dB HD hb;have hsz5 := HD.out.size;clear hb
   cases hi : r.is [91, 93]
   ·have HN : Hid (aL n r 4 = some x) := h_ (by have h := HH.out; rw [if_neg (show ¬ (r.is wNil = true) by rw [show r.is wNil = false from hi]; decide)] at h; exact h);go_wp2_with fail
    go_roundw
    case rel => exact ⟨4, by go_num, by omega, HN, HP, HTB, HD, HBr, HBt, HBs⟩
    case measure => simp [intOf]
   have h := HH.out;rw [if_pos (show r.is wNil = true from hi)] at h;injection h with h;subst h;have HIK := h_ (RS.is_kind hi);clear hi HU HH;have HK4 : Hid (r.at'.kind ≠ 4) := h_ (HIK.out.1);obtain ⟨pb, pi, pn, pc, h1, h2, h3, h4, h5, h6, h7, h8, h9⟩ := HP.out;have g1 := cell_at (v := .int .i64 (pi : Nat)) h1 1 rfl;have f1 := froz_at h1 1;have hil : pi <= 30000 := by omega
   have HH := h_ (And.intro h1 (And.intro h2 (And.intro h3 (And.intro h4 (And.intro h5 (And.intro h6 (And.intro h7 (And.intro h8 h9))))))));clear h1 h2 h3 h4 h5 h6 h7 h8 h9;go_upto_region 9 with fail
   clear g1 f1;obtain ⟨h1, h2, h3, h4, h5, h6, h7, h8, h9⟩ := HH.out;have hc0 := heap_setCell_same _ g 1 _ _ (.int .i64 ((pi + 1 : Nat) : Int)) h1;obtain ⟨w6, hw⟩ : ∃ x, x = w5.setCell ⟨g, 1, none⟩ (.int .i64 ((pi + 1 : Nat) : Int)) := ⟨_, rfl⟩
   have hg : w5.grownBy w6 (some g) := by rw [hw]; exact grown_set _ _ _ _
   rw [<- hw] at hc0;have hw' : w5.setCell ⟨g, 1, none⟩ (.int .i64 ((pi : Int) + 1)) = w6 := by rw [hw]; rfl
   rw [hw'];have hp := PR.inc hg hc0 HK4.out h2 h3 h4 h5 h6 h7 h8 h9;clear hw hw' hc0 h1 h2 h3 h4 h5 h6 h7 h8 h9 HH HK4 hil;replace HBr := kG hg HBr;replace HBt := kG hg HBt;replace HBs := kG hg HBs;replace HTB := h_ (HTB.out.grown hg (by omega));replace HP := h_ hp;replace HD := dG HD hg;clear hp hg;obtain ⟨c0, c1, c2, c3⟩ := cl4 HBt.out;go_wp2_with fail
   refine (made_p 4 t [] none 0 [] w6 HTB.out.1 (by decide) hT.1 hT.2.1 (by simp) (fun j hj => by simp at hj) (by simp) (by simp) (by simp)).mono ?_;rintro e w7 ⟨rfl, hb⟩;clear c0 c1 c2 c3;replace HBr := kB hb HBr;replace HBt := kB hb HBt;replace HBs := kB hb HBs;replace HP := h_ (HP.out.below hb);replace HTB := h_ (HTB.out.below hb);replace HD := dB HD hb;have hsz7 := HD.out.size;clear hb;simp only [eV];obtain ⟨z0, z1⟩ := cl2 HBr.out;obtain ⟨fz0, fz1⟩ := fr2 HBr.out;go_wp2_with fail
   have hg := st2_grown w7 kr (.string ⟨(mk 4 t [] []).S.toArray⟩) (.int .i64 ((mk 4 t [] []).d : Nat));exact bodyPost_ret (v := .agg #[.string ⟨(mk 4 t [] []).S.toArray⟩, .int .i64 ((mk 4 t [] []).d : Nat)]) (by simp [results, Tryz.results138, go_sem, z0, z1]) rfl ⟨by rw [HNt.out]; rfl, HP.out.store (by omega) hg, grown_new HD.out hg (by omega)⟩
  have hc : aLT n r = some x := HU.out;unfold aLT at hc;clear HU
  by_cases h1k : t.kind = 1
  ·have h1' : (((t.kind : Nat) : Int) == 1) = true := by rw [h1k]; rfl
   rw [if_pos (show r.at'.kind = 1 by rw [<- HNt.out]; exact h1k)] at hc;injection hc with hc;subst hc;have HK : Hid (r.at'.kind ≠ 4) := h_ (by rw [<- HNt.out]; omega);obtain ⟨d0, d1, d2, d3⟩ := cl4 HBt.out;go_upto_region 14 with fail
   clear h1' h1k;have HK4 : Hid (r.at'.kind ≠ 4) := h_ (HK.out);obtain ⟨pb, pi, pn, pc, h1, h2, h3, h4, h5, h6, h7, h8, h9⟩ := HP.out;have g1 := cell_at (v := .int .i64 (pi : Nat)) h1 1 rfl;have f1 := froz_at h1 1;have hil : pi <= 30000 := by omega
   have HH := h_ (And.intro h1 (And.intro h2 (And.intro h3 (And.intro h4 (And.intro h5 (And.intro h6 (And.intro h7 (And.intro h8 h9))))))));clear h1 h2 h3 h4 h5 h6 h7 h8 h9;go_upto_region 15 with fail
   clear g1 f1;obtain ⟨h1, h2, h3, h4, h5, h6, h7, h8, h9⟩ := HH.out;have hc0 := heap_setCell_same _ g 1 _ _ (.int .i64 ((pi + 1 : Nat) : Int)) h1;obtain ⟨w5, hw⟩ : ∃ x, x = wr.setCell ⟨g, 1, none⟩ (.int .i64 ((pi + 1 : Nat) : Int)) := ⟨_, rfl⟩
   have hg : wr.grownBy w5 (some g) := by rw [hw]; exact grown_set _ _ _ _
   rw [<- hw] at hc0;have hw' : wr.setCell ⟨g, 1, none⟩ (.int .i64 ((pi : Int) + 1)) = w5 := by rw [hw]; rfl
   rw [hw'];have hp := PR.inc hg hc0 HK4.out h2 h3 h4 h5 h6 h7 h8 h9;clear hw hw' hc0 h1 h2 h3 h4 h5 h6 h7 h8 h9 HH HK4 hil;clear d0 d1 d2 d3;replace HBr := kG hg HBr;replace HBt := kG hg HBt;replace HBs := kG hg HBs;replace HTB := h_ (HTB.out.grown hg (by omega));replace HP := h_ hp;replace HD := dG HD hg;have hsz5 := HD.out.size;clear hp hg;obtain ⟨c0, c1, c2, c3⟩ := cl4 HBt.out;go_wp2_with fail
   refine (made_p 0 t t.text none 0 [] w5 HTB.out.1 (by decide) hT.1 hT.2.1 (by have := hT.2.2; omega) (fun j hj => by simp at hj) (by simp) (by simp) (by simp)).mono ?_;rintro e w6 ⟨rfl, hb⟩;clear c0 c1 c2 c3;replace HBr := kB hb HBr;replace HBt := kB hb HBt;replace HBs := kB hb HBs;replace HP := h_ (HP.out.below hb);replace HTB := h_ (HTB.out.below hb);replace HD := dB HD hb;have hsz6 := HD.out.size;clear hb;simp only [eV];obtain ⟨z0, z1⟩ := cl2 HBr.out;obtain ⟨fz0, fz1⟩ := fr2 HBr.out;go_wp2_with fail
   have hg := st2_grown w6 kr (.string ⟨(mk 0 t t.text []).S.toArray⟩) (.int .i64 ((mk 0 t t.text []).d : Nat));exact bodyPost_ret (v := .agg #[.string ⟨(mk 0 t t.text []).S.toArray⟩, .int .i64 ((mk 0 t t.text []).d : Nat)]) (by simp [results, Tryz.results138, go_sem, z0, z1]) rfl ⟨by rw [HNt.out]; rfl, HP.out.store (by omega) hg, grown_new HD.out hg (by omega)⟩
  have h1' : (((t.kind : Nat) : Int) == 1) = false := by rw [beq_eq_false_iff_ne]; omega
  rw [if_neg (show ¬ (r.at'.kind = 1) by rw [<- HNt.out]; exact h1k)] at hc;obtain ⟨d0, d1, d2, d3⟩ := cl4 HBt.out;go_wp2_with fail
  refine (is_p g r [40] wr HP.out).mono ?_;rintro e w5 ⟨rfl, hb⟩;clear d0 d1 d2 d3;replace HBr := kB hb HBr;replace HBt := kB hb HBt;replace HBs := kB hb HBs;replace HP := h_ (HP.out.below hb);replace HTB := h_ (HTB.out.below hb);replace HD := dB HD hb;have hsz5 := HD.out.size;clear hb;clear h1' h1k
  cases hi : r.is [40]
  ·rw [if_neg (show ¬ (r.is wOpen = true) by rw [show r.is wOpen = false from hi]; decide)] at hc;clear hi;go_wp2_with fail
   refine (rname_p g r w5 HP.out).mono ?_;rintro e w6 ⟨rfl, hp, hg⟩;replace HBr := kG hg HBr;replace HBt := kG hg HBt;replace HBs := kG hg HBs;replace HTB := h_ (HTB.out.grown hg (by omega));replace HP := h_ hp;replace HD := dG HD hg;clear hp hg;simp only [tokV];have HG1 := h_ HGR.out.name;go_wp2_with fail
   refine (is_p g r.name [40] w6 HP.out).mono ?_;rintro e w7 ⟨rfl, hb⟩;replace HBr := kB hb HBr;replace HBt := kB hb HBt;replace HBs := kB hb HBs;replace HP := h_ (HP.out.below hb);replace HTB := h_ (HTB.out.below hb);replace HD := dB HD hb;have hsz7 := HD.out.size;clear hb
   cases hi : r.name.is [40]
   ·rw [if_neg (show ¬ (r.name.is wOpen = true) by rw [show r.name.is wOpen = false from hi]; decide)] at hc;injection hc with hc;subst hc;clear hi;go_upto_region 23 with fail
    obtain ⟨c0, c1, c2, c3⟩ := cl4 HBt.out;go_wp2_with fail
    refine (made_p 3 t t.text none 0 [] w7 HTB.out.1 (by decide) hT.1 hT.2.1 (by have := hT.2.2; omega) (fun j hj => by simp at hj) (by simp) (by simp) (by simp)).mono ?_;rintro e w8 ⟨rfl, hb⟩;clear c0 c1 c2 c3;replace HBr := kB hb HBr;replace HBt := kB hb HBt;replace HBs := kB hb HBs;replace HP := h_ (HP.out.below hb);replace HTB := h_ (HTB.out.below hb);replace HD := dB HD hb;have hsz8 := HD.out.size;clear hb;simp only [eV];obtain ⟨z0, z1⟩ := cl2 HBr.out;obtain ⟨fz0, fz1⟩ := fr2 HBr.out;go_wp2_with fail
    have hg := st2_grown w8 kr (.string ⟨(mk 3 t t.text []).S.toArray⟩) (.int .i64 ((mk 3 t t.text []).d : Nat));exact bodyPost_ret (v := .agg #[.string ⟨(mk 3 t t.text []).S.toArray⟩, .int .i64 ((mk 3 t t.text []).d : Nat)]) (by simp [results, Tryz.results138, go_sem, z0, z1]) rfl ⟨by rw [HNt.out]; rfl, HP.out.store (by omega) hg, grown_new HD.out hg (by omega)⟩
   rw [if_pos (show r.name.is wOpen = true from hi), Option.bind_eq_some_iff] at hc;obtain ⟨x1, h1, h2⟩ := hc;injection h2 with h2;subst h2;have H1 := h_ h1;have HIK := h_ (RS.is_kind hi);clear hi h1;have HK4 : Hid (r.name.at'.kind ≠ 4) := h_ (HIK.out.1);obtain ⟨pb, pi, pn, pc, h1, h2, h3, h4, h5, h6, h7, h8, h9⟩ := HP.out;have g1 := cell_at (v := .int .i64 (pi : Nat)) h1 1 rfl;have f1 := froz_at h1 1;have hil : pi <= 30000 := by omega
   have HH := h_ (And.intro h1 (And.intro h2 (And.intro h3 (And.intro h4 (And.intro h5 (And.intro h6 (And.intro h7 (And.intro h8 h9))))))));clear h1 h2 h3 h4 h5 h6 h7 h8 h9;go_upto_region 25 with fail
   clear g1 f1;obtain ⟨h1, h2, h3, h4, h5, h6, h7, h8, h9⟩ := HH.out;have hc0 := heap_setCell_same _ g 1 _ _ (.int .i64 ((pi + 1 : Nat) : Int)) h1;obtain ⟨w8, hw⟩ : ∃ x, x = w7.setCell ⟨g, 1, none⟩ (.int .i64 ((pi + 1 : Nat) : Int)) := ⟨_, rfl⟩
   have hg : w7.grownBy w8 (some g) := by rw [hw]; exact grown_set _ _ _ _
   rw [<- hw] at hc0;have hw' : w7.setCell ⟨g, 1, none⟩ (.int .i64 ((pi : Int) + 1)) = w8 := by rw [hw]; rfl
   rw [hw'];have hp := PR.inc hg hc0 HK4.out h2 h3 h4 h5 h6 h7 h8 h9;clear hw hw' hc0 h1 h2 h3 h4 h5 h6 h7 h8 h9 HH HK4 hil;replace HBr := kG hg HBr;replace HBt := kG hg HBt;replace HBs := kG hg HBs;replace HTB := h_ (HTB.out.grown hg (by omega));replace HP := h_ hp;replace HD := dG HD hg;have hsz8 := HD.out.size;clear hp hg;obtain ⟨N, hN⟩ : ∃ N, N = w8.heap.size := ⟨_, rfl⟩
   have hrN : kr < N := by rw [hN]; exact lt_of_block HBr.out
   have htN : kt < N := by rw [hN]; exact lt_of_block HBt.out
   have hgN : g < N := by omega
   have hwN : w.heap.size <= N := by omega
   have hNN : N <= w8.heap.size := by omega
   have HEK0 : Hid (Ek w8 N (.slice none 0 0) []) := h_ (World.ownsRow_nil _ _ _ 2);have HQ0 := h_ HP.out.phi;clear hN;go_wp2_with fail
   go_loopw [7] (fun v wr => ∃ (m : Nat) (l : List RE) (r1 : RS), m <= n /\ Hid (rKids m l r1 = some x1) /\ Hid (GR r1) /\ Hid ((∀ e ∈ l, e.d <= e.S.length) /\ l.length + (l.flatMap RE.S).length + phi r1 <= 300000000) /\ Hid (PR wr g r1) /\ Hid (Pw wr g) /\ Hid (w.grownBy wr (some g)) /\ Hid (wr.heap[kr]? = some (.cells #[.string ⟨#[]⟩, .int .i64 0] 117 (0, 0))) /\ Hid (wr.heap[kt]? = some (.cells #[.int .i64 (t.kind : Nat), .string ⟨t.text.toArray⟩, .int .i64 (t.line : Nat), .int .i64 (t.col : Nat)] 60 (0, 0))) /\ Hid (Ek wr N v l) /\ N <= wr.heap.size) (fun _ wr => rPhi wr g)
   case atStart => exact ⟨n, [], r.name.inc, Nat.le_refl _, H1, h_ (HG1.out.inc HIK.out.1), h_ ⟨by simp, by simp only [List.flatMap_nil, lsn]; have := HQ0.out; omega⟩, HP, HTB, HD, HBr, HBt, HEK0, hNN⟩
   case round =>
    clear HP HTB HD HBr HBt HEK0 H1 HQ0 hNN HG1 HIK;obtain ⟨m, l, r1, hmn, HC, HGK, HEB, HP, HTB, HD, HBr, HBt, HEK, hNN⟩ := hrel;have hszr := HD.out.size;have HPHI := h_ (pr_rphi HP.out)
    obtain ⟨m, rfl⟩ : ∃ m', m = m' + 1 := by
     cases m with
     | zero => have := HC.out; simp [rKids] at this
     | succ m => exact ⟨m, rfl⟩
    have hc := HC.out;clear HC;rw [rKids] at hc;obtain ⟨ka, kc, rfl, hat⟩ := HEK.out.form;have HNN := h_ hNN;clear hat hNN;have hll : l.length <= 300000000 := by have := HEB.out.2; omega
    obtain ⟨pb, pi, pn, pc, p1, -⟩ := HP.out;have p2 := cell_at (v := .int .i64 (r1.bad : Nat)) p1 2 rfl;clear p1
    by_cases hb : r1.bad ≠ 0
    ·have hb' : (((r1.bad : Nat) : Int) == 0) = false := by rw [beq_eq_false_iff_ne]; omega
     rw [if_pos (Or.inl hb)] at hc;injection hc with hc;subst hc;clear hb;have hEB := HEB.out;have hS : (l.flatMap RE.S).length <= 1000000000 := by omega
     have hd : ∀ e ∈ l, e.d <= 1000000000 := mapmaxd l hEB.1 _ hS;go_wp2_with fail
     refine (eat_p g (r1) [41] wr HP.out).mono ?_;rintro e w9 ⟨⟨v, rfl⟩, hp, hg⟩;replace HBr := kG hg HBr;replace HBt := kG hg HBt;replace HTB := h_ (HTB.out.grown hg (by omega));replace HEK := h_ (HEK.out.grown hg (by omega));replace HNN := h_ (Nat.le_trans HNN.out hg.size);replace HP := h_ hp;replace HD := dG HD hg;have hsz9 := HD.out.size;clear hp hg;obtain ⟨c0, c1, c2, c3⟩ := cl4 HBt.out;go_wp2_with fail
     refine (made_p 24 t t.text ka kc l w9 HTB.out.1 (by decide) hT.1 hT.2.1 (by have := hT.2.2; omega) HEK.out.at2 (by omega) hS hd).mono ?_;rintro e w10 ⟨rfl, hb⟩;clear c0 c1 c2 c3;replace HBr := kB hb HBr;replace HBt := kB hb HBt;replace HP := h_ (HP.out.below hb);replace HTB := h_ (HTB.out.below hb);replace HEK := h_ (HEK.out.below hb);replace HNN := h_ (Nat.le_trans HNN.out hb.size);replace HD := dB HD hb;have hsz10 := HD.out.size;clear hb;simp only [eV];obtain ⟨z0, z1⟩ := cl2 HBr.out;obtain ⟨fz0, fz1⟩ := fr2 HBr.out;go_wp2_with fail
     have hg := st2_grown w10 kr (.string ⟨(mk 24 t t.text l).S.toArray⟩) (.int .i64 ((mk 24 t t.text l).d : Nat));exact bodyPost_ret (v := .agg #[.string ⟨(mk 24 t t.text l).S.toArray⟩, .int .i64 ((mk 24 t t.text l).d : Nat)]) (by simp [results, Tryz.results138, go_sem, z0, z1]) rfl ⟨by rw [HNt.out]; rfl, HP.out.store (by omega) hg, grown_new HD.out hg (by omega)⟩
    have hb0 : r1.bad = 0 := by omega
    have HB0 := h_ hb0;rw [hb0] at p2;clear hb hb0;go_wp2_with fail
    refine (is_p g r1 [41] wr HP.out).mono ?_;rintro e w9 ⟨rfl, hb⟩;replace HBr := kB hb HBr;replace HBt := kB hb HBt;replace HP := h_ (HP.out.below hb);replace HTB := h_ (HTB.out.below hb);replace HEK := h_ (HEK.out.below hb);replace HNN := h_ (Nat.le_trans HNN.out hb.size);replace HD := dB HD hb;have hsz9 := HD.out.size;clear hb;clear p2
    cases hi : r1.is [41]
    ·rw [if_neg (show ¬ (r1.bad ≠ 0 \/ r1.is wClose = true) by rw [show r1.is wClose = false from hi, HB0.out]; simp)] at hc;clear hi
     by_cases hl : l.length > 0
     ·rw [if_pos hl] at hc;have hl' : (0 : Int) < (l.length : Int) := by omega
      clear hl;go_wp2_with fail
      refine (eat_p g (r1) [44] w9 HP.out).mono ?_;rintro e w10 ⟨⟨v, rfl⟩, hp, hg⟩;replace HBr := kG hg HBr;replace HBt := kG hg HBt;replace HTB := h_ (HTB.out.grown hg (by omega));replace HEK := h_ (HEK.out.grown hg (by omega));replace HNN := h_ (Nat.le_trans HNN.out hg.size);replace HP := h_ hp;replace HD := dG HD hg;have hsz10 := HD.out.size;clear hp hg;clear hl';rw [Option.bind_eq_some_iff] at hc;obtain ⟨x2, h1, h2⟩ := hc;have H1 := h_ h1;have H2 := h_ h2;have HF := h_ ((r_len m).1 _ _ (HGK.out.eat wComma) h1);clear h1 h2;have HKEY : Hid (((r1.eat wComma).bad = 0 /\ phi (r1.eat wComma) <= phi r1) \/ phi (r1.eat wComma) + 7000 <= phi r1) := h_ (.inr (by have h := phi_eat HGK.out wComma; rw [if_pos HB0.out] at h; exact h));go_wp2_with fail
      refine ((EE.out m (by omega)) g (r1.eat wComma) x2 w10 HP.out (HGK.out.eat wComma).2 HTB.out H1.out).mono ?_;rintro e w11 ⟨rfl, hp, hg⟩;replace HBr := kG hg HBr;replace HBt := kG hg HBt;replace HTB := h_ (HTB.out.grown hg (by omega));replace HEK := h_ (HEK.out.grown hg (by omega));replace HNN := h_ (Nat.le_trans HNN.out hg.size);replace HP := h_ hp;replace HD := dG HD hg;have hsz11 := HD.out.size;clear hp hg;simp only [eV];have hO : Below w11.heap.size w11 (w11.alloc (.cells #[.string ⟨x2.1.S.toArray⟩, .int .i64 (x2.1.d : Nat)] 117)) := (Below.refl _ _).alloc (Nat.le_refl _) _;have HEW := h_ (HEK.out.below hO);have HNW : Hid ((w11.alloc (.cells #[.string ⟨x2.1.S.toArray⟩, .int .i64 (x2.1.d : Nat)] 117)).heap[w11.heap.size]? = some (.cells (eC x2.1).toArray 117 (0, 0))) := h_ (made_at _ _ _ rfl);have HOO := h_ hO
      have hNO : N <= (w11.alloc (.cells #[.string ⟨x2.1.S.toArray⟩, .int .i64 (x2.1.d : Nat)] 117)).heap.size := Nat.le_trans HNN.out hO.size;clear hO;go_wp2_with (at_builtin; refine wpList_append_E _ rfl (.tmp 101) (.tmp 104) 195 rfl Tryz.underlying195 infoE N _ l rfl HEW.out w11.heap.size 117 x2.1 rfl HNW.out (by omega) hNO ?_; intro v' w5 hE5 hG5; have HE5 := h_ hE5; have HG5 := h_ hG5; clear hE5 hG5)
      have hlow : ∀ j, (Value.slice ka l.length kc).ownBlock = some j -> N <= j := fun j hj => (HEW.out.lt j hj).1
      go_roundw
      case rel =>
       refine ⟨m, l ++ [x2.1], x2.2, by omega, H2, h_ HF.out.1, h_ ⟨fun e he => ?_, ?_⟩, h_ ((HP.out.below HOO.out).row HG5.out fun j hj => by have := hlow j hj; omega), h_ ((HTB.out.below HOO.out).row HG5.out fun j hj => by have := hlow j hj; omega), h_ (grown_row (grown_tr HD.out (below_grown HOO.out _)) HG5.out fun j hj => by have := hlow j hj; omega), h_ (keep_row ((HOO.out.block _ (lt_of_block HBr.out)).trans HBr.out) HG5.out hlow hrN), h_ (keep_row ((HOO.out.block _ (lt_of_block HBt.out)).trans HBt.out) HG5.out hlow htN), HE5, Nat.le_trans hNO HG5.out.size⟩
       ·rcases List.mem_append.1 he with he | he
        ·exact HEB.out.1 e he
        simp only [List.mem_cons, List.not_mem_nil, or_false] at he; subst he; exact HF.out.2.2.1
       simp only [List.flatMap_append, lsa, fl1, lsc, lsn];have h := HEB.out.2;have hk := HKEY.out;have hf := HF.out;rcases hk with ⟨k1, k2⟩ | k2
       ·have := hf.2.2.2 k1; omega
       have := hf.2.1; omega
      case measure =>
       rw [pr_rphi ((HP.out.below HOO.out).row HG5.out fun j hj => by have := hlow j hj; omega), HPHI.out];have hk := HKEY.out;have hf := HF.out;rcases hk with ⟨k1, k2⟩ | k2
       ·have := hf.2.2.2 k1; omega
       have := hf.2.1; omega
     rw [if_neg hl] at hc;have hl' : ¬ ((0 : Int) < (l.length : Int)) := by omega
     clear hl;rw [Option.bind_eq_some_iff] at hc;obtain ⟨x2, h1, h2⟩ := hc;have H1 := h_ h1;have H2 := h_ h2;have HF := h_ ((r_len m).1 _ _ (HGK.out) h1);clear h1 h2;have HKEY : Hid ((r1.bad = 0 /\ phi r1 <= phi r1) \/ phi r1 + 7000 <= phi r1) := h_ (.inl ⟨HB0.out, Nat.le_refl _⟩);go_wp2_with fail
     refine ((EE.out m (by omega)) g (r1) x2 w9 HP.out (HGK.out).2 HTB.out H1.out).mono ?_;rintro e w10 ⟨rfl, hp, hg⟩;replace HBr := kG hg HBr;replace HBt := kG hg HBt;replace HTB := h_ (HTB.out.grown hg (by omega));replace HEK := h_ (HEK.out.grown hg (by omega));replace HNN := h_ (Nat.le_trans HNN.out hg.size);replace HP := h_ hp;replace HD := dG HD hg;have hsz10 := HD.out.size;clear hp hg;simp only [eV];have hO : Below w10.heap.size w10 (w10.alloc (.cells #[.string ⟨x2.1.S.toArray⟩, .int .i64 (x2.1.d : Nat)] 117)) := (Below.refl _ _).alloc (Nat.le_refl _) _;have HEW := h_ (HEK.out.below hO);have HNW : Hid ((w10.alloc (.cells #[.string ⟨x2.1.S.toArray⟩, .int .i64 (x2.1.d : Nat)] 117)).heap[w10.heap.size]? = some (.cells (eC x2.1).toArray 117 (0, 0))) := h_ (made_at _ _ _ rfl);have HOO := h_ hO
     have hNO : N <= (w10.alloc (.cells #[.string ⟨x2.1.S.toArray⟩, .int .i64 (x2.1.d : Nat)] 117)).heap.size := Nat.le_trans HNN.out hO.size;clear hO;go_wp2_with (at_builtin; refine wpList_append_E _ rfl (.tmp 101) (.tmp 104) 195 rfl Tryz.underlying195 infoE N _ l rfl HEW.out w10.heap.size 117 x2.1 rfl HNW.out (by omega) hNO ?_; intro v' w5 hE5 hG5; have HE5 := h_ hE5; have HG5 := h_ hG5; clear hE5 hG5)
     have hlow : ∀ j, (Value.slice ka l.length kc).ownBlock = some j -> N <= j := fun j hj => (HEW.out.lt j hj).1
     go_roundw
     case rel =>
      refine ⟨m, l ++ [x2.1], x2.2, by omega, H2, h_ HF.out.1, h_ ⟨fun e he => ?_, ?_⟩, h_ ((HP.out.below HOO.out).row HG5.out fun j hj => by have := hlow j hj; omega), h_ ((HTB.out.below HOO.out).row HG5.out fun j hj => by have := hlow j hj; omega), h_ (grown_row (grown_tr HD.out (below_grown HOO.out _)) HG5.out fun j hj => by have := hlow j hj; omega), h_ (keep_row ((HOO.out.block _ (lt_of_block HBr.out)).trans HBr.out) HG5.out hlow hrN), h_ (keep_row ((HOO.out.block _ (lt_of_block HBt.out)).trans HBt.out) HG5.out hlow htN), HE5, Nat.le_trans hNO HG5.out.size⟩
      ·rcases List.mem_append.1 he with he | he
       ·exact HEB.out.1 e he
       simp only [List.mem_cons, List.not_mem_nil, or_false] at he; subst he; exact HF.out.2.2.1
      simp only [List.flatMap_append, lsa, fl1, lsc, lsn];have h := HEB.out.2;have hk := HKEY.out;have hf := HF.out;rcases hk with ⟨k1, k2⟩ | k2
      ·have := hf.2.2.2 k1; omega
      have := hf.2.1; omega
     case measure =>
      rw [pr_rphi ((HP.out.below HOO.out).row HG5.out fun j hj => by have := hlow j hj; omega), HPHI.out];have hk := HKEY.out;have hf := HF.out;rcases hk with ⟨k1, k2⟩ | k2
      ·have := hf.2.2.2 k1; omega
      have := hf.2.1; omega
    rw [if_pos (Or.inr (show r1.is wClose = true from hi))] at hc;injection hc with hc;subst hc;clear hi;have hEB := HEB.out;have hS : (l.flatMap RE.S).length <= 1000000000 := by omega
    have hd : ∀ e ∈ l, e.d <= 1000000000 := mapmaxd l hEB.1 _ hS;go_wp2_with fail
    refine (eat_p g (r1) [41] w9 HP.out).mono ?_;rintro e w10 ⟨⟨v, rfl⟩, hp, hg⟩;replace HBr := kG hg HBr;replace HBt := kG hg HBt;replace HTB := h_ (HTB.out.grown hg (by omega));replace HEK := h_ (HEK.out.grown hg (by omega));replace HNN := h_ (Nat.le_trans HNN.out hg.size);replace HP := h_ hp;replace HD := dG HD hg;have hsz10 := HD.out.size;clear hp hg;obtain ⟨c0, c1, c2, c3⟩ := cl4 HBt.out;go_wp2_with fail
    refine (made_p 24 t t.text ka kc l w10 HTB.out.1 (by decide) hT.1 hT.2.1 (by have := hT.2.2; omega) HEK.out.at2 (by omega) hS hd).mono ?_;rintro e w11 ⟨rfl, hb⟩;clear c0 c1 c2 c3;replace HBr := kB hb HBr;replace HBt := kB hb HBt;replace HP := h_ (HP.out.below hb);replace HTB := h_ (HTB.out.below hb);replace HEK := h_ (HEK.out.below hb);replace HNN := h_ (Nat.le_trans HNN.out hb.size);replace HD := dB HD hb;have hsz11 := HD.out.size;clear hb;simp only [eV];obtain ⟨z0, z1⟩ := cl2 HBr.out;obtain ⟨fz0, fz1⟩ := fr2 HBr.out;go_wp2_with fail
    have hg := st2_grown w11 kr (.string ⟨(mk 24 t t.text l).S.toArray⟩) (.int .i64 ((mk 24 t t.text l).d : Nat));exact bodyPost_ret (v := .agg #[.string ⟨(mk 24 t t.text l).S.toArray⟩, .int .i64 ((mk 24 t t.text l).d : Nat)]) (by simp [results, Tryz.results138, go_sem, z0, z1]) rfl ⟨by rw [HNt.out]; rfl, HP.out.store (by omega) hg, grown_new HD.out hg (by omega)⟩
  rw [if_pos (show r.is wOpen = true from hi), Option.bind_eq_some_iff] at hc;obtain ⟨x1, h1, h2⟩ := hc;injection h2 with h2;subst h2;have H1 := h_ h1;have HIK := h_ (RS.is_kind hi);have HG0 := h_ (HGR.out.inc HIK.out.1);clear hi h1;have HK4 : Hid (r.at'.kind ≠ 4) := h_ (HIK.out.1);obtain ⟨pb, pi, pn, pc, h1, h2, h3, h4, h5, h6, h7, h8, h9⟩ := HP.out;have g1 := cell_at (v := .int .i64 (pi : Nat)) h1 1 rfl;have f1 := froz_at h1 1;have hil : pi <= 30000 := by omega
  have HH := h_ (And.intro h1 (And.intro h2 (And.intro h3 (And.intro h4 (And.intro h5 (And.intro h6 (And.intro h7 (And.intro h8 h9))))))));clear h1 h2 h3 h4 h5 h6 h7 h8 h9;go_upto_region 18 with fail
  clear g1 f1;obtain ⟨h1, h2, h3, h4, h5, h6, h7, h8, h9⟩ := HH.out;have hc0 := heap_setCell_same _ g 1 _ _ (.int .i64 ((pi + 1 : Nat) : Int)) h1;obtain ⟨w6, hw⟩ : ∃ x, x = w5.setCell ⟨g, 1, none⟩ (.int .i64 ((pi + 1 : Nat) : Int)) := ⟨_, rfl⟩
  have hg : w5.grownBy w6 (some g) := by rw [hw]; exact grown_set _ _ _ _
  rw [<- hw] at hc0;have hw' : w5.setCell ⟨g, 1, none⟩ (.int .i64 ((pi : Int) + 1)) = w6 := by rw [hw]; rfl
  rw [hw'];have hp := PR.inc hg hc0 HK4.out h2 h3 h4 h5 h6 h7 h8 h9;clear hw hw' hc0 h1 h2 h3 h4 h5 h6 h7 h8 h9 HH HK4 hil;replace HBr := kG hg HBr;replace HBt := kG hg HBt;replace HBs := kG hg HBs;replace HTB := h_ (HTB.out.grown hg (by omega));replace HP := h_ hp;replace HD := dG HD hg;clear hp hg;have HF1 := h_ ((r_len n).1 _ _ (HG0.out) H1.out)
  have HP1 : Hid (x1.1.S.length <= 300000000 /\ x1.1.d <= 300000000) := h_ (by
   have h : x1.1.S.length <= 300000000 := Nat.le_trans (Nat.le_trans (Nat.le_add_right _ _) HF1.out.2.1) HP.out.phi
   exact ⟨h, Nat.le_trans HF1.out.2.2.1 h⟩)
  go_wp2_with fail
  refine (E.out g _ x1 w6 HP.out (HG0.out).2 HTB.out H1.out).mono ?_;rintro e w7 ⟨rfl, hp, hg⟩;replace HBr := kG hg HBr;replace HBt := kG hg HBt;replace HBs := kG hg HBs;replace HTB := h_ (HTB.out.grown hg (by omega));replace HP := h_ hp;replace HD := dG HD hg;have hsz7 := HD.out.size;clear hp hg;simp only [eV];go_upto_region 19 with fail
  obtain ⟨w8, ka, hw, hkk, hb, -, HBa⟩ := newb w7 #[.string ⟨x1.1.S.toArray⟩, .int .i64 (x1.1.d : Nat)] 117;have hga : g < ka := by rw [hkk]; exact HP.out.lt
  have hea : w.heap.size <= ka := by omega
  have hr_a : kr < ka := by rw [hkk]; exact lt_of_block HBr.out
  have ht_a : kt < ka := by rw [hkk]; exact lt_of_block HBt.out
  have hs_a : ks < ka := by rw [hkk]; exact lt_of_block HBs.out
  rw [hw, <- hkk];replace HBr := kB hb HBr;replace HBt := kB hb HBt;replace HBs := kB hb HBs;replace HP := h_ (HP.out.below hb);replace HTB := h_ (HTB.out.below hb);replace HD := dB HD hb;clear hw hb hkk;go_wp2_with fail
  refine (eat_p g (x1.2) [41] w8 HP.out).mono ?_;rintro e w9 ⟨⟨v, rfl⟩, hp, hg⟩;replace HBr := kG hg HBr;replace HBt := kG hg HBt;replace HBs := kG hg HBs;replace HBa := kG hg HBa;replace HTB := h_ (HTB.out.grown hg (by omega));replace HP := h_ hp;replace HD := dG HD hg;have hsz9 := HD.out.size;clear hp hg;obtain ⟨y0, y1⟩ := cl2 HBa.out;obtain ⟨z0, z1⟩ := cl2 HBr.out;obtain ⟨fz0, fz1⟩ := fr2 HBr.out;go_wp2_with fail
  have hg := st2_grown w9 kr (.string ⟨x1.1.S.toArray⟩) (.int .i64 (x1.1.d : Nat));exact bodyPost_ret (v := .agg #[.string ⟨x1.1.S.toArray⟩, .int .i64 (x1.1.d : Nat)]) (by simp [results, Tryz.results138, go_sem, z0, z1]) rfl ⟨rfl, HP.out.store (by omega) hg, grown_new HD.out hg (by omega)⟩
end Go.Proofs.YtdpfgfkoboihcaaGreatDoor
