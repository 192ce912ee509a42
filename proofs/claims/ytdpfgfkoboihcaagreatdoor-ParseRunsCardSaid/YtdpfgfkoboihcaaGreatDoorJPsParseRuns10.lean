/-
 Joined texts: PsLq, PsLawRuns, PsDoorR.
-/
import Derived.Deep.WholeRow
import Derived.BigQuiet
import Derived.Test.YtdpfgfkoboihcaaGreatDoorCards
import Derived.Test.YtdpfgfkoboihcaaGreatDoorTie
import Derived.ProofKit
import Derived.OpenShut
import Derived.ShutString
import Derived.ChangeOld
import Derived.Deep.DeepHandedRow
import Derived.LaidMore
import Derived.LaidHandle
import Derived.LaidSub
import Derived.Lib.LaidTab
import Derived.Test.YtdpfgfkoboihcaaGreatDoorJPsParseRuns2
import Derived.Test.YtdpfgfkoboihcaaGreatDoorJPsParseRuns5
import Derived.Test.YtdpfgfkoboihcaaGreatDoorJPsParseRuns6
import Derived.Test.YtdpfgfkoboihcaaGreatDoorJPsParseRuns9
set_option maxHeartbeats 32000000
namespace Go.Proofs.YtdpfgfkoboihcaaGreatDoor
open Go.RowKit
set_option maxRecDepth 100000
set_option linter.unusedVariables false
theorem cells12q {w : World} {a : Addr} {q : QlU} {v : Value} {x : X} (h : ∀ j u, (qlC q v x)[j]? = some u -> w.cell? (a.add j) = some u) : w.cell? a = some (.string ⟨q.nm.toArray⟩) /\ w.cell? ⟨a.block, a.off + 1, none⟩ = some (v) /\ w.cell? ⟨a.block, a.off + 2, none⟩ = some (.int .i64 x.k) /\ w.cell? ⟨a.block, a.off + 3, none⟩ = some (.string x.nm) /\ w.cell? ⟨a.block, a.off + 4, none⟩ = some (.string x.ot) /\ w.cell? ⟨a.block, a.off + 5, none⟩ = some (.bool x.b) /\ w.cell? ⟨a.block, a.off + 6, none⟩ = some (.slice x.ao x.n x.c) /\ w.cell? ⟨a.block, a.off + 7, none⟩ = some (.slice x.ko x.kn x.kc) /\ w.cell? ⟨a.block, a.off + 8, none⟩ = some (.int .i64 x.ln) /\ w.cell? ⟨a.block, a.off + 9, none⟩ = some (.int .i64 x.cl) /\ w.cell? ⟨a.block, a.off + 10, none⟩ = some (.int .i64 (q.ln : Nat)) /\ w.cell? ⟨a.block, a.off + 11, none⟩ = some (.int .i64 (q.cl : Nat)) :=
 ⟨h 0 _ rfl, h 1 _ rfl, h 2 _ rfl, h 3 _ rfl, h 4 _ rfl, h 5 _ rfl, h 6 _ rfl, h 7 _ rfl, h 8 _ rfl, h 9 _ rfl, h 10 _ rfl, h 11 _ rfl⟩
abbrev qlp (a : Qd) : Bs := qlx a.q
abbrev fnp (a : Fd) : Bs := fnx a.q
theorem pgx_of {p : PgU} {qs : List Qd} {fs : List Fd} (hq : qs.map Qd.q = p.qs) (hf : fs.map Fd.q = p.fs) : pgx p = qs.flatMap qlp ++ fs.flatMap fnp := by unfold pgx; rw [<- hq, <- hf, List.flatMap_map, List.flatMap_map]
theorem program_l (qs : List Qd) (fs : List Fd) (vq vf : Value) (w : World) (S : Nat -> Prop) (htab : Pow w) (hQ : qlE.At w S vq qs) (hF : fnE.At w S vf fs) (hBQ : ∀ a ∈ qs, QlB a.q) (hBF : ∀ a ∈ fs, FnB a.q) (hL : (qs.flatMap qlp ++ fs.flatMap fnp).length <= 300000000) :
  Calls Tryz.prog 10 #[.agg #[vq, vf]] w fun e w' => e = .returned (.string ⟨(qs.flatMap qlp ++ fs.flatMap fnp).toArray⟩) /\ Below w.heap.size w w' := by
 obtain ⟨qo, qc, rfl, ⟨hq1, hq2⟩, -, hE⟩ := hQ;obtain ⟨fo, fc, rfl, ⟨hf1, hf2⟩, -, hG⟩ := hF;have HE := h_ hE;have HG := h_ hG;have HQB := h_ (fun j (hj : j < qs.length) => hBQ _ (List.getElem_mem hj));have HFB := h_ (fun j (hj : j < fs.length) => hBF _ (List.getElem_mem hj));have HTB0 := h_ htab;have hql : qs.length <= 9223372036854775807 := Nat.le_trans hq1 hq2;have hfl : fs.length <= 9223372036854775807 := Nat.le_trans hf1 hf2;rw [lsa] at hL;have HLL := h_ hL;have HBW := h_ (Below.refl w.heap.size w);clear hE hG hBQ hBF htab hL;go_enter Tryz.func10, Tryz.ntmps10
 go_upto_region 2 with fail
 obtain ⟨w1, kb, hw, hkk, hb, -, HBb⟩ := newb w #[.slice qo qs.length qc, .slice fo fs.length fc] 26;have heb : w.heap.size <= kb := by omega
 rw [hw, <- hkk];replace HBW := h_ (HBW.out.trans (hb.mono HBW.out.size));have HD := h_ (below_grown hb (some 0));have hsz1 := HD.out.size;clear hw hb hkk;have HB1 := h_ HBW.out;obtain ⟨b0, b1⟩ := cl2 HBb.out;go_wp2_with fail
 clear b0 b1
 go_loopw [3, 11] (fun s i wr => ∃ j : Nat, s = .string ⟨((qs.take j).flatMap qlp).toArray⟩ /\ i = .int .i64 (j : Nat) /\ j <= qs.length /\ Below w1.heap.size w1 wr) (fun _ i _ => qs.length - (intOf i).toNat)
 case atStart => exact ⟨0, rfl, rfl, Nat.zero_le _, Below.refl _ _⟩
 case round =>
  obtain ⟨j, rfl, rfl, hj, hbx⟩ := hrel;obtain ⟨Sj, hSj⟩ : ∃ l : Bs, l = (qs.take j).flatMap qlp := ⟨_, rfl⟩
  have lSj : Sj.length <= 300000000 := by rw [hSj]; exact Nat.le_trans (flat_le qlp qs j) (by have := HLL.out; omega)
  rw [<- hSj];have HSj := h_ hSj;have hbw : Below w.heap.size w wr := HB1.out.trans (hbx.mono HB1.out.size);have HBX := h_ hbx;have HBW := h_ hbw;have HTB := h_ (tab_below HTB0.out hbw);have hss : (⟨Sj.toArray⟩ : ByteArray).size = Sj.length := rfl;clear hSj hbx
  by_cases hlt : j < qs.length
  ·obtain ⟨hA, hU⟩ := HE.out j hlt;have hpl := Nat.le_trans (flat_one qlp qs j hlt) (Nat.le_trans (Nat.le_add_right _ _) HLL.out);have HPB1 := h_ (HQB.out j hlt);have HT1 := h_ (flat_tk qlp qs j hlt);obtain ⟨⟨q, v, px⟩, hq⟩ : ∃ q, q = qs[j] := ⟨_, rfl⟩
   rw [<- hq] at hA hU hpl HPB1 HT1;clear hq;obtain ⟨hone, hux, prs, hpn, hpa⟩ := hU;obtain ⟨po, pc, hv, -⟩ := id hpa;simp only at hv hone hux hpn hpa;subst hv;have HU : Hid (Um wr S px q.body) := h_ (hux.below hbw);have HPA : Hid (pmE.At wr S (.slice po prs.length pc) prs) := h_ (hpa.below hbw);replace HPB1 : Hid (QlB q) := HPB1;replace HT1 : Hid ((qs.take (j + 1)).flatMap qlp = (qs.take j).flatMap qlp ++ qlx q) := HT1;have hpl : (qlx q).length <= 300000000 := hpl;have hpp : q.ps.flatMap ptx = prs.flatMap ptp := by rw [<- hpn, ptp_map]
   have HPP : Hid (∀ a ∈ prs, PmB a.1) := h_ (fun a ha => HPB1.out.2.1 a.1 (by rw [<- hpn]; exact List.mem_map_of_mem ha));have hA : AtN 12 w qo j (qlC q (.slice po prs.length pc) px) := by have e : qlE.f ⟨q, .slice po prs.length pc, px⟩ = qlC q (.slice po prs.length pc) px := rfl; rw [<- e]; exact hA
   obtain ⟨a, rfl, hc⟩ := AtN.keep hA fun a ha => hbw.block _ (AtN.lt (c := .string ⟨q.nm.toArray⟩) hA a ha)
   obtain ⟨c0, c1, c2, c3, c4, c5, c6, c7, c8, c9, c10, c11⟩ := cells12q hc;have hszw := hbw.size;clear hc hA hux hpa hbw hone hpn;go_upto_region 5 with fail
   obtain ⟨w1, kq, hw, hkk, hb, -, HBq⟩ := newb wr #[.string ⟨q.nm.toArray⟩, .slice po prs.length pc, .int .i64 px.k, .string px.nm, .string px.ot, .bool px.b, .slice px.ao px.n px.c, .slice px.ko px.kn px.kc, .int .i64 px.ln, .int .i64 px.cl, .int .i64 (q.ln : Nat), .int .i64 (q.cl : Nat)] 78;have heq : w.heap.size <= kq := by omega
   rw [hw, <- hkk];replace HBX := h_ (HBX.out.trans (hb.mono HBX.out.size));replace HTB := h_ (tab_below HTB.out hb);replace HU := h_ (HU.out.below hb);replace HPA := h_ (HPA.out.below hb);have HD := h_ (below_grown hb (some 0));have hsz1 := HD.out.size;clear hw hb hkk;clear c0 c1 c2 c3 c4 c5 c6 c7 c8 c9 c10 c11;have hnl : q.nm.length <= 3000 := HPB1.out.1;have hBnd := h_ HPB1.out.2.2.1;have h1 : q.ln <= 1000000000 := HPB1.out.2.2.2.1;have h2 : q.cl <= 1000000000 := HPB1.out.2.2.2.2;have lpl := plc_len q.ln q.cl h1 h2;unfold qlx at hpl;rw [hpp] at hpl;have lpr : (prs.flatMap ptp).length <= 300000000 := by simp only [lsa] at hpl; omega
   have lfr : (frm q.body).length <= 300000000 := by simp only [lsa] at hpl; omega
   obtain ⟨ZA, hZA⟩ : ∃ l : Bs, l = q.nm ++ plc q.ln q.cl := ⟨_, rfl⟩
   have lZA : ZA.length <= 3022 := by rw [hZA]; rw [lsa]; omega
   have HZA := h_ hZA;have sZA : (⟨ZA.toArray⟩ : ByteArray).size = ZA.length := rfl;clear hZA;obtain ⟨ZB, hZB⟩ : ∃ l : Bs, l = [91, 113, 32] ++ ZA := ⟨_, rfl⟩
   have lZB : ZB.length <= 3025 := by rw [hZB]; simp only [lsa, lsc, lsn]; omega
   have HZB := h_ hZB;have sZB : (⟨ZB.toArray⟩ : ByteArray).size = ZB.length := rfl;clear hZB;obtain ⟨ZC, hZC⟩ : ∃ l : Bs, l = prs.flatMap ptp := ⟨_, rfl⟩
   have lZC : ZC.length <= 300000000 := by rw [hZC]; exact lpr
   have HZC := h_ hZC;have sZC : (⟨ZC.toArray⟩ : ByteArray).size = ZC.length := rfl;clear hZC;obtain ⟨ZD, hZD⟩ : ∃ l : Bs, l = ZB ++ ZC := ⟨_, rfl⟩
   have lZD : ZD.length <= 300003025 := by rw [hZD]; rw [lsa]; omega
   have HZD := h_ hZD;have sZD : (⟨ZD.toArray⟩ : ByteArray).size = ZD.length := rfl;clear hZD;obtain ⟨ZE, hZE⟩ : ∃ l : Bs, l = frm q.body := ⟨_, rfl⟩
   have lZE : ZE.length <= 300000000 := by rw [hZE]; exact lfr
   have HZE := h_ hZE;have sZE : (⟨ZE.toArray⟩ : ByteArray).size = ZE.length := rfl;clear hZE;obtain ⟨ZF, hZF⟩ : ∃ l : Bs, l = ZD ++ ZE := ⟨_, rfl⟩
   have lZF : ZF.length <= 600003025 := by rw [hZF]; rw [lsa]; omega
   have HZF := h_ hZF;have sZF : (⟨ZF.toArray⟩ : ByteArray).size = ZF.length := rfl;clear hZF;obtain ⟨ZG, hZG⟩ : ∃ l : Bs, l = ZF ++ [93] := ⟨_, rfl⟩
   have lZG : ZG.length <= 600003026 := by rw [hZG]; simp only [lsa, lsc, lsn]; omega
   have HZG := h_ hZG;have sZG : (⟨ZG.toArray⟩ : ByteArray).size = ZG.length := rfl;clear hZG;obtain ⟨ZH, hZH⟩ : ∃ l : Bs, l = Sj ++ ZG := ⟨_, rfl⟩
   have lZH : ZH.length <= 900003026 := by rw [hZH]; rw [lsa]; omega
   have HZH := h_ hZH;have sZH : (⟨ZH.toArray⟩ : ByteArray).size = ZH.length := rfl;clear hZH;have s91 : (⟨#[91, 113, 32]⟩ : ByteArray).size = 3 := rfl;have s93 : (⟨#[93]⟩ : ByteArray).size = 1 := rfl;have HPX := h_ hpp;clear lpl lpr lfr hpl hpp;have hlt_q := lt_of_block HBq.out;have hog : ∀ q, q < 0 -> (fun q => 0) q < w1.heap.size := fun q h => absurd h (Nat.not_lt_zero _)
   refine R7.region (by kernel_rfl) [[], [], [1], [], [3], [], [5], [1, 2, 3, 4, 5, 6], [1, 2, 3, 4, 5, 6, 7], [], [9], [1, 2, 3, 4, 5, 6, 7, 9, 10], [1, 2, 3, 4, 5, 6, 7, 8, 9, 10, 11], [], [13], [1, 2, 3, 4, 5, 6, 7, 9, 10, 11, 13, 14], [1, 2, 3, 4, 5, 6, 7, 8, 9, 10, 11, 12, 13, 14, 15], [1, 2, 3, 4, 5, 6, 7, 8, 9, 10, 11, 12, 13, 14, 15, 16], [0, 1, 2, 3, 4, 5, 6, 7, 8, 9, 10, 11, 12, 13, 14, 15, 16, 17], [0, 1, 2, 3, 4, 5, 6, 7, 8, 9, 10, 11, 12, 13, 14, 15, 16, 17, 18]] [] [] (fun q => 0) 0 20 (by kernel_rfl) (by kernel_rfl) (by rfl) hog (fun q q' h h' hn => absurd hn (by omega)) ?_;refine R7.Chain.det ?_ (by rfl) (fun T xs wr hA => ?_) ?_
   rotate_left 1
   ·have e3 := hA.pre 3 (by kernel_rfl);simp only [gsa, gsc, gsz] at e3;clear hA;refine ⟨(by rfl), ?_⟩;go_simp <;> (try with_reducible rfl)
   refine R7.Chain.det ?_ (by rfl) (fun T xs wr hA => ?_) ?_
   rotate_left 1
   ·have e5 := hA.pre 5 (by kernel_rfl);simp only [gsa, gsc, gsz] at e5;clear hA;refine ⟨(by rfl), ?_⟩;go_simp <;> (try with_reducible rfl)
   refine R7.Chain.det ?_ (by rfl) (fun T xs wr hA => ?_) ?_
   rotate_left 1
   ·have e16 := (hA.tm 1 16 (by rfl) (by rfl)).trans (congrArg some (hA.fa 1 (by rfl)))
    (try simp (disch := first | rfl | decide) only [R7.mask_in] at e16)
    have hBq : wr.heap[kq]? = _ := (hA.bl _ hlt_q (fun q h => absurd h (Nat.not_lt_zero _))).trans HBq.out;obtain ⟨q0, q1, q2, q3, q4, q5, q6, q7, q8, q9, q10, q11⟩ := cl12 hBq;clear hBq;clear hA;refine ⟨(by rfl), ?_⟩;go_simp <;> (try with_reducible rfl)
   refine R7.Chain.det ?_ (by rfl) (fun T xs wr hA => ?_) ?_
   rotate_left 1
   ·have e5 := hA.pre 5 (by kernel_rfl);simp only [gsa, gsc, gsz] at e5;clear hA;refine ⟨(by rfl), ?_⟩;go_simp <;> (try with_reducible rfl)
   refine R7.Chain.det ?_ (by rfl) (fun T xs wr hA => ?_) ?_
   rotate_left 1
   ·have e18 := (hA.tm 3 18 (by rfl) (by rfl)).trans (congrArg some (hA.fa 3 (by rfl)))
    (try simp (disch := first | rfl | decide) only [R7.mask_in] at e18)
    have hBq : wr.heap[kq]? = _ := (hA.bl _ hlt_q (fun q h => absurd h (Nat.not_lt_zero _))).trans HBq.out;obtain ⟨q0, q1, q2, q3, q4, q5, q6, q7, q8, q9, q10, q11⟩ := cl12 hBq;clear hBq;clear hA;refine ⟨(by rfl), ?_⟩;go_simp <;> (try with_reducible rfl)
   refine R7.Chain.det ?_ (by rfl) (fun T xs wr hA => ?_) ?_
   rotate_left 1
   ·have e5 := hA.pre 5 (by kernel_rfl);simp only [gsa, gsc, gsz] at e5;clear hA;refine ⟨(by rfl), ?_⟩;go_simp <;> (try with_reducible rfl)
   refine R7.Chain.det ?_ (by rfl) (fun T xs wr hA => ?_) ?_
   rotate_left 1
   ·have e20 := (hA.tm 5 20 (by rfl) (by rfl)).trans (congrArg some (hA.fa 5 (by rfl)))
    (try simp (disch := first | rfl | decide) only [R7.mask_in] at e20)
    have hBq : wr.heap[kq]? = _ := (hA.bl _ hlt_q (fun q h => absurd h (Nat.not_lt_zero _))).trans HBq.out;obtain ⟨q0, q1, q2, q3, q4, q5, q6, q7, q8, q9, q10, q11⟩ := cl12 hBq;clear hBq;clear hA;refine ⟨(by rfl), ?_⟩;go_simp <;> (try with_reducible rfl)
   refine R7.Chain.call (fun xs v w => v = .string ⟨ZA.toArray⟩) (fun _ _ _ _ h _ => h) (fun _ _ _ _ _ h _ _ => h) (by rfl) (fun T xs wr hA => ?_) ?_
   ·have hsw := (hA.be 0 (Nat.zero_le _) (fun _ _ => Nat.zero_le _)).size;have e17 := (hA.tm 2 17 (by rfl) (by rfl)).trans (congrArg some (hA.fa 2 (by rfl)))
    (try simp (disch := first | rfl | decide) only [R7.mask_in] at e17)
    have e19 := (hA.tm 4 19 (by rfl) (by rfl)).trans (congrArg some (hA.fa 4 (by rfl)))
    (try simp (disch := first | rfl | decide) only [R7.mask_in] at e19)
    have e21 := (hA.tm 6 21 (by rfl) (by rfl)).trans (congrArg some (hA.fa 6 (by rfl)))
    (try simp (disch := first | rfl | decide) only [R7.mask_in] at e21)
    have hbw := undrew (hA.be w1.heap.size (Nat.le_refl _) (fun q h => absurd h (Nat.not_lt_zero _)));have htw := tab_below HTB.out hbw;clear hA;refine ⟨(by rfl), fun K hK => ?_⟩;go_simp
    refine (place_p q.nm q.ln q.cl _ htw (by omega) h1 h2).mono ?_;rintro e w' ⟨rfl, hb⟩;exact hK.out _ _ (by rw [HZA.out]) hb
   refine R7.Chain.call (fun xs v w => v = .string ⟨ZB.toArray⟩) (fun _ _ _ _ h _ => h) (fun _ _ _ _ _ h _ _ => h) (by rfl) (fun T xs wr hA => ?_) ?_
   ·have hsw := (hA.be 0 (Nat.zero_le _) (fun _ _ => Nat.zero_le _)).size;have e22 := hA.tm 7 22 (by rfl) (by rfl);have f22 : xs 7 = (.string ⟨ZA.toArray⟩) := hA.fa 7 (by rfl);rw [f22] at e22;clear f22;clear hA;refine ⟨(by rfl), fun K hK => ?_⟩;go_simp
    rw [if_neg (by omega)];exact hK.out _ _ (congrArg Value.string (by rw [HZB.out]; exact cat _ _)) (Below.refl _ _)
   refine R7.Chain.det ?_ (by rfl) (fun T xs wr hA => ?_) ?_
   rotate_left 1
   ·have e5 := hA.pre 5 (by kernel_rfl);simp only [gsa, gsc, gsz] at e5;clear hA;refine ⟨(by rfl), ?_⟩;go_simp <;> (try with_reducible rfl)
   refine R7.Chain.det ?_ (by rfl) (fun T xs wr hA => ?_) ?_
   rotate_left 1
   ·have e24 := (hA.tm 9 24 (by rfl) (by rfl)).trans (congrArg some (hA.fa 9 (by rfl)))
    (try simp (disch := first | rfl | decide) only [R7.mask_in] at e24)
    have hBq : wr.heap[kq]? = _ := (hA.bl _ hlt_q (fun q h => absurd h (Nat.not_lt_zero _))).trans HBq.out;obtain ⟨q0, q1, q2, q3, q4, q5, q6, q7, q8, q9, q10, q11⟩ := cl12 hBq;clear hBq;clear hA;refine ⟨(by rfl), ?_⟩;go_simp <;> (try with_reducible rfl)
   refine R7.Chain.call (fun xs v w => v = .string ⟨ZC.toArray⟩) (fun _ _ _ _ h _ => h) (fun _ _ _ _ _ h _ _ => h) (by rfl) (fun T xs wr hA => ?_) ?_
   ·have hsw := (hA.be 0 (Nat.zero_le _) (fun _ _ => Nat.zero_le _)).size;have e25 := (hA.tm 10 25 (by rfl) (by rfl)).trans (congrArg some (hA.fa 10 (by rfl)))
    (try simp (disch := first | rfl | decide) only [R7.mask_in] at e25)
    have hbw := undrew (hA.be w1.heap.size (Nat.le_refl _) (fun q h => absurd h (Nat.not_lt_zero _)));have htw := tab_below HTB.out hbw;have hpw := HPA.out.below hbw;clear hA;refine ⟨(by rfl), fun K hK => ?_⟩;go_simp
    refine (params_l prs _ _ S htw hpw HPP.out (by rw [<- HZC.out]; exact lZC)).mono ?_;rintro e w' ⟨rfl, hb⟩;exact hK.out _ _ (by rw [HZC.out]) hb
   refine R7.Chain.call (fun xs v w => v = .string ⟨ZD.toArray⟩) (fun _ _ _ _ h _ => h) (fun _ _ _ _ _ h _ _ => h) (by rfl) (fun T xs wr hA => ?_) ?_
   ·have hsw := (hA.be 0 (Nat.zero_le _) (fun _ _ => Nat.zero_le _)).size;have e23 := hA.tm 8 23 (by rfl) (by rfl);have f23 : xs 8 = (.string ⟨ZB.toArray⟩) := hA.fa 8 (by rfl);rw [f23] at e23;clear f23;have e26 := hA.tm 11 26 (by rfl) (by rfl);have f26 : xs 11 = (.string ⟨ZC.toArray⟩) := hA.fa 11 (by rfl);rw [f26] at e26;clear f26;clear hA;refine ⟨(by rfl), fun K hK => ?_⟩;go_simp
    rw [if_neg (by omega)];exact hK.out _ _ (congrArg Value.string (by rw [HZD.out]; exact cat _ _)) (Below.refl _ _)
   refine R7.Chain.det ?_ (by rfl) (fun T xs wr hA => ?_) ?_
   rotate_left 1
   ·have e5 := hA.pre 5 (by kernel_rfl);simp only [gsa, gsc, gsz] at e5;clear hA;refine ⟨(by rfl), ?_⟩;go_simp <;> (try with_reducible rfl)
   refine R7.Chain.det ?_ (by rfl) (fun T xs wr hA => ?_) ?_
   rotate_left 1
   ·have e28 := (hA.tm 13 28 (by rfl) (by rfl)).trans (congrArg some (hA.fa 13 (by rfl)))
    (try simp (disch := first | rfl | decide) only [R7.mask_in] at e28)
    have hBq : wr.heap[kq]? = _ := (hA.bl _ hlt_q (fun q h => absurd h (Nat.not_lt_zero _))).trans HBq.out;obtain ⟨q0, q1, q2, q3, q4, q5, q6, q7, q8, q9, q10, q11⟩ := cl12 hBq;clear hBq;clear hA;refine ⟨(by rfl), ?_⟩;go_simp <;> (try with_reducible rfl)
   refine R7.Chain.call (fun xs v w => v = .string ⟨ZE.toArray⟩) (fun _ _ _ _ h _ => h) (fun _ _ _ _ _ h _ _ => h) (by rfl) (fun T xs wr hA => ?_) ?_
   ·have hsw := (hA.be 0 (Nat.zero_le _) (fun _ _ => Nat.zero_le _)).size;have e29 := (hA.tm 14 29 (by rfl) (by rfl)).trans (congrArg some (hA.fa 14 (by rfl)))
    (try simp (disch := first | rfl | decide) only [R7.mask_in] at e29)
    have hbw := undrew (hA.be w1.heap.size (Nat.le_refl _) (fun q h => absurd h (Nat.not_lt_zero _)));have htw := tab_below HTB.out hbw;have huw := HU.out.below hbw;clear hA;refine ⟨(by rfl), fun K hK => ?_⟩;go_simp
    refine (form_p 300000000 (by decide) px q.body _ S htw huw hBnd.out (Nat.le_trans (frm_deep _) (by rw [<- HZE.out]; exact lZE)) (by rw [<- HZE.out]; exact lZE)).mono ?_;rintro e w' ⟨rfl, hb⟩;exact hK.out _ _ (by rw [HZE.out]) hb
   refine R7.Chain.call (fun xs v w => v = .string ⟨ZF.toArray⟩) (fun _ _ _ _ h _ => h) (fun _ _ _ _ _ h _ _ => h) (by rfl) (fun T xs wr hA => ?_) ?_
   ·have hsw := (hA.be 0 (Nat.zero_le _) (fun _ _ => Nat.zero_le _)).size;have e27 := hA.tm 12 27 (by rfl) (by rfl);have f27 : xs 12 = (.string ⟨ZD.toArray⟩) := hA.fa 12 (by rfl);rw [f27] at e27;clear f27;have e30 := hA.tm 15 30 (by rfl) (by rfl);have f30 : xs 15 = (.string ⟨ZE.toArray⟩) := hA.fa 15 (by rfl);rw [f30] at e30;clear f30;clear hA;refine ⟨(by rfl), fun K hK => ?_⟩;go_simp
    rw [if_neg (by omega)];exact hK.out _ _ (congrArg Value.string (by rw [HZF.out]; exact cat _ _)) (Below.refl _ _)
   refine R7.Chain.call (fun xs v w => v = .string ⟨ZG.toArray⟩) (fun _ _ _ _ h _ => h) (fun _ _ _ _ _ h _ _ => h) (by rfl) (fun T xs wr hA => ?_) ?_
   ·have hsw := (hA.be 0 (Nat.zero_le _) (fun _ _ => Nat.zero_le _)).size;have e31 := hA.tm 16 31 (by rfl) (by rfl);have f31 : xs 16 = (.string ⟨ZF.toArray⟩) := hA.fa 16 (by rfl);rw [f31] at e31;clear f31;clear hA;refine ⟨(by rfl), fun K hK => ?_⟩;go_simp
    rw [if_neg (by omega)];exact hK.out _ _ (congrArg Value.string (by rw [HZG.out]; exact cat _ _)) (Below.refl _ _)
   refine R7.Chain.call (fun xs v w => v = .string ⟨ZH.toArray⟩) (fun _ _ _ _ h _ => h) (fun _ _ _ _ _ h _ _ => h) (by rfl) (fun T xs wr hA => ?_) ?_
   ·have hsw := (hA.be 0 (Nat.zero_le _) (fun _ _ => Nat.zero_le _)).size;have e15 := (hA.tm 0 15 (by rfl) (by rfl)).trans (congrArg some (hA.fa 0 (by rfl)))
    (try simp (disch := first | rfl | decide) only [R7.mask_in] at e15)
    have e32 := hA.tm 17 32 (by rfl) (by rfl);have f32 : xs 17 = (.string ⟨ZG.toArray⟩) := hA.fa 17 (by rfl);rw [f32] at e32;clear f32;clear hA;refine ⟨(by rfl), fun K hK => ?_⟩;go_simp
    rw [if_neg (by omega)];exact hK.out _ _ (congrArg Value.string (by rw [HZH.out]; exact cat _ _)) (Below.refl _ _)
   refine R7.Chain.det ?_ (by rfl) (fun T xs wr hA => ?_) ?_
   rotate_left 1
   ·have e33 := hA.tm 18 33 (by rfl) (by rfl);have f33 : xs 18 = (.string ⟨ZH.toArray⟩) := hA.fa 18 (by rfl);rw [f33] at e33;clear f33;clear hA;refine ⟨(by rfl), ?_⟩;go_simp <;> (try with_reducible rfl)
   refine R7.Chain.done (fun xs w2 hL => ?_);obtain ⟨⟨hbe, hbl⟩, hf, -, -⟩ := hL;have f0 : xs 0 = _ := hf 0 (by decide);have f1 : xs 1 = _ := hf 1 (by decide);have f2 : xs 2 = _ := hf 2 (by decide);have f3 : xs 3 = _ := hf 3 (by decide);have f4 : xs 4 = _ := hf 4 (by decide);have f5 : xs 5 = _ := hf 5 (by decide);have f6 : xs 6 = _ := hf 6 (by decide);have f7 : xs 7 = (.string ⟨ZA.toArray⟩) := hf 7 (by decide);have f8 : xs 8 = (.string ⟨ZB.toArray⟩) := hf 8 (by decide);have f9 : xs 9 = _ := hf 9 (by decide);have f10 : xs 10 = _ := hf 10 (by decide);have f11 : xs 11 = (.string ⟨ZC.toArray⟩) := hf 11 (by decide);have f12 : xs 12 = (.string ⟨ZD.toArray⟩) := hf 12 (by decide);have f13 : xs 13 = _ := hf 13 (by decide);have f14 : xs 14 = _ := hf 14 (by decide);have f15 : xs 15 = (.string ⟨ZE.toArray⟩) := hf 15 (by decide);have f16 : xs 16 = (.string ⟨ZF.toArray⟩) := hf 16 (by decide)
   have f17 : xs 17 = (.string ⟨ZG.toArray⟩) := hf 17 (by decide);have f18 : xs 18 = (.string ⟨ZH.toArray⟩) := hf 18 (by decide);have f19 : xs 19 = _ := hf 19 (by decide)
   (try simp (disch := first | rfl | decide) only [R7.mask_in] at f0 f1 f2 f3 f4 f5 f6 f9 f10 f13 f14 f19)
   have hb0 : Below 0 w1 w2 := undrew (hbe 0 (Nat.zero_le _) (fun _ _ => Nat.zero_le _));have hgr : ∀ j, j < w1.heap.size -> (∀ q, q < 0 -> (fun q => 0) q ≠ j) -> w2.heap[j]? = w1.heap[j]? := hbl;clear hbe hbl hf;have hb : Below w1.heap.size w1 w2 := ⟨hb0.os, hb0.tape, hb0.output, hb0.size, fun q hq => hgr q hq (fun q h => absurd h (Nat.not_lt_zero _))⟩
   refine R7.rest_done ?_;simp only [R7.fill, List.setIfInBounds_toArray, List.set_cons_zero, List.set_cons_succ, f0, f1, f2, f3, f4, f5, f6, f7, f8, f9, f10, f11, f12, f13, f14, f15, f16, f17, f18, f19];clear hb0 hgr hog hlt_q f0 f1 f2 f3 f4 f5 f6 f7 f8 f9 f10 f11 f12 f13 f14 f15 f16 f17 f18 f19;replace HBq := kB hb HBq;replace HBX := h_ (HBX.out.trans (hb.mono HBX.out.size));replace HTB := h_ (tab_below HTB.out hb);replace HU := h_ (HU.out.below hb);replace HPA := h_ (HPA.out.below hb);replace HD := dB HD hb;have hsz2 := HD.out.size;clear hb;go_wp2_with fail
   go_roundw
   case rel => exact ⟨j + 1, by rw [HT1.out, <- HSj.out, HZH.out, HZG.out, HZF.out, HZE.out, HZD.out, HZC.out, HZB.out, HZA.out, <- HPX.out]; unfold qlx; simp only [List.append_assoc], by go_num, by omega, HBX.out⟩
   case measure => simp [intOf]; omega
  have e : j = qs.length := by omega
  subst e;rw [List.take_length] at HSj;have HBb2 := kB HBX.out HBb;have b1 := cell_at (v := .slice fo fs.length fc) HBb2.out 1 rfl;obtain ⟨ww, hww⟩ : ∃ x, x = wr := ⟨_, rfl⟩
  subst hww;clear hbw hlt hj HTB;go_wp2_with fail
  clear b1
  go_loopw [3, 38] (fun s i wr => ∃ j : Nat, s = .string ⟨(Sj ++ (fs.take j).flatMap fnp).toArray⟩ /\ i = .int .i64 (j : Nat) /\ j <= fs.length /\ Below ww.heap.size ww wr) (fun _ i _ => fs.length - (intOf i).toNat)
  case atStart => exact ⟨0, by rw [List.take_zero, List.flatMap_nil, List.append_nil], rfl, Nat.zero_le _, Below.refl _ _⟩
  case round =>
   obtain ⟨j, rfl, rfl, hj, hbx⟩ := hrel;obtain ⟨Tj, hTj⟩ : ∃ l : Bs, l = Sj ++ (fs.take j).flatMap fnp := ⟨_, rfl⟩
   have lTj : Tj.length <= 600000000 := by rw [hTj, lsa]; have := flat_le fnp fs j; have := HLL.out; omega
   rw [<- hTj];have HTj := h_ hTj;have hbw : Below w.heap.size w wr := HBW.out.trans (hbx.mono HBW.out.size);have HBY := h_ hbx;have HTB := h_ (tab_below HTB0.out hbw);have hst : (⟨Tj.toArray⟩ : ByteArray).size = Tj.length := rfl;clear hTj hbx
   by_cases hlt : j < fs.length
   ·obtain ⟨hA, hU⟩ := HG.out j hlt;have hpl := Nat.le_trans (flat_one fnp fs j hlt) (Nat.le_trans (Nat.le_add_left _ _) HLL.out);have HPB1 := h_ (HFB.out j hlt);have HT1 := h_ (flat_tk fnp fs j hlt);obtain ⟨⟨q, v, px, py⟩, hq⟩ : ∃ q, q = fs[j] := ⟨_, rfl⟩
    rw [<- hq] at hA hU hpl HPB1 HT1;clear hq;obtain ⟨hone, hux, huy, prs, hpn, hpa⟩ := hU;obtain ⟨po, pc, hv, -⟩ := id hpa;simp only at hv hone hux huy hpn hpa;subst hv;have HU : Hid (Um wr S px q.res.ref) := h_ (hux.below hbw);have HUY : Hid (Um wr S py q.body) := h_ (huy.below hbw);have HPA : Hid (pmE.At wr S (.slice po prs.length pc) prs) := h_ (hpa.below hbw);replace HPB1 : Hid (FnB q) := HPB1;replace HT1 : Hid ((fs.take (j + 1)).flatMap fnp = (fs.take j).flatMap fnp ++ fnx q) := HT1;have hpl : (fnx q).length <= 300000000 := hpl;have hpp : q.ps.flatMap ptx = prs.flatMap ptp := by rw [<- hpn, ptp_map]
    have HPP : Hid (∀ a ∈ prs, PmB a.1) := h_ (fun a ha => HPB1.out.2.1 a.1 (by rw [<- hpn]; exact List.mem_map_of_mem ha));have hA : AtN 25 w fo j (fnC q (.slice po prs.length pc) px py) := by have e : fnE.f ⟨q, .slice po prs.length pc, px, py⟩ = fnC q (.slice po prs.length pc) px py := rfl; rw [<- e]; exact hA
    obtain ⟨a, rfl, hc⟩ := AtN.keep hA fun a ha => hbw.block _ (AtN.lt (c := .string ⟨q.nm.toArray⟩) hA a ha)
    have HC := h_ hc;clear hc hA hux huy hpa hbw hone hpn;go_upto_region 9 with fail
    refine wp_region_lit ?_;refine wpList_plain rfl fun K0 hK0 => ?_
    go_simp
    refine hK0 _ _ ?_;clear hK0;refine wpList_plain rfl fun K0 hK0 => ?_
    refine wp_load_row 85 (.tmp 40) rfl _ rfl (fnC q (.slice po prs.length pc) px py) _ HC.out Tryz.underlying85 rfl (by kernel_rfl) ?_;refine hK0 _ _ ?_;clear hK0;refine wpList_plain rfl fun K0 hK0 => ?_
    go_simp
    refine hK0 _ _ ?_;clear hK0;refine wpList_plain rfl fun K0 hK0 => ?_
    refine wp_store_row 85 (.tmp 7) (.tmp 41) rfl wr.heap.size (fnC q (.slice po prs.length pc) px py).toArray rfl rfl 85 _ (heap_alloc_last wr _) (by kernel_rfl) rfl (by simp [fnC, Value.oneCell']) ?_;rw [World.setRow_alloc_new];refine hK0 _ _ ?_;clear hK0 HC;go_upto_region 10 with fail
    obtain ⟨w1, kf, hw, hkk, hb, hs1, HBf⟩ := newb wr (fnC q (.slice po prs.length pc) px py).toArray 85;rw [hw, <- hkk];replace HBY := h_ (HBY.out.trans (hb.mono HBY.out.size));replace HTB := h_ (tab_below HTB.out hb);replace HU := h_ (HU.out.below hb);replace HUY := h_ (HUY.out.below hb);replace HPA := h_ (HPA.out.below hb);have HD := h_ (below_grown hb (some 0));have hsz1 := HD.out.size;clear hw hb hkk hs1;have hnl : q.nm.length <= 3000 := HPB1.out.1;have HRB := h_ HPB1.out.2.2.1;have hBnd := h_ HPB1.out.2.2.2.1;have h1 : q.ln <= 1000000000 := HPB1.out.2.2.2.2.1;have h2 : q.cl <= 1000000000 := HPB1.out.2.2.2.2.2;have hb2 : q.res.b <= 2 := HRB.out.2.1;have h3 : q.res.ln <= 1000000000 := HRB.out.2.2.1;have h4 : q.res.cl <= 1000000000 := HRB.out.2.2.2.1;have hRnd := h_ HRB.out.2.2.2.2;have lpl := plc_len q.ln q.cl h1 h2;have lpm := plc_len q.res.ln q.res.cl h3 h4
    have lbx : (bsx q.res.b).length <= 4 := by unfold bsx; split; decide; split; decide; decide
    unfold fnx at hpl;rw [hpp] at hpl;have lpr : (prs.flatMap ptp).length <= 300000000 := by simp only [lsa] at hpl; omega
    have lfr : (frm q.body).length <= 300000000 := by simp only [lsa] at hpl; omega
    have lkn : (knw q.res).length <= 300000000 := by simp only [lsa] at hpl; omega
    obtain ⟨ZA, hZA⟩ : ∃ l : Bs, l = q.nm ++ plc q.ln q.cl := ⟨_, rfl⟩
    have lZA : ZA.length <= 3022 := by rw [hZA]; rw [lsa]; omega
    have HZA := h_ hZA;have sZA : (⟨ZA.toArray⟩ : ByteArray).size = ZA.length := rfl;clear hZA;obtain ⟨ZB, hZB⟩ : ∃ l : Bs, l = [91, 102, 32] ++ ZA := ⟨_, rfl⟩
    have lZB : ZB.length <= 3025 := by rw [hZB]; simp only [lsa, lsc, lsn]; omega
    have HZB := h_ hZB;have sZB : (⟨ZB.toArray⟩ : ByteArray).size = ZB.length := rfl;clear hZB;obtain ⟨ZC, hZC⟩ : ∃ l : Bs, l = prs.flatMap ptp := ⟨_, rfl⟩
    have lZC : ZC.length <= 300000000 := by rw [hZC]; exact lpr
    have HZC := h_ hZC;have sZC : (⟨ZC.toArray⟩ : ByteArray).size = ZC.length := rfl;clear hZC;obtain ⟨ZD, hZD⟩ : ∃ l : Bs, l = ZB ++ ZC := ⟨_, rfl⟩
    have lZD : ZD.length <= 300003025 := by rw [hZD]; rw [lsa]; omega
    have HZD := h_ hZD;have sZD : (⟨ZD.toArray⟩ : ByteArray).size = ZD.length := rfl;clear hZD;obtain ⟨ZE, hZE⟩ : ∃ l : Bs, l = bsx q.res.b := ⟨_, rfl⟩
    have lZE : ZE.length <= 4 := by rw [hZE]; exact lbx
    have HZE := h_ hZE;have sZE : (⟨ZE.toArray⟩ : ByteArray).size = ZE.length := rfl;clear hZE;obtain ⟨ZF, hZF⟩ : ∃ l : Bs, l = ZD ++ ZE := ⟨_, rfl⟩
    have lZF : ZF.length <= 300003029 := by rw [hZF]; rw [lsa]; omega
    have HZF := h_ hZF;have sZF : (⟨ZF.toArray⟩ : ByteArray).size = ZF.length := rfl;clear hZF;obtain ⟨ZG, hZG⟩ : ∃ l : Bs, l = [] ++ plc q.res.ln q.res.cl := ⟨_, rfl⟩
    have lZG : ZG.length <= 22 := by rw [hZG]; exact lpm
    have HZG := h_ hZG;have sZG : (⟨ZG.toArray⟩ : ByteArray).size = ZG.length := rfl;clear hZG;obtain ⟨ZH, hZH⟩ : ∃ l : Bs, l = ZF ++ ZG := ⟨_, rfl⟩
    have lZH : ZH.length <= 300003051 := by rw [hZH]; rw [lsa]; omega
    have HZH := h_ hZH;have sZH : (⟨ZH.toArray⟩ : ByteArray).size = ZH.length := rfl;clear hZH;obtain ⟨ZI, hZI⟩ : ∃ l : Bs, l = knw q.res := ⟨_, rfl⟩
    have lZI : ZI.length <= 300000000 := by rw [hZI]; exact lkn
    have HZI := h_ hZI;have sZI : (⟨ZI.toArray⟩ : ByteArray).size = ZI.length := rfl;clear hZI;obtain ⟨ZJ, hZJ⟩ : ∃ l : Bs, l = ZH ++ ZI := ⟨_, rfl⟩
    have lZJ : ZJ.length <= 600003051 := by rw [hZJ]; rw [lsa]; omega
    have HZJ := h_ hZJ;have sZJ : (⟨ZJ.toArray⟩ : ByteArray).size = ZJ.length := rfl;clear hZJ;obtain ⟨ZK, hZK⟩ : ∃ l : Bs, l = frm q.body := ⟨_, rfl⟩
    have lZK : ZK.length <= 300000000 := by rw [hZK]; exact lfr
    have HZK := h_ hZK;have sZK : (⟨ZK.toArray⟩ : ByteArray).size = ZK.length := rfl;clear hZK;obtain ⟨ZL, hZL⟩ : ∃ l : Bs, l = ZJ ++ ZK := ⟨_, rfl⟩
    have lZL : ZL.length <= 900003051 := by rw [hZL]; rw [lsa]; omega
    have HZL := h_ hZL;have sZL : (⟨ZL.toArray⟩ : ByteArray).size = ZL.length := rfl;clear hZL;obtain ⟨ZM, hZM⟩ : ∃ l : Bs, l = ZL ++ [93] := ⟨_, rfl⟩
    have lZM : ZM.length <= 900003052 := by rw [hZM]; simp only [lsa, lsc, lsn]; omega
    have HZM := h_ hZM;have sZM : (⟨ZM.toArray⟩ : ByteArray).size = ZM.length := rfl;clear hZM;obtain ⟨ZN, hZN⟩ : ∃ l : Bs, l = Tj ++ ZM := ⟨_, rfl⟩
    have lZN : ZN.length <= 1600000000 := by rw [hZN]; rw [lsa]; omega
    have HZN := h_ hZN;have sZN : (⟨ZN.toArray⟩ : ByteArray).size = ZN.length := rfl;clear hZN;have s91 : (⟨#[91, 102, 32]⟩ : ByteArray).size = 3 := rfl;have s93 : (⟨#[93]⟩ : ByteArray).size = 1 := rfl;have HPX := h_ hpp;clear lpl lpm lbx lpr lfr lkn hpl hpp;have hlt_f := lt_of_block HBf.out;have hog : ∀ q, q < 0 -> (fun q => 0) q < w1.heap.size := fun q h => absurd h (Nat.not_lt_zero _)
    refine R7.region (by kernel_rfl) [[], [], [1], [], [3], [], [5], [1, 2, 3, 4, 5, 6], [1, 2, 3, 4, 5, 6, 7], [], [9], [1, 2, 3, 4, 5, 6, 7, 9, 10], [1, 2, 3, 4, 5, 6, 7, 8, 9, 10, 11], [], [13], [1, 2, 3, 4, 5, 6, 7, 9, 10, 11, 13, 14], [1, 2, 3, 4, 5, 6, 7, 8, 9, 10, 11, 12, 13, 14, 15], [], [17], [17, 18], [], [20], [20, 21], [1, 2, 3, 4, 5, 6, 7, 9, 10, 11, 13, 14, 15, 17, 18, 19, 20, 21, 22], [1, 2, 3, 4, 5, 6, 7, 8, 9, 10, 11, 12, 13, 14, 15, 16, 17, 18, 19, 20, 21, 22, 23], [], [25], [1, 2, 3, 4, 5, 6, 7, 9, 10, 11, 13, 14, 15, 17, 18, 19, 20, 21, 22, 23, 25, 26], [1, 2, 3, 4, 5, 6, 7, 8, 9, 10, 11, 12, 13, 14, 15, 16, 17, 18, 19, 20, 21, 22, 23, 24, 25, 26, 27], [], [29], [1, 2, 3, 4, 5, 6, 7, 9, 10, 11, 13, 14, 15, 17, 18, 19, 20, 21, 22, 23, 25, 26, 27, 29, 30], [1, 2, 3, 4, 5, 6, 7, 8, 9, 10, 11, 12, 13, 14, 15, 16, 17, 18, 19, 20, 21, 22, 23, 24, 25, 26, 27, 28, 29, 30, 31], [1, 2, 3, 4, 5, 6, 7, 8, 9, 10, 11, 12, 13, 14, 15, 16, 17, 18, 19, 20, 21, 22, 23, 24, 25, 26, 27, 28, 29, 30, 31, 32], [0, 1, 2, 3, 4, 5, 6, 7, 8, 9, 10, 11, 12, 13, 14, 15, 16, 17, 18, 19, 20, 21, 22, 23, 24, 25, 26, 27, 28, 29, 30, 31, 32, 33], [0, 1, 2, 3, 4, 5, 6, 7, 8, 9, 10, 11, 12, 13, 14, 15, 16, 17, 18, 19, 20, 21, 22, 23, 24, 25, 26, 27, 28, 29, 30, 31, 32, 33, 34]] [] [] (fun q => 0) 0 36 (by kernel_rfl) (by kernel_rfl) (by rfl) hog (fun q q' h h' hn => absurd hn (by omega)) ?_
    refine R7.Chain.det ?_ (by rfl) (fun T xs wr hA => ?_) ?_
    rotate_left 1
    ·have e3 := hA.pre 3 (by kernel_rfl);simp only [gsa, gsc, gsz] at e3;clear hA;refine ⟨(by rfl), ?_⟩;go_simp <;> (try with_reducible rfl)
    refine R7.Chain.det ?_ (by rfl) (fun T xs wr hA => ?_) ?_
    rotate_left 1
    ·have e7 := hA.pre 7 (by kernel_rfl);simp only [gsa, gsc, gsz] at e7;clear hA;refine ⟨(by rfl), ?_⟩;go_simp <;> (try with_reducible rfl)
    refine R7.Chain.det ?_ (by rfl) (fun T xs wr hA => ?_) ?_
    rotate_left 1
    ·have e43 := (hA.tm 1 43 (by rfl) (by rfl)).trans (congrArg some (hA.fa 1 (by rfl)))
     (try simp (disch := first | rfl | decide) only [R7.mask_in] at e43)
     have hBq : wr.heap[kf]? = _ := (hA.bl _ hlt_f (fun q h => absurd h (Nat.not_lt_zero _))).trans HBf.out;obtain ⟨q0, q1, q2, q3, q4, q5, q6, q7, q8, q9, q10, q11, q12, q13, q14, q15, q16, q17, q18, q19, q20, q21, q22, q23, q24⟩ := cl25 hBq;clear hBq;clear hA;refine ⟨(by rfl), ?_⟩;go_simp <;> (try with_reducible rfl)
    refine R7.Chain.det ?_ (by rfl) (fun T xs wr hA => ?_) ?_
    rotate_left 1
    ·have e7 := hA.pre 7 (by kernel_rfl);simp only [gsa, gsc, gsz] at e7;clear hA;refine ⟨(by rfl), ?_⟩;go_simp <;> (try with_reducible rfl)
    refine R7.Chain.det ?_ (by rfl) (fun T xs wr hA => ?_) ?_
    rotate_left 1
    ·have e45 := (hA.tm 3 45 (by rfl) (by rfl)).trans (congrArg some (hA.fa 3 (by rfl)))
     (try simp (disch := first | rfl | decide) only [R7.mask_in] at e45)
     have hBq : wr.heap[kf]? = _ := (hA.bl _ hlt_f (fun q h => absurd h (Nat.not_lt_zero _))).trans HBf.out;obtain ⟨q0, q1, q2, q3, q4, q5, q6, q7, q8, q9, q10, q11, q12, q13, q14, q15, q16, q17, q18, q19, q20, q21, q22, q23, q24⟩ := cl25 hBq;clear hBq;clear hA;refine ⟨(by rfl), ?_⟩;go_simp <;> (try with_reducible rfl)
    refine R7.Chain.det ?_ (by rfl) (fun T xs wr hA => ?_) ?_
    rotate_left 1
    ·have e7 := hA.pre 7 (by kernel_rfl);simp only [gsa, gsc, gsz] at e7;clear hA;refine ⟨(by rfl), ?_⟩;go_simp <;> (try with_reducible rfl)
    refine R7.Chain.det ?_ (by rfl) (fun T xs wr hA => ?_) ?_
    rotate_left 1
    ·have e47 := (hA.tm 5 47 (by rfl) (by rfl)).trans (congrArg some (hA.fa 5 (by rfl)))
     (try simp (disch := first | rfl | decide) only [R7.mask_in] at e47)
     have hBq : wr.heap[kf]? = _ := (hA.bl _ hlt_f (fun q h => absurd h (Nat.not_lt_zero _))).trans HBf.out;obtain ⟨q0, q1, q2, q3, q4, q5, q6, q7, q8, q9, q10, q11, q12, q13, q14, q15, q16, q17, q18, q19, q20, q21, q22, q23, q24⟩ := cl25 hBq;clear hBq;clear hA;refine ⟨(by rfl), ?_⟩;go_simp <;> (try with_reducible rfl)
    refine R7.Chain.call (fun xs v w => v = .string ⟨ZA.toArray⟩) (fun _ _ _ _ h _ => h) (fun _ _ _ _ _ h _ _ => h) (by rfl) (fun T xs wr hA => ?_) ?_
    ·have hsw := (hA.be 0 (Nat.zero_le _) (fun _ _ => Nat.zero_le _)).size;have e44 := (hA.tm 2 44 (by rfl) (by rfl)).trans (congrArg some (hA.fa 2 (by rfl)))
     (try simp (disch := first | rfl | decide) only [R7.mask_in] at e44)
     have e46 := (hA.tm 4 46 (by rfl) (by rfl)).trans (congrArg some (hA.fa 4 (by rfl)))
     (try simp (disch := first | rfl | decide) only [R7.mask_in] at e46)
     have e48 := (hA.tm 6 48 (by rfl) (by rfl)).trans (congrArg some (hA.fa 6 (by rfl)))
     (try simp (disch := first | rfl | decide) only [R7.mask_in] at e48)
     have hbw := undrew (hA.be w1.heap.size (Nat.le_refl _) (fun q h => absurd h (Nat.not_lt_zero _)));have htw := tab_below HTB.out hbw;clear hA;refine ⟨(by rfl), fun K hK => ?_⟩;go_simp
     refine (place_p q.nm q.ln q.cl _ htw (by omega) h1 h2).mono ?_;rintro e w' ⟨rfl, hb⟩;exact hK.out _ _ (by rw [HZA.out]) hb
    refine R7.Chain.call (fun xs v w => v = .string ⟨ZB.toArray⟩) (fun _ _ _ _ h _ => h) (fun _ _ _ _ _ h _ _ => h) (by rfl) (fun T xs wr hA => ?_) ?_
    ·have hsw := (hA.be 0 (Nat.zero_le _) (fun _ _ => Nat.zero_le _)).size;have e49 := hA.tm 7 49 (by rfl) (by rfl);have f49 : xs 7 = (.string ⟨ZA.toArray⟩) := hA.fa 7 (by rfl);rw [f49] at e49;clear f49;clear hA;refine ⟨(by rfl), fun K hK => ?_⟩;go_simp
     rw [if_neg (by omega)];exact hK.out _ _ (congrArg Value.string (by rw [HZB.out]; exact cat _ _)) (Below.refl _ _)
    refine R7.Chain.det ?_ (by rfl) (fun T xs wr hA => ?_) ?_
    rotate_left 1
    ·have e7 := hA.pre 7 (by kernel_rfl);simp only [gsa, gsc, gsz] at e7;clear hA;refine ⟨(by rfl), ?_⟩;go_simp <;> (try with_reducible rfl)
    refine R7.Chain.det ?_ (by rfl) (fun T xs wr hA => ?_) ?_
    rotate_left 1
    ·have e51 := (hA.tm 9 51 (by rfl) (by rfl)).trans (congrArg some (hA.fa 9 (by rfl)))
     (try simp (disch := first | rfl | decide) only [R7.mask_in] at e51)
     have hBq : wr.heap[kf]? = _ := (hA.bl _ hlt_f (fun q h => absurd h (Nat.not_lt_zero _))).trans HBf.out;obtain ⟨q0, q1, q2, q3, q4, q5, q6, q7, q8, q9, q10, q11, q12, q13, q14, q15, q16, q17, q18, q19, q20, q21, q22, q23, q24⟩ := cl25 hBq;clear hBq;clear hA;refine ⟨(by rfl), ?_⟩;go_simp <;> (try with_reducible rfl)
    refine R7.Chain.call (fun xs v w => v = .string ⟨ZC.toArray⟩) (fun _ _ _ _ h _ => h) (fun _ _ _ _ _ h _ _ => h) (by rfl) (fun T xs wr hA => ?_) ?_
    ·have hsw := (hA.be 0 (Nat.zero_le _) (fun _ _ => Nat.zero_le _)).size;have e52 := (hA.tm 10 52 (by rfl) (by rfl)).trans (congrArg some (hA.fa 10 (by rfl)))
     (try simp (disch := first | rfl | decide) only [R7.mask_in] at e52)
     have hbw := undrew (hA.be w1.heap.size (Nat.le_refl _) (fun q h => absurd h (Nat.not_lt_zero _)));have htw := tab_below HTB.out hbw;have hpw := HPA.out.below hbw;clear hA;refine ⟨(by rfl), fun K hK => ?_⟩;go_simp
     refine (params_l prs _ _ S htw hpw HPP.out (by rw [<- HZC.out]; exact lZC)).mono ?_;rintro e w' ⟨rfl, hb⟩;exact hK.out _ _ (by rw [HZC.out]) hb
    refine R7.Chain.call (fun xs v w => v = .string ⟨ZD.toArray⟩) (fun _ _ _ _ h _ => h) (fun _ _ _ _ _ h _ _ => h) (by rfl) (fun T xs wr hA => ?_) ?_
    ·have hsw := (hA.be 0 (Nat.zero_le _) (fun _ _ => Nat.zero_le _)).size;have e50 := hA.tm 8 50 (by rfl) (by rfl);have f50 : xs 8 = (.string ⟨ZB.toArray⟩) := hA.fa 8 (by rfl);rw [f50] at e50;clear f50;have e53 := hA.tm 11 53 (by rfl) (by rfl);have f53 : xs 11 = (.string ⟨ZC.toArray⟩) := hA.fa 11 (by rfl);rw [f53] at e53;clear f53;clear hA;refine ⟨(by rfl), fun K hK => ?_⟩;go_simp
     rw [if_neg (by omega)];exact hK.out _ _ (congrArg Value.string (by rw [HZD.out]; exact cat _ _)) (Below.refl _ _)
    refine R7.Chain.det ?_ (by rfl) (fun T xs wr hA => ?_) ?_
    rotate_left 1
    ·have e7 := hA.pre 7 (by kernel_rfl);simp only [gsa, gsc, gsz] at e7;clear hA;refine ⟨(by rfl), ?_⟩;go_simp <;> (try with_reducible rfl)
    refine R7.Chain.det ?_ (by rfl) (fun T xs wr hA => ?_) ?_
    rotate_left 1
    ·have e55 := (hA.tm 13 55 (by rfl) (by rfl)).trans (congrArg some (hA.fa 13 (by rfl)))
     (try simp (disch := first | rfl | decide) only [R7.mask_in] at e55)
     have hBq : wr.heap[kf]? = _ := (hA.bl _ hlt_f (fun q h => absurd h (Nat.not_lt_zero _))).trans HBf.out;obtain ⟨q0, q1, q2, q3, q4, q5, q6, q7, q8, q9, q10, q11, q12, q13, q14, q15, q16, q17, q18, q19, q20, q21, q22, q23, q24⟩ := cl25 hBq;clear hBq;clear hA;refine ⟨(by rfl), ?_⟩;go_simp <;> (try with_reducible rfl)
    refine R7.Chain.call (fun xs v w => v = .string ⟨ZE.toArray⟩) (fun _ _ _ _ h _ => h) (fun _ _ _ _ _ h _ _ => h) (by rfl) (fun T xs wr hA => ?_) ?_
    ·have hsw := (hA.be 0 (Nat.zero_le _) (fun _ _ => Nat.zero_le _)).size;have e56 := (hA.tm 14 56 (by rfl) (by rfl)).trans (congrArg some (hA.fa 14 (by rfl)))
     (try simp (disch := first | rfl | decide) only [R7.mask_in] at e56)
     have hbw := undrew (hA.be w1.heap.size (Nat.le_refl _) (fun q h => absurd h (Nat.not_lt_zero _)));have htw := tab_below HTB.out hbw;clear hA;refine ⟨(by rfl), fun K hK => ?_⟩;go_simp
     refine (base_l q.res px _ hb2).mono ?_;rintro e w' ⟨rfl, hb⟩;exact hK.out _ _ (by rw [HZE.out]) hb
    refine R7.Chain.call (fun xs v w => v = .string ⟨ZF.toArray⟩) (fun _ _ _ _ h _ => h) (fun _ _ _ _ _ h _ _ => h) (by rfl) (fun T xs wr hA => ?_) ?_
    ·have hsw := (hA.be 0 (Nat.zero_le _) (fun _ _ => Nat.zero_le _)).size;have e54 := hA.tm 12 54 (by rfl) (by rfl);have f54 : xs 12 = (.string ⟨ZD.toArray⟩) := hA.fa 12 (by rfl);rw [f54] at e54;clear f54;have e57 := hA.tm 15 57 (by rfl) (by rfl);have f57 : xs 15 = (.string ⟨ZE.toArray⟩) := hA.fa 15 (by rfl);rw [f57] at e57;clear f57;clear hA;refine ⟨(by rfl), fun K hK => ?_⟩;go_simp
     rw [if_neg (by omega)];exact hK.out _ _ (congrArg Value.string (by rw [HZF.out]; exact cat _ _)) (Below.refl _ _)
    refine R7.Chain.det ?_ (by rfl) (fun T xs wr hA => ?_) ?_
    rotate_left 1
    ·have e7 := hA.pre 7 (by kernel_rfl);simp only [gsa, gsc, gsz] at e7;clear hA;refine ⟨(by rfl), ?_⟩;go_simp <;> (try with_reducible rfl)
    refine R7.Chain.det ?_ (by rfl) (fun T xs wr hA => ?_) ?_
    rotate_left 1
    ·have e59 := (hA.tm 17 59 (by rfl) (by rfl)).trans (congrArg some (hA.fa 17 (by rfl)))
     (try simp (disch := first | rfl | decide) only [R7.mask_in] at e59)
     clear hA;refine ⟨(by rfl), ?_⟩;go_simp <;> (try with_reducible rfl)
    refine R7.Chain.det ?_ (by rfl) (fun T xs wr hA => ?_) ?_
    rotate_left 1
    ·have e60 := (hA.tm 18 60 (by rfl) (by rfl)).trans (congrArg some (hA.fa 18 (by rfl)))
     (try simp (disch := first | rfl | decide) only [R7.mask_in] at e60)
     have hBq : wr.heap[kf]? = _ := (hA.bl _ hlt_f (fun q h => absurd h (Nat.not_lt_zero _))).trans HBf.out;obtain ⟨q0, q1, q2, q3, q4, q5, q6, q7, q8, q9, q10, q11, q12, q13, q14, q15, q16, q17, q18, q19, q20, q21, q22, q23, q24⟩ := cl25 hBq;clear hBq;clear hA;refine ⟨(by rfl), ?_⟩;go_simp <;> (try with_reducible rfl)
    refine R7.Chain.det ?_ (by rfl) (fun T xs wr hA => ?_) ?_
    rotate_left 1
    ·have e7 := hA.pre 7 (by kernel_rfl);simp only [gsa, gsc, gsz] at e7;clear hA;refine ⟨(by rfl), ?_⟩;go_simp <;> (try with_reducible rfl)
    refine R7.Chain.det ?_ (by rfl) (fun T xs wr hA => ?_) ?_
    rotate_left 1
    ·have e62 := (hA.tm 20 62 (by rfl) (by rfl)).trans (congrArg some (hA.fa 20 (by rfl)))
     (try simp (disch := first | rfl | decide) only [R7.mask_in] at e62)
     clear hA;refine ⟨(by rfl), ?_⟩;go_simp <;> (try with_reducible rfl)
    refine R7.Chain.det ?_ (by rfl) (fun T xs wr hA => ?_) ?_
    rotate_left 1
    ·have e63 := (hA.tm 21 63 (by rfl) (by rfl)).trans (congrArg some (hA.fa 21 (by rfl)))
     (try simp (disch := first | rfl | decide) only [R7.mask_in] at e63)
     have hBq : wr.heap[kf]? = _ := (hA.bl _ hlt_f (fun q h => absurd h (Nat.not_lt_zero _))).trans HBf.out;obtain ⟨q0, q1, q2, q3, q4, q5, q6, q7, q8, q9, q10, q11, q12, q13, q14, q15, q16, q17, q18, q19, q20, q21, q22, q23, q24⟩ := cl25 hBq;clear hBq;clear hA;refine ⟨(by rfl), ?_⟩;go_simp <;> (try with_reducible rfl)
    refine R7.Chain.call (fun xs v w => v = .string ⟨ZG.toArray⟩) (fun _ _ _ _ h _ => h) (fun _ _ _ _ _ h _ _ => h) (by rfl) (fun T xs wr hA => ?_) ?_
    ·have hsw := (hA.be 0 (Nat.zero_le _) (fun _ _ => Nat.zero_le _)).size;have e61 := (hA.tm 19 61 (by rfl) (by rfl)).trans (congrArg some (hA.fa 19 (by rfl)))
     (try simp (disch := first | rfl | decide) only [R7.mask_in] at e61)
     have e64 := (hA.tm 22 64 (by rfl) (by rfl)).trans (congrArg some (hA.fa 22 (by rfl)))
     (try simp (disch := first | rfl | decide) only [R7.mask_in] at e64)
     have hbw := undrew (hA.be w1.heap.size (Nat.le_refl _) (fun q h => absurd h (Nat.not_lt_zero _)));have htw := tab_below HTB.out hbw;clear hA;refine ⟨(by rfl), fun K hK => ?_⟩;go_simp
     refine (place_p [] q.res.ln q.res.cl _ htw (by decide) h3 h4).mono ?_;rintro e w' ⟨rfl, hb⟩;exact hK.out _ _ (by rw [HZG.out]) hb
    refine R7.Chain.call (fun xs v w => v = .string ⟨ZH.toArray⟩) (fun _ _ _ _ h _ => h) (fun _ _ _ _ _ h _ _ => h) (by rfl) (fun T xs wr hA => ?_) ?_
    ·have hsw := (hA.be 0 (Nat.zero_le _) (fun _ _ => Nat.zero_le _)).size;have e58 := hA.tm 16 58 (by rfl) (by rfl);have f58 : xs 16 = (.string ⟨ZF.toArray⟩) := hA.fa 16 (by rfl);rw [f58] at e58;clear f58;have e65 := hA.tm 23 65 (by rfl) (by rfl);have f65 : xs 23 = (.string ⟨ZG.toArray⟩) := hA.fa 23 (by rfl);rw [f65] at e65;clear f65;clear hA;refine ⟨(by rfl), fun K hK => ?_⟩;go_simp
     rw [if_neg (by omega)];exact hK.out _ _ (congrArg Value.string (by rw [HZH.out]; exact cat _ _)) (Below.refl _ _)
    refine R7.Chain.det ?_ (by rfl) (fun T xs wr hA => ?_) ?_
    rotate_left 1
    ·have e7 := hA.pre 7 (by kernel_rfl);simp only [gsa, gsc, gsz] at e7;clear hA;refine ⟨(by rfl), ?_⟩;go_simp <;> (try with_reducible rfl)
    refine R7.Chain.det ?_ (by rfl) (fun T xs wr hA => ?_) ?_
    rotate_left 1
    ·have e67 := (hA.tm 25 67 (by rfl) (by rfl)).trans (congrArg some (hA.fa 25 (by rfl)))
     (try simp (disch := first | rfl | decide) only [R7.mask_in] at e67)
     have hBq : wr.heap[kf]? = _ := (hA.bl _ hlt_f (fun q h => absurd h (Nat.not_lt_zero _))).trans HBf.out;obtain ⟨q0, q1, q2, q3, q4, q5, q6, q7, q8, q9, q10, q11, q12, q13, q14, q15, q16, q17, q18, q19, q20, q21, q22, q23, q24⟩ := cl25 hBq;clear hBq;clear hA;refine ⟨(by rfl), ?_⟩;go_simp <;> (try with_reducible rfl)
    refine R7.Chain.call (fun xs v w => v = .string ⟨ZI.toArray⟩) (fun _ _ _ _ h _ => h) (fun _ _ _ _ _ h _ _ => h) (by rfl) (fun T xs wr hA => ?_) ?_
    ·have hsw := (hA.be 0 (Nat.zero_le _) (fun _ _ => Nat.zero_le _)).size;have e68 := (hA.tm 26 68 (by rfl) (by rfl)).trans (congrArg some (hA.fa 26 (by rfl)))
     (try simp (disch := first | rfl | decide) only [R7.mask_in] at e68)
     have hbw := undrew (hA.be w1.heap.size (Nat.le_refl _) (fun q h => absurd h (Nat.not_lt_zero _)));have htw := tab_below HTB.out hbw;have huw := HU.out.below hbw;clear hA;refine ⟨(by rfl), fun K hK => ?_⟩;go_simp
     refine (known_l q.res px _ S htw huw hRnd.out (by rw [<- HZI.out]; exact lZI)).mono ?_;rintro e w' ⟨rfl, hb⟩;exact hK.out _ _ (by rw [HZI.out]) hb
    refine R7.Chain.call (fun xs v w => v = .string ⟨ZJ.toArray⟩) (fun _ _ _ _ h _ => h) (fun _ _ _ _ _ h _ _ => h) (by rfl) (fun T xs wr hA => ?_) ?_
    ·have hsw := (hA.be 0 (Nat.zero_le _) (fun _ _ => Nat.zero_le _)).size;have e66 := hA.tm 24 66 (by rfl) (by rfl);have f66 : xs 24 = (.string ⟨ZH.toArray⟩) := hA.fa 24 (by rfl);rw [f66] at e66;clear f66;have e69 := hA.tm 27 69 (by rfl) (by rfl);have f69 : xs 27 = (.string ⟨ZI.toArray⟩) := hA.fa 27 (by rfl);rw [f69] at e69;clear f69;clear hA;refine ⟨(by rfl), fun K hK => ?_⟩;go_simp
     rw [if_neg (by omega)];exact hK.out _ _ (congrArg Value.string (by rw [HZJ.out]; exact cat _ _)) (Below.refl _ _)
    refine R7.Chain.det ?_ (by rfl) (fun T xs wr hA => ?_) ?_
    rotate_left 1
    ·have e7 := hA.pre 7 (by kernel_rfl);simp only [gsa, gsc, gsz] at e7;clear hA;refine ⟨(by rfl), ?_⟩;go_simp <;> (try with_reducible rfl)
    refine R7.Chain.det ?_ (by rfl) (fun T xs wr hA => ?_) ?_
    rotate_left 1
    ·have e71 := (hA.tm 29 71 (by rfl) (by rfl)).trans (congrArg some (hA.fa 29 (by rfl)))
     (try simp (disch := first | rfl | decide) only [R7.mask_in] at e71)
     have hBq : wr.heap[kf]? = _ := (hA.bl _ hlt_f (fun q h => absurd h (Nat.not_lt_zero _))).trans HBf.out;obtain ⟨q0, q1, q2, q3, q4, q5, q6, q7, q8, q9, q10, q11, q12, q13, q14, q15, q16, q17, q18, q19, q20, q21, q22, q23, q24⟩ := cl25 hBq;clear hBq;clear hA;refine ⟨(by rfl), ?_⟩;go_simp <;> (try with_reducible rfl)
    refine R7.Chain.call (fun xs v w => v = .string ⟨ZK.toArray⟩) (fun _ _ _ _ h _ => h) (fun _ _ _ _ _ h _ _ => h) (by rfl) (fun T xs wr hA => ?_) ?_
    ·have hsw := (hA.be 0 (Nat.zero_le _) (fun _ _ => Nat.zero_le _)).size;have e72 := (hA.tm 30 72 (by rfl) (by rfl)).trans (congrArg some (hA.fa 30 (by rfl)))
     (try simp (disch := first | rfl | decide) only [R7.mask_in] at e72)
     have hbw := undrew (hA.be w1.heap.size (Nat.le_refl _) (fun q h => absurd h (Nat.not_lt_zero _)));have htw := tab_below HTB.out hbw;have huw := HUY.out.below hbw;clear hA;refine ⟨(by rfl), fun K hK => ?_⟩;go_simp
     refine (form_p 300000000 (by decide) py q.body _ S htw huw hBnd.out (Nat.le_trans (frm_deep _) (by rw [<- HZK.out]; exact lZK)) (by rw [<- HZK.out]; exact lZK)).mono ?_;rintro e w' ⟨rfl, hb⟩;exact hK.out _ _ (by rw [HZK.out]) hb
    refine R7.Chain.call (fun xs v w => v = .string ⟨ZL.toArray⟩) (fun _ _ _ _ h _ => h) (fun _ _ _ _ _ h _ _ => h) (by rfl) (fun T xs wr hA => ?_) ?_
    ·have hsw := (hA.be 0 (Nat.zero_le _) (fun _ _ => Nat.zero_le _)).size;have e70 := hA.tm 28 70 (by rfl) (by rfl);have f70 : xs 28 = (.string ⟨ZJ.toArray⟩) := hA.fa 28 (by rfl);rw [f70] at e70;clear f70;have e73 := hA.tm 31 73 (by rfl) (by rfl);have f73 : xs 31 = (.string ⟨ZK.toArray⟩) := hA.fa 31 (by rfl);rw [f73] at e73;clear f73;clear hA;refine ⟨(by rfl), fun K hK => ?_⟩;go_simp
     rw [if_neg (by omega)];exact hK.out _ _ (congrArg Value.string (by rw [HZL.out]; exact cat _ _)) (Below.refl _ _)
    refine R7.Chain.call (fun xs v w => v = .string ⟨ZM.toArray⟩) (fun _ _ _ _ h _ => h) (fun _ _ _ _ _ h _ _ => h) (by rfl) (fun T xs wr hA => ?_) ?_
    ·have hsw := (hA.be 0 (Nat.zero_le _) (fun _ _ => Nat.zero_le _)).size;have e74 := hA.tm 32 74 (by rfl) (by rfl);have f74 : xs 32 = (.string ⟨ZL.toArray⟩) := hA.fa 32 (by rfl);rw [f74] at e74;clear f74;clear hA;refine ⟨(by rfl), fun K hK => ?_⟩;go_simp
     rw [if_neg (by omega)];exact hK.out _ _ (congrArg Value.string (by rw [HZM.out]; exact cat _ _)) (Below.refl _ _)
    refine R7.Chain.call (fun xs v w => v = .string ⟨ZN.toArray⟩) (fun _ _ _ _ h _ => h) (fun _ _ _ _ _ h _ _ => h) (by rfl) (fun T xs wr hA => ?_) ?_
    ·have hsw := (hA.be 0 (Nat.zero_le _) (fun _ _ => Nat.zero_le _)).size;have e42 := (hA.tm 0 42 (by rfl) (by rfl)).trans (congrArg some (hA.fa 0 (by rfl)))
     (try simp (disch := first | rfl | decide) only [R7.mask_in] at e42)
     have e75 := hA.tm 33 75 (by rfl) (by rfl);have f75 : xs 33 = (.string ⟨ZM.toArray⟩) := hA.fa 33 (by rfl);rw [f75] at e75;clear f75;clear hA;refine ⟨(by rfl), fun K hK => ?_⟩;go_simp
     rw [if_neg (by omega)];exact hK.out _ _ (congrArg Value.string (by rw [HZN.out]; exact cat _ _)) (Below.refl _ _)
    refine R7.Chain.det ?_ (by rfl) (fun T xs wr hA => ?_) ?_
    rotate_left 1
    ·have e76 := hA.tm 34 76 (by rfl) (by rfl);have f76 : xs 34 = (.string ⟨ZN.toArray⟩) := hA.fa 34 (by rfl);rw [f76] at e76;clear f76;clear hA;refine ⟨(by rfl), ?_⟩;go_simp <;> (try with_reducible rfl)
    refine R7.Chain.done (fun xs w2 hL => ?_);obtain ⟨⟨hbe, hbl⟩, hf, -, -⟩ := hL;have f0 : xs 0 = _ := hf 0 (by decide);have f1 : xs 1 = _ := hf 1 (by decide);have f2 : xs 2 = _ := hf 2 (by decide);have f3 : xs 3 = _ := hf 3 (by decide);have f4 : xs 4 = _ := hf 4 (by decide);have f5 : xs 5 = _ := hf 5 (by decide);have f6 : xs 6 = _ := hf 6 (by decide);have f7 : xs 7 = (.string ⟨ZA.toArray⟩) := hf 7 (by decide);have f8 : xs 8 = (.string ⟨ZB.toArray⟩) := hf 8 (by decide);have f9 : xs 9 = _ := hf 9 (by decide);have f10 : xs 10 = _ := hf 10 (by decide);have f11 : xs 11 = (.string ⟨ZC.toArray⟩) := hf 11 (by decide);have f12 : xs 12 = (.string ⟨ZD.toArray⟩) := hf 12 (by decide);have f13 : xs 13 = _ := hf 13 (by decide);have f14 : xs 14 = _ := hf 14 (by decide);have f15 : xs 15 = (.string ⟨ZE.toArray⟩) := hf 15 (by decide);have f16 : xs 16 = (.string ⟨ZF.toArray⟩) := hf 16 (by decide)
    have f17 : xs 17 = _ := hf 17 (by decide);have f18 : xs 18 = _ := hf 18 (by decide);have f19 : xs 19 = _ := hf 19 (by decide);have f20 : xs 20 = _ := hf 20 (by decide);have f21 : xs 21 = _ := hf 21 (by decide);have f22 : xs 22 = _ := hf 22 (by decide);have f23 : xs 23 = (.string ⟨ZG.toArray⟩) := hf 23 (by decide);have f24 : xs 24 = (.string ⟨ZH.toArray⟩) := hf 24 (by decide);have f25 : xs 25 = _ := hf 25 (by decide);have f26 : xs 26 = _ := hf 26 (by decide);have f27 : xs 27 = (.string ⟨ZI.toArray⟩) := hf 27 (by decide);have f28 : xs 28 = (.string ⟨ZJ.toArray⟩) := hf 28 (by decide);have f29 : xs 29 = _ := hf 29 (by decide);have f30 : xs 30 = _ := hf 30 (by decide);have f31 : xs 31 = (.string ⟨ZK.toArray⟩) := hf 31 (by decide);have f32 : xs 32 = (.string ⟨ZL.toArray⟩) := hf 32 (by decide);have f33 : xs 33 = (.string ⟨ZM.toArray⟩) := hf 33 (by decide)
    have f34 : xs 34 = (.string ⟨ZN.toArray⟩) := hf 34 (by decide);have f35 : xs 35 = _ := hf 35 (by decide)
    (try simp (disch := first | rfl | decide) only [R7.mask_in] at f0 f1 f2 f3 f4 f5 f6 f9 f10 f13 f14 f17 f18 f19 f20 f21 f22 f25 f26 f29 f30 f35)
    have hb0 : Below 0 w1 w2 := undrew (hbe 0 (Nat.zero_le _) (fun _ _ => Nat.zero_le _));have hgr : ∀ j, j < w1.heap.size -> (∀ q, q < 0 -> (fun q => 0) q ≠ j) -> w2.heap[j]? = w1.heap[j]? := hbl;clear hbe hbl hf;have hb : Below w1.heap.size w1 w2 := ⟨hb0.os, hb0.tape, hb0.output, hb0.size, fun q hq => hgr q hq (fun q h => absurd h (Nat.not_lt_zero _))⟩
    refine R7.rest_done ?_;simp only [R7.fill, List.setIfInBounds_toArray, List.set_cons_zero, List.set_cons_succ, f0, f1, f2, f3, f4, f5, f6, f7, f8, f9, f10, f11, f12, f13, f14, f15, f16, f17, f18, f19, f20, f21, f22, f23, f24, f25, f26, f27, f28, f29, f30, f31, f32, f33, f34, f35];clear hb0 hgr hog hlt_f f0 f1 f2 f3 f4 f5 f6 f7 f8 f9 f10 f11 f12 f13 f14 f15 f16 f17 f18 f19 f20 f21 f22 f23 f24 f25 f26 f27 f28 f29 f30 f31 f32 f33 f34 f35;replace HBf := kB hb HBf;replace HBY := h_ (HBY.out.trans (hb.mono HBY.out.size));replace HTB := h_ (tab_below HTB.out hb);replace HU := h_ (HU.out.below hb);replace HUY := h_ (HUY.out.below hb);replace HPA := h_ (HPA.out.below hb);replace HD := dB HD hb;have hsz2 := HD.out.size;clear hb;go_wp2_with fail
    go_roundw
    case rel => exact ⟨j + 1, by rw [HT1.out, <- List.append_assoc, <- HTj.out, HZN.out, HZM.out, HZL.out, HZK.out, HZJ.out, HZI.out, HZH.out, HZG.out, HZF.out, HZE.out, HZD.out, HZC.out, HZB.out, HZA.out, <- HPX.out]; unfold fnx; simp only [List.append_assoc, List.nil_append], by go_num, by omega, HBY.out⟩
    case measure => simp [intOf]; omega
   have e : j = fs.length := by omega
   subst e;rw [List.take_length] at HTj;clear hbw;go_wp2_with fail
   go_ret
   exact ⟨by rw [<- HSj.out, <- HTj.out]; rfl, HBW.out.trans (HBY.out.mono HBW.out.size)⟩
set_option maxRecDepth 1000000
theorem parseRuns_long (l : Bs) (w : World) (hl : 3000 < l.length) (hm : l.length <= maxLen) (hop : OpsAt w) :
  Calls Tryz.prog 3 #[.string ⟨l.toArray⟩] w fun e w' => e = .returned (.bool true) /\ Below w.heap.size w w' := by
 have hsz : (⟨l.toArray⟩ : ByteArray).size = l.length := rfl;unfold maxLen at hm;have HO := h_ hop;clear hop;go_enter Tryz.func3, Tryz.ntmps3
 go_wp2_with fail
 refine (fit_p w HO.out).mono ?_;rintro e w1 ⟨rfl, hb⟩;have HB := h_ hb;clear hb;go_wp2_with fail
 go_ret
 exact ⟨rfl, HB.out⟩
theorem parseRuns_short (l : Bs) (w : World) (hl : l.length <= 3000) (hop : OpsAt w) (hg : ErrType w) (htab : Pow w) :
  Calls Tryz.prog 3 #[.string ⟨l.toArray⟩] w fun e w' => e = .returned (.bool true) /\ Below w.heap.size w w' := by
 have hsz : (⟨l.toArray⟩ : ByteArray).size = l.length := rfl;have hd3 : decide ((3000 : Int) < (l.length : Int)) = false := by simp; omega
 obtain ⟨m, n, r, y, q1, q2, hcase⟩ := progs_told l hl;have HRX : Hid (∀ w', Pow w' -> Calls Tryz.prog 8 #[.string ⟨l.toArray⟩] w' fun e w'' => e = .returned (rpgV l y) /\ Below w'.heap.size w' w'') := h_ (fun w' hp => rprog_p m n l y w' hl hp (tbd_rs0 l hl) q2);have HEX : Hid (∀ w', OpsAt w' -> Calls Tryz.prog 7 #[.string ⟨l.toArray⟩] w' (PgPost l r w')) := h_ (fun w' ho => parse_p 30000 30000 (by decide) l r w' (by omega) ho q1);have HC := h_ hcase;have HG := h_ hg;have HO := h_ hop;have HT := h_ htab;clear hop hg htab q1 q2 hcase;go_enter Tryz.func3, Tryz.ntmps3
 go_wp2_with fail
 refine (fit_p w HO.out).mono ?_;rintro e w1 ⟨rfl, hb⟩;have HB := h_ hb;clear hb;go_wp2_with fail
 refine (HEX.out w1 (HO.out.below HB.out)).mono ?_;rintro e w2 ⟨hb, hp⟩;have HP := h_ hp;have HB2 := h_ (HB.out.trans (hb.mono HB.out.size));clear hb hp HEX;rcases HC.out with ⟨f1, f2, f3, f4⟩ | ⟨c, ln, cl, f1, f2, f3⟩
 ·rcases HP.out with ⟨f, ev, hf, -, -⟩ | ⟨-, vq, vf, rfl, hu⟩
  ·rw [f1] at hf; cases hf
  obtain ⟨qs, fs, hq, hf, hQ, hF⟩ := hu;obtain ⟨qo, qc, eq1, hq0⟩ := id hQ;obtain ⟨fo, fc, ef1, hf0⟩ := id hF;subst eq1 ef1;have HQ := h_ hQ;have HF := h_ hF;rw [pgx_of hq hf] at f2 f4;have HF2 := h_ f2;have HF4 := h_ f4;have HBQ : Hid (∀ a ∈ qs, QlB a.q) := h_ (fun a ha => f3.1 _ (by rw [<- hq]; exact List.mem_map_of_mem ha));have HBF : Hid (∀ a ∈ fs, FnB a.q) := h_ (fun a ha => f3.2 _ (by rw [<- hf]; exact List.mem_map_of_mem ha));clear hQ hF hq0 hf0 hq hf f1 f2 f3 f4 HC HP;go_upto_region 6 with fail
  obtain ⟨w3, kb, hw, hkk, hb, hs1, HK3⟩ := newb w2 #[.slice qo qs.length qc, .slice fo fs.length fc] 26;rw [hw, <- hkk];have HB3 := h_ (HB2.out.trans (hb.mono HB2.out.size));replace HQ := h_ (HQ.out.below hb);replace HF := h_ (HF.out.below hb);clear hw hb hkk hs1;go_wp2_with fail
  refine (HRX.out w3 (tab_below HT.out HB3.out)).mono ?_;rintro e w4 ⟨rfl, hb⟩;rw [HF2.out];replace HK3 := kB hb HK3;have HB4 := h_ (HB3.out.trans (hb.mono HB3.out.size));replace HQ := h_ (HQ.out.below hb);replace HF := h_ (HF.out.below hb);clear hb HRX HF2;obtain ⟨x0, x1⟩ := cl2 HK3.out;go_wp2_with fail
  refine (program_l qs fs _ _ w4 _ (tab_below HT.out HB4.out) HQ.out HF.out HBQ.out HBF.out HF4.out).mono ?_;rintro e w5 ⟨rfl, hb⟩;have HB5 := h_ (HB4.out.trans (hb.mono HB4.out.size));clear hb x0 x1;go_wp2_with fail
  go_ret
  exact ⟨rfl, HB5.out⟩
 rcases HP.out with ⟨f, ev, hf, rfl, q, rfl, hA⟩ | ⟨hf, -⟩
 ·rw [f2] at hf;injection hf with hf;subst hf;have HA' := h_ hA;have HF1 := h_ f1;have HF3 := h_ f3;have hc2 : c <= 2 := by omega
  have hcn : (((c : Nat) : Int) != 0) = true := by simp; omega
  clear hA f1 f2 f3 HC HP;simp only at HA';go_upto_region 6 with fail
  obtain ⟨w3, kb, hw, hkk, hb, hs1, HK3⟩ := newb w2 #[.slice none 0 0, .slice none 0 0] 26;rw [hw, <- hkk];have HB3 := h_ (HB2.out.trans (hb.mono HB2.out.size));replace HA' := kB hb HA';clear hw hb hkk hs1;go_wp2_with fail
  refine (HRX.out w3 (tab_below HT.out HB3.out)).mono ?_;rintro e w4 ⟨rfl, hb⟩;rw [HF3.out];replace HK3 := kB hb HK3;have HB4 := h_ (HB3.out.trans (hb.mono HB3.out.size));replace HA' := kB hb HA';clear hb HRX HF3;go_wp2_with fail
  refine (fault_at q (ln, cl) c HF1.out w4 (HG.out.below HB4.out) HA'.out).mono ?_;rintro e w5 ⟨rfl, hb⟩;replace HK3 := kB hb HK3;have HB5 := h_ (HB4.out.trans (hb.mono HB4.out.size));clear hb;obtain ⟨x0, x1⟩ := cl2 HK3.out;go_wp2_with fail
  go_ret
  exact ⟨rfl, HB5.out⟩
 rw [f2] at hf; cases hf
theorem parseRuns_walk (s : ByteArray) (w : World) (hm : s.size <= maxLen) (hop : OpsAt w) (hg : ErrType w) (htab : Pow w) :
  Calls Tryz.prog 3 #[.string s] w fun e w' => e = .returned (.bool true) /\ Below w.heap.size w w' := by
 obtain ⟨l, rfl⟩ : ∃ l : Bs, s = ⟨l.toArray⟩ := ⟨s.data.toList, rfl⟩
 have hsz : (⟨l.toArray⟩ : ByteArray).size = l.length := rfl
 by_cases hl : l.length <= 3000
 ·exact parseRuns_short l w hl hop hg htab
 exact parseRuns_long l w (by omega) (by omega) hop
end Go.Proofs.YtdpfgfkoboihcaaGreatDoor
namespace Go.Proofs.YtdpfgfkoboihcaaGreatDoor
open Go.ChangeShapes Go.WideShapes Go.ChangeAt Go.RowKit
set_option maxRecDepth 100000
theorem errGlobal : Tryz.prog.globalNamed "errors.errorType" = some 0 := by kernel_rfl
theorem rtypeRow : (Tryz.prog.cutTypes.find? (·.1 == "internal/reflectlite.rtype")).map (·.2) = some 165 := by kernel_rfl
theorem errRow : ((List.range Tryz.prog.types.size).filter fun t => Tryz.prog.rowNamed t [101, 114, 114, 111, 114]) = [28] := by kernel_rfl
theorem gOps : (Tryz.prog.globalNamed "litmus/parse.operators").bind (fun g => (Tryz.prog.globals[g]?).map fun x => (Tryz.prog.underlying x.type, Tryz.prog.cellsOf x.type)) = some (some (.array 14 200), 70) := by kernel_rfl
theorem nOps : Tryz.prog.globalNamed "litmus/parse.operators" = some 3 := by kernel_rfl
theorem cells5Op : Tryz.prog.cellsOf 200 = 5 := by kernel_rfl
theorem cells1Int : Tryz.prog.cellsOf 3 = 1 := by kernel_rfl
theorem cells1Str : Tryz.prog.cellsOf 9 = 1 := by kernel_rfl
theorem cells1Kind : Tryz.prog.cellsOf 38 = 1 := by kernel_rfl
def opD (op : Bop) : DataW Unit := .agg [.lit (.string op.sign), .lit (.int .i64 (op.kind : Nat)), .lit (.int .i64 (op.level : Nat)), .lit (.int .i64 (op.left : Nat)), .lit (.int .i64 (op.right : Nat))]
theorem opsData : (Rows.laid_litmus_parse_operators : DataW Unit) = .agg (bops.map opD) := by rfl
theorem op_cells {enc : TypeId × Value -> Unit} {w : World} {base : Nat} {sp : Nat -> Bool} {held : Bool} {fuel : Nat} {cs : List Value} {y : DataW Unit × List MemPlace} {op : Bop}
  (h : DataW.trod enc Tryz.prog w base sp held fuel 200 cs = some y) (hy : y.1 = opD op) : cs = opC op := by
 obtain ⟨xs, n, rfl, rfl, hl, hx, hf⟩ := DataW.trod_struct Tryz.underlying200 h;have h0 : DataW.trod enc Tryz.prog w base sp held n 9 ((cs.drop 0).take (Tryz.prog.cellsOf 9)) = xs[0]? := hf 0 _ rfl;have h1 : DataW.trod enc Tryz.prog w base sp held n 38 ((cs.drop 1).take (Tryz.prog.cellsOf 38)) = xs[1]? := hf 1 _ rfl;have h2 : DataW.trod enc Tryz.prog w base sp held n 3 ((cs.drop 2).take (Tryz.prog.cellsOf 3)) = xs[2]? := hf 2 _ rfl;have h3 : DataW.trod enc Tryz.prog w base sp held n 3 ((cs.drop 3).take (Tryz.prog.cellsOf 3)) = xs[3]? := hf 3 _ rfl;have h4 : DataW.trod enc Tryz.prog w base sp held n 3 ((cs.drop 4).take (Tryz.prog.cellsOf 3)) = xs[4]? := hf 4 _ rfl;rw [cells5Op] at hl
 match xs, hx with
 | [a0, a1, a2, a3, a4], _ =>
  match cs, hl with
  | [c0, c1, c2, c3, c4], _ =>
   simp only [gsz, gsc] at h0 h1 h2 h3 h4;simp only [opD, List.map_cons, List.map_nil, DataW.agg.injEq, List.cons.injEq, and_true] at hy;obtain ⟨y0, y1, y2, y3, y4⟩ := hy;obtain ⟨s0, e0, rfl, _⟩ := DataW.trod_string Tryz.underlying9 h0;obtain ⟨s1, e1, rfl, _⟩ := DataW.trod_int Tryz.underlying38 h1;obtain ⟨s2, e2, rfl, _⟩ := DataW.trod_int Tryz.underlying3 h2;obtain ⟨s3, e3, rfl, _⟩ := DataW.trod_int Tryz.underlying3 h3;obtain ⟨s4, e4, rfl, _⟩ := DataW.trod_int Tryz.underlying3 h4;simp only [cells1Int, cells1Str, cells1Kind, List.drop_zero, List.take_succ_cons, List.take_zero, List.drop_succ_cons, List.cons.injEq, and_true] at e0 e1 e2 e3 e4;simp only [DataW.lit.injEq, Lit.string.injEq, Lit.int.injEq, true_and] at y0 y1 y2 y3 y4;subst e0 e1 e2 e3 e4;rw [y1, y2, y3, y4];unfold opC;rw [<- y0]
theorem cells_of_ops {enc : TypeId × Value -> Unit} {w : World} {base : Nat} {sp : Nat -> Bool} {held : Bool} {fuel : Nat} {t : TypeId} {cs : List Value} {l : List Bop} {p : List MemPlace} {n : Nat}
  (ht : Tryz.prog.underlying t = some (.array n 200)) (hct : Tryz.prog.cellsOf t = n * 5)
  (h : DataW.trod enc Tryz.prog w base sp held fuel t cs = some (.agg (l.map opD), p)) : cs = l.flatMap opC := by
 obtain ⟨xs, m, rfl, he, hl, hx, hf⟩ := DataW.trod_array ht h;rw [hct] at hl;rw [cells5Op] at hf;have hxs : l.map opD = xs.map (·.1) := by injection he with he _; injection he
 have hln : l.length = n := by have := congrArg List.length hxs; simp at this; omega
 clear h he hct ht;clear hx
 induction l generalizing cs xs n with
 | nil => simp at hln; subst hln; simpa using hl
 | cons op l ih =>
  match xs, hxs with
  | a :: xs, hxs =>
   match n, hln with
   | n + 1, hln =>
    simp only [List.map_cons, List.cons.injEq] at hxs;have h0 := hf 0 (by omega);simp only [Nat.zero_mul, List.drop_zero, gsz] at h0;have hc := op_cells h0 hxs.1.symm
    have := ih (cs := cs.drop 5) (xs := xs) (n := n) (by rw [List.length_drop, hl]; omega) (fun i hi => by
     have := hf (i + 1) (by omega);simp only [gsc] at this
     rw [List.drop_drop, show 5 + i * 5 = (i + 1) * 5 by omega]; exact this) hxs.2 (by simpa using hln)
    rw [List.flatMap_cons, <- this, <- hc, List.take_append_drop]
theorem gPow7 : (Tryz.prog.globalNamed "internal/strconv.uint64pow10").bind (fun g => (Tryz.prog.globals[g]?).map fun x => (Tryz.prog.underlying x.type, Tryz.prog.cellsOf x.type)) = some (some (.array 20 184), 20) := by kernel_rfl
theorem cellsU647 : Tryz.prog.cellsOf 184 = 1 := by kernel_rfl
theorem powData7 : (Rows.laid_internal_strconv_uint64pow10 : DataW Unit) = Lib.tabData .u64 Lib.pow10Tab := rfl
theorem ops_of_var {W : World} {g : Nat} {t : TypeId} {cs : Array Value} {fuel : Nat} {p : List MemPlace} (hg : Tryz.prog.globalNamed "litmus/parse.operators" = some g) (ht : (Tryz.prog.globals[g]?).map (·.type) = some t) (hvar : W.var? Tryz.prog "litmus/parse.operators" = some cs)
  (hd : DataW.trod (fun _ => ()) Tryz.prog W 0 (fun _ => true) false fuel t cs.toList = some (Rows.laid_litmus_parse_operators, p)) : OpsAt W := by
 have e := gOps;rw [hg, Option.bind_some] at e;obtain ⟨x, hx, ex⟩ := Option.map_eq_some_iff.1 e;rw [hx, Option.map_some] at ht;injection ht with ht;injection ex with e1 e2;rw [ht] at e1 e2;have hc := cells_of_ops e1 (by rw [e2]) (opsData ▸ hd);intro j v hv;rw [World.var?_cell nOps hvar j];have : cs[j]? = cs.toList[j]? := by simp
 rw [this, hc];exact hv
theorem laid_all {W : World} (h : laidMetH Tryz.prog Rows.parseRunsRow.laid W) : OpsAt W ∧ Lib.TabIs Tryz.prog W "internal/strconv.uint64pow10" .u64 Lib.pow10Tab := by
 have h1 : laidMet Tryz.prog [("math/bits.deBruijn32tab", Rows.laid_math_bits_deBruijn32tab), ("math/bits.deBruijn64tab", Rows.laid_math_bits_deBruijn64tab), ("internal/strconv.uint64pow10", Rows.laid_internal_strconv_uint64pow10), ("litmus/parse.operators", Rows.laid_litmus_parse_operators)] W := (laidMetH_iff.1 h).1;obtain ⟨_, ⟨_, _, _, _, _, _, _, _, _, _, ⟨_, _, _, _, _, _, _, _, _, _, ⟨g, t, cs, fuel, p, q, hg, ht, hvar, hd, ⟨g2, t2, cs2, fuel2, p2, q2, hg2, ht2, hvar2, hd2, _, _⟩, _⟩, _⟩, _⟩, _⟩ := h1;refine ⟨ops_of_var hg2 ht2 hvar2 hd2, ?_⟩;have e := gPow7;rw [hg, Option.bind_some] at e;obtain ⟨x, hx, ex⟩ := Option.map_eq_some_iff.1 e;rw [hx, Option.map_some] at ht;injection ht with ht;injection ex with e1 e2;rw [ht] at e1 e2;unfold Lib.TabIs;rw [hvar, ← Lib.cells_of_tab e1 Tryz.underlying184 cellsU647 e2 (powData7 ▸ hd)]
theorem ops_of_laid {W : World} (h : laidMetH Tryz.prog Rows.parseRunsRow.laid W) : OpsAt W := (laid_all h).1
theorem pow_of_laid {W : World} (h : laidMetH Tryz.prog Rows.parseRunsRow.laid W) : Lib.TabIs Tryz.prog W "internal/strconv.uint64pow10" .u64 Lib.pow10Tab := (laid_all h).2
theorem err_of_laid {W : World} (h : laidMetH Tryz.prog Rows.parseRunsRow.laid W) : ErrType W := by
 have h' : handlesMet Tryz.prog [("errors.errorType", Rows.laid_errors_errorType)] W := (laidMetH_iff.1 h).2;obtain ⟨name, u, ty, e1, e2, e3, e4, e5⟩ := h' _ (List.mem_singleton.2 rfl);have en : name = [101, 114, 114, 111, 114] := (Option.some.inj e1).symm;subst en;obtain rfl := Option.some.inj (rtypeRow.symm.trans e2);have hm : ty ∈ (List.range Tryz.prog.types.size).filter fun t => Tryz.prog.rowNamed t [101, 114, 114, 111, 114] := List.mem_filter.2 ⟨List.mem_range.2 e3, e4⟩
 rw [errRow] at hm;obtain rfl := List.mem_singleton.1 hm;have hh : typeHandle Tryz.prog 28 = .pointer (some ⟨Tryz.prog.globals.size, 28, none⟩) := by kernel_rfl
 rw [hh, gSize] at e5;unfold ErrType
 simpa using World.var?_cell errGlobal e5 0
noncomputable def laidWorld (os : Os) : World :=
 let w0 := World.doorLaid Tryz.prog 4000 os
 { w0 with heap := w0.heap.modify 0 fun
   | .cells _ t frozen => .cells #[.iface 165 (.agg #[.pointer (some ⟨Tryz.prog.globals.size, 28, none⟩)])] t frozen
   | o => o }
theorem laid_met (os : Os) (args : Array Value) : laidMetH Tryz.prog Rows.parseRunsRow.laid ((laidWorld os).forCall (fun _ _ => 0) ⟨#[], args, []⟩).memory :=
 laidMetH_of_parts (laidMet_of_run' 24 (by kernel_rfl) (by kernel_rfl)) (by kernel_rfl)
end Go.Proofs.YtdpfgfkoboihcaaGreatDoor
