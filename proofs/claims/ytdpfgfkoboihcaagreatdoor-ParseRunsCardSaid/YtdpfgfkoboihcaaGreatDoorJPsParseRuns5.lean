/-
 Joined texts: PsK, PsV, PsFit, PsP, ShelfB, Itoa, PsQ, PsT, PsS, PsW.
-/
import Derived.Shelf.Strings.Builder1
import Derived.Shelf.Small.Bits
import Derived.Shelf.Strconv.Itoa0
import Derived.Shelf.Strconv.Itoa1
import Derived.Shelf.LaysM
import Derived.Shelf.Strconv.Itoa2
import Derived.Shelf.Strconv.Itoa3
import Derived.Shelf.Strconv.Clone
import Derived.Shelf.Strings.Search1
import Derived.Shelf.Strings.Prefix
import Derived.Ground.Names2Prog
import Derived.Shelf.Slices.SearchI
import Derived.BigQuiet
import Derived.Test.YtdpfgfkoboihcaaGreatDoorJPsParseRuns1
import Derived.Test.YtdpfgfkoboihcaaGreatDoorJPsParseRuns2
import Derived.Test.YtdpfgfkoboihcaaGreatDoorJPsParseRuns3
import Derived.Test.YtdpfgfkoboihcaaGreatDoorJPsParseRuns4
set_option maxHeartbeats 32000000
namespace Go.Proofs.YtdpfgfkoboihcaaGreatDoor
open Go.RowKit
set_option maxRecDepth 100000
set_option linter.unusedVariables false
theorem max_val7 (a b : Nat) : Value.int .i64 (max (a : Int) b) = .int .i64 ((max a b : Nat) : Int) := by congr 1; omega
theorem depth_p (d : Nat) (hd : d <= 4000000000000000000) (x : X) (u : U) (w : World) (S : Nat -> Prop) (h : Um w S x u) (ho : ud u <= d) :
  Calls Tryz.prog 64 #[xv x] w fun e w' => e = .returned (.int .i64 (ud u : Nat)) /\ Below w.heap.size w w' := by
 induction d generalizing x u w with
 | zero => obtain ⟨k, nm, ot, z, ln, cl, ks⟩ := u; rw [ud] at ho; omega
 | succ d ih =>
  obtain ⟨k, nm, ot, z, ln, cl, ks⟩ := u;rw [Um] at h;obtain ⟨⟨e1, e2, e3, e4, e5, e6⟩, ⟨h2, h3⟩, ⟨h4, h5, h6⟩, h7⟩ := h;obtain ⟨xk, xnm, xot, xb, xao, xn, xc, xko, xkn, xkc, xln, xcl⟩ := x;simp only at e1 e2 e3 e4 e5 e6 h2 h3 h4 h5 h6 h7;have HK := h_ (fun j (hj : j < ks.length) => ums_get 0 j h7 hj);clear h7;subst e1 e2 e3 e4 e5 e6;subst h4;rw [ud] at ho;have hkl : ks.length <= 9223372036854775807 := Nat.le_trans h5.1 h5.2;clear h5;have IH := h_ ih;have hdd : uds ks <= d := by omega
  clear h2 h3 h6 ih ho;simp only [xv];go_enter Tryz.func64, Tryz.ntmps64
  go_wp2_with fail
  go_loopw [3, 9] (fun n i wr => ∃ j : Nat, n = .int .i64 ((uds (ks.take j) : Nat) : Int) /\ i = .int .i64 (j : Nat) /\ j <= ks.length /\ Below w.heap.size w wr) (fun _ i _ => ks.length - (intOf i).toNat)
  case atStart => exact ⟨0, rfl, rfl, Nat.zero_le _, (Below.refl _ _).alloc (Nat.le_refl _) _⟩
  case round =>
   obtain ⟨j, rfl, rfl, hj, hb⟩ := hrel
   by_cases hlt : j < ks.length
   ·obtain ⟨y, hA, hT⟩ := HK.out j hlt;rw [Nat.zero_add] at hA;have hT' := hT.below hb;obtain ⟨a, rfl, hc⟩ := hA.keep fun a ha => hb.block _ (hA.lt a ha)
    obtain ⟨c0, c1, c2, c3, c4, c5, c6, c7⟩ := cells8 hc;have hbd := uds_take_le ks j;have hbe := uds_mem (List.getElem_mem hlt);have HB := h_ hb;have HT := h_ hT';clear hc hA hT hT' hb;go_wp2_with fail
    refine (IH.out (by omega) y _ _ (HT.out.below ((Below.refl _ _).alloc (Nat.le_refl _) _)) (by omega)).mono ?_;rintro e w2 ⟨rfl, hb2⟩;have HB2 := h_ hb2;clear hb2 c0 c1 c2 c3 c4 c5 c6 c7;go_wp2_with fail
    go_roundw
    case rel => exact ⟨j + 1, by rw [uds_take ks j hlt]; exact max_val7 _ _, by go_num, by omega, (HB.out.alloc HB.out.size _).trans (HB2.out.mono (by have := HB.out.size; simp; omega))⟩
    case measure => simp [intOf]; omega
   have e : j = ks.length := by omega
   subst e;have hbd := uds_take_le ks ks.length;have HB := h_ hb;clear hb;go_wp2_with fail
   go_ret
   refine ⟨?_, HB.out⟩;rw [List.take_length, ud, Nat.add_comm]; rfl
theorem complete_p (n : Nat) (hn : n <= 1000000) (g : Nat) (s : St) (r : U × St) (w : World) (hps : PS w g s) (hop : GOps w g) (hc : cAll n s = some r) :
  Calls Tryz.prog 37 #[.pointer (some ⟨g, 0, none⟩)] w (TreePost w g r.1 r.2) := by
 have E := h_ (all_p n).ex;have HP := h_ hps;have HOP := h_ hop;clear hps hop;unfold cAll at hc;rw [Option.bind_eq_some_iff] at hc;obtain ⟨r1, h1, hr⟩ := hc;injection hr with hr;subst hr;have hdp := (c_deep n).1 _ _ h1;have hBn : Bd n <= 4000000000000000000 := by unfold Bd; have := Nat.mul_le_mul (show n + 1 <= 1000001 by omega) (show n + 1 <= 1000001 by omega); omega
 have h1 := h_ h1
 by_cases hdeep : 60 < ud r1.1
 ·have HIF : Hid ((if 60 < ud r1.1 then r1.2.fail s.nx 2 else r1.2) = r1.2.fail s.nx 2) := h_ (if_pos hdeep);have hgt : decide (60 < ud r1.1) = true := by simpa using hdeep
  rw [HIF.out];go_enter Tryz.func37, Tryz.ntmps37
  go_upto_region 1 with fail
  obtain ⟨w1, kr, hw, hkk, hb, -, HBr⟩ := newb w #[.int .i64 0, .string ⟨#[]⟩, .string ⟨#[]⟩, .bool false, .slice none 0 0, .slice none 0 0, .int .i64 0, .int .i64 0] 45;have hgr : g < kr := by rw [hkk]; exact HP.out.lt
  have her : w.heap.size <= kr := by omega
  rw [hw, <- hkk];replace HP := h_ (HP.out.below hb);replace HOP := h_ (HOP.out.below hb);have HD := h_ (below_grown hb (some g));clear hw hb hkk;go_wp2_with fail
  refine (next_p g s w1 HP.out).mono ?_;rintro e w2 ⟨rfl, hb⟩;replace HBr := kB hb HBr;replace HP := h_ (HP.out.below hb);replace HOP := h_ (HOP.out.below hb);replace HD := dB HD hb;have hsz2 := HD.out.size;clear hb;simp only [tokV];obtain ⟨t, hnx⟩ : ∃ t, t = St.nx s := ⟨_, rfl⟩
  rw [<- hnx];have HNt := h_ hnx;clear hnx;go_upto_region 2 with fail
  obtain ⟨w3, kt, hw, hkk, hb, -, HBt⟩ := newb w2 #[.int .i64 (t.kind : Nat), .string ⟨t.text.toArray⟩, .int .i64 (t.line : Nat), .int .i64 (t.col : Nat)] 111;have hgt : g < kt := by rw [hkk]; exact HP.out.lt
  have het : w.heap.size <= kt := by omega
  have hr_t : kr < kt := by rw [hkk]; exact lt_of_block HBr.out
  rw [hw, <- hkk];replace HBr := kB hb HBr;replace HP := h_ (HP.out.below hb);replace HOP := h_ (HOP.out.below hb);replace HD := dB HD hb;have hsz3 := HD.out.size;clear hw hb hkk;go_wp2_with fail
  obtain ⟨Na, hN⟩ : ∃ k, k = w3.heap.size := ⟨_, rfl⟩
  have hr_Na : kr < Na := by rw [hN]; exact lt_of_block HBr.out
  have ht_Na : kt < Na := by rw [hN]; exact lt_of_block HBt.out
  have hg_Na : g < Na := by rw [hN]; exact HP.out.lt
  have he_Na : w.heap.size <= Na := by omega
  refine (E.out g _ _ w3 HP.out HOP.out h1.out).mono ?_;rintro e w4 ⟨xa, rfl, hu, hp, hg⟩;replace HBr := kG hg HBr;replace HBt := kG hg HBt;replace HOP := h_ (HOP.out.grown hg (by omega));replace HP := h_ hp;replace HD := dG HD hg;have hsz4 := HD.out.size;rw [<- hN] at hu;have HUa := h_ (hu.mono (S' := fun b => Na <= b /\ True) (fun b h => ⟨h, trivial⟩));clear hN hu;clear hp hg;obtain ⟨ak, anm, aot, ab, aao, an, aq, ako, akn, akc, aln, acl⟩ := xa;simp only [xv];go_upto_region 3 with fail
  obtain ⟨w5, ka, hw, hkk, hb, -, HBa⟩ := newb w4 #[.int .i64 ak, .string anm, .string aot, .bool ab, .slice aao an aq, .slice ako akn akc, .int .i64 aln, .int .i64 acl] 45;have hga : g < ka := by rw [hkk]; exact HP.out.lt
  have hea : w.heap.size <= ka := by omega
  have hr_a : kr < ka := by rw [hkk]; exact lt_of_block HBr.out
  have ht_a : kt < ka := by rw [hkk]; exact lt_of_block HBt.out
  replace HUa := h_ (HUa.out.offk hkk);rw [hw, <- hkk];replace HBr := kB hb HBr;replace HBt := kB hb HBt;replace HP := h_ (HP.out.below hb);replace HUa := h_ (HUa.out.below hb);replace HOP := h_ (HOP.out.below hb);replace HD := dB HD hb;clear hw hb hkk;obtain ⟨ca0, ca1, ca2, ca3, ca4, ca5, ca6, ca7⟩ := cl8 HBa.out;obtain ⟨ct0, ct1, ct2, ct3⟩ := cl4 HBt.out;go_wp2_with fail
  refine (depth_p (Bd n) hBn ⟨ak, anm, aot, ab, aao, an, aq, ako, akn, akc, aln, acl⟩ r1.1 w5 _ HUa.out hdp).mono ?_;rintro e w6 ⟨rfl, hb⟩;clear ca0 ca1 ca2 ca3 ca4 ca5 ca6 ca7 ct0 ct1 ct2 ct3;replace HBr := kB hb HBr;replace HBt := kB hb HBt;replace HBa := kB hb HBa;replace HP := h_ (HP.out.below hb);replace HUa := h_ (HUa.out.below hb);replace HOP := h_ (HOP.out.below hb);replace HD := dB HD hb;clear hb;obtain ⟨ct0, ct1, ct2, ct3⟩ := cl4 HBt.out;go_wp2_with fail
  have hp0 := fail_p g r1.2 t 2 w6 HP.out;simp only [tokV] at hp0;refine (hp0).mono ?_;rintro e w7 ⟨⟨v, rfl⟩, hp, hg⟩;clear ct0 ct1 ct2 ct3;replace HBr := kG hg HBr;replace HBt := kG hg HBt;replace HBa := kG hg HBa;replace HUa := h_ (HUa.out.grown hg (fun h => by omega));replace HOP := h_ (HOP.out.grown hg (by omega));replace HP := h_ hp;replace HD := dG HD hg;clear hp hg;clear hp0;obtain ⟨ca0, ca1, ca2, ca3, ca4, ca5, ca6, ca7⟩ := cl8 HBa.out;obtain ⟨z0, z1, z2, z3, z4, z5, z6, z7⟩ := cl8 HBr.out;obtain ⟨fz0, fz1, fz2, fz3, fz4, fz5, fz6, fz7⟩ := fr8 HBr.out;go_wp2_with fail
  refine bodyPost_ret (v := .agg #[.int .i64 ak, .string anm, .string aot, .bool ab, .slice aao an aq, .slice ako akn akc, .int .i64 aln, .int .i64 acl]) (by simp [results, Tryz.results37, go_sem, z0, z1, z2, z3, z4, z5, z6, z7]) rfl ?_;obtain ⟨wz, hw⟩ : ∃ x, x = st8 w7 kr (.int .i64 ak) (.string anm) (.string aot) (.bool ab) (.slice aao an aq) (.slice ako akn akc) (.int .i64 aln) (.int .i64 acl) := ⟨_, rfl⟩
  have hg : w7.grownBy wz (some kr) := by rw [hw]; exact st8_grown _ _ _ _ _ _ _ _ _ _
  change TreePost w g _ _ _ (st8 w7 kr (.int .i64 ak) (.string anm) (.string aot) (.bool ab) (.slice aao an aq) (.slice ako akn akc) (.int .i64 aln) (.int .i64 acl));rw [<- hw];clear ca0 ca1 ca2 ca3 ca4 ca5 ca6 ca7 z0 fz0 z1 fz1 z2 fz2 z3 fz3 z4 fz4 z5 fz5 z6 fz6 z7 fz7;replace HP := h_ (HP.out.store HBr.out (by decide) (by omega) hg);replace HBt := kG hg HBt;replace HBa := kG hg HBa;replace HUa := h_ (HUa.out.grown hg (fun h => by omega));replace HOP := h_ (HOP.out.grown hg (by omega));replace HD := dN HD hg (by omega);have hsz7 := HD.out.size;clear hw hg;exact ⟨⟨ak, anm, aot, ab, aao, an, aq, ako, akn, akc, aln, acl⟩, rfl, (HUa.out.mono (fun b h => by have h : (Na <= b /\ True) /\ b ≠ ka := h; show _ <= b; omega)), by rw [<- HNt.out]; exact HP.out, HD.out⟩
 have HIF : Hid ((if 60 < ud r1.1 then r1.2.fail s.nx 2 else r1.2) = r1.2) := h_ (if_neg hdeep);have hgt : decide (60 < ud r1.1) = false := by simpa using hdeep
 rw [HIF.out];go_enter Tryz.func37, Tryz.ntmps37
 go_upto_region 1 with fail
 obtain ⟨w1, kr, hw, hkk, hb, -, HBr⟩ := newb w #[.int .i64 0, .string ⟨#[]⟩, .string ⟨#[]⟩, .bool false, .slice none 0 0, .slice none 0 0, .int .i64 0, .int .i64 0] 45;have hgr : g < kr := by rw [hkk]; exact HP.out.lt
 have her : w.heap.size <= kr := by omega
 rw [hw, <- hkk];replace HP := h_ (HP.out.below hb);replace HOP := h_ (HOP.out.below hb);have HD := h_ (below_grown hb (some g));clear hw hb hkk;go_wp2_with fail
 refine (next_p g s w1 HP.out).mono ?_;rintro e w2 ⟨rfl, hb⟩;replace HBr := kB hb HBr;replace HP := h_ (HP.out.below hb);replace HOP := h_ (HOP.out.below hb);replace HD := dB HD hb;have hsz2 := HD.out.size;clear hb;simp only [tokV];obtain ⟨t, hnx⟩ : ∃ t, t = St.nx s := ⟨_, rfl⟩
 rw [<- hnx];have HNt := h_ hnx;clear hnx;go_upto_region 2 with fail
 obtain ⟨w3, kt, hw, hkk, hb, -, HBt⟩ := newb w2 #[.int .i64 (t.kind : Nat), .string ⟨t.text.toArray⟩, .int .i64 (t.line : Nat), .int .i64 (t.col : Nat)] 111;have hgt : g < kt := by rw [hkk]; exact HP.out.lt
 have het : w.heap.size <= kt := by omega
 have hr_t : kr < kt := by rw [hkk]; exact lt_of_block HBr.out
 rw [hw, <- hkk];replace HBr := kB hb HBr;replace HP := h_ (HP.out.below hb);replace HOP := h_ (HOP.out.below hb);replace HD := dB HD hb;have hsz3 := HD.out.size;clear hw hb hkk;go_wp2_with fail
 obtain ⟨Na, hN⟩ : ∃ k, k = w3.heap.size := ⟨_, rfl⟩
 have hr_Na : kr < Na := by rw [hN]; exact lt_of_block HBr.out
 have ht_Na : kt < Na := by rw [hN]; exact lt_of_block HBt.out
 have hg_Na : g < Na := by rw [hN]; exact HP.out.lt
 have he_Na : w.heap.size <= Na := by omega
 refine (E.out g _ _ w3 HP.out HOP.out h1.out).mono ?_;rintro e w4 ⟨xa, rfl, hu, hp, hg⟩;replace HBr := kG hg HBr;replace HBt := kG hg HBt;replace HOP := h_ (HOP.out.grown hg (by omega));replace HP := h_ hp;replace HD := dG HD hg;have hsz4 := HD.out.size;rw [<- hN] at hu;have HUa := h_ (hu.mono (S' := fun b => Na <= b /\ True) (fun b h => ⟨h, trivial⟩));clear hN hu;clear hp hg;obtain ⟨ak, anm, aot, ab, aao, an, aq, ako, akn, akc, aln, acl⟩ := xa;simp only [xv];go_upto_region 3 with fail
 obtain ⟨w5, ka, hw, hkk, hb, -, HBa⟩ := newb w4 #[.int .i64 ak, .string anm, .string aot, .bool ab, .slice aao an aq, .slice ako akn akc, .int .i64 aln, .int .i64 acl] 45;have hga : g < ka := by rw [hkk]; exact HP.out.lt
 have hea : w.heap.size <= ka := by omega
 have hr_a : kr < ka := by rw [hkk]; exact lt_of_block HBr.out
 have ht_a : kt < ka := by rw [hkk]; exact lt_of_block HBt.out
 replace HUa := h_ (HUa.out.offk hkk);rw [hw, <- hkk];replace HBr := kB hb HBr;replace HBt := kB hb HBt;replace HP := h_ (HP.out.below hb);replace HUa := h_ (HUa.out.below hb);replace HOP := h_ (HOP.out.below hb);replace HD := dB HD hb;clear hw hb hkk;obtain ⟨ca0, ca1, ca2, ca3, ca4, ca5, ca6, ca7⟩ := cl8 HBa.out;obtain ⟨ct0, ct1, ct2, ct3⟩ := cl4 HBt.out;go_wp2_with fail
 refine (depth_p (Bd n) hBn ⟨ak, anm, aot, ab, aao, an, aq, ako, akn, akc, aln, acl⟩ r1.1 w5 _ HUa.out hdp).mono ?_;rintro e w6 ⟨rfl, hb⟩;clear ca0 ca1 ca2 ca3 ca4 ca5 ca6 ca7 ct0 ct1 ct2 ct3;replace HBr := kB hb HBr;replace HBt := kB hb HBt;replace HBa := kB hb HBa;replace HP := h_ (HP.out.below hb);replace HUa := h_ (HUa.out.below hb);replace HOP := h_ (HOP.out.below hb);replace HD := dB HD hb;clear hb;obtain ⟨ca0, ca1, ca2, ca3, ca4, ca5, ca6, ca7⟩ := cl8 HBa.out;obtain ⟨z0, z1, z2, z3, z4, z5, z6, z7⟩ := cl8 HBr.out;obtain ⟨fz0, fz1, fz2, fz3, fz4, fz5, fz6, fz7⟩ := fr8 HBr.out;go_wp2_with fail
 refine bodyPost_ret (v := .agg #[.int .i64 ak, .string anm, .string aot, .bool ab, .slice aao an aq, .slice ako akn akc, .int .i64 aln, .int .i64 acl]) (by simp [results, Tryz.results37, go_sem, z0, z1, z2, z3, z4, z5, z6, z7]) rfl ?_;obtain ⟨wz, hw⟩ : ∃ x, x = st8 w6 kr (.int .i64 ak) (.string anm) (.string aot) (.bool ab) (.slice aao an aq) (.slice ako akn akc) (.int .i64 aln) (.int .i64 acl) := ⟨_, rfl⟩
 have hg : w6.grownBy wz (some kr) := by rw [hw]; exact st8_grown _ _ _ _ _ _ _ _ _ _
 change TreePost w g _ _ _ (st8 w6 kr (.int .i64 ak) (.string anm) (.string aot) (.bool ab) (.slice aao an aq) (.slice ako akn akc) (.int .i64 aln) (.int .i64 acl));rw [<- hw];clear ca0 ca1 ca2 ca3 ca4 ca5 ca6 ca7 z0 fz0 z1 fz1 z2 fz2 z3 fz3 z4 fz4 z5 fz5 z6 fz6 z7 fz7;replace HP := h_ (HP.out.store HBr.out (by decide) (by omega) hg);replace HBt := kG hg HBt;replace HBa := kG hg HBa;replace HUa := h_ (HUa.out.grown hg (fun h => by omega));replace HOP := h_ (HOP.out.grown hg (by omega));replace HD := dN HD hg (by omega);have hsz6 := HD.out.size;clear hw hg;exact ⟨⟨ak, anm, aot, ab, aao, an, aq, ako, akn, akc, aln, acl⟩, rfl, (HUa.out.mono (fun b h => by have h : (Na <= b /\ True) /\ b ≠ ka := h; show _ <= b; omega)), HP.out, HD.out⟩
theorem toks_of {w : World} {b : Nat} : ∀ {ts : List Tok} {o : Nat}, (∀ k (hk : k < ts.length), w.cell? ⟨b, o + k * 4, none⟩ = some (.int .i64 (ts[k].kind : Nat)) /\ w.cell? ⟨b, o + (k * 4 + 1), none⟩ = some (.string ⟨ts[k].text.toArray⟩) /\ w.cell? ⟨b, o + (k * 4 + 2), none⟩ = some (.int .i64 (ts[k].line : Nat)) /\ w.cell? ⟨b, o + (k * 4 + 3), none⟩ = some (.int .i64 (ts[k].col : Nat))) -> Toks w b o ts
 | [], _, _ => trivial
 | t :: ts, o, h => by
  refine ⟨by have := h 0 (by simp); simp only [List.getElem_cons_zero, Nat.zero_mul, Nat.zero_add, Nat.add_zero] at this; exact this, toks_of fun k hk => ?_⟩;have := h (k + 1) (by simpa using hk);simp only [List.getElem_cons_succ] at this;rw [show o + (k + 1) * 4 = o + 4 + k * 4 by omega, show o + ((k + 1) * 4 + 1) = o + 4 + (k * 4 + 1) by omega, show o + ((k + 1) * 4 + 2) = o + 4 + (k * 4 + 2) by omega, show o + ((k + 1) * 4 + 3) = o + 4 + (k * 4 + 3) by omega] at this;exact this
def st0 (l : Bs) : St := ⟨(lexS l (1, 1)).1, none⟩
def lexF (l : Bs) : Option (Nat × Nat × Nat) := if (lexS l (1, 1)).2 = 0 then none else ((lexS l (1, 1)).1.getLast?).map fun t => ((lexS l (1, 1)).2, t.line, t.col)
def AtF (w : World) (v : Value) (f : Nat × Nat × Nat) : Prop := ∃ q, v = .iface 70 (.pointer (some ⟨q, 0, none⟩)) /\ AtB w q (f.2.1, f.2.2) (.iface 33 (.int .i64 (f.1 : Nat)))
theorem newp_p (l : Bs) (w : World) (hl : l.length <= 20000) :
  Calls Tryz.prog 17 #[.string ⟨l.toArray⟩] w fun e w' => Below w.heap.size w w' /\ ((∃ f ev, lexF l = some f /\ e = .returned (.tuple #[.pointer none, ev]) /\ AtF w' ev f) \/ (lexF l = none /\ ∃ g, e = .returned (.tuple #[.pointer (some ⟨g, 0, none⟩), .nilIface]) /\ w.heap.size <= g /\ PS w' g (st0 l))) := by
 have HX := h_ (lex_any l w hl);have HGL := h_ (lex_good l (1, 1));have HSM := h_ (lex_sum l (1, 1)).1;go_enter Tryz.func17, Tryz.ntmps17
 go_wp2_with fail
 refine HX.out.mono ?_;rintro e w1 ⟨hb, hp⟩;rcases hp with ⟨h0, v, rfl, hT⟩ | ⟨h0, q, t, hlast, rfl, hA, -⟩
 ·obtain ⟨tb, cap, rfl, h1, h2, -, h4, h5⟩ : ∃ g cap, v = .slice (some ⟨g, 0, none⟩) (lexS l (1, 1)).1.length cap /\ (lexS l (1, 1)).1.length <= cap /\ cap <= maxLen /\ w.heap.size + 1 <= g /\ g < w1.heap.size /\ ∀ k (hk : k < (lexS l (1, 1)).1.length), w1.cell? ⟨g, k * 4, none⟩ = some (.int .i64 ((lexS l (1, 1)).1[k].kind : Nat)) /\ w1.cell? ⟨g, k * 4 + 1, none⟩ = some (.string ⟨(lexS l (1, 1)).1[k].text.toArray⟩) /\ w1.cell? ⟨g, k * 4 + 2, none⟩ = some (.int .i64 ((lexS l (1, 1)).1[k].line : Nat)) /\ w1.cell? ⟨g, k * 4 + 3, none⟩ = some (.int .i64 ((lexS l (1, 1)).1[k].col : Nat)) := by
   obtain ⟨a, cap, rfl, h1, h2, h3⟩ := hT.form;obtain ⟨g, rfl, h4, h5, h6⟩ := h3 (lex_ne l (1, 1));exact ⟨g, cap, rfl, h1, h2, h4, h5, h6⟩
  have HT := h_ (toks_of (o := 0) fun k hk => by rw [Nat.zero_add, Nat.zero_add, Nat.zero_add, Nat.zero_add]; exact h5 k hk);have H0 := h_ h0;have HB := h_ hb;have HC := h_ (And.intro h1 h2);clear h5 hT hb h0 h1 h2;generalize hn : (lexS l (1, 1)).1.length = nl at *;have HN := h_ hn;clear hn;go_wp2_with fail
  go_ret2
  refine ⟨HB.out.alloc HB.out.size _, .inr ⟨by unfold lexF; rw [if_pos H0.out], w1.heap.size, rfl, HB.out.size, ⟨tb, 0, cap, .nilIface, ?_, HGL.out H0.out, ?_, HC.out.2, h4, ?_, ?_, rfl⟩, ?_⟩⟩
  ·rw [made_at w1 _ _ rfl]; unfold st0; simp only; rw [HN.out]
  ·unfold st0; simp only; rw [HN.out]; exact HC.out.1
  ·simp; omega
  ·exact HT.out.below h4 ((Below.refl _ _).alloc (Nat.le_refl _) _)
  unfold st0; simp only; rw [HN.out]; have := HSM.out; omega
 have H0 := h_ h0;have HB := h_ hb;have HA := h_ hA;have HL := h_ hlast;clear hb hA h0 hlast;go_wp2_with fail
 go_ret2
 exact ⟨HB.out, .inl ⟨((lexS l (1, 1)).2, t.line, t.col), _, by unfold lexF; rw [if_neg H0.out, HL.out]; rfl, rfl, q, rfl, HA.out⟩⟩
def exF (l : Bs) (r : U × St) : Option (Nat × Nat × Nat) := (lexF l).or r.2.fin.err
def ExPost (l : Bs) (r : U × St) (w : World) (e : Ending) (w' : World) : Prop := Below w.heap.size w w' /\ ((∃ f ev, exF l r = some f /\ e = .returned (.tuple #[.agg #[.int .i64 0, .string ⟨#[]⟩, .string ⟨#[]⟩, .bool false, .slice none 0 0, .slice none 0 0, .int .i64 0, .int .i64 0], ev]) /\ AtF w' ev f) \/ (exF l r = none /\ ∃ x, e = .returned (.tuple #[xv x, .nilIface]) /\ Um w' (fun b => w.heap.size <= b) x r.1))
theorem exprs_p (n : Nat) (hn : n <= 1000000) (l : Bs) (r : U × St) (w : World) (hl : l.length <= 20000) (hop : OpsAt w) (hc : lexF l = none -> cAll n (st0 l) = some r) :
  Calls Tryz.prog 11 #[.string ⟨l.toArray⟩] w (ExPost l r w) := by
 obtain ⟨w1, hw1⟩ : ∃ x, x = w.alloc (.cells #[.int .i64 0, .string ⟨#[]⟩, .string ⟨#[]⟩, .bool false, .slice none 0 0, .slice none 0 0, .int .i64 0, .int .i64 0] 45) := ⟨_, rfl⟩
 have hb1 : Below w.heap.size w w1 := by rw [hw1]; exact (Below.refl _ _).alloc (Nat.le_refl _) _
 obtain ⟨kr, hkr⟩ : ∃ k, k = w.heap.size := ⟨_, rfl⟩
 have hk1 : w1.heap[kr]? = some (.cells #[.int .i64 0, .string ⟨#[]⟩, .string ⟨#[]⟩, .bool false, .slice none 0 0, .slice none 0 0, .int .i64 0, .int .i64 0] 45 (0, 0)) := by rw [hw1, hkr]; exact made_at w _ _ rfl
 have HW1 := h_ hw1;have HKR := h_ hkr;have HB1 := h_ hb1;have HR1 := h_ hk1;have HO1 := h_ (hop.below hb1);have hNr : w.heap.size <= kr := by omega
 have hs1 := hb1.size;clear hw1 hb1 hkr hk1 hop;have HC := h_ hc;clear hc;go_enter Tryz.func11, Tryz.ntmps11
 go_upto_region 1 with fail
 rw [<- HW1.out, <- HKR.out];go_wp2_with fail
 refine (newp_p l w1 hl).mono ?_;rintro e w2 ⟨hb2, hcase⟩;have HB2 := h_ (HB1.out.trans (hb2.mono HB1.out.size));have HR2 := kB hb2 HR1;have HO2 := h_ (HO1.out.below hb2);have hs2 := hb2.size;clear hb2;rcases hcase with ⟨f, ev, hf, rfl, hA⟩ | ⟨hf, g, rfl, hg, hps⟩
 ·obtain ⟨q, rfl, hq⟩ := hA;have HA := h_ hq;have HF := h_ hf;have hqk : q ≠ kr := fun e => by subst e; have := HR2.out; unfold AtB at hq; rw [hq] at this; injection this with this; injection this with _ this; exact absurd this (by decide)
  clear hq hf;obtain ⟨z0, z1, z2, z3, z4, z5, z6, z7⟩ := cl8 HR2.out;obtain ⟨fz0, fz1, fz2, fz3, fz4, fz5, fz6, fz7⟩ := fr8 HR2.out;go_wp2_with fail
  refine bodyPost_ret (v := .tuple #[.agg #[.int .i64 0, .string ⟨#[]⟩, .string ⟨#[]⟩, .bool false, .slice none 0 0, .slice none 0 0, .int .i64 0, .int .i64 0], .iface 70 (.pointer (some ⟨q, 0, none⟩))]) (by simp [results, Tryz.results11, go_sem, z0, z1, z2, z3, z4, z5, z6, z7]) rfl ⟨st8_below HB2.out hNr _ _ _ _ _ _ _ _, .inl ⟨f, _, by unfold exF; rw [HF.out]; rfl, rfl, q, rfl, ?_⟩⟩;have := HA.out;unfold AtB at this ⊢;exact (st8_other w2 kr _ _ _ _ _ _ _ _ hqk).trans this
 have HF := h_ hf;have HPS := h_ hps;have HC2 := h_ (HC.out hf);have hgr : kr < g := Nat.lt_of_lt_of_le (lt_of_block HR1.out) hg;have HGO : Hid (GOps w2 g) := h_ ⟨HO2.out, Nat.lt_of_lt_of_le (cell_lt (HO1.out 0 _ rfl)) hg⟩;clear hf hps hg;go_wp2_with fail
 obtain ⟨N, hN⟩ : ∃ k, k = w2.heap.size := ⟨_, rfl⟩
 have hrN : kr < N := by rw [hN]; exact lt_of_block HR2.out
 have hwN : w.heap.size <= N := by omega
 have hgN : g < N := by rw [hN]; exact HPS.out.lt
 have hgw : w.heap.size <= g := by omega
 refine (complete_p n hn g (st0 l) r w2 HPS.out HGO.out HC2.out).mono ?_;rintro e w3 ⟨x, rfl, hu, hp, hg⟩;rw [<- hN] at hu;have HR3 := kG hg HR2;have HB3 := h_ (HB2.out.trans (grown_below hg HB2.out.size hgw));have HU3 := h_ hu;have HP3 := h_ hp;have hs3 := hg.size;clear hu hp hg hN;obtain ⟨xk, xnm, xot, xb, xao, xn, xq, xko, xkn, xkc, xln, xcl⟩ := x;simp only [xv];go_upto_region 5 with fail
 obtain ⟨w4, hw4⟩ : ∃ y, y = w3.alloc (.cells #[.int .i64 xk, .string xnm, .string xot, .bool xb, .slice xao xn xq, .slice xko xkn xkc, .int .i64 xln, .int .i64 xcl] 45) := ⟨_, rfl⟩
 have hb4 : Below w3.heap.size w3 w4 := by rw [hw4]; exact (Below.refl _ _).alloc (Nat.le_refl _) _
 have he4 : w4.heap[w3.heap.size]? = some (.cells #[.int .i64 xk, .string xnm, .string xot, .bool xb, .slice xao xn xq, .slice xko xkn xkc, .int .i64 xln, .int .i64 xcl] 45 (0, 0)) := by rw [hw4]; exact made_at w3 _ _ rfl
 rw [<- hw4];obtain ⟨ke, hke⟩ : ∃ k, k = w3.heap.size := ⟨_, rfl⟩
 have hre : kr < ke := by rw [hke]; exact lt_of_block HR3.out
 have hge : g < ke := by rw [hke]; exact HP3.out.lt
 rw [<- hke] at he4 ⊢;have HE4 := h_ he4;have HR4 := kB hb4 HR3;have HB4 := h_ (HB3.out.trans (hb4.mono HB3.out.size));have HU4 := h_ (HU3.out.below hb4);have HP4 := h_ (HP3.out.below hb4);clear hw4 hb4 he4 hke;go_wp2_with fail
 refine (finish_p g r.2 w4 HP4.out).mono ?_;rintro e w5 ⟨ev, rfl, hev, hp, hg⟩;have HR5 := kG hg HR4;have HE5 := kG hg HE4;have HB5 := h_ (HB4.out.trans (grown_below hg HB4.out.size hgw));have HU5 := h_ (HU4.out.grown hg (Nat.not_le.2 hgN));clear hp hg
 cases hfe : r.2.fin.err with
 | none =>
  rw [hfe] at hev;have hev2 : ev = .nilIface := hev;subst hev2;have HX : Hid (exF l r = none) := h_ (by unfold exF; rw [HF.out, hfe]; rfl);clear hev hfe;obtain ⟨x0, x1, x2, x3, x4, x5, x6, x7⟩ := cl8 HE5.out;obtain ⟨z0, z1, z2, z3, z4, z5, z6, z7⟩ := cl8 HR5.out;obtain ⟨fz0, fz1, fz2, fz3, fz4, fz5, fz6, fz7⟩ := fr8 HR5.out;go_wp2_with fail
  refine bodyPost_ret (v := .tuple #[.agg #[.int .i64 xk, .string xnm, .string xot, .bool xb, .slice xao xn xq, .slice xko xkn xkc, .int .i64 xln, .int .i64 xcl], .nilIface]) (by simp [results, Tryz.results11, go_sem, z0, z1, z2, z3, z4, z5, z6, z7]) rfl ⟨st8_below HB5.out hNr _ _ _ _ _ _ _ _, .inr ⟨HX.out, ⟨xk, xnm, xot, xb, xao, xn, xq, xko, xkn, xkc, xln, xcl⟩, rfl, ?_⟩⟩;exact (HU5.out.grown (st8_grown _ _ _ _ _ _ _ _ _ _) (Nat.not_le.2 hrN)).mono fun b h => Nat.le_trans hwN h
 | some f =>
  rw [hfe] at hev;obtain ⟨fc, fl, fk⟩ := f;obtain ⟨q, rfl, hq, hqg⟩ := hev;have HX : Hid (exF l r = some (fc, fl, fk)) := h_ (by unfold exF; rw [HF.out, hfe]; rfl);have hqk : q ≠ kr := fun e => by subst e; have := HR5.out; unfold AtB at hq; rw [hq] at this; injection this with this; injection this with _ this; exact absurd this (by decide)
  have HA := h_ hq;clear hq hfe;obtain ⟨z0, z1, z2, z3, z4, z5, z6, z7⟩ := cl8 HR5.out;obtain ⟨fz0, fz1, fz2, fz3, fz4, fz5, fz6, fz7⟩ := fr8 HR5.out;go_wp2_with fail
  refine bodyPost_ret (v := .tuple #[.agg #[.int .i64 0, .string ⟨#[]⟩, .string ⟨#[]⟩, .bool false, .slice none 0 0, .slice none 0 0, .int .i64 0, .int .i64 0], .iface 70 (.pointer (some ⟨q, 0, none⟩))]) (by simp [results, Tryz.results11, go_sem, z0, z1, z2, z3, z4, z5, z6, z7]) rfl ⟨st8_below HB5.out hNr _ _ _ _ _ _ _ _, .inl ⟨(fc, fl, fk), _, HX.out, rfl, q, rfl, ?_⟩⟩;have := HA.out;unfold AtB at this ⊢;exact (st8_other w5 kr _ _ _ _ _ _ _ _ hqk).trans this
end Go.Proofs.YtdpfgfkoboihcaaGreatDoor
namespace Go.Proofs.YtdpfgfkoboihcaaGreatDoor
set_option maxRecDepth 1000000
end Go.Proofs.YtdpfgfkoboihcaaGreatDoor
namespace Go.Proofs.YtdpfgfkoboihcaaGreatDoor
open Go.RowKit
set_option maxRecDepth 1000000
set_option linter.unusedVariables false
theorem add0 (a : Addr) : a.add 0 = a := by unfold Addr.add; split <;> simp_all
def fitT : Bs := [49, 32, 45, 32, 50, 32, 45, 32, 51]
def fitR : U × St := (.node 11 [] [] 0 1 7 [.node 11 [] [] 0 1 3 [.node 0 [] [] 1 1 1 [], .node 0 [] [] 2 1 5 []], .node 0 [] [] 3 1 9 []], ⟨[⟨4, [], 1, 10⟩], none⟩)
theorem fit_lx : lexN 20 fitT (1, 1) = ([⟨1, [49], 1, 1⟩, ⟨2, [45], 1, 3⟩, ⟨1, [50], 1, 5⟩, ⟨2, [45], 1, 7⟩, ⟨1, [51], 1, 9⟩, ⟨4, [], 1, 10⟩], 0) := by kernel_rfl
theorem fit_c : cAll 600 ⟨[⟨1, [49], 1, 1⟩, ⟨2, [45], 1, 3⟩, ⟨1, [50], 1, 5⟩, ⟨2, [45], 1, 7⟩, ⟨1, [51], 1, 9⟩, ⟨4, [], 1, 10⟩], none⟩ = some fitR := by kernel_rfl
theorem fit_st : st0 fitT = ⟨[⟨1, [49], 1, 1⟩, ⟨2, [45], 1, 3⟩, ⟨1, [50], 1, 5⟩, ⟨2, [45], 1, 7⟩, ⟨1, [51], 1, 9⟩, ⟨4, [], 1, 10⟩], none⟩ := by
 unfold st0; rw [<- lexN_eq 20 _ _ (by decide), fit_lx]
theorem fit_ex : exF fitT fitR = none := by
 unfold exF lexF; rw [<- lexN_eq 20 _ _ (by decide), fit_lx]; decide
theorem fit_p (w : World) (hop : OpsAt w) : Calls Tryz.prog 6 #[] w fun e w' => e = .returned (.bool true) /\ Below w.heap.size w w' := by
 have HX := h_ (exprs_p 600 (by decide) fitT fitR w (by decide) hop (fun _ => by rw [fit_st]; exact fit_c));clear hop;go_enter Tryz.func6, Tryz.ntmps6
 go_wp2_with fail
 refine HX.out.mono ?_;rintro e w1 ⟨hb, hcase⟩;rcases hcase with ⟨f, ev, hf, -, -⟩ | ⟨-, x, rfl, hu⟩
 ·rw [fit_ex] at hf; cases hf
 have HB := h_ hb;clear hb HX;obtain ⟨xk, xnm, xot, xb, xao, xn, xq, xko, xkn, xkc, xln, xcl⟩ := x;rw [fitR, Um] at hu;obtain ⟨⟨e1, e2, e3, e4, e5, e6⟩, -, ⟨h4, h5, h6⟩, h7⟩ := hu;obtain ⟨y, ⟨a, ha, hc⟩, hy⟩ := ums_get 0 0 h7 (show 0 < 2 by decide);clear h7;simp only at e1 e2 e3 e4 e5 e6 h4 h5 h6 ha;obtain ⟨yk, ynm, yot, yb, yao, yn, yq, yko, ykn, ykc, yln, ycl⟩ := y;simp only [List.getElem_cons_zero] at hy;rw [Um] at hy;obtain ⟨⟨y1, -, -, -, -, -⟩, -, ⟨y4, -, -⟩, -⟩ := hy;obtain ⟨c0, c1, c2, c3, c4, c5, c6, c7⟩ := cells8 hc;simp only [lsc, lsn] at e1 e6 h4 y1 y4;subst e1 e2 e3 e4 e5 e6 h4 y1 y4 ha;clear hc c1 c2 c3 c4 c6 c7;simp only [Nat.zero_add, Nat.zero_mul, add0] at c0 c5;have ha1 : a.block < w1.heap.size := cell_lt c0;simp only [xv];go_upto_region 2 with fail
 obtain ⟨w2, hw⟩ : ∃ z, z = w1.alloc (.cells #[.int .i64 11, .string ⟨#[]⟩, .string ⟨#[]⟩, .bool false, .slice xao xn xq, .slice (some a) 2 xkc, .int .i64 1, .int .i64 7] 45) := ⟨_, rfl⟩
 have hb : Below w1.heap.size w1 w2 := by rw [hw]; exact (Below.refl _ _).alloc (Nat.le_refl _) _
 have hk : w2.heap[w1.heap.size]? = some (.cells #[.int .i64 11, .string ⟨#[]⟩, .string ⟨#[]⟩, .bool false, .slice xao xn xq, .slice (some a) 2 xkc, .int .i64 1, .int .i64 7] 45 (0, 0)) := by rw [hw]; exact made_at w1 _ _ rfl
 rw [<- hw];replace c0 := (hb.cell ha1).trans c0;replace c5 := (hb.cell (show (a.add 5).block < w1.heap.size by rw [add_block]; exact ha1)).trans c5;rw [show a.add 5 = ⟨a.block, a.off + 5, none⟩ from rfl] at c5;have x0 := cell_at hk 0 rfl;have x5 := cell_at hk 5 rfl;have x7 := cell_at hk 7 rfl;have HB2 := h_ (HB.out.trans (hb.mono HB.out.size));clear hw hk hb ha1
 go_wp2
 go_ret
 exact ⟨rfl, HB2.out⟩
set_option maxRecDepth 100000
def PR (w : World) (g : Nat) (r : RS) : Prop := ∃ b i n c, w.heap[g]? = some (.cells #[.slice (some ⟨b, 0, none⟩) n c, .int .i64 (i : Nat), .int .i64 (r.bad : Nat), .int .i64 (r.pl.kind : Nat), .string ⟨r.pl.text.toArray⟩, .int .i64 (r.pl.line : Nat), .int .i64 (r.pl.col : Nat)] 63 (0, 0)) /\ GoodL r.rest /\ i + r.rest.length = n /\ n <= c /\ c <= maxLen /\ n <= 30000 /\ b < g /\ b < w.heap.size /\ Toks w b (i * 4) r.rest
theorem PR.lt {w : World} {g : Nat} {r : RS} (h : PR w g r) : g < w.heap.size := by obtain ⟨b, i, n, c, h, -⟩ := h; exact lt_of_block h
theorem PR.good {w : World} {g : Nat} {r : RS} (h : PR w g r) : GoodL r.rest := by obtain ⟨b, i, n, c, -, h, -⟩ := h; exact h
theorem PR.below {w w' : World} {g : Nat} {r : RS} (h : PR w g r) (hb : Below w.heap.size w w') : PR w' g r := by
 obtain ⟨b, i, n, c, h1, h2, h3, h4, h5, h6, h7, h8, h9⟩ := h;exact ⟨b, i, n, c, by rw [hb.block _ (lt_of_block h1)]; exact h1, h2, h3, h4, h5, h6, h7, Nat.lt_of_lt_of_le h8 hb.size, h9.keep (hb.block _ h8)⟩
theorem PR.store {w w' : World} {g k : Nat} {r : RS} (h : PR w g r) (hk : g < k) (hg : w.grownBy w' (some k)) : PR w' g r := by
 obtain ⟨b, i, n, c, h1, h2, h3, h4, h5, h6, h7, h8, h9⟩ := h;have e : ∀ q, q ≠ k -> q < w.heap.size -> w'.heap[q]? = w.heap[q]? := fun q hq hl => hg.block q hl (fun e => by injection e with e; exact hq e)
 exact ⟨b, i, n, c, by rw [e g (by omega) (lt_of_block h1)]; exact h1, h2, h3, h4, h5, h6, h7, Nat.lt_of_lt_of_le h8 hg.size, h9.keep (e b (by omega) h8)⟩
def Rid (w : World) (g : Nat) (r : RS) (w' : World) : Prop := PR w' g r /\ w.grownBy w' (some g)
theorem at_p (g : Nat) (r : RS) (w : World) (h : PR w g r) :
  Calls Tryz.prog 21 #[.pointer (some ⟨g, 0, none⟩)] w fun e w' => e = .returned (tokV r.at') /\ Below w.heap.size w w' := by
 obtain ⟨w1, hw⟩ : ∃ x, x = w.alloc (.cells #[.int .i64 0, .string ⟨#[]⟩, .int .i64 0, .int .i64 0] 60) := ⟨_, rfl⟩
 have hb : Below w.heap.size w w1 := by rw [hw]; exact (Below.refl _ _).alloc (Nat.le_refl _) _
 have hk : w1.heap[w.heap.size]? = some (.cells #[.int .i64 0, .string ⟨#[]⟩, .int .i64 0, .int .i64 0] 60 (0, 0)) := by rw [hw]; exact made_at w _ _ rfl
 obtain ⟨b, i, n, c, h1, h2, h3, h4, h5, h6, h7, h8, h9⟩ := h.below hb;have HW := h_ hw;obtain ⟨k, hkk⟩ : ∃ k, k = w.heap.size := ⟨_, rfl⟩
 have hN : w.heap.size <= k := by omega
 rw [<- hkk] at hk;have HKK := h_ hkk;have HB := h_ hb;have hi : i < n := by have := List.length_pos_iff.2 h2.ne; omega
 have ht : Toks w1 b (i * 4) r.rest /\ r.rest ≠ [] := ⟨h9, h2.ne⟩
 unfold RS.at';obtain ⟨rest, bad, pl⟩ := r;simp only at h1 h2 h3 ht ⊢
 match rest, ht with
 | t :: ts, ht =>
  obtain ⟨⟨⟨c0, c1, c2, c3⟩, -⟩, -⟩ := ht;simp only [List.headD_cons];have g0 := cell_at (v := .slice (some ⟨b, 0, none⟩) n c) h1 0 rfl;have g1 := cell_at (v := .int .i64 (i : Nat)) h1 1 rfl;have hin : (i : Int) < (n : Int) := by omega
  clear hw hkk hb h h9 h1 h2 h3 h5 h6 h7 h8;go_enter Tryz.func21, Tryz.ntmps21
  go_upto_region 1 with fail
  rw [<- HW.out, <- HKK.out]
  go_still_tail 10, (by kernel_rfl)
  change wpList _ _ _ _ _ w1.drew;obtain ⟨w2, hw2⟩ : ∃ x, x = w1.drew := ⟨_, rfl⟩
  have hk2 : w2.heap[k]? = some (.cells #[.int .i64 0, .string ⟨#[]⟩, .int .i64 0, .int .i64 0] 60 (0, 0)) := by rw [hw2]; exact hk
  have HB2 : Hid (Below w.heap.size w w2) := h_ (by rw [hw2]; exact HB.out.drew);rw [<- hw2];have z0 := cell_at (v := .int .i64 0) hk2 0 rfl;have fz0 := froz_at hk2 0;have z1 := cell_at (v := .string ⟨#[]⟩) hk2 1 rfl;have fz1 := froz_at hk2 1;have z2 := cell_at (v := .int .i64 0) hk2 2 rfl;have fz2 := froz_at hk2 2;have z3 := cell_at (v := .int .i64 0) hk2 3 rfl;have fz3 := froz_at hk2 3;have HK2 := h_ hk2;clear hw2 hk hk2 c0 c1 c2 c3 g0 g1 hi hin
  go_wp2
  exact bodyPost_ret (v := .agg #[.int .i64 (t.kind : Nat), .string ⟨t.text.toArray⟩, .int .i64 (t.line : Nat), .int .i64 (t.col : Nat)]) (by simp [results, Tryz.results21, go_sem, z0, z1, z2, z3]) rfl ⟨rfl, below_set1 (below_set1 (below_set1 (below_set1 HB2.out hN 0 _) hN 1 _) hN 2 _) hN 3 _⟩
theorem is_p (g : Nat) (r : RS) (l : Bs) (w : World) (h : PR w g r) :
  Calls Tryz.prog 22 #[.pointer (some ⟨g, 0, none⟩), .string ⟨l.toArray⟩] w fun e w' => e = .returned (.bool (r.is l)) /\ Below w.heap.size w w' := by
 have HP := h_ h;clear h;go_enter Tryz.func22, Tryz.ntmps22
 go_wp2_with fail
 refine (at_p g r w HP.out).mono ?_;rintro e w2 ⟨rfl, hb⟩;replace HP := h_ (HP.out.below hb);have HB := h_ hb;clear hb;simp only [tokV];obtain ⟨t, ht⟩ : ∃ t, t = r.at' := ⟨_, rfl⟩
 rw [<- ht];have HT := h_ ht;clear ht;go_upto_region 2 with fail
 obtain ⟨w3, hw⟩ : ∃ x, x = w2.alloc (.cells #[.int .i64 (t.kind : Nat), .string ⟨t.text.toArray⟩, .int .i64 (t.line : Nat), .int .i64 (t.col : Nat)] 60) := ⟨_, rfl⟩
 have hb : Below w2.heap.size w2 w3 := by rw [hw]; exact (Below.refl _ _).alloc (Nat.le_refl _) _
 have hk : w3.heap[w2.heap.size]? = some (.cells #[.int .i64 (t.kind : Nat), .string ⟨t.text.toArray⟩, .int .i64 (t.line : Nat), .int .i64 (t.col : Nat)] 60 (0, 0)) := by rw [hw]; exact made_at w2 _ _ rfl
 rw [<- hw];have HB3 := h_ (HB.out.trans (hb.mono HB.out.size));have hp := HP.out.below hb;have c0 := cell_at (v := .int .i64 (t.kind : Nat)) hk 0 rfl;have c1 := cell_at (v := .string ⟨t.text.toArray⟩) hk 1 rfl;obtain ⟨b, i, n, c, h1, -⟩ := hp;have g2 := cell_at (v := .int .i64 (r.bad : Nat)) h1 2 rfl;clear hw hk hb h1 HP HB
 by_cases hbad : r.bad = 0
 ·rw [hbad] at g2
  by_cases hk2 : t.kind = 2
  ·have HI : Hid (r.is l = (t.text == l)) := h_ (by unfold RS.is; rw [<- HT.out, hbad, hk2]; simp);rw [hk2] at c0 ⊢
   go_wp2
   go_ret
   exact ⟨by rw [HI.out]; rfl, HB3.out⟩
  have hk2' : (((t.kind : Nat) : Int) == 2) = false := by rw [beq_eq_false_iff_ne]; omega
  by_cases hk3 : t.kind = 3
  ·have HI : Hid (r.is l = (t.text == l)) := h_ (by unfold RS.is; rw [<- HT.out, hbad, hk3]; simp);rw [hk3] at c0 ⊢
   go_wp2
   go_ret
   exact ⟨by rw [HI.out]; rfl, HB3.out⟩
  have hk3' : (((t.kind : Nat) : Int) == 3) = false := by rw [beq_eq_false_iff_ne]; omega
  have HI : Hid (r.is l = false) := h_ (by unfold RS.is; rw [<- HT.out, beq_false_of_ne hk2, beq_false_of_ne hk3]; simp)
  go_wp2
  go_ret
  exact ⟨by rw [HI.out]; rfl, HB3.out⟩
 have hb' : (((r.bad : Nat) : Int) == 0) = false := by rw [beq_eq_false_iff_ne]; omega
 have HI : Hid (r.is l = false) := h_ (by unfold RS.is; rw [beq_false_of_ne hbad]; simp)
 go_wp2
 go_ret
 exact ⟨by rw [HI.out]; rfl, HB3.out⟩
theorem Rid.trans {w w1 w2 : World} {g : Nat} {r1 r2 : RS} (h : Rid w g r1 w1) (k : Rid w1 g r2 w2) : Rid w g r2 w2 := ⟨k.1, grown_tr h.2 k.2⟩
theorem Rid.of_below {w w' : World} {g : Nat} {r : RS} (h : PR w g r) (hb : Below w.heap.size w w') : Rid w g r w' := ⟨h.below hb, below_grown hb _⟩
theorem set7 {w : World} {g : Nat} {T : TypeId} {a0 a1 a2 a3 a4 a5 a6 : Value} (h : w.heap[g]? = some (.cells #[a0, a1, a2, a3, a4, a5, a6] T (0, 0))) (v2 v3 v4 v5 v6 : Value) :
  (((((w.setCell ⟨g, 2, none⟩ v2).setCell ⟨g, 3, none⟩ v3).setCell ⟨g, 4, none⟩ v4).setCell ⟨g, 5, none⟩ v5).setCell ⟨g, 6, none⟩ v6).heap[g]? = some (.cells #[a0, a1, v2, v3, v4, v5, v6] T (0, 0)) := by
 have h2 : (w.setCell ⟨g, 2, none⟩ v2).heap[g]? = some (.cells #[a0, a1, v2, a3, a4, a5, a6] T (0, 0)) := heap_setCell_same _ g 2 _ T v2 h;have h3 : ((w.setCell ⟨g, 2, none⟩ v2).setCell ⟨g, 3, none⟩ v3).heap[g]? = some (.cells #[a0, a1, v2, v3, a4, a5, a6] T (0, 0)) := heap_setCell_same _ g 3 _ T v3 h2;have h4 : (((w.setCell ⟨g, 2, none⟩ v2).setCell ⟨g, 3, none⟩ v3).setCell ⟨g, 4, none⟩ v4).heap[g]? = some (.cells #[a0, a1, v2, v3, v4, a5, a6] T (0, 0)) := heap_setCell_same _ g 4 _ T v4 h3;have h5 : ((((w.setCell ⟨g, 2, none⟩ v2).setCell ⟨g, 3, none⟩ v3).setCell ⟨g, 4, none⟩ v4).setCell ⟨g, 5, none⟩ v5).heap[g]? = some (.cells #[a0, a1, v2, v3, v4, v5, a6] T (0, 0)) := heap_setCell_same _ g 5 _ T v5 h4;exact heap_setCell_same _ g 6 _ T v6 h5
theorem bad_p (g : Nat) (r : RS) (t : Tok) (c : Nat) (w : World) (h : PR w g r) :
  Calls Tryz.prog 24 #[.pointer (some ⟨g, 0, none⟩), tokV t, .int .i64 (c : Nat)] w fun e w' => (∃ v, e = .returned v) /\ Rid w g (r.bd t c) w' := by
 have HP := h_ h;clear h;unfold tokV;go_enter Tryz.func24, Tryz.ntmps24
 go_upto_region 1 with fail
 obtain ⟨w1, hw⟩ : ∃ x, x = w.alloc (.cells #[.int .i64 (t.kind : Nat), .string ⟨t.text.toArray⟩, .int .i64 (t.line : Nat), .int .i64 (t.col : Nat)] 60) := ⟨_, rfl⟩
 have hb : Below w.heap.size w w1 := by rw [hw]; exact (Below.refl _ _).alloc (Nat.le_refl _) _
 have hk : w1.heap[w.heap.size]? = some (.cells #[.int .i64 (t.kind : Nat), .string ⟨t.text.toArray⟩, .int .i64 (t.line : Nat), .int .i64 (t.col : Nat)] 60 (0, 0)) := by rw [hw]; exact made_at w _ _ rfl
 rw [<- hw];obtain ⟨k, hkk⟩ : ∃ k, k = w.heap.size := ⟨_, rfl⟩
 have hgk : g < k := by rw [hkk]; exact HP.out.lt
 rw [<- hkk] at hk ⊢;have HD := h_ (below_grown hb (some g));have HP1 := h_ (HP.out.below hb);clear HP hw hkk hb;have c0 := cell_at (v := .int .i64 (t.kind : Nat)) hk 0 rfl;have c1 := cell_at (v := .string ⟨t.text.toArray⟩) hk 1 rfl;have c2 := cell_at (v := .int .i64 (t.line : Nat)) hk 2 rfl;have c3 := cell_at (v := .int .i64 (t.col : Nat)) hk 3 rfl;obtain ⟨b, i, n, cc, h1, h2, h3, h4, h5, h6, h7, h8, h9⟩ := HP1.out;have g2 := cell_at (v := .int .i64 (r.bad : Nat)) h1 2 rfl
 by_cases hbad : r.bad = 0
 ·have HR : Hid (r.bd t c = ⟨r.rest, c, t⟩) := h_ (by unfold RS.bd; rw [if_pos hbad]);have f2 := froz_at h1 2;have g3 := cell_at (v := .int .i64 (r.pl.kind : Nat)) h1 3 rfl;have f3 := froz_at h1 3;have g4 := cell_at (v := .string ⟨r.pl.text.toArray⟩) h1 4 rfl;have f4 := froz_at h1 4;have g5 := cell_at (v := .int .i64 (r.pl.line : Nat)) h1 5 rfl;have f5 := froz_at h1 5;have g6 := cell_at (v := .int .i64 (r.pl.col : Nat)) h1 6 rfl;have f6 := froz_at h1 6;rw [hbad] at g2;have HH := h_ (And.intro h1 (And.intro h2 (And.intro h3 (And.intro h4 (And.intro h5 (And.intro h6 (And.intro h7 (And.intro h8 h9))))))));clear h1 h2 h3 h4 h5 h6 h7 h8 h9 hk HP1;have hne : k ≠ g := by omega
  go_wp2
  obtain ⟨h1, h2, h3, h4, h5, h6, h7, h8, h9⟩ := HH.out;obtain ⟨w2, hw2⟩ : ∃ x, x = ((((w1.setCell ⟨g, 2, none⟩ (.int .i64 (c : Nat))).setCell ⟨g, 3, none⟩ (.int .i64 (t.kind : Nat))).setCell ⟨g, 4, none⟩ (.string ⟨t.text.toArray⟩)).setCell ⟨g, 5, none⟩ (.int .i64 (t.line : Nat))).setCell ⟨g, 6, none⟩ (.int .i64 (t.col : Nat)) := ⟨_, rfl⟩
  have hg : w1.grownBy w2 (some g) := by rw [hw2]; exact grown_setCell (grown_setCell (grown_setCell (grown_setCell (grown_set _ _ _ _) _) _) _) _
  have hc := set7 h1 (.int .i64 (c : Nat)) (.int .i64 (t.kind : Nat)) (.string ⟨t.text.toArray⟩) (.int .i64 (t.line : Nat)) (.int .i64 (t.col : Nat));rw [<- hw2] at hc ⊢
  go_end0
  refine ⟨⟨_, rfl⟩, ?_, grown_tr HD.out hg⟩;rw [HR.out];exact ⟨b, i, n, cc, hc, h2, h3, h4, h5, h6, h7, Nat.lt_of_lt_of_le h8 hg.size, h9.keep (hg.block _ h8 (fun e => by injection e with e; omega))⟩
 have HR : Hid (r.bd t c = r) := h_ (by unfold RS.bd; rw [if_neg hbad]);have hb' : (((r.bad : Nat) : Int) == 0) = false := by rw [beq_eq_false_iff_ne]; omega
 clear h1 h2 h3 h4 h5 h6 h7 h8 h9 hk
 go_wp2
 go_end0
 refine ⟨⟨_, rfl⟩, ?_, HD.out⟩;rw [HR.out]; exact HP1.out
theorem PR.inc {w w' : World} {g b i n c : Nat} {r : RS} (hg : w.grownBy w' (some g)) (hc : w'.heap[g]? = some (.cells #[.slice (some ⟨b, 0, none⟩) n c, .int .i64 ((i + 1 : Nat) : Int), .int .i64 (r.bad : Nat), .int .i64 (r.pl.kind : Nat), .string ⟨r.pl.text.toArray⟩, .int .i64 (r.pl.line : Nat), .int .i64 (r.pl.col : Nat)] 63 (0, 0))) (hk : r.at'.kind ≠ 4) (h2 : GoodL r.rest) (h3 : i + r.rest.length = n) (h4 : n <= c) (h5 : c <= maxLen) (h6 : n <= 30000) (h7 : b < g) (h8 : b < w.heap.size) (h9 : Toks w b (i * 4) r.rest) : PR w' g r.inc := by
 have hl := List.length_pos_iff.2 h2.ne;refine ⟨b, i + 1, n, c, hc, h2.tail hk, by unfold RS.inc; simp only [List.length_drop]; omega, h4, h5, h6, h7, Nat.lt_of_lt_of_le h8 hg.size, ?_⟩;have := (h9.keep (hg.block _ h8 (fun e => by injection e with e; omega))).drop 1;rw [show (i + 1) * 4 = i * 4 + 4 * 1 by omega]; exact this
theorem RS.is_kind {r : RS} {l : Bs} (h : r.is l = true) : r.at'.kind ≠ 4 /\ r.bad = 0 := by
 unfold RS.is at h
 simp at h
 exact ⟨by omega, h.1.1⟩
theorem eat_p (g : Nat) (r : RS) (l : Bs) (w : World) (h : PR w g r) :
  Calls Tryz.prog 28 #[.pointer (some ⟨g, 0, none⟩), .string ⟨l.toArray⟩] w fun e w' => (∃ v, e = .returned v) /\ Rid w g (r.eat l) w' := by
 have HP := h_ h;clear h
 cases hi : r.is l
 ·have HR : Hid (r.eat l = r.bd r.at' 1) := h_ (by unfold RS.eat; rw [hi]; rfl);go_enter Tryz.func28, Tryz.ntmps28
  go_wp2_with fail
  refine (is_p g r l w HP.out).mono ?_;rintro e w2 ⟨rfl, hb⟩;have HD := h_ (Rid.of_below HP.out hb);clear hb;rw [hi];go_wp2_with fail
  refine (at_p g r w2 HD.out.1).mono ?_;rintro e w3 ⟨rfl, hb⟩;have HD3 := h_ (HD.out.trans (Rid.of_below HD.out.1 hb));clear hb;go_wp2_with fail
  refine (bad_p g r r.at' 1 w3 HD3.out.1).mono ?_;rintro e w4 ⟨⟨v, rfl⟩, hd⟩;have HD4 := h_ (HD3.out.trans hd);clear hd;go_wp2_with fail
  go_end0
  rw [HR.out];exact ⟨⟨_, rfl⟩, HD4.out⟩
 have HR : Hid (r.eat l = r.inc) := h_ (by unfold RS.eat; rw [hi]; rfl);have HK := h_ (RS.is_kind hi);go_enter Tryz.func28, Tryz.ntmps28
 go_wp2_with fail
 refine (is_p g r l w HP.out).mono ?_;rintro e w2 ⟨rfl, hb⟩;have HD := h_ (Rid.of_below HP.out hb);clear hb;rw [hi];obtain ⟨b, i, n, c, h1, h2, h3, h4, h5, h6, h7, h8, h9⟩ := HD.out.1;have g1 := cell_at (v := .int .i64 (i : Nat)) h1 1 rfl;have f1 := froz_at h1 1;have hil : i <= 30000 := by omega
 have HH := h_ (And.intro h1 (And.intro h2 (And.intro h3 (And.intro h4 (And.intro h5 (And.intro h6 (And.intro h7 (And.intro h8 h9))))))));clear h1 h2 h3 h4 h5 h6 h7 h8 h9 hi
 go_wp2
 obtain ⟨h1, h2, h3, h4, h5, h6, h7, h8, h9⟩ := HH.out;have hc := heap_setCell_same _ g 1 _ _ (.int .i64 ((i + 1 : Nat) : Int)) h1;refine bodyPost_ret (v := .tuple #[]) (by simp [results, Tryz.results28, go_sem]) rfl ?_;rw [HR.out];exact ⟨⟨_, rfl⟩, PR.inc (grown_set _ _ _ _) hc HK.out.1 h2 h3 h4 h5 h6 h7 h8 h9, grown_tr HD.out.2 (grown_set _ _ _ _)⟩
def st4 (w : World) (g : Nat) (v0 v1 v2 v3 : Value) : World := (((w.setCell ⟨g, 0, none⟩ v0).setCell ⟨g, 1, none⟩ v1).setCell ⟨g, 2, none⟩ v2).setCell ⟨g, 3, none⟩ v3
theorem st4_grown (w : World) (g : Nat) (v0 v1 v2 v3 : Value) : w.grownBy (st4 w g v0 v1 v2 v3) (some g) := by
 unfold st4; exact grown_setCell (grown_setCell (grown_setCell (grown_set _ _ _ _) _) _) _
theorem rname_p (g : Nat) (r : RS) (w : World) (h : PR w g r) :
  Calls Tryz.prog 23 #[.pointer (some ⟨g, 0, none⟩)] w fun e w' => e = .returned (tokV r.at') /\ Rid w g r.name w' := by
 obtain ⟨w1, hw⟩ : ∃ x, x = w.alloc (.cells #[.int .i64 0, .string ⟨#[]⟩, .int .i64 0, .int .i64 0] 60) := ⟨_, rfl⟩
 have hb : Below w.heap.size w w1 := by rw [hw]; exact (Below.refl _ _).alloc (Nat.le_refl _) _
 have hk : w1.heap[w.heap.size]? = some (.cells #[.int .i64 0, .string ⟨#[]⟩, .int .i64 0, .int .i64 0] 60 (0, 0)) := by rw [hw]; exact made_at w _ _ rfl
 have HP := h_ (h.below hb);have HW := h_ hw;obtain ⟨kr, hkk⟩ : ∃ k, k = w.heap.size := ⟨_, rfl⟩
 have hN : w.heap.size <= kr := by omega
 have hgr : g < kr := by rw [hkk]; exact h.lt
 rw [<- hkk] at hk;have HKK := h_ hkk;have HR0 := h_ hk;have HD := h_ (below_grown hb (some g));clear hw hkk hb hk h;go_enter Tryz.func23, Tryz.ntmps23
 go_upto_region 1 with fail
 rw [<- HW.out, <- HKK.out];go_wp2_with fail
 refine (at_p g r w1 HP.out).mono ?_;rintro e w2 ⟨rfl, hb⟩;replace HP := h_ (HP.out.below hb);replace HR0 := kB hb HR0;replace HD := h_ (grown_tr HD.out (below_grown hb _));clear hb HW HKK;simp only [tokV];obtain ⟨t, ht⟩ : ∃ t, t = r.at' := ⟨_, rfl⟩
 rw [<- ht];have HT := h_ ht;clear ht;go_upto_region 2 with fail
 obtain ⟨w3, hw⟩ : ∃ x, x = w2.alloc (.cells #[.int .i64 (t.kind : Nat), .string ⟨t.text.toArray⟩, .int .i64 (t.line : Nat), .int .i64 (t.col : Nat)] 60) := ⟨_, rfl⟩
 have hb : Below w2.heap.size w2 w3 := by rw [hw]; exact (Below.refl _ _).alloc (Nat.le_refl _) _
 have hk : w3.heap[w2.heap.size]? = some (.cells #[.int .i64 (t.kind : Nat), .string ⟨t.text.toArray⟩, .int .i64 (t.line : Nat), .int .i64 (t.col : Nat)] 60 (0, 0)) := by rw [hw]; exact made_at w2 _ _ rfl
 rw [<- hw];obtain ⟨kt, hkk⟩ : ∃ k, k = w2.heap.size := ⟨_, rfl⟩
 have hgt : g < kt := by rw [hkk]; exact HP.out.lt
 have hrt : kr < kt := by rw [hkk]; exact lt_of_block HR0.out
 rw [<- hkk] at hk ⊢;replace HP := h_ (HP.out.below hb);replace HR0 := kB hb HR0;replace HD := h_ (grown_tr HD.out (below_grown hb _));have HB := h_ hk;clear hw hkk hb hk
 by_cases hk0 : t.kind = 0
 ·have hk0' : (((t.kind : Nat) : Int) == 0) = true := by rw [hk0]; rfl
  by_cases hbad : r.bad = 0
  ·have HN : Hid (r.name = r.inc) := h_ (by unfold RS.name; rw [<- HT.out, if_pos hk0, if_pos hbad]);have HK4 : Hid (r.at'.kind ≠ 4) := h_ (by rw [<- HT.out]; omega);obtain ⟨c0, c1, c2, c3⟩ := cl4 HB.out;obtain ⟨b, i, n, c, h1, h2, h3, h4, h5, h6, h7, h8, h9⟩ := HP.out;have g1 := cell_at (v := .int .i64 (i : Nat)) h1 1 rfl;have f1 := froz_at h1 1;have g2 := cell_at (v := .int .i64 (r.bad : Nat)) h1 2 rfl;rw [hbad] at g2;have hil : i <= 30000 := by omega
   have HH := h_ (And.intro h1 (And.intro h2 (And.intro h3 (And.intro h4 (And.intro h5 (And.intro h6 (And.intro h7 (And.intro h8 h9))))))));clear h1 h2 h3 h4 h5 h6 h7 h8 h9;go_upto_region 6 with fail
   clear c0 c1 c2 c3 g1 f1 g2 hk0 hk0';obtain ⟨h1, h2, h3, h4, h5, h6, h7, h8, h9⟩ := HH.out;have hc := heap_setCell_same _ g 1 _ _ (.int .i64 ((i + 1 : Nat) : Int)) h1;obtain ⟨w4, hw⟩ : ∃ x, x = w3.setCell ⟨g, 1, none⟩ (.int .i64 ((i + 1 : Nat) : Int)) := ⟨_, rfl⟩
   have hg : w3.grownBy w4 (some g) := by rw [hw]; exact grown_set _ _ _ _
   rw [<- hw] at hc;have hw' : w3.setCell ⟨g, 1, none⟩ (.int .i64 ((i : Int) + 1)) = w4 := by rw [hw]; rfl
   rw [hw'];replace HP : Hid (PR w4 g r.inc) := h_ (PR.inc hg hc HK4.out h2 h3 h4 h5 h6 h7 h8 h9);replace HR0 := kG hg HR0;replace HB := kG hg HB;replace HD := h_ (grown_tr HD.out hg);clear hw hw' hc hg h1 h2 h3 h4 h5 h6 h7 h8 h9 HH HK4;obtain ⟨c0, c1, c2, c3⟩ := cl4 HB.out;obtain ⟨z0, z1, z2, z3⟩ := cl4 HR0.out;obtain ⟨fz0, fz1, fz2, fz3⟩ := fr4 HR0.out
   go_wp2
   have hg := st4_grown w4 kr (.int .i64 (t.kind : Nat)) (.string ⟨t.text.toArray⟩) (.int .i64 (t.line : Nat)) (.int .i64 (t.col : Nat));exact bodyPost_ret (v := .agg #[.int .i64 (t.kind : Nat), .string ⟨t.text.toArray⟩, .int .i64 (t.line : Nat), .int .i64 (t.col : Nat)]) (by simp [results, Tryz.results23, go_sem, z0, z1, z2, z3]) rfl ⟨by first | rfl | (rw [<- HT.out]; rfl), by rw [HN.out]; exact HP.out.store hgr hg, grown_new HD.out hg hN⟩
  have hb' : (((r.bad : Nat) : Int) == 0) = false := by rw [beq_eq_false_iff_ne]; omega
  have HN : Hid (r.name = r) := h_ (by unfold RS.name; rw [<- HT.out, if_pos hk0, if_neg hbad]);obtain ⟨c0, c1, c2, c3⟩ := cl4 HB.out;obtain ⟨b, i, n, c, h1, -⟩ := HP.out;have g2 := cell_at (v := .int .i64 (r.bad : Nat)) h1 2 rfl;clear h1;go_upto_region 6 with fail
  clear c0 c1 c2 c3 g2 hk0 hk0';obtain ⟨c0, c1, c2, c3⟩ := cl4 HB.out;obtain ⟨z0, z1, z2, z3⟩ := cl4 HR0.out;obtain ⟨fz0, fz1, fz2, fz3⟩ := fr4 HR0.out
  go_wp2
  have hg := st4_grown w3 kr (.int .i64 (t.kind : Nat)) (.string ⟨t.text.toArray⟩) (.int .i64 (t.line : Nat)) (.int .i64 (t.col : Nat));exact bodyPost_ret (v := .agg #[.int .i64 (t.kind : Nat), .string ⟨t.text.toArray⟩, .int .i64 (t.line : Nat), .int .i64 (t.col : Nat)]) (by simp [results, Tryz.results23, go_sem, z0, z1, z2, z3]) rfl ⟨by first | rfl | (rw [<- HT.out]; rfl), by rw [HN.out]; exact HP.out.store hgr hg, grown_new HD.out hg hN⟩
 have hk0' : (((t.kind : Nat) : Int) == 0) = false := by rw [beq_eq_false_iff_ne]; omega
 have HN : Hid (r.name = r.bd t 1) := h_ (by unfold RS.name; rw [<- HT.out, if_neg hk0]);obtain ⟨c0, c1, c2, c3⟩ := cl4 HB.out;go_wp2_with fail
 have hp0 := bad_p g r t 1 w3 HP.out;simp only [tokV] at hp0;refine (hp0).mono ?_;rintro e w4 ⟨⟨v, rfl⟩, hp, hg⟩;clear c0 c1 c2 c3 hp0;replace HR0 := kG hg HR0;replace HB := kG hg HB;replace HD := h_ (grown_tr HD.out hg);replace HP := h_ hp;clear hp hg;go_upto_region 6 with fail
 obtain ⟨c0, c1, c2, c3⟩ := cl4 HB.out;obtain ⟨z0, z1, z2, z3⟩ := cl4 HR0.out;obtain ⟨fz0, fz1, fz2, fz3⟩ := fr4 HR0.out
 go_wp2
 have hg := st4_grown w4 kr (.int .i64 (t.kind : Nat)) (.string ⟨t.text.toArray⟩) (.int .i64 (t.line : Nat)) (.int .i64 (t.col : Nat));exact bodyPost_ret (v := .agg #[.int .i64 (t.kind : Nat), .string ⟨t.text.toArray⟩, .int .i64 (t.line : Nat), .int .i64 (t.col : Nat)]) (by simp [results, Tryz.results23, go_sem, z0, z1, z2, z3]) rfl ⟨by first | rfl | (rw [<- HT.out]; rfl), by rw [HN.out]; exact HP.out.store hgr hg, grown_new HD.out hg hN⟩
end Go.Proofs.YtdpfgfkoboihcaaGreatDoor
namespace Go.Proofs
open Go.Shelf
def Tryz.laysM171_ren : Go.Shelf.Ren := ⟨fun | 171 => 38 | 243 => 65 | 246 => 98 | 283 => 118 | 284 => 119 | 285 => 120 | 286 => 121 | 129 => 142 | 317 => 141 | 318 => 143 | 319 => 144 | 320 => 145 | 337 => 161 | 338 => 162 | n => n, fun | 3 => 3 | 9 => 9 | 2 => 2 | 4 => 4 | 171 => 203 | 0 => 0 | 53 => 184 | 37 => 93 | 5 => 5 | 173 => 206 | 212 => 219 | 51 => 138 | 20 => 20 | 213 => 220 | 46 => 222 | 232 => 242 | 233 => 243 | n => n, fun | 17 => 4 | 18 => 6 | 19 => 7 | n => n⟩
theorem Tryz.laysM171 : Go.Proofs.LaysM.n171 Tryz.prog Tryz.laysM171_ren := {
 mixed := by kernel_rfl
 f129 := Tryz.func142.trans (congrArg some (by kernel_rfl))
 f171 := Tryz.func38.trans (congrArg some (by kernel_rfl))
 f243 := Tryz.func65.trans (congrArg some (by kernel_rfl))
 f246 := Tryz.func98.trans (congrArg some (by kernel_rfl))
 f283 := Tryz.func118.trans (congrArg some (by kernel_rfl))
 f284 := Tryz.func119.trans (congrArg some (by kernel_rfl))
 f285 := Tryz.func120.trans (congrArg some (by kernel_rfl))
 f286 := Tryz.func121.trans (congrArg some (by kernel_rfl))
 f317 := Tryz.func141.trans (congrArg some (by kernel_rfl))
 f318 := Tryz.func143.trans (congrArg some (by kernel_rfl))
 f319 := Tryz.func144.trans (congrArg some (by kernel_rfl))
 f320 := Tryz.func145.trans (congrArg some (by kernel_rfl))
 f337 := Tryz.func161.trans (congrArg some (by kernel_rfl))
 f338 := Tryz.func162.trans (congrArg some (by kernel_rfl))
 t0 := Tryz.underlying0
 a0 := Tryz.isAgg0
 z0 := Tryz.sizeOf0
 v0 := Tryz.zeroValue0
 t2 := Tryz.underlying2
 a2 := Tryz.isAgg2
 z2 := Tryz.sizeOf2
 v2 := Tryz.zeroValue2
 t3 := Tryz.underlying3
 a3 := Tryz.isAgg3
 z3 := Tryz.sizeOf3
 v3 := Tryz.zeroValue3
 t4 := Tryz.underlying4
 a4 := Tryz.isAgg4
 z4 := Tryz.sizeOf4
 v4 := Tryz.zeroValue4
 t5 := Tryz.underlying5
 a5 := Tryz.isAgg5
 z5 := Tryz.sizeOf5
 v5 := Tryz.zeroValue5
 t9 := Tryz.underlying9
 a9 := Tryz.isAgg9
 z9 := Tryz.sizeOf9
 v9 := Tryz.zeroValue9
 t20 := Tryz.underlying20
 a20 := Tryz.isAgg20
 z20 := Tryz.sizeOf20
 v20 := Tryz.zeroValue20
 t37 := Tryz.underlying93
 a37 := Tryz.isAgg93
 z37 := Tryz.sizeOf93
 v37 := Tryz.zeroValue93
 t46 := Tryz.underlying222
 a46 := Tryz.isAgg222
 z46 := Tryz.sizeOf222
 v46 := Tryz.zeroValue222
 t51 := Tryz.underlying138
 a51 := Tryz.isAgg138
 z51 := Tryz.sizeOf138
 v51 := Tryz.zeroValue138
 t53 := Tryz.underlying184
 a53 := Tryz.isAgg184
 z53 := Tryz.sizeOf184
 v53 := Tryz.zeroValue184
 t171 := Tryz.underlying203
 a171 := Tryz.isAgg203
 z171 := Tryz.sizeOf203
 v171 := Tryz.zeroValue203
 t173 := Tryz.underlying206
 a173 := Tryz.isAgg206
 z173 := Tryz.sizeOf206
 v173 := Tryz.zeroValue206
 t212 := Tryz.underlying219
 a212 := Tryz.isAgg219
 z212 := Tryz.sizeOf219
 v212 := Tryz.zeroValue219
 t213 := Tryz.underlying220
 a213 := Tryz.isAgg220
 z213 := Tryz.sizeOf220
 t232 := Tryz.underlying242
 a232 := Tryz.isAgg242
 z232 := Tryz.sizeOf242
 v232 := Tryz.zeroValue242
 t233 := Tryz.underlying243
 a233 := Tryz.isAgg243
 z233 := Tryz.sizeOf243
 v233 := Tryz.zeroValue243
 g17 := by kernel_rfl
 g18 := by kernel_rfl
 g19 := by kernel_rfl
 i0 := by kernel_rfl
 i2 := by kernel_rfl
 i3 := by kernel_rfl
 i4 := by kernel_rfl
 i5 := by kernel_rfl
 i9 := by kernel_rfl
 i20 := by kernel_rfl
 i37 := by kernel_rfl
 i46 := by kernel_rfl
 i51 := by kernel_rfl
 i53 := by kernel_rfl
 i171 := by kernel_rfl
 i173 := by kernel_rfl
 i212 := by kernel_rfl
 i232 := by kernel_rfl
 i233 := by kernel_rfl
 m17 := by kernel_rfl
 m18 := by kernel_rfl
 m19 := by kernel_rfl }
open Go.RowKit Go.Sort Go.Lib in
theorem Tryz.strconv_Itoa (n : Int) (h0 : -9223372036854775808 ≤ n) (h1 : n ≤ 9223372036854775807) (w : World) (htab : Lib.TabIs Tryz.prog w "internal/strconv.uint64pow10" .u64 Lib.pow10Tab) :
  Calls Tryz.prog 38 #[.int .i64 n] w fun e w' => e = .returned (.string ⟨(Lib.itoa n).toArray⟩) /\ ∃ k os, w' = grow (w.drewN k) os := Any.strconv_Itoa Tryz.laysM171 n h0 h1 w htab
end Go.Proofs
namespace Go.Proofs.YtdpfgfkoboihcaaGreatDoor
open Go.RowKit Go.Sort Go.Lib
set_option maxRecDepth 100000
theorem itoa_z (n : Int) : Lib.itoa n = zText n := by
 unfold Lib.itoa zText
 split
 ·rfl
 rw [show n.toNat = n.natAbs by omega]
theorem itoa_any (n : Int) (w : World) (h0 : -9223372036854775808 ≤ n) (h1 : n ≤ 9223372036854775807) (htab : Lib.TabIs Tryz.prog w "internal/strconv.uint64pow10" .u64 Lib.pow10Tab) :
  Calls Tryz.prog 38 #[.int .i64 n] w fun e w' => e = .returned (.string ⟨(zText n).toArray⟩) /\ Below w.heap.size w w' :=
 (Tryz.strconv_Itoa n h0 h1 w htab).mono fun e w' ⟨he, k, os, hw⟩ => ⟨by rw [he, itoa_z], by
  subst hw
  exact ⟨rfl, rfl, rfl, by show w.heap.size <= (w.heap ++ os).size; rw [Array.size_append]; omega, fun i hi => heap_grow_old w os hi⟩⟩
end Go.Proofs.YtdpfgfkoboihcaaGreatDoor
namespace Go.Proofs.YtdpfgfkoboihcaaGreatDoor
open Go.RowKit
set_option maxRecDepth 100000
set_option linter.unusedVariables false
set_option linter.unusedSimpArgs false
abbrev Pow (w : World) : Prop := Lib.TabIs Tryz.prog w "internal/strconv.uint64pow10" .u64 Lib.pow10Tab
def eV (e : RE) : Value := .agg #[.string ⟨e.S.toArray⟩, .int .i64 (e.d : Nat)]
def eC (e : RE) : List Value := [.string ⟨e.S.toArray⟩, .int .i64 (e.d : Nat)]
def At2 (w : World) (ko : Option Addr) (i : Nat) (e : RE) : Prop := ∃ a, ko = some a /\ w.cell? (a.add (i * 2)) = some (.string ⟨e.S.toArray⟩) /\ w.cell? ((a.add (i * 2)).add 1) = some (.int .i64 (e.d : Nat)) /\ a.block < w.heap.size
theorem At2.below {w w' : World} {ko : Option Addr} {i : Nat} {e : RE} (h : At2 w ko i e) (hb : Below w.heap.size w w') : At2 w' ko i e := by
 obtain ⟨a, rfl, h1, h2, h3⟩ := h;exact ⟨a, rfl, by rw [hb.cell (by rw [add_block]; exact h3)]; exact h1, by rw [hb.cell (by rw [add_block, add_block]; exact h3)]; exact h2, Nat.lt_of_lt_of_le h3 hb.size⟩
def maxd (ks : List RE) : Nat := ks.foldl (fun d e => max d e.d) 0
theorem maxd_take (ks : List RE) (j : Nat) (h : j < ks.length) : maxd (ks.take (j + 1)) = max (maxd (ks.take j)) (ks[j]).d := by
 unfold maxd; rw [List.take_succ_eq_append_getElem h, List.foldl_append]; rfl
theorem flat_take (ks : List RE) (j : Nat) (h : j < ks.length) : (ks.take (j + 1)).flatMap RE.S = (ks.take j).flatMap RE.S ++ (ks[j]).S := by
 rw [List.take_succ_eq_append_getElem h, List.flatMap_append]; simp
theorem flat_take_le (ks : List RE) (j : Nat) : ((ks.take j).flatMap RE.S).length <= (ks.flatMap RE.S).length := by
 have := congrArg List.length (congrArg (List.flatMap RE.S) (List.take_append_drop j ks));rw [List.flatMap_append, lsa] at this; omega
theorem maxd_le (ks : List RE) (B : Nat) (h : ∀ e ∈ ks, e.d <= B) : maxd ks <= B := by
 unfold maxd
 have : ∀ (l : List RE) (a : Nat), a <= B -> (∀ e ∈ l, e.d <= B) -> l.foldl (fun d e => max d e.d) a <= B := by
  intro l
  induction l with
  | nil => intro a ha _; exact ha
  | cons e l ih => intro a ha hl; exact ih _ (Nat.max_le.2 ⟨ha, hl e (by simp)⟩) fun x hx => hl x (by simp [hx])
 exact this ks 0 (Nat.zero_le _) h
theorem zl (n : Nat) (h : n <= 1000000000) : (zText (n : Nat)).length <= 10 := by
 unfold zText;rw [if_neg (by omega)];exact decDigits_len (by rw [show (n : Int).natAbs = n by omega]; omega) (by decide)
theorem cat (a b : Bs) : (⟨a.toArray⟩ : ByteArray) ++ ⟨b.toArray⟩ = ⟨(a ++ b).toArray⟩ := by apply ByteArray.ext; simp [ByteArray.data_append]
theorem maxE (a b : Nat) : Value.int .i64 (max (a : Int) b) = .int .i64 ((max a b : Nat) : Int) := by congr 1; omega
theorem made_p (kd : Nat) (t : Tok) (nm : Bs) (ko : Option Addr) (c : Nat) (ks : List RE) (w : World) (htab : Pow w) (hk : kd <= 100) (htl : t.line <= 1000000000) (htc : t.col <= 1000000000) (hnm : nm.length <= 1000000) (hks : ∀ j (hj : j < ks.length), At2 w ko j ks[j]) (hkl : ks.length <= 1000000000) (hS : (ks.flatMap RE.S).length <= 1000000000) (hd : ∀ e ∈ ks, e.d <= 1000000000) :
  Calls Tryz.prog 89 #[.int .i64 (kd : Nat), tokV t, .string ⟨nm.toArray⟩, .slice ko ks.length c] w fun e w' => e = .returned (eV (mk kd t nm ks)) /\ Below w.heap.size w w' := by
 have HTB := h_ htab;have HKS := h_ hks;have HDD := h_ hd;clear htab hks hd;unfold tokV;go_enter Tryz.func89, Tryz.ntmps89
 have HBW := h_ (Below.refl w.heap.size w);go_upto_region 1 with fail
 have hsz0 : (w.alloc (.cells #[.int .i64 (t.kind : Nat), .string ⟨t.text.toArray⟩, .int .i64 (t.line : Nat), .int .i64 (t.col : Nat)] 60)).heap.size = w.heap.size + 1 := by simp
 rw [<- hsz0];clear hsz0;obtain ⟨w1, kt, hw, hkk, hb, -, HBt⟩ := newb w #[.int .i64 (t.kind : Nat), .string ⟨t.text.toArray⟩, .int .i64 (t.line : Nat), .int .i64 (t.col : Nat)] 60;have het : w.heap.size <= kt := by omega
 rw [hw, <- hkk];replace HBW := h_ (HBW.out.trans (hb.mono HBW.out.size));replace HTB := h_ (tab_below HTB.out hb);replace HKS := h_ (fun j hj => (HKS.out j hj).below hb);have HD := h_ (below_grown hb (some 0));have hsz1 := HD.out.size;clear hw hb hkk;obtain ⟨w2, kr, hw, hkk, hb, -, HBr⟩ := newb w1 #[.string ⟨#[]⟩, .int .i64 0] 117;have her : w.heap.size <= kr := by omega
 have ht_r : kt < kr := by rw [hkk]; exact lt_of_block HBt.out
 rw [hw, <- hkk];replace HBt := kB hb HBt;replace HBW := h_ (HBW.out.trans (hb.mono HBW.out.size));replace HTB := h_ (tab_below HTB.out hb);replace HKS := h_ (fun j hj => (HKS.out j hj).below hb);replace HD := dB HD hb;have hsz2 := HD.out.size;clear hw hb hkk;obtain ⟨Z1, hZ1⟩ : ∃ l : Bs, l = zText (kd : Nat) := ⟨_, rfl⟩
 have lZ1 : Z1.length <= 10 := by rw [hZ1]; exact zl kd (by omega)
 have HZ1 := h_ hZ1;obtain ⟨Z2, hZ2⟩ : ∃ l : Bs, l = zText (t.line : Nat) := ⟨_, rfl⟩
 have lZ2 : Z2.length <= 10 := by rw [hZ2]; exact zl t.line (by omega)
 have HZ2 := h_ hZ2;obtain ⟨Z3, hZ3⟩ : ∃ l : Bs, l = zText (t.col : Nat) := ⟨_, rfl⟩
 have lZ3 : Z3.length <= 10 := by rw [hZ3]; exact zl t.col (by omega)
 have HZ3 := h_ hZ3;obtain ⟨S2, hS2⟩ : ∃ l : Bs, l = [40] ++ Z1 := ⟨_, rfl⟩
 have lS2 : S2.length <= 11 := by rw [hS2]; simp only [lsa, lsc, lsn]; omega
 have HS2 := h_ hS2;obtain ⟨S3, hS3⟩ : ∃ l : Bs, l = S2 ++ [64] := ⟨_, rfl⟩
 have lS3 : S3.length <= 12 := by rw [hS3]; simp only [lsa, lsc, lsn]; omega
 have HS3 := h_ hS3;obtain ⟨S7, hS7⟩ : ∃ l : Bs, l = S3 ++ Z2 := ⟨_, rfl⟩
 have lS7 : S7.length <= 22 := by rw [hS7]; simp only [lsa, lsc, lsn]; omega
 have HS7 := h_ hS7;obtain ⟨S8, hS8⟩ : ∃ l : Bs, l = S7 ++ [58] := ⟨_, rfl⟩
 have lS8 : S8.length <= 23 := by rw [hS8]; simp only [lsa, lsc, lsn]; omega
 have HS8 := h_ hS8;obtain ⟨S12, hS12⟩ : ∃ l : Bs, l = S8 ++ Z3 := ⟨_, rfl⟩
 have lS12 : S12.length <= 33 := by rw [hS12]; simp only [lsa, lsc, lsn]; omega
 have HS12 := h_ hS12;obtain ⟨S13, hS13⟩ : ∃ l : Bs, l = S12 ++ [32] := ⟨_, rfl⟩
 have lS13 : S13.length <= 34 := by rw [hS13]; simp only [lsa, lsc, lsn]; omega
 have HS13 := h_ hS13;obtain ⟨S15, hS15⟩ : ∃ l : Bs, l = S13 ++ nm := ⟨_, rfl⟩
 have lS15 : S15.length <= 1000034 := by rw [hS15]; simp only [lsa, lsc, lsn]; omega
 have HS15 := h_ hS15;clear hZ1 hZ2 hZ3 hS2 hS3 hS7 hS8 hS12 hS13 hS15;have hlt_t := lt_of_block HBt.out;have hog : ∀ q, q < 0 -> (fun q => 0) q < w2.heap.size := fun q h => absurd h (Nat.not_lt_zero _)
 refine R7.region (by kernel_rfl) [[], [0], [0, 1], [0, 1, 2], [], [4], [0, 1, 4, 5], [0, 1, 2, 3, 4, 5, 6], [0, 1, 2, 3, 4, 5, 6, 7], [], [9], [0, 1, 4, 5, 6, 9, 10], [0, 1, 2, 3, 4, 5, 6, 7, 8, 9, 10, 11], [0, 1, 2, 3, 4, 5, 6, 7, 8, 9, 10, 11, 12], [], [0, 1, 2, 3, 4, 5, 6, 7, 8, 9, 10, 11, 12, 13, 14], [0, 1, 2, 3, 4, 5, 6, 7, 8, 9, 10, 11, 12, 13, 14, 15]] [] [] (fun q => 0) 0 17 (by kernel_rfl) (by kernel_rfl) (by rfl) hog (fun q q' h h' hn => absurd hn (by omega)) ?_;refine R7.Chain.det ?_ (by rfl) (fun T xs wr hA => ?_) ?_
 rotate_left 1
 ·have e0 := hA.pre 0 (by kernel_rfl);simp only [gsa, gsz] at e0;clear hA;refine ⟨(by rfl), ?_⟩;go_simp <;> (try with_reducible rfl)
 refine R7.Chain.call (fun xs v w => v = .string ⟨Z1.toArray⟩) (fun _ _ _ _ h _ => h) (fun _ _ _ _ _ h _ _ => h) (by rfl) (fun T xs wr hA => ?_) ?_
 ·have hsw := (hA.be 0 (Nat.zero_le _) (fun _ _ => Nat.zero_le _)).size;have e13 := (hA.tm 0 13 (by rfl) (by rfl)).trans (congrArg some (hA.fa 0 (by rfl)))
  (try simp (disch := first | rfl | decide) only [R7.mask_in] at e13)
  have hbw := undrew (hA.be w2.heap.size (Nat.le_refl _) (fun q h => absurd h (Nat.not_lt_zero _)));have htw := tab_below HTB.out hbw;clear hA;refine ⟨(by rfl), fun K hK => ?_⟩;go_simp
  refine (itoa_any (kd : Nat) _ (by omega) (by omega) htw).mono ?_;rintro e w' ⟨rfl, hb⟩;exact hK.out _ _ (by rw [HZ1.out]) hb
 refine R7.Chain.call (fun xs v w => v = .string ⟨S2.toArray⟩) (fun _ _ _ _ h _ => h) (fun _ _ _ _ _ h _ _ => h) (by rfl) (fun T xs wr hA => ?_) ?_
 ·have hsw := (hA.be 0 (Nat.zero_le _) (fun _ _ => Nat.zero_le _)).size;have e14 := hA.tm 1 14 (by rfl) (by rfl);have f14 : xs 1 = (.string ⟨Z1.toArray⟩) := hA.fa 1 (by rfl);rw [f14] at e14;clear f14;clear hA;refine ⟨(by rfl), fun K hK => ?_⟩;go_simp
  rw [if_neg (by omega)];exact hK.out _ _ (congrArg Value.string (by rw [HS2.out]; exact cat _ _)) (Below.refl _ _)
 refine R7.Chain.call (fun xs v w => v = .string ⟨S3.toArray⟩) (fun _ _ _ _ h _ => h) (fun _ _ _ _ _ h _ _ => h) (by rfl) (fun T xs wr hA => ?_) ?_
 ·have hsw := (hA.be 0 (Nat.zero_le _) (fun _ _ => Nat.zero_le _)).size;have e15 := hA.tm 2 15 (by rfl) (by rfl);have f15 : xs 2 = (.string ⟨S2.toArray⟩) := hA.fa 2 (by rfl);rw [f15] at e15;clear f15;clear hA;refine ⟨(by rfl), fun K hK => ?_⟩;go_simp
  rw [if_neg (by omega)];exact hK.out _ _ (congrArg Value.string (by rw [HS3.out]; exact cat _ _)) (Below.refl _ _)
 refine R7.Chain.det ?_ (by rfl) (fun T xs wr hA => ?_) ?_
 rotate_left 1
 ·have e5 := hA.pre 5 (by kernel_rfl);simp only [gsa, gsc, gsz] at e5;clear hA;refine ⟨(by rfl), ?_⟩;go_simp <;> (try with_reducible rfl)
 refine R7.Chain.det ?_ (by rfl) (fun T xs wr hA => ?_) ?_
 rotate_left 1
 ·have e17 := (hA.tm 4 17 (by rfl) (by rfl)).trans (congrArg some (hA.fa 4 (by rfl)))
  (try simp (disch := first | rfl | decide) only [R7.mask_in] at e17)
  have hBq : wr.heap[kt]? = _ := (hA.bl _ hlt_t (fun q h => absurd h (Nat.not_lt_zero _))).trans HBt.out;obtain ⟨q0, q1, q2, q3⟩ := cl4 hBq;clear hBq;clear hA;refine ⟨(by rfl), ?_⟩;go_simp <;> (try with_reducible rfl)
 refine R7.Chain.call (fun xs v w => v = .string ⟨Z2.toArray⟩) (fun _ _ _ _ h _ => h) (fun _ _ _ _ _ h _ _ => h) (by rfl) (fun T xs wr hA => ?_) ?_
 ·have hsw := (hA.be 0 (Nat.zero_le _) (fun _ _ => Nat.zero_le _)).size;have e18 := (hA.tm 5 18 (by rfl) (by rfl)).trans (congrArg some (hA.fa 5 (by rfl)))
  (try simp (disch := first | rfl | decide) only [R7.mask_in] at e18)
  have hbw := undrew (hA.be w2.heap.size (Nat.le_refl _) (fun q h => absurd h (Nat.not_lt_zero _)));have htw := tab_below HTB.out hbw;clear hA;refine ⟨(by rfl), fun K hK => ?_⟩;go_simp
  refine (itoa_any (t.line : Nat) _ (by omega) (by omega) htw).mono ?_;rintro e w' ⟨rfl, hb⟩;exact hK.out _ _ (by rw [HZ2.out]) hb
 refine R7.Chain.call (fun xs v w => v = .string ⟨S7.toArray⟩) (fun _ _ _ _ h _ => h) (fun _ _ _ _ _ h _ _ => h) (by rfl) (fun T xs wr hA => ?_) ?_
 ·have hsw := (hA.be 0 (Nat.zero_le _) (fun _ _ => Nat.zero_le _)).size;have e16 := hA.tm 3 16 (by rfl) (by rfl);have f16 : xs 3 = (.string ⟨S3.toArray⟩) := hA.fa 3 (by rfl);rw [f16] at e16;clear f16;have e19 := hA.tm 6 19 (by rfl) (by rfl);have f19 : xs 6 = (.string ⟨Z2.toArray⟩) := hA.fa 6 (by rfl);rw [f19] at e19;clear f19;clear hA;refine ⟨(by rfl), fun K hK => ?_⟩;go_simp
  rw [if_neg (by omega)];exact hK.out _ _ (congrArg Value.string (by rw [HS7.out]; exact cat _ _)) (Below.refl _ _)
 refine R7.Chain.call (fun xs v w => v = .string ⟨S8.toArray⟩) (fun _ _ _ _ h _ => h) (fun _ _ _ _ _ h _ _ => h) (by rfl) (fun T xs wr hA => ?_) ?_
 ·have hsw := (hA.be 0 (Nat.zero_le _) (fun _ _ => Nat.zero_le _)).size;have e20 := hA.tm 7 20 (by rfl) (by rfl);have f20 : xs 7 = (.string ⟨S7.toArray⟩) := hA.fa 7 (by rfl);rw [f20] at e20;clear f20;clear hA;refine ⟨(by rfl), fun K hK => ?_⟩;go_simp
  rw [if_neg (by omega)];exact hK.out _ _ (congrArg Value.string (by rw [HS8.out]; exact cat _ _)) (Below.refl _ _)
 refine R7.Chain.det ?_ (by rfl) (fun T xs wr hA => ?_) ?_
 rotate_left 1
 ·have e5 := hA.pre 5 (by kernel_rfl);simp only [gsa, gsc, gsz] at e5;clear hA;refine ⟨(by rfl), ?_⟩;go_simp <;> (try with_reducible rfl)
 refine R7.Chain.det ?_ (by rfl) (fun T xs wr hA => ?_) ?_
 rotate_left 1
 ·have e22 := (hA.tm 9 22 (by rfl) (by rfl)).trans (congrArg some (hA.fa 9 (by rfl)))
  (try simp (disch := first | rfl | decide) only [R7.mask_in] at e22)
  have hBq : wr.heap[kt]? = _ := (hA.bl _ hlt_t (fun q h => absurd h (Nat.not_lt_zero _))).trans HBt.out;obtain ⟨q0, q1, q2, q3⟩ := cl4 hBq;clear hBq;clear hA;refine ⟨(by rfl), ?_⟩;go_simp <;> (try with_reducible rfl)
 refine R7.Chain.call (fun xs v w => v = .string ⟨Z3.toArray⟩) (fun _ _ _ _ h _ => h) (fun _ _ _ _ _ h _ _ => h) (by rfl) (fun T xs wr hA => ?_) ?_
 ·have hsw := (hA.be 0 (Nat.zero_le _) (fun _ _ => Nat.zero_le _)).size;have e23 := (hA.tm 10 23 (by rfl) (by rfl)).trans (congrArg some (hA.fa 10 (by rfl)))
  (try simp (disch := first | rfl | decide) only [R7.mask_in] at e23)
  have hbw := undrew (hA.be w2.heap.size (Nat.le_refl _) (fun q h => absurd h (Nat.not_lt_zero _)));have htw := tab_below HTB.out hbw;clear hA;refine ⟨(by rfl), fun K hK => ?_⟩;go_simp
  refine (itoa_any (t.col : Nat) _ (by omega) (by omega) htw).mono ?_;rintro e w' ⟨rfl, hb⟩;exact hK.out _ _ (by rw [HZ3.out]) hb
 refine R7.Chain.call (fun xs v w => v = .string ⟨S12.toArray⟩) (fun _ _ _ _ h _ => h) (fun _ _ _ _ _ h _ _ => h) (by rfl) (fun T xs wr hA => ?_) ?_
 ·have hsw := (hA.be 0 (Nat.zero_le _) (fun _ _ => Nat.zero_le _)).size;have e21 := hA.tm 8 21 (by rfl) (by rfl);have f21 : xs 8 = (.string ⟨S8.toArray⟩) := hA.fa 8 (by rfl);rw [f21] at e21;clear f21;have e24 := hA.tm 11 24 (by rfl) (by rfl);have f24 : xs 11 = (.string ⟨Z3.toArray⟩) := hA.fa 11 (by rfl);rw [f24] at e24;clear f24;clear hA;refine ⟨(by rfl), fun K hK => ?_⟩;go_simp
  rw [if_neg (by omega)];exact hK.out _ _ (congrArg Value.string (by rw [HS12.out]; exact cat _ _)) (Below.refl _ _)
 refine R7.Chain.call (fun xs v w => v = .string ⟨S13.toArray⟩) (fun _ _ _ _ h _ => h) (fun _ _ _ _ _ h _ _ => h) (by rfl) (fun T xs wr hA => ?_) ?_
 ·have hsw := (hA.be 0 (Nat.zero_le _) (fun _ _ => Nat.zero_le _)).size;have e25 := hA.tm 12 25 (by rfl) (by rfl);have f25 : xs 12 = (.string ⟨S12.toArray⟩) := hA.fa 12 (by rfl);rw [f25] at e25;clear f25;clear hA;refine ⟨(by rfl), fun K hK => ?_⟩;go_simp
  rw [if_neg (by omega)];exact hK.out _ _ (congrArg Value.string (by rw [HS13.out]; exact cat _ _)) (Below.refl _ _)
 refine R7.Chain.det ?_ (by rfl) (fun T xs wr hA => ?_) ?_
 rotate_left 1
 ·have e2 := hA.pre 2 (by kernel_rfl);simp only [gsa, gsc, gsz] at e2;clear hA;refine ⟨(by rfl), ?_⟩;go_simp <;> (try with_reducible rfl)
 refine R7.Chain.call (fun xs v w => v = .string ⟨S15.toArray⟩) (fun _ _ _ _ h _ => h) (fun _ _ _ _ _ h _ _ => h) (by rfl) (fun T xs wr hA => ?_) ?_
 ·have hsw := (hA.be 0 (Nat.zero_le _) (fun _ _ => Nat.zero_le _)).size;have e26 := hA.tm 13 26 (by rfl) (by rfl);have f26 : xs 13 = (.string ⟨S13.toArray⟩) := hA.fa 13 (by rfl);rw [f26] at e26;clear f26;have e27 := (hA.tm 14 27 (by rfl) (by rfl)).trans (congrArg some (hA.fa 14 (by rfl)))
  (try simp (disch := first | rfl | decide) only [R7.mask_in] at e27)
  clear hA;refine ⟨(by rfl), fun K hK => ?_⟩;go_simp
  rw [if_neg (by omega)];exact hK.out _ _ (congrArg Value.string (by rw [HS15.out]; exact cat _ _)) (Below.refl _ _)
 refine R7.Chain.det ?_ (by rfl) (fun T xs wr hA => ?_) ?_
 rotate_left 1
 ·have e28 := hA.tm 15 28 (by rfl) (by rfl);have f28 : xs 15 = (.string ⟨S15.toArray⟩) := hA.fa 15 (by rfl);rw [f28] at e28;clear f28;clear hA;refine ⟨(by rfl), ?_⟩;go_simp <;> (try with_reducible rfl)
 refine R7.Chain.done (fun xs w3 hL => ?_);obtain ⟨⟨hbe, hbl⟩, hf, -, -⟩ := hL;have f0 : xs 0 = _ := hf 0 (by decide);have f1 : xs 1 = (.string ⟨Z1.toArray⟩) := hf 1 (by decide);have f2 : xs 2 = (.string ⟨S2.toArray⟩) := hf 2 (by decide);have f3 : xs 3 = (.string ⟨S3.toArray⟩) := hf 3 (by decide);have f4 : xs 4 = _ := hf 4 (by decide);have f5 : xs 5 = _ := hf 5 (by decide);have f6 : xs 6 = (.string ⟨Z2.toArray⟩) := hf 6 (by decide);have f7 : xs 7 = (.string ⟨S7.toArray⟩) := hf 7 (by decide);have f8 : xs 8 = (.string ⟨S8.toArray⟩) := hf 8 (by decide);have f9 : xs 9 = _ := hf 9 (by decide);have f10 : xs 10 = _ := hf 10 (by decide);have f11 : xs 11 = (.string ⟨Z3.toArray⟩) := hf 11 (by decide);have f12 : xs 12 = (.string ⟨S12.toArray⟩) := hf 12 (by decide);have f13 : xs 13 = (.string ⟨S13.toArray⟩) := hf 13 (by decide);have f14 : xs 14 = _ := hf 14 (by decide)
 have f15 : xs 15 = (.string ⟨S15.toArray⟩) := hf 15 (by decide);have f16 : xs 16 = _ := hf 16 (by decide)
 (try simp (disch := first | rfl | decide) only [R7.mask_in] at f0 f4 f5 f9 f10 f14 f16)
 have hb0 : Below 0 w2 w3 := undrew (hbe 0 (Nat.zero_le _) (fun _ _ => Nat.zero_le _));have hgr : ∀ j, j < w2.heap.size -> (∀ q, q < 0 -> (fun q => 0) q ≠ j) -> w3.heap[j]? = w2.heap[j]? := hbl;clear hbe hbl hf;have hb : Below w2.heap.size w2 w3 := ⟨hb0.os, hb0.tape, hb0.output, hb0.size, fun q hq => hgr q hq (fun q h => absurd h (Nat.not_lt_zero _))⟩
 refine R7.rest_done ?_;simp only [R7.fill, List.setIfInBounds_toArray, List.set_cons_zero, List.set_cons_succ, f0, f1, f2, f3, f4, f5, f6, f7, f8, f9, f10, f11, f12, f13, f14, f15, f16];clear hb0 hgr hog hlt_t f0 f1 f2 f3 f4 f5 f6 f7 f8 f9 f10 f11 f12 f13 f14 f15 f16;replace HBt := kB hb HBt;replace HBr := kB hb HBr;replace HBW := h_ (HBW.out.trans (hb.mono HBW.out.size));replace HTB := h_ (tab_below HTB.out hb);replace HKS := h_ (fun j hj => (HKS.out j hj).below hb);replace HD := dB HD hb;have hsz3 := HD.out.size;clear hb;go_wp2_with fail
 go_loopw [9, 10, 31] (fun s d i wr => ∃ j : Nat, s = .string ⟨(S15 ++ (ks.take j).flatMap RE.S).toArray⟩ /\ d = .int .i64 ((maxd (ks.take j) : Nat) : Int) /\ i = .int .i64 (j : Nat) /\ j <= ks.length /\ Below w.heap.size w wr /\ wr.heap[kr]? = some (.cells #[.string ⟨#[]⟩, .int .i64 0] 117 (0, 0)) /\ ∀ j (hj : j < ks.length), At2 wr ko j ks[j]) (fun _ _ i _ => ks.length - (intOf i).toNat)
 case atStart => exact ⟨0, by simp, rfl, rfl, Nat.zero_le _, HBW.out, HBr.out, HKS.out⟩
 case round =>
  obtain ⟨j, rfl, rfl, rfl, hj, hbw, hkr, hks⟩ := hrel;obtain ⟨Sj, hSj⟩ : ∃ l : Bs, l = S15 ++ (ks.take j).flatMap RE.S := ⟨_, rfl⟩
  have lSj : Sj.length <= 1000034 + 1000000000 := by rw [hSj, lsa]; have := flat_take_le ks j; omega
  rw [<- hSj];have hmd : maxd (ks.take j) <= 1000000000 := maxd_le _ _ fun e he => HDD.out e (List.mem_of_mem_take he)
  have HSj := h_ hSj;have HW2 := h_ hbw;have HK2 := h_ hkr;have HKS2 := h_ hks;clear hSj hbw hkr hks
  by_cases hlt : j < ks.length
  ·have HX := h_ (HKS2.out j hlt);have hxd : (ks[j]).d <= 1000000000 := HDD.out _ (List.getElem_mem hlt);have hxl : (ks[j]).S.length <= 1000000000 := by have := flat_take_le ks (j + 1); rw [flat_take ks j hlt, lsa] at this; omega
   have HT1 : Hid ((ks.take (j + 1)).flatMap RE.S = (ks.take j).flatMap RE.S ++ (ks[j]).S) := h_ (flat_take ks j hlt);have HT2 : Hid (maxd (ks.take (j + 1)) = max (maxd (ks.take j)) (ks[j]).d) := h_ (maxd_take ks j hlt);generalize ks[j] = x at *;obtain ⟨a, rfl, c0, c1, ha⟩ := HX.out;obtain ⟨p, hp⟩ : ∃ p, p = a.add (j * 2) := ⟨_, rfl⟩
   rw [<- hp] at c0 c1;rw [show p.add 1 = ⟨p.block, p.off + 1, none⟩ from rfl] at c1;rw [hp] at c0 c1;clear hp;have hxs : (⟨x.S.toArray⟩ : ByteArray).size = x.S.length := rfl;have hss : (⟨Sj.toArray⟩ : ByteArray).size = Sj.length := rfl;go_wp2_with fail
   go_roundw
   case rel => exact ⟨j + 1, by rw [HT1.out, <- List.append_assoc, <- HSj.out]; exact congrArg Value.string (cat _ _), by rw [HT2.out]; exact maxE _ _, by go_num, by omega, HW2.out.alloc HW2.out.size _, (((Below.refl wr.heap.size wr).alloc (Nat.le_refl _) _).block _ (lt_of_block HK2.out)).trans HK2.out, fun i hi => (HKS2.out i hi).below ((Below.refl _ _).alloc (Nat.le_refl _) _)⟩
   case measure => simp [intOf]; omega
  have e : j = ks.length := by omega
  subst e;rw [List.take_length] at HSj hmd ⊢;obtain ⟨z0, z1⟩ := cl2 HK2.out;obtain ⟨fz0, fz1⟩ := fr2 HK2.out;have hss : (⟨Sj.toArray⟩ : ByteArray).size = Sj.length := rfl
  have HV : Hid (eV (mk kd t nm ks) = .agg #[.string (⟨Sj.toArray⟩ ++ ⟨#[41]⟩), .int .i64 ((maxd ks : Nat) + 1 : Int)]) := h_ (by
   unfold eV mk;simp only;rw [show opn kd t.line t.col nm ++ List.flatMap RE.S ks ++ [41] = Sj ++ [41] by rw [HSj.out, HS15.out, HS13.out, HS12.out, HS8.out, HS7.out, HS3.out, HS2.out, HZ1.out, HZ2.out, HZ3.out]; unfold opn plc; simp only [List.append_assoc], <- cat]
   rfl)
  go_wp2_with fail
  exact bodyPost_ret (v := .agg #[.string (⟨Sj.toArray⟩ ++ ⟨#[41]⟩), .int .i64 ((maxd ks : Nat) + 1 : Int)]) (by simp [results, Tryz.results89, go_sem, z0, z1]) rfl ⟨by rw [HV.out], below_set1 (below_set1 HW2.out her 0 _) her 1 _⟩
end Go.Proofs.YtdpfgfkoboihcaaGreatDoor
namespace Go.Proofs.YtdpfgfkoboihcaaGreatDoor
set_option maxRecDepth 100000
set_option linter.unusedSimpArgs false
set_option linter.unusedVariables false
def TBd (r : RS) : Prop := ∀ t ∈ r.rest, t.line <= 1000000000 /\ t.col <= 1000000000 /\ t.text.length <= 3000
def phi (r : RS) : Nat := 7000 * r.rest.length + (if r.bad = 0 then 7000 else 0)
theorem TBd.at {r : RS} (h : TBd r) : r.at'.line <= 1000000000 /\ r.at'.col <= 1000000000 /\ r.at'.text.length <= 3000 := by
 obtain ⟨rest, bad, pl⟩ := r;unfold RS.at'
 cases rest with
 | nil => exact ⟨Nat.zero_le _, Nat.zero_le _, Nat.zero_le _⟩
 | cons t ts => exact h t (by simp)
theorem TBd.inc {r : RS} (h : TBd r) : TBd r.inc := fun t ht => h t (List.mem_of_mem_drop ht)
theorem TBd.bd {r : RS} (h : TBd r) (t : Tok) (e : Nat) : TBd (r.bd t e) := by unfold RS.bd; split; exact h; exact h
def GR (r : RS) : Prop := GoodL r.rest /\ TBd r
theorem GR.pos {r : RS} (h : GR r) : 1 <= r.rest.length := List.length_pos_iff.2 h.1.ne
theorem GR.inc {r : RS} (h : GR r) (hk : r.at'.kind ≠ 4) : GR r.inc := ⟨h.1.tail hk, h.2.inc⟩
theorem GR.bd {r : RS} (h : GR r) (t : Tok) (e : Nat) : GR (r.bd t e) := ⟨by unfold RS.bd; split; exact h.1; exact h.1, h.2.bd _ _⟩
theorem GR.eat {r : RS} (h : GR r) (l : Bs) : GR (r.eat l) := by
 unfold RS.eat
 split
 ·next hi => exact h.inc (RS.is_kind hi).1
 exact h.bd _ _
theorem GR.name {r : RS} (h : GR r) : GR r.name := by
 unfold RS.name
 split
 ·next hk => split; exact h.inc (by omega); exact h
 exact h.bd _ _
theorem phi_inc {r : RS} (h : GR r) : phi r.inc + 7000 = phi r := by
 have := h.pos; unfold phi RS.inc; simp only [List.length_drop]; omega
theorem phi_bd {r : RS} (t : Tok) : phi (r.bd t 1) + (if r.bad = 0 then 7000 else 0) = phi r := by
 unfold phi RS.bd; split
 ·next h => simp [h]
 next h => simp [h]
theorem phi_eat {r : RS} (h : GR r) (l : Bs) : phi (r.eat l) + (if r.bad = 0 then 7000 else 0) <= phi r := by
 unfold RS.eat
 split
 ·have := phi_inc h; split <;> omega
 rw [phi_bd]; exact Nat.le_refl _
theorem phi_name {r : RS} (h : GR r) : phi r.name + (if r.bad = 0 then 7000 else 0) <= phi r := by
 unfold RS.name
 split
 ·split
  ·have := phi_inc h; omega
  exact Nat.le_refl _
 rw [phi_bd]; exact Nat.le_refl _
theorem opn_len (k ln cl : Nat) (nm : Bs) (hk : k <= 1000000000) (h1 : ln <= 1000000000) (h2 : cl <= 1000000000) : 1 <= (opn k ln cl nm).length /\ (opn k ln cl nm).length <= 35 + nm.length := by
 have a := zl k hk;have b := zl ln h1;have c := zl cl h2;unfold opn plc;simp only [lsa, lsc, lsn]
 omega
theorem maxd_flat (ks : List RE) (h : ∀ e ∈ ks, e.d <= e.S.length) : maxd ks <= (ks.flatMap RE.S).length := by
 refine maxd_le ks _ fun e he => Nat.le_trans (h e he) ?_
 obtain ⟨a, b, rfl⟩ := List.append_of_mem he;simp only [List.flatMap_append, List.flatMap_cons, lsa]; omega
def Fin (E : RE) (r r' : RS) : Prop := GR r' /\ E.S.length + phi r' <= phi r /\ E.d <= E.S.length /\ (r.bad = 0 -> 1 <= E.S.length /\ E.S.length + phi r' < phi r)
theorem mk_len (k : Nat) (t : Tok) (nm : Bs) (ks : List RE) (hk : k <= 1000000000) (h1 : t.line <= 1000000000) (h2 : t.col <= 1000000000) (hd : ∀ e ∈ ks, e.d <= e.S.length) :
  (mk k t nm ks).S.length <= 36 + nm.length + (ks.flatMap RE.S).length /\ (mk k t nm ks).d <= (mk k t nm ks).S.length /\ 1 <= (mk k t nm ks).S.length := by
 have a := opn_len k t.line t.col nm hk h1 h2;have b := maxd_flat ks hd;have c : (mk k t nm ks).d = maxd ks + 1 := rfl;have d : (mk k t nm ks).S.length = (opn k t.line t.col nm).length + (ks.flatMap RE.S).length + 1 := by unfold mk; simp only [lsa, lsc, lsn]
 omega
theorem two_kind {t : Tok} (h : (two t).1 ≠ 0) : t.kind = 2 /\ (two t).2 <= 24 := by
 unfold two at h ⊢
 split at h
 ·exact absurd rfl h
 next hk =>
 refine ⟨by omega, ?_⟩;rw [if_neg hk]
 cases hf : twoT.findIdx? (fun p => p.1 == t.text) with
 | none => simp
 | some i =>
  have := List.findIdx?_eq_some_iff_findIdx_eq.1 hf
  simp [twoT] at this ⊢; omega
theorem rUn_kind {r : RS} {k : Nat} (h : rUn r = some k) : r.at'.kind ≠ 4 /\ r.bad = 0 /\ k <= 9 := by
 unfold rUn at h
 repeat' split at h
 all_goals first | (cases h; done) | skip
 all_goals (next hi => exact ⟨(RS.is_kind hi).1, (RS.is_kind hi).2, by injection h with h; omega⟩)
theorem fl1 (a : RE) : ([a].flatMap RE.S).length = a.S.length := by simp
theorem fl2 (a b : RE) : ([a, b].flatMap RE.S).length = a.S.length + b.S.length := by simp
theorem fl3 (a b c : RE) : ([a, b, c].flatMap RE.S).length = a.S.length + (b.S.length + c.S.length) := by simp
theorem d1 {a : RE} (h : a.d <= a.S.length) : ∀ e ∈ [a], e.d <= e.S.length := by simpa using h
theorem d2 {a b : RE} (h : a.d <= a.S.length) (k : b.d <= b.S.length) : ∀ e ∈ [a, b], e.d <= e.S.length := by simpa using ⟨h, k⟩
theorem d3 {a b c : RE} (h : a.d <= a.S.length) (k : b.d <= b.S.length) (l : c.d <= c.S.length) : ∀ e ∈ [a, b, c], e.d <= e.S.length := by simpa using ⟨h, k, l⟩
theorem fin_leaf {r r' : RS} (k : Nat) (nm : Bs) (h : GR r) (hk : k <= 1000000000) (hn : nm.length <= 3000) (hg : GR r') (hp : phi r' + 7000 <= phi r) : Fin (mk k r.at' nm []) r r' := by
 obtain ⟨a, b, c⟩ := mk_len k r.at' nm [] hk h.2.at.1 h.2.at.2.1 (by simp);have : (([] : List RE).flatMap RE.S).length = 0 := rfl;exact ⟨hg, by omega, b, fun _ => ⟨c, by omega⟩⟩
theorem r_len (n : Nat) : (∀ r x, GR r -> rExpr n r = some x -> Fin x.1 r x.2) /\ (∀ l r x, 1 <= l -> GR r -> rClimb n l r = some x -> Fin x.1 r x.2) /\
  (∀ l e r x, 1 <= l -> GR r -> e.d <= e.S.length -> rLoop n l e r = some x -> GR x.2 /\ x.1.S.length + phi x.2 <= e.S.length + phi r /\ x.1.d <= x.1.S.length /\ e.S.length <= x.1.S.length) /\
  (∀ r x, GR r -> rSingle n r = some x -> Fin x.1 r x.2) /\ (∀ r x, GR r -> rAtom n r = some x -> Fin x.1 r x.2) /\
  (∀ l r x, GR r -> (∀ e ∈ l, e.d <= e.S.length) -> rKids n l r = some x -> GR x.2 /\ x.1.length + (x.1.flatMap RE.S).length + phi x.2 <= l.length + (l.flatMap RE.S).length + phi r /\ ∀ e ∈ x.1, e.d <= e.S.length) := by
 induction n with
 | zero => refine ⟨?_, ?_, ?_, ?_, ?_, ?_⟩ <;> intros <;> simp_all [rExpr, rClimb, rLoop, rSingle, rAtom, rKids]
 | succ n ih =>
  obtain ⟨i1, i2, i3, i4, i5, i6⟩ := ih;refine ⟨?_, ?_, ?_, ?_, ?_, ?_⟩
  ·intro r x hr h;rw [rExpr] at h
   split at h
   ·next hi =>
    have hk := RS.is_kind hi;simp only [Option.bind_eq_some_iff] at h;obtain ⟨x1, h1, x2, h2, h3⟩ := h;injection h3 with h3; subst h3;have g0 := hr.inc hk.1;have p0 := phi_inc hr;have p1 := phi_name g0;have p2 := phi_eat g0.name wEq;obtain ⟨f1, f2, f3, f4⟩ := i1 _ _ (g0.name.eat wEq) h1;have p3 := phi_eat f1 wIn;obtain ⟨k1, k2, k3, k4⟩ := i1 _ _ (f1.eat wIn) h2;obtain ⟨a, b, c⟩ := mk_len 26 r.at' r.inc.at'.text [x1.1, x2.1] (by decide) hr.2.at.1 hr.2.at.2.1 (d2 f3 k3);rw [fl2] at a;have := g0.2.at.2.2;exact ⟨k1, by simp only; omega, b, fun _ => ⟨c, by simp only; omega⟩⟩
   split at h
   ·next hi =>
    have hk := RS.is_kind hi;simp only [Option.bind_eq_some_iff] at h;obtain ⟨x1, h1, x2, h2, x3, h3, h4⟩ := h;injection h4 with h4; subst h4;have g0 := hr.inc hk.1;have p0 := phi_inc hr;obtain ⟨f1, f2, f3, f4⟩ := i1 _ _ g0 h1;have p3 := phi_eat f1 wThen;obtain ⟨k1, k2, k3, k4⟩ := i1 _ _ (f1.eat wThen) h2;have p4 := phi_eat k1 wElse;obtain ⟨l1, l2, l3, l4⟩ := i1 _ _ (k1.eat wElse) h3;obtain ⟨a, b, c⟩ := mk_len 25 r.at' [] [x1.1, x2.1, x3.1] (by decide) hr.2.at.1 hr.2.at.2.1 (d3 f3 k3 l3);rw [fl3, lsn] at a;exact ⟨l1, by simp only; omega, b, fun _ => ⟨c, by simp only; omega⟩⟩
   split at h
   ·next hi =>
    have hk := RS.is_kind hi;simp only [Option.bind_eq_some_iff] at h;obtain ⟨x1, h1, x2, h2, x3, h3, h4⟩ := h;injection h4 with h4; subst h4;have g0 := hr.inc hk.1;have p0 := phi_inc hr;obtain ⟨f1, f2, f3, f4⟩ := i1 _ _ g0 h1;have p3 := phi_eat f1 wWith;have p4 := phi_eat (f1.eat wWith) wNil;have p5 := phi_eat ((f1.eat wWith).eat wNil) wArrow;obtain ⟨k1, k2, k3, k4⟩ := i1 _ _ (((f1.eat wWith).eat wNil).eat wArrow) h2;have q1 := phi_eat k1 wBar;have q2 := phi_name (k1.eat wBar);have q3 := phi_eat (k1.eat wBar).name wCons;have q4 := phi_name ((k1.eat wBar).name.eat wCons);have q5 := phi_eat ((k1.eat wBar).name.eat wCons).name wArrow;obtain ⟨l1, l2, l3, l4⟩ := i1 _ _ (((k1.eat wBar).name.eat wCons).name.eat wArrow) h3
    obtain ⟨a, b, c⟩ := mk_len 27 r.at' ((x2.2.eat wBar).at'.text ++ [32] ++ (((x2.2.eat wBar).name).eat wCons).at'.text) [x1.1, x2.1, x3.1] (by decide) hr.2.at.1 hr.2.at.2.1 (d3 f3 k3 l3);have t1 := (k1.eat wBar).2.at.2.2;have t2 := ((k1.eat wBar).name.eat wCons).2.at.2.2;rw [fl3] at a;simp only [lsa, lsc, lsn] at a;exact ⟨l1, by simp only; omega, b, fun _ => ⟨c, by simp only; omega⟩⟩
   split at h
   ·next hi =>
    have hk := RS.is_kind hi;simp only [Option.bind_eq_some_iff] at h;obtain ⟨x1, h1, x2, h2, h3⟩ := h;injection h3 with h3; subst h3;have g0 := hr.inc hk.1;have p0 := phi_inc hr;obtain ⟨f1, f2, f3, f4⟩ := i1 _ _ g0 h1;have p3 := phi_eat f1 wSemi;obtain ⟨k1, k2, k3, k4⟩ := i1 _ _ (f1.eat wSemi) h2;obtain ⟨a, b, c⟩ := mk_len 28 r.at' [] [x1.1, x2.1] (by decide) hr.2.at.1 hr.2.at.2.1 (d2 f3 k3);rw [fl2, lsn] at a;exact ⟨k1, by simp only; omega, b, fun _ => ⟨c, by simp only; omega⟩⟩
   exact i2 _ _ _ (by decide) hr h
  ·intro l r x hl1 hr h;rw [rClimb] at h
   split at h
   ·exact i4 _ _ hr h
   rw [Option.bind_eq_some_iff] at h;obtain ⟨x1, h1, h2⟩ := h;obtain ⟨f1, f2, f3, f4⟩ := i2 _ _ _ (by omega) hr h1;obtain ⟨k1, k2, k3, k4⟩ := i3 _ _ _ _ hl1 f1 f3 h2;exact ⟨k1, by omega, k3, fun hb => by have := f4 hb; exact ⟨by omega, by omega⟩⟩
  ·intro l e r x hl1 hr he h;rw [rLoop] at h
   split at h
   ·injection h with h; subst h; exact ⟨hr, Nat.le_refl _, he, Nat.le_refl _⟩
   split at h
   ·injection h with h; subst h; exact ⟨hr, Nat.le_refl _, he, Nat.le_refl _⟩
   next hb hl =>
   have hl' : (two r.at').1 = l := by simpa using hl
   have hz : (two r.at').1 ≠ 0 := by omega
   obtain ⟨hk, h24⟩ := two_kind hz;have g0 := hr.inc (by omega);have p0 := phi_inc hr
   split at h
   ·rw [Option.bind_eq_some_iff] at h;obtain ⟨x1, h1, h2⟩ := h;injection h2 with h2; subst h2;obtain ⟨f1, f2, f3, f4⟩ := i2 _ _ _ (by omega) g0 h1;obtain ⟨a, b, c⟩ := mk_len (two r.at').2 r.at' [] [e, x1.1] (by omega) hr.2.at.1 hr.2.at.2.1 (d2 he f3);rw [fl2, lsn] at a;refine ⟨f1, by simp only; omega, b, ?_⟩;unfold mk; simp only [lsa, fl2]; omega
   rw [Option.bind_eq_some_iff] at h;obtain ⟨x1, h1, h2⟩ := h;obtain ⟨f1, f2, f3, f4⟩ := i2 _ _ _ (by omega) g0 h1;obtain ⟨a, b, c⟩ := mk_len (two r.at').2 r.at' [] [e, x1.1] (by omega) hr.2.at.1 hr.2.at.2.1 (d2 he f3);have he2 : e.S.length <= (mk (two r.at').2 r.at' [] [e, x1.1]).S.length := by unfold mk; simp only [lsa, fl2]; omega
   rw [fl2, lsn] at a
   split at h2
   ·injection h2 with h2; subst h2;exact ⟨f1, by simp only; omega, b, he2⟩
   obtain ⟨k1, k2, k3, k4⟩ := i3 _ _ _ _ hl1 f1 b h2;exact ⟨k1, by omega, k3, by omega⟩
  ·intro r x hr h;rw [rSingle] at h
   split at h
   ·exact i5 _ _ hr h
   next k hu =>
   obtain ⟨hk, hb, hk9⟩ := rUn_kind hu;rw [Option.bind_eq_some_iff] at h;obtain ⟨x1, h1, h2⟩ := h;injection h2 with h2; subst h2;have p0 := phi_inc hr;obtain ⟨f1, f2, f3, f4⟩ := i4 _ _ (hr.inc hk) h1;obtain ⟨a, b, c⟩ := mk_len k r.at' [] [x1.1] (by omega) hr.2.at.1 hr.2.at.2.1 (d1 f3);rw [fl1, lsn] at a;exact ⟨f1, by simp only; omega, b, fun _ => ⟨c, by simp only; omega⟩⟩
  ·intro r x hr h;have p0 := phi_inc hr;have pn := phi_name hr;have ht := hr.2.at.2.2;rw [rAtom] at h
   split at h
   ·next hb => injection h with h; subst h; exact ⟨hr, by simp, by simp, fun h => absurd h hb⟩
   next hb =>
   have hb0 : r.bad = 0 := by omega
   rw [if_pos hb0] at pn
   split at h
   ·next hi => injection h with h; subst h; exact fin_leaf 1 [] hr (by decide) (by simp) (hr.inc (RS.is_kind hi).1) (by show phi r.inc + 7000 <= phi r; omega)
   split at h
   ·next hi => injection h with h; subst h; exact fin_leaf 2 [] hr (by decide) (by simp) (hr.inc (RS.is_kind hi).1) (by show phi r.inc + 7000 <= phi r; omega)
   split at h
   ·next hi => injection h with h; subst h; exact fin_leaf 3 wV hr (by decide) (by simp) (hr.inc (RS.is_kind hi).1) (by show phi r.inc + 7000 <= phi r; omega)
   split at h
   ·next hi => injection h with h; subst h; exact fin_leaf 4 [] hr (by decide) (by simp) (hr.inc (RS.is_kind hi).1) (by show phi r.inc + 7000 <= phi r; omega)
   split at h
   ·next hk => injection h with h; subst h; exact fin_leaf 0 r.at'.text hr (by decide) ht (hr.inc (by omega)) (by show phi r.inc + 7000 <= phi r; omega)
   split at h
   ·next hi =>
    rw [Option.bind_eq_some_iff] at h;obtain ⟨x1, h1, h2⟩ := h;injection h2 with h2; subst h2;obtain ⟨f1, f2, f3, f4⟩ := i1 _ _ (hr.inc (RS.is_kind hi).1) h1;have := phi_eat f1 wClose;exact ⟨f1.eat _, by simp only; omega, f3, fun _ => ⟨(f4 hb0).1, by simp only; omega⟩⟩
   split at h
   ·next hi =>
    rw [Option.bind_eq_some_iff] at h;obtain ⟨x1, h1, h2⟩ := h;injection h2 with h2; subst h2;have q0 := phi_inc hr.name;obtain ⟨f1, f2, f3⟩ := i6 _ _ _ (hr.name.inc (RS.is_kind hi).1) (by simp) h1;have q1 := phi_eat f1 wClose;obtain ⟨a, b, c⟩ := mk_len 24 r.at' r.at'.text x1.1 (by decide) hr.2.at.1 hr.2.at.2.1 f3;simp only [List.flatMap_nil, lsn] at f2;exact ⟨f1.eat _, by simp only; omega, b, fun _ => ⟨c, by simp only; omega⟩⟩
   injection h with h; subst h; exact fin_leaf 3 r.at'.text hr (by decide) ht hr.name (by show phi r.name + 7000 <= phi r; omega)
  intro l r x hr hl h;rw [rKids] at h
  split at h
  ·injection h with h; subst h; exact ⟨hr, Nat.le_refl _, hl⟩
  next hc =>
  have hb0 : r.bad = 0 := by
   by_cases hb : r.bad = 0
   ·exact hb
   exact absurd (Or.inl hb) hc
  rw [Option.bind_eq_some_iff] at h;obtain ⟨x1, h1, h2⟩ := h
  have key : GR (if l.length > 0 then r.eat wComma else r) /\ ((if l.length > 0 then r.eat wComma else r).bad = 0 /\ phi (if l.length > 0 then r.eat wComma else r) <= phi r \/ phi (if l.length > 0 then r.eat wComma else r) + 7000 <= phi r) := by
   split
   ·have := phi_eat hr wComma;rw [if_pos hb0] at this;exact ⟨hr.eat _, .inr this⟩
   exact ⟨hr, .inl ⟨hb0, Nat.le_refl _⟩⟩
  obtain ⟨f1, f2, f3, f4⟩ := i1 _ _ key.1 h1;obtain ⟨k1, k2, k3⟩ := i6 _ _ _ f1 (fun e he => by rcases List.mem_append.1 he with he | he; exact hl e he; simp at he; subst he; exact f3) h2;refine ⟨k1, ?_, k3⟩;simp only [List.flatMap_append, lsa, fl1, lsc, lsn] at k2;rcases key.2 with ⟨hb1, hp⟩ | hp
  ·have := f4 hb1; omega
  omega
theorem rl_inc (r : RS) (h : GR r) : r.inc.rest.length + 1 = r.rest.length := by have := h.pos; unfold RS.inc; simp only [List.length_drop]; omega
theorem rl_bd (r : RS) (t : Tok) (e : Nat) : (r.bd t e).rest = r.rest := by unfold RS.bd; split <;> rfl
theorem rl_eat (r : RS) (h : GR r) (l : Bs) : (r.eat l).rest.length <= r.rest.length := by
 unfold RS.eat; split
 ·have := rl_inc r h; omega
 rw [rl_bd]; exact Nat.le_refl _
theorem rl_name (r : RS) (h : GR r) : r.name.rest.length <= r.rest.length := by
 unfold RS.name; split
 ·split
  ·have := rl_inc r h; omega
  exact Nat.le_refl _
 rw [rl_bd]; exact Nat.le_refl _
theorem Fin.len {E : RE} {r r' : RS} (h : Fin E r r') : r'.rest.length <= r.rest.length /\ (r'.bad = 0 -> r'.rest.length < r.rest.length \/ r.bad ≠ 0) := by
 obtain ⟨h1, h2, h3, h4⟩ := h;unfold phi at h2 h4
 by_cases hb : r.bad = 0
 ·have := (h4 hb).2;rw [if_pos hb] at this h2
  by_cases hb' : r'.bad = 0
  ·rw [if_pos hb'] at this; exact ⟨by omega, fun _ => .inl (by omega)⟩
  rw [if_neg hb'] at this; have := (h4 hb).1; exact ⟨by omega, fun h => absurd h hb'⟩
 rw [if_neg hb] at h2;refine ⟨by omega, fun _ => .inr hb⟩
theorem Fin.lt {E : RE} {r r' : RS} (h : Fin E r r') (hb : r'.bad = 0) : r'.rest.length < r.rest.length := by
 rcases h.len.2 hb with h' | h'
 ·exact h'
 have h2 := h.2.1;unfold phi at h2;rw [if_neg h', if_pos hb] at h2
 omega
theorem r_tot (n : Nat) : (∀ r, GR r -> 12 * r.rest.length + 9 <= n -> (rExpr n r).isSome = true) /\ (∀ l r, 1 <= l -> l <= 7 -> GR r -> 12 * r.rest.length + 9 <= n + l -> (rClimb n l r).isSome = true) /\
  (∀ l e r, 1 <= l -> l <= 6 -> GR r -> e.d <= e.S.length -> 12 * r.rest.length + 1 <= n -> (rLoop n l e r).isSome = true) /\
  (∀ r, GR r -> 12 * r.rest.length + 1 <= n -> (rSingle n r).isSome = true) /\ (∀ r, GR r -> 12 * r.rest.length <= n -> (rAtom n r).isSome = true) /\
  (∀ l r, GR r -> (∀ e ∈ l, e.d <= e.S.length) -> 12 * r.rest.length + 10 <= n -> (rKids n l r).isSome = true) := by
 induction n with
 | zero =>
  refine ⟨?_, ?_, ?_, ?_, ?_, ?_⟩
  ·intro r hr h; omega
  ·intro l r _ _ hr h; have := hr.pos; omega
  ·intro l e r _ _ hr _ h; omega
  ·intro r hr h; omega
  ·intro r hr h; have := hr.pos; omega
  intro l r hr _ h; omega
 | succ n ih =>
  obtain ⟨i1, i2, i3, i4, i5, i6⟩ := ih;obtain ⟨j1, j2, j3, j4, j5, j6⟩ := r_len n;have E : ∀ r, GR r -> ∀ r', GR r' -> r'.rest.length + 1 <= r.rest.length -> 12 * r.rest.length <= n + 1 -> (rExpr n r').isSome = true := fun r _ r' h' hl hn => i1 r' h' (by omega)
  refine ⟨?_, ?_, ?_, ?_, ?_, ?_⟩
  ·intro r hr hn;rw [rExpr]
   split
   ·next hi =>
    have hk := RS.is_kind hi;have g0 := hr.inc hk.1;have p0 := rl_inc r hr;have p1 := rl_name _ g0;have p2 := rl_eat _ g0.name wEq;refine isSome_bind (E r hr _ (g0.name.eat wEq) (by omega) (by omega)) fun x1 h1 => ?_
    have f := j1 _ _ (g0.name.eat wEq) h1;have q1 := f.len.1;have q2 := rl_eat _ f.1 wIn;exact isSome_bind (E r hr _ (f.1.eat wIn) (by omega) (by omega)) fun x2 h2 => rfl
   split
   ·next hi =>
    have hk := RS.is_kind hi;have g0 := hr.inc hk.1;have p0 := rl_inc r hr;refine isSome_bind (E r hr _ g0 (by omega) (by omega)) fun x1 h1 => ?_
    have f := j1 _ _ g0 h1;have q1 := f.len.1;have q2 := rl_eat _ f.1 wThen;refine isSome_bind (E r hr _ (f.1.eat wThen) (by omega) (by omega)) fun x2 h2 => ?_
    have k := j1 _ _ (f.1.eat wThen) h2;have q3 := k.len.1;have q4 := rl_eat _ k.1 wElse;exact isSome_bind (E r hr _ (k.1.eat wElse) (by omega) (by omega)) fun x3 h3 => rfl
   split
   ·next hi =>
    have hk := RS.is_kind hi;have g0 := hr.inc hk.1;have p0 := rl_inc r hr;refine isSome_bind (E r hr _ g0 (by omega) (by omega)) fun x1 h1 => ?_
    have f := j1 _ _ g0 h1;have q1 := f.len.1;have q2 := rl_eat _ f.1 wWith;have q3 := rl_eat _ (f.1.eat wWith) wNil;have q4 := rl_eat _ ((f.1.eat wWith).eat wNil) wArrow;refine isSome_bind (E r hr _ (((f.1.eat wWith).eat wNil).eat wArrow) (by omega) (by omega)) fun x2 h2 => ?_
    have k := j1 _ _ (((f.1.eat wWith).eat wNil).eat wArrow) h2;have q5 := k.len.1;have q6 := rl_eat _ k.1 wBar;have q7 := rl_name _ (k.1.eat wBar);have q8 := rl_eat _ (k.1.eat wBar).name wCons;have q9 := rl_name _ ((k.1.eat wBar).name.eat wCons);have q0 := rl_eat _ ((k.1.eat wBar).name.eat wCons).name wArrow;exact isSome_bind (E r hr _ (((k.1.eat wBar).name.eat wCons).name.eat wArrow) (by omega) (by omega)) fun x3 h3 => rfl
   split
   ·next hi =>
    have hk := RS.is_kind hi;have g0 := hr.inc hk.1;have p0 := rl_inc r hr;refine isSome_bind (E r hr _ g0 (by omega) (by omega)) fun x1 h1 => ?_
    have f := j1 _ _ g0 h1;have q1 := f.len.1;have q2 := rl_eat _ f.1 wSemi;exact isSome_bind (E r hr _ (f.1.eat wSemi) (by omega) (by omega)) fun x2 h2 => rfl
   exact i2 _ _ (by decide) (by decide) hr (by omega)
  ·intro l r hl1 hl7 hr hn;rw [rClimb]
   split
   ·exact i4 _ hr (by omega)
   refine isSome_bind (i2 _ _ (by omega) (by omega) hr (by omega)) fun x1 h1 => ?_
   have f := j2 _ _ _ (by omega) hr h1;have q1 := f.len.1;exact i3 _ _ _ hl1 (by omega) f.1 f.2.2.1 (by omega)
  ·intro l e r hl1 hl6 hr he hn;rw [rLoop]
   split
   ·rfl
   split
   ·rfl
   next hb hl =>
   have hl' : (two r.at').1 = l := by simpa using hl
   have hz : (two r.at').1 ≠ 0 := by omega
   obtain ⟨hk, h24⟩ := two_kind hz;have g0 := hr.inc (by omega);have p0 := rl_inc r hr
   split
   ·exact isSome_bind (i2 _ _ (by decide) (by decide) g0 (by omega)) fun x1 h1 => rfl
   refine isSome_bind (i2 _ _ (by omega) (by omega) g0 (by omega)) fun x1 h1 => ?_
   have f := j2 _ _ _ (by omega) g0 h1;have q1 := f.len.1
   split
   ·rfl
   exact i3 _ _ _ hl1 hl6 f.1 (mk_len (two r.at').2 r.at' [] [e, x1.1] (by omega) hr.2.at.1 hr.2.at.2.1 (d2 he f.2.2.1)).2.1 (by omega)
  ·intro r hr hn;rw [rSingle]
   split
   ·exact i5 _ hr (by omega)
   next k hu =>
   have hk := rUn_kind hu;have p0 := rl_inc r hr;exact isSome_bind (i4 _ (hr.inc hk.1) (by omega)) fun x1 h1 => rfl
  ·intro r hr hn;have p0 := rl_inc r hr;have pn := rl_name r hr;rw [rAtom]
   split; · rfl
   split; · rfl
   split; · rfl
   split; · rfl
   split; · rfl
   split; · rfl
   split
   ·next hi => exact isSome_bind (E r hr _ (hr.inc (RS.is_kind hi).1) (by omega) (by omega)) fun x1 h1 => rfl
   split
   ·next hi =>
    have q0 := rl_inc _ hr.name;exact isSome_bind (i6 _ _ (hr.name.inc (RS.is_kind hi).1) (by simp) (by omega)) fun x1 h1 => rfl
   rfl
  intro l r hr hl hn;rw [rKids]
  split
  ·rfl
  next hc =>
  have key : GR (if l.length > 0 then r.eat wComma else r) /\ (if l.length > 0 then r.eat wComma else r).rest.length <= r.rest.length := by
   split
   ·exact ⟨hr.eat _, rl_eat r hr _⟩
   exact ⟨hr, Nat.le_refl _⟩
  refine isSome_bind (i1 _ key.1 (by omega)) fun x1 h1 => ?_
  have f := j1 _ _ key.1 h1
  by_cases hb : x1.2.bad = 0
  ·have := f.lt hb;exact i6 _ _ f.1 (fun e he => by rcases List.mem_append.1 he with he | he; exact hl e he; simp at he; subst he; exact f.2.2.1) (by omega)
  match n, hn with
  | m + 1, _ => rw [rKids, if_pos (.inl hb)]; rfl
  | 0, hn => omega
end Go.Proofs.YtdpfgfkoboihcaaGreatDoor
namespace Go.Proofs.YtdpfgfkoboihcaaGreatDoor
open Go.RowKit
set_option maxRecDepth 100000
set_option linter.unusedVariables false
set_option linter.unusedSimpArgs false
def twoL : List (Bs × Nat) -> Nat -> Bs -> Nat × Nat
 | [], _, _ => (0, 0)
 | (s, l) :: r, i, w => if (s == w) = true then (l, 10 + i) else twoL r (i + 1) w
theorem twoL_find (l : List (Bs × Nat)) (i : Nat) (w : Bs) : twoL l i w = match l.findIdx? (fun p => p.1 == w) with | some k => ((l.getD k ([], 0)).2, 10 + (i + k)) | none => (0, 0) := by
 induction l generalizing i with
 | nil => rfl
 | cons a l ih =>
  obtain ⟨s, n⟩ := a;rw [twoL, List.findIdx?_cons]
  cases h : (s == w) with
  | true => simp
  | false =>
   rw [if_neg (by simp), ih];simp only [Bool.false_eq_true, if_false]
   cases l.findIdx? (fun p => p.1 == w) with
   | none => rfl
   | some k => simp; omega
theorem two_L (t : Tok) (h : t.kind = 2) : two t = twoL twoT 0 t.text := by
 unfold two;rw [if_neg (by omega), twoL_find]
 cases twoT.findIdx? (fun p => p.1 == t.text) with
 | none => rfl
 | some k => simp
theorem two_p (t : Tok) (w : World) :
  Calls Tryz.prog 114 #[tokV t] w fun e w' => e = .returned (.tuple #[.int .i64 ((two t).1 : Nat), .int .i64 ((two t).2 : Nat)]) /\ Below w.heap.size w w' := by
 unfold tokV;go_enter Tryz.func114, Tryz.ntmps114
 go_upto_region 1 with fail
 obtain ⟨w1, hw⟩ : ∃ x, x = w.alloc (.cells #[.int .i64 (t.kind : Nat), .string ⟨t.text.toArray⟩, .int .i64 (t.line : Nat), .int .i64 (t.col : Nat)] 60) := ⟨_, rfl⟩
 have hb : Below w.heap.size w w1 := by rw [hw]; exact (Below.refl _ _).alloc (Nat.le_refl _) _
 have hk : w1.heap[w.heap.size]? = some (.cells #[.int .i64 (t.kind : Nat), .string ⟨t.text.toArray⟩, .int .i64 (t.line : Nat), .int .i64 (t.col : Nat)] 60 (0, 0)) := by rw [hw]; exact made_at w _ _ rfl
 rw [<- hw];obtain ⟨kt, hkk⟩ : ∃ k, k = w.heap.size := ⟨_, rfl⟩
 rw [<- hkk] at hk ⊢;have HB := h_ hb;have HT := h_ hk;have c0 := cell_at (v := .int .i64 (t.kind : Nat)) hk 0 rfl;clear hw hb hk hkk
 by_cases hk2 : t.kind = 2
 ·have hk2' : (((t.kind : Nat) : Int) == 2) = true := by rw [hk2]; rfl
  have HF := h_ (two_L t hk2);go_upto_region 3 with fail
  clear c0 hk2 hk2';go_wp2_with fail
  obtain ⟨w2, kb, hw, hkk, hb, -, HS⟩ := newb w1 #[.string ⟨#[43]⟩, .string ⟨#[45]⟩, .string ⟨#[42]⟩, .string ⟨#[47]⟩, .string ⟨#[37]⟩, .string ⟨#[61]⟩, .string ⟨#[60, 62]⟩, .string ⟨#[60]⟩, .string ⟨#[60, 61]⟩, .string ⟨#[62]⟩, .string ⟨#[62, 61]⟩, .string ⟨#[38, 38]⟩, .string ⟨#[124, 124]⟩, .string ⟨#[58, 58]⟩] 9;rw [hw, <- hkk];have HT2 := kB hb HT;have HB2 := h_ (HB.out.trans (hb.mono HB.out.size));clear hw hb hkk HT HB
  go_loopw [11] (fun i wr => ∃ j : Nat, i = .int .i64 (j : Nat) /\ j <= 14 /\ Hid (two t = twoL (twoT.drop j) j t.text) /\ wr = w2) (fun i _ => 14 - (intOf i).toNat)
  case atStart => exact ⟨0, rfl, by omega, HF, rfl⟩
  case round =>
   obtain ⟨j, rfl, hj, hf, rfl⟩ := hrel;clear HF;have c1 := cell_at (v := .string ⟨t.text.toArray⟩) HT2.out 1 rfl;have hjj : j = 0 \/ j = 1 \/ j = 2 \/ j = 3 \/ j = 4 \/ j = 5 \/ j = 6 \/ j = 7 \/ j = 8 \/ j = 9 \/ j = 10 \/ j = 11 \/ j = 12 \/ j = 13 \/ j = 14 := by omega
   rcases hjj with rfl | rfl | rfl | rfl | rfl | rfl | rfl | rfl | rfl | rfl | rfl | rfl | rfl | rfl | rfl
   ·have HH : Hid (two t = if ([43] == t.text) = true then (5, 10) else twoL (twoT.drop 1) 1 t.text) := h_ hf.out;have s0 := cell_at (v := .string ⟨#[43]⟩) HS.out 0 rfl
    cases hq : ([43] == t.text)
    ·have HN : Hid (two t = twoL (twoT.drop 1) 1 t.text) := h_ (by rw [HH.out, if_neg (by rw [hq]; decide)]);go_wp2_with fail
     go_roundw
     case rel => exact ⟨1, by go_num, by omega, HN, trivial⟩
     case measure => simp [intOf]
    have HN : Hid (two t = (5, 10)) := h_ (by rw [HH.out, if_pos hq]);go_wp2_with fail
    go_ret2
    exact ⟨by rw [HN.out]; rfl, HB2.out.alloc HB2.out.size _⟩
   ·have HH : Hid (two t = if ([45] == t.text) = true then (5, 11) else twoL (twoT.drop 2) 2 t.text) := h_ hf.out;have s0 := cell_at (v := .string ⟨#[45]⟩) HS.out 1 rfl
    cases hq : ([45] == t.text)
    ·have HN : Hid (two t = twoL (twoT.drop 2) 2 t.text) := h_ (by rw [HH.out, if_neg (by rw [hq]; decide)]);go_wp2_with fail
     go_roundw
     case rel => exact ⟨2, by go_num, by omega, HN, trivial⟩
     case measure => simp [intOf]
    have HN : Hid (two t = (5, 11)) := h_ (by rw [HH.out, if_pos hq]);go_wp2_with fail
    go_ret2
    exact ⟨by rw [HN.out]; rfl, HB2.out.alloc HB2.out.size _⟩
   ·have HH : Hid (two t = if ([42] == t.text) = true then (6, 12) else twoL (twoT.drop 3) 3 t.text) := h_ hf.out;have s0 := cell_at (v := .string ⟨#[42]⟩) HS.out 2 rfl
    cases hq : ([42] == t.text)
    ·have HN : Hid (two t = twoL (twoT.drop 3) 3 t.text) := h_ (by rw [HH.out, if_neg (by rw [hq]; decide)]);go_wp2_with fail
     go_roundw
     case rel => exact ⟨3, by go_num, by omega, HN, trivial⟩
     case measure => simp [intOf]
    have HN : Hid (two t = (6, 12)) := h_ (by rw [HH.out, if_pos hq]);go_wp2_with fail
    go_ret2
    exact ⟨by rw [HN.out]; rfl, HB2.out.alloc HB2.out.size _⟩
   ·have HH : Hid (two t = if ([47] == t.text) = true then (6, 13) else twoL (twoT.drop 4) 4 t.text) := h_ hf.out;have s0 := cell_at (v := .string ⟨#[47]⟩) HS.out 3 rfl
    cases hq : ([47] == t.text)
    ·have HN : Hid (two t = twoL (twoT.drop 4) 4 t.text) := h_ (by rw [HH.out, if_neg (by rw [hq]; decide)]);go_wp2_with fail
     go_roundw
     case rel => exact ⟨4, by go_num, by omega, HN, trivial⟩
     case measure => simp [intOf]
    have HN : Hid (two t = (6, 13)) := h_ (by rw [HH.out, if_pos hq]);go_wp2_with fail
    go_ret2
    exact ⟨by rw [HN.out]; rfl, HB2.out.alloc HB2.out.size _⟩
   ·have HH : Hid (two t = if ([37] == t.text) = true then (6, 14) else twoL (twoT.drop 5) 5 t.text) := h_ hf.out;have s0 := cell_at (v := .string ⟨#[37]⟩) HS.out 4 rfl
    cases hq : ([37] == t.text)
    ·have HN : Hid (two t = twoL (twoT.drop 5) 5 t.text) := h_ (by rw [HH.out, if_neg (by rw [hq]; decide)]);go_wp2_with fail
     go_roundw
     case rel => exact ⟨5, by go_num, by omega, HN, trivial⟩
     case measure => simp [intOf]
    have HN : Hid (two t = (6, 14)) := h_ (by rw [HH.out, if_pos hq]);go_wp2_with fail
    go_ret2
    exact ⟨by rw [HN.out]; rfl, HB2.out.alloc HB2.out.size _⟩
   ·have HH : Hid (two t = if ([61] == t.text) = true then (3, 15) else twoL (twoT.drop 6) 6 t.text) := h_ hf.out;have s0 := cell_at (v := .string ⟨#[61]⟩) HS.out 5 rfl
    cases hq : ([61] == t.text)
    ·have HN : Hid (two t = twoL (twoT.drop 6) 6 t.text) := h_ (by rw [HH.out, if_neg (by rw [hq]; decide)]);go_wp2_with fail
     go_roundw
     case rel => exact ⟨6, by go_num, by omega, HN, trivial⟩
     case measure => simp [intOf]
    have HN : Hid (two t = (3, 15)) := h_ (by rw [HH.out, if_pos hq]);go_wp2_with fail
    go_ret2
    exact ⟨by rw [HN.out]; rfl, HB2.out.alloc HB2.out.size _⟩
   ·have HH : Hid (two t = if ([60, 62] == t.text) = true then (3, 16) else twoL (twoT.drop 7) 7 t.text) := h_ hf.out;have s0 := cell_at (v := .string ⟨#[60, 62]⟩) HS.out 6 rfl
    cases hq : ([60, 62] == t.text)
    ·have HN : Hid (two t = twoL (twoT.drop 7) 7 t.text) := h_ (by rw [HH.out, if_neg (by rw [hq]; decide)]);go_wp2_with fail
     go_roundw
     case rel => exact ⟨7, by go_num, by omega, HN, trivial⟩
     case measure => simp [intOf]
    have HN : Hid (two t = (3, 16)) := h_ (by rw [HH.out, if_pos hq]);go_wp2_with fail
    go_ret2
    exact ⟨by rw [HN.out]; rfl, HB2.out.alloc HB2.out.size _⟩
   ·have HH : Hid (two t = if ([60] == t.text) = true then (3, 17) else twoL (twoT.drop 8) 8 t.text) := h_ hf.out;have s0 := cell_at (v := .string ⟨#[60]⟩) HS.out 7 rfl
    cases hq : ([60] == t.text)
    ·have HN : Hid (two t = twoL (twoT.drop 8) 8 t.text) := h_ (by rw [HH.out, if_neg (by rw [hq]; decide)]);go_wp2_with fail
     go_roundw
     case rel => exact ⟨8, by go_num, by omega, HN, trivial⟩
     case measure => simp [intOf]
    have HN : Hid (two t = (3, 17)) := h_ (by rw [HH.out, if_pos hq]);go_wp2_with fail
    go_ret2
    exact ⟨by rw [HN.out]; rfl, HB2.out.alloc HB2.out.size _⟩
   ·have HH : Hid (two t = if ([60, 61] == t.text) = true then (3, 18) else twoL (twoT.drop 9) 9 t.text) := h_ hf.out;have s0 := cell_at (v := .string ⟨#[60, 61]⟩) HS.out 8 rfl
    cases hq : ([60, 61] == t.text)
    ·have HN : Hid (two t = twoL (twoT.drop 9) 9 t.text) := h_ (by rw [HH.out, if_neg (by rw [hq]; decide)]);go_wp2_with fail
     go_roundw
     case rel => exact ⟨9, by go_num, by omega, HN, trivial⟩
     case measure => simp [intOf]
    have HN : Hid (two t = (3, 18)) := h_ (by rw [HH.out, if_pos hq]);go_wp2_with fail
    go_ret2
    exact ⟨by rw [HN.out]; rfl, HB2.out.alloc HB2.out.size _⟩
   ·have HH : Hid (two t = if ([62] == t.text) = true then (3, 19) else twoL (twoT.drop 10) 10 t.text) := h_ hf.out;have s0 := cell_at (v := .string ⟨#[62]⟩) HS.out 9 rfl
    cases hq : ([62] == t.text)
    ·have HN : Hid (two t = twoL (twoT.drop 10) 10 t.text) := h_ (by rw [HH.out, if_neg (by rw [hq]; decide)]);go_wp2_with fail
     go_roundw
     case rel => exact ⟨10, by go_num, by omega, HN, trivial⟩
     case measure => simp [intOf]
    have HN : Hid (two t = (3, 19)) := h_ (by rw [HH.out, if_pos hq]);go_wp2_with fail
    go_ret2
    exact ⟨by rw [HN.out]; rfl, HB2.out.alloc HB2.out.size _⟩
   ·have HH : Hid (two t = if ([62, 61] == t.text) = true then (3, 20) else twoL (twoT.drop 11) 11 t.text) := h_ hf.out;have s0 := cell_at (v := .string ⟨#[62, 61]⟩) HS.out 10 rfl
    cases hq : ([62, 61] == t.text)
    ·have HN : Hid (two t = twoL (twoT.drop 11) 11 t.text) := h_ (by rw [HH.out, if_neg (by rw [hq]; decide)]);go_wp2_with fail
     go_roundw
     case rel => exact ⟨11, by go_num, by omega, HN, trivial⟩
     case measure => simp [intOf]
    have HN : Hid (two t = (3, 20)) := h_ (by rw [HH.out, if_pos hq]);go_wp2_with fail
    go_ret2
    exact ⟨by rw [HN.out]; rfl, HB2.out.alloc HB2.out.size _⟩
   ·have HH : Hid (two t = if ([38, 38] == t.text) = true then (2, 21) else twoL (twoT.drop 12) 12 t.text) := h_ hf.out;have s0 := cell_at (v := .string ⟨#[38, 38]⟩) HS.out 11 rfl
    cases hq : ([38, 38] == t.text)
    ·have HN : Hid (two t = twoL (twoT.drop 12) 12 t.text) := h_ (by rw [HH.out, if_neg (by rw [hq]; decide)]);go_wp2_with fail
     go_roundw
     case rel => exact ⟨12, by go_num, by omega, HN, trivial⟩
     case measure => simp [intOf]
    have HN : Hid (two t = (2, 21)) := h_ (by rw [HH.out, if_pos hq]);go_wp2_with fail
    go_ret2
    exact ⟨by rw [HN.out]; rfl, HB2.out.alloc HB2.out.size _⟩
   ·have HH : Hid (two t = if ([124, 124] == t.text) = true then (1, 22) else twoL (twoT.drop 13) 13 t.text) := h_ hf.out;have s0 := cell_at (v := .string ⟨#[124, 124]⟩) HS.out 12 rfl
    cases hq : ([124, 124] == t.text)
    ·have HN : Hid (two t = twoL (twoT.drop 13) 13 t.text) := h_ (by rw [HH.out, if_neg (by rw [hq]; decide)]);go_wp2_with fail
     go_roundw
     case rel => exact ⟨13, by go_num, by omega, HN, trivial⟩
     case measure => simp [intOf]
    have HN : Hid (two t = (1, 22)) := h_ (by rw [HH.out, if_pos hq]);go_wp2_with fail
    go_ret2
    exact ⟨by rw [HN.out]; rfl, HB2.out.alloc HB2.out.size _⟩
   ·have HH : Hid (two t = if ([58, 58] == t.text) = true then (4, 23) else twoL (twoT.drop 14) 14 t.text) := h_ hf.out;have s0 := cell_at (v := .string ⟨#[58, 58]⟩) HS.out 13 rfl
    cases hq : ([58, 58] == t.text)
    ·have HN : Hid (two t = twoL (twoT.drop 14) 14 t.text) := h_ (by rw [HH.out, if_neg (by rw [hq]; decide)]);go_wp2_with fail
     go_roundw
     case rel => exact ⟨14, by go_num, by omega, HN, trivial⟩
     case measure => simp [intOf]
    have HN : Hid (two t = (4, 23)) := h_ (by rw [HH.out, if_pos hq]);go_wp2_with fail
    go_ret2
    exact ⟨by rw [HN.out]; rfl, HB2.out.alloc HB2.out.size _⟩
   have HN : Hid (two t = (0, 0)) := h_ hf.out;go_wp2_with fail
   go_ret2
   exact ⟨by rw [HN.out]; rfl, HB2.out⟩
 have hk2' : (((t.kind : Nat) : Int) == 2) = false := by rw [beq_eq_false_iff_ne]; omega
 have HZ : Hid (two t = (0, 0)) := h_ (by unfold two; rw [if_pos hk2]);go_wp2_with fail
 go_ret2
 exact ⟨by rw [HZ.out]; rfl, HB.out⟩
def Pw (w : World) (g : Nat) : Prop := Pow w /\ 4 < g
theorem nPow : Tryz.prog.globalNamed "internal/strconv.uint64pow10" = some 4 := by kernel_rfl
theorem Pw.below {w w' : World} {g : Nat} (h : Pw w g) (hb : Below w.heap.size w w') : Pw w' g := ⟨tab_below h.1 hb, h.2⟩
theorem Pw.grown {w w' : World} {g k : Nat} (h : Pw w g) (hg : w.grownBy w' (some k)) (hk : g <= k) : Pw w' g := by
 refine ⟨?_, h.2⟩;have h1 := h.1;unfold Pow Lib.TabIs World.var? at h1 ⊢;rw [nPow] at h1 ⊢;simp only [Option.bind_some] at h1 ⊢
 have hlt : 4 < w.heap.size := by
  rcases Nat.lt_or_ge 4 w.heap.size with h' | h'
  ·exact h'
  rw [Array.getElem?_eq_none h'] at h1; simp at h1
 rw [hg.block _ hlt (fun e => by injection e with e; have := h.2; omega)];exact h1
theorem PR.phi {w : World} {g : Nat} {r : RS} (h : PR w g r) : phi r <= 300000000 := by
 obtain ⟨b, i, n, c, -, -, h3, -, -, h6, -⟩ := h;unfold YtdpfgfkoboihcaaGreatDoor.phi; split <;> omega
def st2 (w : World) (g : Nat) (v0 v1 : Value) : World := (w.setCell ⟨g, 0, none⟩ v0).setCell ⟨g, 1, none⟩ v1
theorem st2_grown (w : World) (g : Nat) (v0 v1 : Value) : w.grownBy (st2 w g v0 v1) (some g) := by unfold st2; exact grown_setCell (grown_set _ _ _ _) _
def EPost (w : World) (g : Nat) (E : RE) (r : RS) (e : Ending) (w' : World) : Prop := e = .returned (eV E) /\ Rid w g r w'
def RExprAt (n : Nat) : Prop := ∀ (g : Nat) (r : RS) (x : RE × RS) (w : World), PR w g r -> TBd r -> Pw w g -> rExpr n r = some x -> Calls Tryz.prog 56 #[.pointer (some ⟨g, 0, none⟩)] w (EPost w g x.1 x.2)
def RClimbAt (n : Nat) : Prop := ∀ (g l : Nat) (r : RS) (x : RE × RS) (w : World), 1 <= l -> l <= 7 -> PR w g r -> TBd r -> Pw w g -> rClimb n l r = some x -> Calls Tryz.prog 90 #[.pointer (some ⟨g, 0, none⟩), .int .i64 (l : Nat)] w (EPost w g x.1 x.2)
def RSingleAt (n : Nat) : Prop := ∀ (g : Nat) (r : RS) (x : RE × RS) (w : World), PR w g r -> TBd r -> Pw w g -> rSingle n r = some x -> Calls Tryz.prog 113 #[.pointer (some ⟨g, 0, none⟩)] w (EPost w g x.1 x.2)
def RAtomAt (n : Nat) : Prop := ∀ (g : Nat) (r : RS) (x : RE × RS) (w : World), PR w g r -> TBd r -> Pw w g -> rAtom n r = some x -> Calls Tryz.prog 138 #[.pointer (some ⟨g, 0, none⟩)] w (EPost w g x.1 x.2)
theorem at2_blk {w : World} {k : Nat} {ks : List RE} (h : w.heap[k]? = some (.cells (ks.flatMap eC).toArray 117 (0, 0))) : ∀ j (hj : j < ks.length), At2 w (some ⟨k, 0, none⟩) j ks[j] := by
 have key : ∀ (ks : List RE) (j : Nat) (hj : j < ks.length), (ks.flatMap eC)[j * 2]? = some (.string ⟨(ks[j]).S.toArray⟩) /\ (ks.flatMap eC)[j * 2 + 1]? = some (.int .i64 ((ks[j]).d : Nat)) := by
  intro ks
  induction ks with
  | nil => intro j hj; simp at hj
  | cons a ks ih =>
   intro j hj
   cases j with
   | zero => exact ⟨rfl, rfl⟩
   | succ j =>
    have := ih j (by simpa using hj);simp only [List.flatMap_cons, eC, List.cons_append, List.nil_append, List.getElem_cons_succ];rw [show (j + 1) * 2 = j * 2 + 1 + 1 by omega];simp only [gsc];exact this
 intro j hj;obtain ⟨h1, h2⟩ := key ks j hj;refine ⟨_, rfl, ?_, ?_, lt_of_block h⟩
 ·rw [add_lit, Nat.zero_add]; exact cell_at h _ (by rw [gsa]; exact h1)
 rw [add_lit, add_lit, Nat.zero_add]; exact cell_at h _ (by rw [gsa]; exact h2)
def unL : List (Bs × Nat) -> RS -> Option Nat
 | [], _ => none
 | (s, k) :: l, r => if r.is s then some k else unL l r
def unT : List (Bs × Nat) := [([45], 5), ([110, 111, 116], 6), ([108, 101, 110], 7), ([104, 100], 8), ([116, 108], 9)]
theorem rUn_L (r : RS) : rUn r = unL unT r := rfl
theorem single_p (n : Nat) (S : Hid (RSingleAt n)) (A : Hid (RAtomAt n)) : RSingleAt (n + 1) := by
 intro g r x w hps htb hpw hc;have hgw : g < w.heap.size := hps.lt;have HP := h_ hps;have HTD := h_ htb;have HTB := h_ hpw;have HGR := h_ (show GR r from ⟨hps.good, htb⟩);have HPH := h_ hps.phi;clear hps htb hpw;rw [rSingle] at hc;go_enter Tryz.func113, Tryz.ntmps113
 go_upto_region 1 with fail
 obtain ⟨w1, kr, hw, hkk, hb, -, HBr⟩ := newb w #[.string ⟨#[]⟩, .int .i64 0] 117;have hgr : g < kr := by rw [hkk]; exact HP.out.lt
 have her : w.heap.size <= kr := by omega
 rw [hw, <- hkk];replace HP := h_ (HP.out.below hb);replace HTB := h_ (HTB.out.below hb);have HD := h_ (below_grown hb (some g));clear hw hb hkk;go_wp2_with fail
 refine (at_p g r w1 HP.out).mono ?_;rintro e w2 ⟨rfl, hb⟩;replace HBr := kB hb HBr;replace HP := h_ (HP.out.below hb);replace HTB := h_ (HTB.out.below hb);replace HD := dB HD hb;have hsz2 := HD.out.size;clear hb;simp only [tokV];obtain ⟨t, hnx⟩ : ∃ t, t = RS.at' r := ⟨_, rfl⟩
 rw [<- hnx];have HNt := h_ hnx;clear hnx;go_upto_region 2 with fail
 obtain ⟨w3, kt, hw, hkk, hb, -, HBt⟩ := newb w2 #[.int .i64 (t.kind : Nat), .string ⟨t.text.toArray⟩, .int .i64 (t.line : Nat), .int .i64 (t.col : Nat)] 60;have hgt : g < kt := by rw [hkk]; exact HP.out.lt
 have het : w.heap.size <= kt := by omega
 have hr_t : kr < kt := by rw [hkk]; exact lt_of_block HBr.out
 rw [hw, <- hkk];replace HBr := kB hb HBr;replace HP := h_ (HP.out.below hb);replace HTB := h_ (HTB.out.below hb);replace HD := dB HD hb;have hsz3 := HD.out.size;clear hw hb hkk;go_wp2_with fail
 obtain ⟨w4, ks, hw, hkk, hb, -, HBs⟩ := newb w3 #[.string ⟨#[45]⟩, .string ⟨#[110, 111, 116]⟩, .string ⟨#[108, 101, 110]⟩, .string ⟨#[104, 100]⟩, .string ⟨#[116, 108]⟩] 9;have hgs : g < ks := by rw [hkk]; exact HP.out.lt
 have hes : w.heap.size <= ks := by omega
 have hr_s : kr < ks := by rw [hkk]; exact lt_of_block HBr.out
 have ht_s : kt < ks := by rw [hkk]; exact lt_of_block HBt.out
 rw [hw, <- hkk];replace HBr := kB hb HBr;replace HBt := kB hb HBt;replace HP := h_ (HP.out.below hb);replace HTB := h_ (HTB.out.below hb);replace HD := dB HD hb;have hsz4 := HD.out.size;clear hw hb hkk
 go_loopw [10] (fun i wr => ∃ j : Nat, i = .int .i64 (j : Nat) /\ j <= 5 /\ Hid (rUn r = unL (unT.drop j) r) /\ Hid (PR wr g r) /\ Hid (Pw wr g) /\ Hid (w.grownBy wr (some g)) /\ Hid (wr.heap[kr]? = some (.cells #[.string ⟨#[]⟩, .int .i64 0] 117 (0, 0))) /\ Hid (wr.heap[kt]? = some (.cells #[.int .i64 (t.kind : Nat), .string ⟨t.text.toArray⟩, .int .i64 (t.line : Nat), .int .i64 (t.col : Nat)] 60 (0, 0))) /\ Hid (wr.heap[ks]? = some (.cells #[.string ⟨#[45]⟩, .string ⟨#[110, 111, 116]⟩, .string ⟨#[108, 101, 110]⟩, .string ⟨#[104, 100]⟩, .string ⟨#[116, 108]⟩] 9 (0, 0)))) (fun i _ => 5 - (intOf i).toNat)
 case atStart => exact ⟨0, rfl, by omega, h_ (rUn_L r), HP, HTB, HD, HBr, HBt, HBs⟩
 case round =>
  clear HP HTB HD HBr HBt HBs;obtain ⟨j, rfl, hj, HU, HP, HTB, HD, HBr, HBt, HBs⟩ := hrel;have hszr := HD.out.size;have hjj : j = 0 \/ j = 1 \/ j = 2 \/ j = 3 \/ j = 4 \/ j = 5 := by omega
  rcases hjj with rfl | rfl | rfl | rfl | rfl | rfl
  ·have HH : Hid (rUn r = if r.is [45] then some 5 else unL (unT.drop 1) r) := h_ HU.out;obtain ⟨s0, s1, s2, s3, s4⟩ := cl5 HBs.out;go_wp2_with fail
   refine (is_p g r [45] wr HP.out).mono ?_;rintro e w5 ⟨rfl, hb⟩;clear s0 s1 s2 s3 s4;replace HBr := kB hb HBr;replace HBt := kB hb HBt;replace HBs := kB hb HBs;replace HP := h_ (HP.out.below hb);replace HTB := h_ (HTB.out.below hb);replace HD := dB HD hb;have hsz5 := HD.out.size;clear hb
   cases hi : r.is [45]
   ·have HN : Hid (rUn r = unL (unT.drop 1) r) := h_ (by rw [HH.out, hi]; rfl);go_wp2_with fail
    go_roundw
    case rel => exact ⟨1, by go_num, by omega, HN, HP, HTB, HD, HBr, HBt, HBs⟩
    case measure => simp [intOf]
   have HN : Hid (rUn r = some 5) := h_ (by rw [HH.out, hi]; rfl);have HIK := h_ (RS.is_kind hi);rw [HN.out] at hc;simp only [Option.bind_eq_some_iff] at hc;obtain ⟨x1, h1, h2⟩ := hc;injection h2 with h2;subst h2;have H1 := h_ h1;clear h1 hi;have HK4 : Hid (r.at'.kind ≠ 4) := h_ (HIK.out.1);obtain ⟨pb, pi, pn, pc, h1, h2, h3, h4, h5, h6, h7, h8, h9⟩ := HP.out;have g1 := cell_at (v := .int .i64 (pi : Nat)) h1 1 rfl;have f1 := froz_at h1 1;have hil : pi <= 30000 := by omega
   have HH := h_ (And.intro h1 (And.intro h2 (And.intro h3 (And.intro h4 (And.intro h5 (And.intro h6 (And.intro h7 (And.intro h8 h9))))))));clear h1 h2 h3 h4 h5 h6 h7 h8 h9;go_upto_region 7 with fail
   clear g1 f1;obtain ⟨h1, h2, h3, h4, h5, h6, h7, h8, h9⟩ := HH.out;have hc0 := heap_setCell_same _ g 1 _ _ (.int .i64 ((pi + 1 : Nat) : Int)) h1;obtain ⟨w6, hw⟩ : ∃ x, x = w5.setCell ⟨g, 1, none⟩ (.int .i64 ((pi + 1 : Nat) : Int)) := ⟨_, rfl⟩
   have hg : w5.grownBy w6 (some g) := by rw [hw]; exact grown_set _ _ _ _
   rw [<- hw] at hc0;have hw' : w5.setCell ⟨g, 1, none⟩ (.int .i64 ((pi : Int) + 1)) = w6 := by rw [hw]; rfl
   rw [hw'];have hp := PR.inc hg hc0 HK4.out h2 h3 h4 h5 h6 h7 h8 h9;clear hw hw' hc0 h1 h2 h3 h4 h5 h6 h7 h8 h9 HH HK4 hil;replace HBr := kG hg HBr;replace HBt := kG hg HBt;replace HBs := kG hg HBs;replace HTB := h_ (HTB.out.grown hg (by omega));replace HP := h_ hp;replace HD := dG HD hg;have hsz6 := HD.out.size;clear hp hg;have hlt_t := lt_of_block HBt.out;have hog : ∀ q, q < 1 -> (fun q => g) q < w6.heap.size := fun q _ => by show g < _; exact HP.out.lt
   refine R7.region (by kernel_rfl) [[], [0], [], [], [3], [3, 4], [0, 1, 2, 3, 4, 5], [0, 1, 2, 3, 4, 5, 6]] [] [(4, 1000)] (fun q => g) 1 6 (by kernel_rfl) (by kernel_rfl) (by rfl) hog (fun q q' h h' hn => absurd hn (by omega)) ?_;refine R7.Chain.det ?_ (by rfl) (fun T xs wr hA => ?_) ?_
   rotate_left 1
   ·have e4 := hA.pre 4 (by kernel_rfl);simp only [gsa, gsc, gsz] at e4;clear hA;refine ⟨(by rfl), ?_⟩;go_simp <;> (try with_reducible rfl)
   refine R7.Chain.det ?_ (by rfl) (fun T xs wr hA => ?_) ?_
   rotate_left 1
   ·have e25 := (hA.tm 0 25 (by rfl) (by rfl)).trans (congrArg some (hA.fa 0 (by rfl)))
    (try simp (disch := first | rfl | decide) only [R7.mask_in] at e25)
    clear hA;refine ⟨(by rfl), ?_⟩;go_simp <;> (try with_reducible rfl)
   refine R7.Chain.det ?_ (by rfl) (fun T xs wr hA => ?_) ?_
   rotate_left 1
   ·have e3 := hA.pre 3 (by kernel_rfl);simp only [gsa, gsc, gsz] at e3;have hBq : wr.heap[kt]? = _ := (hA.bl _ hlt_t (fun q _ => by show g ≠ kt; omega)).trans HBt.out;obtain ⟨q0, q1, q2, q3⟩ := cl4 hBq;clear hBq;clear hA;refine ⟨(by rfl), ?_⟩;go_simp <;> (try with_reducible rfl)
   refine R7.Chain.det ?_ (by rfl) (fun T xs wr hA => ?_) ?_
   rotate_left 1
   ·have e0 := hA.pre 0 (by kernel_rfl);simp only [gsa, gsz] at e0;clear hA;refine ⟨(by rfl), ?_⟩;go_simp <;> (try with_reducible rfl)
   refine R7.Chain.callOld 0 (fun xs v w => v = eV x1.1 /\ PR w g x1.2) (fun _ _ _ _ ⟨h1, h2⟩ hb => ⟨h1, h2.below hb⟩) (fun _ _ _ _ q' _ hq hne _ => absurd rfl hne) (by rfl) (by rfl) (by decide) (R7.own_one (by rfl)) (fun T xs wr hA hold => ?_) ?_
   ·have hsw := (hA.be 0 (Nat.zero_le _) (fun _ _ => Nat.zero_le _)).size;have e28 := (hA.tm 3 28 (by rfl) (by rfl)).trans (congrArg some (hA.fa 3 (by rfl)))
    (try simp (disch := first | rfl | decide) only [R7.mask_in] at e28)
    have h0 := undrew (hA.be 0 (Nat.zero_le _) (fun _ _ => Nat.zero_le _))
    have hbw : Below w6.heap.size w6 wr := ⟨h0.os, h0.tape, h0.output, h0.size, fun k hk => by
     by_cases e : k = g
     ·rw [e]; exact hold
     exact hA.bl k hk (fun q _ h => e h.symm)⟩
    clear hA;refine ⟨(by rfl), fun K hK => ?_⟩;go_simp
    refine (S.out g r.inc x1 wr (HP.out.below hbw) HTD.out.inc (HTB.out.below hbw) H1.out).mono ?_;rintro e w' ⟨rfl, hp, hg⟩;exact hK.out _ _ ⟨rfl, hp⟩ (R7.Priv.of hg)
   refine R7.Chain.call (fun xs v w => ∃ g, v = .slice (some ⟨g, 0, none⟩) 1 1 /\ w6.heap.size <= g /\ w.heap[g]? = some (.cells #[.string ⟨x1.1.S.toArray⟩, .int .i64 (x1.1.d : Nat)] 117 (0, 0))) (fun _ _ _ _ ⟨g, hv, hl, hg⟩ hb => ⟨g, hv, hl, by rw [hb.block g (Array.getElem?_eq_some_iff.1 hg).1]; exact hg⟩) (fun _ _ _ _ _ ⟨g, hv, hl, hg⟩ ⟨q, hq, e⟩ hp => ⟨g, hv, hl, by rw [hp.block g (Array.getElem?_eq_some_iff.1 hg).1 (fun h => by have := hog q hq; omega)]; exact hg⟩) (by rfl) (fun T xs wr hA => ?_) ?_
   ·have hsw := (hA.be 0 (Nat.zero_le _) (fun _ _ => Nat.zero_le _)).size;have e29 := hA.tm 4 29 (by rfl) (by rfl);have hF4 : xs 4 = eV x1.1 /\ PR wr g x1.2 := hA.fa 4 (by rfl);rw [hF4.1] at e29;unfold eV at e29;clear hA;refine ⟨(by rfl), fun K hK => ?_⟩;go_simp
    exact hK.out _ _ ⟨_, rfl, hsw, by simpa using made_at wr _ _ rfl⟩ ((Below.refl _ _).alloc (Nat.le_refl _) _)
   refine R7.Chain.done (fun xs w7 hL => ?_);obtain ⟨⟨hbe, hbl⟩, hf, -, -⟩ := hL;have f0 : xs 0 = _ := hf 0 (by decide);have f1 : xs 1 = _ := hf 1 (by decide);have f2 : xs 2 = _ := hf 2 (by decide);have f3 : xs 3 = _ := hf 3 (by decide);have F4 : (xs 4) = eV x1.1 /\ PR w7 g x1.2 := hf 4 (by decide);have F5 : ∃ g, (xs 5) = .slice (some ⟨g, 0, none⟩) 1 1 /\ w6.heap.size <= g /\ w7.heap[g]? = some (.cells #[.string ⟨x1.1.S.toArray⟩, .int .i64 (x1.1.d : Nat)] 117 (0, 0)) := hf 5 (by decide)
   (try simp (disch := first | rfl | decide) only [R7.mask_in] at f0 f1 f2 f3)
   have hb0 : Below 0 w6 w7 := undrew (hbe 0 (Nat.zero_le _) (fun _ _ => Nat.zero_le _));have hgr : ∀ j, j < w6.heap.size -> (∀ q, q < 1 -> (fun q => g) q ≠ j) -> w7.heap[j]? = w6.heap[j]? := hbl;clear hbe hbl hf;obtain ⟨hv4, hp⟩ := F4;obtain ⟨g5, hv5, hl5, hg5⟩ := F5;have hg : w6.grownBy w7 (some g) := ⟨hb0.os, hb0.tape, hb0.output, hb0.size, fun k hk hn => hgr k hk (fun q _ e => hn (by rw [<- e]))⟩
   refine R7.rest_list (by decide) (by kernel_rfl) ?_;simp only [R7.fill, List.take_succ_cons, List.take_zero, List.drop_succ_cons, List.drop_zero, List.setIfInBounds_toArray, List.set_cons_zero, List.set_cons_succ, f0, f1, f2, f3];simp only [hv4, hv5];clear hog hv4 hv5 hl5 hb0 hgr hlt_t f0 f1 f2 f3;replace HBr := kG hg HBr;replace HBt := kG hg HBt;replace HBs := kG hg HBs;replace HTB := h_ (HTB.out.grown hg (by omega));replace HP := h_ hp;replace HD := dG HD hg;have hsz7 := HD.out.size;have HG5 := h_ hg5;clear hp hg hg5;have hT := HTD.out.at;rw [<- HNt.out] at hT;have hnm : ([] : Bs).length <= 1000000 := by simp
   have hF := (r_len n).2.2.2.1 _ _ (HGR.out.inc HIK.out.1) H1.out;have hph := phi_inc HGR.out;have hphr := HPH.out;have hS : ([x1.1].flatMap RE.S).length <= 1000000000 := by rw [fl1]; have := hF.2.1; omega
   have hd : ∀ e ∈ [x1.1], e.d <= 1000000000 := by intro e he; simp only [List.mem_cons, List.not_mem_nil, or_false] at he; subst he; have := hF.2.1; have := hF.2.2.1; omega
   go_wp2_with fail
   refine (made_p 5 t [] (some ⟨g5, 0, none⟩) 1 [x1.1] w7 HTB.out.1 (by first | decide | omega) hT.1 hT.2.1 hnm (at2_blk (ks := [x1.1]) HG5.out) (by simp) hS hd).mono ?_;rintro e w8 ⟨rfl, hb⟩;replace HBr := kB hb HBr;replace HBt := kB hb HBt;replace HBs := kB hb HBs;replace HP := h_ (HP.out.below hb);replace HTB := h_ (HTB.out.below hb);replace HD := dB HD hb;have hsz8 := HD.out.size;clear hb;clear HG5;simp only [eV];obtain ⟨z0, z1⟩ := cl2 HBr.out;obtain ⟨fz0, fz1⟩ := fr2 HBr.out;go_wp2_with fail
   have hg := st2_grown w8 kr (.string ⟨(mk 5 t [] [x1.1]).S.toArray⟩) (.int .i64 ((mk 5 t [] [x1.1]).d : Nat));exact bodyPost_ret (v := .agg #[.string ⟨(mk 5 t [] [x1.1]).S.toArray⟩, .int .i64 ((mk 5 t [] [x1.1]).d : Nat)]) (by simp [results, Tryz.results113, go_sem, z0, z1]) rfl ⟨by rw [HNt.out]; rfl, HP.out.store (by omega) hg, grown_new HD.out hg (by omega)⟩
  ·have HH : Hid (rUn r = if r.is [110, 111, 116] then some 6 else unL (unT.drop 2) r) := h_ HU.out;obtain ⟨s0, s1, s2, s3, s4⟩ := cl5 HBs.out;go_wp2_with fail
   refine (is_p g r [110, 111, 116] wr HP.out).mono ?_;rintro e w5 ⟨rfl, hb⟩;clear s0 s1 s2 s3 s4;replace HBr := kB hb HBr;replace HBt := kB hb HBt;replace HBs := kB hb HBs;replace HP := h_ (HP.out.below hb);replace HTB := h_ (HTB.out.below hb);replace HD := dB HD hb;have hsz5 := HD.out.size;clear hb
   cases hi : r.is [110, 111, 116]
   ·have HN : Hid (rUn r = unL (unT.drop 2) r) := h_ (by rw [HH.out, hi]; rfl);go_wp2_with fail
    go_roundw
    case rel => exact ⟨2, by go_num, by omega, HN, HP, HTB, HD, HBr, HBt, HBs⟩
    case measure => simp [intOf]
   have HN : Hid (rUn r = some 6) := h_ (by rw [HH.out, hi]; rfl);have HIK := h_ (RS.is_kind hi);rw [HN.out] at hc;simp only [Option.bind_eq_some_iff] at hc;obtain ⟨x1, h1, h2⟩ := hc;injection h2 with h2;subst h2;have H1 := h_ h1;clear h1 hi;have HK4 : Hid (r.at'.kind ≠ 4) := h_ (HIK.out.1);obtain ⟨pb, pi, pn, pc, h1, h2, h3, h4, h5, h6, h7, h8, h9⟩ := HP.out;have g1 := cell_at (v := .int .i64 (pi : Nat)) h1 1 rfl;have f1 := froz_at h1 1;have hil : pi <= 30000 := by omega
   have HH := h_ (And.intro h1 (And.intro h2 (And.intro h3 (And.intro h4 (And.intro h5 (And.intro h6 (And.intro h7 (And.intro h8 h9))))))));clear h1 h2 h3 h4 h5 h6 h7 h8 h9;go_upto_region 7 with fail
   clear g1 f1;obtain ⟨h1, h2, h3, h4, h5, h6, h7, h8, h9⟩ := HH.out;have hc0 := heap_setCell_same _ g 1 _ _ (.int .i64 ((pi + 1 : Nat) : Int)) h1;obtain ⟨w6, hw⟩ : ∃ x, x = w5.setCell ⟨g, 1, none⟩ (.int .i64 ((pi + 1 : Nat) : Int)) := ⟨_, rfl⟩
   have hg : w5.grownBy w6 (some g) := by rw [hw]; exact grown_set _ _ _ _
   rw [<- hw] at hc0;have hw' : w5.setCell ⟨g, 1, none⟩ (.int .i64 ((pi : Int) + 1)) = w6 := by rw [hw]; rfl
   rw [hw'];have hp := PR.inc hg hc0 HK4.out h2 h3 h4 h5 h6 h7 h8 h9;clear hw hw' hc0 h1 h2 h3 h4 h5 h6 h7 h8 h9 HH HK4 hil;replace HBr := kG hg HBr;replace HBt := kG hg HBt;replace HBs := kG hg HBs;replace HTB := h_ (HTB.out.grown hg (by omega));replace HP := h_ hp;replace HD := dG HD hg;have hsz6 := HD.out.size;clear hp hg;have hlt_t := lt_of_block HBt.out;have hog : ∀ q, q < 1 -> (fun q => g) q < w6.heap.size := fun q _ => by show g < _; exact HP.out.lt
   refine R7.region (by kernel_rfl) [[], [0], [], [], [3], [3, 4], [0, 1, 2, 3, 4, 5], [0, 1, 2, 3, 4, 5, 6]] [] [(4, 1000)] (fun q => g) 1 6 (by kernel_rfl) (by kernel_rfl) (by rfl) hog (fun q q' h h' hn => absurd hn (by omega)) ?_;refine R7.Chain.det ?_ (by rfl) (fun T xs wr hA => ?_) ?_
   rotate_left 1
   ·have e4 := hA.pre 4 (by kernel_rfl);simp only [gsa, gsc, gsz] at e4;clear hA;refine ⟨(by rfl), ?_⟩;go_simp <;> (try with_reducible rfl)
   refine R7.Chain.det ?_ (by rfl) (fun T xs wr hA => ?_) ?_
   rotate_left 1
   ·have e25 := (hA.tm 0 25 (by rfl) (by rfl)).trans (congrArg some (hA.fa 0 (by rfl)))
    (try simp (disch := first | rfl | decide) only [R7.mask_in] at e25)
    clear hA;refine ⟨(by rfl), ?_⟩;go_simp <;> (try with_reducible rfl)
   refine R7.Chain.det ?_ (by rfl) (fun T xs wr hA => ?_) ?_
   rotate_left 1
   ·have e3 := hA.pre 3 (by kernel_rfl);simp only [gsa, gsc, gsz] at e3;have hBq : wr.heap[kt]? = _ := (hA.bl _ hlt_t (fun q _ => by show g ≠ kt; omega)).trans HBt.out;obtain ⟨q0, q1, q2, q3⟩ := cl4 hBq;clear hBq;clear hA;refine ⟨(by rfl), ?_⟩;go_simp <;> (try with_reducible rfl)
   refine R7.Chain.det ?_ (by rfl) (fun T xs wr hA => ?_) ?_
   rotate_left 1
   ·have e0 := hA.pre 0 (by kernel_rfl);simp only [gsa, gsz] at e0;clear hA;refine ⟨(by rfl), ?_⟩;go_simp <;> (try with_reducible rfl)
   refine R7.Chain.callOld 0 (fun xs v w => v = eV x1.1 /\ PR w g x1.2) (fun _ _ _ _ ⟨h1, h2⟩ hb => ⟨h1, h2.below hb⟩) (fun _ _ _ _ q' _ hq hne _ => absurd rfl hne) (by rfl) (by rfl) (by decide) (R7.own_one (by rfl)) (fun T xs wr hA hold => ?_) ?_
   ·have hsw := (hA.be 0 (Nat.zero_le _) (fun _ _ => Nat.zero_le _)).size;have e28 := (hA.tm 3 28 (by rfl) (by rfl)).trans (congrArg some (hA.fa 3 (by rfl)))
    (try simp (disch := first | rfl | decide) only [R7.mask_in] at e28)
    have h0 := undrew (hA.be 0 (Nat.zero_le _) (fun _ _ => Nat.zero_le _))
    have hbw : Below w6.heap.size w6 wr := ⟨h0.os, h0.tape, h0.output, h0.size, fun k hk => by
     by_cases e : k = g
     ·rw [e]; exact hold
     exact hA.bl k hk (fun q _ h => e h.symm)⟩
    clear hA;refine ⟨(by rfl), fun K hK => ?_⟩;go_simp
    refine (S.out g r.inc x1 wr (HP.out.below hbw) HTD.out.inc (HTB.out.below hbw) H1.out).mono ?_;rintro e w' ⟨rfl, hp, hg⟩;exact hK.out _ _ ⟨rfl, hp⟩ (R7.Priv.of hg)
   refine R7.Chain.call (fun xs v w => ∃ g, v = .slice (some ⟨g, 0, none⟩) 1 1 /\ w6.heap.size <= g /\ w.heap[g]? = some (.cells #[.string ⟨x1.1.S.toArray⟩, .int .i64 (x1.1.d : Nat)] 117 (0, 0))) (fun _ _ _ _ ⟨g, hv, hl, hg⟩ hb => ⟨g, hv, hl, by rw [hb.block g (Array.getElem?_eq_some_iff.1 hg).1]; exact hg⟩) (fun _ _ _ _ _ ⟨g, hv, hl, hg⟩ ⟨q, hq, e⟩ hp => ⟨g, hv, hl, by rw [hp.block g (Array.getElem?_eq_some_iff.1 hg).1 (fun h => by have := hog q hq; omega)]; exact hg⟩) (by rfl) (fun T xs wr hA => ?_) ?_
   ·have hsw := (hA.be 0 (Nat.zero_le _) (fun _ _ => Nat.zero_le _)).size;have e29 := hA.tm 4 29 (by rfl) (by rfl);have hF4 : xs 4 = eV x1.1 /\ PR wr g x1.2 := hA.fa 4 (by rfl);rw [hF4.1] at e29;unfold eV at e29;clear hA;refine ⟨(by rfl), fun K hK => ?_⟩;go_simp
    exact hK.out _ _ ⟨_, rfl, hsw, by simpa using made_at wr _ _ rfl⟩ ((Below.refl _ _).alloc (Nat.le_refl _) _)
   refine R7.Chain.done (fun xs w7 hL => ?_);obtain ⟨⟨hbe, hbl⟩, hf, -, -⟩ := hL;have f0 : xs 0 = _ := hf 0 (by decide);have f1 : xs 1 = _ := hf 1 (by decide);have f2 : xs 2 = _ := hf 2 (by decide);have f3 : xs 3 = _ := hf 3 (by decide);have F4 : (xs 4) = eV x1.1 /\ PR w7 g x1.2 := hf 4 (by decide);have F5 : ∃ g, (xs 5) = .slice (some ⟨g, 0, none⟩) 1 1 /\ w6.heap.size <= g /\ w7.heap[g]? = some (.cells #[.string ⟨x1.1.S.toArray⟩, .int .i64 (x1.1.d : Nat)] 117 (0, 0)) := hf 5 (by decide)
   (try simp (disch := first | rfl | decide) only [R7.mask_in] at f0 f1 f2 f3)
   have hb0 : Below 0 w6 w7 := undrew (hbe 0 (Nat.zero_le _) (fun _ _ => Nat.zero_le _));have hgr : ∀ j, j < w6.heap.size -> (∀ q, q < 1 -> (fun q => g) q ≠ j) -> w7.heap[j]? = w6.heap[j]? := hbl;clear hbe hbl hf;obtain ⟨hv4, hp⟩ := F4;obtain ⟨g5, hv5, hl5, hg5⟩ := F5;have hg : w6.grownBy w7 (some g) := ⟨hb0.os, hb0.tape, hb0.output, hb0.size, fun k hk hn => hgr k hk (fun q _ e => hn (by rw [<- e]))⟩
   refine R7.rest_list (by decide) (by kernel_rfl) ?_;simp only [R7.fill, List.take_succ_cons, List.take_zero, List.drop_succ_cons, List.drop_zero, List.setIfInBounds_toArray, List.set_cons_zero, List.set_cons_succ, f0, f1, f2, f3];simp only [hv4, hv5];clear hog hv4 hv5 hl5 hb0 hgr hlt_t f0 f1 f2 f3;replace HBr := kG hg HBr;replace HBt := kG hg HBt;replace HBs := kG hg HBs;replace HTB := h_ (HTB.out.grown hg (by omega));replace HP := h_ hp;replace HD := dG HD hg;have hsz7 := HD.out.size;have HG5 := h_ hg5;clear hp hg hg5;have hT := HTD.out.at;rw [<- HNt.out] at hT;have hnm : ([] : Bs).length <= 1000000 := by simp
   have hF := (r_len n).2.2.2.1 _ _ (HGR.out.inc HIK.out.1) H1.out;have hph := phi_inc HGR.out;have hphr := HPH.out;have hS : ([x1.1].flatMap RE.S).length <= 1000000000 := by rw [fl1]; have := hF.2.1; omega
   have hd : ∀ e ∈ [x1.1], e.d <= 1000000000 := by intro e he; simp only [List.mem_cons, List.not_mem_nil, or_false] at he; subst he; have := hF.2.1; have := hF.2.2.1; omega
   go_wp2_with fail
   refine (made_p 6 t [] (some ⟨g5, 0, none⟩) 1 [x1.1] w7 HTB.out.1 (by first | decide | omega) hT.1 hT.2.1 hnm (at2_blk (ks := [x1.1]) HG5.out) (by simp) hS hd).mono ?_;rintro e w8 ⟨rfl, hb⟩;replace HBr := kB hb HBr;replace HBt := kB hb HBt;replace HBs := kB hb HBs;replace HP := h_ (HP.out.below hb);replace HTB := h_ (HTB.out.below hb);replace HD := dB HD hb;have hsz8 := HD.out.size;clear hb;clear HG5;simp only [eV];obtain ⟨z0, z1⟩ := cl2 HBr.out;obtain ⟨fz0, fz1⟩ := fr2 HBr.out;go_wp2_with fail
   have hg := st2_grown w8 kr (.string ⟨(mk 6 t [] [x1.1]).S.toArray⟩) (.int .i64 ((mk 6 t [] [x1.1]).d : Nat));exact bodyPost_ret (v := .agg #[.string ⟨(mk 6 t [] [x1.1]).S.toArray⟩, .int .i64 ((mk 6 t [] [x1.1]).d : Nat)]) (by simp [results, Tryz.results113, go_sem, z0, z1]) rfl ⟨by rw [HNt.out]; rfl, HP.out.store (by omega) hg, grown_new HD.out hg (by omega)⟩
  ·have HH : Hid (rUn r = if r.is [108, 101, 110] then some 7 else unL (unT.drop 3) r) := h_ HU.out;obtain ⟨s0, s1, s2, s3, s4⟩ := cl5 HBs.out;go_wp2_with fail
   refine (is_p g r [108, 101, 110] wr HP.out).mono ?_;rintro e w5 ⟨rfl, hb⟩;clear s0 s1 s2 s3 s4;replace HBr := kB hb HBr;replace HBt := kB hb HBt;replace HBs := kB hb HBs;replace HP := h_ (HP.out.below hb);replace HTB := h_ (HTB.out.below hb);replace HD := dB HD hb;have hsz5 := HD.out.size;clear hb
   cases hi : r.is [108, 101, 110]
   ·have HN : Hid (rUn r = unL (unT.drop 3) r) := h_ (by rw [HH.out, hi]; rfl);go_wp2_with fail
    go_roundw
    case rel => exact ⟨3, by go_num, by omega, HN, HP, HTB, HD, HBr, HBt, HBs⟩
    case measure => simp [intOf]
   have HN : Hid (rUn r = some 7) := h_ (by rw [HH.out, hi]; rfl);have HIK := h_ (RS.is_kind hi);rw [HN.out] at hc;simp only [Option.bind_eq_some_iff] at hc;obtain ⟨x1, h1, h2⟩ := hc;injection h2 with h2;subst h2;have H1 := h_ h1;clear h1 hi;have HK4 : Hid (r.at'.kind ≠ 4) := h_ (HIK.out.1);obtain ⟨pb, pi, pn, pc, h1, h2, h3, h4, h5, h6, h7, h8, h9⟩ := HP.out;have g1 := cell_at (v := .int .i64 (pi : Nat)) h1 1 rfl;have f1 := froz_at h1 1;have hil : pi <= 30000 := by omega
   have HH := h_ (And.intro h1 (And.intro h2 (And.intro h3 (And.intro h4 (And.intro h5 (And.intro h6 (And.intro h7 (And.intro h8 h9))))))));clear h1 h2 h3 h4 h5 h6 h7 h8 h9;go_upto_region 7 with fail
   clear g1 f1;obtain ⟨h1, h2, h3, h4, h5, h6, h7, h8, h9⟩ := HH.out;have hc0 := heap_setCell_same _ g 1 _ _ (.int .i64 ((pi + 1 : Nat) : Int)) h1;obtain ⟨w6, hw⟩ : ∃ x, x = w5.setCell ⟨g, 1, none⟩ (.int .i64 ((pi + 1 : Nat) : Int)) := ⟨_, rfl⟩
   have hg : w5.grownBy w6 (some g) := by rw [hw]; exact grown_set _ _ _ _
   rw [<- hw] at hc0;have hw' : w5.setCell ⟨g, 1, none⟩ (.int .i64 ((pi : Int) + 1)) = w6 := by rw [hw]; rfl
   rw [hw'];have hp := PR.inc hg hc0 HK4.out h2 h3 h4 h5 h6 h7 h8 h9;clear hw hw' hc0 h1 h2 h3 h4 h5 h6 h7 h8 h9 HH HK4 hil;replace HBr := kG hg HBr;replace HBt := kG hg HBt;replace HBs := kG hg HBs;replace HTB := h_ (HTB.out.grown hg (by omega));replace HP := h_ hp;replace HD := dG HD hg;have hsz6 := HD.out.size;clear hp hg;have hlt_t := lt_of_block HBt.out;have hog : ∀ q, q < 1 -> (fun q => g) q < w6.heap.size := fun q _ => by show g < _; exact HP.out.lt
   refine R7.region (by kernel_rfl) [[], [0], [], [], [3], [3, 4], [0, 1, 2, 3, 4, 5], [0, 1, 2, 3, 4, 5, 6]] [] [(4, 1000)] (fun q => g) 1 6 (by kernel_rfl) (by kernel_rfl) (by rfl) hog (fun q q' h h' hn => absurd hn (by omega)) ?_;refine R7.Chain.det ?_ (by rfl) (fun T xs wr hA => ?_) ?_
   rotate_left 1
   ·have e4 := hA.pre 4 (by kernel_rfl);simp only [gsa, gsc, gsz] at e4;clear hA;refine ⟨(by rfl), ?_⟩;go_simp <;> (try with_reducible rfl)
   refine R7.Chain.det ?_ (by rfl) (fun T xs wr hA => ?_) ?_
   rotate_left 1
   ·have e25 := (hA.tm 0 25 (by rfl) (by rfl)).trans (congrArg some (hA.fa 0 (by rfl)))
    (try simp (disch := first | rfl | decide) only [R7.mask_in] at e25)
    clear hA;refine ⟨(by rfl), ?_⟩;go_simp <;> (try with_reducible rfl)
   refine R7.Chain.det ?_ (by rfl) (fun T xs wr hA => ?_) ?_
   rotate_left 1
   ·have e3 := hA.pre 3 (by kernel_rfl);simp only [gsa, gsc, gsz] at e3;have hBq : wr.heap[kt]? = _ := (hA.bl _ hlt_t (fun q _ => by show g ≠ kt; omega)).trans HBt.out;obtain ⟨q0, q1, q2, q3⟩ := cl4 hBq;clear hBq;clear hA;refine ⟨(by rfl), ?_⟩;go_simp <;> (try with_reducible rfl)
   refine R7.Chain.det ?_ (by rfl) (fun T xs wr hA => ?_) ?_
   rotate_left 1
   ·have e0 := hA.pre 0 (by kernel_rfl);simp only [gsa, gsz] at e0;clear hA;refine ⟨(by rfl), ?_⟩;go_simp <;> (try with_reducible rfl)
   refine R7.Chain.callOld 0 (fun xs v w => v = eV x1.1 /\ PR w g x1.2) (fun _ _ _ _ ⟨h1, h2⟩ hb => ⟨h1, h2.below hb⟩) (fun _ _ _ _ q' _ hq hne _ => absurd rfl hne) (by rfl) (by rfl) (by decide) (R7.own_one (by rfl)) (fun T xs wr hA hold => ?_) ?_
   ·have hsw := (hA.be 0 (Nat.zero_le _) (fun _ _ => Nat.zero_le _)).size;have e28 := (hA.tm 3 28 (by rfl) (by rfl)).trans (congrArg some (hA.fa 3 (by rfl)))
    (try simp (disch := first | rfl | decide) only [R7.mask_in] at e28)
    have h0 := undrew (hA.be 0 (Nat.zero_le _) (fun _ _ => Nat.zero_le _))
    have hbw : Below w6.heap.size w6 wr := ⟨h0.os, h0.tape, h0.output, h0.size, fun k hk => by
     by_cases e : k = g
     ·rw [e]; exact hold
     exact hA.bl k hk (fun q _ h => e h.symm)⟩
    clear hA;refine ⟨(by rfl), fun K hK => ?_⟩;go_simp
    refine (S.out g r.inc x1 wr (HP.out.below hbw) HTD.out.inc (HTB.out.below hbw) H1.out).mono ?_;rintro e w' ⟨rfl, hp, hg⟩;exact hK.out _ _ ⟨rfl, hp⟩ (R7.Priv.of hg)
   refine R7.Chain.call (fun xs v w => ∃ g, v = .slice (some ⟨g, 0, none⟩) 1 1 /\ w6.heap.size <= g /\ w.heap[g]? = some (.cells #[.string ⟨x1.1.S.toArray⟩, .int .i64 (x1.1.d : Nat)] 117 (0, 0))) (fun _ _ _ _ ⟨g, hv, hl, hg⟩ hb => ⟨g, hv, hl, by rw [hb.block g (Array.getElem?_eq_some_iff.1 hg).1]; exact hg⟩) (fun _ _ _ _ _ ⟨g, hv, hl, hg⟩ ⟨q, hq, e⟩ hp => ⟨g, hv, hl, by rw [hp.block g (Array.getElem?_eq_some_iff.1 hg).1 (fun h => by have := hog q hq; omega)]; exact hg⟩) (by rfl) (fun T xs wr hA => ?_) ?_
   ·have hsw := (hA.be 0 (Nat.zero_le _) (fun _ _ => Nat.zero_le _)).size;have e29 := hA.tm 4 29 (by rfl) (by rfl);have hF4 : xs 4 = eV x1.1 /\ PR wr g x1.2 := hA.fa 4 (by rfl);rw [hF4.1] at e29;unfold eV at e29;clear hA;refine ⟨(by rfl), fun K hK => ?_⟩;go_simp
    exact hK.out _ _ ⟨_, rfl, hsw, by simpa using made_at wr _ _ rfl⟩ ((Below.refl _ _).alloc (Nat.le_refl _) _)
   refine R7.Chain.done (fun xs w7 hL => ?_);obtain ⟨⟨hbe, hbl⟩, hf, -, -⟩ := hL;have f0 : xs 0 = _ := hf 0 (by decide);have f1 : xs 1 = _ := hf 1 (by decide);have f2 : xs 2 = _ := hf 2 (by decide);have f3 : xs 3 = _ := hf 3 (by decide);have F4 : (xs 4) = eV x1.1 /\ PR w7 g x1.2 := hf 4 (by decide);have F5 : ∃ g, (xs 5) = .slice (some ⟨g, 0, none⟩) 1 1 /\ w6.heap.size <= g /\ w7.heap[g]? = some (.cells #[.string ⟨x1.1.S.toArray⟩, .int .i64 (x1.1.d : Nat)] 117 (0, 0)) := hf 5 (by decide)
   (try simp (disch := first | rfl | decide) only [R7.mask_in] at f0 f1 f2 f3)
   have hb0 : Below 0 w6 w7 := undrew (hbe 0 (Nat.zero_le _) (fun _ _ => Nat.zero_le _));have hgr : ∀ j, j < w6.heap.size -> (∀ q, q < 1 -> (fun q => g) q ≠ j) -> w7.heap[j]? = w6.heap[j]? := hbl;clear hbe hbl hf;obtain ⟨hv4, hp⟩ := F4;obtain ⟨g5, hv5, hl5, hg5⟩ := F5;have hg : w6.grownBy w7 (some g) := ⟨hb0.os, hb0.tape, hb0.output, hb0.size, fun k hk hn => hgr k hk (fun q _ e => hn (by rw [<- e]))⟩
   refine R7.rest_list (by decide) (by kernel_rfl) ?_;simp only [R7.fill, List.take_succ_cons, List.take_zero, List.drop_succ_cons, List.drop_zero, List.setIfInBounds_toArray, List.set_cons_zero, List.set_cons_succ, f0, f1, f2, f3];simp only [hv4, hv5];clear hog hv4 hv5 hl5 hb0 hgr hlt_t f0 f1 f2 f3;replace HBr := kG hg HBr;replace HBt := kG hg HBt;replace HBs := kG hg HBs;replace HTB := h_ (HTB.out.grown hg (by omega));replace HP := h_ hp;replace HD := dG HD hg;have hsz7 := HD.out.size;have HG5 := h_ hg5;clear hp hg hg5;have hT := HTD.out.at;rw [<- HNt.out] at hT;have hnm : ([] : Bs).length <= 1000000 := by simp
   have hF := (r_len n).2.2.2.1 _ _ (HGR.out.inc HIK.out.1) H1.out;have hph := phi_inc HGR.out;have hphr := HPH.out;have hS : ([x1.1].flatMap RE.S).length <= 1000000000 := by rw [fl1]; have := hF.2.1; omega
   have hd : ∀ e ∈ [x1.1], e.d <= 1000000000 := by intro e he; simp only [List.mem_cons, List.not_mem_nil, or_false] at he; subst he; have := hF.2.1; have := hF.2.2.1; omega
   go_wp2_with fail
   refine (made_p 7 t [] (some ⟨g5, 0, none⟩) 1 [x1.1] w7 HTB.out.1 (by first | decide | omega) hT.1 hT.2.1 hnm (at2_blk (ks := [x1.1]) HG5.out) (by simp) hS hd).mono ?_;rintro e w8 ⟨rfl, hb⟩;replace HBr := kB hb HBr;replace HBt := kB hb HBt;replace HBs := kB hb HBs;replace HP := h_ (HP.out.below hb);replace HTB := h_ (HTB.out.below hb);replace HD := dB HD hb;have hsz8 := HD.out.size;clear hb;clear HG5;simp only [eV];obtain ⟨z0, z1⟩ := cl2 HBr.out;obtain ⟨fz0, fz1⟩ := fr2 HBr.out;go_wp2_with fail
   have hg := st2_grown w8 kr (.string ⟨(mk 7 t [] [x1.1]).S.toArray⟩) (.int .i64 ((mk 7 t [] [x1.1]).d : Nat));exact bodyPost_ret (v := .agg #[.string ⟨(mk 7 t [] [x1.1]).S.toArray⟩, .int .i64 ((mk 7 t [] [x1.1]).d : Nat)]) (by simp [results, Tryz.results113, go_sem, z0, z1]) rfl ⟨by rw [HNt.out]; rfl, HP.out.store (by omega) hg, grown_new HD.out hg (by omega)⟩
  ·have HH : Hid (rUn r = if r.is [104, 100] then some 8 else unL (unT.drop 4) r) := h_ HU.out;obtain ⟨s0, s1, s2, s3, s4⟩ := cl5 HBs.out;go_wp2_with fail
   refine (is_p g r [104, 100] wr HP.out).mono ?_;rintro e w5 ⟨rfl, hb⟩;clear s0 s1 s2 s3 s4;replace HBr := kB hb HBr;replace HBt := kB hb HBt;replace HBs := kB hb HBs;replace HP := h_ (HP.out.below hb);replace HTB := h_ (HTB.out.below hb);replace HD := dB HD hb;have hsz5 := HD.out.size;clear hb
   cases hi : r.is [104, 100]
   ·have HN : Hid (rUn r = unL (unT.drop 4) r) := h_ (by rw [HH.out, hi]; rfl);go_wp2_with fail
    go_roundw
    case rel => exact ⟨4, by go_num, by omega, HN, HP, HTB, HD, HBr, HBt, HBs⟩
    case measure => simp [intOf]
   have HN : Hid (rUn r = some 8) := h_ (by rw [HH.out, hi]; rfl);have HIK := h_ (RS.is_kind hi);rw [HN.out] at hc;simp only [Option.bind_eq_some_iff] at hc;obtain ⟨x1, h1, h2⟩ := hc;injection h2 with h2;subst h2;have H1 := h_ h1;clear h1 hi;have HK4 : Hid (r.at'.kind ≠ 4) := h_ (HIK.out.1);obtain ⟨pb, pi, pn, pc, h1, h2, h3, h4, h5, h6, h7, h8, h9⟩ := HP.out;have g1 := cell_at (v := .int .i64 (pi : Nat)) h1 1 rfl;have f1 := froz_at h1 1;have hil : pi <= 30000 := by omega
   have HH := h_ (And.intro h1 (And.intro h2 (And.intro h3 (And.intro h4 (And.intro h5 (And.intro h6 (And.intro h7 (And.intro h8 h9))))))));clear h1 h2 h3 h4 h5 h6 h7 h8 h9;go_upto_region 7 with fail
   clear g1 f1;obtain ⟨h1, h2, h3, h4, h5, h6, h7, h8, h9⟩ := HH.out;have hc0 := heap_setCell_same _ g 1 _ _ (.int .i64 ((pi + 1 : Nat) : Int)) h1;obtain ⟨w6, hw⟩ : ∃ x, x = w5.setCell ⟨g, 1, none⟩ (.int .i64 ((pi + 1 : Nat) : Int)) := ⟨_, rfl⟩
   have hg : w5.grownBy w6 (some g) := by rw [hw]; exact grown_set _ _ _ _
   rw [<- hw] at hc0;have hw' : w5.setCell ⟨g, 1, none⟩ (.int .i64 ((pi : Int) + 1)) = w6 := by rw [hw]; rfl
   rw [hw'];have hp := PR.inc hg hc0 HK4.out h2 h3 h4 h5 h6 h7 h8 h9;clear hw hw' hc0 h1 h2 h3 h4 h5 h6 h7 h8 h9 HH HK4 hil;replace HBr := kG hg HBr;replace HBt := kG hg HBt;replace HBs := kG hg HBs;replace HTB := h_ (HTB.out.grown hg (by omega));replace HP := h_ hp;replace HD := dG HD hg;have hsz6 := HD.out.size;clear hp hg;have hlt_t := lt_of_block HBt.out;have hog : ∀ q, q < 1 -> (fun q => g) q < w6.heap.size := fun q _ => by show g < _; exact HP.out.lt
   refine R7.region (by kernel_rfl) [[], [0], [], [], [3], [3, 4], [0, 1, 2, 3, 4, 5], [0, 1, 2, 3, 4, 5, 6]] [] [(4, 1000)] (fun q => g) 1 6 (by kernel_rfl) (by kernel_rfl) (by rfl) hog (fun q q' h h' hn => absurd hn (by omega)) ?_;refine R7.Chain.det ?_ (by rfl) (fun T xs wr hA => ?_) ?_
   rotate_left 1
   ·have e4 := hA.pre 4 (by kernel_rfl);simp only [gsa, gsc, gsz] at e4;clear hA;refine ⟨(by rfl), ?_⟩;go_simp <;> (try with_reducible rfl)
   refine R7.Chain.det ?_ (by rfl) (fun T xs wr hA => ?_) ?_
   rotate_left 1
   ·have e25 := (hA.tm 0 25 (by rfl) (by rfl)).trans (congrArg some (hA.fa 0 (by rfl)))
    (try simp (disch := first | rfl | decide) only [R7.mask_in] at e25)
    clear hA;refine ⟨(by rfl), ?_⟩;go_simp <;> (try with_reducible rfl)
   refine R7.Chain.det ?_ (by rfl) (fun T xs wr hA => ?_) ?_
   rotate_left 1
   ·have e3 := hA.pre 3 (by kernel_rfl);simp only [gsa, gsc, gsz] at e3;have hBq : wr.heap[kt]? = _ := (hA.bl _ hlt_t (fun q _ => by show g ≠ kt; omega)).trans HBt.out;obtain ⟨q0, q1, q2, q3⟩ := cl4 hBq;clear hBq;clear hA;refine ⟨(by rfl), ?_⟩;go_simp <;> (try with_reducible rfl)
   refine R7.Chain.det ?_ (by rfl) (fun T xs wr hA => ?_) ?_
   rotate_left 1
   ·have e0 := hA.pre 0 (by kernel_rfl);simp only [gsa, gsz] at e0;clear hA;refine ⟨(by rfl), ?_⟩;go_simp <;> (try with_reducible rfl)
   refine R7.Chain.callOld 0 (fun xs v w => v = eV x1.1 /\ PR w g x1.2) (fun _ _ _ _ ⟨h1, h2⟩ hb => ⟨h1, h2.below hb⟩) (fun _ _ _ _ q' _ hq hne _ => absurd rfl hne) (by rfl) (by rfl) (by decide) (R7.own_one (by rfl)) (fun T xs wr hA hold => ?_) ?_
   ·have hsw := (hA.be 0 (Nat.zero_le _) (fun _ _ => Nat.zero_le _)).size;have e28 := (hA.tm 3 28 (by rfl) (by rfl)).trans (congrArg some (hA.fa 3 (by rfl)))
    (try simp (disch := first | rfl | decide) only [R7.mask_in] at e28)
    have h0 := undrew (hA.be 0 (Nat.zero_le _) (fun _ _ => Nat.zero_le _))
    have hbw : Below w6.heap.size w6 wr := ⟨h0.os, h0.tape, h0.output, h0.size, fun k hk => by
     by_cases e : k = g
     ·rw [e]; exact hold
     exact hA.bl k hk (fun q _ h => e h.symm)⟩
    clear hA;refine ⟨(by rfl), fun K hK => ?_⟩;go_simp
    refine (S.out g r.inc x1 wr (HP.out.below hbw) HTD.out.inc (HTB.out.below hbw) H1.out).mono ?_;rintro e w' ⟨rfl, hp, hg⟩;exact hK.out _ _ ⟨rfl, hp⟩ (R7.Priv.of hg)
   refine R7.Chain.call (fun xs v w => ∃ g, v = .slice (some ⟨g, 0, none⟩) 1 1 /\ w6.heap.size <= g /\ w.heap[g]? = some (.cells #[.string ⟨x1.1.S.toArray⟩, .int .i64 (x1.1.d : Nat)] 117 (0, 0))) (fun _ _ _ _ ⟨g, hv, hl, hg⟩ hb => ⟨g, hv, hl, by rw [hb.block g (Array.getElem?_eq_some_iff.1 hg).1]; exact hg⟩) (fun _ _ _ _ _ ⟨g, hv, hl, hg⟩ ⟨q, hq, e⟩ hp => ⟨g, hv, hl, by rw [hp.block g (Array.getElem?_eq_some_iff.1 hg).1 (fun h => by have := hog q hq; omega)]; exact hg⟩) (by rfl) (fun T xs wr hA => ?_) ?_
   ·have hsw := (hA.be 0 (Nat.zero_le _) (fun _ _ => Nat.zero_le _)).size;have e29 := hA.tm 4 29 (by rfl) (by rfl);have hF4 : xs 4 = eV x1.1 /\ PR wr g x1.2 := hA.fa 4 (by rfl);rw [hF4.1] at e29;unfold eV at e29;clear hA;refine ⟨(by rfl), fun K hK => ?_⟩;go_simp
    exact hK.out _ _ ⟨_, rfl, hsw, by simpa using made_at wr _ _ rfl⟩ ((Below.refl _ _).alloc (Nat.le_refl _) _)
   refine R7.Chain.done (fun xs w7 hL => ?_);obtain ⟨⟨hbe, hbl⟩, hf, -, -⟩ := hL;have f0 : xs 0 = _ := hf 0 (by decide);have f1 : xs 1 = _ := hf 1 (by decide);have f2 : xs 2 = _ := hf 2 (by decide);have f3 : xs 3 = _ := hf 3 (by decide);have F4 : (xs 4) = eV x1.1 /\ PR w7 g x1.2 := hf 4 (by decide);have F5 : ∃ g, (xs 5) = .slice (some ⟨g, 0, none⟩) 1 1 /\ w6.heap.size <= g /\ w7.heap[g]? = some (.cells #[.string ⟨x1.1.S.toArray⟩, .int .i64 (x1.1.d : Nat)] 117 (0, 0)) := hf 5 (by decide)
   (try simp (disch := first | rfl | decide) only [R7.mask_in] at f0 f1 f2 f3)
   have hb0 : Below 0 w6 w7 := undrew (hbe 0 (Nat.zero_le _) (fun _ _ => Nat.zero_le _));have hgr : ∀ j, j < w6.heap.size -> (∀ q, q < 1 -> (fun q => g) q ≠ j) -> w7.heap[j]? = w6.heap[j]? := hbl;clear hbe hbl hf;obtain ⟨hv4, hp⟩ := F4;obtain ⟨g5, hv5, hl5, hg5⟩ := F5;have hg : w6.grownBy w7 (some g) := ⟨hb0.os, hb0.tape, hb0.output, hb0.size, fun k hk hn => hgr k hk (fun q _ e => hn (by rw [<- e]))⟩
   refine R7.rest_list (by decide) (by kernel_rfl) ?_;simp only [R7.fill, List.take_succ_cons, List.take_zero, List.drop_succ_cons, List.drop_zero, List.setIfInBounds_toArray, List.set_cons_zero, List.set_cons_succ, f0, f1, f2, f3];simp only [hv4, hv5];clear hog hv4 hv5 hl5 hb0 hgr hlt_t f0 f1 f2 f3;replace HBr := kG hg HBr;replace HBt := kG hg HBt;replace HBs := kG hg HBs;replace HTB := h_ (HTB.out.grown hg (by omega));replace HP := h_ hp;replace HD := dG HD hg;have hsz7 := HD.out.size;have HG5 := h_ hg5;clear hp hg hg5;have hT := HTD.out.at;rw [<- HNt.out] at hT;have hnm : ([] : Bs).length <= 1000000 := by simp
   have hF := (r_len n).2.2.2.1 _ _ (HGR.out.inc HIK.out.1) H1.out;have hph := phi_inc HGR.out;have hphr := HPH.out;have hS : ([x1.1].flatMap RE.S).length <= 1000000000 := by rw [fl1]; have := hF.2.1; omega
   have hd : ∀ e ∈ [x1.1], e.d <= 1000000000 := by intro e he; simp only [List.mem_cons, List.not_mem_nil, or_false] at he; subst he; have := hF.2.1; have := hF.2.2.1; omega
   go_wp2_with fail
   refine (made_p 8 t [] (some ⟨g5, 0, none⟩) 1 [x1.1] w7 HTB.out.1 (by first | decide | omega) hT.1 hT.2.1 hnm (at2_blk (ks := [x1.1]) HG5.out) (by simp) hS hd).mono ?_;rintro e w8 ⟨rfl, hb⟩;replace HBr := kB hb HBr;replace HBt := kB hb HBt;replace HBs := kB hb HBs;replace HP := h_ (HP.out.below hb);replace HTB := h_ (HTB.out.below hb);replace HD := dB HD hb;have hsz8 := HD.out.size;clear hb;clear HG5;simp only [eV];obtain ⟨z0, z1⟩ := cl2 HBr.out;obtain ⟨fz0, fz1⟩ := fr2 HBr.out;go_wp2_with fail
   have hg := st2_grown w8 kr (.string ⟨(mk 8 t [] [x1.1]).S.toArray⟩) (.int .i64 ((mk 8 t [] [x1.1]).d : Nat));exact bodyPost_ret (v := .agg #[.string ⟨(mk 8 t [] [x1.1]).S.toArray⟩, .int .i64 ((mk 8 t [] [x1.1]).d : Nat)]) (by simp [results, Tryz.results113, go_sem, z0, z1]) rfl ⟨by rw [HNt.out]; rfl, HP.out.store (by omega) hg, grown_new HD.out hg (by omega)⟩
  ·have HH : Hid (rUn r = if r.is [116, 108] then some 9 else unL (unT.drop 5) r) := h_ HU.out;obtain ⟨s0, s1, s2, s3, s4⟩ := cl5 HBs.out;go_wp2_with fail
   refine (is_p g r [116, 108] wr HP.out).mono ?_;rintro e w5 ⟨rfl, hb⟩;clear s0 s1 s2 s3 s4;replace HBr := kB hb HBr;replace HBt := kB hb HBt;replace HBs := kB hb HBs;replace HP := h_ (HP.out.below hb);replace HTB := h_ (HTB.out.below hb);replace HD := dB HD hb;have hsz5 := HD.out.size;clear hb
   cases hi : r.is [116, 108]
   ·have HN : Hid (rUn r = unL (unT.drop 5) r) := h_ (by rw [HH.out, hi]; rfl);go_wp2_with fail
    go_roundw
    case rel => exact ⟨5, by go_num, by omega, HN, HP, HTB, HD, HBr, HBt, HBs⟩
    case measure => simp [intOf]
   have HN : Hid (rUn r = some 9) := h_ (by rw [HH.out, hi]; rfl);have HIK := h_ (RS.is_kind hi);rw [HN.out] at hc;simp only [Option.bind_eq_some_iff] at hc;obtain ⟨x1, h1, h2⟩ := hc;injection h2 with h2;subst h2;have H1 := h_ h1;clear h1 hi;have HK4 : Hid (r.at'.kind ≠ 4) := h_ (HIK.out.1);obtain ⟨pb, pi, pn, pc, h1, h2, h3, h4, h5, h6, h7, h8, h9⟩ := HP.out;have g1 := cell_at (v := .int .i64 (pi : Nat)) h1 1 rfl;have f1 := froz_at h1 1;have hil : pi <= 30000 := by omega
   have HH := h_ (And.intro h1 (And.intro h2 (And.intro h3 (And.intro h4 (And.intro h5 (And.intro h6 (And.intro h7 (And.intro h8 h9))))))));clear h1 h2 h3 h4 h5 h6 h7 h8 h9;go_upto_region 7 with fail
   clear g1 f1;obtain ⟨h1, h2, h3, h4, h5, h6, h7, h8, h9⟩ := HH.out;have hc0 := heap_setCell_same _ g 1 _ _ (.int .i64 ((pi + 1 : Nat) : Int)) h1;obtain ⟨w6, hw⟩ : ∃ x, x = w5.setCell ⟨g, 1, none⟩ (.int .i64 ((pi + 1 : Nat) : Int)) := ⟨_, rfl⟩
   have hg : w5.grownBy w6 (some g) := by rw [hw]; exact grown_set _ _ _ _
   rw [<- hw] at hc0;have hw' : w5.setCell ⟨g, 1, none⟩ (.int .i64 ((pi : Int) + 1)) = w6 := by rw [hw]; rfl
   rw [hw'];have hp := PR.inc hg hc0 HK4.out h2 h3 h4 h5 h6 h7 h8 h9;clear hw hw' hc0 h1 h2 h3 h4 h5 h6 h7 h8 h9 HH HK4 hil;replace HBr := kG hg HBr;replace HBt := kG hg HBt;replace HBs := kG hg HBs;replace HTB := h_ (HTB.out.grown hg (by omega));replace HP := h_ hp;replace HD := dG HD hg;have hsz6 := HD.out.size;clear hp hg;have hlt_t := lt_of_block HBt.out;have hog : ∀ q, q < 1 -> (fun q => g) q < w6.heap.size := fun q _ => by show g < _; exact HP.out.lt
   refine R7.region (by kernel_rfl) [[], [0], [], [], [3], [3, 4], [0, 1, 2, 3, 4, 5], [0, 1, 2, 3, 4, 5, 6]] [] [(4, 1000)] (fun q => g) 1 6 (by kernel_rfl) (by kernel_rfl) (by rfl) hog (fun q q' h h' hn => absurd hn (by omega)) ?_;refine R7.Chain.det ?_ (by rfl) (fun T xs wr hA => ?_) ?_
   rotate_left 1
   ·have e4 := hA.pre 4 (by kernel_rfl);simp only [gsa, gsc, gsz] at e4;clear hA;refine ⟨(by rfl), ?_⟩;go_simp <;> (try with_reducible rfl)
   refine R7.Chain.det ?_ (by rfl) (fun T xs wr hA => ?_) ?_
   rotate_left 1
   ·have e25 := (hA.tm 0 25 (by rfl) (by rfl)).trans (congrArg some (hA.fa 0 (by rfl)))
    (try simp (disch := first | rfl | decide) only [R7.mask_in] at e25)
    clear hA;refine ⟨(by rfl), ?_⟩;go_simp <;> (try with_reducible rfl)
   refine R7.Chain.det ?_ (by rfl) (fun T xs wr hA => ?_) ?_
   rotate_left 1
   ·have e3 := hA.pre 3 (by kernel_rfl);simp only [gsa, gsc, gsz] at e3;have hBq : wr.heap[kt]? = _ := (hA.bl _ hlt_t (fun q _ => by show g ≠ kt; omega)).trans HBt.out;obtain ⟨q0, q1, q2, q3⟩ := cl4 hBq;clear hBq;clear hA;refine ⟨(by rfl), ?_⟩;go_simp <;> (try with_reducible rfl)
   refine R7.Chain.det ?_ (by rfl) (fun T xs wr hA => ?_) ?_
   rotate_left 1
   ·have e0 := hA.pre 0 (by kernel_rfl);simp only [gsa, gsz] at e0;clear hA;refine ⟨(by rfl), ?_⟩;go_simp <;> (try with_reducible rfl)
   refine R7.Chain.callOld 0 (fun xs v w => v = eV x1.1 /\ PR w g x1.2) (fun _ _ _ _ ⟨h1, h2⟩ hb => ⟨h1, h2.below hb⟩) (fun _ _ _ _ q' _ hq hne _ => absurd rfl hne) (by rfl) (by rfl) (by decide) (R7.own_one (by rfl)) (fun T xs wr hA hold => ?_) ?_
   ·have hsw := (hA.be 0 (Nat.zero_le _) (fun _ _ => Nat.zero_le _)).size;have e28 := (hA.tm 3 28 (by rfl) (by rfl)).trans (congrArg some (hA.fa 3 (by rfl)))
    (try simp (disch := first | rfl | decide) only [R7.mask_in] at e28)
    have h0 := undrew (hA.be 0 (Nat.zero_le _) (fun _ _ => Nat.zero_le _))
    have hbw : Below w6.heap.size w6 wr := ⟨h0.os, h0.tape, h0.output, h0.size, fun k hk => by
     by_cases e : k = g
     ·rw [e]; exact hold
     exact hA.bl k hk (fun q _ h => e h.symm)⟩
    clear hA;refine ⟨(by rfl), fun K hK => ?_⟩;go_simp
    refine (S.out g r.inc x1 wr (HP.out.below hbw) HTD.out.inc (HTB.out.below hbw) H1.out).mono ?_;rintro e w' ⟨rfl, hp, hg⟩;exact hK.out _ _ ⟨rfl, hp⟩ (R7.Priv.of hg)
   refine R7.Chain.call (fun xs v w => ∃ g, v = .slice (some ⟨g, 0, none⟩) 1 1 /\ w6.heap.size <= g /\ w.heap[g]? = some (.cells #[.string ⟨x1.1.S.toArray⟩, .int .i64 (x1.1.d : Nat)] 117 (0, 0))) (fun _ _ _ _ ⟨g, hv, hl, hg⟩ hb => ⟨g, hv, hl, by rw [hb.block g (Array.getElem?_eq_some_iff.1 hg).1]; exact hg⟩) (fun _ _ _ _ _ ⟨g, hv, hl, hg⟩ ⟨q, hq, e⟩ hp => ⟨g, hv, hl, by rw [hp.block g (Array.getElem?_eq_some_iff.1 hg).1 (fun h => by have := hog q hq; omega)]; exact hg⟩) (by rfl) (fun T xs wr hA => ?_) ?_
   ·have hsw := (hA.be 0 (Nat.zero_le _) (fun _ _ => Nat.zero_le _)).size;have e29 := hA.tm 4 29 (by rfl) (by rfl);have hF4 : xs 4 = eV x1.1 /\ PR wr g x1.2 := hA.fa 4 (by rfl);rw [hF4.1] at e29;unfold eV at e29;clear hA;refine ⟨(by rfl), fun K hK => ?_⟩;go_simp
    exact hK.out _ _ ⟨_, rfl, hsw, by simpa using made_at wr _ _ rfl⟩ ((Below.refl _ _).alloc (Nat.le_refl _) _)
   refine R7.Chain.done (fun xs w7 hL => ?_);obtain ⟨⟨hbe, hbl⟩, hf, -, -⟩ := hL;have f0 : xs 0 = _ := hf 0 (by decide);have f1 : xs 1 = _ := hf 1 (by decide);have f2 : xs 2 = _ := hf 2 (by decide);have f3 : xs 3 = _ := hf 3 (by decide);have F4 : (xs 4) = eV x1.1 /\ PR w7 g x1.2 := hf 4 (by decide);have F5 : ∃ g, (xs 5) = .slice (some ⟨g, 0, none⟩) 1 1 /\ w6.heap.size <= g /\ w7.heap[g]? = some (.cells #[.string ⟨x1.1.S.toArray⟩, .int .i64 (x1.1.d : Nat)] 117 (0, 0)) := hf 5 (by decide)
   (try simp (disch := first | rfl | decide) only [R7.mask_in] at f0 f1 f2 f3)
   have hb0 : Below 0 w6 w7 := undrew (hbe 0 (Nat.zero_le _) (fun _ _ => Nat.zero_le _));have hgr : ∀ j, j < w6.heap.size -> (∀ q, q < 1 -> (fun q => g) q ≠ j) -> w7.heap[j]? = w6.heap[j]? := hbl;clear hbe hbl hf;obtain ⟨hv4, hp⟩ := F4;obtain ⟨g5, hv5, hl5, hg5⟩ := F5;have hg : w6.grownBy w7 (some g) := ⟨hb0.os, hb0.tape, hb0.output, hb0.size, fun k hk hn => hgr k hk (fun q _ e => hn (by rw [<- e]))⟩
   refine R7.rest_list (by decide) (by kernel_rfl) ?_;simp only [R7.fill, List.take_succ_cons, List.take_zero, List.drop_succ_cons, List.drop_zero, List.setIfInBounds_toArray, List.set_cons_zero, List.set_cons_succ, f0, f1, f2, f3];simp only [hv4, hv5];clear hog hv4 hv5 hl5 hb0 hgr hlt_t f0 f1 f2 f3;replace HBr := kG hg HBr;replace HBt := kG hg HBt;replace HBs := kG hg HBs;replace HTB := h_ (HTB.out.grown hg (by omega));replace HP := h_ hp;replace HD := dG HD hg;have hsz7 := HD.out.size;have HG5 := h_ hg5;clear hp hg hg5;have hT := HTD.out.at;rw [<- HNt.out] at hT;have hnm : ([] : Bs).length <= 1000000 := by simp
   have hF := (r_len n).2.2.2.1 _ _ (HGR.out.inc HIK.out.1) H1.out;have hph := phi_inc HGR.out;have hphr := HPH.out;have hS : ([x1.1].flatMap RE.S).length <= 1000000000 := by rw [fl1]; have := hF.2.1; omega
   have hd : ∀ e ∈ [x1.1], e.d <= 1000000000 := by intro e he; simp only [List.mem_cons, List.not_mem_nil, or_false] at he; subst he; have := hF.2.1; have := hF.2.2.1; omega
   go_wp2_with fail
   refine (made_p 9 t [] (some ⟨g5, 0, none⟩) 1 [x1.1] w7 HTB.out.1 (by first | decide | omega) hT.1 hT.2.1 hnm (at2_blk (ks := [x1.1]) HG5.out) (by simp) hS hd).mono ?_;rintro e w8 ⟨rfl, hb⟩;replace HBr := kB hb HBr;replace HBt := kB hb HBt;replace HBs := kB hb HBs;replace HP := h_ (HP.out.below hb);replace HTB := h_ (HTB.out.below hb);replace HD := dB HD hb;have hsz8 := HD.out.size;clear hb;clear HG5;simp only [eV];obtain ⟨z0, z1⟩ := cl2 HBr.out;obtain ⟨fz0, fz1⟩ := fr2 HBr.out;go_wp2_with fail
   have hg := st2_grown w8 kr (.string ⟨(mk 9 t [] [x1.1]).S.toArray⟩) (.int .i64 ((mk 9 t [] [x1.1]).d : Nat));exact bodyPost_ret (v := .agg #[.string ⟨(mk 9 t [] [x1.1]).S.toArray⟩, .int .i64 ((mk 9 t [] [x1.1]).d : Nat)]) (by simp [results, Tryz.results113, go_sem, z0, z1]) rfl ⟨by rw [HNt.out]; rfl, HP.out.store (by omega) hg, grown_new HD.out hg (by omega)⟩
  have HN : Hid (rUn r = none) := h_ HU.out;rw [HN.out] at hc;have HC := h_ hc;clear hc;go_wp2_with fail
  refine (A.out g r x wr HP.out HTD.out HTB.out HC.out).mono ?_;rintro e w5 ⟨rfl, hp, hg⟩;replace HBr := kG hg HBr;replace HBt := kG hg HBt;replace HBs := kG hg HBs;replace HTB := h_ (HTB.out.grown hg (by omega));replace HP := h_ hp;replace HD := dG HD hg;have hsz5 := HD.out.size;clear hp hg;simp only [eV];obtain ⟨z0, z1⟩ := cl2 HBr.out;obtain ⟨fz0, fz1⟩ := fr2 HBr.out;go_wp2_with fail
  have hg := st2_grown w5 kr (.string ⟨x.1.S.toArray⟩) (.int .i64 (x.1.d : Nat));exact bodyPost_ret (v := .agg #[.string ⟨x.1.S.toArray⟩, .int .i64 (x.1.d : Nat)]) (by simp [results, Tryz.results113, go_sem, z0, z1]) rfl ⟨rfl, HP.out.store (by omega) hg, grown_new HD.out hg (by omega)⟩
end Go.Proofs.YtdpfgfkoboihcaaGreatDoor
