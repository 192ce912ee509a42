/-
 Joined texts: PsRq, PsRs, PsPa, PsPb, PsPc, PsPd.
-/
import Derived.Deep.DeepCutAuto
import Derived.Test.YtdpfgfkoboihcaaGreatDoorJPsParseRuns2
import Derived.Test.YtdpfgfkoboihcaaGreatDoorJPsParseRuns7
set_option maxHeartbeats 32000000
namespace Go.Proofs.YtdpfgfkoboihcaaGreatDoor
open Go.RowKit
set_option maxRecDepth 100000
set_option linter.unusedVariables false
set_option linter.unusedSimpArgs false
theorem GR.of {w : World} {g : Nat} {r : RS} (h : PR w g r) (t : TBd r) : GR r := ⟨h.good, t⟩
theorem rparams_f (m n g : Nat) (r : RS) (y : Bs × RS) (w : World) (hps : PR w g r) (htb : TBd r) (hpw : Pw w g) (hc : rParams m n false r = some y) :
  Calls Tryz.prog 26 #[.pointer (some ⟨g, 0, none⟩), .bool false] w fun e w' => e = .returned (.string ⟨y.1.toArray⟩) /\ Rid w g y.2 w' := by
 have HR0 := h_ hps.good;have HP := h_ hps;have HTB := h_ hpw;have HT := h_ htb;have hgw : g < w.heap.size := hps.lt;have HPH := h_ (phi_le hps);clear hps hpw htb;unfold rParams at hc;simp only [Bool.false_eq_true, if_false, Option.bind_eq_some_iff] at hc;obtain ⟨x, hx, hc⟩ := hc;injection hc with hc;subst hc;have HX := h_ hx;clear hx;go_enter Tryz.func26, Tryz.ntmps26
 go_wp2_with fail
 refine (eat_p g r [40] w HP.out).mono ?_;rintro e w1 ⟨⟨v, rfl⟩, hp, hg⟩;replace HTB := h_ (HTB.out.grown hg (by omega));replace HP := h_ hp;have HD := h_ (hg);have hsz1 := HD.out.size;clear hp hg;obtain ⟨r1, hr1⟩ : ∃ x, x = r.eat wOpen := ⟨_, rfl⟩
 have HG1 : Hid (GR r1) := h_ (by rw [hr1]; exact GR.eat ⟨HR0.out, HT.out⟩ _);have HP1 : Hid (phi r1 <= phi r) := h_ (by rw [hr1]; have := phi_eat ⟨HR0.out, HT.out⟩ wOpen; omega);rw [show r.eat [40] = r1 from hr1.symm] at HP;rw [show r.eat wOpen = r1 from hr1.symm] at HX;clear hr1;go_wp2_with fail
 have hT0 : ([] : Bs).length <= 7000 := by simp
 have HG0 := HG1;have HPH0 : Hid (phi r1 <= 211000000) := h_ (by have := HP1.out; have := HPH.out; omega)
 go_loopw [5, 6] (fun s i wr => ∃ (m' : Nat) (kk : Nat) (t : Bs) (rj : RS), s = .string ⟨t.toArray⟩ /\ i = .int .i64 (kk : Nat) /\ kk <= 300000000 /\ kk + phi rj <= 300000000 /\ t.length + phi rj <= 300000000 /\ Hid (rPars m' n false kk t rj = some x) /\ Hid (GR rj) /\ Hid (PR wr g rj) /\ Hid (Pw wr g) /\ Hid (w.grownBy wr (some g))) (fun _ _ wr => rPhi wr g)
 case atStart => exact ⟨m, 0, [], r1, rfl, rfl, by decide, by have := HPH0.out; omega, by have := HPH0.out; omega, HX, HG0, HP, HTB, HD⟩
 case round =>
  clear HX HG0 HP HTB HD HPH0 hT0;obtain ⟨m', kk, tx, rj, rfl, rfl, hk, hkp, htl, HC, HG, HP, HTB, HD⟩ := hrel;have hszr := HD.out.size;have HPHI := h_ (pr_rphi HP.out);have hcm := HC.out
  cases m' with
  | zero => exact absurd hcm (by simp [rPars])
  | succ m' =>
   rw [rPars] at hcm;obtain ⟨pb, pi, pn, pc, p1, -⟩ := HP.out;have p2 := cell_at (v := .int .i64 (rj.bad : Nat)) p1 2 rfl;clear p1
   by_cases hb : rj.bad = 0
   ·rw [hb] at p2;go_wp2_with fail
    clear p2;refine (is_p g rj [41] wr HP.out).mono ?_;rintro e w2 ⟨rfl, hb1⟩;replace HP := h_ (HP.out.below hb1);replace HTB := h_ (HTB.out.below hb1);replace HD := dB HD hb1;have hsz2 := HD.out.size;clear hb1
    by_cases hi : rj.is [41] = true
    ·rw [if_pos (.inr (show rj.is wClose = true from hi))] at hcm;injection hcm with hcm;subst hcm;rw [hi];clear hi;go_wp2_with fail
     refine (eat_p g rj [41] w2 HP.out).mono ?_;rintro e w3 ⟨⟨v, rfl⟩, hp, hg⟩;replace HTB := h_ (HTB.out.grown hg (by omega));replace HP := h_ hp;replace HD := dG HD (hg);clear hp hg;go_wp2_with fail
     refine (eat_p g _ [58] w3 HP.out).mono ?_;rintro e w4 ⟨⟨v, rfl⟩, hp, hg⟩;replace HTB := h_ (HTB.out.grown hg (by omega));replace HP := h_ hp;replace HD := dG HD (hg);have hsz4 := HD.out.size;clear hp hg;go_wp2_with fail
     go_ret
     exact ⟨rfl, HP.out, HD.out⟩
    have hif : rj.is [41] = false := by simpa using hi
    rw [if_neg (fun h => h.elim (fun h => h hb) (fun h => hi h)), Option.bind_eq_some_iff] at hcm;obtain ⟨z, hz, hcm⟩ := hcm;rw [hif];have HCM := h_ hcm;have HZ := h_ hz;have HPF := h_ (par_fin HG.out hb hz);clear hi hif hcm hz;obtain ⟨rA, hrA⟩ : ∃ a, a = (if 0 < kk then rj.eat wComma else rj) := ⟨_, rfl⟩
    have HGA : Hid (GR rA) := h_ (by rw [hrA]; split; exact HG.out.eat _; exact HG.out);obtain ⟨rB, hrB⟩ : ∃ a, a = rPre kk rj := ⟨_, rfl⟩
    have HRB : Hid (rB = if rA.bad = 0 /\ rA.at'.kind = 0 /\ kk = 6 then rA.bd rA.at' 2 else rA) := h_ (by rw [hrB, hrA]; rfl);rw [<- hrB] at HZ;have HGB : Hid (GR rB) := h_ (by rw [hrB]; exact (pre_fin HG.out hb).1);have HRA := h_ hrA;clear hrA hrB
    go_upto_if 35 with fail
    go_cut [5, 6] (fun s i wx => s = .string ⟨tx.toArray⟩ /\ i = .int .i64 (kk : Nat) /\ Hid (PR wx g rA) /\ Hid (Pw wx g) /\ Hid (w.grownBy wx (some g)))
    case first =>
     by_cases hk0 : 0 < kk
     ·have hkd : decide ((0 : Int) < (kk : Nat)) = true := by simpa using hk0
      have hkz : (0 : Int) < (kk : Nat) := by omega
      have HE : Hid (rj.eat [44] = rA) := h_ (by rw [HRA.out, if_pos hk0]);go_wp2_with fail
      refine (eat_p g (rj) [44] w2 HP.out).mono ?_;rintro e w3 ⟨⟨v, rfl⟩, hp, hg⟩;replace HTB := h_ (HTB.out.grown hg (by omega));replace HP := h_ hp;replace HD := dG HD (hg);have hsz3 := HD.out.size;clear hp hg;rw [HE.out] at HP;go_wp2_with fail
      go_meet
      case rel => exact ⟨rfl, rfl, HP, HTB, HD⟩
     have hkd : decide ((0 : Int) < (kk : Nat)) = false := by simpa using hk0
     have hkz : ¬ (0 : Int) < (kk : Nat) := by omega
     have HE : Hid (rj = rA) := h_ (by rw [HRA.out, if_neg hk0]);rw [HE.out] at HP;go_wp2_with fail
     go_meet
     case rel => exact ⟨rfl, rfl, HP, HTB, HD⟩
    case rest =>
     clear HP HTB HD;obtain ⟨rfl, rfl, HP, HTB, HD⟩ := hcut;have hsza := HD.out.size;obtain ⟨pb, pi, pn, pc, p1, -⟩ := HP.out;have p2 := cell_at (v := .int .i64 (rA.bad : Nat)) p1 2 rfl;clear p1;go_upto_region 13 with fail
     go_cut [5, 6, 52] (fun s i c wx => s = .string ⟨tx.toArray⟩ /\ i = .int .i64 (kk : Nat) /\ c = .bool (decide (rA.bad = 0 /\ rA.at'.kind = 0 /\ kk = 6)) /\ Hid (PR wx g rA) /\ Hid (Pw wx g) /\ Hid (w.grownBy wx (some g)))
     case first =>
      by_cases hbA : rA.bad = 0
      ·rw [hbA] at p2;go_wp2_with fail
       clear p2;refine (at_p g rA wc HP.out).mono ?_;rintro e w3 ⟨rfl, hb2⟩;replace HP := h_ (HP.out.below hb2);replace HTB := h_ (HTB.out.below hb2);replace HD := dB HD hb2;have hsz3 := HD.out.size;clear hb2;simp only [tokV];have hf := field_kindT (rA.at'.kind : Nat) (rA.at'.line : Nat) (rA.at'.col : Nat) ⟨rA.at'.text.toArray⟩ w3
       by_cases hkA : rA.at'.kind = 0
       ·have hkb : (((rA.at'.kind : Nat) : Int) == 0) = true := by rw [hkA]; rfl
        by_cases hk6 : kk = 6
        ·have hk7 : (((kk : Nat) : Int) == 6) = true := by rw [hk6]; rfl
         have HDC : Hid (decide (rA.bad = 0 /\ rA.at'.kind = 0 /\ kk = 6) = true) := h_ (decide_eq_true ⟨hbA, hkA, hk6⟩);clear hkA hk6;go_wp2_with fail
         go_meet
         case rel => exact ⟨rfl, rfl, by rw [HDC.out], HP, HTB, HD⟩
        have hk7 : (((kk : Nat) : Int) == 6) = false := by rw [beq_eq_false_iff_ne]; omega
        have HDC : Hid (decide (rA.bad = 0 /\ rA.at'.kind = 0 /\ kk = 6) = false) := h_ (decide_eq_false (fun h => hk6 h.2.2));clear hkA;go_wp2_with fail
        go_meet
        case rel => exact ⟨rfl, rfl, by rw [HDC.out], HP, HTB, HD⟩
       have hkb : (((rA.at'.kind : Nat) : Int) == 0) = false := by rw [beq_eq_false_iff_ne]; omega
       have HDC : Hid (decide (rA.bad = 0 /\ rA.at'.kind = 0 /\ kk = 6) = false) := h_ (decide_eq_false (fun h => hkA h.2.1));go_wp2_with fail
       go_meet
       case rel => exact ⟨rfl, rfl, by rw [HDC.out], HP, HTB, HD⟩
      have hb' : (((rA.bad : Nat) : Int) == 0) = false := by rw [beq_eq_false_iff_ne]; omega
      have HDC : Hid (decide (rA.bad = 0 /\ rA.at'.kind = 0 /\ kk = 6) = false) := h_ (decide_eq_false (fun h => hbA h.1));go_wp2_with fail
      go_meet
      case rel => exact ⟨rfl, rfl, by rw [HDC.out], HP, HTB, HD⟩
     case rest =>
      clear HP HTB HD p2;obtain ⟨rfl, rfl, rfl, HP, HTB, HD⟩ := hcut;have hszb := HD.out.size
      go_upto_if 52 with fail
      go_cut [5, 6] (fun s i wx => s = .string ⟨tx.toArray⟩ /\ i = .int .i64 (kk : Nat) /\ Hid (PR wx g rB) /\ Hid (Pw wx g) /\ Hid (w.grownBy wx (some g)))
      case first =>
       by_cases hP : (rA.bad = 0 /\ rA.at'.kind = 0 /\ kk = 6)
       ·have hdc : decide (rA.bad = 0 /\ rA.at'.kind = 0 /\ kk = 6) = true := decide_eq_true hP;have HE : Hid (rB = rA.bd rA.at' 2) := h_ (by rw [HRB.out, if_pos hP]);rw [hdc];clear hdc hP;go_wp2_with fail
        refine (at_p g rA wc HP.out).mono ?_;rintro e w3 ⟨rfl, hb3⟩;replace HP := h_ (HP.out.below hb3);replace HTB := h_ (HTB.out.below hb3);replace HD := dB HD hb3;clear hb3;go_wp2_with fail
        refine (bad_p g rA rA.at' 2 w3 HP.out).mono ?_;rintro e w4 ⟨⟨v, rfl⟩, hp, hg⟩;replace HTB := h_ (HTB.out.grown hg (by omega));replace HP := h_ hp;replace HD := dG HD (hg);have hsz4 := HD.out.size;clear hp hg;rw [<- HE.out] at HP;go_wp2_with fail
        go_meet
        case rel => exact ⟨rfl, rfl, HP, HTB, HD⟩
       have hdc : decide (rA.bad = 0 /\ rA.at'.kind = 0 /\ kk = 6) = false := decide_eq_false hP;have HE : Hid (rB = rA) := h_ (by rw [HRB.out, if_neg hP]);rw [hdc];rw [<- HE.out] at HP;clear hdc hP;go_wp2_with fail
       go_meet
       case rel => exact ⟨rfl, rfl, HP, HTB, HD⟩
      case rest =>
       clear HP HTB HD;obtain ⟨rfl, rfl, HP, HTB, HD⟩ := hcut;have hszc := HD.out.size;go_wp2_with fail
       refine (rname_p g rB wc HP.out).mono ?_;rintro e w3 ⟨rfl, hp, hg⟩;replace HTB := h_ (HTB.out.grown hg (by omega));replace HP := h_ hp;replace HD := dG HD (hg);have hsz3 := HD.out.size;clear hp hg;simp only [tokV];obtain ⟨u, hnx⟩ : ∃ t, t = RS.at' rB := ⟨_, rfl⟩
       rw [<- hnx];have HNu := h_ hnx;clear hnx;go_upto_region 16 with fail
       obtain ⟨w4, ku, hw, hkk, hb, hs1, HBu⟩ := newb w3 #[.int .i64 (u.kind : Nat), .string ⟨u.text.toArray⟩, .int .i64 (u.line : Nat), .int .i64 (u.col : Nat)] 60;have hgu : g < ku := by rw [hkk]; exact HP.out.lt
       have heu : w.heap.size <= ku := by omega
       rw [hw, <- hkk];replace HP := h_ (HP.out.below hb);replace HTB := h_ (HTB.out.below hb);replace HD := dB HD hb;clear hw hb hkk hs1;have HUT : Hid (u.line <= 1000000000 /\ u.col <= 1000000000 /\ u.text.length <= 3000) := h_ (by rw [HNu.out]; exact HGB.out.2.at);go_wp2_with fail
       refine (eat_p g (rB.name) [58] w4 HP.out).mono ?_;rintro e w5 ⟨⟨v, rfl⟩, hp, hg⟩;replace HBu := kG hg HBu;replace HTB := h_ (HTB.out.grown hg (by omega));replace HP := h_ hp;replace HD := dG HD (hg);have hsz5 := HD.out.size;clear hp hg;obtain ⟨c0, c1, c2, c3⟩ := cl4 HBu.out;go_wp2_with fail
       have hpl := rplace_p u w5 HTB.out.1 (by have := HUT.out.2.2; omega) HUT.out.1 HUT.out.2.1;simp only [tokV] at hpl;refine (hpl).mono ?_;rintro e w6 ⟨rfl, hb4⟩;clear c0 c1 c2 c3;replace HBu := kB hb4 HBu;replace HP := h_ (HP.out.below hb4);replace HTB := h_ (HTB.out.below hb4);replace HD := dB HD hb4;clear hb4;clear hpl;go_wp2_with fail
       refine (rbase_p g _ w6 HP.out).mono ?_;rintro e w7 ⟨rfl, hp, hg⟩;replace HBu := kG hg HBu;replace HTB := h_ (HTB.out.grown hg (by omega));replace HP := h_ hp;replace HD := dG HD (hg);have hsz7 := HD.out.size;clear hp hg;obtain ⟨b1, hb1⟩ : ∃ x, x = rBase (rB.name.eat wColon) := ⟨_, rfl⟩
       have HG2 : Hid (GR b1.2 /\ b1.1.length <= 3000) := h_ (by rw [hb1]; have h1 := (HGB.out.name.eat wColon).base; exact ⟨h1.1, h1.2.2⟩);rw [show rBase (rB.name.eat [58]) = b1 from hb1.symm] at HP;rw [show rBase (rB.name.eat [58]) = b1 from hb1.symm];have HB1 := h_ hb1;clear hb1;obtain ⟨pu, hpu⟩ : ∃ x, x = u.text ++ plc u.line u.col := ⟨_, rfl⟩
       have hpul : pu.length <= 3022 := by rw [hpu, lsa]; have := plc_len _ _ HUT.out.1 HUT.out.2.1; have := HUT.out.2.2; omega
       rw [<- hpu];have HPU := h_ hpu;clear hpu;have hs0 : (⟨tx.toArray⟩ : ByteArray).size = tx.length := rfl;have hs1 : (⟨pu.toArray⟩ : ByteArray).size = pu.length := rfl;have hs2 : (⟨b1.1.toArray⟩ : ByteArray).size = b1.1.length := rfl;have hbl := HG2.out.2;have h44 : (⟨#[44]⟩ : ByteArray).size = 1 := rfl;have htx : tx.length <= 300000000 := by omega
       obtain ⟨xr, hxr, hz⟩ : ∃ xr, rRef n b1.2 = some xr /\ z = (pu ++ b1.1 ++ xr.1 ++ [44], xr.2) := by
        have hz := HZ.out;unfold rPar at hz;simp only [Bool.false_eq_true, if_false, Option.bind_eq_some_iff] at hz;obtain ⟨xr, h1, h2⟩ := hz;injection h2 with h2;refine ⟨xr, by rw [HB1.out]; exact h1, ?_⟩;rw [<- h2, HB1.out, HPU.out, HNu.out]
       have HZ1 := h_ hz;have HXR := h_ hxr;have hxl : xr.1.length <= 300000000 := by have := (ref_fin HG2.out.1 hxr).2; have := phi_le HP.out; omega
       clear hz hxr;obtain ⟨c0, c1, c2, c3⟩ := cl4 HBu.out;go_wp2_with fail
       refine (rref_p n g b1.2 xr w7 HP.out HG2.out.1.2 HTB.out HXR.out).mono ?_;rintro e w8 ⟨rfl, hp, hg⟩;clear c0 c1 c2 c3;replace HBu := kG hg HBu;replace HTB := h_ (HTB.out.grown hg (by omega));replace HP := h_ hp;replace HD := dG HD (hg);have hsz8 := HD.out.size;clear hp hg;have hs3 : (⟨xr.1.toArray⟩ : ByteArray).size = xr.1.length := rfl;obtain ⟨c0, c1, c2, c3⟩ := cl4 HBu.out;go_wp2_with fail
       clear c0 c1 c2 c3;have hz1 := HZ1.out;subst hz1;have hpf := HPF.out.2;simp only [lsa, lsc, lsn] at hpf;go_roundw
       case rel => exact ⟨m', kk + 1, tx ++ (pu ++ b1.1 ++ xr.1 ++ [44]), xr.2, congrArg Value.string (by simp only [show (⟨#[44]⟩ : ByteArray) = ⟨([44] : Bs).toArray⟩ from rfl, cat, List.append_assoc]), by go_num, by omega, by omega, by simp only [lsa, lsc, lsn]; omega, HCM, h_ HPF.out.1, HP, HTB, HD⟩
       case measure => rw [pr_rphi HP.out, HPHI.out]; omega
   rw [if_pos (.inl hb)] at hcm;injection hcm with hcm;subst hcm;have hb' : (((rj.bad : Nat) : Int) == 0) = false := by rw [beq_eq_false_iff_ne]; omega
   go_wp2_with fail
   refine (eat_p g rj [41] wr HP.out).mono ?_;rintro e w2 ⟨⟨v, rfl⟩, hp, hg⟩;replace HTB := h_ (HTB.out.grown hg (by omega));replace HP := h_ hp;replace HD := dG HD (hg);clear hp hg;go_wp2_with fail
   refine (eat_p g _ [58] w2 HP.out).mono ?_;rintro e w3 ⟨⟨v, rfl⟩, hp, hg⟩;replace HTB := h_ (HTB.out.grown hg (by omega));replace HP := h_ hp;replace HD := dG HD (hg);have hsz3 := HD.out.size;clear hp hg;go_wp2_with fail
   go_ret
   exact ⟨rfl, HP.out, HD.out⟩
theorem rparams_t (m n g : Nat) (r : RS) (y : Bs × RS) (w : World) (hps : PR w g r) (htb : TBd r) (hpw : Pw w g) (hc : rParams m n true r = some y) :
  Calls Tryz.prog 26 #[.pointer (some ⟨g, 0, none⟩), .bool true] w fun e w' => e = .returned (.string ⟨y.1.toArray⟩) /\ Rid w g y.2 w' := by
 have HR0 := h_ hps.good;have HP := h_ hps;have HTB := h_ hpw;have HT := h_ htb;have hgw : g < w.heap.size := hps.lt;have HPH := h_ (phi_le hps);clear hps hpw htb;unfold rParams at hc;simp only [if_true, Option.bind_eq_some_iff] at hc;obtain ⟨x, hx, hc⟩ := hc;injection hc with hc;subst hc;have HX := h_ hx;clear hx;go_enter Tryz.func26, Tryz.ntmps26
 go_wp2_with fail
 refine (eat_p g r [40] w HP.out).mono ?_;rintro e w1 ⟨⟨v, rfl⟩, hp, hg⟩;replace HTB := h_ (HTB.out.grown hg (by omega));replace HP := h_ hp;have HD := h_ (hg);have hsz1 := HD.out.size;clear hp hg;obtain ⟨r1, hr1⟩ : ∃ x, x = r.eat wOpen := ⟨_, rfl⟩
 have HG1 : Hid (GR r1) := h_ (by rw [hr1]; exact GR.eat ⟨HR0.out, HT.out⟩ _);have HP1 : Hid (phi r1 <= phi r) := h_ (by rw [hr1]; have := phi_eat ⟨HR0.out, HT.out⟩ wOpen; omega);rw [show r.eat [40] = r1 from hr1.symm] at HP;rw [show r.eat wOpen = r1 from hr1.symm] at HX;clear hr1;go_wp2_with fail
 refine (at_p g r1 w1 HP.out).mono ?_;rintro e w2 ⟨rfl, hb⟩;replace HP := h_ (HP.out.below hb);replace HTB := h_ (HTB.out.below hb);replace HD := dB HD hb;have hsz2 := HD.out.size;clear hb;simp only [tokV];obtain ⟨t, hnx⟩ : ∃ t, t = RS.at' r1 := ⟨_, rfl⟩
 rw [<- hnx];have HNt := h_ hnx;clear hnx;go_upto_region 6 with fail
 obtain ⟨w3, kt, hw, hkk, hb, hs1, HBt⟩ := newb w2 #[.int .i64 (t.kind : Nat), .string ⟨t.text.toArray⟩, .int .i64 (t.line : Nat), .int .i64 (t.col : Nat)] 60;have hgt : g < kt := by rw [hkk]; exact HP.out.lt
 have het : w.heap.size <= kt := by omega
 rw [hw, <- hkk];replace HP := h_ (HP.out.below hb);replace HTB := h_ (HTB.out.below hb);replace HD := dB HD hb;clear hw hb hkk hs1;have HTT : Hid (t.line <= 1000000000 /\ t.col <= 1000000000 /\ t.text.length <= 3000) := h_ (by rw [HNt.out]; exact HG1.out.2.at);go_wp2_with fail
 refine (eat_p g (r1) [118] w3 HP.out).mono ?_;rintro e w4 ⟨⟨v, rfl⟩, hp, hg⟩;replace HBt := kG hg HBt;replace HTB := h_ (HTB.out.grown hg (by omega));replace HP := h_ hp;replace HD := dG HD (hg);clear hp hg;go_wp2_with fail
 refine (eat_p g ((r1.eat [118])) [58] w4 HP.out).mono ?_;rintro e w5 ⟨⟨v, rfl⟩, hp, hg⟩;replace HBt := kG hg HBt;replace HTB := h_ (HTB.out.grown hg (by omega));replace HP := h_ hp;replace HD := dG HD (hg);have hsz5 := HD.out.size;clear hp hg;obtain ⟨c0, c1, c2, c3⟩ := cl4 HBt.out;go_wp2_with fail
 have hpl := rplace_p t w5 HTB.out.1 (by have := HTT.out.2.2; omega) HTT.out.1 HTT.out.2.1;simp only [tokV] at hpl;refine (hpl).mono ?_;rintro e w6 ⟨rfl, hb⟩;clear c0 c1 c2 c3;replace HBt := kB hb HBt;replace HP := h_ (HP.out.below hb);replace HTB := h_ (HTB.out.below hb);replace HD := dB HD hb;clear hb;clear hpl;go_wp2_with fail
 refine (rbase_p g _ w6 HP.out).mono ?_;rintro e w7 ⟨rfl, hp, hg⟩;replace HBt := kG hg HBt;replace HTB := h_ (HTB.out.grown hg (by omega));replace HP := h_ hp;replace HD := dG HD (hg);have hsz7 := HD.out.size;clear hp hg;obtain ⟨b0, hb0⟩ : ∃ x, x = rBase ((r1.eat wV).eat wColon) := ⟨_, rfl⟩
 have HGB : Hid (GR b0.2 /\ phi b0.2 <= phi r1 /\ b0.1.length <= 3000) := h_ (by rw [hb0]; have h1 := ((HG1.out.eat wV).eat wColon).base; have h2 := phi_eat HG1.out wV; have h3 := phi_eat (HG1.out.eat wV) wColon; exact ⟨h1.1, by have := h1.2.1; omega, h1.2.2⟩);rw [show rBase ((r1.eat [118]).eat [58]) = b0 from hb0.symm] at HP;rw [show rBase ((r1.eat [118]).eat [58]) = b0 from hb0.symm];rw [<- hb0, <- HNt.out] at HX;clear hb0;obtain ⟨pl, hpl⟩ : ∃ x, x = t.text ++ plc t.line t.col := ⟨_, rfl⟩
 have hplen : pl.length <= 3022 := by rw [hpl, lsa]; have := plc_len _ _ HTT.out.1 HTT.out.2.1; have := HTT.out.2.2; omega
 rw [<- hpl] at HX ⊢;have HPL := h_ hpl;clear hpl;have hs1 : (⟨pl.toArray⟩ : ByteArray).size = pl.length := rfl;have hs2 : (⟨b0.1.toArray⟩ : ByteArray).size = b0.1.length := rfl;have hbl := HGB.out.2.2;have h44 : (⟨#[44]⟩ : ByteArray).size = 1 := rfl;obtain ⟨c0, c1, c2, c3⟩ := cl4 HBt.out;go_wp2_with fail
 clear c0 c1 c2 c3;have hT0 : (pl ++ b0.1 ++ [44]).length <= 7000 := by simp only [lsa, lsc, lsn]; omega
 have HG0 := h_ HGB.out.1;have HPH0 : Hid (phi b0.2 <= 211000000) := h_ (by have := HGB.out.2.1; have := HP1.out; have := HPH.out; omega);clear hs1 hs2 hbl h44
 go_loopw [5, 6] (fun s i wr => ∃ (m' : Nat) (kk : Nat) (t : Bs) (rj : RS), s = .string ⟨t.toArray⟩ /\ i = .int .i64 (kk : Nat) /\ kk <= 300000000 /\ kk + phi rj <= 300000000 /\ t.length + phi rj <= 300000000 /\ Hid (rPars m' n true kk t rj = some x) /\ Hid (GR rj) /\ Hid (PR wr g rj) /\ Hid (Pw wr g) /\ Hid (w.grownBy wr (some g))) (fun _ _ wr => rPhi wr g)
 case atStart => exact ⟨m, 1, (pl ++ b0.1 ++ [44]), b0.2, by rw [<- cat, <- cat], rfl, by decide, by have := HPH0.out; omega, by have := HPH0.out; omega, HX, HG0, HP, HTB, HD⟩
 case round =>
  clear HX HG0 HP HTB HD HPH0 hT0 HBt;obtain ⟨m', kk, tx, rj, rfl, rfl, hk, hkp, htl, HC, HG, HP, HTB, HD⟩ := hrel;have hszr := HD.out.size;have HPHI := h_ (pr_rphi HP.out);have hcm := HC.out
  cases m' with
  | zero => exact absurd hcm (by simp [rPars])
  | succ m' =>
   rw [rPars] at hcm;obtain ⟨pb, pi, pn, pc, p1, -⟩ := HP.out;have p2 := cell_at (v := .int .i64 (rj.bad : Nat)) p1 2 rfl;clear p1
   by_cases hb : rj.bad = 0
   ·rw [hb] at p2;go_wp2_with fail
    clear p2;refine (is_p g rj [41] wr HP.out).mono ?_;rintro e w8 ⟨rfl, hb1⟩;replace HP := h_ (HP.out.below hb1);replace HTB := h_ (HTB.out.below hb1);replace HD := dB HD hb1;have hsz8 := HD.out.size;clear hb1
    by_cases hi : rj.is [41] = true
    ·rw [if_pos (.inr (show rj.is wClose = true from hi))] at hcm;injection hcm with hcm;subst hcm;rw [hi];clear hi;go_wp2_with fail
     refine (eat_p g rj [41] w8 HP.out).mono ?_;rintro e w9 ⟨⟨v, rfl⟩, hp, hg⟩;replace HTB := h_ (HTB.out.grown hg (by omega));replace HP := h_ hp;replace HD := dG HD (hg);clear hp hg;go_wp2_with fail
     refine (eat_p g _ [58] w9 HP.out).mono ?_;rintro e w10 ⟨⟨v, rfl⟩, hp, hg⟩;replace HTB := h_ (HTB.out.grown hg (by omega));replace HP := h_ hp;replace HD := dG HD (hg);have hsz10 := HD.out.size;clear hp hg;go_wp2_with fail
     go_ret
     exact ⟨rfl, HP.out, HD.out⟩
    have hif : rj.is [41] = false := by simpa using hi
    rw [if_neg (fun h => h.elim (fun h => h hb) (fun h => hi h)), Option.bind_eq_some_iff] at hcm;obtain ⟨z, hz, hcm⟩ := hcm;rw [hif];have HCM := h_ hcm;have HZ := h_ hz;have HPF := h_ (par_fin HG.out hb hz);clear hi hif hcm hz;obtain ⟨rA, hrA⟩ : ∃ a, a = (if 0 < kk then rj.eat wComma else rj) := ⟨_, rfl⟩
    have HGA : Hid (GR rA) := h_ (by rw [hrA]; split; exact HG.out.eat _; exact HG.out);obtain ⟨rB, hrB⟩ : ∃ a, a = rPre kk rj := ⟨_, rfl⟩
    have HRB : Hid (rB = if rA.bad = 0 /\ rA.at'.kind = 0 /\ kk = 6 then rA.bd rA.at' 2 else rA) := h_ (by rw [hrB, hrA]; rfl);rw [<- hrB] at HZ;have HGB : Hid (GR rB) := h_ (by rw [hrB]; exact (pre_fin HG.out hb).1);have HRA := h_ hrA;clear hrA hrB
    go_upto_if 35 with fail
    go_cut [5, 6] (fun s i wx => s = .string ⟨tx.toArray⟩ /\ i = .int .i64 (kk : Nat) /\ Hid (PR wx g rA) /\ Hid (Pw wx g) /\ Hid (w.grownBy wx (some g)))
    case first =>
     by_cases hk0 : 0 < kk
     ·have hkd : decide ((0 : Int) < (kk : Nat)) = true := by simpa using hk0
      have hkz : (0 : Int) < (kk : Nat) := by omega
      have HE : Hid (rj.eat [44] = rA) := h_ (by rw [HRA.out, if_pos hk0]);go_wp2_with fail
      refine (eat_p g (rj) [44] w8 HP.out).mono ?_;rintro e w9 ⟨⟨v, rfl⟩, hp, hg⟩;replace HTB := h_ (HTB.out.grown hg (by omega));replace HP := h_ hp;replace HD := dG HD (hg);have hsz9 := HD.out.size;clear hp hg;rw [HE.out] at HP;go_wp2_with fail
      go_meet
      case rel => exact ⟨rfl, rfl, HP, HTB, HD⟩
     have hkd : decide ((0 : Int) < (kk : Nat)) = false := by simpa using hk0
     have hkz : ¬ (0 : Int) < (kk : Nat) := by omega
     have HE : Hid (rj = rA) := h_ (by rw [HRA.out, if_neg hk0]);rw [HE.out] at HP;go_wp2_with fail
     go_meet
     case rel => exact ⟨rfl, rfl, HP, HTB, HD⟩
    case rest =>
     clear HP HTB HD;obtain ⟨rfl, rfl, HP, HTB, HD⟩ := hcut;have hsza := HD.out.size;obtain ⟨pb, pi, pn, pc, p1, -⟩ := HP.out;have p2 := cell_at (v := .int .i64 (rA.bad : Nat)) p1 2 rfl;clear p1;go_upto_region 13 with fail
     go_cut [5, 6, 52] (fun s i c wx => s = .string ⟨tx.toArray⟩ /\ i = .int .i64 (kk : Nat) /\ c = .bool (decide (rA.bad = 0 /\ rA.at'.kind = 0 /\ kk = 6)) /\ Hid (PR wx g rA) /\ Hid (Pw wx g) /\ Hid (w.grownBy wx (some g)))
     case first =>
      by_cases hbA : rA.bad = 0
      ·rw [hbA] at p2;go_wp2_with fail
       clear p2;refine (at_p g rA wc HP.out).mono ?_;rintro e w9 ⟨rfl, hb2⟩;replace HP := h_ (HP.out.below hb2);replace HTB := h_ (HTB.out.below hb2);replace HD := dB HD hb2;have hsz9 := HD.out.size;clear hb2;simp only [tokV];have hf := field_kindT (rA.at'.kind : Nat) (rA.at'.line : Nat) (rA.at'.col : Nat) ⟨rA.at'.text.toArray⟩ w9
       by_cases hkA : rA.at'.kind = 0
       ·have hkb : (((rA.at'.kind : Nat) : Int) == 0) = true := by rw [hkA]; rfl
        by_cases hk6 : kk = 6
        ·have hk7 : (((kk : Nat) : Int) == 6) = true := by rw [hk6]; rfl
         have HDC : Hid (decide (rA.bad = 0 /\ rA.at'.kind = 0 /\ kk = 6) = true) := h_ (decide_eq_true ⟨hbA, hkA, hk6⟩);clear hkA hk6;go_wp2_with fail
         go_meet
         case rel => exact ⟨rfl, rfl, by rw [HDC.out], HP, HTB, HD⟩
        have hk7 : (((kk : Nat) : Int) == 6) = false := by rw [beq_eq_false_iff_ne]; omega
        have HDC : Hid (decide (rA.bad = 0 /\ rA.at'.kind = 0 /\ kk = 6) = false) := h_ (decide_eq_false (fun h => hk6 h.2.2));clear hkA;go_wp2_with fail
        go_meet
        case rel => exact ⟨rfl, rfl, by rw [HDC.out], HP, HTB, HD⟩
       have hkb : (((rA.at'.kind : Nat) : Int) == 0) = false := by rw [beq_eq_false_iff_ne]; omega
       have HDC : Hid (decide (rA.bad = 0 /\ rA.at'.kind = 0 /\ kk = 6) = false) := h_ (decide_eq_false (fun h => hkA h.2.1));go_wp2_with fail
       go_meet
       case rel => exact ⟨rfl, rfl, by rw [HDC.out], HP, HTB, HD⟩
      have hb' : (((rA.bad : Nat) : Int) == 0) = false := by rw [beq_eq_false_iff_ne]; omega
      have HDC : Hid (decide (rA.bad = 0 /\ rA.at'.kind = 0 /\ kk = 6) = false) := h_ (decide_eq_false (fun h => hbA h.1));go_wp2_with fail
      go_meet
      case rel => exact ⟨rfl, rfl, by rw [HDC.out], HP, HTB, HD⟩
     case rest =>
      clear HP HTB HD p2;obtain ⟨rfl, rfl, rfl, HP, HTB, HD⟩ := hcut;have hszb := HD.out.size
      go_upto_if 52 with fail
      go_cut [5, 6] (fun s i wx => s = .string ⟨tx.toArray⟩ /\ i = .int .i64 (kk : Nat) /\ Hid (PR wx g rB) /\ Hid (Pw wx g) /\ Hid (w.grownBy wx (some g)))
      case first =>
       by_cases hP : (rA.bad = 0 /\ rA.at'.kind = 0 /\ kk = 6)
       ·have hdc : decide (rA.bad = 0 /\ rA.at'.kind = 0 /\ kk = 6) = true := decide_eq_true hP;have HE : Hid (rB = rA.bd rA.at' 2) := h_ (by rw [HRB.out, if_pos hP]);rw [hdc];clear hdc hP;go_wp2_with fail
        refine (at_p g rA wc HP.out).mono ?_;rintro e w9 ⟨rfl, hb3⟩;replace HP := h_ (HP.out.below hb3);replace HTB := h_ (HTB.out.below hb3);replace HD := dB HD hb3;clear hb3;go_wp2_with fail
        refine (bad_p g rA rA.at' 2 w9 HP.out).mono ?_;rintro e w10 ⟨⟨v, rfl⟩, hp, hg⟩;replace HTB := h_ (HTB.out.grown hg (by omega));replace HP := h_ hp;replace HD := dG HD (hg);have hsz10 := HD.out.size;clear hp hg;rw [<- HE.out] at HP;go_wp2_with fail
        go_meet
        case rel => exact ⟨rfl, rfl, HP, HTB, HD⟩
       have hdc : decide (rA.bad = 0 /\ rA.at'.kind = 0 /\ kk = 6) = false := decide_eq_false hP;have HE : Hid (rB = rA) := h_ (by rw [HRB.out, if_neg hP]);rw [hdc];rw [<- HE.out] at HP;clear hdc hP;go_wp2_with fail
       go_meet
       case rel => exact ⟨rfl, rfl, HP, HTB, HD⟩
      case rest =>
       clear HP HTB HD;obtain ⟨rfl, rfl, HP, HTB, HD⟩ := hcut;have hszc := HD.out.size;go_wp2_with fail
       refine (rname_p g rB wc HP.out).mono ?_;rintro e w9 ⟨rfl, hp, hg⟩;replace HTB := h_ (HTB.out.grown hg (by omega));replace HP := h_ hp;replace HD := dG HD (hg);have hsz9 := HD.out.size;clear hp hg;simp only [tokV];obtain ⟨u, hnx⟩ : ∃ t, t = RS.at' rB := ⟨_, rfl⟩
       rw [<- hnx];have HNu := h_ hnx;clear hnx;go_upto_region 16 with fail
       obtain ⟨w10, ku, hw, hkk, hb, hs1, HBu⟩ := newb w9 #[.int .i64 (u.kind : Nat), .string ⟨u.text.toArray⟩, .int .i64 (u.line : Nat), .int .i64 (u.col : Nat)] 60;have hgu : g < ku := by rw [hkk]; exact HP.out.lt
       have heu : w.heap.size <= ku := by omega
       rw [hw, <- hkk];replace HP := h_ (HP.out.below hb);replace HTB := h_ (HTB.out.below hb);replace HD := dB HD hb;clear hw hb hkk hs1;have HUT : Hid (u.line <= 1000000000 /\ u.col <= 1000000000 /\ u.text.length <= 3000) := h_ (by rw [HNu.out]; exact HGB.out.2.at);go_wp2_with fail
       refine (eat_p g (rB.name) [58] w10 HP.out).mono ?_;rintro e w11 ⟨⟨v, rfl⟩, hp, hg⟩;replace HBu := kG hg HBu;replace HTB := h_ (HTB.out.grown hg (by omega));replace HP := h_ hp;replace HD := dG HD (hg);have hsz11 := HD.out.size;clear hp hg;obtain ⟨c0, c1, c2, c3⟩ := cl4 HBu.out;go_wp2_with fail
       have hpl := rplace_p u w11 HTB.out.1 (by have := HUT.out.2.2; omega) HUT.out.1 HUT.out.2.1;simp only [tokV] at hpl;refine (hpl).mono ?_;rintro e w12 ⟨rfl, hb4⟩;clear c0 c1 c2 c3;replace HBu := kB hb4 HBu;replace HP := h_ (HP.out.below hb4);replace HTB := h_ (HTB.out.below hb4);replace HD := dB HD hb4;clear hb4;clear hpl;go_wp2_with fail
       refine (rbase_p g _ w12 HP.out).mono ?_;rintro e w13 ⟨rfl, hp, hg⟩;replace HBu := kG hg HBu;replace HTB := h_ (HTB.out.grown hg (by omega));replace HP := h_ hp;replace HD := dG HD (hg);have hsz13 := HD.out.size;clear hp hg;obtain ⟨b1, hb1⟩ : ∃ x, x = rBase (rB.name.eat wColon) := ⟨_, rfl⟩
       have HG2 : Hid (GR b1.2 /\ b1.1.length <= 3000) := h_ (by rw [hb1]; have h1 := (HGB.out.name.eat wColon).base; exact ⟨h1.1, h1.2.2⟩);rw [show rBase (rB.name.eat [58]) = b1 from hb1.symm] at HP;rw [show rBase (rB.name.eat [58]) = b1 from hb1.symm];have HB1 := h_ hb1;clear hb1;obtain ⟨pu, hpu⟩ : ∃ x, x = u.text ++ plc u.line u.col := ⟨_, rfl⟩
       have hpul : pu.length <= 3022 := by rw [hpu, lsa]; have := plc_len _ _ HUT.out.1 HUT.out.2.1; have := HUT.out.2.2; omega
       rw [<- hpu];have HPU := h_ hpu;clear hpu;have hs0 : (⟨tx.toArray⟩ : ByteArray).size = tx.length := rfl;have hs1 : (⟨pu.toArray⟩ : ByteArray).size = pu.length := rfl;have hs2 : (⟨b1.1.toArray⟩ : ByteArray).size = b1.1.length := rfl;have hbl := HG2.out.2;have h44 : (⟨#[44]⟩ : ByteArray).size = 1 := rfl;have htx : tx.length <= 300000000 := by omega
       have HZ1 : Hid (z = (pu ++ b1.1 ++ [] ++ [44], b1.2)) := h_ (by have hz := HZ.out; unfold rPar at hz; simp only [if_true, Option.bind_some] at hz; injection hz with hz; rw [<- hz, HB1.out, HPU.out, HNu.out]);obtain ⟨c0, c1, c2, c3⟩ := cl4 HBu.out;go_wp2_with fail
       clear c0 c1 c2 c3;have hz1 := HZ1.out;subst hz1;have hpf := HPF.out.2;simp only [lsa, lsc, lsn] at hpf;go_roundw
       case rel => exact ⟨m', kk + 1, tx ++ (pu ++ b1.1 ++ [] ++ [44]), b1.2, congrArg Value.string (by simp only [show (⟨#[44]⟩ : ByteArray) = ⟨([44] : Bs).toArray⟩ from rfl, cat, List.append_assoc, List.nil_append]), by go_num, by omega, by omega, by simp only [lsa, lsc, lsn]; omega, HCM, h_ HPF.out.1, HP, HTB, HD⟩
       case measure => rw [pr_rphi HP.out, HPHI.out]; omega
   rw [if_pos (.inl hb)] at hcm;injection hcm with hcm;subst hcm;have hb' : (((rj.bad : Nat) : Int) == 0) = false := by rw [beq_eq_false_iff_ne]; omega
   go_wp2_with fail
   refine (eat_p g rj [41] wr HP.out).mono ?_;rintro e w8 ⟨⟨v, rfl⟩, hp, hg⟩;replace HTB := h_ (HTB.out.grown hg (by omega));replace HP := h_ hp;replace HD := dG HD (hg);clear hp hg;go_wp2_with fail
   refine (eat_p g _ [58] w8 HP.out).mono ?_;rintro e w9 ⟨⟨v, rfl⟩, hp, hg⟩;replace HTB := h_ (HTB.out.grown hg (by omega));replace HP := h_ hp;replace HD := dG HD (hg);have hsz9 := HD.out.size;clear hp hg;go_wp2_with fail
   go_ret
   exact ⟨rfl, HP.out, HD.out⟩
def rpgV (l : Bs) (y : (Bs × Bs) × RS) : Value :=
 if (lexS l (1, 1)).2 ≠ 0 then .tuple #[.string ⟨#[]⟩, .int .i64 ((lexS l (1, 1)).2 : Nat), .int .i64 ((((lexS l (1, 1)).1.getLast?).getD tk0).line : Nat), .int .i64 ((((lexS l (1, 1)).1.getLast?).getD tk0).col : Nat)]
 else if y.2.bad ≠ 0 then .tuple #[.string ⟨#[]⟩, .int .i64 (y.2.bad : Nat), .int .i64 (y.2.pl.line : Nat), .int .i64 (y.2.pl.col : Nat)]
 else .tuple #[.string ⟨(y.1.1 ++ y.1.2).toArray⟩, .int .i64 0, .int .i64 0, .int .i64 0]
theorem rprog_p (m n : Nat) (l : Bs) (y : (Bs × Bs) × RS) (w : World) (hl : l.length <= 3000) (hpw : Pow w) (htb : (lexS l (1, 1)).2 = 0 -> TBd (rs0 l)) (hc : (lexS l (1, 1)).2 = 0 -> rProg m n 0 0 [] [] (rs0 l) = some y) :
  Calls Tryz.prog 8 #[.string ⟨l.toArray⟩] w fun e w' => e = .returned (rpgV l y) /\ Below w.heap.size w w' := by
 have hlen := toks_mem hl;have hne := lex_ne l (1, 1);have HPW := h_ hpw;have HTD := h_ htb;have HC := h_ hc;have HGL := h_ (lex_good l (1, 1));clear hpw htb hc;go_enter Tryz.func8, Tryz.ntmps8
 go_wp2_with fail
 refine (ref_any l w (by omega)).mono ?_;rintro e w1 ⟨v, rfl, hT, hb⟩
 obtain ⟨tb, cap, rfl, h1, h2, h3, h4, h5⟩ : ∃ g cap, v = .slice (some ⟨g, 0, none⟩) (lexS l (1, 1)).1.length cap /\ (lexS l (1, 1)).1.length <= cap /\ cap <= maxLen /\ w.heap.size <= g /\ g < w1.heap.size /\ ∀ k (hk : k < (lexS l (1, 1)).1.length), w1.cell? ⟨g, k * 4, none⟩ = some (.int .i64 ((lexS l (1, 1)).1[k].kind : Nat)) /\ w1.cell? ⟨g, k * 4 + 1, none⟩ = some (.string ⟨(lexS l (1, 1)).1[k].text.toArray⟩) /\ w1.cell? ⟨g, k * 4 + 2, none⟩ = some (.int .i64 ((lexS l (1, 1)).1[k].line : Nat)) /\ w1.cell? ⟨g, k * 4 + 3, none⟩ = some (.int .i64 ((lexS l (1, 1)).1[k].col : Nat)) := by
  obtain ⟨a, cap, rfl, q1, q2, q3⟩ := hT.form;obtain ⟨g, rfl, q4, q5, q6⟩ := q3 hne;exact ⟨g, cap, rfl, q1, q2, q4, q5, q6⟩
 have HB := h_ hb;replace HPW := h_ (tab_below HPW.out hb);clear hb hT
 by_cases hz : (lexS l (1, 1)).2 = 0
 ·have HTK := h_ (toks_of (o := 0) fun k hk => by rw [Nat.zero_add, Nat.zero_add, Nat.zero_add, Nat.zero_add]; exact h5 k hk);have HCC := h_ (HC.out hz);have HTT := h_ (HTD.out hz);have HGG := h_ (HGL.out hz);clear h5 HC HTD HGL;rw [hz];have HV : Hid (rpgV l y = if y.2.bad ≠ 0 then .tuple #[.string ⟨#[]⟩, .int .i64 (y.2.bad : Nat), .int .i64 (y.2.pl.line : Nat), .int .i64 (y.2.pl.col : Nat)] else .tuple #[.string ⟨(y.1.1 ++ y.1.2).toArray⟩, .int .i64 0, .int .i64 0, .int .i64 0]) := h_ (by unfold rpgV; rw [if_neg (by omega)]);go_upto_region 6 with fail
  obtain ⟨w2, hw⟩ : ∃ x, x = w1.alloc (.cells #[.slice (some ⟨tb, 0, none⟩) (lexS l (1, 1)).1.length cap, .int .i64 0, .int .i64 0, .int .i64 0, .string ⟨#[]⟩, .int .i64 0, .int .i64 0] 63) := ⟨_, rfl⟩
  have hb : Below w1.heap.size w1 w2 := by rw [hw]; exact (Below.refl _ _).alloc (Nat.le_refl _) _
  have hk : w2.heap[w1.heap.size]? = some (.cells #[.slice (some ⟨tb, 0, none⟩) (lexS l (1, 1)).1.length cap, .int .i64 0, .int .i64 0, .int .i64 0, .string ⟨#[]⟩, .int .i64 0, .int .i64 0] 63 (0, 0)) := by rw [hw]; exact made_at w1 _ _ rfl
  rw [<- hw];obtain ⟨g, hkk⟩ : ∃ k, k = w1.heap.size := ⟨_, rfl⟩
  have hwg : w.heap.size <= g := by rw [hkk]; exact HB.out.size
  rw [<- hkk] at hk ⊢;have HB2 := h_ (HB.out.trans (hb.mono HB.out.size));have HPR : Hid (PR w2 g (rs0 l)) := h_ ⟨tb, 0, _, cap, hk, HGG.out, by simp [rs0], h1, h2, by omega, by omega, Nat.lt_of_lt_of_le h4 hb.size, by rw [Nat.zero_mul]; exact HTK.out.below h4 hb⟩;have HPw : Hid (Pw w2 g) := h_ ⟨tab_below HPW.out hb, by have := pow_lt HPW.out; omega⟩;have hph0 : phi (rs0 l) <= 30000000 := by unfold phi rs0; simp only [if_true]; omega
  have HGR0 := h_ (GR.of HPR.out HTT.out);have HD := h_ (below_grown (Below.refl w2.heap.size w2) (some g));clear hw hb hk hkk h1 h2 h3 h4 HGG HTK hne hlen HTT HPW HB;go_wp2_with fail
  go_loopw [10, 11, 12, 13] (fun qv fv av bv wr => ∃ (m' ak bk : Nat) (qs fs : Bs) (rj : RS), qv = .string ⟨qs.toArray⟩ /\ fv = .string ⟨fs.toArray⟩ /\ av = .int .i64 (ak : Nat) /\ bv = .int .i64 (bk : Nat) /\ ak + bk + phi rj <= 300000000 /\ qs.length + fs.length + phi rj <= 300000000 /\ Hid (rProg m' n ak bk qs fs rj = some y) /\ Hid (GR rj) /\ Hid (PR wr g rj) /\ Hid (Pw wr g) /\ Hid (w2.grownBy wr (some g))) (fun _ _ _ _ wr => rPhi wr g)
  case atStart => exact ⟨m, 0, 0, [], [], rs0 l, rfl, rfl, rfl, rfl, by omega, by simp only [lsn]; omega, HCC, HGR0, HPR, HPw, HD⟩
  case round =>
   clear HCC HGR0 HPR HPw HD hph0;obtain ⟨m', ak, bk, qs, fs, rj, rfl, rfl, rfl, rfl, hcnt, hqf, HC, HG, HP, HTB, HD⟩ := hrel;have hszr := HD.out.size;have HPHI := h_ (pr_rphi HP.out);have HPL := h_ (phi_le HP.out);have hcm := HC.out
   cases m' with
   | zero => exact absurd hcm (by simp [rProg])
   | succ m' =>
    rw [rProg] at hcm;clear HC;obtain ⟨pb, pi, pn, pc, p1, -⟩ := HP.out;have p2 := cell_at (v := .int .i64 (rj.bad : Nat)) p1 2 rfl;clear p1
    by_cases hb : rj.bad = 0
    ·rw [hb] at p2;go_wp2_with fail
     clear p2;refine (at_p g rj wr HP.out).mono ?_;rintro e w21 ⟨rfl, hb1⟩;replace HP := h_ (HP.out.below hb1);replace HTB := h_ (HTB.out.below hb1);replace HD := dB HD hb1;have hsz21 := HD.out.size;clear hb1;simp only [tokV];have hf := field_kindT (rj.at'.kind : Nat) (rj.at'.line : Nat) (rj.at'.col : Nat) ⟨rj.at'.text.toArray⟩ w21
     by_cases hk4 : rj.at'.kind = 4
     ·rw [if_pos (.inr hk4)] at hcm;injection hcm with hcm;subst hcm;have hk4' : (((rj.at'.kind : Nat) : Int) == 4) = true := by rw [hk4]; rfl
      obtain ⟨qb, qi, qn, qc, q1, -⟩ := HP.out;have q2 := cell_at (v := .int .i64 (rj.bad : Nat)) q1 2 rfl;rw [hb] at q2;clear q1 hk4;have hs1 : (⟨qs.toArray⟩ : ByteArray).size = qs.length := rfl;have hs2 : (⟨fs.toArray⟩ : ByteArray).size = fs.length := rfl;have HBW : Hid (Below w.heap.size w w21) := h_ (HB2.out.trans (grown_below HD.out HB2.out.size hwg));have HB0 := h_ hb;clear hb;go_wp2_with fail
      refine bodyPost_ret (v := .tuple #[.string (⟨qs.toArray⟩ ++ ⟨fs.toArray⟩), .int .i64 0, .int .i64 0, .int .i64 0]) (by simp [results, Tryz.results8, go_sem]) rfl ⟨?_, HBW.out⟩;rw [HV.out, if_neg (by rw [HB0.out]; simp), cat]
     have hk4' : (((rj.at'.kind : Nat) : Int) == 4) = false := by rw [beq_eq_false_iff_ne]; omega
     rw [if_neg (fun h => h.elim (fun h => h hb) hk4)] at hcm;have HK4 := h_ hk4;clear hk4;go_wp2_with fail
     clear hf hk4';refine (is_p g rj [113, 117, 97, 108, 105, 102] w21 HP.out).mono ?_;rintro e w22 ⟨rfl, hb1⟩;replace HP := h_ (HP.out.below hb1);replace HTB := h_ (HTB.out.below hb1);replace HD := dB HD hb1;have hsz22 := HD.out.size;clear hb1
     by_cases hi : rj.is [113, 117, 97, 108, 105, 102] = true
     ·rw [if_pos (show rj.is wQualif = true from hi), Option.bind_eq_some_iff] at hcm;obtain ⟨z, hz, hcm⟩ := hcm;rw [hi];clear hi;have HCM := h_ hcm;have HPF := h_ (qual_fin (HG.out.inc HK4.out) (show rj.inc.bad = 0 from hb) hz);have HPI := h_ (phi_inc HG.out);have HGI := h_ (HG.out.inc HK4.out);clear hcm hb;unfold rQual at hz;simp only [Option.bind_eq_some_iff] at hz;obtain ⟨x, hx, yy, hy, hz⟩ := hz;injection hz with hz;have HX := h_ hx;have HY := h_ hy;have HZ := h_ hz;clear hx hy hz;have HK4 : Hid (rj.at'.kind ≠ 4) := h_ (HK4.out);obtain ⟨pb, pi, pn, pc, h1, h2, h3, h4, h5, h6, h7, h8, h9⟩ := HP.out;have g1 := cell_at (v := .int .i64 (pi : Nat)) h1 1 rfl;have f1 := froz_at h1 1;have hil : pi <= 30000 := by omega
      have HH := h_ (And.intro h1 (And.intro h2 (And.intro h3 (And.intro h4 (And.intro h5 (And.intro h6 (And.intro h7 (And.intro h8 h9))))))));clear h1 h2 h3 h4 h5 h6 h7 h8 h9;go_upto_region 11 with fail
      clear g1 f1;obtain ⟨h1, h2, h3, h4, h5, h6, h7, h8, h9⟩ := HH.out;have hc0 := heap_setCell_same _ g 1 _ _ (.int .i64 ((pi + 1 : Nat) : Int)) h1;obtain ⟨w23, hw⟩ : ∃ x, x = w22.setCell ⟨g, 1, none⟩ (.int .i64 ((pi + 1 : Nat) : Int)) := ⟨_, rfl⟩
      have hg : w22.grownBy w23 (some g) := by rw [hw]; exact grown_set _ _ _ _
      rw [<- hw] at hc0;have hw' : w22.setCell ⟨g, 1, none⟩ (.int .i64 ((pi : Int) + 1)) = w23 := by rw [hw]; rfl
      rw [hw'];have hp := PR.inc hg hc0 HK4.out h2 h3 h4 h5 h6 h7 h8 h9;clear hw hw' hc0 h1 h2 h3 h4 h5 h6 h7 h8 h9 HH HK4 hil;replace HTB := h_ (HTB.out.grown hg (by omega));replace HP := h_ hp;replace HD := dG HD (hg);clear hp hg;go_wp2_with fail
      refine (rname_p g rj.inc w23 HP.out).mono ?_;rintro e w24 ⟨rfl, hp, hg⟩;replace HTB := h_ (HTB.out.grown hg (by omega));replace HP := h_ hp;replace HD := dG HD (hg);have hsz24 := HD.out.size;clear hp hg;simp only [tokV];obtain ⟨t, hnx⟩ : ∃ t, t = RS.at' rj.inc := ⟨_, rfl⟩
      rw [<- hnx];have HNt := h_ hnx;clear hnx;go_upto_region 12 with fail
      obtain ⟨w25, kt, hw, hkk, hb, hs1, HBt⟩ := newb w24 #[.int .i64 (t.kind : Nat), .string ⟨t.text.toArray⟩, .int .i64 (t.line : Nat), .int .i64 (t.col : Nat)] 60;have hgt : g < kt := by rw [hkk]; exact HP.out.lt
      have het : w2.heap.size <= kt := by omega
      rw [hw, <- hkk];replace HP := h_ (HP.out.below hb);replace HTB := h_ (HTB.out.below hb);replace HD := dB HD hb;have hsz25 := HD.out.size;clear hw hb hkk hs1;have HTT : Hid (t.line <= 1000000000 /\ t.col <= 1000000000 /\ t.text.length <= 3000) := h_ (by rw [HNt.out]; exact HGI.out.2.at);rw [<- HNt.out] at HX HZ;obtain ⟨r3, hr3⟩ : ∃ x, x = (if ak = 20 then (rj.inc).name.bd t 2 else (rj.inc).name) := ⟨_, rfl⟩
      have HR3 := h_ hr3;clear hr3
      go_upto_if 61 with fail
      go_cut [10, 11, 12, 13, 14] (fun qv fv av bv tv wx => qv = .string ⟨qs.toArray⟩ /\ fv = .string ⟨fs.toArray⟩ /\ av = .int .i64 (ak : Nat) /\ bv = .int .i64 (bk : Nat) /\ tv = .pointer (some ⟨kt, 0, none⟩) /\ Hid (wx.heap[kt]? = some (.cells #[.int .i64 (t.kind : Nat), .string ⟨t.text.toArray⟩, .int .i64 (t.line : Nat), .int .i64 (t.col : Nat)] 60 (0, 0))) /\ Hid (PR wx g r3) /\ Hid (Pw wx g) /\ Hid (w2.grownBy wx (some g)))
      case first =>
       by_cases h20 : ak = 20
       ·have h20b : (((ak : Nat) : Int) == 20) = true := by rw [h20]; rfl
        have HE : Hid (r3 = (rj.inc).name.bd t 2) := h_ (by rw [HR3.out, if_pos h20]);clear h20;obtain ⟨c0, c1, c2, c3⟩ := cl4 HBt.out;go_wp2_with fail
        have hbd := bad_p g (rj.inc).name t 2 w25 HP.out;simp only [tokV] at hbd;refine (hbd).mono ?_;rintro e w26 ⟨⟨v, rfl⟩, hp, hg⟩;clear c0 c1 c2 c3;replace HBt := kG hg HBt;replace HTB := h_ (HTB.out.grown hg (by omega));replace HP := h_ hp;replace HD := dG HD (hg);have hsz26 := HD.out.size;clear hp hg;clear hbd;rw [<- HE.out] at HP;go_wp2_with fail
        go_meet
        case rel => exact ⟨rfl, rfl, rfl, rfl, rfl, HBt, HP, HTB, HD⟩
       have h20b : (((ak : Nat) : Int) == 20) = false := by rw [beq_eq_false_iff_ne]; omega
       have HE : Hid (r3 = (rj.inc).name) := h_ (by rw [HR3.out, if_neg h20]);clear h20;rw [<- HE.out] at HP;go_wp2_with fail
       go_meet
       case rel => exact ⟨rfl, rfl, rfl, rfl, rfl, HBt, HP, HTB, HD⟩
      case rest =>
       clear HP HTB HD HBt;obtain ⟨rfl, rfl, rfl, rfl, rfl, HBt, HP, HTB, HD⟩ := hcut;have hszc := HD.out.size;have HGL : Hid (GR r3 /\ phi r3 <= phi rj) := h_ (by have h := lim_fin (a := ak) HGI.out; rw [<- HNt.out, <- HR3.out] at h; have := HPI.out; exact ⟨h.1, by omega⟩);rw [<- HR3.out] at HX;obtain ⟨c0, c1, c2, c3⟩ := cl4 HBt.out;have hcnt2 : ak <= 300000000 /\ bk <= 300000000 := by omega
       obtain ⟨hcnt2, hcnt3⟩ := hcnt2;go_wp2_with fail
       have hpl := rplace_p t wc HTB.out.1 (by have := HTT.out.2.2; omega) HTT.out.1 HTT.out.2.1;simp only [tokV] at hpl;refine (hpl).mono ?_;rintro e w26 ⟨rfl, hb4⟩;clear c0 c1 c2 c3;replace HBt := kB hb4 HBt;replace HP := h_ (HP.out.below hb4);replace HTB := h_ (HTB.out.below hb4);replace HD := dB HD hb4;have hsz26 := HD.out.size;clear hb4;clear hpl;obtain ⟨pl, hpl⟩ : ∃ x, x = t.text ++ plc t.line t.col := ⟨_, rfl⟩
       have hpll : pl.length <= 3022 := by rw [hpl, lsa]; have := plc_len _ _ HTT.out.1 HTT.out.2.1; have := HTT.out.2.2; omega
       rw [<- hpl];have HPLC := h_ hpl;clear hpl;have hs1 : (⟨pl.toArray⟩ : ByteArray).size = pl.length := rfl;have hs2 : (⟨qs.toArray⟩ : ByteArray).size = qs.length := rfl;have hs3 : (⟨fs.toArray⟩ : ByteArray).size = fs.length := rfl;have h91 : (⟨#[91, 113, 32]⟩ : ByteArray).size = 3 := rfl;have h91' : (⟨#[91, 102, 32]⟩ : ByteArray).size = 3 := rfl;have h93 : (⟨#[93]⟩ : ByteArray).size = 1 := rfl;go_wp2_with fail
       refine (rparams_t m' n g r3 x w26 HP.out HGL.out.1.2 HTB.out HX.out).mono ?_;rintro e w27 ⟨rfl, hp, hg⟩;replace HBt := kG hg HBt;replace HTB := h_ (HTB.out.grown hg (by omega));replace HP := h_ hp;replace HD := dG HD (hg);have hsz27 := HD.out.size;clear hp hg;have HXF := h_ (params_fin HGL.out.1 HX.out);have hxl : x.1.length <= 300000000 := by have h := HXF.out.2; have := HGL.out.2; have := HPL.out; simp only [if_true] at h; omega
       have hs4 : (⟨x.1.toArray⟩ : ByteArray).size = x.1.length := rfl;go_wp2_with fail
       refine (rall_p n g x.2 yy w27 HP.out HXF.out.1.2 HTB.out HY.out).mono ?_;rintro e w28 ⟨rfl, hp, hg⟩;replace HBt := kG hg HBt;replace HTB := h_ (HTB.out.grown hg (by omega));replace HP := h_ hp;replace HD := dG HD (hg);have hsz28 := HD.out.size;clear hp hg;have hyl : yy.1.length <= 300000000 := Nat.le_trans (Nat.le_trans (Nat.le_add_right _ _) (all_fin HXF.out.1 HY.out).2) (by have h := HXF.out.2; have := HGL.out.2; have := HPL.out; simp only [if_true] at h; omega);have hs5 : (⟨yy.1.toArray⟩ : ByteArray).size = yy.1.length := rfl;go_wp2_with fail
       have hz1 := HZ.out;rw [<- HPLC.out] at hz1;subst hz1;have hpf := HPF.out.2;simp only at hpf;have hpi := HPI.out;go_roundw
       case rel => exact ⟨m', ak + 1, bk, qs ++ ([91, 113, 32] ++ pl ++ x.1 ++ (yy.1 ++ [93])), fs, yy.2, congrArg Value.string (by simp only [show (⟨#[91, 113, 32]⟩ : ByteArray) = ⟨([91, 113, 32] : Bs).toArray⟩ from rfl, show (⟨#[91, 102, 32]⟩ : ByteArray) = ⟨([91, 102, 32] : Bs).toArray⟩ from rfl, show (⟨#[93]⟩ : ByteArray) = ⟨([93] : Bs).toArray⟩ from rfl, cat, List.append_assoc]), rfl, by go_num, rfl, by omega, by rw [lsa]; omega, HCM, h_ HPF.out.1, HP, HTB, HD⟩
       case measure => rw [pr_rphi HP.out, HPHI.out]; omega
     have hif : rj.is [113, 117, 97, 108, 105, 102] = false := by simpa using hi
     rw [if_neg (show ¬ rj.is wQualif = true from hi), Option.bind_eq_some_iff] at hcm;obtain ⟨z, hz, hcm⟩ := hcm;rw [hif];clear hi hif;have HCM := h_ hcm;obtain ⟨r1, hr1⟩ : ∃ x, x = rj.eat wFun := ⟨_, rfl⟩
     rw [<- hr1] at hz;have HG1 : Hid (GR r1) := h_ (by rw [hr1]; exact HG.out.eat _);have HPI : Hid (phi r1 + 7000 <= phi rj) := h_ (by have h := phi_eat HG.out wFun; rw [if_pos hb] at h; rw [hr1]; exact h);have HPF := h_ (fun_fin HG1.out hz);have HR1 : Hid (rj.eat [102, 117, 110] = r1) := h_ hr1.symm;clear hcm hb hr1;unfold rFun at hz;simp only [Option.bind_eq_some_iff] at hz;obtain ⟨x, hx, xr, hxr, yy, hy, hz⟩ := hz;injection hz with hz;have HX := h_ hx;have HXR := h_ hxr;have HY := h_ hy;have HZ := h_ hz;clear hx hxr hy hz;go_wp2_with fail
     refine (eat_p g (rj) [102, 117, 110] w22 HP.out).mono ?_;rintro e w23 ⟨⟨v, rfl⟩, hp, hg⟩;replace HTB := h_ (HTB.out.grown hg (by omega));replace HP := h_ hp;replace HD := dG HD (hg);clear hp hg;rw [HR1.out] at HP;go_wp2_with fail
     refine (rname_p g r1 w23 HP.out).mono ?_;rintro e w24 ⟨rfl, hp, hg⟩;replace HTB := h_ (HTB.out.grown hg (by omega));replace HP := h_ hp;replace HD := dG HD (hg);have hsz24 := HD.out.size;clear hp hg;simp only [tokV];obtain ⟨t, hnx⟩ : ∃ t, t = RS.at' r1 := ⟨_, rfl⟩
     rw [<- hnx];have HNt := h_ hnx;clear hnx;go_upto_region 19 with fail
     obtain ⟨w25, kt, hw, hkk, hb, hs1, HBt⟩ := newb w24 #[.int .i64 (t.kind : Nat), .string ⟨t.text.toArray⟩, .int .i64 (t.line : Nat), .int .i64 (t.col : Nat)] 60;have hgt : g < kt := by rw [hkk]; exact HP.out.lt
     have het : w2.heap.size <= kt := by omega
     rw [hw, <- hkk];replace HP := h_ (HP.out.below hb);replace HTB := h_ (HTB.out.below hb);replace HD := dB HD hb;have hsz25 := HD.out.size;clear hw hb hkk hs1;have HTT : Hid (t.line <= 1000000000 /\ t.col <= 1000000000 /\ t.text.length <= 3000) := h_ (by rw [HNt.out]; exact HG1.out.2.at);rw [<- HNt.out] at HX HZ;obtain ⟨r3, hr3⟩ : ∃ x, x = (if bk = 20 then (r1).name.bd t 2 else (r1).name) := ⟨_, rfl⟩
     have HR3 := h_ hr3;clear hr3
     go_upto_if 85 with fail
     go_cut [10, 11, 12, 13, 15] (fun qv fv av bv tv wx => qv = .string ⟨qs.toArray⟩ /\ fv = .string ⟨fs.toArray⟩ /\ av = .int .i64 (ak : Nat) /\ bv = .int .i64 (bk : Nat) /\ tv = .pointer (some ⟨kt, 0, none⟩) /\ Hid (wx.heap[kt]? = some (.cells #[.int .i64 (t.kind : Nat), .string ⟨t.text.toArray⟩, .int .i64 (t.line : Nat), .int .i64 (t.col : Nat)] 60 (0, 0))) /\ Hid (PR wx g r3) /\ Hid (Pw wx g) /\ Hid (w2.grownBy wx (some g)))
     case first =>
      by_cases h20 : bk = 20
      ·have h20b : (((bk : Nat) : Int) == 20) = true := by rw [h20]; rfl
       have HE : Hid (r3 = (r1).name.bd t 2) := h_ (by rw [HR3.out, if_pos h20]);clear h20;obtain ⟨c0, c1, c2, c3⟩ := cl4 HBt.out;go_wp2_with fail
       have hbd := bad_p g (r1).name t 2 w25 HP.out;simp only [tokV] at hbd;refine (hbd).mono ?_;rintro e w26 ⟨⟨v, rfl⟩, hp, hg⟩;clear c0 c1 c2 c3;replace HBt := kG hg HBt;replace HTB := h_ (HTB.out.grown hg (by omega));replace HP := h_ hp;replace HD := dG HD (hg);have hsz26 := HD.out.size;clear hp hg;clear hbd;rw [<- HE.out] at HP;go_wp2_with fail
       go_meet
       case rel => exact ⟨rfl, rfl, rfl, rfl, rfl, HBt, HP, HTB, HD⟩
      have h20b : (((bk : Nat) : Int) == 20) = false := by rw [beq_eq_false_iff_ne]; omega
      have HE : Hid (r3 = (r1).name) := h_ (by rw [HR3.out, if_neg h20]);clear h20;rw [<- HE.out] at HP;go_wp2_with fail
      go_meet
      case rel => exact ⟨rfl, rfl, rfl, rfl, rfl, HBt, HP, HTB, HD⟩
     case rest =>
      clear HP HTB HD HBt;obtain ⟨rfl, rfl, rfl, rfl, rfl, HBt, HP, HTB, HD⟩ := hcut;have hszc := HD.out.size;have HGL : Hid (GR r3 /\ phi r3 <= phi rj) := h_ (by have h := lim_fin (a := bk) HG1.out; rw [<- HNt.out, <- HR3.out] at h; have := HPI.out; exact ⟨h.1, by omega⟩);rw [<- HR3.out] at HX;obtain ⟨c0, c1, c2, c3⟩ := cl4 HBt.out;have hcnt2 : ak <= 300000000 /\ bk <= 300000000 := by omega
      obtain ⟨hcnt2, hcnt3⟩ := hcnt2;go_wp2_with fail
      have hpl := rplace_p t wc HTB.out.1 (by have := HTT.out.2.2; omega) HTT.out.1 HTT.out.2.1;simp only [tokV] at hpl;refine (hpl).mono ?_;rintro e w26 ⟨rfl, hb4⟩;clear c0 c1 c2 c3;replace HBt := kB hb4 HBt;replace HP := h_ (HP.out.below hb4);replace HTB := h_ (HTB.out.below hb4);replace HD := dB HD hb4;have hsz26 := HD.out.size;clear hb4;clear hpl;obtain ⟨pl, hpl⟩ : ∃ x, x = t.text ++ plc t.line t.col := ⟨_, rfl⟩
      have hpll : pl.length <= 3022 := by rw [hpl, lsa]; have := plc_len _ _ HTT.out.1 HTT.out.2.1; have := HTT.out.2.2; omega
      rw [<- hpl];have HPLC := h_ hpl;clear hpl;have hs1 : (⟨pl.toArray⟩ : ByteArray).size = pl.length := rfl;have hs2 : (⟨qs.toArray⟩ : ByteArray).size = qs.length := rfl;have hs3 : (⟨fs.toArray⟩ : ByteArray).size = fs.length := rfl;have h91 : (⟨#[91, 113, 32]⟩ : ByteArray).size = 3 := rfl;have h91' : (⟨#[91, 102, 32]⟩ : ByteArray).size = 3 := rfl;have h93 : (⟨#[93]⟩ : ByteArray).size = 1 := rfl;go_wp2_with fail
      refine (rparams_f m' n g r3 x w26 HP.out HGL.out.1.2 HTB.out HX.out).mono ?_;rintro e w27 ⟨rfl, hp, hg⟩;replace HBt := kG hg HBt;replace HTB := h_ (HTB.out.grown hg (by omega));replace HP := h_ hp;replace HD := dG HD (hg);have hsz27 := HD.out.size;clear hp hg;have HXF : Hid (GR x.2 /\ x.1.length + phi x.2 <= phi r3) := h_ (by have h := params_fin HGL.out.1 HX.out; simp only [Bool.false_eq_true, if_false, Nat.zero_add] at h; exact h);have hxl : x.1.length <= 300000000 := by have h := HXF.out.2; have := HGL.out.2; have := HPL.out; omega
      have hs4 : (⟨x.1.toArray⟩ : ByteArray).size = x.1.length := rfl;go_wp2_with fail
      refine (at_p g x.2 w27 HP.out).mono ?_;rintro e w28 ⟨rfl, hb5⟩;replace HBt := kB hb5 HBt;replace HP := h_ (HP.out.below hb5);replace HTB := h_ (HTB.out.below hb5);replace HD := dB HD hb5;have hsz28 := HD.out.size;clear hb5;simp only [tokV];obtain ⟨u, hnx⟩ : ∃ t, t = RS.at' x.2 := ⟨_, rfl⟩
      rw [<- hnx];have HNu := h_ hnx;clear hnx;go_upto_region 24 with fail
      obtain ⟨w29, ku, hw, hkk, hb, hs1, HBu⟩ := newb w28 #[.int .i64 (u.kind : Nat), .string ⟨u.text.toArray⟩, .int .i64 (u.line : Nat), .int .i64 (u.col : Nat)] 60;have hgu : g < ku := by rw [hkk]; exact HP.out.lt
      have heu : w2.heap.size <= ku := by omega
      have ht_u : kt < ku := by rw [hkk]; exact lt_of_block HBt.out
      rw [hw, <- hkk];replace HBt := kB hb HBt;replace HP := h_ (HP.out.below hb);replace HTB := h_ (HTB.out.below hb);replace HD := dB HD hb;have hsz29 := HD.out.size;clear hw hb hkk hs1;have HUT : Hid (u.line <= 1000000000 /\ u.col <= 1000000000 /\ u.text.length <= 3000) := h_ (by rw [HNu.out]; exact HXF.out.1.2.at);rw [<- HNu.out] at HZ;obtain ⟨b0, hb0⟩ : ∃ b, b = rBase x.2 := ⟨_, rfl⟩
      rw [<- hb0] at HZ HXR;have HGB : Hid (GR b0.2 /\ phi b0.2 <= phi x.2 /\ b0.1.length <= 3000) := h_ (by rw [hb0]; exact HXF.out.1.base);have HB0 := h_ hb0;clear hb0;obtain ⟨pu, hpu⟩ : ∃ p, p = plc u.line u.col := ⟨_, rfl⟩
      have hpul : pu.length <= 22 := by rw [hpu]; exact plc_len _ _ HUT.out.1 HUT.out.2.1
      have HPU := h_ hpu;rw [<- hpu] at HZ;clear hpu;have hbl := HGB.out.2.2;have hs6 : (⟨b0.1.toArray⟩ : ByteArray).size = b0.1.length := rfl;have hs7 : (⟨pu.toArray⟩ : ByteArray).size = pu.length := rfl;obtain ⟨bq, hbq⟩ : ∃ p, p = b0.1 ++ pu := ⟨_, rfl⟩
      have HBQ := h_ hbq;clear hbq;have hlt_u := lt_of_block HBu.out;have hog : ∀ q, q < 1 -> (fun q => g) q < w29.heap.size := fun q _ => by show g < _; exact HP.out.lt
      refine R7.region (by kernel_rfl) [[], [], [1], [], [3], [], [5], [3, 4, 5, 6], [1, 2, 3, 4, 5, 6, 7], [1, 2, 3, 4, 5, 6, 7, 8], [0, 1, 2, 3, 4, 5, 6, 7, 8, 9], [0, 1, 2, 3, 4, 5, 6, 7, 8, 9, 10]] [] [(2, 1000)] (fun q => g) 1 10 (by kernel_rfl) (by kernel_rfl) (by rfl) hog (fun q q' h h' hn => absurd hn (by omega)) ?_;refine R7.Chain.det ?_ (by rfl) (fun T xs wr hA => ?_) ?_
      rotate_left 1
      ·have e11 := hA.pre 11 (by kernel_rfl);simp only [gsa, gsc, gsz] at e11;clear hA;refine ⟨(by rfl), ?_⟩;go_simp <;> (try with_reducible rfl)
      refine R7.Chain.det ?_ (by rfl) (fun T xs wr hA => ?_) ?_
      rotate_left 1
      ·have e9 := hA.pre 9 (by kernel_rfl);simp only [gsa, gsc, gsz] at e9;clear hA;refine ⟨(by rfl), ?_⟩;go_simp <;> (try with_reducible rfl)
      refine R7.Chain.callOld 0 (fun xs v w => v = .string ⟨b0.1.toArray⟩ /\ PR w g b0.2) (fun _ _ _ _ ⟨h1, h2⟩ hb => ⟨h1, h2.below hb⟩) (fun _ _ _ _ q' _ hq hne _ => absurd rfl hne) (by rfl) (by rfl) (by decide) (R7.own_one (by rfl)) (fun T xs wr hA hold => ?_) ?_
      ·have hsw := (hA.be 0 (Nat.zero_le _) (fun _ _ => Nat.zero_le _)).size;have e102 := (hA.tm 1 102 (by rfl) (by rfl)).trans (congrArg some (hA.fa 1 (by rfl)))
       (try simp (disch := first | rfl | decide) only [R7.mask_in] at e102)
       have h0 := undrew (hA.be 0 (Nat.zero_le _) (fun _ _ => Nat.zero_le _))
       have hbw : Below w29.heap.size w29 wr := ⟨h0.os, h0.tape, h0.output, h0.size, fun k hk => by
        by_cases e : k = g
        ·rw [e]; exact hold
        exact hA.bl k hk (fun q _ h => e h.symm)⟩
       clear hA;refine ⟨(by rfl), fun K hK => ?_⟩;go_simp
       refine (rbase_p g x.2 wr (HP.out.below hbw)).mono ?_;rintro e w' ⟨rfl, hp, hg⟩;exact hK.out _ _ ⟨by rw [HB0.out], by rw [HB0.out]; exact hp⟩ (R7.Priv.of hg)
      refine R7.Chain.det ?_ (by rfl) (fun T xs wr hA => ?_) ?_
      rotate_left 1
      ·have e16 := hA.pre 16 (by kernel_rfl);simp only [gsa, gsc, gsz] at e16;clear hA;refine ⟨(by rfl), ?_⟩;go_simp <;> (try with_reducible rfl)
      refine R7.Chain.det ?_ (by rfl) (fun T xs wr hA => ?_) ?_
      rotate_left 1
      ·have e104 := (hA.tm 3 104 (by rfl) (by rfl)).trans (congrArg some (hA.fa 3 (by rfl)))
       (try simp (disch := first | rfl | decide) only [R7.mask_in] at e104)
       have hBq : wr.heap[ku]? = _ := (hA.bl _ hlt_u (fun q _ => by show g ≠ ku; omega)).trans HBu.out;obtain ⟨q0, q1, q2, q3⟩ := cl4 hBq;clear hBq;clear hA;refine ⟨(by rfl), ?_⟩;go_simp <;> (try with_reducible rfl)
      refine R7.Chain.det ?_ (by rfl) (fun T xs wr hA => ?_) ?_
      rotate_left 1
      ·have e16 := hA.pre 16 (by kernel_rfl);simp only [gsa, gsc, gsz] at e16;clear hA;refine ⟨(by rfl), ?_⟩;go_simp <;> (try with_reducible rfl)
      refine R7.Chain.det ?_ (by rfl) (fun T xs wr hA => ?_) ?_
      rotate_left 1
      ·have e106 := (hA.tm 5 106 (by rfl) (by rfl)).trans (congrArg some (hA.fa 5 (by rfl)))
       (try simp (disch := first | rfl | decide) only [R7.mask_in] at e106)
       have hBq : wr.heap[ku]? = _ := (hA.bl _ hlt_u (fun q _ => by show g ≠ ku; omega)).trans HBu.out;obtain ⟨q0, q1, q2, q3⟩ := cl4 hBq;clear hBq;clear hA;refine ⟨(by rfl), ?_⟩;go_simp <;> (try with_reducible rfl)
      refine R7.Chain.det ?_ (by rfl) (fun T xs wr hA => ?_) ?_
      rotate_left 1
      ·have e105 := (hA.tm 4 105 (by rfl) (by rfl)).trans (congrArg some (hA.fa 4 (by rfl)))
       (try simp (disch := first | rfl | decide) only [R7.mask_in] at e105)
       have e107 := (hA.tm 6 107 (by rfl) (by rfl)).trans (congrArg some (hA.fa 6 (by rfl)))
       (try simp (disch := first | rfl | decide) only [R7.mask_in] at e107)
       clear hA;refine ⟨(by rfl), ?_⟩;go_simp <;> (try with_reducible rfl)
      refine R7.Chain.call (fun xs v w => v = .string ⟨pu.toArray⟩) (fun _ _ _ _ h _ => h) (fun _ _ _ _ _ h _ _ => h) (by rfl) (fun T xs wr hA => ?_) ?_
      ·have hsw := (hA.be 0 (Nat.zero_le _) (fun _ _ => Nat.zero_le _)).size;have e108 := (hA.tm 7 108 (by rfl) (by rfl)).trans (congrArg some (hA.fa 7 (by rfl)))
       (try simp (disch := first | rfl | decide) only [R7.mask_in] at e108)
       have h0 := undrew (hA.be 0 (Nat.zero_le _) (fun _ _ => Nat.zero_le _));have hgw : w29.grownBy wr (some g) := ⟨h0.os, h0.tape, h0.output, h0.size, fun k hk hn => hA.bl k hk (fun q _ e => hn (by rw [<- e]))⟩
       have hpw := (HTB.out.grown hgw (Nat.le_refl _)).1;have hpl := rplace_p ⟨0, [], u.line, u.col⟩ wr hpw (by simp) HUT.out.1 HUT.out.2.1;simp only [tokV, List.nil_append] at hpl;clear hA;refine ⟨(by rfl), fun K hK => ?_⟩;go_simp
       refine Calls.mono hpl ?_;rintro e w' ⟨rfl, hb⟩;exact hK.out _ _ (by rw [HPU.out]) hb
      refine R7.Chain.call (fun xs v w => v = .string ⟨bq.toArray⟩) (fun _ _ _ _ h _ => h) (fun _ _ _ _ _ h _ _ => h) (by rfl) (fun T xs wr hA => ?_) ?_
      ·have hsw := (hA.be 0 (Nat.zero_le _) (fun _ _ => Nat.zero_le _)).size;have e103 := hA.tm 2 103 (by rfl) (by rfl);have e109 := hA.tm 8 109 (by rfl) (by rfl);have f109 : xs 8 = (.string ⟨pu.toArray⟩) := hA.fa 8 (by rfl);rw [f109] at e109;clear f109;have hF2 : (xs 2) = .string ⟨b0.1.toArray⟩ /\ PR wr g b0.2 := hA.fa 2 (by rfl);have hx := hF2;rw [hx.1] at e103;clear hx;clear hA;refine ⟨(by rfl), fun K hK => ?_⟩;go_simp
       rw [if_neg (by omega)];exact hK.out _ _ (congrArg Value.string (by rw [HBQ.out]; exact cat _ _)) (Below.refl _ _)
      refine R7.Chain.done (fun xs w30 hL => ?_);obtain ⟨⟨hbe, hbl⟩, hf, -, -⟩ := hL;have f0 : xs 0 = _ := hf 0 (by decide);have f1 : xs 1 = _ := hf 1 (by decide);have F2 : (xs 2) = .string ⟨b0.1.toArray⟩ /\ PR w30 g b0.2 := hf 2 (by decide);have f3 : xs 3 = _ := hf 3 (by decide);have f4 : xs 4 = _ := hf 4 (by decide);have f5 : xs 5 = _ := hf 5 (by decide);have f6 : xs 6 = _ := hf 6 (by decide);have f7 : xs 7 = _ := hf 7 (by decide);have f8 : xs 8 = (.string ⟨pu.toArray⟩) := hf 8 (by decide);have f9 : xs 9 = (.string ⟨bq.toArray⟩) := hf 9 (by decide)
      (try simp (disch := first | rfl | decide) only [R7.mask_in] at f0 f1 f3 f4 f5 f6 f7)
      have hb0 : Below 0 w29 w30 := undrew (hbe 0 (Nat.zero_le _) (fun _ _ => Nat.zero_le _));have hgr : ∀ j, j < w29.heap.size -> (∀ q, q < 1 -> (fun q => g) q ≠ j) -> w30.heap[j]? = w29.heap[j]? := hbl;clear hbe hbl hf;obtain ⟨hv, hp⟩ := F2;have hg : w29.grownBy w30 (some g) := ⟨hb0.os, hb0.tape, hb0.output, hb0.size, fun k hk hn => hgr k hk (fun q _ e => hn (by rw [<- e]))⟩
      refine R7.rest_list (by decide) (by kernel_rfl) ?_;simp only [R7.fill, List.take_succ_cons, List.take_zero, List.drop_succ_cons, List.drop_zero, List.setIfInBounds_toArray, List.set_cons_zero, List.set_cons_succ, f0, f1, f3, f4, f5, f6, f7, f8, f9];simp only [hv];clear hlt_u hog hv f0 f1 f3 f4 f5 f6 f7 f8 f9;replace HBt := kG hg HBt;replace HBu := kG hg HBu;replace HTB := h_ (HTB.out.grown hg (by omega));replace HP := h_ hp;replace HD := dG HD (hg);clear hp hg hb0 hgr;have hbql : bq.length = b0.1.length + pu.length := by rw [HBQ.out, lsa]
      have hs8 : (⟨bq.toArray⟩ : ByteArray).size = bq.length := rfl;go_wp2_with fail
      refine (rref_p n g b0.2 xr w30 HP.out HGB.out.1.2 HTB.out HXR.out).mono ?_;rintro e w31 ⟨rfl, hp, hg⟩;replace HBt := kG hg HBt;replace HBu := kG hg HBu;replace HTB := h_ (HTB.out.grown hg (by omega));replace HP := h_ hp;replace HD := dG HD (hg);have hsz31 := HD.out.size;clear hp hg;have HRF := h_ (ref_fin HGB.out.1 HXR.out);have hrl : xr.1.length <= 300000000 := by have := HRF.out.2; have := HGB.out.2.1; have := HXF.out.2; have := HGL.out.2; have := HPL.out; omega
      have hs9 : (⟨xr.1.toArray⟩ : ByteArray).size = xr.1.length := rfl;go_wp2_with fail
      refine (eat_p g (xr.2) [61] w31 HP.out).mono ?_;rintro e w32 ⟨⟨v, rfl⟩, hp, hg⟩;replace HBt := kG hg HBt;replace HBu := kG hg HBu;replace HTB := h_ (HTB.out.grown hg (by omega));replace HP := h_ hp;replace HD := dG HD (hg);clear hp hg;have HPE := h_ (phi_eat HRF.out.1 wEq);have HGE := h_ (HRF.out.1.eat wEq);go_wp2_with fail
      refine (rall_p n g (xr.2.eat wEq) yy w32 HP.out HGE.out.2 HTB.out HY.out).mono ?_;rintro e w33 ⟨rfl, hp, hg⟩;replace HBt := kG hg HBt;replace HBu := kG hg HBu;replace HTB := h_ (HTB.out.grown hg (by omega));replace HP := h_ hp;replace HD := dG HD (hg);have hsz33 := HD.out.size;clear hp hg;have hyl : yy.1.length <= 300000000 := all_le HGE.out (by have := HPE.out; have := HRF.out.2; have := HGB.out.2.1; have := HXF.out.2; have := HGL.out.2; have := HPL.out; omega) HY.out;have hs5 : (⟨yy.1.toArray⟩ : ByteArray).size = yy.1.length := rfl;go_wp2_with fail
      have hz1 := HZ.out;rw [<- HPLC.out] at hz1;subst hz1;have hpf := HPF.out.2;simp only at hpf;have hpi := HPI.out;go_roundw
      case rel => exact ⟨m', ak, bk + 1, qs, fs ++ ([91, 102, 32] ++ pl ++ x.1 ++ (b0.1 ++ pu) ++ xr.1 ++ (yy.1 ++ [93])), yy.2, rfl, congrArg Value.string (by rw [HBQ.out]; simp only [show (⟨#[91, 113, 32]⟩ : ByteArray) = ⟨([91, 113, 32] : Bs).toArray⟩ from rfl, show (⟨#[91, 102, 32]⟩ : ByteArray) = ⟨([91, 102, 32] : Bs).toArray⟩ from rfl, show (⟨#[93]⟩ : ByteArray) = ⟨([93] : Bs).toArray⟩ from rfl, cat, List.append_assoc]), rfl, by go_num, by omega, by rw [lsa]; omega, HCM, h_ HPF.out.1, HP, HTB, HD⟩
      case measure => rw [pr_rphi HP.out, HPHI.out]; omega
    rw [if_pos (.inl hb)] at hcm;injection hcm with hcm;subst hcm;have hb' : (((rj.bad : Nat) : Int) == 0) = false := by rw [beq_eq_false_iff_ne]; omega
    have HBN := h_ hb;clear hb;have HBW : Hid (Below w.heap.size w wr) := h_ (HB2.out.trans (grown_below HD.out HB2.out.size hwg));go_upto_region 29 with fail
    clear p2 hb';obtain ⟨qb, qi, qn, qc, q1, -⟩ := HP.out;have HBp := h_ q1;clear q1;have hlt_p := lt_of_block HBp.out;have hog : ∀ q, q < 0 -> (fun q => 0) q < wr.heap.size := fun q h => absurd h (Nat.not_lt_zero _)
    refine R7.region (by kernel_rfl) [[], [0], [0, 1], [0, 1, 2], [], [4], [4, 5], [4, 5, 6], [4, 5, 6, 7], [], [9], [9, 10], [9, 10, 11], [9, 10, 11, 12], [], [0, 1, 2, 3, 14], [0, 1, 2, 3, 4, 5, 6, 7, 8, 14, 15], [0, 1, 2, 3, 4, 5, 6, 7, 8, 9, 10, 11, 12, 13, 14, 15, 16]] [] [] (fun q => 0) 0 18 (by kernel_rfl) (by kernel_rfl) (by rfl) hog (fun q q' h h' hn => absurd hn (by omega)) ?_;refine R7.Chain.det ?_ (by rfl) (fun T xs wr hA => ?_) ?_
    rotate_left 1
    ·have e9 := hA.pre 9 (by kernel_rfl);simp only [gsa, gsc, gsz] at e9;clear hA;refine ⟨(by rfl), ?_⟩;go_simp <;> (try with_reducible rfl)
    refine R7.Chain.det ?_ (by rfl) (fun T xs wr hA => ?_) ?_
    rotate_left 1
    ·have e128 := (hA.tm 0 128 (by rfl) (by rfl)).trans (congrArg some (hA.fa 0 (by rfl)))
     (try simp (disch := first | rfl | decide) only [R7.mask_in] at e128)
     clear hA;refine ⟨(by rfl), ?_⟩;go_simp <;> (try with_reducible rfl)
    refine R7.Chain.det ?_ (by rfl) (fun T xs wr hA => ?_) ?_
    rotate_left 1
    ·have e129 := (hA.tm 1 129 (by rfl) (by rfl)).trans (congrArg some (hA.fa 1 (by rfl)))
     (try simp (disch := first | rfl | decide) only [R7.mask_in] at e129)
     clear hA;refine ⟨(by rfl), ?_⟩;go_simp <;> (try with_reducible rfl)
    refine R7.Chain.det ?_ (by rfl) (fun T xs wr hA => ?_) ?_
    rotate_left 1
    ·have e130 := (hA.tm 2 130 (by rfl) (by rfl)).trans (congrArg some (hA.fa 2 (by rfl)))
     (try simp (disch := first | rfl | decide) only [R7.mask_in] at e130)
     have hBq : wr.heap[g]? = _ := (hA.bl _ hlt_p (fun q h => absurd h (Nat.not_lt_zero _))).trans HBp.out;obtain ⟨q0, q1, q2, q3, q4, q5, q6⟩ := cl7 hBq;clear hBq;clear hA;refine ⟨(by rfl), ?_⟩;go_simp <;> (try with_reducible rfl)
    refine R7.Chain.det ?_ (by rfl) (fun T xs wr hA => ?_) ?_
    rotate_left 1
    ·have e9 := hA.pre 9 (by kernel_rfl);simp only [gsa, gsc, gsz] at e9;clear hA;refine ⟨(by rfl), ?_⟩;go_simp <;> (try with_reducible rfl)
    refine R7.Chain.det ?_ (by rfl) (fun T xs wr hA => ?_) ?_
    rotate_left 1
    ·have e132 := (hA.tm 4 132 (by rfl) (by rfl)).trans (congrArg some (hA.fa 4 (by rfl)))
     (try simp (disch := first | rfl | decide) only [R7.mask_in] at e132)
     clear hA;refine ⟨(by rfl), ?_⟩;go_simp <;> (try with_reducible rfl)
    refine R7.Chain.det ?_ (by rfl) (fun T xs wr hA => ?_) ?_
    rotate_left 1
    ·have e133 := (hA.tm 5 133 (by rfl) (by rfl)).trans (congrArg some (hA.fa 5 (by rfl)))
     (try simp (disch := first | rfl | decide) only [R7.mask_in] at e133)
     clear hA;refine ⟨(by rfl), ?_⟩;go_simp <;> (try with_reducible rfl)
    refine R7.Chain.det ?_ (by rfl) (fun T xs wr hA => ?_) ?_
    rotate_left 1
    ·have e134 := (hA.tm 6 134 (by rfl) (by rfl)).trans (congrArg some (hA.fa 6 (by rfl)))
     (try simp (disch := first | rfl | decide) only [R7.mask_in] at e134)
     clear hA;refine ⟨(by rfl), ?_⟩;go_simp <;> (try with_reducible rfl)
    refine R7.Chain.det ?_ (by rfl) (fun T xs wr hA => ?_) ?_
    rotate_left 1
    ·have e135 := (hA.tm 7 135 (by rfl) (by rfl)).trans (congrArg some (hA.fa 7 (by rfl)))
     (try simp (disch := first | rfl | decide) only [R7.mask_in] at e135)
     have hBq : wr.heap[g]? = _ := (hA.bl _ hlt_p (fun q h => absurd h (Nat.not_lt_zero _))).trans HBp.out;obtain ⟨q0, q1, q2, q3, q4, q5, q6⟩ := cl7 hBq;clear hBq;clear hA;refine ⟨(by rfl), ?_⟩;go_simp <;> (try with_reducible rfl)
    refine R7.Chain.det ?_ (by rfl) (fun T xs wr hA => ?_) ?_
    rotate_left 1
    ·have e9 := hA.pre 9 (by kernel_rfl);simp only [gsa, gsc, gsz] at e9;clear hA;refine ⟨(by rfl), ?_⟩;go_simp <;> (try with_reducible rfl)
    refine R7.Chain.det ?_ (by rfl) (fun T xs wr hA => ?_) ?_
    rotate_left 1
    ·have e137 := (hA.tm 9 137 (by rfl) (by rfl)).trans (congrArg some (hA.fa 9 (by rfl)))
     (try simp (disch := first | rfl | decide) only [R7.mask_in] at e137)
     clear hA;refine ⟨(by rfl), ?_⟩;go_simp <;> (try with_reducible rfl)
    refine R7.Chain.det ?_ (by rfl) (fun T xs wr hA => ?_) ?_
    rotate_left 1
    ·have e138 := (hA.tm 10 138 (by rfl) (by rfl)).trans (congrArg some (hA.fa 10 (by rfl)))
     (try simp (disch := first | rfl | decide) only [R7.mask_in] at e138)
     clear hA;refine ⟨(by rfl), ?_⟩;go_simp <;> (try with_reducible rfl)
    refine R7.Chain.det ?_ (by rfl) (fun T xs wr hA => ?_) ?_
    rotate_left 1
    ·have e139 := (hA.tm 11 139 (by rfl) (by rfl)).trans (congrArg some (hA.fa 11 (by rfl)))
     (try simp (disch := first | rfl | decide) only [R7.mask_in] at e139)
     clear hA;refine ⟨(by rfl), ?_⟩;go_simp <;> (try with_reducible rfl)
    refine R7.Chain.det ?_ (by rfl) (fun T xs wr hA => ?_) ?_
    rotate_left 1
    ·have e140 := (hA.tm 12 140 (by rfl) (by rfl)).trans (congrArg some (hA.fa 12 (by rfl)))
     (try simp (disch := first | rfl | decide) only [R7.mask_in] at e140)
     have hBq : wr.heap[g]? = _ := (hA.bl _ hlt_p (fun q h => absurd h (Nat.not_lt_zero _))).trans HBp.out;obtain ⟨q0, q1, q2, q3, q4, q5, q6⟩ := cl7 hBq;clear hBq;clear hA;refine ⟨(by rfl), ?_⟩;go_simp <;> (try with_reducible rfl)
    refine R7.Chain.det ?_ (by rfl) (fun T xs wr hA => ?_) ?_
    rotate_left 1
    ·clear hA;refine ⟨(by rfl), ?_⟩;go_simp <;> (try with_reducible rfl)
    refine R7.Chain.det ?_ (by rfl) (fun T xs wr hA => ?_) ?_
    rotate_left 1
    ·have e131 := (hA.tm 3 131 (by rfl) (by rfl)).trans (congrArg some (hA.fa 3 (by rfl)))
     (try simp (disch := first | rfl | decide) only [R7.mask_in] at e131)
     clear hA;refine ⟨(by rfl), ?_⟩;go_simp <;> (try with_reducible rfl)
    refine R7.Chain.det ?_ (by rfl) (fun T xs wr hA => ?_) ?_
    rotate_left 1
    ·have e136 := (hA.tm 8 136 (by rfl) (by rfl)).trans (congrArg some (hA.fa 8 (by rfl)))
     (try simp (disch := first | rfl | decide) only [R7.mask_in] at e136)
     clear hA;refine ⟨(by rfl), ?_⟩;go_simp <;> (try with_reducible rfl)
    refine R7.Chain.det ?_ (by rfl) (fun T xs wr hA => ?_) ?_
    rotate_left 1
    ·have e141 := (hA.tm 13 141 (by rfl) (by rfl)).trans (congrArg some (hA.fa 13 (by rfl)))
     (try simp (disch := first | rfl | decide) only [R7.mask_in] at e141)
     clear hA;refine ⟨(by rfl), ?_⟩;go_simp <;> (try with_reducible rfl)
    refine R7.Chain.done (fun xs w21 hL => ?_);obtain ⟨⟨hbe, hbl⟩, hf, -, -⟩ := hL;have f0 : xs 0 = _ := hf 0 (by decide);have f1 : xs 1 = _ := hf 1 (by decide);have f2 : xs 2 = _ := hf 2 (by decide);have f3 : xs 3 = _ := hf 3 (by decide);have f4 : xs 4 = _ := hf 4 (by decide);have f5 : xs 5 = _ := hf 5 (by decide);have f6 : xs 6 = _ := hf 6 (by decide);have f7 : xs 7 = _ := hf 7 (by decide);have f8 : xs 8 = _ := hf 8 (by decide);have f9 : xs 9 = _ := hf 9 (by decide);have f10 : xs 10 = _ := hf 10 (by decide);have f11 : xs 11 = _ := hf 11 (by decide);have f12 : xs 12 = _ := hf 12 (by decide);have f13 : xs 13 = _ := hf 13 (by decide);have f14 : xs 14 = _ := hf 14 (by decide);have f15 : xs 15 = _ := hf 15 (by decide);have f16 : xs 16 = _ := hf 16 (by decide);have f17 : xs 17 = _ := hf 17 (by decide)
    (try simp (disch := first | rfl | decide) only [R7.mask_in] at f0 f1 f2 f3 f4 f5 f6 f7 f8 f9 f10 f11 f12 f13 f14 f15 f16 f17)
    have hb0 : Below 0 wr w21 := undrew (hbe 0 (Nat.zero_le _) (fun _ _ => Nat.zero_le _));have hgr : ∀ j, j < wr.heap.size -> (∀ q, q < 0 -> (fun q => 0) q ≠ j) -> w21.heap[j]? = wr.heap[j]? := hbl;clear hbe hbl hf;have hbz : Below wr.heap.size wr w21 := ⟨hb0.os, hb0.tape, hb0.output, hb0.size, fun q hq => hgr q hq (fun q h => absurd h (Nat.not_lt_zero _))⟩
    refine R7.rest_done ?_;simp only [R7.fill, List.setIfInBounds_toArray, List.set_cons_zero, List.set_cons_succ, f0, f1, f2, f3, f4, f5, f6, f7, f8, f9, f10, f11, f12, f13, f14, f15, f16, f17];go_wp2_with fail
    refine bodyPost_ret (v := .tuple #[.string ⟨#[]⟩, .int .i64 (rj.bad : Nat), .int .i64 (rj.pl.line : Nat), .int .i64 (rj.pl.col : Nat)]) (by simp [results, Tryz.results8, go_sem]) rfl ⟨?_, HBW.out.trans (hbz.mono HBW.out.size)⟩;rw [HV.out, if_pos HBN.out]
 have HV : Hid (rpgV l y = .tuple #[.string ⟨#[]⟩, .int .i64 ((lexS l (1, 1)).2 : Nat), .int .i64 ((((lexS l (1, 1)).1.getLast?).getD tk0).line : Nat), .int .i64 ((((lexS l (1, 1)).1.getLast?).getD tk0).col : Nat)]) := h_ (by unfold rpgV; rw [if_pos hz]);have hz' : ((((lexS l (1, 1)).2 : Nat) : Int) == 0) = false := by rw [beq_eq_false_iff_ne]; omega
 have hpos := List.length_pos_iff.2 hne;have hg := h5 ((lexS l (1, 1)).1.length - 1) (by omega);have hlast : ((lexS l (1, 1)).1.getLast?).getD tk0 = (lexS l (1, 1)).1[(lexS l (1, 1)).1.length - 1]'(by omega) := by rw [List.getLast?_eq_getElem?, List.getElem?_eq_getElem (by omega)]; rfl
 rw [hlast] at HV;generalize (lexS l (1, 1)).1[(lexS l (1, 1)).1.length - 1]'(by omega) = t at *;clear h5 hlast HTD HC HGL hne;generalize (lexS l (1, 1)).1.length = nn at *;obtain ⟨c0, c1, c2, c3⟩ := hg;have hi1 : IntKind.i64.wrap ((nn : Int) - 1) = (nn : Int) - 1 := IntWalk.i64_in _ (by omega);have hi2 : (1 : Int) <= (nn : Int) := by omega
 have hi3 : ((nn : Int) - 1).toNat = nn - 1 := by omega
 have hi4 : (nn : Int) - 1 < (nn : Int) := by omega
 have hi5 : nn - 1 < nn := by omega
 go_upto_region 4 with fail
 obtain ⟨w2, hw⟩ : ∃ x, x = w1.alloc (.cells #[.int .i64 (t.kind : Nat), .string ⟨t.text.toArray⟩, .int .i64 (t.line : Nat), .int .i64 (t.col : Nat)] 60) := ⟨_, rfl⟩
 have hb : Below w1.heap.size w1 w2 := by rw [hw]; exact (Below.refl _ _).alloc (Nat.le_refl _) _
 have hk : w2.heap[w1.heap.size]? = some (.cells #[.int .i64 (t.kind : Nat), .string ⟨t.text.toArray⟩, .int .i64 (t.line : Nat), .int .i64 (t.col : Nat)] 60 (0, 0)) := by rw [hw]; exact made_at w1 _ _ rfl
 rw [<- hw];obtain ⟨kt, hkk⟩ : ∃ k, k = w1.heap.size := ⟨_, rfl⟩
 rw [<- hkk] at hk ⊢;have HBt := h_ hk;have HB2 := h_ (HB.out.trans (hb.mono HB.out.size));clear hw hb hk hkk c0 c1 c2 c3 hi1 hi2 hi3 hi4 hi5 hz';have hlt_t := lt_of_block HBt.out;have hog : ∀ q, q < 0 -> (fun q => 0) q < w2.heap.size := fun q h => absurd h (Nat.not_lt_zero _)
 refine R7.region (by kernel_rfl) [[], [], [1], [], [3], [], [0, 5], [0, 1, 2, 5, 6], [0, 1, 2, 3, 4, 5, 6, 7]] [] [] (fun q => 0) 0 9 (by kernel_rfl) (by kernel_rfl) (by rfl) hog (fun q q' h h' hn => absurd hn (by omega)) ?_;refine R7.Chain.det ?_ (by rfl) (fun T xs wr hA => ?_) ?_
 rotate_left 1
 ·have e7 := hA.pre 7 (by kernel_rfl);simp only [gsa, gsc, gsz] at e7;clear hA;refine ⟨(by rfl), ?_⟩;go_simp <;> (try with_reducible rfl)
 refine R7.Chain.det ?_ (by rfl) (fun T xs wr hA => ?_) ?_
 rotate_left 1
 ·have e8 := hA.pre 8 (by kernel_rfl);simp only [gsa, gsc, gsz] at e8;clear hA;refine ⟨(by rfl), ?_⟩;go_simp <;> (try with_reducible rfl)
 refine R7.Chain.det ?_ (by rfl) (fun T xs wr hA => ?_) ?_
 rotate_left 1
 ·have e31 := (hA.tm 1 31 (by rfl) (by rfl)).trans (congrArg some (hA.fa 1 (by rfl)))
  (try simp (disch := first | rfl | decide) only [R7.mask_in] at e31)
  have hBq : wr.heap[kt]? = _ := (hA.bl _ hlt_t (fun q h => absurd h (Nat.not_lt_zero _))).trans HBt.out;obtain ⟨q0, q1, q2, q3⟩ := cl4 hBq;clear hBq;clear hA;refine ⟨(by rfl), ?_⟩;go_simp <;> (try with_reducible rfl)
 refine R7.Chain.det ?_ (by rfl) (fun T xs wr hA => ?_) ?_
 rotate_left 1
 ·have e8 := hA.pre 8 (by kernel_rfl);simp only [gsa, gsc, gsz] at e8;clear hA;refine ⟨(by rfl), ?_⟩;go_simp <;> (try with_reducible rfl)
 refine R7.Chain.det ?_ (by rfl) (fun T xs wr hA => ?_) ?_
 rotate_left 1
 ·have e33 := (hA.tm 3 33 (by rfl) (by rfl)).trans (congrArg some (hA.fa 3 (by rfl)))
  (try simp (disch := first | rfl | decide) only [R7.mask_in] at e33)
  have hBq : wr.heap[kt]? = _ := (hA.bl _ hlt_t (fun q h => absurd h (Nat.not_lt_zero _))).trans HBt.out;obtain ⟨q0, q1, q2, q3⟩ := cl4 hBq;clear hBq;clear hA;refine ⟨(by rfl), ?_⟩;go_simp <;> (try with_reducible rfl)
 refine R7.Chain.det ?_ (by rfl) (fun T xs wr hA => ?_) ?_
 rotate_left 1
 ·clear hA;refine ⟨(by rfl), ?_⟩;go_simp <;> (try with_reducible rfl)
 refine R7.Chain.det ?_ (by rfl) (fun T xs wr hA => ?_) ?_
 rotate_left 1
 ·have e30 := (hA.tm 0 30 (by rfl) (by rfl)).trans (congrArg some (hA.fa 0 (by rfl)))
  (try simp (disch := first | rfl | decide) only [R7.mask_in] at e30)
  clear hA;refine ⟨(by rfl), ?_⟩;go_simp <;> (try with_reducible rfl)
 refine R7.Chain.det ?_ (by rfl) (fun T xs wr hA => ?_) ?_
 rotate_left 1
 ·have e32 := (hA.tm 2 32 (by rfl) (by rfl)).trans (congrArg some (hA.fa 2 (by rfl)))
  (try simp (disch := first | rfl | decide) only [R7.mask_in] at e32)
  clear hA;refine ⟨(by rfl), ?_⟩;go_simp <;> (try with_reducible rfl)
 refine R7.Chain.det ?_ (by rfl) (fun T xs wr hA => ?_) ?_
 rotate_left 1
 ·have e34 := (hA.tm 4 34 (by rfl) (by rfl)).trans (congrArg some (hA.fa 4 (by rfl)))
  (try simp (disch := first | rfl | decide) only [R7.mask_in] at e34)
  clear hA;refine ⟨(by rfl), ?_⟩;go_simp <;> (try with_reducible rfl)
 refine R7.Chain.done (fun xs w1 hL => ?_);obtain ⟨⟨hbe, hbl⟩, hf, -, -⟩ := hL;have f0 : xs 0 = _ := hf 0 (by decide);have f1 : xs 1 = _ := hf 1 (by decide);have f2 : xs 2 = _ := hf 2 (by decide);have f3 : xs 3 = _ := hf 3 (by decide);have f4 : xs 4 = _ := hf 4 (by decide);have f5 : xs 5 = _ := hf 5 (by decide);have f6 : xs 6 = _ := hf 6 (by decide);have f7 : xs 7 = _ := hf 7 (by decide);have f8 : xs 8 = _ := hf 8 (by decide)
 (try simp (disch := first | rfl | decide) only [R7.mask_in] at f0 f1 f2 f3 f4 f5 f6 f7 f8)
 have hb0 : Below 0 w2 w1 := undrew (hbe 0 (Nat.zero_le _) (fun _ _ => Nat.zero_le _));have hgr : ∀ j, j < w2.heap.size -> (∀ q, q < 0 -> (fun q => 0) q ≠ j) -> w1.heap[j]? = w2.heap[j]? := hbl;clear hbe hbl hf;have hb : Below w2.heap.size w2 w1 := ⟨hb0.os, hb0.tape, hb0.output, hb0.size, fun q hq => hgr q hq (fun q h => absurd h (Nat.not_lt_zero _))⟩
 refine R7.rest_done ?_;simp only [R7.fill, List.setIfInBounds_toArray, List.set_cons_zero, List.set_cons_succ, f0, f1, f2, f3, f4, f5, f6, f7, f8];go_wp2_with fail
 exact bodyPost_ret (v := .tuple #[.string ⟨#[]⟩, .int .i64 ((lexS l (1, 1)).2 : Nat), .int .i64 (t.line : Nat), .int .i64 (t.col : Nat)]) (by simp [results, Tryz.results8, go_sem]) rfl ⟨by rw [HV.out], HB2.out.trans (hb.mono HB2.out.size)⟩
theorem below_put {w0 w w' : World} {g : Nat} (h : Below w0.heap.size w0 w) (hg : w.grownBy w' (some g)) (hB : w0.heap.size <= g) : Below w0.heap.size w0 w' := ⟨hg.os.trans h.os, hg.tape.trans h.tape, hg.output.trans h.output, Nat.le_trans h.size hg.size, fun q hq => by
 rw [hg.block q (Nat.lt_of_lt_of_le hq h.size) (fun e => by injection e with e; omega)]; exact h.block q hq⟩
theorem typed_p (nm : Bs) (t : Tok) (b : Nat) (w : World) (hn : nm = t.text) :
  Calls Tryz.prog 111 #[tokV t, .int .i64 (b : Nat)] w fun e w' => e = .returned (pmV (typ nm t b) xZ) /\ Below w.heap.size w w' := by
 subst hn;unfold tokV pmV xZ typ;have HW := h_ (Below.refl w.heap.size w);go_enter Tryz.func111, Tryz.ntmps111
 go_upto_region 1 with fail
 obtain ⟨w1, kt, hw, hkk, hb, hs1, HBt⟩ := newb w #[.int .i64 (t.kind : Nat), .string ⟨t.text.toArray⟩, .int .i64 (t.line : Nat), .int .i64 (t.col : Nat)] 111;have het : w.heap.size <= kt := by omega
 rw [hw, <- hkk, <- hs1];replace HW := h_ (HW.out.trans (hb.mono HW.out.size));have HD := h_ (below_grown hb (some 0));have hsz1 := HD.out.size;clear hw hb hkk hs1;obtain ⟨w2, kr, hw, hkk, hb, hs1, HBr⟩ := newb w1 #[.string ⟨#[]⟩, .int .i64 0, .bool false, .int .i64 0, .string ⟨#[]⟩, .string ⟨#[]⟩, .bool false, .slice none 0 0, .slice none 0 0, .int .i64 0, .int .i64 0, .int .i64 0, .int .i64 0] 83;have her : w.heap.size <= kr := by omega
 have ht_r : kt < kr := by rw [hkk]; exact lt_of_block HBt.out
 rw [hw, <- hkk];replace HBt := kB hb HBt;replace HW := h_ (HW.out.trans (hb.mono HW.out.size));replace HD := dB HD hb;have hsz2 := HD.out.size;clear hw hb hkk hs1;obtain ⟨c0, c1, c2, c3⟩ := cl4 HBt.out;obtain ⟨z0, z1, z2, z3, z4, z5, z6, z7, z8, z9, z10, z11, z12⟩ := cl13 HBr.out;obtain ⟨fz0, fz1, fz2, fz3, fz4, fz5, fz6, fz7, fz8, fz9, fz10, fz11, fz12⟩ := fr13 HBr.out;go_wp2_with fail
 refine bodyPost_ret (v := .agg #[.string ⟨t.text.toArray⟩, .int .i64 (b : Nat), .bool false, .int .i64 0, .string ⟨#[]⟩, .string ⟨#[]⟩, .bool false, .slice none 0 0, .slice none 0 0, .int .i64 0, .int .i64 0, .int .i64 (t.line : Nat), .int .i64 (t.col : Nat)]) (by simp [results, Tryz.results111, go_sem, z0, z1, z2, z3, z4, z5, z6, z7, z8, z9, z10, z11, z12]) rfl ⟨rfl, ?_⟩;obtain ⟨wz, hw⟩ : ∃ x, x = w2.setCells kr 0 [.string ⟨t.text.toArray⟩, .int .i64 (b : Nat), .bool false, .int .i64 0, .string ⟨#[]⟩, .string ⟨#[]⟩, .bool false, .slice none 0 0, .slice none 0 0, .int .i64 0, .int .i64 0, .int .i64 (t.line : Nat), .int .i64 (t.col : Nat)] := ⟨_, rfl⟩
 have hg : w2.grownBy wz (some kr) := by rw [hw]; exact setCells_grown _ _ _ _
 rw [show ((((((((((((w2.setCell ⟨kr, 0, none⟩ (.string ⟨t.text.toArray⟩)).setCell ⟨kr, 1, none⟩ (.int .i64 (b : Nat))).setCell ⟨kr, 2, none⟩ (.bool false)).setCell ⟨kr, 3, none⟩ (.int .i64 0)).setCell ⟨kr, 4, none⟩ (.string ⟨#[]⟩)).setCell ⟨kr, 5, none⟩ (.string ⟨#[]⟩)).setCell ⟨kr, 6, none⟩ (.bool false)).setCell ⟨kr, 7, none⟩ (.slice none 0 0)).setCell ⟨kr, 8, none⟩ (.slice none 0 0)).setCell ⟨kr, 9, none⟩ (.int .i64 0)).setCell ⟨kr, 10, none⟩ (.int .i64 0)).setCell ⟨kr, 11, none⟩ (.int .i64 (t.line : Nat))).setCell ⟨kr, 12, none⟩ (.int .i64 (t.col : Nat)) = wz from hw.symm];exact below_put HW.out hg her
theorem base_p (g : Nat) (s : St) (w : World) (hps : PS w g s) :
  Calls Tryz.prog 112 #[.pointer (some ⟨g, 0, none⟩)] w fun e w' => e = .returned (.int .i64 ((cBase s).1 : Nat)) /\ Did w g (cBase s).2 w' := by
 have HP := h_ hps;clear hps
 by_cases h0 : s.nx.text = [105, 110, 116]
 ·have H0 := h_ h0;have HC : Hid (cBase s = (0, s.tk)) := h_ (by unfold cBase St.is; rw [h0]; rfl);clear h0;go_enter Tryz.func112, Tryz.ntmps112
  go_upto_region 1 with fail
  go_wp2_with fail
  refine (take_p g s w HP.out).mono ?_;rintro e w1 ⟨rfl, hp, hg⟩;replace HP := h_ hp;have HD := h_ (hg);have hsz1 := HD.out.size;clear hp hg;simp only [tokV];obtain ⟨t, hnx⟩ : ∃ t, t = St.nx s := ⟨_, rfl⟩
  rw [<- hnx];have HNt := h_ hnx;clear hnx;go_upto_region 2 with fail
  obtain ⟨w2, kt, hw, hkk, hb, hs1, HBt⟩ := newb w1 #[.int .i64 (t.kind : Nat), .string ⟨t.text.toArray⟩, .int .i64 (t.line : Nat), .int .i64 (t.col : Nat)] 111;have hgt : g < kt := by rw [hkk]; exact HP.out.lt
  have het : w.heap.size <= kt := by omega
  rw [hw, <- hkk];replace HP := h_ (HP.out.below hb);replace HD := dB HD hb;have hsz2 := HD.out.size;clear hw hb hkk hs1;obtain ⟨c0, c1, c2, c3⟩ := cl4 HBt.out;have q : t.text = [105, 110, 116] := by rw [HNt.out]; exact H0.out
  have q0 : (t.text == [105, 110, 116]) = true := by rw [q]; rfl
  clear q;go_wp2_with fail
  go_ret
  exact ⟨by rw [HC.out]; rfl, by rw [HC.out]; exact ⟨HP.out, HD.out⟩⟩
 by_cases h1 : s.nx.text = [98, 111, 111, 108]
 ·have H1 := h_ h1;have HC : Hid (cBase s = (1, s.tk)) := h_ (by unfold cBase St.is; rw [h1]; rfl);clear h1 h0;go_enter Tryz.func112, Tryz.ntmps112
  go_upto_region 1 with fail
  go_wp2_with fail
  refine (take_p g s w HP.out).mono ?_;rintro e w1 ⟨rfl, hp, hg⟩;replace HP := h_ hp;have HD := h_ (hg);have hsz1 := HD.out.size;clear hp hg;simp only [tokV];obtain ⟨t, hnx⟩ : ∃ t, t = St.nx s := ⟨_, rfl⟩
  rw [<- hnx];have HNt := h_ hnx;clear hnx;go_upto_region 2 with fail
  obtain ⟨w2, kt, hw, hkk, hb, hs1, HBt⟩ := newb w1 #[.int .i64 (t.kind : Nat), .string ⟨t.text.toArray⟩, .int .i64 (t.line : Nat), .int .i64 (t.col : Nat)] 111;have hgt : g < kt := by rw [hkk]; exact HP.out.lt
  have het : w.heap.size <= kt := by omega
  rw [hw, <- hkk];replace HP := h_ (HP.out.below hb);replace HD := dB HD hb;have hsz2 := HD.out.size;clear hw hb hkk hs1;obtain ⟨c0, c1, c2, c3⟩ := cl4 HBt.out;have q : t.text = [98, 111, 111, 108] := by rw [HNt.out]; exact H1.out
  have q0 : (t.text == [105, 110, 116]) = false := by rw [q]; rfl
  have q1 : (t.text == [98, 111, 111, 108]) = true := by rw [q]; rfl
  clear q;go_wp2_with fail
  go_ret
  exact ⟨by rw [HC.out]; rfl, by rw [HC.out]; exact ⟨HP.out, HD.out⟩⟩
 by_cases h2 : s.nx.text = [108, 105, 115, 116]
 ·have H2 := h_ h2;have HC : Hid (cBase s = (2, s.tk)) := h_ (by unfold cBase St.is; rw [h2]; rfl);clear h2 h0 h1;go_enter Tryz.func112, Tryz.ntmps112
  go_upto_region 1 with fail
  go_wp2_with fail
  refine (take_p g s w HP.out).mono ?_;rintro e w1 ⟨rfl, hp, hg⟩;replace HP := h_ hp;have HD := h_ (hg);have hsz1 := HD.out.size;clear hp hg;simp only [tokV];obtain ⟨t, hnx⟩ : ∃ t, t = St.nx s := ⟨_, rfl⟩
  rw [<- hnx];have HNt := h_ hnx;clear hnx;go_upto_region 2 with fail
  obtain ⟨w2, kt, hw, hkk, hb, hs1, HBt⟩ := newb w1 #[.int .i64 (t.kind : Nat), .string ⟨t.text.toArray⟩, .int .i64 (t.line : Nat), .int .i64 (t.col : Nat)] 111;have hgt : g < kt := by rw [hkk]; exact HP.out.lt
  have het : w.heap.size <= kt := by omega
  rw [hw, <- hkk];replace HP := h_ (HP.out.below hb);replace HD := dB HD hb;have hsz2 := HD.out.size;clear hw hb hkk hs1;obtain ⟨c0, c1, c2, c3⟩ := cl4 HBt.out;have q : t.text = [108, 105, 115, 116] := by rw [HNt.out]; exact H2.out
  have q0 : (t.text == [105, 110, 116]) = false := by rw [q]; rfl
  have q1 : (t.text == [98, 111, 111, 108]) = false := by rw [q]; rfl
  have q2 : (t.text == [108, 105, 115, 116]) = true := by rw [q]; rfl
  clear q;go_wp2_with fail
  go_ret
  exact ⟨by rw [HC.out]; rfl, by rw [HC.out]; exact ⟨HP.out, HD.out⟩⟩
 have HC : Hid (cBase s = (0, s.tk.fail s.nx 1)) := h_ (by unfold cBase St.is; rw [if_neg (by simpa using h0), if_neg (by simpa using h1), if_neg (by simpa using h2)]);have H0 : Hid ((s.nx.text == [105, 110, 116]) = false) := h_ (by simpa using h0);have H1 : Hid ((s.nx.text == [98, 111, 111, 108]) = false) := h_ (by simpa using h1);have H2 : Hid ((s.nx.text == [108, 105, 115, 116]) = false) := h_ (by simpa using h2);clear h0 h1 h2;go_enter Tryz.func112, Tryz.ntmps112
 go_upto_region 1 with fail
 go_wp2_with fail
 refine (take_p g s w HP.out).mono ?_;rintro e w1 ⟨rfl, hp, hg⟩;replace HP := h_ hp;have HD := h_ (hg);have hsz1 := HD.out.size;clear hp hg;simp only [tokV];obtain ⟨t, hnx⟩ : ∃ t, t = St.nx s := ⟨_, rfl⟩
 rw [<- hnx];have HNt := h_ hnx;clear hnx;go_upto_region 2 with fail
 obtain ⟨w2, kt, hw, hkk, hb, hs1, HBt⟩ := newb w1 #[.int .i64 (t.kind : Nat), .string ⟨t.text.toArray⟩, .int .i64 (t.line : Nat), .int .i64 (t.col : Nat)] 111;have hgt : g < kt := by rw [hkk]; exact HP.out.lt
 have het : w.heap.size <= kt := by omega
 rw [hw, <- hkk];replace HP := h_ (HP.out.below hb);replace HD := dB HD hb;clear hw hb hkk hs1;obtain ⟨c0, c1, c2, c3⟩ := cl4 HBt.out;have q0 : (t.text == [105, 110, 116]) = false := by rw [HNt.out]; exact H0.out
 have q1 : (t.text == [98, 111, 111, 108]) = false := by rw [HNt.out]; exact H1.out
 have q2 : (t.text == [108, 105, 115, 116]) = false := by rw [HNt.out]; exact H2.out
 go_wp2_with fail
 refine (fail_p g s.tk t 1 w2 HP.out).mono ?_;rintro e w3 ⟨⟨v, rfl⟩, hp, hg⟩;clear c0 c1 c2 c3;replace HBt := kG hg HBt;replace HP := h_ hp;replace HD := dG HD (hg);have hsz3 := HD.out.size;clear hp hg;go_wp2_with fail
 go_ret
 rw [HNt.out] at HP;exact ⟨by rw [HC.out]; rfl, by rw [HC.out]; exact ⟨HP.out, HD.out⟩⟩
theorem counted_p (g count limit : Nat) (s : St) (w : World) (hps : PS w g s) (h1 : count <= 1000000) (h2 : limit <= 1000000) :
  Calls Tryz.prog 79 #[.pointer (some ⟨g, 0, none⟩), .int .i64 (count : Nat), .int .i64 (limit : Nat)] w fun e w' => e = .returned (tokV s.nx) /\ Did w g (s.counted count limit) w' := by
 have HP := h_ hps;clear hps;go_enter Tryz.func79, Tryz.ntmps79
 go_upto_region 1 with fail
 obtain ⟨w1, kr, hw, hkk, hb, hs1, HBr⟩ := newb w #[.int .i64 0, .string ⟨#[]⟩, .int .i64 0, .int .i64 0] 111;have hgr : g < kr := by rw [hkk]; exact HP.out.lt
 have her : w.heap.size <= kr := by omega
 rw [hw, <- hkk];replace HP := h_ (HP.out.below hb);have HD := h_ (below_grown hb (some g));clear hw hb hkk hs1;go_wp2_with fail
 refine (name_p g s w1 HP.out).mono ?_;rintro e w2 ⟨rfl, hp, hg⟩;replace HBr := kG hg HBr;replace HP := h_ hp;replace HD := dG HD (hg);have hsz2 := HD.out.size;clear hp hg;simp only [tokV];obtain ⟨t, hnx⟩ : ∃ t, t = St.nx s := ⟨_, rfl⟩
 rw [<- hnx];have HNt := h_ hnx;clear hnx;go_upto_region 2 with fail
 obtain ⟨w3, kt, hw, hkk, hb, hs1, HBt⟩ := newb w2 #[.int .i64 (t.kind : Nat), .string ⟨t.text.toArray⟩, .int .i64 (t.line : Nat), .int .i64 (t.col : Nat)] 111;have hgt : g < kt := by rw [hkk]; exact HP.out.lt
 have het : w.heap.size <= kt := by omega
 have hr_t : kr < kt := by rw [hkk]; exact lt_of_block HBr.out
 rw [hw, <- hkk];replace HBr := kB hb HBr;replace HP := h_ (HP.out.below hb);replace HD := dB HD hb;have hsz3 := HD.out.size;clear hw hb hkk hs1
 by_cases hc : limit <= count
 ·have HX : Hid (s.counted count limit = s.name.fail t 2) := h_ (by unfold St.counted; rw [if_pos hc, HNt.out]);have hc2 : ((limit : Nat) : Int) <= (count : Nat) := by omega
  clear hc;obtain ⟨c0, c1, c2, c3⟩ := cl4 HBt.out;go_wp2_with fail
  refine (fail_p g s.name t 2 w3 HP.out).mono ?_;rintro e w4 ⟨⟨v, rfl⟩, hp, hg⟩;clear c0 c1 c2 c3;replace HBr := kG hg HBr;replace HBt := kG hg HBt;replace HP := h_ hp;replace HD := dG HD (hg);clear hp hg;obtain ⟨c0, c1, c2, c3⟩ := cl4 HBt.out;obtain ⟨z0, z1, z2, z3⟩ := cl4 HBr.out;obtain ⟨fz0, fz1, fz2, fz3⟩ := fr4 HBr.out;go_wp2_with fail
  refine bodyPost_ret (v := .agg #[.int .i64 (t.kind : Nat), .string ⟨t.text.toArray⟩, .int .i64 (t.line : Nat), .int .i64 (t.col : Nat)]) (by simp [results, Tryz.results79, go_sem, z0, z1, z2, z3]) rfl ?_;obtain ⟨wz, hw⟩ : ∃ x, x = w4.setCells kr 0 [.int .i64 (t.kind : Nat), .string ⟨t.text.toArray⟩, .int .i64 (t.line : Nat), .int .i64 (t.col : Nat)] := ⟨_, rfl⟩
  have hg : w4.grownBy wz (some kr) := by rw [hw]; exact setCells_grown _ _ _ _
  rw [show (((w4.setCell ⟨kr, 0, none⟩ (.int .i64 (t.kind : Nat))).setCell ⟨kr, 1, none⟩ (.string ⟨t.text.toArray⟩)).setCell ⟨kr, 2, none⟩ (.int .i64 (t.line : Nat))).setCell ⟨kr, 3, none⟩ (.int .i64 (t.col : Nat)) = wz from hw.symm];clear c0 c1 c2 c3 z0 fz0 z1 fz1 z2 fz2 z3 fz3;replace HP := h_ (HP.out.store HBr.out (by decide) (by omega) hg);replace HBt := kG hg HBt;replace HD := dN HD hg (by omega);have hsz5 := HD.out.size;clear hw hg;exact ⟨by rw [<- HNt.out]; rfl, by rw [HX.out]; exact ⟨HP.out, HD.out⟩⟩
 have HX : Hid (s.counted count limit = s.name) := h_ (by unfold St.counted; rw [if_neg hc]);have hc2 : ¬ ((limit : Nat) : Int) <= (count : Nat) := by omega
 clear hc;obtain ⟨c0, c1, c2, c3⟩ := cl4 HBt.out;obtain ⟨z0, z1, z2, z3⟩ := cl4 HBr.out;obtain ⟨fz0, fz1, fz2, fz3⟩ := fr4 HBr.out;go_wp2_with fail
 refine bodyPost_ret (v := .agg #[.int .i64 (t.kind : Nat), .string ⟨t.text.toArray⟩, .int .i64 (t.line : Nat), .int .i64 (t.col : Nat)]) (by simp [results, Tryz.results79, go_sem, z0, z1, z2, z3]) rfl ?_;obtain ⟨wz, hw⟩ : ∃ x, x = w3.setCells kr 0 [.int .i64 (t.kind : Nat), .string ⟨t.text.toArray⟩, .int .i64 (t.line : Nat), .int .i64 (t.col : Nat)] := ⟨_, rfl⟩
 have hg : w3.grownBy wz (some kr) := by rw [hw]; exact setCells_grown _ _ _ _
 rw [show (((w3.setCell ⟨kr, 0, none⟩ (.int .i64 (t.kind : Nat))).setCell ⟨kr, 1, none⟩ (.string ⟨t.text.toArray⟩)).setCell ⟨kr, 2, none⟩ (.int .i64 (t.line : Nat))).setCell ⟨kr, 3, none⟩ (.int .i64 (t.col : Nat)) = wz from hw.symm];clear c0 c1 c2 c3 z0 fz0 z1 fz1 z2 fz2 z3 fz3;replace HP := h_ (HP.out.store HBr.out (by decide) (by omega) hg);replace HBt := kG hg HBt;replace HD := dN HD hg (by omega);have hsz4 := HD.out.size;clear hw hg;exact ⟨by rw [<- HNt.out]; rfl, by rw [HX.out]; exact ⟨HP.out, HD.out⟩⟩
theorem variable_p (g : Nat) (s : St) (w : World) (hps : PS w g s) :
  Calls Tryz.prog 81 #[.pointer (some ⟨g, 0, none⟩)] w fun e w' => e = .returned (pmV (cVar s).1 xZ) /\ Did w g (cVar s).2 w' := by
 have HP := h_ hps;clear hps;go_enter Tryz.func81, Tryz.ntmps81
 go_upto_region 1 with fail
 obtain ⟨w1, kr, hw, hkk, hb, hs1, HBr⟩ := newb w #[.string ⟨#[]⟩, .int .i64 0, .bool false, .int .i64 0, .string ⟨#[]⟩, .string ⟨#[]⟩, .bool false, .slice none 0 0, .slice none 0 0, .int .i64 0, .int .i64 0, .int .i64 0, .int .i64 0] 83;have hgr : g < kr := by rw [hkk]; exact HP.out.lt
 have her : w.heap.size <= kr := by omega
 rw [hw, <- hkk];replace HP := h_ (HP.out.below hb);have HD := h_ (below_grown hb (some g));clear hw hb hkk hs1;go_wp2_with fail
 refine (next_p g s w1 HP.out).mono ?_;rintro e w2 ⟨rfl, hb⟩;replace HBr := kB hb HBr;replace HP := h_ (HP.out.below hb);replace HD := dB HD hb;have hsz2 := HD.out.size;clear hb;simp only [tokV];obtain ⟨t, hnx⟩ : ∃ t, t = St.nx s := ⟨_, rfl⟩
 rw [<- hnx];have HNt := h_ hnx;clear hnx;go_upto_region 2 with fail
 obtain ⟨w3, kt, hw, hkk, hb, hs1, HBt⟩ := newb w2 #[.int .i64 (t.kind : Nat), .string ⟨t.text.toArray⟩, .int .i64 (t.line : Nat), .int .i64 (t.col : Nat)] 111;have hgt : g < kt := by rw [hkk]; exact HP.out.lt
 have het : w.heap.size <= kt := by omega
 have hr_t : kr < kt := by rw [hkk]; exact lt_of_block HBr.out
 rw [hw, <- hkk];replace HBr := kB hb HBr;replace HP := h_ (HP.out.below hb);replace HD := dB HD hb;have hsz3 := HD.out.size;clear hw hb hkk hs1;go_wp2_with fail
 obtain ⟨w4, kq1, hw, hkk, hb, hs1, HBq1⟩ := newb w3 #[.string ⟨#[118]⟩, .string ⟨#[58]⟩] 9;have hgq1 : g < kq1 := by rw [hkk]; exact HP.out.lt
 have heq1 : w.heap.size <= kq1 := by omega
 have hr_q1 : kr < kq1 := by rw [hkk]; exact lt_of_block HBr.out
 have ht_q1 : kt < kq1 := by rw [hkk]; exact lt_of_block HBt.out
 rw [hw, <- hkk];replace HBr := kB hb HBr;replace HBt := kB hb HBt;replace HP := h_ (HP.out.below hb);replace HD := dB HD hb;have hsz4 := HD.out.size;clear hw hb hkk hs1;refine (expect_p g s [[118], [58]] kq1 w4 HP.out HBq1.out (by omega) (by decide)).mono ?_;rintro e w5 ⟨⟨v, rfl⟩, hp, hg⟩;replace HBr := kG hg HBr;replace HBt := kG hg HBt;replace HBq1 := kG hg HBq1;replace HP := h_ hp;replace HD := dG HD (hg);have hsz5 := HD.out.size;clear hp hg;obtain ⟨bb, hbb⟩ : ∃ b, b = (cBase ((s.exp [118]).exp [58])).1 := ⟨_, rfl⟩
 obtain ⟨sb, hsb⟩ : ∃ x, x = (cBase ((s.exp [118]).exp [58])).2 := ⟨_, rfl⟩
 have HBB := h_ hbb;have HSB := h_ hsb;clear hbb hsb;go_upto_region 3 with fail
 have hlt_t := lt_of_block HBt.out;have hog : ∀ q, q < 1 -> (fun q => g) q < w5.heap.size := fun q _ => by show g < _; exact HP.out.lt
 refine R7.region (by kernel_rfl) [[], [], [1], [0, 1, 2], [0, 1, 2, 3]] [] [(2, 1000)] (fun q => g) 1 3 (by kernel_rfl) (by kernel_rfl) (by rfl) hog (fun q q' h h' hn => absurd hn (by omega)) ?_;refine R7.Chain.det ?_ (by rfl) (fun T xs wr hA => ?_) ?_
 rotate_left 1
 ·have e3 := hA.pre 3 (by kernel_rfl);simp only [gsa, gsc, gsz] at e3;have hBq : wr.heap[kt]? = _ := (hA.bl _ hlt_t (fun q _ => by show g ≠ kt; omega)).trans HBt.out;obtain ⟨q0, q1, q2, q3⟩ := cl4 hBq;clear hBq;clear hA;refine ⟨(by rfl), ?_⟩;go_simp <;> (try with_reducible rfl)
 refine R7.Chain.det ?_ (by rfl) (fun T xs wr hA => ?_) ?_
 rotate_left 1
 ·have e0 := hA.pre 0 (by kernel_rfl);simp only [gsa, gsz] at e0;clear hA;refine ⟨(by rfl), ?_⟩;go_simp <;> (try with_reducible rfl)
 refine R7.Chain.callOld 0 (fun xs v w => v = .int .i64 (bb : Nat) /\ PS w g sb) (fun _ _ _ _ ⟨h1, h2⟩ hb => ⟨h1, h2.below hb⟩) (fun _ _ _ _ q' _ hq hne _ => absurd rfl hne) (by rfl) (by rfl) (by decide) (R7.own_one (by rfl)) (fun T xs wr hA hold => ?_) ?_
 ·have hsw := (hA.be 0 (Nat.zero_le _) (fun _ _ => Nat.zero_le _)).size;have e10 := (hA.tm 1 10 (by rfl) (by rfl)).trans (congrArg some (hA.fa 1 (by rfl)))
  (try simp (disch := first | rfl | decide) only [R7.mask_in] at e10)
  have h0 := undrew (hA.be 0 (Nat.zero_le _) (fun _ _ => Nat.zero_le _))
  have hbw : Below w5.heap.size w5 wr := ⟨h0.os, h0.tape, h0.output, h0.size, fun k hk => by
   by_cases e : k = g
   ·rw [e]; exact hold
   exact hA.bl k hk (fun q _ h => e h.symm)⟩
  clear hA;refine ⟨(by rfl), fun K hK => ?_⟩;go_simp
  refine (base_p g ((s.exp [118]).exp [58]) wr (HP.out.below hbw)).mono ?_;rintro e w' ⟨rfl, hp, hg⟩;exact hK.out _ _ ⟨by rw [HBB.out], by rw [HSB.out]; exact hp⟩ (R7.Priv.of hg)
 refine R7.Chain.done (fun xs w6 hL => ?_);obtain ⟨⟨hbe, hbl⟩, hf, -, -⟩ := hL;have f0 : xs 0 = _ := hf 0 (by decide);have f1 : xs 1 = _ := hf 1 (by decide);have F2 : (xs 2) = .int .i64 (bb : Nat) /\ PS w6 g sb := hf 2 (by decide)
 (try simp (disch := first | rfl | decide) only [R7.mask_in] at f0 f1)
 have hb0 : Below 0 w5 w6 := undrew (hbe 0 (Nat.zero_le _) (fun _ _ => Nat.zero_le _));have hgr : ∀ j, j < w5.heap.size -> (∀ q, q < 1 -> (fun q => g) q ≠ j) -> w6.heap[j]? = w5.heap[j]? := hbl;clear hbe hbl hf;obtain ⟨hv, hp⟩ := F2;have hg : w5.grownBy w6 (some g) := ⟨hb0.os, hb0.tape, hb0.output, hb0.size, fun k hk hn => hgr k hk (fun q _ e => hn (by rw [<- e]))⟩
 refine R7.rest_list (by decide) (by kernel_rfl) ?_;simp only [R7.fill, List.take_succ_cons, List.take_zero, List.drop_succ_cons, List.drop_zero, List.setIfInBounds_toArray, List.set_cons_zero, List.set_cons_succ, f0, f1];simp only [hv];clear hlt_t hog hv f0 f1;replace HBr := kG hg HBr;replace HBt := kG hg HBt;replace HP := h_ hp;replace HD := dG HD (hg);clear hp hg hb0 hgr;go_wp2_with fail
 refine (typed_p t.text t bb w6 rfl).mono ?_;rintro e w7 ⟨rfl, hb⟩;replace HBr := kB hb HBr;replace HBt := kB hb HBt;replace HP := h_ (HP.out.below hb);replace HD := dB HD hb;clear hb;simp only [pmV, typ, xZ];obtain ⟨z0, z1, z2, z3, z4, z5, z6, z7, z8, z9, z10, z11, z12⟩ := cl13 HBr.out;obtain ⟨fz0, fz1, fz2, fz3, fz4, fz5, fz6, fz7, fz8, fz9, fz10, fz11, fz12⟩ := fr13 HBr.out;go_wp2_with fail
 refine bodyPost_ret (v := .agg #[.string ⟨t.text.toArray⟩, .int .i64 (bb : Nat), .bool false, .int .i64 0, .string ⟨#[]⟩, .string ⟨#[]⟩, .bool false, .slice none 0 0, .slice none 0 0, .int .i64 0, .int .i64 0, .int .i64 (t.line : Nat), .int .i64 (t.col : Nat)]) (by simp [results, Tryz.results81, go_sem, z0, z1, z2, z3, z4, z5, z6, z7, z8, z9, z10, z11, z12]) rfl ?_;obtain ⟨wz, hw⟩ : ∃ x, x = w7.setCells kr 0 [.string ⟨t.text.toArray⟩, .int .i64 (bb : Nat), .bool false, .int .i64 0, .string ⟨#[]⟩, .string ⟨#[]⟩, .bool false, .slice none 0 0, .slice none 0 0, .int .i64 0, .int .i64 0, .int .i64 (t.line : Nat), .int .i64 (t.col : Nat)] := ⟨_, rfl⟩
 have hg : w7.grownBy wz (some kr) := by rw [hw]; exact setCells_grown _ _ _ _
 rw [show ((((((((((((w7.setCell ⟨kr, 0, none⟩ (.string ⟨t.text.toArray⟩)).setCell ⟨kr, 1, none⟩ (.int .i64 (bb : Nat))).setCell ⟨kr, 2, none⟩ (.bool false)).setCell ⟨kr, 3, none⟩ (.int .i64 0)).setCell ⟨kr, 4, none⟩ (.string ⟨#[]⟩)).setCell ⟨kr, 5, none⟩ (.string ⟨#[]⟩)).setCell ⟨kr, 6, none⟩ (.bool false)).setCell ⟨kr, 7, none⟩ (.slice none 0 0)).setCell ⟨kr, 8, none⟩ (.slice none 0 0)).setCell ⟨kr, 9, none⟩ (.int .i64 0)).setCell ⟨kr, 10, none⟩ (.int .i64 0)).setCell ⟨kr, 11, none⟩ (.int .i64 (t.line : Nat))).setCell ⟨kr, 12, none⟩ (.int .i64 (t.col : Nat)) = wz from hw.symm];clear z0 fz0 z1 fz1 z2 fz2 z3 fz3 z4 fz4 z5 fz5 z6 fz6 z7 fz7 z8 fz8 z9 fz9 z10 fz10 z11 fz11 z12 fz12;replace HP := h_ (HP.out.store HBr.out (by decide) (by omega) hg);replace HBt := kG hg HBt;replace HD := dN HD hg (by omega);have hsz8 := HD.out.size;clear hw hg
 exact ⟨by unfold cVar; simp only [pmV, typ, xZ]; rw [show (cBase ((s.exp wV).exp wColon)).1 = bb from HBB.out.symm, <- HNt.out], by unfold cVar; rw [show (cBase ((s.exp wV).exp wColon)).2 = sb from HSB.out.symm]; exact ⟨HP.out, HD.out⟩⟩
theorem param_p (g count : Nat) (s : St) (w : World) (hps : PS w g s) (hc : count <= 1000000) :
  Calls Tryz.prog 82 #[.pointer (some ⟨g, 0, none⟩), .int .i64 (count : Nat)] w fun e w' => e = .returned (pmV (cParam count s).1 xZ) /\ Did w g (cParam count s).2 w' := by
 have HP := h_ hps;clear hps;go_enter Tryz.func82, Tryz.ntmps82
 go_upto_region 1 with fail
 obtain ⟨w1, kr, hw, hkk, hb, hs1, HBr⟩ := newb w #[.string ⟨#[]⟩, .int .i64 0, .bool false, .int .i64 0, .string ⟨#[]⟩, .string ⟨#[]⟩, .bool false, .slice none 0 0, .slice none 0 0, .int .i64 0, .int .i64 0, .int .i64 0, .int .i64 0] 83;have hgr : g < kr := by rw [hkk]; exact HP.out.lt
 have her : w.heap.size <= kr := by omega
 rw [hw, <- hkk];replace HP := h_ (HP.out.below hb);have HD := h_ (below_grown hb (some g));clear hw hb hkk hs1;go_wp2_with fail
 refine (counted_p g count 6 s w1 HP.out hc (by decide)).mono ?_;rintro e w2 ⟨rfl, hp, hg⟩;replace HBr := kG hg HBr;replace HP := h_ hp;replace HD := dG HD (hg);have hsz2 := HD.out.size;clear hp hg;simp only [tokV];obtain ⟨t, hnx⟩ : ∃ t, t = St.nx s := ⟨_, rfl⟩
 rw [<- hnx];have HNt := h_ hnx;clear hnx;go_upto_region 2 with fail
 obtain ⟨w3, kt, hw, hkk, hb, hs1, HBt⟩ := newb w2 #[.int .i64 (t.kind : Nat), .string ⟨t.text.toArray⟩, .int .i64 (t.line : Nat), .int .i64 (t.col : Nat)] 111;have hgt : g < kt := by rw [hkk]; exact HP.out.lt
 have het : w.heap.size <= kt := by omega
 have hr_t : kr < kt := by rw [hkk]; exact lt_of_block HBr.out
 rw [hw, <- hkk];replace HBr := kB hb HBr;replace HP := h_ (HP.out.below hb);replace HD := dB HD hb;have hsz3 := HD.out.size;clear hw hb hkk hs1;go_wp2_with fail
 obtain ⟨w4, kq1, hw, hkk, hb, hs1, HBq1⟩ := newb w3 #[.string ⟨#[58]⟩] 9;have hgq1 : g < kq1 := by rw [hkk]; exact HP.out.lt
 have heq1 : w.heap.size <= kq1 := by omega
 have hr_q1 : kr < kq1 := by rw [hkk]; exact lt_of_block HBr.out
 have ht_q1 : kt < kq1 := by rw [hkk]; exact lt_of_block HBt.out
 rw [hw, <- hkk];replace HBr := kB hb HBr;replace HBt := kB hb HBt;replace HP := h_ (HP.out.below hb);replace HD := dB HD hb;have hsz4 := HD.out.size;clear hw hb hkk hs1;refine (expect_p g (s.counted count 6) [[58]] kq1 w4 HP.out HBq1.out (by omega) (by decide)).mono ?_;rintro e w5 ⟨⟨v, rfl⟩, hp, hg⟩;replace HBr := kG hg HBr;replace HBt := kG hg HBt;replace HBq1 := kG hg HBq1;replace HP := h_ hp;replace HD := dG HD (hg);have hsz5 := HD.out.size;clear hp hg;obtain ⟨bb, hbb⟩ : ∃ b, b = (cBase ((s.counted count 6).exp [58])).1 := ⟨_, rfl⟩
 obtain ⟨sb, hsb⟩ : ∃ x, x = (cBase ((s.counted count 6).exp [58])).2 := ⟨_, rfl⟩
 have HBB := h_ hbb;have HSB := h_ hsb;clear hbb hsb;go_upto_region 3 with fail
 have hlt_t := lt_of_block HBt.out;have hog : ∀ q, q < 1 -> (fun q => g) q < w5.heap.size := fun q _ => by show g < _; exact HP.out.lt
 refine R7.region (by kernel_rfl) [[], [], [1], [0, 1, 2], [0, 1, 2, 3]] [] [(2, 1000)] (fun q => g) 1 3 (by kernel_rfl) (by kernel_rfl) (by rfl) hog (fun q q' h h' hn => absurd hn (by omega)) ?_;refine R7.Chain.det ?_ (by rfl) (fun T xs wr hA => ?_) ?_
 rotate_left 1
 ·have e5 := hA.pre 5 (by kernel_rfl);simp only [gsa, gsc, gsz] at e5;have hBq : wr.heap[kt]? = _ := (hA.bl _ hlt_t (fun q _ => by show g ≠ kt; omega)).trans HBt.out;obtain ⟨q0, q1, q2, q3⟩ := cl4 hBq;clear hBq;clear hA;refine ⟨(by rfl), ?_⟩;go_simp <;> (try with_reducible rfl)
 refine R7.Chain.det ?_ (by rfl) (fun T xs wr hA => ?_) ?_
 rotate_left 1
 ·have e0 := hA.pre 0 (by kernel_rfl);simp only [gsa, gsz] at e0;clear hA;refine ⟨(by rfl), ?_⟩;go_simp <;> (try with_reducible rfl)
 refine R7.Chain.callOld 0 (fun xs v w => v = .int .i64 (bb : Nat) /\ PS w g sb) (fun _ _ _ _ ⟨h1, h2⟩ hb => ⟨h1, h2.below hb⟩) (fun _ _ _ _ q' _ hq hne _ => absurd rfl hne) (by rfl) (by rfl) (by decide) (R7.own_one (by rfl)) (fun T xs wr hA hold => ?_) ?_
 ·have hsw := (hA.be 0 (Nat.zero_le _) (fun _ _ => Nat.zero_le _)).size;have e13 := (hA.tm 1 13 (by rfl) (by rfl)).trans (congrArg some (hA.fa 1 (by rfl)))
  (try simp (disch := first | rfl | decide) only [R7.mask_in] at e13)
  have h0 := undrew (hA.be 0 (Nat.zero_le _) (fun _ _ => Nat.zero_le _))
  have hbw : Below w5.heap.size w5 wr := ⟨h0.os, h0.tape, h0.output, h0.size, fun k hk => by
   by_cases e : k = g
   ·rw [e]; exact hold
   exact hA.bl k hk (fun q _ h => e h.symm)⟩
  clear hA;refine ⟨(by rfl), fun K hK => ?_⟩;go_simp
  refine (base_p g ((s.counted count 6).exp [58]) wr (HP.out.below hbw)).mono ?_;rintro e w' ⟨rfl, hp, hg⟩;exact hK.out _ _ ⟨by rw [HBB.out], by rw [HSB.out]; exact hp⟩ (R7.Priv.of hg)
 refine R7.Chain.done (fun xs w6 hL => ?_);obtain ⟨⟨hbe, hbl⟩, hf, -, -⟩ := hL;have f0 : xs 0 = _ := hf 0 (by decide);have f1 : xs 1 = _ := hf 1 (by decide);have F2 : (xs 2) = .int .i64 (bb : Nat) /\ PS w6 g sb := hf 2 (by decide)
 (try simp (disch := first | rfl | decide) only [R7.mask_in] at f0 f1)
 have hb0 : Below 0 w5 w6 := undrew (hbe 0 (Nat.zero_le _) (fun _ _ => Nat.zero_le _));have hgr : ∀ j, j < w5.heap.size -> (∀ q, q < 1 -> (fun q => g) q ≠ j) -> w6.heap[j]? = w5.heap[j]? := hbl;clear hbe hbl hf;obtain ⟨hv, hp⟩ := F2;have hg : w5.grownBy w6 (some g) := ⟨hb0.os, hb0.tape, hb0.output, hb0.size, fun k hk hn => hgr k hk (fun q _ e => hn (by rw [<- e]))⟩
 refine R7.rest_list (by decide) (by kernel_rfl) ?_;simp only [R7.fill, List.take_succ_cons, List.take_zero, List.drop_succ_cons, List.drop_zero, List.setIfInBounds_toArray, List.set_cons_zero, List.set_cons_succ, f0, f1];simp only [hv];clear hlt_t hog hv f0 f1;replace HBr := kG hg HBr;replace HBt := kG hg HBt;replace HP := h_ hp;replace HD := dG HD (hg);clear hp hg hb0 hgr;go_wp2_with fail
 refine (typed_p t.text t bb w6 rfl).mono ?_;rintro e w7 ⟨rfl, hb⟩;replace HBr := kB hb HBr;replace HBt := kB hb HBt;replace HP := h_ (HP.out.below hb);replace HD := dB HD hb;clear hb;simp only [pmV, typ, xZ];obtain ⟨z0, z1, z2, z3, z4, z5, z6, z7, z8, z9, z10, z11, z12⟩ := cl13 HBr.out;obtain ⟨fz0, fz1, fz2, fz3, fz4, fz5, fz6, fz7, fz8, fz9, fz10, fz11, fz12⟩ := fr13 HBr.out;go_wp2_with fail
 refine bodyPost_ret (v := .agg #[.string ⟨t.text.toArray⟩, .int .i64 (bb : Nat), .bool false, .int .i64 0, .string ⟨#[]⟩, .string ⟨#[]⟩, .bool false, .slice none 0 0, .slice none 0 0, .int .i64 0, .int .i64 0, .int .i64 (t.line : Nat), .int .i64 (t.col : Nat)]) (by simp [results, Tryz.results82, go_sem, z0, z1, z2, z3, z4, z5, z6, z7, z8, z9, z10, z11, z12]) rfl ?_;obtain ⟨wz, hw⟩ : ∃ x, x = w7.setCells kr 0 [.string ⟨t.text.toArray⟩, .int .i64 (bb : Nat), .bool false, .int .i64 0, .string ⟨#[]⟩, .string ⟨#[]⟩, .bool false, .slice none 0 0, .slice none 0 0, .int .i64 0, .int .i64 0, .int .i64 (t.line : Nat), .int .i64 (t.col : Nat)] := ⟨_, rfl⟩
 have hg : w7.grownBy wz (some kr) := by rw [hw]; exact setCells_grown _ _ _ _
 rw [show ((((((((((((w7.setCell ⟨kr, 0, none⟩ (.string ⟨t.text.toArray⟩)).setCell ⟨kr, 1, none⟩ (.int .i64 (bb : Nat))).setCell ⟨kr, 2, none⟩ (.bool false)).setCell ⟨kr, 3, none⟩ (.int .i64 0)).setCell ⟨kr, 4, none⟩ (.string ⟨#[]⟩)).setCell ⟨kr, 5, none⟩ (.string ⟨#[]⟩)).setCell ⟨kr, 6, none⟩ (.bool false)).setCell ⟨kr, 7, none⟩ (.slice none 0 0)).setCell ⟨kr, 8, none⟩ (.slice none 0 0)).setCell ⟨kr, 9, none⟩ (.int .i64 0)).setCell ⟨kr, 10, none⟩ (.int .i64 0)).setCell ⟨kr, 11, none⟩ (.int .i64 (t.line : Nat))).setCell ⟨kr, 12, none⟩ (.int .i64 (t.col : Nat)) = wz from hw.symm];clear z0 fz0 z1 fz1 z2 fz2 z3 fz3 z4 fz4 z5 fz5 z6 fz6 z7 fz7 z8 fz8 z9 fz9 z10 fz10 z11 fz11 z12 fz12;replace HP := h_ (HP.out.store HBr.out (by decide) (by omega) hg);replace HBt := kG hg HBt;replace HD := dN HD hg (by omega);have hsz8 := HD.out.size;clear hw hg
 exact ⟨by unfold cParam; simp only [pmV, typ, xZ]; rw [show (cBase ((s.counted count 6).exp wColon)).1 = bb from HBB.out.symm, <- HNt.out], by unfold cParam; rw [show (cBase ((s.counted count 6).exp wColon)).2 = sb from HSB.out.symm]; exact ⟨HP.out, HD.out⟩⟩
theorem refined_p (n : Nat) (hn : n <= 1000000) (g : Nat) (s : St) (nm : Bs) (t : Tok) (b : Nat) (r : PmU × St) (w : World) (hps : PS w g s) (hop : GOps w g) (hc : cRef n (typ nm t b) s = some r) :
  Calls Tryz.prog 85 #[.pointer (some ⟨g, 0, none⟩), pmV (typ nm t b) xZ] w fun e w' => ∃ y, e = .returned (pmV r.1 y) /\ Um w' (fun k => w.heap.size <= k) y r.1.ref /\ Did w g r.2 w' := by
 have HP := h_ hps;have HOP := h_ hop;clear hps hop;unfold cRef at hc;simp only [pmV, typ, xZ];go_enter Tryz.func85, Tryz.ntmps85
 go_upto_region 1 with fail
 obtain ⟨w1, kp, hw, hkk, hb, hs1, HBp⟩ := newb w #[.string ⟨nm.toArray⟩, .int .i64 (b : Nat), .bool false, .int .i64 0, .string ⟨#[]⟩, .string ⟨#[]⟩, .bool false, .slice none 0 0, .slice none 0 0, .int .i64 0, .int .i64 0, .int .i64 (t.line : Nat), .int .i64 (t.col : Nat)] 83;have hgp : g < kp := by rw [hkk]; exact HP.out.lt
 have hep : w.heap.size <= kp := by omega
 rw [hw, <- hkk, <- hs1];replace HP := h_ (HP.out.below hb);replace HOP := h_ (HOP.out.below hb);have HD := h_ (below_grown hb (some g));have hsz1 := HD.out.size;clear hw hb hkk hs1;obtain ⟨w2, kr, hw, hkk, hb, hs1, HBr⟩ := newb w1 #[.string ⟨#[]⟩, .int .i64 0, .bool false, .int .i64 0, .string ⟨#[]⟩, .string ⟨#[]⟩, .bool false, .slice none 0 0, .slice none 0 0, .int .i64 0, .int .i64 0, .int .i64 0, .int .i64 0] 83;have hgr : g < kr := by rw [hkk]; exact HP.out.lt
 have her : w.heap.size <= kr := by omega
 have hp_r : kp < kr := by rw [hkk]; exact lt_of_block HBp.out
 rw [hw, <- hkk];replace HBp := kB hb HBp;replace HP := h_ (HP.out.below hb);replace HOP := h_ (HOP.out.below hb);replace HD := dB HD hb;clear hw hb hkk hs1;go_wp2_with fail
 refine (accept_p g s [123] w2 HP.out).mono ?_;rintro e w3 ⟨rfl, hp, hg⟩;replace HBp := kG hg HBp;replace HBr := kG hg HBr;replace HOP := h_ (HOP.out.grown hg (by omega));replace HP := h_ hp;replace HD := dG HD (hg);have hsz3 := HD.out.size;clear hp hg
 by_cases hi : s.is wBraceO = true
 ·rw [if_pos hi, Option.bind_eq_some_iff] at hc;obtain ⟨q, hq, hc⟩ := hc;injection hc with hc;subst hc;have HQ := h_ hq;have HX : Hid (s.acc [123] = s.tk) := h_ (by unfold St.acc; rw [show s.is [123] = true from hi]; rfl);rw [HX.out] at HP;rw [show s.is [123] = true from hi];clear hi hq;obtain ⟨c0, c1, c2, c3, c4, c5, c6, c7, c8, c9, c10, c11, c12⟩ := cl13 HBp.out;obtain ⟨fc0, fc1, fc2, fc3, fc4, fc5, fc6, fc7, fc8, fc9, fc10, fc11, fc12⟩ := fr13 HBp.out;go_upto_region 3 with fail
  obtain ⟨w4, hw⟩ : ∃ x, x = w3.setCells kp 2 [.bool true] := ⟨_, rfl⟩
  have hg : w3.grownBy w4 (some kp) := by rw [hw]; exact setCells_grown _ _ _ _
  have hv := put_same [.bool true] w3 kp 2 _ _ HBp.out (Nat.le_of_ble_eq_true rfl);rw [<- hw] at hv;rw [show w3.setCell ⟨kp, 2, none⟩ (.bool true) = w4 from hw.symm];clear c0 fc0 c1 fc1 c2 fc2 c3 fc3 c4 fc4 c5 fc5 c6 fc6 c7 fc7 c8 fc8 c9 fc9 c10 fc10 c11 fc11 c12 fc12;replace HP := h_ (HP.out.store HBp.out (by decide) (by omega) hg);replace HBr := kG hg HBr;replace HOP := h_ (HOP.out.grown hg (by omega));replace HD := dN HD hg (by omega);have hsz4 := HD.out.size;replace HBp : Hid (w4.heap[kp]? = some (.cells #[.string ⟨nm.toArray⟩, .int .i64 (b : Nat), .bool true, .int .i64 0, .string ⟨#[]⟩, .string ⟨#[]⟩, .bool false, .slice none 0 0, .slice none 0 0, .int .i64 0, .int .i64 0, .int .i64 (t.line : Nat), .int .i64 (t.col : Nat)] 83 (0, 0))) := h_ hv;clear hw hg hv;go_wp2_with fail
  obtain ⟨Nb, hN⟩ : ∃ k, k = w4.heap.size := ⟨_, rfl⟩
  have hp_Nb : kp < Nb := by rw [hN]; exact lt_of_block HBp.out
  have hr_Nb : kr < Nb := by rw [hN]; exact lt_of_block HBr.out
  have hg_Nb : g < Nb := by rw [hN]; exact HP.out.lt
  have he_Nb : w.heap.size <= Nb := by omega
  refine (complete_p n hn g s.tk q w4 HP.out HOP.out HQ.out).mono ?_;rintro e w5 ⟨xb, rfl, hu, hp, hg⟩;replace HBp := kG hg HBp;replace HBr := kG hg HBr;replace HOP := h_ (HOP.out.grown hg (by omega));replace HP := h_ hp;replace HD := dG HD (hg);rw [<- hN] at hu;have HUb := h_ (hu.mono (S' := fun b => Nb <= b /\ True) (fun b h => ⟨h, trivial⟩));clear hN hu;clear hp hg;obtain ⟨bk, bnm, bot, bb, bao, bn, bq, bko, bkn, bkc, bln, bcl⟩ := xb;simp only [xv];obtain ⟨c0, c1, c2, c3, c4, c5, c6, c7, c8, c9, c10, c11, c12⟩ := cl13 HBp.out;obtain ⟨fc0, fc1, fc2, fc3, fc4, fc5, fc6, fc7, fc8, fc9, fc10, fc11, fc12⟩ := fr13 HBp.out;go_upto_region 4 with fail
  obtain ⟨w6, hw⟩ : ∃ x, x = w5.setCells kp 3 [.int .i64 bk, .string bnm, .string bot, .bool bb, .slice bao bn bq, .slice bko bkn bkc, .int .i64 bln, .int .i64 bcl] := ⟨_, rfl⟩
  have hg : w5.grownBy w6 (some kp) := by rw [hw]; exact setCells_grown _ _ _ _
  have hv := put_same [.int .i64 bk, .string bnm, .string bot, .bool bb, .slice bao bn bq, .slice bko bkn bkc, .int .i64 bln, .int .i64 bcl] w5 kp 3 _ _ HBp.out (Nat.le_of_ble_eq_true rfl);rw [<- hw] at hv;rw [show (((((((w5.setCell ⟨kp, 3, none⟩ (.int .i64 bk)).setCell ⟨kp, 4, none⟩ (.string bnm)).setCell ⟨kp, 5, none⟩ (.string bot)).setCell ⟨kp, 6, none⟩ (.bool bb)).setCell ⟨kp, 7, none⟩ (.slice bao bn bq)).setCell ⟨kp, 8, none⟩ (.slice bko bkn bkc)).setCell ⟨kp, 9, none⟩ (.int .i64 bln)).setCell ⟨kp, 10, none⟩ (.int .i64 bcl) = w6 from hw.symm];clear c0 fc0 c1 fc1 c2 fc2 c3 fc3 c4 fc4 c5 fc5 c6 fc6 c7 fc7 c8 fc8 c9 fc9 c10 fc10 c11 fc11 c12 fc12;replace HP := h_ (HP.out.store HBp.out (by decide) (by omega) hg);replace HBr := kG hg HBr;replace HUb := h_ (HUb.out.grown hg (fun h => by omega));replace HOP := h_ (HOP.out.grown hg (by omega));replace HD := dN HD hg (by omega)
  have hsz6 := HD.out.size;replace HBp : Hid (w6.heap[kp]? = some (.cells #[.string ⟨nm.toArray⟩, .int .i64 (b : Nat), .bool true, .int .i64 bk, .string bnm, .string bot, .bool bb, .slice bao bn bq, .slice bko bkn bkc, .int .i64 bln, .int .i64 bcl, .int .i64 (t.line : Nat), .int .i64 (t.col : Nat)] 83 (0, 0))) := h_ hv;clear hw hg hv;go_wp2_with fail
  obtain ⟨w7, kq1, hw, hkk, hb, hs1, HBq1⟩ := newb w6 #[.string ⟨#[125]⟩] 9;have hgq1 : g < kq1 := by rw [hkk]; exact HP.out.lt
  have heq1 : w.heap.size <= kq1 := by omega
  have hp_q1 : kp < kq1 := by rw [hkk]; exact lt_of_block HBp.out
  have hr_q1 : kr < kq1 := by rw [hkk]; exact lt_of_block HBr.out
  replace HUb := h_ (HUb.out.offk hkk);rw [hw, <- hkk];replace HBp := kB hb HBp;replace HBr := kB hb HBr;replace HP := h_ (HP.out.below hb);replace HUb := h_ (HUb.out.below hb);replace HOP := h_ (HOP.out.below hb);replace HD := dB HD hb;have hsz7 := HD.out.size;clear hw hb hkk hs1;refine (expect_p g q.2 [[125]] kq1 w7 HP.out HBq1.out (by omega) (by decide)).mono ?_;rintro e w8 ⟨⟨v, rfl⟩, hp, hg⟩;replace HBp := kG hg HBp;replace HBr := kG hg HBr;replace HBq1 := kG hg HBq1;replace HUb := h_ (HUb.out.grown hg (fun h => by omega));replace HOP := h_ (HOP.out.grown hg (by omega));replace HP := h_ hp;replace HD := dG HD (hg);clear hp hg;obtain ⟨c0, c1, c2, c3, c4, c5, c6, c7, c8, c9, c10, c11, c12⟩ := cl13 HBp.out;obtain ⟨z0, z1, z2, z3, z4, z5, z6, z7, z8, z9, z10, z11, z12⟩ := cl13 HBr.out;obtain ⟨fz0, fz1, fz2, fz3, fz4, fz5, fz6, fz7, fz8, fz9, fz10, fz11, fz12⟩ := fr13 HBr.out
  go_wp2_with fail
  refine bodyPost_ret (v := .agg #[.string ⟨nm.toArray⟩, .int .i64 (b : Nat), .bool true, .int .i64 bk, .string bnm, .string bot, .bool bb, .slice bao bn bq, .slice bko bkn bkc, .int .i64 bln, .int .i64 bcl, .int .i64 (t.line : Nat), .int .i64 (t.col : Nat)]) (by simp [results, Tryz.results85, go_sem, z0, z1, z2, z3, z4, z5, z6, z7, z8, z9, z10, z11, z12]) rfl ?_;obtain ⟨wz, hw⟩ : ∃ x, x = w8.setCells kr 0 [.string ⟨nm.toArray⟩, .int .i64 (b : Nat), .bool true, .int .i64 bk, .string bnm, .string bot, .bool bb, .slice bao bn bq, .slice bko bkn bkc, .int .i64 bln, .int .i64 bcl, .int .i64 (t.line : Nat), .int .i64 (t.col : Nat)] := ⟨_, rfl⟩
  have hg : w8.grownBy wz (some kr) := by rw [hw]; exact setCells_grown _ _ _ _
  rw [show ((((((((((((w8.setCell ⟨kr, 0, none⟩ (.string ⟨nm.toArray⟩)).setCell ⟨kr, 1, none⟩ (.int .i64 (b : Nat))).setCell ⟨kr, 2, none⟩ (.bool true)).setCell ⟨kr, 3, none⟩ (.int .i64 bk)).setCell ⟨kr, 4, none⟩ (.string bnm)).setCell ⟨kr, 5, none⟩ (.string bot)).setCell ⟨kr, 6, none⟩ (.bool bb)).setCell ⟨kr, 7, none⟩ (.slice bao bn bq)).setCell ⟨kr, 8, none⟩ (.slice bko bkn bkc)).setCell ⟨kr, 9, none⟩ (.int .i64 bln)).setCell ⟨kr, 10, none⟩ (.int .i64 bcl)).setCell ⟨kr, 11, none⟩ (.int .i64 (t.line : Nat))).setCell ⟨kr, 12, none⟩ (.int .i64 (t.col : Nat)) = wz from hw.symm];clear c0 c1 c2 c3 c4 c5 c6 c7 c8 c9 c10 c11 c12 z0 fz0 z1 fz1 z2 fz2 z3 fz3 z4 fz4 z5 fz5 z6 fz6 z7 fz7 z8 fz8 z9 fz9 z10 fz10 z11 fz11 z12 fz12;replace HP := h_ (HP.out.store HBr.out (by decide) (by omega) hg);replace HBp := kG hg HBp;replace HUb := h_ (HUb.out.grown hg (fun h => by omega))
  replace HOP := h_ (HOP.out.grown hg (by omega));replace HD := dN HD hg (by omega);have hsz9 := HD.out.size;clear hw hg;exact ⟨⟨bk, bnm, bot, bb, bao, bn, bq, bko, bkn, bkc, bln, bcl⟩, rfl, (HUb.out.mono (fun b h => by have h : (Nb <= b /\ True) /\ b ≠ kq1 := h; show _ <= b; omega)), HP.out, HD.out⟩
 rw [if_neg hi] at hc;injection hc with hc;subst hc;have hif : s.is [123] = false := by simpa using hi
 have HX : Hid (s.acc [123] = s) := h_ (by unfold St.acc; rw [hif]; rfl);rw [HX.out] at HP;rw [hif];clear hi hif;obtain ⟨c0, c1, c2, c3, c4, c5, c6, c7, c8, c9, c10, c11, c12⟩ := cl13 HBp.out;obtain ⟨z0, z1, z2, z3, z4, z5, z6, z7, z8, z9, z10, z11, z12⟩ := cl13 HBr.out;obtain ⟨fz0, fz1, fz2, fz3, fz4, fz5, fz6, fz7, fz8, fz9, fz10, fz11, fz12⟩ := fr13 HBr.out;go_wp2_with fail
 refine bodyPost_ret (v := .agg #[.string ⟨nm.toArray⟩, .int .i64 (b : Nat), .bool false, .int .i64 0, .string ⟨#[]⟩, .string ⟨#[]⟩, .bool false, .slice none 0 0, .slice none 0 0, .int .i64 0, .int .i64 0, .int .i64 (t.line : Nat), .int .i64 (t.col : Nat)]) (by simp [results, Tryz.results85, go_sem, z0, z1, z2, z3, z4, z5, z6, z7, z8, z9, z10, z11, z12]) rfl ?_;obtain ⟨wz, hw⟩ : ∃ x, x = w3.setCells kr 0 [.string ⟨nm.toArray⟩, .int .i64 (b : Nat), .bool false, .int .i64 0, .string ⟨#[]⟩, .string ⟨#[]⟩, .bool false, .slice none 0 0, .slice none 0 0, .int .i64 0, .int .i64 0, .int .i64 (t.line : Nat), .int .i64 (t.col : Nat)] := ⟨_, rfl⟩
 have hg : w3.grownBy wz (some kr) := by rw [hw]; exact setCells_grown _ _ _ _
 rw [show ((((((((((((w3.setCell ⟨kr, 0, none⟩ (.string ⟨nm.toArray⟩)).setCell ⟨kr, 1, none⟩ (.int .i64 (b : Nat))).setCell ⟨kr, 2, none⟩ (.bool false)).setCell ⟨kr, 3, none⟩ (.int .i64 0)).setCell ⟨kr, 4, none⟩ (.string ⟨#[]⟩)).setCell ⟨kr, 5, none⟩ (.string ⟨#[]⟩)).setCell ⟨kr, 6, none⟩ (.bool false)).setCell ⟨kr, 7, none⟩ (.slice none 0 0)).setCell ⟨kr, 8, none⟩ (.slice none 0 0)).setCell ⟨kr, 9, none⟩ (.int .i64 0)).setCell ⟨kr, 10, none⟩ (.int .i64 0)).setCell ⟨kr, 11, none⟩ (.int .i64 (t.line : Nat))).setCell ⟨kr, 12, none⟩ (.int .i64 (t.col : Nat)) = wz from hw.symm];clear c0 c1 c2 c3 c4 c5 c6 c7 c8 c9 c10 c11 c12 z0 fz0 z1 fz1 z2 fz2 z3 fz3 z4 fz4 z5 fz5 z6 fz6 z7 fz7 z8 fz8 z9 fz9 z10 fz10 z11 fz11 z12 fz12;replace HP := h_ (HP.out.store HBr.out (by decide) (by omega) hg);replace HBp := kG hg HBp;replace HOP := h_ (HOP.out.grown hg (by omega));replace HD := dN HD hg (by omega)
 have hsz4 := HD.out.size;clear hw hg;exact ⟨xZ, rfl, um_zero _ _, HP.out, HD.out⟩
theorem result_p (n : Nat) (hn : n <= 1000000) (g : Nat) (s : St) (r : PmU × St) (w : World) (hps : PS w g s) (hop : GOps w g) (hc : cRes n s = some r) :
  Calls Tryz.prog 86 #[.pointer (some ⟨g, 0, none⟩)] w fun e w' => ∃ y, e = .returned (pmV r.1 y) /\ Um w' (fun k => w.heap.size <= k) y r.1.ref /\ Did w g r.2 w' := by
 have HP := h_ hps;have HOP := h_ hop;have HC := h_ hc;clear hps hop hc;go_enter Tryz.func86, Tryz.ntmps86
 go_upto_region 1 with fail
 obtain ⟨w1, kr, hw, hkk, hb, hs1, HBr⟩ := newb w #[.string ⟨#[]⟩, .int .i64 0, .bool false, .int .i64 0, .string ⟨#[]⟩, .string ⟨#[]⟩, .bool false, .slice none 0 0, .slice none 0 0, .int .i64 0, .int .i64 0, .int .i64 0, .int .i64 0] 83;have hgr : g < kr := by rw [hkk]; exact HP.out.lt
 have her : w.heap.size <= kr := by omega
 rw [hw, <- hkk];replace HP := h_ (HP.out.below hb);replace HOP := h_ (HOP.out.below hb);have HD := h_ (below_grown hb (some g));clear hw hb hkk hs1;go_wp2_with fail
 refine (next_p g s w1 HP.out).mono ?_;rintro e w2 ⟨rfl, hb⟩;replace HBr := kB hb HBr;replace HP := h_ (HP.out.below hb);replace HOP := h_ (HOP.out.below hb);replace HD := dB HD hb;have hsz2 := HD.out.size;clear hb;simp only [tokV];obtain ⟨t, hnx⟩ : ∃ t, t = St.nx s := ⟨_, rfl⟩
 rw [<- hnx];have HNt := h_ hnx;clear hnx;go_upto_region 2 with fail
 obtain ⟨w3, kt, hw, hkk, hb, hs1, HBt⟩ := newb w2 #[.int .i64 (t.kind : Nat), .string ⟨t.text.toArray⟩, .int .i64 (t.line : Nat), .int .i64 (t.col : Nat)] 111;have hgt : g < kt := by rw [hkk]; exact HP.out.lt
 have het : w.heap.size <= kt := by omega
 have hr_t : kr < kt := by rw [hkk]; exact lt_of_block HBr.out
 rw [hw, <- hkk];replace HBr := kB hb HBr;replace HP := h_ (HP.out.below hb);replace HOP := h_ (HOP.out.below hb);replace HD := dB HD hb;have hsz3 := HD.out.size;clear hw hb hkk hs1;obtain ⟨bb, hbb⟩ : ∃ b, b = (cBase s).1 := ⟨_, rfl⟩
 obtain ⟨sb, hsb⟩ : ∃ x, x = (cBase s).2 := ⟨_, rfl⟩
 have HBB := h_ hbb;have HSB := h_ hsb;clear hbb hsb;have hlt_t := lt_of_block HBt.out;have hog : ∀ q, q < 1 -> (fun q => g) q < w3.heap.size := fun q _ => by show g < _; exact HP.out.lt
 refine R7.region (by kernel_rfl) [[], [], [1], [0, 1, 2], [], [0, 1, 2, 3, 4]] [] [(2, 1000)] (fun q => g) 1 5 (by kernel_rfl) (by kernel_rfl) (by rfl) hog (fun q q' h h' hn => absurd hn (by omega)) ?_;refine R7.Chain.det ?_ (by rfl) (fun T xs wr hA => ?_) ?_
 rotate_left 1
 ·have e3 := hA.pre 3 (by kernel_rfl);simp only [gsa, gsc, gsz] at e3;have hBq : wr.heap[kt]? = _ := (hA.bl _ hlt_t (fun q _ => by show g ≠ kt; omega)).trans HBt.out;obtain ⟨q0, q1, q2, q3⟩ := cl4 hBq;clear hBq;clear hA;refine ⟨(by rfl), ?_⟩;go_simp <;> (try with_reducible rfl)
 refine R7.Chain.det ?_ (by rfl) (fun T xs wr hA => ?_) ?_
 rotate_left 1
 ·have e0 := hA.pre 0 (by kernel_rfl);simp only [gsa, gsz] at e0;clear hA;refine ⟨(by rfl), ?_⟩;go_simp <;> (try with_reducible rfl)
 refine R7.Chain.callOld 0 (fun xs v w => v = .int .i64 (bb : Nat) /\ PS w g sb) (fun _ _ _ _ ⟨h1, h2⟩ hb => ⟨h1, h2.below hb⟩) (fun _ _ _ _ q' _ hq hne _ => absurd rfl hne) (by rfl) (by rfl) (by decide) (R7.own_one (by rfl)) (fun T xs wr hA hold => ?_) ?_
 ·have hsw := (hA.be 0 (Nat.zero_le _) (fun _ _ => Nat.zero_le _)).size;have e8 := (hA.tm 1 8 (by rfl) (by rfl)).trans (congrArg some (hA.fa 1 (by rfl)))
  (try simp (disch := first | rfl | decide) only [R7.mask_in] at e8)
  have h0 := undrew (hA.be 0 (Nat.zero_le _) (fun _ _ => Nat.zero_le _))
  have hbw : Below w3.heap.size w3 wr := ⟨h0.os, h0.tape, h0.output, h0.size, fun k hk => by
   by_cases e : k = g
   ·rw [e]; exact hold
   exact hA.bl k hk (fun q _ h => e h.symm)⟩
  clear hA;refine ⟨(by rfl), fun K hK => ?_⟩;go_simp
  refine (base_p g s wr (HP.out.below hbw)).mono ?_;rintro e w' ⟨rfl, hp, hg⟩;exact hK.out _ _ ⟨by rw [HBB.out], by rw [HSB.out]; exact hp⟩ (R7.Priv.of hg)
 refine R7.Chain.call (fun xs v w => v = pmV (typ t.text t bb) xZ) (fun _ _ _ _ h _ => h) (fun _ _ _ _ _ h _ _ => h) (by rfl) (fun T xs wr hA => ?_) ?_
 ·have hsw := (hA.be 0 (Nat.zero_le _) (fun _ _ => Nat.zero_le _)).size;have e7 := (hA.tm 0 7 (by rfl) (by rfl)).trans (congrArg some (hA.fa 0 (by rfl)))
  (try simp (disch := first | rfl | decide) only [R7.mask_in] at e7)
  have e9 := hA.tm 2 9 (by rfl) (by rfl);have hF2 : (xs 2) = .int .i64 (bb : Nat) /\ PS wr g sb := hA.fa 2 (by rfl);have hx := hF2;rw [hx.1] at e9;clear hx;clear hA;refine ⟨(by rfl), fun K hK => ?_⟩;go_simp
  refine (typed_p t.text t bb _ rfl).mono ?_;rintro e w' ⟨rfl, hb⟩;exact hK.out _ _ rfl hb
 refine R7.Chain.call (fun xs v w => ∃ k, v = .pointer (some ⟨k, 0, none⟩) /\ w3.heap.size <= k /\ w.heap[k]? = some (.cells #[.string ⟨#[]⟩, .int .i64 0, .bool false, .int .i64 0, .string ⟨#[]⟩, .string ⟨#[]⟩, .bool false, .slice none 0 0, .slice none 0 0, .int .i64 0, .int .i64 0, .int .i64 0, .int .i64 0] 83 (0, 0))) (fun _ _ _ _ ⟨g, hv, hl, hg⟩ hb => ⟨g, hv, hl, by rw [hb.block g (Array.getElem?_eq_some_iff.1 hg).1]; exact hg⟩) (fun _ _ _ _ _ ⟨g, hv, hl, hg⟩ ⟨q, hq, e⟩ hp => ⟨g, hv, hl, by rw [hp.block g (Array.getElem?_eq_some_iff.1 hg).1 (fun h => by have := hog q hq; omega)]; exact hg⟩) (by rfl) (fun T xs wr hA => ?_) ?_
 ·have hsw := (hA.be 0 (Nat.zero_le _) (fun _ _ => Nat.zero_le _)).size;clear hA;refine ⟨(by rfl), fun K hK => ?_⟩;go_simp
  exact hK.out _ _ ⟨_, rfl, hsw, by simpa using made_at wr _ _ rfl⟩ ((Below.refl _ _).alloc (Nat.le_refl _) _)
 refine R7.Chain.done (fun xs w4 hL => ?_);obtain ⟨⟨hbe, hbl⟩, hf, -, -⟩ := hL;have f0 : xs 0 = _ := hf 0 (by decide);have f1 : xs 1 = _ := hf 1 (by decide);have F2 : (xs 2) = .int .i64 (bb : Nat) /\ PS w4 g sb := hf 2 (by decide);have f3 : xs 3 = (pmV (typ t.text t bb) xZ) := hf 3 (by decide);have F4 : ∃ k, (xs 4) = .pointer (some ⟨k, 0, none⟩) /\ w3.heap.size <= k /\ w4.heap[k]? = some (.cells #[.string ⟨#[]⟩, .int .i64 0, .bool false, .int .i64 0, .string ⟨#[]⟩, .string ⟨#[]⟩, .bool false, .slice none 0 0, .slice none 0 0, .int .i64 0, .int .i64 0, .int .i64 0, .int .i64 0] 83 (0, 0)) := hf 4 (by decide)
 (try simp (disch := first | rfl | decide) only [R7.mask_in] at f0 f1)
 have hb0 : Below 0 w3 w4 := undrew (hbe 0 (Nat.zero_le _) (fun _ _ => Nat.zero_le _));have hgr : ∀ j, j < w3.heap.size -> (∀ q, q < 1 -> (fun q => g) q ≠ j) -> w4.heap[j]? = w3.heap[j]? := hbl;clear hbe hbl hf;obtain ⟨-, hp⟩ := F2;obtain ⟨kv, hv4, hl4, hg4⟩ := F4;have hg : w3.grownBy w4 (some g) := ⟨hb0.os, hb0.tape, hb0.output, hb0.size, fun k hk hn => hgr k hk (fun q _ e => hn (by rw [<- e]))⟩
 have hgv : g < kv := Nat.lt_of_lt_of_le HP.out.lt hl4;have hr_v : kr < kv := Nat.lt_of_lt_of_le (lt_of_block HBr.out) hl4;have ht_v : kt < kv := Nat.lt_of_lt_of_le (lt_of_block HBt.out) hl4;have hev : w.heap.size <= kv := by omega
 refine R7.rest_list (by decide) (by kernel_rfl) ?_;simp only [R7.fill, List.take_succ_cons, List.take_zero, List.drop_succ_cons, List.drop_zero, List.setIfInBounds_toArray, List.set_cons_zero, List.set_cons_succ, f0, f1, f3];simp only [hv4];clear hlt_t hog hv4 hl4 f0 f1 f3;replace HBr := kG hg HBr;replace HBt := kG hg HBt;replace HOP := h_ (HOP.out.grown hg (by omega));replace HP := h_ hp;replace HD := dG HD (hg);have HBv := h_ hg4;clear hp hg hb0 hgr hg4;simp only [pmV, typ, xZ];obtain ⟨c0, c1, c2, c3, c4, c5, c6, c7, c8, c9, c10, c11, c12⟩ := cl13 HBv.out;obtain ⟨fc0, fc1, fc2, fc3, fc4, fc5, fc6, fc7, fc8, fc9, fc10, fc11, fc12⟩ := fr13 HBv.out;go_upto_region 3 with fail
 obtain ⟨w5, hw⟩ : ∃ x, x = w4.setCells kv 0 [.string ⟨t.text.toArray⟩, .int .i64 (bb : Nat), .bool false, .int .i64 0, .string ⟨#[]⟩, .string ⟨#[]⟩, .bool false, .slice none 0 0, .slice none 0 0, .int .i64 0, .int .i64 0, .int .i64 (t.line : Nat), .int .i64 (t.col : Nat)] := ⟨_, rfl⟩
 have hg : w4.grownBy w5 (some kv) := by rw [hw]; exact setCells_grown _ _ _ _
 have hv := put_same [.string ⟨t.text.toArray⟩, .int .i64 (bb : Nat), .bool false, .int .i64 0, .string ⟨#[]⟩, .string ⟨#[]⟩, .bool false, .slice none 0 0, .slice none 0 0, .int .i64 0, .int .i64 0, .int .i64 (t.line : Nat), .int .i64 (t.col : Nat)] w4 kv 0 _ _ HBv.out (Nat.le_of_ble_eq_true rfl);rw [<- hw] at hv;rw [show ((((((((((((w4.setCell ⟨kv, 0, none⟩ (.string ⟨t.text.toArray⟩)).setCell ⟨kv, 1, none⟩ (.int .i64 (bb : Nat))).setCell ⟨kv, 2, none⟩ (.bool false)).setCell ⟨kv, 3, none⟩ (.int .i64 0)).setCell ⟨kv, 4, none⟩ (.string ⟨#[]⟩)).setCell ⟨kv, 5, none⟩ (.string ⟨#[]⟩)).setCell ⟨kv, 6, none⟩ (.bool false)).setCell ⟨kv, 7, none⟩ (.slice none 0 0)).setCell ⟨kv, 8, none⟩ (.slice none 0 0)).setCell ⟨kv, 9, none⟩ (.int .i64 0)).setCell ⟨kv, 10, none⟩ (.int .i64 0)).setCell ⟨kv, 11, none⟩ (.int .i64 (t.line : Nat))).setCell ⟨kv, 12, none⟩ (.int .i64 (t.col : Nat)) = w5 from hw.symm]
 clear c0 fc0 c1 fc1 c2 fc2 c3 fc3 c4 fc4 c5 fc5 c6 fc6 c7 fc7 c8 fc8 c9 fc9 c10 fc10 c11 fc11 c12 fc12;replace HP := h_ (HP.out.store HBv.out (by decide) (by omega) hg);replace HBr := kG hg HBr;replace HBt := kG hg HBt;replace HOP := h_ (HOP.out.grown hg (by omega));replace HD := dN HD hg (by omega);replace HBv : Hid (w5.heap[kv]? = some (.cells #[.string ⟨t.text.toArray⟩, .int .i64 (bb : Nat), .bool false, .int .i64 0, .string ⟨#[]⟩, .string ⟨#[]⟩, .bool false, .slice none 0 0, .slice none 0 0, .int .i64 0, .int .i64 0, .int .i64 (t.line : Nat), .int .i64 (t.col : Nat)] 83 (0, 0))) := h_ hv;clear hw hg hv;obtain ⟨c0, c1, c2, c3, c4, c5, c6, c7, c8, c9, c10, c11, c12⟩ := cl13 HBv.out;obtain ⟨fc0, fc1, fc2, fc3, fc4, fc5, fc6, fc7, fc8, fc9, fc10, fc11, fc12⟩ := fr13 HBv.out;go_upto_region 4 with fail
 obtain ⟨w6, hw⟩ : ∃ x, x = w5.setCells kv 0 [.string ⟨#[118]⟩] := ⟨_, rfl⟩
 have hg : w5.grownBy w6 (some kv) := by rw [hw]; exact setCells_grown _ _ _ _
 have hv := put_same [.string ⟨#[118]⟩] w5 kv 0 _ _ HBv.out (Nat.le_of_ble_eq_true rfl);rw [<- hw] at hv;rw [show w5.setCell ⟨kv, 0, none⟩ (.string ⟨#[118]⟩) = w6 from hw.symm];clear c0 fc0 c1 fc1 c2 fc2 c3 fc3 c4 fc4 c5 fc5 c6 fc6 c7 fc7 c8 fc8 c9 fc9 c10 fc10 c11 fc11 c12 fc12;replace HP := h_ (HP.out.store HBv.out (by decide) (by omega) hg);replace HBr := kG hg HBr;replace HBt := kG hg HBt;replace HOP := h_ (HOP.out.grown hg (by omega));replace HD := dN HD hg (by omega);have hsz6 := HD.out.size;replace HBv : Hid (w6.heap[kv]? = some (.cells #[.string ⟨#[118]⟩, .int .i64 (bb : Nat), .bool false, .int .i64 0, .string ⟨#[]⟩, .string ⟨#[]⟩, .bool false, .slice none 0 0, .slice none 0 0, .int .i64 0, .int .i64 0, .int .i64 (t.line : Nat), .int .i64 (t.col : Nat)] 83 (0, 0))) := h_ hv;clear hw hg hv;obtain ⟨c0, c1, c2, c3, c4, c5, c6, c7, c8, c9, c10, c11, c12⟩ := cl13 HBv.out
 go_wp2_with fail
 have hc := HC.out;unfold cRes at hc;rw [<- HBB.out, <- HSB.out, <- HNt.out] at hc;have HC2 := h_ hc;clear hc;obtain ⟨Nb, hN⟩ : ∃ k, k = w6.heap.size := ⟨_, rfl⟩
 have hr_Nb : kr < Nb := by rw [hN]; exact lt_of_block HBr.out
 have ht_Nb : kt < Nb := by rw [hN]; exact lt_of_block HBt.out
 have hv_Nb : kv < Nb := by rw [hN]; exact lt_of_block HBv.out
 have hg_Nb : g < Nb := by rw [hN]; exact HP.out.lt
 have he_Nb : w.heap.size <= Nb := by omega
 refine (refined_p n hn g sb wV t bb r w6 HP.out HOP.out HC2.out).mono ?_;rintro e w7 ⟨xb, rfl, hu, hp, hg⟩;clear c0 c1 c2 c3 c4 c5 c6 c7 c8 c9 c10 c11 c12;replace HBr := kG hg HBr;replace HBt := kG hg HBt;replace HBv := kG hg HBv;replace HOP := h_ (HOP.out.grown hg (by omega));replace HP := h_ hp;replace HD := dG HD (hg);rw [<- hN] at hu;have HUb := h_ (hu.mono (S' := fun b => Nb <= b /\ True) (fun b h => ⟨h, trivial⟩));clear hN hu;clear hp hg;obtain ⟨bk, bnm, bot, bb, bao, bn, bq, bko, bkn, bkc, bln, bcl⟩ := xb;simp only [pmV];obtain ⟨z0, z1, z2, z3, z4, z5, z6, z7, z8, z9, z10, z11, z12⟩ := cl13 HBr.out;obtain ⟨fz0, fz1, fz2, fz3, fz4, fz5, fz6, fz7, fz8, fz9, fz10, fz11, fz12⟩ := fr13 HBr.out;go_wp2_with fail
 refine bodyPost_ret (v := .agg #[.string ⟨r.1.nm.toArray⟩, .int .i64 (r.1.b : Nat), .bool r.1.kn, .int .i64 bk, .string bnm, .string bot, .bool bb, .slice bao bn bq, .slice bko bkn bkc, .int .i64 bln, .int .i64 bcl, .int .i64 (r.1.ln : Nat), .int .i64 (r.1.cl : Nat)]) (by simp [results, Tryz.results86, go_sem, z0, z1, z2, z3, z4, z5, z6, z7, z8, z9, z10, z11, z12]) rfl ?_;obtain ⟨wz, hw⟩ : ∃ x, x = w7.setCells kr 0 [.string ⟨r.1.nm.toArray⟩, .int .i64 (r.1.b : Nat), .bool r.1.kn, .int .i64 bk, .string bnm, .string bot, .bool bb, .slice bao bn bq, .slice bko bkn bkc, .int .i64 bln, .int .i64 bcl, .int .i64 (r.1.ln : Nat), .int .i64 (r.1.cl : Nat)] := ⟨_, rfl⟩
 have hg : w7.grownBy wz (some kr) := by rw [hw]; exact setCells_grown _ _ _ _
 rw [show ((((((((((((w7.setCell ⟨kr, 0, none⟩ (.string ⟨r.1.nm.toArray⟩)).setCell ⟨kr, 1, none⟩ (.int .i64 (r.1.b : Nat))).setCell ⟨kr, 2, none⟩ (.bool r.1.kn)).setCell ⟨kr, 3, none⟩ (.int .i64 bk)).setCell ⟨kr, 4, none⟩ (.string bnm)).setCell ⟨kr, 5, none⟩ (.string bot)).setCell ⟨kr, 6, none⟩ (.bool bb)).setCell ⟨kr, 7, none⟩ (.slice bao bn bq)).setCell ⟨kr, 8, none⟩ (.slice bko bkn bkc)).setCell ⟨kr, 9, none⟩ (.int .i64 bln)).setCell ⟨kr, 10, none⟩ (.int .i64 bcl)).setCell ⟨kr, 11, none⟩ (.int .i64 (r.1.ln : Nat))).setCell ⟨kr, 12, none⟩ (.int .i64 (r.1.cl : Nat)) = wz from hw.symm];clear z0 fz0 z1 fz1 z2 fz2 z3 fz3 z4 fz4 z5 fz5 z6 fz6 z7 fz7 z8 fz8 z9 fz9 z10 fz10 z11 fz11 z12 fz12;replace HP := h_ (HP.out.store HBr.out (by decide) (by omega) hg);replace HBt := kG hg HBt;replace HBv := kG hg HBv;replace HUb := h_ (HUb.out.grown hg (fun h => by omega))
 replace HOP := h_ (HOP.out.grown hg (by omega));replace HD := dN HD hg (by omega);have hsz8 := HD.out.size;clear hw hg;exact ⟨⟨bk, bnm, bot, bb, bao, bn, bq, bko, bkn, bkc, bln, bcl⟩, rfl, (HUb.out.mono (fun b h => by have h : Nb <= b /\ True := h; show _ <= b; omega)), HP.out, HD.out⟩
def AtN (n : Nat) (w : World) (ko : Option Addr) (i : Nat) (cs : List Value) : Prop := ∃ a, ko = some a /\ ∀ j v, cs[j]? = some v -> w.cell? ((a.add (i * n)).add j) = some v
theorem AtN.keep {n : Nat} {w w' : World} {ko : Option Addr} {i : Nat} {cs : List Value} (h : AtN n w ko i cs) (hk : ∀ a, ko = some a -> w'.heap[a.block]? = w.heap[a.block]?) : AtN n w' ko i cs := by
 obtain ⟨a, rfl, h⟩ := h;refine ⟨a, rfl, fun j v hv => ?_⟩;rw [cell_keep (w := w) (by rw [add_block, add_block]; exact hk a rfl)]; exact h j v hv
theorem AtN.lt {n : Nat} {w : World} {ko : Option Addr} {i : Nat} {c : Value} {cs : List Value} (h : AtN n w ko i (c :: cs)) : ∀ a, ko = some a -> a.block < w.heap.size := by
 obtain ⟨a, rfl, h⟩ := h;rintro _ ⟨⟩;have := cell_lt (h 0 _ rfl)
 rwa [add_block, add_block] at this
theorem own_atN {n : Nat} {w : World} {base : Nat} {e : TypeId} {ko : Option Addr} {m kc : Nat} {α : Type} (f : α -> List Value) (hf : ∀ a, (f a).length = n) {ys : List α} (hm : m = ys.length) (h : w.ownsRow base e n (.slice ko m kc) m (ys.flatMap f)) (i : Nat) (hi : i < ys.length) : AtN n w ko i (f ys[i]) := by
 have hfl : ∀ (l : List α) (i j : Nat) (hi : i < l.length), j < n -> (l.flatMap f)[i * n + j]? = (f l[i])[j]? := by
  intro l
  induction l with
  | nil => intro i j hi; simp at hi
  | cons a l ih =>
   intro i j hi hj;rw [List.flatMap_cons]
   cases i with
   | zero => rw [Nat.zero_mul, Nat.zero_add, List.getElem?_append_left (by rw [hf]; exact hj)]; rfl
   | succ i =>
    rw [List.getElem?_append_right (by rw [hf, Nat.add_mul]; omega), hf, show (i + 1) * n + j - n = i * n + j by rw [Nat.add_mul]; omega, List.getElem_cons_succ];exact ih i j (by simpa using hi) hj
 have hll : ∀ l : List α, (l.flatMap f).length = l.length * n := by
  intro l
  induction l with
  | nil => simp
  | cons a l ih => rw [List.flatMap_cons, lsa, ih, hf, lsc, Nat.add_mul]; omega
 have h0 := h;rcases h.2 with ⟨hv, h1⟩ | ⟨g, cap, cur, hv, hb, hg, h1, h2, h3, h4⟩
 ·omega
 injection hv with e1 e2 e3;subst e1 e3;refine ⟨_, rfl, fun j v hj => ?_⟩;have hjn : j < n := by have := (List.getElem?_eq_some_iff.1 hj).1; rwa [hf] at this
 rw [add_lit, add_lit, Nat.zero_add, World.ownsRow.cellAt h0 (i * n + j) (by
  rw [hm]
  calc i * n + j < i * n + n := by omega
   _ = (i + 1) * n := by rw [Nat.add_mul]; omega
   _ <= ys.length * n := Nat.mul_le_mul_right _ hi), hfl ys i j hi hjn]
 exact hj
theorem infoParam : (Tryz.prog.info? 83).map (fun i => (i.zero, i.size, i.bytes)) = some (some (.agg #[.string ⟨#[]⟩, .int .i64 0, .bool false, .int .i64 0, .string ⟨#[]⟩, .string ⟨#[]⟩, .bool false, .slice none 0 0, .slice none 0 0, .int .i64 0, .int .i64 0, .int .i64 0, .int .i64 0]), 13, 160) := by kernel_rfl
structure El (α : Type) where
 e : TypeId
 n : Nat
 f : α -> List Value
 R : World -> (Nat -> Prop) -> α -> Prop
 pos : 0 < n
 len : ∀ a, (f a).length = n
 one : ∀ a, ∀ u ∈ f a, u.oneCell' = true
 keep : ∀ {w w' : World} {S : Nat -> Prop} {a : α}, (∀ g, S g -> w'.heap[g]? = w.heap[g]?) -> R w S a -> R w' S a
 mono : ∀ {w : World} {S S' : Nat -> Prop} {a : α}, (∀ g, S g -> S' g) -> R w S a -> R w S' a
 lt : ∀ {w : World} {S : Nat -> Prop} {a : α}, R w S a -> R w (fun g => S g /\ g < w.heap.size) a
 noAt : e ≠ 75
section
variable {α : Type} (E : El α)
theorem El.below {w w' : World} {S : Nat -> Prop} {a : α} (h : E.R w S a) (hb : Below w.heap.size w w') : E.R w' S a := E.mono (fun _ h => h.1) (E.keep (fun g hg => hb.block g hg.2) (E.lt h))
theorem El.grown {w w' : World} {S : Nat -> Prop} {a : α} {r : Option Nat} (h : E.R w S a) (hg : w.grownBy w' r) (hS : ∀ b, S b -> r ≠ some b) : E.R w' S a :=
 E.mono (fun _ h => h.1) (E.keep (fun q hq => hg.block q hq.2 (fun e => hS q hq.1 e.symm)) (E.lt h))
def El.Row (w : World) (B : Nat) (S : Nat -> Prop) (v : Value) (el : List α) : Prop := w.ownsRow B E.e E.n v el.length (el.flatMap E.f) /\ ∀ a ∈ el, E.R w (fun b => S b /\ v.ownBlock ≠ some b) a
variable {E}
theorem El.Row.nil (w : World) (B : Nat) (S : Nat -> Prop) : E.Row w B S (.slice none 0 0) [] := ⟨World.ownsRow_nil _ _ _ _, fun q h => by cases h⟩
theorem El.Row.form {w : World} {B : Nat} {S : Nat -> Prop} {v : Value} {el : List α} (h : E.Row w B S v el) : ∃ ko kc, v = .slice ko el.length kc /\ el.length <= kc := own_form h.1
theorem El.Row.ge {w : World} {B : Nat} {S : Nat -> Prop} {v : Value} {el : List α} (h : E.Row w B S v el) {j : Nat} (hj : v.ownBlock = some j) : B <= j /\ j < w.heap.size := World.ownsRow.lt h.1 j hj
theorem El.Row.grown {w w' : World} {B g : Nat} {S : Nat -> Prop} {v : Value} {el : List α} (h : E.Row w B S v el) (hg : w.grownBy w' (some g)) (h1 : g < B) (h2 : ¬ S g) : E.Row w' B S v el := by
 refine ⟨World.ownsRow.kept h.1 hg ?_, fun q hq => E.grown (h.2 q hq) hg (fun b hb e => h2 (by injection e with e; rw [e]; exact hb.1))⟩
 cases hv : v.ownBlock with
 | none => exact .inl rfl
 | some j => exact .inr (fun e => by injection e with e; have := (h.ge hv).1; omega)
theorem El.Row.below {w w' : World} {B : Nat} {S : Nat -> Prop} {v : Value} {el : List α} (h : E.Row w B S v el) (hb : Below w.heap.size w w') : E.Row w' B S v el := by
 refine ⟨?_, fun q hq => E.below (h.2 q hq) hb⟩;rcases hr : v.ownBlock with _ | j
 ·exact World.ownsRow.kept h.1 (below_grown hb none) (.inl hr)
 exact World.ownsRow.kept h.1 (below_grown hb none) (.inr (by rw [hr]; intro e; cases e))
theorem El.Row.kR {w w' : World} {B k : Nat} {S : Nat -> Prop} {v : Value} {el : List α} {o : Obj} (h : E.Row w B S v el) (hg : w.grownBy w' v.ownBlock) (hk : k < B) (hb : Hid (w.heap[k]? = some o)) : Hid (w'.heap[k]? = some o) :=
 h_ ((hg.block _ (lt_of_block hb.out) (fun e => by have := (h.ge e.symm).1; omega)).trans hb.out)
theorem El.Row.dR {we w w' : World} {B g : Nat} {S : Nat -> Prop} {v : Value} {el : List α} (h : E.Row w B S v el) (hg : w.grownBy w' v.ownBlock) (hB : we.heap.size <= B) (hd : Hid (we.grownBy w (some g))) : Hid (we.grownBy w' (some g)) := by
 have hd := hd.out
 exact h_ ⟨hg.os.trans hd.os, hg.tape.trans hd.tape, hg.output.trans hd.output, Nat.le_trans hd.size hg.size, fun k hk hn => by
  rw [hg.block k (Nat.lt_of_lt_of_le hk hd.size) (fun e => by have := (h.ge e.symm).1; omega)]; exact hd.block k hk hn⟩
theorem El.Row.ps {w w' : World} {B g : Nat} {S : Nat -> Prop} {v : Value} {el : List α} {s : St} (h : E.Row w B S v el) (hg : w.grownBy w' v.ownBlock) (hB : g < B) (hp : PS w g s) : PS w' g s := by
 refine ⟨hp.1.keepAll (fun k hk => ?_) hg.size, hp.2⟩
 by_cases e : v.ownBlock = some k
 ·refine .inr ⟨by have := (h.ge e).1; omega, ?_⟩;rcases h.1.2 with ⟨h, -⟩ | ⟨q, c0, cur, hv, -, hq, -⟩
  ·rw [h] at e; cases e
  rw [hv] at e;have : q = k := by simpa [Value.ownBlock] using e
  subst this;exact ⟨_, _, hq, E.noAt⟩
 exact .inl (hg.block k hk (fun h => e h.symm))
theorem El.Row.ops {w w' : World} {B g : Nat} {S : Nat -> Prop} {v : Value} {el : List α} (h : E.Row w B S v el) (hg : w.grownBy w' v.ownBlock) (hB : g < B) (hp : GOps w g) : GOps w' g :=
 ⟨fun j u hu => by
  have hc := hp.1 j u hu
  rw [World.cell?_of_block (hg.block _ (cell_lt hc) (fun e => by have := (h.ge e.symm).1; have := hp.2; simp only at *; omega))]; exact hc, hp.2⟩
def El.At (E : El α) (w : World) (S : Nat -> Prop) (v : Value) (el : List α) : Prop := ∃ ko kc, v = .slice ko el.length kc /\ (el.length <= kc /\ kc <= maxLen) /\ (el.length ≠ 0 -> ∀ a, ko = some a -> S a.block) /\ ∀ i (h : i < el.length), AtN E.n w ko i (E.f el[i]) /\ E.R w S el[i]
theorem El.At.keep {w w' : World} {S : Nat -> Prop} {v : Value} {el : List α} (hk : ∀ g, S g -> w'.heap[g]? = w.heap[g]?) (h : E.At w S v el) : E.At w' S v el := by
 obtain ⟨ko, kc, rfl, h1, h2, h3⟩ := h;exact ⟨ko, kc, rfl, h1, h2, fun i hi => ⟨(h3 i hi).1.keep fun a ha => hk _ (h2 (by omega) a ha), E.keep hk (h3 i hi).2⟩⟩
theorem El.At.mono {w : World} {S S' : Nat -> Prop} {v : Value} {el : List α} (hs : ∀ g, S g -> S' g) (h : E.At w S v el) : E.At w S' v el := by
 obtain ⟨ko, kc, rfl, h1, h2, h3⟩ := h;exact ⟨ko, kc, rfl, h1, fun h0 a ha => hs _ (h2 h0 a ha), fun i hi => ⟨(h3 i hi).1, E.mono hs (h3 i hi).2⟩⟩
theorem El.At.lt {w : World} {S : Nat -> Prop} {v : Value} {el : List α} (h : E.At w S v el) : E.At w (fun g => S g /\ g < w.heap.size) v el := by
 obtain ⟨ko, kc, rfl, h1, h2, h3⟩ := h;refine ⟨ko, kc, rfl, h1, fun h0 a ha => ⟨h2 h0 a ha, ?_⟩, fun i hi => ⟨(h3 i hi).1, E.lt (h3 i hi).2⟩⟩;have h := (h3 0 (by omega)).1
 cases hf : E.f (el[0]'(by omega)) with
 | nil => have := E.len (el[0]'(by omega)); rw [hf] at this; have := E.pos; simp at *; omega
 | cons c cs => rw [hf] at h; exact h.lt a ha
theorem El.At.below {w w' : World} {S : Nat -> Prop} {v : Value} {el : List α} (h : E.At w S v el) (hb : Below w.heap.size w w') : E.At w' S v el := (El.At.keep (fun g hg => hb.block g hg.2) h.lt).mono fun _ h => h.1
theorem El.At.grown {w w' : World} {S : Nat -> Prop} {v : Value} {el : List α} {r : Option Nat} (h : E.At w S v el) (hg : w.grownBy w' r) (hS : ∀ b, S b -> r ≠ some b) : E.At w' S v el :=
 (El.At.keep (fun q hq => hg.block q hq.2 (fun e => hS q hq.1 e.symm)) h.lt).mono fun _ h => h.1
theorem El.Row.at {w : World} {B : Nat} {S S' : Nat -> Prop} {v : Value} {el : List α} (h : E.Row w B S v el) (h1 : ∀ b, S b -> S' b) (h2 : ∀ b, B <= b -> S' b) : E.At w S' v el := by
 obtain ⟨ho, hr⟩ := h;obtain ⟨ko, kc, rfl, -⟩ := own_form ho;refine ⟨ko, kc, rfl, ?_, fun h0 a ha => h2 _ ?_, fun i hi => ⟨own_atN E.f E.len rfl ho i hi, E.mono (fun b h => h1 b h.1) (hr _ (List.getElem_mem hi))⟩⟩
 ·rcases ho.2 with ⟨h, h0⟩ | ⟨q, cap, cur, h, -, -, h1, h2, -⟩
  ·injection h with _ _ h; subst h; rw [h0]; exact ⟨Nat.le_refl _, Nat.zero_le _⟩
  injection h with _ _ h; subst h; exact ⟨h1, h2⟩
 subst ha; exact (World.ownsRow.lt ho a.block rfl).1
theorem El.Row.append {w : World} {B : Nat} {S : Nat -> Prop} {v : Value} {el : List α} (h : E.Row w B S v el) {ops : Array Oper} {rest : List Oper} {o : Oper} {a : Act} {Q : Exit -> Act -> World -> Prop} (hgd : o.guard = none) (s x : Operand) (t : TypeId)
  (ho : o.op = .call { callee := .builtin .append, args := #[s, x], argTypes := #[t, t] }) (ht : Tryz.prog.underlying t = some (.slice E.e)) {z : Value} {bytes : Nat} (hinfo : (Tryz.prog.info? E.e).map (fun i => (i.zero, i.size, i.bytes)) = some (some z, E.n, bytes)) (hzs : z.cells.size = E.n) (hby : bytes <= 1000)
  (hs : a.eval s = v) (u : α) (k : Nat) (T : TypeId) (hx : a.eval x = .slice (some ⟨k, 0, none⟩) 1 1) (hc : w.heap[k]? = some (.cells (E.f u).toArray T (0, 0))) (hu : E.R w (fun b => S b /\ v.ownBlock ≠ some b) u) (hlen : el.length <= 1000000) (hB : B <= w.heap.size)
  (hK : ∀ v' w', E.Row w' B S v' (el ++ [u]) -> w.grownBy w' v.ownBlock -> wpList Tryz.prog ops Q rest (a.put o.dst v') w') : wpList Tryz.prog ops Q (o :: rest) a w := by
 refine wpList_append_el w hgd s x t ho E.e ht hinfo hzs E.pos hby B v el.length (el.flatMap E.f) hs h.1 k T (E.f u) (E.len u) (E.one u) hx hc hlen hB fun v' w' h1 h2 h3 => hK v' w' ⟨?_, ?_⟩ h2
 ·rw [lsa, List.flatMap_append]; simpa using h1
 have key : ∀ q, E.R w (fun b => S b /\ v.ownBlock ≠ some b) q -> E.R w' (fun b => S b /\ v'.ownBlock ≠ some b) q := fun q hq =>
  E.mono (S := fun b => (S b /\ v.ownBlock ≠ some b) /\ b < w.heap.size) (fun b hb => ⟨hb.1.1, fun e => by rcases h3 b e with h | h; exact hb.1.2 h; omega⟩) (E.keep (fun g hg => h2.block g hg.2 (fun e => hg.1.2 e.symm)) (E.lt hq))
 intro q hq;rcases List.mem_append.1 hq with hq | hq
 ·exact key q (h.2 q hq)
 rw [List.mem_singleton] at hq; subst hq; exact key _ hu
end
def pmE : El (PmU × X) where
 e := 83
 n := 13
 f q := pmC q.1 q.2
 R w S q := Um w S q.2 q.1.ref
 pos := by decide
 len _ := rfl
 one q := by
  intro u hu;simp only [pmC, List.mem_cons, List.not_mem_nil, or_false] at hu;rcases hu with rfl | rfl | rfl | rfl | rfl | rfl | rfl | rfl | rfl | rfl | rfl | rfl | rfl <;> rfl
 keep h k := k.keep h
 mono h k := k.mono h
 lt k := k.lt
 noAt := by decide
end Go.Proofs.YtdpfgfkoboihcaaGreatDoor
