/-
 Joined texts: FaR,FaS,FaX,FaY,FaZ,FaZa,FbA,FbB,FbD,FbC,FbE,FbF,FbU,FbV.
-/
import Derived.Laws.EntriesVeiled
import Derived.Test.YtoncclhbdkjhmaaGreatDoorJFactsAre6
set_option maxHeartbeats 32000000
namespace Go.Proofs.YtoncclhbdkjhmaaGreatDoor
open Go.RowKit
set_option maxRecDepth 100000
set_option linter.unusedVariables false
set_option linter.unusedSimpArgs false
attribute [local go_sem] fieldV0 fieldV1 fieldV2 fieldV3
theorem prodS_p {B k:Nat} {E:Nat->Prop} {L s:List F} (w:World) (h:St B k E L s w) (hm:s.length+46<=900000) (i j l:Nat) (X U V:F) (hx:s[i]?=some X) (hu:s[j]?=some U) (hv:s[l]?=some V) (hg:∀ t ∈ prodF X U V,Gd t) :
  Calls Tryz.prog 129 #[.pointer (some ⟨k,0,none⟩),.int .i64 ((i:Nat):Int),.int .i64 ((j:Nat):Int),.int .i64 ((l:Nat):Int)] w (LstPost B k E L s (prodF X U V) 46 w):=by
 have HS:=Lib.hid h;have HM:=Lib.hid hm;have HX:=Lib.hid hx;have HU:=Lib.hid hu;have HV:=Lib.hid hv;have G1:=Lib.hid (hg (orF [notF (leF (nF 0) U),notF (leF (nF 0) V),leF (nF 0) X]) (by simp[prodF]));have G2:=Lib.hid (hg (orF [notF (leF U (nF 0)),notF (leF V (nF 0)),leF (nF 0) X]) (by simp[prodF]));have G3:=Lib.hid (hg (orF [notF (leF (nF 0) U),notF (leF V (nF 0)),leF X (nF 0)]) (by simp[prodF]));have G4:=Lib.hid (hg (orF [notF (leF U (nF 0)),notF (leF (nF 0) V),leF X (nF 0)]) (by simp[prodF]));have G5:=Lib.hid (hg (orF [notF (eqfF U (nF 1)),eqfF X V]) (by simp[prodF]));have G6:=Lib.hid (hg (orF [notF (eqfF V (nF 1)),eqfF X U]) (by simp[prodF]))
 have GHU:=Lib.hid (gd_kid (gd_kid G1.out (x:=notF (leF (nF 0) U)) (by simp[orF,notF,eqfF,leF,addF,fo,F.kids])) (x:=leF (nF 0) U) (by simp[orF,notF,eqfF,leF,addF,fo,F.kids]));have GHV:=Lib.hid (gd_kid (gd_kid G1.out (x:=notF (leF (nF 0) V)) (by simp[orF,notF,eqfF,leF,addF,fo,F.kids])) (x:=leF (nF 0) V) (by simp[orF,notF,eqfF,leF,addF,fo,F.kids]));have GLU:=Lib.hid (gd_kid (gd_kid G2.out (x:=notF (leF U (nF 0))) (by simp[orF,notF,eqfF,leF,addF,fo,F.kids])) (x:=leF U (nF 0)) (by simp[orF,notF,eqfF,leF,addF,fo,F.kids]));have GLV:=Lib.hid (gd_kid (gd_kid G2.out (x:=notF (leF V (nF 0))) (by simp[orF,notF,eqfF,leF,addF,fo,F.kids])) (x:=leF V (nF 0)) (by simp[orF,notF,eqfF,leF,addF,fo,F.kids]));have GHX:=Lib.hid (gd_kid G1.out (x:=leF (nF 0) X) (by simp[orF,notF,eqfF,leF,addF,fo,F.kids]))
 have GLX:=Lib.hid (gd_kid G3.out (x:=leF X (nF 0)) (by simp[orF,notF,eqfF,leF,addF,fo,F.kids]));have HT:=Lib.hid (Stp.refl B k w);clear h hm hx hu hv hg;go_enter Tryz.func129,Tryz.ntmps129;obtain⟨z1,kS,eS,ekS,hbS,hkS,HBS⟩:=newV w #[.pointer (some ⟨k,0,none⟩)] 112;obtain⟨z2,kf,ef,ekf,hbf,hkf,HBf⟩:=newV z1 #[.int .i64 ((i:Nat):Int)] 116;replace HBS:=Lib.hid ((hbf.out.block kS (lt_of_block HBS.out)).trans HBS.out);have HS2:=Lib.hid ((HS.out.below hbS.out).below hbf.out);have HT2:=Lib.hid ((HT.out.trans (.of_below hbS.out)).trans (.of_below hbf.out));clear HS HT;go_upto_region 5 with fail;have HNE:Hid (∀ i j,i<53->j<53->i≠j->(fun i=>i+17) i≠(fun i=>i+17) j):=Lib.hid (fun i j _ _ h e=>h (Nat.add_right_cancel e))
 have HL9:Hid (∀ i,i<53->(fun i=>i+17) i<70):=Lib.hid (fun i h=>by show i+17<70;omega)
 refine Rel9.region (by kernel_rfl) [[],[],[],[1,2],[],[],[1,2,3,4,5],[],[],[1,2,3,4,5,6,7,8],[0,1,2,3,4,5,6,7,8,9],[],[],[],[0,1,2,3,4,5,6,7,8,9,10,12,13],[],[],[0,1,2,3,4,5,6,7,8,9,10,12,13,14,15,16],[],[],[0,1,2,3,4,5,6,7,8,9,10,12,13,14,15,16,17,18,19],[0,1,2,3,4,5,6,7,8,9,10,11,12,13,14,15,16,17,18,19,20],[],[],[],[0,1,2,3,4,5,6,7,8,9,10,11,12,13,14,15,16,17,18,19,20,21,23,24],[],[],[0,1,2,3,4,5,6,7,8,9,10,11,12,13,14,15,16,17,18,19,20,21,23,24,25,26,27],[],[],[0,1,2,3,4,5,6,7,8,9,10,11,12,13,14,15,16,17,18,19,20,21,23,24,25,26,27,28,29,30],[0,1,2,3,4,5,6,7,8,9,10,11,12,13,14,15,16,17,18,19,20,21,22,23,24,25,26,27,28,29,30,31],[],[],[],[0,1,2,3,4,5,6,7,8,9,10,11,12,13,14,15,16,17,18,19,20,21,22,23,24,25,26,27,28,29,30,31,32,34,35],[],[],[0,1,2,3,4,5,6,7,8,9,10,11,12,13,14,15,16,17,18,19,20,21,22,23,24,25,26,27,28,29,30,31,32,34,35,36,37,38],[],[],[0,1,2,3,4,5,6,7,8,9,10,11,12,13,14,15,16,17,18,19,20,21,22,23,24,25,26,27,28,29,30,31,32,34,35,36,37,38,39,40,41],[0,1,2,3,4,5,6,7,8,9,10,11,12,13,14,15,16,17,18,19,20,21,22,23,24,25,26,27,28,29,30,31,32,33,34,35,36,37,38,39,40,41,42],[],[],[],[0,1,2,3,4,5,6,7,8,9,10,11,12,13,14,15,16,17,18,19,20,21,22,23,24,25,26,27,28,29,30,31,32,33,34,35,36,37,38,39,40,41,42,43,44,45,46],[],[],[],[0,1,2,3,4,5,6,7,8,9,10,11,12,13,14,15,16,17,18,19,20,21,22,23,24,25,26,27,28,29,30,31,32,33,34,35,36,37,38,39,40,41,42,43,44,45,46,47,48,49,50],[0,1,2,3,4,5,6,7,8,9,10,11,12,13,14,15,16,17,18,19,20,21,22,23,24,25,26,27,28,29,30,31,32,33,34,35,36,37,38,39,40,41,42,43,44,45,46,47,48,49,50,51],[0,1,2,3,4,5,6,7,8,9,10,11,12,13,14,15,16,17,18,19,20,21,22,23,24,25,26,27,28,29,30,31,32,33,34,35,36,37,38,39,40,41,42,43,44,45,46,47,48,49,50,51,52]] 53 (by kernel_rfl) (by kernel_rfl) (JX B k E L z2 s _ 53 (fun i=>i+17) (fun i=>[0,0,0,2,0,0,2,0,0,2,3,0,0,0,2,0,0,2,0,0,2,3,0,0,0,2,0,0,2,0,0,2,3,0,0,0,2,0,0,2,0,0,2,3,0,0,0,5,0,0,0,5,0].getD i 0) (fdF B k E [.eqv (.func (.func 172) #[] #[.pointer (some ⟨kS,0,none⟩)]),.eqv (.func (.func 170) #[] #[.pointer (some ⟨kS,0,none⟩)]),.eqv (.int .i64 ((j:Nat):Int)),.idf (leF (nF 0) U),.eqv (.func (.func 170) #[] #[.pointer (some ⟨kS,0,none⟩)]),.eqv (.int .i64 ((l:Nat):Int)),.idf (leF (nF 0) V),.eqv (.func (.func 170) #[] #[.pointer (some ⟨kS,0,none⟩)]),.eqv (.int .i64 ((i:Nat):Int)),.idf (leF (nF 0) X),.idf (orF [notF (leF (nF 0) U),notF (leF (nF 0) V),leF (nF 0) X]),.eqv (.func (.func 172) #[] #[.pointer (some ⟨kS,0,none⟩)]),.eqv (.func (.func 171) #[] #[.pointer (some ⟨kS,0,none⟩)]),.eqv (.int .i64 ((j:Nat):Int)),.idf (leF U (nF 0)),.eqv (.func (.func 171) #[] #[.pointer (some ⟨kS,0,none⟩)]),.eqv (.int .i64 ((l:Nat):Int)),.idf (leF V (nF 0)),.eqv (.func (.func 170) #[] #[.pointer (some ⟨kS,0,none⟩)]),.eqv (.int .i64 ((i:Nat):Int)),.idf (leF (nF 0) X),.idf (orF [notF (leF U (nF 0)),notF (leF V (nF 0)),leF (nF 0) X]),.eqv (.func (.func 172) #[] #[.pointer (some ⟨kS,0,none⟩)]),.eqv (.func (.func 170) #[] #[.pointer (some ⟨kS,0,none⟩)]),.eqv (.int .i64 ((j:Nat):Int)),.idf (leF (nF 0) U),.eqv (.func (.func 171) #[] #[.pointer (some ⟨kS,0,none⟩)]),.eqv (.int .i64 ((l:Nat):Int)),.idf (leF V (nF 0)),.eqv (.func (.func 171) #[] #[.pointer (some ⟨kS,0,none⟩)]),.eqv (.int .i64 ((i:Nat):Int)),.idf (leF X (nF 0)),.idf (orF [notF (leF (nF 0) U),notF (leF V (nF 0)),leF X (nF 0)]),.eqv (.func (.func 172) #[] #[.pointer (some ⟨kS,0,none⟩)]),.eqv (.func (.func 171) #[] #[.pointer (some ⟨kS,0,none⟩)]),.eqv (.int .i64 ((j:Nat):Int)),.idf (leF U (nF 0)),.eqv (.func (.func 170) #[] #[.pointer (some ⟨kS,0,none⟩)]),.eqv (.int .i64 ((l:Nat):Int)),.idf (leF (nF 0) V),.eqv (.func (.func 171) #[] #[.pointer (some ⟨kS,0,none⟩)]),.eqv (.int .i64 ((i:Nat):Int)),.idf (leF X (nF 0)),.idf (orF [notF (leF U (nF 0)),notF (leF (nF 0) V),leF X (nF 0)]),.eqv (.func (.func 173) #[] #[.pointer (some ⟨kS,0,none⟩),.pointer (some ⟨kf,0,none⟩)]),.eqv (.int .i64 ((j:Nat):Int)),.eqv (.int .i64 ((l:Nat):Int)),.idf (orF [notF (eqfF U (nF 1)),eqfF X V]),.eqv (.func (.func 173) #[] #[.pointer (some ⟨kS,0,none⟩),.pointer (some ⟨kf,0,none⟩)]),.eqv (.int .i64 ((l:Nat):Int)),.eqv (.int .i64 ((j:Nat):Int)),.idf (orF [notF (eqfF V (nF 1)),eqfF X U]),.idl [orF [notF (leF (nF 0) U),notF (leF (nF 0) V),leF (nF 0) X],orF [notF (leF U (nF 0)),notF (leF V (nF 0)),leF (nF 0) X],orF [notF (leF (nF 0) U),notF (leF V (nF 0)),leF X (nF 0)],orF [notF (leF U (nF 0)),notF (leF (nF 0) V),leF X (nF 0)],orF [notF (eqfF U (nF 1)),eqfF X V],orF [notF (eqfF V (nF 1)),eqfF X U]]])) (JF.start HS2.out) ?_ ?_
 ·rintro d T wc n9 o ⟨s9,hJ⟩ ho hi hd hdep hcl;have hstep:=fun (v:Value) (s8:List F) (w2:World)=>hJ.step (v:=v) (s':=s8) (w':=w2) (fdF_st (B:=B) (k:=k) (E:=E) _) HNE.out (fun i hi=>Nat.lt_of_lt_of_le (HL9.out i hi) (of_decide_eq_true rfl)) n9 hi hd
  have HST9:=Lib.hid hJ.st;have HROOM:=Lib.hid (hJ.room n9 hi hd (N:=900000) (show s.length+46<=900000 from by have:=HM.out;omega));have m11:T[11]?=some (.func (.func 172) #[] #[.pointer (some ⟨kS,0,none⟩)]):=(hJ.oth 11 (by decide)).trans (by rfl);have m9:T[9]?=some (.func (.func 170) #[] #[.pointer (some ⟨kS,0,none⟩)]):=(hJ.oth 9 (by decide)).trans (by rfl);have m2:T[2]?=some (.int .i64 ((j:Nat):Int)):=(hJ.oth 2 (by decide)).trans (by rfl);have m3:T[3]?=some (.int .i64 ((l:Nat):Int)):=(hJ.oth 3 (by decide)).trans (by rfl);have m5:T[5]?=some (.pointer (some ⟨kf,0,none⟩)):=(hJ.oth 5 (by decide)).trans (by rfl);have hBq:=(hJ.be.block kf (lt_of_block HBf.out) (NO.cells HBf.out (by decide))).trans HBf.out;have qf0:=cell_at (v:=.int .i64 ((i:Nat):Int)) hBq 0 rfl;clear hBq
  have m10:T[10]?=some (.func (.func 171) #[] #[.pointer (some ⟨kS,0,none⟩)]):=(hJ.oth 10 (by decide)).trans (by rfl);have m12:T[12]?=some (.func (.func 173) #[] #[.pointer (some ⟨kS,0,none⟩),.pointer (some ⟨kf,0,none⟩)]):=(hJ.oth 12 (by decide)).trans (by rfl)
  obtain rfl | rfl | rfl | rfl | rfl | rfl | rfl | rfl | rfl | rfl | rfl | rfl | rfl | rfl | rfl | rfl | rfl | rfl | rfl | rfl | rfl | rfl | rfl | rfl | rfl | rfl | rfl | rfl | rfl | rfl | rfl | rfl | rfl | rfl | rfl | rfl | rfl | rfl | rfl | rfl | rfl | rfl | rfl | rfl | rfl | rfl | rfl | rfl | rfl | rfl | rfl | rfl | rfl:n9=0\/n9=1\/n9=2\/n9=3\/n9=4\/n9=5\/n9=6\/n9=7\/n9=8\/n9=9\/n9=10\/n9=11\/n9=12\/n9=13\/n9=14\/n9=15\/n9=16\/n9=17\/n9=18\/n9=19\/n9=20\/n9=21\/n9=22\/n9=23\/n9=24\/n9=25\/n9=26\/n9=27\/n9=28\/n9=29\/n9=30\/n9=31\/n9=32\/n9=33\/n9=34\/n9=35\/n9=36\/n9=37\/n9=38\/n9=39\/n9=40\/n9=41\/n9=42\/n9=43\/n9=44\/n9=45\/n9=46\/n9=47\/n9=48\/n9=49\/n9=50\/n9=51\/n9=52:=by omega
  all_goals (injection ho with ho)
  all_goals (subst ho)
  all_goals (try (clear hJ hdep hcl;refine⟨rfl,fun K9 hK=>?_⟩;have HST:=Lib.hid hstep;clear hstep;go_simp;exact hK.out _ _ (HST.out _ _ _ HST9.out ((Ext.refl _).up (Nat.zero_le _)) (Stp.refl _ _ _) rfl)))
  ·have e18:=hJ.vE 1 18 rfl (by decide) (hdep 1 (by rfl)) (fun _ h=>h);have e19:=hJ.vE 2 19 rfl (by decide) (hdep 2 (by rfl)) (fun _ h=>h);have HEXT:=Lib.hid hJ.ext;have hA9:=(hJ.be.block kS (lt_of_block HBS.out) (NO.cells HBS.out (by decide))).trans HBS.out;have hB9:=(hJ.be.block kf (lt_of_block HBf.out) (NO.cells HBf.out (by decide))).trans HBf.out;have HA9:=Lib.hid hA9;clear hA9 hB9;clear hJ hdep hcl;refine⟨rfl,fun K9 hK=>?_⟩;have HST:=Lib.hid hstep;clear hstep;go_simp;refine (high_p wc HST9.out HROOM.out j U (HEXT.out.get HU.out) GHU.out kS HA9.out).mono ?_;rintro e w8 ⟨i8,s8,rfl,p1,p2,p3,p4⟩;exact hK.out _ _ (HST.out _ _ _ p1 p2 p4 ⟨i8,rfl,p3⟩)
  ·have e21:=hJ.vE 4 21 rfl (by decide) (hdep 4 (by rfl)) (fun _ h=>h);have e22:=hJ.vE 5 22 rfl (by decide) (hdep 5 (by rfl)) (fun _ h=>h);have HEXT:=Lib.hid hJ.ext;have hA9:=(hJ.be.block kS (lt_of_block HBS.out) (NO.cells HBS.out (by decide))).trans HBS.out;have hB9:=(hJ.be.block kf (lt_of_block HBf.out) (NO.cells HBf.out (by decide))).trans HBf.out;have HA9:=Lib.hid hA9;clear hA9 hB9;clear hJ hdep hcl;refine⟨rfl,fun K9 hK=>?_⟩;have HST:=Lib.hid hstep;clear hstep;go_simp;refine (high_p wc HST9.out HROOM.out l V (HEXT.out.get HV.out) GHV.out kS HA9.out).mono ?_;rintro e w8 ⟨i8,s8,rfl,p1,p2,p3,p4⟩;exact hK.out _ _ (HST.out _ _ _ p1 p2 p4 ⟨i8,rfl,p3⟩)
  ·have e24:=hJ.vE 7 24 rfl (by decide) (hdep 7 (by rfl)) (fun _ h=>h);have e25:=hJ.vE 8 25 rfl (by decide) (hdep 8 (by rfl)) (fun _ h=>h);have HEXT:=Lib.hid hJ.ext;have hA9:=(hJ.be.block kS (lt_of_block HBS.out) (NO.cells HBS.out (by decide))).trans HBS.out;have hB9:=(hJ.be.block kf (lt_of_block HBf.out) (NO.cells HBf.out (by decide))).trans HBf.out;have HA9:=Lib.hid hA9;clear hA9 hB9;clear hJ hdep hcl;refine⟨rfl,fun K9 hK=>?_⟩;have HST:=Lib.hid hstep;clear hstep;go_simp;refine (high_p wc HST9.out HROOM.out i X (HEXT.out.get HX.out) GHX.out kS HA9.out).mono ?_;rintro e w8 ⟨i8,s8,rfl,p1,p2,p3,p4⟩;exact hK.out _ _ (HST.out _ _ _ p1 p2 p4 ⟨i8,rfl,p3⟩)
  ·have e17:=hJ.vE 0 17 rfl (by decide) (hdep 0 (by rfl)) (fun _ h=>h);obtain⟨i3,e20,H3⟩:=hJ.vI 3 20 rfl (by decide) (hdep 3 (by rfl)) (fun _ h=>h);obtain⟨i6,e23,H6⟩:=hJ.vI 6 23 rfl (by decide) (hdep 6 (by rfl)) (fun _ h=>h);obtain⟨i9,e26,H9⟩:=hJ.vI 9 26 rfl (by decide) (hdep 9 (by rfl)) (fun _ h=>h);have hA9:=(hJ.be.block kS (lt_of_block HBS.out) (NO.cells HBS.out (by decide))).trans HBS.out;have hB9:=(hJ.be.block kf (lt_of_block HBf.out) (NO.cells HBf.out (by decide))).trans HBf.out;have HA9:=Lib.hid hA9;clear hA9 hB9;clear hJ hdep hcl;refine⟨rfl,fun K9 hK=>?_⟩;have HST:=Lib.hid hstep;clear hstep;go_simp;refine (both_p wc HST9.out HROOM.out i3 i6 i9 _ _ _ H3.out H6.out H9.out G1.out kS HA9.out).mono ?_;rintro e w8 ⟨i8,s8,rfl,p1,p2,p3,p4⟩
   exact hK.out _ _ (HST.out _ _ _ p1 p2 p4 ⟨i8,rfl,p3⟩)
  ·have e29:=hJ.vE 12 29 rfl (by decide) (hdep 12 (by rfl)) (fun _ h=>h);have e30:=hJ.vE 13 30 rfl (by decide) (hdep 13 (by rfl)) (fun _ h=>h);have HEXT:=Lib.hid hJ.ext;have hA9:=(hJ.be.block kS (lt_of_block HBS.out) (NO.cells HBS.out (by decide))).trans HBS.out;have hB9:=(hJ.be.block kf (lt_of_block HBf.out) (NO.cells HBf.out (by decide))).trans HBf.out;have HA9:=Lib.hid hA9;clear hA9 hB9;clear hJ hdep hcl;refine⟨rfl,fun K9 hK=>?_⟩;have HST:=Lib.hid hstep;clear hstep;go_simp;refine (low_p wc HST9.out HROOM.out j U (HEXT.out.get HU.out) GLU.out kS HA9.out).mono ?_;rintro e w8 ⟨i8,s8,rfl,p1,p2,p3,p4⟩;exact hK.out _ _ (HST.out _ _ _ p1 p2 p4 ⟨i8,rfl,p3⟩)
  ·have e32:=hJ.vE 15 32 rfl (by decide) (hdep 15 (by rfl)) (fun _ h=>h);have e33:=hJ.vE 16 33 rfl (by decide) (hdep 16 (by rfl)) (fun _ h=>h);have HEXT:=Lib.hid hJ.ext;have hA9:=(hJ.be.block kS (lt_of_block HBS.out) (NO.cells HBS.out (by decide))).trans HBS.out;have hB9:=(hJ.be.block kf (lt_of_block HBf.out) (NO.cells HBf.out (by decide))).trans HBf.out;have HA9:=Lib.hid hA9;clear hA9 hB9;clear hJ hdep hcl;refine⟨rfl,fun K9 hK=>?_⟩;have HST:=Lib.hid hstep;clear hstep;go_simp;refine (low_p wc HST9.out HROOM.out l V (HEXT.out.get HV.out) GLV.out kS HA9.out).mono ?_;rintro e w8 ⟨i8,s8,rfl,p1,p2,p3,p4⟩;exact hK.out _ _ (HST.out _ _ _ p1 p2 p4 ⟨i8,rfl,p3⟩)
  ·have e35:=hJ.vE 18 35 rfl (by decide) (hdep 18 (by rfl)) (fun _ h=>h);have e36:=hJ.vE 19 36 rfl (by decide) (hdep 19 (by rfl)) (fun _ h=>h);have HEXT:=Lib.hid hJ.ext;have hA9:=(hJ.be.block kS (lt_of_block HBS.out) (NO.cells HBS.out (by decide))).trans HBS.out;have hB9:=(hJ.be.block kf (lt_of_block HBf.out) (NO.cells HBf.out (by decide))).trans HBf.out;have HA9:=Lib.hid hA9;clear hA9 hB9;clear hJ hdep hcl;refine⟨rfl,fun K9 hK=>?_⟩;have HST:=Lib.hid hstep;clear hstep;go_simp;refine (high_p wc HST9.out HROOM.out i X (HEXT.out.get HX.out) GHX.out kS HA9.out).mono ?_;rintro e w8 ⟨i8,s8,rfl,p1,p2,p3,p4⟩;exact hK.out _ _ (HST.out _ _ _ p1 p2 p4 ⟨i8,rfl,p3⟩)
  ·have e28:=hJ.vE 11 28 rfl (by decide) (hdep 11 (by rfl)) (fun _ h=>h);obtain⟨i14,e31,H14⟩:=hJ.vI 14 31 rfl (by decide) (hdep 14 (by rfl)) (fun _ h=>h);obtain⟨i17,e34,H17⟩:=hJ.vI 17 34 rfl (by decide) (hdep 17 (by rfl)) (fun _ h=>h);obtain⟨i20,e37,H20⟩:=hJ.vI 20 37 rfl (by decide) (hdep 20 (by rfl)) (fun _ h=>h);have hA9:=(hJ.be.block kS (lt_of_block HBS.out) (NO.cells HBS.out (by decide))).trans HBS.out;have hB9:=(hJ.be.block kf (lt_of_block HBf.out) (NO.cells HBf.out (by decide))).trans HBf.out;have HA9:=Lib.hid hA9;clear hA9 hB9;clear hJ hdep hcl;refine⟨rfl,fun K9 hK=>?_⟩;have HST:=Lib.hid hstep;clear hstep;go_simp;refine (both_p wc HST9.out HROOM.out i14 i17 i20 _ _ _ H14.out H17.out H20.out G2.out kS HA9.out).mono ?_;rintro e w8 ⟨i8,s8,rfl,p1,p2,p3,p4⟩
   exact hK.out _ _ (HST.out _ _ _ p1 p2 p4 ⟨i8,rfl,p3⟩)
  ·have e40:=hJ.vE 23 40 rfl (by decide) (hdep 23 (by rfl)) (fun _ h=>h);have e41:=hJ.vE 24 41 rfl (by decide) (hdep 24 (by rfl)) (fun _ h=>h);have HEXT:=Lib.hid hJ.ext;have hA9:=(hJ.be.block kS (lt_of_block HBS.out) (NO.cells HBS.out (by decide))).trans HBS.out;have hB9:=(hJ.be.block kf (lt_of_block HBf.out) (NO.cells HBf.out (by decide))).trans HBf.out;have HA9:=Lib.hid hA9;clear hA9 hB9;clear hJ hdep hcl;refine⟨rfl,fun K9 hK=>?_⟩;have HST:=Lib.hid hstep;clear hstep;go_simp;refine (high_p wc HST9.out HROOM.out j U (HEXT.out.get HU.out) GHU.out kS HA9.out).mono ?_;rintro e w8 ⟨i8,s8,rfl,p1,p2,p3,p4⟩;exact hK.out _ _ (HST.out _ _ _ p1 p2 p4 ⟨i8,rfl,p3⟩)
  ·have e43:=hJ.vE 26 43 rfl (by decide) (hdep 26 (by rfl)) (fun _ h=>h);have e44:=hJ.vE 27 44 rfl (by decide) (hdep 27 (by rfl)) (fun _ h=>h);have HEXT:=Lib.hid hJ.ext;have hA9:=(hJ.be.block kS (lt_of_block HBS.out) (NO.cells HBS.out (by decide))).trans HBS.out;have hB9:=(hJ.be.block kf (lt_of_block HBf.out) (NO.cells HBf.out (by decide))).trans HBf.out;have HA9:=Lib.hid hA9;clear hA9 hB9;clear hJ hdep hcl;refine⟨rfl,fun K9 hK=>?_⟩;have HST:=Lib.hid hstep;clear hstep;go_simp;refine (low_p wc HST9.out HROOM.out l V (HEXT.out.get HV.out) GLV.out kS HA9.out).mono ?_;rintro e w8 ⟨i8,s8,rfl,p1,p2,p3,p4⟩;exact hK.out _ _ (HST.out _ _ _ p1 p2 p4 ⟨i8,rfl,p3⟩)
  ·have e46:=hJ.vE 29 46 rfl (by decide) (hdep 29 (by rfl)) (fun _ h=>h);have e47:=hJ.vE 30 47 rfl (by decide) (hdep 30 (by rfl)) (fun _ h=>h);have HEXT:=Lib.hid hJ.ext;have hA9:=(hJ.be.block kS (lt_of_block HBS.out) (NO.cells HBS.out (by decide))).trans HBS.out;have hB9:=(hJ.be.block kf (lt_of_block HBf.out) (NO.cells HBf.out (by decide))).trans HBf.out;have HA9:=Lib.hid hA9;clear hA9 hB9;clear hJ hdep hcl;refine⟨rfl,fun K9 hK=>?_⟩;have HST:=Lib.hid hstep;clear hstep;go_simp;refine (low_p wc HST9.out HROOM.out i X (HEXT.out.get HX.out) GLX.out kS HA9.out).mono ?_;rintro e w8 ⟨i8,s8,rfl,p1,p2,p3,p4⟩;exact hK.out _ _ (HST.out _ _ _ p1 p2 p4 ⟨i8,rfl,p3⟩)
  ·have e39:=hJ.vE 22 39 rfl (by decide) (hdep 22 (by rfl)) (fun _ h=>h);obtain⟨i25,e42,H25⟩:=hJ.vI 25 42 rfl (by decide) (hdep 25 (by rfl)) (fun _ h=>h);obtain⟨i28,e45,H28⟩:=hJ.vI 28 45 rfl (by decide) (hdep 28 (by rfl)) (fun _ h=>h);obtain⟨i31,e48,H31⟩:=hJ.vI 31 48 rfl (by decide) (hdep 31 (by rfl)) (fun _ h=>h);have hA9:=(hJ.be.block kS (lt_of_block HBS.out) (NO.cells HBS.out (by decide))).trans HBS.out;have hB9:=(hJ.be.block kf (lt_of_block HBf.out) (NO.cells HBf.out (by decide))).trans HBf.out;have HA9:=Lib.hid hA9;clear hA9 hB9;clear hJ hdep hcl;refine⟨rfl,fun K9 hK=>?_⟩;have HST:=Lib.hid hstep;clear hstep;go_simp;refine (both_p wc HST9.out HROOM.out i25 i28 i31 _ _ _ H25.out H28.out H31.out G3.out kS HA9.out).mono ?_;rintro e w8 ⟨i8,s8,rfl,p1,p2,p3,p4⟩
   exact hK.out _ _ (HST.out _ _ _ p1 p2 p4 ⟨i8,rfl,p3⟩)
  ·have e51:=hJ.vE 34 51 rfl (by decide) (hdep 34 (by rfl)) (fun _ h=>h);have e52:=hJ.vE 35 52 rfl (by decide) (hdep 35 (by rfl)) (fun _ h=>h);have HEXT:=Lib.hid hJ.ext;have hA9:=(hJ.be.block kS (lt_of_block HBS.out) (NO.cells HBS.out (by decide))).trans HBS.out;have hB9:=(hJ.be.block kf (lt_of_block HBf.out) (NO.cells HBf.out (by decide))).trans HBf.out;have HA9:=Lib.hid hA9;clear hA9 hB9;clear hJ hdep hcl;refine⟨rfl,fun K9 hK=>?_⟩;have HST:=Lib.hid hstep;clear hstep;go_simp;refine (low_p wc HST9.out HROOM.out j U (HEXT.out.get HU.out) GLU.out kS HA9.out).mono ?_;rintro e w8 ⟨i8,s8,rfl,p1,p2,p3,p4⟩;exact hK.out _ _ (HST.out _ _ _ p1 p2 p4 ⟨i8,rfl,p3⟩)
  ·have e54:=hJ.vE 37 54 rfl (by decide) (hdep 37 (by rfl)) (fun _ h=>h);have e55:=hJ.vE 38 55 rfl (by decide) (hdep 38 (by rfl)) (fun _ h=>h);have HEXT:=Lib.hid hJ.ext;have hA9:=(hJ.be.block kS (lt_of_block HBS.out) (NO.cells HBS.out (by decide))).trans HBS.out;have hB9:=(hJ.be.block kf (lt_of_block HBf.out) (NO.cells HBf.out (by decide))).trans HBf.out;have HA9:=Lib.hid hA9;clear hA9 hB9;clear hJ hdep hcl;refine⟨rfl,fun K9 hK=>?_⟩;have HST:=Lib.hid hstep;clear hstep;go_simp;refine (high_p wc HST9.out HROOM.out l V (HEXT.out.get HV.out) GHV.out kS HA9.out).mono ?_;rintro e w8 ⟨i8,s8,rfl,p1,p2,p3,p4⟩;exact hK.out _ _ (HST.out _ _ _ p1 p2 p4 ⟨i8,rfl,p3⟩)
  ·have e57:=hJ.vE 40 57 rfl (by decide) (hdep 40 (by rfl)) (fun _ h=>h);have e58:=hJ.vE 41 58 rfl (by decide) (hdep 41 (by rfl)) (fun _ h=>h);have HEXT:=Lib.hid hJ.ext;have hA9:=(hJ.be.block kS (lt_of_block HBS.out) (NO.cells HBS.out (by decide))).trans HBS.out;have hB9:=(hJ.be.block kf (lt_of_block HBf.out) (NO.cells HBf.out (by decide))).trans HBf.out;have HA9:=Lib.hid hA9;clear hA9 hB9;clear hJ hdep hcl;refine⟨rfl,fun K9 hK=>?_⟩;have HST:=Lib.hid hstep;clear hstep;go_simp;refine (low_p wc HST9.out HROOM.out i X (HEXT.out.get HX.out) GLX.out kS HA9.out).mono ?_;rintro e w8 ⟨i8,s8,rfl,p1,p2,p3,p4⟩;exact hK.out _ _ (HST.out _ _ _ p1 p2 p4 ⟨i8,rfl,p3⟩)
  ·have e50:=hJ.vE 33 50 rfl (by decide) (hdep 33 (by rfl)) (fun _ h=>h);obtain⟨i36,e53,H36⟩:=hJ.vI 36 53 rfl (by decide) (hdep 36 (by rfl)) (fun _ h=>h);obtain⟨i39,e56,H39⟩:=hJ.vI 39 56 rfl (by decide) (hdep 39 (by rfl)) (fun _ h=>h);obtain⟨i42,e59,H42⟩:=hJ.vI 42 59 rfl (by decide) (hdep 42 (by rfl)) (fun _ h=>h);have hA9:=(hJ.be.block kS (lt_of_block HBS.out) (NO.cells HBS.out (by decide))).trans HBS.out;have hB9:=(hJ.be.block kf (lt_of_block HBf.out) (NO.cells HBf.out (by decide))).trans HBf.out;have HA9:=Lib.hid hA9;clear hA9 hB9;clear hJ hdep hcl;refine⟨rfl,fun K9 hK=>?_⟩;have HST:=Lib.hid hstep;clear hstep;go_simp;refine (both_p wc HST9.out HROOM.out i36 i39 i42 _ _ _ H36.out H39.out H42.out G4.out kS HA9.out).mono ?_;rintro e w8 ⟨i8,s8,rfl,p1,p2,p3,p4⟩
   exact hK.out _ _ (HST.out _ _ _ p1 p2 p4 ⟨i8,rfl,p3⟩)
  ·have e61:=hJ.vE 44 61 rfl (by decide) (hdep 44 (by rfl)) (fun _ h=>h);have e62:=hJ.vE 45 62 rfl (by decide) (hdep 45 (by rfl)) (fun _ h=>h);have e63:=hJ.vE 46 63 rfl (by decide) (hdep 46 (by rfl)) (fun _ h=>h);have HEXT:=Lib.hid hJ.ext;have hA9:=(hJ.be.block kS (lt_of_block HBS.out) (NO.cells HBS.out (by decide))).trans HBS.out;have hB9:=(hJ.be.block kf (lt_of_block HBf.out) (NO.cells HBf.out (by decide))).trans HBf.out;have HA9:=Lib.hid hA9;have HB9:=Lib.hid hB9;clear hA9 hB9;clear hJ hdep hcl;refine⟨rfl,fun K9 hK=>?_⟩;have HST:=Lib.hid hstep;clear hstep;go_simp;refine (one_p wc HST9.out HROOM.out j l i _ _ _ (HEXT.out.get HU.out) (HEXT.out.get HV.out) (HEXT.out.get HX.out) G5.out kS kf HA9.out HB9.out).mono ?_;rintro e w8 ⟨i8,s8,rfl,p1,p2,p3,p4⟩
   exact hK.out _ _ (HST.out _ _ _ p1 p2 p4 ⟨i8,rfl,p3⟩)
  ·have e65:=hJ.vE 48 65 rfl (by decide) (hdep 48 (by rfl)) (fun _ h=>h);have e66:=hJ.vE 49 66 rfl (by decide) (hdep 49 (by rfl)) (fun _ h=>h);have e67:=hJ.vE 50 67 rfl (by decide) (hdep 50 (by rfl)) (fun _ h=>h);have HEXT:=Lib.hid hJ.ext;have hA9:=(hJ.be.block kS (lt_of_block HBS.out) (NO.cells HBS.out (by decide))).trans HBS.out;have hB9:=(hJ.be.block kf (lt_of_block HBf.out) (NO.cells HBf.out (by decide))).trans HBf.out;have HA9:=Lib.hid hA9;have HB9:=Lib.hid hB9;clear hA9 hB9;clear hJ hdep hcl;refine⟨rfl,fun K9 hK=>?_⟩;have HST:=Lib.hid hstep;clear hstep;go_simp;refine (one_p wc HST9.out HROOM.out l j i _ _ _ (HEXT.out.get HV.out) (HEXT.out.get HU.out) (HEXT.out.get HX.out) G6.out kS kf HA9.out HB9.out).mono ?_;rintro e w8 ⟨i8,s8,rfl,p1,p2,p3,p4⟩
   exact hK.out _ _ (HST.out _ _ _ p1 p2 p4 ⟨i8,rfl,p3⟩)
  obtain⟨i10,e27,H10⟩:=hJ.vI 10 27 rfl (by decide) (hdep 10 (by rfl)) (fun _ h=>h);obtain⟨i21,e38,H21⟩:=hJ.vI 21 38 rfl (by decide) (hdep 21 (by rfl)) (fun _ h=>h);obtain⟨i32,e49,H32⟩:=hJ.vI 32 49 rfl (by decide) (hdep 32 (by rfl)) (fun _ h=>h);obtain⟨i43,e60,H43⟩:=hJ.vI 43 60 rfl (by decide) (hdep 43 (by rfl)) (fun _ h=>h);obtain⟨i47,e64,H47⟩:=hJ.vI 47 64 rfl (by decide) (hdep 47 (by rfl)) (fun _ h=>h);obtain⟨i51,e68,H51⟩:=hJ.vI 51 68 rfl (by decide) (hdep 51 (by rfl)) (fun _ h=>h);clear hJ hdep hcl;refine⟨rfl,fun K9 hK=>?_⟩;have HST:=Lib.hid hstep;clear hstep;go_simp
  have hal:Below wc.heap.size wc (wc.alloc _):=(Below.refl _ _).alloc (Nat.le_refl _) (.cells #[.int .i64 ((i10:Nat):Int),.int .i64 ((i21:Nat):Int),.int .i64 ((i32:Nat):Int),.int .i64 ((i43:Nat):Int),.int .i64 ((i47:Nat):Int),.int .i64 ((i51:Nat):Int)] 116)
  exact hK.out _ _ (HST.out _ _ _ (HST9.out.below hal) ((Ext.refl _).up (Nat.zero_le _)) (.of_below hal) ⟨[i10,i21,i32,i43,i47,i51],IL.block (l:=[i10,i21,i32,i43,i47,i51]) (cs:=[.int .i64 ((i10:Nat):Int),.int .i64 ((i21:Nat):Int),.int .i64 ((i32:Nat):Int),.int .i64 ((i43:Nat):Int),.int .i64 ((i47:Nat):Int),.int .i64 ((i51:Nat):Int)]) (show (wc.alloc (.cells #[.int .i64 ((i10:Nat):Int),.int .i64 ((i21:Nat):Int),.int .i64 ((i32:Nat):Int),.int .i64 ((i43:Nat):Int),.int .i64 ((i47:Nat):Int),.int .i64 ((i51:Nat):Int)] 116)).heap[wc.heap.size]?=some (.cells [.int .i64 ((i10:Nat):Int),.int .i64 ((i21:Nat):Int),.int .i64 ((i32:Nat):Int),.int .i64 ((i43:Nat):Int),.int .i64 ((i47:Nat):Int),.int .i64 ((i51:Nat):Int)].toArray 116 (0,0)) from heap_alloc_new wc _) (by decide) (HST9.out.fresh (Nat.le_refl _)) (by show 6<=maxLen;decide) rfl,by simp only[List.map_cons,List.map_nil,H10.out,H21.out,H32.out,H43.out,H47.out,H51.out]⟩)
 rintro T wt ⟨s9,hJ⟩;have a0:=hJ.vE 0 17 rfl (by decide) rfl (fun _ h=>h);have a1:=hJ.vE 1 18 rfl (by decide) rfl (fun _ h=>h);have a2:=hJ.vE 2 19 rfl (by decide) rfl (fun _ h=>h);obtain⟨i3,a3,H3⟩:=hJ.vI 3 20 rfl (by decide) rfl (fun _ h=>h);have a4:=hJ.vE 4 21 rfl (by decide) rfl (fun _ h=>h);have a5:=hJ.vE 5 22 rfl (by decide) rfl (fun _ h=>h);obtain⟨i6,a6,H6⟩:=hJ.vI 6 23 rfl (by decide) rfl (fun _ h=>h);have a7:=hJ.vE 7 24 rfl (by decide) rfl (fun _ h=>h);have a8:=hJ.vE 8 25 rfl (by decide) rfl (fun _ h=>h);obtain⟨i9,a9,H9⟩:=hJ.vI 9 26 rfl (by decide) rfl (fun _ h=>h);obtain⟨i10,a10,H10⟩:=hJ.vI 10 27 rfl (by decide) rfl (fun _ h=>h);have a11:=hJ.vE 11 28 rfl (by decide) rfl (fun _ h=>h);have a12:=hJ.vE 12 29 rfl (by decide) rfl (fun _ h=>h)
 have a13:=hJ.vE 13 30 rfl (by decide) rfl (fun _ h=>h);obtain⟨i14,a14,H14⟩:=hJ.vI 14 31 rfl (by decide) rfl (fun _ h=>h);have a15:=hJ.vE 15 32 rfl (by decide) rfl (fun _ h=>h);have a16:=hJ.vE 16 33 rfl (by decide) rfl (fun _ h=>h);obtain⟨i17,a17,H17⟩:=hJ.vI 17 34 rfl (by decide) rfl (fun _ h=>h);have a18:=hJ.vE 18 35 rfl (by decide) rfl (fun _ h=>h);have a19:=hJ.vE 19 36 rfl (by decide) rfl (fun _ h=>h);obtain⟨i20,a20,H20⟩:=hJ.vI 20 37 rfl (by decide) rfl (fun _ h=>h);obtain⟨i21,a21,H21⟩:=hJ.vI 21 38 rfl (by decide) rfl (fun _ h=>h);have a22:=hJ.vE 22 39 rfl (by decide) rfl (fun _ h=>h);have a23:=hJ.vE 23 40 rfl (by decide) rfl (fun _ h=>h);have a24:=hJ.vE 24 41 rfl (by decide) rfl (fun _ h=>h);obtain⟨i25,a25,H25⟩:=hJ.vI 25 42 rfl (by decide) rfl (fun _ h=>h)
 have a26:=hJ.vE 26 43 rfl (by decide) rfl (fun _ h=>h);have a27:=hJ.vE 27 44 rfl (by decide) rfl (fun _ h=>h);obtain⟨i28,a28,H28⟩:=hJ.vI 28 45 rfl (by decide) rfl (fun _ h=>h);have a29:=hJ.vE 29 46 rfl (by decide) rfl (fun _ h=>h);have a30:=hJ.vE 30 47 rfl (by decide) rfl (fun _ h=>h);obtain⟨i31,a31,H31⟩:=hJ.vI 31 48 rfl (by decide) rfl (fun _ h=>h);obtain⟨i32,a32,H32⟩:=hJ.vI 32 49 rfl (by decide) rfl (fun _ h=>h);have a33:=hJ.vE 33 50 rfl (by decide) rfl (fun _ h=>h);have a34:=hJ.vE 34 51 rfl (by decide) rfl (fun _ h=>h);have a35:=hJ.vE 35 52 rfl (by decide) rfl (fun _ h=>h);obtain⟨i36,a36,H36⟩:=hJ.vI 36 53 rfl (by decide) rfl (fun _ h=>h);have a37:=hJ.vE 37 54 rfl (by decide) rfl (fun _ h=>h);have a38:=hJ.vE 38 55 rfl (by decide) rfl (fun _ h=>h)
 obtain⟨i39,a39,H39⟩:=hJ.vI 39 56 rfl (by decide) rfl (fun _ h=>h);have a40:=hJ.vE 40 57 rfl (by decide) rfl (fun _ h=>h);have a41:=hJ.vE 41 58 rfl (by decide) rfl (fun _ h=>h);obtain⟨i42,a42,H42⟩:=hJ.vI 42 59 rfl (by decide) rfl (fun _ h=>h);obtain⟨i43,a43,H43⟩:=hJ.vI 43 60 rfl (by decide) rfl (fun _ h=>h);have a44:=hJ.vE 44 61 rfl (by decide) rfl (fun _ h=>h);have a45:=hJ.vE 45 62 rfl (by decide) rfl (fun _ h=>h);have a46:=hJ.vE 46 63 rfl (by decide) rfl (fun _ h=>h);obtain⟨i47,a47,H47⟩:=hJ.vI 47 64 rfl (by decide) rfl (fun _ h=>h);have a48:=hJ.vE 48 65 rfl (by decide) rfl (fun _ h=>h);have a49:=hJ.vE 49 66 rfl (by decide) rfl (fun _ h=>h);have a50:=hJ.vE 50 67 rfl (by decide) rfl (fun _ h=>h);obtain⟨i51,a51,H51⟩:=hJ.vI 51 68 rfl (by decide) rfl (fun _ h=>h)
 obtain⟨v52,a52,f52⟩:=hJ.val 52 (by decide) rfl;obtain⟨l52,f52a,h52⟩:=(show IdL B k E v52 [orF [notF (leF (nF 0) U),notF (leF (nF 0) V),leF (nF 0) X],orF [notF (leF U (nF 0)),notF (leF V (nF 0)),leF (nF 0) X],orF [notF (leF (nF 0) U),notF (leF V (nF 0)),leF X (nF 0)],orF [notF (leF U (nF 0)),notF (leF (nF 0) V),leF X (nF 0)],orF [notF (eqfF U (nF 1)),eqfF X V],orF [notF (eqfF V (nF 1)),eqfF X U]] s9 wt from f52);have A52:=Lib.hid f52a;have H52:=Lib.hid h52;clear f52 f52a h52
 have hfr:=hJ.fin (fun i hi=>Nat.lt_of_lt_of_le (HL9.out i hi) (of_decide_eq_true rfl)) rfl (.cons a0 (.cons a1 (.cons a2 (.cons a3 (.cons a4 (.cons a5 (.cons a6 (.cons a7 (.cons a8 (.cons a9 (.cons a10 (.cons a11 (.cons a12 (.cons a13 (.cons a14 (.cons a15 (.cons a16 (.cons a17 (.cons a18 (.cons a19 (.cons a20 (.cons a21 (.cons a22 (.cons a23 (.cons a24 (.cons a25 (.cons a26 (.cons a27 (.cons a28 (.cons a29 (.cons a30 (.cons a31 (.cons a32 (.cons a33 (.cons a34 (.cons a35 (.cons a36 (.cons a37 (.cons a38 (.cons a39 (.cons a40 (.cons a41 (.cons a42 (.cons a43 (.cons a44 (.cons a45 (.cons a46 (.cons a47 (.cons a48 (.cons a49 (.cons a50 (.cons a51 (.cons a52 .nil)))))))))))))))))))))))))))))))))))))))))))))))))))));have HST9:=Lib.hid hJ.st;have HEX9:Hid (Ext s s9 46):=Lib.hid hJ.ext;have HBE9:=Lib.hid hJ.be
 clear hJ HNE HL9 a0 a1 a2 a3 a4 a5 a6 a7 a8 a9 a10 a11 a12 a13 a14 a15 a16 a17 a18 a19 a20 a21 a22 a23 a24 a25 a26 a27 a28 a29 a30 a31 a32 a33 a34 a35 a36 a37 a38 a39 a40 a41 a42 a43 a44 a45 a46 a47 a48 a49 a50 a51 a52;rw[hfr];clear hfr;simp only[fillW,Nat.reduceAdd,List.setIfInBounds_toArray,List.set_cons_zero,List.set_cons_succ];simp only[List.drop_succ_cons,List.drop_zero];go_wp2_with fail;go_ret;exact⟨_,s9,rfl,⟨l52,A52.out,H52.out⟩,HST9.out,HEX9.out,HT2.out.trans HBE9.out⟩
attribute [local go_sem] fieldV0 fieldV1 fieldV2 fieldV3
theorem IL.as {B k:Nat} {E:Nat->Prop} {w:World} {v:Value} {l l':List Nat} (h:IL B k E w v l) (e:l=l'):IL B k E w v l':=by
 subst e;exact h
theorem pow4 {n k:Nat} (h:n<L32 ^ 4) (hk:k=600):n<L32 ^ k:=lt_pow_more h (by omega)
theorem len1 {s:List F} {ids:List Nat} {x:F} (h:ids.map (fun i=>s[i]?)=[x].map some):ids.length<=900000:=by
 rw[<-map_some_len h];show 1<=900000;decide
theorem quotS_p {B k:Nat} {E:Nat->Prop} {L s:List F} (w:World) (h:St B k E L s w) (hm:s.length+5<=900000) (i j:Nat) (X A:F) (hx:s[i]?=some X) (ha:s[j]?=some A) (K:Int) (b:Bool) (ao:Option Addr) (l c:Nat) (hk:CI w (.agg #[.bool b,.slice ao l c]) K 600) (hg:∀ t ∈ [leF (scF K X) A,leF A (addF (scF K X) (nF (K - 1)))],Gd t) :
  Calls Tryz.prog 128 #[.pointer (some ⟨k,0,none⟩),.int .i64 ((i:Nat):Int),.int .i64 ((j:Nat):Int),.agg #[.bool b,.slice ao l c]] w (LstPost B k E L s [leF (scF K X) A,leF A (addF (scF K X) (nF (K - 1)))] 5 w):=by
 have HS:=Lib.hid h;have HM:=Lib.hid hm;have HX:=Lib.hid hx;have HA:=Lib.hid ha;have HK:=Lib.hid hk;have G1:=Lib.hid (hg (leF (scF K X) A) (by simp));have G2:=Lib.hid (hg (leF A (addF (scF K X) (nF (K - 1)))) (by simp));have G3:=Lib.hid (gd_kid G2.out (x:=addF (scF K X) (nF (K - 1))) (by simp[scF,leF,addF,fo,F.kids]));have G4:=Lib.hid (gd_kid G1.out (x:=scF K X) (by simp[scF,leF,addF,fo,F.kids]));have G5:=Lib.hid (gd_kid G3.out (x:=nF (K - 1)) (by simp[scF,leF,addF,fo,F.kids]));have HB603:=Lib.hid (pow4 (k:=600) (n:=(K - 1).natAbs) G5.out.2.2.1 rfl);clear h hm hx ha hk hg;go_enter Tryz.func128,Tryz.ntmps128;obtain⟨z1,kS,eS,ekS,hbS,hkS,HBS⟩:=newV w #[.bool b,.slice ao l c] 26;have HS1:=Lib.hid (HS.out.below hbS.out);have HT1:=Lib.hid (Stp.of_below (B:=B) (k:=k) hbS.out)
 have HK1:=Lib.hid (HK.out.below hbS.out);clear HS HK;go_upto_region 1 with fail;have HNE:Hid (∀ i j,i<10->j<10->i≠j->(fun i=>i+11) i≠(fun i=>i+11) j):=Lib.hid (fun i j _ _ h e=>h (Nat.add_right_cancel e));have HL9:Hid (∀ i,i<10->(fun i=>i+11) i<21):=Lib.hid (fun i h=>by show i+11<21;omega);refine Rel9.region (by kernel_rfl) [[],[],[],[],[3],[2,3,4],[1,2,3,4,5],[],[7],[0,1,2,3,4,5,6,7,8],[0,1,2,3,4,5,6,7,8,9]] 10 (by kernel_rfl) (by kernel_rfl) (JX B k E L z1 s _ 10 (fun i=>i+11) (fun i=>[0,0,0,0,0,0,0,0,0,1].getD i 0) (fdF B k E [.eqv (.pointer (some ⟨k,0,none⟩)),.eqv (.agg #[.bool b,.slice ao l c]),.eqv (.pointer (some ⟨k,0,none⟩)),.eqv (.int .i64 ((i:Nat):Int)),.idl [X],.fl [X],.fc (scF K X),.eqv (.int .i64 ((i:Nat):Int)),.idl [X],.idf (scF K X)])) (JF.start HS1.out) ?_ ?_
 ·rintro d T wc n9 o ⟨s6,hJ⟩ ho hi hd hdep hcl;have hstep:=fun (v:Value) (s8:List F) (w2:World)=>hJ.step (v:=v) (s':=s8) (w':=w2) (fdF_st (B:=B) (k:=k) (E:=E) _) HNE.out (fun i hi=>Nat.lt_of_lt_of_le (HL9.out i hi) (of_decide_eq_true rfl)) n9 hi hd
  have HST9:=Lib.hid hJ.st;have HROOM:=Lib.hid (hJ.room n9 hi hd (N:=900000) (show s.length+1<=900000 from by have:=HM.out;omega));have m0:T[0]?=some (.pointer (some ⟨k,0,none⟩)):=(hJ.oth 0 (by decide)).trans (by rfl);have m1:T[1]?=some (.int .i64 ((i:Nat):Int)):=(hJ.oth 1 (by decide)).trans (by rfl);obtain rfl | rfl | rfl | rfl | rfl | rfl | rfl | rfl | rfl | rfl:n9=0\/n9=1\/n9=2\/n9=3\/n9=4\/n9=5\/n9=6\/n9=7\/n9=8\/n9=9:=by omega
  all_goals (injection ho with ho)
  all_goals (subst ho)
  all_goals (try (clear hJ hdep hcl;refine⟨rfl,fun K9 hK=>?_⟩;have HST:=Lib.hid hstep;clear hstep;go_simp;exact hK.out _ _ (HST.out _ _ _ HST9.out ((Ext.refl _).up (Nat.zero_le _)) (Stp.refl _ _ _) rfl)))
  ·have HBE:=Lib.hid hJ.be;have es:T[7]?=some (.pointer (some ⟨kS,0,none⟩)):=(hJ.oth 7 (by decide)).trans (by rfl);have hBq:=(HBE.out.block kS (lt_of_block HBS.out) (NO.cells HBS.out (by decide))).trans HBS.out;have q0:=cell_at (v:=.bool b) hBq 0 rfl;have q1:=cell_at (v:=.slice ao l c) hBq 1 rfl;clear hBq;clear hJ hdep hcl;refine⟨rfl,fun K9 hK=>?_⟩;have HST:=Lib.hid hstep;clear hstep;go_simp;exact hK.out _ _ (HST.out _ _ _ HST9.out ((Ext.refl _).up (Nat.zero_le _)) (Stp.refl _ _ _) rfl)
  ·have e14:=hJ.vE 3 14 rfl (by decide) (hdep 3 (by rfl)) (fun _ h=>h);have HEXT:=Lib.hid hJ.ext;clear hJ hdep hcl;refine⟨rfl,fun K9 hK=>?_⟩;have HST:=Lib.hid hstep;clear hstep;go_simp;have hal:Below wc.heap.size wc (wc.alloc _):=(Below.refl _ _).alloc (Nat.le_refl _) (.cells #[.int .i64 ((i:Nat):Int)] 116);exact hK.out _ _ (HST.out _ _ _ (HST9.out.below hal) ((Ext.refl _).up (Nat.zero_le _)) (.of_below hal) ⟨[i],IL.block (l:=[i]) (cs:=[.int .i64 ((i:Nat):Int)]) (show (wc.alloc (.cells #[.int .i64 ((i:Nat):Int)] 116)).heap[wc.heap.size]?=some (.cells [.int .i64 ((i:Nat):Int)].toArray 116 (0,0)) from heap_alloc_new wc _) (by decide) (HST9.out.fresh (Nat.le_refl _)) (by show 1<=maxLen;decide) rfl,by simp only[List.map_cons,List.map_nil,HEXT.out.get HX.out]⟩)
  ·have e13:=hJ.vE 2 13 rfl (by decide) (hdep 2 (by rfl)) (fun _ h=>h);obtain⟨v4,e15,f4⟩:=hJ.val 4 (by decide) (hdep 4 (by rfl));obtain⟨l4,f4a,h4⟩:=(show IdL B k E v4 [X] s6 wc from f4);obtain⟨q4o,q4c,g4,-⟩:=id f4a;rw[g4] at e15 f4a;replace e15:T[15]?=_:=e15;have A4:=Lib.hid f4a;have H4:=Lib.hid h4;clear f4 f4a h4 g4;clear hJ hdep hcl;refine⟨rfl,fun K9 hK=>?_⟩;have HST:=Lib.hid hstep;clear hstep;go_simp;refine (forms_pS wc HST9.out _ l4 A4.out [X] H4.out (len1 H4.out)).mono ?_;rintro e w8 ⟨v8,rfl,p1,p2⟩;exact hK.out _ _ (HST.out _ _ _ (HST9.out.below p2) ((Ext.refl _).up (Nat.zero_le _)) (.of_below p2) p1)
  ·have e12:=hJ.vE 1 12 rfl (by decide) (hdep 1 (by rfl)) (fun _ h=>h);obtain⟨v5,e16,f5⟩:=hJ.val 5 (by decide) (hdep 5 (by rfl));replace f5:FL wc (NS B k E wc) 9 v5 [X]:=f5;obtain⟨o5,l5,c5,g5⟩:=FL.shapeF f5;subst g5;replace e16:T[16]?=_:=e16;have H5:=Lib.hid f5;clear f5;have HBE:=Lib.hid hJ.be;clear hJ hdep hcl;refine⟨rfl,fun K9 hK=>?_⟩;have HST:=Lib.hid hstep;clear hstep;go_simp;exact hK.out _ _ (HST.out _ _ _ HST9.out ((Ext.refl _).up (Nat.zero_le _)) (Stp.refl _ _ _) (FC.mk (op:=3) (nm:=⟨#[]⟩) ⟨by decide,by decide⟩ (CI.kn HK1.out HBE.out.kn) H5.out))
  ·have e18:=hJ.vE 7 18 rfl (by decide) (hdep 7 (by rfl)) (fun _ h=>h);have HEXT:=Lib.hid hJ.ext;clear hJ hdep hcl;refine⟨rfl,fun K9 hK=>?_⟩;have HST:=Lib.hid hstep;clear hstep;go_simp;have hal:Below wc.heap.size wc (wc.alloc _):=(Below.refl _ _).alloc (Nat.le_refl _) (.cells #[.int .i64 ((i:Nat):Int)] 116);exact hK.out _ _ (HST.out _ _ _ (HST9.out.below hal) ((Ext.refl _).up (Nat.zero_le _)) (.of_below hal) ⟨[i],IL.block (l:=[i]) (cs:=[.int .i64 ((i:Nat):Int)]) (show (wc.alloc (.cells #[.int .i64 ((i:Nat):Int)] 116)).heap[wc.heap.size]?=some (.cells [.int .i64 ((i:Nat):Int)].toArray 116 (0,0)) from heap_alloc_new wc _) (by decide) (HST9.out.fresh (Nat.le_refl _)) (by show 1<=maxLen;decide) rfl,by simp only[List.map_cons,List.map_nil,HEXT.out.get HX.out]⟩)
  have e11:=hJ.vE 0 11 rfl (by decide) (hdep 0 (by rfl)) (fun _ h=>h);obtain⟨v6,e17,f6⟩:=hJ.val 6 (by decide) (hdep 6 (by rfl));replace f6:FC wc (NS B k E wc) 10 v6 (scF K X):=f6;obtain⟨a6,g6⟩:=FC.shapeF f6;subst g6;replace e17:T[17]?=_:=e17;have H6:=Lib.hid f6;clear f6;obtain⟨v8,e19,f8⟩:=hJ.val 8 (by decide) (hdep 8 (by rfl));obtain⟨l8,f8a,h8⟩:=(show IdL B k E v8 [X] s6 wc from f8);obtain⟨q8o,q8c,g8,-⟩:=id f8a;rw[g8] at e19 f8a;replace e19:T[19]?=_:=e19;have A8:=Lib.hid f8a;have H8:=Lib.hid h8;clear f8 f8a h8 g8;clear hJ hdep hcl;refine⟨rfl,fun K9 hK=>?_⟩;have HST:=Lib.hid hstep;clear hstep;go_simp;refine (putC_p wc HST9.out HROOM.out 10 _ _ H6.out G4.out _ (IL.as A8.out (ids_idx (St.nd HST9.out) l8 [X] H8.out)) (ids_mem l8 [X] H8.out)).mono ?_;rintro e w8 ⟨i8,s8,rfl,p1,p2,p3,p4⟩
  exact hK.out _ _ (HST.out _ _ _ p1 p2 p4 ⟨i8,rfl,p3⟩)
 rintro T w6 ⟨s6,hJ⟩;have a0:=hJ.vE 0 11 rfl (by decide) rfl (fun _ h=>h);have a1:=hJ.vE 1 12 rfl (by decide) rfl (fun _ h=>h);have a2:=hJ.vE 2 13 rfl (by decide) rfl (fun _ h=>h);have a3:=hJ.vE 3 14 rfl (by decide) rfl (fun _ h=>h);obtain⟨v4,a4,f4⟩:=hJ.val 4 (by decide) rfl;obtain⟨l4,f4a,h4⟩:=(show IdL B k E v4 [X] s6 w6 from f4);have A4:=Lib.hid f4a;have H4:=Lib.hid h4;clear f4 f4a h4;obtain⟨v5,a5,f5⟩:=hJ.val 5 (by decide) rfl;clear f5;obtain⟨v6,a6,f6⟩:=hJ.val 6 (by decide) rfl;clear f6;have a7:=hJ.vE 7 18 rfl (by decide) rfl (fun _ h=>h);obtain⟨v8,a8,f8⟩:=hJ.val 8 (by decide) rfl;obtain⟨l8,f8a,h8⟩:=(show IdL B k E v8 [X] s6 w6 from f8);have A8:=Lib.hid f8a;clear f8 f8a h8;obtain⟨i9,a9,H9⟩:=hJ.vI 9 20 rfl (by decide) rfl (fun _ h=>h)
 have hfr:=hJ.fin (fun i hi=>Nat.lt_of_lt_of_le (HL9.out i hi) (of_decide_eq_true rfl)) rfl (.cons a0 (.cons a1 (.cons a2 (.cons a3 (.cons a4 (.cons a5 (.cons a6 (.cons a7 (.cons a8 (.cons a9 .nil))))))))));have HST9:=Lib.hid hJ.st;have HEX9:Hid (Ext s s6 1):=Lib.hid hJ.ext;have HBE9:=Lib.hid hJ.be;clear hJ HNE HL9 a0 a1 a2 a3 a4 a5 a6 a7 a8 a9;rw[hfr];clear hfr;simp only[fillW,Nat.reduceAdd,List.setIfInBounds_toArray,List.set_cons_zero,List.set_cons_succ];simp only[List.drop_succ_cons,List.drop_zero];have HS2:=Lib.hid HST9.out;have HE2:=Lib.hid HEX9.out;have HP:=Lib.hid H9.out;have HT2:=Lib.hid (HT1.out.trans HBE9.out);have HK2:=Lib.hid (CI.kn HK1.out HBE9.out.kn);replace HBS:=Lib.hid ((HBE9.out.block kS (lt_of_block HBS.out) (NO.cells HBS.out (by decide))).trans HBS.out)
 have HM2:Hid (s6.length+4<=900000):=Lib.hid (by have:=HM.out;have:=HE2.out.len;omega);clear HS1 HT1 HK1 HST9 HEX9 HBE9 H9;go_upto_region 2 with fail;have HNE:Hid (∀ i j,i<6->j<6->i≠j->(fun i=>i+21) i≠(fun i=>i+21) j):=Lib.hid (fun i j _ _ h e=>h (Nat.add_right_cancel e));have HL9:Hid (∀ i,i<6->(fun i=>i+21) i<27):=Lib.hid (fun i h=>by show i+21<27;omega);refine Rel9.region (by kernel_rfl) [[],[],[],[1,2],[1,2,3],[0,1,2,3,4],[0,1,2,3,4,5]] 6 (by kernel_rfl) (by kernel_rfl) (JX B k E L w6 s6 _ 6 (fun i=>i+21) (fun i=>[0,0,0,0,0,1].getD i 0) (fdF B k E [.eqv (.pointer (some ⟨k,0,none⟩)),.eqv (.agg #[.bool b,.slice ao l c]),.ci (1) 2,.ci (K - 1) 603,.fc (nF (K - 1)),.idf (nF (K - 1))])) (JF.start HS2.out) ?_ ?_
 ·rintro d T wc n9 o ⟨s9,hJ⟩ ho hi hd hdep hcl;have hstep:=fun (v:Value) (s8:List F) (w2:World)=>hJ.step (v:=v) (s':=s8) (w':=w2) (fdF_st (B:=B) (k:=k) (E:=E) _) HNE.out (fun i hi=>Nat.lt_of_lt_of_le (HL9.out i hi) (of_decide_eq_true rfl)) n9 hi hd
  have HST9:=Lib.hid hJ.st;have HROOM:=Lib.hid (hJ.room n9 hi hd (N:=900000) (show s6.length+1<=900000 from by have:=HM2.out;omega));have m0:T[0]?=some (.pointer (some ⟨k,0,none⟩)):=(hJ.oth 0 (by decide)).trans (by rfl);obtain rfl | rfl | rfl | rfl | rfl | rfl:n9=0\/n9=1\/n9=2\/n9=3\/n9=4\/n9=5:=by omega
  all_goals (injection ho with ho)
  all_goals (subst ho)
  all_goals (try (clear hJ hdep hcl;refine⟨rfl,fun K9 hK=>?_⟩;have HST:=Lib.hid hstep;clear hstep;go_simp;exact hK.out _ _ (HST.out _ _ _ HST9.out ((Ext.refl _).up (Nat.zero_le _)) (Stp.refl _ _ _) rfl)))
  ·have HBE:=Lib.hid hJ.be;have es:T[7]?=some (.pointer (some ⟨kS,0,none⟩)):=(hJ.oth 7 (by decide)).trans (by rfl);have hBq:=(HBE.out.block kS (lt_of_block HBS.out) (NO.cells HBS.out (by decide))).trans HBS.out;have q0:=cell_at (v:=.bool b) hBq 0 rfl;have q1:=cell_at (v:=.slice ao l c) hBq 1 rfl;clear hBq;clear hJ hdep hcl;refine⟨rfl,fun K9 hK=>?_⟩;have HST:=Lib.hid hstep;clear hstep;go_simp;exact hK.out _ _ (HST.out _ _ _ HST9.out ((Ext.refl _).up (Nat.zero_le _)) (Stp.refl _ _ _) rfl)
  ·clear hJ hdep hcl;refine⟨rfl,fun K9 hK=>?_⟩;have HST:=Lib.hid hstep;clear hstep;go_simp;refine (wof_any 1 wc (by decide) (by decide)).mono ?_;rintro e w8 ⟨v8,rfl,p1,p2⟩;exact hK.out _ _ (HST.out _ _ _ (HST9.out.below p2) ((Ext.refl _).up (Nat.zero_le _)) (.of_below p2) p1)
  ·have e22:=hJ.vE 1 22 rfl (by decide) (hdep 1 (by rfl)) (fun _ h=>h);obtain⟨v2,e23,f2⟩:=hJ.val 2 (by decide) (hdep 2 (by rfl));replace f2:CI wc v2 (1) 2:=f2;obtain⟨b2,o2,l2,c2,g2⟩:=CI.shapeF f2;subst g2;replace e23:T[23]?=_:=e23;have H2:=Lib.hid f2;clear f2;have HBE:=Lib.hid hJ.be;clear hJ hdep hcl;refine⟨rfl,fun K9 hK=>?_⟩;have HST:=Lib.hid hstep;clear hstep;go_simp;refine (wsub_any _ _ K 1 600 2 wc (CI.gi (CI.kn HK2.out HBE.out.kn)) (CI.gi H2.out) (by decide) (by decide)).mono ?_;rintro e w8 ⟨v8,rfl,p1,p2⟩;exact hK.out _ _ (HST.out _ _ _ (HST9.out.below p2) ((Ext.refl _).up (Nat.zero_le _)) (.of_below p2) p1)
  ·obtain⟨v3,e24,f3⟩:=hJ.val 3 (by decide) (hdep 3 (by rfl));replace f3:CI wc v3 (K - 1) 603:=f3;obtain⟨b3,o3,l3,c3,g3⟩:=CI.shapeF f3;subst g3;replace e24:T[24]?=_:=e24;have H3:=Lib.hid f3;clear f3;clear hJ hdep hcl;refine⟨rfl,fun K9 hK=>?_⟩;have HST:=Lib.hid hstep;clear hstep;go_simp;exact hK.out _ _ (HST.out _ _ _ HST9.out ((Ext.refl _).up (Nat.zero_le _)) (Stp.refl _ _ _) (FC.up (FC.mk (op:=0) (nm:=⟨#[]⟩) (d:=0) ⟨by decide,by decide⟩ (CI.lowF H3.out HB603.out) (FL.nil _ _ 0)) (by decide)))
  have e21:=hJ.vE 0 21 rfl (by decide) (hdep 0 (by rfl)) (fun _ h=>h);obtain⟨v4,e25,f4⟩:=hJ.val 4 (by decide) (hdep 4 (by rfl));replace f4:FC wc (NS B k E wc) 10 v4 (nF (K - 1)):=f4;obtain⟨a4,g4⟩:=FC.shapeF f4;subst g4;replace e25:T[25]?=_:=e25;have H4:=Lib.hid f4;clear f4;clear hJ hdep hcl;refine⟨rfl,fun K9 hK=>?_⟩;have HST:=Lib.hid hstep;clear hstep;go_simp;refine (putC_p wc HST9.out HROOM.out 10 _ _ H4.out G5.out _ (IL.nil B k E wc) (fun x hx=>by cases hx)).mono ?_;rintro e w8 ⟨i8,s8,rfl,p1,p2,p3,p4⟩;exact hK.out _ _ (HST.out _ _ _ p1 p2 p4 ⟨i8,rfl,p3⟩)
 rintro T wt ⟨s9,hJ⟩;have a0:=hJ.vE 0 21 rfl (by decide) rfl (fun _ h=>h);have a1:=hJ.vE 1 22 rfl (by decide) rfl (fun _ h=>h);obtain⟨v2,a2,f2⟩:=hJ.val 2 (by decide) rfl;clear f2;obtain⟨v3,a3,f3⟩:=hJ.val 3 (by decide) rfl;clear f3;obtain⟨v4,a4,f4⟩:=hJ.val 4 (by decide) rfl;clear f4;obtain⟨i5,a5,H5⟩:=hJ.vI 5 26 rfl (by decide) rfl (fun _ h=>h);have hfr:=hJ.fin (fun i hi=>Nat.lt_of_lt_of_le (HL9.out i hi) (of_decide_eq_true rfl)) rfl (.cons a0 (.cons a1 (.cons a2 (.cons a3 (.cons a4 (.cons a5 .nil))))));have HST9:=Lib.hid hJ.st;have HEX9:Hid (Ext s6 s9 1):=Lib.hid hJ.ext;have HBE9:=Lib.hid hJ.be;clear hJ HNE HL9 a0 a1 a2 a3 a4 a5;rw[hfr];clear hfr;simp only[fillW,Nat.reduceAdd,List.setIfInBounds_toArray,List.set_cons_zero,List.set_cons_succ];simp only[List.drop_succ_cons,List.drop_zero]
 have HM3:Hid (s9.length+3<=900000):=Lib.hid (by have:=HM2.out;have:=HEX9.out.len;omega);replace HP:=Lib.hid (HEX9.out.get HP.out);have HE3:Hid (Ext s s9 2):=Lib.hid (HE2.out.trans HEX9.out (by omega));have HT3:=Lib.hid (HT2.out.trans HBE9.out);replace HA:=Lib.hid (HE3.out.get HA.out);go_wp2_with fail;refine (leS_p wt HST9.out (by have:=HM3.out;omega) i9 j _ _ HP.out HA.out G1.out).mono ?_;rintro e y1 ⟨j1,t1,rfl,h1,h2,h3,h4⟩;have Y1:=Lib.hid h1;have J1:=Lib.hid h3;replace HP:=Lib.hid (h2.get HP.out);replace H5:=Lib.hid (h2.get H5.out);replace HA:=Lib.hid (h2.get HA.out);have HE4:Hid (Ext s t1 3):=Lib.hid (HE3.out.trans h2 (by omega));have HT4:=Lib.hid (HT3.out.trans h4);clear h1 h2 h3 h4;obtain⟨z2,kq,eq,ekq,hbq,hkq,HBq⟩:=newV y1 #[.int .i64 ((i9:Nat):Int),.int .i64 ((i5:Nat):Int)] 116
 have hal:=Lib.hid (Y1.out.below hbq.out);have hfr:=Lib.hid (Y1.out.fresh hkq.out);go_wp2_with fail;refine (ofS_p z2 hal.out (by have:=HM.out;have:=HE4.out.len;omega) 2 ⟨by decide,by decide⟩ _ [i9,i5] (IL.block (cs:=[.int .i64 ((i9:Nat):Int),.int .i64 ((i5:Nat):Int)]) HBq.out (by decide) hfr.out (by show 2<=maxLen;decide) rfl) [scF K X,nF (K - 1)] (by simp only[List.map_cons,List.map_nil,HP.out,H5.out]) G3.out).mono ?_;rintro e y2 ⟨j2,t2,rfl,h1,h2,h3,h4⟩;have Y2:=Lib.hid h1;have J2:=Lib.hid h3;replace J1:=Lib.hid (h2.get J1.out);replace HA:=Lib.hid (h2.get HA.out);have HE5:Hid (Ext s t2 4):=Lib.hid (HE4.out.trans h2 (by omega));have HT5:=Lib.hid ((HT4.out.trans (.of_below hbq.out)).trans h4);clear h1 h2 h3 h4;go_wp2_with fail
 refine (leS_p y2 Y2.out (by have:=HM.out;have:=HE5.out.len;omega) j j2 _ _ HA.out J2.out G2.out).mono ?_;rintro e y3 ⟨j3,t3,rfl,h1,h2,h3,h4⟩;have Y3:=Lib.hid h1;have J3:=Lib.hid h3;replace J1:=Lib.hid (h2.get J1.out);have HE6:Hid (Ext s t3 5):=Lib.hid (HE5.out.trans h2 (by omega));have HT6:=Lib.hid (HT5.out.trans h4);clear h1 h2 h3 h4;obtain⟨z3,kr,er,ekr,hbr,hkr,HBr⟩:=newV y3 #[.int .i64 ((j1:Nat):Int),.int .i64 ((j3:Nat):Int)] 116;have hfr2:=Lib.hid (Y3.out.fresh hkr.out);go_wp2_with fail;go_ret;exact⟨_,t3,rfl,⟨[j1,j3],IL.block (l:=[j1,j3]) (cs:=[.int .i64 ((j1:Nat):Int),.int .i64 ((j3:Nat):Int)]) HBr.out (by decide) hfr2.out (by show 2<=maxLen;decide) rfl,by simp only[List.map_cons,List.map_nil,J1.out,J3.out];rfl⟩,Y3.out.below hbr.out,HE6.out,HT6.out.trans (.of_below hbr.out)⟩
attribute [local go_sem] fieldV0 fieldV1 fieldV2 fieldV3
theorem ids_ext {s s':List F} {n:Nat} (he:Ext s s' n):∀ {l:List Nat} {ts:List F},l.map (fun i=>s[i]?)=ts.map some->l.map (fun i=>s'[i]?)=ts.map some
 | [],[],_=>rfl
 | [],_::_,h=>by cases h
 | _::_,[],h=>by cases h
 | i::l,a::m,h=>by
  rw[List.map_cons,List.map_cons] at h;injection h with e1 e2;rw[List.map_cons,List.map_cons,ids_ext he e2,he.get e1]
theorem lens_len (x:F):(lensF x).length<=2:=by
 unfold lensF;split
 ·simp
 split<;>simp
theorem kids1 {x:F} (h:rt x=true) (ho:x.op=5\/x.op=7\/x.op=11):∃ a,x.kids=[a]:=by
 obtain⟨o,z,nm,ks⟩:=x;have hp:=rt_parts h;have ho':o=5\/o=7\/o=11:=ho;rcases ho' with rfl | rfl | rfl;all_goals
  obtain⟨a,e,-⟩:=fsr_one (by have:=hp.1;simpa [kidsOk] using this);exact⟨a,e⟩
theorem kids4 {x:F} (h:rt x=true) (ho:x.op=4):∃ a b,x.kids=[a,b]:=by
 obtain⟨o,z,nm,ks⟩:=x;have hp:=rt_parts h;have ho':o=4:=ho;subst ho';obtain⟨a,b,e,-,-⟩:=fsr_two (by have:=hp.1;simpa [kidsOk] using this);exact⟨a,b,e⟩
theorem facts_none {B k:Nat} {E:Nat->Prop} {L s:List F} (w:World) (h:St B k E L s w) (hm:s.length+46<=900000) (i:Nat) (X:F) (hx:s[i]?=some X) (hg:∀ t ∈ factsF X,Gd t) (ho:∀ q ∈ [(8:Int),(9:Int),(10:Int),(11:Int),(7:Int),(5:Int),(4:Int)],X.op≠q) :
  Calls Tryz.prog 72 #[.pointer (some ⟨k,0,none⟩),.int .i64 ((i:Nat):Int)] w (FacPost B k E L s (factsF X) 46 w):=by
 have HS:=Lib.hid h;have HX:=Lib.hid hx;have HO:=Lib.hid ho;clear h hm hx hg ho;obtain⟨km,v,us,M,hU⟩:=HS.out;obtain⟨g,cap,u,qo,ql,qc,q,⟨rfl,hil,hcap,hmx⟩,⟨c0,c1,c2,c3,c4,c5,c6⟩,⟨hft,hop,-⟩,hids,-⟩:=hU.node HX.out;have d1:=cell_at (v:=.slice (some ⟨g,0,none⟩) s.length cap) hU.bk 1 rfl;have hmx':cap<=9223372036854775807:=hmx;have HBK:=Lib.hid hU.bk;have e8:(u.k==8)=false:=beq_eq_false_iff_ne.2 (by rw[hop];exact HO.out 8 (by simp));have e9:(u.k==9)=false:=beq_eq_false_iff_ne.2 (by rw[hop];exact HO.out 9 (by simp));have e10:(u.k==10)=false:=beq_eq_false_iff_ne.2 (by rw[hop];exact HO.out 10 (by simp));have e11:(u.k==11)=false:=beq_eq_false_iff_ne.2 (by rw[hop];exact HO.out 11 (by simp));have e7:(u.k==7)=false:=beq_eq_false_iff_ne.2 (by rw[hop];exact HO.out 7 (by simp))
 have e5:(u.k==5)=false:=beq_eq_false_iff_ne.2 (by rw[hop];exact HO.out 5 (by simp));have e4:(u.k==4)=false:=beq_eq_false_iff_ne.2 (by rw[hop];exact HO.out 4 (by simp));clear hU hids hop hft;obtain⟨z1,kn,en,ekn,hbn,hkn,HBn⟩:=newV w #[.int .i64 u.k,.bool (decide (u.n.z<0)),.slice u.n.o u.n.l u.n.c,.string u.nm,.slice u.ko u.kl u.kc,.slice qo ql qc,.bool q] 167;have n0:=cell_at (v:=.int .i64 u.k) HBn.out 0 rfl;have HS1:=Lib.hid (HS.out.below hbn.out);have HT1:=Lib.hid (Stp.of_below (B:=B) (k:=k) hbn.out);have hgn:g≠kn:=by have h1:=World.block_lt_of_cell? _ _ c0;have h2:=ekn;intro h3;change g<_ at h1;omega
 have HNO:Hid (NO B k z1 kn):=Lib.hid (NO.local_ ((hbn.out.block k (lt_of_block HBK.out)).trans HBK.out) hgn HBn.out (by decide));clear hgn;go_enter Tryz.func72,Tryz.ntmps72;have hl:Hid (factsF X=[]):=Lib.hid (by unfold factsF;rw[if_neg (HO.out 8 (by simp)),if_neg (HO.out 9 (by simp)),if_neg (HO.out 10 (by simp)),if_neg (HO.out 11 (by simp)),if_neg (HO.out 7 (by simp)),if_neg (HO.out 5 (by simp)),if_neg (HO.out 4 (by simp))]);go_wp2_with fail;go_ret;exact⟨_,[],s,rfl,El.At.nil _,by rw[hl.out];rfl,HS1.out,(Ext.refl s).up (Nat.zero_le _),HT1.out⟩
theorem facts_nil {B k:Nat} {E:Nat->Prop} {L s:List F} (w:World) (h:St B k E L s w) (hm:s.length+46<=900000) (i:Nat) (X:F) (hx:s[i]?=some X) (hg:∀ t ∈ factsF X,Gd t) (ho:X.op=9) :
  Calls Tryz.prog 72 #[.pointer (some ⟨k,0,none⟩),.int .i64 ((i:Nat):Int)] w (FacPost B k E L s (factsF X) 46 w):=by
 have HS:=Lib.hid h;have HM:=Lib.hid hm;have HX:=Lib.hid hx;have HG:=Lib.hid hg;have HO:=Lib.hid ho;clear h hm hx hg ho;obtain⟨km,v,us,M,hU⟩:=HS.out;obtain⟨g,cap,u,qo,ql,qc,q,⟨rfl,hil,hcap,hmx⟩,⟨c0,c1,c2,c3,c4,c5,c6⟩,⟨hft,hop,-⟩,hids,-⟩:=hU.node HX.out;have d1:=cell_at (v:=.slice (some ⟨g,0,none⟩) s.length cap) hU.bk 1 rfl;have hmx':cap<=9223372036854775807:=hmx;have HBK:=Lib.hid hU.bk;have e8:(u.k==8)=false:=by rw[hop,HO.out];rfl
 have e9:(u.k==9)=true:=by rw[hop,HO.out];rfl
 clear hU hids hop hft;obtain⟨z1,kn,en,ekn,hbn,hkn,HBn⟩:=newV w #[.int .i64 u.k,.bool (decide (u.n.z<0)),.slice u.n.o u.n.l u.n.c,.string u.nm,.slice u.ko u.kl u.kc,.slice qo ql qc,.bool q] 167;have n0:=cell_at (v:=.int .i64 u.k) HBn.out 0 rfl;have HS1:=Lib.hid (HS.out.below hbn.out);have HT1:=Lib.hid (Stp.of_below (B:=B) (k:=k) hbn.out);have hgn:g≠kn:=by have h1:=World.block_lt_of_cell? _ _ c0;have h2:=ekn;intro h3;change g<_ at h1;omega
 have HNO:Hid (NO B k z1 kn):=Lib.hid (NO.local_ ((hbn.out.block k (lt_of_block HBK.out)).trans HBK.out) hgn HBn.out (by decide));clear hgn;go_enter Tryz.func72,Tryz.ntmps72;have hl:Hid (factsF X=lensF X):=Lib.hid (by unfold factsF;rw[if_neg (show ¬ X.op=8 by rw[HO.out];decide),if_pos HO.out]);go_wp2_with fail;refine (lensS_p z1 HS1.out (by have:=HM.out;omega) i X HX.out (by rw[<-hl.out];exact HG.out)).mono ?_;rintro e y1 ⟨v1,l1,s1,rfl,h1,h2,h3,h4,h5⟩;obtain⟨ro,rc,rfl,-⟩:=h1.form;have R1:=Lib.hid h1;have J1:=Lib.hid h2;have S1:=Lib.hid (h3.less (E':=E) (fun g hg=>.inl hg));have E1:Hid (Ext s s1 46):=Lib.hid (h4.up (by decide));have T1:=Lib.hid (HT1.out.trans h5);clear h1 h2 h3 h4 h5;go_wp2_with fail;go_ret;exact⟨_,l1,s1,rfl,R1.out.at,by rw[hl.out];exact J1.out,S1.out,E1.out,T1.out⟩
theorem facts_lvar {B k:Nat} {E:Nat->Prop} {L s:List F} (w:World) (h:St B k E L s w) (hm:s.length+46<=900000) (i:Nat) (X:F) (hx:s[i]?=some X) (hg:∀ t ∈ factsF X,Gd t) (ho:X.op=8) :
  Calls Tryz.prog 72 #[.pointer (some ⟨k,0,none⟩),.int .i64 ((i:Nat):Int)] w (FacPost B k E L s (factsF X) 46 w):=by
 have HS:=Lib.hid h;have HM:=Lib.hid hm;have HX:=Lib.hid hx;have HG:=Lib.hid hg;have HO:=Lib.hid ho;clear h hm hx hg ho;obtain⟨km,v,us,M,hU⟩:=HS.out;obtain⟨g,cap,u,qo,ql,qc,q,⟨rfl,hil,hcap,hmx⟩,⟨c0,c1,c2,c3,c4,c5,c6⟩,⟨hft,hop,-⟩,hids,-⟩:=hU.node HX.out;have d1:=cell_at (v:=.slice (some ⟨g,0,none⟩) s.length cap) hU.bk 1 rfl;have hmx':cap<=9223372036854775807:=hmx;have HBK:=Lib.hid hU.bk;have HBB:=Lib.hid HS.out.bases;have e8:(u.k==8)=true:=by rw[hop,HO.out];rfl
 clear hU hids hop hft;obtain⟨z1,kn,en,ekn,hbn,hkn,HBn⟩:=newV w #[.int .i64 u.k,.bool (decide (u.n.z<0)),.slice u.n.o u.n.l u.n.c,.string u.nm,.slice u.ko u.kl u.kc,.slice qo ql qc,.bool q] 167;have n0:=cell_at (v:=.int .i64 u.k) HBn.out 0 rfl;have HS1:=Lib.hid (HS.out.below hbn.out);have HT1:=Lib.hid (Stp.of_below (B:=B) (k:=k) hbn.out);have hgn:g≠kn:=by have h1:=World.block_lt_of_cell? _ _ c0;have h2:=ekn;intro h3;change g<_ at h1;omega
 have HNO:Hid (NO B k z1 kn):=Lib.hid (NO.local_ ((hbn.out.block k (lt_of_block HBK.out)).trans HBK.out) hgn HBn.out (by decide));clear hgn;go_enter Tryz.func72,Tryz.ntmps72;have hl:Hid (factsF X=lensF X++[emptF X]):=Lib.hid (by unfold factsF;rw[if_pos HO.out]);have hz:=HBB.out;go_wp2_with fail;refine (lensS_p z1 HS1.out (by have:=HM.out;omega) i X HX.out (fun t ht=>HG.out t (by rw[hl.out];simp[ht]))).mono ?_;rintro e y1 ⟨v1,l1,s1,rfl,h1,h2,h3,h4,h5⟩;obtain⟨ro,rc,rfl,-⟩:=h1.form;have R1:=Lib.hid h1;have J1:=Lib.hid h2;have S1:=Lib.hid h3;have E1:=Lib.hid h4;have Z1:=Lib.hid h5.size;have T1:=Lib.hid (HT1.out.trans h5);clear h1 h2 h3 h4 h5;go_wp2_with fail;refine (emptS_p y1 S1.out (by have:=HM.out;have:=E1.out.len;omega) i X (E1.out.get HX.out) (HG.out _ (by rw[hl.out];simp))).mono ?_
 rintro e y2 ⟨j2,s2,rfl,h1,h2,h3,h4⟩;have S2:=Lib.hid h1;have J2:=Lib.hid h3;have E2:Hid (Ext s s2 16):=Lib.hid (E1.out.trans h2 (by omega));have T2:=Lib.hid (T1.out.trans h4);replace R1:=Lib.hid (idR_stp R1.out h4);have Z2:=Lib.hid h4.size;replace J1:=Lib.hid (ids_ext h2 J1.out);clear h1 h2 h3 h4;obtain⟨z2,kr,er,ekr,hbr,hkr,HBr⟩:=newV y2 #[.int .i64 ((j2:Nat):Int)] 116;replace R1:=Lib.hid (El.Row.below R1.out hbr.out);have HAT:Hid (idR.At z2 (.slice (some ⟨kr,0,none⟩) 1 1) [j2]):=Lib.hid (idR_at (l:=[j2]) HBr.out (by show 1<=maxLen;decide));have HSZ:Hid (z1.heap.size<=z2.heap.size):=Lib.hid (Nat.le_trans (Nat.le_trans Z1.out Z2.out) hbr.out.size)
 go_wp2_with (first | (at_builtin;refine El.Row.append (E:=idR) R1.out rfl (.tmp 20) (.tmp 24) rfl rfl rfl HAT.out (by have h1:=map_some_len J1.out;have h2:=lens_len X;show l1.length+1<=1000000;omega) HSZ.out ?_;intro v9 w9 r1 r2 r3 r4;have R9:=Lib.hid r1;have R4:=Lib.hid r4;clear r1 r2 r3 r4) | fail);go_ret;exact⟨_,l1++[j2],s2,rfl,R9.out.at,by rw[hl.out,List.map_append,List.map_append,J1.out];simp only[List.map_cons,List.map_nil,J2.out],(S2.out.below hbr.out).app R1.out (by have:=HBB.out.1;have:=hbn.out.size;omega) R4.out,E2.out.up (by omega),((T2.out.trans (.of_below hbr.out)).app R4.out (fun g hg=>Nat.le_trans hbn.out.size (R1.out.ge hg).1) HBB.out.2)⟩
theorem facts_hd {B k:Nat} {E:Nat->Prop} {L s:List F} (w:World) (h:St B k E L s w) (hm:s.length+46<=900000) (i:Nat) (X:F) (hx:s[i]?=some X) (hg:∀ t ∈ factsF X,Gd t) (ho:X.op=7) :
  Calls Tryz.prog 72 #[.pointer (some ⟨k,0,none⟩),.int .i64 ((i:Nat):Int)] w (FacPost B k E L s (factsF X) 46 w):=by
 have HS:=Lib.hid h;have HM:=Lib.hid hm;have HX:=Lib.hid hx;have HGX:=Lib.hid (h.good X (List.mem_of_getElem? hx));have HG:=Lib.hid hg;have HO:=Lib.hid ho;clear h hm hx hg ho;obtain⟨km,v,us,M,hU⟩:=HS.out;obtain⟨g,cap,u,qo,ql,qc,q,⟨rfl,hil,hcap,hmx⟩,⟨c0,c1,c2,c3,c4,c5,c6⟩,⟨hft,hop,-⟩,hids,-⟩:=hU.node HX.out;have d1:=cell_at (v:=.slice (some ⟨g,0,none⟩) s.length cap) hU.bk 1 rfl;have hmx':cap<=9223372036854775807:=hmx;have HIL:=Lib.hid hids;have HBK:=Lib.hid hU.bk;have e8:(u.k==8)=false:=by rw[hop,HO.out];rfl
 have e9:(u.k==9)=false:=by rw[hop,HO.out];rfl
 have e10:(u.k==10)=false:=by rw[hop,HO.out];rfl
 have e11:(u.k==11)=false:=by rw[hop,HO.out];rfl
 have e7:(u.k==7)=true:=by rw[hop,HO.out];rfl
 clear hU hids hop hft;obtain⟨x0,hk1⟩:=kids1 HGX.out.1 (.inr (.inl HO.out));have hIL:=HIL.out;rw[hk1] at hIL;obtain⟨ko',kc',ee,⟨hq1,hq2,hq3⟩,hc⟩:=hIL;injection ee with ea eb ec;replace eb:ql=1:=eb;subst ea;subst eb;subst ec;obtain⟨qa,rfl,hqn,hqc⟩:=hc 0 (by simp);replace hqc:w.cell? qa=some (.int .i64 ((idx s x0:Nat):Int)):=hqc;replace hq1:1<=qc:=hq1;have hq2':qc<=9223372036854775807:=hq2;have HQC:=Lib.hid hqc;have HX0:Hid (s[idx s x0]?=some x0):=Lib.hid (idx_get (HS.out.cl' X (List.mem_of_getElem? HX.out) x0 (by rw[hk1];simp)));have hk0:kd X 0=x0:=by unfold kd;rw[hk1];rfl
 clear hc hq2 hq3 hqn hqc HIL;obtain⟨z1,kn,en,ekn,hbn,hkn,HBn⟩:=newV w #[.int .i64 u.k,.bool (decide (u.n.z<0)),.slice u.n.o u.n.l u.n.c,.string u.nm,.slice u.ko u.kl u.kc,.slice (some qa) 1 qc,.bool q] 167;have n0:=cell_at (v:=.int .i64 u.k) HBn.out 0 rfl;have HS1:=Lib.hid (HS.out.below hbn.out);have HT1:=Lib.hid (Stp.of_below (B:=B) (k:=k) hbn.out);have hgn:g≠kn:=by have h1:=World.block_lt_of_cell? _ _ c0;have h2:=ekn;intro h3;change g<_ at h1;omega
 have HNO:Hid (NO B k z1 kn):=Lib.hid (NO.local_ ((hbn.out.block k (lt_of_block HBK.out)).trans HBK.out) hgn HBn.out (by decide));clear hgn;go_enter Tryz.func72,Tryz.ntmps72;have hl:Hid (factsF X=[orF [fillF x0,eqfF X (nF 0)]]):=Lib.hid (by unfold factsF;rw[if_neg (show ¬ X.op=8 by rw[HO.out];decide),if_neg (show ¬ X.op=9 by rw[HO.out];decide),if_neg (show ¬ X.op=10 by rw[HO.out];decide),if_neg (show ¬ X.op=11 by rw[HO.out];decide),if_pos HO.out];rw[hk0]);have G1:=Lib.hid (HG.out (orF [fillF x0,eqfF X (nF 0)]) (by rw[hl.out];simp));have G2:=Lib.hid (gd_kid G1.out (x:=fillF x0) (by simp[orF,fo,F.kids]));have G3:=Lib.hid (gd_kid G1.out (x:=eqfF X (nF 0)) (by simp[orF,fo,F.kids]));have n5:=cell_at (v:=.slice (some qa) 1 qc) HBn.out 5 rfl
 have cq:z1.cell? qa=some (.int .i64 ((idx s x0:Nat):Int)):=by rw[hbn.out.cell (cell_lt HQC.out)];exact HQC.out
 clear hk0;go_wp2_with fail;refine (filledS_p z1 HS1.out (by have:=HM.out;omega) (idx s x0) x0 HX0.out G2.out).mono ?_;rintro e y1 ⟨j1,s1,rfl,h1,h2,h3,h4⟩;have S1:=Lib.hid h1;replace HX:=Lib.hid (h2.get HX.out);have J1:=Lib.hid h3;have E1:Hid (Ext s s1 3):=Lib.hid ((Ext.refl s).trans h2 (by omega));have T1:Hid (Stp B k w y1):=Lib.hid (HT1.out.trans h4);clear h1 h2 h3 h4;clear c0 c1 c2 c3 c4 c5 c6 d1 n0 n5 cq;go_wp2_with fail;refine (numS_p y1 S1.out (by have:=HM.out;have:=E1.out.len;omega) 0 (by decide) (by decide)).mono ?_;rintro e y2 ⟨j2,s2,rfl,h1,h2,h3,h4⟩;have S2:=Lib.hid h1;replace J1:=Lib.hid (h2.get J1.out);replace HX:=Lib.hid (h2.get HX.out);have J2:=Lib.hid h3;have E2:Hid (Ext s s2 4):=Lib.hid (E1.out.trans h2 (by omega));have T2:Hid (Stp B k w y2):=Lib.hid (T1.out.trans h4);clear h1 h2 h3 h4
 go_wp2_with fail;refine (sameS_p y2 S2.out (by have:=HM.out;have:=E2.out.len;omega) i j2 X (nF 0) HX.out J2.out G3.out).mono ?_;rintro e y3 ⟨j3,s3,rfl,h1,h2,h3,h4⟩;have S3:=Lib.hid h1;replace J1:=Lib.hid (h2.get J1.out);replace J2:=Lib.hid (h2.get J2.out);have J3:=Lib.hid h3;have E3:Hid (Ext s s3 5):=Lib.hid (E2.out.trans h2 (by omega));have T3:Hid (Stp B k w y3):=Lib.hid (T2.out.trans h4);clear h1 h2 h3 h4;obtain⟨z2,kq,eq,ekq,hbq,hkq,HBq⟩:=newV y3 #[.int .i64 ((j1:Nat):Int),.int .i64 ((j3:Nat):Int)] 116;have hal:=Lib.hid (S3.out.below hbq.out);have hfr:=Lib.hid (S3.out.fresh hkq.out);go_wp2_with fail
 refine (eitherS_p z2 hal.out (by have:=HM.out;have:=E3.out.len;omega) _ [j1,j3] (IL.block (l:=[j1,j3]) (cs:=[.int .i64 ((j1:Nat):Int),.int .i64 ((j3:Nat):Int)]) HBq.out (by decide) hfr.out (by show 2<=maxLen;decide) rfl) [fillF x0,eqfF X (nF 0)] (by simp only[List.map_cons,List.map_nil,J1.out,J3.out]) G1.out).mono ?_;rintro e y4 ⟨j4,s4,rfl,h1,h2,h3,h4⟩;have S4:=Lib.hid h1;replace J1:=Lib.hid (h2.get J1.out);replace J2:=Lib.hid (h2.get J2.out);replace J3:=Lib.hid (h2.get J3.out);have J4:=Lib.hid h3;have E4:Hid (Ext s s4 6):=Lib.hid (E3.out.trans h2 (by omega));have T4:Hid (Stp B k w y4):=Lib.hid ((T3.out.trans (.of_below hbq.out)).trans h4);clear h1 h2 h3 h4;obtain⟨z3,kr,er,ekr,hbr,hkr,HBr⟩:=newV y4 #[.int .i64 ((j4:Nat):Int)] 116;go_wp2_with fail;go_ret
 exact⟨_,[j4],s4,rfl,idR_at (l:=[j4]) HBr.out (by show 1<=maxLen;decide),by rw[hl.out];simp only[List.map_cons,List.map_nil,J4.out],S4.out.below hbr.out,E4.out.up (by omega),T4.out.trans (.of_below hbr.out)⟩
theorem facts_quo {B k:Nat} {E:Nat->Prop} {L s:List F} (w:World) (h:St B k E L s w) (hm:s.length+46<=900000) (i:Nat) (X:F) (hx:s[i]?=some X) (hg:∀ t ∈ factsF X,Gd t) (ho:X.op=5) :
  Calls Tryz.prog 72 #[.pointer (some ⟨k,0,none⟩),.int .i64 ((i:Nat):Int)] w (FacPost B k E L s (factsF X) 46 w):=by
 have HS:=Lib.hid h;have HM:=Lib.hid hm;have HX:=Lib.hid hx;have HGX:=Lib.hid (h.good X (List.mem_of_getElem? hx));have HG:=Lib.hid hg;have HO:=Lib.hid ho;clear h hm hx hg ho;obtain⟨km,v,us,M,hU⟩:=HS.out;obtain⟨g,cap,u,qo,ql,qc,q,⟨rfl,hil,hcap,hmx⟩,⟨c0,c1,c2,c3,c4,c5,c6⟩,⟨hft,hop,-⟩,hids,-⟩:=hU.node HX.out;have d1:=cell_at (v:=.slice (some ⟨g,0,none⟩) s.length cap) hU.bk 1 rfl;have hmx':cap<=9223372036854775807:=hmx;have HIL:=Lib.hid hids;have HFT:=Lib.hid hft;have HBK:=Lib.hid hU.bk;have e8:(u.k==8)=false:=by rw[hop,HO.out];rfl
 have e9:(u.k==9)=false:=by rw[hop,HO.out];rfl
 have e10:(u.k==10)=false:=by rw[hop,HO.out];rfl
 have e11:(u.k==11)=false:=by rw[hop,HO.out];rfl
 have e7:(u.k==7)=false:=by rw[hop,HO.out];rfl
 have e5:(u.k==5)=true:=by rw[hop,HO.out];rfl
 clear hU hids hop hft;obtain⟨x0,hk1⟩:=kids1 HGX.out.1 (.inl HO.out);have hIL:=HIL.out;rw[hk1] at hIL;obtain⟨ko',kc',ee,⟨hq1,hq2,hq3⟩,hc⟩:=hIL;injection ee with ea eb ec;replace eb:ql=1:=eb;subst ea;subst eb;subst ec;obtain⟨qa,rfl,hqn,hqc⟩:=hc 0 (by simp);replace hqc:w.cell? qa=some (.int .i64 ((idx s x0:Nat):Int)):=hqc;replace hq1:1<=qc:=hq1;have hq2':qc<=9223372036854775807:=hq2;have HQN:=Lib.hid hqn;have HQC:=Lib.hid hqc;have HX0:Hid (s[idx s x0]?=some x0):=Lib.hid (idx_get (HS.out.cl' X (List.mem_of_getElem? HX.out) x0 (by rw[hk1];simp)));have hk0:kd X 0=x0:=by unfold kd;rw[hk1];rfl
 clear hc hq2 hq3 hqn hqc HIL;obtain⟨z1,kn,en,ekn,hbn,hkn,HBn⟩:=newV w #[.int .i64 u.k,.bool (decide (u.n.z<0)),.slice u.n.o u.n.l u.n.c,.string u.nm,.slice u.ko u.kl u.kc,.slice (some qa) 1 qc,.bool q] 167;have n0:=cell_at (v:=.int .i64 u.k) HBn.out 0 rfl;have HS1:=Lib.hid (HS.out.below hbn.out);have HT1:=Lib.hid (Stp.of_below (B:=B) (k:=k) hbn.out);have hgn:g≠kn:=by have h1:=World.block_lt_of_cell? _ _ c0;have h2:=ekn;intro h3;change g<_ at h1;omega
 have HNO:Hid (NO B k z1 kn):=Lib.hid (NO.local_ ((hbn.out.block k (lt_of_block HBK.out)).trans HBK.out) hgn HBn.out (by decide));clear hgn;go_enter Tryz.func72,Tryz.ntmps72;have hl:Hid (factsF X=[leF (scF X.num X) x0,leF x0 (addF (scF X.num X) (nF (X.num - 1)))]):=Lib.hid (by unfold factsF;rw[if_neg (show ¬ X.op=8 by rw[HO.out];decide),if_neg (show ¬ X.op=9 by rw[HO.out];decide),if_neg (show ¬ X.op=10 by rw[HO.out];decide),if_neg (show ¬ X.op=11 by rw[HO.out];decide),if_neg (show ¬ X.op=7 by rw[HO.out];decide),if_pos HO.out];rw[hk0]);have HK:Hid (CI w (.agg #[.bool (decide (u.n.z<0)),.slice u.n.o u.n.l u.n.c]) X.num 600):=by
  obtain⟨⟨f1,f2,f3,f4⟩,f5,-⟩:=HFT.out;rw[<-f3];exact Lib.hid f5
 clear hk0;go_upto_region 14 with fail;have HNE:Hid (∀ i j,i<9->j<9->i≠j->(fun i=>i+95) i≠(fun i=>i+95) j):=Lib.hid (fun i j _ _ h e=>h (Nat.add_right_cancel e));have HL9:Hid (∀ i,i<9->(fun i=>i+95) i<104):=Lib.hid (fun i h=>by show i+95<104;omega)
 refine Rel9.region (by kernel_rfl) [[],[],[],[2],[2,3],[2,3,4],[],[6],[6,7],[0,1,2,3,4,5,6,7,8],[0,1,2,3,4,5,6,7,8,9]] 9 (by kernel_rfl) (by kernel_rfl) (JX B k E L z1 s _ 9 (fun i=>i+95) (fun i=>[0,0,0,0,0,0,0,0,0].getD i 0) (fdF B k E [.eqv (.pointer (some ⟨k,0,none⟩)),.eqv (.int .i64 ((i:Nat):Int)),.eqv (.pointer (some ⟨kn,5,none⟩)),.eqv (.slice (some qa) 1 qc),.eqv (.pointer (some qa)),.eqv (.int .i64 ((idx s x0:Nat):Int)),.eqv (.pointer (some ⟨kn,0,none⟩)),.eqv (.pointer (some ⟨kn,1,none⟩)),.eqv (.agg #[.bool (decide (u.n.z<0)),.slice u.n.o u.n.l u.n.c])])) (JF.start HS1.out) ?_ ?_
 ·rintro d T wc n9 o ⟨s9,hJ⟩ ho hi hd hdep hcl;have hstep:=fun (v:Value) (s8:List F) (w2:World)=>hJ.step (v:=v) (s':=s8) (w':=w2) (fdF_st (B:=B) (k:=k) (E:=E) _) HNE.out (fun i hi=>Nat.lt_of_lt_of_le (HL9.out i hi) (of_decide_eq_true rfl)) n9 hi hd
  have HST9:=Lib.hid hJ.st;have m0:T[0]?=some (.pointer (some ⟨k,0,none⟩)):=(hJ.oth 0 (by decide)).trans (by rfl);have m1:T[1]?=some (.int .i64 ((i:Nat):Int)):=(hJ.oth 1 (by decide)).trans (by rfl);obtain rfl | rfl | rfl | rfl | rfl | rfl | rfl | rfl | rfl:n9=0\/n9=1\/n9=2\/n9=3\/n9=4\/n9=5\/n9=6\/n9=7\/n9=8:=by omega
  all_goals (injection ho with ho)
  all_goals (subst ho)
  all_goals (try (clear hJ hdep hcl;refine⟨rfl,fun K9 hK=>?_⟩;have HST:=Lib.hid hstep;clear hstep;go_simp;exact hK.out _ _ (HST.out _ _ _ HST9.out ((Ext.refl _).up (Nat.zero_le _)) (Stp.refl _ _ _) rfl)))
  ·have es:T[5]?=some (.pointer (some ⟨kn,0,none⟩)):=(hJ.oth 5 (by decide)).trans (by rfl);clear hJ hdep hcl;refine⟨rfl,fun K9 hK=>?_⟩;have HST:=Lib.hid hstep;clear hstep;go_simp;exact hK.out _ _ (HST.out _ _ _ HST9.out ((Ext.refl _).up (Nat.zero_le _)) (Stp.refl _ _ _) rfl)
  ·have e97:=hJ.vE 2 97 rfl (by decide) (hdep 2 (by rfl)) (fun _ h=>h);have HBE:=Lib.hid hJ.be;have n5:=cell_at (v:=.slice (some qa) 1 qc) ((HBE.out.block kn (lt_of_block HBn.out) HNO.out).trans HBn.out) 5 rfl;clear hJ hdep hcl;refine⟨rfl,fun K9 hK=>?_⟩;have HST:=Lib.hid hstep;clear hstep;go_simp;exact hK.out _ _ (HST.out _ _ _ HST9.out ((Ext.refl _).up (Nat.zero_le _)) (Stp.refl _ _ _) rfl)
  ·have e98:=hJ.vE 3 98 rfl (by decide) (hdep 3 (by rfl)) (fun _ h=>h);clear hJ hdep hcl;refine⟨rfl,fun K9 hK=>?_⟩;have HST:=Lib.hid hstep;clear hstep;go_simp;exact hK.out _ _ (HST.out _ _ _ HST9.out ((Ext.refl _).up (Nat.zero_le _)) (Stp.refl _ _ _) rfl)
  ·have e99:=hJ.vE 4 99 rfl (by decide) (hdep 4 (by rfl)) (fun _ h=>h);have HBE:=Lib.hid hJ.be;have cq:wc.cell? qa=some (.int .i64 ((idx s x0:Nat):Int)):=by rw[cell_keepF (w:=w) (by exact (HT1.out.trans HBE.out).block _ (by have h1:=World.block_lt_of_cell? _ _ HQC.out;exact h1) HQN.out.1.1)];exact HQC.out
   clear hJ hdep hcl;refine⟨rfl,fun K9 hK=>?_⟩;have HST:=Lib.hid hstep;clear hstep;go_simp;exact hK.out _ _ (HST.out _ _ _ HST9.out ((Ext.refl _).up (Nat.zero_le _)) (Stp.refl _ _ _) rfl)
  ·have es:T[5]?=some (.pointer (some ⟨kn,0,none⟩)):=(hJ.oth 5 (by decide)).trans (by rfl);clear hJ hdep hcl;refine⟨rfl,fun K9 hK=>?_⟩;have HST:=Lib.hid hstep;clear hstep;go_simp;exact hK.out _ _ (HST.out _ _ _ HST9.out ((Ext.refl _).up (Nat.zero_le _)) (Stp.refl _ _ _) rfl)
  ·have e101:=hJ.vE 6 101 rfl (by decide) (hdep 6 (by rfl)) (fun _ h=>h);clear hJ hdep hcl;refine⟨rfl,fun K9 hK=>?_⟩;have HST:=Lib.hid hstep;clear hstep;go_simp;exact hK.out _ _ (HST.out _ _ _ HST9.out ((Ext.refl _).up (Nat.zero_le _)) (Stp.refl _ _ _) rfl)
  have e102:=hJ.vE 7 102 rfl (by decide) (hdep 7 (by rfl)) (fun _ h=>h);have HBE:=Lib.hid hJ.be;have n1:=cell_at (v:=.bool (decide (u.n.z<0))) ((HBE.out.block kn (lt_of_block HBn.out) HNO.out).trans HBn.out) 1 rfl;have n2:=cell_at (v:=.slice u.n.o u.n.l u.n.c) ((HBE.out.block kn (lt_of_block HBn.out) HNO.out).trans HBn.out) 2 rfl;clear hJ hdep hcl;refine⟨rfl,fun K9 hK=>?_⟩;have HST:=Lib.hid hstep;clear hstep;go_simp;exact hK.out _ _ (HST.out _ _ _ HST9.out ((Ext.refl _).up (Nat.zero_le _)) (Stp.refl _ _ _) rfl)
 rintro T wt ⟨s9,hJ⟩;have a0:=hJ.vE 0 95 rfl (by decide) rfl (fun _ h=>h);have a1:=hJ.vE 1 96 rfl (by decide) rfl (fun _ h=>h);have a2:=hJ.vE 2 97 rfl (by decide) rfl (fun _ h=>h);have a3:=hJ.vE 3 98 rfl (by decide) rfl (fun _ h=>h);have a4:=hJ.vE 4 99 rfl (by decide) rfl (fun _ h=>h);have a5:=hJ.vE 5 100 rfl (by decide) rfl (fun _ h=>h);have a6:=hJ.vE 6 101 rfl (by decide) rfl (fun _ h=>h);have a7:=hJ.vE 7 102 rfl (by decide) rfl (fun _ h=>h);have a8:=hJ.vE 8 103 rfl (by decide) rfl (fun _ h=>h);have hfr:=hJ.fin (fun i hi=>Nat.lt_of_lt_of_le (HL9.out i hi) (of_decide_eq_true rfl)) rfl (.cons a0 (.cons a1 (.cons a2 (.cons a3 (.cons a4 (.cons a5 (.cons a6 (.cons a7 (.cons a8 .nil)))))))));have HST9:=Lib.hid hJ.st;have HEX9:Hid (Ext s s9 0):=Lib.hid hJ.ext;have HBE9:=Lib.hid hJ.be
 clear hJ HNE HL9 a0 a1 a2 a3 a4 a5 a6 a7 a8;rw[hfr];clear hfr;simp only[fillW,Nat.reduceAdd,List.setIfInBounds_toArray,List.set_cons_zero,List.set_cons_succ];simp only[List.drop_succ_cons,List.drop_zero];go_wp2_with fail;refine (quotS_p wt HST9.out (by have:=HM.out;have:=HEX9.out.len;omega) i (idx s x0) X x0 (HEX9.out.get HX.out) (HEX9.out.get HX0.out) X.num _ _ _ _ (CI.kn HK.out (HT1.out.trans HBE9.out).kn) (by rw[<-hl.out];exact HG.out)).mono ?_;intro e y1 hp;obtain⟨v1,l1,s1,rfl,h1,h2,h3,h4,h5⟩:=hp.fac;obtain⟨ro,rc,rfl,-⟩:=id h1;have A1:=Lib.hid h1;have J1:=Lib.hid h2;have S1:=Lib.hid h3;have E1:Hid (Ext s s1 46):=Lib.hid (HEX9.out.trans h4 (by omega));have T1:=Lib.hid ((HT1.out.trans HBE9.out).trans h5);clear h1 h2 h3 h4 h5 hp;go_wp2_with fail;go_ret
 exact⟨_,l1,s1,rfl,A1.out,by rw[hl.out];exact J1.out,S1.out,E1.out,T1.out⟩
theorem facts_mul {B k:Nat} {E:Nat->Prop} {L s:List F} (w:World) (h:St B k E L s w) (hm:s.length+46<=900000) (i:Nat) (X:F) (hx:s[i]?=some X) (hg:∀ t ∈ factsF X,Gd t) (ho:X.op=4) :
  Calls Tryz.prog 72 #[.pointer (some ⟨k,0,none⟩),.int .i64 ((i:Nat):Int)] w (FacPost B k E L s (factsF X) 46 w):=by
 have HS:=Lib.hid h;have HM:=Lib.hid hm;have HX:=Lib.hid hx;have HGX:=Lib.hid (h.good X (List.mem_of_getElem? hx));have HG:=Lib.hid hg;have HO:=Lib.hid ho;clear h hm hx hg ho;obtain⟨km,v,us,M,hU⟩:=HS.out;obtain⟨g,cap,u,qo,ql,qc,q,⟨rfl,hil,hcap,hmx⟩,⟨c0,c1,c2,c3,c4,c5,c6⟩,⟨hft,hop,-⟩,hids,-⟩:=hU.node HX.out;have d1:=cell_at (v:=.slice (some ⟨g,0,none⟩) s.length cap) hU.bk 1 rfl;have hmx':cap<=9223372036854775807:=hmx;have HIL:=Lib.hid hids;have HBK:=Lib.hid hU.bk;have e8:(u.k==8)=false:=by rw[hop,HO.out];rfl
 have e9:(u.k==9)=false:=by rw[hop,HO.out];rfl
 have e10:(u.k==10)=false:=by rw[hop,HO.out];rfl
 have e11:(u.k==11)=false:=by rw[hop,HO.out];rfl
 have e7:(u.k==7)=false:=by rw[hop,HO.out];rfl
 have e5:(u.k==5)=false:=by rw[hop,HO.out];rfl
 have e4:(u.k==4)=true:=by rw[hop,HO.out];rfl
 clear hU hids hop hft;obtain⟨x0,x1,hk1⟩:=kids4 HGX.out.1 HO.out;have hIL:=HIL.out;rw[hk1] at hIL;obtain⟨ko',kc',ee,⟨hq1,hq2,hq3⟩,hc⟩:=hIL;injection ee with ea eb ec;replace eb:ql=2:=eb;subst ea;subst eb;subst ec;obtain⟨qa,rfl,hqn,hqc⟩:=hc 0 (by simp);replace hqc:w.cell? qa=some (.int .i64 ((idx s x0:Nat):Int)):=hqc;replace hq1:2<=qc:=hq1;have hq2':qc<=9223372036854775807:=hq2;have HQN:=Lib.hid hqn;have HQC:=Lib.hid hqc;have HX0:Hid (s[idx s x0]?=some x0):=Lib.hid (idx_get (HS.out.cl' X (List.mem_of_getElem? HX.out) x0 (by rw[hk1];simp)));have hk0:kd X 0=x0:=by unfold kd;rw[hk1];rfl
 obtain⟨qa2,hqa2,hqn2,hqc2⟩:=hc 1 (by simp);injection hqa2 with hqa2;subst hqa2;replace hqc2:w.cell? (qa.add 1)=some (.int .i64 ((idx s x1:Nat):Int)):=hqc2;have HQD:=Lib.hid hqc2;have HX1:Hid (s[idx s x1]?=some x1):=Lib.hid (idx_get (HS.out.cl' X (List.mem_of_getElem? HX.out) x1 (by rw[hk1];simp)));have hk2:kd X 1=x1:=by unfold kd;rw[hk1];rfl
 clear hqn2 hqc2;clear hc hq2 hq3 hqn hqc HIL;obtain⟨z1,kn,en,ekn,hbn,hkn,HBn⟩:=newV w #[.int .i64 u.k,.bool (decide (u.n.z<0)),.slice u.n.o u.n.l u.n.c,.string u.nm,.slice u.ko u.kl u.kc,.slice (some qa) 2 qc,.bool q] 167;have n0:=cell_at (v:=.int .i64 u.k) HBn.out 0 rfl;have HS1:=Lib.hid (HS.out.below hbn.out);have HT1:=Lib.hid (Stp.of_below (B:=B) (k:=k) hbn.out);have hgn:g≠kn:=by have h1:=World.block_lt_of_cell? _ _ c0;have h2:=ekn;intro h3;change g<_ at h1;omega
 have HNO:Hid (NO B k z1 kn):=Lib.hid (NO.local_ ((hbn.out.block k (lt_of_block HBK.out)).trans HBK.out) hgn HBn.out (by decide));clear hgn;go_enter Tryz.func72,Tryz.ntmps72;have hl:Hid (factsF X=prodF X x0 x1):=Lib.hid (by unfold factsF;rw[if_neg (show ¬ X.op=8 by rw[HO.out];decide),if_neg (show ¬ X.op=9 by rw[HO.out];decide),if_neg (show ¬ X.op=10 by rw[HO.out];decide),if_neg (show ¬ X.op=11 by rw[HO.out];decide),if_neg (show ¬ X.op=7 by rw[HO.out];decide),if_neg (show ¬ X.op=5 by rw[HO.out];decide),if_pos HO.out];rw[hk0,hk2]);clear hk0 hk2;go_upto_region 16 with fail;have HNE:Hid (∀ i j,i<10->j<10->i≠j->(fun i=>i+107) i≠(fun i=>i+107) j):=Lib.hid (fun i j _ _ h e=>h (Nat.add_right_cancel e));have HL9:Hid (∀ i,i<10->(fun i=>i+107) i<117):=Lib.hid (fun i h=>by show i+107<117;omega)
 refine Rel9.region (by kernel_rfl) [[],[],[],[2],[2,3],[2,3,4],[],[6],[6,7],[6,7,8],[0,1,2,3,4,5,6,7,8,9],[0,1,2,3,4,5,6,7,8,9,10]] 10 (by kernel_rfl) (by kernel_rfl) (JX B k E L z1 s _ 10 (fun i=>i+107) (fun i=>[0,0,0,0,0,0,0,0,0,0].getD i 0) (fdF B k E [.eqv (.pointer (some ⟨k,0,none⟩)),.eqv (.int .i64 ((i:Nat):Int)),.eqv (.pointer (some ⟨kn,5,none⟩)),.eqv (.slice (some qa) 2 qc),.eqv (.pointer (some qa)),.eqv (.int .i64 ((idx s x0:Nat):Int)),.eqv (.pointer (some ⟨kn,5,none⟩)),.eqv (.slice (some qa) 2 qc),.eqv (.pointer (some (qa.add 1))),.eqv (.int .i64 ((idx s x1:Nat):Int))])) (JF.start HS1.out) ?_ ?_
 ·rintro d T wc n9 o ⟨s9,hJ⟩ ho hi hd hdep hcl;have hstep:=fun (v:Value) (s8:List F) (w2:World)=>hJ.step (v:=v) (s':=s8) (w':=w2) (fdF_st (B:=B) (k:=k) (E:=E) _) HNE.out (fun i hi=>Nat.lt_of_lt_of_le (HL9.out i hi) (of_decide_eq_true rfl)) n9 hi hd
  have HST9:=Lib.hid hJ.st;have m0:T[0]?=some (.pointer (some ⟨k,0,none⟩)):=(hJ.oth 0 (by decide)).trans (by rfl);have m1:T[1]?=some (.int .i64 ((i:Nat):Int)):=(hJ.oth 1 (by decide)).trans (by rfl);obtain rfl | rfl | rfl | rfl | rfl | rfl | rfl | rfl | rfl | rfl:n9=0\/n9=1\/n9=2\/n9=3\/n9=4\/n9=5\/n9=6\/n9=7\/n9=8\/n9=9:=by omega
  all_goals (injection ho with ho)
  all_goals (subst ho)
  all_goals (try (clear hJ hdep hcl;refine⟨rfl,fun K9 hK=>?_⟩;have HST:=Lib.hid hstep;clear hstep;go_simp;exact hK.out _ _ (HST.out _ _ _ HST9.out ((Ext.refl _).up (Nat.zero_le _)) (Stp.refl _ _ _) rfl)))
  ·have es:T[5]?=some (.pointer (some ⟨kn,0,none⟩)):=(hJ.oth 5 (by decide)).trans (by rfl);clear hJ hdep hcl;refine⟨rfl,fun K9 hK=>?_⟩;have HST:=Lib.hid hstep;clear hstep;go_simp;exact hK.out _ _ (HST.out _ _ _ HST9.out ((Ext.refl _).up (Nat.zero_le _)) (Stp.refl _ _ _) rfl)
  ·have e109:=hJ.vE 2 109 rfl (by decide) (hdep 2 (by rfl)) (fun _ h=>h);have HBE:=Lib.hid hJ.be;have n5:=cell_at (v:=.slice (some qa) 2 qc) ((HBE.out.block kn (lt_of_block HBn.out) HNO.out).trans HBn.out) 5 rfl;clear hJ hdep hcl;refine⟨rfl,fun K9 hK=>?_⟩;have HST:=Lib.hid hstep;clear hstep;go_simp;exact hK.out _ _ (HST.out _ _ _ HST9.out ((Ext.refl _).up (Nat.zero_le _)) (Stp.refl _ _ _) rfl)
  ·have e110:=hJ.vE 3 110 rfl (by decide) (hdep 3 (by rfl)) (fun _ h=>h);clear hJ hdep hcl;refine⟨rfl,fun K9 hK=>?_⟩;have HST:=Lib.hid hstep;clear hstep;go_simp;exact hK.out _ _ (HST.out _ _ _ HST9.out ((Ext.refl _).up (Nat.zero_le _)) (Stp.refl _ _ _) rfl)
  ·have e111:=hJ.vE 4 111 rfl (by decide) (hdep 4 (by rfl)) (fun _ h=>h);have HBE:=Lib.hid hJ.be;have cq:wc.cell? qa=some (.int .i64 ((idx s x0:Nat):Int)):=by rw[cell_keepF (w:=w) (by exact (HT1.out.trans HBE.out).block _ (by have h1:=World.block_lt_of_cell? _ _ HQC.out;exact h1) HQN.out.1.1)];exact HQC.out
   clear hJ hdep hcl;refine⟨rfl,fun K9 hK=>?_⟩;have HST:=Lib.hid hstep;clear hstep;go_simp;exact hK.out _ _ (HST.out _ _ _ HST9.out ((Ext.refl _).up (Nat.zero_le _)) (Stp.refl _ _ _) rfl)
  ·have es:T[5]?=some (.pointer (some ⟨kn,0,none⟩)):=(hJ.oth 5 (by decide)).trans (by rfl);clear hJ hdep hcl;refine⟨rfl,fun K9 hK=>?_⟩;have HST:=Lib.hid hstep;clear hstep;go_simp;exact hK.out _ _ (HST.out _ _ _ HST9.out ((Ext.refl _).up (Nat.zero_le _)) (Stp.refl _ _ _) rfl)
  ·have e113:=hJ.vE 6 113 rfl (by decide) (hdep 6 (by rfl)) (fun _ h=>h);have HBE:=Lib.hid hJ.be;have n5:=cell_at (v:=.slice (some qa) 2 qc) ((HBE.out.block kn (lt_of_block HBn.out) HNO.out).trans HBn.out) 5 rfl;clear hJ hdep hcl;refine⟨rfl,fun K9 hK=>?_⟩;have HST:=Lib.hid hstep;clear hstep;go_simp;exact hK.out _ _ (HST.out _ _ _ HST9.out ((Ext.refl _).up (Nat.zero_le _)) (Stp.refl _ _ _) rfl)
  ·have e114:=hJ.vE 7 114 rfl (by decide) (hdep 7 (by rfl)) (fun _ h=>h);clear hJ hdep hcl;refine⟨rfl,fun K9 hK=>?_⟩;have HST:=Lib.hid hstep;clear hstep;go_simp;exact hK.out _ _ (HST.out _ _ _ HST9.out ((Ext.refl _).up (Nat.zero_le _)) (Stp.refl _ _ _) rfl)
  have e115:=hJ.vE 8 115 rfl (by decide) (hdep 8 (by rfl)) (fun _ h=>h);have HBE:=Lib.hid hJ.be;have cq:wc.cell? (qa.add 1)=some (.int .i64 ((idx s x1:Nat):Int)):=by rw[cell_keepF (w:=w) (by rw[add_blockV];exact (HT1.out.trans HBE.out).block _ (by have h1:=World.block_lt_of_cell? _ _ HQD.out;rw[add_blockV] at h1;exact h1) HQN.out.1.1)];exact HQD.out
  replace cq:wc.cell? { block:=qa.block,off:=qa.off+1 }=some (.int .i64 ((idx s x1:Nat):Int)):=cq;clear hJ hdep hcl;refine⟨rfl,fun K9 hK=>?_⟩;have HST:=Lib.hid hstep;clear hstep;go_simp;exact hK.out _ _ (HST.out _ _ _ HST9.out ((Ext.refl _).up (Nat.zero_le _)) (Stp.refl _ _ _) rfl)
 rintro T wt ⟨s9,hJ⟩;have a0:=hJ.vE 0 107 rfl (by decide) rfl (fun _ h=>h);have a1:=hJ.vE 1 108 rfl (by decide) rfl (fun _ h=>h);have a2:=hJ.vE 2 109 rfl (by decide) rfl (fun _ h=>h);have a3:=hJ.vE 3 110 rfl (by decide) rfl (fun _ h=>h);have a4:=hJ.vE 4 111 rfl (by decide) rfl (fun _ h=>h);have a5:=hJ.vE 5 112 rfl (by decide) rfl (fun _ h=>h);have a6:=hJ.vE 6 113 rfl (by decide) rfl (fun _ h=>h);have a7:=hJ.vE 7 114 rfl (by decide) rfl (fun _ h=>h);have a8:=hJ.vE 8 115 rfl (by decide) rfl (fun _ h=>h);have a9:=hJ.vE 9 116 rfl (by decide) rfl (fun _ h=>h);have hfr:=hJ.fin (fun i hi=>Nat.lt_of_lt_of_le (HL9.out i hi) (of_decide_eq_true rfl)) rfl (.cons a0 (.cons a1 (.cons a2 (.cons a3 (.cons a4 (.cons a5 (.cons a6 (.cons a7 (.cons a8 (.cons a9 .nil))))))))));have HST9:=Lib.hid hJ.st
 have HEX9:Hid (Ext s s9 0):=Lib.hid hJ.ext;have HBE9:=Lib.hid hJ.be;clear hJ HNE HL9 a0 a1 a2 a3 a4 a5 a6 a7 a8 a9;rw[hfr];clear hfr;simp only[fillW,Nat.reduceAdd,List.setIfInBounds_toArray,List.set_cons_zero,List.set_cons_succ];simp only[List.drop_succ_cons,List.drop_zero];go_wp2_with fail;refine (prodS_p wt HST9.out (by have:=HM.out;have:=HEX9.out.len;omega) i (idx s x0) (idx s x1) X x0 x1 (HEX9.out.get HX.out) (HEX9.out.get HX0.out) (HEX9.out.get HX1.out) (by rw[<-hl.out];exact HG.out)).mono ?_;intro e y1 hp;obtain⟨v1,l1,s1,rfl,h1,h2,h3,h4,h5⟩:=hp.fac;obtain⟨ro,rc,rfl,-⟩:=id h1;have A1:=Lib.hid h1;have J1:=Lib.hid h2;have S1:=Lib.hid h3;have E1:Hid (Ext s s1 46):=Lib.hid (HEX9.out.trans h4 (by omega));have T1:=Lib.hid ((HT1.out.trans HBE9.out).trans h5);clear h1 h2 h3 h4 h5 hp;go_wp2_with fail
 go_ret;exact⟨_,l1,s1,rfl,A1.out,by rw[hl.out];exact J1.out,S1.out,E1.out,T1.out⟩
section
variable {B k:Nat} {E E1:Nat->Prop} {w w':World}
theorem NS.grow (hk:Stp B k w w') (hE:∀ g,E1 g->E g\/w.heap.size<=g) {g:Nat} (hl:g<w.heap.size) (h:NS B k E w g):NS B k E1 w' g:=
 ⟨hk.no hl h.1,fun he=>by rcases hE g he with h9 | h9;exact h.2 h9;omega⟩
theorem IL.grow {v:Value} {l:List Nat} (h:IL B k E w v l) (hk:Stp B k w w') (hE:∀ g,E1 g->E g\/w.heap.size<=g):IL B k E1 w' v l:=by
 obtain⟨ko,kc,e,h1,h2⟩:=h;refine⟨ko,kc,e,h1,fun j hj=>?_⟩;obtain⟨a,ha,hn,hc⟩:=h2 j hj;have hl:=World.block_lt_of_cell? w _ hc;rw[add_blockV] at hl;have hs:=hk.block _ hl hn.1.1;exact⟨a,ha,⟨NS.grow hk hE hl hn.1,by obtain⟨c,hc'⟩:=hn.2;exact⟨c,hs.trans hc'⟩⟩,by rw[cell_keepF (w:=w) (by rw[add_blockV];exact hs)];exact hc⟩
theorem FC.grow {d:Nat} {v:Value} {t:F} (h:FC w (NS B k E w) d v t) (hk:Stp B k w w') (hE:∀ g,E1 g->E g\/w.heap.size<=g):FC w' (NS B k E1 w') d v t:=by
 obtain⟨u,h1,h2⟩:=h;exact⟨u,h1,((h2.lt).keep (fun g hg=>hk.block g hg.2 hg.1.1) hk.kn).mono fun g hg=>NS.grow hk hE hg.2 hg.1⟩
theorem FL.grow {d:Nat} {v:Value} {ts:List F} (h:FL w (NS B k E w) d v ts) (hk:Stp B k w w') (hE:∀ g,E1 g->E g\/w.heap.size<=g):FL w' (NS B k E1 w') d v ts:=by
 obtain⟨el,h1,h2⟩:=h;exact⟨el,(Es.At.keep (fun g hg=>hk.block g hg.2 hg.1.1) hk.kn h1.lt).mono (fun g hg=>NS.grow hk hE hg.2 hg.1),h2⟩
end
theorem idR_low {B0 B1:Nat} {w:World} {v:Value} {l:List Nat} (h:idR.Row w B1 v l) (hb:B0<=B1):idR.Row w B0 v l:=by
 obtain⟨⟨h1,h2⟩,h3,h4⟩:=h;refine⟨⟨h1,?_⟩,h3,h4⟩;rcases h2 with h2 | ⟨g,cap,cur,e1,e2,e3,e4⟩
 ·exact .inl h2
 exact .inr ⟨g,cap,cur,e1,Nat.le_trans hb e2,e3,e4⟩
inductive FG where
 | fd (x:FD)
 | row (B0:Nat) (ts:List F)
def FG.holds (B k:Nat) (E:Nat->Prop):FG->Value->List F->World->Prop
 | .fd x,v,s,w=>x.holds B k E v s w
 | .row B0 ts,v,s,w=>∃ ids,idR.Row w B0 v ids/\ids.map (fun i=>s[i]?)=ts.map some/\∀ g,v.ownBlock=some g->E g
def fdG (B k:Nat) (E:Nat->Prop) (l:List FG) (j:Nat) (v:Value) (s:List F) (w:World):Prop:=(l.getD j (.fd .any)).holds B k E v s w
theorem fdG_st {B k:Nat} {E E1:Nat->Prop} (l:List FG) {w w':World} (hEE:∀ g,E g->E1 g) (hE:∀ g,E1 g->E g\/w.heap.size<=g):∀ j v (s s':List F),(∃ c,Ext s s' c)->Stp B k w w'->fdG B k E l j v s w->fdG B k E1 l j v s' w':=by
 rintro j v s s' ⟨c,he⟩ hb h;unfold fdG at h ⊢;cases hd:l.getD j (.fd .any) with
 | row B0 ts =>
  rw[hd] at h;obtain⟨ids,h1,h2,h3⟩:=h;exact⟨ids,idR_stp h1 hb,ids_ext he h2,fun g hg=>hEE g (h3 g hg)⟩
 | fd x =>
  rw[hd] at h;cases x with
  | any=>trivial
  | eqv x=>exact h
  | idf t=>exact IdF.ext h he
  | idl ts=>obtain⟨ids,h1,h2⟩:=h;exact⟨ids,h1.grow hb hE,ids_ext he h2⟩
  | blk t=>exact BlkF.ext h he hb
  | fl ts=>exact FL.grow h hb hE
  | fc t=>exact FC.grow h hb hE
  | ci z n=>exact CI.kn h hb.kn
section
variable {B k:Nat} {E E1:Nat->Prop} {L:List F} {W0:World} {s0:List F} {t0:Array Value} {n:Nat} {sl cost:Nat->Nat} {l:List FG} {d:Nat->Bool} {T:Array Value} {w w':World} {s s':List F}
theorem JF.stepE (h:JF B k E L W0 s0 t0 n sl cost (fdG B k E l) d T w s) (hEE:∀ g,E g->E1 g) (hE:∀ g,E1 g->E g\/w.heap.size<=g) (hne:∀ i j,i<n->j<n->i≠j->sl i≠sl j) (hlt:∀ i,i<n->sl i<t0.size) (i:Nat) (hi:i<n) (hd:d i=false) (v:Value)
  (hst:St B k E1 L s' w') (he:Ext s s' (cost i)) (hb:Stp B k w w') (h1:fdG B k E1 l i v s' w'):∃ s,JF B k E1 L W0 s0 t0 n sl cost (fdG B k E1 l) (Rel9.upd d i) (T.setIfInBounds (sl i) v) w' s:=by
 have hsz:sl i<T.size:=by rw[h.sz];exact hlt i hi
 refine⟨s',hst,h.ext.trans he (by rw[sumD_upd hd,if_pos hi];exact Nat.le_refl _),h.be.trans hb,by rw[Array.size_setIfInBounds,h.sz],fun j hj=>?_,fun j hj hu=>?_⟩
 ·rw[set_ne (hj i hi)];exact h.oth j hj
 by_cases hki:j=i
 ·subst hki;exact⟨v,set_eq hsz,h1⟩
 rw[upd_ne' hki] at hu;obtain⟨x,hx,hf⟩:=h.val j hj hu;exact⟨x,by rw[set_ne (hne j i hj hi hki)];exact hx,fdG_st l hEE hE j x s s' ⟨_,he⟩ hb hf⟩
def JXE (B k:Nat) (E:Nat->Prop) (L:List F) (W0:World) (s0:List F) (t0:Array Value) (n:Nat) (sl cost:Nat->Nat) (l:List FG) (d:Nat->Bool) (T:Array Value) (w:World):Prop:=∃ E1 s,(∀ g,E g->E1 g)/\JF B k E1 L W0 s0 t0 n sl cost (fdG B k E1 l) d T w s
theorem JF.stepX {E0:Nat->Prop} (h:JF B k E L W0 s0 t0 n sl cost (fdG B k E l) d T w s) (h0:∀ g,E0 g->E g) (hne:∀ i j,i<n->j<n->i≠j->sl i≠sl j) (hlt:∀ i,i<n->sl i<t0.size) (i:Nat) (hi:i<n) (hd:d i=false) (E8:Nat->Prop) (hEE:∀ g,E g->E8 g) (hE8:∀ g,E8 g->E g\/w.heap.size<=g) (v:Value) (s8:List F) (w2:World)
  (p1:St B k E8 L s8 w2) (p2:Ext s s8 (cost i)) (p3:Stp B k w w2) (p4:fdG B k E8 l i v s8 w2):JXE B k E0 L W0 s0 t0 n sl cost l (Rel9.upd d i) (T.setIfInBounds (sl i) v) w2:=by
 obtain⟨s88,h88⟩:=h.stepE hEE hE8 hne hlt i hi hd v p1 p2 p3 p4;exact⟨E8,s88,fun g hg=>hEE g (h0 g hg),h88⟩
theorem JXE.start (h:St B k E L s0 W0):JXE B k E L W0 s0 t0 n sl cost l (fun _=>false) t0 W0.drew:=by
 obtain⟨s,h⟩:=JF.start (n:=n) (sl:=sl) (cost:=cost) (Fk:=fdG B k E l) (t0:=t0) h;exact⟨E,s,fun g h=>h,h⟩
end
attribute [local go_sem] fieldV0 fieldV1 fieldV2 fieldV3
theorem facts_cons {B k:Nat} {E:Nat->Prop} {L s:List F} (w:World) (h:St B k E L s w) (hm:s.length+46<=900000) (i:Nat) (X:F) (hx:s[i]?=some X) (hg:∀ t ∈ factsF X,Gd t) (ho:X.op=10) :
  Calls Tryz.prog 72 #[.pointer (some ⟨k,0,none⟩),.int .i64 ((i:Nat):Int)] w (FacPost B k E L s (factsF X) 46 w):=by
 have HS:=Lib.hid h;have HM:=Lib.hid hm;have HX:=Lib.hid hx;have HGX:=Lib.hid (h.good X (List.mem_of_getElem? hx));have HG:=Lib.hid hg;have HO:=Lib.hid ho;clear h hm hx hg ho;obtain⟨km,v,us,M,hU⟩:=HS.out;obtain⟨g,cap,u,qo,ql,qc,q,⟨rfl,hil,hcap,hmx⟩,⟨c0,c1,c2,c3,c4,c5,c6⟩,⟨hft,hop,-⟩,hids,-⟩:=hU.node HX.out;have d1:=cell_at (v:=.slice (some ⟨g,0,none⟩) s.length cap) hU.bk 1 rfl;have hmx':cap<=9223372036854775807:=hmx;have HIL:=Lib.hid hids;have HBK:=Lib.hid hU.bk;have HBB:=Lib.hid HS.out.bases;have e8:(u.k==8)=false:=by rw[hop,HO.out];rfl
 have e9:(u.k==9)=false:=by rw[hop,HO.out];rfl
 have e10:(u.k==10)=true:=by rw[hop,HO.out];rfl
 clear hU hids hop hft;obtain⟨x0,x1,hk1⟩:=kids2 HGX.out.1 HO.out;have hIL:=HIL.out;rw[hk1] at hIL;obtain⟨ko',kc',ee,⟨hq1,hq2,hq3⟩,hc⟩:=hIL;injection ee with ea eb ec;replace eb:ql=2:=eb;subst ea;subst eb;subst ec;obtain⟨qa,rfl,hqn,hqc⟩:=hc 0 (by simp);replace hqc:w.cell? qa=some (.int .i64 ((idx s x0:Nat):Int)):=hqc;replace hq1:2<=qc:=hq1;have hq2':qc<=9223372036854775807:=hq2;have HQN:=Lib.hid hqn;have HQC:=Lib.hid hqc;have HX0:Hid (s[idx s x0]?=some x0):=Lib.hid (idx_get (HS.out.cl' X (List.mem_of_getElem? HX.out) x0 (by rw[hk1];simp)));have hk0:kd X 0=x0:=by unfold kd;rw[hk1];rfl
 obtain⟨qa2,hqa2,hqn2,hqc2⟩:=hc 1 (by simp);injection hqa2 with hqa2;subst hqa2;replace hqc2:w.cell? (qa.add 1)=some (.int .i64 ((idx s x1:Nat):Int)):=hqc2;have HQD:=Lib.hid hqc2;have HX1:Hid (s[idx s x1]?=some x1):=Lib.hid (idx_get (HS.out.cl' X (List.mem_of_getElem? HX.out) x1 (by rw[hk1];simp)));have hk2:kd X 1=x1:=by unfold kd;rw[hk1];rfl
 clear hqn2 hqc2;clear hc hq2 hq3 hqn hqc HIL;obtain⟨z1,kn,en,ekn,hbn,hkn,HBn⟩:=newV w #[.int .i64 u.k,.bool (decide (u.n.z<0)),.slice u.n.o u.n.l u.n.c,.string u.nm,.slice u.ko u.kl u.kc,.slice (some qa) 2 qc,.bool q] 167;have n0:=cell_at (v:=.int .i64 u.k) HBn.out 0 rfl;have HS1:=Lib.hid (HS.out.below hbn.out);have HT1:=Lib.hid (Stp.of_below (B:=B) (k:=k) hbn.out);have hgn:g≠kn:=by have h1:=World.block_lt_of_cell? _ _ c0;have h2:=ekn;intro h3;change g<_ at h1;omega
 have HNO:Hid (NO B k z1 kn):=Lib.hid (NO.local_ ((hbn.out.block k (lt_of_block HBK.out)).trans HBK.out) hgn HBn.out (by decide));clear hgn;go_enter Tryz.func72,Tryz.ntmps72;have hl:Hid (factsF X=lensF X++[eqfF (hdF X) x0,eqfF (tlF X) x1]):=Lib.hid (by unfold factsF;rw[if_neg (show ¬ X.op=8 by rw[HO.out];decide),if_neg (show ¬ X.op=9 by rw[HO.out];decide),if_pos HO.out];rw[hk0,hk2]);have GL:Hid (∀ t ∈ lensF X,Gd t):=Lib.hid (fun t ht=>HG.out t (by rw[hl.out];simp[ht]));have G1:=Lib.hid (HG.out (eqfF (hdF X) x0) (by rw[hl.out];simp));have G2:=Lib.hid (HG.out (eqfF (tlF X) x1) (by rw[hl.out];simp));have G3:=Lib.hid (gd_kid G1.out (x:=hdF X) (by simp[eqfF,fo,F.kids]));have G4:=Lib.hid (gd_kid G2.out (x:=tlF X) (by simp[eqfF,fo,F.kids]));clear hk0 hk2;go_upto_region 8 with fail
 have HNE:Hid (∀ i j,i<23->j<23->i≠j->(fun i=>i+33) i≠(fun i=>i+33) j):=Lib.hid (fun i j _ _ h e=>h (Nat.add_right_cancel e));have HL9:Hid (∀ i,i<23->(fun i=>i+33) i<56):=Lib.hid (fun i h=>by show i+33<56;omega)
 refine Rel9.region (by kernel_rfl) [[],[],[0,1],[],[],[],[5],[0,1,2,4,5,6],[],[8],[8,9],[8,9,10],[0,1,2,3,4,5,6,7,8,9,10,11],[],[],[],[15],[0,1,2,3,4,5,6,7,8,9,10,11,12,14,15,16],[],[18],[18,19],[18,19,20],[0,1,2,3,4,5,6,7,8,9,10,11,12,13,14,15,16,17,18,19,20,21],[0,1,2,3,4,5,6,7,8,9,10,11,12,13,14,15,16,17,18,19,20,21,22],[0,1,2,3,4,5,6,7,8,9,10,11,12,13,14,15,16,17,18,19,20,21,22,23],[0,1,2,3,4,5,6,7,8,9,10,11,12,13,14,15,16,17,18,19,20,21,22,23,24]] 23 (by kernel_rfl) (by kernel_rfl) (JXE B k E L z1 s _ 23 (fun i=>i+33) (fun i=>[0,0,9,0,0,0,0,1,0,0,0,0,1,0,0,0,0,1,0,0,0,0,1].getD i 0) [.fd (.eqv (.pointer (some ⟨k,0,none⟩))),.fd (.eqv (.int .i64 ((i:Nat):Int))),.row (z1.heap.size) (lensF X),.fd (.eqv (.pointer (some ⟨k,0,none⟩))),.fd (.eqv (.pointer (some ⟨k,0,none⟩))),.fd (.eqv (.int .i64 ((i:Nat):Int))),.fd (.idl [X]),.fd (.idf (hdF X)),.fd (.eqv (.pointer (some ⟨kn,5,none⟩))),.fd (.eqv (.slice (some qa) 2 qc)),.fd (.eqv (.pointer (some qa))),.fd (.eqv (.int .i64 ((idx s x0:Nat):Int))),.fd (.idf (eqfF (hdF X) x0)),.fd (.eqv (.pointer (some ⟨k,0,none⟩))),.fd (.eqv (.pointer (some ⟨k,0,none⟩))),.fd (.eqv (.int .i64 ((i:Nat):Int))),.fd (.idl [X]),.fd (.idf (tlF X)),.fd (.eqv (.pointer (some ⟨kn,5,none⟩))),.fd (.eqv (.slice (some qa) 2 qc)),.fd (.eqv (.pointer (some (qa.add 1)))),.fd (.eqv (.int .i64 ((idx s x1:Nat):Int))),.fd (.idf (eqfF (tlF X) x1))]) (JXE.start HS1.out) ?_ ?_
 ·rintro d T wc n9 o ⟨E9,s9,hE9,hJ⟩ ho hi hd hdep hcl;have hstepE:=hJ.stepX hE9 HNE.out (fun i hi=>Nat.lt_of_lt_of_le (HL9.out i hi) (of_decide_eq_true rfl)) n9 hi hd;have hstep:=hstepE E9 (fun g h=>h) (fun g h=>.inl h);have HST9:=Lib.hid hJ.st;have HROOM:=Lib.hid (hJ.room n9 hi hd (N:=900000) (show s.length+13<=900000 from by have:=HM.out;omega));have m0:T[0]?=some (.pointer (some ⟨k,0,none⟩)):=(hJ.oth 0 (by decide)).trans (by rfl);have m1:T[1]?=some (.int .i64 ((i:Nat):Int)):=(hJ.oth 1 (by decide)).trans (by rfl)
  obtain rfl | rfl | rfl | rfl | rfl | rfl | rfl | rfl | rfl | rfl | rfl | rfl | rfl | rfl | rfl | rfl | rfl | rfl | rfl | rfl | rfl | rfl | rfl:n9=0\/n9=1\/n9=2\/n9=3\/n9=4\/n9=5\/n9=6\/n9=7\/n9=8\/n9=9\/n9=10\/n9=11\/n9=12\/n9=13\/n9=14\/n9=15\/n9=16\/n9=17\/n9=18\/n9=19\/n9=20\/n9=21\/n9=22:=by omega
  all_goals (injection ho with ho)
  all_goals (subst ho)
  all_goals (try (clear hJ hdep hcl;refine⟨rfl,fun K9 hK=>?_⟩;have HST:=Lib.hid hstep;clear hstep;go_simp;exact hK.out _ _ (HST.out _ _ _ HST9.out ((Ext.refl _).up (Nat.zero_le _)) (Stp.refl _ _ _) rfl)))
  ·have e33:=hJ.vE 0 33 rfl (by decide) (hdep 0 (by rfl)) (fun _ h=>h);have e34:=hJ.vE 1 34 rfl (by decide) (hdep 1 (by rfl)) (fun _ h=>h);have HEXT:=Lib.hid hJ.ext;have HBE:=Lib.hid hJ.be;clear hJ hdep hcl;refine⟨rfl,fun K9 hK=>?_⟩;clear hstep;have HSTE:=Lib.hid hstepE;clear hstepE;go_simp;refine (lensS_p wc HST9.out HROOM.out i X (HEXT.out.get HX.out) GL.out).mono ?_;rintro e w8 ⟨v8,l8,s8,rfl,p1,p2,p3,p4,p5⟩;exact hK.out _ _ (HSTE.out (fun g=>E9 g\/v8.ownBlock=some g) (fun g h=>.inl h) (fun g h=>h.elim .inl (fun h=>.inr (p1.ge h).1)) v8 s8 w8 p3 p4 p5 ⟨l8,idR_low p1 HBE.out.size,p2,fun g h=>.inr h⟩)
  ·have e38:=hJ.vE 5 38 rfl (by decide) (hdep 5 (by rfl)) (fun _ h=>h);have HEXT:=Lib.hid hJ.ext;clear hJ hdep hcl;refine⟨rfl,fun K9 hK=>?_⟩;have HST:=Lib.hid hstep;clear hstep;clear hstepE;go_simp;have hal:Below wc.heap.size wc (wc.alloc _):=(Below.refl _ _).alloc (Nat.le_refl _) (.cells #[.int .i64 ((i:Nat):Int)] 116);exact hK.out _ _ (HST.out _ _ _ (HST9.out.below hal) ((Ext.refl _).up (Nat.zero_le _)) (.of_below hal) ⟨[i],IL.block (l:=[i]) (cs:=[.int .i64 ((i:Nat):Int)]) (show (wc.alloc (.cells #[.int .i64 ((i:Nat):Int)] 116)).heap[wc.heap.size]?=some (.cells [.int .i64 ((i:Nat):Int)].toArray 116 (0,0)) from heap_alloc_new wc _) (by decide) (HST9.out.fresh (Nat.le_refl _)) (by show 1<=maxLen;decide) rfl,by simp only[List.map_cons,List.map_nil,HEXT.out.get HX.out]⟩)
  ·have e37:=hJ.vE 4 37 rfl (by decide) (hdep 4 (by rfl)) (fun _ h=>h);obtain⟨v6,e39,f6⟩:=hJ.val 6 (by decide) (hdep 6 (by rfl));obtain⟨l6,f6a,h6⟩:=(show IdL B k E9 v6 [X] s9 wc from f6);obtain⟨q6o,q6c,g6,-⟩:=id f6a;rw[g6] at e39 f6a;replace e39:T[39]?=_:=e39;have A6:=Lib.hid f6a;have H6:=Lib.hid h6;clear f6 f6a h6 g6;clear hJ hdep hcl;refine⟨rfl,fun K9 hK=>?_⟩;have HST:=Lib.hid hstep;clear hstep;clear hstepE;go_simp;refine (ofS_p wc HST9.out HROOM.out 7 ⟨by decide,by decide⟩ _ l6 A6.out [X] H6.out G3.out).mono ?_;rintro e w8 ⟨i8,s8,rfl,p1,p2,p3,p4⟩;exact hK.out _ _ (HST.out _ _ _ p1 p2 p4 ⟨i8,rfl,p3⟩)
  ·have es:T[5]?=some (.pointer (some ⟨kn,0,none⟩)):=(hJ.oth 5 (by decide)).trans (by rfl);clear hJ hdep hcl;refine⟨rfl,fun K9 hK=>?_⟩;have HST:=Lib.hid hstep;clear hstep;clear hstepE;go_simp;exact hK.out _ _ (HST.out _ _ _ HST9.out ((Ext.refl _).up (Nat.zero_le _)) (Stp.refl _ _ _) rfl)
  ·have e41:=hJ.vE 8 41 rfl (by decide) (hdep 8 (by rfl)) (fun _ h=>h);have HBE:=Lib.hid hJ.be;have n5:=cell_at (v:=.slice (some qa) 2 qc) ((HBE.out.block kn (lt_of_block HBn.out) HNO.out).trans HBn.out) 5 rfl;clear hJ hdep hcl;refine⟨rfl,fun K9 hK=>?_⟩;have HST:=Lib.hid hstep;clear hstep;clear hstepE;go_simp;exact hK.out _ _ (HST.out _ _ _ HST9.out ((Ext.refl _).up (Nat.zero_le _)) (Stp.refl _ _ _) rfl)
  ·have e42:=hJ.vE 9 42 rfl (by decide) (hdep 9 (by rfl)) (fun _ h=>h);clear hJ hdep hcl;refine⟨rfl,fun K9 hK=>?_⟩;have HST:=Lib.hid hstep;clear hstep;clear hstepE;go_simp;exact hK.out _ _ (HST.out _ _ _ HST9.out ((Ext.refl _).up (Nat.zero_le _)) (Stp.refl _ _ _) rfl)
  ·have e43:=hJ.vE 10 43 rfl (by decide) (hdep 10 (by rfl)) (fun _ h=>h);have HBE:=Lib.hid hJ.be;have cq:wc.cell? qa=some (.int .i64 ((idx s x0:Nat):Int)):=by rw[cell_keepF (w:=w) (by exact (HT1.out.trans HBE.out).block _ (by have h1:=World.block_lt_of_cell? _ _ HQC.out;exact h1) HQN.out.1.1)];exact HQC.out
   clear hJ hdep hcl;refine⟨rfl,fun K9 hK=>?_⟩;have HST:=Lib.hid hstep;clear hstep;clear hstepE;go_simp;exact hK.out _ _ (HST.out _ _ _ HST9.out ((Ext.refl _).up (Nat.zero_le _)) (Stp.refl _ _ _) rfl)
  ·have e36:=hJ.vE 3 36 rfl (by decide) (hdep 3 (by rfl)) (fun _ h=>h);obtain⟨i7,e40,H7⟩:=hJ.vI 7 40 rfl (by decide) (hdep 7 (by rfl)) (fun _ h=>h);have e44:=hJ.vE 11 44 rfl (by decide) (hdep 11 (by rfl)) (fun _ h=>h);have HEXT:=Lib.hid hJ.ext;clear hJ hdep hcl;refine⟨rfl,fun K9 hK=>?_⟩;have HST:=Lib.hid hstep;clear hstep;clear hstepE;go_simp;refine (sameS_p wc HST9.out HROOM.out i7 (idx s x0) _ _ H7.out (HEXT.out.get HX0.out) G1.out).mono ?_;rintro e w8 ⟨i8,s8,rfl,p1,p2,p3,p4⟩;exact hK.out _ _ (HST.out _ _ _ p1 p2 p4 ⟨i8,rfl,p3⟩)
  ·have e48:=hJ.vE 15 48 rfl (by decide) (hdep 15 (by rfl)) (fun _ h=>h);have HEXT:=Lib.hid hJ.ext;clear hJ hdep hcl;refine⟨rfl,fun K9 hK=>?_⟩;have HST:=Lib.hid hstep;clear hstep;clear hstepE;go_simp;have hal:Below wc.heap.size wc (wc.alloc _):=(Below.refl _ _).alloc (Nat.le_refl _) (.cells #[.int .i64 ((i:Nat):Int)] 116);exact hK.out _ _ (HST.out _ _ _ (HST9.out.below hal) ((Ext.refl _).up (Nat.zero_le _)) (.of_below hal) ⟨[i],IL.block (l:=[i]) (cs:=[.int .i64 ((i:Nat):Int)]) (show (wc.alloc (.cells #[.int .i64 ((i:Nat):Int)] 116)).heap[wc.heap.size]?=some (.cells [.int .i64 ((i:Nat):Int)].toArray 116 (0,0)) from heap_alloc_new wc _) (by decide) (HST9.out.fresh (Nat.le_refl _)) (by show 1<=maxLen;decide) rfl,by simp only[List.map_cons,List.map_nil,HEXT.out.get HX.out]⟩)
  ·have e47:=hJ.vE 14 47 rfl (by decide) (hdep 14 (by rfl)) (fun _ h=>h);obtain⟨v16,e49,f16⟩:=hJ.val 16 (by decide) (hdep 16 (by rfl));obtain⟨l16,f16a,h16⟩:=(show IdL B k E9 v16 [X] s9 wc from f16);obtain⟨q16o,q16c,g16,-⟩:=id f16a;rw[g16] at e49 f16a;replace e49:T[49]?=_:=e49;have A16:=Lib.hid f16a;have H16:=Lib.hid h16;clear f16 f16a h16 g16;clear hJ hdep hcl;refine⟨rfl,fun K9 hK=>?_⟩;have HST:=Lib.hid hstep;clear hstep;clear hstepE;go_simp;refine (ofS_p wc HST9.out HROOM.out 11 ⟨by decide,by decide⟩ _ l16 A16.out [X] H16.out G4.out).mono ?_;rintro e w8 ⟨i8,s8,rfl,p1,p2,p3,p4⟩;exact hK.out _ _ (HST.out _ _ _ p1 p2 p4 ⟨i8,rfl,p3⟩)
  ·have es:T[5]?=some (.pointer (some ⟨kn,0,none⟩)):=(hJ.oth 5 (by decide)).trans (by rfl);clear hJ hdep hcl;refine⟨rfl,fun K9 hK=>?_⟩;have HST:=Lib.hid hstep;clear hstep;clear hstepE;go_simp;exact hK.out _ _ (HST.out _ _ _ HST9.out ((Ext.refl _).up (Nat.zero_le _)) (Stp.refl _ _ _) rfl)
  ·have e51:=hJ.vE 18 51 rfl (by decide) (hdep 18 (by rfl)) (fun _ h=>h);have HBE:=Lib.hid hJ.be;have n5:=cell_at (v:=.slice (some qa) 2 qc) ((HBE.out.block kn (lt_of_block HBn.out) HNO.out).trans HBn.out) 5 rfl;clear hJ hdep hcl;refine⟨rfl,fun K9 hK=>?_⟩;have HST:=Lib.hid hstep;clear hstep;clear hstepE;go_simp;exact hK.out _ _ (HST.out _ _ _ HST9.out ((Ext.refl _).up (Nat.zero_le _)) (Stp.refl _ _ _) rfl)
  ·have e52:=hJ.vE 19 52 rfl (by decide) (hdep 19 (by rfl)) (fun _ h=>h);clear hJ hdep hcl;refine⟨rfl,fun K9 hK=>?_⟩;have HST:=Lib.hid hstep;clear hstep;clear hstepE;go_simp;exact hK.out _ _ (HST.out _ _ _ HST9.out ((Ext.refl _).up (Nat.zero_le _)) (Stp.refl _ _ _) rfl)
  ·have e53:=hJ.vE 20 53 rfl (by decide) (hdep 20 (by rfl)) (fun _ h=>h);have HBE:=Lib.hid hJ.be;have cq:wc.cell? (qa.add 1)=some (.int .i64 ((idx s x1:Nat):Int)):=by rw[cell_keepF (w:=w) (by rw[add_blockV];exact (HT1.out.trans HBE.out).block _ (by have h1:=World.block_lt_of_cell? _ _ HQD.out;rw[add_blockV] at h1;exact h1) HQN.out.1.1)];exact HQD.out
   replace cq:wc.cell? { block:=qa.block,off:=qa.off+1 }=some (.int .i64 ((idx s x1:Nat):Int)):=cq;clear hJ hdep hcl;refine⟨rfl,fun K9 hK=>?_⟩;have HST:=Lib.hid hstep;clear hstep;clear hstepE;go_simp;exact hK.out _ _ (HST.out _ _ _ HST9.out ((Ext.refl _).up (Nat.zero_le _)) (Stp.refl _ _ _) rfl)
  have e46:=hJ.vE 13 46 rfl (by decide) (hdep 13 (by rfl)) (fun _ h=>h);obtain⟨i17,e50,H17⟩:=hJ.vI 17 50 rfl (by decide) (hdep 17 (by rfl)) (fun _ h=>h);have e54:=hJ.vE 21 54 rfl (by decide) (hdep 21 (by rfl)) (fun _ h=>h);have HEXT:=Lib.hid hJ.ext;clear hJ hdep hcl;refine⟨rfl,fun K9 hK=>?_⟩;have HST:=Lib.hid hstep;clear hstep;clear hstepE;go_simp;refine (sameS_p wc HST9.out HROOM.out i17 (idx s x1) _ _ H17.out (HEXT.out.get HX1.out) G2.out).mono ?_;rintro e w8 ⟨i8,s8,rfl,p1,p2,p3,p4⟩;exact hK.out _ _ (HST.out _ _ _ p1 p2 p4 ⟨i8,rfl,p3⟩)
 rintro T wt ⟨E9,s9,hE9,hJ⟩;have a0:=hJ.vE 0 33 rfl (by decide) rfl (fun _ h=>h);have a1:=hJ.vE 1 34 rfl (by decide) rfl (fun _ h=>h);obtain⟨v2,a2,f2⟩:=hJ.val 2 (by decide) rfl;obtain⟨l2,f2a,h2,h2E⟩:=(show ∃ ids,idR.Row wt (z1.heap.size) v2 ids/\ids.map (fun i=>s9[i]?)=List.map some (lensF X)/\∀ g,v2.ownBlock=some g->E9 g from f2);have R2:=Lib.hid f2a;have H2:=Lib.hid h2;have HE2:=Lib.hid h2E;clear f2 f2a h2 h2E;have a3:=hJ.vE 3 36 rfl (by decide) rfl (fun _ h=>h);have a4:=hJ.vE 4 37 rfl (by decide) rfl (fun _ h=>h);have a5:=hJ.vE 5 38 rfl (by decide) rfl (fun _ h=>h);obtain⟨v6,a6,f6⟩:=hJ.val 6 (by decide) rfl;obtain⟨l6,f6a,h6⟩:=(show IdL B k E9 v6 [X] s9 wt from f6);have A6:=Lib.hid f6a;clear f6 f6a h6;obtain⟨i7,a7,H7⟩:=hJ.vI 7 40 rfl (by decide) rfl (fun _ h=>h)
 have a8:=hJ.vE 8 41 rfl (by decide) rfl (fun _ h=>h);have a9:=hJ.vE 9 42 rfl (by decide) rfl (fun _ h=>h);have a10:=hJ.vE 10 43 rfl (by decide) rfl (fun _ h=>h);have a11:=hJ.vE 11 44 rfl (by decide) rfl (fun _ h=>h);obtain⟨i12,a12,H12⟩:=hJ.vI 12 45 rfl (by decide) rfl (fun _ h=>h);have a13:=hJ.vE 13 46 rfl (by decide) rfl (fun _ h=>h);have a14:=hJ.vE 14 47 rfl (by decide) rfl (fun _ h=>h);have a15:=hJ.vE 15 48 rfl (by decide) rfl (fun _ h=>h);obtain⟨v16,a16,f16⟩:=hJ.val 16 (by decide) rfl;obtain⟨l16,f16a,h16⟩:=(show IdL B k E9 v16 [X] s9 wt from f16);have A16:=Lib.hid f16a;clear f16 f16a h16;obtain⟨i17,a17,H17⟩:=hJ.vI 17 50 rfl (by decide) rfl (fun _ h=>h);have a18:=hJ.vE 18 51 rfl (by decide) rfl (fun _ h=>h);have a19:=hJ.vE 19 52 rfl (by decide) rfl (fun _ h=>h)
 have a20:=hJ.vE 20 53 rfl (by decide) rfl (fun _ h=>h);have a21:=hJ.vE 21 54 rfl (by decide) rfl (fun _ h=>h);obtain⟨i22,a22,H22⟩:=hJ.vI 22 55 rfl (by decide) rfl (fun _ h=>h);have hfr:=hJ.fin (fun i hi=>Nat.lt_of_lt_of_le (HL9.out i hi) (of_decide_eq_true rfl)) rfl (.cons a0 (.cons a1 (.cons a2 (.cons a3 (.cons a4 (.cons a5 (.cons a6 (.cons a7 (.cons a8 (.cons a9 (.cons a10 (.cons a11 (.cons a12 (.cons a13 (.cons a14 (.cons a15 (.cons a16 (.cons a17 (.cons a18 (.cons a19 (.cons a20 (.cons a21 (.cons a22 .nil)))))))))))))))))))))));have HST9:=Lib.hid hJ.st;have HEX9:Hid (Ext s s9 13):=Lib.hid hJ.ext;have HBE9:=Lib.hid hJ.be;clear hJ HNE HL9 a0 a1 a2 a3 a4 a5 a6 a7 a8 a9 a10 a11 a12 a13 a14 a15 a16 a17 a18 a19 a20 a21 a22;rw[hfr];clear hfr
 simp only[fillW,Nat.reduceAdd,List.setIfInBounds_toArray,List.set_cons_zero,List.set_cons_succ];simp only[List.drop_succ_cons,List.drop_zero];obtain⟨ro,rc,rfl,-⟩:=R2.out.form;obtain⟨z2,kr,er,ekr,hbr,hkr,HBr⟩:=newV wt #[.int .i64 ((i12:Nat):Int),.int .i64 ((i22:Nat):Int)] 116;replace R2:=Lib.hid (El.Row.below R2.out hbr.out);have HAT:Hid (idR.At z2 (.slice (some ⟨kr,0,none⟩) 2 2) [i12,i22]):=Lib.hid (idR_at (l:=[i12,i22]) HBr.out (by show 2<=maxLen;decide));have HSZ:Hid (z1.heap.size<=z2.heap.size):=Lib.hid (Nat.le_trans HBE9.out.size hbr.out.size)
 go_wp2_with (first | (at_builtin;refine El.Row.append (E:=idR) R2.out rfl (.tmp 35) (.tmp 56) rfl rfl rfl HAT.out (by have h1:=map_some_len H2.out;have h2:=lens_len X;show l2.length+2<=1000000;omega) HSZ.out ?_;intro v9 w9 r1 r2 r3 r4;have R9:=Lib.hid r1;have R4:=Lib.hid r4;clear r1 r2 r3 r4) | fail);go_ret;exact⟨_,l2++[i12,i22],s9,rfl,R9.out.at,by rw[hl.out,List.map_append,List.map_append,H2.out];simp only[List.map_cons,List.map_nil,H12.out,H22.out],((HST9.out.below hbr.out).less (fun g h=>h.elim (hE9 g) (HE2.out g))).app R2.out (by have:=HBB.out.1;have:=hbn.out.size;omega) R4.out,HEX9.out.up (by omega),(((HT1.out.trans HBE9.out).trans (.of_below hbr.out)).app R4.out (fun g hg=>Nat.le_trans hbn.out.size (R2.out.ge hg).1) HBB.out.2)⟩
theorem facts_tl {B k:Nat} {E:Nat->Prop} {L s:List F} (w:World) (h:St B k E L s w) (hm:s.length+46<=900000) (i:Nat) (X:F) (hx:s[i]?=some X) (hg:∀ t ∈ factsF X,Gd t) (ho:X.op=11) :
  Calls Tryz.prog 72 #[.pointer (some ⟨k,0,none⟩),.int .i64 ((i:Nat):Int)] w (FacPost B k E L s (factsF X) 46 w):=by
 have HS:=Lib.hid h;have HM:=Lib.hid hm;have HX:=Lib.hid hx;have HGX:=Lib.hid (h.good X (List.mem_of_getElem? hx));have HG:=Lib.hid hg;have HO:=Lib.hid ho;clear h hm hx hg ho;obtain⟨km,v,us,M,hU⟩:=HS.out;obtain⟨g,cap,u,qo,ql,qc,q,⟨rfl,hil,hcap,hmx⟩,⟨c0,c1,c2,c3,c4,c5,c6⟩,⟨hft,hop,-⟩,hids,-⟩:=hU.node HX.out;have d1:=cell_at (v:=.slice (some ⟨g,0,none⟩) s.length cap) hU.bk 1 rfl;have hmx':cap<=9223372036854775807:=hmx;have HIL:=Lib.hid hids;have HBK:=Lib.hid hU.bk;have e8:(u.k==8)=false:=by rw[hop,HO.out];rfl
 have e9:(u.k==9)=false:=by rw[hop,HO.out];rfl
 have e10:(u.k==10)=false:=by rw[hop,HO.out];rfl
 have e11:(u.k==11)=true:=by rw[hop,HO.out];rfl
 clear hU hids hop hft;obtain⟨x0,hk1⟩:=kids1 HGX.out.1 (.inr (.inr HO.out));have hIL:=HIL.out;rw[hk1] at hIL;obtain⟨ko',kc',ee,⟨hq1,hq2,hq3⟩,hc⟩:=hIL;injection ee with ea eb ec;replace eb:ql=1:=eb;subst ea;subst eb;subst ec;obtain⟨qa,rfl,hqn,hqc⟩:=hc 0 (by simp);replace hqc:w.cell? qa=some (.int .i64 ((idx s x0:Nat):Int)):=hqc;replace hq1:1<=qc:=hq1;have hq2':qc<=9223372036854775807:=hq2;have HQN:=Lib.hid hqn;have HQC:=Lib.hid hqc;have HX0:Hid (s[idx s x0]?=some x0):=Lib.hid (idx_get (HS.out.cl' X (List.mem_of_getElem? HX.out) x0 (by rw[hk1];simp)));have hk0:kd X 0=x0:=by unfold kd;rw[hk1];rfl
 clear hc hq2 hq3 hqn hqc HIL;obtain⟨z1,kn,en,ekn,hbn,hkn,HBn⟩:=newV w #[.int .i64 u.k,.bool (decide (u.n.z<0)),.slice u.n.o u.n.l u.n.c,.string u.nm,.slice u.ko u.kl u.kc,.slice (some qa) 1 qc,.bool q] 167;have n0:=cell_at (v:=.int .i64 u.k) HBn.out 0 rfl;have HS1:=Lib.hid (HS.out.below hbn.out);have HT1:=Lib.hid (Stp.of_below (B:=B) (k:=k) hbn.out);have hgn:g≠kn:=by have h1:=World.block_lt_of_cell? _ _ c0;have h2:=ekn;intro h3;change g<_ at h1;omega
 have HNO:Hid (NO B k z1 kn):=Lib.hid (NO.local_ ((hbn.out.block k (lt_of_block HBK.out)).trans HBK.out) hgn HBn.out (by decide));clear hgn;go_enter Tryz.func72,Tryz.ntmps72;have hl:Hid (factsF X=lensF X++([emptF X]++tailF X x0)):=Lib.hid (by unfold factsF;rw[if_neg (show ¬ X.op=8 by rw[HO.out];decide),if_neg (show ¬ X.op=9 by rw[HO.out];decide),if_neg (show ¬ X.op=10 by rw[HO.out];decide),if_pos HO.out];rw[hk0]);have GL:Hid (∀ t ∈ lensF X,Gd t):=Lib.hid (fun t ht=>HG.out t (by rw[hl.out];simp[ht]));have G1:=Lib.hid (HG.out (emptF X) (by rw[hl.out];simp));have GT:Hid (∀ t ∈ tailF X x0,Gd t):=Lib.hid (fun t ht=>HG.out t (by rw[hl.out];simp[ht]));clear hk0;go_upto_region 10 with fail
 have HNE:Hid (∀ i j,i<14->j<14->i≠j->(fun i=>i+60) i≠(fun i=>i+60) j):=Lib.hid (fun i j _ _ h e=>h (Nat.add_right_cancel e));have HL9:Hid (∀ i,i<14->(fun i=>i+60) i<74):=Lib.hid (fun i h=>by show i+60<74;omega)
 refine Rel9.region (by kernel_rfl) [[],[],[0,1],[],[],[0,1,2,3,4],[0,1,2,3,4,5],[],[],[],[9],[9,10],[9,10,11],[0,1,2,3,4,5,7,8,9,10,11,12],[0,1,2,3,4,5,6,7,8,9,10,11,12,13],[0,1,2,3,4,5,6,7,8,9,10,11,12,13,14],[0,1,2,3,4,5,6,7,8,9,10,11,12,13,14,15]] 14 (by kernel_rfl) (by kernel_rfl) (JXE B k E L z1 s _ 14 (fun i=>i+60) (fun i=>[0,0,9,0,0,7,0,0,0,0,0,0,0,20].getD i 0) [.fd (.eqv (.pointer (some ⟨k,0,none⟩))),.fd (.eqv (.int .i64 ((i:Nat):Int))),.row (z1.heap.size) (lensF X),.fd (.eqv (.pointer (some ⟨k,0,none⟩))),.fd (.eqv (.int .i64 ((i:Nat):Int))),.fd (.idf (emptF X)),.fd (.idl [emptF X]),.fd (.eqv (.pointer (some ⟨k,0,none⟩))),.fd (.eqv (.int .i64 ((i:Nat):Int))),.fd (.eqv (.pointer (some ⟨kn,5,none⟩))),.fd (.eqv (.slice (some qa) 1 qc)),.fd (.eqv (.pointer (some qa))),.fd (.eqv (.int .i64 ((idx s x0:Nat):Int))),.fd (.idl (tailF X x0))]) (JXE.start HS1.out) ?_ ?_
 ·rintro d T wc n9 o ⟨E9,s9,hE9,hJ⟩ ho hi hd hdep hcl;have hstepE:=hJ.stepX hE9 HNE.out (fun i hi=>Nat.lt_of_lt_of_le (HL9.out i hi) (of_decide_eq_true rfl)) n9 hi hd;have hstep:=hstepE E9 (fun g h=>h) (fun g h=>.inl h);have HST9:=Lib.hid hJ.st;have HROOM:=Lib.hid (hJ.room n9 hi hd (N:=900000) (show s.length+36<=900000 from by have:=HM.out;omega));have m0:T[0]?=some (.pointer (some ⟨k,0,none⟩)):=(hJ.oth 0 (by decide)).trans (by rfl);have m1:T[1]?=some (.int .i64 ((i:Nat):Int)):=(hJ.oth 1 (by decide)).trans (by rfl);obtain rfl | rfl | rfl | rfl | rfl | rfl | rfl | rfl | rfl | rfl | rfl | rfl | rfl | rfl:n9=0\/n9=1\/n9=2\/n9=3\/n9=4\/n9=5\/n9=6\/n9=7\/n9=8\/n9=9\/n9=10\/n9=11\/n9=12\/n9=13:=by omega
  all_goals (injection ho with ho)
  all_goals (subst ho)
  all_goals (try (clear hJ hdep hcl;refine⟨rfl,fun K9 hK=>?_⟩;have HST:=Lib.hid hstep;clear hstep;go_simp;exact hK.out _ _ (HST.out _ _ _ HST9.out ((Ext.refl _).up (Nat.zero_le _)) (Stp.refl _ _ _) rfl)))
  ·have e60:=hJ.vE 0 60 rfl (by decide) (hdep 0 (by rfl)) (fun _ h=>h);have e61:=hJ.vE 1 61 rfl (by decide) (hdep 1 (by rfl)) (fun _ h=>h);have HEXT:=Lib.hid hJ.ext;have HBE:=Lib.hid hJ.be;clear hJ hdep hcl;refine⟨rfl,fun K9 hK=>?_⟩;clear hstep;have HSTE:=Lib.hid hstepE;clear hstepE;go_simp;refine (lensS_p wc HST9.out HROOM.out i X (HEXT.out.get HX.out) GL.out).mono ?_;rintro e w8 ⟨v8,l8,s8,rfl,p1,p2,p3,p4,p5⟩;exact hK.out _ _ (HSTE.out (fun g=>E9 g\/v8.ownBlock=some g) (fun g h=>.inl h) (fun g h=>h.elim .inl (fun h=>.inr (p1.ge h).1)) v8 s8 w8 p3 p4 p5 ⟨l8,idR_low p1 HBE.out.size,p2,fun g h=>.inr h⟩)
  ·have e63:=hJ.vE 3 63 rfl (by decide) (hdep 3 (by rfl)) (fun _ h=>h);have e64:=hJ.vE 4 64 rfl (by decide) (hdep 4 (by rfl)) (fun _ h=>h);have HEXT:=Lib.hid hJ.ext;clear hJ hdep hcl;refine⟨rfl,fun K9 hK=>?_⟩;have HST:=Lib.hid hstep;clear hstep;clear hstepE;go_simp;refine (emptS_p wc HST9.out HROOM.out i X (HEXT.out.get HX.out) G1.out).mono ?_;rintro e w8 ⟨i8,s8,rfl,p1,p2,p3,p4⟩;exact hK.out _ _ (HST.out _ _ _ p1 p2 p4 ⟨i8,rfl,p3⟩)
  ·obtain⟨i5,e65,H5⟩:=hJ.vI 5 65 rfl (by decide) (hdep 5 (by rfl)) (fun _ h=>h);clear hJ hdep hcl;refine⟨rfl,fun K9 hK=>?_⟩;have HST:=Lib.hid hstep;clear hstep;clear hstepE;go_simp;have hal:Below wc.heap.size wc (wc.alloc _):=(Below.refl _ _).alloc (Nat.le_refl _) (.cells #[.int .i64 ((i5:Nat):Int)] 116);exact hK.out _ _ (HST.out _ _ _ (HST9.out.below hal) ((Ext.refl _).up (Nat.zero_le _)) (.of_below hal) ⟨[i5],IL.block (l:=[i5]) (cs:=[.int .i64 ((i5:Nat):Int)]) (show (wc.alloc (.cells #[.int .i64 ((i5:Nat):Int)] 116)).heap[wc.heap.size]?=some (.cells [.int .i64 ((i5:Nat):Int)].toArray 116 (0,0)) from heap_alloc_new wc _) (by decide) (HST9.out.fresh (Nat.le_refl _)) (by show 1<=maxLen;decide) rfl,by simp only[List.map_cons,List.map_nil,H5.out]⟩)
  ·have es:T[5]?=some (.pointer (some ⟨kn,0,none⟩)):=(hJ.oth 5 (by decide)).trans (by rfl);clear hJ hdep hcl;refine⟨rfl,fun K9 hK=>?_⟩;have HST:=Lib.hid hstep;clear hstep;clear hstepE;go_simp;exact hK.out _ _ (HST.out _ _ _ HST9.out ((Ext.refl _).up (Nat.zero_le _)) (Stp.refl _ _ _) rfl)
  ·have e69:=hJ.vE 9 69 rfl (by decide) (hdep 9 (by rfl)) (fun _ h=>h);have HBE:=Lib.hid hJ.be;have n5:=cell_at (v:=.slice (some qa) 1 qc) ((HBE.out.block kn (lt_of_block HBn.out) HNO.out).trans HBn.out) 5 rfl;clear hJ hdep hcl;refine⟨rfl,fun K9 hK=>?_⟩;have HST:=Lib.hid hstep;clear hstep;clear hstepE;go_simp;exact hK.out _ _ (HST.out _ _ _ HST9.out ((Ext.refl _).up (Nat.zero_le _)) (Stp.refl _ _ _) rfl)
  ·have e70:=hJ.vE 10 70 rfl (by decide) (hdep 10 (by rfl)) (fun _ h=>h);clear hJ hdep hcl;refine⟨rfl,fun K9 hK=>?_⟩;have HST:=Lib.hid hstep;clear hstep;clear hstepE;go_simp;exact hK.out _ _ (HST.out _ _ _ HST9.out ((Ext.refl _).up (Nat.zero_le _)) (Stp.refl _ _ _) rfl)
  ·have e71:=hJ.vE 11 71 rfl (by decide) (hdep 11 (by rfl)) (fun _ h=>h);have HBE:=Lib.hid hJ.be;have cq:wc.cell? qa=some (.int .i64 ((idx s x0:Nat):Int)):=by rw[cell_keepF (w:=w) (by exact (HT1.out.trans HBE.out).block _ (by have h1:=World.block_lt_of_cell? _ _ HQC.out;exact h1) HQN.out.1.1)];exact HQC.out
   clear hJ hdep hcl;refine⟨rfl,fun K9 hK=>?_⟩;have HST:=Lib.hid hstep;clear hstep;clear hstepE;go_simp;exact hK.out _ _ (HST.out _ _ _ HST9.out ((Ext.refl _).up (Nat.zero_le _)) (Stp.refl _ _ _) rfl)
  have e67:=hJ.vE 7 67 rfl (by decide) (hdep 7 (by rfl)) (fun _ h=>h);have e68:=hJ.vE 8 68 rfl (by decide) (hdep 8 (by rfl)) (fun _ h=>h);have e72:=hJ.vE 12 72 rfl (by decide) (hdep 12 (by rfl)) (fun _ h=>h);have HEXT:=Lib.hid hJ.ext;clear hJ hdep hcl;refine⟨rfl,fun K9 hK=>?_⟩;have HST:=Lib.hid hstep;clear hstep;clear hstepE;go_simp;refine (tailS_p wc HST9.out HROOM.out i (idx s x0) X x0 (HEXT.out.get HX.out) (HEXT.out.get HX0.out) GT.out).mono ?_;rintro e w8 ⟨v8,s8,rfl,p1,p2,p3,p4⟩;exact hK.out _ _ (HST.out _ _ _ p2 p3 p4 p1)
 rintro T wt ⟨E9,s9,hE9,hJ⟩;have a0:=hJ.vE 0 60 rfl (by decide) rfl (fun _ h=>h);have a1:=hJ.vE 1 61 rfl (by decide) rfl (fun _ h=>h);obtain⟨v2,a2,f2⟩:=hJ.val 2 (by decide) rfl;obtain⟨l2,f2a,h2,h2E⟩:=(show ∃ ids,idR.Row wt (z1.heap.size) v2 ids/\ids.map (fun i=>s9[i]?)=List.map some (lensF X)/\∀ g,v2.ownBlock=some g->E9 g from f2);have R2:=Lib.hid f2a;have H2:=Lib.hid h2;clear f2 f2a h2 h2E;have a3:=hJ.vE 3 63 rfl (by decide) rfl (fun _ h=>h);have a4:=hJ.vE 4 64 rfl (by decide) rfl (fun _ h=>h);obtain⟨i5,a5,H5⟩:=hJ.vI 5 65 rfl (by decide) rfl (fun _ h=>h);obtain⟨v6,a6,f6⟩:=hJ.val 6 (by decide) rfl;obtain⟨l6,f6a,h6⟩:=(show IdL B k E9 v6 [emptF X] s9 wt from f6);have A6:=Lib.hid f6a;have H6:=Lib.hid h6;clear f6 f6a h6;have a7:=hJ.vE 7 67 rfl (by decide) rfl (fun _ h=>h)
 have a8:=hJ.vE 8 68 rfl (by decide) rfl (fun _ h=>h);have a9:=hJ.vE 9 69 rfl (by decide) rfl (fun _ h=>h);have a10:=hJ.vE 10 70 rfl (by decide) rfl (fun _ h=>h);have a11:=hJ.vE 11 71 rfl (by decide) rfl (fun _ h=>h);have a12:=hJ.vE 12 72 rfl (by decide) rfl (fun _ h=>h);obtain⟨v13,a13,f13⟩:=hJ.val 13 (by decide) rfl;obtain⟨l13,f13a,h13⟩:=(show IdL B k E9 v13 (tailF X x0) s9 wt from f13);have A13:=Lib.hid f13a;have H13:=Lib.hid h13;clear f13 f13a h13;have hfr:=hJ.fin (fun i hi=>Nat.lt_of_lt_of_le (HL9.out i hi) (of_decide_eq_true rfl)) rfl (.cons a0 (.cons a1 (.cons a2 (.cons a3 (.cons a4 (.cons a5 (.cons a6 (.cons a7 (.cons a8 (.cons a9 (.cons a10 (.cons a11 (.cons a12 (.cons a13 .nil))))))))))))));have HST9:=Lib.hid hJ.st;have HEX9:Hid (Ext s s9 36):=Lib.hid hJ.ext;have HBE9:=Lib.hid hJ.be
 clear hJ HNE HL9 a0 a1 a2 a3 a4 a5 a6 a7 a8 a9 a10 a11 a12 a13;rw[hfr];clear hfr;simp only[fillW,Nat.reduceAdd,List.setIfInBounds_toArray,List.set_cons_zero,List.set_cons_succ];simp only[List.drop_succ_cons,List.drop_zero];obtain⟨o2,c2,rfl,-⟩:=id R2.out.at;obtain⟨o6,c6,rfl,-⟩:=id A6.out.atF;obtain⟨o13,c13,rfl,-⟩:=id A13.out.atF;obtain⟨z2,kr,er,ekr,hbr,hkr,HBr⟩:=newV wt #[.slice o2 l2.length c2,.slice o6 l6.length c6,.slice o13 l13.length c13] 114;have HLS:Hid (LsF idR z2 ⟨kr,0,none⟩ [l2,l6,l13]):=Lib.hid (fun q hq=>by
  have h3:q=0\/q=1\/q=2:=by have h9:q<3:=hq;omega
  rcases h3 with rfl | rfl | rfl
  ·exact⟨_,_,_,cell_at HBr.out 0 rfl,R2.out.at.below hbr.out⟩
  ·exact⟨_,_,_,cell_at HBr.out 1 rfl,A6.out.atF.below hbr.out⟩
  ·exact⟨_,_,_,cell_at HBr.out 2 rfl,A13.out.atF.below hbr.out⟩)
 have HLN:Hid (lenLF [l2,l6,l13]<=100000):=Lib.hid (by have h1:=map_some_len H2.out;have h2:=lens_len X;have h3:=map_some_len H6.out;have h4:=map_some_len H13.out;have h5:(tailF X x0).length=3:=rfl;have h6:[emptF X].length=1:=rfl;show l2.length+(l6.length+(l13.length+0))<=100000;omega);go_wp2_with fail;refine (concatI_p ⟨kr,0,none⟩ 3 3 [l2,l6,l13] z2 HLS.out rfl ⟨Nat.le_refl _,by decide⟩ HLN.out (by decide)).mono ?_;rintro e y1 ⟨v1,rfl,h1,h2⟩;obtain⟨fl,hfl⟩:∃ q,q=[l2,l6,l13].flatten:=⟨_,rfl⟩;rw[<-hfl] at h1;have HFL:=Lib.hid hfl;clear hfl;obtain⟨o9,c9,rfl,-⟩:=id h1;have A1:=Lib.hid h1;have B1:=Lib.hid h2;clear h1 h2;go_wp2_with fail;go_ret
 exact⟨_,fl,s9,rfl,A1.out,by rw[hl.out,HFL.out];simp only[List.flatten_cons,List.flatten_nil,List.append_nil,List.map_append,H2.out,H6.out,H13.out],((HST9.out.below hbr.out).below B1.out).less hE9,HEX9.out.up (by omega),(((HT1.out.trans HBE9.out).trans (.of_below hbr.out)).trans (.of_below B1.out))⟩
theorem factsS_p {B k:Nat} {E:Nat->Prop} {L s:List F} (w:World) (h:St B k E L s w) (hm:s.length+46<=900000) (i:Nat) (X:F) (hx:s[i]?=some X) (hg:∀ t ∈ factsF X,Gd t) :
  Calls Tryz.prog 72 #[.pointer (some ⟨k,0,none⟩),.int .i64 ((i:Nat):Int)] w (FacPost B k E L s (factsF X) 46 w):=by
 by_cases h8:X.op=8
 ·exact facts_lvar w h hm i X hx hg h8
 by_cases h9:X.op=9
 ·exact facts_nil w h hm i X hx hg h9
 by_cases h10:X.op=10
 ·exact facts_cons w h hm i X hx hg h10
 by_cases h11:X.op=11
 ·exact facts_tl w h hm i X hx hg h11
 by_cases h7:X.op=7
 ·exact facts_hd w h hm i X hx hg h7
 by_cases h5:X.op=5
 ·exact facts_quo w h hm i X hx hg h5
 by_cases h4:X.op=4
 ·exact facts_mul w h hm i X hx hg h4
 refine facts_none w h hm i X hx hg fun q hq=>?_
 simp only[List.mem_cons,List.not_mem_nil,or_false] at hq;rcases hq with rfl | rfl | rfl | rfl | rfl | rfl | rfl<;>assumption
mutual
theorem AllF.tt:∀ (t:F),AllF (fun _=>True) t
 | .node o z nm ks=>by rw[AllF];exact⟨trivial,AllFs.tt ks⟩
theorem AllFs.tt:∀ (l:List F),AllFs (fun _=>True) l
 | []=>by rw[AllFs];trivial
 | k::l=>by rw[AllFs];exact⟨AllF.tt k,AllFs.tt l⟩
end
theorem vis_ext (s:List F) (t:F):∃ m,vis s t=s++m:=(vis_all (P:=fun _=>True) t s (fun _ _=>trivial) (AllF.tt t)).2
theorem viss_ext (s:List F) (l:List F):∃ m,viss s l=s++m:=(viss_all (P:=fun _=>True) l s (fun _ _=>trivial) (AllFs.tt l)).2
mutual
theorem vis_nd:∀ (t:F) (s:List F),s.Nodup->(vis s t).Nodup
 | .node o z nm ks,s,h=>by
  rw[vis]
  split
  ·exact h
  rename_i hn
  refine viss_nd ks _ ?_;rw[List.nodup_append];exact⟨h,by simp,fun a ha b hb e=>by rw[List.mem_singleton] at hb;rw[e,hb] at ha;exact hn ha⟩
theorem viss_nd:∀ (l:List F) (s:List F),s.Nodup->(viss s l).Nodup
 | [],s,h=>by rw[viss];exact h
 | k::l,s,h=>by rw[viss];exact viss_nd l _ (vis_nd k s h)
end
def CloF (S:List F):Prop:=∀ t ∈ S,∀ c ∈ t.kids,c ∈ S
mutual
theorem allF_clo {S:List F} (h:CloF S):∀ (t:F),t ∈ S->AllF (fun x=>x ∈ S) t
 | .node o z nm ks,ht=>by rw[AllF];exact⟨ht,allFs_clo h ks (h _ ht)⟩
theorem allFs_clo {S:List F} (h:CloF S):∀ (l:List F),(∀ t ∈ l,t ∈ S)->AllFs (fun x=>x ∈ S) l
 | [],_=>by rw[AllFs];trivial
 | k::l,hl=>by rw[AllFs];exact⟨allF_clo h k (hl k (by simp)),allFs_clo h l fun t ht=>hl t (by simp[ht])⟩
end
theorem viss_app:∀ (l:List F) (s m:List F),viss s (l++m)=viss (viss s l) m
 | [],s,m=>by rw[viss];rfl
 | k::l,s,m=>by rw[List.cons_append,viss,viss];exact viss_app l _ m
theorem viss_take {ks:List F} {s:List F} {j:Nat} (h:j<ks.length):viss s (ks.take (j+1))=vis (viss s (ks.take j)) ks[j]:=by
 rw[List.take_succ_eq_append_getElem h,viss_app,viss,viss]
theorem vis_old {s:List F} {t:F} (h:t ∈ s):vis s t=s:=by
 obtain⟨o,z,nm,ks⟩:=t;rw[vis,if_pos h]
theorem vis_new {s:List F} {t:F} (h:t ∉ s):vis s t=viss (s++[t]) t.kids:=by
 obtain⟨o,z,nm,ks⟩:=t;rw[vis,if_neg h];rfl
theorem len_of_nd {α:Type}:∀ {l s:List α},l.Nodup->(∀ x ∈ l,x ∈ s)->l.length<=s.length
 | [],s,_,_=>Nat.zero_le _
 | a::l,s,h,hs=>by
  obtain⟨p,q,rfl⟩:=List.append_of_mem (hs a (by simp));rw[List.nodup_cons] at h
  have h1:=len_of_nd (l:=l) (s:=p++q) h.2 (fun x hx=>by
   have h2:=hs x (by simp[hx]);rw[List.mem_append,List.mem_cons] at h2;rw[List.mem_append];rcases h2 with h2 | h2 | h2
   ·exact .inl h2
   ·subst h2;exact absurd hx h.1
   exact .inr h2)
  simp only[lsa,lsc] at h1 ⊢
  omega
theorem St.turnT {B k:Nat} {E E':Nat->Prop} {L s:List F} {w w':World} {r:Option Nat} (h:St B k E L s w) (hg:w.grownBy w' r)
  (hr:∀ g,r=some g->E g/\B<=g/\∃ c T,w.heap[g]?=some (.cells c T (0,0))/\(T≠163/\T≠167)/\N32 c.toList)
  (hE:∀ g,E' g->E g\/w.heap.size<=g) (hl:∀ g,E' g->g<w'.heap.size):St B k E' L s w':=by
 obtain⟨km,v,us,M,h⟩:=h;obtain⟨w0,h1,h2,h3⟩:=h.tx;have cellsNe:∀ (g:Nat) (c:Array Value) (T:TypeId),w.heap[g]?=some (.cells c T (0,0))->(T=163\/T=167)->some g≠r:=fun g c T hc hT e=>by
  obtain⟨-,-,c',T',hc',hT',-⟩:=hr g e.symm;rw[hc] at hc';injection hc' with e1;injection e1 with _ e2;subst e2;rcases hT with hT | hT
  ·exact hT'.1 hT
  exact hT'.2 hT
 have ek:w'.heap[k]?=w.heap[k]?:=hg.block k (lt_of_block h.bk) (cellsNe k _ _ h.bk (.inl rfl));have em:w'.heap[km]?=w.heap[km]?:=hg.block km h.mp.lt (fun e=>by
  obtain⟨-,-,c',T',hc',-⟩:=hr km e.symm;obtain⟨es,cl,hm⟩:=h.mp.obj;rw[hm] at hc';cases hc')
 have kn:KN w w':=by
  intro a z hc;have hla:=World.block_lt_of_cell? w a hc;by_cases hb:some a.block=r
  ·obtain⟨-,-,c,T,hc',-,h32⟩:=hr a.block hb.symm;exact absurd hc (cell_n32 hc' h32 rfl z)
  rw[cell_keepF (hg.block _ hla hb)];exact hc
 have neE:∀ g,¬ E g->some g≠r:=fun g hn e=>hn (hr g e.symm).1
 have no:∀ g,g<w.heap.size->¬ E g->NO B k w g->NO B k w' g:=fun g hlt hn hno=>by
  have hb:=hg.block g hlt (neE g hn);rintro⟨hB,o⟩;refine hno ⟨hB,?_⟩;rw[hb] at o;rcases o with o | ⟨c,T,a1,a2 | ⟨a2,a3⟩,a4⟩
  ·exact .inl o
  ·exact .inr ⟨c,T,a1,.inl a2,a4⟩
  exact .inr ⟨c,T,a1,.inr ⟨a2,row_same (fun _=>ek) g hlt a3⟩,a4⟩
 have ns:∀ g,g<w.heap.size->NS B k E w g->NS B k E' w' g:=fun g hlt hn=>⟨no g hlt hn.2 hn.1,fun he=>by rcases hE g he with h9 | h9;exact hn.2 h9;omega⟩
 exact⟨km,v,us,M,{ h with
  bk:=ek.trans h.bk
  sz:=Nat.le_trans h.sz hg.size
  mp:=h.mp.keep em
  row:=by
   obtain⟨⟨r1,r2⟩,r3,r4⟩:=h.row;refine⟨⟨r1,?_⟩,fun g hgo=>?_,fun _ _=>trivial⟩
   ·rcases r2 with r2 | ⟨g,cap,cur,e1,e2,e3,e4⟩
    ·exact .inl r2
    exact .inr ⟨g,cap,cur,e1,e2,(hg.block g (lt_of_block e3) (cellsNe g _ _ e3 (.inr rfl))).trans e3,e4⟩
   obtain⟨c,hc,h32⟩:=r3 g hgo;exact⟨c,(hg.block g (lt_of_block hc) (cellsNe g _ _ hc (.inr rfl))).trans hc,h32⟩
  ft:=fun i u t hu ht=>(((h.ft i u t hu ht).lt).keep (fun g hg'=>hg.block g hg'.2 (neE g hg'.1.2)) kn).mono fun g hg'=>ns g hg'.2 hg'.1
  ids:=fun i u t hu ht=>by
   obtain⟨ko,kc,e,q1,q2⟩:=h.ids i u t hu ht;refine⟨ko,kc,e,q1,fun j hj=>?_⟩;obtain⟨a,ha,hn,hc⟩:=q2 j hj;have hla:=World.block_lt_of_cell? w _ hc;rw[add_blockV] at hla;exact⟨a,ha,⟨ns _ hla hn.1,by obtain⟨c,hc'⟩:=hn.2;exact⟨c,(hg.block _ hla (neE _ hn.1.2)).trans hc'⟩⟩,by rw[cell_keepF (w:=w) (by rw[add_blockV];exact hg.block _ hla (neE _ hn.1.2))];exact hc⟩
  ex:=hl
  tx:=⟨w0,h1,h2,⟨hg.os.trans h3.os,hg.tape.trans h3.tape,hg.output.trans h3.output,Nat.le_trans h3.size hg.size,fun g hgB=>(hg.block g (Nat.lt_of_lt_of_le hgB h.sz) (fun e=>by have:=(hr g e.symm).2.1;omega)).trans (h3.block g hgB)⟩⟩ }⟩
theorem set_flat7 (l:List NdU) (i:Nat) (hi:i<l.length):(l.flatMap ndC).set (i*7+6) (.bool true)=(l.set i { l[i] with b:=true }).flatMap ndC:=by
 induction l generalizing i with
 | nil=>simp at hi
 | cons b l ih =>
  cases i with
  | zero=>rfl
  | succ i =>
   have h1:=ih i (by simpa using hi);simp only[List.flatMap_cons,ndC,List.cons_append,List.nil_append,List.set_cons_succ,Nat.add_mul,Nat.one_mul,List.getElem_cons_succ,show i*7+7+6=(i*7+6)+1+1+1+1+1+1+1 from rfl];rw[<-h1]
theorem stu_mark {B k:Nat} {E:Nat->Prop} {L s:List F} {w w':World} {km g n cap:Nat} {us:List NdU} {M:Bs->Option Value} (h:StU B k E L s w km (.slice (some ⟨g,0,none⟩) n cap) us M) {i:Nat} {t:F} (hi:s[i]?=some t) (hw:w'=w.setCell ⟨g,i*7+6,none⟩ (.bool true)):St B k E (L++[t]) s w'/\Stp B k w w'/\w'.heap[k]?=w.heap[k]?:=by
 obtain⟨hil,e⟩:=List.getElem?_eq_some_iff.1 hi;have hiu:i<us.length:=by rw[h.len];exact hil
 have hts:t ∈ s:=List.mem_of_getElem? hi;have hgr:w.grownBy w' (some g):=by
  rw[hw];refine grown_setCell ?_ _;exact World.grownBy.refl _ _
 obtain⟨c,hc,h32⟩:=h.row.n32 g rfl;have hge:=h.row.ge (j:=g) rfl;have hne:some k≠some g:=fun e=>by injection e with e;have:=hge.1;omega
 have hnm:some km≠some g:=fun e=>by
  injection e with e;obtain⟨es,cl,hm⟩:=h.mp.obj;rw[e,hc] at hm;cases hm
 have hst:Stp B k w w':=Stp.of_grown hgr (fun q hq=>by
  injection hq with hq;subst hq;exact⟨by have:=hge.1;have:=h.kB;omega,.inr ⟨c,_,hc,.inr ⟨rfl,by have:=hge.1;omega,_,_,h.bk,rfl⟩,h32⟩⟩) hne
 have hnl:n=us.length:=by obtain⟨_,_,e,_⟩:=h.row.form;injection e
 have h0:=h.row.own;rw[<-hnl] at h0;have h1:=(World.ownsRow.stored h0 (i*7+6) (.bool true)).1;have h2:=set_flat7 us i hiu;have ef:nR.f=ndC:=rfl;rw[ef,h2,<-hw] at h1;have hc':=heap_setCell_same w g (i*7+6) _ _ (.bool true) hc;rw[<-hw] at hc';obtain⟨hrow,hfr⟩:=h.row.put i { us[i] with b:=true } hgr h1 ⟨_,hc',n32_set h32 _ (by intro z e;cases e)⟩ hnl trivial;have get:∀ (j:Nat) (x:NdU),(us.set i { us[i] with b:=true })[j]?=some x->∃ y,us[j]?=some y/\x.u=y.u/\x.ko=y.ko/\x.kl=y.kl/\x.kc=y.kc/\(j=i->x.b=true)/\(j≠i->x.b=y.b):=by
  intro j x hx;by_cases hj:j=i
  ·subst hj;rw[List.getElem?_set_self hiu] at hx;injection hx with hx;subst hx;exact⟨_,List.getElem?_eq_getElem hiu,rfl,rfl,rfl,rfl,fun _=>rfl,fun h=>absurd rfl h⟩
  rw[List.getElem?_set_ne (fun e=>hj e.symm)] at hx;exact⟨x,hx,rfl,rfl,rfl,rfl,fun e=>absurd e hj,fun _=>rfl⟩
 obtain⟨w0,q1,q2,q3⟩:=h.tx;refine⟨⟨km,_,_,M,{ h with
  bk:=(hgr.block k (lt_of_block h.bk) hne).trans h.bk
  sz:=Nat.le_trans h.sz hgr.size
  mp:=h.mp.keep (hgr.block km h.mp.lt hnm)
  row:=hrow
  len:=by rw[List.length_set];exact h.len
  ft:=fun j x y hx hy=>by
   obtain⟨z,hz,e1,-⟩:=get j x hx;rw[e1];exact (h.ft j z y hz hy).stp hst
  ids:=fun j x y hx hy=>by
   obtain⟨z,hz,-,e1,e2,e3,-⟩:=get j x hx;rw[e1,e2,e3];exact (h.ids j z y hz hy).stp hst
  lst:=fun j x y hx hy=>by
   obtain⟨z,hz,-,-,-,-,e1,e2⟩:=get j x hx
   by_cases hj:j=i
   ·rw[e1 hj];subst hj;rw[hi] at hy;injection hy with hy;subst hy;exact⟨fun _=>by simp,fun _=>rfl⟩
   rw[e2 hj];have hl:=h.lst j z y hz hy
   have hyt:y≠t:=fun e5=>by
    subst e5;exact hj (by rw[<-idx_of h.nd hy,idx_of h.nd hi])
   rw[hl,List.mem_append,List.mem_singleton];exact⟨.inl,fun h=>h.resolve_right hyt⟩
  sub:=fun x hx=>by
   rcases List.mem_append.1 hx with hx | hx
   ·exact h.sub x hx
   rw[List.mem_singleton] at hx;rw[hx];exact hts
  ex:=fun q hq=>Nat.lt_of_lt_of_le (h.ex q hq) hgr.size
  tx:=⟨w0,q1,q2,q3.trans (hst.below h.sz)⟩ }⟩,hst,hgr.block k (lt_of_block h.bk) hne⟩
structure Frv (B k kt:Nat) (v v':Value) (w w':World):Prop where
 os:w'.os=w.os
 tape:w'.tape=w.tape
 output:w'.output=w.output
 size:w.heap.size<=w'.heap.size
 block:∀ g,g<w.heap.size->¬ Own B k w g->g≠kt->v.ownBlock≠some g->w'.heap[g]?=w.heap[g]?
 row:∀ g,g<w.heap.size->RowOf k w' g->RowOf k w g
 own:∀ g,v'.ownBlock=some g->v.ownBlock=some g\/w.heap.size<=g
 hk:w'.heap[k]?=w.heap[k]?
section
variable {B k kt:Nat} {v v1 v2:Value} {w w' a b c:World}
theorem Frv.refl (B k kt:Nat) (v:Value) (w:World):Frv B k kt v v w w:=⟨rfl,rfl,rfl,Nat.le_refl _,fun _ _ _ _ _=>rfl,fun _ _ h=>h,fun _ h=>.inl h,rfl⟩
theorem Frv.no (h:Frv B k kt v v1 w w') {g:Nat} (hg:g<w.heap.size) (hn:¬ Own B k w g) (h1:g≠kt) (h2:v.ownBlock≠some g):¬ Own B k w' g:=by
 rintro⟨hB,o⟩;refine hn ⟨hB,?_⟩;rw[h.block g hg hn h1 h2] at o;rcases o with o | ⟨c,T,a1,a2 | ⟨a2,a3⟩,a4⟩
 ·exact .inl o
 ·exact .inr ⟨c,T,a1,.inl a2,a4⟩
 exact .inr ⟨c,T,a1,.inr ⟨a2,h.row g hg a3⟩,a4⟩
theorem Frv.trans (h:Frv B k kt v v1 a b) (q:Frv B k kt v1 v2 b c):Frv B k kt v v2 a c where
 os:=q.os.trans h.os
 tape:=q.tape.trans h.tape
 output:=q.output.trans h.output
 size:=Nat.le_trans h.size q.size
 block g hg hn h1 h2:=(q.block g (Nat.lt_of_lt_of_le hg h.size) (h.no hg hn h1 h2) h1 (fun e=>by
  rcases h.own g e with e | e
  ·exact h2 e
  omega)).trans (h.block g hg hn h1 h2)
 row g hg hr:=h.row g hg (q.row g (Nat.lt_of_lt_of_le hg h.size) hr)
 own g hg:=by
  rcases q.own g hg with e | e
  ·exact h.own g e
  exact .inr (Nat.le_trans h.size e)
 hk:=q.hk.trans h.hk
theorem Frv.of_stp (h:Stp B k w w') (hk:w'.heap[k]?=w.heap[k]?):Frv B k kt v v w w':=⟨h.os,h.tape,h.output,h.size,fun g hg hn _ _=>h.block g hg hn,h.row,fun _ h=>.inl h,hk⟩
theorem Frv.of_below (h:Below w.heap.size w w') (hk:k<w.heap.size):Frv B k kt v v w w':=Frv.of_stp (.of_below h) (h.block k hk)
theorem Frv.of_grown {r:Option Nat} (h:w.grownBy w' r) (hlk:k<w.heap.size) (hr:∀ g,r=some g->g=kt\/v.ownBlock=some g) (hk:some k≠r) (ho:∀ g,v1.ownBlock=some g->v.ownBlock=some g\/w.heap.size<=g):Frv B k kt v v1 w w':=
 ⟨h.os,h.tape,h.output,h.size,fun g hg _ h1 h2=>h.block g hg (fun e=>by
  rcases hr g e.symm with e | e
  ·exact h1 e
  exact h2 e),row_same fun hl=>h.block k hl hk,ho,h.block k hlk hk⟩
theorem Frv.stp {w0:World} (h:Frv B k kt v v1 w w') (hk:w0.heap.size<=kt) (hv:∀ g,v.ownBlock=some g->w0.heap.size<=g) (h0:Stp B k w0 w):Stp B k w0 w':=
 ⟨h.os.trans h0.os,h.tape.trans h0.tape,h.output.trans h0.output,Nat.le_trans h0.size h.size,
  fun g hg hn=>(h.block g (Nat.lt_of_lt_of_le hg h0.size) (h0.no hg hn) (by omega) (fun e=>by have:=hv g e;omega)).trans (h0.block g hg hn),
  fun g hg hr=>h0.row g hg (h.row g (Nat.lt_of_lt_of_le hg h0.size) hr)⟩
theorem IL.cellv {E:Nat->Prop} {ko:Option Addr} {n kc:Nat} {l:List Nat} (h:IL B k E w (.slice ko n kc) l) (f:Frv B k kt v v1 w w') (hE:∀ g,g=kt\/v.ownBlock=some g->E g) (j:Nat) (hj:j<l.length):∃ a,ko=some a/\w'.cell? (a.add j)=some (.int .i64 ((l[j]:Nat):Int)):=by
 obtain⟨ko',kc',e,-,h2⟩:=h;injection e with e1 e2 e3;subst e1;obtain⟨a,ha,hn,hc⟩:=h2 j hj;have hl:=World.block_lt_of_cell? w _ hc;rw[add_blockV] at hl;exact⟨a,ha,by rw[cell_keepF (w:=w) (by rw[add_blockV];exact f.block _ hl hn.1.1 (fun e=>hn.1.2 (hE _ (.inl e))) (fun e=>hn.1.2 (hE _ (.inr e))))];exact hc⟩
theorem idR_cellv {ko:Option Addr} {n kc:Nat} {l:List Nat} (h:idR.At w (.slice ko n kc) l) (f:Stp B k w w') (j:Nat) (hj:j<l.length):∃ a,ko=some a/\w'.cell? (a.add j)=some (.int .i64 ((l[j]:Nat):Int)):=by
 obtain⟨ko',kc',e,-,h2⟩:=h;injection e with e1 e2 e3;subst e1;obtain⟨a,ha,⟨c,hc⟩,h3,-⟩:=h2 j hj;refine⟨a,ha,?_⟩;have h4:=h3 0 (.int .i64 ((l[j]:Nat):Int)) rfl;have e:a.add (j*idR.n+0)=a.add j:=by rw[show idR.n=1 from rfl,Nat.mul_one,Nat.add_zero]
 rw[e] at h4;rw[cell_keepF (w:=w) (by rw[add_blockV];exact f.block _ (lt_of_block hc) (NO.cells hc (by decide)))];exact h4
end
noncomputable def newT (L L':List F):List F:=(L'.drop L.length).filter nb
theorem newT_refl (L:List F):newT L L=[]:=by unfold newT;simp
theorem newT_trans {L L1 L2:List F} (h:∃ m,L1=L++m) (g:∃ m,L2=L1++m):newT L L2=newT L L1++newT L1 L2:=by
 obtain⟨m,rfl⟩:=h;obtain⟨q,rfl⟩:=g;unfold newT;rw[List.append_assoc,List.drop_left,List.drop_left,<-List.append_assoc,List.drop_left,List.filter_append]
theorem newT_one (L:List F) (t:F):newT L (L++[t])=if nb t then [t] else []:=by
 unfold newT;rw[List.drop_left,List.filter_cons,List.filter_nil]
theorem newT_len {L L1:List F} (h:∃ m,L1=L++m):(newT L L1).length+L.length<=L1.length:=by
 obtain⟨m,rfl⟩:=h;unfold newT;rw[List.drop_left,lsa];have:=List.length_filter_le nb m
 omega
structure VSt (B k ks kt kv B0:Nat) (fv:Value) (E:Nat->Prop) (L s T:List F) (v:Value) (ids:List Nat) (w:World):Prop where
 bs:w.heap[ks]?=some (.cells #[.pointer (some ⟨k,0,none⟩)] 112 (0,0))
 bt:w.heap[kt]?=some (.cells #[v] 114 (0,0))
 bv:w.heap[kv]?=some (.cells #[fv] 164 (0,0))
 row:idR.Row w B0 v ids
 ids:ids.map (fun i=>s[i]?)=T.map some
 st:St B k (fun g=>E g\/g=kt\/v.ownBlock=some g) L s w
 nd:L.Nodup
 tl:T.length<=L.length
 lo:B<=kt/\kt<B0/\ks<B0/\kv<B0
 sz:B0<=w.heap.size
section
variable {B k ks kt kv B0:Nat} {fv:Value} {E:Nat->Prop} {L s T:List F} {v:Value} {ids:List Nat} {w w':World}
theorem VSt.below (h:VSt B k ks kt kv B0 fv E L s T v ids w) (hb:Below w.heap.size w w'):VSt B k ks kt kv B0 fv E L s T v ids w':=
 { h with
  bs:=(hb.block _ (lt_of_block h.bs)).trans h.bs
  bt:=(hb.block _ (lt_of_block h.bt)).trans h.bt
  bv:=(hb.block _ (lt_of_block h.bv)).trans h.bv
  row:=h.row.below hb
  st:=h.st.below hb
  sz:=Nat.le_trans h.sz hb.size }
theorem VSt.ksne (h:VSt B k ks kt kv B0 fv E L s T v ids w):ks≠kt/\kv≠kt:=by
 constructor
 ·intro e;have h1:=h.bs;rw[e,h.bt] at h1;injection h1 with h1;injection h1 with _ h1;exact absurd h1 (by decide)
 intro e;have h1:=h.bv;rw[e,h.bt] at h1;injection h1 with h1;injection h1 with _ h1;exact absurd h1 (by decide)
theorem VSt.room (h:VSt B k ks kt kv B0 fv E L s T v ids w):ids.length<=900000/\L.length<=s.length:=by
 obtain⟨km,v0,us,M,hU⟩:=h.st;have h1:=len_of_nd h.nd hU.sub;have h2:=map_some_len h.ids;have h3:=hU.max;have h4:=h.tl;exact⟨by omega,h1⟩
theorem St.nodeAt {B k km g n cap:Nat} {E:Nat->Prop} {L s:List F} {w:World} (h:St B k E L s w) (hk:w.heap[k]?=some (.cells #[.map (some km),.slice (some ⟨g,0,none⟩) n cap] 163 (0,0))) {i:Nat} {t:F} (hi:s[i]?=some t) :
  ∃ qo ql qc,w.cell? ⟨g,i*7+5,none⟩=some (.slice qo ql qc)/\IL B k E w (.slice qo ql qc) (t.kids.map (idx s)):=by
 obtain⟨km',v0,us,M,hU⟩:=h;obtain⟨g',cap',u,qo,ql,qc,q,⟨rfl,hil,hcap,hmx⟩,⟨-,-,-,-,-,c5,c6⟩,-,hids,-⟩:=hU.node hi;have e:=hU.bk;rw[hk] at e;simp only[Option.some.injEq,Obj.cells.injEq,Array.mk.injEq,List.cons.injEq,Value.slice.injEq,Addr.mk.injEq] at e;obtain⟨⟨-,⟨⟨rfl,-⟩,-⟩,-⟩,-⟩:=e;exact⟨qo,ql,qc,c5,hids⟩
theorem VSt.mark (h:VSt B k ks kt kv B0 fv E L s T v ids w) {t:F} (hn:t ∉ L) (hst:St B k (fun g=>E g\/g=kt\/v.ownBlock=some g) (L++[t]) s w') (hs:Stp B k w w'):VSt B k ks kt kv B0 fv E (L++[t]) s T v ids w':=
 { h with
  bs:=(hs.block _ (lt_of_block h.bs) (NO.cells h.bs (by decide))).trans h.bs
  bt:=(hs.block _ (lt_of_block h.bt) (NO.cells h.bt (by decide))).trans h.bt
  bv:=(hs.block _ (lt_of_block h.bv) (NO.cells h.bv (by decide))).trans h.bv
  row:=idR_stp h.row hs
  st:=hst
  nd:=by
   rw[List.nodup_append];exact⟨h.nd,by simp,fun a ha b hb e=>by rw[List.mem_singleton] at hb;rw[e,hb] at ha;exact hn ha⟩
  tl:=by rw[lsa];have:=h.tl;omega
  sz:=Nat.le_trans h.sz hs.size }
theorem VSt.add (h:VSt B k ks kt kv B0 fv E L s T v ids w) {w1:World} {v1:Value} {i:Nat} {t:F} (hi:s[i]?=some t) (hl:T.length+1<=L.length) (hrow:idR.Row w1 B0 v1 (ids++[i])) (hg:w.grownBy w1 v.ownBlock) (hf:FreshF w v v1) (hw:w'=w1.setCell ⟨kt,0,none⟩ v1) (h32:∀ z,v1 ≠ .int .u32 z) (h32v:∀ z,v ≠ .int .u32 z) :
  VSt B k ks kt kv B0 fv E L s (T++[t]) v1 (ids++[i]) w'/\Frv B k kt v v1 w w':=by
 obtain⟨ne1,ne2⟩:=h.ksne;have low:∀ g,v.ownBlock=some g->B0<=g:=fun g hg=>(h.row.ge hg).1
 have low1:∀ g,v1.ownBlock=some g->B0<=g/\g<w1.heap.size:=fun g hg=>hrow.ge hg
 obtain⟨l1,l2,l3,l4⟩:=h.lo;have keep:∀ (g:Nat) (o:Obj),w.heap[g]?=some o->g<B0->w1.heap[g]?=some o:=fun g o ho hlt=>(hg.block g (lt_of_block ho) (fun e=>by have:=low g e.symm;omega)).trans ho
 have hbt:=keep kt _ h.bt l2;have hg2:w1.grownBy w' (some kt):=by
  rw[hw];refine grown_setCell ?_ _;exact World.grownBy.refl _ _
 have keep2:∀ (g:Nat) (o:Obj),w1.heap[g]?=some o->g≠kt->w'.heap[g]?=some o:=fun g o ho hne=>(hg2.block g (lt_of_block ho) (fun e=>hne (by injection e))).trans ho
 have hbt2:w'.heap[kt]?=some (.cells #[v1] 114 (0,0)):=by rw[hw];exact heap_setCell_same w1 kt 0 _ _ v1 hbt
 have hkB:∀ g,v1.ownBlock=some g->g≠kt:=fun g hg e=>by have:=(low1 g hg).1;omega
 have ilow:B<=w.heap.size:=by obtain⟨km,v0,us,M,hU⟩:=h.st;exact hU.sz
 have hkne:some k≠v.ownBlock/\some k≠some kt:=by
  obtain⟨km,v0,us,M,hU⟩:=h.st;refine⟨fun e=>?_,fun e=>?_⟩
  ·obtain⟨c,hc,-⟩:=h.row.n32 k e.symm;have h9:=hU.bk;rw[hc] at h9;injection h9 with h9;injection h9 with _ h9;exact absurd h9 (by decide)
  injection e with e;have h9:=hU.bk;rw[e,h.bt] at h9;injection h9 with h9;injection h9 with _ h9;exact absurd h9 (by decide)
 have hst1:St B k (fun g=>E g\/g=kt\/v1.ownBlock=some g) L s w1:=by
  refine h.st.turnT hg (fun g hr=>?_) (fun g hg'=>?_) (fun g hg'=>?_)
  ·obtain⟨c,hc,h32⟩:=h.row.n32 g hr;exact⟨.inr (.inr hr),by have:=low g hr;omega,c,_,hc,by decide,h32⟩
  ·rcases hg' with e | e | e
   ·exact .inl (.inl e)
   ·exact .inl (.inr (.inl e))
   rcases hf g e with e | e
   ·exact .inl (.inr (.inr e))
   exact .inr e
  rcases hg' with e | e | e
  ·obtain⟨km,v0,us,M,hU⟩:=h.st;exact Nat.lt_of_lt_of_le (hU.ex g (.inl e)) hg.size
  ·rw[e];exact lt_of_block hbt
  exact (low1 g e).2
 have hst2:St B k (fun g=>E g\/g=kt\/v1.ownBlock=some g) L s w':=by
  refine hst1.turnT hg2 (fun g hr=>?_) (fun g hg'=>.inl hg') (fun g hg'=>?_)
  ·injection hr with hr;subst hr;refine⟨.inr (.inl rfl),l1,_,_,hbt,by decide,?_⟩;intro u hu z;simp only[List.mem_cons,List.not_mem_nil,or_false] at hu;rw[hu];exact h32v z
  obtain⟨km,v0,us,M,hU⟩:=hst1;exact Nat.lt_of_lt_of_le (hU.ex g hg') hg2.size
 have hrow2:idR.Row w' B0 v1 (ids++[i]):=by
  have blk:∀ (g:Nat) (c:Array Value),w1.heap[g]?=some (Obj.cells c 116 (0,0))->w'.heap[g]?=some (Obj.cells c 116 (0,0)):=fun g c hc=>keep2 g _ hc (fun e=>by
   rw[e,hbt] at hc;injection hc with hc;injection hc with _ hc;exact absurd hc (by decide))
  obtain⟨⟨h1,h2⟩,h3,h4⟩:=hrow;refine⟨⟨h1,?_⟩,fun g hg=>?_,fun _ _=>trivial⟩
  ·rcases h2 with h2 | ⟨g,cap,cur,e1,e2,e3,e4⟩
   ·exact .inl h2
   exact .inr ⟨g,cap,cur,e1,e2,blk g cur e3,e4⟩
  obtain⟨c,hc,h32⟩:=h3 g hg;exact⟨c,blk g c hc,h32⟩
 refine⟨{
  bs:=keep2 ks _ (keep ks _ h.bs l3) ne1
  bt:=hbt2
  bv:=keep2 kv _ (keep kv _ h.bv l4) ne2
  row:=hrow2
  ids:=by rw[List.map_append,List.map_append,h.ids,List.map_cons,List.map_nil,hi];rfl
  st:=hst2
  nd:=h.nd
  tl:=by rw[lsa];exact hl
  lo:=h.lo
  sz:=Nat.le_trans h.sz (Nat.le_trans hg.size hg2.size) },?_⟩
 exact (Frv.of_grown (v1:=v1) hg h.st.bases.2 (fun g e=>.inr e) hkne.1 (fun g e=>hf g e)).trans (Frv.of_grown hg2 hst1.bases.2 (fun g e=>by injection e with e;exact .inl e.symm) hkne.2 (fun g e=>.inl e))
end
theorem El.Row.appendG {α:Type} {E:El α} {w:World} {B:Nat} {v:Value} {el ns:List α} (h:E.Row w B v el) {ops:Array Oper} {rest:List Oper} {o:Oper} {a:Act} {Q:Exit->Act->World->Prop} (hgd:o.guard=none) (s y:Operand) (b:Addr) (m c:Nat)
  (ho:o.op=.call { callee:=.builtin .append,args:=#[s,y],argTypes:=#[E.t,E.t] }) (hs:a.eval s=v) (hx:a.eval y=.slice (some b) m c) (hxs:E.At w (.slice (some b) m c) ns) (h0:0<ns.length) (hlen:el.length+ns.length<=1000000) (hB:B<=w.heap.size)
  (hK:∀ v' w',E.Row w' B v' (el++ns)->FreshF w v v'->w.grownBy w' v.ownBlock->wpList Tryz.prog ops Q rest (a.put o.dst v') w'):wpList Tryz.prog ops Q (o::rest) a w:=by
 refine wpList_plain hgd fun K hk=>?_
 obtain⟨v',w',hr,h2,h3,h4,h5⟩:=h.run hxs o.type hlen hB;have hf:=row_fresh h hxs h0 hlen o.type hr;unfold Oper.wp execOp;simp only[ho,resolve,invoke,builtin,Sem.run_bind,Sem.run_pure,Result.andThen_ok,List.map_toArray,List.map_cons,List.map_nil,hs,hx,hr];exact hk _ _ (hK v' w' h2 hf h5)
attribute [local go_sem] fieldV0 fieldV1 fieldV2 fieldV3
theorem Tg.up {d:Nat} {t:F} (h:Tg d t):∀ {d':Nat},d<=d'->Tg d' t
 | 0,hd=>by cases d with | zero=>exact h | succ d=>omega
 | d'+1,hd=>by
  by_cases e:d=d'+1
  ·rw[<-e];exact h
  exact (Tg.up h (by omega)).up1
theorem idR_set {w:World} {B g n kc:Nat} {el:List Nat} (h:idR.Row w B (.slice (some ⟨g,0,none⟩) n kc) el) (i:Nat) (hi:i<el.length) (hn:n=el.length) (a:Nat) {w':World} (hw:w'=w.setCell ⟨g,i,none⟩ (.int .i64 ((a:Nat):Int))) :
  idR.Row w' B (.slice (some ⟨g,0,none⟩) n kc) (el.set i a)/\w.grownBy w' (some g):=by
 have hg:w.grownBy w' (some g):=by
  rw[hw];refine grown_setCell ?_ _;exact World.grownBy.refl _ _
 have h0:=h.own;rw[<-hn] at h0;have h1:=(World.ownsRow.stored h0 i (.int .i64 ((a:Nat):Int))).1;have h2:(el.flatMap idR.f).set i (.int .i64 ((a:Nat):Int))=(el.set i a).flatMap idR.f:=by rw[idR_flat,idR_flat,List.map_set]
 rw[h2,<-hw] at h1;obtain⟨c,hc,h32⟩:=h.n32 g rfl;have hc':=heap_setCell_same w g i _ _ (.int .i64 ((a:Nat):Int)) hc;rw[<-hw] at hc';exact⟨(h.put i a hg h1 ⟨_,hc',n32_set h32 _ (by intro z e;cases e)⟩ hn trivial).1,hg⟩
theorem idR_cell {w:World} {B g n kc:Nat} {el:List Nat} (h:idR.Row w B (.slice (some ⟨g,0,none⟩) n kc) el) (hn:n=el.length) {i:Nat} (hi:i<el.length):w.cell? ⟨g,i,none⟩=some (.int .i64 ((el[i]:Nat):Int))/\w.frozen? ⟨g,i,none⟩=false:=by
 obtain⟨c,hc,h32⟩:=h.n32 g rfl;have h0:=h.own;rw[<-hn] at h0;refine⟨?_,froz_at hc _⟩;rw[World.ownsRow.cellAt h0 i (by show i<n*1;omega),idR_flat,List.getElem?_map,List.getElem?_eq_getElem hi]
 rfl
theorem addS_p (d:Nat):∀ (B k:Nat) (E:Nat->Prop) (L s:List F) (w:World) (v:Value) (t:F),St B k E L s w->FC w (NS B k E w) d v t->rt t=true->Tg d t->d<=9->s.length+szF t<=900000 ->
  Calls Tryz.prog 71 #[.pointer (some ⟨k,0,none⟩),v] w (PutPost B k E L s t (szF t) w):=by
 induction d with
 | zero=>intro B k E L s w v t _ _ _ h;exact absurd h id
 | succ d ih =>
  intro B k E L s w v t hst h hrt htg hd hsz;have HG:Hid (Gd t):=Lib.hid ⟨hrt,htg.up hd⟩;have HF:=Lib.hid h;have HKT:Hid (∀ q ∈ t.kids,rt q=true/\Tg d q):=Lib.hid (fun q hq=>⟨(gd_kid HG.out hq).1,htg.2.2.2.2 q hq⟩);have hk8:t.kids.length<=8:=htg.2.2.2.1;obtain⟨b,ao,l,c,ko,kl,kc,rfl,⟨hr,hz,hkl,hkc,hkm⟩,-,hk⟩:=h.open;have HSZ:Hid (s.length+(1+szsF t.kids)<=900000):=Lib.hid (by obtain⟨o,z,nm,ks⟩:=t;rw[szF] at hsz;simp only[F.kids];omega);have HSF:Hid (szF t=1+szsF t.kids):=Lib.hid (by obtain⟨o,z,nm,ks⟩:=t;rw[szF];rfl);obtain⟨o,ho⟩:∃ o,o=t.op:=⟨_,rfl⟩;obtain⟨nm,hnm⟩:∃ o,o=t.name:=⟨_,rfl⟩;obtain⟨ks,hks⟩:∃ o,o=t.kids:=⟨_,rfl⟩;rw[<-ho,<-hnm] at HF ⊢;rw[<-hks] at hkl hk hk8 HKT HSZ HSF;have HKS:=Lib.hid hks;have HN:=Lib.hid hkl;have HFL:=Lib.hid hk
  have HST:=Lib.hid hst;have HST0:=Lib.hid hst;have IH:=Lib.hid ih;have HD:Hid (d<=9):=Lib.hid (by omega);have hkm':kc<=9223372036854775807:=hkm;have hkl8:kl<=8:=by omega
  have HP0:=Lib.hid (Stp.refl B k w);clear hst h hrt htg hd hsz hr hz hkl hkm hk ih ho hnm hks hk8;go_enter Tryz.func71,Tryz.ntmps71;obtain⟨x1,kf,ef,ekf,hbf,hkf,HBf⟩:=newV w #[.int .i64 o,.bool b,.slice ao l c,.string nm,.slice ko kl kc] 29;replace HST:=Lib.hid (HST.out.below hbf.out);replace HP0:=Lib.hid (HP0.out.trans (Stp.of_below hbf.out));obtain⟨⟨c0,c1,c2,c3,c4⟩,-⟩:=cells5V HBf.out;obtain⟨kb,hkb⟩:∃ k,x1.heap.size=k:=⟨_,rfl⟩;go_upto_region 2 with (first | (at_make;refine wpList_make_El idR 0 rfl (fun _=>trivial) _ rfl _ _ rfl x1.heap.size _ _ _ _ kl rfl rfl (by first | rfl | simp) (by first | rfl | simp) (by omega) (Nat.le_refl _) ?_;intro y2 hrow hb2) | fail);rw[hkb] at hrow;have HR:=Lib.hid (show idR.Row y2 kb (.slice (some ⟨kb,0,none⟩) kl kl) (List.replicate kl 0) from hrow)
  have HKW:Hid (w.heap.size<=kb):=Lib.hid (by rw[<-hkb];exact HP0.out.size);have HS2:Hid (St B k (fun g=>E g\/g=kb) L s y2):=Lib.hid (by
   have h1:=HST.out.own (v:=.slice (some ⟨kb,0,none⟩) kl kl) (g:=kb) hb2 rfl (by rw[hkb];exact Nat.le_refl _) (HR.out.ge rfl).2;exact h1.less (fun g hg=>hg.imp id (fun e=>by rw[e];rfl)))
  replace HBf:=kBV hb2 HBf;replace HP0:=Lib.hid (HP0.out.trans (Stp.of_below hb2));have HKF:Hid (kf<y2.heap.size):=Lib.hid (lt_of_block HBf.out);clear hrow hb2 hkb c0 c1 c2 c3 c4;obtain⟨⟨c0,c1,c2,c3,c4⟩,-⟩:=cells5V HBf.out;go_wp2_with fail;clear c0 c1 c2 c3 c4;go_loopw [15] (fun i wr=>∃ (j:Nat) (el:List Nat) (s':List F),i=.int .i64 (j:Nat)/\j<=kl/\Hid (el.length=kl)/\Hid (St B k (fun g=>E g\/g=kb) L s' wr)/\Hid (Ext s s' (szsF (ks.take j)))/\Hid (∀ q (h1:q<el.length) (h2:q<ks.length),q<j->s'[el[q]]?=some ks[q])/\Hid (idR.Row wr kb (.slice (some ⟨kb,0,none⟩) kl kl) el)/\Hid (Stp B k w wr)/\Hid (wr.heap[kf]?=some (.cells #[.int .i64 o,.bool b,.slice ao l c,.string nm,.slice ko kl kc] 29 (0,0)))) (fun i _=>kl - (intOf i).toNat)
  case atStart=>exact⟨0,_,s,rfl,Nat.zero_le _,Lib.hid List.length_replicate,HS2,Lib.hid (by rw[List.take_zero,szsF];exact Ext.refl s),Lib.hid (fun q _ _ h=>absurd h (Nat.not_lt_zero _)),HR,HP0,HBf⟩
  case round =>
   clear HR HS2 HP0 HBf HST;obtain⟨j,el,s',rfl,hj,HE,HST,HEX,HT,HR,HP,HBf⟩:=hrel;by_cases hlt:j<kl
   ·have hjl:j<ks.length:=by rw[<-HN.out];exact hlt
    have HX:=Lib.hid (FL.grow HFL.out HP.out (E1:=fun g=>E g\/g=kb) (fun g hg=>hg.imp id (fun e=>by rw[e];exact HKW.out)));obtain⟨a,bb,qo,ql,qc,po,pl,pc,rfl,⟨c0,c1,c2,c3,c4⟩,hf⟩:=HX.out.cells j hjl;have HFC:=Lib.hid hf;have HKJ:=Lib.hid (HKT.out ks[j] (List.getElem_mem hjl));have HRM:Hid (s'.length+szF ks[j]<=900000/\szsF (ks.take (j+1))=szsF (ks.take j)+szF ks[j]):=Lib.hid (by
     have h1:=HEX.out.len;have h2:=szsF_take ks j hjl;have h3:=szsF_take_le ks (j+1);have h4:=HSZ.out;exact⟨by omega,h2⟩)
    clear hf;obtain⟨x,hxx⟩:∃ x,x=ks[j].op:=⟨_,rfl⟩;obtain⟨ym,hym⟩:∃ x,x=ks[j].name:=⟨_,rfl⟩;rw[<-hxx] at c0 HFC;rw[<-hym] at c3 HFC;clear hxx hym;obtain⟨x4,k8,e8,ek8,hb8,hk8,HB8⟩:=newV wr #[.int .i64 x,.bool bb,.slice qo ql qc,.string ym,.slice po pl pc] 29;have hS4:=HST.out.below hb8.out;have hP4:=HP.out.trans (Stp.of_below hb8.out);have HFC4:=Lib.hid (HFC.out.stp (Stp.of_below hb8.out));replace HR:=Lib.hid (idR_stp HR.out (Stp.of_below (B:=B) (k:=k) hb8.out));replace HBf:=kBV hb8.out HBf;have HS4:=Lib.hid hS4;have HP4:=Lib.hid hP4;obtain⟨⟨g0,g1,g2,g3,g4⟩,fg0,fg1,fg2,fg3,fg4⟩:=cells5V HB8.out;clear hS4 hP4 HST HP HFC HX;go_wp2_with fail;refine (IH.out _ _ _ _ _ x4 _ ks[j] HS4.out HFC4.out HKJ.out.1 HKJ.out.2 HD.out HRM.out.1).mono ?_;rintro e x5 ⟨i,s2,rfl,q1,q2,q3,q4⟩
    clear c0 c1 c2 c3 c4 g0 fg0 g1 fg1 g2 fg2 g3 fg3 g4 fg4;have HS5:=Lib.hid q1;have HE5:=Lib.hid q2;have HI5:=Lib.hid q3;have HP5:=Lib.hid (HP4.out.trans q4);replace HR:=Lib.hid (idR_stp HR.out q4);replace HBf:Hid (x5.heap[kf]?=_):=Lib.hid ((q4.block kf (lt_of_block HBf.out) (NO.cells HBf.out (by decide))).trans HBf.out);clear q1 q2 q3 q4 HFC4;obtain⟨n0,nf0⟩:=idR_cell HR.out HE.out.symm (i:=j) (by rw[HE.out];exact hlt);go_wp2_with fail;go_roundw
    case rel =>
     obtain⟨r1,r2⟩:=idR_set HR.out j (by rw[HE.out];exact hlt) HE.out.symm i rfl;obtain⟨cc,hcc,h32⟩:=HR.out.n32 kb rfl;have hst6:=HS5.out.turnT (E':=fun g=>E g\/g=kb) r2 (fun g hg=>by
      injection hg with hg;subst hg;exact⟨.inr rfl,Nat.le_trans (by obtain⟨km,v0,us,M,hU⟩:=HST0.out;exact hU.sz) HKW.out,cc,_,hcc,by decide,h32⟩) (fun g hg=>.inl hg) (fun g hg=>by
      obtain⟨km,v0,us,M,hU⟩:=HS5.out;exact Nat.lt_of_lt_of_le (hU.ex g hg) r2.size)
     have hkw:=HST0.out;refine⟨j+1,el.set j i,s2,by go_num,hlt,Lib.hid (by rw[List.length_set];exact HE.out),Lib.hid hst6,Lib.hid (HEX.out.trans HE5.out (by rw[HRM.out.2];exact Nat.le_refl _)),Lib.hid (fun q h1 h2 h3=>?_),Lib.hid r1,Lib.hid (HP5.out.app r2 (fun g hg=>by injection hg with hg;rw[<-hg];exact HKW.out) (by obtain⟨km,v0,us,M,hU⟩:=hkw;exact lt_of_block hU.bk)),Lib.hid ((r2.block kf (lt_of_block HBf.out) (fun e=>by injection e with e;have h5:=HBf.out;rw[e,hcc] at h5;injection h5 with h5;injection h5 with _ h5;exact absurd h5 (by decide))).trans HBf.out)⟩;by_cases hqj:q=j
     ·subst hqj;rw[List.getElem_set_self];exact HI5.out
     rw[List.getElem_set_ne (fun e=>hqj e.symm)];exact HE5.out.get (HT.out q (by rw[List.length_set] at h1;exact h1) h2 (by omega))
    case measure=>simp[intOf];omega
   have ej:j=kl:=by omega
   subst ej;obtain⟨⟨c0,c1,c2,c3,c4⟩,-⟩:=cells5V HBf.out;go_wp2_with fail;have hids:el.map (fun i=>s'[i]?)=ks.map some:=by
    apply List.ext_getElem
    ·rw[List.length_map,List.length_map,HE.out,HN.out]
    intro q h1 h2;rw[List.length_map] at h1 h2;rw[List.getElem_map,List.getElem_map];exact HT.out q h1 h2 (by rw[<-HE.out];exact h1)
   have hS:=HST.out.less (E':=E) (fun g hg=>.inl hg);have hil:=idR_il (B:=B) (k:=k) (E:=E) HR.out (fun g hg he=>by
    injection hg with hg;obtain⟨km,v0,us,M,hU⟩:=HST0.out;have h1:=hU.ex g he;have h2:=HKW.out;have h3:kb=g:=hg;omega)
   rw[ids_idx hS.nd el ks hids,HKS.out] at hil;refine (putC_p wr hS (by have h1:=HEX.out.len;have h2:=HSZ.out;rw[show ks.take j=ks from List.take_of_length_le (by rw[<-HN.out];exact Nat.le_refl _)] at h1;omega) (d+1) _ _ (HF.out.stp HP.out) HG.out _ hil (by rw[<-HKS.out];exact ids_mem el ks hids)).mono ?_;rintro e x2 ⟨i,s2,rfl,q1,q2,q3,q4⟩;have H1:=Lib.hid q1;have H2:=Lib.hid q2;have H3:=Lib.hid q3;have H4:=Lib.hid (HP.out.trans q4);clear q1 q2 q3 q4 hS hil hids c0 c1 c2 c3 c4;go_wp2_with fail;go_ret;exact⟨i,s2,rfl,H1.out,HEX.out.trans H2.out (by rw[HSF.out,show ks.take j=ks from List.take_of_length_le (by rw[<-HN.out];exact Nat.le_refl _)];omega),H3.out,H4.out⟩
attribute [local go_sem] fieldV0 fieldV1 fieldV2 fieldV3
theorem visit_p (d:Nat):∀ (B k ks kt kv B0:Nat) (E:Nat->Prop) (L s T:List F) (v:Value) (ids:List Nat) (w:World) (i:Nat) (t:F),
  VSt B k ks kt kv B0 (.func (.func 118) #[] #[.pointer (some ⟨ks,0,none⟩),.pointer (some ⟨kt,0,none⟩),.pointer (some ⟨kv,0,none⟩)]) E L s T v ids w->s[i]?=some t->Tg d t ->
  Calls Tryz.prog 118 #[.int .i64 ((i:Nat):Int),.pointer (some ⟨ks,0,none⟩),.pointer (some ⟨kt,0,none⟩),.pointer (some ⟨kv,0,none⟩)] w fun e w'=>(∃ q,e=.returned q)/\∃ v' ids',VSt B k ks kt kv B0 (.func (.func 118) #[] #[.pointer (some ⟨ks,0,none⟩),.pointer (some ⟨kt,0,none⟩),.pointer (some ⟨kv,0,none⟩)]) E (vis L t) s (T++newT L (vis L t)) v' ids' w'/\Frv B k kt v v' w w':=by
 induction d with
 | zero=>intro B k ks kt kv B0 E L s T v ids w i t _ _ h;exact absurd h id
 | succ d ih =>
  intro B k ks kt kv B0 E L s T v ids w i t h hi htg;obtain⟨po,pc,rfl,hp1,hp2,-⟩:=h.row.form;have HRO:=Lib.hid h.room;have HP1:Hid (ids.length<=pc):=Lib.hid hp1;obtain⟨pn,hpn⟩:∃ n,n=ids.length:=⟨_,rfl⟩;rw[<-hpn] at h ⊢;have HV:=Lib.hid h;have HI:=Lib.hid hi;have HKT:Hid (∀ q ∈ t.kids,Tg d q):=Lib.hid htg.2.2.2.2;have HK8:Hid (t.kids.length<=8):=Lib.hid htg.2.2.2.1;have HLO:=Lib.hid h.lo;have IH:=Lib.hid ih;obtain⟨km,v0,us,M,hU⟩:=id h.st;obtain⟨g,cap,u,qo,ql,qc,q,⟨rfl,hil,hcap,hmx⟩,⟨-,-,-,-,-,-,c6⟩,-,-,hq⟩:=hU.node hi;have HU:=Lib.hid hU;have hmx':cap<=9223372036854775807:=hmx;have hpm:pc<=9223372036854775807:=hp2;have d1:=cell_at (v:=.slice (some ⟨g,0,none⟩) s.length cap) hU.bk 1 rfl;have s0:=cell_at (v:=.pointer (some ⟨k,0,none⟩)) h.bs 0 rfl
  obtain⟨cc,hcc,-⟩:=hU.row.n32 g rfl;have f6:=froz_at hcc (i*7+6);clear hcc hU h hi htg ih hpn hp1 hp2;cases q with
  | true =>
   have HQ:Hid (t ∈ L):=Lib.hid (hq.1 rfl);clear hq;go_enter Tryz.func118,Tryz.ntmps118;go_wp2_with fail;exact bodyPost_ret (results_none Tryz.results118 _ _ _) rfl ⟨⟨_,rfl⟩,_,ids,by rw[vis_old HQ.out,newT_refl,List.append_nil];exact HV.out,Frv.refl _ _ _ _ _⟩
  | false =>
   have HQ:Hid (t ∉ L):=Lib.hid (fun h=>by have:=hq.2 h;cases this);clear hq;go_enter Tryz.func118,Tryz.ntmps118;go_upto_region 3 with fail;obtain⟨w1,hw1⟩:∃ x,x=w.setCell ⟨g,i*7+6,none⟩ (.bool true):=⟨_,rfl⟩;rw[<-hw1];obtain⟨m1,m2,m3⟩:=stu_mark HU.out HI.out hw1;have HV1:=Lib.hid (HV.out.mark HQ.out m1 m2);have HF1:=Lib.hid (Frv.of_stp (kt:=kt) (v:=.slice po pn pc) m2 m3);clear m1 m2 m3 d1 s0 f6 c6 hw1;have s0:=cell_at (v:=.pointer (some ⟨k,0,none⟩)) HV1.out.bs 0 rfl;go_wp2_with fail;refine (sortS_p w1 HV1.out.st i t HI.out).mono ?_;rintro e w2 ⟨rfl,hb⟩;replace HF1:=Lib.hid (HF1.out.trans (Frv.of_below hb HV1.out.st.bases.2));replace HV1:=Lib.hid (HV1.out.below hb);clear hb s0;obtain⟨z,hz⟩:∃ z,z=srt t.op:=⟨_,rfl⟩;rw[<-hz];by_cases hz1:z=1
   ·have HNT:Hid (newT L (L++[t])=[]):=Lib.hid (by rw[newT_one,show nb t=false from decide_eq_false (by rw[<-hz,hz1];decide)];rfl);have e1:(z==1)=true:=by rw[hz1];rfl
    have e2:(z != 1)=false:=by rw[hz1];rfl
    clear hz hz1;go_upto_region 5 with fail;clear e1 e2;have HV2:=HV1;have HF2:=HF1;obtain⟨w5,hw5⟩:∃ x,x=w2:=⟨_,rfl⟩;rw[<-hw5] at HV2 HF2 ⊢;clear hw5 HV1 HF1;obtain⟨T1,hT1⟩:∃ x,x=T:=⟨_,rfl⟩;rw[<-hT1] at HV2;have HT1:Hid (T1=T++newT L (L++[t])):=Lib.hid (by rw[HNT.out,List.append_nil,hT1]);clear hT1 HNT;obtain⟨v1,hv1⟩:∃ x:Value,x=.slice po pn pc:=⟨_,rfl⟩;rw[<-hv1] at HV2;have HF3:Hid (Frv B k kt (.slice po pn pc) v1 w w5):=Lib.hid (by rw[hv1];exact HF2.out);clear hv1 HF2;obtain⟨ids1,hids1⟩:∃ x,x=ids:=⟨_,rfl⟩;rw[<-hids1] at HV2;clear hids1;obtain⟨qo,ql,qc,c5,hil5⟩:=HV2.out.st.nodeAt (by rw[HF3.out.hk];exact HU.out.bk) HI.out;obtain⟨ko5,kc5,e5,⟨hq1,hq2,-⟩,-⟩:=id hil5;have HIL:=Lib.hid hil5
    have HQL:Hid (ql=t.kids.length):=Lib.hid (by injection e5 with _ e5 _;rw[e5,List.length_map]);have hql:ql<=8:=by rw[HQL.out];exact HK8.out
    have hqm:qc<=9223372036854775807:=by injection e5 with _ _ e5;rw[e5];exact hq2
    have HCLO:Hid (∀ q ∈ t.kids,q ∈ s):=Lib.hid (fun q hq=>HV.out.st.cl' t (List.mem_of_getElem? HI.out) q hq);clear hil5 e5 hq1 hq2;go_wp2_with fail;clear c5;go_loopw [34] (fun iv wr=>∃ (j:Nat) (v':Value) (ids':List Nat),iv=.int .i64 (j:Nat)/\j<=ql/\Hid (VSt B k ks kt kv B0 (.func (.func 118) #[] #[.pointer (some ⟨ks,0,none⟩),.pointer (some ⟨kt,0,none⟩),.pointer (some ⟨kv,0,none⟩)]) E (viss (L++[t]) (t.kids.take j)) s (T1++newT (L++[t]) (viss (L++[t]) (t.kids.take j))) v' ids' wr)/\Hid (Frv B k kt v1 v' w5 wr)) (fun iv _=>ql - (intOf iv).toNat)
    case atStart=>exact⟨0,v1,ids1,rfl,Nat.zero_le _,Lib.hid (by rw[List.take_zero,viss,newT_refl,List.append_nil];exact HV2.out),Lib.hid (Frv.refl _ _ _ _ _)⟩
    case round =>
     obtain⟨j,v',ids',rfl,hj,HVJ,HFJ⟩:=hrel;by_cases hlt:j<ql
     ·have hjl:j<t.kids.length:=by rw[<-HQL.out];exact hlt
      obtain⟨a,rfl,ca⟩:=HIL.out.cellv HFJ.out (fun g hg=>.inr hg) j (by rw[List.length_map];exact hjl);obtain⟨i2,hi2⟩:∃ x,x=(t.kids.map (idx s))[j]'(by rw[List.length_map];exact hjl):=⟨_,rfl⟩;rw[<-hi2] at ca;have HI2:Hid (s[i2]?=some t.kids[j]):=Lib.hid (by rw[hi2,List.getElem_map];exact idx_get (HCLO.out _ (List.getElem_mem hjl)));have HTG:=Lib.hid (HKT.out t.kids[j] (List.getElem_mem hjl));have b0:=cell_at (v:=(.func (.func 118) #[] #[.pointer (some ⟨ks,0,none⟩),.pointer (some ⟨kt,0,none⟩),.pointer (some ⟨kv,0,none⟩)])) HVJ.out.bv 0 rfl;have HVT:=Lib.hid (viss_take (s:=L++[t]) hjl);clear hi2;go_wp2_with fail;refine (IH.out _ _ _ _ _ _ _ _ _ _ v' ids' wr i2 t.kids[j] HVJ.out HI2.out HTG.out).mono ?_;rintro e w6 ⟨⟨qv,rfl⟩,v2,ids2,hv2,hf2⟩;have HV6:=Lib.hid hv2
      have HF6:=Lib.hid (HFJ.out.trans hf2);clear hv2 hf2 ca b0;go_wp2_with fail;go_roundw
      case rel =>
       refine⟨j+1,v2,ids2,by go_num,hlt,Lib.hid ?_,HF6⟩;have h1:=HV6.out;rw[<-HVT.out,List.append_assoc,<-newT_trans (viss_ext _ _) (by rw[HVT.out];exact vis_ext _ _)] at h1;exact h1
      case measure=>simp[intOf];omega
     have ej:j=ql:=by omega
     have HFIN:Hid (viss (L++[t]) (t.kids.take j)=vis L t):=Lib.hid (by rw[vis_new HQ.out,ej,HQL.out,List.take_length]);go_wp2_with fail;refine bodyPost_end (results_none Tryz.results118 _ _ _) rfl ⟨⟨_,rfl⟩,v',ids',?_,HF3.out.trans HFJ.out⟩;have h1:=HVJ.out;rw[HFIN.out,HT1.out,List.append_assoc,<-newT_trans ⟨[t],rfl⟩ (by rw[vis_new HQ.out];exact viss_ext _ _)] at h1;exact h1
   have HNT:Hid (newT L (L++[t])=[t]):=Lib.hid (by rw[newT_one,show nb t=true from decide_eq_true (by rw[<-hz];exact hz1)];rfl);have e1:(z==1)=false:=beq_eq_false_iff_ne.2 hz1;have e2:(z != 1)=true:=by rw[bne,e1];rfl
   clear hz hz1;obtain⟨w3,kq,eq,ekq,hbq,hkq,HBq⟩:=newV w2 #[.int .i64 ((i:Nat):Int)] 116;have HR3:=Lib.hid (HV1.out.row.below hbq.out);have HV3:=Lib.hid (HV1.out.below hbq.out);have HF3:=Lib.hid (HF1.out.trans (Frv.of_below hbq.out HV1.out.st.bases.2));have HAT:=Lib.hid (idR_at (l:=[i]) HBq.out (by show 1<=maxLen;decide));have t0:=cell_at (v:=.slice po pn pc) HV1.out.bt 0 rfl;have HSZ:Hid (B0<=w3.heap.size):=Lib.hid (by
    have h1:=lt_of_block HV3.out.bs;have h2:=HV3.out.sz;exact h2)
   go_upto_region 5 with (first | (at_builtin;go_loud (refine El.Row.appendG (E:=idR) HR3.out rfl (.tmp 25) (.tmp 27) ⟨kq,0,none⟩ 1 1 rfl rfl rfl HAT.out (Nat.one_pos) (by have:=HRO.out.1;simp only[lsc,lsn];omega) HSZ.out ?_;intro v9 w9 r1 r2 r3;(obtain⟨o9,c9,hv9,hn9,hc9,-⟩:=id r1.form);(rw[lsa,show [i].length=1 from rfl] at hv9);(subst hv9);(have t1:=cell_at (v:=.slice po pn pc) ((r3.block kt (lt_of_block HV3.out.bt) (fun e=>by have h1:=(HV3.out.row.ge e.symm).1;have h2:=HLO.out.2.1;omega)).trans HV3.out.bt) 0 rfl);(have ft1:=froz_at ((r3.block kt (lt_of_block HV3.out.bt) (fun e=>by have h1:=(HV3.out.row.ge e.symm).1;have h2:=HLO.out.2.1;omega)).trans HV3.out.bt) 0))) | fail);obtain⟨w5,hw5⟩:∃ x,x=w9.setCell ⟨kt,0,none⟩ (.slice o9 (ids.length+1) c9):=⟨_,rfl⟩;rw[<-hw5]
   obtain⟨a1,a2⟩:=HV3.out.add (t:=t) HI.out (by have h1:=HV.out.tl;rw[lsa];simpa using h1) r1 r3 r2 hw5 (by intro z h;cases h) (by intro z h;cases h);clear t0 t1 ft1 e1 e2 hw5 r1 r2 r3 hn9 hc9;have HV2:=Lib.hid a1;replace HF3:=Lib.hid (HF3.out.trans a2);clear a1 a2 HV1 HF1 HV3 HR3;obtain⟨T1,hT1⟩:∃ x,x=T++[t]:=⟨_,rfl⟩;rw[<-hT1] at HV2;have HT1:Hid (T1=T++newT L (L++[t])):=Lib.hid (by rw[HNT.out,hT1]);clear hT1 HNT;obtain⟨v1,hv1⟩:∃ x:Value,x=.slice o9 (ids.length+1) c9:=⟨_,rfl⟩;rw[<-hv1] at HV2 HF3;clear hv1;obtain⟨ids1,hids1⟩:∃ x,x=ids++[i]:=⟨_,rfl⟩;rw[<-hids1] at HV2;clear hids1;obtain⟨qo,ql,qc,c5,hil5⟩:=HV2.out.st.nodeAt (by rw[HF3.out.hk];exact HU.out.bk) HI.out;obtain⟨ko5,kc5,e5,⟨hq1,hq2,-⟩,-⟩:=id hil5;have HIL:=Lib.hid hil5
   have HQL:Hid (ql=t.kids.length):=Lib.hid (by injection e5 with _ e5 _;rw[e5,List.length_map]);have hql:ql<=8:=by rw[HQL.out];exact HK8.out
   have hqm:qc<=9223372036854775807:=by injection e5 with _ _ e5;rw[e5];exact hq2
   have HCLO:Hid (∀ q ∈ t.kids,q ∈ s):=Lib.hid (fun q hq=>HV.out.st.cl' t (List.mem_of_getElem? HI.out) q hq);clear hil5 e5 hq1 hq2;go_wp2_with fail;clear c5;go_loopw [34] (fun iv wr=>∃ (j:Nat) (v':Value) (ids':List Nat),iv=.int .i64 (j:Nat)/\j<=ql/\Hid (VSt B k ks kt kv B0 (.func (.func 118) #[] #[.pointer (some ⟨ks,0,none⟩),.pointer (some ⟨kt,0,none⟩),.pointer (some ⟨kv,0,none⟩)]) E (viss (L++[t]) (t.kids.take j)) s (T1++newT (L++[t]) (viss (L++[t]) (t.kids.take j))) v' ids' wr)/\Hid (Frv B k kt v1 v' w5 wr)) (fun iv _=>ql - (intOf iv).toNat)
   case atStart=>exact⟨0,v1,ids1,rfl,Nat.zero_le _,Lib.hid (by rw[List.take_zero,viss,newT_refl,List.append_nil];exact HV2.out),Lib.hid (Frv.refl _ _ _ _ _)⟩
   case round =>
    obtain⟨j,v',ids',rfl,hj,HVJ,HFJ⟩:=hrel;by_cases hlt:j<ql
    ·have hjl:j<t.kids.length:=by rw[<-HQL.out];exact hlt
     obtain⟨a,rfl,ca⟩:=HIL.out.cellv HFJ.out (fun g hg=>.inr hg) j (by rw[List.length_map];exact hjl);obtain⟨i2,hi2⟩:∃ x,x=(t.kids.map (idx s))[j]'(by rw[List.length_map];exact hjl):=⟨_,rfl⟩;rw[<-hi2] at ca;have HI2:Hid (s[i2]?=some t.kids[j]):=Lib.hid (by rw[hi2,List.getElem_map];exact idx_get (HCLO.out _ (List.getElem_mem hjl)));have HTG:=Lib.hid (HKT.out t.kids[j] (List.getElem_mem hjl));have b0:=cell_at (v:=(.func (.func 118) #[] #[.pointer (some ⟨ks,0,none⟩),.pointer (some ⟨kt,0,none⟩),.pointer (some ⟨kv,0,none⟩)])) HVJ.out.bv 0 rfl;have HVT:=Lib.hid (viss_take (s:=L++[t]) hjl);clear hi2;go_wp2_with fail;refine (IH.out _ _ _ _ _ _ _ _ _ _ v' ids' wr i2 t.kids[j] HVJ.out HI2.out HTG.out).mono ?_;rintro e w6 ⟨⟨qv,rfl⟩,v2,ids2,hv2,hf2⟩;have HV6:=Lib.hid hv2
     have HF6:=Lib.hid (HFJ.out.trans hf2);clear hv2 hf2 ca b0;go_wp2_with fail;go_roundw
     case rel =>
      refine⟨j+1,v2,ids2,by go_num,hlt,Lib.hid ?_,HF6⟩;have h1:=HV6.out;rw[<-HVT.out,List.append_assoc,<-newT_trans (viss_ext _ _) (by rw[HVT.out];exact vis_ext _ _)] at h1;exact h1
     case measure=>simp[intOf];omega
    have ej:j=ql:=by omega
    have HFIN:Hid (viss (L++[t]) (t.kids.take j)=vis L t):=Lib.hid (by rw[vis_new HQ.out,ej,HQL.out,List.take_length]);go_wp2_with fail;refine bodyPost_end (results_none Tryz.results118 _ _ _) rfl ⟨⟨_,rfl⟩,v',ids',?_,HF3.out.trans HFJ.out⟩;have h1:=HVJ.out;rw[HFIN.out,HT1.out,List.append_assoc,<-newT_trans ⟨[t],rfl⟩ (by rw[vis_new HQ.out];exact viss_ext _ _)] at h1;exact h1
attribute [local go_sem] fieldV0 fieldV1 fieldV2 fieldV3
theorem append_freshA {P:Program} {w w':World} {t ty e:TypeId} {i:TypeInfo} {z:Value} (ht:P.underlying t=some (.slice e)) (hi:P.info? e=some i) (hz:i.zero=some z)
  {base n m c:Nat} {v v':Value} {xs news:List Value} (hown:w.ownsRow base e i.size v n xs) {a:Addr} (hl:news.length=m*i.size) (hnews:∀ j u,news[j]?=some u->w.cell? (a.add j)=some u) (h1:∀ u ∈ news,u.oneCell'=true)
  (h63:n+m<=1000000000) (hbytes:(n+m)*i.bytes<=140737488355328) (hzs:z.cells.size=i.size) (hsz:0<i.size)
  (hr:(Builtin.append_ #[t,t] ty #[v,.slice (some a) m c]).run P w=.ok v' w'):FreshF w v v':=by
 rcases hown.2 with ⟨rfl,rfl⟩ | ⟨g,cap,cur,rfl,hbg,hg,hnc,hcm,hcs,htake⟩
 ·have hx:xs=[]:=List.eq_nil_of_length_eq_zero (by simpa using hown.1);subst hx;obtain⟨v2,w2,hr2,ho2,_,_⟩:=run_append_own (P:=P) w w.heap.size t ty e i z i.size i.bytes ht hi hz rfl rfl hzs hsz (.slice none 0 0) 0 [] (World.ownsRow_nil w _ e i.size) a m c news hl hnews h1 (by unfold maxLen;omega) hbytes (Nat.le_refl _);rw[hr] at hr2;injection hr2 with e1 e2;subst e1;exact fun g hg=>.inr (ho2.lt g hg).1
 by_cases hroom:n+m<=cap
 ·have hfit:n*i.size+news.length<=cur.size:=by rw[hl,hcs,<-Nat.add_mul];exact Nat.mul_le_mul_right _ hroom
  rw[run_append_room (P:=P) w t ty e i ht hi g n cap cur hg a m c news hl hnews h1 hroom hfit] at hr;injection hr with e1 e2;subst e1;exact fun q hq=>.inl hq
 rw[run_append_grow (P:=P) w t ty e i z ht hi hz ⟨g,0,none⟩ n cap xs hown.1 (hown.cells (g:=g) rfl) a m c news hl hnews (by omega) (by omega) (growslice_fits (by omega) hbytes)] at hr;injection hr with e1 e2;subst e1;intro q hq;injection hq with hq;exact .inr (by rw[<-hq];exact Nat.le_refl _)
theorem row_freshA {α:Type} {E:El α} {w w':World} {B:Nat} {v x v':Value} {el ns:List α} (h:E.Row w B v el) (hx:E.At w x ns) (hlen:el.length+ns.length<=1000000) (ty:TypeId) (hr:(Builtin.append_ #[E.t,E.t] ty #[v,x]).run Tryz.prog w=.ok v' w'):FreshF w v v':=by
 obtain⟨i,hi,hz,hz1,hz2⟩:=info_parts E.info;obtain⟨ao,c,rfl,⟨-,-,h3⟩,h4⟩:=id hx;cases ao with
 | none =>
  have h0:ns=[]:=by
   cases ns with
   | nil=>rfl
   | cons a l=>obtain⟨_,hb,_⟩:=h4 0 (by simp);cases hb
  have hc:c=0:=h3 rfl;subst h0;subst hc;have hr2:=run_append_owned_none w B E.t ty E.e i E.n E.ht hi v el.length _ h.own;rw[show (List.length ([]:List α))=0 from rfl] at hr;rw[hr] at hr2;injection hr2 with e1 e2;subst e1;exact fun g hg=>.inl hg
 | some a =>
  have hl:(ns.flatMap E.f).length=ns.length*i.size:=by rw[hz1];exact flat_lenV E.f E.len ns
  have h1:∀ u ∈ ns.flatMap E.f,u.oneCell'=true:=fun u hu=>by
   obtain⟨b,_,hb⟩:=List.mem_flatMap.1 hu;exact E.one b u hb
  have hown:w.ownsRow B E.e i.size v el.length (el.flatMap E.f):=by rw[hz1];exact h.own
  exact append_freshA (P:=Tryz.prog) E.ht hi hz hown hl hx.news h1 (by omega) (by rw[hz2];exact Nat.le_trans (Nat.mul_le_mul hlen E.by_) (by decide)) (by rw[hz1];exact E.zs) (by rw[hz1];exact E.pos) hr
theorem El.Row.appendA {α:Type} {E:El α} {w:World} {B:Nat} {v x:Value} {el ns:List α} (h:E.Row w B v el) {ops:Array Oper} {rest:List Oper} {o:Oper} {a:Act} {Q:Exit->Act->World->Prop} (hgd:o.guard=none) (s y:Operand)
  (ho:o.op=.call { callee:=.builtin .append,args:=#[s,y],argTypes:=#[E.t,E.t] }) (hs:a.eval s=v) (hx:a.eval y=x) (hxs:E.At w x ns) (hlen:el.length+ns.length<=1000000) (hB:B<=w.heap.size)
  (hK:∀ v' w',E.Row w' B v' (el++ns)->FreshF w v v'->w.grownBy w' v.ownBlock->wpList Tryz.prog ops Q rest (a.put o.dst v') w'):wpList Tryz.prog ops Q (o::rest) a w:=by
 refine wpList_plain hgd fun K hk=>?_
 obtain⟨v',w',hr,h2,h3,h4,h5⟩:=h.run hxs o.type hlen hB;have hf:=row_freshA h hxs hlen o.type hr;unfold Oper.wp execOp;simp only[ho,resolve,invoke,builtin,Sem.run_bind,Sem.run_pure,Result.andThen_ok,List.map_toArray,List.map_cons,List.map_nil,hs,hx,hr];exact hk _ _ (hK v' w' h2 hf h5)
theorem listS_p {B k:Nat} {E:Nat->Prop} {L s:List F} (w:World) (h:St B k E L s w) (hnd:L.Nodup) (ao:Option Addr) (n c:Nat) (ids:List Nat) (ha:idR.At w (.slice ao n c) ids) (ts:List F) (hi:ids.map (fun i=>s[i]?)=ts.map some) (hl:n<=900000) :
  Calls Tryz.prog 70 #[.pointer (some ⟨k,0,none⟩),.slice ao n c] w fun e w'=>∃ v l,e=.returned v/\idR.Row w' w.heap.size v l/\l.map (fun i=>s[i]?)=(newT L (viss L ts)).map some/\St B k (fun g=>E g\/v.ownBlock=some g) (viss L ts) s w'/\Stp B k w w':=by
 obtain⟨ao',c',e,⟨ha1,ha2,-⟩,-⟩:=id ha;injection e with e1 e2 e3;subst e1;subst e3;have HN:Hid (n=ids.length):=Lib.hid e2;have HTL:Hid (ts.length=n):=Lib.hid (by rw[e2];exact map_some_len hi);have hcm:c<=9223372036854775807:=ha2;rw[<-e2] at ha1;have HA:=Lib.hid ha;have HI:=Lib.hid hi;have HS:=Lib.hid h;have HND:=Lib.hid hnd;have HBS:=Lib.hid h.bases;have HGD:=Lib.hid h.good;clear h hnd ha hi ha2 e2;go_enter Tryz.func70,Tryz.ntmps70;obtain⟨x1,ks,es,eks,hbs,hks,HBs⟩:=newV w #[.pointer (some ⟨k,0,none⟩)] 112;obtain⟨x2,kt,et,ekt,hbt,hkt,HBt⟩:=newV x1 #[.slice none 0 0] 114;obtain⟨x3,kv,ev_,ekv,hbv,hkv,HBv⟩:=newV x2 #[.nilFunc] 164;have HL1:Hid (w.heap.size<=ks/\ks<kt/\kt<kv):=Lib.hid (by
  have h1:=lt_of_block HBs.out;have h2:=lt_of_block HBt.out;have h3:=hks.out;have h4:=hkt.out;have h5:=hkv.out;exact⟨h3,by omega,by omega⟩)
 replace HBs:=kBV hbv.out (kBV hbt.out HBs);replace HBt:=kBV hbv.out HBt;have HS1:=HS.out.below hbs.out;have hb12:Below x1.heap.size x1 x3:=hbt.out.trans (hbv.out.mono hbt.out.size);have HS3:Hid (St B k (fun g=>E g\/g=kt\/g=kv) L s x3):=Lib.hid (HS1.turnT (below_grownV hb12 none) (fun g h=>by cases h) (fun g hg=>by
  have h0:=lt_of_block HBs.out;have h1:=hkt.out;have h2:=HL1.out;rcases hg with hg | hg | hg
  ·exact .inl hg
  ·exact .inr (by omega)
  ·exact .inr (by omega)) (fun g hg=>by
  have h1:=lt_of_block HBt.out;have h2:=lt_of_block HBv.out;rcases hg with hg | hg | hg
  ·obtain⟨km,v0,us,M,hU⟩:=HS1;exact Nat.lt_of_lt_of_le (hU.ex g hg) hb12.size
  ·rw[hg];exact h1
  rw[hg];exact h2))
 have HP3:Hid (Stp B k w x3):=Lib.hid ((Stp.of_below hbs.out).trans (Stp.of_below hb12));clear HS1 hb12;have v0:=cell_at (v:=.nilFunc) HBv.out 0 rfl;have fv0:=froz_at HBv.out 0;go_upto_region 4 with fail;obtain⟨x4,hx4⟩:∃ x,x=x3.setCell ⟨kv,0,none⟩ (.func (.func 118) #[] #[.pointer (some ⟨ks,0,none⟩),.pointer (some ⟨kt,0,none⟩),.pointer (some ⟨kv,0,none⟩)]):=⟨_,rfl⟩;rw[<-hx4];have hg4:x3.grownBy x4 (some kv):=by
  rw[hx4];refine grown_setCell ?_ _;exact World.grownBy.refl _ _
 have n32v:N32 (#[Value.nilFunc]:Array Value).toList:=by
  intro u hu z;simp only[List.mem_cons,List.not_mem_nil,or_false] at hu;rw[hu];intro h;cases h
 have hv4:x4.heap[kv]?=some (.cells #[.func (.func 118) #[] #[.pointer (some ⟨ks,0,none⟩),.pointer (some ⟨kt,0,none⟩),.pointer (some ⟨kv,0,none⟩)]] 164 (0,0)):=by
  rw[hx4];exact heap_setCell_same x3 kv 0 _ _ _ HBv.out
 have HV4:Hid (VSt B k ks kt kv x4.heap.size (.func (.func 118) #[] #[.pointer (some ⟨ks,0,none⟩),.pointer (some ⟨kt,0,none⟩),.pointer (some ⟨kv,0,none⟩)]) E L s [] (.slice none 0 0) [] x4):=Lib.hid {
  bs:=(hg4.block ks (lt_of_block HBs.out) (fun e=>by injection e with e;have:=HL1.out;omega)).trans HBs.out
  bt:=(hg4.block kt (lt_of_block HBt.out) (fun e=>by injection e with e;have:=HL1.out;omega)).trans HBt.out
  bv:=hv4
  row:=El.Row.nil _ _
  ids:=rfl
  st:=(HS3.out.turnT (E':=fun g=>E g\/g=kt\/g=kv) hg4 (fun g hg=>by
   injection hg with hg;subst hg;exact⟨.inr (.inr rfl),by have:=HL1.out;have:=HBS.out;omega,_,_,HBv.out,by decide,n32v⟩) (fun g hg=>.inl hg) (fun g hg=>by
   obtain⟨km,v0,us,M,hU⟩:=HS3.out
   exact Nat.lt_of_lt_of_le (hU.ex g hg) hg4.size)).less (fun g hg=>by
   rcases hg with hg | hg | hg
   ·exact .inl hg
   ·exact .inr (.inl hg)
   cases hg)
  nd:=HND.out
  tl:=Nat.zero_le _
  lo:=by
   have h1:=Nat.lt_of_lt_of_le (lt_of_block HBs.out) hg4.size;have h2:=Nat.lt_of_lt_of_le (lt_of_block HBt.out) hg4.size;have h3:=lt_of_block hv4;have h4:=HL1.out;have h5:=HBS.out;exact⟨by omega,h2,h1,h3⟩
  sz:=Nat.le_refl _ }
 have HP4:=Lib.hid (HP3.out.app hg4 (fun g hg=>by injection hg with hg;have:=HL1.out;omega) HBS.out.2);clear v0 fv0 hx4 hg4 n32v hv4 HS3 HP3;go_wp2_with fail;go_loopw [12] (fun iv wr=>∃ (j:Nat) (v':Value) (ids':List Nat),iv=.int .i64 (j:Nat)/\j<=n/\Hid (VSt B k ks kt kv x4.heap.size (.func (.func 118) #[] #[.pointer (some ⟨ks,0,none⟩),.pointer (some ⟨kt,0,none⟩),.pointer (some ⟨kv,0,none⟩)]) E (viss L (ts.take j)) s (newT L (viss L (ts.take j))) v' ids' wr)/\Hid (Frv B k kt (.slice none 0 0) v' x4 wr)) (fun iv _=>n - (intOf iv).toNat)
 case atStart=>exact⟨0,_,[],rfl,Nat.zero_le _,Lib.hid (by rw[List.take_zero,viss,newT_refl];exact HV4.out),Lib.hid (Frv.refl _ _ _ _ _)⟩
 case round =>
  obtain⟨j,v',ids',rfl,hj,HVJ,HFJ⟩:=hrel;have HPJ:=Lib.hid (HFJ.out.stp (w0:=w) (by have:=HL1.out;omega) (fun g hg=>by cases hg) HP4.out);by_cases hlt:j<n
  ·have hjl:j<ids.length:=by rw[<-HN.out];exact hlt
   have hjt:j<ts.length:=by rw[HTL.out];exact hlt
   obtain⟨a,rfl,ca⟩:=idR_cellv HA.out HPJ.out j hjl;obtain⟨i2,hi2⟩:∃ x,x=ids[j]:=⟨_,rfl⟩;rw[<-hi2] at ca;have HI2:Hid (s[i2]?=some ts[j]):=Lib.hid (by rw[hi2];exact map_some_get HI.out j hjl hjt);have HTG:=Lib.hid (HGD.out ts[j] (List.mem_of_getElem? HI2.out)).2;have b0:=cell_at (v:=(.func (.func 118) #[] #[.pointer (some ⟨ks,0,none⟩),.pointer (some ⟨kt,0,none⟩),.pointer (some ⟨kv,0,none⟩)])) HVJ.out.bv 0 rfl;have HVT:=Lib.hid (viss_take (s:=L) hjt);clear hi2;go_wp2_with fail;refine (visit_p 9 _ _ _ _ _ _ _ _ _ _ v' ids' wr i2 ts[j] HVJ.out HI2.out HTG.out).mono ?_;rintro e w6 ⟨⟨qv,rfl⟩,v2,ids2,hv2,hf2⟩;have HV6:=Lib.hid hv2;have HF6:=Lib.hid (HFJ.out.trans hf2);clear hv2 hf2 ca b0;go_wp2_with fail;go_roundw
   case rel =>
    refine⟨j+1,v2,ids2,by go_num,hlt,Lib.hid ?_,HF6⟩;have h1:=HV6.out;rw[<-HVT.out,<-newT_trans (viss_ext _ _) (by rw[HVT.out];exact vis_ext _ _)] at h1;exact h1
   case measure=>simp[intOf];omega
  have ej:j=n:=by omega
  have HFIN:Hid (ts.take j=ts):=Lib.hid (by rw[ej,<-HTL.out];exact List.take_length);obtain⟨po,pc,rfl,-⟩:=HVJ.out.row.form;have t0:=cell_at (v:=.slice po ids'.length pc) HVJ.out.bt 0 rfl;go_wp2_with fail;go_ret;have h1:=HVJ.out;rw[HFIN.out] at h1;exact⟨_,ids',rfl,idR_low h1.row (Nat.le_trans HP4.out.size (Nat.le_refl _)),h1.ids,h1.st.less (fun g hg=>hg.imp id .inr),HPJ.out⟩
def Turn (w:World) (v:Value) (w':World) (v':Value):Prop:=w.grownBy w' v.ownBlock/\KN w w'/\FreshF w v v'
theorem FT.turn {P:Nat->Prop} {w w':World} {v v':Value} {d:Nat} {u:FU} {t:F} (h:FT w (bs P v) d u t) (ht:Turn w v w' v'):FT w' (bs P v') d u t:=by
 refine (h.lt.grown ht.1 ht.2.1 (fun b hb=>hb.1.1)).mono fun b hb=>⟨fun e=>?_,hb.1.2⟩
 rcases ht.2.2 b e with h1 | h1
 ·exact hb.1.1 h1
 exact absurd hb.2 (by omega)
theorem FC.turn {P:Nat->Prop} {w w':World} {v v':Value} {d:Nat} {x:Value} {t:F} (h:FC w (bs P v) d x t) (ht:Turn w v w' v'):FC w' (bs P v') d x t:=by
 obtain⟨u,h1,h2⟩:=h;exact⟨u,h1,h2.turn ht⟩
def GR (w:World) (B:Nat) (P:Nat->Prop) (v:Value) (ts:List F):Prop:=∃ us:List FU,fR.Row w B v us/\Fs w (bs P v) us ts
theorem GR.nil (w:World) (B:Nat) (P:Nat->Prop):GR w B P (.slice none 0 0) []:=⟨[],El.Row.nil w B,Fs.nil w _⟩
theorem GR.below {P:Nat->Prop} {w w':World} {B:Nat} {v:Value} {ts:List F} (h:GR w B P v ts) (hb:Below w.heap.size w w'):GR w' B P v ts:=by
 obtain⟨us,h1,h2⟩:=h;exact⟨us,h1.below hb,h2.map fun _ _ _ h=>h.below hb⟩
theorem GR.form {P:Nat->Prop} {w:World} {B:Nat} {v:Value} {ts:List F} (h:GR w B P v ts):∃ ko kc,v=.slice ko ts.length kc/\ts.length<=kc/\kc<=9223372036854775807/\(ko=none->kc=0)/\∀ a,ko=some a->∃ g,a=⟨g,0,none⟩/\B<=g/\g<w.heap.size:=by
 obtain⟨us,h1,h2⟩:=h;obtain⟨ko,kc,hv,h3,h4,h5⟩:=h1.form;rw[h2.1] at hv h3;refine⟨ko,kc,hv,h3,h4,h5,fun a ha=>?_⟩;rcases h1.own.2 with ⟨hv2,-⟩ | ⟨g,cap,cur,hv2,_,hg,_,_,_⟩
 ·rw[hv,ha] at hv2;cases hv2
 rw[hv,ha] at hv2;injection hv2 with e1 e2 e3;injection e1 with e1;subst e1;exact⟨g,rfl,(h1.ge (j:=g) (by rw[hv,ha];rfl)).1,lt_of_block hg⟩
theorem GR.fg {P:Nat->Prop} {w:World} {B:Nat} {v:Value} {ts:List F} (h:GR w B P v ts) (hP:∀ b,B<=b->P b):FGl w P v ts:=by
 obtain⟨ko,kc,e,-,-,-,h9⟩:=h.form;obtain⟨us,h1,h2⟩:=h;refine⟨us,h1.at,fun a n c e2 _=>?_,h2.map fun _ _ _ h=>h.mono fun _ h=>h.2⟩;rw[e] at e2;injection e2 with e2;obtain⟨g,rfl,h3,-⟩:=h9 a e2;exact hP g h3
theorem GR.append {P:Nat->Prop} {w:World} {B:Nat} {v x:Value} {ts ns:List F} (h:GR w B P v ts) {ops:Array Oper} {rest:List Oper} {o:Oper} {a:Act} {Q:Exit->Act->World->Prop} (hgd:o.guard=none) (s y:Operand)
  (ho:o.op=.call { callee:=.builtin .append,args:=#[s,y],argTypes:=#[27,27] }) (hs:a.eval s=v) (hx:a.eval y=x) (hxs:FGl w (bs P v) x ns) (hlen:ts.length+ns.length<=1000000) (hB:B<=w.heap.size)
  (hK:∀ v' w',GR w' B P v' (ts++ns)->Turn w v w' v'->Below B w w'->wpList Tryz.prog ops Q rest (a.put o.dst v') w'):wpList Tryz.prog ops Q (o::rest) a w:=by
 obtain⟨us,h1,h2⟩:=h;obtain⟨xs,h3,-,h4⟩:=hxs;have hl:us.length+xs.length<=1000000:=by rw[h2.1,h4.1];exact hlen
 refine wpList_plain hgd fun K hk=>?_
 obtain⟨v',w',hr,r2,r3,r4,r5⟩:=h1.run h3 o.type hl hB;have hf:=row_freshA h1 h3 hl o.type hr;have ht:Turn w v w' v':=⟨r5,KN.of_fr r3,hf⟩;unfold Oper.wp execOp;simp only[ho,resolve,invoke,builtin,Sem.run_bind,Sem.run_pure,Result.andThen_ok,List.map_toArray,List.map_cons,List.map_nil,hs,hx];rw[show (Builtin.append_ #[27,27] o.type #[v,x]).run Tryz.prog w=_ from hr];exact hk _ _ (hK v' w' ⟨us++xs,r2,(h2.append h4).map fun _ _ _ h=>h.turn ht⟩ ht r4)
def orK (no:Int):Nat->List F->List F
 | _,[]=>[]
 | i,x::l=>(if (i:Int)<no then notF x else x)::orK no (i+1) l
theorem orK_append (no:Int) (x:F):∀ (l:List F) (i:Nat),orK no i (l++[x])=orK no i l++[if ((i+l.length:Nat):Int)<no then notF x else x]
 | [],i=>rfl
 | a::l,i=>by
  rw[List.cons_append,orK,orK,orK_append no x l (i+1),lsc,List.cons_append,show i+1+l.length=i+(l.length+1) by omega]
theorem orK_len (no:Int):∀ (l:List F) (i:Nat),(orK no i l).length=l.length
 | [],_=>rfl
 | a::l,i=>by rw[orK,lsc,lsc,orK_len no l]
theorem FGl.one {w:World} {S:Nat->Prop} {d g:Nat} {k:Int} {b:Bool} {o:Option Addr} {l c:Nat} {nm:ByteArray} {ko:Option Addr} {kl kc:Nat} {t:F} (h:FC w S d (.agg #[.int .i64 k,.bool b,.slice o l c,.string nm,.slice ko kl kc]) t) (hg:w.heap[g]?=some (.cells #[.int .i64 k,.bool b,.slice o l c,.string nm,.slice ko kl kc] 29 (0,0))) (hS:S g):FGl w S (.slice (some ⟨g,0,none⟩) 1 1) [t]:=by
 obtain⟨u,e,hu⟩:=h;unfold fV at e;injection e with e;injection e with e;simp only[List.cons.injEq,and_true] at e;obtain⟨e0,e1,e2,e3,e4⟩:=e;rw[e0,e1,e2,e3,e4] at hg;exact FGl.block (us:=[u]) hg rfl (show 1<=maxLen by decide) hS (Fs.cons hu (Fs.nil _ _))
theorem or_p (no:Int) (v:Value) (ts:List F) (S:Nat->Prop) (w:World) (h:FGl w S v ts) (hl:ts.length<=1000) :
  Calls Tryz.prog 78 #[.int .i64 no,v] w fun e w'=>∃ v',e=.returned v'/\(∃ d,FC w' (fun b=>S b\/w.heap.size<=b) d v' (orF (orK no 0 ts)))/\Below w.heap.size w w':=by
 obtain⟨d,hfl⟩:=h.fl;obtain⟨ko,kc,rfl,h1,h2,-⟩:=hfl.form;have hkm:kc<=9223372036854775807:=h2;obtain⟨n,hn⟩:∃ n,n=ts.length:=⟨_,rfl⟩;rw[<-hn] at h1 hl hfl ⊢;have HN:=Lib.hid hn;have HL:=Lib.hid hfl;clear h hn hfl h2;have HW:=Lib.hid (Below.refl w.heap.size w);go_enter Tryz.func78,Tryz.ntmps78;obtain⟨x1,kr,er,ekr,hbr,hkr,HBr⟩:=newV w #[.int .i64 0,.bool false,.slice none 0 0,.string ⟨#[]⟩,.slice none 0 0] 29;replace HW:=Lib.hid (HW.out.trans (hbr.out.mono HW.out.size));have HKr:Hid (w.heap.size<=kr):=hkr;obtain⟨P,hP⟩:∃ P:Nat->Prop,P=fun b=>(S b\/w.heap.size<=b)/\b≠kr:=⟨_,rfl⟩
 have HP:=Lib.hid hP;clear hP;have HPX:Hid (∀ b,x1.heap.size<=b->P b):=Lib.hid (fun b hb=>by rw[HP.out];have h3:=hbr.out.size;have h4:=lt_of_block HBr.out;exact⟨.inr (by omega),by omega⟩);go_wp2_with fail;go_loopw [5,10] (fun av iv wr=>∃ j:Nat,iv=.int .i64 (j:Nat)/\j<=n/\Hid (GR wr x1.heap.size P av (orK no 0 (ts.take j)))/\Hid (Below x1.heap.size x1 wr)) (fun _ iv _=>n - (intOf iv).toNat)
 case atStart=>exact⟨0,rfl,Nat.zero_le _,Lib.hid (GR.nil _ _ _),Lib.hid (Below.refl _ _)⟩
 case round =>
  obtain⟨j,rfl,hj,HR,HB⟩:=hrel;obtain⟨oo,oc,hov,ho1,ho2,ho3,ho4⟩:=HR.out.form;subst hov;obtain⟨L,hL⟩:∃ L,L=(orK no 0 (ts.take j)).length:=⟨_,rfl⟩;rw[<-hL] at HR ho1 ⊢;have HLN:Hid (L=(orK no 0 (ts.take j)).length/\L<=j):=Lib.hid ⟨hL,by rw[hL,orK_len,List.length_take];omega⟩;have HO4:=Lib.hid ho4;clear hL ho4;by_cases hlt:j<n
  ·have hjl:j<ts.length:=by rw[<-HN.out];exact hlt
   have HLW:=Lib.hid ((HL.out.ltF.below hbr.out).below HB.out);obtain⟨a,b,ao,l,c,po,pl,pc,rfl,⟨c0,c1,c2,c3,c4⟩,hx⟩:=HLW.out.cells j hjl;obtain⟨A,hA⟩:∃ x,x=ts[j]:=⟨_,rfl⟩;rw[<-hA] at c0 c3 hx;have HTK:Hid (orK no 0 (ts.take (j+1))=orK no 0 (ts.take j)++[if (j:Int)<no then notF A else A]):=Lib.hid (by rw[hA,List.take_succ_eq_append_getElem hjl,orK_append,List.length_take,Nat.zero_add,Nat.min_eq_left (Nat.le_of_lt hjl)]);clear hA;obtain⟨yop,hyop⟩:∃ x,x=A.op:=⟨_,rfl⟩;obtain⟨yn,hyn⟩:∃ x,x=A.name:=⟨_,rfl⟩;rw[<-hyop] at c0 hx;rw[<-hyn] at c3 hx;have HX:Hid (FC wr (fun b=>bs P (.slice oo L oc) b/\b<wr.heap.size) d (.agg #[.int .i64 yop,.bool b,.slice ao l c,.string yn,.slice po pl pc]) A):=Lib.hid (hx.mono fun g hg=>⟨⟨fun e=>by
    cases oo with
    | none=>cases e
    | some q =>
     obtain⟨g2,rfl,h3,h4⟩:=HO4.out q rfl;have e2:some g2=some g:=e;injection e2 with e2;have h5:=hg.2;have h6:=hbr.out.size;omega,by rw[HP.out];have h5:=hg.2;have h7:=HKr.out;exact⟨.inl hg.1,by omega⟩⟩,by have h5:=hg.2;have h6:=HB.out.size;have h7:=hbr.out.size;omega⟩)
   clear hx hyop hyn HLW;obtain⟨x2,kx,ex,ekx,hbx,hkx,HBx⟩:=newV wr #[.int .i64 yop,.bool b,.slice ao l c,.string yn,.slice po pl pc] 29;have HBw:=HB;have HRw:=HR;replace HB:=Lib.hid (HB.out.trans (hbx.out.mono HB.out.size));replace HR:=Lib.hid (HR.out.below hbx.out);have hXs:=HX;replace HX:=Lib.hid (HX.out.below hbx.out);clear hXs;have HKX:Hid (bs P (.slice oo L oc) kx):=Lib.hid ⟨fun e=>by
    cases oo with
    | none=>cases e
    | some q =>
     obtain⟨g2,rfl,h3,h4⟩:=HO4.out q rfl;have e2:some g2=some kx:=e;injection e2 with e2;have:=hkx.out;omega,HPX.out kx (by have h1:=hkx.out;have h2:=HBw.out.size;omega)⟩
   by_cases hno:(j:Int)<no
   ·have e1:decide (((j:Nat):Int)<no)=true:=decide_eq_true hno;rw[if_pos hno] at HTK;obtain⟨⟨u0,u1,u2,u3,u4⟩,fu0,fu1,fu2,fu3,fu4⟩:=cells5V HBx.out;obtain⟨x3,kp,ep,ekp,hbp,hkp,HBp⟩:=newV x2 #[.int .i64 yop,.bool b,.slice ao l c,.string yn,.slice po pl pc] 29;replace HR:=Lib.hid (HR.out.below hbp.out);replace HB:=Lib.hid (HB.out.trans (hbp.out.mono HB.out.size));have HBx2:=kBV hbp.out HBx;have HFP:Hid (FGl x3 (fun b=>bs P (.slice oo L oc) b/\b≠kx) (.slice (some ⟨kp,0,none⟩) 1 1) [A]):=Lib.hid (FGl.one ((HX.out.mono (fun b hb=>⟨hb.1,by have:=hb.2;have:=hkx.out;omega⟩)).below hbp.out) HBp.out ⟨⟨fun e=>by
     cases oo with
     | none=>cases e
     | some q =>
      obtain⟨g2,rfl,h3,h4⟩:=HO4.out q rfl;have e2:some g2=some kp:=e;injection e2 with e2;have h5:=hkp.out;have h6:=hbx.out.size;omega,HPX.out kp (by have h1:=hkp.out;have h2:=hbx.out.size;have h3:=HBw.out.size;omega)⟩,by have h1:=hkp.out;have h2:=lt_of_block HBx.out;omega⟩)
    go_wp2_with fail;refine (f11_p 17 _ _ _ x3).mono ?_;rintro e x4 ⟨rfl,hb⟩;clear c0 c1 c2 c3 c4 u0 u1 u2 u3 u4 fu0 fu1 fu2 fu3 fu4;replace HR:=Lib.hid (HR.out.below hb);replace HB:=Lib.hid (HB.out.trans (hb.mono HB.out.size));have HB4:=kBV hb HBx2;have HNF:Hid (∃ d,FC x4 (fun b=>bs P (.slice oo L oc) b/\b≠kx) d (.agg #[.int .i64 17,.bool false,.slice none 0 0,.string ⟨#[]⟩,.slice (some ⟨kp,0,none⟩) 1 1]) (notF A)):=Lib.hid (by
     obtain⟨d,hf⟩:=HFP.out.fl;exact⟨d+1,FC.mk ⟨by decide,by decide⟩ (nr0 x4) (hf.below hb)⟩)
    have HB4w:Hid (Below wr.heap.size wr x4):=Lib.hid (hbx.out.trans ((hbp.out.trans (hb.mono hbp.out.size)).mono hbx.out.size));clear HFP HBp HX hb;obtain⟨⟨u0,u1,u2,u3,u4⟩,fu0,fu1,fu2,fu3,fu4⟩:=cells5V HB4.out;go_upto_region 7 with fail;have ha1:=set5_same HB4.out (.int .i64 17) (.bool false) (.slice none 0 0) (.string ⟨#[]⟩) (.slice (some ⟨kp,0,none⟩) 1 1);have hra:Fr 29 x4 _:=.of_grown (grown5V (w:=x4) (k:=kx) (.int .i64 17) (.bool false) (.slice none 0 0) (.string ⟨#[]⟩) (.slice (some ⟨kp,0,none⟩) 1 1)) (fun j hj=>by injection hj with hj;subst hj;exact⟨_,HB4.out,n32_F⟩);have hg1:=grown5V (w:=x4) (k:=kx) (.int .i64 17) (.bool false) (.slice none 0 0) (.string ⟨#[]⟩) (.slice (some ⟨kp,0,none⟩) 1 1)
    obtain⟨W1,hW1⟩:∃ q,q=((((x4.setCell ⟨kx,0,none⟩ (.int .i64 17)).setCell ⟨kx,1,none⟩ (.bool false)).setCell ⟨kx,2,none⟩ (.slice none 0 0)).setCell ⟨kx,3,none⟩ (.string ⟨#[]⟩)).setCell ⟨kx,4,none⟩ (.slice (some ⟨kp,0,none⟩) 1 1):=⟨_,rfl⟩;rw[<-hW1] at ha1 hra hg1 ⊢;have hbw:=ext_below HB4w.out hg1 hkx.out;replace HR:=Lib.hid (HRw.out.below hbw);replace HB:=Lib.hid (HBw.out.trans (hbw.mono HBw.out.size));obtain⟨dn,hnf⟩:=HNF.out;have HNd:=Lib.hid ((hnf.grown hg1 (KN.of_fr hra) (fun b hb e=>hb.2 (by injection e with e;exact e.symm))).mono (S':=bs P (.slice oo L oc)) (fun b hb=>hb.1));have HSZ:Hid (wr.heap.size<=W1.heap.size):=Lib.hid hbw.size;have HB5:=Lib.hid ha1;clear u0 u1 u2 u3 u4 fu0 fu1 fu2 fu3 fu4 ha1 hra hg1 hbw hnf hW1 HB4 HB4w HNF
    obtain⟨⟨u0,u1,u2,u3,u4⟩,fu0,fu1,fu2,fu3,fu4⟩:=cells5V HB5.out;obtain⟨x8,kq,eq_,ekq,hbq,hkq,HBq⟩:=newV W1 #[.int .i64 17,.bool false,.slice none 0 0,.string ⟨#[]⟩,.slice (some ⟨kp,0,none⟩) 1 1] 29;replace HR:=Lib.hid (HR.out.below hbq.out);replace HB:=Lib.hid (HB.out.trans (hbq.out.mono HB.out.size));have HFG:Hid (FGl x8 (bs P (.slice oo L oc)) (.slice (some ⟨kq,0,none⟩) 1 1) [notF A]):=Lib.hid (FGl.one (HNd.out.below hbq.out) HBq.out ⟨fun e=>by
     cases oo with
     | none=>cases e
     | some q =>
      obtain⟨g2,rfl,h3,h4⟩:=HO4.out q rfl;have e2:some g2=some kq:=e;injection e2 with e2;have h5:=hkq.out;have h6:=HSZ.out;omega,HPX.out kq (by have h1:=hkq.out;have h2:=HSZ.out;have h3:=HBw.out.size;omega)⟩)
    go_wp2_with (at_builtin;refine GR.append HR.out rfl (.tmp 21) (.tmp 23) rfl rfl rfl HFG.out (by have h1:=HLN.out;simp only[lsc,lsn];omega) HB.out.size ?_;intro v9 w9 a1 a2 a3);go_roundw
    case rel=>exact⟨j+1,by go_num,hlt,Lib.hid (by rw[HTK.out];exact a1),Lib.hid (HB.out.trans (a3.mono (Nat.le_refl _)))⟩
    case measure=>simp[intOf];omega
   have e1:decide (((j:Nat):Int)<no)=false:=decide_eq_false hno;rw[if_neg hno] at HTK;have HSZ:Hid (wr.heap.size<=x2.heap.size):=Lib.hid hbx.out.size;obtain⟨⟨u0,u1,u2,u3,u4⟩,fu0,fu1,fu2,fu3,fu4⟩:=cells5V HBx.out;obtain⟨x8,kq,eq_,ekq,hbq,hkq,HBq⟩:=newV x2 #[.int .i64 yop,.bool b,.slice ao l c,.string yn,.slice po pl pc] 29;replace HR:=Lib.hid (HR.out.below hbq.out);replace HB:=Lib.hid (HB.out.trans (hbq.out.mono HB.out.size));have HFG:Hid (FGl x8 (bs P (.slice oo L oc)) (.slice (some ⟨kq,0,none⟩) 1 1) [A]):=Lib.hid (FGl.one ((HX.out.mono (fun b hb=>hb.1)).below hbq.out) HBq.out ⟨fun e=>by
    cases oo with
    | none=>cases e
    | some q =>
     obtain⟨g2,rfl,h3,h4⟩:=HO4.out q rfl;have e2:some g2=some kq:=e;injection e2 with e2;have h5:=hkq.out;have h6:=HSZ.out;omega,HPX.out kq (by have h1:=hkq.out;have h2:=HSZ.out;have h3:=HBw.out.size;omega)⟩)
   go_wp2_with (at_builtin;refine GR.append HR.out rfl (.tmp 21) (.tmp 23) rfl rfl rfl HFG.out (by have h1:=HLN.out;simp only[lsc,lsn];omega) HB.out.size ?_;intro v9 w9 a1 a2 a3);go_roundw
   case rel=>exact⟨j+1,by go_num,hlt,Lib.hid (by rw[HTK.out];exact a1),Lib.hid (HB.out.trans (a3.mono (Nat.le_refl _)))⟩
   case measure=>simp[intOf];omega
  have ej:j=n:=by omega
  subst ej;have HTA:Hid (ts.take j=ts):=Lib.hid (List.take_of_length_le (by rw[<-HN.out];exact Nat.le_refl _));rw[HTA.out] at HR;go_wp2_with fail;refine (f11_p 19 _ _ _ wr).mono ?_;rintro e x9 ⟨rfl,hb⟩;have HBr9:=kBV hb (kBV HB.out HBr);have HW9:=Lib.hid (HW.out.trans ((HB.out.trans (hb.mono HB.out.size)).mono HW.out.size));obtain⟨d9,HG⟩:=((HR.out.below hb).fg HPX.out).fl;have HZ:Hid (FC x9 P (d9+1) (.agg #[.int .i64 19,.bool false,.slice none 0 0,.string ⟨#[]⟩,.slice oo L oc]) (orF (orK no 0 ts))):=Lib.hid (FC.mk ⟨by decide,by decide⟩ (nr0 x9) HG);obtain⟨⟨r0,r1,r2,r3,r4⟩,fr0,fr1,fr2,fr3,fr4⟩:=cells5V HBr9.out;go_wp2_with fail;obtain⟨s1,s2⟩:=res5F HW9.out HBr9.out n32_F HKr.out (.int .i64 19) (.bool false) (.slice none 0 0) (.string ⟨#[]⟩) (.slice oo L oc)
  have hg:=grown5V (w:=x9) (k:=kr) (.int .i64 19) (.bool false) (.slice none 0 0) (.string ⟨#[]⟩) (.slice oo L oc);(try simp only[Exit.inBlock,Exit.then]);exact bodyPost_ret (v:=.agg #[.int .i64 19,.bool false,.slice none 0 0,.string ⟨#[]⟩,.slice oo L oc]) (by simp[results,Tryz.results78,go_sem,r0,r1,r2,r3,r4]) rfl ⟨_,rfl,⟨_,(HZ.out.grown hg (KN.of_fr s1) (fun b hb e=>by rw[HP.out] at hb;injection e with e;exact hb.2 e.symm)).mono (fun b hb=>by rw[HP.out] at hb;exact hb.1)⟩,s2⟩
end Go.Proofs.YtoncclhbdkjhmaaGreatDoor
