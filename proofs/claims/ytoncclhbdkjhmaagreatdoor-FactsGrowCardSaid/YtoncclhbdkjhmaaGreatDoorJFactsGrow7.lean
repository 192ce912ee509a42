/-
 Joined texts: FaR,FaS,FaX,FaY,FaZ,FaZa,FbA,FbB,FbD,FbC,FbE,FbF,FbP.
-/
import Derived.Laws.EntriesVeiled
import Derived.Test.YtoncclhbdkjhmaaGreatDoorJFactsGrow6
set_option maxHeartbeats 32000000
open Go renaming lt_of_block→ae,World→af,Value→ak,heap_setCell_same→aA,Calls→aV,maxLen→bn,heap_alloc_new→bz
open Go.Builtin renaming append_→gE
open Go.Lib renaming hid→aa
open Go.Proofs.Tryz renaming prog→aj,ntmps72→gW,func72→ja
open Go.Result renaming andThen_ok→jP
open Go.RowKit renaming Below→aB,intOf→eT
open Go.RowKit.Below renaming refl→ax
open Go.World.grownBy renaming refl→aE
open Go.World.ownsRow renaming stored→ff
open List renaming not_mem_nil→aK,map_cons→aL,cons_append→aM,mem_cons→aP,append_assoc→aS,mem_singleton→aX,map_nil→bg,setIfInBounds_toArray→bu,set_cons_succ→bQ,getElem_mem→bS,drop_succ_cons→bT,set_cons_zero→bW,drop_zero→cf,take_length→cz,length_set→cP,length_map→cQ,map_append→dF,append_nil→dG,take_of_length_le→eH,getElem_map→fg,mem_append→gO,drop_left→lT,map_toArray→mA,take_zero→pY
open Nat renaming le_refl→ag,zero_le→ah,le_trans→ai,lt_of_lt_of_le→az,add_right_cancel→bZ,add_mul→cO,mul_le_mul_right→de,reduceAdd→dV
namespace Go.Proofs.YtoncclhbdkjhmaaGreatDoor
open Go.RowKit
set_option maxRecDepth 100000
set_option linter.unusedVariables false
set_option linter.unusedSimpArgs false
attribute [local go_sem] cL cK cJ cI
theorem GG {B k:Nat} {E:Nat->Prop} {L s:List F} (w:af) (h:St B k E L s w) (hm:s.length+46<=900000) (i j l:Nat) (X U V:F) (hx:s[i]?=some X) (hu:s[j]?=some U) (hv:s[l]?=some V) (hg:∀ t ∈ kF X U V,Gd t) :
  aV aj 129 #[.pointer (some ⟨k,0,none⟩),.int .i64 ((i:Nat):Int),.int .i64 ((j:Nat):Int),.int .i64 ((l:Nat):Int)] w (qB B k E L s (kF X U V) 46 w):=by
 have HS:=aa h;have HM:=aa hm;have HX:=aa hx;have HU:=aa hu;have HV:=aa hv;have G1:=aa (hg (eZ [bH (cN (nF 0) U),bH (cN (nF 0) V),cN (nF 0) X]) (by simp[kF]));have G2:=aa (hg (eZ [bH (cN U (nF 0)),bH (cN V (nF 0)),cN (nF 0) X]) (by simp[kF]));have G3:=aa (hg (eZ [bH (cN (nF 0) U),bH (cN V (nF 0)),cN X (nF 0)]) (by simp[kF]));have G4:=aa (hg (eZ [bH (cN U (nF 0)),bH (cN (nF 0) V),cN X (nF 0)]) (by simp[kF]));have G5:=aa (hg (eZ [bH (bL U (nF 1)),bL X V]) (by simp[kF]));have G6:=aa (hg (eZ [bH (bL V (nF 1)),bL X U]) (by simp[kF]))
 have V2:=aa (cx (cx G1.out (x:=bH (cN (nF 0) U)) (by simp[eZ,bH,bL,cN,fe,fo,F.kids])) (x:=cN (nF 0) U) (by simp[eZ,bH,bL,cN,fe,fo,F.kids]));have V0:=aa (cx (cx G1.out (x:=bH (cN (nF 0) V)) (by simp[eZ,bH,bL,cN,fe,fo,F.kids])) (x:=cN (nF 0) V) (by simp[eZ,bH,bL,cN,fe,fo,F.kids]));have VW:=aa (cx (cx G2.out (x:=bH (cN U (nF 0))) (by simp[eZ,bH,bL,cN,fe,fo,F.kids])) (x:=cN U (nF 0)) (by simp[eZ,bH,bL,cN,fe,fo,F.kids]));have VV:=aa (cx (cx G2.out (x:=bH (cN V (nF 0))) (by simp[eZ,bH,bL,cN,fe,fo,F.kids])) (x:=cN V (nF 0)) (by simp[eZ,bH,bL,cN,fe,fo,F.kids]));have VZ:=aa (cx G1.out (x:=cN (nF 0) X) (by simp[eZ,bH,bL,cN,fe,fo,F.kids]))
 have VT:=aa (cx G3.out (x:=cN X (nF 0)) (by simp[eZ,bH,bL,cN,fe,fo,F.kids]));have HT:=aa (cA.refl B k w);clear h hm hx hu hv hg;go_enter Tryz.func129,Tryz.ntmps129;obtain⟨z1,kS,eS,UJ,Iq,Ud,bP⟩:=aW w #[.pointer (some ⟨k,0,none⟩)] 112;obtain⟨z2,kf,ef,ki,cn,jC,aG⟩:=aW z1 #[.int .i64 ((i:Nat):Int)] 116;replace bP:=aa ((cn.out.block kS (ae bP.out)).trans bP.out);have IY:=aa ((HS.out.below Iq.out).below cn.out);have FH:=aa ((HT.out.trans (.aH Iq.out)).trans (.aH cn.out));clear HS HT;go_upto_region 5 with fail;have iC:Hid (∀ i j,i<53->j<53->i≠j->(fun i=>i+17) i≠(fun i=>i+17) j):=aa (fun i j _ _ h e=>h (bZ e))
 have iS:Hid (∀ i,i<53->(fun i=>i+17) i<70):=aa (fun i h=>by show i+17<70;omega)
 refine fP.region (by kernel_rfl) [[],[],[],[1,2],[],[],[1,2,3,4,5],[],[],[1,2,3,4,5,6,7,8],[0,1,2,3,4,5,6,7,8,9],[],[],[],[0,1,2,3,4,5,6,7,8,9,10,12,13],[],[],[0,1,2,3,4,5,6,7,8,9,10,12,13,14,15,16],[],[],[0,1,2,3,4,5,6,7,8,9,10,12,13,14,15,16,17,18,19],[0,1,2,3,4,5,6,7,8,9,10,11,12,13,14,15,16,17,18,19,20],[],[],[],[0,1,2,3,4,5,6,7,8,9,10,11,12,13,14,15,16,17,18,19,20,21,23,24],[],[],[0,1,2,3,4,5,6,7,8,9,10,11,12,13,14,15,16,17,18,19,20,21,23,24,25,26,27],[],[],[0,1,2,3,4,5,6,7,8,9,10,11,12,13,14,15,16,17,18,19,20,21,23,24,25,26,27,28,29,30],[0,1,2,3,4,5,6,7,8,9,10,11,12,13,14,15,16,17,18,19,20,21,22,23,24,25,26,27,28,29,30,31],[],[],[],[0,1,2,3,4,5,6,7,8,9,10,11,12,13,14,15,16,17,18,19,20,21,22,23,24,25,26,27,28,29,30,31,32,34,35],[],[],[0,1,2,3,4,5,6,7,8,9,10,11,12,13,14,15,16,17,18,19,20,21,22,23,24,25,26,27,28,29,30,31,32,34,35,36,37,38],[],[],[0,1,2,3,4,5,6,7,8,9,10,11,12,13,14,15,16,17,18,19,20,21,22,23,24,25,26,27,28,29,30,31,32,34,35,36,37,38,39,40,41],[0,1,2,3,4,5,6,7,8,9,10,11,12,13,14,15,16,17,18,19,20,21,22,23,24,25,26,27,28,29,30,31,32,33,34,35,36,37,38,39,40,41,42],[],[],[],[0,1,2,3,4,5,6,7,8,9,10,11,12,13,14,15,16,17,18,19,20,21,22,23,24,25,26,27,28,29,30,31,32,33,34,35,36,37,38,39,40,41,42,43,44,45,46],[],[],[],[0,1,2,3,4,5,6,7,8,9,10,11,12,13,14,15,16,17,18,19,20,21,22,23,24,25,26,27,28,29,30,31,32,33,34,35,36,37,38,39,40,41,42,43,44,45,46,47,48,49,50],[0,1,2,3,4,5,6,7,8,9,10,11,12,13,14,15,16,17,18,19,20,21,22,23,24,25,26,27,28,29,30,31,32,33,34,35,36,37,38,39,40,41,42,43,44,45,46,47,48,49,50,51],[0,1,2,3,4,5,6,7,8,9,10,11,12,13,14,15,16,17,18,19,20,21,22,23,24,25,26,27,28,29,30,31,32,33,34,35,36,37,38,39,40,41,42,43,44,45,46,47,48,49,50,51,52]] 53 (by kernel_rfl) (by kernel_rfl) (JX B k E L z2 s _ 53 (fun i=>i+17) (fun i=>[0,0,0,2,0,0,2,0,0,2,3,0,0,0,2,0,0,2,0,0,2,3,0,0,0,2,0,0,2,0,0,2,3,0,0,0,2,0,0,2,0,0,2,3,0,0,0,5,0,0,0,5,0].getD i 0) (Ab B k E [.eqv (.func (.func 172) #[] #[.pointer (some ⟨kS,0,none⟩)]),.eqv (.func (.func 170) #[] #[.pointer (some ⟨kS,0,none⟩)]),.eqv (.int .i64 ((j:Nat):Int)),.iW (cN (nF 0) U),.eqv (.func (.func 170) #[] #[.pointer (some ⟨kS,0,none⟩)]),.eqv (.int .i64 ((l:Nat):Int)),.iW (cN (nF 0) V),.eqv (.func (.func 170) #[] #[.pointer (some ⟨kS,0,none⟩)]),.eqv (.int .i64 ((i:Nat):Int)),.iW (cN (nF 0) X),.iW (eZ [bH (cN (nF 0) U),bH (cN (nF 0) V),cN (nF 0) X]),.eqv (.func (.func 172) #[] #[.pointer (some ⟨kS,0,none⟩)]),.eqv (.func (.func 171) #[] #[.pointer (some ⟨kS,0,none⟩)]),.eqv (.int .i64 ((j:Nat):Int)),.iW (cN U (nF 0)),.eqv (.func (.func 171) #[] #[.pointer (some ⟨kS,0,none⟩)]),.eqv (.int .i64 ((l:Nat):Int)),.iW (cN V (nF 0)),.eqv (.func (.func 170) #[] #[.pointer (some ⟨kS,0,none⟩)]),.eqv (.int .i64 ((i:Nat):Int)),.iW (cN (nF 0) X),.iW (eZ [bH (cN U (nF 0)),bH (cN V (nF 0)),cN (nF 0) X]),.eqv (.func (.func 172) #[] #[.pointer (some ⟨kS,0,none⟩)]),.eqv (.func (.func 170) #[] #[.pointer (some ⟨kS,0,none⟩)]),.eqv (.int .i64 ((j:Nat):Int)),.iW (cN (nF 0) U),.eqv (.func (.func 171) #[] #[.pointer (some ⟨kS,0,none⟩)]),.eqv (.int .i64 ((l:Nat):Int)),.iW (cN V (nF 0)),.eqv (.func (.func 171) #[] #[.pointer (some ⟨kS,0,none⟩)]),.eqv (.int .i64 ((i:Nat):Int)),.iW (cN X (nF 0)),.iW (eZ [bH (cN (nF 0) U),bH (cN V (nF 0)),cN X (nF 0)]),.eqv (.func (.func 172) #[] #[.pointer (some ⟨kS,0,none⟩)]),.eqv (.func (.func 171) #[] #[.pointer (some ⟨kS,0,none⟩)]),.eqv (.int .i64 ((j:Nat):Int)),.iW (cN U (nF 0)),.eqv (.func (.func 170) #[] #[.pointer (some ⟨kS,0,none⟩)]),.eqv (.int .i64 ((l:Nat):Int)),.iW (cN (nF 0) V),.eqv (.func (.func 171) #[] #[.pointer (some ⟨kS,0,none⟩)]),.eqv (.int .i64 ((i:Nat):Int)),.iW (cN X (nF 0)),.iW (eZ [bH (cN U (nF 0)),bH (cN (nF 0) V),cN X (nF 0)]),.eqv (.func (.func 173) #[] #[.pointer (some ⟨kS,0,none⟩),.pointer (some ⟨kf,0,none⟩)]),.eqv (.int .i64 ((j:Nat):Int)),.eqv (.int .i64 ((l:Nat):Int)),.iW (eZ [bH (bL U (nF 1)),bL X V]),.eqv (.func (.func 173) #[] #[.pointer (some ⟨kS,0,none⟩),.pointer (some ⟨kf,0,none⟩)]),.eqv (.int .i64 ((l:Nat):Int)),.eqv (.int .i64 ((j:Nat):Int)),.iW (eZ [bH (bL V (nF 1)),bL X U]),.xW [eZ [bH (cN (nF 0) U),bH (cN (nF 0) V),cN (nF 0) X],eZ [bH (cN U (nF 0)),bH (cN V (nF 0)),cN (nF 0) X],eZ [bH (cN (nF 0) U),bH (cN V (nF 0)),cN X (nF 0)],eZ [bH (cN U (nF 0)),bH (cN (nF 0) V),cN X (nF 0)],eZ [bH (bL U (nF 1)),bL X V],eZ [bH (bL V (nF 1)),bL X U]]])) (JF.start IY.out) ?_ ?_
 ·rintro d T wc n9 o ⟨s9,hJ⟩ ho hi hd aC cE;have hstep:=fun (v:ak) (s8:List F) (w2:af)=>hJ.step (v:=v) (s':=s8) (w':=w2) (jE (B:=B) (k:=k) (E:=E) _) iC.out (fun i hi=>az (iS.out i hi) (of_decide_eq_true rfl)) n9 hi hd
  have aU:=aa hJ.st;have bU:=aa (hJ.room n9 hi hd (N:=900000) (show s.length+46<=900000 from by have:=HM.out;omega));have m11:T[11]?=some (.func (.func 172) #[] #[.pointer (some ⟨kS,0,none⟩)]):=(hJ.gP 11 (by decide)).trans (by rfl);have m9:T[9]?=some (.func (.func 170) #[] #[.pointer (some ⟨kS,0,none⟩)]):=(hJ.gP 9 (by decide)).trans (by rfl);have m2:T[2]?=some (.int .i64 ((j:Nat):Int)):=(hJ.gP 2 (by decide)).trans (by rfl);have m3:T[3]?=some (.int .i64 ((l:Nat):Int)):=(hJ.gP 3 (by decide)).trans (by rfl);have m5:T[5]?=some (.pointer (some ⟨kf,0,none⟩)):=(hJ.gP 5 (by decide)).trans (by rfl);have bB:=(hJ.be.block kf (ae aG.out) (NO.cells aG.out (by decide))).trans aG.out;have Wm:=aq (v:=.int .i64 ((i:Nat):Int)) bB 0 rfl;clear bB
  have m10:T[10]?=some (.func (.func 171) #[] #[.pointer (some ⟨kS,0,none⟩)]):=(hJ.gP 10 (by decide)).trans (by rfl);have m12:T[12]?=some (.func (.func 173) #[] #[.pointer (some ⟨kS,0,none⟩),.pointer (some ⟨kf,0,none⟩)]):=(hJ.gP 12 (by decide)).trans (by rfl)
  obtain rfl | rfl | rfl | rfl | rfl | rfl | rfl | rfl | rfl | rfl | rfl | rfl | rfl | rfl | rfl | rfl | rfl | rfl | rfl | rfl | rfl | rfl | rfl | rfl | rfl | rfl | rfl | rfl | rfl | rfl | rfl | rfl | rfl | rfl | rfl | rfl | rfl | rfl | rfl | rfl | rfl | rfl | rfl | rfl | rfl | rfl | rfl | rfl | rfl | rfl | rfl | rfl | rfl:n9=0\/n9=1\/n9=2\/n9=3\/n9=4\/n9=5\/n9=6\/n9=7\/n9=8\/n9=9\/n9=10\/n9=11\/n9=12\/n9=13\/n9=14\/n9=15\/n9=16\/n9=17\/n9=18\/n9=19\/n9=20\/n9=21\/n9=22\/n9=23\/n9=24\/n9=25\/n9=26\/n9=27\/n9=28\/n9=29\/n9=30\/n9=31\/n9=32\/n9=33\/n9=34\/n9=35\/n9=36\/n9=37\/n9=38\/n9=39\/n9=40\/n9=41\/n9=42\/n9=43\/n9=44\/n9=45\/n9=46\/n9=47\/n9=48\/n9=49\/n9=50\/n9=51\/n9=52:=by omega
  all_goals (injection ho with ho)
  all_goals (subst ho)
  all_goals (try (clear hJ aC cE;refine⟨rfl,fun K9 hK=>?_⟩;have bA:=aa hstep;clear hstep;go_simp;exact hK.out _ _ (bA.out _ _ _ aU.out ((Ext.refl _).up (ah _)) (cA.refl _ _ _) rfl)))
  ·have OF:=hJ.vE 1 18 rfl (by decide) (aC 1 (by rfl)) (fun _ h=>h);have yB:=hJ.vE 2 19 rfl (by decide) (aC 2 (by rfl)) (fun _ h=>h);have ct:=aa hJ.ext;have iO:=(hJ.be.block kS (ae bP.out) (NO.cells bP.out (by decide))).trans bP.out;have lE:=(hJ.be.block kf (ae aG.out) (NO.cells aG.out (by decide))).trans aG.out;have m_:=aa iO;clear iO lE;clear hJ aC cE;refine⟨rfl,fun K9 hK=>?_⟩;have bA:=aa hstep;clear hstep;go_simp;refine (qQ wc aU.out bU.out j U (ct.out.get HU.out) V2.out kS m_.out).mono ?_;rintro e w8 ⟨i8,s8,rfl,p1,p2,p3,p4⟩;exact hK.out _ _ (bA.out _ _ _ p1 p2 p4 ⟨i8,rfl,p3⟩)
  ·have CO:=hJ.vE 4 21 rfl (by decide) (aC 4 (by rfl)) (fun _ h=>h);have CN:=hJ.vE 5 22 rfl (by decide) (aC 5 (by rfl)) (fun _ h=>h);have ct:=aa hJ.ext;have iO:=(hJ.be.block kS (ae bP.out) (NO.cells bP.out (by decide))).trans bP.out;have lE:=(hJ.be.block kf (ae aG.out) (NO.cells aG.out (by decide))).trans aG.out;have m_:=aa iO;clear iO lE;clear hJ aC cE;refine⟨rfl,fun K9 hK=>?_⟩;have bA:=aa hstep;clear hstep;go_simp;refine (qQ wc aU.out bU.out l V (ct.out.get HV.out) V0.out kS m_.out).mono ?_;rintro e w8 ⟨i8,s8,rfl,p1,p2,p3,p4⟩;exact hK.out _ _ (bA.out _ _ _ p1 p2 p4 ⟨i8,rfl,p3⟩)
  ·have Ck:=hJ.vE 7 24 rfl (by decide) (aC 7 (by rfl)) (fun _ h=>h);have JJ:=hJ.vE 8 25 rfl (by decide) (aC 8 (by rfl)) (fun _ h=>h);have ct:=aa hJ.ext;have iO:=(hJ.be.block kS (ae bP.out) (NO.cells bP.out (by decide))).trans bP.out;have lE:=(hJ.be.block kf (ae aG.out) (NO.cells aG.out (by decide))).trans aG.out;have m_:=aa iO;clear iO lE;clear hJ aC cE;refine⟨rfl,fun K9 hK=>?_⟩;have bA:=aa hstep;clear hstep;go_simp;refine (qQ wc aU.out bU.out i X (ct.out.get HX.out) VZ.out kS m_.out).mono ?_;rintro e w8 ⟨i8,s8,rfl,p1,p2,p3,p4⟩;exact hK.out _ _ (bA.out _ _ _ p1 p2 p4 ⟨i8,rfl,p3⟩)
  ·have OG:=hJ.vE 0 17 rfl (by decide) (aC 0 (by rfl)) (fun _ h=>h);obtain⟨i3,EG,H3⟩:=hJ.vI 3 20 rfl (by decide) (aC 3 (by rfl)) (fun _ h=>h);obtain⟨i6,Cl,H6⟩:=hJ.vI 6 23 rfl (by decide) (aC 6 (by rfl)) (fun _ h=>h);obtain⟨i9,OE,H9⟩:=hJ.vI 9 26 rfl (by decide) (aC 9 (by rfl)) (fun _ h=>h);have iO:=(hJ.be.block kS (ae bP.out) (NO.cells bP.out (by decide))).trans bP.out;have lE:=(hJ.be.block kf (ae aG.out) (NO.cells aG.out (by decide))).trans aG.out;have m_:=aa iO;clear iO lE;clear hJ aC cE;refine⟨rfl,fun K9 hK=>?_⟩;have bA:=aa hstep;clear hstep;go_simp;refine (wO wc aU.out bU.out i3 i6 i9 _ _ _ H3.out H6.out H9.out G1.out kS m_.out).mono ?_;rintro e w8 ⟨i8,s8,rfl,p1,p2,p3,p4⟩
   exact hK.out _ _ (bA.out _ _ _ p1 p2 p4 ⟨i8,rfl,p3⟩)
  ·have UP:=hJ.vE 12 29 rfl (by decide) (aC 12 (by rfl)) (fun _ h=>h);have So:=hJ.vE 13 30 rfl (by decide) (aC 13 (by rfl)) (fun _ h=>h);have ct:=aa hJ.ext;have iO:=(hJ.be.block kS (ae bP.out) (NO.cells bP.out (by decide))).trans bP.out;have lE:=(hJ.be.block kf (ae aG.out) (NO.cells aG.out (by decide))).trans aG.out;have m_:=aa iO;clear iO lE;clear hJ aC cE;refine⟨rfl,fun K9 hK=>?_⟩;have bA:=aa hstep;clear hstep;go_simp;refine (vn wc aU.out bU.out j U (ct.out.get HU.out) VW.out kS m_.out).mono ?_;rintro e w8 ⟨i8,s8,rfl,p1,p2,p3,p4⟩;exact hK.out _ _ (bA.out _ _ _ p1 p2 p4 ⟨i8,rfl,p3⟩)
  ·have Qo:=hJ.vE 15 32 rfl (by decide) (aC 15 (by rfl)) (fun _ h=>h);have UO:=hJ.vE 16 33 rfl (by decide) (aC 16 (by rfl)) (fun _ h=>h);have ct:=aa hJ.ext;have iO:=(hJ.be.block kS (ae bP.out) (NO.cells bP.out (by decide))).trans bP.out;have lE:=(hJ.be.block kf (ae aG.out) (NO.cells aG.out (by decide))).trans aG.out;have m_:=aa iO;clear iO lE;clear hJ aC cE;refine⟨rfl,fun K9 hK=>?_⟩;have bA:=aa hstep;clear hstep;go_simp;refine (vn wc aU.out bU.out l V (ct.out.get HV.out) VV.out kS m_.out).mono ?_;rintro e w8 ⟨i8,s8,rfl,p1,p2,p3,p4⟩;exact hK.out _ _ (bA.out _ _ _ p1 p2 p4 ⟨i8,rfl,p3⟩)
  ·have Yp:=hJ.vE 18 35 rfl (by decide) (aC 18 (by rfl)) (fun _ h=>h);have Bo:=hJ.vE 19 36 rfl (by decide) (aC 19 (by rfl)) (fun _ h=>h);have ct:=aa hJ.ext;have iO:=(hJ.be.block kS (ae bP.out) (NO.cells bP.out (by decide))).trans bP.out;have lE:=(hJ.be.block kf (ae aG.out) (NO.cells aG.out (by decide))).trans aG.out;have m_:=aa iO;clear iO lE;clear hJ aC cE;refine⟨rfl,fun K9 hK=>?_⟩;have bA:=aa hstep;clear hstep;go_simp;refine (qQ wc aU.out bU.out i X (ct.out.get HX.out) VZ.out kS m_.out).mono ?_;rintro e w8 ⟨i8,s8,rfl,p1,p2,p3,p4⟩;exact hK.out _ _ (bA.out _ _ _ p1 p2 p4 ⟨i8,rfl,p3⟩)
  ·have Sq:=hJ.vE 11 28 rfl (by decide) (aC 11 (by rfl)) (fun _ h=>h);obtain⟨i14,Sn,QL⟩:=hJ.vI 14 31 rfl (by decide) (aC 14 (by rfl)) (fun _ h=>h);obtain⟨i17,UN,Kb⟩:=hJ.vI 17 34 rfl (by decide) (aC 17 (by rfl)) (fun _ h=>h);obtain⟨i20,yA,PL⟩:=hJ.vI 20 37 rfl (by decide) (aC 20 (by rfl)) (fun _ h=>h);have iO:=(hJ.be.block kS (ae bP.out) (NO.cells bP.out (by decide))).trans bP.out;have lE:=(hJ.be.block kf (ae aG.out) (NO.cells aG.out (by decide))).trans aG.out;have m_:=aa iO;clear iO lE;clear hJ aC cE;refine⟨rfl,fun K9 hK=>?_⟩;have bA:=aa hstep;clear hstep;go_simp;refine (wO wc aU.out bU.out i14 i17 i20 _ _ _ QL.out Kb.out PL.out G2.out kS m_.out).mono ?_;rintro e w8 ⟨i8,s8,rfl,p1,p2,p3,p4⟩
   exact hK.out _ _ (bA.out _ _ _ p1 p2 p4 ⟨i8,rfl,p3⟩)
  ·have uz:=hJ.vE 23 40 rfl (by decide) (aC 23 (by rfl)) (fun _ h=>h);have xh:=hJ.vE 24 41 rfl (by decide) (aC 24 (by rfl)) (fun _ h=>h);have ct:=aa hJ.ext;have iO:=(hJ.be.block kS (ae bP.out) (NO.cells bP.out (by decide))).trans bP.out;have lE:=(hJ.be.block kf (ae aG.out) (NO.cells aG.out (by decide))).trans aG.out;have m_:=aa iO;clear iO lE;clear hJ aC cE;refine⟨rfl,fun K9 hK=>?_⟩;have bA:=aa hstep;clear hstep;go_simp;refine (qQ wc aU.out bU.out j U (ct.out.get HU.out) V2.out kS m_.out).mono ?_;rintro e w8 ⟨i8,s8,rfl,p1,p2,p3,p4⟩;exact hK.out _ _ (bA.out _ _ _ p1 p2 p4 ⟨i8,rfl,p3⟩)
  ·have uK:=hJ.vE 26 43 rfl (by decide) (aC 26 (by rfl)) (fun _ h=>h);have wG:=hJ.vE 27 44 rfl (by decide) (aC 27 (by rfl)) (fun _ h=>h);have ct:=aa hJ.ext;have iO:=(hJ.be.block kS (ae bP.out) (NO.cells bP.out (by decide))).trans bP.out;have lE:=(hJ.be.block kf (ae aG.out) (NO.cells aG.out (by decide))).trans aG.out;have m_:=aa iO;clear iO lE;clear hJ aC cE;refine⟨rfl,fun K9 hK=>?_⟩;have bA:=aa hstep;clear hstep;go_simp;refine (vn wc aU.out bU.out l V (ct.out.get HV.out) VV.out kS m_.out).mono ?_;rintro e w8 ⟨i8,s8,rfl,p1,p2,p3,p4⟩;exact hK.out _ _ (bA.out _ _ _ p1 p2 p4 ⟨i8,rfl,p3⟩)
  ·have Ao:=hJ.vE 29 46 rfl (by decide) (aC 29 (by rfl)) (fun _ h=>h);have Bm:=hJ.vE 30 47 rfl (by decide) (aC 30 (by rfl)) (fun _ h=>h);have ct:=aa hJ.ext;have iO:=(hJ.be.block kS (ae bP.out) (NO.cells bP.out (by decide))).trans bP.out;have lE:=(hJ.be.block kf (ae aG.out) (NO.cells aG.out (by decide))).trans aG.out;have m_:=aa iO;clear iO lE;clear hJ aC cE;refine⟨rfl,fun K9 hK=>?_⟩;have bA:=aa hstep;clear hstep;go_simp;refine (vn wc aU.out bU.out i X (ct.out.get HX.out) VT.out kS m_.out).mono ?_;rintro e w8 ⟨i8,s8,rfl,p1,p2,p3,p4⟩;exact hK.out _ _ (bA.out _ _ _ p1 p2 p4 ⟨i8,rfl,p3⟩)
  ·have vv:=hJ.vE 22 39 rfl (by decide) (aC 22 (by rfl)) (fun _ h=>h);obtain⟨i25,xg,VP⟩:=hJ.vI 25 42 rfl (by decide) (aC 25 (by rfl)) (fun _ h=>h);obtain⟨i28,Bn,PK⟩:=hJ.vI 28 45 rfl (by decide) (aC 28 (by rfl)) (fun _ h=>h);obtain⟨i31,UM,PJ⟩:=hJ.vI 31 48 rfl (by decide) (aC 31 (by rfl)) (fun _ h=>h);have iO:=(hJ.be.block kS (ae bP.out) (NO.cells bP.out (by decide))).trans bP.out;have lE:=(hJ.be.block kf (ae aG.out) (NO.cells aG.out (by decide))).trans aG.out;have m_:=aa iO;clear iO lE;clear hJ aC cE;refine⟨rfl,fun K9 hK=>?_⟩;have bA:=aa hstep;clear hstep;go_simp;refine (wO wc aU.out bU.out i25 i28 i31 _ _ _ VP.out PK.out PJ.out G3.out kS m_.out).mono ?_;rintro e w8 ⟨i8,s8,rfl,p1,p2,p3,p4⟩
   exact hK.out _ _ (bA.out _ _ _ p1 p2 p4 ⟨i8,rfl,p3⟩)
  ·have Qn:=hJ.vE 34 51 rfl (by decide) (aC 34 (by rfl)) (fun _ h=>h);have Qm:=hJ.vE 35 52 rfl (by decide) (aC 35 (by rfl)) (fun _ h=>h);have ct:=aa hJ.ext;have iO:=(hJ.be.block kS (ae bP.out) (NO.cells bP.out (by decide))).trans bP.out;have lE:=(hJ.be.block kf (ae aG.out) (NO.cells aG.out (by decide))).trans aG.out;have m_:=aa iO;clear iO lE;clear hJ aC cE;refine⟨rfl,fun K9 hK=>?_⟩;have bA:=aa hstep;clear hstep;go_simp;refine (vn wc aU.out bU.out j U (ct.out.get HU.out) VW.out kS m_.out).mono ?_;rintro e w8 ⟨i8,s8,rfl,p1,p2,p3,p4⟩;exact hK.out _ _ (bA.out _ _ _ p1 p2 p4 ⟨i8,rfl,p3⟩)
  ·have Sj:=hJ.vE 37 54 rfl (by decide) (aC 37 (by rfl)) (fun _ h=>h);have Ql:=hJ.vE 38 55 rfl (by decide) (aC 38 (by rfl)) (fun _ h=>h);have ct:=aa hJ.ext;have iO:=(hJ.be.block kS (ae bP.out) (NO.cells bP.out (by decide))).trans bP.out;have lE:=(hJ.be.block kf (ae aG.out) (NO.cells aG.out (by decide))).trans aG.out;have m_:=aa iO;clear iO lE;clear hJ aC cE;refine⟨rfl,fun K9 hK=>?_⟩;have bA:=aa hstep;clear hstep;go_simp;refine (qQ wc aU.out bU.out l V (ct.out.get HV.out) V0.out kS m_.out).mono ?_;rintro e w8 ⟨i8,s8,rfl,p1,p2,p3,p4⟩;exact hK.out _ _ (bA.out _ _ _ p1 p2 p4 ⟨i8,rfl,p3⟩)
  ·have e57:=hJ.vE 40 57 rfl (by decide) (aC 40 (by rfl)) (fun _ h=>h);have e58:=hJ.vE 41 58 rfl (by decide) (aC 41 (by rfl)) (fun _ h=>h);have ct:=aa hJ.ext;have iO:=(hJ.be.block kS (ae bP.out) (NO.cells bP.out (by decide))).trans bP.out;have lE:=(hJ.be.block kf (ae aG.out) (NO.cells aG.out (by decide))).trans aG.out;have m_:=aa iO;clear iO lE;clear hJ aC cE;refine⟨rfl,fun K9 hK=>?_⟩;have bA:=aa hstep;clear hstep;go_simp;refine (vn wc aU.out bU.out i X (ct.out.get HX.out) VT.out kS m_.out).mono ?_;rintro e w8 ⟨i8,s8,rfl,p1,p2,p3,p4⟩;exact hK.out _ _ (bA.out _ _ _ p1 p2 p4 ⟨i8,rfl,p3⟩)
  ·have nJ:=hJ.vE 33 50 rfl (by decide) (aC 33 (by rfl)) (fun _ h=>h);obtain⟨i36,Sk,VN⟩:=hJ.vI 36 53 rfl (by decide) (aC 36 (by rfl)) (fun _ h=>h);obtain⟨i39,Qk,VM⟩:=hJ.vI 39 56 rfl (by decide) (aC 39 (by rfl)) (fun _ h=>h);obtain⟨i42,e59,VL⟩:=hJ.vI 42 59 rfl (by decide) (aC 42 (by rfl)) (fun _ h=>h);have iO:=(hJ.be.block kS (ae bP.out) (NO.cells bP.out (by decide))).trans bP.out;have lE:=(hJ.be.block kf (ae aG.out) (NO.cells aG.out (by decide))).trans aG.out;have m_:=aa iO;clear iO lE;clear hJ aC cE;refine⟨rfl,fun K9 hK=>?_⟩;have bA:=aa hstep;clear hstep;go_simp;refine (wO wc aU.out bU.out i36 i39 i42 _ _ _ VN.out VM.out VL.out G4.out kS m_.out).mono ?_;rintro e w8 ⟨i8,s8,rfl,p1,p2,p3,p4⟩
   exact hK.out _ _ (bA.out _ _ _ p1 p2 p4 ⟨i8,rfl,p3⟩)
  ·have Yn:=hJ.vE 44 61 rfl (by decide) (aC 44 (by rfl)) (fun _ h=>h);have e62:=hJ.vE 45 62 rfl (by decide) (aC 45 (by rfl)) (fun _ h=>h);have Ym:=hJ.vE 46 63 rfl (by decide) (aC 46 (by rfl)) (fun _ h=>h);have ct:=aa hJ.ext;have iO:=(hJ.be.block kS (ae bP.out) (NO.cells bP.out (by decide))).trans bP.out;have lE:=(hJ.be.block kf (ae aG.out) (NO.cells aG.out (by decide))).trans aG.out;have m_:=aa iO;have y_:=aa lE;clear iO lE;clear hJ aC cE;refine⟨rfl,fun K9 hK=>?_⟩;have bA:=aa hstep;clear hstep;go_simp;refine (Ji wc aU.out bU.out j l i _ _ _ (ct.out.get HU.out) (ct.out.get HV.out) (ct.out.get HX.out) G5.out kS kf m_.out y_.out).mono ?_;rintro e w8 ⟨i8,s8,rfl,p1,p2,p3,p4⟩
   exact hK.out _ _ (bA.out _ _ _ p1 p2 p4 ⟨i8,rfl,p3⟩)
  ·have Yk:=hJ.vE 48 65 rfl (by decide) (aC 48 (by rfl)) (fun _ h=>h);have e66:=hJ.vE 49 66 rfl (by decide) (aC 49 (by rfl)) (fun _ h=>h);have Yj:=hJ.vE 50 67 rfl (by decide) (aC 50 (by rfl)) (fun _ h=>h);have ct:=aa hJ.ext;have iO:=(hJ.be.block kS (ae bP.out) (NO.cells bP.out (by decide))).trans bP.out;have lE:=(hJ.be.block kf (ae aG.out) (NO.cells aG.out (by decide))).trans aG.out;have m_:=aa iO;have y_:=aa lE;clear iO lE;clear hJ aC cE;refine⟨rfl,fun K9 hK=>?_⟩;have bA:=aa hstep;clear hstep;go_simp;refine (Ji wc aU.out bU.out l j i _ _ _ (ct.out.get HV.out) (ct.out.get HU.out) (ct.out.get HX.out) G6.out kS kf m_.out y_.out).mono ?_;rintro e w8 ⟨i8,s8,rfl,p1,p2,p3,p4⟩
   exact hK.out _ _ (bA.out _ _ _ p1 p2 p4 ⟨i8,rfl,p3⟩)
  obtain⟨i10,OD,PM⟩:=hJ.vI 10 27 rfl (by decide) (aC 10 (by rfl)) (fun _ h=>h);obtain⟨i21,yz,VQ⟩:=hJ.vI 21 38 rfl (by decide) (aC 21 (by rfl)) (fun _ h=>h);obtain⟨i32,IA,PI⟩:=hJ.vI 32 49 rfl (by decide) (aC 32 (by rfl)) (fun _ h=>h);obtain⟨i43,Yo,VK⟩:=hJ.vI 43 60 rfl (by decide) (aC 43 (by rfl)) (fun _ h=>h);obtain⟨i47,Yl,VJ⟩:=hJ.vI 47 64 rfl (by decide) (aC 47 (by rfl)) (fun _ h=>h);obtain⟨i51,Yi,VI⟩:=hJ.vI 51 68 rfl (by decide) (aC 51 (by rfl)) (fun _ h=>h);clear hJ aC cE;refine⟨rfl,fun K9 hK=>?_⟩;have bA:=aa hstep;clear hstep;go_simp
  have hal:aB wc.heap.size wc (wc.alloc _):=(ax _ _).alloc (ag _) (.cells #[.int .i64 ((i10:Nat):Int),.int .i64 ((i21:Nat):Int),.int .i64 ((i32:Nat):Int),.int .i64 ((i43:Nat):Int),.int .i64 ((i47:Nat):Int),.int .i64 ((i51:Nat):Int)] 116)
  exact hK.out _ _ (bA.out _ _ _ (aU.out.below hal) ((Ext.refl _).up (ah _)) (.aH hal) ⟨[i10,i21,i32,i43,i47,i51],IL.block (l:=[i10,i21,i32,i43,i47,i51]) (cs:=[.int .i64 ((i10:Nat):Int),.int .i64 ((i21:Nat):Int),.int .i64 ((i32:Nat):Int),.int .i64 ((i43:Nat):Int),.int .i64 ((i47:Nat):Int),.int .i64 ((i51:Nat):Int)]) (show (wc.alloc (.cells #[.int .i64 ((i10:Nat):Int),.int .i64 ((i21:Nat):Int),.int .i64 ((i32:Nat):Int),.int .i64 ((i43:Nat):Int),.int .i64 ((i47:Nat):Int),.int .i64 ((i51:Nat):Int)] 116)).heap[wc.heap.size]?=some (.cells [.int .i64 ((i10:Nat):Int),.int .i64 ((i21:Nat):Int),.int .i64 ((i32:Nat):Int),.int .i64 ((i43:Nat):Int),.int .i64 ((i47:Nat):Int),.int .i64 ((i51:Nat):Int)].toArray 116 (0,0)) from bz wc _) (by decide) (aU.out.fresh (ag _)) (by show 6<=bn;decide) rfl,by simp only[aL,bg,PM.out,VQ.out,PI.out,VK.out,VJ.out,VI.out]⟩)
 rintro T wt ⟨s9,hJ⟩;have a0:=hJ.vE 0 17 rfl (by decide) rfl (fun _ h=>h);have a1:=hJ.vE 1 18 rfl (by decide) rfl (fun _ h=>h);have a2:=hJ.vE 2 19 rfl (by decide) rfl (fun _ h=>h);obtain⟨i3,a3,H3⟩:=hJ.vI 3 20 rfl (by decide) rfl (fun _ h=>h);have a4:=hJ.vE 4 21 rfl (by decide) rfl (fun _ h=>h);have a5:=hJ.vE 5 22 rfl (by decide) rfl (fun _ h=>h);obtain⟨i6,a6,H6⟩:=hJ.vI 6 23 rfl (by decide) rfl (fun _ h=>h);have a7:=hJ.vE 7 24 rfl (by decide) rfl (fun _ h=>h);have a8:=hJ.vE 8 25 rfl (by decide) rfl (fun _ h=>h);obtain⟨i9,a9,H9⟩:=hJ.vI 9 26 rfl (by decide) rfl (fun _ h=>h);obtain⟨i10,yR,PM⟩:=hJ.vI 10 27 rfl (by decide) rfl (fun _ h=>h);have yQ:=hJ.vE 11 28 rfl (by decide) rfl (fun _ h=>h);have a12:=hJ.vE 12 29 rfl (by decide) rfl (fun _ h=>h)
 have yP:=hJ.vE 13 30 rfl (by decide) rfl (fun _ h=>h);obtain⟨i14,ES,QL⟩:=hJ.vI 14 31 rfl (by decide) rfl (fun _ h=>h);have JV:=hJ.vE 15 32 rfl (by decide) rfl (fun _ h=>h);have JU:=hJ.vE 16 33 rfl (by decide) rfl (fun _ h=>h);obtain⟨i17,JT,Kb⟩:=hJ.vI 17 34 rfl (by decide) rfl (fun _ h=>h);have JS:=hJ.vE 18 35 rfl (by decide) rfl (fun _ h=>h);have JR:=hJ.vE 19 36 rfl (by decide) rfl (fun _ h=>h);obtain⟨i20,a20,PL⟩:=hJ.vI 20 37 rfl (by decide) rfl (fun _ h=>h);obtain⟨i21,a21,VQ⟩:=hJ.vI 21 38 rfl (by decide) rfl (fun _ h=>h);have a22:=hJ.vE 22 39 rfl (by decide) rfl (fun _ h=>h);have O0:=hJ.vE 23 40 rfl (by decide) rfl (fun _ h=>h);have a24:=hJ.vE 24 41 rfl (by decide) rfl (fun _ h=>h);obtain⟨i25,OZ,VP⟩:=hJ.vI 25 42 rfl (by decide) rfl (fun _ h=>h)
 have OY:=hJ.vE 26 43 rfl (by decide) rfl (fun _ h=>h);have OX:=hJ.vE 27 44 rfl (by decide) rfl (fun _ h=>h);obtain⟨i28,a28,PK⟩:=hJ.vI 28 45 rfl (by decide) rfl (fun _ h=>h);have OW:=hJ.vE 29 46 rfl (by decide) rfl (fun _ h=>h);have OV:=hJ.vE 30 47 rfl (by decide) rfl (fun _ h=>h);obtain⟨i31,a31,PJ⟩:=hJ.vI 31 48 rfl (by decide) rfl (fun _ h=>h);obtain⟨i32,a32,PI⟩:=hJ.vI 32 49 rfl (by decide) rfl (fun _ h=>h);have OU:=hJ.vE 33 50 rfl (by decide) rfl (fun _ h=>h);have OT:=hJ.vE 34 51 rfl (by decide) rfl (fun _ h=>h);have U9:=hJ.vE 35 52 rfl (by decide) rfl (fun _ h=>h);obtain⟨i36,U8,VN⟩:=hJ.vI 36 53 rfl (by decide) rfl (fun _ h=>h);have a37:=hJ.vE 37 54 rfl (by decide) rfl (fun _ h=>h);have U7:=hJ.vE 38 55 rfl (by decide) rfl (fun _ h=>h)
 obtain⟨i39,U6,VM⟩:=hJ.vI 39 56 rfl (by decide) rfl (fun _ h=>h);have a40:=hJ.vE 40 57 rfl (by decide) rfl (fun _ h=>h);have U5:=hJ.vE 41 58 rfl (by decide) rfl (fun _ h=>h);obtain⟨i42,U4,VL⟩:=hJ.vI 42 59 rfl (by decide) rfl (fun _ h=>h);obtain⟨i43,U3,VK⟩:=hJ.vI 43 60 rfl (by decide) rfl (fun _ h=>h);have U2:=hJ.vE 44 61 rfl (by decide) rfl (fun _ h=>h);have U1:=hJ.vE 45 62 rfl (by decide) rfl (fun _ h=>h);have a46:=hJ.vE 46 63 rfl (by decide) rfl (fun _ h=>h);obtain⟨i47,U0,VJ⟩:=hJ.vI 47 64 rfl (by decide) rfl (fun _ h=>h);have UZ:=hJ.vE 48 65 rfl (by decide) rfl (fun _ h=>h);have a49:=hJ.vE 49 66 rfl (by decide) rfl (fun _ h=>h);have UY:=hJ.vE 50 67 rfl (by decide) rfl (fun _ h=>h);obtain⟨i51,a51,VI⟩:=hJ.vI 51 68 rfl (by decide) rfl (fun _ h=>h)
 obtain⟨Wc,UX,f52⟩:=hJ.val 52 (by decide) rfl;obtain⟨WS,Oq,UB⟩:=(show pW B k E Wc [eZ [bH (cN (nF 0) U),bH (cN (nF 0) V),cN (nF 0) X],eZ [bH (cN U (nF 0)),bH (cN V (nF 0)),cN (nF 0) X],eZ [bH (cN (nF 0) U),bH (cN V (nF 0)),cN X (nF 0)],eZ [bH (cN U (nF 0)),bH (cN (nF 0) V),cN X (nF 0)],eZ [bH (bL U (nF 1)),bL X V],eZ [bH (bL V (nF 1)),bL X U]] s9 wt from f52);have ZW:=aa Oq;have ZK:=aa UB;clear f52 Oq UB
 have hfr:=hJ.fin (fun i hi=>az (iS.out i hi) (of_decide_eq_true rfl)) rfl (.cons a0 (.cons a1 (.cons a2 (.cons a3 (.cons a4 (.cons a5 (.cons a6 (.cons a7 (.cons a8 (.cons a9 (.cons yR (.cons yQ (.cons a12 (.cons yP (.cons ES (.cons JV (.cons JU (.cons JT (.cons JS (.cons JR (.cons a20 (.cons a21 (.cons a22 (.cons O0 (.cons a24 (.cons OZ (.cons OY (.cons OX (.cons a28 (.cons OW (.cons OV (.cons a31 (.cons a32 (.cons OU (.cons OT (.cons U9 (.cons U8 (.cons a37 (.cons U7 (.cons U6 (.cons a40 (.cons U5 (.cons U4 (.cons U3 (.cons U2 (.cons U1 (.cons a46 (.cons U0 (.cons UZ (.cons a49 (.cons UY (.cons a51 (.cons UX .nil)))))))))))))))))))))))))))))))))))))))))))))))))))));have aU:=aa hJ.st;have gg:Hid (Ext s s9 46):=aa hJ.ext;have gK:=aa hJ.be
 clear hJ iC iS a0 a1 a2 a3 a4 a5 a6 a7 a8 a9 yR yQ a12 yP ES JV JU JT JS JR a20 a21 a22 O0 a24 OZ OY OX a28 OW OV a31 a32 OU OT U9 U8 a37 U7 U6 a40 U5 U4 U3 U2 U1 a46 U0 UZ a49 UY a51 UX;rw[hfr];clear hfr;simp only[jd,dV,bu,bW,bQ];simp only[bT,cf];go_wp2_with fail;go_ret;exact⟨_,s9,rfl,⟨WS,ZW.out,ZK.out⟩,aU.out,gg.out,FH.out.trans gK.out⟩
attribute [local go_sem] cL cK cJ cI
theorem IL.as {B k:Nat} {E:Nat->Prop} {w:af} {v:ak} {l l':List Nat} (h:IL B k E w v l) (e:l=l'):IL B k E w v l':=by
 subst e;exact h
theorem QZ {n k:Nat} (h:n<bf ^ 4) (hk:k=600):n<bf ^ k:=dZ h (by omega)
theorem Q3 {s:List F} {ids:List Nat} {x:F} (h:ids.map (fun i=>s[i]?)=[x].map some):ids.length<=900000:=by
 rw[<-cw h];show 1<=900000;decide
theorem GA {B k:Nat} {E:Nat->Prop} {L s:List F} (w:af) (h:St B k E L s w) (hm:s.length+5<=900000) (i j:Nat) (X A:F) (hx:s[i]?=some X) (ha:s[j]?=some A) (K:Int) (b:Bool) (ao:Option Addr) (l c:Nat) (hk:CI w (.agg #[.bool b,.slice ao l c]) K 600) (hg:∀ t ∈ [cN (ue K X) A,cN A (fe (ue K X) (nF (K - 1)))],Gd t) :
  aV aj 128 #[.pointer (some ⟨k,0,none⟩),.int .i64 ((i:Nat):Int),.int .i64 ((j:Nat):Int),.agg #[.bool b,.slice ao l c]] w (qB B k E L s [cN (ue K X) A,cN A (fe (ue K X) (nF (K - 1)))] 5 w):=by
 have HS:=aa h;have HM:=aa hm;have HX:=aa hx;have HA:=aa ha;have HK:=aa hk;have G1:=aa (hg (cN (ue K X) A) (by simp));have G2:=aa (hg (cN A (fe (ue K X) (nF (K - 1)))) (by simp));have G3:=aa (cx G2.out (x:=fe (ue K X) (nF (K - 1))) (by simp[ue,cN,fe,fo,F.kids]));have G4:=aa (cx G1.out (x:=ue K X) (by simp[ue,cN,fe,fo,F.kids]));have G5:=aa (cx G3.out (x:=nF (K - 1)) (by simp[ue,cN,fe,fo,F.kids]));have PF:=aa (QZ (k:=600) (n:=(K - 1).natAbs) G5.out.2.2.1 rfl);clear h hm hx ha hk hg;go_enter Tryz.func128,Tryz.ntmps128;obtain⟨z1,kS,eS,UJ,Iq,Ud,bP⟩:=aW w #[.bool b,.slice ao l c] 26;have lP:=aa (HS.out.below Iq.out);have mw:=aa (cA.aH (B:=B) (k:=k) Iq.out)
 have J':=aa (HK.out.below Iq.out);clear HS HK;go_upto_region 1 with fail;have iC:Hid (∀ i j,i<10->j<10->i≠j->(fun i=>i+11) i≠(fun i=>i+11) j):=aa (fun i j _ _ h e=>h (bZ e));have iS:Hid (∀ i,i<10->(fun i=>i+11) i<21):=aa (fun i h=>by show i+11<21;omega);refine fP.region (by kernel_rfl) [[],[],[],[],[3],[2,3,4],[1,2,3,4,5],[],[7],[0,1,2,3,4,5,6,7,8],[0,1,2,3,4,5,6,7,8,9]] 10 (by kernel_rfl) (by kernel_rfl) (JX B k E L z1 s _ 10 (fun i=>i+11) (fun i=>[0,0,0,0,0,0,0,0,0,1].getD i 0) (Ab B k E [.eqv (.pointer (some ⟨k,0,none⟩)),.eqv (.agg #[.bool b,.slice ao l c]),.eqv (.pointer (some ⟨k,0,none⟩)),.eqv (.int .i64 ((i:Nat):Int)),.xW [X],.fl [X],.fc (ue K X),.eqv (.int .i64 ((i:Nat):Int)),.xW [X],.iW (ue K X)])) (JF.start lP.out) ?_ ?_
 ·rintro d T wc n9 o ⟨s6,hJ⟩ ho hi hd aC cE;have hstep:=fun (v:ak) (s8:List F) (w2:af)=>hJ.step (v:=v) (s':=s8) (w':=w2) (jE (B:=B) (k:=k) (E:=E) _) iC.out (fun i hi=>az (iS.out i hi) (of_decide_eq_true rfl)) n9 hi hd
  have aU:=aa hJ.st;have bU:=aa (hJ.room n9 hi hd (N:=900000) (show s.length+1<=900000 from by have:=HM.out;omega));have m0:T[0]?=some (.pointer (some ⟨k,0,none⟩)):=(hJ.gP 0 (by decide)).trans (by rfl);have m1:T[1]?=some (.int .i64 ((i:Nat):Int)):=(hJ.gP 1 (by decide)).trans (by rfl);obtain rfl | rfl | rfl | rfl | rfl | rfl | rfl | rfl | rfl | rfl:n9=0\/n9=1\/n9=2\/n9=3\/n9=4\/n9=5\/n9=6\/n9=7\/n9=8\/n9=9:=by omega
  all_goals (injection ho with ho)
  all_goals (subst ho)
  all_goals (try (clear hJ aC cE;refine⟨rfl,fun K9 hK=>?_⟩;have bA:=aa hstep;clear hstep;go_simp;exact hK.out _ _ (bA.out _ _ _ aU.out ((Ext.refl _).up (ah _)) (cA.refl _ _ _) rfl)))
  ·have iF:=aa hJ.be;have es:T[7]?=some (.pointer (some ⟨kS,0,none⟩)):=(hJ.gP 7 (by decide)).trans (by rfl);have bB:=(iF.out.block kS (ae bP.out) (NO.cells bP.out (by decide))).trans bP.out;have q0:=aq (v:=.bool b) bB 0 rfl;have q1:=aq (v:=.slice ao l c) bB 1 rfl;clear bB;clear hJ aC cE;refine⟨rfl,fun K9 hK=>?_⟩;have bA:=aa hstep;clear hstep;go_simp;exact hK.out _ _ (bA.out _ _ _ aU.out ((Ext.refl _).up (ah _)) (cA.refl _ _ _) rfl)
  ·have Sr:=hJ.vE 3 14 rfl (by decide) (aC 3 (by rfl)) (fun _ h=>h);have ct:=aa hJ.ext;clear hJ aC cE;refine⟨rfl,fun K9 hK=>?_⟩;have bA:=aa hstep;clear hstep;go_simp;have hal:aB wc.heap.size wc (wc.alloc _):=(ax _ _).alloc (ag _) (.cells #[.int .i64 ((i:Nat):Int)] 116);exact hK.out _ _ (bA.out _ _ _ (aU.out.below hal) ((Ext.refl _).up (ah _)) (.aH hal) ⟨[i],IL.block (l:=[i]) (cs:=[.int .i64 ((i:Nat):Int)]) (show (wc.alloc (.cells #[.int .i64 ((i:Nat):Int)] 116)).heap[wc.heap.size]?=some (.cells [.int .i64 ((i:Nat):Int)].toArray 116 (0,0)) from bz wc _) (by decide) (aU.out.fresh (ag _)) (by show 1<=bn;decide) rfl,by simp only[aL,bg,ct.out.get HX.out]⟩)
  ·have Ss:=hJ.vE 2 13 rfl (by decide) (aC 2 (by rfl)) (fun _ h=>h);obtain⟨v4,MH,f4⟩:=hJ.val 4 (by decide) (aC 4 (by rfl));obtain⟨l4,LB,h4⟩:=(show pW B k E v4 [X] s6 wc from f4);obtain⟨Z_,Z',g4,-⟩:=id LB;rw[g4] at MH LB;replace MH:T[15]?=_:=MH;have A4:=aa LB;have H4:=aa h4;clear f4 LB h4 g4;clear hJ aC cE;refine⟨rfl,fun K9 hK=>?_⟩;have bA:=aa hstep;clear hstep;go_simp;refine (tL wc aU.out _ l4 A4.out [X] H4.out (Q3 H4.out)).mono ?_;rintro e w8 ⟨v8,rfl,p1,p2⟩;exact hK.out _ _ (bA.out _ _ _ (aU.out.below p2) ((Ext.refl _).up (ah _)) (.aH p2) p1)
  ·have Qp:=hJ.vE 1 12 rfl (by decide) (aC 1 (by rfl)) (fun _ h=>h);obtain⟨v5,JK,f5⟩:=hJ.val 5 (by decide) (aC 5 (by rfl));replace f5:FL wc (NS B k E wc) 9 v5 [X]:=f5;obtain⟨o5,l5,c5,g5⟩:=FL.nT f5;subst g5;replace JK:T[16]?=_:=JK;have H5:=aa f5;clear f5;have iF:=aa hJ.be;clear hJ aC cE;refine⟨rfl,fun K9 hK=>?_⟩;have bA:=aa hstep;clear hstep;go_simp;exact hK.out _ _ (bA.out _ _ _ aU.out ((Ext.refl _).up (ah _)) (cA.refl _ _ _) (FC.mk (op:=3) (nm:=⟨#[]⟩) ⟨by decide,by decide⟩ (CI.kn J'.out iF.out.kn) H5.out))
  ·have OF:=hJ.vE 7 18 rfl (by decide) (aC 7 (by rfl)) (fun _ h=>h);have ct:=aa hJ.ext;clear hJ aC cE;refine⟨rfl,fun K9 hK=>?_⟩;have bA:=aa hstep;clear hstep;go_simp;have hal:aB wc.heap.size wc (wc.alloc _):=(ax _ _).alloc (ag _) (.cells #[.int .i64 ((i:Nat):Int)] 116);exact hK.out _ _ (bA.out _ _ _ (aU.out.below hal) ((Ext.refl _).up (ah _)) (.aH hal) ⟨[i],IL.block (l:=[i]) (cs:=[.int .i64 ((i:Nat):Int)]) (show (wc.alloc (.cells #[.int .i64 ((i:Nat):Int)] 116)).heap[wc.heap.size]?=some (.cells [.int .i64 ((i:Nat):Int)].toArray 116 (0,0)) from bz wc _) (by decide) (aU.out.fresh (ag _)) (by show 1<=bn;decide) rfl,by simp only[aL,bg,ct.out.get HX.out]⟩)
  have IB:=hJ.vE 0 11 rfl (by decide) (aC 0 (by rfl)) (fun _ h=>h);obtain⟨v6,OG,f6⟩:=hJ.val 6 (by decide) (aC 6 (by rfl));replace f6:FC wc (NS B k E wc) 10 v6 (ue K X):=f6;obtain⟨a6,g6⟩:=FC.nT f6;subst g6;replace OG:T[17]?=_:=OG;have H6:=aa f6;clear f6;obtain⟨v8,yB,f8⟩:=hJ.val 8 (by decide) (aC 8 (by rfl));obtain⟨l8,Ag,h8⟩:=(show pW B k E v8 [X] s6 wc from f8);obtain⟨Wp,Wq,g8,-⟩:=id Ag;rw[g8] at yB Ag;replace yB:T[19]?=_:=yB;have A8:=aa Ag;have H8:=aa h8;clear f8 Ag h8 g8;clear hJ aC cE;refine⟨rfl,fun K9 hK=>?_⟩;have bA:=aa hstep;clear hstep;go_simp;refine (sX wc aU.out bU.out 10 _ _ H6.out G4.out _ (IL.as A8.out (sC (St.nd aU.out) l8 [X] H8.out)) (sB l8 [X] H8.out)).mono ?_;rintro e w8 ⟨i8,s8,rfl,p1,p2,p3,p4⟩
  exact hK.out _ _ (bA.out _ _ _ p1 p2 p4 ⟨i8,rfl,p3⟩)
 rintro T w6 ⟨s6,hJ⟩;have a0:=hJ.vE 0 11 rfl (by decide) rfl (fun _ h=>h);have a1:=hJ.vE 1 12 rfl (by decide) rfl (fun _ h=>h);have a2:=hJ.vE 2 13 rfl (by decide) rfl (fun _ h=>h);have a3:=hJ.vE 3 14 rfl (by decide) rfl (fun _ h=>h);obtain⟨v4,a4,f4⟩:=hJ.val 4 (by decide) rfl;obtain⟨l4,LB,h4⟩:=(show pW B k E v4 [X] s6 w6 from f4);have A4:=aa LB;have H4:=aa h4;clear f4 LB h4;obtain⟨v5,a5,f5⟩:=hJ.val 5 (by decide) rfl;clear f5;obtain⟨v6,a6,f6⟩:=hJ.val 6 (by decide) rfl;clear f6;have a7:=hJ.vE 7 18 rfl (by decide) rfl (fun _ h=>h);obtain⟨v8,a8,f8⟩:=hJ.val 8 (by decide) rfl;obtain⟨l8,Ag,h8⟩:=(show pW B k E v8 [X] s6 w6 from f8);have A8:=aa Ag;clear f8 Ag h8;obtain⟨i9,a9,H9⟩:=hJ.vI 9 20 rfl (by decide) rfl (fun _ h=>h)
 have hfr:=hJ.fin (fun i hi=>az (iS.out i hi) (of_decide_eq_true rfl)) rfl (.cons a0 (.cons a1 (.cons a2 (.cons a3 (.cons a4 (.cons a5 (.cons a6 (.cons a7 (.cons a8 (.cons a9 .nil))))))))));have aU:=aa hJ.st;have gg:Hid (Ext s s6 1):=aa hJ.ext;have gK:=aa hJ.be;clear hJ iC iS a0 a1 a2 a3 a4 a5 a6 a7 a8 a9;rw[hfr];clear hfr;simp only[jd,dV,bu,bW,bQ];simp only[bT,cf];have IY:=aa aU.out;have I4:=aa gg.out;have HP:=aa H9.out;have FH:=aa (mw.out.trans gK.out);have Ff:=aa (CI.kn J'.out gK.out.kn);replace bP:=aa ((gK.out.block kS (ae bP.out) (NO.cells bP.out (by decide))).trans bP.out)
 have MM:Hid (s6.length+4<=900000):=aa (by have:=HM.out;have:=I4.out.len;omega);clear lP mw J' aU gg gK H9;go_upto_region 2 with fail;have iC:Hid (∀ i j,i<6->j<6->i≠j->(fun i=>i+21) i≠(fun i=>i+21) j):=aa (fun i j _ _ h e=>h (bZ e));have iS:Hid (∀ i,i<6->(fun i=>i+21) i<27):=aa (fun i h=>by show i+21<27;omega);refine fP.region (by kernel_rfl) [[],[],[],[1,2],[1,2,3],[0,1,2,3,4],[0,1,2,3,4,5]] 6 (by kernel_rfl) (by kernel_rfl) (JX B k E L w6 s6 _ 6 (fun i=>i+21) (fun i=>[0,0,0,0,0,1].getD i 0) (Ab B k E [.eqv (.pointer (some ⟨k,0,none⟩)),.eqv (.agg #[.bool b,.slice ao l c]),.ci (1) 2,.ci (K - 1) 603,.fc (nF (K - 1)),.iW (nF (K - 1))])) (JF.start IY.out) ?_ ?_
 ·rintro d T wc n9 o ⟨s9,hJ⟩ ho hi hd aC cE;have hstep:=fun (v:ak) (s8:List F) (w2:af)=>hJ.step (v:=v) (s':=s8) (w':=w2) (jE (B:=B) (k:=k) (E:=E) _) iC.out (fun i hi=>az (iS.out i hi) (of_decide_eq_true rfl)) n9 hi hd
  have aU:=aa hJ.st;have bU:=aa (hJ.room n9 hi hd (N:=900000) (show s6.length+1<=900000 from by have:=MM.out;omega));have m0:T[0]?=some (.pointer (some ⟨k,0,none⟩)):=(hJ.gP 0 (by decide)).trans (by rfl);obtain rfl | rfl | rfl | rfl | rfl | rfl:n9=0\/n9=1\/n9=2\/n9=3\/n9=4\/n9=5:=by omega
  all_goals (injection ho with ho)
  all_goals (subst ho)
  all_goals (try (clear hJ aC cE;refine⟨rfl,fun K9 hK=>?_⟩;have bA:=aa hstep;clear hstep;go_simp;exact hK.out _ _ (bA.out _ _ _ aU.out ((Ext.refl _).up (ah _)) (cA.refl _ _ _) rfl)))
  ·have iF:=aa hJ.be;have es:T[7]?=some (.pointer (some ⟨kS,0,none⟩)):=(hJ.gP 7 (by decide)).trans (by rfl);have bB:=(iF.out.block kS (ae bP.out) (NO.cells bP.out (by decide))).trans bP.out;have q0:=aq (v:=.bool b) bB 0 rfl;have q1:=aq (v:=.slice ao l c) bB 1 rfl;clear bB;clear hJ aC cE;refine⟨rfl,fun K9 hK=>?_⟩;have bA:=aa hstep;clear hstep;go_simp;exact hK.out _ _ (bA.out _ _ _ aU.out ((Ext.refl _).up (ah _)) (cA.refl _ _ _) rfl)
  ·clear hJ aC cE;refine⟨rfl,fun K9 hK=>?_⟩;have bA:=aa hstep;clear hstep;go_simp;refine (si 1 wc (by decide) (by decide)).mono ?_;rintro e w8 ⟨v8,rfl,p1,p2⟩;exact hK.out _ _ (bA.out _ _ _ (aU.out.below p2) ((Ext.refl _).up (ah _)) (.aH p2) p1)
  ·have CN:=hJ.vE 1 22 rfl (by decide) (aC 1 (by rfl)) (fun _ h=>h);obtain⟨v2,Cl,f2⟩:=hJ.val 2 (by decide) (aC 2 (by rfl));replace f2:CI wc v2 (1) 2:=f2;obtain⟨b2,o2,l2,c2,g2⟩:=CI.nT f2;subst g2;replace Cl:T[23]?=_:=Cl;have H2:=aa f2;clear f2;have iF:=aa hJ.be;clear hJ aC cE;refine⟨rfl,fun K9 hK=>?_⟩;have bA:=aa hstep;clear hstep;go_simp;refine (CW _ _ K 1 600 2 wc (CI.gi (CI.kn Ff.out iF.out.kn)) (CI.gi H2.out) (by decide) (by decide)).mono ?_;rintro e w8 ⟨v8,rfl,p1,p2⟩;exact hK.out _ _ (bA.out _ _ _ (aU.out.below p2) ((Ext.refl _).up (ah _)) (.aH p2) p1)
  ·obtain⟨v3,Ck,f3⟩:=hJ.val 3 (by decide) (aC 3 (by rfl));replace f3:CI wc v3 (K - 1) 603:=f3;obtain⟨b3,o3,l3,c3,g3⟩:=CI.nT f3;subst g3;replace Ck:T[24]?=_:=Ck;have H3:=aa f3;clear f3;clear hJ aC cE;refine⟨rfl,fun K9 hK=>?_⟩;have bA:=aa hstep;clear hstep;go_simp;exact hK.out _ _ (bA.out _ _ _ aU.out ((Ext.refl _).up (ah _)) (cA.refl _ _ _) (FC.up (FC.mk (op:=0) (nm:=⟨#[]⟩) (d:=0) ⟨by decide,by decide⟩ (CI.Q2 H3.out PF.out) (FL.nil _ _ 0)) (by decide)))
  have CO:=hJ.vE 0 21 rfl (by decide) (aC 0 (by rfl)) (fun _ h=>h);obtain⟨v4,JJ,f4⟩:=hJ.val 4 (by decide) (aC 4 (by rfl));replace f4:FC wc (NS B k E wc) 10 v4 (nF (K - 1)):=f4;obtain⟨a4,g4⟩:=FC.nT f4;subst g4;replace JJ:T[25]?=_:=JJ;have H4:=aa f4;clear f4;clear hJ aC cE;refine⟨rfl,fun K9 hK=>?_⟩;have bA:=aa hstep;clear hstep;go_simp;refine (sX wc aU.out bU.out 10 _ _ H4.out G5.out _ (IL.nil B k E wc) (fun x hx=>by cases hx)).mono ?_;rintro e w8 ⟨i8,s8,rfl,p1,p2,p3,p4⟩;exact hK.out _ _ (bA.out _ _ _ p1 p2 p4 ⟨i8,rfl,p3⟩)
 rintro T wt ⟨s9,hJ⟩;have a0:=hJ.vE 0 21 rfl (by decide) rfl (fun _ h=>h);have a1:=hJ.vE 1 22 rfl (by decide) rfl (fun _ h=>h);obtain⟨v2,a2,f2⟩:=hJ.val 2 (by decide) rfl;clear f2;obtain⟨v3,a3,f3⟩:=hJ.val 3 (by decide) rfl;clear f3;obtain⟨v4,a4,f4⟩:=hJ.val 4 (by decide) rfl;clear f4;obtain⟨i5,a5,H5⟩:=hJ.vI 5 26 rfl (by decide) rfl (fun _ h=>h);have hfr:=hJ.fin (fun i hi=>az (iS.out i hi) (of_decide_eq_true rfl)) rfl (.cons a0 (.cons a1 (.cons a2 (.cons a3 (.cons a4 (.cons a5 .nil))))));have aU:=aa hJ.st;have gg:Hid (Ext s6 s9 1):=aa hJ.ext;have gK:=aa hJ.be;clear hJ iC iS a0 a1 a2 a3 a4 a5;rw[hfr];clear hfr;simp only[jd,dV,bu,bW,bQ];simp only[bT,cf]
 have SN:Hid (s9.length+3<=900000):=aa (by have:=MM.out;have:=gg.out.len;omega);replace HP:=aa (gg.out.get HP.out);have VF:Hid (Ext s s9 2):=aa (I4.out.trans gg.out (by omega));have Pb:=aa (FH.out.trans gK.out);replace HA:=aa (VF.out.get HA.out);go_wp2_with fail;refine (tg wt aU.out (by have:=SN.out;omega) i9 j _ _ HP.out HA.out G1.out).mono ?_;rintro e y1 ⟨j1,t1,rfl,h1,h2,h3,h4⟩;have Y1:=aa h1;have J1:=aa h3;replace HP:=aa (h2.get HP.out);replace H5:=aa (h2.get H5.out);replace HA:=aa (h2.get HA.out);have VE:Hid (Ext s t1 3):=aa (VF.out.trans h2 (by omega));have LW:=aa (Pb.out.trans h4);clear h1 h2 h3 h4;obtain⟨z2,kq,eq,yY,gu,qw,mz⟩:=aW y1 #[.int .i64 ((i9:Nat):Int),.int .i64 ((i5:Nat):Int)] 116
 have hal:=aa (Y1.out.below gu.out);have hfr:=aa (Y1.out.fresh qw.out);go_wp2_with fail;refine (lX z2 hal.out (by have:=HM.out;have:=VE.out.len;omega) 2 ⟨by decide,by decide⟩ _ [i9,i5] (IL.block (cs:=[.int .i64 ((i9:Nat):Int),.int .i64 ((i5:Nat):Int)]) mz.out (by decide) hfr.out (by show 2<=bn;decide) rfl) [ue K X,nF (K - 1)] (by simp only[aL,bg,HP.out,H5.out]) G3.out).mono ?_;rintro e y2 ⟨j2,t2,rfl,h1,h2,h3,h4⟩;have Y2:=aa h1;have J2:=aa h3;replace J1:=aa (h2.get J1.out);replace HA:=aa (h2.get HA.out);have PA:Hid (Ext s t2 4):=aa (VE.out.trans h2 (by omega));have YT:=aa ((LW.out.trans (.aH gu.out)).trans h4);clear h1 h2 h3 h4;go_wp2_with fail
 refine (tg y2 Y2.out (by have:=HM.out;have:=PA.out.len;omega) j j2 _ _ HA.out J2.out G2.out).mono ?_;rintro e y3 ⟨j3,t3,rfl,h1,h2,h3,h4⟩;have Y3:=aa h1;have J3:=aa h3;replace J1:=aa (h2.get J1.out);have Zz:Hid (Ext s t3 5):=aa (PA.out.trans h2 (by omega));have YS:=aa (YT.out.trans h4);clear h1 h2 h3 h4;obtain⟨z3,kr,er,sG,eY,lj,aR⟩:=aW y3 #[.int .i64 ((j1:Nat):Int),.int .i64 ((j3:Nat):Int)] 116;have Ld:=aa (Y3.out.fresh lj.out);go_wp2_with fail;go_ret;exact⟨_,t3,rfl,⟨[j1,j3],IL.block (l:=[j1,j3]) (cs:=[.int .i64 ((j1:Nat):Int),.int .i64 ((j3:Nat):Int)]) aR.out (by decide) Ld.out (by show 2<=bn;decide) rfl,by simp only[aL,bg,J1.out,J3.out];rfl⟩,Y3.out.below eY.out,Zz.out,YS.out.trans (.aH eY.out)⟩
attribute [local go_sem] cL cK cJ cI
theorem oJ {s s':List F} {n:Nat} (he:Ext s s' n):∀ {l:List Nat} {ts:List F},l.map (fun i=>s[i]?)=ts.map some->l.map (fun i=>s'[i]?)=ts.map some
 | [],[],_=>rfl
 | [],_::_,h=>by cases h
 | _::_,[],h=>by cases h
 | i::l,a::m,h=>by
  rw[aL,aL] at h;injection h with e1 e2;rw[aL,aL,oJ he e2,he.get e1]
theorem tc (x:F):(dM x).length<=2:=by
 unfold dM;split
 ·simp
 split<;>simp
theorem DO {x:F} (h:rt x=true) (ho:x.op=5\/x.op=7\/x.op=11):∃ a,x.kids=[a]:=by
 obtain⟨o,z,nm,ks⟩:=x;have hp:=gQ h;have lY:o=5\/o=7\/o=11:=ho;rcases lY with rfl | rfl | rfl;all_goals
  obtain⟨a,e,-⟩:=wC (by have:=hp.1;simpa [bK] using this);exact⟨a,e⟩
theorem Nk {x:F} (h:rt x=true) (ho:x.op=4):∃ a b,x.kids=[a,b]:=by
 obtain⟨o,z,nm,ks⟩:=x;have hp:=gQ h;have lY:o=4:=ho;subst lY;obtain⟨a,b,e,-,-⟩:=mT (by have:=hp.1;simpa [bK] using this);exact⟨a,b,e⟩
theorem Ad {B k:Nat} {E:Nat->Prop} {L s:List F} (w:af) (h:St B k E L s w) (hm:s.length+46<=900000) (i:Nat) (X:F) (hx:s[i]?=some X) (hg:∀ t ∈ cg X,Gd t) (ho:∀ q ∈ [(8:Int),(9:Int),(10:Int),(11:Int),(7:Int),(5:Int),(4:Int)],X.op≠q) :
  aV aj 72 #[.pointer (some ⟨k,0,none⟩),.int .i64 ((i:Nat):Int)] w (jt B k E L s (cg X) 46 w):=by
 have HS:=aa h;have HX:=aa hx;have HO:=aa ho;clear h hm hx hg ho;obtain⟨km,v,us,M,hU⟩:=HS.out;obtain⟨g,cap,u,qo,ql,qc,q,⟨rfl,oL,hcap,pE⟩,⟨c0,c1,c2,c3,c4,c5,c6⟩,⟨hft,hop,-⟩,gN,-⟩:=hU.node HX.out;have d1:=aq (v:=.slice (some ⟨g,0,none⟩) s.length cap) hU.bk 1 rfl;have tD:cap<=9223372036854775807:=pE;have rT:=aa hU.bk;have e8:(u.k==8)=false:=beq_eq_false_iff_ne.2 (by rw[hop];exact HO.out 8 (by simp));have e9:(u.k==9)=false:=beq_eq_false_iff_ne.2 (by rw[hop];exact HO.out 9 (by simp));have yC:(u.k==10)=false:=beq_eq_false_iff_ne.2 (by rw[hop];exact HO.out 10 (by simp));have IB:(u.k==11)=false:=beq_eq_false_iff_ne.2 (by rw[hop];exact HO.out 11 (by simp));have e7:(u.k==7)=false:=beq_eq_false_iff_ne.2 (by rw[hop];exact HO.out 7 (by simp))
 have e5:(u.k==5)=false:=beq_eq_false_iff_ne.2 (by rw[hop];exact HO.out 5 (by simp));have e4:(u.k==4)=false:=beq_eq_false_iff_ne.2 (by rw[hop];exact HO.out 4 (by simp));clear hU gN hop hft;obtain⟨z1,kn,en,uy,jz,hkn,jm⟩:=aW w #[.int .i64 u.k,.bool (decide (u.n.z<0)),.slice u.n.o u.n.l u.n.c,.string u.nm,.slice u.ko u.kl u.kc,.slice qo ql qc,.bool q] 167;have n0:=aq (v:=.int .i64 u.k) jm.out 0 rfl;have lP:=aa (HS.out.below jz.out);have mw:=aa (cA.aH (B:=B) (k:=k) jz.out);have pF:g≠kn:=by have h1:=World.block_lt_of_cell? _ _ c0;have h2:=uy;intro h3;change g<_ at h1;omega
 have uA:Hid (NO B k z1 kn):=aa (NO.mM ((jz.out.block k (ae rT.out)).trans rT.out) pF jm.out (by decide));clear pF;go_enter ja,gW;have hl:Hid (cg X=[]):=aa (by unfold cg;rw[if_neg (HO.out 8 (by simp)),if_neg (HO.out 9 (by simp)),if_neg (HO.out 10 (by simp)),if_neg (HO.out 11 (by simp)),if_neg (HO.out 7 (by simp)),if_neg (HO.out 5 (by simp)),if_neg (HO.out 4 (by simp))]);go_wp2_with fail;go_ret;exact⟨_,[],s,rfl,El.At.nil _,by rw[hl.out];rfl,lP.out,(Ext.refl s).up (ah _),mw.out⟩
theorem Cg {B k:Nat} {E:Nat->Prop} {L s:List F} (w:af) (h:St B k E L s w) (hm:s.length+46<=900000) (i:Nat) (X:F) (hx:s[i]?=some X) (hg:∀ t ∈ cg X,Gd t) (ho:X.op=9) :
  aV aj 72 #[.pointer (some ⟨k,0,none⟩),.int .i64 ((i:Nat):Int)] w (jt B k E L s (cg X) 46 w):=by
 have HS:=aa h;have HM:=aa hm;have HX:=aa hx;have HG:=aa hg;have HO:=aa ho;clear h hm hx hg ho;obtain⟨km,v,us,M,hU⟩:=HS.out;obtain⟨g,cap,u,qo,ql,qc,q,⟨rfl,oL,hcap,pE⟩,⟨c0,c1,c2,c3,c4,c5,c6⟩,⟨hft,hop,-⟩,gN,-⟩:=hU.node HX.out;have d1:=aq (v:=.slice (some ⟨g,0,none⟩) s.length cap) hU.bk 1 rfl;have tD:cap<=9223372036854775807:=pE;have rT:=aa hU.bk;have e8:(u.k==8)=false:=by rw[hop,HO.out];rfl
 have e9:(u.k==9)=true:=by rw[hop,HO.out];rfl
 clear hU gN hop hft;obtain⟨z1,kn,en,uy,jz,hkn,jm⟩:=aW w #[.int .i64 u.k,.bool (decide (u.n.z<0)),.slice u.n.o u.n.l u.n.c,.string u.nm,.slice u.ko u.kl u.kc,.slice qo ql qc,.bool q] 167;have n0:=aq (v:=.int .i64 u.k) jm.out 0 rfl;have lP:=aa (HS.out.below jz.out);have mw:=aa (cA.aH (B:=B) (k:=k) jz.out);have pF:g≠kn:=by have h1:=World.block_lt_of_cell? _ _ c0;have h2:=uy;intro h3;change g<_ at h1;omega
 have uA:Hid (NO B k z1 kn):=aa (NO.mM ((jz.out.block k (ae rT.out)).trans rT.out) pF jm.out (by decide));clear pF;go_enter ja,gW;have hl:Hid (cg X=dM X):=aa (by unfold cg;rw[if_neg (show ¬ X.op=8 by rw[HO.out];decide),if_pos HO.out]);go_wp2_with fail;refine (qp z1 lP.out (by have:=HM.out;omega) i X HX.out (by rw[<-hl.out];exact HG.out)).mono ?_;rintro e y1 ⟨v1,l1,s1,rfl,h1,h2,h3,h4,h5⟩;obtain⟨ro,rc,rfl,-⟩:=h1.form;have R1:=aa h1;have J1:=aa h2;have S1:=aa (h3.less (E':=E) (fun g hg=>.inl hg));have E1:Hid (Ext s s1 46):=aa (h4.up (by decide));have T1:=aa (mw.out.trans h5);clear h1 h2 h3 h4 h5;go_wp2_with fail;go_ret;exact⟨_,l1,s1,rfl,R1.out.at,by rw[hl.out];exact J1.out,S1.out,E1.out,T1.out⟩
theorem Ae {B k:Nat} {E:Nat->Prop} {L s:List F} (w:af) (h:St B k E L s w) (hm:s.length+46<=900000) (i:Nat) (X:F) (hx:s[i]?=some X) (hg:∀ t ∈ cg X,Gd t) (ho:X.op=8) :
  aV aj 72 #[.pointer (some ⟨k,0,none⟩),.int .i64 ((i:Nat):Int)] w (jt B k E L s (cg X) 46 w):=by
 have HS:=aa h;have HM:=aa hm;have HX:=aa hx;have HG:=aa hg;have HO:=aa ho;clear h hm hx hg ho;obtain⟨km,v,us,M,hU⟩:=HS.out;obtain⟨g,cap,u,qo,ql,qc,q,⟨rfl,oL,hcap,pE⟩,⟨c0,c1,c2,c3,c4,c5,c6⟩,⟨hft,hop,-⟩,gN,-⟩:=hU.node HX.out;have d1:=aq (v:=.slice (some ⟨g,0,none⟩) s.length cap) hU.bk 1 rfl;have tD:cap<=9223372036854775807:=pE;have rT:=aa hU.bk;have eD:=aa HS.out.om;have e8:(u.k==8)=true:=by rw[hop,HO.out];rfl
 clear hU gN hop hft;obtain⟨z1,kn,en,uy,jz,hkn,jm⟩:=aW w #[.int .i64 u.k,.bool (decide (u.n.z<0)),.slice u.n.o u.n.l u.n.c,.string u.nm,.slice u.ko u.kl u.kc,.slice qo ql qc,.bool q] 167;have n0:=aq (v:=.int .i64 u.k) jm.out 0 rfl;have lP:=aa (HS.out.below jz.out);have mw:=aa (cA.aH (B:=B) (k:=k) jz.out);have pF:g≠kn:=by have h1:=World.block_lt_of_cell? _ _ c0;have h2:=uy;intro h3;change g<_ at h1;omega
 have uA:Hid (NO B k z1 kn):=aa (NO.mM ((jz.out.block k (ae rT.out)).trans rT.out) pF jm.out (by decide));clear pF;go_enter ja,gW;have hl:Hid (cg X=dM X++[iw X]):=aa (by unfold cg;rw[if_pos HO.out]);have hz:=eD.out;go_wp2_with fail;refine (qp z1 lP.out (by have:=HM.out;omega) i X HX.out (fun t ht=>HG.out t (by rw[hl.out];simp[ht]))).mono ?_;rintro e y1 ⟨v1,l1,s1,rfl,h1,h2,h3,h4,h5⟩;obtain⟨ro,rc,rfl,-⟩:=h1.form;have R1:=aa h1;have J1:=aa h2;have S1:=aa h3;have E1:=aa h4;have Z1:=aa h5.size;have T1:=aa (mw.out.trans h5);clear h1 h2 h3 h4 h5;go_wp2_with fail;refine (Bl y1 S1.out (by have:=HM.out;have:=E1.out.len;omega) i X (E1.out.get HX.out) (HG.out _ (by rw[hl.out];simp))).mono ?_
 rintro e y2 ⟨j2,s2,rfl,h1,h2,h3,h4⟩;have S2:=aa h1;have J2:=aa h3;have E2:Hid (Ext s s2 16):=aa (E1.out.trans h2 (by omega));have T2:=aa (T1.out.trans h4);replace R1:=aa (gV R1.out h4);have Z2:=aa h4.size;replace J1:=aa (oJ h2 J1.out);clear h1 h2 h3 h4;obtain⟨z2,kr,er,sG,eY,lj,aR⟩:=aW y2 #[.int .i64 ((j2:Nat):Int)] 116;replace R1:=aa (El.Row.below R1.out eY.out);have vH:Hid (fQ.At z2 (.slice (some ⟨kr,0,none⟩) 1 1) [j2]):=aa (pN (l:=[j2]) aR.out (by show 1<=bn;decide));have r6:Hid (z1.heap.size<=z2.heap.size):=aa (ai (ai Z1.out Z2.out) eY.out.size)
 go_wp2_with (first | (at_builtin;refine El.Row.append (E:=fQ) R1.out rfl (.tmp 20) (.tmp 24) rfl rfl rfl vH.out (by have h1:=cw J1.out;have h2:=tc X;show l1.length+1<=1000000;omega) r6.out ?_;intro v9 w9 r1 r2 r3 r4;have R9:=aa r1;have R4:=aa r4;clear r1 r2 r3 r4) | fail);go_ret;exact⟨_,l1++[j2],s2,rfl,R9.out.at,by rw[hl.out,dF,dF,J1.out];simp only[aL,bg,J2.out],(S2.out.below eY.out).app R1.out (by have:=eD.out.1;have:=jz.out.size;omega) R4.out,E2.out.up (by omega),((T2.out.trans (.aH eY.out)).app R4.out (fun g hg=>ai jz.out.size (R1.out.ge hg).1) eD.out.2)⟩
theorem Ey {B k:Nat} {E:Nat->Prop} {L s:List F} (w:af) (h:St B k E L s w) (hm:s.length+46<=900000) (i:Nat) (X:F) (hx:s[i]?=some X) (hg:∀ t ∈ cg X,Gd t) (ho:X.op=7) :
  aV aj 72 #[.pointer (some ⟨k,0,none⟩),.int .i64 ((i:Nat):Int)] w (jt B k E L s (cg X) 46 w):=by
 have HS:=aa h;have HM:=aa hm;have HX:=aa hx;have Cy:=aa (h.good X (List.mem_of_getElem? hx));have HG:=aa hg;have HO:=aa ho;clear h hm hx hg ho;obtain⟨km,v,us,M,hU⟩:=HS.out;obtain⟨g,cap,u,qo,ql,qc,q,⟨rfl,oL,hcap,pE⟩,⟨c0,c1,c2,c3,c4,c5,c6⟩,⟨hft,hop,-⟩,gN,-⟩:=hU.node HX.out;have d1:=aq (v:=.slice (some ⟨g,0,none⟩) s.length cap) hU.bk 1 rfl;have tD:cap<=9223372036854775807:=pE;have r8:=aa gN;have rT:=aa hU.bk;have e8:(u.k==8)=false:=by rw[hop,HO.out];rfl
 have e9:(u.k==9)=false:=by rw[hop,HO.out];rfl
 have yC:(u.k==10)=false:=by rw[hop,HO.out];rfl
 have IB:(u.k==11)=false:=by rw[hop,HO.out];rfl
 have e7:(u.k==7)=true:=by rw[hop,HO.out];rfl
 clear hU gN hop hft;obtain⟨x0,iA⟩:=DO Cy.out.1 (.inr (.inl HO.out));have yh:=r8.out;rw[iA] at yh;obtain⟨v_,we,ee,⟨hq1,hq2,Ec⟩,hc⟩:=yh;injection ee with ea eb ec;replace eb:ql=1:=eb;subst ea;subst eb;subst ec;obtain⟨qa,rfl,yU,qu⟩:=hc 0 (by simp);replace qu:w.cell? qa=some (.int .i64 ((idx s x0:Nat):Int)):=qu;replace hq1:1<=qc:=hq1;have Ed:qc<=9223372036854775807:=hq2;have wX:=aa qu;have CR:Hid (s[idx s x0]?=some x0):=aa (fW (HS.out.FA X (List.mem_of_getElem? HX.out) x0 (by rw[iA];simp)));have n_:kd X 0=x0:=by unfold kd;rw[iA];rfl
 clear hc hq2 Ec yU qu r8;obtain⟨z1,kn,en,uy,jz,hkn,jm⟩:=aW w #[.int .i64 u.k,.bool (decide (u.n.z<0)),.slice u.n.o u.n.l u.n.c,.string u.nm,.slice u.ko u.kl u.kc,.slice (some qa) 1 qc,.bool q] 167;have n0:=aq (v:=.int .i64 u.k) jm.out 0 rfl;have lP:=aa (HS.out.below jz.out);have mw:=aa (cA.aH (B:=B) (k:=k) jz.out);have pF:g≠kn:=by have h1:=World.block_lt_of_cell? _ _ c0;have h2:=uy;intro h3;change g<_ at h1;omega
 have uA:Hid (NO B k z1 kn):=aa (NO.mM ((jz.out.block k (ae rT.out)).trans rT.out) pF jm.out (by decide));clear pF;go_enter ja,gW;have hl:Hid (cg X=[eZ [fb x0,bL X (nF 0)]]):=aa (by unfold cg;rw[if_neg (show ¬ X.op=8 by rw[HO.out];decide),if_neg (show ¬ X.op=9 by rw[HO.out];decide),if_neg (show ¬ X.op=10 by rw[HO.out];decide),if_neg (show ¬ X.op=11 by rw[HO.out];decide),if_pos HO.out];rw[n_]);have G1:=aa (HG.out (eZ [fb x0,bL X (nF 0)]) (by rw[hl.out];simp));have G2:=aa (cx G1.out (x:=fb x0) (by simp[eZ,fo,F.kids]));have G3:=aa (cx G1.out (x:=bL X (nF 0)) (by simp[eZ,fo,F.kids]));have n5:=aq (v:=.slice (some qa) 1 qc) jm.out 5 rfl
 have cq:z1.cell? qa=some (.int .i64 ((idx s x0:Nat):Int)):=by rw[jz.out.cell (cj wX.out)];exact wX.out
 clear n_;go_wp2_with fail;refine (vt z1 lP.out (by have:=HM.out;omega) (idx s x0) x0 CR.out G2.out).mono ?_;rintro e y1 ⟨j1,s1,rfl,h1,h2,h3,h4⟩;have S1:=aa h1;replace HX:=aa (h2.get HX.out);have J1:=aa h3;have E1:Hid (Ext s s1 3):=aa ((Ext.refl s).trans h2 (by omega));have T1:Hid (cA B k w y1):=aa (mw.out.trans h4);clear h1 h2 h3 h4;clear c0 c1 c2 c3 c4 c5 c6 d1 n0 n5 cq;go_wp2_with fail;refine (mJ y1 S1.out (by have:=HM.out;have:=E1.out.len;omega) 0 (by decide) (by decide)).mono ?_;rintro e y2 ⟨j2,s2,rfl,h1,h2,h3,h4⟩;have S2:=aa h1;replace J1:=aa (h2.get J1.out);replace HX:=aa (h2.get HX.out);have J2:=aa h3;have E2:Hid (Ext s s2 4):=aa (E1.out.trans h2 (by omega));have T2:Hid (cA B k w y2):=aa (T1.out.trans h4);clear h1 h2 h3 h4
 go_wp2_with fail;refine (iG y2 S2.out (by have:=HM.out;have:=E2.out.len;omega) i j2 X (nF 0) HX.out J2.out G3.out).mono ?_;rintro e y3 ⟨j3,s3,rfl,h1,h2,h3,h4⟩;have S3:=aa h1;replace J1:=aa (h2.get J1.out);replace J2:=aa (h2.get J2.out);have J3:=aa h3;have E3:Hid (Ext s s3 5):=aa (E2.out.trans h2 (by omega));have T3:Hid (cA B k w y3):=aa (T2.out.trans h4);clear h1 h2 h3 h4;obtain⟨z2,kq,eq,yY,gu,qw,mz⟩:=aW y3 #[.int .i64 ((j1:Nat):Int),.int .i64 ((j3:Nat):Int)] 116;have hal:=aa (S3.out.below gu.out);have hfr:=aa (S3.out.fresh qw.out);go_wp2_with fail
 refine (kj z2 hal.out (by have:=HM.out;have:=E3.out.len;omega) _ [j1,j3] (IL.block (l:=[j1,j3]) (cs:=[.int .i64 ((j1:Nat):Int),.int .i64 ((j3:Nat):Int)]) mz.out (by decide) hfr.out (by show 2<=bn;decide) rfl) [fb x0,bL X (nF 0)] (by simp only[aL,bg,J1.out,J3.out]) G1.out).mono ?_;rintro e y4 ⟨j4,s4,rfl,h1,h2,h3,h4⟩;have S4:=aa h1;replace J1:=aa (h2.get J1.out);replace J2:=aa (h2.get J2.out);replace J3:=aa (h2.get J3.out);have J4:=aa h3;have E4:Hid (Ext s s4 6):=aa (E3.out.trans h2 (by omega));have T4:Hid (cA B k w y4):=aa ((T3.out.trans (.aH gu.out)).trans h4);clear h1 h2 h3 h4;obtain⟨z3,kr,er,sG,eY,lj,aR⟩:=aW y4 #[.int .i64 ((j4:Nat):Int)] 116;go_wp2_with fail;go_ret
 exact⟨_,[j4],s4,rfl,pN (l:=[j4]) aR.out (by show 1<=bn;decide),by rw[hl.out];simp only[aL,bg,J4.out],S4.out.below eY.out,E4.out.up (by omega),T4.out.trans (.aH eY.out)⟩
theorem Cf {B k:Nat} {E:Nat->Prop} {L s:List F} (w:af) (h:St B k E L s w) (hm:s.length+46<=900000) (i:Nat) (X:F) (hx:s[i]?=some X) (hg:∀ t ∈ cg X,Gd t) (ho:X.op=5) :
  aV aj 72 #[.pointer (some ⟨k,0,none⟩),.int .i64 ((i:Nat):Int)] w (jt B k E L s (cg X) 46 w):=by
 have HS:=aa h;have HM:=aa hm;have HX:=aa hx;have Cy:=aa (h.good X (List.mem_of_getElem? hx));have HG:=aa hg;have HO:=aa ho;clear h hm hx hg ho;obtain⟨km,v,us,M,hU⟩:=HS.out;obtain⟨g,cap,u,qo,ql,qc,q,⟨rfl,oL,hcap,pE⟩,⟨c0,c1,c2,c3,c4,c5,c6⟩,⟨hft,hop,-⟩,gN,-⟩:=hU.node HX.out;have d1:=aq (v:=.slice (some ⟨g,0,none⟩) s.length cap) hU.bk 1 rfl;have tD:cap<=9223372036854775807:=pE;have r8:=aa gN;have FK:=aa hft;have rT:=aa hU.bk;have e8:(u.k==8)=false:=by rw[hop,HO.out];rfl
 have e9:(u.k==9)=false:=by rw[hop,HO.out];rfl
 have yC:(u.k==10)=false:=by rw[hop,HO.out];rfl
 have IB:(u.k==11)=false:=by rw[hop,HO.out];rfl
 have e7:(u.k==7)=false:=by rw[hop,HO.out];rfl
 have e5:(u.k==5)=true:=by rw[hop,HO.out];rfl
 clear hU gN hop hft;obtain⟨x0,iA⟩:=DO Cy.out.1 (.inl HO.out);have yh:=r8.out;rw[iA] at yh;obtain⟨v_,we,ee,⟨hq1,hq2,Ec⟩,hc⟩:=yh;injection ee with ea eb ec;replace eb:ql=1:=eb;subst ea;subst eb;subst ec;obtain⟨qa,rfl,yU,qu⟩:=hc 0 (by simp);replace qu:w.cell? qa=some (.int .i64 ((idx s x0:Nat):Int)):=qu;replace hq1:1<=qc:=hq1;have Ed:qc<=9223372036854775807:=hq2;have EZ:=aa yU;have wX:=aa qu;have CR:Hid (s[idx s x0]?=some x0):=aa (fW (HS.out.FA X (List.mem_of_getElem? HX.out) x0 (by rw[iA];simp)));have n_:kd X 0=x0:=by unfold kd;rw[iA];rfl
 clear hc hq2 Ec yU qu r8;obtain⟨z1,kn,en,uy,jz,hkn,jm⟩:=aW w #[.int .i64 u.k,.bool (decide (u.n.z<0)),.slice u.n.o u.n.l u.n.c,.string u.nm,.slice u.ko u.kl u.kc,.slice (some qa) 1 qc,.bool q] 167;have n0:=aq (v:=.int .i64 u.k) jm.out 0 rfl;have lP:=aa (HS.out.below jz.out);have mw:=aa (cA.aH (B:=B) (k:=k) jz.out);have pF:g≠kn:=by have h1:=World.block_lt_of_cell? _ _ c0;have h2:=uy;intro h3;change g<_ at h1;omega
 have uA:Hid (NO B k z1 kn):=aa (NO.mM ((jz.out.block k (ae rT.out)).trans rT.out) pF jm.out (by decide));clear pF;go_enter ja,gW;have hl:Hid (cg X=[cN (ue X.num X) x0,cN x0 (fe (ue X.num X) (nF (X.num - 1)))]):=aa (by unfold cg;rw[if_neg (show ¬ X.op=8 by rw[HO.out];decide),if_neg (show ¬ X.op=9 by rw[HO.out];decide),if_neg (show ¬ X.op=10 by rw[HO.out];decide),if_neg (show ¬ X.op=11 by rw[HO.out];decide),if_neg (show ¬ X.op=7 by rw[HO.out];decide),if_pos HO.out];rw[n_]);have HK:Hid (CI w (.agg #[.bool (decide (u.n.z<0)),.slice u.n.o u.n.l u.n.c]) X.num 600):=by
  obtain⟨⟨f1,f2,f3,f4⟩,f5,-⟩:=FK.out;rw[<-f3];exact aa f5
 clear n_;go_upto_region 14 with fail;have iC:Hid (∀ i j,i<9->j<9->i≠j->(fun i=>i+95) i≠(fun i=>i+95) j):=aa (fun i j _ _ h e=>h (bZ e));have iS:Hid (∀ i,i<9->(fun i=>i+95) i<104):=aa (fun i h=>by show i+95<104;omega)
 refine fP.region (by kernel_rfl) [[],[],[],[2],[2,3],[2,3,4],[],[6],[6,7],[0,1,2,3,4,5,6,7,8],[0,1,2,3,4,5,6,7,8,9]] 9 (by kernel_rfl) (by kernel_rfl) (JX B k E L z1 s _ 9 (fun i=>i+95) (fun i=>[0,0,0,0,0,0,0,0,0].getD i 0) (Ab B k E [.eqv (.pointer (some ⟨k,0,none⟩)),.eqv (.int .i64 ((i:Nat):Int)),.eqv (.pointer (some ⟨kn,5,none⟩)),.eqv (.slice (some qa) 1 qc),.eqv (.pointer (some qa)),.eqv (.int .i64 ((idx s x0:Nat):Int)),.eqv (.pointer (some ⟨kn,0,none⟩)),.eqv (.pointer (some ⟨kn,1,none⟩)),.eqv (.agg #[.bool (decide (u.n.z<0)),.slice u.n.o u.n.l u.n.c])])) (JF.start lP.out) ?_ ?_
 ·rintro d T wc n9 o ⟨s9,hJ⟩ ho hi hd aC cE;have hstep:=fun (v:ak) (s8:List F) (w2:af)=>hJ.step (v:=v) (s':=s8) (w':=w2) (jE (B:=B) (k:=k) (E:=E) _) iC.out (fun i hi=>az (iS.out i hi) (of_decide_eq_true rfl)) n9 hi hd
  have aU:=aa hJ.st;have m0:T[0]?=some (.pointer (some ⟨k,0,none⟩)):=(hJ.gP 0 (by decide)).trans (by rfl);have m1:T[1]?=some (.int .i64 ((i:Nat):Int)):=(hJ.gP 1 (by decide)).trans (by rfl);obtain rfl | rfl | rfl | rfl | rfl | rfl | rfl | rfl | rfl:n9=0\/n9=1\/n9=2\/n9=3\/n9=4\/n9=5\/n9=6\/n9=7\/n9=8:=by omega
  all_goals (injection ho with ho)
  all_goals (subst ho)
  all_goals (try (clear hJ aC cE;refine⟨rfl,fun K9 hK=>?_⟩;have bA:=aa hstep;clear hstep;go_simp;exact hK.out _ _ (bA.out _ _ _ aU.out ((Ext.refl _).up (ah _)) (cA.refl _ _ _) rfl)))
  ·have es:T[5]?=some (.pointer (some ⟨kn,0,none⟩)):=(hJ.gP 5 (by decide)).trans (by rfl);clear hJ aC cE;refine⟨rfl,fun K9 hK=>?_⟩;have bA:=aa hstep;clear hstep;go_simp;exact hK.out _ _ (bA.out _ _ _ aU.out ((Ext.refl _).up (ah _)) (cA.refl _ _ _) rfl)
  ·have e97:=hJ.vE 2 97 rfl (by decide) (aC 2 (by rfl)) (fun _ h=>h);have iF:=aa hJ.be;have n5:=aq (v:=.slice (some qa) 1 qc) ((iF.out.block kn (ae jm.out) uA.out).trans jm.out) 5 rfl;clear hJ aC cE;refine⟨rfl,fun K9 hK=>?_⟩;have bA:=aa hstep;clear hstep;go_simp;exact hK.out _ _ (bA.out _ _ _ aU.out ((Ext.refl _).up (ah _)) (cA.refl _ _ _) rfl)
  ·have e98:=hJ.vE 3 98 rfl (by decide) (aC 3 (by rfl)) (fun _ h=>h);clear hJ aC cE;refine⟨rfl,fun K9 hK=>?_⟩;have bA:=aa hstep;clear hstep;go_simp;exact hK.out _ _ (bA.out _ _ _ aU.out ((Ext.refl _).up (ah _)) (cA.refl _ _ _) rfl)
  ·have e99:=hJ.vE 4 99 rfl (by decide) (aC 4 (by rfl)) (fun _ h=>h);have iF:=aa hJ.be;have cq:wc.cell? qa=some (.int .i64 ((idx s x0:Nat):Int)):=by rw[cM (w:=w) (by exact (mw.out.trans iF.out).block _ (by have h1:=World.block_lt_of_cell? _ _ wX.out;exact h1) EZ.out.1.1)];exact wX.out
   clear hJ aC cE;refine⟨rfl,fun K9 hK=>?_⟩;have bA:=aa hstep;clear hstep;go_simp;exact hK.out _ _ (bA.out _ _ _ aU.out ((Ext.refl _).up (ah _)) (cA.refl _ _ _) rfl)
  ·have es:T[5]?=some (.pointer (some ⟨kn,0,none⟩)):=(hJ.gP 5 (by decide)).trans (by rfl);clear hJ aC cE;refine⟨rfl,fun K9 hK=>?_⟩;have bA:=aa hstep;clear hstep;go_simp;exact hK.out _ _ (bA.out _ _ _ aU.out ((Ext.refl _).up (ah _)) (cA.refl _ _ _) rfl)
  ·have Yz:=hJ.vE 6 101 rfl (by decide) (aC 6 (by rfl)) (fun _ h=>h);clear hJ aC cE;refine⟨rfl,fun K9 hK=>?_⟩;have bA:=aa hstep;clear hstep;go_simp;exact hK.out _ _ (bA.out _ _ _ aU.out ((Ext.refl _).up (ah _)) (cA.refl _ _ _) rfl)
  have Yy:=hJ.vE 7 102 rfl (by decide) (aC 7 (by rfl)) (fun _ h=>h);have iF:=aa hJ.be;have n1:=aq (v:=.bool (decide (u.n.z<0))) ((iF.out.block kn (ae jm.out) uA.out).trans jm.out) 1 rfl;have n2:=aq (v:=.slice u.n.o u.n.l u.n.c) ((iF.out.block kn (ae jm.out) uA.out).trans jm.out) 2 rfl;clear hJ aC cE;refine⟨rfl,fun K9 hK=>?_⟩;have bA:=aa hstep;clear hstep;go_simp;exact hK.out _ _ (bA.out _ _ _ aU.out ((Ext.refl _).up (ah _)) (cA.refl _ _ _) rfl)
 rintro T wt ⟨s9,hJ⟩;have a0:=hJ.vE 0 95 rfl (by decide) rfl (fun _ h=>h);have a1:=hJ.vE 1 96 rfl (by decide) rfl (fun _ h=>h);have a2:=hJ.vE 2 97 rfl (by decide) rfl (fun _ h=>h);have a3:=hJ.vE 3 98 rfl (by decide) rfl (fun _ h=>h);have a4:=hJ.vE 4 99 rfl (by decide) rfl (fun _ h=>h);have a5:=hJ.vE 5 100 rfl (by decide) rfl (fun _ h=>h);have a6:=hJ.vE 6 101 rfl (by decide) rfl (fun _ h=>h);have a7:=hJ.vE 7 102 rfl (by decide) rfl (fun _ h=>h);have a8:=hJ.vE 8 103 rfl (by decide) rfl (fun _ h=>h);have hfr:=hJ.fin (fun i hi=>az (iS.out i hi) (of_decide_eq_true rfl)) rfl (.cons a0 (.cons a1 (.cons a2 (.cons a3 (.cons a4 (.cons a5 (.cons a6 (.cons a7 (.cons a8 .nil)))))))));have aU:=aa hJ.st;have gg:Hid (Ext s s9 0):=aa hJ.ext;have gK:=aa hJ.be
 clear hJ iC iS a0 a1 a2 a3 a4 a5 a6 a7 a8;rw[hfr];clear hfr;simp only[jd,dV,bu,bW,bQ];simp only[bT,cf];go_wp2_with fail;refine (GA wt aU.out (by have:=HM.out;have:=gg.out.len;omega) i (idx s x0) X x0 (gg.out.get HX.out) (gg.out.get CR.out) X.num _ _ _ _ (CI.kn HK.out (mw.out.trans gK.out).kn) (by rw[<-hl.out];exact HG.out)).mono ?_;intro e y1 hp;obtain⟨v1,l1,s1,rfl,h1,h2,h3,h4,h5⟩:=hp.UI;obtain⟨ro,rc,rfl,-⟩:=id h1;have A1:=aa h1;have J1:=aa h2;have S1:=aa h3;have E1:Hid (Ext s s1 46):=aa (gg.out.trans h4 (by omega));have T1:=aa ((mw.out.trans gK.out).trans h5);clear h1 h2 h3 h4 h5 hp;go_wp2_with fail;go_ret
 exact⟨_,l1,s1,rfl,A1.out,by rw[hl.out];exact J1.out,S1.out,E1.out,T1.out⟩
theorem Ch {B k:Nat} {E:Nat->Prop} {L s:List F} (w:af) (h:St B k E L s w) (hm:s.length+46<=900000) (i:Nat) (X:F) (hx:s[i]?=some X) (hg:∀ t ∈ cg X,Gd t) (ho:X.op=4) :
  aV aj 72 #[.pointer (some ⟨k,0,none⟩),.int .i64 ((i:Nat):Int)] w (jt B k E L s (cg X) 46 w):=by
 have HS:=aa h;have HM:=aa hm;have HX:=aa hx;have Cy:=aa (h.good X (List.mem_of_getElem? hx));have HG:=aa hg;have HO:=aa ho;clear h hm hx hg ho;obtain⟨km,v,us,M,hU⟩:=HS.out;obtain⟨g,cap,u,qo,ql,qc,q,⟨rfl,oL,hcap,pE⟩,⟨c0,c1,c2,c3,c4,c5,c6⟩,⟨hft,hop,-⟩,gN,-⟩:=hU.node HX.out;have d1:=aq (v:=.slice (some ⟨g,0,none⟩) s.length cap) hU.bk 1 rfl;have tD:cap<=9223372036854775807:=pE;have r8:=aa gN;have rT:=aa hU.bk;have e8:(u.k==8)=false:=by rw[hop,HO.out];rfl
 have e9:(u.k==9)=false:=by rw[hop,HO.out];rfl
 have yC:(u.k==10)=false:=by rw[hop,HO.out];rfl
 have IB:(u.k==11)=false:=by rw[hop,HO.out];rfl
 have e7:(u.k==7)=false:=by rw[hop,HO.out];rfl
 have e5:(u.k==5)=false:=by rw[hop,HO.out];rfl
 have e4:(u.k==4)=true:=by rw[hop,HO.out];rfl
 clear hU gN hop hft;obtain⟨x0,x1,iA⟩:=Nk Cy.out.1 HO.out;have yh:=r8.out;rw[iA] at yh;obtain⟨v_,we,ee,⟨hq1,hq2,Ec⟩,hc⟩:=yh;injection ee with ea eb ec;replace eb:ql=2:=eb;subst ea;subst eb;subst ec;obtain⟨qa,rfl,yU,qu⟩:=hc 0 (by simp);replace qu:w.cell? qa=some (.int .i64 ((idx s x0:Nat):Int)):=qu;replace hq1:2<=qc:=hq1;have Ed:qc<=9223372036854775807:=hq2;have EZ:=aa yU;have wX:=aa qu;have CR:Hid (s[idx s x0]?=some x0):=aa (fW (HS.out.FA X (List.mem_of_getElem? HX.out) x0 (by rw[iA];simp)));have n_:kd X 0=x0:=by unfold kd;rw[iA];rfl
 obtain⟨Wo,zS,K6,wv⟩:=hc 1 (by simp);injection zS with zS;subst zS;replace wv:w.cell? (qa.add 1)=some (.int .i64 ((idx s x1:Nat):Int)):=wv;have Pj:=aa wv;have IU:Hid (s[idx s x1]?=some x1):=aa (fW (HS.out.FA X (List.mem_of_getElem? HX.out) x1 (by rw[iA];simp)));have eR:kd X 1=x1:=by unfold kd;rw[iA];rfl
 clear K6 wv;clear hc hq2 Ec yU qu r8;obtain⟨z1,kn,en,uy,jz,hkn,jm⟩:=aW w #[.int .i64 u.k,.bool (decide (u.n.z<0)),.slice u.n.o u.n.l u.n.c,.string u.nm,.slice u.ko u.kl u.kc,.slice (some qa) 2 qc,.bool q] 167;have n0:=aq (v:=.int .i64 u.k) jm.out 0 rfl;have lP:=aa (HS.out.below jz.out);have mw:=aa (cA.aH (B:=B) (k:=k) jz.out);have pF:g≠kn:=by have h1:=World.block_lt_of_cell? _ _ c0;have h2:=uy;intro h3;change g<_ at h1;omega
 have uA:Hid (NO B k z1 kn):=aa (NO.mM ((jz.out.block k (ae rT.out)).trans rT.out) pF jm.out (by decide));clear pF;go_enter ja,gW;have hl:Hid (cg X=kF X x0 x1):=aa (by unfold cg;rw[if_neg (show ¬ X.op=8 by rw[HO.out];decide),if_neg (show ¬ X.op=9 by rw[HO.out];decide),if_neg (show ¬ X.op=10 by rw[HO.out];decide),if_neg (show ¬ X.op=11 by rw[HO.out];decide),if_neg (show ¬ X.op=7 by rw[HO.out];decide),if_neg (show ¬ X.op=5 by rw[HO.out];decide),if_pos HO.out];rw[n_,eR]);clear n_ eR;go_upto_region 16 with fail;have iC:Hid (∀ i j,i<10->j<10->i≠j->(fun i=>i+107) i≠(fun i=>i+107) j):=aa (fun i j _ _ h e=>h (bZ e));have iS:Hid (∀ i,i<10->(fun i=>i+107) i<117):=aa (fun i h=>by show i+107<117;omega)
 refine fP.region (by kernel_rfl) [[],[],[],[2],[2,3],[2,3,4],[],[6],[6,7],[6,7,8],[0,1,2,3,4,5,6,7,8,9],[0,1,2,3,4,5,6,7,8,9,10]] 10 (by kernel_rfl) (by kernel_rfl) (JX B k E L z1 s _ 10 (fun i=>i+107) (fun i=>[0,0,0,0,0,0,0,0,0,0].getD i 0) (Ab B k E [.eqv (.pointer (some ⟨k,0,none⟩)),.eqv (.int .i64 ((i:Nat):Int)),.eqv (.pointer (some ⟨kn,5,none⟩)),.eqv (.slice (some qa) 2 qc),.eqv (.pointer (some qa)),.eqv (.int .i64 ((idx s x0:Nat):Int)),.eqv (.pointer (some ⟨kn,5,none⟩)),.eqv (.slice (some qa) 2 qc),.eqv (.pointer (some (qa.add 1))),.eqv (.int .i64 ((idx s x1:Nat):Int))])) (JF.start lP.out) ?_ ?_
 ·rintro d T wc n9 o ⟨s9,hJ⟩ ho hi hd aC cE;have hstep:=fun (v:ak) (s8:List F) (w2:af)=>hJ.step (v:=v) (s':=s8) (w':=w2) (jE (B:=B) (k:=k) (E:=E) _) iC.out (fun i hi=>az (iS.out i hi) (of_decide_eq_true rfl)) n9 hi hd
  have aU:=aa hJ.st;have m0:T[0]?=some (.pointer (some ⟨k,0,none⟩)):=(hJ.gP 0 (by decide)).trans (by rfl);have m1:T[1]?=some (.int .i64 ((i:Nat):Int)):=(hJ.gP 1 (by decide)).trans (by rfl);obtain rfl | rfl | rfl | rfl | rfl | rfl | rfl | rfl | rfl | rfl:n9=0\/n9=1\/n9=2\/n9=3\/n9=4\/n9=5\/n9=6\/n9=7\/n9=8\/n9=9:=by omega
  all_goals (injection ho with ho)
  all_goals (subst ho)
  all_goals (try (clear hJ aC cE;refine⟨rfl,fun K9 hK=>?_⟩;have bA:=aa hstep;clear hstep;go_simp;exact hK.out _ _ (bA.out _ _ _ aU.out ((Ext.refl _).up (ah _)) (cA.refl _ _ _) rfl)))
  ·have es:T[5]?=some (.pointer (some ⟨kn,0,none⟩)):=(hJ.gP 5 (by decide)).trans (by rfl);clear hJ aC cE;refine⟨rfl,fun K9 hK=>?_⟩;have bA:=aa hstep;clear hstep;go_simp;exact hK.out _ _ (bA.out _ _ _ aU.out ((Ext.refl _).up (ah _)) (cA.refl _ _ _) rfl)
  ·have Yx:=hJ.vE 2 109 rfl (by decide) (aC 2 (by rfl)) (fun _ h=>h);have iF:=aa hJ.be;have n5:=aq (v:=.slice (some qa) 2 qc) ((iF.out.block kn (ae jm.out) uA.out).trans jm.out) 5 rfl;clear hJ aC cE;refine⟨rfl,fun K9 hK=>?_⟩;have bA:=aa hstep;clear hstep;go_simp;exact hK.out _ _ (bA.out _ _ _ aU.out ((Ext.refl _).up (ah _)) (cA.refl _ _ _) rfl)
  ·have Yw:=hJ.vE 3 110 rfl (by decide) (aC 3 (by rfl)) (fun _ h=>h);clear hJ aC cE;refine⟨rfl,fun K9 hK=>?_⟩;have bA:=aa hstep;clear hstep;go_simp;exact hK.out _ _ (bA.out _ _ _ aU.out ((Ext.refl _).up (ah _)) (cA.refl _ _ _) rfl)
  ·have Yv:=hJ.vE 4 111 rfl (by decide) (aC 4 (by rfl)) (fun _ h=>h);have iF:=aa hJ.be;have cq:wc.cell? qa=some (.int .i64 ((idx s x0:Nat):Int)):=by rw[cM (w:=w) (by exact (mw.out.trans iF.out).block _ (by have h1:=World.block_lt_of_cell? _ _ wX.out;exact h1) EZ.out.1.1)];exact wX.out
   clear hJ aC cE;refine⟨rfl,fun K9 hK=>?_⟩;have bA:=aa hstep;clear hstep;go_simp;exact hK.out _ _ (bA.out _ _ _ aU.out ((Ext.refl _).up (ah _)) (cA.refl _ _ _) rfl)
  ·have es:T[5]?=some (.pointer (some ⟨kn,0,none⟩)):=(hJ.gP 5 (by decide)).trans (by rfl);clear hJ aC cE;refine⟨rfl,fun K9 hK=>?_⟩;have bA:=aa hstep;clear hstep;go_simp;exact hK.out _ _ (bA.out _ _ _ aU.out ((Ext.refl _).up (ah _)) (cA.refl _ _ _) rfl)
  ·have Yu:=hJ.vE 6 113 rfl (by decide) (aC 6 (by rfl)) (fun _ h=>h);have iF:=aa hJ.be;have n5:=aq (v:=.slice (some qa) 2 qc) ((iF.out.block kn (ae jm.out) uA.out).trans jm.out) 5 rfl;clear hJ aC cE;refine⟨rfl,fun K9 hK=>?_⟩;have bA:=aa hstep;clear hstep;go_simp;exact hK.out _ _ (bA.out _ _ _ aU.out ((Ext.refl _).up (ah _)) (cA.refl _ _ _) rfl)
  ·have Yt:=hJ.vE 7 114 rfl (by decide) (aC 7 (by rfl)) (fun _ h=>h);clear hJ aC cE;refine⟨rfl,fun K9 hK=>?_⟩;have bA:=aa hstep;clear hstep;go_simp;exact hK.out _ _ (bA.out _ _ _ aU.out ((Ext.refl _).up (ah _)) (cA.refl _ _ _) rfl)
  have Ys:=hJ.vE 8 115 rfl (by decide) (aC 8 (by rfl)) (fun _ h=>h);have iF:=aa hJ.be;have cq:wc.cell? (qa.add 1)=some (.int .i64 ((idx s x1:Nat):Int)):=by rw[cM (w:=w) (by rw[bX];exact (mw.out.trans iF.out).block _ (by have h1:=World.block_lt_of_cell? _ _ Pj.out;rw[bX] at h1;exact h1) EZ.out.1.1)];exact Pj.out
  replace cq:wc.cell? { block:=qa.block,off:=qa.off+1 }=some (.int .i64 ((idx s x1:Nat):Int)):=cq;clear hJ aC cE;refine⟨rfl,fun K9 hK=>?_⟩;have bA:=aa hstep;clear hstep;go_simp;exact hK.out _ _ (bA.out _ _ _ aU.out ((Ext.refl _).up (ah _)) (cA.refl _ _ _) rfl)
 rintro T wt ⟨s9,hJ⟩;have a0:=hJ.vE 0 107 rfl (by decide) rfl (fun _ h=>h);have a1:=hJ.vE 1 108 rfl (by decide) rfl (fun _ h=>h);have a2:=hJ.vE 2 109 rfl (by decide) rfl (fun _ h=>h);have a3:=hJ.vE 3 110 rfl (by decide) rfl (fun _ h=>h);have a4:=hJ.vE 4 111 rfl (by decide) rfl (fun _ h=>h);have a5:=hJ.vE 5 112 rfl (by decide) rfl (fun _ h=>h);have a6:=hJ.vE 6 113 rfl (by decide) rfl (fun _ h=>h);have a7:=hJ.vE 7 114 rfl (by decide) rfl (fun _ h=>h);have a8:=hJ.vE 8 115 rfl (by decide) rfl (fun _ h=>h);have a9:=hJ.vE 9 116 rfl (by decide) rfl (fun _ h=>h);have hfr:=hJ.fin (fun i hi=>az (iS.out i hi) (of_decide_eq_true rfl)) rfl (.cons a0 (.cons a1 (.cons a2 (.cons a3 (.cons a4 (.cons a5 (.cons a6 (.cons a7 (.cons a8 (.cons a9 .nil))))))))));have aU:=aa hJ.st
 have gg:Hid (Ext s s9 0):=aa hJ.ext;have gK:=aa hJ.be;clear hJ iC iS a0 a1 a2 a3 a4 a5 a6 a7 a8 a9;rw[hfr];clear hfr;simp only[jd,dV,bu,bW,bQ];simp only[bT,cf];go_wp2_with fail;refine (GG wt aU.out (by have:=HM.out;have:=gg.out.len;omega) i (idx s x0) (idx s x1) X x0 x1 (gg.out.get HX.out) (gg.out.get CR.out) (gg.out.get IU.out) (by rw[<-hl.out];exact HG.out)).mono ?_;intro e y1 hp;obtain⟨v1,l1,s1,rfl,h1,h2,h3,h4,h5⟩:=hp.UI;obtain⟨ro,rc,rfl,-⟩:=id h1;have A1:=aa h1;have J1:=aa h2;have S1:=aa h3;have E1:Hid (Ext s s1 46):=aa (gg.out.trans h4 (by omega));have T1:=aa ((mw.out.trans gK.out).trans h5);clear h1 h2 h3 h4 h5 hp;go_wp2_with fail
 go_ret;exact⟨_,l1,s1,rfl,A1.out,by rw[hl.out];exact J1.out,S1.out,E1.out,T1.out⟩
section
variable {B k:Nat} {E E1:Nat->Prop} {w w':af}
theorem NS.grow (hk:cA B k w w') (hE:∀ g,E1 g->E g\/w.heap.size<=g) {g:Nat} (hl:g<w.heap.size) (h:NS B k E w g):NS B k E1 w' g:=
 ⟨hk.no hl h.1,fun he=>by rcases hE g he with h9 | h9;exact h.2 h9;omega⟩
theorem IL.grow {v:ak} {l:List Nat} (h:IL B k E w v l) (hk:cA B k w w') (hE:∀ g,E1 g->E g\/w.heap.size<=g):IL B k E1 w' v l:=by
 obtain⟨ko,kc,e,h1,h2⟩:=h;refine⟨ko,kc,e,h1,fun j hj=>?_⟩;obtain⟨a,ha,hn,hc⟩:=h2 j hj;have hl:=World.block_lt_of_cell? w _ hc;rw[bX] at hl;have hs:=hk.block _ hl hn.1.1;exact⟨a,ha,⟨NS.grow hk hE hl hn.1,by obtain⟨c,nu⟩:=hn.2;exact⟨c,hs.trans nu⟩⟩,by rw[cM (w:=w) (by rw[bX];exact hs)];exact hc⟩
theorem FC.grow {d:Nat} {v:ak} {t:F} (h:FC w (NS B k E w) d v t) (hk:cA B k w w') (hE:∀ g,E1 g->E g\/w.heap.size<=g):FC w' (NS B k E1 w') d v t:=by
 obtain⟨u,h1,h2⟩:=h;exact⟨u,h1,((h2.lt).keep (fun g hg=>hk.block g hg.2 hg.1.1) hk.kn).mono fun g hg=>NS.grow hk hE hg.2 hg.1⟩
theorem FL.grow {d:Nat} {v:ak} {ts:List F} (h:FL w (NS B k E w) d v ts) (hk:cA B k w w') (hE:∀ g,E1 g->E g\/w.heap.size<=g):FL w' (NS B k E1 w') d v ts:=by
 obtain⟨el,h1,h2⟩:=h;exact⟨el,(Es.At.keep (fun g hg=>hk.block g hg.2 hg.1.1) hk.kn h1.lt).mono (fun g hg=>NS.grow hk hE hg.2 hg.1),h2⟩
end
theorem wj {B0 B1:Nat} {w:af} {v:ak} {l:List Nat} (h:fQ.Row w B1 v l) (hb:B0<=B1):fQ.Row w B0 v l:=by
 obtain⟨⟨h1,h2⟩,h3,h4⟩:=h;refine⟨⟨h1,?_⟩,h3,h4⟩;rcases h2 with h2 | ⟨g,cap,cur,e1,e2,e3,e4⟩
 ·exact .inl h2
 exact .inr ⟨g,cap,cur,e1,ai hb e2,e3,e4⟩
inductive FG where
 | fd (x:FD)
 | row (B0:Nat) (ts:List F)
def FG.holds (B k:Nat) (E:Nat->Prop):FG->ak->List F->af->Prop
 | .fd x,v,s,w=>x.holds B k E v s w
 | .row B0 ts,v,s,w=>∃ ids,fQ.Row w B0 v ids/\ids.map (fun i=>s[i]?)=ts.map some/\∀ g,v.ownBlock=some g->E g
def Fx (B k:Nat) (E:Nat->Prop) (l:List FG) (j:Nat) (v:ak) (s:List F) (w:af):Prop:=(l.getD j (.fd .any)).holds B k E v s w
theorem Ly {B k:Nat} {E E1:Nat->Prop} (l:List FG) {w w':af} (MF:∀ g,E g->E1 g) (hE:∀ g,E1 g->E g\/w.heap.size<=g):∀ j v (s s':List F),(∃ c,Ext s s' c)->cA B k w w'->Fx B k E l j v s w->Fx B k E1 l j v s' w':=by
 rintro j v s s' ⟨c,he⟩ hb h;unfold Fx at h ⊢;cases hd:l.getD j (.fd .any) with
 | row B0 ts =>
  rw[hd] at h;obtain⟨ids,h1,h2,h3⟩:=h;exact⟨ids,gV h1 hb,oJ he h2,fun g hg=>MF g (h3 g hg)⟩
 | fd x =>
  rw[hd] at h;cases x with
  | any=>trivial
  | eqv x=>exact h
  | iW t=>exact LR.ext h he
  | xW ts=>obtain⟨ids,h1,h2⟩:=h;exact⟨ids,h1.grow hb hE,oJ he h2⟩
  | blk t=>exact AI.ext h he hb
  | fl ts=>exact FL.grow h hb hE
  | fc t=>exact FC.grow h hb hE
  | ci z n=>exact CI.kn h hb.kn
section
variable {B k:Nat} {E E1:Nat->Prop} {L:List F} {W0:af} {s0:List F} {t0:Array ak} {n:Nat} {sl cost:Nat->Nat} {l:List FG} {d:Nat->Bool} {T:Array ak} {w w':af} {s s':List F}
theorem JF.M1 (h:JF B k E L W0 s0 t0 n sl cost (Fx B k E l) d T w s) (MF:∀ g,E g->E1 g) (hE:∀ g,E1 g->E g\/w.heap.size<=g) (hne:∀ i j,i<n->j<n->i≠j->sl i≠sl j) (hlt:∀ i,i<n->sl i<t0.size) (i:Nat) (hi:i<n) (hd:d i=false) (v:ak)
  (hst:St B k E1 L s' w') (he:Ext s s' (cost i)) (hb:cA B k w w') (h1:Fx B k E1 l i v s' w'):∃ s,JF B k E1 L W0 s0 t0 n sl cost (Fx B k E1 l) (fP.pA d i) (T.setIfInBounds (sl i) v) w' s:=by
 have hsz:sl i<T.size:=by rw[h.sz];exact hlt i hi
 refine⟨s',hst,h.ext.trans he (by rw[sP hd,if_pos hi];exact ag _),h.be.trans hb,by rw[Array.size_setIfInBounds,h.sz],fun j hj=>?_,fun j hj hu=>?_⟩
 ·rw[eW (hj i hi)];exact h.gP j hj
 by_cases uq:j=i
 ·subst uq;exact⟨v,fI hsz,h1⟩
 rw[fU uq] at hu;obtain⟨x,hx,hf⟩:=h.val j hj hu;exact⟨x,by rw[eW (hne j i hj hi uq)];exact hx,Ly l MF hE j x s s' ⟨_,he⟩ hb hf⟩
def LQ (B k:Nat) (E:Nat->Prop) (L:List F) (W0:af) (s0:List F) (t0:Array ak) (n:Nat) (sl cost:Nat->Nat) (l:List FG) (d:Nat->Bool) (T:Array ak) (w:af):Prop:=∃ E1 s,(∀ g,E g->E1 g)/\JF B k E1 L W0 s0 t0 n sl cost (Fx B k E1 l) d T w s
theorem JF.Jd {E0:Nat->Prop} (h:JF B k E L W0 s0 t0 n sl cost (Fx B k E l) d T w s) (h0:∀ g,E0 g->E g) (hne:∀ i j,i<n->j<n->i≠j->sl i≠sl j) (hlt:∀ i,i<n->sl i<t0.size) (i:Nat) (hi:i<n) (hd:d i=false) (E8:Nat->Prop) (MF:∀ g,E g->E8 g) (XS:∀ g,E8 g->E g\/w.heap.size<=g) (v:ak) (s8:List F) (w2:af)
  (p1:St B k E8 L s8 w2) (p2:Ext s s8 (cost i)) (p3:cA B k w w2) (p4:Fx B k E8 l i v s8 w2):LQ B k E0 L W0 s0 t0 n sl cost l (fP.pA d i) (T.setIfInBounds (sl i) v) w2:=by
 obtain⟨Wj,XV⟩:=h.M1 MF XS hne hlt i hi hd v p1 p2 p3 p4;exact⟨E8,Wj,fun g hg=>MF g (h0 g hg),XV⟩
theorem LQ.start (h:St B k E L s0 W0):LQ B k E L W0 s0 t0 n sl cost l (fun _=>false) t0 W0.drew:=by
 obtain⟨s,h⟩:=JF.start (n:=n) (sl:=sl) (cost:=cost) (Fk:=Fx B k E l) (t0:=t0) h;exact⟨E,s,fun g h=>h,h⟩
end
attribute [local go_sem] cL cK cJ cI
theorem Af {B k:Nat} {E:Nat->Prop} {L s:List F} (w:af) (h:St B k E L s w) (hm:s.length+46<=900000) (i:Nat) (X:F) (hx:s[i]?=some X) (hg:∀ t ∈ cg X,Gd t) (ho:X.op=10) :
  aV aj 72 #[.pointer (some ⟨k,0,none⟩),.int .i64 ((i:Nat):Int)] w (jt B k E L s (cg X) 46 w):=by
 have HS:=aa h;have HM:=aa hm;have HX:=aa hx;have Cy:=aa (h.good X (List.mem_of_getElem? hx));have HG:=aa hg;have HO:=aa ho;clear h hm hx hg ho;obtain⟨km,v,us,M,hU⟩:=HS.out;obtain⟨g,cap,u,qo,ql,qc,q,⟨rfl,oL,hcap,pE⟩,⟨c0,c1,c2,c3,c4,c5,c6⟩,⟨hft,hop,-⟩,gN,-⟩:=hU.node HX.out;have d1:=aq (v:=.slice (some ⟨g,0,none⟩) s.length cap) hU.bk 1 rfl;have tD:cap<=9223372036854775807:=pE;have r8:=aa gN;have rT:=aa hU.bk;have eD:=aa HS.out.om;have e8:(u.k==8)=false:=by rw[hop,HO.out];rfl
 have e9:(u.k==9)=false:=by rw[hop,HO.out];rfl
 have yC:(u.k==10)=true:=by rw[hop,HO.out];rfl
 clear hU gN hop hft;obtain⟨x0,x1,iA⟩:=Jn Cy.out.1 HO.out;have yh:=r8.out;rw[iA] at yh;obtain⟨v_,we,ee,⟨hq1,hq2,Ec⟩,hc⟩:=yh;injection ee with ea eb ec;replace eb:ql=2:=eb;subst ea;subst eb;subst ec;obtain⟨qa,rfl,yU,qu⟩:=hc 0 (by simp);replace qu:w.cell? qa=some (.int .i64 ((idx s x0:Nat):Int)):=qu;replace hq1:2<=qc:=hq1;have Ed:qc<=9223372036854775807:=hq2;have EZ:=aa yU;have wX:=aa qu;have CR:Hid (s[idx s x0]?=some x0):=aa (fW (HS.out.FA X (List.mem_of_getElem? HX.out) x0 (by rw[iA];simp)));have n_:kd X 0=x0:=by unfold kd;rw[iA];rfl
 obtain⟨Wo,zS,K6,wv⟩:=hc 1 (by simp);injection zS with zS;subst zS;replace wv:w.cell? (qa.add 1)=some (.int .i64 ((idx s x1:Nat):Int)):=wv;have Pj:=aa wv;have IU:Hid (s[idx s x1]?=some x1):=aa (fW (HS.out.FA X (List.mem_of_getElem? HX.out) x1 (by rw[iA];simp)));have eR:kd X 1=x1:=by unfold kd;rw[iA];rfl
 clear K6 wv;clear hc hq2 Ec yU qu r8;obtain⟨z1,kn,en,uy,jz,hkn,jm⟩:=aW w #[.int .i64 u.k,.bool (decide (u.n.z<0)),.slice u.n.o u.n.l u.n.c,.string u.nm,.slice u.ko u.kl u.kc,.slice (some qa) 2 qc,.bool q] 167;have n0:=aq (v:=.int .i64 u.k) jm.out 0 rfl;have lP:=aa (HS.out.below jz.out);have mw:=aa (cA.aH (B:=B) (k:=k) jz.out);have pF:g≠kn:=by have h1:=World.block_lt_of_cell? _ _ c0;have h2:=uy;intro h3;change g<_ at h1;omega
 have uA:Hid (NO B k z1 kn):=aa (NO.mM ((jz.out.block k (ae rT.out)).trans rT.out) pF jm.out (by decide));clear pF;go_enter ja,gW;have hl:Hid (cg X=dM X++[bL (sF X) x0,bL (Ga X) x1]):=aa (by unfold cg;rw[if_neg (show ¬ X.op=8 by rw[HO.out];decide),if_neg (show ¬ X.op=9 by rw[HO.out];decide),if_pos HO.out];rw[n_,eR]);have GL:Hid (∀ t ∈ dM X,Gd t):=aa (fun t ht=>HG.out t (by rw[hl.out];simp[ht]));have G1:=aa (HG.out (bL (sF X) x0) (by rw[hl.out];simp));have G2:=aa (HG.out (bL (Ga X) x1) (by rw[hl.out];simp));have G3:=aa (cx G1.out (x:=sF X) (by simp[bL,fo,F.kids]));have G4:=aa (cx G2.out (x:=Ga X) (by simp[bL,fo,F.kids]));clear n_ eR;go_upto_region 8 with fail
 have iC:Hid (∀ i j,i<23->j<23->i≠j->(fun i=>i+33) i≠(fun i=>i+33) j):=aa (fun i j _ _ h e=>h (bZ e));have iS:Hid (∀ i,i<23->(fun i=>i+33) i<56):=aa (fun i h=>by show i+33<56;omega)
 refine fP.region (by kernel_rfl) [[],[],[0,1],[],[],[],[5],[0,1,2,4,5,6],[],[8],[8,9],[8,9,10],[0,1,2,3,4,5,6,7,8,9,10,11],[],[],[],[15],[0,1,2,3,4,5,6,7,8,9,10,11,12,14,15,16],[],[18],[18,19],[18,19,20],[0,1,2,3,4,5,6,7,8,9,10,11,12,13,14,15,16,17,18,19,20,21],[0,1,2,3,4,5,6,7,8,9,10,11,12,13,14,15,16,17,18,19,20,21,22],[0,1,2,3,4,5,6,7,8,9,10,11,12,13,14,15,16,17,18,19,20,21,22,23],[0,1,2,3,4,5,6,7,8,9,10,11,12,13,14,15,16,17,18,19,20,21,22,23,24]] 23 (by kernel_rfl) (by kernel_rfl) (LQ B k E L z1 s _ 23 (fun i=>i+33) (fun i=>[0,0,9,0,0,0,0,1,0,0,0,0,1,0,0,0,0,1,0,0,0,0,1].getD i 0) [.fd (.eqv (.pointer (some ⟨k,0,none⟩))),.fd (.eqv (.int .i64 ((i:Nat):Int))),.row (z1.heap.size) (dM X),.fd (.eqv (.pointer (some ⟨k,0,none⟩))),.fd (.eqv (.pointer (some ⟨k,0,none⟩))),.fd (.eqv (.int .i64 ((i:Nat):Int))),.fd (.xW [X]),.fd (.iW (sF X)),.fd (.eqv (.pointer (some ⟨kn,5,none⟩))),.fd (.eqv (.slice (some qa) 2 qc)),.fd (.eqv (.pointer (some qa))),.fd (.eqv (.int .i64 ((idx s x0:Nat):Int))),.fd (.iW (bL (sF X) x0)),.fd (.eqv (.pointer (some ⟨k,0,none⟩))),.fd (.eqv (.pointer (some ⟨k,0,none⟩))),.fd (.eqv (.int .i64 ((i:Nat):Int))),.fd (.xW [X]),.fd (.iW (Ga X)),.fd (.eqv (.pointer (some ⟨kn,5,none⟩))),.fd (.eqv (.slice (some qa) 2 qc)),.fd (.eqv (.pointer (some (qa.add 1)))),.fd (.eqv (.int .i64 ((idx s x1:Nat):Int))),.fd (.iW (bL (Ga X) x1))]) (LQ.start lP.out) ?_ ?_
 ·rintro d T wc n9 o ⟨E9,s9,Ls,hJ⟩ ho hi hd aC cE;have ew:=hJ.Jd Ls iC.out (fun i hi=>az (iS.out i hi) (of_decide_eq_true rfl)) n9 hi hd;have hstep:=ew E9 (fun g h=>h) (fun g h=>.inl h);have aU:=aa hJ.st;have bU:=aa (hJ.room n9 hi hd (N:=900000) (show s.length+13<=900000 from by have:=HM.out;omega));have m0:T[0]?=some (.pointer (some ⟨k,0,none⟩)):=(hJ.gP 0 (by decide)).trans (by rfl);have m1:T[1]?=some (.int .i64 ((i:Nat):Int)):=(hJ.gP 1 (by decide)).trans (by rfl)
  obtain rfl | rfl | rfl | rfl | rfl | rfl | rfl | rfl | rfl | rfl | rfl | rfl | rfl | rfl | rfl | rfl | rfl | rfl | rfl | rfl | rfl | rfl | rfl:n9=0\/n9=1\/n9=2\/n9=3\/n9=4\/n9=5\/n9=6\/n9=7\/n9=8\/n9=9\/n9=10\/n9=11\/n9=12\/n9=13\/n9=14\/n9=15\/n9=16\/n9=17\/n9=18\/n9=19\/n9=20\/n9=21\/n9=22:=by omega
  all_goals (injection ho with ho)
  all_goals (subst ho)
  all_goals (try (clear hJ aC cE;refine⟨rfl,fun K9 hK=>?_⟩;have bA:=aa hstep;clear hstep;go_simp;exact hK.out _ _ (bA.out _ _ _ aU.out ((Ext.refl _).up (ah _)) (cA.refl _ _ _) rfl)))
  ·have UO:=hJ.vE 0 33 rfl (by decide) (aC 0 (by rfl)) (fun _ h=>h);have UN:=hJ.vE 1 34 rfl (by decide) (aC 1 (by rfl)) (fun _ h=>h);have ct:=aa hJ.ext;have iF:=aa hJ.be;clear hJ aC cE;refine⟨rfl,fun K9 hK=>?_⟩;clear hstep;have L0:=aa ew;clear ew;go_simp;refine (qp wc aU.out bU.out i X (ct.out.get HX.out) GL.out).mono ?_;rintro e w8 ⟨v8,l8,s8,rfl,p1,p2,p3,p4,p5⟩;exact hK.out _ _ (L0.out (fun g=>E9 g\/v8.ownBlock=some g) (fun g h=>.inl h) (fun g h=>h.elim .inl (fun h=>.inr (p1.ge h).1)) v8 s8 w8 p3 p4 p5 ⟨l8,wj p1 iF.out.size,p2,fun g h=>.inr h⟩)
  ·have yz:=hJ.vE 5 38 rfl (by decide) (aC 5 (by rfl)) (fun _ h=>h);have ct:=aa hJ.ext;clear hJ aC cE;refine⟨rfl,fun K9 hK=>?_⟩;have bA:=aa hstep;clear hstep;clear ew;go_simp;have hal:aB wc.heap.size wc (wc.alloc _):=(ax _ _).alloc (ag _) (.cells #[.int .i64 ((i:Nat):Int)] 116);exact hK.out _ _ (bA.out _ _ _ (aU.out.below hal) ((Ext.refl _).up (ah _)) (.aH hal) ⟨[i],IL.block (l:=[i]) (cs:=[.int .i64 ((i:Nat):Int)]) (show (wc.alloc (.cells #[.int .i64 ((i:Nat):Int)] 116)).heap[wc.heap.size]?=some (.cells [.int .i64 ((i:Nat):Int)].toArray 116 (0,0)) from bz wc _) (by decide) (aU.out.fresh (ag _)) (by show 1<=bn;decide) rfl,by simp only[aL,bg,ct.out.get HX.out]⟩)
  ·have yA:=hJ.vE 4 37 rfl (by decide) (aC 4 (by rfl)) (fun _ h=>h);obtain⟨v6,vv,f6⟩:=hJ.val 6 (by decide) (aC 6 (by rfl));obtain⟨l6,Fy,h6⟩:=(show pW B k E9 v6 [X] s9 wc from f6);obtain⟨Z6,Z7,g6,-⟩:=id Fy;rw[g6] at vv Fy;replace vv:T[39]?=_:=vv;have A6:=aa Fy;have H6:=aa h6;clear f6 Fy h6 g6;clear hJ aC cE;refine⟨rfl,fun K9 hK=>?_⟩;have bA:=aa hstep;clear hstep;clear ew;go_simp;refine (lX wc aU.out bU.out 7 ⟨by decide,by decide⟩ _ l6 A6.out [X] H6.out G3.out).mono ?_;rintro e w8 ⟨i8,s8,rfl,p1,p2,p3,p4⟩;exact hK.out _ _ (bA.out _ _ _ p1 p2 p4 ⟨i8,rfl,p3⟩)
  ·have es:T[5]?=some (.pointer (some ⟨kn,0,none⟩)):=(hJ.gP 5 (by decide)).trans (by rfl);clear hJ aC cE;refine⟨rfl,fun K9 hK=>?_⟩;have bA:=aa hstep;clear hstep;clear ew;go_simp;exact hK.out _ _ (bA.out _ _ _ aU.out ((Ext.refl _).up (ah _)) (cA.refl _ _ _) rfl)
  ·have xh:=hJ.vE 8 41 rfl (by decide) (aC 8 (by rfl)) (fun _ h=>h);have iF:=aa hJ.be;have n5:=aq (v:=.slice (some qa) 2 qc) ((iF.out.block kn (ae jm.out) uA.out).trans jm.out) 5 rfl;clear hJ aC cE;refine⟨rfl,fun K9 hK=>?_⟩;have bA:=aa hstep;clear hstep;clear ew;go_simp;exact hK.out _ _ (bA.out _ _ _ aU.out ((Ext.refl _).up (ah _)) (cA.refl _ _ _) rfl)
  ·have xg:=hJ.vE 9 42 rfl (by decide) (aC 9 (by rfl)) (fun _ h=>h);clear hJ aC cE;refine⟨rfl,fun K9 hK=>?_⟩;have bA:=aa hstep;clear hstep;clear ew;go_simp;exact hK.out _ _ (bA.out _ _ _ aU.out ((Ext.refl _).up (ah _)) (cA.refl _ _ _) rfl)
  ·have uK:=hJ.vE 10 43 rfl (by decide) (aC 10 (by rfl)) (fun _ h=>h);have iF:=aa hJ.be;have cq:wc.cell? qa=some (.int .i64 ((idx s x0:Nat):Int)):=by rw[cM (w:=w) (by exact (mw.out.trans iF.out).block _ (by have h1:=World.block_lt_of_cell? _ _ wX.out;exact h1) EZ.out.1.1)];exact wX.out
   clear hJ aC cE;refine⟨rfl,fun K9 hK=>?_⟩;have bA:=aa hstep;clear hstep;clear ew;go_simp;exact hK.out _ _ (bA.out _ _ _ aU.out ((Ext.refl _).up (ah _)) (cA.refl _ _ _) rfl)
  ·have Bo:=hJ.vE 3 36 rfl (by decide) (aC 3 (by rfl)) (fun _ h=>h);obtain⟨i7,uz,H7⟩:=hJ.vI 7 40 rfl (by decide) (aC 7 (by rfl)) (fun _ h=>h);have wG:=hJ.vE 11 44 rfl (by decide) (aC 11 (by rfl)) (fun _ h=>h);have ct:=aa hJ.ext;clear hJ aC cE;refine⟨rfl,fun K9 hK=>?_⟩;have bA:=aa hstep;clear hstep;clear ew;go_simp;refine (iG wc aU.out bU.out i7 (idx s x0) _ _ H7.out (ct.out.get CR.out) G1.out).mono ?_;rintro e w8 ⟨i8,s8,rfl,p1,p2,p3,p4⟩;exact hK.out _ _ (bA.out _ _ _ p1 p2 p4 ⟨i8,rfl,p3⟩)
  ·have UM:=hJ.vE 15 48 rfl (by decide) (aC 15 (by rfl)) (fun _ h=>h);have ct:=aa hJ.ext;clear hJ aC cE;refine⟨rfl,fun K9 hK=>?_⟩;have bA:=aa hstep;clear hstep;clear ew;go_simp;have hal:aB wc.heap.size wc (wc.alloc _):=(ax _ _).alloc (ag _) (.cells #[.int .i64 ((i:Nat):Int)] 116);exact hK.out _ _ (bA.out _ _ _ (aU.out.below hal) ((Ext.refl _).up (ah _)) (.aH hal) ⟨[i],IL.block (l:=[i]) (cs:=[.int .i64 ((i:Nat):Int)]) (show (wc.alloc (.cells #[.int .i64 ((i:Nat):Int)] 116)).heap[wc.heap.size]?=some (.cells [.int .i64 ((i:Nat):Int)].toArray 116 (0,0)) from bz wc _) (by decide) (aU.out.fresh (ag _)) (by show 1<=bn;decide) rfl,by simp only[aL,bg,ct.out.get HX.out]⟩)
  ·have Bm:=hJ.vE 14 47 rfl (by decide) (aC 14 (by rfl)) (fun _ h=>h);obtain⟨QS,IA,f16⟩:=hJ.val 16 (by decide) (aC 16 (by rfl));obtain⟨TE,Ak,h16⟩:=(show pW B k E9 QS [X] s9 wc from f16);obtain⟨Wy,Wz,g16,-⟩:=id Ak;rw[g16] at IA Ak;replace IA:T[49]?=_:=IA;have V_:=aa Ak;have ZQ:=aa h16;clear f16 Ak h16 g16;clear hJ aC cE;refine⟨rfl,fun K9 hK=>?_⟩;have bA:=aa hstep;clear hstep;clear ew;go_simp;refine (lX wc aU.out bU.out 11 ⟨by decide,by decide⟩ _ TE V_.out [X] ZQ.out G4.out).mono ?_;rintro e w8 ⟨i8,s8,rfl,p1,p2,p3,p4⟩;exact hK.out _ _ (bA.out _ _ _ p1 p2 p4 ⟨i8,rfl,p3⟩)
  ·have es:T[5]?=some (.pointer (some ⟨kn,0,none⟩)):=(hJ.gP 5 (by decide)).trans (by rfl);clear hJ aC cE;refine⟨rfl,fun K9 hK=>?_⟩;have bA:=aa hstep;clear hstep;clear ew;go_simp;exact hK.out _ _ (bA.out _ _ _ aU.out ((Ext.refl _).up (ah _)) (cA.refl _ _ _) rfl)
  ·have Qn:=hJ.vE 18 51 rfl (by decide) (aC 18 (by rfl)) (fun _ h=>h);have iF:=aa hJ.be;have n5:=aq (v:=.slice (some qa) 2 qc) ((iF.out.block kn (ae jm.out) uA.out).trans jm.out) 5 rfl;clear hJ aC cE;refine⟨rfl,fun K9 hK=>?_⟩;have bA:=aa hstep;clear hstep;clear ew;go_simp;exact hK.out _ _ (bA.out _ _ _ aU.out ((Ext.refl _).up (ah _)) (cA.refl _ _ _) rfl)
  ·have Qm:=hJ.vE 19 52 rfl (by decide) (aC 19 (by rfl)) (fun _ h=>h);clear hJ aC cE;refine⟨rfl,fun K9 hK=>?_⟩;have bA:=aa hstep;clear hstep;clear ew;go_simp;exact hK.out _ _ (bA.out _ _ _ aU.out ((Ext.refl _).up (ah _)) (cA.refl _ _ _) rfl)
  ·have Sk:=hJ.vE 20 53 rfl (by decide) (aC 20 (by rfl)) (fun _ h=>h);have iF:=aa hJ.be;have cq:wc.cell? (qa.add 1)=some (.int .i64 ((idx s x1:Nat):Int)):=by rw[cM (w:=w) (by rw[bX];exact (mw.out.trans iF.out).block _ (by have h1:=World.block_lt_of_cell? _ _ Pj.out;rw[bX] at h1;exact h1) EZ.out.1.1)];exact Pj.out
   replace cq:wc.cell? { block:=qa.block,off:=qa.off+1 }=some (.int .i64 ((idx s x1:Nat):Int)):=cq;clear hJ aC cE;refine⟨rfl,fun K9 hK=>?_⟩;have bA:=aa hstep;clear hstep;clear ew;go_simp;exact hK.out _ _ (bA.out _ _ _ aU.out ((Ext.refl _).up (ah _)) (cA.refl _ _ _) rfl)
  have Ao:=hJ.vE 13 46 rfl (by decide) (aC 13 (by rfl)) (fun _ h=>h);obtain⟨i17,nJ,Kb⟩:=hJ.vI 17 50 rfl (by decide) (aC 17 (by rfl)) (fun _ h=>h);have Sj:=hJ.vE 21 54 rfl (by decide) (aC 21 (by rfl)) (fun _ h=>h);have ct:=aa hJ.ext;clear hJ aC cE;refine⟨rfl,fun K9 hK=>?_⟩;have bA:=aa hstep;clear hstep;clear ew;go_simp;refine (iG wc aU.out bU.out i17 (idx s x1) _ _ Kb.out (ct.out.get IU.out) G2.out).mono ?_;rintro e w8 ⟨i8,s8,rfl,p1,p2,p3,p4⟩;exact hK.out _ _ (bA.out _ _ _ p1 p2 p4 ⟨i8,rfl,p3⟩)
 rintro T wt ⟨E9,s9,Ls,hJ⟩;have a0:=hJ.vE 0 33 rfl (by decide) rfl (fun _ h=>h);have a1:=hJ.vE 1 34 rfl (by decide) rfl (fun _ h=>h);obtain⟨v2,a2,f2⟩:=hJ.val 2 (by decide) rfl;obtain⟨l2,Ou,h2,Qf⟩:=(show ∃ ids,fQ.Row wt (z1.heap.size) v2 ids/\ids.map (fun i=>s9[i]?)=List.map some (dM X)/\∀ g,v2.ownBlock=some g->E9 g from f2);have R2:=aa Ou;have H2:=aa h2;have I4:=aa Qf;clear f2 Ou h2 Qf;have a3:=hJ.vE 3 36 rfl (by decide) rfl (fun _ h=>h);have a4:=hJ.vE 4 37 rfl (by decide) rfl (fun _ h=>h);have a5:=hJ.vE 5 38 rfl (by decide) rfl (fun _ h=>h);obtain⟨v6,a6,f6⟩:=hJ.val 6 (by decide) rfl;obtain⟨l6,Fy,h6⟩:=(show pW B k E9 v6 [X] s9 wt from f6);have A6:=aa Fy;clear f6 Fy h6;obtain⟨i7,a7,H7⟩:=hJ.vI 7 40 rfl (by decide) rfl (fun _ h=>h)
 have a8:=hJ.vE 8 41 rfl (by decide) rfl (fun _ h=>h);have a9:=hJ.vE 9 42 rfl (by decide) rfl (fun _ h=>h);have yR:=hJ.vE 10 43 rfl (by decide) rfl (fun _ h=>h);have yQ:=hJ.vE 11 44 rfl (by decide) rfl (fun _ h=>h);obtain⟨i12,a12,MR⟩:=hJ.vI 12 45 rfl (by decide) rfl (fun _ h=>h);have yP:=hJ.vE 13 46 rfl (by decide) rfl (fun _ h=>h);have ES:=hJ.vE 14 47 rfl (by decide) rfl (fun _ h=>h);have JV:=hJ.vE 15 48 rfl (by decide) rfl (fun _ h=>h);obtain⟨QS,JU,f16⟩:=hJ.val 16 (by decide) rfl;obtain⟨TE,Ak,h16⟩:=(show pW B k E9 QS [X] s9 wt from f16);have V_:=aa Ak;clear f16 Ak h16;obtain⟨i17,JT,Kb⟩:=hJ.vI 17 50 rfl (by decide) rfl (fun _ h=>h);have JS:=hJ.vE 18 51 rfl (by decide) rfl (fun _ h=>h);have JR:=hJ.vE 19 52 rfl (by decide) rfl (fun _ h=>h)
 have a20:=hJ.vE 20 53 rfl (by decide) rfl (fun _ h=>h);have a21:=hJ.vE 21 54 rfl (by decide) rfl (fun _ h=>h);obtain⟨i22,a22,ZO⟩:=hJ.vI 22 55 rfl (by decide) rfl (fun _ h=>h);have hfr:=hJ.fin (fun i hi=>az (iS.out i hi) (of_decide_eq_true rfl)) rfl (.cons a0 (.cons a1 (.cons a2 (.cons a3 (.cons a4 (.cons a5 (.cons a6 (.cons a7 (.cons a8 (.cons a9 (.cons yR (.cons yQ (.cons a12 (.cons yP (.cons ES (.cons JV (.cons JU (.cons JT (.cons JS (.cons JR (.cons a20 (.cons a21 (.cons a22 .nil)))))))))))))))))))))));have aU:=aa hJ.st;have gg:Hid (Ext s s9 13):=aa hJ.ext;have gK:=aa hJ.be;clear hJ iC iS a0 a1 a2 a3 a4 a5 a6 a7 a8 a9 yR yQ a12 yP ES JV JU JT JS JR a20 a21 a22;rw[hfr];clear hfr
 simp only[jd,dV,bu,bW,bQ];simp only[bT,cf];obtain⟨ro,rc,rfl,-⟩:=R2.out.form;obtain⟨z2,kr,er,sG,eY,lj,aR⟩:=aW wt #[.int .i64 ((i12:Nat):Int),.int .i64 ((i22:Nat):Int)] 116;replace R2:=aa (El.Row.below R2.out eY.out);have vH:Hid (fQ.At z2 (.slice (some ⟨kr,0,none⟩) 2 2) [i12,i22]):=aa (pN (l:=[i12,i22]) aR.out (by show 2<=bn;decide));have r6:Hid (z1.heap.size<=z2.heap.size):=aa (ai gK.out.size eY.out.size)
 go_wp2_with (first | (at_builtin;refine El.Row.append (E:=fQ) R2.out rfl (.tmp 35) (.tmp 56) rfl rfl rfl vH.out (by have h1:=cw H2.out;have h2:=tc X;show l2.length+2<=1000000;omega) r6.out ?_;intro v9 w9 r1 r2 r3 r4;have R9:=aa r1;have R4:=aa r4;clear r1 r2 r3 r4) | fail);go_ret;exact⟨_,l2++[i12,i22],s9,rfl,R9.out.at,by rw[hl.out,dF,dF,H2.out];simp only[aL,bg,MR.out,ZO.out],((aU.out.below eY.out).less (fun g h=>h.elim (Ls g) (I4.out g))).app R2.out (by have:=eD.out.1;have:=jz.out.size;omega) R4.out,gg.out.up (by omega),(((mw.out.trans gK.out).trans (.aH eY.out)).app R4.out (fun g hg=>ai jz.out.size (R2.out.ge hg).1) eD.out.2)⟩
theorem Ex {B k:Nat} {E:Nat->Prop} {L s:List F} (w:af) (h:St B k E L s w) (hm:s.length+46<=900000) (i:Nat) (X:F) (hx:s[i]?=some X) (hg:∀ t ∈ cg X,Gd t) (ho:X.op=11) :
  aV aj 72 #[.pointer (some ⟨k,0,none⟩),.int .i64 ((i:Nat):Int)] w (jt B k E L s (cg X) 46 w):=by
 have HS:=aa h;have HM:=aa hm;have HX:=aa hx;have Cy:=aa (h.good X (List.mem_of_getElem? hx));have HG:=aa hg;have HO:=aa ho;clear h hm hx hg ho;obtain⟨km,v,us,M,hU⟩:=HS.out;obtain⟨g,cap,u,qo,ql,qc,q,⟨rfl,oL,hcap,pE⟩,⟨c0,c1,c2,c3,c4,c5,c6⟩,⟨hft,hop,-⟩,gN,-⟩:=hU.node HX.out;have d1:=aq (v:=.slice (some ⟨g,0,none⟩) s.length cap) hU.bk 1 rfl;have tD:cap<=9223372036854775807:=pE;have r8:=aa gN;have rT:=aa hU.bk;have e8:(u.k==8)=false:=by rw[hop,HO.out];rfl
 have e9:(u.k==9)=false:=by rw[hop,HO.out];rfl
 have yC:(u.k==10)=false:=by rw[hop,HO.out];rfl
 have IB:(u.k==11)=true:=by rw[hop,HO.out];rfl
 clear hU gN hop hft;obtain⟨x0,iA⟩:=DO Cy.out.1 (.inr (.inr HO.out));have yh:=r8.out;rw[iA] at yh;obtain⟨v_,we,ee,⟨hq1,hq2,Ec⟩,hc⟩:=yh;injection ee with ea eb ec;replace eb:ql=1:=eb;subst ea;subst eb;subst ec;obtain⟨qa,rfl,yU,qu⟩:=hc 0 (by simp);replace qu:w.cell? qa=some (.int .i64 ((idx s x0:Nat):Int)):=qu;replace hq1:1<=qc:=hq1;have Ed:qc<=9223372036854775807:=hq2;have EZ:=aa yU;have wX:=aa qu;have CR:Hid (s[idx s x0]?=some x0):=aa (fW (HS.out.FA X (List.mem_of_getElem? HX.out) x0 (by rw[iA];simp)));have n_:kd X 0=x0:=by unfold kd;rw[iA];rfl
 clear hc hq2 Ec yU qu r8;obtain⟨z1,kn,en,uy,jz,hkn,jm⟩:=aW w #[.int .i64 u.k,.bool (decide (u.n.z<0)),.slice u.n.o u.n.l u.n.c,.string u.nm,.slice u.ko u.kl u.kc,.slice (some qa) 1 qc,.bool q] 167;have n0:=aq (v:=.int .i64 u.k) jm.out 0 rfl;have lP:=aa (HS.out.below jz.out);have mw:=aa (cA.aH (B:=B) (k:=k) jz.out);have pF:g≠kn:=by have h1:=World.block_lt_of_cell? _ _ c0;have h2:=uy;intro h3;change g<_ at h1;omega
 have uA:Hid (NO B k z1 kn):=aa (NO.mM ((jz.out.block k (ae rT.out)).trans rT.out) pF jm.out (by decide));clear pF;go_enter ja,gW;have hl:Hid (cg X=dM X++([iw X]++jH X x0)):=aa (by unfold cg;rw[if_neg (show ¬ X.op=8 by rw[HO.out];decide),if_neg (show ¬ X.op=9 by rw[HO.out];decide),if_neg (show ¬ X.op=10 by rw[HO.out];decide),if_pos HO.out];rw[n_]);have GL:Hid (∀ t ∈ dM X,Gd t):=aa (fun t ht=>HG.out t (by rw[hl.out];simp[ht]));have G1:=aa (HG.out (iw X) (by rw[hl.out];simp));have GT:Hid (∀ t ∈ jH X x0,Gd t):=aa (fun t ht=>HG.out t (by rw[hl.out];simp[ht]));clear n_;go_upto_region 10 with fail
 have iC:Hid (∀ i j,i<14->j<14->i≠j->(fun i=>i+60) i≠(fun i=>i+60) j):=aa (fun i j _ _ h e=>h (bZ e));have iS:Hid (∀ i,i<14->(fun i=>i+60) i<74):=aa (fun i h=>by show i+60<74;omega)
 refine fP.region (by kernel_rfl) [[],[],[0,1],[],[],[0,1,2,3,4],[0,1,2,3,4,5],[],[],[],[9],[9,10],[9,10,11],[0,1,2,3,4,5,7,8,9,10,11,12],[0,1,2,3,4,5,6,7,8,9,10,11,12,13],[0,1,2,3,4,5,6,7,8,9,10,11,12,13,14],[0,1,2,3,4,5,6,7,8,9,10,11,12,13,14,15]] 14 (by kernel_rfl) (by kernel_rfl) (LQ B k E L z1 s _ 14 (fun i=>i+60) (fun i=>[0,0,9,0,0,7,0,0,0,0,0,0,0,20].getD i 0) [.fd (.eqv (.pointer (some ⟨k,0,none⟩))),.fd (.eqv (.int .i64 ((i:Nat):Int))),.row (z1.heap.size) (dM X),.fd (.eqv (.pointer (some ⟨k,0,none⟩))),.fd (.eqv (.int .i64 ((i:Nat):Int))),.fd (.iW (iw X)),.fd (.xW [iw X]),.fd (.eqv (.pointer (some ⟨k,0,none⟩))),.fd (.eqv (.int .i64 ((i:Nat):Int))),.fd (.eqv (.pointer (some ⟨kn,5,none⟩))),.fd (.eqv (.slice (some qa) 1 qc)),.fd (.eqv (.pointer (some qa))),.fd (.eqv (.int .i64 ((idx s x0:Nat):Int))),.fd (.xW (jH X x0))]) (LQ.start lP.out) ?_ ?_
 ·rintro d T wc n9 o ⟨E9,s9,Ls,hJ⟩ ho hi hd aC cE;have ew:=hJ.Jd Ls iC.out (fun i hi=>az (iS.out i hi) (of_decide_eq_true rfl)) n9 hi hd;have hstep:=ew E9 (fun g h=>h) (fun g h=>.inl h);have aU:=aa hJ.st;have bU:=aa (hJ.room n9 hi hd (N:=900000) (show s.length+36<=900000 from by have:=HM.out;omega));have m0:T[0]?=some (.pointer (some ⟨k,0,none⟩)):=(hJ.gP 0 (by decide)).trans (by rfl);have m1:T[1]?=some (.int .i64 ((i:Nat):Int)):=(hJ.gP 1 (by decide)).trans (by rfl);obtain rfl | rfl | rfl | rfl | rfl | rfl | rfl | rfl | rfl | rfl | rfl | rfl | rfl | rfl:n9=0\/n9=1\/n9=2\/n9=3\/n9=4\/n9=5\/n9=6\/n9=7\/n9=8\/n9=9\/n9=10\/n9=11\/n9=12\/n9=13:=by omega
  all_goals (injection ho with ho)
  all_goals (subst ho)
  all_goals (try (clear hJ aC cE;refine⟨rfl,fun K9 hK=>?_⟩;have bA:=aa hstep;clear hstep;go_simp;exact hK.out _ _ (bA.out _ _ _ aU.out ((Ext.refl _).up (ah _)) (cA.refl _ _ _) rfl)))
  ·have Yo:=hJ.vE 0 60 rfl (by decide) (aC 0 (by rfl)) (fun _ h=>h);have Yn:=hJ.vE 1 61 rfl (by decide) (aC 1 (by rfl)) (fun _ h=>h);have ct:=aa hJ.ext;have iF:=aa hJ.be;clear hJ aC cE;refine⟨rfl,fun K9 hK=>?_⟩;clear hstep;have L0:=aa ew;clear ew;go_simp;refine (qp wc aU.out bU.out i X (ct.out.get HX.out) GL.out).mono ?_;rintro e w8 ⟨v8,l8,s8,rfl,p1,p2,p3,p4,p5⟩;exact hK.out _ _ (L0.out (fun g=>E9 g\/v8.ownBlock=some g) (fun g h=>.inl h) (fun g h=>h.elim .inl (fun h=>.inr (p1.ge h).1)) v8 s8 w8 p3 p4 p5 ⟨l8,wj p1 iF.out.size,p2,fun g h=>.inr h⟩)
  ·have Ym:=hJ.vE 3 63 rfl (by decide) (aC 3 (by rfl)) (fun _ h=>h);have Yl:=hJ.vE 4 64 rfl (by decide) (aC 4 (by rfl)) (fun _ h=>h);have ct:=aa hJ.ext;clear hJ aC cE;refine⟨rfl,fun K9 hK=>?_⟩;have bA:=aa hstep;clear hstep;clear ew;go_simp;refine (Bl wc aU.out bU.out i X (ct.out.get HX.out) G1.out).mono ?_;rintro e w8 ⟨i8,s8,rfl,p1,p2,p3,p4⟩;exact hK.out _ _ (bA.out _ _ _ p1 p2 p4 ⟨i8,rfl,p3⟩)
  ·obtain⟨i5,Yk,H5⟩:=hJ.vI 5 65 rfl (by decide) (aC 5 (by rfl)) (fun _ h=>h);clear hJ aC cE;refine⟨rfl,fun K9 hK=>?_⟩;have bA:=aa hstep;clear hstep;clear ew;go_simp;have hal:aB wc.heap.size wc (wc.alloc _):=(ax _ _).alloc (ag _) (.cells #[.int .i64 ((i5:Nat):Int)] 116);exact hK.out _ _ (bA.out _ _ _ (aU.out.below hal) ((Ext.refl _).up (ah _)) (.aH hal) ⟨[i5],IL.block (l:=[i5]) (cs:=[.int .i64 ((i5:Nat):Int)]) (show (wc.alloc (.cells #[.int .i64 ((i5:Nat):Int)] 116)).heap[wc.heap.size]?=some (.cells [.int .i64 ((i5:Nat):Int)].toArray 116 (0,0)) from bz wc _) (by decide) (aU.out.fresh (ag _)) (by show 1<=bn;decide) rfl,by simp only[aL,bg,H5.out]⟩)
  ·have es:T[5]?=some (.pointer (some ⟨kn,0,none⟩)):=(hJ.gP 5 (by decide)).trans (by rfl);clear hJ aC cE;refine⟨rfl,fun K9 hK=>?_⟩;have bA:=aa hstep;clear hstep;clear ew;go_simp;exact hK.out _ _ (bA.out _ _ _ aU.out ((Ext.refl _).up (ah _)) (cA.refl _ _ _) rfl)
  ·have e69:=hJ.vE 9 69 rfl (by decide) (aC 9 (by rfl)) (fun _ h=>h);have iF:=aa hJ.be;have n5:=aq (v:=.slice (some qa) 1 qc) ((iF.out.block kn (ae jm.out) uA.out).trans jm.out) 5 rfl;clear hJ aC cE;refine⟨rfl,fun K9 hK=>?_⟩;have bA:=aa hstep;clear hstep;clear ew;go_simp;exact hK.out _ _ (bA.out _ _ _ aU.out ((Ext.refl _).up (ah _)) (cA.refl _ _ _) rfl)
  ·have e70:=hJ.vE 10 70 rfl (by decide) (aC 10 (by rfl)) (fun _ h=>h);clear hJ aC cE;refine⟨rfl,fun K9 hK=>?_⟩;have bA:=aa hstep;clear hstep;clear ew;go_simp;exact hK.out _ _ (bA.out _ _ _ aU.out ((Ext.refl _).up (ah _)) (cA.refl _ _ _) rfl)
  ·have e71:=hJ.vE 11 71 rfl (by decide) (aC 11 (by rfl)) (fun _ h=>h);have iF:=aa hJ.be;have cq:wc.cell? qa=some (.int .i64 ((idx s x0:Nat):Int)):=by rw[cM (w:=w) (by exact (mw.out.trans iF.out).block _ (by have h1:=World.block_lt_of_cell? _ _ wX.out;exact h1) EZ.out.1.1)];exact wX.out
   clear hJ aC cE;refine⟨rfl,fun K9 hK=>?_⟩;have bA:=aa hstep;clear hstep;clear ew;go_simp;exact hK.out _ _ (bA.out _ _ _ aU.out ((Ext.refl _).up (ah _)) (cA.refl _ _ _) rfl)
  have Yj:=hJ.vE 7 67 rfl (by decide) (aC 7 (by rfl)) (fun _ h=>h);have Yi:=hJ.vE 8 68 rfl (by decide) (aC 8 (by rfl)) (fun _ h=>h);have e72:=hJ.vE 12 72 rfl (by decide) (aC 12 (by rfl)) (fun _ h=>h);have ct:=aa hJ.ext;clear hJ aC cE;refine⟨rfl,fun K9 hK=>?_⟩;have bA:=aa hstep;clear hstep;clear ew;go_simp;refine (Gk wc aU.out bU.out i (idx s x0) X x0 (ct.out.get HX.out) (ct.out.get CR.out) GT.out).mono ?_;rintro e w8 ⟨v8,s8,rfl,p1,p2,p3,p4⟩;exact hK.out _ _ (bA.out _ _ _ p2 p3 p4 p1)
 rintro T wt ⟨E9,s9,Ls,hJ⟩;have a0:=hJ.vE 0 60 rfl (by decide) rfl (fun _ h=>h);have a1:=hJ.vE 1 61 rfl (by decide) rfl (fun _ h=>h);obtain⟨v2,a2,f2⟩:=hJ.val 2 (by decide) rfl;obtain⟨l2,Ou,h2,Qf⟩:=(show ∃ ids,fQ.Row wt (z1.heap.size) v2 ids/\ids.map (fun i=>s9[i]?)=List.map some (dM X)/\∀ g,v2.ownBlock=some g->E9 g from f2);have R2:=aa Ou;have H2:=aa h2;clear f2 Ou h2 Qf;have a3:=hJ.vE 3 63 rfl (by decide) rfl (fun _ h=>h);have a4:=hJ.vE 4 64 rfl (by decide) rfl (fun _ h=>h);obtain⟨i5,a5,H5⟩:=hJ.vI 5 65 rfl (by decide) rfl (fun _ h=>h);obtain⟨v6,a6,f6⟩:=hJ.val 6 (by decide) rfl;obtain⟨l6,Fy,h6⟩:=(show pW B k E9 v6 [iw X] s9 wt from f6);have A6:=aa Fy;have H6:=aa h6;clear f6 Fy h6;have a7:=hJ.vE 7 67 rfl (by decide) rfl (fun _ h=>h)
 have a8:=hJ.vE 8 68 rfl (by decide) rfl (fun _ h=>h);have a9:=hJ.vE 9 69 rfl (by decide) rfl (fun _ h=>h);have yR:=hJ.vE 10 70 rfl (by decide) rfl (fun _ h=>h);have yQ:=hJ.vE 11 71 rfl (by decide) rfl (fun _ h=>h);have a12:=hJ.vE 12 72 rfl (by decide) rfl (fun _ h=>h);obtain⟨Wf,yP,f13⟩:=hJ.val 13 (by decide) rfl;obtain⟨Mq,Ov,Qj⟩:=(show pW B k E9 Wf (jH X x0) s9 wt from f13);have V':=aa Ov;have Mn:=aa Qj;clear f13 Ov Qj;have hfr:=hJ.fin (fun i hi=>az (iS.out i hi) (of_decide_eq_true rfl)) rfl (.cons a0 (.cons a1 (.cons a2 (.cons a3 (.cons a4 (.cons a5 (.cons a6 (.cons a7 (.cons a8 (.cons a9 (.cons yR (.cons yQ (.cons a12 (.cons yP .nil))))))))))))));have aU:=aa hJ.st;have gg:Hid (Ext s s9 36):=aa hJ.ext;have gK:=aa hJ.be
 clear hJ iC iS a0 a1 a2 a3 a4 a5 a6 a7 a8 a9 yR yQ a12 yP;rw[hfr];clear hfr;simp only[jd,dV,bu,bW,bQ];simp only[bT,cf];obtain⟨o2,c2,rfl,-⟩:=id R2.out.at;obtain⟨o6,c6,rfl,-⟩:=id A6.out.FB;obtain⟨WD,c13,rfl,-⟩:=id V'.out.FB;obtain⟨z2,kr,er,sG,eY,lj,aR⟩:=aW wt #[.slice o2 l2.length c2,.slice o6 l6.length c6,.slice WD Mq.length c13] 114;have Zf:Hid (O8 fQ z2 ⟨kr,0,none⟩ [l2,l6,Mq]):=aa (fun q hq=>by
  have h3:q=0\/q=1\/q=2:=by have h9:q<3:=hq;omega
  rcases h3 with rfl | rfl | rfl
  ·exact⟨_,_,_,aq aR.out 0 rfl,R2.out.at.below eY.out⟩
  ·exact⟨_,_,_,aq aR.out 1 rfl,A6.out.FB.below eY.out⟩
  ·exact⟨_,_,_,aq aR.out 2 rfl,V'.out.FB.below eY.out⟩)
 have AD:Hid (nn [l2,l6,Mq]<=100000):=aa (by have h1:=cw H2.out;have h2:=tc X;have h3:=cw H6.out;have h4:=cw Mn.out;have h5:(jH X x0).length=3:=rfl;have h6:[iw X].length=1:=rfl;show l2.length+(l6.length+(Mq.length+0))<=100000;omega);go_wp2_with fail;refine (Cn ⟨kr,0,none⟩ 3 3 [l2,l6,Mq] z2 Zf.out rfl ⟨ag _,by decide⟩ AD.out (by decide)).mono ?_;rintro e y1 ⟨v1,rfl,h1,h2⟩;obtain⟨fl,hfl⟩:∃ q,q=[l2,l6,Mq].flatten:=⟨_,rfl⟩;rw[<-hfl] at h1;have I1:=aa hfl;clear hfl;obtain⟨o9,c9,rfl,-⟩:=id h1;have A1:=aa h1;have B1:=aa h2;clear h1 h2;go_wp2_with fail;go_ret
 exact⟨_,fl,s9,rfl,A1.out,by rw[hl.out,I1.out];simp only[List.flatten_cons,List.flatten_nil,dG,dF,H2.out,H6.out,Mn.out],((aU.out.below eY.out).below B1.out).less Ls,gg.out.up (by omega),(((mw.out.trans gK.out).trans (.aH eY.out)).trans (.aH B1.out))⟩
theorem Ez {B k:Nat} {E:Nat->Prop} {L s:List F} (w:af) (h:St B k E L s w) (hm:s.length+46<=900000) (i:Nat) (X:F) (hx:s[i]?=some X) (hg:∀ t ∈ cg X,Gd t) :
  aV aj 72 #[.pointer (some ⟨k,0,none⟩),.int .i64 ((i:Nat):Int)] w (jt B k E L s (cg X) 46 w):=by
 by_cases h8:X.op=8
 ·exact Ae w h hm i X hx hg h8
 by_cases h9:X.op=9
 ·exact Cg w h hm i X hx hg h9
 by_cases h10:X.op=10
 ·exact Af w h hm i X hx hg h10
 by_cases h11:X.op=11
 ·exact Ex w h hm i X hx hg h11
 by_cases h7:X.op=7
 ·exact Ey w h hm i X hx hg h7
 by_cases h5:X.op=5
 ·exact Cf w h hm i X hx hg h5
 by_cases h4:X.op=4
 ·exact Ch w h hm i X hx hg h4
 refine Ad w h hm i X hx hg fun q hq=>?_
 simp only[aP,aK,or_false] at hq;rcases hq with rfl | rfl | rfl | rfl | rfl | rfl | rfl<;>assumption
mutual
theorem gT.tt:∀ (t:F),gT (fun _=>True) t
 | .node o z nm ks=>by rw[gT];exact⟨trivial,dI.tt ks⟩
theorem dI.tt:∀ (l:List F),dI (fun _=>True) l
 | []=>by rw[dI];trivial
 | k::l=>by rw[dI];exact⟨gT.tt k,dI.tt l⟩
end
theorem sr (s:List F) (t:F):∃ m,jB s t=s++m:=(su (P:=fun _=>True) t s (fun _ _=>trivial) (gT.tt t)).2
theorem ju (s:List F) (l:List F):∃ m,eC s l=s++m:=(nN (P:=fun _=>True) l s (fun _ _=>trivial) (dI.tt l)).2
mutual
theorem sL:∀ (t:F) (s:List F),s.Nodup->(jB s t).Nodup
 | .node o z nm ks,s,h=>by
  rw[jB]
  split
  ·exact h
  rename_i hn
  refine sk ks _ ?_;rw[List.nodup_append];exact⟨h,by simp,fun a ha b hb e=>by rw[aX] at hb;rw[e,hb] at ha;exact hn ha⟩
theorem sk:∀ (l:List F) (s:List F),s.Nodup->(eC s l).Nodup
 | [],s,h=>by rw[eC];exact h
 | k::l,s,h=>by rw[eC];exact sk l _ (sL k s h)
end
def ua (S:List F):Prop:=∀ t ∈ S,∀ c ∈ t.kids,c ∈ S
mutual
theorem yN {S:List F} (h:ua S):∀ (t:F),t ∈ S->gT (fun x=>x ∈ S) t
 | .node o z nm ks,ht=>by rw[gT];exact⟨ht,vB h ks (h _ ht)⟩
theorem vB {S:List F} (h:ua S):∀ (l:List F),(∀ t ∈ l,t ∈ S)->dI (fun x=>x ∈ S) l
 | [],_=>by rw[dI];trivial
 | k::l,hl=>by rw[dI];exact⟨yN h k (hl k (by simp)),vB h l fun t ht=>hl t (by simp[ht])⟩
end
theorem xp:∀ (l:List F) (s m:List F),eC s (l++m)=eC (eC s l) m
 | [],s,m=>by rw[eC];rfl
 | k::l,s,m=>by rw[aM,eC,eC];exact xp l _ m
theorem qH {ks:List F} {s:List F} {j:Nat} (h:j<ks.length):eC s (ks.take (j+1))=jB (eC s (ks.take j)) ks[j]:=by
 rw[List.take_succ_eq_append_getElem h,xp,eC,eC]
theorem F2 {s:List F} {t:F} (h:t ∈ s):jB s t=s:=by
 obtain⟨o,z,nm,ks⟩:=t;rw[jB,if_pos h]
theorem p8 {s:List F} {t:F} (h:t ∉ s):jB s t=eC (s++[t]) t.kids:=by
 obtain⟨o,z,nm,ks⟩:=t;rw[jB,if_neg h];rfl
theorem oI {α:Type}:∀ {l s:List α},l.Nodup->(∀ x ∈ l,x ∈ s)->l.length<=s.length
 | [],s,_,_=>ah _
 | a::l,s,h,hs=>by
  obtain⟨p,q,rfl⟩:=List.append_of_mem (hs a (by simp));rw[List.nodup_cons] at h
  have h1:=oI (l:=l) (s:=p++q) h.2 (fun x hx=>by
   have h2:=hs x (by simp[hx]);rw[gO,aP] at h2;rw[gO];rcases h2 with h2 | h2 | h2
   ·exact .inl h2
   ·subst h2;exact absurd hx h.1
   exact .inr h2)
  simp only[dB,jo] at h1 ⊢
  omega
theorem St.uR {B k:Nat} {E E':Nat->Prop} {L s:List F} {w w':af} {r:Option Nat} (h:St B k E L s w) (hg:w.grownBy w' r)
  (hr:∀ g,r=some g->E g/\B<=g/\∃ c T,w.heap[g]?=some (.cells c T (0,0))/\(T≠163/\T≠167)/\lA c.toList)
  (hE:∀ g,E' g->E g\/w.heap.size<=g) (hl:∀ g,E' g->g<w'.heap.size):St B k E' L s w':=by
 obtain⟨km,v,us,M,h⟩:=h;obtain⟨w0,h1,h2,h3⟩:=h.tx;have mW:∀ (g:Nat) (c:Array ak) (T:TypeId),w.heap[g]?=some (.cells c T (0,0))->(T=163\/T=167)->some g≠r:=fun g c T hc hT e=>by
  obtain⟨-,-,c',T',nu,JC,-⟩:=hr g e.symm;rw[hc] at nu;injection nu with e1;injection e1 with _ e2;subst e2;rcases hT with hT | hT
  ·exact JC.1 hT
  exact JC.2 hT
 have ek:w'.heap[k]?=w.heap[k]?:=hg.block k (ae h.bk) (mW k _ _ h.bk (.inl rfl));have em:w'.heap[km]?=w.heap[km]?:=hg.block km h.mp.lt (fun e=>by
  obtain⟨-,-,c',T',nu,-⟩:=hr km e.symm;obtain⟨es,cl,hm⟩:=h.mp.obj;rw[hm] at nu;cases nu)
 have kn:KN w w':=by
  intro a z hc;have hla:=World.block_lt_of_cell? w a hc;by_cases hb:some a.block=r
  ·obtain⟨-,-,c,T,nu,-,h32⟩:=hr a.block hb.symm;exact absurd hc (qz nu h32 rfl z)
  rw[cM (hg.block _ hla hb)];exact hc
 have GV:∀ g,¬ E g->some g≠r:=fun g hn e=>hn (hr g e.symm).1
 have no:∀ g,g<w.heap.size->¬ E g->NO B k w g->NO B k w' g:=fun g hlt hn hno=>by
  have hb:=hg.block g hlt (GV g hn);rintro⟨hB,o⟩;refine hno ⟨hB,?_⟩;rw[hb] at o;rcases o with o | ⟨c,T,a1,a2 | ⟨a2,a3⟩,a4⟩
  ·exact .inl o
  ·exact .inr ⟨c,T,a1,.inl a2,a4⟩
  exact .inr ⟨c,T,a1,.inr ⟨a2,nU (fun _=>ek) g hlt a3⟩,a4⟩
 have ns:∀ g,g<w.heap.size->NS B k E w g->NS B k E' w' g:=fun g hlt hn=>⟨no g hlt hn.2 hn.1,fun he=>by rcases hE g he with h9 | h9;exact hn.2 h9;omega⟩
 exact⟨km,v,us,M,{ h with
  bk:=ek.trans h.bk
  sz:=ai h.sz hg.size
  mp:=h.mp.keep em
  row:=by
   obtain⟨⟨r1,r2⟩,r3,r4⟩:=h.row;refine⟨⟨r1,?_⟩,fun g cC=>?_,fun _ _=>trivial⟩
   ·rcases r2 with r2 | ⟨g,cap,cur,e1,e2,e3,e4⟩
    ·exact .inl r2
    exact .inr ⟨g,cap,cur,e1,e2,(hg.block g (ae e3) (mW g _ _ e3 (.inr rfl))).trans e3,e4⟩
   obtain⟨c,hc,h32⟩:=r3 g cC;exact⟨c,(hg.block g (ae hc) (mW g _ _ hc (.inr rfl))).trans hc,h32⟩
  ft:=fun i u t hu ht=>(((h.ft i u t hu ht).lt).keep (fun g qR=>hg.block g qR.2 (GV g qR.1.2)) kn).mono fun g qR=>ns g qR.2 qR.1
  ids:=fun i u t hu ht=>by
   obtain⟨ko,kc,e,q1,q2⟩:=h.ids i u t hu ht;refine⟨ko,kc,e,q1,fun j hj=>?_⟩;obtain⟨a,ha,hn,hc⟩:=q2 j hj;have hla:=World.block_lt_of_cell? w _ hc;rw[bX] at hla;exact⟨a,ha,⟨ns _ hla hn.1,by obtain⟨c,nu⟩:=hn.2;exact⟨c,(hg.block _ hla (GV _ hn.1.2)).trans nu⟩⟩,by rw[cM (w:=w) (by rw[bX];exact hg.block _ hla (GV _ hn.1.2))];exact hc⟩
  ex:=hl
  tx:=⟨w0,h1,h2,⟨hg.os.trans h3.os,hg.tape.trans h3.tape,hg.output.trans h3.output,ai h3.size hg.size,fun g hgB=>(hg.block g (az hgB h.sz) (fun e=>by have:=(hr g e.symm).2.1;omega)).trans (h3.block g hgB)⟩⟩ }⟩
theorem BQ (l:List xk) (i:Nat) (hi:i<l.length):(l.flatMap GW).set (i*7+6) (.bool true)=(l.set i { l[i] with b:=true }).flatMap GW:=by
 induction l generalizing i with
 | nil=>simp at hi
 | cons b l ih =>
  cases i with
  | zero=>rfl
  | succ i =>
   have h1:=ih i (by simpa using hi);simp only[List.flatMap_cons,GW,aM,List.nil_append,bQ,cO,Nat.one_mul,List.getElem_cons_succ,show i*7+7+6=(i*7+6)+1+1+1+1+1+1+1 from rfl];rw[<-h1]
theorem C_ {B k:Nat} {E:Nat->Prop} {L s:List F} {w w':af} {km g n cap:Nat} {us:List xk} {M:Bs->Option ak} (h:JW B k E L s w km (.slice (some ⟨g,0,none⟩) n cap) us M) {i:Nat} {t:F} (hi:s[i]?=some t) (hw:w'=w.setCell ⟨g,i*7+6,none⟩ (.bool true)):St B k E (L++[t]) s w'/\cA B k w w'/\w'.heap[k]?=w.heap[k]?:=by
 obtain⟨oL,e⟩:=List.getElem?_eq_some_iff.1 hi;have Ju:i<us.length:=by rw[h.len];exact oL
 have hts:t ∈ s:=List.mem_of_getElem? hi;have jl:w.grownBy w' (some g):=by
  rw[hw];refine aD ?_ _;exact aE _ _
 obtain⟨c,hc,h32⟩:=h.row.n32 g rfl;have hge:=h.row.ge (j:=g) rfl;have hne:some k≠some g:=fun e=>by injection e with e;have:=hge.1;omega
 have hnm:some km≠some g:=fun e=>by
  injection e with e;obtain⟨es,cl,hm⟩:=h.mp.obj;rw[e,hc] at hm;cases hm
 have hst:cA B k w w':=cA.aI jl (fun q hq=>by
  injection hq with hq;subst hq;exact⟨by have:=hge.1;have:=h.kB;omega,.inr ⟨c,_,hc,.inr ⟨rfl,by have:=hge.1;omega,_,_,h.bk,rfl⟩,h32⟩⟩) hne
 have T9:n=us.length:=by obtain⟨_,_,e,_⟩:=h.row.form;injection e
 have h0:=h.row.own;rw[<-T9] at h0;have h1:=(ff h0 (i*7+6) (.bool true)).1;have h2:=BQ us i Ju;have ef:nR.f=GW:=rfl;rw[ef,h2,<-hw] at h1;have nu:=aA w g (i*7+6) _ _ (.bool true) hc;rw[<-hw] at nu;obtain⟨hrow,hfr⟩:=h.row.put i { us[i] with b:=true } jl h1 ⟨_,nu,mL h32 _ (by intro z e;cases e)⟩ T9 trivial;have get:∀ (j:Nat) (x:xk),(us.set i { us[i] with b:=true })[j]?=some x->∃ y,us[j]?=some y/\x.u=y.u/\x.ko=y.ko/\x.kl=y.kl/\x.kc=y.kc/\(j=i->x.b=true)/\(j≠i->x.b=y.b):=by
  intro j x hx;by_cases hj:j=i
  ·subst hj;rw[List.getElem?_set_self Ju] at hx;injection hx with hx;subst hx;exact⟨_,List.getElem?_eq_getElem Ju,rfl,rfl,rfl,rfl,fun _=>rfl,fun h=>absurd rfl h⟩
  rw[List.getElem?_set_ne (fun e=>hj e.symm)] at hx;exact⟨x,hx,rfl,rfl,rfl,rfl,fun e=>absurd e hj,fun _=>rfl⟩
 obtain⟨w0,q1,q2,q3⟩:=h.tx;refine⟨⟨km,_,_,M,{ h with
  bk:=(jl.block k (ae h.bk) hne).trans h.bk
  sz:=ai h.sz jl.size
  mp:=h.mp.keep (jl.block km h.mp.lt hnm)
  row:=hrow
  len:=by rw[cP];exact h.len
  ft:=fun j x y hx hy=>by
   obtain⟨z,hz,e1,-⟩:=get j x hx;rw[e1];exact (h.ft j z y hz hy).rz hst
  ids:=fun j x y hx hy=>by
   obtain⟨z,hz,-,e1,e2,e3,-⟩:=get j x hx;rw[e1,e2,e3];exact (h.ids j z y hz hy).rz hst
  vm:=fun j x y hx hy=>by
   obtain⟨z,hz,-,-,-,-,e1,e2⟩:=get j x hx;by_cases hj:j=i
   ·rw[e1 hj];subst hj;rw[hi] at hy;injection hy with hy;subst hy;exact⟨fun _=>by simp,fun _=>rfl⟩
   rw[e2 hj];have hl:=h.vm j z y hz hy;have W4:y≠t:=fun e5=>by
    subst e5;exact hj (by rw[<-zP h.nd hy,zP h.nd hi])
   rw[hl,gO,aX];exact⟨.inl,fun h=>h.resolve_right W4⟩
  sub:=fun x hx=>by
   rcases List.mem_append.1 hx with hx | hx
   ·exact h.sub x hx
   rw[aX] at hx;rw[hx];exact hts
  ex:=fun q hq=>az (h.ex q hq) jl.size
  tx:=⟨w0,q1,q2,q3.trans (hst.below h.sz)⟩ }⟩,hst,jl.block k (ae h.bk) hne⟩
structure o7 (B k kt:Nat) (v v':ak) (w w':af):Prop where
 os:w'.os=w.os
 tape:w'.tape=w.tape
 output:w'.output=w.output
 size:w.heap.size<=w'.heap.size
 block:∀ g,g<w.heap.size->¬ Own B k w g->g≠kt->v.ownBlock≠some g->w'.heap[g]?=w.heap[g]?
 row:∀ g,g<w.heap.size->tW k w' g->tW k w g
 own:∀ g,v'.ownBlock=some g->v.ownBlock=some g\/w.heap.size<=g
 hk:w'.heap[k]?=w.heap[k]?
section
variable {B k kt:Nat} {v v1 v2:ak} {w w' a b c:af}
theorem o7.refl (B k kt:Nat) (v:ak) (w:af):o7 B k kt v v w w:=⟨rfl,rfl,rfl,ag _,fun _ _ _ _ _=>rfl,fun _ _ h=>h,fun _ h=>.inl h,rfl⟩
theorem o7.no (h:o7 B k kt v v1 w w') {g:Nat} (hg:g<w.heap.size) (hn:¬ Own B k w g) (h1:g≠kt) (h2:v.ownBlock≠some g):¬ Own B k w' g:=by
 rintro⟨hB,o⟩;refine hn ⟨hB,?_⟩;rw[h.block g hg hn h1 h2] at o;rcases o with o | ⟨c,T,a1,a2 | ⟨a2,a3⟩,a4⟩
 ·exact .inl o
 ·exact .inr ⟨c,T,a1,.inl a2,a4⟩
 exact .inr ⟨c,T,a1,.inr ⟨a2,h.row g hg a3⟩,a4⟩
theorem o7.trans (h:o7 B k kt v v1 a b) (q:o7 B k kt v1 v2 b c):o7 B k kt v v2 a c where
 os:=q.os.trans h.os
 tape:=q.tape.trans h.tape
 output:=q.output.trans h.output
 size:=ai h.size q.size
 block g hg hn h1 h2:=(q.block g (az hg h.size) (h.no hg hn h1 h2) h1 (fun e=>by
  rcases h.own g e with e | e
  ·exact h2 e
  omega)).trans (h.block g hg hn h1 h2)
 row g hg hr:=h.row g hg (q.row g (az hg h.size) hr)
 own g hg:=by
  rcases q.own g hg with e | e
  ·exact h.own g e
  exact .inr (ai h.size e)
 hk:=q.hk.trans h.hk
theorem o7.Dr (h:cA B k w w') (hk:w'.heap[k]?=w.heap[k]?):o7 B k kt v v w w':=⟨h.os,h.tape,h.output,h.size,fun g hg hn _ _=>h.block g hg hn,h.row,fun _ h=>.inl h,hk⟩
theorem o7.aH (h:aB w.heap.size w w') (hk:k<w.heap.size):o7 B k kt v v w w':=o7.Dr (.aH h) (h.block k hk)
theorem o7.aI {r:Option Nat} (h:w.grownBy w' r) (hlk:k<w.heap.size) (hr:∀ g,r=some g->g=kt\/v.ownBlock=some g) (hk:some k≠r) (ho:∀ g,v1.ownBlock=some g->v.ownBlock=some g\/w.heap.size<=g):o7 B k kt v v1 w w':=
 ⟨h.os,h.tape,h.output,h.size,fun g hg _ h1 h2=>h.block g hg (fun e=>by
  rcases hr g e.symm with e | e
  ·exact h1 e
  exact h2 e),nU fun hl=>h.block k hl hk,ho,h.block k hlk hk⟩
theorem o7.rz {w0:af} (h:o7 B k kt v v1 w w') (hk:w0.heap.size<=kt) (hv:∀ g,v.ownBlock=some g->w0.heap.size<=g) (h0:cA B k w0 w):cA B k w0 w':=
 ⟨h.os.trans h0.os,h.tape.trans h0.tape,h.output.trans h0.output,ai h0.size h.size,
  fun g hg hn=>(h.block g (az hg h0.size) (h0.no hg hn) (by omega) (fun e=>by have:=hv g e;omega)).trans (h0.block g hg hn),
  fun g hg hr=>h0.row g hg (h.row g (az hg h0.size) hr)⟩
theorem IL.JM {E:Nat->Prop} {ko:Option Addr} {n kc:Nat} {l:List Nat} (h:IL B k E w (.slice ko n kc) l) (f:o7 B k kt v v1 w w') (hE:∀ g,g=kt\/v.ownBlock=some g->E g) (j:Nat) (hj:j<l.length):∃ a,ko=some a/\w'.cell? (a.add j)=some (.int .i64 ((l[j]:Nat):Int)):=by
 obtain⟨v_,we,e,-,h2⟩:=h;injection e with e1 e2 e3;subst e1;obtain⟨a,ha,hn,hc⟩:=h2 j hj;have hl:=World.block_lt_of_cell? w _ hc;rw[bX] at hl;exact⟨a,ha,by rw[cM (w:=w) (by rw[bX];exact f.block _ hl hn.1.1 (fun e=>hn.1.2 (hE _ (.inl e))) (fun e=>hn.1.2 (hE _ (.inr e))))];exact hc⟩
theorem qO {ko:Option Addr} {n kc:Nat} {l:List Nat} (h:fQ.At w (.slice ko n kc) l) (f:cA B k w w') (j:Nat) (hj:j<l.length):∃ a,ko=some a/\w'.cell? (a.add j)=some (.int .i64 ((l[j]:Nat):Int)):=by
 obtain⟨v_,we,e,-,h2⟩:=h;injection e with e1 e2 e3;subst e1;obtain⟨a,ha,⟨c,hc⟩,h3,-⟩:=h2 j hj;refine⟨a,ha,?_⟩;have h4:=h3 0 (.int .i64 ((l[j]:Nat):Int)) rfl;have e:a.add (j*fQ.n+0)=a.add j:=by rw[show fQ.n=1 from rfl,Nat.mul_one,Nat.add_zero]
 rw[e] at h4;rw[cM (w:=w) (by rw[bX];exact f.block _ (ae hc) (NO.cells hc (by decide)))];exact h4
end
noncomputable def jD (L L':List F):List F:=(L'.drop L.length).filter nb
theorem oF (L:List F):jD L L=[]:=by unfold jD;simp
theorem kH {L L1 L2:List F} (h:∃ m,L1=L++m) (g:∃ m,L2=L1++m):jD L L2=jD L L1++jD L1 L2:=by
 obtain⟨m,rfl⟩:=h;obtain⟨q,rfl⟩:=g;unfold jD;rw[aS,lT,lT,<-aS,lT,List.filter_append]
theorem xK (L:List F) (t:F):jD L (L++[t])=if nb t then [t] else []:=by
 unfold jD;rw[lT,List.filter_cons,List.filter_nil]
theorem Dy {L L1:List F} (h:∃ m,L1=L++m):(jD L L1).length+L.length<=L1.length:=by
 obtain⟨m,rfl⟩:=h;unfold jD;rw[lT,dB];have:=List.length_filter_le nb m
 omega
structure wV (B k ks kt kv B0:Nat) (fv:ak) (E:Nat->Prop) (L s T:List F) (v:ak) (ids:List Nat) (w:af):Prop where
 bs:w.heap[ks]?=some (.cells #[.pointer (some ⟨k,0,none⟩)] 112 (0,0))
 bt:w.heap[kt]?=some (.cells #[v] 114 (0,0))
 bv:w.heap[kv]?=some (.cells #[fv] 164 (0,0))
 row:fQ.Row w B0 v ids
 ids:ids.map (fun i=>s[i]?)=T.map some
 st:St B k (fun g=>E g\/g=kt\/v.ownBlock=some g) L s w
 nd:L.Nodup
 tl:T.length<=L.length
 lo:B<=kt/\kt<B0/\ks<B0/\kv<B0
 sz:B0<=w.heap.size
section
variable {B k ks kt kv B0:Nat} {fv:ak} {E:Nat->Prop} {L s T:List F} {v:ak} {ids:List Nat} {w w':af}
theorem wV.below (h:wV B k ks kt kv B0 fv E L s T v ids w) (hb:aB w.heap.size w w'):wV B k ks kt kv B0 fv E L s T v ids w':=
 { h with
  bs:=(hb.block _ (ae h.bs)).trans h.bs
  bt:=(hb.block _ (ae h.bt)).trans h.bt
  bv:=(hb.block _ (ae h.bv)).trans h.bv
  row:=h.row.below hb
  st:=h.st.below hb
  sz:=ai h.sz hb.size }
theorem wV.Q4 (h:wV B k ks kt kv B0 fv E L s T v ids w):ks≠kt/\kv≠kt:=by
 constructor
 ·intro e;have h1:=h.bs;rw[e,h.bt] at h1;injection h1 with h1;injection h1 with _ h1;exact absurd h1 (by decide)
 intro e;have h1:=h.bv;rw[e,h.bt] at h1;injection h1 with h1;injection h1 with _ h1;exact absurd h1 (by decide)
theorem wV.room (h:wV B k ks kt kv B0 fv E L s T v ids w):ids.length<=900000/\L.length<=s.length:=by
 obtain⟨km,v0,us,M,hU⟩:=h.st;have h1:=oI h.nd hU.sub;have h2:=cw h.ids;have h3:=hU.max;have h4:=h.tl;exact⟨by omega,h1⟩
theorem St.nodeAt {B k km g n cap:Nat} {E:Nat->Prop} {L s:List F} {w:af} (h:St B k E L s w) (hk:w.heap[k]?=some (.cells #[.map (some km),.slice (some ⟨g,0,none⟩) n cap] 163 (0,0))) {i:Nat} {t:F} (hi:s[i]?=some t) :
  ∃ qo ql qc,w.cell? ⟨g,i*7+5,none⟩=some (.slice qo ql qc)/\IL B k E w (.slice qo ql qc) (t.kids.map (idx s)):=by
 obtain⟨km',v0,us,M,hU⟩:=h;obtain⟨g',cap',u,qo,ql,qc,q,⟨rfl,oL,hcap,pE⟩,⟨-,-,-,-,-,c5,c6⟩,-,gN,-⟩:=hU.node hi;have e:=hU.bk;rw[hk] at e;simp only[Option.some.injEq,Obj.cells.injEq,Array.mk.injEq,List.cons.injEq,Value.slice.injEq,Addr.mk.injEq] at e;obtain⟨⟨-,⟨⟨rfl,-⟩,-⟩,-⟩,-⟩:=e;exact⟨qo,ql,qc,c5,gN⟩
theorem wV.mark (h:wV B k ks kt kv B0 fv E L s T v ids w) {t:F} (hn:t ∉ L) (hst:St B k (fun g=>E g\/g=kt\/v.ownBlock=some g) (L++[t]) s w') (hs:cA B k w w'):wV B k ks kt kv B0 fv E (L++[t]) s T v ids w':=
 { h with
  bs:=(hs.block _ (ae h.bs) (NO.cells h.bs (by decide))).trans h.bs
  bt:=(hs.block _ (ae h.bt) (NO.cells h.bt (by decide))).trans h.bt
  bv:=(hs.block _ (ae h.bv) (NO.cells h.bv (by decide))).trans h.bv
  row:=gV h.row hs
  st:=hst
  nd:=by
   rw[List.nodup_append];exact⟨h.nd,by simp,fun a ha b hb e=>by rw[aX] at hb;rw[e,hb] at ha;exact hn ha⟩
  tl:=by rw[dB];have:=h.tl;omega
  sz:=ai h.sz hs.size }
theorem wV.add (h:wV B k ks kt kv B0 fv E L s T v ids w) {w1:af} {v1:ak} {i:Nat} {t:F} (hi:s[i]?=some t) (hl:T.length+1<=L.length) (hrow:fQ.Row w1 B0 v1 (ids++[i])) (hg:w.grownBy w1 v.ownBlock) (hf:jF w v v1) (hw:w'=w1.setCell ⟨kt,0,none⟩ v1) (h32:∀ z,v1 ≠ .int .u32 z) (RY:∀ z,v ≠ .int .u32 z) :
  wV B k ks kt kv B0 fv E L s (T++[t]) v1 (ids++[i]) w'/\o7 B k kt v v1 w w':=by
 obtain⟨WH,WG⟩:=h.Q4;have low:∀ g,v.ownBlock=some g->B0<=g:=fun g hg=>(h.row.ge hg).1
 have Ni:∀ g,v1.ownBlock=some g->B0<=g/\g<w1.heap.size:=fun g hg=>hrow.ge hg
 obtain⟨l1,l2,l3,l4⟩:=h.lo;have keep:∀ (g:Nat) (o:Obj),w.heap[g]?=some o->g<B0->w1.heap[g]?=some o:=fun g o ho hlt=>(hg.block g (ae ho) (fun e=>by have:=low g e.symm;omega)).trans ho
 have ir:=keep kt _ h.bt l2;have oW:w1.grownBy w' (some kt):=by
  rw[hw];refine aD ?_ _;exact aE _ _
 have DR:∀ (g:Nat) (o:Obj),w1.heap[g]?=some o->g≠kt->w'.heap[g]?=some o:=fun g o ho hne=>(oW.block g (ae ho) (fun e=>hne (by injection e))).trans ho
 have RI:w'.heap[kt]?=some (.cells #[v1] 114 (0,0)):=by rw[hw];exact aA w1 kt 0 _ _ v1 ir
 have hkB:∀ g,v1.ownBlock=some g->g≠kt:=fun g hg e=>by have:=(Ni g hg).1;omega
 have WZ:B<=w.heap.size:=by obtain⟨km,v0,us,M,hU⟩:=h.st;exact hU.sz
 have NX:some k≠v.ownBlock/\some k≠some kt:=by
  obtain⟨km,v0,us,M,hU⟩:=h.st;refine⟨fun e=>?_,fun e=>?_⟩
  ·obtain⟨c,hc,-⟩:=h.row.n32 k e.symm;have h9:=hU.bk;rw[hc] at h9;injection h9 with h9;injection h9 with _ h9;exact absurd h9 (by decide)
  injection e with e;have h9:=hU.bk;rw[e,h.bt] at h9;injection h9 with h9;injection h9 with _ h9;exact absurd h9 (by decide)
 have KV:St B k (fun g=>E g\/g=kt\/v1.ownBlock=some g) L s w1:=by
  refine h.st.uR hg (fun g hr=>?_) (fun g qR=>?_) (fun g qR=>?_)
  ·obtain⟨c,hc,h32⟩:=h.row.n32 g hr;exact⟨.inr (.inr hr),by have:=low g hr;omega,c,_,hc,by decide,h32⟩
  ·rcases qR with e | e | e
   ·exact .inl (.inl e)
   ·exact .inl (.inr (.inl e))
   rcases hf g e with e | e
   ·exact .inl (.inr (.inr e))
   exact .inr e
  rcases qR with e | e | e
  ·obtain⟨km,v0,us,M,hU⟩:=h.st;exact az (hU.ex g (.inl e)) hg.size
  ·rw[e];exact ae ir
  exact (Ni g e).2
 have KU:St B k (fun g=>E g\/g=kt\/v1.ownBlock=some g) L s w':=by
  refine KV.uR oW (fun g hr=>?_) (fun g qR=>.inl qR) (fun g qR=>?_)
  ·injection hr with hr;subst hr;refine⟨.inr (.inl rfl),l1,_,_,ir,by decide,?_⟩;intro u hu z;simp only[aP,aK,or_false] at hu;rw[hu];exact RY z
  obtain⟨km,v0,us,M,hU⟩:=KV;exact az (hU.ex g qR) oW.size
 have NB:fQ.Row w' B0 v1 (ids++[i]):=by
  have blk:∀ (g:Nat) (c:Array ak),w1.heap[g]?=some (Obj.cells c 116 (0,0))->w'.heap[g]?=some (Obj.cells c 116 (0,0)):=fun g c hc=>DR g _ hc (fun e=>by
   rw[e,ir] at hc;injection hc with hc;injection hc with _ hc;exact absurd hc (by decide))
  obtain⟨⟨h1,h2⟩,h3,h4⟩:=hrow;refine⟨⟨h1,?_⟩,fun g hg=>?_,fun _ _=>trivial⟩
  ·rcases h2 with h2 | ⟨g,cap,cur,e1,e2,e3,e4⟩
   ·exact .inl h2
   exact .inr ⟨g,cap,cur,e1,e2,blk g cur e3,e4⟩
  obtain⟨c,hc,h32⟩:=h3 g hg;exact⟨c,blk g c hc,h32⟩
 refine⟨{
  bs:=DR ks _ (keep ks _ h.bs l3) WH
  bt:=RI
  bv:=DR kv _ (keep kv _ h.bv l4) WG
  row:=NB
  ids:=by rw[dF,dF,h.ids,aL,bg,hi];rfl
  st:=KU
  nd:=h.nd
  tl:=by rw[dB];exact hl
  lo:=h.lo
  sz:=ai h.sz (ai hg.size oW.size) },?_⟩
 exact (o7.aI (v1:=v1) hg h.st.om.2 (fun g e=>.inr e) NX.1 (fun g e=>hf g e)).trans (o7.aI oW KV.om.2 (fun g e=>by injection e with e;exact .inl e.symm) NX.2 (fun g e=>.inl e))
end
theorem El.Row.IK {α:Type} {E:El α} {w:af} {B:Nat} {v:ak} {el ns:List α} (h:E.Row w B v el) {ops:Array Oper} {rest:List Oper} {o:Oper} {a:Act} {Q:Exit->Act->af->Prop} (hgd:o.guard=none) (s y:Operand) (b:Addr) (m c:Nat)
  (ho:o.op=.call { callee:=.builtin .append,args:=#[s,y],argTypes:=#[E.t,E.t] }) (hs:a.eval s=v) (hx:a.eval y=.slice (some b) m c) (hxs:E.At w (.slice (some b) m c) ns) (h0:0<ns.length) (hlen:el.length+ns.length<=1000000) (hB:B<=w.heap.size)
  (hK:∀ v' w',E.Row w' B v' (el++ns)->jF w v v'->w.grownBy w' v.ownBlock->wpList aj ops Q rest (a.put o.dst v') w'):wpList aj ops Q (o::rest) a w:=by
 refine wpList_plain hgd fun K hk=>?_
 obtain⟨v',w',hr,h2,h3,h4,h5⟩:=h.run hxs o.type hlen hB;have hf:=uW h hxs h0 hlen o.type hr;unfold Oper.wp execOp;simp only[ho,resolve,invoke,builtin,Sem.run_bind,Sem.run_pure,jP,mA,aL,bg,hs,hx,hr];exact hk _ _ (hK v' w' h2 hf h5)
attribute [local go_sem] cL cK cJ cI
theorem Tg.up {d:Nat} {t:F} (h:Tg d t):∀ {d':Nat},d<=d'->Tg d' t
 | 0,hd=>by cases d with | zero=>exact h | succ d=>omega
 | d'+1,hd=>by
  by_cases e:d=d'+1
  ·rw[<-e];exact h
  exact (Tg.up h (by omega)).Fo
theorem Hs {w:af} {B g n kc:Nat} {el:List Nat} (h:fQ.Row w B (.slice (some ⟨g,0,none⟩) n kc) el) (i:Nat) (hi:i<el.length) (hn:n=el.length) (a:Nat) {w':af} (hw:w'=w.setCell ⟨g,i,none⟩ (.int .i64 ((a:Nat):Int))) :
  fQ.Row w' B (.slice (some ⟨g,0,none⟩) n kc) (el.set i a)/\w.grownBy w' (some g):=by
 have hg:w.grownBy w' (some g):=by
  rw[hw];refine aD ?_ _;exact aE _ _
 have h0:=h.own;rw[<-hn] at h0;have h1:=(ff h0 i (.int .i64 ((a:Nat):Int))).1;have h2:(el.flatMap fQ.f).set i (.int .i64 ((a:Nat):Int))=(el.set i a).flatMap fQ.f:=by rw[qs,qs,List.map_set]
 rw[h2,<-hw] at h1;obtain⟨c,hc,h32⟩:=h.n32 g rfl;have nu:=aA w g i _ _ (.int .i64 ((a:Nat):Int)) hc;rw[<-hw] at nu;exact⟨(h.put i a hg h1 ⟨_,nu,mL h32 _ (by intro z e;cases e)⟩ hn trivial).1,hg⟩
theorem D8 {w:af} {B g n kc:Nat} {el:List Nat} (h:fQ.Row w B (.slice (some ⟨g,0,none⟩) n kc) el) (hn:n=el.length) {i:Nat} (hi:i<el.length):w.cell? ⟨g,i,none⟩=some (.int .i64 ((el[i]:Nat):Int))/\w.frozen? ⟨g,i,none⟩=false:=by
 obtain⟨c,hc,h32⟩:=h.n32 g rfl;have h0:=h.own;rw[<-hn] at h0;refine⟨?_,aY hc _⟩;rw[World.ownsRow.cellAt h0 i (by show i<n*1;omega),qs,List.getElem?_map,List.getElem?_eq_getElem hi]
 rfl
theorem LM (d:Nat):∀ (B k:Nat) (E:Nat->Prop) (L s:List F) (w:af) (v:ak) (t:F),St B k E L s w->FC w (NS B k E w) d v t->rt t=true->Tg d t->d<=9->s.length+CG t<=900000 ->
  aV aj 71 #[.pointer (some ⟨k,0,none⟩),v] w (fj B k E L s t (CG t) w):=by
 induction d with
 | zero=>intro B k E L s w v t _ _ _ h;exact absurd h id
 | succ d ih =>
  intro B k E L s w v t hst h pT D9 hd hsz;have HG:Hid (Gd t):=aa ⟨pT,D9.up hd⟩;have HF:=aa h;have Pq:Hid (∀ q ∈ t.kids,rt q=true/\Tg d q):=aa (fun q hq=>⟨(cx HG.out hq).1,D9.2.2.2.2 q hq⟩);have NZ:t.kids.length<=8:=D9.2.2.2.1;obtain⟨b,ao,l,c,ko,kl,kc,rfl,⟨hr,hz,kU,hkc,hkm⟩,-,hk⟩:=h.open;have r6:Hid (s.length+(1+kE t.kids)<=900000):=aa (by obtain⟨o,z,nm,ks⟩:=t;rw[CG] at hsz;simp only[F.kids];omega);have Qy:Hid (CG t=1+kE t.kids):=aa (by obtain⟨o,z,nm,ks⟩:=t;rw[CG];rfl);obtain⟨o,ho⟩:∃ o,o=t.op:=⟨_,rfl⟩;obtain⟨nm,hnm⟩:∃ o,o=t.name:=⟨_,rfl⟩;obtain⟨ks,hks⟩:∃ o,o=t.kids:=⟨_,rfl⟩;rw[<-ho,<-hnm] at HF ⊢;rw[<-hks] at kU hk NZ Pq r6 Qy;have Fb:=aa hks;have HN:=aa kU;have I1:=aa hk
  have bA:=aa hst;have L7:=aa hst;have IH:=aa ih;have HD:Hid (d<=9):=aa (by omega);have uI:kc<=9223372036854775807:=hkm;have Xx:kl<=8:=by omega
  have Mc:=aa (cA.refl B k w);clear hst h pT D9 hd hsz hr hz kU hkm hk ih ho hnm hks NZ;go_enter Tryz.func71,Tryz.ntmps71;obtain⟨x1,kf,ef,ki,cn,jC,aG⟩:=aW w #[.int .i64 o,.bool b,.slice ao l c,.string nm,.slice ko kl kc] 29;replace bA:=aa (bA.out.below cn.out);replace Mc:=aa (Mc.out.trans (cA.aH cn.out));obtain⟨⟨c0,c1,c2,c3,c4⟩,-⟩:=ay aG.out;obtain⟨kb,hkb⟩:∃ k,x1.heap.size=k:=⟨_,rfl⟩;go_upto_region 2 with (first | (at_make;refine kC fQ 0 rfl (fun _=>trivial) _ rfl _ _ rfl x1.heap.size _ _ _ _ kl rfl rfl (by first | rfl | simp) (by first | rfl | simp) (by omega) (ag _) ?_;intro y2 hrow e_) | fail);rw[hkb] at hrow;have HR:=aa (show fQ.Row y2 kb (.slice (some ⟨kb,0,none⟩) kl kl) (List.replicate kl 0) from hrow)
  have MO:Hid (w.heap.size<=kb):=aa (by rw[<-hkb];exact Mc.out.size);have IY:Hid (St B k (fun g=>E g\/g=kb) L s y2):=aa (by
   have h1:=bA.out.own (v:=.slice (some ⟨kb,0,none⟩) kl kl) (g:=kb) e_ rfl (by rw[hkb];exact ag _) (HR.out.ge rfl).2;exact h1.less (fun g hg=>hg.imp id (fun e=>by rw[e];rfl)))
  replace aG:=bM e_ aG;replace Mc:=aa (Mc.out.trans (cA.aH e_));have QC:Hid (kf<y2.heap.size):=aa (ae aG.out);clear hrow e_ hkb c0 c1 c2 c3 c4;obtain⟨⟨c0,c1,c2,c3,c4⟩,-⟩:=ay aG.out;go_wp2_with fail;clear c0 c1 c2 c3 c4;go_loopw [15] (fun i wr=>∃ (j:Nat) (el:List Nat) (s':List F),i=.int .i64 (j:Nat)/\j<=kl/\Hid (el.length=kl)/\Hid (St B k (fun g=>E g\/g=kb) L s' wr)/\Hid (Ext s s' (kE (ks.take j)))/\Hid (∀ q (h1:q<el.length) (h2:q<ks.length),q<j->s'[el[q]]?=some ks[q])/\Hid (fQ.Row wr kb (.slice (some ⟨kb,0,none⟩) kl kl) el)/\Hid (cA B k w wr)/\Hid (wr.heap[kf]?=some (.cells #[.int .i64 o,.bool b,.slice ao l c,.string nm,.slice ko kl kc] 29 (0,0)))) (fun i _=>kl - (eT i).toNat)
  case atStart=>exact⟨0,_,s,rfl,ah _,aa List.length_replicate,IY,aa (by rw[pY,kE];exact Ext.refl s),aa (fun q _ _ h=>absurd h (Nat.not_lt_zero _)),HR,Mc,aG⟩
  case round =>
   clear HR IY Mc aG bA;obtain⟨j,el,s',rfl,hj,HE,bA,MP,HT,HR,HP,aG⟩:=hrel;by_cases hlt:j<kl
   ·have jq:j<ks.length:=by rw[<-HN.out];exact hlt
    have HX:=aa (FL.grow I1.out HP.out (E1:=fun g=>E g\/g=kb) (fun g hg=>hg.imp id (fun e=>by rw[e];exact MO.out)));obtain⟨a,bb,qo,ql,qc,po,pl,pc,rfl,⟨c0,c1,c2,c3,c4⟩,hf⟩:=HX.out.cells j jq;have Cz:=aa hf;have Vu:=aa (Pq.out ks[j] (bS jq));have JZ:Hid (s'.length+CG ks[j]<=900000/\kE (ks.take (j+1))=kE (ks.take j)+CG ks[j]):=aa (by
     have h1:=MP.out.len;have h2:=BN ks j jq;have h3:=vO ks (j+1);have h4:=r6.out;exact⟨by omega,h2⟩)
    clear hf;obtain⟨x,uh⟩:∃ x,x=ks[j].op:=⟨_,rfl⟩;obtain⟨ym,Hv⟩:∃ x,x=ks[j].name:=⟨_,rfl⟩;rw[<-uh] at c0 Cz;rw[<-Hv] at c3 Cz;clear uh Hv;obtain⟨x4,k8,e8,UK,CL,NZ,PE⟩:=aW wr #[.int .i64 x,.bool bb,.slice qo ql qc,.string ym,.slice po pl pc] 29;have Us:=bA.out.below CL.out;have Ut:=HP.out.trans (cA.aH CL.out);have Py:=aa (Cz.out.rz (cA.aH CL.out));replace HR:=aa (gV HR.out (cA.aH (B:=B) (k:=k) CL.out));replace aG:=bM CL.out aG;have CT:=aa Us;have Mb:=aa Ut;obtain⟨⟨g0,g1,g2,g3,g4⟩,ux,uw,uv,uu,ur⟩:=ay PE.out;clear Us Ut bA HP Cz HX;go_wp2_with fail;refine (IH.out _ _ _ _ _ x4 _ ks[j] CT.out Py.out Vu.out.1 Vu.out.2 HD.out JZ.out.1).mono ?_;rintro e x5 ⟨i,s2,rfl,q1,q2,q3,q4⟩
    clear c0 c1 c2 c3 c4 g0 ux g1 uw g2 uv g3 uu g4 ur;have MJ:=aa q1;have PA:=aa q2;have Zo:=aa q3;have Y6:=aa (Mb.out.trans q4);replace HR:=aa (gV HR.out q4);replace aG:Hid (x5.heap[kf]?=_):=aa ((q4.block kf (ae aG.out) (NO.cells aG.out (by decide))).trans aG.out);clear q1 q2 q3 q4 Py;obtain⟨n0,nf0⟩:=D8 HR.out HE.out.symm (i:=j) (by rw[HE.out];exact hlt);go_wp2_with fail;go_roundw
    case rel =>
     obtain⟨r1,r2⟩:=Hs HR.out j (by rw[HE.out];exact hlt) HE.out.symm i rfl;obtain⟨cc,rN,h32⟩:=HR.out.n32 kb rfl;have Rf:=MJ.out.uR (E':=fun g=>E g\/g=kb) r2 (fun g hg=>by
      injection hg with hg;subst hg;exact⟨.inr rfl,ai (by obtain⟨km,v0,us,M,hU⟩:=L7.out;exact hU.sz) MO.out,cc,_,rN,by decide,h32⟩) (fun g hg=>.inl hg) (fun g hg=>by
      obtain⟨km,v0,us,M,hU⟩:=MJ.out;exact az (hU.ex g hg) r2.size)
     have Xv:=L7.out;refine⟨j+1,el.set j i,s2,by go_num,hlt,aa (by rw[cP];exact HE.out),aa Rf,aa (MP.out.trans PA.out (by rw[JZ.out.2];exact ag _)),aa (fun q h1 h2 h3=>?_),aa r1,aa (Y6.out.app r2 (fun g hg=>by injection hg with hg;rw[<-hg];exact MO.out) (by obtain⟨km,v0,us,M,hU⟩:=Xv;exact ae hU.bk)),aa ((r2.block kf (ae aG.out) (fun e=>by injection e with e;have h5:=aG.out;rw[e,rN] at h5;injection h5 with h5;injection h5 with _ h5;exact absurd h5 (by decide))).trans aG.out)⟩;by_cases hqj:q=j
     ·subst hqj;rw[List.getElem_set_self];exact Zo.out
     rw[List.getElem_set_ne (fun e=>hqj e.symm)];exact PA.out.get (HT.out q (by rw[cP] at h1;exact h1) h2 (by omega))
    case measure=>simp[eT];omega
   have ej:j=kl:=by omega
   subst ej;obtain⟨⟨c0,c1,c2,c3,c4⟩,-⟩:=ay aG.out;go_wp2_with fail;have gN:el.map (fun i=>s'[i]?)=ks.map some:=by
    apply List.ext_getElem
    ·rw[cQ,cQ,HE.out,HN.out]
    intro q h1 h2;rw[cQ] at h1 h2;rw[fg,fg];exact HT.out q h1 h2 (by rw[<-HE.out];exact h1)
   have hS:=bA.out.less (E':=E) (fun g hg=>.inl hg);have oL:=D7 (B:=B) (k:=k) (E:=E) HR.out (fun g hg he=>by
    injection hg with hg;obtain⟨km,v0,us,M,hU⟩:=L7.out;have h1:=hU.ex g he;have h2:=MO.out;have h3:kb=g:=hg;omega)
   rw[sC hS.nd el ks gN,Fb.out] at oL;refine (sX wr hS (by have h1:=MP.out.len;have h2:=r6.out;rw[show ks.take j=ks from eH (by rw[<-HN.out];exact ag _)] at h1;omega) (d+1) _ _ (HF.out.rz HP.out) HG.out _ oL (by rw[<-Fb.out];exact sB el ks gN)).mono ?_;rintro e x2 ⟨i,s2,rfl,q1,q2,q3,q4⟩;have H1:=aa q1;have H2:=aa q2;have H3:=aa q3;have H4:=aa (HP.out.trans q4);clear q1 q2 q3 q4 hS oL gN c0 c1 c2 c3 c4;go_wp2_with fail;go_ret;exact⟨i,s2,rfl,H1.out,MP.out.trans H2.out (by rw[Qy.out,show ks.take j=ks from eH (by rw[<-HN.out];exact ag _)];omega),H3.out,H4.out⟩
attribute [local go_sem] cL cK cJ cI
theorem F0 (d:Nat):∀ (B k ks kt kv B0:Nat) (E:Nat->Prop) (L s T:List F) (v:ak) (ids:List Nat) (w:af) (i:Nat) (t:F),
  wV B k ks kt kv B0 (.func (.func 118) #[] #[.pointer (some ⟨ks,0,none⟩),.pointer (some ⟨kt,0,none⟩),.pointer (some ⟨kv,0,none⟩)]) E L s T v ids w->s[i]?=some t->Tg d t ->
  aV aj 118 #[.int .i64 ((i:Nat):Int),.pointer (some ⟨ks,0,none⟩),.pointer (some ⟨kt,0,none⟩),.pointer (some ⟨kv,0,none⟩)] w fun e w'=>(∃ q,e=.returned q)/\∃ v' ids',wV B k ks kt kv B0 (.func (.func 118) #[] #[.pointer (some ⟨ks,0,none⟩),.pointer (some ⟨kt,0,none⟩),.pointer (some ⟨kv,0,none⟩)]) E (jB L t) s (T++jD L (jB L t)) v' ids' w'/\o7 B k kt v v' w w':=by
 induction d with
 | zero=>intro B k ks kt kv B0 E L s T v ids w i t _ _ h;exact absurd h id
 | succ d ih =>
  intro B k ks kt kv B0 E L s T v ids w i t h hi D9;obtain⟨po,pc,rfl,P6,Jp,-⟩:=h.row.form;have YY:=aa h.room;have Vm:Hid (ids.length<=pc):=aa P6;obtain⟨pn,T0⟩:∃ n,n=ids.length:=⟨_,rfl⟩;rw[<-T0] at h ⊢;have HV:=aa h;have HI:=aa hi;have Pq:Hid (∀ q ∈ t.kids,Tg d q):=aa D9.2.2.2.2;have Vv:Hid (t.kids.length<=8):=aa D9.2.2.2.1;have Vo:=aa h.lo;have IH:=aa ih;obtain⟨km,v0,us,M,hU⟩:=id h.st;obtain⟨g,cap,u,qo,ql,qc,q,⟨rfl,oL,hcap,pE⟩,⟨-,-,-,-,-,-,c6⟩,-,-,hq⟩:=hU.node hi;have HU:=aa hU;have tD:cap<=9223372036854775807:=pE;have Xk:pc<=9223372036854775807:=Jp;have d1:=aq (v:=.slice (some ⟨g,0,none⟩) s.length cap) hU.bk 1 rfl;have s0:=aq (v:=.pointer (some ⟨k,0,none⟩)) h.bs 0 rfl
  obtain⟨cc,rN,-⟩:=hU.row.n32 g rfl;have f6:=aY rN (i*7+6);clear rN hU h hi D9 ih T0 P6 Jp;cases q with
  | true =>
   have HQ:Hid (t ∈ L):=aa (hq.1 rfl);clear hq;go_enter Tryz.func118,Tryz.ntmps118;go_wp2_with fail;exact bodyPost_ret (results_none Tryz.results118 _ _ _) rfl ⟨⟨_,rfl⟩,_,ids,by rw[F2 HQ.out,oF,dG];exact HV.out,o7.refl _ _ _ _ _⟩
  | false =>
   have HQ:Hid (t ∉ L):=aa (fun h=>by have:=hq.2 h;cases this);clear hq;go_enter Tryz.func118,Tryz.ntmps118;go_upto_region 3 with fail;obtain⟨w1,Q_⟩:∃ x,x=w.setCell ⟨g,i*7+6,none⟩ (.bool true):=⟨_,rfl⟩;rw[<-Q_];obtain⟨m1,m2,m3⟩:=C_ HU.out HI.out Q_;have CS:=aa (HV.out.mark HQ.out m1 m2);have I3:=aa (o7.Dr (kt:=kt) (v:=.slice po pn pc) m2 m3);clear m1 m2 m3 d1 s0 f6 c6 Q_;have s0:=aq (v:=.pointer (some ⟨k,0,none⟩)) CS.out.bs 0 rfl;go_wp2_with fail;refine (vQ w1 CS.out.st i t HI.out).mono ?_;rintro e w2 ⟨rfl,hb⟩;replace I3:=aa (I3.out.trans (o7.aH hb CS.out.st.om.2));replace CS:=aa (CS.out.below hb);clear hb s0;obtain⟨z,hz⟩:∃ z,z=cU t.op:=⟨_,rfl⟩;rw[<-hz];by_cases iq:z=1
   ·have Pm:Hid (jD L (L++[t])=[]):=aa (by rw[xK,show nb t=false from decide_eq_false (by rw[<-hz,iq];decide)];rfl);have e1:(z==1)=true:=by rw[iq];rfl
    have e2:(z != 1)=false:=by rw[iq];rfl
    clear hz iq;go_upto_region 5 with fail;clear e1 e2;have xm:=CS;have Ta:=I3;obtain⟨w5,Mu⟩:∃ x,x=w2:=⟨_,rfl⟩;rw[<-Mu] at xm Ta ⊢;clear Mu CS I3;obtain⟨T1,zX⟩:∃ x,x=T:=⟨_,rfl⟩;rw[<-zX] at xm;have mw:Hid (T1=T++jD L (L++[t])):=aa (by rw[Pm.out,dG,zX]);clear zX Pm;obtain⟨v1,zQ⟩:∃ x:ak,x=.slice po pn pc:=⟨_,rfl⟩;rw[<-zQ] at xm;have AF:Hid (o7 B k kt (.slice po pn pc) v1 w w5):=aa (by rw[zQ];exact Ta.out);clear zQ Ta;obtain⟨KQ,yg⟩:∃ x,x=ids:=⟨_,rfl⟩;rw[<-yg] at xm;clear yg;obtain⟨qo,ql,qc,c5,zW⟩:=xm.out.st.nodeAt (by rw[AF.out.hk];exact HU.out.bk) HI.out;obtain⟨WV,WY,e5,⟨hq1,hq2,-⟩,-⟩:=id zW;have r8:=aa zW
    have L_:Hid (ql=t.kids.length):=aa (by injection e5 with _ e5 _;rw[e5,cQ]);have NF:ql<=8:=by rw[L_.out];exact Vv.out
    have TY:qc<=9223372036854775807:=by injection e5 with _ _ e5;rw[e5];exact hq2
    have Mi:Hid (∀ q ∈ t.kids,q ∈ s):=aa (fun q hq=>HV.out.st.FA t (List.mem_of_getElem? HI.out) q hq);clear zW e5 hq1 hq2;go_wp2_with fail;clear c5;go_loopw [34] (fun iv wr=>∃ (j:Nat) (v':ak) (ids':List Nat),iv=.int .i64 (j:Nat)/\j<=ql/\Hid (wV B k ks kt kv B0 (.func (.func 118) #[] #[.pointer (some ⟨ks,0,none⟩),.pointer (some ⟨kt,0,none⟩),.pointer (some ⟨kv,0,none⟩)]) E (eC (L++[t]) (t.kids.take j)) s (T1++jD (L++[t]) (eC (L++[t]) (t.kids.take j))) v' ids' wr)/\Hid (o7 B k kt v1 v' w5 wr)) (fun iv _=>ql - (eT iv).toNat)
    case atStart=>exact⟨0,v1,KQ,rfl,ah _,aa (by rw[pY,eC,oF,dG];exact xm.out),aa (o7.refl _ _ _ _ _)⟩
    case round =>
     obtain⟨j,v',ids',rfl,hj,Cx,FM⟩:=hrel;by_cases hlt:j<ql
     ·have jq:j<t.kids.length:=by rw[<-L_.out];exact hlt
      obtain⟨a,rfl,ca⟩:=r8.out.JM FM.out (fun g hg=>.inr hg) j (by rw[cQ];exact jq);obtain⟨i2,oV⟩:∃ x,x=(t.kids.map (idx s))[j]'(by rw[cQ];exact jq):=⟨_,rfl⟩;rw[<-oV] at ca;have Fh:Hid (s[i2]?=some t.kids[j]):=aa (by rw[oV,fg];exact fW (Mi.out _ (bS jq)));have LV:=aa (Pq.out t.kids[j] (bS jq));have b0:=aq (v:=(.func (.func 118) #[] #[.pointer (some ⟨ks,0,none⟩),.pointer (some ⟨kt,0,none⟩),.pointer (some ⟨kv,0,none⟩)])) Cx.out.bv 0 rfl;have JY:=aa (qH (s:=L++[t]) jq);clear oV;go_wp2_with fail;refine (IH.out _ _ _ _ _ _ _ _ _ _ v' ids' wr i2 t.kids[j] Cx.out Fh.out LV.out).mono ?_;rintro e w6 ⟨⟨qv,rfl⟩,v2,D6,qP,yW⟩;have O':=aa qP
      have I2:=aa (FM.out.trans yW);clear qP yW ca b0;go_wp2_with fail;go_roundw
      case rel =>
       refine⟨j+1,v2,D6,by go_num,hlt,aa ?_,I2⟩;have h1:=O'.out;rw[<-JY.out,aS,<-kH (ju _ _) (by rw[JY.out];exact sr _ _)] at h1;exact h1
      case measure=>simp[eT];omega
     have ej:j=ql:=by omega
     have AE:Hid (eC (L++[t]) (t.kids.take j)=jB L t):=aa (by rw[p8 HQ.out,ej,L_.out,cz]);go_wp2_with fail;refine bodyPost_end (results_none Tryz.results118 _ _ _) rfl ⟨⟨_,rfl⟩,v',ids',?_,AF.out.trans FM.out⟩;have h1:=Cx.out;rw[AE.out,mw.out,aS,<-kH ⟨[t],rfl⟩ (by rw[p8 HQ.out];exact ju _ _)] at h1;exact h1
   have Pm:Hid (jD L (L++[t])=[t]):=aa (by rw[xK,show nb t=true from decide_eq_true (by rw[<-hz];exact iq)];rfl);have e1:(z==1)=false:=beq_eq_false_iff_ne.2 iq;have e2:(z != 1)=true:=by rw[bne,e1];rfl
   clear hz iq;obtain⟨w3,kq,eq,yY,gu,qw,mz⟩:=aW w2 #[.int .i64 ((i:Nat):Int)] 116;have Vi:=aa (CS.out.row.below gu.out);have Bz:=aa (CS.out.below gu.out);have AF:=aa (I3.out.trans (o7.aH gu.out CS.out.st.om.2));have vH:=aa (pN (l:=[i]) mz.out (by show 1<=bn;decide));have t0:=aq (v:=.slice po pn pc) CS.out.bt 0 rfl;have r6:Hid (B0<=w3.heap.size):=aa (by
    have h1:=ae Bz.out.bs;have h2:=Bz.out.sz;exact h2)
   go_upto_region 5 with (first | (at_builtin;go_loud (refine El.Row.IK (E:=fQ) Vi.out rfl (.tmp 25) (.tmp 27) ⟨kq,0,none⟩ 1 1 rfl rfl rfl vH.out (Nat.one_pos) (by have:=YY.out.1;simp only[jo,qE];omega) r6.out ?_;intro v9 w9 r1 r2 r3;(obtain⟨o9,c9,TQ,Xo,oX,-⟩:=id r1.form);(rw[dB,show [i].length=1 from rfl] at TQ);(subst TQ);(have t1:=aq (v:=.slice po pn pc) ((r3.block kt (ae Bz.out.bt) (fun e=>by have h1:=(Bz.out.row.ge e.symm).1;have h2:=Vo.out.2.1;omega)).trans Bz.out.bt) 0 rfl);(have X4:=aY ((r3.block kt (ae Bz.out.bt) (fun e=>by have h1:=(Bz.out.row.ge e.symm).1;have h2:=Vo.out.2.1;omega)).trans Bz.out.bt) 0))) | fail);obtain⟨w5,Mu⟩:∃ x,x=w9.setCell ⟨kt,0,none⟩ (.slice o9 (ids.length+1) c9):=⟨_,rfl⟩;rw[<-Mu]
   obtain⟨a1,a2⟩:=Bz.out.add (t:=t) HI.out (by have h1:=HV.out.tl;rw[dB];simpa using h1) r1 r3 r2 Mu (by intro z h;cases h) (by intro z h;cases h);clear t0 t1 X4 e1 e2 Mu r1 r2 r3 Xo oX;have xm:=aa a1;replace AF:=aa (AF.out.trans a2);clear a1 a2 CS I3 Bz Vi;obtain⟨T1,zX⟩:∃ x,x=T++[t]:=⟨_,rfl⟩;rw[<-zX] at xm;have mw:Hid (T1=T++jD L (L++[t])):=aa (by rw[Pm.out,zX]);clear zX Pm;obtain⟨v1,zQ⟩:∃ x:ak,x=.slice o9 (ids.length+1) c9:=⟨_,rfl⟩;rw[<-zQ] at xm AF;clear zQ;obtain⟨KQ,yg⟩:∃ x,x=ids++[i]:=⟨_,rfl⟩;rw[<-yg] at xm;clear yg;obtain⟨qo,ql,qc,c5,zW⟩:=xm.out.st.nodeAt (by rw[AF.out.hk];exact HU.out.bk) HI.out;obtain⟨WV,WY,e5,⟨hq1,hq2,-⟩,-⟩:=id zW;have r8:=aa zW
   have L_:Hid (ql=t.kids.length):=aa (by injection e5 with _ e5 _;rw[e5,cQ]);have NF:ql<=8:=by rw[L_.out];exact Vv.out
   have TY:qc<=9223372036854775807:=by injection e5 with _ _ e5;rw[e5];exact hq2
   have Mi:Hid (∀ q ∈ t.kids,q ∈ s):=aa (fun q hq=>HV.out.st.FA t (List.mem_of_getElem? HI.out) q hq);clear zW e5 hq1 hq2;go_wp2_with fail;clear c5;go_loopw [34] (fun iv wr=>∃ (j:Nat) (v':ak) (ids':List Nat),iv=.int .i64 (j:Nat)/\j<=ql/\Hid (wV B k ks kt kv B0 (.func (.func 118) #[] #[.pointer (some ⟨ks,0,none⟩),.pointer (some ⟨kt,0,none⟩),.pointer (some ⟨kv,0,none⟩)]) E (eC (L++[t]) (t.kids.take j)) s (T1++jD (L++[t]) (eC (L++[t]) (t.kids.take j))) v' ids' wr)/\Hid (o7 B k kt v1 v' w5 wr)) (fun iv _=>ql - (eT iv).toNat)
   case atStart=>exact⟨0,v1,KQ,rfl,ah _,aa (by rw[pY,eC,oF,dG];exact xm.out),aa (o7.refl _ _ _ _ _)⟩
   case round =>
    obtain⟨j,v',ids',rfl,hj,Cx,FM⟩:=hrel;by_cases hlt:j<ql
    ·have jq:j<t.kids.length:=by rw[<-L_.out];exact hlt
     obtain⟨a,rfl,ca⟩:=r8.out.JM FM.out (fun g hg=>.inr hg) j (by rw[cQ];exact jq);obtain⟨i2,oV⟩:∃ x,x=(t.kids.map (idx s))[j]'(by rw[cQ];exact jq):=⟨_,rfl⟩;rw[<-oV] at ca;have Fh:Hid (s[i2]?=some t.kids[j]):=aa (by rw[oV,fg];exact fW (Mi.out _ (bS jq)));have LV:=aa (Pq.out t.kids[j] (bS jq));have b0:=aq (v:=(.func (.func 118) #[] #[.pointer (some ⟨ks,0,none⟩),.pointer (some ⟨kt,0,none⟩),.pointer (some ⟨kv,0,none⟩)])) Cx.out.bv 0 rfl;have JY:=aa (qH (s:=L++[t]) jq);clear oV;go_wp2_with fail;refine (IH.out _ _ _ _ _ _ _ _ _ _ v' ids' wr i2 t.kids[j] Cx.out Fh.out LV.out).mono ?_;rintro e w6 ⟨⟨qv,rfl⟩,v2,D6,qP,yW⟩;have O':=aa qP
     have I2:=aa (FM.out.trans yW);clear qP yW ca b0;go_wp2_with fail;go_roundw
     case rel =>
      refine⟨j+1,v2,D6,by go_num,hlt,aa ?_,I2⟩;have h1:=O'.out;rw[<-JY.out,aS,<-kH (ju _ _) (by rw[JY.out];exact sr _ _)] at h1;exact h1
     case measure=>simp[eT];omega
    have ej:j=ql:=by omega
    have AE:Hid (eC (L++[t]) (t.kids.take j)=jB L t):=aa (by rw[p8 HQ.out,ej,L_.out,cz]);go_wp2_with fail;refine bodyPost_end (results_none Tryz.results118 _ _ _) rfl ⟨⟨_,rfl⟩,v',ids',?_,AF.out.trans FM.out⟩;have h1:=Cx.out;rw[AE.out,mw.out,aS,<-kH ⟨[t],rfl⟩ (by rw[p8 HQ.out];exact ju _ _)] at h1;exact h1
attribute [local go_sem] cL cK cJ cI
theorem uO {P:Program} {w w':af} {t ty e:TypeId} {i:TypeInfo} {z:ak} (ht:P.underlying t=some (.slice e)) (hi:P.info? e=some i) (hz:i.zero=some z)
  {base n m c:Nat} {v v':ak} {xs news:List ak} (hown:w.ownsRow base e i.size v n xs) {a:Addr} (hl:news.length=m*i.size) (hnews:∀ j u,news[j]?=some u->w.cell? (a.add j)=some u) (h1:∀ u ∈ news,u.oneCell'=true)
  (h63:n+m<=1000000000) (hbytes:(n+m)*i.bytes<=140737488355328) (hzs:z.cells.size=i.size) (hsz:0<i.size)
  (hr:(gE #[t,t] ty #[v,.slice (some a) m c]).run P w=.ok v' w'):jF w v v':=by
 rcases hown.2 with ⟨rfl,rfl⟩ | ⟨g,cap,cur,rfl,Fu,hg,hnc,JB,hcs,htake⟩
 ·have hx:xs=[]:=List.eq_nil_of_length_eq_zero (by simpa using hown.1);subst hx;obtain⟨v2,w2,sD,NK,_,_⟩:=run_append_own (P:=P) w w.heap.size t ty e i z i.size i.bytes ht hi hz rfl rfl hzs hsz (.slice none 0 0) 0 [] (World.ownsRow_nil w _ e i.size) a m c news hl hnews h1 (by unfold bn;omega) hbytes (ag _);rw[hr] at sD;injection sD with e1 e2;subst e1;exact fun g hg=>.inr (NK.lt g hg).1
 by_cases hroom:n+m<=cap
 ·have hfit:n*i.size+news.length<=cur.size:=by rw[hl,hcs,<-cO];exact de _ hroom
  rw[run_append_room (P:=P) w t ty e i ht hi g n cap cur hg a m c news hl hnews h1 hroom hfit] at hr;injection hr with e1 e2;subst e1;exact fun q hq=>.inl hq
 rw[run_append_grow (P:=P) w t ty e i z ht hi hz ⟨g,0,none⟩ n cap xs hown.1 (hown.cells (g:=g) rfl) a m c news hl hnews (by omega) (by omega) (growslice_fits (by omega) hbytes)] at hr;injection hr with e1 e2;subst e1;intro q hq;injection hq with hq;exact .inr (by rw[<-hq];exact ag _)
theorem zF {α:Type} {E:El α} {w w':af} {B:Nat} {v x v':ak} {el ns:List α} (h:E.Row w B v el) (hx:E.At w x ns) (hlen:el.length+ns.length<=1000000) (ty:TypeId) (hr:(gE #[E.t,E.t] ty #[v,x]).run aj w=.ok v' w'):jF w v v':=by
 obtain⟨i,hi,hz,iq,mP⟩:=info_parts E.info;obtain⟨ao,c,rfl,⟨-,-,h3⟩,h4⟩:=id hx;cases ao with
 | none =>
  have h0:ns=[]:=by
   cases ns with
   | nil=>rfl
   | cons a l=>obtain⟨_,hb,_⟩:=h4 0 (by simp);cases hb
  have hc:c=0:=h3 rfl;subst h0;subst hc;have sD:=run_append_owned_none w B E.t ty E.e i E.n E.ht hi v el.length _ h.own;rw[show (List.length ([]:List α))=0 from rfl] at hr;rw[hr] at sD;injection sD with e1 e2;subst e1;exact fun g hg=>.inl hg
 | some a =>
  have hl:(ns.flatMap E.f).length=ns.length*i.size:=by rw[iq];exact gI E.f E.len ns
  have h1:∀ u ∈ ns.flatMap E.f,u.oneCell'=true:=fun u hu=>by
   obtain⟨b,_,hb⟩:=List.mem_flatMap.1 hu;exact E.one b u hb
  have hown:w.ownsRow B E.e i.size v el.length (el.flatMap E.f):=by rw[iq];exact h.own
  exact uO (P:=aj) E.ht hi hz hown hl hx.news h1 (by omega) (by rw[mP];exact ai (Nat.mul_le_mul hlen E.CP) (by decide)) (by rw[iq];exact E.zs) (by rw[iq];exact E.pos) hr
theorem El.Row.Bw {α:Type} {E:El α} {w:af} {B:Nat} {v x:ak} {el ns:List α} (h:E.Row w B v el) {ops:Array Oper} {rest:List Oper} {o:Oper} {a:Act} {Q:Exit->Act->af->Prop} (hgd:o.guard=none) (s y:Operand)
  (ho:o.op=.call { callee:=.builtin .append,args:=#[s,y],argTypes:=#[E.t,E.t] }) (hs:a.eval s=v) (hx:a.eval y=x) (hxs:E.At w x ns) (hlen:el.length+ns.length<=1000000) (hB:B<=w.heap.size)
  (hK:∀ v' w',E.Row w' B v' (el++ns)->jF w v v'->w.grownBy w' v.ownBlock->wpList aj ops Q rest (a.put o.dst v') w'):wpList aj ops Q (o::rest) a w:=by
 refine wpList_plain hgd fun K hk=>?_
 obtain⟨v',w',hr,h2,h3,h4,h5⟩:=h.run hxs o.type hlen hB;have hf:=zF h hxs hlen o.type hr;unfold Oper.wp execOp;simp only[ho,resolve,invoke,builtin,Sem.run_bind,Sem.run_pure,jP,mA,aL,bg,hs,hx,hr];exact hk _ _ (hK v' w' h2 hf h5)
theorem A_ {B k:Nat} {E:Nat->Prop} {L s:List F} (w:af) (h:St B k E L s w) (hnd:L.Nodup) (ao:Option Addr) (n c:Nat) (ids:List Nat) (ha:fQ.At w (.slice ao n c) ids) (ts:List F) (hi:ids.map (fun i=>s[i]?)=ts.map some) (hl:n<=900000) :
  aV aj 70 #[.pointer (some ⟨k,0,none⟩),.slice ao n c] w fun e w'=>∃ v l,e=.returned v/\fQ.Row w' w.heap.size v l/\l.map (fun i=>s[i]?)=(jD L (eC L ts)).map some/\St B k (fun g=>E g\/v.ownBlock=some g) (eC L ts) s w'/\cA B k w w':=by
 obtain⟨OR,c',e,⟨MD,Eo,-⟩,-⟩:=id ha;injection e with e1 e2 e3;subst e1;subst e3;have HN:Hid (n=ids.length):=aa e2;have Pa:Hid (ts.length=n):=aa (by rw[e2];exact cw hi);have JB:c<=9223372036854775807:=Eo;rw[<-e2] at MD;have HA:=aa ha;have HI:=aa hi;have HS:=aa h;have Pn:=aa hnd;have bP:=aa h.om;have QI:=aa h.good;clear h hnd ha hi Eo e2;go_enter Tryz.func70,Tryz.ntmps70;obtain⟨x1,ks,es,eks,Ft,hks,AG⟩:=aW w #[.pointer (some ⟨k,0,none⟩)] 112;obtain⟨x2,kt,et,Iz,ir,lZ,wY⟩:=aW x1 #[.slice none 0 0] 114;obtain⟨x3,kv,ev_,ekv,RH,hkv,PC⟩:=aW x2 #[.nilFunc] 164;have Fa:Hid (w.heap.size<=ks/\ks<kt/\kt<kv):=aa (by
  have h1:=ae AG.out;have h2:=ae wY.out;have h3:=hks.out;have h4:=lZ.out;have h5:=hkv.out;exact⟨h3,by omega,by omega⟩)
 replace AG:=bM RH.out (bM ir.out AG);replace wY:=bM RH.out wY;have lP:=HS.out.below Ft.out;have Ir:aB x1.heap.size x1 x3:=ir.out.trans (RH.out.mono ir.out.size);have BA:Hid (St B k (fun g=>E g\/g=kt\/g=kv) L s x3):=aa (lP.uR (jV Ir none) (fun g h=>by cases h) (fun g hg=>by
  have h0:=ae AG.out;have h1:=lZ.out;have h2:=Fa.out;rcases hg with hg | hg | hg
  ·exact .inl hg
  ·exact .inr (by omega)
  ·exact .inr (by omega)) (fun g hg=>by
  have h1:=ae wY.out;have h2:=ae PC.out;rcases hg with hg | hg | hg
  ·obtain⟨km,v0,us,M,hU⟩:=lP;exact az (hU.ex g hg) Ir.size
  ·rw[hg];exact h1
  rw[hg];exact h2))
 have Vl:Hid (cA B k w x3):=aa ((cA.aH Ft.out).trans (cA.aH Ir));clear lP Ir;have v0:=aq (v:=.nilFunc) PC.out 0 rfl;have R_:=aY PC.out 0;go_upto_region 4 with fail;obtain⟨x4,PZ⟩:∃ x,x=x3.setCell ⟨kv,0,none⟩ (.func (.func 118) #[] #[.pointer (some ⟨ks,0,none⟩),.pointer (some ⟨kt,0,none⟩),.pointer (some ⟨kv,0,none⟩)]):=⟨_,rfl⟩;rw[<-PZ];have Jw:x3.grownBy x4 (some kv):=by
  rw[PZ];refine aD ?_ _;exact aE _ _
 have Nd:lA (#[Value.nilFunc]:Array ak).toList:=by
  intro u hu z;simp only[aP,aK,or_false] at hu;rw[hu];intro h;cases h
 have Rb:x4.heap[kv]?=some (.cells #[.func (.func 118) #[] #[.pointer (some ⟨ks,0,none⟩),.pointer (some ⟨kt,0,none⟩),.pointer (some ⟨kv,0,none⟩)]] 164 (0,0)):=by
  rw[PZ];exact aA x3 kv 0 _ _ _ PC.out
 have YK:Hid (wV B k ks kt kv x4.heap.size (.func (.func 118) #[] #[.pointer (some ⟨ks,0,none⟩),.pointer (some ⟨kt,0,none⟩),.pointer (some ⟨kv,0,none⟩)]) E L s [] (.slice none 0 0) [] x4):=aa {
  bs:=(Jw.block ks (ae AG.out) (fun e=>by injection e with e;have:=Fa.out;omega)).trans AG.out
  bt:=(Jw.block kt (ae wY.out) (fun e=>by injection e with e;have:=Fa.out;omega)).trans wY.out
  bv:=Rb
  row:=El.Row.nil _ _
  ids:=rfl
  st:=(BA.out.uR (E':=fun g=>E g\/g=kt\/g=kv) Jw (fun g hg=>by
   injection hg with hg;subst hg;exact⟨.inr (.inr rfl),by have:=Fa.out;have:=bP.out;omega,_,_,PC.out,by decide,Nd⟩) (fun g hg=>.inl hg) (fun g hg=>by
   obtain⟨km,v0,us,M,hU⟩:=BA.out;exact az (hU.ex g hg) Jw.size)).less (fun g hg=>by
   rcases hg with hg | hg | hg
   ·exact .inl hg
   ·exact .inr (.inl hg)
   cases hg)
  nd:=Pn.out
  tl:=ah _
  lo:=by
   have h1:=az (ae AG.out) Jw.size;have h2:=az (ae wY.out) Jw.size;have h3:=ae Rb;have h4:=Fa.out;have h5:=bP.out;exact⟨by omega,h2,h1,h3⟩
  sz:=ag _ }
 have Mb:=aa (Vl.out.app Jw (fun g hg=>by injection hg with hg;have:=Fa.out;omega) bP.out.2);clear v0 R_ PZ Jw Nd Rb BA Vl;go_wp2_with fail;go_loopw [12] (fun iv wr=>∃ (j:Nat) (v':ak) (ids':List Nat),iv=.int .i64 (j:Nat)/\j<=n/\Hid (wV B k ks kt kv x4.heap.size (.func (.func 118) #[] #[.pointer (some ⟨ks,0,none⟩),.pointer (some ⟨kt,0,none⟩),.pointer (some ⟨kv,0,none⟩)]) E (eC L (ts.take j)) s (jD L (eC L (ts.take j))) v' ids' wr)/\Hid (o7 B k kt (.slice none 0 0) v' x4 wr)) (fun iv _=>n - (eT iv).toNat)
 case atStart=>exact⟨0,_,[],rfl,ah _,aa (by rw[pY,eC,oF];exact YK.out),aa (o7.refl _ _ _ _ _)⟩
 case round =>
  obtain⟨j,v',ids',rfl,hj,Cx,FM⟩:=hrel;have Vj:=aa (FM.out.rz (w0:=w) (by have:=Fa.out;omega) (fun g hg=>by cases hg) Mb.out);by_cases hlt:j<n
  ·have jq:j<ids.length:=by rw[<-HN.out];exact hlt
   have Bg:j<ts.length:=by rw[Pa.out];exact hlt
   obtain⟨a,rfl,ca⟩:=qO HA.out Vj.out j jq;obtain⟨i2,oV⟩:∃ x,x=ids[j]:=⟨_,rfl⟩;rw[<-oV] at ca;have Fh:Hid (s[i2]?=some ts[j]):=aa (by rw[oV];exact jS HI.out j jq Bg);have LV:=aa (QI.out ts[j] (List.mem_of_getElem? Fh.out)).2;have b0:=aq (v:=(.func (.func 118) #[] #[.pointer (some ⟨ks,0,none⟩),.pointer (some ⟨kt,0,none⟩),.pointer (some ⟨kv,0,none⟩)])) Cx.out.bv 0 rfl;have JY:=aa (qH (s:=L) Bg);clear oV;go_wp2_with fail;refine (F0 9 _ _ _ _ _ _ _ _ _ _ v' ids' wr i2 ts[j] Cx.out Fh.out LV.out).mono ?_;rintro e w6 ⟨⟨qv,rfl⟩,v2,D6,qP,yW⟩;have O':=aa qP;have I2:=aa (FM.out.trans yW);clear qP yW ca b0;go_wp2_with fail;go_roundw
   case rel =>
    refine⟨j+1,v2,D6,by go_num,hlt,aa ?_,I2⟩;have h1:=O'.out;rw[<-JY.out,<-kH (ju _ _) (by rw[JY.out];exact sr _ _)] at h1;exact h1
   case measure=>simp[eT];omega
  have ej:j=n:=by omega
  have AE:Hid (ts.take j=ts):=aa (by rw[ej,<-Pa.out];exact cz);obtain⟨po,pc,rfl,-⟩:=Cx.out.row.form;have t0:=aq (v:=.slice po ids'.length pc) Cx.out.bt 0 rfl;go_wp2_with fail;go_ret;have h1:=Cx.out;rw[AE.out] at h1;exact⟨_,ids',rfl,wj h1.row (ai Mb.out.size (ag _)),h1.ids,h1.st.less (fun g hg=>hg.imp id .inr),Vj.out⟩
theorem Bx {m:Nat}:∀ (e:Nat),e<=m->∀ t:F,Tm e t->gT (Tm m) t
 | 0,_,t,h=>absurd h id
 | e+1,he,.node o z nm ks,h=>by
  rw[gT];exact⟨h.up he,dI.of fun k hk=>Bx e (by omega) k (h.2.2.2.2 k hk)⟩
theorem zj {t:F} (hr:rt t=true) (hm:Tm 5 t):∀ x ∈ jB [] t,rt x=true/\Tm 5 x:=
 (su (P:=fun x=>rt x=true/\Tm 5 x) t [] (fun x hx=>by cases hx) ((Az 5 t hm hr).and (Bx 5 (ag _) t hm))).1
noncomputable def jk (x:F):List F:=((jB [] x).filter nb).flatMap cg
theorem Jk {t:F} (hr:rt t=true) (hm:Tm 5 t):∀ y ∈ jk t,rt y=true/\QA 5 9 y:=by
 intro y hy;unfold jk at hy;obtain⟨x,hx,hy⟩:=List.mem_flatMap.1 hy;obtain⟨h1,h2⟩:=zj hr hm x (List.mem_filter.1 hx).1;exact⟨(yu (r:=fun _=>.I 0) h1 y hy).1,Iw (d:=4) h1 h2 y hy⟩
theorem Kk {t:F} (hr:rt t=true) (hm:Tm 5 t):∀ x ∈ eC (jB [] t) (jk t),rt x=true/\Qd 5 x:=by
 refine (nN (P:=fun x=>rt x=true/\Qd 5 x) (jk t) (jB [] t) (fun x hx=>?_) (dI.of fun y hy=>?_)).1
 ·obtain⟨h1,h2⟩:=zj hr hm x hx;exact⟨h1,h2.up (by decide),fun _=>h2.up (by decide),fun _=>h2.up (by decide)⟩
 obtain⟨h1,h2⟩:=Jk hr hm y hy;exact (Az 9 y h2.2 h1).and h2.1
theorem of_eq (t:F):uF t=jk t++(((eC (jB [] t) (jk t)).drop (jB [] t).length).filter (fun t=>decide (cU t.op=2))).flatMap dM:=rfl
theorem zJ {t:F} (hr:rt t=true) (hm:Tm 5 t) (r:ByteArray->V):∀ y ∈ uF t,iT r y/\QA 5 9 y:=by
 intro y hy;rw[of_eq] at hy;rcases List.mem_append.1 hy with hy | hy
 ·refine⟨?_,(Jk hr hm y hy).2⟩;unfold jk at hy;obtain⟨x,hx,hy⟩:=List.mem_flatMap.1 hy;exact yu (zj hr hm x (List.mem_filter.1 hx).1).1 y hy
 obtain⟨x,hx,hy⟩:=List.mem_flatMap.1 hy;obtain⟨h1,h2⟩:=List.mem_filter.1 hx;have h3:=Kk hr hm x (List.mem_of_mem_drop h1);have h4:cU x.op=2:=of_decide_eq_true h2;exact⟨qm h3.1 h4 y hy,(DJ (d:=5) h3.1 (h3.2.2.2 h4) (by omega) y hy).up (by omega)⟩
theorem Jj {t:F} (hr:rt t=true) (hm:Tm 5 t):∀ y ∈ uF t,Gd y:=fun y hy=>by
 obtain⟨h1,h2⟩:=zJ hr hm (fun _=>.I 0) y hy;exact⟨h1.1,h2.2.g⟩
def Ap:Nat->Nat
 | 0=>0
 | d+1=>1+3*Ap d
theorem zy:∀ (d:Nat) (t:F),Tm d t->CG t<=Ap d
 | 0,t,h=>absurd h id
 | d+1,.node o z nm ks,h=>by
  obtain⟨-,-,-,h4,h5⟩:=h
  have key:∀ l:List F,(∀ k ∈ l,Tm d k)->kE l<=l.length*Ap d:=by
   intro l;induction l with
   | nil=>intro _;simp[kE]
   | cons a l ih =>
    intro hl;have:=ih (fun k hk=>hl k (by simp[hk]));have ha:=zy d a (hl a (by simp));rw[kE,jo,cO,Nat.one_mul];omega
  have h6:=key ks h5;have h7:ks.length*Ap d<=3*Ap d:=de _ h4;rw[CG,Ap];omega
theorem JL:Ap 5<=1000:=by decide
def oH:F:=.node 8 0 ⟨#[108]⟩ []
theorem vk:rt (cr oH)=true/\Tg 2 (cr oH):=⟨rfl,⟨rfl,z4,fun _ _ _=>rfl,by decide,fun k hk=>by
 have e:k=oH:=by simpa [cr,fo,F.kids] using hk
 subst e
 exact⟨⟨by decide,by decide,by unfold lD;decide⟩,z4,fun _ _ _=>rfl,by decide,fun k hk=>by cases hk⟩⟩⟩
theorem AM:jB [] (cr oH)=[cr oH,oH]:=by
 simp[jB,eC,cr,fo,oH]
theorem Ds:uF (cr oH)=[cN (nF 0) (cr oH),iw oH,cN (nF 0) (cr i_),bL (cr i_) (nF 0)]:=by
 have h1:jk (cr oH)=[cN (nF 0) (cr oH),iw oH]:=by
  unfold jk;rw[AM];simp[List.filter,nb,cr,fo,oH,F.op,cU,cg,dM]
 rw[of_eq,h1,AM];simp[jB,eC,cN,iw,eZ,bH,bL,i_,cr,fo,nF,oH,List.filter,F.op,cU,dM]
end Go.Proofs.YtoncclhbdkjhmaaGreatDoor
