/-
 Joined texts: FaQ,FaR,FaS,FaX,FaY,FaZ,FaZa,FbA,FbB,FbD,FbC,FbE.
-/
import Derived.Test.YtoncclhbdkjhmaaGreatDoorJFactsHold8
set_option maxHeartbeats 32000000
open Go renaming lt_of_block→ae,World→ag,Value→aq,heap_setCell_same→aC,Calls→aW,maxLen→bI,heap_alloc_new→bT
open Go.Lib renaming hid→aa
open Go.Proofs.Tryz renaming prog→aj,ntmps72→kF,func72→lV
open Go.RowKit renaming Below→aA
open Go.RowKit.Below renaming refl→ax
open Go.World.grownBy renaming refl→aI
open Go.World.ownsRow renaming stored→fG
open List renaming map_cons→aO,cons_append→aR,not_mem_nil→aU,setIfInBounds_toArray→aY,mem_singleton→aZ,append_assoc→bg,mem_cons→bz,set_cons_succ→bD,take_length→bK,map_nil→bM,set_cons_zero→bS,length_set→bY,map_append→cn,getElem_mem→ct,take_of_length_le→cw,drop_zero→cx,drop_succ_cons→cL,length_map→cT,append_nil→dJ,getElem_map→gp,mem_append→Bk,take_zero→Cs
open Nat renaming le_trans→ah,le_refl→ai,zero_le→au,lt_of_lt_of_le→az,add_right_cancel→cQ,reduceAdd→fH
namespace Go.Proofs.YtoncclhbdkjhmaaGreatDoor
open Go.RowKit
set_option maxRecDepth 100000
set_option linter.unusedVariables false
set_option linter.unusedSimpArgs false
attribute [local go_sem] eF eE eC eB
theorem vX {B k:Nat} {E:Nat->Prop} {L s:List F} (w:ag) (h:St B k E L s w) (hm:s.length+2<=900000) (i:Nat) (U:F) (hi:s[i]?=some U) (hg:Gd (dV (nF 0) U)) (ka:Nat) (ha:w.heap[ka]?=some (.cells #[.pointer (some ⟨k,0,none⟩)] 112 (0,0))) :
  aW aj 170 #[.int .i64 ((i:Nat):Int),.pointer (some ⟨ka,0,none⟩)] w (gO B k E L s (dV (nF 0) U) 2 w):=by
 have HS:=aa h;have HM:=aa hm;have HG:=aa hg;have gm:=aa ha;have Rn:=aa hi;clear h hm hg ha hi;go_enter Tryz.func170,Tryz.ntmps170;go_upto_region 1 with fail;have lO:Hid (∀ i j,i<5->j<5->i≠j->(fun i=>i+4) i≠(fun i=>i+4) j):=aa (fun i j _ _ h e=>h (cQ e));have lE:Hid (∀ i,i<5->(fun i=>i+4) i<9):=aa (fun i h=>by show i+4<9;omega);refine kJ.region (by kernel_rfl) [[],[],[1],[],[0,1,2,3],[0,1,2,3,4]] 5 (by kernel_rfl) (by kernel_rfl) (JX B k E L w s _ 5 (fun i=>i+4) (fun i=>[0,0,1,0,1].getD i 0) (EC B k E [.eqv (.pointer (some ⟨k,0,none⟩)),.eqv (.pointer (some ⟨k,0,none⟩)),.lM (nF 0),.eqv (.int .i64 ((i:Nat):Int)),.lM (dV (nF 0) U)])) (JF.start HS.out) ?_ ?_
 ·rintro d T wc n9 o ⟨s9,hJ⟩ ho hi hd aH dO;have hstep:=fun (v:aq) (s8:List F) (w2:ag)=>hJ.step (v:=v) (s':=s8) (w':=w2) (mU (B:=B) (k:=k) (E:=E) _) lO.out (fun i hi=>az (lE.out i hi) (of_decide_eq_true rfl)) n9 hi hd
  have bh:=aa hJ.st;have cM:=aa (hJ.room n9 hi hd (N:=900000) (show s.length+2<=900000 from by have:=HM.out;omega));have m1:T[1]?=some (.pointer (some ⟨ka,0,none⟩)):=(hJ.kQ 1 (by decide)).trans (by rfl);have bx:=(hJ.be.block ka (ae gm.out) (NO.cells gm.out (by decide))).trans gm.out;have Vr:=af (v:=.pointer (some ⟨k,0,none⟩)) bx 0 rfl;clear bx;have m0:T[0]?=some (.int .i64 ((i:Nat):Int)):=(hJ.kQ 0 (by decide)).trans (by rfl);obtain rfl | rfl | rfl | rfl | rfl:n9=0\/n9=1\/n9=2\/n9=3\/n9=4:=by omega
  all_goals (injection ho with ho)
  all_goals (subst ho)
  all_goals (try (clear hJ aH dO;refine⟨rfl,fun K9 hK=>?_⟩;have bO:=aa hstep;clear hstep;go_simp;exact hK.out _ _ (bO.out _ _ _ bh.out ((Ext.refl _).up (au _)) (dz.refl _ _ _) rfl)))
  ·have e5:=hJ.vE 1 5 rfl (by decide) (aH 1 (by rfl)) (fun _ h=>h);clear hJ aH dO;refine⟨rfl,fun K9 hK=>?_⟩;have bO:=aa hstep;clear hstep;go_simp;refine (qH wc bh.out cM.out 0 (by decide) (by decide)).mono ?_;rintro e w8 ⟨i8,s8,rfl,p1,p2,p3,p4⟩;exact hK.out _ _ (bO.out _ _ _ p1 p2 p4 ⟨i8,rfl,p3⟩)
  have e4:=hJ.vE 0 4 rfl (by decide) (aH 0 (by rfl)) (fun _ h=>h);obtain⟨i2,e6,H2⟩:=hJ.vI 2 6 rfl (by decide) (aH 2 (by rfl)) (fun _ h=>h);have e7:=hJ.vE 3 7 rfl (by decide) (aH 3 (by rfl)) (fun _ h=>h);have c_:=aa hJ.ext;clear hJ aH dO;refine⟨rfl,fun K9 hK=>?_⟩;have bO:=aa hstep;clear hstep;go_simp;refine (za wc bh.out cM.out i2 i _ _ H2.out (c_.out.get Rn.out) HG.out).mono ?_;rintro e w8 ⟨i8,s8,rfl,p1,p2,p3,p4⟩;exact hK.out _ _ (bO.out _ _ _ p1 p2 p4 ⟨i8,rfl,p3⟩)
 rintro T wt ⟨s9,hJ⟩;have a0:=hJ.vE 0 4 rfl (by decide) rfl (fun _ h=>h);have a1:=hJ.vE 1 5 rfl (by decide) rfl (fun _ h=>h);obtain⟨i2,a2,H2⟩:=hJ.vI 2 6 rfl (by decide) rfl (fun _ h=>h);have a3:=hJ.vE 3 7 rfl (by decide) rfl (fun _ h=>h);obtain⟨i4,a4,H4⟩:=hJ.vI 4 8 rfl (by decide) rfl (fun _ h=>h);have hfr:=hJ.fin (fun i hi=>az (lE.out i hi) (of_decide_eq_true rfl)) rfl (.cons a0 (.cons a1 (.cons a2 (.cons a3 (.cons a4 .nil)))));have bh:=aa hJ.st;have iT:Hid (Ext s s9 2):=aa hJ.ext;have jL:=aa hJ.be;clear hJ lO lE a0 a1 a2 a3 a4;rw[hfr];clear hfr;simp only[l_,fH,aY,bS,bD];simp only[cL,cx];go_wp2_with fail;go_ret
 exact⟨i4,s9,rfl,bh.out,iT.out,H4.out,jL.out⟩
theorem AW {B k:Nat} {E:Nat->Prop} {L s:List F} (w:ag) (h:St B k E L s w) (hm:s.length+2<=900000) (i:Nat) (U:F) (hi:s[i]?=some U) (hg:Gd (dV U (nF 0))) (ka:Nat) (ha:w.heap[ka]?=some (.cells #[.pointer (some ⟨k,0,none⟩)] 112 (0,0))) :
  aW aj 171 #[.int .i64 ((i:Nat):Int),.pointer (some ⟨ka,0,none⟩)] w (gO B k E L s (dV U (nF 0)) 2 w):=by
 have HS:=aa h;have HM:=aa hm;have HG:=aa hg;have gm:=aa ha;have Rn:=aa hi;clear h hm hg ha hi;go_enter Tryz.func171,Tryz.ntmps171;go_upto_region 1 with fail;have lO:Hid (∀ i j,i<5->j<5->i≠j->(fun i=>i+4) i≠(fun i=>i+4) j):=aa (fun i j _ _ h e=>h (cQ e));have lE:Hid (∀ i,i<5->(fun i=>i+4) i<9):=aa (fun i h=>by show i+4<9;omega);refine kJ.region (by kernel_rfl) [[],[],[],[2],[0,1,2,3],[0,1,2,3,4]] 5 (by kernel_rfl) (by kernel_rfl) (JX B k E L w s _ 5 (fun i=>i+4) (fun i=>[0,0,0,1,1].getD i 0) (EC B k E [.eqv (.pointer (some ⟨k,0,none⟩)),.eqv (.int .i64 ((i:Nat):Int)),.eqv (.pointer (some ⟨k,0,none⟩)),.lM (nF 0),.lM (dV U (nF 0))])) (JF.start HS.out) ?_ ?_
 ·rintro d T wc n9 o ⟨s9,hJ⟩ ho hi hd aH dO;have hstep:=fun (v:aq) (s8:List F) (w2:ag)=>hJ.step (v:=v) (s':=s8) (w':=w2) (mU (B:=B) (k:=k) (E:=E) _) lO.out (fun i hi=>az (lE.out i hi) (of_decide_eq_true rfl)) n9 hi hd
  have bh:=aa hJ.st;have cM:=aa (hJ.room n9 hi hd (N:=900000) (show s.length+2<=900000 from by have:=HM.out;omega));have m1:T[1]?=some (.pointer (some ⟨ka,0,none⟩)):=(hJ.kQ 1 (by decide)).trans (by rfl);have bx:=(hJ.be.block ka (ae gm.out) (NO.cells gm.out (by decide))).trans gm.out;have Vr:=af (v:=.pointer (some ⟨k,0,none⟩)) bx 0 rfl;clear bx;have m0:T[0]?=some (.int .i64 ((i:Nat):Int)):=(hJ.kQ 0 (by decide)).trans (by rfl);obtain rfl | rfl | rfl | rfl | rfl:n9=0\/n9=1\/n9=2\/n9=3\/n9=4:=by omega
  all_goals (injection ho with ho)
  all_goals (subst ho)
  all_goals (try (clear hJ aH dO;refine⟨rfl,fun K9 hK=>?_⟩;have bO:=aa hstep;clear hstep;go_simp;exact hK.out _ _ (bO.out _ _ _ bh.out ((Ext.refl _).up (au _)) (dz.refl _ _ _) rfl)))
  ·have e6:=hJ.vE 2 6 rfl (by decide) (aH 2 (by rfl)) (fun _ h=>h);clear hJ aH dO;refine⟨rfl,fun K9 hK=>?_⟩;have bO:=aa hstep;clear hstep;go_simp;refine (qH wc bh.out cM.out 0 (by decide) (by decide)).mono ?_;rintro e w8 ⟨i8,s8,rfl,p1,p2,p3,p4⟩;exact hK.out _ _ (bO.out _ _ _ p1 p2 p4 ⟨i8,rfl,p3⟩)
  have e4:=hJ.vE 0 4 rfl (by decide) (aH 0 (by rfl)) (fun _ h=>h);have e5:=hJ.vE 1 5 rfl (by decide) (aH 1 (by rfl)) (fun _ h=>h);obtain⟨i3,e7,H3⟩:=hJ.vI 3 7 rfl (by decide) (aH 3 (by rfl)) (fun _ h=>h);have c_:=aa hJ.ext;clear hJ aH dO;refine⟨rfl,fun K9 hK=>?_⟩;have bO:=aa hstep;clear hstep;go_simp;refine (za wc bh.out cM.out i i3 _ _ (c_.out.get Rn.out) H3.out HG.out).mono ?_;rintro e w8 ⟨i8,s8,rfl,p1,p2,p3,p4⟩;exact hK.out _ _ (bO.out _ _ _ p1 p2 p4 ⟨i8,rfl,p3⟩)
 rintro T wt ⟨s9,hJ⟩;have a0:=hJ.vE 0 4 rfl (by decide) rfl (fun _ h=>h);have a1:=hJ.vE 1 5 rfl (by decide) rfl (fun _ h=>h);have a2:=hJ.vE 2 6 rfl (by decide) rfl (fun _ h=>h);obtain⟨i3,a3,H3⟩:=hJ.vI 3 7 rfl (by decide) rfl (fun _ h=>h);obtain⟨i4,a4,H4⟩:=hJ.vI 4 8 rfl (by decide) rfl (fun _ h=>h);have hfr:=hJ.fin (fun i hi=>az (lE.out i hi) (of_decide_eq_true rfl)) rfl (.cons a0 (.cons a1 (.cons a2 (.cons a3 (.cons a4 .nil)))));have bh:=aa hJ.st;have iT:Hid (Ext s s9 2):=aa hJ.ext;have jL:=aa hJ.be;clear hJ lO lE a0 a1 a2 a3 a4;rw[hfr];clear hfr;simp only[l_,fH,aY,bS,bD];simp only[cL,cx];go_wp2_with fail;go_ret
 exact⟨i4,s9,rfl,bh.out,iT.out,H4.out,jL.out⟩
theorem B8 {B k:Nat} {E:Nat->Prop} {L s:List F} (w:ag) (h:St B k E L s w) (hm:s.length+3<=900000) (i j l:Nat) (U V X:F) (hi:s[i]?=some U) (hj:s[j]?=some V) (hl:s[l]?=some X) (hg:Gd (gB [bW U,bW V,X])) (ka:Nat) (ha:w.heap[ka]?=some (.cells #[.pointer (some ⟨k,0,none⟩)] 112 (0,0))) :
  aW aj 172 #[.int .i64 ((i:Nat):Int),.int .i64 ((j:Nat):Int),.int .i64 ((l:Nat):Int),.pointer (some ⟨ka,0,none⟩)] w (gO B k E L s (gB [bW U,bW V,X]) 3 w):=by
 have HS:=aa h;have HM:=aa hm;have HG:=aa hg;have gm:=aa ha;have Rn:=aa hi;have YC:=aa hj;have HIl:=aa hl;have G1:=aa (di HG.out (x:=bW U) (by simp[gB,bW,b_,dV,gE,fo,F.kids]));have G2:=aa (di HG.out (x:=bW V) (by simp[gB,bW,b_,dV,gE,fo,F.kids]));clear h hm hg ha hi hj hl;go_enter Tryz.func172,Tryz.ntmps172;go_upto_region 1 with fail;have lO:Hid (∀ i j,i<10->j<10->i≠j->(fun i=>i+8) i≠(fun i=>i+8) j):=aa (fun i j _ _ h e=>h (cQ e));have lE:Hid (∀ i,i<10->(fun i=>i+8) i<18):=aa (fun i h=>by show i+8<18;omega)
 refine kJ.region (by kernel_rfl) [[],[],[],[1,2],[],[],[1,2,3,4,5],[],[1,2,3,4,5,6,7],[0,1,2,3,4,5,6,7,8],[0,1,2,3,4,5,6,7,8,9]] 10 (by kernel_rfl) (by kernel_rfl) (JX B k E L w s _ 10 (fun i=>i+8) (fun i=>[0,0,0,1,0,0,1,0,0,1].getD i 0) (EC B k E [.eqv (.pointer (some ⟨k,0,none⟩)),.eqv (.pointer (some ⟨k,0,none⟩)),.eqv (.int .i64 ((i:Nat):Int)),.lM (bW U),.eqv (.pointer (some ⟨k,0,none⟩)),.eqv (.int .i64 ((j:Nat):Int)),.lM (bW V),.eqv (.int .i64 ((l:Nat):Int)),.C0 [bW U,bW V,X],.lM (gB [bW U,bW V,X])])) (JF.start HS.out) ?_ ?_
 ·rintro d T wc n9 o ⟨s9,hJ⟩ ho hi hd aH dO;have hstep:=fun (v:aq) (s8:List F) (w2:ag)=>hJ.step (v:=v) (s':=s8) (w':=w2) (mU (B:=B) (k:=k) (E:=E) _) lO.out (fun i hi=>az (lE.out i hi) (of_decide_eq_true rfl)) n9 hi hd
  have bh:=aa hJ.st;have cM:=aa (hJ.room n9 hi hd (N:=900000) (show s.length+3<=900000 from by have:=HM.out;omega));have m3:T[3]?=some (.pointer (some ⟨ka,0,none⟩)):=(hJ.kQ 3 (by decide)).trans (by rfl);have bx:=(hJ.be.block ka (ae gm.out) (NO.cells gm.out (by decide))).trans gm.out;have Vr:=af (v:=.pointer (some ⟨k,0,none⟩)) bx 0 rfl;clear bx;have m0:T[0]?=some (.int .i64 ((i:Nat):Int)):=(hJ.kQ 0 (by decide)).trans (by rfl);have m1:T[1]?=some (.int .i64 ((j:Nat):Int)):=(hJ.kQ 1 (by decide)).trans (by rfl);have m2:T[2]?=some (.int .i64 ((l:Nat):Int)):=(hJ.kQ 2 (by decide)).trans (by rfl);obtain rfl | rfl | rfl | rfl | rfl | rfl | rfl | rfl | rfl | rfl:n9=0\/n9=1\/n9=2\/n9=3\/n9=4\/n9=5\/n9=6\/n9=7\/n9=8\/n9=9:=by omega
  all_goals (injection ho with ho)
  all_goals (subst ho)
  all_goals (try (clear hJ aH dO;refine⟨rfl,fun K9 hK=>?_⟩;have bO:=aa hstep;clear hstep;go_simp;exact hK.out _ _ (bO.out _ _ _ bh.out ((Ext.refl _).up (au _)) (dz.refl _ _ _) rfl)))
  ·have e9:=hJ.vE 1 9 rfl (by decide) (aH 1 (by rfl)) (fun _ h=>h);have ER:=hJ.vE 2 10 rfl (by decide) (aH 2 (by rfl)) (fun _ h=>h);have c_:=aa hJ.ext;clear hJ aH dO;refine⟨rfl,fun K9 hK=>?_⟩;have bO:=aa hstep;clear hstep;go_simp;refine (yV wc bh.out cM.out i U (c_.out.get Rn.out) G1.out).mono ?_;rintro e w8 ⟨i8,s8,rfl,p1,p2,p3,p4⟩;exact hK.out _ _ (bO.out _ _ _ p1 p2 p4 ⟨i8,rfl,p3⟩)
  ·have e12:=hJ.vE 4 12 rfl (by decide) (aH 4 (by rfl)) (fun _ h=>h);have X8:=hJ.vE 5 13 rfl (by decide) (aH 5 (by rfl)) (fun _ h=>h);have c_:=aa hJ.ext;clear hJ aH dO;refine⟨rfl,fun K9 hK=>?_⟩;have bO:=aa hstep;clear hstep;go_simp;refine (yV wc bh.out cM.out j V (c_.out.get YC.out) G2.out).mono ?_;rintro e w8 ⟨i8,s8,rfl,p1,p2,p3,p4⟩;exact hK.out _ _ (bO.out _ _ _ p1 p2 p4 ⟨i8,rfl,p3⟩)
  ·obtain⟨i3,Ll,H3⟩:=hJ.vI 3 11 rfl (by decide) (aH 3 (by rfl)) (fun _ h=>h);obtain⟨i6,X7,H6⟩:=hJ.vI 6 14 rfl (by decide) (aH 6 (by rfl)) (fun _ h=>h);have RK:=hJ.vE 7 15 rfl (by decide) (aH 7 (by rfl)) (fun _ h=>h);have c_:=aa hJ.ext;clear hJ aH dO;refine⟨rfl,fun K9 hK=>?_⟩;have bO:=aa hstep;clear hstep;go_simp;have hal:aA wc.heap.size wc (wc.alloc _):=(ax _ _).alloc (ai _) (.cells #[.int .i64 ((i3:Nat):Int),.int .i64 ((i6:Nat):Int),.int .i64 ((l:Nat):Int)] 116)
   exact hK.out _ _ (bO.out _ _ _ (bh.out.below hal) ((Ext.refl _).up (au _)) (.aN hal) ⟨[i3,i6,l],IL.block (l:=[i3,i6,l]) (cs:=[.int .i64 ((i3:Nat):Int),.int .i64 ((i6:Nat):Int),.int .i64 ((l:Nat):Int)]) (show (wc.alloc (.cells #[.int .i64 ((i3:Nat):Int),.int .i64 ((i6:Nat):Int),.int .i64 ((l:Nat):Int)] 116)).heap[wc.heap.size]?=some (.cells [.int .i64 ((i3:Nat):Int),.int .i64 ((i6:Nat):Int),.int .i64 ((l:Nat):Int)].toArray 116 (0,0)) from bT wc _) (by decide) (bh.out.fresh (ai _)) (by show 3<=bI;decide) rfl,by simp only[aO,bM,H3.out,H6.out,c_.out.get HIl.out]⟩)
  have e8:=hJ.vE 0 8 rfl (by decide) (aH 0 (by rfl)) (fun _ h=>h);obtain⟨v8,O1,f8⟩:=hJ.val 8 (by decide) (aH 8 (by rfl));obtain⟨l8,EH,h8⟩:=(show uC B k E v8 [bW U,bW V,X] s9 wc from f8);obtain⟨q8o,q8c,g8,-⟩:=id EH;rw[g8] at O1 EH;replace O1:T[16]?=_:=O1;have A8:=aa EH;have H8:=aa h8;clear f8 EH h8 g8;clear hJ aH dO;refine⟨rfl,fun K9 hK=>?_⟩;have bO:=aa hstep;clear hstep;go_simp;refine (nO wc bh.out cM.out _ l8 A8.out [bW U,bW V,X] H8.out HG.out).mono ?_;rintro e w8 ⟨i8,s8,rfl,p1,p2,p3,p4⟩;exact hK.out _ _ (bO.out _ _ _ p1 p2 p4 ⟨i8,rfl,p3⟩)
 rintro T wt ⟨s9,hJ⟩;have a0:=hJ.vE 0 8 rfl (by decide) rfl (fun _ h=>h);have a1:=hJ.vE 1 9 rfl (by decide) rfl (fun _ h=>h);have a2:=hJ.vE 2 10 rfl (by decide) rfl (fun _ h=>h);obtain⟨i3,a3,H3⟩:=hJ.vI 3 11 rfl (by decide) rfl (fun _ h=>h);have a4:=hJ.vE 4 12 rfl (by decide) rfl (fun _ h=>h);have a5:=hJ.vE 5 13 rfl (by decide) rfl (fun _ h=>h);obtain⟨i6,a6,H6⟩:=hJ.vI 6 14 rfl (by decide) rfl (fun _ h=>h);have a7:=hJ.vE 7 15 rfl (by decide) rfl (fun _ h=>h);obtain⟨v8,a8,f8⟩:=hJ.val 8 (by decide) rfl;obtain⟨l8,EH,h8⟩:=(show uC B k E v8 [bW U,bW V,X] s9 wt from f8);have A8:=aa EH;clear f8 EH h8;obtain⟨i9,a9,H9⟩:=hJ.vI 9 17 rfl (by decide) rfl (fun _ h=>h)
 have hfr:=hJ.fin (fun i hi=>az (lE.out i hi) (of_decide_eq_true rfl)) rfl (.cons a0 (.cons a1 (.cons a2 (.cons a3 (.cons a4 (.cons a5 (.cons a6 (.cons a7 (.cons a8 (.cons a9 .nil))))))))));have bh:=aa hJ.st;have iT:Hid (Ext s s9 3):=aa hJ.ext;have jL:=aa hJ.be;clear hJ lO lE a0 a1 a2 a3 a4 a5 a6 a7 a8 a9;rw[hfr];clear hfr;simp only[l_,fH,aY,bS,bD];simp only[cL,cx];go_wp2_with fail;go_ret;exact⟨i9,s9,rfl,bh.out,iT.out,H9.out,jL.out⟩
theorem Oz {B k:Nat} {E:Nat->Prop} {L s:List F} (w:ag) (h:St B k E L s w) (hm:s.length+5<=900000) (i j q:Nat) (U V X:F) (hi:s[i]?=some U) (hj:s[j]?=some V) (hq:s[q]?=some X) (hg:Gd (gB [bW (b_ U (nF 1)),b_ X V])) (ka kb:Nat) (ha:w.heap[ka]?=some (.cells #[.pointer (some ⟨k,0,none⟩)] 112 (0,0))) (hb:w.heap[kb]?=some (.cells #[.int .i64 ((q:Nat):Int)] 116 (0,0))) :
  aW aj 173 #[.int .i64 ((i:Nat):Int),.int .i64 ((j:Nat):Int),.pointer (some ⟨ka,0,none⟩),.pointer (some ⟨kb,0,none⟩)] w (gO B k E L s (gB [bW (b_ U (nF 1)),b_ X V]) 5 w):=by
 have HS:=aa h;have HM:=aa hm;have HG:=aa hg;have gm:=aa ha;have Ai:=aa hb;have Rn:=aa hi;have YC:=aa hj;have HIq:=aa hq;have G1:=aa (di HG.out (x:=bW (b_ U (nF 1))) (by simp[gB,bW,b_,dV,gE,fo,F.kids]));have G2:=aa (di HG.out (x:=b_ X V) (by simp[gB,bW,b_,dV,gE,fo,F.kids]));have G3:=aa (di (di HG.out (x:=bW (b_ U (nF 1))) (by simp[gB,bW,b_,dV,gE,fo,F.kids])) (x:=b_ U (nF 1)) (by simp[gB,bW,b_,dV,gE,fo,F.kids]));clear h hm hg ha hb hi hj hq;go_enter Tryz.func173,Tryz.ntmps173;go_upto_region 1 with fail;have lO:Hid (∀ i j,i<14->j<14->i≠j->(fun i=>i+7) i≠(fun i=>i+7) j):=aa (fun i j _ _ h e=>h (cQ e))
 have lE:Hid (∀ i,i<14->(fun i=>i+7) i<21):=aa (fun i h=>by show i+7<21;omega)
 refine kJ.region (by kernel_rfl) [[],[],[],[],[],[4],[2,3,4,5],[1,2,3,4,5,6],[],[],[],[1,2,3,4,5,6,7,8,9,10],[1,2,3,4,5,6,7,8,9,10,11],[0,1,2,3,4,5,6,7,8,9,10,11,12],[0,1,2,3,4,5,6,7,8,9,10,11,12,13]] 14 (by kernel_rfl) (by kernel_rfl) (JX B k E L w s _ 14 (fun i=>i+7) (fun i=>[0,0,0,0,0,1,1,1,0,0,0,1,0,1].getD i 0) (EC B k E [.eqv (.pointer (some ⟨k,0,none⟩)),.eqv (.pointer (some ⟨k,0,none⟩)),.eqv (.pointer (some ⟨k,0,none⟩)),.eqv (.int .i64 ((i:Nat):Int)),.eqv (.pointer (some ⟨k,0,none⟩)),.lM (nF 1),.lM (b_ U (nF 1)),.lM (bW (b_ U (nF 1))),.eqv (.pointer (some ⟨k,0,none⟩)),.eqv (.int .i64 ((q:Nat):Int)),.eqv (.int .i64 ((j:Nat):Int)),.lM (b_ X V),.C0 [bW (b_ U (nF 1)),b_ X V],.lM (gB [bW (b_ U (nF 1)),b_ X V])])) (JF.start HS.out) ?_ ?_
 ·rintro d T wc n9 o ⟨s9,hJ⟩ ho hi hd aH dO;have hstep:=fun (v:aq) (s8:List F) (w2:ag)=>hJ.step (v:=v) (s':=s8) (w':=w2) (mU (B:=B) (k:=k) (E:=E) _) lO.out (fun i hi=>az (lE.out i hi) (of_decide_eq_true rfl)) n9 hi hd
  have bh:=aa hJ.st;have cM:=aa (hJ.room n9 hi hd (N:=900000) (show s.length+5<=900000 from by have:=HM.out;omega));have m2:T[2]?=some (.pointer (some ⟨ka,0,none⟩)):=(hJ.kQ 2 (by decide)).trans (by rfl);have bx:=(hJ.be.block ka (ae gm.out) (NO.cells gm.out (by decide))).trans gm.out;have Vr:=af (v:=.pointer (some ⟨k,0,none⟩)) bx 0 rfl;clear bx;have m0:T[0]?=some (.int .i64 ((i:Nat):Int)):=(hJ.kQ 0 (by decide)).trans (by rfl);have m3:T[3]?=some (.pointer (some ⟨kb,0,none⟩)):=(hJ.kQ 3 (by decide)).trans (by rfl);have bx:=(hJ.be.block kb (ae Ai.out) (NO.cells Ai.out (by decide))).trans Ai.out;have qb0:=af (v:=.int .i64 ((q:Nat):Int)) bx 0 rfl;clear bx;have m1:T[1]?=some (.int .i64 ((j:Nat):Int)):=(hJ.kQ 1 (by decide)).trans (by rfl)
  obtain rfl | rfl | rfl | rfl | rfl | rfl | rfl | rfl | rfl | rfl | rfl | rfl | rfl | rfl:n9=0\/n9=1\/n9=2\/n9=3\/n9=4\/n9=5\/n9=6\/n9=7\/n9=8\/n9=9\/n9=10\/n9=11\/n9=12\/n9=13:=by omega
  all_goals (injection ho with ho)
  all_goals (subst ho)
  all_goals (try (clear hJ aH dO;refine⟨rfl,fun K9 hK=>?_⟩;have bO:=aa hstep;clear hstep;go_simp;exact hK.out _ _ (bO.out _ _ _ bh.out ((Ext.refl _).up (au _)) (dz.refl _ _ _) rfl)))
  ·have Ll:=hJ.vE 4 11 rfl (by decide) (aH 4 (by rfl)) (fun _ h=>h);clear hJ aH dO;refine⟨rfl,fun K9 hK=>?_⟩;have bO:=aa hstep;clear hstep;go_simp;refine (qH wc bh.out cM.out 1 (by decide) (by decide)).mono ?_;rintro e w8 ⟨i8,s8,rfl,p1,p2,p3,p4⟩;exact hK.out _ _ (bO.out _ _ _ p1 p2 p4 ⟨i8,rfl,p3⟩)
  ·have e9:=hJ.vE 2 9 rfl (by decide) (aH 2 (by rfl)) (fun _ h=>h);have ER:=hJ.vE 3 10 rfl (by decide) (aH 3 (by rfl)) (fun _ h=>h);obtain⟨i5,e12,H5⟩:=hJ.vI 5 12 rfl (by decide) (aH 5 (by rfl)) (fun _ h=>h);have c_:=aa hJ.ext;clear hJ aH dO;refine⟨rfl,fun K9 hK=>?_⟩;have bO:=aa hstep;clear hstep;go_simp;refine (k6 wc bh.out cM.out i i5 U (nF 1) (c_.out.get Rn.out) H5.out G3.out).mono ?_;rintro e w8 ⟨i8,s8,rfl,p1,p2,p3,p4⟩;exact hK.out _ _ (bO.out _ _ _ p1 p2 p4 ⟨i8,rfl,p3⟩)
  ·have e8:=hJ.vE 1 8 rfl (by decide) (aH 1 (by rfl)) (fun _ h=>h);obtain⟨i6,X8,H6⟩:=hJ.vI 6 13 rfl (by decide) (aH 6 (by rfl)) (fun _ h=>h);clear hJ aH dO;refine⟨rfl,fun K9 hK=>?_⟩;have bO:=aa hstep;clear hstep;go_simp;refine (yV wc bh.out cM.out i6 _ H6.out G1.out).mono ?_;rintro e w8 ⟨i8,s8,rfl,p1,p2,p3,p4⟩;exact hK.out _ _ (bO.out _ _ _ p1 p2 p4 ⟨i8,rfl,p3⟩)
  ·have RK:=hJ.vE 8 15 rfl (by decide) (aH 8 (by rfl)) (fun _ h=>h);have O1:=hJ.vE 9 16 rfl (by decide) (aH 9 (by rfl)) (fun _ h=>h);have QJ:=hJ.vE 10 17 rfl (by decide) (aH 10 (by rfl)) (fun _ h=>h);have c_:=aa hJ.ext;clear hJ aH dO;refine⟨rfl,fun K9 hK=>?_⟩;have bO:=aa hstep;clear hstep;go_simp;refine (k6 wc bh.out cM.out q j X V (c_.out.get HIq.out) (c_.out.get YC.out) G2.out).mono ?_;rintro e w8 ⟨i8,s8,rfl,p1,p2,p3,p4⟩;exact hK.out _ _ (bO.out _ _ _ p1 p2 p4 ⟨i8,rfl,p3⟩)
  ·obtain⟨i7,X7,H7⟩:=hJ.vI 7 14 rfl (by decide) (aH 7 (by rfl)) (fun _ h=>h);obtain⟨i11,QI,Ph⟩:=hJ.vI 11 18 rfl (by decide) (aH 11 (by rfl)) (fun _ h=>h);clear hJ aH dO;refine⟨rfl,fun K9 hK=>?_⟩;have bO:=aa hstep;clear hstep;go_simp;have hal:aA wc.heap.size wc (wc.alloc _):=(ax _ _).alloc (ai _) (.cells #[.int .i64 ((i7:Nat):Int),.int .i64 ((i11:Nat):Int)] 116)
   exact hK.out _ _ (bO.out _ _ _ (bh.out.below hal) ((Ext.refl _).up (au _)) (.aN hal) ⟨[i7,i11],IL.block (l:=[i7,i11]) (cs:=[.int .i64 ((i7:Nat):Int),.int .i64 ((i11:Nat):Int)]) (show (wc.alloc (.cells #[.int .i64 ((i7:Nat):Int),.int .i64 ((i11:Nat):Int)] 116)).heap[wc.heap.size]?=some (.cells [.int .i64 ((i7:Nat):Int),.int .i64 ((i11:Nat):Int)].toArray 116 (0,0)) from bT wc _) (by decide) (bh.out.fresh (ai _)) (by show 2<=bI;decide) rfl,by simp only[aO,bM,H7.out,Ph.out]⟩)
  have e7:=hJ.vE 0 7 rfl (by decide) (aH 0 (by rfl)) (fun _ h=>h);obtain⟨v12,Dh,f12⟩:=hJ.val 12 (by decide) (aH 12 (by rfl));obtain⟨Zb,EN,h12⟩:=(show uC B k E v12 [bW (b_ U (nF 1)),b_ X V] s9 wc from f12);obtain⟨aJ8,aJ9,g12,-⟩:=id EN;rw[g12] at Dh EN;replace Dh:T[19]?=_:=Dh;have A12:=aa EN;have RT:=aa h12;clear f12 EN h12 g12;clear hJ aH dO;refine⟨rfl,fun K9 hK=>?_⟩;have bO:=aa hstep;clear hstep;go_simp;refine (nO wc bh.out cM.out _ Zb A12.out _ RT.out HG.out).mono ?_;rintro e w8 ⟨i8,s8,rfl,p1,p2,p3,p4⟩;exact hK.out _ _ (bO.out _ _ _ p1 p2 p4 ⟨i8,rfl,p3⟩)
 rintro T wt ⟨s9,hJ⟩;have a0:=hJ.vE 0 7 rfl (by decide) rfl (fun _ h=>h);have a1:=hJ.vE 1 8 rfl (by decide) rfl (fun _ h=>h);have a2:=hJ.vE 2 9 rfl (by decide) rfl (fun _ h=>h);have a3:=hJ.vE 3 10 rfl (by decide) rfl (fun _ h=>h);have a4:=hJ.vE 4 11 rfl (by decide) rfl (fun _ h=>h);obtain⟨i5,a5,H5⟩:=hJ.vI 5 12 rfl (by decide) rfl (fun _ h=>h);obtain⟨i6,a6,H6⟩:=hJ.vI 6 13 rfl (by decide) rfl (fun _ h=>h);obtain⟨i7,a7,H7⟩:=hJ.vI 7 14 rfl (by decide) rfl (fun _ h=>h);have a8:=hJ.vE 8 15 rfl (by decide) rfl (fun _ h=>h);have a9:=hJ.vE 9 16 rfl (by decide) rfl (fun _ h=>h);have Dw:=hJ.vE 10 17 rfl (by decide) rfl (fun _ h=>h);obtain⟨i11,Dv,Ph⟩:=hJ.vI 11 18 rfl (by decide) rfl (fun _ h=>h);obtain⟨v12,a12,f12⟩:=hJ.val 12 (by decide) rfl
 obtain⟨Zb,EN,h12⟩:=(show uC B k E v12 [bW (b_ U (nF 1)),b_ X V] s9 wt from f12);have A12:=aa EN;clear f12 EN h12;obtain⟨i13,Du,Rt⟩:=hJ.vI 13 20 rfl (by decide) rfl (fun _ h=>h);have hfr:=hJ.fin (fun i hi=>az (lE.out i hi) (of_decide_eq_true rfl)) rfl (.cons a0 (.cons a1 (.cons a2 (.cons a3 (.cons a4 (.cons a5 (.cons a6 (.cons a7 (.cons a8 (.cons a9 (.cons Dw (.cons Dv (.cons a12 (.cons Du .nil))))))))))))));have bh:=aa hJ.st;have iT:Hid (Ext s s9 5):=aa hJ.ext;have jL:=aa hJ.be;clear hJ lO lE a0 a1 a2 a3 a4 a5 a6 a7 a8 a9 Dw Dv a12 Du;rw[hfr];clear hfr;simp only[l_,fH,aY,bS,bD];simp only[cL,cx];go_wp2_with fail;go_ret
 exact⟨i13,s9,rfl,bh.out,iT.out,Rt.out,jL.out⟩
attribute [local go_sem] eF eE eC eB
theorem MV {B k:Nat} {E:Nat->Prop} {L s:List F} (w:ag) (h:St B k E L s w) (hm:s.length+46<=900000) (i j l:Nat) (X U V:F) (hx:s[i]?=some X) (hu:s[j]?=some U) (hv:s[l]?=some V) (hg:∀ t ∈ nZ X U V,Gd t) :
  aW aj 129 #[.pointer (some ⟨k,0,none⟩),.int .i64 ((i:Nat):Int),.int .i64 ((j:Nat):Int),.int .i64 ((l:Nat):Int)] w (vp B k E L s (nZ X U V) 46 w):=by
 have HS:=aa h;have HM:=aa hm;have HX:=aa hx;have HU:=aa hu;have HV:=aa hv;have G1:=aa (hg (gB [bW (dV (nF 0) U),bW (dV (nF 0) V),dV (nF 0) X]) (by simp[nZ]));have G2:=aa (hg (gB [bW (dV U (nF 0)),bW (dV V (nF 0)),dV (nF 0) X]) (by simp[nZ]));have G3:=aa (hg (gB [bW (dV (nF 0) U),bW (dV V (nF 0)),dV X (nF 0)]) (by simp[nZ]));have G4:=aa (hg (gB [bW (dV U (nF 0)),bW (dV (nF 0) V),dV X (nF 0)]) (by simp[nZ]));have G5:=aa (hg (gB [bW (b_ U (nF 1)),b_ X V]) (by simp[nZ]));have G6:=aa (hg (gB [bW (b_ V (nF 1)),b_ X U]) (by simp[nZ]))
 have GHU:=aa (di (di G1.out (x:=bW (dV (nF 0) U)) (by simp[gB,bW,b_,dV,gE,fo,F.kids])) (x:=dV (nF 0) U) (by simp[gB,bW,b_,dV,gE,fo,F.kids]));have GHV:=aa (di (di G1.out (x:=bW (dV (nF 0) V)) (by simp[gB,bW,b_,dV,gE,fo,F.kids])) (x:=dV (nF 0) V) (by simp[gB,bW,b_,dV,gE,fo,F.kids]));have GLU:=aa (di (di G2.out (x:=bW (dV U (nF 0))) (by simp[gB,bW,b_,dV,gE,fo,F.kids])) (x:=dV U (nF 0)) (by simp[gB,bW,b_,dV,gE,fo,F.kids]));have GLV:=aa (di (di G2.out (x:=bW (dV V (nF 0))) (by simp[gB,bW,b_,dV,gE,fo,F.kids])) (x:=dV V (nF 0)) (by simp[gB,bW,b_,dV,gE,fo,F.kids]));have GHX:=aa (di G1.out (x:=dV (nF 0) X) (by simp[gB,bW,b_,dV,gE,fo,F.kids]))
 have GLX:=aa (di G3.out (x:=dV X (nF 0)) (by simp[gB,bW,b_,dV,gE,fo,F.kids]));have HT:=aa (dz.refl B k w);clear h hm hx hu hv hg;go_enter Tryz.func129,Tryz.ntmps129;obtain⟨z1,kS,eS,Z_,NK,ZG,cr⟩:=aM w #[.pointer (some ⟨k,0,none⟩)] 112;obtain⟨z2,kf,ef,jK,bL,jc,aE⟩:=aM z1 #[.int .i64 ((i:Nat):Int)] 116;replace cr:=aa ((bL.out.block kS (ae cr.out)).trans cr.out);have Oc:=aa ((HS.out.below NK.out).below bL.out);have Me:=aa ((HT.out.trans (.aN NK.out)).trans (.aN bL.out));clear HS HT;go_upto_region 5 with fail;have lO:Hid (∀ i j,i<53->j<53->i≠j->(fun i=>i+17) i≠(fun i=>i+17) j):=aa (fun i j _ _ h e=>h (cQ e))
 have lE:Hid (∀ i,i<53->(fun i=>i+17) i<70):=aa (fun i h=>by show i+17<70;omega)
 refine kJ.region (by kernel_rfl) [[],[],[],[1,2],[],[],[1,2,3,4,5],[],[],[1,2,3,4,5,6,7,8],[0,1,2,3,4,5,6,7,8,9],[],[],[],[0,1,2,3,4,5,6,7,8,9,10,12,13],[],[],[0,1,2,3,4,5,6,7,8,9,10,12,13,14,15,16],[],[],[0,1,2,3,4,5,6,7,8,9,10,12,13,14,15,16,17,18,19],[0,1,2,3,4,5,6,7,8,9,10,11,12,13,14,15,16,17,18,19,20],[],[],[],[0,1,2,3,4,5,6,7,8,9,10,11,12,13,14,15,16,17,18,19,20,21,23,24],[],[],[0,1,2,3,4,5,6,7,8,9,10,11,12,13,14,15,16,17,18,19,20,21,23,24,25,26,27],[],[],[0,1,2,3,4,5,6,7,8,9,10,11,12,13,14,15,16,17,18,19,20,21,23,24,25,26,27,28,29,30],[0,1,2,3,4,5,6,7,8,9,10,11,12,13,14,15,16,17,18,19,20,21,22,23,24,25,26,27,28,29,30,31],[],[],[],[0,1,2,3,4,5,6,7,8,9,10,11,12,13,14,15,16,17,18,19,20,21,22,23,24,25,26,27,28,29,30,31,32,34,35],[],[],[0,1,2,3,4,5,6,7,8,9,10,11,12,13,14,15,16,17,18,19,20,21,22,23,24,25,26,27,28,29,30,31,32,34,35,36,37,38],[],[],[0,1,2,3,4,5,6,7,8,9,10,11,12,13,14,15,16,17,18,19,20,21,22,23,24,25,26,27,28,29,30,31,32,34,35,36,37,38,39,40,41],[0,1,2,3,4,5,6,7,8,9,10,11,12,13,14,15,16,17,18,19,20,21,22,23,24,25,26,27,28,29,30,31,32,33,34,35,36,37,38,39,40,41,42],[],[],[],[0,1,2,3,4,5,6,7,8,9,10,11,12,13,14,15,16,17,18,19,20,21,22,23,24,25,26,27,28,29,30,31,32,33,34,35,36,37,38,39,40,41,42,43,44,45,46],[],[],[],[0,1,2,3,4,5,6,7,8,9,10,11,12,13,14,15,16,17,18,19,20,21,22,23,24,25,26,27,28,29,30,31,32,33,34,35,36,37,38,39,40,41,42,43,44,45,46,47,48,49,50],[0,1,2,3,4,5,6,7,8,9,10,11,12,13,14,15,16,17,18,19,20,21,22,23,24,25,26,27,28,29,30,31,32,33,34,35,36,37,38,39,40,41,42,43,44,45,46,47,48,49,50,51],[0,1,2,3,4,5,6,7,8,9,10,11,12,13,14,15,16,17,18,19,20,21,22,23,24,25,26,27,28,29,30,31,32,33,34,35,36,37,38,39,40,41,42,43,44,45,46,47,48,49,50,51,52]] 53 (by kernel_rfl) (by kernel_rfl) (JX B k E L z2 s _ 53 (fun i=>i+17) (fun i=>[0,0,0,2,0,0,2,0,0,2,3,0,0,0,2,0,0,2,0,0,2,3,0,0,0,2,0,0,2,0,0,2,3,0,0,0,2,0,0,2,0,0,2,3,0,0,0,5,0,0,0,5,0].getD i 0) (EC B k E [.eqv (.func (.func 172) #[] #[.pointer (some ⟨kS,0,none⟩)]),.eqv (.func (.func 170) #[] #[.pointer (some ⟨kS,0,none⟩)]),.eqv (.int .i64 ((j:Nat):Int)),.lM (dV (nF 0) U),.eqv (.func (.func 170) #[] #[.pointer (some ⟨kS,0,none⟩)]),.eqv (.int .i64 ((l:Nat):Int)),.lM (dV (nF 0) V),.eqv (.func (.func 170) #[] #[.pointer (some ⟨kS,0,none⟩)]),.eqv (.int .i64 ((i:Nat):Int)),.lM (dV (nF 0) X),.lM (gB [bW (dV (nF 0) U),bW (dV (nF 0) V),dV (nF 0) X]),.eqv (.func (.func 172) #[] #[.pointer (some ⟨kS,0,none⟩)]),.eqv (.func (.func 171) #[] #[.pointer (some ⟨kS,0,none⟩)]),.eqv (.int .i64 ((j:Nat):Int)),.lM (dV U (nF 0)),.eqv (.func (.func 171) #[] #[.pointer (some ⟨kS,0,none⟩)]),.eqv (.int .i64 ((l:Nat):Int)),.lM (dV V (nF 0)),.eqv (.func (.func 170) #[] #[.pointer (some ⟨kS,0,none⟩)]),.eqv (.int .i64 ((i:Nat):Int)),.lM (dV (nF 0) X),.lM (gB [bW (dV U (nF 0)),bW (dV V (nF 0)),dV (nF 0) X]),.eqv (.func (.func 172) #[] #[.pointer (some ⟨kS,0,none⟩)]),.eqv (.func (.func 170) #[] #[.pointer (some ⟨kS,0,none⟩)]),.eqv (.int .i64 ((j:Nat):Int)),.lM (dV (nF 0) U),.eqv (.func (.func 171) #[] #[.pointer (some ⟨kS,0,none⟩)]),.eqv (.int .i64 ((l:Nat):Int)),.lM (dV V (nF 0)),.eqv (.func (.func 171) #[] #[.pointer (some ⟨kS,0,none⟩)]),.eqv (.int .i64 ((i:Nat):Int)),.lM (dV X (nF 0)),.lM (gB [bW (dV (nF 0) U),bW (dV V (nF 0)),dV X (nF 0)]),.eqv (.func (.func 172) #[] #[.pointer (some ⟨kS,0,none⟩)]),.eqv (.func (.func 171) #[] #[.pointer (some ⟨kS,0,none⟩)]),.eqv (.int .i64 ((j:Nat):Int)),.lM (dV U (nF 0)),.eqv (.func (.func 170) #[] #[.pointer (some ⟨kS,0,none⟩)]),.eqv (.int .i64 ((l:Nat):Int)),.lM (dV (nF 0) V),.eqv (.func (.func 171) #[] #[.pointer (some ⟨kS,0,none⟩)]),.eqv (.int .i64 ((i:Nat):Int)),.lM (dV X (nF 0)),.lM (gB [bW (dV U (nF 0)),bW (dV (nF 0) V),dV X (nF 0)]),.eqv (.func (.func 173) #[] #[.pointer (some ⟨kS,0,none⟩),.pointer (some ⟨kf,0,none⟩)]),.eqv (.int .i64 ((j:Nat):Int)),.eqv (.int .i64 ((l:Nat):Int)),.lM (gB [bW (b_ U (nF 1)),b_ X V]),.eqv (.func (.func 173) #[] #[.pointer (some ⟨kS,0,none⟩),.pointer (some ⟨kf,0,none⟩)]),.eqv (.int .i64 ((l:Nat):Int)),.eqv (.int .i64 ((j:Nat):Int)),.lM (gB [bW (b_ V (nF 1)),b_ X U]),.C0 [gB [bW (dV (nF 0) U),bW (dV (nF 0) V),dV (nF 0) X],gB [bW (dV U (nF 0)),bW (dV V (nF 0)),dV (nF 0) X],gB [bW (dV (nF 0) U),bW (dV V (nF 0)),dV X (nF 0)],gB [bW (dV U (nF 0)),bW (dV (nF 0) V),dV X (nF 0)],gB [bW (b_ U (nF 1)),b_ X V],gB [bW (b_ V (nF 1)),b_ X U]]])) (JF.start Oc.out) ?_ ?_
 ·rintro d T wc n9 o ⟨s9,hJ⟩ ho hi hd aH dO;have hstep:=fun (v:aq) (s8:List F) (w2:ag)=>hJ.step (v:=v) (s':=s8) (w':=w2) (mU (B:=B) (k:=k) (E:=E) _) lO.out (fun i hi=>az (lE.out i hi) (of_decide_eq_true rfl)) n9 hi hd
  have bh:=aa hJ.st;have cM:=aa (hJ.room n9 hi hd (N:=900000) (show s.length+46<=900000 from by have:=HM.out;omega));have m11:T[11]?=some (.func (.func 172) #[] #[.pointer (some ⟨kS,0,none⟩)]):=(hJ.kQ 11 (by decide)).trans (by rfl);have m9:T[9]?=some (.func (.func 170) #[] #[.pointer (some ⟨kS,0,none⟩)]):=(hJ.kQ 9 (by decide)).trans (by rfl);have m2:T[2]?=some (.int .i64 ((j:Nat):Int)):=(hJ.kQ 2 (by decide)).trans (by rfl);have m3:T[3]?=some (.int .i64 ((l:Nat):Int)):=(hJ.kQ 3 (by decide)).trans (by rfl);have m5:T[5]?=some (.pointer (some ⟨kf,0,none⟩)):=(hJ.kQ 5 (by decide)).trans (by rfl);have bx:=(hJ.be.block kf (ae aE.out) (NO.cells aE.out (by decide))).trans aE.out;have qf0:=af (v:=.int .i64 ((i:Nat):Int)) bx 0 rfl;clear bx
  have m10:T[10]?=some (.func (.func 171) #[] #[.pointer (some ⟨kS,0,none⟩)]):=(hJ.kQ 10 (by decide)).trans (by rfl);have m12:T[12]?=some (.func (.func 173) #[] #[.pointer (some ⟨kS,0,none⟩),.pointer (some ⟨kf,0,none⟩)]):=(hJ.kQ 12 (by decide)).trans (by rfl)
  obtain rfl | rfl | rfl | rfl | rfl | rfl | rfl | rfl | rfl | rfl | rfl | rfl | rfl | rfl | rfl | rfl | rfl | rfl | rfl | rfl | rfl | rfl | rfl | rfl | rfl | rfl | rfl | rfl | rfl | rfl | rfl | rfl | rfl | rfl | rfl | rfl | rfl | rfl | rfl | rfl | rfl | rfl | rfl | rfl | rfl | rfl | rfl | rfl | rfl | rfl | rfl | rfl | rfl:n9=0\/n9=1\/n9=2\/n9=3\/n9=4\/n9=5\/n9=6\/n9=7\/n9=8\/n9=9\/n9=10\/n9=11\/n9=12\/n9=13\/n9=14\/n9=15\/n9=16\/n9=17\/n9=18\/n9=19\/n9=20\/n9=21\/n9=22\/n9=23\/n9=24\/n9=25\/n9=26\/n9=27\/n9=28\/n9=29\/n9=30\/n9=31\/n9=32\/n9=33\/n9=34\/n9=35\/n9=36\/n9=37\/n9=38\/n9=39\/n9=40\/n9=41\/n9=42\/n9=43\/n9=44\/n9=45\/n9=46\/n9=47\/n9=48\/n9=49\/n9=50\/n9=51\/n9=52:=by omega
  all_goals (injection ho with ho)
  all_goals (subst ho)
  all_goals (try (clear hJ aH dO;refine⟨rfl,fun K9 hK=>?_⟩;have bO:=aa hstep;clear hstep;go_simp;exact hK.out _ _ (bO.out _ _ _ bh.out ((Ext.refl _).up (au _)) (dz.refl _ _ _) rfl)))
  ·have QI:=hJ.vE 1 18 rfl (by decide) (aH 1 (by rfl)) (fun _ h=>h);have Dh:=hJ.vE 2 19 rfl (by decide) (aH 2 (by rfl)) (fun _ h=>h);have c_:=aa hJ.ext;have lA:=(hJ.be.block kS (ae cr.out) (NO.cells cr.out (by decide))).trans cr.out;have pL:=(hJ.be.block kf (ae aE.out) (NO.cells aE.out (by decide))).trans aE.out;have qZ:=aa lA;clear lA pL;clear hJ aH dO;refine⟨rfl,fun K9 hK=>?_⟩;have bO:=aa hstep;clear hstep;go_simp;refine (vX wc bh.out cM.out j U (c_.out.get HU.out) GHU.out kS qZ.out).mono ?_;rintro e w8 ⟨i8,s8,rfl,p1,p2,p3,p4⟩;exact hK.out _ _ (bO.out _ _ _ p1 p2 p4 ⟨i8,rfl,p3⟩)
  ·have L_:=hJ.vE 4 21 rfl (by decide) (aH 4 (by rfl)) (fun _ h=>h);have L9:=hJ.vE 5 22 rfl (by decide) (aH 5 (by rfl)) (fun _ h=>h);have c_:=aa hJ.ext;have lA:=(hJ.be.block kS (ae cr.out) (NO.cells cr.out (by decide))).trans cr.out;have pL:=(hJ.be.block kf (ae aE.out) (NO.cells aE.out (by decide))).trans aE.out;have qZ:=aa lA;clear lA pL;clear hJ aH dO;refine⟨rfl,fun K9 hK=>?_⟩;have bO:=aa hstep;clear hstep;go_simp;refine (vX wc bh.out cM.out l V (c_.out.get HV.out) GHV.out kS qZ.out).mono ?_;rintro e w8 ⟨i8,s8,rfl,p1,p2,p3,p4⟩;exact hK.out _ _ (bO.out _ _ _ p1 p2 p4 ⟨i8,rfl,p3⟩)
  ·have I1:=hJ.vE 7 24 rfl (by decide) (aH 7 (by rfl)) (fun _ h=>h);have O0:=hJ.vE 8 25 rfl (by decide) (aH 8 (by rfl)) (fun _ h=>h);have c_:=aa hJ.ext;have lA:=(hJ.be.block kS (ae cr.out) (NO.cells cr.out (by decide))).trans cr.out;have pL:=(hJ.be.block kf (ae aE.out) (NO.cells aE.out (by decide))).trans aE.out;have qZ:=aa lA;clear lA pL;clear hJ aH dO;refine⟨rfl,fun K9 hK=>?_⟩;have bO:=aa hstep;clear hstep;go_simp;refine (vX wc bh.out cM.out i X (c_.out.get HX.out) GHX.out kS qZ.out).mono ?_;rintro e w8 ⟨i8,s8,rfl,p1,p2,p3,p4⟩;exact hK.out _ _ (bO.out _ _ _ p1 p2 p4 ⟨i8,rfl,p3⟩)
  ·have QJ:=hJ.vE 0 17 rfl (by decide) (aH 0 (by rfl)) (fun _ h=>h);obtain⟨i3,Lj,H3⟩:=hJ.vI 3 20 rfl (by decide) (aH 3 (by rfl)) (fun _ h=>h);obtain⟨i6,Li,H6⟩:=hJ.vI 6 23 rfl (by decide) (aH 6 (by rfl)) (fun _ h=>h);obtain⟨i9,Ua,H9⟩:=hJ.vI 9 26 rfl (by decide) (aH 9 (by rfl)) (fun _ h=>h);have lA:=(hJ.be.block kS (ae cr.out) (NO.cells cr.out (by decide))).trans cr.out;have pL:=(hJ.be.block kf (ae aE.out) (NO.cells aE.out (by decide))).trans aE.out;have qZ:=aa lA;clear lA pL;clear hJ aH dO;refine⟨rfl,fun K9 hK=>?_⟩;have bO:=aa hstep;clear hstep;go_simp;refine (B8 wc bh.out cM.out i3 i6 i9 _ _ _ H3.out H6.out H9.out G1.out kS qZ.out).mono ?_;rintro e w8 ⟨i8,s8,rfl,p1,p2,p3,p4⟩
   exact hK.out _ _ (bO.out _ _ _ p1 p2 p4 ⟨i8,rfl,p3⟩)
  ·have e29:=hJ.vE 12 29 rfl (by decide) (aH 12 (by rfl)) (fun _ h=>h);have X3:=hJ.vE 13 30 rfl (by decide) (aH 13 (by rfl)) (fun _ h=>h);have c_:=aa hJ.ext;have lA:=(hJ.be.block kS (ae cr.out) (NO.cells cr.out (by decide))).trans cr.out;have pL:=(hJ.be.block kf (ae aE.out) (NO.cells aE.out (by decide))).trans aE.out;have qZ:=aa lA;clear lA pL;clear hJ aH dO;refine⟨rfl,fun K9 hK=>?_⟩;have bO:=aa hstep;clear hstep;go_simp;refine (AW wc bh.out cM.out j U (c_.out.get HU.out) GLU.out kS qZ.out).mono ?_;rintro e w8 ⟨i8,s8,rfl,p1,p2,p3,p4⟩;exact hK.out _ _ (bO.out _ _ _ p1 p2 p4 ⟨i8,rfl,p3⟩)
  ·have VQ:=hJ.vE 15 32 rfl (by decide) (aH 15 (by rfl)) (fun _ h=>h);have e33:=hJ.vE 16 33 rfl (by decide) (aH 16 (by rfl)) (fun _ h=>h);have c_:=aa hJ.ext;have lA:=(hJ.be.block kS (ae cr.out) (NO.cells cr.out (by decide))).trans cr.out;have pL:=(hJ.be.block kf (ae aE.out) (NO.cells aE.out (by decide))).trans aE.out;have qZ:=aa lA;clear lA pL;clear hJ aH dO;refine⟨rfl,fun K9 hK=>?_⟩;have bO:=aa hstep;clear hstep;go_simp;refine (AW wc bh.out cM.out l V (c_.out.get HV.out) GLV.out kS qZ.out).mono ?_;rintro e w8 ⟨i8,s8,rfl,p1,p2,p3,p4⟩;exact hK.out _ _ (bO.out _ _ _ p1 p2 p4 ⟨i8,rfl,p3⟩)
  ·have e35:=hJ.vE 18 35 rfl (by decide) (aH 18 (by rfl)) (fun _ h=>h);have Gc:=hJ.vE 19 36 rfl (by decide) (aH 19 (by rfl)) (fun _ h=>h);have c_:=aa hJ.ext;have lA:=(hJ.be.block kS (ae cr.out) (NO.cells cr.out (by decide))).trans cr.out;have pL:=(hJ.be.block kf (ae aE.out) (NO.cells aE.out (by decide))).trans aE.out;have qZ:=aa lA;clear lA pL;clear hJ aH dO;refine⟨rfl,fun K9 hK=>?_⟩;have bO:=aa hstep;clear hstep;go_simp;refine (vX wc bh.out cM.out i X (c_.out.get HX.out) GHX.out kS qZ.out).mono ?_;rintro e w8 ⟨i8,s8,rfl,p1,p2,p3,p4⟩;exact hK.out _ _ (bO.out _ _ _ p1 p2 p4 ⟨i8,rfl,p3⟩)
  ·have X4:=hJ.vE 11 28 rfl (by decide) (aH 11 (by rfl)) (fun _ h=>h);obtain⟨i14,X0,Wh⟩:=hJ.vI 14 31 rfl (by decide) (aH 14 (by rfl)) (fun _ h=>h);obtain⟨i17,Z',Pg⟩:=hJ.vI 17 34 rfl (by decide) (aH 17 (by rfl)) (fun _ h=>h);obtain⟨i20,Dg,Vf⟩:=hJ.vI 20 37 rfl (by decide) (aH 20 (by rfl)) (fun _ h=>h);have lA:=(hJ.be.block kS (ae cr.out) (NO.cells cr.out (by decide))).trans cr.out;have pL:=(hJ.be.block kf (ae aE.out) (NO.cells aE.out (by decide))).trans aE.out;have qZ:=aa lA;clear lA pL;clear hJ aH dO;refine⟨rfl,fun K9 hK=>?_⟩;have bO:=aa hstep;clear hstep;go_simp;refine (B8 wc bh.out cM.out i14 i17 i20 _ _ _ Wh.out Pg.out Vf.out G2.out kS qZ.out).mono ?_;rintro e w8 ⟨i8,s8,rfl,p1,p2,p3,p4⟩
   exact hK.out _ _ (bO.out _ _ _ p1 p2 p4 ⟨i8,rfl,p3⟩)
  ·have Af:=hJ.vE 23 40 rfl (by decide) (aH 23 (by rfl)) (fun _ h=>h);have Cm:=hJ.vE 24 41 rfl (by decide) (aH 24 (by rfl)) (fun _ h=>h);have c_:=aa hJ.ext;have lA:=(hJ.be.block kS (ae cr.out) (NO.cells cr.out (by decide))).trans cr.out;have pL:=(hJ.be.block kf (ae aE.out) (NO.cells aE.out (by decide))).trans aE.out;have qZ:=aa lA;clear lA pL;clear hJ aH dO;refine⟨rfl,fun K9 hK=>?_⟩;have bO:=aa hstep;clear hstep;go_simp;refine (vX wc bh.out cM.out j U (c_.out.get HU.out) GHU.out kS qZ.out).mono ?_;rintro e w8 ⟨i8,s8,rfl,p1,p2,p3,p4⟩;exact hK.out _ _ (bO.out _ _ _ p1 p2 p4 ⟨i8,rfl,p3⟩)
  ·have tL:=hJ.vE 26 43 rfl (by decide) (aH 26 (by rfl)) (fun _ h=>h);have uw:=hJ.vE 27 44 rfl (by decide) (aH 27 (by rfl)) (fun _ h=>h);have c_:=aa hJ.ext;have lA:=(hJ.be.block kS (ae cr.out) (NO.cells cr.out (by decide))).trans cr.out;have pL:=(hJ.be.block kf (ae aE.out) (NO.cells aE.out (by decide))).trans aE.out;have qZ:=aa lA;clear lA pL;clear hJ aH dO;refine⟨rfl,fun K9 hK=>?_⟩;have bO:=aa hstep;clear hstep;go_simp;refine (AW wc bh.out cM.out l V (c_.out.get HV.out) GLV.out kS qZ.out).mono ?_;rintro e w8 ⟨i8,s8,rfl,p1,p2,p3,p4⟩;exact hK.out _ _ (bO.out _ _ _ p1 p2 p4 ⟨i8,rfl,p3⟩)
  ·have wA:=hJ.vE 29 46 rfl (by decide) (aH 29 (by rfl)) (fun _ h=>h);have xz:=hJ.vE 30 47 rfl (by decide) (aH 30 (by rfl)) (fun _ h=>h);have c_:=aa hJ.ext;have lA:=(hJ.be.block kS (ae cr.out) (NO.cells cr.out (by decide))).trans cr.out;have pL:=(hJ.be.block kf (ae aE.out) (NO.cells aE.out (by decide))).trans aE.out;have qZ:=aa lA;clear lA pL;clear hJ aH dO;refine⟨rfl,fun K9 hK=>?_⟩;have bO:=aa hstep;clear hstep;go_simp;refine (AW wc bh.out cM.out i X (c_.out.get HX.out) GLX.out kS qZ.out).mono ?_;rintro e w8 ⟨i8,s8,rfl,p1,p2,p3,p4⟩;exact hK.out _ _ (bO.out _ _ _ p1 p2 p4 ⟨i8,rfl,p3⟩)
  ·have Ba:=hJ.vE 22 39 rfl (by decide) (aH 22 (by rfl)) (fun _ h=>h);obtain⟨i25,Cl,H25⟩:=hJ.vI 25 42 rfl (by decide) (aH 25 (by rfl)) (fun _ h=>h);obtain⟨i28,xA,Ve⟩:=hJ.vI 28 45 rfl (by decide) (aH 28 (by rfl)) (fun _ h=>h);obtain⟨i31,Gb,Vd⟩:=hJ.vI 31 48 rfl (by decide) (aH 31 (by rfl)) (fun _ h=>h);have lA:=(hJ.be.block kS (ae cr.out) (NO.cells cr.out (by decide))).trans cr.out;have pL:=(hJ.be.block kf (ae aE.out) (NO.cells aE.out (by decide))).trans aE.out;have qZ:=aa lA;clear lA pL;clear hJ aH dO;refine⟨rfl,fun K9 hK=>?_⟩;have bO:=aa hstep;clear hstep;go_simp;refine (B8 wc bh.out cM.out i25 i28 i31 _ _ _ H25.out Ve.out Vd.out G3.out kS qZ.out).mono ?_;rintro e w8 ⟨i8,s8,rfl,p1,p2,p3,p4⟩
   exact hK.out _ _ (bO.out _ _ _ p1 p2 p4 ⟨i8,rfl,p3⟩)
  ·have F_:=hJ.vE 34 51 rfl (by decide) (aH 34 (by rfl)) (fun _ h=>h);have F7:=hJ.vE 35 52 rfl (by decide) (aH 35 (by rfl)) (fun _ h=>h);have c_:=aa hJ.ext;have lA:=(hJ.be.block kS (ae cr.out) (NO.cells cr.out (by decide))).trans cr.out;have pL:=(hJ.be.block kf (ae aE.out) (NO.cells aE.out (by decide))).trans aE.out;have qZ:=aa lA;clear lA pL;clear hJ aH dO;refine⟨rfl,fun K9 hK=>?_⟩;have bO:=aa hstep;clear hstep;go_simp;refine (AW wc bh.out cM.out j U (c_.out.get HU.out) GLU.out kS qZ.out).mono ?_;rintro e w8 ⟨i8,s8,rfl,p1,p2,p3,p4⟩;exact hK.out _ _ (bO.out _ _ _ p1 p2 p4 ⟨i8,rfl,p3⟩)
  ·have e54:=hJ.vE 37 54 rfl (by decide) (aH 37 (by rfl)) (fun _ h=>h);have e55:=hJ.vE 38 55 rfl (by decide) (aH 38 (by rfl)) (fun _ h=>h);have c_:=aa hJ.ext;have lA:=(hJ.be.block kS (ae cr.out) (NO.cells cr.out (by decide))).trans cr.out;have pL:=(hJ.be.block kf (ae aE.out) (NO.cells aE.out (by decide))).trans aE.out;have qZ:=aa lA;clear lA pL;clear hJ aH dO;refine⟨rfl,fun K9 hK=>?_⟩;have bO:=aa hstep;clear hstep;go_simp;refine (vX wc bh.out cM.out l V (c_.out.get HV.out) GHV.out kS qZ.out).mono ?_;rintro e w8 ⟨i8,s8,rfl,p1,p2,p3,p4⟩;exact hK.out _ _ (bO.out _ _ _ p1 p2 p4 ⟨i8,rfl,p3⟩)
  ·have e57:=hJ.vE 40 57 rfl (by decide) (aH 40 (by rfl)) (fun _ h=>h);have e58:=hJ.vE 41 58 rfl (by decide) (aH 41 (by rfl)) (fun _ h=>h);have c_:=aa hJ.ext;have lA:=(hJ.be.block kS (ae cr.out) (NO.cells cr.out (by decide))).trans cr.out;have pL:=(hJ.be.block kf (ae aE.out) (NO.cells aE.out (by decide))).trans aE.out;have qZ:=aa lA;clear lA pL;clear hJ aH dO;refine⟨rfl,fun K9 hK=>?_⟩;have bO:=aa hstep;clear hstep;go_simp;refine (AW wc bh.out cM.out i X (c_.out.get HX.out) GLX.out kS qZ.out).mono ?_;rintro e w8 ⟨i8,s8,rfl,p1,p2,p3,p4⟩;exact hK.out _ _ (bO.out _ _ _ p1 p2 p4 ⟨i8,rfl,p3⟩)
  ·have Ga:=hJ.vE 33 50 rfl (by decide) (aH 33 (by rfl)) (fun _ h=>h);obtain⟨i36,Is,H36⟩:=hJ.vI 36 53 rfl (by decide) (aH 36 (by rfl)) (fun _ h=>h);obtain⟨i39,e56,H39⟩:=hJ.vI 39 56 rfl (by decide) (aH 39 (by rfl)) (fun _ h=>h);obtain⟨i42,e59,H42⟩:=hJ.vI 42 59 rfl (by decide) (aH 42 (by rfl)) (fun _ h=>h);have lA:=(hJ.be.block kS (ae cr.out) (NO.cells cr.out (by decide))).trans cr.out;have pL:=(hJ.be.block kf (ae aE.out) (NO.cells aE.out (by decide))).trans aE.out;have qZ:=aa lA;clear lA pL;clear hJ aH dO;refine⟨rfl,fun K9 hK=>?_⟩;have bO:=aa hstep;clear hstep;go_simp;refine (B8 wc bh.out cM.out i36 i39 i42 _ _ _ H36.out H39.out H42.out G4.out kS qZ.out).mono ?_;rintro e w8 ⟨i8,s8,rfl,p1,p2,p3,p4⟩
   exact hK.out _ _ (bO.out _ _ _ p1 p2 p4 ⟨i8,rfl,p3⟩)
  ·have e61:=hJ.vE 44 61 rfl (by decide) (aH 44 (by rfl)) (fun _ h=>h);have e62:=hJ.vE 45 62 rfl (by decide) (aH 45 (by rfl)) (fun _ h=>h);have e63:=hJ.vE 46 63 rfl (by decide) (aH 46 (by rfl)) (fun _ h=>h);have c_:=aa hJ.ext;have lA:=(hJ.be.block kS (ae cr.out) (NO.cells cr.out (by decide))).trans cr.out;have pL:=(hJ.be.block kf (ae aE.out) (NO.cells aE.out (by decide))).trans aE.out;have qZ:=aa lA;have IJ:=aa pL;clear lA pL;clear hJ aH dO;refine⟨rfl,fun K9 hK=>?_⟩;have bO:=aa hstep;clear hstep;go_simp;refine (Oz wc bh.out cM.out j l i _ _ _ (c_.out.get HU.out) (c_.out.get HV.out) (c_.out.get HX.out) G5.out kS kf qZ.out IJ.out).mono ?_;rintro e w8 ⟨i8,s8,rfl,p1,p2,p3,p4⟩
   exact hK.out _ _ (bO.out _ _ _ p1 p2 p4 ⟨i8,rfl,p3⟩)
  ·have e65:=hJ.vE 48 65 rfl (by decide) (aH 48 (by rfl)) (fun _ h=>h);have e66:=hJ.vE 49 66 rfl (by decide) (aH 49 (by rfl)) (fun _ h=>h);have e67:=hJ.vE 50 67 rfl (by decide) (aH 50 (by rfl)) (fun _ h=>h);have c_:=aa hJ.ext;have lA:=(hJ.be.block kS (ae cr.out) (NO.cells cr.out (by decide))).trans cr.out;have pL:=(hJ.be.block kf (ae aE.out) (NO.cells aE.out (by decide))).trans aE.out;have qZ:=aa lA;have IJ:=aa pL;clear lA pL;clear hJ aH dO;refine⟨rfl,fun K9 hK=>?_⟩;have bO:=aa hstep;clear hstep;go_simp;refine (Oz wc bh.out cM.out l j i _ _ _ (c_.out.get HV.out) (c_.out.get HU.out) (c_.out.get HX.out) G6.out kS kf qZ.out IJ.out).mono ?_;rintro e w8 ⟨i8,s8,rfl,p1,p2,p3,p4⟩
   exact hK.out _ _ (bO.out _ _ _ p1 p2 p4 ⟨i8,rfl,p3⟩)
  obtain⟨i10,T_,Vg⟩:=hJ.vI 10 27 rfl (by decide) (aH 10 (by rfl)) (fun _ h=>h);obtain⟨i21,Df,H21⟩:=hJ.vI 21 38 rfl (by decide) (aH 21 (by rfl)) (fun _ h=>h);obtain⟨i32,De,Vc⟩:=hJ.vI 32 49 rfl (by decide) (aH 32 (by rfl)) (fun _ h=>h);obtain⟨i43,e60,H43⟩:=hJ.vI 43 60 rfl (by decide) (aH 43 (by rfl)) (fun _ h=>h);obtain⟨i47,e64,H47⟩:=hJ.vI 47 64 rfl (by decide) (aH 47 (by rfl)) (fun _ h=>h);obtain⟨i51,e68,H51⟩:=hJ.vI 51 68 rfl (by decide) (aH 51 (by rfl)) (fun _ h=>h);clear hJ aH dO;refine⟨rfl,fun K9 hK=>?_⟩;have bO:=aa hstep;clear hstep;go_simp
  have hal:aA wc.heap.size wc (wc.alloc _):=(ax _ _).alloc (ai _) (.cells #[.int .i64 ((i10:Nat):Int),.int .i64 ((i21:Nat):Int),.int .i64 ((i32:Nat):Int),.int .i64 ((i43:Nat):Int),.int .i64 ((i47:Nat):Int),.int .i64 ((i51:Nat):Int)] 116)
  exact hK.out _ _ (bO.out _ _ _ (bh.out.below hal) ((Ext.refl _).up (au _)) (.aN hal) ⟨[i10,i21,i32,i43,i47,i51],IL.block (l:=[i10,i21,i32,i43,i47,i51]) (cs:=[.int .i64 ((i10:Nat):Int),.int .i64 ((i21:Nat):Int),.int .i64 ((i32:Nat):Int),.int .i64 ((i43:Nat):Int),.int .i64 ((i47:Nat):Int),.int .i64 ((i51:Nat):Int)]) (show (wc.alloc (.cells #[.int .i64 ((i10:Nat):Int),.int .i64 ((i21:Nat):Int),.int .i64 ((i32:Nat):Int),.int .i64 ((i43:Nat):Int),.int .i64 ((i47:Nat):Int),.int .i64 ((i51:Nat):Int)] 116)).heap[wc.heap.size]?=some (.cells [.int .i64 ((i10:Nat):Int),.int .i64 ((i21:Nat):Int),.int .i64 ((i32:Nat):Int),.int .i64 ((i43:Nat):Int),.int .i64 ((i47:Nat):Int),.int .i64 ((i51:Nat):Int)].toArray 116 (0,0)) from bT wc _) (by decide) (bh.out.fresh (ai _)) (by show 6<=bI;decide) rfl,by simp only[aO,bM,Vg.out,H21.out,Vc.out,H43.out,H47.out,H51.out]⟩)
 rintro T wt ⟨s9,hJ⟩;have a0:=hJ.vE 0 17 rfl (by decide) rfl (fun _ h=>h);have a1:=hJ.vE 1 18 rfl (by decide) rfl (fun _ h=>h);have a2:=hJ.vE 2 19 rfl (by decide) rfl (fun _ h=>h);obtain⟨i3,a3,H3⟩:=hJ.vI 3 20 rfl (by decide) rfl (fun _ h=>h);have a4:=hJ.vE 4 21 rfl (by decide) rfl (fun _ h=>h);have a5:=hJ.vE 5 22 rfl (by decide) rfl (fun _ h=>h);obtain⟨i6,a6,H6⟩:=hJ.vI 6 23 rfl (by decide) rfl (fun _ h=>h);have a7:=hJ.vE 7 24 rfl (by decide) rfl (fun _ h=>h);have a8:=hJ.vE 8 25 rfl (by decide) rfl (fun _ h=>h);obtain⟨i9,a9,H9⟩:=hJ.vI 9 26 rfl (by decide) rfl (fun _ h=>h);obtain⟨i10,Dw,Vg⟩:=hJ.vI 10 27 rfl (by decide) rfl (fun _ h=>h);have Dv:=hJ.vE 11 28 rfl (by decide) rfl (fun _ h=>h);have a12:=hJ.vE 12 29 rfl (by decide) rfl (fun _ h=>h)
 have Du:=hJ.vE 13 30 rfl (by decide) rfl (fun _ h=>h);obtain⟨i14,Lz,Wh⟩:=hJ.vI 14 31 rfl (by decide) rfl (fun _ h=>h);have O':=hJ.vE 15 32 rfl (by decide) rfl (fun _ h=>h);have O_:=hJ.vE 16 33 rfl (by decide) rfl (fun _ h=>h);obtain⟨i17,O9,Pg⟩:=hJ.vI 17 34 rfl (by decide) rfl (fun _ h=>h);have O8:=hJ.vE 18 35 rfl (by decide) rfl (fun _ h=>h);have O7:=hJ.vE 19 36 rfl (by decide) rfl (fun _ h=>h);obtain⟨i20,a20,Vf⟩:=hJ.vI 20 37 rfl (by decide) rfl (fun _ h=>h);obtain⟨i21,a21,H21⟩:=hJ.vI 21 38 rfl (by decide) rfl (fun _ h=>h);have a22:=hJ.vE 22 39 rfl (by decide) rfl (fun _ h=>h);have Uq:=hJ.vE 23 40 rfl (by decide) rfl (fun _ h=>h);have a24:=hJ.vE 24 41 rfl (by decide) rfl (fun _ h=>h);obtain⟨i25,Up,H25⟩:=hJ.vI 25 42 rfl (by decide) rfl (fun _ h=>h)
 have Uo:=hJ.vE 26 43 rfl (by decide) rfl (fun _ h=>h);have Un:=hJ.vE 27 44 rfl (by decide) rfl (fun _ h=>h);obtain⟨i28,a28,Ve⟩:=hJ.vI 28 45 rfl (by decide) rfl (fun _ h=>h);have Um:=hJ.vE 29 46 rfl (by decide) rfl (fun _ h=>h);have Ul:=hJ.vE 30 47 rfl (by decide) rfl (fun _ h=>h);obtain⟨i31,a31,Vd⟩:=hJ.vI 31 48 rfl (by decide) rfl (fun _ h=>h);obtain⟨i32,a32,Vc⟩:=hJ.vI 32 49 rfl (by decide) rfl (fun _ h=>h);have Uk:=hJ.vE 33 50 rfl (by decide) rfl (fun _ h=>h);have Uj:=hJ.vE 34 51 rfl (by decide) rfl (fun _ h=>h);have a35:=hJ.vE 35 52 rfl (by decide) rfl (fun _ h=>h);obtain⟨i36,a36,H36⟩:=hJ.vI 36 53 rfl (by decide) rfl (fun _ h=>h);have a37:=hJ.vE 37 54 rfl (by decide) rfl (fun _ h=>h);have a38:=hJ.vE 38 55 rfl (by decide) rfl (fun _ h=>h)
 obtain⟨i39,a39,H39⟩:=hJ.vI 39 56 rfl (by decide) rfl (fun _ h=>h);have a40:=hJ.vE 40 57 rfl (by decide) rfl (fun _ h=>h);have a41:=hJ.vE 41 58 rfl (by decide) rfl (fun _ h=>h);obtain⟨i42,a42,H42⟩:=hJ.vI 42 59 rfl (by decide) rfl (fun _ h=>h);obtain⟨i43,a43,H43⟩:=hJ.vI 43 60 rfl (by decide) rfl (fun _ h=>h);have a44:=hJ.vE 44 61 rfl (by decide) rfl (fun _ h=>h);have a45:=hJ.vE 45 62 rfl (by decide) rfl (fun _ h=>h);have a46:=hJ.vE 46 63 rfl (by decide) rfl (fun _ h=>h);obtain⟨i47,a47,H47⟩:=hJ.vI 47 64 rfl (by decide) rfl (fun _ h=>h);have a48:=hJ.vE 48 65 rfl (by decide) rfl (fun _ h=>h);have a49:=hJ.vE 49 66 rfl (by decide) rfl (fun _ h=>h);have a50:=hJ.vE 50 67 rfl (by decide) rfl (fun _ h=>h);obtain⟨i51,a51,H51⟩:=hJ.vI 51 68 rfl (by decide) rfl (fun _ h=>h)
 obtain⟨v52,a52,f52⟩:=hJ.val 52 (by decide) rfl;obtain⟨l52,TP,Z0⟩:=(show uC B k E v52 [gB [bW (dV (nF 0) U),bW (dV (nF 0) V),dV (nF 0) X],gB [bW (dV U (nF 0)),bW (dV V (nF 0)),dV (nF 0) X],gB [bW (dV (nF 0) U),bW (dV V (nF 0)),dV X (nF 0)],gB [bW (dV U (nF 0)),bW (dV (nF 0) V),dV X (nF 0)],gB [bW (b_ U (nF 1)),b_ X V],gB [bW (b_ V (nF 1)),b_ X U]] s9 wt from f52);have A52:=aa TP;have H52:=aa Z0;clear f52 TP Z0
 have hfr:=hJ.fin (fun i hi=>az (lE.out i hi) (of_decide_eq_true rfl)) rfl (.cons a0 (.cons a1 (.cons a2 (.cons a3 (.cons a4 (.cons a5 (.cons a6 (.cons a7 (.cons a8 (.cons a9 (.cons Dw (.cons Dv (.cons a12 (.cons Du (.cons Lz (.cons O' (.cons O_ (.cons O9 (.cons O8 (.cons O7 (.cons a20 (.cons a21 (.cons a22 (.cons Uq (.cons a24 (.cons Up (.cons Uo (.cons Un (.cons a28 (.cons Um (.cons Ul (.cons a31 (.cons a32 (.cons Uk (.cons Uj (.cons a35 (.cons a36 (.cons a37 (.cons a38 (.cons a39 (.cons a40 (.cons a41 (.cons a42 (.cons a43 (.cons a44 (.cons a45 (.cons a46 (.cons a47 (.cons a48 (.cons a49 (.cons a50 (.cons a51 (.cons a52 .nil)))))))))))))))))))))))))))))))))))))))))))))))))))));have bh:=aa hJ.st;have iT:Hid (Ext s s9 46):=aa hJ.ext;have jL:=aa hJ.be
 clear hJ lO lE a0 a1 a2 a3 a4 a5 a6 a7 a8 a9 Dw Dv a12 Du Lz O' O_ O9 O8 O7 a20 a21 a22 Uq a24 Up Uo Un a28 Um Ul a31 a32 Uk Uj a35 a36 a37 a38 a39 a40 a41 a42 a43 a44 a45 a46 a47 a48 a49 a50 a51 a52;rw[hfr];clear hfr;simp only[l_,fH,aY,bS,bD];simp only[cL,cx];go_wp2_with fail;go_ret;exact⟨_,s9,rfl,⟨l52,A52.out,H52.out⟩,bh.out,iT.out,Me.out.trans jL.out⟩
attribute [local go_sem] eF eE eC eB
theorem IL.as {B k:Nat} {E:Nat->Prop} {w:ag} {v:aq} {l l':List Nat} (h:IL B k E w v l) (e:l=l'):IL B k E w v l':=by
 subst e;exact h
theorem WB {n k:Nat} (h:n<aG ^ 4) (hk:k=600):n<aG ^ k:=eT h (by omega)
theorem WG {s:List F} {ids:List Nat} {x:F} (h:ids.map (fun i=>s[i]?)=[x].map some):ids.length<=900000:=by
 rw[<-de h];show 1<=900000;decide
theorem MS {B k:Nat} {E:Nat->Prop} {L s:List F} (w:ag) (h:St B k E L s w) (hm:s.length+5<=900000) (i j:Nat) (X A:F) (hx:s[i]?=some X) (ha:s[j]?=some A) (K:Int) (b:Bool) (ao:Option Addr) (l c:Nat) (hk:CI w (.agg #[.bool b,.slice ao l c]) K 600) (hg:∀ t ∈ [dV (Aa K X) A,dV A (gE (Aa K X) (nF (K - 1)))],Gd t) :
  aW aj 128 #[.pointer (some ⟨k,0,none⟩),.int .i64 ((i:Nat):Int),.int .i64 ((j:Nat):Int),.agg #[.bool b,.slice ao l c]] w (vp B k E L s [dV (Aa K X) A,dV A (gE (Aa K X) (nF (K - 1)))] 5 w):=by
 have HS:=aa h;have HM:=aa hm;have HX:=aa hx;have HA:=aa ha;have HK:=aa hk;have G1:=aa (hg (dV (Aa K X) A) (by simp));have G2:=aa (hg (dV A (gE (Aa K X) (nF (K - 1)))) (by simp));have G3:=aa (di G2.out (x:=gE (Aa K X) (nF (K - 1))) (by simp[Aa,dV,gE,fo,F.kids]));have G4:=aa (di G1.out (x:=Aa K X) (by simp[Aa,dV,gE,fo,F.kids]));have G5:=aa (di G3.out (x:=nF (K - 1)) (by simp[Aa,dV,gE,fo,F.kids]));have Vb:=aa (WB (k:=600) (n:=(K - 1).natAbs) G5.out.2.2.1 rfl);clear h hm hx ha hk hg;go_enter Tryz.func128,Tryz.ntmps128;obtain⟨z1,kS,eS,Z_,NK,ZG,cr⟩:=aM w #[.bool b,.slice ao l c] 26;have pY:=aa (HS.out.below NK.out);have pX:=aa (dz.aN (B:=B) (k:=k) NK.out)
 have Wb:=aa (HK.out.below NK.out);clear HS HK;go_upto_region 1 with fail;have lO:Hid (∀ i j,i<10->j<10->i≠j->(fun i=>i+11) i≠(fun i=>i+11) j):=aa (fun i j _ _ h e=>h (cQ e));have lE:Hid (∀ i,i<10->(fun i=>i+11) i<21):=aa (fun i h=>by show i+11<21;omega);refine kJ.region (by kernel_rfl) [[],[],[],[],[3],[2,3,4],[1,2,3,4,5],[],[7],[0,1,2,3,4,5,6,7,8],[0,1,2,3,4,5,6,7,8,9]] 10 (by kernel_rfl) (by kernel_rfl) (JX B k E L z1 s _ 10 (fun i=>i+11) (fun i=>[0,0,0,0,0,0,0,0,0,1].getD i 0) (EC B k E [.eqv (.pointer (some ⟨k,0,none⟩)),.eqv (.agg #[.bool b,.slice ao l c]),.eqv (.pointer (some ⟨k,0,none⟩)),.eqv (.int .i64 ((i:Nat):Int)),.C0 [X],.fl [X],.fc (Aa K X),.eqv (.int .i64 ((i:Nat):Int)),.C0 [X],.lM (Aa K X)])) (JF.start pY.out) ?_ ?_
 ·rintro d T wc n9 o ⟨s6,hJ⟩ ho hi hd aH dO;have hstep:=fun (v:aq) (s8:List F) (w2:ag)=>hJ.step (v:=v) (s':=s8) (w':=w2) (mU (B:=B) (k:=k) (E:=E) _) lO.out (fun i hi=>az (lE.out i hi) (of_decide_eq_true rfl)) n9 hi hd
  have bh:=aa hJ.st;have cM:=aa (hJ.room n9 hi hd (N:=900000) (show s.length+1<=900000 from by have:=HM.out;omega));have m0:T[0]?=some (.pointer (some ⟨k,0,none⟩)):=(hJ.kQ 0 (by decide)).trans (by rfl);have m1:T[1]?=some (.int .i64 ((i:Nat):Int)):=(hJ.kQ 1 (by decide)).trans (by rfl);obtain rfl | rfl | rfl | rfl | rfl | rfl | rfl | rfl | rfl | rfl:n9=0\/n9=1\/n9=2\/n9=3\/n9=4\/n9=5\/n9=6\/n9=7\/n9=8\/n9=9:=by omega
  all_goals (injection ho with ho)
  all_goals (subst ho)
  all_goals (try (clear hJ aH dO;refine⟨rfl,fun K9 hK=>?_⟩;have bO:=aa hstep;clear hstep;go_simp;exact hK.out _ _ (bO.out _ _ _ bh.out ((Ext.refl _).up (au _)) (dz.refl _ _ _) rfl)))
  ·have kV:=aa hJ.be;have es:T[7]?=some (.pointer (some ⟨kS,0,none⟩)):=(hJ.kQ 7 (by decide)).trans (by rfl);have bx:=(kV.out.block kS (ae cr.out) (NO.cells cr.out (by decide))).trans cr.out;have q0:=af (v:=.bool b) bx 0 rfl;have q1:=af (v:=.slice ao l c) bx 1 rfl;clear bx;clear hJ aH dO;refine⟨rfl,fun K9 hK=>?_⟩;have bO:=aa hstep;clear hstep;go_simp;exact hK.out _ _ (bO.out _ _ _ bh.out ((Ext.refl _).up (au _)) (dz.refl _ _ _) rfl)
  ·have X7:=hJ.vE 3 14 rfl (by decide) (aH 3 (by rfl)) (fun _ h=>h);have c_:=aa hJ.ext;clear hJ aH dO;refine⟨rfl,fun K9 hK=>?_⟩;have bO:=aa hstep;clear hstep;go_simp;have hal:aA wc.heap.size wc (wc.alloc _):=(ax _ _).alloc (ai _) (.cells #[.int .i64 ((i:Nat):Int)] 116);exact hK.out _ _ (bO.out _ _ _ (bh.out.below hal) ((Ext.refl _).up (au _)) (.aN hal) ⟨[i],IL.block (l:=[i]) (cs:=[.int .i64 ((i:Nat):Int)]) (show (wc.alloc (.cells #[.int .i64 ((i:Nat):Int)] 116)).heap[wc.heap.size]?=some (.cells [.int .i64 ((i:Nat):Int)].toArray 116 (0,0)) from bT wc _) (by decide) (bh.out.fresh (ai _)) (by show 1<=bI;decide) rfl,by simp only[aO,bM,c_.out.get HX.out]⟩)
  ·have X8:=hJ.vE 2 13 rfl (by decide) (aH 2 (by rfl)) (fun _ h=>h);obtain⟨v4,RK,f4⟩:=hJ.val 4 (by decide) (aH 4 (by rfl));obtain⟨l4,QD,h4⟩:=(show uC B k E v4 [X] s6 wc from f4);obtain⟨q4o,q4c,g4,-⟩:=id QD;rw[g4] at RK QD;replace RK:T[15]?=_:=RK;have A4:=aa QD;have H4:=aa h4;clear f4 QD h4 g4;clear hJ aH dO;refine⟨rfl,fun K9 hK=>?_⟩;have bO:=aa hstep;clear hstep;go_simp;refine (zA wc bh.out _ l4 A4.out [X] H4.out (WG H4.out)).mono ?_;rintro e w8 ⟨v8,rfl,p1,p2⟩;exact hK.out _ _ (bO.out _ _ _ (bh.out.below p2) ((Ext.refl _).up (au _)) (.aN p2) p1)
  ·have e12:=hJ.vE 1 12 rfl (by decide) (aH 1 (by rfl)) (fun _ h=>h);obtain⟨v5,O1,f5⟩:=hJ.val 5 (by decide) (aH 5 (by rfl));replace f5:FL wc (NS B k E wc) 9 v5 [X]:=f5;obtain⟨o5,l5,c5,g5⟩:=FL.ug f5;subst g5;replace O1:T[16]?=_:=O1;have H5:=aa f5;clear f5;have kV:=aa hJ.be;clear hJ aH dO;refine⟨rfl,fun K9 hK=>?_⟩;have bO:=aa hstep;clear hstep;go_simp;exact hK.out _ _ (bO.out _ _ _ bh.out ((Ext.refl _).up (au _)) (dz.refl _ _ _) (FC.mk (op:=3) (nm:=⟨#[]⟩) ⟨by decide,by decide⟩ (CI.kn Wb.out kV.out.kn) H5.out))
  ·have QI:=hJ.vE 7 18 rfl (by decide) (aH 7 (by rfl)) (fun _ h=>h);have c_:=aa hJ.ext;clear hJ aH dO;refine⟨rfl,fun K9 hK=>?_⟩;have bO:=aa hstep;clear hstep;go_simp;have hal:aA wc.heap.size wc (wc.alloc _):=(ax _ _).alloc (ai _) (.cells #[.int .i64 ((i:Nat):Int)] 116);exact hK.out _ _ (bO.out _ _ _ (bh.out.below hal) ((Ext.refl _).up (au _)) (.aN hal) ⟨[i],IL.block (l:=[i]) (cs:=[.int .i64 ((i:Nat):Int)]) (show (wc.alloc (.cells #[.int .i64 ((i:Nat):Int)] 116)).heap[wc.heap.size]?=some (.cells [.int .i64 ((i:Nat):Int)].toArray 116 (0,0)) from bT wc _) (by decide) (bh.out.fresh (ai _)) (by show 1<=bI;decide) rfl,by simp only[aO,bM,c_.out.get HX.out]⟩)
  have Ll:=hJ.vE 0 11 rfl (by decide) (aH 0 (by rfl)) (fun _ h=>h);obtain⟨v6,QJ,f6⟩:=hJ.val 6 (by decide) (aH 6 (by rfl));replace f6:FC wc (NS B k E wc) 10 v6 (Aa K X):=f6;obtain⟨a6,g6⟩:=FC.ug f6;subst g6;replace QJ:T[17]?=_:=QJ;have H6:=aa f6;clear f6;obtain⟨v8,Dh,f8⟩:=hJ.val 8 (by decide) (aH 8 (by rfl));obtain⟨l8,EH,h8⟩:=(show uC B k E v8 [X] s6 wc from f8);obtain⟨q8o,q8c,g8,-⟩:=id EH;rw[g8] at Dh EH;replace Dh:T[19]?=_:=Dh;have A8:=aa EH;have H8:=aa h8;clear f8 EH h8 g8;clear hJ aH dO;refine⟨rfl,fun K9 hK=>?_⟩;have bO:=aa hstep;clear hstep;go_simp;refine (yQ wc bh.out cM.out 10 _ _ H6.out G4.out _ (IL.as A8.out (xW (St.nd bh.out) l8 [X] H8.out)) (xV l8 [X] H8.out)).mono ?_;rintro e w8 ⟨i8,s8,rfl,p1,p2,p3,p4⟩
  exact hK.out _ _ (bO.out _ _ _ p1 p2 p4 ⟨i8,rfl,p3⟩)
 rintro T w6 ⟨s6,hJ⟩;have a0:=hJ.vE 0 11 rfl (by decide) rfl (fun _ h=>h);have a1:=hJ.vE 1 12 rfl (by decide) rfl (fun _ h=>h);have a2:=hJ.vE 2 13 rfl (by decide) rfl (fun _ h=>h);have a3:=hJ.vE 3 14 rfl (by decide) rfl (fun _ h=>h);obtain⟨v4,a4,f4⟩:=hJ.val 4 (by decide) rfl;obtain⟨l4,QD,h4⟩:=(show uC B k E v4 [X] s6 w6 from f4);have A4:=aa QD;have H4:=aa h4;clear f4 QD h4;obtain⟨v5,a5,f5⟩:=hJ.val 5 (by decide) rfl;clear f5;obtain⟨v6,a6,f6⟩:=hJ.val 6 (by decide) rfl;clear f6;have a7:=hJ.vE 7 18 rfl (by decide) rfl (fun _ h=>h);obtain⟨v8,a8,f8⟩:=hJ.val 8 (by decide) rfl;obtain⟨l8,EH,h8⟩:=(show uC B k E v8 [X] s6 w6 from f8);have A8:=aa EH;clear f8 EH h8;obtain⟨i9,a9,H9⟩:=hJ.vI 9 20 rfl (by decide) rfl (fun _ h=>h)
 have hfr:=hJ.fin (fun i hi=>az (lE.out i hi) (of_decide_eq_true rfl)) rfl (.cons a0 (.cons a1 (.cons a2 (.cons a3 (.cons a4 (.cons a5 (.cons a6 (.cons a7 (.cons a8 (.cons a9 .nil))))))))));have bh:=aa hJ.st;have iT:Hid (Ext s s6 1):=aa hJ.ext;have jL:=aa hJ.be;clear hJ lO lE a0 a1 a2 a3 a4 a5 a6 a7 a8 a9;rw[hfr];clear hfr;simp only[l_,fH,aY,bS,bD];simp only[cL,cx];have Oc:=aa bh.out;have Om:=aa iT.out;have HP:=aa H9.out;have Me:=aa (pX.out.trans jL.out);have LG:=aa (CI.kn Wb.out jL.out.kn);replace cr:=aa ((jL.out.block kS (ae cr.out) (NO.cells cr.out (by decide))).trans cr.out)
 have RO:Hid (s6.length+4<=900000):=aa (by have:=HM.out;have:=Om.out.len;omega);clear pY pX Wb bh iT jL H9;go_upto_region 2 with fail;have lO:Hid (∀ i j,i<6->j<6->i≠j->(fun i=>i+21) i≠(fun i=>i+21) j):=aa (fun i j _ _ h e=>h (cQ e));have lE:Hid (∀ i,i<6->(fun i=>i+21) i<27):=aa (fun i h=>by show i+21<27;omega);refine kJ.region (by kernel_rfl) [[],[],[],[1,2],[1,2,3],[0,1,2,3,4],[0,1,2,3,4,5]] 6 (by kernel_rfl) (by kernel_rfl) (JX B k E L w6 s6 _ 6 (fun i=>i+21) (fun i=>[0,0,0,0,0,1].getD i 0) (EC B k E [.eqv (.pointer (some ⟨k,0,none⟩)),.eqv (.agg #[.bool b,.slice ao l c]),.ci (1) 2,.ci (K - 1) 603,.fc (nF (K - 1)),.lM (nF (K - 1))])) (JF.start Oc.out) ?_ ?_
 ·rintro d T wc n9 o ⟨s9,hJ⟩ ho hi hd aH dO;have hstep:=fun (v:aq) (s8:List F) (w2:ag)=>hJ.step (v:=v) (s':=s8) (w':=w2) (mU (B:=B) (k:=k) (E:=E) _) lO.out (fun i hi=>az (lE.out i hi) (of_decide_eq_true rfl)) n9 hi hd
  have bh:=aa hJ.st;have cM:=aa (hJ.room n9 hi hd (N:=900000) (show s6.length+1<=900000 from by have:=RO.out;omega));have m0:T[0]?=some (.pointer (some ⟨k,0,none⟩)):=(hJ.kQ 0 (by decide)).trans (by rfl);obtain rfl | rfl | rfl | rfl | rfl | rfl:n9=0\/n9=1\/n9=2\/n9=3\/n9=4\/n9=5:=by omega
  all_goals (injection ho with ho)
  all_goals (subst ho)
  all_goals (try (clear hJ aH dO;refine⟨rfl,fun K9 hK=>?_⟩;have bO:=aa hstep;clear hstep;go_simp;exact hK.out _ _ (bO.out _ _ _ bh.out ((Ext.refl _).up (au _)) (dz.refl _ _ _) rfl)))
  ·have kV:=aa hJ.be;have es:T[7]?=some (.pointer (some ⟨kS,0,none⟩)):=(hJ.kQ 7 (by decide)).trans (by rfl);have bx:=(kV.out.block kS (ae cr.out) (NO.cells cr.out (by decide))).trans cr.out;have q0:=af (v:=.bool b) bx 0 rfl;have q1:=af (v:=.slice ao l c) bx 1 rfl;clear bx;clear hJ aH dO;refine⟨rfl,fun K9 hK=>?_⟩;have bO:=aa hstep;clear hstep;go_simp;exact hK.out _ _ (bO.out _ _ _ bh.out ((Ext.refl _).up (au _)) (dz.refl _ _ _) rfl)
  ·clear hJ aH dO;refine⟨rfl,fun K9 hK=>?_⟩;have bO:=aa hstep;clear hstep;go_simp;refine (sR 1 wc (by decide) (by decide)).mono ?_;rintro e w8 ⟨v8,rfl,p1,p2⟩;exact hK.out _ _ (bO.out _ _ _ (bh.out.below p2) ((Ext.refl _).up (au _)) (.aN p2) p1)
  ·have L9:=hJ.vE 1 22 rfl (by decide) (aH 1 (by rfl)) (fun _ h=>h);obtain⟨v2,Li,f2⟩:=hJ.val 2 (by decide) (aH 2 (by rfl));replace f2:CI wc v2 (1) 2:=f2;obtain⟨b2,o2,l2,c2,g2⟩:=CI.ug f2;subst g2;replace Li:T[23]?=_:=Li;have H2:=aa f2;clear f2;have kV:=aa hJ.be;clear hJ aH dO;refine⟨rfl,fun K9 hK=>?_⟩;have bO:=aa hstep;clear hstep;go_simp;refine (Ja _ _ K 1 600 2 wc (CI.gi (CI.kn LG.out kV.out.kn)) (CI.gi H2.out) (by decide) (by decide)).mono ?_;rintro e w8 ⟨v8,rfl,p1,p2⟩;exact hK.out _ _ (bO.out _ _ _ (bh.out.below p2) ((Ext.refl _).up (au _)) (.aN p2) p1)
  ·obtain⟨v3,I1,f3⟩:=hJ.val 3 (by decide) (aH 3 (by rfl));replace f3:CI wc v3 (K - 1) 603:=f3;obtain⟨b3,o3,l3,c3,g3⟩:=CI.ug f3;subst g3;replace I1:T[24]?=_:=I1;have H3:=aa f3;clear f3;clear hJ aH dO;refine⟨rfl,fun K9 hK=>?_⟩;have bO:=aa hstep;clear hstep;go_simp;exact hK.out _ _ (bO.out _ _ _ bh.out ((Ext.refl _).up (au _)) (dz.refl _ _ _) (FC.up (FC.mk (op:=0) (nm:=⟨#[]⟩) (d:=0) ⟨by decide,by decide⟩ (CI.WE H3.out Vb.out) (FL.nil _ _ 0)) (by decide)))
  have L_:=hJ.vE 0 21 rfl (by decide) (aH 0 (by rfl)) (fun _ h=>h);obtain⟨v4,O0,f4⟩:=hJ.val 4 (by decide) (aH 4 (by rfl));replace f4:FC wc (NS B k E wc) 10 v4 (nF (K - 1)):=f4;obtain⟨a4,g4⟩:=FC.ug f4;subst g4;replace O0:T[25]?=_:=O0;have H4:=aa f4;clear f4;clear hJ aH dO;refine⟨rfl,fun K9 hK=>?_⟩;have bO:=aa hstep;clear hstep;go_simp;refine (yQ wc bh.out cM.out 10 _ _ H4.out G5.out _ (IL.nil B k E wc) (fun x hx=>by cases hx)).mono ?_;rintro e w8 ⟨i8,s8,rfl,p1,p2,p3,p4⟩;exact hK.out _ _ (bO.out _ _ _ p1 p2 p4 ⟨i8,rfl,p3⟩)
 rintro T wt ⟨s9,hJ⟩;have a0:=hJ.vE 0 21 rfl (by decide) rfl (fun _ h=>h);have a1:=hJ.vE 1 22 rfl (by decide) rfl (fun _ h=>h);obtain⟨v2,a2,f2⟩:=hJ.val 2 (by decide) rfl;clear f2;obtain⟨v3,a3,f3⟩:=hJ.val 3 (by decide) rfl;clear f3;obtain⟨v4,a4,f4⟩:=hJ.val 4 (by decide) rfl;clear f4;obtain⟨i5,a5,H5⟩:=hJ.vI 5 26 rfl (by decide) rfl (fun _ h=>h);have hfr:=hJ.fin (fun i hi=>az (lE.out i hi) (of_decide_eq_true rfl)) rfl (.cons a0 (.cons a1 (.cons a2 (.cons a3 (.cons a4 (.cons a5 .nil))))));have bh:=aa hJ.st;have iT:Hid (Ext s6 s9 1):=aa hJ.ext;have jL:=aa hJ.be;clear hJ lO lE a0 a1 a2 a3 a4 a5;rw[hfr];clear hfr;simp only[l_,fH,aY,bS,bD];simp only[cL,cx]
 have Yv:Hid (s9.length+3<=900000):=aa (by have:=RO.out;have:=iT.out.len;omega);replace HP:=aa (iT.out.get HP.out);have HE3:Hid (Ext s s9 2):=aa (Om.out.trans iT.out (by omega));have UG:=aa (Me.out.trans jL.out);replace HA:=aa (HE3.out.get HA.out);go_wp2_with fail;refine (za wt bh.out (by have:=Yv.out;omega) i9 j _ _ HP.out HA.out G1.out).mono ?_;rintro e y1 ⟨j1,t1,rfl,h1,h2,h3,h4⟩;have Y1:=aa h1;have J1:=aa h3;replace HP:=aa (h2.get HP.out);replace H5:=aa (h2.get H5.out);replace HA:=aa (h2.get HA.out);have HE4:Hid (Ext s t1 3):=aa (HE3.out.trans h2 (by omega));have Q8:=aa (UG.out.trans h4);clear h1 h2 h3 h4;obtain⟨z2,kq,eq,zE,gQ,sk,jX⟩:=aM y1 #[.int .i64 ((i9:Nat):Int),.int .i64 ((i5:Nat):Int)] 116
 have hal:=aa (Y1.out.below gQ.out);have hfr:=aa (Y1.out.fresh sk.out);go_wp2_with fail;refine (p_ z2 hal.out (by have:=HM.out;have:=HE4.out.len;omega) 2 ⟨by decide,by decide⟩ _ [i9,i5] (IL.block (cs:=[.int .i64 ((i9:Nat):Int),.int .i64 ((i5:Nat):Int)]) jX.out (by decide) hfr.out (by show 2<=bI;decide) rfl) [Aa K X,nF (K - 1)] (by simp only[aO,bM,HP.out,H5.out]) G3.out).mono ?_;rintro e y2 ⟨j2,t2,rfl,h1,h2,h3,h4⟩;have Y2:=aa h1;have J2:=aa h3;replace J1:=aa (h2.get J1.out);replace HA:=aa (h2.get HA.out);have U9:Hid (Ext s t2 4):=aa (HE4.out.trans h2 (by omega));have HT5:=aa ((Q8.out.trans (.aN gQ.out)).trans h4);clear h1 h2 h3 h4;go_wp2_with fail
 refine (za y2 Y2.out (by have:=HM.out;have:=U9.out.len;omega) j j2 _ _ HA.out J2.out G2.out).mono ?_;rintro e y3 ⟨j3,t3,rfl,h1,h2,h3,h4⟩;have Y3:=aa h1;have J3:=aa h3;replace J1:=aa (h2.get J1.out);have HE6:Hid (Ext s t3 5):=aa (U9.out.trans h2 (by omega));have HT6:=aa (HT5.out.trans h4);clear h1 h2 h3 h4;obtain⟨z3,kr,er,pE,cN,iH,aJ⟩:=aM y3 #[.int .i64 ((j1:Nat):Int),.int .i64 ((j3:Nat):Int)] 116;have Qi:=aa (Y3.out.fresh iH.out);go_wp2_with fail;go_ret;exact⟨_,t3,rfl,⟨[j1,j3],IL.block (l:=[j1,j3]) (cs:=[.int .i64 ((j1:Nat):Int),.int .i64 ((j3:Nat):Int)]) aJ.out (by decide) Qi.out (by show 2<=bI;decide) rfl,by simp only[aO,bM,J1.out,J3.out];rfl⟩,Y3.out.below cN.out,HE6.out,HT6.out.trans (.aN cN.out)⟩
attribute [local go_sem] eF eE eC eB
theorem s_ {s s':List F} {n:Nat} (he:Ext s s' n):∀ {l:List Nat} {ts:List F},l.map (fun i=>s[i]?)=ts.map some->l.map (fun i=>s'[i]?)=ts.map some
 | [],[],_=>rfl
 | [],_::_,h=>by cases h
 | _::_,[],h=>by cases h
 | i::l,a::m,h=>by
  rw[aO,aO] at h;injection h with e1 e2;rw[aO,aO,s_ he e2,he.get e1]
theorem y9 (x:F):(fO x).length<=2:=by
 unfold fO;split
 ·simp
 split<;>simp
theorem Ki {x:F} (h:rt x=true) (ho:x.op=5\/x.op=7\/x.op=11):∃ a,x.kids=[a]:=by
 obtain⟨o,z,nm,ks⟩:=x;have hp:=j_ h;have ji:o=5\/o=7\/o=11:=ho;rcases ji with rfl | rfl | rfl;all_goals
  obtain⟨a,e,-⟩:=BY (by have:=hp.1;simpa [bF] using this);exact⟨a,e⟩
theorem SA {x:F} (h:rt x=true) (ho:x.op=4):∃ a b,x.kids=[a,b]:=by
 obtain⟨o,z,nm,ks⟩:=x;have hp:=j_ h;have ji:o=4:=ho;subst ji;obtain⟨a,b,e,-,-⟩:=qQ (by have:=hp.1;simpa [bF] using this);exact⟨a,b,e⟩
theorem EE {B k:Nat} {E:Nat->Prop} {L s:List F} (w:ag) (h:St B k E L s w) (hm:s.length+46<=900000) (i:Nat) (X:F) (hx:s[i]?=some X) (hg:∀ t ∈ cZ X,Gd t) (ho:∀ q ∈ [(8:Int),(9:Int),(10:Int),(11:Int),(7:Int),(5:Int),(4:Int)],X.op≠q) :
  aW aj 72 #[.pointer (some ⟨k,0,none⟩),.int .i64 ((i:Nat):Int)] w (mE B k E L s (cZ X) 46 w):=by
 have HS:=aa h;have HX:=aa hx;have HO:=aa ho;clear h hm hx hg ho;obtain⟨km,v,us,M,hU⟩:=HS.out;obtain⟨g,cap,u,qo,ql,qc,q,⟨rfl,qO,hcap,rL⟩,⟨c0,c1,c2,c3,c4,c5,c6⟩,⟨hft,hop,-⟩,jU,-⟩:=hU.node HX.out;have d1:=af (v:=.slice (some ⟨g,0,none⟩) s.length cap) hU.bk 1 rfl;have zn:cap<=9223372036854775807:=rL;have xG:=aa hU.bk;have e8:(u.k==8)=false:=beq_eq_false_iff_ne.2 (by rw[hop];exact HO.out 8 (by simp));have e9:(u.k==9)=false:=beq_eq_false_iff_ne.2 (by rw[hop];exact HO.out 9 (by simp));have ER:(u.k==10)=false:=beq_eq_false_iff_ne.2 (by rw[hop];exact HO.out 10 (by simp));have Ll:(u.k==11)=false:=beq_eq_false_iff_ne.2 (by rw[hop];exact HO.out 11 (by simp));have e7:(u.k==7)=false:=beq_eq_false_iff_ne.2 (by rw[hop];exact HO.out 7 (by simp))
 have e5:(u.k==5)=false:=beq_eq_false_iff_ne.2 (by rw[hop];exact HO.out 5 (by simp));have e4:(u.k==4)=false:=beq_eq_false_iff_ne.2 (by rw[hop];exact HO.out 4 (by simp));clear hU jU hop hft;obtain⟨z1,kn,en,zF,lT,hkn,iu⟩:=aM w #[.int .i64 u.k,.bool (decide (u.n.z<0)),.slice u.n.o u.n.l u.n.c,.string u.nm,.slice u.ko u.kl u.kc,.slice qo ql qc,.bool q] 167;have n0:=af (v:=.int .i64 u.k) iu.out 0 rfl;have pY:=aa (HS.out.below lT.out);have pX:=aa (dz.aN (B:=B) (k:=k) lT.out);have vD:g≠kn:=by have h1:=World.block_lt_of_cell? _ _ c0;have h2:=zF;intro h3;change g<_ at h1;omega
 have Ah:Hid (NO B k z1 kn):=aa (NO.qI ((lT.out.block k (ae xG.out)).trans xG.out) vD iu.out (by decide));clear vD;go_enter lV,kF;have hl:Hid (cZ X=[]):=aa (by unfold cZ;rw[if_neg (HO.out 8 (by simp)),if_neg (HO.out 9 (by simp)),if_neg (HO.out 10 (by simp)),if_neg (HO.out 11 (by simp)),if_neg (HO.out 7 (by simp)),if_neg (HO.out 5 (by simp)),if_neg (HO.out 4 (by simp))]);go_wp2_with fail;go_ret;exact⟨_,[],s,rfl,El.At.nil _,by rw[hl.out];rfl,pY.out,(Ext.refl s).up (au _),pX.out⟩
theorem Im {B k:Nat} {E:Nat->Prop} {L s:List F} (w:ag) (h:St B k E L s w) (hm:s.length+46<=900000) (i:Nat) (X:F) (hx:s[i]?=some X) (hg:∀ t ∈ cZ X,Gd t) (ho:X.op=9) :
  aW aj 72 #[.pointer (some ⟨k,0,none⟩),.int .i64 ((i:Nat):Int)] w (mE B k E L s (cZ X) 46 w):=by
 have HS:=aa h;have HM:=aa hm;have HX:=aa hx;have HG:=aa hg;have HO:=aa ho;clear h hm hx hg ho;obtain⟨km,v,us,M,hU⟩:=HS.out;obtain⟨g,cap,u,qo,ql,qc,q,⟨rfl,qO,hcap,rL⟩,⟨c0,c1,c2,c3,c4,c5,c6⟩,⟨hft,hop,-⟩,jU,-⟩:=hU.node HX.out;have d1:=af (v:=.slice (some ⟨g,0,none⟩) s.length cap) hU.bk 1 rfl;have zn:cap<=9223372036854775807:=rL;have xG:=aa hU.bk;have e8:(u.k==8)=false:=by rw[hop,HO.out];rfl
 have e9:(u.k==9)=true:=by rw[hop,HO.out];rfl
 clear hU jU hop hft;obtain⟨z1,kn,en,zF,lT,hkn,iu⟩:=aM w #[.int .i64 u.k,.bool (decide (u.n.z<0)),.slice u.n.o u.n.l u.n.c,.string u.nm,.slice u.ko u.kl u.kc,.slice qo ql qc,.bool q] 167;have n0:=af (v:=.int .i64 u.k) iu.out 0 rfl;have pY:=aa (HS.out.below lT.out);have pX:=aa (dz.aN (B:=B) (k:=k) lT.out);have vD:g≠kn:=by have h1:=World.block_lt_of_cell? _ _ c0;have h2:=zF;intro h3;change g<_ at h1;omega
 have Ah:Hid (NO B k z1 kn):=aa (NO.qI ((lT.out.block k (ae xG.out)).trans xG.out) vD iu.out (by decide));clear vD;go_enter lV,kF;have hl:Hid (cZ X=fO X):=aa (by unfold cZ;rw[if_neg (show ¬ X.op=8 by rw[HO.out];decide),if_pos HO.out]);go_wp2_with fail;refine (uU z1 pY.out (by have:=HM.out;omega) i X HX.out (by rw[<-hl.out];exact HG.out)).mono ?_;rintro e y1 ⟨v1,l1,s1,rfl,h1,h2,h3,h4,h5⟩;obtain⟨ro,rc,rfl,-⟩:=h1.form;have R1:=aa h1;have J1:=aa h2;have S1:=aa (h3.less (E':=E) (fun g hg=>.inl hg));have E1:Hid (Ext s s1 46):=aa (h4.up (by decide));have T1:=aa (pX.out.trans h5);clear h1 h2 h3 h4 h5;go_wp2_with fail;go_ret;exact⟨_,l1,s1,rfl,R1.out.at,by rw[hl.out];exact J1.out,S1.out,E1.out,T1.out⟩
theorem EF {B k:Nat} {E:Nat->Prop} {L s:List F} (w:ag) (h:St B k E L s w) (hm:s.length+46<=900000) (i:Nat) (X:F) (hx:s[i]?=some X) (hg:∀ t ∈ cZ X,Gd t) (ho:X.op=8) :
  aW aj 72 #[.pointer (some ⟨k,0,none⟩),.int .i64 ((i:Nat):Int)] w (mE B k E L s (cZ X) 46 w):=by
 have HS:=aa h;have HM:=aa hm;have HX:=aa hx;have HG:=aa hg;have HO:=aa ho;clear h hm hx hg ho;obtain⟨km,v,us,M,hU⟩:=HS.out;obtain⟨g,cap,u,qo,ql,qc,q,⟨rfl,qO,hcap,rL⟩,⟨c0,c1,c2,c3,c4,c5,c6⟩,⟨hft,hop,-⟩,jU,-⟩:=hU.node HX.out;have d1:=af (v:=.slice (some ⟨g,0,none⟩) s.length cap) hU.bk 1 rfl;have zn:cap<=9223372036854775807:=rL;have xG:=aa hU.bk;have fW:=aa HS.out.sK;have e8:(u.k==8)=true:=by rw[hop,HO.out];rfl
 clear hU jU hop hft;obtain⟨z1,kn,en,zF,lT,hkn,iu⟩:=aM w #[.int .i64 u.k,.bool (decide (u.n.z<0)),.slice u.n.o u.n.l u.n.c,.string u.nm,.slice u.ko u.kl u.kc,.slice qo ql qc,.bool q] 167;have n0:=af (v:=.int .i64 u.k) iu.out 0 rfl;have pY:=aa (HS.out.below lT.out);have pX:=aa (dz.aN (B:=B) (k:=k) lT.out);have vD:g≠kn:=by have h1:=World.block_lt_of_cell? _ _ c0;have h2:=zF;intro h3;change g<_ at h1;omega
 have Ah:Hid (NO B k z1 kn):=aa (NO.qI ((lT.out.block k (ae xG.out)).trans xG.out) vD iu.out (by decide));clear vD;go_enter lV,kF;have hl:Hid (cZ X=fO X++[kN X]):=aa (by unfold cZ;rw[if_pos HO.out]);have hz:=fW.out;go_wp2_with fail;refine (uU z1 pY.out (by have:=HM.out;omega) i X HX.out (fun t ht=>HG.out t (by rw[hl.out];simp[ht]))).mono ?_;rintro e y1 ⟨v1,l1,s1,rfl,h1,h2,h3,h4,h5⟩;obtain⟨ro,rc,rfl,-⟩:=h1.form;have R1:=aa h1;have J1:=aa h2;have S1:=aa h3;have E1:=aa h4;have Z1:=aa h5.size;have T1:=aa (pX.out.trans h5);clear h1 h2 h3 h4 h5;go_wp2_with fail;refine (F2 y1 S1.out (by have:=HM.out;have:=E1.out.len;omega) i X (E1.out.get HX.out) (HG.out _ (by rw[hl.out];simp))).mono ?_
 rintro e y2 ⟨j2,s2,rfl,h1,h2,h3,h4⟩;have S2:=aa h1;have J2:=aa h3;have E2:Hid (Ext s s2 16):=aa (E1.out.trans h2 (by omega));have T2:=aa (T1.out.trans h4);replace R1:=aa (kC R1.out h4);have Z2:=aa h4.size;replace J1:=aa (s_ h2 J1.out);clear h1 h2 h3 h4;obtain⟨z2,kr,er,pE,cN,iH,aJ⟩:=aM y2 #[.int .i64 ((j2:Nat):Int)] 116;replace R1:=aa (El.Row.below R1.out cN.out);have tB:Hid (iI.At z2 (.slice (some ⟨kr,0,none⟩) 1 1) [j2]):=aa (uj (l:=[j2]) aJ.out (by show 1<=bI;decide));have nP:Hid (z1.heap.size<=z2.heap.size):=aa (ah (ah Z1.out Z2.out) cN.out.size)
 go_wp2_with (first | (at_builtin;refine El.Row.append (E:=iI) R1.out rfl (.tmp 20) (.tmp 24) rfl rfl rfl tB.out (by have h1:=de J1.out;have h2:=y9 X;show l1.length+1<=1000000;omega) nP.out ?_;intro v9 w9 r1 r2 r3 r4;have R9:=aa r1;have R4:=aa r4;clear r1 r2 r3 r4) | fail);go_ret;exact⟨_,l1++[j2],s2,rfl,R9.out.at,by rw[hl.out,cn,cn,J1.out];simp only[aO,bM,J2.out],(S2.out.below cN.out).app R1.out (by have:=fW.out.1;have:=lT.out.size;omega) R4.out,E2.out.up (by omega),((T2.out.trans (.aN cN.out)).app R4.out (fun g hg=>ah lT.out.size (R1.out.ge hg).1) fW.out.2)⟩
theorem La {B k:Nat} {E:Nat->Prop} {L s:List F} (w:ag) (h:St B k E L s w) (hm:s.length+46<=900000) (i:Nat) (X:F) (hx:s[i]?=some X) (hg:∀ t ∈ cZ X,Gd t) (ho:X.op=7) :
  aW aj 72 #[.pointer (some ⟨k,0,none⟩),.int .i64 ((i:Nat):Int)] w (mE B k E L s (cZ X) 46 w):=by
 have HS:=aa h;have HM:=aa hm;have HX:=aa hx;have II:=aa (h.good X (List.mem_of_getElem? hx));have HG:=aa hg;have HO:=aa ho;clear h hm hx hg ho;obtain⟨km,v,us,M,hU⟩:=HS.out;obtain⟨g,cap,u,qo,ql,qc,q,⟨rfl,qO,hcap,rL⟩,⟨c0,c1,c2,c3,c4,c5,c6⟩,⟨hft,hop,-⟩,jU,-⟩:=hU.node HX.out;have d1:=af (v:=.slice (some ⟨g,0,none⟩) s.length cap) hU.bk 1 rfl;have zn:cap<=9223372036854775807:=rL;have xR:=aa jU;have xG:=aa hU.bk;have e8:(u.k==8)=false:=by rw[hop,HO.out];rfl
 have e9:(u.k==9)=false:=by rw[hop,HO.out];rfl
 have ER:(u.k==10)=false:=by rw[hop,HO.out];rfl
 have Ll:(u.k==11)=false:=by rw[hop,HO.out];rfl
 have e7:(u.k==7)=true:=by rw[hop,HO.out];rfl
 clear hU jU hop hft;obtain⟨x0,iM⟩:=Ki II.out.1 (.inr (.inl HO.out));have C8:=xR.out;rw[iM] at C8;obtain⟨AX,A2,ee,⟨hq1,hq2,KJ⟩,hc⟩:=C8;injection ee with ea eb ec;replace eb:ql=1:=eb;subst ea;subst eb;subst ec;obtain⟨qa,rfl,xX,uY⟩:=hc 0 (by simp);replace uY:w.cell? qa=some (.int .i64 ((idx s x0:Nat):Int)):=uY;replace hq1:1<=qc:=hq1;have KK:qc<=9223372036854775807:=hq2;have jd:=aa uY;have N8:Hid (s[idx s x0]?=some x0):=aa (iL (HS.out.Mb X (List.mem_of_getElem? HX.out) x0 (by rw[iM];simp)));have pe:kd X 0=x0:=by unfold kd;rw[iM];rfl
 clear hc hq2 KJ xX uY xR;obtain⟨z1,kn,en,zF,lT,hkn,iu⟩:=aM w #[.int .i64 u.k,.bool (decide (u.n.z<0)),.slice u.n.o u.n.l u.n.c,.string u.nm,.slice u.ko u.kl u.kc,.slice (some qa) 1 qc,.bool q] 167;have n0:=af (v:=.int .i64 u.k) iu.out 0 rfl;have pY:=aa (HS.out.below lT.out);have pX:=aa (dz.aN (B:=B) (k:=k) lT.out);have vD:g≠kn:=by have h1:=World.block_lt_of_cell? _ _ c0;have h2:=zF;intro h3;change g<_ at h1;omega
 have Ah:Hid (NO B k z1 kn):=aa (NO.qI ((lT.out.block k (ae xG.out)).trans xG.out) vD iu.out (by decide));clear vD;go_enter lV,kF;have hl:Hid (cZ X=[gB [gC x0,b_ X (nF 0)]]):=aa (by unfold cZ;rw[if_neg (show ¬ X.op=8 by rw[HO.out];decide),if_neg (show ¬ X.op=9 by rw[HO.out];decide),if_neg (show ¬ X.op=10 by rw[HO.out];decide),if_neg (show ¬ X.op=11 by rw[HO.out];decide),if_pos HO.out];rw[pe]);have G1:=aa (HG.out (gB [gC x0,b_ X (nF 0)]) (by rw[hl.out];simp));have G2:=aa (di G1.out (x:=gC x0) (by simp[gB,fo,F.kids]));have G3:=aa (di G1.out (x:=b_ X (nF 0)) (by simp[gB,fo,F.kids]));have n5:=af (v:=.slice (some qa) 1 qc) iu.out 5 rfl
 have cq:z1.cell? qa=some (.int .i64 ((idx s x0:Nat):Int)):=by rw[lT.out.cell (cu jd.out)];exact jd.out
 clear pe;go_wp2_with fail;refine (A9 z1 pY.out (by have:=HM.out;omega) (idx s x0) x0 N8.out G2.out).mono ?_;rintro e y1 ⟨j1,s1,rfl,h1,h2,h3,h4⟩;have S1:=aa h1;replace HX:=aa (h2.get HX.out);have J1:=aa h3;have E1:Hid (Ext s s1 3):=aa ((Ext.refl s).trans h2 (by omega));have T1:Hid (dz B k w y1):=aa (pX.out.trans h4);clear h1 h2 h3 h4;clear c0 c1 c2 c3 c4 c5 c6 d1 n0 n5 cq;go_wp2_with fail;refine (qH y1 S1.out (by have:=HM.out;have:=E1.out.len;omega) 0 (by decide) (by decide)).mono ?_;rintro e y2 ⟨j2,s2,rfl,h1,h2,h3,h4⟩;have S2:=aa h1;replace J1:=aa (h2.get J1.out);replace HX:=aa (h2.get HX.out);have J2:=aa h3;have E2:Hid (Ext s s2 4):=aa (E1.out.trans h2 (by omega));have T2:Hid (dz B k w y2):=aa (T1.out.trans h4);clear h1 h2 h3 h4
 go_wp2_with fail;refine (k6 y2 S2.out (by have:=HM.out;have:=E2.out.len;omega) i j2 X (nF 0) HX.out J2.out G3.out).mono ?_;rintro e y3 ⟨j3,s3,rfl,h1,h2,h3,h4⟩;have S3:=aa h1;replace J1:=aa (h2.get J1.out);replace J2:=aa (h2.get J2.out);have J3:=aa h3;have E3:Hid (Ext s s3 5):=aa (E2.out.trans h2 (by omega));have T3:Hid (dz B k w y3):=aa (T2.out.trans h4);clear h1 h2 h3 h4;obtain⟨z2,kq,eq,zE,gQ,sk,jX⟩:=aM y3 #[.int .i64 ((j1:Nat):Int),.int .i64 ((j3:Nat):Int)] 116;have hal:=aa (S3.out.below gQ.out);have hfr:=aa (S3.out.fresh sk.out);go_wp2_with fail
 refine (nO z2 hal.out (by have:=HM.out;have:=E3.out.len;omega) _ [j1,j3] (IL.block (l:=[j1,j3]) (cs:=[.int .i64 ((j1:Nat):Int),.int .i64 ((j3:Nat):Int)]) jX.out (by decide) hfr.out (by show 2<=bI;decide) rfl) [gC x0,b_ X (nF 0)] (by simp only[aO,bM,J1.out,J3.out]) G1.out).mono ?_;rintro e y4 ⟨j4,s4,rfl,h1,h2,h3,h4⟩;have S4:=aa h1;replace J1:=aa (h2.get J1.out);replace J2:=aa (h2.get J2.out);replace J3:=aa (h2.get J3.out);have J4:=aa h3;have E4:Hid (Ext s s4 6):=aa (E3.out.trans h2 (by omega));have T4:Hid (dz B k w y4):=aa ((T3.out.trans (.aN gQ.out)).trans h4);clear h1 h2 h3 h4;obtain⟨z3,kr,er,pE,cN,iH,aJ⟩:=aM y4 #[.int .i64 ((j4:Nat):Int)] 116;go_wp2_with fail;go_ret
 exact⟨_,[j4],s4,rfl,uj (l:=[j4]) aJ.out (by show 1<=bI;decide),by rw[hl.out];simp only[aO,bM,J4.out],S4.out.below cN.out,E4.out.up (by omega),T4.out.trans (.aN cN.out)⟩
theorem Il {B k:Nat} {E:Nat->Prop} {L s:List F} (w:ag) (h:St B k E L s w) (hm:s.length+46<=900000) (i:Nat) (X:F) (hx:s[i]?=some X) (hg:∀ t ∈ cZ X,Gd t) (ho:X.op=5) :
  aW aj 72 #[.pointer (some ⟨k,0,none⟩),.int .i64 ((i:Nat):Int)] w (mE B k E L s (cZ X) 46 w):=by
 have HS:=aa h;have HM:=aa hm;have HX:=aa hx;have II:=aa (h.good X (List.mem_of_getElem? hx));have HG:=aa hg;have HO:=aa ho;clear h hm hx hg ho;obtain⟨km,v,us,M,hU⟩:=HS.out;obtain⟨g,cap,u,qo,ql,qc,q,⟨rfl,qO,hcap,rL⟩,⟨c0,c1,c2,c3,c4,c5,c6⟩,⟨hft,hop,-⟩,jU,-⟩:=hU.node HX.out;have d1:=af (v:=.slice (some ⟨g,0,none⟩) s.length cap) hU.bk 1 rfl;have zn:cap<=9223372036854775807:=rL;have xR:=aa jU;have U5:=aa hft;have xG:=aa hU.bk;have e8:(u.k==8)=false:=by rw[hop,HO.out];rfl
 have e9:(u.k==9)=false:=by rw[hop,HO.out];rfl
 have ER:(u.k==10)=false:=by rw[hop,HO.out];rfl
 have Ll:(u.k==11)=false:=by rw[hop,HO.out];rfl
 have e7:(u.k==7)=false:=by rw[hop,HO.out];rfl
 have e5:(u.k==5)=true:=by rw[hop,HO.out];rfl
 clear hU jU hop hft;obtain⟨x0,iM⟩:=Ki II.out.1 (.inl HO.out);have C8:=xR.out;rw[iM] at C8;obtain⟨AX,A2,ee,⟨hq1,hq2,KJ⟩,hc⟩:=C8;injection ee with ea eb ec;replace eb:ql=1:=eb;subst ea;subst eb;subst ec;obtain⟨qa,rfl,xX,uY⟩:=hc 0 (by simp);replace uY:w.cell? qa=some (.int .i64 ((idx s x0:Nat):Int)):=uY;replace hq1:1<=qc:=hq1;have KK:qc<=9223372036854775807:=hq2;have LD:=aa xX;have jd:=aa uY;have N8:Hid (s[idx s x0]?=some x0):=aa (iL (HS.out.Mb X (List.mem_of_getElem? HX.out) x0 (by rw[iM];simp)));have pe:kd X 0=x0:=by unfold kd;rw[iM];rfl
 clear hc hq2 KJ xX uY xR;obtain⟨z1,kn,en,zF,lT,hkn,iu⟩:=aM w #[.int .i64 u.k,.bool (decide (u.n.z<0)),.slice u.n.o u.n.l u.n.c,.string u.nm,.slice u.ko u.kl u.kc,.slice (some qa) 1 qc,.bool q] 167;have n0:=af (v:=.int .i64 u.k) iu.out 0 rfl;have pY:=aa (HS.out.below lT.out);have pX:=aa (dz.aN (B:=B) (k:=k) lT.out);have vD:g≠kn:=by have h1:=World.block_lt_of_cell? _ _ c0;have h2:=zF;intro h3;change g<_ at h1;omega
 have Ah:Hid (NO B k z1 kn):=aa (NO.qI ((lT.out.block k (ae xG.out)).trans xG.out) vD iu.out (by decide));clear vD;go_enter lV,kF;have hl:Hid (cZ X=[dV (Aa X.num X) x0,dV x0 (gE (Aa X.num X) (nF (X.num - 1)))]):=aa (by unfold cZ;rw[if_neg (show ¬ X.op=8 by rw[HO.out];decide),if_neg (show ¬ X.op=9 by rw[HO.out];decide),if_neg (show ¬ X.op=10 by rw[HO.out];decide),if_neg (show ¬ X.op=11 by rw[HO.out];decide),if_neg (show ¬ X.op=7 by rw[HO.out];decide),if_pos HO.out];rw[pe]);have HK:Hid (CI w (.agg #[.bool (decide (u.n.z<0)),.slice u.n.o u.n.l u.n.c]) X.num 600):=by
  obtain⟨⟨f1,f2,f3,f4⟩,f5,-⟩:=U5.out;rw[<-f3];exact aa f5
 clear pe;go_upto_region 14 with fail;have lO:Hid (∀ i j,i<9->j<9->i≠j->(fun i=>i+95) i≠(fun i=>i+95) j):=aa (fun i j _ _ h e=>h (cQ e));have lE:Hid (∀ i,i<9->(fun i=>i+95) i<104):=aa (fun i h=>by show i+95<104;omega)
 refine kJ.region (by kernel_rfl) [[],[],[],[2],[2,3],[2,3,4],[],[6],[6,7],[0,1,2,3,4,5,6,7,8],[0,1,2,3,4,5,6,7,8,9]] 9 (by kernel_rfl) (by kernel_rfl) (JX B k E L z1 s _ 9 (fun i=>i+95) (fun i=>[0,0,0,0,0,0,0,0,0].getD i 0) (EC B k E [.eqv (.pointer (some ⟨k,0,none⟩)),.eqv (.int .i64 ((i:Nat):Int)),.eqv (.pointer (some ⟨kn,5,none⟩)),.eqv (.slice (some qa) 1 qc),.eqv (.pointer (some qa)),.eqv (.int .i64 ((idx s x0:Nat):Int)),.eqv (.pointer (some ⟨kn,0,none⟩)),.eqv (.pointer (some ⟨kn,1,none⟩)),.eqv (.agg #[.bool (decide (u.n.z<0)),.slice u.n.o u.n.l u.n.c])])) (JF.start pY.out) ?_ ?_
 ·rintro d T wc n9 o ⟨s9,hJ⟩ ho hi hd aH dO;have hstep:=fun (v:aq) (s8:List F) (w2:ag)=>hJ.step (v:=v) (s':=s8) (w':=w2) (mU (B:=B) (k:=k) (E:=E) _) lO.out (fun i hi=>az (lE.out i hi) (of_decide_eq_true rfl)) n9 hi hd
  have bh:=aa hJ.st;have m0:T[0]?=some (.pointer (some ⟨k,0,none⟩)):=(hJ.kQ 0 (by decide)).trans (by rfl);have m1:T[1]?=some (.int .i64 ((i:Nat):Int)):=(hJ.kQ 1 (by decide)).trans (by rfl);obtain rfl | rfl | rfl | rfl | rfl | rfl | rfl | rfl | rfl:n9=0\/n9=1\/n9=2\/n9=3\/n9=4\/n9=5\/n9=6\/n9=7\/n9=8:=by omega
  all_goals (injection ho with ho)
  all_goals (subst ho)
  all_goals (try (clear hJ aH dO;refine⟨rfl,fun K9 hK=>?_⟩;have bO:=aa hstep;clear hstep;go_simp;exact hK.out _ _ (bO.out _ _ _ bh.out ((Ext.refl _).up (au _)) (dz.refl _ _ _) rfl)))
  ·have es:T[5]?=some (.pointer (some ⟨kn,0,none⟩)):=(hJ.kQ 5 (by decide)).trans (by rfl);clear hJ aH dO;refine⟨rfl,fun K9 hK=>?_⟩;have bO:=aa hstep;clear hstep;go_simp;exact hK.out _ _ (bO.out _ _ _ bh.out ((Ext.refl _).up (au _)) (dz.refl _ _ _) rfl)
  ·have e97:=hJ.vE 2 97 rfl (by decide) (aH 2 (by rfl)) (fun _ h=>h);have kV:=aa hJ.be;have n5:=af (v:=.slice (some qa) 1 qc) ((kV.out.block kn (ae iu.out) Ah.out).trans iu.out) 5 rfl;clear hJ aH dO;refine⟨rfl,fun K9 hK=>?_⟩;have bO:=aa hstep;clear hstep;go_simp;exact hK.out _ _ (bO.out _ _ _ bh.out ((Ext.refl _).up (au _)) (dz.refl _ _ _) rfl)
  ·have e98:=hJ.vE 3 98 rfl (by decide) (aH 3 (by rfl)) (fun _ h=>h);clear hJ aH dO;refine⟨rfl,fun K9 hK=>?_⟩;have bO:=aa hstep;clear hstep;go_simp;exact hK.out _ _ (bO.out _ _ _ bh.out ((Ext.refl _).up (au _)) (dz.refl _ _ _) rfl)
  ·have e99:=hJ.vE 4 99 rfl (by decide) (aH 4 (by rfl)) (fun _ h=>h);have kV:=aa hJ.be;have cq:wc.cell? qa=some (.int .i64 ((idx s x0:Nat):Int)):=by rw[dU (w:=w) (by exact (pX.out.trans kV.out).block _ (by have h1:=World.block_lt_of_cell? _ _ jd.out;exact h1) LD.out.1.1)];exact jd.out
   clear hJ aH dO;refine⟨rfl,fun K9 hK=>?_⟩;have bO:=aa hstep;clear hstep;go_simp;exact hK.out _ _ (bO.out _ _ _ bh.out ((Ext.refl _).up (au _)) (dz.refl _ _ _) rfl)
  ·have es:T[5]?=some (.pointer (some ⟨kn,0,none⟩)):=(hJ.kQ 5 (by decide)).trans (by rfl);clear hJ aH dO;refine⟨rfl,fun K9 hK=>?_⟩;have bO:=aa hstep;clear hstep;go_simp;exact hK.out _ _ (bO.out _ _ _ bh.out ((Ext.refl _).up (au _)) (dz.refl _ _ _) rfl)
  ·have aK2:=hJ.vE 6 101 rfl (by decide) (aH 6 (by rfl)) (fun _ h=>h);clear hJ aH dO;refine⟨rfl,fun K9 hK=>?_⟩;have bO:=aa hstep;clear hstep;go_simp;exact hK.out _ _ (bO.out _ _ _ bh.out ((Ext.refl _).up (au _)) (dz.refl _ _ _) rfl)
  have aK1:=hJ.vE 7 102 rfl (by decide) (aH 7 (by rfl)) (fun _ h=>h);have kV:=aa hJ.be;have n1:=af (v:=.bool (decide (u.n.z<0))) ((kV.out.block kn (ae iu.out) Ah.out).trans iu.out) 1 rfl;have n2:=af (v:=.slice u.n.o u.n.l u.n.c) ((kV.out.block kn (ae iu.out) Ah.out).trans iu.out) 2 rfl;clear hJ aH dO;refine⟨rfl,fun K9 hK=>?_⟩;have bO:=aa hstep;clear hstep;go_simp;exact hK.out _ _ (bO.out _ _ _ bh.out ((Ext.refl _).up (au _)) (dz.refl _ _ _) rfl)
 rintro T wt ⟨s9,hJ⟩;have a0:=hJ.vE 0 95 rfl (by decide) rfl (fun _ h=>h);have a1:=hJ.vE 1 96 rfl (by decide) rfl (fun _ h=>h);have a2:=hJ.vE 2 97 rfl (by decide) rfl (fun _ h=>h);have a3:=hJ.vE 3 98 rfl (by decide) rfl (fun _ h=>h);have a4:=hJ.vE 4 99 rfl (by decide) rfl (fun _ h=>h);have a5:=hJ.vE 5 100 rfl (by decide) rfl (fun _ h=>h);have a6:=hJ.vE 6 101 rfl (by decide) rfl (fun _ h=>h);have a7:=hJ.vE 7 102 rfl (by decide) rfl (fun _ h=>h);have a8:=hJ.vE 8 103 rfl (by decide) rfl (fun _ h=>h);have hfr:=hJ.fin (fun i hi=>az (lE.out i hi) (of_decide_eq_true rfl)) rfl (.cons a0 (.cons a1 (.cons a2 (.cons a3 (.cons a4 (.cons a5 (.cons a6 (.cons a7 (.cons a8 .nil)))))))));have bh:=aa hJ.st;have iT:Hid (Ext s s9 0):=aa hJ.ext;have jL:=aa hJ.be
 clear hJ lO lE a0 a1 a2 a3 a4 a5 a6 a7 a8;rw[hfr];clear hfr;simp only[l_,fH,aY,bS,bD];simp only[cL,cx];go_wp2_with fail;refine (MS wt bh.out (by have:=HM.out;have:=iT.out.len;omega) i (idx s x0) X x0 (iT.out.get HX.out) (iT.out.get N8.out) X.num _ _ _ _ (CI.kn HK.out (pX.out.trans jL.out).kn) (by rw[<-hl.out];exact HG.out)).mono ?_;intro e y1 hp;obtain⟨v1,l1,s1,rfl,h1,h2,h3,h4,h5⟩:=hp.Z8;obtain⟨ro,rc,rfl,-⟩:=id h1;have A1:=aa h1;have J1:=aa h2;have S1:=aa h3;have E1:Hid (Ext s s1 46):=aa (iT.out.trans h4 (by omega));have T1:=aa ((pX.out.trans jL.out).trans h5);clear h1 h2 h3 h4 h5 hp;go_wp2_with fail;go_ret
 exact⟨_,l1,s1,rfl,A1.out,by rw[hl.out];exact J1.out,S1.out,E1.out,T1.out⟩
theorem Io {B k:Nat} {E:Nat->Prop} {L s:List F} (w:ag) (h:St B k E L s w) (hm:s.length+46<=900000) (i:Nat) (X:F) (hx:s[i]?=some X) (hg:∀ t ∈ cZ X,Gd t) (ho:X.op=4) :
  aW aj 72 #[.pointer (some ⟨k,0,none⟩),.int .i64 ((i:Nat):Int)] w (mE B k E L s (cZ X) 46 w):=by
 have HS:=aa h;have HM:=aa hm;have HX:=aa hx;have II:=aa (h.good X (List.mem_of_getElem? hx));have HG:=aa hg;have HO:=aa ho;clear h hm hx hg ho;obtain⟨km,v,us,M,hU⟩:=HS.out;obtain⟨g,cap,u,qo,ql,qc,q,⟨rfl,qO,hcap,rL⟩,⟨c0,c1,c2,c3,c4,c5,c6⟩,⟨hft,hop,-⟩,jU,-⟩:=hU.node HX.out;have d1:=af (v:=.slice (some ⟨g,0,none⟩) s.length cap) hU.bk 1 rfl;have zn:cap<=9223372036854775807:=rL;have xR:=aa jU;have xG:=aa hU.bk;have e8:(u.k==8)=false:=by rw[hop,HO.out];rfl
 have e9:(u.k==9)=false:=by rw[hop,HO.out];rfl
 have ER:(u.k==10)=false:=by rw[hop,HO.out];rfl
 have Ll:(u.k==11)=false:=by rw[hop,HO.out];rfl
 have e7:(u.k==7)=false:=by rw[hop,HO.out];rfl
 have e5:(u.k==5)=false:=by rw[hop,HO.out];rfl
 have e4:(u.k==4)=true:=by rw[hop,HO.out];rfl
 clear hU jU hop hft;obtain⟨x0,x1,iM⟩:=SA II.out.1 HO.out;have C8:=xR.out;rw[iM] at C8;obtain⟨AX,A2,ee,⟨hq1,hq2,KJ⟩,hc⟩:=C8;injection ee with ea eb ec;replace eb:ql=2:=eb;subst ea;subst eb;subst ec;obtain⟨qa,rfl,xX,uY⟩:=hc 0 (by simp);replace uY:w.cell? qa=some (.int .i64 ((idx s x0:Nat):Int)):=uY;replace hq1:2<=qc:=hq1;have KK:qc<=9223372036854775807:=hq2;have LD:=aa xX;have jd:=aa uY;have N8:Hid (s[idx s x0]?=some x0):=aa (iL (HS.out.Mb X (List.mem_of_getElem? HX.out) x0 (by rw[iM];simp)));have pe:kd X 0=x0:=by unfold kd;rw[iM];rfl
 obtain⟨qa2,Eo,P9,BQ⟩:=hc 1 (by simp);injection Eo with Eo;subst Eo;replace BQ:w.cell? (qa.add 1)=some (.int .i64 ((idx s x1:Nat):Int)):=BQ;have UL:=aa BQ;have UD:Hid (s[idx s x1]?=some x1):=aa (iL (HS.out.Mb X (List.mem_of_getElem? HX.out) x1 (by rw[iM];simp)));have ff:kd X 1=x1:=by unfold kd;rw[iM];rfl
 clear P9 BQ;clear hc hq2 KJ xX uY xR;obtain⟨z1,kn,en,zF,lT,hkn,iu⟩:=aM w #[.int .i64 u.k,.bool (decide (u.n.z<0)),.slice u.n.o u.n.l u.n.c,.string u.nm,.slice u.ko u.kl u.kc,.slice (some qa) 2 qc,.bool q] 167;have n0:=af (v:=.int .i64 u.k) iu.out 0 rfl;have pY:=aa (HS.out.below lT.out);have pX:=aa (dz.aN (B:=B) (k:=k) lT.out);have vD:g≠kn:=by have h1:=World.block_lt_of_cell? _ _ c0;have h2:=zF;intro h3;change g<_ at h1;omega
 have Ah:Hid (NO B k z1 kn):=aa (NO.qI ((lT.out.block k (ae xG.out)).trans xG.out) vD iu.out (by decide));clear vD;go_enter lV,kF;have hl:Hid (cZ X=nZ X x0 x1):=aa (by unfold cZ;rw[if_neg (show ¬ X.op=8 by rw[HO.out];decide),if_neg (show ¬ X.op=9 by rw[HO.out];decide),if_neg (show ¬ X.op=10 by rw[HO.out];decide),if_neg (show ¬ X.op=11 by rw[HO.out];decide),if_neg (show ¬ X.op=7 by rw[HO.out];decide),if_neg (show ¬ X.op=5 by rw[HO.out];decide),if_pos HO.out];rw[pe,ff]);clear pe ff;go_upto_region 16 with fail;have lO:Hid (∀ i j,i<10->j<10->i≠j->(fun i=>i+107) i≠(fun i=>i+107) j):=aa (fun i j _ _ h e=>h (cQ e));have lE:Hid (∀ i,i<10->(fun i=>i+107) i<117):=aa (fun i h=>by show i+107<117;omega)
 refine kJ.region (by kernel_rfl) [[],[],[],[2],[2,3],[2,3,4],[],[6],[6,7],[6,7,8],[0,1,2,3,4,5,6,7,8,9],[0,1,2,3,4,5,6,7,8,9,10]] 10 (by kernel_rfl) (by kernel_rfl) (JX B k E L z1 s _ 10 (fun i=>i+107) (fun i=>[0,0,0,0,0,0,0,0,0,0].getD i 0) (EC B k E [.eqv (.pointer (some ⟨k,0,none⟩)),.eqv (.int .i64 ((i:Nat):Int)),.eqv (.pointer (some ⟨kn,5,none⟩)),.eqv (.slice (some qa) 2 qc),.eqv (.pointer (some qa)),.eqv (.int .i64 ((idx s x0:Nat):Int)),.eqv (.pointer (some ⟨kn,5,none⟩)),.eqv (.slice (some qa) 2 qc),.eqv (.pointer (some (qa.add 1))),.eqv (.int .i64 ((idx s x1:Nat):Int))])) (JF.start pY.out) ?_ ?_
 ·rintro d T wc n9 o ⟨s9,hJ⟩ ho hi hd aH dO;have hstep:=fun (v:aq) (s8:List F) (w2:ag)=>hJ.step (v:=v) (s':=s8) (w':=w2) (mU (B:=B) (k:=k) (E:=E) _) lO.out (fun i hi=>az (lE.out i hi) (of_decide_eq_true rfl)) n9 hi hd
  have bh:=aa hJ.st;have m0:T[0]?=some (.pointer (some ⟨k,0,none⟩)):=(hJ.kQ 0 (by decide)).trans (by rfl);have m1:T[1]?=some (.int .i64 ((i:Nat):Int)):=(hJ.kQ 1 (by decide)).trans (by rfl);obtain rfl | rfl | rfl | rfl | rfl | rfl | rfl | rfl | rfl | rfl:n9=0\/n9=1\/n9=2\/n9=3\/n9=4\/n9=5\/n9=6\/n9=7\/n9=8\/n9=9:=by omega
  all_goals (injection ho with ho)
  all_goals (subst ho)
  all_goals (try (clear hJ aH dO;refine⟨rfl,fun K9 hK=>?_⟩;have bO:=aa hstep;clear hstep;go_simp;exact hK.out _ _ (bO.out _ _ _ bh.out ((Ext.refl _).up (au _)) (dz.refl _ _ _) rfl)))
  ·have es:T[5]?=some (.pointer (some ⟨kn,0,none⟩)):=(hJ.kQ 5 (by decide)).trans (by rfl);clear hJ aH dO;refine⟨rfl,fun K9 hK=>?_⟩;have bO:=aa hstep;clear hstep;go_simp;exact hK.out _ _ (bO.out _ _ _ bh.out ((Ext.refl _).up (au _)) (dz.refl _ _ _) rfl)
  ·have aK0:=hJ.vE 2 109 rfl (by decide) (aH 2 (by rfl)) (fun _ h=>h);have kV:=aa hJ.be;have n5:=af (v:=.slice (some qa) 2 qc) ((kV.out.block kn (ae iu.out) Ah.out).trans iu.out) 5 rfl;clear hJ aH dO;refine⟨rfl,fun K9 hK=>?_⟩;have bO:=aa hstep;clear hstep;go_simp;exact hK.out _ _ (bO.out _ _ _ bh.out ((Ext.refl _).up (au _)) (dz.refl _ _ _) rfl)
  ·have aJz:=hJ.vE 3 110 rfl (by decide) (aH 3 (by rfl)) (fun _ h=>h);clear hJ aH dO;refine⟨rfl,fun K9 hK=>?_⟩;have bO:=aa hstep;clear hstep;go_simp;exact hK.out _ _ (bO.out _ _ _ bh.out ((Ext.refl _).up (au _)) (dz.refl _ _ _) rfl)
  ·have aJy:=hJ.vE 4 111 rfl (by decide) (aH 4 (by rfl)) (fun _ h=>h);have kV:=aa hJ.be;have cq:wc.cell? qa=some (.int .i64 ((idx s x0:Nat):Int)):=by rw[dU (w:=w) (by exact (pX.out.trans kV.out).block _ (by have h1:=World.block_lt_of_cell? _ _ jd.out;exact h1) LD.out.1.1)];exact jd.out
   clear hJ aH dO;refine⟨rfl,fun K9 hK=>?_⟩;have bO:=aa hstep;clear hstep;go_simp;exact hK.out _ _ (bO.out _ _ _ bh.out ((Ext.refl _).up (au _)) (dz.refl _ _ _) rfl)
  ·have es:T[5]?=some (.pointer (some ⟨kn,0,none⟩)):=(hJ.kQ 5 (by decide)).trans (by rfl);clear hJ aH dO;refine⟨rfl,fun K9 hK=>?_⟩;have bO:=aa hstep;clear hstep;go_simp;exact hK.out _ _ (bO.out _ _ _ bh.out ((Ext.refl _).up (au _)) (dz.refl _ _ _) rfl)
  ·have aJx:=hJ.vE 6 113 rfl (by decide) (aH 6 (by rfl)) (fun _ h=>h);have kV:=aa hJ.be;have n5:=af (v:=.slice (some qa) 2 qc) ((kV.out.block kn (ae iu.out) Ah.out).trans iu.out) 5 rfl;clear hJ aH dO;refine⟨rfl,fun K9 hK=>?_⟩;have bO:=aa hstep;clear hstep;go_simp;exact hK.out _ _ (bO.out _ _ _ bh.out ((Ext.refl _).up (au _)) (dz.refl _ _ _) rfl)
  ·have aJw:=hJ.vE 7 114 rfl (by decide) (aH 7 (by rfl)) (fun _ h=>h);clear hJ aH dO;refine⟨rfl,fun K9 hK=>?_⟩;have bO:=aa hstep;clear hstep;go_simp;exact hK.out _ _ (bO.out _ _ _ bh.out ((Ext.refl _).up (au _)) (dz.refl _ _ _) rfl)
  have aJv:=hJ.vE 8 115 rfl (by decide) (aH 8 (by rfl)) (fun _ h=>h);have kV:=aa hJ.be;have cq:wc.cell? (qa.add 1)=some (.int .i64 ((idx s x1:Nat):Int)):=by rw[dU (w:=w) (by rw[cI];exact (pX.out.trans kV.out).block _ (by have h1:=World.block_lt_of_cell? _ _ UL.out;rw[cI] at h1;exact h1) LD.out.1.1)];exact UL.out
  replace cq:wc.cell? { block:=qa.block,off:=qa.off+1 }=some (.int .i64 ((idx s x1:Nat):Int)):=cq;clear hJ aH dO;refine⟨rfl,fun K9 hK=>?_⟩;have bO:=aa hstep;clear hstep;go_simp;exact hK.out _ _ (bO.out _ _ _ bh.out ((Ext.refl _).up (au _)) (dz.refl _ _ _) rfl)
 rintro T wt ⟨s9,hJ⟩;have a0:=hJ.vE 0 107 rfl (by decide) rfl (fun _ h=>h);have a1:=hJ.vE 1 108 rfl (by decide) rfl (fun _ h=>h);have a2:=hJ.vE 2 109 rfl (by decide) rfl (fun _ h=>h);have a3:=hJ.vE 3 110 rfl (by decide) rfl (fun _ h=>h);have a4:=hJ.vE 4 111 rfl (by decide) rfl (fun _ h=>h);have a5:=hJ.vE 5 112 rfl (by decide) rfl (fun _ h=>h);have a6:=hJ.vE 6 113 rfl (by decide) rfl (fun _ h=>h);have a7:=hJ.vE 7 114 rfl (by decide) rfl (fun _ h=>h);have a8:=hJ.vE 8 115 rfl (by decide) rfl (fun _ h=>h);have a9:=hJ.vE 9 116 rfl (by decide) rfl (fun _ h=>h);have hfr:=hJ.fin (fun i hi=>az (lE.out i hi) (of_decide_eq_true rfl)) rfl (.cons a0 (.cons a1 (.cons a2 (.cons a3 (.cons a4 (.cons a5 (.cons a6 (.cons a7 (.cons a8 (.cons a9 .nil))))))))));have bh:=aa hJ.st
 have iT:Hid (Ext s s9 0):=aa hJ.ext;have jL:=aa hJ.be;clear hJ lO lE a0 a1 a2 a3 a4 a5 a6 a7 a8 a9;rw[hfr];clear hfr;simp only[l_,fH,aY,bS,bD];simp only[cL,cx];go_wp2_with fail;refine (MV wt bh.out (by have:=HM.out;have:=iT.out.len;omega) i (idx s x0) (idx s x1) X x0 x1 (iT.out.get HX.out) (iT.out.get N8.out) (iT.out.get UD.out) (by rw[<-hl.out];exact HG.out)).mono ?_;intro e y1 hp;obtain⟨v1,l1,s1,rfl,h1,h2,h3,h4,h5⟩:=hp.Z8;obtain⟨ro,rc,rfl,-⟩:=id h1;have A1:=aa h1;have J1:=aa h2;have S1:=aa h3;have E1:Hid (Ext s s1 46):=aa (iT.out.trans h4 (by omega));have T1:=aa ((pX.out.trans jL.out).trans h5);clear h1 h2 h3 h4 h5 hp;go_wp2_with fail
 go_ret;exact⟨_,l1,s1,rfl,A1.out,by rw[hl.out];exact J1.out,S1.out,E1.out,T1.out⟩
section
variable {B k:Nat} {E E1:Nat->Prop} {w w':ag}
theorem NS.grow (hk:dz B k w w') (hE:∀ g,E1 g->E g\/w.heap.size<=g) {g:Nat} (hl:g<w.heap.size) (h:NS B k E w g):NS B k E1 w' g:=
 ⟨hk.no hl h.1,fun he=>by rcases hE g he with h9 | h9;exact h.2 h9;omega⟩
theorem IL.grow {v:aq} {l:List Nat} (h:IL B k E w v l) (hk:dz B k w w') (hE:∀ g,E1 g->E g\/w.heap.size<=g):IL B k E1 w' v l:=by
 obtain⟨ko,kc,e,h1,h2⟩:=h;refine⟨ko,kc,e,h1,fun j hj=>?_⟩;obtain⟨a,ha,hn,hc⟩:=h2 j hj;have hl:=World.block_lt_of_cell? w _ hc;rw[cI] at hl;have hs:=hk.block _ hl hn.1.1;exact⟨a,ha,⟨NS.grow hk hE hl hn.1,by obtain⟨c,qB⟩:=hn.2;exact⟨c,hs.trans qB⟩⟩,by rw[dU (w:=w) (by rw[cI];exact hs)];exact hc⟩
theorem FC.grow {d:Nat} {v:aq} {t:F} (h:FC w (NS B k E w) d v t) (hk:dz B k w w') (hE:∀ g,E1 g->E g\/w.heap.size<=g):FC w' (NS B k E1 w') d v t:=by
 obtain⟨u,h1,h2⟩:=h;exact⟨u,h1,((h2.lt).keep (fun g hg=>hk.block g hg.2 hg.1.1) hk.kn).mono fun g hg=>NS.grow hk hE hg.2 hg.1⟩
theorem FL.grow {d:Nat} {v:aq} {ts:List F} (h:FL w (NS B k E w) d v ts) (hk:dz B k w w') (hE:∀ g,E1 g->E g\/w.heap.size<=g):FL w' (NS B k E1 w') d v ts:=by
 obtain⟨el,h1,h2⟩:=h;exact⟨el,(Es.At.keep (fun g hg=>hk.block g hg.2 hg.1.1) hk.kn h1.lt).mono (fun g hg=>NS.grow hk hE hg.2 hg.1),h2⟩
end
theorem BI {B0 B1:Nat} {w:ag} {v:aq} {l:List Nat} (h:iI.Row w B1 v l) (hb:B0<=B1):iI.Row w B0 v l:=by
 obtain⟨⟨h1,h2⟩,h3,h4⟩:=h;refine⟨⟨h1,?_⟩,h3,h4⟩;rcases h2 with h2 | ⟨g,cap,cur,e1,e2,e3,e4⟩
 ·exact .inl h2
 exact .inr ⟨g,cap,cur,e1,ah hb e2,e3,e4⟩
inductive FG where
 | fd (x:FD)
 | row (B0:Nat) (ts:List F)
def FG.holds (B k:Nat) (E:Nat->Prop):FG->aq->List F->ag->Prop
 | .fd x,v,s,w=>x.holds B k E v s w
 | .row B0 ts,v,s,w=>∃ ids,iI.Row w B0 v ids/\ids.map (fun i=>s[i]?)=ts.map some/\∀ g,v.ownBlock=some g->E g
def L7 (B k:Nat) (E:Nat->Prop) (l:List FG) (j:Nat) (v:aq) (s:List F) (w:ag):Prop:=(l.getD j (.fd .any)).holds B k E v s w
theorem QB {B k:Nat} {E E1:Nat->Prop} (l:List FG) {w w':ag} (RI:∀ g,E g->E1 g) (hE:∀ g,E1 g->E g\/w.heap.size<=g):∀ j v (s s':List F),(∃ c,Ext s s' c)->dz B k w w'->L7 B k E l j v s w->L7 B k E1 l j v s' w':=by
 rintro j v s s' ⟨c,he⟩ hb h;unfold L7 at h ⊢;cases hd:l.getD j (.fd .any) with
 | row B0 ts =>
  rw[hd] at h;obtain⟨ids,h1,h2,h3⟩:=h;exact⟨ids,kC h1 hb,s_ he h2,fun g hg=>RI g (h3 g hg)⟩
 | fd x =>
  rw[hd] at h;cases x with
  | any=>trivial
  | eqv x=>exact h
  | lM t=>exact Q5.ext h he
  | C0 ts=>obtain⟨ids,h1,h2⟩:=h;exact⟨ids,h1.grow hb hE,s_ he h2⟩
  | blk t=>exact Fj.ext h he hb
  | fl ts=>exact FL.grow h hb hE
  | fc t=>exact FC.grow h hb hE
  | ci z n=>exact CI.kn h hb.kn
section
variable {B k:Nat} {E E1:Nat->Prop} {L:List F} {W0:ag} {s0:List F} {t0:Array aq} {n:Nat} {sl cost:Nat->Nat} {l:List FG} {d:Nat->Bool} {T:Array aq} {w w':ag} {s s':List F}
theorem JF.Se (h:JF B k E L W0 s0 t0 n sl cost (L7 B k E l) d T w s) (RI:∀ g,E g->E1 g) (hE:∀ g,E1 g->E g\/w.heap.size<=g) (hne:∀ i j,i<n->j<n->i≠j->sl i≠sl j) (hlt:∀ i,i<n->sl i<t0.size) (i:Nat) (hi:i<n) (hd:d i=false) (v:aq)
  (hst:St B k E1 L s' w') (he:Ext s s' (cost i)) (hb:dz B k w w') (h1:L7 B k E1 l i v s' w'):∃ s,JF B k E1 L W0 s0 t0 n sl cost (L7 B k E1 l) (kJ.vz d i) (T.setIfInBounds (sl i) v) w' s:=by
 have hsz:sl i<T.size:=by rw[h.sz];exact hlt i hi
 refine⟨s',hst,h.ext.trans he (by rw[yH hd,if_pos hi];exact ai _),h.be.trans hb,by rw[Array.size_setIfInBounds,h.sz],fun j hj=>?_,fun j hj hu=>?_⟩
 ·rw[jr (hj i hi)];exact h.kQ j hj
 by_cases hki:j=i
 ·subst hki;exact⟨v,kZ hsz,h1⟩
 rw[uJ hki] at hu;obtain⟨x,hx,hf⟩:=h.val j hj hu;exact⟨x,by rw[jr (hne j i hj hi hki)];exact hx,QB l RI hE j x s s' ⟨_,he⟩ hb hf⟩
def Q4 (B k:Nat) (E:Nat->Prop) (L:List F) (W0:ag) (s0:List F) (t0:Array aq) (n:Nat) (sl cost:Nat->Nat) (l:List FG) (d:Nat->Bool) (T:Array aq) (w:ag):Prop:=∃ E1 s,(∀ g,E g->E1 g)/\JF B k E1 L W0 s0 t0 n sl cost (L7 B k E1 l) d T w s
theorem JF.Ou {E0:Nat->Prop} (h:JF B k E L W0 s0 t0 n sl cost (L7 B k E l) d T w s) (h0:∀ g,E0 g->E g) (hne:∀ i j,i<n->j<n->i≠j->sl i≠sl j) (hlt:∀ i,i<n->sl i<t0.size) (i:Nat) (hi:i<n) (hd:d i=false) (E8:Nat->Prop) (RI:∀ g,E g->E8 g) (hE8:∀ g,E8 g->E g\/w.heap.size<=g) (v:aq) (s8:List F) (w2:ag)
  (p1:St B k E8 L s8 w2) (p2:Ext s s8 (cost i)) (p3:dz B k w w2) (p4:L7 B k E8 l i v s8 w2):Q4 B k E0 L W0 s0 t0 n sl cost l (kJ.vz d i) (T.setIfInBounds (sl i) v) w2:=by
 obtain⟨s88,h88⟩:=h.Se RI hE8 hne hlt i hi hd v p1 p2 p3 p4;exact⟨E8,s88,fun g hg=>RI g (h0 g hg),h88⟩
theorem Q4.start (h:St B k E L s0 W0):Q4 B k E L W0 s0 t0 n sl cost l (fun _=>false) t0 W0.drew:=by
 obtain⟨s,h⟩:=JF.start (n:=n) (sl:=sl) (cost:=cost) (Fk:=L7 B k E l) (t0:=t0) h;exact⟨E,s,fun g h=>h,h⟩
end
attribute [local go_sem] eF eE eC eB
theorem EG {B k:Nat} {E:Nat->Prop} {L s:List F} (w:ag) (h:St B k E L s w) (hm:s.length+46<=900000) (i:Nat) (X:F) (hx:s[i]?=some X) (hg:∀ t ∈ cZ X,Gd t) (ho:X.op=10) :
  aW aj 72 #[.pointer (some ⟨k,0,none⟩),.int .i64 ((i:Nat):Int)] w (mE B k E L s (cZ X) 46 w):=by
 have HS:=aa h;have HM:=aa hm;have HX:=aa hx;have II:=aa (h.good X (List.mem_of_getElem? hx));have HG:=aa hg;have HO:=aa ho;clear h hm hx hg ho;obtain⟨km,v,us,M,hU⟩:=HS.out;obtain⟨g,cap,u,qo,ql,qc,q,⟨rfl,qO,hcap,rL⟩,⟨c0,c1,c2,c3,c4,c5,c6⟩,⟨hft,hop,-⟩,jU,-⟩:=hU.node HX.out;have d1:=af (v:=.slice (some ⟨g,0,none⟩) s.length cap) hU.bk 1 rfl;have zn:cap<=9223372036854775807:=rL;have xR:=aa jU;have xG:=aa hU.bk;have fW:=aa HS.out.sK;have e8:(u.k==8)=false:=by rw[hop,HO.out];rfl
 have e9:(u.k==9)=false:=by rw[hop,HO.out];rfl
 have ER:(u.k==10)=true:=by rw[hop,HO.out];rfl
 clear hU jU hop hft;obtain⟨x0,x1,iM⟩:=OD II.out.1 HO.out;have C8:=xR.out;rw[iM] at C8;obtain⟨AX,A2,ee,⟨hq1,hq2,KJ⟩,hc⟩:=C8;injection ee with ea eb ec;replace eb:ql=2:=eb;subst ea;subst eb;subst ec;obtain⟨qa,rfl,xX,uY⟩:=hc 0 (by simp);replace uY:w.cell? qa=some (.int .i64 ((idx s x0:Nat):Int)):=uY;replace hq1:2<=qc:=hq1;have KK:qc<=9223372036854775807:=hq2;have LD:=aa xX;have jd:=aa uY;have N8:Hid (s[idx s x0]?=some x0):=aa (iL (HS.out.Mb X (List.mem_of_getElem? HX.out) x0 (by rw[iM];simp)));have pe:kd X 0=x0:=by unfold kd;rw[iM];rfl
 obtain⟨qa2,Eo,P9,BQ⟩:=hc 1 (by simp);injection Eo with Eo;subst Eo;replace BQ:w.cell? (qa.add 1)=some (.int .i64 ((idx s x1:Nat):Int)):=BQ;have UL:=aa BQ;have UD:Hid (s[idx s x1]?=some x1):=aa (iL (HS.out.Mb X (List.mem_of_getElem? HX.out) x1 (by rw[iM];simp)));have ff:kd X 1=x1:=by unfold kd;rw[iM];rfl
 clear P9 BQ;clear hc hq2 KJ xX uY xR;obtain⟨z1,kn,en,zF,lT,hkn,iu⟩:=aM w #[.int .i64 u.k,.bool (decide (u.n.z<0)),.slice u.n.o u.n.l u.n.c,.string u.nm,.slice u.ko u.kl u.kc,.slice (some qa) 2 qc,.bool q] 167;have n0:=af (v:=.int .i64 u.k) iu.out 0 rfl;have pY:=aa (HS.out.below lT.out);have pX:=aa (dz.aN (B:=B) (k:=k) lT.out);have vD:g≠kn:=by have h1:=World.block_lt_of_cell? _ _ c0;have h2:=zF;intro h3;change g<_ at h1;omega
 have Ah:Hid (NO B k z1 kn):=aa (NO.qI ((lT.out.block k (ae xG.out)).trans xG.out) vD iu.out (by decide));clear vD;go_enter lV,kF;have hl:Hid (cZ X=fO X++[b_ (xZ X) x0,b_ (Mu X) x1]):=aa (by unfold cZ;rw[if_neg (show ¬ X.op=8 by rw[HO.out];decide),if_neg (show ¬ X.op=9 by rw[HO.out];decide),if_pos HO.out];rw[pe,ff]);have GL:Hid (∀ t ∈ fO X,Gd t):=aa (fun t ht=>HG.out t (by rw[hl.out];simp[ht]));have G1:=aa (HG.out (b_ (xZ X) x0) (by rw[hl.out];simp));have G2:=aa (HG.out (b_ (Mu X) x1) (by rw[hl.out];simp));have G3:=aa (di G1.out (x:=xZ X) (by simp[b_,fo,F.kids]));have G4:=aa (di G2.out (x:=Mu X) (by simp[b_,fo,F.kids]));clear pe ff;go_upto_region 8 with fail
 have lO:Hid (∀ i j,i<23->j<23->i≠j->(fun i=>i+33) i≠(fun i=>i+33) j):=aa (fun i j _ _ h e=>h (cQ e));have lE:Hid (∀ i,i<23->(fun i=>i+33) i<56):=aa (fun i h=>by show i+33<56;omega)
 refine kJ.region (by kernel_rfl) [[],[],[0,1],[],[],[],[5],[0,1,2,4,5,6],[],[8],[8,9],[8,9,10],[0,1,2,3,4,5,6,7,8,9,10,11],[],[],[],[15],[0,1,2,3,4,5,6,7,8,9,10,11,12,14,15,16],[],[18],[18,19],[18,19,20],[0,1,2,3,4,5,6,7,8,9,10,11,12,13,14,15,16,17,18,19,20,21],[0,1,2,3,4,5,6,7,8,9,10,11,12,13,14,15,16,17,18,19,20,21,22],[0,1,2,3,4,5,6,7,8,9,10,11,12,13,14,15,16,17,18,19,20,21,22,23],[0,1,2,3,4,5,6,7,8,9,10,11,12,13,14,15,16,17,18,19,20,21,22,23,24]] 23 (by kernel_rfl) (by kernel_rfl) (Q4 B k E L z1 s _ 23 (fun i=>i+33) (fun i=>[0,0,9,0,0,0,0,1,0,0,0,0,1,0,0,0,0,1,0,0,0,0,1].getD i 0) [.fd (.eqv (.pointer (some ⟨k,0,none⟩))),.fd (.eqv (.int .i64 ((i:Nat):Int))),.row (z1.heap.size) (fO X),.fd (.eqv (.pointer (some ⟨k,0,none⟩))),.fd (.eqv (.pointer (some ⟨k,0,none⟩))),.fd (.eqv (.int .i64 ((i:Nat):Int))),.fd (.C0 [X]),.fd (.lM (xZ X)),.fd (.eqv (.pointer (some ⟨kn,5,none⟩))),.fd (.eqv (.slice (some qa) 2 qc)),.fd (.eqv (.pointer (some qa))),.fd (.eqv (.int .i64 ((idx s x0:Nat):Int))),.fd (.lM (b_ (xZ X) x0)),.fd (.eqv (.pointer (some ⟨k,0,none⟩))),.fd (.eqv (.pointer (some ⟨k,0,none⟩))),.fd (.eqv (.int .i64 ((i:Nat):Int))),.fd (.C0 [X]),.fd (.lM (Mu X)),.fd (.eqv (.pointer (some ⟨kn,5,none⟩))),.fd (.eqv (.slice (some qa) 2 qc)),.fd (.eqv (.pointer (some (qa.add 1)))),.fd (.eqv (.int .i64 ((idx s x1:Nat):Int))),.fd (.lM (b_ (Mu X) x1))]) (Q4.start pY.out) ?_ ?_
 ·rintro d T wc n9 o ⟨E9,s9,Qs,hJ⟩ ho hi hd aH dO;have fS:=hJ.Ou Qs lO.out (fun i hi=>az (lE.out i hi) (of_decide_eq_true rfl)) n9 hi hd;have hstep:=fS E9 (fun g h=>h) (fun g h=>.inl h);have bh:=aa hJ.st;have cM:=aa (hJ.room n9 hi hd (N:=900000) (show s.length+13<=900000 from by have:=HM.out;omega));have m0:T[0]?=some (.pointer (some ⟨k,0,none⟩)):=(hJ.kQ 0 (by decide)).trans (by rfl);have m1:T[1]?=some (.int .i64 ((i:Nat):Int)):=(hJ.kQ 1 (by decide)).trans (by rfl)
  obtain rfl | rfl | rfl | rfl | rfl | rfl | rfl | rfl | rfl | rfl | rfl | rfl | rfl | rfl | rfl | rfl | rfl | rfl | rfl | rfl | rfl | rfl | rfl:n9=0\/n9=1\/n9=2\/n9=3\/n9=4\/n9=5\/n9=6\/n9=7\/n9=8\/n9=9\/n9=10\/n9=11\/n9=12\/n9=13\/n9=14\/n9=15\/n9=16\/n9=17\/n9=18\/n9=19\/n9=20\/n9=21\/n9=22:=by omega
  all_goals (injection ho with ho)
  all_goals (subst ho)
  all_goals (try (clear hJ aH dO;refine⟨rfl,fun K9 hK=>?_⟩;have bO:=aa hstep;clear hstep;go_simp;exact hK.out _ _ (bO.out _ _ _ bh.out ((Ext.refl _).up (au _)) (dz.refl _ _ _) rfl)))
  ·have e33:=hJ.vE 0 33 rfl (by decide) (aH 0 (by rfl)) (fun _ h=>h);have Z':=hJ.vE 1 34 rfl (by decide) (aH 1 (by rfl)) (fun _ h=>h);have c_:=aa hJ.ext;have kV:=aa hJ.be;clear hJ aH dO;refine⟨rfl,fun K9 hK=>?_⟩;clear hstep;have Q9:=aa fS;clear fS;go_simp;refine (uU wc bh.out cM.out i X (c_.out.get HX.out) GL.out).mono ?_;rintro e w8 ⟨v8,l8,s8,rfl,p1,p2,p3,p4,p5⟩;exact hK.out _ _ (Q9.out (fun g=>E9 g\/v8.ownBlock=some g) (fun g h=>.inl h) (fun g h=>h.elim .inl (fun h=>.inr (p1.ge h).1)) v8 s8 w8 p3 p4 p5 ⟨l8,BI p1 kV.out.size,p2,fun g h=>.inr h⟩)
  ·have Df:=hJ.vE 5 38 rfl (by decide) (aH 5 (by rfl)) (fun _ h=>h);have c_:=aa hJ.ext;clear hJ aH dO;refine⟨rfl,fun K9 hK=>?_⟩;have bO:=aa hstep;clear hstep;clear fS;go_simp;have hal:aA wc.heap.size wc (wc.alloc _):=(ax _ _).alloc (ai _) (.cells #[.int .i64 ((i:Nat):Int)] 116);exact hK.out _ _ (bO.out _ _ _ (bh.out.below hal) ((Ext.refl _).up (au _)) (.aN hal) ⟨[i],IL.block (l:=[i]) (cs:=[.int .i64 ((i:Nat):Int)]) (show (wc.alloc (.cells #[.int .i64 ((i:Nat):Int)] 116)).heap[wc.heap.size]?=some (.cells [.int .i64 ((i:Nat):Int)].toArray 116 (0,0)) from bT wc _) (by decide) (bh.out.fresh (ai _)) (by show 1<=bI;decide) rfl,by simp only[aO,bM,c_.out.get HX.out]⟩)
  ·have Dg:=hJ.vE 4 37 rfl (by decide) (aH 4 (by rfl)) (fun _ h=>h);obtain⟨v6,Ba,f6⟩:=hJ.val 6 (by decide) (aH 6 (by rfl));obtain⟨l6,L8,h6⟩:=(show uC B k E9 v6 [X] s9 wc from f6);obtain⟨q6o,q6c,g6,-⟩:=id L8;rw[g6] at Ba L8;replace Ba:T[39]?=_:=Ba;have A6:=aa L8;have H6:=aa h6;clear f6 L8 h6 g6;clear hJ aH dO;refine⟨rfl,fun K9 hK=>?_⟩;have bO:=aa hstep;clear hstep;clear fS;go_simp;refine (p_ wc bh.out cM.out 7 ⟨by decide,by decide⟩ _ l6 A6.out [X] H6.out G3.out).mono ?_;rintro e w8 ⟨i8,s8,rfl,p1,p2,p3,p4⟩;exact hK.out _ _ (bO.out _ _ _ p1 p2 p4 ⟨i8,rfl,p3⟩)
  ·have es:T[5]?=some (.pointer (some ⟨kn,0,none⟩)):=(hJ.kQ 5 (by decide)).trans (by rfl);clear hJ aH dO;refine⟨rfl,fun K9 hK=>?_⟩;have bO:=aa hstep;clear hstep;clear fS;go_simp;exact hK.out _ _ (bO.out _ _ _ bh.out ((Ext.refl _).up (au _)) (dz.refl _ _ _) rfl)
  ·have Cm:=hJ.vE 8 41 rfl (by decide) (aH 8 (by rfl)) (fun _ h=>h);have kV:=aa hJ.be;have n5:=af (v:=.slice (some qa) 2 qc) ((kV.out.block kn (ae iu.out) Ah.out).trans iu.out) 5 rfl;clear hJ aH dO;refine⟨rfl,fun K9 hK=>?_⟩;have bO:=aa hstep;clear hstep;clear fS;go_simp;exact hK.out _ _ (bO.out _ _ _ bh.out ((Ext.refl _).up (au _)) (dz.refl _ _ _) rfl)
  ·have Cl:=hJ.vE 9 42 rfl (by decide) (aH 9 (by rfl)) (fun _ h=>h);clear hJ aH dO;refine⟨rfl,fun K9 hK=>?_⟩;have bO:=aa hstep;clear hstep;clear fS;go_simp;exact hK.out _ _ (bO.out _ _ _ bh.out ((Ext.refl _).up (au _)) (dz.refl _ _ _) rfl)
  ·have tL:=hJ.vE 10 43 rfl (by decide) (aH 10 (by rfl)) (fun _ h=>h);have kV:=aa hJ.be;have cq:wc.cell? qa=some (.int .i64 ((idx s x0:Nat):Int)):=by rw[dU (w:=w) (by exact (pX.out.trans kV.out).block _ (by have h1:=World.block_lt_of_cell? _ _ jd.out;exact h1) LD.out.1.1)];exact jd.out
   clear hJ aH dO;refine⟨rfl,fun K9 hK=>?_⟩;have bO:=aa hstep;clear hstep;clear fS;go_simp;exact hK.out _ _ (bO.out _ _ _ bh.out ((Ext.refl _).up (au _)) (dz.refl _ _ _) rfl)
  ·have Gc:=hJ.vE 3 36 rfl (by decide) (aH 3 (by rfl)) (fun _ h=>h);obtain⟨i7,Af,H7⟩:=hJ.vI 7 40 rfl (by decide) (aH 7 (by rfl)) (fun _ h=>h);have uw:=hJ.vE 11 44 rfl (by decide) (aH 11 (by rfl)) (fun _ h=>h);have c_:=aa hJ.ext;clear hJ aH dO;refine⟨rfl,fun K9 hK=>?_⟩;have bO:=aa hstep;clear hstep;clear fS;go_simp;refine (k6 wc bh.out cM.out i7 (idx s x0) _ _ H7.out (c_.out.get N8.out) G1.out).mono ?_;rintro e w8 ⟨i8,s8,rfl,p1,p2,p3,p4⟩;exact hK.out _ _ (bO.out _ _ _ p1 p2 p4 ⟨i8,rfl,p3⟩)
  ·have Gb:=hJ.vE 15 48 rfl (by decide) (aH 15 (by rfl)) (fun _ h=>h);have c_:=aa hJ.ext;clear hJ aH dO;refine⟨rfl,fun K9 hK=>?_⟩;have bO:=aa hstep;clear hstep;clear fS;go_simp;have hal:aA wc.heap.size wc (wc.alloc _):=(ax _ _).alloc (ai _) (.cells #[.int .i64 ((i:Nat):Int)] 116);exact hK.out _ _ (bO.out _ _ _ (bh.out.below hal) ((Ext.refl _).up (au _)) (.aN hal) ⟨[i],IL.block (l:=[i]) (cs:=[.int .i64 ((i:Nat):Int)]) (show (wc.alloc (.cells #[.int .i64 ((i:Nat):Int)] 116)).heap[wc.heap.size]?=some (.cells [.int .i64 ((i:Nat):Int)].toArray 116 (0,0)) from bT wc _) (by decide) (bh.out.fresh (ai _)) (by show 1<=bI;decide) rfl,by simp only[aO,bM,c_.out.get HX.out]⟩)
  ·have xz:=hJ.vE 14 47 rfl (by decide) (aH 14 (by rfl)) (fun _ h=>h);obtain⟨Wn,De,f16⟩:=hJ.val 16 (by decide) (aH 16 (by rfl));obtain⟨Za,EM,h16⟩:=(show uC B k E9 Wn [X] s9 wc from f16);obtain⟨aJ6,aJ7,g16,-⟩:=id EM;rw[g16] at De EM;replace De:T[49]?=_:=De;have A16:=aa EM;have H16:=aa h16;clear f16 EM h16 g16;clear hJ aH dO;refine⟨rfl,fun K9 hK=>?_⟩;have bO:=aa hstep;clear hstep;clear fS;go_simp;refine (p_ wc bh.out cM.out 11 ⟨by decide,by decide⟩ _ Za A16.out [X] H16.out G4.out).mono ?_;rintro e w8 ⟨i8,s8,rfl,p1,p2,p3,p4⟩;exact hK.out _ _ (bO.out _ _ _ p1 p2 p4 ⟨i8,rfl,p3⟩)
  ·have es:T[5]?=some (.pointer (some ⟨kn,0,none⟩)):=(hJ.kQ 5 (by decide)).trans (by rfl);clear hJ aH dO;refine⟨rfl,fun K9 hK=>?_⟩;have bO:=aa hstep;clear hstep;clear fS;go_simp;exact hK.out _ _ (bO.out _ _ _ bh.out ((Ext.refl _).up (au _)) (dz.refl _ _ _) rfl)
  ·have F_:=hJ.vE 18 51 rfl (by decide) (aH 18 (by rfl)) (fun _ h=>h);have kV:=aa hJ.be;have n5:=af (v:=.slice (some qa) 2 qc) ((kV.out.block kn (ae iu.out) Ah.out).trans iu.out) 5 rfl;clear hJ aH dO;refine⟨rfl,fun K9 hK=>?_⟩;have bO:=aa hstep;clear hstep;clear fS;go_simp;exact hK.out _ _ (bO.out _ _ _ bh.out ((Ext.refl _).up (au _)) (dz.refl _ _ _) rfl)
  ·have F7:=hJ.vE 19 52 rfl (by decide) (aH 19 (by rfl)) (fun _ h=>h);clear hJ aH dO;refine⟨rfl,fun K9 hK=>?_⟩;have bO:=aa hstep;clear hstep;clear fS;go_simp;exact hK.out _ _ (bO.out _ _ _ bh.out ((Ext.refl _).up (au _)) (dz.refl _ _ _) rfl)
  ·have Is:=hJ.vE 20 53 rfl (by decide) (aH 20 (by rfl)) (fun _ h=>h);have kV:=aa hJ.be;have cq:wc.cell? (qa.add 1)=some (.int .i64 ((idx s x1:Nat):Int)):=by rw[dU (w:=w) (by rw[cI];exact (pX.out.trans kV.out).block _ (by have h1:=World.block_lt_of_cell? _ _ UL.out;rw[cI] at h1;exact h1) LD.out.1.1)];exact UL.out
   replace cq:wc.cell? { block:=qa.block,off:=qa.off+1 }=some (.int .i64 ((idx s x1:Nat):Int)):=cq;clear hJ aH dO;refine⟨rfl,fun K9 hK=>?_⟩;have bO:=aa hstep;clear hstep;clear fS;go_simp;exact hK.out _ _ (bO.out _ _ _ bh.out ((Ext.refl _).up (au _)) (dz.refl _ _ _) rfl)
  have wA:=hJ.vE 13 46 rfl (by decide) (aH 13 (by rfl)) (fun _ h=>h);obtain⟨i17,Ga,Pg⟩:=hJ.vI 17 50 rfl (by decide) (aH 17 (by rfl)) (fun _ h=>h);have e54:=hJ.vE 21 54 rfl (by decide) (aH 21 (by rfl)) (fun _ h=>h);have c_:=aa hJ.ext;clear hJ aH dO;refine⟨rfl,fun K9 hK=>?_⟩;have bO:=aa hstep;clear hstep;clear fS;go_simp;refine (k6 wc bh.out cM.out i17 (idx s x1) _ _ Pg.out (c_.out.get UD.out) G2.out).mono ?_;rintro e w8 ⟨i8,s8,rfl,p1,p2,p3,p4⟩;exact hK.out _ _ (bO.out _ _ _ p1 p2 p4 ⟨i8,rfl,p3⟩)
 rintro T wt ⟨E9,s9,Qs,hJ⟩;have a0:=hJ.vE 0 33 rfl (by decide) rfl (fun _ h=>h);have a1:=hJ.vE 1 34 rfl (by decide) rfl (fun _ h=>h);obtain⟨v2,a2,f2⟩:=hJ.val 2 (by decide) rfl;obtain⟨l2,TR,h2,VJ⟩:=(show ∃ ids,iI.Row wt (z1.heap.size) v2 ids/\ids.map (fun i=>s9[i]?)=List.map some (fO X)/\∀ g,v2.ownBlock=some g->E9 g from f2);have R2:=aa TR;have H2:=aa h2;have Om:=aa VJ;clear f2 TR h2 VJ;have a3:=hJ.vE 3 36 rfl (by decide) rfl (fun _ h=>h);have a4:=hJ.vE 4 37 rfl (by decide) rfl (fun _ h=>h);have a5:=hJ.vE 5 38 rfl (by decide) rfl (fun _ h=>h);obtain⟨v6,a6,f6⟩:=hJ.val 6 (by decide) rfl;obtain⟨l6,L8,h6⟩:=(show uC B k E9 v6 [X] s9 wt from f6);have A6:=aa L8;clear f6 L8 h6;obtain⟨i7,a7,H7⟩:=hJ.vI 7 40 rfl (by decide) rfl (fun _ h=>h)
 have a8:=hJ.vE 8 41 rfl (by decide) rfl (fun _ h=>h);have a9:=hJ.vE 9 42 rfl (by decide) rfl (fun _ h=>h);have Dw:=hJ.vE 10 43 rfl (by decide) rfl (fun _ h=>h);have Dv:=hJ.vE 11 44 rfl (by decide) rfl (fun _ h=>h);obtain⟨i12,a12,RT⟩:=hJ.vI 12 45 rfl (by decide) rfl (fun _ h=>h);have Du:=hJ.vE 13 46 rfl (by decide) rfl (fun _ h=>h);have Lz:=hJ.vE 14 47 rfl (by decide) rfl (fun _ h=>h);have O':=hJ.vE 15 48 rfl (by decide) rfl (fun _ h=>h);obtain⟨Wn,O_,f16⟩:=hJ.val 16 (by decide) rfl;obtain⟨Za,EM,h16⟩:=(show uC B k E9 Wn [X] s9 wt from f16);have A16:=aa EM;clear f16 EM h16;obtain⟨i17,O9,Pg⟩:=hJ.vI 17 50 rfl (by decide) rfl (fun _ h=>h);have O8:=hJ.vE 18 51 rfl (by decide) rfl (fun _ h=>h);have O7:=hJ.vE 19 52 rfl (by decide) rfl (fun _ h=>h)
 have a20:=hJ.vE 20 53 rfl (by decide) rfl (fun _ h=>h);have a21:=hJ.vE 21 54 rfl (by decide) rfl (fun _ h=>h);obtain⟨i22,a22,H22⟩:=hJ.vI 22 55 rfl (by decide) rfl (fun _ h=>h);have hfr:=hJ.fin (fun i hi=>az (lE.out i hi) (of_decide_eq_true rfl)) rfl (.cons a0 (.cons a1 (.cons a2 (.cons a3 (.cons a4 (.cons a5 (.cons a6 (.cons a7 (.cons a8 (.cons a9 (.cons Dw (.cons Dv (.cons a12 (.cons Du (.cons Lz (.cons O' (.cons O_ (.cons O9 (.cons O8 (.cons O7 (.cons a20 (.cons a21 (.cons a22 .nil)))))))))))))))))))))));have bh:=aa hJ.st;have iT:Hid (Ext s s9 13):=aa hJ.ext;have jL:=aa hJ.be;clear hJ lO lE a0 a1 a2 a3 a4 a5 a6 a7 a8 a9 Dw Dv a12 Du Lz O' O_ O9 O8 O7 a20 a21 a22;rw[hfr];clear hfr
 simp only[l_,fH,aY,bS,bD];simp only[cL,cx];obtain⟨ro,rc,rfl,-⟩:=R2.out.form;obtain⟨z2,kr,er,pE,cN,iH,aJ⟩:=aM wt #[.int .i64 ((i12:Nat):Int),.int .i64 ((i22:Nat):Int)] 116;replace R2:=aa (El.Row.below R2.out cN.out);have tB:Hid (iI.At z2 (.slice (some ⟨kr,0,none⟩) 2 2) [i12,i22]):=aa (uj (l:=[i12,i22]) aJ.out (by show 2<=bI;decide));have nP:Hid (z1.heap.size<=z2.heap.size):=aa (ah jL.out.size cN.out.size)
 go_wp2_with (first | (at_builtin;refine El.Row.append (E:=iI) R2.out rfl (.tmp 35) (.tmp 56) rfl rfl rfl tB.out (by have h1:=de H2.out;have h2:=y9 X;show l2.length+2<=1000000;omega) nP.out ?_;intro v9 w9 r1 r2 r3 r4;have R9:=aa r1;have R4:=aa r4;clear r1 r2 r3 r4) | fail);go_ret;exact⟨_,l2++[i12,i22],s9,rfl,R9.out.at,by rw[hl.out,cn,cn,H2.out];simp only[aO,bM,RT.out,H22.out],((bh.out.below cN.out).less (fun g h=>h.elim (Qs g) (Om.out g))).app R2.out (by have:=fW.out.1;have:=lT.out.size;omega) R4.out,iT.out.up (by omega),(((pX.out.trans jL.out).trans (.aN cN.out)).app R4.out (fun g hg=>ah lT.out.size (R2.out.ge hg).1) fW.out.2)⟩
theorem K_ {B k:Nat} {E:Nat->Prop} {L s:List F} (w:ag) (h:St B k E L s w) (hm:s.length+46<=900000) (i:Nat) (X:F) (hx:s[i]?=some X) (hg:∀ t ∈ cZ X,Gd t) (ho:X.op=11) :
  aW aj 72 #[.pointer (some ⟨k,0,none⟩),.int .i64 ((i:Nat):Int)] w (mE B k E L s (cZ X) 46 w):=by
 have HS:=aa h;have HM:=aa hm;have HX:=aa hx;have II:=aa (h.good X (List.mem_of_getElem? hx));have HG:=aa hg;have HO:=aa ho;clear h hm hx hg ho;obtain⟨km,v,us,M,hU⟩:=HS.out;obtain⟨g,cap,u,qo,ql,qc,q,⟨rfl,qO,hcap,rL⟩,⟨c0,c1,c2,c3,c4,c5,c6⟩,⟨hft,hop,-⟩,jU,-⟩:=hU.node HX.out;have d1:=af (v:=.slice (some ⟨g,0,none⟩) s.length cap) hU.bk 1 rfl;have zn:cap<=9223372036854775807:=rL;have xR:=aa jU;have xG:=aa hU.bk;have e8:(u.k==8)=false:=by rw[hop,HO.out];rfl
 have e9:(u.k==9)=false:=by rw[hop,HO.out];rfl
 have ER:(u.k==10)=false:=by rw[hop,HO.out];rfl
 have Ll:(u.k==11)=true:=by rw[hop,HO.out];rfl
 clear hU jU hop hft;obtain⟨x0,iM⟩:=Ki II.out.1 (.inr (.inr HO.out));have C8:=xR.out;rw[iM] at C8;obtain⟨AX,A2,ee,⟨hq1,hq2,KJ⟩,hc⟩:=C8;injection ee with ea eb ec;replace eb:ql=1:=eb;subst ea;subst eb;subst ec;obtain⟨qa,rfl,xX,uY⟩:=hc 0 (by simp);replace uY:w.cell? qa=some (.int .i64 ((idx s x0:Nat):Int)):=uY;replace hq1:1<=qc:=hq1;have KK:qc<=9223372036854775807:=hq2;have LD:=aa xX;have jd:=aa uY;have N8:Hid (s[idx s x0]?=some x0):=aa (iL (HS.out.Mb X (List.mem_of_getElem? HX.out) x0 (by rw[iM];simp)));have pe:kd X 0=x0:=by unfold kd;rw[iM];rfl
 clear hc hq2 KJ xX uY xR;obtain⟨z1,kn,en,zF,lT,hkn,iu⟩:=aM w #[.int .i64 u.k,.bool (decide (u.n.z<0)),.slice u.n.o u.n.l u.n.c,.string u.nm,.slice u.ko u.kl u.kc,.slice (some qa) 1 qc,.bool q] 167;have n0:=af (v:=.int .i64 u.k) iu.out 0 rfl;have pY:=aa (HS.out.below lT.out);have pX:=aa (dz.aN (B:=B) (k:=k) lT.out);have vD:g≠kn:=by have h1:=World.block_lt_of_cell? _ _ c0;have h2:=zF;intro h3;change g<_ at h1;omega
 have Ah:Hid (NO B k z1 kn):=aa (NO.qI ((lT.out.block k (ae xG.out)).trans xG.out) vD iu.out (by decide));clear vD;go_enter lV,kF;have hl:Hid (cZ X=fO X++([kN X]++mY X x0)):=aa (by unfold cZ;rw[if_neg (show ¬ X.op=8 by rw[HO.out];decide),if_neg (show ¬ X.op=9 by rw[HO.out];decide),if_neg (show ¬ X.op=10 by rw[HO.out];decide),if_pos HO.out];rw[pe]);have GL:Hid (∀ t ∈ fO X,Gd t):=aa (fun t ht=>HG.out t (by rw[hl.out];simp[ht]));have G1:=aa (HG.out (kN X) (by rw[hl.out];simp));have GT:Hid (∀ t ∈ mY X x0,Gd t):=aa (fun t ht=>HG.out t (by rw[hl.out];simp[ht]));clear pe;go_upto_region 10 with fail
 have lO:Hid (∀ i j,i<14->j<14->i≠j->(fun i=>i+60) i≠(fun i=>i+60) j):=aa (fun i j _ _ h e=>h (cQ e));have lE:Hid (∀ i,i<14->(fun i=>i+60) i<74):=aa (fun i h=>by show i+60<74;omega)
 refine kJ.region (by kernel_rfl) [[],[],[0,1],[],[],[0,1,2,3,4],[0,1,2,3,4,5],[],[],[],[9],[9,10],[9,10,11],[0,1,2,3,4,5,7,8,9,10,11,12],[0,1,2,3,4,5,6,7,8,9,10,11,12,13],[0,1,2,3,4,5,6,7,8,9,10,11,12,13,14],[0,1,2,3,4,5,6,7,8,9,10,11,12,13,14,15]] 14 (by kernel_rfl) (by kernel_rfl) (Q4 B k E L z1 s _ 14 (fun i=>i+60) (fun i=>[0,0,9,0,0,7,0,0,0,0,0,0,0,20].getD i 0) [.fd (.eqv (.pointer (some ⟨k,0,none⟩))),.fd (.eqv (.int .i64 ((i:Nat):Int))),.row (z1.heap.size) (fO X),.fd (.eqv (.pointer (some ⟨k,0,none⟩))),.fd (.eqv (.int .i64 ((i:Nat):Int))),.fd (.lM (kN X)),.fd (.C0 [kN X]),.fd (.eqv (.pointer (some ⟨k,0,none⟩))),.fd (.eqv (.int .i64 ((i:Nat):Int))),.fd (.eqv (.pointer (some ⟨kn,5,none⟩))),.fd (.eqv (.slice (some qa) 1 qc)),.fd (.eqv (.pointer (some qa))),.fd (.eqv (.int .i64 ((idx s x0:Nat):Int))),.fd (.C0 (mY X x0))]) (Q4.start pY.out) ?_ ?_
 ·rintro d T wc n9 o ⟨E9,s9,Qs,hJ⟩ ho hi hd aH dO;have fS:=hJ.Ou Qs lO.out (fun i hi=>az (lE.out i hi) (of_decide_eq_true rfl)) n9 hi hd;have hstep:=fS E9 (fun g h=>h) (fun g h=>.inl h);have bh:=aa hJ.st;have cM:=aa (hJ.room n9 hi hd (N:=900000) (show s.length+36<=900000 from by have:=HM.out;omega));have m0:T[0]?=some (.pointer (some ⟨k,0,none⟩)):=(hJ.kQ 0 (by decide)).trans (by rfl);have m1:T[1]?=some (.int .i64 ((i:Nat):Int)):=(hJ.kQ 1 (by decide)).trans (by rfl);obtain rfl | rfl | rfl | rfl | rfl | rfl | rfl | rfl | rfl | rfl | rfl | rfl | rfl | rfl:n9=0\/n9=1\/n9=2\/n9=3\/n9=4\/n9=5\/n9=6\/n9=7\/n9=8\/n9=9\/n9=10\/n9=11\/n9=12\/n9=13:=by omega
  all_goals (injection ho with ho)
  all_goals (subst ho)
  all_goals (try (clear hJ aH dO;refine⟨rfl,fun K9 hK=>?_⟩;have bO:=aa hstep;clear hstep;go_simp;exact hK.out _ _ (bO.out _ _ _ bh.out ((Ext.refl _).up (au _)) (dz.refl _ _ _) rfl)))
  ·have e60:=hJ.vE 0 60 rfl (by decide) (aH 0 (by rfl)) (fun _ h=>h);have e61:=hJ.vE 1 61 rfl (by decide) (aH 1 (by rfl)) (fun _ h=>h);have c_:=aa hJ.ext;have kV:=aa hJ.be;clear hJ aH dO;refine⟨rfl,fun K9 hK=>?_⟩;clear hstep;have Q9:=aa fS;clear fS;go_simp;refine (uU wc bh.out cM.out i X (c_.out.get HX.out) GL.out).mono ?_;rintro e w8 ⟨v8,l8,s8,rfl,p1,p2,p3,p4,p5⟩;exact hK.out _ _ (Q9.out (fun g=>E9 g\/v8.ownBlock=some g) (fun g h=>.inl h) (fun g h=>h.elim .inl (fun h=>.inr (p1.ge h).1)) v8 s8 w8 p3 p4 p5 ⟨l8,BI p1 kV.out.size,p2,fun g h=>.inr h⟩)
  ·have e63:=hJ.vE 3 63 rfl (by decide) (aH 3 (by rfl)) (fun _ h=>h);have e64:=hJ.vE 4 64 rfl (by decide) (aH 4 (by rfl)) (fun _ h=>h);have c_:=aa hJ.ext;clear hJ aH dO;refine⟨rfl,fun K9 hK=>?_⟩;have bO:=aa hstep;clear hstep;clear fS;go_simp;refine (F2 wc bh.out cM.out i X (c_.out.get HX.out) G1.out).mono ?_;rintro e w8 ⟨i8,s8,rfl,p1,p2,p3,p4⟩;exact hK.out _ _ (bO.out _ _ _ p1 p2 p4 ⟨i8,rfl,p3⟩)
  ·obtain⟨i5,e65,H5⟩:=hJ.vI 5 65 rfl (by decide) (aH 5 (by rfl)) (fun _ h=>h);clear hJ aH dO;refine⟨rfl,fun K9 hK=>?_⟩;have bO:=aa hstep;clear hstep;clear fS;go_simp;have hal:aA wc.heap.size wc (wc.alloc _):=(ax _ _).alloc (ai _) (.cells #[.int .i64 ((i5:Nat):Int)] 116);exact hK.out _ _ (bO.out _ _ _ (bh.out.below hal) ((Ext.refl _).up (au _)) (.aN hal) ⟨[i5],IL.block (l:=[i5]) (cs:=[.int .i64 ((i5:Nat):Int)]) (show (wc.alloc (.cells #[.int .i64 ((i5:Nat):Int)] 116)).heap[wc.heap.size]?=some (.cells [.int .i64 ((i5:Nat):Int)].toArray 116 (0,0)) from bT wc _) (by decide) (bh.out.fresh (ai _)) (by show 1<=bI;decide) rfl,by simp only[aO,bM,H5.out]⟩)
  ·have es:T[5]?=some (.pointer (some ⟨kn,0,none⟩)):=(hJ.kQ 5 (by decide)).trans (by rfl);clear hJ aH dO;refine⟨rfl,fun K9 hK=>?_⟩;have bO:=aa hstep;clear hstep;clear fS;go_simp;exact hK.out _ _ (bO.out _ _ _ bh.out ((Ext.refl _).up (au _)) (dz.refl _ _ _) rfl)
  ·have e69:=hJ.vE 9 69 rfl (by decide) (aH 9 (by rfl)) (fun _ h=>h);have kV:=aa hJ.be;have n5:=af (v:=.slice (some qa) 1 qc) ((kV.out.block kn (ae iu.out) Ah.out).trans iu.out) 5 rfl;clear hJ aH dO;refine⟨rfl,fun K9 hK=>?_⟩;have bO:=aa hstep;clear hstep;clear fS;go_simp;exact hK.out _ _ (bO.out _ _ _ bh.out ((Ext.refl _).up (au _)) (dz.refl _ _ _) rfl)
  ·have e70:=hJ.vE 10 70 rfl (by decide) (aH 10 (by rfl)) (fun _ h=>h);clear hJ aH dO;refine⟨rfl,fun K9 hK=>?_⟩;have bO:=aa hstep;clear hstep;clear fS;go_simp;exact hK.out _ _ (bO.out _ _ _ bh.out ((Ext.refl _).up (au _)) (dz.refl _ _ _) rfl)
  ·have e71:=hJ.vE 11 71 rfl (by decide) (aH 11 (by rfl)) (fun _ h=>h);have kV:=aa hJ.be;have cq:wc.cell? qa=some (.int .i64 ((idx s x0:Nat):Int)):=by rw[dU (w:=w) (by exact (pX.out.trans kV.out).block _ (by have h1:=World.block_lt_of_cell? _ _ jd.out;exact h1) LD.out.1.1)];exact jd.out
   clear hJ aH dO;refine⟨rfl,fun K9 hK=>?_⟩;have bO:=aa hstep;clear hstep;clear fS;go_simp;exact hK.out _ _ (bO.out _ _ _ bh.out ((Ext.refl _).up (au _)) (dz.refl _ _ _) rfl)
  have e67:=hJ.vE 7 67 rfl (by decide) (aH 7 (by rfl)) (fun _ h=>h);have e68:=hJ.vE 8 68 rfl (by decide) (aH 8 (by rfl)) (fun _ h=>h);have e72:=hJ.vE 12 72 rfl (by decide) (aH 12 (by rfl)) (fun _ h=>h);have c_:=aa hJ.ext;clear hJ aH dO;refine⟨rfl,fun K9 hK=>?_⟩;have bO:=aa hstep;clear hstep;clear fS;go_simp;refine (ME wc bh.out cM.out i (idx s x0) X x0 (c_.out.get HX.out) (c_.out.get N8.out) GT.out).mono ?_;rintro e w8 ⟨v8,s8,rfl,p1,p2,p3,p4⟩;exact hK.out _ _ (bO.out _ _ _ p2 p3 p4 p1)
 rintro T wt ⟨E9,s9,Qs,hJ⟩;have a0:=hJ.vE 0 60 rfl (by decide) rfl (fun _ h=>h);have a1:=hJ.vE 1 61 rfl (by decide) rfl (fun _ h=>h);obtain⟨v2,a2,f2⟩:=hJ.val 2 (by decide) rfl;obtain⟨l2,TR,h2,VJ⟩:=(show ∃ ids,iI.Row wt (z1.heap.size) v2 ids/\ids.map (fun i=>s9[i]?)=List.map some (fO X)/\∀ g,v2.ownBlock=some g->E9 g from f2);have R2:=aa TR;have H2:=aa h2;clear f2 TR h2 VJ;have a3:=hJ.vE 3 63 rfl (by decide) rfl (fun _ h=>h);have a4:=hJ.vE 4 64 rfl (by decide) rfl (fun _ h=>h);obtain⟨i5,a5,H5⟩:=hJ.vI 5 65 rfl (by decide) rfl (fun _ h=>h);obtain⟨v6,a6,f6⟩:=hJ.val 6 (by decide) rfl;obtain⟨l6,L8,h6⟩:=(show uC B k E9 v6 [kN X] s9 wt from f6);have A6:=aa L8;have H6:=aa h6;clear f6 L8 h6;have a7:=hJ.vE 7 67 rfl (by decide) rfl (fun _ h=>h)
 have a8:=hJ.vE 8 68 rfl (by decide) rfl (fun _ h=>h);have a9:=hJ.vE 9 69 rfl (by decide) rfl (fun _ h=>h);have Dw:=hJ.vE 10 70 rfl (by decide) rfl (fun _ h=>h);have Dv:=hJ.vE 11 71 rfl (by decide) rfl (fun _ h=>h);have a12:=hJ.vE 12 72 rfl (by decide) rfl (fun _ h=>h);obtain⟨v13,Du,f13⟩:=hJ.val 13 (by decide) rfl;obtain⟨Rw,TS,VO⟩:=(show uC B k E9 v13 (mY X x0) s9 wt from f13);have A13:=aa TS;have Rt:=aa VO;clear f13 TS VO;have hfr:=hJ.fin (fun i hi=>az (lE.out i hi) (of_decide_eq_true rfl)) rfl (.cons a0 (.cons a1 (.cons a2 (.cons a3 (.cons a4 (.cons a5 (.cons a6 (.cons a7 (.cons a8 (.cons a9 (.cons Dw (.cons Dv (.cons a12 (.cons Du .nil))))))))))))));have bh:=aa hJ.st;have iT:Hid (Ext s s9 36):=aa hJ.ext;have jL:=aa hJ.be
 clear hJ lO lE a0 a1 a2 a3 a4 a5 a6 a7 a8 a9 Dw Dv a12 Du;rw[hfr];clear hfr;simp only[l_,fH,aY,bS,bD];simp only[cL,cx];obtain⟨o2,c2,rfl,-⟩:=id R2.out.at;obtain⟨o6,c6,rfl,-⟩:=id A6.out.N3;obtain⟨o13,c13,rfl,-⟩:=id A13.out.N3;obtain⟨z2,kr,er,pE,cN,iH,aJ⟩:=aM wt #[.slice o2 l2.length c2,.slice o6 l6.length c6,.slice o13 Rw.length c13] 114;have HLS:Hid (Uy iI z2 ⟨kr,0,none⟩ [l2,l6,Rw]):=aa (fun q hq=>by
  have h3:q=0\/q=1\/q=2:=by have h9:q<3:=hq;omega
  rcases h3 with rfl | rfl | rfl
  ·exact⟨_,_,_,af aJ.out 0 rfl,R2.out.at.below cN.out⟩
  ·exact⟨_,_,_,af aJ.out 1 rfl,A6.out.N3.below cN.out⟩
  ·exact⟨_,_,_,af aJ.out 2 rfl,A13.out.N3.below cN.out⟩)
 have Ff:Hid (rh [l2,l6,Rw]<=100000):=aa (by have h1:=de H2.out;have h2:=y9 X;have h3:=de H6.out;have h4:=de Rt.out;have h5:(mY X x0).length=3:=rfl;have h6:[kN X].length=1:=rfl;show l2.length+(l6.length+(Rw.length+0))<=100000;omega);go_wp2_with fail;refine (Iw ⟨kr,0,none⟩ 3 3 [l2,l6,Rw] z2 HLS.out rfl ⟨ai _,by decide⟩ Ff.out (by decide)).mono ?_;rintro e y1 ⟨v1,rfl,h1,h2⟩;obtain⟨fl,hfl⟩:∃ q,q=[l2,l6,Rw].flatten:=⟨_,rfl⟩;rw[<-hfl] at h1;have Ok:=aa hfl;clear hfl;obtain⟨o9,c9,rfl,-⟩:=id h1;have A1:=aa h1;have B1:=aa h2;clear h1 h2;go_wp2_with fail;go_ret
 exact⟨_,fl,s9,rfl,A1.out,by rw[hl.out,Ok.out];simp only[List.flatten_cons,List.flatten_nil,dJ,cn,H2.out,H6.out,Rt.out],((bh.out.below cN.out).below B1.out).less Qs,iT.out.up (by omega),(((pX.out.trans jL.out).trans (.aN cN.out)).trans (.aN B1.out))⟩
theorem Lb {B k:Nat} {E:Nat->Prop} {L s:List F} (w:ag) (h:St B k E L s w) (hm:s.length+46<=900000) (i:Nat) (X:F) (hx:s[i]?=some X) (hg:∀ t ∈ cZ X,Gd t) :
  aW aj 72 #[.pointer (some ⟨k,0,none⟩),.int .i64 ((i:Nat):Int)] w (mE B k E L s (cZ X) 46 w):=by
 by_cases h8:X.op=8
 ·exact EF w h hm i X hx hg h8
 by_cases h9:X.op=9
 ·exact Im w h hm i X hx hg h9
 by_cases h10:X.op=10
 ·exact EG w h hm i X hx hg h10
 by_cases h11:X.op=11
 ·exact K_ w h hm i X hx hg h11
 by_cases h7:X.op=7
 ·exact La w h hm i X hx hg h7
 by_cases h5:X.op=5
 ·exact Il w h hm i X hx hg h5
 by_cases h4:X.op=4
 ·exact Io w h hm i X hx hg h4
 refine EE w h hm i X hx hg fun q hq=>?_
 simp only[bz,aU,or_false] at hq;rcases hq with rfl | rfl | rfl | rfl | rfl | rfl | rfl<;>assumption
mutual
theorem kK.tt:∀ (t:F),kK (fun _=>True) t
 | .node o z nm ks=>by rw[kK];exact⟨trivial,gH.tt ks⟩
theorem gH.tt:∀ (l:List F),gH (fun _=>True) l
 | []=>by rw[gH];trivial
 | k::l=>by rw[gH];exact⟨kK.tt k,gH.tt l⟩
end
theorem Bn (s:List F) (t:F):∃ m,rD s t=s++m:=(Bo (P:=fun _=>True) t s (fun _ _=>trivial) (kK.tt t)).2
theorem p8 (s:List F) (l:List F):∃ m,hO s l=s++m:=(uI (P:=fun _=>True) l s (fun _ _=>trivial) (gH.tt l)).2
mutual
theorem Bm:∀ (t:F) (s:List F),s.Nodup->(rD s t).Nodup
 | .node o z nm ks,s,h=>by
  rw[rD]
  split
  ·exact h
  rename_i hn
  refine Bl ks _ ?_;rw[List.nodup_append];exact⟨h,by simp,fun a ha b hb e=>by rw[aZ] at hb;rw[e,hb] at ha;exact hn ha⟩
theorem Bl:∀ (l:List F) (s:List F),s.Nodup->(hO s l).Nodup
 | [],s,h=>by rw[hO];exact h
 | k::l,s,h=>by rw[hO];exact Bl l _ (Bm k s h)
end
theorem Cv:∀ (l:List F) (s m:List F),hO s (l++m)=hO (hO s l) m
 | [],s,m=>by rw[hO];rfl
 | k::l,s,m=>by rw[aR,hO,hO];exact Cv l _ m
theorem vJ {ks:List F} {s:List F} {j:Nat} (h:j<ks.length):hO s (ks.take (j+1))=rD (hO s (ks.take j)) ks[j]:=by
 rw[List.take_succ_eq_append_getElem h,Cv,hO,hO]
theorem Mq {s:List F} {t:F} (h:t ∈ s):rD s t=s:=by
 obtain⟨o,z,nm,ks⟩:=t;rw[rD,if_pos h]
theorem xT {s:List F} {t:F} (h:t ∉ s):rD s t=hO (s++[t]) t.kids:=by
 obtain⟨o,z,nm,ks⟩:=t;rw[rD,if_neg h];rfl
theorem sZ {α:Type}:∀ {l s:List α},l.Nodup->(∀ x ∈ l,x ∈ s)->l.length<=s.length
 | [],s,_,_=>au _
 | a::l,s,h,hs=>by
  obtain⟨p,q,rfl⟩:=List.append_of_mem (hs a (by simp));rw[List.nodup_cons] at h
  have h1:=sZ (l:=l) (s:=p++q) h.2 (fun x hx=>by
   have h2:=hs x (by simp[hx]);rw[Bk,bz] at h2;rw[Bk];rcases h2 with h2 | h2 | h2
   ·exact .inl h2
   ·subst h2;exact absurd hx h.1
   exact .inr h2)
  simp only[eY,mS] at h1 ⊢
  omega
theorem St.AG {B k:Nat} {E E':Nat->Prop} {L s:List F} {w w':ag} {r:Option Nat} (h:St B k E L s w) (hg:w.grownBy w' r)
  (hr:∀ g,r=some g->E g/\B<=g/\∃ c T,w.heap[g]?=some (.cells c T (0,0))/\(T≠163/\T≠167)/\pQ c.toList)
  (hE:∀ g,E' g->E g\/w.heap.size<=g) (hl:∀ g,E' g->g<w'.heap.size):St B k E' L s w':=by
 obtain⟨km,v,us,M,h⟩:=h;obtain⟨w0,h1,h2,h3⟩:=h.tx;have qT:∀ (g:Nat) (c:Array aq) (T:TypeId),w.heap[g]?=some (.cells c T (0,0))->(T=163\/T=167)->some g≠r:=fun g c T hc hT e=>by
  obtain⟨-,-,c',T',qB,OU,-⟩:=hr g e.symm;rw[hc] at qB;injection qB with e1;injection e1 with _ e2;subst e2;rcases hT with hT | hT
  ·exact OU.1 hT
  exact OU.2 hT
 have ek:w'.heap[k]?=w.heap[k]?:=hg.block k (ae h.bk) (qT k _ _ h.bk (.inl rfl));have em:w'.heap[km]?=w.heap[km]?:=hg.block km h.mp.lt (fun e=>by
  obtain⟨-,-,c',T',qB,-⟩:=hr km e.symm;obtain⟨es,cl,hm⟩:=h.mp.obj;rw[hm] at qB;cases qB)
 have kn:KN w w':=by
  intro a z hc;have hla:=World.block_lt_of_cell? w a hc;by_cases hb:some a.block=r
  ·obtain⟨-,-,c,T,qB,-,h32⟩:=hr a.block hb.symm;exact absurd hc (vj qB h32 rfl z)
  rw[dU (hg.block _ hla hb)];exact hc
 have M4:∀ g,¬ E g->some g≠r:=fun g hn e=>hn (hr g e.symm).1
 have no:∀ g,g<w.heap.size->¬ E g->NO B k w g->NO B k w' g:=fun g hlt hn hno=>by
  have hb:=hg.block g hlt (M4 g hn);rintro⟨hB,o⟩;refine hno ⟨hB,?_⟩;rw[hb] at o;rcases o with o | ⟨c,T,a1,a2 | ⟨a2,a3⟩,a4⟩
  ·exact .inl o
  ·exact .inr ⟨c,T,a1,.inl a2,a4⟩
  exact .inr ⟨c,T,a1,.inr ⟨a2,rU (fun _=>ek) g hlt a3⟩,a4⟩
 have ns:∀ g,g<w.heap.size->NS B k E w g->NS B k E' w' g:=fun g hlt hn=>⟨no g hlt hn.2 hn.1,fun he=>by rcases hE g he with h9 | h9;exact hn.2 h9;omega⟩
 exact⟨km,v,us,M,{ h with
  bk:=ek.trans h.bk
  sz:=ah h.sz hg.size
  mp:=h.mp.keep em
  row:=by
   obtain⟨⟨r1,r2⟩,r3,r4⟩:=h.row;refine⟨⟨r1,?_⟩,fun g dD=>?_,fun _ _=>trivial⟩
   ·rcases r2 with r2 | ⟨g,cap,cur,e1,e2,e3,e4⟩
    ·exact .inl r2
    exact .inr ⟨g,cap,cur,e1,e2,(hg.block g (ae e3) (qT g _ _ e3 (.inr rfl))).trans e3,e4⟩
   obtain⟨c,hc,h32⟩:=r3 g dD;exact⟨c,(hg.block g (ae hc) (qT g _ _ hc (.inr rfl))).trans hc,h32⟩
  ft:=fun i u t hu ht=>(((h.ft i u t hu ht).lt).keep (fun g uZ=>hg.block g uZ.2 (M4 g uZ.1.2)) kn).mono fun g uZ=>ns g uZ.2 uZ.1
  ids:=fun i u t hu ht=>by
   obtain⟨ko,kc,e,q1,q2⟩:=h.ids i u t hu ht;refine⟨ko,kc,e,q1,fun j hj=>?_⟩;obtain⟨a,ha,hn,hc⟩:=q2 j hj;have hla:=World.block_lt_of_cell? w _ hc;rw[cI] at hla;exact⟨a,ha,⟨ns _ hla hn.1,by obtain⟨c,qB⟩:=hn.2;exact⟨c,(hg.block _ hla (M4 _ hn.1.2)).trans qB⟩⟩,by rw[dU (w:=w) (by rw[cI];exact hg.block _ hla (M4 _ hn.1.2))];exact hc⟩
  ex:=hl
  tx:=⟨w0,h1,h2,⟨hg.os.trans h3.os,hg.tape.trans h3.tape,hg.output.trans h3.output,ah h3.size hg.size,fun g hgB=>(hg.block g (az hgB h.sz) (fun e=>by have:=(hr g e.symm).2.1;omega)).trans (h3.block g hgB)⟩⟩ }⟩
theorem GS (l:List Co) (i:Nat) (hi:i<l.length):(l.flatMap M5).set (i*7+6) (.bool true)=(l.set i { l[i] with b:=true }).flatMap M5:=by
 induction l generalizing i with
 | nil=>simp at hi
 | cons b l ih =>
  cases i with
  | zero=>rfl
  | succ i =>
   have h1:=ih i (by simpa using hi);simp only[List.flatMap_cons,M5,aR,List.nil_append,bD,Nat.add_mul,Nat.one_mul,List.getElem_cons_succ,show i*7+7+6=(i*7+6)+1+1+1+1+1+1+1 from rfl];rw[<-h1]
theorem Jq {B k:Nat} {E:Nat->Prop} {L s:List F} {w w':ag} {km g n cap:Nat} {us:List Co} {M:Bs->Option aq} (h:Pa B k E L s w km (.slice (some ⟨g,0,none⟩) n cap) us M) {i:Nat} {t:F} (hi:s[i]?=some t) (hw:w'=w.setCell ⟨g,i*7+6,none⟩ (.bool true)):St B k E (L++[t]) s w'/\dz B k w w'/\w'.heap[k]?=w.heap[k]?:=by
 obtain⟨qO,e⟩:=List.getElem?_eq_some_iff.1 hi;have OM:i<us.length:=by rw[h.len];exact qO
 have hts:t ∈ s:=List.mem_of_getElem? hi;have mP:w.grownBy w' (some g):=by
  rw[hw];refine aF ?_ _;exact aI _ _
 obtain⟨c,hc,h32⟩:=h.row.n32 g rfl;have hge:=h.row.ge (j:=g) rfl;have hne:some k≠some g:=fun e=>by injection e with e;have:=hge.1;omega
 have hnm:some km≠some g:=fun e=>by
  injection e with e;obtain⟨es,cl,hm⟩:=h.mp.obj;rw[e,hc] at hm;cases hm
 have hst:dz B k w w':=dz.aL mP (fun q hq=>by
  injection hq with hq;subst hq;exact⟨by have:=hge.1;have:=h.kB;omega,.inr ⟨c,_,hc,.inr ⟨rfl,by have:=hge.1;omega,_,_,h.bk,rfl⟩,h32⟩⟩) hne
 have S9:n=us.length:=by obtain⟨_,_,e,_⟩:=h.row.form;injection e
 have h0:=h.row.own;rw[<-S9] at h0;have h1:=(fG h0 (i*7+6) (.bool true)).1;have h2:=GS us i OM;have ef:nR.f=M5:=rfl;rw[ef,h2,<-hw] at h1;have qB:=aC w g (i*7+6) _ _ (.bool true) hc;rw[<-hw] at qB;obtain⟨hrow,hfr⟩:=h.row.put i { us[i] with b:=true } mP h1 ⟨_,qB,nB h32 _ (by intro z e;cases e)⟩ S9 trivial;have get:∀ (j:Nat) (x:Co),(us.set i { us[i] with b:=true })[j]?=some x->∃ y,us[j]?=some y/\x.u=y.u/\x.ko=y.ko/\x.kl=y.kl/\x.kc=y.kc/\(j=i->x.b=true)/\(j≠i->x.b=y.b):=by
  intro j x hx;by_cases hj:j=i
  ·subst hj;rw[List.getElem?_set_self OM] at hx;injection hx with hx;subst hx;exact⟨_,List.getElem?_eq_getElem OM,rfl,rfl,rfl,rfl,fun _=>rfl,fun h=>absurd rfl h⟩
  rw[List.getElem?_set_ne (fun e=>hj e.symm)] at hx;exact⟨x,hx,rfl,rfl,rfl,rfl,fun e=>absurd e hj,fun _=>rfl⟩
 obtain⟨w0,q1,q2,q3⟩:=h.tx;refine⟨⟨km,_,_,M,{ h with
  bk:=(mP.block k (ae h.bk) hne).trans h.bk
  sz:=ah h.sz mP.size
  mp:=h.mp.keep (mP.block km h.mp.lt hnm)
  row:=hrow
  len:=by rw[bY];exact h.len
  ft:=fun j x y hx hy=>by
   obtain⟨z,hz,e1,-⟩:=get j x hx;rw[e1];exact (h.ft j z y hz hy).wM hst
  ids:=fun j x y hx hy=>by
   obtain⟨z,hz,-,e1,e2,e3,-⟩:=get j x hx;rw[e1,e2,e3];exact (h.ids j z y hz hy).wM hst
  AV:=fun j x y hx hy=>by
   obtain⟨z,hz,-,-,-,-,e1,e2⟩:=get j x hx;by_cases hj:j=i
   ·rw[e1 hj];subst hj;rw[hi] at hy;injection hy with hy;subst hy;exact⟨fun _=>by simp,fun _=>rfl⟩
   rw[e2 hj];have hl:=h.AV j z y hz hy;have hyt:y≠t:=fun e5=>by
    subst e5;exact hj (by rw[<-Ek h.nd hy,Ek h.nd hi])
   rw[hl,Bk,aZ];exact⟨.inl,fun h=>h.resolve_right hyt⟩
  sub:=fun x hx=>by
   rcases List.mem_append.1 hx with hx | hx
   ·exact h.sub x hx
   rw[aZ] at hx;rw[hx];exact hts
  ex:=fun q hq=>az (h.ex q hq) mP.size
  tx:=⟨w0,q1,q2,q3.trans (hst.below h.sz)⟩ }⟩,hst,mP.block k (ae h.bk) hne⟩
structure tN (B k kt:Nat) (v v':aq) (w w':ag):Prop where
 os:w'.os=w.os
 tape:w'.tape=w.tape
 output:w'.output=w.output
 size:w.heap.size<=w'.heap.size
 block:∀ g,g<w.heap.size->¬ Own B k w g->g≠kt->v.ownBlock≠some g->w'.heap[g]?=w.heap[g]?
 row:∀ g,g<w.heap.size->zP k w' g->zP k w g
 own:∀ g,v'.ownBlock=some g->v.ownBlock=some g\/w.heap.size<=g
 hk:w'.heap[k]?=w.heap[k]?
section
variable {B k kt:Nat} {v v1 v2:aq} {w w' a b c:ag}
theorem tN.refl (B k kt:Nat) (v:aq) (w:ag):tN B k kt v v w w:=⟨rfl,rfl,rfl,ai _,fun _ _ _ _ _=>rfl,fun _ _ h=>h,fun _ h=>.inl h,rfl⟩
theorem tN.no (h:tN B k kt v v1 w w') {g:Nat} (hg:g<w.heap.size) (hn:¬ Own B k w g) (h1:g≠kt) (h2:v.ownBlock≠some g):¬ Own B k w' g:=by
 rintro⟨hB,o⟩;refine hn ⟨hB,?_⟩;rw[h.block g hg hn h1 h2] at o;rcases o with o | ⟨c,T,a1,a2 | ⟨a2,a3⟩,a4⟩
 ·exact .inl o
 ·exact .inr ⟨c,T,a1,.inl a2,a4⟩
 exact .inr ⟨c,T,a1,.inr ⟨a2,h.row g hg a3⟩,a4⟩
theorem tN.trans (h:tN B k kt v v1 a b) (q:tN B k kt v1 v2 b c):tN B k kt v v2 a c where
 os:=q.os.trans h.os
 tape:=q.tape.trans h.tape
 output:=q.output.trans h.output
 size:=ah h.size q.size
 block g hg hn h1 h2:=(q.block g (az hg h.size) (h.no hg hn h1 h2) h1 (fun e=>by
  rcases h.own g e with e | e
  ·exact h2 e
  omega)).trans (h.block g hg hn h1 h2)
 row g hg hr:=h.row g hg (q.row g (az hg h.size) hr)
 own g hg:=by
  rcases q.own g hg with e | e
  ·exact h.own g e
  exact .inr (ah h.size e)
 hk:=q.hk.trans h.hk
theorem tN.JN (h:dz B k w w') (hk:w'.heap[k]?=w.heap[k]?):tN B k kt v v w w':=⟨h.os,h.tape,h.output,h.size,fun g hg hn _ _=>h.block g hg hn,h.row,fun _ h=>.inl h,hk⟩
theorem tN.aN (h:aA w.heap.size w w') (hk:k<w.heap.size):tN B k kt v v w w':=tN.JN (.aN h) (h.block k hk)
theorem tN.aL {r:Option Nat} (h:w.grownBy w' r) (hlk:k<w.heap.size) (hr:∀ g,r=some g->g=kt\/v.ownBlock=some g) (hk:some k≠r) (ho:∀ g,v1.ownBlock=some g->v.ownBlock=some g\/w.heap.size<=g):tN B k kt v v1 w w':=
 ⟨h.os,h.tape,h.output,h.size,fun g hg _ h1 h2=>h.block g hg (fun e=>by
  rcases hr g e.symm with e | e
  ·exact h1 e
  exact h2 e),rU fun hl=>h.block k hl hk,ho,h.block k hlk hk⟩
theorem tN.wM {w0:ag} (h:tN B k kt v v1 w w') (hk:w0.heap.size<=kt) (hv:∀ g,v.ownBlock=some g->w0.heap.size<=g) (h0:dz B k w0 w):dz B k w0 w':=
 ⟨h.os.trans h0.os,h.tape.trans h0.tape,h.output.trans h0.output,ah h0.size h.size,
  fun g hg hn=>(h.block g (az hg h0.size) (h0.no hg hn) (by omega) (fun e=>by have:=hv g e;omega)).trans (h0.block g hg hn),
  fun g hg hr=>h0.row g hg (h.row g (az hg h0.size) hr)⟩
theorem IL.O2 {E:Nat->Prop} {ko:Option Addr} {n kc:Nat} {l:List Nat} (h:IL B k E w (.slice ko n kc) l) (f:tN B k kt v v1 w w') (hE:∀ g,g=kt\/v.ownBlock=some g->E g) (j:Nat) (hj:j<l.length):∃ a,ko=some a/\w'.cell? (a.add j)=some (.int .i64 ((l[j]:Nat):Int)):=by
 obtain⟨AX,A2,e,-,h2⟩:=h;injection e with e1 e2 e3;subst e1;obtain⟨a,ha,hn,hc⟩:=h2 j hj;have hl:=World.block_lt_of_cell? w _ hc;rw[cI] at hl;exact⟨a,ha,by rw[dU (w:=w) (by rw[cI];exact f.block _ hl hn.1.1 (fun e=>hn.1.2 (hE _ (.inl e))) (fun e=>hn.1.2 (hE _ (.inr e))))];exact hc⟩
theorem vT {ko:Option Addr} {n kc:Nat} {l:List Nat} (h:iI.At w (.slice ko n kc) l) (f:dz B k w w') (j:Nat) (hj:j<l.length):∃ a,ko=some a/\w'.cell? (a.add j)=some (.int .i64 ((l[j]:Nat):Int)):=by
 obtain⟨AX,A2,e,-,h2⟩:=h;injection e with e1 e2 e3;subst e1;obtain⟨a,ha,⟨c,hc⟩,h3,-⟩:=h2 j hj;refine⟨a,ha,?_⟩;have h4:=h3 0 (.int .i64 ((l[j]:Nat):Int)) rfl;have e:a.add (j*iI.n+0)=a.add j:=by rw[show iI.n=1 from rfl,Nat.mul_one,Nat.add_zero]
 rw[e] at h4;rw[dU (w:=w) (by rw[cI];exact f.block _ (ae hc) (NO.cells hc (by decide)))];exact h4
end
noncomputable def mR (L L':List F):List F:=(L'.drop L.length).filter nb
theorem sX (L:List F):mR L L=[]:=by unfold mR;simp
theorem om {L L1 L2:List F} (h:∃ m,L1=L++m) (g:∃ m,L2=L1++m):mR L L2=mR L L1++mR L1 L2:=by
 obtain⟨m,rfl⟩:=h;obtain⟨q,rfl⟩:=g;unfold mR;rw[bg,List.drop_left,List.drop_left,<-bg,List.drop_left,List.filter_append]
theorem CQ (L:List F) (t:F):mR L (L++[t])=if nb t then [t] else []:=by
 unfold mR;rw[List.drop_left,List.filter_cons,List.filter_nil]
theorem JW {L L1:List F} (h:∃ m,L1=L++m):(mR L L1).length+L.length<=L1.length:=by
 obtain⟨m,rfl⟩:=h;unfold mR;rw[List.drop_left,eY];have:=List.length_filter_le nb m
 omega
structure Cd (B k ks kt kv B0:Nat) (fv:aq) (E:Nat->Prop) (L s T:List F) (v:aq) (ids:List Nat) (w:ag):Prop where
 bs:w.heap[ks]?=some (.cells #[.pointer (some ⟨k,0,none⟩)] 112 (0,0))
 bt:w.heap[kt]?=some (.cells #[v] 114 (0,0))
 bv:w.heap[kv]?=some (.cells #[fv] 164 (0,0))
 row:iI.Row w B0 v ids
 ids:ids.map (fun i=>s[i]?)=T.map some
 st:St B k (fun g=>E g\/g=kt\/v.ownBlock=some g) L s w
 nd:L.Nodup
 tl:T.length<=L.length
 lo:B<=kt/\kt<B0/\ks<B0/\kv<B0
 sz:B0<=w.heap.size
section
variable {B k ks kt kv B0:Nat} {fv:aq} {E:Nat->Prop} {L s T:List F} {v:aq} {ids:List Nat} {w w':ag}
theorem Cd.below (h:Cd B k ks kt kv B0 fv E L s T v ids w) (hb:aA w.heap.size w w'):Cd B k ks kt kv B0 fv E L s T v ids w':=
 { h with
  bs:=(hb.block _ (ae h.bs)).trans h.bs
  bt:=(hb.block _ (ae h.bt)).trans h.bt
  bv:=(hb.block _ (ae h.bv)).trans h.bv
  row:=h.row.below hb
  st:=h.st.below hb
  sz:=ah h.sz hb.size }
theorem Cd.WH (h:Cd B k ks kt kv B0 fv E L s T v ids w):ks≠kt/\kv≠kt:=by
 constructor
 ·intro e;have h1:=h.bs;rw[e,h.bt] at h1;injection h1 with h1;injection h1 with _ h1;exact absurd h1 (by decide)
 intro e;have h1:=h.bv;rw[e,h.bt] at h1;injection h1 with h1;injection h1 with _ h1;exact absurd h1 (by decide)
theorem Cd.room (h:Cd B k ks kt kv B0 fv E L s T v ids w):ids.length<=900000/\L.length<=s.length:=by
 obtain⟨km,v0,us,M,hU⟩:=h.st;have h1:=sZ h.nd hU.sub;have h2:=de h.ids;have h3:=hU.max;have h4:=h.tl;exact⟨by omega,h1⟩
theorem St.nodeAt {B k km g n cap:Nat} {E:Nat->Prop} {L s:List F} {w:ag} (h:St B k E L s w) (hk:w.heap[k]?=some (.cells #[.map (some km),.slice (some ⟨g,0,none⟩) n cap] 163 (0,0))) {i:Nat} {t:F} (hi:s[i]?=some t) :
  ∃ qo ql qc,w.cell? ⟨g,i*7+5,none⟩=some (.slice qo ql qc)/\IL B k E w (.slice qo ql qc) (t.kids.map (idx s)):=by
 obtain⟨km',v0,us,M,hU⟩:=h;obtain⟨g',cap',u,qo,ql,qc,q,⟨rfl,qO,hcap,rL⟩,⟨-,-,-,-,-,c5,c6⟩,-,jU,-⟩:=hU.node hi;have e:=hU.bk;rw[hk] at e;simp only[Option.some.injEq,Obj.cells.injEq,Array.mk.injEq,List.cons.injEq,Value.slice.injEq,Addr.mk.injEq] at e;obtain⟨⟨-,⟨⟨rfl,-⟩,-⟩,-⟩,-⟩:=e;exact⟨qo,ql,qc,c5,jU⟩
theorem Cd.mark (h:Cd B k ks kt kv B0 fv E L s T v ids w) {t:F} (hn:t ∉ L) (hst:St B k (fun g=>E g\/g=kt\/v.ownBlock=some g) (L++[t]) s w') (hs:dz B k w w'):Cd B k ks kt kv B0 fv E (L++[t]) s T v ids w':=
 { h with
  bs:=(hs.block _ (ae h.bs) (NO.cells h.bs (by decide))).trans h.bs
  bt:=(hs.block _ (ae h.bt) (NO.cells h.bt (by decide))).trans h.bt
  bv:=(hs.block _ (ae h.bv) (NO.cells h.bv (by decide))).trans h.bv
  row:=kC h.row hs
  st:=hst
  nd:=by
   rw[List.nodup_append];exact⟨h.nd,by simp,fun a ha b hb e=>by rw[aZ] at hb;rw[e,hb] at ha;exact hn ha⟩
  tl:=by rw[eY];have:=h.tl;omega
  sz:=ah h.sz hs.size }
theorem Cd.add (h:Cd B k ks kt kv B0 fv E L s T v ids w) {w1:ag} {v1:aq} {i:Nat} {t:F} (hi:s[i]?=some t) (hl:T.length+1<=L.length) (hrow:iI.Row w1 B0 v1 (ids++[i])) (hg:w.grownBy w1 v.ownBlock) (hf:mX w v v1) (hw:w'=w1.setCell ⟨kt,0,none⟩ v1) (h32:∀ z,v1 ≠ .int .u32 z) (XM:∀ z,v ≠ .int .u32 z) :
  Cd B k ks kt kv B0 fv E L s (T++[t]) v1 (ids++[i]) w'/\tN B k kt v v1 w w':=by
 obtain⟨ne1,ne2⟩:=h.WH;have low:∀ g,v.ownBlock=some g->B0<=g:=fun g hg=>(h.row.ge hg).1
 have Sy:∀ g,v1.ownBlock=some g->B0<=g/\g<w1.heap.size:=fun g hg=>hrow.ge hg
 obtain⟨l1,l2,l3,l4⟩:=h.lo;have keep:∀ (g:Nat) (o:Obj),w.heap[g]?=some o->g<B0->w1.heap[g]?=some o:=fun g o ho hlt=>(hg.block g (ae ho) (fun e=>by have:=low g e.symm;omega)).trans ho
 have dm:=keep kt _ h.bt l2;have fK:w1.grownBy w' (some kt):=by
  rw[hw];refine aF ?_ _;exact aI _ _
 have Kl:∀ (g:Nat) (o:Obj),w1.heap[g]?=some o->g≠kt->w'.heap[g]?=some o:=fun g o ho hne=>(fK.block g (ae ho) (fun e=>hne (by injection e))).trans ho
 have Xw:w'.heap[kt]?=some (.cells #[v1] 114 (0,0)):=by rw[hw];exact aC w1 kt 0 _ _ v1 dm
 have hkB:∀ g,v1.ownBlock=some g->g≠kt:=fun g hg e=>by have:=(Sy g hg).1;omega
 have aJd:B<=w.heap.size:=by obtain⟨km,v0,us,M,hU⟩:=h.st;exact hU.sz
 have Tf:some k≠v.ownBlock/\some k≠some kt:=by
  obtain⟨km,v0,us,M,hU⟩:=h.st;refine⟨fun e=>?_,fun e=>?_⟩
  ·obtain⟨c,hc,-⟩:=h.row.n32 k e.symm;have h9:=hU.bk;rw[hc] at h9;injection h9 with h9;injection h9 with _ h9;exact absurd h9 (by decide)
  injection e with e;have h9:=hU.bk;rw[e,h.bt] at h9;injection h9 with h9;injection h9 with _ h9;exact absurd h9 (by decide)
 have P5:St B k (fun g=>E g\/g=kt\/v1.ownBlock=some g) L s w1:=by
  refine h.st.AG hg (fun g hr=>?_) (fun g uZ=>?_) (fun g uZ=>?_)
  ·obtain⟨c,hc,h32⟩:=h.row.n32 g hr;exact⟨.inr (.inr hr),by have:=low g hr;omega,c,_,hc,by decide,h32⟩
  ·rcases uZ with e | e | e
   ·exact .inl (.inl e)
   ·exact .inl (.inr (.inl e))
   rcases hf g e with e | e
   ·exact .inl (.inr (.inr e))
   exact .inr e
  rcases uZ with e | e | e
  ·obtain⟨km,v0,us,M,hU⟩:=h.st;exact az (hU.ex g (.inl e)) hg.size
  ·rw[e];exact ae dm
  exact (Sy g e).2
 have P4:St B k (fun g=>E g\/g=kt\/v1.ownBlock=some g) L s w':=by
  refine P5.AG fK (fun g hr=>?_) (fun g uZ=>.inl uZ) (fun g uZ=>?_)
  ·injection hr with hr;subst hr;refine⟨.inr (.inl rfl),l1,_,_,dm,by decide,?_⟩;intro u hu z;simp only[bz,aU,or_false] at hu;rw[hu];exact XM z
  obtain⟨km,v0,us,M,hU⟩:=P5;exact az (hU.ex g uZ) fK.size
 have SO:iI.Row w' B0 v1 (ids++[i]):=by
  have blk:∀ (g:Nat) (c:Array aq),w1.heap[g]?=some (Obj.cells c 116 (0,0))->w'.heap[g]?=some (Obj.cells c 116 (0,0)):=fun g c hc=>Kl g _ hc (fun e=>by
   rw[e,dm] at hc;injection hc with hc;injection hc with _ hc;exact absurd hc (by decide))
  obtain⟨⟨h1,h2⟩,h3,h4⟩:=hrow;refine⟨⟨h1,?_⟩,fun g hg=>?_,fun _ _=>trivial⟩
  ·rcases h2 with h2 | ⟨g,cap,cur,e1,e2,e3,e4⟩
   ·exact .inl h2
   exact .inr ⟨g,cap,cur,e1,e2,blk g cur e3,e4⟩
  obtain⟨c,hc,h32⟩:=h3 g hg;exact⟨c,blk g c hc,h32⟩
 refine⟨{
  bs:=Kl ks _ (keep ks _ h.bs l3) ne1
  bt:=Xw
  bv:=Kl kv _ (keep kv _ h.bv l4) ne2
  row:=SO
  ids:=by rw[cn,cn,h.ids,aO,bM,hi];rfl
  st:=P4
  nd:=h.nd
  tl:=by rw[eY];exact hl
  lo:=h.lo
  sz:=ah h.sz (ah hg.size fK.size) },?_⟩
 exact (tN.aL (v1:=v1) hg h.st.sK.2 (fun g e=>.inr e) Tf.1 (fun g e=>hf g e)).trans (tN.aL fK P5.sK.2 (fun g e=>by injection e with e;exact .inl e.symm) Tf.2 (fun g e=>.inl e))
end
theorem El.Row.N4 {α:Type} {E:El α} {w:ag} {B:Nat} {v:aq} {el ns:List α} (h:E.Row w B v el) {ops:Array Oper} {rest:List Oper} {o:Oper} {a:Act} {Q:Exit->Act->ag->Prop} (hgd:o.guard=none) (s y:Operand) (b:Addr) (m c:Nat)
  (ho:o.op=.call { callee:=.builtin .append,args:=#[s,y],argTypes:=#[E.t,E.t] }) (hs:a.eval s=v) (hx:a.eval y=.slice (some b) m c) (hxs:E.At w (.slice (some b) m c) ns) (h0:0<ns.length) (hlen:el.length+ns.length<=1000000) (hB:B<=w.heap.size)
  (hK:∀ v' w',E.Row w' B v' (el++ns)->mX w v v'->w.grownBy w' v.ownBlock->wpList aj ops Q rest (a.put o.dst v') w'):wpList aj ops Q (o::rest) a w:=by
 refine wpList_plain hgd fun K hk=>?_
 obtain⟨v',w',hr,h2,h3,h4,h5⟩:=h.run hxs o.type hlen hB;have hf:=AL h hxs h0 hlen o.type hr;unfold Oper.wp execOp;simp only[ho,resolve,invoke,builtin,Sem.run_bind,Sem.run_pure,Result.andThen_ok,List.map_toArray,aO,bM,hs,hx,hr];exact hk _ _ (hK v' w' h2 hf h5)
attribute [local go_sem] eF eE eC eB
theorem Tg.up {d:Nat} {t:F} (h:Tg d t):∀ {d':Nat},d<=d'->Tg d' t
 | 0,hd=>by cases d with | zero=>exact h | succ d=>omega
 | d'+1,hd=>by
  by_cases e:d=d'+1
  ·rw[<-e];exact h
  exact (Tg.up h (by omega)).LR
theorem Nk {w:ag} {B g n kc:Nat} {el:List Nat} (h:iI.Row w B (.slice (some ⟨g,0,none⟩) n kc) el) (i:Nat) (hi:i<el.length) (hn:n=el.length) (a:Nat) {w':ag} (hw:w'=w.setCell ⟨g,i,none⟩ (.int .i64 ((a:Nat):Int))) :
  iI.Row w' B (.slice (some ⟨g,0,none⟩) n kc) (el.set i a)/\w.grownBy w' (some g):=by
 have hg:w.grownBy w' (some g):=by
  rw[hw];refine aF ?_ _;exact aI _ _
 have h0:=h.own;rw[<-hn] at h0;have h1:=(fG h0 i (.int .i64 ((a:Nat):Int))).1;have h2:(el.flatMap iI.f).set i (.int .i64 ((a:Nat):Int))=(el.set i a).flatMap iI.f:=by rw[uX,uX,List.map_set]
 rw[h2,<-hw] at h1;obtain⟨c,hc,h32⟩:=h.n32 g rfl;have qB:=aC w g i _ _ (.int .i64 ((a:Nat):Int)) hc;rw[<-hw] at qB;exact⟨(h.put i a hg h1 ⟨_,qB,nB h32 _ (by intro z e;cases e)⟩ hn trivial).1,hg⟩
theorem KA {w:ag} {B g n kc:Nat} {el:List Nat} (h:iI.Row w B (.slice (some ⟨g,0,none⟩) n kc) el) (hn:n=el.length) {i:Nat} (hi:i<el.length):w.cell? ⟨g,i,none⟩=some (.int .i64 ((el[i]:Nat):Int))/\w.frozen? ⟨g,i,none⟩=false:=by
 obtain⟨c,hc,h32⟩:=h.n32 g rfl;have h0:=h.own;rw[<-hn] at h0;refine⟨?_,aP hc _⟩;rw[World.ownsRow.cellAt h0 i (by show i<n*1;omega),uX,List.getElem?_map,List.getElem?_eq_getElem hi]
 rfl
theorem QV (d:Nat):∀ (B k:Nat) (E:Nat->Prop) (L s:List F) (w:ag) (v:aq) (t:F),St B k E L s w->FC w (NS B k E w) d v t->rt t=true->Tg d t->d<=9->s.length+IQ t<=900000 ->
  aW aj 71 #[.pointer (some ⟨k,0,none⟩),v] w (gO B k E L s t (IQ t) w):=by
 induction d with
 | zero=>intro B k E L s w v t _ _ _ h;exact absurd h id
 | succ d ih =>
  intro B k E L s w v t hst h qg KB hd hsz;have HG:Hid (Gd t):=aa ⟨qg,KB.up hd⟩;have HF:=aa h;have UX:Hid (∀ q ∈ t.kids,rt q=true/\Tg d q):=aa (fun q hq=>⟨(di HG.out hq).1,KB.2.2.2.2 q hq⟩);have Qf:t.kids.length<=8:=KB.2.2.2.1;obtain⟨b,ao,l,c,ko,kl,kc,rfl,⟨hr,hz,iy,hkc,hkm⟩,-,hk⟩:=h.open;have nP:Hid (s.length+(1+nW t.kids)<=900000):=aa (by obtain⟨o,z,nm,ks⟩:=t;rw[IQ] at hsz;simp only[F.kids];omega);have V2:Hid (IQ t=1+nW t.kids):=aa (by obtain⟨o,z,nm,ks⟩:=t;rw[IQ];rfl);obtain⟨o,ho⟩:∃ o,o=t.op:=⟨_,rfl⟩;obtain⟨nm,hnm⟩:∃ o,o=t.name:=⟨_,rfl⟩;obtain⟨ks,hks⟩:∃ o,o=t.kids:=⟨_,rfl⟩;rw[<-ho,<-hnm] at HF ⊢;rw[<-hks] at iy hk Qf UX nP V2;have DL:=aa hks;have HN:=aa iy;have Ok:=aa hk
  have bO:=aa hst;have Q_:=aa hst;have IH:=aa ih;have HD:Hid (d<=9):=aa (by omega);have As:kc<=9223372036854775807:=hkm;have aJp:kl<=8:=by omega
  have Rh:=aa (dz.refl B k w);clear hst h qg KB hd hsz hr hz iy hkm hk ih ho hnm hks Qf;go_enter Tryz.func71,Tryz.ntmps71;obtain⟨x1,kf,ef,jK,bL,jc,aE⟩:=aM w #[.int .i64 o,.bool b,.slice ao l c,.string nm,.slice ko kl kc] 29;replace bO:=aa (bO.out.below bL.out);replace Rh:=aa (Rh.out.trans (dz.aN bL.out));obtain⟨⟨c0,c1,c2,c3,c4⟩,-⟩:=ak aE.out;obtain⟨kb,hkb⟩:∃ k,x1.heap.size=k:=⟨_,rfl⟩;go_upto_region 2 with (first | (at_make;refine kX iI 0 rfl (fun _=>trivial) _ rfl _ _ rfl x1.heap.size _ _ _ _ kl rfl rfl (by first | rfl | simp) (by first | rfl | simp) (by omega) (ai _) ?_;intro y2 hrow dI) | fail);rw[hkb] at hrow;have HR:=aa (show iI.Row y2 kb (.slice (some ⟨kb,0,none⟩) kl kl) (List.replicate kl 0) from hrow)
  have RP:Hid (w.heap.size<=kb):=aa (by rw[<-hkb];exact Rh.out.size);have Oc:Hid (St B k (fun g=>E g\/g=kb) L s y2):=aa (by
   have h1:=bO.out.own (v:=.slice (some ⟨kb,0,none⟩) kl kl) (g:=kb) dI rfl (by rw[hkb];exact ai _) (HR.out.ge rfl).2;exact h1.less (fun g hg=>hg.imp id (fun e=>by rw[e];rfl)))
  replace aE:=aS dI aE;replace Rh:=aa (Rh.out.trans (dz.aN dI));have Wa:Hid (kf<y2.heap.size):=aa (ae aE.out);clear hrow dI hkb c0 c1 c2 c3 c4;obtain⟨⟨c0,c1,c2,c3,c4⟩,-⟩:=ak aE.out;go_wp2_with fail;clear c0 c1 c2 c3 c4;go_loopw [15] (fun i wr=>∃ (j:Nat) (el:List Nat) (s':List F),i=.int .i64 (j:Nat)/\j<=kl/\Hid (el.length=kl)/\Hid (St B k (fun g=>E g\/g=kb) L s' wr)/\Hid (Ext s s' (nW (ks.take j)))/\Hid (∀ q (h1:q<el.length) (h2:q<ks.length),q<j->s'[el[q]]?=some ks[q])/\Hid (iI.Row wr kb (.slice (some ⟨kb,0,none⟩) kl kl) el)/\Hid (dz B k w wr)/\Hid (wr.heap[kf]?=some (.cells #[.int .i64 o,.bool b,.slice ao l c,.string nm,.slice ko kl kc] 29 (0,0)))) (fun i _=>kl - (intOf i).toNat)
  case atStart=>exact⟨0,_,s,rfl,au _,aa List.length_replicate,Oc,aa (by rw[Cs,nW];exact Ext.refl s),aa (fun q _ _ h=>absurd h (Nat.not_lt_zero _)),HR,Rh,aE⟩
  case round =>
   clear HR Oc Rh aE bO;obtain⟨j,el,s',rfl,hj,HE,bO,RR,HT,HR,HP,aE⟩:=hrel;by_cases hlt:j<kl
   ·have lN:j<ks.length:=by rw[<-HN.out];exact hlt
    have HX:=aa (FL.grow Ok.out HP.out (E1:=fun g=>E g\/g=kb) (fun g hg=>hg.imp id (fun e=>by rw[e];exact RP.out)));obtain⟨a,bb,qo,ql,qc,po,pl,pc,rfl,⟨c0,c1,c2,c3,c4⟩,hf⟩:=HX.out.cells j lN;have vt:=aa hf;have HKJ:=aa (UX.out ks[j] (ct lN));have Pd:Hid (s'.length+IQ ks[j]<=900000/\nW (ks.take (j+1))=nW (ks.take j)+IQ ks[j]):=aa (by
     have h1:=RR.out.len;have h2:=GH ks j lN;have h3:=Bu ks (j+1);have h4:=nP.out;exact⟨by omega,h2⟩)
    clear hf;obtain⟨x,vA⟩:∃ x,x=ks[j].op:=⟨_,rfl⟩;obtain⟨ym,Nl⟩:∃ x,x=ks[j].name:=⟨_,rfl⟩;rw[<-vA] at c0 vt;rw[<-Nl] at c3 vt;clear vA Nl;obtain⟨x4,k8,e8,VP,Ae,Qf,Aj⟩:=aM wr #[.int .i64 x,.bool bb,.slice qo ql qc,.string ym,.slice po pl pc] 29;have ZS:=bO.out.below Ae.out;have ZU:=HP.out.trans (dz.aN Ae.out);have U7:=aa (vt.out.wM (dz.aN Ae.out));replace HR:=aa (kC HR.out (dz.aN (B:=B) (k:=k) Ae.out));replace aE:=aS Ae.out aE;have I4:=aa ZS;have Rf:=aa ZU;obtain⟨⟨g0,g1,g2,g3,g4⟩,ni,nh,oH,oG,oF⟩:=ak Aj.out;clear ZS ZU bO HP vt HX;go_wp2_with fail;refine (IH.out _ _ _ _ _ x4 _ ks[j] I4.out U7.out HKJ.out.1 HKJ.out.2 HD.out Pd.out.1).mono ?_;rintro e x5 ⟨i,s2,rfl,q1,q2,q3,q4⟩
    clear c0 c1 c2 c3 c4 g0 ni g1 nh g2 oH g3 oG g4 oF;have RM:=aa q1;have U9:=aa q2;have HI5:=aa q3;have HP5:=aa (Rf.out.trans q4);replace HR:=aa (kC HR.out q4);replace aE:Hid (x5.heap[kf]?=_):=aa ((q4.block kf (ae aE.out) (NO.cells aE.out (by decide))).trans aE.out);clear q1 q2 q3 q4 U7;obtain⟨n0,nf0⟩:=KA HR.out HE.out.symm (i:=j) (by rw[HE.out];exact hlt);go_wp2_with fail;go_roundw
    case rel =>
     obtain⟨r1,r2⟩:=Nk HR.out j (by rw[HE.out];exact hlt) HE.out.symm i rfl;obtain⟨cc,tj,h32⟩:=HR.out.n32 kb rfl;have WW:=RM.out.AG (E':=fun g=>E g\/g=kb) r2 (fun g hg=>by
      injection hg with hg;subst hg;exact⟨.inr rfl,ah (by obtain⟨km,v0,us,M,hU⟩:=Q_.out;exact hU.sz) RP.out,cc,_,tj,by decide,h32⟩) (fun g hg=>.inl hg) (fun g hg=>by
      obtain⟨km,v0,us,M,hU⟩:=RM.out;exact az (hU.ex g hg) r2.size)
     have hkw:=Q_.out;refine⟨j+1,el.set j i,s2,by go_num,hlt,aa (by rw[bY];exact HE.out),aa WW,aa (RR.out.trans U9.out (by rw[Pd.out.2];exact ai _)),aa (fun q h1 h2 h3=>?_),aa r1,aa (HP5.out.app r2 (fun g hg=>by injection hg with hg;rw[<-hg];exact RP.out) (by obtain⟨km,v0,us,M,hU⟩:=hkw;exact ae hU.bk)),aa ((r2.block kf (ae aE.out) (fun e=>by injection e with e;have h5:=aE.out;rw[e,tj] at h5;injection h5 with h5;injection h5 with _ h5;exact absurd h5 (by decide))).trans aE.out)⟩;by_cases hqj:q=j
     ·subst hqj;rw[List.getElem_set_self];exact HI5.out
     rw[List.getElem_set_ne (fun e=>hqj e.symm)];exact U9.out.get (HT.out q (by rw[bY] at h1;exact h1) h2 (by omega))
    case measure=>simp[intOf];omega
   have ej:j=kl:=by omega
   subst ej;obtain⟨⟨c0,c1,c2,c3,c4⟩,-⟩:=ak aE.out;go_wp2_with fail;have jU:el.map (fun i=>s'[i]?)=ks.map some:=by
    apply List.ext_getElem
    ·rw[cT,cT,HE.out,HN.out]
    intro q h1 h2;rw[cT] at h1 h2;rw[gp,gp];exact HT.out q h1 h2 (by rw[<-HE.out];exact h1)
   have hS:=bO.out.less (E':=E) (fun g hg=>.inl hg);have qO:=Kz (B:=B) (k:=k) (E:=E) HR.out (fun g hg he=>by
    injection hg with hg;obtain⟨km,v0,us,M,hU⟩:=Q_.out;have h1:=hU.ex g he;have h2:=RP.out;have h3:kb=g:=hg;omega)
   rw[xW hS.nd el ks jU,DL.out] at qO;refine (yQ wr hS (by have h1:=RR.out.len;have h2:=nP.out;rw[show ks.take j=ks from cw (by rw[<-HN.out];exact ai _)] at h1;omega) (d+1) _ _ (HF.out.wM HP.out) HG.out _ qO (by rw[<-DL.out];exact xV el ks jU)).mono ?_;rintro e x2 ⟨i,s2,rfl,q1,q2,q3,q4⟩;have H1:=aa q1;have H2:=aa q2;have H3:=aa q3;have H4:=aa (HP.out.trans q4);clear q1 q2 q3 q4 hS qO jU c0 c1 c2 c3 c4;go_wp2_with fail;go_ret;exact⟨i,s2,rfl,H1.out,RR.out.trans H2.out (by rw[V2.out,show ks.take j=ks from cw (by rw[<-HN.out];exact ai _)];omega),H3.out,H4.out⟩
attribute [local go_sem] eF eE eC eB
theorem Mp (d:Nat):∀ (B k ks kt kv B0:Nat) (E:Nat->Prop) (L s T:List F) (v:aq) (ids:List Nat) (w:ag) (i:Nat) (t:F),
  Cd B k ks kt kv B0 (.func (.func 118) #[] #[.pointer (some ⟨ks,0,none⟩),.pointer (some ⟨kt,0,none⟩),.pointer (some ⟨kv,0,none⟩)]) E L s T v ids w->s[i]?=some t->Tg d t ->
  aW aj 118 #[.int .i64 ((i:Nat):Int),.pointer (some ⟨ks,0,none⟩),.pointer (some ⟨kt,0,none⟩),.pointer (some ⟨kv,0,none⟩)] w fun e w'=>(∃ q,e=.returned q)/\∃ v' ids',Cd B k ks kt kv B0 (.func (.func 118) #[] #[.pointer (some ⟨ks,0,none⟩),.pointer (some ⟨kt,0,none⟩),.pointer (some ⟨kv,0,none⟩)]) E (rD L t) s (T++mR L (rD L t)) v' ids' w'/\tN B k kt v v' w w':=by
 induction d with
 | zero=>intro B k ks kt kv B0 E L s T v ids w i t _ _ h;exact absurd h id
 | succ d ih =>
  intro B k ks kt kv B0 E L s T v ids w i t h hi KB;obtain⟨po,pc,rfl,OH,Hx,-⟩:=h.row.form;have HRO:=aa h.room;have HP1:Hid (ids.length<=pc):=aa OH;obtain⟨pn,Zy⟩:∃ n,n=ids.length:=⟨_,rfl⟩;rw[<-Zy] at h ⊢;have HV:=aa h;have HI:=aa hi;have UX:Hid (∀ q ∈ t.kids,Tg d q):=aa KB.2.2.2.2;have HK8:Hid (t.kids.length<=8):=aa KB.2.2.2.1;have HLO:=aa h.lo;have IH:=aa ih;obtain⟨km,v0,us,M,hU⟩:=id h.st;obtain⟨g,cap,u,qo,ql,qc,q,⟨rfl,qO,hcap,rL⟩,⟨-,-,-,-,-,-,c6⟩,-,-,hq⟩:=hU.node hi;have HU:=aa hU;have zn:cap<=9223372036854775807:=rL;have hpm:pc<=9223372036854775807:=Hx;have d1:=af (v:=.slice (some ⟨g,0,none⟩) s.length cap) hU.bk 1 rfl;have s0:=af (v:=.pointer (some ⟨k,0,none⟩)) h.bs 0 rfl
  obtain⟨cc,tj,-⟩:=hU.row.n32 g rfl;have f6:=aP tj (i*7+6);clear tj hU h hi KB ih Zy OH Hx;cases q with
  | true =>
   have HQ:Hid (t ∈ L):=aa (hq.1 rfl);clear hq;go_enter Tryz.func118,Tryz.ntmps118;go_wp2_with fail;exact bodyPost_ret (results_none Tryz.results118 _ _ _) rfl ⟨⟨_,rfl⟩,_,ids,by rw[Mq HQ.out,sX,dJ];exact HV.out,tN.refl _ _ _ _ _⟩
  | false =>
   have HQ:Hid (t ∉ L):=aa (fun h=>by have:=hq.2 h;cases this);clear hq;go_enter Tryz.func118,Tryz.ntmps118;go_upto_region 3 with fail;obtain⟨w1,SI⟩:∃ x,x=w.setCell ⟨g,i*7+6,none⟩ (.bool true):=⟨_,rfl⟩;rw[<-SI];obtain⟨m1,m2,m3⟩:=Jq HU.out HI.out SI;have I3:=aa (HV.out.mark HQ.out m1 m2);have RQ:=aa (tN.JN (kt:=kt) (v:=.slice po pn pc) m2 m3);clear m1 m2 m3 d1 s0 f6 c6 SI;have s0:=af (v:=.pointer (some ⟨k,0,none⟩)) I3.out.bs 0 rfl;go_wp2_with fail;refine (Bw w1 I3.out.st i t HI.out).mono ?_;rintro e w2 ⟨rfl,hb⟩;replace RQ:=aa (RQ.out.trans (tN.aN hb I3.out.st.sK.2));replace I3:=aa (I3.out.below hb);clear hb s0;obtain⟨z,hz⟩:∃ z,z=eI t.op:=⟨_,rfl⟩;rw[<-hz];by_cases gV:z=1
   ·have UO:Hid (mR L (L++[t])=[]):=aa (by rw[CQ,show nb t=false from decide_eq_false (by rw[<-hz,gV];decide)];rfl);have e1:(z==1)=true:=by rw[gV];rfl
    have e2:(z != 1)=false:=by rw[gV];rfl
    clear hz gV;go_upto_region 5 with fail;clear e1 e2;have Cq:=I3;have YH:=RQ;obtain⟨w5,Nq⟩:∃ x,x=w2:=⟨_,rfl⟩;rw[<-Nq] at Cq YH ⊢;clear Nq I3 RQ;obtain⟨T1,IZ⟩:∃ x,x=T:=⟨_,rfl⟩;rw[<-IZ] at Cq;have pX:Hid (T1=T++mR L (L++[t])):=aa (by rw[UO.out,dJ,IZ]);clear IZ UO;obtain⟨v1,r8⟩:∃ x:aq,x=.slice po pn pc:=⟨_,rfl⟩;rw[<-r8] at Cq;have I7:Hid (tN B k kt (.slice po pn pc) v1 w w5):=aa (by rw[r8];exact YH.out);clear r8 YH;obtain⟨PV,C7⟩:∃ x,x=ids:=⟨_,rfl⟩;rw[<-C7] at Cq;clear C7;obtain⟨qo,ql,qc,c5,Eu⟩:=Cq.out.st.nodeAt (by rw[I7.out.hk];exact HU.out.bk) HI.out;obtain⟨ko5,kc5,e5,⟨hq1,hq2,-⟩,-⟩:=id Eu;have xR:=aa Eu
    have Rd:Hid (ql=t.kids.length):=aa (by injection e5 with _ e5 _;rw[e5,cT]);have hql:ql<=8:=by rw[Rd.out];exact HK8.out
    have Zx:qc<=9223372036854775807:=by injection e5 with _ _ e5;rw[e5];exact hq2
    have Rp:Hid (∀ q ∈ t.kids,q ∈ s):=aa (fun q hq=>HV.out.st.Mb t (List.mem_of_getElem? HI.out) q hq);clear Eu e5 hq1 hq2;go_wp2_with fail;clear c5;go_loopw [34] (fun iv wr=>∃ (j:Nat) (v':aq) (ids':List Nat),iv=.int .i64 (j:Nat)/\j<=ql/\Hid (Cd B k ks kt kv B0 (.func (.func 118) #[] #[.pointer (some ⟨ks,0,none⟩),.pointer (some ⟨kt,0,none⟩),.pointer (some ⟨kv,0,none⟩)]) E (hO (L++[t]) (t.kids.take j)) s (T1++mR (L++[t]) (hO (L++[t]) (t.kids.take j))) v' ids' wr)/\Hid (tN B k kt v1 v' w5 wr)) (fun iv _=>ql - (intOf iv).toNat)
    case atStart=>exact⟨0,v1,PV,rfl,au _,aa (by rw[Cs,hO,sX,dJ];exact Cq.out),aa (tN.refl _ _ _ _ _)⟩
    case round =>
     obtain⟨j,v',ids',rfl,hj,IE,Mh⟩:=hrel;by_cases hlt:j<ql
     ·have lN:j<t.kids.length:=by rw[<-Rd.out];exact hlt
      obtain⟨a,rfl,ca⟩:=xR.out.O2 Mh.out (fun g hg=>.inr hg) j (by rw[cT];exact lN);obtain⟨i2,qm⟩:∃ x,x=(t.kids.map (idx s))[j]'(by rw[cT];exact lN):=⟨_,rfl⟩;rw[<-qm] at ca;have LI:Hid (s[i2]?=some t.kids[j]):=aa (by rw[qm,gp];exact iL (Rp.out _ (ct lN)));have Q7:=aa (UX.out t.kids[j] (ct lN));have b0:=af (v:=(.func (.func 118) #[] #[.pointer (some ⟨ks,0,none⟩),.pointer (some ⟨kt,0,none⟩),.pointer (some ⟨kv,0,none⟩)])) IE.out.bv 0 rfl;have Pb:=aa (vJ (s:=L++[t]) lN);clear qm;go_wp2_with fail;refine (IH.out _ _ _ _ _ _ _ _ _ _ v' ids' wr i2 t.kids[j] IE.out LI.out Q7.out).mono ?_;rintro e w6 ⟨⟨qv,rfl⟩,v2,Ky,xj,Ad⟩;have UF:=aa xj
      have Ol:=aa (Mh.out.trans Ad);clear xj Ad ca b0;go_wp2_with fail;go_roundw
      case rel =>
       refine⟨j+1,v2,Ky,by go_num,hlt,aa ?_,Ol⟩;have h1:=UF.out;rw[<-Pb.out,bg,<-om (p8 _ _) (by rw[Pb.out];exact Bn _ _)] at h1;exact h1
      case measure=>simp[intOf];omega
     have ej:j=ql:=by omega
     have Ch:Hid (hO (L++[t]) (t.kids.take j)=rD L t):=aa (by rw[xT HQ.out,ej,Rd.out,bK]);go_wp2_with fail;refine bodyPost_end (results_none Tryz.results118 _ _ _) rfl ⟨⟨_,rfl⟩,v',ids',?_,I7.out.trans Mh.out⟩;have h1:=IE.out;rw[Ch.out,pX.out,bg,<-om ⟨[t],rfl⟩ (by rw[xT HQ.out];exact p8 _ _)] at h1;exact h1
   have UO:Hid (mR L (L++[t])=[t]):=aa (by rw[CQ,show nb t=true from decide_eq_true (by rw[<-hz];exact gV)];rfl);have e1:(z==1)=false:=beq_eq_false_iff_ne.2 gV;have e2:(z != 1)=true:=by rw[bne,e1];rfl
   clear hz gV;obtain⟨w3,kq,eq,zE,gQ,sk,jX⟩:=aM w2 #[.int .i64 ((i:Nat):Int)] 116;have HR3:=aa (I3.out.row.below gQ.out);have Cp:=aa (I3.out.below gQ.out);have I7:=aa (RQ.out.trans (tN.aN gQ.out I3.out.st.sK.2));have tB:=aa (uj (l:=[i]) jX.out (by show 1<=bI;decide));have t0:=af (v:=.slice po pn pc) I3.out.bt 0 rfl;have nP:Hid (B0<=w3.heap.size):=aa (by
    have h1:=ae Cp.out.bs;have h2:=Cp.out.sz;exact h2)
   go_upto_region 5 with (first | (at_builtin;go_loud (refine El.Row.N4 (E:=iI) HR3.out rfl (.tmp 25) (.tmp 27) ⟨kq,0,none⟩ 1 1 rfl rfl rfl tB.out (Nat.one_pos) (by have:=HRO.out.1;simp only[mS,uA];omega) nP.out ?_;intro v9 w9 r1 r2 r3;(obtain⟨o9,c9,Zk,hn9,tJ,-⟩:=id r1.form);(rw[eY,show [i].length=1 from rfl] at Zk);(subst Zk);(have t1:=af (v:=.slice po pn pc) ((r3.block kt (ae Cp.out.bt) (fun e=>by have h1:=(Cp.out.row.ge e.symm).1;have h2:=HLO.out.2.1;omega)).trans Cp.out.bt) 0 rfl);(have ft1:=aP ((r3.block kt (ae Cp.out.bt) (fun e=>by have h1:=(Cp.out.row.ge e.symm).1;have h2:=HLO.out.2.1;omega)).trans Cp.out.bt) 0))) | fail);obtain⟨w5,Nq⟩:∃ x,x=w9.setCell ⟨kt,0,none⟩ (.slice o9 (ids.length+1) c9):=⟨_,rfl⟩;rw[<-Nq]
   obtain⟨a1,a2⟩:=Cp.out.add (t:=t) HI.out (by have h1:=HV.out.tl;rw[eY];simpa using h1) r1 r3 r2 Nq (by intro z h;cases h) (by intro z h;cases h);clear t0 t1 ft1 e1 e2 Nq r1 r2 r3 hn9 tJ;have Cq:=aa a1;replace I7:=aa (I7.out.trans a2);clear a1 a2 I3 RQ Cp HR3;obtain⟨T1,IZ⟩:∃ x,x=T++[t]:=⟨_,rfl⟩;rw[<-IZ] at Cq;have pX:Hid (T1=T++mR L (L++[t])):=aa (by rw[UO.out,IZ]);clear IZ UO;obtain⟨v1,r8⟩:∃ x:aq,x=.slice o9 (ids.length+1) c9:=⟨_,rfl⟩;rw[<-r8] at Cq I7;clear r8;obtain⟨PV,C7⟩:∃ x,x=ids++[i]:=⟨_,rfl⟩;rw[<-C7] at Cq;clear C7;obtain⟨qo,ql,qc,c5,Eu⟩:=Cq.out.st.nodeAt (by rw[I7.out.hk];exact HU.out.bk) HI.out;obtain⟨ko5,kc5,e5,⟨hq1,hq2,-⟩,-⟩:=id Eu;have xR:=aa Eu
   have Rd:Hid (ql=t.kids.length):=aa (by injection e5 with _ e5 _;rw[e5,cT]);have hql:ql<=8:=by rw[Rd.out];exact HK8.out
   have Zx:qc<=9223372036854775807:=by injection e5 with _ _ e5;rw[e5];exact hq2
   have Rp:Hid (∀ q ∈ t.kids,q ∈ s):=aa (fun q hq=>HV.out.st.Mb t (List.mem_of_getElem? HI.out) q hq);clear Eu e5 hq1 hq2;go_wp2_with fail;clear c5;go_loopw [34] (fun iv wr=>∃ (j:Nat) (v':aq) (ids':List Nat),iv=.int .i64 (j:Nat)/\j<=ql/\Hid (Cd B k ks kt kv B0 (.func (.func 118) #[] #[.pointer (some ⟨ks,0,none⟩),.pointer (some ⟨kt,0,none⟩),.pointer (some ⟨kv,0,none⟩)]) E (hO (L++[t]) (t.kids.take j)) s (T1++mR (L++[t]) (hO (L++[t]) (t.kids.take j))) v' ids' wr)/\Hid (tN B k kt v1 v' w5 wr)) (fun iv _=>ql - (intOf iv).toNat)
   case atStart=>exact⟨0,v1,PV,rfl,au _,aa (by rw[Cs,hO,sX,dJ];exact Cq.out),aa (tN.refl _ _ _ _ _)⟩
   case round =>
    obtain⟨j,v',ids',rfl,hj,IE,Mh⟩:=hrel;by_cases hlt:j<ql
    ·have lN:j<t.kids.length:=by rw[<-Rd.out];exact hlt
     obtain⟨a,rfl,ca⟩:=xR.out.O2 Mh.out (fun g hg=>.inr hg) j (by rw[cT];exact lN);obtain⟨i2,qm⟩:∃ x,x=(t.kids.map (idx s))[j]'(by rw[cT];exact lN):=⟨_,rfl⟩;rw[<-qm] at ca;have LI:Hid (s[i2]?=some t.kids[j]):=aa (by rw[qm,gp];exact iL (Rp.out _ (ct lN)));have Q7:=aa (UX.out t.kids[j] (ct lN));have b0:=af (v:=(.func (.func 118) #[] #[.pointer (some ⟨ks,0,none⟩),.pointer (some ⟨kt,0,none⟩),.pointer (some ⟨kv,0,none⟩)])) IE.out.bv 0 rfl;have Pb:=aa (vJ (s:=L++[t]) lN);clear qm;go_wp2_with fail;refine (IH.out _ _ _ _ _ _ _ _ _ _ v' ids' wr i2 t.kids[j] IE.out LI.out Q7.out).mono ?_;rintro e w6 ⟨⟨qv,rfl⟩,v2,Ky,xj,Ad⟩;have UF:=aa xj
     have Ol:=aa (Mh.out.trans Ad);clear xj Ad ca b0;go_wp2_with fail;go_roundw
     case rel =>
      refine⟨j+1,v2,Ky,by go_num,hlt,aa ?_,Ol⟩;have h1:=UF.out;rw[<-Pb.out,bg,<-om (p8 _ _) (by rw[Pb.out];exact Bn _ _)] at h1;exact h1
     case measure=>simp[intOf];omega
    have ej:j=ql:=by omega
    have Ch:Hid (hO (L++[t]) (t.kids.take j)=rD L t):=aa (by rw[xT HQ.out,ej,Rd.out,bK]);go_wp2_with fail;refine bodyPost_end (results_none Tryz.results118 _ _ _) rfl ⟨⟨_,rfl⟩,v',ids',?_,I7.out.trans Mh.out⟩;have h1:=IE.out;rw[Ch.out,pX.out,bg,<-om ⟨[t],rfl⟩ (by rw[xT HQ.out];exact p8 _ _)] at h1;exact h1
end Go.Proofs.YtoncclhbdkjhmaaGreatDoor
