/-
 Joined texts: FbX,FbWx,FbWb,FbY,FbTm,FbWw,KTab,LgBi,VlO,LgZft.
-/
import Derived.Test.YtoncclhbdkjhmaaGreatDoorCards
import Derived.Test.YtoncclhbdkjhmaaGreatDoorTie
import Derived.ProofKit
import Derived.OpenShut
import Derived.ShutString
import Derived.ChangeOld
import Derived.Deep.DeepHandedRow
import Derived.Lib.LaidTab
import Derived.LaidMore
import Derived.Lay
import Derived.Lib.ItoaNum
import Derived.PinnedBridge
import Derived.Lib.LaidU8
import Derived.Lib.LaidPrint
import Derived.Deep.Slices
import Derived.Test.YtoncclhbdkjhmaaGreatDoorJFactsAre1
import Derived.Test.YtoncclhbdkjhmaaGreatDoorJFactsAre2
import Derived.Test.YtoncclhbdkjhmaaGreatDoorJFactsAre3
import Derived.Test.YtoncclhbdkjhmaaGreatDoorJFactsAre8
set_option maxHeartbeats 32000000
namespace Go.Proofs.YtoncclhbdkjhmaaGreatDoor
open Go.RowKit
set_option maxRecDepth 100000
set_option linter.unusedVariables false
set_option linter.unusedSimpArgs false
attribute [local go_sem] fieldV0 fieldV1 fieldV2 fieldV3
noncomputable def aboutF (x:F) (all:Bool):List F:=if all=true then factsF x else if srt x.op=2 then lensF x else []
theorem about_9 (x:F) (all:Bool) (h:x.op=9):aboutF x all=[leF (nF 0) (lenF x),eqfF (lenF x) (nF 0)]:=by
 unfold aboutF factsF lensF;rw[h]
 cases all<;>rfl
theorem about_10f (x:F) (h:x.op=10):aboutF x false=[leF (nF 0) (lenF x),eqfF (lenF x) (addF (lenF (kd x 1)) (nF 1))]:=by
 unfold aboutF lensF;rw[h]
 rfl
theorem about_10t (x:F) (h:x.op=10):aboutF x true=[leF (nF 0) (lenF x),eqfF (lenF x) (addF (lenF (kd x 1)) (nF 1)),eqfF (hdF x) (kd x 0),eqfF (tlF x) (kd x 1)]:=by
 unfold aboutF factsF lensF;rw[h]
 rfl
theorem about_f (x:F) (h1:x.op≠9) (h2:x.op≠10) (hs:srt x.op=2):aboutF x false=[leF (nF 0) (lenF x)]:=by
 unfold aboutF lensF;rw[if_neg Bool.false_ne_true,if_pos hs,if_neg h1,if_neg h2]
theorem about_8 (x:F) (h:x.op=8):aboutF x true=[leF (nF 0) (lenF x),emptF x]:=by
 unfold aboutF factsF lensF;rw[h]
 rfl
theorem about_11 (x:F) (h:x.op=11):aboutF x true=[leF (nF 0) (lenF x),emptF x]++tailF x (kd x 0):=by
 unfold aboutF factsF lensF;rw[h]
 rfl
theorem srt_two {o:Int} (h:srt o=2) (h9:o≠9) (h10:o≠10) (h11:o≠11):o=8:=by
 unfold srt at h
 split at h<;>first | omega | (split at h<;>omega)
theorem about_l (x:F) (v:Value) (S:Nat->Prop) (w:World) (d:Nat) (h:FC w S d v x) (all:Bool) (hs:srt x.op=2) (hkn:x.kids.length<=1000) :
  Calls Tryz.prog 24 #[v,.bool all] w fun e w'=>∃ v',e=.returned v'/\GR w' w.heap.size (fun b=>S b\/w.heap.size<=b) v' (aboutF x all)/\Below w.heap.size w w':=by
 obtain⟨P,hP⟩:∃ P:Nat->Prop,P=fun b=>S b\/w.heap.size<=b:=⟨_,rfl⟩
 rw[<-hP];have HPX:Hid (∀ b,w.heap.size<=b->P b):=Lib.hid (fun b hb=>by rw[hP];exact .inr hb);have HX0:Hid (FC w (bs P (.slice none 0 0)) d v x):=Lib.hid (h.mono fun b hb=>⟨by (intro e;cases e),by rw[hP];exact .inl hb⟩);clear h hP;obtain⟨xb,xao,xl,xc,ko,kl,kc,rfl,⟨hir,hz,hkl,hkc,hkm⟩,-,hk⟩:=HX0.out.open;have hkm2:kc<=9223372036854775807:=hkm;obtain⟨xo,hxo⟩:∃ y,y=x.op:=⟨_,rfl⟩;obtain⟨xn,hxn⟩:∃ y,y=x.name:=⟨_,rfl⟩;rw[<-hxo] at hir HX0 ⊢;rw[<-hxn] at HX0 ⊢;have HO:=Lib.hid hxo;have HKL:=Lib.hid hkl;have HKN:Hid (kl<=1000):=Lib.hid (by rw[hkl];exact hkn);have HK:=Lib.hid hk;have HS2:Hid (srt xo=2):=Lib.hid (by rw[hxo];exact hs);clear hir hz hkl hkm hk hxo hxn hs hkn;have HW:=Lib.hid (Below.refl w.heap.size w);go_enter Tryz.func24,Tryz.ntmps24
 obtain⟨x1,kx,ex,ekx,hbx,hkx,HBx⟩:=newV w #[.int .i64 xo,.bool xb,.slice xao xl xc,.string xn,.slice ko kl kc] 29;replace HW:=Lib.hid (HW.out.trans (hbx.out.mono HW.out.size));have HVx:Hid (Var x1 (bs P (.slice none 0 0)) kx x):=Lib.hid (Var.new HBx.out ⟨by (intro e;cases e),HPX.out kx hkx.out⟩ ⟨d,HX0.out.below hbx.out⟩);obtain⟨⟨u0,u1,u2,u3,u4⟩,fu0,fu1,fu2,fu3,fu4⟩:=cells5V HBx.out;obtain⟨x2,kq,eq_,ekq,hbq,hkq,HBq⟩:=newV x1 #[.int .i64 xo,.bool xb,.slice xao xl xc,.string xn,.slice ko kl kc] 29;have HFQ:Hid (FGl x2 (bs P (.slice none 0 0)) (.slice (some ⟨kq,0,none⟩) 1 1) [x]):=Lib.hid (FGl.one ((HX0.out.below hbx.out).below hbq.out) HBq.out ⟨by (intro e;cases e),HPX.out kq (Nat.le_trans hbx.out.size hkq.out)⟩);replace HW:=Lib.hid (HW.out.trans (hbq.out.mono HW.out.size))
 replace HBx:=kBV hbq.out HBx;replace HVx:=Lib.hid (HVx.out.below hbq.out);replace HK:=Lib.hid ((HK.out.below hbx.out).below hbq.out);go_wp2_with fail;refine (f11_p 6 _ _ _ x2).mono ?_;rintro e x3 ⟨rfl,hb⟩;clear u0 u1 u2 u3 u4 fu0 fu1 fu2 fu3 fu4;obtain⟨x4,ks,es,eks,hbs,hks,HBs⟩:=newV x3 #[.int .i64 6,.bool false,.slice none 0 0,.string ⟨#[]⟩,.slice (some ⟨kq,0,none⟩) 1 1] 29;have HVs:Hid (Var x4 (bs P (.slice none 0 0)) ks (lenF x)):=Lib.hid (Var.new HBs.out ⟨by (intro e;cases e),HPX.out ks (Nat.le_trans (Nat.le_trans HW.out.size hb.size) hks.out)⟩ (by
  obtain⟨d,hf⟩:=HFQ.out.fl;exact⟨d+1,FC.mk ⟨by decide,by decide⟩ (nr0 x4) ((hf.below hb).below hbs.out)⟩))
 clear HBq HFQ HBs HX0;replace HBx:=kBV hbs.out (kBV hb HBx);replace HVx:=Lib.hid ((HVx.out.below hb).below hbs.out);replace HK:=Lib.hid ((HK.out.below hb).below hbs.out);replace HW:=Lib.hid (HW.out.trans ((hb.trans (hbs.out.mono hb.size)).mono HW.out.size));clear hb;obtain⟨⟨u0,u1,u2,u3,u4⟩,fu0,fu1,fu2,fu3,fu4⟩:=cells5V HBx.out;go_wp2_with fail;refine (sort_p _ _ _ _ _ _ _ _ _ x4).mono ?_;rintro e x5 ⟨rfl,hb⟩;rw[HS2.out];clear u0 u1 u2 u3 u4 fu0 fu1 fu2 fu3 fu4;replace HBx:=kBV hb HBx;replace HVx:=Lib.hid (HVx.out.below hb);replace HVs:=Lib.hid (HVs.out.below hb);replace HK:=Lib.hid (HK.out.below hb);replace HW:=Lib.hid (HW.out.trans (hb.mono HW.out.size));clear hb;go_upto_region 4 with fail
 have HNEW:Hid (∀ b,x5.heap.size<=b->bs P (.slice none 0 0) b):=Lib.hid (fun b hb=>⟨by (intro e;cases e),HPX.out b (Nat.le_trans HW.out.size hb)⟩);have HNE:Hid (∀ i j,i<6->j<6->i≠j->(fun i=>i+20) i≠(fun i=>i+20) j):=Lib.hid (fun i j _ _ h e=>h (Nat.add_right_cancel e));have HL9:Hid (∀ i,i<6->(fun i=>i+20) i<26):=Lib.hid (fun i h=>by show i+20<26;omega);have HSX:Hid (∀ b,x5.heap.size<=b->(bs P (.slice none 0 0)) b):=Lib.hid (fun b hb=>HNEW.out b hb)
 refine Rel9.region (by kernel_rfl) [[],[],[],[1,2],[1,2,3],[1,2,3,4],[0,1,2,3,4,5],[0,1,2,3,4,5,6]] 6 (by kernel_rfl) (by kernel_rfl) (JL (bs P (.slice none 0 0)) x5 _ 6 (fun i=>i+20) (fun i=>[.eqv (.slice none 0 0),.fx (nF 0),.fx (lenF x),.fl [nF 0,lenF x],.fx (fo 15 [nF 0,lenF x]),.fl [fo 15 [nF 0,lenF x]]].getD i .any)) (JL.start _ _ _ _ _ _) ?_ ?_
 ·intro d T wc i o hJ ho hi hd hdep hcl;have hs:=hJ.slok HNE.out HL9.out (of_decide_eq_true rfl);obtain rfl | rfl | rfl | rfl | rfl | rfl:i=0\/i=1\/i=2\/i=3\/i=4\/i=5:=by omega
  all_goals (injection ho with ho)
  all_goals (subst ho)
  ·exact hJ.opMv hs 0 (by decide) hd (s:=0) rfl (fun i hi=>by show _≠i+20;omega) _ (by rfl) rfl
  ·exact hJ.opN hs 1 (by decide) hd ⟨by decide,by decide⟩ rfl rfl
  ·exact hJ.opV hs 2 (by decide) hd HVs.out rfl (fun i hi=>by show _≠i+20;omega) (by rfl) rfl
  ·exact hJ.opB2 hs HSX.out 3 (by decide) hd 1 2 (by decide) (by decide) (hdep 1 (by rfl)) (hdep 2 (by rfl)) rfl rfl rfl rfl rfl rfl
  ·exact hJ.opF hs 4 (by decide) hd 3 (by decide) (hdep 3 (by rfl)) ⟨by decide,by decide⟩ rfl rfl rfl rfl
  exact hJ.opB1 hs HSX.out 5 (by decide) hd 4 (by decide) (hdep 4 (by rfl)) rfl rfl rfl rfl
 intro T wt hJ;obtain⟨v0,a0,f0⟩:=hJ.val 0 (by decide) rfl;replace f0:v0=_:=f0;subst f0;obtain⟨v1,a1,f1⟩:=hJ.val 1 (by decide) rfl;obtain⟨v2,a2,f2⟩:=hJ.val 2 (by decide) rfl;obtain⟨v3,a3,f3⟩:=hJ.val 3 (by decide) rfl;obtain⟨v4,a4,f4⟩:=hJ.val 4 (by decide) rfl;obtain⟨v5,a5,f5⟩:=hJ.val 5 (by decide) rfl;have hfr:=hJ.fin (hJ.slok HNE.out HL9.out (of_decide_eq_true rfl)) rfl (.cons a0 (.cons a1 (.cons a2 (.cons a3 (.cons a4 (.cons a5 .nil))))));have HFG:Hid (FGl wt (bs P (.slice none 0 0)) v5 [fo 15 [nF 0,lenF x]]):=Lib.hid (FGl.mono f5 (fun b _ hb=>hb.1));clear f1 f2 f3 f4 f5 HNEW HSX;have HBE9:=Lib.hid hJ.be;clear hJ HNE HL9 a0 a1 a2 a3 a4 a5;rw[hfr];clear hfr;simp only[fillW,Nat.reduceAdd,List.setIfInBounds_toArray,List.set_cons_zero,List.set_cons_succ]
 simp only[List.drop_succ_cons,List.drop_zero];refine GR.append (GR.nil wt w.heap.size P) rfl (.tmp 20) (.tmp 25) rfl rfl rfl HFG.out (by simp) (Nat.le_trans HW.out.size HBE9.out.size) ?_;intro v9 w9 a1 a2 a3;replace HBx:Hid (w9.heap[kx]?=_):=Lib.hid (a2.blk (by (intro e;cases e)) (kBV HBE9.out HBx).out);replace HVx:=Lib.hid ((HVx.out.below HBE9.out).turn a2);replace HVs:=Lib.hid ((HVs.out.below HBE9.out).turn a2);replace HW:=Lib.hid ((HW.out.trans (HBE9.out.mono HW.out.size)).trans a3);clear HFG HBE9 a2 a3 HK;obtain⟨oo,oc,hov,-,ho2,ho3,ho4⟩:=a1.form;subst hov;have HR:Hid (GR w9 w.heap.size P (.slice oo 1 oc) [leF (nF 0) (lenF x)]):=Lib.hid a1;clear a1;have HON:Hid (∀ g,(Value.slice oo 1 oc).ownBlock=some g->g<w9.heap.size):=Lib.hid (fun g hg=>by
  cases oo with
  | none=>cases hg
  | some q =>
   obtain⟨g2,rfl,h3,h4⟩:=ho4 q rfl;have e2:some g2=some g:=hg;injection e2 with e2;omega)
 clear ho4;have HNEW0:Hid (∀ b,w9.heap.size<=b->bs P (.slice oo 1 oc) b):=Lib.hid (fun b hb=>⟨fun e=>by have:=HON.out b e;omega,HPX.out b (Nat.le_trans HW.out.size hb)⟩);obtain⟨⟨u0,u1,u2,u3,u4⟩,fu0,fu1,fu2,fu3,fu4⟩:=cells5V HBx.out;obtain⟨x7,kz,ez,ekz,hbz,hkz,HBz⟩:=newV w9 #[.int .i64 0,.bool false,.slice none 0 0,.string ⟨#[]⟩,.slice none 0 0,.int .i64 0,.bool false,.slice none 0 0,.string ⟨#[]⟩,.slice none 0 0] 29;have HFZ:Hid (FGl x7 (bs P (.slice oo 1 oc)) (.slice (some ⟨kz,0,none⟩) 2 2) [nF 0,nF 0]):=Lib.hid (FGl.block (us:=[zFU,zFU]) HBz.out rfl (show 2<=maxLen by decide) (HNEW0.out kz hkz.out) (Fs.cons (zF_ft x7) (Fs.cons (zF_ft x7) (Fs.nil _ _))));obtain⟨dk,hlit,-,hkl,hkm,hk⟩:=(HVx.out.below hbz.out).lit (kBV hbz.out HBx).out;have HKL:=Lib.hid hkl;have HK:=Lib.hid hk
 clear hlit hk hkl HBz;go_wp2_with (at_builtin;refine FL.appendMore HK.out rfl (.tmp 35) (.tmp 38) rfl rfl rfl HFZ.out (by decide) (by have h1:=HKN.out;rw[<-HKL.out];simp only[lsc,lsn];omega) ?_;intro gk km kcc w10 b1 b2 b3);clear u0 u1 u2 u3 u4 fu0 fu1 fu2 fu3 fu4;have HBZ:=Lib.hid (hbz.out.trans (b3.mono hbz.out.size));have HFK:Hid (FGl w10 (bs P (.slice oo 1 oc)) (.slice (some ⟨gk,0,none⟩) km kcc) (x.kids++[nF 0,nF 0])):=Lib.hid (b1.mono fun b _ hb=>by
  rcases hb with hb | hb | hb
  ·exact hb
  ·exact hb
  rw[hb];exact HNEW0.out _ hbz.out.size)
 have HKM:Hid (1<km/\km<=9223372036854775807/\km=(x.kids++[nF 0,nF 0]).length):=Lib.hid (by
  have h1:=HKN.out;have h2:=HKL.out;have b2:=b2.out;rw[<-h2] at b2;simp only[lsc,lsn] at b2;refine⟨by omega,by omega,?_⟩;rw[lsa,<-h2,b2];rfl)
 clear b1 b2 b3 HK HFZ;have HNEW:Hid (∀ b,w10.heap.size<=b->bs P (.slice oo 1 oc) b):=Lib.hid (fun b hb=>HNEW0.out b (Nat.le_trans HBZ.out.size hb));go_upto_region 6 with fail;obtain⟨ua,da,hea,hua⟩:=HFK.out.elem 0 (by rw[<-HKM.out.2.2];have:=HKM.out;omega);obtain⟨ub,db,heb,hub⟩:=HFK.out.elem 1 (by rw[<-HKM.out.2.2];have:=HKM.out;omega);rw[kd_get0] at hua;rw[kd_get1] at hub;have HEA:=Lib.hid hea;have HEB:=Lib.hid heb;have HUA0:=Lib.hid hua;have HUB0:=Lib.hid hub;clear hea heb hua hub;have HNE:Hid (∀ i j,i<8->j<8->i≠j->(fun i=>[40,41,42,43,44,45,8,9].getD i 0) i≠(fun i=>[40,41,42,43,44,45,8,9].getD i 0) j):=Lib.hid (fun i j hi hj=>(show ∀ i,i<8->∀ j,j<8->i≠j->(fun i=>[40,41,42,43,44,45,8,9].getD i 0) i≠(fun i=>[40,41,42,43,44,45,8,9].getD i 0) j by decide) i hi j hj)
 have HL9:Hid (∀ i,i<8->(fun i=>[40,41,42,43,44,45,8,9].getD i 0) i<46):=Lib.hid (by decide);refine Rel9.region (by kernel_rfl) [[],[0],[0,1],[],[3],[3,4],[],[],[0,1,2,6,7],[0,1,2,3,4,5,6,7,8]] 9 (by kernel_rfl) (by kernel_rfl) (JK w10 _ (fun i=>[40,41,42,43,44,45,8,9].getD i 0) (fun i=>[.slice (some ⟨gk,0,none⟩) km kcc,.pointer (some (Addr.add ⟨gk,0,none⟩ (0*5))),fV ua,.slice (some ⟨gk,0,none⟩) km kcc,.pointer (some (Addr.add ⟨gk,0,none⟩ (1*5))),fV ub].getD i undef) ua) (JK.start _ _ _ _ _) ?_ ?_
 ·intro d T wc i o hJ ho hi hd hdep hcl;have hs:=hJ.slok HNE.out HL9.out (of_decide_eq_true rfl);have h68:d 6=false->d 8=false:=fun h6=>by
   cases h8:d 8 with
   | false=>rfl
   | true=>have:=hcl 8 6 h8 (by rfl);rw[h6] at this;cases this
  obtain rfl | rfl | rfl | rfl | rfl | rfl | rfl | rfl | rfl:i=0\/i=1\/i=2\/i=3\/i=4\/i=5\/i=6\/i=7\/i=8:=by omega
  all_goals (injection ho with ho)
  all_goals (subst ho)
  ·exact hJ.opMv hs 0 (by decide) rfl (fun i hi=>by revert i;decide) (by rfl) rfl
  ·exact hJ.opIx hs 1 (by decide) 0 (by decide) (hdep 0 (by rfl)) (q:=0) (by have:=HKM.out;omega) HKM.out.2.1 rfl rfl rfl rfl
  ·exact hJ.opLi hs 2 (by decide) 1 (by decide) (hdep 1 (by rfl)) HEA.out rfl rfl rfl rfl
  ·exact hJ.opMv hs 3 (by decide) rfl (fun i hi=>by revert i;decide) (by rfl) rfl
  ·exact hJ.opIx hs 4 (by decide) 3 (by decide) (hdep 3 (by rfl)) (q:=1) HKM.out.1 HKM.out.2.1 rfl rfl rfl rfl
  ·exact hJ.opLi hs 5 (by decide) 4 (by decide) (hdep 4 (by rfl)) HEB.out rfl rfl rfl rfl
  ·exact hJ.opPt hs 6 (.inl ⟨rfl,h68 hd⟩) hd rfl
  ·exact hJ.opPt hs 7 (.inr rfl) hd rfl
  exact hJ.opSt (hdep 2 (by rfl)) (hdep 6 (by rfl)) hd rfl rfl rfl
 intro T wt hJ;have a0:=hJ.val 0 (by decide) rfl;have a1:=hJ.val 1 (by decide) rfl;have a2:=hJ.val 2 (by decide) rfl;have a3:=hJ.val 3 (by decide) rfl;have a4:=hJ.val 4 (by decide) rfl;have a5:=hJ.val 5 (by decide) rfl;obtain⟨ga,a6,hga1,hga2⟩:=hJ.pa rfl;obtain⟨gb,a7,hgb1,hgb2⟩:=hJ.pb rfl;have HAB:Hid (ga≠gb):=Lib.hid (fun e=>hJ.dis rfl rfl (by rw[a6,a7,e]));have HBE9:=Lib.hid hJ.be;have HUA:=Lib.hid (((HUA0.out.lt).below HBE9.out).mono (S':=fun b=>bs P (.slice oo 1 oc) b/\b≠ga/\b≠gb) fun b hb=>⟨hb.1,by have:=hb.2;omega,by have:=hb.2;omega⟩);have HUB:=Lib.hid (((HUB0.out.lt).below HBE9.out).mono (S':=fun b=>bs P (.slice oo 1 oc) b/\b≠ga/\b≠gb) fun b hb=>⟨hb.1,by have:=hb.2;omega,by have:=hb.2;omega⟩);have HGA:=Lib.hid hga1;have HGB:=Lib.hid hgb1
 have HCA:Hid (wt.heap[ga]?=some (.cells (uC ua) 29 (0,0))):=Lib.hid hga2;have HCB:Hid (wt.heap[gb]?=some (.cells #[.int .i64 0,.bool false,.slice none 0 0,.string ⟨#[]⟩,.slice none 0 0] 29 (0,0))):=Lib.hid hgb2;clear hga1 hga2 hgb1 hgb2 HUA0 HUB0 HEA HEB;have hfr:=hJ.fin (hJ.slok HNE.out HL9.out (of_decide_eq_true rfl)) (vs:=[_,_,_,_,_,_,_,_]) rfl (.cons a0 (.cons a1 (.cons a2 (.cons a3 (.cons a4 (.cons a5 (.cons a6 (.cons a7 .nil))))))));clear hJ HNE HL9 a0 a1 a2 a3 a4 a5 a6 a7;rw[hfr];clear hfr;simp only[fillW,List.getD_cons_zero,List.getD_cons_succ,Nat.reduceAdd,List.setIfInBounds_toArray,List.set_cons_zero,List.set_cons_succ];simp only[List.drop_succ_cons,List.drop_zero];simp only[fV];obtain⟨⟨q0,q1,q2,q3,q4⟩,fq0,fq1,fq2,fq3,fq4⟩:=cells5V HCB.out;go_upto_region 7 with fail
 clear q0 fq0 q1 fq1 q2 fq2 q3 fq3 q4 fq4;have HVA0:Hid (Var wt (fun b=>bs P (.slice oo 1 oc) b/\b≠gb) ga (kd x 0)):=Lib.hid ⟨⟨HNEW.out ga HGA.out,HAB.out⟩,_,HCA.out,rfl,_,ua,rfl,HUA.out.mono fun b hb=>⟨hb.1,hb.2.2⟩⟩;obtain⟨q1,q2,q3,q4⟩:=Var.put (S:=bs P (.slice oo 1 oc)) HCB.out (HNEW.out gb HGB.out) (HUB.out.mono fun b hb=>⟨hb.1,hb.2.2⟩) HBE9.out HGB.out;obtain⟨W2,hW2⟩:∃ q,q=(((((wt.setCell ⟨gb,0,none⟩ (.int .i64 ub.k)).setCell ⟨gb,1,none⟩ (.bool (decide (ub.n.z<0)))).setCell ⟨gb,2,none⟩ (.slice ub.n.o ub.n.l ub.n.c)).setCell ⟨gb,3,none⟩ (.string ub.nm)).setCell ⟨gb,4,none⟩ (.slice ub.ko ub.kl ub.kc)):=⟨_,rfl⟩;rw[<-hW2] at q1 q2 q3 q4 ⊢
 have HVa:Hid (Var W2 (bs P (.slice oo 1 oc)) ga (kd x 0)):=Lib.hid ((HVA0.out.grown q3 q4 (fun b hb e=>by injection e with e;exact hb.2 e.symm)).mono fun b hb=>hb.1);have HVb:=Lib.hid q1;have HB2:=Lib.hid (HBZ.out.trans (q2.mono HBZ.out.size));clear hW2 q1 q2 q3 q4 HUA HUB HCA HCB HGA HGB HAB HFK HKM HBZ HBE9 HVA0;replace HBx:=kBV HB2.out HBx;replace HVx:=Lib.hid (HVx.out.below HB2.out);replace HVs:=Lib.hid (HVs.out.below HB2.out);replace HR:=Lib.hid (HR.out.below HB2.out);replace HW:=Lib.hid (HW.out.trans (HB2.out.mono HW.out.size));replace HNEW:Hid (∀ b,W2.heap.size<=b->bs P (.slice oo 1 oc) b):=Lib.hid (fun b hb=>HNEW0.out b (Nat.le_trans HB2.out.size hb));clear HB2
 have HNE:Hid (∀ i j,i<7->j<7->i≠j->(fun i=>[46,47,48,49,50,51,10].getD i 0) i≠(fun i=>[46,47,48,49,50,51,10].getD i 0) j):=Lib.hid (fun i j hi hj=>(show ∀ i,i<7->∀ j,j<7->i≠j->(fun i=>[46,47,48,49,50,51,10].getD i 0) i≠(fun i=>[46,47,48,49,50,51,10].getD i 0) j by decide) i hi j hj);have HL9:Hid (∀ i,i<7->(fun i=>[46,47,48,49,50,51,10].getD i 0) i<52):=Lib.hid (by decide);have HSX:Hid (∀ b,W2.heap.size<=b->(bs P (.slice oo 1 oc)) b):=Lib.hid (fun b hb=>HNEW.out b hb)
 refine Rel9.region (by kernel_rfl) [[],[],[1],[0,1,2],[0,1,2,3],[0,1,2,3,4],[],[0,1,2,3,4,5,6]] 7 (by kernel_rfl) (by kernel_rfl) (JL (bs P (.slice oo 1 oc)) W2 _ 7 (fun i=>[46,47,48,49,50,51,10].getD i 0) (fun i=>[.fx (nF 1),.fx (kd x 0),.fl [kd x 0],.fx (fo 6 [kd x 0]),.fl [nF 1,fo 6 [kd x 0]],.fx (fo 15 [nF 1,fo 6 [kd x 0]]),.pt].getD i .any)) (JL.start _ _ _ _ _ _) ?_ ?_
 ·intro d T wc i o hJ ho hi hd hdep hcl;have hs:=hJ.slok HNE.out HL9.out (of_decide_eq_true rfl);obtain rfl | rfl | rfl | rfl | rfl | rfl | rfl:i=0\/i=1\/i=2\/i=3\/i=4\/i=5\/i=6:=by omega
  all_goals (injection ho with ho)
  all_goals (subst ho)
  ·exact hJ.opN hs 0 (by decide) hd ⟨by decide,by decide⟩ rfl rfl
  ·exact hJ.opV hs 1 (by decide) hd HVa.out rfl (fun i hi=>by revert i;decide) (by rfl) rfl
  ·exact hJ.opB1 hs HSX.out 2 (by decide) hd 1 (by decide) (hdep 1 (by rfl)) rfl rfl rfl rfl
  ·exact hJ.opF hs 3 (by decide) hd 2 (by decide) (hdep 2 (by rfl)) ⟨by decide,by decide⟩ rfl rfl rfl rfl
  ·exact hJ.opB2 hs HSX.out 4 (by decide) hd 0 3 (by decide) (by decide) (hdep 0 (by rfl)) (hdep 3 (by rfl)) rfl rfl rfl rfl rfl rfl
  ·exact hJ.opF hs 5 (by decide) hd 4 (by decide) (hdep 4 (by rfl)) ⟨by decide,by decide⟩ rfl rfl rfl rfl
  exact hJ.opPt hs 6 (by decide) hd rfl rfl
 intro T wt hJ;obtain⟨v0,a0,f0⟩:=hJ.val 0 (by decide) rfl;obtain⟨v1,a1,f1⟩:=hJ.val 1 (by decide) rfl;obtain⟨v2,a2,f2⟩:=hJ.val 2 (by decide) rfl;obtain⟨v3,a3,f3⟩:=hJ.val 3 (by decide) rfl;obtain⟨v4,a4,f4⟩:=hJ.val 4 (by decide) rfl;obtain⟨v5,a5,f5⟩:=hJ.val 5 (by decide) rfl;obtain⟨v6,a6,f6⟩:=hJ.val 6 (by decide) rfl;have hfr:=hJ.fin (hJ.slok HNE.out HL9.out (of_decide_eq_true rfl)) rfl (.cons a0 (.cons a1 (.cons a2 (.cons a3 (.cons a4 (.cons a5 (.cons a6 .nil)))))));obtain⟨d5,us,rfl,hus⟩:=f5;obtain⟨gs,rfl,hgs1,hgs2⟩:=f6;have HUS:=Lib.hid (hus.mono (S':=fun b=>bs P (.slice oo 1 oc) b/\b≠gs) fun b hb=>⟨hb.1,fun e=>hb.2 6 (by decide) rfl rfl (by rw[a6,e])⟩);have HGS:=Lib.hid hgs1;have HCS:=Lib.hid hgs2;clear hus hgs1 hgs2 f0 f1 f2 f3 f4;have HBE9:=Lib.hid hJ.be
 clear hJ HNE HL9 a0 a1 a2 a3 a4 a5 a6;rw[hfr];clear hfr;simp only[fillW,List.getD_cons_zero,List.getD_cons_succ,Nat.reduceAdd,List.setIfInBounds_toArray,List.set_cons_zero,List.set_cons_succ];simp only[List.drop_succ_cons,List.drop_zero];simp only[fV];clear HSX;obtain⟨⟨u0,u1,u2,u3,u4⟩,fu0,fu1,fu2,fu3,fu4⟩:=cells5V HCS.out;go_upto_region 8 with fail;clear u0 fu0 u1 fu1 u2 fu2 u3 fu3 u4 fu4;obtain⟨p1,p2,p3,p4⟩:=Var.put (S:=bs P (.slice oo 1 oc)) HCS.out (HNEW.out gs HGS.out) HUS.out HBE9.out HGS.out;obtain⟨W3,hW3⟩:∃ q,q=(((((wt.setCell ⟨gs,0,none⟩ (.int .i64 us.k)).setCell ⟨gs,1,none⟩ (.bool (decide (us.n.z<0)))).setCell ⟨gs,2,none⟩ (.slice us.n.o us.n.l us.n.c)).setCell ⟨gs,3,none⟩ (.string us.nm)).setCell ⟨gs,4,none⟩ (.slice us.ko us.kl us.kc)):=⟨_,rfl⟩
 rw[<-hW3] at p1 p2 p3 p4 ⊢;have HVo:Hid (Var W3 (bs P (.slice oo 1 oc)) gs (fillF (kd x 0))):=Lib.hid p1;have HB3:=Lib.hid p2;clear hW3 p1 p2 p3 p4 HUS HGS HCS HBE9;replace HBx:=kBV HB3.out HBx;replace HVx:=Lib.hid (HVx.out.below HB3.out);replace HVs:=Lib.hid (HVs.out.below HB3.out);replace HVa:=Lib.hid (HVa.out.below HB3.out);replace HVb:=Lib.hid (HVb.out.below HB3.out);replace HR:=Lib.hid (HR.out.below HB3.out);replace HW:=Lib.hid (HW.out.trans (HB3.out.mono HW.out.size));replace HNEW:Hid (∀ b,W3.heap.size<=b->bs P (.slice oo 1 oc) b):=Lib.hid (fun b hb=>HNEW.out b (Nat.le_trans HB3.out.size hb));clear HB3;obtain⟨⟨u0,u1,u2,u3,u4⟩,fu0,fu1,fu2,fu3,fu4⟩:=cells5V HBx.out;obtain⟨x10,kq1,eq1,ekq1,hbq1,hkq1,HBq1⟩:=newV W3 #[.int .i64 xo,.bool xb,.slice xao xl xc,.string xn,.slice ko kl kc] 29
 obtain⟨dk,hlit,-,-,-,-⟩:=HVx.out.lit HBx.out;have HFQ:Hid (FGl x10 (bs P (.slice oo 1 oc)) (.slice (some ⟨kq1,0,none⟩) 1 1) [x]):=Lib.hid (FGl.one (hlit.below hbq1.out) HBq1.out (HNEW.out kq1 hkq1.out));clear hlit HBq1;obtain⟨x11,ky,ey,eky,hby,hky,HBy⟩:=newV x10 #[.int .i64 3,.bool xb,.slice xao xl xc,.string ⟨#[]⟩,.slice (some ⟨kq1,0,none⟩) 1 1] 29;have HB4:=Lib.hid (hbq1.out.trans (hby.out.mono hbq1.out.size));replace HBx:=kBV HB4.out HBx;replace HVx:=Lib.hid (HVx.out.below HB4.out);replace HVs:=Lib.hid (HVs.out.below HB4.out);replace HVa:=Lib.hid (HVa.out.below HB4.out);replace HVb:=Lib.hid (HVb.out.below HB4.out);replace HVo:=Lib.hid (HVo.out.below HB4.out);replace HR:=Lib.hid (HR.out.below HB4.out);replace HW:=Lib.hid (HW.out.trans (HB4.out.mono HW.out.size))
 have HVy:Hid (Var x11 (bs P (.slice oo 1 oc)) ky (scF x.num x)):=Lib.hid (Var.new HBy.out (HNEW.out ky (Nat.le_trans hbq1.out.size hky.out)) (by
  obtain⟨dk,-,hz,-⟩:=HVx.out.lit HBx.out;obtain⟨df,hf⟩:=HFQ.out.fl;exact⟨df+1,FC.mk ⟨by decide,by decide⟩ hz (hf.below hby.out)⟩))
 replace HNEW:Hid (∀ b,x11.heap.size<=b->bs P (.slice oo 1 oc) b):=Lib.hid (fun b hb=>HNEW.out b (Nat.le_trans HB4.out.size hb));clear HFQ HBy HB4 HNEW0;obtain⟨⟨y0,y1,y2,y3,y4⟩,fy0,fy1,fy2,fy3,fy4⟩:=cells5V HBx.out;by_cases hop:xo=9
 ·have HX9:Hid (x.op=9):=Lib.hid (by rw[<-HO.out];exact hop);have e1:(xo==9)=true:=by rw[hop];rfl
  clear hop;go_upto_region 11 with fail;clear u0 u1 u2 u3 u4 fu0 fu1 fu2 fu3 fu4 y0 y1 y2 y3 y4 fy0 fy1 fy2 fy3 fy4;have HNE:Hid (∀ i j,i<6->j<6->i≠j->(fun i=>i+61) i≠(fun i=>i+61) j):=Lib.hid (fun i j _ _ h e=>h (Nat.add_right_cancel e));have HL9:Hid (∀ i,i<6->(fun i=>i+61) i<67):=Lib.hid (fun i h=>by show i+61<67;omega);have HSX:Hid (∀ b,x11.heap.size<=b->(bs P (.slice oo 1 oc)) b):=Lib.hid (fun b hb=>HNEW.out b hb);refine Rel9.region (by kernel_rfl) [[],[],[],[1,2],[1,2,3],[1,2,3,4],[0,1,2,3,4,5],[0,1,2,3,4,5,6]] 6 (by kernel_rfl) (by kernel_rfl) (JL (bs P (.slice oo 1 oc)) x11 _ 6 (fun i=>i+61) (fun i=>[.eqv (.slice oo 1 oc),.fx (lenF x),.fx (nF 0),.fl [lenF x,nF 0],.fx (fo 16 [lenF x,nF 0]),.fl [fo 16 [lenF x,nF 0]]].getD i .any)) (JL.start _ _ _ _ _ _) ?_ ?_
  ·intro d T wc i o hJ ho hi hd hdep hcl;have hs:=hJ.slok HNE.out HL9.out (of_decide_eq_true rfl);obtain rfl | rfl | rfl | rfl | rfl | rfl:i=0\/i=1\/i=2\/i=3\/i=4\/i=5:=by omega
   all_goals (injection ho with ho)
   all_goals (subst ho)
   ·exact hJ.opMv hs 0 (by decide) hd (s:=0) rfl (fun i hi=>by show _≠i+61;omega) _ (by rfl) rfl
   ·exact hJ.opV hs 1 (by decide) hd HVs.out rfl (fun i hi=>by show _≠i+61;omega) (by rfl) rfl
   ·exact hJ.opN hs 2 (by decide) hd ⟨by decide,by decide⟩ rfl rfl
   ·exact hJ.opB2 hs HSX.out 3 (by decide) hd 1 2 (by decide) (by decide) (hdep 1 (by rfl)) (hdep 2 (by rfl)) rfl rfl rfl rfl rfl rfl
   ·exact hJ.opF hs 4 (by decide) hd 3 (by decide) (hdep 3 (by rfl)) ⟨by decide,by decide⟩ rfl rfl rfl rfl
   exact hJ.opB1 hs HSX.out 5 (by decide) hd 4 (by decide) (hdep 4 (by rfl)) rfl rfl rfl rfl
  intro T wt hJ;obtain⟨v0,a0,f0⟩:=hJ.val 0 (by decide) rfl;replace f0:v0=_:=f0;subst f0;obtain⟨v1,a1,f1⟩:=hJ.val 1 (by decide) rfl;obtain⟨v2,a2,f2⟩:=hJ.val 2 (by decide) rfl;obtain⟨v3,a3,f3⟩:=hJ.val 3 (by decide) rfl;obtain⟨v4,a4,f4⟩:=hJ.val 4 (by decide) rfl;obtain⟨v5,a5,f5⟩:=hJ.val 5 (by decide) rfl;have hfr:=hJ.fin (hJ.slok HNE.out HL9.out (of_decide_eq_true rfl)) rfl (.cons a0 (.cons a1 (.cons a2 (.cons a3 (.cons a4 (.cons a5 .nil))))));have HFG:Hid (FGl wt (bs P (.slice oo 1 oc)) v5 [fo 16 [lenF x,nF 0]]):=Lib.hid (FGl.mono f5 (fun b _ hb=>hb.1));clear f1 f2 f3 f4 f5 HSX;have HBE9:=Lib.hid hJ.be;clear hJ HNE HL9 a0 a1 a2 a3 a4 a5;rw[hfr];clear hfr;simp only[fillW,Nat.reduceAdd,List.setIfInBounds_toArray,List.set_cons_zero,List.set_cons_succ]
  simp only[List.drop_succ_cons,List.drop_zero];refine GR.append (HR.out.below HBE9.out) rfl (.tmp 61) (.tmp 66) rfl rfl rfl HFG.out (by simp) (Nat.le_trans HW.out.size HBE9.out.size) ?_;intro v9 w21 a1 a2 a3;clear HBx;replace HW:=Lib.hid ((HW.out.trans (HBE9.out.mono HW.out.size)).trans a3);clear HFG HBE9 a2 a3 HNEW HVx HVs HVa HVb HVo HVy;obtain⟨oo,oc,hov,-,ho2,ho3,ho4⟩:=a1.form;subst hov;replace HR:Hid (GR w21 w.heap.size P (.slice oo 2 oc) [leF (nF 0) (lenF x),fo 16 [lenF x,nF 0]]):=Lib.hid a1;clear a1;clear ho4;go_wp2_with fail;go_ret;exact⟨_,rfl,by rw[about_9 x all HX9.out];exact HR.out,HW.out⟩
 have HN9:=Lib.hid hop;clear hop;by_cases hop:xo=10
 ·have HX10:Hid (x.op=10):=Lib.hid (by rw[<-HO.out];exact hop);have e1:(xo==9)=false:=beq_eq_false_iff_ne.2 HN9.out;have e2:(xo==10)=true:=by rw[hop];rfl
  clear hop;go_upto_region 13 with fail;clear u0 u1 u2 u3 u4 fu0 fu1 fu2 fu3 fu4 y0 y1 y2 y3 y4 fy0 fy1 fy2 fy3 fy4;have HNE:Hid (∀ i j,i<11->j<11->i≠j->(fun i=>i+70) i≠(fun i=>i+70) j):=Lib.hid (fun i j _ _ h e=>h (Nat.add_right_cancel e));have HL9:Hid (∀ i,i<11->(fun i=>i+70) i<81):=Lib.hid (fun i h=>by show i+70<81;omega);have HSX:Hid (∀ b,x11.heap.size<=b->(bs P (.slice oo 1 oc)) b):=Lib.hid (fun b hb=>HNEW.out b hb)
  refine Rel9.region (by kernel_rfl) [[],[],[],[2],[2,3],[2,3,4],[2,3,4,5],[2,3,4,5,6],[1,2,3,4,5,6,7],[1,2,3,4,5,6,7,8],[1,2,3,4,5,6,7,8,9],[0,1,2,3,4,5,6,7,8,9,10],[0,1,2,3,4,5,6,7,8,9,10,11]] 11 (by kernel_rfl) (by kernel_rfl) (JL (bs P (.slice oo 1 oc)) x11 _ 11 (fun i=>i+70) (fun i=>[.eqv (.slice oo 1 oc),.fx (lenF x),.fx (kd x 1),.fl [kd x 1],.fx (fo 6 [kd x 1]),.fx (nF 1),.fl [fo 6 [kd x 1],nF 1],.fx (fo 2 [fo 6 [kd x 1],nF 1]),.fl [lenF x,fo 2 [fo 6 [kd x 1],nF 1]],.fx (fo 16 [lenF x,fo 2 [fo 6 [kd x 1],nF 1]]),.fl [fo 16 [lenF x,fo 2 [fo 6 [kd x 1],nF 1]]]].getD i .any)) (JL.start _ _ _ _ _ _) ?_ ?_
  ·intro d T wc i o hJ ho hi hd hdep hcl;have hs:=hJ.slok HNE.out HL9.out (of_decide_eq_true rfl);obtain rfl | rfl | rfl | rfl | rfl | rfl | rfl | rfl | rfl | rfl | rfl:i=0\/i=1\/i=2\/i=3\/i=4\/i=5\/i=6\/i=7\/i=8\/i=9\/i=10:=by omega
   all_goals (injection ho with ho)
   all_goals (subst ho)
   ·exact hJ.opMv hs 0 (by decide) hd (s:=0) rfl (fun i hi=>by show _≠i+70;omega) _ (by rfl) rfl
   ·exact hJ.opV hs 1 (by decide) hd HVs.out rfl (fun i hi=>by show _≠i+70;omega) (by rfl) rfl
   ·exact hJ.opV hs 2 (by decide) hd HVb.out rfl (fun i hi=>by show _≠i+70;omega) (by rfl) rfl
   ·exact hJ.opB1 hs HSX.out 3 (by decide) hd 2 (by decide) (hdep 2 (by rfl)) rfl rfl rfl rfl
   ·exact hJ.opF hs 4 (by decide) hd 3 (by decide) (hdep 3 (by rfl)) ⟨by decide,by decide⟩ rfl rfl rfl rfl
   ·exact hJ.opN hs 5 (by decide) hd ⟨by decide,by decide⟩ rfl rfl
   ·exact hJ.opB2 hs HSX.out 6 (by decide) hd 4 5 (by decide) (by decide) (hdep 4 (by rfl)) (hdep 5 (by rfl)) rfl rfl rfl rfl rfl rfl
   ·exact hJ.opF hs 7 (by decide) hd 6 (by decide) (hdep 6 (by rfl)) ⟨by decide,by decide⟩ rfl rfl rfl rfl
   ·exact hJ.opB2 hs HSX.out 8 (by decide) hd 1 7 (by decide) (by decide) (hdep 1 (by rfl)) (hdep 7 (by rfl)) rfl rfl rfl rfl rfl rfl
   ·exact hJ.opF hs 9 (by decide) hd 8 (by decide) (hdep 8 (by rfl)) ⟨by decide,by decide⟩ rfl rfl rfl rfl
   exact hJ.opB1 hs HSX.out 10 (by decide) hd 9 (by decide) (hdep 9 (by rfl)) rfl rfl rfl rfl
  intro T wt hJ;obtain⟨v0,a0,f0⟩:=hJ.val 0 (by decide) rfl;replace f0:v0=_:=f0;subst f0;obtain⟨v1,a1,f1⟩:=hJ.val 1 (by decide) rfl;obtain⟨v2,a2,f2⟩:=hJ.val 2 (by decide) rfl;obtain⟨v3,a3,f3⟩:=hJ.val 3 (by decide) rfl;obtain⟨v4,a4,f4⟩:=hJ.val 4 (by decide) rfl;obtain⟨v5,a5,f5⟩:=hJ.val 5 (by decide) rfl;obtain⟨v6,a6,f6⟩:=hJ.val 6 (by decide) rfl;obtain⟨v7,a7,f7⟩:=hJ.val 7 (by decide) rfl;obtain⟨v8,a8,f8⟩:=hJ.val 8 (by decide) rfl;obtain⟨v9,a9,f9⟩:=hJ.val 9 (by decide) rfl;obtain⟨v10,a10,f10⟩:=hJ.val 10 (by decide) rfl;have hfr:=hJ.fin (hJ.slok HNE.out HL9.out (of_decide_eq_true rfl)) rfl (.cons a0 (.cons a1 (.cons a2 (.cons a3 (.cons a4 (.cons a5 (.cons a6 (.cons a7 (.cons a8 (.cons a9 (.cons a10 .nil)))))))))))
  have HFG:Hid (FGl wt (bs P (.slice oo 1 oc)) v10 [fo 16 [lenF x,fo 2 [fo 6 [kd x 1],nF 1]]]):=Lib.hid (FGl.mono f10 (fun b _ hb=>hb.1));clear f1 f2 f3 f4 f5 f6 f7 f8 f9 f10 HSX;have HBE9:=Lib.hid hJ.be;clear hJ HNE HL9 a0 a1 a2 a3 a4 a5 a6 a7 a8 a9 a10;rw[hfr];clear hfr;simp only[fillW,Nat.reduceAdd,List.setIfInBounds_toArray,List.set_cons_zero,List.set_cons_succ];simp only[List.drop_succ_cons,List.drop_zero];refine GR.append (HR.out.below HBE9.out) rfl (.tmp 70) (.tmp 80) rfl rfl rfl HFG.out (by simp) (Nat.le_trans HW.out.size HBE9.out.size) ?_;intro v9 w22 a1 a2 a3;replace HBx:Hid (w22.heap[kx]?=_):=Lib.hid (a2.blk HVx.out.1.1 (kBV HBE9.out HBx).out);replace HVx:=Lib.hid ((HVx.out.below HBE9.out).turn a2);replace HVa:=Lib.hid ((HVa.out.below HBE9.out).turn a2)
  replace HVb:=Lib.hid ((HVb.out.below HBE9.out).turn a2);replace HW:=Lib.hid ((HW.out.trans (HBE9.out.mono HW.out.size)).trans a3);clear HFG HBE9 a2 a3 HNEW HVs HVo HVy;obtain⟨oo,oc,hov,-,ho2,ho3,ho4⟩:=a1.form;subst hov;replace HR:Hid (GR w22 w.heap.size P (.slice oo 2 oc) [leF (nF 0) (lenF x),fo 16 [lenF x,fo 2 [fo 6 [kd x 1],nF 1]]]):=Lib.hid a1;clear a1;have HON:Hid (∀ g,(Value.slice oo 2 oc).ownBlock=some g->g<w22.heap.size):=Lib.hid (fun g hg=>by
   cases oo with
   | none=>cases hg
   | some q =>
    obtain⟨g2,rfl,h3,h4⟩:=ho4 q rfl;have e2:some g2=some g:=hg;injection e2 with e2;omega)
  have HNEW:Hid (∀ b,w22.heap.size<=b->bs P (.slice oo 2 oc) b):=Lib.hid (fun b hb=>⟨fun e=>by have:=HON.out b e;omega,HPX.out b (Nat.le_trans HW.out.size hb)⟩);clear HON;clear ho4;cases all with
  | false =>
   go_wp2_with fail;go_ret;exact⟨_,rfl,by rw[about_10f x HX10.out];exact HR.out,HW.out⟩
  | true =>
   go_upto_region 15 with fail;have HNE:Hid (∀ i j,i<14->j<14->i≠j->(fun i=>i+83) i≠(fun i=>i+83) j):=Lib.hid (fun i j _ _ h e=>h (Nat.add_right_cancel e));have HL9:Hid (∀ i,i<14->(fun i=>i+83) i<97):=Lib.hid (fun i h=>by show i+83<97;omega);have HSX:Hid (∀ b,w22.heap.size<=b->(bs P (.slice oo 2 oc)) b):=Lib.hid (fun b hb=>HNEW.out b hb)
   refine Rel9.region (by kernel_rfl) [[],[],[1],[1,2],[],[1,2,3,4],[1,2,3,4,5],[],[7],[1,2,3,4,5,6,7,8],[],[1,2,3,4,5,6,7,8,9,10],[1,2,3,4,5,6,7,8,9,10,11],[1,2,3,4,5,6,7,8,9,10,11,12],[0,1,2,3,4,5,6,7,8,9,10,11,12,13],[0,1,2,3,4,5,6,7,8,9,10,11,12,13,14]] 14 (by kernel_rfl) (by kernel_rfl) (JL (bs P (.slice oo 2 oc)) w22 _ 14 (fun i=>i+83) (fun i=>[.eqv (.slice oo 2 oc),.fx (x),.fl [x],.fx (fo 7 [x]),.fx (kd x 0),.fl [fo 7 [x],kd x 0],.fx (fo 16 [fo 7 [x],kd x 0]),.fx (x),.fl [x],.fx (fo 11 [x]),.fx (kd x 1),.fl [fo 11 [x],kd x 1],.fx (fo 16 [fo 11 [x],kd x 1]),.fl [fo 16 [fo 7 [x],kd x 0],fo 16 [fo 11 [x],kd x 1]]].getD i .any)) (JL.start _ _ _ _ _ _) ?_ ?_
   ·intro d T wc i o hJ ho hi hd hdep hcl;have hs:=hJ.slok HNE.out HL9.out (of_decide_eq_true rfl);obtain rfl | rfl | rfl | rfl | rfl | rfl | rfl | rfl | rfl | rfl | rfl | rfl | rfl | rfl:i=0\/i=1\/i=2\/i=3\/i=4\/i=5\/i=6\/i=7\/i=8\/i=9\/i=10\/i=11\/i=12\/i=13:=by omega
    all_goals (injection ho with ho)
    all_goals (subst ho)
    ·exact hJ.opMv hs 0 (by decide) hd (s:=0) rfl (fun i hi=>by show _≠i+83;omega) _ (by rfl) rfl
    ·exact hJ.opV hs 1 (by decide) hd HVx.out rfl (fun i hi=>by show _≠i+83;omega) (by rfl) rfl
    ·exact hJ.opB1 hs HSX.out 2 (by decide) hd 1 (by decide) (hdep 1 (by rfl)) rfl rfl rfl rfl
    ·exact hJ.opF hs 3 (by decide) hd 2 (by decide) (hdep 2 (by rfl)) ⟨by decide,by decide⟩ rfl rfl rfl rfl
    ·exact hJ.opV hs 4 (by decide) hd HVa.out rfl (fun i hi=>by show _≠i+83;omega) (by rfl) rfl
    ·exact hJ.opB2 hs HSX.out 5 (by decide) hd 3 4 (by decide) (by decide) (hdep 3 (by rfl)) (hdep 4 (by rfl)) rfl rfl rfl rfl rfl rfl
    ·exact hJ.opF hs 6 (by decide) hd 5 (by decide) (hdep 5 (by rfl)) ⟨by decide,by decide⟩ rfl rfl rfl rfl
    ·exact hJ.opV hs 7 (by decide) hd HVx.out rfl (fun i hi=>by show _≠i+83;omega) (by rfl) rfl
    ·exact hJ.opB1 hs HSX.out 8 (by decide) hd 7 (by decide) (hdep 7 (by rfl)) rfl rfl rfl rfl
    ·exact hJ.opF hs 9 (by decide) hd 8 (by decide) (hdep 8 (by rfl)) ⟨by decide,by decide⟩ rfl rfl rfl rfl
    ·exact hJ.opV hs 10 (by decide) hd HVb.out rfl (fun i hi=>by show _≠i+83;omega) (by rfl) rfl
    ·exact hJ.opB2 hs HSX.out 11 (by decide) hd 9 10 (by decide) (by decide) (hdep 9 (by rfl)) (hdep 10 (by rfl)) rfl rfl rfl rfl rfl rfl
    ·exact hJ.opF hs 12 (by decide) hd 11 (by decide) (hdep 11 (by rfl)) ⟨by decide,by decide⟩ rfl rfl rfl rfl
    exact hJ.opB2 hs HSX.out 13 (by decide) hd 6 12 (by decide) (by decide) (hdep 6 (by rfl)) (hdep 12 (by rfl)) rfl rfl rfl rfl rfl rfl
   intro T wt hJ;obtain⟨v0,a0,f0⟩:=hJ.val 0 (by decide) rfl;replace f0:v0=_:=f0;subst f0;obtain⟨v1,a1,f1⟩:=hJ.val 1 (by decide) rfl;obtain⟨v2,a2,f2⟩:=hJ.val 2 (by decide) rfl;obtain⟨v3,a3,f3⟩:=hJ.val 3 (by decide) rfl;obtain⟨v4,a4,f4⟩:=hJ.val 4 (by decide) rfl;obtain⟨v5,a5,f5⟩:=hJ.val 5 (by decide) rfl;obtain⟨v6,a6,f6⟩:=hJ.val 6 (by decide) rfl;obtain⟨v7,a7,f7⟩:=hJ.val 7 (by decide) rfl;obtain⟨v8,a8,f8⟩:=hJ.val 8 (by decide) rfl;obtain⟨v9,a9,f9⟩:=hJ.val 9 (by decide) rfl;obtain⟨v10,a10,f10⟩:=hJ.val 10 (by decide) rfl;obtain⟨v11,a11,f11⟩:=hJ.val 11 (by decide) rfl;obtain⟨v12,a12,f12⟩:=hJ.val 12 (by decide) rfl;obtain⟨v13,a13,f13⟩:=hJ.val 13 (by decide) rfl
   have hfr:=hJ.fin (hJ.slok HNE.out HL9.out (of_decide_eq_true rfl)) rfl (.cons a0 (.cons a1 (.cons a2 (.cons a3 (.cons a4 (.cons a5 (.cons a6 (.cons a7 (.cons a8 (.cons a9 (.cons a10 (.cons a11 (.cons a12 (.cons a13 .nil))))))))))))));have HFG:Hid (FGl wt (bs P (.slice oo 2 oc)) v13 [fo 16 [fo 7 [x],kd x 0],fo 16 [fo 11 [x],kd x 1]]):=Lib.hid (FGl.mono f13 (fun b _ hb=>hb.1));clear f1 f2 f3 f4 f5 f6 f7 f8 f9 f10 f11 f12 f13 HSX;have HBE9:=Lib.hid hJ.be;clear hJ HNE HL9 a0 a1 a2 a3 a4 a5 a6 a7 a8 a9 a10 a11 a12 a13;rw[hfr];clear hfr;simp only[fillW,Nat.reduceAdd,List.setIfInBounds_toArray,List.set_cons_zero,List.set_cons_succ];simp only[List.drop_succ_cons,List.drop_zero];refine GR.append (HR.out.below HBE9.out) rfl (.tmp 83) (.tmp 96) rfl rfl rfl HFG.out (by simp) (Nat.le_trans HW.out.size HBE9.out.size) ?_
   intro v9 w23 a1 a2 a3;clear HBx;replace HW:=Lib.hid ((HW.out.trans (HBE9.out.mono HW.out.size)).trans a3);clear HFG HBE9 a2 a3 HNEW HVx HVa HVb;obtain⟨oo,oc,hov,-,ho2,ho3,ho4⟩:=a1.form;subst hov;replace HR:Hid (GR w23 w.heap.size P (.slice oo 4 oc) [leF (nF 0) (lenF x),fo 16 [lenF x,fo 2 [fo 6 [kd x 1],nF 1]],fo 16 [fo 7 [x],kd x 0],fo 16 [fo 11 [x],kd x 1]]):=Lib.hid a1;clear a1;clear ho4;go_wp2_with fail;go_ret;exact⟨_,rfl,by rw[about_10t x HX10.out];exact HR.out,HW.out⟩
 have HN10:=Lib.hid hop;clear hop;have e1:(xo==9)=false:=beq_eq_false_iff_ne.2 HN9.out;have e2:(xo==10)=false:=beq_eq_false_iff_ne.2 HN10.out;cases all with
 | false =>
  go_wp2_with fail;go_ret;exact⟨_,rfl,by rw[about_f x (by rw[<-HO.out];exact HN9.out) (by rw[<-HO.out];exact HN10.out) (by rw[<-HO.out];exact HS2.out)];exact HR.out,HW.out⟩
 | true =>
  go_wp2_with fail;refine (sort_p _ _ _ _ _ _ _ _ _ x11).mono ?_;rintro e x12 ⟨rfl,hb⟩;rw[HS2.out];clear u0 u1 u2 u3 u4 fu0 fu1 fu2 fu3 fu4 y0 y1 y2 y3 y4 fy0 fy1 fy2 fy3 fy4;clear e1 e2;replace HBx:=kBV hb HBx;replace HVx:=Lib.hid (HVx.out.below hb);replace HVs:=Lib.hid (HVs.out.below hb);replace HVa:=Lib.hid (HVa.out.below hb);replace HVo:=Lib.hid (HVo.out.below hb);replace HR:=Lib.hid (HR.out.below hb);replace HW:=Lib.hid (HW.out.trans (hb.mono HW.out.size));replace HNEW:Hid (∀ b,x12.heap.size<=b->bs P (.slice oo 1 oc) b):=Lib.hid (fun b h9=>HNEW.out b (Nat.le_trans hb.size h9));clear hb;go_upto_region 20 with fail;have HNE:Hid (∀ i j,i<12->j<12->i≠j->(fun i=>i+105) i≠(fun i=>i+105) j):=Lib.hid (fun i j _ _ h e=>h (Nat.add_right_cancel e))
  have HL9:Hid (∀ i,i<12->(fun i=>i+105) i<117):=Lib.hid (fun i h=>by show i+105<117;omega);have HSX:Hid (∀ b,x12.heap.size<=b->(bs P (.slice oo 1 oc)) b):=Lib.hid (fun b hb=>HNEW.out b hb)
  refine Rel9.region (by kernel_rfl) [[],[],[],[1,2],[1,2,3],[],[1,2,3,4],[1,2,3,4,5,6],[1,2,3,4,5,6,7],[1,2,3,4,5,6,7,8],[1,2,3,4,5,6,7,8,9],[1,2,3,4,5,6,7,8,9,10],[0,1,2,3,4,5,6,7,8,9,10,11],[0,1,2,3,4,5,6,7,8,9,10,11,12]] 12 (by kernel_rfl) (by kernel_rfl) (JL (bs P (.slice oo 1 oc)) x12 _ 12 (fun i=>i+105) (fun i=>[.eqv (.slice oo 1 oc),.fx (lenF x),.fx (nF 0),.fl [lenF x,nF 0],.fx (fo 15 [lenF x,nF 0]),.fx (x),.fx (fo 9 []),.fl [x,fo 9 []],.fx (fo 16 [x,fo 9 []]),.fl [fo 15 [lenF x,nF 0],fo 16 [x,fo 9 []]],.fx (orF (orK 1 0 [fo 15 [lenF x,nF 0],fo 16 [x,fo 9 []]])),.fl [orF (orK 1 0 [fo 15 [lenF x,nF 0],fo 16 [x,fo 9 []]])]].getD i .any)) (JL.start _ _ _ _ _ _) ?_ ?_
  ·intro d T wc i o hJ ho hi hd hdep hcl;have hs:=hJ.slok HNE.out HL9.out (of_decide_eq_true rfl);obtain rfl | rfl | rfl | rfl | rfl | rfl | rfl | rfl | rfl | rfl | rfl | rfl:i=0\/i=1\/i=2\/i=3\/i=4\/i=5\/i=6\/i=7\/i=8\/i=9\/i=10\/i=11:=by omega
   all_goals (injection ho with ho)
   all_goals (subst ho)
   ·exact hJ.opMv hs 0 (by decide) hd (s:=0) rfl (fun i hi=>by show _≠i+105;omega) _ (by rfl) rfl
   ·exact hJ.opV hs 1 (by decide) hd HVs.out rfl (fun i hi=>by show _≠i+105;omega) (by rfl) rfl
   ·exact hJ.opN hs 2 (by decide) hd ⟨by decide,by decide⟩ rfl rfl
   ·exact hJ.opB2 hs HSX.out 3 (by decide) hd 1 2 (by decide) (by decide) (hdep 1 (by rfl)) (hdep 2 (by rfl)) rfl rfl rfl rfl rfl rfl
   ·exact hJ.opF hs 4 (by decide) hd 3 (by decide) (hdep 3 (by rfl)) ⟨by decide,by decide⟩ rfl rfl rfl rfl
   ·exact hJ.opV hs 5 (by decide) hd HVx.out rfl (fun i hi=>by show _≠i+105;omega) (by rfl) rfl
   ·exact hJ.opF0 hs 6 (by decide) hd ⟨by decide,by decide⟩ rfl rfl
   ·exact hJ.opB2 hs HSX.out 7 (by decide) hd 5 6 (by decide) (by decide) (hdep 5 (by rfl)) (hdep 6 (by rfl)) rfl rfl rfl rfl rfl rfl
   ·exact hJ.opF hs 8 (by decide) hd 7 (by decide) (hdep 7 (by rfl)) ⟨by decide,by decide⟩ rfl rfl rfl rfl
   ·exact hJ.opB2 hs HSX.out 9 (by decide) hd 4 8 (by decide) (by decide) (hdep 4 (by rfl)) (hdep 8 (by rfl)) rfl rfl rfl rfl rfl rfl
   ·exact hJ.opOr hs HSX.out 10 (by decide) hd 9 (by decide) (hdep 9 (by rfl)) rfl rfl rfl (of_decide_eq_true rfl) rfl
   exact hJ.opB1 hs HSX.out 11 (by decide) hd 10 (by decide) (hdep 10 (by rfl)) rfl rfl rfl rfl
  intro T wt hJ;obtain⟨v0,a0,f0⟩:=hJ.val 0 (by decide) rfl;replace f0:v0=_:=f0;subst f0;obtain⟨v1,a1,f1⟩:=hJ.val 1 (by decide) rfl;obtain⟨v2,a2,f2⟩:=hJ.val 2 (by decide) rfl;obtain⟨v3,a3,f3⟩:=hJ.val 3 (by decide) rfl;obtain⟨v4,a4,f4⟩:=hJ.val 4 (by decide) rfl;obtain⟨v5,a5,f5⟩:=hJ.val 5 (by decide) rfl;obtain⟨v6,a6,f6⟩:=hJ.val 6 (by decide) rfl;obtain⟨v7,a7,f7⟩:=hJ.val 7 (by decide) rfl;obtain⟨v8,a8,f8⟩:=hJ.val 8 (by decide) rfl;obtain⟨v9,a9,f9⟩:=hJ.val 9 (by decide) rfl;obtain⟨v10,a10,f10⟩:=hJ.val 10 (by decide) rfl;obtain⟨v11,a11,f11⟩:=hJ.val 11 (by decide) rfl
  have hfr:=hJ.fin (hJ.slok HNE.out HL9.out (of_decide_eq_true rfl)) rfl (.cons a0 (.cons a1 (.cons a2 (.cons a3 (.cons a4 (.cons a5 (.cons a6 (.cons a7 (.cons a8 (.cons a9 (.cons a10 (.cons a11 .nil))))))))))));have HFG:Hid (FGl wt (bs P (.slice oo 1 oc)) v11 [orF (orK 1 0 [fo 15 [lenF x,nF 0],fo 16 [x,fo 9 []]])]):=Lib.hid (FGl.mono f11 (fun b _ hb=>hb.1));clear f1 f2 f3 f4 f5 f6 f7 f8 f9 f10 f11 HSX;have HBE9:=Lib.hid hJ.be;clear hJ HNE HL9 a0 a1 a2 a3 a4 a5 a6 a7 a8 a9 a10 a11;rw[hfr];clear hfr;simp only[fillW,Nat.reduceAdd,List.setIfInBounds_toArray,List.set_cons_zero,List.set_cons_succ];simp only[List.drop_succ_cons,List.drop_zero];refine GR.append (HR.out.below HBE9.out) rfl (.tmp 105) (.tmp 116) rfl rfl rfl HFG.out (by simp) (Nat.le_trans HW.out.size HBE9.out.size) ?_;intro v9 w24 a1 a2 a3
  replace HBx:Hid (w24.heap[kx]?=_):=Lib.hid (a2.blk HVx.out.1.1 (kBV HBE9.out HBx).out);replace HVx:=Lib.hid ((HVx.out.below HBE9.out).turn a2);replace HVs:=Lib.hid ((HVs.out.below HBE9.out).turn a2);replace HVa:=Lib.hid ((HVa.out.below HBE9.out).turn a2);replace HVo:=Lib.hid ((HVo.out.below HBE9.out).turn a2);replace HW:=Lib.hid ((HW.out.trans (HBE9.out.mono HW.out.size)).trans a3);clear HFG HBE9 a2 a3 HNEW HVb HVy;obtain⟨oo,oc,hov,-,ho2,ho3,ho4⟩:=a1.form;subst hov;replace HR:Hid (GR w24 w.heap.size P (.slice oo 2 oc) [leF (nF 0) (lenF x),orF (orK 1 0 [fo 15 [lenF x,nF 0],fo 16 [x,fo 9 []]])]):=Lib.hid a1;clear a1;have HON:Hid (∀ g,(Value.slice oo 2 oc).ownBlock=some g->g<w24.heap.size):=Lib.hid (fun g hg=>by
   cases oo with
   | none=>cases hg
   | some q =>
    obtain⟨g2,rfl,h3,h4⟩:=ho4 q rfl;have e2:some g2=some g:=hg;injection e2 with e2;omega)
  have HNEW:Hid (∀ b,w24.heap.size<=b->bs P (.slice oo 2 oc) b):=Lib.hid (fun b hb=>⟨fun e=>by have:=HON.out b e;omega,HPX.out b (Nat.le_trans HW.out.size hb)⟩);clear HON;clear ho4;obtain⟨⟨y0,y1,y2,y3,y4⟩,fy0,fy1,fy2,fy3,fy4⟩:=cells5V HBx.out;by_cases hop:xo=11
  ·have HX11:Hid (x.op=11):=Lib.hid (by rw[<-HO.out];exact hop);have e3:(xo==11)=true:=by rw[hop];rfl
   clear hop;go_upto_region 23 with fail;clear y0 y1 y2 y3 y4 fy0 fy1 fy2 fy3 fy4;have HNE:Hid (∀ i j,i<33->j<33->i≠j->(fun i=>i+122) i≠(fun i=>i+122) j):=Lib.hid (fun i j _ _ h e=>h (Nat.add_right_cancel e));have HL9:Hid (∀ i,i<33->(fun i=>i+122) i<155):=Lib.hid (fun i h=>by show i+122<155;omega);have HSX:Hid (∀ b,w24.heap.size<=b->(bs P (.slice oo 2 oc)) b):=Lib.hid (fun b hb=>HNEW.out b hb)
   refine Rel9.region (by kernel_rfl) [[],[],[],[2],[2,3],[],[2,3,4],[2,3,4,5,6],[2,3,4,5,6,7],[2,3,4,5,6,7,8],[2,3,4,5,6,7,8,9],[1,2,3,4,5,6,7,8,9,10],[1,2,3,4,5,6,7,8,9,10,11],[],[],[1,2,3,4,5,6,7,8,9,10,11,12],[1,2,3,4,5,6,7,8,9,10,11,12,14,15],[1,2,3,4,5,6,7,8,9,10,11,12,14,15,16],[1,2,3,4,5,6,7,8,9,10,11,12,13,14,15,16,17],[1,2,3,4,5,6,7,8,9,10,11,12,13,14,15,16,17,18],[],[],[],[22],[1,2,3,4,5,6,7,8,9,10,11,12,13,14,15,16,17,18,19,22,23],[],[1,2,3,4,5,6,7,8,9,10,11,12,13,14,15,16,17,18,19,22,23,24,25],[1,2,3,4,5,6,7,8,9,10,11,12,13,14,15,16,17,18,19,22,23,24,25,26],[1,2,3,4,5,6,7,8,9,10,11,12,13,14,15,16,17,18,19,21,22,23,24,25,26,27],[1,2,3,4,5,6,7,8,9,10,11,12,13,14,15,16,17,18,19,21,22,23,24,25,26,27,28],[1,2,3,4,5,6,7,8,9,10,11,12,13,14,15,16,17,18,19,20,21,22,23,24,25,26,27,28,29],[1,2,3,4,5,6,7,8,9,10,11,12,13,14,15,16,17,18,19,20,21,22,23,24,25,26,27,28,29,30],[1,2,3,4,5,6,7,8,9,10,11,12,13,14,15,16,17,18,19,20,21,22,23,24,25,26,27,28,29,30,31],[0,1,2,3,4,5,6,7,8,9,10,11,12,13,14,15,16,17,18,19,20,21,22,23,24,25,26,27,28,29,30,31,32],[0,1,2,3,4,5,6,7,8,9,10,11,12,13,14,15,16,17,18,19,20,21,22,23,24,25,26,27,28,29,30,31,32,33]] 33 (by kernel_rfl) (by kernel_rfl) (JL (bs P (.slice oo 2 oc)) w24 _ 33 (fun i=>i+122) (fun i=>[.eqv (.slice oo 2 oc),.fx (fillF (kd x 0)),.fx (kd x 0),.fl [kd x 0],.fx (fo 6 [kd x 0]),.fx (lenF x),.fx (nF 1),.fl [lenF x,nF 1],.fx (fo 2 [lenF x,nF 1]),.fl [fo 6 [kd x 0],fo 2 [lenF x,nF 1]],.fx (fo 16 [fo 6 [kd x 0],fo 2 [lenF x,nF 1]]),.fl [fillF (kd x 0),fo 16 [fo 6 [kd x 0],fo 2 [lenF x,nF 1]]],.fx (orF (orK 1 0 [fillF (kd x 0),fo 16 [fo 6 [kd x 0],fo 2 [lenF x,nF 1]]])),.fx (fillF (kd x 0)),.fx (x),.fx (fo 9 []),.fl [x,fo 9 []],.fx (fo 16 [x,fo 9 []]),.fl [fillF (kd x 0),fo 16 [x,fo 9 []]],.fx (orF (orK 0 0 [fillF (kd x 0),fo 16 [x,fo 9 []]])),.fx (fillF (kd x 0)),.fx (kd x 0),.fx (kd x 0),.fl [kd x 0],.fx (fo 7 [kd x 0]),.fx (x),.fl [fo 7 [kd x 0],x],.fx (fo 10 [fo 7 [kd x 0],x]),.fl [kd x 0,fo 10 [fo 7 [kd x 0],x]],.fx (fo 16 [kd x 0,fo 10 [fo 7 [kd x 0],x]]),.fl [fillF (kd x 0),fo 16 [kd x 0,fo 10 [fo 7 [kd x 0],x]]],.fx (orF (orK 1 0 [fillF (kd x 0),fo 16 [kd x 0,fo 10 [fo 7 [kd x 0],x]]])),.fl [orF (orK 1 0 [fillF (kd x 0),fo 16 [fo 6 [kd x 0],fo 2 [lenF x,nF 1]]]),orF (orK 0 0 [fillF (kd x 0),fo 16 [x,fo 9 []]]),orF (orK 1 0 [fillF (kd x 0),fo 16 [kd x 0,fo 10 [fo 7 [kd x 0],x]]])]].getD i .any)) (JL.start _ _ _ _ _ _) ?_ ?_
   ·intro d T wc i o hJ ho hi hd hdep hcl;have hs:=hJ.slok HNE.out HL9.out (of_decide_eq_true rfl);obtain rfl | rfl | rfl | rfl | rfl | rfl | rfl | rfl | rfl | rfl | rfl | rfl | rfl | rfl | rfl | rfl | rfl | rfl | rfl | rfl | rfl | rfl | rfl | rfl | rfl | rfl | rfl | rfl | rfl | rfl | rfl | rfl | rfl:i=0\/i=1\/i=2\/i=3\/i=4\/i=5\/i=6\/i=7\/i=8\/i=9\/i=10\/i=11\/i=12\/i=13\/i=14\/i=15\/i=16\/i=17\/i=18\/i=19\/i=20\/i=21\/i=22\/i=23\/i=24\/i=25\/i=26\/i=27\/i=28\/i=29\/i=30\/i=31\/i=32:=by omega
    all_goals (injection ho with ho)
    all_goals (subst ho)
    ·exact hJ.opMv hs 0 (by decide) hd (s:=0) rfl (fun i hi=>by show _≠i+122;omega) _ (by rfl) rfl
    ·exact hJ.opV hs 1 (by decide) hd HVo.out rfl (fun i hi=>by show _≠i+122;omega) (by rfl) rfl
    ·exact hJ.opV hs 2 (by decide) hd HVa.out rfl (fun i hi=>by show _≠i+122;omega) (by rfl) rfl
    ·exact hJ.opB1 hs HSX.out 3 (by decide) hd 2 (by decide) (hdep 2 (by rfl)) rfl rfl rfl rfl
    ·exact hJ.opF hs 4 (by decide) hd 3 (by decide) (hdep 3 (by rfl)) ⟨by decide,by decide⟩ rfl rfl rfl rfl
    ·exact hJ.opV hs 5 (by decide) hd HVs.out rfl (fun i hi=>by show _≠i+122;omega) (by rfl) rfl
    ·exact hJ.opN hs 6 (by decide) hd ⟨by decide,by decide⟩ rfl rfl
    ·exact hJ.opB2 hs HSX.out 7 (by decide) hd 5 6 (by decide) (by decide) (hdep 5 (by rfl)) (hdep 6 (by rfl)) rfl rfl rfl rfl rfl rfl
    ·exact hJ.opF hs 8 (by decide) hd 7 (by decide) (hdep 7 (by rfl)) ⟨by decide,by decide⟩ rfl rfl rfl rfl
    ·exact hJ.opB2 hs HSX.out 9 (by decide) hd 4 8 (by decide) (by decide) (hdep 4 (by rfl)) (hdep 8 (by rfl)) rfl rfl rfl rfl rfl rfl
    ·exact hJ.opF hs 10 (by decide) hd 9 (by decide) (hdep 9 (by rfl)) ⟨by decide,by decide⟩ rfl rfl rfl rfl
    ·exact hJ.opB2 hs HSX.out 11 (by decide) hd 1 10 (by decide) (by decide) (hdep 1 (by rfl)) (hdep 10 (by rfl)) rfl rfl rfl rfl rfl rfl
    ·exact hJ.opOr hs HSX.out 12 (by decide) hd 11 (by decide) (hdep 11 (by rfl)) rfl rfl rfl (of_decide_eq_true rfl) rfl
    ·exact hJ.opV hs 13 (by decide) hd HVo.out rfl (fun i hi=>by show _≠i+122;omega) (by rfl) rfl
    ·exact hJ.opV hs 14 (by decide) hd HVx.out rfl (fun i hi=>by show _≠i+122;omega) (by rfl) rfl
    ·exact hJ.opF0 hs 15 (by decide) hd ⟨by decide,by decide⟩ rfl rfl
    ·exact hJ.opB2 hs HSX.out 16 (by decide) hd 14 15 (by decide) (by decide) (hdep 14 (by rfl)) (hdep 15 (by rfl)) rfl rfl rfl rfl rfl rfl
    ·exact hJ.opF hs 17 (by decide) hd 16 (by decide) (hdep 16 (by rfl)) ⟨by decide,by decide⟩ rfl rfl rfl rfl
    ·exact hJ.opB2 hs HSX.out 18 (by decide) hd 13 17 (by decide) (by decide) (hdep 13 (by rfl)) (hdep 17 (by rfl)) rfl rfl rfl rfl rfl rfl
    ·exact hJ.opOr hs HSX.out 19 (by decide) hd 18 (by decide) (hdep 18 (by rfl)) rfl rfl rfl (of_decide_eq_true rfl) rfl
    ·exact hJ.opV hs 20 (by decide) hd HVo.out rfl (fun i hi=>by show _≠i+122;omega) (by rfl) rfl
    ·exact hJ.opV hs 21 (by decide) hd HVa.out rfl (fun i hi=>by show _≠i+122;omega) (by rfl) rfl
    ·exact hJ.opV hs 22 (by decide) hd HVa.out rfl (fun i hi=>by show _≠i+122;omega) (by rfl) rfl
    ·exact hJ.opB1 hs HSX.out 23 (by decide) hd 22 (by decide) (hdep 22 (by rfl)) rfl rfl rfl rfl
    ·exact hJ.opF hs 24 (by decide) hd 23 (by decide) (hdep 23 (by rfl)) ⟨by decide,by decide⟩ rfl rfl rfl rfl
    ·exact hJ.opV hs 25 (by decide) hd HVx.out rfl (fun i hi=>by show _≠i+122;omega) (by rfl) rfl
    ·exact hJ.opB2 hs HSX.out 26 (by decide) hd 24 25 (by decide) (by decide) (hdep 24 (by rfl)) (hdep 25 (by rfl)) rfl rfl rfl rfl rfl rfl
    ·exact hJ.opF hs 27 (by decide) hd 26 (by decide) (hdep 26 (by rfl)) ⟨by decide,by decide⟩ rfl rfl rfl rfl
    ·exact hJ.opB2 hs HSX.out 28 (by decide) hd 21 27 (by decide) (by decide) (hdep 21 (by rfl)) (hdep 27 (by rfl)) rfl rfl rfl rfl rfl rfl
    ·exact hJ.opF hs 29 (by decide) hd 28 (by decide) (hdep 28 (by rfl)) ⟨by decide,by decide⟩ rfl rfl rfl rfl
    ·exact hJ.opB2 hs HSX.out 30 (by decide) hd 20 29 (by decide) (by decide) (hdep 20 (by rfl)) (hdep 29 (by rfl)) rfl rfl rfl rfl rfl rfl
    ·exact hJ.opOr hs HSX.out 31 (by decide) hd 30 (by decide) (hdep 30 (by rfl)) rfl rfl rfl (of_decide_eq_true rfl) rfl
    exact hJ.opB3 hs HSX.out 32 (by decide) hd 12 19 31 (by decide) (by decide) (by decide) (hdep 12 (by rfl)) (hdep 19 (by rfl)) (hdep 31 (by rfl)) rfl rfl rfl rfl rfl rfl rfl rfl
   intro T wt hJ;obtain⟨v0,a0,f0⟩:=hJ.val 0 (by decide) rfl;replace f0:v0=_:=f0;subst f0;obtain⟨v1,a1,f1⟩:=hJ.val 1 (by decide) rfl;obtain⟨v2,a2,f2⟩:=hJ.val 2 (by decide) rfl;obtain⟨v3,a3,f3⟩:=hJ.val 3 (by decide) rfl;obtain⟨v4,a4,f4⟩:=hJ.val 4 (by decide) rfl;obtain⟨v5,a5,f5⟩:=hJ.val 5 (by decide) rfl;obtain⟨v6,a6,f6⟩:=hJ.val 6 (by decide) rfl;obtain⟨v7,a7,f7⟩:=hJ.val 7 (by decide) rfl;obtain⟨v8,a8,f8⟩:=hJ.val 8 (by decide) rfl;obtain⟨v9,a9,f9⟩:=hJ.val 9 (by decide) rfl;obtain⟨v10,a10,f10⟩:=hJ.val 10 (by decide) rfl;obtain⟨v11,a11,f11⟩:=hJ.val 11 (by decide) rfl;obtain⟨v12,a12,f12⟩:=hJ.val 12 (by decide) rfl;obtain⟨v13,a13,f13⟩:=hJ.val 13 (by decide) rfl;obtain⟨v14,a14,f14⟩:=hJ.val 14 (by decide) rfl;obtain⟨v15,a15,f15⟩:=hJ.val 15 (by decide) rfl
   obtain⟨v16,a16,f16⟩:=hJ.val 16 (by decide) rfl;obtain⟨v17,a17,f17⟩:=hJ.val 17 (by decide) rfl;obtain⟨v18,a18,f18⟩:=hJ.val 18 (by decide) rfl;obtain⟨v19,a19,f19⟩:=hJ.val 19 (by decide) rfl;obtain⟨v20,a20,f20⟩:=hJ.val 20 (by decide) rfl;obtain⟨v21,a21,f21⟩:=hJ.val 21 (by decide) rfl;obtain⟨v22,a22,f22⟩:=hJ.val 22 (by decide) rfl;obtain⟨v23,a23,f23⟩:=hJ.val 23 (by decide) rfl;obtain⟨v24,a24,f24⟩:=hJ.val 24 (by decide) rfl;obtain⟨v25,a25,f25⟩:=hJ.val 25 (by decide) rfl;obtain⟨v26,a26,f26⟩:=hJ.val 26 (by decide) rfl;obtain⟨v27,a27,f27⟩:=hJ.val 27 (by decide) rfl;obtain⟨v28,a28,f28⟩:=hJ.val 28 (by decide) rfl;obtain⟨v29,a29,f29⟩:=hJ.val 29 (by decide) rfl;obtain⟨v30,a30,f30⟩:=hJ.val 30 (by decide) rfl;obtain⟨v31,a31,f31⟩:=hJ.val 31 (by decide) rfl
   obtain⟨v32,a32,f32⟩:=hJ.val 32 (by decide) rfl;have hfr:=hJ.fin (hJ.slok HNE.out HL9.out (of_decide_eq_true rfl)) rfl (.cons a0 (.cons a1 (.cons a2 (.cons a3 (.cons a4 (.cons a5 (.cons a6 (.cons a7 (.cons a8 (.cons a9 (.cons a10 (.cons a11 (.cons a12 (.cons a13 (.cons a14 (.cons a15 (.cons a16 (.cons a17 (.cons a18 (.cons a19 (.cons a20 (.cons a21 (.cons a22 (.cons a23 (.cons a24 (.cons a25 (.cons a26 (.cons a27 (.cons a28 (.cons a29 (.cons a30 (.cons a31 (.cons a32 .nil)))))))))))))))))))))))))))))))));have HFG:Hid (FGl wt (bs P (.slice oo 2 oc)) v32 [orF (orK 1 0 [fillF (kd x 0),fo 16 [fo 6 [kd x 0],fo 2 [lenF x,nF 1]]]),orF (orK 0 0 [fillF (kd x 0),fo 16 [x,fo 9 []]]),orF (orK 1 0 [fillF (kd x 0),fo 16 [kd x 0,fo 10 [fo 7 [kd x 0],x]]])]):=Lib.hid (FGl.mono f32 (fun b _ hb=>hb.1))
   clear f1 f2 f3 f4 f5 f6 f7 f8 f9 f10 f11 f12 f13 f14 f15 f16 f17 f18 f19 f20 f21 f22 f23 f24 f25 f26 f27 f28 f29 f30 f31 f32 HSX;have HBE9:=Lib.hid hJ.be;clear hJ HNE HL9 a0 a1 a2 a3 a4 a5 a6 a7 a8 a9 a10 a11 a12 a13 a14 a15 a16 a17 a18 a19 a20 a21 a22 a23 a24 a25 a26 a27 a28 a29 a30 a31 a32;rw[hfr];clear hfr;simp only[fillW,Nat.reduceAdd,List.setIfInBounds_toArray,List.set_cons_zero,List.set_cons_succ];simp only[List.drop_succ_cons,List.drop_zero];refine GR.append (HR.out.below HBE9.out) rfl (.tmp 122) (.tmp 154) rfl rfl rfl HFG.out (by simp) (Nat.le_trans HW.out.size HBE9.out.size) ?_;intro v9 w25 a1 a2 a3;clear HBx;replace HW:=Lib.hid ((HW.out.trans (HBE9.out.mono HW.out.size)).trans a3);clear HFG HBE9 a2 a3 HNEW HVx HVs HVa HVo;obtain⟨oo,oc,hov,-,ho2,ho3,ho4⟩:=a1.form;subst hov
   replace HR:Hid (GR w25 w.heap.size P (.slice oo 5 oc) [leF (nF 0) (lenF x),orF (orK 1 0 [fo 15 [lenF x,nF 0],fo 16 [x,fo 9 []]]),orF (orK 1 0 [fillF (kd x 0),fo 16 [fo 6 [kd x 0],fo 2 [lenF x,nF 1]]]),orF (orK 0 0 [fillF (kd x 0),fo 16 [x,fo 9 []]]),orF (orK 1 0 [fillF (kd x 0),fo 16 [kd x 0,fo 10 [fo 7 [kd x 0],x]]])]):=Lib.hid a1;clear a1;clear ho4;go_wp2_with fail;go_ret;exact⟨_,rfl,by rw[about_11 x HX11.out];exact HR.out,HW.out⟩
  have HX8:Hid (x.op=8):=Lib.hid (by rw[<-HO.out];exact srt_two HS2.out HN9.out HN10.out hop);have e3:(xo==11)=false:=beq_eq_false_iff_ne.2 hop;have e4:(xo==7)=false:=beq_eq_false_iff_ne.2 (by rw[HO.out,HX8.out];decide);have e5:(xo==5)=false:=beq_eq_false_iff_ne.2 (by rw[HO.out,HX8.out];decide);have e6:(xo==4)=false:=beq_eq_false_iff_ne.2 (by rw[HO.out,HX8.out];decide);clear hop;go_wp2_with fail;go_ret;exact⟨_,rfl,by rw[about_8 x HX8.out];exact HR.out,HW.out⟩
theorem wx_prt {m d:Nat} {y:F} (hd:d<=m) (hr:rt y=true) (hm:Tm d y):∀ z ∈ prtF y,rt z=true/\Tm m z:=fun z hz =>
 ⟨(all_rt d y hm hr).prt z hz,(all_tm5 d hd y hm).prt z hz⟩
theorem wx_terms {t:F} (hr:rt t=true) (hm:Tm 5 t):∀ y ∈ termsF t,rt y=true/\Tm 5 y/\srt y.op≠1:=fun y hy=>by
 unfold termsF at hy;obtain⟨h1,h2⟩:=List.mem_filter.1 hy;obtain⟨h3,h4⟩:=vis_rt hr hm y h1;exact⟨h3,h4,of_decide_eq_true h2⟩
theorem wx_want {t:F} (hr:rt t=true) (hm:Tm 5 t):∀ y ∈ of1F t,rt y=true/\Tm 9 y:=fun y hy=>by
 obtain⟨h1,h2⟩:=of1_q hr hm y hy;exact⟨h1,h2.2⟩
theorem wx_more {t:F} (hr:rt t=true) (hm:Tm 5 t):∀ y ∈ prPs (termsF t) (of1F t),rt y=true/\Tm 9 y:=fun y hy=>by
 rcases prPs_mem _ _ y hy with h | h
 ·obtain⟨h1,h2,-⟩:=wx_terms hr hm y h;exact⟨h1,h2.up (by decide)⟩
 obtain⟨k,hk,h2⟩:=prts_mem.1 h;obtain⟨h3,h4⟩:=wx_want hr hm k hk;exact wx_prt (Nat.le_refl 9) h3 h4 y h2
theorem wx_kids {d:Nat} {y:F} (h:Tm d y):y.kids.length<=1000:=by
 cases d with
 | zero=>exact absurd h id
 | succ d=>exact Nat.le_trans h.2.2.2.1 (by decide)
theorem wx_len {t:F} (hm:Tm 5 t):(termsF t).length<=1000:=by
 rw[<-prP_terms];have h1:=prP_len t [];have h2:=Nat.le_trans (sz_cnt 5 t hm) cnt_5;simp only[lsn] at h1
 omega
theorem wx_num {t y:F} (hr:rt t=true) (hm:Tm 5 t) (hy:y ∈ termsF t) (h5:y.op=5):(y.num - 1).natAbs<L32 ^ 600:=by
 have h1:leF (kd y 0) (addF (scF y.num y) (nF (y.num - 1))) ∈ of1F t:=by
  unfold of1F;refine List.mem_flatMap.2 ⟨y,hy,?_⟩;unfold factsF;rw[h5];simp
 obtain⟨h2,h3⟩:=wx_want hr hm _ h1;have h4:=(wx_prt (Nat.le_refl 9) h2 h3 (nF (y.num - 1)) (prt_mem.2 (.inr ⟨addF (scF y.num y) (nF (y.num - 1)),by simp[leF,fo,F.kids],prt_mem.2 (.inr ⟨nF (y.num - 1),by simp[addF,fo,F.kids],prt_self _⟩)⟩))).2;exact lt_pow_more (k:=4) (k':=600) h4.2.1 (by decide)
theorem kd_size (x:F) (i:Nat):szF (kd x i)<=szF x:=by
 obtain⟨o,z,nm,ks⟩:=x;unfold kd;simp only[F.kids];by_cases h:i<ks.length
 ·rw[List.getD_eq_getElem?_getD,List.getElem?_eq_getElem h,Option.getD_some];have:=kid_size (List.getElem_mem h);rw[szF];omega
 rw[List.getD_eq_getElem?_getD,List.getElem?_eq_none (by omega),Option.getD_none,szF];simp[nF,szF,szsF]
theorem fact_size (x:F):∀ y ∈ factsF x,szF y<=12+8*szF x:=by
 have h0:=kd_size x 0;have h1:=kd_size x 1;intro y hy;unfold factsF prodF tailF emptF lensF at hy;simp only[leF,eqfF,notF,orF,addF,lenF,nF,hdF,tlF,consF,nilF,scF,fillF,fo] at hy;repeat' split at hy;all_goals
  simp only[List.mem_append,List.mem_cons,List.not_mem_nil,or_false] at hy;try (exact absurd hy id)
  try (rcases hy with hy | hy)
  all_goals
   try (rcases hy with hy | hy)
   all_goals
    try (rcases hy with hy | hy)
    all_goals
     try (rcases hy with hy | hy)
     all_goals
      try (rcases hy with hy | hy)
      all_goals ((try subst hy);(try simp only[szF,szsF]);(try omega))
theorem szs_le {m:Nat}:∀ (l:List F),(∀ y ∈ l,szF y<=m)->szsF l<=m*l.length
 | [],_=>by rw[szsF];exact Nat.zero_le _
 | k::l,h=>by
  have h1:=szs_le l (fun y hy=>h y (by simp[hy]));have h2:=h k (by simp);rw[szsF,lsc,Nat.mul_add]
  omega
theorem szs_flat {f:F->List F} {c:Nat}:∀ (l:List F),(∀ x ∈ l,szsF (f x)<=c)->szsF (l.flatMap f)<=c*l.length
 | [],_=>by rw[List.flatMap_nil,szsF];exact Nat.zero_le _
 | k::l,h=>by
  have h1:=szs_flat l (fun y hy=>h y (by simp[hy]));have h2:=h k (by simp);rw[List.flatMap_cons,szsF_app,lsc,Nat.mul_add]
  omega
theorem wx_size4 {t:F} (hr:rt t=true) (hm:Tm 4 t):szsF (of1F t)<=80000:=by
 have hz:szF t<=40:=sz_cnt 4 t hm;have hx:∀ x ∈ termsF t,szF x<=40:=fun x hx=>by
  unfold termsF at hx;exact Nat.le_trans (prt_size t x (vis_mem.1 (List.mem_filter.1 hx).1)) hz
 have hl:(termsF t).length<=40:=by
  rw[<-prP_terms];have h1:=prP_len t [];simp only[lsn] at h1;omega
 have h1:szsF (of1F t)<=1992*(termsF t).length:=szs_flat (termsF t) fun x hq=>by
  have h2:=szs_le (m:=332) (factsF x) (fun y hy=>by have:=fact_size x y hy;have:=hx x hq;omega);have h3:=factsF_len x;exact Nat.le_trans h2 (Nat.mul_le_mul_left 332 h3)
 have h2:=Nat.mul_le_mul_left 1992 hl;omega
attribute [local go_sem] fieldV0 fieldV1 fieldV2 fieldV3
section
variable {S:Nat->Prop} {W0:World} {t0:Array Value} {n:Nat} {sl:Nat->Nat} {fd:Nat->LD} {d:Nat->Bool} {T:Array Value} {w w':World} {ds:List Deferred} {Q:Exit->Act->World->Prop} {o:Oper}
theorem JL.opFa (h:JL S W0 t0 n sl fd d T w) (hs:SlOk n sl t0.size) (i:Nat) (hi:i<n) (hd:d i=false) {r p g:Nat} {ty:TypeId} {ps:String} {ed:Array Edge} (hsl:sl i=r) (hp:∀ i,i<n->p≠sl i) (hv:t0[p]?=some (.pointer (some ⟨g,0,none⟩))) (hf:fd i=.eqv (.pointer (some ⟨g,1,none⟩))):Opd S W0 t0 n sl fd d T w ds Q i ⟨some r,.fieldAddr 29 (.tmp p) 1,ty,ps,ed,none⟩:=by
 have e:T[p]?=some (.pointer (some ⟨g,0,none⟩)):=(h.oth p hp).trans hv;refine⟨rfl,fun K hK=>?_⟩;have h9:=hK.out _ _ (h.step hs i hi hd (.pointer (some ⟨g,1,none⟩)) (Below.refl _ _) (by rw[hf];rfl) (by rw[hf];intro h;cases h));clear hK;rw[hsl] at h9;go_simp
 exact h9
theorem JL.opLn (h:JL S W0 t0 n sl fd d T w) (hs:SlOk n sl t0.size) (i:Nat) (hi:i<n) (hd:d i=false) (j:Nat) (hj:j<n) (hdj:d j=true) {r a g:Nat} {k:Int} {b:Bool} {xo:Option Addr} {l c:Nat} {nm:ByteArray} {ko:Option Addr} {kl kc:Nat} {ty:TypeId} {ps:String} {ed:Array Edge} (hB:W0.heap[g]?=some (.cells #[.int .i64 k,.bool b,.slice xo l c,.string nm,.slice ko kl kc] 29 (0,0))) (hsl:sl i=r) (hsj:sl j=a) (hfj:fd j=.eqv (.pointer (some ⟨g,1,none⟩))) (hf:fd i=.eqv (.agg #[.bool b,.slice xo l c])) :
  Opd S W0 t0 n sl fd d T w ds Q i ⟨some r,.load 26 (.tmp a),ty,ps,ed,none⟩:=by
 obtain⟨v,e,hv1⟩:=h.val j hj hdj;rw[hfj] at hv1;have hv2:v=.pointer (some ⟨g,1,none⟩):=hv1;rw[hsj,hv2] at e;have hBq:=(h.be.block g (lt_of_block hB)).trans hB;have q1:=cell_at (v:=.bool b) hBq 1 rfl;have q2:=cell_at (v:=.slice xo l c) hBq 2 rfl;refine⟨rfl,fun K hK=>?_⟩;have h9:=hK.out _ _ (h.step hs i hi hd (.agg #[.bool b,.slice xo l c]) (Below.refl _ _) (by rw[hf];rfl) (by rw[hf];intro h;cases h));clear hK hBq hB;rw[hsl] at h9;go_simp
 exact h9
theorem JL.opOf (h:JL S W0 t0 n sl fd d T w) (hs:SlOk n sl t0.size) (i:Nat) (hi:i<n) (hd:d i=false) {r:Nat} {k:Int} {ty:TypeId} {at_:Array TypeId} {ps:String} {ed:Array Edge} (hk:IR k) (hsl:sl i=r) (hf:fd i=.ci k 2) :
  Opd S W0 t0 n sl fd d T w ds Q i ⟨some r,.call { callee:=.value (.func 42),args:=#[.const (.int .i64 k)],argTypes:=at_ },ty,ps,ed,none⟩:=by
 refine h.call hs hi hd rfl (by rw[hsl]) 42 #[.int .i64 k] ?_ (by rw[hf];exact wof_any k w hk.1 hk.2) (by rw[hf];intro h;cases h);unfold execOp
 simp[Act.eval,Frame.eval,resolve,invoke,Deferred.ofValue,go_sem]
theorem JL.opSub (h:JL S W0 t0 n sl fd d T w) (hs:SlOk n sl t0.size) (i:Nat) (hi:i<n) (hd:d i=false) (j k:Nat) (hj:j<n) (hk:k<n) (hdj:d j=true) (hdk:d k=true) {r a b:Nat} {x:Value} {y z:Int} {k8 k9:Nat} {ty:TypeId} {at_:Array TypeId} {ps:String} {ed:Array Edge} (hx:CI W0 x y k8) (h8:k8<=1000000) (hz:(y - z).natAbs<L32 ^ k9) (hsl:sl i=r) (hsj:sl j=a) (hsk:sl k=b) (hfj:fd j=.eqv x) (hfk:fd k=.ci z 2) (hf:fd i=.ci (y - z) k9) :
  Opd S W0 t0 n sl fd d T w ds Q i ⟨some r,.call { callee:=.value (.func 79),args:=#[.tmp a,.tmp b],argTypes:=at_ },ty,ps,ed,none⟩:=by
 obtain⟨v,e,hv⟩:=h.val j hj hdj;rw[hfj] at hv;have hv2:v=x:=hv;rw[hsj,hv2] at e;obtain⟨v2,e2,hv3⟩:=h.val k hk hdk;rw[hfk] at hv3;have hc:CI w v2 z 2:=hv3;rw[hsk] at e2;refine h.call hs hi hd rfl (by rw[hsl]) 79 #[x,v2] ?_ ((wsub_any _ _ y z k8 2 w (CI.gi (CI.below hx h.be)) (CI.gi hc) h8 (by decide)).mono ?_) (by rw[hf];intro h;cases h)
 ·unfold execOp;simp[Act.eval,Frame.eval,resolve,invoke,Deferred.ofValue,e,e2,go_sem]
 rintro e w' ⟨v',rfl,h1,hb⟩;exact⟨v',rfl,by rw[hf];exact h1.lowF hz,hb⟩
theorem JL.opBld (h:JL S W0 t0 n sl fd d T w) (hs:SlOk n sl t0.size) (i:Nat) (hi:i<n) (hd:d i=false) (j:Nat) (hj:j<n) (hdj:d j=true) {r a:Nat} {z:Int} {ty:TypeId} {ps:String} {ed:Array Edge} (hsl:sl i=r) (hsj:sl j=a) (hfj:fd j=.ci z 600) (hf:fd i=.fx (nF z)) :
  Opd S W0 t0 n sl fd d T w ds Q i ⟨some r,.build 29 #[(0,.const (.int .i64 0)),(1,.tmp a)],ty,ps,ed,none⟩:=by
 obtain⟨v,e,hv⟩:=h.val j hj hdj;rw[hfj] at hv;have hc:CI w v z 600:=hv;obtain⟨b,xo,l,c,rfl⟩:=hc.shapeF;rw[hsj] at e;refine⟨rfl,fun K hK=>?_⟩;have h9:=hK.out _ _ (h.step hs i hi hd (.agg #[.int .i64 0,.bool b,.slice xo l c,.string ⟨#[]⟩,.slice none 0 0]) (Below.refl _ _) (by rw[hf];exact⟨1,FC.mk ⟨by decide,by decide⟩ hc (FL.nil w _ 0)⟩) (by rw[hf];intro h;cases h));clear hK hv hc;rw[hsl] at h9;go_simp
 exact h9
end
attribute [local go_sem] fieldV0 fieldV1 fieldV2 fieldV3
theorem about_i7 (x:F) (h:x.op=7):aboutF x true=[orF [fillF (kd x 0),eqfF x (nF 0)]]:=by
 unfold aboutF factsF;rw[h]
 rfl
theorem about_i5 (x:F) (h:x.op=5):aboutF x true=[leF (scF x.num x) (kd x 0),leF (kd x 0) (addF (scF x.num x) (nF (x.num - 1)))]:=by
 unfold aboutF factsF;rw[h]
 rfl
theorem about_i4 (x:F) (h:x.op=4):aboutF x true=prodF x (kd x 0) (kd x 1):=by
 unfold aboutF factsF;rw[h]
 rfl
theorem about_i0 (x:F) (hs:srt x.op=0) (h7:x.op≠7) (h5:x.op≠5) (h4:x.op≠4):aboutF x true=[]:=by
 have h:∀ k,srt k=2->x.op≠k:=fun k hk e=>by rw[e,hk] at hs;cases hs
 unfold aboutF factsF;rw[if_pos rfl,if_neg (h 8 rfl),if_neg (h 9 rfl),if_neg (h 10 rfl),if_neg (h 11 rfl),if_neg h7,if_neg h5,if_neg h4]
theorem srt_no {o:Int} (h:srt o=0) {k:Int} (hk:srt k=2):o≠k:=fun e=>by rw[e,hk] at h;cases h
theorem about_i (x:F) (v:Value) (S:Nat->Prop) (w:World) (d:Nat) (h:FC w S d v x) (hs:srt x.op=0) (hkn:x.kids.length<=1000) (hqz:x.op=5->(x.num - 1).natAbs<L32 ^ 600) :
  Calls Tryz.prog 24 #[v,.bool true] w fun e w'=>∃ v',e=.returned v'/\GR w' w.heap.size (fun b=>S b\/w.heap.size<=b) v' (aboutF x true)/\Below w.heap.size w w':=by
 obtain⟨P,hP⟩:∃ P:Nat->Prop,P=fun b=>S b\/w.heap.size<=b:=⟨_,rfl⟩
 rw[<-hP];have HPX:Hid (∀ b,w.heap.size<=b->P b):=Lib.hid (fun b hb=>by rw[hP];exact .inr hb);have HX0:Hid (FC w (bs P (.slice none 0 0)) d v x):=Lib.hid (h.mono fun b hb=>⟨by (intro e;cases e),by rw[hP];exact .inl hb⟩);clear h hP;obtain⟨xb,xao,xl,xc,ko,kl,kc,rfl,⟨hir,hz,hkl,hkc,hkm⟩,-,hk⟩:=HX0.out.open;have hkm2:kc<=9223372036854775807:=hkm;obtain⟨xo,hxo⟩:∃ y,y=x.op:=⟨_,rfl⟩;obtain⟨xn,hxn⟩:∃ y,y=x.name:=⟨_,rfl⟩;rw[<-hxo] at hir HX0 ⊢;rw[<-hxn] at HX0 ⊢;have HO:=Lib.hid hxo;have HKL:=Lib.hid hkl;have HKN:Hid (kl<=1000):=Lib.hid (by rw[hkl];exact hkn);have HK:=Lib.hid hk;have HQZ:Hid (xo=5->(x.num - 1).natAbs<L32 ^ 600):=Lib.hid (by rw[hxo];exact hqz);have HS2:Hid (srt xo=0):=Lib.hid (by rw[hxo];exact hs);clear hir hz hkl hkm hk hxo hxn hs hkn hqz
 have HW:=Lib.hid (Below.refl w.heap.size w);go_enter Tryz.func24,Tryz.ntmps24;obtain⟨x1,kx,ex,ekx,hbx,hkx,HBx⟩:=newV w #[.int .i64 xo,.bool xb,.slice xao xl xc,.string xn,.slice ko kl kc] 29;replace HW:=Lib.hid (HW.out.trans (hbx.out.mono HW.out.size));have HVx:Hid (Var x1 (bs P (.slice none 0 0)) kx x):=Lib.hid (Var.new HBx.out ⟨by (intro e;cases e),HPX.out kx hkx.out⟩ ⟨d,HX0.out.below hbx.out⟩);obtain⟨⟨u0,u1,u2,u3,u4⟩,fu0,fu1,fu2,fu3,fu4⟩:=cells5V HBx.out;obtain⟨x2,kq,eq_,ekq,hbq,hkq,HBq⟩:=newV x1 #[.int .i64 xo,.bool xb,.slice xao xl xc,.string xn,.slice ko kl kc] 29
 have HFQ:Hid (FGl x2 (bs P (.slice none 0 0)) (.slice (some ⟨kq,0,none⟩) 1 1) [x]):=Lib.hid (FGl.one ((HX0.out.below hbx.out).below hbq.out) HBq.out ⟨by (intro e;cases e),HPX.out kq (Nat.le_trans hbx.out.size hkq.out)⟩);replace HW:=Lib.hid (HW.out.trans (hbq.out.mono HW.out.size));replace HBx:=kBV hbq.out HBx;replace HVx:=Lib.hid (HVx.out.below hbq.out);replace HK:=Lib.hid ((HK.out.below hbx.out).below hbq.out);go_wp2_with fail;refine (f11_p 6 _ _ _ x2).mono ?_;rintro e x3 ⟨rfl,hb⟩;clear u0 u1 u2 u3 u4 fu0 fu1 fu2 fu3 fu4;obtain⟨x4,ks,es,eks,hbs,hks,HBs⟩:=newV x3 #[.int .i64 6,.bool false,.slice none 0 0,.string ⟨#[]⟩,.slice (some ⟨kq,0,none⟩) 1 1] 29
 have HVs:Hid (Var x4 (bs P (.slice none 0 0)) ks (lenF x)):=Lib.hid (Var.new HBs.out ⟨by (intro e;cases e),HPX.out ks (Nat.le_trans (Nat.le_trans HW.out.size hb.size) hks.out)⟩ (by
  obtain⟨d,hf⟩:=HFQ.out.fl;exact⟨d+1,FC.mk ⟨by decide,by decide⟩ (nr0 x4) ((hf.below hb).below hbs.out)⟩))
 clear HBq HFQ HBs HX0;replace HBx:=kBV hbs.out (kBV hb HBx);replace HVx:=Lib.hid ((HVx.out.below hb).below hbs.out);replace HK:=Lib.hid ((HK.out.below hb).below hbs.out);replace HW:=Lib.hid (HW.out.trans ((hb.trans (hbs.out.mono hb.size)).mono HW.out.size));clear hb;obtain⟨⟨u0,u1,u2,u3,u4⟩,fu0,fu1,fu2,fu3,fu4⟩:=cells5V HBx.out;go_wp2_with fail;refine (sort_p _ _ _ _ _ _ _ _ _ x4).mono ?_;rintro e x5 ⟨rfl,hb⟩;rw[HS2.out];clear u0 u1 u2 u3 u4 fu0 fu1 fu2 fu3 fu4;replace HBx:=kBV hb HBx;replace HVx:=Lib.hid (HVx.out.below hb);replace HK:=Lib.hid (HK.out.below hb);replace HW:=Lib.hid (HW.out.trans (hb.mono HW.out.size));clear hb;have HR:Hid (GR x5 w.heap.size P (.slice none 0 0) []):=Lib.hid (GR.nil x5 _ P)
 have HON:Hid (∀ g,(Value.slice none 0 0).ownBlock=some g->g<x5.heap.size):=Lib.hid (fun g hg=>by cases hg);have HNEW0:Hid (∀ b,x5.heap.size<=b->bs P (.slice none 0 0) b):=Lib.hid (fun b hb=>⟨fun e=>by have:=HON.out b e;omega,HPX.out b (Nat.le_trans HW.out.size hb)⟩);obtain⟨⟨u0,u1,u2,u3,u4⟩,fu0,fu1,fu2,fu3,fu4⟩:=cells5V HBx.out;obtain⟨x7,kz,ez,ekz,hbz,hkz,HBz⟩:=newV x5 #[.int .i64 0,.bool false,.slice none 0 0,.string ⟨#[]⟩,.slice none 0 0,.int .i64 0,.bool false,.slice none 0 0,.string ⟨#[]⟩,.slice none 0 0] 29;have HFZ:Hid (FGl x7 (bs P (.slice none 0 0)) (.slice (some ⟨kz,0,none⟩) 2 2) [nF 0,nF 0]):=Lib.hid (FGl.block (us:=[zFU,zFU]) HBz.out rfl (show 2<=maxLen by decide) (HNEW0.out kz hkz.out) (Fs.cons (zF_ft x7) (Fs.cons (zF_ft x7) (Fs.nil _ _))))
 obtain⟨dk,hlit,-,hkl,hkm,hk⟩:=(HVx.out.below hbz.out).lit (kBV hbz.out HBx).out;have HKL:=Lib.hid hkl;have HK:=Lib.hid hk;clear hlit hk hkl HBz;go_wp2_with (at_builtin;refine FL.appendMore HK.out rfl (.tmp 35) (.tmp 38) rfl rfl rfl HFZ.out (by decide) (by have h1:=HKN.out;rw[<-HKL.out];simp only[lsc,lsn];omega) ?_;intro gk km kcc w10 b1 b2 b3);clear u0 u1 u2 u3 u4 fu0 fu1 fu2 fu3 fu4;have HBZ:=Lib.hid (hbz.out.trans (b3.mono hbz.out.size));have HFK:Hid (FGl w10 (bs P (.slice none 0 0)) (.slice (some ⟨gk,0,none⟩) km kcc) (x.kids++[nF 0,nF 0])):=Lib.hid (b1.mono fun b _ hb=>by
  rcases hb with hb | hb | hb
  ·exact hb
  ·exact hb
  rw[hb];exact HNEW0.out _ hbz.out.size)
 have HKM:Hid (1<km/\km<=9223372036854775807/\km=(x.kids++[nF 0,nF 0]).length):=Lib.hid (by
  have h1:=HKN.out;have h2:=HKL.out;have b2:=b2.out;rw[<-h2] at b2;simp only[lsc,lsn] at b2;refine⟨by omega,by omega,?_⟩;rw[lsa,<-h2,b2];rfl)
 clear b1 b2 b3 HK HFZ;have HNEW:Hid (∀ b,w10.heap.size<=b->bs P (.slice none 0 0) b):=Lib.hid (fun b hb=>HNEW0.out b (Nat.le_trans HBZ.out.size hb));go_upto_region 6 with fail;obtain⟨ua,da,hea,hua⟩:=HFK.out.elem 0 (by rw[<-HKM.out.2.2];have:=HKM.out;omega);obtain⟨ub,db,heb,hub⟩:=HFK.out.elem 1 (by rw[<-HKM.out.2.2];have:=HKM.out;omega);rw[kd_get0] at hua;rw[kd_get1] at hub;have HEA:=Lib.hid hea;have HEB:=Lib.hid heb;have HUA0:=Lib.hid hua;have HUB0:=Lib.hid hub;clear hea heb hua hub;have HNE:Hid (∀ i j,i<8->j<8->i≠j->(fun i=>[40,41,42,43,44,45,8,9].getD i 0) i≠(fun i=>[40,41,42,43,44,45,8,9].getD i 0) j):=Lib.hid (fun i j hi hj=>(show ∀ i,i<8->∀ j,j<8->i≠j->(fun i=>[40,41,42,43,44,45,8,9].getD i 0) i≠(fun i=>[40,41,42,43,44,45,8,9].getD i 0) j by decide) i hi j hj)
 have HL9:Hid (∀ i,i<8->(fun i=>[40,41,42,43,44,45,8,9].getD i 0) i<46):=Lib.hid (by decide);refine Rel9.region (by kernel_rfl) [[],[0],[0,1],[],[3],[3,4],[],[],[0,1,2,6,7],[0,1,2,3,4,5,6,7,8]] 9 (by kernel_rfl) (by kernel_rfl) (JK w10 _ (fun i=>[40,41,42,43,44,45,8,9].getD i 0) (fun i=>[.slice (some ⟨gk,0,none⟩) km kcc,.pointer (some (Addr.add ⟨gk,0,none⟩ (0*5))),fV ua,.slice (some ⟨gk,0,none⟩) km kcc,.pointer (some (Addr.add ⟨gk,0,none⟩ (1*5))),fV ub].getD i undef) ua) (JK.start _ _ _ _ _) ?_ ?_
 ·intro d T wc i o hJ ho hi hd hdep hcl;have hs:=hJ.slok HNE.out HL9.out (of_decide_eq_true rfl);have h68:d 6=false->d 8=false:=fun h6=>by
   cases h8:d 8 with
   | false=>rfl
   | true=>have:=hcl 8 6 h8 (by rfl);rw[h6] at this;cases this
  obtain rfl | rfl | rfl | rfl | rfl | rfl | rfl | rfl | rfl:i=0\/i=1\/i=2\/i=3\/i=4\/i=5\/i=6\/i=7\/i=8:=by omega
  all_goals (injection ho with ho)
  all_goals (subst ho)
  ·exact hJ.opMv hs 0 (by decide) rfl (fun i hi=>by revert i;decide) (by rfl) rfl
  ·exact hJ.opIx hs 1 (by decide) 0 (by decide) (hdep 0 (by rfl)) (q:=0) (by have:=HKM.out;omega) HKM.out.2.1 rfl rfl rfl rfl
  ·exact hJ.opLi hs 2 (by decide) 1 (by decide) (hdep 1 (by rfl)) HEA.out rfl rfl rfl rfl
  ·exact hJ.opMv hs 3 (by decide) rfl (fun i hi=>by revert i;decide) (by rfl) rfl
  ·exact hJ.opIx hs 4 (by decide) 3 (by decide) (hdep 3 (by rfl)) (q:=1) HKM.out.1 HKM.out.2.1 rfl rfl rfl rfl
  ·exact hJ.opLi hs 5 (by decide) 4 (by decide) (hdep 4 (by rfl)) HEB.out rfl rfl rfl rfl
  ·exact hJ.opPt hs 6 (.inl ⟨rfl,h68 hd⟩) hd rfl
  ·exact hJ.opPt hs 7 (.inr rfl) hd rfl
  exact hJ.opSt (hdep 2 (by rfl)) (hdep 6 (by rfl)) hd rfl rfl rfl
 intro T wt hJ;have a0:=hJ.val 0 (by decide) rfl;have a1:=hJ.val 1 (by decide) rfl;have a2:=hJ.val 2 (by decide) rfl;have a3:=hJ.val 3 (by decide) rfl;have a4:=hJ.val 4 (by decide) rfl;have a5:=hJ.val 5 (by decide) rfl;obtain⟨ga,a6,hga1,hga2⟩:=hJ.pa rfl;obtain⟨gb,a7,hgb1,hgb2⟩:=hJ.pb rfl;have HAB:Hid (ga≠gb):=Lib.hid (fun e=>hJ.dis rfl rfl (by rw[a6,a7,e]));have HBE9:=Lib.hid hJ.be;have HUA:=Lib.hid (((HUA0.out.lt).below HBE9.out).mono (S':=fun b=>bs P (.slice none 0 0) b/\b≠ga/\b≠gb) fun b hb=>⟨hb.1,by have:=hb.2;omega,by have:=hb.2;omega⟩);have HUB:=Lib.hid (((HUB0.out.lt).below HBE9.out).mono (S':=fun b=>bs P (.slice none 0 0) b/\b≠ga/\b≠gb) fun b hb=>⟨hb.1,by have:=hb.2;omega,by have:=hb.2;omega⟩);have HGA:=Lib.hid hga1;have HGB:=Lib.hid hgb1
 have HCA:Hid (wt.heap[ga]?=some (.cells (uC ua) 29 (0,0))):=Lib.hid hga2;have HCB:Hid (wt.heap[gb]?=some (.cells #[.int .i64 0,.bool false,.slice none 0 0,.string ⟨#[]⟩,.slice none 0 0] 29 (0,0))):=Lib.hid hgb2;clear hga1 hga2 hgb1 hgb2 HUA0 HUB0 HEA HEB;have hfr:=hJ.fin (hJ.slok HNE.out HL9.out (of_decide_eq_true rfl)) (vs:=[_,_,_,_,_,_,_,_]) rfl (.cons a0 (.cons a1 (.cons a2 (.cons a3 (.cons a4 (.cons a5 (.cons a6 (.cons a7 .nil))))))));clear hJ HNE HL9 a0 a1 a2 a3 a4 a5 a6 a7;rw[hfr];clear hfr;simp only[fillW,List.getD_cons_zero,List.getD_cons_succ,Nat.reduceAdd,List.setIfInBounds_toArray,List.set_cons_zero,List.set_cons_succ];simp only[List.drop_succ_cons,List.drop_zero];simp only[fV];obtain⟨⟨q0,q1,q2,q3,q4⟩,fq0,fq1,fq2,fq3,fq4⟩:=cells5V HCB.out;go_upto_region 7 with fail
 clear q0 fq0 q1 fq1 q2 fq2 q3 fq3 q4 fq4;have HVA0:Hid (Var wt (fun b=>bs P (.slice none 0 0) b/\b≠gb) ga (kd x 0)):=Lib.hid ⟨⟨HNEW.out ga HGA.out,HAB.out⟩,_,HCA.out,rfl,_,ua,rfl,HUA.out.mono fun b hb=>⟨hb.1,hb.2.2⟩⟩;obtain⟨q1,q2,q3,q4⟩:=Var.put (S:=bs P (.slice none 0 0)) HCB.out (HNEW.out gb HGB.out) (HUB.out.mono fun b hb=>⟨hb.1,hb.2.2⟩) HBE9.out HGB.out;obtain⟨W2,hW2⟩:∃ q,q=(((((wt.setCell ⟨gb,0,none⟩ (.int .i64 ub.k)).setCell ⟨gb,1,none⟩ (.bool (decide (ub.n.z<0)))).setCell ⟨gb,2,none⟩ (.slice ub.n.o ub.n.l ub.n.c)).setCell ⟨gb,3,none⟩ (.string ub.nm)).setCell ⟨gb,4,none⟩ (.slice ub.ko ub.kl ub.kc)):=⟨_,rfl⟩;rw[<-hW2] at q1 q2 q3 q4 ⊢
 have HVa:Hid (Var W2 (bs P (.slice none 0 0)) ga (kd x 0)):=Lib.hid ((HVA0.out.grown q3 q4 (fun b hb e=>by injection e with e;exact hb.2 e.symm)).mono fun b hb=>hb.1);have HVb:=Lib.hid q1;have HB2:=Lib.hid (HBZ.out.trans (q2.mono HBZ.out.size));clear hW2 q1 q2 q3 q4 HUA HUB HCA HCB HGA HGB HAB HFK HKM HBZ HBE9 HVA0;replace HBx:=kBV HB2.out HBx;replace HVx:=Lib.hid (HVx.out.below HB2.out);replace HR:=Lib.hid (HR.out.below HB2.out);replace HW:=Lib.hid (HW.out.trans (HB2.out.mono HW.out.size));replace HNEW:Hid (∀ b,W2.heap.size<=b->bs P (.slice none 0 0) b):=Lib.hid (fun b hb=>HNEW0.out b (Nat.le_trans HB2.out.size hb));clear HB2
 have HNE:Hid (∀ i j,i<7->j<7->i≠j->(fun i=>[46,47,48,49,50,51,10].getD i 0) i≠(fun i=>[46,47,48,49,50,51,10].getD i 0) j):=Lib.hid (fun i j hi hj=>(show ∀ i,i<7->∀ j,j<7->i≠j->(fun i=>[46,47,48,49,50,51,10].getD i 0) i≠(fun i=>[46,47,48,49,50,51,10].getD i 0) j by decide) i hi j hj);have HL9:Hid (∀ i,i<7->(fun i=>[46,47,48,49,50,51,10].getD i 0) i<52):=Lib.hid (by decide);have HSX:Hid (∀ b,W2.heap.size<=b->(bs P (.slice none 0 0)) b):=Lib.hid (fun b hb=>HNEW.out b hb)
 refine Rel9.region (by kernel_rfl) [[],[],[1],[0,1,2],[0,1,2,3],[0,1,2,3,4],[],[0,1,2,3,4,5,6]] 7 (by kernel_rfl) (by kernel_rfl) (JL (bs P (.slice none 0 0)) W2 _ 7 (fun i=>[46,47,48,49,50,51,10].getD i 0) (fun i=>[.fx (nF 1),.fx (kd x 0),.fl [kd x 0],.fx (fo 6 [kd x 0]),.fl [nF 1,fo 6 [kd x 0]],.fx (fo 15 [nF 1,fo 6 [kd x 0]]),.pt].getD i .any)) (JL.start _ _ _ _ _ _) ?_ ?_
 ·intro d T wc i o hJ ho hi hd hdep hcl;have hs:=hJ.slok HNE.out HL9.out (of_decide_eq_true rfl);obtain rfl | rfl | rfl | rfl | rfl | rfl | rfl:i=0\/i=1\/i=2\/i=3\/i=4\/i=5\/i=6:=by omega
  all_goals (injection ho with ho)
  all_goals (subst ho)
  ·exact hJ.opN hs 0 (by decide) hd ⟨by decide,by decide⟩ rfl rfl
  ·exact hJ.opV hs 1 (by decide) hd HVa.out rfl (fun i hi=>by revert i;decide) (by rfl) rfl
  ·exact hJ.opB1 hs HSX.out 2 (by decide) hd 1 (by decide) (hdep 1 (by rfl)) rfl rfl rfl rfl
  ·exact hJ.opF hs 3 (by decide) hd 2 (by decide) (hdep 2 (by rfl)) ⟨by decide,by decide⟩ rfl rfl rfl rfl
  ·exact hJ.opB2 hs HSX.out 4 (by decide) hd 0 3 (by decide) (by decide) (hdep 0 (by rfl)) (hdep 3 (by rfl)) rfl rfl rfl rfl rfl rfl
  ·exact hJ.opF hs 5 (by decide) hd 4 (by decide) (hdep 4 (by rfl)) ⟨by decide,by decide⟩ rfl rfl rfl rfl
  exact hJ.opPt hs 6 (by decide) hd rfl rfl
 intro T wt hJ;obtain⟨v0,a0,f0⟩:=hJ.val 0 (by decide) rfl;obtain⟨v1,a1,f1⟩:=hJ.val 1 (by decide) rfl;obtain⟨v2,a2,f2⟩:=hJ.val 2 (by decide) rfl;obtain⟨v3,a3,f3⟩:=hJ.val 3 (by decide) rfl;obtain⟨v4,a4,f4⟩:=hJ.val 4 (by decide) rfl;obtain⟨v5,a5,f5⟩:=hJ.val 5 (by decide) rfl;obtain⟨v6,a6,f6⟩:=hJ.val 6 (by decide) rfl;have hfr:=hJ.fin (hJ.slok HNE.out HL9.out (of_decide_eq_true rfl)) rfl (.cons a0 (.cons a1 (.cons a2 (.cons a3 (.cons a4 (.cons a5 (.cons a6 .nil)))))));obtain⟨d5,us,rfl,hus⟩:=f5;obtain⟨gs,rfl,hgs1,hgs2⟩:=f6;have HUS:=Lib.hid (hus.mono (S':=fun b=>bs P (.slice none 0 0) b/\b≠gs) fun b hb=>⟨hb.1,fun e=>hb.2 6 (by decide) rfl rfl (by rw[a6,e])⟩);have HGS:=Lib.hid hgs1;have HCS:=Lib.hid hgs2;clear hus hgs1 hgs2 f0 f1 f2 f3 f4;have HBE9:=Lib.hid hJ.be
 clear hJ HNE HL9 a0 a1 a2 a3 a4 a5 a6;rw[hfr];clear hfr;simp only[fillW,List.getD_cons_zero,List.getD_cons_succ,Nat.reduceAdd,List.setIfInBounds_toArray,List.set_cons_zero,List.set_cons_succ];simp only[List.drop_succ_cons,List.drop_zero];simp only[fV];clear HSX;obtain⟨⟨u0,u1,u2,u3,u4⟩,fu0,fu1,fu2,fu3,fu4⟩:=cells5V HCS.out;go_upto_region 8 with fail;clear u0 fu0 u1 fu1 u2 fu2 u3 fu3 u4 fu4;obtain⟨p1,p2,p3,p4⟩:=Var.put (S:=bs P (.slice none 0 0)) HCS.out (HNEW.out gs HGS.out) HUS.out HBE9.out HGS.out;obtain⟨W3,hW3⟩:∃ q,q=(((((wt.setCell ⟨gs,0,none⟩ (.int .i64 us.k)).setCell ⟨gs,1,none⟩ (.bool (decide (us.n.z<0)))).setCell ⟨gs,2,none⟩ (.slice us.n.o us.n.l us.n.c)).setCell ⟨gs,3,none⟩ (.string us.nm)).setCell ⟨gs,4,none⟩ (.slice us.ko us.kl us.kc)):=⟨_,rfl⟩
 rw[<-hW3] at p1 p2 p3 p4 ⊢;have HVo:Hid (Var W3 (bs P (.slice none 0 0)) gs (fillF (kd x 0))):=Lib.hid p1;have HB3:=Lib.hid p2;clear hW3 p1 p2 p3 p4 HUS HGS HCS HBE9;replace HBx:=kBV HB3.out HBx;replace HVx:=Lib.hid (HVx.out.below HB3.out);replace HVa:=Lib.hid (HVa.out.below HB3.out);replace HVb:=Lib.hid (HVb.out.below HB3.out);replace HR:=Lib.hid (HR.out.below HB3.out);replace HW:=Lib.hid (HW.out.trans (HB3.out.mono HW.out.size));replace HNEW:Hid (∀ b,W3.heap.size<=b->bs P (.slice none 0 0) b):=Lib.hid (fun b hb=>HNEW.out b (Nat.le_trans HB3.out.size hb));clear HB3;obtain⟨⟨u0,u1,u2,u3,u4⟩,fu0,fu1,fu2,fu3,fu4⟩:=cells5V HBx.out;obtain⟨x10,kq1,eq1,ekq1,hbq1,hkq1,HBq1⟩:=newV W3 #[.int .i64 xo,.bool xb,.slice xao xl xc,.string xn,.slice ko kl kc] 29;obtain⟨dk,hlit,-,-,-,-⟩:=HVx.out.lit HBx.out
 have HFQ:Hid (FGl x10 (bs P (.slice none 0 0)) (.slice (some ⟨kq1,0,none⟩) 1 1) [x]):=Lib.hid (FGl.one (hlit.below hbq1.out) HBq1.out (HNEW.out kq1 hkq1.out));clear hlit HBq1;obtain⟨x11,ky,ey,eky,hby,hky,HBy⟩:=newV x10 #[.int .i64 3,.bool xb,.slice xao xl xc,.string ⟨#[]⟩,.slice (some ⟨kq1,0,none⟩) 1 1] 29;have HB4:=Lib.hid (hbq1.out.trans (hby.out.mono hbq1.out.size));replace HBx:=kBV HB4.out HBx;replace HVx:=Lib.hid (HVx.out.below HB4.out);replace HVa:=Lib.hid (HVa.out.below HB4.out);replace HVb:=Lib.hid (HVb.out.below HB4.out);replace HVo:=Lib.hid (HVo.out.below HB4.out);replace HR:=Lib.hid (HR.out.below HB4.out);replace HW:=Lib.hid (HW.out.trans (HB4.out.mono HW.out.size))
 have HVy:Hid (Var x11 (bs P (.slice none 0 0)) ky (scF x.num x)):=Lib.hid (Var.new HBy.out (HNEW.out ky (Nat.le_trans hbq1.out.size hky.out)) (by
  obtain⟨dk,-,hz,-⟩:=HVx.out.lit HBx.out;obtain⟨df,hf⟩:=HFQ.out.fl;exact⟨df+1,FC.mk ⟨by decide,by decide⟩ hz (hf.below hby.out)⟩))
 replace HNEW:Hid (∀ b,x11.heap.size<=b->bs P (.slice none 0 0) b):=Lib.hid (fun b hb=>HNEW.out b (Nat.le_trans HB4.out.size hb));clear HFQ HBy HB4 HNEW0;obtain⟨⟨y0,y1,y2,y3,y4⟩,fy0,fy1,fy2,fy3,fy4⟩:=cells5V HBx.out;have e1:(xo==9)=false:=beq_eq_false_iff_ne.2 (srt_no HS2.out rfl);have e2:(xo==10)=false:=beq_eq_false_iff_ne.2 (srt_no HS2.out rfl);go_wp2_with fail;refine (sort_p _ _ _ _ _ _ _ _ _ x11).mono ?_;rintro e x12 ⟨rfl,hb⟩;rw[HS2.out];clear u0 u1 u2 u3 u4 fu0 fu1 fu2 fu3 fu4 y0 y1 y2 y3 y4 fy0 fy1 fy2 fy3 fy4;clear e1 e2;replace HBx:=kBV hb HBx;replace HVx:=Lib.hid (HVx.out.below hb);replace HVa:=Lib.hid (HVa.out.below hb);replace HVb:=Lib.hid (HVb.out.below hb);replace HVo:=Lib.hid (HVo.out.below hb);replace HVy:=Lib.hid (HVy.out.below hb);replace HR:=Lib.hid (HR.out.below hb)
 replace HW:=Lib.hid (HW.out.trans (hb.mono HW.out.size));replace HNEW:Hid (∀ b,x12.heap.size<=b->bs P (.slice none 0 0) b):=Lib.hid (fun b h9=>HNEW.out b (Nat.le_trans hb.size h9));clear hb;obtain⟨⟨y0,y1,y2,y3,y4⟩,fy0,fy1,fy2,fy3,fy4⟩:=cells5V HBx.out;have e3:(xo==11)=false:=beq_eq_false_iff_ne.2 (srt_no HS2.out rfl);by_cases hop:xo=7
 ·have HX7:Hid (x.op=7):=Lib.hid (by rw[<-HO.out];exact hop);have e4:(xo==7)=true:=by rw[hop];rfl
  clear hop;go_upto_region 25 with fail;clear y0 y1 y2 y3 y4 fy0 fy1 fy2 fy3 fy4;have HNE:Hid (∀ i j,i<9->j<9->i≠j->(fun i=>i+158) i≠(fun i=>i+158) j):=Lib.hid (fun i j _ _ h e=>h (Nat.add_right_cancel e));have HL9:Hid (∀ i,i<9->(fun i=>i+158) i<167):=Lib.hid (fun i h=>by show i+158<167;omega);have HSX:Hid (∀ b,x12.heap.size<=b->(bs P (.slice none 0 0)) b):=Lib.hid (fun b hb=>HNEW.out b hb)
  refine Rel9.region (by kernel_rfl) [[],[],[],[],[2,3],[2,3,4],[1,2,3,4,5],[1,2,3,4,5,6],[1,2,3,4,5,6,7],[0,1,2,3,4,5,6,7,8],[0,1,2,3,4,5,6,7,8,9]] 9 (by kernel_rfl) (by kernel_rfl) (JL (bs P (.slice none 0 0)) x12 _ 9 (fun i=>i+158) (fun i=>[.eqv (.slice none 0 0),.fx (fillF (kd x 0)),.fx (x),.fx (nF 0),.fl [x,nF 0],.fx (fo 16 [x,nF 0]),.fl [fillF (kd x 0),fo 16 [x,nF 0]],.fx (orF (orK 0 0 [fillF (kd x 0),fo 16 [x,nF 0]])),.fl [orF (orK 0 0 [fillF (kd x 0),fo 16 [x,nF 0]])]].getD i .any)) (JL.start _ _ _ _ _ _) ?_ ?_
  ·intro d T wc i o hJ ho hi hd hdep hcl;have hs:=hJ.slok HNE.out HL9.out (of_decide_eq_true rfl);obtain rfl | rfl | rfl | rfl | rfl | rfl | rfl | rfl | rfl:i=0\/i=1\/i=2\/i=3\/i=4\/i=5\/i=6\/i=7\/i=8:=by omega
   all_goals (injection ho with ho)
   all_goals (subst ho)
   ·exact hJ.opMv hs 0 (by decide) hd (s:=0) rfl (fun i hi=>by show _≠i+158;omega) _ (by rfl) rfl
   ·exact hJ.opV hs 1 (by decide) hd HVo.out rfl (fun i hi=>by show _≠i+158;omega) (by rfl) rfl
   ·exact hJ.opV hs 2 (by decide) hd HVx.out rfl (fun i hi=>by show _≠i+158;omega) (by rfl) rfl
   ·exact hJ.opN hs 3 (by decide) hd ⟨by decide,by decide⟩ rfl rfl
   ·exact hJ.opB2 hs HSX.out 4 (by decide) hd 2 3 (by decide) (by decide) (hdep 2 (by rfl)) (hdep 3 (by rfl)) rfl rfl rfl rfl rfl rfl
   ·exact hJ.opF hs 5 (by decide) hd 4 (by decide) (hdep 4 (by rfl)) ⟨by decide,by decide⟩ rfl rfl rfl rfl
   ·exact hJ.opB2 hs HSX.out 6 (by decide) hd 1 5 (by decide) (by decide) (hdep 1 (by rfl)) (hdep 5 (by rfl)) rfl rfl rfl rfl rfl rfl
   ·exact hJ.opOr hs HSX.out 7 (by decide) hd 6 (by decide) (hdep 6 (by rfl)) rfl rfl rfl (of_decide_eq_true rfl) rfl
   exact hJ.opB1 hs HSX.out 8 (by decide) hd 7 (by decide) (hdep 7 (by rfl)) rfl rfl rfl rfl
  intro T wt hJ;obtain⟨v0,a0,f0⟩:=hJ.val 0 (by decide) rfl;replace f0:v0=_:=f0;subst f0;obtain⟨v1,a1,f1⟩:=hJ.val 1 (by decide) rfl;obtain⟨v2,a2,f2⟩:=hJ.val 2 (by decide) rfl;obtain⟨v3,a3,f3⟩:=hJ.val 3 (by decide) rfl;obtain⟨v4,a4,f4⟩:=hJ.val 4 (by decide) rfl;obtain⟨v5,a5,f5⟩:=hJ.val 5 (by decide) rfl;obtain⟨v6,a6,f6⟩:=hJ.val 6 (by decide) rfl;obtain⟨v7,a7,f7⟩:=hJ.val 7 (by decide) rfl;obtain⟨v8,a8,f8⟩:=hJ.val 8 (by decide) rfl;have hfr:=hJ.fin (hJ.slok HNE.out HL9.out (of_decide_eq_true rfl)) rfl (.cons a0 (.cons a1 (.cons a2 (.cons a3 (.cons a4 (.cons a5 (.cons a6 (.cons a7 (.cons a8 .nil)))))))));have HFG:Hid (FGl wt (bs P (.slice none 0 0)) v8 [orF (orK 0 0 [fillF (kd x 0),fo 16 [x,nF 0]])]):=Lib.hid (FGl.mono f8 (fun b _ hb=>hb.1));clear f1 f2 f3 f4 f5 f6 f7 f8 HSX
  have HBE9:=Lib.hid hJ.be;clear hJ HNE HL9 a0 a1 a2 a3 a4 a5 a6 a7 a8;rw[hfr];clear hfr;simp only[fillW,Nat.reduceAdd,List.setIfInBounds_toArray,List.set_cons_zero,List.set_cons_succ];simp only[List.drop_succ_cons,List.drop_zero];refine GR.append (HR.out.below HBE9.out) rfl (.tmp 158) (.tmp 166) rfl rfl rfl HFG.out (by simp) (Nat.le_trans HW.out.size HBE9.out.size) ?_;intro v9 w21 a1 a2 a3;clear HBx;replace HW:=Lib.hid ((HW.out.trans (HBE9.out.mono HW.out.size)).trans a3);clear HFG HBE9 a2 a3 HNEW HVx HVs HVa HVb HVo HVy;obtain⟨oo,oc,hov,-,ho2,ho3,ho4⟩:=a1.form;subst hov;replace HR:Hid (GR w21 w.heap.size P (.slice oo 1 oc) [orF (orK 0 0 [fillF (kd x 0),fo 16 [x,nF 0]])]):=Lib.hid a1;clear a1;clear ho4;go_wp2_with fail;go_ret;exact⟨_,rfl,by rw[about_i7 x HX7.out];exact HR.out,HW.out⟩
 have HN7:=Lib.hid hop;clear hop;by_cases hop:xo=5
 ·have HX5:Hid (x.op=5):=Lib.hid (by rw[<-HO.out];exact hop);have HZ5:Hid ((x.num - 1).natAbs<L32 ^ 600):=Lib.hid (HQZ.out hop);have e4:(xo==7)=false:=beq_eq_false_iff_ne.2 HN7.out;have e5:(xo==5)=true:=by rw[hop];rfl
  clear hop;go_upto_region 27 with fail;clear y0 y1 y2 y3 y4 fy0 fy1 fy2 fy3 fy4;obtain⟨dk,-,hci,-⟩:=HVx.out.lit HBx.out;have HCI:=Lib.hid hci;clear hci;have HNE:Hid (∀ i j,i<6->j<6->i≠j->(fun i=>[170,171,172,173,174,12].getD i 0) i≠(fun i=>[170,171,172,173,174,12].getD i 0) j):=Lib.hid (fun i j hi hj=>(show ∀ i,i<6->∀ j,j<6->i≠j->(fun i=>[170,171,172,173,174,12].getD i 0) i≠(fun i=>[170,171,172,173,174,12].getD i 0) j by decide) i hi j hj);have HL9:Hid (∀ i,i<6->(fun i=>[170,171,172,173,174,12].getD i 0) i<175):=Lib.hid (by decide);have HSX:Hid (∀ b,x12.heap.size<=b->(bs P (.slice none 0 0)) b):=Lib.hid (fun b hb=>HNEW.out b hb)
  refine Rel9.region (by kernel_rfl) [[],[0],[],[0,1,2],[0,1,2,3],[],[0,1,2,3,4,5]] 6 (by kernel_rfl) (by kernel_rfl) (JL (bs P (.slice none 0 0)) x12 _ 6 (fun i=>[170,171,172,173,174,12].getD i 0) (fun i=>[.eqv (.pointer (some ⟨kx,1,none⟩)),.eqv (.agg #[.bool xb,.slice xao xl xc]),.ci 1 2,.ci (x.num - 1) 600,.fx (nF (x.num - 1)),.pt].getD i .any)) (JL.start _ _ _ _ _ _) ?_ ?_
  ·intro d T wc i o hJ ho hi hd hdep hcl;have hs:=hJ.slok HNE.out HL9.out (of_decide_eq_true rfl);obtain rfl | rfl | rfl | rfl | rfl | rfl:i=0\/i=1\/i=2\/i=3\/i=4\/i=5:=by omega
   all_goals (injection ho with ho)
   all_goals (subst ho)
   ·exact hJ.opFa hs 0 (by decide) hd rfl (fun i hi=>by revert i;decide) (by rfl) rfl
   ·exact hJ.opLn hs 1 (by decide) hd 0 (by decide) (hdep 0 (by rfl)) HBx.out rfl rfl rfl rfl
   ·exact hJ.opOf hs 2 (by decide) hd ⟨by decide,by decide⟩ rfl rfl
   ·exact hJ.opSub hs 3 (by decide) hd 1 2 (by decide) (by decide) (hdep 1 (by rfl)) (hdep 2 (by rfl)) HCI.out (by decide) HZ5.out rfl rfl rfl rfl rfl rfl
   ·exact hJ.opBld hs 4 (by decide) hd 3 (by decide) (hdep 3 (by rfl)) rfl rfl rfl rfl
   exact hJ.opPt hs 5 (by decide) hd rfl rfl
  intro T wt hJ;obtain⟨v0,a0,f0⟩:=hJ.val 0 (by decide) rfl;replace f0:v0=_:=f0;subst f0;obtain⟨v1,a1,f1⟩:=hJ.val 1 (by decide) rfl;replace f1:v1=_:=f1;subst f1;obtain⟨v2,a2,f2⟩:=hJ.val 2 (by decide) rfl;obtain⟨v3,a3,f3⟩:=hJ.val 3 (by decide) rfl;obtain⟨v4,a4,f4⟩:=hJ.val 4 (by decide) rfl;obtain⟨v5,a5,f5⟩:=hJ.val 5 (by decide) rfl;have hfr:=hJ.fin (hJ.slok HNE.out HL9.out (of_decide_eq_true rfl)) rfl (.cons a0 (.cons a1 (.cons a2 (.cons a3 (.cons a4 (.cons a5 .nil))))));obtain⟨d4,us2,rfl,hus⟩:=f4;obtain⟨gl,rfl,hgs1,hgs2⟩:=f5;have HUS:=Lib.hid (hus.mono (S':=fun b=>bs P (.slice none 0 0) b/\b≠gl) fun b hb=>⟨hb.1,fun e=>hb.2 5 (by decide) rfl rfl (by rw[a5,e])⟩);have HGS:=Lib.hid hgs1;have HCS:=Lib.hid hgs2;clear hus hgs1 hgs2 f2 f3;have HBE9:=Lib.hid hJ.be
  clear hJ HNE HL9 a0 a1 a2 a3 a4 a5;rw[hfr];clear hfr;simp only[fillW,List.getD_cons_zero,List.getD_cons_succ,Nat.reduceAdd,List.setIfInBounds_toArray,List.set_cons_zero,List.set_cons_succ];simp only[List.drop_succ_cons,List.drop_zero];simp only[fV];clear HSX;obtain⟨⟨u0,u1,u2,u3,u4⟩,fu0,fu1,fu2,fu3,fu4⟩:=cells5V HCS.out;go_upto_region 28 with fail;clear u0 u1 u2 u3 u4 fu0 fu1 fu2 fu3 fu4;obtain⟨p1,p2,p3,p4⟩:=Var.put (S:=bs P (.slice none 0 0)) HCS.out (HNEW.out gl HGS.out) HUS.out HBE9.out HGS.out;obtain⟨W4,hW4⟩:∃ q,q=(((((wt.setCell ⟨gl,0,none⟩ (.int .i64 us2.k)).setCell ⟨gl,1,none⟩ (.bool (decide (us2.n.z<0)))).setCell ⟨gl,2,none⟩ (.slice us2.n.o us2.n.l us2.n.c)).setCell ⟨gl,3,none⟩ (.string us2.nm)).setCell ⟨gl,4,none⟩ (.slice us2.ko us2.kl us2.kc)):=⟨_,rfl⟩
  rw[<-hW4] at p1 p2 p3 p4 ⊢;have HVl:Hid (Var W4 (bs P (.slice none 0 0)) gl (nF (x.num - 1))):=Lib.hid p1;have HB3:=Lib.hid p2;clear hW4 p1 p2 p3 p4 HUS HGS HCS HBE9 HCI;replace HVa:=Lib.hid (HVa.out.below HB3.out);replace HVy:=Lib.hid (HVy.out.below HB3.out);replace HR:=Lib.hid (HR.out.below HB3.out);replace HW:=Lib.hid (HW.out.trans (HB3.out.mono HW.out.size));replace HNEW:Hid (∀ b,W4.heap.size<=b->bs P (.slice none 0 0) b):=Lib.hid (fun b hb=>HNEW.out b (Nat.le_trans HB3.out.size hb));clear HB3 HVx HVs HVb HVo;have HNE:Hid (∀ i j,i<13->j<13->i≠j->(fun i=>i+175) i≠(fun i=>i+175) j):=Lib.hid (fun i j _ _ h e=>h (Nat.add_right_cancel e));have HL9:Hid (∀ i,i<13->(fun i=>i+175) i<188):=Lib.hid (fun i h=>by show i+175<188;omega)
  have HSX:Hid (∀ b,W4.heap.size<=b->(bs P (.slice none 0 0)) b):=Lib.hid (fun b hb=>HNEW.out b hb)
  refine Rel9.region (by kernel_rfl) [[],[],[],[1,2],[1,2,3],[],[],[],[6,7],[1,2,3,4,6,7,8],[1,2,3,4,5,6,7,8,9],[1,2,3,4,5,6,7,8,9,10],[1,2,3,4,5,6,7,8,9,10,11],[0,1,2,3,4,5,6,7,8,9,10,11,12],[0,1,2,3,4,5,6,7,8,9,10,11,12,13]] 13 (by kernel_rfl) (by kernel_rfl) (JL (bs P (.slice none 0 0)) W4 _ 13 (fun i=>i+175) (fun i=>[.eqv (.slice none 0 0),.fx (scF x.num x),.fx (kd x 0),.fl [scF x.num x,kd x 0],.fx (fo 15 [scF x.num x,kd x 0]),.fx (kd x 0),.fx (scF x.num x),.fx (nF (x.num - 1)),.fl [scF x.num x,nF (x.num - 1)],.fx (fo 2 [scF x.num x,nF (x.num - 1)]),.fl [kd x 0,fo 2 [scF x.num x,nF (x.num - 1)]],.fx (fo 15 [kd x 0,fo 2 [scF x.num x,nF (x.num - 1)]]),.fl [fo 15 [scF x.num x,kd x 0],fo 15 [kd x 0,fo 2 [scF x.num x,nF (x.num - 1)]]]].getD i .any)) (JL.start _ _ _ _ _ _) ?_ ?_
  ·intro d T wc i o hJ ho hi hd hdep hcl;have hs:=hJ.slok HNE.out HL9.out (of_decide_eq_true rfl);obtain rfl | rfl | rfl | rfl | rfl | rfl | rfl | rfl | rfl | rfl | rfl | rfl | rfl:i=0\/i=1\/i=2\/i=3\/i=4\/i=5\/i=6\/i=7\/i=8\/i=9\/i=10\/i=11\/i=12:=by omega
   all_goals (injection ho with ho)
   all_goals (subst ho)
   ·exact hJ.opMv hs 0 (by decide) hd (s:=0) rfl (fun i hi=>by show _≠i+175;omega) _ (by rfl) rfl
   ·exact hJ.opV hs 1 (by decide) hd HVy.out rfl (fun i hi=>by show _≠i+175;omega) (by rfl) rfl
   ·exact hJ.opV hs 2 (by decide) hd HVa.out rfl (fun i hi=>by show _≠i+175;omega) (by rfl) rfl
   ·exact hJ.opB2 hs HSX.out 3 (by decide) hd 1 2 (by decide) (by decide) (hdep 1 (by rfl)) (hdep 2 (by rfl)) rfl rfl rfl rfl rfl rfl
   ·exact hJ.opF hs 4 (by decide) hd 3 (by decide) (hdep 3 (by rfl)) ⟨by decide,by decide⟩ rfl rfl rfl rfl
   ·exact hJ.opV hs 5 (by decide) hd HVa.out rfl (fun i hi=>by show _≠i+175;omega) (by rfl) rfl
   ·exact hJ.opV hs 6 (by decide) hd HVy.out rfl (fun i hi=>by show _≠i+175;omega) (by rfl) rfl
   ·exact hJ.opV hs 7 (by decide) hd HVl.out rfl (fun i hi=>by show _≠i+175;omega) (by rfl) rfl
   ·exact hJ.opB2 hs HSX.out 8 (by decide) hd 6 7 (by decide) (by decide) (hdep 6 (by rfl)) (hdep 7 (by rfl)) rfl rfl rfl rfl rfl rfl
   ·exact hJ.opF hs 9 (by decide) hd 8 (by decide) (hdep 8 (by rfl)) ⟨by decide,by decide⟩ rfl rfl rfl rfl
   ·exact hJ.opB2 hs HSX.out 10 (by decide) hd 5 9 (by decide) (by decide) (hdep 5 (by rfl)) (hdep 9 (by rfl)) rfl rfl rfl rfl rfl rfl
   ·exact hJ.opF hs 11 (by decide) hd 10 (by decide) (hdep 10 (by rfl)) ⟨by decide,by decide⟩ rfl rfl rfl rfl
   exact hJ.opB2 hs HSX.out 12 (by decide) hd 4 11 (by decide) (by decide) (hdep 4 (by rfl)) (hdep 11 (by rfl)) rfl rfl rfl rfl rfl rfl
  intro T wt hJ;obtain⟨v0,a0,f0⟩:=hJ.val 0 (by decide) rfl;replace f0:v0=_:=f0;subst f0;obtain⟨v1,a1,f1⟩:=hJ.val 1 (by decide) rfl;obtain⟨v2,a2,f2⟩:=hJ.val 2 (by decide) rfl;obtain⟨v3,a3,f3⟩:=hJ.val 3 (by decide) rfl;obtain⟨v4,a4,f4⟩:=hJ.val 4 (by decide) rfl;obtain⟨v5,a5,f5⟩:=hJ.val 5 (by decide) rfl;obtain⟨v6,a6,f6⟩:=hJ.val 6 (by decide) rfl;obtain⟨v7,a7,f7⟩:=hJ.val 7 (by decide) rfl;obtain⟨v8,a8,f8⟩:=hJ.val 8 (by decide) rfl;obtain⟨v9,a9,f9⟩:=hJ.val 9 (by decide) rfl;obtain⟨v10,a10,f10⟩:=hJ.val 10 (by decide) rfl;obtain⟨v11,a11,f11⟩:=hJ.val 11 (by decide) rfl;obtain⟨v12,a12,f12⟩:=hJ.val 12 (by decide) rfl
  have hfr:=hJ.fin (hJ.slok HNE.out HL9.out (of_decide_eq_true rfl)) rfl (.cons a0 (.cons a1 (.cons a2 (.cons a3 (.cons a4 (.cons a5 (.cons a6 (.cons a7 (.cons a8 (.cons a9 (.cons a10 (.cons a11 (.cons a12 .nil)))))))))))));have HFG:Hid (FGl wt (bs P (.slice none 0 0)) v12 [fo 15 [scF x.num x,kd x 0],fo 15 [kd x 0,fo 2 [scF x.num x,nF (x.num - 1)]]]):=Lib.hid (FGl.mono f12 (fun b _ hb=>hb.1));clear f1 f2 f3 f4 f5 f6 f7 f8 f9 f10 f11 f12 HSX;have HBE9:=Lib.hid hJ.be;clear hJ HNE HL9 a0 a1 a2 a3 a4 a5 a6 a7 a8 a9 a10 a11 a12;rw[hfr];clear hfr;simp only[fillW,Nat.reduceAdd,List.setIfInBounds_toArray,List.set_cons_zero,List.set_cons_succ];simp only[List.drop_succ_cons,List.drop_zero]
  refine GR.append (HR.out.below HBE9.out) rfl (.tmp 175) (.tmp 187) rfl rfl rfl HFG.out (by simp) (Nat.le_trans HW.out.size HBE9.out.size) ?_;intro v9 w22 a1 a2 a3;clear HBx;replace HW:=Lib.hid ((HW.out.trans (HBE9.out.mono HW.out.size)).trans a3);clear HFG HBE9 a2 a3 HNEW HVa HVy HVl;obtain⟨oo,oc,hov,-,ho2,ho3,ho4⟩:=a1.form;subst hov;replace HR:Hid (GR w22 w.heap.size P (.slice oo 2 oc) [fo 15 [scF x.num x,kd x 0],fo 15 [kd x 0,fo 2 [scF x.num x,nF (x.num - 1)]]]):=Lib.hid a1;clear a1;clear ho4;go_wp2_with fail;go_ret;exact⟨_,rfl,by rw[about_i5 x HX5.out];exact HR.out,HW.out⟩
 have HN5:=Lib.hid hop;clear hop;have e4:(xo==7)=false:=beq_eq_false_iff_ne.2 HN7.out;have e5:(xo==5)=false:=beq_eq_false_iff_ne.2 HN5.out;by_cases hop:xo=4
 ·have HX4:Hid (x.op=4):=Lib.hid (by rw[<-HO.out];exact hop);have e6:(xo==4)=true:=by rw[hop];rfl
  clear hop;go_wp2_with fail;refine (n11_p 0 x12 (by decide) (by decide)).mono ?_;rintro e x13 ⟨zb,zo,zl,zc,rfl,hzz,hb⟩;clear y0 y1 y2 y3 y4 fy0 fy1 fy2 fy3 fy4;go_upto_region 31 with fail;obtain⟨x14,kn,en,ekn,hbn,hkn,HBn⟩:=newV x13 #[.int .i64 0,.bool zb,.slice zo zl zc,.string ⟨#[]⟩,.slice none 0 0] 29;rw[en,ekn];have HVz:Hid (Var x14 (bs P (.slice none 0 0)) kn (nF 0)):=Lib.hid (Var.new HBn.out (HNEW.out kn (Nat.le_trans hb.size hkn.out)) ⟨1,FC.mk ⟨by decide,by decide⟩ (hzz.below hbn.out) (FL.nil x14 _ 0)⟩);replace HBx:=kBV (hb.trans (hbn.out.mono hb.size)) HBx;replace HVx:=Lib.hid (HVx.out.below (hb.trans (hbn.out.mono hb.size)));replace HVa:=Lib.hid (HVa.out.below (hb.trans (hbn.out.mono hb.size)));replace HVb:=Lib.hid (HVb.out.below (hb.trans (hbn.out.mono hb.size)))
  replace HR:=Lib.hid (HR.out.below (hb.trans (hbn.out.mono hb.size)));replace HW:=Lib.hid (HW.out.trans ((hb.trans (hbn.out.mono hb.size)).mono HW.out.size));replace HNEW:Hid (∀ b,x14.heap.size<=b->bs P (.slice none 0 0) b):=Lib.hid (fun b h9=>HNEW.out b (Nat.le_trans (Nat.le_trans hb.size hbn.out.size) h9));clear hb hzz HBn HVs HVo HVy;have HNE:Hid (∀ i j,i<30->j<30->i≠j->(fun i=>i+192) i≠(fun i=>i+192) j):=Lib.hid (fun i j _ _ h e=>h (Nat.add_right_cancel e));have HL9:Hid (∀ i,i<30->(fun i=>i+192) i<222):=Lib.hid (fun i h=>by show i+192<222;omega);have HSX:Hid (∀ b,x14.heap.size<=b->(bs P (.slice none 0 0)) b):=Lib.hid (fun b hb=>HNEW.out b hb)
  refine Rel9.region (by kernel_rfl) [[],[],[],[1,2],[1,2,3],[],[],[5,6],[1,2,3,4,5,6,7],[],[],[9,10],[1,2,3,4,5,6,7,8,9,10,11],[1,2,3,4,5,6,7,8,9,10,11,12],[1,2,3,4,5,6,7,8,9,10,11,12,13],[],[],[15,16],[1,2,3,4,5,6,7,8,9,10,11,12,13,14,15,16,17],[],[],[19,20],[1,2,3,4,5,6,7,8,9,10,11,12,13,14,15,16,17,18,19,20,21],[],[],[23,24],[1,2,3,4,5,6,7,8,9,10,11,12,13,14,15,16,17,18,19,20,21,22,23,24,25],[1,2,3,4,5,6,7,8,9,10,11,12,13,14,15,16,17,18,19,20,21,22,23,24,25,26],[1,2,3,4,5,6,7,8,9,10,11,12,13,14,15,16,17,18,19,20,21,22,23,24,25,26,27],[1,2,3,4,5,6,7,8,9,10,11,12,13,14,15,16,17,18,19,20,21,22,23,24,25,26,27,28],[0,1,2,3,4,5,6,7,8,9,10,11,12,13,14,15,16,17,18,19,20,21,22,23,24,25,26,27,28,29],[0,1,2,3,4,5,6,7,8,9,10,11,12,13,14,15,16,17,18,19,20,21,22,23,24,25,26,27,28,29,30]] 30 (by kernel_rfl) (by kernel_rfl) (JL (bs P (.slice none 0 0)) x14 _ 30 (fun i=>i+192) (fun i=>[.eqv (.slice none 0 0),.fx (nF 0),.fx (kd x 0),.fl [nF 0,kd x 0],.fx (fo 15 [nF 0,kd x 0]),.fx (nF 0),.fx (kd x 1),.fl [nF 0,kd x 1],.fx (fo 15 [nF 0,kd x 1]),.fx (nF 0),.fx (x),.fl [nF 0,x],.fx (fo 15 [nF 0,x]),.fl [fo 15 [nF 0,kd x 0],fo 15 [nF 0,kd x 1],fo 15 [nF 0,x]],.fx (orF (orK 2 0 [fo 15 [nF 0,kd x 0],fo 15 [nF 0,kd x 1],fo 15 [nF 0,x]])),.fx (kd x 0),.fx (nF 0),.fl [kd x 0,nF 0],.fx (fo 15 [kd x 0,nF 0]),.fx (kd x 1),.fx (nF 0),.fl [kd x 1,nF 0],.fx (fo 15 [kd x 1,nF 0]),.fx (nF 0),.fx (x),.fl [nF 0,x],.fx (fo 15 [nF 0,x]),.fl [fo 15 [kd x 0,nF 0],fo 15 [kd x 1,nF 0],fo 15 [nF 0,x]],.fx (orF (orK 2 0 [fo 15 [kd x 0,nF 0],fo 15 [kd x 1,nF 0],fo 15 [nF 0,x]])),.fl [orF (orK 2 0 [fo 15 [nF 0,kd x 0],fo 15 [nF 0,kd x 1],fo 15 [nF 0,x]]),orF (orK 2 0 [fo 15 [kd x 0,nF 0],fo 15 [kd x 1,nF 0],fo 15 [nF 0,x]])]].getD i .any)) (JL.start _ _ _ _ _ _) ?_ ?_
  ·intro d T wc i o hJ ho hi hd hdep hcl;have hs:=hJ.slok HNE.out HL9.out (of_decide_eq_true rfl);obtain rfl | rfl | rfl | rfl | rfl | rfl | rfl | rfl | rfl | rfl | rfl | rfl | rfl | rfl | rfl | rfl | rfl | rfl | rfl | rfl | rfl | rfl | rfl | rfl | rfl | rfl | rfl | rfl | rfl | rfl:i=0\/i=1\/i=2\/i=3\/i=4\/i=5\/i=6\/i=7\/i=8\/i=9\/i=10\/i=11\/i=12\/i=13\/i=14\/i=15\/i=16\/i=17\/i=18\/i=19\/i=20\/i=21\/i=22\/i=23\/i=24\/i=25\/i=26\/i=27\/i=28\/i=29:=by omega
   all_goals (injection ho with ho)
   all_goals (subst ho)
   ·exact hJ.opMv hs 0 (by decide) hd (s:=0) rfl (fun i hi=>by show _≠i+192;omega) _ (by rfl) rfl
   ·exact hJ.opV hs 1 (by decide) hd HVz.out rfl (fun i hi=>by show _≠i+192;omega) (by rfl) rfl
   ·exact hJ.opV hs 2 (by decide) hd HVa.out rfl (fun i hi=>by show _≠i+192;omega) (by rfl) rfl
   ·exact hJ.opB2 hs HSX.out 3 (by decide) hd 1 2 (by decide) (by decide) (hdep 1 (by rfl)) (hdep 2 (by rfl)) rfl rfl rfl rfl rfl rfl
   ·exact hJ.opF hs 4 (by decide) hd 3 (by decide) (hdep 3 (by rfl)) ⟨by decide,by decide⟩ rfl rfl rfl rfl
   ·exact hJ.opV hs 5 (by decide) hd HVz.out rfl (fun i hi=>by show _≠i+192;omega) (by rfl) rfl
   ·exact hJ.opV hs 6 (by decide) hd HVb.out rfl (fun i hi=>by show _≠i+192;omega) (by rfl) rfl
   ·exact hJ.opB2 hs HSX.out 7 (by decide) hd 5 6 (by decide) (by decide) (hdep 5 (by rfl)) (hdep 6 (by rfl)) rfl rfl rfl rfl rfl rfl
   ·exact hJ.opF hs 8 (by decide) hd 7 (by decide) (hdep 7 (by rfl)) ⟨by decide,by decide⟩ rfl rfl rfl rfl
   ·exact hJ.opV hs 9 (by decide) hd HVz.out rfl (fun i hi=>by show _≠i+192;omega) (by rfl) rfl
   ·exact hJ.opV hs 10 (by decide) hd HVx.out rfl (fun i hi=>by show _≠i+192;omega) (by rfl) rfl
   ·exact hJ.opB2 hs HSX.out 11 (by decide) hd 9 10 (by decide) (by decide) (hdep 9 (by rfl)) (hdep 10 (by rfl)) rfl rfl rfl rfl rfl rfl
   ·exact hJ.opF hs 12 (by decide) hd 11 (by decide) (hdep 11 (by rfl)) ⟨by decide,by decide⟩ rfl rfl rfl rfl
   ·exact hJ.opB3 hs HSX.out 13 (by decide) hd 4 8 12 (by decide) (by decide) (by decide) (hdep 4 (by rfl)) (hdep 8 (by rfl)) (hdep 12 (by rfl)) rfl rfl rfl rfl rfl rfl rfl rfl
   ·exact hJ.opOr hs HSX.out 14 (by decide) hd 13 (by decide) (hdep 13 (by rfl)) rfl rfl rfl (of_decide_eq_true rfl) rfl
   ·exact hJ.opV hs 15 (by decide) hd HVa.out rfl (fun i hi=>by show _≠i+192;omega) (by rfl) rfl
   ·exact hJ.opV hs 16 (by decide) hd HVz.out rfl (fun i hi=>by show _≠i+192;omega) (by rfl) rfl
   ·exact hJ.opB2 hs HSX.out 17 (by decide) hd 15 16 (by decide) (by decide) (hdep 15 (by rfl)) (hdep 16 (by rfl)) rfl rfl rfl rfl rfl rfl
   ·exact hJ.opF hs 18 (by decide) hd 17 (by decide) (hdep 17 (by rfl)) ⟨by decide,by decide⟩ rfl rfl rfl rfl
   ·exact hJ.opV hs 19 (by decide) hd HVb.out rfl (fun i hi=>by show _≠i+192;omega) (by rfl) rfl
   ·exact hJ.opV hs 20 (by decide) hd HVz.out rfl (fun i hi=>by show _≠i+192;omega) (by rfl) rfl
   ·exact hJ.opB2 hs HSX.out 21 (by decide) hd 19 20 (by decide) (by decide) (hdep 19 (by rfl)) (hdep 20 (by rfl)) rfl rfl rfl rfl rfl rfl
   ·exact hJ.opF hs 22 (by decide) hd 21 (by decide) (hdep 21 (by rfl)) ⟨by decide,by decide⟩ rfl rfl rfl rfl
   ·exact hJ.opV hs 23 (by decide) hd HVz.out rfl (fun i hi=>by show _≠i+192;omega) (by rfl) rfl
   ·exact hJ.opV hs 24 (by decide) hd HVx.out rfl (fun i hi=>by show _≠i+192;omega) (by rfl) rfl
   ·exact hJ.opB2 hs HSX.out 25 (by decide) hd 23 24 (by decide) (by decide) (hdep 23 (by rfl)) (hdep 24 (by rfl)) rfl rfl rfl rfl rfl rfl
   ·exact hJ.opF hs 26 (by decide) hd 25 (by decide) (hdep 25 (by rfl)) ⟨by decide,by decide⟩ rfl rfl rfl rfl
   ·exact hJ.opB3 hs HSX.out 27 (by decide) hd 18 22 26 (by decide) (by decide) (by decide) (hdep 18 (by rfl)) (hdep 22 (by rfl)) (hdep 26 (by rfl)) rfl rfl rfl rfl rfl rfl rfl rfl
   ·exact hJ.opOr hs HSX.out 28 (by decide) hd 27 (by decide) (hdep 27 (by rfl)) rfl rfl rfl (of_decide_eq_true rfl) rfl
   exact hJ.opB2 hs HSX.out 29 (by decide) hd 14 28 (by decide) (by decide) (hdep 14 (by rfl)) (hdep 28 (by rfl)) rfl rfl rfl rfl rfl rfl
  intro T wt hJ;obtain⟨v0,a0,f0⟩:=hJ.val 0 (by decide) rfl;replace f0:v0=_:=f0;subst f0;obtain⟨v1,a1,f1⟩:=hJ.val 1 (by decide) rfl;obtain⟨v2,a2,f2⟩:=hJ.val 2 (by decide) rfl;obtain⟨v3,a3,f3⟩:=hJ.val 3 (by decide) rfl;obtain⟨v4,a4,f4⟩:=hJ.val 4 (by decide) rfl;obtain⟨v5,a5,f5⟩:=hJ.val 5 (by decide) rfl;obtain⟨v6,a6,f6⟩:=hJ.val 6 (by decide) rfl;obtain⟨v7,a7,f7⟩:=hJ.val 7 (by decide) rfl;obtain⟨v8,a8,f8⟩:=hJ.val 8 (by decide) rfl;obtain⟨v9,a9,f9⟩:=hJ.val 9 (by decide) rfl;obtain⟨v10,a10,f10⟩:=hJ.val 10 (by decide) rfl;obtain⟨v11,a11,f11⟩:=hJ.val 11 (by decide) rfl;obtain⟨v12,a12,f12⟩:=hJ.val 12 (by decide) rfl;obtain⟨v13,a13,f13⟩:=hJ.val 13 (by decide) rfl;obtain⟨v14,a14,f14⟩:=hJ.val 14 (by decide) rfl;obtain⟨v15,a15,f15⟩:=hJ.val 15 (by decide) rfl
  obtain⟨v16,a16,f16⟩:=hJ.val 16 (by decide) rfl;obtain⟨v17,a17,f17⟩:=hJ.val 17 (by decide) rfl;obtain⟨v18,a18,f18⟩:=hJ.val 18 (by decide) rfl;obtain⟨v19,a19,f19⟩:=hJ.val 19 (by decide) rfl;obtain⟨v20,a20,f20⟩:=hJ.val 20 (by decide) rfl;obtain⟨v21,a21,f21⟩:=hJ.val 21 (by decide) rfl;obtain⟨v22,a22,f22⟩:=hJ.val 22 (by decide) rfl;obtain⟨v23,a23,f23⟩:=hJ.val 23 (by decide) rfl;obtain⟨v24,a24,f24⟩:=hJ.val 24 (by decide) rfl;obtain⟨v25,a25,f25⟩:=hJ.val 25 (by decide) rfl;obtain⟨v26,a26,f26⟩:=hJ.val 26 (by decide) rfl;obtain⟨v27,a27,f27⟩:=hJ.val 27 (by decide) rfl;obtain⟨v28,a28,f28⟩:=hJ.val 28 (by decide) rfl;obtain⟨v29,a29,f29⟩:=hJ.val 29 (by decide) rfl
  have hfr:=hJ.fin (hJ.slok HNE.out HL9.out (of_decide_eq_true rfl)) rfl (.cons a0 (.cons a1 (.cons a2 (.cons a3 (.cons a4 (.cons a5 (.cons a6 (.cons a7 (.cons a8 (.cons a9 (.cons a10 (.cons a11 (.cons a12 (.cons a13 (.cons a14 (.cons a15 (.cons a16 (.cons a17 (.cons a18 (.cons a19 (.cons a20 (.cons a21 (.cons a22 (.cons a23 (.cons a24 (.cons a25 (.cons a26 (.cons a27 (.cons a28 (.cons a29 .nil))))))))))))))))))))))))))))));have HFG:Hid (FGl wt (bs P (.slice none 0 0)) v29 [orF (orK 2 0 [fo 15 [nF 0,kd x 0],fo 15 [nF 0,kd x 1],fo 15 [nF 0,x]]),orF (orK 2 0 [fo 15 [kd x 0,nF 0],fo 15 [kd x 1,nF 0],fo 15 [nF 0,x]])]):=Lib.hid (FGl.mono f29 (fun b _ hb=>hb.1));clear f1 f2 f3 f4 f5 f6 f7 f8 f9 f10 f11 f12 f13 f14 f15 f16 f17 f18 f19 f20 f21 f22 f23 f24 f25 f26 f27 f28 f29 HSX;have HBE9:=Lib.hid hJ.be
  clear hJ HNE HL9 a0 a1 a2 a3 a4 a5 a6 a7 a8 a9 a10 a11 a12 a13 a14 a15 a16 a17 a18 a19 a20 a21 a22 a23 a24 a25 a26 a27 a28 a29;rw[hfr];clear hfr;simp only[fillW,Nat.reduceAdd,List.setIfInBounds_toArray,List.set_cons_zero,List.set_cons_succ];simp only[List.drop_succ_cons,List.drop_zero];refine GR.append (HR.out.below HBE9.out) rfl (.tmp 192) (.tmp 221) rfl rfl rfl HFG.out (by simp) (Nat.le_trans HW.out.size HBE9.out.size) ?_;intro v9 w23 a1 a2 a3;replace HBx:Hid (w23.heap[kx]?=_):=Lib.hid (a2.blk HVx.out.1.1 (kBV HBE9.out HBx).out);replace HVx:=Lib.hid ((HVx.out.below HBE9.out).turn a2);replace HVa:=Lib.hid ((HVa.out.below HBE9.out).turn a2);replace HVb:=Lib.hid ((HVb.out.below HBE9.out).turn a2);replace HVz:=Lib.hid ((HVz.out.below HBE9.out).turn a2)
  replace HW:=Lib.hid ((HW.out.trans (HBE9.out.mono HW.out.size)).trans a3);clear HFG HBE9 a2 a3 HNEW;obtain⟨oo,oc,hov,-,ho2,ho3,ho4⟩:=a1.form;subst hov;replace HR:Hid (GR w23 w.heap.size P (.slice oo 2 oc) [orF (orK 2 0 [fo 15 [nF 0,kd x 0],fo 15 [nF 0,kd x 1],fo 15 [nF 0,x]]),orF (orK 2 0 [fo 15 [kd x 0,nF 0],fo 15 [kd x 1,nF 0],fo 15 [nF 0,x]])]):=Lib.hid a1;clear a1;have HON:Hid (∀ g,(Value.slice oo 2 oc).ownBlock=some g->g<w23.heap.size):=Lib.hid (fun g hg=>by
   cases oo with
   | none=>cases hg
   | some q =>
    obtain⟨g2,rfl,h3,h4⟩:=ho4 q rfl;have e2:some g2=some g:=hg;injection e2 with e2;omega)
  have HNEW:Hid (∀ b,w23.heap.size<=b->bs P (.slice oo 2 oc) b):=Lib.hid (fun b hb=>⟨fun e=>by have:=HON.out b e;omega,HPX.out b (Nat.le_trans HW.out.size hb)⟩);clear HON;clear ho4;go_upto_region 32 with fail;have HNE:Hid (∀ i j,i<30->j<30->i≠j->(fun i=>i+223) i≠(fun i=>i+223) j):=Lib.hid (fun i j _ _ h e=>h (Nat.add_right_cancel e));have HL9:Hid (∀ i,i<30->(fun i=>i+223) i<253):=Lib.hid (fun i h=>by show i+223<253;omega);have HSX:Hid (∀ b,w23.heap.size<=b->(bs P (.slice oo 2 oc)) b):=Lib.hid (fun b hb=>HNEW.out b hb)
  refine Rel9.region (by kernel_rfl) [[],[],[],[1,2],[1,2,3],[],[],[5,6],[1,2,3,4,5,6,7],[],[],[9,10],[1,2,3,4,5,6,7,8,9,10,11],[1,2,3,4,5,6,7,8,9,10,11,12],[1,2,3,4,5,6,7,8,9,10,11,12,13],[],[],[15,16],[1,2,3,4,5,6,7,8,9,10,11,12,13,14,15,16,17],[],[],[19,20],[1,2,3,4,5,6,7,8,9,10,11,12,13,14,15,16,17,18,19,20,21],[],[],[23,24],[1,2,3,4,5,6,7,8,9,10,11,12,13,14,15,16,17,18,19,20,21,22,23,24,25],[1,2,3,4,5,6,7,8,9,10,11,12,13,14,15,16,17,18,19,20,21,22,23,24,25,26],[1,2,3,4,5,6,7,8,9,10,11,12,13,14,15,16,17,18,19,20,21,22,23,24,25,26,27],[1,2,3,4,5,6,7,8,9,10,11,12,13,14,15,16,17,18,19,20,21,22,23,24,25,26,27,28],[0,1,2,3,4,5,6,7,8,9,10,11,12,13,14,15,16,17,18,19,20,21,22,23,24,25,26,27,28,29],[0,1,2,3,4,5,6,7,8,9,10,11,12,13,14,15,16,17,18,19,20,21,22,23,24,25,26,27,28,29,30]] 30 (by kernel_rfl) (by kernel_rfl) (JL (bs P (.slice oo 2 oc)) w23 _ 30 (fun i=>i+223) (fun i=>[.eqv (.slice oo 2 oc),.fx (nF 0),.fx (kd x 0),.fl [nF 0,kd x 0],.fx (fo 15 [nF 0,kd x 0]),.fx (kd x 1),.fx (nF 0),.fl [kd x 1,nF 0],.fx (fo 15 [kd x 1,nF 0]),.fx (x),.fx (nF 0),.fl [x,nF 0],.fx (fo 15 [x,nF 0]),.fl [fo 15 [nF 0,kd x 0],fo 15 [kd x 1,nF 0],fo 15 [x,nF 0]],.fx (orF (orK 2 0 [fo 15 [nF 0,kd x 0],fo 15 [kd x 1,nF 0],fo 15 [x,nF 0]])),.fx (kd x 0),.fx (nF 0),.fl [kd x 0,nF 0],.fx (fo 15 [kd x 0,nF 0]),.fx (nF 0),.fx (kd x 1),.fl [nF 0,kd x 1],.fx (fo 15 [nF 0,kd x 1]),.fx (x),.fx (nF 0),.fl [x,nF 0],.fx (fo 15 [x,nF 0]),.fl [fo 15 [kd x 0,nF 0],fo 15 [nF 0,kd x 1],fo 15 [x,nF 0]],.fx (orF (orK 2 0 [fo 15 [kd x 0,nF 0],fo 15 [nF 0,kd x 1],fo 15 [x,nF 0]])),.fl [orF (orK 2 0 [fo 15 [nF 0,kd x 0],fo 15 [kd x 1,nF 0],fo 15 [x,nF 0]]),orF (orK 2 0 [fo 15 [kd x 0,nF 0],fo 15 [nF 0,kd x 1],fo 15 [x,nF 0]])]].getD i .any)) (JL.start _ _ _ _ _ _) ?_ ?_
  ·intro d T wc i o hJ ho hi hd hdep hcl;have hs:=hJ.slok HNE.out HL9.out (of_decide_eq_true rfl);obtain rfl | rfl | rfl | rfl | rfl | rfl | rfl | rfl | rfl | rfl | rfl | rfl | rfl | rfl | rfl | rfl | rfl | rfl | rfl | rfl | rfl | rfl | rfl | rfl | rfl | rfl | rfl | rfl | rfl | rfl:i=0\/i=1\/i=2\/i=3\/i=4\/i=5\/i=6\/i=7\/i=8\/i=9\/i=10\/i=11\/i=12\/i=13\/i=14\/i=15\/i=16\/i=17\/i=18\/i=19\/i=20\/i=21\/i=22\/i=23\/i=24\/i=25\/i=26\/i=27\/i=28\/i=29:=by omega
   all_goals (injection ho with ho)
   all_goals (subst ho)
   ·exact hJ.opMv hs 0 (by decide) hd (s:=0) rfl (fun i hi=>by show _≠i+223;omega) _ (by rfl) rfl
   ·exact hJ.opV hs 1 (by decide) hd HVz.out rfl (fun i hi=>by show _≠i+223;omega) (by rfl) rfl
   ·exact hJ.opV hs 2 (by decide) hd HVa.out rfl (fun i hi=>by show _≠i+223;omega) (by rfl) rfl
   ·exact hJ.opB2 hs HSX.out 3 (by decide) hd 1 2 (by decide) (by decide) (hdep 1 (by rfl)) (hdep 2 (by rfl)) rfl rfl rfl rfl rfl rfl
   ·exact hJ.opF hs 4 (by decide) hd 3 (by decide) (hdep 3 (by rfl)) ⟨by decide,by decide⟩ rfl rfl rfl rfl
   ·exact hJ.opV hs 5 (by decide) hd HVb.out rfl (fun i hi=>by show _≠i+223;omega) (by rfl) rfl
   ·exact hJ.opV hs 6 (by decide) hd HVz.out rfl (fun i hi=>by show _≠i+223;omega) (by rfl) rfl
   ·exact hJ.opB2 hs HSX.out 7 (by decide) hd 5 6 (by decide) (by decide) (hdep 5 (by rfl)) (hdep 6 (by rfl)) rfl rfl rfl rfl rfl rfl
   ·exact hJ.opF hs 8 (by decide) hd 7 (by decide) (hdep 7 (by rfl)) ⟨by decide,by decide⟩ rfl rfl rfl rfl
   ·exact hJ.opV hs 9 (by decide) hd HVx.out rfl (fun i hi=>by show _≠i+223;omega) (by rfl) rfl
   ·exact hJ.opV hs 10 (by decide) hd HVz.out rfl (fun i hi=>by show _≠i+223;omega) (by rfl) rfl
   ·exact hJ.opB2 hs HSX.out 11 (by decide) hd 9 10 (by decide) (by decide) (hdep 9 (by rfl)) (hdep 10 (by rfl)) rfl rfl rfl rfl rfl rfl
   ·exact hJ.opF hs 12 (by decide) hd 11 (by decide) (hdep 11 (by rfl)) ⟨by decide,by decide⟩ rfl rfl rfl rfl
   ·exact hJ.opB3 hs HSX.out 13 (by decide) hd 4 8 12 (by decide) (by decide) (by decide) (hdep 4 (by rfl)) (hdep 8 (by rfl)) (hdep 12 (by rfl)) rfl rfl rfl rfl rfl rfl rfl rfl
   ·exact hJ.opOr hs HSX.out 14 (by decide) hd 13 (by decide) (hdep 13 (by rfl)) rfl rfl rfl (of_decide_eq_true rfl) rfl
   ·exact hJ.opV hs 15 (by decide) hd HVa.out rfl (fun i hi=>by show _≠i+223;omega) (by rfl) rfl
   ·exact hJ.opV hs 16 (by decide) hd HVz.out rfl (fun i hi=>by show _≠i+223;omega) (by rfl) rfl
   ·exact hJ.opB2 hs HSX.out 17 (by decide) hd 15 16 (by decide) (by decide) (hdep 15 (by rfl)) (hdep 16 (by rfl)) rfl rfl rfl rfl rfl rfl
   ·exact hJ.opF hs 18 (by decide) hd 17 (by decide) (hdep 17 (by rfl)) ⟨by decide,by decide⟩ rfl rfl rfl rfl
   ·exact hJ.opV hs 19 (by decide) hd HVz.out rfl (fun i hi=>by show _≠i+223;omega) (by rfl) rfl
   ·exact hJ.opV hs 20 (by decide) hd HVb.out rfl (fun i hi=>by show _≠i+223;omega) (by rfl) rfl
   ·exact hJ.opB2 hs HSX.out 21 (by decide) hd 19 20 (by decide) (by decide) (hdep 19 (by rfl)) (hdep 20 (by rfl)) rfl rfl rfl rfl rfl rfl
   ·exact hJ.opF hs 22 (by decide) hd 21 (by decide) (hdep 21 (by rfl)) ⟨by decide,by decide⟩ rfl rfl rfl rfl
   ·exact hJ.opV hs 23 (by decide) hd HVx.out rfl (fun i hi=>by show _≠i+223;omega) (by rfl) rfl
   ·exact hJ.opV hs 24 (by decide) hd HVz.out rfl (fun i hi=>by show _≠i+223;omega) (by rfl) rfl
   ·exact hJ.opB2 hs HSX.out 25 (by decide) hd 23 24 (by decide) (by decide) (hdep 23 (by rfl)) (hdep 24 (by rfl)) rfl rfl rfl rfl rfl rfl
   ·exact hJ.opF hs 26 (by decide) hd 25 (by decide) (hdep 25 (by rfl)) ⟨by decide,by decide⟩ rfl rfl rfl rfl
   ·exact hJ.opB3 hs HSX.out 27 (by decide) hd 18 22 26 (by decide) (by decide) (by decide) (hdep 18 (by rfl)) (hdep 22 (by rfl)) (hdep 26 (by rfl)) rfl rfl rfl rfl rfl rfl rfl rfl
   ·exact hJ.opOr hs HSX.out 28 (by decide) hd 27 (by decide) (hdep 27 (by rfl)) rfl rfl rfl (of_decide_eq_true rfl) rfl
   exact hJ.opB2 hs HSX.out 29 (by decide) hd 14 28 (by decide) (by decide) (hdep 14 (by rfl)) (hdep 28 (by rfl)) rfl rfl rfl rfl rfl rfl
  intro T wt hJ;obtain⟨v0,a0,f0⟩:=hJ.val 0 (by decide) rfl;replace f0:v0=_:=f0;subst f0;obtain⟨v1,a1,f1⟩:=hJ.val 1 (by decide) rfl;obtain⟨v2,a2,f2⟩:=hJ.val 2 (by decide) rfl;obtain⟨v3,a3,f3⟩:=hJ.val 3 (by decide) rfl;obtain⟨v4,a4,f4⟩:=hJ.val 4 (by decide) rfl;obtain⟨v5,a5,f5⟩:=hJ.val 5 (by decide) rfl;obtain⟨v6,a6,f6⟩:=hJ.val 6 (by decide) rfl;obtain⟨v7,a7,f7⟩:=hJ.val 7 (by decide) rfl;obtain⟨v8,a8,f8⟩:=hJ.val 8 (by decide) rfl;obtain⟨v9,a9,f9⟩:=hJ.val 9 (by decide) rfl;obtain⟨v10,a10,f10⟩:=hJ.val 10 (by decide) rfl;obtain⟨v11,a11,f11⟩:=hJ.val 11 (by decide) rfl;obtain⟨v12,a12,f12⟩:=hJ.val 12 (by decide) rfl;obtain⟨v13,a13,f13⟩:=hJ.val 13 (by decide) rfl;obtain⟨v14,a14,f14⟩:=hJ.val 14 (by decide) rfl;obtain⟨v15,a15,f15⟩:=hJ.val 15 (by decide) rfl
  obtain⟨v16,a16,f16⟩:=hJ.val 16 (by decide) rfl;obtain⟨v17,a17,f17⟩:=hJ.val 17 (by decide) rfl;obtain⟨v18,a18,f18⟩:=hJ.val 18 (by decide) rfl;obtain⟨v19,a19,f19⟩:=hJ.val 19 (by decide) rfl;obtain⟨v20,a20,f20⟩:=hJ.val 20 (by decide) rfl;obtain⟨v21,a21,f21⟩:=hJ.val 21 (by decide) rfl;obtain⟨v22,a22,f22⟩:=hJ.val 22 (by decide) rfl;obtain⟨v23,a23,f23⟩:=hJ.val 23 (by decide) rfl;obtain⟨v24,a24,f24⟩:=hJ.val 24 (by decide) rfl;obtain⟨v25,a25,f25⟩:=hJ.val 25 (by decide) rfl;obtain⟨v26,a26,f26⟩:=hJ.val 26 (by decide) rfl;obtain⟨v27,a27,f27⟩:=hJ.val 27 (by decide) rfl;obtain⟨v28,a28,f28⟩:=hJ.val 28 (by decide) rfl;obtain⟨v29,a29,f29⟩:=hJ.val 29 (by decide) rfl
  have hfr:=hJ.fin (hJ.slok HNE.out HL9.out (of_decide_eq_true rfl)) rfl (.cons a0 (.cons a1 (.cons a2 (.cons a3 (.cons a4 (.cons a5 (.cons a6 (.cons a7 (.cons a8 (.cons a9 (.cons a10 (.cons a11 (.cons a12 (.cons a13 (.cons a14 (.cons a15 (.cons a16 (.cons a17 (.cons a18 (.cons a19 (.cons a20 (.cons a21 (.cons a22 (.cons a23 (.cons a24 (.cons a25 (.cons a26 (.cons a27 (.cons a28 (.cons a29 .nil))))))))))))))))))))))))))))));have HFG:Hid (FGl wt (bs P (.slice oo 2 oc)) v29 [orF (orK 2 0 [fo 15 [nF 0,kd x 0],fo 15 [kd x 1,nF 0],fo 15 [x,nF 0]]),orF (orK 2 0 [fo 15 [kd x 0,nF 0],fo 15 [nF 0,kd x 1],fo 15 [x,nF 0]])]):=Lib.hid (FGl.mono f29 (fun b _ hb=>hb.1));clear f1 f2 f3 f4 f5 f6 f7 f8 f9 f10 f11 f12 f13 f14 f15 f16 f17 f18 f19 f20 f21 f22 f23 f24 f25 f26 f27 f28 f29 HSX;have HBE9:=Lib.hid hJ.be
  clear hJ HNE HL9 a0 a1 a2 a3 a4 a5 a6 a7 a8 a9 a10 a11 a12 a13 a14 a15 a16 a17 a18 a19 a20 a21 a22 a23 a24 a25 a26 a27 a28 a29;rw[hfr];clear hfr;simp only[fillW,Nat.reduceAdd,List.setIfInBounds_toArray,List.set_cons_zero,List.set_cons_succ];simp only[List.drop_succ_cons,List.drop_zero];refine GR.append (HR.out.below HBE9.out) rfl (.tmp 223) (.tmp 252) rfl rfl rfl HFG.out (by simp) (Nat.le_trans HW.out.size HBE9.out.size) ?_;intro v9 w24 a1 a2 a3;replace HBx:Hid (w24.heap[kx]?=_):=Lib.hid (a2.blk HVx.out.1.1 (kBV HBE9.out HBx).out);replace HVx:=Lib.hid ((HVx.out.below HBE9.out).turn a2);replace HVa:=Lib.hid ((HVa.out.below HBE9.out).turn a2);replace HVb:=Lib.hid ((HVb.out.below HBE9.out).turn a2);replace HW:=Lib.hid ((HW.out.trans (HBE9.out.mono HW.out.size)).trans a3);clear HFG HBE9 a2 a3 HNEW HVz
  obtain⟨oo,oc,hov,-,ho2,ho3,ho4⟩:=a1.form;subst hov;replace HR:Hid (GR w24 w.heap.size P (.slice oo 4 oc) [orF (orK 2 0 [fo 15 [nF 0,kd x 0],fo 15 [nF 0,kd x 1],fo 15 [nF 0,x]]),orF (orK 2 0 [fo 15 [kd x 0,nF 0],fo 15 [kd x 1,nF 0],fo 15 [nF 0,x]]),orF (orK 2 0 [fo 15 [nF 0,kd x 0],fo 15 [kd x 1,nF 0],fo 15 [x,nF 0]]),orF (orK 2 0 [fo 15 [kd x 0,nF 0],fo 15 [nF 0,kd x 1],fo 15 [x,nF 0]])]):=Lib.hid a1;clear a1;have HON:Hid (∀ g,(Value.slice oo 4 oc).ownBlock=some g->g<w24.heap.size):=Lib.hid (fun g hg=>by
   cases oo with
   | none=>cases hg
   | some q =>
    obtain⟨g2,rfl,h3,h4⟩:=ho4 q rfl;have e2:some g2=some g:=hg;injection e2 with e2;omega)
  have HNEW:Hid (∀ b,w24.heap.size<=b->bs P (.slice oo 4 oc) b):=Lib.hid (fun b hb=>⟨fun e=>by have:=HON.out b e;omega,HPX.out b (Nat.le_trans HW.out.size hb)⟩);clear HON;clear ho4;go_upto_region 33 with fail;have HNE:Hid (∀ i j,i<22->j<22->i≠j->(fun i=>i+254) i≠(fun i=>i+254) j):=Lib.hid (fun i j _ _ h e=>h (Nat.add_right_cancel e));have HL9:Hid (∀ i,i<22->(fun i=>i+254) i<276):=Lib.hid (fun i h=>by show i+254<276;omega);have HSX:Hid (∀ b,w24.heap.size<=b->(bs P (.slice oo 4 oc)) b):=Lib.hid (fun b hb=>HNEW.out b hb)
  refine Rel9.region (by kernel_rfl) [[],[],[],[1,2],[1,2,3],[],[],[5,6],[1,2,3,4,5,6,7],[1,2,3,4,5,6,7,8],[1,2,3,4,5,6,7,8,9],[],[1,2,3,4,5,6,7,8,9,10],[1,2,3,4,5,6,7,8,9,10,11,12],[1,2,3,4,5,6,7,8,9,10,11,12,13],[],[],[15,16],[1,2,3,4,5,6,7,8,9,10,11,12,13,14,15,16,17],[1,2,3,4,5,6,7,8,9,10,11,12,13,14,15,16,17,18],[1,2,3,4,5,6,7,8,9,10,11,12,13,14,15,16,17,18,19],[1,2,3,4,5,6,7,8,9,10,11,12,13,14,15,16,17,18,19,20],[0,1,2,3,4,5,6,7,8,9,10,11,12,13,14,15,16,17,18,19,20,21],[0,1,2,3,4,5,6,7,8,9,10,11,12,13,14,15,16,17,18,19,20,21,22]] 22 (by kernel_rfl) (by kernel_rfl) (JL (bs P (.slice oo 4 oc)) w24 _ 22 (fun i=>i+254) (fun i=>[.eqv (.slice oo 4 oc),.fx (kd x 0),.fx (nF 1),.fl [kd x 0,nF 1],.fx (fo 16 [kd x 0,nF 1]),.fx (x),.fx (kd x 1),.fl [x,kd x 1],.fx (fo 16 [x,kd x 1]),.fl [fo 16 [kd x 0,nF 1],fo 16 [x,kd x 1]],.fx (orF (orK 1 0 [fo 16 [kd x 0,nF 1],fo 16 [x,kd x 1]])),.fx (kd x 1),.fx (nF 1),.fl [kd x 1,nF 1],.fx (fo 16 [kd x 1,nF 1]),.fx (x),.fx (kd x 0),.fl [x,kd x 0],.fx (fo 16 [x,kd x 0]),.fl [fo 16 [kd x 1,nF 1],fo 16 [x,kd x 0]],.fx (orF (orK 1 0 [fo 16 [kd x 1,nF 1],fo 16 [x,kd x 0]])),.fl [orF (orK 1 0 [fo 16 [kd x 0,nF 1],fo 16 [x,kd x 1]]),orF (orK 1 0 [fo 16 [kd x 1,nF 1],fo 16 [x,kd x 0]])]].getD i .any)) (JL.start _ _ _ _ _ _) ?_ ?_
  ·intro d T wc i o hJ ho hi hd hdep hcl;have hs:=hJ.slok HNE.out HL9.out (of_decide_eq_true rfl);obtain rfl | rfl | rfl | rfl | rfl | rfl | rfl | rfl | rfl | rfl | rfl | rfl | rfl | rfl | rfl | rfl | rfl | rfl | rfl | rfl | rfl | rfl:i=0\/i=1\/i=2\/i=3\/i=4\/i=5\/i=6\/i=7\/i=8\/i=9\/i=10\/i=11\/i=12\/i=13\/i=14\/i=15\/i=16\/i=17\/i=18\/i=19\/i=20\/i=21:=by omega
   all_goals (injection ho with ho)
   all_goals (subst ho)
   ·exact hJ.opMv hs 0 (by decide) hd (s:=0) rfl (fun i hi=>by show _≠i+254;omega) _ (by rfl) rfl
   ·exact hJ.opV hs 1 (by decide) hd HVa.out rfl (fun i hi=>by show _≠i+254;omega) (by rfl) rfl
   ·exact hJ.opN hs 2 (by decide) hd ⟨by decide,by decide⟩ rfl rfl
   ·exact hJ.opB2 hs HSX.out 3 (by decide) hd 1 2 (by decide) (by decide) (hdep 1 (by rfl)) (hdep 2 (by rfl)) rfl rfl rfl rfl rfl rfl
   ·exact hJ.opF hs 4 (by decide) hd 3 (by decide) (hdep 3 (by rfl)) ⟨by decide,by decide⟩ rfl rfl rfl rfl
   ·exact hJ.opV hs 5 (by decide) hd HVx.out rfl (fun i hi=>by show _≠i+254;omega) (by rfl) rfl
   ·exact hJ.opV hs 6 (by decide) hd HVb.out rfl (fun i hi=>by show _≠i+254;omega) (by rfl) rfl
   ·exact hJ.opB2 hs HSX.out 7 (by decide) hd 5 6 (by decide) (by decide) (hdep 5 (by rfl)) (hdep 6 (by rfl)) rfl rfl rfl rfl rfl rfl
   ·exact hJ.opF hs 8 (by decide) hd 7 (by decide) (hdep 7 (by rfl)) ⟨by decide,by decide⟩ rfl rfl rfl rfl
   ·exact hJ.opB2 hs HSX.out 9 (by decide) hd 4 8 (by decide) (by decide) (hdep 4 (by rfl)) (hdep 8 (by rfl)) rfl rfl rfl rfl rfl rfl
   ·exact hJ.opOr hs HSX.out 10 (by decide) hd 9 (by decide) (hdep 9 (by rfl)) rfl rfl rfl (of_decide_eq_true rfl) rfl
   ·exact hJ.opV hs 11 (by decide) hd HVb.out rfl (fun i hi=>by show _≠i+254;omega) (by rfl) rfl
   ·exact hJ.opN hs 12 (by decide) hd ⟨by decide,by decide⟩ rfl rfl
   ·exact hJ.opB2 hs HSX.out 13 (by decide) hd 11 12 (by decide) (by decide) (hdep 11 (by rfl)) (hdep 12 (by rfl)) rfl rfl rfl rfl rfl rfl
   ·exact hJ.opF hs 14 (by decide) hd 13 (by decide) (hdep 13 (by rfl)) ⟨by decide,by decide⟩ rfl rfl rfl rfl
   ·exact hJ.opV hs 15 (by decide) hd HVx.out rfl (fun i hi=>by show _≠i+254;omega) (by rfl) rfl
   ·exact hJ.opV hs 16 (by decide) hd HVa.out rfl (fun i hi=>by show _≠i+254;omega) (by rfl) rfl
   ·exact hJ.opB2 hs HSX.out 17 (by decide) hd 15 16 (by decide) (by decide) (hdep 15 (by rfl)) (hdep 16 (by rfl)) rfl rfl rfl rfl rfl rfl
   ·exact hJ.opF hs 18 (by decide) hd 17 (by decide) (hdep 17 (by rfl)) ⟨by decide,by decide⟩ rfl rfl rfl rfl
   ·exact hJ.opB2 hs HSX.out 19 (by decide) hd 14 18 (by decide) (by decide) (hdep 14 (by rfl)) (hdep 18 (by rfl)) rfl rfl rfl rfl rfl rfl
   ·exact hJ.opOr hs HSX.out 20 (by decide) hd 19 (by decide) (hdep 19 (by rfl)) rfl rfl rfl (of_decide_eq_true rfl) rfl
   exact hJ.opB2 hs HSX.out 21 (by decide) hd 10 20 (by decide) (by decide) (hdep 10 (by rfl)) (hdep 20 (by rfl)) rfl rfl rfl rfl rfl rfl
  intro T wt hJ;obtain⟨v0,a0,f0⟩:=hJ.val 0 (by decide) rfl;replace f0:v0=_:=f0;subst f0;obtain⟨v1,a1,f1⟩:=hJ.val 1 (by decide) rfl;obtain⟨v2,a2,f2⟩:=hJ.val 2 (by decide) rfl;obtain⟨v3,a3,f3⟩:=hJ.val 3 (by decide) rfl;obtain⟨v4,a4,f4⟩:=hJ.val 4 (by decide) rfl;obtain⟨v5,a5,f5⟩:=hJ.val 5 (by decide) rfl;obtain⟨v6,a6,f6⟩:=hJ.val 6 (by decide) rfl;obtain⟨v7,a7,f7⟩:=hJ.val 7 (by decide) rfl;obtain⟨v8,a8,f8⟩:=hJ.val 8 (by decide) rfl;obtain⟨v9,a9,f9⟩:=hJ.val 9 (by decide) rfl;obtain⟨v10,a10,f10⟩:=hJ.val 10 (by decide) rfl;obtain⟨v11,a11,f11⟩:=hJ.val 11 (by decide) rfl;obtain⟨v12,a12,f12⟩:=hJ.val 12 (by decide) rfl;obtain⟨v13,a13,f13⟩:=hJ.val 13 (by decide) rfl;obtain⟨v14,a14,f14⟩:=hJ.val 14 (by decide) rfl;obtain⟨v15,a15,f15⟩:=hJ.val 15 (by decide) rfl
  obtain⟨v16,a16,f16⟩:=hJ.val 16 (by decide) rfl;obtain⟨v17,a17,f17⟩:=hJ.val 17 (by decide) rfl;obtain⟨v18,a18,f18⟩:=hJ.val 18 (by decide) rfl;obtain⟨v19,a19,f19⟩:=hJ.val 19 (by decide) rfl;obtain⟨v20,a20,f20⟩:=hJ.val 20 (by decide) rfl;obtain⟨v21,a21,f21⟩:=hJ.val 21 (by decide) rfl;have hfr:=hJ.fin (hJ.slok HNE.out HL9.out (of_decide_eq_true rfl)) rfl (.cons a0 (.cons a1 (.cons a2 (.cons a3 (.cons a4 (.cons a5 (.cons a6 (.cons a7 (.cons a8 (.cons a9 (.cons a10 (.cons a11 (.cons a12 (.cons a13 (.cons a14 (.cons a15 (.cons a16 (.cons a17 (.cons a18 (.cons a19 (.cons a20 (.cons a21 .nil))))))))))))))))))))))
  have HFG:Hid (FGl wt (bs P (.slice oo 4 oc)) v21 [orF (orK 1 0 [fo 16 [kd x 0,nF 1],fo 16 [x,kd x 1]]),orF (orK 1 0 [fo 16 [kd x 1,nF 1],fo 16 [x,kd x 0]])]):=Lib.hid (FGl.mono f21 (fun b _ hb=>hb.1));clear f1 f2 f3 f4 f5 f6 f7 f8 f9 f10 f11 f12 f13 f14 f15 f16 f17 f18 f19 f20 f21 HSX;have HBE9:=Lib.hid hJ.be;clear hJ HNE HL9 a0 a1 a2 a3 a4 a5 a6 a7 a8 a9 a10 a11 a12 a13 a14 a15 a16 a17 a18 a19 a20 a21;rw[hfr];clear hfr;simp only[fillW,Nat.reduceAdd,List.setIfInBounds_toArray,List.set_cons_zero,List.set_cons_succ];simp only[List.drop_succ_cons,List.drop_zero];refine GR.append (HR.out.below HBE9.out) rfl (.tmp 254) (.tmp 275) rfl rfl rfl HFG.out (by simp) (Nat.le_trans HW.out.size HBE9.out.size) ?_;intro v9 w25 a1 a2 a3;clear HBx;replace HW:=Lib.hid ((HW.out.trans (HBE9.out.mono HW.out.size)).trans a3)
  clear HFG HBE9 a2 a3 HNEW HVx HVa HVb;obtain⟨oo,oc,hov,-,ho2,ho3,ho4⟩:=a1.form;subst hov;replace HR:Hid (GR w25 w.heap.size P (.slice oo 6 oc) [orF (orK 2 0 [fo 15 [nF 0,kd x 0],fo 15 [nF 0,kd x 1],fo 15 [nF 0,x]]),orF (orK 2 0 [fo 15 [kd x 0,nF 0],fo 15 [kd x 1,nF 0],fo 15 [nF 0,x]]),orF (orK 2 0 [fo 15 [nF 0,kd x 0],fo 15 [kd x 1,nF 0],fo 15 [x,nF 0]]),orF (orK 2 0 [fo 15 [kd x 0,nF 0],fo 15 [nF 0,kd x 1],fo 15 [x,nF 0]]),orF (orK 1 0 [fo 16 [kd x 0,nF 1],fo 16 [x,kd x 1]]),orF (orK 1 0 [fo 16 [kd x 1,nF 1],fo 16 [x,kd x 0]])]):=Lib.hid a1;clear a1;clear ho4;go_wp2_with fail;go_ret;exact⟨_,rfl,by rw[about_i4 x HX4.out];exact HR.out,HW.out⟩
 have e6:(xo==4)=false:=beq_eq_false_iff_ne.2 hop;have HN4:=Lib.hid hop;clear hop;go_wp2_with fail;go_ret;exact⟨_,rfl,by rw[about_i0 x (by rw[<-HO.out];exact HS2.out) (by rw[<-HO.out];exact HN7.out) (by rw[<-HO.out];exact HN5.out) (by rw[<-HO.out];exact HN4.out)];exact HR.out,HW.out⟩
attribute [local go_sem] fieldV0 fieldV1 fieldV2 fieldV3
theorem terms_p (d:Nat) (v:Value) (t:F) (w:World) (h:FC w tS d v t) (hd:d<=9) (hrt:rt t=true) (htg:Tg d t) (hsz:szF t<=1000) (ht:TxT w) :
  Calls Tryz.prog 26 #[v] w fun e w'=>∃ v',e=.returned v'/\FL w' tS 9 v' (termsF t)/\Below w.heap.size w w':=by
 have HF:=Lib.hid h;have HD:=Lib.hid hd;have HRT:=Lib.hid hrt;have HTG:=Lib.hid htg;have HSZ:=Lib.hid hsz;have HT:=Lib.hid ht;obtain⟨b,ao,l,c,ko,kl,kc,rfl,-,-,-⟩:=h.open;obtain⟨o,ho⟩:∃ o,o=t.op:=⟨_,rfl⟩;obtain⟨nm,hnm⟩:∃ o,o=t.name:=⟨_,rfl⟩;rw[<-ho,<-hnm] at HF ⊢;clear h hd hrt htg hsz ht ho hnm;go_enter Tryz.func26,Tryz.ntmps26;obtain⟨x1,kf,ef,ekf,hbf,hkf,HBf⟩:=newV w #[.int .i64 o,.bool b,.slice ao l c,.string nm,.slice ko kl kc] 29;have HW:=Lib.hid hbf.out;replace HF:=Lib.hid (HF.out.below hbf.out);replace HT:=Lib.hid (HT.out.below hbf.out);obtain⟨⟨c0,c1,c2,c3,c4⟩,-⟩:=cells5V HBf.out;go_wp2_with fail;refine (right_p d _ t tS x1 HF.out).mono ?_;rintro e x2 ⟨rfl,hb⟩;rw[HRT.out];clear c0 c1 c2 c3 c4;replace HBf:=kBV hb HBf;replace HF:=Lib.hid (HF.out.below hb)
 replace HT:=Lib.hid (HT.out.below hb);replace HW:=Lib.hid (HW.out.trans (hb.mono HW.out.size));clear hb;go_wp2_with fail;refine (new_p x2 HT.out).mono ?_;rintro e x3 ⟨k,rfl,hst,hb⟩;replace HBf:=kBV hb HBf;have HF3:Hid (FC x3 (NS x2.heap.size k (fun _=>False) x3) d (.agg #[.int .i64 o,.bool b,.slice ao l c,.string nm,.slice ko kl kc]) t):=Lib.hid (by
  obtain⟨u,e,hft⟩:=HF.out;exact⟨u,e,hft.of_base hb (fun g h=>h.elim)⟩)
 have HW3:=Lib.hid (HW.out.trans (hb.mono HW.out.size));have HWB:=Lib.hid HW.out.size;have HS3:=Lib.hid hst;have HB2:=Lib.hid hb;obtain⟨B,hB⟩:∃ B,B=x2.heap.size:=⟨_,rfl⟩;rw[<-hB] at HS3 HF3 HWB HB2;clear hst hb HF HT HW hB;obtain⟨⟨c0,c1,c2,c3,c4⟩,-⟩:=cells5V HBf.out;go_wp2_with fail;refine (addS_p d _ _ _ _ _ x3 _ t HS3.out HF3.out HRT.out HTG.out HD.out (by have:=HSZ.out;simp only[lsn];omega)).mono ?_;rintro e x4 ⟨i,s1,rfl,q1,q2,q3,q4⟩;clear c0 c1 c2 c3 c4;have HL1:Hid (s1.length<=1000):=Lib.hid (by have h1:=q2.len;have h2:=HSZ.out;simp only[lsn] at h1;omega);have HI:=Lib.hid q3;have HP4:Hid (Below B x3 x4):=Lib.hid (q4.below HS3.out.bases.1);have HS4:=Lib.hid q1;clear q1 q2 q3 q4 HS3 HF3 HBf;obtain⟨x5,kq,eq,ekq,hbq,hkq,HBq⟩:=newV x4 #[.int .i64 ((i:Nat):Int)] 116
 have HS5:=Lib.hid (HS4.out.below hbq.out);have HB5:Hid (Below B x3 x5):=Lib.hid (HP4.out.trans (hbq.out.mono HS4.out.bases.1));have HAT:=Lib.hid (idR_at (l:=[i]) HBq.out (by show 1<=maxLen;decide));go_wp2_with fail;refine (listS_p x5 HS5.out List.nodup_nil (some ⟨kq,0,none⟩) 1 1 [i] HAT.out [t] (by simp only[List.map_cons,List.map_nil,HI.out]) (by decide)).mono ?_;rintro e x6 ⟨v1,l1,rfl,r1,r2,r3,r4⟩;have hv1:viss [] [t]=vis [] t:=by rw[viss,viss]
 rw[hv1] at r2 r3;rw[newT_nil] at r2;obtain⟨T1,hT1⟩:∃ x,x=(vis [] t).filter nb:=⟨_,rfl⟩;rw[<-hT1] at r2;have HT1:=Lib.hid hT1;have HT1L:Hid (T1.length<=1000):=Lib.hid (by
  obtain⟨km,v0,us,M,hU⟩:=r3;have h1:=len_of_nd (vis_nd t [] List.nodup_nil) hU.sub;have h2:=List.length_filter_le nb (vis [] t);have h3:=HL1.out;rw[hT1];omega)
 obtain⟨po,pc,rfl,hp1,hp2,-⟩:=r1.form;obtain⟨n1,hn1⟩:∃ n,n=l1.length:=⟨_,rfl⟩;have HN1:=Lib.hid hn1;have HN1T:Hid (T1.length=n1):=Lib.hid (by rw[hn1];exact map_some_len r2);rw[<-hn1] at r1 r3 hp1 ⊢;have hpm:pc<=9223372036854775807:=hp2;have HM1:=Lib.hid r2;have HS6:=Lib.hid (r3.less (E':=fun _=>False) (fun g hg=>hg.elim));have HIL:Hid (IL B k (fun _=>False) x6 (.slice po n1 pc) l1):=Lib.hid (idR_il (B:=B) (k:=k) (E:=fun _=>False) r1 (fun g hg he=>he));have HB6:Hid (Below B x3 x6):=Lib.hid (HB5.out.trans (r4.below HS5.out.bases.1));have HSX:Hid (B<=x6.heap.size/\k<x6.heap.size):=Lib.hid r3.bases;clear r1 r2 r3 r4 hT1 hv1 hn1 hp2 HS5 HS4 HAT HBq HP4 HB5;go_wp2_with fail;refine (forms_pS x6 HS6.out _ l1 HIL.out T1 HM1.out (by have h1:=HT1L.out;have h2:=HN1T.out;have h3:=HN1.out;omega)).mono ?_
 rintro e x9 ⟨v',rfl,hfl,hb⟩;have HFL:=Lib.hid hfl;have HB9:=Lib.hid hb;clear hfl hb;go_wp2_with fail;go_ret;refine⟨v',rfl,by unfold termsF;rw[<-HT1.out];exact HFL.out.mono (fun _ _=>trivial),?_⟩;exact HW3.out.trans ((HB6.out.trans (HB9.out.mono HSX.out.1)).mono HWB.out)
attribute [local go_sem] fieldV0 fieldV1 fieldV2 fieldV3
theorem tame4s (s:Int) (o:Int) (b:Bool) (ao:Option Addr) (l c:Nat) (nm:ByteArray) (ko:Option Addr) (kl kc:Nat) (w:World) (hs:s=0\/s=1\/s=2) (h:RawF w 4 ⟨o,b,ao,l,c,nm,ko,kl,kc⟩) :
  Calls Tryz.prog 13 #[.agg #[.int .i64 o,.bool b,.slice ao l c,.string nm,.slice ko kl kc],.int .i64 s,.int .i64 4] w (TamePost 4 s w):=tameF 3 (by decide) s o b ao l c nm ko kl kc w hs h
theorem GR.elem {w:World} {B:Nat} {P:Nat->Prop} {ko:Option Addr} {L c:Nat} {ts:List F} (h:GR w B P (.slice ko L c) ts) (q:Nat) (hq:q<ts.length):∃ (p:Addr) (x:FU) (d:Nat),ko=some p/\ElAt w p q x/\FT w (bs P (.slice ko L c)) d x ts[q]:=by
 obtain⟨us,h1,h5,d,h6⟩:=h;obtain⟨ko2,kc,e,-,h4⟩:=h1.at;injection e with e1 e2 e3;have hu:q<us.length:=by rw[h5];exact hq
 obtain⟨a,e6,⟨c2,hc⟩,hcell,-⟩:=h4 q hu;have hb:(a.add (q*5)).block=a.block:=by rw[add_blockV]
 refine⟨a,us[q],d,by rw[e1,e6],⟨_,rfl,by rw[hb];exact lt_of_block hc,?_,?_,?_,?_,?_⟩,h6 q hu hq⟩
 ·exact hcell 0 _ rfl
 all_goals
  first
  | (have:=hcell 1 _ rfl;rw[<-add_addV] at this;exact this)
  | (have:=hcell 2 _ rfl;rw[<-add_addV] at this;exact this)
  | (have:=hcell 3 _ rfl;rw[<-add_addV] at this;exact this)
  | (have:=hcell 4 _ rfl;rw[<-add_addV] at this;exact this)
theorem ElAt.keep {w w':World} {p:Addr} {q:Nat} {x:FU} (h:ElAt w p q x) (hk:∀ b,b=(p.add (q*5)).block->w'.heap[b]?=w.heap[b]?) (hs:w.heap.size<=w'.heap.size):ElAt w' p q x:=by
 obtain⟨a,rfl,hl,c0,c1,c2,c3,c4⟩:=h;have hb:=hk _ rfl;exact⟨_,rfl,Nat.lt_of_lt_of_le hl hs,(cell_keepF (p:=p.add (q*5)) hb).trans c0,(cell_keepF (p:=⟨(p.add (q*5)).block,_,none⟩) hb).trans c1,(cell_keepF (p:=⟨(p.add (q*5)).block,_,none⟩) hb).trans c2,(cell_keepF (p:=⟨(p.add (q*5)).block,_,none⟩) hb).trans c3,(cell_keepF (p:=⟨(p.add (q*5)).block,_,none⟩) hb).trans c4⟩
theorem ElAt.below {w w':World} {p:Addr} {q:Nat} {x:FU} (h:ElAt w p q x) (hb:Below w.heap.size w w'):ElAt w' p q x:=by
 have h0:=h;obtain⟨a,rfl,hl,-⟩:=h0;exact h.keep (fun b e=>hb.block b (by rw[e];exact hl)) hb.size
theorem GR.grownR {w w':World} {B:Nat} {P P':Nat->Prop} {v:Value} {ts:List F} {r:Option Nat} (h:GR w B P v ts) (hg:w.grownBy w' r) (hn:KN w w') (hS:∀ b,P b->r≠some b) (hv:∀ g,v.ownBlock=some g->r≠some g) (hP:∀ b,P b->P' b):GR w' B P' v ts:=by
 obtain⟨us,h1,h2⟩:=h;refine⟨us,⟨?_,fun g hg2=>?_,fun _ _=>trivial⟩,h2.map fun d u q hq=>(hq.grown hg hn (fun b hb=>hS b hb.2)).mono fun b hb=>⟨hb.1,hP b hb.2⟩⟩
 ·rcases hr:v.ownBlock with _ | j
  ·exact World.ownsRow.kept h1.own hg (.inl hr)
  exact World.ownsRow.kept h1.own hg (.inr (by rw[hr];exact fun e=>hv j hr e.symm))
 obtain⟨c,hc,h32⟩:=h1.n32 g hg2;exact⟨c,(hg.block g (lt_of_block hc) (fun e=>hv g hg2 e.symm)).trans hc,h32⟩
theorem filterT_take {f:F->List F} {l:List F} {j:Nat} (h:j<l.length):((l.take (j+1)).filter (fun t=>decide (srt t.op=2))).flatMap f=((l.take j).filter (fun t=>decide (srt t.op=2))).flatMap f++(if srt l[j].op=2 then f l[j] else []):=by
 rw[List.take_succ_eq_append_getElem h,List.filter_append,List.flatMap_append];congr 1;by_cases e:srt l[j].op=2
 ·rw[if_pos e,List.filter_cons_of_pos (by simpa using e)];simp
 rw[if_neg e,List.filter_cons_of_neg (by simpa using e)];simp
theorem Pre.flP {w:World} {B:Nat} {P:Nat->Prop} {ov v:Value} {os:List F} (h:Pre w B P ov os v) (ho:∀ g,ov.ownBlock=some g->P g):∃ d,FL w P d ov os:=by
 obtain⟨us0,us,h1,h2,h3,h4⟩:=h;refine FGl.fl ⟨us0,h1.at,fun a n c e _=>ho a.block ?_,h4.map fun _ _ _ h=>h.mono fun _ hb=>hb.2⟩;rcases h1.own.2 with ⟨hv,-⟩ | ⟨g,cap,cur,hv,_⟩
 ·rw[e] at hv;cases hv
 rw[e] at hv;injection hv with e1 e2 e3;injection e1 with e1;rw[e,e1];rfl
theorem wx_about {t:F} (hr:rt t=true) (hm:Tm 5 t) {y:F} (hy:y ∈ termsF t) (v:Value) (S:Nat->Prop) (w:World) (d:Nat) (h:FC w S d v y) :
  Calls Tryz.prog 24 #[v,.bool true] w fun e w'=>∃ v',e=.returned v'/\GR w' w.heap.size (fun b=>S b\/w.heap.size<=b) v' (factsF y)/\Below w.heap.size w w':=by
 obtain⟨h1,h2,h3⟩:=wx_terms hr hm y hy;have e:aboutF y true=factsF y:=by unfold aboutF;rw[if_pos rfl]
 by_cases h2s:srt y.op=2
 ·have:=about_l y v S w d h true h2s (wx_kids h2);rwa [e] at this
 have h0:srt y.op=0:=by
  unfold srt at h2s h3 ⊢;split at h2s
  ·omega
  rename_i q;rw[if_neg q] at h3 ⊢;split at h3
  ·exact absurd rfl h3
  rename_i q2;rw[if_neg q2]
 have:=about_i y v S w d h h0 (wx_kids h2) (fun h5=>wx_num hr hm hy h5);rwa [e] at this
open Classical in
theorem are_s (x:RU) (p:Int) (K:Nat) (w:World) (hx:∀ d,RawF w d x) (ht:TxT w) (hK:bits BinOp.and IntKind.i64 p 255=(K:Int)) (s:Int) (h3:s=0\/s=1\/s=2) (hs:((K:Nat):Int).tmod 3=s) :
  Calls Tryz.prog 5 #[rV x,.int .i64 p] w fun e w'=>e=.returned (.bool true)/\Below w.heap.size w w':=by
 obtain⟨xo,xb,xao,xl,xc,xnm,xko,xkl,xkc⟩:=x;have HX:=Lib.hid (hx 4);have HT:=Lib.hid ht;have H3:=Lib.hid h3;unfold rV;simp only;clear hx ht h3;have HW:=Lib.hid (Below.refl w.heap.size w);go_enter Tryz.func5,Tryz.ntmps5;obtain⟨x1,kf,ef,ekf,hbf,hkf,HBf⟩:=newV w #[.int .i64 xo,.bool xb,.slice xao xl xc,.string xnm,.slice xko xkl xkc] 29;replace HW:=Lib.hid (HW.out.trans (hbf.out.mono HW.out.size));replace HX:=Lib.hid (HX.out.below hbf.out);replace HT:=Lib.hid (HT.out.below hbf.out);go_wp2_with fail;refine (fit11_p x1 HT.out).mono ?_;rintro e x2 ⟨rfl,hb⟩;replace HBf:=kBV hb HBf;replace HW:=Lib.hid (HW.out.trans (hb.mono HW.out.size));replace HX:=Lib.hid (HX.out.below hb);replace HT:=Lib.hid (HT.out.below hb);obtain⟨⟨c0,c1,c2,c3,c4⟩,fc0,fc1,fc2,fc3,fc4⟩:=cells5V HBf.out;go_wp2_with fail
 clear hK hs;refine (tame4s s _ _ _ _ _ _ _ _ _ x2 H3.out HX.out).mono ?_;rintro e x3 ⟨v,t,rfl,hfc,hrt,hsrt,htm,hb⟩;clear c0 fc0 c1 fc1 c2 fc2 c3 fc3 c4 fc4;replace HW:=Lib.hid (HW.out.trans (hb.mono HW.out.size));replace HT:=Lib.hid (HT.out.below hb);obtain⟨b,ao,l,c,po,pl,pc,rfl,⟨hr,hz,hkl,hkc,hkm⟩,-,-⟩:=hfc.open;obtain⟨ty,hty⟩:∃ x,x=t.op:=⟨_,rfl⟩;obtain⟨tn,htn⟩:∃ x,x=t.name:=⟨_,rfl⟩;rw[<-hty,<-htn] at hfc;rw[<-hty,<-htn];have HFC:=Lib.hid (hfc.mono (S':=tS) (fun _ _=>trivial));have HRT:=Lib.hid hrt;have HTM:=Lib.hid htm;clear hfc hrt hsrt htm hr hz hkl hkc hkm hty htn;clear HX;obtain⟨x4,kx,ex,ekx,hbx,hkx,HBx⟩:=newV x3 #[.int .i64 ty,.bool b,.slice ao l c,.string tn,.slice po pl pc] 29;replace HW:=Lib.hid (HW.out.trans (hbx.out.mono HW.out.size))
 replace HT:=Lib.hid (HT.out.below hbx.out);replace HFC:=Lib.hid (HFC.out.below hbx.out);go_upto_region 4 with fail;have HB4:=Lib.hid HW.out;have HTB:Hid (TxB x4.heap.size x4):=Lib.hid ⟨x4,rfl,HT.out,Below.refl _ _⟩;have HTM5:Hid (Tm 5 t):=Lib.hid (HTM.out.up (by decide));obtain⟨⟨d0,d1,d2,d3,d4⟩,-⟩:=cells5V HBx.out;go_wp2_with fail;refine (parts_p 4 t _ (.slice none 0 0) [] (fun _=>True) x4.heap.size x4 (HFC.out.mono (fun b _=>⟨(by intro e;cases e),trivial⟩)) (wx_prt (by decide) HRT.out HTM5.out) (GR.nil _ _ _) (fun y hy=>by cases hy) (by have:=Nat.le_trans (sz_cnt 5 t HTM5.out) cnt_5;simp only[lsn];omega) (Nat.le_refl _) (fun b _=>trivial) HTB.out).mono ?_;rintro e x5 ⟨lv,rfl,g1,g2,g3,-⟩;rw[prP_terms] at g1;clear d0 d1 d2 d3 d4;obtain⟨T1,hT1⟩:∃ z,z=termsF t:=⟨_,rfl⟩
 rw[<-hT1] at g1;have HT1:=Lib.hid hT1;obtain⟨lo,lc,hlv,hl1,hl2,-,-⟩:=g1.form;subst hlv;obtain⟨n1,hn1⟩:∃ n,n=T1.length:=⟨_,rfl⟩;rw[<-hn1] at g1 hl1 ⊢;have HN1:=Lib.hid hn1;have HL1:Hid (n1<=1000):=Lib.hid (by rw[hn1,hT1];exact wx_len HTM5.out);have HR1:=Lib.hid g1;have HBX4:=HBx;replace HBx:=kBV g3 HBx;replace HW:=Lib.hid (HW.out.trans (g3.mono HW.out.size));replace HTB:=Lib.hid (HTB.out.on g3);have HX45:=Lib.hid g3;have HS5:=Lib.hid g3.size;clear g1 g2 g3 hT1 hn1;go_wp2_with fail;go_loopw [7,26] (fun av iv wr=>∃ j:Nat,iv=.int .i64 (j:Nat)/\j<=n1/\Hid (GR wr x5.heap.size (fun b=>(Value.slice lo n1 lc).ownBlock≠some b) av ((T1.take j).flatMap factsF))/\Hid (Below x5.heap.size x5 wr)) (fun _ iv _=>n1 - (intOf iv).toNat)
 case atStart=>exact⟨0,rfl,Nat.zero_le _,Lib.hid (GR.nil _ _ _),Lib.hid (Below.refl _ _)⟩
 case round =>
  obtain⟨j,rfl,hj,HR,HB⟩:=hrel;obtain⟨oo,oc,hov,ho1,ho2,ho3,ho4⟩:=HR.out.form;subst hov;obtain⟨L,hL⟩:∃ L,L=((T1.take j).flatMap factsF).length:=⟨_,rfl⟩;rw[<-hL] at HR ho1 ⊢;have HLN:Hid (L=((T1.take j).flatMap factsF).length/\L<=6000):=Lib.hid ⟨hL,by
   have h1:=flatF_len factsF_len (T1.take j);rw[List.length_take] at h1;have h2:=HL1.out;omega⟩
  have HO4:=Lib.hid ho4;clear hL ho4;by_cases hlt:j<n1
  ·have hjl:j<T1.length:=by rw[<-HN1.out];exact hlt
   obtain⟨p1,u,d6,hp1,hea,hft⟩:=HR1.out.elem j hjl;subst hp1;obtain⟨a,ha,-,c0,c1,c2,c3,c4⟩:=hea.below HB.out;subst ha;obtain⟨Y,hY⟩:∃ y,y=T1[j]:=⟨_,rfl⟩;have HYM:Hid (Y ∈ termsF t):=Lib.hid (by rw[hY,<-HT1.out];exact List.getElem_mem hjl);have HFTK:Hid ((T1.take (j+1)).flatMap factsF=(T1.take j).flatMap factsF++factsF Y):=Lib.hid (by rw[hY];exact flatF_take (f:=factsF) hjl);rw[<-hY] at hft;have HNO:Hid (∀ b,x5.heap.size<=b->(Value.slice (some p1) n1 lc).ownBlock≠some b):=Lib.hid (fun b hb e=>by have:=HR1.out.own_lt e;omega);have HFY:Hid (FC wr (bs (fun b=>(Value.slice (some p1) n1 lc).ownBlock≠some b) (.slice oo L oc)) d6 (fV u) Y):=Lib.hid ⟨u,rfl,(hft.lt.below HB.out).mono fun b hb=>⟨fun e=>by
    cases oo with
    | none=>cases e
    | some q =>
     obtain⟨g2,rfl,h3,h4⟩:=HO4.out q rfl;have e2:some g2=some b:=e;injection e2 with e2;have:=hb.2;omega,hb.1.1⟩⟩
   unfold fV at HFY;obtain⟨bb,hbb⟩:∃ q,q=decide (u.n.z<0):=⟨_,rfl⟩;rw[<-hbb] at c1 HFY;clear hea hft hY hbb;obtain⟨x7,k9,e9,ek9,hb9,hk9,HB9⟩:=newV wr #[.int .i64 u.k,.bool bb,.slice u.n.o u.n.l u.n.c,.string u.nm,.slice u.ko u.kl u.kc] 29;replace HR:=Lib.hid (HR.out.below hb9.out);replace HB:=Lib.hid (HB.out.trans (hb9.out.mono HB.out.size));obtain⟨⟨q0,q1,q2,q3,q4⟩,fq0,fq1,fq2,fq3,fq4⟩:=cells5V HB9.out;go_wp2_with fail;refine (wx_about HRT.out HTM5.out HYM.out _ _ x7 d6 (HFY.out.below hb9.out)).mono ?_;rintro e x8 ⟨v8,rfl,g1,hb⟩;clear c0 c1 c2 c3 c4 q0 q1 q2 q3 q4 fq0 fq1 fq2 fq3 fq4;obtain⟨fo_,fc,hfv,-,hf2,-,-⟩:=g1.form
   have HFG:Hid (FGl x8 (bs (fun b=>(Value.slice (some p1) n1 lc).ownBlock≠some b) (.slice oo L oc)) v8 (factsF Y)):=Lib.hid ((g1.fg (fun b hb=>.inr hb)).mono fun b _ hb=>hb.elim id fun h=>⟨fun e=>by
    have:=HR.out.own_lt e;omega,HNO.out b (Nat.le_trans HB.out.size h)⟩)
   subst hfv;have HFL6:=Lib.hid (factsF_len Y);replace HR:=Lib.hid (HR.out.below hb);replace HB:=Lib.hid (HB.out.trans (hb.mono HB.out.size));clear g1 hb;go_wp2_with (at_builtin;refine GR.append HR.out rfl (.tmp 30) (.tmp 32) rfl rfl rfl HFG.out (by have h1:=HLN.out;have h2:=HFL6.out;omega) HB.out.size ?_;intro v9 w9 a1 a2 a3);go_roundw
   case rel=>exact⟨j+1,by go_num,hlt,Lib.hid (by rw[HFTK.out];exact a1),Lib.hid (HB.out.trans a3)⟩
   case measure=>simp[intOf];omega
  have ej:j=n1:=by omega
  have HTE:Hid ((T1.take j).flatMap factsF=of1F t):=Lib.hid (by rw[ej,HN1.out,List.take_length,HT1.out];rfl);rw[HTE.out] at HR HLN;clear ej;obtain⟨W1,hW1⟩:∃ z,z=of1F t:=⟨_,rfl⟩;rw[<-hW1] at HR HLN;have HW1:=Lib.hid hW1;have HLW:Hid (L=W1.length):=Lib.hid HLN.out.1;have HM:Hid (GR wr x4.heap.size (fun b=>(Value.slice oo L oc).ownBlock≠some b) (.slice lo n1 lc) T1):=Lib.hid (by
   obtain⟨us,k1,k2⟩:=HR1.out;refine⟨us,k1.below HB.out,k2.map fun d u q hq=>(hq.lt.below HB.out).mono fun b hb=>⟨hb.1.1,fun e=>?_⟩⟩;cases oo with
   | none=>cases e
   | some q =>
    obtain⟨g2,rfl,h3,h4⟩:=HO4.out q rfl;have e2:some g2=some b:=e;injection e2 with e2;have:=hb.2;omega)
  have HX56:=Lib.hid HB.out.size;have HX46:=Lib.hid (HX45.out.trans (HB.out.mono HS5.out));have HTBW:Hid (TxB x4.heap.size wr):=Lib.hid (HTB.out.on (HB.out.mono HS5.out));have HB46:Hid (x4.heap.size<=wr.heap.size):=Lib.hid (Nat.le_trans HS5.out HB.out.size);replace HBx:=kBV HB.out HBx;replace HW:=Lib.hid (HW.out.trans (HB.out.mono HW.out.size));have HWG:Hid (∀ y ∈ W1,rt y=true/\Tm 9 y):=Lib.hid (by rw[hW1];exact wx_want HRT.out HTM5.out);have HOWN:Hid (∀ g,oo=some g->(Value.slice lo n1 lc).ownBlock≠some g.block/\g.block<wr.heap.size):=Lib.hid (fun g hg=>by
   obtain⟨g2,rfl,h3,h4⟩:=HO4.out g hg;exact⟨fun e=>by have:=HR1.out.own_lt e;simp at this;omega,h4⟩)
  have HSZW:Hid (T1.length<=1000/\szsF W1<=80000):=Lib.hid ⟨by rw[<-HN1.out];exact HL1.out,by rw[hW1];exact wx_size4 HRT.out HTM.out⟩;have HGT1:Hid (∀ y ∈ T1,rt y=true/\Tm 9 y):=Lib.hid (fun y hy=>by rw[HT1.out] at hy;obtain⟨a1,a2,-⟩:=wx_terms HRT.out HTM5.out y hy;exact⟨a1,a2.up (by decide)⟩);obtain⟨x6,hx6⟩:∃ z,z=wr:=⟨_,rfl⟩;rw[<-hx6] at HR HM HTBW HB46 HBx HW HOWN HX46 HX56 ⊢;clear hW1 HTE hx6 HB HO4;go_wp2_with fail;clear hj hlt
  go_loopw [10,38] (fun av iv wr=>∃ j:Nat,iv=.int .i64 (j:Nat)/\j<=L/\Hid (GR wr x4.heap.size (fun b=>(Value.slice oo L oc).ownBlock≠some b) av (prPs T1 (W1.take j)))/\Hid (Turn x6 (.slice lo n1 lc) wr av)/\Hid (Below x4.heap.size x6 wr)/\Hid (∀ ov os,Pre x6 x4.heap.size (fun b=>(Value.slice oo L oc).ownBlock≠some b) ov os (.slice lo n1 lc)->Pre wr x4.heap.size (fun b=>(Value.slice oo L oc).ownBlock≠some b) ov os av)) (fun _ iv _=>L - (intOf iv).toNat)
  case atStart=>exact⟨0,rfl,Nat.zero_le _,Lib.hid (by rw[List.take_zero,prPs];exact HM.out),Lib.hid (Turn.of_below _ (Below.refl _ _)),Lib.hid (Below.refl _ _),Lib.hid (fun _ _ h=>h)⟩
  case round =>
   obtain⟨j,rfl,hj,GRJ,TNJ,WJ,PRJ⟩:=hrel;by_cases hlt:j<L
   ·have hjl:j<W1.length:=by rw[<-HLW.out];exact hlt
    obtain⟨p1,u,d6,hp1,hea,hft⟩:=HR.out.elem j hjl;have HOW:=Lib.hid (HOWN.out p1 hp1);subst hp1;obtain⟨a,ha,-,c0,c1,c2,c3,c4⟩:=hea.keep (w':=wr) (fun b e=>TNJ.out.1.block b (by rw[e,add_blockV];exact HOW.out.2) (fun e2=>HOW.out.1 (by rw[<-e2,e,add_blockV]))) TNJ.out.1.size;subst ha;obtain⟨Y,hY⟩:∃ y,y=W1[j]:=⟨_,rfl⟩;have HYM:=Lib.hid (HWG.out Y (by rw[hY];exact List.getElem_mem hjl));have HTK:Hid (prPs T1 (W1.take (j+1))=prP (prPs T1 (W1.take j)) Y):=Lib.hid (by rw[hY];exact prPs_take hjl);have HGM:Hid (∀ y ∈ prPs T1 (W1.take j),rt y=true/\Tm 9 y):=Lib.hid (fun y hy=>by
     rcases prPs_mem _ _ y hy with h | h
     ·exact HGT1.out y h
     obtain⟨k,hk,h2⟩:=prts_mem.1 h;obtain⟨h3,h4⟩:=HWG.out k (List.mem_of_mem_take hk);exact wx_prt (Nat.le_refl 9) h3 h4 y h2)
    have HSJ:Hid ((prPs T1 (W1.take j)).length+szF Y<=900000):=Lib.hid (by
     have h1:=prPs_len (W1.take j) T1;have h2:=szs_take hjl;have h3:=HSZW.out;rw[hY];omega)
    rw[<-hY] at hft;have HFY:Hid (FC wr (bs (fun b=>(Value.slice (some p1) L oc).ownBlock≠some b) _) 9 (fV u) Y):=Lib.hid (FC.tight ⟨u,rfl,FT.turn (hft.mono fun b hb=>⟨hb.2,hb.1⟩) TNJ.out⟩ HYM.out.2.g);unfold fV at HFY;obtain⟨bb,hbb⟩:∃ q,q=decide (u.n.z<0):=⟨_,rfl⟩;rw[<-hbb] at c1 HFY;clear hea hft hY hbb;obtain⟨x9,k9,e9,ek9,hb9,hk9,HB9⟩:=newV wr #[.int .i64 u.k,.bool bb,.slice u.n.o u.n.l u.n.c,.string u.nm,.slice u.ko u.kl u.kc] 29;obtain⟨⟨q0,q1,q2,q3,q4⟩,fq0,fq1,fq2,fq3,fq4⟩:=cells5V HB9.out;go_wp2_with fail
    refine (parts_p 9 Y _ _ _ _ x4.heap.size x9 (HFY.out.below hb9.out) (wx_prt (Nat.le_refl 9) HYM.out.1 HYM.out.2) (GRJ.out.below hb9.out) HGM.out HSJ.out (Nat.le_trans HB46.out (Nat.le_trans TNJ.out.1.size hb9.out.size)) (fun b hb e=>by have h1:=HR.out.own_lt e;have h2:=TNJ.out.1.size;have h3:=hb9.out.size;omega) ((HTBW.out.on WJ.out).on (hb9.out.mono (Nat.le_trans HB46.out TNJ.out.1.size)))).mono ?_;rintro e w8 ⟨lv2,rfl,g1,g2,g3,g4⟩;go_wp2_with fail;go_roundw
    case rel=>exact⟨j+1,by go_num,hlt,Lib.hid (by rw[HTK.out];exact g1),Lib.hid ((TNJ.out.trans (Turn.of_below _ hb9.out)).trans g2),Lib.hid ((WJ.out.trans (hb9.out.mono (Nat.le_trans HB46.out TNJ.out.1.size))).trans g3),Lib.hid (fun ov os h=>g4 ov os ((PRJ.out ov os h).below hb9.out))⟩
    case measure=>simp[intOf];omega
   have hjL:j=L:=by omega
   have hta:W1.take j=W1:=List.take_of_length_le (by rw[hjL,HLW.out];exact Nat.le_refl _);rw[hta] at GRJ;obtain⟨N,hN⟩:∃ N,prPs T1 W1=T1++N:=by
    obtain⟨m,hm⟩:=viss_ext (vis [] t) (of1F t);refine⟨m.filter nb,?_⟩;rw[HT1.out,HW1.out,prP_more,hm,List.filter_append];rfl
   have HOF:Hid (ofF t=W1++(N.filter (fun t=>decide (srt t.op=2))).flatMap lensF):=Lib.hid (by
    have h1:=of_parts t;rw[<-HT1.out,<-HW1.out,hN,List.drop_left] at h1;rw[h1,HW1.out,HT1.out];rfl)
   have HMG:Hid (∀ y ∈ T1++N,rt y=true/\Tm 9 y):=Lib.hid (fun y hy=>by rw[<-hN,HT1.out,HW1.out] at hy;exact wx_more HRT.out HTM5.out y hy);rw[hN] at GRJ;obtain⟨mo,mc,hmv,hm1,hm2,hm3,-⟩:=GRJ.out.form;subst hmv;obtain⟨m,hm⟩:∃ q,q=(T1++N).length:=⟨_,rfl⟩;rw[<-hm] at GRJ hm1 TNJ PRJ ⊢;have HMN:Hid (m=n1+N.length):=Lib.hid (by rw[hm,lsa,<-HN1.out]);have HML:Hid (m<=81000):=Lib.hid (by have h1:=prPs_len W1 T1;have h2:=HSZW.out;rw[hm,<-hN];omega);have hmn:n1<=m:=by rw[HMN.out];omega
   clear hta hjL hm hN;obtain⟨x7,hx7⟩:∃ z,z=wr:=⟨_,rfl⟩;rw[<-hx7] at GRJ TNJ WJ PRJ ⊢;clear hx7;have HX47:=Lib.hid (HX46.out.trans WJ.out);have HX57:Hid (x5.heap.size<=x7.heap.size):=Lib.hid (Nat.le_trans HX56.out TNJ.out.1.size);have HTB7:=Lib.hid (HTBW.out.on WJ.out);have HWV:Hid (∀ g,(Value.slice oo L oc).ownBlock=some g->g<x6.heap.size/\(Value.slice lo n1 lc).ownBlock≠some g):=Lib.hid (fun g hg=>by
    cases oo with
    | none=>cases hg
    | some q =>
     have h1:=HOWN.out q rfl;have e2:some q.block=some g:=hg;injection e2 with e2;rw[<-e2];exact⟨h1.2,h1.1⟩)
   have HWR:Hid (GR x7 x5.heap.size (fun _=>True) (.slice oo L oc) W1):=Lib.hid (HR.out.grownR TNJ.out.1 TNJ.out.2.1 (fun b hb e=>hb e) (fun g hg e=>(HWV.out g hg).2 e) (fun _ _=>trivial));have HTL:Hid (∃ d,FL x7 (fun b=>(Value.slice oo L oc).ownBlock≠some b) d (.slice lo n1 lc) T1):=Lib.hid ((PRJ.out _ _ (Pre.refl HM.out)).flP (fun g hg e=>(HWV.out g e).2 hg));have HMO:Hid (∀ g,(Value.slice mo m mc).ownBlock=some g->(Value.slice oo L oc).ownBlock≠some g/\g<x7.heap.size):=Lib.hid (fun g hg=>⟨fun e=>by
    rcases TNJ.out.2.2 g hg with h1 | h1
    ·exact (HWV.out g e).2 h1
    ·have:=(HWV.out g e).1;omega,GRJ.out.own_lt hg⟩)
   by_cases hmc:mc=n1
   ·have hm0:m - n1=0:=by omega
    have HM0:=Lib.hid hm0;clear hm0;go_upto_region 18 with fail;clear hmc;go_loopw [7,51] (fun av iv wr=>∃ j:Nat,iv=.int .i64 (j:Nat)/\j<=m - n1/\Hid (GR wr x5.heap.size (fun _=>True) av (W1++((N.take j).filter (fun t=>decide (srt t.op=2))).flatMap lensF))/\Hid (Turn x7 (.slice oo L oc) wr av)/\Hid (Below x4.heap.size x7 wr)) (fun _ iv _=>m - n1 - (intOf iv).toNat)
    case atStart=>exact⟨0,rfl,Nat.zero_le _,Lib.hid (by simpa using HWR.out),Lib.hid (Turn.of_below _ (Below.refl _ _)),Lib.hid (Below.refl _ _)⟩
    case round =>
     obtain⟨j,rfl,hj,GRW,TNW,WW⟩:=hrel;by_cases hlt:j<m - n1
     ·exact absurd hlt (by have:=HM0.out;omega)
     have hjN:N.take j=N:=List.take_of_length_le (by have h1:=HMN.out;omega);have HGF:Hid (GR wr x5.heap.size (fun _=>True) _ (ofF t)):=Lib.hid (by have h1:=GRW.out;rw[hjN] at h1;rw[HOF.out];exact h1);clear hjN GRW;obtain⟨ko9,kc9,hav,hk1,hk2,-,-⟩:=HGF.out.form;subst hav;have HB4W:=Lib.hid (HX47.out.trans WW.out);have HTBE:=Lib.hid (HTB7.out.on WW.out);have HBXE:=kBV HB4W.out HBX4;have HFCE:=Lib.hid (HFC.out.below HB4W.out);have HWE:=Lib.hid (HB4.out.trans (HB4W.out.mono HB4.out.size));have HSZ5:Hid (szF t<=1000):=Lib.hid (Nat.le_trans (sz_cnt 5 t HTM5.out) cnt_5);obtain⟨⟨d0,d1,d2,d3,d4⟩,fd0,fd1,fd2,fd3,fd4⟩:=cells5V HBXE.out;go_wp2_with fail;refine (terms_p 4 _ t wr HFCE.out (by decide) HRT.out HTM.out.g HSZ5.out HTBE.out.txt).mono ?_;rintro e y1 ⟨v1,rfl,hfl,hb⟩
     clear d0 d1 d2 d3 d4 fd0 fd1 fd2 fd3 fd4;obtain⟨dT,hTL⟩:=HTL.out;have HTLW:Hid (FL y1 tS dT (.slice lo n1 lc) T1):=Lib.hid (((FL.turn (hTL.mono fun b hb=>⟨hb,trivial⟩) TNW.out).mono (fun _ _=>trivial)).below hb);obtain⟨vo,vc,hv1,-,hvc,-⟩:=hfl.form;subst hv1;have HT1E:Hid (decide (termsF t=T1)=true):=Lib.hid (decide_eq_true HT1.out.symm);have HFLT:=Lib.hid hfl;replace HBXE:=kBV hb HBXE;replace HFCE:=Lib.hid (HFCE.out.below hb);replace HWE:=Lib.hid (HWE.out.trans (hb.mono HWE.out.size));replace HTBE:=Lib.hid (HTBE.out.on (hb.mono HB4W.out.size));have HS4E:=Lib.hid (Nat.le_trans HB4W.out.size hb.size);replace HGF:=Lib.hid (HGF.out.below hb);clear hfl hb hTL HTL;go_wp2_with fail
     refine (texts_p _ _ _ _ tS 9 dT y1 HFLT.out HTLW.out (fun y hy=>by obtain⟨a1,a2,-⟩:=wx_terms HRT.out HTM5.out y hy;exact⟨a1,a2.up (by decide)⟩) HGT1.out HTBE.out.txt).mono ?_;rintro e y2 ⟨rfl,hb⟩;rw[HT1E.out];replace HBXE:=kBV hb HBXE;replace HFCE:=Lib.hid (HFCE.out.below hb);replace HWE:=Lib.hid (HWE.out.trans (hb.mono HWE.out.size));replace HTBE:=Lib.hid (HTBE.out.on (hb.mono HS4E.out));replace HS4E:=Lib.hid (Nat.le_trans HS4E.out hb.size);replace HGF:=Lib.hid (HGF.out.below hb);clear hb;obtain⟨⟨d0,d1,d2,d3,d4⟩,fd0,fd1,fd2,fd3,fd4⟩:=cells5V HBXE.out;go_wp2_with fail;refine (ofAll_p 4 _ t y2 HFCE.out (by decide) HRT.out HTM.out.g HSZ5.out (of_gd HRT.out HTM5.out) HTBE.out.txt).mono ?_;rintro e y3 ⟨v3,rfl,hfl,hb⟩;clear d0 d1 d2 d3 d4 fd0 fd1 fd2 fd3 fd4
     obtain⟨wo,wc,hv3,-,hwc,-⟩:=hfl.form;subst hv3;have HFLO:=Lib.hid hfl;obtain⟨dw,hgw⟩:=(HGF.out.below hb).fgS.fl;have HGW:=Lib.hid hgw;have HGO:Hid (∀ y ∈ ofF t,rt y=true/\Tm 9 y):=Lib.hid (fun y hy=>by obtain⟨h1,h2⟩:=of_all HRT.out HTM5.out (fun _=>.I 0) y hy;exact⟨h1.1,h2.2⟩);replace HWE:=Lib.hid (HWE.out.trans (hb.mono HWE.out.size));replace HTBE:=Lib.hid (HTBE.out.on (hb.mono HS4E.out));clear hfl hb hgw;go_wp2_with fail;refine (texts_p _ _ _ _ tS 9 dw y3 HFLO.out HGW.out HGO.out HGO.out HTBE.out.txt).mono ?_;rintro e y4 ⟨rfl,hb⟩;rw[show decide (ofF t=ofF t)=true from decide_eq_true rfl];go_wp2_with fail;go_ret;exact⟨rfl,HWE.out.trans (hb.mono HWE.out.size)⟩
   have hmcl:n1<mc:=by omega
   obtain⟨pm,hpm⟩:∃ p,mo=some p:=by
    cases mo with
    | none=>have:=hm3 rfl;omega
    | some p=>exact⟨p,rfl⟩
   subst hpm;have hnc:¬ mc=n1:=hmc;clear hmc;go_upto_region 18 with fail;go_loopw [7,51] (fun av iv wr=>∃ j:Nat,iv=.int .i64 (j:Nat)/\j<=m - n1/\Hid (GR wr x5.heap.size (fun _=>True) av (W1++((N.take j).filter (fun t=>decide (srt t.op=2))).flatMap lensF))/\Hid (Turn x7 (.slice oo L oc) wr av)/\Hid (Below x4.heap.size x7 wr)) (fun _ iv _=>m - n1 - (intOf iv).toNat)
   case atStart=>exact⟨0,rfl,Nat.zero_le _,Lib.hid (by simpa using HWR.out),Lib.hid (Turn.of_below _ (Below.refl _ _)),Lib.hid (Below.refl _ _)⟩
   case round =>
    obtain⟨j,rfl,hj,GRW,TNW,WW⟩:=hrel;by_cases hlt:j<m - n1
    ·have hjN:j<N.length:=by have h1:=HMN.out;omega
     have hqm:n1+j<(T1++N).length:=by rw[lsa,<-HN1.out];omega
     obtain⟨p3,u,d6,hp3,hea,hft⟩:=GRJ.out.elem (n1+j) hqm;injection hp3 with hp3;subst hp3;have hgn:(T1++N)[n1+j]=N[j]:=by rw[List.getElem_append_right (by rw[<-HN1.out];omega)];congr 1;rw[<-HN1.out];omega
     rw[hgn] at hft;obtain⟨Y,hY⟩:∃ y,y=N[j]:=⟨_,rfl⟩;rw[<-hY] at hft;have HYM:=Lib.hid (HMG.out Y (by rw[hY];exact List.mem_append_right _ (List.getElem_mem hjN)));have hfk:=filterT_take (f:=lensF) hjN;rw[<-hY] at hfk;have HFK:=Lib.hid hfk;obtain⟨a,ha,-,c0,c1,c2,c3,c4⟩:=hea.keep (w':=wr) (fun b e=>TNW.out.1.block b (by have:=(HMO.out pm.block rfl).2;rw[e,add_blockV];exact this) (fun e2=>(HMO.out pm.block rfl).1 (by rw[<-e2,e,add_blockV]))) TNW.out.1.size;rw[Nat.add_mul,<-add_addV] at ha;subst ha;have HFY:Hid (FC wr (bs (fun _=>True) _) d6 (fV u) Y):=Lib.hid ⟨u,rfl,FT.turn (hft.mono fun b hb=>⟨hb.2,trivial⟩) TNW.out⟩;unfold fV at HFY;have HUK:Hid (u.k=Y.op):=Lib.hid (by cases d6 with | zero=>exact absurd hft id | succ d=>exact hft.1.1)
     obtain⟨bb,hbb⟩:∃ q,q=decide (u.n.z<0):=⟨_,rfl⟩;rw[<-hbb] at c1 HFY;rw[HUK.out] at c0 HFY;obtain⟨oo3,oc3,hov3,ho31,ho32,-,-⟩:=GRW.out.form;subst hov3;obtain⟨L3,hL3⟩:∃ q,q=(W1++((N.take j).filter (fun t=>decide (srt t.op=2))).flatMap lensF).length:=⟨_,rfl⟩;rw[<-hL3] at GRW TNW HFY ho31 ⊢;have HL3:Hid ((W1++((N.take j).filter (fun t=>decide (srt t.op=2))).flatMap lensF).length<=500000):=Lib.hid (by
      have h1:=flatF_len lensF_len ((N.take j).filter (fun t=>decide (srt t.op=2)));have h2:=List.length_filter_le (fun t:F=>decide (srt t.op=2)) (N.take j);rw[List.length_take] at h2;have h3:=HML.out;have h4:=HMN.out;have h5:=HLN.out;have h6:=HLW.out;rw[lsa];omega)
     clear hea hft hY hbb hgn hqm hfk hL3;obtain⟨x9,k9,e9,ek9,hb9,hk9,HB9⟩:=newV wr #[.int .i64 Y.op,.bool bb,.slice u.n.o u.n.l u.n.c,.string u.nm,.slice u.ko u.kl u.kc] 29;obtain⟨⟨q0,q1,q2,q3,q4⟩,fq0,fq1,fq2,fq3,fq4⟩:=cells5V HB9.out;go_wp2_with fail;refine (sort_p _ _ _ _ _ _ _ _ _ x9).mono ?_;rintro e x10 ⟨rfl,hb⟩;clear c0 c1 c2 c3 c4 q0 q1 q2 q3 q4 fq0 fq1 fq2 fq3 fq4;have hbb2:Below wr.heap.size wr x10:=hb9.out.trans (hb.mono hb9.out.size);replace HB9:=kBV hb HB9;replace HFY:=Lib.hid (HFY.out.below hbb2);have hs47:=HX47.out.size;replace GRW:=Lib.hid (GRW.out.below hbb2);replace WW:=Lib.hid (WW.out.trans (hbb2.mono (Nat.le_trans hs47 TNW.out.1.size)));replace TNW:=Lib.hid (TNW.out.trans (Turn.of_below _ hbb2));clear hb hbb2;by_cases hs2:srt Y.op=2
     ·have e1:(srt Y.op==2)=true:=beq_iff_eq.2 hs2;have HS2:=Lib.hid hs2;rw[if_pos hs2] at HFK;clear hs2;obtain⟨⟨q0,q1,q2,q3,q4⟩,fq0,fq1,fq2,fq3,fq4⟩:=cells5V HB9.out;go_wp2_with fail;refine (about_l Y _ _ x10 d6 HFY.out false HS2.out (wx_kids HYM.out.2)).mono ?_;rintro e x11 ⟨v8,rfl,g1,hb⟩;clear q0 q1 q2 q3 q4 fq0 fq1 fq2 fq3 fq4 e1;rw[show aboutF Y false=lensF Y by unfold aboutF;rw[if_neg Bool.false_ne_true,if_pos HS2.out]] at g1;obtain⟨fo_,fc,hfv,-,hf2,-,-⟩:=g1.form;have HFG:Hid (FGl x11 (bs (fun _=>True) (.slice oo3 L3 oc3)) v8 (lensF Y)):=Lib.hid ((g1.fg (fun b hb=>.inr hb)).mono fun b _ hb=>hb.elim id fun h=>⟨fun e=>by
       have:=GRW.out.own_lt e;omega,trivial⟩)
      subst hfv;have HFL6:=Lib.hid (lensF_len Y);replace GRW:=Lib.hid (GRW.out.below hb);replace WW:=Lib.hid (WW.out.trans (hb.mono (Nat.le_trans hs47 TNW.out.1.size)));replace TNW:=Lib.hid (TNW.out.trans (Turn.of_below _ hb));have HS57:Hid (x5.heap.size<=x11.heap.size/\x4.heap.size<=x5.heap.size):=Lib.hid ⟨Nat.le_trans HX57.out TNW.out.1.size,HS5.out⟩;clear g1 hb;go_wp2_with (at_builtin;refine GR.append GRW.out rfl (.tmp 58) (.tmp 60) rfl rfl rfl HFG.out (by have h1:=HL3.out;have h2:=HFL6.out;omega) HS57.out.1 ?_;intro v9 w9 a1 a2 a3);go_roundw
      case rel=>exact⟨j+1,by go_num,hlt,Lib.hid (by rw[HFK.out,<-List.append_assoc];exact a1),Lib.hid (TNW.out.trans a2),Lib.hid (WW.out.trans (a3.mono HS57.out.2))⟩
      case measure=>simp[intOf];omega
     have e1:(srt Y.op==2)=false:=beq_eq_false_iff_ne.2 hs2;rw[if_neg hs2,List.append_nil] at HFK;clear hs2;go_wp2_with fail;go_roundw
     case rel=>exact⟨j+1,by go_num,hlt,Lib.hid (by rw[HFK.out];exact GRW.out),TNW,WW⟩
     case measure=>simp[intOf];omega
    have hjN:N.take j=N:=List.take_of_length_le (by have h1:=HMN.out;omega);have HGF:Hid (GR wr x5.heap.size (fun _=>True) _ (ofF t)):=Lib.hid (by have h1:=GRW.out;rw[hjN] at h1;rw[HOF.out];exact h1);clear hjN GRW;obtain⟨ko9,kc9,hav,hk1,hk2,-,-⟩:=HGF.out.form;subst hav;have HB4W:=Lib.hid (HX47.out.trans WW.out);have HTBE:=Lib.hid (HTB7.out.on WW.out);have HBXE:=kBV HB4W.out HBX4;have HFCE:=Lib.hid (HFC.out.below HB4W.out);have HWE:=Lib.hid (HB4.out.trans (HB4W.out.mono HB4.out.size));have HSZ5:Hid (szF t<=1000):=Lib.hid (Nat.le_trans (sz_cnt 5 t HTM5.out) cnt_5);obtain⟨⟨d0,d1,d2,d3,d4⟩,fd0,fd1,fd2,fd3,fd4⟩:=cells5V HBXE.out;go_wp2_with fail;refine (terms_p 4 _ t wr HFCE.out (by decide) HRT.out HTM.out.g HSZ5.out HTBE.out.txt).mono ?_;rintro e y1 ⟨v1,rfl,hfl,hb⟩
    clear d0 d1 d2 d3 d4 fd0 fd1 fd2 fd3 fd4;obtain⟨dT,hTL⟩:=HTL.out;have HTLW:Hid (FL y1 tS dT (.slice lo n1 lc) T1):=Lib.hid (((FL.turn (hTL.mono fun b hb=>⟨hb,trivial⟩) TNW.out).mono (fun _ _=>trivial)).below hb);obtain⟨vo,vc,hv1,-,hvc,-⟩:=hfl.form;subst hv1;have HT1E:Hid (decide (termsF t=T1)=true):=Lib.hid (decide_eq_true HT1.out.symm);have HFLT:=Lib.hid hfl;replace HBXE:=kBV hb HBXE;replace HFCE:=Lib.hid (HFCE.out.below hb);replace HWE:=Lib.hid (HWE.out.trans (hb.mono HWE.out.size));replace HTBE:=Lib.hid (HTBE.out.on (hb.mono HB4W.out.size));have HS4E:=Lib.hid (Nat.le_trans HB4W.out.size hb.size);replace HGF:=Lib.hid (HGF.out.below hb);clear hfl hb hTL HTL;go_wp2_with fail
    refine (texts_p _ _ _ _ tS 9 dT y1 HFLT.out HTLW.out (fun y hy=>by obtain⟨a1,a2,-⟩:=wx_terms HRT.out HTM5.out y hy;exact⟨a1,a2.up (by decide)⟩) HGT1.out HTBE.out.txt).mono ?_;rintro e y2 ⟨rfl,hb⟩;rw[HT1E.out];replace HBXE:=kBV hb HBXE;replace HFCE:=Lib.hid (HFCE.out.below hb);replace HWE:=Lib.hid (HWE.out.trans (hb.mono HWE.out.size));replace HTBE:=Lib.hid (HTBE.out.on (hb.mono HS4E.out));replace HS4E:=Lib.hid (Nat.le_trans HS4E.out hb.size);replace HGF:=Lib.hid (HGF.out.below hb);clear hb;obtain⟨⟨d0,d1,d2,d3,d4⟩,fd0,fd1,fd2,fd3,fd4⟩:=cells5V HBXE.out;go_wp2_with fail;refine (ofAll_p 4 _ t y2 HFCE.out (by decide) HRT.out HTM.out.g HSZ5.out (of_gd HRT.out HTM5.out) HTBE.out.txt).mono ?_;rintro e y3 ⟨v3,rfl,hfl,hb⟩;clear d0 d1 d2 d3 d4 fd0 fd1 fd2 fd3 fd4
    obtain⟨wo,wc,hv3,-,hwc,-⟩:=hfl.form;subst hv3;have HFLO:=Lib.hid hfl;obtain⟨dw,hgw⟩:=(HGF.out.below hb).fgS.fl;have HGW:=Lib.hid hgw;have HGO:Hid (∀ y ∈ ofF t,rt y=true/\Tm 9 y):=Lib.hid (fun y hy=>by obtain⟨h1,h2⟩:=of_all HRT.out HTM5.out (fun _=>.I 0) y hy;exact⟨h1.1,h2.2⟩);replace HWE:=Lib.hid (HWE.out.trans (hb.mono HWE.out.size));replace HTBE:=Lib.hid (HTBE.out.on (hb.mono HS4E.out));clear hfl hb hgw;go_wp2_with fail;refine (texts_p _ _ _ _ tS 9 dw y3 HFLO.out HGW.out HGO.out HGO.out HTBE.out.txt).mono ?_;rintro e y4 ⟨rfl,hb⟩;rw[show decide (ofF t=ofF t)=true from decide_eq_true rfl];go_wp2_with fail;go_ret;exact⟨rfl,HWE.out.trans (hb.mono HWE.out.size)⟩
theorem factsAre_walk (x:RU) (p:Int) (w:World) (hx:∀ d,RawF w d x) (hp1 : -9223372036854775808<=p) (hp2:p<=9223372036854775807) (ht:TxT w) :
  Calls Tryz.prog 5 #[rV x,.int .i64 p] w fun e w'=>e=.returned (.bool true)/\Below w.heap.size w w':=by
 obtain⟨K,hK,-⟩:=and_255 p;exact are_s x p K w hx ht hK _ (tmod_cases K).1 rfl
end Go.Proofs.YtoncclhbdkjhmaaGreatDoor
namespace Go.Proofs.YtoncclhbdkjhmaaGreatDoor
open Go.ChangeShapes Go.WideShapes Go.ChangeAt Go.RowKit
set_option maxRecDepth 100000
theorem own:ownKnob Tryz.prog.godebug=none:=by kernel_rfl
theorem laidOut:laidOutB Tryz.prog=true:=by kernel_rfl
theorem sl_of_ints {w:World} {a:Addr} {len cap:Nat} {zs:List Int} (hl:len<=cap) (hm:cap<=maxLen) (hz:len<=zs.length)
  (hcell:∀ i,i<zs.length->w.cell? (a.add i)=some (.int .u32 (zs.getD i 0))) (hwf:∀ n ∈ zs,(Lit.int .u32 n).wf=true) :
  ∃ xs,Sl w .u32 (.slice (some a) len cap) xs/\Dig 4294967296 xs:=by
 have hb:∀ n ∈ zs,0<=n/\n<4294967296:=fun n hn=>by
  have:=hwf n hn;simp[Lit.wf,IntKind.min,IntKind.max,IntKind.bits,IntKind.signed] at this;omega
 refine⟨(zs.take len).map Int.toNat,⟨some a,cap,?_,?_,by unfold maxLen at hm;omega,(fun e=>by cases e),fun i hi=>⟨a,rfl,?_⟩⟩,?_⟩
 ·rw[List.length_map,List.length_take,Nat.min_eq_left hz]
 ·rw[List.length_map,List.length_take,Nat.min_eq_left hz];exact hl
 ·rw[List.length_map,List.length_take,Nat.min_eq_left hz] at hi;have hi':i<zs.length:=by omega
  rw[hcell i hi'];have:=hb zs[i] (List.getElem_mem hi');unfold nth;simp[List.getD,hi,hi'];omega
 intro x hx;obtain⟨n,hn,rfl⟩:=List.mem_map.1 hx;have:=hb n (List.mem_of_mem_take hn);omega
theorem laid_met (os:Os) (args:Array Value):laidMet Tryz.prog Rows.factsHoldRow.laid ((World.laidAll Tryz.prog os Rows.factsHoldRow.laid).forCall (fun _ _=>0) ⟨#[],args,[]⟩).memory:=
 laidMet_laidAll _ (by kernel_rfl) (by kernel_rfl)
theorem gPow : (Tryz.prog.globalNamed "internal/strconv.uint64pow10").bind (fun g => (Tryz.prog.globals[g]?).map fun x => (Tryz.prog.underlying x.type, Tryz.prog.cellsOf x.type)) = some (some (.array 20 130), 20) := by kernel_rfl
theorem cellsU64:Tryz.prog.cellsOf 130=1:=by kernel_rfl
theorem powData:(Rows.laid_internal_strconv_uint64pow10:DataW Unit)=Lib.tabData .u64 Lib.pow10Tab:=rfl
theorem table {W : World} (h : laidMetH Tryz.prog Rows.factsHoldRow.laid W) : Lib.TabIs Tryz.prog W "internal/strconv.uint64pow10" .u64 Lib.pow10Tab := by
 have h':laidMet Tryz.prog Rows.factsHoldRow.laid W:=h;obtain⟨_,⟨_,_,_,_,_,_,_,_,_,_,⟨_,_,_,_,_,_,_,_,_,_,⟨g,t,cs,fuel,p,q,hg,ht,hvar,hd,_,_⟩,_⟩,_⟩,_⟩:=h';have e:=gPow;rw[hg,Option.bind_some] at e;obtain⟨x,hx,ex⟩:=Option.map_eq_some_iff.1 e;rw[hx,Option.map_some] at ht;injection ht with ht;injection ex with e1 e2;rw[ht] at e1 e2;unfold Lib.TabIs;rw[hvar,<-Lib.cells_of_tab e1 Tryz.underlying130 cellsU64 e2 (powData ▸ hd)]
set_option linter.unusedVariables false
theorem cells_of_strs {H:Type} {enc:TypeId × Value->H} {P:Program} {w:World} {base:Nat} {sp:Nat->Bool} {held:Bool} {fuel:Nat} {t e:TypeId} {n:Nat} {cs:List Value} {ss:List Bs} {p:List MemPlace}
  (ht:P.underlying t=some (.array n e)) (he:P.underlying e=some .string) (hce:P.cellsOf e=1) (hct:P.cellsOf t=n)
  (h:DataW.trod enc P w base sp held fuel t cs=some (.agg (ss.map fun s=>.lit (.string s)),p)):cs=ss.map fun s=>Value.string ⟨s.toArray⟩:=by
 cases fuel with
 | zero=>simp[DataW.trod] at h
 | succ fuel =>
  simp only[DataW.trod,ht,hce,hct,Nat.mul_one] at h;split at h
  ·rename_i hl;obtain⟨xs,hm,hx⟩:=Option.map_eq_some_iff.1 h;have hxs:xs.map (·.1)=ss.map fun s=>(DataW.lit (.string s):DataW H):=by
    have:=congrArg Prod.fst hx;simpa using this
   have hxl:xs.length=n:=by simpa using Lib.mapM_length hm
   have hzl:ss.length=n:=by
    have:=congrArg List.length hxs;simp at this;omega
   apply List.ext_getElem?;intro i;by_cases hi:i<n
   ·obtain⟨b,hb,hf⟩:=Lib.mapM_at hm i i (by simp[hi]);obtain⟨z,hc,rfl,_⟩:=DataW.trod_string he hf;have h1:cs[i]?=some (.string z):=by
     have:=congrArg (·[0]?) hc;simpa [List.getElem?_take,List.getElem?_drop] using this
    have h2:(xs.map (·.1))[i]?=some (DataW.lit (.string z.data.toList):DataW H):=by simp[hb]
    rw[hxs] at h2;simp only[List.getElem?_map,Option.map_eq_some_iff,DataW.lit.injEq,Lit.string.injEq] at h2;obtain⟨s,hs,hz⟩:=h2;simp[h1,hs,hz]
   rw[List.getElem?_eq_none (by omega),List.getElem?_eq_none (by simp;omega)]
  cases h
theorem gWds : (Tryz.prog.globalNamed "litmus/logic.words").bind (fun g => (Tryz.prog.globals[g]?).map fun x => (Tryz.prog.underlying x.type, Tryz.prog.cellsOf x.type)) = some (some (.array 21 9), 21) := by kernel_rfl
theorem nWds : Tryz.prog.globalNamed "litmus/logic.words" = some 1 := by kernel_rfl
theorem cells1Wd:Tryz.prog.cellsOf 9=1:=by kernel_rfl
theorem wdData:(Rows.laid_litmus_logic_words:DataW Unit)=.agg (wdTab.map fun s=>.lit (.string s)):=by rfl
theorem acData:(Rows.laid_unicode_utf8_acceptRanges:DataW Unit)=Lib.acceptData:=by rfl
theorem wdLen:wdTab.length=21:=by rfl
theorem tabsT {W:World} (hL:laidMetH Tryz.prog Rows.factsHoldRow.laid W):TxT W:=by
 refine⟨table hL,fun i hi=>?_,?_,?_⟩
 ·obtain ⟨g, t, cs, fuel, p, hg, hty, hvar, hd⟩ := Lib.laidMet.reads hL (n := "litmus/logic.words") (d := Rows.laid_litmus_logic_words) (.tail _ (.tail _ (.tail _ (.tail _ (.head _)))));have e := gWds;rw [hg, Option.bind_some] at e;obtain ⟨x, hx, ex⟩ := Option.map_eq_some_iff.1 e;rw [hx, Option.map_some] at hty;injection hty with hty;injection ex with e1 e2;rw [hty] at e1 e2;have hc := cells_of_strs e1 Tryz.underlying9 cells1Wd e2 (wdData ▸ hd);rw [World.var?_cell nWds hvar i];have : cs[i]? = cs.toList[i]? := by simp
  rw[this,hc];have hw:=wdLen;simp[List.getD,hi,hw]
 ·exact printTabs_of_reads (ρ:=Tryz.lays177_renC) { Tryz.lays177C with } ⟨by kernel_rfl,by kernel_rfl,by kernel_rfl,by kernel_rfl,by kernel_rfl,by kernel_rfl,by kernel_rfl,by kernel_rfl,by kernel_rfl,by kernel_rfl⟩
   (Pinned.isPrint16_eq ▸ Lib.laidMet.reads hL (.tail _ (.tail _ (.tail _ (.tail _ (.tail _ (.tail _ (.tail _ (.tail _ (.head _))))))))))
   (Pinned.isNotPrint16_eq ▸ Lib.laidMet.reads hL (.tail _ (.tail _ (.tail _ (.tail _ (.tail _ (.tail _ (.head _))))))))
   (Pinned.isPrint32_eq ▸ Lib.laidMet.reads hL (.tail _ (.tail _ (.tail _ (.tail _ (.tail _ (.tail _ (.tail _ (.tail _ (.tail _ (.head _)))))))))))
   (Pinned.isNotPrint32_eq ▸ Lib.laidMet.reads hL (.tail _ (.tail _ (.tail _ (.tail _ (.tail _ (.tail _ (.tail _ (.head _)))))))))
 exact utf8Tabs_of_reads (ρ:=Tryz.lays177_renC) { Tryz.lays177C with } ⟨by kernel_rfl,by kernel_rfl,by kernel_rfl,by kernel_rfl,by kernel_rfl,by kernel_rfl,by kernel_rfl⟩
  (Pinned.utf8First_eq ▸ Lib.laidMet.reads hL (.tail _ (.tail _ (.tail _ (.tail _ (.tail _ (.tail _ (.tail _ (.tail _ (.tail _ (.tail _ (.head _))))))))))))
  (acData ▸ Lib.laidMet.reads hL (.tail _ (.tail _ (.tail _ (.head _)))))
theorem cellsIntV:Tryz.prog.cellsOf 26=2:=by kernel_rfl
theorem cellsBoolV:Tryz.prog.cellsOf 4=1:=by kernel_rfl
theorem cellsNatV:Tryz.prog.cellsOf 24=1:=by kernel_rfl
theorem limb_openV {H:Type} {enc:TypeId × Value->H} {W:World} {fuel:Nat} {c:Value} {y:DataW H × List MemPlace}
  (h:DataW.trod enc Tryz.prog W 0 (fun _=>true) true fuel 24 [c]=some y):∃ ao n q,c=.slice ao n q/\RNum W (.slice ao n q):=by
 rcases open_ints Tryz.underlying24 Tryz.underlying153 (by kernel_rfl) h with ⟨hcs,_⟩ | ⟨x,l,c',zs,hcs,_,hl,hm,hz,_,hcell,hwz⟩
 ·simp at hcs;subst hcs;exact⟨none,0,0,rfl,[],Sl.nil _ _,fun x hx=>by cases hx⟩
 simp at hcs;subst hcs;obtain⟨xs,hs,hd⟩:=sl_of_ints hl hm (by rw[hz];split<;>omega) hcell hwz;exact⟨_,_,_,rfl,xs,hs,hd⟩
theorem int_rangeV {z:Int} (h:(Lit.int .i64 z).wf=true) : -9223372036854775808<=z/\z<=9223372036854775807:=by
 simp[Lit.wf,IntKind.min,IntKind.max,IntKind.bits,IntKind.signed] at h
 omega
theorem int_openV {H:Type} {enc:TypeId × Value->H} {W:World} {fuel:Nat} {cs:List Value} {y:DataW H × List MemPlace} (h:DataW.trod enc Tryz.prog W 0 (fun _=>true) true fuel 26 cs=some y) :
  ∃ b o l c,cs=[.bool b,.slice o l c]/\RNum W (.slice o l c):=by
 obtain⟨xs,m,-,-,hl2,hyl2,hf2⟩:=DataW.trod_struct Tryz.underlying26 h;rw[cellsIntV] at hl2;match cs,hl2 with
 | [c0,c1],_ =>
  match xs,hyl2 with
  | [u0,u1],_ =>
   have q0:=hf2 0 _ rfl;have q1:=hf2 1 _ rfl;simp[cellsBoolV] at q0;simp[cellsNatV] at q1;obtain⟨b,eb,-⟩:=DataW.trod_bool Tryz.underlying4 q0;obtain⟨ao,ln,lc,rfl,hs⟩:=limb_openV q1;simp at eb;subst eb;exact⟨_,_,_,_,rfl,hs⟩
theorem cellsForm:Tryz.prog.cellsOf 29=5:=by kernel_rfl
theorem cellsOpF:Tryz.prog.cellsOf 22=1:=by kernel_rfl
theorem cellsStrF:Tryz.prog.cellsOf 9=1:=by kernel_rfl
theorem cellsForms:Tryz.prog.cellsOf 27=1:=by kernel_rfl
theorem form_fields {H:Type} {enc:TypeId × Value->H} {W:World} {fuel:Nat} {cs:List Value} {y:DataW H × List MemPlace} (h:DataW.trod enc Tryz.prog W 0 (fun _=>true) true fuel 29 cs=some y) :
  ∃ x:RU,cs=rC x/\IR x.o/\RNum W (.slice x.ao x.l x.c)/\x.nm.size<=9223372036854775807/\(x.kl<=x.kc/\x.kc<=maxLen) /\
   ∀ i,i<x.kl->∃ cs' n' y',AtF 5 W x.ko i cs'/\DataW.trod enc Tryz.prog W 0 (fun _=>true) true n' 29 cs'=some y':=by
 obtain⟨ys,n,-,-,hlen,hyl,hf⟩:=DataW.trod_struct Tryz.underlying29 h;rw[cellsForm] at hlen;match cs,hlen with
 | [c0,c1,c2,c3,c4],_ =>
  match ys,hyl with
  | [y0,y1,y2,y3],_ =>
   have g0:=hf 0 _ rfl;have g1:=hf 1 _ rfl;have g2:=hf 2 _ rfl;have g3:=hf 3 _ rfl;simp[cellsOpF] at g0;simp[cellsIntV] at g1;simp[cellsStrF] at g2;simp[cellsForms] at g3;obtain⟨k,e0,-,w0⟩:=DataW.trod_int Tryz.underlying22 g0;obtain⟨b,o,l,c,e1,hn⟩:=int_openV g1;obtain⟨s,e2,-,w2⟩:=DataW.trod_string Tryz.underlying9 g2;simp at e0 e1 e2;obtain⟨e1a,e1b⟩:=e1;subst e0 e1a e1b e2;rcases Go.Deep.open_slice Tryz.underlying27 g3 with ⟨hcs,-⟩ | ⟨a,len,cap,mm,n',D,Pl,hcs,-,hle,hm,hmm,-,hi⟩
   ·simp at hcs;subst hcs;exact⟨⟨k,b,o,l,c,s,none,0,0⟩,rfl,int_rangeV w0,hn,by unfold maxLen at w2;exact w2,⟨Nat.le_refl _,Nat.zero_le _⟩,fun i hi=>absurd hi (Nat.not_lt_zero i)⟩
   simp at hcs;subst hcs;refine⟨⟨k,b,o,l,c,s,some a,len,cap⟩,rfl,int_rangeV w0,hn,by unfold maxLen at w2;exact w2,⟨hle,hm⟩,fun i hilt=>?_⟩;obtain⟨cs',hc,ht'⟩:=hi i (by simp only[if_true] at hmm;have:i<len:=hilt;omega);rw[cellsForm] at hc;obtain⟨_,hcl,hat⟩:=World.cells?_some hc;refine⟨cs',n',_,⟨a,rfl,fun j v hj=>?_⟩,ht'⟩;have hjl:j<5:=by have:=(List.getElem?_eq_some_iff.1 hj).1;omega
   rw[hat j hjl];exact hj
theorem rC_inj {x y:RU} (e:rC x=rC y):x=y:=by
 obtain⟨o,b,ao,l,c,nm,ko,kl,kc⟩:=x;obtain⟨o',b',ao',l',c',nm',ko',kl',kc'⟩:=y;simp only[rC,List.cons.injEq,Value.int.injEq,Value.string.injEq,Value.bool.injEq,Value.slice.injEq,true_and,and_true] at e;obtain⟨e1,e2,⟨e3,e4,e5⟩,e6,⟨e7,e8,e9⟩⟩:=e;subst e1 e2 e3 e4 e5 e6 e7 e8 e9
 rfl
theorem rawF_open {H:Type} {enc:TypeId × Value->H} {W:World}:∀ (d:Nat) {fuel:Nat} {x:RU} {y:DataW H × List MemPlace},DataW.trod enc Tryz.prog W 0 (fun _=>true) true fuel 29 (rC x)=some y->RawF W d x
 | 0,_,_,_,_=>trivial
 | d+1,fuel,x,y,h=>by
  obtain⟨x',e,h1,h2,h3,h4,h5⟩:=form_fields h;have ex:=rC_inj e;subst ex;refine⟨h1,h2,h3,h4,fun i hi=>?_⟩;obtain⟨cs',n',y',hc,ht⟩:=h5 i hi;obtain⟨u,hu,-⟩:=form_fields ht;subst hu;exact⟨u,hc,rawF_open d ht⟩
theorem open_form {H:Type} {enc:TypeId × Value->H} {W:World} {base:Nat} {r:Reach} {v:Value} {d:DataW H} {p:List MemPlace}
  (hv:Value.okWide Tryz.prog W r base 29 v) (h:DataW.Trod enc Tryz.prog W 0 (fun _=>true) true 29 v d p):∃ x:RU,v=rV x/\∀ d,RawF W d x:=by
 obtain⟨cs,rfl,hsz⟩:=okWide_struct Tryz.underlying29 hv;obtain⟨fuel,hf⟩:=h;have hcs:(Value.agg cs).cells.toList=cs.toList:=rfl;rw[hcs] at hf;obtain⟨x,e,-⟩:=form_fields hf;rw[e] at hf;exact⟨x,by unfold rV;congr 1;apply Array.ext';rw[e];rfl,fun d=>rawF_open d hf⟩
end Go.Proofs.YtoncclhbdkjhmaaGreatDoor
