/-
 Joined texts: LgBk,LgBl,oG,LgBg,LgBm,LgBo,LgBn,KTab,LgBi,VlO,LgZft.
-/
import Derived.Test.YtoncclhbdkjhmaaGreatDoorCards
import Derived.Test.YtoncclhbdkjhmaaGreatDoorTie
import Derived.ProofKit
import Derived.OpenShut
import Derived.ShutString
import Derived.ChangeOld
import Derived.Deep.DeepHandedRow
import Derived.Lib.LaidTab
import Derived.LaidMore
import Derived.Lay
import Derived.Lib.ItoaNum
import Derived.PinnedBridge
import Derived.Lib.LaidU8
import Derived.Lib.LaidPrint
import Derived.Deep.Slices
import Derived.Test.YtoncclhbdkjhmaaGreatDoorJLogicPuts1
import Derived.Test.YtoncclhbdkjhmaaGreatDoorJLogicPuts3
import Derived.Test.YtoncclhbdkjhmaaGreatDoorJLogicPuts5
import Derived.Test.YtoncclhbdkjhmaaGreatDoorJLogicPuts6
import Derived.Test.YtoncclhbdkjhmaaGreatDoorJLogicPuts8
import Derived.Test.YtoncclhbdkjhmaaGreatDoorJLogicPuts9
set_option maxHeartbeats 32000000
open Array renaming getD_eq_getD_getElem?→aQ,getElem?_eq_getElem→bj,size_setIfInBounds→bN,getElem?_setIfInBounds→gB,ext_getElem?→lu,replicate→mK
open Bool renaming false_ne_true→cU,or_eq_true→eO
open Go renaming lt_of_block→ag,World→an,Value→ay,bodyPost_ret→aB,TypeId→bu,heap_alloc_new→dc,maxLen→fO
open Go.DataW renaming trod→jY
open Go.Exit renaming inBlock→aE,«then»→aM
open Go.Lib renaming hid→aa,idxOfS→jw
open Go.Lib.laidMet renaming reads→gY
open Go.Proofs.Tryz renaming prog→ax,results14→fF,underlying9→gH,underlying4→lg
open Go.RowKit renaming Below→aC
open Go.RowKit.Below renaming refl→av
open Int renaming natCast_nonneg→jx,toNat_natCast→jW
open List renaming length_take→aW,not_mem_nil→cl,getElem_mem→cI,mem_cons→dw,getElem?_eq_getElem→d_,setIfInBounds_toArray→eC,eq_nil_of_length_eq_zero→fh,getElem?_eq_none→gm,set_cons_succ→gI,set_cons_zero→iy,length_map→iM
open Nat renaming not_lt_zero→ah,le_refl→ak,le_trans→aq,zero_le→au,lt_of_lt_of_le→aK,min_eq_left→cE,zero_add→eG
namespace Go.Proofs.YtoncclhbdkjhmaaGreatDoor
open Go.RowKit
set_option maxRecDepth 100000
set_option linter.unusedVariables false
set_option linter.unusedSimpArgs false
attribute [local go_sem] jn jm jl jk
def mg (ns:List ByteArray) (ys:List F) (nm:ByteArray):Option F:=if 0<=jw ns nm then ys[(jw ns nm).toNat]? else none
def Is (w:an) (v:ay) (ns:List ByteArray):Prop:=∃ ko kc,v=.slice ko ns.length kc/\ns.length<=1000/\(ns=[]\/∃ g,ko=some ⟨g,0,none⟩/\∀ j,j<ns.length->w.cell? ⟨g,j,none⟩=some (.string (ns.getD j ByteArray.empty)))
theorem Is.below {w w':an} {v:ay} {ns:List ByteArray} (h:Is w v ns) (hb:aC w.heap.size w w'):Is w' v ns:=by
 obtain⟨ko,kc,e,h1,h2⟩:=h;refine⟨ko,kc,e,h1,h2.imp id ?_⟩;rintro⟨g,hg,h3⟩;exact⟨g,hg,fun j hj=>by rw[hb.cell (bS (h3 j hj))];exact h3 j hj⟩
theorem yP (v:ay) (ns:List ByteArray) (nm:ByteArray) (w:an) (h:Is w v ns) :
  Calls ax 59 #[v,.string nm] w fun e w'=>e=.returned (.int .i64 (jw ns nm))/\aC w.heap.size w w':=by
 obtain⟨ko,kc,rfl,h1,h2⟩:=h;rcases h2 with rfl | ⟨g,rfl,h3⟩
 ·refine (Tryz.mL ko kc nm w).mono ?_;rintro e w' ⟨rfl,rfl⟩;exact⟨rfl,av _ _⟩
 refine (Tryz.qH g 0 ns.length kc ns nm w (ak _) (by omega) (fun j hj=>by rw[eG];exact h3 j hj)).mono ?_;rintro e w' ⟨rfl,rfl⟩;rw[List.take_length];exact⟨rfl,av _ _⟩
theorem t_ {o z:Int} {nm:ByteArray} {ks:List F} (hv:isVar o=true) (h:rt (.node o z nm ks)=true):ks=[]:=by
 have h1:=(iA h).1;rcases vZ hv with rfl | rfl | rfl<;>simp[cO,bB,fP] at h1<;>exact h1
theorem FL.Q_ {w:an} {S:Nat->Prop} {d:Nat} {v:ay} {ts:List F} (h:FL w S d v ts):FL w (fun g=>S g/\g<w.heap.size) d v ts:=by
 obtain⟨el,h1,h2⟩:=h;exact⟨el,h1.lt,h2⟩
theorem FL.JC {w:an} {B g n cap d:Nat} {us:List FU} {ts:List F} {S:Nat->Prop} (hrow:fR.Row w B (.slice (some ⟨g,0,none⟩) n cap) us) (hn:n=us.length) (hl:us.length=ts.length) (hS:S g) (h:∀ i (h1:i<us.length) (h2:i<ts.length),FT w S d us[i] ts[i]):FL w S d (.slice (some ⟨g,0,none⟩) n cap) ts:=by
 subst hn;have hz:(us.zip ts).length=us.length:=by rw[List.length_zip,hl,Nat.min_self]
 obtain⟨vo,vc,hv,h1,h2,h3⟩:=hrow.form;injection hv with e1 e2 e3;subst e3;refine⟨us.zip ts,⟨_,cap,by rw[hz],⟨by rw[hz];exact h1,h2,fun h=>by cases h⟩,fun _ a ha=>?_,fun i hi=>?_⟩,List.map_snd_zip (by rw[hl];exact ak _)⟩
 ·injection ha with ha;subst ha;exact hS
 have rM:i<us.length:=by rw[hz] at hi;exact hi
 have vB:i<ts.length:=by rw[<-hl];exact rM
 rw[List.getElem_zip];exact⟨Cj fC (fun _=>rfl) rfl hrow.own i rM,h i rM vB⟩
def M8 (k2 n d:Nat) (S3:Nat->Prop) (ps:List F) (X:an) (i:ay) (wr:an):Prop:=
 ∃ (j:Nat) (el:List FU),i=.int .i64 (j:Nat)/\j<=n/\Hid (el.length=n)/\Hid (∀ q (h1:q<el.length) (h2:q<ps.length),q<j->FT wr S3 d el[q] ps[q])/\Hid (fR.Row wr k2 (.slice (some ⟨k2,0,none⟩) n n) el)/\Hid (aC k2 X wr)
theorem Em (d:Nat):∀ (v:ay) (t:F) (S:Nat->Prop) (w:an) (vn vb:ay) (ns:List ByteArray) (ys:List F) (dy:Nat) (Sy:Nat->Prop),FC w S d v t->Tm d t->rt t=true->Is w vn ns->FL w Sy dy vb ys->ys.length<=1000 ->
  Calls ax 14 #[v,vn,vb] w fun e w'=>∃ v',e=.returned v'/\FC w' (fun b=>S b\/Sy b\/w.heap.size<=b) (d+dy) v' (lM (mg ns ys) t)/\aC w.heap.size w w':=by
 induction d with
 | zero=>intro v t S w vn vb ns ys dy Sy h;obtain⟨_,_,_,_,_,_,_,_,_,h0,_⟩:=h.open;omega
 | succ d ih =>
  intro v t S w vn vb ns ys dy Sy h xD rS Ka hys J3;obtain⟨b,ao,l,c,ko,kl,kc,rfl,⟨hr,hz,eR,hkc,hkm⟩,-,hk⟩:=h.open;obtain⟨rz,mw⟩:t.kids.length<=3/\∀ k ∈ t.kids,Tm d k:=⟨xD.2.2.2.1,xD.2.2.2.2⟩
  obtain⟨o,z,nm,ks⟩:=t;simp only[F.op,F.num,F.name,F.kids] at hr hz hk eR rz mw h ⊢;obtain⟨yo,yc,rfl,EV,Bq,-⟩:=hys.form;obtain⟨no,nc,rfl,yh,I6⟩:=Ka;have K2:yc<=9223372036854775807:=Bq;have nM:Hid (Is w (.slice no ns.length nc) ns):=aa ⟨no,nc,rfl,yh,I6⟩;have zv:=aa hys;have HN:=aa eR;have HZ:=aa hz;have HO:=aa hr;have Vp:=aa rz;have Vl:=aa mw;have Gn:=aa rS;have HF:=aa h;obtain⟨yl,J2⟩:∃ n,n=ys.length:=⟨_,rfl⟩
  rw[<-J2] at EV J3 zv ⊢;have KQ:=aa J2;obtain⟨nl,Mb⟩:∃ n,n=ns.length:=⟨_,rfl⟩
  rw[<-Mb] at nM ⊢;have US:=aa J3;clear hz h xD hr rz mw hys rS J2 Mb yh I6 J3;have HX:=aa hk;have IH:=aa ih;clear hk ih eR;have HW:=aa (av w.heap.size w);have vA:kc<=9223372036854775807:=hkm;have IG:=HF;have Iu:=zv;have Iv:=HX;have UQ:=HZ;have QB:=nM;have wE:Hid (∀ W:an,Hid (aC w.heap.size w W)->FC W (fun b=>S b\/Sy b\/w.heap.size<=b) (d+1+dy) (.agg #[.int .i64 o,.bool b,.slice ao l c,.string nm,.slice ko kl kc]) (.node o z nm ks)):=aa (fun W hW=>((IG.out.below hW.out).mono fun b h=>Or.inl h).up (Nat.le_add_right _ _));go_enter Tryz.func14,Tryz.ntmps14
  obtain⟨x1,kf,ef,hO,aR,gL,aj⟩:=aL w #[.int .i64 o,.bool b,.slice ao l c,.string nm,.slice ko kl kc] 29;replace HX:=aa (HX.out.below aR.out);replace HW:=aa (HW.out.trans (aR.out.mono HW.out.size));replace HZ:=aa (HZ.out.below aR.out);replace nM:=aa (nM.out.below aR.out);replace zv:=aa (zv.out.below aR.out);replace HF:=aa (HF.out.below aR.out);have zy:=aa (ag aj.out);obtain⟨x2,kr,er,lZ,bP,gD,aD⟩:=aL x1 #[.int .i64 0,.bool false,.slice none 0 0,.string ⟨#[]⟩,.slice none 0 0] 29;replace aj:=aG bP.out aj;replace HX:=aa (HX.out.below bP.out);replace HW:=aa (HW.out.trans (bP.out.mono HW.out.size));replace HZ:=aa (HZ.out.below bP.out);replace nM:=aa (nM.out.below bP.out);replace zv:=aa (zv.out.below bP.out)
  replace HF:=aa (HF.out.below bP.out);have Vn:Hid (w.heap.size<=kf):=gL;have lW:Hid (w.heap.size<=kr):=aa (by have h1:=aR.out.size;have h3:=gD.out;omega);have fZ:Hid (kf<kr):=aa (by have h1:=zy.out;have h3:=gD.out;omega);have Vg:=aa (ag aD.out)
  by_cases vw:o=1
  ·subst vw;have hks:ks=[]:=t_ (o:=1) rfl Gn.out;have tx:kl=0:=by rw[HN.out,hks];rfl
   have mG:(((kl:Nat):Int)==0)=true:=by rw[tx];rfl
   have B6:=aa hks;clear hks tx;have c0:=ae (v:=.int .i64 1) aj.out 0 rfl;have bM:=af aj.out 0;have c1:=ae (v:=.bool b) aj.out 1 rfl;have bL:=af aj.out 1;have c2:=ae (v:=.slice ao l c) aj.out 2 rfl;have bK:=af aj.out 2;have c3:=ae (v:=.string nm) aj.out 3 rfl;have bJ:=af aj.out 3;have c4:=ae (v:=.slice ko kl kc) aj.out 4 rfl;have bI:=af aj.out 4;go_wp2_with fail
   refine (yP _ ns nm x2 nM.out).mono ?_;rintro e x3 ⟨rfl,hb⟩;clear c0 bM c1 bL c2 bK c3 bJ c4 bI;replace aj:=aG hb aj;replace aD:=aG hb aD;replace HX:=aa (HX.out.below hb);replace HW:=aa (HW.out.trans (hb.mono HW.out.size));replace HZ:=aa (HZ.out.below hb);replace nM:=aa (nM.out.below hb);replace zv:=aa (zv.out.below hb);replace HF:=aa (HF.out.below hb);clear hb;obtain⟨iv,Fg⟩:∃ z,z=jw ns nm:=⟨_,rfl⟩
   rw[<-Fg];have rZ:=aa Fg;clear Fg hO lZ
   by_cases hi0:0<=iv
   ·obtain⟨q,rfl⟩:∃ q:Nat,iv=q:=⟨iv.toNat,by omega⟩
    by_cases hql:q<yl
    ·have yA:Hid (q<ys.length):=aa (by rw[<-KQ.out];exact hql);obtain⟨ya,yb,zD,IS,IU,IM,IP,IQ,rfl,⟨c0,c1,c2,c3,c4⟩,Ae⟩:=Iu.out.cells q yA.out;rw[<-HW.out.cell (bS c0)] at c0;rw[<-HW.out.cell (bS c1)] at c1;rw[<-HW.out.cell (bS c2)] at c2;rw[<-HW.out.cell (bS c3)] at c3;rw[<-HW.out.cell (bS c4)] at c4;obtain⟨xo,Br⟩:∃ x,x=(ys[q]'yA.out).op:=⟨_,rfl⟩
     obtain⟨xn,Bu⟩:∃ x,x=(ys[q]'yA.out).name:=⟨_,rfl⟩
     rw[<-Br,<-Bu] at Ae;rw[<-Br] at c0;rw[<-Bu] at c3;have Nb:=aa Ae;clear Br Bu Ae;have xm:Hid (lM (mg ns ys) (.node 1 z nm ks)=ys[q]'yA.out):=aa (by have h1:mg ns ys nm=some (ys[q]'yA.out):=(by unfold mg;rw[<-rZ.out,if_pos (jx q),jW];exact d_ yA.out);rw[lM,if_pos (show isVar 1=true from rfl),h1]);have r0:=ae (v:=.int .i64 0) aD.out 0 rfl;have gT:=af aD.out 0;have r1:=ae (v:=.bool false) aD.out 1 rfl;have gS:=af aD.out 1;have r2:=ae (v:=.slice none 0 0) aD.out 2 rfl;have iF:=af aD.out 2;have r3:=ae (v:=.string ⟨#[]⟩) aD.out 3 rfl;have iE:=af aD.out 3;have r4:=ae (v:=.slice none 0 0) aD.out 4 rfl;have iD:=af aD.out 4;go_wp2_with fail
     have rU:=aS HW.out (aY (w:=x3) (k:=kr) (.int .i64 xo) (.bool yb) (.slice zD IS IU) (.string xn) (.slice IM IP IQ)) lW.out
     (try simp only[aE,aM])
     exact aB (v:=.agg #[.int .i64 xo,.bool yb,.slice zD IS IU,.string xn,.slice IM IP IQ]) (by simp[results,fF,go_sem,r0,r1,r2,r3,r4]) rfl ⟨_,rfl,by rw[xm.out];exact ((Nb.out.below rU).mono fun b h=>Or.inr (Or.inl h)).up (Nat.le_add_left _ _),rU⟩
    have c0:=ae (v:=.int .i64 1) aj.out 0 rfl;have bM:=af aj.out 0;have c1:=ae (v:=.bool b) aj.out 1 rfl;have bL:=af aj.out 1;have c2:=ae (v:=.slice ao l c) aj.out 2 rfl;have bK:=af aj.out 2;have c3:=ae (v:=.string nm) aj.out 3 rfl;have bJ:=af aj.out 3;have c4:=ae (v:=.slice ko kl kc) aj.out 4 rfl;have bI:=af aj.out 4;have xm:Hid (lM (mg ns ys) (.node 1 z nm ks)=.node 1 z nm ks):=aa (by have h1:mg ns ys nm=none:=(by unfold mg;rw[<-rZ.out,if_pos (jx q),jW];exact gm (by rw[<-KQ.out];omega));rw[lM,if_pos (show isVar 1=true from rfl),h1,B6.out];rfl);have r0:=ae (v:=.int .i64 0) aD.out 0 rfl;have gT:=af aD.out 0;have r1:=ae (v:=.bool false) aD.out 1 rfl
    have gS:=af aD.out 1;have r2:=ae (v:=.slice none 0 0) aD.out 2 rfl;have iF:=af aD.out 2;have r3:=ae (v:=.string ⟨#[]⟩) aD.out 3 rfl;have iE:=af aD.out 3;have r4:=ae (v:=.slice none 0 0) aD.out 4 rfl;have iD:=af aD.out 4;go_wp2_with fail
    have rU:=aS HW.out (aY (w:=x3) (k:=kr) (.int .i64 1) (.bool b) (.slice ao l c) (.string nm) (.slice ko kl kc)) lW.out
    (try simp only[aE,aM])
    exact aB (v:=.agg #[.int .i64 1,.bool b,.slice ao l c,.string nm,.slice ko kl kc]) (by simp[results,fF,go_sem,r0,r1,r2,r3,r4]) rfl ⟨_,rfl,by rw[xm.out];exact wE.out _ (aa rU),rU⟩
   have c0:=ae (v:=.int .i64 1) aj.out 0 rfl;have bM:=af aj.out 0;have c1:=ae (v:=.bool b) aj.out 1 rfl;have bL:=af aj.out 1;have c2:=ae (v:=.slice ao l c) aj.out 2 rfl;have bK:=af aj.out 2;have c3:=ae (v:=.string nm) aj.out 3 rfl;have bJ:=af aj.out 3;have c4:=ae (v:=.slice ko kl kc) aj.out 4 rfl;have bI:=af aj.out 4;have rM:¬ 0<=iv:=hi0;have xm:Hid (lM (mg ns ys) (.node 1 z nm ks)=.node 1 z nm ks):=aa (by have h1:mg ns ys nm=none:=(by unfold mg;rw[<-rZ.out,if_neg rM]);rw[lM,if_pos (show isVar 1=true from rfl),h1,B6.out];rfl);have r0:=ae (v:=.int .i64 0) aD.out 0 rfl;have gT:=af aD.out 0;have r1:=ae (v:=.bool false) aD.out 1 rfl;have gS:=af aD.out 1;have r2:=ae (v:=.slice none 0 0) aD.out 2 rfl
   have iF:=af aD.out 2;have r3:=ae (v:=.string ⟨#[]⟩) aD.out 3 rfl;have iE:=af aD.out 3;have r4:=ae (v:=.slice none 0 0) aD.out 4 rfl;have iD:=af aD.out 4;go_wp2_with fail
   have rU:=aS HW.out (aY (w:=x3) (k:=kr) (.int .i64 1) (.bool b) (.slice ao l c) (.string nm) (.slice ko kl kc)) lW.out
   (try simp only[aE,aM])
   exact aB (v:=.agg #[.int .i64 1,.bool b,.slice ao l c,.string nm,.slice ko kl kc]) (by simp[results,fF,go_sem,r0,r1,r2,r3,r4]) rfl ⟨_,rfl,by rw[xm.out];exact wE.out _ (aa rU),rU⟩
  have e1:(o==1)=false:=beq_eq_false_iff_ne.2 vw
  by_cases Hw:o=8
  ·subst Hw;have hks:ks=[]:=t_ (o:=8) rfl Gn.out;have tx:kl=0:=by rw[HN.out,hks];rfl
   have mG:(((kl:Nat):Int)==0)=true:=by rw[tx];rfl
   have B6:=aa hks;clear hks tx;have c0:=ae (v:=.int .i64 8) aj.out 0 rfl;have bM:=af aj.out 0;have c1:=ae (v:=.bool b) aj.out 1 rfl;have bL:=af aj.out 1;have c2:=ae (v:=.slice ao l c) aj.out 2 rfl;have bK:=af aj.out 2;have c3:=ae (v:=.string nm) aj.out 3 rfl;have bJ:=af aj.out 3;have c4:=ae (v:=.slice ko kl kc) aj.out 4 rfl;have bI:=af aj.out 4;go_wp2_with fail
   refine (yP _ ns nm x2 nM.out).mono ?_;rintro e x3 ⟨rfl,hb⟩;clear c0 bM c1 bL c2 bK c3 bJ c4 bI;replace aj:=aG hb aj;replace aD:=aG hb aD;replace HX:=aa (HX.out.below hb);replace HW:=aa (HW.out.trans (hb.mono HW.out.size));replace HZ:=aa (HZ.out.below hb);replace nM:=aa (nM.out.below hb);replace zv:=aa (zv.out.below hb);replace HF:=aa (HF.out.below hb);clear hb;obtain⟨iv,Fg⟩:∃ z,z=jw ns nm:=⟨_,rfl⟩
   rw[<-Fg];have rZ:=aa Fg;clear Fg hO lZ
   by_cases hi0:0<=iv
   ·obtain⟨q,rfl⟩:∃ q:Nat,iv=q:=⟨iv.toNat,by omega⟩
    by_cases hql:q<yl
    ·have yA:Hid (q<ys.length):=aa (by rw[<-KQ.out];exact hql);obtain⟨ya,yb,zD,IS,IU,IM,IP,IQ,rfl,⟨c0,c1,c2,c3,c4⟩,Ae⟩:=Iu.out.cells q yA.out;rw[<-HW.out.cell (bS c0)] at c0;rw[<-HW.out.cell (bS c1)] at c1;rw[<-HW.out.cell (bS c2)] at c2;rw[<-HW.out.cell (bS c3)] at c3;rw[<-HW.out.cell (bS c4)] at c4;obtain⟨xo,Br⟩:∃ x,x=(ys[q]'yA.out).op:=⟨_,rfl⟩
     obtain⟨xn,Bu⟩:∃ x,x=(ys[q]'yA.out).name:=⟨_,rfl⟩
     rw[<-Br,<-Bu] at Ae;rw[<-Br] at c0;rw[<-Bu] at c3;have Nb:=aa Ae;clear Br Bu Ae;have xm:Hid (lM (mg ns ys) (.node 8 z nm ks)=ys[q]'yA.out):=aa (by have h1:mg ns ys nm=some (ys[q]'yA.out):=(by unfold mg;rw[<-rZ.out,if_pos (jx q),jW];exact d_ yA.out);rw[lM,if_pos (show isVar 8=true from rfl),h1]);have r0:=ae (v:=.int .i64 0) aD.out 0 rfl;have gT:=af aD.out 0;have r1:=ae (v:=.bool false) aD.out 1 rfl;have gS:=af aD.out 1;have r2:=ae (v:=.slice none 0 0) aD.out 2 rfl;have iF:=af aD.out 2;have r3:=ae (v:=.string ⟨#[]⟩) aD.out 3 rfl;have iE:=af aD.out 3;have r4:=ae (v:=.slice none 0 0) aD.out 4 rfl;have iD:=af aD.out 4;go_wp2_with fail
     have rU:=aS HW.out (aY (w:=x3) (k:=kr) (.int .i64 xo) (.bool yb) (.slice zD IS IU) (.string xn) (.slice IM IP IQ)) lW.out
     (try simp only[aE,aM])
     exact aB (v:=.agg #[.int .i64 xo,.bool yb,.slice zD IS IU,.string xn,.slice IM IP IQ]) (by simp[results,fF,go_sem,r0,r1,r2,r3,r4]) rfl ⟨_,rfl,by rw[xm.out];exact ((Nb.out.below rU).mono fun b h=>Or.inr (Or.inl h)).up (Nat.le_add_left _ _),rU⟩
    have c0:=ae (v:=.int .i64 8) aj.out 0 rfl;have bM:=af aj.out 0;have c1:=ae (v:=.bool b) aj.out 1 rfl;have bL:=af aj.out 1;have c2:=ae (v:=.slice ao l c) aj.out 2 rfl;have bK:=af aj.out 2;have c3:=ae (v:=.string nm) aj.out 3 rfl;have bJ:=af aj.out 3;have c4:=ae (v:=.slice ko kl kc) aj.out 4 rfl;have bI:=af aj.out 4;have xm:Hid (lM (mg ns ys) (.node 8 z nm ks)=.node 8 z nm ks):=aa (by have h1:mg ns ys nm=none:=(by unfold mg;rw[<-rZ.out,if_pos (jx q),jW];exact gm (by rw[<-KQ.out];omega));rw[lM,if_pos (show isVar 8=true from rfl),h1,B6.out];rfl);have r0:=ae (v:=.int .i64 0) aD.out 0 rfl;have gT:=af aD.out 0;have r1:=ae (v:=.bool false) aD.out 1 rfl
    have gS:=af aD.out 1;have r2:=ae (v:=.slice none 0 0) aD.out 2 rfl;have iF:=af aD.out 2;have r3:=ae (v:=.string ⟨#[]⟩) aD.out 3 rfl;have iE:=af aD.out 3;have r4:=ae (v:=.slice none 0 0) aD.out 4 rfl;have iD:=af aD.out 4;go_wp2_with fail
    have rU:=aS HW.out (aY (w:=x3) (k:=kr) (.int .i64 8) (.bool b) (.slice ao l c) (.string nm) (.slice ko kl kc)) lW.out
    (try simp only[aE,aM])
    exact aB (v:=.agg #[.int .i64 8,.bool b,.slice ao l c,.string nm,.slice ko kl kc]) (by simp[results,fF,go_sem,r0,r1,r2,r3,r4]) rfl ⟨_,rfl,by rw[xm.out];exact wE.out _ (aa rU),rU⟩
   have c0:=ae (v:=.int .i64 8) aj.out 0 rfl;have bM:=af aj.out 0;have c1:=ae (v:=.bool b) aj.out 1 rfl;have bL:=af aj.out 1;have c2:=ae (v:=.slice ao l c) aj.out 2 rfl;have bK:=af aj.out 2;have c3:=ae (v:=.string nm) aj.out 3 rfl;have bJ:=af aj.out 3;have c4:=ae (v:=.slice ko kl kc) aj.out 4 rfl;have bI:=af aj.out 4;have rM:¬ 0<=iv:=hi0;have xm:Hid (lM (mg ns ys) (.node 8 z nm ks)=.node 8 z nm ks):=aa (by have h1:mg ns ys nm=none:=(by unfold mg;rw[<-rZ.out,if_neg rM]);rw[lM,if_pos (show isVar 8=true from rfl),h1,B6.out];rfl);have r0:=ae (v:=.int .i64 0) aD.out 0 rfl;have gT:=af aD.out 0;have r1:=ae (v:=.bool false) aD.out 1 rfl;have gS:=af aD.out 1;have r2:=ae (v:=.slice none 0 0) aD.out 2 rfl
   have iF:=af aD.out 2;have r3:=ae (v:=.string ⟨#[]⟩) aD.out 3 rfl;have iE:=af aD.out 3;have r4:=ae (v:=.slice none 0 0) aD.out 4 rfl;have iD:=af aD.out 4;go_wp2_with fail
   have rU:=aS HW.out (aY (w:=x3) (k:=kr) (.int .i64 8) (.bool b) (.slice ao l c) (.string nm) (.slice ko kl kc)) lW.out
   (try simp only[aE,aM])
   exact aB (v:=.agg #[.int .i64 8,.bool b,.slice ao l c,.string nm,.slice ko kl kc]) (by simp[results,fF,go_sem,r0,r1,r2,r3,r4]) rfl ⟨_,rfl,by rw[xm.out];exact wE.out _ (aa rU),rU⟩
  have e8:(o==8)=false:=beq_eq_false_iff_ne.2 Hw
  by_cases hv14:o=14
  ·subst hv14;have hks:ks=[]:=t_ (o:=14) rfl Gn.out;have tx:kl=0:=by rw[HN.out,hks];rfl
   have mG:(((kl:Nat):Int)==0)=true:=by rw[tx];rfl
   have B6:=aa hks;clear hks tx;have c0:=ae (v:=.int .i64 14) aj.out 0 rfl;have bM:=af aj.out 0;have c1:=ae (v:=.bool b) aj.out 1 rfl;have bL:=af aj.out 1;have c2:=ae (v:=.slice ao l c) aj.out 2 rfl;have bK:=af aj.out 2;have c3:=ae (v:=.string nm) aj.out 3 rfl;have bJ:=af aj.out 3;have c4:=ae (v:=.slice ko kl kc) aj.out 4 rfl;have bI:=af aj.out 4;go_wp2_with fail
   refine (yP _ ns nm x2 nM.out).mono ?_;rintro e x3 ⟨rfl,hb⟩;clear c0 bM c1 bL c2 bK c3 bJ c4 bI;replace aj:=aG hb aj;replace aD:=aG hb aD;replace HX:=aa (HX.out.below hb);replace HW:=aa (HW.out.trans (hb.mono HW.out.size));replace HZ:=aa (HZ.out.below hb);replace nM:=aa (nM.out.below hb);replace zv:=aa (zv.out.below hb);replace HF:=aa (HF.out.below hb);clear hb;obtain⟨iv,Fg⟩:∃ z,z=jw ns nm:=⟨_,rfl⟩
   rw[<-Fg];have rZ:=aa Fg;clear Fg hO lZ
   by_cases hi0:0<=iv
   ·obtain⟨q,rfl⟩:∃ q:Nat,iv=q:=⟨iv.toNat,by omega⟩
    by_cases hql:q<yl
    ·have yA:Hid (q<ys.length):=aa (by rw[<-KQ.out];exact hql);obtain⟨ya,yb,zD,IS,IU,IM,IP,IQ,rfl,⟨c0,c1,c2,c3,c4⟩,Ae⟩:=Iu.out.cells q yA.out;rw[<-HW.out.cell (bS c0)] at c0;rw[<-HW.out.cell (bS c1)] at c1;rw[<-HW.out.cell (bS c2)] at c2;rw[<-HW.out.cell (bS c3)] at c3;rw[<-HW.out.cell (bS c4)] at c4;obtain⟨xo,Br⟩:∃ x,x=(ys[q]'yA.out).op:=⟨_,rfl⟩
     obtain⟨xn,Bu⟩:∃ x,x=(ys[q]'yA.out).name:=⟨_,rfl⟩
     rw[<-Br,<-Bu] at Ae;rw[<-Br] at c0;rw[<-Bu] at c3;have Nb:=aa Ae;clear Br Bu Ae;have xm:Hid (lM (mg ns ys) (.node 14 z nm ks)=ys[q]'yA.out):=aa (by have h1:mg ns ys nm=some (ys[q]'yA.out):=(by unfold mg;rw[<-rZ.out,if_pos (jx q),jW];exact d_ yA.out);rw[lM,if_pos (show isVar 14=true from rfl),h1]);have r0:=ae (v:=.int .i64 0) aD.out 0 rfl;have gT:=af aD.out 0;have r1:=ae (v:=.bool false) aD.out 1 rfl;have gS:=af aD.out 1;have r2:=ae (v:=.slice none 0 0) aD.out 2 rfl;have iF:=af aD.out 2;have r3:=ae (v:=.string ⟨#[]⟩) aD.out 3 rfl;have iE:=af aD.out 3;have r4:=ae (v:=.slice none 0 0) aD.out 4 rfl;have iD:=af aD.out 4;go_wp2_with fail
     have rU:=aS HW.out (aY (w:=x3) (k:=kr) (.int .i64 xo) (.bool yb) (.slice zD IS IU) (.string xn) (.slice IM IP IQ)) lW.out
     (try simp only[aE,aM])
     exact aB (v:=.agg #[.int .i64 xo,.bool yb,.slice zD IS IU,.string xn,.slice IM IP IQ]) (by simp[results,fF,go_sem,r0,r1,r2,r3,r4]) rfl ⟨_,rfl,by rw[xm.out];exact ((Nb.out.below rU).mono fun b h=>Or.inr (Or.inl h)).up (Nat.le_add_left _ _),rU⟩
    have c0:=ae (v:=.int .i64 14) aj.out 0 rfl;have bM:=af aj.out 0;have c1:=ae (v:=.bool b) aj.out 1 rfl;have bL:=af aj.out 1;have c2:=ae (v:=.slice ao l c) aj.out 2 rfl;have bK:=af aj.out 2;have c3:=ae (v:=.string nm) aj.out 3 rfl;have bJ:=af aj.out 3;have c4:=ae (v:=.slice ko kl kc) aj.out 4 rfl;have bI:=af aj.out 4;have xm:Hid (lM (mg ns ys) (.node 14 z nm ks)=.node 14 z nm ks):=aa (by have h1:mg ns ys nm=none:=(by unfold mg;rw[<-rZ.out,if_pos (jx q),jW];exact gm (by rw[<-KQ.out];omega));rw[lM,if_pos (show isVar 14=true from rfl),h1,B6.out];rfl);have r0:=ae (v:=.int .i64 0) aD.out 0 rfl;have gT:=af aD.out 0;have r1:=ae (v:=.bool false) aD.out 1 rfl
    have gS:=af aD.out 1;have r2:=ae (v:=.slice none 0 0) aD.out 2 rfl;have iF:=af aD.out 2;have r3:=ae (v:=.string ⟨#[]⟩) aD.out 3 rfl;have iE:=af aD.out 3;have r4:=ae (v:=.slice none 0 0) aD.out 4 rfl;have iD:=af aD.out 4;go_wp2_with fail
    have rU:=aS HW.out (aY (w:=x3) (k:=kr) (.int .i64 14) (.bool b) (.slice ao l c) (.string nm) (.slice ko kl kc)) lW.out
    (try simp only[aE,aM])
    exact aB (v:=.agg #[.int .i64 14,.bool b,.slice ao l c,.string nm,.slice ko kl kc]) (by simp[results,fF,go_sem,r0,r1,r2,r3,r4]) rfl ⟨_,rfl,by rw[xm.out];exact wE.out _ (aa rU),rU⟩
   have c0:=ae (v:=.int .i64 14) aj.out 0 rfl;have bM:=af aj.out 0;have c1:=ae (v:=.bool b) aj.out 1 rfl;have bL:=af aj.out 1;have c2:=ae (v:=.slice ao l c) aj.out 2 rfl;have bK:=af aj.out 2;have c3:=ae (v:=.string nm) aj.out 3 rfl;have bJ:=af aj.out 3;have c4:=ae (v:=.slice ko kl kc) aj.out 4 rfl;have bI:=af aj.out 4;have rM:¬ 0<=iv:=hi0;have xm:Hid (lM (mg ns ys) (.node 14 z nm ks)=.node 14 z nm ks):=aa (by have h1:mg ns ys nm=none:=(by unfold mg;rw[<-rZ.out,if_neg rM]);rw[lM,if_pos (show isVar 14=true from rfl),h1,B6.out];rfl);have r0:=ae (v:=.int .i64 0) aD.out 0 rfl;have gT:=af aD.out 0;have r1:=ae (v:=.bool false) aD.out 1 rfl;have gS:=af aD.out 1;have r2:=ae (v:=.slice none 0 0) aD.out 2 rfl
   have iF:=af aD.out 2;have r3:=ae (v:=.string ⟨#[]⟩) aD.out 3 rfl;have iE:=af aD.out 3;have r4:=ae (v:=.slice none 0 0) aD.out 4 rfl;have iD:=af aD.out 4;go_wp2_with fail
   have rU:=aS HW.out (aY (w:=x3) (k:=kr) (.int .i64 14) (.bool b) (.slice ao l c) (.string nm) (.slice ko kl kc)) lW.out
   (try simp only[aE,aM])
   exact aB (v:=.agg #[.int .i64 14,.bool b,.slice ao l c,.string nm,.slice ko kl kc]) (by simp[results,fF,go_sem,r0,r1,r2,r3,r4]) rfl ⟨_,rfl,by rw[xm.out];exact wE.out _ (aa rU),rU⟩
  have Qi:(o==14)=false:=beq_eq_false_iff_ne.2 hv14;have HV:Hid (isVar o=false):=aa (by unfold isVar;rw[e1,e8,Qi];rfl);clear vw Hw hv14
  by_cases Ai:kl=0
  ·have hks:ks=[]:=fh (by rw[<-HN.out];exact Ai);have mG:(((kl:Nat):Int)==0)=true:=by rw[Ai];rfl
   have B6:=aa hks;clear Ai hks;have xm:Hid (lM (mg ns ys) (.node o z nm ks)=.node o z nm ks):=aa (by rw[lM,if_neg (by rw[HV.out];exact cU),B6.out];rfl);have c0:=ae (v:=.int .i64 o) aj.out 0 rfl;have bM:=af aj.out 0;have c1:=ae (v:=.bool b) aj.out 1 rfl;have bL:=af aj.out 1;have c2:=ae (v:=.slice ao l c) aj.out 2 rfl;have bK:=af aj.out 2;have c3:=ae (v:=.string nm) aj.out 3 rfl;have bJ:=af aj.out 3;have c4:=ae (v:=.slice ko kl kc) aj.out 4 rfl;have bI:=af aj.out 4;have r0:=ae (v:=.int .i64 0) aD.out 0 rfl;have gT:=af aD.out 0;have r1:=ae (v:=.bool false) aD.out 1 rfl;have gS:=af aD.out 1;have r2:=ae (v:=.slice none 0 0) aD.out 2 rfl;have iF:=af aD.out 2
   have r3:=ae (v:=.string ⟨#[]⟩) aD.out 3 rfl;have iE:=af aD.out 3;have r4:=ae (v:=.slice none 0 0) aD.out 4 rfl;have iD:=af aD.out 4;go_wp2_with fail
   have rU:=aS HW.out (aY (w:=x2) (k:=kr) (.int .i64 o) (.bool b) (.slice ao l c) (.string nm) (.slice ko kl kc)) lW.out
   (try simp only[aE,aM])
   exact aB (v:=.agg #[.int .i64 o,.bool b,.slice ao l c,.string nm,.slice ko kl kc]) (by simp[results,fF,go_sem,r0,r1,r2,r3,r4]) rfl ⟨_,rfl,by rw[xm.out];exact wE.out _ (aa rU),rU⟩
  have mG:(((kl:Nat):Int)==0)=false:=beq_eq_false_iff_ne.2 (by omega);have O3:kl<=3:=by rw[HN.out];exact Vp.out
  have Vm:=aa O3;have WX:Hid (0<kl):=aa (Nat.pos_of_ne_zero Ai);clear Ai;have xm:Hid (lM (mg ns ys) (.node o z nm ks)=.node o z nm (r9 (mg ns ys) ks)):=aa (by rw[lM,if_neg (by rw[HV.out];exact cU)]);obtain⟨ps,hps⟩:∃ p,p=r9 (mg ns ys) ks:=⟨_,rfl⟩
  rw[<-hps] at xm;have Sh:Hid (ps.length=kl/\∀ q (h1:q<ps.length) (h2:q<ks.length),ps[q]=lM (mg ns ys) ks[q]):=aa (by rw[hps,oU];exact⟨by rw[iM];exact HN.out.symm,fun q h1 h2=>by simp⟩);clear hps;obtain⟨k2,fA⟩:∃ k,x2.heap.size=k:=⟨_,rfl⟩
  have K1:=aa fA;have c0:=ae (v:=.int .i64 o) aj.out 0 rfl;have bM:=af aj.out 0;have c1:=ae (v:=.bool b) aj.out 1 rfl;have bL:=af aj.out 1;have c2:=ae (v:=.slice ao l c) aj.out 2 rfl;have bK:=af aj.out 2;have c3:=ae (v:=.string nm) aj.out 3 rfl;have bJ:=af aj.out 3;have c4:=ae (v:=.slice ko kl kc) aj.out 4 rfl;have bI:=af aj.out 4;go_upto_region 11 with (first | (at_make;refine qF fR Gu rfl (fun _=>trivial) _ rfl _ _ rfl x2.heap.size _ _ _ _ kl rfl rfl (by first | rfl | simp) (by first | rfl | simp) (by omega) (ak _) ?_;intro y2 hrow cV) | fail)
  rw[fA] at hrow cV;have HR:=aa (show fR.Row y2 k2 (.slice (some ⟨k2,0,none⟩) kl kl) (List.replicate kl Gu) from hrow);have dZ:=aa cV;clear hrow cV;clear c0 bM c1 bL c2 bK c3 bJ c4 bI;have nt:=aj;have nT:=aD;have zz:Hid (w.heap.size<=kf/\w.heap.size<=kr/\kf<kr/\kr<k2):=aa ⟨Vn.out,lW.out,fZ.out,by have h1:=ag aD.out;omega⟩;replace aj:=aG (by rw[fA];exact dZ.out) aj;replace aD:=aG (by rw[fA];exact dZ.out) aD;clear fA;have c0:=ae (v:=.int .i64 o) aj.out 0 rfl;have bM:=af aj.out 0;have c1:=ae (v:=.bool b) aj.out 1 rfl;have bL:=af aj.out 1;have c2:=ae (v:=.slice ao l c) aj.out 2 rfl;have bK:=af aj.out 2;have c3:=ae (v:=.string nm) aj.out 3 rfl;have bJ:=af aj.out 3;have c4:=ae (v:=.slice ko kl kc) aj.out 4 rfl
  have bI:=af aj.out 4;go_wp2_with fail
  go_loopw [45] (M8 k2 kl (d+dy) (fun b=>(S b/\b<w.heap.size)\/(Sy b/\b<w.heap.size)\/k2<b) ps x2) (fun i _=>kl - (intOf i).toNat)
  case atStart=>exact⟨0,_,rfl,au _,aa List.length_replicate,aa (fun q _ _ h=>absurd h (ah _)),HR,dZ⟩
  case round =>
   clear HR dZ aj aD c0 c1 c2 c3 c4 bM bL bK bJ bI;obtain⟨j,el,rfl,hj,HE,HT,HR,HB⟩:=hrel;have Gm:=aa (HW.out.trans (HB.out.mono (by rw[<-K1.out];exact HW.out.size)));have aj:=aa ((HB.out.block kf (by have h1:=zz.out;omega)).trans nt.out);have aD:=aa ((HB.out.block kr (by have h1:=zz.out;omega)).trans nT.out);have Vv:Hid (k2<wr.heap.size):=aa (HR.out.ge rfl).2;clear HW HX HZ nM zv HF nt nT
   by_cases hlt:j<kl
   ·clear aj aD;have nM:=aa (QB.out.below Gm.out);have zv:=aa (Iu.out.Q_.below Gm.out);have zA:Hid (j<ks.length):=aa (by rw[<-HN.out];exact hlt);obtain⟨a2,QT,qo,ql,qc,po,pl,pc,rfl,⟨c0,c1,c2,c3,c4⟩,Dg⟩:=(Iv.out.Q_.below Gm.out).cells j zA.out;obtain⟨xo,Br⟩:∃ x,x=(ks[j]'zA.out).op:=⟨_,rfl⟩
    obtain⟨xn,Bu⟩:∃ x,x=(ks[j]'zA.out).name:=⟨_,rfl⟩
    rw[<-Br,<-Bu] at Dg;rw[<-Br] at c0;rw[<-Bu] at c3;have FW:=aa Dg;clear Br Bu Dg;obtain⟨pA,kq,eq,Cy,iC,yn,gA⟩:=aL wr #[.int .i64 xo,.bool QT,.slice qo ql qc,.string xn,.slice po pl pc] 29;replace HR:=aa (HR.out.below iC.out);replace Gm:=aa (Gm.out.trans (iC.out.mono Gm.out.size));replace HB:=aa (HB.out.trans (iC.out.mono (by rw[<-K1.out];exact HB.out.size)));replace nM:=aa (nM.out.below iC.out);replace zv:=aa (zv.out.below iC.out);replace HT:=aa (fun q h1 h2 h3=>(HT.out q h1 h2 h3).below iC.out);replace FW:=aa (FW.out.below iC.out);have g0:=ae (v:=.int .i64 xo) gA.out 0 rfl;have nF:=af gA.out 0;have g1:=ae (v:=.bool QT) gA.out 1 rfl;have nD:=af gA.out 1;have g2:=ae (v:=.slice qo ql qc) gA.out 2 rfl
    have oA:=af gA.out 2;have g3:=ae (v:=.string xn) gA.out 3 rfl;have oz:=af gA.out 3;have g4:=ae (v:=.slice po pl pc) gA.out 4 rfl;have oy:=af gA.out 4;go_wp2_with fail
    have Vu:Hid (k2<pA.heap.size):=aa (by have h1:=iC.out.size;have h2:=Vv.out;omega);refine (IH.out _ (ks[j]'zA.out) _ pA _ _ ns ys dy _ FW.out (Vl.out _ (cI zA.out)) ((iA Gn.out).2 _ (cI zA.out)) nM.out zv.out (by rw[<-KQ.out];exact US.out)).mono ?_;rintro e DR ⟨v,rfl,hc,hb⟩;clear c0 c1 c2 c3 c4 g0 nF g1 nD g2 oA g3 oz g4 oy;replace gA:=aG hb gA;replace HR:=aa (HR.out.below hb);replace Gm:=aa (Gm.out.trans (hb.mono Gm.out.size));replace HB:=aa (HB.out.trans (hb.mono (by rw[<-K1.out];exact HB.out.size)));replace nM:=aa (nM.out.below hb);replace zv:=aa (zv.out.below hb);replace HT:=aa (fun q h1 h2 h3=>(HT.out q h1 h2 h3).below hb);replace FW:=aa (FW.out.below hb);clear hb;obtain⟨u,rfl,Af⟩:=hc;have xJ:=aa Af;clear Af
    obtain⟨⟨g0,g1,g2,g3,g4⟩,i0,i1,i2,i3,i4⟩:=Row.R9 HR.out HE.out.symm (i:=j) (by rw[HE.out];exact hlt);simp only[fV];go_wp2_with fail
    go_roundw
    case rel =>
     obtain⟨r1,r2⟩:=Row.tW HR.out j (by rw[HE.out];exact hlt) HE.out.symm u rfl;have Pb:=bt DR k2 j u;refine⟨j+1,el.set j u,by go_num,hlt,aa (by rw[List.length_set];exact HE.out),aa (fun q h1 h2 h3=>?_),aa r1,aa (HB.out.trans (kX Pb (by rw[<-K1.out];exact HB.out.size) (ak _)))⟩
     by_cases hqj:q=j
     ·subst hqj;rw[List.getElem_set_self,Sh.out.2 q h2 zA.out];refine (xJ.out.mono (fun b hb=>?_)).grown Pb (KN.fG r2) (fun b hb e=>?_)
      ·exact hb.imp id (fun h=>h.imp id (fun h=>aK Vu.out h))
      injection e with e;subst e;have h1:=zz.out;rcases hb with h | h | h<;>omega
     rw[List.getElem_set_ne (fun e=>hqj e.symm)];refine (HT.out q (by rw[List.length_set] at h1;exact h1) h2 (by omega)).grown Pb (KN.fG r2) (fun b hb e=>?_);injection e with e;subst e;have h1:=zz.out;rcases hb with h | h | h<;>omega
    case measure=>simp[intOf];omega
   have ej:j=kl:=by omega
   subst ej;have c0:=ae (v:=.int .i64 o) aj.out 0 rfl;have bM:=af aj.out 0;have c1:=ae (v:=.bool b) aj.out 1 rfl;have bL:=af aj.out 1;have c2:=ae (v:=.slice ao l c) aj.out 2 rfl;have bK:=af aj.out 2;have c3:=ae (v:=.string nm) aj.out 3 rfl;have bJ:=af aj.out 3;have c4:=ae (v:=.slice ko j kc) aj.out 4 rfl;have bI:=af aj.out 4;go_upto_region 17 with fail
   clear c0 bM c1 bL c2 bK c3 bJ c4 bI;have eB:wr.grownBy (wr.setCell ⟨kf,4,none⟩ (.slice (some ⟨k2,0,none⟩) j j)) (some kf):=aI (World.grownBy.refl _ _) _;have jM:=heap_setCell_same wr kf 4 _ _ (.slice (some ⟨k2,0,none⟩) j j) aj.out;obtain⟨W1,lN⟩:∃ y,y=wr.setCell ⟨kf,4,none⟩ (.slice (some ⟨k2,0,none⟩) j j):=⟨_,rfl⟩
   rw[<-lN] at eB jM ⊢;have pV:Fr 29 wr W1:=.aN eB (fun j hj=>by injection hj with hj;subst hj;exact⟨_,aj.out,b_⟩);have hr1:=(eB.block kr (ag aD.out) (fun e=>by injection e with e;have h1:=zz.out;omega)).trans aD.out;have tJ:=aa (HR.out.jC eB (fun j hj e=>by have vN:k2=j:=(by simpa [Value.ownBlock] using hj);have h1:=zz.out;omega) pV trivial);have HW:=aa (aS Gm.out eB zz.out.1);have Vw:=aa eB;have Vz:=aa pV;replace aj:Hid (W1.heap[kf]?=some (.cells #[.int .i64 o,.bool b,.slice ao l c,.string nm,.slice (some ⟨k2,0,none⟩) j j] 29 (0,0))):=aa jM;replace aD:=aa hr1;clear eB jM lN pV hr1;have c0:=ae (v:=.int .i64 o) aj.out 0 rfl;have bM:=af aj.out 0;have c1:=ae (v:=.bool b) aj.out 1 rfl;have bL:=af aj.out 1
   have c2:=ae (v:=.slice ao l c) aj.out 2 rfl;have bK:=af aj.out 2;have c3:=ae (v:=.string nm) aj.out 3 rfl;have bJ:=af aj.out 3;have c4:=ae (v:=.slice (some ⟨k2,0,none⟩) j j) aj.out 4 rfl;have bI:=af aj.out 4;have r0:=ae (v:=.int .i64 0) aD.out 0 rfl;have gT:=af aD.out 0;have r1:=ae (v:=.bool false) aD.out 1 rfl;have gS:=af aD.out 1;have r2:=ae (v:=.slice none 0 0) aD.out 2 rfl;have iF:=af aD.out 2;have r3:=ae (v:=.string ⟨#[]⟩) aD.out 3 rfl;have iE:=af aD.out 3;have r4:=ae (v:=.slice none 0 0) aD.out 4 rfl;have iD:=af aD.out 4;go_wp2_with fail
   have Jd:=aY (w:=W1) (k:=kr) (.int .i64 o) (.bool b) (.slice ao l c) (.string nm) (.slice (some ⟨k2,0,none⟩) j j);have rU:=aS HW.out Jd zz.out.2.1;have RG:Fr 29 W1 _:=.aN Jd (fun j hj=>by injection hj with hj;subst hj;exact⟨_,aD.out,b_⟩);have wD:=tJ.out.jC Jd (fun i hi e=>by have vB:k2=i:=(by simpa [Value.ownBlock] using hi);have h1:=zz.out;omega) RG trivial
   have hfl:FL _ (fun b=>S b\/Sy b\/w.heap.size<=b) (d+dy) (.slice (some ⟨k2,0,none⟩) j j) ps:=FL.JC wD HE.out.symm (by rw[HE.out];exact Sh.out.1.symm) (Or.inr (Or.inr (by have h1:=zz.out;omega))) (fun q h1 h2=>by
    refine (((HT.out q h1 h2 (by have h3:=HE.out;omega)).grown Vw.out (KN.fG Vz.out) (fun b hb e=>?_)).grown Jd (KN.fG RG) (fun b hb e=>?_)).mono (fun b hb=>?_)
    ·injection e with e;subst e;have h1:=zz.out;rcases hb with h | h | h<;>omega
    ·injection e with e;have h1:=zz.out;rcases hb with h | h | h<;>omega
    rcases hb with h | h | h
    ·exact Or.inl h.1
    ·exact Or.inr (Or.inl h.1)
    exact Or.inr (Or.inr (by have h1:=zz.out;omega)))
   (try simp only[aE,aM])
   have Ud:=FC.mk (op:=o) (z:=z) (nm:=nm) HO.out (UQ.out.below rU) hfl;exact aB (v:=.agg #[.int .i64 o,.bool b,.slice ao l c,.string nm,.slice (some ⟨k2,0,none⟩) j j]) (by simp[results,fF,go_sem,r0,r1,r2,r3,r4]) rfl ⟨_,rfl,by rw[xm.out,show d+1+dy=d+dy+1 by omega];exact Ud,rU⟩
def Ci (s:Nat):ByteArray:=[(⟨#[105,48]⟩:ByteArray),⟨#[98,48]⟩,⟨#[108,48]⟩].getD s ⟨#[]⟩
def i9:ByteArray:=⟨#[105,57]⟩
def pK:F:=.node 0 1 ⟨#[]⟩ []
theorem OB (n i nm:ByteArray):jw [n,i] nm=if n=nm then 0 else if i=nm then 1 else -1:=by
 by_cases h:n=nm
 ·rw[if_pos h]
  simp[jw,Lib.idxFromS,h]
 rw[if_neg h]
 by_cases h2:i=nm
 ·rw[if_pos h2];simp[jw,Lib.idxFromS,h,h2]
 rw[if_neg h2];simp[jw,Lib.idxFromS,h,h2]
theorem OC (nm:ByteArray):jw [] nm = -1:=by rfl
theorem GR (nm:ByteArray):mg [] [] nm=none:=by
 unfold mg;rw[OC];rfl
theorem s8 (n:ByteArray) (y:F) (nm:ByteArray):mg [n,i9] [y,pK] nm=if n=nm then some y else if i9=nm then some pK else none:=by
 unfold mg;rw[OB]
 by_cases h:n=nm
 ·rw[if_pos h,if_pos h];rfl
 rw[if_neg h,if_neg h]
 by_cases h2:i9=nm
 ·rw[if_pos h2,if_pos h2];rfl
 rw[if_neg h2,if_neg h2];rfl
theorem IY {o:Int} {nm:ByteArray} (h:fY o nm):i9≠nm:=by
 rintro rfl;unfold fY i9 at h
 split at h
 ·rcases h with h | h | h<;>revert h<;>decide
 split at h
 ·rcases h with h | h<;>revert h<;>decide
 split at h
 ·rcases h with h | h<;>revert h<;>decide
 revert h;decide
theorem G3 {s:Nat} (hs:s<3) {o:Int} (hv:isVar o=true) (h:fY o (Ci s)):jh o=s:=by
 rcases vZ hv with rfl | rfl | rfl<;>(have h3:s=0\/s=1\/s=2:=by omega)<;>rcases h3 with rfl | rfl | rfl<;>first | rfl | (exfalso;revert h;simp only[fY,Ci];decide)
theorem JS {s:Nat} (hs:s<3) {y:F} (hy:rt y=true) (K4:jh y.op=s):AK (mg [Ci s,i9] [y,pK]) where
 rt nm g h:=by
  rw[s8] at h
  split at h
  ·injection h with h;rw[<-h];exact hy
  split at h
  ·injection h with h;rw[<-h];rfl
  cases h
 sort o nm g hv hn h:=by
  rw[s8] at h
  split at h
  ·rename_i e
   injection h with h;rw[<-h,K4];rw[<-e] at hn;exact (G3 hs hv hn).symm
  rw[if_neg (IY hn)] at h;cases h
theorem Av {r r':ByteArray->V} (h:∀ o nm,isVar o=true->fY o nm->r nm=r' nm):∀ (d:Nat) (t:F),Tm d t->ev r t=ev r' t
 | 0,t,ht=>absurd ht id
 | d+1,.node o z nm ks,ht=>by
  have ih:iH r ks=iH r' ks:=by
   rw[lO,lO]
   apply List.map_congr_left
   intro k hk;exact Av h d k (ht.2.2.2.2 k hk)
  rw[ev,ev,ih]
  by_cases hv:isVar o=true
  ·have e:=h o nm hv ht.1;unfold qJ;rw[e]
  have h1:o≠1:=fun e=>hv (by rw[e];rfl)
  have h8:o≠8:=fun e=>hv (by rw[e];rfl)
  have Ku:o≠14:=fun e=>hv (by rw[e];rfl)
  unfold qJ;simp only[if_neg h1,if_neg h8,if_neg Ku]
theorem VJ.be {v:V} (h:Bd 0 v):BE 4 6 v:=by
 cases v with
 | I z=>exact h
 | B b=>trivial
 | L l=>exact h
theorem C5 {env:List (ByteArray × V)} (hE:∀ p ∈ env,TV p.2) {s:Nat} (hs:s<3) {x y:F} (hx:Tm 5 x) (OR:rt x=true) (hy:Tm 4 y) (Rp:rt y=true) (K4:jh y.op=s) :
  rt (lM (mg [Ci s,i9] [y,pK]) x)=true/\Sm (a_ env) y/\Sm (a_ env) (lM (mg [Ci s,i9] [y,pK]) x)/\Sm (a_ (env++[(Ci s,ev (a_ env) y)])) x /\
  ev (a_ env) (lM (mg [Ci s,i9] [y,pK]) x)=ev (a_ (env++[(Ci s,ev (a_ env) y)])) x:=by
 have hr:∀ nm,BE 4 6 (a_ env nm):=fun nm=>VJ.be (JP hE nm)
 obtain⟨hb,dF⟩:=B8 (ak 4) (by decide) hr 3 (by decide) (by decide) y hy Rp;have hby:BE 32 9 (ev (a_ env) y):=hb;have hok:=JS hs Rp K4;have hone:BE 32 9 (ev (a_ env) pK):=by show (1:Int).natAbs<aH ^ 32;exact aK (by decide) (p_ (a:=1) (by decide))
 have hput:∀ nm,BE 32 9 (tY (a_ env) (mg [Ci s,i9] [y,pK]) nm):=by
  intro nm;unfold tY;rw[s8]
  by_cases h:Ci s=nm
  ·rw[if_pos h];exact hby
  rw[if_neg h]
  by_cases h2:i9=nm
  ·rw[if_pos h2];exact hone
  rw[if_neg h2];exact (hr nm).up (by decide) (by decide)
 have hnew:∀ nm,BE 32 9 (a_ (env++[(Ci s,ev (a_ env) y)]) nm):=by
  intro nm;rw[vI]
  split
  ·exact hby
  exact (hr nm).up (by decide) (by decide)
 have hsp:=(B8 (by decide) (by decide) hput 4 (by decide) (by decide) x hx OR).2;have Ro:=(B8 (by decide) (by decide) hnew 4 (by decide) (by decide) x hx OR).2;refine⟨Ek hok 5 x hx OR,dF,Ej hok (fun nm g h=>?_) 5 x hx hsp,Ro,?_⟩
 ·rw[s8] at h
  split at h
  ·injection h with h;rw[<-h];exact dF
  split at h
  ·injection h with h;rw[<-h];exact⟨BE.sm (e:=32) (n:=9) hone (by decide) (by decide),trivial⟩
  cases h
 rw[Bh hok 5 x hx];refine Av (fun o nm hv hn=>?_) 5 x hx;unfold tY;rw[s8,vI]
 by_cases h:Ci s=nm
 ·rw[if_pos h,if_pos h]
 rw[if_neg h,if_neg h,if_neg (IY hn)]
theorem G0 (x:F):lM (mg [] []) x=x:=zX (fun nm=>GR nm) x
namespace oG
open R7
def r8 (d:Nat->Bool) (i:Nat):Nat->Bool:=fun j=>decide (j=i) || d j
section
variable {P:Program} {ops:List Oper} {D:List (List Nat)} {m:Nat} {t0:Array ay} {ds:List Deferred} {Q:Exit->Act->an->Prop}
theorem main (hok:ok ops D m t0.size=true) (hin:th ops m=true) (J:(Nat->Bool)->Array ay->an->Prop)
  (hstep:∀ d T wc i o,J d T wc->ops[i]?=some o->i<m->d i=false->(∀ j,(dep D i).contains j=true->d j=true)->(∀ j k,d j=true->(dep D j).contains k=true->d k=true)->o.guard=none/\∀ K:Act->an->Prop,Hid (∀ T' w',J (r8 d i) T' w'->K ⟨T',ds⟩ w')->o.wp P ⟨T,ds⟩ wc K Q)
  (E5:∀ T wc,J (fun j=>decide (j<m)) T wc->wpList P ops.toArray Q (ops.drop m) ⟨T,ds⟩ wc) :
  ∀ (fuel:Nat) (l:Array Bool) (T:Array ay) (w:an),l.size=ops.length->l.toList.count false=fuel->(∀ j,l.getD j false=true->j<m)->(∀ j k,l.getD j false=true->(dep D j).contains k=true->l.getD k false=true)->J (fun j=>l.getD j false) T w->wpAny P .any ops.toArray Q fuel l ⟨T,ds⟩ w:=by
 have hml:=qK hok
 have fin:∀ (l:Array Bool) (T:Array ay) (w:an),l.size=ops.length->(∀ j,l.getD j false=true->j<m)->(∀ j,j<m->l.getD j false=true)->J (fun j=>l.getD j false) T w->wpAny P .any ops.toArray Q (l.toList.count false) l ⟨T,ds⟩ w:=by
  intro l T w hs hlt hall hJ
  have hl:l=C8 ops.length m:=by
   refine Array.ext (by simp[C8,hs];omega) fun i h1 h2=>?_
   have e1:l[i]=l.getD i false:=by simp[aQ,h1]
   rw[e1]
   by_cases hi:i<m
   ·rw[hall i hi];simp[C8,hi]
   have:l.getD i false=false:=by
    cases h:l.getD i false with
    | false=>rfl
    | true=>exact absurd (hlt i h) hi
   rw[this];simp[C8,List.getElem_append,hi]
  have NS:(fun j=>l.getD j false)=fun j=>decide (j<m):=funext fun j=>by
   by_cases hj:j<m
   ·rw[hall j hj];simp[hj]
   cases h:l.getD j false with
   | false=>simp[hj]
   | true=>exact absurd (hlt j h) hj
  rw[NS] at hJ;have hc:l.toList.count false=ops.length - m:=by rw[hl];simp[C8,List.count_append,List.count_replicate]
  rw[hc,hl];refine wm (ops.length - m) m (by omega) (fun i h1 h2=>?_) _ _ (E5 T w hJ);unfold th at hin;have:=List.all_eq_true.1 hin i (List.mem_range.2 h2);simp only[eO,decide_eq_true_eq,beq_iff_eq] at this;exact this.resolve_left (by omega)
 intro fuel
 induction fuel with
 | zero =>
  intro l T w hs hc hlt tP hJ;rw[<-hc];refine fin l T w hs hlt (fun j hj=>?_) hJ;rw[aQ,bj (by omega)];simp only[Option.getD_some];have h0:=List.count_eq_zero.1 hc
  cases h:l[j]'(by omega) with
  | true=>rfl
  | false=>exact absurd (by rw[<-h];simp) h0
 | succ fuel ih =>
  intro l T w hs hc hlt tP hJ
  by_cases hall:∀ j,j<m->l.getD j false=true
  ·rw[<-hc];exact fin l T w hs hlt hall hJ
  have tf:∀ i,i<ops.length->(l.getD i true=false ↔ l.getD i false=false):=fun i hi=>by simp[aQ,show i<l.size by omega]
  refine⟨fun h0=>?_,fun i hi=>?_⟩
  ·-- the first that has not come up may come up
   have:∃ j,(j<m/\l.getD j false≠true)/\∀ i,i<j->l.getD i false=true:=by
    obtain⟨j,hj⟩:=Classical.not_forall.1 hall;obtain⟨RB,vN⟩:=Classical.not_imp.1 hj;clear hj
    induction j using Nat.strongRecOn with
    | ind j ihj =>
     by_cases h:∀ i,i<j->l.getD i false=true
     ·exact⟨j,⟨RB,vN⟩,h⟩
     obtain⟨i,hi⟩:=Classical.not_forall.1 h;obtain⟨rM,vB⟩:=Classical.not_imp.1 hi;exact ihj i rM (by omega) vB
   obtain⟨j,⟨RB,vN⟩,O8⟩:=this;have y7:j<ops.length:=by omega
   have hm:j ∈ Region.ready .any ops.toArray l:=by
    rw[mem_ready];refine⟨(tf j y7).2 (by simpa using vN),ops[j],by simp[y7],fun e he hb=>O8 _ ?_⟩;exact (mO hok (d_ y7)).1 e he hb
   rw[h0] at hm;cases hm
  obtain⟨h1,o,ho,he⟩:=mem_ready.1 hi;have jX:ops[i]?=some o:=by simpa using ho
  have Fh:i<ops.length:=(List.getElem?_eq_some_iff.1 jX).1;have Gh:=(tf i Fh).1 h1;have hk:=mO hok jX
  have iR:∀ j,(dep D i).contains j=true->l.getD j false=true:=fun j hj=>by
   obtain⟨⟨e,e1,e2,e3⟩,-,-⟩:=hk.2.1 j hj;have:=he e e1 e2;rcases e3 with e3 | e3
   ·rw[<-e3];exact this
   exact tP _ _ this e3
  have AW:i<m:=by
   rcases hk.2.2.1 with h | h
   ·exact h
   exact absurd (fun j hj=>iR j (h j hj)) hall
  obtain⟨hg,hw⟩:=hstep _ T w i o hJ jX AW Gh iR tP;unfold wpOp;rw[ho];have LU:Region.wanted o (yielded ops.toArray T)=true:=by unfold Region.wanted;rw[hg]
  simp only[LU,if_true];refine Or.inl (hw _ (aa fun T' w' Uc=>?_));have H_:i<l.size:=by omega
  have OL:(fun j=>(l.setIfInBounds i true).getD j false)=r8 (fun j=>l.getD j false) i:=funext fun j=>R7.dJ H_
  have Pa:l.toList[i]?=some false:=by
   rw[Array.getElem?_toList,bj H_];have:=Gh;rw[aQ,bj H_] at this;exact congrArg some this
  refine ih _ T' w' (by simpa using hs) ?_ (fun j hj=>?_) (fun j k hj AV=>?_) (by rw[OL];exact Uc)
  ·rw[Array.toList_setIfInBounds];have:=oa Pa
   omega
  ·rw[R7.dJ H_,eO,decide_eq_true_eq] at hj;rcases hj with rfl | hj
   ·exact AW
   exact hlt j hj
  rw[R7.dJ H_,eO,decide_eq_true_eq] at hj ⊢;rcases hj with rfl | hj
  ·exact .inr (iR k AV)
  exact .inr (tP j k hj AV)
theorem region {id:Nat} {w:an} (hm:P.follows .mixedOrders=true) (D:List (List Nat)) (m:Nat) (hok:ok ops D m t0.size=true) (hin:th ops m=true) (J:(Nat->Bool)->Array ay->an->Prop)
  (h0:J (fun _=>false) t0 w.drew)
  (hstep:∀ d T wc i o,J d T wc->ops[i]?=some o->i<m->d i=false->(∀ j,(dep D i).contains j=true->d j=true)->(∀ j k,d j=true->(dep D j).contains k=true->d k=true)->o.guard=none/\∀ K:Act->an->Prop,Hid (∀ T' w',J (r8 d i) T' w'->K ⟨T',ds⟩ w')->o.wp P ⟨T,ds⟩ wc K Q)
  (E5:∀ T wc,J (fun j=>decide (j<m)) T wc->wpList P ops.toArray Q (ops.drop m) ⟨T,ds⟩ wc):(Code.region id ops.toArray true).wp P Q ⟨t0,ds⟩ w:=by
 refine wp_region_any hm ?_
 have hno:(fun j=>(mK ops.toArray.size false).getD j false)=fun _=>false:=funext fun j=>by
  rw[aQ]
  by_cases h:j<ops.length<;>simp[h]
 have hnn:∀ j,(mK ops.toArray.size false).getD j false=true->False:=fun j hj=>by
  have:=congrFun hno j;rw[this] at hj;cases hj
 have hc:(mK ops.toArray.size false).toList.count false=ops.toArray.size:=by simp
 exact main hok hin J hstep E5 _ _ t0 _ (by simp) hc (fun j hj=>(hnn j hj).elim) (fun j k hj=>(hnn j hj).elim) (by rw[hno];exact h0)
end
end oG
end Go.Proofs.YtoncclhbdkjhmaaGreatDoor
namespace Go.Proofs.YtoncclhbdkjhmaaGreatDoor
open Go.RowKit
set_option maxRecDepth 100000
set_option linter.unusedVariables false
set_option linter.unusedSimpArgs false
def DQ:Obj:=.cells #[.int .i64 0,.bool false,.slice none 0 0,.string ⟨#[]⟩,.slice none 0 0] 29 (0,0)
def mN (g:Nat):ay:=.pointer (some ⟨g,0,none⟩)
theorem rj {g h:Nat} (e:(some (mN g):Option ay)=some (mN h)):g=h:=by unfold mN at e;injection e with e;injection e with e;injection e with e;injection e
def N3 (w:an) (T:Array ay) (s a b:Nat) (D:Nat) (P:F->Prop) (da db:Bool):Prop:=
 ∃ y t lo hi,T[s]?=some (fV y)/\FT w (fun q=>lo<=q/\q<hi) D y t/\hi<=w.heap.size/\P t/\(∀ g,da=true->T[a]?=some (mN g)->g<lo\/hi<=g)/\(∀ g,db=true->T[b]?=some (mN g)->g<lo\/hi<=g)
def M4 (W0 w:an) (T:Array ay) (s:Nat):Prop:=∃ g,T[s]?=some (mN g)/\W0.heap.size<=g/\w.heap[g]?=some DQ
structure TJ (W0:an) (t0:Array ay) (sl:Nat->Nat) (X Y:ay) (D1 D3:Nat) (P1 P3:F->Prop) (d:Nat->Bool) (T:Array ay) (w:an):Prop where
 be:aC W0.heap.size W0 w
 sz:T.size=t0.size
 C6:∀ j,(∀ i,i<6->j≠sl i)->T[j]?=t0[j]?
 v0:d 0=true->T[sl 0]?=some X
 v2:d 2=true->T[sl 2]?=some Y
 v1:d 1=true->N3 w T (sl 1) (sl 4) (sl 5) D1 P1 (d 4) (d 5)
 v3:d 3=true->N3 w T (sl 3) (sl 4) (sl 5) D3 P3 (d 4) (d 5)
 v4:d 4=true->M4 W0 w T (sl 4)
 v5:d 5=true->M4 W0 w T (sl 5)
 QW:d 4=true->d 5=true->T[sl 4]? ≠ T[sl 5]?
section
variable {W0:an} {t0:Array ay} {sl:Nat->Nat} {X Y:ay} {D1 D3:Nat} {P1 P3:F->Prop} {d:Nat->Bool} {T:Array ay} {w w':an}
theorem gU {T:Array ay} {i j:Nat} {v:ay} (h:j≠i):(T.setIfInBounds i v)[j]?=T[j]?:=by
 rw[gB];simp[h.symm]
theorem jB {T:Array ay} {i:Nat} {v:ay} (h:i<T.size):(T.setIfInBounds i v)[i]?=some v:=by
 rw[gB];simp[h]
theorem iQ {d:Nat->Bool} {i k:Nat} (h:k≠i):oG.r8 d i k=d k:=by unfold oG.r8;simp[h]
theorem TJ.step (h:TJ W0 t0 sl X Y D1 D3 P1 P3 d T w) (hne:∀ i j,i<6->j<6->i≠j->sl i≠sl j) (hlt:∀ i,i<6->sl i<t0.size) (i:Nat) (hi:i<6) (hd:d i=false) (v:ay) (hb:aC w.heap.size w w')
  (n0:i=0->v=X) (n2:i=2->v=Y) (n1:i=1->∃ y t,v=fV y/\FT w' (fun b=>w.heap.size<=b) D1 y t/\P1 t) (n3:i=3->∃ y t,v=fV y/\FT w' (fun b=>w.heap.size<=b) D3 y t/\P3 t)
  (n4:i=4->v=mN w.heap.size/\w'.heap[w.heap.size]?=some DQ) (n5:i=5->v=mN w.heap.size/\w'.heap[w.heap.size]?=some DQ):TJ W0 t0 sl X Y D1 D3 P1 P3 (oG.r8 d i) (T.setIfInBounds (sl i) v) w':=by
 have hsz:sl i<T.size:=by rw[h.sz];exact hlt i hi
 have NG:W0.heap.size<=w.heap.size:=h.be.size;have get:∀ k,k<6->k≠i->(T.setIfInBounds (sl i) v)[sl k]?=T[sl k]?:=fun k hk yY=>gU (hne k i hk hi yY)
 have wI:(T.setIfInBounds (sl i) v)[sl i]?=some v:=jB hsz
 have NA:∀ k,k=4\/k=5->d k=true->∀ g,T[sl k]?=some (mN g)->g<w.heap.size:=by
  intro k hk Fj g hg;have:M4 W0 w T (sl k):=by rcases hk with rfl | rfl;exact h.v4 Fj;exact h.v5 Fj
  obtain⟨q,hq,_,hc⟩:=this;rw[hq] at hg;rw[<-rj hg];exact ag hc
 have var:∀ k,k=4\/k=5->(d k=true->M4 W0 w T (sl k))->(i=k->v=mN w.heap.size/\w'.heap[w.heap.size]?=some DQ)->oG.r8 d i k=true->M4 W0 w' (T.setIfInBounds (sl i) v) (sl k):=by
  intro k hk hv hn hu
  by_cases yY:k=i
  ·subst yY;obtain⟨e1,e2⟩:=hn rfl;exact⟨w.heap.size,by rw[wI,e1],NG,e2⟩
  rw[iQ yY] at hu;obtain⟨g,h1,h2,h3⟩:=hv hu;exact⟨g,by rw[get k (by omega) yY];exact h1,h2,by rw[hb.block g (ag h3)];exact h3⟩
 -- what a variable's address says of blocks made earlier and later
 have R_:∀ k,k=4\/k=5->∀ lo hi,hi<=w.heap.size->(∀ g,d k=true->T[sl k]?=some (mN g)->g<lo\/hi<=g)->(i=k->v=mN w.heap.size)->∀ g,oG.r8 d i k=true->(T.setIfInBounds (sl i) v)[sl k]?=some (mN g)->g<lo\/hi<=g:=by
  intro k hk lo hi' hhi ho hn g hu hg
  by_cases yY:k=i
  ·subst yY;rw[wI,hn rfl] at hg;have:=rj hg
   omega
  rw[iQ yY] at hu;rw[get k (by omega) yY] at hg;exact ho g hu hg
 have tree:∀ s D P,s=1\/s=3->(d s=true->N3 w T (sl s) (sl 4) (sl 5) D P (d 4) (d 5))->(i=s->∃ y t,v=fV y/\FT w' (fun b=>w.heap.size<=b) D y t/\P t)->oG.r8 d i s=true->N3 w' (T.setIfInBounds (sl i) v) (sl s) (sl 4) (sl 5) D P (oG.r8 d i 4) (oG.r8 d i 5):=by
  intro s D P hs ho hn hu
  by_cases hsi:s=i
  ·subst hsi;obtain⟨y,t,e1,e2,e3⟩:=hn rfl;have h4:oG.r8 d s 4=d 4:=iQ (by omega);have h5:oG.r8 d s 5=d 5:=iQ (by omega);refine⟨y,t,w.heap.size,w'.heap.size,by rw[wI,e1],e2.lt,ak _,e3,fun g hg hgt=>?_,fun g hg hgt=>?_⟩
   ·rw[h4] at hg;rw[get 4 (by omega) (by omega)] at hgt;exact .inl (NA 4 (.inl rfl) hg g hgt)
   rw[h5] at hg;rw[get 5 (by omega) (by omega)] at hgt;exact .inl (NA 5 (.inr rfl) hg g hgt)
  rw[iQ hsi] at hu;obtain⟨y,t,lo,hi',a1,a2,a3,a4,a5,a6⟩:=ho hu;exact⟨y,t,lo,hi',by rw[get s (by omega) hsi];exact a1,a2.below hb,aq a3 hb.size,a4,R_ 4 (.inl rfl) lo hi' a3 a5 (fun e=>(n4 e).1),R_ 5 (.inr rfl) lo hi' a3 a6 (fun e=>(n5 e).1)⟩
 refine⟨h.be.trans (hb.mono NG),by rw[bN,h.sz],fun j hj=>?_,fun hu=>?_,fun hu=>?_,tree 1 D1 P1 (.inl rfl) h.v1 n1,tree 3 D3 P3 (.inr rfl) h.v3 n3,var 4 (.inl rfl) h.v4 n4,var 5 (.inr rfl) h.v5 n5,fun h4 h5=>?_⟩
 ·rw[gU (hj i hi)];exact h.C6 j hj
 ·by_cases hi0:i=0
  ·subst hi0;rw[wI,n0 rfl]
  rw[iQ (fun e=>hi0 e.symm)] at hu;rw[get 0 (by omega) (fun e=>hi0 e.symm)];exact h.v0 hu
 ·by_cases hi0:i=2
  ·subst hi0;rw[wI,n2 rfl]
  rw[iQ (fun e=>hi0 e.symm)] at hu;rw[get 2 (by omega) (fun e=>hi0 e.symm)];exact h.v2 hu
 by_cases h4i:i=4
 ·subst h4i;rw[iQ (by omega)] at h5;rw[get 5 (by omega) (by omega),wI,(n4 rfl).1];intro e;have:=NA 5 (.inr rfl) h5 _ e.symm
  omega
 rw[iQ (fun e=>h4i e.symm)] at h4
 by_cases h5i:i=5
 ·subst h5i;rw[get 4 (by omega) (by omega),wI,(n5 rfl).1];intro e;have:=NA 4 (.inl rfl) h4 _ e
  omega
 rw[iQ (fun e=>h5i e.symm)] at h5;rw[get 4 (by omega) (fun e=>h4i e.symm),get 5 (by omega) (fun e=>h5i e.symm)];exact h.QW h4 h5
theorem TJ.start (W0:an) (t0:Array ay) (sl:Nat->Nat) (X Y:ay) (D1 D3:Nat) (P1 P3:F->Prop):TJ W0 t0 sl X Y D1 D3 P1 P3 (fun _=>false) t0 W0.drew:=
 ⟨(av _ _).drew,rfl,fun _ _=>rfl,fun h=>absurd h cU,fun h=>absurd h cU,fun h=>absurd h cU,fun h=>absurd h cU,fun h=>absurd h cU,fun h=>absurd h cU,fun h=>absurd h cU⟩
theorem TJ.all (h:TJ W0 t0 sl X Y D1 D3 P1 P3 (fun j=>decide (j<6)) T w):∃ y1 t1 y3 t3 g4 g5,(T[sl 1]?=some (fV y1)/\T[sl 3]?=some (fV y3)/\T[sl 4]?=some (mN g4)/\T[sl 5]?=some (mN g5)) /\
  FT w (fun b=>b≠g4/\b≠g5) D1 y1 t1/\FT w (fun b=>b≠g4/\b≠g5) D3 y3 t3/\P1 t1/\P3 t3/\(W0.heap.size<=g4/\W0.heap.size<=g5/\g4≠g5)/\w.heap[g4]?=some DQ/\w.heap[g5]?=some DQ:=by
 obtain⟨y1,t1,lo,hi,a1,a2,a3,a4,a5,a6⟩:=h.v1 rfl;obtain⟨y3,t3,lo',hi',b1,b2,b3,b4,b5,b6⟩:=h.v3 rfl;obtain⟨g4,c1,c2,c3⟩:=h.v4 rfl;obtain⟨g5,d1,d2,d3⟩:=h.v5 rfl;have x4:=a5 g4 rfl c1;have x5:=a6 g5 rfl d1;have z4:=b5 g4 rfl c1;have z5:=b6 g5 rfl d1;exact⟨y1,t1,y3,t3,g4,g5,⟨a1,b1,c1,d1⟩,a2.mono (fun b hb=>⟨by omega,by omega⟩),b2.mono (fun b hb=>⟨by omega,by omega⟩),a4,b4,⟨c2,d2,fun e=>h.QW rfl rfl (by rw[c1,d1,e])⟩,c3,d3⟩
theorem Kz {T t0:Array ay} {s0 s1 s2 s3 s4 s5:Nat} {u0 u1 u2 u3 u4 u5:ay} (hsz:T.size=t0.size) (hne:[s0,s1,s2,s3,s4,s5].Nodup) (hlt:∀ s ∈ [s0,s1,s2,s3,s4,s5],s<t0.size) (h0:T[s0]?=some u0) (h1:T[s1]?=some u1) (h2:T[s2]?=some u2) (h3:T[s3]?=some u3) (h4:T[s4]?=some u4) (h5:T[s5]?=some u5)
  (ho:∀ j,j≠s0->j≠s1->j≠s2->j≠s3->j≠s4->j≠s5->T[j]?=t0[j]?):T=(((((t0.setIfInBounds s0 u0).setIfInBounds s1 u1).setIfInBounds s2 u2).setIfInBounds s3 u3).setIfInBounds s4 u4).setIfInBounds s5 u5:=by
 simp only[List.nodup_cons,dw,cl,or_false,not_or,List.nodup_nil,and_true,not_false_eq_true] at hne;obtain⟨⟨a1,a2,a3,a4,a5⟩,⟨b2,b3,b4,b5⟩,⟨c3,c4,c5⟩,⟨d4,d5⟩,e5⟩:=hne;have l0:=hlt s0 (by simp);have l1:=hlt s1 (by simp);have l2:=hlt s2 (by simp);have l3:=hlt s3 (by simp);have l4:=hlt s4 (by simp);have l5:=hlt s5 (by simp)
 apply lu
 intro j
 by_cases j5:j=s5
 ·subst j5;rw[jB (by simp;exact l5)];exact h5
 rw[gU j5]
 by_cases j4:j=s4
 ·subst j4;rw[jB (by simp;exact l4)];exact h4
 rw[gU j4]
 by_cases j3:j=s3
 ·subst j3;rw[jB (by simp;exact l3)];exact h3
 rw[gU j3]
 by_cases j2:j=s2
 ·subst j2;rw[jB (by simp;exact l2)];exact h2
 rw[gU j2]
 by_cases j1:j=s1
 ·subst j1;rw[jB (by simp;exact l1)];exact h1
 rw[gU j1]
 by_cases j0:j=s0
 ·subst j0;rw[jB l0];exact h0
 rw[gU j0];exact ho j j0 j1 j2 j3 j4 j5
end
def zE (k:Nat):Nat:=if k<3 then k else k+1
theorem G7 {a b:Nat} (h:zE a=zE b):a=b:=by
 unfold zE at h
 split at h<;>split at h<;>omega
theorem EA (k:Nat):zE k≠3:=by unfold zE;split<;>omega
theorem GB (d:Nat->Bool) (i:Nat):(fun k=>oG.r8 d (zE i) (zE k))=oG.r8 (fun k=>d (zE k)) i:=by
 funext k
 unfold oG.r8
 by_cases h:k=i
 ·subst h;simp
 have:zE k≠zE i:=fun e=>h (G7 e)
 simp[h,this]
theorem DX (d:Nat->Bool):(fun k=>oG.r8 d 3 (zE k))=fun k=>d (zE k):=by
 funext k
 unfold oG.r8
 simp[EA k]
theorem C1 {T:Array ay} {i j:Nat} {u v:ay} (h:i≠j):(T.setIfInBounds i u).setIfInBounds j v=(T.setIfInBounds j v).setIfInBounds i u:=by
 apply lu
 intro k;simp only[gB,bN]
 by_cases hk:j=k
 ·subst hk
  by_cases hi:i=j
  ·exact absurd hi h
  simp[hi]
 by_cases hi:i=k
 ·subst hi;simp[hk]
 simp[hk,hi]
theorem zT {T:Array ay} {i:Nat} {u v:ay}:(T.setIfInBounds i u).setIfInBounds i v=T.setIfInBounds i v:=by
 apply lu
 intro k;simp only[gB,bN]
 by_cases hi:i=k
 ·subst hi;simp
 simp[hi]
theorem xT {T:Array ay} {i:Nat} {v:ay} (h:T[i]?=some v):T.setIfInBounds i v=T:=by
 apply lu
 intro k;simp only[gB]
 by_cases hi:i=k
 ·subst hi
  have hl:i<T.size:=by
   by_cases hl:i<T.size
   ·exact hl
   rw[Array.getElem?_eq_none (Nat.le_of_not_lt hl)] at h;cases h
  simp[hl,h]
  rw[bj hl] at h;injection h with h;exact h.symm
 simp[hi]
structure yz (W0:an) (t0:Array ay) (sl:Nat->Nat) (sm:Nat) (u0 z:ay) (X Y:ay) (D1 D3:Nat) (P1 P3:F->Prop) (d:Nat->Bool) (T:Array ay) (w:an):Prop where
 tj:TJ W0 t0 sl X Y D1 D3 P1 P3 (fun k=>d (zE k)) (T.setIfInBounds sm u0) w
 mv:d 3=true->T[sm]?=some z
 sz:T.size=t0.size
section
variable {W0:an} {t0:Array ay} {sl:Nat->Nat} {sm:Nat} {u0 z:ay} {X Y:ay} {D1 D3:Nat} {P1 P3:F->Prop} {d:Nat->Bool} {T:Array ay} {w w':an}
theorem yz.be (h:yz W0 t0 sl sm u0 z X Y D1 D3 P1 P3 d T w):aC W0.heap.size W0 w:=h.tj.be
theorem yz.step (h:yz W0 t0 sl sm u0 z X Y D1 D3 P1 P3 d T w) (hne:∀ i j,i<6->j<6->i≠j->sl i≠sl j) (hlt:∀ i,i<6->sl i<t0.size) (dF:∀ i,i<6->sl i≠sm) (i:Nat) (hi:i<6) (hd:d (zE i)=false) (v:ay) (hb:aC w.heap.size w w')
  (n0:i=0->v=X) (n2:i=2->v=Y) (n1:i=1->∃ y t,v=fV y/\FT w' (fun b=>w.heap.size<=b) D1 y t/\P1 t) (n3:i=3->∃ y t,v=fV y/\FT w' (fun b=>w.heap.size<=b) D3 y t/\P3 t)
  (n4:i=4->v=mN w.heap.size/\w'.heap[w.heap.size]?=some DQ) (n5:i=5->v=mN w.heap.size/\w'.heap[w.heap.size]?=some DQ):yz W0 t0 sl sm u0 z X Y D1 D3 P1 P3 (oG.r8 d (zE i)) (T.setIfInBounds (sl i) v) w' where
 tj:=by
  rw[GB,C1 (dF i hi)];exact h.tj.step hne hlt i hi hd v hb n0 n2 n1 n3 n4 n5
 mv hu:=by
  rw[iQ (fun e=>EA i e.symm)] at hu;rw[gU (fun e=>dF i hi e.symm)];exact h.mv hu
 sz:=by rw[bN];exact h.sz
theorem yz.move (h:yz W0 t0 sl sm u0 z X Y D1 D3 P1 P3 d T w) (hlt:sm<t0.size):yz W0 t0 sl sm u0 z X Y D1 D3 P1 P3 (oG.r8 d 3) (T.setIfInBounds sm z) w where
 tj:=by
  rw[DX,zT];exact h.tj
 mv _:=jB (by rw[h.sz];exact hlt)
 sz:=by rw[bN];exact h.sz
theorem yz.start (W0:an) (t0:Array ay) (sl:Nat->Nat) (sm:Nat) (u0 z X Y:ay) (D1 D3:Nat) (P1 P3:F->Prop) (hu:t0[sm]?=some u0):yz W0 t0 sl sm u0 z X Y D1 D3 P1 P3 (fun _=>false) t0 W0.drew where
 tj:=by
  rw[xT hu];exact TJ.start W0 t0 sl X Y D1 D3 P1 P3
 mv h:=absurd h cU
 sz:=rfl
theorem yz.v0 (h:yz W0 t0 sl sm u0 z X Y D1 D3 P1 P3 d T w) (dF:sl 0≠sm) (hd:d 0=true):T[sl 0]?=some X:=by
 have:=h.tj.v0 hd
 rwa [gU dF] at this
theorem yz.v2 (h:yz W0 t0 sl sm u0 z X Y D1 D3 P1 P3 d T w) (dF:sl 2≠sm) (hd:d 2=true):T[sl 2]?=some Y:=by
 have:=h.tj.v2 hd
 rwa [gU dF] at this
theorem yz.C6 (h:yz W0 t0 sl sm u0 z X Y D1 D3 P1 P3 d T w) (j:Nat) (hj:∀ i,i<6->j≠sl i) (dF:j≠sm):T[j]?=t0[j]?:=by
 have:=h.tj.C6 j hj
 rwa [gU dF] at this
theorem yz.all (h:yz W0 t0 sl sm u0 z X Y D1 D3 P1 P3 (fun j=>decide (j<7)) T w):TJ W0 t0 sl X Y D1 D3 P1 P3 (fun j=>decide (j<6)) (T.setIfInBounds sm u0) w/\T=(T.setIfInBounds sm u0).setIfInBounds sm z:=by
 refine⟨?_,?_⟩
 ·have e:(fun k=>decide (zE k<7))=fun j=>decide (j<6):=by
   funext k
   unfold zE
   split<;>simp<;>omega
  have:=h.tj
  rwa [e] at this
 rw[zT];exact (xT (h.mv rfl)).symm
end
structure JG (W0:an) (t0:Array ay) (n q:Nat) (sl:Nat->Nat) (Fk:Nat->ay->an->Prop) (Rk:Nat->ay->ay->an->Prop) (d:Nat->Bool) (T:Array ay) (w:an):Prop where
 be:aC W0.heap.size W0 w
 sz:T.size=t0.size
 C6:∀ j,(∀ i,i<n->j≠sl i)->T[j]?=t0[j]?
 val:∀ k,k<n->d k=true->∃ v,T[sl k]?=some v/\Fk k v w
 rel:∀ k,k<n->k≠q->d k=true->d q=true->∀ v u,T[sl k]?=some v->T[sl q]?=some u->Rk k v u w
section
variable {W0:an} {t0:Array ay} {n q:Nat} {sl:Nat->Nat} {Fk:Nat->ay->an->Prop} {Rk:Nat->ay->ay->an->Prop} {d:Nat->Bool} {T:Array ay} {w w':an}
theorem JG.start (W0:an) (t0:Array ay) (n q:Nat) (sl:Nat->Nat) (Fk:Nat->ay->an->Prop) (Rk:Nat->ay->ay->an->Prop):JG W0 t0 n q sl Fk Rk (fun _=>false) t0 W0.drew:=
 ⟨(av _ _).drew,rfl,fun _ _=>rfl,fun k _ h=>absurd h cU,fun k _ _ h=>absurd h cU⟩
theorem JG.step (h:JG W0 t0 n q sl Fk Rk d T w) (hF:∀ k v (w w':an),aC w.heap.size w w'->Fk k v w->Fk k v w') (hR:∀ k v u (w w':an),aC w.heap.size w w'->Rk k v u w->Rk k v u w') (hne:∀ i j,i<n->j<n->i≠j->sl i≠sl j) (hlt:∀ i,i<n->sl i<t0.size) (hq:q<n) (i:Nat) (hi:i<n) (hd:d i=false) (v:ay) (hb:aC w.heap.size w w')
  (h1:Fk i v w') (h2:i=q->∀ k,k<n->k≠q->d k=true->∀ x,T[sl k]?=some x->Fk k x w->Rk k x v w') (h3:i≠q->d q=true->∀ u,T[sl q]?=some u->Fk q u w->Rk i v u w'):JG W0 t0 n q sl Fk Rk (oG.r8 d i) (T.setIfInBounds (sl i) v) w':=by
 have hsz:sl i<T.size:=by rw[h.sz];exact hlt i hi
 have NG:W0.heap.size<=w.heap.size:=h.be.size;have get:∀ k,k<n->k≠i->(T.setIfInBounds (sl i) v)[sl k]?=T[sl k]?:=fun k hk yY=>gU (hne k i hk hi yY)
 have wI:(T.setIfInBounds (sl i) v)[sl i]?=some v:=jB hsz;refine⟨h.be.trans (hb.mono NG),by rw[bN,h.sz],fun j hj=>?_,fun k hk hu=>?_,fun k hk yn hu L2 x u hx Hr=>?_⟩
 ·rw[gU (hj i hi)];exact h.C6 j hj
 ·by_cases yY:k=i
  ·subst yY;exact⟨v,wI,h1⟩
  rw[iQ yY] at hu;obtain⟨x,hx,hf⟩:=h.val k hk hu;exact⟨x,by rw[get k hk yY];exact hx,hF k x w w' hb hf⟩
 by_cases yY:k=i
 ·subst yY;rw[wI] at hx;injection hx with hx;subst hx;rw[iQ (fun e=>yn e.symm)] at L2;rw[get q hq (fun e=>yn e.symm)] at Hr;obtain⟨u',NJ,Mp⟩:=h.val q hq L2;rw[Hr] at NJ;injection NJ with NJ;subst NJ;exact h3 yn L2 u Hr Mp
 rw[iQ yY] at hu;rw[get k hk yY] at hx
 by_cases hqi:q=i
 ·subst hqi;rw[wI] at Hr;injection Hr with Hr;subst Hr;obtain⟨x',hx',TS⟩:=h.val k hk hu;rw[hx] at hx';injection hx' with hx';subst hx';exact h2 rfl k hk yn hu x hx TS
 rw[iQ hqi] at L2;rw[get q hq hqi] at Hr;exact hR k x u w w' hb (h.rel k hk yn hu L2 x u hx Hr)
end
theorem Ky {T t0:Array ay} {s0 s1 s2 s3 s4 s5 s6 s7:Nat} {u0 u1 u2 u3 u4 u5 u6 u7:ay} (hsz:T.size=t0.size) (hlt:∀ s ∈ [s0,s1,s2,s3,s4,s5,s6,s7],s<t0.size) (h0:T[s0]?=some u0) (h1:T[s1]?=some u1) (h2:T[s2]?=some u2) (h3:T[s3]?=some u3) (h4:T[s4]?=some u4) (h5:T[s5]?=some u5) (h6:T[s6]?=some u6) (h7:T[s7]?=some u7)
  (ho:∀ j,j≠s0->j≠s1->j≠s2->j≠s3->j≠s4->j≠s5->j≠s6->j≠s7->T[j]?=t0[j]?) (hne:[s0,s1,s2,s3,s4,s5,s6,s7].Nodup):T=(((((((t0.setIfInBounds s0 u0).setIfInBounds s1 u1).setIfInBounds s2 u2).setIfInBounds s3 u3).setIfInBounds s4 u4).setIfInBounds s5 u5).setIfInBounds s6 u6).setIfInBounds s7 u7:=by
 have l0:=hlt s0 (by simp);have l1:=hlt s1 (by simp);have l2:=hlt s2 (by simp);have l3:=hlt s3 (by simp);have l4:=hlt s4 (by simp);have l5:=hlt s5 (by simp);have l6:=hlt s6 (by simp);have l7:=hlt s7 (by simp)
 apply lu
 intro j
 by_cases j7:j=s7
 ·subst j7;rw[jB (by (try simp only[bN]);exact l7)];exact h7
 rw[gU j7]
 by_cases j6:j=s6
 ·subst j6;rw[jB (by (try simp only[bN]);exact l6)];exact h6
 rw[gU j6]
 by_cases j5:j=s5
 ·subst j5;rw[jB (by (try simp only[bN]);exact l5)];exact h5
 rw[gU j5]
 by_cases j4:j=s4
 ·subst j4;rw[jB (by (try simp only[bN]);exact l4)];exact h4
 rw[gU j4]
 by_cases j3:j=s3
 ·subst j3;rw[jB (by (try simp only[bN]);exact l3)];exact h3
 rw[gU j3]
 by_cases j2:j=s2
 ·subst j2;rw[jB (by (try simp only[bN]);exact l2)];exact h2
 rw[gU j2]
 by_cases j1:j=s1
 ·subst j1;rw[jB (by (try simp only[bN]);exact l1)];exact h1
 rw[gU j1]
 by_cases j0:j=s0
 ·subst j0;rw[jB (by (try simp only[bN]);exact l0)];exact h0
 rw[gU j0];exact ho j j0 j1 j2 j3 j4 j5 j6 j7
theorem Ou {w:an} {g:Nat} {T:bu} {p q:ByteArray} (h:w.heap[g]?=some (.cells #[.string p,.string q] T (0,0))):Is w (.slice (some ⟨g,0,none⟩) 2 2) [p,q]:=by
 refine⟨_,_,rfl,by simp,.inr ⟨g,rfl,fun j hj=>?_⟩⟩;have vN:j<2:=hj;have:j=0\/j=1:=by omega
 rcases this with rfl | rfl<;>exact ae h _ rfl
theorem R2 {w:an} {S:Nat->Prop} {d g:Nat} {T:bu} {u1 u2:FU} {t1 t2:F} (h:w.heap[g]?=some (.cells (fC u1++fC u2).toArray T (0,0))) (h1:FT w S d u1 t1) (h2:FT w S d u2 t2) (hg:S g):FL w S d (.slice (some ⟨g,0,none⟩) 2 2) [t1,t2]:=by
 refine⟨[(u1,t1),(u2,t2)],⟨_,_,rfl,⟨ak _,by decide,fun e=>by cases e⟩,fun _ a ha=>by injection ha with ha;subst ha;exact hg,fun i hi=>?_⟩,rfl⟩;have vB:i<2:=hi;have:i=0\/i=1:=by omega
 rcases this with rfl | rfl
 ·refine⟨⟨_,rfl,fun j v hj=>?_⟩,h1⟩;have hj':(fC u1)[j]?=some v:=hj;have Mj:j<5:=by have:=(List.getElem?_eq_some_iff.1 hj').1;simpa [fC] using this
  have:j=0\/j=1\/j=2\/j=3\/j=4:=by omega
  rcases this with rfl | rfl | rfl | rfl | rfl<;>(injection hj' with hj';subst hj';exact ae h _ rfl)
 refine⟨⟨_,rfl,fun j v hj=>?_⟩,h2⟩;have hj':(fC u2)[j]?=some v:=hj;have Mj:j<5:=by have:=(List.getElem?_eq_some_iff.1 hj').1;simpa [fC] using this
 have:j=0\/j=1\/j=2\/j=3\/j=4:=by omega
 rcases this with rfl | rfl | rfl | rfl | rfl<;>(injection hj' with hj';subst hj';exact ae h _ rfl)
def J1 (b:Bool) (o:Option Addr) (l c:Nat):ay:=.agg #[.int .i64 0,.bool b,.slice o l c,.string ⟨#[]⟩,.slice none 0 0]
def F8 (X:an) (pn:ByteArray) (V1 V3:ay) (t3 P:F):Nat->ay->an->Prop
 | 0,v,_=>v=V1
 | 1,v,_=>v=.string pn
 | 2,v,w=>Is w v [pn,i9]
 | 3,v,_=>v=V3
 | 4,v,w=>∃ b o l c,v=J1 b o l c/\CI w (.agg #[.bool b,.slice o l c]) 1 600
 | 5,v,w=>FL w (fun b=>b<w.heap.size) 4 v [t3,pK]
 | 6,v,w=>FC w (fun b=>b<w.heap.size) 9 v P
 | 7,v,w=>∃ g,v=mN g/\X.heap.size<=g/\w.heap[g]?=some DQ
 | _,_,_=>True
def R8 (t3 P:F):Nat->ay->ay->an->Prop
 | 5,v,u,w=>∀ g,u=mN g->FL w (fun b=>b≠g) 4 v [t3,pK]
 | 6,v,u,w=>∀ g,u=mN g->FC w (fun b=>b≠g) 9 v P
 | _,_,_,_=>True
theorem F8.below {X:an} {pn:ByteArray} {V1 V3:ay} {t3 P:F}:∀ k v (w w':an),aC w.heap.size w w'->F8 X pn V1 V3 t3 P k v w->F8 X pn V1 V3 t3 P k v w'
 | 0,_,_,_,_,h=>h
 | 1,_,_,_,_,h=>h
 | 2,_,_,_,hb,h=>Is.below h hb
 | 3,_,_,_,_,h=>h
 | 4,_,_,_,hb,⟨b,o,l,c,h1,h2⟩=>⟨b,o,l,c,h1,h2.below hb⟩
 | 5,_,_,_,hb,h=>(FL.below h hb).mono fun b h=>aK h hb.size
 | 6,_,_,_,hb,h=>(FC.below h hb).mono fun b h=>aK h hb.size
 | 7,_,_,_,hb,⟨g,h1,h2,h3⟩=>⟨g,h1,h2,by rw[hb.block g (ag h3)];exact h3⟩
 | _+8,_,_,_,_,_=>trivial
theorem R8.below {t3 P:F}:∀ k v u (w w':an),aC w.heap.size w w'->R8 t3 P k v u w->R8 t3 P k v u w'
 | 5,_,_,_,_,hb,h=>fun g e=>(h g e).below hb
 | 6,_,_,_,_,hb,h=>fun g e=>(h g e).below hb
 | 0,_,_,_,_,_,_=>trivial
 | 1,_,_,_,_,_,_=>trivial
 | 2,_,_,_,_,_,_=>trivial
 | 3,_,_,_,_,_,_=>trivial
 | 4,_,_,_,_,_,_=>trivial
 | _+7,_,_,_,_,_,_=>trivial
theorem R8.new {X:an} {pn:ByteArray} {V1 V3:ay} {t3 P:F} {w':an}:∀ k v (w:an),aC w.heap.size w w'->F8 X pn V1 V3 t3 P k v w->R8 t3 P k v (mN w.heap.size) w'
 | 5,_,w,hb,h=>fun g e=>by rw[<-rj (congrArg some e)];exact (FL.mono (fun b h=>Nat.ne_of_lt h) h).below hb
 | 6,_,w,hb,h=>fun g e=>by rw[<-rj (congrArg some e)];exact (FC.mono (fun b h=>Nat.ne_of_lt h) h).below hb
 | 0,_,_,_,_=>trivial
 | 1,_,_,_,_=>trivial
 | 2,_,_,_,_=>trivial
 | 3,_,_,_,_=>trivial
 | 4,_,_,_,_=>trivial
 | _+7,_,_,_,_=>trivial
attribute [local go_sem] jn jm jl jk
theorem El.At.cut {α:Type} {E:El α} {w:an} {ko:Option Addr} {n kc:Nat} {el:List α} (h:E.At w (.slice ko n kc) el):E.At w (.slice ko n n) el:=by
 obtain⟨EG,Bn,e,⟨h1,h2,h3⟩,h4⟩:=h;injection e with e1 e2 e3;subst e1;subst e2;subst e3;exact⟨_,_,rfl,⟨ak _,by omega,fun h=>by have:=h3 h;omega⟩,h4⟩
theorem El.At.front {α:Type} {E:El α} {w:an} {g cap:Nat} {el:List α} {z:Array ay} (h:w.heap[g]?=some (.cells ((el.flatMap E.f).toArray++z) E.e (0,0))) (hl:el.length<=cap) (hc:cap<=fO) (hR:∀ a ∈ el,E.R w a):E.At w (.slice (some ⟨g,0,none⟩) el.length cap) el:=by
 refine⟨_,_,rfl,⟨hl,hc,fun h=>by cases h⟩,fun i hi=>⟨_,rfl,⟨_,h⟩,fun j u hu=>?_,hR _ (cI hi)⟩⟩;have hj:j<E.n:=by have:=(List.getElem?_eq_some_iff.1 hu).1;rwa [E.len] at this
 have hq:i*E.n+j<(el.flatMap E.f).length:=by
  rw[mH E.f E.len]
  calc i*E.n+j<i*E.n+E.n:=by omega
   _=(i+1)*E.n:=by rw[Nat.add_mul];omega
   _<=el.length*E.n:=Nat.mul_le_mul_right _ hi
 rw[j8,eG,cell_of_row w g _ _ _ _ h,Array.getElem?_append_left (by simpa using hq),eY,lU E.f E.len el i j hi hj];exact hu
theorem El.At.more {α:Type} {E:El α} {w:an} {ko:Option Addr} {n:Nat} {x:ay} {el ns:List α} (h:E.At w (.slice ko n n) el) (hx:E.At w x ns) (h0:0<ns.length) (hlen:el.length+ns.length<=1000000) (ty:bu) :
  ∃ v' w',(Builtin.append_ #[E.t,E.t] ty #[.slice ko n n,x]).run ax w=.ok v' w'/\E.At w' v' (el++ns)/\aC w.heap.size w w':=by
 obtain⟨i,hi,hz,jK,tN⟩:=info_parts E.info;have ht:=E.ht;have hbyte:=E.KF;obtain⟨xo,xc,rfl,DF,nR⟩:=id hx;obtain⟨a,rfl,-,-,La⟩:=nR 0 h0;have hnews:=hx.news;have hl:(ns.flatMap E.f).length=ns.length*i.size:=by rw[jK];exact mH E.f E.len ns
 have cV:(el.length+ns.length)*i.bytes<=140737488355328:=by
  rw[tN];exact aq (Nat.mul_le_mul hlen hbyte) (by decide)
 have DJ:el.length+ns.length<=fO:=by unfold fO;omega
 have hR:∀ b ∈ el++ns,E.R w b:=fun b hb=>by
  rcases List.mem_append.1 hb with hb | hb
  ·obtain⟨k,hk,rfl⟩:=List.getElem_of_mem hb;obtain⟨_,_,_,_,h5⟩:=h;obtain⟨_,_,_,_,h6⟩:=h5 k hk;exact h6
  obtain⟨k,hk,rfl⟩:=List.getElem_of_mem hb;obtain⟨_,_,_,h6⟩:=nR k hk;exact h6.2
 have cG:∀ o:Obj,aC w.heap.size w (w.drew.alloc o):=fun o=>((av _ _).drew).alloc (ak _) o
 have hn:n=el.length:=by obtain⟨_,_,e,_⟩:=h;injection e
 cases ko with
 | none =>
  have Uk:n=0:=by obtain⟨_,_,e,⟨_,_,h3⟩,_⟩:=h;injection e with e1 e2 e3;rw[e3];exact h3 e1.symm
  have he:el=[]:=fh (by omega);subst Uk;subst he;have vL:=run_append_nil (P:=ax) w E.t ty E.e i E.z ht hi hz a ns.length xc _ hl hnews h0 (by omega) (by rw[xC,eG] at cV;omega);refine⟨_,_,vL,?_,cG _⟩;exact El.At.front (el:=ns) (dc w.drew _) (grownCap_ge ..) (grownCap_le_maxLen _ _ _ _ (by simpa using DJ)) (fun b hb=>E.below (hR b (by simpa using hb)) (cG _))
 | some b =>
  have hlo:(el.flatMap E.f).length=n*i.size:=by rw[jK,hn];exact mH E.f E.len el
  have vL:=run_append_grow (P:=ax) w E.t ty E.e i E.z ht hi hz b n n _ hlo h.news a ns.length xc _ hl hnews (by omega) (by omega) (growslice_fits (by omega) (by rw[hn];exact cV));refine⟨_,_,vL,?_,cG _⟩;have e:(el.flatMap E.f).toArray++(ns.flatMap E.f).toArray=((el++ns).flatMap E.f).toArray:=by rw[List.flatMap_append];simp
  have hh:=dc w.drew (.cells ((el.flatMap E.f).toArray++(ns.flatMap E.f).toArray++Builtin.zeroCells E.z.cells (grownCap w (n+ns.length) n E.e - (n+ns.length))) E.e);rw[e] at hh;have:=El.At.front (el:=el++ns) (cap:=grownCap w (n+ns.length) n E.e) hh (by rw[fI,<-hn];exact grownCap_ge ..) (grownCap_le_maxLen _ _ _ _ (by rw[hn];exact DJ)) (fun b hb=>E.below (hR b hb) (cG _));rw[fI,<-hn] at this;rw[e];exact this
theorem CP {o:Oper} {a:Act} {w w':an} {v x v':ay} {t:bu} {K:Act->an->Prop} {Q:Exit->Act->an->Prop} (s y:Operand)
  (ho:o.op=.call { callee:=.builtin .append,args:=#[s,y],argTypes:=#[t,t] }) (hs:a.eval s=v) (hx:a.eval y=x) (hr:(Builtin.append_ #[t,t] o.type #[v,x]).run ax w=.ok v' w') (hK:K (a.put o.dst v') w'):o.wp ax a w K Q:=by
 unfold Oper.wp execOp;simp only[ho,resolve,invoke,builtin,Sem.run_bind,Sem.run_pure,Result.andThen_ok,List.map_toArray,List.map_cons,List.map_nil,hs,hx,hr];exact hK
theorem JY {w:an} {g:Nat} {T:bu} (h:w.heap[g]?=some (.cells #[.string ⟨#[105,48]⟩,.string ⟨#[98,48]⟩,.string ⟨#[108,48]⟩] T (0,0))) (j:Nat) (hj:j<3):w.cell? ⟨g,j,none⟩=some (.string (Ci j)):=by
 have:j=0\/j=1\/j=2:=by omega
 rcases this with rfl | rfl | rfl<;>exact ae h _ rfl
theorem LA (o:Int) (b:Bool) (ao:Option Addr) (l c:Nat) (nm:ByteArray) (ko:Option Addr) (kl kc:Nat) (w:an) (h:nj w 5 ⟨o,b,ao,l,c,nm,ko,kl,kc⟩) :
  Calls ax 13 #[.agg #[.int .i64 o,.bool b,.slice ao l c,.string nm,.slice ko kl kc],.int .i64 1,.int .i64 5] w (kZ 5 1 w):=D9 4 (by decide) 1 o b ao l c nm ko kl kc w (Or.inr (Or.inl rfl)) h
theorem JE (s:Nat) (hs:s<3) (o:Int) (b:Bool) (ao:Option Addr) (l c:Nat) (nm:ByteArray) (ko:Option Addr) (kl kc:Nat) (w:an) (h:nj w 4 ⟨o,b,ao,l,c,nm,ko,kl,kc⟩) :
  Calls ax 13 #[.agg #[.int .i64 o,.bool b,.slice ao l c,.string nm,.slice ko kl kc],.int .i64 (s:Int),.int .i64 4] w (kZ 4 s w):=D9 3 (by decide) s o b ao l c nm ko kl kc w (by omega) h
def M7 (X:an) (i:ay) (wr:an):Prop:=∃ j:Nat,i=.int .i64 (j:Nat)/\j<=3/\Hid (aC X.heap.size X wr)
open Classical in
theorem C4 (x y:RU) (ko:Option Addr) (n kc:Nat) (w:an) (hx:∀ d,nj w d x) (hy:∀ d,nj w d y) (hv:q8 w ko n kc) (ht:CJ w) :
  Calls ax 3 #[rV x,rV y,.slice ko n kc] w fun e w'=>e=.returned (.bool true)/\aC w.heap.size w w':=by
 obtain⟨xo,xb,ew,xl,xc,ek,eH,dV,dW⟩:=x;obtain⟨yo,yb,zD,yl,yc,Gv,Gw,Gx,Gy⟩:=y;have HX:=aa (hx 5);have HY:=aa (hy 4);have HV:=aa hv;have HT:=aa ht;unfold rV;simp only;clear hx hy ht hv;have HW:=aa (av w.heap.size w);go_enter Tryz.func3,Tryz.ntmps3
 obtain⟨x1,kf,ef,hO,aR,gL,aj⟩:=aL w #[.int .i64 xo,.bool xb,.slice ew xl xc,.string ek,.slice eH dV dW] 29;replace HW:=aa (HW.out.trans (aR.out.mono HW.out.size));replace HX:=aa (HX.out.below aR.out);replace HY:=aa (HY.out.below aR.out);replace HT:=aa (HT.out.below aR.out);replace HV:=aa (HV.out.below aR.out);obtain⟨x2,kg,eg,WI,Gf,Wj,FY⟩:=aL x1 #[.int .i64 yo,.bool yb,.slice zD yl yc,.string Gv,.slice Gw Gx Gy] 29;replace aj:=aG Gf.out aj;replace HW:=aa (HW.out.trans (Gf.out.mono HW.out.size));replace HX:=aa (HX.out.below Gf.out);replace HY:=aa (HY.out.below Gf.out);replace HT:=aa (HT.out.below Gf.out);replace HV:=aa (HV.out.below Gf.out);go_wp2_with fail
 refine (MQ x2).mono ?_;rintro e x3 ⟨rfl,hb⟩;replace aj:=aG hb aj;replace FY:=aG hb FY;replace HW:=aa (HW.out.trans (hb.mono HW.out.size));replace HX:=aa (HX.out.below hb);replace HY:=aa (HY.out.below hb);replace HT:=aa (HT.out.below hb);replace HV:=aa (HV.out.below hb);go_wp2_with fail
 refine (MS ko n kc x3 HV.out).mono ?_;rintro e x4 ⟨ve,env,rfl,hel,Pf,hb⟩;replace aj:=aG hb aj;replace FY:=aG hb FY;replace HW:=aa (HW.out.trans (hb.mono HW.out.size));replace HX:=aa (HX.out.below hb);replace HY:=aa (HY.out.below hb);replace HT:=aa (HT.out.below hb);replace HV:=aa (HV.out.below hb);obtain⟨us,zG,Pe⟩:=hel;have h7:us.length=7:=by have h1:=congrArg List.length Pf.1;rw[<-Pe] at h1;simpa [jo] using h1
 have Pw:=zG;obtain⟨eo,ec,rfl,⟨RH,Pg,-⟩,-⟩:=Pw;rw[h7] at zG RH ⊢;have qD:=aa zG;have Sx:=aa Pe;have Lr:=aa Pf;have H7:=aa h7;have hem:ec<=9223372036854775807:=Pg;clear zG Pe Pf h7 HV hb;obtain⟨x5,kn,en,Le,BD,hkn,oe⟩:=aL x4 #[.string ⟨#[105,48]⟩,.string ⟨#[98,48]⟩,.string ⟨#[108,48]⟩] 9;replace aj:=aG BD.out aj;replace FY:=aG BD.out FY;replace HW:=aa (HW.out.trans (BD.out.mono HW.out.size));replace HX:=aa (HX.out.below BD.out);replace HY:=aa (HY.out.below BD.out);replace HT:=aa (HT.out.below BD.out);replace qD:=aa (qD.out.below BD.out);go_wp2_with fail
 go_loopw [20] (M7 x5) (fun i _=>3 - (intOf i).toNat)
 case atStart=>exact⟨0,rfl,au _,aa (av _ _)⟩
 case round =>
  obtain⟨j,rfl,hj,HB⟩:=hrel;replace HX:=aa (HX.out.below HB.out);replace HY:=aa (HY.out.below HB.out);replace HT:=aa (HT.out.below HB.out);replace qD:=aa (qD.out.below HB.out);replace HW:=aa (HW.out.trans (HB.out.mono HW.out.size));replace aj:=aG HB.out aj;replace FY:=aG HB.out FY;replace oe:=aG HB.out oe
  by_cases hlt:j<3
  ·have cn:=JY oe.out j hlt;obtain⟨pn,K6⟩:∃ p,p=Ci j:=⟨_,rfl⟩
   rw[<-K6] at cn;have U_:=aa K6;have Ln:=aa hlt;clear K6;go_upto_region 7 with fail
   clear cn;have Aj:=ag aj.out;have OY:=ag FY.out;have IC:Hid (∀ i,i<6->∀ j,j<6->i≠j->(fun i=>[25,26,27,29,10,11].getD i 0) i≠(fun i=>[25,26,27,29,10,11].getD i 0) j):=aa (by decide);have Sq:Hid (∀ i,i<6->(fun i=>[25,26,27,29,10,11].getD i 0) i<30):=aa (by decide);have rN:Hid (∀ i,i<6->(fun i=>[25,26,27,29,10,11].getD i 0) i≠28):=aa (by decide)
   refine oG.region (by kernel_rfl) [[],[0],[],[],[0,1,2,3],[],[],[0,1,2,3,4,5,6],[0,1,2,3,4,5,6,7]] 7 (by kernel_rfl) (by kernel_rfl) (yz wr _ (fun i=>[25,26,27,29,10,11].getD i 0) 28 u28 (.int .i64 ((j:Nat):Int)) (.agg #[.int .i64 xo,.bool xb,.slice ew xl xc,.string ek,.slice eH dV dW]) (.agg #[.int .i64 yo,.bool yb,.slice zD yl yc,.string Gv,.slice Gw Gx Gy]) 5 4 (fun t=>rt t=true/\jh t.op=1/\Tm 5 t) (fun t=>rt t=true/\jh t.op=((j:Nat):Int)/\Tm 4 t)) (yz.start _ _ _ _ _ _ _ _ _ _ _ _ (by rfl)) ?_ ?_
   ·intro d T wc i o hJ ho hi hd iR tP;have hstep:=fun q (hq:q<6) (TW:d (zE q)=false) v (w2:an)=>hJ.step (v:=v) (w':=w2) (fun i j hi hj=>IC.out i hi j hj) (fun i hi=>aK (Sq.out i hi) (of_decide_eq_true rfl)) (fun i hi=>rN.out i hi) q hq TW
    have HJ:=aa hJ;obtain rfl | rfl | rfl | rfl | rfl | rfl | rfl:i=0\/i=1\/i=2\/i=3\/i=4\/i=5\/i=6:=by omega
    ·injection ho with ho;subst ho;have es:T[3]?=some (.pointer (some ⟨kf,0,none⟩)):=(hJ.C6 3 (by decide) (by decide)).trans (by rfl);have aP:=(hJ.be.block _ Aj).trans aj.out;have q0:=ae (v:=.int .i64 xo) aP 0 rfl;have q1:=ae (v:=.bool xb) aP 1 rfl;have q2:=ae (v:=.slice ew xl xc) aP 2 rfl;have q3:=ae (v:=.string ek) aP 3 rfl;have q4:=ae (v:=.slice eH dV dW) aP 4 rfl;clear aP hJ iR tP;refine⟨rfl,fun K hK=>?_⟩;have mj:=aa hstep;clear hstep;go_simp
     exact hK.out _ _ (mj.out 0 (by decide) hd _ _ (av _ _) (fun _=>rfl) (fun h=>absurd h (by decide)) (fun h=>absurd h (by decide)) (fun h=>absurd h (by decide)) (fun h=>absurd h (by decide)) (fun h=>absurd h (by decide)))
    ·injection ho with ho;subst ho;have es:T[25]?=some (.agg #[.int .i64 xo,.bool xb,.slice ew xl xc,.string ek,.slice eH dV dW]):=hJ.v0 (by decide) (iR 0 (by rfl));have ei:=hJ.be;clear hJ iR tP;refine⟨rfl,fun K hK=>?_⟩;have mj:=aa hstep;clear hstep;go_simp
     refine (LA _ _ _ _ _ _ _ _ _ wc (HX.out.below ei)).mono ?_;rintro e w' ⟨v,t,rfl,⟨y,rfl,hy⟩,h2,h3,h4,hb'⟩;exact hK.out _ _ (mj.out 1 (by decide) hd _ _ hb' (fun h=>absurd h (by decide)) (fun h=>absurd h (by decide)) (fun _=>⟨y,t,rfl,hy,h2,h3,h4⟩) (fun h=>absurd h (by decide)) (fun h=>absurd h (by decide)) (fun h=>absurd h (by decide)))
    ·injection ho with ho;subst ho;have es:T[4]?=some (.pointer (some ⟨kg,0,none⟩)):=(hJ.C6 4 (by decide) (by decide)).trans (by rfl);have aP:=(hJ.be.block _ OY).trans FY.out;have q0:=ae (v:=.int .i64 yo) aP 0 rfl;have q1:=ae (v:=.bool yb) aP 1 rfl;have q2:=ae (v:=.slice zD yl yc) aP 2 rfl;have q3:=ae (v:=.string Gv) aP 3 rfl;have q4:=ae (v:=.slice Gw Gx Gy) aP 4 rfl;clear aP hJ iR tP;refine⟨rfl,fun K hK=>?_⟩;have mj:=aa hstep;clear hstep;go_simp
     exact hK.out _ _ (mj.out 2 (by decide) hd _ _ (av _ _) (fun h=>absurd h (by decide)) (fun _=>rfl) (fun h=>absurd h (by decide)) (fun h=>absurd h (by decide)) (fun h=>absurd h (by decide)) (fun h=>absurd h (by decide)))
    ·injection ho with ho;subst ho;have es:T[8]?=some (.int .i64 ((j:Nat):Int)):=(hJ.C6 8 (by decide) (by decide)).trans (by rfl);clear iR tP hstep;refine⟨rfl,fun K hK=>?_⟩;clear hJ;go_simp
     exact hK.out _ _ (HJ.out.move (of_decide_eq_true rfl))
    ·injection ho with ho;subst ho;have es:T[27]?=some (.agg #[.int .i64 yo,.bool yb,.slice zD yl yc,.string Gv,.slice Gw Gx Gy]):=hJ.v2 (by decide) (iR 2 (by rfl));have em:T[28]?=some (.int .i64 ((j:Nat):Int)):=hJ.mv (iR 3 (by rfl));have ei:=hJ.be;clear hJ iR tP;refine⟨rfl,fun K hK=>?_⟩;have mj:=aa hstep;clear hstep;go_simp
     refine (JE j Ln.out _ _ _ _ _ _ _ _ _ wc (HY.out.below ei)).mono ?_;rintro e w' ⟨v,t,rfl,⟨y,rfl,hy⟩,h2,h3,h4,hb'⟩;exact hK.out _ _ (mj.out 3 (by decide) hd _ _ hb' (fun h=>absurd h (by decide)) (fun h=>absurd h (by decide)) (fun h=>absurd h (by decide)) (fun _=>⟨y,t,rfl,hy,h2,h3,h4⟩) (fun h=>absurd h (by decide)) (fun h=>absurd h (by decide)))
    ·injection ho with ho;subst ho;clear hJ iR tP;refine⟨rfl,fun K hK=>?_⟩;have mj:=aa hstep;clear hstep;go_simp
     exact hK.out _ _ (mj.out 4 (by decide) hd _ _ ((av _ _).alloc (ak _) _) (fun h=>absurd h (by decide)) (fun h=>absurd h (by decide)) (fun h=>absurd h (by decide)) (fun h=>absurd h (by decide)) (fun _=>⟨rfl,dc wc _⟩) (fun h=>absurd h (by decide)))
    injection ho with ho;subst ho;clear hJ iR tP;refine⟨rfl,fun K hK=>?_⟩;have mj:=aa hstep;clear hstep;go_simp
    exact hK.out _ _ (mj.out 5 (by decide) hd _ _ ((av _ _).alloc (ak _) _) (fun h=>absurd h (by decide)) (fun h=>absurd h (by decide)) (fun h=>absurd h (by decide)) (fun h=>absurd h (by decide)) (fun h=>absurd h (by decide)) (fun _=>⟨rfl,dc wc _⟩))
   intro T wt RV;obtain⟨hJ,hTe⟩:=RV.all;obtain⟨y1,t1,y3,t3,ga,gb,⟨a1,a3,a4,a5⟩,NQ,MA,⟨hr1,hs1,AU⟩,⟨L7,Cq,Ry⟩,⟨RE,RD,Mm⟩,hca,hcb⟩:=hJ.all;have ct:=hJ.be;have L0:=hJ.v0 rfl;have yg:=hJ.v2 rfl;have hfr:=Kz (s0:=25) (s1:=26) (s2:=27) (s3:=29) (s4:=10) (s5:=11) hJ.sz (by decide) (by intro s hs;simp only[dw,cl,or_false] at hs;rcases hs with rfl | rfl | rfl | rfl | rfl | rfl<;>exact of_decide_eq_true rfl) L0 a1 yg a3 a4 a5 (fun j h0 h1 h2 h3 h4 h5=>hJ.C6 j (fun i hi=>by have h6:i=0\/i=1\/i=2\/i=3\/i=4\/i=5:=(by omega);rcases h6 with rfl | rfl | rfl | rfl | rfl | rfl<;>assumption));rw[hfr] at hTe;clear hJ RV IC Sq rN L0 yg a1 a3 a4 a5 hfr;subst hTe
   simp only[mN,fV,eC,iy,gI,List.drop_succ_cons,List.drop_zero];unfold DQ at hca hcb;have bk:=aa hca;have r5:=aa hcb;have RC:gb≠ga:=fun e=>Mm e.symm
   clear hca hcb;obtain⟨⟨u0,u1,u2,u3,u4⟩,Ld,Lc,PN,PM,PL⟩:=aV bk.out;obtain⟨⟨q0,q1,q2,q3,q4⟩,PU,PT,PS,PR,PO⟩:=aV r5.out;go_upto_region 8 with fail
   clear u0 u1 u2 u3 u4 Ld Lc PN PM PL q0 q1 q2 q3 q4 PU PT PS PR PO;have Jh:=fj bk.out (.int .i64 y1.k) (.bool (decide (y1.n.z<0))) (.slice y1.n.o y1.n.l y1.n.c) (.string y1.nm) (.slice y1.ko y1.kl y1.kc);have I4:Fr 29 wt _:=.aN (aY (w:=wt) (k:=ga) (.int .i64 y1.k) (.bool (decide (y1.n.z<0))) (.slice y1.n.o y1.n.l y1.n.c) (.string y1.nm) (.slice y1.ko y1.kl y1.kc)) (fun j hj=>by injection hj with hj;subst hj;exact⟨_,bk.out,b_⟩);have eB:=aY (w:=wt) (k:=ga) (.int .i64 y1.k) (.bool (decide (y1.n.z<0))) (.slice y1.n.o y1.n.l y1.n.c) (.string y1.nm) (.slice y1.ko y1.kl y1.kc)
   obtain⟨W1,lN⟩:∃ q,q=((((wt.setCell ⟨ga,0,none⟩ (.int .i64 y1.k)).setCell ⟨ga,1,none⟩ (.bool (decide (y1.n.z<0)))).setCell ⟨ga,2,none⟩ (.slice y1.n.o y1.n.l y1.n.c)).setCell ⟨ga,3,none⟩ (.string y1.nm)).setCell ⟨ga,4,none⟩ (.slice y1.ko y1.kl y1.kc):=⟨_,rfl⟩
   rw[<-lN] at Jh I4 eB ⊢;have dm:=(eB.block gb (ag r5.out) (fun e=>by injection e with e;exact Mm e.symm)).trans r5.out;have cV:=fj dm (.int .i64 y3.k) (.bool (decide (y3.n.z<0))) (.slice y3.n.o y3.n.l y3.n.c) (.string y3.nm) (.slice y3.ko y3.kl y3.kc);have hrb:Fr 29 W1 _:=.aN (aY (w:=W1) (k:=gb) (.int .i64 y3.k) (.bool (decide (y3.n.z<0))) (.slice y3.n.o y3.n.l y3.n.c) (.string y3.nm) (.slice y3.ko y3.kl y3.kc)) (fun j hj=>by injection hj with hj;subst hj;exact⟨_,dm,b_⟩);have eV:=aY (w:=W1) (k:=gb) (.int .i64 y3.k) (.bool (decide (y3.n.z<0))) (.slice y3.n.o y3.n.l y3.n.c) (.string y3.nm) (.slice y3.ko y3.kl y3.kc)
   obtain⟨W2,jN⟩:∃ q,q=((((W1.setCell ⟨gb,0,none⟩ (.int .i64 y3.k)).setCell ⟨gb,1,none⟩ (.bool (decide (y3.n.z<0)))).setCell ⟨gb,2,none⟩ (.slice y3.n.o y3.n.l y3.n.c)).setCell ⟨gb,3,none⟩ (.string y3.nm)).setCell ⟨gb,4,none⟩ (.slice y3.ko y3.kl y3.kc):=⟨_,rfl⟩
   rw[<-jN] at cV hrb eV ⊢;have tA:=(eV.block ga (ag Jh) (fun e=>by injection e with e;exact RC e.symm)).trans Jh;have MD:=((NQ.grown eB (KN.fG I4) (fun b hb e=>hb.1 (by injection e with e;exact e.symm))).grown eV (KN.fG hrb) (fun b hb e=>hb.2 (by injection e with e;exact e.symm))).mono (S':=tS) (fun _ _=>trivial);have MC:=((MA.grown eB (KN.fG I4) (fun b hb e=>hb.1 (by injection e with e;exact e.symm))).grown eV (KN.fG hrb) (fun b hb e=>hb.2 (by injection e with e;exact e.symm))).mono (S':=tS) (fun _ _=>trivial);have hb:=aS (aS ct eB RE) eV RD;clear aj;clear FY;clear oe;clear NQ MA I4 hrb eB eV dm lN jN ct;replace HW:=aa (HW.out.trans (hb.mono HW.out.size));replace HX:=aa (HX.out.below hb);replace HY:=aa (HY.out.below hb);replace HT:=aa (HT.out.below hb)
   replace qD:=aa (qD.out.below hb);replace HB:=aa (HB.out.trans (hb.mono HB.out.size));clear hb;replace bk:Hid (W2.heap[ga]?=some (.cells #[.int .i64 y1.k,.bool (decide (y1.n.z<0)),.slice y1.n.o y1.n.l y1.n.c,.string y1.nm,.slice y1.ko y1.kl y1.kc] 29 (0,0))):=aa tA;replace r5:Hid (W2.heap[gb]?=some (.cells #[.int .i64 y3.k,.bool (decide (y3.n.z<0)),.slice y3.n.o y3.n.l y3.n.c,.string y3.nm,.slice y3.ko y3.kl y3.kc] 29 (0,0))):=aa cV;clear Jh tA cV;obtain⟨ka,hka⟩:∃ k,k=ga:=⟨_,rfl⟩
   obtain⟨kb,hkb⟩:∃ k,k=gb:=⟨_,rfl⟩
   rw[<-hka] at bk ⊢;rw[<-hkb] at r5 ⊢;clear hka hkb RE RD Mm RC;have cg:Hid (FC W2 tS 5 (.agg #[.int .i64 y1.k,.bool (decide (y1.n.z<0)),.slice y1.n.o y1.n.l y1.n.c,.string y1.nm,.slice y1.ko y1.kl y1.kc]) t1):=aa ⟨y1,rfl,MD⟩;have fW:Hid (FC W2 tS 4 (.agg #[.int .i64 y3.k,.bool (decide (y3.n.z<0)),.slice y3.n.o y3.n.l y3.n.c,.string y3.nm,.slice y3.ko y3.kl y3.kc]) t3):=aa ⟨y3,rfl,MC⟩;have VB:=aa MD;have VA:=aa MC;clear MD MC;have IA:=aa hr1;have Sg:=aa L7;have U6:=aa Cq;have Ju:=aa AU;have Sn:=aa Ry;clear hr1 hs1 AU L7 Cq Ry;have hla:=ag bk.out;have hlb:=ag r5.out;have IC:Hid (∀ i,i<8->∀ j,j<8->i≠j->(fun i=>[30,31,32,33,34,35,36,12].getD i 0) i≠(fun i=>[30,31,32,33,34,35,36,12].getD i 0) j):=aa (by decide)
   have So:Hid (∀ i,i<8->(fun i=>[30,31,32,33,34,35,36,12].getD i 0) i<37):=aa (by decide);refine oG.region (by kernel_rfl) [[],[],[1],[],[],[3,4],[0,1,2,3,4,5],[],[0,1,2,3,4,5,6,7]] 8 (by kernel_rfl) (by kernel_rfl) (JG W2 _ 8 7 (fun i=>[30,31,32,33,34,35,36,12].getD i 0) (F8 W2 pn (.agg #[.int .i64 y1.k,.bool (decide (y1.n.z<0)),.slice y1.n.o y1.n.l y1.n.c,.string y1.nm,.slice y1.ko y1.kl y1.kc]) (.agg #[.int .i64 y3.k,.bool (decide (y3.n.z<0)),.slice y3.n.o y3.n.l y3.n.c,.string y3.nm,.slice y3.ko y3.kl y3.kc]) t3 (lM (mg [pn,i9] [t3,pK]) t1)) (R8 t3 (lM (mg [pn,i9] [t3,pK]) t1))) (JG.start _ _ _ _ _ _ _) ?_ ?_
   ·intro d T wc i o hJ ho hi hd iR tP;have hstep:=fun (v:ay) (w2:an)=>hJ.step (v:=v) (w':=w2) F8.below R8.below (fun i j hi hj=>IC.out i hi j hj) (fun i hi=>aK (So.out i hi) (of_decide_eq_true rfl)) (by decide) i hi hd
    have HJ:=aa hJ;obtain rfl | rfl | rfl | rfl | rfl | rfl | rfl | rfl:i=0\/i=1\/i=2\/i=3\/i=4\/i=5\/i=6\/i=7:=by omega
    ·injection ho with ho;subst ho;have es:T[10]?=some (.pointer (some ⟨ka,0,none⟩)):=(hJ.C6 10 (by decide)).trans (by rfl);have aP:=(hJ.be.block _ hla).trans bk.out;have q0:=ae (v:=.int .i64 y1.k) aP 0 rfl;have q1:=ae (v:=.bool (decide (y1.n.z<0))) aP 1 rfl;have q2:=ae (v:=.slice y1.n.o y1.n.l y1.n.c) aP 2 rfl;have q3:=ae (v:=.string y1.nm) aP 3 rfl;have q4:=ae (v:=.slice y1.ko y1.kl y1.kc) aP 4 rfl;clear aP hJ iR tP;refine⟨rfl,fun K hK=>?_⟩;have mj:=aa hstep;clear hstep;go_simp
     exact hK.out _ _ (mj.out _ _ (av _ _) rfl (fun e=>absurd e (by decide)) (fun _ _ _ _ _=>trivial))
    ·injection ho with ho;subst ho;have es:T[9]?=some (.string pn):=(hJ.C6 9 (by decide)).trans (by rfl);clear hJ iR tP;refine⟨rfl,fun K hK=>?_⟩;have mj:=aa hstep;clear hstep;go_simp
     exact hK.out _ _ (mj.out _ _ (av _ _) rfl (fun e=>absurd e (by decide)) (fun _ _ _ _ _=>trivial))
    ·injection ho with ho;subst ho;obtain⟨s1,N0,rfl⟩:=hJ.val 1 (by decide) (iR 1 (by rfl));replace N0:T[31]?=_:=N0;clear hJ iR tP;refine⟨rfl,fun K hK=>?_⟩;have mj:=aa hstep;clear hstep;go_simp
     exact hK.out _ _ (mj.out _ _ ((av _ _).alloc (ak _) _) (Ou (q:=i9) (dc wc _)) (fun e=>absurd e (by decide)) (fun _ _ _ _ _=>trivial))
    ·injection ho with ho;subst ho;have es:T[11]?=some (.pointer (some ⟨kb,0,none⟩)):=(hJ.C6 11 (by decide)).trans (by rfl);have aP:=(hJ.be.block _ hlb).trans r5.out;have q0:=ae (v:=.int .i64 y3.k) aP 0 rfl;have q1:=ae (v:=.bool (decide (y3.n.z<0))) aP 1 rfl;have q2:=ae (v:=.slice y3.n.o y3.n.l y3.n.c) aP 2 rfl;have q3:=ae (v:=.string y3.nm) aP 3 rfl;have q4:=ae (v:=.slice y3.ko y3.kl y3.kc) aP 4 rfl;clear aP hJ iR tP;refine⟨rfl,fun K hK=>?_⟩;have mj:=aa hstep;clear hstep;go_simp
     exact hK.out _ _ (mj.out _ _ (av _ _) rfl (fun e=>absurd e (by decide)) (fun _ _ _ _ _=>trivial))
    ·injection ho with ho;subst ho;clear hJ iR tP;refine⟨rfl,fun K hK=>?_⟩;have mj:=aa hstep;clear hstep;go_simp
     refine (EK 1 _ (by decide) (by decide)).mono ?_;rintro e w' ⟨b1,o1,l1,c1,rfl,Ig,hb'⟩;exact hK.out _ _ (mj.out _ _ hb' ⟨b1,o1,l1,c1,rfl,Ig⟩ (fun e=>absurd e (by decide)) (fun _ _ _ _ _=>trivial))
    ·injection ho with ho;subst ho;obtain⟨s3,R4,rfl⟩:=hJ.val 3 (by decide) (iR 3 (by rfl));obtain⟨s4,MX,b1,o1,l1,c1,rfl,Ig⟩:=hJ.val 4 (by decide) (iR 4 (by rfl));unfold J1 at MX;replace R4:T[33]?=_:=R4;replace MX:T[34]?=_:=MX;have ei:=hJ.be;have h7:=fun (TX:d 7=true)=>hJ.val 7 (by decide) TX
     clear hJ iR tP;refine⟨rfl,fun K hK=>?_⟩;have mj:=aa hstep;clear hstep;go_simp
     have hal:aC wc.heap.size wc (wc.alloc _):=(av _ _).alloc (ak _) (.cells #[.int .i64 y3.k,.bool (decide (y3.n.z<0)),.slice y3.n.o y3.n.l y3.n.c,.string y3.nm,.slice y3.ko y3.kl y3.kc,.int .i64 0,.bool b1,.slice o1 l1 c1,.string ⟨#[]⟩,.slice none 0 0] 29);have hma:(wc.alloc (.cells #[.int .i64 y3.k,.bool (decide (y3.n.z<0)),.slice y3.n.o y3.n.l y3.n.c,.string y3.nm,.slice y3.ko y3.kl y3.kc,.int .i64 0,.bool b1,.slice o1 l1 c1,.string ⟨#[]⟩,.slice none 0 0] 29)).heap[wc.heap.size]?=some (.cells #[.int .i64 y3.k,.bool (decide (y3.n.z<0)),.slice y3.n.o y3.n.l y3.n.c,.string y3.nm,.slice y3.ko y3.kl y3.kc,.int .i64 0,.bool b1,.slice o1 l1 c1,.string ⟨#[]⟩,.slice none 0 0] 29 (0,0)):=dc wc _
     obtain⟨q1,hq1,NQ⟩:=FC.mk (w:=wc) (S:=fun _=>False) (d:=3) (op:=0) (z:=1) (nm:=⟨#[]⟩) (show IR 0 from ⟨by decide,by decide⟩) Ig (FL.nil _ _ _);have hl:[Value.int .i64 0,.bool b1,.slice o1 l1 c1,.string ⟨#[]⟩,.slice none 0 0]=fC q1:=congrArg (fun v=>match v with | Value.agg a=>a.toList | _=>[]) hq1;have Md:(wc.alloc (.cells #[.int .i64 y3.k,.bool (decide (y3.n.z<0)),.slice y3.n.o y3.n.l y3.n.c,.string y3.nm,.slice y3.ko y3.kl y3.kc,.int .i64 0,.bool b1,.slice o1 l1 c1,.string ⟨#[]⟩,.slice none 0 0] 29)).heap[wc.heap.size]?=some (.cells (fC y3++fC q1).toArray 29 (0,0)):=by rw[<-hl];exact hma
     have MA:=(VA.out.lt.below ei).below hal;have RO:=NQ.below hal;have TF:=ag hma
     exact hK.out _ _ (mj.out _ _ hal (R2 Md (MA.mono (fun b h=>aK h.2 (aq ei.size hal.size))) (RO.mono (fun b h=>h.elim)) TF) (fun e=>absurd e (by decide)) (fun _ _ x _ hx g e=>by
      obtain⟨g',e',eB,eV⟩:=hx;have Ic:g'=g:=rj (congrArg some (e'.symm.trans e));subst Ic;have Ct:=ag eV
      exact R2 Md (MA.mono (fun b h=>Nat.ne_of_lt (aK h.2 eB))) (RO.mono (fun b h=>h.elim)) (Nat.ne_of_gt Ct)))
    ·injection ho with ho;subst ho;obtain⟨s0,Lf,rfl⟩:=hJ.val 0 (by decide) (iR 0 (by rfl));obtain⟨s2,R5,hnm⟩:=hJ.val 2 (by decide) (iR 2 (by rfl));obtain⟨s5,MW,hfl⟩:=hJ.val 5 (by decide) (iR 5 (by rfl));have ei:=hJ.be;have fB:FC wc (fun b=>b<W2.heap.size) 5 (.agg #[.int .i64 y1.k,.bool (decide (y1.n.z<0)),.slice y1.n.o y1.n.l y1.n.c,.string y1.nm,.slice y1.ko y1.kl y1.kc]) t1:=⟨y1,rfl,(VB.out.lt.below ei).mono (fun b h=>h.2)⟩
     replace Lf:T[30]?=_:=Lf;replace R5:T[32]?=_:=R5;replace MW:T[35]?=_:=MW;have QG:=aa hfl;have CL:=aa hnm;clear hfl hnm
     by_cases h7:d 7=true
     ·obtain⟨u7,OM,g,rfl,eB,eV⟩:=hJ.val 7 (by decide) h7;have hf:=aa (hJ.rel 5 (by decide) (by decide) (iR 5 (by rfl)) h7 _ _ MW OM g rfl);have U1:=aa OM;have Ct:=ag eV;clear OM eV hJ iR tP;refine⟨rfl,fun K hK=>?_⟩;have mj:=aa hstep;clear hstep;go_simp
      refine (Em 5 _ t1 _ _ _ _ [pn,i9] [t3,pK] 4 _ fB Ju.out IA.out CL.out hf.out (by simp)).mono ?_;rintro e w' ⟨v,rfl,⟨u,rfl,hu⟩,hb'⟩;have NH:=hu.mono (S':=fun b=>b≠g) (fun b h=>by rcases h with h | h | h;exact Nat.ne_of_lt (aK h eB);exact h;exact Nat.ne_of_gt (aK Ct h))
      exact hK.out _ _ (mj.out _ _ hb' ⟨u,rfl,hu.lt.mono (fun _ h=>h.2)⟩ (fun e=>absurd e (by decide)) (fun _ _ x hx _ g' e=>by
       have Ic:g=g':=rj (U1.out.symm.trans (hx.trans (congrArg some e)));subst Ic
       exact⟨u,rfl,NH⟩))
     clear hJ iR tP;refine⟨rfl,fun K hK=>?_⟩;have mj:=aa hstep;clear hstep;have H7:=aa h7;clear h7;go_simp
     refine (Em 5 _ t1 _ _ _ _ [pn,i9] [t3,pK] 4 _ fB Ju.out IA.out CL.out QG.out (by simp)).mono ?_;rintro e w' ⟨v,rfl,⟨u,rfl,hu⟩,hb'⟩;exact hK.out _ _ (mj.out _ _ hb' ⟨u,rfl,hu.lt.mono (fun _ h=>h.2)⟩ (fun e=>absurd e (by decide)) (fun _ h=>absurd h H7.out))
    injection ho with ho;subst ho;have ei:=hJ.be;clear iR tP;refine⟨rfl,fun K hK=>?_⟩;have mj:=aa hstep;clear hstep;clear hJ;go_simp
    exact hK.out _ _ (mj.out _ _ ((av _ _).alloc (ak _) _) ⟨_,rfl,ei.size,dc wc _⟩ (fun _ k hk yn Fj x hx hf=>R8.new k x wc ((av _ _).alloc (ak _) _) hf) (fun e=>absurd rfl e))
   intro T wt hJ;obtain⟨s0,a0,b0⟩:=hJ.val 0 (by decide) rfl;obtain⟨s1,a1,b1⟩:=hJ.val 1 (by decide) rfl;obtain⟨s2,a2,b2⟩:=hJ.val 2 (by decide) rfl;obtain⟨s3,a3,b3⟩:=hJ.val 3 (by decide) rfl;obtain⟨s4,a4,b4⟩:=hJ.val 4 (by decide) rfl;obtain⟨s5,a5,b5⟩:=hJ.val 5 (by decide) rfl;obtain⟨s6,a6,b6⟩:=hJ.val 6 (by decide) rfl;obtain⟨s7,a7,b7⟩:=hJ.val 7 (by decide) rfl;obtain⟨kp,rfl,Mf,Ke⟩:=b7;have hP:=hJ.rel 6 (by decide) (by decide) rfl rfl _ _ a6 a7 kp rfl;obtain⟨u,rfl,Rf⟩:=hP;subst b0;subst b1;subst b3;obtain⟨WT,WS,WR,WQ,rfl,-⟩:=b4;have ct:=hJ.be;have I_:=b5.form;have yX:=b2;clear b5 b6 b2;obtain⟨V4,V5,rfl,-⟩:=yX;obtain⟨V0,V2,rfl,-⟩:=I_
   have hfr:=Ky (s0:=30) (s1:=31) (s2:=32) (s3:=33) (s4:=34) (s5:=35) (s6:=36) (s7:=12) hJ.sz (by intro s hs;simp only[dw,cl,or_false] at hs;rcases hs with rfl | rfl | rfl | rfl | rfl | rfl | rfl | rfl<;>exact of_decide_eq_true rfl) a0 a1 a2 a3 a4 a5 a6 a7 (fun j h0 h1 h2 h3 h4 h5 h6 h7=>hJ.C6 j (fun i hi=>by have h9:i=0\/i=1\/i=2\/i=3\/i=4\/i=5\/i=6\/i=7:=(by omega);rcases h9 with rfl | rfl | rfl | rfl | rfl | rfl | rfl | rfl<;>assumption)) (by decide);clear hJ IC So a0 a1 a2 a3 a4 a5 a6 a7;subst hfr;simp only[mN,fV,J1,eC,iy,gI,List.drop_succ_cons,List.drop_zero];have Fm:aC W2.heap.size W2 wt:=ct;clear ct;unfold DQ at Ke;have iL:=aa Ke
   obtain⟨⟨u0,u1,u2,u3,u4⟩,Ld,Lc,PN,PM,PL⟩:=aV iL.out;go_upto_region 9 with fail
   clear u0 u1 u2 u3 u4 Ld Lc PN PM PL;have Jh:=fj iL.out (.int .i64 u.k) (.bool (decide (u.n.z<0))) (.slice u.n.o u.n.l u.n.c) (.string u.nm) (.slice u.ko u.kl u.kc);have I4:Fr 29 wt _:=.aN (aY (w:=wt) (k:=kp) (.int .i64 u.k) (.bool (decide (u.n.z<0))) (.slice u.n.o u.n.l u.n.c) (.string u.nm) (.slice u.ko u.kl u.kc)) (fun j hj=>by injection hj with hj;subst hj;exact⟨_,iL.out,b_⟩);have eB:=aY (w:=wt) (k:=kp) (.int .i64 u.k) (.bool (decide (u.n.z<0))) (.slice u.n.o u.n.l u.n.c) (.string u.nm) (.slice u.ko u.kl u.kc);obtain⟨W3,RN⟩:∃ q,q=((((wt.setCell ⟨kp,0,none⟩ (.int .i64 u.k)).setCell ⟨kp,1,none⟩ (.bool (decide (u.n.z<0)))).setCell ⟨kp,2,none⟩ (.slice u.n.o u.n.l u.n.c)).setCell ⟨kp,3,none⟩ (.string u.nm)).setCell ⟨kp,4,none⟩ (.slice u.ko u.kl u.kc):=⟨_,rfl⟩
   rw[<-RN] at Jh I4 eB ⊢;have RQ:=(Rf.grown eB (KN.fG I4) (fun b hb e=>hb (by injection e with e;exact e.symm))).mono (S':=tS) (fun _ _=>trivial);have hb:=aS Fm eB Mf;replace iL:=aa Jh;clear Rf I4 eB RN Jh Fm Mf Ke;replace bk:=aG hb bk;replace r5:=aG hb r5;replace HW:=aa (HW.out.trans (hb.mono HW.out.size));replace HX:=aa (HX.out.below hb);replace HY:=aa (HY.out.below hb);replace HT:=aa (HT.out.below hb);replace qD:=aa (qD.out.below hb);replace HB:=aa (HB.out.trans (hb.mono HB.out.size));replace cg:=aa (cg.out.below hb);replace fW:=aa (fW.out.below hb);clear hb;have Lp:Hid (FC W3 tS 9 (.agg #[.int .i64 u.k,.bool (decide (u.n.z<0)),.slice u.n.o u.n.l u.n.c,.string u.nm,.slice u.ko u.kl u.kc]) (lM (mg [pn,i9] [t3,pK]) t1)):=aa ⟨u,rfl,RQ⟩
   clear RQ
   obtain⟨N',Qz,U',Sj,Si⟩:Hid (rt (lM (mg [pn,i9] [t3,pK]) t1)=true)/\Hid (Sm (a_ env) t3)/\Hid (Sm (a_ env) (lM (mg [pn,i9] [t3,pK]) t1))/\Hid (Sm (a_ (env++[(pn,ev (a_ env) t3)])) t1)/\Hid (ev (a_ env) (lM (mg [pn,i9] [t3,pK]) t1)=ev (a_ (env++[(pn,ev (a_ env) t3)])) t1):=by
    rw[U_.out];obtain⟨a1,a2,a3,a4,a5⟩:=C5 (env:=env) Lr.out.2.2 Ln.out Ju.out IA.out Sn.out Sg.out U6.out;exact⟨aa a1,aa a2,aa a3,aa a4,aa a5⟩
   obtain⟨x3,hx3⟩:∃ x,x=ev (a_ env) t3:=⟨_,rfl⟩
   have UU:=aa hx3;rw[<-hx3] at Sj Si;clear hx3;have An:=ag r5.out;have fK:Hid (∀ q,q<0->(fun q=>0) q<W3.heap.size):=aa (fun q h=>absurd h (ah _));refine R7.region (by kernel_rfl) [[],[],[1],[],[3],[0,1,2,3,4],[],[],[],[7,8],[6,7,8,9],[6,7,8,9,10],[0,1,2,3,4,5,6,7,8,9,10,11],[0,1,2,3,4,5,6,7,8,9,10,11,12]] [] [] (fun q=>0) 0 13 (by kernel_rfl) (by kernel_rfl) (by rfl) fK.out (fun q q' h h' hn=>absurd hn (by omega)) ?_;refine R7.az.bT ?_ (by rfl) (fun T xs wr hA=>?_) ?_
   rotate_left 1
   ·have e7:=hA.pre 7 (by kernel_rfl);simp only[eY,fD,fm] at e7;clear hA;refine⟨(by rfl),?_⟩;go_simp<;>(try with_reducible rfl)
   refine R7.az.bT ?_ (by rfl) (fun T xs wr hA=>?_) ?_
   rotate_left 1
   ·have e7:=hA.pre 7 (by kernel_rfl);simp only[eY,fD,fm] at e7;clear hA;refine⟨(by rfl),?_⟩;go_simp<;>(try with_reducible rfl)
   refine R7.az.bT ?_ (by rfl) (fun T xs wr hA=>?_) ?_
   rotate_left 1
   ·have BP:=hA.tm 1 38 (by rfl) (by rfl);have f38:xs 1=_:=hA.fa 1 (by rfl)
    (try simp (disch:=first | rfl | decide) only [R7.ai] at f38)
    rw[f38] at BP;clear f38;clear hA;refine⟨(by rfl),?_⟩;go_simp<;>(try with_reducible rfl)
   refine R7.az.bT ?_ (by rfl) (fun T xs wr hA=>?_) ?_
   rotate_left 1
   ·have e7:=hA.pre 7 (by kernel_rfl);simp only[eY,fD,fm] at e7;clear hA;refine⟨(by rfl),?_⟩;go_simp<;>(try with_reducible rfl)
   refine R7.az.bT ?_ (by rfl) (fun T xs wr hA=>?_) ?_
   rotate_left 1
   ·have BO:=hA.tm 3 40 (by rfl) (by rfl);have f40:xs 3=_:=hA.fa 3 (by rfl)
    (try simp (disch:=first | rfl | decide) only [R7.ai] at f40)
    rw[f40] at BO;clear f40;clear hA;refine⟨(by rfl),?_⟩;go_simp<;>(try with_reducible rfl)
   refine R7.az.bT ?_ (by rfl) (fun T xs wr hA=>?_) ?_
   rotate_left 1
   ·have BQ:=hA.tm 0 37 (by rfl) (by rfl);have f37:xs 0=_:=hA.fa 0 (by rfl)
    (try simp (disch:=first | rfl | decide) only [R7.ai] at f37)
    rw[f37] at BQ;clear f37;have CA:=hA.tm 2 39 (by rfl) (by rfl);have f39:xs 2=_:=hA.fa 2 (by rfl)
    (try simp (disch:=first | rfl | decide) only [R7.ai] at f39)
    rw[f39] at CA;clear f39;have BN:=hA.tm 4 41 (by rfl) (by rfl);have f41:xs 4=_:=hA.fa 4 (by rfl)
    (try simp (disch:=first | rfl | decide) only [R7.ai] at f41)
    rw[f41] at BN;clear f41;have WA:(7:Int)<=(ec:Int):=by have:=RH;omega
    clear hA;refine⟨(by rfl),?_⟩;go_simp<;>(try with_reducible rfl)
   refine R7.az.bT ?_ (by rfl) (fun T xs wr hA=>?_) ?_
   rotate_left 1
   ·have e9:=hA.pre 9 (by kernel_rfl);simp only[eY,fD,fm] at e9;clear hA;refine⟨(by rfl),?_⟩;go_simp<;>(try with_reducible rfl)
   refine R7.az.bT ?_ (by rfl) (fun T xs wr hA=>?_) ?_
   rotate_left 1
   ·have Gk:=hA.pre 11 (by kernel_rfl);simp only[eY,fD,fm] at Gk;have aP:wr.heap[kb]?=_:=(hA.bl _ An (fun q h=>absurd h (ah _))).trans r5.out;have q0:=ae (v:=.int .i64 y3.k) aP 0 rfl;have q1:=ae (v:=.bool (decide (y3.n.z<0))) aP 1 rfl;have q2:=ae (v:=.slice y3.n.o y3.n.l y3.n.c) aP 2 rfl;have q3:=ae (v:=.string y3.nm) aP 3 rfl;have q4:=ae (v:=.slice y3.ko y3.kl y3.kc) aP 4 rfl;clear aP;clear hA;refine⟨(by rfl),?_⟩;go_simp<;>(try with_reducible rfl)
   refine R7.az.bT ?_ (by rfl) (fun T xs wr hA=>?_) ?_
   rotate_left 1
   ·have e7:=hA.pre 7 (by kernel_rfl);simp only[eY,fD,fm] at e7;clear hA;refine⟨(by rfl),?_⟩;go_simp<;>(try with_reducible rfl)
   refine R7.az.call (fun xs v w=>VC w v x3) (fun _ _ _ _ h hb=>VC.below h hb) (fun _ _ _ _ _ _ h _=>by obtain⟨q,hq,_⟩:=h;exact absurd hq (ah _)) (by rfl) (fun T xs wr hA=>?_) ?_
   ·have ki:=(hA.be 0 (au _) (fun _ _=>au _)).size;have uz:=hA.tm 7 44 (by rfl) (by rfl);have f44:xs 7=_:=hA.fa 7 (by rfl)
    (try simp (disch:=first | rfl | decide) only [R7.ai] at f44)
    rw[f44] at uz;clear f44;have vf:=hA.tm 8 45 (by rfl) (by rfl);have f45:xs 8=_:=hA.fa 8 (by rfl)
    (try simp (disch:=first | rfl | decide) only [R7.ai] at f45)
    rw[f45] at vf;clear f45;have dK:=aT (hA.be W3.heap.size (ak _) (fun q h=>absurd h (ah q)));have jd:=fW.out.below dK;have hel:EL wr _ env:=⟨us,qD.out.below dK,Sx.out⟩
    clear hA;refine⟨(by rfl),fun K hK=>?_⟩;go_simp
    refine (xP 4 _ _ env t3 _ _ jd hel Sg.out Qz.out Sn.out (KC Lr.out)).mono ?_;rintro e w' ⟨x,rfl,hc,hb'⟩;rw[<-UU.out] at hc;exact hK.out _ _ hc hb'
   refine R7.az.call (fun xs v w=>∃ b:BU,b.nm=pn/\b.u.x=x3/\(v=bV b/\VR w b.u)) (fun _ _ _ _ h hb=>by obtain⟨b,h1,h2,h3,h4⟩:=h;exact⟨b,h1,h2,h3,bE.below (a:=b) h4 hb⟩) (fun _ _ _ _ _ _ h _=>by obtain⟨q,hq,_⟩:=h;exact absurd hq (ah _)) (by rfl) (fun T xs wr hA=>?_) ?_
   ·have ki:=(hA.be 0 (au _) (fun _ _=>au _)).size;have uA:=hA.tm 6 43 (by rfl) (by rfl);have f43:xs 6=_:=hA.fa 6 (by rfl)
    (try simp (disch:=first | rfl | decide) only [R7.ai] at f43)
    rw[f43] at uA;clear f43;have tR:=hA.tm 9 46 (by rfl) (by rfl);have dK:=aT (hA.be W3.heap.size (ak _) (fun q h=>absurd h (ah q)));have PB:VC wr (xs 9) x3:=hA.fa 9 (by rfl);have h9:=PB;obtain⟨u9,Re,Te,Tr⟩:=h9;rw[Re] at tR;unfold vV at tR;clear Re;clear hA;refine⟨(by rfl),fun K hK=>?_⟩;go_simp
    exact hK.out _ _ ⟨⟨pn,u9⟩,rfl,Te,rfl,Tr⟩ (av _ _)
   refine R7.az.call (fun xs v w=>∃ b:BU,b.nm=pn/\b.u.x=x3/\bE.At w v [b]) (fun _ _ _ _ h hb=>by obtain⟨b,h1,h2,h3⟩:=h;exact⟨b,h1,h2,h3.below hb⟩) (fun _ _ _ _ _ _ h _=>by obtain⟨q,hq,_⟩:=h;exact absurd hq (ah _)) (by rfl) (fun T xs wr hA=>?_) ?_
   ·have ki:=(hA.be 0 (au _) (fun _ _=>au _)).size;have u_:=hA.tm 10 47 (by rfl) (by rfl);have dK:=aT (hA.be W3.heap.size (ak _) (fun q h=>absurd h (ah q)));have Kr:∃ b:BU,b.nm=pn/\b.u.x=x3/\((xs 10)=bV b/\VR wr b.u):=hA.fa 10 (by rfl);have h10:=Kr;obtain⟨b,dm,cV,jf,rW⟩:=h10;rw[jf] at u_;unfold bV at u_;clear jf;clear hA;refine⟨(by rfl),fun K hK=>?_⟩;go_simp
    exact hK.out _ _ ⟨⟨pn,b.u⟩,rfl,cV,yJ (show (wr.alloc (.cells #[.string pn,.int .i64 b.u.k,.bool (decide (b.u.n.z<0)),.slice b.u.n.o b.u.n.l b.u.n.c,.bool b.u.b,.slice b.u.lo b.u.ll b.u.lc] 44)).heap[wr.heap.size]?=some (.cells #[.string pn,.int .i64 b.u.k,.bool (decide (b.u.n.z<0)),.slice b.u.n.o b.u.n.l b.u.n.c,.bool b.u.b,.slice b.u.lo b.u.ll b.u.lc] 44 (0,0)) from dc wr _) rfl (bE.below (a:=b) rW ((av _ _).alloc (ak _) _))⟩ ((av _ _).alloc (ak _) _)
   refine R7.az.call (fun xs v w=>∃ b:BU,b.nm=pn/\b.u.x=x3/\bE.At w v (us++[b])) (fun _ _ _ _ h hb=>by obtain⟨b,h1,h2,h3⟩:=h;exact⟨b,h1,h2,h3.below hb⟩) (fun _ _ _ _ _ _ h _=>by obtain⟨q,hq,_⟩:=h;exact absurd hq (ah _)) (by rfl) (fun T xs wr hA=>?_) ?_
   ·have ki:=(hA.be 0 (au _) (fun _ _=>au _)).size;have AY:=hA.tm 5 42 (by rfl) (by rfl);have f42:xs 5=_:=hA.fa 5 (by rfl)
    (try simp (disch:=first | rfl | decide) only [R7.ai] at f42)
    rw[f42] at AY;clear f42;have Dp:=hA.tm 11 48 (by rfl) (by rfl);have dK:=aT (hA.be W3.heap.size (ak _) (fun q h=>absurd h (ah q)));have BF:∃ b:BU,b.nm=pn/\b.u.x=x3/\bE.At wr (xs 11) [b]:=hA.fa 11 (by rfl);have h11:=BF;obtain⟨b,dm,cV,jf⟩:=h11;clear hA;refine⟨(by rfl),fun K hK=>?_⟩;obtain⟨v9,w9,r1,r2,r3⟩:=El.At.more (El.At.cut (qD.out.below dK)) jf (by simp) (by have:=H7.out;simp only[ru,xC];omega) 32;refine CP (.tmp 42) (.tmp 48) rfl (by simp[Act.eval,AY]) (by simp[Act.eval,Dp]) r1 (hK.out _ _ ⟨b,dm,cV,r2⟩ r3)
   refine R7.az.done (fun xs pA hL=>?_);obtain⟨⟨ei,cG⟩,hf,-,-⟩:=hL;have f0:xs 0=_:=hf 0 (by decide)
   (try simp (disch:=first | rfl | decide) only [R7.ai] at f0)
   have f1:xs 1=_:=hf 1 (by decide)
   (try simp (disch:=first | rfl | decide) only [R7.ai] at f1)
   have f2:xs 2=_:=hf 2 (by decide)
   (try simp (disch:=first | rfl | decide) only [R7.ai] at f2)
   have f3:xs 3=_:=hf 3 (by decide)
   (try simp (disch:=first | rfl | decide) only [R7.ai] at f3)
   have f4:xs 4=_:=hf 4 (by decide)
   (try simp (disch:=first | rfl | decide) only [R7.ai] at f4)
   have f5:xs 5=_:=hf 5 (by decide)
   (try simp (disch:=first | rfl | decide) only [R7.ai] at f5)
   have f6:xs 6=_:=hf 6 (by decide)
   (try simp (disch:=first | rfl | decide) only [R7.ai] at f6)
   have f7:xs 7=_:=hf 7 (by decide)
   (try simp (disch:=first | rfl | decide) only [R7.ai] at f7)
   have f8:xs 8=_:=hf 8 (by decide)
   (try simp (disch:=first | rfl | decide) only [R7.ai] at f8)
   have F9:VC pA (xs 9) x3:=hf 9 (by decide);have SD:∃ b:BU,b.nm=pn/\b.u.x=x3/\((xs 10)=bV b/\VR pA b.u):=hf 10 (by decide);have Oh:∃ b:BU,b.nm=pn/\b.u.x=x3/\bE.At pA (xs 11) [b]:=hf 11 (by decide);have CM:∃ b:BU,b.nm=pn/\b.u.x=x3/\bE.At pA (xs 12) (us++[b]):=hf 12 (by decide);have hb0:aC 0 W3 pA:=aT (ei 0 (au _) (fun _ _=>au _));have jR:∀ j,j<W3.heap.size->(∀ q,q<0->(fun q=>0) q≠j)->pA.heap[j]?=W3.heap[j]?:=cG;clear ei cG hf;have hb:aC W3.heap.size W3 pA:=⟨hb0.os,hb0.tape,hb0.output,hb0.size,fun q hq=>jR q hq (fun q h=>absurd h (ah _))⟩
   refine R7.g_ (by decide) (by kernel_rfl) ?_;simp only[R7.fill,Cb,Ca,B_,B9,xz,xy,xx,f0,f1,f2,f3,f4,f5,f6,f7,f8];clear hb0 jR fK An f0 f1 f2 f3 f4 f5 f6 f7 f8;replace bk:=aG hb bk;replace r5:=aG hb r5;replace iL:=aG hb iL;replace HW:=aa (HW.out.trans (hb.mono HW.out.size));replace HX:=aa (HX.out.below hb);replace HY:=aa (HY.out.below hb);replace HT:=aa (HT.out.below hb);replace qD:=aa (qD.out.below hb);replace HB:=aa (HB.out.trans (hb.mono HB.out.size));replace cg:=aa (cg.out.below hb);replace fW:=aa (fW.out.below hb);replace Lp:=aa (Lp.out.below hb);replace hb:=aa hb;obtain⟨b,dm,cV,jf⟩:=CM;obtain⟨SM,LV⟩:∃ q,q=xs 12:=⟨_,rfl⟩
   rw[<-LV] at jf ⊢;have QJ:Hid (EL pA SM (env++[(pn,x3)])):=aa ⟨_,jf,by unfold jo at *;rw[List.map_append,List.map_cons,List.map_nil,dm,cV];congr 1⟩;clear F9 SD Oh dm cV jf LV;go_upto_region 10 with fail
   obtain⟨H,hH⟩:∃ h,h=gX (ev (a_ env) (lM (mg [pn,i9] [t3,pK]) t1)):=⟨_,rfl⟩
   have HH:=aa hH;have Vr:Hid (gX (ev (a_ (env++[(pn,x3)])) t1)=H):=aa (by rw[hH,Si.out]);clear hH;obtain⟨L1,RT⟩:∃ L,L=nA t1:=⟨_,rfl⟩
   have No:=aa RT;clear RT;have oZ:=ag bk.out;have E9:=ag iL.out;have fK:Hid (∀ q,q<0->(fun q=>0) q<pA.heap.size):=aa (fun q h=>absurd h (ah _))
   refine R7.region (by kernel_rfl) [[],[0],[0,1],[0,1,2],[0,1,2,3],[0,1,2,3],[0,1,2,3,4,5],[0,1,2,3],[0,1,2,3],[0,1,2,3,4,5,6,7,8],[0,1,2,3,4,5,6,7,8,9],[0,1,2,3,4,5,6,7,8,9,10],[0,1,2,3,4,5,6,7,8,9,10,11],[0,1,2,3,4,5,6,7,8,9,10,11,12],[0,1,2,3,4,5,6,7,8,9,10,11,12,13],[0,1,2,3,4,5,6,7,8,9,10,11,12,13,14],[0,1,2,3,4,5,6,7,8,9,10,11,12],[0,1,2,3,4,5,6,7,8,9,10,11,12,13,14,15,16],[0,1,2,3,4,5,6,7,8,9,10,11,12,13,14,15,16,17],[0,1,2,3,4,5,6,7,8,9,10,11,12,13,14,15,16,17,18]] [] [] (fun q=>0) 0 20 (by kernel_rfl) (by kernel_rfl) (by rfl) fK.out (fun q q' h h' hn=>absurd hn (by omega)) ?_;refine R7.az.bT ?_ (by rfl) (fun T xs wr hA=>?_) ?_
   rotate_left 1
   ·have BR:=hA.pre 12 (by kernel_rfl);simp only[eY,fD,fm] at BR;have aP:wr.heap[kp]?=_:=(hA.bl _ E9 (fun q h=>absurd h (ah _))).trans iL.out;have q0:=ae (v:=.int .i64 u.k) aP 0 rfl;have q1:=ae (v:=.bool (decide (u.n.z<0))) aP 1 rfl;have q2:=ae (v:=.slice u.n.o u.n.l u.n.c) aP 2 rfl;have q3:=ae (v:=.string u.nm) aP 3 rfl;have q4:=ae (v:=.slice u.ko u.kl u.kc) aP 4 rfl;clear aP;clear hA;refine⟨(by rfl),?_⟩;go_simp<;>(try with_reducible rfl)
   refine R7.az.call (fun xs v w=>v=.bool true) (fun _ _ _ _ h _=>h) (fun _ _ _ _ _ h _ _=>h) (by rfl) (fun T xs wr hA=>?_) ?_
   ·have ki:=(hA.be 0 (au _) (fun _ _=>au _)).size;have BM:=hA.tm 0 50 (by rfl) (by rfl);have f50:xs 0=_:=hA.fa 0 (by rfl)
    (try simp (disch:=first | rfl | decide) only [R7.ai] at f50)
    rw[f50] at BM;clear f50;have dK:=aT (hA.be pA.heap.size (ak _) (fun q h=>absurd h (ah q)));have Mp:=Lp.out.below dK;clear hA;refine⟨(by rfl),fun K hK=>?_⟩;go_simp
    refine (yF 9 _ _ _ _ Mp).mono ?_;rintro e w' ⟨rfl,hb'⟩;rw[N'.out];exact hK.out _ _ rfl hb'
   refine R7.az.bT ?_ (by rfl) (fun T xs wr hA=>?_) ?_
   rotate_left 1
   ·have BK:=hA.tm 1 51 (by rfl) (by rfl);have f51:xs 1=(.bool true):=hA.fa 1 (by rfl);rw[f51] at BK;clear f51;clear hA;refine⟨(by rfl),?_⟩;go_simp<;>(try with_reducible rfl)
   refine R7.az.bT ?_ (by rfl) (fun T xs wr hA=>?_) ?_
   rotate_left 1
   ·have BJ:=hA.tm 2 52 (by rfl) (by rfl);have f52:xs 2=_:=hA.fa 2 (by rfl)
    (try simp (disch:=first | rfl | decide) only [R7.ai] at f52)
    rw[f52] at BJ;clear f52;clear hA;refine⟨(by rfl),?_⟩;go_simp<;>(try with_reducible rfl)
   refine R7.az.bT ?_ (by rfl) (fun T xs wr hA=>?_) ?_
   rotate_left 1
   ·have qA:=hA.tm 3 53 (by rfl) (by rfl);have f53:xs 3=_:=hA.fa 3 (by rfl)
    (try simp (disch:=first | rfl | decide) only [R7.ai] at f53)
    rw[f53] at qA;clear f53;have BR:=hA.pre 12 (by kernel_rfl);simp only[eY,fD,fm] at BR;have aP:wr.heap[kp]?=_:=(hA.bl _ E9 (fun q h=>absurd h (ah _))).trans iL.out;have q0:=ae (v:=.int .i64 u.k) aP 0 rfl;have q1:=ae (v:=.bool (decide (u.n.z<0))) aP 1 rfl;have q2:=ae (v:=.slice u.n.o u.n.l u.n.c) aP 2 rfl;have q3:=ae (v:=.string u.nm) aP 3 rfl;have q4:=ae (v:=.slice u.ko u.kl u.kc) aP 4 rfl;clear aP;clear hA;refine⟨((aO.cF rfl (by rfl) qA).trans (by rfl)),?_⟩;go_simp<;>(try with_reducible rfl)
   refine R7.az.bT ?_ (by rfl) (fun T xs wr hA=>?_) ?_
   rotate_left 1
   ·have qA:=hA.tm 3 53 (by rfl) (by rfl);have f53:xs 3=_:=hA.fa 3 (by rfl)
    (try simp (disch:=first | rfl | decide) only [R7.ai] at f53)
    rw[f53] at qA;clear f53;have e7:=hA.pre 7 (by kernel_rfl);simp only[eY,fD,fm] at e7;clear hA;refine⟨((aO.cF rfl (by rfl) qA).trans (by rfl)),?_⟩;go_simp<;>(try with_reducible rfl)
   refine R7.az.call (fun xs v w=>v=.bool H) (fun _ _ _ _ h _=>h) (fun _ _ _ _ _ h _ _=>h) (by rfl) (fun T xs wr hA=>?_) ?_
   ·have qA:=hA.tm 3 53 (by rfl) (by rfl);have f53:xs 3=_:=hA.fa 3 (by rfl)
    (try simp (disch:=first | rfl | decide) only [R7.ai] at f53)
    rw[f53] at qA;clear f53;have ki:=(hA.be 0 (au _) (fun _ _=>au _)).size;have Qc:=hA.tm 4 54 (by rfl) (by rfl);have f54:xs 4=_:=hA.fa 4 (by rfl)
    (try simp (disch:=first | rfl | decide) only [R7.ai] at f54)
    rw[f54] at Qc;clear f54;have Qb:=hA.tm 5 55 (by rfl) (by rfl);have f55:xs 5=_:=hA.fa 5 (by rfl)
    (try simp (disch:=first | rfl | decide) only [R7.ai] at f55)
    rw[f55] at Qb;clear f55;have dK:=aT (hA.be pA.heap.size (ak _) (fun q h=>absurd h (ah q)));have Mp:=Lp.out.below dK;have hel:EL wr _ env:=⟨us,qD.out.below dK,Sx.out⟩
    clear hA;refine⟨((aO.cF rfl (by rfl) qA).trans (by rfl)),fun K hK=>?_⟩;go_simp
    refine (vM 9 _ _ env _ _ _ Mp hel N'.out U'.out).mono ?_;rintro e w' ⟨rfl,hb'⟩;rw[<-HH.out];exact hK.out _ _ rfl hb'
   refine R7.az.bT ?_ (by rfl) (fun T xs wr hA=>?_) ?_
   rotate_left 1
   ·have qA:=hA.tm 3 53 (by rfl) (by rfl);have f53:xs 3=_:=hA.fa 3 (by rfl)
    (try simp (disch:=first | rfl | decide) only [R7.ai] at f53)
    rw[f53] at qA;clear f53;have Fw:=hA.pre 10 (by kernel_rfl);simp only[eY,fD,fm] at Fw;have aP:wr.heap[ka]?=_:=(hA.bl _ oZ (fun q h=>absurd h (ah _))).trans bk.out;have q0:=ae (v:=.int .i64 y1.k) aP 0 rfl;have q1:=ae (v:=.bool (decide (y1.n.z<0))) aP 1 rfl;have q2:=ae (v:=.slice y1.n.o y1.n.l y1.n.c) aP 2 rfl;have q3:=ae (v:=.string y1.nm) aP 3 rfl;have q4:=ae (v:=.slice y1.ko y1.kl y1.kc) aP 4 rfl;clear aP;clear hA;refine⟨((aO.cF rfl (by rfl) qA).trans (by rfl)),?_⟩;go_simp<;>(try with_reducible rfl)
   refine R7.az.bT ?_ (by rfl) (fun T xs wr hA=>?_) ?_
   rotate_left 1
   ·have qA:=hA.tm 3 53 (by rfl) (by rfl);have f53:xs 3=_:=hA.fa 3 (by rfl)
    (try simp (disch:=first | rfl | decide) only [R7.ai] at f53)
    rw[f53] at qA;clear f53;have Qj:=hA.pre 13 (by kernel_rfl);simp only[eY,fD,fm] at Qj;clear hA;refine⟨((aO.cF rfl (by rfl) qA).trans (by rfl)),?_⟩;go_simp<;>(try with_reducible rfl)
   refine R7.az.call (fun xs v w=>v=.bool H) (fun _ _ _ _ h _=>h) (fun _ _ _ _ _ h _ _=>h) (by rfl) (fun T xs wr hA=>?_) ?_
   ·have qA:=hA.tm 3 53 (by rfl) (by rfl);have f53:xs 3=_:=hA.fa 3 (by rfl)
    (try simp (disch:=first | rfl | decide) only [R7.ai] at f53)
    rw[f53] at qA;clear f53;have ki:=(hA.be 0 (au _) (fun _ _=>au _)).size;have P_:=hA.tm 7 57 (by rfl) (by rfl);have f57:xs 7=_:=hA.fa 7 (by rfl)
    (try simp (disch:=first | rfl | decide) only [R7.ai] at f57)
    rw[f57] at P_;clear f57;have P9:=hA.tm 8 58 (by rfl) (by rfl);have f58:xs 8=_:=hA.fa 8 (by rfl)
    (try simp (disch:=first | rfl | decide) only [R7.ai] at f58)
    rw[f58] at P9;clear f58;have dK:=aT (hA.be pA.heap.size (ak _) (fun q h=>absurd h (ah q)));have fB:=cg.out.below dK;have Pg:=QJ.out.below dK;clear hA;refine⟨((aO.cF rfl (by rfl) qA).trans (by rfl)),fun K hK=>?_⟩;go_simp
    refine (vM 5 _ _ _ t1 _ _ fB Pg IA.out Sj.out).mono ?_;rintro e w' ⟨rfl,hb'⟩;rw[Vr.out];exact hK.out _ _ rfl hb'
   refine R7.az.call (fun xs v w=>v=.bool false) (fun _ _ _ _ h _=>h) (fun _ _ _ _ _ h _ _=>h) (by rfl) (fun T xs wr hA=>?_) ?_
   ·have qA:=hA.tm 3 53 (by rfl) (by rfl);have f53:xs 3=_:=hA.fa 3 (by rfl)
    (try simp (disch:=first | rfl | decide) only [R7.ai] at f53)
    rw[f53] at qA;clear f53;have ki:=(hA.be 0 (au _) (fun _ _=>au _)).size;have Qa:=hA.tm 6 56 (by rfl) (by rfl);have f56:xs 6=(.bool H):=hA.fa 6 (by rfl);rw[f56] at Qa;clear f56;have P8:=hA.tm 9 59 (by rfl) (by rfl);have f59:xs 9=(.bool H):=hA.fa 9 (by rfl);rw[f59] at P8;clear f59;have dK:=aT (hA.be pA.heap.size (ak _) (fun q h=>absurd h (ah q)));clear hA;refine⟨((aO.cF rfl (by rfl) qA).trans (by rfl)),fun K hK=>?_⟩;go_simp
    first | exact hK.out _ _ rfl (av _ _) | exact hK.out _ _ (by simp) (av _ _)
   refine R7.az.bT ?_ (by rfl) (fun T xs wr hA=>?_) ?_
   rotate_left 1
   ·have qA:=hA.tm 3 53 (by rfl) (by rfl);have f53:xs 3=_:=hA.fa 3 (by rfl)
    (try simp (disch:=first | rfl | decide) only [R7.ai] at f53)
    rw[f53] at qA;clear f53;have P7:=hA.tm 10 60 (by rfl) (by rfl);have f60:xs 10=(.bool false):=hA.fa 10 (by rfl);rw[f60] at P7;clear f60;clear hA;refine⟨(by rfl),?_⟩;go_simp<;>(try with_reducible rfl)
   refine R7.az.bT ?_ (by rfl) (fun T xs wr hA=>?_) ?_
   rotate_left 1
   ·have P6:=hA.tm 11 61 (by rfl) (by rfl);have f61:xs 11=_:=hA.fa 11 (by rfl)
    (try simp (disch:=first | rfl | decide) only [R7.ai] at f61)
    rw[f61] at P6;clear f61;clear hA;refine⟨(by rfl),?_⟩;go_simp<;>(try with_reducible rfl)
   refine R7.az.bT ?_ (by rfl) (fun T xs wr hA=>?_) ?_
   rotate_left 1
   ·have za:=hA.tm 12 62 (by rfl) (by rfl);have f62:xs 12=_:=hA.fa 12 (by rfl)
    (try simp (disch:=first | rfl | decide) only [R7.ai] at f62)
    rw[f62] at za;clear f62;have Fw:=hA.pre 10 (by kernel_rfl);simp only[eY,fD,fm] at Fw;have aP:wr.heap[ka]?=_:=(hA.bl _ oZ (fun q h=>absurd h (ah _))).trans bk.out;have q0:=ae (v:=.int .i64 y1.k) aP 0 rfl;have q1:=ae (v:=.bool (decide (y1.n.z<0))) aP 1 rfl;have q2:=ae (v:=.slice y1.n.o y1.n.l y1.n.c) aP 2 rfl;have q3:=ae (v:=.string y1.nm) aP 3 rfl;have q4:=ae (v:=.slice y1.ko y1.kl y1.kc) aP 4 rfl;clear aP;clear hA;refine⟨((aO.cF rfl (by rfl) za).trans (by rfl)),?_⟩;go_simp<;>(try with_reducible rfl)
   refine R7.az.call (fun xs v w=>FC w tS 5 v t1) (fun _ _ _ _ h hb=>FC.below h hb) (fun _ _ _ _ _ _ h _=>by obtain⟨q,hq,_⟩:=h;exact absurd hq (ah _)) (by rfl) (fun T xs wr hA=>?_) ?_
   ·have za:=hA.tm 12 62 (by rfl) (by rfl);have f62:xs 12=_:=hA.fa 12 (by rfl)
    (try simp (disch:=first | rfl | decide) only [R7.ai] at f62)
    rw[f62] at za;clear f62;have ki:=(hA.be 0 (au _) (fun _ _=>au _)).size;have UH:=hA.tm 13 63 (by rfl) (by rfl);have f63:xs 13=_:=hA.fa 13 (by rfl)
    (try simp (disch:=first | rfl | decide) only [R7.ai] at f63)
    rw[f63] at UH;clear f63;have dK:=aT (hA.be pA.heap.size (ak _) (fun q h=>absurd h (ah q)));have fB:=cg.out.below dK;clear hA;refine⟨((aO.cF rfl (by rfl) za).trans (by rfl)),fun K hK=>?_⟩;go_simp
    refine (Em 5 _ t1 _ _ _ _ [] [] 0 _ fB Ju.out IA.out ⟨_,_,rfl,au _,.inl rfl⟩ (FL.nil _ tS 0) (au _)).mono ?_;rintro e w' ⟨v,rfl,hu,hb'⟩;rw[G0] at hu;exact hK.out _ _ (hu.mono (fun _ _=>trivial)) hb'
   refine R7.az.call (fun xs v w=>v=.string ⟨L1.toArray⟩) (fun _ _ _ _ h _=>h) (fun _ _ _ _ _ h _ _=>h) (by rfl) (fun T xs wr hA=>?_) ?_
   ·have za:=hA.tm 12 62 (by rfl) (by rfl);have f62:xs 12=_:=hA.fa 12 (by rfl)
    (try simp (disch:=first | rfl | decide) only [R7.ai] at f62)
    rw[f62] at za;clear f62;have ki:=(hA.be 0 (au _) (fun _ _=>au _)).size;have R3:=hA.tm 14 64 (by rfl) (by rfl);have dK:=aT (hA.be pA.heap.size (ak _) (fun q h=>absurd h (ah q)));have ON:=HT.out.below dK;have PD:FC wr tS 5 (xs 14) t1:=hA.fa 14 (by rfl);have Ku:=PD;clear hA;refine⟨((aO.cF rfl (by rfl) za).trans (by rfl)),fun K hK=>?_⟩;go_simp
    refine (D5 5 (by decide) _ t1 _ _ Ku IA.out Ju.out ON).mono ?_;rintro e w' ⟨rfl,hb'⟩;rw[<-No.out];exact hK.out _ _ rfl hb'
   refine R7.az.bT ?_ (by rfl) (fun T xs wr hA=>?_) ?_
   rotate_left 1
   ·have za:=hA.tm 12 62 (by rfl) (by rfl);have f62:xs 12=_:=hA.fa 12 (by rfl)
    (try simp (disch:=first | rfl | decide) only [R7.ai] at f62)
    rw[f62] at za;clear f62;have Fw:=hA.pre 10 (by kernel_rfl);simp only[eY,fD,fm] at Fw;have aP:wr.heap[ka]?=_:=(hA.bl _ oZ (fun q h=>absurd h (ah _))).trans bk.out;have q0:=ae (v:=.int .i64 y1.k) aP 0 rfl;have q1:=ae (v:=.bool (decide (y1.n.z<0))) aP 1 rfl;have q2:=ae (v:=.slice y1.n.o y1.n.l y1.n.c) aP 2 rfl;have q3:=ae (v:=.string y1.nm) aP 3 rfl;have q4:=ae (v:=.slice y1.ko y1.kl y1.kc) aP 4 rfl;clear aP;clear hA;refine⟨((aO.cF rfl (by rfl) za).trans (by rfl)),?_⟩;go_simp<;>(try with_reducible rfl)
   refine R7.az.call (fun xs v w=>v=.string ⟨L1.toArray⟩) (fun _ _ _ _ h _=>h) (fun _ _ _ _ _ h _ _=>h) (by rfl) (fun T xs wr hA=>?_) ?_
   ·have za:=hA.tm 12 62 (by rfl) (by rfl);have f62:xs 12=_:=hA.fa 12 (by rfl)
    (try simp (disch:=first | rfl | decide) only [R7.ai] at f62)
    rw[f62] at za;clear f62;have ki:=(hA.be 0 (au _) (fun _ _=>au _)).size;have P4:=hA.tm 16 66 (by rfl) (by rfl);have f66:xs 16=_:=hA.fa 16 (by rfl)
    (try simp (disch:=first | rfl | decide) only [R7.ai] at f66)
    rw[f66] at P4;clear f66;have dK:=aT (hA.be pA.heap.size (ak _) (fun q h=>absurd h (ah q)));have ON:=HT.out.below dK;have fB:=cg.out.below dK;clear hA;refine⟨((aO.cF rfl (by rfl) za).trans (by rfl)),fun K hK=>?_⟩;go_simp
    refine (D5 5 (by decide) _ t1 _ _ fB IA.out Ju.out ON).mono ?_;rintro e w' ⟨rfl,hb'⟩;rw[<-No.out];exact hK.out _ _ rfl hb'
   refine R7.az.call (fun xs v w=>v=.bool false) (fun _ _ _ _ h _=>h) (fun _ _ _ _ _ h _ _=>h) (by rfl) (fun T xs wr hA=>?_) ?_
   ·have za:=hA.tm 12 62 (by rfl) (by rfl);have f62:xs 12=_:=hA.fa 12 (by rfl)
    (try simp (disch:=first | rfl | decide) only [R7.ai] at f62)
    rw[f62] at za;clear f62;have ki:=(hA.be 0 (au _) (fun _ _=>au _)).size;have P5:=hA.tm 15 65 (by rfl) (by rfl);have f65:xs 15=(.string ⟨L1.toArray⟩):=hA.fa 15 (by rfl);rw[f65] at P5;clear f65;have P2:=hA.tm 17 67 (by rfl) (by rfl);have f67:xs 17=(.string ⟨L1.toArray⟩):=hA.fa 17 (by rfl);rw[f67] at P2;clear f67;have dK:=aT (hA.be pA.heap.size (ak _) (fun q h=>absurd h (ah q)));clear hA;refine⟨((aO.cF rfl (by rfl) za).trans (by rfl)),fun K hK=>?_⟩;go_simp
    first | exact hK.out _ _ rfl (av _ _) | exact hK.out _ _ (by simp) (av _ _)
   refine R7.az.bT ?_ (by rfl) (fun T xs wr hA=>?_) ?_
   rotate_left 1
   ·have za:=hA.tm 12 62 (by rfl) (by rfl);have f62:xs 12=_:=hA.fa 12 (by rfl)
    (try simp (disch:=first | rfl | decide) only [R7.ai] at f62)
    rw[f62] at za;clear f62;have P0:=hA.tm 18 68 (by rfl) (by rfl);have f68:xs 18=(.bool false):=hA.fa 18 (by rfl);rw[f68] at P0;clear f68;clear hA;refine⟨(by rfl),?_⟩;go_simp<;>(try with_reducible rfl)
   refine R7.az.done (fun xs DR hL=>?_);obtain⟨⟨ei,cG⟩,hf,-,-⟩:=hL;have f0:xs 0=_:=hf 0 (by decide)
   (try simp (disch:=first | rfl | decide) only [R7.ai] at f0)
   have f1:xs 1=(.bool true):=hf 1 (by decide);have f2:xs 2=_:=hf 2 (by decide)
   (try simp (disch:=first | rfl | decide) only [R7.ai] at f2)
   have f3:xs 3=_:=hf 3 (by decide)
   (try simp (disch:=first | rfl | decide) only [R7.ai] at f3)
   have f4:xs 4=_:=hf 4 (by decide)
   (try simp (disch:=first | rfl | decide) only [R7.ai] at f4)
   have f5:xs 5=_:=hf 5 (by decide)
   (try simp (disch:=first | rfl | decide) only [R7.ai] at f5)
   have f6:xs 6=(.bool H):=hf 6 (by decide);have f7:xs 7=_:=hf 7 (by decide)
   (try simp (disch:=first | rfl | decide) only [R7.ai] at f7)
   have f8:xs 8=_:=hf 8 (by decide)
   (try simp (disch:=first | rfl | decide) only [R7.ai] at f8)
   have f9:xs 9=(.bool H):=hf 9 (by decide);have f10:xs 10=(.bool false):=hf 10 (by decide);have f11:xs 11=_:=hf 11 (by decide)
   (try simp (disch:=first | rfl | decide) only [R7.ai] at f11)
   have f12:xs 12=_:=hf 12 (by decide)
   (try simp (disch:=first | rfl | decide) only [R7.ai] at f12)
   have f13:xs 13=_:=hf 13 (by decide)
   (try simp (disch:=first | rfl | decide) only [R7.ai] at f13)
   have VI:FC DR tS 5 (xs 14) t1:=hf 14 (by decide);have f15:xs 15=(.string ⟨L1.toArray⟩):=hf 15 (by decide);have f16:xs 16=_:=hf 16 (by decide)
   (try simp (disch:=first | rfl | decide) only [R7.ai] at f16)
   have f17:xs 17=(.string ⟨L1.toArray⟩):=hf 17 (by decide);have f18:xs 18=(.bool false):=hf 18 (by decide);have f19:xs 19=_:=hf 19 (by decide)
   (try simp (disch:=first | rfl | decide) only [R7.ai] at f19)
   have hb0:aC 0 pA DR:=aT (ei 0 (au _) (fun _ _=>au _));have jR:∀ j,j<pA.heap.size->(∀ q,q<0->(fun q=>0) q≠j)->DR.heap[j]?=pA.heap[j]?:=cG;clear ei cG hf;have hb:aC pA.heap.size pA DR:=⟨hb0.os,hb0.tape,hb0.output,hb0.size,fun q hq=>jR q hq (fun q h=>absurd h (ah _))⟩
   refine R7.gg ?_;simp only[R7.fill,xz,xy,xx,f0,f1,f2,f3,f4,f5,f6,f7,f8,f9,f10,f11,f12,f13,f15,f16,f17,f18,f19];clear hb0 jR fK oZ E9 f0 f1 f2 f3 f4 f5 f6 f7 f8 f9 f10 f11 f12 f13 f15 f16 f17 f18 f19;replace bk:=aG hb bk;replace r5:=aG hb r5;replace iL:=aG hb iL;replace HW:=aa (HW.out.trans (hb.mono HW.out.size));replace HX:=aa (HX.out.below hb);replace HY:=aa (HY.out.below hb);replace HT:=aa (HT.out.below hb);replace qD:=aa (qD.out.below hb);replace HB:=aa (HB.out.trans (hb.mono HB.out.size));replace cg:=aa (cg.out.below hb);replace fW:=aa (fW.out.below hb);replace Lp:=aa (Lp.out.below hb);replace QJ:=aa (QJ.out.below hb);replace hb:=aa hb;clear VI;go_wp2_with fail
   go_roundw
   case rel=>exact⟨j+1,by go_num,Ln.out,HB⟩
   case measure=>have:=Ln.out;simp[intOf];omega
  have ej:j=3:=by omega
  subst ej;go_wp2_with fail
  go_ret
  exact⟨rfl,HW.out⟩
end Go.Proofs.YtoncclhbdkjhmaaGreatDoor
namespace Go.Proofs.YtoncclhbdkjhmaaGreatDoor
open Go.ChangeShapes Go.WideShapes Go.ChangeAt Go.RowKit
set_option maxRecDepth 100000
theorem own:ownKnob Tryz.prog.godebug=none:=by kernel_rfl
theorem laidOut:laidOutB ax=true:=by kernel_rfl
theorem Bc {w:an} {a:Addr} {len cap:Nat} {zs:List Int} (hl:len<=cap) (hm:cap<=fO) (hz:len<=zs.length)
  (hcell:∀ i,i<zs.length->w.cell? (a.add i)=some (.int .u32 (zs.getD i 0))) (hwf:∀ n ∈ zs,(Lit.int .u32 n).wf=true) :
  ∃ xs,Sl w .u32 (.slice (some a) len cap) xs/\eI 4294967296 xs:=by
 have hb:∀ n ∈ zs,0<=n/\n<4294967296:=fun n hn=>by
  have:=hwf n hn
  simp[Lit.wf,IntKind.min,IntKind.max,IntKind.bits,IntKind.signed] at this
  omega
 refine⟨(zs.take len).map Int.toNat,⟨some a,cap,?_,?_,by unfold fO at hm;omega,(fun e=>by cases e),fun i hi=>⟨a,rfl,?_⟩⟩,?_⟩
 ·rw[iM,aW,cE hz]
 ·rw[iM,aW,cE hz];exact hl
 ·rw[iM,aW,cE hz] at hi;have hi':i<zs.length:=by omega
  rw[hcell i hi'];have:=hb zs[i] (cI hi');unfold nth
  simp[List.getD,hi,hi']
  omega
 intro x hx;obtain⟨n,hn,rfl⟩:=List.mem_map.1 hx;have:=hb n (List.mem_of_mem_take hn)
 omega
theorem EE (os:Os) (args:Array ay):laidMet ax Rows.logicPutsRow.laid ((World.laidAll ax os Rows.logicPutsRow.laid).forCall (fun _ _=>0) ⟨#[],args,[]⟩).memory:=
 laidMet_laidAll _ (by kernel_rfl) (by kernel_rfl)
theorem PK : (Tryz.prog.globalNamed "internal/strconv.uint64pow10").bind (fun g => (Tryz.prog.globals[g]?).map fun x => (Tryz.prog.underlying x.type, Tryz.prog.cellsOf x.type)) = some (some (.array 20 130), 20) := by kernel_rfl
theorem Fx:Tryz.prog.cellsOf 130=1:=by kernel_rfl
theorem G1:(Rows.laid_internal_strconv_uint64pow10:DataW Unit)=Lib.tabData .u64 Lib.pow10Tab:=rfl
theorem table {W : an} (h : laidMetH ax Rows.logicPutsRow.laid W) : Lib.TabIs ax W "internal/strconv.uint64pow10" .u64 Lib.pow10Tab := by
 have h':laidMet ax Rows.logicPutsRow.laid W:=h;obtain⟨_,⟨_,_,_,_,_,_,_,_,_,_,⟨_,_,_,_,_,_,_,_,_,_,⟨g,t,cs,fuel,p,q,hg,ht,hvar,hd,_,_⟩,_⟩,_⟩,_⟩:=h';have e:=PK;rw[hg,Option.bind_some] at e;obtain⟨x,hx,ex⟩:=Option.map_eq_some_iff.1 e;rw[hx,Option.map_some] at ht;injection ht with ht;injection ex with e1 e2;rw[ht] at e1 e2;unfold Lib.TabIs;rw[hvar,<-Lib.cells_of_tab e1 Tryz.underlying130 Fx e2 (G1 ▸ hd)]
set_option linter.unusedVariables false
theorem xI {H:Type} {enc:bu × ay->H} {P:Program} {w:an} {base:Nat} {sp:Nat->Bool} {held:Bool} {fuel:Nat} {t e:bu} {n:Nat} {cs:List ay} {ss:List Bs} {p:List MemPlace}
  (ht:P.underlying t=some (.array n e)) (he:P.underlying e=some .string) (hce:P.cellsOf e=1) (hct:P.cellsOf t=n)
  (h:jY enc P w base sp held fuel t cs=some (.agg (ss.map fun s=>.lit (.string s)),p)):cs=ss.map fun s=>Value.string ⟨s.toArray⟩:=by
 cases fuel with
 | zero=>simp[jY] at h
 | succ fuel =>
  simp only[jY,ht,hce,hct,Nat.mul_one] at h
  split at h
  ·rename_i hl
   obtain⟨xs,hm,hx⟩:=Option.map_eq_some_iff.1 h
   have hxs:xs.map (·.1)=ss.map fun s=>(DataW.lit (.string s):DataW H):=by
    have:=congrArg Prod.fst hx
    simpa using this
   have hxl:xs.length=n:=by simpa using Lib.mapM_length hm
   have V_:ss.length=n:=by
    have:=congrArg List.length hxs
    simp at this
    omega
   apply List.ext_getElem?
   intro i
   by_cases hi:i<n
   ·obtain⟨b,hb,hf⟩:=Lib.mapM_at hm i i (by simp[hi]);obtain⟨z,hc,rfl,_⟩:=DataW.trod_string he hf
    have h1:cs[i]?=some (.string z):=by
     have:=congrArg (·[0]?) hc
     simpa [List.getElem?_take,List.getElem?_drop] using this
    have h2:(xs.map (·.1))[i]?=some (DataW.lit (.string z.data.toList):DataW H):=by simp[hb]
    rw[hxs] at h2;simp only[List.getElem?_map,Option.map_eq_some_iff,DataW.lit.injEq,Lit.string.injEq] at h2;obtain⟨s,hs,hz⟩:=h2
    simp[h1,hs,hz]
   rw[gm (by omega),gm (by simp;omega)]
  cases h
theorem PJ : (Tryz.prog.globalNamed "litmus/logic.words").bind (fun g => (Tryz.prog.globals[g]?).map fun x => (Tryz.prog.underlying x.type, Tryz.prog.cellsOf x.type)) = some (some (.array 21 9), 21) := by kernel_rfl
theorem Ov : Tryz.prog.globalNamed "litmus/logic.words" = some 1 := by kernel_rfl
theorem Fz:Tryz.prog.cellsOf 9=1:=by kernel_rfl
theorem JB:(Rows.laid_litmus_logic_words:DataW Unit)=.agg (uH.map fun s=>.lit (.string s)):=by rfl
theorem KL:(Rows.laid_unicode_utf8_acceptRanges:DataW Unit)=Lib.acceptData:=by rfl
theorem Lx:uH.length=21:=by rfl
theorem LC {W:an} (hL:laidMetH ax Rows.logicPutsRow.laid W):CJ W:=by
 refine⟨table hL,fun i hi=>?_,?_,?_⟩
 ·obtain ⟨g, t, cs, fuel, p, hg, hty, hvar, hd⟩ := gY hL (n := "litmus/logic.words") (d := Rows.laid_litmus_logic_words) (.tail _ (.tail _ (.tail _ (.tail _ (.head _)))));have e := PJ;rw [hg, Option.bind_some] at e;obtain ⟨x, hx, ex⟩ := Option.map_eq_some_iff.1 e;rw [hx, Option.map_some] at hty;injection hty with hty;injection ex with e1 e2;rw [hty] at e1 e2;have hc := xI e1 gH Fz e2 (JB ▸ hd);rw [World.var?_cell Ov hvar i];have : cs[i]? = cs.toList[i]? := by simp
  rw[this,hc];have hw:=Lx
  simp[List.getD,hi,hw]
 ·exact printTabs_of_reads (ρ:=Tryz.pO) { Tryz.wB with } ⟨by kernel_rfl,by kernel_rfl,by kernel_rfl,by kernel_rfl,by kernel_rfl,by kernel_rfl,by kernel_rfl,by kernel_rfl,by kernel_rfl,by kernel_rfl⟩
   (Pinned.isPrint16_eq ▸ gY hL (.tail _ (.tail _ (.tail _ (.tail _ (.tail _ (.tail _ (.tail _ (.tail _ (.head _))))))))))
   (Pinned.isNotPrint16_eq ▸ gY hL (.tail _ (.tail _ (.tail _ (.tail _ (.tail _ (.tail _ (.head _))))))))
   (Pinned.isPrint32_eq ▸ gY hL (.tail _ (.tail _ (.tail _ (.tail _ (.tail _ (.tail _ (.tail _ (.tail _ (.tail _ (.head _)))))))))))
   (Pinned.isNotPrint32_eq ▸ gY hL (.tail _ (.tail _ (.tail _ (.tail _ (.tail _ (.tail _ (.tail _ (.head _)))))))))
 exact utf8Tabs_of_reads (ρ:=Tryz.pO) { Tryz.wB with } ⟨by kernel_rfl,by kernel_rfl,by kernel_rfl,by kernel_rfl,by kernel_rfl,by kernel_rfl,by kernel_rfl⟩
  (Pinned.utf8First_eq ▸ gY hL (.tail _ (.tail _ (.tail _ (.tail _ (.tail _ (.tail _ (.tail _ (.tail _ (.tail _ (.tail _ (.head _))))))))))))
  (KL ▸ gY hL (.tail _ (.tail _ (.tail _ (.head _)))))
theorem AG:Tryz.prog.cellsOf 41=5:=by kernel_rfl
theorem BV:Tryz.prog.cellsOf 36=1:=by kernel_rfl
theorem rE:Tryz.prog.cellsOf 26=2:=by kernel_rfl
theorem BS:Tryz.prog.cellsOf 39=1:=by kernel_rfl
theorem wP:Tryz.prog.cellsOf 4=1:=by kernel_rfl
theorem Dv:Tryz.prog.cellsOf 24=1:=by kernel_rfl
theorem Bl {H:Type} {enc:bu × ay->H} {W:an} {fuel:Nat} {c:ay} {y:DataW H × List MemPlace}
  (h:jY enc ax W 0 (fun _=>true) true fuel 24 [c]=some y):∃ ao n q,c=.slice ao n q/\su W (.slice ao n q):=by
 rcases open_ints Tryz.underlying24 Tryz.underlying153 (by kernel_rfl) h with ⟨hcs,_⟩ | ⟨x,l,c',zs,hcs,_,hl,hm,hz,_,hcell,hwz⟩
 ·simp at hcs
  subst hcs;exact⟨none,0,0,rfl,[],Sl.nil _ _,fun x hx=>by cases hx⟩
 simp at hcs
 subst hcs;obtain⟨xs,hs,hd⟩:=Bc hl hm (by rw[hz];split<;>omega) hcell hwz;exact⟨_,_,_,rfl,xs,hs,hd⟩
theorem r_ {z:Int} (h:(Lit.int .i64 z).wf=true) : -9223372036854775808<=z/\z<=9223372036854775807:=by
 simp[Lit.wf,IntKind.min,IntKind.max,IntKind.bits,IntKind.signed] at h
 omega
theorem ua {H:Type} {enc:bu × ay->H} {W:an} {fuel:Nat} {cs:List ay} {y:DataW H × List MemPlace} (h:jY enc ax W 0 (fun _=>true) true fuel 26 cs=some y) :
  ∃ b o l c,cs=[.bool b,.slice o l c]/\su W (.slice o l c):=by
 obtain⟨xs,m,-,-,yX,OG,Jf⟩:=DataW.trod_struct Tryz.underlying26 h;rw[rE] at yX
 match cs,yX with
 | [c0,c1],_ =>
  match xs,OG with
  | [u0,u1],_ =>
   have q0:=Jf 0 _ rfl;have q1:=Jf 1 _ rfl
   simp[wP] at q0
   simp[Dv] at q1
   obtain⟨b,eb,-⟩:=DataW.trod_bool lg q0;obtain⟨ao,ln,lc,rfl,hs⟩:=Bl q1
   simp at eb
   subst eb;exact⟨_,_,_,_,rfl,hs⟩
theorem Bo {H:Type} {enc:bu × ay->H} {W:an} {fuel:Nat} {c:ay} {y:DataW H × List MemPlace}
  (h:jY enc ax W 0 (fun _=>true) true fuel 39 [c]=some y):∃ o n q,c=.slice o n q/\rY W o n q:=by
 rcases Go.Deep.open_slice Tryz.underlying39 h with ⟨hcs,-⟩ | ⟨a,len,cap,mm,n',D,Pl,hcs,-,hle,hm,hmm,-,hi⟩
 ·simp at hcs
  subst hcs;exact⟨none,0,0,rfl,⟨ak _,au _⟩,fun i hi=>absurd hi (ah _)⟩
 simp at hcs
 subst hcs;refine⟨_,_,_,rfl,⟨hle,hm⟩,fun i Kh=>?_⟩;obtain⟨cs',hc,ht'⟩:=hi i (by simp only[if_true] at hmm;omega);rw[rE] at hc;obtain⟨_,tP,zG⟩:=World.cells?_some hc;obtain⟨b,o,l,c,rfl,hr⟩:=ua ht';exact⟨a,b,o,l,c,rfl,(zG 0 (by decide)),(zG 1 (by decide)),hr⟩
theorem CQ {H:Type} {enc:bu × ay->H} {W:an} {fuel:Nat} {cs:List ay} {y:DataW H × List MemPlace} (h:jY enc ax W 0 (fun _=>true) true fuel 41 cs=some y) :
  ∃ k b o l c d p m q,cs=[.int .i64 k,.bool b,.slice o l c,.bool d,.slice p m q]/\(-9223372036854775808<=k/\k<=9223372036854775807)/\su W (.slice o l c)/\rY W p m q:=by
 obtain⟨ys,n,-,-,hlen,J3,hf⟩:=DataW.trod_struct Tryz.underlying41 h;rw[AG] at hlen
 match cs,hlen with
 | [c0,c1,c2,c3,c4],_ =>
  match ys,J3 with
  | [y0,y1,y2,y3],_ =>
   have g0:=hf 0 _ rfl;have g1:=hf 1 _ rfl;have g2:=hf 2 _ rfl;have g3:=hf 3 _ rfl
   simp[BV] at g0
   simp[rE] at g1
   simp[wP] at g2
   simp[BS] at g3
   obtain⟨k,e0,-,w0⟩:=DataW.trod_int Tryz.underlying36 g0;obtain⟨b,o,l,c,e1,hn⟩:=ua g1;obtain⟨d,e2,-⟩:=DataW.trod_bool lg g2;obtain⟨p,m,q,e3,hi⟩:=Bo g3
   simp at e0 e1 e2
   obtain⟨Qh,Qg⟩:=e1;subst e0 Qh Qg e2 e3;exact⟨_,_,_,_,_,_,_,_,_,rfl,r_ w0,hn,hi⟩
theorem C7 {H:Type} {enc:bu × ay->H} {W:an} {base:Nat} {r:Reach} {v:ay} {d:DataW H} {p:List MemPlace}
  (hv:Value.okWide ax W r base 30 v) (h:DataW.Trod enc ax W 0 (fun _=>true) true 30 v d p):∃ ko n kc,v=.slice ko n kc/\q8 W ko n kc:=by
 obtain⟨a0,Tc,UN,rfl⟩:=okWide_slice Tryz.underlying30 hv;obtain⟨fuel,hf⟩:=h;refine⟨_,_,_,rfl,?_⟩;rcases Go.Deep.open_slice Tryz.underlying30 hf with ⟨hcs,-⟩ | ⟨a,len,cap,mm,n',D,Pl,hcs,-,hle,hm,hmm,-,hi⟩
 ·simp[Value.cells] at hcs
  obtain⟨rfl,rfl,rfl⟩:=hcs;exact⟨⟨ak _,au _⟩,fun i hi=>absurd hi (ah _)⟩
 simp[Value.cells] at hcs
 obtain⟨rfl,rfl,rfl⟩:=hcs;refine⟨⟨hle,hm⟩,fun i Kh=>?_⟩;obtain⟨cs',hc,ht'⟩:=hi i (by simp only[if_true] at hmm;omega);rw[AG] at hc;obtain⟨_,tP,zG⟩:=World.cells?_some hc;obtain⟨k,b,o,l,c,d,p,m,q,rfl,h1,h2,h3⟩:=CQ ht';exact⟨a,k,b,o,l,c,d,p,m,q,rfl,⟨zG 0 (by decide),zG 1 (by decide),zG 2 (by decide),zG 3 (by decide),zG 4 (by decide)⟩,h1,h2,h3⟩
theorem yw:Tryz.prog.cellsOf 29=5:=by kernel_rfl
theorem Fy:Tryz.prog.cellsOf 22=1:=by kernel_rfl
theorem Du:Tryz.prog.cellsOf 9=1:=by kernel_rfl
theorem BT:Tryz.prog.cellsOf 27=1:=by kernel_rfl
theorem qZ {H:Type} {enc:bu × ay->H} {W:an} {fuel:Nat} {cs:List ay} {y:DataW H × List MemPlace} (h:jY enc ax W 0 (fun _=>true) true fuel 29 cs=some y) :
  ∃ x:RU,cs=rC x/\IR x.o/\su W (.slice x.ao x.l x.c)/\x.nm.size<=9223372036854775807/\(x.kl<=x.kc/\x.kc<=fO) /\
   ∀ i,i<x.kl->∃ cs' n' y',Gq 5 W x.ko i cs'/\jY enc ax W 0 (fun _=>true) true n' 29 cs'=some y':=by
 obtain⟨ys,n,-,-,hlen,J3,hf⟩:=DataW.trod_struct Tryz.underlying29 h;rw[yw] at hlen
 match cs,hlen with
 | [c0,c1,c2,c3,c4],_ =>
  match ys,J3 with
  | [y0,y1,y2,y3],_ =>
   have g0:=hf 0 _ rfl;have g1:=hf 1 _ rfl;have g2:=hf 2 _ rfl;have g3:=hf 3 _ rfl
   simp[Fy] at g0
   simp[rE] at g1
   simp[Du] at g2
   simp[BT] at g3
   obtain⟨k,e0,-,w0⟩:=DataW.trod_int Tryz.underlying22 g0;obtain⟨b,o,l,c,e1,hn⟩:=ua g1;obtain⟨s,e2,-,w2⟩:=DataW.trod_string gH g2
   simp at e0 e1 e2
   obtain⟨Qh,Qg⟩:=e1;subst e0 Qh Qg e2;rcases Go.Deep.open_slice Tryz.underlying27 g3 with ⟨hcs,-⟩ | ⟨a,len,cap,mm,n',D,Pl,hcs,-,hle,hm,hmm,-,hi⟩
   ·simp at hcs
    subst hcs;exact⟨⟨k,b,o,l,c,s,none,0,0⟩,rfl,r_ w0,hn,by unfold fO at w2;exact w2,⟨ak _,au _⟩,fun i hi=>absurd hi (ah i)⟩
   simp at hcs
   subst hcs;refine⟨⟨k,b,o,l,c,s,some a,len,cap⟩,rfl,r_ w0,hn,by unfold fO at w2;exact w2,⟨hle,hm⟩,fun i Kh=>?_⟩;obtain⟨cs',hc,ht'⟩:=hi i (by simp only[if_true] at hmm;have:i<len:=Kh;omega);rw[yw] at hc;obtain⟨_,tP,zG⟩:=World.cells?_some hc;refine⟨cs',n',_,⟨a,rfl,fun j v hj=>?_⟩,ht'⟩;have y7:j<5:=by have:=(List.getElem?_eq_some_iff.1 hj).1;omega
   rw[zG j y7];exact hj
theorem JQ {x y:RU} (e:rC x=rC y):x=y:=by
 obtain⟨o,b,ao,l,c,nm,ko,kl,kc⟩:=x;obtain⟨o',b',DO,l',c',IZ,EG,NC,Bn⟩:=y;simp only[rC,List.cons.injEq,Value.int.injEq,Value.string.injEq,Value.bool.injEq,Value.slice.injEq,true_and,and_true] at e;obtain⟨e1,e2,⟨e3,e4,e5⟩,e6,⟨e7,e8,e9⟩⟩:=e;subst e1 e2 e3 e4 e5 e6 e7 e8 e9
 rfl
theorem xV {H:Type} {enc:bu × ay->H} {W:an}:∀ (d:Nat) {fuel:Nat} {x:RU} {y:DataW H × List MemPlace},jY enc ax W 0 (fun _=>true) true fuel 29 (rC x)=some y->nj W d x
 | 0,_,_,_,_=>trivial
 | d+1,fuel,x,y,h=>by
  obtain⟨x',e,h1,h2,h3,h4,h5⟩:=qZ h;have ex:=JQ e;subst ex;refine⟨h1,h2,h3,h4,fun i hi=>?_⟩;obtain⟨cs',n',y',hc,ht⟩:=h5 i hi;obtain⟨u,hu,-⟩:=qZ ht;subst hu;exact⟨u,hc,xV d ht⟩
theorem xY {H:Type} {enc:bu × ay->H} {W:an} {base:Nat} {r:Reach} {v:ay} {d:DataW H} {p:List MemPlace}
  (hv:Value.okWide ax W r base 29 v) (h:DataW.Trod enc ax W 0 (fun _=>true) true 29 v d p):∃ x:RU,v=rV x/\∀ d,nj W d x:=by
 obtain⟨cs,rfl,hsz⟩:=okWide_struct Tryz.underlying29 hv;obtain⟨fuel,hf⟩:=h;have hcs:(Value.agg cs).cells.toList=cs.toList:=rfl;rw[hcs] at hf;obtain⟨x,e,-⟩:=qZ hf;rw[e] at hf;exact⟨x,by unfold rV;congr 1;apply Array.ext';rw[e];rfl,fun d=>xV d hf⟩
end Go.Proofs.YtoncclhbdkjhmaaGreatDoor
