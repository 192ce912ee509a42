/-
 Joined texts: FbG,FbR,FbH,FbJ,FbQ,FbK,FbL,KTab,LgBi,VlO,LgZft.
-/
import Derived.Test.YtoncclhbdkjhmaaGreatDoorCards
import Derived.Test.YtoncclhbdkjhmaaGreatDoorTie
import Derived.ProofKit
import Derived.OpenShut
import Derived.ShutString
import Derived.ChangeOld
import Derived.Deep.DeepHandedRow
import Derived.Lib.LaidTab
import Derived.LaidMore
import Derived.Lay
import Derived.Lib.ItoaNum
import Derived.PinnedBridge
import Derived.Lib.LaidU8
import Derived.Lib.LaidPrint
import Derived.Deep.Slices
import Derived.Test.YtoncclhbdkjhmaaGreatDoorJFactsGrow1
import Derived.Test.YtoncclhbdkjhmaaGreatDoorJFactsGrow2
import Derived.Test.YtoncclhbdkjhmaaGreatDoorJFactsGrow3
import Derived.Test.YtoncclhbdkjhmaaGreatDoorJFactsGrow5
import Derived.Test.YtoncclhbdkjhmaaGreatDoorJFactsGrow6
import Derived.Test.YtoncclhbdkjhmaaGreatDoorJFactsGrow7
set_option maxHeartbeats 32000000
open Go renaming lt_of_block→ae,World→af,Value→ak,bodyPost_ret→aJ,Calls→aV,TypeId→aZ,maxLen→bn,heap_alloc_new→bz,Addr→cu
open Go.Exit renaming inBlock→aN,«then»→bx
open Go.Lib renaming hid→aa
open Go.Lib.laidMet renaming reads→fA
open Go.Proofs.Tryz renaming prog→aj,underlying9→eF
open Go.RowKit renaming Below→aB,intOf→eT
open Go.RowKit.Below renaming refl→ax
open Go.Value renaming slice→gC
open List renaming not_mem_nil→aK,mem_cons→aP,take_succ_eq_append_getElem→aT,mem_singleton→aX,length_take→bD,getElem_mem→bS,take_length→cz,length_map→cQ,mem_append_left→dm,map_append→dF,flatMap_cons→gr,mem_append→gO,filter_cons→gX,nodup_nil→lQ,filter_append→lS,getElem_append_right→oy,getElem_append_left→pg,length_filter_le→pJ,mem_cons_of_mem→r_,flatMap_append→Fm,mem_flatMap→Kf
open Nat renaming le_refl→ag,zero_le→ah,le_trans→ai,not_lt_zero→an,lt_of_lt_of_le→az,min_eq_left→fy
namespace Go.Proofs.YtoncclhbdkjhmaaGreatDoor
open Go.RowKit
set_option maxRecDepth 100000
set_option linter.unusedVariables false
set_option linter.unusedSimpArgs false
attribute [local go_sem] cL cK cJ cI
theorem qN (x:F):(dM x).length<=2:=by
 unfold dM;rw[jo];split
 ·simp
 split<;>simp
theorem tN (x:F):(cg x).length<=6:=by
 have h:=qN x;unfold cg;split
 ·rw[dB,List.length_singleton];omega
 split
 ·omega
 split
 ·rw[dB];simp only[jo,qE];omega
 split
 ·rw[dB,dB];simp only[jH,jo,qE];omega
 split
 ·simp
 split
 ·simp
 split
 ·simp[kF]
 simp
theorem q9 {f:F->List F} {c:Nat} (h:∀ x,(f x).length<=c):∀ l:List F,(l.flatMap f).length<=c*l.length
 | []=>by simp
 | a::l=>by
  have h1:=q9 h l;have h2:=h a;rw[gr,dB,jo,Nat.mul_add,Nat.mul_one];omega
theorem Aa {f:F->List F} {l:List F} {j:Nat} (h:j<l.length):(l.take (j+1)).flatMap f=(l.take j).flatMap f++f l[j]:=by
 rw[aT h,Fm,gr,List.flatMap_nil,List.append_nil]
theorem Dx (L:List F):jD [] L=L.filter nb:=by unfold jD;simp
def KO (t:F):Bool:=decide (cU t.op=2)
theorem vg (L L1:List F):(jD L L1).filter KO=(L1.drop L.length).filter (fun t=>decide (cU t.op=2)):=by
 unfold jD KO;rw[List.filter_filter];apply List.filter_congr;intro x _;by_cases h:cU x.op=2
 ·rw[decide_eq_true h,Bool.true_and];exact decide_eq_true (by rw[h];decide)
 rw[decide_eq_false h,Bool.false_and]
theorem St.OP {B k B0:Nat} {E:Nat->Prop} {L s:List F} {w w':af} {v v':ak} {l l':List Nat} (h:St B k E L s w) (hE:∀ g,v.ownBlock=some g->E g) (hR:fQ.Row w B0 v l) (hB:B<=B0) (hg:w.grownBy w' v.ownBlock) (hf:jF w v v') (XL:fQ.Row w' B0 v' l'):St B k (fun g=>v'.ownBlock=some g) L s w':=by
 refine h.uR hg (fun g hr=>?_) (fun g qR=>?_) (fun g qR=>(XL.ge qR).2)
 ·obtain⟨c,hc,h32⟩:=hR.n32 g hr;exact⟨hE g hr,ai hB (hR.ge hr).1,c,_,hc,by decide,h32⟩
 rcases hf g qR with e | e
 ·exact .inl (hE g e)
 exact .inr e
theorem tw {B k:Nat} {w w':af} {ko:Option cu} {n c:Nat} {l:List Nat} (h:fQ.At w (.slice ko n c) l) (f:cA B k w w'):fQ.At w' (.slice ko n c) l:=by
 obtain⟨v_,we,e,h1,h2⟩:=h;refine⟨v_,we,e,h1,fun j hj=>?_⟩;obtain⟨a,ha,⟨c,hc⟩,h3,h4⟩:=h2 j hj;have hb:=f.block _ (ae hc) (NO.cells hc (by decide));exact⟨a,ha,⟨c,hb.trans hc⟩,fun q u hu=>by rw[cM (w:=w) (by rw[bX];exact hb)];exact h3 q u hu,trivial⟩
theorem wk {w w':af} {r:Option Nat} {ko:Option cu} {n c:Nat} {l:List Nat} (h:fQ.At w (.slice ko n c) l) (f:w.grownBy w' r) (hn:∀ a,ko=some a->some a.block≠r):fQ.At w' (.slice ko n c) l:=by
 obtain⟨v_,we,e,h1,h2⟩:=h;injection e with e1 e2 e3;refine⟨v_,we,by rw[e1,e2,e3],h1,fun j hj=>?_⟩;obtain⟨a,ha,⟨c,hc⟩,h3,h4⟩:=h2 j hj;have hb:=f.block _ (ae hc) (hn a (by rw[e1];exact ha));exact⟨a,ha,⟨c,hb.trans hc⟩,fun q u hu=>by rw[cM (w:=w) (by rw[bX];exact hb)];exact h3 q u hu,trivial⟩
theorem vU (d:Nat) (v:ak) (t:F) (w:af) (h:FC w tS d v t) (hd:d<=9) (pT:rt t=true) (D9:Tg d t) (hsz:CG t<=1000) (hgd:∀ y ∈ uF t,Gd y) (ht:vG w) :
  aV aj 21 #[v] w fun e w'=>∃ v',e=.returned v'/\FL w' tS 9 v' (uF t)/\aB w.heap.size w w':=by
 have HF:=aa h;have HD:=aa hd;have Pg:=aa pT;have LV:=aa D9;have r6:=aa hsz;have QI:=aa hgd;have HT:=aa ht;obtain⟨b,ao,l,c,ko,kl,kc,rfl,-,-,-⟩:=h.open;obtain⟨o,ho⟩:∃ o,o=t.op:=⟨_,rfl⟩;obtain⟨nm,hnm⟩:∃ o,o=t.name:=⟨_,rfl⟩;rw[<-ho,<-hnm] at HF ⊢;clear h hd pT D9 hsz hgd ht ho hnm;go_enter Tryz.func21,Tryz.ntmps21;obtain⟨x1,kf,ef,ki,cn,jC,aG⟩:=aW w #[.int .i64 o,.bool b,.slice ao l c,.string nm,.slice ko kl kc] 29;have HW:=aa cn.out;replace HF:=aa (HF.out.below cn.out);replace HT:=aa (HT.out.below cn.out);obtain⟨⟨c0,c1,c2,c3,c4⟩,-⟩:=ay aG.out;go_wp2_with fail;refine (AX d _ t tS x1 HF.out).mono ?_;rintro e x2 ⟨rfl,hb⟩;rw[Pg.out];clear c0 c1 c2 c3 c4;replace aG:=bM hb aG
 replace HF:=aa (HF.out.below hb);replace HT:=aa (HT.out.below hb);replace HW:=aa (HW.out.trans (hb.mono HW.out.size));clear hb;go_wp2_with fail;refine (Nc x2 HT.out).mono ?_;rintro e x3 ⟨k,rfl,hst,hb⟩;replace aG:=bM hb aG;have AF:Hid (FC x3 (NS x2.heap.size k (fun _=>False) x3) d (.agg #[.int .i64 o,.bool b,.slice ao l c,.string nm,.slice ko kl kc]) t):=aa (by
  obtain⟨u,e,hft⟩:=HF.out;exact⟨u,e,hft.GR hb (fun g h=>h.elim)⟩)
 have SC:=aa (HW.out.trans (hb.mono HW.out.size));have Vd:=aa HW.out.size;have BA:=aa hst;have AH:=aa hb;obtain⟨B,hB⟩:∃ B,B=x2.heap.size:=⟨_,rfl⟩;rw[<-hB] at BA AF Vd AH;clear hst hb HF HT HW hB;obtain⟨⟨c0,c1,c2,c3,c4⟩,-⟩:=ay aG.out;go_wp2_with fail;refine (LM d _ _ _ _ _ x3 _ t BA.out AF.out Pg.out LV.out HD.out (by have:=r6.out;simp only[qE];omega)).mono ?_;rintro e x4 ⟨i,s1,rfl,q1,q2,q3,q4⟩;clear c0 c1 c2 c3 c4;have Fa:Hid (s1.length<=1000):=aa (by have h1:=q2.len;have h2:=r6.out;simp only[qE] at h1;omega);have HI:=aa q3;have Mb:Hid (aB B x3 x4):=aa (q4.below BA.out.om.1);have CT:=aa q1;clear q1 q2 q3 q4 BA AF aG;obtain⟨x5,kq,eq,yY,gu,qw,mz⟩:=aW x4 #[.int .i64 ((i:Nat):Int)] 116
 have MJ:=aa (CT.out.below gu.out);have uB:Hid (aB B x3 x5):=aa (Mb.out.trans (gu.out.mono CT.out.om.1));have vH:=aa (pN (l:=[i]) mz.out (by show 1<=bn;decide));go_wp2_with fail;refine (A_ x5 MJ.out lQ (some ⟨kq,0,none⟩) 1 1 [i] vH.out [t] (by simp only[List.map_cons,List.map_nil,HI.out]) (by decide)).mono ?_;rintro e x6 ⟨v1,l1,rfl,r1,r2,r3,r4⟩;have zQ:eC [] [t]=jB [] t:=by rw[eC,eC]
 rw[zQ] at r2 r3;rw[Dx] at r2;obtain⟨T1,zX⟩:∃ x,x=(jB [] t).filter nb:=⟨_,rfl⟩;rw[<-zX] at r2;have mw:=aa zX;have Pd:Hid (T1.length<=1000):=aa (by
  obtain⟨km,v0,us,M,hU⟩:=r3;have h1:=oI (sL t [] lQ) hU.sub;have h2:=pJ nb (jB [] t);have h3:=Fa.out;rw[zX];omega)
 obtain⟨po,pc,rfl,P6,Jp,-⟩:=r1.form;obtain⟨n1,tC⟩:∃ n,n=l1.length:=⟨_,rfl⟩;have Za:=aa tC;have Mf:Hid (T1.length=n1):=aa (by rw[tC];exact cw r2);rw[<-tC] at r1 r3 P6 ⊢;have Xk:pc<=9223372036854775807:=Jp;have Ph:=aa r1.at;have J_:=aa r2;have Vh:Hid (St B k (fun g=>(gC none 0 0).ownBlock=some g) (jB [] t) s1 x6):=aa (r3.less (fun g hg=>by cases hg));have ZG:Hid (aB B x3 x6):=aa (uB.out.trans (r4.below MJ.out.om.1));have EV:Hid (B<=x6.heap.size/\k<x6.heap.size):=aa r3.om;clear r1 r2 r3 r4 zX zQ tC Jp MJ CT vH mz Mb uB;go_wp2_with fail
 go_loopw [4,20] (fun av iv wr=>∃ (j:Nat) (ia:List Nat) (sj:List F),iv=.int .i64 (j:Nat)/\j<=n1/\Hid (fQ.Row wr x6.heap.size av ia)/\Hid (ia.map (fun i=>sj[i]?)=((T1.take j).flatMap cg).map some)/\Hid (St B k (fun g=>av.ownBlock=some g) (jB [] t) sj wr)/\Hid (Ext s1 sj (46*j))/\Hid (cA B k x6 wr)) (fun _ iv _=>n1 - (eT iv).toNat)
 case atStart=>exact⟨0,[],s1,rfl,ah _,aa (El.Row.nil _ _),aa (by simp),Vh,aa (Ext.refl s1),aa (cA.refl _ _ _)⟩
 case round =>
  clear Vh;obtain⟨j,ia,sj,rfl,hj,HR,HM,HS,HE,HP⟩:=hrel;obtain⟨oo,oc,rfl,Xm,Xn,-⟩:=HR.out.form;have SY:Hid (ia.length<=6*j):=aa (by
   have h1:=cw HM.out;have h2:=q9 tN (T1.take j);rw[bD] at h2;have h3:6*min j T1.length<=6*j:=Nat.mul_le_mul_left _ (Nat.min_le_left _ _);omega)
  by_cases hlt:j<n1
  ·have jq:j<l1.length:=by rw[<-Za.out];exact hlt
   have Bg:j<T1.length:=by rw[Mf.out];exact hlt
   obtain⟨a,rfl,ca⟩:=qO Ph.out HP.out j jq;obtain⟨i2,oV⟩:∃ x,x=l1[j]:=⟨_,rfl⟩;rw[<-oV] at ca;have Fh:Hid (sj[i2]?=some T1[j]):=aa (HE.out.get (by rw[oV];exact jS J_.out j jq Bg));have Cy:Hid (∀ y ∈ cg T1[j],Gd y):=aa (fun y hy=>QI.out y (by
    rw[of_eq];refine dm _ ?_;unfold jk;rw[<-mw.out];exact List.mem_flatMap.2 ⟨_,bS Bg,hy⟩))
   have JZ:Hid (sj.length+46<=900000/\j<=1000):=aa (by
    have h1:=HE.out.len;have h2:=Fa.out;have h3:=Pd.out;exact⟨by omega,by omega⟩)
   have FK:=aa (Aa (f:=cg) Bg);clear oV;go_wp2_with fail;refine (Ez wr HS.out JZ.out.1 i2 T1[j] Fh.out Cy.out).mono ?_;rintro e w7 ⟨fv,Ew,s2,rfl,p1,p2,p3,p4,p5⟩;obtain⟨Sf,fc,rfl,-,-⟩:=id p1;have SJ:=aa (gV HR.out p5);have vH:=aa p1;have Zc:=aa p2;have YW:=aa p3;have VD:=aa p4;have Vk:=aa (HP.out.trans p5);have I2:Hid (Ew.length<=6):=aa (by have h1:=cw p2;have h2:=tN T1[j];omega);clear p1 p2 p3 p4 p5 ca;go_wp2_with (at_builtin;refine El.Row.Bw (E:=fQ) SJ.out rfl (.tmp 24) (.tmp 27) rfl rfl rfl vH.out (by have h1:=SY.out;have h2:=I2.out;have h3:=JZ.out.2;omega) Vk.out.size ?_;intro v9 w9 a1 a2 a3);go_roundw
   case rel =>
    have uH:∀ g,(gC oo ia.length oc).ownBlock=some g->x6.heap.size<=g:=fun g hg=>(SJ.out.ge hg).1
    exact⟨j+1,ia++Ew,s2,by go_num,hlt,aa a1,aa (by rw[dF,FK.out,dF,oJ VD.out HM.out,Zc.out]),aa (YW.out.OP (fun g hg=>hg) SJ.out EV.out.1 a3 a2 a1),aa (HE.out.trans VD.out (by omega)),aa (Vk.out.app a3 uH EV.out.2)⟩
   case measure=>simp[eT];omega
  have ej:j=n1:=by omega
  have MM:Hid (ia.map (fun i=>sj[i]?)=(jk t).map some):=aa (by
   have h1:=HM.out;rw[ej,<-Mf.out,cz,mw.out] at h1;exact h1)
  have QB:Hid (sj.length<=47000/\ia.length<=6000):=aa (by
   have h1:=HE.out.len;have h2:=Fa.out;have h3:=Pd.out;have h4:=Mf.out;have h5:=SY.out;exact⟨by omega,by omega⟩)
  obtain⟨x7,TO⟩:∃ x,x=wr:=⟨_,rfl⟩;rw[<-TO] at HR HS HP ⊢;clear TO HM SY;go_wp2_with fail;refine (A_ x7 HS.out (sL t [] lQ) oo ia.length oc ia HR.out.at (jk t) MM.out (by have:=QB.out.2;omega)).mono ?_;rintro e x8 ⟨v2,l2,rfl,r1,r2,r3,r4⟩;obtain⟨T2,RP⟩:∃ x,x=jD (jB [] t) (eC (jB [] t) (jk t)):=⟨_,rfl⟩;obtain⟨L2,ME⟩:∃ x,x=eC (jB [] t) (jk t):=⟨_,rfl⟩;rw[<-RP] at r2;rw[<-ME] at r3;have FH:Hid (T2=jD (jB [] t) L2):=aa (by rw[RP,ME]);have MN:=aa ME;have Pc:Hid (T2.length<=47000):=aa (by
   obtain⟨km,v0,us,M,hU⟩:=r3;have h1:=oI (by rw[ME];exact sk (jk t) _ (sL t [] lQ)) hU.sub;have h2:=Dy (L:=jB [] t) (L1:=L2) (by rw[ME];exact ju _ _);have h3:=QB.out.1;rw[FH.out];omega)
  obtain⟨qo,qc,rfl,hq1,hq2,-⟩:=r1.form;obtain⟨n2,x_⟩:∃ n,n=l2.length:=⟨_,rfl⟩;have Me:=aa x_;have Md:Hid (T2.length=n2):=aa (by rw[x_];exact cw r2);rw[<-x_] at r1 r3 hq1 ⊢;have TY:qc<=9223372036854775807:=hq2;have J9:=aa r1.at;have iC:Hid (∀ a,qo=some a->(gC oo ia.length oc).ownBlock≠some a.block/\a.block<x8.heap.size):=aa (fun a ha=>by
   have h1:(gC qo n2 qc).ownBlock=some a.block:=by rw[ha];rfl
   have h2:=r1.ge h1;refine⟨fun e=>?_,h2.2⟩;have h3:=HR.out.ge e;omega)
  have Y0:=aa r2;have Pf:Hid (St B k (fun g=>(gC oo ia.length oc).ownBlock=some g) L2 sj x8):=aa (r3.less (fun g hg=>.inl hg));have L9:Hid (fQ.Row x8 x6.heap.size (.slice oo ia.length oc) ia):=aa (gV HR.out r4);have Pk:=aa (HP.out.trans r4);clear r1 r2 r3 r4 RP ME x_ hq2 HS HR HP;obtain⟨av0,Lp⟩:∃ x:ak,x=.slice oo ia.length oc:=⟨_,rfl⟩;rw[<-Lp] at Pf L9 iC;have QK:=aa Lp;clear Lp;go_wp2_with fail
  go_loopw [4,34] (fun av iv wr=>∃ (j:Nat) (ib:List Nat) (sq:List F),iv=.int .i64 (j:Nat)/\j<=n2/\Hid (fQ.Row wr x6.heap.size av ib)/\Hid (ib.map (fun i=>sq[i]?)=(jk t++((T2.take j).filter KO).flatMap dM).map some)/\Hid (St B k (fun g=>av.ownBlock=some g) L2 sq wr)/\Hid (Ext sj sq (9*j))/\Hid (cA B k x6 wr)/\Hid (fQ.At wr (.slice qo n2 qc) l2)/\Hid (∀ a,qo=some a->av.ownBlock≠some a.block/\a.block<wr.heap.size)) (fun _ iv _=>n2 - (eT iv).toNat)
  case atStart=>exact⟨0,ia,sj,rfl,ah _,by rw[<-QK.out];exact L9,aa (by rw[MM.out];simp),by rw[<-QK.out];exact Pf,aa (Ext.refl sj),Pk,J9,by rw[<-QK.out];exact iC⟩
  case round =>
   clear Pf L9 Pk QK J9 iC;obtain⟨jj,ib,sq,rfl,hjj,HR,HM,HS,I4,HP,J9,iC⟩:=hrel;obtain⟨uo,uc,rfl,hul,huc,-⟩:=HR.out.form;have QE:Hid (ib.length<=6000+2*jj):=aa (by
    have h1:=cw HM.out;have h2:=cw MM.out;have h3:=q9 qN ((T2.take jj).filter KO);have h4:=pJ KO (T2.take jj);rw[bD] at h4;have h6:min jj T2.length<=jj:=Nat.min_le_left _ _;have h7:=QB.out.2;rw[dB] at h1;omega)
   by_cases hlt:jj<n2
   ·have jq:jj<l2.length:=by rw[<-Me.out];exact hlt
    have Bg:jj<T2.length:=by rw[Md.out];exact hlt
    obtain⟨a,rfl,ca⟩:=qO J9.out (cA.refl B k wr) jj jq;obtain⟨i2,oV⟩:∃ x,x=l2[jj]:=⟨_,rfl⟩;rw[<-oV] at ca;have Fh:Hid (sq[i2]?=some T2[jj]):=aa (I4.out.get (by rw[oV];exact jS Y0.out jj jq Bg));have JZ:Hid (sq.length+9<=900000/\jj<=47000):=aa (by
     have h1:=I4.out.len;have h2:=QB.out.1;have h3:=Pc.out;exact⟨by omega,by omega⟩)
    have EU:=aa (aT Bg);clear oV;go_wp2_with fail;refine (vQ wr HS.out i2 T2[jj] Fh.out).mono ?_;rintro e w7 ⟨rfl,hb⟩;replace HR:=aa (HR.out.below hb);replace HS:=aa (HS.out.below hb);replace HP:=aa (HP.out.trans (cA.aH hb));replace J9:=aa (tw J9.out (cA.aH (B:=B) (k:=k) hb));replace iC:=aa (fun q hq=>(⟨(iC.out q hq).1,az (iC.out q hq).2 hb.size⟩:(gC uo ib.length uc).ownBlock≠some q.block/\q.block<w7.heap.size));clear hb ca;obtain⟨z,hz⟩:∃ z,z=cU T2[jj].op:=⟨_,rfl⟩;rw[<-hz];by_cases mP:z=2
    ·have QD:Hid (KO T2[jj]=true):=aa (decide_eq_true (by rw[<-hz];exact mP));have IY:Hid (cU T2[jj].op=2):=aa (by rw[<-hz];exact mP);have e1:(z==2)=true:=by rw[mP];rfl
     clear hz mP;have Cy:Hid (∀ y ∈ dM T2[jj],Gd y):=aa (fun y hy=>QI.out y (by
      rw[of_eq];refine List.mem_append_right _ (List.mem_flatMap.2 ⟨T2[jj],?_,hy⟩);rw[<-vg,<-MN.out,<-FH.out];exact List.mem_filter.2 ⟨bS Bg,QD.out⟩))
     go_wp2_with fail;refine (qp w7 HS.out JZ.out.1 i2 T2[jj] Fh.out Cy.out).mono ?_;rintro e w8 ⟨fv,Ew,s2,rfl,p1,p2,p3,p4,p5⟩;obtain⟨Sf,fc,rfl,-,-⟩:=id p1.form;have L9:=aa (gV HR.out p5);have vH:=aa p1.at;have Zb:=aa p2;have Pf:=aa p3;have VB:=aa p4;have Pk:=aa (HP.out.trans p5);have Y4:=aa (tw J9.out p5);have I0:=aa (fun q hq=>(⟨(iC.out q hq).1,az (iC.out q hq).2 p5.size⟩:(gC uo ib.length uc).ownBlock≠some q.block/\q.block<w8.heap.size));have I2:Hid (Ew.length<=2):=aa (by have h1:=cw p2;have h2:=qN T2[jj];omega);clear p1 p2 p3 p4 p5 e1
     go_wp2_with (at_builtin;refine El.Row.Bw (E:=fQ) L9.out rfl (.tmp 42) (.tmp 45) rfl rfl rfl vH.out (by have h1:=QE.out;have h2:=I2.out;have h3:=JZ.out.2;omega) Pk.out.size ?_;intro v9 w9 a1 a2 a3);go_roundw
     case rel =>
      have uH:∀ g,(gC uo ib.length uc).ownBlock=some g->x6.heap.size<=g:=fun g hg=>(L9.out.ge hg).1
      refine⟨jj+1,ib++Ew,s2,by go_num,hlt,aa a1,aa (by rw[dF,EU.out,lS,Fm,<-List.append_assoc,dF,oJ VB.out HM.out,Zb.out];simp[QD.out]),aa (Pf.out.OP (fun g hg=>.inl hg) L9.out EV.out.1 a3 a2 a1),aa (I4.out.trans VB.out (by omega)),aa (Pk.out.app a3 uH EV.out.2),aa (wk Y4.out a3 (fun q hq e=>(I0.out q hq).1 e.symm)),aa (fun q hq=>⟨fun e=>?_,az (I0.out q hq).2 a3.size⟩)⟩;rcases a2 _ e with h1 | h1
      ·exact (I0.out q hq).1 h1
      have:=(I0.out q hq).2;omega
     case measure=>simp[eT];omega
    have QD:Hid (KO T2[jj]=false):=aa (decide_eq_false (by rw[<-hz];exact mP));have e1:(z==2)=false:=beq_eq_false_iff_ne.2 mP;clear hz mP;go_wp2_with fail;go_roundw
    case rel =>
     exact⟨jj+1,ib,sq,by go_num,hlt,HR,aa (by rw[HM.out,EU.out,lS];simp[QD.out]),HS,aa (I4.out.up (by omega)),HP,J9,iC⟩
    case measure=>simp[eT];omega
   have Yh:jj=n2:=by omega
   have AE:Hid (ib.map (fun i=>sq[i]?)=(uF t).map some):=aa (by
    have h1:=HM.out;rw[Yh,<-Md.out,cz,FH.out,vg,MN.out] at h1;rw[of_eq];exact h1)
   have hS:=HS.out.less (E':=fun _=>False) (fun g hg=>hg.elim);have oL:=D7 (B:=B) (k:=k) (E:=fun _=>False) HR.out (fun g hg he=>he);have Qy:=aa hS;have r8:=aa oL;clear hS oL;go_wp2_with fail;refine (tL wr Qy.out _ ib r8.out (uF t) AE.out (by have h1:=QE.out;have h2:=Pc.out;have h3:=Md.out;omega)).mono ?_;rintro e x9 ⟨v',rfl,hfl,hb⟩;have I1:=aa hfl;have y_:=aa hb;clear hfl hb;go_wp2_with fail;go_ret;refine⟨v',rfl,I1.out.mono (fun _ _=>trivial),?_⟩;have gp:=(HP.out.below EV.out.1).trans (y_.out.mono (ai EV.out.1 HP.out.size));exact SC.out.trans ((ZG.out.trans gp).mono Vd.out)
attribute [local go_sem] cL cK cJ cI
def O6 (P:F->Prop) (d:Nat):Prop:=∀ (ve v:ak) (env:List (ByteArray × V)) (t:F) (S:Nat->Prop) (w:af),P t->FC w S d v t->EL w ve env->rt t=true->cU t.op=0->Sm (gM env) t ->
 aV aj 164 #[ve,v] w fun e w'=>∃ x,e=.returned x/\CI w' x (gJ (ev (gM env) t)) 600/\aB w.heap.size w w'
def O7 (P:F->Prop) (d:Nat):Prop:=∀ (ve v:ak) (env:List (ByteArray × V)) (t:F) (S:Nat->Prop) (w:af),P t->FC w S d v t->EL w ve env->rt t=true->cU t.op=2->Sm (gM env) t ->
 aV aj 163 #[ve,v] w fun e w'=>∃ x,e=.returned x/\NL w' x (oZ (ev (gM env) t))/\aB w.heap.size w w'
def O3 (P:F->Prop) (d:Nat):Prop:=∀ (ve v:ak) (env:List (ByteArray × V)) (t:F) (S:Nat->Prop) (w:af),P t->FC w S d v t->EL w ve env->rt t=true->cU t.op=1->Sm (gM env) t ->
 aV aj 162 #[ve,v] w fun e w'=>e=.returned (.bool (lz (ev (gM env) t)))/\aB w.heap.size w w'
def LP (P:F->Prop) (d:Nat):Prop:=∀ (ve v:ak) (env:List (ByteArray × V)) (t:F) (S:Nat->Prop) (w:af),P t->FC w S d v t->EL w ve env->rt t=true->Sm (gM env) t ->
 aV aj 114 #[ve,v] w fun e w'=>∃ x,e=.returned x/\VC w' x (ev (gM env) t)/\aB w.heap.size w w'
def Ho (t:F):Prop:=t.op=8
def Hp (t:F):Prop:=t.op=0\/(t.op=6/\∀ k ∈ t.kids,Ho k)
def rL (t:F):Prop:=t.op=15/\∀ k ∈ t.kids,Hp k
theorem Nh (d:Nat):O7 Ho (d+1):=by
 intro ve v env t S w hP h he hr hs um;obtain⟨eo,en,ec,rfl⟩:=he.shape;obtain⟨b,ao,l,c,ko,kl,kc,rfl,⟨-,hz,kU,hkc,hkm⟩,-,hk⟩:=h.open;obtain⟨o,z,nm,ks⟩:=t;simp only[F.op,F.num,F.name,F.kids] at hz hk kU hs ⊢;rw[show d+1 - 1=d from rfl] at hk;obtain⟨hfit,rM⟩:=gU hr;have uI:kc<=9223372036854775807:=hkm;have NK:o=8:=hP;have HE:=aa he;have HW:=aa (ax w.heap.size w);clear h hkm kU hkc hz hk he hr hs hP;subst NK;clear um rM hfit;go_enter Tryz.func163,Tryz.ntmps163;obtain⟨x1,kf,ef,ki,cn,jC,aG⟩:=aW w #[.int .i64 8,.bool b,.slice ao l c,.string nm,.slice ko kl kc] 29;replace HE:=aa (HE.out.below cn.out);replace HW:=aa (HW.out.trans (cn.out.mono HW.out.size));obtain⟨⟨c0,c1,c2,c3,c4⟩,dN,dY,dX,dW,dO⟩:=ay aG.out;go_wp2_with fail
 refine (DH _ env nm 2 x1 HE.out).mono ?_;rintro e x2 ⟨v,rfl,hv,hb⟩;clear c0 dN c1 dY c2 dX c3 dW c4 dO;replace HW:=aa (HW.out.trans (hb.mono HW.out.size));obtain⟨k1,b1,o1,l1,c1,d1,p1,m1,q1,rfl,hn⟩:=hv.WR;have HV:=aa hn;clear hv hn;go_wp2_with fail;go_ret;exact⟨_,rfl,HV.out,HW.out⟩
theorem M_ (d:Nat) (IL:O7 Ho d):O6 Hp (d+1):=by
 intro ve v env t S w hP h he hr hs um;obtain⟨b,ao,l,c,ko,kl,kc,rfl,⟨-,hz,kU,hkc,hkm⟩,-,hk⟩:=h.open;obtain⟨o,z,nm,ks⟩:=t;simp only[F.op,F.num,F.name,F.kids] at hz hk kU hs ⊢;rw[show d+1 - 1=d from rfl] at hk;obtain⟨hfit,rM⟩:=gU hr;have ho:o=0\/o=6:=hP.imp id (fun h=>h.1);have MK:Hid (o=6->∀ k ∈ ks,Ho k):=aa (fun e=>hP.elim (fun h=>absurd (show o=0 from h) (by omega)) (fun h=>h.2));obtain⟨eo,en,ec,rfl⟩:=he.shape;have uI:kc<=9223372036854775807:=hkm;have hval:=um.val;clear h hr hs hkm hP;rcases ho with rfl | rfl
 ·have HZ:=aa hz;have HW:=aa (ax w.heap.size w);clear kU hkc;clear hz hk he um rM hval hfit;go_enter Tryz.func164,Tryz.ntmps164;obtain⟨x1,kf,ef,ki,cn,jC,aG⟩:=aW w #[.int .i64 0,.bool b,.slice ao l c,.string nm,.slice ko kl kc] 29;replace HZ:=aa (HZ.out.below cn.out);replace HW:=aa (HW.out.trans (cn.out.mono HW.out.size));have SQ:=jC;obtain⟨x2,kr,er,sG,eY,lj,aR⟩:=aW x1 #[.bool false,.slice none 0 0] 26;replace aG:=bM eY.out aG;replace HZ:=aa (HZ.out.below eY.out);replace HW:=aa (HW.out.trans (eY.out.mono HW.out.size));have r7:Hid (w.heap.size<=kr):=aa (ai cn.out.size lj.out);obtain⟨⟨c0,c1,c2,c3,c4⟩,dN,dY,dX,dW,dO⟩:=ay aG.out;obtain⟨r0,QX,jU,jT⟩:=cV aR.out;go_wp2_with fail
  clear c0 dN c1 dY c2 dX c3 dW c4 dO;obtain⟨r1,r2⟩:=Jh HW.out aR.out rJ r7.out (.bool b) (.slice ao l c);(try simp only[aN,bx]);exact aJ (v:=.agg #[.bool b,.slice ao l c]) (by simp[results,Tryz.results164,go_sem,r0,QX]) rfl ⟨_,rfl,(HZ.out).fr r1,r2⟩
 have HX:=aa hk;have HE:=aa he;have HW:=aa (ax w.heap.size w);have Fe:=aa kU;clear kU hkc;obtain⟨p,rfl,hp⟩:=Dd (ks:=ks) (s:=2) (by simpa [dw,bK] using hfit);have SF:=aa (um.Mr p (by simp));have SH:=aa (rM p (by simp));have HP:=aa hp;have uj:=oM (r:=gM env) hp;have Tc:Hid (gJ (ev (gM env) (.node 6 z nm [p]))=gJ (GM (gM env) 6 z nm [ev (gM env) p])):=aa (by rw[ev,EC,EC]);have Ps:Hid ((oZ (ev (gM env) p)).length<=1000/\∀ z ∈ oZ (ev (gM env) p),z.natAbs<bf ^ 600):=aa (by have:=(um.Mr p (by simp)).val;rw[uj] at this;exact this);have Lc:kl=1:=Fe.out;subst Lc;clear hz hk he um rM hval hfit hp uj Fe;go_enter Tryz.func164,Tryz.ntmps164
 obtain⟨x1,kf,ef,ki,cn,jC,aG⟩:=aW w #[.int .i64 6,.bool b,.slice ao l c,.string nm,.slice ko 1 kc] 29;replace HX:=aa (HX.out.below cn.out);replace HE:=aa (HE.out.below cn.out);replace HW:=aa (HW.out.trans (cn.out.mono HW.out.size));have SQ:=jC;obtain⟨x2,kr,er,sG,eY,lj,aR⟩:=aW x1 #[.bool false,.slice none 0 0] 26;replace aG:=bM eY.out aG;replace HX:=aa (HX.out.below eY.out);replace HE:=aa (HE.out.below eY.out);replace HW:=aa (HW.out.trans (eY.out.mono HW.out.size));have r7:Hid (w.heap.size<=kr):=aa (ai cn.out.size lj.out);obtain⟨⟨c0,c1,c2,c3,c4⟩,dN,dY,dX,dW,dO⟩:=ay aG.out;obtain⟨a,bp,op,lp,cp,TG,TH,TI,Lb,⟨p0,p1,p2,p3,p4⟩,Le⟩:=HX.out.first;have Fi:=aa Le;clear Le
 obtain⟨Tw,Ee⟩:∃ x,x=p.op:=⟨_,rfl⟩;obtain⟨Tx,Ef⟩:∃ x,x=p.name:=⟨_,rfl⟩;rw[<-Ee] at p0 Fi;rw[<-Ef] at p3 Fi;clear Ee Ef;subst Lb;go_wp2_with fail;refine (IL _ _ env p S x2 (MK.out (by first | rfl | trivial) p (by simp)) Fi.out HE.out SH.out HP.out SF.out).mono ?_;rintro e x3 ⟨x,rfl,hx,hb⟩;clear c0 dN c1 dY c2 dX c3 dW c4 dO p0 p1 p2 p3 p4;replace aR:=bM hb aR;replace HW:=aa (HW.out.trans (hb.mono HW.out.size));obtain⟨L,hL⟩:∃ L,L=oZ (ev (gM env) p):=⟨_,rfl⟩;rw[<-hL] at hx;have HL:=aa hL;have Pr:=Ps.out;rw[<-hL] at Pr;clear Fi hL;obtain⟨xo,xc,rfl,⟨P0,uj⟩,Q8⟩:=hx.form;have Hw:xc<=9223372036854775807:=uj;clear hx;clear Q8;go_wp2_with fail;refine (si (L.length:Nat) x3 (by omega) (by have:=Pr.1;omega)).mono ?_
 rintro e x4 ⟨x,rfl,hx,hb⟩;replace aR:=bM hb aR;replace HW:=aa (HW.out.trans (hb.mono HW.out.size));obtain⟨b1,o1,l1,c1,rfl⟩:=hx.shape;have HV:=aa (hx.mono (k':=600) (by decide));clear hx;obtain⟨r0,QX,jU,jT⟩:=cV aR.out;go_wp2_with fail;obtain⟨r1,r2⟩:=Jh HW.out aR.out rJ r7.out (.bool b1) (.slice o1 l1 c1);(try simp only[aN,bx]);exact aJ (v:=.agg #[.bool b1,.slice o1 l1 c1]) (by simp[results,Tryz.results164,go_sem,r0,QX]) rfl ⟨_,rfl,((show CI _ _ (gJ (ev (gM env) (.node 6 z nm [p]))) 600 from by rw[Tc.out];show CI _ _ ((oZ (ev (gM env) p)).length:Int) 600;rw[<-HL.out];exact HV.out)).fr r1,r2⟩
theorem MY (d:Nat) (IN:O6 Hp d):O3 rL (d+1):=by
 intro ve v env t S w hP h he hr hs um;obtain⟨b,ao,l,c,ko,kl,kc,rfl,⟨-,hz,kU,hkc,hkm⟩,-,hk⟩:=h.open;obtain⟨o,z,nm,ks⟩:=t;simp only[F.op,F.num,F.name,F.kids] at hz hk kU hs ⊢;rw[show d+1 - 1=d from rfl] at hk;obtain⟨hfit,rM⟩:=gU hr;have ho:o=15:=hP.1;have MK:Hid (∀ k ∈ ks,Hp k):=aa hP.2;obtain⟨eo,en,ec,rfl⟩:=he.shape;have uI:kc<=9223372036854775807:=hkm;clear h hr hs hkm hkc hz hP;subst ho;have HX:=aa hk;have HE:=aa he;have Fe:=aa kU;have HW:=aa (ax w.heap.size w);obtain⟨p,q,rfl,hp,hq⟩:=Db (ks:=ks) (s:=0) (r:=0) (by simpa [dw,bK] using hfit);have SF:=aa (um.Mr p (by simp));have SH:=aa (rM p (by simp));have HP:=aa hp;have YV:=aa (um.Mr q (by simp));have YX:=aa (rM q (by simp))
 have HQ:=aa hq;have Tc:Hid (lz (ev (gM env) (.node 15 z nm [p,q]))=lz (GM (gM env) 15 z nm [ev (gM env) p,ev (gM env) q])):=aa (by rw[ev,EC,EC,EC]);have Lc:kl=2:=Fe.out;subst Lc;clear hk he um rM hfit kU Fe hp hq;go_enter Tryz.func162,Tryz.ntmps162;obtain⟨x1,ke,ee,eke,iB,hke,Mk⟩:=aW w #[.slice eo en ec] 154;replace HX:=aa (HX.out.below iB.out);replace HE:=aa (HE.out.below iB.out);replace HW:=aa (HW.out.trans (iB.out.mono HW.out.size));obtain⟨x2,kf,ef,ki,cn,jC,aG⟩:=aW x1 #[.int .i64 15,.bool b,.slice ao l c,.string nm,.slice ko 2 kc] 29;replace Mk:=bM cn.out Mk;replace HX:=aa (HX.out.below cn.out);replace HE:=aa (HE.out.below cn.out);replace HW:=aa (HW.out.trans (cn.out.mono HW.out.size))
 have e0:=aq (v:=.slice eo en ec) Mk.out 0 rfl;have Sg:=aY Mk.out 0;obtain⟨⟨c0,c1,c2,c3,c4⟩,dN,dY,dX,dW,dO⟩:=ay aG.out;obtain⟨a,bp,op,lp,cp,TG,TH,TI,Lb,⟨p0,p1,p2,p3,p4⟩,Le⟩:=HX.out.first;subst Lb;obtain⟨Tw,Ee⟩:∃ x,x=p.op:=⟨_,rfl⟩;obtain⟨Tx,Ef⟩:∃ x,x=p.name:=⟨_,rfl⟩;rw[<-Ee] at p0 Le;rw[<-Ef] at p3 Le;have Fi:=aa Le;have Y5:Hid (PR x2 a Tw bp op lp cp Tx TG TH TI):=aa ⟨p0,p1,p2,p3,p4⟩;clear Ee Ef Le p0 p1 p2 p3 p4;obtain⟨a2,bq,oq,lq,cq,WU,WW,WX,Rr,⟨q0,q1,q2,q3,q4⟩,Jy⟩:=HX.out.second;injection Rr with Eo;subst Eo;obtain⟨WC,NJ⟩:∃ x,x=q.op:=⟨_,rfl⟩;obtain⟨WE,NM⟩:∃ x,x=q.name:=⟨_,rfl⟩;rw[<-NJ] at q0 Jy;rw[<-NM] at q3 Jy;have Zu:=aa Jy
 have wX:Hid (PR x2 ⟨a.block,a.off+5,none⟩ WC bq oq lq cq WE WU WW WX):=aa ⟨q0,q1,q2,q3,q4⟩;clear NJ NM Jy q0 q1 q2 q3 q4;go_upto_region 7 with fail;clear e0 Sg c0 dN c1 dY c2 dX c3 dW c4 dO;have Eg:=ae Mk.out;have dS:=ae aG.out;have fO:Hid (∀ q,q<0->(fun q=>0) q<x2.heap.size):=aa (fun q h=>absurd h (an _));refine R7.region (by kernel_rfl) [[],[],[1],[1,2],[1,2,3],[0,1,2,3,4],[],[],[7],[7,8],[7,8,9],[0,1,2,3,4,5,6,7,8,9,10],[0,1,2,3,4,5,6,7,8,9,10,11],[0,1,2,3,4,5,6,7,8,9,10,11,12],[0,1,2,3,4,5,6,7,8,9,10,11,12,13]] [] [] (fun q=>0) 0 15 (by kernel_rfl) (by kernel_rfl) (by rfl) fO.out (fun q q' h h' hn=>absurd hn (by omega)) ?_;refine R7.aF.dL ?_ (by rfl) (fun T xs wr hA=>?_) ?_;rotate_left 1
 ·have e2:=hA.pre 2 (by kernel_rfl);simp only[kM,lO,lF] at e2;have bB:wr.heap[ke]?=_:=(hA.bl _ Eg (fun q h=>absurd h (an _))).trans Mk.out;have q0:=aq (v:=.slice eo en ec) bB 0 rfl;clear bB;clear hA;refine⟨(by rfl),?_⟩;go_simp<;>(try with_reducible rfl)
 refine R7.aF.dL ?_ (by rfl) (fun T xs wr hA=>?_) ?_;rotate_left 1
 ·have e3:=hA.pre 3 (by kernel_rfl);simp only[kM,lO,lF] at e3;clear hA;refine⟨(by rfl),?_⟩;go_simp<;>(try with_reducible rfl)
 refine R7.aF.dL ?_ (by rfl) (fun T xs wr hA=>?_) ?_;rotate_left 1
 ·have yB:=hA.tm 1 19 (by rfl) (by rfl);have f19:xs 1=_:=hA.fa 1 (by rfl);(try simp (disch:=first | rfl | decide) only [R7.au] at f19);rw[f19] at yB;clear f19;have bB:wr.heap[kf]?=_:=(hA.bl _ dS (fun q h=>absurd h (an _))).trans aG.out;have q0:=aq (v:=.int .i64 15) bB 0 rfl;have q1:=aq (v:=.bool b) bB 1 rfl;have q2:=aq (v:=.slice ao l c) bB 2 rfl;have q3:=aq (v:=.string nm) bB 3 rfl;have q4:=aq (v:=.slice (some a) 2 kc) bB 4 rfl;clear bB;clear hA;refine⟨(by rfl),?_⟩;go_simp<;>(try with_reducible rfl)
 refine R7.aF.dL ?_ (by rfl) (fun T xs wr hA=>?_) ?_;rotate_left 1
 ·have EG:=hA.tm 2 20 (by rfl) (by rfl);have f20:xs 2=_:=hA.fa 2 (by rfl);(try simp (disch:=first | rfl | decide) only [R7.au] at f20);rw[f20] at EG;clear f20;clear hA;refine⟨(by rfl),?_⟩;go_simp<;>(try with_reducible rfl)
 refine R7.aF.dL ?_ (by rfl) (fun T xs wr hA=>?_) ?_;rotate_left 1
 ·have CO:=hA.tm 3 21 (by rfl) (by rfl);have f21:xs 3=_:=hA.fa 3 (by rfl);(try simp (disch:=first | rfl | decide) only [R7.au] at f21);rw[f21] at CO;clear f21;have gq:=ck (hA.be x2.heap.size (ag _) (fun q h=>absurd h (an q)));obtain⟨q0,q1,q2,q3,q4⟩:=Y5.out.below gq;try simp only at q0 q1 q2 q3 q4
  clear hA;refine⟨(by rfl),?_⟩;go_simp<;>(try with_reducible rfl)
 refine R7.aF.call (fun xs v w=>∃ y,v=y/\CI w y (gJ (ev (gM env) p)) 600) (fun _ _ _ _ h hb=>by obtain⟨y,h1,h2⟩:=h;exact⟨y,h1,h2.below hb⟩) (fun _ _ _ _ _ _ h _=>by obtain⟨q,hq,_⟩:=h;exact absurd hq (an _)) (by rfl) (fun T xs wr hA=>?_) ?_
 ·have nH:=(hA.be 0 (ah _) (fun _ _=>ah _)).size;have OF:=hA.tm 0 18 (by rfl) (by rfl);have f18:xs 0=_:=hA.fa 0 (by rfl);(try simp (disch:=first | rfl | decide) only [R7.au] at f18);rw[f18] at OF;clear f18;have CN:=hA.tm 4 22 (by rfl) (by rfl);have f22:xs 4=_:=hA.fa 4 (by rfl);(try simp (disch:=first | rfl | decide) only [R7.au] at f22);rw[f22] at CN;clear f22;have gq:=ck (hA.be x2.heap.size (ag _) (fun q h=>absurd h (an q)));have Jy:=Fi.out.below gq;clear hA;refine⟨(by rfl),fun K hK=>?_⟩;go_simp;refine (IN _ _ env p S _ (MK.out p (by simp)) Jy (HE.out.below gq) SH.out HP.out SF.out).mono ?_;rintro e w' ⟨y,rfl,hy,hb'⟩;exact hK.out _ _ ⟨y,rfl,hy⟩ hb'
 refine R7.aF.dL ?_ (by rfl) (fun T xs wr hA=>?_) ?_;rotate_left 1
 ·have e2:=hA.pre 2 (by kernel_rfl);simp only[kM,lO,lF] at e2;have bB:wr.heap[ke]?=_:=(hA.bl _ Eg (fun q h=>absurd h (an _))).trans Mk.out;have q0:=aq (v:=.slice eo en ec) bB 0 rfl;clear bB;clear hA;refine⟨(by rfl),?_⟩;go_simp<;>(try with_reducible rfl)
 refine R7.aF.dL ?_ (by rfl) (fun T xs wr hA=>?_) ?_;rotate_left 1
 ·have e3:=hA.pre 3 (by kernel_rfl);simp only[kM,lO,lF] at e3;clear hA;refine⟨(by rfl),?_⟩;go_simp<;>(try with_reducible rfl)
 refine R7.aF.dL ?_ (by rfl) (fun T xs wr hA=>?_) ?_;rotate_left 1
 ·have JJ:=hA.tm 7 25 (by rfl) (by rfl);have f25:xs 7=_:=hA.fa 7 (by rfl);(try simp (disch:=first | rfl | decide) only [R7.au] at f25);rw[f25] at JJ;clear f25;have bB:wr.heap[kf]?=_:=(hA.bl _ dS (fun q h=>absurd h (an _))).trans aG.out;have q0:=aq (v:=.int .i64 15) bB 0 rfl;have q1:=aq (v:=.bool b) bB 1 rfl;have q2:=aq (v:=.slice ao l c) bB 2 rfl;have q3:=aq (v:=.string nm) bB 3 rfl;have q4:=aq (v:=.slice (some a) 2 kc) bB 4 rfl;clear bB;clear hA;refine⟨(by rfl),?_⟩;go_simp<;>(try with_reducible rfl)
 refine R7.aF.dL ?_ (by rfl) (fun T xs wr hA=>?_) ?_;rotate_left 1
 ·have OE:=hA.tm 8 26 (by rfl) (by rfl);have f26:xs 8=_:=hA.fa 8 (by rfl);(try simp (disch:=first | rfl | decide) only [R7.au] at f26);rw[f26] at OE;clear f26;clear hA;refine⟨(by rfl),?_⟩;go_simp<;>(try with_reducible rfl)
 refine R7.aF.dL ?_ (by rfl) (fun T xs wr hA=>?_) ?_;rotate_left 1
 ·have OD:=hA.tm 9 27 (by rfl) (by rfl);have f27:xs 9=_:=hA.fa 9 (by rfl);(try simp (disch:=first | rfl | decide) only [R7.au] at f27);rw[f27] at OD;clear f27;have gq:=ck (hA.be x2.heap.size (ag _) (fun q h=>absurd h (an q)));obtain⟨q0,q1,q2,q3,q4⟩:=wX.out.below gq;try simp only at q0 q1 q2 q3 q4
  clear hA;refine⟨(by rfl),?_⟩;go_simp<;>(try with_reducible rfl)
 refine R7.aF.call (fun xs v w=>∃ y,v=y/\CI w y (gJ (ev (gM env) q)) 600) (fun _ _ _ _ h hb=>by obtain⟨y,h1,h2⟩:=h;exact⟨y,h1,h2.below hb⟩) (fun _ _ _ _ _ _ h _=>by obtain⟨q,hq,_⟩:=h;exact absurd hq (an _)) (by rfl) (fun T xs wr hA=>?_) ?_
 ·have nH:=(hA.be 0 (ah _) (fun _ _=>ah _)).size;have Ck:=hA.tm 6 24 (by rfl) (by rfl);have f24:xs 6=_:=hA.fa 6 (by rfl);(try simp (disch:=first | rfl | decide) only [R7.au] at f24);rw[f24] at Ck;clear f24;have Sq:=hA.tm 10 28 (by rfl) (by rfl);have f28:xs 10=_:=hA.fa 10 (by rfl);(try simp (disch:=first | rfl | decide) only [R7.au] at f28);rw[f28] at Sq;clear f28;have gq:=ck (hA.be x2.heap.size (ag _) (fun q h=>absurd h (an q)));have Jy:=Zu.out.below gq;clear hA;refine⟨(by rfl),fun K hK=>?_⟩;go_simp;refine (IN _ _ env q S _ (MK.out q (by simp)) Jy (HE.out.below gq) YX.out HQ.out YV.out).mono ?_;rintro e w' ⟨y,rfl,hy,hb'⟩;exact hK.out _ _ ⟨y,rfl,hy⟩ hb'
 refine R7.aF.call (fun xs v w=>v=.int .i64 (dQ (gJ (ev (gM env) p) - gJ (ev (gM env) q)))) (fun _ _ _ _ h _=>h) (fun _ _ _ _ _ h _ _=>h) (by rfl) (fun T xs wr hA=>?_) ?_
 ·have nH:=(hA.be 0 (ah _) (fun _ _=>ah _)).size;have Cl:=hA.tm 5 23 (by rfl) (by rfl);have UP:=hA.tm 11 29 (by rfl) (by rfl);have XQ:∃ y,(xs 5)=y/\CI wr y (gJ (ev (gM env) p)) 600:=hA.fa 5 (by rfl);obtain⟨y5,e5,TM⟩:=XQ;have RV:∃ y,(xs 11)=y/\CI wr y (gJ (ev (gM env) q)) 600:=hA.fa 11 (by rfl);obtain⟨Z0,IB,Ns⟩:=RV;clear hA;refine⟨(by rfl),fun K hK=>?_⟩;go_simp;refine (C0 _ _ (gJ (ev (gM env) p)) (gJ (ev (gM env) q)) 600 600 _ (by first | exact TM.gi | (rw[e5];exact TM.gi)) (by first | exact Ns.gi | (rw[IB];exact Ns.gi)) (by decide) (by decide)).mono ?_;rintro e w' ⟨rfl,hb'⟩;exact hK.out _ _ rfl hb'
 refine R7.aF.dL ?_ (by rfl) (fun T xs wr hA=>?_) ?_;rotate_left 1
 ·have So:=hA.tm 12 30 (by rfl) (by rfl);have f30:xs 12=(.int .i64 (dQ (gJ (ev (gM env) p) - gJ (ev (gM env) q)))):=hA.fa 12 (by rfl);rw[f30] at So;clear f30;clear hA;refine⟨(by rfl),?_⟩;go_simp<;>(try with_reducible rfl)
 refine R7.aF.dL ?_ (by rfl) (fun T xs wr hA=>?_) ?_;rotate_left 1
 ·have Sn:=hA.tm 13 31 (by rfl) (by rfl);have f31:xs 13=_:=hA.fa 13 (by rfl);(try simp (disch:=first | rfl | decide) only [R7.au] at f31);rw[f31] at Sn;clear f31;clear hA;refine⟨(by rfl),?_⟩;go_simp<;>(try with_reducible rfl)
 refine R7.aF.done (fun xs x3 hL=>?_);obtain⟨⟨iB,cS⟩,hf,-,-⟩:=hL;have f0:xs 0=_:=hf 0 (by decide);(try simp (disch:=first | rfl | decide) only [R7.au] at f0);have f1:xs 1=_:=hf 1 (by decide);(try simp (disch:=first | rfl | decide) only [R7.au] at f1);have f2:xs 2=_:=hf 2 (by decide);(try simp (disch:=first | rfl | decide) only [R7.au] at f2);have f3:xs 3=_:=hf 3 (by decide);(try simp (disch:=first | rfl | decide) only [R7.au] at f3);have f4:xs 4=_:=hf 4 (by decide);(try simp (disch:=first | rfl | decide) only [R7.au] at f4);have F5:∃ y,(xs 5)=y/\CI x3 y (gJ (ev (gM env) p)) 600:=hf 5 (by decide);have f6:xs 6=_:=hf 6 (by decide);(try simp (disch:=first | rfl | decide) only [R7.au] at f6);have f7:xs 7=_:=hf 7 (by decide)
 (try simp (disch:=first | rfl | decide) only [R7.au] at f7);have f8:xs 8=_:=hf 8 (by decide);(try simp (disch:=first | rfl | decide) only [R7.au] at f8);have f9:xs 9=_:=hf 9 (by decide);(try simp (disch:=first | rfl | decide) only [R7.au] at f9);have f10:xs 10=_:=hf 10 (by decide);(try simp (disch:=first | rfl | decide) only [R7.au] at f10);have F11:∃ y,(xs 11)=y/\CI x3 y (gJ (ev (gM env) q)) 600:=hf 11 (by decide);have f12:xs 12=(.int .i64 (dQ (gJ (ev (gM env) p) - gJ (ev (gM env) q)))):=hf 12 (by decide);have f13:xs 13=_:=hf 13 (by decide);(try simp (disch:=first | rfl | decide) only [R7.au] at f13);have f14:xs 14=_:=hf 14 (by decide);(try simp (disch:=first | rfl | decide) only [R7.au] at f14)
 have hb0:aB 0 x2 x3:=ck (iB 0 (ah _) (fun _ _=>ah _));have jl:∀ j,j<x2.heap.size->(∀ q,q<0->(fun q=>0) q≠j)->x3.heap[j]?=x2.heap[j]?:=cS;clear iB cS hf;have hb:aB x2.heap.size x2 x3:=⟨hb0.os,hb0.tape,hb0.output,hb0.size,fun q hq=>jl q hq (fun q h=>absurd h (an _))⟩;refine R7.lW ?_;simp only[R7.fill,AU,AT,AS,f0,f1,f2,f3,f4,f6,f7,f8,f9,f10,f12,f13,f14];clear hb0 jl fO Eg dS f0 f1 f2 f3 f4 f6 f7 f8 f9 f10 f12 f13 f14;replace HW:=aa (HW.out.trans (hb.mono HW.out.size));replace hb:=aa hb;go_wp2_with fail;go_ret;refine⟨?_,HW.out⟩;have hle:decide (dQ (gJ (ev (gM env) p) - gJ (ev (gM env) q))<=0)=decide (gJ (ev (gM env) p)<=gJ (ev (gM env) q)):=by
  unfold dQ;congr 1;apply propext;(repeat' split)<;>constructor<;>intro h<;>first | omega | (exfalso;omega)
 rw[Tc.out];show Ending.returned _=Ending.returned (.bool (decide (gJ (ev (gM env) p)<=gJ (ev (gM env) q))))
 rw[<-hle];rfl
theorem MW (d:Nat) (IT:O3 rL d):LP rL d:=by
 intro ve v env t S w hP h he hr um;obtain⟨eo,en,ec,rfl⟩:=he.shape;have hs:cU t.op=1:=by rw[hP.1];rfl
 have MK:=aa hP;clear hP;have HS:=aa hs;clear hs;have HT:=aa h;obtain⟨b,ao,l,c,ko,kl,kc,rfl,-,-,-⟩:=h.open;obtain⟨o,CJ⟩:∃ o,o=t.op:=⟨_,rfl⟩;obtain⟨nm,hnm⟩:∃ o,o=t.name:=⟨_,rfl⟩;rw[<-CJ] at HT ⊢;rw[<-hnm] at HT ⊢;have Y9:=aa CJ;have HE:=aa he;have HR:=aa hr;have Pe:=aa um;clear h he hr um CJ hnm;have HW:=aa (ax w.heap.size w);go_enter Tryz.func114,Tryz.ntmps114;obtain⟨x1,kf,ef,ki,cn,jC,aG⟩:=aW w #[.int .i64 o,.bool b,.slice ao l c,.string nm,.slice ko kl kc] 29;replace HT:=aa (HT.out.below cn.out);replace HE:=aa (HE.out.below cn.out);replace HW:=aa (HW.out.trans (cn.out.mono HW.out.size))
 obtain⟨x2,kr,er,sG,eY,lj,aR⟩:=aW x1 #[.int .i64 0,.bool false,.slice none 0 0,.bool false,.slice none 0 0] 41;replace aG:=bM eY.out aG;replace HT:=aa (HT.out.below eY.out);replace HE:=aa (HE.out.below eY.out);replace HW:=aa (HW.out.trans (eY.out.mono HW.out.size));have r7:Hid (w.heap.size<=kr):=aa (ai cn.out.size lj.out);obtain⟨⟨c0,c1,c2,c3,c4⟩,dN,dY,dX,dW,dO⟩:=ay aG.out;go_wp2_with fail;refine (vP o b ao l c nm ko kl kc x2).mono ?_;rintro e x3 ⟨rfl,hb⟩;clear c0 dN c1 dY c2 dX c3 dW c4 dO;replace aG:=bM hb aG;replace aR:=bM hb aR;replace HT:=aa (HT.out.below hb);replace HE:=aa (HE.out.below hb);replace HW:=aa (HW.out.trans (hb.mono HW.out.size));rw[show cU o=1 from (by rw[Y9.out];exact HS.out)]
 obtain⟨⟨c0,c1,c2,c3,c4⟩,dN,dY,dX,dW,dO⟩:=ay aG.out;go_wp2_with fail;refine (IT _ _ env t S x3 MK.out HT.out HE.out HR.out HS.out Pe.out).mono ?_;rintro e x4 ⟨rfl,hb⟩;clear c0 dN c1 dY c2 dX c3 dW c4 dO;replace aR:=bM hb aR;replace HW:=aa (HW.out.trans (hb.mono HW.out.size));go_wp2_with fail;refine (Dt _ x4).mono ?_;rintro e x5 ⟨v,rfl,hv,hb⟩;replace aR:=bM hb aR;replace HW:=aa (HW.out.trans (hb.mono HW.out.size));have zQ:=hv.bool;subst zQ;have HV:=aa hv;clear hv;obtain⟨⟨r0,r1,r2,r3,r4⟩,jU,jT,kP,kO,kN⟩:=ay aR.out;go_wp2_with fail;obtain⟨s1,s2⟩:=Di HW.out aR.out DB r7.out (.int .i64 1) (.bool false) (.slice none 0 0) (.bool (lz (ev (gM env) t))) (.slice none 0 0);(try simp only[aN,bx])
 exact aJ (v:=.agg #[.int .i64 1,.bool false,.slice none 0 0,.bool (lz (ev (gM env) t)),.slice none 0 0]) (by simp[results,Tryz.results114,go_sem,r0,r1,r2,r3,r4]) rfl ⟨_,rfl,(show VC _ _ (ev (gM env) t) from by rw[Iy HS.out];exact HV.out).fr (by decide) s1,s2⟩
theorem LC (d:Nat) (ve v:ak) (env:List (ByteArray × V)) (t:F) (S:Nat->Prop) (w:af) (hP:rL t) (IV:LP rL d) (h:FC w S d v t) (he:EL w ve env) (hr:rt t=true) (um:Sm (gM env) t) :
  aV aj 66 #[v,ve] w fun e w'=>∃ x,e=.returned x/\VC w' x (ev (gM env) t)/\aB w.heap.size w w':=by
 obtain⟨eo,en,ec,rfl⟩:=he.shape;have HT:=aa h;obtain⟨b,ao,l,c,ko,kl,kc,rfl,-,-,-⟩:=h.open;obtain⟨o,CJ⟩:∃ o,o=t.op:=⟨_,rfl⟩;obtain⟨nm,hnm⟩:∃ o,o=t.name:=⟨_,rfl⟩;rw[<-CJ] at HT ⊢;rw[<-hnm] at HT ⊢;have HE:=aa he;have HR:=aa hr;have Pe:=aa um;clear h he hr um CJ hnm;have HW:=aa (ax w.heap.size w);go_enter Tryz.func66,Tryz.ntmps66;obtain⟨x1,kf,ef,ki,cn,jC,aG⟩:=aW w #[.int .i64 o,.bool b,.slice ao l c,.string nm,.slice ko kl kc] 29;replace HT:=aa (HT.out.below cn.out);replace HE:=aa (HE.out.below cn.out);replace HW:=aa (HW.out.trans (cn.out.mono HW.out.size));obtain⟨x2,kr,er,sG,eY,lj,aR⟩:=aW x1 #[.int .i64 0,.bool false,.slice none 0 0,.bool false,.slice none 0 0] 41;replace aG:=bM eY.out aG
 replace HT:=aa (HT.out.below eY.out);replace HE:=aa (HE.out.below eY.out);replace HW:=aa (HW.out.trans (eY.out.mono HW.out.size));have r7:Hid (w.heap.size<=kr):=aa (ai cn.out.size lj.out);obtain⟨⟨c0,c1,c2,c3,c4⟩,dN,dY,dX,dW,dO⟩:=ay aG.out;go_wp2_with fail;refine (AX d _ t S x2 HT.out).mono ?_;rintro e x3 ⟨rfl,hb⟩;clear c0 dN c1 dY c2 dX c3 dW c4 dO;replace aG:=bM hb aG;replace aR:=bM hb aR;replace HT:=aa (HT.out.below hb);replace HE:=aa (HE.out.below hb);replace HW:=aa (HW.out.trans (hb.mono HW.out.size));rw[HR.out];obtain⟨⟨c0,c1,c2,c3,c4⟩,dN,dY,dX,dW,dO⟩:=ay aG.out;go_wp2_with fail;refine (IV _ _ env t S x3 hP HT.out HE.out HR.out Pe.out).mono ?_;rintro e x4 ⟨x,rfl,hx,hb⟩
 clear c0 dN c1 dY c2 dX c3 dW c4 dO;replace aR:=bM hb aR;replace HW:=aa (HW.out.trans (hb.mono HW.out.size));obtain⟨k1,b1,o1,l1,c1,p1,m1,q1,rfl⟩:=hx.shape;have HV:=aa hx;clear hx;obtain⟨⟨r0,r1,r2,r3,r4⟩,jU,jT,kP,kO,kN⟩:=ay aR.out;go_wp2_with fail;obtain⟨s1,s2⟩:=Di HW.out aR.out DB r7.out (.int .i64 k1) (.bool b1) (.slice o1 l1 c1) (.bool (lz (ev (gM env) t))) (.slice p1 m1 q1);(try simp only[aN,bx]);exact aJ (v:=.agg #[.int .i64 k1,.bool b1,.slice o1 l1 c1,.bool (lz (ev (gM env) t)),.slice p1 m1 q1]) (by simp[results,Tryz.results66,go_sem,r0,r1,r2,r3,r4]) rfl ⟨_,rfl,(HV.out).fr (by decide) s1,s2⟩
theorem HH (d:Nat) (ve v:ak) (env:List (ByteArray × V)) (t:F) (S:Nat->Prop) (w:af) (hP:rL t) (IV:LP rL d) (h:FC w S d v t) (he:EL w ve env) (hr:rt t=true) (um:Sm (gM env) t) :
  aV aj 18 #[v,ve] w fun e w'=>e=.returned (.bool (lz (ev (gM env) t)))/\aB w.heap.size w w':=by
 obtain⟨eo,en,ec,rfl⟩:=he.shape;have HT:=aa h;obtain⟨b,ao,l,c,ko,kl,kc,rfl,-,-,-⟩:=h.open;obtain⟨o,CJ⟩:∃ o,o=t.op:=⟨_,rfl⟩;obtain⟨nm,hnm⟩:∃ o,o=t.name:=⟨_,rfl⟩;rw[<-CJ] at HT ⊢;rw[<-hnm] at HT ⊢;have HE:=aa he;have HR:=aa hr;have Pe:=aa um;clear h he hr um CJ hnm;have HW:=aa (ax w.heap.size w);go_enter Tryz.func18,Tryz.ntmps18;obtain⟨x1,kf,ef,ki,cn,jC,aG⟩:=aW w #[.int .i64 o,.bool b,.slice ao l c,.string nm,.slice ko kl kc] 29;replace HT:=aa (HT.out.below cn.out);replace HE:=aa (HE.out.below cn.out);replace HW:=aa (HW.out.trans (cn.out.mono HW.out.size));obtain⟨⟨c0,c1,c2,c3,c4⟩,dN,dY,dX,dW,dO⟩:=ay aG.out;go_wp2_with fail
 refine (LC d _ _ env t S x1 hP IV HT.out HE.out HR.out Pe.out).mono ?_;rintro e x2 ⟨x,rfl,hx,hb⟩;clear c0 dN c1 dY c2 dX c3 dW c4 dO;replace HW:=aa (HW.out.trans (hb.mono HW.out.size));obtain⟨k1,b1,o1,l1,c1,p1,m1,q1,rfl⟩:=hx.shape;clear hx;go_wp2_with fail;go_ret;exact⟨rfl,HW.out⟩
theorem B7 (v:ak) (S:Nat->Prop) (w:af) (h:FC w S 9 v (cN (nF 0) (cr oH))) (he:EL w (.slice none 0 0) []) (um:Sm (gM []) (cN (nF 0) (cr oH))) :
  aV aj 18 #[v,.slice none 0 0] w fun e w'=>e=.returned (.bool true)/\aB w.heap.size w w':=by
 have P:rL (cN (nF 0) (cr oH)):=⟨rfl,fun k hk=>by
  have eR:k=nF 0\/k=cr oH:=by simpa [cN,fo,F.kids] using hk
  rcases eR with rfl | rfl
  ·exact .inl rfl
  exact .inr ⟨rfl,fun q hq=>by
   have hq2:q=oH:=by simpa [cr,fo,F.kids] using hq
   rw[hq2];rfl⟩⟩
 exact HH 9 _ _ [] _ S w P (MW 9 (MY 8 (M_ 7 (Nh 6)))) h he rfl um
attribute [local go_sem] cL cK cJ cI
theorem Ku:Sm (gM []) (cN (nF 0) (cr oH)):=by
 have z:O5 (.I 0):=BE.sm (BE.zero 4 6) (by decide) (by decide);have z0:O5 (.L []):=BE.sm (v:=.L []) (e:=4) (n:=6) ⟨ah _,fun z hz=>by cases hz⟩ (by decide) (by decide);exact⟨trivial,⟨z,trivial⟩,⟨z,⟨z0,trivial⟩,trivial⟩,trivial⟩
theorem Cu (a:cu):a.add 0=a:=by
 obtain⟨b,o,s⟩:=a
 cases s<;>rfl
theorem Lv:∀ y ∈ uF (cr oH),Gd y:=by
 have L1:rt oH=true/\Tg 1 oH:=⟨rfl,vk.2.2.2.2.2 oH (by simp[cr,fo,F.kids])⟩;have h2:∀ k ∈ [cr oH],Tg 2 k:=fun k hk=>by rw[aX] at hk;rw[hk];exact vk.2
 have wD:∀ {e:Nat} {o:Int} {ks:List F},¬ (o=1\/o=8\/o=14)->ks.length<=8->(∀ k ∈ ks,Tg e k)->Tg (e+1) (fo o ks):=fun ho hl hk =>
  ⟨by unfold FF;rw[if_neg (show ¬ ((fo _ _).op=1\/(fo _ _).op=8\/(fo _ _).op=14) from ho)];rfl,z4,fun _ _ _=>rfl,hl,hk⟩
 have Z:Tg 1 (nF 0):=(qn (d:=5) (e:=1) Mp (by omega)).2.g;have LE:Tg 3 (cN (nF 0) (cr oH)):=wD (by decide) (by simp) (m2 (Z.up (by decide)) vk.2);have YB:Tg 3 (cN (cr oH) (nF 0)):=wD (by decide) (by simp) (m2 vk.2 (Z.up (by decide)));have NT:Tg 4 (bH (cN (cr oH) (nF 0))):=wD (by decide) (by simp) (m1 YB);have NI:Tg 1 i_:=wD (e:=0) (by decide) (by simp) (fun k hk=>by cases hk);have EQ:Tg 2 (bL oH i_):=wD (by decide) (by simp) (m2 L1.2 NI);have LN:Tg 2 (cr i_):=wD (by decide) (by simp) (m1 NI);intro y hy;rw[Ds] at hy;simp only[aP,aK,or_false] at hy;rcases hy with rfl | rfl | rfl | rfl
 ·exact⟨rfl,LE.up (by decide)⟩
 ·exact⟨rfl,Tg.up (wD (by decide) (by simp) (m2 NT (EQ.up (by decide))):Tg 5 (iw oH)) (by decide)⟩
 ·exact⟨rfl,Tg.up (wD (by decide) (by simp) (m2 (Z.up (by decide)) LN):Tg 3 (cN (nF 0) (cr i_))) (by decide)⟩
 exact⟨rfl,Tg.up (wD (by decide) (by simp) (m2 LN (Z.up (by decide))):Tg 3 (bL (cr i_) (nF 0))) (by decide)⟩
theorem Iv (w:af) (ht:vG w):aV aj 20 #[] w fun e w'=>e=.returned (.bool true)/\aB w.heap.size w w':=by
 have HT:=aa ht;clear ht;have HW:=aa (ax w.heap.size w);go_enter Tryz.func20,Tryz.ntmps20;obtain⟨x1,kl,el,ekl,cS,kU,ZF⟩:=aW w #[.int .i64 8,.bool false,.slice none 0 0,.string ⟨#[108]⟩,.slice none 0 0] 29;replace HW:=aa (HW.out.trans (cS.out.mono HW.out.size));replace HT:=aa (HT.out.below cS.out);have Cz:Hid (FC x1 tS 2 (.agg #[.int .i64 6,.bool false,.slice none 0 0,.string ⟨#[]⟩,.slice (some ⟨kl,0,none⟩) 1 1]) (cr oH)):=aa (FC.mk (op:=6) (nm:=⟨#[]⟩) ⟨by decide,by decide⟩ (Su x1) (FL.one ZF.out trivial (FC.mk (op:=8) (nm:=⟨#[108]⟩) ⟨by decide,by decide⟩ (Su x1) (FL.nil x1 tS 0))));go_wp2_with fail;refine (vU 2 _ (cr oH) x1 Cz.out (by decide) vk.1 vk.2 (by decide) Lv HT.out).mono ?_;rintro e x2 ⟨v,rfl,hfl,hb⟩
 replace HW:=aa (HW.out.trans (hb.mono HW.out.size));rw[Ds] at hfl;obtain⟨ko,kc,rfl,XI,Uo,-⟩:=hfl.form;have JB:kc<=9223372036854775807:=Uo;obtain⟨a,b,ao,l,c,po,pl,pc,rfl,⟨c0,c1,c2,c3,c4⟩,Ul⟩:=hfl.cells 0 (by decide);have Pz:Hid (FC x2 tS 9 (.agg #[.int .i64 15,.bool b,.slice ao l c,.string ⟨#[]⟩,.slice po pl pc]) (cN (nF 0) (cr oH))):=aa Ul;clear Ul Uo;have ea:a.add (0*5)=a:=Cu a;rw[ea] at c0 c1 c2 c3 c4;replace c0:x2.cell? a=some (.int .i64 15):=c0;replace c3:x2.cell? ⟨a.block,a.off+3,none⟩=some (.string ⟨#[]⟩):=c3;clear ea;have Zy:Hid (EL x2 (.slice none 0 0) []):=aa ⟨[],El.At.nil x2,rfl⟩;go_wp2_with fail;refine (B7 _ tS x2 Pz.out Zy.out Ku).mono ?_;rintro e x3 ⟨rfl,hb⟩;rw[<-hb.cell (cj c0)] at c0
 replace HW:=aa (HW.out.trans (hb.mono HW.out.size));clear hb;go_wp2_with fail;go_ret;exact⟨rfl,HW.out⟩
attribute [local go_sem] cL cK cJ cI
def DM (op oG:Int):List F->F
 | []=>.node oG 0 ⟨#[]⟩ []
 | [t]=>t
 | l=>.node op 0 ⟨#[]⟩ l
def lf (op oG dec:Int) (ts:List F):F:=if ts.any (fun t=>decide (t.op=dec)) then .node dec 0 ⟨#[]⟩ [] else DM op oG (ts.filter (fun t=>decide (t.op≠oG)))
theorem DU {op oG dec:Int} {ts:List F} (j:Nat) (hj:j<ts.length) (h:ts[j].op=dec):lf op oG dec ts=.node dec 0 ⟨#[]⟩ []:=
 if_pos (List.any_eq_true.2 ⟨ts[j],bS hj,decide_eq_true h⟩)
theorem BZ {op oG dec:Int} {ts rs:List F} (h:∀ t ∈ ts,t.op≠dec) (hr:rs=ts.filter (fun t=>decide (t.op≠oG))):lf op oG dec ts=DM op oG rs:=by
 have hn:¬ ts.any (fun t=>decide (t.op=dec))=true:=by
  intro hc;obtain⟨t,ht,he⟩:=List.any_eq_true.1 hc;exact h t ht (of_decide_eq_true he)
 unfold lf;rw[if_neg hn,hr]
theorem Cd {oG:Int} {ts:List F} {j:Nat} (hj:j<ts.length) (h:ts[j].op≠oG):(ts.take (j+1)).filter (fun t=>decide (t.op≠oG))=(ts.take j).filter (fun t=>decide (t.op≠oG))++[ts[j]]:=by
 rw[aT hj,lS]
 simp[h]
theorem Ce {oG:Int} {ts:List F} {j:Nat} (hj:j<ts.length) (h:ts[j].op=oG):(ts.take (j+1)).filter (fun t=>decide (t.op≠oG))=(ts.take j).filter (fun t=>decide (t.op≠oG)):=by
 rw[aT hj,lS]
 simp[h]
theorem BW {dec:Int} {ts:List F} {j:Nat} (hj:j<ts.length) (h:∀ t ∈ ts.take j,t.op≠dec) (hn:ts[j].op≠dec):∀ t ∈ ts.take (j+1),t.op≠dec:=by
 intro t ht;rw[aT hj] at ht;rcases List.mem_append.1 ht with ht | ht
 ·exact h t ht
 rw[aX] at ht;subst ht;exact hn
theorem DA (n:Nat):lA (madeCells fR.z.cells n).toList:=by
 intro u hu z e;simp only[madeCells,Array.toList_map,List.mem_map] at hu;obtain⟨j,-,rfl⟩:=hu;have hsz:fR.z.cells.size=5:=rfl;rw[hsz] at e;have hm:j % 5=0\/j % 5=1\/j % 5=2\/j % 5=3\/j % 5=4:=by omega
 rcases hm with h | h | h | h | h<;>rw[h] at e<;>cases e
theorem EB (w:af) {ops:Array Oper} {rest:List Oper} {o:Oper} {a:Act} {Q:Exit->Act->af->Prop} (hg:o.guard=none) (l c:Operand) (hop:o.op=Op.makeSlice 27 l c) (kl kc:IntKind) (n:Nat) (hl:a.eval l=.int kl 0) (hc:a.eval c=.int kc (n:Int)) (hn:n<=1000)
  (hK:∀ w',fR.Row w' w.heap.size (.slice (some ⟨w.heap.size,0,none⟩) 0 n) []->aB w.heap.size w w'->wpList aj ops Q rest (a.put o.dst (.slice (some ⟨w.heap.size,0,none⟩) 0 n)) w'):wpList aj ops Q (o::rest) a w:=by
 obtain⟨i,hi,hz,iq,mP⟩:=info_parts fR.info;refine wpList_plain hg fun K hk=>?_
 have hr:=run_makeSlice (P:=aj) w 27 29 i fR.z fR.ht hi hz kl kc 0 (n:Int) (Int.le_refl _) (by omega) (by rw[iq];show ((n:Int).toNat)*5<=_;omega) (by rw[mP];show (80:Int)*n<=_;omega) (by omega);unfold Oper.wp execOp;simp only[hop,hl,hc,Sem.run_bind,Sem.run_pure,Result.andThen_ok];rw[hr];have h1:=World.ownsRow_made (e:=29) (size:=5) (base:=w.heap.size) w (madeCells fR.z.cells (n*5)) n (ag _) (by unfold bn;omega) (by simp[madeCells]);refine hk _ _ (hK _ ⟨?_,?_,fun _ h=>by cases h⟩ ((ax _ _).alloc (ag _) _))
 ·rw[iq];exact h1
 intro g hg;injection hg with hg;subst hg;exact⟨_,bz w _,DA _⟩
theorem FR.shape {w:af} {B:Nat} {v:ak} {us:List FU} (h:fR.Row w B v us) (hn:0<us.length):∃ g cap,v=.slice (some ⟨g,0,none⟩) us.length cap:=by
 rcases h.own.2 with ⟨-,h0⟩ | ⟨g,cap,cur,hv,_⟩
 ·omega
 exact⟨g,cap,hv⟩
theorem FL.M5 {w:af} {S:Nat->Prop} {d g n cap cap':Nat} {ts:List F} (h:FL w S d (.slice (some ⟨g,0,none⟩) n cap) ts) (h1:n<=cap') (h2:cap'<=bn):FL w S d (.slice (some ⟨g,0,none⟩) n cap') ts:=by
 obtain⟨el,⟨ko,kc,e,⟨a1,a2,a3⟩,h3,h4⟩,h5⟩:=h;injection e with e1 e2 e3;subst e1 e2;exact⟨el,⟨_,cap',rfl,⟨h1,h2,fun h=>by cases h⟩,h3,h4⟩,h5⟩
theorem GO {w:af} {g:Nat} {u:FU} {v0 v1 v2 v3 v4:ak} (hB:w.heap[g]?=some (.cells #[v0,v1,v2,v3,v4] 29 (0,0))) (hu:fC u=[v0,v1,v2,v3,v4]):fR.At w (.slice (some ⟨g,0,none⟩) 1 1) [u]:=
 El.At.block (E:=fR) (el:=[u]) (by rw[hB];show _=some (Obj.cells (([u]:List FU).flatMap fC).toArray _ _);rw[gr,hu];rfl) (show 1<=bn by decide) (fun _ _=>trivial)
theorem Iu {w:af} {S:Nat->Prop} {d:Nat} {us:List FU} {rs:List F} {u:FU} {t:F} (hl:us.length=rs.length) (h:∀ q (h1:q<us.length) (h2:q<rs.length),FT w S d us[q] rs[q]) (ht:FT w S d u t):∀ q (h1:q<(us++[u]).length) (h2:q<(rs++[t]).length),FT w S d (us++[u])[q] (rs++[t])[q]:=by
 intro q h1 h2;by_cases hq:q<us.length
 ·rw[pg hq,pg (by omega)];exact h q hq (by omega)
 have TZ:q=us.length:=by simp at h1;omega
 rw[oy (by omega),oy (by omega)];simpa using ht
theorem FL.Kl {w w':af} {S:Nat->Prop} {d:Nat} {ko:Option cu} {n kc:Nat} {ts:List F} (h:FL w S d (.slice ko n kc) ts) {j:Nat} (hj:j<ts.length) {b:Bool} {o:Option cu} {l c:Nat} {x:Int} {ym:ByteArray} {po:Option cu} {pl pc:Nat} (hb:aB w.heap.size w w')
  (hc:∀ a,ko=some a->w'.cell? (a.add (j*5))=some (.int .i64 x)/\w'.cell? ⟨(a.add (j*5)).block,(a.add (j*5)).off+1,none⟩=some (.bool b)/\w'.cell? ⟨(a.add (j*5)).block,(a.add (j*5)).off+2,none⟩=some (.slice o l c)/\w'.cell? ⟨(a.add (j*5)).block,(a.add (j*5)).off+3,none⟩=some (.string ym)/\w'.cell? ⟨(a.add (j*5)).block,(a.add (j*5)).off+4,none⟩=some (.slice po pl pc)) :
  ∃ u:FU,fC u=[.int .i64 x,.bool b,.slice o l c,.string ym,.slice po pl pc]/\FT w S d u ts[j]:=by
 obtain⟨a,b2,o2,l2,c2,po2,pl2,pc2,rfl,⟨c0,c1,UR,c3,c4⟩,hf⟩:=h.cells j hj;obtain⟨d0,d1,d2,d3,d4⟩:=hc a rfl;rw[hb.cell (cj c0)] at d0;rw[hb.cell (cj c1)] at d1;rw[hb.cell (cj UR)] at d2;rw[hb.cell (cj c3)] at d3;rw[hb.cell (cj c4)] at d4;rw[c0] at d0;rw[c1] at d1;rw[UR] at d2;rw[c3] at d3;rw[c4] at d4;obtain⟨u,hu,hT⟩:=hf.I_;refine⟨u,?_,hT⟩;rw[hu];injection d0 with d0;injection d1 with d1;injection d2 with d2;injection d3 with d3;injection d4 with d4;rw[d0,d1,d2,d3,d4]
theorem DS (op oG dec:Int) (ko:Option cu) (kl kc:Nat) (ts:List F) (S:Nat->Prop) (d:Nat) (w:af) (h:FL w S d (.slice ko kl kc) ts) (hl:ts.length<=100) (hd:1<=d) (hop:IR op) (NN:IR oG) (N6:IR dec) :
  aV aj 80 #[.int .i64 op,.int .i64 oG,.int .i64 dec,.slice ko kl kc] w fun e w'=>∃ v,e=.returned v/\FC w' (fun b=>S b\/w.heap.size<=b) (d+1) v (lf op oG dec ts)/\aB w.heap.size w w':=by
 obtain⟨v_,we,e,kU,hkm,-⟩:=h.form;injection e with e1 e2 e3;subst e1;subst e3;have uI:kc<=9223372036854775807:=hkm;have HN:=aa e2;have Uf:kl<=100:=by rw[e2];exact hl
 have hkc:kl<=kc:=by rw[e2];exact kU
 have HX:=aa h.TA;have gF:=aa hop;have iC:=aa NN;have ZC:=aa N6;clear h hl hd hop NN N6 e2 kU;have HW:=aa (ax w.heap.size w);have CR:=HX;go_enter Tryz.func80,Tryz.ntmps80;obtain⟨x1,kr,er,sG,eY,lj,aR⟩:=aW w #[.int .i64 0,.bool false,.slice none 0 0,.string ⟨#[]⟩,.slice none 0 0] 29;replace HW:=aa (HW.out.trans (eY.out.mono HW.out.size));have r7:Hid (w.heap.size<=kr):=lj;have Mg:=aa (ae aR.out);go_wp2_with (refine EB x1 rfl (.const (.int .i64 0)) (.tmp 13) rfl .i64 .i64 kl rfl rfl (by omega) ?_;intro w9 r1 r2;have J8:=aa r1;have eD:=aa r2;clear r1 r2);obtain⟨B,RX⟩:∃ B,B=x1.heap.size:=⟨_,rfl⟩;rw[<-RX] at J8 eD Mg ⊢;have Tj:Hid (w.heap.size<=B):=aa (by rw[RX];exact eY.out.size)
 have Qv:=aa (HW.out.trans (eD.out.mono Tj.out));have I5:=aa ((eD.out.block kr Mg.out).trans aR.out);have y_:Hid (B<=w9.heap.size):=aa (by have:=eD.out.size;omega);clear HW aR eD RX
 go_loopw [9,17] (fun r i wr=>∃ (j:Nat) (us:List FU) (rs:List F) (ro:Option cu) (rc:Nat),r=.slice ro us.length rc/\i=.int .i64 (j:Nat)/\j<=kl/\us.length<=j/\us.length<=rc/\rc<=9223372036854775807/\Hid (fR.Row wr B (.slice ro us.length rc) us)/\Hid (rs=(ts.take j).filter (fun t=>decide (t.op≠oG)))/\Hid (us.length=rs.length)/\Hid (∀ q (h1:q<us.length) (h2:q<rs.length),FT w (fun b=>S b/\b<w.heap.size) d us[q] rs[q])/\Hid (∀ t ∈ ts.take j,t.op≠dec)/\Hid (aB w.heap.size w wr)/\Hid (B<=wr.heap.size)/\Hid (wr.heap[kr]?=some (.cells #[.int .i64 0,.bool false,.slice none 0 0,.string ⟨#[]⟩,.slice none 0 0] 29 (0,0)))) (fun _ i _=>kl - (eT i).toNat)
 case atStart=>exact⟨0,[],[],_,_,rfl,rfl,ah _,ag _,ah _,by omega,J8,aa (by rw[List.take_zero];rfl),aa rfl,aa (fun q h=>absurd h (an q)),aa (fun t ht=>by rw[List.take_zero] at ht;cases ht),Qv,y_,I5⟩
 case round =>
  obtain⟨wl,KS⟩:∃ q,q=wr:=⟨_,rfl⟩;subst KS;obtain⟨j,us,rs,ro,rc,rfl,rfl,hj,Xb,TS,Rc,nD,FI,LU,FK,Pn,HW,I6,aR⟩:=hrel;clear J8 Qv y_ I5;obtain⟨n,hn⟩:∃ n,n=us.length:=⟨_,rfl⟩;rw[<-hn] at Xb TS nD ⊢;have BC:=aa hn;clear hn;by_cases hlt:j<kl
  ·have rX:j<ts.length:=by rw[<-HN.out];exact hlt
   have Fg:=aa rX;obtain⟨a,bb,qo,ql,qc,po,pl,pc,rfl,tF,hf⟩:=(CR.out.below HW.out).cells j rX;obtain⟨x,uh⟩:∃ x,x=(ts[j]'rX).op:=⟨_,rfl⟩;obtain⟨ym,hnm⟩:∃ x,x=(ts[j]'rX).name:=⟨_,rfl⟩;rw[<-uh,<-hnm] at tF hf;have Te:=aa tF;have YG:=HW;obtain⟨c0,c1,c2,c3,c4⟩:=tF;have LS:Hid (x=(ts[j]'Fg.out).op):=aa uh;clear uh hnm hf rX;obtain⟨x2,k7,e7,UL,xe,Ue,wZ⟩:=aW wl #[.int .i64 x,.bool bb,.slice qo ql qc,.string ym,.slice po pl pc] 29;replace aR:=bM xe.out aR;replace HW:=aa (HW.out.trans (xe.out.mono HW.out.size));replace nD:=aa (nD.out.below xe.out);have Ml:Hid (B<=x2.heap.size):=aa (ai I6.out xe.out.size);obtain⟨⟨g0,g1,g2,g3,g4⟩,ux,uw,uv,uu,ur⟩:=ay wZ.out;by_cases hxd:x=dec
   ·have W8:(x==dec)=true:=by rw[hxd];exact beq_self_eq_true dec
    have Qu:=aa hxd;clear hxd;go_wp2_with fail;refine (KH dec none 0 0 x2).mono ?_;rintro e x3 ⟨rfl,hb⟩;clear g0 ux g1 uw g2 uv g3 uu g4 ur;replace aR:=bM hb aR;replace HW:=aa (HW.out.trans (hb.mono HW.out.size));obtain⟨⟨r0,r1,r2,r3,r4⟩,jU,jT,kP,kO,kN⟩:=ay aR.out;go_wp2_with fail;obtain⟨s1,s2⟩:=pC HW.out aR.out bO r7.out (.int .i64 dec) (.bool false) (.slice none 0 0) (.string ⟨#[]⟩) (.slice none 0 0);(try simp only[aN,bx]);exact aJ (v:=.agg #[.int .i64 dec,.bool false,.slice none 0 0,.string ⟨#[]⟩,.slice none 0 0]) (by simp[results,Tryz.results80,go_sem,r0,r1,r2,r3,r4]) rfl ⟨_,rfl,by rw[DU j Fg.out (LS.out.symm.trans Qu.out)];exact FC.mk ZC.out ((nB _).fr s1) (FL.nil _ _ d),s2⟩
   have W8:(x==dec)=false:=beq_eq_false_iff_ne.2 hxd;have Qu:=aa (BW Fg.out Pn.out (fun e=>hxd (LS.out.trans e)));clear hxd;by_cases hxn:x=oG
   ·have Q8:(x==oG)=true:=by rw[hxn];exact beq_self_eq_true oG
    have SB:=aa hxn;clear hxn;go_wp2_with fail;go_roundw
    case rel=>exact⟨j+1,us,rs,_,_,by rw[<-BC.out],by go_num,hlt,by rw[<-BC.out];omega,by rw[<-BC.out];exact TS,Rc,by rw[<-BC.out];exact nD,aa (by rw[Ce Fg.out (LS.out.symm.trans SB.out)];exact FI.out),LU,FK,Qu,HW,Ml,aR⟩
    case measure=>simp[eT];omega
   have Q8:(x==oG)=false:=beq_eq_false_iff_ne.2 hxn;have SB:=aa (Cd Fg.out (fun e=>hxn (LS.out.trans e)));clear hxn;obtain⟨u,hu,hT⟩:=FL.Kl CR.out Fg.out YG.out (fun a2 Eo=>by injection Eo with Eo;subst Eo;exact Te.out);have HU:=aa hu;have HT:=aa hT;clear hu hT;obtain⟨x3,ky,ey,mb,hby,pU,kA⟩:=aW x2 #[.int .i64 x,.bool bb,.slice qo ql qc,.string ym,.slice po pl pc] 29;replace aR:=bM hby.out aR;replace HW:=aa (HW.out.trans (hby.out.mono HW.out.size));replace nD:=aa (nD.out.below hby.out);have vH:=aa (GO kA.out HU.out);have HLY:Hid (kr<B):=Mg
   go_wp2_with (at_builtin;refine El.Row.append (E:=fR) (by have h:=nD.out;rw[BC.out] at h;exact h) rfl (.tmp 23) (.tmp 25) rfl (by rw[<-BC.out];rfl) rfl vH.out (by simp;have:=BC.out;omega) (ai Ml.out hby.out.size) ?_;intro v9 w9 r1 r2 r3 r4;obtain⟨vo,vc,rfl,UA,Uz,-⟩:=r1.form;have I5:=aa ((r3.block kr Mg.out).trans aR.out);have Qv:=aa (HW.out.trans (r3.mono Tj.out));have J8:=aa r1;have y_:Hid (B<=w9.heap.size):=aa (ai (ai Ml.out hby.out.size) r3.size);have ZJ:=aa UA;have ZI:=aa Uz;clear r1 r2 r3 r4 UA Uz);go_roundw
   case rel=>exact⟨j+1,us++[u],rs++[ts[j]'Fg.out],_,_,by rw[dB];rfl,by go_num,hlt,by rw[dB];have:=BC.out;simp;omega,ZJ.out,ZI.out,J8,aa (by rw[SB.out,<-FI.out]),aa (by rw[dB,dB,LU.out];rfl),aa (Iu LU.out FK.out HT.out),Qu,Qv,y_,I5⟩
   case measure=>simp[eT];omega
  have B9:j=kl:=by omega
  have uk:ts.take j=ts:=by rw[B9,HN.out,cz]
  rw[uk] at FI Pn;have SV:=aa (BZ (op:=op) Pn.out FI.out);clear uk B9;have Ro:n=0\/n=1\/2<=n:=by omega
  rcases Ro with rfl | rfl | x_
  ·have rM:rs=[]:=List.eq_nil_of_length_eq_zero (by rw[<-LU.out,<-BC.out]);have HE:=aa (show lf op oG dec ts=.node oG 0 ⟨#[]⟩ [] from by rw[SV.out,rM];rfl);clear rM;go_wp2_with fail;refine (KH oG none 0 0 wl).mono ?_;rintro e x2 ⟨rfl,hb⟩;replace aR:=bM hb aR;replace HW:=aa (HW.out.trans (hb.mono HW.out.size));obtain⟨⟨r0,r1,r2,r3,r4⟩,jU,jT,kP,kO,kN⟩:=ay aR.out;go_wp2_with fail;obtain⟨s1,s2⟩:=pC HW.out aR.out bO r7.out (.int .i64 oG) (.bool false) (.slice none 0 0) (.string ⟨#[]⟩) (.slice none 0 0);(try simp only[aN,bx])
   exact aJ (v:=.agg #[.int .i64 oG,.bool false,.slice none 0 0,.string ⟨#[]⟩,.slice none 0 0]) (by simp[results,Tryz.results80,go_sem,r0,r1,r2,r3,r4]) rfl ⟨_,rfl,by rw[HE.out];exact FC.mk iC.out ((nB _).fr s1) (FL.nil _ _ d),s2⟩
  ·obtain⟨u,W_⟩:∃ u,us=[u]:=List.length_eq_one_iff.1 BC.out.symm;obtain⟨t,rM⟩:∃ t,rs=[t]:=List.length_eq_one_iff.1 (by rw[<-LU.out,<-BC.out]);subst W_ rM;have HE:=aa (show lf op oG dec ts=t from SV.out);have HT:=aa (FK.out 0 (by simp) (by simp));obtain⟨g,cap,hsh⟩:=FR.shape nD.out (by simp);injection hsh with e1 e2 e3;subst e1;obtain⟨⟨c0,c1,c2,c3,c4⟩,-⟩:=Row.FB nD.out rfl (show 0 < [u].length by simp);simp only[List.getElem_cons_zero,Nat.zero_mul,Nat.zero_add] at c0 c1 c2 c3 c4;clear e2 e3;obtain⟨⟨r0,r1,r2,r3,r4⟩,jU,jT,kP,kO,kN⟩:=ay aR.out;go_wp2_with fail;clear c0 c1 c2 c3 c4;obtain⟨s1,s2⟩:=pC HW.out aR.out bO r7.out (.int .i64 u.k) (.bool (decide (u.n.z<0))) (.slice u.n.o u.n.l u.n.c) (.string u.nm) (.slice u.ko u.kl u.kc)
   (try simp only[aN,bx]);exact aJ (v:=.agg #[.int .i64 u.k,.bool (decide (u.n.z<0)),.slice u.n.o u.n.l u.n.c,.string u.nm,.slice u.ko u.kl u.kc]) (by simp[results,Tryz.results80,go_sem,r0,r1,r2,r3,r4]) rfl ⟨_,rfl,by rw[HE.out];exact⟨u,rfl,(((HT.out.below s2).mono (fun b hb=>Or.inl hb.1)).up (Nat.le_succ d))⟩,s2⟩
  have HE:Hid (lf op oG dec ts=.node op 0 ⟨#[]⟩ rs):=aa (by have h2:2<=rs.length:=(by rw[<-LU.out,<-BC.out];exact x_);rw[SV.out];match rs,h2 with | _::_::_,_=>rfl);obtain⟨g,cap,hsh⟩:=FR.shape nD.out (by rw[<-BC.out];omega);injection hsh with e1 e2 e3;subst e1;have hc0:(((n:Nat):Int)==0)=false:=beq_eq_false_iff_ne.2 (by omega);have XI:(((n:Nat):Int)==1)=false:=beq_eq_false_iff_ne.2 (by omega);have Zs:Hid (kr≠g):=aa (fun e=>by have h1:B<=g:=(nD.out.ge rfl).1;have h2:=Mg.out;omega);have Zr:Hid (w.heap.size<=g):=aa (by have h1:B<=g:=(nD.out.ge rfl).1;have h2:=Tj.out;omega);clear e2 e3;go_wp2_with fail;refine (KH op (some ⟨g,0,none⟩) n n wl).mono ?_;rintro e x2 ⟨rfl,hb⟩;replace aR:=bM hb aR;replace HW:=aa (HW.out.trans (hb.mono HW.out.size))
  replace nD:=aa (nD.out.below hb);obtain⟨⟨r0,r1,r2,r3,r4⟩,jU,jT,kP,kO,kN⟩:=ay aR.out;go_wp2_with fail;obtain⟨s1,s2⟩:=pC HW.out aR.out bO r7.out (.int .i64 op) (.bool false) (.slice none 0 0) (.string ⟨#[]⟩) (.slice (some ⟨g,0,none⟩) n n);(try simp only[aN,bx]);have XE:=bJ (w:=x2) (k:=kr) (.int .i64 op) (.bool false) (.slice none 0 0) (.string ⟨#[]⟩) (.slice (some ⟨g,0,none⟩) n n);have tB:=nD.out.h_ XE (fun j hj e=>Zs.out (by have uJ:g=j:=(by simpa [Value.ownBlock] using hj);omega)) s1 trivial
  exact aJ (v:=.agg #[.int .i64 op,.bool false,.slice none 0 0,.string ⟨#[]⟩,.slice (some ⟨g,0,none⟩) n n]) (by simp[results,Tryz.results80,go_sem,r0,r1,r2,r3,r4]) rfl ⟨_,rfl,by rw[HE.out];exact FC.mk gF.out ((nB _).fr s1) ((FL.zm tB BC.out LU.out (Or.inr Zr.out) (fun i h1 h2=>((FK.out i h1 h2).below s2).mono (fun b hb=>Or.inl hb.1))).M5 (ag _) (by unfold bn;omega)),s2⟩
theorem IJ (ko:Option cu) (kl kc:Nat) (ts:List F) (S:Nat->Prop) (d:Nat) (w:af) (h:FL w S d (.slice ko kl kc) ts) (hl:ts.length<=100) (hd:1<=d) :
  aV aj 27 #[.slice ko kl kc] w fun e w'=>∃ v,e=.returned v/\FC w' (fun b=>S b\/w.heap.size<=b) (d+1) v (lf 18 12 13 ts)/\aB w.heap.size w w':=by
 have IU:=aa h.TA;have HL:=aa hl;have HD:=aa hd;clear h hl hd;have HW:=aa (ax w.heap.size w);go_enter Tryz.func27,Tryz.ntmps27;obtain⟨x1,kr,er,sG,eY,lj,aR⟩:=aW w #[.int .i64 0,.bool false,.slice none 0 0,.string ⟨#[]⟩,.slice none 0 0] 29;replace HW:=aa (HW.out.trans (eY.out.mono HW.out.size));replace IU:=aa (IU.out.below eY.out);have r7:Hid (w.heap.size<=kr):=lj;have Mg:=aa (ae aR.out);go_wp2_with fail;refine (DS 18 12 13 ko kl kc ts _ d x1 IU.out HL.out HD.out (by unfold IR;decide) (by unfold IR;decide) (by unfold IR;decide)).mono ?_;rintro e x2 ⟨v,rfl,hv,hb⟩;replace aR:=bM hb aR;replace HW:=aa (HW.out.trans (hb.mono HW.out.size))
 have qP:=hv.mono (S':=fun b=>(S b\/w.heap.size<=b)/\b≠kr) (fun b hb=>hb.elim (fun h=>⟨Or.inl h.1,by have h1:=h.2;have h2:=r7.out;omega⟩) (fun h=>⟨Or.inr (ai eY.out.size h),by have h2:=Mg.out;omega⟩));obtain⟨b1,o1,l1,c1,q1,m1,n1,rfl,-,-,-⟩:=qP.open;obtain⟨x,hx⟩:∃ x,x=(lf 18 12 13 ts).op:=⟨_,rfl⟩;obtain⟨y,hy⟩:∃ x,x=(lf 18 12 13 ts).name:=⟨_,rfl⟩;rw[<-hx,<-hy] at qP ⊢;have HV:=aa qP;clear hv qP hx hy;obtain⟨⟨r0,r1,r2,r3,r4⟩,jU,jT,kP,kO,kN⟩:=ay aR.out;go_wp2_with fail;obtain⟨s1,s2⟩:=pC HW.out aR.out bO r7.out (.int .i64 x) (.bool b1) (.slice o1 l1 c1) (.string y) (.slice q1 m1 n1);(try simp only[aN,bx])
 exact aJ (v:=.agg #[.int .i64 x,.bool b1,.slice o1 l1 c1,.string y,.slice q1 m1 n1]) (by simp[results,Tryz.results27,go_sem,r0,r1,r2,r3,r4]) rfl ⟨_,rfl,((HV.out.grown (bJ (k:=kr) _ _ _ _ _) (KN.eK s1) (fun b hb e=>hb.2 (by injection e with e;exact e.symm))).mono (fun b hb=>hb.1)),s2⟩
mutual
def iH:F->List F
 | .node o z nm ks=>.node o z nm ks::jI ks
def jI:List F->List F
 | []=>[]
 | k::l=>iH k++jI l
end
theorem xJ (t:F):t ∈ iH t:=by obtain⟨o,z,nm,ks⟩:=t;rw[iH];simp
theorem qj {x:F}:∀ {l:List F},x ∈ jI l ↔ ∃ k ∈ l,x ∈ iH k
 | []=>by rw[jI];simp
 | k::l=>by
  rw[jI,gO,qj (l:=l)]
  simp
theorem GC {t x:F}:x ∈ iH t ↔ x=t\/∃ k ∈ t.kids,x ∈ iH k:=by
 obtain⟨o,z,nm,ks⟩:=t;rw[iH,aP,qj];rfl
mutual
theorem gT.GD {P:F->Prop}:∀ {t:F},gT P t->∀ x ∈ iH t,P x
 | .node o z nm ks,h,x,hx=>by
  rw[gT] at h;rw[iH] at hx;rcases List.mem_cons.1 hx with rfl | hx
  ·exact h.1
  exact dI.GD h.2 x hx
theorem dI.GD {P:F->Prop}:∀ {l:List F},dI P l->∀ x ∈ jI l,P x
 | [],_,x,hx=>by rw[jI] at hx;cases hx
 | k::l,h,x,hx=>by
  rw[dI] at h;rw[jI] at hx;rcases List.mem_append.1 hx with hx | hx
  ·exact gT.GD h.1 x hx
  exact dI.GD h.2 x hx
end
mutual
theorem yM {P:F->Prop}:∀ {t:F},(∀ x ∈ iH t,P x)->gT P t
 | .node o z nm ks,h=>by
  rw[gT];exact⟨h _ (by rw[iH];simp),rh fun x hx=>h x (by rw[iH];simp[hx])⟩
theorem rh {P:F->Prop}:∀ {l:List F},(∀ x ∈ jI l,P x)->dI P l
 | [],_=>by rw[dI];trivial
 | k::l,h=>by
  rw[dI];exact⟨yM fun x hx=>h x (by rw[jI];simp[hx]),rh fun x hx=>h x (by rw[jI];simp[hx])⟩
end
theorem wN {S:List F} (h:ua S) {t:F} (ht:t ∈ S):∀ x ∈ iH t,x ∈ S:=(yN h t ht).GD
mutual
theorem AZ:∀ (t:F),ua (iH t)
 | .node o z nm ks=>by
  intro u hu c hc;rw[iH] at hu ⊢;rcases List.mem_cons.1 hu with rfl | hu
  ·exact r_ _ (qj.2 ⟨c,hc,xJ c⟩)
  exact r_ _ (xI ks u hu c hc)
theorem xI:∀ (l:List F),ua (jI l)
 | []=>by intro u hu;rw[jI] at hu;cases hu
 | k::l=>by
  intro u hu c hc;rw[jI] at hu ⊢;rcases List.mem_append.1 hu with hu | hu
  ·exact dm _ (AZ k u hu c hc)
  exact List.mem_append_right _ (xI l u hu c hc)
end
theorem BV {x y z:F} (h:x ∈ iH y) (k:y ∈ iH z):x ∈ iH z:=wN (AZ z) k x h
theorem C4 {s:List F} {t x:F} (h:x ∈ s):x ∈ jB s t:=by
 obtain⟨m,e⟩:=sr s t;rw[e];exact dm _ h
theorem lU {s l:List F} {x:F} (h:x ∈ s):x ∈ eC s l:=by
 obtain⟨m,e⟩:=ju s l;rw[e];exact dm _ h
mutual
theorem sM:∀ (t:F) (s:List F),(∀ u ∈ jB s t,u ∉ s->∀ c ∈ u.kids,c ∈ jB s t)/\t ∈ jB s t
 | .node o z nm ks,s=>by
  rw[jB]
  split
  ·rename_i h
   exact⟨fun u hu hn=>absurd hu hn,h⟩
  rename_i h
  obtain⟨h1,h2⟩:=oA ks (s++[.node o z nm ks]);refine⟨fun u hu hn c hc=>?_,lU (by simp)⟩
  by_cases e:u=.node o z nm ks
  ·subst e;exact h2 c hc
  exact h1 u hu (by simp[hn,e]) c hc
theorem oA:∀ (l:List F) (s:List F),(∀ u ∈ eC s l,u ∉ s->∀ c ∈ u.kids,c ∈ eC s l)/\∀ k ∈ l,k ∈ eC s l
 | [],s=>by
  rw[eC];exact⟨fun u hu hn=>absurd hu hn,fun k hk=>by cases hk⟩
 | k::l,s=>by
  rw[eC];obtain⟨h1,h2⟩:=sM k s;obtain⟨h3,h4⟩:=oA l (jB s k);refine⟨fun u hu hn c hc=>?_,fun q hq=>?_⟩
  ·by_cases e:u ∈ jB s k
   ·exact lU (h1 u e hn c hc)
   exact h3 u hu e c hc
  rcases List.mem_cons.1 hq with rfl | hq
  ·exact lU h2
  exact h4 q hq
end
theorem AN {s:List F} (h:ua s) (t:F):ua (jB s t):=fun u hu c hc=>by
 by_cases e:u ∈ s
 ·exact C4 (h u e c hc)
 exact (sM t s).1 u hu e c hc
theorem C3 {s:List F} (h:ua s) (l:List F):ua (eC s l):=fun u hu c hc=>by
 by_cases e:u ∈ s
 ·exact lU (h u e c hc)
 exact (oA l s).1 u hu e c hc
theorem F1 (s:List F) (t:F):∀ x ∈ jB s t,x ∈ s\/x ∈ iH t:=
 (su (P:=fun x=>x ∈ s\/x ∈ iH t) t s (fun x hx=>.inl hx) (yM fun x hx=>.inr hx)).1
theorem C1 (s l:List F):∀ x ∈ eC s l,x ∈ s\/x ∈ jI l:=
 (nN (P:=fun x=>x ∈ s\/x ∈ jI l) l s (fun x hx=>.inl hx) (rh fun x hx=>.inr hx)).1
theorem Bu:ua []:=fun t h=>by cases h
theorem sn {t x:F}:x ∈ jB [] t ↔ x ∈ iH t:=by
 constructor
 ·intro h;rcases F1 [] t x h with h | h
  ·cases h
  exact h
 intro h;exact wN (AN Bu t) (sM t []).2 x h
theorem C2 {s l:List F} (hs:ua s) {x:F}:x ∈ eC s l ↔ x ∈ s\/∃ k ∈ l,x ∈ iH k:=by
 constructor
 ·intro h;rcases C1 s l x h with h | h
  ·exact .inl h
  exact .inr (qj.1 h)
 ·rintro (h | ⟨k,hk,h⟩)
  ·exact lU h
  exact wN (C3 hs l) ((oA l s).2 k hk) x h
theorem vW {t y:F}:y ∈ jk t ↔ ∃ x ∈ iH t,nb x=true/\y ∈ cg x:=by
 unfold jk;rw[Kf];constructor
 ·rintro⟨x,hx,hy⟩;rw[List.mem_filter] at hx;exact⟨x,sn.1 hx.1,hx.2,hy⟩
 rintro⟨x,hx,h,hy⟩;exact⟨x,List.mem_filter.2 ⟨sn.2 hx,h⟩,hy⟩
theorem vT {t y:F}:y ∈ uF t ↔ y ∈ jk t\/∃ x,x ∉ iH t/\cU x.op=2/\(∃ f ∈ jk t,x ∈ iH f)/\y ∈ dM x:=by
 rw[of_eq,gO];obtain⟨m,hm⟩:=ju (jB [] t) (jk t);have hnd:(jB [] t++m).Nodup:=by rw[<-hm];exact sk _ _ (sL t [] lQ)
 have hmem:∀ x,x ∈ m ↔ x ∉ iH t/\∃ f ∈ jk t,x ∈ iH f:=by
  intro x;have h1:x ∈ eC (jB [] t) (jk t) ↔ _:=C2 (AN Bu t);rw[hm,gO] at h1;constructor
  ·intro hx;have hn:x ∉ jB [] t:=fun h=>(List.nodup_append.1 hnd).2.2 x h x hx rfl
   exact⟨fun h=>hn (sn.2 h),(h1.1 (.inr hx)).resolve_left hn⟩
  rintro⟨hn,hf⟩;exact (h1.2 (.inr hf)).resolve_left fun h=>hn (sn.1 h)
 rw[hm,List.drop_left,Kf];constructor
 ·rintro (h | ⟨x,hx,hy⟩)
  ·exact .inl h
  rw[List.mem_filter] at hx;obtain⟨h1,h2⟩:=(hmem x).1 hx.1;exact .inr ⟨x,h1,of_decide_eq_true hx.2,h2,hy⟩
 ·rintro (h | ⟨x,h1,h2,h3,hy⟩)
  ·exact .inl h
  exact .inr ⟨x,List.mem_filter.2 ⟨(hmem x).2 ⟨h1,h3⟩,decide_eq_true h2⟩,hy⟩
theorem zL {x:F} (h:cU x.op=2):∀ y ∈ dM x,y ∈ cg x:=by
 intro y hy;have h9:x.op=8\/x.op=9\/x.op=10\/x.op=11:=by
  unfold cU at h;split at h
  ·omega
  split at h
  ·cases h
  cases h
 unfold cg;rcases h9 with e | e | e | e
 ·rw[if_pos e];exact dm _ hy
 ·rw[if_neg (by omega),if_pos e];exact hy
 ·rw[if_neg (by omega),if_neg (by omega),if_pos e];exact dm _ hy
 rw[if_neg (by omega),if_neg (by omega),if_neg (by omega),if_pos e];exact dm _ hy
theorem GQ {x t:F} (h:x ∈ iH t):∀ y ∈ uF x,y ∈ uF t:=by
 have h1:∀ y ∈ jk x,y ∈ jk t:=fun y hy=>by
  obtain⟨u,hu,h2,h3⟩:=vW.1 hy;exact vW.2 ⟨u,BV hu h,h2,h3⟩
 intro y hy;rcases vT.1 hy with hy | ⟨u,hn,hs,⟨f,hf,hu⟩,hy⟩
 ·exact vT.2 (.inl (h1 y hy))
 by_cases hut:u ∈ iH t
 ·exact vT.2 (.inl (vW.2 ⟨u,hut,decide_eq_true (by rw[hs];decide),zL hs y hy⟩))
 ·exact vT.2 (.inr ⟨u,hut,hs,⟨f,h1 f hf,hu⟩,hy⟩)
def xj:F:=.node 14 0 ⟨#[98,48]⟩ []
def jM (x y:F):F:=lf 18 12 13 [x,y,xj]
theorem of_bool {x:F} (hk:x.kids=[]) (hs:cU x.op=1):uF x=[]:=by
 have hnb:nb x=false:=decide_eq_false (by rw[hs];decide);have hv:jB [] x=[x]:=by rw[p8 (by simp),hk,eC];rfl
 have h1:jk x=[]:=by unfold jk;rw[hv,gX,hnb];rfl
 rw[of_eq,h1,eC,hv];rfl
theorem Df {x:F} (h:rt x=true) (ho:x.op=12\/x.op=13):x.kids=[]:=by
 obtain⟨o,z,nm,ks⟩:=x;have hp:=(gQ h).1;rcases ho with ho | ho
 ·have e:o=12:=ho;subst e;show ks=[]
  simpa [bK,di] using hp
 have e:o=13:=ho;subst e;show ks=[]
 simpa [bK,di] using hp
theorem II {x y:F} (h:x.op=13\/y.op=13):uF (jM x y)=[]:=by
 have e:jM x y=.node 13 0 ⟨#[]⟩ []:=by
  unfold jM lf;rw[if_pos (by rcases h with h | h<;>simp[h])]
 rw[e];exact of_bool rfl rfl
theorem IG {x y:F} (hx:x.op≠13) (hy:y.op≠13):jM x y=DM 18 12 ([x,y,xj].filter (fun t=>decide (t.op≠12))):=by
 unfold jM lf;have h1:decide (x.op=13)=false:=decide_eq_false hx;have h2:decide (y.op=13)=false:=decide_eq_false hy;have h3:decide (xj.op=13)=false:=rfl;rw[if_neg (by simp only[List.any_cons,List.any_nil,h1,h2,h3];decide)]
theorem Er {x y:F} (pT:rt x=true) (hx:x.op≠13) (hy:y.op≠13):∀ a ∈ uF x,a ∈ uF (jM x y):=by
 by_cases h12:x.op=12
 ·rw[of_bool (Df pT (.inl h12)) (by rw[h12];rfl)];intro a ha;cases ha
 refine GQ ?_;rw[IG hx hy,gX,if_pos (decide_eq_true h12),GC];right;refine⟨x,?_,xJ x⟩;have hb:∃ z l,[y,xj].filter (fun t=>decide (t.op≠12))=z::l:=by
  have h3:decide (xj.op≠12)=true:=rfl;by_cases Nr:y.op=12
  ·have h2:decide (y.op≠12)=false:=decide_eq_false (fun h=>h Nr);exact⟨xj,[],by rw[gX,h2,gX,h3];rfl⟩
  have h2:decide (y.op≠12)=true:=decide_eq_true Nr;exact⟨y,[xj],by rw[gX,h2,gX,h3];rfl⟩
 obtain⟨z,l,e⟩:=hb;rw[e];show x ∈ (F.node 18 0 ⟨#[]⟩ (x::z::l)).kids
 simp[F.kids]
theorem JO:rt xj=true/\Tm 4 xj:=⟨rfl,⟨.inl rfl,z4,fun _ _ _=>rfl,by decide,fun k hk=>by cases hk⟩⟩
theorem Cr {x y:F} (hx:rt x=true) (hy:rt y=true) (sx:cU x.op=1) (sy:cU y.op=1) (mx:Tm 4 x) (my:Tm 4 y):rt (jM x y)=true/\Tm 5 (jM x y):=by
 have all:∀ t ∈ [x,y,xj],rt t=true/\cU t.op=1/\Tm 4 t:=fun t ht=>by
  simp only[aP,aK,or_false] at ht;rcases ht with rfl | rfl | rfl
  ·exact⟨hx,sx,mx⟩
  ·exact⟨hy,sy,my⟩
  exact⟨JO.1,rfl,JO.2⟩
 unfold jM lf;split
 ·exact⟨rfl,⟨rfl,z4,fun _ _ _=>rfl,(show ([]:List F).length<=3 from ah 3),fun k hk=>by cases hk⟩⟩
 have hf:∀ t ∈ [x,y,xj].filter (fun t=>decide (t.op≠12)),rt t=true/\cU t.op=1/\Tm 4 t:=fun t ht=>all t (List.mem_filter.1 ht).1
 have hl:([x,y,xj].filter (fun t=>decide (t.op≠12))).length<=3:=pJ _ _;generalize [x,y,xj].filter (fun t=>decide (t.op≠12))=rs at hf hl;match rs,hf,hl with
 | [],_,_=>exact⟨rfl,⟨rfl,z4,fun _ _ _=>rfl,(show ([]:List F).length<=3 from ah 3),fun k hk=>by cases hk⟩⟩
 | [t],hf,_=>exact⟨(hf t (by simp)).1,(hf t (by simp)).2.2.up (by decide)⟩
 | t::u::l,hf,hl =>
  refine⟨?_,⟨rfl,z4,fun _ _ _=>rfl,hl,fun k hk=>(hf k hk).2.2⟩⟩;show (dw 18 0 (di (t::u::l)) && rts (t::u::l))=true
  rw[jn,Bool.and_eq_true];refine⟨?_,List.all_eq_true.2 fun k hk=>(hf k hk).1⟩;have hk:∀ k ∈ t::u::l,cU k.op=1:=fun k hk=>(hf k hk).2.1
  generalize t::u::l=q at hk;unfold dw bK di;simp;exact hk
theorem X_ {w:af} {S:Nat->Prop} {d g:Nat} {T:aZ} {u1 u2 u3:FU} {t1 t2 t3:F} (h:w.heap[g]?=some (.cells (fC u1++(fC u2++fC u3)).toArray T (0,0))) (h1:FT w S d u1 t1) (h2:FT w S d u2 t2) (h3:FT w S d u3 t3) (hg:S g):FL w S d (.slice (some ⟨g,0,none⟩) 3 3) [t1,t2,t3]:=by
 refine⟨[(u1,t1),(u2,t2),(u3,t3)],⟨_,_,rfl,⟨ag _,by decide,fun e=>by cases e⟩,fun _ a ha=>by injection ha with ha;subst ha;exact hg,fun i hi=>?_⟩,rfl⟩;have oV:i<3:=hi;have:i=0\/i=1\/i=2:=by omega
 rcases this with rfl | rfl | rfl
 ·refine⟨⟨_,rfl,fun j v hj=>?_⟩,h1⟩;have hj':(fC u1)[j]?=some v:=hj;have Mz:j<5:=by have:=(List.getElem?_eq_some_iff.1 hj').1;simpa [fC] using this
  have:j=0\/j=1\/j=2\/j=3\/j=4:=by omega
  rcases this with rfl | rfl | rfl | rfl | rfl<;>(injection hj' with hj';subst hj';exact aq h _ rfl)
 ·refine⟨⟨_,rfl,fun j v hj=>?_⟩,h2⟩;have hj':(fC u2)[j]?=some v:=hj;have Mz:j<5:=by have:=(List.getElem?_eq_some_iff.1 hj').1;simpa [fC] using this
  have:j=0\/j=1\/j=2\/j=3\/j=4:=by omega
  rcases this with rfl | rfl | rfl | rfl | rfl<;>(injection hj' with hj';subst hj';exact aq h _ rfl)
 refine⟨⟨_,rfl,fun j v hj=>?_⟩,h3⟩;have hj':(fC u3)[j]?=some v:=hj;have Mz:j<5:=by have:=(List.getElem?_eq_some_iff.1 hj').1;simpa [fC] using this
 have:j=0\/j=1\/j=2\/j=3\/j=4:=by omega
 rcases this with rfl | rfl | rfl | rfl | rfl<;>(injection hj' with hj';subst hj';exact aq h _ rfl)
theorem KL:xM 9<=900000:=by decide
theorem AO {t:F} (h:Tm 9 t):(g_ t).length<=900000:=ai (zk 9 t h) KL
open Classical in
theorem Km {a b:F} (ha:rt a=true/\Tm 9 a) (hb:rt b=true/\Tm 9 b):(g_ a==g_ b)=decide (a=b):=by
 by_cases e:a=b
 ·subst e;simp
 rw[decide_eq_false e];exact beq_eq_false_iff_ne.2 fun h=>e (uS ha.2.g hb.2.g ha.1 hb.1 h)
attribute [local go_sem] cL cK cJ cI
theorem C9 (o:Int) (b:Bool) (ao:Option cu) (l c:Nat) (nm:ByteArray) (ko:Option cu) (kl kc:Nat) (w:af) (h:ld w 4 ⟨o,b,ao,l,c,nm,ko,kl,kc⟩) :
  aV aj 13 #[.agg #[.int .i64 o,.bool b,.slice ao l c,.string nm,.slice ko kl kc],.int .i64 1,.int .i64 4] w (jA 4 1 w):=Jb 3 (by decide) 1 o b ao l c nm ko kl kc w (Or.inr (Or.inl rfl)) h
def UT:FU:=⟨14,n0,⟨#[98,48]⟩,none,0,0⟩
theorem OO (w:af):FT w tS 4 UT xj:=by
 exact FT.up (d:=1) (d':=4) ⟨⟨rfl,⟨by decide,by decide⟩,rfl,rfl⟩,nB w,[],rfl,⟨rfl,ag _,ah _,fun _=>rfl⟩,fun h=>absurd rfl h,fun i hi=>absurd hi (an i)⟩ (by decide)
open Classical in
theorem tM (x y:RU) (w:af) (hx:∀ d,ld w d x) (hy:∀ d,ld w d y) (ht:vG w) :
  aV aj 6 #[rV x,rV y] w fun e w'=>e=.returned (.bool true)/\aB w.heap.size w w':=by
 obtain⟨xo,xb,eB,xl,xc,eA,eI,d_,ei⟩:=x;obtain⟨yo,yb,FY,yl,yc,FQ,FV,FW,FX⟩:=y;have HX:=aa (hx 4);have HY:=aa (hy 4);have HT:=aa ht;unfold rV;simp only;clear hx hy ht;have HW:=aa (ax w.heap.size w);go_enter Tryz.func6,Tryz.ntmps6;obtain⟨x1,kf,ef,ki,cn,jC,aG⟩:=aW w #[.int .i64 xo,.bool xb,.slice eB xl xc,.string eA,.slice eI d_ ei] 29;replace HW:=aa (HW.out.trans (cn.out.mono HW.out.size));replace HX:=aa (HX.out.below cn.out);replace HY:=aa (HY.out.below cn.out);replace HT:=aa (HT.out.below cn.out);obtain⟨x2,kg,eg,ekg,Fu,hkg,PD⟩:=aW x1 #[.int .i64 yo,.bool yb,.slice FY yl yc,.string FQ,.slice FV FW FX] 29;replace aG:=bM Fu.out aG;replace HW:=aa (HW.out.trans (Fu.out.mono HW.out.size))
 replace HX:=aa (HX.out.below Fu.out);replace HY:=aa (HY.out.below Fu.out);replace HT:=aa (HT.out.below Fu.out);go_wp2_with fail;refine (Iv x2 HT.out).mono ?_;rintro e x3 ⟨rfl,hb⟩;replace aG:=bM hb aG;replace PD:=bM hb PD;replace HW:=aa (HW.out.trans (hb.mono HW.out.size));replace HX:=aa (HX.out.below hb);replace HY:=aa (HY.out.below hb);replace HT:=aa (HT.out.below hb);go_upto_region 3 with fail;have Xr:=ae aG.out;have Xq:=ae PD.out;have iC:Hid (∀ i,i<6->∀ j,j<6->i≠j->(fun i=>[15,16,17,18,5,6].getD i 0) i≠(fun i=>[15,16,17,18,5,6].getD i 0) j):=aa (by decide);have Vq:Hid (∀ i,i<6->(fun i=>[15,16,17,18,5,6].getD i 0) i<19):=aa (by decide)
 refine fP.region (by kernel_rfl) [[],[0],[],[2],[],[],[0,1,2,3,4,5],[0,1,2,3,4,5,6]] 6 (by kernel_rfl) (by kernel_rfl) (TJ x3 _ (fun i=>[15,16,17,18,5,6].getD i 0) (.agg #[.int .i64 xo,.bool xb,.slice eB xl xc,.string eA,.slice eI d_ ei]) (.agg #[.int .i64 yo,.bool yb,.slice FY yl yc,.string FQ,.slice FV FW FX]) 4 4 (fun t=>rt t=true/\cU t.op=1/\Tm 4 t) (fun t=>rt t=true/\cU t.op=1/\Tm 4 t)) (TJ.start _ _ _ _ _ _ _ _ _) ?_ ?_
 ·intro d T wc i o hJ ho hi hd aC cE;have hstep:=fun v (w2:af)=>hJ.step (v:=v) (w':=w2) (fun i j hi hj=>iC.out i hi j hj) (fun i hi=>az (Vq.out i hi) (of_decide_eq_true rfl)) i hi hd
  obtain rfl | rfl | rfl | rfl | rfl | rfl:i=0\/i=1\/i=2\/i=3\/i=4\/i=5:=by omega
  ·injection ho with ho;subst ho;have es:T[2]?=some (.pointer (some ⟨kf,0,none⟩)):=(hJ.gP 2 (by decide)).trans (by rfl);have bB:=(hJ.be.block _ Xr).trans aG.out;have q0:=aq (v:=.int .i64 xo) bB 0 rfl;have q1:=aq (v:=.bool xb) bB 1 rfl;have q2:=aq (v:=.slice eB xl xc) bB 2 rfl;have q3:=aq (v:=.string eA) bB 3 rfl;have q4:=aq (v:=.slice eI d_ ei) bB 4 rfl;clear bB hJ aC cE;refine⟨rfl,fun K hK=>?_⟩;have bA:=aa hstep;clear hstep;go_simp;exact hK.out _ _ (bA.out _ _ (ax _ _) (fun _=>rfl) (fun h=>absurd h (by decide)) (fun h=>absurd h (by decide)) (fun h=>absurd h (by decide)) (fun h=>absurd h (by decide)) (fun h=>absurd h (by decide)))
  ·injection ho with ho;subst ho;have es:T[15]?=some (.agg #[.int .i64 xo,.bool xb,.slice eB xl xc,.string eA,.slice eI d_ ei]):=hJ.v0 (aC 0 (by rfl));have iB:=hJ.be;clear hJ aC cE;refine⟨rfl,fun K hK=>?_⟩;have bA:=aa hstep;clear hstep;go_simp;refine (C9 _ _ _ _ _ _ _ _ _ wc (HX.out.below iB)).mono ?_;rintro e w' ⟨v,t,rfl,⟨y,rfl,hy⟩,h2,h3,h4,hb'⟩;exact hK.out _ _ (bA.out _ _ hb' (fun h=>absurd h (by decide)) (fun h=>absurd h (by decide)) (fun _=>⟨y,t,rfl,hy,h2,h3,h4⟩) (fun h=>absurd h (by decide)) (fun h=>absurd h (by decide)) (fun h=>absurd h (by decide)))
  ·injection ho with ho;subst ho;have es:T[3]?=some (.pointer (some ⟨kg,0,none⟩)):=(hJ.gP 3 (by decide)).trans (by rfl);have bB:=(hJ.be.block _ Xq).trans PD.out;have q0:=aq (v:=.int .i64 yo) bB 0 rfl;have q1:=aq (v:=.bool yb) bB 1 rfl;have q2:=aq (v:=.slice FY yl yc) bB 2 rfl;have q3:=aq (v:=.string FQ) bB 3 rfl;have q4:=aq (v:=.slice FV FW FX) bB 4 rfl;clear bB hJ aC cE;refine⟨rfl,fun K hK=>?_⟩;have bA:=aa hstep;clear hstep;go_simp;exact hK.out _ _ (bA.out _ _ (ax _ _) (fun h=>absurd h (by decide)) (fun _=>rfl) (fun h=>absurd h (by decide)) (fun h=>absurd h (by decide)) (fun h=>absurd h (by decide)) (fun h=>absurd h (by decide)))
  ·injection ho with ho;subst ho;have es:T[17]?=some (.agg #[.int .i64 yo,.bool yb,.slice FY yl yc,.string FQ,.slice FV FW FX]):=hJ.v2 (aC 2 (by rfl));have iB:=hJ.be;clear hJ aC cE;refine⟨rfl,fun K hK=>?_⟩;have bA:=aa hstep;clear hstep;go_simp;refine (C9 _ _ _ _ _ _ _ _ _ wc (HY.out.below iB)).mono ?_;rintro e w' ⟨v,t,rfl,⟨y,rfl,hy⟩,h2,h3,h4,hb'⟩;exact hK.out _ _ (bA.out _ _ hb' (fun h=>absurd h (by decide)) (fun h=>absurd h (by decide)) (fun h=>absurd h (by decide)) (fun _=>⟨y,t,rfl,hy,h2,h3,h4⟩) (fun h=>absurd h (by decide)) (fun h=>absurd h (by decide)))
  ·injection ho with ho;subst ho;clear hJ aC cE;refine⟨rfl,fun K hK=>?_⟩;have bA:=aa hstep;clear hstep;go_simp;exact hK.out _ _ (bA.out _ _ ((ax _ _).alloc (ag _) _) (fun h=>absurd h (by decide)) (fun h=>absurd h (by decide)) (fun h=>absurd h (by decide)) (fun h=>absurd h (by decide)) (fun _=>⟨rfl,bz wc _⟩) (fun h=>absurd h (by decide)))
  injection ho with ho;subst ho;clear hJ aC cE;refine⟨rfl,fun K hK=>?_⟩;have bA:=aa hstep;clear hstep;go_simp;exact hK.out _ _ (bA.out _ _ ((ax _ _).alloc (ag _) _) (fun h=>absurd h (by decide)) (fun h=>absurd h (by decide)) (fun h=>absurd h (by decide)) (fun h=>absurd h (by decide)) (fun h=>absurd h (by decide)) (fun _=>⟨rfl,bz wc _⟩))
 intro T wt hJ;obtain⟨y1,t1,y3,t3,ga,gb,⟨a1,a3,a4,a5⟩,zX,Ur,⟨hr1,hs1,Ib⟩,⟨TX,Hz,Uc⟩,⟨Uk,Uj,pF⟩,hca,hcb⟩:=hJ.all;have ir:=hJ.be;have TR:=hJ.v0 rfl;have qP:=hJ.v2 rfl;have hfr:=Lw (s0:=15) (s1:=16) (s2:=17) (s3:=18) (s4:=5) (s5:=6) hJ.sz (by decide) (by intro s hs;simp only[aP,aK,or_false] at hs;rcases hs with rfl | rfl | rfl | rfl | rfl | rfl<;>exact of_decide_eq_true rfl) TR a1 qP a3 a4 a5 (fun j h0 h1 h2 h3 h4 h5=>hJ.gP j (fun i hi=>by have h6:i=0\/i=1\/i=2\/i=3\/i=4\/i=5:=(by omega);rcases h6 with rfl | rfl | rfl | rfl | rfl | rfl<;>assumption));clear hJ iC Vq TR qP a1 a3 a4 a5;subst hfr;simp only[nX,fV,List.setIfInBounds_toArray,List.set_cons_zero,List.set_cons_succ,List.drop_succ_cons,List.drop_zero];unfold I8 at hca hcb
 have pS:=aa hca;have oP:=aa hcb;have Ui:gb≠ga:=fun e=>pF e.symm
 clear hca hcb;obtain⟨⟨u0,u1,u2,u3,u4⟩,Se,Sd,Sc,Sb,Sa⟩:=ay pS.out;obtain⟨⟨q0,q1,q2,q3,q4⟩,X9,X8,X7,X6,X5⟩:=ay oP.out;go_upto_region 4 with fail;clear u0 u1 u2 u3 u4 Se Sd Sc Sb Sa q0 q1 q2 q3 q4 X9 X8 X7 X6 X5;have MD:=j_ pS.out (.int .i64 y1.k) (.bool (decide (y1.n.z<0))) (.slice y1.n.o y1.n.l y1.n.c) (.string y1.nm) (.slice y1.ko y1.kl y1.kc);have P5:Fr 29 wt _:=.aI (bJ (w:=wt) (k:=ga) (.int .i64 y1.k) (.bool (decide (y1.n.z<0))) (.slice y1.n.o y1.n.l y1.n.c) (.string y1.nm) (.slice y1.ko y1.kl y1.kc)) (fun j hj=>by injection hj with hj;subst hj;exact⟨_,pS.out,bO⟩);have ic:=bJ (w:=wt) (k:=ga) (.int .i64 y1.k) (.bool (decide (y1.n.z<0))) (.slice y1.n.o y1.n.l y1.n.c) (.string y1.nm) (.slice y1.ko y1.kl y1.kc)
 obtain⟨W1,rO⟩:∃ q,q=((((wt.setCell ⟨ga,0,none⟩ (.int .i64 y1.k)).setCell ⟨ga,1,none⟩ (.bool (decide (y1.n.z<0)))).setCell ⟨ga,2,none⟩ (.slice y1.n.o y1.n.l y1.n.c)).setCell ⟨ga,3,none⟩ (.string y1.nm)).setCell ⟨ga,4,none⟩ (.slice y1.ko y1.kl y1.kc):=⟨_,rfl⟩;rw[<-rO] at MD P5 ic ⊢;have gp:=(ic.block gb (ae oP.out) (fun e=>by injection e with e;exact pF e.symm)).trans oP.out;have e_:=j_ gp (.int .i64 y3.k) (.bool (decide (y3.n.z<0))) (.slice y3.n.o y3.n.l y3.n.c) (.string y3.nm) (.slice y3.ko y3.kl y3.kc);have hrb:Fr 29 W1 _:=.aI (bJ (w:=W1) (k:=gb) (.int .i64 y3.k) (.bool (decide (y3.n.z<0))) (.slice y3.n.o y3.n.l y3.n.c) (.string y3.nm) (.slice y3.ko y3.kl y3.kc)) (fun j hj=>by injection hj with hj;subst hj;exact⟨_,gp,bO⟩)
 have oW:=bJ (w:=W1) (k:=gb) (.int .i64 y3.k) (.bool (decide (y3.n.z<0))) (.slice y3.n.o y3.n.l y3.n.c) (.string y3.nm) (.slice y3.ko y3.kl y3.kc);obtain⟨W2,iX⟩:∃ q,q=((((W1.setCell ⟨gb,0,none⟩ (.int .i64 y3.k)).setCell ⟨gb,1,none⟩ (.bool (decide (y3.n.z<0)))).setCell ⟨gb,2,none⟩ (.slice y3.n.o y3.n.l y3.n.c)).setCell ⟨gb,3,none⟩ (.string y3.nm)).setCell ⟨gb,4,none⟩ (.slice y3.ko y3.kl y3.kc):=⟨_,rfl⟩;rw[<-iX] at e_ hrb oW ⊢;have Eo:=(oW.block ga (ae MD) (fun e=>by injection e with e;exact Ui e.symm)).trans MD;have Qc:=((zX.grown ic (KN.eK P5) (fun b hb e=>hb.1 (by injection e with e;exact e.symm))).grown oW (KN.eK hrb) (fun b hb e=>hb.2 (by injection e with e;exact e.symm))).mono (S':=tS) (fun _ _=>trivial)
 have Og:=((Ur.grown ic (KN.eK P5) (fun b hb e=>hb.1 (by injection e with e;exact e.symm))).grown oW (KN.eK hrb) (fun b hb e=>hb.2 (by injection e with e;exact e.symm))).mono (S':=tS) (fun _ _=>trivial);have hb:=bF (bF ir ic Uk) oW Uj;clear aG;clear PD;clear zX Ur P5 hrb ic oW gp rO iX ir;replace HW:=aa (HW.out.trans (hb.mono HW.out.size));replace HT:=aa (HT.out.below hb);clear hb;replace pS:Hid (W2.heap[ga]?=some (.cells #[.int .i64 y1.k,.bool (decide (y1.n.z<0)),.slice y1.n.o y1.n.l y1.n.c,.string y1.nm,.slice y1.ko y1.kl y1.kc] 29 (0,0))):=aa Eo;replace oP:Hid (W2.heap[gb]?=some (.cells #[.int .i64 y3.k,.bool (decide (y3.n.z<0)),.slice y3.n.o y3.n.l y3.n.c,.string y3.nm,.slice y3.ko y3.kl y3.kc] 29 (0,0))):=aa e_;clear MD Eo e_
 obtain⟨ka,hka⟩:∃ k,k=ga:=⟨_,rfl⟩;obtain⟨kb,hkb⟩:∃ k,k=gb:=⟨_,rfl⟩;rw[<-hka] at pS ⊢;rw[<-hkb] at oP ⊢;clear hka hkb Uk Uj pF Ui;have I3:=aa Qc;have AF:=aa Og;have J':Hid (y1.k=t1.op):=aa (by obtain⟨⟨k1,-,-,-⟩,-⟩:=id Qc;exact k1);have SU:Hid (y3.k=t3.op):=aa (by obtain⟨⟨k1,-,-,-⟩,-⟩:=id Og;exact k1);have Fi:Hid (FC W2 tS 4 (.agg #[.int .i64 y1.k,.bool (decide (y1.n.z<0)),.slice y1.n.o y1.n.l y1.n.c,.string y1.nm,.slice y1.ko y1.kl y1.kc]) t1):=aa ⟨y1,rfl,Qc⟩;clear Qc Og;clear HX;clear HY;have Mm:=aa (Cr hr1 TX hs1 Hz Ib Uc);have QG:Hid (t1.op≠13->t3.op≠13->∀ a ∈ uF t1,a ∈ uF (jM t1 t3)):=aa (fun h g=>Er hr1 h g)
 have S0:Hid (t1.op=13\/t3.op=13->uF (jM t1 t3)=[]):=aa II;have Ph:=aa hr1;have J_:=aa Ib;clear hr1 hs1 Ib TX Hz Uc;obtain⟨ZS,hzs⟩:∃ z,z=uF (jM t1 t3):=⟨_,rfl⟩;rw[<-hzs] at QG S0;have U':=aa hzs;obtain⟨N2,x_⟩:∃ n,n=ZS.length:=⟨_,rfl⟩;have Me:=aa x_;clear hzs x_;have Jq:=ae pS.out;have yf:=ae oP.out;have fO:Hid (∀ q,q<0->(fun q=>0) q<W2.heap.size):=aa (fun q h=>absurd h (an _));refine R7.region (by kernel_rfl) [[],[],[],[0,1,2],[0,1,2,3],[0,1,2,3,4],[0,1,2,3,4,5]] [] [] (fun q=>0) 0 7 (by kernel_rfl) (by kernel_rfl) (by rfl) fO.out (fun q q' h h' hn=>absurd hn (by omega)) ?_;refine R7.aF.dL ?_ (by rfl) (fun T xs wr hA=>?_) ?_;rotate_left 1
 ·have e5:=hA.pre 5 (by kernel_rfl);simp only[kM,lO,lF] at e5;have bB:wr.heap[ka]?=_:=(hA.bl _ Jq (fun q h=>absurd h (an _))).trans pS.out;have q0:=aq (v:=.int .i64 y1.k) bB 0 rfl;have q1:=aq (v:=.bool (decide (y1.n.z<0))) bB 1 rfl;have q2:=aq (v:=.slice y1.n.o y1.n.l y1.n.c) bB 2 rfl;have q3:=aq (v:=.string y1.nm) bB 3 rfl;have q4:=aq (v:=.slice y1.ko y1.kl y1.kc) bB 4 rfl;clear bB;clear hA;refine⟨(by rfl),?_⟩;go_simp<;>(try with_reducible rfl)
 refine R7.aF.dL ?_ (by rfl) (fun T xs wr hA=>?_) ?_;rotate_left 1
 ·have e6:=hA.pre 6 (by kernel_rfl);simp only[kM,lO,lF] at e6;have bB:wr.heap[kb]?=_:=(hA.bl _ yf (fun q h=>absurd h (an _))).trans oP.out;have q0:=aq (v:=.int .i64 y3.k) bB 0 rfl;have q1:=aq (v:=.bool (decide (y3.n.z<0))) bB 1 rfl;have q2:=aq (v:=.slice y3.n.o y3.n.l y3.n.c) bB 2 rfl;have q3:=aq (v:=.string y3.nm) bB 3 rfl;have q4:=aq (v:=.slice y3.ko y3.kl y3.kc) bB 4 rfl;clear bB;clear hA;refine⟨(by rfl),?_⟩;go_simp<;>(try with_reducible rfl)
 refine R7.aF.call (fun xs v w=>v=.agg #[.int .i64 14,.bool false,.slice none 0 0,.string ⟨#[98,48]⟩,.slice none 0 0]) (fun _ _ _ _ h _=>h) (fun _ _ _ _ _ h _ _=>h) (by rfl) (fun T xs wr hA=>?_) ?_
 ·have nH:=(hA.be 0 (ah _) (fun _ _=>ah _)).size;have gq:=ck (hA.be W2.heap.size (ag _) (fun q h=>absurd h (an q)));clear hA;refine⟨(by rfl),fun K hK=>?_⟩;go_simp;refine (I9 ⟨#[98,48]⟩ 1 wr).mono ?_;rintro e w' ⟨rfl,hb'⟩;exact hK.out _ _ rfl hb'
 refine R7.aF.call (fun xs v w=>∃ g,v=.slice (some ⟨g,0,none⟩) 3 3/\FL w tS 4 (.slice (some ⟨g,0,none⟩) 3 3) [t1,t3,xj]) (fun _ _ _ _ h hb=>by obtain⟨g,h1,h2⟩:=h;exact⟨g,h1,h2.below hb⟩) (fun _ _ _ _ _ _ h _=>by obtain⟨q,hq,_⟩:=h;exact absurd hq (an _)) (by rfl) (fun T xs wr hA=>?_) ?_
 ·have nH:=(hA.be 0 (ah _) (fun _ _=>ah _)).size;have yB:=hA.tm 0 19 (by rfl) (by rfl);have f19:xs 0=_:=hA.fa 0 (by rfl);(try simp (disch:=first | rfl | decide) only [R7.au] at f19);rw[f19] at yB;clear f19;have EG:=hA.tm 1 20 (by rfl) (by rfl);have f20:xs 1=_:=hA.fa 1 (by rfl);(try simp (disch:=first | rfl | decide) only [R7.au] at f20);rw[f20] at EG;clear f20;have CO:=hA.tm 2 21 (by rfl) (by rfl);have f21:xs 2=(.agg #[.int .i64 14,.bool false,.slice none 0 0,.string ⟨#[98,48]⟩,.slice none 0 0]):=hA.fa 2 (by rfl);rw[f21] at CO;clear f21;have gq:=ck (hA.be W2.heap.size (ag _) (fun q h=>absurd h (an q)));have sE:=I3.out.below gq;have XG:=AF.out.below gq;clear hA;refine⟨(by rfl),fun K hK=>?_⟩;go_simp
  have hal:aB wr.heap.size wr (wr.alloc (.cells #[.int .i64 y1.k,.bool (decide (y1.n.z<0)),.slice y1.n.o y1.n.l y1.n.c,.string y1.nm,.slice y1.ko y1.kl y1.kc,.int .i64 y3.k,.bool (decide (y3.n.z<0)),.slice y3.n.o y3.n.l y3.n.c,.string y3.nm,.slice y3.ko y3.kl y3.kc,.int .i64 14,.bool false,.slice none 0 0,.string ⟨#[98,48]⟩,.slice none 0 0] 29)):=(ax _ _).alloc (ag _) _;exact hK.out _ _ ⟨_,rfl,X_ (u1:=y1) (u2:=y3) (u3:=UT) (bz wr _) (sE.below hal) (XG.below hal) (OO _) trivial⟩ hal
 refine R7.aF.call (fun xs v w=>∃ x,v=.agg x/\FC w tS 5 (.agg x) (jM t1 t3)) (fun _ _ _ _ h hb=>by obtain⟨g,h1,h2⟩:=h;exact⟨g,h1,h2.below hb⟩) (fun _ _ _ _ _ _ h _=>by obtain⟨q,hq,_⟩:=h;exact absurd hq (an _)) (by rfl) (fun T xs wr hA=>?_) ?_
 ·have nH:=(hA.be 0 (ah _) (fun _ _=>ah _)).size;have CN:=hA.tm 3 22 (by rfl) (by rfl);have gq:=ck (hA.be W2.heap.size (ag _) (fun q h=>absurd h (an q)));have Og:∃ g,(xs 3)=.slice (some ⟨g,0,none⟩) 3 3/\FL wr tS 4 (.slice (some ⟨g,0,none⟩) 3 3) [t1,t3,xj]:=hA.fa 3 (by rfl);obtain⟨g3,e3,h3⟩:=Og;rw[e3] at CN;clear hA;refine⟨(by rfl),fun K hK=>?_⟩;go_simp;refine (IJ (some ⟨g3,0,none⟩) 3 3 [t1,t3,xj] tS 4 wr h3 (by simp) (by decide)).mono ?_;rintro e w' ⟨v,rfl,hv,hb'⟩;obtain⟨x,rfl⟩:=hv.nT;exact hK.out _ _ ⟨x,rfl,hv.mono (fun _ _=>trivial)⟩ hb'
 refine R7.aF.call (fun xs v w=>∃ o c,v=.slice o N2 c/\(N2<=c/\c<=9223372036854775807)/\FL w tS 9 (.slice o N2 c) ZS) (fun _ _ _ _ h hb=>by obtain⟨o,c,h1,h2,h3⟩:=h;exact⟨o,c,h1,h2,h3.below hb⟩) (fun _ _ _ _ _ _ h _=>by obtain⟨q,hq,_⟩:=h;exact absurd hq (an _)) (by rfl) (fun T xs wr hA=>?_) ?_
 ·have nH:=(hA.be 0 (ah _) (fun _ _=>ah _)).size;have Cl:=hA.tm 4 23 (by rfl) (by rfl);have gq:=ck (hA.be W2.heap.size (ag _) (fun q h=>absurd h (an q)));have Ny:=HT.out.below gq;have XR:∃ x,(xs 4)=.agg x/\FC wr tS 5 (.agg x) (jM t1 t3):=hA.fa 4 (by rfl);obtain⟨UU,e4,h4⟩:=XR;rw[e4] at Cl;clear hA;refine⟨(by rfl),fun K hK=>?_⟩;go_simp;refine (vU 5 (.agg UU) (jM t1 t3) wr h4 (by decide) Mm.out.1 Mm.out.2.g (ai (zy 5 _ Mm.out.2) JL) (Jj Mm.out.1 Mm.out.2) Ny).mono ?_;rintro e w' ⟨v,rfl,hv,hb'⟩;rw[<-U'.out] at hv;obtain⟨ko,kc,rfl,h1,h2,-⟩:=hv.form;rw[<-Me.out] at hv h1 ⊢;exact hK.out _ _ ⟨ko,kc,rfl,⟨h1,h2⟩,hv⟩ hb'
 refine R7.aF.dL ?_ (by rfl) (fun T xs wr hA=>?_) ?_;rotate_left 1
 ·have Ck:=hA.tm 5 24 (by rfl) (by rfl);clear hA;refine⟨(by rfl),?_⟩;go_simp<;>(try with_reducible rfl)
 refine R7.aF.done (fun xs x4 hL=>?_);obtain⟨⟨iB,cS⟩,hf,-,-⟩:=hL;have f0:xs 0=_:=hf 0 (by decide);(try simp (disch:=first | rfl | decide) only [R7.au] at f0);have f1:xs 1=_:=hf 1 (by decide);(try simp (disch:=first | rfl | decide) only [R7.au] at f1);have f2:xs 2=(.agg #[.int .i64 14,.bool false,.slice none 0 0,.string ⟨#[98,48]⟩,.slice none 0 0]):=hf 2 (by decide);have F3:∃ g,(xs 3)=.slice (some ⟨g,0,none⟩) 3 3/\FL x4 tS 4 (.slice (some ⟨g,0,none⟩) 3 3) [t1,t3,xj]:=hf 3 (by decide);have F4:∃ x,(xs 4)=.agg x/\FC x4 tS 5 (.agg x) (jM t1 t3):=hf 4 (by decide);have F5:∃ o c,(xs 5)=.slice o N2 c/\(N2<=c/\c<=9223372036854775807)/\FL x4 tS 9 (.slice o N2 c) ZS:=hf 5 (by decide);have f6:xs 6=_:=hf 6 (by decide)
 (try simp (disch:=first | rfl | decide) only [R7.au] at f6);have hb0:aB 0 W2 x4:=ck (iB 0 (ah _) (fun _ _=>ah _));have jl:∀ j,j<W2.heap.size->(∀ q,q<0->(fun q=>0) q≠j)->x4.heap[j]?=W2.heap[j]?:=cS;clear iB cS hf;have hb:aB W2.heap.size W2 x4:=⟨hb0.os,hb0.tape,hb0.output,hb0.size,fun q hq=>jl q hq (fun q h=>absurd h (an _))⟩;refine R7.lW ?_;simp only[R7.fill,AU,AT,AS,f0,f1,f2,f6];clear hb0 jl fO Jq yf f0 f1 f2 f6;replace pS:=bM hb pS;replace oP:=bM hb oP;replace HW:=aa (HW.out.trans (hb.mono HW.out.size));replace HT:=aa (HT.out.below hb);replace Fi:=aa (Fi.out.below hb);replace hb:=aa hb;obtain⟨g3,e3,-⟩:=F3;obtain⟨UU,e4,-⟩:=F4;obtain⟨zo,zc,e5,⟨iq,mP⟩,Q6⟩:=F5;try rw[e3]
 try rw[e4]
 try rw[e5]
 have Sy:=aa Q6;clear e3 e4 e5 Q6;obtain⟨kx,P8⟩:∃ q,q=y1.k:=⟨_,rfl⟩;obtain⟨ky,pU⟩:∃ q,q=y3.k:=⟨_,rfl⟩;rw[<-P8] at J' Fi pS;rw[<-pU] at SU oP;clear P8 pU I3 AF;obtain⟨⟨u0,u1,u2,u3,u4⟩,Se,Sd,Sc,Sb,Sa⟩:=ay pS.out;obtain⟨⟨v0,v1,v2,v3,v4⟩,R_,X3,X0,XZ,XY⟩:=ay oP.out;by_cases hx13:kx=13
 ·have e1:(kx==13)=true:=by rw[hx13];rfl
  have H_:N2=0:=by rw[Me.out,S0.out (.inl (by rw[<-J'.out];exact hx13))];rfl
  have e0:(((N2:Nat):Int)==0)=true:=by rw[H_];rfl
  clear H_;go_wp2_with fail;go_ret;exact⟨rfl,HW.out⟩
 have e1:(kx==13)=false:=beq_eq_false_iff_ne.2 hx13;by_cases hy13:ky=13
 ·have e2:(ky==13)=true:=by rw[hy13];rfl
  have H_:N2=0:=by rw[Me.out,S0.out (.inr (by rw[<-SU.out];exact hy13))];rfl
  have e0:(((N2:Nat):Int)==0)=true:=by rw[H_];rfl
  clear H_;go_wp2_with fail;go_ret;exact⟨rfl,HW.out⟩
 have e2:(ky==13)=false:=beq_eq_false_iff_ne.2 hy13;have y8:=aa (QG.out (by rw[<-J'.out];exact hx13) (by rw[<-SU.out];exact hy13));clear hx13 hy13;go_wp2_with fail;refine (vU 4 _ t1 x4 Fi.out (by decide) Ph.out J_.out.g (ai (zy 5 t1 (J_.out.up (by decide))) JL) (Jj Ph.out (J_.out.up (by decide))) HT.out).mono ?_;rintro e x5 ⟨v,rfl,hfl,hb⟩;clear u0 Se u1 Sd u2 Sc u3 Sb u4 Sa v0 R_ v1 X3 v2 X0 v3 XZ v4 XY;replace HW:=aa (HW.out.trans (hb.mono HW.out.size));replace HT:=aa (HT.out.below hb);replace Sy:=aa (Sy.out.below hb);clear e1 e2;obtain⟨ZZ,Wb,rfl,TN,Nr,-⟩:=hfl.form;have Hv:Wb<=9223372036854775807:=Nr;obtain⟨ys,hys⟩:∃ x,x=uF t1:=⟨_,rfl⟩;rw[<-hys] at hfl y8 TN ⊢;have YD:=aa hys
 obtain⟨n,hn⟩:∃ x,x=ys.length:=⟨_,rfl⟩;rw[<-hn] at hfl TN ⊢;have HN:=aa hn;have I1:=aa hfl;clear hfl hys hn Nr;have Zt:Hid (∀ y ∈ ys,rt y=true/\Tm 9 y):=aa (fun y hy=>by rw[YD.out] at hy;obtain⟨h1,h2⟩:=zJ Ph.out (J_.out.up (by decide)) (fun _=>.I 0) y hy;exact⟨h1.1,h2.2⟩);have Zq:Hid (∀ y ∈ ZS,rt y=true/\Tm 9 y):=aa (fun y hy=>by rw[U'.out] at hy;obtain⟨h1,h2⟩:=zJ Mm.out.1 Mm.out.2 (fun _=>.I 0) y hy;exact⟨h1.1,h2.2⟩);go_wp2_with fail;go_loopw [39] (fun iv wr=>∃ j:Nat,iv=.int .i64 (j:Nat)/\j<=n/\Hid (aB x5.heap.size x5 wr)) (fun iv _=>n - (eT iv).toNat)
 case atStart=>exact⟨0,rfl,ah _,aa (ax _ _)⟩
 case round =>
  obtain⟨j,rfl,hj,HB⟩:=hrel;by_cases hlt:j<n
  ·have jq:j<ys.length:=by rw[<-HN.out];exact hlt
   have VA:=aa (I1.out.below HB.out);have Qt:=aa (Sy.out.below HB.out);have IX:=aa (HT.out.below HB.out);obtain⟨a,bb,qo,ql,qc,ro,rl,rc,rfl,⟨c0,c1,c2,c3,c4⟩,hf⟩:=VA.out.cells j jq;obtain⟨A,hA⟩:∃ x,x=ys[j]:=⟨_,rfl⟩;rw[<-hA] at c0 c3 hf;have QH:=aa (Zt.out A (by rw[hA];exact bS jq));have ZH:=aa (y8.out A (by rw[hA];exact bS jq));clear hA;obtain⟨Tp,No⟩:∃ x,x=A.op:=⟨_,rfl⟩;obtain⟨yn,TK⟩:∃ x,x=A.name:=⟨_,rfl⟩;rw[<-No] at c0 hf;rw[<-TK] at c3 hf;have Ka:=aa hf;clear hf No TK VA;obtain⟨Tq,ky,ey,mb,hby,pU,kA⟩:=aW wr #[.int .i64 Tp,.bool bb,.slice qo ql qc,.string yn,.slice ro rl rc] 29;replace HB:=aa (HB.out.trans (hby.out.mono HB.out.size))
   replace Ka:=aa (Ka.out.below hby.out);replace Qt:=aa (Qt.out.below hby.out);replace IX:=aa (IX.out.below hby.out);go_wp2_with fail;clear c0 c1 c2 c3 c4;have gA:=HB;have ZD:=kA;have Zw:=Ka;have YC:=Qt;have YO:=IX;go_loopw [10,45] (fun bv iv wr=>∃ (q:Nat) (b:Bool),iv=.int .i64 (q:Nat)/\bv=.bool b/\q<=N2/\Hid (b=true ↔ A ∈ ZS.take q)/\Hid (aB Tq.heap.size Tq wr)) (fun _ iv _=>N2 - (eT iv).toNat)
   case atStart=>exact⟨0,false,rfl,rfl,ah _,aa (by simp),aa (ax _ _)⟩
   case round =>
    obtain⟨q,b,rfl,rfl,hq,Tl,y9⟩:=hrel;by_cases hlq:q<N2
    ·have NF:q<ZS.length:=by rw[<-Me.out];exact hlq
     replace kA:=bM y9.out kA;replace Ka:=aa (Ka.out.below y9.out);replace IX:=aa (IX.out.below y9.out);have Va:=aa (Qt.out.below y9.out);obtain⟨a9,b9,o9,l9,d9,r9,s9,t9,rfl,⟨z0,z1,z2,z3,z4⟩,hf⟩:=Va.out.cells q NF;obtain⟨Z,hZ⟩:∃ x,x=ZS[q]:=⟨_,rfl⟩;have EU:Hid (ZS.take (q+1)=ZS.take q++[Z]):=aa (by rw[hZ];exact aT NF);rw[<-hZ] at z0 z3 hf;have QF:=aa (Zq.out Z (by rw[hZ];exact bS NF));clear hZ;obtain⟨To,Nn⟩:∃ x,x=Z.op:=⟨_,rfl⟩;obtain⟨zn,Ms⟩:∃ x,x=Z.name:=⟨_,rfl⟩;rw[<-Nn] at z0 hf;rw[<-Ms] at z3 hf;have S8:=aa hf;clear hf Nn Ms Va;obtain⟨ze,kz,ez,ekz,hbz,hkz,Tf⟩:=aW wr #[.int .i64 To,.bool b9,.slice o9 l9 d9,.string zn,.slice r9 s9 t9] 29
     replace kA:=bM hbz.out kA;replace y9:=aa (y9.out.trans (hbz.out.mono y9.out.size));replace Ka:=aa (Ka.out.below hbz.out);replace S8:=aa (S8.out.below hbz.out);replace IX:=aa (IX.out.below hbz.out);cases b with
     | true =>
      go_upto_region 14 with fail;clear z0 z1 z2 z3 z4;have Bf:=ae kA.out;have Be:=ae Tf.out;have fO:Hid (∀ q,q<0->(fun q=>0) q<ze.heap.size):=aa (fun q h=>absurd h (an _));refine R7.region (by kernel_rfl) [[],[0],[0,1],[0,1,2],[0,1],[0,1,2,3,4],[0,1,2,3,4,5],[0,1,2,3,4,5,6],[0,1,2,3,4,5,6,7]] [] [] (fun q=>0) 0 9 (by kernel_rfl) (by kernel_rfl) (by rfl) fO.out (fun q q' h h' hn=>absurd hn (by omega)) ?_;refine R7.aF.dL ?_ (by rfl) (fun T xs wr hA=>?_) ?_;rotate_left 1
      ·have yC:=hA.pre 10 (by kernel_rfl);simp only[kM,lO,lF] at yC;clear hA;refine⟨(by rfl),?_⟩;go_simp<;>(try with_reducible rfl)
      refine R7.aF.dL ?_ (by rfl) (fun T xs wr hA=>?_) ?_;rotate_left 1
      ·have IA:=hA.tm 0 49 (by rfl) (by rfl);have f49:xs 0=_:=hA.fa 0 (by rfl);(try simp (disch:=first | rfl | decide) only [R7.au] at f49);rw[f49] at IA;clear f49;clear hA;refine⟨(by rfl),?_⟩;go_simp<;>(try with_reducible rfl)
      refine R7.aF.skip (by rfl) (fun T xs wr hA=>?_) ?_
      ·have nJ:=hA.tm 1 50 (by rfl) (by rfl);have f50:xs 1=_:=hA.fa 1 (by rfl);(try simp (disch:=first | rfl | decide) only [R7.au] at f50);rw[f50] at nJ;clear f50;exact ((rZ.gl rfl (by rfl) nJ).trans (by rfl))
      refine R7.aF.skip (by rfl) (fun T xs wr hA=>?_) ?_
      ·have nJ:=hA.tm 1 50 (by rfl) (by rfl);have f50:xs 1=_:=hA.fa 1 (by rfl);(try simp (disch:=first | rfl | decide) only [R7.au] at f50);rw[f50] at nJ;clear f50;exact ((rZ.gl rfl (by rfl) nJ).trans (by rfl))
      refine R7.aF.skip (by rfl) (fun T xs wr hA=>?_) ?_
      ·have nJ:=hA.tm 1 50 (by rfl) (by rfl);have f50:xs 1=_:=hA.fa 1 (by rfl);(try simp (disch:=first | rfl | decide) only [R7.au] at f50);rw[f50] at nJ;clear f50;exact ((rZ.gl rfl (by rfl) nJ).trans (by rfl))
      refine R7.aF.skip (by rfl) (fun T xs wr hA=>?_) ?_
      ·have nJ:=hA.tm 1 50 (by rfl) (by rfl);have f50:xs 1=_:=hA.fa 1 (by rfl);(try simp (disch:=first | rfl | decide) only [R7.au] at f50);rw[f50] at nJ;clear f50;exact ((rZ.gl rfl (by rfl) nJ).trans (by rfl))
      refine R7.aF.skip (by rfl) (fun T xs wr hA=>?_) ?_
      ·have nJ:=hA.tm 1 50 (by rfl) (by rfl);have f50:xs 1=_:=hA.fa 1 (by rfl);(try simp (disch:=first | rfl | decide) only [R7.au] at f50);rw[f50] at nJ;clear f50;exact ((rZ.gl rfl (by rfl) nJ).trans (by rfl))
      refine R7.aF.dL ?_ (by rfl) (fun T xs wr hA=>?_) ?_;rotate_left 1
      ·have nJ:=hA.tm 1 50 (by rfl) (by rfl);have f50:xs 1=_:=hA.fa 1 (by rfl);(try simp (disch:=first | rfl | decide) only [R7.au] at f50);rw[f50] at nJ;clear f50;have Ql:=hA.tm 6 55 (by rfl) (by rfl);have f55:xs 6=(undef):=hA.fa 6 (by rfl);rw[f55] at Ql;clear f55;clear hA;refine⟨(by rfl),?_⟩;go_simp<;>(try with_reducible rfl)
      refine R7.aF.dL ?_ (by rfl) (fun T xs wr hA=>?_) ?_;rotate_left 1
      ·have Qk:=hA.tm 7 56 (by rfl) (by rfl);have f56:xs 7=_:=hA.fa 7 (by rfl);(try simp (disch:=first | rfl | decide) only [R7.au] at f56);rw[f56] at Qk;clear f56;clear hA;refine⟨(by rfl),?_⟩;go_simp<;>(try with_reducible rfl)
      refine R7.aF.done (fun xs Kg hL=>?_);obtain⟨⟨iB,cS⟩,hf,-,-⟩:=hL;have f0:xs 0=_:=hf 0 (by decide);(try simp (disch:=first | rfl | decide) only [R7.au] at f0);have f1:xs 1=_:=hf 1 (by decide);(try simp (disch:=first | rfl | decide) only [R7.au] at f1);have f2:xs 2=(undef):=hf 2 (by decide);have f3:xs 3=(undef):=hf 3 (by decide);have f4:xs 4=(undef):=hf 4 (by decide);have f5:xs 5=(undef):=hf 5 (by decide);have f6:xs 6=(undef):=hf 6 (by decide);have f7:xs 7=_:=hf 7 (by decide);(try simp (disch:=first | rfl | decide) only [R7.au] at f7);have f8:xs 8=_:=hf 8 (by decide);(try simp (disch:=first | rfl | decide) only [R7.au] at f8);have hb0:aB 0 ze Kg:=ck (iB 0 (ah _) (fun _ _=>ah _))
      have jl:∀ j,j<ze.heap.size->(∀ q,q<0->(fun q=>0) q≠j)->Kg.heap[j]?=ze.heap[j]?:=cS;clear iB cS hf;have hb:aB ze.heap.size ze Kg:=⟨hb0.os,hb0.tape,hb0.output,hb0.size,fun q hq=>jl q hq (fun q h=>absurd h (an _))⟩;refine R7.lW ?_;simp only[R7.fill,AU,AT,AS,f0,f1,f2,f3,f4,f5,f6,f7,f8];clear hb0 jl fO Bf Be f0 f1 f2 f3 f4 f5 f6 f7 f8;replace y9:=aa (y9.out.trans (hb.mono y9.out.size));replace hb:=aa hb;go_wp2_with fail;go_roundw
      case rel =>
       refine⟨q+1,true,by go_num,rfl,hlq,aa ?_,y9⟩;rw[EU.out,gO];exact⟨fun _=>.inl (Tl.out.1 rfl),fun _=>rfl⟩
      case measure=>simp[eT];omega
     | false =>
      go_upto_region 14 with fail;clear z0 z1 z2 z3 z4;obtain⟨EQ,RW⟩:∃ b:Bool,b=decide (A=Z):=⟨_,rfl⟩;have Zx:=aa RW;have SD:Hid ((g_ A==g_ Z)=EQ):=aa (by rw[RW];exact Km QH.out QF.out);obtain⟨LA,RR⟩:∃ l,l=g_ A:=⟨_,rfl⟩;obtain⟨LZ,RQ⟩:∃ l,l=g_ Z:=⟨_,rfl⟩;rw[<-RR,<-RQ] at SD;have SP:=aa RR;have Zd:=aa RQ;clear RW RR RQ;have Bf:=ae kA.out;have Be:=ae Tf.out;have fO:Hid (∀ q,q<0->(fun q=>0) q<ze.heap.size):=aa (fun q h=>absurd h (an _));refine R7.region (by kernel_rfl) [[],[0],[0,1],[0,1,2],[0,1],[0,1,2,3,4],[0,1,2,3,4,5],[0,1,2,3,4,5,6],[0,1,2,3,4,5,6,7]] [] [] (fun q=>0) 0 9 (by kernel_rfl) (by kernel_rfl) (by rfl) fO.out (fun q q' h h' hn=>absurd hn (by omega)) ?_
      refine R7.aF.dL ?_ (by rfl) (fun T xs wr hA=>?_) ?_;rotate_left 1
      ·have yC:=hA.pre 10 (by kernel_rfl);simp only[kM,lO,lF] at yC;clear hA;refine⟨(by rfl),?_⟩;go_simp<;>(try with_reducible rfl)
      refine R7.aF.dL ?_ (by rfl) (fun T xs wr hA=>?_) ?_;rotate_left 1
      ·have IA:=hA.tm 0 49 (by rfl) (by rfl);have f49:xs 0=_:=hA.fa 0 (by rfl);(try simp (disch:=first | rfl | decide) only [R7.au] at f49);rw[f49] at IA;clear f49;clear hA;refine⟨(by rfl),?_⟩;go_simp<;>(try with_reducible rfl)
      refine R7.aF.dL ?_ (by rfl) (fun T xs wr hA=>?_) ?_;rotate_left 1
      ·have nJ:=hA.tm 1 50 (by rfl) (by rfl);have f50:xs 1=_:=hA.fa 1 (by rfl);(try simp (disch:=first | rfl | decide) only [R7.au] at f50);rw[f50] at nJ;clear f50;have e9:=hA.pre 9 (by kernel_rfl);simp only[kM,lO,lF] at e9;have bB:wr.heap[ky]?=_:=(hA.bl _ Bf (fun q h=>absurd h (an _))).trans kA.out;have q0:=aq (v:=.int .i64 Tp) bB 0 rfl;have q1:=aq (v:=.bool bb) bB 1 rfl;have q2:=aq (v:=.slice qo ql qc) bB 2 rfl;have q3:=aq (v:=.string yn) bB 3 rfl;have q4:=aq (v:=.slice ro rl rc) bB 4 rfl;clear bB;clear hA;refine⟨((rZ.gl rfl (by rfl) nJ).trans (by rfl)),?_⟩;go_simp<;>(try with_reducible rfl)
      refine R7.aF.call (fun xs v w=>v=.string ⟨LA.toArray⟩) (fun _ _ _ _ h _=>h) (fun _ _ _ _ _ h _ _=>h) (by rfl) (fun T xs wr hA=>?_) ?_
      ·have nJ:=hA.tm 1 50 (by rfl) (by rfl);have f50:xs 1=_:=hA.fa 1 (by rfl);(try simp (disch:=first | rfl | decide) only [R7.au] at f50);rw[f50] at nJ;clear f50;have nH:=(hA.be 0 (ah _) (fun _ _=>ah _)).size;have Qn:=hA.tm 2 51 (by rfl) (by rfl);have f51:xs 2=_:=hA.fa 2 (by rfl);(try simp (disch:=first | rfl | decide) only [R7.au] at f51);rw[f51] at Qn;clear f51;have gq:=ck (hA.be ze.heap.size (ag _) (fun q h=>absurd h (an q)));have RC:=Ka.out.below gq;have Ny:=IX.out.below gq;clear hA;refine⟨((rZ.gl rfl (by rfl) nJ).trans (by rfl)),fun K hK=>?_⟩;go_simp;refine (vN 9 _ A _ _ RC QH.out.1 QH.out.2.g (AO QH.out.2) Ny).mono ?_;rintro e w' ⟨rfl,hb'⟩;rw[<-SP.out];exact hK.out _ _ rfl hb'
      refine R7.aF.dL ?_ (by rfl) (fun T xs wr hA=>?_) ?_;rotate_left 1
      ·have nJ:=hA.tm 1 50 (by rfl) (by rfl);have f50:xs 1=_:=hA.fa 1 (by rfl);(try simp (disch:=first | rfl | decide) only [R7.au] at f50);rw[f50] at nJ;clear f50;have Qp:=hA.pre 12 (by kernel_rfl);simp only[kM,lO,lF] at Qp;have bB:wr.heap[kz]?=_:=(hA.bl _ Be (fun q h=>absurd h (an _))).trans Tf.out;have q0:=aq (v:=.int .i64 To) bB 0 rfl;have q1:=aq (v:=.bool b9) bB 1 rfl;have q2:=aq (v:=.slice o9 l9 d9) bB 2 rfl;have q3:=aq (v:=.string zn) bB 3 rfl;have q4:=aq (v:=.slice r9 s9 t9) bB 4 rfl;clear bB;clear hA;refine⟨((rZ.gl rfl (by rfl) nJ).trans (by rfl)),?_⟩;go_simp<;>(try with_reducible rfl)
      refine R7.aF.call (fun xs v w=>v=.string ⟨LZ.toArray⟩) (fun _ _ _ _ h _=>h) (fun _ _ _ _ _ h _ _=>h) (by rfl) (fun T xs wr hA=>?_) ?_
      ·have nJ:=hA.tm 1 50 (by rfl) (by rfl);have f50:xs 1=_:=hA.fa 1 (by rfl);(try simp (disch:=first | rfl | decide) only [R7.au] at f50);rw[f50] at nJ;clear f50;have nH:=(hA.be 0 (ah _) (fun _ _=>ah _)).size;have Sk:=hA.tm 4 53 (by rfl) (by rfl);have f53:xs 4=_:=hA.fa 4 (by rfl);(try simp (disch:=first | rfl | decide) only [R7.au] at f53);rw[f53] at Sk;clear f53;have gq:=ck (hA.be ze.heap.size (ag _) (fun q h=>absurd h (an q)));have RC:=S8.out.below gq;have Ny:=IX.out.below gq;clear hA;refine⟨((rZ.gl rfl (by rfl) nJ).trans (by rfl)),fun K hK=>?_⟩;go_simp;refine (vN 9 _ Z _ _ RC QF.out.1 QF.out.2.g (AO QF.out.2) Ny).mono ?_;rintro e w' ⟨rfl,hb'⟩;rw[<-Zd.out];exact hK.out _ _ rfl hb'
      refine R7.aF.call (fun xs v w=>v=.bool EQ) (fun _ _ _ _ h _=>h) (fun _ _ _ _ _ h _ _=>h) (by rfl) (fun T xs wr hA=>?_) ?_
      ·have nJ:=hA.tm 1 50 (by rfl) (by rfl);have f50:xs 1=_:=hA.fa 1 (by rfl);(try simp (disch:=first | rfl | decide) only [R7.au] at f50);rw[f50] at nJ;clear f50;have nH:=(hA.be 0 (ah _) (fun _ _=>ah _)).size;have Qm:=hA.tm 3 52 (by rfl) (by rfl);have f52:xs 3=(.string ⟨LA.toArray⟩):=hA.fa 3 (by rfl);rw[f52] at Qm;clear f52;have Sj:=hA.tm 5 54 (by rfl) (by rfl);have f54:xs 5=(.string ⟨LZ.toArray⟩):=hA.fa 5 (by rfl);rw[f54] at Sj;clear f54;have gq:=ck (hA.be ze.heap.size (ag _) (fun q h=>absurd h (an q)));clear hA;refine⟨((rZ.gl rfl (by rfl) nJ).trans (by rfl)),fun K hK=>?_⟩;go_simp;exact hK.out _ _ (congrArg Value.bool (by first | exact SD.out | (have h9:=SD.out;simpa using h9))) (ax _ _)
      refine R7.aF.dL ?_ (by rfl) (fun T xs wr hA=>?_) ?_;rotate_left 1
      ·have nJ:=hA.tm 1 50 (by rfl) (by rfl);have f50:xs 1=_:=hA.fa 1 (by rfl);(try simp (disch:=first | rfl | decide) only [R7.au] at f50);rw[f50] at nJ;clear f50;have Ql:=hA.tm 6 55 (by rfl) (by rfl);have f55:xs 6=(.bool EQ):=hA.fa 6 (by rfl);rw[f55] at Ql;clear f55;clear hA;refine⟨(by rfl),?_⟩;go_simp<;>(try with_reducible rfl)
      refine R7.aF.dL ?_ (by rfl) (fun T xs wr hA=>?_) ?_;rotate_left 1
      ·have Qk:=hA.tm 7 56 (by rfl) (by rfl);have f56:xs 7=_:=hA.fa 7 (by rfl);(try simp (disch:=first | rfl | decide) only [R7.au] at f56);rw[f56] at Qk;clear f56;clear hA;refine⟨(by rfl),?_⟩;go_simp<;>(try with_reducible rfl)
      refine R7.aF.done (fun xs Kg hL=>?_);obtain⟨⟨iB,cS⟩,hf,-,-⟩:=hL;have f0:xs 0=_:=hf 0 (by decide);(try simp (disch:=first | rfl | decide) only [R7.au] at f0);have f1:xs 1=_:=hf 1 (by decide);(try simp (disch:=first | rfl | decide) only [R7.au] at f1);have f2:xs 2=_:=hf 2 (by decide);(try simp (disch:=first | rfl | decide) only [R7.au] at f2);have f3:xs 3=(.string ⟨LA.toArray⟩):=hf 3 (by decide);have f4:xs 4=_:=hf 4 (by decide);(try simp (disch:=first | rfl | decide) only [R7.au] at f4);have f5:xs 5=(.string ⟨LZ.toArray⟩):=hf 5 (by decide);have f6:xs 6=(.bool EQ):=hf 6 (by decide);have f7:xs 7=_:=hf 7 (by decide);(try simp (disch:=first | rfl | decide) only [R7.au] at f7);have f8:xs 8=_:=hf 8 (by decide)
      (try simp (disch:=first | rfl | decide) only [R7.au] at f8);have hb0:aB 0 ze Kg:=ck (iB 0 (ah _) (fun _ _=>ah _));have jl:∀ j,j<ze.heap.size->(∀ q,q<0->(fun q=>0) q≠j)->Kg.heap[j]?=ze.heap[j]?:=cS;clear iB cS hf;have hb:aB ze.heap.size ze Kg:=⟨hb0.os,hb0.tape,hb0.output,hb0.size,fun q hq=>jl q hq (fun q h=>absurd h (an _))⟩;refine R7.lW ?_;simp only[R7.fill,AU,AT,AS,f0,f1,f2,f3,f4,f5,f6,f7,f8];clear hb0 jl fO Bf Be f0 f1 f2 f3 f4 f5 f6 f7 f8;replace y9:=aa (y9.out.trans (hb.mono y9.out.size));replace hb:=aa hb;go_wp2_with fail;go_roundw
      case rel =>
       refine⟨q+1,EQ,by go_num,rfl,hlq,aa ?_,y9⟩;rw[EU.out,gO,aX,Zx.out,decide_eq_true_iff];exact⟨.inr,fun h=>h.resolve_left (fun h=>by have:=Tl.out.2 h;cases this)⟩
      case measure=>simp[eT];omega
    have Yd:q=N2:=by omega
    have ir:b=true:=Tl.out.2 (by rw[Yd,Me.out,cz];exact ZH.out);subst ir;have y_:=aa (gA.out.trans (y9.out.mono gA.out.size));go_wp2_with fail;go_roundw
    case rel=>exact⟨j+1,by go_num,hlt,y_⟩
    case measure=>simp[eT];omega
  go_wp2_with fail;go_ret;exact⟨rfl,HW.out.trans (HB.out.mono HW.out.size)⟩
end Go.Proofs.YtoncclhbdkjhmaaGreatDoor
namespace Go.Proofs.YtoncclhbdkjhmaaGreatDoor
open Go.ChangeShapes Go.WideShapes Go.ChangeAt Go.RowKit
set_option maxRecDepth 100000
theorem own:ownKnob Tryz.prog.godebug=none:=by kernel_rfl
theorem laidOut:laidOutB aj=true:=by kernel_rfl
theorem zB {w:af} {a:cu} {len cap:Nat} {zs:List Int} (hl:len<=cap) (hm:cap<=bn) (hz:len<=zs.length)
  (hcell:∀ i,i<zs.length->w.cell? (a.add i)=some (.int .u32 (zs.getD i 0))) (hwf:∀ n ∈ zs,(Lit.int .u32 n).wf=true) :
  ∃ xs,Sl w .u32 (.slice (some a) len cap) xs/\fK 4294967296 xs:=by
 have hb:∀ n ∈ zs,0<=n/\n<4294967296:=fun n hn=>by
  have:=hwf n hn;simp[Lit.wf,IntKind.min,IntKind.max,IntKind.bits,IntKind.signed] at this;omega
 refine⟨(zs.take len).map Int.toNat,⟨some a,cap,?_,?_,by unfold bn at hm;omega,(fun e=>by cases e),fun i hi=>⟨a,rfl,?_⟩⟩,?_⟩
 ·rw[cQ,bD,fy hz]
 ·rw[cQ,bD,fy hz];exact hl
 ·rw[cQ,bD,fy hz] at hi;have hi':i<zs.length:=by omega
  rw[hcell i hi'];have:=hb zs[i] (bS hi');unfold nth;simp[List.getD,hi,hi'];omega
 intro x hx;obtain⟨n,hn,rfl⟩:=List.mem_map.1 hx;have:=hb n (List.mem_of_mem_take hn);omega
theorem DN (os:Os) (args:Array ak):laidMet aj Rows.factsHoldRow.laid ((World.laidAll aj os Rows.factsHoldRow.laid).forCall (fun _ _=>0) ⟨#[],args,[]⟩).memory:=
 laidMet_laidAll _ (by kernel_rfl) (by kernel_rfl)
theorem R8 : (Tryz.prog.globalNamed "internal/strconv.uint64pow10").bind (fun g => (Tryz.prog.globals[g]?).map fun x => (Tryz.prog.underlying x.type, Tryz.prog.cellsOf x.type)) = some (some (.array 20 130), 20) := by kernel_rfl
theorem EI:Tryz.prog.cellsOf 130=1:=by kernel_rfl
theorem GH:(Rows.laid_internal_strconv_uint64pow10:DataW Unit)=Lib.tabData .u64 Lib.pow10Tab:=rfl
theorem table {W : af} (h : laidMetH aj Rows.factsHoldRow.laid W) : Lib.TabIs aj W "internal/strconv.uint64pow10" .u64 Lib.pow10Tab := by
 have h':laidMet aj Rows.factsHoldRow.laid W:=h;obtain⟨_,⟨_,_,_,_,_,_,_,_,_,_,⟨_,_,_,_,_,_,_,_,_,_,⟨g,t,cs,fuel,p,q,hg,ht,hvar,hd,_,_⟩,_⟩,_⟩,_⟩:=h';have e:=R8;rw[hg,Option.bind_some] at e;obtain⟨x,hx,ex⟩:=Option.map_eq_some_iff.1 e;rw[hx,Option.map_some] at ht;injection ht with ht;injection ex with e1 e2;rw[ht] at e1 e2;unfold Lib.TabIs;rw[hvar,<-Lib.cells_of_tab e1 Tryz.underlying130 EI e2 (GH ▸ hd)]
set_option linter.unusedVariables false
theorem uN {H:Type} {enc:aZ × ak->H} {P:Program} {w:af} {base:Nat} {sp:Nat->Bool} {held:Bool} {fuel:Nat} {t e:aZ} {n:Nat} {cs:List ak} {ss:List Bs} {p:List MemPlace}
  (ht:P.underlying t=some (.array n e)) (he:P.underlying e=some .string) (hce:P.cellsOf e=1) (hct:P.cellsOf t=n)
  (h:DataW.trod enc P w base sp held fuel t cs=some (.agg (ss.map fun s=>.lit (.string s)),p)):cs=ss.map fun s=>Value.string ⟨s.toArray⟩:=by
 cases fuel with
 | zero=>simp[DataW.trod] at h
 | succ fuel =>
  simp only[DataW.trod,ht,hce,hct,Nat.mul_one] at h;split at h
  ·rename_i hl;obtain⟨xs,hm,hx⟩:=Option.map_eq_some_iff.1 h;have hxs:xs.map (·.1)=ss.map fun s=>(DataW.lit (.string s):DataW H):=by
    have:=congrArg Prod.fst hx;simpa using this
   have hxl:xs.length=n:=by simpa using Lib.mapM_length hm
   have Q6:ss.length=n:=by
    have:=congrArg List.length hxs;simp at this;omega
   apply List.ext_getElem?;intro i;by_cases hi:i<n
   ·obtain⟨b,hb,hf⟩:=Lib.mapM_at hm i i (by simp[hi]);obtain⟨z,hc,rfl,_⟩:=DataW.trod_string he hf;have h1:cs[i]?=some (.string z):=by
     have:=congrArg (·[0]?) hc;simpa [List.getElem?_take,List.getElem?_drop] using this
    have h2:(xs.map (·.1))[i]?=some (DataW.lit (.string z.data.toList):DataW H):=by simp[hb]
    rw[hxs] at h2;simp only[List.getElem?_map,Option.map_eq_some_iff,DataW.lit.injEq,Lit.string.injEq] at h2;obtain⟨s,hs,hz⟩:=h2;simp[h1,hs,hz]
   rw[List.getElem?_eq_none (by omega),List.getElem?_eq_none (by simp;omega)]
  cases h
theorem R6 : (Tryz.prog.globalNamed "litmus/logic.words").bind (fun g => (Tryz.prog.globals[g]?).map fun x => (Tryz.prog.underlying x.type, Tryz.prog.cellsOf x.type)) = some (some (.array 21 9), 21) := by kernel_rfl
theorem Q1 : Tryz.prog.globalNamed "litmus/logic.words" = some 1 := by kernel_rfl
theorem EK:Tryz.prog.cellsOf 9=1:=by kernel_rfl
theorem Kj:(Rows.laid_litmus_logic_words:DataW Unit)=.agg (nM.map fun s=>.lit (.string s)):=by rfl
theorem LO:(Rows.laid_unicode_utf8_acceptRanges:DataW Unit)=Lib.acceptData:=by rfl
theorem MV:nM.length=21:=by rfl
theorem MZ {W:af} (hL:laidMetH aj Rows.factsHoldRow.laid W):vG W:=by
 refine⟨table hL,fun i hi=>?_,?_,?_⟩
 ·obtain ⟨g, t, cs, fuel, p, hg, hty, hvar, hd⟩ := fA hL (n := "litmus/logic.words") (d := Rows.laid_litmus_logic_words) (.tail _ (.tail _ (.tail _ (.tail _ (.head _)))));have e := R6;rw [hg, Option.bind_some] at e;obtain ⟨x, hx, ex⟩ := Option.map_eq_some_iff.1 e;rw [hx, Option.map_some] at hty;injection hty with hty;injection ex with e1 e2;rw [hty] at e1 e2;have hc := uN e1 eF EK e2 (Kj ▸ hd);rw [World.var?_cell Q1 hvar i];have : cs[i]? = cs.toList[i]? := by simp
  rw[this,hc];have hw:=MV;simp[List.getD,hi,hw]
 ·exact printTabs_of_reads (ρ:=Tryz.mN) { Tryz.th with } ⟨by kernel_rfl,by kernel_rfl,by kernel_rfl,by kernel_rfl,by kernel_rfl,by kernel_rfl,by kernel_rfl,by kernel_rfl,by kernel_rfl,by kernel_rfl⟩
   (Pinned.isPrint16_eq ▸ fA hL (.tail _ (.tail _ (.tail _ (.tail _ (.tail _ (.tail _ (.tail _ (.tail _ (.head _))))))))))
   (Pinned.isNotPrint16_eq ▸ fA hL (.tail _ (.tail _ (.tail _ (.tail _ (.tail _ (.tail _ (.head _))))))))
   (Pinned.isPrint32_eq ▸ fA hL (.tail _ (.tail _ (.tail _ (.tail _ (.tail _ (.tail _ (.tail _ (.tail _ (.tail _ (.head _)))))))))))
   (Pinned.isNotPrint32_eq ▸ fA hL (.tail _ (.tail _ (.tail _ (.tail _ (.tail _ (.tail _ (.tail _ (.head _)))))))))
 exact utf8Tabs_of_reads (ρ:=Tryz.mN) { Tryz.th with } ⟨by kernel_rfl,by kernel_rfl,by kernel_rfl,by kernel_rfl,by kernel_rfl,by kernel_rfl,by kernel_rfl⟩
  (Pinned.utf8First_eq ▸ fA hL (.tail _ (.tail _ (.tail _ (.tail _ (.tail _ (.tail _ (.tail _ (.tail _ (.tail _ (.tail _ (.head _))))))))))))
  (LO ▸ fA hL (.tail _ (.tail _ (.tail _ (.head _)))))
theorem vw:Tryz.prog.cellsOf 26=2:=by kernel_rfl
theorem Ar:Tryz.prog.cellsOf 4=1:=by kernel_rfl
theorem Cp:Tryz.prog.cellsOf 24=1:=by kernel_rfl
theorem zK {H:Type} {enc:aZ × ak->H} {W:af} {fuel:Nat} {c:ak} {y:DataW H × List MemPlace}
  (h:DataW.trod enc aj W 0 (fun _=>true) true fuel 24 [c]=some y):∃ ao n q,c=.slice ao n q/\AA W (.slice ao n q):=by
 rcases open_ints Tryz.underlying24 Tryz.underlying153 (by kernel_rfl) h with ⟨hcs,_⟩ | ⟨x,l,c',zs,hcs,_,hl,hm,hz,_,hcell,hwz⟩
 ·simp at hcs;subst hcs;exact⟨none,0,0,rfl,[],Sl.nil _ _,fun x hx=>by cases hx⟩
 simp at hcs;subst hcs;obtain⟨xs,hs,hd⟩:=zB hl hm (by rw[hz];split<;>omega) hcell hwz;exact⟨_,_,_,rfl,xs,hs,hd⟩
theorem tu {z:Int} (h:(Lit.int .i64 z).wf=true) : -9223372036854775808<=z/\z<=9223372036854775807:=by
 simp[Lit.wf,IntKind.min,IntKind.max,IntKind.bits,IntKind.signed] at h
 omega
theorem B3 {H:Type} {enc:aZ × ak->H} {W:af} {fuel:Nat} {cs:List ak} {y:DataW H × List MemPlace} (h:DataW.trod enc aj W 0 (fun _=>true) true fuel 26 cs=some y) :
  ∃ b o l c,cs=[.bool b,.slice o l c]/\AA W (.slice o l c):=by
 obtain⟨xs,m,-,-,zU,Q7,yW⟩:=DataW.trod_struct Tryz.underlying26 h;rw[vw] at zU;match cs,zU with
 | [c0,c1],_ =>
  match xs,Q7 with
  | [u0,u1],_ =>
   have q0:=yW 0 _ rfl;have q1:=yW 1 _ rfl;simp[Ar] at q0;simp[Cp] at q1;obtain⟨b,eb,-⟩:=DataW.trod_bool Tryz.underlying4 q0;obtain⟨ao,ln,lc,rfl,hs⟩:=zK q1;simp at eb;subst eb;exact⟨_,_,_,_,rfl,hs⟩
theorem vz:Tryz.prog.cellsOf 29=5:=by kernel_rfl
theorem EJ:Tryz.prog.cellsOf 22=1:=by kernel_rfl
theorem Co:Tryz.prog.cellsOf 9=1:=by kernel_rfl
theorem Aq:Tryz.prog.cellsOf 27=1:=by kernel_rfl
theorem oa {H:Type} {enc:aZ × ak->H} {W:af} {fuel:Nat} {cs:List ak} {y:DataW H × List MemPlace} (h:DataW.trod enc aj W 0 (fun _=>true) true fuel 29 cs=some y) :
  ∃ x:RU,cs=rC x/\IR x.o/\AA W (.slice x.ao x.l x.c)/\x.nm.size<=9223372036854775807/\(x.kl<=x.kc/\x.kc<=bn) /\
   ∀ i,i<x.kl->∃ cs' n' y',FN 5 W x.ko i cs'/\DataW.trod enc aj W 0 (fun _=>true) true n' 29 cs'=some y':=by
 obtain⟨ys,n,-,-,hlen,W6,hf⟩:=DataW.trod_struct Tryz.underlying29 h;rw[vz] at hlen;match cs,hlen with
 | [c0,c1,c2,c3,c4],_ =>
  match ys,W6 with
  | [y0,y1,y2,y3],_ =>
   have g0:=hf 0 _ rfl;have g1:=hf 1 _ rfl;have g2:=hf 2 _ rfl;have g3:=hf 3 _ rfl;simp[EJ] at g0;simp[vw] at g1;simp[Co] at g2;simp[Aq] at g3;obtain⟨k,e0,-,w0⟩:=DataW.trod_int Tryz.underlying22 g0;obtain⟨b,o,l,c,e1,hn⟩:=B3 g1;obtain⟨s,e2,-,w2⟩:=DataW.trod_string eF g2;simp at e0 e1 e2;obtain⟨Yr,Yq⟩:=e1;subst e0 Yr Yq e2;rcases Go.Deep.open_slice Tryz.underlying27 g3 with ⟨hcs,-⟩ | ⟨a,len,cap,mm,n',D,Pl,hcs,-,hle,hm,Ub,-,hi⟩
   ·simp at hcs;subst hcs;exact⟨⟨k,b,o,l,c,s,none,0,0⟩,rfl,tu w0,hn,by unfold bn at w2;exact w2,⟨ag _,ah _⟩,fun i hi=>absurd hi (an i)⟩
   simp at hcs;subst hcs;refine⟨⟨k,b,o,l,c,s,some a,len,cap⟩,rfl,tu w0,hn,by unfold bn at w2;exact w2,⟨hle,hm⟩,fun i Rw=>?_⟩;obtain⟨cs',hc,ht'⟩:=hi i (by simp only[if_true] at Ub;have:i<len:=Rw;omega);rw[vz] at hc;obtain⟨_,cE,Lr⟩:=World.cells?_some hc;refine⟨cs',n',_,⟨a,rfl,fun j v hj=>?_⟩,ht'⟩;have jq:j<5:=by have:=(List.getElem?_eq_some_iff.1 hj).1;omega
   rw[Lr j jq];exact hj
theorem KC {x y:RU} (e:rC x=rC y):x=y:=by
 obtain⟨o,b,ao,l,c,nm,ko,kl,kc⟩:=x;obtain⟨o',b',OR,l',c',Nb,v_,kl',we⟩:=y;simp only[rC,List.cons.injEq,Value.int.injEq,Value.string.injEq,Value.bool.injEq,Value.slice.injEq,true_and,and_true] at e;obtain⟨e1,e2,⟨e3,e4,e5⟩,e6,⟨e7,e8,e9⟩⟩:=e;subst e1 e2 e3 e4 e5 e6 e7 e8 e9
 rfl
theorem uX {H:Type} {enc:aZ × ak->H} {W:af}:∀ (d:Nat) {fuel:Nat} {x:RU} {y:DataW H × List MemPlace},DataW.trod enc aj W 0 (fun _=>true) true fuel 29 (rC x)=some y->ld W d x
 | 0,_,_,_,_=>trivial
 | d+1,fuel,x,y,h=>by
  obtain⟨x',e,h1,h2,h3,h4,h5⟩:=oa h;have ex:=KC e;subst ex;refine⟨h1,h2,h3,h4,fun i hi=>?_⟩;obtain⟨cs',n',y',hc,ht⟩:=h5 i hi;obtain⟨u,hu,-⟩:=oa ht;subst hu;exact⟨u,hc,uX d ht⟩
theorem uZ {H:Type} {enc:aZ × ak->H} {W:af} {base:Nat} {r:Reach} {v:ak} {d:DataW H} {p:List MemPlace}
  (hv:Value.okWide aj W r base 29 v) (h:DataW.Trod enc aj W 0 (fun _=>true) true 29 v d p):∃ x:RU,v=rV x/\∀ d,ld W d x:=by
 obtain⟨cs,rfl,hsz⟩:=okWide_struct Tryz.underlying29 hv;obtain⟨fuel,hf⟩:=h;have hcs:(Value.agg cs).cells.toList=cs.toList:=rfl;rw[hcs] at hf;obtain⟨x,e,-⟩:=oa hf;rw[e] at hf;exact⟨x,by unfold rV;congr 1;apply Array.ext';rw[e];rfl,fun d=>uX d hf⟩
end Go.Proofs.YtoncclhbdkjhmaaGreatDoor
