/-
 Joined texts: LgZm,LgU,LgZn,LgBj,ShelfD.
-/
import Derived.Shelf.Strings.Builder1
import Derived.Shelf.Small.Utf8
import Derived.Shelf.Small.Bits
import Derived.Shelf.Small.Wraps
import Derived.Shelf.Strings.BuilderF
import Derived.Shelf.Strings.BuilderK
import Derived.Shelf.Utf8.AppendRune
import Derived.Shelf.Utf8.AppendRunePlain
import Derived.Shelf.Strconv.Bsearch
import Derived.Shelf.Strconv.IsPrint
import Derived.Shelf.Strconv.IsPrint16
import Derived.Shelf.Strconv.IsPrint32
import Derived.Shelf.Strconv.Escaped
import Derived.Shelf.Strconv.Quoted
import Derived.Shelf.Strconv.Quote
import Derived.Shelf.Strconv.Itoa0
import Derived.Shelf.Strconv.Itoa1
import Derived.Shelf.LaysM
import Derived.Shelf.Strconv.Itoa2
import Derived.Shelf.Strconv.Itoa3
import Derived.Shelf.Unicode.Decode
import Derived.Shelf.Unicode.DecodeSlow
import Derived.Shelf.Unicode.DecodeAny
import Derived.Shelf.Strings.BuilderCap
import Derived.Shelf.Slices.Turned
import Derived.Ground.Names2Prog
import Derived.Shelf.Slices.SearchI
import Derived.Test.YtoncclhbdkjhmaaGreatDoorProg
import Derived.Test.YtoncclhbdkjhmaaGreatDoorJLogicPuts5
import Derived.Test.YtoncclhbdkjhmaaGreatDoorJLogicPuts8
set_option maxHeartbeats 32000000
open Go renaming lt_of_block→ag,World→an,bodyPost_ret→aB
open Go.Exit renaming inBlock→aE,«then»→aM
open Go.Lib renaming hid→aa
open Go.Proofs.Tryz renaming prog→ax,results16→bF,ntmps16→cA,func16→cM
open Go.RowKit.Below renaming refl→av
open Go.Value.bool renaming injEq→tM
open Go.Value.slice renaming injEq→rP
open List renaming take_length→bD,getElem_mem→cI
open List.cons renaming injEq→me
open Nat renaming le_refl→ak,le_trans→aq,zero_le→au,lt_of_lt_of_le→aK,pow_pos→cT
namespace Go.Proofs.YtoncclhbdkjhmaaGreatDoor
open Go.RowKit
set_option maxRecDepth 100000
set_option linter.unusedVariables false
set_option linter.unusedSimpArgs false
attribute [local go_sem] jn jm jl jk
def Sa (r:ByteArray->V):Prop:=∀ (o:Int) (nm:ByteArray),o=1\/o=8\/o=14->fY o nm->fu (r nm)=jh o
def KM (d:Nat):Prop:=∀ (ve v:Value) (env:List (ByteArray × V)) (t:F) (S:Nat->Prop) (w:an),FC w S d v t->EL w ve env->rt t=true->Sm (a_ env) t->Tm d t->Sa (a_ env) ->
 Calls ax 16 #[v,ve] w fun e w'=>∃ x,e=.returned x/\VC w' x (ev (a_ env) t)/\Below w.heap.size w w'
theorem CI.sm {w:an} {v:Value} {z:Int} {k:Nat} (h:CI w v z k) (hz:rH (.I z)):CI w v z 600:=CI.tight h hz
theorem NL.LB {w:an} {ko:Option Addr} {n kc:Nat} {zs:List Int} (h:NL w (.slice ko n kc) zs) (hn:1<=n):NL w (sliced ko 1 n kc 2) zs.tail:=by
 have:=h.tail
 rwa [Nat.min_eq_left hn] at this
theorem VC.zi {w:an} {k:Int} {b d:Bool} {o p:Option Addr} {l c m q:Nat} {z:Int} (h:VC w (.agg #[.int .i64 k,.bool b,.slice o l c,.bool d,.slice p m q]) (.I z)):CI w (.agg #[.bool b,.slice o l c]) z 600:=by
 obtain⟨o',l',c',e,h⟩:=h.int;simp only[Value.agg.injEq,Array.mk.injEq,me,Value.int.injEq,tM,rP,true_and,and_true] at e;obtain⟨-,rfl,⟨rfl,rfl,rfl⟩,-⟩:=e;exact h
theorem VC.G4 {w:an} {k:Int} {b d:Bool} {o p:Option Addr} {l c m q:Nat} {z:List Int} (h:VC w (.agg #[.int .i64 k,.bool b,.slice o l c,.bool d,.slice p m q]) (.L z)):NL w (.slice p m q) z:=by
 obtain⟨o',l',c',e,h⟩:=h.list;simp only[Value.agg.injEq,Array.mk.injEq,me,Value.int.injEq,tM,rP,true_and,and_true] at e;obtain⟨-,-,-,-,rfl,rfl,rfl⟩:=e;exact h
theorem C2 (a b:Bool):decide (V.B a=V.B b)=(a==b):=by cases a<;>cases b<;>decide
theorem KE (X Y:Int):decide (eK (X - Y)<=0)=decide (X<=Y):=by
 unfold eK;congr 1;apply propext;(repeat' split)<;>constructor<;>intro h<;>first | omega | (exfalso;omega)
theorem CI.un {w:an} {b:Bool} {o:Option Addr} {l c:Nat} {z:Int} (h:CI w (.agg #[.bool b,.slice o l c]) z 600):∃ u:NU,nC u=[.bool b,.slice o l c]/\u.z=z/\NR w u:=by
 obtain⟨u,e,h1,h2⟩:=CF h (ak _);refine⟨u,?_,h1,h2⟩;have e2:=congrArg (fun v:Value=>match v with | .agg a=>a.toList | _=>[]) e;exact e2.symm
theorem Er {w:an} {B g:Nat} {u:NU} {b:Bool} {o:Option Addr} {l c:Nat} (hB:w.heap[g]?=some (.cells #[.bool b,.slice o l c] 26 (0,0))) (hu:nC u=[.bool b,.slice o l c]) (hR:NR w u) (hg:B<=g):nE.Row w B (.slice (some ⟨g,0,none⟩) 1 1) [u] where
 own:=⟨by simp[nE,nC],.inr ⟨g,1,_,rfl,hg,hB,ak _,by decide,rfl,by
  show ([Value.bool b,Value.slice o l c]).take (1*2)=[u].flatMap nC
  rw[List.flatMap_cons,hu];rfl⟩⟩
 n32 q hq:=by injection hq with hq;subst hq;exact⟨_,hB,jP⟩
 rd a ha:=by rw[List.mem_singleton] at ha;subst ha;exact hR
theorem Dt (g:F->V) (ks:List F):(ks.map g).all gX=decide (((ks.countP (fun f=>gX (g f)):Nat):Int)=((ks.length:Nat):Int)):=by
 have h:=List.countP_eq_length (p:=fun f=>gX (g f)) (l:=ks);rw[List.all_map]
 by_cases hx:ks.all (gX ∘ g)=true
 ·rw[hx];exact (decide_eq_true (by rw[h.2 (fun a ha=>List.all_eq_true.1 hx a ha)])).symm
 have nR:ks.all (gX ∘ g)=false:=by simpa using hx
 rw[nR];refine (decide_eq_false (fun e=>hx (List.all_eq_true.2 (fun a ha=>h.1 (by omega) a ha)))).symm
theorem Ds (g:F->V) (ks:List F):(ks.map g).any gX=decide ((0:Int)<((ks.countP (fun f=>gX (g f)):Nat):Int)):=by
 have h:=List.countP_pos_iff (p:=fun f=>gX (g f)) (l:=ks);rw[List.any_map]
 by_cases hx:ks.any (gX ∘ g)=true
 ·rw[hx];obtain⟨a,ha,hb⟩:=List.any_eq_true.1 hx;exact (decide_eq_true (by have:=h.2 ⟨a,ha,hb⟩;omega)).symm
 have nR:ks.any (gX ∘ g)=false:=by simpa using hx
 rw[nR];refine (decide_eq_false (fun e=>hx ?_)).symm;obtain⟨a,ha,hb⟩:=h.1 (by omega);exact List.any_eq_true.2 ⟨a,ha,hb⟩
theorem pZ (p:F->Bool) (ks:List F) (j:Nat) (hj:j<ks.length):(ks.take (j+1)).countP p=(ks.take j).countP p+(if p ks[j]=true then 1 else 0):=by
 rw[List.take_succ_eq_append_getElem hj,List.countP_append,List.countP_singleton]
theorem A7 (d:Nat) (IV:KM d):KM (d+1):=by
 intro ve v env t S w h he hr dF xD Ka;obtain⟨b,ao,l,c,ko,kl,kc,rfl,⟨-,hz,eR,hkc,hkm⟩,-,hk⟩:=h.open;have l_:=xD.1;have uQ:=xD.2.2.2.2;obtain⟨o,z,nm,ks⟩:=t;simp only[F.op,F.num,F.name,F.kids] at hz hk eR l_ uQ ⊢;rw[show d+1 - 1=d from rfl] at hk;obtain⟨hfit,fy⟩:=iA hr;have xE:=jO hfit;obtain⟨eo,en,ec,rfl⟩:=he.shape;have vA:kc<=9223372036854775807:=hkm;have hval:=dF.val;have Fc:kl<=9223372036854775807:=aq hkc hkm;have nM:=aa Ka;have o5:=aa uQ;have rZ:=aa IV;clear h hr hkm xD Ka uQ IV;have ho:o=0\/o=1\/o=2\/o=3\/o=4\/o=5\/o=6\/o=7\/o=8\/o=9\/o=10\/o=11\/o=12\/o=13\/o=14\/o=15\/o=16\/o=17\/o=18\/o=19\/o=20:=by omega
 clear xE;rcases ho with rfl | rfl | rfl | rfl | rfl | rfl | rfl | rfl | rfl | rfl | rfl | rfl | rfl | rfl | rfl | rfl | rfl | rfl | rfl | rfl | rfl
 ·have HX:=aa hk;have HZ:=aa hz;have HE:=aa he;have HW:=aa (av w.heap.size w);have cC:=aa eR;clear eR hkc hk hz he;have gN:Hid (ev (a_ env) (.node 0 z nm ks)=.I z):=aa rfl;clear dF fy hval hfit l_;go_enter cM,cA
  obtain⟨x1,kf,ef,hO,aR,gL,aj⟩:=aL w #[.int .i64 0,.bool b,.slice ao l c,.string nm,.slice ko kl kc] 29;replace HX:=aa (HX.out.below aR.out);replace HZ:=aa (HZ.out.below aR.out);replace HE:=aa (HE.out.below aR.out);replace HW:=aa (HW.out.trans (aR.out.mono HW.out.size));obtain⟨x2,kr,er,lZ,bP,gD,aD⟩:=aL x1 #[.int .i64 0,.bool false,.slice none 0 0,.bool false,.slice none 0 0] 41;replace aj:=aG bP.out aj;replace HX:=aa (HX.out.below bP.out);replace HZ:=aa (HZ.out.below bP.out);replace HE:=aa (HE.out.below bP.out);replace HW:=aa (HW.out.trans (bP.out.mono HW.out.size));have gp:Hid (w.heap.size<=kr):=aa (aq aR.out.size gD.out);have c0:=ae (v:=.int .i64 0) aj.out 0 rfl;have bM:=af aj.out 0;have c1:=ae (v:=.bool b) aj.out 1 rfl
  have bL:=af aj.out 1;have c2:=ae (v:=.slice ao l c) aj.out 2 rfl;have bK:=af aj.out 2;have c3:=ae (v:=.string nm) aj.out 3 rfl;have bJ:=af aj.out 3;have c4:=ae (v:=.slice ko kl kc) aj.out 4 rfl;have bI:=af aj.out 4;go_wp2_with fail
  refine (j_ _ (z) 600 x2 HZ.out.gi (by decide)).mono ?_;rintro e x3 ⟨v,rfl,hv,hb⟩;clear c0 bM c1 bL c2 bK c3 bJ c4 bI;replace aj:=aG hb aj;replace aD:=aG hb aD;replace HX:=aa (HX.out.below hb);replace HZ:=aa (HZ.out.below hb);replace HE:=aa (HE.out.below hb);replace HW:=aa (HW.out.trans (hb.mono HW.out.size));obtain⟨ov,lv,cv,rfl,-⟩:=hv.int;have HV:=aa hv;clear hv;obtain⟨⟨r0,r1,r2,r3,r4⟩,gT,gS,iF,iE,iD⟩:=aV aD.out;go_wp2_with fail
  obtain⟨s1,s2⟩:=gh HW.out aD.out eF gp.out (.int .i64 0) (.bool (decide ((z)<0))) (.slice ov lv cv) (.bool false) (.slice none 0 0)
  (try simp only[aE,aM])
  exact aB (v:=.agg #[.int .i64 0,.bool (decide ((z)<0)),.slice ov lv cv,.bool false,.slice none 0 0]) (by simp[results,bF,go_sem,r0,r1,r2,r3,r4]) rfl ⟨_,rfl,VC.fr (show VC _ _ (ev (a_ env) _) from by rw[gN.out];exact HV.out) (by decide) s1,s2⟩
 ·have HX:=aa hk;have HZ:=aa hz;have HE:=aa he;have HW:=aa (av w.heap.size w);have cC:=aa eR;clear eR hkc hk hz he;have tn:=nM.out 1 nm (by simp) l_
  have gN:Hid (ev (a_ env) (.node 1 z nm ks)=a_ env nm):=aa (by
   show V.I (fM (a_ env nm))=a_ env nm
   cases hx:a_ env nm with
   | I z=>first | rfl | (rw[hx] at tn;cases tn)
   | B b=>first | rfl | (rw[hx] at tn;cases tn)
   | L l=>first | rfl | (rw[hx] at tn;cases tn))
  clear tn dF fy hval hfit l_;go_enter cM,cA
  obtain⟨x1,kf,ef,hO,aR,gL,aj⟩:=aL w #[.int .i64 1,.bool b,.slice ao l c,.string nm,.slice ko kl kc] 29;replace HX:=aa (HX.out.below aR.out);replace HZ:=aa (HZ.out.below aR.out);replace HE:=aa (HE.out.below aR.out);replace HW:=aa (HW.out.trans (aR.out.mono HW.out.size));obtain⟨x2,kr,er,lZ,bP,gD,aD⟩:=aL x1 #[.int .i64 0,.bool false,.slice none 0 0,.bool false,.slice none 0 0] 41;replace aj:=aG bP.out aj;replace HX:=aa (HX.out.below bP.out);replace HZ:=aa (HZ.out.below bP.out);replace HE:=aa (HE.out.below bP.out);replace HW:=aa (HW.out.trans (bP.out.mono HW.out.size));have gp:Hid (w.heap.size<=kr):=aa (aq aR.out.size gD.out);have c0:=ae (v:=.int .i64 1) aj.out 0 rfl;have bM:=af aj.out 0;have c1:=ae (v:=.bool b) aj.out 1 rfl
  have bL:=af aj.out 1;have c2:=ae (v:=.slice ao l c) aj.out 2 rfl;have bK:=af aj.out 2;have c3:=ae (v:=.string nm) aj.out 3 rfl;have bJ:=af aj.out 3;have c4:=ae (v:=.slice ko kl kc) aj.out 4 rfl;have bI:=af aj.out 4;go_wp2_with fail
  refine (BH _ env nm x2 HE.out).mono ?_;rintro e x3 ⟨v,rfl,hv,hb⟩;clear c0 bM c1 bL c2 bK c3 bJ c4 bI;replace aj:=aG hb aj;replace aD:=aG hb aD;replace HX:=aa (HX.out.below hb);replace HZ:=aa (HZ.out.below hb);replace HE:=aa (HE.out.below hb);replace HW:=aa (HW.out.trans (hb.mono HW.out.size));obtain⟨kv,bv,ov,lv,cv,pv,mv,qv,rfl⟩:=hv.shape;have HV:=aa hv;clear hv;obtain⟨⟨r0,r1,r2,r3,r4⟩,gT,gS,iF,iE,iD⟩:=aV aD.out;go_wp2_with fail
  obtain⟨s1,s2⟩:=gh HW.out aD.out eF gp.out (.int .i64 kv) (.bool bv) (.slice ov lv cv) (.bool (gX (a_ env nm))) (.slice pv mv qv)
  (try simp only[aE,aM])
  exact aB (v:=.agg #[.int .i64 kv,.bool bv,.slice ov lv cv,.bool (gX (a_ env nm)),.slice pv mv qv]) (by simp[results,bF,go_sem,r0,r1,r2,r3,r4]) rfl ⟨_,rfl,VC.fr (show VC _ _ (ev (a_ env) _) from by rw[gN.out];exact HV.out) (by decide) s1,s2⟩
 ·have HX:=aa hk;have HZ:=aa hz;have HE:=aa he;have HW:=aa (av w.heap.size w);have cC:=aa eR;clear eR hkc hk hz he;obtain⟨p,q,rfl,hp,hq⟩:=iZ (ks:=ks) (s:=0) (r:=0) (by simpa [cO,bB] using hfit);have nn:=aa (dF.kG p (by simp));have nr:=aa (fy p (by simp));have wW:=aa (o5.out p (by simp));have wX:=aa (dF.kG q (by simp));have wY:=aa (fy q (by simp));have FM:=aa (o5.out q (by simp));obtain⟨X,hX⟩:∃ x,ev (a_ env) p=.I x:=⟨_,mb hp⟩
  have mc:=aa hX;obtain⟨Y,hY⟩:∃ x,ev (a_ env) q=.I x:=⟨_,mb hq⟩
  have wU:=aa hY;have gN:Hid (ev (a_ env) (.node 2 z nm [p,q])=.I (X+Y)):=aa (by rw[ev,iH,iH,iH,hX,hY];rfl);have lV:Hid (rH (.I (X+Y))):=aa (by have h3:=hval;rw[gN.out] at h3;exact h3);have uD:Hid (rH (ev (a_ env) p)):=aa (dF.kG p (by simp)).val;have FK:Hid (rH (ev (a_ env) q)):=aa (dF.kG q (by simp)).val;have gW:kl=2:=cC.out;subst gW;clear dF fy hval hfit l_ cC o5 hX hY hp hq;go_enter cM,cA
  obtain⟨x1,kf,ef,hO,aR,gL,aj⟩:=aL w #[.int .i64 2,.bool b,.slice ao l c,.string nm,.slice ko 2 kc] 29;replace HX:=aa (HX.out.below aR.out);replace HZ:=aa (HZ.out.below aR.out);replace HE:=aa (HE.out.below aR.out);replace HW:=aa (HW.out.trans (aR.out.mono HW.out.size));obtain⟨x2,kr,er,lZ,bP,gD,aD⟩:=aL x1 #[.int .i64 0,.bool false,.slice none 0 0,.bool false,.slice none 0 0] 41;replace aj:=aG bP.out aj;replace HX:=aa (HX.out.below bP.out);replace HZ:=aa (HZ.out.below bP.out);replace HE:=aa (HE.out.below bP.out);replace HW:=aa (HW.out.trans (bP.out.mono HW.out.size));have gp:Hid (w.heap.size<=kr):=aa (aq aR.out.size gD.out);have c0:=ae (v:=.int .i64 2) aj.out 0 rfl;have bM:=af aj.out 0;have c1:=ae (v:=.bool b) aj.out 1 rfl
  have bL:=af aj.out 1;have c2:=ae (v:=.slice ao l c) aj.out 2 rfl;have bK:=af aj.out 2;have c3:=ae (v:=.string nm) aj.out 3 rfl;have bJ:=af aj.out 3;have c4:=ae (v:=.slice ko 2 kc) aj.out 4 rfl;have bI:=af aj.out 4;obtain⟨a,bp,op,lp,cp,pP,pQ,pR,gV,⟨p0,p1,p2,p3,p4⟩,fB⟩:=HX.out.first;subst gV;obtain⟨pI,dH⟩:∃ x,x=p.op:=⟨_,rfl⟩
  obtain⟨pL,dI⟩:∃ x,x=p.name:=⟨_,rfl⟩
  rw[<-dH] at p0 fB;rw[<-dI] at p3 fB;have cg:=aa fB;have dj:Hid (sC x2 a pI bp op lp cp pL pP pQ pR):=aa ⟨p0,p1,p2,p3,p4⟩;clear dH dI fB p0 p1 p2 p3 p4;obtain⟨a2,bq,oq,lq,cq,vt,vu,vv,ou,⟨q0,q1,q2,q3,q4⟩,jd⟩:=HX.out.second;injection ou with tA;subst tA;obtain⟨vJ,js⟩:∃ x,x=q.op:=⟨_,rfl⟩
  obtain⟨vK,jt⟩:∃ x,x=q.name:=⟨_,rfl⟩
  rw[<-js] at q0 jd;rw[<-jt] at q3 jd;have fW:=aa jd;have gM:Hid (sC x2 ⟨a.block,a.off+5,none⟩ vJ bq oq lq cq vK vt vu vv):=aa ⟨q0,q1,q2,q3,q4⟩;clear js jt jd q0 q1 q2 q3 q4;obtain⟨y0,y1,y2,y3,y4⟩:=dj.out
  try simp only at y0 y1 y2 y3 y4
  go_wp2_with fail
  refine (rZ.out _ _ env p S x2 cg.out HE.out nr.out nn.out wW.out nM.out).mono ?_;rintro e x3 ⟨x,rfl,hv,hb⟩;clear c0 bM c1 bL c2 bK c3 bJ c4 bI y0 y1 y2 y3 y4;replace aj:=aG hb aj;replace aD:=aG hb aD;replace HX:=aa (HX.out.below hb);replace HZ:=aa (HZ.out.below hb);replace HE:=aa (HE.out.below hb);replace HW:=aa (HW.out.trans (hb.mono HW.out.size));replace cg:=aa (cg.out.below hb);replace dj:=aa (dj.out.below hb);replace fW:=aa (fW.out.below hb);replace gM:=aa (gM.out.below hb);rw[mc.out] at hv;have dD:=aa hv;obtain⟨qj,p8,pJ,pN,pY,pH,mh,oL,rfl⟩:=hv.shape;obtain⟨oN,je⟩:∃ d,d=gX (.I X):=⟨_,rfl⟩
  rw[<-je] at hv ⊢;replace dD:=aa hv;have jc:=aa hv.zi;clear je;clear hv;have zy:=aa (ag aj.out);have vj:=aa (ag aD.out);obtain⟨x4,ka,ea,AX,hba,hka,bk⟩:=aL x3 #[.int .i64 qj,.bool p8,.slice pJ pN pY,.bool oN,.slice pH mh oL] 41;replace aj:=aG hba.out aj;replace aD:=aG hba.out aD;replace HX:=aa (HX.out.below hba.out);replace HZ:=aa (HZ.out.below hba.out);replace HE:=aa (HE.out.below hba.out);replace HW:=aa (HW.out.trans (hba.out.mono HW.out.size));replace cg:=aa (cg.out.below hba.out);replace dj:=aa (dj.out.below hba.out);replace fW:=aa (fW.out.below hba.out);replace gM:=aa (gM.out.below hba.out);replace dD:=aa (dD.out.below hba.out);replace jc:=aa (jc.out.below hba.out);have xK:=aa (ag bk.out)
  have tK:=aa hba.out.size;go_upto_region 25 with fail
  obtain⟨x5,kz,ez,vD,hbz,mG,bG⟩:=aL x4 #[.int .i64 0,.bool false,.slice none 0 0,.bool false,.slice none 0 0] 41;replace aj:=aG hbz.out aj;replace aD:=aG hbz.out aD;replace bk:=aG hbz.out bk;replace HX:=aa (HX.out.below hbz.out);replace HZ:=aa (HZ.out.below hbz.out);replace HE:=aa (HE.out.below hbz.out);replace HW:=aa (HW.out.trans (hbz.out.mono HW.out.size));replace cg:=aa (cg.out.below hbz.out);replace dj:=aa (dj.out.below hbz.out);replace fW:=aa (fW.out.below hbz.out);replace gM:=aa (gM.out.below hbz.out);replace dD:=aa (dD.out.below hbz.out);replace jc:=aa (jc.out.below hbz.out);rw[ez,vD]
  have AN:Hid (w.heap.size<=kz):=aa (by have h1:=gp.out;have h2:=bP.out.size;have h3:=hba.out.size;have h4:=hka.out;have h5:=mG.out;have h6:=ag aD.out;have h7:=aR.out.size;have h8:=hb.size;omega);have c0:=ae (v:=.int .i64 2) aj.out 0 rfl;have bM:=af aj.out 0;have c1:=ae (v:=.bool b) aj.out 1 rfl;have bL:=af aj.out 1;have c2:=ae (v:=.slice ao l c) aj.out 2 rfl;have bK:=af aj.out 2;have c3:=ae (v:=.string nm) aj.out 3 rfl;have bJ:=af aj.out 3;have c4:=ae (v:=.slice (some a) 2 kc) aj.out 4 rfl;have bI:=af aj.out 4;obtain⟨y0,y1,y2,y3,y4⟩:=gM.out
  try simp only at y0 y1 y2 y3 y4
  have FQ:=aa (ag bG.out);go_wp2_with fail
  refine (rZ.out _ _ env q S x5 fW.out HE.out wY.out wX.out FM.out nM.out).mono ?_;rintro e x6 ⟨x,rfl,hv,hb⟩;clear c0 bM c1 bL c2 bK c3 bJ c4 bI y0 y1 y2 y3 y4;replace aj:=aG hb aj;replace aD:=aG hb aD;replace bk:=aG hb bk;replace bG:=aG hb bG;replace HX:=aa (HX.out.below hb);replace HZ:=aa (HZ.out.below hb);replace HE:=aa (HE.out.below hb);replace HW:=aa (HW.out.trans (hb.mono HW.out.size));replace cg:=aa (cg.out.below hb);replace dj:=aa (dj.out.below hb);replace fW:=aa (fW.out.below hb);replace gM:=aa (gM.out.below hb);replace dD:=aa (dD.out.below hb);replace jc:=aa (jc.out.below hb);rw[wU.out] at hv;have nk:=aa hv;obtain⟨sJ,sM,sG,sI,sL,sF,sH,sE,rfl⟩:=hv.shape;obtain⟨sn,qx⟩:∃ d,d=gX (.I Y):=⟨_,rfl⟩
  rw[<-qx] at hv ⊢;replace nk:=aa hv;have wZ:=aa hv.zi;clear qx;clear hv;have g0:=ae (v:=.int .i64 0) bG.out 0 rfl;have nF:=af bG.out 0;have g1:=ae (v:=.bool false) bG.out 1 rfl;have nD:=af bG.out 1;have g2:=ae (v:=.slice none 0 0) bG.out 2 rfl;have oA:=af bG.out 2;have g3:=ae (v:=.bool false) bG.out 3 rfl;have oz:=af bG.out 3;have g4:=ae (v:=.slice none 0 0) bG.out 4 rfl;have oy:=af bG.out 4;go_upto_region 27 with fail
  clear g0 nF g1 nD g2 oA g3 oz g4 oy;have eB:=aY (w:=x6) (k:=kz) (.int .i64 sJ) (.bool sM) (.slice sG sI sL) (.bool sn) (.slice sF sH sE);have jK:=fj bG.out (.int .i64 sJ) (.bool sM) (.slice sG sI sL) (.bool sn) (.slice sF sH sE);have jM:Fr 41 x6 _:=.aN eB (fun j hj=>by injection hj with hj;subst hj;exact⟨_,bG.out,eF⟩);obtain⟨W1,lN⟩:∃ q,q=((((x6.setCell ⟨kz,0,none⟩ (.int .i64 sJ)).setCell ⟨kz,1,none⟩ (.bool sM)).setCell ⟨kz,2,none⟩ (.slice sG sI sL)).setCell ⟨kz,3,none⟩ (.bool sn)).setCell ⟨kz,4,none⟩ (.slice sF sH sE):=⟨_,rfl⟩
  rw[<-lN] at eB jK jM ⊢;clear lN;replace aj:=aa ((eB.block kf (ag aj.out) (fun e=>by injection e with e;have h1:=mG.out;have h2:=zy.out;have h3:=tK.out;omega)).trans aj.out);replace aD:=aa ((eB.block kr (ag aD.out) (fun e=>by injection e with e;have h1:=mG.out;have h2:=vj.out;have h3:=tK.out;omega)).trans aD.out);replace bk:=aa ((eB.block ka (ag bk.out) (fun e=>by injection e with e;have h1:=mG.out;have h2:=xK.out;have h3:=tK.out;omega)).trans bk.out);replace bG:=aa jK;replace HW:=aa (aS HW.out eB AN.out);clear HX;replace HZ:=aa (HZ.out.fr jM);clear HE;clear cg;clear dj;clear fW;clear gM;replace dD:=aa (dD.out.fr (by decide) jM);replace jc:=aa (jc.out.fr jM);replace nk:=aa (nk.out.fr (by decide) jM)
  replace wZ:=aa (wZ.out.fr jM);clear eB jK jM;have c0:=ae (v:=.int .i64 2) aj.out 0 rfl;have bM:=af aj.out 0;have c1:=ae (v:=.bool b) aj.out 1 rfl;have bL:=af aj.out 1;have c2:=ae (v:=.slice ao l c) aj.out 2 rfl;have bK:=af aj.out 2;have c3:=ae (v:=.string nm) aj.out 3 rfl;have bJ:=af aj.out 3;have c4:=ae (v:=.slice (some a) 2 kc) aj.out 4 rfl;have bI:=af aj.out 4;have m0:=ae (v:=.int .i64 qj) bk.out 0 rfl;have jj:=af bk.out 0;have m1:=ae (v:=.bool p8) bk.out 1 rfl;have ji:=af bk.out 1;have m2:=ae (v:=.slice pJ pN pY) bk.out 2 rfl;have uZ:=af bk.out 2;have m3:=ae (v:=.bool oN) bk.out 3 rfl;have uY:=af bk.out 3;have m4:=ae (v:=.slice pH mh oL) bk.out 4 rfl;have uX:=af bk.out 4
  have n0:=ae (v:=.int .i64 sJ) bG.out 0 rfl;have fn0:=af bG.out 0;have n1:=ae (v:=.bool sM) bG.out 1 rfl;have uW:=af bG.out 1;have n2:=ae (v:=.slice sG sI sL) bG.out 2 rfl;have uV:=af bG.out 2;have n3:=ae (v:=.bool sn) bG.out 3 rfl;have uU:=af bG.out 3;have n4:=ae (v:=.slice sF sH sE) bG.out 4 rfl;have uT:=af bG.out 4;go_wp2_with fail
  refine (sU _ _ X Y 600 600 W1 jc.out.gi wZ.out.gi (by decide) (by decide)).mono ?_;rintro e x7 ⟨y,rfl,hy,hb⟩;clear c0 bM c1 bL c2 bK c3 bJ c4 bI m0 jj m1 ji m2 uZ m3 uY m4 uX n0 fn0 n1 uW n2 uV n3 uU n4 uT;replace aj:=aG hb aj;replace aD:=aG hb aD;replace bk:=aG hb bk;replace bG:=aG hb bG;replace HZ:=aa (HZ.out.below hb);replace HW:=aa (HW.out.trans (hb.mono HW.out.size));replace dD:=aa (dD.out.below hb);replace jc:=aa (jc.out.below hb);replace nk:=aa (nk.out.below hb);replace wZ:=aa (wZ.out.below hb);have rO:=aa (CI.sm hy lV.out);obtain⟨b9,o9,l9,c9,rfl⟩:=hy.shape;clear hy;go_wp2_with fail
  refine (j_ _ (X+Y) 600 x7 rO.out.gi (by decide)).mono ?_;rintro e x8 ⟨v,rfl,hv,hb⟩;replace aj:=aG hb aj;replace aD:=aG hb aD;replace bk:=aG hb bk;replace bG:=aG hb bG;replace HZ:=aa (HZ.out.below hb);replace HW:=aa (HW.out.trans (hb.mono HW.out.size));replace dD:=aa (dD.out.below hb);replace jc:=aa (jc.out.below hb);replace nk:=aa (nk.out.below hb);replace wZ:=aa (wZ.out.below hb);replace rO:=aa (rO.out.below hb);obtain⟨ov,lv,cv,rfl,-⟩:=hv.int;have HV:=aa hv;clear hv;obtain⟨⟨r0,r1,r2,r3,r4⟩,gT,gS,iF,iE,iD⟩:=aV aD.out;go_wp2_with fail
  obtain⟨s1,s2⟩:=gh HW.out aD.out eF gp.out (.int .i64 0) (.bool (decide ((X+Y)<0))) (.slice ov lv cv) (.bool false) (.slice none 0 0)
  (try simp only[aE,aM])
  exact aB (v:=.agg #[.int .i64 0,.bool (decide ((X+Y)<0)),.slice ov lv cv,.bool false,.slice none 0 0]) (by simp[results,bF,go_sem,r0,r1,r2,r3,r4]) rfl ⟨_,rfl,VC.fr (show VC _ _ (ev (a_ env) _) from by rw[gN.out];exact HV.out) (by decide) s1,s2⟩
 ·have HX:=aa hk;have HZ:=aa hz;have HE:=aa he;have HW:=aa (av w.heap.size w);have cC:=aa eR;clear eR hkc hk hz he;obtain⟨p,rfl,hp⟩:=i_ (ks:=ks) (s:=0) (by simpa [cO,bB] using hfit);have nn:=aa (dF.kG p (by simp));have nr:=aa (fy p (by simp));have wW:=aa (o5.out p (by simp));obtain⟨X,hX⟩:∃ x,ev (a_ env) p=.I x:=⟨_,mb hp⟩
  have mc:=aa hX;have gN:Hid (ev (a_ env) (.node 3 z nm [p])=.I (z*X)):=aa (by rw[ev,iH,iH,hX];rfl);have lV:Hid (rH (.I (z*X))):=aa (by have h3:=hval;rw[gN.out] at h3;exact h3);have uD:Hid (rH (ev (a_ env) p)):=aa (dF.kG p (by simp)).val;have gW:kl=1:=cC.out;subst gW;clear dF fy hval hfit l_ cC o5 hX hp;go_enter cM,cA
  obtain⟨x1,kf,ef,hO,aR,gL,aj⟩:=aL w #[.int .i64 3,.bool b,.slice ao l c,.string nm,.slice ko 1 kc] 29;replace HX:=aa (HX.out.below aR.out);replace HZ:=aa (HZ.out.below aR.out);replace HE:=aa (HE.out.below aR.out);replace HW:=aa (HW.out.trans (aR.out.mono HW.out.size));obtain⟨x2,kr,er,lZ,bP,gD,aD⟩:=aL x1 #[.int .i64 0,.bool false,.slice none 0 0,.bool false,.slice none 0 0] 41;replace aj:=aG bP.out aj;replace HX:=aa (HX.out.below bP.out);replace HZ:=aa (HZ.out.below bP.out);replace HE:=aa (HE.out.below bP.out);replace HW:=aa (HW.out.trans (bP.out.mono HW.out.size));have gp:Hid (w.heap.size<=kr):=aa (aq aR.out.size gD.out);have c0:=ae (v:=.int .i64 3) aj.out 0 rfl;have bM:=af aj.out 0;have c1:=ae (v:=.bool b) aj.out 1 rfl
  have bL:=af aj.out 1;have c2:=ae (v:=.slice ao l c) aj.out 2 rfl;have bK:=af aj.out 2;have c3:=ae (v:=.string nm) aj.out 3 rfl;have bJ:=af aj.out 3;have c4:=ae (v:=.slice ko 1 kc) aj.out 4 rfl;have bI:=af aj.out 4;obtain⟨a,bp,op,lp,cp,pP,pQ,pR,gV,⟨p0,p1,p2,p3,p4⟩,fB⟩:=HX.out.first;subst gV;obtain⟨pI,dH⟩:∃ x,x=p.op:=⟨_,rfl⟩
  obtain⟨pL,dI⟩:∃ x,x=p.name:=⟨_,rfl⟩
  rw[<-dH] at p0 fB;rw[<-dI] at p3 fB;have cg:=aa fB;have dj:Hid (sC x2 a pI bp op lp cp pL pP pQ pR):=aa ⟨p0,p1,p2,p3,p4⟩;clear dH dI fB p0 p1 p2 p3 p4;obtain⟨y0,y1,y2,y3,y4⟩:=dj.out
  try simp only at y0 y1 y2 y3 y4
  go_wp2_with fail
  refine (rZ.out _ _ env p S x2 cg.out HE.out nr.out nn.out wW.out nM.out).mono ?_;rintro e x3 ⟨x,rfl,hv,hb⟩;clear c0 bM c1 bL c2 bK c3 bJ c4 bI y0 y1 y2 y3 y4;replace aj:=aG hb aj;replace aD:=aG hb aD;replace HX:=aa (HX.out.below hb);replace HZ:=aa (HZ.out.below hb);replace HE:=aa (HE.out.below hb);replace HW:=aa (HW.out.trans (hb.mono HW.out.size));replace cg:=aa (cg.out.below hb);replace dj:=aa (dj.out.below hb);rw[mc.out] at hv;have dD:=aa hv;obtain⟨qj,p8,pJ,pN,pY,pH,mh,oL,rfl⟩:=hv.shape;obtain⟨oN,je⟩:∃ d,d=gX (.I X):=⟨_,rfl⟩
  rw[<-je] at hv ⊢;replace dD:=aa hv;have jc:=aa hv.zi;clear je;clear hv;have zy:=aa (ag aj.out);have vj:=aa (ag aD.out);obtain⟨x4,ka,ea,AX,hba,hka,bk⟩:=aL x3 #[.int .i64 qj,.bool p8,.slice pJ pN pY,.bool oN,.slice pH mh oL] 41;replace aj:=aG hba.out aj;replace aD:=aG hba.out aD;replace HX:=aa (HX.out.below hba.out);replace HZ:=aa (HZ.out.below hba.out);replace HE:=aa (HE.out.below hba.out);replace HW:=aa (HW.out.trans (hba.out.mono HW.out.size));replace cg:=aa (cg.out.below hba.out);replace dj:=aa (dj.out.below hba.out);replace dD:=aa (dD.out.below hba.out);replace jc:=aa (jc.out.below hba.out);have xK:=aa (ag bk.out);have tK:=aa hba.out.size;go_upto_region 25 with fail
  obtain⟨x5,kz,ez,vD,hbz,mG,bG⟩:=aL x4 #[.int .i64 0,.bool false,.slice none 0 0,.bool false,.slice none 0 0] 41;replace aj:=aG hbz.out aj;replace aD:=aG hbz.out aD;replace bk:=aG hbz.out bk;replace HX:=aa (HX.out.below hbz.out);replace HZ:=aa (HZ.out.below hbz.out);replace HE:=aa (HE.out.below hbz.out);replace HW:=aa (HW.out.trans (hbz.out.mono HW.out.size));replace cg:=aa (cg.out.below hbz.out);replace dj:=aa (dj.out.below hbz.out);replace dD:=aa (dD.out.below hbz.out);replace jc:=aa (jc.out.below hbz.out);rw[ez,vD];have AN:Hid (w.heap.size<=kz):=aa (by have h1:=gp.out;have h2:=bP.out.size;have h3:=hba.out.size;have h4:=hka.out;have h5:=mG.out;have h6:=ag aD.out;have h7:=aR.out.size;have h8:=hb.size;omega)
  have c0:=ae (v:=.int .i64 3) aj.out 0 rfl;have bM:=af aj.out 0;have c1:=ae (v:=.bool b) aj.out 1 rfl;have bL:=af aj.out 1;have c2:=ae (v:=.slice ao l c) aj.out 2 rfl;have bK:=af aj.out 2;have c3:=ae (v:=.string nm) aj.out 3 rfl;have bJ:=af aj.out 3;have c4:=ae (v:=.slice (some a) 1 kc) aj.out 4 rfl;have bI:=af aj.out 4;have m0:=ae (v:=.int .i64 qj) bk.out 0 rfl;have jj:=af bk.out 0;have m1:=ae (v:=.bool p8) bk.out 1 rfl;have ji:=af bk.out 1;have m2:=ae (v:=.slice pJ pN pY) bk.out 2 rfl;have uZ:=af bk.out 2;have m3:=ae (v:=.bool oN) bk.out 3 rfl;have uY:=af bk.out 3;have m4:=ae (v:=.slice pH mh oL) bk.out 4 rfl;have uX:=af bk.out 4;have n0:=ae (v:=.int .i64 0) bG.out 0 rfl
  have fn0:=af bG.out 0;have n1:=ae (v:=.bool false) bG.out 1 rfl;have uW:=af bG.out 1;have n2:=ae (v:=.slice none 0 0) bG.out 2 rfl;have uV:=af bG.out 2;have n3:=ae (v:=.bool false) bG.out 3 rfl;have uU:=af bG.out 3;have n4:=ae (v:=.slice none 0 0) bG.out 4 rfl;have uT:=af bG.out 4;go_wp2_with fail
  refine (sS _ _ z X 600 600 x5 HZ.out.gi jc.out.gi (by decide) (by decide)).mono ?_;rintro e x6 ⟨y,rfl,hy,hb⟩;clear c0 bM c1 bL c2 bK c3 bJ c4 bI m0 jj m1 ji m2 uZ m3 uY m4 uX n0 fn0 n1 uW n2 uV n3 uU n4 uT;replace aj:=aG hb aj;replace aD:=aG hb aD;replace bk:=aG hb bk;replace bG:=aG hb bG;replace HX:=aa (HX.out.below hb);replace HZ:=aa (HZ.out.below hb);replace HE:=aa (HE.out.below hb);replace HW:=aa (HW.out.trans (hb.mono HW.out.size));replace cg:=aa (cg.out.below hb);replace dj:=aa (dj.out.below hb);replace dD:=aa (dD.out.below hb);replace jc:=aa (jc.out.below hb);have rO:=aa (CI.sm hy lV.out);obtain⟨b9,o9,l9,c9,rfl⟩:=hy.shape;clear hy;go_wp2_with fail
  refine (j_ _ (z*X) 600 x6 rO.out.gi (by decide)).mono ?_;rintro e x7 ⟨v,rfl,hv,hb⟩;replace aj:=aG hb aj;replace aD:=aG hb aD;replace bk:=aG hb bk;replace bG:=aG hb bG;replace HX:=aa (HX.out.below hb);replace HZ:=aa (HZ.out.below hb);replace HE:=aa (HE.out.below hb);replace HW:=aa (HW.out.trans (hb.mono HW.out.size));replace cg:=aa (cg.out.below hb);replace dj:=aa (dj.out.below hb);replace dD:=aa (dD.out.below hb);replace jc:=aa (jc.out.below hb);replace rO:=aa (rO.out.below hb);obtain⟨ov,lv,cv,rfl,-⟩:=hv.int;have HV:=aa hv;clear hv;obtain⟨⟨r0,r1,r2,r3,r4⟩,gT,gS,iF,iE,iD⟩:=aV aD.out;go_wp2_with fail
  obtain⟨s1,s2⟩:=gh HW.out aD.out eF gp.out (.int .i64 0) (.bool (decide ((z*X)<0))) (.slice ov lv cv) (.bool false) (.slice none 0 0)
  (try simp only[aE,aM])
  exact aB (v:=.agg #[.int .i64 0,.bool (decide ((z*X)<0)),.slice ov lv cv,.bool false,.slice none 0 0]) (by simp[results,bF,go_sem,r0,r1,r2,r3,r4]) rfl ⟨_,rfl,VC.fr (show VC _ _ (ev (a_ env) _) from by rw[gN.out];exact HV.out) (by decide) s1,s2⟩
 ·have HX:=aa hk;have HZ:=aa hz;have HE:=aa he;have HW:=aa (av w.heap.size w);have cC:=aa eR;clear eR hkc hk hz he;obtain⟨p,q,rfl,hp,hq⟩:=iZ (ks:=ks) (s:=0) (r:=0) (by simpa [cO,bB] using hfit);have nn:=aa (dF.kG p (by simp));have nr:=aa (fy p (by simp));have wW:=aa (o5.out p (by simp));have wX:=aa (dF.kG q (by simp));have wY:=aa (fy q (by simp));have FM:=aa (o5.out q (by simp));obtain⟨X,hX⟩:∃ x,ev (a_ env) p=.I x:=⟨_,mb hp⟩
  have mc:=aa hX;obtain⟨Y,hY⟩:∃ x,ev (a_ env) q=.I x:=⟨_,mb hq⟩
  have wU:=aa hY;have gN:Hid (ev (a_ env) (.node 4 z nm [p,q])=.I (X*Y)):=aa (by rw[ev,iH,iH,iH,hX,hY];rfl);have lV:Hid (rH (.I (X*Y))):=aa (by have h3:=hval;rw[gN.out] at h3;exact h3);have uD:Hid (rH (ev (a_ env) p)):=aa (dF.kG p (by simp)).val;have FK:Hid (rH (ev (a_ env) q)):=aa (dF.kG q (by simp)).val;have gW:kl=2:=cC.out;subst gW;clear dF fy hval hfit l_ cC o5 hX hY hp hq;go_enter cM,cA
  obtain⟨x1,kf,ef,hO,aR,gL,aj⟩:=aL w #[.int .i64 4,.bool b,.slice ao l c,.string nm,.slice ko 2 kc] 29;replace HX:=aa (HX.out.below aR.out);replace HZ:=aa (HZ.out.below aR.out);replace HE:=aa (HE.out.below aR.out);replace HW:=aa (HW.out.trans (aR.out.mono HW.out.size));obtain⟨x2,kr,er,lZ,bP,gD,aD⟩:=aL x1 #[.int .i64 0,.bool false,.slice none 0 0,.bool false,.slice none 0 0] 41;replace aj:=aG bP.out aj;replace HX:=aa (HX.out.below bP.out);replace HZ:=aa (HZ.out.below bP.out);replace HE:=aa (HE.out.below bP.out);replace HW:=aa (HW.out.trans (bP.out.mono HW.out.size));have gp:Hid (w.heap.size<=kr):=aa (aq aR.out.size gD.out);have c0:=ae (v:=.int .i64 4) aj.out 0 rfl;have bM:=af aj.out 0;have c1:=ae (v:=.bool b) aj.out 1 rfl
  have bL:=af aj.out 1;have c2:=ae (v:=.slice ao l c) aj.out 2 rfl;have bK:=af aj.out 2;have c3:=ae (v:=.string nm) aj.out 3 rfl;have bJ:=af aj.out 3;have c4:=ae (v:=.slice ko 2 kc) aj.out 4 rfl;have bI:=af aj.out 4;obtain⟨a,bp,op,lp,cp,pP,pQ,pR,gV,⟨p0,p1,p2,p3,p4⟩,fB⟩:=HX.out.first;subst gV;obtain⟨pI,dH⟩:∃ x,x=p.op:=⟨_,rfl⟩
  obtain⟨pL,dI⟩:∃ x,x=p.name:=⟨_,rfl⟩
  rw[<-dH] at p0 fB;rw[<-dI] at p3 fB;have cg:=aa fB;have dj:Hid (sC x2 a pI bp op lp cp pL pP pQ pR):=aa ⟨p0,p1,p2,p3,p4⟩;clear dH dI fB p0 p1 p2 p3 p4;obtain⟨a2,bq,oq,lq,cq,vt,vu,vv,ou,⟨q0,q1,q2,q3,q4⟩,jd⟩:=HX.out.second;injection ou with tA;subst tA;obtain⟨vJ,js⟩:∃ x,x=q.op:=⟨_,rfl⟩
  obtain⟨vK,jt⟩:∃ x,x=q.name:=⟨_,rfl⟩
  rw[<-js] at q0 jd;rw[<-jt] at q3 jd;have fW:=aa jd;have gM:Hid (sC x2 ⟨a.block,a.off+5,none⟩ vJ bq oq lq cq vK vt vu vv):=aa ⟨q0,q1,q2,q3,q4⟩;clear js jt jd q0 q1 q2 q3 q4;obtain⟨y0,y1,y2,y3,y4⟩:=dj.out
  try simp only at y0 y1 y2 y3 y4
  go_wp2_with fail
  refine (rZ.out _ _ env p S x2 cg.out HE.out nr.out nn.out wW.out nM.out).mono ?_;rintro e x3 ⟨x,rfl,hv,hb⟩;clear c0 bM c1 bL c2 bK c3 bJ c4 bI y0 y1 y2 y3 y4;replace aj:=aG hb aj;replace aD:=aG hb aD;replace HX:=aa (HX.out.below hb);replace HZ:=aa (HZ.out.below hb);replace HE:=aa (HE.out.below hb);replace HW:=aa (HW.out.trans (hb.mono HW.out.size));replace cg:=aa (cg.out.below hb);replace dj:=aa (dj.out.below hb);replace fW:=aa (fW.out.below hb);replace gM:=aa (gM.out.below hb);rw[mc.out] at hv;have dD:=aa hv;obtain⟨qj,p8,pJ,pN,pY,pH,mh,oL,rfl⟩:=hv.shape;obtain⟨oN,je⟩:∃ d,d=gX (.I X):=⟨_,rfl⟩
  rw[<-je] at hv ⊢;replace dD:=aa hv;have jc:=aa hv.zi;clear je;clear hv;have zy:=aa (ag aj.out);have vj:=aa (ag aD.out);obtain⟨x4,ka,ea,AX,hba,hka,bk⟩:=aL x3 #[.int .i64 qj,.bool p8,.slice pJ pN pY,.bool oN,.slice pH mh oL] 41;replace aj:=aG hba.out aj;replace aD:=aG hba.out aD;replace HX:=aa (HX.out.below hba.out);replace HZ:=aa (HZ.out.below hba.out);replace HE:=aa (HE.out.below hba.out);replace HW:=aa (HW.out.trans (hba.out.mono HW.out.size));replace cg:=aa (cg.out.below hba.out);replace dj:=aa (dj.out.below hba.out);replace fW:=aa (fW.out.below hba.out);replace gM:=aa (gM.out.below hba.out);replace dD:=aa (dD.out.below hba.out);replace jc:=aa (jc.out.below hba.out);have xK:=aa (ag bk.out)
  have tK:=aa hba.out.size;go_upto_region 25 with fail
  obtain⟨x5,kz,ez,vD,hbz,mG,bG⟩:=aL x4 #[.int .i64 0,.bool false,.slice none 0 0,.bool false,.slice none 0 0] 41;replace aj:=aG hbz.out aj;replace aD:=aG hbz.out aD;replace bk:=aG hbz.out bk;replace HX:=aa (HX.out.below hbz.out);replace HZ:=aa (HZ.out.below hbz.out);replace HE:=aa (HE.out.below hbz.out);replace HW:=aa (HW.out.trans (hbz.out.mono HW.out.size));replace cg:=aa (cg.out.below hbz.out);replace dj:=aa (dj.out.below hbz.out);replace fW:=aa (fW.out.below hbz.out);replace gM:=aa (gM.out.below hbz.out);replace dD:=aa (dD.out.below hbz.out);replace jc:=aa (jc.out.below hbz.out);rw[ez,vD]
  have AN:Hid (w.heap.size<=kz):=aa (by have h1:=gp.out;have h2:=bP.out.size;have h3:=hba.out.size;have h4:=hka.out;have h5:=mG.out;have h6:=ag aD.out;have h7:=aR.out.size;have h8:=hb.size;omega);have c0:=ae (v:=.int .i64 4) aj.out 0 rfl;have bM:=af aj.out 0;have c1:=ae (v:=.bool b) aj.out 1 rfl;have bL:=af aj.out 1;have c2:=ae (v:=.slice ao l c) aj.out 2 rfl;have bK:=af aj.out 2;have c3:=ae (v:=.string nm) aj.out 3 rfl;have bJ:=af aj.out 3;have c4:=ae (v:=.slice (some a) 2 kc) aj.out 4 rfl;have bI:=af aj.out 4;obtain⟨y0,y1,y2,y3,y4⟩:=gM.out
  try simp only at y0 y1 y2 y3 y4
  have FQ:=aa (ag bG.out);go_wp2_with fail
  refine (rZ.out _ _ env q S x5 fW.out HE.out wY.out wX.out FM.out nM.out).mono ?_;rintro e x6 ⟨x,rfl,hv,hb⟩;clear c0 bM c1 bL c2 bK c3 bJ c4 bI y0 y1 y2 y3 y4;replace aj:=aG hb aj;replace aD:=aG hb aD;replace bk:=aG hb bk;replace bG:=aG hb bG;replace HX:=aa (HX.out.below hb);replace HZ:=aa (HZ.out.below hb);replace HE:=aa (HE.out.below hb);replace HW:=aa (HW.out.trans (hb.mono HW.out.size));replace cg:=aa (cg.out.below hb);replace dj:=aa (dj.out.below hb);replace fW:=aa (fW.out.below hb);replace gM:=aa (gM.out.below hb);replace dD:=aa (dD.out.below hb);replace jc:=aa (jc.out.below hb);rw[wU.out] at hv;have nk:=aa hv;obtain⟨sJ,sM,sG,sI,sL,sF,sH,sE,rfl⟩:=hv.shape;obtain⟨sn,qx⟩:∃ d,d=gX (.I Y):=⟨_,rfl⟩
  rw[<-qx] at hv ⊢;replace nk:=aa hv;have wZ:=aa hv.zi;clear qx;clear hv;have g0:=ae (v:=.int .i64 0) bG.out 0 rfl;have nF:=af bG.out 0;have g1:=ae (v:=.bool false) bG.out 1 rfl;have nD:=af bG.out 1;have g2:=ae (v:=.slice none 0 0) bG.out 2 rfl;have oA:=af bG.out 2;have g3:=ae (v:=.bool false) bG.out 3 rfl;have oz:=af bG.out 3;have g4:=ae (v:=.slice none 0 0) bG.out 4 rfl;have oy:=af bG.out 4;go_upto_region 27 with fail
  clear g0 nF g1 nD g2 oA g3 oz g4 oy;have eB:=aY (w:=x6) (k:=kz) (.int .i64 sJ) (.bool sM) (.slice sG sI sL) (.bool sn) (.slice sF sH sE);have jK:=fj bG.out (.int .i64 sJ) (.bool sM) (.slice sG sI sL) (.bool sn) (.slice sF sH sE);have jM:Fr 41 x6 _:=.aN eB (fun j hj=>by injection hj with hj;subst hj;exact⟨_,bG.out,eF⟩);obtain⟨W1,lN⟩:∃ q,q=((((x6.setCell ⟨kz,0,none⟩ (.int .i64 sJ)).setCell ⟨kz,1,none⟩ (.bool sM)).setCell ⟨kz,2,none⟩ (.slice sG sI sL)).setCell ⟨kz,3,none⟩ (.bool sn)).setCell ⟨kz,4,none⟩ (.slice sF sH sE):=⟨_,rfl⟩
  rw[<-lN] at eB jK jM ⊢;clear lN;replace aj:=aa ((eB.block kf (ag aj.out) (fun e=>by injection e with e;have h1:=mG.out;have h2:=zy.out;have h3:=tK.out;omega)).trans aj.out);replace aD:=aa ((eB.block kr (ag aD.out) (fun e=>by injection e with e;have h1:=mG.out;have h2:=vj.out;have h3:=tK.out;omega)).trans aD.out);replace bk:=aa ((eB.block ka (ag bk.out) (fun e=>by injection e with e;have h1:=mG.out;have h2:=xK.out;have h3:=tK.out;omega)).trans bk.out);replace bG:=aa jK;replace HW:=aa (aS HW.out eB AN.out);clear HX;replace HZ:=aa (HZ.out.fr jM);clear HE;clear cg;clear dj;clear fW;clear gM;replace dD:=aa (dD.out.fr (by decide) jM);replace jc:=aa (jc.out.fr jM);replace nk:=aa (nk.out.fr (by decide) jM)
  replace wZ:=aa (wZ.out.fr jM);clear eB jK jM;have c0:=ae (v:=.int .i64 4) aj.out 0 rfl;have bM:=af aj.out 0;have c1:=ae (v:=.bool b) aj.out 1 rfl;have bL:=af aj.out 1;have c2:=ae (v:=.slice ao l c) aj.out 2 rfl;have bK:=af aj.out 2;have c3:=ae (v:=.string nm) aj.out 3 rfl;have bJ:=af aj.out 3;have c4:=ae (v:=.slice (some a) 2 kc) aj.out 4 rfl;have bI:=af aj.out 4;have m0:=ae (v:=.int .i64 qj) bk.out 0 rfl;have jj:=af bk.out 0;have m1:=ae (v:=.bool p8) bk.out 1 rfl;have ji:=af bk.out 1;have m2:=ae (v:=.slice pJ pN pY) bk.out 2 rfl;have uZ:=af bk.out 2;have m3:=ae (v:=.bool oN) bk.out 3 rfl;have uY:=af bk.out 3;have m4:=ae (v:=.slice pH mh oL) bk.out 4 rfl;have uX:=af bk.out 4
  have n0:=ae (v:=.int .i64 sJ) bG.out 0 rfl;have fn0:=af bG.out 0;have n1:=ae (v:=.bool sM) bG.out 1 rfl;have uW:=af bG.out 1;have n2:=ae (v:=.slice sG sI sL) bG.out 2 rfl;have uV:=af bG.out 2;have n3:=ae (v:=.bool sn) bG.out 3 rfl;have uU:=af bG.out 3;have n4:=ae (v:=.slice sF sH sE) bG.out 4 rfl;have uT:=af bG.out 4;go_wp2_with fail
  refine (sS _ _ X Y 600 600 W1 jc.out.gi wZ.out.gi (by decide) (by decide)).mono ?_;rintro e x7 ⟨y,rfl,hy,hb⟩;clear c0 bM c1 bL c2 bK c3 bJ c4 bI m0 jj m1 ji m2 uZ m3 uY m4 uX n0 fn0 n1 uW n2 uV n3 uU n4 uT;replace aj:=aG hb aj;replace aD:=aG hb aD;replace bk:=aG hb bk;replace bG:=aG hb bG;replace HZ:=aa (HZ.out.below hb);replace HW:=aa (HW.out.trans (hb.mono HW.out.size));replace dD:=aa (dD.out.below hb);replace jc:=aa (jc.out.below hb);replace nk:=aa (nk.out.below hb);replace wZ:=aa (wZ.out.below hb);have rO:=aa (CI.sm hy lV.out);obtain⟨b9,o9,l9,c9,rfl⟩:=hy.shape;clear hy;go_wp2_with fail
  refine (j_ _ (X*Y) 600 x7 rO.out.gi (by decide)).mono ?_;rintro e x8 ⟨v,rfl,hv,hb⟩;replace aj:=aG hb aj;replace aD:=aG hb aD;replace bk:=aG hb bk;replace bG:=aG hb bG;replace HZ:=aa (HZ.out.below hb);replace HW:=aa (HW.out.trans (hb.mono HW.out.size));replace dD:=aa (dD.out.below hb);replace jc:=aa (jc.out.below hb);replace nk:=aa (nk.out.below hb);replace wZ:=aa (wZ.out.below hb);replace rO:=aa (rO.out.below hb);obtain⟨ov,lv,cv,rfl,-⟩:=hv.int;have HV:=aa hv;clear hv;obtain⟨⟨r0,r1,r2,r3,r4⟩,gT,gS,iF,iE,iD⟩:=aV aD.out;go_wp2_with fail
  obtain⟨s1,s2⟩:=gh HW.out aD.out eF gp.out (.int .i64 0) (.bool (decide ((X*Y)<0))) (.slice ov lv cv) (.bool false) (.slice none 0 0)
  (try simp only[aE,aM])
  exact aB (v:=.agg #[.int .i64 0,.bool (decide ((X*Y)<0)),.slice ov lv cv,.bool false,.slice none 0 0]) (by simp[results,bF,go_sem,r0,r1,r2,r3,r4]) rfl ⟨_,rfl,VC.fr (show VC _ _ (ev (a_ env) _) from by rw[gN.out];exact HV.out) (by decide) s1,s2⟩
 ·have HX:=aa hk;have HZ:=aa hz;have HE:=aa he;have HW:=aa (av w.heap.size w);have cC:=aa eR;clear eR hkc hk hz he;obtain⟨p,rfl,hp⟩:=i_ (ks:=ks) (s:=0) (by simp[cO,bB] at hfit;exact hfit.1);have nn:=aa (dF.kG p (by simp));have nr:=aa (fy p (by simp));have wW:=aa (o5.out p (by simp));obtain⟨X,hX⟩:∃ x,ev (a_ env) p=.I x:=⟨_,mb hp⟩
  have mc:=aa hX;have gN:Hid (ev (a_ env) (.node 5 z nm [p])=.I (Int.fdiv X z)):=aa (by rw[ev,iH,iH,hX];rfl);have lV:Hid (rH (.I (Int.fdiv X z))):=aa (by have h3:=hval;rw[gN.out] at h3;exact h3);have uD:Hid (rH (ev (a_ env) p)):=aa (dF.kG p (by simp)).val;have Qk:Hid (1<=z):=aa (by simp[cO,bB] at hfit;exact hfit.2);have gW:kl=1:=cC.out;subst gW;clear dF fy hval hfit l_ cC o5 hX hp;go_enter cM,cA
  obtain⟨x1,kf,ef,hO,aR,gL,aj⟩:=aL w #[.int .i64 5,.bool b,.slice ao l c,.string nm,.slice ko 1 kc] 29;replace HX:=aa (HX.out.below aR.out);replace HZ:=aa (HZ.out.below aR.out);replace HE:=aa (HE.out.below aR.out);replace HW:=aa (HW.out.trans (aR.out.mono HW.out.size));obtain⟨x2,kr,er,lZ,bP,gD,aD⟩:=aL x1 #[.int .i64 0,.bool false,.slice none 0 0,.bool false,.slice none 0 0] 41;replace aj:=aG bP.out aj;replace HX:=aa (HX.out.below bP.out);replace HZ:=aa (HZ.out.below bP.out);replace HE:=aa (HE.out.below bP.out);replace HW:=aa (HW.out.trans (bP.out.mono HW.out.size));have gp:Hid (w.heap.size<=kr):=aa (aq aR.out.size gD.out);have c0:=ae (v:=.int .i64 5) aj.out 0 rfl;have bM:=af aj.out 0;have c1:=ae (v:=.bool b) aj.out 1 rfl
  have bL:=af aj.out 1;have c2:=ae (v:=.slice ao l c) aj.out 2 rfl;have bK:=af aj.out 2;have c3:=ae (v:=.string nm) aj.out 3 rfl;have bJ:=af aj.out 3;have c4:=ae (v:=.slice ko 1 kc) aj.out 4 rfl;have bI:=af aj.out 4;obtain⟨a,bp,op,lp,cp,pP,pQ,pR,gV,⟨p0,p1,p2,p3,p4⟩,fB⟩:=HX.out.first;subst gV;obtain⟨pI,dH⟩:∃ x,x=p.op:=⟨_,rfl⟩
  obtain⟨pL,dI⟩:∃ x,x=p.name:=⟨_,rfl⟩
  rw[<-dH] at p0 fB;rw[<-dI] at p3 fB;have cg:=aa fB;have dj:Hid (sC x2 a pI bp op lp cp pL pP pQ pR):=aa ⟨p0,p1,p2,p3,p4⟩;clear dH dI fB p0 p1 p2 p3 p4;obtain⟨y0,y1,y2,y3,y4⟩:=dj.out
  try simp only at y0 y1 y2 y3 y4
  go_wp2_with fail
  refine (rZ.out _ _ env p S x2 cg.out HE.out nr.out nn.out wW.out nM.out).mono ?_;rintro e x3 ⟨x,rfl,hv,hb⟩;clear c0 bM c1 bL c2 bK c3 bJ c4 bI y0 y1 y2 y3 y4;replace aj:=aG hb aj;replace aD:=aG hb aD;replace HX:=aa (HX.out.below hb);replace HZ:=aa (HZ.out.below hb);replace HE:=aa (HE.out.below hb);replace HW:=aa (HW.out.trans (hb.mono HW.out.size));replace cg:=aa (cg.out.below hb);replace dj:=aa (dj.out.below hb);rw[mc.out] at hv;have dD:=aa hv;obtain⟨qj,p8,pJ,pN,pY,pH,mh,oL,rfl⟩:=hv.shape;obtain⟨oN,je⟩:∃ d,d=gX (.I X):=⟨_,rfl⟩
  rw[<-je] at hv ⊢;replace dD:=aa hv;have jc:=aa hv.zi;clear je;clear hv;have zy:=aa (ag aj.out);have vj:=aa (ag aD.out);obtain⟨x4,ka,ea,AX,hba,hka,bk⟩:=aL x3 #[.int .i64 qj,.bool p8,.slice pJ pN pY,.bool oN,.slice pH mh oL] 41;replace aj:=aG hba.out aj;replace aD:=aG hba.out aD;replace HX:=aa (HX.out.below hba.out);replace HZ:=aa (HZ.out.below hba.out);replace HE:=aa (HE.out.below hba.out);replace HW:=aa (HW.out.trans (hba.out.mono HW.out.size));replace cg:=aa (cg.out.below hba.out);replace dj:=aa (dj.out.below hba.out);replace dD:=aa (dD.out.below hba.out);replace jc:=aa (jc.out.below hba.out);have xK:=aa (ag bk.out);have tK:=aa hba.out.size;go_upto_region 25 with fail
  obtain⟨x5,kz,ez,vD,hbz,mG,bG⟩:=aL x4 #[.int .i64 0,.bool false,.slice none 0 0,.bool false,.slice none 0 0] 41;replace aj:=aG hbz.out aj;replace aD:=aG hbz.out aD;replace bk:=aG hbz.out bk;replace HX:=aa (HX.out.below hbz.out);replace HZ:=aa (HZ.out.below hbz.out);replace HE:=aa (HE.out.below hbz.out);replace HW:=aa (HW.out.trans (hbz.out.mono HW.out.size));replace cg:=aa (cg.out.below hbz.out);replace dj:=aa (dj.out.below hbz.out);replace dD:=aa (dD.out.below hbz.out);replace jc:=aa (jc.out.below hbz.out);rw[ez,vD];have AN:Hid (w.heap.size<=kz):=aa (by have h1:=gp.out;have h2:=bP.out.size;have h3:=hba.out.size;have h4:=hka.out;have h5:=mG.out;have h6:=ag aD.out;have h7:=aR.out.size;have h8:=hb.size;omega)
  have c0:=ae (v:=.int .i64 5) aj.out 0 rfl;have bM:=af aj.out 0;have c1:=ae (v:=.bool b) aj.out 1 rfl;have bL:=af aj.out 1;have c2:=ae (v:=.slice ao l c) aj.out 2 rfl;have bK:=af aj.out 2;have c3:=ae (v:=.string nm) aj.out 3 rfl;have bJ:=af aj.out 3;have c4:=ae (v:=.slice (some a) 1 kc) aj.out 4 rfl;have bI:=af aj.out 4;have m0:=ae (v:=.int .i64 qj) bk.out 0 rfl;have jj:=af bk.out 0;have m1:=ae (v:=.bool p8) bk.out 1 rfl;have ji:=af bk.out 1;have m2:=ae (v:=.slice pJ pN pY) bk.out 2 rfl;have uZ:=af bk.out 2;have m3:=ae (v:=.bool oN) bk.out 3 rfl;have uY:=af bk.out 3;have m4:=ae (v:=.slice pH mh oL) bk.out 4 rfl;have uX:=af bk.out 4;have n0:=ae (v:=.int .i64 0) bG.out 0 rfl
  have fn0:=af bG.out 0;have n1:=ae (v:=.bool false) bG.out 1 rfl;have uW:=af bG.out 1;have n2:=ae (v:=.slice none 0 0) bG.out 2 rfl;have uV:=af bG.out 2;have n3:=ae (v:=.bool false) bG.out 3 rfl;have uU:=af bG.out 3;have n4:=ae (v:=.slice none 0 0) bG.out 4 rfl;have uT:=af bG.out 4;go_wp2_with fail
  refine (zJ _ _ X z 600 600 x5 jc.out.gi HZ.out.gi (by decide) (by decide) (by have:=Qk.out;omega)).mono ?_;rintro e x6 ⟨y,r,rfl,hy,hr,hb⟩;clear c0 bM c1 bL c2 bK c3 bJ c4 bI m0 jj m1 ji m2 uZ m3 uY m4 uX n0 fn0 n1 uW n2 uV n3 uU n4 uT;replace aj:=aG hb aj;replace aD:=aG hb aD;replace bk:=aG hb bk;replace bG:=aG hb bG;replace HX:=aa (HX.out.below hb);replace HZ:=aa (HZ.out.below hb);replace HE:=aa (HE.out.below hb);replace HW:=aa (HW.out.trans (hb.mono HW.out.size));replace cg:=aa (cg.out.below hb);replace dj:=aa (dj.out.below hb);replace dD:=aa (dD.out.below hb);replace jc:=aa (jc.out.below hb);have rO:=aa (CI.sm hy lV.out);obtain⟨b9,o9,l9,c9,rfl⟩:=hy.shape;obtain⟨b8,o8,l8,c8,rfl⟩:=hr.shape;clear hy hr;have Gb:=ag aD.out
  obtain⟨x7,ku,eu,MT,uR,O2,xL⟩:=aL x6 #[.bool false,.slice none 0 0] 26;replace aj:=aG uR.out aj;replace aD:=aG uR.out aD;replace bk:=aG uR.out bk;replace bG:=aG uR.out bG;replace HX:=aa (HX.out.below uR.out);replace HZ:=aa (HZ.out.below uR.out);replace HE:=aa (HE.out.below uR.out);replace HW:=aa (HW.out.trans (uR.out.mono HW.out.size));replace cg:=aa (cg.out.below uR.out);replace dj:=aa (dj.out.below uR.out);replace dD:=aa (dD.out.below uR.out);replace jc:=aa (jc.out.below uR.out);replace rO:=aa (rO.out.below uR.out);rw[MT] at Gb;have huv:=ag xL.out;have Np:Hid (w.heap.size<=ku):=aa (aq gp.out (Nat.le_of_lt Gb));obtain⟨x8,kt,et,DM,ct,mw,nN⟩:=aL x7 #[.bool false,.slice none 0 0] 26;replace aj:=aG ct.out aj
  replace aD:=aG ct.out aD;replace bk:=aG ct.out bk;replace bG:=aG ct.out bG;replace xL:=aG ct.out xL;replace HX:=aa (HX.out.below ct.out);replace HZ:=aa (HZ.out.below ct.out);replace HE:=aa (HE.out.below ct.out);replace HW:=aa (HW.out.trans (ct.out.mono HW.out.size));replace cg:=aa (cg.out.below ct.out);replace dj:=aa (dj.out.below ct.out);replace dD:=aa (dD.out.below ct.out);replace jc:=aa (jc.out.below ct.out);replace rO:=aa (rO.out.below ct.out);rw[DM] at huv;have QE:Hid (w.heap.size<=kt):=aa (aq Np.out (Nat.le_of_lt huv));have Qr:=aa Gb;have N6:=aa huv;clear Gb huv;obtain⟨u0,u1,Ld,Lc⟩:=gw xL.out;obtain⟨v0,v1,Gj,Gi⟩:=gw nN.out;have n1:ku≠kt:=by have:=N6.out;omega
  have n2:kt≠ku:=by have:=N6.out;omega
  go_upto_region 36 with fail
  clear u0 u1 Ld Lc v0 v1 Gj Gi;obtain⟨s1,s2⟩:=mM HW.out xL.out jP Np.out (.bool b9) (.slice o9 l9 c9);have NI:=heap_setCell_same _ ku 1 _ _ (.slice o9 l9 c9) (heap_setCell_same x8 ku 0 _ _ (.bool b9) xL.out);obtain⟨W1,lN⟩:∃ q,q=(x8.setCell ⟨ku,0,none⟩ (.bool b9)).setCell ⟨ku,1,none⟩ (.slice o9 l9 c9):=⟨_,rfl⟩
  have eB:x8.grownBy W1 (some ku):=by rw[lN];exact kA _ _
  rw[<-lN] at s1 s2 NI ⊢;have IJ:=(eB.block kt (ag nN.out) (fun e=>by injection e with e;exact n2 e)).trans nN.out;have DB:=(eB.block kr (ag aD.out) (fun e=>by injection e with e;have:=Qr.out;omega)).trans aD.out;obtain⟨s3,s4⟩:=mM s2 IJ jP QE.out (.bool b8) (.slice o8 l8 c8);obtain⟨W2,jN⟩:∃ q,q=(W1.setCell ⟨kt,0,none⟩ (.bool b8)).setCell ⟨kt,1,none⟩ (.slice o8 l8 c8):=⟨_,rfl⟩
  have eV:W1.grownBy W2 (some kt):=by rw[jN];exact kA _ _
  rw[<-jN] at s3 s4 ⊢;have NH:=(eV.block ku (ag NI) (fun e=>by injection e with e;exact n1 e)).trans NI;have vL:=(eV.block kr (ag DB) (fun e=>by injection e with e;have h1:=Qr.out;have h2:=N6.out;omega)).trans DB;replace rO:=aa ((rO.out.fr s1).fr s3);replace HW:=aa s4;replace aD:=aa vL;replace xL:Hid (W2.heap[ku]?=some (.cells #[.bool b9,.slice o9 l9 c9] 26 (0,0))):=aa NH;clear vL NH eV jN s3 s4 DB IJ eB lN s1 s2 NI n1 n2;clear HX;clear HZ;clear HE;clear cg;clear dj;clear dD;clear jc;clear aj;clear bk;clear bG;clear nN;have d0:=ae (v:=.bool b9) xL.out 0 rfl;have rB:=af xL.out 0;have d1:=ae (v:=.slice o9 l9 c9) xL.out 1 rfl;have xp:=af xL.out 1;go_wp2_with fail
  refine (j_ _ (Int.fdiv X z) 600 W2 rO.out.gi (by decide)).mono ?_;rintro e x9 ⟨v,rfl,hv,hb⟩;clear d0 rB d1 xp;replace aD:=aG hb aD;replace xL:=aG hb xL;replace HW:=aa (HW.out.trans (hb.mono HW.out.size));replace rO:=aa (rO.out.below hb);obtain⟨ov,lv,cv,rfl,-⟩:=hv.int;have HV:=aa hv;clear hv;obtain⟨⟨r0,r1,r2,r3,r4⟩,gT,gS,iF,iE,iD⟩:=aV aD.out;go_wp2_with fail
  obtain⟨s1,s2⟩:=gh HW.out aD.out eF gp.out (.int .i64 0) (.bool (decide ((Int.fdiv X z)<0))) (.slice ov lv cv) (.bool false) (.slice none 0 0)
  (try simp only[aE,aM])
  exact aB (v:=.agg #[.int .i64 0,.bool (decide ((Int.fdiv X z)<0)),.slice ov lv cv,.bool false,.slice none 0 0]) (by simp[results,bF,go_sem,r0,r1,r2,r3,r4]) rfl ⟨_,rfl,VC.fr (show VC _ _ (ev (a_ env) _) from by rw[gN.out];exact HV.out) (by decide) s1,s2⟩
 ·have HX:=aa hk;have HZ:=aa hz;have HE:=aa he;have HW:=aa (av w.heap.size w);have cC:=aa eR;clear eR hkc hk hz he;obtain⟨p,rfl,hp⟩:=i_ (ks:=ks) (s:=2) (by simpa [cO,bB] using hfit);have nn:=aa (dF.kG p (by simp));have nr:=aa (fy p (by simp));have wW:=aa (o5.out p (by simp));obtain⟨X,hX⟩:∃ x,ev (a_ env) p=.L x:=⟨_,my hp⟩
  have mc:=aa hX;have gN:Hid (ev (a_ env) (.node 6 z nm [p])=.I ((X.length:Nat):Int)):=aa (by rw[ev,iH,iH,hX];rfl);have lV:Hid (rH (.I ((X.length:Nat):Int))):=aa (by have h3:=hval;rw[gN.out] at h3;exact h3);have uD:Hid (rH (ev (a_ env) p)):=aa (dF.kG p (by simp)).val;have gW:kl=1:=cC.out;subst gW;clear dF fy hval hfit l_ cC o5 hX hp;go_enter cM,cA
  obtain⟨x1,kf,ef,hO,aR,gL,aj⟩:=aL w #[.int .i64 6,.bool b,.slice ao l c,.string nm,.slice ko 1 kc] 29;replace HX:=aa (HX.out.below aR.out);replace HZ:=aa (HZ.out.below aR.out);replace HE:=aa (HE.out.below aR.out);replace HW:=aa (HW.out.trans (aR.out.mono HW.out.size));obtain⟨x2,kr,er,lZ,bP,gD,aD⟩:=aL x1 #[.int .i64 0,.bool false,.slice none 0 0,.bool false,.slice none 0 0] 41;replace aj:=aG bP.out aj;replace HX:=aa (HX.out.below bP.out);replace HZ:=aa (HZ.out.below bP.out);replace HE:=aa (HE.out.below bP.out);replace HW:=aa (HW.out.trans (bP.out.mono HW.out.size));have gp:Hid (w.heap.size<=kr):=aa (aq aR.out.size gD.out);have c0:=ae (v:=.int .i64 6) aj.out 0 rfl;have bM:=af aj.out 0;have c1:=ae (v:=.bool b) aj.out 1 rfl
  have bL:=af aj.out 1;have c2:=ae (v:=.slice ao l c) aj.out 2 rfl;have bK:=af aj.out 2;have c3:=ae (v:=.string nm) aj.out 3 rfl;have bJ:=af aj.out 3;have c4:=ae (v:=.slice ko 1 kc) aj.out 4 rfl;have bI:=af aj.out 4;obtain⟨a,bp,op,lp,cp,pP,pQ,pR,gV,⟨p0,p1,p2,p3,p4⟩,fB⟩:=HX.out.first;subst gV;obtain⟨pI,dH⟩:∃ x,x=p.op:=⟨_,rfl⟩
  obtain⟨pL,dI⟩:∃ x,x=p.name:=⟨_,rfl⟩
  rw[<-dH] at p0 fB;rw[<-dI] at p3 fB;have cg:=aa fB;have dj:Hid (sC x2 a pI bp op lp cp pL pP pQ pR):=aa ⟨p0,p1,p2,p3,p4⟩;clear dH dI fB p0 p1 p2 p3 p4;obtain⟨y0,y1,y2,y3,y4⟩:=dj.out
  try simp only at y0 y1 y2 y3 y4
  go_wp2_with fail
  refine (rZ.out _ _ env p S x2 cg.out HE.out nr.out nn.out wW.out nM.out).mono ?_;rintro e x3 ⟨x,rfl,hv,hb⟩;clear c0 bM c1 bL c2 bK c3 bJ c4 bI y0 y1 y2 y3 y4;replace aj:=aG hb aj;replace aD:=aG hb aD;replace HX:=aa (HX.out.below hb);replace HZ:=aa (HZ.out.below hb);replace HE:=aa (HE.out.below hb);replace HW:=aa (HW.out.trans (hb.mono HW.out.size));replace cg:=aa (cg.out.below hb);replace dj:=aa (dj.out.below hb);rw[mc.out] at hv;have dD:=aa hv;obtain⟨qj,p8,pJ,pN,pY,pH,mh,oL,rfl⟩:=hv.shape;obtain⟨oN,je⟩:∃ d,d=gX (.L X):=⟨_,rfl⟩
  rw[<-je] at hv ⊢;replace dD:=aa hv;have rI:=aa hv.G4;clear je;clear hv;have zy:=aa (ag aj.out);have vj:=aa (ag aD.out);obtain⟨x4,ka,ea,AX,hba,hka,bk⟩:=aL x3 #[.int .i64 qj,.bool p8,.slice pJ pN pY,.bool oN,.slice pH mh oL] 41;replace aj:=aG hba.out aj;replace aD:=aG hba.out aD;replace HX:=aa (HX.out.below hba.out);replace HZ:=aa (HZ.out.below hba.out);replace HE:=aa (HE.out.below hba.out);replace HW:=aa (HW.out.trans (hba.out.mono HW.out.size));replace cg:=aa (cg.out.below hba.out);replace dj:=aa (dj.out.below hba.out);replace dD:=aa (dD.out.below hba.out);replace rI:=aa (rI.out.below hba.out);have xK:=aa (ag bk.out);have tK:=aa hba.out.size;go_upto_region 25 with fail
  obtain⟨x5,kz,ez,vD,hbz,mG,bG⟩:=aL x4 #[.int .i64 0,.bool false,.slice none 0 0,.bool false,.slice none 0 0] 41;replace aj:=aG hbz.out aj;replace aD:=aG hbz.out aD;replace bk:=aG hbz.out bk;replace HX:=aa (HX.out.below hbz.out);replace HZ:=aa (HZ.out.below hbz.out);replace HE:=aa (HE.out.below hbz.out);replace HW:=aa (HW.out.trans (hbz.out.mono HW.out.size));replace cg:=aa (cg.out.below hbz.out);replace dj:=aa (dj.out.below hbz.out);replace dD:=aa (dD.out.below hbz.out);replace rI:=aa (rI.out.below hbz.out);rw[ez,vD];have AN:Hid (w.heap.size<=kz):=aa (by have h1:=gp.out;have h2:=bP.out.size;have h3:=hba.out.size;have h4:=hka.out;have h5:=mG.out;have h6:=ag aD.out;have h7:=aR.out.size;have h8:=hb.size;omega)
  have c0:=ae (v:=.int .i64 6) aj.out 0 rfl;have bM:=af aj.out 0;have c1:=ae (v:=.bool b) aj.out 1 rfl;have bL:=af aj.out 1;have c2:=ae (v:=.slice ao l c) aj.out 2 rfl;have bK:=af aj.out 2;have c3:=ae (v:=.string nm) aj.out 3 rfl;have bJ:=af aj.out 3;have c4:=ae (v:=.slice (some a) 1 kc) aj.out 4 rfl;have bI:=af aj.out 4;have m0:=ae (v:=.int .i64 qj) bk.out 0 rfl;have jj:=af bk.out 0;have m1:=ae (v:=.bool p8) bk.out 1 rfl;have ji:=af bk.out 1;have m2:=ae (v:=.slice pJ pN pY) bk.out 2 rfl;have uZ:=af bk.out 2;have m3:=ae (v:=.bool oN) bk.out 3 rfl;have uY:=af bk.out 3;have m4:=ae (v:=.slice pH mh oL) bk.out 4 rfl;have uX:=af bk.out 4;have n0:=ae (v:=.int .i64 0) bG.out 0 rfl
  have fn0:=af bG.out 0;have n1:=ae (v:=.bool false) bG.out 1 rfl;have uW:=af bG.out 1;have n2:=ae (v:=.slice none 0 0) bG.out 2 rfl;have uV:=af bG.out 2;have n3:=ae (v:=.bool false) bG.out 3 rfl;have uU:=af bG.out 3;have n4:=ae (v:=.slice none 0 0) bG.out 4 rfl;have uT:=af bG.out 4;have Aj:mh=X.length:=by obtain⟨_,_,e,_⟩:=rI.out.form;injection e
  have B4:Hid (X.length<=1000):=aa (by have h3:=uD.out;rw[mc.out] at h3;exact h3.1);have Lm:=aa Aj;clear Aj;go_wp2_with fail
  refine (pB (mh:Nat) x5 (by omega) (by have h1:=B4.out;have h2:=Lm.out;omega)).mono ?_;rintro e x6 ⟨y,rfl,hy,hb⟩;clear c0 bM c1 bL c2 bK c3 bJ c4 bI m0 jj m1 ji m2 uZ m3 uY m4 uX n0 fn0 n1 uW n2 uV n3 uU n4 uT;replace aj:=aG hb aj;replace aD:=aG hb aD;replace bk:=aG hb bk;replace bG:=aG hb bG;replace HX:=aa (HX.out.below hb);replace HZ:=aa (HZ.out.below hb);replace HE:=aa (HE.out.below hb);replace HW:=aa (HW.out.trans (hb.mono HW.out.size));replace cg:=aa (cg.out.below hb);replace dj:=aa (dj.out.below hb);replace dD:=aa (dD.out.below hb);replace rI:=aa (rI.out.below hb);rw[Lm.out] at hy;have rO:=aa (hy.mono (k':=600) (by decide));obtain⟨b9,o9,l9,c9,rfl⟩:=hy.shape;clear hy;go_wp2_with fail
  refine (j_ _ (((X.length:Nat):Int)) 600 x6 rO.out.gi (by decide)).mono ?_;rintro e x7 ⟨v,rfl,hv,hb⟩;replace aj:=aG hb aj;replace aD:=aG hb aD;replace bk:=aG hb bk;replace bG:=aG hb bG;replace HX:=aa (HX.out.below hb);replace HZ:=aa (HZ.out.below hb);replace HE:=aa (HE.out.below hb);replace HW:=aa (HW.out.trans (hb.mono HW.out.size));replace cg:=aa (cg.out.below hb);replace dj:=aa (dj.out.below hb);replace dD:=aa (dD.out.below hb);replace rI:=aa (rI.out.below hb);replace rO:=aa (rO.out.below hb);obtain⟨ov,lv,cv,rfl,-⟩:=hv.int;have HV:=aa hv;clear hv;obtain⟨⟨r0,r1,r2,r3,r4⟩,gT,gS,iF,iE,iD⟩:=aV aD.out;go_wp2_with fail
  obtain⟨s1,s2⟩:=gh HW.out aD.out eF gp.out (.int .i64 0) (.bool (decide ((((X.length:Nat):Int))<0))) (.slice ov lv cv) (.bool false) (.slice none 0 0)
  (try simp only[aE,aM])
  exact aB (v:=.agg #[.int .i64 0,.bool (decide ((((X.length:Nat):Int))<0)),.slice ov lv cv,.bool false,.slice none 0 0]) (by simp[results,bF,go_sem,r0,r1,r2,r3,r4]) rfl ⟨_,rfl,VC.fr (show VC _ _ (ev (a_ env) _) from by rw[gN.out];exact HV.out) (by decide) s1,s2⟩
 ·have HX:=aa hk;have HZ:=aa hz;have HE:=aa he;have HW:=aa (av w.heap.size w);have cC:=aa eR;clear eR hkc hk hz he;obtain⟨p,rfl,hp⟩:=i_ (ks:=ks) (s:=2) (by simpa [cO,bB] using hfit);have nn:=aa (dF.kG p (by simp));have nr:=aa (fy p (by simp));have wW:=aa (o5.out p (by simp));obtain⟨X,hX⟩:∃ x,ev (a_ env) p=.L x:=⟨_,my hp⟩
  have mc:=aa hX;have gN:Hid (ev (a_ env) (.node 7 z nm [p])=.I (X.headD 0)):=aa (by rw[ev,iH,iH,hX];rfl);have lV:Hid (rH (.I (X.headD 0))):=aa (by have h3:=hval;rw[gN.out] at h3;exact h3);have uD:Hid (rH (ev (a_ env) p)):=aa (dF.kG p (by simp)).val;have gW:kl=1:=cC.out;subst gW;clear dF fy hval hfit l_ cC o5 hX hp;go_enter cM,cA
  obtain⟨x1,kf,ef,hO,aR,gL,aj⟩:=aL w #[.int .i64 7,.bool b,.slice ao l c,.string nm,.slice ko 1 kc] 29;replace HX:=aa (HX.out.below aR.out);replace HZ:=aa (HZ.out.below aR.out);replace HE:=aa (HE.out.below aR.out);replace HW:=aa (HW.out.trans (aR.out.mono HW.out.size));obtain⟨x2,kr,er,lZ,bP,gD,aD⟩:=aL x1 #[.int .i64 0,.bool false,.slice none 0 0,.bool false,.slice none 0 0] 41;replace aj:=aG bP.out aj;replace HX:=aa (HX.out.below bP.out);replace HZ:=aa (HZ.out.below bP.out);replace HE:=aa (HE.out.below bP.out);replace HW:=aa (HW.out.trans (bP.out.mono HW.out.size));have gp:Hid (w.heap.size<=kr):=aa (aq aR.out.size gD.out);have c0:=ae (v:=.int .i64 7) aj.out 0 rfl;have bM:=af aj.out 0;have c1:=ae (v:=.bool b) aj.out 1 rfl
  have bL:=af aj.out 1;have c2:=ae (v:=.slice ao l c) aj.out 2 rfl;have bK:=af aj.out 2;have c3:=ae (v:=.string nm) aj.out 3 rfl;have bJ:=af aj.out 3;have c4:=ae (v:=.slice ko 1 kc) aj.out 4 rfl;have bI:=af aj.out 4;obtain⟨a,bp,op,lp,cp,pP,pQ,pR,gV,⟨p0,p1,p2,p3,p4⟩,fB⟩:=HX.out.first;subst gV;obtain⟨pI,dH⟩:∃ x,x=p.op:=⟨_,rfl⟩
  obtain⟨pL,dI⟩:∃ x,x=p.name:=⟨_,rfl⟩
  rw[<-dH] at p0 fB;rw[<-dI] at p3 fB;have cg:=aa fB;have dj:Hid (sC x2 a pI bp op lp cp pL pP pQ pR):=aa ⟨p0,p1,p2,p3,p4⟩;clear dH dI fB p0 p1 p2 p3 p4;obtain⟨y0,y1,y2,y3,y4⟩:=dj.out
  try simp only at y0 y1 y2 y3 y4
  go_wp2_with fail
  refine (rZ.out _ _ env p S x2 cg.out HE.out nr.out nn.out wW.out nM.out).mono ?_;rintro e x3 ⟨x,rfl,hv,hb⟩;clear c0 bM c1 bL c2 bK c3 bJ c4 bI y0 y1 y2 y3 y4;replace aj:=aG hb aj;replace aD:=aG hb aD;replace HX:=aa (HX.out.below hb);replace HZ:=aa (HZ.out.below hb);replace HE:=aa (HE.out.below hb);replace HW:=aa (HW.out.trans (hb.mono HW.out.size));replace cg:=aa (cg.out.below hb);replace dj:=aa (dj.out.below hb);rw[mc.out] at hv;have dD:=aa hv;obtain⟨qj,p8,pJ,pN,pY,pH,mh,oL,rfl⟩:=hv.shape;obtain⟨oN,je⟩:∃ d,d=gX (.L X):=⟨_,rfl⟩
  rw[<-je] at hv ⊢;replace dD:=aa hv;have rI:=aa hv.G4;clear je;clear hv;have zy:=aa (ag aj.out);have vj:=aa (ag aD.out);obtain⟨x4,ka,ea,AX,hba,hka,bk⟩:=aL x3 #[.int .i64 qj,.bool p8,.slice pJ pN pY,.bool oN,.slice pH mh oL] 41;replace aj:=aG hba.out aj;replace aD:=aG hba.out aD;replace HX:=aa (HX.out.below hba.out);replace HZ:=aa (HZ.out.below hba.out);replace HE:=aa (HE.out.below hba.out);replace HW:=aa (HW.out.trans (hba.out.mono HW.out.size));replace cg:=aa (cg.out.below hba.out);replace dj:=aa (dj.out.below hba.out);replace dD:=aa (dD.out.below hba.out);replace rI:=aa (rI.out.below hba.out);have xK:=aa (ag bk.out);have tK:=aa hba.out.size;go_upto_region 25 with fail
  obtain⟨x5,kz,ez,vD,hbz,mG,bG⟩:=aL x4 #[.int .i64 0,.bool false,.slice none 0 0,.bool false,.slice none 0 0] 41;replace aj:=aG hbz.out aj;replace aD:=aG hbz.out aD;replace bk:=aG hbz.out bk;replace HX:=aa (HX.out.below hbz.out);replace HZ:=aa (HZ.out.below hbz.out);replace HE:=aa (HE.out.below hbz.out);replace HW:=aa (HW.out.trans (hbz.out.mono HW.out.size));replace cg:=aa (cg.out.below hbz.out);replace dj:=aa (dj.out.below hbz.out);replace dD:=aa (dD.out.below hbz.out);replace rI:=aa (rI.out.below hbz.out);rw[ez,vD];have AN:Hid (w.heap.size<=kz):=aa (by have h1:=gp.out;have h2:=bP.out.size;have h3:=hba.out.size;have h4:=hka.out;have h5:=mG.out;have h6:=ag aD.out;have h7:=aR.out.size;have h8:=hb.size;omega)
  have c0:=ae (v:=.int .i64 7) aj.out 0 rfl;have bM:=af aj.out 0;have c1:=ae (v:=.bool b) aj.out 1 rfl;have bL:=af aj.out 1;have c2:=ae (v:=.slice ao l c) aj.out 2 rfl;have bK:=af aj.out 2;have c3:=ae (v:=.string nm) aj.out 3 rfl;have bJ:=af aj.out 3;have c4:=ae (v:=.slice (some a) 1 kc) aj.out 4 rfl;have bI:=af aj.out 4;have m0:=ae (v:=.int .i64 qj) bk.out 0 rfl;have jj:=af bk.out 0;have m1:=ae (v:=.bool p8) bk.out 1 rfl;have ji:=af bk.out 1;have m2:=ae (v:=.slice pJ pN pY) bk.out 2 rfl;have uZ:=af bk.out 2;have m3:=ae (v:=.bool oN) bk.out 3 rfl;have uY:=af bk.out 3;have m4:=ae (v:=.slice pH mh oL) bk.out 4 rfl;have uX:=af bk.out 4;have n0:=ae (v:=.int .i64 0) bG.out 0 rfl
  have fn0:=af bG.out 0;have n1:=ae (v:=.bool false) bG.out 1 rfl;have uW:=af bG.out 1;have n2:=ae (v:=.slice none 0 0) bG.out 2 rfl;have uV:=af bG.out 2;have n3:=ae (v:=.bool false) bG.out 3 rfl;have uU:=af bG.out 3;have n4:=ae (v:=.slice none 0 0) bG.out 4 rfl;have uT:=af bG.out 4;have Aj:mh=X.length:=by obtain⟨_,_,e,_⟩:=rI.out.form;injection e
  cases X with
  | nil =>
   have By:mh=0:=Aj;subst By;clear Aj;have hz0:(((0:Nat):Int)==0)=true:=rfl;go_wp2_with fail
   refine (pB 0 x5 (by decide) (by decide)).mono ?_;rintro e x6 ⟨y,rfl,hy,hb⟩;clear c0 bM c1 bL c2 bK c3 bJ c4 bI m0 jj m1 ji m2 uZ m3 uY m4 uX n0 fn0 n1 uW n2 uV n3 uU n4 uT;replace aj:=aG hb aj;replace aD:=aG hb aD;replace bk:=aG hb bk;replace bG:=aG hb bG;replace HX:=aa (HX.out.below hb);replace HZ:=aa (HZ.out.below hb);replace HE:=aa (HE.out.below hb);replace HW:=aa (HW.out.trans (hb.mono HW.out.size));replace cg:=aa (cg.out.below hb);replace dj:=aa (dj.out.below hb);replace dD:=aa (dD.out.below hb);replace rI:=aa (rI.out.below hb);have rO:=aa (hy.mono (k':=600) (by decide));obtain⟨b9,o9,l9,c9,rfl⟩:=hy.shape;clear hy;go_wp2_with fail
   refine (j_ _ (0) 600 x6 rO.out.gi (by decide)).mono ?_;rintro e x7 ⟨v,rfl,hv,hb⟩;replace aj:=aG hb aj;replace aD:=aG hb aD;replace bk:=aG hb bk;replace bG:=aG hb bG;replace HX:=aa (HX.out.below hb);replace HZ:=aa (HZ.out.below hb);replace HE:=aa (HE.out.below hb);replace HW:=aa (HW.out.trans (hb.mono HW.out.size));replace cg:=aa (cg.out.below hb);replace dj:=aa (dj.out.below hb);replace dD:=aa (dD.out.below hb);replace rI:=aa (rI.out.below hb);replace rO:=aa (rO.out.below hb);obtain⟨ov,lv,cv,rfl,-⟩:=hv.int;have HV:=aa hv;clear hv;obtain⟨⟨r0,r1,r2,r3,r4⟩,gT,gS,iF,iE,iD⟩:=aV aD.out;go_wp2_with fail
   obtain⟨s1,s2⟩:=gh HW.out aD.out eF gp.out (.int .i64 0) (.bool (decide ((0)<0))) (.slice ov lv cv) (.bool false) (.slice none 0 0)
   (try simp only[aE,aM])
   exact aB (v:=.agg #[.int .i64 0,.bool (decide ((0)<0)),.slice ov lv cv,.bool false,.slice none 0 0]) (by simp[results,bF,go_sem,r0,r1,r2,r3,r4]) rfl ⟨_,rfl,VC.fr (show VC _ _ (ev (a_ env) _) from by rw[gN.out];exact HV.out) (by decide) s1,s2⟩
  | cons y L =>
   obtain⟨q,yo,yl,yc,rfl,d0,d1,hy⟩:=rI.out.cells.2 0 (by simp);simp only[List.getElem_cons_zero,Nat.zero_mul,Addr.add,if_true] at d0 d1 hy;have rO:=aa hy;have hgt:(((mh:Nat):Int)==0)=false:=beq_eq_false_iff_ne.2 (by rw[Aj];simp;omega);have RF:decide ((0:Int)<((mh:Nat):Int))=true:=by rw[Aj];simp
   have eB:0<mh:=by rw[Aj];simp
   clear hy Aj;go_wp2_with fail
   refine (j_ _ (y) 600 x5 rO.out.gi (by decide)).mono ?_;rintro e x6 ⟨v,rfl,hv,hb⟩;clear c0 bM c1 bL c2 bK c3 bJ c4 bI m0 jj m1 ji m2 uZ m3 uY m4 uX n0 fn0 n1 uW n2 uV n3 uU n4 uT d0 d1;replace aj:=aG hb aj;replace aD:=aG hb aD;replace bk:=aG hb bk;replace bG:=aG hb bG;replace HX:=aa (HX.out.below hb);replace HZ:=aa (HZ.out.below hb);replace HE:=aa (HE.out.below hb);replace HW:=aa (HW.out.trans (hb.mono HW.out.size));replace cg:=aa (cg.out.below hb);replace dj:=aa (dj.out.below hb);replace dD:=aa (dD.out.below hb);replace rI:=aa (rI.out.below hb);replace rO:=aa (rO.out.below hb);obtain⟨ov,lv,cv,rfl,-⟩:=hv.int;have HV:=aa hv;clear hv;obtain⟨⟨r0,r1,r2,r3,r4⟩,gT,gS,iF,iE,iD⟩:=aV aD.out;go_wp2_with fail
   obtain⟨s1,s2⟩:=gh HW.out aD.out eF gp.out (.int .i64 0) (.bool (decide ((y)<0))) (.slice ov lv cv) (.bool false) (.slice none 0 0)
   (try simp only[aE,aM])
   exact aB (v:=.agg #[.int .i64 0,.bool (decide ((y)<0)),.slice ov lv cv,.bool false,.slice none 0 0]) (by simp[results,bF,go_sem,r0,r1,r2,r3,r4]) rfl ⟨_,rfl,VC.fr (show VC _ _ (ev (a_ env) _) from by rw[gN.out];exact HV.out) (by decide) s1,s2⟩
 ·have HX:=aa hk;have HZ:=aa hz;have HE:=aa he;have HW:=aa (av w.heap.size w);have cC:=aa eR;clear eR hkc hk hz he;have tn:=nM.out 8 nm (by simp) l_
  have gN:Hid (ev (a_ env) (.node 8 z nm ks)=a_ env nm):=aa (by
   show V.L (mB (a_ env nm))=a_ env nm
   cases hx:a_ env nm with
   | I z=>first | rfl | (rw[hx] at tn;cases tn)
   | B b=>first | rfl | (rw[hx] at tn;cases tn)
   | L l=>first | rfl | (rw[hx] at tn;cases tn))
  clear tn dF fy hval hfit l_;go_enter cM,cA
  obtain⟨x1,kf,ef,hO,aR,gL,aj⟩:=aL w #[.int .i64 8,.bool b,.slice ao l c,.string nm,.slice ko kl kc] 29;replace HX:=aa (HX.out.below aR.out);replace HZ:=aa (HZ.out.below aR.out);replace HE:=aa (HE.out.below aR.out);replace HW:=aa (HW.out.trans (aR.out.mono HW.out.size));obtain⟨x2,kr,er,lZ,bP,gD,aD⟩:=aL x1 #[.int .i64 0,.bool false,.slice none 0 0,.bool false,.slice none 0 0] 41;replace aj:=aG bP.out aj;replace HX:=aa (HX.out.below bP.out);replace HZ:=aa (HZ.out.below bP.out);replace HE:=aa (HE.out.below bP.out);replace HW:=aa (HW.out.trans (bP.out.mono HW.out.size));have gp:Hid (w.heap.size<=kr):=aa (aq aR.out.size gD.out);have c0:=ae (v:=.int .i64 8) aj.out 0 rfl;have bM:=af aj.out 0;have c1:=ae (v:=.bool b) aj.out 1 rfl
  have bL:=af aj.out 1;have c2:=ae (v:=.slice ao l c) aj.out 2 rfl;have bK:=af aj.out 2;have c3:=ae (v:=.string nm) aj.out 3 rfl;have bJ:=af aj.out 3;have c4:=ae (v:=.slice ko kl kc) aj.out 4 rfl;have bI:=af aj.out 4;go_wp2_with fail
  refine (BH _ env nm x2 HE.out).mono ?_;rintro e x3 ⟨v,rfl,hv,hb⟩;clear c0 bM c1 bL c2 bK c3 bJ c4 bI;replace aj:=aG hb aj;replace aD:=aG hb aD;replace HX:=aa (HX.out.below hb);replace HZ:=aa (HZ.out.below hb);replace HE:=aa (HE.out.below hb);replace HW:=aa (HW.out.trans (hb.mono HW.out.size));obtain⟨kv,bv,ov,lv,cv,pv,mv,qv,rfl⟩:=hv.shape;have HV:=aa hv;clear hv;obtain⟨⟨r0,r1,r2,r3,r4⟩,gT,gS,iF,iE,iD⟩:=aV aD.out;go_wp2_with fail
  obtain⟨s1,s2⟩:=gh HW.out aD.out eF gp.out (.int .i64 kv) (.bool bv) (.slice ov lv cv) (.bool (gX (a_ env nm))) (.slice pv mv qv)
  (try simp only[aE,aM])
  exact aB (v:=.agg #[.int .i64 kv,.bool bv,.slice ov lv cv,.bool (gX (a_ env nm)),.slice pv mv qv]) (by simp[results,bF,go_sem,r0,r1,r2,r3,r4]) rfl ⟨_,rfl,VC.fr (show VC _ _ (ev (a_ env) _) from by rw[gN.out];exact HV.out) (by decide) s1,s2⟩
 ·have HX:=aa hk;have HZ:=aa hz;have HE:=aa he;have HW:=aa (av w.heap.size w);have cC:=aa eR;clear eR hkc hk hz he;have gN:Hid (ev (a_ env) (.node 9 z nm ks)=.L []):=aa rfl;clear dF fy hval hfit l_;go_enter cM,cA
  obtain⟨x1,kf,ef,hO,aR,gL,aj⟩:=aL w #[.int .i64 9,.bool b,.slice ao l c,.string nm,.slice ko kl kc] 29;replace HX:=aa (HX.out.below aR.out);replace HZ:=aa (HZ.out.below aR.out);replace HE:=aa (HE.out.below aR.out);replace HW:=aa (HW.out.trans (aR.out.mono HW.out.size));obtain⟨x2,kr,er,lZ,bP,gD,aD⟩:=aL x1 #[.int .i64 0,.bool false,.slice none 0 0,.bool false,.slice none 0 0] 41;replace aj:=aG bP.out aj;replace HX:=aa (HX.out.below bP.out);replace HZ:=aa (HZ.out.below bP.out);replace HE:=aa (HE.out.below bP.out);replace HW:=aa (HW.out.trans (bP.out.mono HW.out.size));have gp:Hid (w.heap.size<=kr):=aa (aq aR.out.size gD.out);have c0:=ae (v:=.int .i64 9) aj.out 0 rfl;have bM:=af aj.out 0;have c1:=ae (v:=.bool b) aj.out 1 rfl
  have bL:=af aj.out 1;have c2:=ae (v:=.slice ao l c) aj.out 2 rfl;have bK:=af aj.out 2;have c3:=ae (v:=.string nm) aj.out 3 rfl;have bJ:=af aj.out 3;have c4:=ae (v:=.slice ko kl kc) aj.out 4 rfl;have bI:=af aj.out 4;go_wp2_with fail
  refine (oW _ [] x2 (NL.nil _) (by simp)).mono ?_;rintro e x3 ⟨v,rfl,hv,hb⟩;clear c0 bM c1 bL c2 bK c3 bJ c4 bI;replace aj:=aG hb aj;replace aD:=aG hb aD;replace HX:=aa (HX.out.below hb);replace HZ:=aa (HZ.out.below hb);replace HE:=aa (HE.out.below hb);replace HW:=aa (HW.out.trans (hb.mono HW.out.size));obtain⟨ov,lv,cv,rfl,-⟩:=hv.list;have HV:=aa hv;clear hv;obtain⟨⟨r0,r1,r2,r3,r4⟩,gT,gS,iF,iE,iD⟩:=aV aD.out;go_wp2_with fail
  obtain⟨s1,s2⟩:=gh HW.out aD.out eF gp.out (.int .i64 2) (.bool false) (.slice none 0 0) (.bool false) (.slice ov lv cv)
  (try simp only[aE,aM])
  exact aB (v:=.agg #[.int .i64 2,.bool false,.slice none 0 0,.bool false,.slice ov lv cv]) (by simp[results,bF,go_sem,r0,r1,r2,r3,r4]) rfl ⟨_,rfl,VC.fr (show VC _ _ (ev (a_ env) _) from by rw[gN.out];exact HV.out) (by decide) s1,s2⟩
 ·have HX:=aa hk;have HZ:=aa hz;have HE:=aa he;have HW:=aa (av w.heap.size w);have cC:=aa eR;clear eR hkc hk hz he;obtain⟨p,q,rfl,hp,hq⟩:=iZ (ks:=ks) (s:=0) (r:=2) (by simpa [cO,bB] using hfit);have nn:=aa (dF.kG p (by simp));have nr:=aa (fy p (by simp));have wW:=aa (o5.out p (by simp));have wX:=aa (dF.kG q (by simp));have wY:=aa (fy q (by simp));have FM:=aa (o5.out q (by simp));obtain⟨X,hX⟩:∃ x,ev (a_ env) p=.I x:=⟨_,mb hp⟩
  have mc:=aa hX;obtain⟨Y,hY⟩:∃ x,ev (a_ env) q=.L x:=⟨_,my hq⟩
  have wU:=aa hY;have gN:Hid (ev (a_ env) (.node 10 z nm [p,q])=.L (X::Y)):=aa (by rw[ev,iH,iH,iH,hX,hY];rfl);have lV:Hid (rH (.L (X::Y))):=aa (by have h3:=hval;rw[gN.out] at h3;exact h3);have uD:Hid (rH (ev (a_ env) p)):=aa (dF.kG p (by simp)).val;have FK:Hid (rH (ev (a_ env) q)):=aa (dF.kG q (by simp)).val;have gW:kl=2:=cC.out;subst gW;clear dF fy hval hfit l_ cC o5 hX hY hp hq;go_enter cM,cA
  obtain⟨x1,kf,ef,hO,aR,gL,aj⟩:=aL w #[.int .i64 10,.bool b,.slice ao l c,.string nm,.slice ko 2 kc] 29;replace HX:=aa (HX.out.below aR.out);replace HZ:=aa (HZ.out.below aR.out);replace HE:=aa (HE.out.below aR.out);replace HW:=aa (HW.out.trans (aR.out.mono HW.out.size));obtain⟨x2,kr,er,lZ,bP,gD,aD⟩:=aL x1 #[.int .i64 0,.bool false,.slice none 0 0,.bool false,.slice none 0 0] 41;replace aj:=aG bP.out aj;replace HX:=aa (HX.out.below bP.out);replace HZ:=aa (HZ.out.below bP.out);replace HE:=aa (HE.out.below bP.out);replace HW:=aa (HW.out.trans (bP.out.mono HW.out.size));have gp:Hid (w.heap.size<=kr):=aa (aq aR.out.size gD.out);have c0:=ae (v:=.int .i64 10) aj.out 0 rfl;have bM:=af aj.out 0;have c1:=ae (v:=.bool b) aj.out 1 rfl
  have bL:=af aj.out 1;have c2:=ae (v:=.slice ao l c) aj.out 2 rfl;have bK:=af aj.out 2;have c3:=ae (v:=.string nm) aj.out 3 rfl;have bJ:=af aj.out 3;have c4:=ae (v:=.slice ko 2 kc) aj.out 4 rfl;have bI:=af aj.out 4;obtain⟨a,bp,op,lp,cp,pP,pQ,pR,gV,⟨p0,p1,p2,p3,p4⟩,fB⟩:=HX.out.first;subst gV;obtain⟨pI,dH⟩:∃ x,x=p.op:=⟨_,rfl⟩
  obtain⟨pL,dI⟩:∃ x,x=p.name:=⟨_,rfl⟩
  rw[<-dH] at p0 fB;rw[<-dI] at p3 fB;have cg:=aa fB;have dj:Hid (sC x2 a pI bp op lp cp pL pP pQ pR):=aa ⟨p0,p1,p2,p3,p4⟩;clear dH dI fB p0 p1 p2 p3 p4;obtain⟨a2,bq,oq,lq,cq,vt,vu,vv,ou,⟨q0,q1,q2,q3,q4⟩,jd⟩:=HX.out.second;injection ou with tA;subst tA;obtain⟨vJ,js⟩:∃ x,x=q.op:=⟨_,rfl⟩
  obtain⟨vK,jt⟩:∃ x,x=q.name:=⟨_,rfl⟩
  rw[<-js] at q0 jd;rw[<-jt] at q3 jd;have fW:=aa jd;have gM:Hid (sC x2 ⟨a.block,a.off+5,none⟩ vJ bq oq lq cq vK vt vu vv):=aa ⟨q0,q1,q2,q3,q4⟩;clear js jt jd q0 q1 q2 q3 q4;obtain⟨y0,y1,y2,y3,y4⟩:=dj.out
  try simp only at y0 y1 y2 y3 y4
  go_wp2_with fail
  refine (rZ.out _ _ env p S x2 cg.out HE.out nr.out nn.out wW.out nM.out).mono ?_;rintro e x3 ⟨x,rfl,hv,hb⟩;clear c0 bM c1 bL c2 bK c3 bJ c4 bI y0 y1 y2 y3 y4;replace aj:=aG hb aj;replace aD:=aG hb aD;replace HX:=aa (HX.out.below hb);replace HZ:=aa (HZ.out.below hb);replace HE:=aa (HE.out.below hb);replace HW:=aa (HW.out.trans (hb.mono HW.out.size));replace cg:=aa (cg.out.below hb);replace dj:=aa (dj.out.below hb);replace fW:=aa (fW.out.below hb);replace gM:=aa (gM.out.below hb);rw[mc.out] at hv;have dD:=aa hv;obtain⟨qj,p8,pJ,pN,pY,pH,mh,oL,rfl⟩:=hv.shape;obtain⟨oN,je⟩:∃ d,d=gX (.I X):=⟨_,rfl⟩
  rw[<-je] at hv ⊢;replace dD:=aa hv;have jc:=aa hv.zi;clear je;clear hv;have zy:=aa (ag aj.out);have vj:=aa (ag aD.out);obtain⟨x4,ka,ea,AX,hba,hka,bk⟩:=aL x3 #[.int .i64 qj,.bool p8,.slice pJ pN pY,.bool oN,.slice pH mh oL] 41;replace aj:=aG hba.out aj;replace aD:=aG hba.out aD;replace HX:=aa (HX.out.below hba.out);replace HZ:=aa (HZ.out.below hba.out);replace HE:=aa (HE.out.below hba.out);replace HW:=aa (HW.out.trans (hba.out.mono HW.out.size));replace cg:=aa (cg.out.below hba.out);replace dj:=aa (dj.out.below hba.out);replace fW:=aa (fW.out.below hba.out);replace gM:=aa (gM.out.below hba.out);replace dD:=aa (dD.out.below hba.out);replace jc:=aa (jc.out.below hba.out);have xK:=aa (ag bk.out)
  have tK:=aa hba.out.size;go_upto_region 25 with fail
  obtain⟨x5,kz,ez,vD,hbz,mG,bG⟩:=aL x4 #[.int .i64 0,.bool false,.slice none 0 0,.bool false,.slice none 0 0] 41;replace aj:=aG hbz.out aj;replace aD:=aG hbz.out aD;replace bk:=aG hbz.out bk;replace HX:=aa (HX.out.below hbz.out);replace HZ:=aa (HZ.out.below hbz.out);replace HE:=aa (HE.out.below hbz.out);replace HW:=aa (HW.out.trans (hbz.out.mono HW.out.size));replace cg:=aa (cg.out.below hbz.out);replace dj:=aa (dj.out.below hbz.out);replace fW:=aa (fW.out.below hbz.out);replace gM:=aa (gM.out.below hbz.out);replace dD:=aa (dD.out.below hbz.out);replace jc:=aa (jc.out.below hbz.out);rw[ez,vD]
  have AN:Hid (w.heap.size<=kz):=aa (by have h1:=gp.out;have h2:=bP.out.size;have h3:=hba.out.size;have h4:=hka.out;have h5:=mG.out;have h6:=ag aD.out;have h7:=aR.out.size;have h8:=hb.size;omega);have c0:=ae (v:=.int .i64 10) aj.out 0 rfl;have bM:=af aj.out 0;have c1:=ae (v:=.bool b) aj.out 1 rfl;have bL:=af aj.out 1;have c2:=ae (v:=.slice ao l c) aj.out 2 rfl;have bK:=af aj.out 2;have c3:=ae (v:=.string nm) aj.out 3 rfl;have bJ:=af aj.out 3;have c4:=ae (v:=.slice (some a) 2 kc) aj.out 4 rfl;have bI:=af aj.out 4;obtain⟨y0,y1,y2,y3,y4⟩:=gM.out
  try simp only at y0 y1 y2 y3 y4
  have FQ:=aa (ag bG.out);go_wp2_with fail
  refine (rZ.out _ _ env q S x5 fW.out HE.out wY.out wX.out FM.out nM.out).mono ?_;rintro e x6 ⟨x,rfl,hv,hb⟩;clear c0 bM c1 bL c2 bK c3 bJ c4 bI y0 y1 y2 y3 y4;replace aj:=aG hb aj;replace aD:=aG hb aD;replace bk:=aG hb bk;replace bG:=aG hb bG;replace HX:=aa (HX.out.below hb);replace HZ:=aa (HZ.out.below hb);replace HE:=aa (HE.out.below hb);replace HW:=aa (HW.out.trans (hb.mono HW.out.size));replace cg:=aa (cg.out.below hb);replace dj:=aa (dj.out.below hb);replace fW:=aa (fW.out.below hb);replace gM:=aa (gM.out.below hb);replace dD:=aa (dD.out.below hb);replace jc:=aa (jc.out.below hb);rw[wU.out] at hv;have nk:=aa hv;obtain⟨sJ,sM,sG,sI,sL,sF,sH,sE,rfl⟩:=hv.shape;obtain⟨sn,qx⟩:∃ d,d=gX (.L Y):=⟨_,rfl⟩
  rw[<-qx] at hv ⊢;replace nk:=aa hv;have Jt:=aa hv.G4;clear qx;clear hv;have g0:=ae (v:=.int .i64 0) bG.out 0 rfl;have nF:=af bG.out 0;have g1:=ae (v:=.bool false) bG.out 1 rfl;have nD:=af bG.out 1;have g2:=ae (v:=.slice none 0 0) bG.out 2 rfl;have oA:=af bG.out 2;have g3:=ae (v:=.bool false) bG.out 3 rfl;have oz:=af bG.out 3;have g4:=ae (v:=.slice none 0 0) bG.out 4 rfl;have oy:=af bG.out 4;go_upto_region 27 with fail
  clear g0 nF g1 nD g2 oA g3 oz g4 oy;have eB:=aY (w:=x6) (k:=kz) (.int .i64 sJ) (.bool sM) (.slice sG sI sL) (.bool sn) (.slice sF sH sE);have jK:=fj bG.out (.int .i64 sJ) (.bool sM) (.slice sG sI sL) (.bool sn) (.slice sF sH sE);have jM:Fr 41 x6 _:=.aN eB (fun j hj=>by injection hj with hj;subst hj;exact⟨_,bG.out,eF⟩);obtain⟨W1,lN⟩:∃ q,q=((((x6.setCell ⟨kz,0,none⟩ (.int .i64 sJ)).setCell ⟨kz,1,none⟩ (.bool sM)).setCell ⟨kz,2,none⟩ (.slice sG sI sL)).setCell ⟨kz,3,none⟩ (.bool sn)).setCell ⟨kz,4,none⟩ (.slice sF sH sE):=⟨_,rfl⟩
  rw[<-lN] at eB jK jM ⊢;clear lN;replace aj:=aa ((eB.block kf (ag aj.out) (fun e=>by injection e with e;have h1:=mG.out;have h2:=zy.out;have h3:=tK.out;omega)).trans aj.out);replace aD:=aa ((eB.block kr (ag aD.out) (fun e=>by injection e with e;have h1:=mG.out;have h2:=vj.out;have h3:=tK.out;omega)).trans aD.out);replace bk:=aa ((eB.block ka (ag bk.out) (fun e=>by injection e with e;have h1:=mG.out;have h2:=xK.out;have h3:=tK.out;omega)).trans bk.out);replace bG:=aa jK;replace HW:=aa (aS HW.out eB AN.out);clear HX;replace HZ:=aa (HZ.out.fr jM);clear HE;clear cg;clear dj;clear fW;clear gM;replace dD:=aa (dD.out.fr (by decide) jM);replace jc:=aa (jc.out.fr jM);replace nk:=aa (nk.out.fr (by decide) jM)
  replace Jt:=aa (Jt.out.fr (by decide) jM);clear eB jK jM;have c0:=ae (v:=.int .i64 10) aj.out 0 rfl;have bM:=af aj.out 0;have c1:=ae (v:=.bool b) aj.out 1 rfl;have bL:=af aj.out 1;have c2:=ae (v:=.slice ao l c) aj.out 2 rfl;have bK:=af aj.out 2;have c3:=ae (v:=.string nm) aj.out 3 rfl;have bJ:=af aj.out 3;have c4:=ae (v:=.slice (some a) 2 kc) aj.out 4 rfl;have bI:=af aj.out 4;have m0:=ae (v:=.int .i64 qj) bk.out 0 rfl;have jj:=af bk.out 0;have m1:=ae (v:=.bool p8) bk.out 1 rfl;have ji:=af bk.out 1;have m2:=ae (v:=.slice pJ pN pY) bk.out 2 rfl;have uZ:=af bk.out 2;have m3:=ae (v:=.bool oN) bk.out 3 rfl;have uY:=af bk.out 3;have m4:=ae (v:=.slice pH mh oL) bk.out 4 rfl
  have uX:=af bk.out 4;have n0:=ae (v:=.int .i64 sJ) bG.out 0 rfl;have fn0:=af bG.out 0;have n1:=ae (v:=.bool sM) bG.out 1 rfl;have uW:=af bG.out 1;have n2:=ae (v:=.slice sG sI sL) bG.out 2 rfl;have uV:=af bG.out 2;have n3:=ae (v:=.bool sn) bG.out 3 rfl;have uU:=af bG.out 3;have n4:=ae (v:=.slice sF sH sE) bG.out 4 rfl;have uT:=af bG.out 4;obtain⟨nx,hnc,Ai,I5⟩:=jc.out.un;obtain⟨ns,zG,Ka⟩:=Jt.out;have Ve:=aa hnc;have Js:=aa Ai;have FP:=aa I5;have qD:=aa zG;have Ni:=aa Ka;have Nt:Hid ((X::Y).length<=1000):=aa lV.out.1;have Nl:=aa (ag aD.out);have UX:=aa HW.out.size;have nT:=aD;have WV:=HW;clear hnc Ai I5 zG Ka
  obtain⟨x7,kj,ej,WH,Cu,Kg,VH⟩:=aL W1 #[.bool p8,.slice pJ pN pY] 26;replace aj:=aG Cu.out aj;replace aD:=aG Cu.out aD;replace bk:=aG Cu.out bk;replace bG:=aG Cu.out bG;replace HZ:=aa (HZ.out.below Cu.out);replace HW:=aa (HW.out.trans (Cu.out.mono HW.out.size));replace dD:=aa (dD.out.below Cu.out);replace jc:=aa (jc.out.below Cu.out);replace nk:=aa (nk.out.below Cu.out);replace Jt:=aa (Jt.out.below Cu.out);replace FP:=aa (nE.below FP.out Cu.out);replace qD:=aa (qD.out.below Cu.out);have tJ:=aa (Er VH.out Ve.out FP.out Kg.out);have m0:=ae (v:=.int .i64 qj) bk.out 0 rfl;have jj:=af bk.out 0;have m1:=ae (v:=.bool p8) bk.out 1 rfl;have ji:=af bk.out 1;have m2:=ae (v:=.slice pJ pN pY) bk.out 2 rfl
  have uZ:=af bk.out 2;have m3:=ae (v:=.bool oN) bk.out 3 rfl;have uY:=af bk.out 3;have m4:=ae (v:=.slice pH mh oL) bk.out 4 rfl;have uX:=af bk.out 4;have n0:=ae (v:=.int .i64 sJ) bG.out 0 rfl;have fn0:=af bG.out 0;have n1:=ae (v:=.bool sM) bG.out 1 rfl;have uW:=af bG.out 1;have n2:=ae (v:=.slice sG sI sL) bG.out 2 rfl;have uV:=af bG.out 2;have n3:=ae (v:=.bool sn) bG.out 3 rfl;have uU:=af bG.out 3;have n4:=ae (v:=.slice sF sH sE) bG.out 4 rfl;have uT:=af bG.out 4
  go_wp2_with (at_builtin;refine El.Row.append (E:=nE) tJ.out rfl (.tmp 166) (.tmp 168) rfl rfl rfl qD.out (by have h1:=Nt.out;rw[<-Ni.out] at h1;simp at h1 ⊢;omega) Cu.out.size ?_;intro v9 w9 r1 r2 r3 r4;obtain⟨vo,vc,rfl,-⟩:=r1.form;have Nx:=aa ((r3.block kr Nl.out).trans ((Cu.out.block kr Nl.out).trans nT.out));have KR:=aa (HW.out.trans (r3.mono UX.out));have Ll:=aa r1;clear r1 r2 r3 r4)
  clear HW aD;have HW:=KR;have aD:=Nx;clear KR Nx;refine (oW _ (X::Y) w9 ⟨_,Ll.out.at,by rw[List.map_append,Ni.out,List.map_cons,List.map_nil,Js.out];rfl⟩ (by have h1:=Nt.out;omega)).mono ?_;rintro e x8 ⟨v,rfl,hv,hb⟩;replace aD:=aG hb aD;replace HW:=aa (HW.out.trans (hb.mono HW.out.size));obtain⟨ov,lv,cv,rfl,-⟩:=hv.list;have HV:=aa hv;clear hv;obtain⟨⟨r0,r1,r2,r3,r4⟩,gT,gS,iF,iE,iD⟩:=aV aD.out;go_wp2_with fail
  obtain⟨s1,s2⟩:=gh HW.out aD.out eF gp.out (.int .i64 2) (.bool false) (.slice none 0 0) (.bool false) (.slice ov lv cv)
  (try simp only[aE,aM])
  exact aB (v:=.agg #[.int .i64 2,.bool false,.slice none 0 0,.bool false,.slice ov lv cv]) (by simp[results,bF,go_sem,r0,r1,r2,r3,r4]) rfl ⟨_,rfl,VC.fr (show VC _ _ (ev (a_ env) _) from by rw[gN.out];exact HV.out) (by decide) s1,s2⟩
 ·have HX:=aa hk;have HZ:=aa hz;have HE:=aa he;have HW:=aa (av w.heap.size w);have cC:=aa eR;clear eR hkc hk hz he;obtain⟨p,rfl,hp⟩:=i_ (ks:=ks) (s:=2) (by simpa [cO,bB] using hfit);have nn:=aa (dF.kG p (by simp));have nr:=aa (fy p (by simp));have wW:=aa (o5.out p (by simp));obtain⟨X,hX⟩:∃ x,ev (a_ env) p=.L x:=⟨_,my hp⟩
  have mc:=aa hX;have gN:Hid (ev (a_ env) (.node 11 z nm [p])=.L X.tail):=aa (by rw[ev,iH,iH,hX];rfl);have lV:Hid (rH (.L X.tail)):=aa (by have h3:=hval;rw[gN.out] at h3;exact h3);have uD:Hid (rH (ev (a_ env) p)):=aa (dF.kG p (by simp)).val;have gW:kl=1:=cC.out;subst gW;clear dF fy hval hfit l_ cC o5 hX hp;go_enter cM,cA
  obtain⟨x1,kf,ef,hO,aR,gL,aj⟩:=aL w #[.int .i64 11,.bool b,.slice ao l c,.string nm,.slice ko 1 kc] 29;replace HX:=aa (HX.out.below aR.out);replace HZ:=aa (HZ.out.below aR.out);replace HE:=aa (HE.out.below aR.out);replace HW:=aa (HW.out.trans (aR.out.mono HW.out.size));obtain⟨x2,kr,er,lZ,bP,gD,aD⟩:=aL x1 #[.int .i64 0,.bool false,.slice none 0 0,.bool false,.slice none 0 0] 41;replace aj:=aG bP.out aj;replace HX:=aa (HX.out.below bP.out);replace HZ:=aa (HZ.out.below bP.out);replace HE:=aa (HE.out.below bP.out);replace HW:=aa (HW.out.trans (bP.out.mono HW.out.size));have gp:Hid (w.heap.size<=kr):=aa (aq aR.out.size gD.out);have c0:=ae (v:=.int .i64 11) aj.out 0 rfl;have bM:=af aj.out 0;have c1:=ae (v:=.bool b) aj.out 1 rfl
  have bL:=af aj.out 1;have c2:=ae (v:=.slice ao l c) aj.out 2 rfl;have bK:=af aj.out 2;have c3:=ae (v:=.string nm) aj.out 3 rfl;have bJ:=af aj.out 3;have c4:=ae (v:=.slice ko 1 kc) aj.out 4 rfl;have bI:=af aj.out 4;obtain⟨a,bp,op,lp,cp,pP,pQ,pR,gV,⟨p0,p1,p2,p3,p4⟩,fB⟩:=HX.out.first;subst gV;obtain⟨pI,dH⟩:∃ x,x=p.op:=⟨_,rfl⟩
  obtain⟨pL,dI⟩:∃ x,x=p.name:=⟨_,rfl⟩
  rw[<-dH] at p0 fB;rw[<-dI] at p3 fB;have cg:=aa fB;have dj:Hid (sC x2 a pI bp op lp cp pL pP pQ pR):=aa ⟨p0,p1,p2,p3,p4⟩;clear dH dI fB p0 p1 p2 p3 p4;obtain⟨y0,y1,y2,y3,y4⟩:=dj.out
  try simp only at y0 y1 y2 y3 y4
  go_wp2_with fail
  refine (rZ.out _ _ env p S x2 cg.out HE.out nr.out nn.out wW.out nM.out).mono ?_;rintro e x3 ⟨x,rfl,hv,hb⟩;clear c0 bM c1 bL c2 bK c3 bJ c4 bI y0 y1 y2 y3 y4;replace aj:=aG hb aj;replace aD:=aG hb aD;replace HX:=aa (HX.out.below hb);replace HZ:=aa (HZ.out.below hb);replace HE:=aa (HE.out.below hb);replace HW:=aa (HW.out.trans (hb.mono HW.out.size));replace cg:=aa (cg.out.below hb);replace dj:=aa (dj.out.below hb);rw[mc.out] at hv;have dD:=aa hv;obtain⟨qj,p8,pJ,pN,pY,pH,mh,oL,rfl⟩:=hv.shape;obtain⟨oN,je⟩:∃ d,d=gX (.L X):=⟨_,rfl⟩
  rw[<-je] at hv ⊢;replace dD:=aa hv;have rI:=aa hv.G4;clear je;clear hv;have zy:=aa (ag aj.out);have vj:=aa (ag aD.out);obtain⟨x4,ka,ea,AX,hba,hka,bk⟩:=aL x3 #[.int .i64 qj,.bool p8,.slice pJ pN pY,.bool oN,.slice pH mh oL] 41;replace aj:=aG hba.out aj;replace aD:=aG hba.out aD;replace HX:=aa (HX.out.below hba.out);replace HZ:=aa (HZ.out.below hba.out);replace HE:=aa (HE.out.below hba.out);replace HW:=aa (HW.out.trans (hba.out.mono HW.out.size));replace cg:=aa (cg.out.below hba.out);replace dj:=aa (dj.out.below hba.out);replace dD:=aa (dD.out.below hba.out);replace rI:=aa (rI.out.below hba.out);have xK:=aa (ag bk.out);have tK:=aa hba.out.size;go_upto_region 25 with fail
  obtain⟨x5,kz,ez,vD,hbz,mG,bG⟩:=aL x4 #[.int .i64 0,.bool false,.slice none 0 0,.bool false,.slice none 0 0] 41;replace aj:=aG hbz.out aj;replace aD:=aG hbz.out aD;replace bk:=aG hbz.out bk;replace HX:=aa (HX.out.below hbz.out);replace HZ:=aa (HZ.out.below hbz.out);replace HE:=aa (HE.out.below hbz.out);replace HW:=aa (HW.out.trans (hbz.out.mono HW.out.size));replace cg:=aa (cg.out.below hbz.out);replace dj:=aa (dj.out.below hbz.out);replace dD:=aa (dD.out.below hbz.out);replace rI:=aa (rI.out.below hbz.out);rw[ez,vD];have AN:Hid (w.heap.size<=kz):=aa (by have h1:=gp.out;have h2:=bP.out.size;have h3:=hba.out.size;have h4:=hka.out;have h5:=mG.out;have h6:=ag aD.out;have h7:=aR.out.size;have h8:=hb.size;omega)
  have c0:=ae (v:=.int .i64 11) aj.out 0 rfl;have bM:=af aj.out 0;have c1:=ae (v:=.bool b) aj.out 1 rfl;have bL:=af aj.out 1;have c2:=ae (v:=.slice ao l c) aj.out 2 rfl;have bK:=af aj.out 2;have c3:=ae (v:=.string nm) aj.out 3 rfl;have bJ:=af aj.out 3;have c4:=ae (v:=.slice (some a) 1 kc) aj.out 4 rfl;have bI:=af aj.out 4;have m0:=ae (v:=.int .i64 qj) bk.out 0 rfl;have jj:=af bk.out 0;have m1:=ae (v:=.bool p8) bk.out 1 rfl;have ji:=af bk.out 1;have m2:=ae (v:=.slice pJ pN pY) bk.out 2 rfl;have uZ:=af bk.out 2;have m3:=ae (v:=.bool oN) bk.out 3 rfl;have uY:=af bk.out 3;have m4:=ae (v:=.slice pH mh oL) bk.out 4 rfl;have uX:=af bk.out 4;have n0:=ae (v:=.int .i64 0) bG.out 0 rfl
  have fn0:=af bG.out 0;have n1:=ae (v:=.bool false) bG.out 1 rfl;have uW:=af bG.out 1;have n2:=ae (v:=.slice none 0 0) bG.out 2 rfl;have uV:=af bG.out 2;have n3:=ae (v:=.bool false) bG.out 3 rfl;have uU:=af bG.out 3;have n4:=ae (v:=.slice none 0 0) bG.out 4 rfl;have uT:=af bG.out 4;have Aj:mh=X.length:=by obtain⟨_,_,e,_⟩:=rI.out.form;injection e
  cases X with
  | nil =>
   have By:mh=0:=Aj;subst By;clear Aj;have hz0:(((0:Nat):Int)==0)=true:=rfl;obtain⟨⟨r0,r1,r2,r3,r4⟩,gT,gS,iF,iE,iD⟩:=aV aD.out;go_wp2_with fail
   clear c0 bM c1 bL c2 bK c3 bJ c4 bI m0 jj m1 ji m2 uZ m3 uY m4 uX n0 fn0 n1 uW n2 uV n3 uU n4 uT;obtain⟨s1,s2⟩:=gh HW.out aD.out eF gp.out (.int .i64 qj) (.bool p8) (.slice pJ pN pY) (.bool oN) (.slice pH 0 oL)
   (try simp only[aE,aM])
   exact aB (v:=.agg #[.int .i64 qj,.bool p8,.slice pJ pN pY,.bool oN,.slice pH 0 oL]) (by simp[results,bF,go_sem,r0,r1,r2,r3,r4]) rfl ⟨_,rfl,VC.fr (show VC _ _ (ev (a_ env) _) from by rw[gN.out];exact dD.out) (by decide) s1,s2⟩
  | cons y L =>
   have hgt:(((mh:Nat):Int)==0)=false:=beq_eq_false_iff_ne.2 (by rw[Aj];simp;omega);have eB:1<=mh:=by rw[Aj];simp
   have hcap:mh<=oL/\oL<=9223372036854775807:=by obtain⟨_,_,e,h1,_⟩:=rI.out.form;injection e with e1 e2 e3;subst e2 e3;exact h1
   obtain⟨NO,Wp⟩:=hcap;have hq1:((1:Nat):Int)<=((mh:Nat):Int):=by omega
   have Nt:Hid ((y::L).length<=1000):=aa (by have h3:=uD.out;rw[mc.out] at h3;exact h3.1);have hv:=rI.out.LB eB;unfold sliced at hv;clear Aj
   by_cases hc:oL=1
   ·rw[if_pos hc] at hv;subst hc;have yg:NL x5 (.slice pH 0 0) L:=by simpa [show mh - 1=0 by omega] using hv
    have KV:=aa yg;clear hv yg;go_wp2_with fail
    refine (oW _ L x5 KV.out (by have:=Nt.out;simp at this;omega)).mono ?_;rintro e x6 ⟨v,rfl,hv,hb⟩;clear c0 bM c1 bL c2 bK c3 bJ c4 bI m0 jj m1 ji m2 uZ m3 uY m4 uX n0 fn0 n1 uW n2 uV n3 uU n4 uT;replace aj:=aG hb aj;replace aD:=aG hb aD;replace bk:=aG hb bk;replace bG:=aG hb bG;replace HX:=aa (HX.out.below hb);replace HZ:=aa (HZ.out.below hb);replace HE:=aa (HE.out.below hb);replace HW:=aa (HW.out.trans (hb.mono HW.out.size));replace cg:=aa (cg.out.below hb);replace dj:=aa (dj.out.below hb);replace dD:=aa (dD.out.below hb);replace rI:=aa (rI.out.below hb);replace KV:=aa (KV.out.below hb);obtain⟨ov,lv,cv,rfl,-⟩:=hv.list;have HV:=aa hv;clear hv;obtain⟨⟨r0,r1,r2,r3,r4⟩,gT,gS,iF,iE,iD⟩:=aV aD.out;go_wp2_with fail
    obtain⟨s1,s2⟩:=gh HW.out aD.out eF gp.out (.int .i64 2) (.bool false) (.slice none 0 0) (.bool false) (.slice ov lv cv)
    (try simp only[aE,aM])
    exact aB (v:=.agg #[.int .i64 2,.bool false,.slice none 0 0,.bool false,.slice ov lv cv]) (by simp[results,bF,go_sem,r0,r1,r2,r3,r4]) rfl ⟨_,rfl,VC.fr (show VC _ _ (ev (a_ env) _) from by rw[gN.out];exact HV.out) (by decide) s1,s2⟩
   rw[if_neg hc] at hv;have KV:=aa hv;clear hv;have hq2:¬ (((oL:Nat):Int)=1):=by omega
   go_wp2_with fail
   refine (oW _ L x5 (by have h9:=KV.out;simpa [Addr.add] using h9) (by have:=Nt.out;simp at this;omega)).mono ?_;rintro e x6 ⟨v,rfl,hv,hb⟩;clear c0 bM c1 bL c2 bK c3 bJ c4 bI m0 jj m1 ji m2 uZ m3 uY m4 uX n0 fn0 n1 uW n2 uV n3 uU n4 uT;replace aj:=aG hb aj;replace aD:=aG hb aD;replace bk:=aG hb bk;replace bG:=aG hb bG;replace HX:=aa (HX.out.below hb);replace HZ:=aa (HZ.out.below hb);replace HE:=aa (HE.out.below hb);replace HW:=aa (HW.out.trans (hb.mono HW.out.size));replace cg:=aa (cg.out.below hb);replace dj:=aa (dj.out.below hb);replace dD:=aa (dD.out.below hb);replace rI:=aa (rI.out.below hb);replace KV:=aa (KV.out.below hb);obtain⟨ov,lv,cv,rfl,-⟩:=hv.list;have HV:=aa hv;clear hv
   obtain⟨⟨r0,r1,r2,r3,r4⟩,gT,gS,iF,iE,iD⟩:=aV aD.out;go_wp2_with fail
   obtain⟨s1,s2⟩:=gh HW.out aD.out eF gp.out (.int .i64 2) (.bool false) (.slice none 0 0) (.bool false) (.slice ov lv cv)
   (try simp only[aE,aM])
   exact aB (v:=.agg #[.int .i64 2,.bool false,.slice none 0 0,.bool false,.slice ov lv cv]) (by simp[results,bF,go_sem,r0,r1,r2,r3,r4]) rfl ⟨_,rfl,VC.fr (show VC _ _ (ev (a_ env) _) from by rw[gN.out];exact HV.out) (by decide) s1,s2⟩
 ·have HX:=aa hk;have HZ:=aa hz;have HE:=aa he;have HW:=aa (av w.heap.size w);have cC:=aa eR;clear eR hkc hk hz he;have gN:Hid (ev (a_ env) (.node 12 z nm ks)=.B true):=aa rfl;clear dF fy hval hfit l_;go_enter cM,cA
  obtain⟨x1,kf,ef,hO,aR,gL,aj⟩:=aL w #[.int .i64 12,.bool b,.slice ao l c,.string nm,.slice ko kl kc] 29;replace HX:=aa (HX.out.below aR.out);replace HZ:=aa (HZ.out.below aR.out);replace HE:=aa (HE.out.below aR.out);replace HW:=aa (HW.out.trans (aR.out.mono HW.out.size));obtain⟨x2,kr,er,lZ,bP,gD,aD⟩:=aL x1 #[.int .i64 0,.bool false,.slice none 0 0,.bool false,.slice none 0 0] 41;replace aj:=aG bP.out aj;replace HX:=aa (HX.out.below bP.out);replace HZ:=aa (HZ.out.below bP.out);replace HE:=aa (HE.out.below bP.out);replace HW:=aa (HW.out.trans (bP.out.mono HW.out.size));have gp:Hid (w.heap.size<=kr):=aa (aq aR.out.size gD.out);have c0:=ae (v:=.int .i64 12) aj.out 0 rfl;have bM:=af aj.out 0;have c1:=ae (v:=.bool b) aj.out 1 rfl
  have bL:=af aj.out 1;have c2:=ae (v:=.slice ao l c) aj.out 2 rfl;have bK:=af aj.out 2;have c3:=ae (v:=.string nm) aj.out 3 rfl;have bJ:=af aj.out 3;have c4:=ae (v:=.slice ko kl kc) aj.out 4 rfl;have bI:=af aj.out 4;go_wp2_with fail
  refine (jb _ x2).mono ?_;rintro e x3 ⟨v,rfl,hv,hb⟩;clear c0 bM c1 bL c2 bK c3 bJ c4 bI;replace aj:=aG hb aj;replace aD:=aG hb aD;replace HX:=aa (HX.out.below hb);replace HZ:=aa (HZ.out.below hb);replace HE:=aa (HE.out.below hb);replace HW:=aa (HW.out.trans (hb.mono HW.out.size));have vw:=hv.bool;subst vw;have HV:=aa hv;clear hv;obtain⟨⟨r0,r1,r2,r3,r4⟩,gT,gS,iF,iE,iD⟩:=aV aD.out;go_wp2_with fail
  obtain⟨s1,s2⟩:=gh HW.out aD.out eF gp.out (.int .i64 1) (.bool false) (.slice none 0 0) (.bool (true)) (.slice none 0 0)
  (try simp only[aE,aM])
  exact aB (v:=.agg #[.int .i64 1,.bool false,.slice none 0 0,.bool (true),.slice none 0 0]) (by simp[results,bF,go_sem,r0,r1,r2,r3,r4]) rfl ⟨_,rfl,VC.fr (show VC _ _ (ev (a_ env) _) from by rw[gN.out];exact HV.out) (by decide) s1,s2⟩
 ·have HX:=aa hk;have HZ:=aa hz;have HE:=aa he;have HW:=aa (av w.heap.size w);have cC:=aa eR;clear eR hkc hk hz he;have gN:Hid (ev (a_ env) (.node 13 z nm ks)=.B false):=aa rfl;clear dF fy hval hfit l_;go_enter cM,cA
  obtain⟨x1,kf,ef,hO,aR,gL,aj⟩:=aL w #[.int .i64 13,.bool b,.slice ao l c,.string nm,.slice ko kl kc] 29;replace HX:=aa (HX.out.below aR.out);replace HZ:=aa (HZ.out.below aR.out);replace HE:=aa (HE.out.below aR.out);replace HW:=aa (HW.out.trans (aR.out.mono HW.out.size));obtain⟨x2,kr,er,lZ,bP,gD,aD⟩:=aL x1 #[.int .i64 0,.bool false,.slice none 0 0,.bool false,.slice none 0 0] 41;replace aj:=aG bP.out aj;replace HX:=aa (HX.out.below bP.out);replace HZ:=aa (HZ.out.below bP.out);replace HE:=aa (HE.out.below bP.out);replace HW:=aa (HW.out.trans (bP.out.mono HW.out.size));have gp:Hid (w.heap.size<=kr):=aa (aq aR.out.size gD.out);have c0:=ae (v:=.int .i64 13) aj.out 0 rfl;have bM:=af aj.out 0;have c1:=ae (v:=.bool b) aj.out 1 rfl
  have bL:=af aj.out 1;have c2:=ae (v:=.slice ao l c) aj.out 2 rfl;have bK:=af aj.out 2;have c3:=ae (v:=.string nm) aj.out 3 rfl;have bJ:=af aj.out 3;have c4:=ae (v:=.slice ko kl kc) aj.out 4 rfl;have bI:=af aj.out 4;go_wp2_with fail
  refine (jb _ x2).mono ?_;rintro e x3 ⟨v,rfl,hv,hb⟩;clear c0 bM c1 bL c2 bK c3 bJ c4 bI;replace aj:=aG hb aj;replace aD:=aG hb aD;replace HX:=aa (HX.out.below hb);replace HZ:=aa (HZ.out.below hb);replace HE:=aa (HE.out.below hb);replace HW:=aa (HW.out.trans (hb.mono HW.out.size));have vw:=hv.bool;subst vw;have HV:=aa hv;clear hv;obtain⟨⟨r0,r1,r2,r3,r4⟩,gT,gS,iF,iE,iD⟩:=aV aD.out;go_wp2_with fail
  obtain⟨s1,s2⟩:=gh HW.out aD.out eF gp.out (.int .i64 1) (.bool false) (.slice none 0 0) (.bool (false)) (.slice none 0 0)
  (try simp only[aE,aM])
  exact aB (v:=.agg #[.int .i64 1,.bool false,.slice none 0 0,.bool (false),.slice none 0 0]) (by simp[results,bF,go_sem,r0,r1,r2,r3,r4]) rfl ⟨_,rfl,VC.fr (show VC _ _ (ev (a_ env) _) from by rw[gN.out];exact HV.out) (by decide) s1,s2⟩
 ·have HX:=aa hk;have HZ:=aa hz;have HE:=aa he;have HW:=aa (av w.heap.size w);have cC:=aa eR;clear eR hkc hk hz he;have tn:=nM.out 14 nm (by simp) l_
  have gN:Hid (ev (a_ env) (.node 14 z nm ks)=a_ env nm):=aa (by
   show V.B (gX (a_ env nm))=a_ env nm
   cases hx:a_ env nm with
   | I z=>first | rfl | (rw[hx] at tn;cases tn)
   | B b=>first | rfl | (rw[hx] at tn;cases tn)
   | L l=>first | rfl | (rw[hx] at tn;cases tn))
  clear tn dF fy hval hfit l_;go_enter cM,cA
  obtain⟨x1,kf,ef,hO,aR,gL,aj⟩:=aL w #[.int .i64 14,.bool b,.slice ao l c,.string nm,.slice ko kl kc] 29;replace HX:=aa (HX.out.below aR.out);replace HZ:=aa (HZ.out.below aR.out);replace HE:=aa (HE.out.below aR.out);replace HW:=aa (HW.out.trans (aR.out.mono HW.out.size));obtain⟨x2,kr,er,lZ,bP,gD,aD⟩:=aL x1 #[.int .i64 0,.bool false,.slice none 0 0,.bool false,.slice none 0 0] 41;replace aj:=aG bP.out aj;replace HX:=aa (HX.out.below bP.out);replace HZ:=aa (HZ.out.below bP.out);replace HE:=aa (HE.out.below bP.out);replace HW:=aa (HW.out.trans (bP.out.mono HW.out.size));have gp:Hid (w.heap.size<=kr):=aa (aq aR.out.size gD.out);have c0:=ae (v:=.int .i64 14) aj.out 0 rfl;have bM:=af aj.out 0;have c1:=ae (v:=.bool b) aj.out 1 rfl
  have bL:=af aj.out 1;have c2:=ae (v:=.slice ao l c) aj.out 2 rfl;have bK:=af aj.out 2;have c3:=ae (v:=.string nm) aj.out 3 rfl;have bJ:=af aj.out 3;have c4:=ae (v:=.slice ko kl kc) aj.out 4 rfl;have bI:=af aj.out 4;go_wp2_with fail
  refine (BH _ env nm x2 HE.out).mono ?_;rintro e x3 ⟨v,rfl,hv,hb⟩;clear c0 bM c1 bL c2 bK c3 bJ c4 bI;replace aj:=aG hb aj;replace aD:=aG hb aD;replace HX:=aa (HX.out.below hb);replace HZ:=aa (HZ.out.below hb);replace HE:=aa (HE.out.below hb);replace HW:=aa (HW.out.trans (hb.mono HW.out.size));obtain⟨kv,bv,ov,lv,cv,pv,mv,qv,rfl⟩:=hv.shape;have HV:=aa hv;clear hv;obtain⟨⟨r0,r1,r2,r3,r4⟩,gT,gS,iF,iE,iD⟩:=aV aD.out;go_wp2_with fail
  obtain⟨s1,s2⟩:=gh HW.out aD.out eF gp.out (.int .i64 kv) (.bool bv) (.slice ov lv cv) (.bool (gX (a_ env nm))) (.slice pv mv qv)
  (try simp only[aE,aM])
  exact aB (v:=.agg #[.int .i64 kv,.bool bv,.slice ov lv cv,.bool (gX (a_ env nm)),.slice pv mv qv]) (by simp[results,bF,go_sem,r0,r1,r2,r3,r4]) rfl ⟨_,rfl,VC.fr (show VC _ _ (ev (a_ env) _) from by rw[gN.out];exact HV.out) (by decide) s1,s2⟩
 ·have HX:=aa hk;have HZ:=aa hz;have HE:=aa he;have HW:=aa (av w.heap.size w);have cC:=aa eR;clear eR hkc hk hz he;obtain⟨p,q,rfl,hp,hq⟩:=iZ (ks:=ks) (s:=0) (r:=0) (by simpa [cO,bB] using hfit);have nn:=aa (dF.kG p (by simp));have nr:=aa (fy p (by simp));have wW:=aa (o5.out p (by simp));have wX:=aa (dF.kG q (by simp));have wY:=aa (fy q (by simp));have FM:=aa (o5.out q (by simp));obtain⟨X,hX⟩:∃ x,ev (a_ env) p=.I x:=⟨_,mb hp⟩
  have mc:=aa hX;obtain⟨Y,hY⟩:∃ x,ev (a_ env) q=.I x:=⟨_,mb hq⟩
  have wU:=aa hY;have gN:Hid (ev (a_ env) (.node 15 z nm [p,q])=.B (decide (X<=Y))):=aa (by rw[ev,iH,iH,iH,hX,hY];rfl);have lV:Hid (rH (.B (decide (X<=Y)))):=aa (by have h3:=hval;rw[gN.out] at h3;exact h3);have uD:Hid (rH (ev (a_ env) p)):=aa (dF.kG p (by simp)).val;have FK:Hid (rH (ev (a_ env) q)):=aa (dF.kG q (by simp)).val;have gW:kl=2:=cC.out;subst gW;clear dF fy hval hfit l_ cC o5 hX hY hp hq;go_enter cM,cA
  obtain⟨x1,kf,ef,hO,aR,gL,aj⟩:=aL w #[.int .i64 15,.bool b,.slice ao l c,.string nm,.slice ko 2 kc] 29;replace HX:=aa (HX.out.below aR.out);replace HZ:=aa (HZ.out.below aR.out);replace HE:=aa (HE.out.below aR.out);replace HW:=aa (HW.out.trans (aR.out.mono HW.out.size));obtain⟨x2,kr,er,lZ,bP,gD,aD⟩:=aL x1 #[.int .i64 0,.bool false,.slice none 0 0,.bool false,.slice none 0 0] 41;replace aj:=aG bP.out aj;replace HX:=aa (HX.out.below bP.out);replace HZ:=aa (HZ.out.below bP.out);replace HE:=aa (HE.out.below bP.out);replace HW:=aa (HW.out.trans (bP.out.mono HW.out.size));have gp:Hid (w.heap.size<=kr):=aa (aq aR.out.size gD.out);have c0:=ae (v:=.int .i64 15) aj.out 0 rfl;have bM:=af aj.out 0;have c1:=ae (v:=.bool b) aj.out 1 rfl
  have bL:=af aj.out 1;have c2:=ae (v:=.slice ao l c) aj.out 2 rfl;have bK:=af aj.out 2;have c3:=ae (v:=.string nm) aj.out 3 rfl;have bJ:=af aj.out 3;have c4:=ae (v:=.slice ko 2 kc) aj.out 4 rfl;have bI:=af aj.out 4;obtain⟨a,bp,op,lp,cp,pP,pQ,pR,gV,⟨p0,p1,p2,p3,p4⟩,fB⟩:=HX.out.first;subst gV;obtain⟨pI,dH⟩:∃ x,x=p.op:=⟨_,rfl⟩
  obtain⟨pL,dI⟩:∃ x,x=p.name:=⟨_,rfl⟩
  rw[<-dH] at p0 fB;rw[<-dI] at p3 fB;have cg:=aa fB;have dj:Hid (sC x2 a pI bp op lp cp pL pP pQ pR):=aa ⟨p0,p1,p2,p3,p4⟩;clear dH dI fB p0 p1 p2 p3 p4;obtain⟨a2,bq,oq,lq,cq,vt,vu,vv,ou,⟨q0,q1,q2,q3,q4⟩,jd⟩:=HX.out.second;injection ou with tA;subst tA;obtain⟨vJ,js⟩:∃ x,x=q.op:=⟨_,rfl⟩
  obtain⟨vK,jt⟩:∃ x,x=q.name:=⟨_,rfl⟩
  rw[<-js] at q0 jd;rw[<-jt] at q3 jd;have fW:=aa jd;have gM:Hid (sC x2 ⟨a.block,a.off+5,none⟩ vJ bq oq lq cq vK vt vu vv):=aa ⟨q0,q1,q2,q3,q4⟩;clear js jt jd q0 q1 q2 q3 q4;obtain⟨y0,y1,y2,y3,y4⟩:=dj.out
  try simp only at y0 y1 y2 y3 y4
  go_wp2_with fail
  refine (rZ.out _ _ env p S x2 cg.out HE.out nr.out nn.out wW.out nM.out).mono ?_;rintro e x3 ⟨x,rfl,hv,hb⟩;clear c0 bM c1 bL c2 bK c3 bJ c4 bI y0 y1 y2 y3 y4;replace aj:=aG hb aj;replace aD:=aG hb aD;replace HX:=aa (HX.out.below hb);replace HZ:=aa (HZ.out.below hb);replace HE:=aa (HE.out.below hb);replace HW:=aa (HW.out.trans (hb.mono HW.out.size));replace cg:=aa (cg.out.below hb);replace dj:=aa (dj.out.below hb);replace fW:=aa (fW.out.below hb);replace gM:=aa (gM.out.below hb);rw[mc.out] at hv;have dD:=aa hv;obtain⟨qj,p8,pJ,pN,pY,pH,mh,oL,rfl⟩:=hv.shape;obtain⟨oN,je⟩:∃ d,d=gX (.I X):=⟨_,rfl⟩
  rw[<-je] at hv ⊢;replace dD:=aa hv;have jc:=aa hv.zi;clear je;clear hv;have zy:=aa (ag aj.out);have vj:=aa (ag aD.out);obtain⟨x4,ka,ea,AX,hba,hka,bk⟩:=aL x3 #[.int .i64 qj,.bool p8,.slice pJ pN pY,.bool oN,.slice pH mh oL] 41;replace aj:=aG hba.out aj;replace aD:=aG hba.out aD;replace HX:=aa (HX.out.below hba.out);replace HZ:=aa (HZ.out.below hba.out);replace HE:=aa (HE.out.below hba.out);replace HW:=aa (HW.out.trans (hba.out.mono HW.out.size));replace cg:=aa (cg.out.below hba.out);replace dj:=aa (dj.out.below hba.out);replace fW:=aa (fW.out.below hba.out);replace gM:=aa (gM.out.below hba.out);replace dD:=aa (dD.out.below hba.out);replace jc:=aa (jc.out.below hba.out);have xK:=aa (ag bk.out)
  have tK:=aa hba.out.size;go_upto_region 25 with fail
  obtain⟨x5,kz,ez,vD,hbz,mG,bG⟩:=aL x4 #[.int .i64 0,.bool false,.slice none 0 0,.bool false,.slice none 0 0] 41;replace aj:=aG hbz.out aj;replace aD:=aG hbz.out aD;replace bk:=aG hbz.out bk;replace HX:=aa (HX.out.below hbz.out);replace HZ:=aa (HZ.out.below hbz.out);replace HE:=aa (HE.out.below hbz.out);replace HW:=aa (HW.out.trans (hbz.out.mono HW.out.size));replace cg:=aa (cg.out.below hbz.out);replace dj:=aa (dj.out.below hbz.out);replace fW:=aa (fW.out.below hbz.out);replace gM:=aa (gM.out.below hbz.out);replace dD:=aa (dD.out.below hbz.out);replace jc:=aa (jc.out.below hbz.out);rw[ez,vD]
  have AN:Hid (w.heap.size<=kz):=aa (by have h1:=gp.out;have h2:=bP.out.size;have h3:=hba.out.size;have h4:=hka.out;have h5:=mG.out;have h6:=ag aD.out;have h7:=aR.out.size;have h8:=hb.size;omega);have c0:=ae (v:=.int .i64 15) aj.out 0 rfl;have bM:=af aj.out 0;have c1:=ae (v:=.bool b) aj.out 1 rfl;have bL:=af aj.out 1;have c2:=ae (v:=.slice ao l c) aj.out 2 rfl;have bK:=af aj.out 2;have c3:=ae (v:=.string nm) aj.out 3 rfl;have bJ:=af aj.out 3;have c4:=ae (v:=.slice (some a) 2 kc) aj.out 4 rfl;have bI:=af aj.out 4;obtain⟨y0,y1,y2,y3,y4⟩:=gM.out
  try simp only at y0 y1 y2 y3 y4
  have FQ:=aa (ag bG.out);go_wp2_with fail
  refine (rZ.out _ _ env q S x5 fW.out HE.out wY.out wX.out FM.out nM.out).mono ?_;rintro e x6 ⟨x,rfl,hv,hb⟩;clear c0 bM c1 bL c2 bK c3 bJ c4 bI y0 y1 y2 y3 y4;replace aj:=aG hb aj;replace aD:=aG hb aD;replace bk:=aG hb bk;replace bG:=aG hb bG;replace HX:=aa (HX.out.below hb);replace HZ:=aa (HZ.out.below hb);replace HE:=aa (HE.out.below hb);replace HW:=aa (HW.out.trans (hb.mono HW.out.size));replace cg:=aa (cg.out.below hb);replace dj:=aa (dj.out.below hb);replace fW:=aa (fW.out.below hb);replace gM:=aa (gM.out.below hb);replace dD:=aa (dD.out.below hb);replace jc:=aa (jc.out.below hb);rw[wU.out] at hv;have nk:=aa hv;obtain⟨sJ,sM,sG,sI,sL,sF,sH,sE,rfl⟩:=hv.shape;obtain⟨sn,qx⟩:∃ d,d=gX (.I Y):=⟨_,rfl⟩
  rw[<-qx] at hv ⊢;replace nk:=aa hv;have wZ:=aa hv.zi;clear qx;clear hv;have g0:=ae (v:=.int .i64 0) bG.out 0 rfl;have nF:=af bG.out 0;have g1:=ae (v:=.bool false) bG.out 1 rfl;have nD:=af bG.out 1;have g2:=ae (v:=.slice none 0 0) bG.out 2 rfl;have oA:=af bG.out 2;have g3:=ae (v:=.bool false) bG.out 3 rfl;have oz:=af bG.out 3;have g4:=ae (v:=.slice none 0 0) bG.out 4 rfl;have oy:=af bG.out 4;go_upto_region 27 with fail
  clear g0 nF g1 nD g2 oA g3 oz g4 oy;have eB:=aY (w:=x6) (k:=kz) (.int .i64 sJ) (.bool sM) (.slice sG sI sL) (.bool sn) (.slice sF sH sE);have jK:=fj bG.out (.int .i64 sJ) (.bool sM) (.slice sG sI sL) (.bool sn) (.slice sF sH sE);have jM:Fr 41 x6 _:=.aN eB (fun j hj=>by injection hj with hj;subst hj;exact⟨_,bG.out,eF⟩);obtain⟨W1,lN⟩:∃ q,q=((((x6.setCell ⟨kz,0,none⟩ (.int .i64 sJ)).setCell ⟨kz,1,none⟩ (.bool sM)).setCell ⟨kz,2,none⟩ (.slice sG sI sL)).setCell ⟨kz,3,none⟩ (.bool sn)).setCell ⟨kz,4,none⟩ (.slice sF sH sE):=⟨_,rfl⟩
  rw[<-lN] at eB jK jM ⊢;clear lN;replace aj:=aa ((eB.block kf (ag aj.out) (fun e=>by injection e with e;have h1:=mG.out;have h2:=zy.out;have h3:=tK.out;omega)).trans aj.out);replace aD:=aa ((eB.block kr (ag aD.out) (fun e=>by injection e with e;have h1:=mG.out;have h2:=vj.out;have h3:=tK.out;omega)).trans aD.out);replace bk:=aa ((eB.block ka (ag bk.out) (fun e=>by injection e with e;have h1:=mG.out;have h2:=xK.out;have h3:=tK.out;omega)).trans bk.out);replace bG:=aa jK;replace HW:=aa (aS HW.out eB AN.out);clear HX;replace HZ:=aa (HZ.out.fr jM);clear HE;clear cg;clear dj;clear fW;clear gM;replace dD:=aa (dD.out.fr (by decide) jM);replace jc:=aa (jc.out.fr jM);replace nk:=aa (nk.out.fr (by decide) jM)
  replace wZ:=aa (wZ.out.fr jM);clear eB jK jM;have c0:=ae (v:=.int .i64 15) aj.out 0 rfl;have bM:=af aj.out 0;have c1:=ae (v:=.bool b) aj.out 1 rfl;have bL:=af aj.out 1;have c2:=ae (v:=.slice ao l c) aj.out 2 rfl;have bK:=af aj.out 2;have c3:=ae (v:=.string nm) aj.out 3 rfl;have bJ:=af aj.out 3;have c4:=ae (v:=.slice (some a) 2 kc) aj.out 4 rfl;have bI:=af aj.out 4;have m0:=ae (v:=.int .i64 qj) bk.out 0 rfl;have jj:=af bk.out 0;have m1:=ae (v:=.bool p8) bk.out 1 rfl;have ji:=af bk.out 1;have m2:=ae (v:=.slice pJ pN pY) bk.out 2 rfl;have uZ:=af bk.out 2;have m3:=ae (v:=.bool oN) bk.out 3 rfl;have uY:=af bk.out 3;have m4:=ae (v:=.slice pH mh oL) bk.out 4 rfl;have uX:=af bk.out 4
  have n0:=ae (v:=.int .i64 sJ) bG.out 0 rfl;have fn0:=af bG.out 0;have n1:=ae (v:=.bool sM) bG.out 1 rfl;have uW:=af bG.out 1;have n2:=ae (v:=.slice sG sI sL) bG.out 2 rfl;have uV:=af bG.out 2;have n3:=ae (v:=.bool sn) bG.out 3 rfl;have uU:=af bG.out 3;have n4:=ae (v:=.slice sF sH sE) bG.out 4 rfl;have uT:=af bG.out 4;have hle:=KE X Y;go_wp2_with fail
  refine (vY _ _ X Y 600 600 W1 jc.out.gi wZ.out.gi (by decide) (by decide)).mono ?_;rintro e x7 ⟨rfl,hb⟩;clear c0 bM c1 bL c2 bK c3 bJ c4 bI m0 jj m1 ji m2 uZ m3 uY m4 uX n0 fn0 n1 uW n2 uV n3 uU n4 uT;replace aj:=aG hb aj;replace aD:=aG hb aD;replace bk:=aG hb bk;replace bG:=aG hb bG;replace HZ:=aa (HZ.out.below hb);replace HW:=aa (HW.out.trans (hb.mono HW.out.size));replace dD:=aa (dD.out.below hb);replace jc:=aa (jc.out.below hb);replace nk:=aa (nk.out.below hb);replace wZ:=aa (wZ.out.below hb);go_wp2_with fail
  refine (jb _ x7).mono ?_;rintro e x8 ⟨v,rfl,hv,hb⟩;replace aj:=aG hb aj;replace aD:=aG hb aD;replace bk:=aG hb bk;replace bG:=aG hb bG;replace HZ:=aa (HZ.out.below hb);replace HW:=aa (HW.out.trans (hb.mono HW.out.size));replace dD:=aa (dD.out.below hb);replace jc:=aa (jc.out.below hb);replace nk:=aa (nk.out.below hb);replace wZ:=aa (wZ.out.below hb);have vw:=hv.bool;subst vw;have HV:=aa hv;clear hv;obtain⟨⟨r0,r1,r2,r3,r4⟩,gT,gS,iF,iE,iD⟩:=aV aD.out;go_wp2_with fail
  obtain⟨s1,s2⟩:=gh HW.out aD.out eF gp.out (.int .i64 1) (.bool false) (.slice none 0 0) (.bool (decide (X<=Y))) (.slice none 0 0)
  (try simp only[aE,aM])
  exact aB (v:=.agg #[.int .i64 1,.bool false,.slice none 0 0,.bool (decide (X<=Y)),.slice none 0 0]) (by simp[results,bF,go_sem,r0,r1,r2,r3,r4]) rfl ⟨_,rfl,VC.fr (show VC _ _ (ev (a_ env) _) from by rw[gN.out];exact HV.out) (by decide) s1,s2⟩
 ·have HX:=aa hk;have HZ:=aa hz;have HE:=aa he;have HW:=aa (av w.heap.size w);have cC:=aa eR;clear eR hkc hk hz he;have hh:fP ks=[0,0]\/fP ks=[2,2]:=by simpa [cO,bB] using hfit
  obtain⟨p,q,rfl⟩:∃ p q,ks=[p,q]:=by rcases hh with hh | hh<;>(obtain⟨p,q,rfl,-,-⟩:=iZ hh;exact⟨p,q,rfl⟩)
  clear hh;have nn:=aa (dF.kG p (by simp));have nr:=aa (fy p (by simp));have wW:=aa (o5.out p (by simp));have wX:=aa (dF.kG q (by simp));have wY:=aa (fy q (by simp));have FM:=aa (o5.out q (by simp));obtain⟨X,hX⟩:∃ x,ev (a_ env) p=x:=⟨_,rfl⟩
  have mc:=aa hX;obtain⟨Y,hY⟩:∃ x,ev (a_ env) q=x:=⟨_,rfl⟩
  have wU:=aa hY;have gN:Hid (ev (a_ env) (.node 16 z nm [p,q])=.B (decide (X=Y))):=aa (by rw[ev,iH,iH,iH,hX,hY];rfl);have lV:Hid (rH (.B (decide (X=Y)))):=aa (by have h3:=hval;rw[gN.out] at h3;exact h3);have uD:Hid (rH (ev (a_ env) p)):=aa (dF.kG p (by simp)).val;have FK:Hid (rH (ev (a_ env) q)):=aa (dF.kG q (by simp)).val;have gW:kl=2:=cC.out;subst gW;clear dF fy hval hfit l_ cC o5 hX hY;go_enter cM,cA
  obtain⟨x1,kf,ef,hO,aR,gL,aj⟩:=aL w #[.int .i64 16,.bool b,.slice ao l c,.string nm,.slice ko 2 kc] 29;replace HX:=aa (HX.out.below aR.out);replace HZ:=aa (HZ.out.below aR.out);replace HE:=aa (HE.out.below aR.out);replace HW:=aa (HW.out.trans (aR.out.mono HW.out.size));obtain⟨x2,kr,er,lZ,bP,gD,aD⟩:=aL x1 #[.int .i64 0,.bool false,.slice none 0 0,.bool false,.slice none 0 0] 41;replace aj:=aG bP.out aj;replace HX:=aa (HX.out.below bP.out);replace HZ:=aa (HZ.out.below bP.out);replace HE:=aa (HE.out.below bP.out);replace HW:=aa (HW.out.trans (bP.out.mono HW.out.size));have gp:Hid (w.heap.size<=kr):=aa (aq aR.out.size gD.out);have c0:=ae (v:=.int .i64 16) aj.out 0 rfl;have bM:=af aj.out 0;have c1:=ae (v:=.bool b) aj.out 1 rfl
  have bL:=af aj.out 1;have c2:=ae (v:=.slice ao l c) aj.out 2 rfl;have bK:=af aj.out 2;have c3:=ae (v:=.string nm) aj.out 3 rfl;have bJ:=af aj.out 3;have c4:=ae (v:=.slice ko 2 kc) aj.out 4 rfl;have bI:=af aj.out 4;obtain⟨a,bp,op,lp,cp,pP,pQ,pR,gV,⟨p0,p1,p2,p3,p4⟩,fB⟩:=HX.out.first;subst gV;obtain⟨pI,dH⟩:∃ x,x=p.op:=⟨_,rfl⟩
  obtain⟨pL,dI⟩:∃ x,x=p.name:=⟨_,rfl⟩
  rw[<-dH] at p0 fB;rw[<-dI] at p3 fB;have cg:=aa fB;have dj:Hid (sC x2 a pI bp op lp cp pL pP pQ pR):=aa ⟨p0,p1,p2,p3,p4⟩;clear dH dI fB p0 p1 p2 p3 p4;obtain⟨a2,bq,oq,lq,cq,vt,vu,vv,ou,⟨q0,q1,q2,q3,q4⟩,jd⟩:=HX.out.second;injection ou with tA;subst tA;obtain⟨vJ,js⟩:∃ x,x=q.op:=⟨_,rfl⟩
  obtain⟨vK,jt⟩:∃ x,x=q.name:=⟨_,rfl⟩
  rw[<-js] at q0 jd;rw[<-jt] at q3 jd;have fW:=aa jd;have gM:Hid (sC x2 ⟨a.block,a.off+5,none⟩ vJ bq oq lq cq vK vt vu vv):=aa ⟨q0,q1,q2,q3,q4⟩;clear js jt jd q0 q1 q2 q3 q4;obtain⟨y0,y1,y2,y3,y4⟩:=dj.out
  try simp only at y0 y1 y2 y3 y4
  go_wp2_with fail
  refine (rZ.out _ _ env p S x2 cg.out HE.out nr.out nn.out wW.out nM.out).mono ?_;rintro e x3 ⟨x,rfl,hv,hb⟩;clear c0 bM c1 bL c2 bK c3 bJ c4 bI y0 y1 y2 y3 y4;replace aj:=aG hb aj;replace aD:=aG hb aD;replace HX:=aa (HX.out.below hb);replace HZ:=aa (HZ.out.below hb);replace HE:=aa (HE.out.below hb);replace HW:=aa (HW.out.trans (hb.mono HW.out.size));replace cg:=aa (cg.out.below hb);replace dj:=aa (dj.out.below hb);replace fW:=aa (fW.out.below hb);replace gM:=aa (gM.out.below hb);rw[mc.out] at hv;have dD:=aa hv;obtain⟨qj,p8,pJ,pN,pY,pH,mh,oL,rfl⟩:=hv.shape;obtain⟨oN,je⟩:∃ d,d=gX X:=⟨_,rfl⟩
  rw[<-je] at hv ⊢;replace dD:=aa hv;clear je;clear hv;have zy:=aa (ag aj.out);have vj:=aa (ag aD.out);obtain⟨x4,ka,ea,AX,hba,hka,bk⟩:=aL x3 #[.int .i64 qj,.bool p8,.slice pJ pN pY,.bool oN,.slice pH mh oL] 41;replace aj:=aG hba.out aj;replace aD:=aG hba.out aD;replace HX:=aa (HX.out.below hba.out);replace HZ:=aa (HZ.out.below hba.out);replace HE:=aa (HE.out.below hba.out);replace HW:=aa (HW.out.trans (hba.out.mono HW.out.size));replace cg:=aa (cg.out.below hba.out);replace dj:=aa (dj.out.below hba.out);replace fW:=aa (fW.out.below hba.out);replace gM:=aa (gM.out.below hba.out);replace dD:=aa (dD.out.below hba.out);have xK:=aa (ag bk.out);have tK:=aa hba.out.size;go_upto_region 25 with fail
  obtain⟨x5,kz,ez,vD,hbz,mG,bG⟩:=aL x4 #[.int .i64 0,.bool false,.slice none 0 0,.bool false,.slice none 0 0] 41;replace aj:=aG hbz.out aj;replace aD:=aG hbz.out aD;replace bk:=aG hbz.out bk;replace HX:=aa (HX.out.below hbz.out);replace HZ:=aa (HZ.out.below hbz.out);replace HE:=aa (HE.out.below hbz.out);replace HW:=aa (HW.out.trans (hbz.out.mono HW.out.size));replace cg:=aa (cg.out.below hbz.out);replace dj:=aa (dj.out.below hbz.out);replace fW:=aa (fW.out.below hbz.out);replace gM:=aa (gM.out.below hbz.out);replace dD:=aa (dD.out.below hbz.out);rw[ez,vD]
  have AN:Hid (w.heap.size<=kz):=aa (by have h1:=gp.out;have h2:=bP.out.size;have h3:=hba.out.size;have h4:=hka.out;have h5:=mG.out;have h6:=ag aD.out;have h7:=aR.out.size;have h8:=hb.size;omega);have c0:=ae (v:=.int .i64 16) aj.out 0 rfl;have bM:=af aj.out 0;have c1:=ae (v:=.bool b) aj.out 1 rfl;have bL:=af aj.out 1;have c2:=ae (v:=.slice ao l c) aj.out 2 rfl;have bK:=af aj.out 2;have c3:=ae (v:=.string nm) aj.out 3 rfl;have bJ:=af aj.out 3;have c4:=ae (v:=.slice (some a) 2 kc) aj.out 4 rfl;have bI:=af aj.out 4;obtain⟨y0,y1,y2,y3,y4⟩:=gM.out
  try simp only at y0 y1 y2 y3 y4
  have FQ:=aa (ag bG.out);go_wp2_with fail
  refine (rZ.out _ _ env q S x5 fW.out HE.out wY.out wX.out FM.out nM.out).mono ?_;rintro e x6 ⟨x,rfl,hv,hb⟩;clear c0 bM c1 bL c2 bK c3 bJ c4 bI y0 y1 y2 y3 y4;replace aj:=aG hb aj;replace aD:=aG hb aD;replace bk:=aG hb bk;replace bG:=aG hb bG;replace HX:=aa (HX.out.below hb);replace HZ:=aa (HZ.out.below hb);replace HE:=aa (HE.out.below hb);replace HW:=aa (HW.out.trans (hb.mono HW.out.size));replace cg:=aa (cg.out.below hb);replace dj:=aa (dj.out.below hb);replace fW:=aa (fW.out.below hb);replace gM:=aa (gM.out.below hb);replace dD:=aa (dD.out.below hb);rw[wU.out] at hv;have nk:=aa hv;obtain⟨sJ,sM,sG,sI,sL,sF,sH,sE,rfl⟩:=hv.shape;obtain⟨sn,qx⟩:∃ d,d=gX Y:=⟨_,rfl⟩
  rw[<-qx] at hv ⊢;replace nk:=aa hv;clear qx;clear hv;have g0:=ae (v:=.int .i64 0) bG.out 0 rfl;have nF:=af bG.out 0;have g1:=ae (v:=.bool false) bG.out 1 rfl;have nD:=af bG.out 1;have g2:=ae (v:=.slice none 0 0) bG.out 2 rfl;have oA:=af bG.out 2;have g3:=ae (v:=.bool false) bG.out 3 rfl;have oz:=af bG.out 3;have g4:=ae (v:=.slice none 0 0) bG.out 4 rfl;have oy:=af bG.out 4;go_upto_region 27 with fail
  clear g0 nF g1 nD g2 oA g3 oz g4 oy;have eB:=aY (w:=x6) (k:=kz) (.int .i64 sJ) (.bool sM) (.slice sG sI sL) (.bool sn) (.slice sF sH sE);have jK:=fj bG.out (.int .i64 sJ) (.bool sM) (.slice sG sI sL) (.bool sn) (.slice sF sH sE);have jM:Fr 41 x6 _:=.aN eB (fun j hj=>by injection hj with hj;subst hj;exact⟨_,bG.out,eF⟩);obtain⟨W1,lN⟩:∃ q,q=((((x6.setCell ⟨kz,0,none⟩ (.int .i64 sJ)).setCell ⟨kz,1,none⟩ (.bool sM)).setCell ⟨kz,2,none⟩ (.slice sG sI sL)).setCell ⟨kz,3,none⟩ (.bool sn)).setCell ⟨kz,4,none⟩ (.slice sF sH sE):=⟨_,rfl⟩
  rw[<-lN] at eB jK jM ⊢;clear lN;replace aj:=aa ((eB.block kf (ag aj.out) (fun e=>by injection e with e;have h1:=mG.out;have h2:=zy.out;have h3:=tK.out;omega)).trans aj.out);replace aD:=aa ((eB.block kr (ag aD.out) (fun e=>by injection e with e;have h1:=mG.out;have h2:=vj.out;have h3:=tK.out;omega)).trans aD.out);replace bk:=aa ((eB.block ka (ag bk.out) (fun e=>by injection e with e;have h1:=mG.out;have h2:=xK.out;have h3:=tK.out;omega)).trans bk.out);replace bG:=aa jK;replace HW:=aa (aS HW.out eB AN.out);clear HX;replace HZ:=aa (HZ.out.fr jM);clear HE;clear cg;clear dj;clear fW;clear gM;replace dD:=aa (dD.out.fr (by decide) jM);replace nk:=aa (nk.out.fr (by decide) jM);clear eB jK jM
  have c0:=ae (v:=.int .i64 16) aj.out 0 rfl;have bM:=af aj.out 0;have c1:=ae (v:=.bool b) aj.out 1 rfl;have bL:=af aj.out 1;have c2:=ae (v:=.slice ao l c) aj.out 2 rfl;have bK:=af aj.out 2;have c3:=ae (v:=.string nm) aj.out 3 rfl;have bJ:=af aj.out 3;have c4:=ae (v:=.slice (some a) 2 kc) aj.out 4 rfl;have bI:=af aj.out 4;have m0:=ae (v:=.int .i64 qj) bk.out 0 rfl;have jj:=af bk.out 0;have m1:=ae (v:=.bool p8) bk.out 1 rfl;have ji:=af bk.out 1;have m2:=ae (v:=.slice pJ pN pY) bk.out 2 rfl;have uZ:=af bk.out 2;have m3:=ae (v:=.bool oN) bk.out 3 rfl;have uY:=af bk.out 3;have m4:=ae (v:=.slice pH mh oL) bk.out 4 rfl;have uX:=af bk.out 4;have n0:=ae (v:=.int .i64 sJ) bG.out 0 rfl
  have fn0:=af bG.out 0;have n1:=ae (v:=.bool sM) bG.out 1 rfl;have uW:=af bG.out 1;have n2:=ae (v:=.slice sG sI sL) bG.out 2 rfl;have uV:=af bG.out 2;have n3:=ae (v:=.bool sn) bG.out 3 rfl;have uU:=af bG.out 3;have n4:=ae (v:=.slice sF sH sE) bG.out 4 rfl;have uT:=af bG.out 4;go_wp2_with fail
  refine (Bf _ _ X Y W1 dD.out nk.out).mono ?_;rintro e x7 ⟨rfl,hb⟩;clear c0 bM c1 bL c2 bK c3 bJ c4 bI m0 jj m1 ji m2 uZ m3 uY m4 uX n0 fn0 n1 uW n2 uV n3 uU n4 uT;replace aj:=aG hb aj;replace aD:=aG hb aD;replace bk:=aG hb bk;replace bG:=aG hb bG;replace HZ:=aa (HZ.out.below hb);replace HW:=aa (HW.out.trans (hb.mono HW.out.size));replace dD:=aa (dD.out.below hb);replace nk:=aa (nk.out.below hb);obtain⟨R,hR⟩:∃ R,R=decide (X=Y):=⟨_,rfl⟩
  rw[<-hR];replace gN:Hid (ev (a_ env) (.node 16 z nm [p,q])=.B R):=aa (by rw[gN.out,hR]);clear hR;go_wp2_with fail
  refine (jb _ x7).mono ?_;rintro e x8 ⟨v,rfl,hv,hb⟩;replace aj:=aG hb aj;replace aD:=aG hb aD;replace bk:=aG hb bk;replace bG:=aG hb bG;replace HZ:=aa (HZ.out.below hb);replace HW:=aa (HW.out.trans (hb.mono HW.out.size));replace dD:=aa (dD.out.below hb);replace nk:=aa (nk.out.below hb);have vw:=hv.bool;subst vw;have HV:=aa hv;clear hv;obtain⟨⟨r0,r1,r2,r3,r4⟩,gT,gS,iF,iE,iD⟩:=aV aD.out;go_wp2_with fail
  obtain⟨s1,s2⟩:=gh HW.out aD.out eF gp.out (.int .i64 1) (.bool false) (.slice none 0 0) (.bool (R)) (.slice none 0 0)
  (try simp only[aE,aM])
  exact aB (v:=.agg #[.int .i64 1,.bool false,.slice none 0 0,.bool (R),.slice none 0 0]) (by simp[results,bF,go_sem,r0,r1,r2,r3,r4]) rfl ⟨_,rfl,VC.fr (show VC _ _ (ev (a_ env) _) from by rw[gN.out];exact HV.out) (by decide) s1,s2⟩
 ·have HX:=aa hk;have HZ:=aa hz;have HE:=aa he;have HW:=aa (av w.heap.size w);have cC:=aa eR;clear eR hkc hk hz he;obtain⟨p,rfl,hp⟩:=i_ (ks:=ks) (s:=1) (by simpa [cO,bB] using hfit);have nn:=aa (dF.kG p (by simp));have nr:=aa (fy p (by simp));have wW:=aa (o5.out p (by simp));obtain⟨X,hX⟩:∃ x,ev (a_ env) p=.B x:=⟨_,tD hp⟩
  have mc:=aa hX;have gN:Hid (ev (a_ env) (.node 17 z nm [p])=.B (!X)):=aa (by rw[ev,iH,iH,hX];rfl);have lV:Hid (rH (.B (!X))):=aa (by have h3:=hval;rw[gN.out] at h3;exact h3);have uD:Hid (rH (ev (a_ env) p)):=aa (dF.kG p (by simp)).val;have gW:kl=1:=cC.out;subst gW;clear dF fy hval hfit l_ cC o5 hX hp;go_enter cM,cA
  obtain⟨x1,kf,ef,hO,aR,gL,aj⟩:=aL w #[.int .i64 17,.bool b,.slice ao l c,.string nm,.slice ko 1 kc] 29;replace HX:=aa (HX.out.below aR.out);replace HZ:=aa (HZ.out.below aR.out);replace HE:=aa (HE.out.below aR.out);replace HW:=aa (HW.out.trans (aR.out.mono HW.out.size));obtain⟨x2,kr,er,lZ,bP,gD,aD⟩:=aL x1 #[.int .i64 0,.bool false,.slice none 0 0,.bool false,.slice none 0 0] 41;replace aj:=aG bP.out aj;replace HX:=aa (HX.out.below bP.out);replace HZ:=aa (HZ.out.below bP.out);replace HE:=aa (HE.out.below bP.out);replace HW:=aa (HW.out.trans (bP.out.mono HW.out.size));have gp:Hid (w.heap.size<=kr):=aa (aq aR.out.size gD.out);have c0:=ae (v:=.int .i64 17) aj.out 0 rfl;have bM:=af aj.out 0;have c1:=ae (v:=.bool b) aj.out 1 rfl
  have bL:=af aj.out 1;have c2:=ae (v:=.slice ao l c) aj.out 2 rfl;have bK:=af aj.out 2;have c3:=ae (v:=.string nm) aj.out 3 rfl;have bJ:=af aj.out 3;have c4:=ae (v:=.slice ko 1 kc) aj.out 4 rfl;have bI:=af aj.out 4;obtain⟨a,bp,op,lp,cp,pP,pQ,pR,gV,⟨p0,p1,p2,p3,p4⟩,fB⟩:=HX.out.first;subst gV;obtain⟨pI,dH⟩:∃ x,x=p.op:=⟨_,rfl⟩
  obtain⟨pL,dI⟩:∃ x,x=p.name:=⟨_,rfl⟩
  rw[<-dH] at p0 fB;rw[<-dI] at p3 fB;have cg:=aa fB;have dj:Hid (sC x2 a pI bp op lp cp pL pP pQ pR):=aa ⟨p0,p1,p2,p3,p4⟩;clear dH dI fB p0 p1 p2 p3 p4;obtain⟨y0,y1,y2,y3,y4⟩:=dj.out
  try simp only at y0 y1 y2 y3 y4
  go_wp2_with fail
  refine (rZ.out _ _ env p S x2 cg.out HE.out nr.out nn.out wW.out nM.out).mono ?_;rintro e x3 ⟨x,rfl,hv,hb⟩;clear c0 bM c1 bL c2 bK c3 bJ c4 bI y0 y1 y2 y3 y4;replace aj:=aG hb aj;replace aD:=aG hb aD;replace HX:=aa (HX.out.below hb);replace HZ:=aa (HZ.out.below hb);replace HE:=aa (HE.out.below hb);replace HW:=aa (HW.out.trans (hb.mono HW.out.size));replace cg:=aa (cg.out.below hb);replace dj:=aa (dj.out.below hb);rw[mc.out] at hv;have dD:=aa hv;obtain⟨qj,p8,pJ,pN,pY,pH,mh,oL,rfl⟩:=hv.shape;obtain⟨oN,je⟩:∃ d,d=gX (.B X):=⟨_,rfl⟩
  rw[<-je] at hv ⊢;replace dD:=aa hv;have Sz:Hid (oN=X):=aa je;clear je;clear hv;have zy:=aa (ag aj.out);have vj:=aa (ag aD.out);obtain⟨x4,ka,ea,AX,hba,hka,bk⟩:=aL x3 #[.int .i64 qj,.bool p8,.slice pJ pN pY,.bool oN,.slice pH mh oL] 41;replace aj:=aG hba.out aj;replace aD:=aG hba.out aD;replace HX:=aa (HX.out.below hba.out);replace HZ:=aa (HZ.out.below hba.out);replace HE:=aa (HE.out.below hba.out);replace HW:=aa (HW.out.trans (hba.out.mono HW.out.size));replace cg:=aa (cg.out.below hba.out);replace dj:=aa (dj.out.below hba.out);replace dD:=aa (dD.out.below hba.out);have xK:=aa (ag bk.out);have tK:=aa hba.out.size;go_upto_region 25 with fail
  obtain⟨x5,kz,ez,vD,hbz,mG,bG⟩:=aL x4 #[.int .i64 0,.bool false,.slice none 0 0,.bool false,.slice none 0 0] 41;replace aj:=aG hbz.out aj;replace aD:=aG hbz.out aD;replace bk:=aG hbz.out bk;replace HX:=aa (HX.out.below hbz.out);replace HZ:=aa (HZ.out.below hbz.out);replace HE:=aa (HE.out.below hbz.out);replace HW:=aa (HW.out.trans (hbz.out.mono HW.out.size));replace cg:=aa (cg.out.below hbz.out);replace dj:=aa (dj.out.below hbz.out);replace dD:=aa (dD.out.below hbz.out);rw[ez,vD];have AN:Hid (w.heap.size<=kz):=aa (by have h1:=gp.out;have h2:=bP.out.size;have h3:=hba.out.size;have h4:=hka.out;have h5:=mG.out;have h6:=ag aD.out;have h7:=aR.out.size;have h8:=hb.size;omega);have c0:=ae (v:=.int .i64 17) aj.out 0 rfl
  have bM:=af aj.out 0;have c1:=ae (v:=.bool b) aj.out 1 rfl;have bL:=af aj.out 1;have c2:=ae (v:=.slice ao l c) aj.out 2 rfl;have bK:=af aj.out 2;have c3:=ae (v:=.string nm) aj.out 3 rfl;have bJ:=af aj.out 3;have c4:=ae (v:=.slice (some a) 1 kc) aj.out 4 rfl;have bI:=af aj.out 4;have m0:=ae (v:=.int .i64 qj) bk.out 0 rfl;have jj:=af bk.out 0;have m1:=ae (v:=.bool p8) bk.out 1 rfl;have ji:=af bk.out 1;have m2:=ae (v:=.slice pJ pN pY) bk.out 2 rfl;have uZ:=af bk.out 2;have m3:=ae (v:=.bool oN) bk.out 3 rfl;have uY:=af bk.out 3;have m4:=ae (v:=.slice pH mh oL) bk.out 4 rfl;have uX:=af bk.out 4;have n0:=ae (v:=.int .i64 0) bG.out 0 rfl;have fn0:=af bG.out 0
  have n1:=ae (v:=.bool false) bG.out 1 rfl;have uW:=af bG.out 1;have n2:=ae (v:=.slice none 0 0) bG.out 2 rfl;have uV:=af bG.out 2;have n3:=ae (v:=.bool false) bG.out 3 rfl;have uU:=af bG.out 3;have n4:=ae (v:=.slice none 0 0) bG.out 4 rfl;have uT:=af bG.out 4;obtain rfl:=Sz.out;go_wp2_with fail
  refine (jb _ x5).mono ?_;rintro e x6 ⟨v,rfl,hv,hb⟩;clear c0 bM c1 bL c2 bK c3 bJ c4 bI m0 jj m1 ji m2 uZ m3 uY m4 uX n0 fn0 n1 uW n2 uV n3 uU n4 uT;replace aj:=aG hb aj;replace aD:=aG hb aD;replace bk:=aG hb bk;replace bG:=aG hb bG;replace HX:=aa (HX.out.below hb);replace HZ:=aa (HZ.out.below hb);replace HE:=aa (HE.out.below hb);replace HW:=aa (HW.out.trans (hb.mono HW.out.size));replace cg:=aa (cg.out.below hb);replace dj:=aa (dj.out.below hb);replace dD:=aa (dD.out.below hb);have vw:=hv.bool;subst vw;have HV:=aa hv;clear hv;obtain⟨⟨r0,r1,r2,r3,r4⟩,gT,gS,iF,iE,iD⟩:=aV aD.out;go_wp2_with fail
  obtain⟨s1,s2⟩:=gh HW.out aD.out eF gp.out (.int .i64 1) (.bool false) (.slice none 0 0) (.bool (!oN)) (.slice none 0 0)
  (try simp only[aE,aM])
  exact aB (v:=.agg #[.int .i64 1,.bool false,.slice none 0 0,.bool (!oN),.slice none 0 0]) (by simp[results,bF,go_sem,r0,r1,r2,r3,r4]) rfl ⟨_,rfl,VC.fr (show VC _ _ (ev (a_ env) _) from by rw[gN.out];exact HV.out) (by decide) s1,s2⟩
 ·have HX:=aa hk;have HZ:=aa hz;have HE:=aa he;have HW:=aa (av w.heap.size w);have cC:=aa eR;clear eR hkc hk hz he
  have hall:∀ f ∈ ks,jh f.op=1:=by
   have h1:(fP ks).all (fun s=>decide (s=1))=true:=by simpa [cO,bB] using hfit
   intro f hf;have:=List.all_eq_true.1 h1 (jh f.op) (List.mem_map.2 ⟨f,hf,rfl⟩)
   simpa using this
  have rN:=aa dF;have vR:=aa fy;have FZ:=aa hall;have gN:Hid (ev (a_ env) (.node 18 z nm ks)=.B (decide (((ks.countP (fun f=>gX (ev (a_ env) f)):Nat):Int)=((kl:Nat):Int)))):=aa (by rw[ev,lO,cC.out];exact congrArg V.B (Dt (ev (a_ env)) ks));clear dF fy hval hfit l_ hall;go_enter cM,cA
  obtain⟨x1,kf,ef,hO,aR,gL,aj⟩:=aL w #[.int .i64 18,.bool b,.slice ao l c,.string nm,.slice ko kl kc] 29;replace HX:=aa (HX.out.below aR.out);replace HZ:=aa (HZ.out.below aR.out);replace HE:=aa (HE.out.below aR.out);replace HW:=aa (HW.out.trans (aR.out.mono HW.out.size));obtain⟨x2,kr,er,lZ,bP,gD,aD⟩:=aL x1 #[.int .i64 0,.bool false,.slice none 0 0,.bool false,.slice none 0 0] 41;replace aj:=aG bP.out aj;replace HX:=aa (HX.out.below bP.out);replace HZ:=aa (HZ.out.below bP.out);replace HE:=aa (HE.out.below bP.out);replace HW:=aa (HW.out.trans (bP.out.mono HW.out.size));have gp:Hid (w.heap.size<=kr):=aa (aq aR.out.size gD.out);have c0:=ae (v:=.int .i64 18) aj.out 0 rfl;have bM:=af aj.out 0;have c1:=ae (v:=.bool b) aj.out 1 rfl
  have bL:=af aj.out 1;have c2:=ae (v:=.slice ao l c) aj.out 2 rfl;have bK:=af aj.out 2;have c3:=ae (v:=.string nm) aj.out 3 rfl;have bJ:=af aj.out 3;have c4:=ae (v:=.slice ko kl kc) aj.out 4 rfl;have bI:=af aj.out 4;go_wp2_with fail
  clear c0 bM c1 bL c2 bK c3 bJ c4 bI
  go_loopw [5,44] (fun n i wr=>∃ j c:Nat,n=.int .i64 (c:Nat)/\i=.int .i64 (j:Nat)/\j<=kl/\c<=j/\Hid ((ks.take j).countP (fun f=>gX (ev (a_ env) f))=c)/\Hid (Below x2.heap.size x2 wr)) (fun _ i _=>kl - (intOf i).toNat)
  case atStart=>exact⟨0,0,rfl,rfl,au _,ak _,aa (by rw[List.take_zero];rfl),aa (av _ _)⟩
  case round =>
   obtain⟨wl,Bv⟩:∃ q,q=wr:=⟨_,rfl⟩
   subst Bv;obtain⟨j,c9,rfl,rfl,hj,T4,HC,HB⟩:=hrel;replace HX:=aa (HX.out.below HB.out);replace HE:=aa (HE.out.below HB.out);replace HZ:=aa (HZ.out.below HB.out);replace HW:=aa (HW.out.trans (HB.out.mono HW.out.size));replace aj:=aa ((HB.out.block _ (ag aj.out)).trans aj.out);replace aD:=aa ((HB.out.block _ (ag aD.out)).trans aD.out)
   by_cases hlt:j<kl
   ·have qu:j<ks.length:=by rw[<-cC.out];exact hlt
    have zA:=aa qu;obtain⟨a,bb,qo,ql,qc,po,pl,pc,rfl,⟨c0,c1,c2,c3,c4⟩,hf⟩:=HX.out.cells j qu;obtain⟨x,ry⟩:∃ x,x=(ks[j]'qu).op:=⟨_,rfl⟩
    obtain⟨ym,hnm⟩:∃ x,x=(ks[j]'qu).name:=⟨_,rfl⟩
    rw[<-ry] at c0 hf;rw[<-hnm] at c3 hf;have sB:=aa hf;clear ry hnm hf;have hmem:(ks[j]'qu) ∈ ks:=cI qu;have HM:=aa hmem;obtain⟨kk,hkk⟩:∃ y,y=(ks[j]'qu):=⟨_,rfl⟩
    rw[<-hkk] at sB HM;have zz:Hid (kk=ks[j]'zA.out):=aa hkk;clear hkk hmem qu;obtain⟨x3,k7,e7,PX,rA,O4,eW⟩:=aL wl #[.int .i64 x,.bool bb,.slice qo ql qc,.string ym,.slice po pl pc] 29;replace aj:=aG rA.out aj;replace aD:=aG rA.out aD;replace HX:=aa (HX.out.below rA.out);replace HZ:=aa (HZ.out.below rA.out);replace HE:=aa (HE.out.below rA.out);replace HW:=aa (HW.out.trans (rA.out.mono HW.out.size));replace HB:=aa (HB.out.trans (rA.out.mono HB.out.size));replace sB:=aa (sB.out.below rA.out);have g0:=ae (v:=.int .i64 x) eW.out 0 rfl;have nF:=af eW.out 0;have g1:=ae (v:=.bool bb) eW.out 1 rfl;have nD:=af eW.out 1;have g2:=ae (v:=.slice qo ql qc) eW.out 2 rfl;have oA:=af eW.out 2;have g3:=ae (v:=.string ym) eW.out 3 rfl
    have oz:=af eW.out 3;have g4:=ae (v:=.slice po pl pc) eW.out 4 rfl;have oy:=af eW.out 4;go_wp2_with fail
    refine (rZ.out _ _ env kk S x3 sB.out HE.out (vR.out kk HM.out) (rN.out.kG kk HM.out) (o5.out kk HM.out) nM.out).mono ?_;rintro e x4 ⟨v,rfl,hv,hb⟩;clear g0 nF g1 nD g2 oA g3 oz g4 oy;replace aj:=aG hb aj;replace aD:=aG hb aD;replace eW:=aG hb eW;replace HX:=aa (HX.out.below hb);replace HZ:=aa (HZ.out.below hb);replace HE:=aa (HE.out.below hb);replace HW:=aa (HW.out.trans (hb.mono HW.out.size));replace HB:=aa (HB.out.trans (hb.mono HB.out.size));replace sB:=aa (sB.out.below hb);obtain⟨kv,bv,ov,lv,cv,pv,mv,qv,rfl⟩:=hv.shape;clear hv;obtain⟨B,hB⟩:∃ B,B=gX (ev (a_ env) kk):=⟨_,rfl⟩
    rw[<-hB];have f_:=aa hB;clear hB
    cases B
    ·have K0:=aa (pZ (fun f=>gX (ev (a_ env) f)) ks j zA.out);go_wp2_with fail
     go_roundw
     case rel=>exact⟨j+1,c9,by go_num,by go_num,hlt,by omega,aa (by rw[K0.out,HC.out,<-zz.out,<-f_.out];rfl),HB⟩
     case measure=>simp[intOf];omega
    have K0:=aa (pZ (fun f=>gX (ev (a_ env) f)) ks j zA.out);go_wp2_with fail
    go_roundw
    case rel=>exact⟨j+1,c9+1,by go_num,by go_num,hlt,by omega,aa (by rw[K0.out,HC.out,<-zz.out,<-f_.out];rfl),HB⟩
    case measure=>simp[intOf];omega
   have AV:j=kl:=by omega
   subst AV;have tQ:c9=ks.countP (fun f=>gX (ev (a_ env) f)):=by rw[<-HC.out,cC.out,bD]
   replace gN:Hid (ev (a_ env) (.node 18 z nm ks)=.B (decide (((c9:Nat):Int)=((j:Nat):Int)))):=aa (by rw[gN.out,tQ]);clear tQ hlt;have c0:=ae (v:=.int .i64 18) aj.out 0 rfl;have bM:=af aj.out 0;have c1:=ae (v:=.bool b) aj.out 1 rfl;have bL:=af aj.out 1;have c2:=ae (v:=.slice ao l c) aj.out 2 rfl;have bK:=af aj.out 2;have c3:=ae (v:=.string nm) aj.out 3 rfl;have bJ:=af aj.out 3;have c4:=ae (v:=.slice ko j kc) aj.out 4 rfl;have bI:=af aj.out 4;obtain⟨R,hR⟩:∃ R,R=decide (((c9:Nat):Int)=((j:Nat):Int)):=⟨_,rfl⟩
   rw[<-hR] at gN;have U8:=aa hR
   cases R
   ·have Kk:(((c9:Nat):Int)==((j:Nat):Int))=false:=by have:=decide_eq_false_iff_not.1 hR.symm;exact beq_eq_false_iff_ne.2 this
    clear hR HC;go_wp2_with fail
    refine (jb _ wl).mono ?_;rintro e x3 ⟨v,rfl,hv,hb⟩;clear c0 bM c1 bL c2 bK c3 bJ c4 bI;replace aj:=aG hb aj;replace aD:=aG hb aD;replace HX:=aa (HX.out.below hb);replace HZ:=aa (HZ.out.below hb);replace HE:=aa (HE.out.below hb);replace HW:=aa (HW.out.trans (hb.mono HW.out.size));replace HB:=aa (HB.out.trans (hb.mono HB.out.size));have vw:=hv.bool;subst vw;have HV:=aa hv;clear hv;obtain⟨⟨r0,r1,r2,r3,r4⟩,gT,gS,iF,iE,iD⟩:=aV aD.out;go_wp2_with fail
    obtain⟨s1,s2⟩:=gh HW.out aD.out eF gp.out (.int .i64 1) (.bool false) (.slice none 0 0) (.bool (false)) (.slice none 0 0)
    (try simp only[aE,aM])
    exact aB (v:=.agg #[.int .i64 1,.bool false,.slice none 0 0,.bool (false),.slice none 0 0]) (by simp[results,bF,go_sem,r0,r1,r2,r3,r4]) rfl ⟨_,rfl,VC.fr (show VC _ _ (ev (a_ env) _) from by rw[gN.out];exact HV.out) (by decide) s1,s2⟩
   have Kk:(((c9:Nat):Int)==((j:Nat):Int))=true:=by have:=decide_eq_true_iff.1 hR.symm;exact beq_iff_eq.2 this
   clear hR HC;go_wp2_with fail
   refine (jb _ wl).mono ?_;rintro e x3 ⟨v,rfl,hv,hb⟩;clear c0 bM c1 bL c2 bK c3 bJ c4 bI;replace aj:=aG hb aj;replace aD:=aG hb aD;replace HX:=aa (HX.out.below hb);replace HZ:=aa (HZ.out.below hb);replace HE:=aa (HE.out.below hb);replace HW:=aa (HW.out.trans (hb.mono HW.out.size));replace HB:=aa (HB.out.trans (hb.mono HB.out.size));have vw:=hv.bool;subst vw;have HV:=aa hv;clear hv;obtain⟨⟨r0,r1,r2,r3,r4⟩,gT,gS,iF,iE,iD⟩:=aV aD.out;go_wp2_with fail
   obtain⟨s1,s2⟩:=gh HW.out aD.out eF gp.out (.int .i64 1) (.bool false) (.slice none 0 0) (.bool (true)) (.slice none 0 0)
   (try simp only[aE,aM])
   exact aB (v:=.agg #[.int .i64 1,.bool false,.slice none 0 0,.bool (true),.slice none 0 0]) (by simp[results,bF,go_sem,r0,r1,r2,r3,r4]) rfl ⟨_,rfl,VC.fr (show VC _ _ (ev (a_ env) _) from by rw[gN.out];exact HV.out) (by decide) s1,s2⟩
 ·have HX:=aa hk;have HZ:=aa hz;have HE:=aa he;have HW:=aa (av w.heap.size w);have cC:=aa eR;clear eR hkc hk hz he
  have hall:∀ f ∈ ks,jh f.op=1:=by
   have h1:(fP ks).all (fun s=>decide (s=1))=true:=by simpa [cO,bB] using hfit
   intro f hf;have:=List.all_eq_true.1 h1 (jh f.op) (List.mem_map.2 ⟨f,hf,rfl⟩)
   simpa using this
  have rN:=aa dF;have vR:=aa fy;have FZ:=aa hall;have gN:Hid (ev (a_ env) (.node 19 z nm ks)=.B (decide ((0:Int)<((ks.countP (fun f=>gX (ev (a_ env) f)):Nat):Int)))):=aa (by rw[ev,lO];exact congrArg V.B (Ds (ev (a_ env)) ks));clear dF fy hval hfit l_ hall;go_enter cM,cA
  obtain⟨x1,kf,ef,hO,aR,gL,aj⟩:=aL w #[.int .i64 19,.bool b,.slice ao l c,.string nm,.slice ko kl kc] 29;replace HX:=aa (HX.out.below aR.out);replace HZ:=aa (HZ.out.below aR.out);replace HE:=aa (HE.out.below aR.out);replace HW:=aa (HW.out.trans (aR.out.mono HW.out.size));obtain⟨x2,kr,er,lZ,bP,gD,aD⟩:=aL x1 #[.int .i64 0,.bool false,.slice none 0 0,.bool false,.slice none 0 0] 41;replace aj:=aG bP.out aj;replace HX:=aa (HX.out.below bP.out);replace HZ:=aa (HZ.out.below bP.out);replace HE:=aa (HE.out.below bP.out);replace HW:=aa (HW.out.trans (bP.out.mono HW.out.size));have gp:Hid (w.heap.size<=kr):=aa (aq aR.out.size gD.out);have c0:=ae (v:=.int .i64 19) aj.out 0 rfl;have bM:=af aj.out 0;have c1:=ae (v:=.bool b) aj.out 1 rfl
  have bL:=af aj.out 1;have c2:=ae (v:=.slice ao l c) aj.out 2 rfl;have bK:=af aj.out 2;have c3:=ae (v:=.string nm) aj.out 3 rfl;have bJ:=af aj.out 3;have c4:=ae (v:=.slice ko kl kc) aj.out 4 rfl;have bI:=af aj.out 4;go_wp2_with fail
  clear c0 bM c1 bL c2 bK c3 bJ c4 bI
  go_loopw [5,44] (fun n i wr=>∃ j c:Nat,n=.int .i64 (c:Nat)/\i=.int .i64 (j:Nat)/\j<=kl/\c<=j/\Hid ((ks.take j).countP (fun f=>gX (ev (a_ env) f))=c)/\Hid (Below x2.heap.size x2 wr)) (fun _ i _=>kl - (intOf i).toNat)
  case atStart=>exact⟨0,0,rfl,rfl,au _,ak _,aa (by rw[List.take_zero];rfl),aa (av _ _)⟩
  case round =>
   obtain⟨wl,Bv⟩:∃ q,q=wr:=⟨_,rfl⟩
   subst Bv;obtain⟨j,c9,rfl,rfl,hj,T4,HC,HB⟩:=hrel;replace HX:=aa (HX.out.below HB.out);replace HE:=aa (HE.out.below HB.out);replace HZ:=aa (HZ.out.below HB.out);replace HW:=aa (HW.out.trans (HB.out.mono HW.out.size));replace aj:=aa ((HB.out.block _ (ag aj.out)).trans aj.out);replace aD:=aa ((HB.out.block _ (ag aD.out)).trans aD.out)
   by_cases hlt:j<kl
   ·have qu:j<ks.length:=by rw[<-cC.out];exact hlt
    have zA:=aa qu;obtain⟨a,bb,qo,ql,qc,po,pl,pc,rfl,⟨c0,c1,c2,c3,c4⟩,hf⟩:=HX.out.cells j qu;obtain⟨x,ry⟩:∃ x,x=(ks[j]'qu).op:=⟨_,rfl⟩
    obtain⟨ym,hnm⟩:∃ x,x=(ks[j]'qu).name:=⟨_,rfl⟩
    rw[<-ry] at c0 hf;rw[<-hnm] at c3 hf;have sB:=aa hf;clear ry hnm hf;have hmem:(ks[j]'qu) ∈ ks:=cI qu;have HM:=aa hmem;obtain⟨kk,hkk⟩:∃ y,y=(ks[j]'qu):=⟨_,rfl⟩
    rw[<-hkk] at sB HM;have zz:Hid (kk=ks[j]'zA.out):=aa hkk;clear hkk hmem qu;obtain⟨x3,k7,e7,PX,rA,O4,eW⟩:=aL wl #[.int .i64 x,.bool bb,.slice qo ql qc,.string ym,.slice po pl pc] 29;replace aj:=aG rA.out aj;replace aD:=aG rA.out aD;replace HX:=aa (HX.out.below rA.out);replace HZ:=aa (HZ.out.below rA.out);replace HE:=aa (HE.out.below rA.out);replace HW:=aa (HW.out.trans (rA.out.mono HW.out.size));replace HB:=aa (HB.out.trans (rA.out.mono HB.out.size));replace sB:=aa (sB.out.below rA.out);have g0:=ae (v:=.int .i64 x) eW.out 0 rfl;have nF:=af eW.out 0;have g1:=ae (v:=.bool bb) eW.out 1 rfl;have nD:=af eW.out 1;have g2:=ae (v:=.slice qo ql qc) eW.out 2 rfl;have oA:=af eW.out 2;have g3:=ae (v:=.string ym) eW.out 3 rfl
    have oz:=af eW.out 3;have g4:=ae (v:=.slice po pl pc) eW.out 4 rfl;have oy:=af eW.out 4;go_wp2_with fail
    refine (rZ.out _ _ env kk S x3 sB.out HE.out (vR.out kk HM.out) (rN.out.kG kk HM.out) (o5.out kk HM.out) nM.out).mono ?_;rintro e x4 ⟨v,rfl,hv,hb⟩;clear g0 nF g1 nD g2 oA g3 oz g4 oy;replace aj:=aG hb aj;replace aD:=aG hb aD;replace eW:=aG hb eW;replace HX:=aa (HX.out.below hb);replace HZ:=aa (HZ.out.below hb);replace HE:=aa (HE.out.below hb);replace HW:=aa (HW.out.trans (hb.mono HW.out.size));replace HB:=aa (HB.out.trans (hb.mono HB.out.size));replace sB:=aa (sB.out.below hb);obtain⟨kv,bv,ov,lv,cv,pv,mv,qv,rfl⟩:=hv.shape;clear hv;obtain⟨B,hB⟩:∃ B,B=gX (ev (a_ env) kk):=⟨_,rfl⟩
    rw[<-hB];have f_:=aa hB;clear hB
    cases B
    ·have K0:=aa (pZ (fun f=>gX (ev (a_ env) f)) ks j zA.out);go_wp2_with fail
     go_roundw
     case rel=>exact⟨j+1,c9,by go_num,by go_num,hlt,by omega,aa (by rw[K0.out,HC.out,<-zz.out,<-f_.out];rfl),HB⟩
     case measure=>simp[intOf];omega
    have K0:=aa (pZ (fun f=>gX (ev (a_ env) f)) ks j zA.out);go_wp2_with fail
    go_roundw
    case rel=>exact⟨j+1,c9+1,by go_num,by go_num,hlt,by omega,aa (by rw[K0.out,HC.out,<-zz.out,<-f_.out];rfl),HB⟩
    case measure=>simp[intOf];omega
   have AV:j=kl:=by omega
   subst AV;have tQ:c9=ks.countP (fun f=>gX (ev (a_ env) f)):=by rw[<-HC.out,cC.out,bD]
   replace gN:Hid (ev (a_ env) (.node 19 z nm ks)=.B (decide ((0:Int)<((c9:Nat):Int)))):=aa (by rw[gN.out,tQ]);clear tQ hlt;have c0:=ae (v:=.int .i64 19) aj.out 0 rfl;have bM:=af aj.out 0;have c1:=ae (v:=.bool b) aj.out 1 rfl;have bL:=af aj.out 1;have c2:=ae (v:=.slice ao l c) aj.out 2 rfl;have bK:=af aj.out 2;have c3:=ae (v:=.string nm) aj.out 3 rfl;have bJ:=af aj.out 3;have c4:=ae (v:=.slice ko j kc) aj.out 4 rfl;have bI:=af aj.out 4;obtain⟨R,hR⟩:∃ R,R=decide ((0:Int)<((c9:Nat):Int)):=⟨_,rfl⟩
   rw[<-hR] at gN;have U8:=aa hR
   cases R
   ·have Kk:decide (0<c9)=false:=by rw[hR];exact decide_eq_decide.2 (by omega)
    clear hR HC;go_wp2_with fail
    refine (jb _ wl).mono ?_;rintro e x3 ⟨v,rfl,hv,hb⟩;clear c0 bM c1 bL c2 bK c3 bJ c4 bI;replace aj:=aG hb aj;replace aD:=aG hb aD;replace HX:=aa (HX.out.below hb);replace HZ:=aa (HZ.out.below hb);replace HE:=aa (HE.out.below hb);replace HW:=aa (HW.out.trans (hb.mono HW.out.size));replace HB:=aa (HB.out.trans (hb.mono HB.out.size));have vw:=hv.bool;subst vw;have HV:=aa hv;clear hv;obtain⟨⟨r0,r1,r2,r3,r4⟩,gT,gS,iF,iE,iD⟩:=aV aD.out;go_wp2_with fail
    obtain⟨s1,s2⟩:=gh HW.out aD.out eF gp.out (.int .i64 1) (.bool false) (.slice none 0 0) (.bool (false)) (.slice none 0 0)
    (try simp only[aE,aM])
    exact aB (v:=.agg #[.int .i64 1,.bool false,.slice none 0 0,.bool (false),.slice none 0 0]) (by simp[results,bF,go_sem,r0,r1,r2,r3,r4]) rfl ⟨_,rfl,VC.fr (show VC _ _ (ev (a_ env) _) from by rw[gN.out];exact HV.out) (by decide) s1,s2⟩
   have Kk:decide (0<c9)=true:=by rw[hR];exact decide_eq_decide.2 (by omega)
   clear hR HC;go_wp2_with fail
   refine (jb _ wl).mono ?_;rintro e x3 ⟨v,rfl,hv,hb⟩;clear c0 bM c1 bL c2 bK c3 bJ c4 bI;replace aj:=aG hb aj;replace aD:=aG hb aD;replace HX:=aa (HX.out.below hb);replace HZ:=aa (HZ.out.below hb);replace HE:=aa (HE.out.below hb);replace HW:=aa (HW.out.trans (hb.mono HW.out.size));replace HB:=aa (HB.out.trans (hb.mono HB.out.size));have vw:=hv.bool;subst vw;have HV:=aa hv;clear hv;obtain⟨⟨r0,r1,r2,r3,r4⟩,gT,gS,iF,iE,iD⟩:=aV aD.out;go_wp2_with fail
   obtain⟨s1,s2⟩:=gh HW.out aD.out eF gp.out (.int .i64 1) (.bool false) (.slice none 0 0) (.bool (true)) (.slice none 0 0)
   (try simp only[aE,aM])
   exact aB (v:=.agg #[.int .i64 1,.bool false,.slice none 0 0,.bool (true),.slice none 0 0]) (by simp[results,bF,go_sem,r0,r1,r2,r3,r4]) rfl ⟨_,rfl,VC.fr (show VC _ _ (ev (a_ env) _) from by rw[gN.out];exact HV.out) (by decide) s1,s2⟩
 have HX:=aa hk;have HZ:=aa hz;have HE:=aa he;have HW:=aa (av w.heap.size w);have cC:=aa eR;clear eR hkc hk hz he;obtain⟨p,q,rfl,hp,hq⟩:=iZ (ks:=ks) (s:=1) (r:=1) (by simpa [cO,bB] using hfit);have nn:=aa (dF.kG p (by simp));have nr:=aa (fy p (by simp));have wW:=aa (o5.out p (by simp));have wX:=aa (dF.kG q (by simp));have wY:=aa (fy q (by simp));have FM:=aa (o5.out q (by simp));obtain⟨X,hX⟩:∃ x,ev (a_ env) p=.B x:=⟨_,tD hp⟩
 have mc:=aa hX;obtain⟨Y,hY⟩:∃ x,ev (a_ env) q=.B x:=⟨_,tD hq⟩
 have wU:=aa hY;have gN:Hid (ev (a_ env) (.node 20 z nm [p,q])=.B (X==Y)):=aa (by rw[ev,iH,iH,iH,hX,hY];rfl);have lV:Hid (rH (.B (X==Y))):=aa (by have h3:=hval;rw[gN.out] at h3;exact h3);have uD:Hid (rH (ev (a_ env) p)):=aa (dF.kG p (by simp)).val;have FK:Hid (rH (ev (a_ env) q)):=aa (dF.kG q (by simp)).val;have gW:kl=2:=cC.out;subst gW;clear dF fy hval hfit l_ cC o5 hX hY hp hq;go_enter cM,cA
 obtain⟨x1,kf,ef,hO,aR,gL,aj⟩:=aL w #[.int .i64 20,.bool b,.slice ao l c,.string nm,.slice ko 2 kc] 29;replace HX:=aa (HX.out.below aR.out);replace HZ:=aa (HZ.out.below aR.out);replace HE:=aa (HE.out.below aR.out);replace HW:=aa (HW.out.trans (aR.out.mono HW.out.size));obtain⟨x2,kr,er,lZ,bP,gD,aD⟩:=aL x1 #[.int .i64 0,.bool false,.slice none 0 0,.bool false,.slice none 0 0] 41;replace aj:=aG bP.out aj;replace HX:=aa (HX.out.below bP.out);replace HZ:=aa (HZ.out.below bP.out);replace HE:=aa (HE.out.below bP.out);replace HW:=aa (HW.out.trans (bP.out.mono HW.out.size));have gp:Hid (w.heap.size<=kr):=aa (aq aR.out.size gD.out);have c0:=ae (v:=.int .i64 20) aj.out 0 rfl;have bM:=af aj.out 0;have c1:=ae (v:=.bool b) aj.out 1 rfl
 have bL:=af aj.out 1;have c2:=ae (v:=.slice ao l c) aj.out 2 rfl;have bK:=af aj.out 2;have c3:=ae (v:=.string nm) aj.out 3 rfl;have bJ:=af aj.out 3;have c4:=ae (v:=.slice ko 2 kc) aj.out 4 rfl;have bI:=af aj.out 4;obtain⟨a,bp,op,lp,cp,pP,pQ,pR,gV,⟨p0,p1,p2,p3,p4⟩,fB⟩:=HX.out.first;subst gV;obtain⟨pI,dH⟩:∃ x,x=p.op:=⟨_,rfl⟩
 obtain⟨pL,dI⟩:∃ x,x=p.name:=⟨_,rfl⟩
 rw[<-dH] at p0 fB;rw[<-dI] at p3 fB;have cg:=aa fB;have dj:Hid (sC x2 a pI bp op lp cp pL pP pQ pR):=aa ⟨p0,p1,p2,p3,p4⟩;clear dH dI fB p0 p1 p2 p3 p4;obtain⟨a2,bq,oq,lq,cq,vt,vu,vv,ou,⟨q0,q1,q2,q3,q4⟩,jd⟩:=HX.out.second;injection ou with tA;subst tA;obtain⟨vJ,js⟩:∃ x,x=q.op:=⟨_,rfl⟩
 obtain⟨vK,jt⟩:∃ x,x=q.name:=⟨_,rfl⟩
 rw[<-js] at q0 jd;rw[<-jt] at q3 jd;have fW:=aa jd;have gM:Hid (sC x2 ⟨a.block,a.off+5,none⟩ vJ bq oq lq cq vK vt vu vv):=aa ⟨q0,q1,q2,q3,q4⟩;clear js jt jd q0 q1 q2 q3 q4;obtain⟨y0,y1,y2,y3,y4⟩:=dj.out
 try simp only at y0 y1 y2 y3 y4
 go_wp2_with fail
 refine (rZ.out _ _ env p S x2 cg.out HE.out nr.out nn.out wW.out nM.out).mono ?_;rintro e x3 ⟨x,rfl,hv,hb⟩;clear c0 bM c1 bL c2 bK c3 bJ c4 bI y0 y1 y2 y3 y4;replace aj:=aG hb aj;replace aD:=aG hb aD;replace HX:=aa (HX.out.below hb);replace HZ:=aa (HZ.out.below hb);replace HE:=aa (HE.out.below hb);replace HW:=aa (HW.out.trans (hb.mono HW.out.size));replace cg:=aa (cg.out.below hb);replace dj:=aa (dj.out.below hb);replace fW:=aa (fW.out.below hb);replace gM:=aa (gM.out.below hb);rw[mc.out] at hv;have dD:=aa hv;obtain⟨qj,p8,pJ,pN,pY,pH,mh,oL,rfl⟩:=hv.shape;obtain⟨oN,je⟩:∃ d,d=gX (.B X):=⟨_,rfl⟩
 rw[<-je] at hv ⊢;replace dD:=aa hv;have Sz:Hid (oN=X):=aa je;clear je;clear hv;have zy:=aa (ag aj.out);have vj:=aa (ag aD.out);obtain⟨x4,ka,ea,AX,hba,hka,bk⟩:=aL x3 #[.int .i64 qj,.bool p8,.slice pJ pN pY,.bool oN,.slice pH mh oL] 41;replace aj:=aG hba.out aj;replace aD:=aG hba.out aD;replace HX:=aa (HX.out.below hba.out);replace HZ:=aa (HZ.out.below hba.out);replace HE:=aa (HE.out.below hba.out);replace HW:=aa (HW.out.trans (hba.out.mono HW.out.size));replace cg:=aa (cg.out.below hba.out);replace dj:=aa (dj.out.below hba.out);replace fW:=aa (fW.out.below hba.out);replace gM:=aa (gM.out.below hba.out);replace dD:=aa (dD.out.below hba.out);have xK:=aa (ag bk.out);have tK:=aa hba.out.size
 go_upto_region 25 with fail
 obtain⟨x5,kz,ez,vD,hbz,mG,bG⟩:=aL x4 #[.int .i64 0,.bool false,.slice none 0 0,.bool false,.slice none 0 0] 41;replace aj:=aG hbz.out aj;replace aD:=aG hbz.out aD;replace bk:=aG hbz.out bk;replace HX:=aa (HX.out.below hbz.out);replace HZ:=aa (HZ.out.below hbz.out);replace HE:=aa (HE.out.below hbz.out);replace HW:=aa (HW.out.trans (hbz.out.mono HW.out.size));replace cg:=aa (cg.out.below hbz.out);replace dj:=aa (dj.out.below hbz.out);replace fW:=aa (fW.out.below hbz.out);replace gM:=aa (gM.out.below hbz.out);replace dD:=aa (dD.out.below hbz.out);rw[ez,vD]
 have AN:Hid (w.heap.size<=kz):=aa (by have h1:=gp.out;have h2:=bP.out.size;have h3:=hba.out.size;have h4:=hka.out;have h5:=mG.out;have h6:=ag aD.out;have h7:=aR.out.size;have h8:=hb.size;omega);have c0:=ae (v:=.int .i64 20) aj.out 0 rfl;have bM:=af aj.out 0;have c1:=ae (v:=.bool b) aj.out 1 rfl;have bL:=af aj.out 1;have c2:=ae (v:=.slice ao l c) aj.out 2 rfl;have bK:=af aj.out 2;have c3:=ae (v:=.string nm) aj.out 3 rfl;have bJ:=af aj.out 3;have c4:=ae (v:=.slice (some a) 2 kc) aj.out 4 rfl;have bI:=af aj.out 4;obtain⟨y0,y1,y2,y3,y4⟩:=gM.out
 try simp only at y0 y1 y2 y3 y4
 have FQ:=aa (ag bG.out);go_wp2_with fail
 refine (rZ.out _ _ env q S x5 fW.out HE.out wY.out wX.out FM.out nM.out).mono ?_;rintro e x6 ⟨x,rfl,hv,hb⟩;clear c0 bM c1 bL c2 bK c3 bJ c4 bI y0 y1 y2 y3 y4;replace aj:=aG hb aj;replace aD:=aG hb aD;replace bk:=aG hb bk;replace bG:=aG hb bG;replace HX:=aa (HX.out.below hb);replace HZ:=aa (HZ.out.below hb);replace HE:=aa (HE.out.below hb);replace HW:=aa (HW.out.trans (hb.mono HW.out.size));replace cg:=aa (cg.out.below hb);replace dj:=aa (dj.out.below hb);replace fW:=aa (fW.out.below hb);replace gM:=aa (gM.out.below hb);replace dD:=aa (dD.out.below hb);rw[wU.out] at hv;have nk:=aa hv;obtain⟨sJ,sM,sG,sI,sL,sF,sH,sE,rfl⟩:=hv.shape;obtain⟨sn,qx⟩:∃ d,d=gX (.B Y):=⟨_,rfl⟩
 rw[<-qx] at hv ⊢;replace nk:=aa hv;have WZ:Hid (sn=Y):=aa qx;clear qx;clear hv;have g0:=ae (v:=.int .i64 0) bG.out 0 rfl;have nF:=af bG.out 0;have g1:=ae (v:=.bool false) bG.out 1 rfl;have nD:=af bG.out 1;have g2:=ae (v:=.slice none 0 0) bG.out 2 rfl;have oA:=af bG.out 2;have g3:=ae (v:=.bool false) bG.out 3 rfl;have oz:=af bG.out 3;have g4:=ae (v:=.slice none 0 0) bG.out 4 rfl;have oy:=af bG.out 4;go_upto_region 27 with fail
 clear g0 nF g1 nD g2 oA g3 oz g4 oy;have eB:=aY (w:=x6) (k:=kz) (.int .i64 sJ) (.bool sM) (.slice sG sI sL) (.bool sn) (.slice sF sH sE);have jK:=fj bG.out (.int .i64 sJ) (.bool sM) (.slice sG sI sL) (.bool sn) (.slice sF sH sE);have jM:Fr 41 x6 _:=.aN eB (fun j hj=>by injection hj with hj;subst hj;exact⟨_,bG.out,eF⟩);obtain⟨W1,lN⟩:∃ q,q=((((x6.setCell ⟨kz,0,none⟩ (.int .i64 sJ)).setCell ⟨kz,1,none⟩ (.bool sM)).setCell ⟨kz,2,none⟩ (.slice sG sI sL)).setCell ⟨kz,3,none⟩ (.bool sn)).setCell ⟨kz,4,none⟩ (.slice sF sH sE):=⟨_,rfl⟩
 rw[<-lN] at eB jK jM ⊢;clear lN;replace aj:=aa ((eB.block kf (ag aj.out) (fun e=>by injection e with e;have h1:=mG.out;have h2:=zy.out;have h3:=tK.out;omega)).trans aj.out);replace aD:=aa ((eB.block kr (ag aD.out) (fun e=>by injection e with e;have h1:=mG.out;have h2:=vj.out;have h3:=tK.out;omega)).trans aD.out);replace bk:=aa ((eB.block ka (ag bk.out) (fun e=>by injection e with e;have h1:=mG.out;have h2:=xK.out;have h3:=tK.out;omega)).trans bk.out);replace bG:=aa jK;replace HW:=aa (aS HW.out eB AN.out);clear HX;replace HZ:=aa (HZ.out.fr jM);clear HE;clear cg;clear dj;clear fW;clear gM;replace dD:=aa (dD.out.fr (by decide) jM);replace nk:=aa (nk.out.fr (by decide) jM);clear eB jK jM
 have c0:=ae (v:=.int .i64 20) aj.out 0 rfl;have bM:=af aj.out 0;have c1:=ae (v:=.bool b) aj.out 1 rfl;have bL:=af aj.out 1;have c2:=ae (v:=.slice ao l c) aj.out 2 rfl;have bK:=af aj.out 2;have c3:=ae (v:=.string nm) aj.out 3 rfl;have bJ:=af aj.out 3;have c4:=ae (v:=.slice (some a) 2 kc) aj.out 4 rfl;have bI:=af aj.out 4;have m0:=ae (v:=.int .i64 qj) bk.out 0 rfl;have jj:=af bk.out 0;have m1:=ae (v:=.bool p8) bk.out 1 rfl;have ji:=af bk.out 1;have m2:=ae (v:=.slice pJ pN pY) bk.out 2 rfl;have uZ:=af bk.out 2;have m3:=ae (v:=.bool oN) bk.out 3 rfl;have uY:=af bk.out 3;have m4:=ae (v:=.slice pH mh oL) bk.out 4 rfl;have uX:=af bk.out 4;have n0:=ae (v:=.int .i64 sJ) bG.out 0 rfl
 have fn0:=af bG.out 0;have n1:=ae (v:=.bool sM) bG.out 1 rfl;have uW:=af bG.out 1;have n2:=ae (v:=.slice sG sI sL) bG.out 2 rfl;have uV:=af bG.out 2;have n3:=ae (v:=.bool sn) bG.out 3 rfl;have uU:=af bG.out 3;have n4:=ae (v:=.slice sF sH sE) bG.out 4 rfl;have uT:=af bG.out 4;go_wp2_with fail
 refine (Bf _ _ (.B X) (.B Y) W1 dD.out nk.out).mono ?_;rintro e x7 ⟨rfl,hb⟩;clear c0 bM c1 bL c2 bK c3 bJ c4 bI m0 jj m1 ji m2 uZ m3 uY m4 uX n0 fn0 n1 uW n2 uV n3 uU n4 uT;replace aj:=aG hb aj;replace aD:=aG hb aD;replace bk:=aG hb bk;replace bG:=aG hb bG;replace HZ:=aa (HZ.out.below hb);replace HW:=aa (HW.out.trans (hb.mono HW.out.size));replace dD:=aa (dD.out.below hb);replace nk:=aa (nk.out.below hb);obtain⟨R,hR⟩:∃ R,R=decide (V.B X=V.B Y):=⟨_,rfl⟩
 rw[<-hR];replace gN:Hid (ev (a_ env) (.node 20 z nm [p,q])=.B R):=aa (by rw[gN.out,hR,<-C2]);clear hR;go_wp2_with fail
 refine (jb _ x7).mono ?_;rintro e x8 ⟨v,rfl,hv,hb⟩;replace aj:=aG hb aj;replace aD:=aG hb aD;replace bk:=aG hb bk;replace bG:=aG hb bG;replace HZ:=aa (HZ.out.below hb);replace HW:=aa (HW.out.trans (hb.mono HW.out.size));replace dD:=aa (dD.out.below hb);replace nk:=aa (nk.out.below hb);have vw:=hv.bool;subst vw;have HV:=aa hv;clear hv;obtain⟨⟨r0,r1,r2,r3,r4⟩,gT,gS,iF,iE,iD⟩:=aV aD.out;go_wp2_with fail
 obtain⟨s1,s2⟩:=gh HW.out aD.out eF gp.out (.int .i64 1) (.bool false) (.slice none 0 0) (.bool (R)) (.slice none 0 0)
 (try simp only[aE,aM])
 exact aB (v:=.agg #[.int .i64 1,.bool false,.slice none 0 0,.bool (R),.slice none 0 0]) (by simp[results,bF,go_sem,r0,r1,r2,r3,r4]) rfl ⟨_,rfl,VC.fr (show VC _ _ (ev (a_ env) _) from by rw[gN.out];exact HV.out) (by decide) s1,s2⟩
attribute [local go_sem] jn jm jl jk
theorem PW {env:List (ByteArray × V)} (h:xh 7 env):∃ z0 z1 z2 l0 l1 b0 b1,env=[(⟨#[105,48]⟩,.I z0),(⟨#[105,49]⟩,.I z1),(⟨#[105,50]⟩,.I z2),(⟨#[108,48]⟩,.L l0),(⟨#[108,49]⟩,.L l1),(⟨#[98,48]⟩,.B b0),(⟨#[98,49]⟩,.B b1)]/\∀ p ∈ env,TV p.2:=by
 obtain⟨h1,h2,h3⟩:=h;have hl:env.length=7:=by have:=congrArg List.length h1;simpa using this
 match env,hl with
 | [p0,p1,p2,p3,p4,p5,p6],_ =>
  have e1:[p0.1,p1.1,p2.1,p3.1,p4.1,p5.1,p6.1]=[s_ 0,s_ 1,s_ 2,s_ 3,s_ 4,s_ 5,s_ 6]:=h1;have e2:[fu p0.2,fu p1.2,fu p2.2,fu p3.2,fu p4.2,fu p5.2,fu p6.2]=[0,0,0,2,2,1,1]:=h2;simp only[me,and_true] at e1 e2;obtain⟨n0,n1,n2,n3,n4,n5,n6⟩:=e1;obtain⟨s0,s1,s2,s3,s4,s5,s6⟩:=e2;obtain⟨a0,x0⟩:=p0;obtain⟨a1,x1⟩:=p1;obtain⟨a2,x2⟩:=p2;obtain⟨a3,x3⟩:=p3;obtain⟨a4,x4⟩:=p4;obtain⟨a5,x5⟩:=p5;obtain⟨a6,x6⟩:=p6;simp only at n0 n1 n2 n3 n4 n5 n6 s0 s1 s2 s3 s4 s5 s6;subst n0 n1 n2 n3 n4 n5 n6;have Ol:∀ {x:V},fu x=0->∃ z,x=.I z:=fun {x} h=>by cases x with | I z=>exact⟨z,rfl⟩ | B b=>cases h | L l=>cases h
  have QX:∀ {x:V},fu x=2->∃ z,x=.L z:=fun {x} h=>by cases x with | I z=>cases h | B b=>cases h | L l=>exact⟨l,rfl⟩
  have QY:∀ {x:V},fu x=1->∃ z,x=.B z:=fun {x} h=>by cases x with | I z=>cases h | B b=>exact⟨b,rfl⟩ | L l=>cases h
  obtain⟨z0,rfl⟩:=Ol s0;obtain⟨z1,rfl⟩:=Ol s1;obtain⟨z2,rfl⟩:=Ol s2;obtain⟨l0,rfl⟩:=QX s3;obtain⟨l1,rfl⟩:=QX s4;obtain⟨b0,rfl⟩:=QY s5;obtain⟨b1,rfl⟩:=QY s6;exact⟨z0,z1,z2,l0,l1,b0,b1,rfl,h3⟩
def eD:Nat->Nat
 | 0=>4
 | d+1=>2*eD d+4
theorem PZ:∀ d,4<=eD d
 | 0=>ak _
 | d+1=>by unfold eD;omega
def Bd (d:Nat):V->Prop
 | .I z=>z.natAbs<aH ^ eD d
 | .B _=>True
 | .L l=>l.length<=6+d/\∀ z ∈ l,z.natAbs<aH ^ eD d
theorem p9:0<aH:=by decide
theorem p_ {a b:Nat} (h:a<=b):aH ^ a<=aH ^ b:=Nat.pow_le_pow_right p9 h
theorem Bd.zero (d:Nat):Bd d (.I 0):=cT p9
theorem PV {o z:Int} {ss:List Int} (h:cO o z ss=true):o=5->1<=z:=by
 rintro rfl
 simp[cO] at h
 exact h.2
theorem Cw {P:V->Prop} {nm:ByteArray}:∀ (l:List (ByteArray × V)) (a:V),P a->(∀ p ∈ l,P p.2)->P (l.foldl (fun a p=>if p.1=nm then p.2 else a) a)
 | [],a,ha,_=>ha
 | q::l,a,ha,h=>by
  rw[List.foldl_cons];refine Cw l _ ?_ (fun p hp=>h p (by simp[hp]))
  split
  ·exact h q (by simp)
  exact ha
theorem JP {env:List (ByteArray × V)} (h:∀ p ∈ env,TV p.2) (nm:ByteArray):Bd 0 (a_ env nm):=by
 refine Cw env _ (Bd.zero 0) (fun p hp=>?_);have:=h p hp
 cases hx:p.2 with
 | I z=>rw[hx] at this;exact this
 | B b=>trivial
 | L l=>rw[hx] at this;exact⟨by have:=this.1;omega,this.2⟩
theorem KC {env:List (ByteArray × V)} (h:xh 7 env):Sa (a_ env):=by
 obtain⟨z0,z1,z2,l0,l1,b0,b1,rfl,-⟩:=PW h;intro o nm ho hn;rcases ho with rfl | rfl | rfl
 ·rcases (show nm=_\/nm=_\/nm=_ from hn) with rfl | rfl | rfl<;>simp[a_,fu,jh]
 ·rcases (show nm=_\/nm=_ from hn) with rfl | rfl<;>simp[a_,fu,jh]
 rcases (show nm=_\/nm=_ from hn) with rfl | rfl<;>simp[a_,fu,jh]
theorem xP:∀ d:Nat,KM d
 | 0=>by
  intro ve v env t S w h;obtain⟨_,_,_,_,_,_,_,_,_,h0,_⟩:=h.open
  omega
 | d+1=>A7 d (xP d)
def isVar (o:Int):Bool:=o==1 || o==8 || o==14
mutual
def lM (σ:ByteArray->Option F):F->F
 | .node o z nm ks=>if isVar o then (match σ nm with | some g=>g | none=>.node o z nm (r9 σ ks)) else .node o z nm (r9 σ ks)
def r9 (σ:ByteArray->Option F):List F->List F
 | []=>[]
 | f::l=>lM σ f::r9 σ l
end
theorem oU (σ:ByteArray->Option F):∀ l:List F,r9 σ l=l.map (lM σ)
 | []=>rfl
 | f::l=>by rw[r9,List.map_cons,oU σ l]
mutual
theorem zX {σ:ByteArray->Option F} (h:∀ nm,σ nm=none):∀ t:F,lM σ t=t
 | .node o z nm ks=>by
  rw[lM,h,xW h ks]
  simp
theorem xW {σ:ByteArray->Option F} (h:∀ nm,σ nm=none):∀ l:List F,r9 σ l=l
 | []=>rfl
 | f::l=>by rw[r9,zX h f,xW h l]
end
structure AK (σ:ByteArray->Option F):Prop where
 rt:∀ nm g,σ nm=some g->rt g=true
 sort:∀ o nm g,isVar o=true->fY o nm->σ nm=some g->jh g.op=jh o
def tY (r:ByteArray->V) (σ:ByteArray->Option F) (nm:ByteArray):V:=match σ nm with | some g=>ev r g | none=>r nm
theorem vZ {o:Int} (h:isVar o=true):o=1\/o=8\/o=14:=by
 simp[isVar] at h
 omega
theorem JR {σ:ByteArray->Option F} (hs:AK σ):∀ (d:Nat) (t:F),Tm d t->jh (lM σ t).op=jh t.op
 | 0,t,h=>absurd h id
 | d+1,.node o z nm ks,h=>by
  rw[lM]
  split
  ·rename_i hv
   cases hg:σ nm with
   | none=>rfl
   | some g=>exact hs.sort o nm g hv h.1 hg
  rfl
theorem Bh {r:ByteArray->V} {σ:ByteArray->Option F} (hs:AK σ):∀ (d:Nat) (t:F),Tm d t->ev r (lM σ t)=ev (tY r σ) t
 | 0,t,h=>absurd h id
 | d+1,.node o z nm ks,h=>by
  have ih:iH r (r9 σ ks)=iH (tY r σ) ks:=by
   rw[lO,oU,List.map_map,lO]
   apply List.map_congr_left
   intro k hk;exact Bh hs d k (h.2.2.2.2 k hk)
  rw[lM]
  split
  ·rename_i hv
   cases hg:σ nm with
   | none =>
    have hp:tY r σ nm=r nm:=by unfold tY;rw[hg]
    simp only[];rw[ev,ev,ih];unfold qJ;rw[hp]
   | some g =>
    have hp:tY r σ nm=ev r g:=by unfold tY;rw[hg]
    have tn:=hs.sort o nm g hv h.1 hg;simp only[];rw[ev];rcases vZ hv with rfl | rfl | rfl
    ·show ev r g=.I (fM (tY r σ nm))
     rw[hp];exact mb tn
    ·show ev r g=.L (mB (tY r σ nm))
     rw[hp];exact my tn
    show ev r g=.B (gX (tY r σ nm))
    rw[hp];exact tD tn
  rename_i hv
  rw[ev,ev,ih];have h1:o≠1:=fun e=>hv (by rw[e];rfl)
  have h8:o≠8:=fun e=>hv (by rw[e];rfl)
  have Ku:o≠14:=fun e=>hv (by rw[e];rfl)
  unfold qJ;simp only[if_neg h1,if_neg h8,if_neg Ku]
theorem Ek {σ:ByteArray->Option F} (hs:AK σ):∀ (d:Nat) (t:F),Tm d t->rt t=true->rt (lM σ t)=true
 | 0,t,h,_=>absurd h id
 | d+1,.node o z nm ks,h,hr=>by
  obtain⟨hfit,fy⟩:=iA hr
  have h1:fP (r9 σ ks)=fP ks:=by
   unfold fP;rw[oU,List.map_map]
   apply List.map_congr_left
   intro k hk;exact JR hs d k (h.2.2.2.2 k hk)
  have h2:rts (r9 σ ks)=true:=by
   rw[pF,oU,List.all_eq_true];intro x hx;obtain⟨k,hk,rfl⟩:=List.mem_map.1 hx;exact Ek hs d k (h.2.2.2.2 k hk) (fy k hk)
  have h3:rt (.node o z nm (r9 σ ks))=true:=by rw[rt,h1,h2,hfit];rfl
  rw[lM]
  split
  ·cases hg:σ nm with
   | none=>exact h3
   | some g=>exact hs.rt nm g hg
  exact h3
theorem Ej {r:ByteArray->V} {σ:ByteArray->Option F} (hs:AK σ) (hg:∀ nm g,σ nm=some g->Sm r g):∀ (d:Nat) (t:F),Tm d t->Sm (tY r σ) t->Sm r (lM σ t)
 | 0,t,h,_=>absurd h id
 | d+1,.node o z nm ks,h,dF=>by
  have Pd:=Bh (r:=r) hs (d+1) (.node o z nm ks) h;rw[Sm] at dF
  have h3:Ir r (r9 σ ks):=by
   rw[oU]
   have:∀ l:List F,(∀ k ∈ l,Sm r (lM σ k))->Ir r (l.map (lM σ)):=by
    intro l
    induction l with
    | nil=>intro _;trivial
    | cons a l Oz=>intro hl;exact⟨hl a (by simp),Oz (fun k hk=>hl k (by simp[hk]))⟩
   exact this ks (fun k hk=>Ej hs hg d k (h.2.2.2.2 k hk) (dF.2.get k hk))
  have h4:lM σ (.node o z nm ks)=.node o z nm (r9 σ ks)->Sm r (lM σ (.node o z nm ks)):=by
   intro e;rw[e] at Pd ⊢;rw[Sm];refine⟨?_,h3⟩;rw[ev,ev] at Pd;rw[Pd];exact dF.1
  by_cases hv:isVar o=true
  ·cases Ic:σ nm with
   | none=>exact h4 (by rw[lM,if_pos hv,Ic])
   | some g =>
    have e:lM σ (.node o z nm ks)=g:=by rw[lM,if_pos hv,Ic]
    rw[e];exact hg nm g Ic
  exact h4 (by rw[lM,if_neg hv])
def BE (e n:Nat):V->Prop
 | .I z=>z.natAbs<aH ^ e
 | .B _=>True
 | .L l=>l.length<=n/\∀ z ∈ l,z.natAbs<aH ^ e
theorem BE.fM {e n:Nat} {v:V} (h:BE e n v):(Go.Proofs.YtoncclhbdkjhmaaGreatDoor.fM v).natAbs<aH ^ e:=by
 cases v with
 | I z=>exact h
 | B b=>exact cT p9
 | L l=>exact cT p9
theorem BE.mB {e n:Nat} {v:V} (h:BE e n v):(Go.Proofs.YtoncclhbdkjhmaaGreatDoor.mB v).length<=n/\∀ z ∈ Go.Proofs.YtoncclhbdkjhmaaGreatDoor.mB v,z.natAbs<aH ^ e:=by
 cases v with
 | I z=>exact⟨au _,fun z hz=>by cases hz⟩
 | B b=>exact⟨au _,fun z hz=>by cases hz⟩
 | L l=>exact h
theorem BE.up {e n e' n':Nat} {v:V} (h:BE e n v) (he:e<=e') (hn:n<=n'):BE e' n' v:=by
 have hle:aH ^ e<=aH ^ e':=p_ he
 cases v with
 | I z=>exact aK h hle
 | B b=>trivial
 | L l=>exact⟨aq h.1 hn,fun z hz=>aK (h.2 z hz) hle⟩
theorem BE.zero (e n:Nat):BE e n (.I 0):=cT p9
theorem BE.sm {e n:Nat} {v:V} (h:BE e n v) (h1:e<=600) (h2:n<=1000):rH v:=by
 cases v with
 | I z=>exact eP (k:=e) (k':=600) h h1
 | B b=>trivial
 | L l=>exact⟨aq h.1 h2,fun z hz=>eP (k:=e) (k':=600) (h.2 z hz) h1⟩
theorem CH {e n:Nat} {vs:List V} (h:∀ v ∈ vs,BE e n v) (i:Nat):BE e n (vs.getD i (.I 0)):=by
 by_cases hi:i<vs.length
 ·have e:vs.getD i (.I 0)=vs[i]:=by simp[List.getD,hi]
  rw[e];exact h _ (cI hi)
 have e:vs.getD i (.I 0)=.I 0:=by simp[List.getD,List.getElem?_eq_none (Nat.le_of_not_lt hi)]
 rw[e];exact BE.zero _ _
theorem DZ {a:Nat} (h:4<=a):2*aH ^ a<=aH ^ (2*a):=by
 have h1:aH ^ (a+1)<=aH ^ (2*a):=p_ (by omega);rw[Nat.pow_succ] at h1;have h2:2<=aH:=by decide
 have h3:=Nat.mul_le_mul_left (aH ^ a) h2;rw[Nat.mul_comm] at h3
 omega
theorem JT {r:ByteArray->V} {e n:Nat} (he:4<=e) (hn:n<=900) {o z:Int} {nm:ByteArray} {vs:List V} (hv:∀ v ∈ vs,BE e n v) (hz:z.natAbs<aH ^ 4) (h5:o=5->1<=z) (hr:∀ nm,BE e n (r nm)):BE (2*e) (n+1) (qJ r o z nm vs):=by
 have a0:=(CH hv 0).fM;have a1:=(CH hv 1).fM;have l0:=(CH hv 0).mB;have l1:=(CH hv 1).mB;have hle:aH ^ e<=aH ^ (2*e):=p_ (by omega);have h2:=DZ he;rcases zY o with h | h
 ·rcases h with rfl | rfl | rfl | rfl | rfl | rfl | rfl | rfl | rfl | rfl | rfl | rfl | rfl | rfl | rfl | rfl | rfl | rfl | rfl | rfl | rfl
  ·show z.natAbs<_
   exact aK hz (p_ (by omega))
  ·exact aK (hr nm).fM hle
  ·show (fM (sN vs)+fM (AZ vs)).natAbs<aH ^ (2*e)
   have:(fM (sN vs)+fM (AZ vs)).natAbs<=(fM (sN vs)).natAbs+(fM (AZ vs)).natAbs:=Int.natAbs_add_le _ _;unfold sN AZ at *
   omega
  ·show (z*fM (sN vs)).natAbs<aH ^ (2*e)
   rw[Int.natAbs_mul];have h3:=Nat.mul_lt_mul'' hz a0;rw[<-Nat.pow_add] at h3;exact aK h3 (p_ (by omega))
  ·show (fM (sN vs)*fM (AZ vs)).natAbs<aH ^ (2*e)
   rw[Int.natAbs_mul];have h3:=Nat.mul_lt_mul'' a0 a1;rw[<-Nat.pow_add] at h3;exact aK h3 (p_ (by omega))
  ·show (Int.fdiv (fM (sN vs)) z).natAbs<aH ^ (2*e)
   have jK:=h5 rfl;rw[Int.fdiv_eq_ediv_of_nonneg _ (by omega)];exact aK (Nat.lt_of_le_of_lt (Int.natAbs_ediv_le_natAbs _ _) a0) hle
  ·show (((mB (sN vs)).length:Nat):Int).natAbs<aH ^ (2*e)
   rw[Int.natAbs_natCast];have h3:aH ^ 1<=aH ^ (2*e):=p_ (by omega);have h4:aH ^ 1=4294967296:=by decide
   have h6:(mB (sN vs)).length<=n:=l0.1
   omega
  ·show ((mB (sN vs)).headD 0).natAbs<aH ^ (2*e)
   have h6:∀ z ∈ mB (sN vs),z.natAbs<aH ^ e:=l0.2
   cases hl:mB (sN vs) with
   | nil=>exact cT p9
   | cons y l=>rw[hl] at h6;exact aK (h6 y (by simp)) hle
  ·show (mB (r nm)).length<=n+1/\_
   have h6:=(hr nm).mB;exact⟨by have:=h6.1;omega,fun z hz=>aK (h6.2 z hz) hle⟩
  ·exact⟨au _,fun z hz=>by cases hz⟩
  ·show (fM (sN vs)::mB (AZ vs)).length<=n+1/\_
   have h6:(mB (AZ vs)).length<=n:=l1.1;have h7:∀ z ∈ mB (AZ vs),z.natAbs<aH ^ e:=l1.2;refine⟨by rw[ru];omega,fun z hz=>?_⟩;rcases List.mem_cons.1 hz with rfl | hz
   ·exact aK a0 hle
   exact aK (h7 z hz) hle
  ·show (mB (sN vs)).tail.length<=n+1/\_
   have h6:(mB (sN vs)).length<=n:=l0.1;have h7:∀ z ∈ mB (sN vs),z.natAbs<aH ^ e:=l0.2;exact⟨by rw[List.length_tail];omega,fun z hz=>aK (h7 z (List.mem_of_mem_tail hz)) hle⟩
  all_goals trivial
 unfold qJ;rw[if_neg (by omega),if_neg (by omega),if_neg (by omega),if_neg (by omega),if_neg (by omega),if_neg (by omega),if_neg (by omega),if_neg (by omega),if_neg (by omega),if_neg (by omega),if_neg (by omega),if_neg (by omega),if_neg (by omega),if_neg (by omega),if_neg (by omega),if_neg (by omega),if_neg (by omega),if_neg (by omega),if_neg (by omega),if_neg (by omega),if_neg (by omega)];exact BE.zero _ _
theorem Ep {r:ByteArray->V} {e n:Nat} (he:4<=e) (hn:1<=n) {o z:Int} {nm:ByteArray} (hz:z.natAbs<aH ^ 4) (hr:BE e n (r nm)):BE e n (qJ r o z nm []):=by
 have hle:aH ^ 4<=aH ^ e:=p_ he;have hp:0<aH ^ e:=cT p9;rcases zY o with h | h
 ·rcases h with rfl | rfl | rfl | rfl | rfl | rfl | rfl | rfl | rfl | rfl | rfl | rfl | rfl | rfl | rfl | rfl | rfl | rfl | rfl | rfl | rfl
  ·exact aK hz hle
  ·exact hr.fM
  ·exact hp
  ·show (z*0).natAbs<_
   rw[Int.mul_zero];exact hp
  ·exact hp
  ·show (Int.fdiv 0 z).natAbs<_
   rw[Int.zero_fdiv];exact hp
  ·exact hp
  ·exact hp
  ·exact hr.mB
  ·exact⟨au _,fun z hz=>by cases hz⟩
  ·exact⟨hn,fun z hz=>by rcases List.mem_cons.1 hz with rfl | h;exact hp;cases h⟩
  ·exact⟨au _,fun z hz=>by cases hz⟩
  all_goals trivial
 unfold qJ;rw[if_neg (by omega),if_neg (by omega),if_neg (by omega),if_neg (by omega),if_neg (by omega),if_neg (by omega),if_neg (by omega),if_neg (by omega),if_neg (by omega),if_neg (by omega),if_neg (by omega),if_neg (by omega),if_neg (by omega),if_neg (by omega),if_neg (by omega),if_neg (by omega),if_neg (by omega),if_neg (by omega),if_neg (by omega),if_neg (by omega),if_neg (by omega)];exact BE.zero _ _
theorem B8 {r:ByteArray->V} {e n:Nat} (he:4<=e) (hn:1<=n) (hr:∀ nm,BE e n (r nm)):∀ (d:Nat),e*2 ^ d<=600->n+d<=900->∀ t:F,Tm (d+1) t->rt t=true->BE (e*2 ^ d) (n+d) (ev r t)/\Sm r t
 | 0,hd,hnd,.node o z nm ks,h,rS=>by
  have hks:ks=[]:=by
   cases ks with
   | nil=>rfl
   | cons a l=>exact absurd (h.2.2.2.2 a (by simp[F.kids])) id
  subst hks;rw[Nat.pow_zero,Nat.mul_one] at hd ⊢;have hb:=Ep (o:=o) (nm:=nm) he hn h.2.1 (hr nm);refine⟨by rw[ev];exact hb,?_⟩;rw[Sm];exact⟨hb.sm hd (by omega),trivial⟩
 | d+1,hd,hnd,.node o z nm ks,h,rS=>by
  obtain⟨hfit,fy⟩:=iA rS;have hk:=h.2.2.2.2;have hp:e*2 ^ (d+1)=2*(e*2 ^ d):=by rw[Nat.pow_succ,<-Nat.mul_assoc,Nat.mul_comm]
  have h1:e<=e*2 ^ d:=Nat.le_mul_of_pos_right e (cT (by decide));have ih:=fun k hk'=>B8 he hn hr d (by omega) (by omega) k (hk k hk') (fy k hk')
  have hz:z.natAbs<aH ^ 4:=h.2.1
  have hb:BE (2*(e*2 ^ d)) (n+d+1) (qJ r o z nm (iH r ks)):=by
   refine JT (by omega) (by omega) (fun v hv=>?_) hz (PV hfit) (fun nm=>(hr nm).up h1 (by omega));rw[lO] at hv;obtain⟨k,hk',rfl⟩:=List.mem_map.1 hv;exact (ih k hk').1
  rw[hp] at hd ⊢;refine⟨by rw[ev];exact hb,?_⟩;rw[Sm];refine⟨hb.sm hd (by omega),?_⟩
  have:∀ l:List F,(∀ k ∈ l,Sm r k)->Ir r l:=by
   intro l
   induction l with
   | nil=>intro _;trivial
   | cons a l Oz=>intro h;exact⟨h a (by simp),Oz (fun k hk=>h k (by simp[hk]))⟩
  exact this ks (fun k hk'=>(ih k hk').2)
end Go.Proofs.YtoncclhbdkjhmaaGreatDoor
namespace Go.Proofs
open Go.Shelf
def Tryz.yO:Go.Shelf.Ren:=⟨fun | 109=>59 | n=>n,fun | 31=>34 | 9=>9 | 3=>3 | 0=>0 | 4=>4 | n=>n,fun | n=>n⟩
theorem Tryz.Ad:Go.Proofs.Lays.n109 ax Tryz.yO:={
 mixed:=by kernel_rfl
 f109:=Tryz.func59.trans (congrArg some (by kernel_rfl))
 t0:=Tryz.underlying0
 a0:=Tryz.isAgg0
 z0:=Tryz.sizeOf0
 v0:=Tryz.zeroValue0
 t3:=Tryz.underlying3
 a3:=Tryz.isAgg3
 z3:=Tryz.sizeOf3
 v3:=Tryz.zeroValue3
 t4:=Tryz.underlying4
 a4:=Tryz.isAgg4
 z4:=Tryz.sizeOf4
 v4:=Tryz.zeroValue4
 t9:=Tryz.underlying9
 a9:=Tryz.isAgg9
 z9:=Tryz.sizeOf9
 v9:=Tryz.zeroValue9
 t31:=Tryz.underlying34
 a31:=Tryz.isAgg34
 z31:=Tryz.sizeOf34
 v31:=Tryz.zeroValue34 }
open Go.Lib in
theorem Tryz.qH (b off n c:Nat) (zs:List ByteArray) (x:ByteArray) (w:an) (hz:n<=zs.length) (hbig:n<=9223372036854775807) (hc:∀ j,j<zs.length->w.cell? ⟨b,off+j,none⟩=some (.string (zs.getD j ByteArray.empty))) :
  Calls ax 59 #[.slice (some ⟨b,off,none⟩) n c,.string x] w fun e w'=>e=.returned (.int .i64 (Lib.idxOfS (zs.take n) x))/\w'=w:=Any.slices_Index_string Tryz.Ad b off n c zs x w hz hbig hc
open Go.Lib in
theorem Tryz.mL (a:Option Addr) (c:Nat) (x:ByteArray) (w:an) :
  Calls ax 59 #[.slice a 0 c,.string x] w fun e w'=>e=.returned (.int .i64 (Lib.idxOfS [] x))/\w'=w:=Any.slices_Index_string_empty Tryz.Ad a c x w
end Go.Proofs
