/-
 Joined texts: LgZm,LgU,LgZn,LgBj,ShelfD,LgBk,LgBl,FaN.
-/
import Derived.Shelf.Strings.Builder1
import Derived.Shelf.Small.Utf8
import Derived.Shelf.Small.Bits
import Derived.Shelf.Small.Wraps
import Derived.Shelf.Strings.BuilderF
import Derived.Shelf.Strings.BuilderK
import Derived.Shelf.Utf8.AppendRune
import Derived.Shelf.Utf8.AppendRunePlain
import Derived.Shelf.Strconv.Bsearch
import Derived.Shelf.Strconv.IsPrint
import Derived.Shelf.Strconv.IsPrint16
import Derived.Shelf.Strconv.IsPrint32
import Derived.Shelf.Strconv.Escaped
import Derived.Shelf.Strconv.Quoted
import Derived.Shelf.Strconv.Quote
import Derived.Shelf.Strconv.Itoa0
import Derived.Shelf.Strconv.Itoa1
import Derived.Shelf.LaysM
import Derived.Shelf.Strconv.Itoa2
import Derived.Shelf.Strconv.Itoa3
import Derived.Shelf.Unicode.Decode
import Derived.Shelf.Unicode.DecodeSlow
import Derived.Shelf.Unicode.DecodeAny
import Derived.Shelf.Strings.BuilderCap
import Derived.Shelf.Slices.Turned
import Derived.Ground.Names2Prog
import Derived.Shelf.Slices.SearchI
import Derived.Test.YtoncclhbdkjhmaaGreatDoorProg
import Derived.Test.YtoncclhbdkjhmaaGreatDoorJFactsHold4
import Derived.Test.YtoncclhbdkjhmaaGreatDoorJFactsHold5
import Derived.Test.YtoncclhbdkjhmaaGreatDoorJFactsHold6
set_option maxHeartbeats 32000000
open Go renaming lt_of_block→ae,World→ag,bodyPost_ret→aD
open Go.Exit renaming inBlock→aK,«then»→aT
open Go.Lib renaming hid→aa
open Go.Proofs.Tryz renaming results16→bN,ntmps16→cU,func16→dA
open Go.RowKit.Below renaming refl→ax
open Go.Value.bool renaming injEq→vv
open Go.Value.int renaming injEq→xS
open Go.Value.slice renaming injEq→tP
open Int renaming fdiv→vw
open List renaming not_mem_nil→aU,mem_singleton→aZ,mem_cons→bz,take_length→bK,getElem_mem→ct
open List.cons renaming injEq→rB
open Nat renaming le_trans→ah,le_refl→ai,zero_le→au,lt_of_lt_of_le→az,pow_pos→dj
namespace Go.Proofs.YtoncclhbdkjhmaaGreatDoor
open Go.RowKit
set_option maxRecDepth 100000
set_option linter.unusedVariables false
set_option linter.unusedSimpArgs false
attribute [local go_sem] eF eE eC eB
def NSr (r:ByteArray->V):Prop:=∀ (o:Int) (nm:ByteArray),o=1\/o=8\/o=14->gW o nm->fQ (r nm)=eI o
def QY (d:Nat):Prop:=∀ (ve v:Value) (env:List (ByteArray × V)) (t:F) (S:Nat->Prop) (w:ag),FC w S d v t->EL w ve env->rt t=true->Sm (cR env) t->Tm d t->NSr (cR env) ->
 Calls Tryz.prog 16 #[v,ve] w fun e w'=>∃ x,e=.returned x/\VC w' x (ev (cR env) t)/\Below w.heap.size w w'
theorem CI.sm {w:ag} {v:Value} {z:Int} {k:Nat} (h:CI w v z k) (hz:rO (.I z)):CI w v z 600:=CI.tight h hz
theorem NL.Sb {w:ag} {ko:Option Addr} {n kc:Nat} {zs:List Int} (h:NL w (.slice ko n kc) zs) (hn:1<=n):NL w (sliced ko 1 n kc 2) zs.tail:=by
 have:=h.tail
 rwa [Nat.min_eq_left hn] at this
theorem VC.B7 {w:ag} {k:Int} {b d:Bool} {o p:Option Addr} {l c m q:Nat} {z:Int} (h:VC w (.agg #[.int .i64 k,.bool b,.slice o l c,.bool d,.slice p m q]) (.I z)):CI w (.agg #[.bool b,.slice o l c]) z 600:=by
 obtain⟨o',l',c',e,h⟩:=h.int;simp only[Value.agg.injEq,Array.mk.injEq,rB,xS,vv,tP,true_and,and_true] at e;obtain⟨-,rfl,⟨rfl,rfl,rfl⟩,-⟩:=e;exact h
theorem VC.M3 {w:ag} {k:Int} {b d:Bool} {o p:Option Addr} {l c m q:Nat} {z:List Int} (h:VC w (.agg #[.int .i64 k,.bool b,.slice o l c,.bool d,.slice p m q]) (.L z)):NL w (.slice p m q) z:=by
 obtain⟨o',l',c',e,h⟩:=h.list;simp only[Value.agg.injEq,Array.mk.injEq,rB,xS,vv,tP,true_and,and_true] at e;obtain⟨-,-,-,-,rfl,rfl,rfl⟩:=e;exact h
theorem GV (a b:Bool):decide (V.B a=V.B b)=(a==b):=by cases a<;>cases b<;>decide
theorem QK (X Y:Int):decide (eX (X - Y)<=0)=decide (X<=Y):=by
 unfold eX;congr 1;apply propext;(repeat' split)<;>constructor<;>intro h<;>first | omega | (exfalso;omega)
theorem CI.un {w:ag} {b:Bool} {o:Option Addr} {l c:Nat} {z:Int} (h:CI w (.agg #[.bool b,.slice o l c]) z 600):∃ u:NU,nC u=[.bool b,.slice o l c]/\u.z=z/\NR w u:=by
 obtain⟨u,e,h1,h2⟩:=Gh h (ai _);refine⟨u,?_,h1,h2⟩;have e2:=congrArg (fun v:Value=>match v with | .agg a=>a.toList | _=>[]) e;exact e2.symm
theorem JL {w:ag} {B g:Nat} {u:NU} {b:Bool} {o:Option Addr} {l c:Nat} (hB:w.heap[g]?=some (.cells #[.bool b,.slice o l c] 26 (0,0))) (hu:nC u=[.bool b,.slice o l c]) (hR:NR w u) (hg:B<=g):nE.Row w B (.slice (some ⟨g,0,none⟩) 1 1) [u] where
 own:=⟨by simp[nE,nC],.inr ⟨g,1,_,rfl,hg,hB,ai _,by decide,rfl,by
  show ([Value.bool b,Value.slice o l c]).take (1*2)=[u].flatMap nC
  rw[List.flatMap_cons,hu];rfl⟩⟩
 n32 q hq:=by injection hq with hq;subst hq;exact⟨_,hB,qb⟩
 rd a ha:=by rw[aZ] at ha;subst ha;exact hR
theorem Iv (g:F->V) (ks:List F):(ks.map g).all gU=decide (((ks.countP (fun f=>gU (g f)):Nat):Int)=((ks.length:Nat):Int)):=by
 have h:=List.countP_eq_length (p:=fun f=>gU (g f)) (l:=ks);rw[List.all_map];by_cases hx:ks.all (gU ∘ g)=true
 ·rw[hx];exact (decide_eq_true (by rw[h.2 (fun a ha=>List.all_eq_true.1 hx a ha)])).symm
 have r7:ks.all (gU ∘ g)=false:=by simpa using hx
 rw[r7];refine (decide_eq_false (fun e=>hx (List.all_eq_true.2 (fun a ha=>h.1 (by omega) a ha)))).symm
theorem Iu (g:F->V) (ks:List F):(ks.map g).any gU=decide ((0:Int)<((ks.countP (fun f=>gU (g f)):Nat):Int)):=by
 have h:=List.countP_pos_iff (p:=fun f=>gU (g f)) (l:=ks);rw[List.any_map];by_cases hx:ks.any (gU ∘ g)=true
 ·rw[hx];obtain⟨a,ha,hb⟩:=List.any_eq_true.1 hx;exact (decide_eq_true (by have:=h.2 ⟨a,ha,hb⟩;omega)).symm
 have r7:ks.any (gU ∘ g)=false:=by simpa using hx
 rw[r7];refine (decide_eq_false (fun e=>hx ?_)).symm;obtain⟨a,ha,hb⟩:=h.1 (by omega);exact List.any_eq_true.2 ⟨a,ha,hb⟩
theorem qS (p:F->Bool) (ks:List F) (j:Nat) (hj:j<ks.length):(ks.take (j+1)).countP p=(ks.take j).countP p+(if p ks[j]=true then 1 else 0):=by
 rw[List.take_succ_eq_append_getElem hj,List.countP_append,List.countP_singleton]
theorem DX (d:Nat) (IV:QY d):QY (d+1):=by
 intro ve v env t S w h he hr iD BP S0;obtain⟨b,ao,l,c,ko,kl,kc,rfl,⟨-,hz,iy,hkc,hkm⟩,-,hk⟩:=h.open;have mT:=BP.1;have zj:=BP.2.2.2.2;obtain⟨o,z,nm,ks⟩:=t;simp only[F.op,F.num,F.name,F.kids] at hz hk iy mT zj ⊢;rw[show d+1 - 1=d from rfl] at hk;obtain⟨hfit,jT⟩:=iX hr;have Aq:=jJ hfit;obtain⟨eo,en,ec,rfl⟩:=he.shape;have As:kc<=9223372036854775807:=hkm;have hval:=iD.val;have KQ:kl<=9223372036854775807:=ah hkc hkm;have xQ:=aa S0;have qq:=aa zj;have Bj:=aa IV;clear h hr hkm BP S0 zj IV;have ho:o=0\/o=1\/o=2\/o=3\/o=4\/o=5\/o=6\/o=7\/o=8\/o=9\/o=10\/o=11\/o=12\/o=13\/o=14\/o=15\/o=16\/o=17\/o=18\/o=19\/o=20:=by omega
 clear Aq;rcases ho with rfl | rfl | rfl | rfl | rfl | rfl | rfl | rfl | rfl | rfl | rfl | rfl | rfl | rfl | rfl | rfl | rfl | rfl | rfl | rfl | rfl
 ·have HZ:=aa hz;have HW:=aa (ax w.heap.size w);clear iy hkc hk hz he;have jk:Hid (ev (cR env) (.node 0 z nm ks)=.I z):=aa rfl;clear iD jT hval hfit mT;go_enter dA,cU;obtain⟨x1,kf,ef,jK,bL,jc,aE⟩:=aM w #[.int .i64 0,.bool b,.slice ao l c,.string nm,.slice ko kl kc] 29;replace HZ:=aa (HZ.out.below bL.out);replace HW:=aa (HW.out.trans (bL.out.mono HW.out.size));obtain⟨x2,kr,er,pE,cN,iH,aJ⟩:=aM x1 #[.int .i64 0,.bool false,.slice none 0 0,.bool false,.slice none 0 0] 41;replace aE:=aS cN.out aE;replace HZ:=aa (HZ.out.below cN.out);replace HW:=aa (HW.out.trans (cN.out.mono HW.out.size));have iS:Hid (w.heap.size<=kr):=aa (ah bL.out.size iH.out)
  obtain⟨⟨c0,c1,c2,c3,c4⟩,cA,cG,cF,cE,cC⟩:=ak aE.out;go_wp2_with fail;refine (nt _ (z) 600 x2 HZ.out.gi (by decide)).mono ?_;rintro e x3 ⟨v,rfl,hv,hb⟩;clear c0 cA c1 cG c2 cF c3 cE c4 cC;replace aJ:=aS hb aJ;replace HW:=aa (HW.out.trans (hb.mono HW.out.size));obtain⟨ov,lv,cv,rfl,-⟩:=hv.int;have HV:=aa hv;clear hv;obtain⟨⟨r0,r1,r2,r3,r4⟩,jx,jw,jP,jO,jN⟩:=ak aJ.out;go_wp2_with fail;obtain⟨s1,s2⟩:=gG HW.out aJ.out fb iS.out (.int .i64 0) (.bool (decide ((z)<0))) (.slice ov lv cv) (.bool false) (.slice none 0 0);(try simp only[aK,aT])
  exact aD (v:=.agg #[.int .i64 0,.bool (decide ((z)<0)),.slice ov lv cv,.bool false,.slice none 0 0]) (by simp[results,bN,go_sem,r0,r1,r2,r3,r4]) rfl ⟨_,rfl,VC.fr (show VC _ _ (ev (cR env) _) from by rw[jk.out];exact HV.out) (by decide) s1,s2⟩
 ·have HE:=aa he;have HW:=aa (ax w.heap.size w);clear iy hkc hk hz he;have zm:=xQ.out 1 nm (by simp) mT;have jk:Hid (ev (cR env) (.node 1 z nm ks)=cR env nm):=aa (by
   show V.I (iq (cR env nm))=cR env nm
   cases hx:cR env nm with
   | I z=>first | rfl | (rw[hx] at zm;cases zm)
   | B b=>first | rfl | (rw[hx] at zm;cases zm)
   | L l=>first | rfl | (rw[hx] at zm;cases zm))
  clear zm iD jT hval hfit mT;go_enter dA,cU;obtain⟨x1,kf,ef,jK,bL,jc,aE⟩:=aM w #[.int .i64 1,.bool b,.slice ao l c,.string nm,.slice ko kl kc] 29;replace HE:=aa (HE.out.below bL.out);replace HW:=aa (HW.out.trans (bL.out.mono HW.out.size));obtain⟨x2,kr,er,pE,cN,iH,aJ⟩:=aM x1 #[.int .i64 0,.bool false,.slice none 0 0,.bool false,.slice none 0 0] 41;replace aE:=aS cN.out aE;replace HE:=aa (HE.out.below cN.out);replace HW:=aa (HW.out.trans (cN.out.mono HW.out.size));have iS:Hid (w.heap.size<=kr):=aa (ah bL.out.size iH.out);obtain⟨⟨c0,c1,c2,c3,c4⟩,cA,cG,cF,cE,cC⟩:=ak aE.out;go_wp2_with fail;refine (EB _ env nm x2 HE.out).mono ?_;rintro e x3 ⟨v,rfl,hv,hb⟩;clear c0 cA c1 cG c2 cF c3 cE c4 cC
  replace aJ:=aS hb aJ;replace HW:=aa (HW.out.trans (hb.mono HW.out.size));obtain⟨kv,bv,ov,lv,cv,pv,mv,qv,rfl⟩:=hv.shape;have HV:=aa hv;clear hv;obtain⟨⟨r0,r1,r2,r3,r4⟩,jx,jw,jP,jO,jN⟩:=ak aJ.out;go_wp2_with fail;obtain⟨s1,s2⟩:=gG HW.out aJ.out fb iS.out (.int .i64 kv) (.bool bv) (.slice ov lv cv) (.bool (gU (cR env nm))) (.slice pv mv qv);(try simp only[aK,aT]);exact aD (v:=.agg #[.int .i64 kv,.bool bv,.slice ov lv cv,.bool (gU (cR env nm)),.slice pv mv qv]) (by simp[results,bN,go_sem,r0,r1,r2,r3,r4]) rfl ⟨_,rfl,VC.fr (show VC _ _ (ev (cR env) _) from by rw[jk.out];exact HV.out) (by decide) s1,s2⟩
 ·have HX:=aa hk;have HE:=aa he;have HW:=aa (ax w.heap.size w);have gJ:=aa iy;clear iy hkc hk hz he;obtain⟨p,q,rfl,hp,hq⟩:=nX (ks:=ks) (s:=0) (r:=0) (by simpa [dP,bF] using hfit);have wF:=aa (iD.pC p (by simp));have wG:=aa (jT p (by simp));have zS:=aa (qq.out p (by simp));have IF:=aa (iD.pC q (by simp));have IG:=aa (jT q (by simp));have LB:=aa (qq.out q (by simp));obtain⟨X,hX⟩:∃ x,ev (cR env) p=.I x:=⟨_,mo hp⟩;have mV:=aa hX;obtain⟨Y,hY⟩:∃ x,ev (cR env) q=.I x:=⟨_,mo hq⟩;have zQ:=aa hY;have jk:Hid (ev (cR env) (.node 2 z nm [p,q])=.I (X+Y)):=aa (by rw[ev,oW,oW,oW,hX,hY];rfl);have tM:Hid (rO (.I (X+Y))):=aa (by have h3:=hval;rw[jk.out] at h3;exact h3)
  have wE:Hid (rO (ev (cR env) p)):=aa (iD.pC p (by simp)).val;have LA:Hid (rO (ev (cR env) q)):=aa (iD.pC q (by simp)).val;have mj:kl=2:=gJ.out;subst mj;clear iD jT hval hfit mT gJ qq hX hY hp hq;go_enter dA,cU;obtain⟨x1,kf,ef,jK,bL,jc,aE⟩:=aM w #[.int .i64 2,.bool b,.slice ao l c,.string nm,.slice ko 2 kc] 29;replace HX:=aa (HX.out.below bL.out);replace HE:=aa (HE.out.below bL.out);replace HW:=aa (HW.out.trans (bL.out.mono HW.out.size));obtain⟨x2,kr,er,pE,cN,iH,aJ⟩:=aM x1 #[.int .i64 0,.bool false,.slice none 0 0,.bool false,.slice none 0 0] 41;replace aE:=aS cN.out aE;replace HX:=aa (HX.out.below cN.out);replace HE:=aa (HE.out.below cN.out);replace HW:=aa (HW.out.trans (cN.out.mono HW.out.size))
  have iS:Hid (w.heap.size<=kr):=aa (ah bL.out.size iH.out);obtain⟨⟨c0,c1,c2,c3,c4⟩,cA,cG,cF,cE,cC⟩:=ak aE.out;obtain⟨a,bp,op,lp,cp,xd,xe,xg,mh,⟨p0,p1,p2,p3,p4⟩,jV⟩:=HX.out.first;subst mh;obtain⟨wO,iE⟩:∃ x,x=p.op:=⟨_,rfl⟩;obtain⟨wY,iF⟩:∃ x,x=p.name:=⟨_,rfl⟩;rw[<-iE] at p0 jV;rw[<-iF] at p3 jV;have rJ:=aa jV;have t_:Hid (zZ x2 a wO bp op lp cp wY xd xe xg):=aa ⟨p0,p1,p2,p3,p4⟩;clear iE iF jV p0 p1 p2 p3 p4;obtain⟨a2,bq,oq,lq,cq,Hj,Hl,Ho,vW,⟨q0,q1,q2,q3,q4⟩,rj⟩:=HX.out.second;injection vW with Au;subst Au;obtain⟨G_,qh⟩:∃ x,x=q.op:=⟨_,rfl⟩;obtain⟨Hf,qj⟩:∃ x,x=q.name:=⟨_,rfl⟩;rw[<-qh] at q0 rj;rw[<-qj] at q3 rj;have mw:=aa rj
  have jd:Hid (zZ x2 ⟨a.block,a.off+5,none⟩ G_ bq oq lq cq Hf Hj Hl Ho):=aa ⟨q0,q1,q2,q3,q4⟩;clear qh qj rj q0 q1 q2 q3 q4;obtain⟨y0,y1,y2,y3,y4⟩:=t_.out;try simp only at y0 y1 y2 y3 y4
  go_wp2_with fail;refine (Bj.out _ _ env p S x2 rJ.out HE.out wG.out wF.out zS.out xQ.out).mono ?_;rintro e x3 ⟨x,rfl,hv,hb⟩;clear c0 cA c1 cG c2 cF c3 cE c4 cC y0 y1 y2 y3 y4;replace aE:=aS hb aE;replace aJ:=aS hb aJ;replace HE:=aa (HE.out.below hb);replace HW:=aa (HW.out.trans (hb.mono HW.out.size));replace mw:=aa (mw.out.below hb);replace jd:=aa (jd.out.below hb);rw[mV.out] at hv;obtain⟨xM,xE,wX,wZ,xC,wN,rE,uQ,rfl⟩:=hv.shape;obtain⟨vg,iV⟩:∃ d,d=gU (.I X):=⟨_,rfl⟩;rw[<-iV] at hv ⊢;have mQ:=aa hv.B7;clear iV;clear hv;have Gq:=aa (ae aE.out);have Bi:=aa (ae aJ.out);obtain⟨x4,ka,ea,Lh,hba,hka,gm⟩:=aM x3 #[.int .i64 xM,.bool xE,.slice wX wZ xC,.bool vg,.slice wN rE uQ] 41
  replace aE:=aS hba.out aE;replace aJ:=aS hba.out aJ;replace HE:=aa (HE.out.below hba.out);replace HW:=aa (HW.out.trans (hba.out.mono HW.out.size));replace mw:=aa (mw.out.below hba.out);replace jd:=aa (jd.out.below hba.out);replace mQ:=aa (mQ.out.below hba.out);have Fh:=aa (ae gm.out);have zU:=aa hba.out.size;go_upto_region 25 with fail;obtain⟨x5,kz,ez,xO,hbz,pK,jW⟩:=aM x4 #[.int .i64 0,.bool false,.slice none 0 0,.bool false,.slice none 0 0] 41;replace aE:=aS hbz.out aE;replace aJ:=aS hbz.out aJ;replace gm:=aS hbz.out gm;replace HE:=aa (HE.out.below hbz.out);replace HW:=aa (HW.out.trans (hbz.out.mono HW.out.size));replace mw:=aa (mw.out.below hbz.out);replace jd:=aa (jd.out.below hbz.out)
  replace mQ:=aa (mQ.out.below hbz.out);rw[ez,xO];have Dz:Hid (w.heap.size<=kz):=aa (by have h1:=iS.out;have h2:=cN.out.size;have h3:=hba.out.size;have h4:=hka.out;have h5:=pK.out;have h6:=ae aJ.out;have h7:=bL.out.size;have h8:=hb.size;omega);obtain⟨⟨c0,c1,c2,c3,c4⟩,cA,cG,cF,cE,cC⟩:=ak aE.out;obtain⟨y0,y1,y2,y3,y4⟩:=jd.out;try simp only at y0 y1 y2 y3 y4
  go_wp2_with fail;refine (Bj.out _ _ env q S x5 mw.out HE.out IG.out IF.out LB.out xQ.out).mono ?_;rintro e x6 ⟨x,rfl,hv,hb⟩;clear c0 cA c1 cG c2 cF c3 cE c4 cC y0 y1 y2 y3 y4;replace aE:=aS hb aE;replace aJ:=aS hb aJ;replace gm:=aS hb gm;replace jW:=aS hb jW;replace HW:=aa (HW.out.trans (hb.mono HW.out.size));replace mQ:=aa (mQ.out.below hb);rw[zQ.out] at hv;obtain⟨zf,zM,yT,y8,zI,yR,yZ,yP,rfl⟩:=hv.shape;obtain⟨ye,rH⟩:∃ d,d=gU (.I Y):=⟨_,rfl⟩;rw[<-rH] at hv ⊢;have LJ:=aa hv.B7;clear rH;clear hv;obtain⟨⟨g0,g1,g2,g3,g4⟩,ni,nh,oH,oG,oF⟩:=ak jW.out;go_upto_region 27 with fail;clear g0 ni g1 nh g2 oH g3 oG g4 oF
  have fg:=bR (w:=x6) (k:=kz) (.int .i64 zf) (.bool zM) (.slice yT y8 zI) (.bool ye) (.slice yR yZ yP);have gV:=gZ jW.out (.int .i64 zf) (.bool zM) (.slice yT y8 zI) (.bool ye) (.slice yR yZ yP);have lZ:Fr 41 x6 _:=.aL fg (fun j hj=>by injection hj with hj;subst hj;exact⟨_,jW.out,fb⟩);obtain⟨W1,nN⟩:∃ q,q=((((x6.setCell ⟨kz,0,none⟩ (.int .i64 zf)).setCell ⟨kz,1,none⟩ (.bool zM)).setCell ⟨kz,2,none⟩ (.slice yT y8 zI)).setCell ⟨kz,3,none⟩ (.bool ye)).setCell ⟨kz,4,none⟩ (.slice yR yZ yP):=⟨_,rfl⟩;rw[<-nN] at fg gV lZ ⊢;clear nN;replace aE:=aa ((fg.block kf (ae aE.out) (fun e=>by injection e with e;have h1:=pK.out;have h2:=Gq.out;have h3:=zU.out;omega)).trans aE.out)
  replace aJ:=aa ((fg.block kr (ae aJ.out) (fun e=>by injection e with e;have h1:=pK.out;have h2:=Bi.out;have h3:=zU.out;omega)).trans aJ.out);replace gm:=aa ((fg.block ka (ae gm.out) (fun e=>by injection e with e;have h1:=pK.out;have h2:=Fh.out;have h3:=zU.out;omega)).trans gm.out);replace jW:=aa gV;replace HW:=aa (bA HW.out fg Dz.out);clear HX;clear HE;clear rJ;clear t_;clear mw;clear jd;replace mQ:=aa (mQ.out.fr lZ);replace LJ:=aa (LJ.out.fr lZ);clear fg gV lZ;obtain⟨⟨c0,c1,c2,c3,c4⟩,cA,cG,cF,cE,cC⟩:=ak aE.out;obtain⟨⟨m0,m1,m2,m3,m4⟩,i_,iZ,xy,xx,xw⟩:=ak gm.out;obtain⟨⟨n0,n1,n2,n3,n4⟩,fn0,xu,xq,xp,xn⟩:=ak jW.out;go_wp2_with fail
  refine (yB _ _ X Y 600 600 W1 mQ.out.gi LJ.out.gi (by decide) (by decide)).mono ?_;rintro e x7 ⟨y,rfl,hy,hb⟩;clear c0 cA c1 cG c2 cF c3 cE c4 cC m0 i_ m1 iZ m2 xy m3 xx m4 xw n0 fn0 n1 xu n2 xq n3 xp n4 xn;replace aJ:=aS hb aJ;replace HW:=aa (HW.out.trans (hb.mono HW.out.size));have Ci:=aa (CI.sm hy tM.out);obtain⟨b9,o9,l9,c9,rfl⟩:=hy.shape;clear hy;go_wp2_with fail;refine (nt _ (X+Y) 600 x7 Ci.out.gi (by decide)).mono ?_;rintro e x8 ⟨v,rfl,hv,hb⟩;replace aJ:=aS hb aJ;replace HW:=aa (HW.out.trans (hb.mono HW.out.size));obtain⟨ov,lv,cv,rfl,-⟩:=hv.int;have HV:=aa hv;clear hv;obtain⟨⟨r0,r1,r2,r3,r4⟩,jx,jw,jP,jO,jN⟩:=ak aJ.out;go_wp2_with fail
  obtain⟨s1,s2⟩:=gG HW.out aJ.out fb iS.out (.int .i64 0) (.bool (decide ((X+Y)<0))) (.slice ov lv cv) (.bool false) (.slice none 0 0);(try simp only[aK,aT]);exact aD (v:=.agg #[.int .i64 0,.bool (decide ((X+Y)<0)),.slice ov lv cv,.bool false,.slice none 0 0]) (by simp[results,bN,go_sem,r0,r1,r2,r3,r4]) rfl ⟨_,rfl,VC.fr (show VC _ _ (ev (cR env) _) from by rw[jk.out];exact HV.out) (by decide) s1,s2⟩
 ·have HX:=aa hk;have HZ:=aa hz;have HE:=aa he;have HW:=aa (ax w.heap.size w);have gJ:=aa iy;clear iy hkc hk hz he;obtain⟨p,rfl,hp⟩:=nY (ks:=ks) (s:=0) (by simpa [dP,bF] using hfit);have wF:=aa (iD.pC p (by simp));have wG:=aa (jT p (by simp));have zS:=aa (qq.out p (by simp));obtain⟨X,hX⟩:∃ x,ev (cR env) p=.I x:=⟨_,mo hp⟩;have mV:=aa hX;have jk:Hid (ev (cR env) (.node 3 z nm [p])=.I (z*X)):=aa (by rw[ev,oW,oW,hX];rfl);have tM:Hid (rO (.I (z*X))):=aa (by have h3:=hval;rw[jk.out] at h3;exact h3);have wE:Hid (rO (ev (cR env) p)):=aa (iD.pC p (by simp)).val;have mj:kl=1:=gJ.out;subst mj;clear iD jT hval hfit mT gJ qq hX hp;go_enter dA,cU
  obtain⟨x1,kf,ef,jK,bL,jc,aE⟩:=aM w #[.int .i64 3,.bool b,.slice ao l c,.string nm,.slice ko 1 kc] 29;replace HX:=aa (HX.out.below bL.out);replace HZ:=aa (HZ.out.below bL.out);replace HE:=aa (HE.out.below bL.out);replace HW:=aa (HW.out.trans (bL.out.mono HW.out.size));obtain⟨x2,kr,er,pE,cN,iH,aJ⟩:=aM x1 #[.int .i64 0,.bool false,.slice none 0 0,.bool false,.slice none 0 0] 41;replace aE:=aS cN.out aE;replace HX:=aa (HX.out.below cN.out);replace HZ:=aa (HZ.out.below cN.out);replace HE:=aa (HE.out.below cN.out);replace HW:=aa (HW.out.trans (cN.out.mono HW.out.size));have iS:Hid (w.heap.size<=kr):=aa (ah bL.out.size iH.out);obtain⟨⟨c0,c1,c2,c3,c4⟩,cA,cG,cF,cE,cC⟩:=ak aE.out
  obtain⟨a,bp,op,lp,cp,xd,xe,xg,mh,⟨p0,p1,p2,p3,p4⟩,jV⟩:=HX.out.first;subst mh;obtain⟨wO,iE⟩:∃ x,x=p.op:=⟨_,rfl⟩;obtain⟨wY,iF⟩:∃ x,x=p.name:=⟨_,rfl⟩;rw[<-iE] at p0 jV;rw[<-iF] at p3 jV;have rJ:=aa jV;have t_:Hid (zZ x2 a wO bp op lp cp wY xd xe xg):=aa ⟨p0,p1,p2,p3,p4⟩;clear iE iF jV p0 p1 p2 p3 p4;obtain⟨y0,y1,y2,y3,y4⟩:=t_.out;try simp only at y0 y1 y2 y3 y4
  go_wp2_with fail;refine (Bj.out _ _ env p S x2 rJ.out HE.out wG.out wF.out zS.out xQ.out).mono ?_;rintro e x3 ⟨x,rfl,hv,hb⟩;clear c0 cA c1 cG c2 cF c3 cE c4 cC y0 y1 y2 y3 y4;replace aE:=aS hb aE;replace aJ:=aS hb aJ;replace HZ:=aa (HZ.out.below hb);replace HW:=aa (HW.out.trans (hb.mono HW.out.size));rw[mV.out] at hv;obtain⟨xM,xE,wX,wZ,xC,wN,rE,uQ,rfl⟩:=hv.shape;obtain⟨vg,iV⟩:∃ d,d=gU (.I X):=⟨_,rfl⟩;rw[<-iV] at hv ⊢;have mQ:=aa hv.B7;clear iV;clear hv;obtain⟨x4,ka,ea,Lh,hba,hka,gm⟩:=aM x3 #[.int .i64 xM,.bool xE,.slice wX wZ xC,.bool vg,.slice wN rE uQ] 41;replace aE:=aS hba.out aE;replace aJ:=aS hba.out aJ;replace HZ:=aa (HZ.out.below hba.out);replace HW:=aa (HW.out.trans (hba.out.mono HW.out.size))
  replace mQ:=aa (mQ.out.below hba.out);go_upto_region 25 with fail;obtain⟨x5,kz,ez,xO,hbz,pK,jW⟩:=aM x4 #[.int .i64 0,.bool false,.slice none 0 0,.bool false,.slice none 0 0] 41;replace aE:=aS hbz.out aE;replace aJ:=aS hbz.out aJ;replace gm:=aS hbz.out gm;replace HZ:=aa (HZ.out.below hbz.out);replace HW:=aa (HW.out.trans (hbz.out.mono HW.out.size));replace mQ:=aa (mQ.out.below hbz.out);rw[ez,xO];have Dz:Hid (w.heap.size<=kz):=aa (by have h1:=iS.out;have h2:=cN.out.size;have h3:=hba.out.size;have h4:=hka.out;have h5:=pK.out;have h6:=ae aJ.out;have h7:=bL.out.size;have h8:=hb.size;omega);obtain⟨⟨c0,c1,c2,c3,c4⟩,cA,cG,cF,cE,cC⟩:=ak aE.out;obtain⟨⟨m0,m1,m2,m3,m4⟩,i_,iZ,xy,xx,xw⟩:=ak gm.out
  obtain⟨⟨n0,n1,n2,n3,n4⟩,fn0,xu,xq,xp,xn⟩:=ak jW.out;go_wp2_with fail;refine (Cu _ _ z X 600 600 x5 HZ.out.gi mQ.out.gi (by decide) (by decide)).mono ?_;rintro e x6 ⟨y,rfl,hy,hb⟩;clear c0 cA c1 cG c2 cF c3 cE c4 cC m0 i_ m1 iZ m2 xy m3 xx m4 xw n0 fn0 n1 xu n2 xq n3 xp n4 xn;replace aJ:=aS hb aJ;replace HW:=aa (HW.out.trans (hb.mono HW.out.size));have Ci:=aa (CI.sm hy tM.out);obtain⟨b9,o9,l9,c9,rfl⟩:=hy.shape;clear hy;go_wp2_with fail;refine (nt _ (z*X) 600 x6 Ci.out.gi (by decide)).mono ?_;rintro e x7 ⟨v,rfl,hv,hb⟩;replace aJ:=aS hb aJ;replace HW:=aa (HW.out.trans (hb.mono HW.out.size));obtain⟨ov,lv,cv,rfl,-⟩:=hv.int;have HV:=aa hv;clear hv;obtain⟨⟨r0,r1,r2,r3,r4⟩,jx,jw,jP,jO,jN⟩:=ak aJ.out
  go_wp2_with fail;obtain⟨s1,s2⟩:=gG HW.out aJ.out fb iS.out (.int .i64 0) (.bool (decide ((z*X)<0))) (.slice ov lv cv) (.bool false) (.slice none 0 0);(try simp only[aK,aT]);exact aD (v:=.agg #[.int .i64 0,.bool (decide ((z*X)<0)),.slice ov lv cv,.bool false,.slice none 0 0]) (by simp[results,bN,go_sem,r0,r1,r2,r3,r4]) rfl ⟨_,rfl,VC.fr (show VC _ _ (ev (cR env) _) from by rw[jk.out];exact HV.out) (by decide) s1,s2⟩
 ·have HX:=aa hk;have HE:=aa he;have HW:=aa (ax w.heap.size w);have gJ:=aa iy;clear iy hkc hk hz he;obtain⟨p,q,rfl,hp,hq⟩:=nX (ks:=ks) (s:=0) (r:=0) (by simpa [dP,bF] using hfit);have wF:=aa (iD.pC p (by simp));have wG:=aa (jT p (by simp));have zS:=aa (qq.out p (by simp));have IF:=aa (iD.pC q (by simp));have IG:=aa (jT q (by simp));have LB:=aa (qq.out q (by simp));obtain⟨X,hX⟩:∃ x,ev (cR env) p=.I x:=⟨_,mo hp⟩;have mV:=aa hX;obtain⟨Y,hY⟩:∃ x,ev (cR env) q=.I x:=⟨_,mo hq⟩;have zQ:=aa hY;have jk:Hid (ev (cR env) (.node 4 z nm [p,q])=.I (X*Y)):=aa (by rw[ev,oW,oW,oW,hX,hY];rfl);have tM:Hid (rO (.I (X*Y))):=aa (by have h3:=hval;rw[jk.out] at h3;exact h3)
  have wE:Hid (rO (ev (cR env) p)):=aa (iD.pC p (by simp)).val;have LA:Hid (rO (ev (cR env) q)):=aa (iD.pC q (by simp)).val;have mj:kl=2:=gJ.out;subst mj;clear iD jT hval hfit mT gJ qq hX hY hp hq;go_enter dA,cU;obtain⟨x1,kf,ef,jK,bL,jc,aE⟩:=aM w #[.int .i64 4,.bool b,.slice ao l c,.string nm,.slice ko 2 kc] 29;replace HX:=aa (HX.out.below bL.out);replace HE:=aa (HE.out.below bL.out);replace HW:=aa (HW.out.trans (bL.out.mono HW.out.size));obtain⟨x2,kr,er,pE,cN,iH,aJ⟩:=aM x1 #[.int .i64 0,.bool false,.slice none 0 0,.bool false,.slice none 0 0] 41;replace aE:=aS cN.out aE;replace HX:=aa (HX.out.below cN.out);replace HE:=aa (HE.out.below cN.out);replace HW:=aa (HW.out.trans (cN.out.mono HW.out.size))
  have iS:Hid (w.heap.size<=kr):=aa (ah bL.out.size iH.out);obtain⟨⟨c0,c1,c2,c3,c4⟩,cA,cG,cF,cE,cC⟩:=ak aE.out;obtain⟨a,bp,op,lp,cp,xd,xe,xg,mh,⟨p0,p1,p2,p3,p4⟩,jV⟩:=HX.out.first;subst mh;obtain⟨wO,iE⟩:∃ x,x=p.op:=⟨_,rfl⟩;obtain⟨wY,iF⟩:∃ x,x=p.name:=⟨_,rfl⟩;rw[<-iE] at p0 jV;rw[<-iF] at p3 jV;have rJ:=aa jV;have t_:Hid (zZ x2 a wO bp op lp cp wY xd xe xg):=aa ⟨p0,p1,p2,p3,p4⟩;clear iE iF jV p0 p1 p2 p3 p4;obtain⟨a2,bq,oq,lq,cq,Hj,Hl,Ho,vW,⟨q0,q1,q2,q3,q4⟩,rj⟩:=HX.out.second;injection vW with Au;subst Au;obtain⟨G_,qh⟩:∃ x,x=q.op:=⟨_,rfl⟩;obtain⟨Hf,qj⟩:∃ x,x=q.name:=⟨_,rfl⟩;rw[<-qh] at q0 rj;rw[<-qj] at q3 rj;have mw:=aa rj
  have jd:Hid (zZ x2 ⟨a.block,a.off+5,none⟩ G_ bq oq lq cq Hf Hj Hl Ho):=aa ⟨q0,q1,q2,q3,q4⟩;clear qh qj rj q0 q1 q2 q3 q4;obtain⟨y0,y1,y2,y3,y4⟩:=t_.out;try simp only at y0 y1 y2 y3 y4
  go_wp2_with fail;refine (Bj.out _ _ env p S x2 rJ.out HE.out wG.out wF.out zS.out xQ.out).mono ?_;rintro e x3 ⟨x,rfl,hv,hb⟩;clear c0 cA c1 cG c2 cF c3 cE c4 cC y0 y1 y2 y3 y4;replace aE:=aS hb aE;replace aJ:=aS hb aJ;replace HE:=aa (HE.out.below hb);replace HW:=aa (HW.out.trans (hb.mono HW.out.size));replace mw:=aa (mw.out.below hb);replace jd:=aa (jd.out.below hb);rw[mV.out] at hv;obtain⟨xM,xE,wX,wZ,xC,wN,rE,uQ,rfl⟩:=hv.shape;obtain⟨vg,iV⟩:∃ d,d=gU (.I X):=⟨_,rfl⟩;rw[<-iV] at hv ⊢;have mQ:=aa hv.B7;clear iV;clear hv;have Gq:=aa (ae aE.out);have Bi:=aa (ae aJ.out);obtain⟨x4,ka,ea,Lh,hba,hka,gm⟩:=aM x3 #[.int .i64 xM,.bool xE,.slice wX wZ xC,.bool vg,.slice wN rE uQ] 41
  replace aE:=aS hba.out aE;replace aJ:=aS hba.out aJ;replace HE:=aa (HE.out.below hba.out);replace HW:=aa (HW.out.trans (hba.out.mono HW.out.size));replace mw:=aa (mw.out.below hba.out);replace jd:=aa (jd.out.below hba.out);replace mQ:=aa (mQ.out.below hba.out);have Fh:=aa (ae gm.out);have zU:=aa hba.out.size;go_upto_region 25 with fail;obtain⟨x5,kz,ez,xO,hbz,pK,jW⟩:=aM x4 #[.int .i64 0,.bool false,.slice none 0 0,.bool false,.slice none 0 0] 41;replace aE:=aS hbz.out aE;replace aJ:=aS hbz.out aJ;replace gm:=aS hbz.out gm;replace HE:=aa (HE.out.below hbz.out);replace HW:=aa (HW.out.trans (hbz.out.mono HW.out.size));replace mw:=aa (mw.out.below hbz.out);replace jd:=aa (jd.out.below hbz.out)
  replace mQ:=aa (mQ.out.below hbz.out);rw[ez,xO];have Dz:Hid (w.heap.size<=kz):=aa (by have h1:=iS.out;have h2:=cN.out.size;have h3:=hba.out.size;have h4:=hka.out;have h5:=pK.out;have h6:=ae aJ.out;have h7:=bL.out.size;have h8:=hb.size;omega);obtain⟨⟨c0,c1,c2,c3,c4⟩,cA,cG,cF,cE,cC⟩:=ak aE.out;obtain⟨y0,y1,y2,y3,y4⟩:=jd.out;try simp only at y0 y1 y2 y3 y4
  go_wp2_with fail;refine (Bj.out _ _ env q S x5 mw.out HE.out IG.out IF.out LB.out xQ.out).mono ?_;rintro e x6 ⟨x,rfl,hv,hb⟩;clear c0 cA c1 cG c2 cF c3 cE c4 cC y0 y1 y2 y3 y4;replace aE:=aS hb aE;replace aJ:=aS hb aJ;replace gm:=aS hb gm;replace jW:=aS hb jW;replace HW:=aa (HW.out.trans (hb.mono HW.out.size));replace mQ:=aa (mQ.out.below hb);rw[zQ.out] at hv;obtain⟨zf,zM,yT,y8,zI,yR,yZ,yP,rfl⟩:=hv.shape;obtain⟨ye,rH⟩:∃ d,d=gU (.I Y):=⟨_,rfl⟩;rw[<-rH] at hv ⊢;have LJ:=aa hv.B7;clear rH;clear hv;obtain⟨⟨g0,g1,g2,g3,g4⟩,ni,nh,oH,oG,oF⟩:=ak jW.out;go_upto_region 27 with fail;clear g0 ni g1 nh g2 oH g3 oG g4 oF
  have fg:=bR (w:=x6) (k:=kz) (.int .i64 zf) (.bool zM) (.slice yT y8 zI) (.bool ye) (.slice yR yZ yP);have gV:=gZ jW.out (.int .i64 zf) (.bool zM) (.slice yT y8 zI) (.bool ye) (.slice yR yZ yP);have lZ:Fr 41 x6 _:=.aL fg (fun j hj=>by injection hj with hj;subst hj;exact⟨_,jW.out,fb⟩);obtain⟨W1,nN⟩:∃ q,q=((((x6.setCell ⟨kz,0,none⟩ (.int .i64 zf)).setCell ⟨kz,1,none⟩ (.bool zM)).setCell ⟨kz,2,none⟩ (.slice yT y8 zI)).setCell ⟨kz,3,none⟩ (.bool ye)).setCell ⟨kz,4,none⟩ (.slice yR yZ yP):=⟨_,rfl⟩;rw[<-nN] at fg gV lZ ⊢;clear nN;replace aE:=aa ((fg.block kf (ae aE.out) (fun e=>by injection e with e;have h1:=pK.out;have h2:=Gq.out;have h3:=zU.out;omega)).trans aE.out)
  replace aJ:=aa ((fg.block kr (ae aJ.out) (fun e=>by injection e with e;have h1:=pK.out;have h2:=Bi.out;have h3:=zU.out;omega)).trans aJ.out);replace gm:=aa ((fg.block ka (ae gm.out) (fun e=>by injection e with e;have h1:=pK.out;have h2:=Fh.out;have h3:=zU.out;omega)).trans gm.out);replace jW:=aa gV;replace HW:=aa (bA HW.out fg Dz.out);clear HX;clear HE;clear rJ;clear t_;clear mw;clear jd;replace mQ:=aa (mQ.out.fr lZ);replace LJ:=aa (LJ.out.fr lZ);clear fg gV lZ;obtain⟨⟨c0,c1,c2,c3,c4⟩,cA,cG,cF,cE,cC⟩:=ak aE.out;obtain⟨⟨m0,m1,m2,m3,m4⟩,i_,iZ,xy,xx,xw⟩:=ak gm.out;obtain⟨⟨n0,n1,n2,n3,n4⟩,fn0,xu,xq,xp,xn⟩:=ak jW.out;go_wp2_with fail
  refine (Cu _ _ X Y 600 600 W1 mQ.out.gi LJ.out.gi (by decide) (by decide)).mono ?_;rintro e x7 ⟨y,rfl,hy,hb⟩;clear c0 cA c1 cG c2 cF c3 cE c4 cC m0 i_ m1 iZ m2 xy m3 xx m4 xw n0 fn0 n1 xu n2 xq n3 xp n4 xn;replace aJ:=aS hb aJ;replace HW:=aa (HW.out.trans (hb.mono HW.out.size));have Ci:=aa (CI.sm hy tM.out);obtain⟨b9,o9,l9,c9,rfl⟩:=hy.shape;clear hy;go_wp2_with fail;refine (nt _ (X*Y) 600 x7 Ci.out.gi (by decide)).mono ?_;rintro e x8 ⟨v,rfl,hv,hb⟩;replace aJ:=aS hb aJ;replace HW:=aa (HW.out.trans (hb.mono HW.out.size));obtain⟨ov,lv,cv,rfl,-⟩:=hv.int;have HV:=aa hv;clear hv;obtain⟨⟨r0,r1,r2,r3,r4⟩,jx,jw,jP,jO,jN⟩:=ak aJ.out;go_wp2_with fail
  obtain⟨s1,s2⟩:=gG HW.out aJ.out fb iS.out (.int .i64 0) (.bool (decide ((X*Y)<0))) (.slice ov lv cv) (.bool false) (.slice none 0 0);(try simp only[aK,aT]);exact aD (v:=.agg #[.int .i64 0,.bool (decide ((X*Y)<0)),.slice ov lv cv,.bool false,.slice none 0 0]) (by simp[results,bN,go_sem,r0,r1,r2,r3,r4]) rfl ⟨_,rfl,VC.fr (show VC _ _ (ev (cR env) _) from by rw[jk.out];exact HV.out) (by decide) s1,s2⟩
 ·have HX:=aa hk;have HZ:=aa hz;have HE:=aa he;have HW:=aa (ax w.heap.size w);have gJ:=aa iy;clear iy hkc hk hz he;obtain⟨p,rfl,hp⟩:=nY (ks:=ks) (s:=0) (by simp[dP,bF] at hfit;exact hfit.1);have wF:=aa (iD.pC p (by simp));have wG:=aa (jT p (by simp));have zS:=aa (qq.out p (by simp));obtain⟨X,hX⟩:∃ x,ev (cR env) p=.I x:=⟨_,mo hp⟩;have mV:=aa hX;have jk:Hid (ev (cR env) (.node 5 z nm [p])=.I (vw X z)):=aa (by rw[ev,oW,oW,hX];rfl);have tM:Hid (rO (.I (vw X z))):=aa (by have h3:=hval;rw[jk.out] at h3;exact h3);have wE:Hid (rO (ev (cR env) p)):=aa (iD.pC p (by simp)).val;have HZ1:Hid (1<=z):=aa (by simp[dP,bF] at hfit;exact hfit.2);have mj:kl=1:=gJ.out;subst mj
  clear iD jT hval hfit mT gJ qq hX hp;go_enter dA,cU;obtain⟨x1,kf,ef,jK,bL,jc,aE⟩:=aM w #[.int .i64 5,.bool b,.slice ao l c,.string nm,.slice ko 1 kc] 29;replace HX:=aa (HX.out.below bL.out);replace HZ:=aa (HZ.out.below bL.out);replace HE:=aa (HE.out.below bL.out);replace HW:=aa (HW.out.trans (bL.out.mono HW.out.size));obtain⟨x2,kr,er,pE,cN,iH,aJ⟩:=aM x1 #[.int .i64 0,.bool false,.slice none 0 0,.bool false,.slice none 0 0] 41;replace aE:=aS cN.out aE;replace HX:=aa (HX.out.below cN.out);replace HZ:=aa (HZ.out.below cN.out);replace HE:=aa (HE.out.below cN.out);replace HW:=aa (HW.out.trans (cN.out.mono HW.out.size));have iS:Hid (w.heap.size<=kr):=aa (ah bL.out.size iH.out)
  obtain⟨⟨c0,c1,c2,c3,c4⟩,cA,cG,cF,cE,cC⟩:=ak aE.out;obtain⟨a,bp,op,lp,cp,xd,xe,xg,mh,⟨p0,p1,p2,p3,p4⟩,jV⟩:=HX.out.first;subst mh;obtain⟨wO,iE⟩:∃ x,x=p.op:=⟨_,rfl⟩;obtain⟨wY,iF⟩:∃ x,x=p.name:=⟨_,rfl⟩;rw[<-iE] at p0 jV;rw[<-iF] at p3 jV;have rJ:=aa jV;have t_:Hid (zZ x2 a wO bp op lp cp wY xd xe xg):=aa ⟨p0,p1,p2,p3,p4⟩;clear iE iF jV p0 p1 p2 p3 p4;obtain⟨y0,y1,y2,y3,y4⟩:=t_.out;try simp only at y0 y1 y2 y3 y4
  go_wp2_with fail;refine (Bj.out _ _ env p S x2 rJ.out HE.out wG.out wF.out zS.out xQ.out).mono ?_;rintro e x3 ⟨x,rfl,hv,hb⟩;clear c0 cA c1 cG c2 cF c3 cE c4 cC y0 y1 y2 y3 y4;replace aE:=aS hb aE;replace aJ:=aS hb aJ;replace HZ:=aa (HZ.out.below hb);replace HW:=aa (HW.out.trans (hb.mono HW.out.size));rw[mV.out] at hv;have uD:=aa hv;obtain⟨xM,xE,wX,wZ,xC,wN,rE,uQ,rfl⟩:=hv.shape;obtain⟨vg,iV⟩:∃ d,d=gU (.I X):=⟨_,rfl⟩;rw[<-iV] at hv ⊢;have mQ:=aa hv.B7;clear iV;clear hv;obtain⟨x4,ka,ea,Lh,hba,hka,gm⟩:=aM x3 #[.int .i64 xM,.bool xE,.slice wX wZ xC,.bool vg,.slice wN rE uQ] 41;replace aE:=aS hba.out aE;replace aJ:=aS hba.out aJ;replace HZ:=aa (HZ.out.below hba.out)
  replace HW:=aa (HW.out.trans (hba.out.mono HW.out.size));replace mQ:=aa (mQ.out.below hba.out);go_upto_region 25 with fail;obtain⟨x5,kz,ez,xO,hbz,pK,jW⟩:=aM x4 #[.int .i64 0,.bool false,.slice none 0 0,.bool false,.slice none 0 0] 41;replace aE:=aS hbz.out aE;replace aJ:=aS hbz.out aJ;replace gm:=aS hbz.out gm;replace HZ:=aa (HZ.out.below hbz.out);replace HW:=aa (HW.out.trans (hbz.out.mono HW.out.size));replace mQ:=aa (mQ.out.below hbz.out);rw[ez,xO];have Dz:Hid (w.heap.size<=kz):=aa (by have h1:=iS.out;have h2:=cN.out.size;have h3:=hba.out.size;have h4:=hka.out;have h5:=pK.out;have h6:=ae aJ.out;have h7:=bL.out.size;have h8:=hb.size;omega);obtain⟨⟨c0,c1,c2,c3,c4⟩,cA,cG,cF,cE,cC⟩:=ak aE.out
  obtain⟨⟨m0,m1,m2,m3,m4⟩,i_,iZ,xy,xx,xw⟩:=ak gm.out;obtain⟨⟨n0,n1,n2,n3,n4⟩,fn0,xu,xq,xp,xn⟩:=ak jW.out;go_wp2_with fail;refine (Jb _ _ X z 600 600 x5 mQ.out.gi HZ.out.gi (by decide) (by decide) (by have:=HZ1.out;omega)).mono ?_;rintro e x6 ⟨y,r,rfl,hy,hr,hb⟩;clear c0 cA c1 cG c2 cF c3 cE c4 cC m0 i_ m1 iZ m2 xy m3 xx m4 xw n0 fn0 n1 xu n2 xq n3 xp n4 xn;replace aJ:=aS hb aJ;replace HW:=aa (HW.out.trans (hb.mono HW.out.size));have Ci:=aa (CI.sm hy tM.out);obtain⟨b9,o9,l9,c9,rfl⟩:=hy.shape;obtain⟨b8,o8,l8,c8,rfl⟩:=hr.shape;clear hy hr;have Vy:=ae aJ.out;obtain⟨x7,ku,eu,XW,RF,ZF,Mj⟩:=aM x6 #[.bool false,.slice none 0 0] 26;replace aJ:=aS RF.out aJ
  replace HW:=aa (HW.out.trans (RF.out.mono HW.out.size));replace Ci:=aa (Ci.out.below RF.out);rw[XW] at Vy;have huv:=ae Mj.out;have HKu:Hid (w.heap.size<=ku):=aa (ah iS.out (Nat.le_of_lt Vy));obtain⟨x8,kt,et,Lg,dm,ng,yh⟩:=aM x7 #[.bool false,.slice none 0 0] 26;replace aJ:=aS dm.out aJ;replace Mj:=aS dm.out Mj;replace HW:=aa (HW.out.trans (dm.out.mono HW.out.size));replace Ci:=aa (Ci.out.below dm.out);rw[Lg] at huv;have HKt:Hid (w.heap.size<=kt):=aa (ah HKu.out (Nat.le_of_lt huv));have HRU:=aa Vy;have Yc:=aa huv;clear Vy huv;obtain⟨u0,u1,fu0,fu1⟩:=cO Mj.out;obtain⟨v0,v1,K0,NQ⟩:=cO yh.out;have n1:ku≠kt:=by have:=Yc.out;omega
  have n2:kt≠ku:=by have:=Yc.out;omega
  go_upto_region 36 with fail;clear u0 u1 fu0 fu1 v0 v1 K0 NQ;obtain⟨s1,s2⟩:=AM HW.out Mj.out qb HKu.out (.bool b9) (.slice o9 l9 c9);have Vx:=heap_setCell_same _ ku 1 _ _ (.slice o9 l9 c9) (heap_setCell_same x8 ku 0 _ _ (.bool b9) Mj.out);obtain⟨W1,nN⟩:∃ q,q=(x8.setCell ⟨ku,0,none⟩ (.bool b9)).setCell ⟨ku,1,none⟩ (.slice o9 l9 c9):=⟨_,rfl⟩;have fg:x8.grownBy W1 (some ku):=by rw[nN];exact mA _ _
  rw[<-nN] at s1 s2 Vx ⊢;have U':=(fg.block kt (ae yh.out) (fun e=>by injection e with e;exact n2 e)).trans yh.out;have Rq:=(fg.block kr (ae aJ.out) (fun e=>by injection e with e;have:=HRU.out;omega)).trans aJ.out;obtain⟨s3,s4⟩:=AM s2 U' qb HKt.out (.bool b8) (.slice o8 l8 c8);obtain⟨W2,kg⟩:∃ q,q=(W1.setCell ⟨kt,0,none⟩ (.bool b8)).setCell ⟨kt,1,none⟩ (.slice o8 l8 c8):=⟨_,rfl⟩;have fK:W1.grownBy W2 (some kt):=by rw[kg];exact mA _ _
  rw[<-kg] at s3 s4 ⊢;have Zm:=(fK.block ku (ae Vx) (fun e=>by injection e with e;exact n1 e)).trans Vx;have uB:=(fK.block kr (ae Rq) (fun e=>by injection e with e;have h1:=HRU.out;have h2:=Yc.out;omega)).trans Rq;replace Ci:=aa ((Ci.out.fr s1).fr s3);replace HW:=aa s4;replace aJ:=aa uB;replace Mj:Hid (W2.heap[ku]?=some (.cells #[.bool b9,.slice o9 l9 c9] 26 (0,0))):=aa Zm;clear uB Zm fK kg s3 s4 Rq U' fg nN s1 s2 Vx n1 n2;clear HX;clear HZ;clear HE;clear rJ;clear t_;clear uD;clear mQ;clear aE;clear gm;clear jW;clear yh;obtain⟨d0,d1,tK,A_⟩:=cO Mj.out;go_wp2_with fail;refine (nt _ (vw X z) 600 W2 Ci.out.gi (by decide)).mono ?_;rintro e x9 ⟨v,rfl,hv,hb⟩;clear d0 tK d1 A_;replace aJ:=aS hb aJ
  replace HW:=aa (HW.out.trans (hb.mono HW.out.size));obtain⟨ov,lv,cv,rfl,-⟩:=hv.int;have HV:=aa hv;clear hv;obtain⟨⟨r0,r1,r2,r3,r4⟩,jx,jw,jP,jO,jN⟩:=ak aJ.out;go_wp2_with fail;obtain⟨s1,s2⟩:=gG HW.out aJ.out fb iS.out (.int .i64 0) (.bool (decide ((vw X z)<0))) (.slice ov lv cv) (.bool false) (.slice none 0 0);(try simp only[aK,aT]);exact aD (v:=.agg #[.int .i64 0,.bool (decide ((vw X z)<0)),.slice ov lv cv,.bool false,.slice none 0 0]) (by simp[results,bN,go_sem,r0,r1,r2,r3,r4]) rfl ⟨_,rfl,VC.fr (show VC _ _ (ev (cR env) _) from by rw[jk.out];exact HV.out) (by decide) s1,s2⟩
 ·have HX:=aa hk;have HE:=aa he;have HW:=aa (ax w.heap.size w);have gJ:=aa iy;clear iy hkc hk hz he;obtain⟨p,rfl,hp⟩:=nY (ks:=ks) (s:=2) (by simpa [dP,bF] using hfit);have wF:=aa (iD.pC p (by simp));have wG:=aa (jT p (by simp));have zS:=aa (qq.out p (by simp));obtain⟨X,hX⟩:∃ x,ev (cR env) p=.L x:=⟨_,mC hp⟩;have mV:=aa hX;have jk:Hid (ev (cR env) (.node 6 z nm [p])=.I ((X.length:Nat):Int)):=aa (by rw[ev,oW,oW,hX];rfl);have tM:Hid (rO (.I ((X.length:Nat):Int))):=aa (by have h3:=hval;rw[jk.out] at h3;exact h3);have wE:Hid (rO (ev (cR env) p)):=aa (iD.pC p (by simp)).val;have mj:kl=1:=gJ.out;subst mj;clear iD jT hval hfit mT gJ qq hX hp;go_enter dA,cU
  obtain⟨x1,kf,ef,jK,bL,jc,aE⟩:=aM w #[.int .i64 6,.bool b,.slice ao l c,.string nm,.slice ko 1 kc] 29;replace HX:=aa (HX.out.below bL.out);replace HE:=aa (HE.out.below bL.out);replace HW:=aa (HW.out.trans (bL.out.mono HW.out.size));obtain⟨x2,kr,er,pE,cN,iH,aJ⟩:=aM x1 #[.int .i64 0,.bool false,.slice none 0 0,.bool false,.slice none 0 0] 41;replace aE:=aS cN.out aE;replace HX:=aa (HX.out.below cN.out);replace HE:=aa (HE.out.below cN.out);replace HW:=aa (HW.out.trans (cN.out.mono HW.out.size));have iS:Hid (w.heap.size<=kr):=aa (ah bL.out.size iH.out);obtain⟨⟨c0,c1,c2,c3,c4⟩,cA,cG,cF,cE,cC⟩:=ak aE.out;obtain⟨a,bp,op,lp,cp,xd,xe,xg,mh,⟨p0,p1,p2,p3,p4⟩,jV⟩:=HX.out.first;subst mh
  obtain⟨wO,iE⟩:∃ x,x=p.op:=⟨_,rfl⟩;obtain⟨wY,iF⟩:∃ x,x=p.name:=⟨_,rfl⟩;rw[<-iE] at p0 jV;rw[<-iF] at p3 jV;have rJ:=aa jV;have t_:Hid (zZ x2 a wO bp op lp cp wY xd xe xg):=aa ⟨p0,p1,p2,p3,p4⟩;clear iE iF jV p0 p1 p2 p3 p4;obtain⟨y0,y1,y2,y3,y4⟩:=t_.out;try simp only at y0 y1 y2 y3 y4
  go_wp2_with fail;refine (Bj.out _ _ env p S x2 rJ.out HE.out wG.out wF.out zS.out xQ.out).mono ?_;rintro e x3 ⟨x,rfl,hv,hb⟩;clear c0 cA c1 cG c2 cF c3 cE c4 cC y0 y1 y2 y3 y4;replace aE:=aS hb aE;replace aJ:=aS hb aJ;replace HW:=aa (HW.out.trans (hb.mono HW.out.size));rw[mV.out] at hv;obtain⟨xM,xE,wX,wZ,xC,wN,rE,uQ,rfl⟩:=hv.shape;obtain⟨vg,iV⟩:∃ d,d=gU (.L X):=⟨_,rfl⟩;rw[<-iV] at hv ⊢;have Bh:=aa hv.M3;clear iV;clear hv;obtain⟨x4,ka,ea,Lh,hba,hka,gm⟩:=aM x3 #[.int .i64 xM,.bool xE,.slice wX wZ xC,.bool vg,.slice wN rE uQ] 41;replace aE:=aS hba.out aE;replace aJ:=aS hba.out aJ;replace HW:=aa (HW.out.trans (hba.out.mono HW.out.size));replace Bh:=aa (Bh.out.below hba.out);go_upto_region 25 with fail
  obtain⟨x5,kz,ez,xO,hbz,pK,jW⟩:=aM x4 #[.int .i64 0,.bool false,.slice none 0 0,.bool false,.slice none 0 0] 41;replace aE:=aS hbz.out aE;replace aJ:=aS hbz.out aJ;replace gm:=aS hbz.out gm;replace HW:=aa (HW.out.trans (hbz.out.mono HW.out.size));replace Bh:=aa (Bh.out.below hbz.out);rw[ez,xO];have Dz:Hid (w.heap.size<=kz):=aa (by have h1:=iS.out;have h2:=cN.out.size;have h3:=hba.out.size;have h4:=hka.out;have h5:=pK.out;have h6:=ae aJ.out;have h7:=bL.out.size;have h8:=hb.size;omega);obtain⟨⟨c0,c1,c2,c3,c4⟩,cA,cG,cF,cE,cC⟩:=ak aE.out;obtain⟨⟨m0,m1,m2,m3,m4⟩,i_,iZ,xy,xx,xw⟩:=ak gm.out;obtain⟨⟨n0,n1,n2,n3,n4⟩,fn0,xu,xq,xp,xn⟩:=ak jW.out
  have Er:rE=X.length:=by obtain⟨_,_,e,_⟩:=Bh.out.form;injection e
  have Fg:Hid (X.length<=1000):=aa (by have h3:=wE.out;rw[mV.out] at h3;exact h3.1);have HLX:=aa Er;clear Er;go_wp2_with fail;refine (sR (rE:Nat) x5 (by omega) (by have h1:=Fg.out;have h2:=HLX.out;omega)).mono ?_;rintro e x6 ⟨y,rfl,hy,hb⟩;clear c0 cA c1 cG c2 cF c3 cE c4 cC m0 i_ m1 iZ m2 xy m3 xx m4 xw n0 fn0 n1 xu n2 xq n3 xp n4 xn;replace aJ:=aS hb aJ;replace HW:=aa (HW.out.trans (hb.mono HW.out.size));rw[HLX.out] at hy;have Ci:=aa (hy.mono (k':=600) (by decide));obtain⟨b9,o9,l9,c9,rfl⟩:=hy.shape;clear hy;go_wp2_with fail;refine (nt _ (((X.length:Nat):Int)) 600 x6 Ci.out.gi (by decide)).mono ?_;rintro e x7 ⟨v,rfl,hv,hb⟩;replace aJ:=aS hb aJ;replace HW:=aa (HW.out.trans (hb.mono HW.out.size));obtain⟨ov,lv,cv,rfl,-⟩:=hv.int
  have HV:=aa hv;clear hv;obtain⟨⟨r0,r1,r2,r3,r4⟩,jx,jw,jP,jO,jN⟩:=ak aJ.out;go_wp2_with fail;obtain⟨s1,s2⟩:=gG HW.out aJ.out fb iS.out (.int .i64 0) (.bool (decide ((((X.length:Nat):Int))<0))) (.slice ov lv cv) (.bool false) (.slice none 0 0);(try simp only[aK,aT]);exact aD (v:=.agg #[.int .i64 0,.bool (decide ((((X.length:Nat):Int))<0)),.slice ov lv cv,.bool false,.slice none 0 0]) (by simp[results,bN,go_sem,r0,r1,r2,r3,r4]) rfl ⟨_,rfl,VC.fr (show VC _ _ (ev (cR env) _) from by rw[jk.out];exact HV.out) (by decide) s1,s2⟩
 ·have HX:=aa hk;have HE:=aa he;have HW:=aa (ax w.heap.size w);have gJ:=aa iy;clear iy hkc hk hz he;obtain⟨p,rfl,hp⟩:=nY (ks:=ks) (s:=2) (by simpa [dP,bF] using hfit);have wF:=aa (iD.pC p (by simp));have wG:=aa (jT p (by simp));have zS:=aa (qq.out p (by simp));obtain⟨X,hX⟩:∃ x,ev (cR env) p=.L x:=⟨_,mC hp⟩;have mV:=aa hX;have jk:Hid (ev (cR env) (.node 7 z nm [p])=.I (X.headD 0)):=aa (by rw[ev,oW,oW,hX];rfl);have tM:Hid (rO (.I (X.headD 0))):=aa (by have h3:=hval;rw[jk.out] at h3;exact h3);have wE:Hid (rO (ev (cR env) p)):=aa (iD.pC p (by simp)).val;have mj:kl=1:=gJ.out;subst mj;clear iD jT hval hfit mT gJ qq hX hp;go_enter dA,cU
  obtain⟨x1,kf,ef,jK,bL,jc,aE⟩:=aM w #[.int .i64 7,.bool b,.slice ao l c,.string nm,.slice ko 1 kc] 29;replace HX:=aa (HX.out.below bL.out);replace HE:=aa (HE.out.below bL.out);replace HW:=aa (HW.out.trans (bL.out.mono HW.out.size));obtain⟨x2,kr,er,pE,cN,iH,aJ⟩:=aM x1 #[.int .i64 0,.bool false,.slice none 0 0,.bool false,.slice none 0 0] 41;replace aE:=aS cN.out aE;replace HX:=aa (HX.out.below cN.out);replace HE:=aa (HE.out.below cN.out);replace HW:=aa (HW.out.trans (cN.out.mono HW.out.size));have iS:Hid (w.heap.size<=kr):=aa (ah bL.out.size iH.out);obtain⟨⟨c0,c1,c2,c3,c4⟩,cA,cG,cF,cE,cC⟩:=ak aE.out;obtain⟨a,bp,op,lp,cp,xd,xe,xg,mh,⟨p0,p1,p2,p3,p4⟩,jV⟩:=HX.out.first;subst mh
  obtain⟨wO,iE⟩:∃ x,x=p.op:=⟨_,rfl⟩;obtain⟨wY,iF⟩:∃ x,x=p.name:=⟨_,rfl⟩;rw[<-iE] at p0 jV;rw[<-iF] at p3 jV;have rJ:=aa jV;have t_:Hid (zZ x2 a wO bp op lp cp wY xd xe xg):=aa ⟨p0,p1,p2,p3,p4⟩;clear iE iF jV p0 p1 p2 p3 p4;obtain⟨y0,y1,y2,y3,y4⟩:=t_.out;try simp only at y0 y1 y2 y3 y4
  go_wp2_with fail;refine (Bj.out _ _ env p S x2 rJ.out HE.out wG.out wF.out zS.out xQ.out).mono ?_;rintro e x3 ⟨x,rfl,hv,hb⟩;clear c0 cA c1 cG c2 cF c3 cE c4 cC y0 y1 y2 y3 y4;replace aE:=aS hb aE;replace aJ:=aS hb aJ;replace HW:=aa (HW.out.trans (hb.mono HW.out.size));rw[mV.out] at hv;obtain⟨xM,xE,wX,wZ,xC,wN,rE,uQ,rfl⟩:=hv.shape;obtain⟨vg,iV⟩:∃ d,d=gU (.L X):=⟨_,rfl⟩;rw[<-iV] at hv ⊢;have Bh:=aa hv.M3;clear iV;clear hv;obtain⟨x4,ka,ea,Lh,hba,hka,gm⟩:=aM x3 #[.int .i64 xM,.bool xE,.slice wX wZ xC,.bool vg,.slice wN rE uQ] 41;replace aE:=aS hba.out aE;replace aJ:=aS hba.out aJ;replace HW:=aa (HW.out.trans (hba.out.mono HW.out.size));replace Bh:=aa (Bh.out.below hba.out);go_upto_region 25 with fail
  obtain⟨x5,kz,ez,xO,hbz,pK,jW⟩:=aM x4 #[.int .i64 0,.bool false,.slice none 0 0,.bool false,.slice none 0 0] 41;replace aE:=aS hbz.out aE;replace aJ:=aS hbz.out aJ;replace gm:=aS hbz.out gm;replace HW:=aa (HW.out.trans (hbz.out.mono HW.out.size));replace Bh:=aa (Bh.out.below hbz.out);rw[ez,xO];have Dz:Hid (w.heap.size<=kz):=aa (by have h1:=iS.out;have h2:=cN.out.size;have h3:=hba.out.size;have h4:=hka.out;have h5:=pK.out;have h6:=ae aJ.out;have h7:=bL.out.size;have h8:=hb.size;omega);obtain⟨⟨c0,c1,c2,c3,c4⟩,cA,cG,cF,cE,cC⟩:=ak aE.out;obtain⟨⟨m0,m1,m2,m3,m4⟩,i_,iZ,xy,xx,xw⟩:=ak gm.out;obtain⟨⟨n0,n1,n2,n3,n4⟩,fn0,xu,xq,xp,xn⟩:=ak jW.out
  have Er:rE=X.length:=by obtain⟨_,_,e,_⟩:=Bh.out.form;injection e
  cases X with
  | nil =>
   have Ck:rE=0:=Er;subst Ck;clear Er;have hz0:(((0:Nat):Int)==0)=true:=rfl;go_wp2_with fail;refine (sR 0 x5 (by decide) (by decide)).mono ?_;rintro e x6 ⟨y,rfl,hy,hb⟩;clear c0 cA c1 cG c2 cF c3 cE c4 cC m0 i_ m1 iZ m2 xy m3 xx m4 xw n0 fn0 n1 xu n2 xq n3 xp n4 xn;replace aJ:=aS hb aJ;replace HW:=aa (HW.out.trans (hb.mono HW.out.size));have Ci:=aa (hy.mono (k':=600) (by decide));obtain⟨b9,o9,l9,c9,rfl⟩:=hy.shape;clear hy;go_wp2_with fail;refine (nt _ (0) 600 x6 Ci.out.gi (by decide)).mono ?_;rintro e x7 ⟨v,rfl,hv,hb⟩;replace aJ:=aS hb aJ;replace HW:=aa (HW.out.trans (hb.mono HW.out.size));obtain⟨ov,lv,cv,rfl,-⟩:=hv.int;have HV:=aa hv;clear hv;obtain⟨⟨r0,r1,r2,r3,r4⟩,jx,jw,jP,jO,jN⟩:=ak aJ.out;go_wp2_with fail
   obtain⟨s1,s2⟩:=gG HW.out aJ.out fb iS.out (.int .i64 0) (.bool (decide ((0)<0))) (.slice ov lv cv) (.bool false) (.slice none 0 0);(try simp only[aK,aT]);exact aD (v:=.agg #[.int .i64 0,.bool (decide ((0)<0)),.slice ov lv cv,.bool false,.slice none 0 0]) (by simp[results,bN,go_sem,r0,r1,r2,r3,r4]) rfl ⟨_,rfl,VC.fr (show VC _ _ (ev (cR env) _) from by rw[jk.out];exact HV.out) (by decide) s1,s2⟩
  | cons y L =>
   obtain⟨q,yo,yl,yc,rfl,d0,d1,hy⟩:=Bh.out.cells.2 0 (by simp);simp only[List.getElem_cons_zero,Nat.zero_mul,Addr.add,if_true] at d0 d1 hy;have Ci:=aa hy;have hgt:(((rE:Nat):Int)==0)=false:=beq_eq_false_iff_ne.2 (by rw[Er];simp;omega);have ZK:decide ((0:Int)<((rE:Nat):Int))=true:=by rw[Er];simp
   have fg:0<rE:=by rw[Er];simp
   clear hy Er;go_wp2_with fail;refine (nt _ (y) 600 x5 Ci.out.gi (by decide)).mono ?_;rintro e x6 ⟨v,rfl,hv,hb⟩;clear c0 cA c1 cG c2 cF c3 cE c4 cC m0 i_ m1 iZ m2 xy m3 xx m4 xw n0 fn0 n1 xu n2 xq n3 xp n4 xn d0 d1;replace aJ:=aS hb aJ;replace HW:=aa (HW.out.trans (hb.mono HW.out.size));obtain⟨ov,lv,cv,rfl,-⟩:=hv.int;have HV:=aa hv;clear hv;obtain⟨⟨r0,r1,r2,r3,r4⟩,jx,jw,jP,jO,jN⟩:=ak aJ.out;go_wp2_with fail;obtain⟨s1,s2⟩:=gG HW.out aJ.out fb iS.out (.int .i64 0) (.bool (decide ((y)<0))) (.slice ov lv cv) (.bool false) (.slice none 0 0);(try simp only[aK,aT])
   exact aD (v:=.agg #[.int .i64 0,.bool (decide ((y)<0)),.slice ov lv cv,.bool false,.slice none 0 0]) (by simp[results,bN,go_sem,r0,r1,r2,r3,r4]) rfl ⟨_,rfl,VC.fr (show VC _ _ (ev (cR env) _) from by rw[jk.out];exact HV.out) (by decide) s1,s2⟩
 ·have HE:=aa he;have HW:=aa (ax w.heap.size w);clear iy hkc hk hz he;have zm:=xQ.out 8 nm (by simp) mT;have jk:Hid (ev (cR env) (.node 8 z nm ks)=cR env nm):=aa (by
   show V.L (mN (cR env nm))=cR env nm
   cases hx:cR env nm with
   | I z=>first | rfl | (rw[hx] at zm;cases zm)
   | B b=>first | rfl | (rw[hx] at zm;cases zm)
   | L l=>first | rfl | (rw[hx] at zm;cases zm))
  clear zm iD jT hval hfit mT;go_enter dA,cU;obtain⟨x1,kf,ef,jK,bL,jc,aE⟩:=aM w #[.int .i64 8,.bool b,.slice ao l c,.string nm,.slice ko kl kc] 29;replace HE:=aa (HE.out.below bL.out);replace HW:=aa (HW.out.trans (bL.out.mono HW.out.size));obtain⟨x2,kr,er,pE,cN,iH,aJ⟩:=aM x1 #[.int .i64 0,.bool false,.slice none 0 0,.bool false,.slice none 0 0] 41;replace aE:=aS cN.out aE;replace HE:=aa (HE.out.below cN.out);replace HW:=aa (HW.out.trans (cN.out.mono HW.out.size));have iS:Hid (w.heap.size<=kr):=aa (ah bL.out.size iH.out);obtain⟨⟨c0,c1,c2,c3,c4⟩,cA,cG,cF,cE,cC⟩:=ak aE.out;go_wp2_with fail;refine (EB _ env nm x2 HE.out).mono ?_;rintro e x3 ⟨v,rfl,hv,hb⟩;clear c0 cA c1 cG c2 cF c3 cE c4 cC
  replace aJ:=aS hb aJ;replace HW:=aa (HW.out.trans (hb.mono HW.out.size));obtain⟨kv,bv,ov,lv,cv,pv,mv,qv,rfl⟩:=hv.shape;have HV:=aa hv;clear hv;obtain⟨⟨r0,r1,r2,r3,r4⟩,jx,jw,jP,jO,jN⟩:=ak aJ.out;go_wp2_with fail;obtain⟨s1,s2⟩:=gG HW.out aJ.out fb iS.out (.int .i64 kv) (.bool bv) (.slice ov lv cv) (.bool (gU (cR env nm))) (.slice pv mv qv);(try simp only[aK,aT]);exact aD (v:=.agg #[.int .i64 kv,.bool bv,.slice ov lv cv,.bool (gU (cR env nm)),.slice pv mv qv]) (by simp[results,bN,go_sem,r0,r1,r2,r3,r4]) rfl ⟨_,rfl,VC.fr (show VC _ _ (ev (cR env) _) from by rw[jk.out];exact HV.out) (by decide) s1,s2⟩
 ·have HW:=aa (ax w.heap.size w);clear iy hkc hk hz he;have jk:Hid (ev (cR env) (.node 9 z nm ks)=.L []):=aa rfl;clear iD jT hval hfit mT;go_enter dA,cU;obtain⟨x1,kf,ef,jK,bL,jc,aE⟩:=aM w #[.int .i64 9,.bool b,.slice ao l c,.string nm,.slice ko kl kc] 29;replace HW:=aa (HW.out.trans (bL.out.mono HW.out.size));obtain⟨x2,kr,er,pE,cN,iH,aJ⟩:=aM x1 #[.int .i64 0,.bool false,.slice none 0 0,.bool false,.slice none 0 0] 41;replace aE:=aS cN.out aE;replace HW:=aa (HW.out.trans (cN.out.mono HW.out.size));have iS:Hid (w.heap.size<=kr):=aa (ah bL.out.size iH.out);obtain⟨⟨c0,c1,c2,c3,c4⟩,cA,cG,cF,cE,cC⟩:=ak aE.out;go_wp2_with fail;refine (rY _ [] x2 (NL.nil _) (by simp)).mono ?_
  rintro e x3 ⟨v,rfl,hv,hb⟩;clear c0 cA c1 cG c2 cF c3 cE c4 cC;replace aJ:=aS hb aJ;replace HW:=aa (HW.out.trans (hb.mono HW.out.size));obtain⟨ov,lv,cv,rfl,-⟩:=hv.list;have HV:=aa hv;clear hv;obtain⟨⟨r0,r1,r2,r3,r4⟩,jx,jw,jP,jO,jN⟩:=ak aJ.out;go_wp2_with fail;obtain⟨s1,s2⟩:=gG HW.out aJ.out fb iS.out (.int .i64 2) (.bool false) (.slice none 0 0) (.bool false) (.slice ov lv cv);(try simp only[aK,aT]);exact aD (v:=.agg #[.int .i64 2,.bool false,.slice none 0 0,.bool false,.slice ov lv cv]) (by simp[results,bN,go_sem,r0,r1,r2,r3,r4]) rfl ⟨_,rfl,VC.fr (show VC _ _ (ev (cR env) _) from by rw[jk.out];exact HV.out) (by decide) s1,s2⟩
 ·have HX:=aa hk;have HE:=aa he;have HW:=aa (ax w.heap.size w);have gJ:=aa iy;clear iy hkc hk hz he;obtain⟨p,q,rfl,hp,hq⟩:=nX (ks:=ks) (s:=0) (r:=2) (by simpa [dP,bF] using hfit);have wF:=aa (iD.pC p (by simp));have wG:=aa (jT p (by simp));have zS:=aa (qq.out p (by simp));have IF:=aa (iD.pC q (by simp));have IG:=aa (jT q (by simp));have LB:=aa (qq.out q (by simp));obtain⟨X,hX⟩:∃ x,ev (cR env) p=.I x:=⟨_,mo hp⟩;have mV:=aa hX;obtain⟨Y,hY⟩:∃ x,ev (cR env) q=.L x:=⟨_,mC hq⟩;have zQ:=aa hY;have jk:Hid (ev (cR env) (.node 10 z nm [p,q])=.L (X::Y)):=aa (by rw[ev,oW,oW,oW,hX,hY];rfl);have tM:Hid (rO (.L (X::Y))):=aa (by have h3:=hval;rw[jk.out] at h3;exact h3)
  have wE:Hid (rO (ev (cR env) p)):=aa (iD.pC p (by simp)).val;have LA:Hid (rO (ev (cR env) q)):=aa (iD.pC q (by simp)).val;have mj:kl=2:=gJ.out;subst mj;clear iD jT hval hfit mT gJ qq hX hY hp hq;go_enter dA,cU;obtain⟨x1,kf,ef,jK,bL,jc,aE⟩:=aM w #[.int .i64 10,.bool b,.slice ao l c,.string nm,.slice ko 2 kc] 29;replace HX:=aa (HX.out.below bL.out);replace HE:=aa (HE.out.below bL.out);replace HW:=aa (HW.out.trans (bL.out.mono HW.out.size));obtain⟨x2,kr,er,pE,cN,iH,aJ⟩:=aM x1 #[.int .i64 0,.bool false,.slice none 0 0,.bool false,.slice none 0 0] 41;replace aE:=aS cN.out aE;replace HX:=aa (HX.out.below cN.out);replace HE:=aa (HE.out.below cN.out)
  replace HW:=aa (HW.out.trans (cN.out.mono HW.out.size));have iS:Hid (w.heap.size<=kr):=aa (ah bL.out.size iH.out);obtain⟨⟨c0,c1,c2,c3,c4⟩,cA,cG,cF,cE,cC⟩:=ak aE.out;obtain⟨a,bp,op,lp,cp,xd,xe,xg,mh,⟨p0,p1,p2,p3,p4⟩,jV⟩:=HX.out.first;subst mh;obtain⟨wO,iE⟩:∃ x,x=p.op:=⟨_,rfl⟩;obtain⟨wY,iF⟩:∃ x,x=p.name:=⟨_,rfl⟩;rw[<-iE] at p0 jV;rw[<-iF] at p3 jV;have rJ:=aa jV;have t_:Hid (zZ x2 a wO bp op lp cp wY xd xe xg):=aa ⟨p0,p1,p2,p3,p4⟩;clear iE iF jV p0 p1 p2 p3 p4;obtain⟨a2,bq,oq,lq,cq,Hj,Hl,Ho,vW,⟨q0,q1,q2,q3,q4⟩,rj⟩:=HX.out.second;injection vW with Au;subst Au;obtain⟨G_,qh⟩:∃ x,x=q.op:=⟨_,rfl⟩;obtain⟨Hf,qj⟩:∃ x,x=q.name:=⟨_,rfl⟩;rw[<-qh] at q0 rj
  rw[<-qj] at q3 rj;have mw:=aa rj;have jd:Hid (zZ x2 ⟨a.block,a.off+5,none⟩ G_ bq oq lq cq Hf Hj Hl Ho):=aa ⟨q0,q1,q2,q3,q4⟩;clear qh qj rj q0 q1 q2 q3 q4;obtain⟨y0,y1,y2,y3,y4⟩:=t_.out;try simp only at y0 y1 y2 y3 y4
  go_wp2_with fail;refine (Bj.out _ _ env p S x2 rJ.out HE.out wG.out wF.out zS.out xQ.out).mono ?_;rintro e x3 ⟨x,rfl,hv,hb⟩;clear c0 cA c1 cG c2 cF c3 cE c4 cC y0 y1 y2 y3 y4;replace aE:=aS hb aE;replace aJ:=aS hb aJ;replace HE:=aa (HE.out.below hb);replace HW:=aa (HW.out.trans (hb.mono HW.out.size));replace mw:=aa (mw.out.below hb);replace jd:=aa (jd.out.below hb);rw[mV.out] at hv;obtain⟨xM,xE,wX,wZ,xC,wN,rE,uQ,rfl⟩:=hv.shape;obtain⟨vg,iV⟩:∃ d,d=gU (.I X):=⟨_,rfl⟩;rw[<-iV] at hv ⊢;have mQ:=aa hv.B7;clear iV;clear hv;have Gq:=aa (ae aE.out);have Bi:=aa (ae aJ.out);obtain⟨x4,ka,ea,Lh,hba,hka,gm⟩:=aM x3 #[.int .i64 xM,.bool xE,.slice wX wZ xC,.bool vg,.slice wN rE uQ] 41
  replace aE:=aS hba.out aE;replace aJ:=aS hba.out aJ;replace HE:=aa (HE.out.below hba.out);replace HW:=aa (HW.out.trans (hba.out.mono HW.out.size));replace mw:=aa (mw.out.below hba.out);replace jd:=aa (jd.out.below hba.out);replace mQ:=aa (mQ.out.below hba.out);have Fh:=aa (ae gm.out);have zU:=aa hba.out.size;go_upto_region 25 with fail;obtain⟨x5,kz,ez,xO,hbz,pK,jW⟩:=aM x4 #[.int .i64 0,.bool false,.slice none 0 0,.bool false,.slice none 0 0] 41;replace aE:=aS hbz.out aE;replace aJ:=aS hbz.out aJ;replace gm:=aS hbz.out gm;replace HE:=aa (HE.out.below hbz.out);replace HW:=aa (HW.out.trans (hbz.out.mono HW.out.size));replace mw:=aa (mw.out.below hbz.out);replace jd:=aa (jd.out.below hbz.out)
  replace mQ:=aa (mQ.out.below hbz.out);rw[ez,xO];have Dz:Hid (w.heap.size<=kz):=aa (by have h1:=iS.out;have h2:=cN.out.size;have h3:=hba.out.size;have h4:=hka.out;have h5:=pK.out;have h6:=ae aJ.out;have h7:=bL.out.size;have h8:=hb.size;omega);obtain⟨⟨c0,c1,c2,c3,c4⟩,cA,cG,cF,cE,cC⟩:=ak aE.out;obtain⟨y0,y1,y2,y3,y4⟩:=jd.out;try simp only at y0 y1 y2 y3 y4
  go_wp2_with fail;refine (Bj.out _ _ env q S x5 mw.out HE.out IG.out IF.out LB.out xQ.out).mono ?_;rintro e x6 ⟨x,rfl,hv,hb⟩;clear c0 cA c1 cG c2 cF c3 cE c4 cC y0 y1 y2 y3 y4;replace aE:=aS hb aE;replace aJ:=aS hb aJ;replace gm:=aS hb gm;replace jW:=aS hb jW;replace HW:=aa (HW.out.trans (hb.mono HW.out.size));replace mQ:=aa (mQ.out.below hb);rw[zQ.out] at hv;obtain⟨zf,zM,yT,y8,zI,yR,yZ,yP,rfl⟩:=hv.shape;obtain⟨ye,rH⟩:∃ d,d=gU (.L Y):=⟨_,rfl⟩;rw[<-rH] at hv ⊢;have Yq:=aa hv.M3;clear rH;clear hv;obtain⟨⟨g0,g1,g2,g3,g4⟩,ni,nh,oH,oG,oF⟩:=ak jW.out;go_upto_region 27 with fail;clear g0 ni g1 nh g2 oH g3 oG g4 oF
  have fg:=bR (w:=x6) (k:=kz) (.int .i64 zf) (.bool zM) (.slice yT y8 zI) (.bool ye) (.slice yR yZ yP);have gV:=gZ jW.out (.int .i64 zf) (.bool zM) (.slice yT y8 zI) (.bool ye) (.slice yR yZ yP);have lZ:Fr 41 x6 _:=.aL fg (fun j hj=>by injection hj with hj;subst hj;exact⟨_,jW.out,fb⟩);obtain⟨W1,nN⟩:∃ q,q=((((x6.setCell ⟨kz,0,none⟩ (.int .i64 zf)).setCell ⟨kz,1,none⟩ (.bool zM)).setCell ⟨kz,2,none⟩ (.slice yT y8 zI)).setCell ⟨kz,3,none⟩ (.bool ye)).setCell ⟨kz,4,none⟩ (.slice yR yZ yP):=⟨_,rfl⟩;rw[<-nN] at fg gV lZ ⊢;clear nN;replace aE:=aa ((fg.block kf (ae aE.out) (fun e=>by injection e with e;have h1:=pK.out;have h2:=Gq.out;have h3:=zU.out;omega)).trans aE.out)
  replace aJ:=aa ((fg.block kr (ae aJ.out) (fun e=>by injection e with e;have h1:=pK.out;have h2:=Bi.out;have h3:=zU.out;omega)).trans aJ.out);replace gm:=aa ((fg.block ka (ae gm.out) (fun e=>by injection e with e;have h1:=pK.out;have h2:=Fh.out;have h3:=zU.out;omega)).trans gm.out);replace jW:=aa gV;replace HW:=aa (bA HW.out fg Dz.out);clear HX;clear HE;clear rJ;clear t_;clear mw;clear jd;replace mQ:=aa (mQ.out.fr lZ);replace Yq:=aa (Yq.out.fr (by decide) lZ);clear fg gV lZ;obtain⟨⟨c0,c1,c2,c3,c4⟩,cA,cG,cF,cE,cC⟩:=ak aE.out;obtain⟨⟨m0,m1,m2,m3,m4⟩,i_,iZ,xy,xx,xw⟩:=ak gm.out;obtain⟨⟨n0,n1,n2,n3,n4⟩,fn0,xu,xq,xp,xn⟩:=ak jW.out;obtain⟨nx,hnc,SZ,S8⟩:=mQ.out.un
  obtain⟨ns,BX,S0⟩:=Yq.out;have HNC:=aa hnc;have Yp:=aa SZ;have Rj:=aa S8;have tB:=aa BX;have UP:=aa S0;have U4:Hid ((X::Y).length<=1000):=aa tM.out.1;have US:=aa (ae aJ.out);have HWX:=aa HW.out.size;have qY:=aJ;have HW0:=HW;clear hnc SZ S8 BX S0;obtain⟨x7,kj,ej,ekj,OS,Nz,HBj⟩:=aM W1 #[.bool xE,.slice wX wZ xC] 26;replace aJ:=aS OS.out aJ;replace gm:=aS OS.out gm;replace jW:=aS OS.out jW;replace HW:=aa (HW.out.trans (OS.out.mono HW.out.size));replace Rj:=aa (nE.below Rj.out OS.out);replace tB:=aa (tB.out.below OS.out);have Oe:=aa (JL HBj.out HNC.out Rj.out Nz.out);obtain⟨⟨m0,m1,m2,m3,m4⟩,i_,iZ,xy,xx,xw⟩:=ak gm.out
  obtain⟨⟨n0,n1,n2,n3,n4⟩,fn0,xu,xq,xp,xn⟩:=ak jW.out;go_wp2_with (at_builtin;refine El.Row.append (E:=nE) Oe.out rfl (.tmp 166) (.tmp 168) rfl rfl rfl tB.out (by have h1:=U4.out;rw[<-UP.out] at h1;simp at h1 ⊢;omega) OS.out.size ?_;intro v9 w9 r1 r2 r3 r4;obtain⟨vo,vc,rfl,-⟩:=r1.form;have Va:=aa ((r3.block kr US.out).trans ((OS.out.block kr US.out).trans qY.out));have HW9:=aa (HW.out.trans (r3.mono HWX.out));have V4:=aa r1;clear r1 r2 r3 r4);clear HW aJ;have HW:=HW9;have aJ:=Va;clear HW9 Va;refine (rY _ (X::Y) w9 ⟨_,V4.out.at,by rw[List.map_append,UP.out,List.map_cons,List.map_nil,Yp.out];rfl⟩ (by have h1:=U4.out;omega)).mono ?_;rintro e x8 ⟨v,rfl,hv,hb⟩;replace aJ:=aS hb aJ
  replace HW:=aa (HW.out.trans (hb.mono HW.out.size));obtain⟨ov,lv,cv,rfl,-⟩:=hv.list;have HV:=aa hv;clear hv;obtain⟨⟨r0,r1,r2,r3,r4⟩,jx,jw,jP,jO,jN⟩:=ak aJ.out;go_wp2_with fail;obtain⟨s1,s2⟩:=gG HW.out aJ.out fb iS.out (.int .i64 2) (.bool false) (.slice none 0 0) (.bool false) (.slice ov lv cv);(try simp only[aK,aT]);exact aD (v:=.agg #[.int .i64 2,.bool false,.slice none 0 0,.bool false,.slice ov lv cv]) (by simp[results,bN,go_sem,r0,r1,r2,r3,r4]) rfl ⟨_,rfl,VC.fr (show VC _ _ (ev (cR env) _) from by rw[jk.out];exact HV.out) (by decide) s1,s2⟩
 ·have HX:=aa hk;have HE:=aa he;have HW:=aa (ax w.heap.size w);have gJ:=aa iy;clear iy hkc hk hz he;obtain⟨p,rfl,hp⟩:=nY (ks:=ks) (s:=2) (by simpa [dP,bF] using hfit);have wF:=aa (iD.pC p (by simp));have wG:=aa (jT p (by simp));have zS:=aa (qq.out p (by simp));obtain⟨X,hX⟩:∃ x,ev (cR env) p=.L x:=⟨_,mC hp⟩;have mV:=aa hX;have jk:Hid (ev (cR env) (.node 11 z nm [p])=.L X.tail):=aa (by rw[ev,oW,oW,hX];rfl);have tM:Hid (rO (.L X.tail)):=aa (by have h3:=hval;rw[jk.out] at h3;exact h3);have wE:Hid (rO (ev (cR env) p)):=aa (iD.pC p (by simp)).val;have mj:kl=1:=gJ.out;subst mj;clear iD jT hval hfit mT gJ qq hX hp;go_enter dA,cU
  obtain⟨x1,kf,ef,jK,bL,jc,aE⟩:=aM w #[.int .i64 11,.bool b,.slice ao l c,.string nm,.slice ko 1 kc] 29;replace HX:=aa (HX.out.below bL.out);replace HE:=aa (HE.out.below bL.out);replace HW:=aa (HW.out.trans (bL.out.mono HW.out.size));obtain⟨x2,kr,er,pE,cN,iH,aJ⟩:=aM x1 #[.int .i64 0,.bool false,.slice none 0 0,.bool false,.slice none 0 0] 41;replace aE:=aS cN.out aE;replace HX:=aa (HX.out.below cN.out);replace HE:=aa (HE.out.below cN.out);replace HW:=aa (HW.out.trans (cN.out.mono HW.out.size));have iS:Hid (w.heap.size<=kr):=aa (ah bL.out.size iH.out);obtain⟨⟨c0,c1,c2,c3,c4⟩,cA,cG,cF,cE,cC⟩:=ak aE.out;obtain⟨a,bp,op,lp,cp,xd,xe,xg,mh,⟨p0,p1,p2,p3,p4⟩,jV⟩:=HX.out.first;subst mh
  obtain⟨wO,iE⟩:∃ x,x=p.op:=⟨_,rfl⟩;obtain⟨wY,iF⟩:∃ x,x=p.name:=⟨_,rfl⟩;rw[<-iE] at p0 jV;rw[<-iF] at p3 jV;have rJ:=aa jV;have t_:Hid (zZ x2 a wO bp op lp cp wY xd xe xg):=aa ⟨p0,p1,p2,p3,p4⟩;clear iE iF jV p0 p1 p2 p3 p4;obtain⟨y0,y1,y2,y3,y4⟩:=t_.out;try simp only at y0 y1 y2 y3 y4
  go_wp2_with fail;refine (Bj.out _ _ env p S x2 rJ.out HE.out wG.out wF.out zS.out xQ.out).mono ?_;rintro e x3 ⟨x,rfl,hv,hb⟩;clear c0 cA c1 cG c2 cF c3 cE c4 cC y0 y1 y2 y3 y4;replace aE:=aS hb aE;replace aJ:=aS hb aJ;replace HW:=aa (HW.out.trans (hb.mono HW.out.size));rw[mV.out] at hv;have uD:=aa hv;obtain⟨xM,xE,wX,wZ,xC,wN,rE,uQ,rfl⟩:=hv.shape;obtain⟨vg,iV⟩:∃ d,d=gU (.L X):=⟨_,rfl⟩;rw[<-iV] at hv ⊢;replace uD:=aa hv;have Bh:=aa hv.M3;clear iV;clear hv;obtain⟨x4,ka,ea,Lh,hba,hka,gm⟩:=aM x3 #[.int .i64 xM,.bool xE,.slice wX wZ xC,.bool vg,.slice wN rE uQ] 41;replace aE:=aS hba.out aE;replace aJ:=aS hba.out aJ;replace HW:=aa (HW.out.trans (hba.out.mono HW.out.size))
  replace uD:=aa (uD.out.below hba.out);replace Bh:=aa (Bh.out.below hba.out);go_upto_region 25 with fail;obtain⟨x5,kz,ez,xO,hbz,pK,jW⟩:=aM x4 #[.int .i64 0,.bool false,.slice none 0 0,.bool false,.slice none 0 0] 41;replace aE:=aS hbz.out aE;replace aJ:=aS hbz.out aJ;replace gm:=aS hbz.out gm;replace HW:=aa (HW.out.trans (hbz.out.mono HW.out.size));replace uD:=aa (uD.out.below hbz.out);replace Bh:=aa (Bh.out.below hbz.out);rw[ez,xO];have Dz:Hid (w.heap.size<=kz):=aa (by have h1:=iS.out;have h2:=cN.out.size;have h3:=hba.out.size;have h4:=hka.out;have h5:=pK.out;have h6:=ae aJ.out;have h7:=bL.out.size;have h8:=hb.size;omega);obtain⟨⟨c0,c1,c2,c3,c4⟩,cA,cG,cF,cE,cC⟩:=ak aE.out
  obtain⟨⟨m0,m1,m2,m3,m4⟩,i_,iZ,xy,xx,xw⟩:=ak gm.out;obtain⟨⟨n0,n1,n2,n3,n4⟩,fn0,xu,xq,xp,xn⟩:=ak jW.out;have Er:rE=X.length:=by obtain⟨_,_,e,_⟩:=Bh.out.form;injection e
  cases X with
  | nil =>
   have Ck:rE=0:=Er;subst Ck;clear Er;have hz0:(((0:Nat):Int)==0)=true:=rfl;obtain⟨⟨r0,r1,r2,r3,r4⟩,jx,jw,jP,jO,jN⟩:=ak aJ.out;go_wp2_with fail;clear c0 cA c1 cG c2 cF c3 cE c4 cC m0 i_ m1 iZ m2 xy m3 xx m4 xw n0 fn0 n1 xu n2 xq n3 xp n4 xn;obtain⟨s1,s2⟩:=gG HW.out aJ.out fb iS.out (.int .i64 xM) (.bool xE) (.slice wX wZ xC) (.bool vg) (.slice wN 0 uQ);(try simp only[aK,aT]);exact aD (v:=.agg #[.int .i64 xM,.bool xE,.slice wX wZ xC,.bool vg,.slice wN 0 uQ]) (by simp[results,bN,go_sem,r0,r1,r2,r3,r4]) rfl ⟨_,rfl,VC.fr (show VC _ _ (ev (cR env) _) from by rw[jk.out];exact uD.out) (by decide) s1,s2⟩
  | cons y L =>
   have hgt:(((rE:Nat):Int)==0)=false:=beq_eq_false_iff_ne.2 (by rw[Er];simp;omega);have fg:1<=rE:=by rw[Er];simp
   have hcap:rE<=uQ/\uQ<=9223372036854775807:=by obtain⟨_,_,e,h1,_⟩:=Bh.out.form;injection e with e1 e2 e3;subst e2 e3;exact h1
   obtain⟨Xv,Xu⟩:=hcap;have hq1:((1:Nat):Int)<=((rE:Nat):Int):=by omega
   have U4:Hid ((y::L).length<=1000):=aa (by have h3:=wE.out;rw[mV.out] at h3;exact h3.1);have hv:=Bh.out.Sb fg;unfold sliced at hv;clear Er;by_cases hc:uQ=1
   ·rw[if_pos hc] at hv;subst hc;have xj:NL x5 (.slice wN 0 0) L:=by simpa [show rE - 1=0 by omega] using hv
    have Oa:=aa xj;clear hv xj;go_wp2_with fail;refine (rY _ L x5 Oa.out (by have:=U4.out;simp at this;omega)).mono ?_;rintro e x6 ⟨v,rfl,hv,hb⟩;clear c0 cA c1 cG c2 cF c3 cE c4 cC m0 i_ m1 iZ m2 xy m3 xx m4 xw n0 fn0 n1 xu n2 xq n3 xp n4 xn;replace aJ:=aS hb aJ;replace HW:=aa (HW.out.trans (hb.mono HW.out.size));obtain⟨ov,lv,cv,rfl,-⟩:=hv.list;have HV:=aa hv;clear hv;obtain⟨⟨r0,r1,r2,r3,r4⟩,jx,jw,jP,jO,jN⟩:=ak aJ.out;go_wp2_with fail;obtain⟨s1,s2⟩:=gG HW.out aJ.out fb iS.out (.int .i64 2) (.bool false) (.slice none 0 0) (.bool false) (.slice ov lv cv);(try simp only[aK,aT])
    exact aD (v:=.agg #[.int .i64 2,.bool false,.slice none 0 0,.bool false,.slice ov lv cv]) (by simp[results,bN,go_sem,r0,r1,r2,r3,r4]) rfl ⟨_,rfl,VC.fr (show VC _ _ (ev (cR env) _) from by rw[jk.out];exact HV.out) (by decide) s1,s2⟩
   rw[if_neg hc] at hv;have Oa:=aa hv;clear hv;have hq2:¬ (((uQ:Nat):Int)=1):=by omega
   go_wp2_with fail;refine (rY _ L x5 (by have h9:=Oa.out;simpa [Addr.add] using h9) (by have:=U4.out;simp at this;omega)).mono ?_;rintro e x6 ⟨v,rfl,hv,hb⟩;clear c0 cA c1 cG c2 cF c3 cE c4 cC m0 i_ m1 iZ m2 xy m3 xx m4 xw n0 fn0 n1 xu n2 xq n3 xp n4 xn;replace aJ:=aS hb aJ;replace HW:=aa (HW.out.trans (hb.mono HW.out.size));obtain⟨ov,lv,cv,rfl,-⟩:=hv.list;have HV:=aa hv;clear hv;obtain⟨⟨r0,r1,r2,r3,r4⟩,jx,jw,jP,jO,jN⟩:=ak aJ.out;go_wp2_with fail;obtain⟨s1,s2⟩:=gG HW.out aJ.out fb iS.out (.int .i64 2) (.bool false) (.slice none 0 0) (.bool false) (.slice ov lv cv);(try simp only[aK,aT])
   exact aD (v:=.agg #[.int .i64 2,.bool false,.slice none 0 0,.bool false,.slice ov lv cv]) (by simp[results,bN,go_sem,r0,r1,r2,r3,r4]) rfl ⟨_,rfl,VC.fr (show VC _ _ (ev (cR env) _) from by rw[jk.out];exact HV.out) (by decide) s1,s2⟩
 ·have HW:=aa (ax w.heap.size w);clear iy hkc hk hz he;have jk:Hid (ev (cR env) (.node 12 z nm ks)=.B true):=aa rfl;clear iD jT hval hfit mT;go_enter dA,cU;obtain⟨x1,kf,ef,jK,bL,jc,aE⟩:=aM w #[.int .i64 12,.bool b,.slice ao l c,.string nm,.slice ko kl kc] 29;replace HW:=aa (HW.out.trans (bL.out.mono HW.out.size));obtain⟨x2,kr,er,pE,cN,iH,aJ⟩:=aM x1 #[.int .i64 0,.bool false,.slice none 0 0,.bool false,.slice none 0 0] 41;replace aE:=aS cN.out aE;replace HW:=aa (HW.out.trans (cN.out.mono HW.out.size));have iS:Hid (w.heap.size<=kr):=aa (ah bL.out.size iH.out);obtain⟨⟨c0,c1,c2,c3,c4⟩,cA,cG,cF,cE,cC⟩:=ak aE.out;go_wp2_with fail;refine (iR _ x2).mono ?_;rintro e x3 ⟨v,rfl,hv,hb⟩
  clear c0 cA c1 cG c2 cF c3 cE c4 cC;replace aJ:=aS hb aJ;replace HW:=aa (HW.out.trans (hb.mono HW.out.size));have r8:=hv.bool;subst r8;have HV:=aa hv;clear hv;obtain⟨⟨r0,r1,r2,r3,r4⟩,jx,jw,jP,jO,jN⟩:=ak aJ.out;go_wp2_with fail;obtain⟨s1,s2⟩:=gG HW.out aJ.out fb iS.out (.int .i64 1) (.bool false) (.slice none 0 0) (.bool (true)) (.slice none 0 0);(try simp only[aK,aT]);exact aD (v:=.agg #[.int .i64 1,.bool false,.slice none 0 0,.bool (true),.slice none 0 0]) (by simp[results,bN,go_sem,r0,r1,r2,r3,r4]) rfl ⟨_,rfl,VC.fr (show VC _ _ (ev (cR env) _) from by rw[jk.out];exact HV.out) (by decide) s1,s2⟩
 ·have HW:=aa (ax w.heap.size w);clear iy hkc hk hz he;have jk:Hid (ev (cR env) (.node 13 z nm ks)=.B false):=aa rfl;clear iD jT hval hfit mT;go_enter dA,cU;obtain⟨x1,kf,ef,jK,bL,jc,aE⟩:=aM w #[.int .i64 13,.bool b,.slice ao l c,.string nm,.slice ko kl kc] 29;replace HW:=aa (HW.out.trans (bL.out.mono HW.out.size));obtain⟨x2,kr,er,pE,cN,iH,aJ⟩:=aM x1 #[.int .i64 0,.bool false,.slice none 0 0,.bool false,.slice none 0 0] 41;replace aE:=aS cN.out aE;replace HW:=aa (HW.out.trans (cN.out.mono HW.out.size));have iS:Hid (w.heap.size<=kr):=aa (ah bL.out.size iH.out);obtain⟨⟨c0,c1,c2,c3,c4⟩,cA,cG,cF,cE,cC⟩:=ak aE.out;go_wp2_with fail;refine (iR _ x2).mono ?_;rintro e x3 ⟨v,rfl,hv,hb⟩
  clear c0 cA c1 cG c2 cF c3 cE c4 cC;replace aJ:=aS hb aJ;replace HW:=aa (HW.out.trans (hb.mono HW.out.size));have r8:=hv.bool;subst r8;have HV:=aa hv;clear hv;obtain⟨⟨r0,r1,r2,r3,r4⟩,jx,jw,jP,jO,jN⟩:=ak aJ.out;go_wp2_with fail;obtain⟨s1,s2⟩:=gG HW.out aJ.out fb iS.out (.int .i64 1) (.bool false) (.slice none 0 0) (.bool (false)) (.slice none 0 0);(try simp only[aK,aT]);exact aD (v:=.agg #[.int .i64 1,.bool false,.slice none 0 0,.bool (false),.slice none 0 0]) (by simp[results,bN,go_sem,r0,r1,r2,r3,r4]) rfl ⟨_,rfl,VC.fr (show VC _ _ (ev (cR env) _) from by rw[jk.out];exact HV.out) (by decide) s1,s2⟩
 ·have HE:=aa he;have HW:=aa (ax w.heap.size w);clear iy hkc hk hz he;have zm:=xQ.out 14 nm (by simp) mT;have jk:Hid (ev (cR env) (.node 14 z nm ks)=cR env nm):=aa (by
   show V.B (gU (cR env nm))=cR env nm
   cases hx:cR env nm with
   | I z=>first | rfl | (rw[hx] at zm;cases zm)
   | B b=>first | rfl | (rw[hx] at zm;cases zm)
   | L l=>first | rfl | (rw[hx] at zm;cases zm))
  clear zm iD jT hval hfit mT;go_enter dA,cU;obtain⟨x1,kf,ef,jK,bL,jc,aE⟩:=aM w #[.int .i64 14,.bool b,.slice ao l c,.string nm,.slice ko kl kc] 29;replace HE:=aa (HE.out.below bL.out);replace HW:=aa (HW.out.trans (bL.out.mono HW.out.size));obtain⟨x2,kr,er,pE,cN,iH,aJ⟩:=aM x1 #[.int .i64 0,.bool false,.slice none 0 0,.bool false,.slice none 0 0] 41;replace aE:=aS cN.out aE;replace HE:=aa (HE.out.below cN.out);replace HW:=aa (HW.out.trans (cN.out.mono HW.out.size));have iS:Hid (w.heap.size<=kr):=aa (ah bL.out.size iH.out);obtain⟨⟨c0,c1,c2,c3,c4⟩,cA,cG,cF,cE,cC⟩:=ak aE.out;go_wp2_with fail;refine (EB _ env nm x2 HE.out).mono ?_;rintro e x3 ⟨v,rfl,hv,hb⟩;clear c0 cA c1 cG c2 cF c3 cE c4 cC
  replace aJ:=aS hb aJ;replace HW:=aa (HW.out.trans (hb.mono HW.out.size));obtain⟨kv,bv,ov,lv,cv,pv,mv,qv,rfl⟩:=hv.shape;have HV:=aa hv;clear hv;obtain⟨⟨r0,r1,r2,r3,r4⟩,jx,jw,jP,jO,jN⟩:=ak aJ.out;go_wp2_with fail;obtain⟨s1,s2⟩:=gG HW.out aJ.out fb iS.out (.int .i64 kv) (.bool bv) (.slice ov lv cv) (.bool (gU (cR env nm))) (.slice pv mv qv);(try simp only[aK,aT]);exact aD (v:=.agg #[.int .i64 kv,.bool bv,.slice ov lv cv,.bool (gU (cR env nm)),.slice pv mv qv]) (by simp[results,bN,go_sem,r0,r1,r2,r3,r4]) rfl ⟨_,rfl,VC.fr (show VC _ _ (ev (cR env) _) from by rw[jk.out];exact HV.out) (by decide) s1,s2⟩
 ·have HX:=aa hk;have HE:=aa he;have HW:=aa (ax w.heap.size w);have gJ:=aa iy;clear iy hkc hk hz he;obtain⟨p,q,rfl,hp,hq⟩:=nX (ks:=ks) (s:=0) (r:=0) (by simpa [dP,bF] using hfit);have wF:=aa (iD.pC p (by simp));have wG:=aa (jT p (by simp));have zS:=aa (qq.out p (by simp));have IF:=aa (iD.pC q (by simp));have IG:=aa (jT q (by simp));have LB:=aa (qq.out q (by simp));obtain⟨X,hX⟩:∃ x,ev (cR env) p=.I x:=⟨_,mo hp⟩;have mV:=aa hX;obtain⟨Y,hY⟩:∃ x,ev (cR env) q=.I x:=⟨_,mo hq⟩;have zQ:=aa hY;have jk:Hid (ev (cR env) (.node 15 z nm [p,q])=.B (decide (X<=Y))):=aa (by rw[ev,oW,oW,oW,hX,hY];rfl)
  have tM:Hid (rO (.B (decide (X<=Y)))):=aa (by have h3:=hval;rw[jk.out] at h3;exact h3);have wE:Hid (rO (ev (cR env) p)):=aa (iD.pC p (by simp)).val;have LA:Hid (rO (ev (cR env) q)):=aa (iD.pC q (by simp)).val;have mj:kl=2:=gJ.out;subst mj;clear iD jT hval hfit mT gJ qq hX hY hp hq;go_enter dA,cU;obtain⟨x1,kf,ef,jK,bL,jc,aE⟩:=aM w #[.int .i64 15,.bool b,.slice ao l c,.string nm,.slice ko 2 kc] 29;replace HX:=aa (HX.out.below bL.out);replace HE:=aa (HE.out.below bL.out);replace HW:=aa (HW.out.trans (bL.out.mono HW.out.size));obtain⟨x2,kr,er,pE,cN,iH,aJ⟩:=aM x1 #[.int .i64 0,.bool false,.slice none 0 0,.bool false,.slice none 0 0] 41;replace aE:=aS cN.out aE;replace HX:=aa (HX.out.below cN.out)
  replace HE:=aa (HE.out.below cN.out);replace HW:=aa (HW.out.trans (cN.out.mono HW.out.size));have iS:Hid (w.heap.size<=kr):=aa (ah bL.out.size iH.out);obtain⟨⟨c0,c1,c2,c3,c4⟩,cA,cG,cF,cE,cC⟩:=ak aE.out;obtain⟨a,bp,op,lp,cp,xd,xe,xg,mh,⟨p0,p1,p2,p3,p4⟩,jV⟩:=HX.out.first;subst mh;obtain⟨wO,iE⟩:∃ x,x=p.op:=⟨_,rfl⟩;obtain⟨wY,iF⟩:∃ x,x=p.name:=⟨_,rfl⟩;rw[<-iE] at p0 jV;rw[<-iF] at p3 jV;have rJ:=aa jV;have t_:Hid (zZ x2 a wO bp op lp cp wY xd xe xg):=aa ⟨p0,p1,p2,p3,p4⟩;clear iE iF jV p0 p1 p2 p3 p4;obtain⟨a2,bq,oq,lq,cq,Hj,Hl,Ho,vW,⟨q0,q1,q2,q3,q4⟩,rj⟩:=HX.out.second;injection vW with Au;subst Au;obtain⟨G_,qh⟩:∃ x,x=q.op:=⟨_,rfl⟩
  obtain⟨Hf,qj⟩:∃ x,x=q.name:=⟨_,rfl⟩;rw[<-qh] at q0 rj;rw[<-qj] at q3 rj;have mw:=aa rj;have jd:Hid (zZ x2 ⟨a.block,a.off+5,none⟩ G_ bq oq lq cq Hf Hj Hl Ho):=aa ⟨q0,q1,q2,q3,q4⟩;clear qh qj rj q0 q1 q2 q3 q4;obtain⟨y0,y1,y2,y3,y4⟩:=t_.out;try simp only at y0 y1 y2 y3 y4
  go_wp2_with fail;refine (Bj.out _ _ env p S x2 rJ.out HE.out wG.out wF.out zS.out xQ.out).mono ?_;rintro e x3 ⟨x,rfl,hv,hb⟩;clear c0 cA c1 cG c2 cF c3 cE c4 cC y0 y1 y2 y3 y4;replace aE:=aS hb aE;replace aJ:=aS hb aJ;replace HE:=aa (HE.out.below hb);replace HW:=aa (HW.out.trans (hb.mono HW.out.size));replace mw:=aa (mw.out.below hb);replace jd:=aa (jd.out.below hb);rw[mV.out] at hv;obtain⟨xM,xE,wX,wZ,xC,wN,rE,uQ,rfl⟩:=hv.shape;obtain⟨vg,iV⟩:∃ d,d=gU (.I X):=⟨_,rfl⟩;rw[<-iV] at hv ⊢;have mQ:=aa hv.B7;clear iV;clear hv;have Gq:=aa (ae aE.out);have Bi:=aa (ae aJ.out);obtain⟨x4,ka,ea,Lh,hba,hka,gm⟩:=aM x3 #[.int .i64 xM,.bool xE,.slice wX wZ xC,.bool vg,.slice wN rE uQ] 41
  replace aE:=aS hba.out aE;replace aJ:=aS hba.out aJ;replace HE:=aa (HE.out.below hba.out);replace HW:=aa (HW.out.trans (hba.out.mono HW.out.size));replace mw:=aa (mw.out.below hba.out);replace jd:=aa (jd.out.below hba.out);replace mQ:=aa (mQ.out.below hba.out);have Fh:=aa (ae gm.out);have zU:=aa hba.out.size;go_upto_region 25 with fail;obtain⟨x5,kz,ez,xO,hbz,pK,jW⟩:=aM x4 #[.int .i64 0,.bool false,.slice none 0 0,.bool false,.slice none 0 0] 41;replace aE:=aS hbz.out aE;replace aJ:=aS hbz.out aJ;replace gm:=aS hbz.out gm;replace HE:=aa (HE.out.below hbz.out);replace HW:=aa (HW.out.trans (hbz.out.mono HW.out.size));replace mw:=aa (mw.out.below hbz.out);replace jd:=aa (jd.out.below hbz.out)
  replace mQ:=aa (mQ.out.below hbz.out);rw[ez,xO];have Dz:Hid (w.heap.size<=kz):=aa (by have h1:=iS.out;have h2:=cN.out.size;have h3:=hba.out.size;have h4:=hka.out;have h5:=pK.out;have h6:=ae aJ.out;have h7:=bL.out.size;have h8:=hb.size;omega);obtain⟨⟨c0,c1,c2,c3,c4⟩,cA,cG,cF,cE,cC⟩:=ak aE.out;obtain⟨y0,y1,y2,y3,y4⟩:=jd.out;try simp only at y0 y1 y2 y3 y4
  go_wp2_with fail;refine (Bj.out _ _ env q S x5 mw.out HE.out IG.out IF.out LB.out xQ.out).mono ?_;rintro e x6 ⟨x,rfl,hv,hb⟩;clear c0 cA c1 cG c2 cF c3 cE c4 cC y0 y1 y2 y3 y4;replace aE:=aS hb aE;replace aJ:=aS hb aJ;replace gm:=aS hb gm;replace jW:=aS hb jW;replace HW:=aa (HW.out.trans (hb.mono HW.out.size));replace mQ:=aa (mQ.out.below hb);rw[zQ.out] at hv;obtain⟨zf,zM,yT,y8,zI,yR,yZ,yP,rfl⟩:=hv.shape;obtain⟨ye,rH⟩:∃ d,d=gU (.I Y):=⟨_,rfl⟩;rw[<-rH] at hv ⊢;have LJ:=aa hv.B7;clear rH;clear hv;obtain⟨⟨g0,g1,g2,g3,g4⟩,ni,nh,oH,oG,oF⟩:=ak jW.out;go_upto_region 27 with fail;clear g0 ni g1 nh g2 oH g3 oG g4 oF
  have fg:=bR (w:=x6) (k:=kz) (.int .i64 zf) (.bool zM) (.slice yT y8 zI) (.bool ye) (.slice yR yZ yP);have gV:=gZ jW.out (.int .i64 zf) (.bool zM) (.slice yT y8 zI) (.bool ye) (.slice yR yZ yP);have lZ:Fr 41 x6 _:=.aL fg (fun j hj=>by injection hj with hj;subst hj;exact⟨_,jW.out,fb⟩);obtain⟨W1,nN⟩:∃ q,q=((((x6.setCell ⟨kz,0,none⟩ (.int .i64 zf)).setCell ⟨kz,1,none⟩ (.bool zM)).setCell ⟨kz,2,none⟩ (.slice yT y8 zI)).setCell ⟨kz,3,none⟩ (.bool ye)).setCell ⟨kz,4,none⟩ (.slice yR yZ yP):=⟨_,rfl⟩;rw[<-nN] at fg gV lZ ⊢;clear nN;replace aE:=aa ((fg.block kf (ae aE.out) (fun e=>by injection e with e;have h1:=pK.out;have h2:=Gq.out;have h3:=zU.out;omega)).trans aE.out)
  replace aJ:=aa ((fg.block kr (ae aJ.out) (fun e=>by injection e with e;have h1:=pK.out;have h2:=Bi.out;have h3:=zU.out;omega)).trans aJ.out);replace gm:=aa ((fg.block ka (ae gm.out) (fun e=>by injection e with e;have h1:=pK.out;have h2:=Fh.out;have h3:=zU.out;omega)).trans gm.out);replace jW:=aa gV;replace HW:=aa (bA HW.out fg Dz.out);clear HX;clear HE;clear rJ;clear t_;clear mw;clear jd;replace mQ:=aa (mQ.out.fr lZ);replace LJ:=aa (LJ.out.fr lZ);clear fg gV lZ;obtain⟨⟨c0,c1,c2,c3,c4⟩,cA,cG,cF,cE,cC⟩:=ak aE.out;obtain⟨⟨m0,m1,m2,m3,m4⟩,i_,iZ,xy,xx,xw⟩:=ak gm.out;obtain⟨⟨n0,n1,n2,n3,n4⟩,fn0,xu,xq,xp,xn⟩:=ak jW.out;have hle:=QK X Y;go_wp2_with fail
  refine (yA _ _ X Y 600 600 W1 mQ.out.gi LJ.out.gi (by decide) (by decide)).mono ?_;rintro e x7 ⟨rfl,hb⟩;clear c0 cA c1 cG c2 cF c3 cE c4 cC m0 i_ m1 iZ m2 xy m3 xx m4 xw n0 fn0 n1 xu n2 xq n3 xp n4 xn;replace aJ:=aS hb aJ;replace HW:=aa (HW.out.trans (hb.mono HW.out.size));go_wp2_with fail;refine (iR _ x7).mono ?_;rintro e x8 ⟨v,rfl,hv,hb⟩;replace aJ:=aS hb aJ;replace HW:=aa (HW.out.trans (hb.mono HW.out.size));have r8:=hv.bool;subst r8;have HV:=aa hv;clear hv;obtain⟨⟨r0,r1,r2,r3,r4⟩,jx,jw,jP,jO,jN⟩:=ak aJ.out;go_wp2_with fail;obtain⟨s1,s2⟩:=gG HW.out aJ.out fb iS.out (.int .i64 1) (.bool false) (.slice none 0 0) (.bool (decide (X<=Y))) (.slice none 0 0);(try simp only[aK,aT])
  exact aD (v:=.agg #[.int .i64 1,.bool false,.slice none 0 0,.bool (decide (X<=Y)),.slice none 0 0]) (by simp[results,bN,go_sem,r0,r1,r2,r3,r4]) rfl ⟨_,rfl,VC.fr (show VC _ _ (ev (cR env) _) from by rw[jk.out];exact HV.out) (by decide) s1,s2⟩
 ·have HX:=aa hk;have HE:=aa he;have HW:=aa (ax w.heap.size w);have gJ:=aa iy;clear iy hkc hk hz he;have hh:eR ks=[0,0]\/eR ks=[2,2]:=by simpa [dP,bF] using hfit
  obtain⟨p,q,rfl⟩:∃ p q,ks=[p,q]:=by rcases hh with hh | hh<;>(obtain⟨p,q,rfl,-,-⟩:=nX hh;exact⟨p,q,rfl⟩)
  clear hh;have wF:=aa (iD.pC p (by simp));have wG:=aa (jT p (by simp));have zS:=aa (qq.out p (by simp));have IF:=aa (iD.pC q (by simp));have IG:=aa (jT q (by simp));have LB:=aa (qq.out q (by simp));obtain⟨X,hX⟩:∃ x,ev (cR env) p=x:=⟨_,rfl⟩;have mV:=aa hX;obtain⟨Y,hY⟩:∃ x,ev (cR env) q=x:=⟨_,rfl⟩;have zQ:=aa hY;have jk:Hid (ev (cR env) (.node 16 z nm [p,q])=.B (decide (X=Y))):=aa (by rw[ev,oW,oW,oW,hX,hY];rfl);have tM:Hid (rO (.B (decide (X=Y)))):=aa (by have h3:=hval;rw[jk.out] at h3;exact h3);have wE:Hid (rO (ev (cR env) p)):=aa (iD.pC p (by simp)).val;have LA:Hid (rO (ev (cR env) q)):=aa (iD.pC q (by simp)).val;have mj:kl=2:=gJ.out;subst mj
  clear iD jT hval hfit mT gJ qq hX hY;go_enter dA,cU;obtain⟨x1,kf,ef,jK,bL,jc,aE⟩:=aM w #[.int .i64 16,.bool b,.slice ao l c,.string nm,.slice ko 2 kc] 29;replace HX:=aa (HX.out.below bL.out);replace HE:=aa (HE.out.below bL.out);replace HW:=aa (HW.out.trans (bL.out.mono HW.out.size));obtain⟨x2,kr,er,pE,cN,iH,aJ⟩:=aM x1 #[.int .i64 0,.bool false,.slice none 0 0,.bool false,.slice none 0 0] 41;replace aE:=aS cN.out aE;replace HX:=aa (HX.out.below cN.out);replace HE:=aa (HE.out.below cN.out);replace HW:=aa (HW.out.trans (cN.out.mono HW.out.size));have iS:Hid (w.heap.size<=kr):=aa (ah bL.out.size iH.out);obtain⟨⟨c0,c1,c2,c3,c4⟩,cA,cG,cF,cE,cC⟩:=ak aE.out
  obtain⟨a,bp,op,lp,cp,xd,xe,xg,mh,⟨p0,p1,p2,p3,p4⟩,jV⟩:=HX.out.first;subst mh;obtain⟨wO,iE⟩:∃ x,x=p.op:=⟨_,rfl⟩;obtain⟨wY,iF⟩:∃ x,x=p.name:=⟨_,rfl⟩;rw[<-iE] at p0 jV;rw[<-iF] at p3 jV;have rJ:=aa jV;have t_:Hid (zZ x2 a wO bp op lp cp wY xd xe xg):=aa ⟨p0,p1,p2,p3,p4⟩;clear iE iF jV p0 p1 p2 p3 p4;obtain⟨a2,bq,oq,lq,cq,Hj,Hl,Ho,vW,⟨q0,q1,q2,q3,q4⟩,rj⟩:=HX.out.second;injection vW with Au;subst Au;obtain⟨G_,qh⟩:∃ x,x=q.op:=⟨_,rfl⟩;obtain⟨Hf,qj⟩:∃ x,x=q.name:=⟨_,rfl⟩;rw[<-qh] at q0 rj;rw[<-qj] at q3 rj;have mw:=aa rj;have jd:Hid (zZ x2 ⟨a.block,a.off+5,none⟩ G_ bq oq lq cq Hf Hj Hl Ho):=aa ⟨q0,q1,q2,q3,q4⟩;clear qh qj rj q0 q1 q2 q3 q4
  obtain⟨y0,y1,y2,y3,y4⟩:=t_.out;try simp only at y0 y1 y2 y3 y4
  go_wp2_with fail;refine (Bj.out _ _ env p S x2 rJ.out HE.out wG.out wF.out zS.out xQ.out).mono ?_;rintro e x3 ⟨x,rfl,hv,hb⟩;clear c0 cA c1 cG c2 cF c3 cE c4 cC y0 y1 y2 y3 y4;replace aE:=aS hb aE;replace aJ:=aS hb aJ;replace HE:=aa (HE.out.below hb);replace HW:=aa (HW.out.trans (hb.mono HW.out.size));replace mw:=aa (mw.out.below hb);replace jd:=aa (jd.out.below hb);rw[mV.out] at hv;have uD:=aa hv;obtain⟨xM,xE,wX,wZ,xC,wN,rE,uQ,rfl⟩:=hv.shape;obtain⟨vg,iV⟩:∃ d,d=gU X:=⟨_,rfl⟩;rw[<-iV] at hv ⊢;replace uD:=aa hv;clear iV;clear hv;have Gq:=aa (ae aE.out);have Bi:=aa (ae aJ.out)
  obtain⟨x4,ka,ea,Lh,hba,hka,gm⟩:=aM x3 #[.int .i64 xM,.bool xE,.slice wX wZ xC,.bool vg,.slice wN rE uQ] 41;replace aE:=aS hba.out aE;replace aJ:=aS hba.out aJ;replace HE:=aa (HE.out.below hba.out);replace HW:=aa (HW.out.trans (hba.out.mono HW.out.size));replace mw:=aa (mw.out.below hba.out);replace jd:=aa (jd.out.below hba.out);replace uD:=aa (uD.out.below hba.out);have Fh:=aa (ae gm.out);have zU:=aa hba.out.size;go_upto_region 25 with fail;obtain⟨x5,kz,ez,xO,hbz,pK,jW⟩:=aM x4 #[.int .i64 0,.bool false,.slice none 0 0,.bool false,.slice none 0 0] 41;replace aE:=aS hbz.out aE;replace aJ:=aS hbz.out aJ;replace gm:=aS hbz.out gm;replace HE:=aa (HE.out.below hbz.out)
  replace HW:=aa (HW.out.trans (hbz.out.mono HW.out.size));replace mw:=aa (mw.out.below hbz.out);replace jd:=aa (jd.out.below hbz.out);replace uD:=aa (uD.out.below hbz.out);rw[ez,xO];have Dz:Hid (w.heap.size<=kz):=aa (by have h1:=iS.out;have h2:=cN.out.size;have h3:=hba.out.size;have h4:=hka.out;have h5:=pK.out;have h6:=ae aJ.out;have h7:=bL.out.size;have h8:=hb.size;omega);obtain⟨⟨c0,c1,c2,c3,c4⟩,cA,cG,cF,cE,cC⟩:=ak aE.out;obtain⟨y0,y1,y2,y3,y4⟩:=jd.out;try simp only at y0 y1 y2 y3 y4
  go_wp2_with fail;refine (Bj.out _ _ env q S x5 mw.out HE.out IG.out IF.out LB.out xQ.out).mono ?_;rintro e x6 ⟨x,rfl,hv,hb⟩;clear c0 cA c1 cG c2 cF c3 cE c4 cC y0 y1 y2 y3 y4;replace aE:=aS hb aE;replace aJ:=aS hb aJ;replace gm:=aS hb gm;replace jW:=aS hb jW;replace HW:=aa (HW.out.trans (hb.mono HW.out.size));replace uD:=aa (uD.out.below hb);rw[zQ.out] at hv;have N_:=aa hv;obtain⟨zf,zM,yT,y8,zI,yR,yZ,yP,rfl⟩:=hv.shape;obtain⟨ye,rH⟩:∃ d,d=gU Y:=⟨_,rfl⟩;rw[<-rH] at hv ⊢;replace N_:=aa hv;clear rH;clear hv;obtain⟨⟨g0,g1,g2,g3,g4⟩,ni,nh,oH,oG,oF⟩:=ak jW.out;go_upto_region 27 with fail;clear g0 ni g1 nh g2 oH g3 oG g4 oF
  have fg:=bR (w:=x6) (k:=kz) (.int .i64 zf) (.bool zM) (.slice yT y8 zI) (.bool ye) (.slice yR yZ yP);have gV:=gZ jW.out (.int .i64 zf) (.bool zM) (.slice yT y8 zI) (.bool ye) (.slice yR yZ yP);have lZ:Fr 41 x6 _:=.aL fg (fun j hj=>by injection hj with hj;subst hj;exact⟨_,jW.out,fb⟩);obtain⟨W1,nN⟩:∃ q,q=((((x6.setCell ⟨kz,0,none⟩ (.int .i64 zf)).setCell ⟨kz,1,none⟩ (.bool zM)).setCell ⟨kz,2,none⟩ (.slice yT y8 zI)).setCell ⟨kz,3,none⟩ (.bool ye)).setCell ⟨kz,4,none⟩ (.slice yR yZ yP):=⟨_,rfl⟩;rw[<-nN] at fg gV lZ ⊢;clear nN;replace aE:=aa ((fg.block kf (ae aE.out) (fun e=>by injection e with e;have h1:=pK.out;have h2:=Gq.out;have h3:=zU.out;omega)).trans aE.out)
  replace aJ:=aa ((fg.block kr (ae aJ.out) (fun e=>by injection e with e;have h1:=pK.out;have h2:=Bi.out;have h3:=zU.out;omega)).trans aJ.out);replace gm:=aa ((fg.block ka (ae gm.out) (fun e=>by injection e with e;have h1:=pK.out;have h2:=Fh.out;have h3:=zU.out;omega)).trans gm.out);replace jW:=aa gV;replace HW:=aa (bA HW.out fg Dz.out);clear HX;clear HE;clear rJ;clear t_;clear mw;clear jd;replace uD:=aa (uD.out.fr (by decide) lZ);replace N_:=aa (N_.out.fr (by decide) lZ);clear fg gV lZ;obtain⟨⟨c0,c1,c2,c3,c4⟩,cA,cG,cF,cE,cC⟩:=ak aE.out;obtain⟨⟨m0,m1,m2,m3,m4⟩,i_,iZ,xy,xx,xw⟩:=ak gm.out;obtain⟨⟨n0,n1,n2,n3,n4⟩,fn0,xu,xq,xp,xn⟩:=ak jW.out;go_wp2_with fail
  refine (JB _ _ X Y W1 uD.out N_.out).mono ?_;rintro e x7 ⟨rfl,hb⟩;clear c0 cA c1 cG c2 cF c3 cE c4 cC m0 i_ m1 iZ m2 xy m3 xx m4 xw n0 fn0 n1 xu n2 xq n3 xp n4 xn;replace aJ:=aS hb aJ;replace HW:=aa (HW.out.trans (hb.mono HW.out.size));obtain⟨R,hR⟩:∃ R,R=decide (X=Y):=⟨_,rfl⟩;rw[<-hR];replace jk:Hid (ev (cR env) (.node 16 z nm [p,q])=.B R):=aa (by rw[jk.out,hR]);clear hR;go_wp2_with fail;refine (iR _ x7).mono ?_;rintro e x8 ⟨v,rfl,hv,hb⟩;replace aJ:=aS hb aJ;replace HW:=aa (HW.out.trans (hb.mono HW.out.size));have r8:=hv.bool;subst r8;have HV:=aa hv;clear hv;obtain⟨⟨r0,r1,r2,r3,r4⟩,jx,jw,jP,jO,jN⟩:=ak aJ.out;go_wp2_with fail
  obtain⟨s1,s2⟩:=gG HW.out aJ.out fb iS.out (.int .i64 1) (.bool false) (.slice none 0 0) (.bool (R)) (.slice none 0 0);(try simp only[aK,aT]);exact aD (v:=.agg #[.int .i64 1,.bool false,.slice none 0 0,.bool (R),.slice none 0 0]) (by simp[results,bN,go_sem,r0,r1,r2,r3,r4]) rfl ⟨_,rfl,VC.fr (show VC _ _ (ev (cR env) _) from by rw[jk.out];exact HV.out) (by decide) s1,s2⟩
 ·have HX:=aa hk;have HE:=aa he;have HW:=aa (ax w.heap.size w);have gJ:=aa iy;clear iy hkc hk hz he;obtain⟨p,rfl,hp⟩:=nY (ks:=ks) (s:=1) (by simpa [dP,bF] using hfit);have wF:=aa (iD.pC p (by simp));have wG:=aa (jT p (by simp));have zS:=aa (qq.out p (by simp));obtain⟨X,hX⟩:∃ x,ev (cR env) p=.B x:=⟨_,yd hp⟩;have mV:=aa hX;have jk:Hid (ev (cR env) (.node 17 z nm [p])=.B (!X)):=aa (by rw[ev,oW,oW,hX];rfl);have tM:Hid (rO (.B (!X))):=aa (by have h3:=hval;rw[jk.out] at h3;exact h3);have wE:Hid (rO (ev (cR env) p)):=aa (iD.pC p (by simp)).val;have mj:kl=1:=gJ.out;subst mj;clear iD jT hval hfit mT gJ qq hX hp;go_enter dA,cU
  obtain⟨x1,kf,ef,jK,bL,jc,aE⟩:=aM w #[.int .i64 17,.bool b,.slice ao l c,.string nm,.slice ko 1 kc] 29;replace HX:=aa (HX.out.below bL.out);replace HE:=aa (HE.out.below bL.out);replace HW:=aa (HW.out.trans (bL.out.mono HW.out.size));obtain⟨x2,kr,er,pE,cN,iH,aJ⟩:=aM x1 #[.int .i64 0,.bool false,.slice none 0 0,.bool false,.slice none 0 0] 41;replace aE:=aS cN.out aE;replace HX:=aa (HX.out.below cN.out);replace HE:=aa (HE.out.below cN.out);replace HW:=aa (HW.out.trans (cN.out.mono HW.out.size));have iS:Hid (w.heap.size<=kr):=aa (ah bL.out.size iH.out);obtain⟨⟨c0,c1,c2,c3,c4⟩,cA,cG,cF,cE,cC⟩:=ak aE.out;obtain⟨a,bp,op,lp,cp,xd,xe,xg,mh,⟨p0,p1,p2,p3,p4⟩,jV⟩:=HX.out.first;subst mh
  obtain⟨wO,iE⟩:∃ x,x=p.op:=⟨_,rfl⟩;obtain⟨wY,iF⟩:∃ x,x=p.name:=⟨_,rfl⟩;rw[<-iE] at p0 jV;rw[<-iF] at p3 jV;have rJ:=aa jV;have t_:Hid (zZ x2 a wO bp op lp cp wY xd xe xg):=aa ⟨p0,p1,p2,p3,p4⟩;clear iE iF jV p0 p1 p2 p3 p4;obtain⟨y0,y1,y2,y3,y4⟩:=t_.out;try simp only at y0 y1 y2 y3 y4
  go_wp2_with fail;refine (Bj.out _ _ env p S x2 rJ.out HE.out wG.out wF.out zS.out xQ.out).mono ?_;rintro e x3 ⟨x,rfl,hv,hb⟩;clear c0 cA c1 cG c2 cF c3 cE c4 cC y0 y1 y2 y3 y4;replace aE:=aS hb aE;replace aJ:=aS hb aJ;replace HW:=aa (HW.out.trans (hb.mono HW.out.size));rw[mV.out] at hv;obtain⟨xM,xE,wX,wZ,xC,wN,rE,uQ,rfl⟩:=hv.shape;obtain⟨vg,iV⟩:∃ d,d=gU (.B X):=⟨_,rfl⟩;rw[<-iV] at hv ⊢;have HDP:Hid (vg=X):=aa iV;clear iV;clear hv;obtain⟨x4,ka,ea,Lh,hba,hka,gm⟩:=aM x3 #[.int .i64 xM,.bool xE,.slice wX wZ xC,.bool vg,.slice wN rE uQ] 41;replace aE:=aS hba.out aE;replace aJ:=aS hba.out aJ;replace HW:=aa (HW.out.trans (hba.out.mono HW.out.size));go_upto_region 25 with fail
  obtain⟨x5,kz,ez,xO,hbz,pK,jW⟩:=aM x4 #[.int .i64 0,.bool false,.slice none 0 0,.bool false,.slice none 0 0] 41;replace aE:=aS hbz.out aE;replace aJ:=aS hbz.out aJ;replace gm:=aS hbz.out gm;replace HW:=aa (HW.out.trans (hbz.out.mono HW.out.size));rw[ez,xO];have Dz:Hid (w.heap.size<=kz):=aa (by have h1:=iS.out;have h2:=cN.out.size;have h3:=hba.out.size;have h4:=hka.out;have h5:=pK.out;have h6:=ae aJ.out;have h7:=bL.out.size;have h8:=hb.size;omega);obtain⟨⟨c0,c1,c2,c3,c4⟩,cA,cG,cF,cE,cC⟩:=ak aE.out;obtain⟨⟨m0,m1,m2,m3,m4⟩,i_,iZ,xy,xx,xw⟩:=ak gm.out;obtain⟨⟨n0,n1,n2,n3,n4⟩,fn0,xu,xq,xp,xn⟩:=ak jW.out;obtain rfl:=HDP.out;go_wp2_with fail;refine (iR _ x5).mono ?_;rintro e x6 ⟨v,rfl,hv,hb⟩
  clear c0 cA c1 cG c2 cF c3 cE c4 cC m0 i_ m1 iZ m2 xy m3 xx m4 xw n0 fn0 n1 xu n2 xq n3 xp n4 xn;replace aJ:=aS hb aJ;replace HW:=aa (HW.out.trans (hb.mono HW.out.size));have r8:=hv.bool;subst r8;have HV:=aa hv;clear hv;obtain⟨⟨r0,r1,r2,r3,r4⟩,jx,jw,jP,jO,jN⟩:=ak aJ.out;go_wp2_with fail;obtain⟨s1,s2⟩:=gG HW.out aJ.out fb iS.out (.int .i64 1) (.bool false) (.slice none 0 0) (.bool (!vg)) (.slice none 0 0);(try simp only[aK,aT]);exact aD (v:=.agg #[.int .i64 1,.bool false,.slice none 0 0,.bool (!vg),.slice none 0 0]) (by simp[results,bN,go_sem,r0,r1,r2,r3,r4]) rfl ⟨_,rfl,VC.fr (show VC _ _ (ev (cR env) _) from by rw[jk.out];exact HV.out) (by decide) s1,s2⟩
 ·have HX:=aa hk;have HE:=aa he;have HW:=aa (ax w.heap.size w);have gJ:=aa iy;clear iy hkc hk hz he;have hall:∀ f ∈ ks,eI f.op=1:=by
   have h1:(eR ks).all (fun s=>decide (s=1))=true:=by simpa [dP,bF] using hfit
   intro f hf;have:=List.all_eq_true.1 h1 (eI f.op) (List.mem_map.2 ⟨f,hf,rfl⟩);simpa using this
  have Ob:=aa iD;have Od:=aa jT;have jk:Hid (ev (cR env) (.node 18 z nm ks)=.B (decide (((ks.countP (fun f=>gU (ev (cR env) f)):Nat):Int)=((kl:Nat):Int)))):=aa (by rw[ev,ya,gJ.out];exact congrArg V.B (Iv (ev (cR env)) ks));clear iD jT hval hfit mT hall;go_enter dA,cU;obtain⟨x1,kf,ef,jK,bL,jc,aE⟩:=aM w #[.int .i64 18,.bool b,.slice ao l c,.string nm,.slice ko kl kc] 29;replace HX:=aa (HX.out.below bL.out);replace HE:=aa (HE.out.below bL.out);replace HW:=aa (HW.out.trans (bL.out.mono HW.out.size));obtain⟨x2,kr,er,pE,cN,iH,aJ⟩:=aM x1 #[.int .i64 0,.bool false,.slice none 0 0,.bool false,.slice none 0 0] 41;replace aE:=aS cN.out aE;replace HX:=aa (HX.out.below cN.out)
  replace HE:=aa (HE.out.below cN.out);replace HW:=aa (HW.out.trans (cN.out.mono HW.out.size));have iS:Hid (w.heap.size<=kr):=aa (ah bL.out.size iH.out);obtain⟨⟨c0,c1,c2,c3,c4⟩,cA,cG,cF,cE,cC⟩:=ak aE.out;go_wp2_with fail;clear c0 cA c1 cG c2 cF c3 cE c4 cC;go_loopw [5,44] (fun n i wr=>∃ j c:Nat,n=.int .i64 (c:Nat)/\i=.int .i64 (j:Nat)/\j<=kl/\c<=j/\Hid ((ks.take j).countP (fun f=>gU (ev (cR env) f))=c)/\Hid (Below x2.heap.size x2 wr)) (fun _ i _=>kl - (intOf i).toNat)
  case atStart=>exact⟨0,0,rfl,rfl,au _,ai _,aa (by rw[List.take_zero];rfl),aa (ax _ _)⟩
  case round =>
   obtain⟨wl,Hv⟩:∃ q,q=wr:=⟨_,rfl⟩;subst Hv;obtain⟨j,c9,rfl,rfl,hj,hcj,HC,HB⟩:=hrel;replace HX:=aa (HX.out.below HB.out);replace HE:=aa (HE.out.below HB.out);replace HW:=aa (HW.out.trans (HB.out.mono HW.out.size));replace aE:=aa ((HB.out.block _ (ae aE.out)).trans aE.out);replace aJ:=aa ((HB.out.block _ (ae aJ.out)).trans aJ.out);by_cases hlt:j<kl
   ·have rF:j<ks.length:=by rw[<-gJ.out];exact hlt
    have LH:=aa rF;obtain⟨a,bb,qo,ql,qc,po,pl,pc,rfl,⟨c0,c1,c2,c3,c4⟩,hf⟩:=HX.out.cells j rF;obtain⟨x,vA⟩:∃ x,x=(ks[j]'rF).op:=⟨_,rfl⟩;obtain⟨ym,hnm⟩:∃ x,x=(ks[j]'rF).name:=⟨_,rfl⟩;rw[<-vA] at c0 hf;rw[<-hnm] at c3 hf;have vt:=aa hf;clear vA hnm hf;have hmem:(ks[j]'rF) ∈ ks:=ct rF;have HM:=aa hmem;obtain⟨kk,hkk⟩:∃ y,y=(ks[j]'rF):=⟨_,rfl⟩;rw[<-hkk] at vt HM;have Oj:Hid (kk=ks[j]'LH.out):=aa hkk;clear hkk hmem rF;obtain⟨x3,k7,e7,XX,x_,Xc,AB⟩:=aM wl #[.int .i64 x,.bool bb,.slice qo ql qc,.string ym,.slice po pl pc] 29;replace HE:=aa (HE.out.below x_.out);replace HB:=aa (HB.out.trans (x_.out.mono HB.out.size));replace vt:=aa (vt.out.below x_.out)
    obtain⟨⟨g0,g1,g2,g3,g4⟩,ni,nh,oH,oG,oF⟩:=ak AB.out;go_wp2_with fail;refine (Bj.out _ _ env kk S x3 vt.out HE.out (Od.out kk HM.out) (Ob.out.pC kk HM.out) (qq.out kk HM.out) xQ.out).mono ?_;rintro e x4 ⟨v,rfl,hv,hb⟩;clear g0 ni g1 nh g2 oH g3 oG g4 oF;replace HB:=aa (HB.out.trans (hb.mono HB.out.size));obtain⟨kv,bv,ov,lv,cv,pv,mv,qv,rfl⟩:=hv.shape;clear hv;obtain⟨B,hB⟩:∃ B,B=gU (ev (cR env) kk):=⟨_,rfl⟩;rw[<-hB];have fW:=aa hB;clear hB;cases B
    ·have Oi:=aa (qS (fun f=>gU (ev (cR env) f)) ks j LH.out);go_wp2_with fail;go_roundw
     case rel=>exact⟨j+1,c9,by go_num,by go_num,hlt,by omega,aa (by rw[Oi.out,HC.out,<-Oj.out,<-fW.out];rfl),HB⟩
     case measure=>simp[intOf];omega
    have Oi:=aa (qS (fun f=>gU (ev (cR env) f)) ks j LH.out);go_wp2_with fail;go_roundw
    case rel=>exact⟨j+1,c9+1,by go_num,by go_num,hlt,by omega,aa (by rw[Oi.out,HC.out,<-Oj.out,<-fW.out];rfl),HB⟩
    case measure=>simp[intOf];omega
   have DJ:j=kl:=by omega
   subst DJ;have tj:c9=ks.countP (fun f=>gU (ev (cR env) f)):=by rw[<-HC.out,gJ.out,bK]
   replace jk:Hid (ev (cR env) (.node 18 z nm ks)=.B (decide (((c9:Nat):Int)=((j:Nat):Int)))):=aa (by rw[jk.out,tj]);clear tj hlt;obtain⟨⟨c0,c1,c2,c3,c4⟩,cA,cG,cF,cE,cC⟩:=ak aE.out;obtain⟨R,hR⟩:∃ R,R=decide (((c9:Nat):Int)=((j:Nat):Int)):=⟨_,rfl⟩;rw[<-hR] at jk;cases R
   ·have Qk:(((c9:Nat):Int)==((j:Nat):Int))=false:=by have:=decide_eq_false_iff_not.1 hR.symm;exact beq_eq_false_iff_ne.2 this
    clear hR HC;go_wp2_with fail;refine (iR _ wl).mono ?_;rintro e x3 ⟨v,rfl,hv,hb⟩;clear c0 cA c1 cG c2 cF c3 cE c4 cC;replace aJ:=aS hb aJ;replace HW:=aa (HW.out.trans (hb.mono HW.out.size));have r8:=hv.bool;subst r8;have HV:=aa hv;clear hv;obtain⟨⟨r0,r1,r2,r3,r4⟩,jx,jw,jP,jO,jN⟩:=ak aJ.out;go_wp2_with fail;obtain⟨s1,s2⟩:=gG HW.out aJ.out fb iS.out (.int .i64 1) (.bool false) (.slice none 0 0) (.bool (false)) (.slice none 0 0);(try simp only[aK,aT]);exact aD (v:=.agg #[.int .i64 1,.bool false,.slice none 0 0,.bool (false),.slice none 0 0]) (by simp[results,bN,go_sem,r0,r1,r2,r3,r4]) rfl ⟨_,rfl,VC.fr (show VC _ _ (ev (cR env) _) from by rw[jk.out];exact HV.out) (by decide) s1,s2⟩
   have Qk:(((c9:Nat):Int)==((j:Nat):Int))=true:=by have:=decide_eq_true_iff.1 hR.symm;exact beq_iff_eq.2 this
   clear hR HC;go_wp2_with fail;refine (iR _ wl).mono ?_;rintro e x3 ⟨v,rfl,hv,hb⟩;clear c0 cA c1 cG c2 cF c3 cE c4 cC;replace aJ:=aS hb aJ;replace HW:=aa (HW.out.trans (hb.mono HW.out.size));have r8:=hv.bool;subst r8;have HV:=aa hv;clear hv;obtain⟨⟨r0,r1,r2,r3,r4⟩,jx,jw,jP,jO,jN⟩:=ak aJ.out;go_wp2_with fail;obtain⟨s1,s2⟩:=gG HW.out aJ.out fb iS.out (.int .i64 1) (.bool false) (.slice none 0 0) (.bool (true)) (.slice none 0 0);(try simp only[aK,aT]);exact aD (v:=.agg #[.int .i64 1,.bool false,.slice none 0 0,.bool (true),.slice none 0 0]) (by simp[results,bN,go_sem,r0,r1,r2,r3,r4]) rfl ⟨_,rfl,VC.fr (show VC _ _ (ev (cR env) _) from by rw[jk.out];exact HV.out) (by decide) s1,s2⟩
 ·have HX:=aa hk;have HE:=aa he;have HW:=aa (ax w.heap.size w);have gJ:=aa iy;clear iy hkc hk hz he;have hall:∀ f ∈ ks,eI f.op=1:=by
   have h1:(eR ks).all (fun s=>decide (s=1))=true:=by simpa [dP,bF] using hfit
   intro f hf;have:=List.all_eq_true.1 h1 (eI f.op) (List.mem_map.2 ⟨f,hf,rfl⟩);simpa using this
  have Ob:=aa iD;have Od:=aa jT;have jk:Hid (ev (cR env) (.node 19 z nm ks)=.B (decide ((0:Int)<((ks.countP (fun f=>gU (ev (cR env) f)):Nat):Int)))):=aa (by rw[ev,ya];exact congrArg V.B (Iu (ev (cR env)) ks));clear iD jT hval hfit mT hall;go_enter dA,cU;obtain⟨x1,kf,ef,jK,bL,jc,aE⟩:=aM w #[.int .i64 19,.bool b,.slice ao l c,.string nm,.slice ko kl kc] 29;replace HX:=aa (HX.out.below bL.out);replace HE:=aa (HE.out.below bL.out);replace HW:=aa (HW.out.trans (bL.out.mono HW.out.size));obtain⟨x2,kr,er,pE,cN,iH,aJ⟩:=aM x1 #[.int .i64 0,.bool false,.slice none 0 0,.bool false,.slice none 0 0] 41;replace aE:=aS cN.out aE;replace HX:=aa (HX.out.below cN.out);replace HE:=aa (HE.out.below cN.out)
  replace HW:=aa (HW.out.trans (cN.out.mono HW.out.size));have iS:Hid (w.heap.size<=kr):=aa (ah bL.out.size iH.out);obtain⟨⟨c0,c1,c2,c3,c4⟩,cA,cG,cF,cE,cC⟩:=ak aE.out;go_wp2_with fail;clear c0 cA c1 cG c2 cF c3 cE c4 cC;go_loopw [5,44] (fun n i wr=>∃ j c:Nat,n=.int .i64 (c:Nat)/\i=.int .i64 (j:Nat)/\j<=kl/\c<=j/\Hid ((ks.take j).countP (fun f=>gU (ev (cR env) f))=c)/\Hid (Below x2.heap.size x2 wr)) (fun _ i _=>kl - (intOf i).toNat)
  case atStart=>exact⟨0,0,rfl,rfl,au _,ai _,aa (by rw[List.take_zero];rfl),aa (ax _ _)⟩
  case round =>
   obtain⟨wl,Hv⟩:∃ q,q=wr:=⟨_,rfl⟩;subst Hv;obtain⟨j,c9,rfl,rfl,hj,hcj,HC,HB⟩:=hrel;replace HX:=aa (HX.out.below HB.out);replace HE:=aa (HE.out.below HB.out);replace HW:=aa (HW.out.trans (HB.out.mono HW.out.size));replace aE:=aa ((HB.out.block _ (ae aE.out)).trans aE.out);replace aJ:=aa ((HB.out.block _ (ae aJ.out)).trans aJ.out);by_cases hlt:j<kl
   ·have rF:j<ks.length:=by rw[<-gJ.out];exact hlt
    have LH:=aa rF;obtain⟨a,bb,qo,ql,qc,po,pl,pc,rfl,⟨c0,c1,c2,c3,c4⟩,hf⟩:=HX.out.cells j rF;obtain⟨x,vA⟩:∃ x,x=(ks[j]'rF).op:=⟨_,rfl⟩;obtain⟨ym,hnm⟩:∃ x,x=(ks[j]'rF).name:=⟨_,rfl⟩;rw[<-vA] at c0 hf;rw[<-hnm] at c3 hf;have vt:=aa hf;clear vA hnm hf;have hmem:(ks[j]'rF) ∈ ks:=ct rF;have HM:=aa hmem;obtain⟨kk,hkk⟩:∃ y,y=(ks[j]'rF):=⟨_,rfl⟩;rw[<-hkk] at vt HM;have Oj:Hid (kk=ks[j]'LH.out):=aa hkk;clear hkk hmem rF;obtain⟨x3,k7,e7,XX,x_,Xc,AB⟩:=aM wl #[.int .i64 x,.bool bb,.slice qo ql qc,.string ym,.slice po pl pc] 29;replace HE:=aa (HE.out.below x_.out);replace HB:=aa (HB.out.trans (x_.out.mono HB.out.size));replace vt:=aa (vt.out.below x_.out)
    obtain⟨⟨g0,g1,g2,g3,g4⟩,ni,nh,oH,oG,oF⟩:=ak AB.out;go_wp2_with fail;refine (Bj.out _ _ env kk S x3 vt.out HE.out (Od.out kk HM.out) (Ob.out.pC kk HM.out) (qq.out kk HM.out) xQ.out).mono ?_;rintro e x4 ⟨v,rfl,hv,hb⟩;clear g0 ni g1 nh g2 oH g3 oG g4 oF;replace HB:=aa (HB.out.trans (hb.mono HB.out.size));obtain⟨kv,bv,ov,lv,cv,pv,mv,qv,rfl⟩:=hv.shape;clear hv;obtain⟨B,hB⟩:∃ B,B=gU (ev (cR env) kk):=⟨_,rfl⟩;rw[<-hB];have fW:=aa hB;clear hB;cases B
    ·have Oi:=aa (qS (fun f=>gU (ev (cR env) f)) ks j LH.out);go_wp2_with fail;go_roundw
     case rel=>exact⟨j+1,c9,by go_num,by go_num,hlt,by omega,aa (by rw[Oi.out,HC.out,<-Oj.out,<-fW.out];rfl),HB⟩
     case measure=>simp[intOf];omega
    have Oi:=aa (qS (fun f=>gU (ev (cR env) f)) ks j LH.out);go_wp2_with fail;go_roundw
    case rel=>exact⟨j+1,c9+1,by go_num,by go_num,hlt,by omega,aa (by rw[Oi.out,HC.out,<-Oj.out,<-fW.out];rfl),HB⟩
    case measure=>simp[intOf];omega
   have DJ:j=kl:=by omega
   subst DJ;have tj:c9=ks.countP (fun f=>gU (ev (cR env) f)):=by rw[<-HC.out,gJ.out,bK]
   replace jk:Hid (ev (cR env) (.node 19 z nm ks)=.B (decide ((0:Int)<((c9:Nat):Int)))):=aa (by rw[jk.out,tj]);clear tj hlt;obtain⟨⟨c0,c1,c2,c3,c4⟩,cA,cG,cF,cE,cC⟩:=ak aE.out;obtain⟨R,hR⟩:∃ R,R=decide ((0:Int)<((c9:Nat):Int)):=⟨_,rfl⟩;rw[<-hR] at jk;cases R
   ·have Qk:decide (0<c9)=false:=by rw[hR];exact decide_eq_decide.2 (by omega)
    clear hR HC;go_wp2_with fail;refine (iR _ wl).mono ?_;rintro e x3 ⟨v,rfl,hv,hb⟩;clear c0 cA c1 cG c2 cF c3 cE c4 cC;replace aJ:=aS hb aJ;replace HW:=aa (HW.out.trans (hb.mono HW.out.size));have r8:=hv.bool;subst r8;have HV:=aa hv;clear hv;obtain⟨⟨r0,r1,r2,r3,r4⟩,jx,jw,jP,jO,jN⟩:=ak aJ.out;go_wp2_with fail;obtain⟨s1,s2⟩:=gG HW.out aJ.out fb iS.out (.int .i64 1) (.bool false) (.slice none 0 0) (.bool (false)) (.slice none 0 0);(try simp only[aK,aT]);exact aD (v:=.agg #[.int .i64 1,.bool false,.slice none 0 0,.bool (false),.slice none 0 0]) (by simp[results,bN,go_sem,r0,r1,r2,r3,r4]) rfl ⟨_,rfl,VC.fr (show VC _ _ (ev (cR env) _) from by rw[jk.out];exact HV.out) (by decide) s1,s2⟩
   have Qk:decide (0<c9)=true:=by rw[hR];exact decide_eq_decide.2 (by omega)
   clear hR HC;go_wp2_with fail;refine (iR _ wl).mono ?_;rintro e x3 ⟨v,rfl,hv,hb⟩;clear c0 cA c1 cG c2 cF c3 cE c4 cC;replace aJ:=aS hb aJ;replace HW:=aa (HW.out.trans (hb.mono HW.out.size));have r8:=hv.bool;subst r8;have HV:=aa hv;clear hv;obtain⟨⟨r0,r1,r2,r3,r4⟩,jx,jw,jP,jO,jN⟩:=ak aJ.out;go_wp2_with fail;obtain⟨s1,s2⟩:=gG HW.out aJ.out fb iS.out (.int .i64 1) (.bool false) (.slice none 0 0) (.bool (true)) (.slice none 0 0);(try simp only[aK,aT]);exact aD (v:=.agg #[.int .i64 1,.bool false,.slice none 0 0,.bool (true),.slice none 0 0]) (by simp[results,bN,go_sem,r0,r1,r2,r3,r4]) rfl ⟨_,rfl,VC.fr (show VC _ _ (ev (cR env) _) from by rw[jk.out];exact HV.out) (by decide) s1,s2⟩
 have HX:=aa hk;have HE:=aa he;have HW:=aa (ax w.heap.size w);have gJ:=aa iy;clear iy hkc hk hz he;obtain⟨p,q,rfl,hp,hq⟩:=nX (ks:=ks) (s:=1) (r:=1) (by simpa [dP,bF] using hfit);have wF:=aa (iD.pC p (by simp));have wG:=aa (jT p (by simp));have zS:=aa (qq.out p (by simp));have IF:=aa (iD.pC q (by simp));have IG:=aa (jT q (by simp));have LB:=aa (qq.out q (by simp));obtain⟨X,hX⟩:∃ x,ev (cR env) p=.B x:=⟨_,yd hp⟩;have mV:=aa hX;obtain⟨Y,hY⟩:∃ x,ev (cR env) q=.B x:=⟨_,yd hq⟩;have zQ:=aa hY;have jk:Hid (ev (cR env) (.node 20 z nm [p,q])=.B (X==Y)):=aa (by rw[ev,oW,oW,oW,hX,hY];rfl);have tM:Hid (rO (.B (X==Y))):=aa (by have h3:=hval;rw[jk.out] at h3;exact h3)
 have wE:Hid (rO (ev (cR env) p)):=aa (iD.pC p (by simp)).val;have LA:Hid (rO (ev (cR env) q)):=aa (iD.pC q (by simp)).val;have mj:kl=2:=gJ.out;subst mj;clear iD jT hval hfit mT gJ qq hX hY hp hq;go_enter dA,cU;obtain⟨x1,kf,ef,jK,bL,jc,aE⟩:=aM w #[.int .i64 20,.bool b,.slice ao l c,.string nm,.slice ko 2 kc] 29;replace HX:=aa (HX.out.below bL.out);replace HE:=aa (HE.out.below bL.out);replace HW:=aa (HW.out.trans (bL.out.mono HW.out.size));obtain⟨x2,kr,er,pE,cN,iH,aJ⟩:=aM x1 #[.int .i64 0,.bool false,.slice none 0 0,.bool false,.slice none 0 0] 41;replace aE:=aS cN.out aE;replace HX:=aa (HX.out.below cN.out);replace HE:=aa (HE.out.below cN.out);replace HW:=aa (HW.out.trans (cN.out.mono HW.out.size))
 have iS:Hid (w.heap.size<=kr):=aa (ah bL.out.size iH.out);obtain⟨⟨c0,c1,c2,c3,c4⟩,cA,cG,cF,cE,cC⟩:=ak aE.out;obtain⟨a,bp,op,lp,cp,xd,xe,xg,mh,⟨p0,p1,p2,p3,p4⟩,jV⟩:=HX.out.first;subst mh;obtain⟨wO,iE⟩:∃ x,x=p.op:=⟨_,rfl⟩;obtain⟨wY,iF⟩:∃ x,x=p.name:=⟨_,rfl⟩;rw[<-iE] at p0 jV;rw[<-iF] at p3 jV;have rJ:=aa jV;have t_:Hid (zZ x2 a wO bp op lp cp wY xd xe xg):=aa ⟨p0,p1,p2,p3,p4⟩;clear iE iF jV p0 p1 p2 p3 p4;obtain⟨a2,bq,oq,lq,cq,Hj,Hl,Ho,vW,⟨q0,q1,q2,q3,q4⟩,rj⟩:=HX.out.second;injection vW with Au;subst Au;obtain⟨G_,qh⟩:∃ x,x=q.op:=⟨_,rfl⟩;obtain⟨Hf,qj⟩:∃ x,x=q.name:=⟨_,rfl⟩;rw[<-qh] at q0 rj;rw[<-qj] at q3 rj;have mw:=aa rj
 have jd:Hid (zZ x2 ⟨a.block,a.off+5,none⟩ G_ bq oq lq cq Hf Hj Hl Ho):=aa ⟨q0,q1,q2,q3,q4⟩;clear qh qj rj q0 q1 q2 q3 q4;obtain⟨y0,y1,y2,y3,y4⟩:=t_.out;try simp only at y0 y1 y2 y3 y4
 go_wp2_with fail;refine (Bj.out _ _ env p S x2 rJ.out HE.out wG.out wF.out zS.out xQ.out).mono ?_;rintro e x3 ⟨x,rfl,hv,hb⟩;clear c0 cA c1 cG c2 cF c3 cE c4 cC y0 y1 y2 y3 y4;replace aE:=aS hb aE;replace aJ:=aS hb aJ;replace HE:=aa (HE.out.below hb);replace HW:=aa (HW.out.trans (hb.mono HW.out.size));replace mw:=aa (mw.out.below hb);replace jd:=aa (jd.out.below hb);rw[mV.out] at hv;have uD:=aa hv;obtain⟨xM,xE,wX,wZ,xC,wN,rE,uQ,rfl⟩:=hv.shape;obtain⟨vg,iV⟩:∃ d,d=gU (.B X):=⟨_,rfl⟩;rw[<-iV] at hv ⊢;replace uD:=aa hv;have HDP:Hid (vg=X):=aa iV;clear iV;clear hv;have Gq:=aa (ae aE.out);have Bi:=aa (ae aJ.out)
 obtain⟨x4,ka,ea,Lh,hba,hka,gm⟩:=aM x3 #[.int .i64 xM,.bool xE,.slice wX wZ xC,.bool vg,.slice wN rE uQ] 41;replace aE:=aS hba.out aE;replace aJ:=aS hba.out aJ;replace HE:=aa (HE.out.below hba.out);replace HW:=aa (HW.out.trans (hba.out.mono HW.out.size));replace mw:=aa (mw.out.below hba.out);replace jd:=aa (jd.out.below hba.out);replace uD:=aa (uD.out.below hba.out);have Fh:=aa (ae gm.out);have zU:=aa hba.out.size;go_upto_region 25 with fail;obtain⟨x5,kz,ez,xO,hbz,pK,jW⟩:=aM x4 #[.int .i64 0,.bool false,.slice none 0 0,.bool false,.slice none 0 0] 41;replace aE:=aS hbz.out aE;replace aJ:=aS hbz.out aJ;replace gm:=aS hbz.out gm;replace HE:=aa (HE.out.below hbz.out)
 replace HW:=aa (HW.out.trans (hbz.out.mono HW.out.size));replace mw:=aa (mw.out.below hbz.out);replace jd:=aa (jd.out.below hbz.out);replace uD:=aa (uD.out.below hbz.out);rw[ez,xO];have Dz:Hid (w.heap.size<=kz):=aa (by have h1:=iS.out;have h2:=cN.out.size;have h3:=hba.out.size;have h4:=hka.out;have h5:=pK.out;have h6:=ae aJ.out;have h7:=bL.out.size;have h8:=hb.size;omega);obtain⟨⟨c0,c1,c2,c3,c4⟩,cA,cG,cF,cE,cC⟩:=ak aE.out;obtain⟨y0,y1,y2,y3,y4⟩:=jd.out;try simp only at y0 y1 y2 y3 y4
 go_wp2_with fail;refine (Bj.out _ _ env q S x5 mw.out HE.out IG.out IF.out LB.out xQ.out).mono ?_;rintro e x6 ⟨x,rfl,hv,hb⟩;clear c0 cA c1 cG c2 cF c3 cE c4 cC y0 y1 y2 y3 y4;replace aE:=aS hb aE;replace aJ:=aS hb aJ;replace gm:=aS hb gm;replace jW:=aS hb jW;replace HW:=aa (HW.out.trans (hb.mono HW.out.size));replace uD:=aa (uD.out.below hb);rw[zQ.out] at hv;have N_:=aa hv;obtain⟨zf,zM,yT,y8,zI,yR,yZ,yP,rfl⟩:=hv.shape;obtain⟨ye,rH⟩:∃ d,d=gU (.B Y):=⟨_,rfl⟩;rw[<-rH] at hv ⊢;replace N_:=aa hv;have HDQ:Hid (ye=Y):=aa rH;clear rH;clear hv;obtain⟨⟨g0,g1,g2,g3,g4⟩,ni,nh,oH,oG,oF⟩:=ak jW.out;go_upto_region 27 with fail;clear g0 ni g1 nh g2 oH g3 oG g4 oF
 have fg:=bR (w:=x6) (k:=kz) (.int .i64 zf) (.bool zM) (.slice yT y8 zI) (.bool ye) (.slice yR yZ yP);have gV:=gZ jW.out (.int .i64 zf) (.bool zM) (.slice yT y8 zI) (.bool ye) (.slice yR yZ yP);have lZ:Fr 41 x6 _:=.aL fg (fun j hj=>by injection hj with hj;subst hj;exact⟨_,jW.out,fb⟩);obtain⟨W1,nN⟩:∃ q,q=((((x6.setCell ⟨kz,0,none⟩ (.int .i64 zf)).setCell ⟨kz,1,none⟩ (.bool zM)).setCell ⟨kz,2,none⟩ (.slice yT y8 zI)).setCell ⟨kz,3,none⟩ (.bool ye)).setCell ⟨kz,4,none⟩ (.slice yR yZ yP):=⟨_,rfl⟩;rw[<-nN] at fg gV lZ ⊢;clear nN;replace aE:=aa ((fg.block kf (ae aE.out) (fun e=>by injection e with e;have h1:=pK.out;have h2:=Gq.out;have h3:=zU.out;omega)).trans aE.out)
 replace aJ:=aa ((fg.block kr (ae aJ.out) (fun e=>by injection e with e;have h1:=pK.out;have h2:=Bi.out;have h3:=zU.out;omega)).trans aJ.out);replace gm:=aa ((fg.block ka (ae gm.out) (fun e=>by injection e with e;have h1:=pK.out;have h2:=Fh.out;have h3:=zU.out;omega)).trans gm.out);replace jW:=aa gV;replace HW:=aa (bA HW.out fg Dz.out);clear HX;clear HE;clear rJ;clear t_;clear mw;clear jd;replace uD:=aa (uD.out.fr (by decide) lZ);replace N_:=aa (N_.out.fr (by decide) lZ);clear fg gV lZ;obtain⟨⟨c0,c1,c2,c3,c4⟩,cA,cG,cF,cE,cC⟩:=ak aE.out;obtain⟨⟨m0,m1,m2,m3,m4⟩,i_,iZ,xy,xx,xw⟩:=ak gm.out;obtain⟨⟨n0,n1,n2,n3,n4⟩,fn0,xu,xq,xp,xn⟩:=ak jW.out;go_wp2_with fail
 refine (JB _ _ (.B X) (.B Y) W1 uD.out N_.out).mono ?_;rintro e x7 ⟨rfl,hb⟩;clear c0 cA c1 cG c2 cF c3 cE c4 cC m0 i_ m1 iZ m2 xy m3 xx m4 xw n0 fn0 n1 xu n2 xq n3 xp n4 xn;replace aJ:=aS hb aJ;replace HW:=aa (HW.out.trans (hb.mono HW.out.size));obtain⟨R,hR⟩:∃ R,R=decide (V.B X=V.B Y):=⟨_,rfl⟩;rw[<-hR];replace jk:Hid (ev (cR env) (.node 20 z nm [p,q])=.B R):=aa (by rw[jk.out,hR,<-GV]);clear hR;go_wp2_with fail;refine (iR _ x7).mono ?_;rintro e x8 ⟨v,rfl,hv,hb⟩;replace aJ:=aS hb aJ;replace HW:=aa (HW.out.trans (hb.mono HW.out.size));have r8:=hv.bool;subst r8;have HV:=aa hv;clear hv;obtain⟨⟨r0,r1,r2,r3,r4⟩,jx,jw,jP,jO,jN⟩:=ak aJ.out;go_wp2_with fail
 obtain⟨s1,s2⟩:=gG HW.out aJ.out fb iS.out (.int .i64 1) (.bool false) (.slice none 0 0) (.bool (R)) (.slice none 0 0);(try simp only[aK,aT]);exact aD (v:=.agg #[.int .i64 1,.bool false,.slice none 0 0,.bool (R),.slice none 0 0]) (by simp[results,bN,go_sem,r0,r1,r2,r3,r4]) rfl ⟨_,rfl,VC.fr (show VC _ _ (ev (cR env) _) from by rw[jk.out];exact HV.out) (by decide) s1,s2⟩
attribute [local go_sem] eF eE eC eB
theorem XV {env:List (ByteArray × V)} (h:zY 7 env):∃ z0 z1 z2 l0 l1 b0 b1,env=[(⟨#[105,48]⟩,.I z0),(⟨#[105,49]⟩,.I z1),(⟨#[105,50]⟩,.I z2),(⟨#[108,48]⟩,.L l0),(⟨#[108,49]⟩,.L l1),(⟨#[98,48]⟩,.B b0),(⟨#[98,49]⟩,.B b1)]/\∀ p ∈ env,TV p.2:=by
 obtain⟨h1,h2,h3⟩:=h;have hl:env.length=7:=by have:=congrArg List.length h1;simpa using this
 match env,hl with
 | [p0,p1,p2,p3,p4,p5,p6],_ =>
  have e1:[p0.1,p1.1,p2.1,p3.1,p4.1,p5.1,p6.1]=[uS 0,uS 1,uS 2,uS 3,uS 4,uS 5,uS 6]:=h1;have e2:[fQ p0.2,fQ p1.2,fQ p2.2,fQ p3.2,fQ p4.2,fQ p5.2,fQ p6.2]=[0,0,0,2,2,1,1]:=h2;simp only[rB,and_true] at e1 e2;obtain⟨n0,n1,n2,n3,n4,n5,n6⟩:=e1;obtain⟨s0,s1,s2,s3,s4,s5,s6⟩:=e2;obtain⟨a0,x0⟩:=p0;obtain⟨a1,x1⟩:=p1;obtain⟨a2,x2⟩:=p2;obtain⟨a3,x3⟩:=p3;obtain⟨a4,x4⟩:=p4;obtain⟨a5,x5⟩:=p5;obtain⟨a6,x6⟩:=p6;simp only at n0 n1 n2 n3 n4 n5 n6 s0 s1 s2 s3 s4 s5 s6;subst n0 n1 n2 n3 n4 n5 n6;have Wp:∀ {x:V},fQ x=0->∃ z,x=.I z:=fun {x} h=>by cases x with | I z=>exact⟨z,rfl⟩ | B b=>cases h | L l=>cases h
  have YX:∀ {x:V},fQ x=2->∃ z,x=.L z:=fun {x} h=>by cases x with | I z=>cases h | B b=>cases h | L l=>exact⟨l,rfl⟩
  have YY:∀ {x:V},fQ x=1->∃ z,x=.B z:=fun {x} h=>by cases x with | I z=>cases h | B b=>exact⟨b,rfl⟩ | L l=>cases h
  obtain⟨z0,rfl⟩:=Wp s0;obtain⟨z1,rfl⟩:=Wp s1;obtain⟨z2,rfl⟩:=Wp s2;obtain⟨l0,rfl⟩:=YX s3;obtain⟨l1,rfl⟩:=YX s4;obtain⟨b0,rfl⟩:=YY s5;obtain⟨b1,rfl⟩:=YY s6;exact⟨z0,z1,z2,l0,l1,b0,b1,rfl,h3⟩
theorem Sg (j:Int) (nm:ByteArray) (h:j=0\/j=1\/j=2):rt (.node (mI j) 0 nm [])=true:=by rcases h with rfl | rfl | rfl<;>rfl
def eD:Nat->Nat
 | 0=>4
 | d+1=>2*eD d+4
theorem XZ:∀ d,4<=eD d
 | 0=>ai _
 | d+1=>by unfold eD;omega
def Bd (d:Nat):V->Prop
 | .I z=>z.natAbs<aG ^ eD d
 | .B _=>True
 | .L l=>l.length<=6+d/\∀ z ∈ l,z.natAbs<aG ^ eD d
theorem qW:0<aG:=by decide
theorem sM {a b:Nat} (h:a<=b):aG ^ a<=aG ^ b:=Nat.pow_le_pow_right qW h
theorem Bd.zero (d:Nat):Bd d (.I 0):=dj qW
theorem XS {o z:Int} {ss:List Int} (h:dP o z ss=true):o=5->1<=z:=by
 rintro rfl;simp[dP] at h;exact h.2
theorem FY {P:V->Prop} {nm:ByteArray}:∀ (l:List (ByteArray × V)) (a:V),P a->(∀ p ∈ l,P p.2)->P (l.foldl (fun a p=>if p.1=nm then p.2 else a) a)
 | [],a,ha,_=>ha
 | q::l,a,ha,h=>by
  rw[List.foldl_cons];refine FY l _ ?_ (fun p hp=>h p (by simp[hp]))
  split
  ·exact h q (by simp)
  exact ha
theorem PE {env:List (ByteArray × V)} (h:∀ p ∈ env,TV p.2) (nm:ByteArray):Bd 0 (cR env nm):=by
 refine FY env _ (Bd.zero 0) (fun p hp=>?_);have:=h p hp;cases hx:p.2 with
 | I z=>rw[hx] at this;exact this
 | B b=>trivial
 | L l=>rw[hx] at this;exact⟨by have:=this.1;omega,this.2⟩
theorem QH {env:List (ByteArray × V)} (h:zY 7 env):NSr (cR env):=by
 obtain⟨z0,z1,z2,l0,l1,b0,b1,rfl,-⟩:=XV h;intro o nm ho hn;rcases ho with rfl | rfl | rfl
 ·rcases (show nm=_\/nm=_\/nm=_ from hn) with rfl | rfl | rfl<;>simp[cR,fQ,eI]
 ·rcases (show nm=_\/nm=_ from hn) with rfl | rfl<;>simp[cR,fQ,eI]
 rcases (show nm=_\/nm=_ from hn) with rfl | rfl<;>simp[cR,fQ,eI]
theorem AF:∀ d:Nat,QY d
 | 0=>by
  intro ve v env t S w h;obtain⟨_,_,_,_,_,_,_,_,_,h0,_⟩:=h.open
  omega
 | d+1=>DX d (AF d)
def BE (e n:Nat):V->Prop
 | .I z=>z.natAbs<aG ^ e
 | .B _=>True
 | .L l=>l.length<=n/\∀ z ∈ l,z.natAbs<aG ^ e
theorem BE.iq {e n:Nat} {v:V} (h:BE e n v):(Go.Proofs.YtoncclhbdkjhmaaGreatDoor.iq v).natAbs<aG ^ e:=by
 cases v with
 | I z=>exact h
 | B b=>exact dj qW
 | L l=>exact dj qW
theorem BE.mN {e n:Nat} {v:V} (h:BE e n v):(Go.Proofs.YtoncclhbdkjhmaaGreatDoor.mN v).length<=n/\∀ z ∈ Go.Proofs.YtoncclhbdkjhmaaGreatDoor.mN v,z.natAbs<aG ^ e:=by
 cases v with
 | I z=>exact⟨au _,fun z hz=>by cases hz⟩
 | B b=>exact⟨au _,fun z hz=>by cases hz⟩
 | L l=>exact h
theorem BE.up {e n e' n':Nat} {v:V} (h:BE e n v) (he:e<=e') (hn:n<=n'):BE e' n' v:=by
 have hle:aG ^ e<=aG ^ e':=sM he;cases v with
 | I z=>exact az h hle
 | B b=>trivial
 | L l=>exact⟨ah h.1 hn,fun z hz=>az (h.2 z hz) hle⟩
theorem BE.zero (e n:Nat):BE e n (.I 0):=dj qW
theorem BE.sm {e n:Nat} {v:V} (h:BE e n v) (h1:e<=600) (h2:n<=1000):rO v:=by
 cases v with
 | I z=>exact eT (k:=e) (k':=600) h h1
 | B b=>trivial
 | L l=>exact⟨ah h.1 h2,fun z hz=>eT (k:=e) (k':=600) (h.2 z hz) h1⟩
theorem Gj {e n:Nat} {vs:List V} (h:∀ v ∈ vs,BE e n v) (i:Nat):BE e n (vs.getD i (.I 0)):=by
 by_cases hi:i<vs.length
 ·have e:vs.getD i (.I 0)=vs[i]:=by simp[List.getD,hi]
  rw[e];exact h _ (ct hi)
 have e:vs.getD i (.I 0)=.I 0:=by simp[List.getD,List.getElem?_eq_none (Nat.le_of_not_lt hi)]
 rw[e];exact BE.zero _ _
theorem Jf {a:Nat} (h:4<=a):2*aG ^ a<=aG ^ (2*a):=by
 have h1:aG ^ (a+1)<=aG ^ (2*a):=sM (by omega);rw[Nat.pow_succ] at h1;have h2:2<=aG:=by decide
 have h3:=Nat.mul_le_mul_left (aG ^ a) h2;rw[Nat.mul_comm] at h3;omega
theorem PM {r:ByteArray->V} {e n:Nat} (he:4<=e) (hn:n<=900) {o z:Int} {nm:ByteArray} {vs:List V} (hv:∀ v ∈ vs,BE e n v) (hz:z.natAbs<aG ^ 4) (h5:o=5->1<=z) (hr:∀ nm,BE e n (r nm)):BE (2*e) (n+1) (Ec r o z nm vs):=by
 have a0:=(Gj hv 0).iq;have a1:=(Gj hv 1).iq;have l0:=(Gj hv 0).mN;have l1:=(Gj hv 1).mN;have hle:aG ^ e<=aG ^ (2*e):=sM (by omega);have h2:=Jf he;rcases CO o with h | h
 ·rcases h with rfl | rfl | rfl | rfl | rfl | rfl | rfl | rfl | rfl | rfl | rfl | rfl | rfl | rfl | rfl | rfl | rfl | rfl | rfl | rfl | rfl
  ·show z.natAbs<_
   exact az hz (sM (by omega))
  ·exact az (hr nm).iq hle
  ·show (iq (vF vs)+iq (Gk vs)).natAbs<aG ^ (2*e)
   have:(iq (vF vs)+iq (Gk vs)).natAbs<=(iq (vF vs)).natAbs+(iq (Gk vs)).natAbs:=Int.natAbs_add_le _ _;unfold vF Gk at *;omega
  ·show (z*iq (vF vs)).natAbs<aG ^ (2*e)
   rw[Int.natAbs_mul];have h3:=Nat.mul_lt_mul'' hz a0;rw[<-Nat.pow_add] at h3;exact az h3 (sM (by omega))
  ·show (iq (vF vs)*iq (Gk vs)).natAbs<aG ^ (2*e)
   rw[Int.natAbs_mul];have h3:=Nat.mul_lt_mul'' a0 a1;rw[<-Nat.pow_add] at h3;exact az h3 (sM (by omega))
  ·show (vw (iq (vF vs)) z).natAbs<aG ^ (2*e)
   have gV:=h5 rfl;rw[Int.fdiv_eq_ediv_of_nonneg _ (by omega)];exact az (Nat.lt_of_le_of_lt (Int.natAbs_ediv_le_natAbs _ _) a0) hle
  ·show (((mN (vF vs)).length:Nat):Int).natAbs<aG ^ (2*e)
   rw[Int.natAbs_natCast];have h3:aG ^ 1<=aG ^ (2*e):=sM (by omega);have h4:aG ^ 1=4294967296:=by decide
   have h6:(mN (vF vs)).length<=n:=l0.1;omega
  ·show ((mN (vF vs)).headD 0).natAbs<aG ^ (2*e)
   have h6:∀ z ∈ mN (vF vs),z.natAbs<aG ^ e:=l0.2;cases hl:mN (vF vs) with
   | nil=>exact dj qW
   | cons y l=>rw[hl] at h6;exact az (h6 y (by simp)) hle
  ·show (mN (r nm)).length<=n+1/\_
   have h6:=(hr nm).mN;exact⟨by have:=h6.1;omega,fun z hz=>az (h6.2 z hz) hle⟩
  ·exact⟨au _,fun z hz=>by cases hz⟩
  ·show (iq (vF vs)::mN (Gk vs)).length<=n+1/\_
   have h6:(mN (Gk vs)).length<=n:=l1.1;have h7:∀ z ∈ mN (Gk vs),z.natAbs<aG ^ e:=l1.2;refine⟨by rw[mS];omega,fun z hz=>?_⟩;rcases List.mem_cons.1 hz with rfl | hz
   ·exact az a0 hle
   exact az (h7 z hz) hle
  ·show (mN (vF vs)).tail.length<=n+1/\_
   have h6:(mN (vF vs)).length<=n:=l0.1;have h7:∀ z ∈ mN (vF vs),z.natAbs<aG ^ e:=l0.2;exact⟨by rw[List.length_tail];omega,fun z hz=>az (h7 z (List.mem_of_mem_tail hz)) hle⟩
  all_goals trivial
 unfold Ec;rw[if_neg (by omega),if_neg (by omega),if_neg (by omega),if_neg (by omega),if_neg (by omega),if_neg (by omega),if_neg (by omega),if_neg (by omega),if_neg (by omega),if_neg (by omega),if_neg (by omega),if_neg (by omega),if_neg (by omega),if_neg (by omega),if_neg (by omega),if_neg (by omega),if_neg (by omega),if_neg (by omega),if_neg (by omega),if_neg (by omega),if_neg (by omega)];exact BE.zero _ _
theorem JK {r:ByteArray->V} {e n:Nat} (he:4<=e) (hn:1<=n) {o z:Int} {nm:ByteArray} (hz:z.natAbs<aG ^ 4) (hr:BE e n (r nm)):BE e n (Ec r o z nm []):=by
 have hle:aG ^ 4<=aG ^ e:=sM he;have hp:0<aG ^ e:=dj qW;rcases CO o with h | h
 ·rcases h with rfl | rfl | rfl | rfl | rfl | rfl | rfl | rfl | rfl | rfl | rfl | rfl | rfl | rfl | rfl | rfl | rfl | rfl | rfl | rfl | rfl
  ·exact az hz hle
  ·exact hr.iq
  ·exact hp
  ·show (z*0).natAbs<_
   rw[Int.mul_zero];exact hp
  ·exact hp
  ·show (vw 0 z).natAbs<_
   rw[Int.zero_fdiv];exact hp
  ·exact hp
  ·exact hp
  ·exact hr.mN
  ·exact⟨au _,fun z hz=>by cases hz⟩
  ·exact⟨hn,fun z hz=>by rcases List.mem_cons.1 hz with rfl | h;exact hp;cases h⟩
  ·exact⟨au _,fun z hz=>by cases hz⟩
  all_goals trivial
 unfold Ec;rw[if_neg (by omega),if_neg (by omega),if_neg (by omega),if_neg (by omega),if_neg (by omega),if_neg (by omega),if_neg (by omega),if_neg (by omega),if_neg (by omega),if_neg (by omega),if_neg (by omega),if_neg (by omega),if_neg (by omega),if_neg (by omega),if_neg (by omega),if_neg (by omega),if_neg (by omega),if_neg (by omega),if_neg (by omega),if_neg (by omega),if_neg (by omega)];exact BE.zero _ _
theorem Oq {r:ByteArray->V} {e n:Nat} (he:4<=e) (hn:1<=n) (hr:∀ nm,BE e n (r nm)):∀ (d:Nat),e*2 ^ d<=600->n+d<=900->∀ t:F,Tm (d+1) t->rt t=true->BE (e*2 ^ d) (n+d) (ev r t)/\Sm r t
 | 0,hd,hnd,.node o z nm ks,h,qg=>by
  have hks:ks=[]:=by
   cases ks with
   | nil=>rfl
   | cons a l=>exact absurd (h.2.2.2.2 a (by simp[F.kids])) id
  subst hks;rw[Nat.pow_zero,Nat.mul_one] at hd ⊢;have hb:=JK (o:=o) (nm:=nm) he hn h.2.1 (hr nm);refine⟨by rw[ev];exact hb,?_⟩;rw[Sm];exact⟨hb.sm hd (by omega),trivial⟩
 | d+1,hd,hnd,.node o z nm ks,h,qg=>by
  obtain⟨hfit,jT⟩:=iX qg;have hk:=h.2.2.2.2;have hp:e*2 ^ (d+1)=2*(e*2 ^ d):=by rw[Nat.pow_succ,<-Nat.mul_assoc,Nat.mul_comm]
  have h1:e<=e*2 ^ d:=Nat.le_mul_of_pos_right e (dj (by decide));have ih:=fun k hk'=>Oq he hn hr d (by omega) (by omega) k (hk k hk') (jT k hk')
  have hz:z.natAbs<aG ^ 4:=h.2.1;have hb:BE (2*(e*2 ^ d)) (n+d+1) (Ec r o z nm (oW r ks)):=by
   refine PM (by omega) (by omega) (fun v hv=>?_) hz (XS hfit) (fun nm=>(hr nm).up h1 (by omega));rw[ya] at hv;obtain⟨k,hk',rfl⟩:=List.mem_map.1 hv;exact (ih k hk').1
  rw[hp] at hd ⊢;refine⟨by rw[ev];exact hb,?_⟩;rw[Sm];refine⟨hb.sm hd (by omega),?_⟩;have:∀ l:List F,(∀ k ∈ l,Sm r k)->QZ r l:=by
   intro l;induction l with
   | nil=>intro _;trivial
   | cons a l ihl=>intro h;exact⟨h a (by simp),ihl (fun k hk=>h k (by simp[hk]))⟩
  exact this ks (fun k hk'=>(ih k hk').2)
end Go.Proofs.YtoncclhbdkjhmaaGreatDoor
namespace Go.Proofs
open Go.Shelf
end Go.Proofs
namespace Go.Proofs.YtoncclhbdkjhmaaGreatDoor
open Go.RowKit
set_option maxRecDepth 100000
set_option linter.unusedVariables false
set_option linter.unusedSimpArgs false
attribute [local go_sem] eF eE eC eB
def NmL (w:ag) (v:Value) (ns:List ByteArray):Prop:=∃ ko kc,v=.slice ko ns.length kc/\ns.length<=1000/\(ns=[]\/∃ g,ko=some ⟨g,0,none⟩/\∀ j,j<ns.length->w.cell? ⟨g,j,none⟩=some (.string (ns.getD j ByteArray.empty)))
theorem FL.Jg {w:ag} {B g n cap d:Nat} {us:List FU} {ts:List F} {S:Nat->Prop} (hrow:fR.Row w B (.slice (some ⟨g,0,none⟩) n cap) us) (hn:n=us.length) (hl:us.length=ts.length) (hS:S g) (h:∀ i (h1:i<us.length) (h2:i<ts.length),FT w S d us[i] ts[i]):FL w S d (.slice (some ⟨g,0,none⟩) n cap) ts:=by
 subst hn;have hz:(us.zip ts).length=us.length:=by rw[List.length_zip,hl,Nat.min_self]
 obtain⟨vo,vc,hv,h1,h2,h3⟩:=hrow.form;injection hv with e1 e2 e3;subst e3;refine⟨us.zip ts,⟨_,cap,by rw[hz],⟨by rw[hz];exact h1,h2,fun h=>by cases h⟩,fun _ a ha=>?_,fun i hi=>?_⟩,List.map_snd_zip (by rw[hl];exact ai _)⟩
 ·injection ha with ha;subst ha;exact hS
 have vY:i<us.length:=by rw[hz] at hi;exact hi
 have qm:i<ts.length:=by rw[<-hl];exact vY
 rw[List.getElem_zip];exact⟨Fy fC (fun _=>rfl) rfl hrow.own i vY,h i vY qm⟩
def i9:ByteArray:=⟨#[105,57]⟩
def WC:F:=.node 0 1 ⟨#[]⟩ []
theorem Bd0.be {v:V} (h:Bd 0 v):BE 4 6 v:=by
 cases v with
 | I z=>exact h
 | B b=>trivial
 | L l=>exact h
mutual
theorem kK.and {P Q:F->Prop}:∀ {t:F},kK P t->kK Q t->kK (fun u=>P u/\Q u) t
 | .node o z nm ks,h,k=>by rw[kK] at h k ⊢;exact⟨⟨h.1,k.1⟩,gH.and h.2 k.2⟩
theorem gH.and {P Q:F->Prop}:∀ {l:List F},gH P l->gH Q l->gH (fun u=>P u/\Q u) l
 | [],_,_=>by rw[gH];trivial
 | k::l,h,g=>by rw[gH] at h g ⊢;exact⟨kK.and h.1 g.1,gH.and h.2 g.2⟩
end
theorem Fc:∀ (d:Nat) (t:F),Tm d t->rt t=true->kK (fun u=>rt u=true) t
 | 0,t,h,_=>absurd h id
 | d+1,.node o z nm ks,h,hr=>by
  rw[kK];exact⟨hr,gH.of fun k hk=>Fc d k (h.2.2.2.2 k hk) ((j_ hr).2.2 k hk)⟩
def Qd (d:Nat) (t:F):Prop:=Tm (d+4) t/\(eI t.op≠1->Tm (d+2) t)/\(eI t.op=2->Tm (d+1) t)
def QA (d e:Nat) (t:F):Prop:=kK (Qd d) t/\Tm e t
theorem QA.up {d e e':Nat} {t:F} (h:QA d e t) (he:e<=e'):QA d e' t:=⟨h.1,h.2.up he⟩
theorem Lx {d:Nat}:∀ (e:Nat),e<=d+1->∀ t:F,Tm e t->kK (Qd d) t
 | 0,_,t,h=>absurd h id
 | e+1,he,.node o z nm ks,h=>by
  rw[kK];exact⟨⟨h.up (by omega),fun _=>h.up (by omega),fun _=>h.up he⟩,gH.of fun k hk=>Lx e (by omega) k (h.2.2.2.2 k hk)⟩
theorem Ab {d e:Nat} {t:F} (h:Tm e t) (he:e<=d+1):QA d e t:=⟨Lx e he t h,h⟩
theorem Oo {e:Nat} {o z:Int} {ks:List F} (ho:¬ (o=1\/o=8\/o=14)) (hz:z.natAbs<aG ^ 4) (h0:o≠0->o≠3->o≠5->z=0) (hl:ks.length<=3) (hk:∀ k ∈ ks,Tm e k):Tm (e+1) (.node o z ⟨#[]⟩ ks):=
 ⟨by unfold gW;simp only[F.op,F.name];rw[if_neg (by omega),if_neg (by omega),if_neg (by omega)];trivial,hz,h0,hl,hk⟩
theorem z4:(0:Int).natAbs<aG ^ 4:=dj (by decide)
theorem CA {e:Nat} {o:Int} {ks:List F} (ho:¬ (o=1\/o=8\/o=14)) (hl:ks.length<=3) (hk:∀ k ∈ ks,Tm e k):Tm (e+1) (fo o ks):=Oo ho z4 (fun _ _ _=>rfl) hl hk
theorem qf {d e:Nat} {o:Int} {ks:List F} (ho:¬ (o=1\/o=8\/o=14)) (hs:eI o=1) (hl:ks.length<=3) (hk:∀ k ∈ ks,QA d e k) (he:e+1<=d+4):QA d (e+1) (fo o ks):=by
 have h:=CA ho hl fun k h=>(hk k h).2
 refine⟨?_,h⟩;unfold fo;rw[kK];exact⟨⟨h.up he,fun hn=>absurd hs hn,fun h2=>by have h3:eI o=2:=h2;rw[hs] at h3;exact absurd h3 (by decide)⟩,gH.of fun k h=>(hk k h).1⟩
theorem qi {d e:Nat} {o z:Int} {ks:List F} (ho:¬ (o=1\/o=8\/o=14)) (hz:z.natAbs<aG ^ 4) (h0:o≠0->o≠3->o≠5->z=0) (hs:eI o=0) (hl:ks.length<=3) (hk:∀ k ∈ ks,QA d e k) (he:e+1<=d+2):QA d (e+1) (.node o z ⟨#[]⟩ ks):=by
 have h:=Oo ho hz h0 hl fun k h=>(hk k h).2
 refine⟨?_,h⟩;rw[kK];exact⟨⟨h.up (by omega),fun _=>h.up he,fun h2=>by have h3:eI o=2:=h2;rw[hs] at h3;exact absurd h3 (by decide)⟩,gH.of fun k h=>(hk k h).1⟩
theorem m1 {P:F->Prop} {a:F} (h:P a):∀ k ∈ [a],P k:=fun k hk=>by rw[aZ] at hk;rw[hk];exact h
theorem m2 {P:F->Prop} {a b:F} (h:P a) (g:P b):∀ k ∈ [a,b],P k:=fun k hk=>by
 simp only[bz,aU,or_false] at hk;rcases hk with rfl | rfl
 ·exact h
 exact g
theorem m3 {P:F->Prop} {a b c:F} (h:P a) (g:P b) (i:P c):∀ k ∈ [a,b,c],P k:=fun k hk=>by
 simp only[bz,aU,or_false] at hk;rcases hk with rfl | rfl | rfl
 ·exact h
 ·exact g
 exact i
section
variable {d e:Nat} {a b c x:F}
theorem CN (h:QA d e a) (k:QA d e b) (he:e+1<=d+4):QA d (e+1) (dV a b):=qf (by decide) rfl (by simp) (m2 h k) he
theorem G0 (h:QA d e a) (k:QA d e b) (he:e+1<=d+4):QA d (e+1) (b_ a b):=qf (by decide) rfl (by simp) (m2 h k) he
theorem JI (h:QA d e a) (he:e+1<=d+4):QA d (e+1) (bW a):=qf (by decide) rfl (by simp) (m1 h) he
theorem GZ (h:QA d e a) (k:QA d e b) (he:e+1<=d+4):QA d (e+1) (gB [a,b]):=qf (by decide) rfl (by simp) (m2 h k) he
theorem Wy (h:QA d e a) (k:QA d e b) (i:QA d e c) (he:e+1<=d+4):QA d (e+1) (gB [a,b,c]):=qf (by decide) rfl (by simp) (m3 h k i) he
theorem PI (h:QA d e a) (k:QA d e b) (he:e+1<=d+2):QA d (e+1) (gE a b):=qi (by decide) z4 (fun _ _ _=>rfl) rfl (by simp) (m2 h k) he
theorem qn {n:Int} (hn:n.natAbs<aG ^ 4) (he:1<=e):QA d e (nF n):=
 QA.up (e:=1) (Ab (⟨rfl,hn,fun h=>absurd rfl h,au _,fun k hk=>by cases hk⟩:Tm 1 (nF n)) (by omega)) he
theorem Rv:(0:Int).natAbs<aG ^ 4:=z4
theorem Ru:(1:Int).natAbs<aG ^ 4:=by decide
theorem tmh (h:Tm e a):Tm (e+1) (xZ a):=CA (by decide) (by simp) (m1 h)
theorem tmt (h:Tm e a):Tm (e+1) (Mu a):=CA (by decide) (by simp) (m1 h)
theorem tmc (h:Tm e a) (k:Tm e b):Tm (e+1) (qp a b):=CA (by decide) (by simp) (m2 h k)
theorem YZ:Tm 1 lS:=CA (e:=0) (by decide) (by simp) (fun k hk=>by cases hk)
theorem ql (h:QA d e a) (he:e+1<=d+2):QA d (e+1) (cY a):=qi (by decide) z4 (fun _ _ _=>rfl) rfl (by simp) (m1 h) he
theorem Pr {e:Nat} {x:F} (h:Tm (e+1) x) {k:F} (hk:k ∈ x.kids):Tm e k:=h.2.2.2.2 k hk
theorem PS {o z:Int} {nm:ByteArray} {ks:List F} {i:Nat} (h:i<ks.length):kd (.node o z nm ks) i ∈ ks:=by
 unfold kd;show ks.getD i (nF 0) ∈ ks
 rw[List.getD_eq_getElem?_getD,List.getElem?_eq_getElem h];exact ct h
theorem Kc {d e:Nat} {x:F} (hx:rt x=true) (h:Tm e x) (he:e<=d+1):∀ y ∈ fO x,QA d (e+2) y:=by
 obtain⟨o,z,nm,ks⟩:=x;have hp:=j_ hx;cases e with
 | zero=>exact absurd h id
 | succ e =>
  generalize ex:F.node o z nm ks=x at *;have eo:x.op=o:=by rw[<-ex];rfl
  have L:=ql (Ab h he) (by omega);intro y hy;unfold fO at hy;rcases List.mem_cons.1 hy with rfl | hy
  ·exact CN (qn Rv (by omega)) L (by omega)
  rw[eo] at hy;split at hy
  ·rw[aZ] at hy;subst hy;exact G0 L (qn Rv (by omega)) (by omega)
  split at hy
  ·rename_i h10;subst h10;obtain⟨a,b,e1,ha,hb⟩:=qQ (by have:=hp.1;simpa [bF] using this);have BT:kd x 1=b:=by rw[<-ex,e1];rfl
   have dI:Tm e b:=Pr h (by rw[<-ex,e1];simp[F.kids]);rw[aZ,BT] at hy;subst hy;exact G0 L ((PI (ql (Ab dI (by omega)) (by omega)) (qn Ru (by omega)) (by omega)).up (by omega)) (by omega)
  cases hy
theorem Lf {x:F} (h:Tm d x):QA d (d+4) (kN x):=by
 have L:=ql (Ab (d:=d) h (by omega)) (by omega);exact GZ (JI (CN L (qn Rv (by omega)) (by omega)) (by omega)) ((G0 (e:=d+1) ((Ab h (by omega)).up (by omega)) (Ab (YZ.up (by omega)) (by omega)) (by omega)).up (by omega)) (by omega)
theorem K7 {l:F} (h:Tm d l):QA d (d+2) (gC l):=CN (qn Ru (by omega)) (ql (Ab h (by omega)) (by omega)) (by omega)
theorem Pt {l x:F} (hl:Tm d l) (hx:Tm (d+1) x):∀ y ∈ mY x l,QA (d+1) (d+5) y:=by
 have f:=K7 (d:=d+1) (hl.LR);have nf:=JI f (by omega);intro y hy;unfold mY at hy;simp only[bz,aU,or_false] at hy;rcases hy with rfl | rfl | rfl
 ·exact GZ nf (G0 ((ql (Ab hl (by omega)) (by omega)).up (by omega)) (PI (ql (Ab hx (by omega)) (by omega)) (qn Ru (by omega)) (by omega)) (by omega)) (by omega)
 ·exact GZ (e:=d+4) (f.up (by omega)) ((G0 (e:=d+1) (Ab hx (by omega)) (Ab (YZ.up (by omega)) (by omega)) (by omega)).up (by omega)) (by omega)
 exact GZ nf ((G0 (e:=d+2) (Ab (hl.up (by omega)) (by omega)) (Ab (tmc (tmh hl) hx) (by omega)) (by omega)).up (by omega)) (by omega)
theorem PK {a b x:F} (ha:Tm d a) (hb:Tm d b) (hx:Tm d x):∀ y ∈ nZ x a b,QA d (d+4) y:=by
 cases d with
 | zero=>exact absurd ha id
 | succ d =>
  have A:=Ab (d:=d+1) ha (by omega);have B:=Ab (d:=d+1) hb (by omega);have X:=Ab (d:=d+1) hx (by omega);have Z:=qn (d:=d+1) (e:=d+1) Rv (by omega);have N:=qn (d:=d+1) (e:=d+1) Ru (by omega);have Vt:∀ {p q s:F},QA (d+1) (d+2) p->QA (d+1) (d+2) q->QA (d+1) (d+2) s->QA (d+1) (d+5) (gB [bW p,bW q,s]):=fun h k i =>
   (Wy (JI h (by omega)) (JI k (by omega)) (i.up (by omega)) (by omega)).up (by omega)
  have Y4:∀ {p s:F},QA (d+1) (d+2) p->QA (d+1) (d+2) s->QA (d+1) (d+5) (gB [bW p,s]):=fun h i =>
   (GZ (JI h (by omega)) (i.up (by omega)) (by omega)).up (by omega)
  intro y hy;unfold nZ at hy;simp only[bz,aU,or_false] at hy;rcases hy with rfl | rfl | rfl | rfl | rfl | rfl
  ·exact Vt (CN Z A (by omega)) (CN Z B (by omega)) (CN Z X (by omega))
  ·exact Vt (CN A Z (by omega)) (CN B Z (by omega)) (CN Z X (by omega))
  ·exact Vt (CN Z A (by omega)) (CN B Z (by omega)) (CN X Z (by omega))
  ·exact Vt (CN A Z (by omega)) (CN Z B (by omega)) (CN X Z (by omega))
  ·exact Y4 (G0 A N (by omega)) (G0 X B (by omega))
  exact Y4 (G0 B N (by omega)) (G0 X A (by omega))
theorem NW {x:F} (hx:rt x=true) (h:Tm (d+1) x):∀ y ∈ cZ x,QA (d+1) (d+5) y:=by
 obtain⟨o,z,nm,ks⟩:=x;have hp:=j_ hx;have hk:∀ i,i<ks.length->Tm d (kd (.node o z nm ks) i):=fun i hi=>h.2.2.2.2 _ (PS hi)
 have hz:z.natAbs<aG ^ 4:=h.2.1;generalize ex:F.node o z nm ks=x at *;have eo:x.op=o:=by rw[<-ex];rfl
 have ez:x.num=z:=by rw[<-ex];rfl
 have X:=Ab (d:=d+1) h (by omega);have one:∀ s:Int,bF o (eR ks)=decide (eR ks=[s])->Tm d (kd x 0):=fun s h=>by
  obtain⟨k,e,-⟩:=BY (a:=s) (by have:=hp.1;rw[h] at this;exact of_decide_eq_true this);exact hk 0 (by rw[e];exact Nat.one_pos)
 have two:∀ s t:Int,bF o (eR ks)=decide (eR ks=[s,t])->Tm d (kd x 0)/\Tm d (kd x 1):=fun s t h=>by
  obtain⟨k,l,e,-⟩:=qQ (a:=s) (b:=t) (by have:=hp.1;rw[h] at this;exact of_decide_eq_true this);exact⟨hk 0 (by rw[e];simp),hk 1 (by rw[e];simp)⟩
 have lens:∀ y ∈ fO x,QA (d+1) (d+5) y:=fun y hy=>(Kc hx h (by omega) y hy).up (by omega)
 intro y hy;unfold cZ at hy;rw[eo] at hy;by_cases h8:o=8
 ·rw[if_pos h8] at hy;rcases List.mem_append.1 hy with hy | hy
  ·exact lens y hy
  rw[aZ] at hy;rw[hy];exact Lf h
 rw[if_neg h8] at hy;by_cases h9:o=9
 ·rw[if_pos h9] at hy;exact lens y hy
 rw[if_neg h9] at hy;by_cases h10:o=10
 ·rw[if_pos h10] at hy;obtain⟨k0,k1⟩:=two 0 2 (by rw[h10];rfl);rcases List.mem_append.1 hy with hy | hy
  ·exact lens y hy
  simp only[bz,aU,or_false] at hy;rcases hy with rfl | rfl
  ·exact (G0 (qi (o:=7) (by decide) z4 (fun _ _ _=>rfl) rfl (by simp) (m1 X) (by omega)) ((Ab k0 (by omega)).up (by omega)) (by omega)).up (by omega)
  exact (G0 (e:=d+2) (Ab (tmt h) (by omega)) ((Ab k1 (by omega)).up (by omega)) (by omega)).up (by omega)
 rw[if_neg h10] at hy;by_cases h11:o=11
 ·rw[if_pos h11] at hy;have k0:=one 2 (by rw[h11];rfl);rcases List.mem_append.1 hy with hy | hy
  ·exact lens y hy
  rcases List.mem_append.1 hy with hy | hy
  ·rw[aZ] at hy;rw[hy];exact Lf h
  exact Pt k0 h y hy
 rw[if_neg h11] at hy;by_cases h7:o=7
 ·rw[if_pos h7] at hy;have k0:=one 2 (by rw[h7];rfl);rw[aZ] at hy;subst hy;exact (GZ (e:=d+3) (K7 (d:=d+1) k0.LR) ((G0 X (qn Rv (by omega)) (by omega)).up (by omega)) (by omega)).up (by omega)
 rw[if_neg h7] at hy;by_cases h5:o=5
 ·rw[if_pos h5] at hy;have k0:=one 0 (by rw[h5];rfl);have gV:=hp.2.1 h5;have S:QA (d+1) (d+2) (Aa x.num x):=qi (by decide) (by rw[ez];exact hz) (fun _ h3=>absurd rfl h3) rfl (by simp) (m1 X) (by omega);simp only[bz,aU,or_false] at hy;rcases hy with rfl | rfl
  ·exact (CN S ((Ab k0 (by omega)).up (by omega)) (by omega)).up (by omega)
  exact (CN (e:=d+3) ((Ab k0 (by omega)).up (by omega)) (PI S (qn (by rw[ez];omega) (by omega)) (by omega)) (by omega)).up (by omega)
 rw[if_neg h5] at hy;by_cases h4:o=4
 ·rw[if_pos h4] at hy;obtain⟨k0,k1⟩:=two 0 0 (by rw[h4];rfl);exact PK k0.LR k1.LR h y hy
 rw[if_neg h4] at hy;cases hy
theorem Ju {r:ByteArray->V} (hr:∀ nm,BE 4 6 (r nm)):∀ (e:Nat) (t:F),Tm e t->rt t=true->kK (Qd 5) t->Sm r t
 | 0,t,h,_,_=>absurd h id
 | e+1,.node o z nm ks,h,qg,ha=>by
  by_cases hs:eI o=1
  ·rw[kK] at ha;rw[Sm];refine⟨?_,?_⟩
   ·have h1:=CP r o z nm (oW r ks);rw[hs] at h1
    cases hv:Ec r o z nm (oW r ks) with
    | B b=>trivial
    | I z=>rw[hv] at h1;cases h1
    | L l=>rw[hv] at h1;cases h1
   have key:∀ l:List F,(∀ k ∈ l,Sm r k)->QZ r l:=by
    intro l;induction l with
    | nil=>intro _;trivial
    | cons a l ih=>intro h;exact⟨h a (by simp),ih fun k hk=>h k (by simp[hk])⟩
   have all:∀ l:List F,gH (Qd 5) l->∀ k ∈ l,kK (Qd 5) k:=by
    intro l;induction l with
    | nil=>intro _ k hk;cases hk
    | cons a l ih =>
     intro h k hk;rw[gH] at h;rcases List.mem_cons.1 hk with rfl | hk
     ·exact h.1
     exact ih h.2 k hk
   exact key ks fun k hk=>Ju hr e k (h.2.2.2.2 k hk) ((j_ qg).2.2 k hk) (all ks ha.2 k hk)
  have h7:=(kK.self ha).2.1 hs;exact (Oq (ai 4) (by decide) hr 6 (by decide) (by decide) _ h7 qg).2
end
end Go.Proofs.YtoncclhbdkjhmaaGreatDoor
