/-
 Joined texts: LgL,LgN,LgP,LgQ,LgR,LgS,LgT,LgV,LgW,LgBb.
-/
import Derived.Lib.QuoteLoop
import Derived.Lib.PrintData
import Derived.Test.YtoncclhbdkjhmaaGreatDoorJLogicPuts2
import Derived.Test.YtoncclhbdkjhmaaGreatDoorJLogicPuts3
import Derived.Test.YtoncclhbdkjhmaaGreatDoorJLogicPuts4
set_option maxHeartbeats 32000000
open Go renaming lt_of_block→ag,World→an,Value→ay,bodyPost_ret→aB,heap_setCell_same→aF,Calls→bf,Addr→cH,maxLen→fO
open Go.Exit renaming inBlock→aE,«then»→aM
open Go.Lib renaming hid→aa
open Go.Proofs.Tryz renaming prog→ax,ntmps162→iI,func162→jr
open Go.RowKit renaming Below→aC,intOf→fH
open Go.RowKit.Below renaming refl→av
open Go.Value.bool renaming injEq→tM
open Go.Value.slice renaming injEq→rP
open Go.World renaming block_lt_of_cell?→bW
open Go.World.grownBy renaming refl→aJ
open Go.World.ownsRow renaming stored→gF,kept→iT
open List renaming take_length→bD,not_mem_nil→cl,mem_cons→dw,mem_singleton→dG,map_append→dN,flatMap_cons→eT,dropLast_cons_of_ne_nil→eU,append_assoc→gl,append_nil→iN,dropLast_append_of_ne_nil→iW,cons_append→jV,getElem_cons_zero→lR,getElem_append_left→rQ,getElem_append_right→AR
open List.cons renaming injEq→me
open Nat renaming not_lt_zero→ah,le_refl→ak,le_trans→aq,zero_le→au,lt_of_lt_of_le→aK,add_mul→cL
namespace Go.Proofs.YtoncclhbdkjhmaaGreatDoor
open Go.RowKit
set_option maxRecDepth 100000
set_option linter.unusedVariables false
set_option linter.unusedSimpArgs false
attribute [local go_sem] jn jm jl jk

theorem D2 (d:Nat) (IT:FI d) (eo:Option cH) (en ec:Nat) (env:List (ByteArray × V)) (ke:Nat) (v:ay) (t:F) (S:Nat->Prop) (w:an) (hB:w.heap[ke]?=some (.cells #[.slice eo en ec] 154 (0,0))) (h:FC w S d v t) (he:EL w (.slice eo en ec) env) (hr:rt t=true) (hs:jh t.op=1) (dF:Sm (a_ env) t) :
  bf ax 192 #[v,.pointer (some ⟨ke,0,none⟩)] w fun e w'=>e=.returned (.bool (!gX (ev (a_ env) t)))/\aC w.heap.size w w':=by
 have HT:=aa h;obtain⟨b,ao,l,c,ko,kl,kc,rfl,-,-,-⟩:=h.open;obtain⟨o,tu⟩:∃ o,o=t.op:=⟨_,rfl⟩
 obtain⟨nm,hnm⟩:∃ o,o=t.name:=⟨_,rfl⟩
 rw[<-tu] at HT ⊢;rw[<-hnm] at HT ⊢;have iU:=aa hB;have HE:=aa he;have HR:=aa hr;have HS:=aa hs;have rN:=aa dF;clear h hB he hr hs dF tu hnm;have HW:=aa (av w.heap.size w);go_enter Tryz.func192,Tryz.ntmps192
 obtain⟨x1,kf,ef,hO,aR,gL,aj⟩:=aL w #[.int .i64 o,.bool b,.slice ao l c,.string nm,.slice ko kl kc] 29;replace iU:=aG aR.out iU;replace HT:=aa (HT.out.below aR.out);replace HE:=aa (HE.out.below aR.out);replace HW:=aa (HW.out.trans (aR.out.mono HW.out.size));have c0:=ae (v:=.int .i64 o) aj.out 0 rfl;have bM:=af aj.out 0;have c1:=ae (v:=.bool b) aj.out 1 rfl;have bL:=af aj.out 1;have c2:=ae (v:=.slice ao l c) aj.out 2 rfl;have bK:=af aj.out 2;have c3:=ae (v:=.string nm) aj.out 3 rfl;have bJ:=af aj.out 3;have c4:=ae (v:=.slice ko kl kc) aj.out 4 rfl;have bI:=af aj.out 4;have e0:=ae (v:=.slice eo en ec) iU.out 0 rfl;have y9:=af iU.out 0;go_wp2_with fail
 refine (IT _ _ env t S x1 HT.out HE.out HR.out HS.out rN.out).mono ?_;rintro e x2 ⟨rfl,hb⟩;clear c0 bM c1 bL c2 bK c3 bJ c4 bI e0 y9;replace iU:=aG hb iU;replace aj:=aG hb aj;replace HT:=aa (HT.out.below hb);replace HE:=aa (HE.out.below hb);replace HW:=aa (HW.out.trans (hb.mono HW.out.size));go_wp2_with fail
 go_ret
 exact⟨rfl,HW.out⟩
theorem D4 (d:Nat) (IN:Dy d) (IT:FI d) (IV:KO d):FI (d+1):=by
 intro ve v env t S w h he hr hs dF;obtain⟨b,ao,l,c,ko,kl,kc,rfl,⟨-,hz,eR,hkc,hkm⟩,-,hk⟩:=h.open;obtain⟨o,z,nm,ks⟩:=t;simp only[F.op,F.num,F.name,F.kids] at hz hk eR hs ⊢;rw[show d+1 - 1=d from rfl] at hk;obtain⟨hfit,fy⟩:=iA hr
 have ho:o=12\/o=13\/o=14\/o=15\/o=16\/o=17\/o=18\/o=19\/o=20:=by
  have:=jO hfit;unfold jh at hs
  split at hs
  ·omega
  split at hs
  ·omega
  omega
 obtain⟨eo,en,ec,rfl⟩:=he.shape;have vA:kc<=9223372036854775807:=hkm;clear h hr hs hkm hkc hz;rcases ho with rfl | rfl | rfl | rfl | rfl | rfl | rfl | rfl | rfl
 ·have HX:=aa hk;have HE:=aa he;have cC:=aa eR;have HW:=aa (av w.heap.size w);clear hk he dF fy hfit eR cC;go_enter jr,iI
  obtain⟨x1,ke,ee,Jk,ei,Jb,iU⟩:=aL w #[.slice eo en ec] 154;replace HX:=aa (HX.out.below ei.out);replace HE:=aa (HE.out.below ei.out);replace HW:=aa (HW.out.trans (ei.out.mono HW.out.size));obtain⟨x2,kf,ef,hO,aR,gL,aj⟩:=aL x1 #[.int .i64 12,.bool b,.slice ao l c,.string nm,.slice ko kl kc] 29;replace iU:=aG aR.out iU;replace HX:=aa (HX.out.below aR.out);replace HE:=aa (HE.out.below aR.out);replace HW:=aa (HW.out.trans (aR.out.mono HW.out.size));have e0:=ae (v:=.slice eo en ec) iU.out 0 rfl;have y9:=af iU.out 0;have c0:=ae (v:=.int .i64 12) aj.out 0 rfl;have bM:=af aj.out 0;have c1:=ae (v:=.bool b) aj.out 1 rfl;have bL:=af aj.out 1;have c2:=ae (v:=.slice ao l c) aj.out 2 rfl;have bK:=af aj.out 2
  have c3:=ae (v:=.string nm) aj.out 3 rfl;have bJ:=af aj.out 3;have c4:=ae (v:=.slice ko kl kc) aj.out 4 rfl;have bI:=af aj.out 4;go_wp2_with fail
  go_ret
  exact⟨rfl,HW.out⟩
 ·have HX:=aa hk;have HE:=aa he;have cC:=aa eR;have HW:=aa (av w.heap.size w);clear hk he dF fy hfit eR cC;go_enter jr,iI
  obtain⟨x1,ke,ee,Jk,ei,Jb,iU⟩:=aL w #[.slice eo en ec] 154;replace HX:=aa (HX.out.below ei.out);replace HE:=aa (HE.out.below ei.out);replace HW:=aa (HW.out.trans (ei.out.mono HW.out.size));obtain⟨x2,kf,ef,hO,aR,gL,aj⟩:=aL x1 #[.int .i64 13,.bool b,.slice ao l c,.string nm,.slice ko kl kc] 29;replace iU:=aG aR.out iU;replace HX:=aa (HX.out.below aR.out);replace HE:=aa (HE.out.below aR.out);replace HW:=aa (HW.out.trans (aR.out.mono HW.out.size));have e0:=ae (v:=.slice eo en ec) iU.out 0 rfl;have y9:=af iU.out 0;have c0:=ae (v:=.int .i64 13) aj.out 0 rfl;have bM:=af aj.out 0;have c1:=ae (v:=.bool b) aj.out 1 rfl;have bL:=af aj.out 1;have c2:=ae (v:=.slice ao l c) aj.out 2 rfl;have bK:=af aj.out 2
  have c3:=ae (v:=.string nm) aj.out 3 rfl;have bJ:=af aj.out 3;have c4:=ae (v:=.slice ko kl kc) aj.out 4 rfl;have bI:=af aj.out 4;go_wp2_with fail
  go_ret
  exact⟨rfl,HW.out⟩
 ·have HX:=aa hk;have HE:=aa he;have cC:=aa eR;have HW:=aa (av w.heap.size w);clear hk he dF fy hfit eR cC;go_enter jr,iI
  obtain⟨x1,ke,ee,Jk,ei,Jb,iU⟩:=aL w #[.slice eo en ec] 154;replace HX:=aa (HX.out.below ei.out);replace HE:=aa (HE.out.below ei.out);replace HW:=aa (HW.out.trans (ei.out.mono HW.out.size));obtain⟨x2,kf,ef,hO,aR,gL,aj⟩:=aL x1 #[.int .i64 14,.bool b,.slice ao l c,.string nm,.slice ko kl kc] 29;replace iU:=aG aR.out iU;replace HX:=aa (HX.out.below aR.out);replace HE:=aa (HE.out.below aR.out);replace HW:=aa (HW.out.trans (aR.out.mono HW.out.size));have e0:=ae (v:=.slice eo en ec) iU.out 0 rfl;have y9:=af iU.out 0;have c0:=ae (v:=.int .i64 14) aj.out 0 rfl;have bM:=af aj.out 0;have c1:=ae (v:=.bool b) aj.out 1 rfl;have bL:=af aj.out 1;have c2:=ae (v:=.slice ao l c) aj.out 2 rfl;have bK:=af aj.out 2
  have c3:=ae (v:=.string nm) aj.out 3 rfl;have bJ:=af aj.out 3;have c4:=ae (v:=.slice ko kl kc) aj.out 4 rfl;have bI:=af aj.out 4;go_wp2_with fail
  refine (wA _ env nm 1 x2 HE.out).mono ?_;rintro e x3 ⟨v,rfl,hv,hb⟩;clear e0 y9 c0 bM c1 bL c2 bK c3 bJ c4 bI;replace iU:=aG hb iU;replace aj:=aG hb aj;replace HX:=aa (HX.out.below hb);replace HE:=aa (HE.out.below hb);replace HW:=aa (HW.out.trans (hb.mono HW.out.size));obtain⟨k1,b1,o1,l1,c1,p1,m1,q1,rfl⟩:=hv.S_;clear hv;go_wp2_with fail
  go_ret
  exact⟨rfl,HW.out⟩
 ·have HX:=aa hk;have HE:=aa he;have cC:=aa eR;have HW:=aa (av w.heap.size w);obtain⟨p,q,rfl,hp,hq⟩:=iZ (ks:=ks) (s:=0) (r:=0) (by simpa [cO,bB] using hfit);have nn:=aa (dF.kG p (by simp));have nr:=aa (fy p (by simp));have HP:=aa hp;have wX:=aa (dF.kG q (by simp));have wY:=aa (fy q (by simp));have HQ:=aa hq;have gN:Hid (gX (ev (a_ env) (.node 15 z nm [p,q]))=gX (qJ (a_ env) 15 z nm [ev (a_ env) p,ev (a_ env) q])):=aa (by rw[ev,iH,iH,iH]);have gW:kl=2:=cC.out;subst gW;clear hk he dF fy hfit eR cC hp hq;go_enter jr,iI
  obtain⟨x1,ke,ee,Jk,ei,Jb,iU⟩:=aL w #[.slice eo en ec] 154;replace HX:=aa (HX.out.below ei.out);replace HE:=aa (HE.out.below ei.out);replace HW:=aa (HW.out.trans (ei.out.mono HW.out.size));obtain⟨x2,kf,ef,hO,aR,gL,aj⟩:=aL x1 #[.int .i64 15,.bool b,.slice ao l c,.string nm,.slice ko 2 kc] 29;replace iU:=aG aR.out iU;replace HX:=aa (HX.out.below aR.out);replace HE:=aa (HE.out.below aR.out);replace HW:=aa (HW.out.trans (aR.out.mono HW.out.size));have e0:=ae (v:=.slice eo en ec) iU.out 0 rfl;have y9:=af iU.out 0;have c0:=ae (v:=.int .i64 15) aj.out 0 rfl;have bM:=af aj.out 0;have c1:=ae (v:=.bool b) aj.out 1 rfl;have bL:=af aj.out 1;have c2:=ae (v:=.slice ao l c) aj.out 2 rfl;have bK:=af aj.out 2
  have c3:=ae (v:=.string nm) aj.out 3 rfl;have bJ:=af aj.out 3;have c4:=ae (v:=.slice ko 2 kc) aj.out 4 rfl;have bI:=af aj.out 4;obtain⟨a,bp,op,lp,cp,pP,pQ,pR,gV,⟨p0,p1,p2,p3,p4⟩,fB⟩:=HX.out.first;subst gV;obtain⟨pI,dH⟩:∃ x,x=p.op:=⟨_,rfl⟩
  obtain⟨pL,dI⟩:∃ x,x=p.name:=⟨_,rfl⟩
  rw[<-dH] at p0 fB;rw[<-dI] at p3 fB;have cg:=aa fB;have dj:Hid (sC x2 a pI bp op lp cp pL pP pQ pR):=aa ⟨p0,p1,p2,p3,p4⟩;clear dH dI fB p0 p1 p2 p3 p4;obtain⟨a2,bq,oq,lq,cq,vt,vu,vv,ou,⟨q0,q1,q2,q3,q4⟩,jd⟩:=HX.out.second;injection ou with tA;subst tA;obtain⟨vJ,js⟩:∃ x,x=q.op:=⟨_,rfl⟩
  obtain⟨vK,jt⟩:∃ x,x=q.name:=⟨_,rfl⟩
  rw[<-js] at q0 jd;rw[<-jt] at q3 jd;have fW:=aa jd;have gM:Hid (sC x2 ⟨a.block,a.off+5,none⟩ vJ bq oq lq cq vK vt vu vv):=aa ⟨q0,q1,q2,q3,q4⟩;clear js jt jd q0 q1 q2 q3 q4;go_upto_region 7 with fail
  clear e0 y9 c0 bM c1 bL c2 bK c3 bJ c4 bI;have nZ:=ag iU.out;have cK:=ag aj.out;have fK:Hid (∀ q,q<0->(fun q=>0) q<x2.heap.size):=aa (fun q h=>absurd h (ah _));refine R7.region (by kernel_rfl) [[],[],[1],[1,2],[1,2,3],[0,1,2,3,4],[],[],[7],[7,8],[7,8,9],[0,1,2,3,4,5,6,7,8,9,10],[0,1,2,3,4,5,6,7,8,9,10,11],[0,1,2,3,4,5,6,7,8,9,10,11,12],[0,1,2,3,4,5,6,7,8,9,10,11,12,13]] [] [] (fun q=>0) 0 15 (by kernel_rfl) (by kernel_rfl) (by rfl) fK.out (fun q q' h h' hn=>absurd hn (by omega)) ?_;refine R7.az.bT ?_ (by rfl) (fun T xs wr hA=>?_) ?_
  rotate_left 1
  ·have e2:=hA.pre 2 (by kernel_rfl);simp only[eY,fD,fm] at e2;have aP:wr.heap[ke]?=_:=(hA.bl _ nZ (fun q h=>absurd h (ah _))).trans iU.out;have q0:=ae (v:=.slice eo en ec) aP 0 rfl;clear aP;clear hA;refine⟨(by rfl),?_⟩;go_simp<;>(try with_reducible rfl)
  refine R7.az.bT ?_ (by rfl) (fun T xs wr hA=>?_) ?_
  rotate_left 1
  ·have e3:=hA.pre 3 (by kernel_rfl);simp only[eY,fD,fm] at e3;clear hA;refine⟨(by rfl),?_⟩;go_simp<;>(try with_reducible rfl)
  refine R7.az.bT ?_ (by rfl) (fun T xs wr hA=>?_) ?_
  rotate_left 1
  ·have Jm:=hA.tm 1 19 (by rfl) (by rfl);have f19:xs 1=_:=hA.fa 1 (by rfl)
   (try simp (disch:=first | rfl | decide) only [R7.ai] at f19)
   rw[f19] at Jm;clear f19;have aP:wr.heap[kf]?=_:=(hA.bl _ cK (fun q h=>absurd h (ah _))).trans aj.out;have q0:=ae (v:=.int .i64 15) aP 0 rfl;have q1:=ae (v:=.bool b) aP 1 rfl;have q2:=ae (v:=.slice ao l c) aP 2 rfl;have q3:=ae (v:=.string nm) aP 3 rfl;have q4:=ae (v:=.slice (some a) 2 kc) aP 4 rfl;clear aP;clear hA;refine⟨(by rfl),?_⟩;go_simp<;>(try with_reducible rfl)
  refine R7.az.bT ?_ (by rfl) (fun T xs wr hA=>?_) ?_
  rotate_left 1
  ·have Jl:=hA.tm 2 20 (by rfl) (by rfl);have f20:xs 2=_:=hA.fa 2 (by rfl)
   (try simp (disch:=first | rfl | decide) only [R7.ai] at f20)
   rw[f20] at Jl;clear f20;clear hA;refine⟨(by rfl),?_⟩;go_simp<;>(try with_reducible rfl)
  refine R7.az.bT ?_ (by rfl) (fun T xs wr hA=>?_) ?_
  rotate_left 1
  ·have Li:=hA.tm 3 21 (by rfl) (by rfl);have f21:xs 3=_:=hA.fa 3 (by rfl)
   (try simp (disch:=first | rfl | decide) only [R7.ai] at f21)
   rw[f21] at Li;clear f21;have dK:=aT (hA.be x2.heap.size (ak _) (fun q h=>absurd h (ah q)));obtain⟨q0,q1,q2,q3,q4⟩:=dj.out.below dK
   try simp only at q0 q1 q2 q3 q4
   clear hA;refine⟨(by rfl),?_⟩;go_simp<;>(try with_reducible rfl)
  refine R7.az.call (fun xs v w=>∃ y,v=y/\CI w y (fM (ev (a_ env) p)) 600) (fun _ _ _ _ h hb=>by obtain⟨y,h1,h2⟩:=h;exact⟨y,h1,h2.below hb⟩) (fun _ _ _ _ _ _ h _=>by obtain⟨q,hq,_⟩:=h;exact absurd hq (ah _)) (by rfl) (fun T xs wr hA=>?_) ?_
  ·have ki:=(hA.be 0 (au _) (fun _ _=>au _)).size;have MY:=hA.tm 0 18 (by rfl) (by rfl);have f18:xs 0=_:=hA.fa 0 (by rfl)
   (try simp (disch:=first | rfl | decide) only [R7.ai] at f18)
   rw[f18] at MY;clear f18;have Lh:=hA.tm 4 22 (by rfl) (by rfl);have f22:xs 4=_:=hA.fa 4 (by rfl)
   (try simp (disch:=first | rfl | decide) only [R7.ai] at f22)
   rw[f22] at Lh;clear f22;have dK:=aT (hA.be x2.heap.size (ak _) (fun q h=>absurd h (ah q)));have jd:=cg.out.below dK;clear hA;refine⟨(by rfl),fun K hK=>?_⟩;go_simp
   refine (IN _ _ env p S _ jd (HE.out.below dK) nr.out HP.out nn.out).mono ?_;rintro e w' ⟨y,rfl,hy,hb'⟩;exact hK.out _ _ ⟨y,rfl,hy⟩ hb'
  refine R7.az.bT ?_ (by rfl) (fun T xs wr hA=>?_) ?_
  rotate_left 1
  ·have e2:=hA.pre 2 (by kernel_rfl);simp only[eY,fD,fm] at e2;have aP:wr.heap[ke]?=_:=(hA.bl _ nZ (fun q h=>absurd h (ah _))).trans iU.out;have q0:=ae (v:=.slice eo en ec) aP 0 rfl;clear aP;clear hA;refine⟨(by rfl),?_⟩;go_simp<;>(try with_reducible rfl)
  refine R7.az.bT ?_ (by rfl) (fun T xs wr hA=>?_) ?_
  rotate_left 1
  ·have e3:=hA.pre 3 (by kernel_rfl);simp only[eY,fD,fm] at e3;clear hA;refine⟨(by rfl),?_⟩;go_simp<;>(try with_reducible rfl)
  refine R7.az.bT ?_ (by rfl) (fun T xs wr hA=>?_) ?_
  rotate_left 1
  ·have Qf:=hA.tm 7 25 (by rfl) (by rfl);have f25:xs 7=_:=hA.fa 7 (by rfl)
   (try simp (disch:=first | rfl | decide) only [R7.ai] at f25)
   rw[f25] at Qf;clear f25;have aP:wr.heap[kf]?=_:=(hA.bl _ cK (fun q h=>absurd h (ah _))).trans aj.out;have q0:=ae (v:=.int .i64 15) aP 0 rfl;have q1:=ae (v:=.bool b) aP 1 rfl;have q2:=ae (v:=.slice ao l c) aP 2 rfl;have q3:=ae (v:=.string nm) aP 3 rfl;have q4:=ae (v:=.slice (some a) 2 kc) aP 4 rfl;clear aP;clear hA;refine⟨(by rfl),?_⟩;go_simp<;>(try with_reducible rfl)
  refine R7.az.bT ?_ (by rfl) (fun T xs wr hA=>?_) ?_
  rotate_left 1
  ·have DN:=hA.tm 8 26 (by rfl) (by rfl);have f26:xs 8=_:=hA.fa 8 (by rfl)
   (try simp (disch:=first | rfl | decide) only [R7.ai] at f26)
   rw[f26] at DN;clear f26;clear hA;refine⟨(by rfl),?_⟩;go_simp<;>(try with_reducible rfl)
  refine R7.az.bT ?_ (by rfl) (fun T xs wr hA=>?_) ?_
  rotate_left 1
  ·have Qe:=hA.tm 9 27 (by rfl) (by rfl);have f27:xs 9=_:=hA.fa 9 (by rfl)
   (try simp (disch:=first | rfl | decide) only [R7.ai] at f27)
   rw[f27] at Qe;clear f27;have dK:=aT (hA.be x2.heap.size (ak _) (fun q h=>absurd h (ah q)));obtain⟨q0,q1,q2,q3,q4⟩:=gM.out.below dK
   try simp only at q0 q1 q2 q3 q4
   clear hA;refine⟨(by rfl),?_⟩;go_simp<;>(try with_reducible rfl)
  refine R7.az.call (fun xs v w=>∃ y,v=y/\CI w y (fM (ev (a_ env) q)) 600) (fun _ _ _ _ h hb=>by obtain⟨y,h1,h2⟩:=h;exact⟨y,h1,h2.below hb⟩) (fun _ _ _ _ _ _ h _=>by obtain⟨q,hq,_⟩:=h;exact absurd hq (ah _)) (by rfl) (fun T xs wr hA=>?_) ?_
  ·have ki:=(hA.be 0 (au _) (fun _ _=>au _)).size;have KD:=hA.tm 6 24 (by rfl) (by rfl);have f24:xs 6=_:=hA.fa 6 (by rfl)
   (try simp (disch:=first | rfl | decide) only [R7.ai] at f24)
   rw[f24] at KD;clear f24;have Qd:=hA.tm 10 28 (by rfl) (by rfl);have f28:xs 10=_:=hA.fa 10 (by rfl)
   (try simp (disch:=first | rfl | decide) only [R7.ai] at f28)
   rw[f28] at Qd;clear f28;have dK:=aT (hA.be x2.heap.size (ak _) (fun q h=>absurd h (ah q)));have jd:=fW.out.below dK;clear hA;refine⟨(by rfl),fun K hK=>?_⟩;go_simp
   refine (IN _ _ env q S _ jd (HE.out.below dK) wY.out HQ.out wX.out).mono ?_;rintro e w' ⟨y,rfl,hy,hb'⟩;exact hK.out _ _ ⟨y,rfl,hy⟩ hb'
  refine R7.az.call (fun xs v w=>v=.int .i64 (eK (fM (ev (a_ env) p) - fM (ev (a_ env) q)))) (fun _ _ _ _ h _=>h) (fun _ _ _ _ _ h _ _=>h) (by rfl) (fun T xs wr hA=>?_) ?_
  ·have ki:=(hA.be 0 (au _) (fun _ _=>au _)).size;have Lg:=hA.tm 5 23 (by rfl) (by rfl);have R6:=hA.tm 11 29 (by rfl) (by rfl);have MB:∃ y,(xs 5)=y/\CI wr y (fM (ev (a_ env) p)) 600:=hA.fa 5 (by rfl);obtain⟨y5,e5,LR⟩:=MB;have BF:∃ y,(xs 11)=y/\CI wr y (fM (ev (a_ env) q)) 600:=hA.fa 11 (by rfl);obtain⟨SF,Gk,EU⟩:=BF;clear hA;refine⟨(by rfl),fun K hK=>?_⟩;go_simp
   refine (vY _ _ (fM (ev (a_ env) p)) (fM (ev (a_ env) q)) 600 600 _ (by first | exact LR.gi | (rw[e5];exact LR.gi)) (by first | exact EU.gi | (rw[Gk];exact EU.gi)) (by decide) (by decide)).mono ?_;rintro e w' ⟨rfl,hb'⟩;exact hK.out _ _ rfl hb'
  refine R7.az.bT ?_ (by rfl) (fun T xs wr hA=>?_) ?_
  rotate_left 1
  ·have Lf:=hA.tm 12 30 (by rfl) (by rfl);have f30:xs 12=(.int .i64 (eK (fM (ev (a_ env) p) - fM (ev (a_ env) q)))):=hA.fa 12 (by rfl);rw[f30] at Lf;clear f30;clear hA;refine⟨(by rfl),?_⟩;go_simp<;>(try with_reducible rfl)
  refine R7.az.bT ?_ (by rfl) (fun T xs wr hA=>?_) ?_
  rotate_left 1
  ·have N0:=hA.tm 13 31 (by rfl) (by rfl);have f31:xs 13=_:=hA.fa 13 (by rfl)
   (try simp (disch:=first | rfl | decide) only [R7.ai] at f31)
   rw[f31] at N0;clear f31;clear hA;refine⟨(by rfl),?_⟩;go_simp<;>(try with_reducible rfl)
  refine R7.az.done (fun xs x3 hL=>?_);obtain⟨⟨ei,cG⟩,hf,-,-⟩:=hL;have f0:xs 0=_:=hf 0 (by decide)
  (try simp (disch:=first | rfl | decide) only [R7.ai] at f0)
  have f1:xs 1=_:=hf 1 (by decide)
  (try simp (disch:=first | rfl | decide) only [R7.ai] at f1)
  have f2:xs 2=_:=hf 2 (by decide)
  (try simp (disch:=first | rfl | decide) only [R7.ai] at f2)
  have f3:xs 3=_:=hf 3 (by decide)
  (try simp (disch:=first | rfl | decide) only [R7.ai] at f3)
  have f4:xs 4=_:=hf 4 (by decide)
  (try simp (disch:=first | rfl | decide) only [R7.ai] at f4)
  have F5:∃ y,(xs 5)=y/\CI x3 y (fM (ev (a_ env) p)) 600:=hf 5 (by decide);have f6:xs 6=_:=hf 6 (by decide)
  (try simp (disch:=first | rfl | decide) only [R7.ai] at f6)
  have f7:xs 7=_:=hf 7 (by decide)
  (try simp (disch:=first | rfl | decide) only [R7.ai] at f7)
  have f8:xs 8=_:=hf 8 (by decide)
  (try simp (disch:=first | rfl | decide) only [R7.ai] at f8)
  have f9:xs 9=_:=hf 9 (by decide)
  (try simp (disch:=first | rfl | decide) only [R7.ai] at f9)
  have f10:xs 10=_:=hf 10 (by decide)
  (try simp (disch:=first | rfl | decide) only [R7.ai] at f10)
  have Oh:∃ y,(xs 11)=y/\CI x3 y (fM (ev (a_ env) q)) 600:=hf 11 (by decide);have f12:xs 12=(.int .i64 (eK (fM (ev (a_ env) p) - fM (ev (a_ env) q)))):=hf 12 (by decide);have f13:xs 13=_:=hf 13 (by decide)
  (try simp (disch:=first | rfl | decide) only [R7.ai] at f13)
  have f14:xs 14=_:=hf 14 (by decide)
  (try simp (disch:=first | rfl | decide) only [R7.ai] at f14)
  have hb0:aC 0 x2 x3:=aT (ei 0 (au _) (fun _ _=>au _));have jR:∀ j,j<x2.heap.size->(∀ q,q<0->(fun q=>0) q≠j)->x3.heap[j]?=x2.heap[j]?:=cG;clear ei cG hf;have hb:aC x2.heap.size x2 x3:=⟨hb0.os,hb0.tape,hb0.output,hb0.size,fun q hq=>jR q hq (fun q h=>absurd h (ah _))⟩
  refine R7.gg ?_;simp only[R7.fill,xz,xy,xx,f0,f1,f2,f3,f4,f6,f7,f8,f9,f10,f12,f13,f14];clear hb0 jR fK nZ cK f0 f1 f2 f3 f4 f6 f7 f8 f9 f10 f12 f13 f14;replace iU:=aG hb iU;replace aj:=aG hb aj;replace HX:=aa (HX.out.below hb);replace HE:=aa (HE.out.below hb);replace HW:=aa (HW.out.trans (hb.mono HW.out.size));replace cg:=aa (cg.out.below hb);replace dj:=aa (dj.out.below hb);replace fW:=aa (fW.out.below hb);replace gM:=aa (gM.out.below hb);replace hb:=aa hb;go_wp2_with fail
  go_ret
  refine⟨?_,HW.out⟩
  have hle:decide (eK (fM (ev (a_ env) p) - fM (ev (a_ env) q))<=0)=decide (fM (ev (a_ env) p)<=fM (ev (a_ env) q)):=by
   unfold eK;congr 1;apply propext;(repeat' split)<;>constructor<;>intro h<;>first | omega | (exfalso;omega)
  rw[gN.out]
  show Ending.returned _=Ending.returned (.bool (decide (fM (ev (a_ env) p)<=fM (ev (a_ env) q))))
  rw[<-hle];rfl
 ·have HX:=aa hk;have HE:=aa he;have cC:=aa eR;have HW:=aa (av w.heap.size w);have hh:fP ks=[0,0]\/fP ks=[2,2]:=by simpa [cO,bB] using hfit
  obtain⟨p,q,rfl⟩:∃ p q,ks=[p,q]:=by rcases hh with hh | hh<;>(obtain⟨p,q,rfl,-,-⟩:=iZ hh;exact⟨p,q,rfl⟩)
  have hp:=trivial;have hq:=trivial;have nn:=aa (dF.kG p (by simp));have nr:=aa (fy p (by simp));have HP:=aa hp;have wX:=aa (dF.kG q (by simp));have wY:=aa (fy q (by simp));have HQ:=aa hq;have gN:Hid (gX (ev (a_ env) (.node 16 z nm [p,q]))=gX (qJ (a_ env) 16 z nm [ev (a_ env) p,ev (a_ env) q])):=aa (by rw[ev,iH,iH,iH]);have gW:kl=2:=cC.out;subst gW;clear hk he dF fy hfit eR cC hp hq;clear hh;go_enter jr,iI
  obtain⟨x1,ke,ee,Jk,ei,Jb,iU⟩:=aL w #[.slice eo en ec] 154;replace HX:=aa (HX.out.below ei.out);replace HE:=aa (HE.out.below ei.out);replace HW:=aa (HW.out.trans (ei.out.mono HW.out.size));obtain⟨x2,kf,ef,hO,aR,gL,aj⟩:=aL x1 #[.int .i64 16,.bool b,.slice ao l c,.string nm,.slice ko 2 kc] 29;replace iU:=aG aR.out iU;replace HX:=aa (HX.out.below aR.out);replace HE:=aa (HE.out.below aR.out);replace HW:=aa (HW.out.trans (aR.out.mono HW.out.size));have e0:=ae (v:=.slice eo en ec) iU.out 0 rfl;have y9:=af iU.out 0;have c0:=ae (v:=.int .i64 16) aj.out 0 rfl;have bM:=af aj.out 0;have c1:=ae (v:=.bool b) aj.out 1 rfl;have bL:=af aj.out 1;have c2:=ae (v:=.slice ao l c) aj.out 2 rfl;have bK:=af aj.out 2
  have c3:=ae (v:=.string nm) aj.out 3 rfl;have bJ:=af aj.out 3;have c4:=ae (v:=.slice ko 2 kc) aj.out 4 rfl;have bI:=af aj.out 4;obtain⟨a,bp,op,lp,cp,pP,pQ,pR,gV,⟨p0,p1,p2,p3,p4⟩,fB⟩:=HX.out.first;subst gV;obtain⟨pI,dH⟩:∃ x,x=p.op:=⟨_,rfl⟩
  obtain⟨pL,dI⟩:∃ x,x=p.name:=⟨_,rfl⟩
  rw[<-dH] at p0 fB;rw[<-dI] at p3 fB;have cg:=aa fB;have dj:Hid (sC x2 a pI bp op lp cp pL pP pQ pR):=aa ⟨p0,p1,p2,p3,p4⟩;clear dH dI fB p0 p1 p2 p3 p4;obtain⟨a2,bq,oq,lq,cq,vt,vu,vv,ou,⟨q0,q1,q2,q3,q4⟩,jd⟩:=HX.out.second;injection ou with tA;subst tA;obtain⟨vJ,js⟩:∃ x,x=q.op:=⟨_,rfl⟩
  obtain⟨vK,jt⟩:∃ x,x=q.name:=⟨_,rfl⟩
  rw[<-js] at q0 jd;rw[<-jt] at q3 jd;have fW:=aa jd;have gM:Hid (sC x2 ⟨a.block,a.off+5,none⟩ vJ bq oq lq cq vK vt vu vv):=aa ⟨q0,q1,q2,q3,q4⟩;clear js jt jd q0 q1 q2 q3 q4;go_upto_region 9 with fail
  clear e0 y9 c0 bM c1 bL c2 bK c3 bJ c4 bI;have nZ:=ag iU.out;have cK:=ag aj.out;have fK:Hid (∀ q,q<0->(fun q=>0) q<x2.heap.size):=aa (fun q h=>absurd h (ah _));refine R7.region (by kernel_rfl) [[],[],[1],[1,2],[1,2,3],[0,1,2,3,4],[],[],[7],[7,8],[7,8,9],[0,1,2,3,4,5,6,7,8,9,10],[0,1,2,3,4,5,6,7,8,9,10,11],[0,1,2,3,4,5,6,7,8,9,10,11,12]] [] [] (fun q=>0) 0 14 (by kernel_rfl) (by kernel_rfl) (by rfl) fK.out (fun q q' h h' hn=>absurd hn (by omega)) ?_;refine R7.az.bT ?_ (by rfl) (fun T xs wr hA=>?_) ?_
  rotate_left 1
  ·have e2:=hA.pre 2 (by kernel_rfl);simp only[eY,fD,fm] at e2;have aP:wr.heap[ke]?=_:=(hA.bl _ nZ (fun q h=>absurd h (ah _))).trans iU.out;have q0:=ae (v:=.slice eo en ec) aP 0 rfl;clear aP;clear hA;refine⟨(by rfl),?_⟩;go_simp<;>(try with_reducible rfl)
  refine R7.az.bT ?_ (by rfl) (fun T xs wr hA=>?_) ?_
  rotate_left 1
  ·have e3:=hA.pre 3 (by kernel_rfl);simp only[eY,fD,fm] at e3;clear hA;refine⟨(by rfl),?_⟩;go_simp<;>(try with_reducible rfl)
  refine R7.az.bT ?_ (by rfl) (fun T xs wr hA=>?_) ?_
  rotate_left 1
  ·have MW:=hA.tm 1 35 (by rfl) (by rfl);have f35:xs 1=_:=hA.fa 1 (by rfl)
   (try simp (disch:=first | rfl | decide) only [R7.ai] at f35)
   rw[f35] at MW;clear f35;have aP:wr.heap[kf]?=_:=(hA.bl _ cK (fun q h=>absurd h (ah _))).trans aj.out;have q0:=ae (v:=.int .i64 16) aP 0 rfl;have q1:=ae (v:=.bool b) aP 1 rfl;have q2:=ae (v:=.slice ao l c) aP 2 rfl;have q3:=ae (v:=.string nm) aP 3 rfl;have q4:=ae (v:=.slice (some a) 2 kc) aP 4 rfl;clear aP;clear hA;refine⟨(by rfl),?_⟩;go_simp<;>(try with_reducible rfl)
  refine R7.az.bT ?_ (by rfl) (fun T xs wr hA=>?_) ?_
  rotate_left 1
  ·have Dq:=hA.tm 2 36 (by rfl) (by rfl);have f36:xs 2=_:=hA.fa 2 (by rfl)
   (try simp (disch:=first | rfl | decide) only [R7.ai] at f36)
   rw[f36] at Dq;clear f36;clear hA;refine⟨(by rfl),?_⟩;go_simp<;>(try with_reducible rfl)
  refine R7.az.bT ?_ (by rfl) (fun T xs wr hA=>?_) ?_
  rotate_left 1
  ·have BQ:=hA.tm 3 37 (by rfl) (by rfl);have f37:xs 3=_:=hA.fa 3 (by rfl)
   (try simp (disch:=first | rfl | decide) only [R7.ai] at f37)
   rw[f37] at BQ;clear f37;have dK:=aT (hA.be x2.heap.size (ak _) (fun q h=>absurd h (ah q)));obtain⟨q0,q1,q2,q3,q4⟩:=dj.out.below dK
   try simp only at q0 q1 q2 q3 q4
   clear hA;refine⟨(by rfl),?_⟩;go_simp<;>(try with_reducible rfl)
  refine R7.az.call (fun xs v w=>∃ y,v=y/\VC w y (ev (a_ env) p)) (fun _ _ _ _ h hb=>by obtain⟨y,h1,h2⟩:=h;exact⟨y,h1,h2.below hb⟩) (fun _ _ _ _ _ _ h _=>by obtain⟨q,hq,_⟩:=h;exact absurd hq (ah _)) (by rfl) (fun T xs wr hA=>?_) ?_
  ·have ki:=(hA.be 0 (au _) (fun _ _=>au _)).size;have MX:=hA.tm 0 34 (by rfl) (by rfl);have f34:xs 0=_:=hA.fa 0 (by rfl)
   (try simp (disch:=first | rfl | decide) only [R7.ai] at f34)
   rw[f34] at MX;clear f34;have BP:=hA.tm 4 38 (by rfl) (by rfl);have f38:xs 4=_:=hA.fa 4 (by rfl)
   (try simp (disch:=first | rfl | decide) only [R7.ai] at f38)
   rw[f38] at BP;clear f38;have dK:=aT (hA.be x2.heap.size (ak _) (fun q h=>absurd h (ah q)));have jd:=cg.out.below dK;clear hA;refine⟨(by rfl),fun K hK=>?_⟩;go_simp
   refine (IV _ _ env p S _ jd (HE.out.below dK) nr.out nn.out).mono ?_;rintro e w' ⟨y,rfl,hy,hb'⟩;exact hK.out _ _ ⟨y,rfl,hy⟩ hb'
  refine R7.az.bT ?_ (by rfl) (fun T xs wr hA=>?_) ?_
  rotate_left 1
  ·have e2:=hA.pre 2 (by kernel_rfl);simp only[eY,fD,fm] at e2;have aP:wr.heap[ke]?=_:=(hA.bl _ nZ (fun q h=>absurd h (ah _))).trans iU.out;have q0:=ae (v:=.slice eo en ec) aP 0 rfl;clear aP;clear hA;refine⟨(by rfl),?_⟩;go_simp<;>(try with_reducible rfl)
  refine R7.az.bT ?_ (by rfl) (fun T xs wr hA=>?_) ?_
  rotate_left 1
  ·have e3:=hA.pre 3 (by kernel_rfl);simp only[eY,fD,fm] at e3;clear hA;refine⟨(by rfl),?_⟩;go_simp<;>(try with_reducible rfl)
  refine R7.az.bT ?_ (by rfl) (fun T xs wr hA=>?_) ?_
  rotate_left 1
  ·have BN:=hA.tm 7 41 (by rfl) (by rfl);have f41:xs 7=_:=hA.fa 7 (by rfl)
   (try simp (disch:=first | rfl | decide) only [R7.ai] at f41)
   rw[f41] at BN;clear f41;have aP:wr.heap[kf]?=_:=(hA.bl _ cK (fun q h=>absurd h (ah _))).trans aj.out;have q0:=ae (v:=.int .i64 16) aP 0 rfl;have q1:=ae (v:=.bool b) aP 1 rfl;have q2:=ae (v:=.slice ao l c) aP 2 rfl;have q3:=ae (v:=.string nm) aP 3 rfl;have q4:=ae (v:=.slice (some a) 2 kc) aP 4 rfl;clear aP;clear hA;refine⟨(by rfl),?_⟩;go_simp<;>(try with_reducible rfl)
  refine R7.az.bT ?_ (by rfl) (fun T xs wr hA=>?_) ?_
  rotate_left 1
  ·have AY:=hA.tm 8 42 (by rfl) (by rfl);have f42:xs 8=_:=hA.fa 8 (by rfl)
   (try simp (disch:=first | rfl | decide) only [R7.ai] at f42)
   rw[f42] at AY;clear f42;clear hA;refine⟨(by rfl),?_⟩;go_simp<;>(try with_reducible rfl)
  refine R7.az.bT ?_ (by rfl) (fun T xs wr hA=>?_) ?_
  rotate_left 1
  ·have uA:=hA.tm 9 43 (by rfl) (by rfl);have f43:xs 9=_:=hA.fa 9 (by rfl)
   (try simp (disch:=first | rfl | decide) only [R7.ai] at f43)
   rw[f43] at uA;clear f43;have dK:=aT (hA.be x2.heap.size (ak _) (fun q h=>absurd h (ah q)));obtain⟨q0,q1,q2,q3,q4⟩:=gM.out.below dK
   try simp only at q0 q1 q2 q3 q4
   clear hA;refine⟨(by rfl),?_⟩;go_simp<;>(try with_reducible rfl)
  refine R7.az.call (fun xs v w=>∃ y,v=y/\VC w y (ev (a_ env) q)) (fun _ _ _ _ h hb=>by obtain⟨y,h1,h2⟩:=h;exact⟨y,h1,h2.below hb⟩) (fun _ _ _ _ _ _ h _=>by obtain⟨q,hq,_⟩:=h;exact absurd hq (ah _)) (by rfl) (fun T xs wr hA=>?_) ?_
  ·have ki:=(hA.be 0 (au _) (fun _ _=>au _)).size;have BO:=hA.tm 6 40 (by rfl) (by rfl);have f40:xs 6=_:=hA.fa 6 (by rfl)
   (try simp (disch:=first | rfl | decide) only [R7.ai] at f40)
   rw[f40] at BO;clear f40;have uz:=hA.tm 10 44 (by rfl) (by rfl);have f44:xs 10=_:=hA.fa 10 (by rfl)
   (try simp (disch:=first | rfl | decide) only [R7.ai] at f44)
   rw[f44] at uz;clear f44;have dK:=aT (hA.be x2.heap.size (ak _) (fun q h=>absurd h (ah q)));have jd:=fW.out.below dK;clear hA;refine⟨(by rfl),fun K hK=>?_⟩;go_simp
   refine (IV _ _ env q S _ jd (HE.out.below dK) wY.out wX.out).mono ?_;rintro e w' ⟨y,rfl,hy,hb'⟩;exact hK.out _ _ ⟨y,rfl,hy⟩ hb'
  refine R7.az.call (fun xs v w=>v=.bool (decide (ev (a_ env) p=ev (a_ env) q))) (fun _ _ _ _ h _=>h) (fun _ _ _ _ _ h _ _=>h) (by rfl) (fun T xs wr hA=>?_) ?_
  ·have ki:=(hA.be 0 (au _) (fun _ _=>au _)).size;have CA:=hA.tm 5 39 (by rfl) (by rfl);have vf:=hA.tm 11 45 (by rfl) (by rfl);have MB:∃ y,(xs 5)=y/\VC wr y (ev (a_ env) p):=hA.fa 5 (by rfl);obtain⟨y5,e5,LR⟩:=MB;have BF:∃ y,(xs 11)=y/\VC wr y (ev (a_ env) q):=hA.fa 11 (by rfl);obtain⟨SF,Gk,EU⟩:=BF;clear hA;refine⟨(by rfl),fun K hK=>?_⟩;go_simp
   refine (Bf _ _ (ev (a_ env) p) (ev (a_ env) q) _ (by first | exact LR | (rw[e5];exact LR)) (by first | exact EU | (rw[Gk];exact EU))).mono ?_;rintro e w' ⟨rfl,hb'⟩;exact hK.out _ _ rfl hb'
  refine R7.az.bT ?_ (by rfl) (fun T xs wr hA=>?_) ?_
  rotate_left 1
  ·have tR:=hA.tm 12 46 (by rfl) (by rfl);have f46:xs 12=(.bool (decide (ev (a_ env) p=ev (a_ env) q))):=hA.fa 12 (by rfl);rw[f46] at tR;clear f46;clear hA;refine⟨(by rfl),?_⟩;go_simp<;>(try with_reducible rfl)
  refine R7.az.done (fun xs x3 hL=>?_);obtain⟨⟨ei,cG⟩,hf,-,-⟩:=hL;have f0:xs 0=_:=hf 0 (by decide)
  (try simp (disch:=first | rfl | decide) only [R7.ai] at f0)
  have f1:xs 1=_:=hf 1 (by decide)
  (try simp (disch:=first | rfl | decide) only [R7.ai] at f1)
  have f2:xs 2=_:=hf 2 (by decide)
  (try simp (disch:=first | rfl | decide) only [R7.ai] at f2)
  have f3:xs 3=_:=hf 3 (by decide)
  (try simp (disch:=first | rfl | decide) only [R7.ai] at f3)
  have f4:xs 4=_:=hf 4 (by decide)
  (try simp (disch:=first | rfl | decide) only [R7.ai] at f4)
  have F5:∃ y,(xs 5)=y/\VC x3 y (ev (a_ env) p):=hf 5 (by decide);have f6:xs 6=_:=hf 6 (by decide)
  (try simp (disch:=first | rfl | decide) only [R7.ai] at f6)
  have f7:xs 7=_:=hf 7 (by decide)
  (try simp (disch:=first | rfl | decide) only [R7.ai] at f7)
  have f8:xs 8=_:=hf 8 (by decide)
  (try simp (disch:=first | rfl | decide) only [R7.ai] at f8)
  have f9:xs 9=_:=hf 9 (by decide)
  (try simp (disch:=first | rfl | decide) only [R7.ai] at f9)
  have f10:xs 10=_:=hf 10 (by decide)
  (try simp (disch:=first | rfl | decide) only [R7.ai] at f10)
  have Oh:∃ y,(xs 11)=y/\VC x3 y (ev (a_ env) q):=hf 11 (by decide);have f12:xs 12=(.bool (decide (ev (a_ env) p=ev (a_ env) q))):=hf 12 (by decide);have f13:xs 13=_:=hf 13 (by decide)
  (try simp (disch:=first | rfl | decide) only [R7.ai] at f13)
  have hb0:aC 0 x2 x3:=aT (ei 0 (au _) (fun _ _=>au _));have jR:∀ j,j<x2.heap.size->(∀ q,q<0->(fun q=>0) q≠j)->x3.heap[j]?=x2.heap[j]?:=cG;clear ei cG hf;have hb:aC x2.heap.size x2 x3:=⟨hb0.os,hb0.tape,hb0.output,hb0.size,fun q hq=>jR q hq (fun q h=>absurd h (ah _))⟩
  refine R7.gg ?_;simp only[R7.fill,xz,xy,xx,f0,f1,f2,f3,f4,f6,f7,f8,f9,f10,f12,f13];clear hb0 jR fK nZ cK f0 f1 f2 f3 f4 f6 f7 f8 f9 f10 f12 f13;replace iU:=aG hb iU;replace aj:=aG hb aj;replace HX:=aa (HX.out.below hb);replace HE:=aa (HE.out.below hb);replace HW:=aa (HW.out.trans (hb.mono HW.out.size));replace cg:=aa (cg.out.below hb);replace dj:=aa (dj.out.below hb);replace fW:=aa (fW.out.below hb);replace gM:=aa (gM.out.below hb);replace hb:=aa hb;go_wp2_with fail
  go_ret
  refine⟨?_,HW.out⟩;rw[gN.out];rfl
 ·have HX:=aa hk;have HE:=aa he;have cC:=aa eR;have HW:=aa (av w.heap.size w);obtain⟨p,rfl,hp⟩:=i_ (ks:=ks) (s:=1) (by simpa [cO,bB] using hfit);have nn:=aa (dF.kG p (by simp));have nr:=aa (fy p (by simp));have HP:=aa hp;have gN:Hid (gX (ev (a_ env) (.node 17 z nm [p]))=gX (qJ (a_ env) 17 z nm [ev (a_ env) p])):=aa (by rw[ev,iH,iH]);have gW:kl=1:=cC.out;subst gW;clear hk he dF fy hfit eR cC hp;go_enter jr,iI
  obtain⟨x1,ke,ee,Jk,ei,Jb,iU⟩:=aL w #[.slice eo en ec] 154;replace HX:=aa (HX.out.below ei.out);replace HE:=aa (HE.out.below ei.out);replace HW:=aa (HW.out.trans (ei.out.mono HW.out.size));obtain⟨x2,kf,ef,hO,aR,gL,aj⟩:=aL x1 #[.int .i64 17,.bool b,.slice ao l c,.string nm,.slice ko 1 kc] 29;replace iU:=aG aR.out iU;replace HX:=aa (HX.out.below aR.out);replace HE:=aa (HE.out.below aR.out);replace HW:=aa (HW.out.trans (aR.out.mono HW.out.size));have e0:=ae (v:=.slice eo en ec) iU.out 0 rfl;have y9:=af iU.out 0;have c0:=ae (v:=.int .i64 17) aj.out 0 rfl;have bM:=af aj.out 0;have c1:=ae (v:=.bool b) aj.out 1 rfl;have bL:=af aj.out 1;have c2:=ae (v:=.slice ao l c) aj.out 2 rfl;have bK:=af aj.out 2
  have c3:=ae (v:=.string nm) aj.out 3 rfl;have bJ:=af aj.out 3;have c4:=ae (v:=.slice ko 1 kc) aj.out 4 rfl;have bI:=af aj.out 4;obtain⟨a,bp,op,lp,cp,pP,pQ,pR,gV,⟨p0,p1,p2,p3,p4⟩,fB⟩:=HX.out.first;subst gV;obtain⟨pI,dH⟩:∃ x,x=p.op:=⟨_,rfl⟩
  obtain⟨pL,dI⟩:∃ x,x=p.name:=⟨_,rfl⟩
  rw[<-dH] at p0 fB;rw[<-dI] at p3 fB;have cg:=aa fB;have dj:Hid (sC x2 a pI bp op lp cp pL pP pQ pR):=aa ⟨p0,p1,p2,p3,p4⟩;clear dH dI fB p0 p1 p2 p3 p4;go_upto_region 13 with fail
  clear e0 y9 c0 bM c1 bL c2 bK c3 bJ c4 bI;have nZ:=ag iU.out;have cK:=ag aj.out;have fK:Hid (∀ q,q<0->(fun q=>0) q<x2.heap.size):=aa (fun q h=>absurd h (ah _));refine R7.region (by kernel_rfl) [[],[],[1],[1,2],[1,2,3],[0,1,2,3,4],[0,1,2,3,4,5],[0,1,2,3,4,5,6]] [] [] (fun q=>0) 0 8 (by kernel_rfl) (by kernel_rfl) (by rfl) fK.out (fun q q' h h' hn=>absurd hn (by omega)) ?_;refine R7.az.bT ?_ (by rfl) (fun T xs wr hA=>?_) ?_
  rotate_left 1
  ·have e2:=hA.pre 2 (by kernel_rfl);simp only[eY,fD,fm] at e2;have aP:wr.heap[ke]?=_:=(hA.bl _ nZ (fun q h=>absurd h (ah _))).trans iU.out;have q0:=ae (v:=.slice eo en ec) aP 0 rfl;clear aP;clear hA;refine⟨(by rfl),?_⟩;go_simp<;>(try with_reducible rfl)
  refine R7.az.bT ?_ (by rfl) (fun T xs wr hA=>?_) ?_
  rotate_left 1
  ·have e3:=hA.pre 3 (by kernel_rfl);simp only[eY,fD,fm] at e3;clear hA;refine⟨(by rfl),?_⟩;go_simp<;>(try with_reducible rfl)
  refine R7.az.bT ?_ (by rfl) (fun T xs wr hA=>?_) ?_
  rotate_left 1
  ·have P5:=hA.tm 1 65 (by rfl) (by rfl);have f65:xs 1=_:=hA.fa 1 (by rfl)
   (try simp (disch:=first | rfl | decide) only [R7.ai] at f65)
   rw[f65] at P5;clear f65;have aP:wr.heap[kf]?=_:=(hA.bl _ cK (fun q h=>absurd h (ah _))).trans aj.out;have q0:=ae (v:=.int .i64 17) aP 0 rfl;have q1:=ae (v:=.bool b) aP 1 rfl;have q2:=ae (v:=.slice ao l c) aP 2 rfl;have q3:=ae (v:=.string nm) aP 3 rfl;have q4:=ae (v:=.slice (some a) 1 kc) aP 4 rfl;clear aP;clear hA;refine⟨(by rfl),?_⟩;go_simp<;>(try with_reducible rfl)
  refine R7.az.bT ?_ (by rfl) (fun T xs wr hA=>?_) ?_
  rotate_left 1
  ·have P4:=hA.tm 2 66 (by rfl) (by rfl);have f66:xs 2=_:=hA.fa 2 (by rfl)
   (try simp (disch:=first | rfl | decide) only [R7.ai] at f66)
   rw[f66] at P4;clear f66;clear hA;refine⟨(by rfl),?_⟩;go_simp<;>(try with_reducible rfl)
  refine R7.az.bT ?_ (by rfl) (fun T xs wr hA=>?_) ?_
  rotate_left 1
  ·have P2:=hA.tm 3 67 (by rfl) (by rfl);have f67:xs 3=_:=hA.fa 3 (by rfl)
   (try simp (disch:=first | rfl | decide) only [R7.ai] at f67)
   rw[f67] at P2;clear f67;have dK:=aT (hA.be x2.heap.size (ak _) (fun q h=>absurd h (ah q)));obtain⟨q0,q1,q2,q3,q4⟩:=dj.out.below dK
   try simp only at q0 q1 q2 q3 q4
   clear hA;refine⟨(by rfl),?_⟩;go_simp<;>(try with_reducible rfl)
  refine R7.az.call (fun xs v w=>v=.bool (gX (ev (a_ env) p))) (fun _ _ _ _ h _=>h) (fun _ _ _ _ _ h _ _=>h) (by rfl) (fun T xs wr hA=>?_) ?_
  ·have ki:=(hA.be 0 (au _) (fun _ _=>au _)).size;have R3:=hA.tm 0 64 (by rfl) (by rfl);have f64:xs 0=_:=hA.fa 0 (by rfl)
   (try simp (disch:=first | rfl | decide) only [R7.ai] at f64)
   rw[f64] at R3;clear f64;have P0:=hA.tm 4 68 (by rfl) (by rfl);have f68:xs 4=_:=hA.fa 4 (by rfl)
   (try simp (disch:=first | rfl | decide) only [R7.ai] at f68)
   rw[f68] at P0;clear f68;have dK:=aT (hA.be x2.heap.size (ak _) (fun q h=>absurd h (ah q)));have jd:=cg.out.below dK;clear hA;refine⟨(by rfl),fun K hK=>?_⟩;go_simp
   refine (IT _ _ env p S _ jd (HE.out.below dK) nr.out HP.out nn.out).mono ?_;rintro e w' ⟨rfl,hb'⟩;exact hK.out _ _ rfl hb'
  refine R7.az.bT ?_ (by rfl) (fun T xs wr hA=>?_) ?_
  rotate_left 1
  ·have UG:=hA.tm 5 69 (by rfl) (by rfl);have f69:xs 5=(.bool (gX (ev (a_ env) p))):=hA.fa 5 (by rfl);rw[f69] at UG;clear f69;clear hA;refine⟨(by rfl),?_⟩;go_simp<;>(try with_reducible rfl)
  refine R7.az.bT ?_ (by rfl) (fun T xs wr hA=>?_) ?_
  rotate_left 1
  ·have UF:=hA.tm 6 70 (by rfl) (by rfl);have f70:xs 6=_:=hA.fa 6 (by rfl)
   (try simp (disch:=first | rfl | decide) only [R7.ai] at f70)
   rw[f70] at UF;clear f70;clear hA;refine⟨(by rfl),?_⟩;go_simp<;>(try with_reducible rfl)
  refine R7.az.done (fun xs x3 hL=>?_);obtain⟨⟨ei,cG⟩,hf,-,-⟩:=hL;have f0:xs 0=_:=hf 0 (by decide)
  (try simp (disch:=first | rfl | decide) only [R7.ai] at f0)
  have f1:xs 1=_:=hf 1 (by decide)
  (try simp (disch:=first | rfl | decide) only [R7.ai] at f1)
  have f2:xs 2=_:=hf 2 (by decide)
  (try simp (disch:=first | rfl | decide) only [R7.ai] at f2)
  have f3:xs 3=_:=hf 3 (by decide)
  (try simp (disch:=first | rfl | decide) only [R7.ai] at f3)
  have f4:xs 4=_:=hf 4 (by decide)
  (try simp (disch:=first | rfl | decide) only [R7.ai] at f4)
  have f5:xs 5=(.bool (gX (ev (a_ env) p))):=hf 5 (by decide);have f6:xs 6=_:=hf 6 (by decide)
  (try simp (disch:=first | rfl | decide) only [R7.ai] at f6)
  have f7:xs 7=_:=hf 7 (by decide)
  (try simp (disch:=first | rfl | decide) only [R7.ai] at f7)
  have hb0:aC 0 x2 x3:=aT (ei 0 (au _) (fun _ _=>au _));have jR:∀ j,j<x2.heap.size->(∀ q,q<0->(fun q=>0) q≠j)->x3.heap[j]?=x2.heap[j]?:=cG;clear ei cG hf;have hb:aC x2.heap.size x2 x3:=⟨hb0.os,hb0.tape,hb0.output,hb0.size,fun q hq=>jR q hq (fun q h=>absurd h (ah _))⟩
  refine R7.gg ?_;simp only[R7.fill,xz,xy,xx,f0,f1,f2,f3,f4,f5,f6,f7];clear hb0 jR fK nZ cK f0 f1 f2 f3 f4 f5 f6 f7;replace iU:=aG hb iU;replace aj:=aG hb aj;replace HX:=aa (HX.out.below hb);replace HE:=aa (HE.out.below hb);replace HW:=aa (HW.out.trans (hb.mono HW.out.size));replace cg:=aa (cg.out.below hb);replace dj:=aa (dj.out.below hb);replace hb:=aa hb;go_wp2_with fail
  go_ret
  refine⟨?_,HW.out⟩;rw[gN.out];rfl
 ·have HX:=aa hk;have HE:=aa he;have cC:=aa eR;have HW:=aa (av w.heap.size w)
  have hall:∀ f ∈ ks,jh f.op=1:=by
   have h1:(fP ks).all (fun s=>decide (s=1))=true:=by simpa [cO,bB] using hfit
   intro f hf;have:=List.all_eq_true.1 h1 (jh f.op) (List.mem_map.2 ⟨f,hf,rfl⟩)
   simpa using this
  have FZ:=aa hall;have vR:=aa fy;have rN:=aa dF;clear hk he dF fy hfit eR cC hall;go_enter jr,iI
  obtain⟨x1,ke,ee,Jk,ei,Jb,iU⟩:=aL w #[.slice eo en ec] 154;replace HX:=aa (HX.out.below ei.out);replace HE:=aa (HE.out.below ei.out);replace HW:=aa (HW.out.trans (ei.out.mono HW.out.size));obtain⟨x2,kf,ef,hO,aR,gL,aj⟩:=aL x1 #[.int .i64 18,.bool b,.slice ao l c,.string nm,.slice ko kl kc] 29;replace iU:=aG aR.out iU;replace HX:=aa (HX.out.below aR.out);replace HE:=aa (HE.out.below aR.out);replace HW:=aa (HW.out.trans (aR.out.mono HW.out.size));have e0:=ae (v:=.slice eo en ec) iU.out 0 rfl;have y9:=af iU.out 0;have c0:=ae (v:=.int .i64 18) aj.out 0 rfl;have bM:=af aj.out 0;have c1:=ae (v:=.bool b) aj.out 1 rfl;have bL:=af aj.out 1;have c2:=ae (v:=.slice ao l c) aj.out 2 rfl;have bK:=af aj.out 2
  have c3:=ae (v:=.string nm) aj.out 3 rfl;have bJ:=af aj.out 3;have c4:=ae (v:=.slice ko kl kc) aj.out 4 rfl;have bI:=af aj.out 4;go_wp2_with fail
  refine (zg _ ks (fun f=>!gX (ev (a_ env) f)) d S x2 ke HX.out (fun f hf v w' hb hv=>?_)).mono ?_
  ·exact D2 d IT eo en ec env ke v f S w' ((hb.block _ (ag iU.out)).trans iU.out) hv (HE.out.below hb) (vR.out f hf) (FZ.out f hf) (rN.out.kG f hf)
  rintro e x3 ⟨rfl,hb⟩;clear e0 y9 c0 bM c1 bL c2 bK c3 bJ c4 bI;replace iU:=aG hb iU;replace aj:=aG hb aj;replace HX:=aa (HX.out.below hb);replace HE:=aa (HE.out.below hb);replace HW:=aa (HW.out.trans (hb.mono HW.out.size));go_wp2_with fail
  go_ret
  refine⟨?_,HW.out⟩;rw[show gX (ev (a_ env) (.node 18 z nm ks)) = !(ks.any fun f=>!gX (ev (a_ env) f)) by rw[ev,lO];show (List.map (ev (a_ env)) ks).all gX=_;rw[List.all_map,List.not_any_eq_all_not];congr 1;funext f;simp]
  rfl
 ·have HX:=aa hk;have HE:=aa he;have cC:=aa eR;have HW:=aa (av w.heap.size w)
  have hall:∀ f ∈ ks,jh f.op=1:=by
   have h1:(fP ks).all (fun s=>decide (s=1))=true:=by simpa [cO,bB] using hfit
   intro f hf;have:=List.all_eq_true.1 h1 (jh f.op) (List.mem_map.2 ⟨f,hf,rfl⟩)
   simpa using this
  have FZ:=aa hall;have vR:=aa fy;have rN:=aa dF;clear hk he dF fy hfit eR cC hall;go_enter jr,iI
  obtain⟨x1,ke,ee,Jk,ei,Jb,iU⟩:=aL w #[.slice eo en ec] 154;replace HX:=aa (HX.out.below ei.out);replace HE:=aa (HE.out.below ei.out);replace HW:=aa (HW.out.trans (ei.out.mono HW.out.size));obtain⟨x2,kf,ef,hO,aR,gL,aj⟩:=aL x1 #[.int .i64 19,.bool b,.slice ao l c,.string nm,.slice ko kl kc] 29;replace iU:=aG aR.out iU;replace HX:=aa (HX.out.below aR.out);replace HE:=aa (HE.out.below aR.out);replace HW:=aa (HW.out.trans (aR.out.mono HW.out.size));have e0:=ae (v:=.slice eo en ec) iU.out 0 rfl;have y9:=af iU.out 0;have c0:=ae (v:=.int .i64 19) aj.out 0 rfl;have bM:=af aj.out 0;have c1:=ae (v:=.bool b) aj.out 1 rfl;have bL:=af aj.out 1;have c2:=ae (v:=.slice ao l c) aj.out 2 rfl;have bK:=af aj.out 2
  have c3:=ae (v:=.string nm) aj.out 3 rfl;have bJ:=af aj.out 3;have c4:=ae (v:=.slice ko kl kc) aj.out 4 rfl;have bI:=af aj.out 4;go_wp2_with fail
  refine (AD _ ks (fun f=>gX (ev (a_ env) f)) d S x2 (.slice eo en ec) HX.out (fun f hf v w' hb hv=>?_)).mono ?_
  ·exact IT _ _ env f S w' hv (HE.out.below hb) (vR.out f hf) (FZ.out f hf) (rN.out.kG f hf)
  rintro e x3 ⟨rfl,hb⟩;clear e0 y9 c0 bM c1 bL c2 bK c3 bJ c4 bI;replace iU:=aG hb iU;replace aj:=aG hb aj;replace HX:=aa (HX.out.below hb);replace HE:=aa (HE.out.below hb);replace HW:=aa (HW.out.trans (hb.mono HW.out.size));go_wp2_with fail
  go_ret
  refine⟨?_,HW.out⟩;rw[show gX (ev (a_ env) (.node 19 z nm ks))=(ks.any fun f=>gX (ev (a_ env) f)) by rw[ev,lO];show (List.map (ev (a_ env)) ks).any gX=_;rw[List.any_map];rfl]
  rfl
 have HX:=aa hk;have HE:=aa he;have cC:=aa eR;have HW:=aa (av w.heap.size w);obtain⟨p,q,rfl,hp,hq⟩:=iZ (ks:=ks) (s:=1) (r:=1) (by simpa [cO,bB] using hfit);have nn:=aa (dF.kG p (by simp));have nr:=aa (fy p (by simp));have HP:=aa hp;have wX:=aa (dF.kG q (by simp));have wY:=aa (fy q (by simp));have HQ:=aa hq;have gN:Hid (gX (ev (a_ env) (.node 20 z nm [p,q]))=gX (qJ (a_ env) 20 z nm [ev (a_ env) p,ev (a_ env) q])):=aa (by rw[ev,iH,iH,iH]);have gW:kl=2:=cC.out;subst gW;clear hk he dF fy hfit eR cC hp hq;go_enter jr,iI
 obtain⟨x1,ke,ee,Jk,ei,Jb,iU⟩:=aL w #[.slice eo en ec] 154;replace HX:=aa (HX.out.below ei.out);replace HE:=aa (HE.out.below ei.out);replace HW:=aa (HW.out.trans (ei.out.mono HW.out.size));obtain⟨x2,kf,ef,hO,aR,gL,aj⟩:=aL x1 #[.int .i64 20,.bool b,.slice ao l c,.string nm,.slice ko 2 kc] 29;replace iU:=aG aR.out iU;replace HX:=aa (HX.out.below aR.out);replace HE:=aa (HE.out.below aR.out);replace HW:=aa (HW.out.trans (aR.out.mono HW.out.size));have e0:=ae (v:=.slice eo en ec) iU.out 0 rfl;have y9:=af iU.out 0;have c0:=ae (v:=.int .i64 20) aj.out 0 rfl;have bM:=af aj.out 0;have c1:=ae (v:=.bool b) aj.out 1 rfl;have bL:=af aj.out 1;have c2:=ae (v:=.slice ao l c) aj.out 2 rfl;have bK:=af aj.out 2
 have c3:=ae (v:=.string nm) aj.out 3 rfl;have bJ:=af aj.out 3;have c4:=ae (v:=.slice ko 2 kc) aj.out 4 rfl;have bI:=af aj.out 4;obtain⟨a,bp,op,lp,cp,pP,pQ,pR,gV,⟨p0,p1,p2,p3,p4⟩,fB⟩:=HX.out.first;subst gV;obtain⟨pI,dH⟩:∃ x,x=p.op:=⟨_,rfl⟩
 obtain⟨pL,dI⟩:∃ x,x=p.name:=⟨_,rfl⟩
 rw[<-dH] at p0 fB;rw[<-dI] at p3 fB;have cg:=aa fB;have dj:Hid (sC x2 a pI bp op lp cp pL pP pQ pR):=aa ⟨p0,p1,p2,p3,p4⟩;clear dH dI fB p0 p1 p2 p3 p4;obtain⟨a2,bq,oq,lq,cq,vt,vu,vv,ou,⟨q0,q1,q2,q3,q4⟩,jd⟩:=HX.out.second;injection ou with tA;subst tA;obtain⟨vJ,js⟩:∃ x,x=q.op:=⟨_,rfl⟩
 obtain⟨vK,jt⟩:∃ x,x=q.name:=⟨_,rfl⟩
 rw[<-js] at q0 jd;rw[<-jt] at q3 jd;have fW:=aa jd;have gM:Hid (sC x2 ⟨a.block,a.off+5,none⟩ vJ bq oq lq cq vK vt vu vv):=aa ⟨q0,q1,q2,q3,q4⟩;clear js jt jd q0 q1 q2 q3 q4;go_upto_region 11 with fail
 clear e0 y9 c0 bM c1 bL c2 bK c3 bJ c4 bI;have nZ:=ag iU.out;have cK:=ag aj.out;have fK:Hid (∀ q,q<0->(fun q=>0) q<x2.heap.size):=aa (fun q h=>absurd h (ah _));refine R7.region (by kernel_rfl) [[],[],[1],[1,2],[1,2,3],[0,1,2,3,4],[],[],[7],[7,8],[7,8,9],[0,1,2,3,4,5,6,7,8,9,10],[0,1,2,3,4,5,6,7,8,9,10,11],[0,1,2,3,4,5,6,7,8,9,10,11,12]] [] [] (fun q=>0) 0 14 (by kernel_rfl) (by kernel_rfl) (by rfl) fK.out (fun q q' h h' hn=>absurd hn (by omega)) ?_;refine R7.az.bT ?_ (by rfl) (fun T xs wr hA=>?_) ?_
 rotate_left 1
 ·have e2:=hA.pre 2 (by kernel_rfl);simp only[eY,fD,fm] at e2;have aP:wr.heap[ke]?=_:=(hA.bl _ nZ (fun q h=>absurd h (ah _))).trans iU.out;have q0:=ae (v:=.slice eo en ec) aP 0 rfl;clear aP;clear hA;refine⟨(by rfl),?_⟩;go_simp<;>(try with_reducible rfl)
 refine R7.az.bT ?_ (by rfl) (fun T xs wr hA=>?_) ?_
 rotate_left 1
 ·have e3:=hA.pre 3 (by kernel_rfl);simp only[eY,fD,fm] at e3;clear hA;refine⟨(by rfl),?_⟩;go_simp<;>(try with_reducible rfl)
 refine R7.az.bT ?_ (by rfl) (fun T xs wr hA=>?_) ?_
 rotate_left 1
 ·have BM:=hA.tm 1 50 (by rfl) (by rfl);have f50:xs 1=_:=hA.fa 1 (by rfl)
  (try simp (disch:=first | rfl | decide) only [R7.ai] at f50)
  rw[f50] at BM;clear f50;have aP:wr.heap[kf]?=_:=(hA.bl _ cK (fun q h=>absurd h (ah _))).trans aj.out;have q0:=ae (v:=.int .i64 20) aP 0 rfl;have q1:=ae (v:=.bool b) aP 1 rfl;have q2:=ae (v:=.slice ao l c) aP 2 rfl;have q3:=ae (v:=.string nm) aP 3 rfl;have q4:=ae (v:=.slice (some a) 2 kc) aP 4 rfl;clear aP;clear hA;refine⟨(by rfl),?_⟩;go_simp<;>(try with_reducible rfl)
 refine R7.az.bT ?_ (by rfl) (fun T xs wr hA=>?_) ?_
 rotate_left 1
 ·have BK:=hA.tm 2 51 (by rfl) (by rfl);have f51:xs 2=_:=hA.fa 2 (by rfl)
  (try simp (disch:=first | rfl | decide) only [R7.ai] at f51)
  rw[f51] at BK;clear f51;clear hA;refine⟨(by rfl),?_⟩;go_simp<;>(try with_reducible rfl)
 refine R7.az.bT ?_ (by rfl) (fun T xs wr hA=>?_) ?_
 rotate_left 1
 ·have BJ:=hA.tm 3 52 (by rfl) (by rfl);have f52:xs 3=_:=hA.fa 3 (by rfl)
  (try simp (disch:=first | rfl | decide) only [R7.ai] at f52)
  rw[f52] at BJ;clear f52;have dK:=aT (hA.be x2.heap.size (ak _) (fun q h=>absurd h (ah q)));obtain⟨q0,q1,q2,q3,q4⟩:=dj.out.below dK
  try simp only at q0 q1 q2 q3 q4
  clear hA;refine⟨(by rfl),?_⟩;go_simp<;>(try with_reducible rfl)
 refine R7.az.call (fun xs v w=>v=.bool (gX (ev (a_ env) p))) (fun _ _ _ _ h _=>h) (fun _ _ _ _ _ h _ _=>h) (by rfl) (fun T xs wr hA=>?_) ?_
 ·have ki:=(hA.be 0 (au _) (fun _ _=>au _)).size;have Dn:=hA.tm 0 49 (by rfl) (by rfl);have f49:xs 0=_:=hA.fa 0 (by rfl)
  (try simp (disch:=first | rfl | decide) only [R7.ai] at f49)
  rw[f49] at Dn;clear f49;have qA:=hA.tm 4 53 (by rfl) (by rfl);have f53:xs 4=_:=hA.fa 4 (by rfl)
  (try simp (disch:=first | rfl | decide) only [R7.ai] at f53)
  rw[f53] at qA;clear f53;have dK:=aT (hA.be x2.heap.size (ak _) (fun q h=>absurd h (ah q)));have jd:=cg.out.below dK;clear hA;refine⟨(by rfl),fun K hK=>?_⟩;go_simp
  refine (IT _ _ env p S _ jd (HE.out.below dK) nr.out HP.out nn.out).mono ?_;rintro e w' ⟨rfl,hb'⟩;exact hK.out _ _ rfl hb'
 refine R7.az.bT ?_ (by rfl) (fun T xs wr hA=>?_) ?_
 rotate_left 1
 ·have e2:=hA.pre 2 (by kernel_rfl);simp only[eY,fD,fm] at e2;have aP:wr.heap[ke]?=_:=(hA.bl _ nZ (fun q h=>absurd h (ah _))).trans iU.out;have q0:=ae (v:=.slice eo en ec) aP 0 rfl;clear aP;clear hA;refine⟨(by rfl),?_⟩;go_simp<;>(try with_reducible rfl)
 refine R7.az.bT ?_ (by rfl) (fun T xs wr hA=>?_) ?_
 rotate_left 1
 ·have e3:=hA.pre 3 (by kernel_rfl);simp only[eY,fD,fm] at e3;clear hA;refine⟨(by rfl),?_⟩;go_simp<;>(try with_reducible rfl)
 refine R7.az.bT ?_ (by rfl) (fun T xs wr hA=>?_) ?_
 rotate_left 1
 ·have Qa:=hA.tm 7 56 (by rfl) (by rfl);have f56:xs 7=_:=hA.fa 7 (by rfl)
  (try simp (disch:=first | rfl | decide) only [R7.ai] at f56)
  rw[f56] at Qa;clear f56;have aP:wr.heap[kf]?=_:=(hA.bl _ cK (fun q h=>absurd h (ah _))).trans aj.out;have q0:=ae (v:=.int .i64 20) aP 0 rfl;have q1:=ae (v:=.bool b) aP 1 rfl;have q2:=ae (v:=.slice ao l c) aP 2 rfl;have q3:=ae (v:=.string nm) aP 3 rfl;have q4:=ae (v:=.slice (some a) 2 kc) aP 4 rfl;clear aP;clear hA;refine⟨(by rfl),?_⟩;go_simp<;>(try with_reducible rfl)
 refine R7.az.bT ?_ (by rfl) (fun T xs wr hA=>?_) ?_
 rotate_left 1
 ·have P_:=hA.tm 8 57 (by rfl) (by rfl);have f57:xs 8=_:=hA.fa 8 (by rfl)
  (try simp (disch:=first | rfl | decide) only [R7.ai] at f57)
  rw[f57] at P_;clear f57;clear hA;refine⟨(by rfl),?_⟩;go_simp<;>(try with_reducible rfl)
 refine R7.az.bT ?_ (by rfl) (fun T xs wr hA=>?_) ?_
 rotate_left 1
 ·have P9:=hA.tm 9 58 (by rfl) (by rfl);have f58:xs 9=_:=hA.fa 9 (by rfl)
  (try simp (disch:=first | rfl | decide) only [R7.ai] at f58)
  rw[f58] at P9;clear f58;have dK:=aT (hA.be x2.heap.size (ak _) (fun q h=>absurd h (ah q)));obtain⟨q0,q1,q2,q3,q4⟩:=gM.out.below dK
  try simp only at q0 q1 q2 q3 q4
  clear hA;refine⟨(by rfl),?_⟩;go_simp<;>(try with_reducible rfl)
 refine R7.az.call (fun xs v w=>v=.bool (gX (ev (a_ env) q))) (fun _ _ _ _ h _=>h) (fun _ _ _ _ _ h _ _=>h) (by rfl) (fun T xs wr hA=>?_) ?_
 ·have ki:=(hA.be 0 (au _) (fun _ _=>au _)).size;have Qb:=hA.tm 6 55 (by rfl) (by rfl);have f55:xs 6=_:=hA.fa 6 (by rfl)
  (try simp (disch:=first | rfl | decide) only [R7.ai] at f55)
  rw[f55] at Qb;clear f55;have P8:=hA.tm 10 59 (by rfl) (by rfl);have f59:xs 10=_:=hA.fa 10 (by rfl)
  (try simp (disch:=first | rfl | decide) only [R7.ai] at f59)
  rw[f59] at P8;clear f59;have dK:=aT (hA.be x2.heap.size (ak _) (fun q h=>absurd h (ah q)));have jd:=fW.out.below dK;clear hA;refine⟨(by rfl),fun K hK=>?_⟩;go_simp
  refine (IT _ _ env q S _ jd (HE.out.below dK) wY.out HQ.out wX.out).mono ?_;rintro e w' ⟨rfl,hb'⟩;exact hK.out _ _ rfl hb'
 refine R7.az.bT ?_ (by rfl) (fun T xs wr hA=>?_) ?_
 rotate_left 1
 ·have Qc:=hA.tm 5 54 (by rfl) (by rfl);have f54:xs 5=(.bool (gX (ev (a_ env) p))):=hA.fa 5 (by rfl);rw[f54] at Qc;clear f54;have P7:=hA.tm 11 60 (by rfl) (by rfl);have f60:xs 11=(.bool (gX (ev (a_ env) q))):=hA.fa 11 (by rfl);rw[f60] at P7;clear f60;clear hA;refine⟨(by rfl),?_⟩;go_simp<;>(try with_reducible rfl)
 refine R7.az.bT ?_ (by rfl) (fun T xs wr hA=>?_) ?_
 rotate_left 1
 ·have P6:=hA.tm 12 61 (by rfl) (by rfl);have f61:xs 12=_:=hA.fa 12 (by rfl)
  (try simp (disch:=first | rfl | decide) only [R7.ai] at f61)
  rw[f61] at P6;clear f61;clear hA;refine⟨(by rfl),?_⟩;go_simp<;>(try with_reducible rfl)
 refine R7.az.done (fun xs x3 hL=>?_);obtain⟨⟨ei,cG⟩,hf,-,-⟩:=hL;have f0:xs 0=_:=hf 0 (by decide)
 (try simp (disch:=first | rfl | decide) only [R7.ai] at f0)
 have f1:xs 1=_:=hf 1 (by decide)
 (try simp (disch:=first | rfl | decide) only [R7.ai] at f1)
 have f2:xs 2=_:=hf 2 (by decide)
 (try simp (disch:=first | rfl | decide) only [R7.ai] at f2)
 have f3:xs 3=_:=hf 3 (by decide)
 (try simp (disch:=first | rfl | decide) only [R7.ai] at f3)
 have f4:xs 4=_:=hf 4 (by decide)
 (try simp (disch:=first | rfl | decide) only [R7.ai] at f4)
 have f5:xs 5=(.bool (gX (ev (a_ env) p))):=hf 5 (by decide);have f6:xs 6=_:=hf 6 (by decide)
 (try simp (disch:=first | rfl | decide) only [R7.ai] at f6)
 have f7:xs 7=_:=hf 7 (by decide)
 (try simp (disch:=first | rfl | decide) only [R7.ai] at f7)
 have f8:xs 8=_:=hf 8 (by decide)
 (try simp (disch:=first | rfl | decide) only [R7.ai] at f8)
 have f9:xs 9=_:=hf 9 (by decide)
 (try simp (disch:=first | rfl | decide) only [R7.ai] at f9)
 have f10:xs 10=_:=hf 10 (by decide)
 (try simp (disch:=first | rfl | decide) only [R7.ai] at f10)
 have f11:xs 11=(.bool (gX (ev (a_ env) q))):=hf 11 (by decide);have f12:xs 12=_:=hf 12 (by decide)
 (try simp (disch:=first | rfl | decide) only [R7.ai] at f12)
 have f13:xs 13=_:=hf 13 (by decide)
 (try simp (disch:=first | rfl | decide) only [R7.ai] at f13)
 have hb0:aC 0 x2 x3:=aT (ei 0 (au _) (fun _ _=>au _));have jR:∀ j,j<x2.heap.size->(∀ q,q<0->(fun q=>0) q≠j)->x3.heap[j]?=x2.heap[j]?:=cG;clear ei cG hf;have hb:aC x2.heap.size x2 x3:=⟨hb0.os,hb0.tape,hb0.output,hb0.size,fun q hq=>jR q hq (fun q h=>absurd h (ah _))⟩
 refine R7.gg ?_;simp only[R7.fill,xz,xy,xx,f0,f1,f2,f3,f4,f5,f6,f7,f8,f9,f10,f11,f12,f13];clear hb0 jR fK nZ cK f0 f1 f2 f3 f4 f5 f6 f7 f8 f9 f10 f11 f12 f13;replace iU:=aG hb iU;replace aj:=aG hb aj;replace HX:=aa (HX.out.below hb);replace HE:=aa (HE.out.below hb);replace HW:=aa (HW.out.trans (hb.mono HW.out.size));replace cg:=aa (cg.out.below hb);replace dj:=aa (dj.out.below hb);replace fW:=aa (fW.out.below hb);replace gM:=aa (gM.out.below hb);replace hb:=aa hb;go_wp2_with fail
 go_ret
 refine⟨?_,HW.out⟩;rw[gN.out];rfl
attribute [local go_sem] jn jm jl jk
theorem DW (d:Nat) (IN:Dy d) (IL:FJ d) (IT:FI d):KO d:=by
 intro ve v env t S w h he hr dF;obtain⟨eo,en,ec,rfl⟩:=he.shape
 have tn:jh t.op=0\/jh t.op=1\/jh t.op=2:=by
  unfold jh
  split
  ·exact .inr (.inr rfl)
  split
  ·exact .inr (.inl rfl)
  exact .inl rfl
 rcases tn with hs | hs | hs
 ·have HS:=aa hs;clear hs;have HT:=aa h;obtain⟨b,ao,l,c,ko,kl,kc,rfl,-,-,-⟩:=h.open;obtain⟨o,tu⟩:∃ o,o=t.op:=⟨_,rfl⟩
  obtain⟨nm,hnm⟩:∃ o,o=t.name:=⟨_,rfl⟩
  rw[<-tu] at HT ⊢;rw[<-hnm] at HT ⊢;have FO:=aa tu;have HE:=aa he;have HR:=aa hr;have rN:=aa dF;clear h he hr dF tu hnm;have HW:=aa (av w.heap.size w);go_enter Tryz.func114,Tryz.ntmps114
  obtain⟨x1,kf,ef,hO,aR,gL,aj⟩:=aL w #[.int .i64 o,.bool b,.slice ao l c,.string nm,.slice ko kl kc] 29;replace HT:=aa (HT.out.below aR.out);replace HE:=aa (HE.out.below aR.out);replace HW:=aa (HW.out.trans (aR.out.mono HW.out.size));obtain⟨x2,kr,er,lZ,bP,gD,aD⟩:=aL x1 #[.int .i64 0,.bool false,.slice none 0 0,.bool false,.slice none 0 0] 41;replace aj:=aG bP.out aj;replace HT:=aa (HT.out.below bP.out);replace HE:=aa (HE.out.below bP.out);replace HW:=aa (HW.out.trans (bP.out.mono HW.out.size));have gp:Hid (w.heap.size<=kr):=aa (aq aR.out.size gD.out);have c0:=ae (v:=.int .i64 o) aj.out 0 rfl;have bM:=af aj.out 0;have c1:=ae (v:=.bool b) aj.out 1 rfl;have bL:=af aj.out 1;have c2:=ae (v:=.slice ao l c) aj.out 2 rfl
  have bK:=af aj.out 2;have c3:=ae (v:=.string nm) aj.out 3 rfl;have bJ:=af aj.out 3;have c4:=ae (v:=.slice ko kl kc) aj.out 4 rfl;have bI:=af aj.out 4;go_wp2_with fail
  refine (wk o b ao l c nm ko kl kc x2).mono ?_;rintro e x3 ⟨rfl,hb⟩;clear c0 bM c1 bL c2 bK c3 bJ c4 bI;replace aj:=aG hb aj;replace aD:=aG hb aD;replace HT:=aa (HT.out.below hb);replace HE:=aa (HE.out.below hb);replace HW:=aa (HW.out.trans (hb.mono HW.out.size));rw[show jh o=0 from (by rw[FO.out];exact HS.out)];have c0:=ae (v:=.int .i64 o) aj.out 0 rfl;have bM:=af aj.out 0;have c1:=ae (v:=.bool b) aj.out 1 rfl;have bL:=af aj.out 1;have c2:=ae (v:=.slice ao l c) aj.out 2 rfl;have bK:=af aj.out 2;have c3:=ae (v:=.string nm) aj.out 3 rfl;have bJ:=af aj.out 3;have c4:=ae (v:=.slice ko kl kc) aj.out 4 rfl;have bI:=af aj.out 4;go_wp2_with fail
  refine (IN _ _ env t S x3 HT.out HE.out HR.out HS.out rN.out).mono ?_;rintro e x4 ⟨x,rfl,hx,hb⟩;clear c0 bM c1 bL c2 bK c3 bJ c4 bI;replace aj:=aG hb aj;replace aD:=aG hb aD;replace HT:=aa (HT.out.below hb);replace HE:=aa (HE.out.below hb);replace HW:=aa (HW.out.trans (hb.mono HW.out.size));obtain⟨xb,xo,xl,xc,rfl⟩:=hx.shape;have HC:=aa hx;clear hx;go_wp2_with fail
  refine (j_ _ _ 600 x4 HC.out.gi (by decide)).mono ?_;rintro e x5 ⟨v,rfl,hv,hb⟩;replace aj:=aG hb aj;replace aD:=aG hb aD;replace HT:=aa (HT.out.below hb);replace HE:=aa (HE.out.below hb);replace HW:=aa (HW.out.trans (hb.mono HW.out.size));obtain⟨o2,l2,c2,rfl,hn⟩:=hv.int;have HV:=aa hv;clear hv hn;obtain⟨⟨r0,r1,r2,r3,r4⟩,gT,gS,iF,iE,iD⟩:=aV aD.out;go_wp2_with fail
  obtain⟨s1,s2⟩:=gh HW.out aD.out eF gp.out (.int .i64 0) (.bool (decide (fM (ev (a_ env) t)<0))) (.slice o2 l2 c2) (.bool false) (.slice none 0 0)
  (try simp only[aE,aM])
  exact aB (v:=.agg #[.int .i64 0,.bool (decide (fM (ev (a_ env) t)<0)),.slice o2 l2 c2,.bool false,.slice none 0 0]) (by simp[results,Tryz.results114,go_sem,r0,r1,r2,r3,r4]) rfl ⟨_,rfl,(show VC _ _ (ev (a_ env) t) from by rw[mb HS.out];exact HV.out).fr (by decide) s1,s2⟩
 ·have HS:=aa hs;clear hs;have HT:=aa h;obtain⟨b,ao,l,c,ko,kl,kc,rfl,-,-,-⟩:=h.open;obtain⟨o,tu⟩:∃ o,o=t.op:=⟨_,rfl⟩
  obtain⟨nm,hnm⟩:∃ o,o=t.name:=⟨_,rfl⟩
  rw[<-tu] at HT ⊢;rw[<-hnm] at HT ⊢;have FO:=aa tu;have HE:=aa he;have HR:=aa hr;have rN:=aa dF;clear h he hr dF tu hnm;have HW:=aa (av w.heap.size w);go_enter Tryz.func114,Tryz.ntmps114
  obtain⟨x1,kf,ef,hO,aR,gL,aj⟩:=aL w #[.int .i64 o,.bool b,.slice ao l c,.string nm,.slice ko kl kc] 29;replace HT:=aa (HT.out.below aR.out);replace HE:=aa (HE.out.below aR.out);replace HW:=aa (HW.out.trans (aR.out.mono HW.out.size));obtain⟨x2,kr,er,lZ,bP,gD,aD⟩:=aL x1 #[.int .i64 0,.bool false,.slice none 0 0,.bool false,.slice none 0 0] 41;replace aj:=aG bP.out aj;replace HT:=aa (HT.out.below bP.out);replace HE:=aa (HE.out.below bP.out);replace HW:=aa (HW.out.trans (bP.out.mono HW.out.size));have gp:Hid (w.heap.size<=kr):=aa (aq aR.out.size gD.out);have c0:=ae (v:=.int .i64 o) aj.out 0 rfl;have bM:=af aj.out 0;have c1:=ae (v:=.bool b) aj.out 1 rfl;have bL:=af aj.out 1;have c2:=ae (v:=.slice ao l c) aj.out 2 rfl
  have bK:=af aj.out 2;have c3:=ae (v:=.string nm) aj.out 3 rfl;have bJ:=af aj.out 3;have c4:=ae (v:=.slice ko kl kc) aj.out 4 rfl;have bI:=af aj.out 4;go_wp2_with fail
  refine (wk o b ao l c nm ko kl kc x2).mono ?_;rintro e x3 ⟨rfl,hb⟩;clear c0 bM c1 bL c2 bK c3 bJ c4 bI;replace aj:=aG hb aj;replace aD:=aG hb aD;replace HT:=aa (HT.out.below hb);replace HE:=aa (HE.out.below hb);replace HW:=aa (HW.out.trans (hb.mono HW.out.size));rw[show jh o=1 from (by rw[FO.out];exact HS.out)];have c0:=ae (v:=.int .i64 o) aj.out 0 rfl;have bM:=af aj.out 0;have c1:=ae (v:=.bool b) aj.out 1 rfl;have bL:=af aj.out 1;have c2:=ae (v:=.slice ao l c) aj.out 2 rfl;have bK:=af aj.out 2;have c3:=ae (v:=.string nm) aj.out 3 rfl;have bJ:=af aj.out 3;have c4:=ae (v:=.slice ko kl kc) aj.out 4 rfl;have bI:=af aj.out 4;go_wp2_with fail
  refine (IT _ _ env t S x3 HT.out HE.out HR.out HS.out rN.out).mono ?_;rintro e x4 ⟨rfl,hb⟩;clear c0 bM c1 bL c2 bK c3 bJ c4 bI;replace aj:=aG hb aj;replace aD:=aG hb aD;replace HT:=aa (HT.out.below hb);replace HE:=aa (HE.out.below hb);replace HW:=aa (HW.out.trans (hb.mono HW.out.size));go_wp2_with fail
  refine (jb _ x4).mono ?_;rintro e x5 ⟨v,rfl,hv,hb⟩;replace aj:=aG hb aj;replace aD:=aG hb aD;replace HT:=aa (HT.out.below hb);replace HE:=aa (HE.out.below hb);replace HW:=aa (HW.out.trans (hb.mono HW.out.size));have vw:=hv.bool;subst vw;have HV:=aa hv;clear hv;obtain⟨⟨r0,r1,r2,r3,r4⟩,gT,gS,iF,iE,iD⟩:=aV aD.out;go_wp2_with fail
  obtain⟨s1,s2⟩:=gh HW.out aD.out eF gp.out (.int .i64 1) (.bool false) (.slice none 0 0) (.bool (gX (ev (a_ env) t))) (.slice none 0 0)
  (try simp only[aE,aM])
  exact aB (v:=.agg #[.int .i64 1,.bool false,.slice none 0 0,.bool (gX (ev (a_ env) t)),.slice none 0 0]) (by simp[results,Tryz.results114,go_sem,r0,r1,r2,r3,r4]) rfl ⟨_,rfl,(show VC _ _ (ev (a_ env) t) from by rw[tD HS.out];exact HV.out).fr (by decide) s1,s2⟩
 have HS:=aa hs;clear hs;have HT:=aa h;obtain⟨b,ao,l,c,ko,kl,kc,rfl,-,-,-⟩:=h.open;obtain⟨o,tu⟩:∃ o,o=t.op:=⟨_,rfl⟩
 obtain⟨nm,hnm⟩:∃ o,o=t.name:=⟨_,rfl⟩
 rw[<-tu] at HT ⊢;rw[<-hnm] at HT ⊢;have FO:=aa tu;have HE:=aa he;have HR:=aa hr;have rN:=aa dF;clear h he hr dF tu hnm;have HW:=aa (av w.heap.size w);go_enter Tryz.func114,Tryz.ntmps114
 obtain⟨x1,kf,ef,hO,aR,gL,aj⟩:=aL w #[.int .i64 o,.bool b,.slice ao l c,.string nm,.slice ko kl kc] 29;replace HT:=aa (HT.out.below aR.out);replace HE:=aa (HE.out.below aR.out);replace HW:=aa (HW.out.trans (aR.out.mono HW.out.size));obtain⟨x2,kr,er,lZ,bP,gD,aD⟩:=aL x1 #[.int .i64 0,.bool false,.slice none 0 0,.bool false,.slice none 0 0] 41;replace aj:=aG bP.out aj;replace HT:=aa (HT.out.below bP.out);replace HE:=aa (HE.out.below bP.out);replace HW:=aa (HW.out.trans (bP.out.mono HW.out.size));have gp:Hid (w.heap.size<=kr):=aa (aq aR.out.size gD.out);have c0:=ae (v:=.int .i64 o) aj.out 0 rfl;have bM:=af aj.out 0;have c1:=ae (v:=.bool b) aj.out 1 rfl;have bL:=af aj.out 1;have c2:=ae (v:=.slice ao l c) aj.out 2 rfl
 have bK:=af aj.out 2;have c3:=ae (v:=.string nm) aj.out 3 rfl;have bJ:=af aj.out 3;have c4:=ae (v:=.slice ko kl kc) aj.out 4 rfl;have bI:=af aj.out 4;go_wp2_with fail
 refine (wk o b ao l c nm ko kl kc x2).mono ?_;rintro e x3 ⟨rfl,hb⟩;clear c0 bM c1 bL c2 bK c3 bJ c4 bI;replace aj:=aG hb aj;replace aD:=aG hb aD;replace HT:=aa (HT.out.below hb);replace HE:=aa (HE.out.below hb);replace HW:=aa (HW.out.trans (hb.mono HW.out.size));rw[show jh o=2 from (by rw[FO.out];exact HS.out)];have c0:=ae (v:=.int .i64 o) aj.out 0 rfl;have bM:=af aj.out 0;have c1:=ae (v:=.bool b) aj.out 1 rfl;have bL:=af aj.out 1;have c2:=ae (v:=.slice ao l c) aj.out 2 rfl;have bK:=af aj.out 2;have c3:=ae (v:=.string nm) aj.out 3 rfl;have bJ:=af aj.out 3;have c4:=ae (v:=.slice ko kl kc) aj.out 4 rfl;have bI:=af aj.out 4;go_wp2_with fail
 refine (IL _ _ env t S x3 HT.out HE.out HR.out HS.out rN.out).mono ?_;rintro e x4 ⟨x,rfl,hx,hb⟩;clear c0 bM c1 bL c2 bK c3 bJ c4 bI;replace aj:=aG hb aj;replace aD:=aG hb aD;replace HT:=aa (HT.out.below hb);replace HE:=aa (HE.out.below hb);replace HW:=aa (HW.out.trans (hb.mono HW.out.size));have xq:=aa hx;clear hx;obtain⟨xo,xc,rfl,-,-⟩:=xq.out.form;go_wp2_with fail
 refine (oW _ _ x4 xq.out (by have:=(Ce HS.out rN.out).1;omega)).mono ?_;rintro e x5 ⟨v,rfl,hv,hb⟩;replace aj:=aG hb aj;replace aD:=aG hb aD;replace HT:=aa (HT.out.below hb);replace HE:=aa (HE.out.below hb);replace HW:=aa (HW.out.trans (hb.mono HW.out.size));obtain⟨o2,l2,c2,rfl,hn⟩:=hv.list;have HV:=aa hv;clear hv hn;obtain⟨⟨r0,r1,r2,r3,r4⟩,gT,gS,iF,iE,iD⟩:=aV aD.out;go_wp2_with fail
 obtain⟨s1,s2⟩:=gh HW.out aD.out eF gp.out (.int .i64 2) (.bool false) (.slice none 0 0) (.bool false) (.slice o2 l2 c2)
 (try simp only[aE,aM])
 exact aB (v:=.agg #[.int .i64 2,.bool false,.slice none 0 0,.bool false,.slice o2 l2 c2]) (by simp[results,Tryz.results114,go_sem,r0,r1,r2,r3,r4]) rfl ⟨_,rfl,(show VC _ _ (ev (a_ env) t) from by rw[my HS.out];exact HV.out).fr (by decide) s1,s2⟩
theorem Ft (d:Nat):Dy d/\FJ d/\FI d/\KO d:=by
 induction d with
 | zero =>
  have no:∀ {v:ay} {t:F} {S:Nat->Prop} {w:an},FC w S 0 v t->False:=fun h=>by obtain⟨_,_,_,_,_,_,_,_,_,h0,_⟩:=h.open;omega
  exact⟨fun _ _ _ _ _ _ h=>absurd h no,fun _ _ _ _ _ _ h=>absurd h no,fun _ _ _ _ _ _ h=>absurd h no,fun _ _ _ _ _ _ h=>absurd h no⟩
 | succ d ih =>
  obtain⟨h1,h2,h3,h4⟩:=ih;have n:=Ev d h1 h2;have l:=EB d h1 h2;have t:=D4 d h1 h3 h4;exact⟨n,l,t,DW (d+1) n l t⟩
theorem VC.shape {w:an} {v:ay} {x:V} (h:VC w v x):∃ k b o l c p m q,v=.agg #[.int .i64 k,.bool b,.slice o l c,.bool (gX x),.slice p m q]:=by
 cases x with
 | I z=>obtain⟨o,l,c,rfl,-⟩:=h.int;exact⟨_,_,_,_,_,_,_,_,rfl⟩
 | B b=>have:=h.bool;subst this;exact⟨_,_,_,_,_,_,_,_,rfl⟩
 | L l=>obtain⟨o,l',c,rfl,-⟩:=h.list;exact⟨_,_,_,_,_,_,_,_,rfl⟩
theorem KB (d:Nat) (ve v:ay) (env:List (ByteArray × V)) (t:F) (S:Nat->Prop) (w:an) (h:FC w S d v t) (he:EL w ve env) (hr:rt t=true) (dF:Sm (a_ env) t) :
  bf ax 66 #[v,ve] w fun e w'=>∃ x,e=.returned x/\VC w' x (ev (a_ env) t)/\aC w.heap.size w w':=by
 obtain⟨eo,en,ec,rfl⟩:=he.shape;have HT:=aa h;obtain⟨b,ao,l,c,ko,kl,kc,rfl,-,-,-⟩:=h.open;obtain⟨o,tu⟩:∃ o,o=t.op:=⟨_,rfl⟩
 obtain⟨nm,hnm⟩:∃ o,o=t.name:=⟨_,rfl⟩
 rw[<-tu] at HT ⊢;rw[<-hnm] at HT ⊢;have FO:=aa tu;have HE:=aa he;have HR:=aa hr;have rN:=aa dF;clear h he hr dF tu hnm;have HW:=aa (av w.heap.size w);go_enter Tryz.func66,Tryz.ntmps66
 obtain⟨x1,kf,ef,hO,aR,gL,aj⟩:=aL w #[.int .i64 o,.bool b,.slice ao l c,.string nm,.slice ko kl kc] 29;replace HT:=aa (HT.out.below aR.out);replace HE:=aa (HE.out.below aR.out);replace HW:=aa (HW.out.trans (aR.out.mono HW.out.size));obtain⟨x2,kr,er,lZ,bP,gD,aD⟩:=aL x1 #[.int .i64 0,.bool false,.slice none 0 0,.bool false,.slice none 0 0] 41;replace aj:=aG bP.out aj;replace HT:=aa (HT.out.below bP.out);replace HE:=aa (HE.out.below bP.out);replace HW:=aa (HW.out.trans (bP.out.mono HW.out.size));have gp:Hid (w.heap.size<=kr):=aa (aq aR.out.size gD.out);have c0:=ae (v:=.int .i64 o) aj.out 0 rfl;have bM:=af aj.out 0;have c1:=ae (v:=.bool b) aj.out 1 rfl;have bL:=af aj.out 1;have c2:=ae (v:=.slice ao l c) aj.out 2 rfl
 have bK:=af aj.out 2;have c3:=ae (v:=.string nm) aj.out 3 rfl;have bJ:=af aj.out 3;have c4:=ae (v:=.slice ko kl kc) aj.out 4 rfl;have bI:=af aj.out 4;go_wp2_with fail
 refine (yF d _ t S x2 HT.out).mono ?_;rintro e x3 ⟨rfl,hb⟩;clear c0 bM c1 bL c2 bK c3 bJ c4 bI;replace aj:=aG hb aj;replace aD:=aG hb aD;replace HT:=aa (HT.out.below hb);replace HE:=aa (HE.out.below hb);replace HW:=aa (HW.out.trans (hb.mono HW.out.size));rw[HR.out];have c0:=ae (v:=.int .i64 o) aj.out 0 rfl;have bM:=af aj.out 0;have c1:=ae (v:=.bool b) aj.out 1 rfl;have bL:=af aj.out 1;have c2:=ae (v:=.slice ao l c) aj.out 2 rfl;have bK:=af aj.out 2;have c3:=ae (v:=.string nm) aj.out 3 rfl;have bJ:=af aj.out 3;have c4:=ae (v:=.slice ko kl kc) aj.out 4 rfl;have bI:=af aj.out 4;go_wp2_with fail
 refine ((Ft d).2.2.2 _ _ env t S x3 HT.out HE.out HR.out rN.out).mono ?_;rintro e x4 ⟨x,rfl,hx,hb⟩;clear c0 bM c1 bL c2 bK c3 bJ c4 bI;replace aj:=aG hb aj;replace aD:=aG hb aD;replace HT:=aa (HT.out.below hb);replace HE:=aa (HE.out.below hb);replace HW:=aa (HW.out.trans (hb.mono HW.out.size));obtain⟨k1,b1,o1,l1,c1,p1,m1,q1,rfl⟩:=hx.shape;have HV:=aa hx;clear hx;obtain⟨⟨r0,r1,r2,r3,r4⟩,gT,gS,iF,iE,iD⟩:=aV aD.out;go_wp2_with fail
 obtain⟨s1,s2⟩:=gh HW.out aD.out eF gp.out (.int .i64 k1) (.bool b1) (.slice o1 l1 c1) (.bool (gX (ev (a_ env) t))) (.slice p1 m1 q1)
 (try simp only[aE,aM])
 exact aB (v:=.agg #[.int .i64 k1,.bool b1,.slice o1 l1 c1,.bool (gX (ev (a_ env) t)),.slice p1 m1 q1]) (by simp[results,Tryz.results66,go_sem,r0,r1,r2,r3,r4]) rfl ⟨_,rfl,(HV.out).fr (by decide) s1,s2⟩
theorem vM (d:Nat) (ve v:ay) (env:List (ByteArray × V)) (t:F) (S:Nat->Prop) (w:an) (h:FC w S d v t) (he:EL w ve env) (hr:rt t=true) (dF:Sm (a_ env) t) :
  bf ax 18 #[v,ve] w fun e w'=>e=.returned (.bool (gX (ev (a_ env) t)))/\aC w.heap.size w w':=by
 obtain⟨eo,en,ec,rfl⟩:=he.shape;have HT:=aa h;obtain⟨b,ao,l,c,ko,kl,kc,rfl,-,-,-⟩:=h.open;obtain⟨o,tu⟩:∃ o,o=t.op:=⟨_,rfl⟩
 obtain⟨nm,hnm⟩:∃ o,o=t.name:=⟨_,rfl⟩
 rw[<-tu] at HT ⊢;rw[<-hnm] at HT ⊢;have FO:=aa tu;have HE:=aa he;have HR:=aa hr;have rN:=aa dF;clear h he hr dF tu hnm;have HW:=aa (av w.heap.size w);go_enter Tryz.func18,Tryz.ntmps18
 obtain⟨x1,kf,ef,hO,aR,gL,aj⟩:=aL w #[.int .i64 o,.bool b,.slice ao l c,.string nm,.slice ko kl kc] 29;replace HT:=aa (HT.out.below aR.out);replace HE:=aa (HE.out.below aR.out);replace HW:=aa (HW.out.trans (aR.out.mono HW.out.size));have c0:=ae (v:=.int .i64 o) aj.out 0 rfl;have bM:=af aj.out 0;have c1:=ae (v:=.bool b) aj.out 1 rfl;have bL:=af aj.out 1;have c2:=ae (v:=.slice ao l c) aj.out 2 rfl;have bK:=af aj.out 2;have c3:=ae (v:=.string nm) aj.out 3 rfl;have bJ:=af aj.out 3;have c4:=ae (v:=.slice ko kl kc) aj.out 4 rfl;have bI:=af aj.out 4;go_wp2_with fail
 refine (KB d _ _ env t S x1 HT.out HE.out HR.out rN.out).mono ?_;rintro e x2 ⟨x,rfl,hx,hb⟩;clear c0 bM c1 bL c2 bK c3 bJ c4 bI;replace aj:=aG hb aj;replace HT:=aa (HT.out.below hb);replace HE:=aa (HE.out.below hb);replace HW:=aa (HW.out.trans (hb.mono HW.out.size));obtain⟨k1,b1,o1,l1,c1,p1,m1,q1,rfl⟩:=hx.shape;clear hx;go_wp2_with fail
 go_ret
 exact⟨rfl,HW.out⟩
attribute [local go_sem] jn jm jl jk
def tS:Nat->Prop:=fun _=>True
theorem FC.t {w:an} {S:Nat->Prop} {d:Nat} {v:ay} {t:F} (h:FC w S d v t):FC w tS d v t:=h.mono fun _ _=>trivial
theorem FC.lt {w:an} {S:Nat->Prop} {d:Nat} {v:ay} {t:F} (h:FC w S d v t):FC w (fun b=>b<w.heap.size) d v t:=by
 obtain⟨u,h1,h2⟩:=h;exact⟨u,h1,h2.lt.mono fun _ h=>h.2⟩
theorem FC.put {w w':an} {d k:Nat} {v:ay} {t:F} (h:FC w (fun b=>b≠k) d v t) (hg:w.grownBy w' (some k)) {e:TypeId} (hf:Fr e w w'):FC w' (fun b=>b≠k) d v t:=
 h.grown hg (KN.fG hf) (fun b hb e=>hb (by injection e with e;exact e.symm))
theorem FC.IW {w:an} {S:Nat->Prop} {d:Nat} {v0 v1 v2 v3 v4:ay} {t:F} (h:FC w S d (.agg #[v0,v1,v2,v3,v4]) t):∃ u:FU,fC u=[v0,v1,v2,v3,v4]/\FT w S d u t:=by
 obtain⟨u,e,h⟩:=h;refine⟨u,?_,h⟩;unfold fV at e;injection e with e;unfold fC;have:=congrArg Array.toList e
 simpa using this.symm
theorem FL.two {w:an} {S:Nat->Prop} {d g:Nat} {v0 v1 v2 v3 v4 u0 u1 u2 u3 u4:ay} {t s:F} (hB:w.heap[g]?=some (.cells #[v0,v1,v2,v3,v4,u0,u1,u2,u3,u4] 29 (0,0))) (hS:S g) (h:FC w S d (.agg #[v0,v1,v2,v3,v4]) t) (k:FC w S d (.agg #[u0,u1,u2,u3,u4]) s):FL w S d (.slice (some ⟨g,0,none⟩) 2 2) [t,s]:=by
 obtain⟨u,hu,hT⟩:=h.IW;obtain⟨x,hx,hX⟩:=k.IW;refine⟨[(u,t),(x,s)],⟨_,_,rfl,⟨ak _,by decide,fun h=>by cases h⟩,fun _ a ha=>by injection ha with ha;subst ha;exact hS,fun i hi=>?_⟩,rfl⟩;have vB:i=0\/i=1:=by simp at hi;omega
 rcases vB with rfl | rfl
 ·refine⟨⟨_,rfl,fun j v hj=>?_⟩,hT⟩;have vN:(fC u)[j]?=some v:=hj;rw[hu] at vN;rw[j8,j8,show 0+0*(fE d).n+j=j by omega,cell_of_row w g _ _ _ _ hB];have hlt:j<5:=by have:=(List.getElem?_eq_some_iff.1 vN).1;simpa using this
  have:([v0,v1,v2,v3,v4]++[u0,u1,u2,u3,u4])[j]?=some v:=by rw[List.getElem?_append_left (by simpa using hlt)];exact vN
  simpa using this
 refine⟨⟨_,rfl,fun j v hj=>?_⟩,hX⟩;have vN:(fC x)[j]?=some v:=hj;rw[hx] at vN;rw[j8,j8,show 0+1*(fE d).n+j=5+j from by show 0+1*5+j=5+j;omega,cell_of_row w g _ _ _ _ hB];have:([v0,v1,v2,v3,v4]++[u0,u1,u2,u3,u4])[5+j]?=some v:=by rw[List.getElem?_append_right (by simp)];simpa using vN
 simpa using this
theorem xU {w0 w:an} {k:Nat} {c:Array ay} (hb:aC w0.heap.size w0 w) (hB:w.heap[k]?=some (.cells c 29 (0,0))) (h32:qB c.toList) (hk:w0.heap.size<=k) (v0 v1 v2 v3 v4:ay) :
  Fr 29 w (((((w.setCell ⟨k,0,none⟩ v0).setCell ⟨k,1,none⟩ v1).setCell ⟨k,2,none⟩ v2).setCell ⟨k,3,none⟩ v3).setCell ⟨k,4,none⟩ v4)/\aC w0.heap.size w0 (((((w.setCell ⟨k,0,none⟩ v0).setCell ⟨k,1,none⟩ v1).setCell ⟨k,2,none⟩ v2).setCell ⟨k,3,none⟩ v3).setCell ⟨k,4,none⟩ v4):=
 ⟨.aN (aY v0 v1 v2 v3 v4) (fun g hg=>by injection hg with hg;subst hg;exact⟨_,hB,h32⟩),hb.trans ((kX (aY v0 v1 v2 v3 v4) (Nat.le_of_lt (by have:=ag hB;omega)) hk).mono (ak _))⟩
def En (b:Int):Int:=if b=1 then 14 else if b=2 then 8 else 1
theorem Ly (nm:ByteArray) (b:Int) (w:an) :
  bf ax 28 #[.string nm,.int .i64 b] w fun e w'=>e=.returned (.agg #[.int .i64 (En b),.bool false,.slice none 0 0,.string nm,.slice none 0 0])/\aC w.heap.size w w':=by
 have hb:b=1\/b=2\/(b≠1/\b≠2):=by omega
 rcases hb with rfl | rfl | ⟨h1,h2⟩
 ·have HW:=aa (av w.heap.size w);go_enter Tryz.func28,Tryz.ntmps28
  obtain⟨x1,kr,er,lZ,bP,gD,aD⟩:=aL w #[.int .i64 0,.bool false,.slice none 0 0,.string ⟨#[]⟩,.slice none 0 0] 29;replace HW:=aa (HW.out.trans (bP.out.mono HW.out.size));have gp:Hid (w.heap.size<=kr):=gD;obtain⟨⟨r0,r1,r2,r3,r4⟩,gT,gS,iF,iE,iD⟩:=aV aD.out;go_wp2_with fail
  obtain⟨s1,s2⟩:=xU HW.out aD.out b_ gp.out (.int .i64 14) (.bool false) (.slice none 0 0) (.string nm) (.slice none 0 0)
  (try simp only[aE,aM])
  exact aB (v:=.agg #[.int .i64 14,.bool false,.slice none 0 0,.string nm,.slice none 0 0]) (by simp[results,Tryz.results28,go_sem,r0,r1,r2,r3,r4]) rfl ⟨rfl,s2⟩
 ·have HW:=aa (av w.heap.size w);go_enter Tryz.func28,Tryz.ntmps28
  obtain⟨x1,kr,er,lZ,bP,gD,aD⟩:=aL w #[.int .i64 0,.bool false,.slice none 0 0,.string ⟨#[]⟩,.slice none 0 0] 29;replace HW:=aa (HW.out.trans (bP.out.mono HW.out.size));have gp:Hid (w.heap.size<=kr):=gD;obtain⟨⟨r0,r1,r2,r3,r4⟩,gT,gS,iF,iE,iD⟩:=aV aD.out;go_wp2_with fail
  obtain⟨s1,s2⟩:=xU HW.out aD.out b_ gp.out (.int .i64 8) (.bool false) (.slice none 0 0) (.string nm) (.slice none 0 0)
  (try simp only[aE,aM])
  exact aB (v:=.agg #[.int .i64 8,.bool false,.slice none 0 0,.string nm,.slice none 0 0]) (by simp[results,Tryz.results28,go_sem,r0,r1,r2,r3,r4]) rfl ⟨rfl,s2⟩
 have HW:=aa (av w.heap.size w);have n1:(b==1)=false:=beq_eq_false_iff_ne.2 h1;have n2:(b==2)=false:=beq_eq_false_iff_ne.2 h2;have ho:En b=1:=by unfold En;rw[if_neg h1,if_neg h2]
 rw[ho];clear h1 h2 ho;go_enter Tryz.func28,Tryz.ntmps28
 obtain⟨x1,kr,er,lZ,bP,gD,aD⟩:=aL w #[.int .i64 0,.bool false,.slice none 0 0,.string ⟨#[]⟩,.slice none 0 0] 29;replace HW:=aa (HW.out.trans (bP.out.mono HW.out.size));have gp:Hid (w.heap.size<=kr):=gD;obtain⟨⟨r0,r1,r2,r3,r4⟩,gT,gS,iF,iE,iD⟩:=aV aD.out;go_wp2_with fail
 obtain⟨s1,s2⟩:=xU HW.out aD.out b_ gp.out (.int .i64 1) (.bool false) (.slice none 0 0) (.string nm) (.slice none 0 0)
 (try simp only[aE,aM])
 exact aB (v:=.agg #[.int .i64 1,.bool false,.slice none 0 0,.string nm,.slice none 0 0]) (by simp[results,Tryz.results28,go_sem,r0,r1,r2,r3,r4]) rfl ⟨rfl,s2⟩
theorem EK (n:Int) (w:an) (h1 : -9223372036854775808<=n) (h2:n<=9223372036854775807) :
  bf ax 15 #[.int .i64 n] w fun e w'=>∃ b o l c,e=.returned (.agg #[.int .i64 0,.bool b,.slice o l c,.string ⟨#[]⟩,.slice none 0 0])/\CI w' (.agg #[.bool b,.slice o l c]) n 600/\aC w.heap.size w w':=by
 have HW:=aa (av w.heap.size w);go_enter Tryz.func15,Tryz.ntmps15
 obtain⟨x1,kr,er,lZ,bP,gD,aD⟩:=aL w #[.int .i64 0,.bool false,.slice none 0 0,.string ⟨#[]⟩,.slice none 0 0] 29;replace HW:=aa (HW.out.trans (bP.out.mono HW.out.size));have gp:Hid (w.heap.size<=kr):=gD;go_wp2_with fail
 refine (pB n x1 h1 h2).mono ?_;rintro e x2 ⟨x,rfl,hx,hb⟩;replace aD:=aG hb aD;replace HW:=aa (HW.out.trans (hb.mono HW.out.size));obtain⟨b1,o1,l1,c1,rfl⟩:=hx.shape;have HV:=aa (hx.mono (k':=600) (by decide));clear hx;obtain⟨⟨r0,r1,r2,r3,r4⟩,gT,gS,iF,iE,iD⟩:=aV aD.out;go_wp2_with fail
 obtain⟨s1,s2⟩:=xU HW.out aD.out b_ gp.out (.int .i64 0) (.bool b1) (.slice o1 l1 c1) (.string ⟨#[]⟩) (.slice none 0 0)
 (try simp only[aE,aM])
 exact aB (v:=.agg #[.int .i64 0,.bool b1,.slice o1 l1 c1,.string ⟨#[]⟩,.slice none 0 0]) (by simp[results,Tryz.results15,go_sem,r0,r1,r2,r3,r4]) rfl ⟨_,_,_,_,rfl,HV.out.fr s1,s2⟩
theorem LI (o:Int) (ko:Option cH) (kl kc:Nat) (w:an) :
  bf ax 107 #[.int .i64 o,.slice ko kl kc] w fun e w'=>e=.returned (.agg #[.int .i64 o,.bool false,.slice none 0 0,.string ⟨#[]⟩,.slice ko kl kc])/\aC w.heap.size w w':=by
 have HW:=aa (av w.heap.size w);go_enter Tryz.func107,Tryz.ntmps107
 obtain⟨x1,kr,er,lZ,bP,gD,aD⟩:=aL w #[.int .i64 0,.bool false,.slice none 0 0,.string ⟨#[]⟩,.slice none 0 0] 29;replace HW:=aa (HW.out.trans (bP.out.mono HW.out.size));have gp:Hid (w.heap.size<=kr):=gD;obtain⟨⟨r0,r1,r2,r3,r4⟩,gT,gS,iF,iE,iD⟩:=aV aD.out;go_wp2_with fail
 obtain⟨s1,s2⟩:=xU HW.out aD.out b_ gp.out (.int .i64 o) (.bool false) (.slice none 0 0) (.string ⟨#[]⟩) (.slice ko kl kc)
 (try simp only[aE,aM])
 exact aB (v:=.agg #[.int .i64 o,.bool false,.slice none 0 0,.string ⟨#[]⟩,.slice ko kl kc]) (by simp[results,Tryz.results107,go_sem,r0,r1,r2,r3,r4]) rfl ⟨rfl,s2⟩
attribute [local go_sem] jn jm jl jk
theorem JI (d:Nat):∀ (v:ay) (t:F) (S:Nat->Prop) (w:an),FC w S d v t->F_ t<=1000000 ->
  bf ax 55 #[v] w fun e w'=>e=.returned (.int .i64 (F_ t:Nat))/\aC w.heap.size w w':=by
 induction d with
 | zero=>intro v t S w h;obtain⟨_,_,_,_,_,_,_,_,_,h0,_⟩:=h.open;omega
 | succ d ih =>
  intro v t S w h hsz;obtain⟨b,ao,l,c,ko,kl,kc,rfl,⟨hr,hz,eR,hkc,hkm⟩,-,hk⟩:=h.open;obtain⟨o,z,nm,ks⟩:=t;simp only[F.op,F.num,F.name,F.kids] at hr hz hk eR ⊢;obtain⟨n,hn⟩:∃ n,n=ks.length:=⟨_,rfl⟩
  rw[<-hn] at eR;subst eR;have HN:=aa hn;have qC:=aa hsz;clear hn hr hz h hsz;have HX:=aa hk;have IH:=aa ih;clear hk ih;have HW:=aa (av w.heap.size w);have vA:kc<=9223372036854775807:=hkm;go_enter Tryz.func55,Tryz.ntmps55
  obtain⟨x1,kf,ef,hO,aR,gL,aj⟩:=aL w #[.int .i64 o,.bool b,.slice ao l c,.string nm,.slice ko kl kc] 29;replace HX:=aa (HX.out.below aR.out);replace HW:=aa (HW.out.trans (aR.out.mono HW.out.size));have c0:=ae (v:=.int .i64 o) aj.out 0 rfl;have bM:=af aj.out 0;have c1:=ae (v:=.bool b) aj.out 1 rfl;have bL:=af aj.out 1;have c2:=ae (v:=.slice ao l c) aj.out 2 rfl;have bK:=af aj.out 2;have c3:=ae (v:=.string nm) aj.out 3 rfl;have bJ:=af aj.out 3;have c4:=ae (v:=.slice ko kl kc) aj.out 4 rfl;have bI:=af aj.out 4;go_wp2_with fail
  clear c0 bM c1 bL c2 bK c3 bJ c4 bI
  go_loopw [3,9] (fun m i wr=>∃ j:Nat,m=.int .i64 ((1+pE (ks.take j):Nat):Int)/\i=.int .i64 (j:Nat)/\j<=kl/\Hid (aC x1.heap.size x1 wr)) (fun _ i _=>kl - (fH i).toNat)
  case atStart=>exact⟨0,rfl,rfl,au _,aa (av _ _)⟩
  case round =>
   obtain⟨j,rfl,rfl,hj,HB⟩:=hrel;replace HX:=aa (HX.out.below HB.out);replace HW:=aa (HW.out.trans (HB.out.mono HW.out.size))
   by_cases hlt:j<kl
   ·have hz:j<ks.length:=by rw[<-HN.out];exact hlt
    obtain⟨a,bb,qo,ql,qc,po,pl,pc,rfl,⟨c0,c1,c2,c3,c4⟩,hf⟩:=HX.out.cells j hz;have sB:=aa hf;clear hf;obtain⟨x,ry⟩:∃ x,x=ks[j].op:=⟨_,rfl⟩
    obtain⟨ym,hnm⟩:∃ x,x=ks[j].name:=⟨_,rfl⟩
    rw[<-ry] at c0 sB;rw[<-hnm] at c3 sB;clear ry hnm;have hst:=CT ks j hz;have hle:=yD ks (j+1);have hs1:pE ks+1<=1000000:=by have:=qC.out;rw[F_] at this;omega
    have mj:=aa hst;have dm:pE (ks.take j)<=1000000:=by omega
    have cV:F_ ks[j]<=1000000:=by omega
    have jf:pE (ks.take j)+F_ ks[j]<=1000000:=by omega
    clear hst hle hs1;obtain⟨x2,k8,e8,NZ,yp,NN,lD⟩:=aL wr #[.int .i64 x,.bool bb,.slice qo ql qc,.string ym,.slice po pl pc] 29;replace HW:=aa (HW.out.trans (yp.out.mono HW.out.size));replace HB:=aa (HB.out.trans (yp.out.mono HB.out.size));replace sB:=aa (sB.out.below yp.out);have g0:=ae (v:=.int .i64 x) lD.out 0 rfl;have nF:=af lD.out 0;have g1:=ae (v:=.bool bb) lD.out 1 rfl;have nD:=af lD.out 1;have g2:=ae (v:=.slice qo ql qc) lD.out 2 rfl;have oA:=af lD.out 2;have g3:=ae (v:=.string ym) lD.out 3 rfl;have oz:=af lD.out 3;have g4:=ae (v:=.slice po pl pc) lD.out 4 rfl;have oy:=af lD.out 4;go_wp2_with fail
    refine (IH.out _ ks[j] S x2 sB.out cV).mono ?_;rintro e x3 ⟨rfl,hb⟩;clear g0 nF g1 nD g2 oA g3 oz g4 oy;replace lD:=aG hb lD;replace HW:=aa (HW.out.trans (hb.mono HW.out.size));replace HB:=aa (HB.out.trans (hb.mono HB.out.size));replace sB:=aa (sB.out.below hb);clear hb sB;obtain⟨X,hX⟩:∃ X,X=F_ ks[j]:=⟨_,rfl⟩
    obtain⟨Y,hY⟩:∃ Y,Y=pE (ks.take j):=⟨_,rfl⟩
    rw[<-hX] at mj cV jf ⊢;rw[<-hY] at mj dm jf ⊢;clear hX hY;go_wp2_with fail
    go_roundw
    case rel=>exact⟨j+1,by rw[mj.out];go_num,by go_num,hlt,HB⟩
    case measure=>simp[fH];omega
   go_wp2_with fail
   go_ret
   refine⟨?_,HW.out⟩;rw[show j=kl by omega,HN.out,bD,F_];rfl
theorem JZ (va vb:ay) (p q:F) (d:Nat) (w:an) (hd:1<=d) (hp:FC w tS d va p) (hq:FC w tS (d+1) vb q) :
  bf ax 53 #[va,vb] w fun e w'=>∃ v,e=.returned v/\FC w' tS (d+2) v (.node 15 0 ⟨#[]⟩ [.node 2 0 ⟨#[]⟩ [p,.node 0 1 ⟨#[]⟩ []],q])/\aC w.heap.size w w':=by
 have HP:=aa hp;have HQ:=aa hq;obtain⟨pb,po,pl,pc,Q6,Q7,Q8,rfl,-,-,-⟩:=hp.open;obtain⟨qb,qo,ql,qc,Q3,Q4,Q5,rfl,-,-,-⟩:=hq.open;obtain⟨p0,L9⟩:∃ x,x=p.op:=⟨_,rfl⟩
 obtain⟨pn,K6⟩:∃ x,x=p.name:=⟨_,rfl⟩
 obtain⟨q0,Ag⟩:∃ x,x=q.op:=⟨_,rfl⟩
 obtain⟨qn,Gd⟩:∃ x,x=q.name:=⟨_,rfl⟩
 rw[<-L9,<-K6] at HP ⊢;rw[<-Ag,<-Gd] at HQ ⊢;clear hp hq L9 K6 Ag Gd;have HW:=aa (av w.heap.size w);have Va:=aa HP.out.lt;have Qy:=aa HQ.out.lt;go_enter Tryz.func53,Tryz.ntmps53
 obtain⟨x1,ka,ea,AX,hba,hka,bk⟩:=aL w #[.int .i64 p0,.bool pb,.slice po pl pc,.string pn,.slice Q6 Q7 Q8] 29;replace HW:=aa (HW.out.trans (hba.out.mono HW.out.size));replace HP:=aa (HP.out.below hba.out);replace HQ:=aa (HQ.out.below hba.out);obtain⟨x2,kq,eq,Cy,iC,yn,gA⟩:=aL x1 #[.int .i64 q0,.bool qb,.slice qo ql qc,.string qn,.slice Q3 Q4 Q5] 29;replace bk:=aG iC.out bk;replace HW:=aa (HW.out.trans (iC.out.mono HW.out.size));replace HP:=aa (HP.out.below iC.out);replace HQ:=aa (HQ.out.below iC.out);have UW:=HW;obtain⟨x3,kr,er,lZ,bP,gD,aD⟩:=aL x2 #[.int .i64 0,.bool false,.slice none 0 0,.string ⟨#[]⟩,.slice none 0 0] 29;replace bk:=aG bP.out bk;replace gA:=aG bP.out gA;replace HW:=aa (HW.out.trans (bP.out.mono HW.out.size))
 replace HP:=aa (HP.out.below bP.out);replace HQ:=aa (HQ.out.below bP.out);have gp:Hid (w.heap.size<=kr):=aa (aq UW.out.size gD.out);replace HP:=aa ((Va.out.below HW.out).mono (S':=fun b=>b≠kr) (fun b hb=>by have:=gp.out;omega));replace HQ:=aa ((Qy.out.below HW.out).mono (S':=fun b=>b≠kr) (fun b hb=>by have:=gp.out;omega));go_upto_region 1 with fail
 have oZ:=ag bk.out;have kK:=ag gA.out;have fK:Hid (∀ q,q<0->(fun q=>0) q<x3.heap.size):=aa (fun q h=>absurd h (ah _));refine R7.region (by kernel_rfl) [[],[],[0,1],[0,1,2],[],[0,1,2,3,4],[0,1,2,3,4,5],[0,1,2,3,4,5,6]] [] [] (fun q=>0) 0 7 (by kernel_rfl) (by kernel_rfl) (by rfl) fK.out (fun q q' h h' hn=>absurd hn (by omega)) ?_;refine R7.az.bT ?_ (by rfl) (fun T xs wr hA=>?_) ?_
 rotate_left 1
 ·have e2:=hA.pre 2 (by kernel_rfl);simp only[eY,fD,fm] at e2;have aP:wr.heap[ka]?=_:=(hA.bl _ oZ (fun q h=>absurd h (ah _))).trans bk.out;have q0:=ae (v:=.int .i64 p0) aP 0 rfl;have q1:=ae (v:=.bool pb) aP 1 rfl;have q2:=ae (v:=.slice po pl pc) aP 2 rfl;have q3:=ae (v:=.string pn) aP 3 rfl;have q4:=ae (v:=.slice Q6 Q7 Q8) aP 4 rfl;clear aP;clear hA;refine⟨(by rfl),?_⟩;go_simp<;>(try with_reducible rfl)
 refine R7.az.call (fun xs v w=>∃ b o l c,v=.agg #[.int .i64 0,.bool b,.slice o l c,.string ⟨#[]⟩,.slice none 0 0]/\FC w (fun b=>b≠kr) 1 (.agg #[.int .i64 0,.bool b,.slice o l c,.string ⟨#[]⟩,.slice none 0 0]) (.node 0 1 ⟨#[]⟩ [])) (fun _ _ _ _ h hb=>by obtain⟨b,o,l,c,h1,h2⟩:=h;exact⟨b,o,l,c,h1,h2.below hb⟩) (fun _ _ _ _ _ _ h _=>by obtain⟨q,hq,_⟩:=h;exact absurd hq (ah _)) (by rfl) (fun T xs wr hA=>?_) ?_
 ·have ki:=(hA.be 0 (au _) (fun _ _=>au _)).size;have dK:=aT (hA.be x3.heap.size (ak _) (fun q h=>absurd h (ah q)));clear hA;refine⟨(by rfl),fun K hK=>?_⟩;go_simp
  refine (EK 1 _ (by decide) (by decide)).mono ?_;rintro e w' ⟨b,o,l,c,rfl,hc,hb'⟩;exact hK.out _ _ ⟨b,o,l,c,rfl,FC.mk (by unfold IR;decide) hc (FL.nil _ _ _)⟩ hb'
 refine R7.az.call (fun xs v w=>∃ g,v=.slice (some ⟨g,0,none⟩) 2 2/\FL w (fun b=>b≠kr) d (.slice (some ⟨g,0,none⟩) 2 2) [p,.node 0 1 ⟨#[]⟩ []]) (fun _ _ _ _ h hb=>by obtain⟨g,h1,h2⟩:=h;exact⟨g,h1,h2.below hb⟩) (fun _ _ _ _ _ _ h _=>by obtain⟨q,hq,_⟩:=h;exact absurd hq (ah _)) (by rfl) (fun T xs wr hA=>?_) ?_
 ·have ki:=(hA.be 0 (au _) (fun _ _=>au _)).size;have e5:=hA.tm 0 5 (by rfl) (by rfl);have f5:xs 0=_:=hA.fa 0 (by rfl)
  (try simp (disch:=first | rfl | decide) only [R7.ai] at f5)
  rw[f5] at e5;clear f5;have e6:=hA.tm 1 6 (by rfl) (by rfl);have dK:=aT (hA.be x3.heap.size (ak _) (fun q h=>absurd h (ah q)));have MD:∃ b o l c,(xs 1)=.agg #[.int .i64 0,.bool b,.slice o l c,.string ⟨#[]⟩,.slice none 0 0]/\FC wr (fun b=>b≠kr) 1 (.agg #[.int .i64 0,.bool b,.slice o l c,.string ⟨#[]⟩,.slice none 0 0]) (.node 0 1 ⟨#[]⟩ []):=hA.fa 1 (by rfl);obtain⟨b1,o1,l1,c1,e1,NO⟩:=MD;have Tz:=HP.out.below dK;clear hA;refine⟨(by rfl),fun K hK=>?_⟩;go_simp
  exact hK.out _ _ ⟨_,rfl,FL.two (cy _ _ _ rfl) (by have h1:=ag aD.out;have h2:=dK.size;show _≠kr;omega) (Tz.below ((av _ _).alloc (ak _) _)) ((NO.up hd).below ((av _ _).alloc (ak _) _))⟩ ((av _ _).alloc (ak _) _)
 refine R7.az.call (fun xs v w=>∃ g,v=.agg #[.int .i64 2,.bool false,.slice none 0 0,.string ⟨#[]⟩,.slice (some ⟨g,0,none⟩) 2 2]/\FC w (fun b=>b≠kr) (d+1) (.agg #[.int .i64 2,.bool false,.slice none 0 0,.string ⟨#[]⟩,.slice (some ⟨g,0,none⟩) 2 2]) (.node 2 0 ⟨#[]⟩ [p,.node 0 1 ⟨#[]⟩ []])) (fun _ _ _ _ h hb=>by obtain⟨g,h1,h2⟩:=h;exact⟨g,h1,h2.below hb⟩) (fun _ _ _ _ _ _ h _=>by obtain⟨q,hq,_⟩:=h;exact absurd hq (ah _)) (by rfl) (fun T xs wr hA=>?_) ?_
 ·have ki:=(hA.be 0 (au _) (fun _ _=>au _)).size;have e7:=hA.tm 2 7 (by rfl) (by rfl);have dK:=aT (hA.be x3.heap.size (ak _) (fun q h=>absurd h (ah q)));have Ue:∃ g,(xs 2)=.slice (some ⟨g,0,none⟩) 2 2/\FL wr (fun b=>b≠kr) d (.slice (some ⟨g,0,none⟩) 2 2) [p,.node 0 1 ⟨#[]⟩ []]:=hA.fa 2 (by rfl);obtain⟨g2,e2,yX⟩:=Ue;clear hA;refine⟨(by rfl),fun K hK=>?_⟩;go_simp
  refine (LI 2 _ _ _ _).mono ?_;rintro e w' ⟨rfl,hb'⟩;exact hK.out _ _ ⟨_,rfl,FC.mk (by unfold IR;decide) (qi _) (yX.below hb')⟩ hb'
 refine R7.az.bT ?_ (by rfl) (fun T xs wr hA=>?_) ?_
 rotate_left 1
 ·have e3:=hA.pre 3 (by kernel_rfl);simp only[eY,fD,fm] at e3;have aP:wr.heap[kq]?=_:=(hA.bl _ kK (fun q h=>absurd h (ah _))).trans gA.out;have q0:=ae (v:=.int .i64 q0) aP 0 rfl;have q1:=ae (v:=.bool qb) aP 1 rfl;have q2:=ae (v:=.slice qo ql qc) aP 2 rfl;have q3:=ae (v:=.string qn) aP 3 rfl;have q4:=ae (v:=.slice Q3 Q4 Q5) aP 4 rfl;clear aP;clear hA;refine⟨(by rfl),?_⟩;go_simp<;>(try with_reducible rfl)
 refine R7.az.call (fun xs v w=>∃ g,v=.slice (some ⟨g,0,none⟩) 2 2/\FL w (fun b=>b≠kr) (d+1) (.slice (some ⟨g,0,none⟩) 2 2) [(.node 2 0 ⟨#[]⟩ [p,.node 0 1 ⟨#[]⟩ []]),q]) (fun _ _ _ _ h hb=>by obtain⟨g,h1,h2⟩:=h;exact⟨g,h1,h2.below hb⟩) (fun _ _ _ _ _ _ h _=>by obtain⟨q,hq,_⟩:=h;exact absurd hq (ah _)) (by rfl) (fun T xs wr hA=>?_) ?_
 ·have ki:=(hA.be 0 (au _) (fun _ _=>au _)).size;have e8:=hA.tm 3 8 (by rfl) (by rfl);have e9:=hA.tm 4 9 (by rfl) (by rfl);have f9:xs 4=_:=hA.fa 4 (by rfl)
  (try simp (disch:=first | rfl | decide) only [R7.ai] at f9)
  rw[f9] at e9;clear f9;have dK:=aT (hA.be x3.heap.size (ak _) (fun q h=>absurd h (ah q)));have MC:∃ g,(xs 3)=.agg #[.int .i64 2,.bool false,.slice none 0 0,.string ⟨#[]⟩,.slice (some ⟨g,0,none⟩) 2 2]/\FC wr (fun b=>b≠kr) (d+1) (.agg #[.int .i64 2,.bool false,.slice none 0 0,.string ⟨#[]⟩,.slice (some ⟨g,0,none⟩) 2 2]) (.node 2 0 ⟨#[]⟩ [p,.node 0 1 ⟨#[]⟩ []]):=hA.fa 3 (by rfl);obtain⟨g3,e3,T7⟩:=MC;have Tt:=HQ.out.below dK;clear hA;refine⟨(by rfl),fun K hK=>?_⟩;go_simp
  exact hK.out _ _ ⟨_,rfl,FL.two (cy _ _ _ rfl) (by have h1:=ag aD.out;have h2:=dK.size;show _≠kr;omega) (T7.below ((av _ _).alloc (ak _) _)) (Tt.below ((av _ _).alloc (ak _) _))⟩ ((av _ _).alloc (ak _) _)
 refine R7.az.call (fun xs v w=>∃ g,v=.agg #[.int .i64 15,.bool false,.slice none 0 0,.string ⟨#[]⟩,.slice (some ⟨g,0,none⟩) 2 2]/\FC w (fun b=>b≠kr) (d+2) (.agg #[.int .i64 15,.bool false,.slice none 0 0,.string ⟨#[]⟩,.slice (some ⟨g,0,none⟩) 2 2]) (.node 15 0 ⟨#[]⟩ [(.node 2 0 ⟨#[]⟩ [p,.node 0 1 ⟨#[]⟩ []]),q])) (fun _ _ _ _ h hb=>by obtain⟨g,h1,h2⟩:=h;exact⟨g,h1,h2.below hb⟩) (fun _ _ _ _ _ _ h _=>by obtain⟨q,hq,_⟩:=h;exact absurd hq (ah _)) (by rfl) (fun T xs wr hA=>?_) ?_
 ·have ki:=(hA.be 0 (au _) (fun _ _=>au _)).size;have Fw:=hA.tm 5 10 (by rfl) (by rfl);have dK:=aT (hA.be x3.heap.size (ak _) (fun q h=>absurd h (ah q)));have MB:∃ g,(xs 5)=.slice (some ⟨g,0,none⟩) 2 2/\FL wr (fun b=>b≠kr) (d+1) (.slice (some ⟨g,0,none⟩) 2 2) [(.node 2 0 ⟨#[]⟩ [p,.node 0 1 ⟨#[]⟩ []]),q]:=hA.fa 5 (by rfl);obtain⟨g5,e5,I_⟩:=MB;clear hA;refine⟨(by rfl),fun K hK=>?_⟩;go_simp
  refine (LI 15 _ _ _ _).mono ?_;rintro e w' ⟨rfl,hb'⟩;exact hK.out _ _ ⟨_,rfl,FC.mk (by unfold IR;decide) (qi _) (I_.below hb')⟩ hb'
 refine R7.az.done (fun xs x4 hL=>?_);obtain⟨⟨ei,cG⟩,hf,-,-⟩:=hL;have f0:xs 0=_:=hf 0 (by decide)
 (try simp (disch:=first | rfl | decide) only [R7.ai] at f0)
 have F1:∃ b o l c,(xs 1)=.agg #[.int .i64 0,.bool b,.slice o l c,.string ⟨#[]⟩,.slice none 0 0]/\FC x4 (fun b=>b≠kr) 1 (.agg #[.int .i64 0,.bool b,.slice o l c,.string ⟨#[]⟩,.slice none 0 0]) (.node 0 1 ⟨#[]⟩ []):=hf 1 (by decide);have F2:∃ g,(xs 2)=.slice (some ⟨g,0,none⟩) 2 2/\FL x4 (fun b=>b≠kr) d (.slice (some ⟨g,0,none⟩) 2 2) [p,.node 0 1 ⟨#[]⟩ []]:=hf 2 (by decide);have F3:∃ g,(xs 3)=.agg #[.int .i64 2,.bool false,.slice none 0 0,.string ⟨#[]⟩,.slice (some ⟨g,0,none⟩) 2 2]/\FC x4 (fun b=>b≠kr) (d+1) (.agg #[.int .i64 2,.bool false,.slice none 0 0,.string ⟨#[]⟩,.slice (some ⟨g,0,none⟩) 2 2]) (.node 2 0 ⟨#[]⟩ [p,.node 0 1 ⟨#[]⟩ []]):=hf 3 (by decide);have f4:xs 4=_:=hf 4 (by decide)
 (try simp (disch:=first | rfl | decide) only [R7.ai] at f4)
 have F5:∃ g,(xs 5)=.slice (some ⟨g,0,none⟩) 2 2/\FL x4 (fun b=>b≠kr) (d+1) (.slice (some ⟨g,0,none⟩) 2 2) [(.node 2 0 ⟨#[]⟩ [p,.node 0 1 ⟨#[]⟩ []]),q]:=hf 5 (by decide);have F6:∃ g,(xs 6)=.agg #[.int .i64 15,.bool false,.slice none 0 0,.string ⟨#[]⟩,.slice (some ⟨g,0,none⟩) 2 2]/\FC x4 (fun b=>b≠kr) (d+2) (.agg #[.int .i64 15,.bool false,.slice none 0 0,.string ⟨#[]⟩,.slice (some ⟨g,0,none⟩) 2 2]) (.node 15 0 ⟨#[]⟩ [(.node 2 0 ⟨#[]⟩ [p,.node 0 1 ⟨#[]⟩ []]),q]):=hf 6 (by decide);have hb0:aC 0 x3 x4:=aT (ei 0 (au _) (fun _ _=>au _));have jR:∀ j,j<x3.heap.size->(∀ q,q<0->(fun q=>0) q≠j)->x4.heap[j]?=x3.heap[j]?:=cG;clear ei cG hf;have hb:aC x3.heap.size x3 x4:=⟨hb0.os,hb0.tape,hb0.output,hb0.size,fun q hq=>jR q hq (fun q h=>absurd h (ah _))⟩
 refine R7.g_ (by decide) (by kernel_rfl) ?_;simp only[R7.fill,Cb,Ca,B_,B9,xz,xy,xx,f0,f4];clear hb0 jR fK oZ kK f0 f4;replace bk:=aG hb bk;replace gA:=aG hb gA;replace aD:=aG hb aD;replace HW:=aa (HW.out.trans (hb.mono HW.out.size));replace HP:=aa (HP.out.below hb);replace HQ:=aa (HQ.out.below hb);replace hb:=aa hb;obtain⟨g,EV,Bq⟩:=F6;have HV:=aa Bq;obtain⟨⟨r0,r1,r2,r3,r4⟩,gT,gS,iF,iE,iD⟩:=aV aD.out;go_wp2_with fail
 obtain⟨s1,s2⟩:=xU HW.out aD.out b_ gp.out (.int .i64 15) (.bool false) (.slice none 0 0) (.string ⟨#[]⟩) (.slice (some ⟨g,0,none⟩) 2 2)
 (try simp only[aE,aM])
 exact aB (v:=.agg #[.int .i64 15,.bool false,.slice none 0 0,.string ⟨#[]⟩,.slice (some ⟨g,0,none⟩) 2 2]) (by simp[results,Tryz.results53,go_sem,r0,r1,r2,r3,r4]) rfl ⟨_,rfl,(HV.out.put (aY _ _ _ _ _) s1).t,s2⟩
attribute [local go_sem] jn jm jl jk
theorem EL.one {w:an} {g:Nat} {nm:ByteArray} {k:Int} {b d:Bool} {o p:Option cH} {l c m q:Nat} {x:V} (hB:w.heap[g]?=some (.cells #[.string nm,.int .i64 k,.bool b,.slice o l c,.bool d,.slice p m q] 44 (0,0))) (hv:VC w (.agg #[.int .i64 k,.bool b,.slice o l c,.bool d,.slice p m q]) x):EL w (.slice (some ⟨g,0,none⟩) 1 1) [(nm,x)]:=by
 obtain⟨u,_,_,_,_,_,_,_,_,_,e,hu,hx,hR⟩:=hv.unit;injection e with e;have e2:=congrArg Array.toList e;refine⟨[⟨nm,u⟩],El.At.block (E:=bE) (el:=[⟨nm,u⟩]) ?_ (show 1<=fO by decide) (fun a ha=>by rw[dG] at ha;subst ha;exact hR),by unfold jo;simp[hx]⟩;rw[hB];have:bE.f ⟨nm,u⟩=.string nm::vC u:=rfl;simp only[eT,List.flatMap_nil,iN,this,hu];simp only[me] at e2;obtain⟨h1,h2,h3,h4,h5,-⟩:=e2;rw[h1,h2,h3,h4,h5];rfl
def FX:F:=.node 15 0 ⟨#[]⟩ [.node 2 0 ⟨#[]⟩ [.node 1 0 ⟨#[120]⟩ [],.node 0 1 ⟨#[]⟩ []],.node 0 3 ⟨#[]⟩ []]
theorem JO:rt FX=true:=by decide
theorem LD:F_ FX=5:=by decide
theorem MR (r:ByteArray->V):ev r FX=.B (decide (fM (r ⟨#[120]⟩)+1<=3)):=by
 simp only[FX,ev,iH,qJ,sN,AZ];rfl
theorem sZ {n:Nat} (h:n<1000):n<aH ^ 600:=eP (k:=1) (k':=600) (aK h (by decide)) (by decide)
theorem LG (r:ByteArray->V) (h:(fM (r ⟨#[120]⟩)).natAbs<=10):Sm r FX:=by
 simp only[FX,Sm,Ir,and_true,true_and,qJ,iH,ev,sN,AZ];exact⟨trivial,⟨sZ (by show (fM (r ⟨#[120]⟩)+1).natAbs<1000;omega),sZ (by show (fM (r ⟨#[120]⟩)).natAbs<1000;omega),sZ (by decide)⟩,sZ (by decide)⟩
theorem Ch (z:Int):a_ [((⟨#[120]⟩:ByteArray),V.I z)] ⟨#[120]⟩=.I z:=by
 rw[show [((⟨#[120]⟩:ByteArray),V.I z)]=[]++[((⟨#[120]⟩:ByteArray),V.I z)] from rfl,vI,if_pos rfl]
theorem MQ (w:an):bf ax 11 #[] w fun e w'=>e=.returned (.bool true)/\aC w.heap.size w w':=by
 have HW:=aa (av w.heap.size w);go_enter Tryz.func11,Tryz.ntmps11
 go_wp2_with fail
 refine (Ly ⟨#[120]⟩ 0 w).mono ?_;rintro e x1 ⟨rfl,hb⟩;replace HW:=aa (HW.out.trans (hb.mono HW.out.size));go_wp2_with fail
 refine (EK 3 x1 (by decide) (by decide)).mono ?_;rintro e x2 ⟨b1,o1,l1,c1,rfl,hc,hb⟩;replace HW:=aa (HW.out.trans (hb.mono HW.out.size));have HC:=aa hc;clear hc;go_wp2_with fail
 refine (JZ _ _ (.node 1 0 ⟨#[120]⟩ []) (.node 0 3 ⟨#[]⟩ []) 1 x2 (ak _) (FC.mk (d:=0) (by unfold IR;decide) (qi _) (FL.nil _ _ _)) ((FC.mk (d:=0) (by unfold IR;decide) HC.out (FL.nil _ _ _)).up (by decide))).mono ?_;rintro e x3 ⟨v,rfl,hf,hb⟩;replace HW:=aa (HW.out.trans (hb.mono HW.out.size));replace HC:=aa (HC.out.below hb);obtain⟨b,ao,l,c,ko,kl,kc,rfl,-,-,-⟩:=hf.open;have HF:Hid (FC x3 tS 3 (.agg #[.int .i64 15,.bool b,.slice ao l c,.string ⟨#[]⟩,.slice ko kl kc]) FX):=aa hf;clear hf HC;simp only[F.op,F.name];obtain⟨x4,kf,ef,hO,aR,gL,aj⟩:=aL x3 #[.int .i64 15,.bool b,.slice ao l c,.string ⟨#[]⟩,.slice ko kl kc] 29;replace HW:=aa (HW.out.trans (aR.out.mono HW.out.size));replace HF:=aa (HF.out.below aR.out);go_wp2_with fail
 refine (pB 2 x4 (by decide) (by decide)).mono ?_;rintro e x5 ⟨x,rfl,hx,hb⟩;replace aj:=aG hb aj;replace HW:=aa (HW.out.trans (hb.mono HW.out.size));replace HF:=aa (HF.out.below hb);have HX:=aa hx;clear hx;obtain⟨xb,xo,xl,xc,rfl⟩:=HX.out.shape;go_wp2_with fail
 refine (j_ _ _ 2 x5 HX.out.gi (by decide)).mono ?_;rintro e x6 ⟨v,rfl,hv,hb⟩;replace aj:=aG hb aj;replace HW:=aa (HW.out.trans (hb.mono HW.out.size));replace HF:=aa (HF.out.below hb);obtain⟨o2,l2,c2,rfl,hn⟩:=hv.int;have zF:decide ((2:Int)<0)=false:=rfl;rw[zF] at hv ⊢;clear zF;have HV:=aa hv;clear hv hn HX;obtain⟨x7,ky,ey,oB,hby,tw,iu⟩:=aL x6 #[.string ⟨#[120]⟩,.int .i64 0,.bool false,.slice o2 l2 c2,.bool false,.slice none 0 0] 44;replace aj:=aG hby.out aj;replace HW:=aa (HW.out.trans (hby.out.mono HW.out.size));replace HF:=aa (HF.out.below hby.out);replace HV:=aa (HV.out.below hby.out);have Jw:=aa (EL.one iu.out HV.out);clear HV;go_upto_region 3 with fail
 have cK:=ag aj.out;have fK:Hid (∀ q,q<0->(fun q=>0) q<x7.heap.size):=aa (fun q h=>absurd h (ah _))
 refine R7.region (by kernel_rfl) [[],[0],[0,1],[0,1,2],[0,1,2],[0,1,2,3,4],[0,1,2,3,4,5],[0,1,2,3,4,5,6],[0,1,2,3,4,5,6,7],[0,1,2,3,4,5,6,7],[0,1,2,3,4,5,6,7,9],[0,1,2,3,4,5,6,7,9,10],[0,1,2,3,4,5,6,7,9,10,11],[0,1,2,3,4,5,6,7,8,9,10,11,12],[0,1,2,3,4,5,6,7,8,9,10,11,12,13],[0,1,2,3,4,5,6,7,8,9,10,11,12,13,14],[0,1,2,3,4,5,6,7,8,9,10,11,12,13,14,15],[0,1,2,3,4,5,6,7,8,9,10,11,12,13,14,15,16],[0,1,2,3,4,5,6,7,8,9,10,11,12,13,14,15,16,17],[0,1,2,3,4,5,6,7,8,9,10,11,12,13,14,15,16,17,18],[0,1,2,3,4,5,6,7,8,9,10,11,12,13,14,15,16,17,18,19],[0,1,2,3,4,5,6,7,8,9,10,11,12,13,14,15,16,17,18,19,20]] [] [] (fun q=>0) 0 22 (by kernel_rfl) (by kernel_rfl) (by rfl) fK.out (fun q q' h h' hn=>absurd hn (by omega)) ?_
 refine R7.az.bT ?_ (by rfl) (fun T xs wr hA=>?_) ?_
 rotate_left 1
 ·have e1:=hA.pre 1 (by kernel_rfl);simp only[eY,fD,fm] at e1;have aP:wr.heap[kf]?=_:=(hA.bl _ cK (fun q h=>absurd h (ah _))).trans aj.out;have q0:=ae (v:=.int .i64 15) aP 0 rfl;have q1:=ae (v:=.bool b) aP 1 rfl;have q2:=ae (v:=.slice ao l c) aP 2 rfl;have q3:=ae (v:=.string ⟨#[]⟩) aP 3 rfl;have q4:=ae (v:=.slice ko kl kc) aP 4 rfl;clear aP;clear hA;refine⟨(by rfl),?_⟩;go_simp<;>(try with_reducible rfl)
 refine R7.az.call (fun xs v w=>v=.bool true) (fun _ _ _ _ h _=>h) (fun _ _ _ _ _ h _ _=>h) (by rfl) (fun T xs wr hA=>?_) ?_
 ·have ki:=(hA.be 0 (au _) (fun _ _=>au _)).size;have Fw:=hA.tm 0 10 (by rfl) (by rfl);have f10:xs 0=_:=hA.fa 0 (by rfl)
  (try simp (disch:=first | rfl | decide) only [R7.ai] at f10)
  rw[f10] at Fw;clear f10;have dK:=aT (hA.be x7.heap.size (ak _) (fun q h=>absurd h (ah q)));have Kj:=HF.out.below dK;clear hA;refine⟨(by rfl),fun K hK=>?_⟩;go_simp
  refine (yF 3 _ FX tS _ Kj).mono ?_;rintro e w' ⟨rfl,hb'⟩;exact hK.out _ _ (by rw[JO]) hb'
 refine R7.az.bT ?_ (by rfl) (fun T xs wr hA=>?_) ?_
 rotate_left 1
 ·have Gk:=hA.tm 1 11 (by rfl) (by rfl);have f11:xs 1=(.bool true):=hA.fa 1 (by rfl);rw[f11] at Gk;clear f11;clear hA;refine⟨(by rfl),?_⟩;go_simp<;>(try with_reducible rfl)
 refine R7.az.bT ?_ (by rfl) (fun T xs wr hA=>?_) ?_
 rotate_left 1
 ·have BR:=hA.tm 2 12 (by rfl) (by rfl);have f12:xs 2=_:=hA.fa 2 (by rfl)
  (try simp (disch:=first | rfl | decide) only [R7.ai] at f12)
  rw[f12] at BR;clear f12;have e1:=hA.pre 1 (by kernel_rfl);simp only[eY,fD,fm] at e1;have aP:wr.heap[kf]?=_:=(hA.bl _ cK (fun q h=>absurd h (ah _))).trans aj.out;have q0:=ae (v:=.int .i64 15) aP 0 rfl;have q1:=ae (v:=.bool b) aP 1 rfl;have q2:=ae (v:=.slice ao l c) aP 2 rfl;have q3:=ae (v:=.string ⟨#[]⟩) aP 3 rfl;have q4:=ae (v:=.slice ko kl kc) aP 4 rfl;clear aP;clear hA;refine⟨((aO.cF rfl (by rfl) BR).trans (by rfl)),?_⟩;go_simp<;>(try with_reducible rfl)
 refine R7.az.bT ?_ (by rfl) (fun T xs wr hA=>?_) ?_
 rotate_left 1
 ·have BR:=hA.tm 2 12 (by rfl) (by rfl);have f12:xs 2=_:=hA.fa 2 (by rfl)
  (try simp (disch:=first | rfl | decide) only [R7.ai] at f12)
  rw[f12] at BR;clear f12;have e2:=hA.pre 2 (by kernel_rfl);simp only[eY,fD,fm] at e2;clear hA;refine⟨((aO.cF rfl (by rfl) BR).trans (by rfl)),?_⟩;go_simp<;>(try with_reducible rfl)
 refine R7.az.call (fun xs v w=>v=.bool true) (fun _ _ _ _ h _=>h) (fun _ _ _ _ _ h _ _=>h) (by rfl) (fun T xs wr hA=>?_) ?_
 ·have BR:=hA.tm 2 12 (by rfl) (by rfl);have f12:xs 2=_:=hA.fa 2 (by rfl)
  (try simp (disch:=first | rfl | decide) only [R7.ai] at f12)
  rw[f12] at BR;clear f12;have ki:=(hA.be 0 (au _) (fun _ _=>au _)).size;have Qj:=hA.tm 3 13 (by rfl) (by rfl);have f13:xs 3=_:=hA.fa 3 (by rfl)
  (try simp (disch:=first | rfl | decide) only [R7.ai] at f13)
  rw[f13] at Qj;clear f13;have Qi:=hA.tm 4 14 (by rfl) (by rfl);have f14:xs 4=_:=hA.fa 4 (by rfl)
  (try simp (disch:=first | rfl | decide) only [R7.ai] at f14)
  rw[f14] at Qi;clear f14;have dK:=aT (hA.be x7.heap.size (ak _) (fun q h=>absurd h (ah q)));have Kj:=HF.out.below dK;clear hA;refine⟨((aO.cF rfl (by rfl) BR).trans (by rfl)),fun K hK=>?_⟩;go_simp
  refine (vM 3 _ _ [(⟨#[120]⟩,.I 2)] FX tS _ Kj (Jw.out.below dK) JO (LG _ (by rw[Ch];decide))).mono ?_;rintro e w' ⟨rfl,hb'⟩;exact hK.out _ _ (by rw[MR,Ch];rfl) hb'
 refine R7.az.bT ?_ (by rfl) (fun T xs wr hA=>?_) ?_
 rotate_left 1
 ·have BR:=hA.tm 2 12 (by rfl) (by rfl);have f12:xs 2=_:=hA.fa 2 (by rfl)
  (try simp (disch:=first | rfl | decide) only [R7.ai] at f12)
  rw[f12] at BR;clear f12;have UJ:=hA.tm 5 15 (by rfl) (by rfl);have f15:xs 5=(.bool true):=hA.fa 5 (by rfl);rw[f15] at UJ;clear f15;clear hA;refine⟨(by rfl),?_⟩;go_simp<;>(try with_reducible rfl)
 refine R7.az.bT ?_ (by rfl) (fun T xs wr hA=>?_) ?_
 rotate_left 1
 ·have UI:=hA.tm 6 16 (by rfl) (by rfl);have f16:xs 6=_:=hA.fa 6 (by rfl)
  (try simp (disch:=first | rfl | decide) only [R7.ai] at f16)
  rw[f16] at UI;clear f16;clear hA;refine⟨(by rfl),?_⟩;go_simp<;>(try with_reducible rfl)
 refine R7.az.bT ?_ (by rfl) (fun T xs wr hA=>?_) ?_
 rotate_left 1
 ·have vO:=hA.tm 7 17 (by rfl) (by rfl);have f17:xs 7=_:=hA.fa 7 (by rfl)
  (try simp (disch:=first | rfl | decide) only [R7.ai] at f17)
  rw[f17] at vO;clear f17;have e1:=hA.pre 1 (by kernel_rfl);simp only[eY,fD,fm] at e1;have aP:wr.heap[kf]?=_:=(hA.bl _ cK (fun q h=>absurd h (ah _))).trans aj.out;have q0:=ae (v:=.int .i64 15) aP 0 rfl;have q1:=ae (v:=.bool b) aP 1 rfl;have q2:=ae (v:=.slice ao l c) aP 2 rfl;have q3:=ae (v:=.string ⟨#[]⟩) aP 3 rfl;have q4:=ae (v:=.slice ko kl kc) aP 4 rfl;clear aP;clear hA;refine⟨((aO.cF rfl (by rfl) vO).trans (by rfl)),?_⟩;go_simp<;>(try with_reducible rfl)
 refine R7.az.call (fun xs v w=>∃ b o l c,v=.agg #[.bool b,.slice o l c]/\CI w (.agg #[.bool b,.slice o l c]) 3 2) (fun _ _ _ _ h hb=>by obtain⟨b,o,l,c,h1,h2⟩:=h;exact⟨b,o,l,c,h1,h2.below hb⟩) (fun _ _ _ _ _ _ h _=>by obtain⟨q,hq,_⟩:=h;exact absurd hq (ah _)) (by rfl) (fun T xs wr hA=>?_) ?_
 ·have vO:=hA.tm 7 17 (by rfl) (by rfl);have f17:xs 7=_:=hA.fa 7 (by rfl)
  (try simp (disch:=first | rfl | decide) only [R7.ai] at f17)
  rw[f17] at vO;clear f17;have ki:=(hA.be 0 (au _) (fun _ _=>au _)).size;have dK:=aT (hA.be x7.heap.size (ak _) (fun q h=>absurd h (ah q)));clear hA;refine⟨((aO.cF rfl (by rfl) vO).trans (by rfl)),fun K hK=>?_⟩;go_simp
  refine (pB 3 _ (by decide) (by decide)).mono ?_;rintro e w' ⟨x,rfl,hx,hb'⟩;obtain⟨b,o,l,c,rfl⟩:=hx.shape;exact hK.out _ _ ⟨b,o,l,c,rfl,hx⟩ hb'
 refine R7.az.call (fun xs v w=>∃ o l c,v=.agg #[.int .i64 0,.bool false,.slice o l c,.bool false,.slice none 0 0]/\VC w (.agg #[.int .i64 0,.bool false,.slice o l c,.bool false,.slice none 0 0]) (.I 3)) (fun _ _ _ _ h hb=>by obtain⟨o,l,c,h1,h2⟩:=h;exact⟨o,l,c,h1,h2.below hb⟩) (fun _ _ _ _ _ _ h _=>by obtain⟨q,hq,_⟩:=h;exact absurd hq (ah _)) (by rfl) (fun T xs wr hA=>?_) ?_
 ·have vO:=hA.tm 7 17 (by rfl) (by rfl);have f17:xs 7=_:=hA.fa 7 (by rfl)
  (try simp (disch:=first | rfl | decide) only [R7.ai] at f17)
  rw[f17] at vO;clear f17;have ki:=(hA.be 0 (au _) (fun _ _=>au _)).size;have Jm:=hA.tm 9 19 (by rfl) (by rfl);have dK:=aT (hA.be x7.heap.size (ak _) (fun q h=>absurd h (ah q)));have PB:∃ b o l c,(xs 9)=.agg #[.bool b,.slice o l c]/\CI wr (.agg #[.bool b,.slice o l c]) 3 2:=hA.fa 9 (by rfl);obtain⟨b9,o9,l9,c9,e9,T6⟩:=PB;clear hA;refine⟨((aO.cF rfl (by rfl) vO).trans (by rfl)),fun K hK=>?_⟩;go_simp
  refine (j_ _ 3 2 _ T6.gi (by decide)).mono ?_;rintro e w' ⟨x,rfl,hx,hb'⟩;obtain⟨o,l,c,rfl,-⟩:=hx.int;exact hK.out _ _ ⟨o,l,c,rfl,hx⟩ hb'
 refine R7.az.call (fun xs v w=>∃ o l c,v=.agg #[.string ⟨#[120]⟩,.int .i64 0,.bool false,.slice o l c,.bool false,.slice none 0 0]/\VC w (.agg #[.int .i64 0,.bool false,.slice o l c,.bool false,.slice none 0 0]) (.I 3)) (fun _ _ _ _ h hb=>by obtain⟨o,l,c,h1,h2⟩:=h;exact⟨o,l,c,h1,h2.below hb⟩) (fun _ _ _ _ _ _ h _=>by obtain⟨q,hq,_⟩:=h;exact absurd hq (ah _)) (by rfl) (fun T xs wr hA=>?_) ?_
 ·have vO:=hA.tm 7 17 (by rfl) (by rfl);have f17:xs 7=_:=hA.fa 7 (by rfl)
  (try simp (disch:=first | rfl | decide) only [R7.ai] at f17)
  rw[f17] at vO;clear f17;have ki:=(hA.be 0 (au _) (fun _ _=>au _)).size;have Jl:=hA.tm 10 20 (by rfl) (by rfl);have Kr:∃ o l c,(xs 10)=.agg #[.int .i64 0,.bool false,.slice o l c,.bool false,.slice none 0 0]/\VC wr (.agg #[.int .i64 0,.bool false,.slice o l c,.bool false,.slice none 0 0]) (.I 3):=hA.fa 10 (by rfl);obtain⟨VW,l10,c10,Fw,Pp⟩:=Kr;clear hA;refine⟨((aO.cF rfl (by rfl) vO).trans (by rfl)),fun K hK=>?_⟩;go_simp
  exact hK.out _ _ ⟨_,_,_,rfl,Pp⟩ (av _ _)
 refine R7.az.call (fun xs v w=>∃ g,v=.slice (some ⟨g,0,none⟩) 1 1/\EL w (.slice (some ⟨g,0,none⟩) 1 1) [(⟨#[120]⟩,.I 3)]) (fun _ _ _ _ h hb=>by obtain⟨g,h1,h2⟩:=h;exact⟨g,h1,h2.below hb⟩) (fun _ _ _ _ _ _ h _=>by obtain⟨q,hq,_⟩:=h;exact absurd hq (ah _)) (by rfl) (fun T xs wr hA=>?_) ?_
 ·have vO:=hA.tm 7 17 (by rfl) (by rfl);have f17:xs 7=_:=hA.fa 7 (by rfl)
  (try simp (disch:=first | rfl | decide) only [R7.ai] at f17)
  rw[f17] at vO;clear f17;have ki:=(hA.be 0 (au _) (fun _ _=>au _)).size;have Li:=hA.tm 11 21 (by rfl) (by rfl);have BF:∃ o l c,(xs 11)=.agg #[.string ⟨#[120]⟩,.int .i64 0,.bool false,.slice o l c,.bool false,.slice none 0 0]/\VC wr (.agg #[.int .i64 0,.bool false,.slice o l c,.bool false,.slice none 0 0]) (.I 3):=hA.fa 11 (by rfl);obtain⟨VV,V6,c11,Gk,Po⟩:=BF;clear hA;refine⟨((aO.cF rfl (by rfl) vO).trans (by rfl)),fun K hK=>?_⟩;go_simp
  exact hK.out _ _ ⟨_,rfl,EL.one (cy _ _ _ rfl) (Po.below ((av _ _).alloc (ak _) _))⟩ ((av _ _).alloc (ak _) _)
 refine R7.az.call (fun xs v w=>v=.bool false) (fun _ _ _ _ h _=>h) (fun _ _ _ _ _ h _ _=>h) (by rfl) (fun T xs wr hA=>?_) ?_
 ·have vO:=hA.tm 7 17 (by rfl) (by rfl);have f17:xs 7=_:=hA.fa 7 (by rfl)
  (try simp (disch:=first | rfl | decide) only [R7.ai] at f17)
  rw[f17] at vO;clear f17;have ki:=(hA.be 0 (au _) (fun _ _=>au _)).size;have MY:=hA.tm 8 18 (by rfl) (by rfl);have f18:xs 8=_:=hA.fa 8 (by rfl)
  (try simp (disch:=first | rfl | decide) only [R7.ai] at f18)
  rw[f18] at MY;clear f18;have Lh:=hA.tm 12 22 (by rfl) (by rfl);have dK:=aT (hA.be x7.heap.size (ak _) (fun q h=>absurd h (ah q)));have Kj:=HF.out.below dK;have PE:∃ g,(xs 12)=.slice (some ⟨g,0,none⟩) 1 1/\EL wr (.slice (some ⟨g,0,none⟩) 1 1) [(⟨#[120]⟩,.I 3)]:=hA.fa 12 (by rfl);obtain⟨g12,BR,Pn⟩:=PE;clear hA;refine⟨((aO.cF rfl (by rfl) vO).trans (by rfl)),fun K hK=>?_⟩;go_simp
  refine (vM 3 _ _ [(⟨#[120]⟩,.I 3)] FX tS _ Kj Pn JO (LG _ (by rw[Ch];decide))).mono ?_;rintro e w' ⟨rfl,hb'⟩;exact hK.out _ _ (by rw[MR,Ch];rfl) hb'
 refine R7.az.bT ?_ (by rfl) (fun T xs wr hA=>?_) ?_
 rotate_left 1
 ·have vO:=hA.tm 7 17 (by rfl) (by rfl);have f17:xs 7=_:=hA.fa 7 (by rfl)
  (try simp (disch:=first | rfl | decide) only [R7.ai] at f17)
  rw[f17] at vO;clear f17;have Lg:=hA.tm 13 23 (by rfl) (by rfl);have f23:xs 13=(.bool false):=hA.fa 13 (by rfl);rw[f23] at Lg;clear f23;clear hA;refine⟨((aO.cF rfl (by rfl) vO).trans (by rfl)),?_⟩;go_simp<;>(try with_reducible rfl)
 refine R7.az.bT ?_ (by rfl) (fun T xs wr hA=>?_) ?_
 rotate_left 1
 ·have vO:=hA.tm 7 17 (by rfl) (by rfl);have f17:xs 7=_:=hA.fa 7 (by rfl)
  (try simp (disch:=first | rfl | decide) only [R7.ai] at f17)
  rw[f17] at vO;clear f17;have KD:=hA.tm 14 24 (by rfl) (by rfl);have f24:xs 14=_:=hA.fa 14 (by rfl)
  (try simp (disch:=first | rfl | decide) only [R7.ai] at f24)
  rw[f24] at KD;clear f24;clear hA;refine⟨(by rfl),?_⟩;go_simp<;>(try with_reducible rfl)
 refine R7.az.bT ?_ (by rfl) (fun T xs wr hA=>?_) ?_
 rotate_left 1
 ·have Qf:=hA.tm 15 25 (by rfl) (by rfl);have f25:xs 15=_:=hA.fa 15 (by rfl)
  (try simp (disch:=first | rfl | decide) only [R7.ai] at f25)
  rw[f25] at Qf;clear f25;clear hA;refine⟨(by rfl),?_⟩;go_simp<;>(try with_reducible rfl)
 refine R7.az.bT ?_ (by rfl) (fun T xs wr hA=>?_) ?_
 rotate_left 1
 ·have DN:=hA.tm 16 26 (by rfl) (by rfl);have f26:xs 16=_:=hA.fa 16 (by rfl)
  (try simp (disch:=first | rfl | decide) only [R7.ai] at f26)
  rw[f26] at DN;clear f26;have e1:=hA.pre 1 (by kernel_rfl);simp only[eY,fD,fm] at e1;have aP:wr.heap[kf]?=_:=(hA.bl _ cK (fun q h=>absurd h (ah _))).trans aj.out;have q0:=ae (v:=.int .i64 15) aP 0 rfl;have q1:=ae (v:=.bool b) aP 1 rfl;have q2:=ae (v:=.slice ao l c) aP 2 rfl;have q3:=ae (v:=.string ⟨#[]⟩) aP 3 rfl;have q4:=ae (v:=.slice ko kl kc) aP 4 rfl;clear aP;clear hA;refine⟨((aO.cF rfl (by rfl) DN).trans (by rfl)),?_⟩;go_simp<;>(try with_reducible rfl)
 refine R7.az.call (fun xs v w=>v=.int .i64 5) (fun _ _ _ _ h _=>h) (fun _ _ _ _ _ h _ _=>h) (by rfl) (fun T xs wr hA=>?_) ?_
 ·have DN:=hA.tm 16 26 (by rfl) (by rfl);have f26:xs 16=_:=hA.fa 16 (by rfl)
  (try simp (disch:=first | rfl | decide) only [R7.ai] at f26)
  rw[f26] at DN;clear f26;have ki:=(hA.be 0 (au _) (fun _ _=>au _)).size;have Qe:=hA.tm 17 27 (by rfl) (by rfl);have f27:xs 17=_:=hA.fa 17 (by rfl)
  (try simp (disch:=first | rfl | decide) only [R7.ai] at f27)
  rw[f27] at Qe;clear f27;have dK:=aT (hA.be x7.heap.size (ak _) (fun q h=>absurd h (ah q)));have Kj:=HF.out.below dK;clear hA;refine⟨((aO.cF rfl (by rfl) DN).trans (by rfl)),fun K hK=>?_⟩;go_simp
  refine (JI 3 _ FX tS _ Kj (by rw[LD];decide)).mono ?_;rintro e w' ⟨rfl,hb'⟩;exact hK.out _ _ (by rw[LD];rfl) hb'
 refine R7.az.bT ?_ (by rfl) (fun T xs wr hA=>?_) ?_
 rotate_left 1
 ·have DN:=hA.tm 16 26 (by rfl) (by rfl);have f26:xs 16=_:=hA.fa 16 (by rfl)
  (try simp (disch:=first | rfl | decide) only [R7.ai] at f26)
  rw[f26] at DN;clear f26;have Qd:=hA.tm 18 28 (by rfl) (by rfl);have f28:xs 18=(.int .i64 5):=hA.fa 18 (by rfl);rw[f28] at Qd;clear f28;clear hA;refine⟨((aO.cF rfl (by rfl) DN).trans (by rfl)),?_⟩;go_simp<;>(try with_reducible rfl)
 refine R7.az.bT ?_ (by rfl) (fun T xs wr hA=>?_) ?_
 rotate_left 1
 ·have DN:=hA.tm 16 26 (by rfl) (by rfl);have f26:xs 16=_:=hA.fa 16 (by rfl)
  (try simp (disch:=first | rfl | decide) only [R7.ai] at f26)
  rw[f26] at DN;clear f26;have R6:=hA.tm 19 29 (by rfl) (by rfl);have f29:xs 19=_:=hA.fa 19 (by rfl)
  (try simp (disch:=first | rfl | decide) only [R7.ai] at f29)
  rw[f29] at R6;clear f29;clear hA;refine⟨(by rfl),?_⟩;go_simp<;>(try with_reducible rfl)
 refine R7.az.bT ?_ (by rfl) (fun T xs wr hA=>?_) ?_
 rotate_left 1
 ·have Lf:=hA.tm 20 30 (by rfl) (by rfl);have f30:xs 20=_:=hA.fa 20 (by rfl)
  (try simp (disch:=first | rfl | decide) only [R7.ai] at f30)
  rw[f30] at Lf;clear f30;clear hA;refine⟨(by rfl),?_⟩;go_simp<;>(try with_reducible rfl)
 refine R7.az.done (fun xs x8 hL=>?_);obtain⟨⟨ei,cG⟩,hf,-,-⟩:=hL;have f0:xs 0=_:=hf 0 (by decide)
 (try simp (disch:=first | rfl | decide) only [R7.ai] at f0)
 have f1:xs 1=(.bool true):=hf 1 (by decide);have f2:xs 2=_:=hf 2 (by decide)
 (try simp (disch:=first | rfl | decide) only [R7.ai] at f2)
 have f3:xs 3=_:=hf 3 (by decide)
 (try simp (disch:=first | rfl | decide) only [R7.ai] at f3)
 have f4:xs 4=_:=hf 4 (by decide)
 (try simp (disch:=first | rfl | decide) only [R7.ai] at f4)
 have f5:xs 5=(.bool true):=hf 5 (by decide);have f6:xs 6=_:=hf 6 (by decide)
 (try simp (disch:=first | rfl | decide) only [R7.ai] at f6)
 have f7:xs 7=_:=hf 7 (by decide)
 (try simp (disch:=first | rfl | decide) only [R7.ai] at f7)
 have f8:xs 8=_:=hf 8 (by decide)
 (try simp (disch:=first | rfl | decide) only [R7.ai] at f8)
 have F9:∃ b o l c,(xs 9)=.agg #[.bool b,.slice o l c]/\CI x8 (.agg #[.bool b,.slice o l c]) 3 2:=hf 9 (by decide);have SD:∃ o l c,(xs 10)=.agg #[.int .i64 0,.bool false,.slice o l c,.bool false,.slice none 0 0]/\VC x8 (.agg #[.int .i64 0,.bool false,.slice o l c,.bool false,.slice none 0 0]) (.I 3):=hf 10 (by decide);have Oh:∃ o l c,(xs 11)=.agg #[.string ⟨#[120]⟩,.int .i64 0,.bool false,.slice o l c,.bool false,.slice none 0 0]/\VC x8 (.agg #[.int .i64 0,.bool false,.slice o l c,.bool false,.slice none 0 0]) (.I 3):=hf 11 (by decide);have CM:∃ g,(xs 12)=.slice (some ⟨g,0,none⟩) 1 1/\EL x8 (.slice (some ⟨g,0,none⟩) 1 1) [(⟨#[120]⟩,.I 3)]:=hf 12 (by decide);have f13:xs 13=(.bool false):=hf 13 (by decide);have f14:xs 14=_:=hf 14 (by decide)
 (try simp (disch:=first | rfl | decide) only [R7.ai] at f14)
 have f15:xs 15=_:=hf 15 (by decide)
 (try simp (disch:=first | rfl | decide) only [R7.ai] at f15)
 have f16:xs 16=_:=hf 16 (by decide)
 (try simp (disch:=first | rfl | decide) only [R7.ai] at f16)
 have f17:xs 17=_:=hf 17 (by decide)
 (try simp (disch:=first | rfl | decide) only [R7.ai] at f17)
 have f18:xs 18=(.int .i64 5):=hf 18 (by decide);have f19:xs 19=_:=hf 19 (by decide)
 (try simp (disch:=first | rfl | decide) only [R7.ai] at f19)
 have f20:xs 20=_:=hf 20 (by decide)
 (try simp (disch:=first | rfl | decide) only [R7.ai] at f20)
 have f21:xs 21=_:=hf 21 (by decide)
 (try simp (disch:=first | rfl | decide) only [R7.ai] at f21)
 have hb0:aC 0 x7 x8:=aT (ei 0 (au _) (fun _ _=>au _));have jR:∀ j,j<x7.heap.size->(∀ q,q<0->(fun q=>0) q≠j)->x8.heap[j]?=x7.heap[j]?:=cG;clear ei cG hf;have hb:aC x7.heap.size x7 x8:=⟨hb0.os,hb0.tape,hb0.output,hb0.size,fun q hq=>jR q hq (fun q h=>absurd h (ah _))⟩
 refine R7.gg ?_;simp only[R7.fill,xz,xy,xx,f0,f1,f2,f3,f4,f5,f6,f7,f8,f13,f14,f15,f16,f17,f18,f19,f20,f21];clear hb0 jR fK cK f0 f1 f2 f3 f4 f5 f6 f7 f8 f13 f14 f15 f16 f17 f18 f19 f20 f21;replace aj:=aG hb aj;replace iu:=aG hb iu;replace HW:=aa (HW.out.trans (hb.mono HW.out.size));replace HF:=aa (HF.out.below hb);replace Jw:=aa (Jw.out.below hb);replace hb:=aa hb;go_wp2_with fail
 go_ret
 exact⟨rfl,HW.out⟩
attribute [local go_sem] jn jm jl jk
theorem BH (ve:ay) (env:List (ByteArray × V)) (nm:ByteArray) (w:an) (h:EL w ve env) :
  bf ax 60 #[ve,.string nm] w fun e w'=>∃ v,e=.returned v/\VC w' v (a_ env nm)/\aC w.heap.size w w':=by
 obtain⟨us,hu,rfl⟩:=h;obtain⟨ko,kc,rfl,nB,fA,-⟩:=lI hu;have hkm:kc<=9223372036854775807:=fA;obtain⟨N,hN⟩:∃ N,N=us.length:=⟨_,rfl⟩
 rw[<-hN] at hu nB ⊢;have HN:=aa hN;have HU:=aa hu;clear hN hu fA;have HW:=aa (av w.heap.size w);go_enter Tryz.func60,Tryz.ntmps60
 obtain⟨x1,kr,er,lZ,bP,gD,aD⟩:=aL w #[.int .i64 0,.bool false,.slice none 0 0,.bool false,.slice none 0 0] 41;replace HW:=aa (HW.out.trans (bP.out.mono HW.out.size));have gp:Hid (w.heap.size<=kr):=gD;go_wp2_with fail
 obtain⟨x2,kq,eq,Cy,iC,yn,gA⟩:=aL x1 #[.int .i64 0,.bool false,.slice none 0 0,.bool false,.slice none 0 0] 41;replace aD:=aG iC.out aD;replace HW:=aa (HW.out.trans (iC.out.mono HW.out.size));rw[eq,Cy];have Vj:Hid (w.heap.size<=kq):=aa (aq bP.out.size yn.out);have N_:Hid (kr<kq):=aa (by rw[<-Cy];exact ag (show x1.heap[kr]?=_ from by have:=heap_alloc_new w (.cells #[.int .i64 0,.bool false,.slice none 0 0,.bool false,.slice none 0 0] 41);rw[er,lZ] at this;exact this))
 go_loopw [11] (fun i wr=>∃ (j:Nat) (u:VU),i=.int .i64 (j:Nat)/\j<=N/\Hid (wr.heap[kq]?=some (.cells #[.int .i64 u.k,.bool (decide (u.n.z<0)),.slice u.n.o u.n.l u.n.c,.bool u.b,.slice u.lo u.ll u.lc] 41 (0,0)))/\Hid (wr.heap[kr]?=some (.cells #[.int .i64 0,.bool false,.slice none 0 0,.bool false,.slice none 0 0] 41 (0,0)))/\Hid (VR w u)/\Hid (u.x=a_ ((jo us).take j) nm)/\Hid (aC w.heap.size w wr)) (fun i _=>N - (fH i).toNat)
 case atStart=>exact⟨0,v0,rfl,au _,gA,aD,aa (Oj _),aa rfl,HW⟩
 case round =>
  obtain⟨wl,Bv⟩:∃ q,q=wr:=⟨_,rfl⟩
  subst Bv;clear HW gA aD;obtain⟨j,u,rfl,hj,gA,aD,KT,AL,HW⟩:=hrel
  by_cases hlt:j<N
  ·have hz:j<us.length:=by rw[<-HN.out];exact hlt
   obtain⟨V8,V9,e,-,-,hcs⟩:=lI (HU.out.below HW.out);injection e with e1 e2 e3;subst e1;obtain⟨a,rfl,d0,d1,d2,d3,d4,d5,-⟩:=hcs j hz;obtain⟨_,_,-,-,-,RJ⟩:=lI HU.out;obtain⟨_,-,-,-,-,-,-,-,I0⟩:=RJ j hz;obtain⟨y,Bp⟩:∃ y,y=us[j]:=⟨_,rfl⟩
   rw[<-Bp] at d0 d1 d2 d3 d4 d5 I0;have UR:=aa I0;have Rz:j<(jo us).length:=by unfold jo;simpa using hz
   have Gn:Hid (a_ ((jo us).take (j+1)) nm=if y.nm=nm then y.u.x else a_ ((jo us).take j) nm):=aa (by rw[zW _ _ _ Rz,show (jo us)[j]=(y.nm,y.u.x) from by rw[Bp];exact List.getElem_map (fun b:BU=>(b.nm,b.u.x))]);clear hcs RJ e2 e3 Bp I0 Rz;obtain⟨x3,k8,e8,NZ,yp,NN,lD⟩:=aL wl #[.string y.nm,.int .i64 y.u.k,.bool (decide (y.u.n.z<0)),.slice y.u.n.o y.u.n.l y.u.n.c,.bool y.u.b,.slice y.u.lo y.u.ll y.u.lc] 44;replace gA:=aG yp.out gA;replace aD:=aG yp.out aD;replace HW:=aa (HW.out.trans (yp.out.mono HW.out.size));have g0:=ae (v:=.string y.nm) lD.out 0 rfl;have nF:=af lD.out 0;have g1:=ae (v:=.int .i64 y.u.k) lD.out 1 rfl;have nD:=af lD.out 1;have g2:=ae (v:=.bool (decide (y.u.n.z<0))) lD.out 2 rfl;have oA:=af lD.out 2
   have g3:=ae (v:=.slice y.u.n.o y.u.n.l y.u.n.c) lD.out 3 rfl;have oz:=af lD.out 3;have g4:=ae (v:=.bool y.u.b) lD.out 4 rfl;have oy:=af lD.out 4;have g5:=ae (v:=.slice y.u.lo y.u.ll y.u.lc) lD.out 5 rfl;have WE:=af lD.out 5
   by_cases hnm:y.nm=nm
   ·have hne:(y.nm.toList==nm.toList)=true:=FB hnm;have CL:=aa hnm;clear hnm;have f0:=af gA.out 0;have r0:=ae (v:=.int .i64 u.k) gA.out 0 rfl;have f1:=af gA.out 1;have r1:=ae (v:=.bool (decide (u.n.z<0))) gA.out 1 rfl;have f2:=af gA.out 2;have r2:=ae (v:=.slice u.n.o u.n.l u.n.c) gA.out 2 rfl;have f3:=af gA.out 3;have r3:=ae (v:=.bool u.b) gA.out 3 rfl;have f4:=af gA.out 4;have r4:=ae (v:=.slice u.lo u.ll u.lc) gA.out 4 rfl;go_wp2_with fail
    have hg:=aY (w:=x3) (k:=kq) (.int .i64 y.u.k) (.bool (decide (y.u.n.z<0))) (.slice y.u.n.o y.u.n.l y.u.n.c) (.bool y.u.b) (.slice y.u.lo y.u.ll y.u.lc);go_roundw
    case rel=>exact⟨j+1,y.u,by go_num,hlt,aa (fj gA.out _ _ _ _ _),aa ((hg.block kr (ag aD.out) (fun e=>by injection e with e;have:=N_.out;omega)).trans aD.out),UR,aa (by rw[Gn.out,if_pos CL.out]),aa (aS HW.out hg Vj.out)⟩
    case measure=>simp[fH];omega
   have hne:(y.nm.toList==nm.toList)=false:=Jn hnm;have CL:=aa hnm;clear hnm;go_wp2_with fail
   go_roundw
   case rel=>exact⟨j+1,u,by go_num,hlt,gA,aD,KT,aa (by rw[Gn.out,if_neg CL.out];exact AL.out),HW⟩
   case measure=>simp[fH];omega
  have Qo:Hid (u.x=a_ (jo us) nm):=aa (by have:=AL.out;rw[show j=N by omega,HN.out,show us.length=(jo us).length by unfold jo;simp,bD] at this;exact this);have q0:=ae (v:=.int .i64 u.k) gA.out 0 rfl;have PU:=af gA.out 0;have q1:=ae (v:=.bool (decide (u.n.z<0))) gA.out 1 rfl;have PT:=af gA.out 1;have q2:=ae (v:=.slice u.n.o u.n.l u.n.c) gA.out 2 rfl;have PS:=af gA.out 2;have q3:=ae (v:=.bool u.b) gA.out 3 rfl;have PR:=af gA.out 3;have q4:=ae (v:=.slice u.lo u.ll u.lc) gA.out 4 rfl;have PO:=af gA.out 4;obtain⟨⟨r0,r1,r2,r3,r4⟩,gT,gS,iF,iE,iD⟩:=aV aD.out;go_wp2_with fail
  clear q0 PU q1 PT q2 PS q3 PR q4 PO;obtain⟨s1,s2⟩:=gh HW.out aD.out eF gp.out (.int .i64 u.k) (.bool (decide (u.n.z<0))) (.slice u.n.o u.n.l u.n.c) (.bool u.b) (.slice u.lo u.ll u.lc)
  (try simp only[aE,aM])
  exact aB (v:=vV u) (by simp[results,Tryz.results60,go_sem,r0,r1,r2,r3,r4,vV]) rfl ⟨_,rfl,⟨u,rfl,Qo.out,(KT.out.below HW.out).fr (by decide) s1⟩,s2⟩
attribute [local go_sem] jn jm jl jk
def s_ (j:Nat):ByteArray:=[(⟨#[105,48]⟩:ByteArray),⟨#[105,49]⟩,⟨#[105,50]⟩,⟨#[108,48]⟩,⟨#[108,49]⟩,⟨#[98,48]⟩,⟨#[98,49]⟩].getD j ⟨#[]⟩
def mu (j:Nat):Int:=[(0:Int),0,0,2,2,1,1].getD j 0
theorem tg (j:Nat):mu j=0\/mu j=1\/mu j=2:=by
 unfold mu
 match j with
 | 0 | 1 | 2 | 3 | 4 | 5 | 6=>simp
 | j+7=>simp
theorem OA (j:Nat) (h:j<7) (w:an):(Instr.index 93 (.agg #[.int .i64 0,.int .i64 0,.int .i64 0,.int .i64 2,.int .i64 2,.int .i64 1,.int .i64 1]) (.int .i64 (j:Nat))).run ax w=.ok (.int .i64 (mu j)) w:=by
 have:j=0\/j=1\/j=2\/j=3\/j=4\/j=5\/j=6:=by omega
 rcases this with rfl | rfl | rfl | rfl | rfl | rfl | rfl<;>(unfold Instr.index;simp[go_sem,asIntOf,mu])
theorem Ex {w:an} {g:Nat} {T:TypeId} (h:w.heap[g]?=some (.cells #[.string ⟨#[105,48]⟩,.string ⟨#[105,49]⟩,.string ⟨#[105,50]⟩,.string ⟨#[108,48]⟩,.string ⟨#[108,49]⟩,.string ⟨#[98,48]⟩,.string ⟨#[98,49]⟩] T (0,0))) (j:Nat) (hj:j<7):w.cell? ⟨g,j,none⟩=some (.string (s_ j)):=by
 have:j=0\/j=1\/j=2\/j=3\/j=4\/j=5\/j=6:=by omega
 rcases this with rfl | rfl | rfl | rfl | rfl | rfl | rfl<;>exact ae h _ rfl
theorem q8.one {w:an} {g:Nat} {k:Int} {b d:Bool} {o p:Option cH} {l c m q:Nat} (h:w.heap[g]?=some (.cells #[.int .i64 k,.bool b,.slice o l c,.bool d,.slice p m q] 41 (0,0))) (hk : -9223372036854775808<=k/\k<=9223372036854775807) (h1:su w (.slice o l c)) (h2:rY w p m q):q8 w (some ⟨g,0,none⟩) 1 1:=by
 refine⟨⟨ak _,by decide⟩,fun i hi=>?_⟩;obtain rfl:i=0:=by omega
 exact⟨_,k,b,o,l,c,d,p,m,q,rfl,⟨ae h 0 rfl,ae h 1 rfl,ae h 2 rfl,ae h 3 rfl,ae h 4 rfl⟩,hk,h1,h2⟩
theorem su.nil (w:an):su w (.slice none 0 0):=⟨[],Sl.nil _ _,eI.nil _⟩
theorem rY.nil (w:an):rY w none 0 0:=⟨⟨ak _,au _⟩,fun i hi=>absurd hi (ah i)⟩
theorem yJ {w:an} {g:Nat} {nm:ByteArray} {u:VU} {k:Int} {b d:Bool} {o p:Option cH} {l c m q:Nat} (hB:w.heap[g]?=some (.cells #[.string nm,.int .i64 k,.bool b,.slice o l c,.bool d,.slice p m q] 44 (0,0))) (hu:vC u=[.int .i64 k,.bool b,.slice o l c,.bool d,.slice p m q]) (hR:VR w u):bE.At w (.slice (some ⟨g,0,none⟩) 1 1) [⟨nm,u⟩]:=
 El.At.block (E:=bE) (el:=[⟨nm,u⟩]) (by rw[hB];simp only[eT,List.flatMap_nil,iN,show bE.f ⟨nm,u⟩=.string nm::vC u from rfl,hu];rfl) (show 1<=fO by decide) (fun a ha=>by rw[dG] at ha;subst ha;exact hR)
def xh (j:Nat) (env:List (ByteArray × V)):Prop:=env.map (·.1)=(List.range j).map s_/\env.map (fun p=>fu p.2)=(List.range j).map mu/\∀ p ∈ env,TV p.2
theorem xh.snoc {j:Nat} {env:List (ByteArray × V)} {x:V} (h:xh j env) (hs:fu x=mu j) (hx:TV x):xh (j+1) (env++[(s_ j,x)]):=by
 obtain⟨h1,h2,h3⟩:=h;refine⟨by rw[dN,h1,List.range_succ,dN];rfl,by rw[dN,h2,List.range_succ,dN];simp[hs],fun p hp=>?_⟩;rcases List.mem_append.1 hp with hp | hp
 ·exact h3 p hp
 rw[dG] at hp;subst hp;exact hx
theorem zU {w:an} {g:Nat} {T:TypeId} {a0 a1 a2 a3 a4:ay} (h:w.heap[g]?=some (.cells #[a0,a1,a2,a3,a4] T (0,0))) (v:ay):(w.setCell ⟨g,0,none⟩ v).heap[g]?=some (.cells #[v,a1,a2,a3,a4] T (0,0)):=aF _ g 0 _ T v h
theorem El.Row.jC {α:Type} {E:El α} {w w':an} {B g:Nat} {v:ay} {el:List α} (h:E.Row w B v el) (hg:w.grownBy w' (some g)) (hne:∀ j,v.ownBlock=some j->j≠g) {e:TypeId} (hf:Fr e w w') (hok:E.ok e):E.Row w' B v el:=by
 refine⟨?_,fun j hj=>?_,fun q hq=>E.fr hok hf (h.rd q hq)⟩
 ·rcases hr:v.ownBlock with _ | j
  ·exact iT h.own hg (.inl hr)
  exact iT h.own hg (.inr (by rw[hr];intro e;injection e with e;exact hne j hr e))
 obtain⟨c,hc,h32⟩:=h.n32 j hj;exact⟨c,(hg.block j (ag hc) (fun e=>by injection e with e;exact hne j hj e)).trans hc,h32⟩
def Nz (w:an) (kn:Nat) (B:Nat) (ov iv:ay) (wr:an):Prop:=
 ∃ (j:Nat) (us:List BU),iv=.int .i64 (j:Nat)/\j<=7/\Hid (us.length=j)/\Hid (xh j (jo us))/\Hid (bE.Row wr B ov us)/\Hid (aC w.heap.size w wr)/\Hid (wr.heap[kn]?=some (.cells #[.string ⟨#[105,48]⟩,.string ⟨#[105,49]⟩,.string ⟨#[105,50]⟩,.string ⟨#[108,48]⟩,.string ⟨#[108,49]⟩,.string ⟨#[98,48]⟩,.string ⟨#[98,49]⟩] 9 (0,0)))/\Hid (B<=wr.heap.size)
theorem MS (ko:Option cH) (n kc:Nat) (w:an) (hx:q8 w ko n kc) :
  bf ax 12 #[.slice ko n kc] w fun e w'=>∃ v env,e=.returned v/\EL w' v env/\xh 7 env/\aC w.heap.size w w':=by
 obtain⟨h1,h2⟩:=hx.1;have DJ:kc<=9223372036854775807:=h2;have HX:=aa hx;clear hx h2;have HW:=aa (av w.heap.size w);go_enter Tryz.func12,Tryz.ntmps12
 obtain⟨x1,kn,en,Le,BD,hkn,oe⟩:=aL w #[.string ⟨#[105,48]⟩,.string ⟨#[105,49]⟩,.string ⟨#[105,50]⟩,.string ⟨#[108,48]⟩,.string ⟨#[108,49]⟩,.string ⟨#[98,48]⟩,.string ⟨#[98,49]⟩] 9;replace HW:=aa (HW.out.trans (BD.out.mono HW.out.size));have Ob:Hid (kn<x1.heap.size):=aa (ag oe.out);go_wp2_with fail
 go_loopw [3,9] (Nz w kn x1.heap.size) (fun _ i _=>7 - (fH i).toNat)
 case atStart=>exact⟨0,[],rfl,au _,aa rfl,aa ⟨rfl,rfl,fun p hp=>by cases hp⟩,aa (El.Row.nil _ _),HW,oe,aa (ak _)⟩
 case round =>
  obtain⟨wl,Bv⟩:∃ q,q=wr:=⟨_,rfl⟩
  subst Bv;clear HW oe;obtain⟨j,us,rfl,hj,HU,Lr,HR,HW,oe,qC⟩:=hrel;obtain⟨oo,oc,rfl,OU,TC,-⟩:=HR.out.form;have L3:=HU.out;rw[L3] at OU
  by_cases hlt:j<7
  ·have Q9:=Ex oe.out j hlt;have Wk:=OA j hlt;have HL:=aa hlt;clear L3;go_upto_region 6 with fail
   have Dz:=HW;have U7:=HR;have QL:=oe;obtain⟨x2,kv,ev,NY,NP,hkv,lz⟩:=aL wl #[.int .i64 0,.bool false,.slice none 0 0,.bool false,.slice none 0 0] 41;replace oe:=aG NP.out oe;replace HW:=aa (HW.out.trans (NP.out.mono HW.out.size));replace HR:=aa (HR.out.below NP.out);replace qC:=aa (aq qC.out NP.out.size);rw[ev,NY];have QD:Hid (w.heap.size<=kv):=aa (by rw[<-NY];exact Dz.out.size);have KX:Hid (∀ q,(Value.slice oo us.length oc).ownBlock=some q->q≠kv):=aa (fun q hq=>by have h1:=(U7.out.ge hq).2;rw[NY] at h1;omega);have KZ:Hid (some kn≠some kv):=aa (fun e=>by injection e with e;have h1:=ag QL.out;rw[NY] at h1;omega)
   by_cases Mh:j<n
   ·obtain⟨a,xk,rb,ro,rl,rc,rd,rp,rm,rq,rfl,⟨g0,g1,g2,g3,g4⟩,J4,Gc,Rr⟩:=HX.out.2 j Mh;have Qt:=aa Gc;have Qx:=aa Rr;clear Gc Rr J4;rw[<-HW.out.cell (bW w _ g0)] at g0;rw[<-HW.out.cell (bW w _ g1)] at g1;rw[<-HW.out.cell (bW w _ g2)] at g2;rw[<-HW.out.cell (bW w _ g3)] at g3;rw[<-HW.out.cell (bW w _ g4)] at g4;have O7:((j:Nat):Int)<((n:Nat):Int):=by omega
    have v0:=ae (v:=.int .i64 0) lz.out 0 rfl;have Gj:=af lz.out 0;have v1:=ae (v:=.bool false) lz.out 1 rfl;have Gi:=af lz.out 1;have v2:=ae (v:=.slice none 0 0) lz.out 2 rfl;have Kx:=af lz.out 2;have v3:=ae (v:=.bool false) lz.out 3 rfl;have Kw:=af lz.out 3;have v4:=ae (v:=.slice none 0 0) lz.out 4 rfl;have Kv:=af lz.out 4;go_upto_region 9 with fail
    clear Q9 v0 Gj v1 Gi v2 Kx v3 Kw v4 Kv g0 g1 g2 g3 g4;have eB:=aY (w:=x2) (k:=kv) (.int .i64 xk) (.bool rb) (.slice ro rl rc) (.bool rd) (.slice rp rm rq);have dm:=fj lz.out (.int .i64 xk) (.bool rb) (.slice ro rl rc) (.bool rd) (.slice rp rm rq);obtain⟨W1,lN⟩:∃ q,q=((((x2.setCell ⟨kv,0,none⟩ (.int .i64 xk)).setCell ⟨kv,1,none⟩ (.bool rb)).setCell ⟨kv,2,none⟩ (.slice ro rl rc)).setCell ⟨kv,3,none⟩ (.bool rd)).setCell ⟨kv,4,none⟩ (.slice rp rm rq):=⟨_,rfl⟩
    rw[<-lN] at eB dm ⊢;have eV:W1.grownBy (W1.setCell ⟨kv,0,none⟩ (.int .i64 (mu j))) (some kv):=aI (aJ _ _) _;have cV:=zU dm (.int .i64 (mu j));obtain⟨W2,jN⟩:∃ q,q=W1.setCell ⟨kv,0,none⟩ (.int .i64 (mu j)):=⟨_,rfl⟩
    rw[<-jN] at eV cV ⊢;have jM:Fr 41 x2 W1:=.aN eB (fun j hj=>by injection hj with hj;subst hj;exact⟨_,lz.out,eF⟩);have Jf:Fr 41 W1 W2:=.aN eV (fun j hj=>by injection hj with hj;subst hj;exact⟨_,dm,eF⟩);replace HR:=aa ((HR.out.jC eB KX.out jM (show 26≠41 by decide)).jC eV KX.out Jf (show 26≠41 by decide));replace HW:=aa (aS (aS HW.out eB QD.out) eV QD.out);replace qC:=aa (aq qC.out (aq eB.size eV.size));replace oe:=aa ((eV.block kn (ag ((eB.block kn (ag oe.out) KZ.out).trans oe.out)) KZ.out).trans ((eB.block kn (ag oe.out) KZ.out).trans oe.out));have Qs:=aa (Qt.out.below HW.out);have Qw:=aa (Qx.out.below HW.out);replace lz:=aa cV;clear eV cV jN Jf eB dm lN jM
    have v0:=ae (v:=.int .i64 (mu j)) lz.out 0 rfl;have Gj:=af lz.out 0;have v1:=ae (v:=.bool rb) lz.out 1 rfl;have Gi:=af lz.out 1;have v2:=ae (v:=.slice ro rl rc) lz.out 2 rfl;have Kx:=af lz.out 2;have v3:=ae (v:=.bool rd) lz.out 3 rfl;have Kw:=af lz.out 3;have v4:=ae (v:=.slice rp rm rq) lz.out 4 rfl;have Kv:=af lz.out 4;obtain⟨x3,ky,ey,oB,hby,tw,iu⟩:=aL W2 #[.int .i64 (mu j),.bool rb,.slice ro rl rc,.bool rd,.slice rp rm rq] 41;replace oe:=aG hby.out oe;replace lz:=aG hby.out lz;replace HW:=aa (HW.out.trans (hby.out.mono HW.out.size));replace HR:=aa (HR.out.below hby.out);replace qC:=aa (aq qC.out hby.out.size)
    have N9:=aa (q8.one iu.out (by rcases tg j with h | h | h<;>rw[h]<;>decide) (Qs.out.below hby.out) (Qw.out.below hby.out));have Ae:=ae (v:=.int .i64 (mu j)) iu.out 0 rfl;go_wp2_with fail
    refine (D7 _ 1 1 x3 N9.out).mono ?_;rintro e x4 ⟨t,xs,rfl,hvl,hlen,I1,hks,hb⟩;clear v0 Gj v1 Gi v2 Kx v3 Kw v4 Kv;replace oe:=aG hb oe;replace lz:=aG hb lz;replace iu:=aG hb iu;replace HW:=aa (HW.out.trans (hb.mono HW.out.size));replace HR:=aa (HR.out.below hb);replace qC:=aa (aq qC.out hb.size)
    obtain⟨x,rfl⟩:∃ x,xs=[x]:=by
     have Ja:xs.length=1:=by rw[hlen];rfl
     exact List.length_eq_one_iff.1 Ja
    have I2:fu x=mu j:=by
     have:=hks 0 (by simp) _ (mu j) rfl (by rw[show (⟨ky,0,none⟩:cH).add (0*5)=⟨ky,0,none⟩ from rfl];exact Ae);simp only[lR] at this;rw[this];rcases tg j with h | h | h<;>rw[h]<;>rfl
    have DP:=aa I2;have Qp:=aa (I1 x (by simp));obtain⟨tO,tc,rfl,⟨K3,Hy⟩,L4⟩:=hvl.form;obtain⟨a3,tk,tb,Om,On,Oo,td,tp,tm,tq,rfl,⟨t0,t1,t2,t3,t4⟩,Hv⟩:=L4 0 (by simp);have OP:tc<=9223372036854775807:=Hy;simp only[lR,Nat.zero_mul,Addr.add,if_true] at t0 t1 t2 t3 t4 Hv;have yj:[x].length<=tc:=K3;simp only[ru,xC] at yj;obtain⟨u,uk,ub,uo,ul,uc,ud,up,um,uq,yT,Cp,Co,Af⟩:=Hv.unit;injection yT with yT;have e0:=congrArg Array.toList yT;simp only[me,Value.int.injEq,tM,rP,and_true,true_and] at e0;obtain⟨rfl,rfl,⟨rfl,rfl,rfl⟩,rfl,rfl,rfl,rfl⟩:=e0;have Iw:=aa Cp;have AL:=aa Co;have xJ:=aa Af;clear yT hvl hlen I1 hks I2 Hv Cp Co Af L4 K3 Hy Ae
    obtain⟨x5,kz,ez,vD,hbz,mG,bG⟩:=aL x4 #[.string (s_ j),.int .i64 tk,.bool tb,.slice Om On Oo,.bool td,.slice tp tm tq] 44;replace oe:=aG hbz.out oe;replace lz:=aG hbz.out lz;replace iu:=aG hbz.out iu;replace HW:=aa (HW.out.trans (hbz.out.mono HW.out.size));replace HR:=aa (HR.out.below hbz.out);replace qC:=aa (aq qC.out hbz.out.size);replace xJ:=aa (xJ.out.below hbz.out);have qD:=aa (yJ bG.out Iw.out xJ.out);go_wp2_with (at_builtin;refine El.Row.append (E:=bE) HR.out rfl (.tmp 27) (.tmp 35) rfl rfl rfl qD.out (by rw[HU.out];simp;omega) qC.out ?_;intro v9 w9 r1 r2 r3 r4)
    go_roundw
    case rel=>exact⟨j+1,us++[⟨s_ j,u⟩],by go_num,HL.out,aa (by rw[fI,HU.out];rfl),aa (by unfold jo;rw[dN];exact Lr.out.snoc (by rw[AL.out];exact DP.out) (by rw[AL.out];exact Qp.out)),aa r1,aa (HW.out.trans (r3.mono (by have:=BD.out.size;exact this))),aa ((r3.block kn Ob.out).trans oe.out),aa (aq qC.out r3.size)⟩
    case measure=>simp[fH];omega
   have O7:¬ ((j:Nat):Int)<((n:Nat):Int):=by omega
   have v0:=ae (v:=.int .i64 0) lz.out 0 rfl;have Gj:=af lz.out 0;have v1:=ae (v:=.bool false) lz.out 1 rfl;have Gi:=af lz.out 1;have v2:=ae (v:=.slice none 0 0) lz.out 2 rfl;have Kx:=af lz.out 2;have v3:=ae (v:=.bool false) lz.out 3 rfl;have Kw:=af lz.out 3;have v4:=ae (v:=.slice none 0 0) lz.out 4 rfl;have Kv:=af lz.out 4;go_upto_region 9 with fail
   clear Q9 v0 Gj v1 Gi v2 Kx v3 Kw v4 Kv;have eV:x2.grownBy (x2.setCell ⟨kv,0,none⟩ (.int .i64 (mu j))) (some kv):=aI (aJ _ _) _;have cV:=zU lz.out (.int .i64 (mu j));obtain⟨W2,jN⟩:∃ q,q=x2.setCell ⟨kv,0,none⟩ (.int .i64 (mu j)):=⟨_,rfl⟩
   rw[<-jN] at eV cV ⊢;have Jf:Fr 41 x2 W2:=.aN eV (fun j hj=>by injection hj with hj;subst hj;exact⟨_,lz.out,eF⟩);replace HR:=aa (HR.out.jC eV KX.out Jf (show 26≠41 by decide));replace HW:=aa (aS HW.out eV QD.out);replace qC:=aa (aq qC.out eV.size);replace oe:=aa ((eV.block kn (ag oe.out) KZ.out).trans oe.out);replace lz:=aa cV;clear eV cV jN Jf;have v0:=ae (v:=.int .i64 (mu j)) lz.out 0 rfl;have Gj:=af lz.out 0;have v1:=ae (v:=.bool false) lz.out 1 rfl;have Gi:=af lz.out 1;have v2:=ae (v:=.slice none 0 0) lz.out 2 rfl;have Kx:=af lz.out 2;have v3:=ae (v:=.bool false) lz.out 3 rfl;have Kw:=af lz.out 3;have v4:=ae (v:=.slice none 0 0) lz.out 4 rfl;have Kv:=af lz.out 4
   obtain⟨x3,ky,ey,oB,hby,tw,iu⟩:=aL W2 #[.int .i64 (mu j),.bool false,.slice none 0 0,.bool false,.slice none 0 0] 41;replace oe:=aG hby.out oe;replace lz:=aG hby.out lz;replace HW:=aa (HW.out.trans (hby.out.mono HW.out.size));replace HR:=aa (HR.out.below hby.out);replace qC:=aa (aq qC.out hby.out.size);have N9:=aa (q8.one iu.out (by rcases tg j with h | h | h<;>rw[h]<;>decide) (su.nil _) (rY.nil _));have Ae:=ae (v:=.int .i64 (mu j)) iu.out 0 rfl;go_wp2_with fail
   refine (D7 _ 1 1 x3 N9.out).mono ?_;rintro e x4 ⟨t,xs,rfl,hvl,hlen,I1,hks,hb⟩;clear v0 Gj v1 Gi v2 Kx v3 Kw v4 Kv;replace oe:=aG hb oe;replace lz:=aG hb lz;replace iu:=aG hb iu;replace HW:=aa (HW.out.trans (hb.mono HW.out.size));replace HR:=aa (HR.out.below hb);replace qC:=aa (aq qC.out hb.size)
   obtain⟨x,rfl⟩:∃ x,xs=[x]:=by
    have Ja:xs.length=1:=by rw[hlen];rfl
    exact List.length_eq_one_iff.1 Ja
   have I2:fu x=mu j:=by
    have:=hks 0 (by simp) _ (mu j) rfl (by rw[show (⟨ky,0,none⟩:cH).add (0*5)=⟨ky,0,none⟩ from rfl];exact Ae);simp only[lR] at this;rw[this];rcases tg j with h | h | h<;>rw[h]<;>rfl
   have DP:=aa I2;have Qp:=aa (I1 x (by simp));obtain⟨tO,tc,rfl,⟨K3,Hy⟩,L4⟩:=hvl.form;obtain⟨a3,tk,tb,Om,On,Oo,td,tp,tm,tq,rfl,⟨t0,t1,t2,t3,t4⟩,Hv⟩:=L4 0 (by simp);have OP:tc<=9223372036854775807:=Hy;simp only[lR,Nat.zero_mul,Addr.add,if_true] at t0 t1 t2 t3 t4 Hv;have yj:[x].length<=tc:=K3;simp only[ru,xC] at yj;obtain⟨u,uk,ub,uo,ul,uc,ud,up,um,uq,yT,Cp,Co,Af⟩:=Hv.unit;injection yT with yT;have e0:=congrArg Array.toList yT;simp only[me,Value.int.injEq,tM,rP,and_true,true_and] at e0;obtain⟨rfl,rfl,⟨rfl,rfl,rfl⟩,rfl,rfl,rfl,rfl⟩:=e0;have Iw:=aa Cp;have AL:=aa Co;have xJ:=aa Af;clear yT hvl hlen I1 hks I2 Hv Cp Co Af L4 K3 Hy Ae
   obtain⟨x5,kz,ez,vD,hbz,mG,bG⟩:=aL x4 #[.string (s_ j),.int .i64 tk,.bool tb,.slice Om On Oo,.bool td,.slice tp tm tq] 44;replace oe:=aG hbz.out oe;replace lz:=aG hbz.out lz;replace iu:=aG hbz.out iu;replace HW:=aa (HW.out.trans (hbz.out.mono HW.out.size));replace HR:=aa (HR.out.below hbz.out);replace qC:=aa (aq qC.out hbz.out.size);replace xJ:=aa (xJ.out.below hbz.out);have qD:=aa (yJ bG.out Iw.out xJ.out);go_wp2_with (at_builtin;refine El.Row.append (E:=bE) HR.out rfl (.tmp 27) (.tmp 35) rfl rfl rfl qD.out (by rw[HU.out];simp;omega) qC.out ?_;intro v9 w9 r1 r2 r3 r4)
   go_roundw
   case rel=>exact⟨j+1,us++[⟨s_ j,u⟩],by go_num,HL.out,aa (by rw[fI,HU.out];rfl),aa (by unfold jo;rw[dN];exact Lr.out.snoc (by rw[AL.out];exact DP.out) (by rw[AL.out];exact Qp.out)),aa r1,aa (HW.out.trans (r3.mono (by have:=BD.out.size;exact this))),aa ((r3.block kn Ob.out).trans oe.out),aa (aq qC.out r3.size)⟩
   case measure=>simp[fH];omega
  go_wp2_with fail
  go_ret
  have e7:j=7:=by omega
  exact⟨_,_,rfl,⟨us,HR.out.at,rfl⟩,by rw[<-e7];exact Lr.out,HW.out⟩
theorem cw {P:Program} {ops:Array Oper} {Q:Exit->Act->an->Prop} {fuel:Nat} {listed:Array Bool} {a:Act} {w:an} (R:List Nat) (hr:Region.ready .any ops listed=R) (hne:R ≠ [])
  (h:∀ i ∈ R,∃ o,ops[i]?=some o/\o.guard=none/\∀ K:Act->an->Prop,Hid (∀ a w,wpAny P .any ops Q fuel (listed.setIfInBounds i true) a w->K a w)->o.wp P a w K Q):wpAny P .any ops Q (fuel+1) listed a w:=by
 refine⟨fun h0=>absurd (hr.symm.trans h0) hne,fun i hi=>?_⟩;rw[hr] at hi;obtain⟨o,ho,hg,hk⟩:=h i hi;unfold wpOp;rw[ho];simp only[Region.wanted,hg,if_true];exact Or.inl (hk _ (aa fun _ _ h=>h))
def fR:El FU where
 e:=29
 t:=27
 n:=5
 b:=80
 z:=.agg #[.int .i64 0,.bool false,.slice none 0 0,.string ⟨#[]⟩,.slice none 0 0]
 f:=fC
 R _ _:=True
 ok _:=True
 pos:=by decide
 KF:=by decide
 zs:=rfl
 z32:=by intro u hu z;simp only[Value.cells,dw,cl,or_false] at hu;rcases hu with rfl | rfl | rfl | rfl | rfl<;>(intro h;cases h)
 ht:=Tryz.underlying27
 info:=EN
 len _:=rfl
 one n:=by
  intro u hu;simp only[fC,dw,cl,or_false] at hu;rcases hu with rfl | rfl | rfl | rfl | rfl<;>rfl
 n32 n:=by
  intro u hu z;simp only[fC,dw,cl,or_false] at hu;rcases hu with rfl | rfl | rfl | rfl | rfl<;>(intro h;cases h)
 fr _ _ _:=trivial
 own:=trivial
def Gu:FU:=⟨0,n0,⟨#[]⟩,none,0,0⟩
theorem Be (l:List FU) (i:Nat) (u:FU) (hi:i<l.length):(((((l.flatMap fC).set (i*5) (.int .i64 u.k)).set (i*5+1) (.bool (decide (u.n.z<0)))).set (i*5+2) (.slice u.n.o u.n.l u.n.c)).set (i*5+3) (.string u.nm)).set (i*5+4) (.slice u.ko u.kl u.kc)=(l.set i u).flatMap fC:=by
 induction l generalizing i with
 | nil=>simp at hi
 | cons b l ih =>
  cases i with
  | zero=>rfl
  | succ i =>
   have h1:=ih i (by simpa using hi);simp only[eT,fC,jV,List.nil_append,List.set_cons_succ,cL,Nat.one_mul,show i*5+5=i*5+1+1+1+1+1 from rfl,show i*5+1+1+1+1+1+1=(i*5+1)+1+1+1+1+1 from rfl,show i*5+1+1+1+1+1+2=(i*5+2)+1+1+1+1+1 from rfl,show i*5+1+1+1+1+1+3=(i*5+3)+1+1+1+1+1 from rfl,show i*5+1+1+1+1+1+4=(i*5+4)+1+1+1+1+1 from rfl];rw[<-h1]
def lB (w:an) (g i:Nat) (u:FU):an:=((((w.setCell ⟨g,i*5,none⟩ (.int .i64 u.k)).setCell ⟨g,i*5+1,none⟩ (.bool (decide (u.n.z<0)))).setCell ⟨g,i*5+2,none⟩ (.slice u.n.o u.n.l u.n.c)).setCell ⟨g,i*5+3,none⟩ (.string u.nm)).setCell ⟨g,i*5+4,none⟩ (.slice u.ko u.kl u.kc)
theorem bt (w:an) (g i:Nat) (u:FU):w.grownBy (lB w g i u) (some g):=by
 unfold lB;refine aI ?_ _;refine aI ?_ _;refine aI ?_ _;refine aI ?_ _;refine aI ?_ _;exact aJ _ _
theorem Row.tW {w:an} {B g n kc:Nat} {el:List FU} (h:fR.Row w B (.slice (some ⟨g,0,none⟩) n kc) el) (i:Nat) (hi:i<el.length) (hn:n=el.length) (u:FU) {w':an} (hw:w'=lB w g i u) :
  fR.Row w' B (.slice (some ⟨g,0,none⟩) n kc) (el.set i u)/\Fr fR.e w w':=by
 have hg:w.grownBy w' (some g):=by rw[hw];exact bt w g i u
 unfold lB at hw;have h0:=h.own;rw[<-hn] at h0;have h1:=(gF (gF (gF (gF (gF h0 (i*5) (.int .i64 u.k)).1 (i*5+1) (.bool (decide (u.n.z<0)))).1 (i*5+2) (.slice u.n.o u.n.l u.n.c)).1 (i*5+3) (.string u.nm)).1 (i*5+4) (.slice u.ko u.kl u.kc)).1;have h2:=Be el i u hi;have e:fR.f=fC:=rfl;rw[e,h2,<-hw] at h1;obtain⟨c,hc,h32⟩:=h.n32 g rfl;have Ge:=aF _ g (i*5+4) _ _ (.slice u.ko u.kl u.kc) (aF _ g (i*5+3) _ _ (.string u.nm) (aF _ g (i*5+2) _ _ (.slice u.n.o u.n.l u.n.c) (aF _ g (i*5+1) _ _ (.bool (decide (u.n.z<0))) (aF _ g (i*5) _ _ (.int .i64 u.k) hc))));rw[<-hw] at Ge
 exact h.put i u hg h1 ⟨_,Ge,pM (pM (pM (pM (pM h32 _ (by intro z e;cases e)) _ (by intro z e;cases e)) _ (by intro z e;cases e)) _ (by intro z e;cases e)) _ (by intro z e;cases e)⟩ hn trivial
theorem Row.R9 {w:an} {B g n kc:Nat} {el:List FU} (h:fR.Row w B (.slice (some ⟨g,0,none⟩) n kc) el) (hn:n=el.length) {i:Nat} (hi:i<el.length) :
  (w.cell? ⟨g,i*5,none⟩=some (.int .i64 el[i].k)/\w.cell? ⟨g,i*5+1,none⟩=some (.bool (decide (el[i].n.z<0)))/\w.cell? ⟨g,i*5+2,none⟩=some (.slice el[i].n.o el[i].n.l el[i].n.c)/\w.cell? ⟨g,i*5+3,none⟩=some (.string el[i].nm)/\w.cell? ⟨g,i*5+4,none⟩=some (.slice el[i].ko el[i].kl el[i].kc)) /\
  w.frozen? ⟨g,i*5,none⟩=false/\w.frozen? ⟨g,i*5+1,none⟩=false/\w.frozen? ⟨g,i*5+2,none⟩=false/\w.frozen? ⟨g,i*5+3,none⟩=false/\w.frozen? ⟨g,i*5+4,none⟩=false:=by
 obtain⟨c,hc,h32⟩:=h.n32 g rfl
 have key:∀ j v,(fC el[i])[j]?=some v->w.cell? ⟨g,i*5+j,none⟩=some v:=by
  intro j v hj;have Mj:j<5:=by have:=(List.getElem?_eq_some_iff.1 hj).1;simpa [fC] using this
  have h0:=h.own;rw[<-hn] at h0;rw[World.ownsRow.cellAt h0 (i*5+j) (by show i*5+j<n*5;omega)];exact (lU fR.f fR.len el i j hi Mj).trans hj
 exact⟨⟨key 0 _ rfl,key 1 _ rfl,key 2 _ rfl,key 3 _ rfl,key 4 _ rfl⟩,af hc _,af hc _,af hc _,af hc _,af hc _⟩
theorem yq {w:an} {B:Nat} {v:ay} {us:List FU} (h:fR.Row w B v us) {o:Oper} {a:Act} {K:Act->an->Prop} {Q:Exit->Act->an->Prop} (s x:Operand)
  (ho:o.op=.call { callee:=.builtin .append,args:=#[s,x],argTypes:=#[27,27] }) (hs:a.eval s=v) (g:Nat) (u:FU) (hx:a.eval x=.slice (some ⟨g,0,none⟩) 1 1) (hB:w.heap[g]?=some (.cells (fC u).toArray 29 (0,0))) (hlen:us.length<=1000) (hb:B<=w.heap.size)
  (hK:∀ g' cap w',fR.Row w' B (.slice (some ⟨g',0,none⟩) (us.length+1) cap) (us++[u])->Fr fR.e w w'->aC B w w'->w.grownBy w' v.ownBlock->xg w v (.slice (some ⟨g',0,none⟩) (us.length+1) cap)->us.length+1<=cap->cap<=fO->K (a.put o.dst (.slice (some ⟨g',0,none⟩) (us.length+1) cap)) w'):o.wp ax a w K Q:=by
 have hnews:∀ j q,(fC u)[j]?=some q->w.cell? ((⟨g,0,none⟩:cH).add j)=some q:=fun j q hj=>World.news_of_block hB j q (by simpa using hj)
 have Uf:fR.At w (.slice (some ⟨g,0,none⟩) 1 1) [u]:=El.At.block (E:=fR) (el:=[u]) (by rw[hB];simp only[eT,List.flatMap_nil,iN];rfl) (show 1<=fO by decide) (fun _ _=>trivial);obtain⟨v',w',hr,h2,h3,h4,h5⟩:=h.run Uf o.type (by simp;omega) hb;obtain⟨i,hi,hz,jK,tN⟩:=info_parts fR.info
 have hf:xg w v v':=by
  have hown:=h.own;rw[<-jK] at hown;exact rX (P:=ax) fR.ht hi hz hown (c:=1) (m:=1) (news:=fC u) (by rw[jK];rfl) hnews (fR.one u) (by omega) (by rw[tN];show (us.length+1)*80<=_;omega) (by decide) (by rw[jK];exact fR.zs) (by rw[jK];exact fR.pos) hr
 have hsh:∃ g' cap,v'=.slice (some ⟨g',0,none⟩) (us.length+1) cap/\us.length+1<=cap/\cap<=fO:=by
  rcases h2.own.2 with ⟨-,h0⟩ | ⟨g',cap,cur,hv,_,_,hn,hc,_⟩
  ·simp at h0
  refine⟨g',cap,?_,?_,hc⟩
  ·rw[hv];simp
  simpa using hn
 obtain⟨g',cap,rfl,yh,I6⟩:=hsh;unfold Oper.wp execOp;simp only[ho,resolve,invoke,builtin,Sem.run_bind,Sem.run_pure,Result.andThen_ok,List.map_toArray,List.map_cons,List.map_nil,hs,hx];rw[show (Builtin.append_ #[27,27] o.type #[v,.slice (some ⟨g,0,none⟩) 1 1]).run ax w=_ from hr];exact hK _ _ _ h2 h3 h4 h5 hf yh I6
structure RU where
 o:Int
 b:Bool
 ao:Option cH
 l:Nat
 c:Nat
 nm:ByteArray
 ko:Option cH
 kl:Nat
 kc:Nat
def rC (x:RU):List ay:=[.int .i64 x.o,.bool x.b,.slice x.ao x.l x.c,.string x.nm,.slice x.ko x.kl x.kc]
def rV (x:RU):ay:=.agg #[.int .i64 x.o,.bool x.b,.slice x.ao x.l x.c,.string x.nm,.slice x.ko x.kl x.kc]
def nj (w:an):Nat->RU->Prop
 | 0,_=>True
 | d+1,x=>IR x.o/\su w (.slice x.ao x.l x.c)/\x.nm.size<=9223372036854775807/\(x.kl<=x.kc/\x.kc<=fO)/\∀ i,i<x.kl->∃ y,Gq 5 w x.ko i (rC y)/\nj w d y
theorem nj.below {w w':an} (hb:aC w.heap.size w w'):∀ {d:Nat} {x:RU},nj w d x->nj w' d x
 | 0,_,h=>h
 | d+1,x,⟨h1,h2,h3,h4,h5⟩=>by
  refine⟨h1,h2.below hb,h3,h4,fun i hi=>?_⟩;obtain⟨y,a1,a2⟩:=h5 i hi;exact⟨y,a1.keep fun a ha=>hb.block _ (a1.lt a ha),a2.below hb⟩
def Oi:RU:=⟨0,false,none,0,0,⟨#[]⟩,none,0,0⟩
theorem Ei (w:an) (d:Nat):nj w d Oi:=by
 cases d with
 | zero=>trivial
 | succ d=>exact⟨by unfold IR Oi;decide,⟨[],Sl.nil _ _,eI.nil _⟩,by decide,⟨ak _,au _⟩,fun i hi=>absurd hi (ah i)⟩
def fY (o:Int) (nm:ByteArray):Prop:=
 if o=1 then nm=⟨#[105,48]⟩\/nm=⟨#[105,49]⟩\/nm=⟨#[105,50]⟩
 else if o=8 then nm=⟨#[108,48]⟩\/nm=⟨#[108,49]⟩
 else if o=14 then nm=⟨#[98,48]⟩\/nm=⟨#[98,49]⟩
 else nm=⟨#[]⟩
def Tm:Nat->F->Prop
 | 0,_=>False
 | d+1,t=>fY t.op t.name/\t.num.natAbs<aH ^ 4/\(t.op≠0->t.op≠3->t.op≠5->t.num=0)/\t.kids.length<=3/\∀ k ∈ t.kids,Tm d k
def kZ (d:Nat) (s:Int) (w:an) (e:Ending) (w':an):Prop:=∃ v t,e=.returned v/\FC w' (fun b=>w.heap.size<=b) d v t/\rt t=true/\jh t.op=s/\Tm d t/\aC w.heap.size w w'
structure ir (w:an) (B kf kd kr ko:Nat) (x:RU) (dd:Int) (op:Int) (sg:Bool) (ao:Option cH) (l c:Nat) (nm:ByteArray) (z:Int) (d:Nat) (ts:List F) (v:ay) (us:List FU) (wr:an):Prop where
 ho:wr.heap[ko]?=some (.cells #[.int .i64 op,.bool sg,.slice ao l c,.string nm,v] 29 (0,0))
 hf:wr.heap[kf]?=some (.cells #[.int .i64 x.o,.bool x.b,.slice x.ao x.l x.c,.string x.nm,.slice x.ko x.kl x.kc] 29 (0,0))
 hd:wr.heap[kd]?=some (.cells #[.int .i64 dd] 3 (0,0))
 hr:wr.heap[kr]?=some (.cells #[.int .i64 0,.bool false,.slice none 0 0,.string ⟨#[]⟩,.slice none 0 0] 29 (0,0))
 hz:CI wr (.agg #[.bool sg,.slice ao l c]) z 600
 row:fR.Row wr B v us
 len:us.length=ts.length
 tr:∀ q (h1:q<us.length) (h2:q<ts.length),FT wr (fun b=>B<=b/\v.ownBlock≠some b) d us[q] ts[q]
 good:∀ t ∈ ts,rt t=true/\Tm d t
 low:kf<B/\kd<B/\kr<B/\ko<B
 N1:kf≠ko/\kd≠ko/\kr≠ko
 hi:w.heap.size<=ko
 be:aC w.heap.size w wr
 sz:B<=wr.heap.size
theorem ir.next {w:an} {B kf kd kr ko:Nat} {x:RU} {dd op:Int} {sg:Bool} {ao:Option cH} {l c:Nat} {nm:ByteArray} {z:Int} {d:Nat} {ts:List F} {v:ay} {us:List FU} {wr:an} (h:ir w B kf kd kr ko x dd op sg ao l c nm z d ts v us wr)
  {w5 w6 w8 wc:an} (hb:aC wr.heap.size wr w5) (hc:wr.heap.size<=wc.heap.size) {y:FU} {t:F} (hy:FT w5 (fun b=>wc.heap.size<=b) d y t) (Ml:rt t=true/\Tm d t) {g cap:Nat} (hfr:Fr 29 w5 w6) (hg:w5.grownBy w6 v.ownBlock) (hfresh:xg w5 v (.slice (some ⟨g,0,none⟩) (us.length+1) cap))
  (I3:fR.Row w8 B (.slice (some ⟨g,0,none⟩) (us.length+1) cap) (us++[y])) (vz:w8.heap[ko]?=some (.cells #[.int .i64 op,.bool sg,.slice ao l c,.string nm,.slice (some ⟨g,0,none⟩) (us.length+1) cap] 29 (0,0))) (J_:∀ k,k<w6.heap.size->k≠g->k≠ko->w8.heap[k]?=w6.heap[k]?) (hkn:KN w6 w8) (hos:w8.os=w6.os) (Tj:w8.tape=w6.tape) (TB:w8.output=w6.output) (hsz:w6.heap.size<=w8.heap.size) :
  ir w B kf kd kr ko x dd op sg ao l c nm z d (ts++[t]) (.slice (some ⟨g,0,none⟩) (us.length+1) cap) (us++[y]) w8:=by
 have hgB:B<=g:=(I3.ge rfl).1;have K5:=hb.size;have J7:=hg.size;have hB:=h.sz;have hown:∀ j,v.ownBlock=some j->B<=j/\j<wr.heap.size:=fun j hj=>h.row.ge hj
 have low:∀ k,k<B->k≠ko->w8.heap[k]?=wr.heap[k]?:=fun k hk Bz=>by
  rw[J_ k (by omega) (by omega) Bz,hg.block k (by omega) (fun e=>by have:=(hown k e.symm).1;omega),hb.block k (by omega)]
 obtain⟨l1,l2,l3,l4⟩:=h.low;obtain⟨d1,d2,d3⟩:=h.N1;have kn:KN wr w8:=((KN.oV hb).trans (KN.fG hfr)).trans hkn;refine⟨vz,(low _ l1 d1).trans h.hf,(low _ l2 d2).trans h.hd,(low _ l3 d3).trans h.hr,h.hz.kn kn,I3,by simp[h.len],fun q h1 h2=>?_,fun u hu=>?_,h.low,h.N1,h.hi,?_,by omega⟩
 ·by_cases hq:q<us.length
  ·have e1:(us++[y])[q]=us[q]:=rQ hq;have hq2:q<ts.length:=by rw[<-h.len];exact hq
   have e2:(ts++[t])[q]=ts[q]:=rQ hq2;rw[e1,e2]
   have hne:∀ b,(B<=b/\v.ownBlock≠some b)/\b<wr.heap.size->b≠g:=fun b hb' e=>by
    subst e;rcases hfresh b rfl with h' | h'
    ·exact hb'.1.2 h'
    omega
   refine ((h.tr q hq hq2).lt.keep (w':=w8) (fun b hb'=>?_) kn).mono fun b hb'=>⟨hb'.1.1,fun e=>hne b hb' (by injection e with e;exact e.symm)⟩
   rw[J_ b (by omega) (hne b hb') (by omega),hg.block b (by omega) (fun e=>hb'.1.2 e.symm),hb.block b hb'.2]
  have Tv:q=us.length:=by simp at h1;omega
  subst Tv;have e1:(us++[y])[us.length]=y:=by rw[AR (ak _)];simp
  have e2:(ts++[t])[us.length]=t:=by rw[AR (by rw[h.len];exact ak _)];simp[h.len]
  rw[e1,e2]
  have hne:∀ b,wc.heap.size<=b/\b<w5.heap.size->b≠g:=fun b hb' e=>by
   subst e;rcases hfresh b rfl with h' | h'
   ·have:=(hown b h').2;omega
   omega
  refine (hy.lt.keep (w':=w8) (fun b hb'=>?_) ((KN.fG hfr).trans hkn)).mono fun b hb'=>⟨by omega,fun e=>hne b hb' (by injection e with e;exact e.symm)⟩
  rw[J_ b (by omega) (hne b hb') (by omega),hg.block b hb'.2 (fun e=>by have:=(hown b e.symm).2;omega)]
 ·rcases List.mem_append.1 hu with hu | hu
  ·exact h.good u hu
  rw[dG] at hu;subst hu;exact Ml
 have Wa:=h.hi;have ei:=h.be;have T8:=ei.size;refine⟨(hos.trans (hg.os.trans hb.os)).trans ei.os,(Tj.trans (hg.tape.trans hb.tape)).trans ei.tape,(TB.trans (hg.output.trans hb.output)).trans ei.output,by omega,fun k hk=>?_⟩;rw[low k (by omega) (by omega)];exact ei.block k hk
def uH:List Bs:=[[78,117,109],[73,86,97,114],[65,100,100],[83,99,97,108,101],[77,117,108],[81,117,111],[76,101,110],[72,100],[76,86,97,114],[78,105,108],[67,111,110,115],[84,108],[84,114,117,101],[70,97,108,115,101],[66,86,97,114],[76,101],[69,113],[78,111,116],[65,110,100],[79,114],[73,102,102]]
def wd (o:Int):Bs:=uH.getD o.toNat []
def qt (nm:ByteArray):Bs:=34::(nm.data.toList++[34])
def qq (o z:Int):Bs:=if o=0\/z≠0 then 32::oQ z else []
def qL (nm:ByteArray):Bs:=if nm=⟨#[]⟩ then [] else 32::qt nm
mutual
def nA:F->Bs
 | .node o z nm ks=>wd o++(qq o z++(qL nm++rf ks))
def rf:List F->Bs
 | []=>[]
 | k::l=>40::(nA k++vH l)
def vH:List F->Bs
 | []=>[41]
 | k::l=>44::32::(nA k++vH l)
end
theorem JA (o:Int):(wd o).length<=5:=by
 unfold wd
 by_cases h:o.toNat<21
 ·have:o.toNat=0\/o.toNat=1\/o.toNat=2\/o.toNat=3\/o.toNat=4\/o.toNat=5\/o.toNat=6\/o.toNat=7\/o.toNat=8\/o.toNat=9\/o.toNat=10\/o.toNat=11\/o.toNat=12\/o.toNat=13\/o.toNat=14\/o.toNat=15\/o.toNat=16\/o.toNat=17\/o.toNat=18\/o.toNat=19\/o.toNat=20:=by omega
  rcases this with e | e | e | e | e | e | e | e | e | e | e | e | e | e | e | e | e | e | e | e | e<;>rw[e]<;>decide
 have hn:uH.length<=o.toNat:=by show 21<=_;omega
 have:uH.getD o.toNat []=[]:=by simp[List.getD,List.getElem?_eq_none hn]
 rw[this];exact au _
theorem Gr {z:Int} (h:z.natAbs<aH ^ 4):(oQ z).length<=41:=by
 have h1:z.natAbs<10 ^ 40:=aK h (by decide);have h2:=oE h1 (by decide);unfold oQ
 split
 ·rw[ru];omega
 omega
theorem Ew {o:Int} {nm:ByteArray} (h:fY o nm):nm=⟨#[]⟩\/nm=⟨#[105,48]⟩\/nm=⟨#[105,49]⟩\/nm=⟨#[105,50]⟩\/nm=⟨#[108,48]⟩\/nm=⟨#[108,49]⟩\/nm=⟨#[98,48]⟩\/nm=⟨#[98,49]⟩:=by
 unfold fY at h
 split at h
 ·rcases h with h | h | h<;>simp[h]
 split at h
 ·rcases h with h | h<;>simp[h]
 split at h
 ·rcases h with h | h<;>simp[h]
 simp[h]
theorem G5 {o:Int} {nm:ByteArray} (h:fY o nm):(qL nm).length<=5:=by
 rcases Ew h with h | h | h | h | h | h | h | h<;>rw[h]<;>decide
def zZ:Nat->Nat
 | 0=>0
 | d+1=>60+3*(zZ d+2)
theorem A9:∀ (d:Nat) (t:F),Tm d t->(nA t).length<=zZ d
 | 0,t,h=>absurd h id
 | d+1,.node o z nm ks,h=>by
  obtain⟨h1,h2,h3,h4,h5⟩:=h;have hw:=JA o
  have hn:(qq o z).length<=42:=by
   unfold qq
   split
   ·rw[ru];have:=Gr h2;show _+1<=42;simp only[F.num] at this;omega
   exact au _
  have hm:=G5 h1
  have key:∀ l:List F,(∀ k ∈ l,Tm d k)->(vH l).length<=l.length*(zZ d+2)+1:=by
   intro l
   induction l with
   | nil=>intro _;simp[vH]
   | cons a l ih =>
    intro hl;have:=ih (fun k hk=>hl k (by simp[hk]));have ha:=A9 d a (hl a (by simp));rw[vH,ru,ru,fI,ru,cL,Nat.one_mul]
    omega
  have hk:(rf ks).length<=ks.length*(zZ d+2)+1:=by
   cases ks with
   | nil=>simp[rf]
   | cons a l =>
    have:=key l (fun k hk=>h5 k (by show k ∈ a::l;simp[hk]));have ha:=A9 d a (h5 a (by show a ∈ a::l;simp));rw[rf,ru,fI,ru,cL,Nat.one_mul]
    omega
  have NX:ks.length*(zZ d+2)<=3*(zZ d+2):=Nat.mul_le_mul_right _ h4;simp only[F.name] at hm;rw[nA,fI,fI,fI,zZ]
  omega
theorem GC (a:List F) (b:List F):vH (a++b)=(vH a).dropLast++vH b:=by
 induction a with
 | nil=>simp[vH]
 | cons k l ih =>
  have hne:vH l ≠ []:=by cases l<;>simp[vH]
  rw[jV,vH,vH,ih,eU (by simp),eU (by simp[hne]),iW hne]
  simp
def sW (ks:List F) (j:Nat):Bs:=(rf (ks.take j)).dropLast
theorem sV (ks:List F):sW ks 0=[]:=by simp[sW,rf]
theorem GD (k:F) (l:List F) (b:F):rf (k::l++[b])=(rf (k::l)).dropLast++(44::32::(nA b++[41])):=by
 have hne:vH l ≠ []:=by cases l<;>simp[vH]
 rw[jV,rf,rf,GC,eU (by simp[hne]),iW hne]
 simp[vH]
theorem GF (ks:List F) (h:0<ks.length):sW ks 1=40::nA ks[0]:=by
 cases ks with
 | nil=>simp at h
 | cons a l =>
  have e:rf [a]=(40::nA a)++[41]:=rfl
  show (rf [a]).dropLast=_
  rw[e,List.dropLast_concat];rfl
theorem zM (ks:List F) (j:Nat) (h0:0<j) (h:j<ks.length):sW ks (j+1)=sW ks j++(44::32::nA ks[j]):=by
 unfold sW;rw[List.take_succ_eq_append_getElem h]
 obtain⟨k,l,hk⟩:∃ k l,ks.take j=k::l:=by
  cases hks:ks.take j with
  | nil =>
   have h9:min j ks.length=0:=by rw[<-List.length_take,hks];rfl
   omega
  | cons k l=>exact⟨k,l,rfl⟩
 rw[hk,GD,show (44::32::(nA ks[j]++[41]):Bs)=(44::32::nA ks[j])++[41] from rfl,<-gl,List.dropLast_concat]
theorem yB (ks:List F) (h:0<ks.length):sW ks ks.length++[41]=rf ks:=by
 unfold sW;rw[bD]
 have hl:∀ l:List F,vH l=(vH l).dropLast++[41]:=by
  intro l
  induction l with
  | nil=>simp[vH]
  | cons a l ih =>
   have hne:vH l ≠ []:=by cases l<;>simp[vH]
   rw[vH,eU (by simp),eU (by simp[hne]),iW hne];simp only[jV,gl];rw[<-ih]
 cases ks with
 | nil=>simp at h
 | cons a l =>
  have hne:vH l ≠ []:=by cases l<;>simp[vH]
  rw[rf,eU (by simp[hne]),iW hne,jV,gl,<-hl l]
def oX:List ByteArray:=[⟨#[105,48]⟩,⟨#[105,49]⟩,⟨#[105,50]⟩,⟨#[108,48]⟩,⟨#[108,49]⟩,⟨#[98,48]⟩,⟨#[98,49]⟩]
theorem quoted:∀ nm ∈ oX,strOfNums (Lib.quoteZ Lib.goPrintTabs nm)=⟨(qt nm).toArray⟩:=by
 intro nm h;simp only[oX,dw,cl,or_false] at h;rcases h with rfl | rfl | rfl | rfl | rfl | rfl | rfl<;>kernel_rfl
end Go.Proofs.YtoncclhbdkjhmaaGreatDoor
