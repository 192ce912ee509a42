/-
 Joined texts: LgK,LgL,LgN,LgP,LgQ,LgR,LgS,LgT,LgV,LgW,LgBb,LgBc,KDgt,LgBe,FaTb,FaTc,ShelfC,LgBd,FaTd,FaP,FaM,FaA.
-/
import Derived.Lib.QuoteLoop
import Derived.Lib.PrintData
import Derived.Shelf.Unicode.DecodeSlow
import Derived.Lib.ItoaMem
import Derived.Laws.BytesArg
import Derived.Shelf.Strings.Builder1
import Derived.Shelf.Small.Utf8
import Derived.Shelf.Small.Bits
import Derived.Shelf.Small.Wraps
import Derived.Shelf.Strings.BuilderF
import Derived.Shelf.Strings.BuilderK
import Derived.Shelf.Utf8.AppendRune
import Derived.Shelf.Utf8.AppendRunePlain
import Derived.Shelf.Strconv.Bsearch
import Derived.Shelf.Strconv.IsPrint
import Derived.Shelf.Strconv.IsPrint16
import Derived.Shelf.Strconv.IsPrint32
import Derived.Shelf.Strconv.Escaped
import Derived.Shelf.Strconv.Quoted
import Derived.Shelf.Strconv.Quote
import Derived.Shelf.Strconv.Itoa0
import Derived.Shelf.Strconv.Itoa1
import Derived.Shelf.LaysM
import Derived.Shelf.Strconv.Itoa2
import Derived.Shelf.Strconv.Itoa3
import Derived.Shelf.Unicode.Decode
import Derived.Shelf.Unicode.DecodeAny
import Derived.Shelf.Strings.BuilderCap
import Derived.Shelf.Slices.Turned
import Derived.Ground.Names2Prog
import Derived.Shelf.Slices.SearchI
import Derived.Test.YtoncclhbdkjhmaaGreatDoorProg
import Derived.Maps.OwnSet
import Derived.Test.YtoncclhbdkjhmaaGreatDoorJFactsGrow1
import Derived.Test.YtoncclhbdkjhmaaGreatDoorJFactsGrow2
set_option maxHeartbeats 32000000
open Bool renaming and_eq_true→dA
open Go renaming World→af,Value→ak,heap_setCell_same→aA,bodyPost_ret→aJ,Calls→aV,TypeId→aZ,maxLen→bn,Addr→cu,Program→lB
open Go.Exit renaming inBlock→aN,«then»→bx
open Go.Lib renaming hid→aa
open Go.Proofs.Tryz renaming prog→aj
open Go.RowKit renaming Below→aB
open Go.RowKit.Below renaming refl→ax
open Go.World.ownsRow renaming stored→ff,kept→iU
open List renaming not_mem_nil→aK,cons_append→aM,mem_cons→aP,append_assoc→aS,mem_singleton→aX,getElem_mem→bS,length→cW,nil_append→dh,append_nil→dG,eq_nil_of_length_eq_zero→dJ,dropLast_cons_of_ne_nil→dK,dropLast_append_of_ne_nil→fY,flatMap_cons→gr,mem_cons_self→lR,getElem_append_right→oy,getElem_append_left→pg,mem_cons_of_mem→r_
open Nat renaming le_refl→ag,zero_le→ah,le_trans→ai,lt_of_lt_of_le→az,add_mul→cO,mul_le_mul_right→de,one_mul→vK
namespace Go.Proofs.YtoncclhbdkjhmaaGreatDoor
open Go.RowKit
set_option maxRecDepth 100000
set_option linter.unusedVariables false
set_option linter.unusedSimpArgs false
attribute [local go_sem] cL cK cJ cI
theorem bO {o:Int} {b:Bool} {ao:Option cu} {l c:Nat} {nm:ByteArray} {ko:Option cu} {kl kc:Nat}:lA (#[Value.int .i64 o,.bool b,.slice ao l c,.string nm,.slice ko kl kc]:Array ak).toList:=by
 intro u hu z;simp only[aP,aK,or_false] at hu;rcases hu with rfl | rfl | rfl | rfl | rfl<;>(intro h;cases h)
attribute [local go_sem] cL cK cJ cI
attribute [local go_sem] cL cK cJ cI
theorem VC.shape {w:af} {v:ak} {x:V} (h:VC w v x):∃ k b o l c p m q,v=.agg #[.int .i64 k,.bool b,.slice o l c,.bool (lz x),.slice p m q]:=by
 cases x with
 | I z=>obtain⟨o,l,c,rfl,-⟩:=h.int;exact⟨_,_,_,_,_,_,_,_,rfl⟩
 | B b=>have:=h.bool;subst this;exact⟨_,_,_,_,_,_,_,_,rfl⟩
 | L l=>obtain⟨o,l',c,rfl,-⟩:=h.list;exact⟨_,_,_,_,_,_,_,_,rfl⟩
attribute [local go_sem] cL cK cJ cI
def tS:Nat->Prop:=fun _=>True
theorem FC.I_ {w:af} {S:Nat->Prop} {d:Nat} {v0 v1 v2 v3 v4:ak} {t:F} (h:FC w S d (.agg #[v0,v1,v2,v3,v4]) t):∃ u:FU,fC u=[v0,v1,v2,v3,v4]/\FT w S d u t:=by
 obtain⟨u,e,h⟩:=h;refine⟨u,?_,h⟩;unfold fV at e;injection e with e;unfold fC;have:=congrArg Array.toList e
 simpa using this.symm
theorem FL.one {w:af} {S:Nat->Prop} {d g:Nat} {v0 v1 v2 v3 v4:ak} {t:F} (hB:w.heap[g]?=some (.cells #[v0,v1,v2,v3,v4] 29 (0,0))) (hS:S g) (h:FC w S d (.agg #[v0,v1,v2,v3,v4]) t):FL w S d (.slice (some ⟨g,0,none⟩) 1 1) [t]:=by
 obtain⟨u,hu,hT⟩:=h.I_;refine⟨[(u,t)],⟨_,_,rfl,⟨ag _,by decide,fun h=>by cases h⟩,fun _ a ha=>by injection ha with ha;subst ha;exact hS,fun i hi=>?_⟩,rfl⟩;obtain rfl:i=0:=by simp at hi;omega
 refine⟨⟨_,rfl,fun j v hj=>?_⟩,hT⟩;have uJ:(fC u)[j]?=some v:=hj;rw[hu] at uJ;rw[iR,iR,show 0+0*(fE d).n+j=j by omega,cell_of_row w g _ _ _ _ hB];simpa using uJ
theorem pC {w0 w:af} {k:Nat} {c:Array ak} (hb:aB w0.heap.size w0 w) (hB:w.heap[k]?=some (.cells c 29 (0,0))) (h32:lA c.toList) (hk:w0.heap.size<=k) (v0 v1 v2 v3 v4:ak) :
  Fr 29 w (((((w.setCell ⟨k,0,none⟩ v0).setCell ⟨k,1,none⟩ v1).setCell ⟨k,2,none⟩ v2).setCell ⟨k,3,none⟩ v3).setCell ⟨k,4,none⟩ v4)/\aB w0.heap.size w0 (((((w.setCell ⟨k,0,none⟩ v0).setCell ⟨k,1,none⟩ v1).setCell ⟨k,2,none⟩ v2).setCell ⟨k,3,none⟩ v3).setCell ⟨k,4,none⟩ v4):=
 ⟨.aI (bJ v0 v1 v2 v3 v4) (fun g hg=>by injection hg with hg;subst hg;exact⟨_,hB,h32⟩),hb.trans ((iP (bJ v0 v1 v2 v3 v4) (Nat.le_of_lt (by have:=lt_of_block hB;omega)) hk).mono (ag _))⟩
def jv (b:Int):Int:=if b=1 then 14 else if b=2 then 8 else 1
theorem I9 (nm:ByteArray) (b:Int) (w:af) :
  aV aj 28 #[.string nm,.int .i64 b] w fun e w'=>e=.returned (.agg #[.int .i64 (jv b),.bool false,.slice none 0 0,.string nm,.slice none 0 0])/\aB w.heap.size w w':=by
 have hb:b=1\/b=2\/(b≠1/\b≠2):=by omega
 rcases hb with rfl | rfl | ⟨h1,h2⟩
 ·have HW:=aa (ax w.heap.size w);go_enter Tryz.func28,Tryz.ntmps28;obtain⟨x1,kr,er,sG,eY,lj,aR⟩:=aW w #[.int .i64 0,.bool false,.slice none 0 0,.string ⟨#[]⟩,.slice none 0 0] 29;replace HW:=aa (HW.out.trans (eY.out.mono HW.out.size));have r7:Hid (w.heap.size<=kr):=lj;obtain⟨⟨r0,r1,r2,r3,r4⟩,jU,jT,kP,kO,kN⟩:=ay aR.out;go_wp2_with fail;obtain⟨s1,s2⟩:=pC HW.out aR.out bO r7.out (.int .i64 14) (.bool false) (.slice none 0 0) (.string nm) (.slice none 0 0);(try simp only[aN,bx]);exact aJ (v:=.agg #[.int .i64 14,.bool false,.slice none 0 0,.string nm,.slice none 0 0]) (by simp[results,Tryz.results28,go_sem,r0,r1,r2,r3,r4]) rfl ⟨rfl,s2⟩
 ·have HW:=aa (ax w.heap.size w);go_enter Tryz.func28,Tryz.ntmps28;obtain⟨x1,kr,er,sG,eY,lj,aR⟩:=aW w #[.int .i64 0,.bool false,.slice none 0 0,.string ⟨#[]⟩,.slice none 0 0] 29;replace HW:=aa (HW.out.trans (eY.out.mono HW.out.size));have r7:Hid (w.heap.size<=kr):=lj;obtain⟨⟨r0,r1,r2,r3,r4⟩,jU,jT,kP,kO,kN⟩:=ay aR.out;go_wp2_with fail;obtain⟨s1,s2⟩:=pC HW.out aR.out bO r7.out (.int .i64 8) (.bool false) (.slice none 0 0) (.string nm) (.slice none 0 0);(try simp only[aN,bx]);exact aJ (v:=.agg #[.int .i64 8,.bool false,.slice none 0 0,.string nm,.slice none 0 0]) (by simp[results,Tryz.results28,go_sem,r0,r1,r2,r3,r4]) rfl ⟨rfl,s2⟩
 have HW:=aa (ax w.heap.size w);have n1:(b==1)=false:=beq_eq_false_iff_ne.2 h1;have n2:(b==2)=false:=beq_eq_false_iff_ne.2 h2;have ho:jv b=1:=by unfold jv;rw[if_neg h1,if_neg h2]
 rw[ho];clear h1 h2 ho;go_enter Tryz.func28,Tryz.ntmps28;obtain⟨x1,kr,er,sG,eY,lj,aR⟩:=aW w #[.int .i64 0,.bool false,.slice none 0 0,.string ⟨#[]⟩,.slice none 0 0] 29;replace HW:=aa (HW.out.trans (eY.out.mono HW.out.size));have r7:Hid (w.heap.size<=kr):=lj;obtain⟨⟨r0,r1,r2,r3,r4⟩,jU,jT,kP,kO,kN⟩:=ay aR.out;go_wp2_with fail;obtain⟨s1,s2⟩:=pC HW.out aR.out bO r7.out (.int .i64 1) (.bool false) (.slice none 0 0) (.string nm) (.slice none 0 0);(try simp only[aN,bx]);exact aJ (v:=.agg #[.int .i64 1,.bool false,.slice none 0 0,.string nm,.slice none 0 0]) (by simp[results,Tryz.results28,go_sem,r0,r1,r2,r3,r4]) rfl ⟨rfl,s2⟩
theorem Nl (n:Int) (w:af) (h1 : -9223372036854775808<=n) (h2:n<=9223372036854775807) :
  aV aj 15 #[.int .i64 n] w fun e w'=>∃ b o l c,e=.returned (.agg #[.int .i64 0,.bool b,.slice o l c,.string ⟨#[]⟩,.slice none 0 0])/\CI w' (.agg #[.bool b,.slice o l c]) n 600/\aB w.heap.size w w':=by
 have HW:=aa (ax w.heap.size w);go_enter Tryz.func15,Tryz.ntmps15;obtain⟨x1,kr,er,sG,eY,lj,aR⟩:=aW w #[.int .i64 0,.bool false,.slice none 0 0,.string ⟨#[]⟩,.slice none 0 0] 29;replace HW:=aa (HW.out.trans (eY.out.mono HW.out.size));have r7:Hid (w.heap.size<=kr):=lj;go_wp2_with fail;refine (si n x1 h1 h2).mono ?_;rintro e x2 ⟨x,rfl,hx,hb⟩;replace aR:=bM hb aR;replace HW:=aa (HW.out.trans (hb.mono HW.out.size));obtain⟨b1,o1,l1,c1,rfl⟩:=hx.shape;have HV:=aa (hx.mono (k':=600) (by decide));clear hx;obtain⟨⟨r0,r1,r2,r3,r4⟩,jU,jT,kP,kO,kN⟩:=ay aR.out;go_wp2_with fail;obtain⟨s1,s2⟩:=pC HW.out aR.out bO r7.out (.int .i64 0) (.bool b1) (.slice o1 l1 c1) (.string ⟨#[]⟩) (.slice none 0 0)
 (try simp only[aN,bx]);exact aJ (v:=.agg #[.int .i64 0,.bool b1,.slice o1 l1 c1,.string ⟨#[]⟩,.slice none 0 0]) (by simp[results,Tryz.results15,go_sem,r0,r1,r2,r3,r4]) rfl ⟨_,_,_,_,rfl,HV.out.fr s1,s2⟩
theorem KH (o:Int) (ko:Option cu) (kl kc:Nat) (w:af) :
  aV aj 107 #[.int .i64 o,.slice ko kl kc] w fun e w'=>e=.returned (.agg #[.int .i64 o,.bool false,.slice none 0 0,.string ⟨#[]⟩,.slice ko kl kc])/\aB w.heap.size w w':=by
 have HW:=aa (ax w.heap.size w);go_enter Tryz.func107,Tryz.ntmps107;obtain⟨x1,kr,er,sG,eY,lj,aR⟩:=aW w #[.int .i64 0,.bool false,.slice none 0 0,.string ⟨#[]⟩,.slice none 0 0] 29;replace HW:=aa (HW.out.trans (eY.out.mono HW.out.size));have r7:Hid (w.heap.size<=kr):=lj;obtain⟨⟨r0,r1,r2,r3,r4⟩,jU,jT,kP,kO,kN⟩:=ay aR.out;go_wp2_with fail;obtain⟨s1,s2⟩:=pC HW.out aR.out bO r7.out (.int .i64 o) (.bool false) (.slice none 0 0) (.string ⟨#[]⟩) (.slice ko kl kc);(try simp only[aN,bx]);exact aJ (v:=.agg #[.int .i64 o,.bool false,.slice none 0 0,.string ⟨#[]⟩,.slice ko kl kc]) (by simp[results,Tryz.results107,go_sem,r0,r1,r2,r3,r4]) rfl ⟨rfl,s2⟩
attribute [local go_sem] cL cK cJ cI
attribute [local go_sem] cL cK cJ cI
attribute [local go_sem] cL cK cJ cI
attribute [local go_sem] cL cK cJ cI
theorem El.Row.h_ {α:Type} {E:El α} {w w':af} {B g:Nat} {v:ak} {el:List α} (h:E.Row w B v el) (hg:w.grownBy w' (some g)) (hne:∀ j,v.ownBlock=some j->j≠g) {e:aZ} (hf:Fr e w w') (hok:E.ok e):E.Row w' B v el:=by
 refine⟨?_,fun j hj=>?_,fun q hq=>E.fr hok hf (h.rd q hq)⟩
 ·rcases hr:v.ownBlock with _ | j
  ·exact iU h.own hg (.inl hr)
  exact iU h.own hg (.inr (by rw[hr];intro e;injection e with e;exact hne j hr e))
 obtain⟨c,hc,h32⟩:=h.n32 j hj;exact⟨c,(hg.block j (lt_of_block hc) (fun e=>by injection e with e;exact hne j hj e)).trans hc,h32⟩
theorem b_ {P:lB} {ops:Array Oper} {Q:Exit->Act->af->Prop} {fuel:Nat} {listed:Array Bool} {a:Act} {w:af} (R:List Nat) (hr:Region.ready .any ops listed=R) (hne:R ≠ [])
  (h:∀ i ∈ R,∃ o,ops[i]?=some o/\o.guard=none/\∀ K:Act->af->Prop,Hid (∀ a w,wpAny P .any ops Q fuel (listed.setIfInBounds i true) a w->K a w)->o.wp P a w K Q):wpAny P .any ops Q (fuel+1) listed a w:=by
 refine⟨fun h0=>absurd (hr.symm.trans h0) hne,fun i hi=>?_⟩;rw[hr] at hi;obtain⟨o,ho,hg,hk⟩:=h i hi;unfold wpOp;rw[ho];simp only[Region.wanted,hg,if_true];exact Or.inl (hk _ (aa fun _ _ h=>h))
def fR:El FU where
 e:=29
 t:=27
 n:=5
 b:=80
 z:=.agg #[.int .i64 0,.bool false,.slice none 0 0,.string ⟨#[]⟩,.slice none 0 0]
 f:=fC
 R _ _:=True
 ok _:=True
 pos:=by decide
 CP:=by decide
 zs:=rfl
 z32:=by intro u hu z;simp only[Value.cells,aP,aK,or_false] at hu;rcases hu with rfl | rfl | rfl | rfl | rfl<;>(intro h;cases h)
 ht:=Tryz.underlying27
 info:=DZ
 len _:=rfl
 one n:=by
  intro u hu;simp only[fC,aP,aK,or_false] at hu;rcases hu with rfl | rfl | rfl | rfl | rfl<;>rfl
 n32 n:=by
  intro u hu z;simp only[fC,aP,aK,or_false] at hu;rcases hu with rfl | rfl | rfl | rfl | rfl<;>(intro h;cases h)
 fr _ _ _:=trivial
 own:=trivial
def CV:FU:=⟨0,n0,⟨#[]⟩,none,0,0⟩
theorem zC (l:List FU) (i:Nat) (u:FU) (hi:i<l.length):(((((l.flatMap fC).set (i*5) (.int .i64 u.k)).set (i*5+1) (.bool (decide (u.n.z<0)))).set (i*5+2) (.slice u.n.o u.n.l u.n.c)).set (i*5+3) (.string u.nm)).set (i*5+4) (.slice u.ko u.kl u.kc)=(l.set i u).flatMap fC:=by
 induction l generalizing i with
 | nil=>simp at hi
 | cons b l ih =>
  cases i with
  | zero=>rfl
  | succ i =>
   have h1:=ih i (by simpa using hi);simp only[gr,fC,aM,dh,List.set_cons_succ,cO,vK,show i*5+5=i*5+1+1+1+1+1 from rfl,show i*5+1+1+1+1+1+1=(i*5+1)+1+1+1+1+1 from rfl,show i*5+1+1+1+1+1+2=(i*5+2)+1+1+1+1+1 from rfl,show i*5+1+1+1+1+1+3=(i*5+3)+1+1+1+1+1 from rfl,show i*5+1+1+1+1+1+4=(i*5+4)+1+1+1+1+1 from rfl];rw[<-h1]
def iZ (w:af) (g i:Nat) (u:FU):af:=((((w.setCell ⟨g,i*5,none⟩ (.int .i64 u.k)).setCell ⟨g,i*5+1,none⟩ (.bool (decide (u.n.z<0)))).setCell ⟨g,i*5+2,none⟩ (.slice u.n.o u.n.l u.n.c)).setCell ⟨g,i*5+3,none⟩ (.string u.nm)).setCell ⟨g,i*5+4,none⟩ (.slice u.ko u.kl u.kc)
theorem a_ (w:af) (g i:Nat) (u:FU):w.grownBy (iZ w g i u) (some g):=by
 unfold iZ;refine aD ?_ _;refine aD ?_ _;refine aD ?_ _;refine aD ?_ _;refine aD ?_ _;exact World.grownBy.refl _ _
theorem Row.qh {w:af} {B g n kc:Nat} {el:List FU} (h:fR.Row w B (.slice (some ⟨g,0,none⟩) n kc) el) (i:Nat) (hi:i<el.length) (hn:n=el.length) (u:FU) {w':af} (hw:w'=iZ w g i u) :
  fR.Row w' B (.slice (some ⟨g,0,none⟩) n kc) (el.set i u)/\Fr fR.e w w':=by
 have hg:w.grownBy w' (some g):=by rw[hw];exact a_ w g i u
 unfold iZ at hw;have h0:=h.own;rw[<-hn] at h0;have h1:=(ff (ff (ff (ff (ff h0 (i*5) (.int .i64 u.k)).1 (i*5+1) (.bool (decide (u.n.z<0)))).1 (i*5+2) (.slice u.n.o u.n.l u.n.c)).1 (i*5+3) (.string u.nm)).1 (i*5+4) (.slice u.ko u.kl u.kc)).1;have h2:=zC el i u hi;have e:fR.f=fC:=rfl;rw[e,h2,<-hw] at h1;obtain⟨c,hc,h32⟩:=h.n32 g rfl;have nu:=aA _ g (i*5+4) _ _ (.slice u.ko u.kl u.kc) (aA _ g (i*5+3) _ _ (.string u.nm) (aA _ g (i*5+2) _ _ (.slice u.n.o u.n.l u.n.c) (aA _ g (i*5+1) _ _ (.bool (decide (u.n.z<0))) (aA _ g (i*5) _ _ (.int .i64 u.k) hc))));rw[<-hw] at nu
 exact h.put i u hg h1 ⟨_,nu,mL (mL (mL (mL (mL h32 _ (by intro z e;cases e)) _ (by intro z e;cases e)) _ (by intro z e;cases e)) _ (by intro z e;cases e)) _ (by intro z e;cases e)⟩ hn trivial
theorem Row.FB {w:af} {B g n kc:Nat} {el:List FU} (h:fR.Row w B (.slice (some ⟨g,0,none⟩) n kc) el) (hn:n=el.length) {i:Nat} (hi:i<el.length) :
  (w.cell? ⟨g,i*5,none⟩=some (.int .i64 el[i].k)/\w.cell? ⟨g,i*5+1,none⟩=some (.bool (decide (el[i].n.z<0)))/\w.cell? ⟨g,i*5+2,none⟩=some (.slice el[i].n.o el[i].n.l el[i].n.c)/\w.cell? ⟨g,i*5+3,none⟩=some (.string el[i].nm)/\w.cell? ⟨g,i*5+4,none⟩=some (.slice el[i].ko el[i].kl el[i].kc)) /\
  w.frozen? ⟨g,i*5,none⟩=false/\w.frozen? ⟨g,i*5+1,none⟩=false/\w.frozen? ⟨g,i*5+2,none⟩=false/\w.frozen? ⟨g,i*5+3,none⟩=false/\w.frozen? ⟨g,i*5+4,none⟩=false:=by
 obtain⟨c,hc,h32⟩:=h.n32 g rfl;have key:∀ j v,(fC el[i])[j]?=some v->w.cell? ⟨g,i*5+j,none⟩=some v:=by
  intro j v hj;have Mz:j<5:=by have:=(List.getElem?_eq_some_iff.1 hj).1;simpa [fC] using this
  have h0:=h.own;rw[<-hn] at h0;rw[World.ownsRow.cellAt h0 (i*5+j) (by show i*5+j<n*5;omega)];exact (kT fR.f fR.len el i j hi Mz).trans hj
 exact⟨⟨key 0 _ rfl,key 1 _ rfl,key 2 _ rfl,key 3 _ rfl,key 4 _ rfl⟩,aY hc _,aY hc _,aY hc _,aY hc _,aY hc _⟩
theorem vu {w:af} {B:Nat} {v:ak} {us:List FU} (h:fR.Row w B v us) {o:Oper} {a:Act} {K:Act->af->Prop} {Q:Exit->Act->af->Prop} (s x:Operand)
  (ho:o.op=.call { callee:=.builtin .append,args:=#[s,x],argTypes:=#[27,27] }) (hs:a.eval s=v) (g:Nat) (u:FU) (hx:a.eval x=.slice (some ⟨g,0,none⟩) 1 1) (hB:w.heap[g]?=some (.cells (fC u).toArray 29 (0,0))) (hlen:us.length<=1000) (hb:B<=w.heap.size)
  (hK:∀ g' cap w',fR.Row w' B (.slice (some ⟨g',0,none⟩) (us.length+1) cap) (us++[u])->Fr fR.e w w'->aB B w w'->w.grownBy w' v.ownBlock->jF w v (.slice (some ⟨g',0,none⟩) (us.length+1) cap)->us.length+1<=cap->cap<=bn->K (a.put o.dst (.slice (some ⟨g',0,none⟩) (us.length+1) cap)) w'):o.wp aj a w K Q:=by
 have hnews:∀ j q,(fC u)[j]?=some q->w.cell? ((⟨g,0,none⟩:cu).add j)=some q:=fun j q hj=>World.news_of_block hB j q (by simpa using hj)
 have XT:fR.At w (.slice (some ⟨g,0,none⟩) 1 1) [u]:=El.At.block (E:=fR) (el:=[u]) (by rw[hB];simp only[gr,List.flatMap_nil,dG];rfl) (show 1<=bn by decide) (fun _ _=>trivial);obtain⟨v',w',hr,h2,h3,h4,h5⟩:=h.run XT o.type (by simp;omega) hb;obtain⟨i,hi,hz,iq,mP⟩:=info_parts fR.info;have hf:jF w v v':=by
  have hown:=h.own;rw[<-iq] at hown;exact lI (P:=aj) fR.ht hi hz hown (c:=1) (m:=1) (news:=fC u) (by rw[iq];rfl) hnews (fR.one u) (by omega) (by rw[mP];show (us.length+1)*80<=_;omega) (by decide) (by rw[iq];exact fR.zs) (by rw[iq];exact fR.pos) hr
 have hsh:∃ g' cap,v'=.slice (some ⟨g',0,none⟩) (us.length+1) cap/\us.length+1<=cap/\cap<=bn:=by
  rcases h2.own.2 with ⟨-,h0⟩ | ⟨g',cap,cur,hv,_,_,hn,hc,_⟩
  ·simp at h0
  refine⟨g',cap,?_,?_,hc⟩
  ·rw[hv];simp
  simpa using hn
 obtain⟨g',cap,rfl,tC,x_⟩:=hsh;unfold Oper.wp execOp;simp only[ho,resolve,invoke,builtin,Sem.run_bind,Sem.run_pure,Result.andThen_ok,List.map_toArray,List.map_cons,List.map_nil,hs,hx];rw[show (Builtin.append_ #[27,27] o.type #[v,.slice (some ⟨g,0,none⟩) 1 1]).run aj w=_ from hr];exact hK _ _ _ h2 h3 h4 h5 hf tC x_
structure RU where
 o:Int
 b:Bool
 ao:Option cu
 l:Nat
 c:Nat
 nm:ByteArray
 ko:Option cu
 kl:Nat
 kc:Nat
def rC (x:RU):List ak:=[.int .i64 x.o,.bool x.b,.slice x.ao x.l x.c,.string x.nm,.slice x.ko x.kl x.kc]
def rV (x:RU):ak:=.agg #[.int .i64 x.o,.bool x.b,.slice x.ao x.l x.c,.string x.nm,.slice x.ko x.kl x.kc]
def ld (w:af):Nat->RU->Prop
 | 0,_=>True
 | d+1,x=>IR x.o/\AA w (.slice x.ao x.l x.c)/\x.nm.size<=9223372036854775807/\(x.kl<=x.kc/\x.kc<=bn)/\∀ i,i<x.kl->∃ y,FN 5 w x.ko i (rC y)/\ld w d y
theorem ld.below {w w':af} (hb:aB w.heap.size w w'):∀ {d:Nat} {x:RU},ld w d x->ld w' d x
 | 0,_,h=>h
 | d+1,x,⟨h1,h2,h3,h4,h5⟩=>by
  refine⟨h1,h2.below hb,h3,h4,fun i hi=>?_⟩;obtain⟨y,a1,a2⟩:=h5 i hi;exact⟨y,a1.keep fun a ha=>hb.block _ (a1.lt a ha),a2.below hb⟩
def QM:RU:=⟨0,false,none,0,0,⟨#[]⟩,none,0,0⟩
theorem Dk (w:af) (d:Nat):ld w d QM:=by
 cases d with
 | zero=>trivial
 | succ d=>exact⟨by unfold IR QM;decide,⟨[],Sl.nil _ _,fK.nil _⟩,by decide,⟨ag _,ah _⟩,fun i hi=>absurd hi (Nat.not_lt_zero i)⟩
def fh (o:Int) (nm:ByteArray):Prop:=
 if o=1 then nm=⟨#[105,48]⟩\/nm=⟨#[105,49]⟩\/nm=⟨#[105,50]⟩
 else if o=8 then nm=⟨#[108,48]⟩\/nm=⟨#[108,49]⟩
 else if o=14 then nm=⟨#[98,48]⟩\/nm=⟨#[98,49]⟩
 else nm=⟨#[]⟩
def Tm:Nat->F->Prop
 | 0,_=>False
 | d+1,t=>fh t.op t.name/\t.num.natAbs<bf ^ 4/\(t.op≠0->t.op≠3->t.op≠5->t.num=0)/\t.kids.length<=3/\∀ k ∈ t.kids,Tm d k
def jA (d:Nat) (s:Int) (w:af) (e:Ending) (w':af):Prop:=∃ v t,e=.returned v/\FC w' (fun b=>w.heap.size<=b) d v t/\rt t=true/\cU t.op=s/\Tm d t/\aB w.heap.size w w'
structure fL (w:af) (B kf kd kr ko:Nat) (x:RU) (dd:Int) (op:Int) (sg:Bool) (ao:Option cu) (l c:Nat) (nm:ByteArray) (z:Int) (d:Nat) (ts:List F) (v:ak) (us:List FU) (wr:af):Prop where
 ho:wr.heap[ko]?=some (.cells #[.int .i64 op,.bool sg,.slice ao l c,.string nm,v] 29 (0,0))
 hf:wr.heap[kf]?=some (.cells #[.int .i64 x.o,.bool x.b,.slice x.ao x.l x.c,.string x.nm,.slice x.ko x.kl x.kc] 29 (0,0))
 hd:wr.heap[kd]?=some (.cells #[.int .i64 dd] 3 (0,0))
 hr:wr.heap[kr]?=some (.cells #[.int .i64 0,.bool false,.slice none 0 0,.string ⟨#[]⟩,.slice none 0 0] 29 (0,0))
 hz:CI wr (.agg #[.bool sg,.slice ao l c]) z 600
 row:fR.Row wr B v us
 len:us.length=ts.length
 tr:∀ q (h1:q<us.length) (h2:q<ts.length),FT wr (fun b=>B<=b/\v.ownBlock≠some b) d us[q] ts[q]
 good:∀ t ∈ ts,rt t=true/\Tm d t
 low:kf<B/\kd<B/\kr<B/\ko<B
 Qq:kf≠ko/\kd≠ko/\kr≠ko
 hi:w.heap.size<=ko
 be:aB w.heap.size w wr
 sz:B<=wr.heap.size
theorem fL.next {w:af} {B kf kd kr ko:Nat} {x:RU} {dd op:Int} {sg:Bool} {ao:Option cu} {l c:Nat} {nm:ByteArray} {z:Int} {d:Nat} {ts:List F} {v:ak} {us:List FU} {wr:af} (h:fL w B kf kd kr ko x dd op sg ao l c nm z d ts v us wr)
  {w5 w6 w8 wc:af} (hb:aB wr.heap.size wr w5) (hc:wr.heap.size<=wc.heap.size) {y:FU} {t:F} (hy:FT w5 (fun b=>wc.heap.size<=b) d y t) (N4:rt t=true/\Tm d t) {g cap:Nat} (hfr:Fr 29 w5 w6) (hg:w5.grownBy w6 v.ownBlock) (hfresh:jF w5 v (.slice (some ⟨g,0,none⟩) (us.length+1) cap))
  (Jo:fR.Row w8 B (.slice (some ⟨g,0,none⟩) (us.length+1) cap) (us++[y])) (rW:w8.heap[ko]?=some (.cells #[.int .i64 op,.bool sg,.slice ao l c,.string nm,.slice (some ⟨g,0,none⟩) (us.length+1) cap] 29 (0,0))) (K7:∀ k,k<w6.heap.size->k≠g->k≠ko->w8.heap[k]?=w6.heap[k]?) (hkn:KN w6 w8) (hos:w8.os=w6.os) (Xc:w8.tape=w6.tape) (Xl:w8.output=w6.output) (hsz:w6.heap.size<=w8.heap.size) :
  fL w B kf kd kr ko x dd op sg ao l c nm z d (ts++[t]) (.slice (some ⟨g,0,none⟩) (us.length+1) cap) (us++[y]) w8:=by
 have hgB:B<=g:=(Jo.ge rfl).1;have P4:=hb.size;have KY:=hg.size;have hB:=h.sz;have hown:∀ j,v.ownBlock=some j->B<=j/\j<wr.heap.size:=fun j hj=>h.row.ge hj
 have low:∀ k,k<B->k≠ko->w8.heap[k]?=wr.heap[k]?:=fun k hk B8=>by
  rw[K7 k (by omega) (by omega) B8,hg.block k (by omega) (fun e=>by have:=(hown k e.symm).1;omega),hb.block k (by omega)]
 obtain⟨l1,l2,l3,l4⟩:=h.low;obtain⟨d1,d2,d3⟩:=h.Qq;have kn:KN wr w8:=((KN.aH hb).trans (KN.eK hfr)).trans hkn;refine⟨rW,(low _ l1 d1).trans h.hf,(low _ l2 d2).trans h.hd,(low _ l3 d3).trans h.hr,h.hz.kn kn,Jo,by simp[h.len],fun q h1 h2=>?_,fun u hu=>?_,h.low,h.Qq,h.hi,?_,by omega⟩
 ·by_cases hq:q<us.length
  ·have e1:(us++[y])[q]=us[q]:=pg hq;have hq2:q<ts.length:=by rw[<-h.len];exact hq
   have e2:(ts++[t])[q]=ts[q]:=pg hq2;rw[e1,e2];have hne:∀ b,(B<=b/\v.ownBlock≠some b)/\b<wr.heap.size->b≠g:=fun b hb' e=>by
    subst e;rcases hfresh b rfl with h' | h'
    ·exact hb'.1.2 h'
    omega
   refine ((h.tr q hq hq2).lt.keep (w':=w8) (fun b hb'=>?_) kn).mono fun b hb'=>⟨hb'.1.1,fun e=>hne b hb' (by injection e with e;exact e.symm)⟩
   rw[K7 b (by omega) (hne b hb') (by omega),hg.block b (by omega) (fun e=>hb'.1.2 e.symm),hb.block b hb'.2]
  have TZ:q=us.length:=by simp at h1;omega
  subst TZ;have e1:(us++[y])[us.length]=y:=by rw[oy (ag _)];simp
  have e2:(ts++[t])[us.length]=t:=by rw[oy (by rw[h.len];exact ag _)];simp[h.len]
  rw[e1,e2];have hne:∀ b,wc.heap.size<=b/\b<w5.heap.size->b≠g:=fun b hb' e=>by
   subst e;rcases hfresh b rfl with h' | h'
   ·have:=(hown b h').2;omega
   omega
  refine (hy.lt.keep (w':=w8) (fun b hb'=>?_) ((KN.eK hfr).trans hkn)).mono fun b hb'=>⟨by omega,fun e=>hne b hb' (by injection e with e;exact e.symm)⟩
  rw[K7 b (by omega) (hne b hb') (by omega),hg.block b hb'.2 (fun e=>by have:=(hown b e.symm).2;omega)]
 ·rcases List.mem_append.1 hu with hu | hu
  ·exact h.good u hu
  rw[aX] at hu;subst hu;exact N4
 have hwo:=h.hi;have iB:=h.be;have Ft:=iB.size;refine⟨(hos.trans (hg.os.trans hb.os)).trans iB.os,(Xc.trans (hg.tape.trans hb.tape)).trans iB.tape,(Xl.trans (hg.output.trans hb.output)).trans iB.output,by omega,fun k hk=>?_⟩;rw[low k (by omega) (by omega)];exact iB.block k hk
def nM:List Bs:=[[78,117,109],[73,86,97,114],[65,100,100],[83,99,97,108,101],[77,117,108],[81,117,111],[76,101,110],[72,100],[76,86,97,114],[78,105,108],[67,111,110,115],[84,108],[84,114,117,101],[70,97,108,115,101],[66,86,97,114],[76,101],[69,113],[78,111,116],[65,110,100],[79,114],[73,102,102]]
def wd (o:Int):Bs:=nM.getD o.toNat []
def qt (nm:ByteArray):Bs:=34::(nm.data.toList++[34])
def jw (o z:Int):Bs:=if o=0\/z≠0 then 32::jb z else []
def jR (nm:ByteArray):Bs:=if nm=⟨#[]⟩ then [] else 32::qt nm
mutual
def g_:F->Bs
 | .node o z nm ks=>wd o++(jw o z++(jR nm++jG ks))
def jG:List F->Bs
 | []=>[]
 | k::l=>40::(g_ k++nk l)
def nk:List F->Bs
 | []=>[41]
 | k::l=>44::32::(g_ k++nk l)
end
theorem CZ (o:Int):(wd o).length<=5:=by
 unfold wd;by_cases h:o.toNat<21
 ·have:o.toNat=0\/o.toNat=1\/o.toNat=2\/o.toNat=3\/o.toNat=4\/o.toNat=5\/o.toNat=6\/o.toNat=7\/o.toNat=8\/o.toNat=9\/o.toNat=10\/o.toNat=11\/o.toNat=12\/o.toNat=13\/o.toNat=14\/o.toNat=15\/o.toNat=16\/o.toNat=17\/o.toNat=18\/o.toNat=19\/o.toNat=20:=by omega
  rcases this with e | e | e | e | e | e | e | e | e | e | e | e | e | e | e | e | e | e | e | e | e<;>rw[e]<;>decide
 have hn:nM.length<=o.toNat:=by show 21<=_;omega
 have:nM.getD o.toNat []=[]:=by simp[List.getD,List.getElem?_eq_none hn]
 rw[this];exact ah _
theorem AJ {z:Int} (h:z.natAbs<bf ^ 4):(jb z).length<=41:=by
 have h1:z.natAbs<10 ^ 40:=az h (by decide);have h2:=js h1 (by decide);unfold jb;split
 ·rw[jo];omega
 omega
theorem Dv {o:Int} {nm:ByteArray} (h:fh o nm):nm=⟨#[]⟩\/nm=⟨#[105,48]⟩\/nm=⟨#[105,49]⟩\/nm=⟨#[105,50]⟩\/nm=⟨#[108,48]⟩\/nm=⟨#[108,49]⟩\/nm=⟨#[98,48]⟩\/nm=⟨#[98,49]⟩:=by
 unfold fh at h;split at h
 ·rcases h with h | h | h<;>simp[h]
 split at h
 ·rcases h with h | h<;>simp[h]
 split at h
 ·rcases h with h | h<;>simp[h]
 simp[h]
theorem GZ {o:Int} {nm:ByteArray} (h:fh o nm):(jR nm).length<=5:=by
 rcases Dv h with h | h | h | h | h | h | h | h<;>rw[h]<;>decide
def xM:Nat->Nat
 | 0=>0
 | d+1=>60+3*(xM d+2)
theorem zk:∀ (d:Nat) (t:F),Tm d t->(g_ t).length<=xM d
 | 0,t,h=>absurd h id
 | d+1,.node o z nm ks,h=>by
  obtain⟨h1,h2,h3,h4,h5⟩:=h;have hw:=CZ o
  have hn:(jw o z).length<=42:=by
   unfold jw;split
   ·rw[jo];have:=AJ h2;show _+1<=42;simp only[F.num] at this;omega
   exact ah _
  have hm:=GZ h1;have key:∀ l:List F,(∀ k ∈ l,Tm d k)->(nk l).length<=l.length*(xM d+2)+1:=by
   intro l;induction l with
   | nil=>intro _;simp[nk]
   | cons a l ih =>
    intro hl;have:=ih (fun k hk=>hl k (by simp[hk]));have ha:=zk d a (hl a (by simp));rw[nk,jo,jo,dB,jo,cO,vK];omega
  have hk:(jG ks).length<=ks.length*(xM d+2)+1:=by
   cases ks with
   | nil=>simp[jG]
   | cons a l =>
    have:=key l (fun k hk=>h5 k (by show k ∈ a::l;simp[hk]));have ha:=zk d a (h5 a (by show a ∈ a::l;simp));rw[jG,jo,dB,jo,cO,vK];omega
  have UF:ks.length*(xM d+2)<=3*(xM d+2):=de _ h4;simp only[F.name] at hm;rw[g_,dB,dB,dB,xM];omega
theorem F7 (a:List F) (b:List F):nk (a++b)=(nk a).dropLast++nk b:=by
 induction a with
 | nil=>simp[nk]
 | cons k l ih =>
  have hne:nk l ≠ []:=by cases l<;>simp[nk]
  rw[aM,nk,nk,ih,dK (by simp),dK (by simp[hne]),fY hne];simp
def p_ (ks:List F) (j:Nat):Bs:=(jG (ks.take j)).dropLast
theorem p9 (ks:List F):p_ ks 0=[]:=by simp[p_,jG]
theorem F9 (k:F) (l:List F) (b:F):jG (k::l++[b])=(jG (k::l)).dropLast++(44::32::(g_ b++[41])):=by
 have hne:nk l ≠ []:=by cases l<;>simp[nk]
 rw[aM,jG,jG,F7,dK (by simp[hne]),fY hne];simp[nk]
theorem F_ (ks:List F) (h:0<ks.length):p_ ks 1=40::g_ ks[0]:=by
 cases ks with
 | nil=>simp at h
 | cons a l =>
  have e:jG [a]=(40::g_ a)++[41]:=rfl;show (jG [a]).dropLast=_
  rw[e,List.dropLast_concat];rfl
theorem xu (ks:List F) (j:Nat) (h0:0<j) (h:j<ks.length):p_ ks (j+1)=p_ ks j++(44::32::g_ ks[j]):=by
 unfold p_;rw[List.take_succ_eq_append_getElem h];obtain⟨k,l,hk⟩:∃ k l,ks.take j=k::l:=by
  cases hks:ks.take j with
  | nil =>
   have h9:min j ks.length=0:=by rw[<-List.length_take,hks];rfl
   omega
  | cons k l=>exact⟨k,l,rfl⟩
 rw[hk,F9,show (44::32::(g_ ks[j]++[41]):Bs)=(44::32::g_ ks[j])++[41] from rfl,<-aS,List.dropLast_concat]
theorem vM (ks:List F) (h:0<ks.length):p_ ks ks.length++[41]=jG ks:=by
 unfold p_;rw[List.take_length];have hl:∀ l:List F,nk l=(nk l).dropLast++[41]:=by
  intro l;induction l with
  | nil=>simp[nk]
  | cons a l ih =>
   have hne:nk l ≠ []:=by cases l<;>simp[nk]
   rw[nk,dK (by simp),dK (by simp[hne]),fY hne];simp only[aM,aS];rw[<-ih]
 cases ks with
 | nil=>simp at h
 | cons a l =>
  have hne:nk l ≠ []:=by cases l<;>simp[nk]
  rw[jG,dK (by simp[hne]),fY hne,aM,aS,<-hl l]
def vf:List ByteArray:=[⟨#[105,48]⟩,⟨#[105,49]⟩,⟨#[105,50]⟩,⟨#[108,48]⟩,⟨#[108,49]⟩,⟨#[98,48]⟩,⟨#[98,49]⟩]
attribute [local go_sem] cL cK cJ cI
structure vG (w:af):Prop where
 M7 : Lib.TabIs aj w "internal/strconv.uint64pow10" .u64 Lib.pow10Tab
 wds:∀ i,i<21->w.cell? ⟨1,i,none⟩=some (.string ⟨(nM.getD i []).toArray⟩)
 GD:Lib.PrintTabsAt 6 7 8 9 Lib.goPrintTabs w
 QT:Lib.Utf8Tabs 4 5 w
theorem tabSlice_below {g:Nat} {k:IntKind} {t:List Nat} {w w':af} (h:Lib.TabSlice g k t w) (hb:aB w.heap.size w w'):Lib.TabSlice g k t w':=by
 obtain⟨R,o,c,h1,h2⟩:=h;exact⟨R,o,c,by rw[hb.cell (cj h1)];exact h1,fun j hj=>by rw[hb.cell (cj (h2 j hj))];exact h2 j hj⟩
theorem vG.below {w w':af} (h:vG w) (hb:aB w.heap.size w w'):vG w' where
 M7:=oD h.M7 hb
 wds i hi:=by rw[hb.cell (cj (h.wds i hi))];exact h.wds i hi
 GD:=by
  obtain⟨a,b,c,d,e⟩:=h.GD;exact⟨tabSlice_below a hb,tabSlice_below b hb,tabSlice_below c hb,tabSlice_below d hb,e⟩
 QT:=by
  obtain⟨a,b⟩:=h.QT;exact⟨fun c hc=>by rw[hb.cell (cj (a c hc))];exact a c hc,fun i hi=>⟨by rw[hb.cell (cj (b i hi).1)];exact (b i hi).1,by rw[hb.cell (cj (b i hi).2)];exact (b i hi).2⟩⟩
theorem sK (o:Int) (h0:0<=o) (h1:o<=20) (w:af) (ht:vG w) :
  aV aj 115 #[.int .i64 o] w fun e w'=>e=.returned (.string ⟨(wd o).toArray⟩)/\aB w.heap.size w w':=by
 obtain⟨k,rfl⟩:∃ k:Nat,o=k:=⟨o.toNat,by omega⟩;have hk:k<21:=by omega
 have c:=ht.wds k hk;have e:wd (k:Int)=nM.getD k []:=rfl;rw[e];generalize nM.getD k []=s at c ⊢;clear ht e;go_enter Tryz.func115,Tryz.ntmps115;go_wp2;go_ret;exact⟨rfl,ax _ _⟩
theorem xw (ks:List F) (j:Nat):∀ m,j+m<=ks.length->(p_ ks j).length<=(p_ ks (j+m)).length
 | 0,_=>ag _
 | m+1,h=>by
  have ih:=xw ks j m (by omega)
  by_cases h0:j+m=0
  ·have hj:j=0:=by omega
   subst hj;rw[p9];exact ah _
  rw[show j+(m+1)=(j+m)+1 by omega,xu ks (j+m) (by omega) (by omega),dB];omega
theorem C5 (ks:List F) (j:Nat) (h:j<=ks.length) (h0:0<ks.length):(p_ ks j).length+1<=(jG ks).length:=by
 have h1:=xw ks j (ks.length - j) (by omega);rw[show j+(ks.length - j)=ks.length by omega] at h1;have h2:=congrArg cW (vM ks h0);rw[dB] at h2;simp only[jo,qE] at h2
 omega
theorem xq (ks:List F) (j:Nat) (h:j<ks.length):∃ m:Bs,p_ ks (j+1)=p_ ks j++(m++g_ ks[j])/\((j=0/\m=[40])\/(0<j/\m=[44,32])):=by
 by_cases h0:j=0
 ·subst h0;exact⟨[40],by rw[F_ ks h,p9];rfl,.inl ⟨rfl,rfl⟩⟩
 exact⟨[44,32],xu ks j (by omega) h,.inr ⟨by omega,rfl⟩⟩
theorem dU {B:Nat} {a b c:af} (h:aB B a b) (hB:B<=b.heap.size) (k:aB b.heap.size b c):aB B a c:=h.trans (k.mono hB)
theorem JQ (a:cu):a.add 0=a:=by simp[Addr.add]
open Classical in
theorem AL (z:Int):∀ c ∈ jb z,45<=c.toNat:=by
 have hd:=(q_ z.natAbs).1;unfold jb;split
 ·intro c hc;rcases List.mem_cons.1 hc with rfl | hc
  ·exact ag _
  have:=hd c hc;omega
 intro c hc;have:=hd c hc;omega
theorem za {z w:Int} (h:jb z=jb w):z=w:=by
 have a:=q_ z.natAbs;have b:=q_ w.natAbs;unfold jb at h;by_cases hz:z<0<;>by_cases hw:w<0
 ·rw[if_pos hz,if_pos hw] at h;injection h with _ h;have:=congrArg dn h;rw[a.2.1,b.2.1] at this;omega
 ·rw[if_pos hz,if_neg hw] at h;have:=b.1 45 (by rw[<-h];exact lR ..);simp at this
 ·rw[if_neg hz,if_pos hw] at h;have:=a.1 45 (by rw[h];exact lR ..);simp at this
 rw[if_neg hz,if_neg hw] at h;have:=congrArg dn h;rw[a.2.1,b.2.1] at this;omega
def Cut (m:Nat) (l:Bs):Prop:=∀ c r,l=c::r->c.toNat<m
theorem sS (m:Nat):∀ (a b x y:Bs),(∀ c ∈ a,m<=c.toNat)->(∀ c ∈ b,m<=c.toNat)->Cut m x->Cut m y->a++x=b++y->a=b/\x=y
 | [],[],x,y,_,_,_,_,h=>⟨rfl,h⟩
 | [],c::b,x,y,_,hb,hx,_,h=>by
  have h1:=hb c (lR ..);have h2:=hx c (b++y) (by simpa using h)
  omega
 | c::a,[],x,y,ha,_,_,hy,h=>by
  have h1:=ha c (lR ..);have h2:=hy c (a++x) (by simpa using h.symm)
  omega
 | c::a,d::b,x,y,ha,hb,hx,hy,h=>by
  rw[aM,aM] at h;injection h with h1 h2;obtain⟨h3,h4⟩:=sS m a b x y (fun c hc=>ha c (r_ _ hc)) (fun c hc=>hb c (r_ _ hc)) hx hy h2;exact⟨by rw[h1,h3],h4⟩
def pH (r:Bs):Prop:=r=[]\/∃ l,r=44::l\/r=41::l
theorem pH.cut {r:Bs} (h:pH r) {m:Nat} (hm:45<=m):Cut m r:=by
 intro c l e;rcases h with rfl | ⟨q,rfl | rfl⟩
 ·cases e
 ·injection e with e1;subst e1;show 44<m;omega
 injection e with e1;subst e1;show 41<m;omega
theorem qb (l:List F) (r:Bs):pH (nk l++r):=by
 cases l with
 | nil=>exact .inr ⟨r,.inr rfl⟩
 | cons a l=>exact .inr ⟨32::(g_ a++nk l)++r,.inl rfl⟩
theorem wJ (ks:List F) (r:Bs) (hr:pH r) {m:Nat} (hm:45<=m):Cut m (jG ks++r):=by
 cases ks with
 | nil=>exact hr.cut hm
 | cons a l =>
  intro c q e;rw[jG,aM] at e;injection e with e1;subst e1;show 40<m
  omega
theorem BJ:∀ i,i<21->∀ j,j<21->nM.getD i []=nM.getD j []->i=j:=by decide
theorem Ki {o p:Int} (ho:0<=o/\o<=20) (hp:0<=p/\p<=20) (h:wd o=wd p):o=p:=by
 have:=BJ o.toNat (by omega) p.toNat (by omega) h
 omega
theorem BI:∀ i,i<21->∀ c ∈ nM.getD i [],65<=c.toNat:=by decide
theorem CY {o:Int} (ho:0<=o/\o<=20):∀ c ∈ wd o,65<=c.toNat:=BI o.toNat (by omega)
theorem yF (o z:Int) (nm:ByteArray) (ks:List F) (r:Bs) (hr:pH r):Cut 45 (jw o z++(jR nm++(jG ks++r))):=by
 unfold jw;split
 ·intro c q e;rw[aM] at e;injection e with e1;subst e1;decide
 unfold jR;split
 ·exact wJ ks r hr (ag _)
 intro c q e;rw[dh,aM] at e;injection e with e1;subst e1;decide
theorem Cut.up {m n:Nat} {l:Bs} (h:Cut m l) (hn:m<=n):Cut n l:=fun c r e=>az (h c r e) hn
theorem GS {o:Int} {nm:ByteArray} (ho:¬(o=1\/o=8\/o=14)) (h:fh o nm):nm=⟨#[]⟩:=by
 unfold fh at h
 rwa [if_neg (by omega),if_neg (by omega),if_neg (by omega)] at h
theorem Du {o z w:Int} {x y:Bs} (hx:Cut 45 x) (hy:Cut 45 y) (h1:¬(o=0\/z≠0)->(o=0\/w≠0)->∀ q,x≠32::q) (h2:¬(o=0\/w≠0)->(o=0\/z≠0)->∀ q,y≠32::q) (h:jw o z++x=jw o w++y):z=w/\x=y:=by
 unfold jw at h;by_cases a:o=0\/z≠0<;>by_cases b:o=0\/w≠0
 ·rw[if_pos a,if_pos b,aM,aM] at h;injection h with _ h;obtain⟨e1,e2⟩:=sS 45 _ _ _ _ (AL z) (AL w) hx hy h;exact⟨za e1,e2⟩
 ·rw[if_pos a,if_neg b,dh,aM] at h;exact absurd h.symm (h2 b a _)
 ·rw[if_neg a,if_pos b,dh,aM] at h;exact absurd h (h1 a b _)
 rw[if_neg a,if_neg b] at h;exact⟨by omega,h⟩
theorem Jl {ks:List F} {r:Bs} (hr:pH r) (q:Bs):jG ks++r≠32::q:=by
 cases ks with
 | nil =>
  intro e;rcases hr with rfl | ⟨l,rfl | rfl⟩
  ·cases e
  ·injection e with e;cases e
  injection e with e;cases e
 | cons a l=>intro e;rw[jG,aM] at e;injection e with e;cases e
theorem s_ {o z:Int} {ks:List F} (ho:o=1\/o=8\/o=14) (h:dw o z (di ks)=true):ks=[]:=by
 rcases ho with rfl | rfl | rfl<;>exact sR (by simpa [dw,bK] using h)
def lD (c:UInt8):Prop:=48<=c.toNat/\c.toNat<=122/\c.toNat≠92
theorem OH (c:UInt8) (l:Bs) (h:lD c):Utf8.decode ⟨(c::l).toArray⟩ 0=(c.toNat,1):=by
 rw[Lib.decode_at];have e:(⟨(c::l).toArray⟩:ByteArray).get! 0=c:=rfl;rw[e];unfold Lib.decodeN;obtain⟨h1,h2,h3⟩:=h;rw[if_pos (by omega)]
theorem step0 (T:Lib.PrintTabs) (c:UInt8) (l:Bs) (h:lD c):Lib.quoteStep T ⟨(c::l).toArray⟩=[(c.toNat:Int)]:=by
 unfold Lib.quoteStep;rw[OH c l h];obtain⟨h1,h2,h3⟩:=h;rw[if_neg (by simp only;omega)];simp only;unfold Lib.escRune;rw[if_neg (by omega),if_pos (by unfold Lib.isPrintR Lib.isPrintLatin;rw[if_pos (by omega)];simp;left;omega)];unfold Lib.encodeRuneZ;rw[if_pos (by omega)]
theorem JG (T:Lib.PrintTabs):∀ l:Bs,(∀ c ∈ l,lD c)->Lib.quoteFrom T l.length ⟨l.toArray⟩=l.map fun c=>(c.toNat:Int)
 | [],_=>rfl
 | c::l,h=>by
  rw[jo,Lib.quoteFrom,if_pos (show 0<(⟨(c::l).toArray⟩:ByteArray).size from Nat.succ_pos _),step0 T c l (h c (by simp)),OH c l (h c (by simp))]
  have e:(⟨(c::l).toArray⟩:ByteArray).extract 1 (⟨(c::l).toArray⟩:ByteArray).size=⟨l.toArray⟩:=by
   apply ByteArray.ext;rw[ByteArray.data_extract];show (c::l).toArray.extract 1 (c::l).length=l.toArray
   simp
  simp only;rw[e,JG T l (fun d hd=>h d (by simp[hd]))];rfl
theorem Gy (T:Lib.PrintTabs) (nm:ByteArray) (h:∀ c ∈ nm.data.toList,lD c):strOfNums (Lib.quoteZ T nm)=⟨(qt nm).toArray⟩:=by
 obtain⟨⟨l⟩⟩:=nm;have e:=JG T l h;unfold Lib.quoteZ;rw[show (⟨⟨l⟩⟩:ByteArray).size=l.length from rfl,e];unfold strOfNums qt
 simp[Function.comp_def]
structure FE (nm:ByteArray):Prop where
 ne:nm ≠ ⟨#[]⟩
 sz:nm.data.toList.length<=20
 pl:∀ c ∈ nm.data.toList,lD c
theorem FE.emp {nm:ByteArray} (h:FE nm):nm.toList.isEmpty=false:=by
 rw[Bool.eq_false_iff];intro he;apply h.ne;have h2:nm.toList=[]:=List.isEmpty_iff.1 he;have h3:nm.toList=nm.data.toList:=by rw[ByteArray.toList_eq]
 rw[h3] at h2;exact ByteArray.ext (Array.toList_inj.1 h2)
def FF (o:Int) (nm:ByteArray):Prop:=if o=1\/o=8\/o=14 then FE nm else nm=⟨#[]⟩
theorem kG {o:Int} {nm:ByteArray} (h:¬ (o=1\/o=8\/o=14)) (k:FF o nm):nm=⟨#[]⟩:=by unfold FF at k;rwa [if_neg h] at k
theorem oE {o:Int} {nm:ByteArray} (h:o=1\/o=8\/o=14) (k:FF o nm):FE nm:=by unfold FF at k;rwa [if_pos h] at k
theorem GU {nm:ByteArray} (h:nm ∈ vf):FE nm:=by
 simp only[vf,aP,aK,or_false] at h;rcases h with rfl | rfl | rfl | rfl | rfl | rfl | rfl<;>exact⟨by decide,by decide,by unfold lD;decide⟩
theorem Dw {o:Int} {nm:ByteArray} (ho:o=1\/o=8\/o=14) (h:fh o nm):nm ∈ vf:=by
 rcases ho with rfl | rfl | rfl
 ·rcases (show nm=_\/nm=_\/nm=_ from h) with rfl | rfl | rfl<;>simp[vf]
 ·rcases (show nm=_\/nm=_ from h) with rfl | rfl<;>simp[vf]
 rcases (show nm=_\/nm=_ from h) with rfl | rfl<;>simp[vf]
theorem fh.g {o:Int} {nm:ByteArray} (h:fh o nm):FF o nm:=by
 unfold FF;split
 ·rename_i ho;exact GU (Dw ho h)
 rename_i ho;exact GS ho h
def Tg:Nat->F->Prop
 | 0,_=>False
 | d+1,t=>FF t.op t.name/\t.num.natAbs<bf ^ 4/\(t.op≠0->t.op≠3->t.op≠5->t.num=0)/\t.kids.length<=8/\∀ k ∈ t.kids,Tg d k
theorem Tm.g:∀ {d:Nat} {t:F},Tm d t->Tg d t
 | 0,_,h=>h
 | d+1,_,⟨h1,h2,h3,h4,h5⟩=>⟨h1.g,h2,h3,ai h4 (by decide),fun k hk=>(h5 k hk).g⟩
theorem Tm.Fo:∀ {d:Nat} {t:F},Tm d t->Tm (d+1) t
 | 0,_,h=>absurd h id
 | d+1,_,⟨h1,h2,h3,h4,h5⟩=>⟨h1,h2,h3,h4,fun k hk=>(h5 k hk).Fo⟩
theorem Tm.up {d:Nat} {t:F} (h:Tm d t):∀ {d':Nat},d<=d'->Tm d' t
 | 0,hd=>by cases d with | zero=>exact h | succ d=>omega
 | d'+1,hd=>by
  by_cases e:d=d'+1
  ·rw[<-e];exact h
  exact (Tm.up h (by omega)).Fo
theorem Tg.Fo:∀ {d:Nat} {t:F},Tg d t->Tg (d+1) t
 | 0,_,h=>absurd h id
 | d+1,_,⟨h1,h2,h3,h4,h5⟩=>⟨h1,h2,h3,h4,fun k hk=>(h5 k hk).Fo⟩
def xO:Nat->Nat
 | 0=>0
 | d+1=>80+8*(xO d+2)
theorem A':∀ d,d<=2->xO d<=900000:=by decide
theorem Dz {o:Int} {nm:ByteArray} (h:FF o nm):(jR nm).length<=23:=by
 unfold jR;split
 ·exact ah _
 rename_i hne;by_cases ho:o=1\/o=8\/o=14
 ·have:=(oE ho h).sz;unfold qt;simp only[jo,dB,qE];omega
 exact absurd (kG ho h) hne
theorem sA:∀ (d:Nat) (t:F),Tg d t->(g_ t).length<=xO d
 | 0,t,h=>absurd h id
 | d+1,.node o z nm ks,h=>by
  obtain⟨h1,h2,h3,h4,h5⟩:=h;have hw:=CZ o
  have hn:(jw o z).length<=42:=by
   unfold jw;split
   ·rw[jo];have:=AJ h2;show _+1<=42;simp only[F.num] at this;omega
   exact ah _
  have hm:=Dz h1;simp only[F.name] at hm;have key:∀ l:List F,(∀ k ∈ l,Tg d k)->(nk l).length<=l.length*(xO d+2)+1:=by
   intro l;induction l with
   | nil=>intro _;simp[nk]
   | cons a l ih =>
    intro hl;have:=ih (fun k hk=>hl k (by simp[hk]));have ha:=sA d a (hl a (by simp));rw[nk];simp only[jo,dB,cO,vK];omega
  simp only[F.kids] at h4 h5;have hk:(jG ks).length<=8*(xO d+2)+1:=by
   cases ks with
   | nil=>simp[jG]
   | cons a l =>
    have h6:=key l (fun k hk=>h5 k (by simp[hk]));have ha:=sA d a (h5 a (by simp));have h7:l.length*(xO d+2)<=7*(xO d+2):=de _ (by rw[jo] at h4;omega);rw[jG];simp only[jo,dB];omega
  rw[g_,xO];simp only[dB];omega
theorem xG:∀ (a b x y:Bs),(∀ c ∈ a,lD c)->(∀ c ∈ b,lD c)->a++(34::x)=b++(34::y)->a=b/\x=y
 | [],[],x,y,_,_,h=>by injection h with _ h;exact⟨rfl,h⟩
 | [],c::b,x,y,_,hb,h=>by
  injection h with h _;have:=(hb c (by simp)).1;rw[<-h] at this;exact absurd this (by decide)
 | c::a,[],x,y,ha,_,h=>by
  injection h with h _;have:=(ha c (by simp)).1;rw[h] at this;exact absurd this (by decide)
 | c::a,d::b,x,y,ha,hb,h=>by
  injection h with h1 h2;obtain⟨h3,h4⟩:=xG a b x y (fun q hq=>ha q (by simp[hq])) (fun q hq=>hb q (by simp[hq])) h2;exact⟨by rw[h1,h3],h4⟩
theorem GB {p q:ByteArray} {x y:Bs} (hp:FE p) (hq:FE q) (h:qt p++x=qt q++y):p=q/\x=y:=by
 unfold qt at h;simp only[aM,aS,dh] at h;injection h with _ h;obtain⟨h1,h2⟩:=xG _ _ _ _ hp.pl hq.pl h;exact⟨ByteArray.ext (Array.toList_inj.1 h1),h2⟩
theorem vL:∀ (d:Nat) (t s:F),Tg d t->Tg d s->rt t=true->rt s=true->∀ r r':Bs,pH r->pH r'->g_ t++r=g_ s++r'->t=s/\r=r'
 | 0,t,s,h,_,_,_=>absurd h id
 | d+1,.node o z nm ks,.node o' z' Nb ks',ht,hs,QW,QV=>by
  intro r r' hr hr' h;obtain⟨hf,hk⟩:=gU QW;obtain⟨Um,hk'⟩:=gU QV;have ho:=iu hf;have lY:=iu Um;obtain⟨n1,n2,n3,-,n5⟩:=ht;obtain⟨m1,m2,m3,-,m5⟩:=hs;simp only[F.op,F.num,F.name,F.kids] at n1 n3 n5 m1 m3 m5;rw[g_,g_,aS,aS,aS,aS,aS,aS] at h;obtain⟨e1,e2⟩:=sS 65 _ _ _ _ (CY ho) (CY lY) ((yF o z nm ks r hr).up (by decide)) ((yF o' z' Nb ks' r' hr').up (by decide)) h;have eo:=Ki ho lY e1;subst eo
  -- the kids
  have kids:∀ (l l':List F),(∀ k ∈ l,Tg d k/\rt k=true)->(∀ k ∈ l',Tg d k/\rt k=true)->∀ x y:Bs,pH x->pH y->nk l++x=nk l'++y->l=l'/\x=y:=by
   intro l;induction l with
   | nil =>
    intro l' _ _ x y _ _ e;cases l' with
    | nil=>rw[nk,aM,aM] at e;injection e with _ e;exact⟨rfl,e⟩
    | cons a m=>rw[nk,nk,aM,aM] at e;injection e with e;cases e
   | cons a m ih =>
    intro l' hl hl' x y hx hy e;cases l' with
    | nil=>rw[nk,nk,aM,aM] at e;injection e with e;cases e
    | cons b n =>
     rw[nk,nk,aM,aM,aM,aM] at e;injection e with _ e;injection e with _ e;rw[aS,aS] at e;obtain⟨q1,q2⟩:=vL d a b (hl a (by simp)).1 (hl' b (by simp)).1 (hl a (by simp)).2 (hl' b (by simp)).2 _ _ (qb m x) (qb n y) e;obtain⟨q3,q4⟩:=ih n (fun k hk=>hl k (by simp[hk])) (fun k hk=>hl' k (by simp[hk])) x y hx hy q2;exact⟨by rw[q1,q3],q4⟩
  have Nj:jG ks++r=jG ks'++r'->ks=ks'/\r=r':=by
   intro e;cases ks with
   | nil =>
    cases ks' with
    | nil=>exact⟨rfl,e⟩
    | cons b n =>
     rw[jG,jG,dh,aM] at e;rcases hr with rfl | ⟨l,rfl | rfl⟩
     ·cases e
     ·injection e with e;cases e
     injection e with e;cases e
   | cons a m =>
    cases ks' with
    | nil =>
     rw[jG,jG,dh,aM] at e;rcases hr' with rfl | ⟨l,rfl | rfl⟩
     ·cases e
     ·injection e with e;cases e
     injection e with e;cases e
    | cons b n =>
     rw[jG,jG,aM,aM] at e;injection e with _ e;rw[aS,aS] at e;obtain⟨q1,q2⟩:=vL d a b (n5 a (by simp)) (m5 b (by simp)) (hk a (by simp)) (hk' b (by simp)) _ _ (qb m r) (qb n r') e;obtain⟨q3,q4⟩:=kids m n (fun k h=>⟨n5 k (by simp[h]),hk k (by simp[h])⟩) (fun k h=>⟨m5 k (by simp[h]),hk' k (by simp[h])⟩) r r' hr hr' q2;exact⟨by rw[q1,q3],q4⟩
  by_cases hn:o=1\/o=8\/o=14
  ·have k1:=s_ hn hf;have k2:=s_ hn Um;have z1:z=0:=n3 (by omega) (by omega) (by omega);have z2:z'=0:=m3 (by omega) (by omega) (by omega);have a1:=oE hn n1;have b1:=oE hn m1;subst k1 k2 z1 z2;rw[show jw o 0=[] from if_neg (by omega),dh,dh,show jR nm=32::qt nm from if_neg a1.ne,show jR Nb=32::qt Nb from if_neg b1.ne,aM,aM] at e2;injection e2 with _ e2;obtain⟨q1,q2⟩:=GB a1 b1 e2;exact⟨by rw[q1],q2⟩
  have a1:=kG hn n1;have b1:=kG hn m1;subst a1 b1;rw[show jR ⟨#[]⟩=[] from rfl,dh,dh] at e2;obtain⟨q1,q2⟩:=Du (wJ ks r hr (ag _)) (wJ ks' r' hr' (ag _)) (fun _ _ q=>Jl hr q) (fun _ _ q=>Jl hr' q) e2;obtain⟨q3,q4⟩:=Nj q2;exact⟨by rw[q1,q3],q4⟩
theorem uS {d:Nat} {t s:F} (h1:Tg d t) (h2:Tg d s) (h3:rt t=true) (h4:rt s=true) (h:g_ t=g_ s):t=s:=
 (vL d t s h1 h2 h3 h4 [] [] (.inl rfl) (.inl rfl) (by rw[dG,dG,h])).1
attribute [local go_sem] cL cK cJ cI
def pR:Prop:=∀ nm,FE nm->∀ w:af,vG w->aV aj 117 #[.string nm] w fun e w'=>e=.returned (.string ⟨(qt nm).toArray⟩)/\aB w.heap.size w w'
def ri (d:Nat):Prop:=∀ (w0 w:af) (v:ak) (t:F) (B b:Nat) (l:Bs),FC w0 tS d v t->vG w0->rt t=true->Tg d t->w0.heap.size<=B->aB w0.heap.size w0 w->pX B b l w->B<=w.heap.size->l.length+(g_ t).length<=1000000 ->
 aV aj 67 #[.pointer (some ⟨b,0,none⟩),v] w (ox B b (l++g_ t) w)
theorem zg (HQ:pR) (d:Nat) (IH:ri d) (w0 w:af) (v:ak) (t:F) (B b:Nat) (l:Bs) (ho:t.op=0):FC w0 tS (d+1) v t->vG w0->rt t=true->Tg (d+1) t->w0.heap.size<=B->aB w0.heap.size w0 w->pX B b l w->B<=w.heap.size->l.length+(g_ t).length<=1000000 ->
  aV aj 67 #[.pointer (some ⟨b,0,none⟩),v] w (ox B b (l++g_ t) w):=by
 intro hf ht pT CH hB gq cS hBw hlen;obtain⟨b2,ao,la,c,ko,kl,kc,rfl,⟨-,hz,kU,hkc,hkm⟩,-,hk⟩:=hf.open;obtain⟨o,z,nm,ks⟩:=t;simp only[F.op,F.num,F.name,F.kids] at hz hk kU ho ⊢;rw[show d+1 - 1=d from rfl] at hk;obtain⟨hfit,rM⟩:=gU pT;have zT:=iu hfit;obtain⟨hnm,wm,hz0,-,uk⟩:=CH;simp only[F.op,F.num,F.name,F.kids] at hnm wm hz0 uk;have uI:kc<=9223372036854775807:=hkm;have Ii:kl<=9223372036854775807:=ai hkc hkm;have lg:l.length+((wd o).length+((jw o z).length+((jR nm).length+(jG ks).length)))<=1000000:=by have h:=hlen;rw[g_,dB,dB,dB] at h;omega
 have HN:=aa kU;have HZ:=aa hz;have HT:=aa ht;have ou:=aa lg;have BB:=aa zT;have gA:=aa hB;have HW:=aa gq;have eP:=aa cS;have bP:Hid (B<=w.heap.size):=aa hBw;have eD:=aa (ax B w);have eX:=aa (w_.refl w);have tX:Hid (g_ (.node o z nm ks)=wd o++(jw o z++(jR nm++jG ks))):=aa (by rw[g_]);clear hf ht pT hB gq cS hBw hlen lg kU hk hz rM uk HQ IH;subst ho;have Ij:ks=[]:=sR (by simpa [dw,bK] using hfit);have Pu:Hid (jG ks=[]):=aa (by rw[Ij];rfl);have Ei:kl=0:=by rw[HN.out,Ij];rfl
 subst Ei;have H_:nm=⟨#[]⟩:=kG (by omega) hnm;subst H_;have yS:Hid (jw 0 z=32::jb z):=aa (if_pos (.inl rfl));have FJ:Hid (jR ⟨#[]⟩=[]):=aa rfl;clear hfit hnm wm hz0 zT hkc hkm;go_enter Tryz.func67,Tryz.ntmps67;obtain⟨x1,kf,ef,ki,cn,jC,aG⟩:=aW w #[.int .i64 0,.bool b2,.slice ao la c,.string ⟨#[]⟩,.slice ko 0 kc] 29;replace HW:=aa (HW.out.trans (cn.out.mono HW.out.size));replace eP:=aa (eP.out.below cn.out);replace eD:=aa (dU eD.out bP.out cn.out);replace eX:=aa (eX.out.trans (dH cn.out));replace bP:=aa (ai bP.out cn.out.size);obtain⟨⟨c0,c1,c2,c3,c4⟩,dN,dY,dX,dW,dO⟩:=ay aG.out;go_wp2_with fail;refine (sK 0 BB.out.1 BB.out.2 x1 (HT.out.below HW.out)).mono ?_
 rintro e x2 ⟨rfl,hb⟩;clear c0 dN c1 dY c2 dX c3 dW c4 dO;replace aG:=bM hb aG;replace HW:=aa (HW.out.trans (hb.mono HW.out.size));replace eP:=aa (eP.out.below hb);replace eD:=aa (dU eD.out bP.out hb);replace eX:=aa (eX.out.trans (dH hb));replace bP:=aa (ai bP.out hb.size);clear hb;go_wp2_with fail;refine (lH B b l (wd 0) x2 eP.out (by have:=ou.out;omega) bP.out).mono ?_;rintro e x3 ⟨⟨v,rfl⟩,cS,hb,hfr⟩;replace aG:=aa (hfr _ _ _ _ aG.out (by decide) (by decide));replace HW:=aa (HW.out.trans (hb.mono gA.out));replace eD:=aa (eD.out.trans hb);replace eX:=aa (eX.out.trans hfr);replace bP:Hid (B<=x3.heap.size):=aa (ai bP.out hb.size);replace eP:=aa cS;clear cS hb hfr
 obtain⟨⟨c0,c1,c2,c3,c4⟩,dN,dY,dX,dW,dO⟩:=ay aG.out;go_wp2_with fail;refine (mX B b (l++wd 0) 32 32 rfl x3 eP.out (by have:=ou.out;have h3:=yS.out;rw[h3] at this;rw[dB];simp only[jo] at this;omega) bP.out).mono ?_;rintro e x4 ⟨⟨v,rfl⟩,cS,hb,hfr⟩;clear c0 dN c1 dY c2 dX c3 dW c4 dO;replace aG:=aa (hfr _ _ _ _ aG.out (by decide) (by decide));replace HW:=aa (HW.out.trans (hb.mono gA.out));replace eD:=aa (eD.out.trans hb);replace eX:=aa (eX.out.trans hfr);replace bP:Hid (B<=x4.heap.size):=aa (ai bP.out hb.size);replace eP:=aa cS;clear cS hb hfr;obtain⟨⟨c0,c1,c2,c3,c4⟩,dN,dY,dX,dW,dO⟩:=ay aG.out;go_wp2_with fail
 refine (uQ _ z 600 x4 (HT.out.below HW.out).M7 ((HZ.out.below HW.out).gi) (by decide)).mono ?_;rintro e x5 ⟨rfl,hb⟩;clear c0 dN c1 dY c2 dX c3 dW c4 dO;replace aG:=bM hb aG;replace eP:=aa (eP.out.below hb);replace eD:=aa (dU eD.out bP.out hb);replace eX:=aa (eX.out.trans (dH hb));replace bP:=aa (ai bP.out hb.size);clear hb;go_wp2_with fail;refine (lH B b (l++wd 0++[32]) (jb z) x5 eP.out (by have:=ou.out;have h3:=yS.out;rw[h3] at this;rw[dB,dB];simp only[jo,qE] at this ⊢;omega) bP.out).mono ?_;rintro e x6 ⟨⟨v,rfl⟩,cS,hb,hfr⟩;replace aG:=aa (hfr _ _ _ _ aG.out (by decide) (by decide));replace eD:=aa (eD.out.trans hb);replace eX:=aa (eX.out.trans hfr)
 replace bP:Hid (B<=x6.heap.size):=aa (ai bP.out hb.size);replace eP:=aa cS;clear cS hb hfr;obtain⟨⟨c0,c1,c2,c3,c4⟩,dN,dY,dX,dW,dO⟩:=ay aG.out;go_wp2_with fail;go_end0;exact⟨⟨_,rfl⟩,by rw[tX.out,yS.out,FJ.out,Pu.out];simpa using eP.out,eD.out,eX.out⟩
theorem zh (HQ:pR) (d:Nat) (IH:ri d) (w0 w:af) (v:ak) (t:F) (B b:Nat) (l:Bs) (ho:t.op=1\/t.op=8\/t.op=14):FC w0 tS (d+1) v t->vG w0->rt t=true->Tg (d+1) t->w0.heap.size<=B->aB w0.heap.size w0 w->pX B b l w->B<=w.heap.size->l.length+(g_ t).length<=1000000 ->
  aV aj 67 #[.pointer (some ⟨b,0,none⟩),v] w (ox B b (l++g_ t) w):=by
 intro hf ht pT CH hB gq cS hBw hlen;obtain⟨b2,ao,la,c,ko,kl,kc,rfl,⟨-,hz,kU,hkc,hkm⟩,-,hk⟩:=hf.open;obtain⟨o,z,nm,ks⟩:=t;simp only[F.op,F.num,F.name,F.kids] at hz hk kU ho ⊢;rw[show d+1 - 1=d from rfl] at hk;obtain⟨hfit,rM⟩:=gU pT;have zT:=iu hfit;obtain⟨hnm,wm,hz0,-,uk⟩:=CH;simp only[F.op,F.num,F.name,F.kids] at hnm wm hz0 uk;have uI:kc<=9223372036854775807:=hkm;have Ii:kl<=9223372036854775807:=ai hkc hkm;have lg:l.length+((wd o).length+((jw o z).length+((jR nm).length+(jG ks).length)))<=1000000:=by have h:=hlen;rw[g_,dB,dB,dB] at h;omega
 have HN:=aa kU;have HZ:=aa hz;have HT:=aa ht;have ou:=aa lg;have YZ:=aa HQ;have BB:=aa zT;have gA:=aa hB;have HW:=aa gq;have eP:=aa cS;have bP:Hid (B<=w.heap.size):=aa hBw;have eD:=aa (ax B w);have eX:=aa (w_.refl w);have tX:Hid (g_ (.node o z nm ks)=wd o++(jw o z++(jR nm++jG ks))):=aa (by rw[g_]);clear hf ht pT hB gq cS hBw hlen lg kU hk hz rM uk HQ IH;have Ij:ks=[]:=by rcases ho with rfl | rfl | rfl<;>exact sR (by simpa [dw,bK] using hfit)
 have Pu:Hid (jG ks=[]):=aa (by rw[Ij];rfl);have Ei:kl=0:=by rw[HN.out,Ij];rfl
 subst Ei;have iq:z=0:=hz0 (by omega) (by omega) (by omega);subst iq;have tC:FE nm:=oE ho hnm;have SK:=aa tC;have hne:nm ≠ ⟨#[]⟩:=tC.ne;have hnb:=tC.emp;have yS:Hid (jw o 0=[]):=aa (if_neg (by omega));have FJ:Hid (jR nm=32::qt nm):=aa (if_neg hne);have Rm:(o==0)=false:=beq_eq_false_iff_ne.2 (by omega);have L8:Hid (dQ 0=0):=aa rfl;clear hfit hnm wm hz0 zT hkc hkm;clear ho hne tC Ij;go_enter Tryz.func67,Tryz.ntmps67;obtain⟨x1,kf,ef,ki,cn,jC,aG⟩:=aW w #[.int .i64 o,.bool b2,.slice ao la c,.string nm,.slice ko 0 kc] 29;replace HW:=aa (HW.out.trans (cn.out.mono HW.out.size));replace eP:=aa (eP.out.below cn.out);replace eD:=aa (dU eD.out bP.out cn.out);replace eX:=aa (eX.out.trans (dH cn.out))
 replace bP:=aa (ai bP.out cn.out.size);obtain⟨⟨c0,c1,c2,c3,c4⟩,dN,dY,dX,dW,dO⟩:=ay aG.out;go_wp2_with fail;refine (sK o BB.out.1 BB.out.2 x1 (HT.out.below HW.out)).mono ?_;rintro e x2 ⟨rfl,hb⟩;clear c0 dN c1 dY c2 dX c3 dW c4 dO;replace aG:=bM hb aG;replace HW:=aa (HW.out.trans (hb.mono HW.out.size));replace eP:=aa (eP.out.below hb);replace eD:=aa (dU eD.out bP.out hb);replace eX:=aa (eX.out.trans (dH hb));replace bP:=aa (ai bP.out hb.size);clear hb;go_wp2_with fail;refine (lH B b l (wd o) x2 eP.out (by have:=ou.out;omega) bP.out).mono ?_;rintro e x3 ⟨⟨v,rfl⟩,cS,hb,hfr⟩;replace aG:=aa (hfr _ _ _ _ aG.out (by decide) (by decide))
 replace HW:=aa (HW.out.trans (hb.mono gA.out));replace eD:=aa (eD.out.trans hb);replace eX:=aa (eX.out.trans hfr);replace bP:Hid (B<=x3.heap.size):=aa (ai bP.out hb.size);replace eP:=aa cS;clear cS hb hfr;obtain⟨⟨c0,c1,c2,c3,c4⟩,dN,dY,dX,dW,dO⟩:=ay aG.out;go_wp2_with fail;refine (fB _ 0 600 x3 ((HZ.out.below HW.out).gi) (by decide)).mono ?_;rintro e x4 ⟨rfl,hb⟩;clear c0 dN c1 dY c2 dX c3 dW c4 dO;replace aG:=bM hb aG;replace HW:=aa (HW.out.trans (hb.mono HW.out.size));replace eP:=aa (eP.out.below hb);replace eD:=aa (dU eD.out bP.out hb);replace eX:=aa (eX.out.trans (dH hb));replace bP:=aa (ai bP.out hb.size);clear hb;rw[L8.out]
 obtain⟨⟨c0,c1,c2,c3,c4⟩,dN,dY,dX,dW,dO⟩:=ay aG.out;go_wp2_with fail;refine (mX B b (l++wd o) 32 32 rfl x4 eP.out (by have:=ou.out;rw[dB];omega) bP.out).mono ?_;rintro e x5 ⟨⟨v,rfl⟩,cS,hb,hfr⟩;clear c0 dN c1 dY c2 dX c3 dW c4 dO;replace aG:=aa (hfr _ _ _ _ aG.out (by decide) (by decide));replace HW:=aa (HW.out.trans (hb.mono gA.out));replace eD:=aa (eD.out.trans hb);replace eX:=aa (eX.out.trans hfr);replace bP:Hid (B<=x5.heap.size):=aa (ai bP.out hb.size);replace eP:=aa cS;clear cS hb hfr;obtain⟨⟨c0,c1,c2,c3,c4⟩,dN,dY,dX,dW,dO⟩:=ay aG.out;go_wp2_with fail;refine (YZ.out nm SK.out x5 (HT.out.below HW.out)).mono ?_;rintro e x6 ⟨rfl,hb⟩;clear c0 dN c1 dY c2 dX c3 dW c4 dO
 replace aG:=bM hb aG;replace eP:=aa (eP.out.below hb);replace eD:=aa (dU eD.out bP.out hb);replace eX:=aa (eX.out.trans (dH hb));replace bP:=aa (ai bP.out hb.size);clear hb;go_wp2_with fail;refine (lH B b (l++wd o++[32]) (qt nm) x6 eP.out (by have:=ou.out;have h3:=FJ.out;rw[h3] at this;rw[dB,dB];simp only[jo,qE] at this ⊢;omega) bP.out).mono ?_;rintro e x7 ⟨⟨v,rfl⟩,cS,hb,hfr⟩;replace aG:=aa (hfr _ _ _ _ aG.out (by decide) (by decide));replace eD:=aa (eD.out.trans hb);replace eX:=aa (eX.out.trans hfr);replace bP:Hid (B<=x7.heap.size):=aa (ai bP.out hb.size);replace eP:=aa cS;clear cS hb hfr;obtain⟨⟨c0,c1,c2,c3,c4⟩,dN,dY,dX,dW,dO⟩:=ay aG.out;go_wp2_with fail;go_end0
 exact⟨⟨_,rfl⟩,by rw[tX.out,yS.out,FJ.out,Pu.out];simpa using eP.out,eD.out,eX.out⟩
theorem BD (HQ:pR) (d:Nat) (IH:ri d) (w0 w:af) (v:ak) (t:F) (B b:Nat) (l:Bs) (ho:t.op≠0/\t.op≠1/\t.op≠8/\t.op≠14) (Hu:t.num=0) (hks:t.kids.length≠0):FC w0 tS (d+1) v t->vG w0->rt t=true->Tg (d+1) t->w0.heap.size<=B->aB w0.heap.size w0 w->pX B b l w->B<=w.heap.size->l.length+(g_ t).length<=1000000 ->
  aV aj 67 #[.pointer (some ⟨b,0,none⟩),v] w (ox B b (l++g_ t) w):=by
 intro hf ht pT CH hB gq cS hBw hlen;obtain⟨b2,ao,la,c,ko,kl,kc,rfl,⟨-,hz,kU,hkc,hkm⟩,-,hk⟩:=hf.open;obtain⟨o,z,nm,ks⟩:=t;simp only[F.op,F.num,F.name,F.kids] at hz hk kU ho Hu hks ⊢;rw[show d+1 - 1=d from rfl] at hk;obtain⟨hfit,rM⟩:=gU pT;have zT:=iu hfit;obtain⟨hnm,wm,hz0,-,uk⟩:=CH;simp only[F.op,F.num,F.name,F.kids] at hnm wm hz0 uk;have uI:kc<=9223372036854775807:=hkm;have Ii:kl<=9223372036854775807:=ai hkc hkm;have lg:l.length+((wd o).length+((jw o z).length+((jR nm).length+(jG ks).length)))<=1000000:=by have h:=hlen;rw[g_,dB,dB,dB] at h;omega
 have HN:=aa kU;have HX:=aa hk;have HZ:=aa hz;have HT:=aa ht;have EU:=aa uk;have FI:=aa rM;have ou:=aa lg;have Pw:=aa IH;have BB:=aa zT;have gA:=aa hB;have HW:=aa gq;have eP:=aa cS;have bP:Hid (B<=w.heap.size):=aa hBw;have eD:=aa (ax B w);have eX:=aa (w_.refl w);have tX:Hid (g_ (.node o z nm ks)=wd o++(jw o z++(jR nm++jG ks))):=aa (by rw[g_]);clear hf ht pT hB gq cS hBw hlen lg kU hk hz rM uk HQ IH;have tC:nm=⟨#[]⟩:=kG (by omega) hnm;subst tC;have FJ:Hid (jR ⟨#[]⟩=[]):=aa rfl;have Rm:(o==0)=false:=beq_eq_false_iff_ne.2 (by omega);subst Hu;have yS:Hid (jw o 0=[]):=aa (if_neg (by omega));have L8:Hid (dQ 0=0):=aa rfl
 have hkp:kl≠0:=by rw[HN.out];exact hks
 have hkb:(((kl:Nat):Int)==0)=false:=beq_eq_false_iff_ne.2 (by omega);clear hks;clear hfit hnm wm hz0 zT hkc hkm;clear ho;go_enter Tryz.func67,Tryz.ntmps67;obtain⟨x1,kf,ef,ki,cn,jC,aG⟩:=aW w #[.int .i64 o,.bool b2,.slice ao la c,.string ⟨#[]⟩,.slice ko kl kc] 29;replace HW:=aa (HW.out.trans (cn.out.mono HW.out.size));replace eP:=aa (eP.out.below cn.out);replace eD:=aa (dU eD.out bP.out cn.out);replace eX:=aa (eX.out.trans (dH cn.out));replace bP:=aa (ai bP.out cn.out.size);obtain⟨⟨c0,c1,c2,c3,c4⟩,dN,dY,dX,dW,dO⟩:=ay aG.out;go_wp2_with fail;refine (sK o BB.out.1 BB.out.2 x1 (HT.out.below HW.out)).mono ?_;rintro e x2 ⟨rfl,hb⟩;clear c0 dN c1 dY c2 dX c3 dW c4 dO;replace aG:=bM hb aG
 replace HW:=aa (HW.out.trans (hb.mono HW.out.size));replace eP:=aa (eP.out.below hb);replace eD:=aa (dU eD.out bP.out hb);replace eX:=aa (eX.out.trans (dH hb));replace bP:=aa (ai bP.out hb.size);clear hb;go_wp2_with fail;refine (lH B b l (wd o) x2 eP.out (by have:=ou.out;omega) bP.out).mono ?_;rintro e x3 ⟨⟨v,rfl⟩,cS,hb,hfr⟩;replace aG:=aa (hfr _ _ _ _ aG.out (by decide) (by decide));replace HW:=aa (HW.out.trans (hb.mono gA.out));replace eD:=aa (eD.out.trans hb);replace eX:=aa (eX.out.trans hfr);replace bP:Hid (B<=x3.heap.size):=aa (ai bP.out hb.size);replace eP:=aa cS;clear cS hb hfr;obtain⟨⟨c0,c1,c2,c3,c4⟩,dN,dY,dX,dW,dO⟩:=ay aG.out;go_wp2_with fail
 refine (fB _ 0 600 x3 ((HZ.out.below HW.out).gi) (by decide)).mono ?_;rintro e x4 ⟨rfl,hb⟩;clear c0 dN c1 dY c2 dX c3 dW c4 dO;replace aG:=bM hb aG;replace HW:=aa (HW.out.trans (hb.mono HW.out.size));replace eP:=aa (eP.out.below hb);replace eD:=aa (dU eD.out bP.out hb);replace eX:=aa (eX.out.trans (dH hb));replace bP:=aa (ai bP.out hb.size);clear hb;rw[L8.out];obtain⟨⟨c0,c1,c2,c3,c4⟩,dN,dY,dX,dW,dO⟩:=ay aG.out;go_wp2_with fail;clear c0 dN c1 dY c2 dX c3 dW c4 dO;obtain⟨L,hL⟩:∃ L,L=l++wd o:=⟨_,rfl⟩;rw[<-hL] at eP;have Pp:Hid (l++g_ (.node o 0 ⟨#[]⟩ ks)=L++jG ks):=aa (by rw[tX.out,yS.out,FJ.out,hL];simp)
 have AD:Hid (L.length+(jG ks).length<=1000000):=aa (by have h3:=congrArg cW Pp.out;rw[dB,dB] at h3;have h4:=ou.out;have h5:=congrArg cW tX.out;rw[dB,dB,dB] at h5;omega);clear hL;replace eP:Hid (pX B b (L++p_ ks 0) x4):=aa (by rw[p9,dG];exact eP.out);go_loopw [44] (fun i wr=>∃ j:Nat,i=.int .i64 (j:Nat)/\j<=kl/\Hid (pX B b (L++p_ ks j) wr)/\Hid (aB B w wr)/\Hid (w_ w wr)/\Hid (aB w0.heap.size w0 wr)/\Hid (B<=wr.heap.size)) (fun i _=>kl - (intOf i).toNat)
 case atStart=>exact⟨0,rfl,ah _,eP,eD,eX,HW,bP⟩
 case round =>
  obtain⟨wl,KS⟩:∃ q,q=wr:=⟨_,rfl⟩;subst KS;clear eP eD eX HW bP;obtain⟨j,rfl,hj,eP,eD,eX,HW,bP⟩:=hrel;by_cases hlt:j<kl
  ·have rX:j<ks.length:=by rw[<-HN.out];exact hlt
   have Fg:=aa rX;obtain⟨m,Ib,yV⟩:=xq ks j rX;have HM:=aa Ib;have Eh:=C5 ks (j+1) rX (by omega);have E_:=aa Eh;have hin:(ks[j]'rX) ∈ ks:=bS rX;have y8:=aa hin;obtain⟨kd,wA⟩:∃ y,y=(ks[j]'rX):=⟨_,rfl⟩;rw[<-wA] at HM y8;have Zi:Hid (kd=ks[j]'Fg.out):=aa wA;obtain⟨a,bb,qo,ql,qc,po,pl,pc,rfl,tF,Il⟩:=HX.out.cells j rX;rw[<-wA] at tF Il;obtain⟨x,uh⟩:∃ x,x=kd.op:=⟨_,rfl⟩;obtain⟨ym,Hv⟩:∃ x,x=kd.name:=⟨_,rfl⟩;rw[<-uh,<-Hv] at tF Il;have Px:=aa Il;obtain⟨c0,c1,c2,c3,c4⟩:=tF;rw[<-HW.out.cell (cj c0)] at c0;rw[<-HW.out.cell (cj c1)] at c1;rw[<-HW.out.cell (cj c2)] at c2;rw[<-HW.out.cell (cj c3)] at c3;rw[<-HW.out.cell (cj c4)] at c4
   clear Ib Eh hin wA Il uh Hv rX;obtain⟨x5,k7,e7,UL,xe,Ue,wZ⟩:=aW wl #[.int .i64 x,.bool bb,.slice qo ql qc,.string ym,.slice po pl pc] 29;replace HW:=aa (HW.out.trans (xe.out.mono HW.out.size));replace eP:=aa (eP.out.below xe.out);replace eD:=aa (dU eD.out bP.out xe.out);replace eX:=aa (eX.out.trans (dH xe.out));replace bP:=aa (ai bP.out xe.out.size);rcases yV with ⟨rfl,rfl⟩ | ⟨Ru,rfl⟩
   ·simp only[Nat.zero_mul,JQ] at c0 c1 c2 c3 c4;obtain⟨⟨g0,g1,g2,g3,g4⟩,ux,uw,uv,uu,ur⟩:=ay wZ.out;go_wp2_with fail;refine (mX B b (L++p_ ks 0) 40 40 rfl x5 eP.out (by rw[dB];have h3:=E_.out;have h4:=congrArg cW HM.out;rw[dB,dB] at h4;have h5:=AD.out;simp only[dB,jo,qE] at *;omega) bP.out).mono ?_;rintro e x6 ⟨⟨v,rfl⟩,cS,hb,hfr⟩;clear g0 ux g1 uw g2 uv g3 uu g4 ur;replace wZ:=aa (hfr _ _ _ _ wZ.out (by decide) (by decide));replace HW:=aa (HW.out.trans (hb.mono gA.out));replace eD:=aa (eD.out.trans hb);replace eX:=aa (eX.out.trans hfr);replace bP:Hid (B<=x6.heap.size):=aa (ai bP.out hb.size);replace eP:=aa cS;clear cS hb hfr;obtain⟨⟨g0,g1,g2,g3,g4⟩,ux,uw,uv,uu,ur⟩:=ay wZ.out
    clear c0 c1 c2 c3 c4;go_wp2_with fail;refine (Pw.out w0 x6 _ kd B b (L++p_ ks 0++[40]) Px.out HT.out (FI.out kd y8.out) (EU.out kd y8.out) gA.out HW.out eP.out bP.out (by rw[dB,dB];have h3:=E_.out;have h4:=congrArg cW HM.out;rw[dB,dB] at h4;have h5:=AD.out;simp only[dB,jo,qE] at *;omega)).mono ?_;rintro e x7 ⟨⟨v,rfl⟩,cS,hb,hfr⟩;clear g0 ux g1 uw g2 uv g3 uu g4 ur;replace HW:=aa (HW.out.trans (hb.mono gA.out));replace eD:=aa (eD.out.trans hb);replace eX:=aa (eX.out.trans hfr);replace bP:Hid (B<=x7.heap.size):=aa (ai bP.out hb.size);replace eP:=aa cS;clear cS hb hfr;go_wp2_with fail;go_roundw
    case rel=>exact⟨1,by go_num,hlt,aa (by rw[HM.out];simpa using eP.out),eD,eX,HW,bP⟩
    case measure=>simp[intOf];omega
   have Rs:(((j:Nat):Int)==0)=false:=beq_eq_false_iff_ne.2 (by omega);clear Ru;obtain⟨⟨g0,g1,g2,g3,g4⟩,ux,uw,uv,uu,ur⟩:=ay wZ.out;go_wp2_with fail;refine (lH B b (L++p_ ks j) [44,32] x5 eP.out (by rw[dB];have h3:=E_.out;have h4:=congrArg cW HM.out;rw[dB,dB] at h4;have h5:=AD.out;simp only[dB,jo,qE] at *;omega) bP.out).mono ?_;rintro e x6 ⟨⟨v,rfl⟩,cS,hb,hfr⟩;clear g0 ux g1 uw g2 uv g3 uu g4 ur;replace wZ:=aa (hfr _ _ _ _ wZ.out (by decide) (by decide));replace HW:=aa (HW.out.trans (hb.mono gA.out));replace eD:=aa (eD.out.trans hb);replace eX:=aa (eX.out.trans hfr);replace bP:Hid (B<=x6.heap.size):=aa (ai bP.out hb.size);replace eP:=aa cS;clear cS hb hfr
   obtain⟨⟨g0,g1,g2,g3,g4⟩,ux,uw,uv,uu,ur⟩:=ay wZ.out;clear c0 c1 c2 c3 c4;go_wp2_with fail;refine (Pw.out w0 x6 _ kd B b (L++p_ ks j++[44,32]) Px.out HT.out (FI.out kd y8.out) (EU.out kd y8.out) gA.out HW.out eP.out bP.out (by rw[dB,dB];have h3:=E_.out;have h4:=congrArg cW HM.out;rw[dB,dB] at h4;have h5:=AD.out;simp only[dB,jo,qE] at *;omega)).mono ?_;rintro e x7 ⟨⟨v,rfl⟩,cS,hb,hfr⟩;clear g0 ux g1 uw g2 uv g3 uu g4 ur;replace HW:=aa (HW.out.trans (hb.mono gA.out));replace eD:=aa (eD.out.trans hb);replace eX:=aa (eX.out.trans hfr);replace bP:Hid (B<=x7.heap.size):=aa (ai bP.out hb.size);replace eP:=aa cS;clear cS hb hfr;go_wp2_with fail;go_roundw
   case rel=>exact⟨j+1,by go_num,hlt,aa (by rw[HM.out];simpa using eP.out),eD,eX,HW,bP⟩
   case measure=>simp[intOf];omega
  have B9:j=kl:=by omega
  have Pv:Hid (p_ ks j++[41]=jG ks):=aa (by have h4:=vM ks (by rw[<-HN.out];omega);rw[<-HN.out,<-B9] at h4;exact h4);clear B9;go_wp2_with fail;refine (mX B b (L++p_ ks j) 41 41 rfl wl eP.out (by rw[dB];have h3:=congrArg cW Pv.out;rw[dB] at h3;have h5:=AD.out;omega) bP.out).mono ?_;rintro e x5 ⟨⟨v,rfl⟩,cS,hb,hfr⟩;replace eD:=aa (eD.out.trans hb);replace eX:=aa (eX.out.trans hfr);replace bP:Hid (B<=x5.heap.size):=aa (ai bP.out hb.size);replace eP:=aa cS;clear cS hb hfr;go_wp2_with fail;go_end0;exact⟨⟨_,rfl⟩,by rw[Pp.out,<-Pv.out,<-aS];exact eP.out,eD.out,eX.out⟩
theorem BG (HQ:pR) (d:Nat) (IH:ri d) (w0 w:af) (v:ak) (t:F) (B b:Nat) (l:Bs) (ho:t.op≠0/\t.op≠1/\t.op≠8/\t.op≠14) (Hu:t.num≠0) (hks:t.kids.length≠0):FC w0 tS (d+1) v t->vG w0->rt t=true->Tg (d+1) t->w0.heap.size<=B->aB w0.heap.size w0 w->pX B b l w->B<=w.heap.size->l.length+(g_ t).length<=1000000 ->
  aV aj 67 #[.pointer (some ⟨b,0,none⟩),v] w (ox B b (l++g_ t) w):=by
 intro hf ht pT CH hB gq cS hBw hlen;obtain⟨b2,ao,la,c,ko,kl,kc,rfl,⟨-,hz,kU,hkc,hkm⟩,-,hk⟩:=hf.open;obtain⟨o,z,nm,ks⟩:=t;simp only[F.op,F.num,F.name,F.kids] at hz hk kU ho Hu hks ⊢;rw[show d+1 - 1=d from rfl] at hk;obtain⟨hfit,rM⟩:=gU pT;have zT:=iu hfit;obtain⟨hnm,wm,hz0,-,uk⟩:=CH;simp only[F.op,F.num,F.name,F.kids] at hnm wm hz0 uk;have uI:kc<=9223372036854775807:=hkm;have Ii:kl<=9223372036854775807:=ai hkc hkm;have lg:l.length+((wd o).length+((jw o z).length+((jR nm).length+(jG ks).length)))<=1000000:=by have h:=hlen;rw[g_,dB,dB,dB] at h;omega
 have HN:=aa kU;have HX:=aa hk;have HZ:=aa hz;have HT:=aa ht;have EU:=aa uk;have FI:=aa rM;have ou:=aa lg;have Pw:=aa IH;have BB:=aa zT;have gA:=aa hB;have HW:=aa gq;have eP:=aa cS;have bP:Hid (B<=w.heap.size):=aa hBw;have eD:=aa (ax B w);have eX:=aa (w_.refl w);have tX:Hid (g_ (.node o z nm ks)=wd o++(jw o z++(jR nm++jG ks))):=aa (by rw[g_]);clear hf ht pT hB gq cS hBw hlen lg kU hk hz rM uk HQ IH;have tC:nm=⟨#[]⟩:=kG (by omega) hnm;subst tC;have FJ:Hid (jR ⟨#[]⟩=[]):=aa rfl;have Rm:(o==0)=false:=beq_eq_false_iff_ne.2 (by omega);have yS:Hid (jw o z=32::jb z):=aa (if_pos (.inr Hu));obtain⟨Tu,KX⟩:∃ s,s=dQ z:=⟨_,rfl⟩
 have hsn:(Tu==0)=false:=beq_eq_false_iff_ne.2 (by rw[KX];unfold dQ;(repeat' split)<;>omega);have L8:Hid (dQ z=Tu):=aa KX.symm;clear KX;have hkp:kl≠0:=by rw[HN.out];exact hks
 have hkb:(((kl:Nat):Int)==0)=false:=beq_eq_false_iff_ne.2 (by omega);clear hks;clear hfit hnm wm hz0 zT hkc hkm;clear ho Hu;go_enter Tryz.func67,Tryz.ntmps67;obtain⟨x1,kf,ef,ki,cn,jC,aG⟩:=aW w #[.int .i64 o,.bool b2,.slice ao la c,.string ⟨#[]⟩,.slice ko kl kc] 29;replace HW:=aa (HW.out.trans (cn.out.mono HW.out.size));replace eP:=aa (eP.out.below cn.out);replace eD:=aa (dU eD.out bP.out cn.out);replace eX:=aa (eX.out.trans (dH cn.out));replace bP:=aa (ai bP.out cn.out.size);obtain⟨⟨c0,c1,c2,c3,c4⟩,dN,dY,dX,dW,dO⟩:=ay aG.out;go_wp2_with fail;refine (sK o BB.out.1 BB.out.2 x1 (HT.out.below HW.out)).mono ?_;rintro e x2 ⟨rfl,hb⟩;clear c0 dN c1 dY c2 dX c3 dW c4 dO;replace aG:=bM hb aG
 replace HW:=aa (HW.out.trans (hb.mono HW.out.size));replace eP:=aa (eP.out.below hb);replace eD:=aa (dU eD.out bP.out hb);replace eX:=aa (eX.out.trans (dH hb));replace bP:=aa (ai bP.out hb.size);clear hb;go_wp2_with fail;refine (lH B b l (wd o) x2 eP.out (by have:=ou.out;omega) bP.out).mono ?_;rintro e x3 ⟨⟨v,rfl⟩,cS,hb,hfr⟩;replace aG:=aa (hfr _ _ _ _ aG.out (by decide) (by decide));replace HW:=aa (HW.out.trans (hb.mono gA.out));replace eD:=aa (eD.out.trans hb);replace eX:=aa (eX.out.trans hfr);replace bP:Hid (B<=x3.heap.size):=aa (ai bP.out hb.size);replace eP:=aa cS;clear cS hb hfr;obtain⟨⟨c0,c1,c2,c3,c4⟩,dN,dY,dX,dW,dO⟩:=ay aG.out;go_wp2_with fail
 refine (fB _ z 600 x3 ((HZ.out.below HW.out).gi) (by decide)).mono ?_;rintro e x4 ⟨rfl,hb⟩;clear c0 dN c1 dY c2 dX c3 dW c4 dO;replace aG:=bM hb aG;replace HW:=aa (HW.out.trans (hb.mono HW.out.size));replace eP:=aa (eP.out.below hb);replace eD:=aa (dU eD.out bP.out hb);replace eX:=aa (eX.out.trans (dH hb));replace bP:=aa (ai bP.out hb.size);clear hb;rw[L8.out];obtain⟨⟨c0,c1,c2,c3,c4⟩,dN,dY,dX,dW,dO⟩:=ay aG.out;go_wp2_with fail;refine (mX B b (l++wd o) 32 32 rfl x4 eP.out (by have:=ou.out;have h3:=yS.out;rw[h3] at this;rw[dB];simp only[jo] at this;omega) bP.out).mono ?_;rintro e x5 ⟨⟨v,rfl⟩,cS,hb,hfr⟩;clear c0 dN c1 dY c2 dX c3 dW c4 dO
 replace aG:=aa (hfr _ _ _ _ aG.out (by decide) (by decide));replace HW:=aa (HW.out.trans (hb.mono gA.out));replace eD:=aa (eD.out.trans hb);replace eX:=aa (eX.out.trans hfr);replace bP:Hid (B<=x5.heap.size):=aa (ai bP.out hb.size);replace eP:=aa cS;clear cS hb hfr;obtain⟨⟨c0,c1,c2,c3,c4⟩,dN,dY,dX,dW,dO⟩:=ay aG.out;go_wp2_with fail;refine (uQ _ z 600 x5 (HT.out.below HW.out).M7 ((HZ.out.below HW.out).gi) (by decide)).mono ?_;rintro e x6 ⟨rfl,hb⟩;clear c0 dN c1 dY c2 dX c3 dW c4 dO;replace aG:=bM hb aG;replace HW:=aa (HW.out.trans (hb.mono HW.out.size));replace eP:=aa (eP.out.below hb);replace eD:=aa (dU eD.out bP.out hb);replace eX:=aa (eX.out.trans (dH hb))
 replace bP:=aa (ai bP.out hb.size);clear hb;go_wp2_with fail;refine (lH B b (l++wd o++[32]) (jb z) x6 eP.out (by have:=ou.out;have h3:=yS.out;rw[h3] at this;rw[dB,dB];simp only[jo,qE] at this ⊢;omega) bP.out).mono ?_;rintro e x7 ⟨⟨v,rfl⟩,cS,hb,hfr⟩;replace aG:=aa (hfr _ _ _ _ aG.out (by decide) (by decide));replace HW:=aa (HW.out.trans (hb.mono gA.out));replace eD:=aa (eD.out.trans hb);replace eX:=aa (eX.out.trans hfr);replace bP:Hid (B<=x7.heap.size):=aa (ai bP.out hb.size);replace eP:=aa cS;clear cS hb hfr;obtain⟨⟨c0,c1,c2,c3,c4⟩,dN,dY,dX,dW,dO⟩:=ay aG.out;go_wp2_with fail;clear c0 dN c1 dY c2 dX c3 dW c4 dO;obtain⟨L,hL⟩:∃ L,L=l++wd o++[32]++jb z:=⟨_,rfl⟩;rw[<-hL] at eP
 have Pp:Hid (l++g_ (.node o z ⟨#[]⟩ ks)=L++jG ks):=aa (by rw[tX.out,yS.out,FJ.out,hL];simp);have AD:Hid (L.length+(jG ks).length<=1000000):=aa (by have h3:=congrArg cW Pp.out;rw[dB,dB] at h3;have h4:=ou.out;have h5:=congrArg cW tX.out;rw[dB,dB,dB] at h5;omega);clear hL;replace eP:Hid (pX B b (L++p_ ks 0) x7):=aa (by rw[p9,dG];exact eP.out);go_loopw [44] (fun i wr=>∃ j:Nat,i=.int .i64 (j:Nat)/\j<=kl/\Hid (pX B b (L++p_ ks j) wr)/\Hid (aB B w wr)/\Hid (w_ w wr)/\Hid (aB w0.heap.size w0 wr)/\Hid (B<=wr.heap.size)) (fun i _=>kl - (intOf i).toNat)
 case atStart=>exact⟨0,rfl,ah _,eP,eD,eX,HW,bP⟩
 case round =>
  obtain⟨wl,KS⟩:∃ q,q=wr:=⟨_,rfl⟩;subst KS;clear eP eD eX HW bP;obtain⟨j,rfl,hj,eP,eD,eX,HW,bP⟩:=hrel;by_cases hlt:j<kl
  ·have rX:j<ks.length:=by rw[<-HN.out];exact hlt
   have Fg:=aa rX;obtain⟨m,Ib,yV⟩:=xq ks j rX;have HM:=aa Ib;have Eh:=C5 ks (j+1) rX (by omega);have E_:=aa Eh;have hin:(ks[j]'rX) ∈ ks:=bS rX;have y8:=aa hin;obtain⟨kd,wA⟩:∃ y,y=(ks[j]'rX):=⟨_,rfl⟩;rw[<-wA] at HM y8;have Zi:Hid (kd=ks[j]'Fg.out):=aa wA;obtain⟨a,bb,qo,ql,qc,po,pl,pc,rfl,tF,Il⟩:=HX.out.cells j rX;rw[<-wA] at tF Il;obtain⟨x,uh⟩:∃ x,x=kd.op:=⟨_,rfl⟩;obtain⟨ym,Hv⟩:∃ x,x=kd.name:=⟨_,rfl⟩;rw[<-uh,<-Hv] at tF Il;have Px:=aa Il;obtain⟨c0,c1,c2,c3,c4⟩:=tF;rw[<-HW.out.cell (cj c0)] at c0;rw[<-HW.out.cell (cj c1)] at c1;rw[<-HW.out.cell (cj c2)] at c2;rw[<-HW.out.cell (cj c3)] at c3;rw[<-HW.out.cell (cj c4)] at c4
   clear Ib Eh hin wA Il uh Hv rX;obtain⟨x8,k7,e7,UL,xe,Ue,wZ⟩:=aW wl #[.int .i64 x,.bool bb,.slice qo ql qc,.string ym,.slice po pl pc] 29;replace HW:=aa (HW.out.trans (xe.out.mono HW.out.size));replace eP:=aa (eP.out.below xe.out);replace eD:=aa (dU eD.out bP.out xe.out);replace eX:=aa (eX.out.trans (dH xe.out));replace bP:=aa (ai bP.out xe.out.size);rcases yV with ⟨rfl,rfl⟩ | ⟨Ru,rfl⟩
   ·simp only[Nat.zero_mul,JQ] at c0 c1 c2 c3 c4;obtain⟨⟨g0,g1,g2,g3,g4⟩,ux,uw,uv,uu,ur⟩:=ay wZ.out;go_wp2_with fail;refine (mX B b (L++p_ ks 0) 40 40 rfl x8 eP.out (by rw[dB];have h3:=E_.out;have h4:=congrArg cW HM.out;rw[dB,dB] at h4;have h5:=AD.out;simp only[dB,jo,qE] at *;omega) bP.out).mono ?_;rintro e x9 ⟨⟨v,rfl⟩,cS,hb,hfr⟩;clear g0 ux g1 uw g2 uv g3 uu g4 ur;replace wZ:=aa (hfr _ _ _ _ wZ.out (by decide) (by decide));replace HW:=aa (HW.out.trans (hb.mono gA.out));replace eD:=aa (eD.out.trans hb);replace eX:=aa (eX.out.trans hfr);replace bP:Hid (B<=x9.heap.size):=aa (ai bP.out hb.size);replace eP:=aa cS;clear cS hb hfr;obtain⟨⟨g0,g1,g2,g3,g4⟩,ux,uw,uv,uu,ur⟩:=ay wZ.out
    clear c0 c1 c2 c3 c4;go_wp2_with fail;refine (Pw.out w0 x9 _ kd B b (L++p_ ks 0++[40]) Px.out HT.out (FI.out kd y8.out) (EU.out kd y8.out) gA.out HW.out eP.out bP.out (by rw[dB,dB];have h3:=E_.out;have h4:=congrArg cW HM.out;rw[dB,dB] at h4;have h5:=AD.out;simp only[dB,jo,qE] at *;omega)).mono ?_;rintro e MS ⟨⟨v,rfl⟩,cS,hb,hfr⟩;clear g0 ux g1 uw g2 uv g3 uu g4 ur;replace HW:=aa (HW.out.trans (hb.mono gA.out));replace eD:=aa (eD.out.trans hb);replace eX:=aa (eX.out.trans hfr);replace bP:Hid (B<=MS.heap.size):=aa (ai bP.out hb.size);replace eP:=aa cS;clear cS hb hfr;go_wp2_with fail;go_roundw
    case rel=>exact⟨1,by go_num,hlt,aa (by rw[HM.out];simpa using eP.out),eD,eX,HW,bP⟩
    case measure=>simp[intOf];omega
   have Rs:(((j:Nat):Int)==0)=false:=beq_eq_false_iff_ne.2 (by omega);clear Ru;obtain⟨⟨g0,g1,g2,g3,g4⟩,ux,uw,uv,uu,ur⟩:=ay wZ.out;go_wp2_with fail;refine (lH B b (L++p_ ks j) [44,32] x8 eP.out (by rw[dB];have h3:=E_.out;have h4:=congrArg cW HM.out;rw[dB,dB] at h4;have h5:=AD.out;simp only[dB,jo,qE] at *;omega) bP.out).mono ?_;rintro e x9 ⟨⟨v,rfl⟩,cS,hb,hfr⟩;clear g0 ux g1 uw g2 uv g3 uu g4 ur;replace wZ:=aa (hfr _ _ _ _ wZ.out (by decide) (by decide));replace HW:=aa (HW.out.trans (hb.mono gA.out));replace eD:=aa (eD.out.trans hb);replace eX:=aa (eX.out.trans hfr);replace bP:Hid (B<=x9.heap.size):=aa (ai bP.out hb.size);replace eP:=aa cS;clear cS hb hfr
   obtain⟨⟨g0,g1,g2,g3,g4⟩,ux,uw,uv,uu,ur⟩:=ay wZ.out;clear c0 c1 c2 c3 c4;go_wp2_with fail;refine (Pw.out w0 x9 _ kd B b (L++p_ ks j++[44,32]) Px.out HT.out (FI.out kd y8.out) (EU.out kd y8.out) gA.out HW.out eP.out bP.out (by rw[dB,dB];have h3:=E_.out;have h4:=congrArg cW HM.out;rw[dB,dB] at h4;have h5:=AD.out;simp only[dB,jo,qE] at *;omega)).mono ?_;rintro e MS ⟨⟨v,rfl⟩,cS,hb,hfr⟩;clear g0 ux g1 uw g2 uv g3 uu g4 ur;replace HW:=aa (HW.out.trans (hb.mono gA.out));replace eD:=aa (eD.out.trans hb);replace eX:=aa (eX.out.trans hfr);replace bP:Hid (B<=MS.heap.size):=aa (ai bP.out hb.size);replace eP:=aa cS;clear cS hb hfr;go_wp2_with fail;go_roundw
   case rel=>exact⟨j+1,by go_num,hlt,aa (by rw[HM.out];simpa using eP.out),eD,eX,HW,bP⟩
   case measure=>simp[intOf];omega
  have B9:j=kl:=by omega
  have Pv:Hid (p_ ks j++[41]=jG ks):=aa (by have h4:=vM ks (by rw[<-HN.out];omega);rw[<-HN.out,<-B9] at h4;exact h4);clear B9;go_wp2_with fail;refine (mX B b (L++p_ ks j) 41 41 rfl wl eP.out (by rw[dB];have h3:=congrArg cW Pv.out;rw[dB] at h3;have h5:=AD.out;omega) bP.out).mono ?_;rintro e x8 ⟨⟨v,rfl⟩,cS,hb,hfr⟩;replace eD:=aa (eD.out.trans hb);replace eX:=aa (eX.out.trans hfr);replace bP:Hid (B<=x8.heap.size):=aa (ai bP.out hb.size);replace eP:=aa cS;clear cS hb hfr;go_wp2_with fail;go_end0;exact⟨⟨_,rfl⟩,by rw[Pp.out,<-Pv.out,<-aS];exact eP.out,eD.out,eX.out⟩
theorem BF (HQ:pR) (d:Nat) (IH:ri d) (w0 w:af) (v:ak) (t:F) (B b:Nat) (l:Bs) (ho:t.op≠0/\t.op≠1/\t.op≠8/\t.op≠14) (Hu:t.num=0) (hks:t.kids.length=0):FC w0 tS (d+1) v t->vG w0->rt t=true->Tg (d+1) t->w0.heap.size<=B->aB w0.heap.size w0 w->pX B b l w->B<=w.heap.size->l.length+(g_ t).length<=1000000 ->
  aV aj 67 #[.pointer (some ⟨b,0,none⟩),v] w (ox B b (l++g_ t) w):=by
 intro hf ht pT CH hB gq cS hBw hlen;obtain⟨b2,ao,la,c,ko,kl,kc,rfl,⟨-,hz,kU,hkc,hkm⟩,-,hk⟩:=hf.open;obtain⟨o,z,nm,ks⟩:=t;simp only[F.op,F.num,F.name,F.kids] at hz hk kU ho Hu hks ⊢;rw[show d+1 - 1=d from rfl] at hk;obtain⟨hfit,rM⟩:=gU pT;have zT:=iu hfit;obtain⟨hnm,wm,hz0,-,uk⟩:=CH;simp only[F.op,F.num,F.name,F.kids] at hnm wm hz0 uk;have uI:kc<=9223372036854775807:=hkm;have Ii:kl<=9223372036854775807:=ai hkc hkm;have lg:l.length+((wd o).length+((jw o z).length+((jR nm).length+(jG ks).length)))<=1000000:=by have h:=hlen;rw[g_,dB,dB,dB] at h;omega
 have HN:=aa kU;have HZ:=aa hz;have HT:=aa ht;have ou:=aa lg;have BB:=aa zT;have gA:=aa hB;have HW:=aa gq;have eP:=aa cS;have bP:Hid (B<=w.heap.size):=aa hBw;have eD:=aa (ax B w);have eX:=aa (w_.refl w);have tX:Hid (g_ (.node o z nm ks)=wd o++(jw o z++(jR nm++jG ks))):=aa (by rw[g_]);clear hf ht pT hB gq cS hBw hlen lg kU hk hz rM uk HQ IH;have tC:nm=⟨#[]⟩:=kG (by omega) hnm;subst tC;have FJ:Hid (jR ⟨#[]⟩=[]):=aa rfl;have Rm:(o==0)=false:=beq_eq_false_iff_ne.2 (by omega);subst Hu;have yS:Hid (jw o 0=[]):=aa (if_neg (by omega));have L8:Hid (dQ 0=0):=aa rfl;have Ij:ks=[]:=dJ hks;have Pu:Hid (jG ks=[]):=aa (by rw[Ij];rfl)
 have Ei:kl=0:=by rw[HN.out,hks]
 subst Ei;clear Ij hks;clear hfit hnm wm hz0 zT hkc hkm;clear ho;go_enter Tryz.func67,Tryz.ntmps67;obtain⟨x1,kf,ef,ki,cn,jC,aG⟩:=aW w #[.int .i64 o,.bool b2,.slice ao la c,.string ⟨#[]⟩,.slice ko 0 kc] 29;replace HW:=aa (HW.out.trans (cn.out.mono HW.out.size));replace eP:=aa (eP.out.below cn.out);replace eD:=aa (dU eD.out bP.out cn.out);replace eX:=aa (eX.out.trans (dH cn.out));replace bP:=aa (ai bP.out cn.out.size);obtain⟨⟨c0,c1,c2,c3,c4⟩,dN,dY,dX,dW,dO⟩:=ay aG.out;go_wp2_with fail;refine (sK o BB.out.1 BB.out.2 x1 (HT.out.below HW.out)).mono ?_;rintro e x2 ⟨rfl,hb⟩;clear c0 dN c1 dY c2 dX c3 dW c4 dO;replace aG:=bM hb aG;replace HW:=aa (HW.out.trans (hb.mono HW.out.size))
 replace eP:=aa (eP.out.below hb);replace eD:=aa (dU eD.out bP.out hb);replace eX:=aa (eX.out.trans (dH hb));replace bP:=aa (ai bP.out hb.size);clear hb;go_wp2_with fail;refine (lH B b l (wd o) x2 eP.out (by have:=ou.out;omega) bP.out).mono ?_;rintro e x3 ⟨⟨v,rfl⟩,cS,hb,hfr⟩;replace aG:=aa (hfr _ _ _ _ aG.out (by decide) (by decide));replace HW:=aa (HW.out.trans (hb.mono gA.out));replace eD:=aa (eD.out.trans hb);replace eX:=aa (eX.out.trans hfr);replace bP:Hid (B<=x3.heap.size):=aa (ai bP.out hb.size);replace eP:=aa cS;clear cS hb hfr;obtain⟨⟨c0,c1,c2,c3,c4⟩,dN,dY,dX,dW,dO⟩:=ay aG.out;go_wp2_with fail
 refine (fB _ 0 600 x3 ((HZ.out.below HW.out).gi) (by decide)).mono ?_;rintro e x4 ⟨rfl,hb⟩;clear c0 dN c1 dY c2 dX c3 dW c4 dO;replace aG:=bM hb aG;replace eP:=aa (eP.out.below hb);replace eD:=aa (dU eD.out bP.out hb);replace eX:=aa (eX.out.trans (dH hb));clear hb;rw[L8.out];obtain⟨⟨c0,c1,c2,c3,c4⟩,dN,dY,dX,dW,dO⟩:=ay aG.out;go_wp2_with fail;go_end0;exact⟨⟨_,rfl⟩,by rw[tX.out,yS.out,FJ.out,Pu.out];simpa using eP.out,eD.out,eX.out⟩
theorem sI (HQ:pR):∀ d:Nat,ri d
 | 0=>by
  intro w0 w v t B b l h;obtain⟨_,_,_,_,_,_,_,_,_,h0,_⟩:=h.open
  omega
 | d+1=>by
  intro w0 w v t B b l h1 h2 h3 h4 h5 h6 h7 h8 h9;have IH:=sI HQ d
  by_cases e0:t.op=0
  ·exact zg HQ d IH w0 w v t B b l e0 h1 h2 h3 h4 h5 h6 h7 h8 h9
  by_cases e1:t.op=1\/t.op=8\/t.op=14
  ·exact zh HQ d IH w0 w v t B b l e1 h1 h2 h3 h4 h5 h6 h7 h8 h9
  have e2:t.op≠0/\t.op≠1/\t.op≠8/\t.op≠14:=by omega
  by_cases e3:t.num=0
  ·by_cases e4:t.kids.length=0
   ·exact BF HQ d IH w0 w v t B b l e2 e3 e4 h1 h2 h3 h4 h5 h6 h7 h8 h9
   exact BD HQ d IH w0 w v t B b l e2 e3 e4 h1 h2 h3 h4 h5 h6 h7 h8 h9
  by_cases e4:t.kids.length=0
  ·exfalso
   obtain⟨o,z,nm,ks⟩:=t;have hn:=h4.2.2.1;have hf:=(gU h3).1;simp only[F.op,F.num,F.kids] at hn e2 e3 e4;have hks:ks=[]:=dJ e4;subst hks
   have XW:o=3\/o=5:=by
    by_cases a3:o=3
    ·exact .inl a3
    by_cases a5:o=5
    ·exact .inr a5
    exact absurd (hn e2.1 a3 a5) e3
   rcases XW with rfl | rfl<;>simp[dw,bK,di] at hf
  exact BG HQ d IH w0 w v t B b l e2 e3 e4 h1 h2 h3 h4 h5 h6 h7 h8 h9
end Go.Proofs.YtoncclhbdkjhmaaGreatDoor
namespace Go.Proofs
open Go.Shelf
def Tryz.mN:Go.Shelf.Ren:=⟨fun | 177=>117 | 250=>165 | 289=>193 | 197=>206 | 323=>207 | 260=>223 | 339=>224 | 340=>225 | 242=>226 | 119=>227 | 345=>235 | 346=>236 | 278=>237 | n=>n,fun | 9=>9 | 5=>5 | 4=>4 | 3=>3 | 37=>99 | 21=>21 | 105=>244 | 46=>183 | 119=>267 | 0=>0 | 139=>270 | 138=>269 | 49=>271 | 234=>272 | 131=>179 | 51=>153 | 236=>23 | n=>n,fun | 3=>4 | 4=>5 | 20=>6 | 21=>7 | 22=>8 | 23=>9 | 24=>10 | n=>n⟩
theorem Tryz.th:Go.Proofs.Lays.n177 aj Tryz.mN:={
 mixed:=by kernel_rfl
 f119:=Tryz.func227.trans (congrArg some (by kernel_rfl))
 f177:=Tryz.func117.trans (congrArg some (by kernel_rfl))
 f197:=Tryz.func206.trans (congrArg some (by kernel_rfl))
 f242:=Tryz.func226.trans (congrArg some (by kernel_rfl))
 f250:=Tryz.func165.trans (congrArg some (by kernel_rfl))
 f260:=Tryz.func223.trans (congrArg some (by kernel_rfl))
 f278:=Tryz.func237.trans (congrArg some (by kernel_rfl))
 f289:=Tryz.func193.trans (congrArg some (by kernel_rfl))
 f323:=Tryz.func207.trans (congrArg some (by kernel_rfl))
 f339:=Tryz.func224.trans (congrArg some (by kernel_rfl))
 f340:=Tryz.func225.trans (congrArg some (by kernel_rfl))
 f345:=Tryz.func235.trans (congrArg some (by kernel_rfl))
 f346:=Tryz.func236.trans (congrArg some (by kernel_rfl))
 t0:=Tryz.underlying0
 a0:=Tryz.isAgg0
 z0:=Tryz.sizeOf0
 v0:=Tryz.zeroValue0
 t3:=Tryz.underlying3
 a3:=Tryz.isAgg3
 z3:=Tryz.sizeOf3
 v3:=Tryz.zeroValue3
 t4:=Tryz.underlying4
 a4:=Tryz.isAgg4
 z4:=Tryz.sizeOf4
 v4:=Tryz.zeroValue4
 t5:=Tryz.underlying5
 a5:=Tryz.isAgg5
 z5:=Tryz.sizeOf5
 v5:=Tryz.zeroValue5
 t9:=Tryz.underlying9
 a9:=Tryz.isAgg9
 z9:=Tryz.sizeOf9
 v9:=Tryz.zeroValue9
 t21:=Tryz.underlying21
 a21:=Tryz.isAgg21
 z21:=Tryz.sizeOf21
 v21:=Tryz.zeroValue21
 t37:=Tryz.underlying99
 a37:=Tryz.isAgg99
 z37:=Tryz.sizeOf99
 v37:=Tryz.zeroValue99
 t46:=Tryz.underlying183
 a46:=Tryz.isAgg183
 z46:=Tryz.sizeOf183
 v46:=Tryz.zeroValue183
 t49:=Tryz.underlying271
 a49:=Tryz.isAgg271
 z49:=Tryz.sizeOf271
 v49:=Tryz.zeroValue271
 t51:=Tryz.underlying153
 a51:=Tryz.isAgg153
 z51:=Tryz.sizeOf153
 v51:=Tryz.zeroValue153
 t105:=Tryz.underlying244
 a105:=Tryz.isAgg244
 z105:=Tryz.sizeOf244
 v105:=Tryz.zeroValue244
 t119:=Tryz.underlying267
 a119:=Tryz.isAgg267
 z119:=Tryz.sizeOf267
 t131:=Tryz.underlying179
 a131:=Tryz.isAgg179
 z131:=Tryz.sizeOf179
 v131:=Tryz.zeroValue179
 t138:=Tryz.underlying269
 a138:=Tryz.isAgg269
 z138:=Tryz.sizeOf269
 v138:=Tryz.zeroValue269
 t139:=Tryz.underlying270
 a139:=Tryz.isAgg270
 z139:=Tryz.sizeOf270
 v139:=Tryz.zeroValue270
 t234:=Tryz.underlying272
 a234:=Tryz.isAgg272
 z234:=Tryz.sizeOf272
 v234:=Tryz.zeroValue272
 t236:=Tryz.underlying23
 a236:=Tryz.isAgg23
 z236:=Tryz.sizeOf23
 v236:=Tryz.zeroValue23
 g3:=by kernel_rfl
 g4:=by kernel_rfl
 g20:=by kernel_rfl
 g21:=by kernel_rfl
 g22:=by kernel_rfl
 g23:=by kernel_rfl
 g24:=by kernel_rfl }
open Go.RowKit in
theorem Tryz.sQ (T:Lib.PrintTabs) (s:ByteArray) (w:af) (hlen:10*s.size+12<=140737488355328) (hT:Lib.PrintTabsAt 6 7 8 9 T w) (hU:Lib.Utf8Tabs 4 5 w) :
  aV aj 117 #[.string s] w fun e w'=>e=.returned (.string (strOfNums (Lib.quoteZ T s)))/\aB w.heap.size w w':=Any.strconv_Quote Tryz.th (by kernel_rfl) T s w hlen hT hU
end Go.Proofs
namespace Go.Proofs.YtoncclhbdkjhmaaGreatDoor
open Go.RowKit
set_option maxRecDepth 100000
set_option linter.unusedVariables false
set_option linter.unusedSimpArgs false
theorem MU (o:Int) (h0:0<=o) (h1:o<=20):wd o ≠ []:=by
 have:o=0\/o=1\/o=2\/o=3\/o=4\/o=5\/o=6\/o=7\/o=8\/o=9\/o=10\/o=11\/o=12\/o=13\/o=14\/o=15\/o=16\/o=17\/o=18\/o=19\/o=20:=by omega
 rcases this with rfl | rfl | rfl | rfl | rfl | rfl | rfl | rfl | rfl | rfl | rfl | rfl | rfl | rfl | rfl | rfl | rfl | rfl | rfl | rfl | rfl<;>decide
theorem MX {t:F} (h:rt t=true):g_ t ≠ []:=by
 obtain⟨o,z,nm,ks⟩:=t;have hr:=iu (gU h).1;rw[g_];intro e;exact MU o hr.1 hr.2 (List.append_eq_nil_iff.1 e).1
theorem Gz:pR:=by
 intro nm h w ht;refine (Tryz.sQ Lib.goPrintTabs nm w ?_ ht.GD ht.QT).mono ?_
 ·have:=h.sz;have e:nm.size=nm.data.toList.length:=by rw[Array.length_toList];rfl
  rw[e];omega
 rintro e w' ⟨rfl,hb⟩;exact⟨by rw[Gy _ nm h.pl],hb⟩
theorem vN (d:Nat) (v:ak) (t:F) (S:Nat->Prop) (w:af) (h:FC w S d v t) (pT:rt t=true) (CH:Tg d t) (Xd:(g_ t).length<=900000) (ht:vG w) :
  aV aj 19 #[v] w fun e w'=>e=.returned (.string ⟨(g_ t).toArray⟩)/\aB w.heap.size w w':=by
 have HF:=aa (h.mono (S':=tS) (fun _ _=>trivial));obtain⟨b,ao,l,c,ko,kl,kc,rfl,-,-,-⟩:=h.open;obtain⟨o,CJ⟩:∃ o,o=t.op:=⟨_,rfl⟩;obtain⟨nm,hnm⟩:∃ o,o=t.name:=⟨_,rfl⟩;rw[<-CJ,<-hnm] at HF ⊢;have Pg:=aa pT;have YP:=aa CH;have HT:=aa ht;have AD:Hid (([]:Bs).length+(g_ t).length<=1000000):=aa (by simp only[qE];omega);clear h pT CH ht Xd CJ hnm;have HW:=aa (ax w.heap.size w);go_enter Tryz.func19,Tryz.ntmps19;obtain⟨x1,kf,ef,ki,cn,jC,aG⟩:=aW w #[.int .i64 o,.bool b,.slice ao l c,.string nm,.slice ko kl kc] 29;replace HW:=aa (HW.out.trans (cn.out.mono HW.out.size));obtain⟨x2,ku,eu,Yf,Up,Xw,ZE⟩:=aW x1 #[.pointer none,.slice none 0 0] 109;replace aG:=bM Up.out aG
 replace HW:=aa (HW.out.trans (Up.out.mono HW.out.size));have SR:Hid (w.heap.size<=ku):=aa (ai cn.out.size Xw.out);have eP:Hid (pX ku ku [] x2):=aa (by rw[<-eu,<-Yf];exact pX.fresh x1);have bP:Hid (ku<=x2.heap.size):=aa (Nat.le_of_lt (lt_of_block ZE.out));obtain⟨⟨c0,c1,c2,c3,c4⟩,dN,dY,dX,dW,dO⟩:=ay aG.out;go_wp2_with fail;refine (sI Gz d w x2 _ t ku ku [] HF.out HT.out Pg.out YP.out SR.out HW.out eP.out bP.out AD.out).mono ?_;rintro e x3 ⟨⟨v,rfl⟩,cS,hb,-⟩;clear c0 dN c1 dY c2 dX c3 dW c4 dO;rw[dh] at cS;have Tk:=aa cS;have SC:=aa (HW.out.trans (hb.mono SR.out));clear cS hb;go_wp2_with fail;refine (Cq ku ku (g_ t) x3 Tk.out (MX Pg.out)).mono ?_;rintro e x4 ⟨rfl,hb⟩
 have YH:=aa (SC.out.trans (hb.mono SR.out));clear hb;go_wp2_with fail;go_ret;exact⟨rfl,YH.out⟩
end Go.Proofs.YtoncclhbdkjhmaaGreatDoor
namespace Go.Proofs.YtoncclhbdkjhmaaGreatDoor
open Go.RowKit Go.Maps Go.MapKept Go.ChangeMaps Go.WideShapes Go.WideMaps
open Go.WideElems (Fit rd rg pl rd_val rd_key rg_of elemAt)
set_option maxRecDepth 100000
set_option linter.unusedVariables false
def Dj (v:ak):Option (DataW ak × List MemPlace):=some (.held v,[])
def JN (s:Bs):ak:=.string ⟨s.toArray⟩
def iz (P:lB) (k:aZ) (w:af) (b:Nat) (m:Bs->Option ak):Prop:=
 ∃ n D,w.ownsMap P k Dj b n D/\∀ s:Bs,s.length<=bn->(m s=none->has D (.string s)=false)/\∀ v,m s=some v->has D (.string s)=true/\∀ z,D.atKey (.string s) z=.held v
def I7 (m:Bs->Option ak) (n:Nat):Prop:=∃ L:List Bs,L.length<=n/\∀ x,(m x).isSome->x ∈ L
section
variable {P:lB} {k:aZ} {w:af} {b:Nat} {m:Bs->Option ak}
theorem DP (hk:P.underlying k=some .string) {s:Bs} (hs:s.length<=bn):keyOf P k (JN s)=some (.string s):=by
 unfold JN;rw[keyOf_string_mk hk (show (⟨s.toArray⟩:ByteArray).size<=bn from hs)]
theorem tj (s:Bs):WideAt.IsKeyLit (.string s):=trivial
theorem zz {s t:Bs} (h:t≠s):(Lit.string t)≠(Lit.string s):=fun e=>h (by injection e)
theorem iz.keep {w':af} (h:iz P k w b m) (hb:w'.heap[b]?=w.heap[b]?):iz P k w' b m:=by
 obtain⟨n,D,⟨es,clock,h1,h2⟩,h3⟩:=h;exact⟨n,D,⟨es,clock,hb.trans h1,h2⟩,h3⟩
theorem iz.lt (h:iz P k w b m):b<w.heap.size:=by obtain⟨n,D,h1,-⟩:=h;exact h1.lt
theorem iz.made (w:af) (P:lB) (k:aZ):iz P k (w.alloc (.map #[] 0)) w.heap.size (fun _=>none):=
 ⟨0,_,World.ownsMap_made w P k Dj,fun s hs=>⟨fun _=>rfl,fun v h=>by cases h⟩⟩
theorem iz.look_ok {t e:aZ} (h:iz P k w b m) (hk:P.underlying k=some .string) (ht:P.underlying t=some (.map k e)) {z:ak} (hz:(zeroValue e).run P w=.ok z w) {s:Bs} (hs:s.length<=bn) :
  (Instr.lookup t (.map (some b)) (JN s) true).run P w=.ok (.tuple #[(m s).getD z,.bool (m s).isSome]) w:=by
 obtain⟨n,D,h1,h3⟩:=h;obtain⟨v,ps,hr,hv⟩:=h1.look_ok (string_keyed hk) ht hz (zd:=.held z) (zp:=[]) rfl (DP hk hs);rw[hr];obtain⟨q1,q2⟩:=h3 s hs;unfold Dj at hv;simp only[Option.some.injEq,Prod.mk.injEq] at hv;cases hm:m s with
 | none =>
  rw[q1 hm];have e1:=atKey_of_not_has (q1 hm) (.held z);rw[e1] at hv;obtain⟨hv,-⟩:=hv;injection hv with hv;rw[hv];rfl
 | some u =>
  obtain⟨a1,a2⟩:=q2 u hm;rw[a1];rw[a2] at hv;obtain⟨hv,-⟩:=hv;injection hv with hv;rw[hv];rfl
theorem u_:∀ {A B:List Bs},A.Pairwise (· ≠ ·)->(∀ x ∈ A,x ∈ B)->A.length<=B.length
 | [],B,_,_=>ah _
 | a::A,B,hp,hs=>by
  obtain⟨h1,h2⟩:=List.pairwise_cons.1 hp;have hB:a ∈ B:=hs a (by simp);have:=u_ (A:=A) (B:=B.erase a) h2 fun x hx=>(List.mem_erase_of_ne (fun e=>h1 x hx e.symm)).2 (hs x (by simp[hx]))
  rw[List.length_erase_of_mem hB] at this;have hpos:0<B.length:=List.length_pos_of_mem hB;simp only[jo];omega
theorem DE {es:Array MapEntry} {clock n:Nat} {D:DataW ak} (hk:P.underlying k=some .string) (F:Fit P k Dj es clock) (hD:D=.map ((es.toList.map (rg P k Dj)).foldr DataW.insert [])) (hm:∀ s:Bs,s.length<=bn->(m s=none->has D (.string s)=false))
  (hd:I7 m n):es.size<=n:=by
 obtain⟨L,hL,hx⟩:=hd;have hkey:∀ x ∈ es.toList,∃ s:Bs,s.length<=bn/\x.key=JN s/\(rg P k Dj x).1=.string s:=by
  intro x hx;obtain⟨y,hy⟩:=F.reads x hx;have h1:=rd_key hy;rw[keyOf_string hk] at h1;rw[rg_of hy];cases hv:x.key<;>simp[mapKey,hk,hv] at h1
  rename_i s;refine⟨s.data.toList,h1.1,?_,h1.2.symm⟩;unfold JN;rfl
 have hin:∀ x ∈ es.toList,∀ s,(rg P k Dj x).1=.string s->s.length<=bn->s ∈ L:=by
  intro x W7 s hs hl;refine hx s ?_;cases Rp:m s with
  | some v=>rfl
  | none =>
   have h0:=hm s hl Rp;rw[hD,has_eq] at h0;have hmem:rg P k Dj x ∈ (es.toList.map (rg P k Dj)).foldr DataW.insert []:=(WideShapes.sorted_perm _).mem_iff.2 (List.mem_map_of_mem W7);have:=List.any_eq_false.1 h0 _ hmem;rw[hs,WideAt.sameKey_self (tj s)] at this;exact absurd rfl this
 have hp:=Maps.fit_apart (string_keyed hk) F;let g:MapEntry->Bs:=fun x=>match (rg P k Dj x).1 with | .string s=>s | _=>[]
 have h1:(es.toList.map g).Pairwise (· ≠ ·):=by
  rw[List.pairwise_map] at hp ⊢;refine List.Pairwise.imp_of_mem ?_ hp;intro a c ha hc hne e;obtain⟨s,-,-,hs⟩:=hkey a ha;obtain⟨t,-,-,ht⟩:=hkey c hc;simp only[g,hs,ht] at e;exact hne (by rw[hs,ht,e])
 have h2:∀ x ∈ es.toList.map g,x ∈ L:=by
  intro x Hw;obtain⟨y,hy,rfl⟩:=List.mem_map.1 Hw;obtain⟨s,hl,-,hs⟩:=hkey y hy;simp only[g,hs];exact hin y hy s hs hl
 have:=u_ h1 h2;simp only[List.length_map,Array.length_toList] at this;omega
theorem iz.update {t e:aZ} (h:iz P k w b m) (hk:P.underlying k=some .string) (ht:P.underlying t=some (.map k e)) {n:Nat} (hd:I7 m n) (hn:n<bn) {s:Bs} (hs:s.length<=bn) (v:ak) :
  ∃ w',(Instr.mapUpdate t (.map (some b)) (JN s) v).run P w=.ok () w'/\iz P k w' b (fun x=>if x=s then some v else m x)/\w.grownBy w' (some b):=by
 obtain⟨n',D,⟨es,clock,hb,F,hsz,hD⟩,h3⟩:=h;have hle:=DE hk F hD (fun s hs=>(h3 s hs).1) hd;have ho:w.ownsMap P k Dj b n D:=⟨es,clock,hb,F,hle,hD⟩;obtain⟨w',h1,h2,h4⟩:=ho.update (string_keyed hk) ht hn (DP hk hs) (d:=.held v) (ps:=[]) rfl;refine⟨w',h1,⟨_,_,h2,fun x hx=>?_⟩,h4⟩;dsimp only;by_cases hxs:x=s
 ·subst hxs;rw[if_pos rfl];refine⟨fun h=>(by cases h),fun u hu=>?_⟩;injection hu with hu;subst hu;exact⟨has_put_same ho.isMap (tj _) _,fun z=>atKey_put_same ho.isMap (tj _) _ z⟩
 rw[if_neg hxs];obtain⟨q1,q2⟩:=h3 x hx;refine⟨fun h=>by rw[has_put_other (zz hxs)];exact q1 h,fun u hu=>?_⟩;rw[has_put_other (zz hxs)];exact⟨(q2 u hu).1,fun z=>by rw[atKey_put_other (zz hxs)];exact (q2 u hu).2 z⟩
end
section
variable {P:lB} (w:af) {ops:Array Oper} {rest:List Oper} {o:Oper} {a:Act} {Q:Exit->Act->af->Prop}
theorem sJ (hg:o.guard=none) (m x:Operand) (t:aZ) (hop:o.op=Op.lookup t m x true) (k e:aZ) (hk:P.underlying k=some .string) (ht:P.underlying t=some (.map k e)) {z:ak} (hz:(zeroValue e).run P w=.ok z w) (b:Nat) (M:Bs->Option ak)
  (hm:a.eval m=.map (some b)) (h:iz P k w b M) (s:Bs) (hx:a.eval x=.string ⟨s.toArray⟩) (hs:s.length<=bn)
  (hK:wpList P ops Q rest (a.put o.dst (.tuple #[(M s).getD z,.bool (M s).isSome])) w):wpList P ops Q (o::rest) a w:=by
 refine wpList_plain hg fun K' RS=>?_
 have hrun:=h.look_ok hk ht hz hs;unfold JN at hrun;unfold Oper.wp;simp[execOp,hop,hm,hx,hrun,Result.andThen];exact RS _ _ hK
theorem BH (hg:o.guard=none) (m x v:Operand) (t:aZ) (hop:o.op=Op.mapUpdate t m x v) (k e:aZ) (hk:P.underlying k=some .string) (ht:P.underlying t=some (.map k e)) (b:Nat) (M:Bs->Option ak)
  (hm:a.eval m=.map (some b)) (h:iz P k w b M) {n:Nat} (hd:I7 M n) (hn:n<bn) (s:Bs) (hx:a.eval x=.string ⟨s.toArray⟩) (hs:s.length<=bn) (u:ak) (hv:a.eval v=u)
  (hK:∀ w',iz P k w' b (fun x=>if x=s then some u else M x)->w.grownBy w' (some b)->wpList P ops Q rest (a.put o.dst undef) w'):wpList P ops Q (o::rest) a w:=by
 refine wpList_plain hg fun K' RS=>?_
 obtain⟨w',hrun,r1,r2⟩:=h.update hk ht hd hn hs u;unfold JN at hrun;unfold Oper.wp;simp[execOp,hop,hm,hx,hv,hrun,Result.andThen];exact RS _ _ (hK w' r1 r2)
end
end Go.Proofs.YtoncclhbdkjhmaaGreatDoor
namespace Go.Proofs.YtoncclhbdkjhmaaGreatDoor
open Go.RowKit
set_option maxRecDepth 100000
set_option linter.unusedVariables false
set_option linter.unusedSimpArgs false
def fo (o:Int) (ks:List F):F:=.node o 0 ⟨#[]⟩ ks
def nF (n:Int):F:=.node 0 n ⟨#[]⟩ []
def kd (x:F) (i:Nat):F:=x.kids.getD i (nF 0)
def cr (x:F):F:=fo 6 [x]
def sF (x:F):F:=fo 7 [x]
def Ga (x:F):F:=fo 11 [x]
def me (a b:F):F:=fo 10 [a,b]
def i_:F:=fo 9 []
def cN (a b:F):F:=fo 15 [a,b]
def bL (a b:F):F:=fo 16 [a,b]
def bH (a:F):F:=fo 17 [a]
def eZ (l:List F):F:=fo 19 l
def fe (a b:F):F:=fo 2 [a,b]
def ue (k:Int) (x:F):F:=.node 3 k ⟨#[]⟩ [x]
def dM (x:F):List F:=
 cN (nF 0) (cr x)::(if x.op=9 then [bL (cr x) (nF 0)] else if x.op=10 then [bL (cr x) (fe (cr (kd x 1)) (nF 1))] else [])
def iw (x:F):F:=eZ [bH (cN (cr x) (nF 0)),bL x i_]
def fb (l:F):F:=cN (nF 1) (cr l)
def jH (x l:F):List F:=
 [eZ [bH (fb l),bL (cr l) (fe (cr x) (nF 1))],eZ [fb l,bL x i_],eZ [bH (fb l),bL l (me (sF l) x)]]
def kF (x a b:F):List F:=
 [eZ [bH (cN (nF 0) a),bH (cN (nF 0) b),cN (nF 0) x],eZ [bH (cN a (nF 0)),bH (cN b (nF 0)),cN (nF 0) x],
  eZ [bH (cN (nF 0) a),bH (cN b (nF 0)),cN x (nF 0)],eZ [bH (cN a (nF 0)),bH (cN (nF 0) b),cN x (nF 0)],
  eZ [bH (bL a (nF 1)),bL x b],eZ [bH (bL b (nF 1)),bL x a]]
def cg (x:F):List F:=
 if x.op=8 then dM x++[iw x]
 else if x.op=9 then dM x
 else if x.op=10 then dM x++[bL (sF x) (kd x 0),bL (Ga x) (kd x 1)]
 else if x.op=11 then dM x++([iw x]++jH x (kd x 0))
 else if x.op=7 then [eZ [fb (kd x 0),bL x (nF 0)]]
 else if x.op=5 then [cN (ue x.num x) (kd x 0),cN (kd x 0) (fe (ue x.num x) (nF (x.num - 1)))]
 else if x.op=4 then kF x (kd x 0) (kd x 1)
 else []
open Classical in
mutual
noncomputable def jB (s:List F):F->List F
 | .node o z nm ks=>if F.node o z nm ks ∈ s then s else eC (s++[.node o z nm ks]) ks
noncomputable def eC (s:List F):List F->List F
 | []=>s
 | k::l=>eC (jB s k) l
end
def nb (t:F):Bool:=decide (cU t.op≠1)
noncomputable def uF (x:F):List F:=
 let s1:=jB [] x
 let a1:=(s1.filter nb).flatMap cg
 let s2:=eC s1 a1
 a1++((s2.drop s1.length).filter (fun t=>decide (cU t.op=2))).flatMap dM
mutual
def gT (P:F->Prop):F->Prop
 | .node o z nm ks=>P (.node o z nm ks)/\dI P ks
def dI (P:F->Prop):List F->Prop
 | []=>True
 | k::l=>gT P k/\dI P l
end
theorem dI.of {P:F->Prop}:∀ {l:List F},(∀ t ∈ l,gT P t)->dI P l
 | [],_=>by rw[dI];trivial
 | k::l,h=>by rw[dI];exact⟨h k (by simp),dI.of fun t ht=>h t (by simp[ht])⟩
mutual
theorem su {P:F->Prop}:∀ (t:F) (s:List F),(∀ x ∈ s,P x)->gT P t->(∀ x ∈ jB s t,P x)/\∃ m,jB s t=s++m
 | .node o z nm ks,s,hs,ht=>by
  rw[gT] at ht;rw[jB]
  split
  ·exact⟨hs,[],by simp⟩
  obtain⟨h1,m,h2⟩:=nN ks (s++[.node o z nm ks]) (fun x hx=>by
   rcases List.mem_append.1 hx with hx | hx
   ·exact hs x hx
   rw[aX] at hx;rw[hx];exact ht.1) ht.2
  exact⟨h1,[.node o z nm ks]++m,by rw[h2,aS]⟩
theorem nN {P:F->Prop}:∀ (l:List F) (s:List F),(∀ x ∈ s,P x)->dI P l->(∀ x ∈ eC s l,P x)/\∃ m,eC s l=s++m
 | [],s,hs,_=>by rw[eC];exact⟨hs,[],by simp⟩
 | k::l,s,hs,hl=>by
  rw[dI] at hl;rw[eC];obtain⟨h1,m1,h2⟩:=su k s hs hl.1;obtain⟨h3,m2,h4⟩:=nN l (jB s k) h1 hl.2;exact⟨h3,m1++m2,by rw[h4,h2,aS]⟩
end
theorem wC {ks:List F} {a:Int} (h:di ks=[a]):∃ k,ks=[k]/\cU k.op=a:=by
 unfold di at h;match ks,h with
 | [k],h=>exact⟨k,rfl,by simpa using h⟩
theorem mT {ks:List F} {a b:Int} (h:di ks=[a,b]):∃ k l,ks=[k,l]/\cU k.op=a/\cU l.op=b:=by
 unfold di at h;match ks,h with
 | [k,l],h=>simp at h;exact⟨k,l,rfl,h.1,h.2⟩
theorem gQ {o z:Int} {nm:ByteArray} {ks:List F} (h:rt (.node o z nm ks)=true):bK o (di ks)=true/\(o=5->1<=z)/\∀ k ∈ ks,rt k=true:=by
 rw[rt,dA,jn] at h;obtain⟨h1,h2⟩:=h;unfold dw at h1;rw[dA] at h1;refine⟨h1.1,fun e=>?_,List.all_eq_true.1 h2⟩;have:=h1.2;simp[e] at this;exact this
def iT (r:ByteArray->V) (y:F):Prop:=rt y=true/\cU y.op=1/\ev r y=.B true
theorem JI (r:ByteArray->V) (n:Int):ev r (nF n)=.I n:=rfl
theorem pG (r:ByteArray->V) (x:F):ev r (cr x)=.I ((oZ (ev r x)).length:Nat):=rfl
theorem OA (r:ByteArray->V) (x:F):ev r (sF x)=.I ((oZ (ev r x)).headD 0):=rfl
theorem Si (r:ByteArray->V) (x:F):ev r (Ga x)=.L (oZ (ev r x)).tail:=rfl
theorem LD (r:ByteArray->V) (x y:F):ev r (me x y)=.L (gJ (ev r x)::oZ (ev r y)):=rfl
theorem JH (r:ByteArray->V):ev r i_=.L []:=rfl
theorem Ci (r:ByteArray->V) (x y:F):ev r (cN x y)=.B (decide (gJ (ev r x)<=gJ (ev r y))):=rfl
theorem Am (r:ByteArray->V) (x y:F):ev r (bL x y)=.B (decide (ev r x=ev r y)):=rfl
theorem Bj (r:ByteArray->V) (x:F):ev r (bH x)=.B (!lz (ev r x)):=rfl
theorem ED (r:ByteArray->V) (x y:F):ev r (fe x y)=.I (gJ (ev r x)+gJ (ev r y)):=rfl
theorem Oy (r:ByteArray->V) (k:Int) (x:F):ev r (ue k x)=.I (k*gJ (ev r x)):=rfl
theorem yx (r:ByteArray->V) (x y:F):ev r (eZ [x,y])=.B (lz (ev r x) || lz (ev r y)):=by simp[eZ,fo,ev,EC,GM]
theorem Oz (r:ByteArray->V) (x y z:F):ev r (eZ [x,y,z])=.B (lz (ev r x) || (lz (ev r y) || lz (ev r z))):=by simp[eZ,fo,ev,EC,GM]
theorem xD {o z:Int} {x:F} (h5:o≠5) (hk:bK o [cU x.op]=true) (hx:rt x=true):rt (.node o z ⟨#[]⟩ [x])=true:=by
 rw[rt,rts,rts,hx];have e:dw o z (di [x])=true:=by unfold dw;rw[show di [x]=[cU x.op] from rfl,hk];simp[h5]
 rw[e];rfl
theorem xE {o z:Int} {x y:F} (h5:o≠5) (hk:bK o [cU x.op,cU y.op]=true) (hx:rt x=true) (hy:rt y=true):rt (.node o z ⟨#[]⟩ [x,y])=true:=by
 rw[rt,rts,rts,rts,hx,hy];have e:dw o z (di [x,y])=true:=by unfold dw;rw[show di [x,y]=[cU x.op,cU y.op] from rfl,hk];simp[h5]
 rw[e];rfl
theorem mG {x:F} (h:cU x.op=2) (hx:rt x=true):rt (cr x)=true:=xD (by decide) (by rw[h];rfl) hx
theorem Jg {x:F} (h:cU x.op=2) (hx:rt x=true):rt (sF x)=true:=xD (by decide) (by rw[h];rfl) hx
theorem M3 {x:F} (h:cU x.op=2) (hx:rt x=true):rt (Ga x)=true:=xD (by decide) (by rw[h];rfl) hx
theorem qL {x:F} (h:cU x.op=1) (hx:rt x=true):rt (bH x)=true:=xD (by decide) (by rw[h];rfl) hx
theorem Je {k:Int} {x:F} (h:cU x.op=0) (hx:rt x=true):rt (ue k x)=true:=xD (by decide) (by rw[h];rfl) hx
theorem pB {x y:F} (h:cU x.op=0) (k:cU y.op=0) (hx:rt x=true) (hy:rt y=true):rt (cN x y)=true:=xE (by decide) (by rw[h,k];rfl) hx hy
theorem zE {x y:F} (h:cU x.op=0) (k:cU y.op=0) (hx:rt x=true) (hy:rt y=true):rt (fe x y)=true:=xE (by decide) (by rw[h,k];rfl) hx hy
theorem Gv {x y:F} (h:cU x.op=0) (k:cU y.op=2) (hx:rt x=true) (hy:rt y=true):rt (me x y)=true:=xE (by decide) (by rw[h,k];rfl) hx hy
theorem pM {x y:F} (h:cU x.op=0) (k:cU y.op=0) (hx:rt x=true) (hy:rt y=true):rt (bL x y)=true:=xE (by decide) (by rw[h,k];rfl) hx hy
theorem vR {x y:F} (h:cU x.op=2) (k:cU y.op=2) (hx:rt x=true) (hy:rt y=true):rt (bL x y)=true:=xE (by decide) (by rw[h,k];rfl) hx hy
theorem Jf {l:List F} (h:∀ x ∈ l,cU x.op=1/\rt x=true):rt (eZ l)=true:=by
 show (dw 19 0 (di l) && rts l)=true
 rw[jn,dA];refine⟨?_,List.all_eq_true.2 fun x hx=>(h x hx).2⟩;unfold dw bK di;simp;exact fun x hx=>(h x hx).1
theorem sV {x y:F} (h:cU x.op=1) (k:cU y.op=1) (hx:rt x=true) (hy:rt y=true):rt (eZ [x,y])=true:=Jf fun z hz=>by
 simp only[aP,aK,or_false] at hz;rcases hz with rfl | rfl
 ·exact⟨h,hx⟩
 exact⟨k,hy⟩
theorem KA {x y z:F} (h:cU x.op=1) (k:cU y.op=1) (l:cU z.op=1) (hx:rt x=true) (hy:rt y=true) (hz:rt z=true):rt (eZ [x,y,z])=true:=Jf fun u hu=>by
 simp only[aP,aK,or_false] at hu;rcases hu with rfl | rfl | rfl
 ·exact⟨h,hx⟩
 ·exact⟨k,hy⟩
 exact⟨l,hz⟩
section
variable {r:ByteArray->V}
theorem DK {a b:F} (ha:cU a.op=0) (hb:cU b.op=0) (ra:rt a=true) (rb:rt b=true) (h:gJ (ev r a)<=gJ (ev r b)):iT r (cN a b):=
 ⟨pB ha hb ra rb,rfl,by rw[Ci];exact congrArg V.B (decide_eq_true h)⟩
theorem An {a b:F} (ha:cU a.op=0) (hb:cU b.op=0) (ra:rt a=true) (rb:rt b=true) (h:gJ (ev r a)=gJ (ev r b)):iT r (bL a b):=
 ⟨pM ha hb ra rb,rfl,by rw[Am,wF ha,wF hb,h];simp⟩
theorem LF {a b:F} (ha:cU a.op=2) (hb:cU b.op=2) (ra:rt a=true) (rb:rt b=true) (h:oZ (ev r a)=oZ (ev r b)):iT r (bL a b):=
 ⟨vR ha hb ra rb,rfl,by rw[Am,oM ha,oM hb,h];simp⟩
theorem qm {x:F} (hx:rt x=true) (hs:cU x.op=2):∀ y ∈ dM x,iT r y:=by
 obtain⟨o,z,nm,ks⟩:=x;have hp:=gQ hx;generalize ex:F.node o z nm ks=x at *;have eo:x.op=o:=by rw[<-ex];rfl
 have h1:iT r (cN (nF 0) (cr x)):=DK rfl rfl rfl (mG hs hx) (by rw[JI,pG];show (0:Int)<=_;simp only[gJ];omega);intro y hy;unfold dM at hy;rcases List.mem_cons.1 hy with rfl | hy
 ·exact h1
 rw[eo] at hy;split at hy
 ·rename_i h9;subst h9;have e:ks=[]:=by have:=hp.1;simpa [bK,di] using this
  rw[aX] at hy;subst hy;refine An rfl rfl (mG hs hx) rfl ?_;rw[pG,JI,<-ex,ev];rfl
 split at hy
 ·rename_i h10;subst h10;obtain⟨a,b,e,ha,hb⟩:=mT (by have:=hp.1;simpa [bK] using this);have hr:=hp.2.2;subst e;have wA:kd x 1=b:=by rw[<-ex];rfl
  rw[aX,wA] at hy;subst hy;have rb:=hr b (by simp);refine An rfl rfl (mG hs hx) (zE rfl rfl (mG hb rb) rfl) ?_;rw[pG,ED,pG,JI,<-ex,ev];show gJ (V.I ((gJ (ev r a)::oZ (ev r b)).length:Nat))=_
  simp[gJ]
 cases hy
theorem Bk {x:F} (hx:rt x=true) (hs:cU x.op=2):iT r (iw x):=by
 refine⟨sV rfl rfl (qL rfl (pB rfl rfl (mG hs hx) rfl)) (vR hs rfl hx rfl),rfl,?_⟩;unfold iw;rw[yx,Bj,Ci,Am,pG,JI,JH,oM hs];cases oZ (ev r x) with
 | nil=>rfl
 | cons a l =>
  have h:decide ((((a::l).length:Nat):Int)<=0)=false:=decide_eq_false (by rw[jo];omega);show V.B (!decide ((((a::l).length:Nat):Int)<=0) || _)=_
  rw[h];rfl
theorem Gj {l x:F} (hl:rt l=true) (hs:cU l.op=2) (hx:rt x=true) (Bb:cU x.op=2) (he:oZ (ev r x)=(oZ (ev r l)).tail):∀ y ∈ jH x l,iT r y:=by
 have rf:rt (fb l)=true:=pB rfl rfl rfl (mG hs hl);intro y hy;unfold jH at hy;simp only[aP,aK,or_false] at hy;rcases hy with rfl | rfl | rfl
 ·refine⟨sV rfl rfl (qL rfl rf) (pM rfl rfl (mG hs hl) (zE rfl rfl (mG Bb hx) rfl)),rfl,?_⟩;rw[yx,Bj,fb,Ci,Am,ED,pG,pG,JI,he];cases oZ (ev r l) with
  | nil=>simp[lz,gJ]
  | cons a l=>simp[lz,gJ]
 ·refine⟨sV rfl rfl rf (vR Bb rfl hx rfl),rfl,?_⟩;rw[yx,fb,Ci,Am,pG,JI,JH,oM Bb,he];cases oZ (ev r l) with
  | nil=>simp[lz,gJ]
  | cons a l =>
   have h:decide ((1:Int)<=(((a::l).length:Nat):Int))=true:=decide_eq_true (by rw[jo];omega);show V.B (decide ((1:Int)<=(((a::l).length:Nat):Int)) || _)=_
   rw[h];rfl
 refine⟨sV rfl rfl (qL rfl rf) (vR hs rfl hl (Gv rfl Bb (Jg hs hl) hx)),rfl,?_⟩;rw[yx,Bj,fb,Ci,Am,LD,pG,OA,JI,he,oM hs];cases oZ (ev r l) with
 | nil=>simp[lz,gJ,oZ]
 | cons a l=>simp[lz,gJ,oZ]
theorem Dl {a k:Int} (h:1<=k):k*Int.fdiv a k<=a/\a<=k*Int.fdiv a k+(k - 1):=by
 have h1:=Int.mul_fdiv_add_fmod a k;have h2:=Int.fmod_nonneg_of_pos a (show 0<k by omega);have h3:=Int.fmod_lt_of_pos a (show 0<k by omega)
 omega
theorem Dn {p q:F} (hp:cU p.op=1) (hq:cU q.op=1) (rp:rt p=true) (rq:rt q=true) (h:lz (ev r p)=true\/lz (ev r q)=true):iT r (eZ [p,q]):=
 ⟨sV hp hq rp rq,rfl,by rw[yx];rcases h with h | h<;>simp[h]⟩
theorem KG {p q s:F} (hp:cU p.op=1) (hq:cU q.op=1) (hs:cU s.op=1) (rp:rt p=true) (rq:rt q=true) (rs:rt s=true) (h:lz (ev r p)=true\/lz (ev r q)=true\/lz (ev r s)=true):iT r (eZ [p,q,s]):=
 ⟨KA hp hq hs rp rq rs,rfl,by rw[Oz];rcases h with h | h | h<;>simp[h]⟩
theorem ON (a b:F):(lz (ev r (cN a b))=true)=(gJ (ev r a)<=gJ (ev r b)):=by rw[Ci];simp[lz]
theorem LL (a:F):(lz (ev r (bH a))=true)=¬ (lz (ev r a)=true):=by rw[Bj];simp[lz]
theorem EN {a b:F} (ha:cU a.op=0) (hb:cU b.op=0):(lz (ev r (bL a b))=true)=(gJ (ev r a)=gJ (ev r b)):=by rw[Am,wF ha,wF hb];simp[lz,gJ]
theorem GF {x a b:F} (hx:rt x=true) (Bb:cU x.op=0) (ha:rt a=true) (My:cU a.op=0) (hb:rt b=true) (Mx:cU b.op=0) (he:gJ (ev r x)=gJ (ev r a)*gJ (ev r b)):∀ y ∈ kF x a b,iT r y:=by
 have z0:gJ (ev r (nF 0))=0:=rfl;have z1:gJ (ev r (nF 1))=1:=rfl;have L1:rt (cN (nF 0) a)=true:=pB rfl My rfl ha;have L2:rt (cN (nF 0) b)=true:=pB rfl Mx rfl hb;have L3:rt (cN (nF 0) x)=true:=pB rfl Bb rfl hx;have L4:rt (cN a (nF 0))=true:=pB My rfl ha rfl;have L5:rt (cN b (nF 0))=true:=pB Mx rfl hb rfl;have L6:rt (cN x (nF 0))=true:=pB Bb rfl hx rfl;have E1:rt (bL a (nF 1))=true:=pM My rfl ha rfl;have E2:rt (bL b (nF 1))=true:=pM Mx rfl hb rfl;have E3:rt (bL x b)=true:=pM Bb Mx hx hb;have E4:rt (bL x a)=true:=pM Bb My hx ha;have PT:∀ {p q s:F},cU p.op=1->cU q.op=1->cU s.op=1->rt p=true->rt q=true->rt s=true->((lz (ev r p)=true)->(lz (ev r q)=true)->(lz (ev r s)=true))->iT r (eZ [bH p,bH q,s]):=fun hp hq hs rp rq rs h =>
  KG rfl rfl hs (qL hp rp) (qL hq rq) rs (by
   rw[LL,LL];exact Classical.byCases (fun h1=>Classical.byCases (fun h2=>.inr (.inr (h h1 h2))) fun h2=>.inr (.inl h2)) fun h1=>.inl h1)
 have UQ:∀ {p s:F},cU p.op=1->cU s.op=1->rt p=true->rt s=true->((lz (ev r p)=true)->(lz (ev r s)=true))->iT r (eZ [bH p,s]):=fun hp hs rp rs h =>
  Dn rfl hs (qL hp rp) rs (by
   rw[LL];exact Classical.byCases (fun h1=>.inr (h h1)) fun h1=>.inl h1)
 intro y hy;unfold kF at hy;simp only[aP,aK,or_false] at hy;rcases hy with rfl | rfl | rfl | rfl | rfl | rfl
 ·refine PT rfl rfl rfl L1 L2 L3 fun h1 h2=>?_
  rw[ON,z0] at h1 h2 ⊢;rw[he];exact Int.mul_nonneg h1 h2
 ·refine PT rfl rfl rfl L4 L5 L3 fun h1 h2=>?_
  rw[ON,z0] at h1 h2 ⊢;rw[he];exact Int.mul_nonneg_of_nonpos_of_nonpos h1 h2
 ·refine PT rfl rfl rfl L1 L5 L6 fun h1 h2=>?_
  rw[ON,z0] at h1 h2 ⊢;rw[he];exact Int.mul_nonpos_of_nonneg_of_nonpos h1 h2
 ·refine PT rfl rfl rfl L4 L2 L6 fun h1 h2=>?_
  rw[ON,z0] at h1 h2 ⊢;rw[he];exact Int.mul_nonpos_of_nonpos_of_nonneg h1 h2
 ·refine UQ rfl rfl E1 E3 fun h1=>?_
  rw[EN My rfl,z1] at h1;rw[EN Bb Mx,he,h1,Int.one_mul]
 refine UQ rfl rfl E2 E4 fun h1=>?_
 rw[EN Mx rfl,z1] at h1;rw[EN Bb My,he,h1,Int.mul_one]
theorem yu {x:F} (hx:rt x=true):∀ y ∈ cg x,iT r y:=by
 obtain⟨o,z,nm,ks⟩:=x;have hp:=gQ hx;generalize ex:F.node o z nm ks=x at *;have eo:x.op=o:=by rw[<-ex];rfl
 have ez:x.num=z:=by rw[<-ex];rfl
 have Ox:ev r x=GM r o z nm (EC r ks):=by rw[<-ex,ev]
 intro y hy;unfold cg at hy;rw[eo] at hy;by_cases h8:o=8
 ·rw[if_pos h8] at hy;have hs:cU x.op=2:=by rw[eo,h8];rfl
  rcases List.mem_append.1 hy with hy | hy
  ·exact qm hx hs y hy
  rw[aX] at hy;rw[hy];exact Bk hx hs
 rw[if_neg h8] at hy;by_cases h9:o=9
 ·rw[if_pos h9] at hy;exact qm hx (by rw[eo,h9];rfl) y hy
 rw[if_neg h9] at hy;by_cases h10:o=10
 ·rw[if_pos h10] at hy;have hs:cU x.op=2:=by rw[eo,h10];rfl
  rcases List.mem_append.1 hy with hy | hy
  ·exact qm hx hs y hy
  subst h10;obtain⟨a,b,e,ha,hb⟩:=mT (by have:=hp.1;simpa [bK] using this);have hr:=hp.2.2;subst e;have k0:kd x 0=a:=by rw[<-ex];rfl
  have k1:kd x 1=b:=by rw[<-ex];rfl
  have ra:=hr a (by simp);have rb:=hr b (by simp);have e2:ev r x=.L (gJ (ev r a)::oZ (ev r b)):=Ox;rw[k0,k1] at hy;simp only[aP,aK,or_false] at hy;rcases hy with rfl | rfl
  ·exact An rfl ha (Jg hs hx) ra (by rw[OA,e2];rfl)
  exact LF rfl hb (M3 hs hx) rb (by rw[Si,e2];rfl)
 rw[if_neg h10] at hy;have one:∀ s:Int,bK o (di ks)=decide (di ks=[s])->∃ k,ks=[k]/\cU k.op=s/\rt k=true/\kd x 0=k:=fun s h=>by
  obtain⟨k,e,hk⟩:=wC (a:=s) (by have:=hp.1;rw[h] at this;exact of_decide_eq_true this);exact⟨k,e,hk,hp.2.2 k (by rw[e];simp),by rw[<-ex,e];rfl⟩
 by_cases h11:o=11
 ·rw[if_pos h11] at hy;have hs:cU x.op=2:=by rw[eo,h11];rfl
  obtain⟨l,e,hl,rl,k0⟩:=one 2 (by rw[h11];rfl);have e2:oZ (ev r x)=(oZ (ev r l)).tail:=by rw[Ox,h11,e];rfl
  rw[k0] at hy;rcases List.mem_append.1 hy with hy | hy
  ·exact qm hx hs y hy
  rcases List.mem_append.1 hy with hy | hy
  ·rw[aX] at hy;rw[hy];exact Bk hx hs
  exact Gj rl hl hx hs e2 y hy
 rw[if_neg h11] at hy;by_cases h7:o=7
 ·rw[if_pos h7] at hy;obtain⟨l,e,hl,rl,k0⟩:=one 2 (by rw[h7];rfl);have hs:cU x.op=0:=by rw[eo,h7];rfl
  have e2:gJ (ev r x)=(oZ (ev r l)).headD 0:=by rw[Ox,h7,e];rfl
  rw[k0,aX] at hy;subst hy;refine Dn rfl rfl (pB rfl rfl rfl (mG hl rl)) (pM hs rfl hx rfl) ?_;unfold fb;rw[ON,EN hs rfl,e2,pG];show (1:Int)<=((oZ (ev r l)).length:Nat)\/_=(0:Int)
  cases oZ (ev r l) with
  | nil=>exact .inr rfl
  | cons a q=>left;rw[jo];omega
 rw[if_neg h7] at hy;by_cases h5:o=5
 ·rw[if_pos h5] at hy;obtain⟨a,e,ha,ra,k0⟩:=one 0 (by rw[h5];rfl);have hs:cU x.op=0:=by rw[eo,h5];rfl
  have hz:=hp.2.1 h5;have e2:gJ (ev r x)=Int.fdiv (gJ (ev r a)) z:=by rw[Ox,h5,e];rfl
  have hq:=Dl (a:=gJ (ev r a)) hz;rw[k0,ez] at hy;simp only[aP,aK,or_false] at hy;rcases hy with rfl | rfl
  ·exact DK rfl ha (Je hs hx) ra (by rw[Oy,e2];exact hq.1)
  exact DK ha rfl ra (zE rfl rfl (Je hs hx) rfl) (by rw[ED,Oy,JI,e2];exact hq.2)
 rw[if_neg h5] at hy;by_cases h4:o=4
 ·rw[if_pos h4] at hy;subst h4;obtain⟨a,b,e,ha,hb⟩:=mT (by have:=hp.1;simpa [bK] using this);have hr:=hp.2.2;subst e;have k0:kd x 0=a:=by rw[<-ex];rfl
  have k1:kd x 1=b:=by rw[<-ex];rfl
  rw[k0,k1] at hy;exact GF hx (by rw[eo];rfl) (hr a (by simp)) ha (hr b (by simp)) hb (by rw[Ox];rfl) y hy
 rw[if_neg h4] at hy;cases hy
end
theorem DX:(Tryz.prog.info? 167).map (fun i=>(i.zero,i.size,i.bytes))=some (some (.agg #[.int .i64 0,.bool false,.slice none 0 0,.string ⟨#[]⟩,.slice none 0 0,.slice none 0 0,.bool false]),7,112):=by kernel_rfl
structure xk where
 u:FU
 ko:Option cu
 kl:Nat
 kc:Nat
 b:Bool
def GW (n:xk):List ak:=[.int .i64 n.u.k,.bool (decide (n.u.n.z<0)),.slice n.u.n.o n.u.n.l n.u.n.c,.string n.u.nm,.slice n.u.ko n.u.kl n.u.kc,.slice n.ko n.kl n.kc,.bool n.b]
def nR:El xk where
 e:=167
 t:=161
 n:=7
 b:=112
 z:=.agg #[.int .i64 0,.bool false,.slice none 0 0,.string ⟨#[]⟩,.slice none 0 0,.slice none 0 0,.bool false]
 f:=GW
 R _ _:=True
 ok _:=True
 pos:=by decide
 CP:=by decide
 zs:=rfl
 z32:=by intro u hu z;simp only[Value.cells,aP,aK,or_false] at hu;rcases hu with rfl | rfl | rfl | rfl | rfl | rfl | rfl<;>(intro h;cases h)
 ht:=Tryz.underlying161
 info:=DX
 len _:=rfl
 one n:=by
  intro u hu;simp only[GW,aP,aK,or_false] at hu;rcases hu with rfl | rfl | rfl | rfl | rfl | rfl | rfl<;>rfl
 n32 n:=by
  intro u hu z;simp only[GW,aP,aK,or_false] at hu;rcases hu with rfl | rfl | rfl | rfl | rfl | rfl | rfl<;>(intro h;cases h)
 fr _ _ _:=trivial
 own:=trivial
def tW (k:Nat) (w:af) (g:Nat):Prop:=k<g/\∃ a v,w.heap[k]?=some (.cells #[a,v] 163 (0,0))/\v.ownBlock=some g
def Own (B k:Nat) (w:af) (g:Nat):Prop:=
 B<=g/\((∃ es cl,w.heap[g]?=some (.map es cl))\/∃ c T,w.heap[g]?=some (.cells c T (0,0))/\(T=163\/(T=167/\tW k w g))/\lA c.toList)
structure cA (B k:Nat) (w w':af):Prop where
 os:w'.os=w.os
 tape:w'.tape=w.tape
 output:w'.output=w.output
 size:w.heap.size<=w'.heap.size
 block:∀ g,g<w.heap.size->¬ Own B k w g->w'.heap[g]?=w.heap[g]?
 row:∀ g,g<w.heap.size->tW k w' g->tW k w g
theorem cA.refl (B k:Nat) (w:af):cA B k w w:=⟨rfl,rfl,rfl,ag _,fun _ _ _=>rfl,fun _ _ h=>h⟩
theorem cA.no {B k:Nat} {w w':af} (h:cA B k w w') {g:Nat} (hg:g<w.heap.size) (hn:¬ Own B k w g):¬ Own B k w' g:=by
 rintro⟨hB,o⟩;refine hn ⟨hB,?_⟩;rw[h.block g hg hn] at o;rcases o with o | ⟨c,T,h1,h2 | ⟨h2,h3⟩,h4⟩
 ·exact .inl o
 ·exact .inr ⟨c,T,h1,.inl h2,h4⟩
 exact .inr ⟨c,T,h1,.inr ⟨h2,h.row g hg h3⟩,h4⟩
theorem cA.trans {B k0:Nat} {a b c:af} (h:cA B k0 a b) (k:cA B k0 b c):cA B k0 a c:=
 ⟨k.os.trans h.os,k.tape.trans h.tape,k.output.trans h.output,ai h.size k.size,
  fun g hg hn=>(k.block g (az hg h.size) (h.no hg hn)).trans (h.block g hg hn),
  fun g hg hr=>h.row g hg (k.row g (az hg h.size) hr)⟩
theorem nU {k:Nat} {w w':af} (h:k<w.heap.size->w'.heap[k]?=w.heap[k]?):∀ g,g<w.heap.size->tW k w' g->tW k w g:=by
 rintro g hg ⟨h1,a,v,h2,h3⟩;exact⟨h1,a,v,by rw[<-h (Nat.lt_trans h1 hg)];exact h2,h3⟩
theorem cA.aH {B k:Nat} {w w':af} (h:aB w.heap.size w w'):cA B k w w':=
 ⟨h.os,h.tape,h.output,h.size,fun g hg _=>h.block g hg,nU fun hk=>h.block k hk⟩
theorem cA.below {B k:Nat} {w w':af} (h:cA B k w w') (hB:B<=w.heap.size):aB B w w':=
 ⟨h.os,h.tape,h.output,h.size,fun g hg=>h.block g (az hg hB) (fun o=>by have:=o.1;omega)⟩
theorem cA.aI {B k:Nat} {w w':af} {r:Option Nat} (h:w.grownBy w' r) (ho:∀ g,r=some g->Own B k w g) (hk:some k≠r):cA B k w w':=
 ⟨h.os,h.tape,h.output,h.size,fun q hq hn=>h.block q hq (fun e=>hn (ho q e.symm)),nU fun hl=>h.block k hl hk⟩
theorem cA.kn {B k:Nat} {w w':af} (h:cA B k w w'):KN w w':=by
 intro a z hc;have hl:=World.block_lt_of_cell? w a hc;by_cases ho:Own B k w a.block
 ·exfalso;rcases ho.2 with ⟨es,cl,hm⟩ | ⟨c,T,hm,-,h32⟩
  ·unfold World.cell? at hc;rw[hm] at hc;simp at hc
  exact qz hm h32 rfl z hc
 rw[cM (h.block _ hl ho)];exact hc
def NO (B k:Nat) (w:af) (g:Nat):Prop:=¬ Own B k w g
def NS (B k:Nat) (E:Nat->Prop) (w:af) (g:Nat):Prop:=NO B k w g/\¬ E g
theorem FT.rz {B k:Nat} {E:Nat->Prop} {w w':af} {d:Nat} {u:FU} {t:F} (h:FT w (NS B k E w) d u t) (hk:cA B k w w'):FT w' (NS B k E w') d u t:=
 ((h.lt).keep (fun g hg=>hk.block g hg.2 hg.1.1) hk.kn).mono fun g hg=>⟨hk.no hg.2 hg.1.1,hg.1.2⟩
theorem FT.GR {k:Nat} {E:Nat->Prop} {S:Nat->Prop} {w0 w:af} {d:Nat} {u:FU} {t:F} (h:FT w0 S d u t) (hb:aB w0.heap.size w0 w) (hE:∀ g,E g->w0.heap.size<=g):FT w (NS w0.heap.size k E w) d u t:=
 ((h.lt).keep (fun g hg=>hb.block g hg.2) (KN.aH hb)).mono fun g hg=>⟨fun o=>by have:=o.1;omega,fun he=>by have:=hE g he;omega⟩
def IL (B k:Nat) (E:Nat->Prop) (w:af) (v:ak) (l:List Nat):Prop:=∃ ko kc,v=.slice ko l.length kc/\(l.length<=kc/\kc<=bn/\(ko=none->kc=0))/\∀ j (h:j<l.length),∃ a,ko=some a/\(NS B k E w a.block/\∃ c,w.heap[a.block]?=some (.cells c 116 (0,0)))/\w.cell? (a.add j)=some (.int .i64 ((l[j]:Nat):Int))
theorem IL.rz {B k:Nat} {E:Nat->Prop} {w w':af} {v:ak} {l:List Nat} (h:IL B k E w v l) (hk:cA B k w w'):IL B k E w' v l:=by
 obtain⟨ko,kc,e,h1,h2⟩:=h;refine⟨ko,kc,e,h1,fun j hj=>?_⟩;obtain⟨a,ha,hn,hc⟩:=h2 j hj;have hl:=World.block_lt_of_cell? w _ hc;rw[bX] at hl;have hs:=hk.block _ hl hn.1.1;exact⟨a,ha,⟨⟨hk.no hl hn.1.1,hn.1.2⟩,by obtain⟨c,nu⟩:=hn.2;exact⟨c,hs.trans nu⟩⟩,by rw[cM (w:=w) (by rw[bX];exact hs)];exact hc⟩
theorem IL.nil (B k:Nat) (E:Nat->Prop) (w:af):IL B k E w (.slice none 0 0) []:=⟨none,0,rfl,⟨ag _,ah _,fun _=>rfl⟩,fun j hj=>absurd hj (Nat.not_lt_zero j)⟩
theorem IL.block {B k g:Nat} {E:Nat->Prop} {T:aZ} {w:af} {cs:List ak} {l:List Nat} (h:w.heap[g]?=some (.cells cs.toArray T (0,0))) (hT:T=116/\T≠163/\T≠167) (hE:¬ E g) (hl:l.length<=bn) (hc:cs=l.map fun i=>.int .i64 ((i:Nat):Int)):IL B k E w (.slice (some ⟨g,0,none⟩) l.length l.length) l:=by
 refine⟨_,_,rfl,⟨ag _,hl,fun h=>by cases h⟩,fun j hj=>⟨_,rfl,⟨⟨?_,hE⟩,⟨_,by rw[<-hT.1];exact h⟩⟩,?_⟩⟩
 ·rintro⟨-,⟨es,cl,e⟩ | ⟨c,T',e,JC,-⟩⟩
  ·rw[show (⟨g,0,none⟩:cu).block=g from rfl,h] at e;cases e
  rw[show (⟨g,0,none⟩:cu).block=g from rfl,h] at e;injection e with e;injection e with _ e;rcases JC with rfl | ⟨rfl,-⟩
  ·exact hT.2.1 e
  exact hT.2.2 e
 rw[iR,Nat.zero_add,cell_of_row w g _ _ _ _ h,hc,kM,List.getElem?_map,List.getElem?_eq_getElem hj];rfl
end Go.Proofs.YtoncclhbdkjhmaaGreatDoor
