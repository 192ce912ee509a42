/-
 Joined texts: LgK,LgL,LgN,LgP,LgQ,LgR,LgS,LgT,LgV,LgW,LgBb,LgBc,KDgt,LgBe,FaTb,FaTc,ShelfC,LgBd,FaTd,FaP,FaM,FaA.
-/
import Derived.Lib.QuoteLoop
import Derived.Lib.PrintData
import Derived.Shelf.Unicode.DecodeSlow
import Derived.Lib.ItoaMem
import Derived.Laws.BytesArg
import Derived.Shelf.Strings.Builder1
import Derived.Shelf.Small.Utf8
import Derived.Shelf.Small.Bits
import Derived.Shelf.Small.Wraps
import Derived.Shelf.Strings.BuilderF
import Derived.Shelf.Strings.BuilderK
import Derived.Shelf.Utf8.AppendRune
import Derived.Shelf.Utf8.AppendRunePlain
import Derived.Shelf.Strconv.Bsearch
import Derived.Shelf.Strconv.IsPrint
import Derived.Shelf.Strconv.IsPrint16
import Derived.Shelf.Strconv.IsPrint32
import Derived.Shelf.Strconv.Escaped
import Derived.Shelf.Strconv.Quoted
import Derived.Shelf.Strconv.Quote
import Derived.Shelf.Strconv.Itoa0
import Derived.Shelf.Strconv.Itoa1
import Derived.Shelf.LaysM
import Derived.Shelf.Strconv.Itoa2
import Derived.Shelf.Strconv.Itoa3
import Derived.Shelf.Unicode.Decode
import Derived.Shelf.Unicode.DecodeAny
import Derived.Shelf.Strings.BuilderCap
import Derived.Shelf.Slices.Turned
import Derived.Ground.Names2Prog
import Derived.Shelf.Slices.SearchI
import Derived.Test.YtoncclhbdkjhmaaGreatDoorProg
import Derived.Maps.OwnSet
import Derived.Test.YtoncclhbdkjhmaaGreatDoorJFactsAre1
import Derived.Test.YtoncclhbdkjhmaaGreatDoorJFactsAre2
set_option maxHeartbeats 32000000
namespace Go.Proofs.YtoncclhbdkjhmaaGreatDoor
open Go.RowKit
set_option maxRecDepth 100000
set_option linter.unusedVariables false
set_option linter.unusedSimpArgs false
attribute [local go_sem] fieldV0 fieldV1 fieldV2 fieldV3
theorem n32_F {o:Int} {b:Bool} {ao:Option Addr} {l c:Nat} {nm:ByteArray} {ko:Option Addr} {kl kc:Nat}:N32 (#[Value.int .i64 o,.bool b,.slice ao l c,.string nm,.slice ko kl kc]:Array Value).toList:=by
 intro u hu z;simp only[List.mem_cons,List.not_mem_nil,or_false] at hu;rcases hu with rfl | rfl | rfl | rfl | rfl<;>(intro h;cases h)
attribute [local go_sem] fieldV0 fieldV1 fieldV2 fieldV3
attribute [local go_sem] fieldV0 fieldV1 fieldV2 fieldV3
theorem VC.shape {w:World} {v:Value} {x:V} (h:VC w v x):∃ k b o l c p m q,v=.agg #[.int .i64 k,.bool b,.slice o l c,.bool (asB x),.slice p m q]:=by
 cases x with
 | I z=>obtain⟨o,l,c,rfl,-⟩:=h.int;exact⟨_,_,_,_,_,_,_,_,rfl⟩
 | B b=>have:=h.bool;subst this;exact⟨_,_,_,_,_,_,_,_,rfl⟩
 | L l=>obtain⟨o,l',c,rfl,-⟩:=h.list;exact⟨_,_,_,_,_,_,_,_,rfl⟩
attribute [local go_sem] fieldV0 fieldV1 fieldV2 fieldV3
def tS:Nat->Prop:=fun _=>True
theorem FC.unit5 {w:World} {S:Nat->Prop} {d:Nat} {v0 v1 v2 v3 v4:Value} {t:F} (h:FC w S d (.agg #[v0,v1,v2,v3,v4]) t):∃ u:FU,fC u=[v0,v1,v2,v3,v4]/\FT w S d u t:=by
 obtain⟨u,e,h⟩:=h;refine⟨u,?_,h⟩;unfold fV at e;injection e with e;unfold fC;have:=congrArg Array.toList e
 simpa using this.symm
theorem FL.one {w:World} {S:Nat->Prop} {d g:Nat} {v0 v1 v2 v3 v4:Value} {t:F} (hB:w.heap[g]?=some (.cells #[v0,v1,v2,v3,v4] 29 (0,0))) (hS:S g) (h:FC w S d (.agg #[v0,v1,v2,v3,v4]) t):FL w S d (.slice (some ⟨g,0,none⟩) 1 1) [t]:=by
 obtain⟨u,hu,hT⟩:=h.unit5;refine⟨[(u,t)],⟨_,_,rfl,⟨Nat.le_refl _,by decide,fun h=>by cases h⟩,fun _ a ha=>by injection ha with ha;subst ha;exact hS,fun i hi=>?_⟩,rfl⟩;obtain rfl:i=0:=by simp at hi;omega
 refine⟨⟨_,rfl,fun j v hj=>?_⟩,hT⟩;have hj2:(fC u)[j]?=some v:=hj;rw[hu] at hj2;rw[add_litV,add_litV,show 0+0*(fE d).n+j=j by omega,cell_of_row w g _ _ _ _ hB];simpa using hj2
theorem res5F {w0 w:World} {k:Nat} {c:Array Value} (hb:Below w0.heap.size w0 w) (hB:w.heap[k]?=some (.cells c 29 (0,0))) (h32:N32 c.toList) (hk:w0.heap.size<=k) (v0 v1 v2 v3 v4:Value) :
  Fr 29 w (((((w.setCell ⟨k,0,none⟩ v0).setCell ⟨k,1,none⟩ v1).setCell ⟨k,2,none⟩ v2).setCell ⟨k,3,none⟩ v3).setCell ⟨k,4,none⟩ v4)/\Below w0.heap.size w0 (((((w.setCell ⟨k,0,none⟩ v0).setCell ⟨k,1,none⟩ v1).setCell ⟨k,2,none⟩ v2).setCell ⟨k,3,none⟩ v3).setCell ⟨k,4,none⟩ v4):=
 ⟨.of_grown (grown5V v0 v1 v2 v3 v4) (fun g hg=>by injection hg with hg;subst hg;exact⟨_,hB,h32⟩),hb.trans ((grown_belowV (grown5V v0 v1 v2 v3 v4) (Nat.le_of_lt (by have:=lt_of_block hB;omega)) hk).mono (Nat.le_refl _))⟩
def opVar (b:Int):Int:=if b=1 then 14 else if b=2 then 8 else 1
theorem var_p (nm:ByteArray) (b:Int) (w:World) :
  Calls Tryz.prog 28 #[.string nm,.int .i64 b] w fun e w'=>e=.returned (.agg #[.int .i64 (opVar b),.bool false,.slice none 0 0,.string nm,.slice none 0 0])/\Below w.heap.size w w':=by
 have hb:b=1\/b=2\/(b≠1/\b≠2):=by omega
 rcases hb with rfl | rfl | ⟨h1,h2⟩
 ·have HW:=Lib.hid (Below.refl w.heap.size w);go_enter Tryz.func28,Tryz.ntmps28;obtain⟨x1,kr,er,ekr,hbr,hkr,HBr⟩:=newV w #[.int .i64 0,.bool false,.slice none 0 0,.string ⟨#[]⟩,.slice none 0 0] 29;replace HW:=Lib.hid (HW.out.trans (hbr.out.mono HW.out.size));have HKr:Hid (w.heap.size<=kr):=hkr;obtain⟨⟨r0,r1,r2,r3,r4⟩,fr0,fr1,fr2,fr3,fr4⟩:=cells5V HBr.out;go_wp2_with fail;obtain⟨s1,s2⟩:=res5F HW.out HBr.out n32_F HKr.out (.int .i64 14) (.bool false) (.slice none 0 0) (.string nm) (.slice none 0 0);(try simp only[Exit.inBlock,Exit.then]);exact bodyPost_ret (v:=.agg #[.int .i64 14,.bool false,.slice none 0 0,.string nm,.slice none 0 0]) (by simp[results,Tryz.results28,go_sem,r0,r1,r2,r3,r4]) rfl ⟨rfl,s2⟩
 ·have HW:=Lib.hid (Below.refl w.heap.size w);go_enter Tryz.func28,Tryz.ntmps28;obtain⟨x1,kr,er,ekr,hbr,hkr,HBr⟩:=newV w #[.int .i64 0,.bool false,.slice none 0 0,.string ⟨#[]⟩,.slice none 0 0] 29;replace HW:=Lib.hid (HW.out.trans (hbr.out.mono HW.out.size));have HKr:Hid (w.heap.size<=kr):=hkr;obtain⟨⟨r0,r1,r2,r3,r4⟩,fr0,fr1,fr2,fr3,fr4⟩:=cells5V HBr.out;go_wp2_with fail;obtain⟨s1,s2⟩:=res5F HW.out HBr.out n32_F HKr.out (.int .i64 8) (.bool false) (.slice none 0 0) (.string nm) (.slice none 0 0);(try simp only[Exit.inBlock,Exit.then]);exact bodyPost_ret (v:=.agg #[.int .i64 8,.bool false,.slice none 0 0,.string nm,.slice none 0 0]) (by simp[results,Tryz.results28,go_sem,r0,r1,r2,r3,r4]) rfl ⟨rfl,s2⟩
 have HW:=Lib.hid (Below.refl w.heap.size w);have n1:(b==1)=false:=beq_eq_false_iff_ne.2 h1;have n2:(b==2)=false:=beq_eq_false_iff_ne.2 h2;have ho:opVar b=1:=by unfold opVar;rw[if_neg h1,if_neg h2]
 rw[ho];clear h1 h2 ho;go_enter Tryz.func28,Tryz.ntmps28;obtain⟨x1,kr,er,ekr,hbr,hkr,HBr⟩:=newV w #[.int .i64 0,.bool false,.slice none 0 0,.string ⟨#[]⟩,.slice none 0 0] 29;replace HW:=Lib.hid (HW.out.trans (hbr.out.mono HW.out.size));have HKr:Hid (w.heap.size<=kr):=hkr;obtain⟨⟨r0,r1,r2,r3,r4⟩,fr0,fr1,fr2,fr3,fr4⟩:=cells5V HBr.out;go_wp2_with fail;obtain⟨s1,s2⟩:=res5F HW.out HBr.out n32_F HKr.out (.int .i64 1) (.bool false) (.slice none 0 0) (.string nm) (.slice none 0 0);(try simp only[Exit.inBlock,Exit.then]);exact bodyPost_ret (v:=.agg #[.int .i64 1,.bool false,.slice none 0 0,.string nm,.slice none 0 0]) (by simp[results,Tryz.results28,go_sem,r0,r1,r2,r3,r4]) rfl ⟨rfl,s2⟩
theorem int_p (n:Int) (w:World) (h1 : -9223372036854775808<=n) (h2:n<=9223372036854775807) :
  Calls Tryz.prog 15 #[.int .i64 n] w fun e w'=>∃ b o l c,e=.returned (.agg #[.int .i64 0,.bool b,.slice o l c,.string ⟨#[]⟩,.slice none 0 0])/\CI w' (.agg #[.bool b,.slice o l c]) n 600/\Below w.heap.size w w':=by
 have HW:=Lib.hid (Below.refl w.heap.size w);go_enter Tryz.func15,Tryz.ntmps15;obtain⟨x1,kr,er,ekr,hbr,hkr,HBr⟩:=newV w #[.int .i64 0,.bool false,.slice none 0 0,.string ⟨#[]⟩,.slice none 0 0] 29;replace HW:=Lib.hid (HW.out.trans (hbr.out.mono HW.out.size));have HKr:Hid (w.heap.size<=kr):=hkr;go_wp2_with fail;refine (wof_any n x1 h1 h2).mono ?_;rintro e x2 ⟨x,rfl,hx,hb⟩;replace HBr:=kBV hb HBr;replace HW:=Lib.hid (HW.out.trans (hb.mono HW.out.size));obtain⟨b1,o1,l1,c1,rfl⟩:=hx.shape;have HV:=Lib.hid (hx.mono (k':=600) (by decide));clear hx;obtain⟨⟨r0,r1,r2,r3,r4⟩,fr0,fr1,fr2,fr3,fr4⟩:=cells5V HBr.out;go_wp2_with fail;obtain⟨s1,s2⟩:=res5F HW.out HBr.out n32_F HKr.out (.int .i64 0) (.bool b1) (.slice o1 l1 c1) (.string ⟨#[]⟩) (.slice none 0 0)
 (try simp only[Exit.inBlock,Exit.then]);exact bodyPost_ret (v:=.agg #[.int .i64 0,.bool b1,.slice o1 l1 c1,.string ⟨#[]⟩,.slice none 0 0]) (by simp[results,Tryz.results15,go_sem,r0,r1,r2,r3,r4]) rfl ⟨_,_,_,_,rfl,HV.out.fr s1,s2⟩
attribute [local go_sem] fieldV0 fieldV1 fieldV2 fieldV3
attribute [local go_sem] fieldV0 fieldV1 fieldV2 fieldV3
attribute [local go_sem] fieldV0 fieldV1 fieldV2 fieldV3
attribute [local go_sem] fieldV0 fieldV1 fieldV2 fieldV3
theorem El.Row.other2 {α:Type} {E:El α} {w w':World} {B g:Nat} {v:Value} {el:List α} (h:E.Row w B v el) (hg:w.grownBy w' (some g)) (hne:∀ j,v.ownBlock=some j->j≠g) {e:TypeId} (hf:Fr e w w') (hok:E.ok e):E.Row w' B v el:=by
 refine⟨?_,fun j hj=>?_,fun q hq=>E.fr hok hf (h.rd q hq)⟩
 ·rcases hr:v.ownBlock with _ | j
  ·exact World.ownsRow.kept h.own hg (.inl hr)
  exact World.ownsRow.kept h.own hg (.inr (by rw[hr];intro e;injection e with e;exact hne j hr e))
 obtain⟨c,hc,h32⟩:=h.n32 j hj;exact⟨c,(hg.block j (lt_of_block hc) (fun e=>by injection e with e;exact hne j hj e)).trans hc,h32⟩
theorem any_stepL {P:Program} {ops:Array Oper} {Q:Exit->Act->World->Prop} {fuel:Nat} {listed:Array Bool} {a:Act} {w:World} (R:List Nat) (hr:Region.ready .any ops listed=R) (hne:R ≠ [])
  (h:∀ i ∈ R,∃ o,ops[i]?=some o/\o.guard=none/\∀ K:Act->World->Prop,Hid (∀ a w,wpAny P .any ops Q fuel (listed.setIfInBounds i true) a w->K a w)->o.wp P a w K Q):wpAny P .any ops Q (fuel+1) listed a w:=by
 refine⟨fun h0=>absurd (hr.symm.trans h0) hne,fun i hi=>?_⟩;rw[hr] at hi;obtain⟨o,ho,hg,hk⟩:=h i hi;unfold wpOp;rw[ho];simp only[Region.wanted,hg,if_true];exact Or.inl (hk _ (Lib.hid fun _ _ h=>h))
def fR:El FU where
 e:=29
 t:=27
 n:=5
 b:=80
 z:=.agg #[.int .i64 0,.bool false,.slice none 0 0,.string ⟨#[]⟩,.slice none 0 0]
 f:=fC
 R _ _:=True
 ok _:=True
 pos:=by decide
 by_:=by decide
 zs:=rfl
 z32:=by intro u hu z;simp only[Value.cells,List.mem_cons,List.not_mem_nil,or_false] at hu;rcases hu with rfl | rfl | rfl | rfl | rfl<;>(intro h;cases h)
 ht:=Tryz.underlying27
 info:=infoForm
 len _:=rfl
 one n:=by
  intro u hu;simp only[fC,List.mem_cons,List.not_mem_nil,or_false] at hu;rcases hu with rfl | rfl | rfl | rfl | rfl<;>rfl
 n32 n:=by
  intro u hu z;simp only[fC,List.mem_cons,List.not_mem_nil,or_false] at hu;rcases hu with rfl | rfl | rfl | rfl | rfl<;>(intro h;cases h)
 fr _ _ _:=trivial
 own:=trivial
def zFU:FU:=⟨0,n0,⟨#[]⟩,none,0,0⟩
theorem set_flat5F (l:List FU) (i:Nat) (u:FU) (hi:i<l.length):(((((l.flatMap fC).set (i*5) (.int .i64 u.k)).set (i*5+1) (.bool (decide (u.n.z<0)))).set (i*5+2) (.slice u.n.o u.n.l u.n.c)).set (i*5+3) (.string u.nm)).set (i*5+4) (.slice u.ko u.kl u.kc)=(l.set i u).flatMap fC:=by
 induction l generalizing i with
 | nil=>simp at hi
 | cons b l ih =>
  cases i with
  | zero=>rfl
  | succ i =>
   have h1:=ih i (by simpa using hi);simp only[List.flatMap_cons,fC,List.cons_append,List.nil_append,List.set_cons_succ,Nat.add_mul,Nat.one_mul,show i*5+5=i*5+1+1+1+1+1 from rfl,show i*5+1+1+1+1+1+1=(i*5+1)+1+1+1+1+1 from rfl,show i*5+1+1+1+1+1+2=(i*5+2)+1+1+1+1+1 from rfl,show i*5+1+1+1+1+1+3=(i*5+3)+1+1+1+1+1 from rfl,show i*5+1+1+1+1+1+4=(i*5+4)+1+1+1+1+1 from rfl];rw[<-h1]
def putF (w:World) (g i:Nat) (u:FU):World:=((((w.setCell ⟨g,i*5,none⟩ (.int .i64 u.k)).setCell ⟨g,i*5+1,none⟩ (.bool (decide (u.n.z<0)))).setCell ⟨g,i*5+2,none⟩ (.slice u.n.o u.n.l u.n.c)).setCell ⟨g,i*5+3,none⟩ (.string u.nm)).setCell ⟨g,i*5+4,none⟩ (.slice u.ko u.kl u.kc)
theorem putF_grown (w:World) (g i:Nat) (u:FU):w.grownBy (putF w g i u) (some g):=by
 unfold putF;refine grown_setCell ?_ _;refine grown_setCell ?_ _;refine grown_setCell ?_ _;refine grown_setCell ?_ _;refine grown_setCell ?_ _;exact World.grownBy.refl _ _
theorem Row.setF {w:World} {B g n kc:Nat} {el:List FU} (h:fR.Row w B (.slice (some ⟨g,0,none⟩) n kc) el) (i:Nat) (hi:i<el.length) (hn:n=el.length) (u:FU) {w':World} (hw:w'=putF w g i u) :
  fR.Row w' B (.slice (some ⟨g,0,none⟩) n kc) (el.set i u)/\Fr fR.e w w':=by
 have hg:w.grownBy w' (some g):=by rw[hw];exact putF_grown w g i u
 unfold putF at hw;have h0:=h.own;rw[<-hn] at h0;have h1:=(World.ownsRow.stored (World.ownsRow.stored (World.ownsRow.stored (World.ownsRow.stored (World.ownsRow.stored h0 (i*5) (.int .i64 u.k)).1 (i*5+1) (.bool (decide (u.n.z<0)))).1 (i*5+2) (.slice u.n.o u.n.l u.n.c)).1 (i*5+3) (.string u.nm)).1 (i*5+4) (.slice u.ko u.kl u.kc)).1;have h2:=set_flat5F el i u hi;have e:fR.f=fC:=rfl;rw[e,h2,<-hw] at h1;obtain⟨c,hc,h32⟩:=h.n32 g rfl;have hc':=heap_setCell_same _ g (i*5+4) _ _ (.slice u.ko u.kl u.kc) (heap_setCell_same _ g (i*5+3) _ _ (.string u.nm) (heap_setCell_same _ g (i*5+2) _ _ (.slice u.n.o u.n.l u.n.c) (heap_setCell_same _ g (i*5+1) _ _ (.bool (decide (u.n.z<0))) (heap_setCell_same _ g (i*5) _ _ (.int .i64 u.k) hc))));rw[<-hw] at hc'
 exact h.put i u hg h1 ⟨_,hc',n32_set (n32_set (n32_set (n32_set (n32_set h32 _ (by intro z e;cases e)) _ (by intro z e;cases e)) _ (by intro z e;cases e)) _ (by intro z e;cases e)) _ (by intro z e;cases e)⟩ hn trivial
theorem Row.atF {w:World} {B g n kc:Nat} {el:List FU} (h:fR.Row w B (.slice (some ⟨g,0,none⟩) n kc) el) (hn:n=el.length) {i:Nat} (hi:i<el.length) :
  (w.cell? ⟨g,i*5,none⟩=some (.int .i64 el[i].k)/\w.cell? ⟨g,i*5+1,none⟩=some (.bool (decide (el[i].n.z<0)))/\w.cell? ⟨g,i*5+2,none⟩=some (.slice el[i].n.o el[i].n.l el[i].n.c)/\w.cell? ⟨g,i*5+3,none⟩=some (.string el[i].nm)/\w.cell? ⟨g,i*5+4,none⟩=some (.slice el[i].ko el[i].kl el[i].kc)) /\
  w.frozen? ⟨g,i*5,none⟩=false/\w.frozen? ⟨g,i*5+1,none⟩=false/\w.frozen? ⟨g,i*5+2,none⟩=false/\w.frozen? ⟨g,i*5+3,none⟩=false/\w.frozen? ⟨g,i*5+4,none⟩=false:=by
 obtain⟨c,hc,h32⟩:=h.n32 g rfl;have key:∀ j v,(fC el[i])[j]?=some v->w.cell? ⟨g,i*5+j,none⟩=some v:=by
  intro j v hj;have hj5:j<5:=by have:=(List.getElem?_eq_some_iff.1 hj).1;simpa [fC] using this
  have h0:=h.own;rw[<-hn] at h0;rw[World.ownsRow.cellAt h0 (i*5+j) (by show i*5+j<n*5;omega)];exact (flat_atV fR.f fR.len el i j hi hj5).trans hj
 exact⟨⟨key 0 _ rfl,key 1 _ rfl,key 2 _ rfl,key 3 _ rfl,key 4 _ rfl⟩,froz_at hc _,froz_at hc _,froz_at hc _,froz_at hc _,froz_at hc _⟩
theorem fR_append {w:World} {B:Nat} {v:Value} {us:List FU} (h:fR.Row w B v us) {o:Oper} {a:Act} {K:Act->World->Prop} {Q:Exit->Act->World->Prop} (s x:Operand)
  (ho:o.op=.call { callee:=.builtin .append,args:=#[s,x],argTypes:=#[27,27] }) (hs:a.eval s=v) (g:Nat) (u:FU) (hx:a.eval x=.slice (some ⟨g,0,none⟩) 1 1) (hB:w.heap[g]?=some (.cells (fC u).toArray 29 (0,0))) (hlen:us.length<=1000) (hb:B<=w.heap.size)
  (hK:∀ g' cap w',fR.Row w' B (.slice (some ⟨g',0,none⟩) (us.length+1) cap) (us++[u])->Fr fR.e w w'->Below B w w'->w.grownBy w' v.ownBlock->FreshF w v (.slice (some ⟨g',0,none⟩) (us.length+1) cap)->us.length+1<=cap->cap<=maxLen->K (a.put o.dst (.slice (some ⟨g',0,none⟩) (us.length+1) cap)) w'):o.wp Tryz.prog a w K Q:=by
 have hnews:∀ j q,(fC u)[j]?=some q->w.cell? ((⟨g,0,none⟩:Addr).add j)=some q:=fun j q hj=>World.news_of_block hB j q (by simpa using hj)
 have hAt:fR.At w (.slice (some ⟨g,0,none⟩) 1 1) [u]:=El.At.block (E:=fR) (el:=[u]) (by rw[hB];simp only[List.flatMap_cons,List.flatMap_nil,List.append_nil];rfl) (show 1<=maxLen by decide) (fun _ _=>trivial);obtain⟨v',w',hr,h2,h3,h4,h5⟩:=h.run hAt o.type (by simp;omega) hb;obtain⟨i,hi,hz,hz1,hz2⟩:=info_parts fR.info;have hf:FreshF w v v':=by
  have hown:=h.own;rw[<-hz1] at hown;exact append_freshF (P:=Tryz.prog) fR.ht hi hz hown (c:=1) (m:=1) (news:=fC u) (by rw[hz1];rfl) hnews (fR.one u) (by omega) (by rw[hz2];show (us.length+1)*80<=_;omega) (by decide) (by rw[hz1];exact fR.zs) (by rw[hz1];exact fR.pos) hr
 have hsh:∃ g' cap,v'=.slice (some ⟨g',0,none⟩) (us.length+1) cap/\us.length+1<=cap/\cap<=maxLen:=by
  rcases h2.own.2 with ⟨-,h0⟩ | ⟨g',cap,cur,hv,_,_,hn,hc,_⟩
  ·simp at h0
  refine⟨g',cap,?_,?_,hc⟩
  ·rw[hv];simp
  simpa using hn
 obtain⟨g',cap,rfl,hn1,hn2⟩:=hsh;unfold Oper.wp execOp;simp only[ho,resolve,invoke,builtin,Sem.run_bind,Sem.run_pure,Result.andThen_ok,List.map_toArray,List.map_cons,List.map_nil,hs,hx];rw[show (Builtin.append_ #[27,27] o.type #[v,.slice (some ⟨g,0,none⟩) 1 1]).run Tryz.prog w=_ from hr];exact hK _ _ _ h2 h3 h4 h5 hf hn1 hn2
structure RU where
 o:Int
 b:Bool
 ao:Option Addr
 l:Nat
 c:Nat
 nm:ByteArray
 ko:Option Addr
 kl:Nat
 kc:Nat
def rC (x:RU):List Value:=[.int .i64 x.o,.bool x.b,.slice x.ao x.l x.c,.string x.nm,.slice x.ko x.kl x.kc]
def rV (x:RU):Value:=.agg #[.int .i64 x.o,.bool x.b,.slice x.ao x.l x.c,.string x.nm,.slice x.ko x.kl x.kc]
def RawF (w:World):Nat->RU->Prop
 | 0,_=>True
 | d+1,x=>IR x.o/\RNum w (.slice x.ao x.l x.c)/\x.nm.size<=9223372036854775807/\(x.kl<=x.kc/\x.kc<=maxLen)/\∀ i,i<x.kl->∃ y,AtF 5 w x.ko i (rC y)/\RawF w d y
theorem RawF.below {w w':World} (hb:Below w.heap.size w w'):∀ {d:Nat} {x:RU},RawF w d x->RawF w' d x
 | 0,_,h=>h
 | d+1,x,⟨h1,h2,h3,h4,h5⟩=>by
  refine⟨h1,h2.below hb,h3,h4,fun i hi=>?_⟩;obtain⟨y,a1,a2⟩:=h5 i hi;exact⟨y,a1.keep fun a ha=>hb.block _ (a1.lt a ha),a2.below hb⟩
def zRU:RU:=⟨0,false,none,0,0,⟨#[]⟩,none,0,0⟩
theorem raw_zero (w:World) (d:Nat):RawF w d zRU:=by
 cases d with
 | zero=>trivial
 | succ d=>exact⟨by unfold IR zRU;decide,⟨[],Sl.nil _ _,Dig.nil _⟩,by decide,⟨Nat.le_refl _,Nat.zero_le _⟩,fun i hi=>absurd hi (Nat.not_lt_zero i)⟩
def NmOk (o:Int) (nm:ByteArray):Prop:=
 if o=1 then nm=⟨#[105,48]⟩\/nm=⟨#[105,49]⟩\/nm=⟨#[105,50]⟩
 else if o=8 then nm=⟨#[108,48]⟩\/nm=⟨#[108,49]⟩
 else if o=14 then nm=⟨#[98,48]⟩\/nm=⟨#[98,49]⟩
 else nm=⟨#[]⟩
def Tm:Nat->F->Prop
 | 0,_=>False
 | d+1,t=>NmOk t.op t.name/\t.num.natAbs<L32 ^ 4/\(t.op≠0->t.op≠3->t.op≠5->t.num=0)/\t.kids.length<=3/\∀ k ∈ t.kids,Tm d k
def TamePost (d:Nat) (s:Int) (w:World) (e:Ending) (w':World):Prop:=∃ v t,e=.returned v/\FC w' (fun b=>w.heap.size<=b) d v t/\rt t=true/\srt t.op=s/\Tm d t/\Below w.heap.size w w'
structure TSt (w:World) (B kf kd kr ko:Nat) (x:RU) (dd:Int) (op:Int) (sg:Bool) (ao:Option Addr) (l c:Nat) (nm:ByteArray) (z:Int) (d:Nat) (ts:List F) (v:Value) (us:List FU) (wr:World):Prop where
 ho:wr.heap[ko]?=some (.cells #[.int .i64 op,.bool sg,.slice ao l c,.string nm,v] 29 (0,0))
 hf:wr.heap[kf]?=some (.cells #[.int .i64 x.o,.bool x.b,.slice x.ao x.l x.c,.string x.nm,.slice x.ko x.kl x.kc] 29 (0,0))
 hd:wr.heap[kd]?=some (.cells #[.int .i64 dd] 3 (0,0))
 hr:wr.heap[kr]?=some (.cells #[.int .i64 0,.bool false,.slice none 0 0,.string ⟨#[]⟩,.slice none 0 0] 29 (0,0))
 hz:CI wr (.agg #[.bool sg,.slice ao l c]) z 600
 row:fR.Row wr B v us
 len:us.length=ts.length
 tr:∀ q (h1:q<us.length) (h2:q<ts.length),FT wr (fun b=>B<=b/\v.ownBlock≠some b) d us[q] ts[q]
 good:∀ t ∈ ts,rt t=true/\Tm d t
 low:kf<B/\kd<B/\kr<B/\ko<B
 dis:kf≠ko/\kd≠ko/\kr≠ko
 hi:w.heap.size<=ko
 be:Below w.heap.size w wr
 sz:B<=wr.heap.size
theorem TSt.next {w:World} {B kf kd kr ko:Nat} {x:RU} {dd op:Int} {sg:Bool} {ao:Option Addr} {l c:Nat} {nm:ByteArray} {z:Int} {d:Nat} {ts:List F} {v:Value} {us:List FU} {wr:World} (h:TSt w B kf kd kr ko x dd op sg ao l c nm z d ts v us wr)
  {w5 w6 w8 wc:World} (hb:Below wr.heap.size wr w5) (hc:wr.heap.size<=wc.heap.size) {y:FU} {t:F} (hy:FT w5 (fun b=>wc.heap.size<=b) d y t) (hgood:rt t=true/\Tm d t) {g cap:Nat} (hfr:Fr 29 w5 w6) (hg:w5.grownBy w6 v.ownBlock) (hfresh:FreshF w5 v (.slice (some ⟨g,0,none⟩) (us.length+1) cap))
  (hrow8:fR.Row w8 B (.slice (some ⟨g,0,none⟩) (us.length+1) cap) (us++[y])) (ho8:w8.heap[ko]?=some (.cells #[.int .i64 op,.bool sg,.slice ao l c,.string nm,.slice (some ⟨g,0,none⟩) (us.length+1) cap] 29 (0,0))) (hoth:∀ k,k<w6.heap.size->k≠g->k≠ko->w8.heap[k]?=w6.heap[k]?) (hkn:KN w6 w8) (hos:w8.os=w6.os) (htp:w8.tape=w6.tape) (hou:w8.output=w6.output) (hsz:w6.heap.size<=w8.heap.size) :
  TSt w B kf kd kr ko x dd op sg ao l c nm z d (ts++[t]) (.slice (some ⟨g,0,none⟩) (us.length+1) cap) (us++[y]) w8:=by
 have hgB:B<=g:=(hrow8.ge rfl).1;have hs5:=hb.size;have hs6:=hg.size;have hB:=h.sz;have hown:∀ j,v.ownBlock=some j->B<=j/\j<wr.heap.size:=fun j hj=>h.row.ge hj
 have low:∀ k,k<B->k≠ko->w8.heap[k]?=wr.heap[k]?:=fun k hk hko=>by
  rw[hoth k (by omega) (by omega) hko,hg.block k (by omega) (fun e=>by have:=(hown k e.symm).1;omega),hb.block k (by omega)]
 obtain⟨l1,l2,l3,l4⟩:=h.low;obtain⟨d1,d2,d3⟩:=h.dis;have kn:KN wr w8:=((KN.of_below hb).trans (KN.of_fr hfr)).trans hkn;refine⟨ho8,(low _ l1 d1).trans h.hf,(low _ l2 d2).trans h.hd,(low _ l3 d3).trans h.hr,h.hz.kn kn,hrow8,by simp[h.len],fun q h1 h2=>?_,fun u hu=>?_,h.low,h.dis,h.hi,?_,by omega⟩
 ·by_cases hq:q<us.length
  ·have e1:(us++[y])[q]=us[q]:=List.getElem_append_left hq;have hq2:q<ts.length:=by rw[<-h.len];exact hq
   have e2:(ts++[t])[q]=ts[q]:=List.getElem_append_left hq2;rw[e1,e2];have hne:∀ b,(B<=b/\v.ownBlock≠some b)/\b<wr.heap.size->b≠g:=fun b hb' e=>by
    subst e;rcases hfresh b rfl with h' | h'
    ·exact hb'.1.2 h'
    omega
   refine ((h.tr q hq hq2).lt.keep (w':=w8) (fun b hb'=>?_) kn).mono fun b hb'=>⟨hb'.1.1,fun e=>hne b hb' (by injection e with e;exact e.symm)⟩
   rw[hoth b (by omega) (hne b hb') (by omega),hg.block b (by omega) (fun e=>hb'.1.2 e.symm),hb.block b hb'.2]
  have hqe:q=us.length:=by simp at h1;omega
  subst hqe;have e1:(us++[y])[us.length]=y:=by rw[List.getElem_append_right (Nat.le_refl _)];simp
  have e2:(ts++[t])[us.length]=t:=by rw[List.getElem_append_right (by rw[h.len];exact Nat.le_refl _)];simp[h.len]
  rw[e1,e2];have hne:∀ b,wc.heap.size<=b/\b<w5.heap.size->b≠g:=fun b hb' e=>by
   subst e;rcases hfresh b rfl with h' | h'
   ·have:=(hown b h').2;omega
   omega
  refine (hy.lt.keep (w':=w8) (fun b hb'=>?_) ((KN.of_fr hfr).trans hkn)).mono fun b hb'=>⟨by omega,fun e=>hne b hb' (by injection e with e;exact e.symm)⟩
  rw[hoth b (by omega) (hne b hb') (by omega),hg.block b hb'.2 (fun e=>by have:=(hown b e.symm).2;omega)]
 ·rcases List.mem_append.1 hu with hu | hu
  ·exact h.good u hu
  rw[List.mem_singleton] at hu;subst hu;exact hgood
 have hwo:=h.hi;have hbe:=h.be;have hbs:=hbe.size;refine⟨(hos.trans (hg.os.trans hb.os)).trans hbe.os,(htp.trans (hg.tape.trans hb.tape)).trans hbe.tape,(hou.trans (hg.output.trans hb.output)).trans hbe.output,by omega,fun k hk=>?_⟩;rw[low k (by omega) (by omega)];exact hbe.block k hk
def wdTab:List Bs:=[[78,117,109],[73,86,97,114],[65,100,100],[83,99,97,108,101],[77,117,108],[81,117,111],[76,101,110],[72,100],[76,86,97,114],[78,105,108],[67,111,110,115],[84,108],[84,114,117,101],[70,97,108,115,101],[66,86,97,114],[76,101],[69,113],[78,111,116],[65,110,100],[79,114],[73,102,102]]
def wd (o:Int):Bs:=wdTab.getD o.toNat []
def qt (nm:ByteArray):Bs:=34::(nm.data.toList++[34])
def numT (o z:Int):Bs:=if o=0\/z≠0 then 32::zText z else []
def namT (nm:ByteArray):Bs:=if nm=⟨#[]⟩ then [] else 32::qt nm
mutual
def txF:F->Bs
 | .node o z nm ks=>wd o++(numT o z++(namT nm++txK ks))
def txK:List F->Bs
 | []=>[]
 | k::l=>40::(txF k++txM l)
def txM:List F->Bs
 | []=>[41]
 | k::l=>44::32::(txF k++txM l)
end
theorem wd_len (o:Int):(wd o).length<=5:=by
 unfold wd;by_cases h:o.toNat<21
 ·have:o.toNat=0\/o.toNat=1\/o.toNat=2\/o.toNat=3\/o.toNat=4\/o.toNat=5\/o.toNat=6\/o.toNat=7\/o.toNat=8\/o.toNat=9\/o.toNat=10\/o.toNat=11\/o.toNat=12\/o.toNat=13\/o.toNat=14\/o.toNat=15\/o.toNat=16\/o.toNat=17\/o.toNat=18\/o.toNat=19\/o.toNat=20:=by omega
  rcases this with e | e | e | e | e | e | e | e | e | e | e | e | e | e | e | e | e | e | e | e | e<;>rw[e]<;>decide
 have hn:wdTab.length<=o.toNat:=by show 21<=_;omega
 have:wdTab.getD o.toNat []=[]:=by simp[List.getD,List.getElem?_eq_none hn]
 rw[this];exact Nat.zero_le _
theorem zt_len4 {z:Int} (h:z.natAbs<L32 ^ 4):(zText z).length<=41:=by
 have h1:z.natAbs<10 ^ 40:=Nat.lt_of_lt_of_le h (by decide);have h2:=decDigits_len h1 (by decide);unfold zText;split
 ·rw[lsc];omega
 omega
theorem nm_small {o:Int} {nm:ByteArray} (h:NmOk o nm):nm=⟨#[]⟩\/nm=⟨#[105,48]⟩\/nm=⟨#[105,49]⟩\/nm=⟨#[105,50]⟩\/nm=⟨#[108,48]⟩\/nm=⟨#[108,49]⟩\/nm=⟨#[98,48]⟩\/nm=⟨#[98,49]⟩:=by
 unfold NmOk at h;split at h
 ·rcases h with h | h | h<;>simp[h]
 split at h
 ·rcases h with h | h<;>simp[h]
 split at h
 ·rcases h with h | h<;>simp[h]
 simp[h]
theorem nam_len {o:Int} {nm:ByteArray} (h:NmOk o nm):(namT nm).length<=5:=by
 rcases nm_small h with h | h | h | h | h | h | h | h<;>rw[h]<;>decide
def lenT:Nat->Nat
 | 0=>0
 | d+1=>60+3*(lenT d+2)
theorem tx_len:∀ (d:Nat) (t:F),Tm d t->(txF t).length<=lenT d
 | 0,t,h=>absurd h id
 | d+1,.node o z nm ks,h=>by
  obtain⟨h1,h2,h3,h4,h5⟩:=h;have hw:=wd_len o
  have hn:(numT o z).length<=42:=by
   unfold numT;split
   ·rw[lsc];have:=zt_len4 h2;show _+1<=42;simp only[F.num] at this;omega
   exact Nat.zero_le _
  have hm:=nam_len h1;have key:∀ l:List F,(∀ k ∈ l,Tm d k)->(txM l).length<=l.length*(lenT d+2)+1:=by
   intro l;induction l with
   | nil=>intro _;simp[txM]
   | cons a l ih =>
    intro hl;have:=ih (fun k hk=>hl k (by simp[hk]));have ha:=tx_len d a (hl a (by simp));rw[txM,lsc,lsc,lsa,lsc,Nat.add_mul,Nat.one_mul];omega
  have hk:(txK ks).length<=ks.length*(lenT d+2)+1:=by
   cases ks with
   | nil=>simp[txK]
   | cons a l =>
    have:=key l (fun k hk=>h5 k (by show k ∈ a::l;simp[hk]));have ha:=tx_len d a (h5 a (by show a ∈ a::l;simp));rw[txK,lsc,lsa,lsc,Nat.add_mul,Nat.one_mul];omega
  have h3':ks.length*(lenT d+2)<=3*(lenT d+2):=Nat.mul_le_mul_right _ h4;simp only[F.name] at hm;rw[txF,lsa,lsa,lsa,lenT];omega
theorem txM_app (a:List F) (b:List F):txM (a++b)=(txM a).dropLast++txM b:=by
 induction a with
 | nil=>simp[txM]
 | cons k l ih =>
  have hne:txM l ≠ []:=by cases l<;>simp[txM]
  rw[List.cons_append,txM,txM,ih,List.dropLast_cons_of_ne_nil (by simp),List.dropLast_cons_of_ne_nil (by simp[hne]),List.dropLast_append_of_ne_nil hne];simp
def txJ (ks:List F) (j:Nat):Bs:=(txK (ks.take j)).dropLast
theorem txJ_zero (ks:List F):txJ ks 0=[]:=by simp[txJ,txK]
theorem txK_app (k:F) (l:List F) (b:F):txK (k::l++[b])=(txK (k::l)).dropLast++(44::32::(txF b++[41])):=by
 have hne:txM l ≠ []:=by cases l<;>simp[txM]
 rw[List.cons_append,txK,txK,txM_app,List.dropLast_cons_of_ne_nil (by simp[hne]),List.dropLast_append_of_ne_nil hne];simp[txM]
theorem txJ_one (ks:List F) (h:0<ks.length):txJ ks 1=40::txF ks[0]:=by
 cases ks with
 | nil=>simp at h
 | cons a l =>
  have e:txK [a]=(40::txF a)++[41]:=rfl;show (txK [a]).dropLast=_
  rw[e,List.dropLast_concat];rfl
theorem txJ_next (ks:List F) (j:Nat) (h0:0<j) (h:j<ks.length):txJ ks (j+1)=txJ ks j++(44::32::txF ks[j]):=by
 unfold txJ;rw[List.take_succ_eq_append_getElem h];obtain⟨k,l,hk⟩:∃ k l,ks.take j=k::l:=by
  cases hks:ks.take j with
  | nil =>
   have h9:min j ks.length=0:=by rw[<-List.length_take,hks];rfl
   omega
  | cons k l=>exact⟨k,l,rfl⟩
 rw[hk,txK_app,show (44::32::(txF ks[j]++[41]):Bs)=(44::32::txF ks[j])++[41] from rfl,<-List.append_assoc,List.dropLast_concat]
theorem txJ_all (ks:List F) (h:0<ks.length):txJ ks ks.length++[41]=txK ks:=by
 unfold txJ;rw[List.take_length];have hl:∀ l:List F,txM l=(txM l).dropLast++[41]:=by
  intro l;induction l with
  | nil=>simp[txM]
  | cons a l ih =>
   have hne:txM l ≠ []:=by cases l<;>simp[txM]
   rw[txM,List.dropLast_cons_of_ne_nil (by simp),List.dropLast_cons_of_ne_nil (by simp[hne]),List.dropLast_append_of_ne_nil hne];simp only[List.cons_append,List.append_assoc];rw[<-ih]
 cases ks with
 | nil=>simp at h
 | cons a l =>
  have hne:txM l ≠ []:=by cases l<;>simp[txM]
  rw[txK,List.dropLast_cons_of_ne_nil (by simp[hne]),List.dropLast_append_of_ne_nil hne,List.cons_append,List.append_assoc,<-hl l]
def nmTab:List ByteArray:=[⟨#[105,48]⟩,⟨#[105,49]⟩,⟨#[105,50]⟩,⟨#[108,48]⟩,⟨#[108,49]⟩,⟨#[98,48]⟩,⟨#[98,49]⟩]
attribute [local go_sem] fieldV0 fieldV1 fieldV2 fieldV3
structure TxT (w:World):Prop where
 p10 : Lib.TabIs Tryz.prog w "internal/strconv.uint64pow10" .u64 Lib.pow10Tab
 wds:∀ i,i<21->w.cell? ⟨1,i,none⟩=some (.string ⟨(wdTab.getD i []).toArray⟩)
 prt:Lib.PrintTabsAt 6 7 8 9 Lib.goPrintTabs w
 utf:Lib.Utf8Tabs 4 5 w
theorem tabSlice_below {g:Nat} {k:IntKind} {t:List Nat} {w w':World} (h:Lib.TabSlice g k t w) (hb:Below w.heap.size w w'):Lib.TabSlice g k t w':=by
 obtain⟨R,o,c,h1,h2⟩:=h;exact⟨R,o,c,by rw[hb.cell (cell_lt h1)];exact h1,fun j hj=>by rw[hb.cell (cell_lt (h2 j hj))];exact h2 j hj⟩
theorem TxT.below {w w':World} (h:TxT w) (hb:Below w.heap.size w w'):TxT w' where
 p10:=tab_below h.p10 hb
 wds i hi:=by rw[hb.cell (cell_lt (h.wds i hi))];exact h.wds i hi
 prt:=by
  obtain⟨a,b,c,d,e⟩:=h.prt;exact⟨tabSlice_below a hb,tabSlice_below b hb,tabSlice_below c hb,tabSlice_below d hb,e⟩
 utf:=by
  obtain⟨a,b⟩:=h.utf;exact⟨fun c hc=>by rw[hb.cell (cell_lt (a c hc))];exact a c hc,fun i hi=>⟨by rw[hb.cell (cell_lt (b i hi).1)];exact (b i hi).1,by rw[hb.cell (cell_lt (b i hi).2)];exact (b i hi).2⟩⟩
theorem word_p (o:Int) (h0:0<=o) (h1:o<=20) (w:World) (ht:TxT w) :
  Calls Tryz.prog 115 #[.int .i64 o] w fun e w'=>e=.returned (.string ⟨(wd o).toArray⟩)/\Below w.heap.size w w':=by
 obtain⟨k,rfl⟩:∃ k:Nat,o=k:=⟨o.toNat,by omega⟩;have hk:k<21:=by omega
 have c:=ht.wds k hk;have e:wd (k:Int)=wdTab.getD k []:=rfl;rw[e];generalize wdTab.getD k []=s at c ⊢;clear ht e;go_enter Tryz.func115,Tryz.ntmps115;go_wp2;go_ret;exact⟨rfl,Below.refl _ _⟩
theorem txJ_mono (ks:List F) (j:Nat):∀ m,j+m<=ks.length->(txJ ks j).length<=(txJ ks (j+m)).length
 | 0,_=>Nat.le_refl _
 | m+1,h=>by
  have ih:=txJ_mono ks j m (by omega)
  by_cases h0:j+m=0
  ·have hj:j=0:=by omega
   subst hj;rw[txJ_zero];exact Nat.zero_le _
  rw[show j+(m+1)=(j+m)+1 by omega,txJ_next ks (j+m) (by omega) (by omega),lsa];omega
theorem txJ_le (ks:List F) (j:Nat) (h:j<=ks.length) (h0:0<ks.length):(txJ ks j).length+1<=(txK ks).length:=by
 have h1:=txJ_mono ks j (ks.length - j) (by omega);rw[show j+(ks.length - j)=ks.length by omega] at h1;have h2:=congrArg List.length (txJ_all ks h0);rw[lsa] at h2;simp only[lsc,lsn] at h2
 omega
theorem txJ_step (ks:List F) (j:Nat) (h:j<ks.length):∃ m:Bs,txJ ks (j+1)=txJ ks j++(m++txF ks[j])/\((j=0/\m=[40])\/(0<j/\m=[44,32])):=by
 by_cases h0:j=0
 ·subst h0;exact⟨[40],by rw[txJ_one ks h,txJ_zero];rfl,.inl ⟨rfl,rfl⟩⟩
 exact⟨[44,32],txJ_next ks j (by omega) h,.inr ⟨by omega,rfl⟩⟩
theorem bb_trans {B:Nat} {a b c:World} (h:Below B a b) (hB:B<=b.heap.size) (k:Below b.heap.size b c):Below B a c:=h.trans (k.mono hB)
theorem add0B (a:Addr):a.add 0=a:=by simp[Addr.add]
open Classical in
theorem zchar45 (z:Int):∀ c ∈ zText z,45<=c.toNat:=by
 have hd:=(dn_dec z.natAbs).1;unfold zText;split
 ·intro c hc;rcases List.mem_cons.1 hc with rfl | hc
  ·exact Nat.le_refl _
  have:=hd c hc;omega
 intro c hc;have:=hd c hc;omega
theorem zText_injF {z w:Int} (h:zText z=zText w):z=w:=by
 have a:=dn_dec z.natAbs;have b:=dn_dec w.natAbs;unfold zText at h;by_cases hz:z<0<;>by_cases hw:w<0
 ·rw[if_pos hz,if_pos hw] at h;injection h with _ h;have:=congrArg dn h;rw[a.2.1,b.2.1] at this;omega
 ·rw[if_pos hz,if_neg hw] at h;have:=b.1 45 (by rw[<-h];exact List.mem_cons_self ..);simp at this
 ·rw[if_neg hz,if_pos hw] at h;have:=a.1 45 (by rw[h];exact List.mem_cons_self ..);simp at this
 rw[if_neg hz,if_neg hw] at h;have:=congrArg dn h;rw[a.2.1,b.2.1] at this;omega
def Cut (m:Nat) (l:Bs):Prop:=∀ c r,l=c::r->c.toNat<m
theorem split_at (m:Nat):∀ (a b x y:Bs),(∀ c ∈ a,m<=c.toNat)->(∀ c ∈ b,m<=c.toNat)->Cut m x->Cut m y->a++x=b++y->a=b/\x=y
 | [],[],x,y,_,_,_,_,h=>⟨rfl,h⟩
 | [],c::b,x,y,_,hb,hx,_,h=>by
  have h1:=hb c (List.mem_cons_self ..);have h2:=hx c (b++y) (by simpa using h)
  omega
 | c::a,[],x,y,ha,_,_,hy,h=>by
  have h1:=ha c (List.mem_cons_self ..);have h2:=hy c (a++x) (by simpa using h.symm)
  omega
 | c::a,d::b,x,y,ha,hb,hx,hy,h=>by
  rw[List.cons_append,List.cons_append] at h;injection h with h1 h2;obtain⟨h3,h4⟩:=split_at m a b x y (fun c hc=>ha c (List.mem_cons_of_mem _ hc)) (fun c hc=>hb c (List.mem_cons_of_mem _ hc)) hx hy h2;exact⟨by rw[h1,h3],h4⟩
def StopT (r:Bs):Prop:=r=[]\/∃ l,r=44::l\/r=41::l
theorem StopT.cut {r:Bs} (h:StopT r) {m:Nat} (hm:45<=m):Cut m r:=by
 intro c l e;rcases h with rfl | ⟨q,rfl | rfl⟩
 ·cases e
 ·injection e with e1;subst e1;show 44<m;omega
 injection e with e1;subst e1;show 41<m;omega
theorem stop_txM (l:List F) (r:Bs):StopT (txM l++r):=by
 cases l with
 | nil=>exact .inr ⟨r,.inr rfl⟩
 | cons a l=>exact .inr ⟨32::(txF a++txM l)++r,.inl rfl⟩
theorem cut_txK (ks:List F) (r:Bs) (hr:StopT r) {m:Nat} (hm:45<=m):Cut m (txK ks++r):=by
 cases ks with
 | nil=>exact hr.cut hm
 | cons a l =>
  intro c q e;rw[txK,List.cons_append] at e;injection e with e1;subst e1;show 40<m
  omega
theorem wdTab_inj:∀ i,i<21->∀ j,j<21->wdTab.getD i []=wdTab.getD j []->i=j:=by decide
theorem wd_inj {o p:Int} (ho:0<=o/\o<=20) (hp:0<=p/\p<=20) (h:wd o=wd p):o=p:=by
 have:=wdTab_inj o.toNat (by omega) p.toNat (by omega) h
 omega
theorem wdTab_let:∀ i,i<21->∀ c ∈ wdTab.getD i [],65<=c.toNat:=by decide
theorem wd_let {o:Int} (ho:0<=o/\o<=20):∀ c ∈ wd o,65<=c.toNat:=wdTab_let o.toNat (by omega)
theorem cut_rest (o z:Int) (nm:ByteArray) (ks:List F) (r:Bs) (hr:StopT r):Cut 45 (numT o z++(namT nm++(txK ks++r))):=by
 unfold numT;split
 ·intro c q e;rw[List.cons_append] at e;injection e with e1;subst e1;decide
 unfold namT;split
 ·exact cut_txK ks r hr (Nat.le_refl _)
 intro c q e;rw[List.nil_append,List.cons_append] at e;injection e with e1;subst e1;decide
theorem Cut.up {m n:Nat} {l:Bs} (h:Cut m l) (hn:m<=n):Cut n l:=fun c r e=>Nat.lt_of_lt_of_le (h c r e) hn
theorem nm_none {o:Int} {nm:ByteArray} (ho:¬(o=1\/o=8\/o=14)) (h:NmOk o nm):nm=⟨#[]⟩:=by
 unfold NmOk at h
 rwa [if_neg (by omega),if_neg (by omega),if_neg (by omega)] at h
theorem num_same {o z w:Int} {x y:Bs} (hx:Cut 45 x) (hy:Cut 45 y) (h1:¬(o=0\/z≠0)->(o=0\/w≠0)->∀ q,x≠32::q) (h2:¬(o=0\/w≠0)->(o=0\/z≠0)->∀ q,y≠32::q) (h:numT o z++x=numT o w++y):z=w/\x=y:=by
 unfold numT at h;by_cases a:o=0\/z≠0<;>by_cases b:o=0\/w≠0
 ·rw[if_pos a,if_pos b,List.cons_append,List.cons_append] at h;injection h with _ h;obtain⟨e1,e2⟩:=split_at 45 _ _ _ _ (zchar45 z) (zchar45 w) hx hy h;exact⟨zText_injF e1,e2⟩
 ·rw[if_pos a,if_neg b,List.nil_append,List.cons_append] at h;exact absurd h.symm (h2 b a _)
 ·rw[if_neg a,if_pos b,List.nil_append,List.cons_append] at h;exact absurd h (h1 a b _)
 rw[if_neg a,if_neg b] at h;exact⟨by omega,h⟩
theorem not32 {ks:List F} {r:Bs} (hr:StopT r) (q:Bs):txK ks++r≠32::q:=by
 cases ks with
 | nil =>
  intro e;rcases hr with rfl | ⟨l,rfl | rfl⟩
  ·cases e
  ·injection e with e;cases e
  injection e with e;cases e
 | cons a l=>intro e;rw[txK,List.cons_append] at e;injection e with e;cases e
theorem named_kids {o z:Int} {ks:List F} (ho:o=1\/o=8\/o=14) (h:fitF o z (srts ks)=true):ks=[]:=by
 rcases ho with rfl | rfl | rfl<;>exact srts_nil (by simpa [fitF,kidsOk] using h)
def plainC (c:UInt8):Prop:=48<=c.toNat/\c.toNat<=122/\c.toNat≠92
theorem dec0 (c:UInt8) (l:Bs) (h:plainC c):Utf8.decode ⟨(c::l).toArray⟩ 0=(c.toNat,1):=by
 rw[Lib.decode_at];have e:(⟨(c::l).toArray⟩:ByteArray).get! 0=c:=rfl;rw[e];unfold Lib.decodeN;obtain⟨h1,h2,h3⟩:=h;rw[if_pos (by omega)]
theorem step0 (T:Lib.PrintTabs) (c:UInt8) (l:Bs) (h:plainC c):Lib.quoteStep T ⟨(c::l).toArray⟩=[(c.toNat:Int)]:=by
 unfold Lib.quoteStep;rw[dec0 c l h];obtain⟨h1,h2,h3⟩:=h;rw[if_neg (by simp only;omega)];simp only;unfold Lib.escRune;rw[if_neg (by omega),if_pos (by unfold Lib.isPrintR Lib.isPrintLatin;rw[if_pos (by omega)];simp;left;omega)];unfold Lib.encodeRuneZ;rw[if_pos (by omega)]
theorem from0 (T:Lib.PrintTabs):∀ l:Bs,(∀ c ∈ l,plainC c)->Lib.quoteFrom T l.length ⟨l.toArray⟩=l.map fun c=>(c.toNat:Int)
 | [],_=>rfl
 | c::l,h=>by
  rw[lsc,Lib.quoteFrom,if_pos (show 0<(⟨(c::l).toArray⟩:ByteArray).size from Nat.succ_pos _),step0 T c l (h c (by simp)),dec0 c l (h c (by simp))]
  have e:(⟨(c::l).toArray⟩:ByteArray).extract 1 (⟨(c::l).toArray⟩:ByteArray).size=⟨l.toArray⟩:=by
   apply ByteArray.ext;rw[ByteArray.data_extract];show (c::l).toArray.extract 1 (c::l).length=l.toArray
   simp
  simp only;rw[e,from0 T l (fun d hd=>h d (by simp[hd]))];rfl
theorem quotedP (T:Lib.PrintTabs) (nm:ByteArray) (h:∀ c ∈ nm.data.toList,plainC c):strOfNums (Lib.quoteZ T nm)=⟨(qt nm).toArray⟩:=by
 obtain⟨⟨l⟩⟩:=nm;have e:=from0 T l h;unfold Lib.quoteZ;rw[show (⟨⟨l⟩⟩:ByteArray).size=l.length from rfl,e];unfold strOfNums qt
 simp[Function.comp_def]
structure NmP (nm:ByteArray):Prop where
 ne:nm ≠ ⟨#[]⟩
 sz:nm.data.toList.length<=20
 pl:∀ c ∈ nm.data.toList,plainC c
theorem NmP.emp {nm:ByteArray} (h:NmP nm):nm.toList.isEmpty=false:=by
 rw[Bool.eq_false_iff];intro he;apply h.ne;have h2:nm.toList=[]:=List.isEmpty_iff.1 he;have h3:nm.toList=nm.data.toList:=by rw[ByteArray.toList_eq]
 rw[h3] at h2;exact ByteArray.ext (Array.toList_inj.1 h2)
def NmG (o:Int) (nm:ByteArray):Prop:=if o=1\/o=8\/o=14 then NmP nm else nm=⟨#[]⟩
theorem nmG_none {o:Int} {nm:ByteArray} (h:¬ (o=1\/o=8\/o=14)) (k:NmG o nm):nm=⟨#[]⟩:=by unfold NmG at k;rwa [if_neg h] at k
theorem nmG_named {o:Int} {nm:ByteArray} (h:o=1\/o=8\/o=14) (k:NmG o nm):NmP nm:=by unfold NmG at k;rwa [if_pos h] at k
theorem nmP_tab {nm:ByteArray} (h:nm ∈ nmTab):NmP nm:=by
 simp only[nmTab,List.mem_cons,List.not_mem_nil,or_false] at h;rcases h with rfl | rfl | rfl | rfl | rfl | rfl | rfl<;>exact⟨by decide,by decide,by unfold plainC;decide⟩
theorem nmOk_tab {o:Int} {nm:ByteArray} (ho:o=1\/o=8\/o=14) (h:NmOk o nm):nm ∈ nmTab:=by
 rcases ho with rfl | rfl | rfl
 ·rcases (show nm=_\/nm=_\/nm=_ from h) with rfl | rfl | rfl<;>simp[nmTab]
 ·rcases (show nm=_\/nm=_ from h) with rfl | rfl<;>simp[nmTab]
 rcases (show nm=_\/nm=_ from h) with rfl | rfl<;>simp[nmTab]
theorem NmOk.g {o:Int} {nm:ByteArray} (h:NmOk o nm):NmG o nm:=by
 unfold NmG;split
 ·rename_i ho;exact nmP_tab (nmOk_tab ho h)
 rename_i ho;exact nm_none ho h
def Tg:Nat->F->Prop
 | 0,_=>False
 | d+1,t=>NmG t.op t.name/\t.num.natAbs<L32 ^ 4/\(t.op≠0->t.op≠3->t.op≠5->t.num=0)/\t.kids.length<=8/\∀ k ∈ t.kids,Tg d k
theorem Tm.g:∀ {d:Nat} {t:F},Tm d t->Tg d t
 | 0,_,h=>h
 | d+1,_,⟨h1,h2,h3,h4,h5⟩=>⟨h1.g,h2,h3,Nat.le_trans h4 (by decide),fun k hk=>(h5 k hk).g⟩
theorem Tm.up1:∀ {d:Nat} {t:F},Tm d t->Tm (d+1) t
 | 0,_,h=>absurd h id
 | d+1,_,⟨h1,h2,h3,h4,h5⟩=>⟨h1,h2,h3,h4,fun k hk=>(h5 k hk).up1⟩
theorem Tm.up {d:Nat} {t:F} (h:Tm d t):∀ {d':Nat},d<=d'->Tm d' t
 | 0,hd=>by cases d with | zero=>exact h | succ d=>omega
 | d'+1,hd=>by
  by_cases e:d=d'+1
  ·rw[<-e];exact h
  exact (Tm.up h (by omega)).up1
theorem Tg.up1:∀ {d:Nat} {t:F},Tg d t->Tg (d+1) t
 | 0,_,h=>absurd h id
 | d+1,_,⟨h1,h2,h3,h4,h5⟩=>⟨h1,h2,h3,h4,fun k hk=>(h5 k hk).up1⟩
def lenG:Nat->Nat
 | 0=>0
 | d+1=>80+8*(lenG d+2)
theorem lenG_le:∀ d,d<=2->lenG d<=900000:=by decide
theorem namG_len {o:Int} {nm:ByteArray} (h:NmG o nm):(namT nm).length<=23:=by
 unfold namT;split
 ·exact Nat.zero_le _
 rename_i hne;by_cases ho:o=1\/o=8\/o=14
 ·have:=(nmG_named ho h).sz;unfold qt;simp only[lsc,lsa,lsn];omega
 exact absurd (nmG_none ho h) hne
theorem tx_lenG:∀ (d:Nat) (t:F),Tg d t->(txF t).length<=lenG d
 | 0,t,h=>absurd h id
 | d+1,.node o z nm ks,h=>by
  obtain⟨h1,h2,h3,h4,h5⟩:=h;have hw:=wd_len o
  have hn:(numT o z).length<=42:=by
   unfold numT;split
   ·rw[lsc];have:=zt_len4 h2;show _+1<=42;simp only[F.num] at this;omega
   exact Nat.zero_le _
  have hm:=namG_len h1;simp only[F.name] at hm;have key:∀ l:List F,(∀ k ∈ l,Tg d k)->(txM l).length<=l.length*(lenG d+2)+1:=by
   intro l;induction l with
   | nil=>intro _;simp[txM]
   | cons a l ih =>
    intro hl;have:=ih (fun k hk=>hl k (by simp[hk]));have ha:=tx_lenG d a (hl a (by simp));rw[txM];simp only[lsc,lsa,Nat.add_mul,Nat.one_mul];omega
  simp only[F.kids] at h4 h5;have hk:(txK ks).length<=8*(lenG d+2)+1:=by
   cases ks with
   | nil=>simp[txK]
   | cons a l =>
    have h6:=key l (fun k hk=>h5 k (by simp[hk]));have ha:=tx_lenG d a (h5 a (by simp));have h7:l.length*(lenG d+2)<=7*(lenG d+2):=Nat.mul_le_mul_right _ (by rw[lsc] at h4;omega);rw[txK];simp only[lsc,lsa];omega
  rw[txF,lenG];simp only[lsa];omega
theorem qt_split:∀ (a b x y:Bs),(∀ c ∈ a,plainC c)->(∀ c ∈ b,plainC c)->a++(34::x)=b++(34::y)->a=b/\x=y
 | [],[],x,y,_,_,h=>by injection h with _ h;exact⟨rfl,h⟩
 | [],c::b,x,y,_,hb,h=>by
  injection h with h _;have:=(hb c (by simp)).1;rw[<-h] at this;exact absurd this (by decide)
 | c::a,[],x,y,ha,_,h=>by
  injection h with h _;have:=(ha c (by simp)).1;rw[h] at this;exact absurd this (by decide)
 | c::a,d::b,x,y,ha,hb,h=>by
  injection h with h1 h2;obtain⟨h3,h4⟩:=qt_split a b x y (fun q hq=>ha q (by simp[hq])) (fun q hq=>hb q (by simp[hq])) h2;exact⟨by rw[h1,h3],h4⟩
theorem qt_same {p q:ByteArray} {x y:Bs} (hp:NmP p) (hq:NmP q) (h:qt p++x=qt q++y):p=q/\x=y:=by
 unfold qt at h;simp only[List.cons_append,List.append_assoc,List.nil_append] at h;injection h with _ h;obtain⟨h1,h2⟩:=qt_split _ _ _ _ hp.pl hq.pl h;exact⟨ByteArray.ext (Array.toList_inj.1 h1),h2⟩
theorem txg_inj:∀ (d:Nat) (t s:F),Tg d t->Tg d s->rt t=true->rt s=true->∀ r r':Bs,StopT r->StopT r'->txF t++r=txF s++r'->t=s/\r=r'
 | 0,t,s,h,_,_,_=>absurd h id
 | d+1,.node o z nm ks,.node o' z' nm' ks',ht,hs,rt1,rt2=>by
  intro r r' hr hr' h;obtain⟨hf,hk⟩:=rt_node rt1;obtain⟨hf',hk'⟩:=rt_node rt2;have ho:=fit_range hf;have ho':=fit_range hf';obtain⟨n1,n2,n3,-,n5⟩:=ht;obtain⟨m1,m2,m3,-,m5⟩:=hs;simp only[F.op,F.num,F.name,F.kids] at n1 n3 n5 m1 m3 m5;rw[txF,txF,List.append_assoc,List.append_assoc,List.append_assoc,List.append_assoc,List.append_assoc,List.append_assoc] at h;obtain⟨e1,e2⟩:=split_at 65 _ _ _ _ (wd_let ho) (wd_let ho') ((cut_rest o z nm ks r hr).up (by decide)) ((cut_rest o' z' nm' ks' r' hr').up (by decide)) h;have eo:=wd_inj ho ho' e1;subst eo
  -- the kids
  have kids:∀ (l l':List F),(∀ k ∈ l,Tg d k/\rt k=true)->(∀ k ∈ l',Tg d k/\rt k=true)->∀ x y:Bs,StopT x->StopT y->txM l++x=txM l'++y->l=l'/\x=y:=by
   intro l;induction l with
   | nil =>
    intro l' _ _ x y _ _ e;cases l' with
    | nil=>rw[txM,List.cons_append,List.cons_append] at e;injection e with _ e;exact⟨rfl,e⟩
    | cons a m=>rw[txM,txM,List.cons_append,List.cons_append] at e;injection e with e;cases e
   | cons a m ih =>
    intro l' hl hl' x y hx hy e;cases l' with
    | nil=>rw[txM,txM,List.cons_append,List.cons_append] at e;injection e with e;cases e
    | cons b n =>
     rw[txM,txM,List.cons_append,List.cons_append,List.cons_append,List.cons_append] at e;injection e with _ e;injection e with _ e;rw[List.append_assoc,List.append_assoc] at e;obtain⟨q1,q2⟩:=txg_inj d a b (hl a (by simp)).1 (hl' b (by simp)).1 (hl a (by simp)).2 (hl' b (by simp)).2 _ _ (stop_txM m x) (stop_txM n y) e;obtain⟨q3,q4⟩:=ih n (fun k hk=>hl k (by simp[hk])) (fun k hk=>hl' k (by simp[hk])) x y hx hy q2;exact⟨by rw[q1,q3],q4⟩
  have kidsK:txK ks++r=txK ks'++r'->ks=ks'/\r=r':=by
   intro e;cases ks with
   | nil =>
    cases ks' with
    | nil=>exact⟨rfl,e⟩
    | cons b n =>
     rw[txK,txK,List.nil_append,List.cons_append] at e;rcases hr with rfl | ⟨l,rfl | rfl⟩
     ·cases e
     ·injection e with e;cases e
     injection e with e;cases e
   | cons a m =>
    cases ks' with
    | nil =>
     rw[txK,txK,List.nil_append,List.cons_append] at e;rcases hr' with rfl | ⟨l,rfl | rfl⟩
     ·cases e
     ·injection e with e;cases e
     injection e with e;cases e
    | cons b n =>
     rw[txK,txK,List.cons_append,List.cons_append] at e;injection e with _ e;rw[List.append_assoc,List.append_assoc] at e;obtain⟨q1,q2⟩:=txg_inj d a b (n5 a (by simp)) (m5 b (by simp)) (hk a (by simp)) (hk' b (by simp)) _ _ (stop_txM m r) (stop_txM n r') e;obtain⟨q3,q4⟩:=kids m n (fun k h=>⟨n5 k (by simp[h]),hk k (by simp[h])⟩) (fun k h=>⟨m5 k (by simp[h]),hk' k (by simp[h])⟩) r r' hr hr' q2;exact⟨by rw[q1,q3],q4⟩
  by_cases hn:o=1\/o=8\/o=14
  ·have k1:=named_kids hn hf;have k2:=named_kids hn hf';have z1:z=0:=n3 (by omega) (by omega) (by omega);have z2:z'=0:=m3 (by omega) (by omega) (by omega);have a1:=nmG_named hn n1;have b1:=nmG_named hn m1;subst k1 k2 z1 z2;rw[show numT o 0=[] from if_neg (by omega),List.nil_append,List.nil_append,show namT nm=32::qt nm from if_neg a1.ne,show namT nm'=32::qt nm' from if_neg b1.ne,List.cons_append,List.cons_append] at e2;injection e2 with _ e2;obtain⟨q1,q2⟩:=qt_same a1 b1 e2;exact⟨by rw[q1],q2⟩
  have a1:=nmG_none hn n1;have b1:=nmG_none hn m1;subst a1 b1;rw[show namT ⟨#[]⟩=[] from rfl,List.nil_append,List.nil_append] at e2;obtain⟨q1,q2⟩:=num_same (cut_txK ks r hr (Nat.le_refl _)) (cut_txK ks' r' hr' (Nat.le_refl _)) (fun _ _ q=>not32 hr q) (fun _ _ q=>not32 hr' q) e2;obtain⟨q3,q4⟩:=kidsK q2;exact⟨by rw[q1,q3],q4⟩
theorem textG_inj {d:Nat} {t s:F} (h1:Tg d t) (h2:Tg d s) (h3:rt t=true) (h4:rt s=true) (h:txF t=txF s):t=s:=
 (txg_inj d t s h1 h2 h3 h4 [] [] (.inl rfl) (.inl rfl) (by rw[List.append_nil,List.append_nil,h])).1
attribute [local go_sem] fieldV0 fieldV1 fieldV2 fieldV3
def QuoteG:Prop:=∀ nm,NmP nm->∀ w:World,TxT w->Calls Tryz.prog 117 #[.string nm] w fun e w'=>e=.returned (.string ⟨(qt nm).toArray⟩)/\Below w.heap.size w w'
def WriteG (d:Nat):Prop:=∀ (w0 w:World) (v:Value) (t:F) (B b:Nat) (l:Bs),FC w0 tS d v t->TxT w0->rt t=true->Tg d t->w0.heap.size<=B->Below w0.heap.size w0 w->Bld B b l w->B<=w.heap.size->l.length+(txF t).length<=1000000 ->
 Calls Tryz.prog 67 #[.pointer (some ⟨b,0,none⟩),v] w (BwPost B b (l++txF t) w)
theorem writeG_num (HQ:QuoteG) (d:Nat) (IH:WriteG d) (w0 w:World) (v:Value) (t:F) (B b:Nat) (l:Bs) (ho:t.op=0):FC w0 tS (d+1) v t->TxT w0->rt t=true->Tg (d+1) t->w0.heap.size<=B->Below w0.heap.size w0 w->Bld B b l w->B<=w.heap.size->l.length+(txF t).length<=1000000 ->
  Calls Tryz.prog 67 #[.pointer (some ⟨b,0,none⟩),v] w (BwPost B b (l++txF t) w):=by
 intro hf ht hrt htm hB hbw hbl hBw hlen;obtain⟨b2,ao,la,c,ko,kl,kc,rfl,⟨-,hz,hkl,hkc,hkm⟩,-,hk⟩:=hf.open;obtain⟨o,z,nm,ks⟩:=t;simp only[F.op,F.num,F.name,F.kids] at hz hk hkl ho ⊢;rw[show d+1 - 1=d from rfl] at hk;obtain⟨hfit,hrs⟩:=rt_node hrt;have hor:=fit_range hfit;obtain⟨hnm,hzb,hz0,-,htk⟩:=htm;simp only[F.op,F.num,F.name,F.kids] at hnm hzb hz0 htk;have hkm':kc<=9223372036854775807:=hkm;have hkl2:kl<=9223372036854775807:=Nat.le_trans hkc hkm;have hlen2:l.length+((wd o).length+((numT o z).length+((namT nm).length+(txK ks).length)))<=1000000:=by have h:=hlen;rw[txF,lsa,lsa,lsa] at h;omega
 have HN:=Lib.hid hkl;have HZ:=Lib.hid hz;have HT:=Lib.hid ht;have HLEN:=Lib.hid hlen2;have HOR:=Lib.hid hor;have HB0:=Lib.hid hB;have HW:=Lib.hid hbw;have HBL:=Lib.hid hbl;have HBS:Hid (B<=w.heap.size):=Lib.hid hBw;have HBB:=Lib.hid (Below.refl B w);have HFR:=Lib.hid (FrB.refl w);have HTXF:Hid (txF (.node o z nm ks)=wd o++(numT o z++(namT nm++txK ks))):=Lib.hid (by rw[txF]);clear hf ht hrt hB hbw hbl hBw hlen hlen2 hkl hk hz hrs htk HQ IH;subst ho;have hkE:ks=[]:=srts_nil (by simpa [fitF,kidsOk] using hfit);have HKE:Hid (txK ks=[]):=Lib.hid (by rw[hkE];rfl);have hkl0:kl=0:=by rw[HN.out,hkE];rfl
 subst hkl0;have hn0:nm=⟨#[]⟩:=nmG_none (by omega) hnm;subst hn0;have HNL:Hid (numT 0 z=32::zText z):=Lib.hid (if_pos (.inl rfl));have HNA:Hid (namT ⟨#[]⟩=[]):=Lib.hid rfl;clear hfit hnm hzb hz0 hor hkc hkm;go_enter Tryz.func67,Tryz.ntmps67;obtain⟨x1,kf,ef,ekf,hbf,hkf,HBf⟩:=newV w #[.int .i64 0,.bool b2,.slice ao la c,.string ⟨#[]⟩,.slice ko 0 kc] 29;replace HW:=Lib.hid (HW.out.trans (hbf.out.mono HW.out.size));replace HBL:=Lib.hid (HBL.out.below hbf.out);replace HBB:=Lib.hid (bb_trans HBB.out HBS.out hbf.out);replace HFR:=Lib.hid (HFR.out.trans (fr_below hbf.out));replace HBS:=Lib.hid (Nat.le_trans HBS.out hbf.out.size);obtain⟨⟨c0,c1,c2,c3,c4⟩,fc0,fc1,fc2,fc3,fc4⟩:=cells5V HBf.out;go_wp2_with fail;refine (word_p 0 HOR.out.1 HOR.out.2 x1 (HT.out.below HW.out)).mono ?_
 rintro e x2 ⟨rfl,hb⟩;clear c0 fc0 c1 fc1 c2 fc2 c3 fc3 c4 fc4;replace HBf:=kBV hb HBf;replace HW:=Lib.hid (HW.out.trans (hb.mono HW.out.size));replace HBL:=Lib.hid (HBL.out.below hb);replace HBB:=Lib.hid (bb_trans HBB.out HBS.out hb);replace HFR:=Lib.hid (HFR.out.trans (fr_below hb));replace HBS:=Lib.hid (Nat.le_trans HBS.out hb.size);clear hb;go_wp2_with fail;refine (bw_str B b l (wd 0) x2 HBL.out (by have:=HLEN.out;omega) HBS.out).mono ?_;rintro e x3 ⟨⟨v,rfl⟩,hbl,hb,hfr⟩;replace HBf:=Lib.hid (hfr _ _ _ _ HBf.out (by decide) (by decide));replace HW:=Lib.hid (HW.out.trans (hb.mono HB0.out));replace HBB:=Lib.hid (HBB.out.trans hb);replace HFR:=Lib.hid (HFR.out.trans hfr);replace HBS:Hid (B<=x3.heap.size):=Lib.hid (Nat.le_trans HBS.out hb.size);replace HBL:=Lib.hid hbl;clear hbl hb hfr
 obtain⟨⟨c0,c1,c2,c3,c4⟩,fc0,fc1,fc2,fc3,fc4⟩:=cells5V HBf.out;go_wp2_with fail;refine (bw_byte B b (l++wd 0) 32 32 rfl x3 HBL.out (by have:=HLEN.out;have h3:=HNL.out;rw[h3] at this;rw[lsa];simp only[lsc] at this;omega) HBS.out).mono ?_;rintro e x4 ⟨⟨v,rfl⟩,hbl,hb,hfr⟩;clear c0 fc0 c1 fc1 c2 fc2 c3 fc3 c4 fc4;replace HBf:=Lib.hid (hfr _ _ _ _ HBf.out (by decide) (by decide));replace HW:=Lib.hid (HW.out.trans (hb.mono HB0.out));replace HBB:=Lib.hid (HBB.out.trans hb);replace HFR:=Lib.hid (HFR.out.trans hfr);replace HBS:Hid (B<=x4.heap.size):=Lib.hid (Nat.le_trans HBS.out hb.size);replace HBL:=Lib.hid hbl;clear hbl hb hfr;obtain⟨⟨c0,c1,c2,c3,c4⟩,fc0,fc1,fc2,fc3,fc4⟩:=cells5V HBf.out;go_wp2_with fail
 refine (wtext_any _ z 600 x4 (HT.out.below HW.out).p10 ((HZ.out.below HW.out).gi) (by decide)).mono ?_;rintro e x5 ⟨rfl,hb⟩;clear c0 fc0 c1 fc1 c2 fc2 c3 fc3 c4 fc4;replace HBf:=kBV hb HBf;replace HBL:=Lib.hid (HBL.out.below hb);replace HBB:=Lib.hid (bb_trans HBB.out HBS.out hb);replace HFR:=Lib.hid (HFR.out.trans (fr_below hb));replace HBS:=Lib.hid (Nat.le_trans HBS.out hb.size);clear hb;go_wp2_with fail;refine (bw_str B b (l++wd 0++[32]) (zText z) x5 HBL.out (by have:=HLEN.out;have h3:=HNL.out;rw[h3] at this;rw[lsa,lsa];simp only[lsc,lsn] at this ⊢;omega) HBS.out).mono ?_;rintro e x6 ⟨⟨v,rfl⟩,hbl,hb,hfr⟩;replace HBf:=Lib.hid (hfr _ _ _ _ HBf.out (by decide) (by decide));replace HBB:=Lib.hid (HBB.out.trans hb);replace HFR:=Lib.hid (HFR.out.trans hfr)
 replace HBS:Hid (B<=x6.heap.size):=Lib.hid (Nat.le_trans HBS.out hb.size);replace HBL:=Lib.hid hbl;clear hbl hb hfr;obtain⟨⟨c0,c1,c2,c3,c4⟩,fc0,fc1,fc2,fc3,fc4⟩:=cells5V HBf.out;go_wp2_with fail;go_end0;exact⟨⟨_,rfl⟩,by rw[HTXF.out,HNL.out,HNA.out,HKE.out];simpa using HBL.out,HBB.out,HFR.out⟩
theorem writeG_nam (HQ:QuoteG) (d:Nat) (IH:WriteG d) (w0 w:World) (v:Value) (t:F) (B b:Nat) (l:Bs) (ho:t.op=1\/t.op=8\/t.op=14):FC w0 tS (d+1) v t->TxT w0->rt t=true->Tg (d+1) t->w0.heap.size<=B->Below w0.heap.size w0 w->Bld B b l w->B<=w.heap.size->l.length+(txF t).length<=1000000 ->
  Calls Tryz.prog 67 #[.pointer (some ⟨b,0,none⟩),v] w (BwPost B b (l++txF t) w):=by
 intro hf ht hrt htm hB hbw hbl hBw hlen;obtain⟨b2,ao,la,c,ko,kl,kc,rfl,⟨-,hz,hkl,hkc,hkm⟩,-,hk⟩:=hf.open;obtain⟨o,z,nm,ks⟩:=t;simp only[F.op,F.num,F.name,F.kids] at hz hk hkl ho ⊢;rw[show d+1 - 1=d from rfl] at hk;obtain⟨hfit,hrs⟩:=rt_node hrt;have hor:=fit_range hfit;obtain⟨hnm,hzb,hz0,-,htk⟩:=htm;simp only[F.op,F.num,F.name,F.kids] at hnm hzb hz0 htk;have hkm':kc<=9223372036854775807:=hkm;have hkl2:kl<=9223372036854775807:=Nat.le_trans hkc hkm;have hlen2:l.length+((wd o).length+((numT o z).length+((namT nm).length+(txK ks).length)))<=1000000:=by have h:=hlen;rw[txF,lsa,lsa,lsa] at h;omega
 have HN:=Lib.hid hkl;have HZ:=Lib.hid hz;have HT:=Lib.hid ht;have HLEN:=Lib.hid hlen2;have HQU:=Lib.hid HQ;have HOR:=Lib.hid hor;have HB0:=Lib.hid hB;have HW:=Lib.hid hbw;have HBL:=Lib.hid hbl;have HBS:Hid (B<=w.heap.size):=Lib.hid hBw;have HBB:=Lib.hid (Below.refl B w);have HFR:=Lib.hid (FrB.refl w);have HTXF:Hid (txF (.node o z nm ks)=wd o++(numT o z++(namT nm++txK ks))):=Lib.hid (by rw[txF]);clear hf ht hrt hB hbw hbl hBw hlen hlen2 hkl hk hz hrs htk HQ IH;have hkE:ks=[]:=by rcases ho with rfl | rfl | rfl<;>exact srts_nil (by simpa [fitF,kidsOk] using hfit)
 have HKE:Hid (txK ks=[]):=Lib.hid (by rw[hkE];rfl);have hkl0:kl=0:=by rw[HN.out,hkE];rfl
 subst hkl0;have hz1:z=0:=hz0 (by omega) (by omega) (by omega);subst hz1;have hn1:NmP nm:=nmG_named ho hnm;have HNMT:=Lib.hid hn1;have hne:nm ≠ ⟨#[]⟩:=hn1.ne;have hnb:=hn1.emp;have HNL:Hid (numT o 0=[]):=Lib.hid (if_neg (by omega));have HNA:Hid (namT nm=32::qt nm):=Lib.hid (if_neg hne);have hob:(o==0)=false:=beq_eq_false_iff_ne.2 (by omega);have HSG:Hid (sgnZ 0=0):=Lib.hid rfl;clear hfit hnm hzb hz0 hor hkc hkm;clear ho hne hn1 hkE;go_enter Tryz.func67,Tryz.ntmps67;obtain⟨x1,kf,ef,ekf,hbf,hkf,HBf⟩:=newV w #[.int .i64 o,.bool b2,.slice ao la c,.string nm,.slice ko 0 kc] 29;replace HW:=Lib.hid (HW.out.trans (hbf.out.mono HW.out.size));replace HBL:=Lib.hid (HBL.out.below hbf.out);replace HBB:=Lib.hid (bb_trans HBB.out HBS.out hbf.out);replace HFR:=Lib.hid (HFR.out.trans (fr_below hbf.out))
 replace HBS:=Lib.hid (Nat.le_trans HBS.out hbf.out.size);obtain⟨⟨c0,c1,c2,c3,c4⟩,fc0,fc1,fc2,fc3,fc4⟩:=cells5V HBf.out;go_wp2_with fail;refine (word_p o HOR.out.1 HOR.out.2 x1 (HT.out.below HW.out)).mono ?_;rintro e x2 ⟨rfl,hb⟩;clear c0 fc0 c1 fc1 c2 fc2 c3 fc3 c4 fc4;replace HBf:=kBV hb HBf;replace HW:=Lib.hid (HW.out.trans (hb.mono HW.out.size));replace HBL:=Lib.hid (HBL.out.below hb);replace HBB:=Lib.hid (bb_trans HBB.out HBS.out hb);replace HFR:=Lib.hid (HFR.out.trans (fr_below hb));replace HBS:=Lib.hid (Nat.le_trans HBS.out hb.size);clear hb;go_wp2_with fail;refine (bw_str B b l (wd o) x2 HBL.out (by have:=HLEN.out;omega) HBS.out).mono ?_;rintro e x3 ⟨⟨v,rfl⟩,hbl,hb,hfr⟩;replace HBf:=Lib.hid (hfr _ _ _ _ HBf.out (by decide) (by decide))
 replace HW:=Lib.hid (HW.out.trans (hb.mono HB0.out));replace HBB:=Lib.hid (HBB.out.trans hb);replace HFR:=Lib.hid (HFR.out.trans hfr);replace HBS:Hid (B<=x3.heap.size):=Lib.hid (Nat.le_trans HBS.out hb.size);replace HBL:=Lib.hid hbl;clear hbl hb hfr;obtain⟨⟨c0,c1,c2,c3,c4⟩,fc0,fc1,fc2,fc3,fc4⟩:=cells5V HBf.out;go_wp2_with fail;refine (wsign_any _ 0 600 x3 ((HZ.out.below HW.out).gi) (by decide)).mono ?_;rintro e x4 ⟨rfl,hb⟩;clear c0 fc0 c1 fc1 c2 fc2 c3 fc3 c4 fc4;replace HBf:=kBV hb HBf;replace HW:=Lib.hid (HW.out.trans (hb.mono HW.out.size));replace HBL:=Lib.hid (HBL.out.below hb);replace HBB:=Lib.hid (bb_trans HBB.out HBS.out hb);replace HFR:=Lib.hid (HFR.out.trans (fr_below hb));replace HBS:=Lib.hid (Nat.le_trans HBS.out hb.size);clear hb;rw[HSG.out]
 obtain⟨⟨c0,c1,c2,c3,c4⟩,fc0,fc1,fc2,fc3,fc4⟩:=cells5V HBf.out;go_wp2_with fail;refine (bw_byte B b (l++wd o) 32 32 rfl x4 HBL.out (by have:=HLEN.out;rw[lsa];omega) HBS.out).mono ?_;rintro e x5 ⟨⟨v,rfl⟩,hbl,hb,hfr⟩;clear c0 fc0 c1 fc1 c2 fc2 c3 fc3 c4 fc4;replace HBf:=Lib.hid (hfr _ _ _ _ HBf.out (by decide) (by decide));replace HW:=Lib.hid (HW.out.trans (hb.mono HB0.out));replace HBB:=Lib.hid (HBB.out.trans hb);replace HFR:=Lib.hid (HFR.out.trans hfr);replace HBS:Hid (B<=x5.heap.size):=Lib.hid (Nat.le_trans HBS.out hb.size);replace HBL:=Lib.hid hbl;clear hbl hb hfr;obtain⟨⟨c0,c1,c2,c3,c4⟩,fc0,fc1,fc2,fc3,fc4⟩:=cells5V HBf.out;go_wp2_with fail;refine (HQU.out nm HNMT.out x5 (HT.out.below HW.out)).mono ?_;rintro e x6 ⟨rfl,hb⟩;clear c0 fc0 c1 fc1 c2 fc2 c3 fc3 c4 fc4
 replace HBf:=kBV hb HBf;replace HBL:=Lib.hid (HBL.out.below hb);replace HBB:=Lib.hid (bb_trans HBB.out HBS.out hb);replace HFR:=Lib.hid (HFR.out.trans (fr_below hb));replace HBS:=Lib.hid (Nat.le_trans HBS.out hb.size);clear hb;go_wp2_with fail;refine (bw_str B b (l++wd o++[32]) (qt nm) x6 HBL.out (by have:=HLEN.out;have h3:=HNA.out;rw[h3] at this;rw[lsa,lsa];simp only[lsc,lsn] at this ⊢;omega) HBS.out).mono ?_;rintro e x7 ⟨⟨v,rfl⟩,hbl,hb,hfr⟩;replace HBf:=Lib.hid (hfr _ _ _ _ HBf.out (by decide) (by decide));replace HBB:=Lib.hid (HBB.out.trans hb);replace HFR:=Lib.hid (HFR.out.trans hfr);replace HBS:Hid (B<=x7.heap.size):=Lib.hid (Nat.le_trans HBS.out hb.size);replace HBL:=Lib.hid hbl;clear hbl hb hfr;obtain⟨⟨c0,c1,c2,c3,c4⟩,fc0,fc1,fc2,fc3,fc4⟩:=cells5V HBf.out;go_wp2_with fail;go_end0
 exact⟨⟨_,rfl⟩,by rw[HTXF.out,HNL.out,HNA.out,HKE.out];simpa using HBL.out,HBB.out,HFR.out⟩
theorem writeG_zk (HQ:QuoteG) (d:Nat) (IH:WriteG d) (w0 w:World) (v:Value) (t:F) (B b:Nat) (l:Bs) (ho:t.op≠0/\t.op≠1/\t.op≠8/\t.op≠14) (hzz:t.num=0) (hks:t.kids.length≠0):FC w0 tS (d+1) v t->TxT w0->rt t=true->Tg (d+1) t->w0.heap.size<=B->Below w0.heap.size w0 w->Bld B b l w->B<=w.heap.size->l.length+(txF t).length<=1000000 ->
  Calls Tryz.prog 67 #[.pointer (some ⟨b,0,none⟩),v] w (BwPost B b (l++txF t) w):=by
 intro hf ht hrt htm hB hbw hbl hBw hlen;obtain⟨b2,ao,la,c,ko,kl,kc,rfl,⟨-,hz,hkl,hkc,hkm⟩,-,hk⟩:=hf.open;obtain⟨o,z,nm,ks⟩:=t;simp only[F.op,F.num,F.name,F.kids] at hz hk hkl ho hzz hks ⊢;rw[show d+1 - 1=d from rfl] at hk;obtain⟨hfit,hrs⟩:=rt_node hrt;have hor:=fit_range hfit;obtain⟨hnm,hzb,hz0,-,htk⟩:=htm;simp only[F.op,F.num,F.name,F.kids] at hnm hzb hz0 htk;have hkm':kc<=9223372036854775807:=hkm;have hkl2:kl<=9223372036854775807:=Nat.le_trans hkc hkm;have hlen2:l.length+((wd o).length+((numT o z).length+((namT nm).length+(txK ks).length)))<=1000000:=by have h:=hlen;rw[txF,lsa,lsa,lsa] at h;omega
 have HN:=Lib.hid hkl;have HX:=Lib.hid hk;have HZ:=Lib.hid hz;have HT:=Lib.hid ht;have HTK:=Lib.hid htk;have HRS:=Lib.hid hrs;have HLEN:=Lib.hid hlen2;have HIH:=Lib.hid IH;have HOR:=Lib.hid hor;have HB0:=Lib.hid hB;have HW:=Lib.hid hbw;have HBL:=Lib.hid hbl;have HBS:Hid (B<=w.heap.size):=Lib.hid hBw;have HBB:=Lib.hid (Below.refl B w);have HFR:=Lib.hid (FrB.refl w);have HTXF:Hid (txF (.node o z nm ks)=wd o++(numT o z++(namT nm++txK ks))):=Lib.hid (by rw[txF]);clear hf ht hrt hB hbw hbl hBw hlen hlen2 hkl hk hz hrs htk HQ IH;have hn1:nm=⟨#[]⟩:=nmG_none (by omega) hnm;subst hn1;have HNA:Hid (namT ⟨#[]⟩=[]):=Lib.hid rfl;have hob:(o==0)=false:=beq_eq_false_iff_ne.2 (by omega);subst hzz;have HNL:Hid (numT o 0=[]):=Lib.hid (if_neg (by omega));have HSG:Hid (sgnZ 0=0):=Lib.hid rfl
 have hkp:kl≠0:=by rw[HN.out];exact hks
 have hkb:(((kl:Nat):Int)==0)=false:=beq_eq_false_iff_ne.2 (by omega);clear hks;clear hfit hnm hzb hz0 hor hkc hkm;clear ho;go_enter Tryz.func67,Tryz.ntmps67;obtain⟨x1,kf,ef,ekf,hbf,hkf,HBf⟩:=newV w #[.int .i64 o,.bool b2,.slice ao la c,.string ⟨#[]⟩,.slice ko kl kc] 29;replace HW:=Lib.hid (HW.out.trans (hbf.out.mono HW.out.size));replace HBL:=Lib.hid (HBL.out.below hbf.out);replace HBB:=Lib.hid (bb_trans HBB.out HBS.out hbf.out);replace HFR:=Lib.hid (HFR.out.trans (fr_below hbf.out));replace HBS:=Lib.hid (Nat.le_trans HBS.out hbf.out.size);obtain⟨⟨c0,c1,c2,c3,c4⟩,fc0,fc1,fc2,fc3,fc4⟩:=cells5V HBf.out;go_wp2_with fail;refine (word_p o HOR.out.1 HOR.out.2 x1 (HT.out.below HW.out)).mono ?_;rintro e x2 ⟨rfl,hb⟩;clear c0 fc0 c1 fc1 c2 fc2 c3 fc3 c4 fc4;replace HBf:=kBV hb HBf
 replace HW:=Lib.hid (HW.out.trans (hb.mono HW.out.size));replace HBL:=Lib.hid (HBL.out.below hb);replace HBB:=Lib.hid (bb_trans HBB.out HBS.out hb);replace HFR:=Lib.hid (HFR.out.trans (fr_below hb));replace HBS:=Lib.hid (Nat.le_trans HBS.out hb.size);clear hb;go_wp2_with fail;refine (bw_str B b l (wd o) x2 HBL.out (by have:=HLEN.out;omega) HBS.out).mono ?_;rintro e x3 ⟨⟨v,rfl⟩,hbl,hb,hfr⟩;replace HBf:=Lib.hid (hfr _ _ _ _ HBf.out (by decide) (by decide));replace HW:=Lib.hid (HW.out.trans (hb.mono HB0.out));replace HBB:=Lib.hid (HBB.out.trans hb);replace HFR:=Lib.hid (HFR.out.trans hfr);replace HBS:Hid (B<=x3.heap.size):=Lib.hid (Nat.le_trans HBS.out hb.size);replace HBL:=Lib.hid hbl;clear hbl hb hfr;obtain⟨⟨c0,c1,c2,c3,c4⟩,fc0,fc1,fc2,fc3,fc4⟩:=cells5V HBf.out;go_wp2_with fail
 refine (wsign_any _ 0 600 x3 ((HZ.out.below HW.out).gi) (by decide)).mono ?_;rintro e x4 ⟨rfl,hb⟩;clear c0 fc0 c1 fc1 c2 fc2 c3 fc3 c4 fc4;replace HBf:=kBV hb HBf;replace HW:=Lib.hid (HW.out.trans (hb.mono HW.out.size));replace HBL:=Lib.hid (HBL.out.below hb);replace HBB:=Lib.hid (bb_trans HBB.out HBS.out hb);replace HFR:=Lib.hid (HFR.out.trans (fr_below hb));replace HBS:=Lib.hid (Nat.le_trans HBS.out hb.size);clear hb;rw[HSG.out];obtain⟨⟨c0,c1,c2,c3,c4⟩,fc0,fc1,fc2,fc3,fc4⟩:=cells5V HBf.out;go_wp2_with fail;clear c0 fc0 c1 fc1 c2 fc2 c3 fc3 c4 fc4;obtain⟨L,hL⟩:∃ L,L=l++wd o:=⟨_,rfl⟩;rw[<-hL] at HBL;have HLL:Hid (l++txF (.node o 0 ⟨#[]⟩ ks)=L++txK ks):=Lib.hid (by rw[HTXF.out,HNL.out,HNA.out,hL];simp)
 have HLN:Hid (L.length+(txK ks).length<=1000000):=Lib.hid (by have h3:=congrArg List.length HLL.out;rw[lsa,lsa] at h3;have h4:=HLEN.out;have h5:=congrArg List.length HTXF.out;rw[lsa,lsa,lsa] at h5;omega);clear hL;replace HBL:Hid (Bld B b (L++txJ ks 0) x4):=Lib.hid (by rw[txJ_zero,List.append_nil];exact HBL.out);go_loopw [44] (fun i wr=>∃ j:Nat,i=.int .i64 (j:Nat)/\j<=kl/\Hid (Bld B b (L++txJ ks j) wr)/\Hid (Below B w wr)/\Hid (FrB w wr)/\Hid (Below w0.heap.size w0 wr)/\Hid (B<=wr.heap.size)) (fun i _=>kl - (intOf i).toNat)
 case atStart=>exact⟨0,rfl,Nat.zero_le _,HBL,HBB,HFR,HW,HBS⟩
 case round =>
  obtain⟨wl,hwl⟩:∃ q,q=wr:=⟨_,rfl⟩;subst hwl;clear HBL HBB HFR HW HBS;obtain⟨j,rfl,hj,HBL,HBB,HFR,HW,HBS⟩:=hrel;by_cases hlt:j<kl
  ·have hjs:j<ks.length:=by rw[<-HN.out];exact hlt
   have HJS:=Lib.hid hjs;obtain⟨m,hm1,hm2⟩:=txJ_step ks j hjs;have HM:=Lib.hid hm1;have hle1:=txJ_le ks (j+1) hjs (by omega);have HLE:=Lib.hid hle1;have hin:(ks[j]'hjs) ∈ ks:=List.getElem_mem hjs;have HIN:=Lib.hid hin;obtain⟨kd,hkd⟩:∃ y,y=(ks[j]'hjs):=⟨_,rfl⟩;rw[<-hkd] at HM HIN;have HKD:Hid (kd=ks[j]'HJS.out):=Lib.hid hkd;obtain⟨a,bb,qo,ql,qc,po,pl,pc,rfl,hcel,hfk⟩:=HX.out.cells j hjs;rw[<-hkd] at hcel hfk;obtain⟨x,hxx⟩:∃ x,x=kd.op:=⟨_,rfl⟩;obtain⟨ym,hym⟩:∃ x,x=kd.name:=⟨_,rfl⟩;rw[<-hxx,<-hym] at hcel hfk;have HFK:=Lib.hid hfk;obtain⟨c0,c1,c2,c3,c4⟩:=hcel;rw[<-HW.out.cell (cell_lt c0)] at c0;rw[<-HW.out.cell (cell_lt c1)] at c1;rw[<-HW.out.cell (cell_lt c2)] at c2;rw[<-HW.out.cell (cell_lt c3)] at c3;rw[<-HW.out.cell (cell_lt c4)] at c4
   clear hm1 hle1 hin hkd hfk hxx hym hjs;obtain⟨x5,k7,e7,ek7,hb7,hk7,HB7⟩:=newV wl #[.int .i64 x,.bool bb,.slice qo ql qc,.string ym,.slice po pl pc] 29;replace HW:=Lib.hid (HW.out.trans (hb7.out.mono HW.out.size));replace HBL:=Lib.hid (HBL.out.below hb7.out);replace HBB:=Lib.hid (bb_trans HBB.out HBS.out hb7.out);replace HFR:=Lib.hid (HFR.out.trans (fr_below hb7.out));replace HBS:=Lib.hid (Nat.le_trans HBS.out hb7.out.size);rcases hm2 with ⟨rfl,rfl⟩ | ⟨hj0,rfl⟩
   ·simp only[Nat.zero_mul,add0B] at c0 c1 c2 c3 c4;obtain⟨⟨g0,g1,g2,g3,g4⟩,fg0,fg1,fg2,fg3,fg4⟩:=cells5V HB7.out;go_wp2_with fail;refine (bw_byte B b (L++txJ ks 0) 40 40 rfl x5 HBL.out (by rw[lsa];have h3:=HLE.out;have h4:=congrArg List.length HM.out;rw[lsa,lsa] at h4;have h5:=HLN.out;simp only[lsa,lsc,lsn] at *;omega) HBS.out).mono ?_;rintro e x6 ⟨⟨v,rfl⟩,hbl,hb,hfr⟩;clear g0 fg0 g1 fg1 g2 fg2 g3 fg3 g4 fg4;replace HB7:=Lib.hid (hfr _ _ _ _ HB7.out (by decide) (by decide));replace HW:=Lib.hid (HW.out.trans (hb.mono HB0.out));replace HBB:=Lib.hid (HBB.out.trans hb);replace HFR:=Lib.hid (HFR.out.trans hfr);replace HBS:Hid (B<=x6.heap.size):=Lib.hid (Nat.le_trans HBS.out hb.size);replace HBL:=Lib.hid hbl;clear hbl hb hfr;obtain⟨⟨g0,g1,g2,g3,g4⟩,fg0,fg1,fg2,fg3,fg4⟩:=cells5V HB7.out
    clear c0 c1 c2 c3 c4;go_wp2_with fail;refine (HIH.out w0 x6 _ kd B b (L++txJ ks 0++[40]) HFK.out HT.out (HRS.out kd HIN.out) (HTK.out kd HIN.out) HB0.out HW.out HBL.out HBS.out (by rw[lsa,lsa];have h3:=HLE.out;have h4:=congrArg List.length HM.out;rw[lsa,lsa] at h4;have h5:=HLN.out;simp only[lsa,lsc,lsn] at *;omega)).mono ?_;rintro e x7 ⟨⟨v,rfl⟩,hbl,hb,hfr⟩;clear g0 fg0 g1 fg1 g2 fg2 g3 fg3 g4 fg4;replace HW:=Lib.hid (HW.out.trans (hb.mono HB0.out));replace HBB:=Lib.hid (HBB.out.trans hb);replace HFR:=Lib.hid (HFR.out.trans hfr);replace HBS:Hid (B<=x7.heap.size):=Lib.hid (Nat.le_trans HBS.out hb.size);replace HBL:=Lib.hid hbl;clear hbl hb hfr;go_wp2_with fail;go_roundw
    case rel=>exact⟨1,by go_num,hlt,Lib.hid (by rw[HM.out];simpa using HBL.out),HBB,HFR,HW,HBS⟩
    case measure=>simp[intOf];omega
   have hjn:(((j:Nat):Int)==0)=false:=beq_eq_false_iff_ne.2 (by omega);clear hj0;obtain⟨⟨g0,g1,g2,g3,g4⟩,fg0,fg1,fg2,fg3,fg4⟩:=cells5V HB7.out;go_wp2_with fail;refine (bw_str B b (L++txJ ks j) [44,32] x5 HBL.out (by rw[lsa];have h3:=HLE.out;have h4:=congrArg List.length HM.out;rw[lsa,lsa] at h4;have h5:=HLN.out;simp only[lsa,lsc,lsn] at *;omega) HBS.out).mono ?_;rintro e x6 ⟨⟨v,rfl⟩,hbl,hb,hfr⟩;clear g0 fg0 g1 fg1 g2 fg2 g3 fg3 g4 fg4;replace HB7:=Lib.hid (hfr _ _ _ _ HB7.out (by decide) (by decide));replace HW:=Lib.hid (HW.out.trans (hb.mono HB0.out));replace HBB:=Lib.hid (HBB.out.trans hb);replace HFR:=Lib.hid (HFR.out.trans hfr);replace HBS:Hid (B<=x6.heap.size):=Lib.hid (Nat.le_trans HBS.out hb.size);replace HBL:=Lib.hid hbl;clear hbl hb hfr
   obtain⟨⟨g0,g1,g2,g3,g4⟩,fg0,fg1,fg2,fg3,fg4⟩:=cells5V HB7.out;clear c0 c1 c2 c3 c4;go_wp2_with fail;refine (HIH.out w0 x6 _ kd B b (L++txJ ks j++[44,32]) HFK.out HT.out (HRS.out kd HIN.out) (HTK.out kd HIN.out) HB0.out HW.out HBL.out HBS.out (by rw[lsa,lsa];have h3:=HLE.out;have h4:=congrArg List.length HM.out;rw[lsa,lsa] at h4;have h5:=HLN.out;simp only[lsa,lsc,lsn] at *;omega)).mono ?_;rintro e x7 ⟨⟨v,rfl⟩,hbl,hb,hfr⟩;clear g0 fg0 g1 fg1 g2 fg2 g3 fg3 g4 fg4;replace HW:=Lib.hid (HW.out.trans (hb.mono HB0.out));replace HBB:=Lib.hid (HBB.out.trans hb);replace HFR:=Lib.hid (HFR.out.trans hfr);replace HBS:Hid (B<=x7.heap.size):=Lib.hid (Nat.le_trans HBS.out hb.size);replace HBL:=Lib.hid hbl;clear hbl hb hfr;go_wp2_with fail;go_roundw
   case rel=>exact⟨j+1,by go_num,hlt,Lib.hid (by rw[HM.out];simpa using HBL.out),HBB,HFR,HW,HBS⟩
   case measure=>simp[intOf];omega
  have hjk:j=kl:=by omega
  have HJK:Hid (txJ ks j++[41]=txK ks):=Lib.hid (by have h4:=txJ_all ks (by rw[<-HN.out];omega);rw[<-HN.out,<-hjk] at h4;exact h4);clear hjk;go_wp2_with fail;refine (bw_byte B b (L++txJ ks j) 41 41 rfl wl HBL.out (by rw[lsa];have h3:=congrArg List.length HJK.out;rw[lsa] at h3;have h5:=HLN.out;omega) HBS.out).mono ?_;rintro e x5 ⟨⟨v,rfl⟩,hbl,hb,hfr⟩;replace HBB:=Lib.hid (HBB.out.trans hb);replace HFR:=Lib.hid (HFR.out.trans hfr);replace HBS:Hid (B<=x5.heap.size):=Lib.hid (Nat.le_trans HBS.out hb.size);replace HBL:=Lib.hid hbl;clear hbl hb hfr;go_wp2_with fail;go_end0;exact⟨⟨_,rfl⟩,by rw[HLL.out,<-HJK.out,<-List.append_assoc];exact HBL.out,HBB.out,HFR.out⟩
theorem writeG_nk (HQ:QuoteG) (d:Nat) (IH:WriteG d) (w0 w:World) (v:Value) (t:F) (B b:Nat) (l:Bs) (ho:t.op≠0/\t.op≠1/\t.op≠8/\t.op≠14) (hzz:t.num≠0) (hks:t.kids.length≠0):FC w0 tS (d+1) v t->TxT w0->rt t=true->Tg (d+1) t->w0.heap.size<=B->Below w0.heap.size w0 w->Bld B b l w->B<=w.heap.size->l.length+(txF t).length<=1000000 ->
  Calls Tryz.prog 67 #[.pointer (some ⟨b,0,none⟩),v] w (BwPost B b (l++txF t) w):=by
 intro hf ht hrt htm hB hbw hbl hBw hlen;obtain⟨b2,ao,la,c,ko,kl,kc,rfl,⟨-,hz,hkl,hkc,hkm⟩,-,hk⟩:=hf.open;obtain⟨o,z,nm,ks⟩:=t;simp only[F.op,F.num,F.name,F.kids] at hz hk hkl ho hzz hks ⊢;rw[show d+1 - 1=d from rfl] at hk;obtain⟨hfit,hrs⟩:=rt_node hrt;have hor:=fit_range hfit;obtain⟨hnm,hzb,hz0,-,htk⟩:=htm;simp only[F.op,F.num,F.name,F.kids] at hnm hzb hz0 htk;have hkm':kc<=9223372036854775807:=hkm;have hkl2:kl<=9223372036854775807:=Nat.le_trans hkc hkm;have hlen2:l.length+((wd o).length+((numT o z).length+((namT nm).length+(txK ks).length)))<=1000000:=by have h:=hlen;rw[txF,lsa,lsa,lsa] at h;omega
 have HN:=Lib.hid hkl;have HX:=Lib.hid hk;have HZ:=Lib.hid hz;have HT:=Lib.hid ht;have HTK:=Lib.hid htk;have HRS:=Lib.hid hrs;have HLEN:=Lib.hid hlen2;have HIH:=Lib.hid IH;have HOR:=Lib.hid hor;have HB0:=Lib.hid hB;have HW:=Lib.hid hbw;have HBL:=Lib.hid hbl;have HBS:Hid (B<=w.heap.size):=Lib.hid hBw;have HBB:=Lib.hid (Below.refl B w);have HFR:=Lib.hid (FrB.refl w);have HTXF:Hid (txF (.node o z nm ks)=wd o++(numT o z++(namT nm++txK ks))):=Lib.hid (by rw[txF]);clear hf ht hrt hB hbw hbl hBw hlen hlen2 hkl hk hz hrs htk HQ IH;have hn1:nm=⟨#[]⟩:=nmG_none (by omega) hnm;subst hn1;have HNA:Hid (namT ⟨#[]⟩=[]):=Lib.hid rfl;have hob:(o==0)=false:=beq_eq_false_iff_ne.2 (by omega);have HNL:Hid (numT o z=32::zText z):=Lib.hid (if_pos (.inr hzz));obtain⟨sg1,hsg1⟩:∃ s,s=sgnZ z:=⟨_,rfl⟩
 have hsn:(sg1==0)=false:=beq_eq_false_iff_ne.2 (by rw[hsg1];unfold sgnZ;(repeat' split)<;>omega);have HSG:Hid (sgnZ z=sg1):=Lib.hid hsg1.symm;clear hsg1;have hkp:kl≠0:=by rw[HN.out];exact hks
 have hkb:(((kl:Nat):Int)==0)=false:=beq_eq_false_iff_ne.2 (by omega);clear hks;clear hfit hnm hzb hz0 hor hkc hkm;clear ho hzz;go_enter Tryz.func67,Tryz.ntmps67;obtain⟨x1,kf,ef,ekf,hbf,hkf,HBf⟩:=newV w #[.int .i64 o,.bool b2,.slice ao la c,.string ⟨#[]⟩,.slice ko kl kc] 29;replace HW:=Lib.hid (HW.out.trans (hbf.out.mono HW.out.size));replace HBL:=Lib.hid (HBL.out.below hbf.out);replace HBB:=Lib.hid (bb_trans HBB.out HBS.out hbf.out);replace HFR:=Lib.hid (HFR.out.trans (fr_below hbf.out));replace HBS:=Lib.hid (Nat.le_trans HBS.out hbf.out.size);obtain⟨⟨c0,c1,c2,c3,c4⟩,fc0,fc1,fc2,fc3,fc4⟩:=cells5V HBf.out;go_wp2_with fail;refine (word_p o HOR.out.1 HOR.out.2 x1 (HT.out.below HW.out)).mono ?_;rintro e x2 ⟨rfl,hb⟩;clear c0 fc0 c1 fc1 c2 fc2 c3 fc3 c4 fc4;replace HBf:=kBV hb HBf
 replace HW:=Lib.hid (HW.out.trans (hb.mono HW.out.size));replace HBL:=Lib.hid (HBL.out.below hb);replace HBB:=Lib.hid (bb_trans HBB.out HBS.out hb);replace HFR:=Lib.hid (HFR.out.trans (fr_below hb));replace HBS:=Lib.hid (Nat.le_trans HBS.out hb.size);clear hb;go_wp2_with fail;refine (bw_str B b l (wd o) x2 HBL.out (by have:=HLEN.out;omega) HBS.out).mono ?_;rintro e x3 ⟨⟨v,rfl⟩,hbl,hb,hfr⟩;replace HBf:=Lib.hid (hfr _ _ _ _ HBf.out (by decide) (by decide));replace HW:=Lib.hid (HW.out.trans (hb.mono HB0.out));replace HBB:=Lib.hid (HBB.out.trans hb);replace HFR:=Lib.hid (HFR.out.trans hfr);replace HBS:Hid (B<=x3.heap.size):=Lib.hid (Nat.le_trans HBS.out hb.size);replace HBL:=Lib.hid hbl;clear hbl hb hfr;obtain⟨⟨c0,c1,c2,c3,c4⟩,fc0,fc1,fc2,fc3,fc4⟩:=cells5V HBf.out;go_wp2_with fail
 refine (wsign_any _ z 600 x3 ((HZ.out.below HW.out).gi) (by decide)).mono ?_;rintro e x4 ⟨rfl,hb⟩;clear c0 fc0 c1 fc1 c2 fc2 c3 fc3 c4 fc4;replace HBf:=kBV hb HBf;replace HW:=Lib.hid (HW.out.trans (hb.mono HW.out.size));replace HBL:=Lib.hid (HBL.out.below hb);replace HBB:=Lib.hid (bb_trans HBB.out HBS.out hb);replace HFR:=Lib.hid (HFR.out.trans (fr_below hb));replace HBS:=Lib.hid (Nat.le_trans HBS.out hb.size);clear hb;rw[HSG.out];obtain⟨⟨c0,c1,c2,c3,c4⟩,fc0,fc1,fc2,fc3,fc4⟩:=cells5V HBf.out;go_wp2_with fail;refine (bw_byte B b (l++wd o) 32 32 rfl x4 HBL.out (by have:=HLEN.out;have h3:=HNL.out;rw[h3] at this;rw[lsa];simp only[lsc] at this;omega) HBS.out).mono ?_;rintro e x5 ⟨⟨v,rfl⟩,hbl,hb,hfr⟩;clear c0 fc0 c1 fc1 c2 fc2 c3 fc3 c4 fc4
 replace HBf:=Lib.hid (hfr _ _ _ _ HBf.out (by decide) (by decide));replace HW:=Lib.hid (HW.out.trans (hb.mono HB0.out));replace HBB:=Lib.hid (HBB.out.trans hb);replace HFR:=Lib.hid (HFR.out.trans hfr);replace HBS:Hid (B<=x5.heap.size):=Lib.hid (Nat.le_trans HBS.out hb.size);replace HBL:=Lib.hid hbl;clear hbl hb hfr;obtain⟨⟨c0,c1,c2,c3,c4⟩,fc0,fc1,fc2,fc3,fc4⟩:=cells5V HBf.out;go_wp2_with fail;refine (wtext_any _ z 600 x5 (HT.out.below HW.out).p10 ((HZ.out.below HW.out).gi) (by decide)).mono ?_;rintro e x6 ⟨rfl,hb⟩;clear c0 fc0 c1 fc1 c2 fc2 c3 fc3 c4 fc4;replace HBf:=kBV hb HBf;replace HW:=Lib.hid (HW.out.trans (hb.mono HW.out.size));replace HBL:=Lib.hid (HBL.out.below hb);replace HBB:=Lib.hid (bb_trans HBB.out HBS.out hb);replace HFR:=Lib.hid (HFR.out.trans (fr_below hb))
 replace HBS:=Lib.hid (Nat.le_trans HBS.out hb.size);clear hb;go_wp2_with fail;refine (bw_str B b (l++wd o++[32]) (zText z) x6 HBL.out (by have:=HLEN.out;have h3:=HNL.out;rw[h3] at this;rw[lsa,lsa];simp only[lsc,lsn] at this ⊢;omega) HBS.out).mono ?_;rintro e x7 ⟨⟨v,rfl⟩,hbl,hb,hfr⟩;replace HBf:=Lib.hid (hfr _ _ _ _ HBf.out (by decide) (by decide));replace HW:=Lib.hid (HW.out.trans (hb.mono HB0.out));replace HBB:=Lib.hid (HBB.out.trans hb);replace HFR:=Lib.hid (HFR.out.trans hfr);replace HBS:Hid (B<=x7.heap.size):=Lib.hid (Nat.le_trans HBS.out hb.size);replace HBL:=Lib.hid hbl;clear hbl hb hfr;obtain⟨⟨c0,c1,c2,c3,c4⟩,fc0,fc1,fc2,fc3,fc4⟩:=cells5V HBf.out;go_wp2_with fail;clear c0 fc0 c1 fc1 c2 fc2 c3 fc3 c4 fc4;obtain⟨L,hL⟩:∃ L,L=l++wd o++[32]++zText z:=⟨_,rfl⟩;rw[<-hL] at HBL
 have HLL:Hid (l++txF (.node o z ⟨#[]⟩ ks)=L++txK ks):=Lib.hid (by rw[HTXF.out,HNL.out,HNA.out,hL];simp);have HLN:Hid (L.length+(txK ks).length<=1000000):=Lib.hid (by have h3:=congrArg List.length HLL.out;rw[lsa,lsa] at h3;have h4:=HLEN.out;have h5:=congrArg List.length HTXF.out;rw[lsa,lsa,lsa] at h5;omega);clear hL;replace HBL:Hid (Bld B b (L++txJ ks 0) x7):=Lib.hid (by rw[txJ_zero,List.append_nil];exact HBL.out);go_loopw [44] (fun i wr=>∃ j:Nat,i=.int .i64 (j:Nat)/\j<=kl/\Hid (Bld B b (L++txJ ks j) wr)/\Hid (Below B w wr)/\Hid (FrB w wr)/\Hid (Below w0.heap.size w0 wr)/\Hid (B<=wr.heap.size)) (fun i _=>kl - (intOf i).toNat)
 case atStart=>exact⟨0,rfl,Nat.zero_le _,HBL,HBB,HFR,HW,HBS⟩
 case round =>
  obtain⟨wl,hwl⟩:∃ q,q=wr:=⟨_,rfl⟩;subst hwl;clear HBL HBB HFR HW HBS;obtain⟨j,rfl,hj,HBL,HBB,HFR,HW,HBS⟩:=hrel;by_cases hlt:j<kl
  ·have hjs:j<ks.length:=by rw[<-HN.out];exact hlt
   have HJS:=Lib.hid hjs;obtain⟨m,hm1,hm2⟩:=txJ_step ks j hjs;have HM:=Lib.hid hm1;have hle1:=txJ_le ks (j+1) hjs (by omega);have HLE:=Lib.hid hle1;have hin:(ks[j]'hjs) ∈ ks:=List.getElem_mem hjs;have HIN:=Lib.hid hin;obtain⟨kd,hkd⟩:∃ y,y=(ks[j]'hjs):=⟨_,rfl⟩;rw[<-hkd] at HM HIN;have HKD:Hid (kd=ks[j]'HJS.out):=Lib.hid hkd;obtain⟨a,bb,qo,ql,qc,po,pl,pc,rfl,hcel,hfk⟩:=HX.out.cells j hjs;rw[<-hkd] at hcel hfk;obtain⟨x,hxx⟩:∃ x,x=kd.op:=⟨_,rfl⟩;obtain⟨ym,hym⟩:∃ x,x=kd.name:=⟨_,rfl⟩;rw[<-hxx,<-hym] at hcel hfk;have HFK:=Lib.hid hfk;obtain⟨c0,c1,c2,c3,c4⟩:=hcel;rw[<-HW.out.cell (cell_lt c0)] at c0;rw[<-HW.out.cell (cell_lt c1)] at c1;rw[<-HW.out.cell (cell_lt c2)] at c2;rw[<-HW.out.cell (cell_lt c3)] at c3;rw[<-HW.out.cell (cell_lt c4)] at c4
   clear hm1 hle1 hin hkd hfk hxx hym hjs;obtain⟨x8,k7,e7,ek7,hb7,hk7,HB7⟩:=newV wl #[.int .i64 x,.bool bb,.slice qo ql qc,.string ym,.slice po pl pc] 29;replace HW:=Lib.hid (HW.out.trans (hb7.out.mono HW.out.size));replace HBL:=Lib.hid (HBL.out.below hb7.out);replace HBB:=Lib.hid (bb_trans HBB.out HBS.out hb7.out);replace HFR:=Lib.hid (HFR.out.trans (fr_below hb7.out));replace HBS:=Lib.hid (Nat.le_trans HBS.out hb7.out.size);rcases hm2 with ⟨rfl,rfl⟩ | ⟨hj0,rfl⟩
   ·simp only[Nat.zero_mul,add0B] at c0 c1 c2 c3 c4;obtain⟨⟨g0,g1,g2,g3,g4⟩,fg0,fg1,fg2,fg3,fg4⟩:=cells5V HB7.out;go_wp2_with fail;refine (bw_byte B b (L++txJ ks 0) 40 40 rfl x8 HBL.out (by rw[lsa];have h3:=HLE.out;have h4:=congrArg List.length HM.out;rw[lsa,lsa] at h4;have h5:=HLN.out;simp only[lsa,lsc,lsn] at *;omega) HBS.out).mono ?_;rintro e x9 ⟨⟨v,rfl⟩,hbl,hb,hfr⟩;clear g0 fg0 g1 fg1 g2 fg2 g3 fg3 g4 fg4;replace HB7:=Lib.hid (hfr _ _ _ _ HB7.out (by decide) (by decide));replace HW:=Lib.hid (HW.out.trans (hb.mono HB0.out));replace HBB:=Lib.hid (HBB.out.trans hb);replace HFR:=Lib.hid (HFR.out.trans hfr);replace HBS:Hid (B<=x9.heap.size):=Lib.hid (Nat.le_trans HBS.out hb.size);replace HBL:=Lib.hid hbl;clear hbl hb hfr;obtain⟨⟨g0,g1,g2,g3,g4⟩,fg0,fg1,fg2,fg3,fg4⟩:=cells5V HB7.out
    clear c0 c1 c2 c3 c4;go_wp2_with fail;refine (HIH.out w0 x9 _ kd B b (L++txJ ks 0++[40]) HFK.out HT.out (HRS.out kd HIN.out) (HTK.out kd HIN.out) HB0.out HW.out HBL.out HBS.out (by rw[lsa,lsa];have h3:=HLE.out;have h4:=congrArg List.length HM.out;rw[lsa,lsa] at h4;have h5:=HLN.out;simp only[lsa,lsc,lsn] at *;omega)).mono ?_;rintro e x10 ⟨⟨v,rfl⟩,hbl,hb,hfr⟩;clear g0 fg0 g1 fg1 g2 fg2 g3 fg3 g4 fg4;replace HW:=Lib.hid (HW.out.trans (hb.mono HB0.out));replace HBB:=Lib.hid (HBB.out.trans hb);replace HFR:=Lib.hid (HFR.out.trans hfr);replace HBS:Hid (B<=x10.heap.size):=Lib.hid (Nat.le_trans HBS.out hb.size);replace HBL:=Lib.hid hbl;clear hbl hb hfr;go_wp2_with fail;go_roundw
    case rel=>exact⟨1,by go_num,hlt,Lib.hid (by rw[HM.out];simpa using HBL.out),HBB,HFR,HW,HBS⟩
    case measure=>simp[intOf];omega
   have hjn:(((j:Nat):Int)==0)=false:=beq_eq_false_iff_ne.2 (by omega);clear hj0;obtain⟨⟨g0,g1,g2,g3,g4⟩,fg0,fg1,fg2,fg3,fg4⟩:=cells5V HB7.out;go_wp2_with fail;refine (bw_str B b (L++txJ ks j) [44,32] x8 HBL.out (by rw[lsa];have h3:=HLE.out;have h4:=congrArg List.length HM.out;rw[lsa,lsa] at h4;have h5:=HLN.out;simp only[lsa,lsc,lsn] at *;omega) HBS.out).mono ?_;rintro e x9 ⟨⟨v,rfl⟩,hbl,hb,hfr⟩;clear g0 fg0 g1 fg1 g2 fg2 g3 fg3 g4 fg4;replace HB7:=Lib.hid (hfr _ _ _ _ HB7.out (by decide) (by decide));replace HW:=Lib.hid (HW.out.trans (hb.mono HB0.out));replace HBB:=Lib.hid (HBB.out.trans hb);replace HFR:=Lib.hid (HFR.out.trans hfr);replace HBS:Hid (B<=x9.heap.size):=Lib.hid (Nat.le_trans HBS.out hb.size);replace HBL:=Lib.hid hbl;clear hbl hb hfr
   obtain⟨⟨g0,g1,g2,g3,g4⟩,fg0,fg1,fg2,fg3,fg4⟩:=cells5V HB7.out;clear c0 c1 c2 c3 c4;go_wp2_with fail;refine (HIH.out w0 x9 _ kd B b (L++txJ ks j++[44,32]) HFK.out HT.out (HRS.out kd HIN.out) (HTK.out kd HIN.out) HB0.out HW.out HBL.out HBS.out (by rw[lsa,lsa];have h3:=HLE.out;have h4:=congrArg List.length HM.out;rw[lsa,lsa] at h4;have h5:=HLN.out;simp only[lsa,lsc,lsn] at *;omega)).mono ?_;rintro e x10 ⟨⟨v,rfl⟩,hbl,hb,hfr⟩;clear g0 fg0 g1 fg1 g2 fg2 g3 fg3 g4 fg4;replace HW:=Lib.hid (HW.out.trans (hb.mono HB0.out));replace HBB:=Lib.hid (HBB.out.trans hb);replace HFR:=Lib.hid (HFR.out.trans hfr);replace HBS:Hid (B<=x10.heap.size):=Lib.hid (Nat.le_trans HBS.out hb.size);replace HBL:=Lib.hid hbl;clear hbl hb hfr;go_wp2_with fail;go_roundw
   case rel=>exact⟨j+1,by go_num,hlt,Lib.hid (by rw[HM.out];simpa using HBL.out),HBB,HFR,HW,HBS⟩
   case measure=>simp[intOf];omega
  have hjk:j=kl:=by omega
  have HJK:Hid (txJ ks j++[41]=txK ks):=Lib.hid (by have h4:=txJ_all ks (by rw[<-HN.out];omega);rw[<-HN.out,<-hjk] at h4;exact h4);clear hjk;go_wp2_with fail;refine (bw_byte B b (L++txJ ks j) 41 41 rfl wl HBL.out (by rw[lsa];have h3:=congrArg List.length HJK.out;rw[lsa] at h3;have h5:=HLN.out;omega) HBS.out).mono ?_;rintro e x8 ⟨⟨v,rfl⟩,hbl,hb,hfr⟩;replace HBB:=Lib.hid (HBB.out.trans hb);replace HFR:=Lib.hid (HFR.out.trans hfr);replace HBS:Hid (B<=x8.heap.size):=Lib.hid (Nat.le_trans HBS.out hb.size);replace HBL:=Lib.hid hbl;clear hbl hb hfr;go_wp2_with fail;go_end0;exact⟨⟨_,rfl⟩,by rw[HLL.out,<-HJK.out,<-List.append_assoc];exact HBL.out,HBB.out,HFR.out⟩
theorem writeG_z0 (HQ:QuoteG) (d:Nat) (IH:WriteG d) (w0 w:World) (v:Value) (t:F) (B b:Nat) (l:Bs) (ho:t.op≠0/\t.op≠1/\t.op≠8/\t.op≠14) (hzz:t.num=0) (hks:t.kids.length=0):FC w0 tS (d+1) v t->TxT w0->rt t=true->Tg (d+1) t->w0.heap.size<=B->Below w0.heap.size w0 w->Bld B b l w->B<=w.heap.size->l.length+(txF t).length<=1000000 ->
  Calls Tryz.prog 67 #[.pointer (some ⟨b,0,none⟩),v] w (BwPost B b (l++txF t) w):=by
 intro hf ht hrt htm hB hbw hbl hBw hlen;obtain⟨b2,ao,la,c,ko,kl,kc,rfl,⟨-,hz,hkl,hkc,hkm⟩,-,hk⟩:=hf.open;obtain⟨o,z,nm,ks⟩:=t;simp only[F.op,F.num,F.name,F.kids] at hz hk hkl ho hzz hks ⊢;rw[show d+1 - 1=d from rfl] at hk;obtain⟨hfit,hrs⟩:=rt_node hrt;have hor:=fit_range hfit;obtain⟨hnm,hzb,hz0,-,htk⟩:=htm;simp only[F.op,F.num,F.name,F.kids] at hnm hzb hz0 htk;have hkm':kc<=9223372036854775807:=hkm;have hkl2:kl<=9223372036854775807:=Nat.le_trans hkc hkm;have hlen2:l.length+((wd o).length+((numT o z).length+((namT nm).length+(txK ks).length)))<=1000000:=by have h:=hlen;rw[txF,lsa,lsa,lsa] at h;omega
 have HN:=Lib.hid hkl;have HZ:=Lib.hid hz;have HT:=Lib.hid ht;have HLEN:=Lib.hid hlen2;have HOR:=Lib.hid hor;have HB0:=Lib.hid hB;have HW:=Lib.hid hbw;have HBL:=Lib.hid hbl;have HBS:Hid (B<=w.heap.size):=Lib.hid hBw;have HBB:=Lib.hid (Below.refl B w);have HFR:=Lib.hid (FrB.refl w);have HTXF:Hid (txF (.node o z nm ks)=wd o++(numT o z++(namT nm++txK ks))):=Lib.hid (by rw[txF]);clear hf ht hrt hB hbw hbl hBw hlen hlen2 hkl hk hz hrs htk HQ IH;have hn1:nm=⟨#[]⟩:=nmG_none (by omega) hnm;subst hn1;have HNA:Hid (namT ⟨#[]⟩=[]):=Lib.hid rfl;have hob:(o==0)=false:=beq_eq_false_iff_ne.2 (by omega);subst hzz;have HNL:Hid (numT o 0=[]):=Lib.hid (if_neg (by omega));have HSG:Hid (sgnZ 0=0):=Lib.hid rfl;have hkE:ks=[]:=List.eq_nil_of_length_eq_zero hks;have HKE:Hid (txK ks=[]):=Lib.hid (by rw[hkE];rfl)
 have hkl0:kl=0:=by rw[HN.out,hks]
 subst hkl0;clear hkE hks;clear hfit hnm hzb hz0 hor hkc hkm;clear ho;go_enter Tryz.func67,Tryz.ntmps67;obtain⟨x1,kf,ef,ekf,hbf,hkf,HBf⟩:=newV w #[.int .i64 o,.bool b2,.slice ao la c,.string ⟨#[]⟩,.slice ko 0 kc] 29;replace HW:=Lib.hid (HW.out.trans (hbf.out.mono HW.out.size));replace HBL:=Lib.hid (HBL.out.below hbf.out);replace HBB:=Lib.hid (bb_trans HBB.out HBS.out hbf.out);replace HFR:=Lib.hid (HFR.out.trans (fr_below hbf.out));replace HBS:=Lib.hid (Nat.le_trans HBS.out hbf.out.size);obtain⟨⟨c0,c1,c2,c3,c4⟩,fc0,fc1,fc2,fc3,fc4⟩:=cells5V HBf.out;go_wp2_with fail;refine (word_p o HOR.out.1 HOR.out.2 x1 (HT.out.below HW.out)).mono ?_;rintro e x2 ⟨rfl,hb⟩;clear c0 fc0 c1 fc1 c2 fc2 c3 fc3 c4 fc4;replace HBf:=kBV hb HBf;replace HW:=Lib.hid (HW.out.trans (hb.mono HW.out.size))
 replace HBL:=Lib.hid (HBL.out.below hb);replace HBB:=Lib.hid (bb_trans HBB.out HBS.out hb);replace HFR:=Lib.hid (HFR.out.trans (fr_below hb));replace HBS:=Lib.hid (Nat.le_trans HBS.out hb.size);clear hb;go_wp2_with fail;refine (bw_str B b l (wd o) x2 HBL.out (by have:=HLEN.out;omega) HBS.out).mono ?_;rintro e x3 ⟨⟨v,rfl⟩,hbl,hb,hfr⟩;replace HBf:=Lib.hid (hfr _ _ _ _ HBf.out (by decide) (by decide));replace HW:=Lib.hid (HW.out.trans (hb.mono HB0.out));replace HBB:=Lib.hid (HBB.out.trans hb);replace HFR:=Lib.hid (HFR.out.trans hfr);replace HBS:Hid (B<=x3.heap.size):=Lib.hid (Nat.le_trans HBS.out hb.size);replace HBL:=Lib.hid hbl;clear hbl hb hfr;obtain⟨⟨c0,c1,c2,c3,c4⟩,fc0,fc1,fc2,fc3,fc4⟩:=cells5V HBf.out;go_wp2_with fail
 refine (wsign_any _ 0 600 x3 ((HZ.out.below HW.out).gi) (by decide)).mono ?_;rintro e x4 ⟨rfl,hb⟩;clear c0 fc0 c1 fc1 c2 fc2 c3 fc3 c4 fc4;replace HBf:=kBV hb HBf;replace HBL:=Lib.hid (HBL.out.below hb);replace HBB:=Lib.hid (bb_trans HBB.out HBS.out hb);replace HFR:=Lib.hid (HFR.out.trans (fr_below hb));clear hb;rw[HSG.out];obtain⟨⟨c0,c1,c2,c3,c4⟩,fc0,fc1,fc2,fc3,fc4⟩:=cells5V HBf.out;go_wp2_with fail;go_end0;exact⟨⟨_,rfl⟩,by rw[HTXF.out,HNL.out,HNA.out,HKE.out];simpa using HBL.out,HBB.out,HFR.out⟩
theorem writeG_all (HQ:QuoteG):∀ d:Nat,WriteG d
 | 0=>by
  intro w0 w v t B b l h;obtain⟨_,_,_,_,_,_,_,_,_,h0,_⟩:=h.open
  omega
 | d+1=>by
  intro w0 w v t B b l h1 h2 h3 h4 h5 h6 h7 h8 h9;have IH:=writeG_all HQ d
  by_cases e0:t.op=0
  ·exact writeG_num HQ d IH w0 w v t B b l e0 h1 h2 h3 h4 h5 h6 h7 h8 h9
  by_cases e1:t.op=1\/t.op=8\/t.op=14
  ·exact writeG_nam HQ d IH w0 w v t B b l e1 h1 h2 h3 h4 h5 h6 h7 h8 h9
  have e2:t.op≠0/\t.op≠1/\t.op≠8/\t.op≠14:=by omega
  by_cases e3:t.num=0
  ·by_cases e4:t.kids.length=0
   ·exact writeG_z0 HQ d IH w0 w v t B b l e2 e3 e4 h1 h2 h3 h4 h5 h6 h7 h8 h9
   exact writeG_zk HQ d IH w0 w v t B b l e2 e3 e4 h1 h2 h3 h4 h5 h6 h7 h8 h9
  by_cases e4:t.kids.length=0
  ·exfalso
   obtain⟨o,z,nm,ks⟩:=t;have hn:=h4.2.2.1;have hf:=(rt_node h3).1;simp only[F.op,F.num,F.kids] at hn e2 e3 e4;have hks:ks=[]:=List.eq_nil_of_length_eq_zero e4;subst hks
   have h35:o=3\/o=5:=by
    by_cases a3:o=3
    ·exact .inl a3
    by_cases a5:o=5
    ·exact .inr a5
    exact absurd (hn e2.1 a3 a5) e3
   rcases h35 with rfl | rfl<;>simp[fitF,kidsOk,srts] at hf
  exact writeG_nk HQ d IH w0 w v t B b l e2 e3 e4 h1 h2 h3 h4 h5 h6 h7 h8 h9
end Go.Proofs.YtoncclhbdkjhmaaGreatDoor
namespace Go.Proofs
open Go.Shelf
def Tryz.lays177_renC:Go.Shelf.Ren:=⟨fun | 177=>117 | 250=>165 | 289=>193 | 197=>206 | 323=>207 | 260=>223 | 339=>224 | 340=>225 | 242=>226 | 119=>227 | 345=>235 | 346=>236 | 278=>237 | n=>n,fun | 9=>9 | 5=>5 | 4=>4 | 3=>3 | 37=>99 | 21=>21 | 105=>244 | 46=>183 | 119=>267 | 0=>0 | 139=>270 | 138=>269 | 49=>271 | 234=>272 | 131=>179 | 51=>153 | 236=>23 | n=>n,fun | 3=>4 | 4=>5 | 20=>6 | 21=>7 | 22=>8 | 23=>9 | 24=>10 | n=>n⟩
theorem Tryz.lays177C:Go.Proofs.Lays.n177 Tryz.prog Tryz.lays177_renC:={
 mixed:=by kernel_rfl
 f119:=Tryz.func227.trans (congrArg some (by kernel_rfl))
 f177:=Tryz.func117.trans (congrArg some (by kernel_rfl))
 f197:=Tryz.func206.trans (congrArg some (by kernel_rfl))
 f242:=Tryz.func226.trans (congrArg some (by kernel_rfl))
 f250:=Tryz.func165.trans (congrArg some (by kernel_rfl))
 f260:=Tryz.func223.trans (congrArg some (by kernel_rfl))
 f278:=Tryz.func237.trans (congrArg some (by kernel_rfl))
 f289:=Tryz.func193.trans (congrArg some (by kernel_rfl))
 f323:=Tryz.func207.trans (congrArg some (by kernel_rfl))
 f339:=Tryz.func224.trans (congrArg some (by kernel_rfl))
 f340:=Tryz.func225.trans (congrArg some (by kernel_rfl))
 f345:=Tryz.func235.trans (congrArg some (by kernel_rfl))
 f346:=Tryz.func236.trans (congrArg some (by kernel_rfl))
 t0:=Tryz.underlying0
 a0:=Tryz.isAgg0
 z0:=Tryz.sizeOf0
 v0:=Tryz.zeroValue0
 t3:=Tryz.underlying3
 a3:=Tryz.isAgg3
 z3:=Tryz.sizeOf3
 v3:=Tryz.zeroValue3
 t4:=Tryz.underlying4
 a4:=Tryz.isAgg4
 z4:=Tryz.sizeOf4
 v4:=Tryz.zeroValue4
 t5:=Tryz.underlying5
 a5:=Tryz.isAgg5
 z5:=Tryz.sizeOf5
 v5:=Tryz.zeroValue5
 t9:=Tryz.underlying9
 a9:=Tryz.isAgg9
 z9:=Tryz.sizeOf9
 v9:=Tryz.zeroValue9
 t21:=Tryz.underlying21
 a21:=Tryz.isAgg21
 z21:=Tryz.sizeOf21
 v21:=Tryz.zeroValue21
 t37:=Tryz.underlying99
 a37:=Tryz.isAgg99
 z37:=Tryz.sizeOf99
 v37:=Tryz.zeroValue99
 t46:=Tryz.underlying183
 a46:=Tryz.isAgg183
 z46:=Tryz.sizeOf183
 v46:=Tryz.zeroValue183
 t49:=Tryz.underlying271
 a49:=Tryz.isAgg271
 z49:=Tryz.sizeOf271
 v49:=Tryz.zeroValue271
 t51:=Tryz.underlying153
 a51:=Tryz.isAgg153
 z51:=Tryz.sizeOf153
 v51:=Tryz.zeroValue153
 t105:=Tryz.underlying244
 a105:=Tryz.isAgg244
 z105:=Tryz.sizeOf244
 v105:=Tryz.zeroValue244
 t119:=Tryz.underlying267
 a119:=Tryz.isAgg267
 z119:=Tryz.sizeOf267
 t131:=Tryz.underlying179
 a131:=Tryz.isAgg179
 z131:=Tryz.sizeOf179
 v131:=Tryz.zeroValue179
 t138:=Tryz.underlying269
 a138:=Tryz.isAgg269
 z138:=Tryz.sizeOf269
 v138:=Tryz.zeroValue269
 t139:=Tryz.underlying270
 a139:=Tryz.isAgg270
 z139:=Tryz.sizeOf270
 v139:=Tryz.zeroValue270
 t234:=Tryz.underlying272
 a234:=Tryz.isAgg272
 z234:=Tryz.sizeOf272
 v234:=Tryz.zeroValue272
 t236:=Tryz.underlying23
 a236:=Tryz.isAgg23
 z236:=Tryz.sizeOf23
 v236:=Tryz.zeroValue23
 g3:=by kernel_rfl
 g4:=by kernel_rfl
 g20:=by kernel_rfl
 g21:=by kernel_rfl
 g22:=by kernel_rfl
 g23:=by kernel_rfl
 g24:=by kernel_rfl }
open Go.RowKit in
theorem Tryz.strconv_QuoteC (T:Lib.PrintTabs) (s:ByteArray) (w:World) (hlen:10*s.size+12<=140737488355328) (hT:Lib.PrintTabsAt 6 7 8 9 T w) (hU:Lib.Utf8Tabs 4 5 w) :
  Calls Tryz.prog 117 #[.string s] w fun e w'=>e=.returned (.string (strOfNums (Lib.quoteZ T s)))/\Below w.heap.size w w':=Any.strconv_Quote Tryz.lays177C (by kernel_rfl) T s w hlen hT hU
end Go.Proofs
namespace Go.Proofs.YtoncclhbdkjhmaaGreatDoor
open Go.RowKit
set_option maxRecDepth 100000
set_option linter.unusedVariables false
set_option linter.unusedSimpArgs false
theorem wd_ne (o:Int) (h0:0<=o) (h1:o<=20):wd o ≠ []:=by
 have:o=0\/o=1\/o=2\/o=3\/o=4\/o=5\/o=6\/o=7\/o=8\/o=9\/o=10\/o=11\/o=12\/o=13\/o=14\/o=15\/o=16\/o=17\/o=18\/o=19\/o=20:=by omega
 rcases this with rfl | rfl | rfl | rfl | rfl | rfl | rfl | rfl | rfl | rfl | rfl | rfl | rfl | rfl | rfl | rfl | rfl | rfl | rfl | rfl | rfl<;>decide
theorem tx_ne {t:F} (h:rt t=true):txF t ≠ []:=by
 obtain⟨o,z,nm,ks⟩:=t;have hr:=fit_range (rt_node h).1;rw[txF];intro e;exact wd_ne o hr.1 hr.2 (List.append_eq_nil_iff.1 e).1
theorem quote_g:QuoteG:=by
 intro nm h w ht;refine (Tryz.strconv_QuoteC Lib.goPrintTabs nm w ?_ ht.prt ht.utf).mono ?_
 ·have:=h.sz;have e:nm.size=nm.data.toList.length:=by rw[Array.length_toList];rfl
  rw[e];omega
 rintro e w' ⟨rfl,hb⟩;exact⟨by rw[quotedP _ nm h.pl],hb⟩
theorem textG_p (d:Nat) (v:Value) (t:F) (S:Nat->Prop) (w:World) (h:FC w S d v t) (hrt:rt t=true) (htm:Tg d t) (htl:(txF t).length<=900000) (ht:TxT w) :
  Calls Tryz.prog 19 #[v] w fun e w'=>e=.returned (.string ⟨(txF t).toArray⟩)/\Below w.heap.size w w':=by
 have HF:=Lib.hid (h.mono (S':=tS) (fun _ _=>trivial));obtain⟨b,ao,l,c,ko,kl,kc,rfl,-,-,-⟩:=h.open;obtain⟨o,hoo⟩:∃ o,o=t.op:=⟨_,rfl⟩;obtain⟨nm,hnm⟩:∃ o,o=t.name:=⟨_,rfl⟩;rw[<-hoo,<-hnm] at HF ⊢;have HRT:=Lib.hid hrt;have HTM:=Lib.hid htm;have HT:=Lib.hid ht;have HLN:Hid (([]:Bs).length+(txF t).length<=1000000):=Lib.hid (by simp only[lsn];omega);clear h hrt htm ht htl hoo hnm;have HW:=Lib.hid (Below.refl w.heap.size w);go_enter Tryz.func19,Tryz.ntmps19;obtain⟨x1,kf,ef,ekf,hbf,hkf,HBf⟩:=newV w #[.int .i64 o,.bool b,.slice ao l c,.string nm,.slice ko kl kc] 29;replace HW:=Lib.hid (HW.out.trans (hbf.out.mono HW.out.size));obtain⟨x2,ku,eu,eku,hbu,hku,HBu⟩:=newV x1 #[.pointer none,.slice none 0 0] 109;replace HBf:=kBV hbu.out HBf
 replace HW:=Lib.hid (HW.out.trans (hbu.out.mono HW.out.size));have HKU:Hid (w.heap.size<=ku):=Lib.hid (Nat.le_trans hbf.out.size hku.out);have HBL:Hid (Bld ku ku [] x2):=Lib.hid (by rw[<-eu,<-eku];exact Bld.fresh x1);have HBS:Hid (ku<=x2.heap.size):=Lib.hid (Nat.le_of_lt (lt_of_block HBu.out));obtain⟨⟨c0,c1,c2,c3,c4⟩,fc0,fc1,fc2,fc3,fc4⟩:=cells5V HBf.out;go_wp2_with fail;refine (writeG_all quote_g d w x2 _ t ku ku [] HF.out HT.out HRT.out HTM.out HKU.out HW.out HBL.out HBS.out HLN.out).mono ?_;rintro e x3 ⟨⟨v,rfl⟩,hbl,hb,-⟩;clear c0 fc0 c1 fc1 c2 fc2 c3 fc3 c4 fc4;rw[List.nil_append] at hbl;have HBL3:=Lib.hid hbl;have HW3:=Lib.hid (HW.out.trans (hb.mono HKU.out));clear hbl hb;go_wp2_with fail;refine (bw_string ku ku (txF t) x3 HBL3.out (tx_ne HRT.out)).mono ?_;rintro e x4 ⟨rfl,hb⟩
 have HW4:=Lib.hid (HW3.out.trans (hb.mono HKU.out));clear hb;go_wp2_with fail;go_ret;exact⟨rfl,HW4.out⟩
end Go.Proofs.YtoncclhbdkjhmaaGreatDoor
namespace Go.Proofs.YtoncclhbdkjhmaaGreatDoor
open Go.RowKit Go.Maps Go.MapKept Go.ChangeMaps Go.WideShapes Go.WideMaps
open Go.WideElems (Fit rd rg pl rd_val rd_key rg_of elemAt)
set_option maxRecDepth 100000
set_option linter.unusedVariables false
def rdV (v:Value):Option (DataW Value × List MemPlace):=some (.held v,[])
def bsv (s:Bs):Value:=.string ⟨s.toArray⟩
def MapIs (P:Program) (k:TypeId) (w:World) (b:Nat) (m:Bs->Option Value):Prop:=
 ∃ n D,w.ownsMap P k rdV b n D/\∀ s:Bs,s.length<=maxLen->(m s=none->has D (.string s)=false)/\∀ v,m s=some v->has D (.string s)=true/\∀ z,D.atKey (.string s) z=.held v
def DomV (m:Bs->Option Value) (n:Nat):Prop:=∃ L:List Bs,L.length<=n/\∀ x,(m x).isSome->x ∈ L
section
variable {P:Program} {k:TypeId} {w:World} {b:Nat} {m:Bs->Option Value}
theorem key_bs (hk:P.underlying k=some .string) {s:Bs} (hs:s.length<=maxLen):keyOf P k (bsv s)=some (.string s):=by
 unfold bsv;rw[keyOf_string_mk hk (show (⟨s.toArray⟩:ByteArray).size<=maxLen from hs)]
theorem isKey_bs (s:Bs):WideAt.IsKeyLit (.string s):=trivial
theorem str_ne {s t:Bs} (h:t≠s):(Lit.string t)≠(Lit.string s):=fun e=>h (by injection e)
theorem MapIs.keep {w':World} (h:MapIs P k w b m) (hb:w'.heap[b]?=w.heap[b]?):MapIs P k w' b m:=by
 obtain⟨n,D,⟨es,clock,h1,h2⟩,h3⟩:=h;exact⟨n,D,⟨es,clock,hb.trans h1,h2⟩,h3⟩
theorem MapIs.lt (h:MapIs P k w b m):b<w.heap.size:=by obtain⟨n,D,h1,-⟩:=h;exact h1.lt
theorem MapIs.made (w:World) (P:Program) (k:TypeId):MapIs P k (w.alloc (.map #[] 0)) w.heap.size (fun _=>none):=
 ⟨0,_,World.ownsMap_made w P k rdV,fun s hs=>⟨fun _=>rfl,fun v h=>by cases h⟩⟩
theorem MapIs.look_ok {t e:TypeId} (h:MapIs P k w b m) (hk:P.underlying k=some .string) (ht:P.underlying t=some (.map k e)) {z:Value} (hz:(zeroValue e).run P w=.ok z w) {s:Bs} (hs:s.length<=maxLen) :
  (Instr.lookup t (.map (some b)) (bsv s) true).run P w=.ok (.tuple #[(m s).getD z,.bool (m s).isSome]) w:=by
 obtain⟨n,D,h1,h3⟩:=h;obtain⟨v,ps,hr,hv⟩:=h1.look_ok (string_keyed hk) ht hz (zd:=.held z) (zp:=[]) rfl (key_bs hk hs);rw[hr];obtain⟨q1,q2⟩:=h3 s hs;unfold rdV at hv;simp only[Option.some.injEq,Prod.mk.injEq] at hv;cases hm:m s with
 | none =>
  rw[q1 hm];have e1:=atKey_of_not_has (q1 hm) (.held z);rw[e1] at hv;obtain⟨hv,-⟩:=hv;injection hv with hv;rw[hv];rfl
 | some u =>
  obtain⟨a1,a2⟩:=q2 u hm;rw[a1];rw[a2] at hv;obtain⟨hv,-⟩:=hv;injection hv with hv;rw[hv];rfl
theorem nodup_len:∀ {A B:List Bs},A.Pairwise (· ≠ ·)->(∀ x ∈ A,x ∈ B)->A.length<=B.length
 | [],B,_,_=>Nat.zero_le _
 | a::A,B,hp,hs=>by
  obtain⟨h1,h2⟩:=List.pairwise_cons.1 hp;have hB:a ∈ B:=hs a (by simp);have:=nodup_len (A:=A) (B:=B.erase a) h2 fun x hx=>(List.mem_erase_of_ne (fun e=>h1 x hx e.symm)).2 (hs x (by simp[hx]))
  rw[List.length_erase_of_mem hB] at this;have hpos:0<B.length:=List.length_pos_of_mem hB;simp only[lsc];omega
theorem map_size {es:Array MapEntry} {clock n:Nat} {D:DataW Value} (hk:P.underlying k=some .string) (F:Fit P k rdV es clock) (hD:D=.map ((es.toList.map (rg P k rdV)).foldr DataW.insert [])) (hm:∀ s:Bs,s.length<=maxLen->(m s=none->has D (.string s)=false))
  (hd:DomV m n):es.size<=n:=by
 obtain⟨L,hL,hx⟩:=hd;have hkey:∀ x ∈ es.toList,∃ s:Bs,s.length<=maxLen/\x.key=bsv s/\(rg P k rdV x).1=.string s:=by
  intro x hx;obtain⟨y,hy⟩:=F.reads x hx;have h1:=rd_key hy;rw[keyOf_string hk] at h1;rw[rg_of hy];cases hv:x.key<;>simp[mapKey,hk,hv] at h1
  rename_i s;refine⟨s.data.toList,h1.1,?_,h1.2.symm⟩;unfold bsv;rfl
 have hin:∀ x ∈ es.toList,∀ s,(rg P k rdV x).1=.string s->s.length<=maxLen->s ∈ L:=by
  intro x hxe s hs hl;refine hx s ?_;cases hms:m s with
  | some v=>rfl
  | none =>
   have h0:=hm s hl hms;rw[hD,has_eq] at h0;have hmem:rg P k rdV x ∈ (es.toList.map (rg P k rdV)).foldr DataW.insert []:=(WideShapes.sorted_perm _).mem_iff.2 (List.mem_map_of_mem hxe);have:=List.any_eq_false.1 h0 _ hmem;rw[hs,WideAt.sameKey_self (isKey_bs s)] at this;exact absurd rfl this
 have hp:=Maps.fit_apart (string_keyed hk) F;let g:MapEntry->Bs:=fun x=>match (rg P k rdV x).1 with | .string s=>s | _=>[]
 have h1:(es.toList.map g).Pairwise (· ≠ ·):=by
  rw[List.pairwise_map] at hp ⊢;refine List.Pairwise.imp_of_mem ?_ hp;intro a c ha hc hne e;obtain⟨s,-,-,hs⟩:=hkey a ha;obtain⟨t,-,-,ht⟩:=hkey c hc;simp only[g,hs,ht] at e;exact hne (by rw[hs,ht,e])
 have h2:∀ x ∈ es.toList.map g,x ∈ L:=by
  intro x hxm;obtain⟨y,hy,rfl⟩:=List.mem_map.1 hxm;obtain⟨s,hl,-,hs⟩:=hkey y hy;simp only[g,hs];exact hin y hy s hs hl
 have:=nodup_len h1 h2;simp only[List.length_map,Array.length_toList] at this;omega
theorem MapIs.update {t e:TypeId} (h:MapIs P k w b m) (hk:P.underlying k=some .string) (ht:P.underlying t=some (.map k e)) {n:Nat} (hd:DomV m n) (hn:n<maxLen) {s:Bs} (hs:s.length<=maxLen) (v:Value) :
  ∃ w',(Instr.mapUpdate t (.map (some b)) (bsv s) v).run P w=.ok () w'/\MapIs P k w' b (fun x=>if x=s then some v else m x)/\w.grownBy w' (some b):=by
 obtain⟨n',D,⟨es,clock,hb,F,hsz,hD⟩,h3⟩:=h;have hle:=map_size hk F hD (fun s hs=>(h3 s hs).1) hd;have ho:w.ownsMap P k rdV b n D:=⟨es,clock,hb,F,hle,hD⟩;obtain⟨w',h1,h2,h4⟩:=ho.update (string_keyed hk) ht hn (key_bs hk hs) (d:=.held v) (ps:=[]) rfl;refine⟨w',h1,⟨_,_,h2,fun x hx=>?_⟩,h4⟩;dsimp only;by_cases hxs:x=s
 ·subst hxs;rw[if_pos rfl];refine⟨fun h=>(by cases h),fun u hu=>?_⟩;injection hu with hu;subst hu;exact⟨has_put_same ho.isMap (isKey_bs _) _,fun z=>atKey_put_same ho.isMap (isKey_bs _) _ z⟩
 rw[if_neg hxs];obtain⟨q1,q2⟩:=h3 x hx;refine⟨fun h=>by rw[has_put_other (str_ne hxs)];exact q1 h,fun u hu=>?_⟩;rw[has_put_other (str_ne hxs)];exact⟨(q2 u hu).1,fun z=>by rw[atKey_put_other (str_ne hxs)];exact (q2 u hu).2 z⟩
end
section
variable {P:Program} (w:World) {ops:Array Oper} {rest:List Oper} {o:Oper} {a:Act} {Q:Exit->Act->World->Prop}
theorem wp_look_ok (hg:o.guard=none) (m x:Operand) (t:TypeId) (hop:o.op=Op.lookup t m x true) (k e:TypeId) (hk:P.underlying k=some .string) (ht:P.underlying t=some (.map k e)) {z:Value} (hz:(zeroValue e).run P w=.ok z w) (b:Nat) (M:Bs->Option Value)
  (hm:a.eval m=.map (some b)) (h:MapIs P k w b M) (s:Bs) (hx:a.eval x=.string ⟨s.toArray⟩) (hs:s.length<=maxLen)
  (hK:wpList P ops Q rest (a.put o.dst (.tuple #[(M s).getD z,.bool (M s).isSome])) w):wpList P ops Q (o::rest) a w:=by
 refine wpList_plain hg fun K' hK'=>?_
 have hrun:=h.look_ok hk ht hz hs;unfold bsv at hrun;unfold Oper.wp;simp[execOp,hop,hm,hx,hrun,Result.andThen];exact hK' _ _ hK
theorem wp_update (hg:o.guard=none) (m x v:Operand) (t:TypeId) (hop:o.op=Op.mapUpdate t m x v) (k e:TypeId) (hk:P.underlying k=some .string) (ht:P.underlying t=some (.map k e)) (b:Nat) (M:Bs->Option Value)
  (hm:a.eval m=.map (some b)) (h:MapIs P k w b M) {n:Nat} (hd:DomV M n) (hn:n<maxLen) (s:Bs) (hx:a.eval x=.string ⟨s.toArray⟩) (hs:s.length<=maxLen) (u:Value) (hv:a.eval v=u)
  (hK:∀ w',MapIs P k w' b (fun x=>if x=s then some u else M x)->w.grownBy w' (some b)->wpList P ops Q rest (a.put o.dst undef) w'):wpList P ops Q (o::rest) a w:=by
 refine wpList_plain hg fun K' hK'=>?_
 obtain⟨w',hrun,r1,r2⟩:=h.update hk ht hd hn hs u;unfold bsv at hrun;unfold Oper.wp;simp[execOp,hop,hm,hx,hv,hrun,Result.andThen];exact hK' _ _ (hK w' r1 r2)
end
end Go.Proofs.YtoncclhbdkjhmaaGreatDoor
namespace Go.Proofs.YtoncclhbdkjhmaaGreatDoor
open Go.RowKit
set_option maxRecDepth 100000
set_option linter.unusedVariables false
set_option linter.unusedSimpArgs false
def fo (o:Int) (ks:List F):F:=.node o 0 ⟨#[]⟩ ks
def nF (n:Int):F:=.node 0 n ⟨#[]⟩ []
def kd (x:F) (i:Nat):F:=x.kids.getD i (nF 0)
def lenF (x:F):F:=fo 6 [x]
def hdF (x:F):F:=fo 7 [x]
def tlF (x:F):F:=fo 11 [x]
def consF (a b:F):F:=fo 10 [a,b]
def nilF:F:=fo 9 []
def leF (a b:F):F:=fo 15 [a,b]
def eqfF (a b:F):F:=fo 16 [a,b]
def notF (a:F):F:=fo 17 [a]
def orF (l:List F):F:=fo 19 l
def addF (a b:F):F:=fo 2 [a,b]
def scF (k:Int) (x:F):F:=.node 3 k ⟨#[]⟩ [x]
def lensF (x:F):List F:=
 leF (nF 0) (lenF x)::(if x.op=9 then [eqfF (lenF x) (nF 0)] else if x.op=10 then [eqfF (lenF x) (addF (lenF (kd x 1)) (nF 1))] else [])
def emptF (x:F):F:=orF [notF (leF (lenF x) (nF 0)),eqfF x nilF]
def fillF (l:F):F:=leF (nF 1) (lenF l)
def tailF (x l:F):List F:=
 [orF [notF (fillF l),eqfF (lenF l) (addF (lenF x) (nF 1))],orF [fillF l,eqfF x nilF],orF [notF (fillF l),eqfF l (consF (hdF l) x)]]
def prodF (x a b:F):List F:=
 [orF [notF (leF (nF 0) a),notF (leF (nF 0) b),leF (nF 0) x],orF [notF (leF a (nF 0)),notF (leF b (nF 0)),leF (nF 0) x],
  orF [notF (leF (nF 0) a),notF (leF b (nF 0)),leF x (nF 0)],orF [notF (leF a (nF 0)),notF (leF (nF 0) b),leF x (nF 0)],
  orF [notF (eqfF a (nF 1)),eqfF x b],orF [notF (eqfF b (nF 1)),eqfF x a]]
def factsF (x:F):List F:=
 if x.op=8 then lensF x++[emptF x]
 else if x.op=9 then lensF x
 else if x.op=10 then lensF x++[eqfF (hdF x) (kd x 0),eqfF (tlF x) (kd x 1)]
 else if x.op=11 then lensF x++([emptF x]++tailF x (kd x 0))
 else if x.op=7 then [orF [fillF (kd x 0),eqfF x (nF 0)]]
 else if x.op=5 then [leF (scF x.num x) (kd x 0),leF (kd x 0) (addF (scF x.num x) (nF (x.num - 1)))]
 else if x.op=4 then prodF x (kd x 0) (kd x 1)
 else []
open Classical in
mutual
noncomputable def vis (s:List F):F->List F
 | .node o z nm ks=>if F.node o z nm ks ∈ s then s else viss (s++[.node o z nm ks]) ks
noncomputable def viss (s:List F):List F->List F
 | []=>s
 | k::l=>viss (vis s k) l
end
def nb (t:F):Bool:=decide (srt t.op≠1)
noncomputable def termsF (x:F):List F:=(vis [] x).filter nb
noncomputable def ofF (x:F):List F:=
 let s1:=vis [] x
 let a1:=(s1.filter nb).flatMap factsF
 let s2:=viss s1 a1
 a1++((s2.drop s1.length).filter (fun t=>decide (srt t.op=2))).flatMap lensF
mutual
def AllF (P:F->Prop):F->Prop
 | .node o z nm ks=>P (.node o z nm ks)/\AllFs P ks
def AllFs (P:F->Prop):List F->Prop
 | []=>True
 | k::l=>AllF P k/\AllFs P l
end
theorem AllFs.of {P:F->Prop}:∀ {l:List F},(∀ t ∈ l,AllF P t)->AllFs P l
 | [],_=>by rw[AllFs];trivial
 | k::l,h=>by rw[AllFs];exact⟨h k (by simp),AllFs.of fun t ht=>h t (by simp[ht])⟩
mutual
theorem vis_all {P:F->Prop}:∀ (t:F) (s:List F),(∀ x ∈ s,P x)->AllF P t->(∀ x ∈ vis s t,P x)/\∃ m,vis s t=s++m
 | .node o z nm ks,s,hs,ht=>by
  rw[AllF] at ht;rw[vis]
  split
  ·exact⟨hs,[],by simp⟩
  obtain⟨h1,m,h2⟩:=viss_all ks (s++[.node o z nm ks]) (fun x hx=>by
   rcases List.mem_append.1 hx with hx | hx
   ·exact hs x hx
   rw[List.mem_singleton] at hx;rw[hx];exact ht.1) ht.2
  exact⟨h1,[.node o z nm ks]++m,by rw[h2,List.append_assoc]⟩
theorem viss_all {P:F->Prop}:∀ (l:List F) (s:List F),(∀ x ∈ s,P x)->AllFs P l->(∀ x ∈ viss s l,P x)/\∃ m,viss s l=s++m
 | [],s,hs,_=>by rw[viss];exact⟨hs,[],by simp⟩
 | k::l,s,hs,hl=>by
  rw[AllFs] at hl;rw[viss];obtain⟨h1,m1,h2⟩:=vis_all k s hs hl.1;obtain⟨h3,m2,h4⟩:=viss_all l (vis s k) h1 hl.2;exact⟨h3,m1++m2,by rw[h4,h2,List.append_assoc]⟩
end
theorem fsr_one {ks:List F} {a:Int} (h:srts ks=[a]):∃ k,ks=[k]/\srt k.op=a:=by
 unfold srts at h;match ks,h with
 | [k],h=>exact⟨k,rfl,by simpa using h⟩
theorem fsr_two {ks:List F} {a b:Int} (h:srts ks=[a,b]):∃ k l,ks=[k,l]/\srt k.op=a/\srt l.op=b:=by
 unfold srts at h;match ks,h with
 | [k,l],h=>simp at h;exact⟨k,l,rfl,h.1,h.2⟩
theorem rt_parts {o z:Int} {nm:ByteArray} {ks:List F} (h:rt (.node o z nm ks)=true):kidsOk o (srts ks)=true/\(o=5->1<=z)/\∀ k ∈ ks,rt k=true:=by
 rw[rt,Bool.and_eq_true,rts_all] at h;obtain⟨h1,h2⟩:=h;unfold fitF at h1;rw[Bool.and_eq_true] at h1;refine⟨h1.1,fun e=>?_,List.all_eq_true.1 h2⟩;have:=h1.2;simp[e] at this;exact this
def FactOk (r:ByteArray->V) (y:F):Prop:=rt y=true/\srt y.op=1/\ev r y=.B true
theorem ev0 (r:ByteArray->V) (n:Int):ev r (nF n)=.I n:=rfl
theorem evLen (r:ByteArray->V) (x:F):ev r (lenF x)=.I ((asL (ev r x)).length:Nat):=rfl
theorem evHd (r:ByteArray->V) (x:F):ev r (hdF x)=.I ((asL (ev r x)).headD 0):=rfl
theorem evTl (r:ByteArray->V) (x:F):ev r (tlF x)=.L (asL (ev r x)).tail:=rfl
theorem evCons (r:ByteArray->V) (x y:F):ev r (consF x y)=.L (asI (ev r x)::asL (ev r y)):=rfl
theorem evNil (r:ByteArray->V):ev r nilF=.L []:=rfl
theorem evLe (r:ByteArray->V) (x y:F):ev r (leF x y)=.B (decide (asI (ev r x)<=asI (ev r y))):=rfl
theorem evEq (r:ByteArray->V) (x y:F):ev r (eqfF x y)=.B (decide (ev r x=ev r y)):=rfl
theorem evNot (r:ByteArray->V) (x:F):ev r (notF x)=.B (!asB (ev r x)):=rfl
theorem evAdd (r:ByteArray->V) (x y:F):ev r (addF x y)=.I (asI (ev r x)+asI (ev r y)):=rfl
theorem evSc (r:ByteArray->V) (k:Int) (x:F):ev r (scF k x)=.I (k*asI (ev r x)):=rfl
theorem evOr2 (r:ByteArray->V) (x y:F):ev r (orF [x,y])=.B (asB (ev r x) || asB (ev r y)):=by simp[orF,fo,ev,evs,opV]
theorem evOr3 (r:ByteArray->V) (x y z:F):ev r (orF [x,y,z])=.B (asB (ev r x) || (asB (ev r y) || asB (ev r z))):=by simp[orF,fo,ev,evs,opV]
theorem rt_un {o z:Int} {x:F} (h5:o≠5) (hk:kidsOk o [srt x.op]=true) (hx:rt x=true):rt (.node o z ⟨#[]⟩ [x])=true:=by
 rw[rt,rts,rts,hx];have e:fitF o z (srts [x])=true:=by unfold fitF;rw[show srts [x]=[srt x.op] from rfl,hk];simp[h5]
 rw[e];rfl
theorem rt_bi {o z:Int} {x y:F} (h5:o≠5) (hk:kidsOk o [srt x.op,srt y.op]=true) (hx:rt x=true) (hy:rt y=true):rt (.node o z ⟨#[]⟩ [x,y])=true:=by
 rw[rt,rts,rts,rts,hx,hy];have e:fitF o z (srts [x,y])=true:=by unfold fitF;rw[show srts [x,y]=[srt x.op,srt y.op] from rfl,hk];simp[h5]
 rw[e];rfl
theorem rt_len {x:F} (h:srt x.op=2) (hx:rt x=true):rt (lenF x)=true:=rt_un (by decide) (by rw[h];rfl) hx
theorem rt_hd {x:F} (h:srt x.op=2) (hx:rt x=true):rt (hdF x)=true:=rt_un (by decide) (by rw[h];rfl) hx
theorem rt_tl {x:F} (h:srt x.op=2) (hx:rt x=true):rt (tlF x)=true:=rt_un (by decide) (by rw[h];rfl) hx
theorem rt_not {x:F} (h:srt x.op=1) (hx:rt x=true):rt (notF x)=true:=rt_un (by decide) (by rw[h];rfl) hx
theorem rt_sc {k:Int} {x:F} (h:srt x.op=0) (hx:rt x=true):rt (scF k x)=true:=rt_un (by decide) (by rw[h];rfl) hx
theorem rt_le {x y:F} (h:srt x.op=0) (k:srt y.op=0) (hx:rt x=true) (hy:rt y=true):rt (leF x y)=true:=rt_bi (by decide) (by rw[h,k];rfl) hx hy
theorem rt_add {x y:F} (h:srt x.op=0) (k:srt y.op=0) (hx:rt x=true) (hy:rt y=true):rt (addF x y)=true:=rt_bi (by decide) (by rw[h,k];rfl) hx hy
theorem rt_cons {x y:F} (h:srt x.op=0) (k:srt y.op=2) (hx:rt x=true) (hy:rt y=true):rt (consF x y)=true:=rt_bi (by decide) (by rw[h,k];rfl) hx hy
theorem rt_eq0 {x y:F} (h:srt x.op=0) (k:srt y.op=0) (hx:rt x=true) (hy:rt y=true):rt (eqfF x y)=true:=rt_bi (by decide) (by rw[h,k];rfl) hx hy
theorem rt_eq2 {x y:F} (h:srt x.op=2) (k:srt y.op=2) (hx:rt x=true) (hy:rt y=true):rt (eqfF x y)=true:=rt_bi (by decide) (by rw[h,k];rfl) hx hy
theorem rt_or {l:List F} (h:∀ x ∈ l,srt x.op=1/\rt x=true):rt (orF l)=true:=by
 show (fitF 19 0 (srts l) && rts l)=true
 rw[rts_all,Bool.and_eq_true];refine⟨?_,List.all_eq_true.2 fun x hx=>(h x hx).2⟩;unfold fitF kidsOk srts;simp;exact fun x hx=>(h x hx).1
theorem rt_or2 {x y:F} (h:srt x.op=1) (k:srt y.op=1) (hx:rt x=true) (hy:rt y=true):rt (orF [x,y])=true:=rt_or fun z hz=>by
 simp only[List.mem_cons,List.not_mem_nil,or_false] at hz;rcases hz with rfl | rfl
 ·exact⟨h,hx⟩
 exact⟨k,hy⟩
theorem rt_or3 {x y z:F} (h:srt x.op=1) (k:srt y.op=1) (l:srt z.op=1) (hx:rt x=true) (hy:rt y=true) (hz:rt z=true):rt (orF [x,y,z])=true:=rt_or fun u hu=>by
 simp only[List.mem_cons,List.not_mem_nil,or_false] at hu;rcases hu with rfl | rfl | rfl
 ·exact⟨h,hx⟩
 ·exact⟨k,hy⟩
 exact⟨l,hz⟩
section
variable {r:ByteArray->V}
theorem le_ok {a b:F} (ha:srt a.op=0) (hb:srt b.op=0) (ra:rt a=true) (rb:rt b=true) (h:asI (ev r a)<=asI (ev r b)):FactOk r (leF a b):=
 ⟨rt_le ha hb ra rb,rfl,by rw[evLe];exact congrArg V.B (decide_eq_true h)⟩
theorem eq0_ok {a b:F} (ha:srt a.op=0) (hb:srt b.op=0) (ra:rt a=true) (rb:rt b=true) (h:asI (ev r a)=asI (ev r b)):FactOk r (eqfF a b):=
 ⟨rt_eq0 ha hb ra rb,rfl,by rw[evEq,ev_int ha,ev_int hb,h];simp⟩
theorem eq2_ok {a b:F} (ha:srt a.op=2) (hb:srt b.op=2) (ra:rt a=true) (rb:rt b=true) (h:asL (ev r a)=asL (ev r b)):FactOk r (eqfF a b):=
 ⟨rt_eq2 ha hb ra rb,rfl,by rw[evEq,ev_list ha,ev_list hb,h];simp⟩
theorem lens_ok {x:F} (hx:rt x=true) (hs:srt x.op=2):∀ y ∈ lensF x,FactOk r y:=by
 obtain⟨o,z,nm,ks⟩:=x;have hp:=rt_parts hx;generalize ex:F.node o z nm ks=x at *;have eo:x.op=o:=by rw[<-ex];rfl
 have h1:FactOk r (leF (nF 0) (lenF x)):=le_ok rfl rfl rfl (rt_len hs hx) (by rw[ev0,evLen];show (0:Int)<=_;simp only[asI];omega);intro y hy;unfold lensF at hy;rcases List.mem_cons.1 hy with rfl | hy
 ·exact h1
 rw[eo] at hy;split at hy
 ·rename_i h9;subst h9;have e:ks=[]:=by have:=hp.1;simpa [kidsOk,srts] using this
  rw[List.mem_singleton] at hy;subst hy;refine eq0_ok rfl rfl (rt_len hs hx) rfl ?_;rw[evLen,ev0,<-ex,ev];rfl
 split at hy
 ·rename_i h10;subst h10;obtain⟨a,b,e,ha,hb⟩:=fsr_two (by have:=hp.1;simpa [kidsOk] using this);have hr:=hp.2.2;subst e;have hkd:kd x 1=b:=by rw[<-ex];rfl
  rw[List.mem_singleton,hkd] at hy;subst hy;have rb:=hr b (by simp);refine eq0_ok rfl rfl (rt_len hs hx) (rt_add rfl rfl (rt_len hb rb) rfl) ?_;rw[evLen,evAdd,evLen,ev0,<-ex,ev];show asI (V.I ((asI (ev r a)::asL (ev r b)).length:Nat))=_
  simp[asI]
 cases hy
theorem empt_ok {x:F} (hx:rt x=true) (hs:srt x.op=2):FactOk r (emptF x):=by
 refine⟨rt_or2 rfl rfl (rt_not rfl (rt_le rfl rfl (rt_len hs hx) rfl)) (rt_eq2 hs rfl hx rfl),rfl,?_⟩;unfold emptF;rw[evOr2,evNot,evLe,evEq,evLen,ev0,evNil,ev_list hs];cases asL (ev r x) with
 | nil=>rfl
 | cons a l =>
  have h:decide ((((a::l).length:Nat):Int)<=0)=false:=decide_eq_false (by rw[lsc];omega);show V.B (!decide ((((a::l).length:Nat):Int)<=0) || _)=_
  rw[h];rfl
theorem tail_ok {l x:F} (hl:rt l=true) (hs:srt l.op=2) (hx:rt x=true) (hsx:srt x.op=2) (he:asL (ev r x)=(asL (ev r l)).tail):∀ y ∈ tailF x l,FactOk r y:=by
 have rf:rt (fillF l)=true:=rt_le rfl rfl rfl (rt_len hs hl);intro y hy;unfold tailF at hy;simp only[List.mem_cons,List.not_mem_nil,or_false] at hy;rcases hy with rfl | rfl | rfl
 ·refine⟨rt_or2 rfl rfl (rt_not rfl rf) (rt_eq0 rfl rfl (rt_len hs hl) (rt_add rfl rfl (rt_len hsx hx) rfl)),rfl,?_⟩;rw[evOr2,evNot,fillF,evLe,evEq,evAdd,evLen,evLen,ev0,he];cases asL (ev r l) with
  | nil=>simp[asB,asI]
  | cons a l=>simp[asB,asI]
 ·refine⟨rt_or2 rfl rfl rf (rt_eq2 hsx rfl hx rfl),rfl,?_⟩;rw[evOr2,fillF,evLe,evEq,evLen,ev0,evNil,ev_list hsx,he];cases asL (ev r l) with
  | nil=>simp[asB,asI]
  | cons a l =>
   have h:decide ((1:Int)<=(((a::l).length:Nat):Int))=true:=decide_eq_true (by rw[lsc];omega);show V.B (decide ((1:Int)<=(((a::l).length:Nat):Int)) || _)=_
   rw[h];rfl
 refine⟨rt_or2 rfl rfl (rt_not rfl rf) (rt_eq2 hs rfl hl (rt_cons rfl hsx (rt_hd hs hl) hx)),rfl,?_⟩;rw[evOr2,evNot,fillF,evLe,evEq,evCons,evLen,evHd,ev0,he,ev_list hs];cases asL (ev r l) with
 | nil=>simp[asB,asI,asL]
 | cons a l=>simp[asB,asI,asL]
theorem quo_fact {a k:Int} (h:1<=k):k*Int.fdiv a k<=a/\a<=k*Int.fdiv a k+(k - 1):=by
 have h1:=Int.mul_fdiv_add_fmod a k;have h2:=Int.fmod_nonneg_of_pos a (show 0<k by omega);have h3:=Int.fmod_lt_of_pos a (show 0<k by omega)
 omega
theorem or2_ok {p q:F} (hp:srt p.op=1) (hq:srt q.op=1) (rp:rt p=true) (rq:rt q=true) (h:asB (ev r p)=true\/asB (ev r q)=true):FactOk r (orF [p,q]):=
 ⟨rt_or2 hp hq rp rq,rfl,by rw[evOr2];rcases h with h | h<;>simp[h]⟩
theorem or3_ok {p q s:F} (hp:srt p.op=1) (hq:srt q.op=1) (hs:srt s.op=1) (rp:rt p=true) (rq:rt q=true) (rs:rt s=true) (h:asB (ev r p)=true\/asB (ev r q)=true\/asB (ev r s)=true):FactOk r (orF [p,q,s]):=
 ⟨rt_or3 hp hq hs rp rq rs,rfl,by rw[evOr3];rcases h with h | h | h<;>simp[h]⟩
theorem bLe (a b:F):(asB (ev r (leF a b))=true)=(asI (ev r a)<=asI (ev r b)):=by rw[evLe];simp[asB]
theorem bNot (a:F):(asB (ev r (notF a))=true)=¬ (asB (ev r a)=true):=by rw[evNot];simp[asB]
theorem bEq0 {a b:F} (ha:srt a.op=0) (hb:srt b.op=0):(asB (ev r (eqfF a b))=true)=(asI (ev r a)=asI (ev r b)):=by rw[evEq,ev_int ha,ev_int hb];simp[asB,asI]
theorem prod_ok {x a b:F} (hx:rt x=true) (hsx:srt x.op=0) (ha:rt a=true) (hsa:srt a.op=0) (hb:rt b=true) (hsb:srt b.op=0) (he:asI (ev r x)=asI (ev r a)*asI (ev r b)):∀ y ∈ prodF x a b,FactOk r y:=by
 have z0:asI (ev r (nF 0))=0:=rfl;have z1:asI (ev r (nF 1))=1:=rfl;have L1:rt (leF (nF 0) a)=true:=rt_le rfl hsa rfl ha;have L2:rt (leF (nF 0) b)=true:=rt_le rfl hsb rfl hb;have L3:rt (leF (nF 0) x)=true:=rt_le rfl hsx rfl hx;have L4:rt (leF a (nF 0))=true:=rt_le hsa rfl ha rfl;have L5:rt (leF b (nF 0))=true:=rt_le hsb rfl hb rfl;have L6:rt (leF x (nF 0))=true:=rt_le hsx rfl hx rfl;have E1:rt (eqfF a (nF 1))=true:=rt_eq0 hsa rfl ha rfl;have E2:rt (eqfF b (nF 1))=true:=rt_eq0 hsb rfl hb rfl;have E3:rt (eqfF x b)=true:=rt_eq0 hsx hsb hx hb;have E4:rt (eqfF x a)=true:=rt_eq0 hsx hsa hx ha;have tri:∀ {p q s:F},srt p.op=1->srt q.op=1->srt s.op=1->rt p=true->rt q=true->rt s=true->((asB (ev r p)=true)->(asB (ev r q)=true)->(asB (ev r s)=true))->FactOk r (orF [notF p,notF q,s]):=fun hp hq hs rp rq rs h =>
  or3_ok rfl rfl hs (rt_not hp rp) (rt_not hq rq) rs (by
   rw[bNot,bNot];exact Classical.byCases (fun h1=>Classical.byCases (fun h2=>.inr (.inr (h h1 h2))) fun h2=>.inr (.inl h2)) fun h1=>.inl h1)
 have duo:∀ {p s:F},srt p.op=1->srt s.op=1->rt p=true->rt s=true->((asB (ev r p)=true)->(asB (ev r s)=true))->FactOk r (orF [notF p,s]):=fun hp hs rp rs h =>
  or2_ok rfl hs (rt_not hp rp) rs (by
   rw[bNot];exact Classical.byCases (fun h1=>.inr (h h1)) fun h1=>.inl h1)
 intro y hy;unfold prodF at hy;simp only[List.mem_cons,List.not_mem_nil,or_false] at hy;rcases hy with rfl | rfl | rfl | rfl | rfl | rfl
 ·refine tri rfl rfl rfl L1 L2 L3 fun h1 h2=>?_
  rw[bLe,z0] at h1 h2 ⊢;rw[he];exact Int.mul_nonneg h1 h2
 ·refine tri rfl rfl rfl L4 L5 L3 fun h1 h2=>?_
  rw[bLe,z0] at h1 h2 ⊢;rw[he];exact Int.mul_nonneg_of_nonpos_of_nonpos h1 h2
 ·refine tri rfl rfl rfl L1 L5 L6 fun h1 h2=>?_
  rw[bLe,z0] at h1 h2 ⊢;rw[he];exact Int.mul_nonpos_of_nonneg_of_nonpos h1 h2
 ·refine tri rfl rfl rfl L4 L2 L6 fun h1 h2=>?_
  rw[bLe,z0] at h1 h2 ⊢;rw[he];exact Int.mul_nonpos_of_nonpos_of_nonneg h1 h2
 ·refine duo rfl rfl E1 E3 fun h1=>?_
  rw[bEq0 hsa rfl,z1] at h1;rw[bEq0 hsx hsb,he,h1,Int.one_mul]
 refine duo rfl rfl E2 E4 fun h1=>?_
 rw[bEq0 hsb rfl,z1] at h1;rw[bEq0 hsx hsa,he,h1,Int.mul_one]
theorem facts_ok {x:F} (hx:rt x=true):∀ y ∈ factsF x,FactOk r y:=by
 obtain⟨o,z,nm,ks⟩:=x;have hp:=rt_parts hx;generalize ex:F.node o z nm ks=x at *;have eo:x.op=o:=by rw[<-ex];rfl
 have ez:x.num=z:=by rw[<-ex];rfl
 have evx:ev r x=opV r o z nm (evs r ks):=by rw[<-ex,ev]
 intro y hy;unfold factsF at hy;rw[eo] at hy;by_cases h8:o=8
 ·rw[if_pos h8] at hy;have hs:srt x.op=2:=by rw[eo,h8];rfl
  rcases List.mem_append.1 hy with hy | hy
  ·exact lens_ok hx hs y hy
  rw[List.mem_singleton] at hy;rw[hy];exact empt_ok hx hs
 rw[if_neg h8] at hy;by_cases h9:o=9
 ·rw[if_pos h9] at hy;exact lens_ok hx (by rw[eo,h9];rfl) y hy
 rw[if_neg h9] at hy;by_cases h10:o=10
 ·rw[if_pos h10] at hy;have hs:srt x.op=2:=by rw[eo,h10];rfl
  rcases List.mem_append.1 hy with hy | hy
  ·exact lens_ok hx hs y hy
  subst h10;obtain⟨a,b,e,ha,hb⟩:=fsr_two (by have:=hp.1;simpa [kidsOk] using this);have hr:=hp.2.2;subst e;have k0:kd x 0=a:=by rw[<-ex];rfl
  have k1:kd x 1=b:=by rw[<-ex];rfl
  have ra:=hr a (by simp);have rb:=hr b (by simp);have e2:ev r x=.L (asI (ev r a)::asL (ev r b)):=evx;rw[k0,k1] at hy;simp only[List.mem_cons,List.not_mem_nil,or_false] at hy;rcases hy with rfl | rfl
  ·exact eq0_ok rfl ha (rt_hd hs hx) ra (by rw[evHd,e2];rfl)
  exact eq2_ok rfl hb (rt_tl hs hx) rb (by rw[evTl,e2];rfl)
 rw[if_neg h10] at hy;have one:∀ s:Int,kidsOk o (srts ks)=decide (srts ks=[s])->∃ k,ks=[k]/\srt k.op=s/\rt k=true/\kd x 0=k:=fun s h=>by
  obtain⟨k,e,hk⟩:=fsr_one (a:=s) (by have:=hp.1;rw[h] at this;exact of_decide_eq_true this);exact⟨k,e,hk,hp.2.2 k (by rw[e];simp),by rw[<-ex,e];rfl⟩
 by_cases h11:o=11
 ·rw[if_pos h11] at hy;have hs:srt x.op=2:=by rw[eo,h11];rfl
  obtain⟨l,e,hl,rl,k0⟩:=one 2 (by rw[h11];rfl);have e2:asL (ev r x)=(asL (ev r l)).tail:=by rw[evx,h11,e];rfl
  rw[k0] at hy;rcases List.mem_append.1 hy with hy | hy
  ·exact lens_ok hx hs y hy
  rcases List.mem_append.1 hy with hy | hy
  ·rw[List.mem_singleton] at hy;rw[hy];exact empt_ok hx hs
  exact tail_ok rl hl hx hs e2 y hy
 rw[if_neg h11] at hy;by_cases h7:o=7
 ·rw[if_pos h7] at hy;obtain⟨l,e,hl,rl,k0⟩:=one 2 (by rw[h7];rfl);have hs:srt x.op=0:=by rw[eo,h7];rfl
  have e2:asI (ev r x)=(asL (ev r l)).headD 0:=by rw[evx,h7,e];rfl
  rw[k0,List.mem_singleton] at hy;subst hy;refine or2_ok rfl rfl (rt_le rfl rfl rfl (rt_len hl rl)) (rt_eq0 hs rfl hx rfl) ?_;unfold fillF;rw[bLe,bEq0 hs rfl,e2,evLen];show (1:Int)<=((asL (ev r l)).length:Nat)\/_=(0:Int)
  cases asL (ev r l) with
  | nil=>exact .inr rfl
  | cons a q=>left;rw[lsc];omega
 rw[if_neg h7] at hy;by_cases h5:o=5
 ·rw[if_pos h5] at hy;obtain⟨a,e,ha,ra,k0⟩:=one 0 (by rw[h5];rfl);have hs:srt x.op=0:=by rw[eo,h5];rfl
  have hz:=hp.2.1 h5;have e2:asI (ev r x)=Int.fdiv (asI (ev r a)) z:=by rw[evx,h5,e];rfl
  have hq:=quo_fact (a:=asI (ev r a)) hz;rw[k0,ez] at hy;simp only[List.mem_cons,List.not_mem_nil,or_false] at hy;rcases hy with rfl | rfl
  ·exact le_ok rfl ha (rt_sc hs hx) ra (by rw[evSc,e2];exact hq.1)
  exact le_ok ha rfl ra (rt_add rfl rfl (rt_sc hs hx) rfl) (by rw[evAdd,evSc,ev0,e2];exact hq.2)
 rw[if_neg h5] at hy;by_cases h4:o=4
 ·rw[if_pos h4] at hy;subst h4;obtain⟨a,b,e,ha,hb⟩:=fsr_two (by have:=hp.1;simpa [kidsOk] using this);have hr:=hp.2.2;subst e;have k0:kd x 0=a:=by rw[<-ex];rfl
  have k1:kd x 1=b:=by rw[<-ex];rfl
  rw[k0,k1] at hy;exact prod_ok hx (by rw[eo];rfl) (hr a (by simp)) ha (hr b (by simp)) hb (by rw[evx];rfl) y hy
 rw[if_neg h4] at hy;cases hy
end
theorem infoNode:(Tryz.prog.info? 167).map (fun i=>(i.zero,i.size,i.bytes))=some (some (.agg #[.int .i64 0,.bool false,.slice none 0 0,.string ⟨#[]⟩,.slice none 0 0,.slice none 0 0,.bool false]),7,112):=by kernel_rfl
structure NdU where
 u:FU
 ko:Option Addr
 kl:Nat
 kc:Nat
 b:Bool
def ndC (n:NdU):List Value:=[.int .i64 n.u.k,.bool (decide (n.u.n.z<0)),.slice n.u.n.o n.u.n.l n.u.n.c,.string n.u.nm,.slice n.u.ko n.u.kl n.u.kc,.slice n.ko n.kl n.kc,.bool n.b]
def nR:El NdU where
 e:=167
 t:=161
 n:=7
 b:=112
 z:=.agg #[.int .i64 0,.bool false,.slice none 0 0,.string ⟨#[]⟩,.slice none 0 0,.slice none 0 0,.bool false]
 f:=ndC
 R _ _:=True
 ok _:=True
 pos:=by decide
 by_:=by decide
 zs:=rfl
 z32:=by intro u hu z;simp only[Value.cells,List.mem_cons,List.not_mem_nil,or_false] at hu;rcases hu with rfl | rfl | rfl | rfl | rfl | rfl | rfl<;>(intro h;cases h)
 ht:=Tryz.underlying161
 info:=infoNode
 len _:=rfl
 one n:=by
  intro u hu;simp only[ndC,List.mem_cons,List.not_mem_nil,or_false] at hu;rcases hu with rfl | rfl | rfl | rfl | rfl | rfl | rfl<;>rfl
 n32 n:=by
  intro u hu z;simp only[ndC,List.mem_cons,List.not_mem_nil,or_false] at hu;rcases hu with rfl | rfl | rfl | rfl | rfl | rfl | rfl<;>(intro h;cases h)
 fr _ _ _:=trivial
 own:=trivial
def RowOf (k:Nat) (w:World) (g:Nat):Prop:=k<g/\∃ a v,w.heap[k]?=some (.cells #[a,v] 163 (0,0))/\v.ownBlock=some g
def Own (B k:Nat) (w:World) (g:Nat):Prop:=
 B<=g/\((∃ es cl,w.heap[g]?=some (.map es cl))\/∃ c T,w.heap[g]?=some (.cells c T (0,0))/\(T=163\/(T=167/\RowOf k w g))/\N32 c.toList)
structure Stp (B k:Nat) (w w':World):Prop where
 os:w'.os=w.os
 tape:w'.tape=w.tape
 output:w'.output=w.output
 size:w.heap.size<=w'.heap.size
 block:∀ g,g<w.heap.size->¬ Own B k w g->w'.heap[g]?=w.heap[g]?
 row:∀ g,g<w.heap.size->RowOf k w' g->RowOf k w g
theorem Stp.refl (B k:Nat) (w:World):Stp B k w w:=⟨rfl,rfl,rfl,Nat.le_refl _,fun _ _ _=>rfl,fun _ _ h=>h⟩
theorem Stp.no {B k:Nat} {w w':World} (h:Stp B k w w') {g:Nat} (hg:g<w.heap.size) (hn:¬ Own B k w g):¬ Own B k w' g:=by
 rintro⟨hB,o⟩;refine hn ⟨hB,?_⟩;rw[h.block g hg hn] at o;rcases o with o | ⟨c,T,h1,h2 | ⟨h2,h3⟩,h4⟩
 ·exact .inl o
 ·exact .inr ⟨c,T,h1,.inl h2,h4⟩
 exact .inr ⟨c,T,h1,.inr ⟨h2,h.row g hg h3⟩,h4⟩
theorem Stp.trans {B k0:Nat} {a b c:World} (h:Stp B k0 a b) (k:Stp B k0 b c):Stp B k0 a c:=
 ⟨k.os.trans h.os,k.tape.trans h.tape,k.output.trans h.output,Nat.le_trans h.size k.size,
  fun g hg hn=>(k.block g (Nat.lt_of_lt_of_le hg h.size) (h.no hg hn)).trans (h.block g hg hn),
  fun g hg hr=>h.row g hg (k.row g (Nat.lt_of_lt_of_le hg h.size) hr)⟩
theorem row_same {k:Nat} {w w':World} (h:k<w.heap.size->w'.heap[k]?=w.heap[k]?):∀ g,g<w.heap.size->RowOf k w' g->RowOf k w g:=by
 rintro g hg ⟨h1,a,v,h2,h3⟩;exact⟨h1,a,v,by rw[<-h (Nat.lt_trans h1 hg)];exact h2,h3⟩
theorem Stp.of_below {B k:Nat} {w w':World} (h:Below w.heap.size w w'):Stp B k w w':=
 ⟨h.os,h.tape,h.output,h.size,fun g hg _=>h.block g hg,row_same fun hk=>h.block k hk⟩
theorem Stp.below {B k:Nat} {w w':World} (h:Stp B k w w') (hB:B<=w.heap.size):Below B w w':=
 ⟨h.os,h.tape,h.output,h.size,fun g hg=>h.block g (Nat.lt_of_lt_of_le hg hB) (fun o=>by have:=o.1;omega)⟩
theorem Stp.of_grown {B k:Nat} {w w':World} {r:Option Nat} (h:w.grownBy w' r) (ho:∀ g,r=some g->Own B k w g) (hk:some k≠r):Stp B k w w':=
 ⟨h.os,h.tape,h.output,h.size,fun q hq hn=>h.block q hq (fun e=>hn (ho q e.symm)),row_same fun hl=>h.block k hl hk⟩
theorem Stp.kn {B k:Nat} {w w':World} (h:Stp B k w w'):KN w w':=by
 intro a z hc;have hl:=World.block_lt_of_cell? w a hc;by_cases ho:Own B k w a.block
 ·exfalso;rcases ho.2 with ⟨es,cl,hm⟩ | ⟨c,T,hm,-,h32⟩
  ·unfold World.cell? at hc;rw[hm] at hc;simp at hc
  exact cell_n32 hm h32 rfl z hc
 rw[cell_keepF (h.block _ hl ho)];exact hc
def NO (B k:Nat) (w:World) (g:Nat):Prop:=¬ Own B k w g
def NS (B k:Nat) (E:Nat->Prop) (w:World) (g:Nat):Prop:=NO B k w g/\¬ E g
theorem FT.stp {B k:Nat} {E:Nat->Prop} {w w':World} {d:Nat} {u:FU} {t:F} (h:FT w (NS B k E w) d u t) (hk:Stp B k w w'):FT w' (NS B k E w') d u t:=
 ((h.lt).keep (fun g hg=>hk.block g hg.2 hg.1.1) hk.kn).mono fun g hg=>⟨hk.no hg.2 hg.1.1,hg.1.2⟩
theorem FT.of_base {k:Nat} {E:Nat->Prop} {S:Nat->Prop} {w0 w:World} {d:Nat} {u:FU} {t:F} (h:FT w0 S d u t) (hb:Below w0.heap.size w0 w) (hE:∀ g,E g->w0.heap.size<=g):FT w (NS w0.heap.size k E w) d u t:=
 ((h.lt).keep (fun g hg=>hb.block g hg.2) (KN.of_below hb)).mono fun g hg=>⟨fun o=>by have:=o.1;omega,fun he=>by have:=hE g he;omega⟩
def IL (B k:Nat) (E:Nat->Prop) (w:World) (v:Value) (l:List Nat):Prop:=∃ ko kc,v=.slice ko l.length kc/\(l.length<=kc/\kc<=maxLen/\(ko=none->kc=0))/\∀ j (h:j<l.length),∃ a,ko=some a/\(NS B k E w a.block/\∃ c,w.heap[a.block]?=some (.cells c 116 (0,0)))/\w.cell? (a.add j)=some (.int .i64 ((l[j]:Nat):Int))
theorem IL.stp {B k:Nat} {E:Nat->Prop} {w w':World} {v:Value} {l:List Nat} (h:IL B k E w v l) (hk:Stp B k w w'):IL B k E w' v l:=by
 obtain⟨ko,kc,e,h1,h2⟩:=h;refine⟨ko,kc,e,h1,fun j hj=>?_⟩;obtain⟨a,ha,hn,hc⟩:=h2 j hj;have hl:=World.block_lt_of_cell? w _ hc;rw[add_blockV] at hl;have hs:=hk.block _ hl hn.1.1;exact⟨a,ha,⟨⟨hk.no hl hn.1.1,hn.1.2⟩,by obtain⟨c,hc'⟩:=hn.2;exact⟨c,hs.trans hc'⟩⟩,by rw[cell_keepF (w:=w) (by rw[add_blockV];exact hs)];exact hc⟩
theorem IL.nil (B k:Nat) (E:Nat->Prop) (w:World):IL B k E w (.slice none 0 0) []:=⟨none,0,rfl,⟨Nat.le_refl _,Nat.zero_le _,fun _=>rfl⟩,fun j hj=>absurd hj (Nat.not_lt_zero j)⟩
theorem IL.block {B k g:Nat} {E:Nat->Prop} {T:TypeId} {w:World} {cs:List Value} {l:List Nat} (h:w.heap[g]?=some (.cells cs.toArray T (0,0))) (hT:T=116/\T≠163/\T≠167) (hE:¬ E g) (hl:l.length<=maxLen) (hc:cs=l.map fun i=>.int .i64 ((i:Nat):Int)):IL B k E w (.slice (some ⟨g,0,none⟩) l.length l.length) l:=by
 refine⟨_,_,rfl,⟨Nat.le_refl _,hl,fun h=>by cases h⟩,fun j hj=>⟨_,rfl,⟨⟨?_,hE⟩,⟨_,by rw[<-hT.1];exact h⟩⟩,?_⟩⟩
 ·rintro⟨-,⟨es,cl,e⟩ | ⟨c,T',e,hT',-⟩⟩
  ·rw[show (⟨g,0,none⟩:Addr).block=g from rfl,h] at e;cases e
  rw[show (⟨g,0,none⟩:Addr).block=g from rfl,h] at e;injection e with e;injection e with _ e;rcases hT' with rfl | ⟨rfl,-⟩
  ·exact hT.2.1 e
  exact hT.2.2 e
 rw[add_litV,Nat.zero_add,cell_of_row w g _ _ _ _ h,hc,gsa,List.getElem?_map,List.getElem?_eq_getElem hj];rfl
end Go.Proofs.YtoncclhbdkjhmaaGreatDoor
