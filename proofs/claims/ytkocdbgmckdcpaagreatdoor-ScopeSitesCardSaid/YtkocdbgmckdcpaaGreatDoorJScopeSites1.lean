/-
 Joined texts: Rely,R7,KBase,KNat,KRef,Shelf,KText,KMul,KSh,KDiv,KPar,KWhoA,KWhoF,LxM,TrM,KTab,TrA,TrG,SsA,PsM,PsR,PsE,PsN,PsU,LxA.
-/
import Derived.Deep.RegionHeld3
import Derived.Lib.Hide
import Init
import Derived.WalkKit
import Derived.WalkSpells
import Derived.WalkLawsBesides
import Derived.Laws.CopyOwn
import Derived.Laws.AppendOwnNone
import Derived.Test.YtkocdbgmckdcpaaGreatDoorRows
import Derived.Deep.QuietTactic
import Derived.BigQuiet
import Derived.Shelf.Strings.Builder1
import Derived.Shelf.Small.Bits
import Derived.Shelf.Small.Strs
import Derived.Shelf.Small.Wraps
import Derived.Shelf.Strconv.Itoa0
import Derived.Shelf.Strconv.Itoa1
import Derived.Shelf.LaysM
import Derived.Shelf.Strconv.Itoa2
import Derived.Shelf.Strconv.Clone
import Derived.Shelf.Strings.Search1
import Derived.Shelf.Strings.Prefix
import Derived.Ground.Names2Prog
import Derived.Shelf.Slices.SearchI
import Derived.Test.YtkocdbgmckdcpaaGreatDoorProg
import Derived.Lib.Builder
import Derived.Lib.ItoaNum
import Derived.Lib.AppendStr
import Derived.RegionTactic
import Derived.StillTailTactics
import Derived.Lib.ItoaMem
import Derived.Deep.DeepCutAuto
import Derived.Test.YtkocdbgmckdcpaaGreatDoorCards
import Derived.Test.YtkocdbgmckdcpaaGreatDoorTie
import Derived.ProofKit
import Derived.OpenShut
import Derived.ShutString
import Derived.ChangeOld
import Derived.Deep.DeepHandedRow
import Derived.Lib.LaidTab
import Derived.LaidMore
import Derived.OwnWalk
import Derived.Laws.OwnMore
import Derived.Deep.AppendLies
import Derived.Deep.DrawnRows
import Derived.RangeFuncNested
import Derived.RangeFuncBound
import Derived.RangeFuncCalls
import Derived.RangeFuncLeaves
import Derived.OrdersIn
set_option maxHeartbeats 32000000
namespace Go.Proofs.YtkocdbgmckdcpaaGreatDoor
open Go.RowKit
set_option maxRecDepth 100000
theorem gsa {α:Type _} {xs:List α} {i:Nat}:xs.toArray[i]?=xs[i]?:=List.getElem?_toArray
theorem gsc {α:Type _} {a:α} {xs:List α} {i:Nat}:(a::xs)[i+1]?=xs[i]?:=List.getElem?_cons_succ
theorem gsz {α:Type _} {a:α} {l:List α}:(a::l)[0]?=some a:=List.getElem?_cons_zero
theorem lsa {α:Type _} {xs ys:List α}:(xs++ys).length=xs.length+ys.length:=List.length_append
theorem lsc {α:Type _} {a:α} {xs:List α}:(a::xs).length=xs.length+1:=List.length_cons
theorem lsn {α:Type _}:([]:List α).length=0:=List.length_nil
theorem t1_ {α:Type _} {a:α} {xs:List α} {i:Nat}:(a::xs).take (i+1)=a::xs.take i:=List.take_succ_cons
theorem t2_ {α:Type _} {l:List α}:l.take 0=[]:=List.take_zero
theorem t3_ {α:Type _} {a:α} {l:List α} {i:Nat}:(a::l).drop (i+1)=l.drop i:=List.drop_succ_cons
theorem t4_ {α:Type _} {l:List α}:l.drop 0=l:=List.drop_zero
theorem t5_ {α:Type _} {l:List α} {i:Nat} {a:α}:l.toArray.setIfInBounds i a=(l.set i a).toArray:=List.setIfInBounds_toArray _ _ _
theorem t6_ {α:Type _} {x:α} {xs:List α} {a:α}:(x::xs).set 0 a=a::xs:=List.set_cons_zero
theorem t7_ {α:Type _} {x:α} {xs:List α} {n:Nat} {a:α}:(x::xs).set (n+1) a=x::xs.set n a:=List.set_cons_succ
def Keeps (w w':World):Prop:=∀ a k z,w.cell? a=some (.int k z)->w'.cell? a=some (.int k z)
def noInt (c:Array Value):Bool:=c.toList.all fun v=>match v with | .int ..=>false | _=>true
structure Priv (g:Nat) (w w':World):Prop where
 os:w'.os=w.os
 tape:w'.tape=w.tape
 output:w'.output=w.output
 size:w'.heap.size=w.heap.size
 block:∀ k,k≠g->w'.heap[k]?=w.heap[k]?
 keeps:Keeps w w'
 shape:∀ c T,w.heap[g]?=some (.cells c T (0,0))->noInt c=true->∃ c',w'.heap[g]?=some (.cells c' T (0,0))/\c'.size=c.size/\noInt c'=true
theorem cell_at {w:World} {g:Nat} {c:Array Value} {T:TypeId} (h:w.heap[g]?=some (.cells c T (0,0))) (i:Nat) {v:Value} (hv:c[i]?=some v):w.cell? ⟨g,i,none⟩=some v:=by
 rw[cell_of_row w g i _ T (0,0) h];exact hv
theorem froz_at {w:World} {g:Nat} {c:Array Value} {T:TypeId} (h:w.heap[g]?=some (.cells c T (0,0))) (i:Nat):w.frozen? ⟨g,i,none⟩=false:=frozen_of_row w g i _ T h
theorem hset2 {w:World} {g:Nat} {T:TypeId} {a b:Value} (h:w.heap[g]?=some (.cells #[a,b] T (0,0))) (x y:Value) :
  ((w.setCell ⟨g,0,none⟩ x).setCell ⟨g,1,none⟩ y).heap[g]?=some (.cells #[x,y] T (0,0)):=by
 rw[heap_setCell_same _ g 1 _ T y (heap_setCell_same w g 0 _ T x h)];rfl
theorem made_at (W:World) (o:Obj) (g:Nat) (h:W.heap.size=g):(W.alloc o).heap[g]?=some o:=by
 subst h
 show (W.heap.push o)[W.heap.size]?=some o
 simp
namespace Rely
abbrev Fact:=(Nat->Value)->Value->World->Prop
def mask (L:List Nat) (x:Nat->Value):Nat->Value:=fun j=>if L.contains j then x j else undef
def upd (x:Nat->Value) (k:Nat) (v:Value):Nat->Value:=fun j=>if j=k then v else x j
def dstOf (ops:List Oper) (j:Nat):Option Tmp:=(ops[j]?).bind (·.dst)
def dep (D:List (List Nat)) (k:Nat):List Nat:=D.getD k []
def ok (ops:List Oper) (D:List (List Nat)) (m size:Nat):Bool:=
 decide (m<=ops.length) && (List.range ops.length).all fun k =>
  match ops[k]? with
  | none=>false
  | some o =>
   (o.after.all fun e=>!Region.binds .any e || decide (e.on<k)) &&
   ((dep D k).all fun j=>(o.after.any fun e=>Region.binds .any e && (e.on==j || (dep D e.on).contains j)) && ((dep D j).all fun i=>(dep D k).contains i) && decide (j<k)) &&
   (decide (k<m) || (List.range m).all fun j=>(dep D k).contains j) &&
   (match o.dst with | none=>true | some d=>decide (d<size) && (List.range k).all fun j=>dstOf ops j != some d)
def okSt (ops:List Oper) (D:List (List Nat)) (al:List Nat) (st:List (Nat × Nat)) (nq:Nat):Bool:=
 (List.range ops.length).all fun k=>match st.lookup k with
  | none=>true
  | some i=>(if i<1000 then (dep D k).contains i && al.contains i else decide (i - 1000<nq)) && (List.range ops.length).all fun j=>j==k || st.lookup j != some i
def pre (ops:List Oper) (D:List (List Nat)) (k t:Nat):Bool:=
 (List.range ops.length).all fun j=>dstOf ops j != some t || j==k || (dep D j).contains k
def fill:List Oper->(Nat->Value)->Nat->Array Value->Array Value
 | [],_,_,t=>t
 | o::l,x,k,t=>fill l x (k+1) (match o.dst with | some d=>t.setIfInBounds d (x k) | none=>t)
def noQ:Exit->Act->World->Prop:=fun _ _ _=>False
def fact (F:List Fact) (j:Nat):Fact:=(F.reverse[j]?).getD fun _ _ _=>True
section
variable (P:Program) (ops:List Oper) (D:List (List Nat)) (al:List Nat) (st:List (Nat × Nat)) (og:Nat->Nat) (nq:Nat) (t0:Array Value) (ds:List Deferred) (w0:World)
def own (k:Nat):Option Nat:=st.lookup k
def tv (x:Nat->Value) (i:Nat):Value:=if i<1000 then x i else .pointer (some ⟨og (i - 1000),0,none⟩)
structure At (F:Nat->Fact) (k:Nat) (T:Array Value) (x:Nat->Value) (w:World):Prop where
 be:∀ B,B<=w0.heap.size->(∀ q,q<nq->B<=og q)->Below B w0 w
 bl:∀ b,b<w0.heap.size->(∀ q,q<nq->og q≠b)->w.heap[b]?=w0.heap[b]?
 kp:Keeps w0 w
 od:∀ q,q<nq->(∀ k',own st k'=some (1000+q)->k'=k\/(dep D k').contains k=true)->w.heap[og q]?=w0.heap[og q]?
 tm:∀ j d,(dep D k).contains j=true->dstOf ops j=some d->T[d]?=some (x j)
 fa:∀ j,(dep D k).contains j=true->F j (mask (dep D j) x) (x j) w
 pre:∀ t,Rely.pre ops D k t=true->T[t]?=t0[t]?
structure Next (V:Fact) (k:Nat) (x:Nat->Value) (w:World) (v:Value) (w':World):Prop where
 is:V x v w'
 bw:own st k=none->Below w.heap.size w w'
 pv:∀ i,own st k=some i->∃ g,tv og x i=.pointer (some ⟨g,0,none⟩)/\Priv g w w'
 al:al.contains k=true->∃ g,v=.pointer (some ⟨g,0,none⟩)/\w.heap.size<=g/\g<w'.heap.size
def Runs (F:Nat->Fact) (k:Nat) (o:Oper) (V:Fact):Prop:=
 ∀ (T:Array Value) (x:Nat->Value) (w:World),At ops D st og nq t0 w0 F k T x w ->
  ∀ K:Act->World->Prop,Hid (∀ v w',Next al st og V k x w v w'->K ((⟨T,ds⟩:Act).put o.dst v) w') ->
   if Region.wanted o (yielded ops.toArray T)=true then o.wp P ⟨T,ds⟩ w K noQ else K ((⟨T,ds⟩:Act).put o.dst undef) w
def Stays (k:Nat) (V:Fact):Prop:=(∀ x v w w',V x v w->Below w.heap.size w w'->V x v w')/\(st ≠ []->∀ x v w w' g,V x v w->(∀ i,own st k=some i->tv og x i ≠ .pointer (some ⟨g,0,none⟩))->Priv g w w'->V x v w')
def Left (F:Nat->Fact) (m:Nat) (x:Nat->Value) (w:World):Prop:=
 ((∀ B,B<=w0.heap.size->(∀ q,q<nq->B<=og q)->Below B w0 w)/\(∀ b,b<w0.heap.size->(∀ q,q<nq->og q≠b)->w.heap[b]?=w0.heap[b]?)/\Keeps w0 w)/\(∀ j,j<m->F j (mask (dep D j) x) (x j) w) /\
 (∀ i,al.contains i=true->i<m->∃ g,x i=.pointer (some ⟨g,0,none⟩)/\w0.heap.size<=g/\g<w.heap.size) /\
 (∀ i j,al.contains i=true->al.contains j=true->i<m->j<m->i≠j->x i≠x j)
def Chain (m:Nat) (G:(Nat->Value)->World->Prop):List Oper->Nat->List Fact->Prop
 | [],k,F=>k=m/\∀ x w,Left D al og nq w0 (fact F) m x w->G x w
 | o::rest,k,F=>(k=m/\∀ x w,Left D al og nq w0 (fact F) m x w->G x w) \/
  ∃ V,Stays st og k V/\Runs P ops D al st og nq t0 ds w0 (fact F) k o V/\Chain m G rest (k+1) (V::F)
variable {P ops D al st og nq t0 ds w0}
def plain (al:List Nat) (st:List (Nat × Nat)) (k:Nat):Bool:=!al.contains k && (own st k).isNone
theorem wanted_at {o:Oper} {T:Array Value} {g d:Nat} {want b:Bool} (hg:o.guard=some (g,want)) (hd:dstOf ops g=some d) (hT:T[d]?=some (.bool b)):Region.wanted o (yielded ops.toArray T)=(b==want):=by
 have hy:yielded ops.toArray T g=some b:=by
  have hd':(ops.toArray[g]?).bind (·.dst)=some d:=by simpa [dstOf] using hd
  unfold yielded;rw[hd'];simp only[Option.bind_some,hT]
 unfold Region.wanted;rw[hg];simp only[hy]
 cases b<;>cases want<;>rfl
structure Inv (H:Nat->Fact) (m:Nat) (listed:Array Bool) (a:Act) (w:World) (x:Nat->Value):Prop where
 tm:∀ j d,listed.getD j false=true->dstOf ops j=some d->a.tmps[d]?=some (x j)
 pre:∀ t,(∀ j,listed.getD j false=true->dstOf ops j≠some t)->a.tmps[t]?=t0[t]?
 sz:a.tmps.size=t0.size
 df:a.defers=ds
 be:∀ B,B<=w0.heap.size->(∀ q,q<nq->B<=og q)->Below B w0 w
 bl:∀ b,b<w0.heap.size->(∀ q,q<nq->og q≠b)->w.heap[b]?=w0.heap[b]?
 kp:Keeps w0 w
 od:∀ q,q<nq->(∀ k',listed.getD k' false=true->own st k'≠some (1000+q))->w.heap[og q]?=w0.heap[og q]?
 sw:w0.heap.size<=w.heap.size
 ls:listed.size=ops.length
 dn:∀ j,listed.getD j false=true->∀ i,(dep D j).contains i=true->listed.getD i false=true
 lt:∀ j,listed.getD j false=true->j<m
 fa:∀ j,listed.getD j false=true->H j (mask (dep D j) x) (x j) w
 pt:∀ i,al.contains i=true->listed.getD i false=true->∃ g,x i=.pointer (some ⟨g,0,none⟩)/\w0.heap.size<=g/\g<w.heap.size
 ne:∀ i j,al.contains i=true->al.contains j=true->listed.getD i false=true->listed.getD j false=true->i≠j->x i≠x j
section
variable {m size:Nat} (hok:ok ops D m size=true)
include hok
end
section
variable {m:Nat} {Q:Exit->Act->World->Prop} {H:Nat->Fact}
def Rest (P:Program) (ops:List Oper) (Q:Exit->Act->World->Prop) (t0:Array Value) (ds:List Deferred) (m:Nat) (x:Nat->Value) (w:World):Prop:=
 wpAny P .any ops.toArray Q (ops.length - m) (List.replicate m true++List.replicate (ops.length - m) false).toArray ⟨fill (ops.take m) x 0 t0,ds⟩ w
end
end
end Rely
namespace R7
structure Priv (g:Nat) (w w':World):Prop where
 os:w'.os=w.os
 tape:w'.tape=w.tape
 output:w'.output=w.output
 size:w.heap.size<=w'.heap.size
 block:∀ k,k<w.heap.size->k≠g->w'.heap[k]?=w.heap[k]?
theorem Priv.of {g:Nat} {w w':World} (h:w.grownBy w' (some g)):Priv g w w':=⟨h.os,h.tape,h.output,h.size,fun k hk hn=>h.block k hk (fun e=>hn (by injection e))⟩
abbrev Fact:=(Nat->Value)->Value->World->Prop
def mask (L:List Nat) (x:Nat->Value):Nat->Value:=fun j=>if L.contains j then x j else undef
theorem mask_in {L:List Nat} {x:Nat->Value} {j:Nat} (h:L.contains j=true):mask L x j=x j:=by
 unfold mask;rw[if_pos h]
def upd (x:Nat->Value) (k:Nat) (v:Value):Nat->Value:=fun j=>if j=k then v else x j
theorem upd_same (x:Nat->Value) (k:Nat) (v:Value):upd x k v k=v:=if_pos rfl
theorem upd_ne (x:Nat->Value) {k j:Nat} (v:Value) (h:j≠k):upd x k v j=x j:=if_neg h
theorem mask_upd {L:List Nat} {x:Nat->Value} {k:Nat} (v:Value) (h:L.contains k=false):mask L (upd x k v)=mask L x:=by
 funext j
 unfold mask
 by_cases hj:L.contains j=true
 ·rw[if_pos hj,if_pos hj,upd_ne];intro e;subst e;rw[h] at hj;cases hj
 rw[if_neg hj,if_neg hj]
def dstOf (ops:List Oper) (j:Nat):Option Tmp:=(ops[j]?).bind (·.dst)
def dep (D:List (List Nat)) (k:Nat):List Nat:=D.getD k []
def ok (ops:List Oper) (D:List (List Nat)) (m size:Nat):Bool:=
 decide (m<=ops.length) && (List.range ops.length).all fun k =>
  match ops[k]? with
  | none=>false
  | some o =>
   (o.after.all fun e=>!Region.binds .any e || decide (e.on<k)) &&
   ((dep D k).all fun j=>(o.after.any fun e=>Region.binds .any e && (e.on==j || (dep D e.on).contains j)) && ((dep D j).all fun i=>(dep D k).contains i) && decide (j<k)) &&
   (decide (k<m) || (List.range m).all fun j=>(dep D k).contains j) &&
   (match o.dst with | none=>true | some d=>decide (d<size) && (List.range k).all fun j=>dstOf ops j != some d)
def okSt (ops:List Oper) (D:List (List Nat)) (al:List Nat) (st:List (Nat × Nat)) (nq:Nat):Bool:=
 (List.range ops.length).all fun k=>match st.lookup k with
  | none=>true
  | some i=>(if i<1000 then (dep D k).contains i && al.contains i else decide (i - 1000<nq)) && (List.range ops.length).all fun j=>j==k || st.lookup j != some i
def pre (ops:List Oper) (D:List (List Nat)) (k t:Nat):Bool:=
 (List.range ops.length).all fun j=>dstOf ops j != some t || j==k || (dep D j).contains k
def fill:List Oper->(Nat->Value)->Nat->Array Value->Array Value
 | [],_,_,t=>t
 | o::l,x,k,t=>fill l x (k+1) (match o.dst with | some d=>t.setIfInBounds d (x k) | none=>t)
theorem fill_eq:∀ (l:List Oper) (x:Nat->Value) (k:Nat) (t T:Array Value),T.size=t.size ->
  (∀ j d,dstOf l j=some d->T[d]?=some (x (k+j)))->(∀ s,(∀ j,dstOf l j≠some s)->T[s]?=t[s]?)->fill l x k t=T
 | [],x,k,t,T,hs,_,hp=>by
  refine Array.ext_getElem? (fun i=>?_);rw[hp i (fun j=>by simp[dstOf])]
  rfl
 | o::l,x,k,t,T,hs,hd,hp=>by
  have hd':∀ j d,dstOf l j=some d->T[d]?=some (x (k+1+j)):=fun j d h=>by
   rw[hd (j+1) d (by simpa [dstOf] using h),Nat.add_right_comm,Nat.add_assoc]
  unfold fill
  cases ho:o.dst with
  | none =>
   refine fill_eq l x (k+1) t T hs hd' (fun s h=>hp s (fun j=>?_))
   cases j with
   | zero=>simp[dstOf,ho]
   | succ j=>simpa [dstOf] using h j
  | some d =>
   have h0:T[d]?=some (x k):=hd 0 d (by simp[dstOf,ho]);have hlt:d<t.size:=by rw[<-hs];exact (Array.getElem?_eq_some_iff.1 h0).1
   refine fill_eq l x (k+1) _ T (by simpa using hs) hd' (fun s h=>?_)
   by_cases e:d=s
   ·subst e;rw[h0]
    simp[hlt]
   rw[Array.getElem?_setIfInBounds_ne e];refine hp s (fun j=>?_)
   cases j with
   | zero=>simp[dstOf,ho,e]
   | succ j=>simpa [dstOf] using h j
def noQ:Exit->Act->World->Prop:=fun _ _ _=>False
def fact (F:List Fact) (j:Nat):Fact:=(F.reverse[j]?).getD fun _ _ _=>True
section
variable (P:Program) (ops:List Oper) (D:List (List Nat)) (al:List Nat) (st:List (Nat × Nat)) (og:Nat->Nat) (nq:Nat) (t0:Array Value) (ds:List Deferred) (w0:World)
def own (k:Nat):Option Nat:=st.lookup k
def tv (x:Nat->Value) (i:Nat):Value:=if i<1000 then x i else .pointer (some ⟨og (i - 1000),0,none⟩)
structure At (F:Nat->Fact) (k:Nat) (T:Array Value) (x:Nat->Value) (w:World):Prop where
 be:∀ B,B<=w0.heap.size->(∀ q,q<nq->B<=og q)->Below B w0 w
 bl:∀ b,b<w0.heap.size->(∀ q,q<nq->og q≠b)->w.heap[b]?=w0.heap[b]?
 od:∀ q,q<nq->(∀ k',own st k'=some (1000+q)->k'=k\/(dep D k').contains k=true)->w.heap[og q]?=w0.heap[og q]?
 tm:∀ j d,(dep D k).contains j=true->dstOf ops j=some d->T[d]?=some (x j)
 fa:∀ j,(dep D k).contains j=true->F j (mask (dep D j) x) (x j) w
 pre:∀ t,R7.pre ops D k t=true->T[t]?=t0[t]?
structure Next (V:Fact) (k:Nat) (x:Nat->Value) (w:World) (v:Value) (w':World):Prop where
 is:V x v w'
 bw:own st k=none->Below w.heap.size w w'
 pv:∀ i,own st k=some i->∃ g,tv og x i=.pointer (some ⟨g,0,none⟩)/\Priv g w w'
 al:al.contains k=true->∃ g,v=.pointer (some ⟨g,0,none⟩)/\w.heap.size<=g/\g<w'.heap.size
def Runs (F:Nat->Fact) (k:Nat) (o:Oper) (V:Fact):Prop:=
 ∀ (T:Array Value) (x:Nat->Value) (w:World),At ops D st og nq t0 w0 F k T x w ->
  ∀ K:Act->World->Prop,Hid (∀ v w',Next al st og V k x w v w'->K ((⟨T,ds⟩:Act).put o.dst v) w') ->
   if Region.wanted o (yielded ops.toArray T)=true then o.wp P ⟨T,ds⟩ w K noQ else K ((⟨T,ds⟩:Act).put o.dst undef) w
def Stays (k:Nat) (V:Fact):Prop:=(∀ x v w w',V x v w->Below w.heap.size w w'->V x v w')/\(st ≠ []->∀ x v w w' g,V x v w->(∀ i,own st k=some i->tv og x i ≠ .pointer (some ⟨g,0,none⟩))->(∃ q,q<nq/\g=og q)->Priv g w w'->V x v w')
def Left (F:Nat->Fact) (m:Nat) (x:Nat->Value) (w:World):Prop:=
 ((∀ B,B<=w0.heap.size->(∀ q,q<nq->B<=og q)->Below B w0 w)/\(∀ b,b<w0.heap.size->(∀ q,q<nq->og q≠b)->w.heap[b]?=w0.heap[b]?) )/\(∀ j,j<m->F j (mask (dep D j) x) (x j) w) /\
 (∀ i,al.contains i=true->i<m->∃ g,x i=.pointer (some ⟨g,0,none⟩)/\w0.heap.size<=g/\g<w.heap.size) /\
 (∀ i j,al.contains i=true->al.contains j=true->i<m->j<m->i≠j->x i≠x j)
def Chain (m:Nat) (G:(Nat->Value)->World->Prop):List Oper->Nat->List Fact->Prop
 | [],k,F=>k=m/\∀ x w,Left D al og nq w0 (fact F) m x w->G x w
 | o::rest,k,F=>(k=m/\∀ x w,Left D al og nq w0 (fact F) m x w->G x w) \/
  ∃ V,Stays st og nq k V/\Runs P ops D al st og nq t0 ds w0 (fact F) k o V/\Chain m G rest (k+1) (V::F)
variable {P ops D al st og nq t0 ds w0}
theorem Chain.done {m:Nat} {G:(Nat->Value)->World->Prop} {l:List Oper} {F:List Fact} (h:∀ x w,Left D al og nq w0 (fact F) m x w->G x w):Chain P ops D al st og nq t0 ds w0 m G l m F:=by
 cases l with
 | nil=>exact⟨rfl,h⟩
 | cons o l=>exact Or.inl ⟨rfl,h⟩
theorem Chain.step {m k:Nat} {G:(Nat->Value)->World->Prop} {o:Oper} {l:List Oper} {F:List Fact} (V:Fact) (hs:Stays st og nq k V) (hr:Runs P ops D al st og nq t0 ds w0 (fact F) k o V)
  (h:Chain P ops D al st og nq t0 ds w0 m G l (k+1) (V::F)):Chain P ops D al st og nq t0 ds w0 m G (o::l) k F:=Or.inr ⟨V,hs,hr,h⟩
def plain (al:List Nat) (st:List (Nat × Nat)) (k:Nat):Bool:=!al.contains k && (own st k).isNone
theorem Next.plain {V:Fact} {k:Nat} {x:Nat->Value} {w:World} {v:Value} {w':World} (hp:plain al st k=true) (h:V x v w') (hb:Below w.heap.size w w'):Next al st og V k x w v w':=by
 unfold R7.plain at hp;simp only[Bool.and_eq_true,Bool.not_eq_true',Option.isNone_iff_eq_none] at hp;exact⟨h,fun _=>hb,fun i hi=>(by rw[hp.2] at hi;cases hi),fun e=>(by rw[hp.1] at e;cases e)⟩
theorem Chain.det {m k:Nat} {G:(Nat->Value)->World->Prop} {o:Oper} {l:List Oper} {F:List Fact} (f:(Nat->Value)->Value) (hp:plain al st k=true)
  (hr:∀ (T:Array Value) (x:Nat->Value) (w:World),At ops D st og nq t0 w0 (fact F) k T x w->Region.wanted o (yielded ops.toArray T)=true/\(execOp (Act.eval ⟨T,ds⟩) o).run P w=.ok (.value (f x)) w)
  (h:Chain P ops D al st og nq t0 ds w0 m G l (k+1) ((fun x v _=>v=f x)::F)):Chain P ops D al st og nq t0 ds w0 m G (o::l) k F:=by
 refine Chain.step (fun x v _=>v=f x) ⟨fun _ _ _ _ e _=>e,fun _ _ _ _ _ _ e _ _ _=>e⟩ (fun T x w hA K hK=>?_) h;obtain⟨hw,he⟩:=hr T x w hA;rw[if_pos hw];unfold Oper.wp;rw[he];exact hK.out _ _ (Next.plain hp rfl (Below.refl _ _))
theorem Chain.skip {m k:Nat} {G:(Nat->Value)->World->Prop} {o:Oper} {l:List Oper} {F:List Fact} (hp:plain al st k=true)
  (hr:∀ (T:Array Value) (x:Nat->Value) (w:World),At ops D st og nq t0 w0 (fact F) k T x w->Region.wanted o (yielded ops.toArray T)=false)
  (h:Chain P ops D al st og nq t0 ds w0 m G l (k+1) ((fun _ v _=>v=undef)::F)):Chain P ops D al st og nq t0 ds w0 m G (o::l) k F:=by
 refine Chain.step (fun _ v _=>v=undef) ⟨fun _ _ _ _ e _=>e,fun _ _ _ _ _ _ e _ _ _=>e⟩ (fun T x w hA K hK=>?_) h;rw[if_neg (by rw[hr T x w hA];exact Bool.noConfusion)];exact hK.out _ _ (Next.plain hp rfl (Below.refl _ _))
theorem Chain.call {m k:Nat} {G:(Nat->Value)->World->Prop} {o:Oper} {l:List Oper} {F:List Fact} (V:Fact) (hs:∀ x v w w',V x v w->Below w.heap.size w w'->V x v w') (hs2:∀ x v w w' g,V x v w->(∃ q,q<nq/\g=og q)->Priv g w w'->V x v w') (hp:plain al st k=true)
  (hr:∀ (T:Array Value) (x:Nat->Value) (w:World),At ops D st og nq t0 w0 (fact F) k T x w->Region.wanted o (yielded ops.toArray T)=true /\
   ∀ K:Act->World->Prop,Hid (∀ v w',V x v w'->Below w.heap.size w w'->K ((⟨T,ds⟩:Act).put o.dst v) w')->o.wp P ⟨T,ds⟩ w K noQ)
  (h:Chain P ops D al st og nq t0 ds w0 m G l (k+1) (V::F)):Chain P ops D al st og nq t0 ds w0 m G (o::l) k F:=by
 refine Chain.step V ⟨hs,fun _ x v w w' g h _ hq hp=>hs2 x v w w' g h hq hp⟩ (fun T x w hA K hK=>?_) h;obtain⟨hw,he⟩:=hr T x w hA;rw[if_pos hw];exact he K fun v w' hv hb=>hK.out v w' (Next.plain hp hv hb)
theorem own_one {st:List (Nat × Nat)} {i k:Nat} (h:(st.all fun p=>p.2 != i || p.1==k)=true):∀ k',own st k'=some i->k'=k:=by
 intro k' hk;unfold own at hk;rw[List.all_eq_true] at h
 have:∀ (l:List (Nat × Nat)),(∀ p ∈ l,(p.2 != i || p.1==k)=true)->l.lookup k'=some i->k'=k:=by
  intro l
  induction l with
  | nil=>intro _ h;cases h
  | cons p l ih =>
   intro hp hl;obtain⟨a,b⟩:=p;rw[List.lookup_cons] at hl
   split at hl
   ·rename_i he
    injection hl with hl;have h1:=hp (a,b) (List.mem_cons_self ..);simp only[Bool.or_eq_true,bne_iff_ne,ne_eq,beq_iff_eq] at h1;rw[beq_iff_eq] at he;rcases h1 with h1 | h1
    ·exact absurd hl h1
    exact he.trans h1
   exact ih (fun p hp'=>hp p (List.mem_cons_of_mem _ hp')) hl
 exact this st h hk
theorem Chain.storeOld {m k:Nat} {G:(Nat->Value)->World->Prop} {o:Oper} {l:List Oper} {F:List Fact} (q j:Nat) (T:TypeId) (ho:own st k=some (1000+q)) (hal:al.contains k=false) (hq:q<nq)
  (hone:∀ k',own st k'=some (1000+q)->k'=k)
  (hr:∀ (Ts:Array Value) (x:Nat->Value) (w:World),At ops D st og nq t0 w0 (fact F) k Ts x w->w.heap[og q]?=w0.heap[og q]? -> Region.wanted o (yielded ops.toArray Ts)=true /\
   ∀ K:Act->World->Prop,Hid (∀ w' c',x j=.agg c'->w'.heap[og q]?=some (.cells c' T (0,0))->Priv (og q) w w'->K ((⟨Ts,ds⟩:Act).put o.dst undef) w')->o.wp P ⟨Ts,ds⟩ w K noQ)
  (h:Chain P ops D al st og nq t0 ds w0 m G l (k+1) ((fun x _ w=>∃ c,x j=.agg c/\w.heap[og q]?=some (.cells c T (0,0)))::F)):Chain P ops D al st og nq t0 ds w0 m G (o::l) k F:=by
 have htv:∀ x,tv og x (1000+q)=.pointer (some ⟨og q,0,none⟩):=fun x=>by unfold tv;rw[if_neg (by omega),Nat.add_sub_cancel_left]
 refine Chain.step _ ⟨fun x v w w' hv hb=>?_,fun _ x v w w' g' hv hne _ hp=>?_⟩ (fun Ts x w hA K hK=>?_) h
 ·obtain⟨c,h2,hg⟩:=hv;exact⟨c,h2,by rw[hb.block _ (Array.getElem?_eq_some_iff.1 hg).1];exact hg⟩
 ·obtain⟨c,h2,hg⟩:=hv;refine⟨c,h2,?_⟩;rw[hp.block _ (Array.getElem?_eq_some_iff.1 hg).1 (fun e=>hne _ ho (by rw[htv,e]))];exact hg
 obtain⟨hw,he⟩:=hr Ts x w hA (hA.od q hq fun k' hk'=>Or.inl (hone k' hk'));rw[if_pos hw];exact he K fun w' c' hj hB hP=>hK.out _ _ ⟨⟨c',hj,hB⟩,fun e=>(by rw[ho] at e;cases e),fun i' hi'=>(by rw[ho] at hi';injection hi' with e;subst e;exact⟨_,htv x,hP⟩),fun e=>(by rw[hal] at e;cases e)⟩
theorem Chain.callOld {m k:Nat} {G:(Nat->Value)->World->Prop} {o:Oper} {l:List Oper} {F:List Fact} (q:Nat) (V:Fact) (hs:∀ x v w w',V x v w->Below w.heap.size w w'->V x v w') (hs2:∀ x v w w' q',V x v w->q'<nq->og q'≠og q->Priv (og q') w w'->V x v w') (ho:own st k=some (1000+q)) (hal:al.contains k=false) (hq:q<nq)
  (hone:∀ k',own st k'=some (1000+q)->k'=k)
  (hr:∀ (Ts:Array Value) (x:Nat->Value) (w:World),At ops D st og nq t0 w0 (fact F) k Ts x w->w.heap[og q]?=w0.heap[og q]? -> Region.wanted o (yielded ops.toArray Ts)=true /\
   ∀ K:Act->World->Prop,Hid (∀ v w',V x v w'->Priv (og q) w w'->K ((⟨Ts,ds⟩:Act).put o.dst v) w')->o.wp P ⟨Ts,ds⟩ w K noQ)
  (h:Chain P ops D al st og nq t0 ds w0 m G l (k+1) (V::F)):Chain P ops D al st og nq t0 ds w0 m G (o::l) k F:=by
 have htv:∀ x,tv og x (1000+q)=.pointer (some ⟨og q,0,none⟩):=fun x=>by unfold tv;rw[if_neg (by omega),Nat.add_sub_cancel_left]
 refine Chain.step V ⟨hs,fun _ x v w w' g' hv hne hq' hp=>?_⟩ (fun Ts x w hA K hK=>?_) h
 ·obtain⟨q',h1,rfl⟩:=hq';exact hs2 x v w w' q' hv h1 (fun e=>hne _ ho (by rw[htv,e])) hp
 obtain⟨hw,he⟩:=hr Ts x w hA (hA.od q hq fun k' hk'=>Or.inl (hone k' hk'));rw[if_pos hw];exact he K fun v w' hV hP=>hK.out _ _ ⟨hV,fun e=>(by rw[ho] at e;cases e),fun i' hi'=>(by rw[ho] at hi';injection hi' with e;subst e;exact⟨_,htv x,hP⟩),fun e=>(by rw[hal] at e;cases e)⟩
theorem fact_lt {V:Fact} {F:List Fact} {j:Nat} (h:j<F.length):fact (V::F) j=fact F j:=by
 unfold fact;rw[List.reverse_cons,List.getElem?_append_left (by simpa using h)]
theorem fact_len {V:Fact} {F:List Fact}:fact (V::F) F.length=V:=by
 unfold fact;rw[List.reverse_cons,List.getElem?_append_right (by simp)]
 simp
theorem At.congr {F F':Nat->Fact} {k:Nat} {T:Array Value} {x:Nat->Value} {w:World} (h:At ops D st og nq t0 w0 F k T x w) (e:∀ j,(dep D k).contains j=true->F j=F' j):At ops D st og nq t0 w0 F' k T x w:=
 ⟨h.be,h.bl,h.od,h.tm,fun j hj=>by rw[<-e j hj];exact h.fa j hj,h.pre⟩
theorem Chain.all {m:Nat} {G:(Nat->Value)->World->Prop} (hlt:∀ k j,k<m->(dep D k).contains j=true->j<k):∀ (l:List Oper) (k:Nat) (F:List Fact),F.length=k->k<=m->(∀ j,l[j]?=ops[k+j]?) ->
  Chain P ops D al st og nq t0 ds w0 m G l k F->∃ H:Nat->Fact,(∀ j,j<k->H j=fact F j) /\
   (∀ j,k<=j->j<m->Stays st og nq j (H j)/\∃ o,ops[j]?=some o/\Runs P ops D al st og nq t0 ds w0 H j o (H j))/\∀ x w,Left D al og nq w0 H m x w->G x w:=by
 intro l
 induction l with
 | nil=>intro k F hF hk hl h;exact⟨fact F,fun _ _=>rfl,fun j h1 h2=>by have:=h.1;omega,h.2⟩
 | cons o l ih =>
  intro k F hF hk hl h;rcases h with ⟨rfl,h⟩ | ⟨V,hs,hr,h⟩
  ·exact⟨fact F,fun _ _=>rfl,fun j h1 h2=>by omega,h⟩
  by_cases hkm:k<m
  ·obtain⟨H,h1,h2,h3⟩:=ih (k+1) (V::F) (by simp[hF]) hkm (fun j=>by have:=hl (j+1);simp at this;rw[this,Nat.add_right_comm,Nat.add_assoc]) h;refine⟨H,fun j hj=>by rw[h1 j (by omega),fact_lt (by omega)],fun j hj hjm=>?_,h3⟩;rcases Nat.lt_or_ge k j with hkj | hkj
   ·exact h2 j hkj hjm
   obtain rfl:j=k:=by omega
   have hH:H j=V:=by rw[h1 j (by omega),<-hF,fact_len]
   refine⟨by rw[hH];exact hs,o,by have:=hl 0;simpa using this.symm,?_⟩;rw[hH];intro T x w hA;exact hr T x w (hA.congr (fun i hi=>by have:=hlt j i hkm hi;rw[h1 i (by omega),fact_lt (by omega)]))
  obtain rfl:k=m:=by omega
  have hl0:∀ (l:List Oper) (k':Nat) (F:List Fact),k<k'->¬ Chain P ops D al st og nq t0 ds w0 k G l k' F:=by
   intro l
   induction l with
   | nil=>intro k' F hk' h;have:=h.1;omega
   | cons o l ih=>intro k' F hk' h;rcases h with ⟨e,_⟩ | ⟨_,_,_,h⟩;(omega);exact ih _ _ (by omega) h
  exact absurd h (hl0 _ _ _ (by omega))
theorem Oper.wp_noQ {o:Oper} {a:Act} {w:World} {K:Act->World->Prop} {Q:Exit->Act->World->Prop} (h:o.wp P a w K noQ):o.wp P a w K Q:=by
 unfold Oper.wp at *;generalize (execOp a.eval o).run P w=r at *
 cases r with
 | ok n w' =>
  cases n<;>simp only[Oper.upon] at h ⊢ <;>
   first
    | exact h
    | exact Calls.mono h (fun e w'' he=>by
      cases e with
      | returned v=>exact he
      | panicked c=>exact False.elim he
      | outgrown=>obtain⟨_,_,hh⟩:=he;exact False.elim hh)
 | halt x w'=>cases x<;>simp only[Oper.upon] at h ⊢<;>exact False.elim h
structure Inv (H:Nat->Fact) (m:Nat) (listed:Array Bool) (a:Act) (w:World) (x:Nat->Value):Prop where
 tm:∀ j d,listed.getD j false=true->dstOf ops j=some d->a.tmps[d]?=some (x j)
 pre:∀ t,(∀ j,listed.getD j false=true->dstOf ops j≠some t)->a.tmps[t]?=t0[t]?
 sz:a.tmps.size=t0.size
 df:a.defers=ds
 be:∀ B,B<=w0.heap.size->(∀ q,q<nq->B<=og q)->Below B w0 w
 bl:∀ b,b<w0.heap.size->(∀ q,q<nq->og q≠b)->w.heap[b]?=w0.heap[b]?
 od:∀ q,q<nq->(∀ k',listed.getD k' false=true->own st k'≠some (1000+q))->w.heap[og q]?=w0.heap[og q]?
 sw:w0.heap.size<=w.heap.size
 ls:listed.size=ops.length
 dn:∀ j,listed.getD j false=true->∀ i,(dep D j).contains i=true->listed.getD i false=true
 lt:∀ j,listed.getD j false=true->j<m
 fa:∀ j,listed.getD j false=true->H j (mask (dep D j) x) (x j) w
 pt:∀ i,al.contains i=true->listed.getD i false=true->∃ g,x i=.pointer (some ⟨g,0,none⟩)/\w0.heap.size<=g/\g<w.heap.size
 ne:∀ i j,al.contains i=true->al.contains j=true->listed.getD i false=true->listed.getD j false=true->i≠j->x i≠x j
section
variable {m size:Nat} (hok:ok ops D m size=true)
include hok
theorem ok_len:m<=ops.length:=by
 unfold ok at hok;simp only[Bool.and_eq_true,decide_eq_true_eq] at hok;exact hok.1
theorem ok_at {k:Nat} {o:Oper} (ho:ops[k]?=some o) :
  (∀ e ∈ o.after,Region.binds .any e=true->e.on<k) /\
  (∀ j,(dep D k).contains j=true->(∃ e ∈ o.after,Region.binds .any e=true/\(e.on=j\/(dep D e.on).contains j=true))/\(∀ i,(dep D j).contains i=true->(dep D k).contains i=true)/\j<k) /\
  (k<m\/∀ j,j<m->(dep D k).contains j=true) /\
  (∀ d,o.dst=some d->d<size/\∀ j,j<k->dstOf ops j≠some d):=by
 unfold ok at hok;simp only[Bool.and_eq_true,decide_eq_true_eq,List.all_eq_true,List.mem_range] at hok;have h:=hok.2 k (List.getElem?_eq_some_iff.1 ho).1;rw[ho] at h;simp only[Bool.and_eq_true,Bool.or_eq_true,Bool.not_eq_true',decide_eq_true_eq,List.all_eq_true,List.mem_range,Array.all_eq_true_iff_forall_mem] at h;obtain⟨⟨⟨h1,h2⟩,h3⟩,h4⟩:=h;refine⟨fun e he hb=>(h1 e he).resolve_left (by rw[hb];exact Bool.noConfusion),fun j hj=>?_,h3,fun d hd=>?_⟩
 ·obtain⟨⟨h5,h6⟩,h7⟩:=h2 j (by simpa using hj);obtain⟨e,he,hb⟩:=Array.any_eq_true'.1 h5;simp only[Bool.and_eq_true,Bool.or_eq_true,beq_iff_eq] at hb;exact⟨⟨e,he,hb.1,hb.2⟩,fun i hi=>h6 i (by simpa using hi),h7⟩
 rw[hd] at h4;simp only[Bool.and_eq_true,decide_eq_true_eq,List.all_eq_true,List.mem_range,bne_iff_ne,ne_eq] at h4;exact h4
theorem ok_lt {k j:Nat} (h:(dep D k).contains j=true) (hk:k<ops.length):j<k:=((ok_at hok (List.getElem?_eq_getElem hk)).2.1 j h).2.2
end
theorem okSt_at (h:okSt ops D al st nq=true) {k:Nat} (hk:k<ops.length):∀ i,own st k=some i->(i<1000->(dep D k).contains i=true/\al.contains i=true)/\(¬ i<1000->i - 1000<nq)/\∀ j,j<ops.length->j≠k->own st j≠some i:=by
 intro i hi;unfold okSt at h;rw[List.all_eq_true] at h;have h1:=h k (List.mem_range.2 hk);unfold own at hi;rw[hi] at h1;simp only[Bool.and_eq_true,List.all_eq_true,List.mem_range,Bool.or_eq_true,beq_iff_eq,bne_iff_ne,ne_eq] at h1;refine⟨fun h2=>?_,fun h2=>?_,fun j hj hjk=>(h1.2 j hj).resolve_left hjk⟩
 ·have h3:=h1.1;rw[if_pos h2] at h3
  simpa using h3
 have h3:=h1.1;rw[if_neg h2] at h3
 simpa using h3
theorem tv_mask {L:List Nat} {x:Nat->Value} {i:Nat} (h:i<1000->L.contains i=true):tv og (mask L x) i=tv og x i:=by
 unfold tv
 split
 ·rename_i hi;exact mask_in (h hi)
 rfl
theorem getD_set {l:Array Bool} {i j:Nat} (h:i<l.size):(l.setIfInBounds i true).getD j false=(decide (j=i) || l.getD j false):=by
 by_cases e:i=j
 ·subst e;simp[h]
 rw[getD_set_ne false e]
 simp[show ¬ j=i from fun x=>e x.symm]
theorem count_false {l:List Bool} {i:Nat} (h:l[i]?=some false):(l.set i true).count false+1=l.count false:=by
 obtain⟨hi,hv⟩:=List.getElem?_eq_some_iff.1 h;rw[List.count_set hi,hv];have:0<l.count false:=List.count_pos_iff.2 (hv ▸ List.getElem_mem hi)
 simp
 omega
section
variable {m:Nat} {Q:Exit->Act->World->Prop} {H:Nat->Fact}
theorem Inv.step (hok:ok ops D m t0.size=true) (hoks:okSt ops D al st nq=true) (h1000:∀ k i,own st k=some i->¬ i<1000) (hog:∀ q,q<nq->og q<w0.heap.size) (hod:∀ q q',q<nq->q'<nq->q≠q'->og q≠og q') (hst:∀ j,j<m->Stays st og nq j (H j)) {listed:Array Bool} {a:Act} {w:World} {x:Nat->Value} (I:Inv (ops:=ops) (D:=D) (al:=al) (st:=st) (og:=og) (nq:=nq) (t0:=t0) (ds:=ds) (w0:=w0) H m listed a w x)
  {k:Nat} {o:Oper} (ho:ops[k]?=some o) (hkm:k<m) (hun:listed.getD k false=false) (hdep:∀ j,(dep D k).contains j=true->listed.getD j false=true) {v:Value} {w':World}
  (hN:Next al st og (H k) k (mask (dep D k) x) w v w'):Inv (ops:=ops) (D:=D) (al:=al) (st:=st) (og:=og) (nq:=nq) (t0:=t0) (ds:=ds) (w0:=w0) H m (listed.setIfInBounds k true) (a.put o.dst v) w' (upd x k v):=by
 have hkl:k<ops.length:=(List.getElem?_eq_some_iff.1 ho).1;have hks:k<listed.size:=by rw[I.ls];exact hkl
 obtain⟨c1,c2,c3,c4⟩:=ok_at hok ho;have hdk:dstOf ops k=o.dst:=by simp[dstOf,ho]
 have hsp:=okSt_at hoks hkl
 -- where operation k stores
 have hpv:∀ i,own st k=some i->∃ g,tv og x i=.pointer (some ⟨g,0,none⟩)/\Priv g w w'/\((i<1000/\w0.heap.size<=g)\/(¬ i<1000/\i - 1000<nq/\g=og (i - 1000))):=by
  intro i ho';obtain⟨g,hg,hp⟩:=hN.pv i ho';obtain⟨h1,h2,h3⟩:=hsp i ho';rw[tv_mask (fun h=>(h1 h).1)] at hg;refine⟨g,hg,hp,?_⟩
  by_cases hi:i<1000
  ·obtain⟨g',e,h4,h5⟩:=I.pt i (h1 hi).2 (hdep i (h1 hi).1);unfold tv at hg;rw[if_pos hi] at hg;rw[hg] at e;injection e with e;injection e with e;injection e with e;subst e;exact Or.inl ⟨hi,h4⟩
  unfold tv at hg;rw[if_neg hi] at hg;injection hg with e;injection e with e;injection e with e;exact Or.inr ⟨hi,h2 hi,e.symm⟩
 have hsw:w.heap.size<=w'.heap.size:=by
  cases ho':own st k with
  | none=>exact (hN.bw ho').size
  | some i=>obtain⟨g,hg,hp,_⟩:=hpv i ho';exact hp.size
 have hbe:∀ B,B<=w0.heap.size->(∀ q,q<nq->B<=og q)->Below B w0 w':=fun B hB hq=>by
  refine (I.be B hB hq).trans ?_
  cases ho':own st k with
  | none=>exact (hN.bw ho').mono (by have:=I.sw;omega)
  | some i =>
   obtain⟨g,hg,hp,hc⟩:=hpv i ho';refine⟨hp.os,hp.tape,hp.output,hsw,fun q hqB=>hp.block q (by have:=I.sw;omega) ?_⟩;rcases hc with ⟨_,hc⟩ | ⟨_,h1,hc⟩
   ·omega
   have:=hq _ h1;omega
 have hbl:∀ b,b<w0.heap.size->(∀ q,q<nq->og q≠b)->w'.heap[b]?=w0.heap[b]?:=fun b hb hq=>by
  rw[<-I.bl b hb hq]
  cases ho':own st k with
  | none=>exact (hN.bw ho').block b (by have:=I.sw;omega)
  | some i =>
   obtain⟨g,hg,hp,hc⟩:=hpv i ho';refine hp.block b (by have:=I.sw;omega) ?_;rcases hc with ⟨_,hc⟩ | ⟨_,h1,hc⟩
   ·omega
   rw[hc];exact fun e=>hq _ h1 e.symm
 have hne:∀ j,listed.getD j false=true->j≠k:=fun j hj e=>by subst e;rw[hun] at hj;cases hj
 have hset:∀ j,(listed.setIfInBounds k true).getD j false=true->j=k\/listed.getD j false=true:=fun j hj=>by
  rw[getD_set hks] at hj;simpa using hj
 have hput:(a.put o.dst v).tmps=match o.dst with | some d=>a.tmps.setIfInBounds d v | none=>a.tmps:=by cases o.dst<;>rfl
 have hself:(dep D k).contains k=false:=by
  cases h:(dep D k).contains k with
  | false=>rfl
  | true=>have:=(c2 k h).2.2;omega
 -- two operations write two slots
 have hds:∀ j d,dstOf ops j=some d->o.dst=some d->j=k:=fun j d h1 h2=>by
  rcases Nat.lt_trichotomy j k with h | h | h
  ·exact absurd h1 ((c4 d h2).2 j h)
  ·exact h
  cases hoj:ops[j]? with
  | none=>simp[dstOf,hoj] at h1
  | some oj=>exact absurd (hdk.trans h2) (((ok_at hok hoj).2.2.2 d (by simpa [dstOf,hoj] using h1)).2 k h)
 refine⟨fun j d hj hd=>?_,fun t ht=>?_,?_,?_,hbe,hbl,fun q hq hl=>?_,Nat.le_trans I.sw hsw,by simpa using I.ls,fun j hj i hi=>?_,fun j hj=>?_,fun j hj=>?_,fun i hi hl=>?_,fun i j hi hj hli hlj hij=>?_⟩
 ·rw[hput];rcases hset j hj with rfl | hj'
  ·rw[hdk] at hd;rw[hd,upd_same];have:=(c4 d hd).1;rw[<-I.sz] at this
   simp[this]
  rw[upd_ne _ _ (hne j hj')]
  cases hod:o.dst with
  | none=>exact I.tm j d hj' hd
  | some e =>
   by_cases hde:e=d
   ·subst hde;exact absurd (hds j e hd hod) (hne j hj')
   simp only[];rw[Array.getElem?_setIfInBounds_ne hde];exact I.tm j d hj' hd
 ·rw[hput];have h1:a.tmps[t]?=t0[t]?:=I.pre t fun j hj=>ht j (by rw[getD_set hks];simp only[hj,Bool.or_true])
  cases hod:o.dst with
  | none=>exact h1
  | some e =>
   have:=ht k (by rw[getD_set hks];simp);rw[hdk,hod] at this;simp only[];rw[Array.getElem?_setIfInBounds_ne (fun h=>this (by rw[h]))];exact h1
 ·rw[hput,<-I.sz];cases o.dst<;>simp
 ·rw[<-I.df];cases o.dst<;>rfl
 ·rw[<-I.od q hq fun k' hk'=>hl k' (by rw[getD_set hks];simp only[hk',Bool.or_true])];have hlt:=hog q hq
  cases ho':own st k with
  | none=>exact (hN.bw ho').block _ (by have:=I.sw;omega)
  | some i =>
   obtain⟨g,hg,hp,hc⟩:=hpv i ho';refine hp.block _ (by have:=I.sw;omega) ?_;rcases hc with ⟨_,hc⟩ | ⟨hi,h1,hc⟩
   ·omega
   rw[hc];refine hod q _ hq h1 (fun e=>hl k (by rw[getD_set hks];simp) ?_);rw[ho',e];congr 1;omega
 ·rw[getD_set hks];rcases hset j hj with rfl | hj'
  ·simp only[hdep i hi,Bool.or_true]
  simp only[I.dn j hj' i hi,Bool.or_true]
 ·rcases hset j hj with rfl | hj'
  ·exact hkm
  exact I.lt j hj'
 ·rcases hset j hj with rfl | hj'
  ·rw[mask_upd _ hself,upd_same];exact hN.is
  rw[upd_ne _ _ (hne j hj'),mask_upd]
  ·cases ho':own st k with
   | none=>exact (hst j (I.lt j hj')).1 _ _ _ _ (I.fa j hj') (hN.bw ho')
   | some i =>
    obtain⟨g,hg,hp,hc⟩:=hpv i ho';obtain⟨h1,h2,h3⟩:=hsp i ho';refine (hst j (I.lt j hj')).2 (fun e=>by subst e;cases ho') _ _ _ _ g (I.fa j hj') (fun i' hi'=>?_) (by rcases hc with ⟨hx,_⟩ | ⟨_,hx,hy⟩;exact absurd hx (h1000 k i ho');exact⟨_,hx,hy⟩) hp;have hjl:j<ops.length:=by have:=I.lt j hj';have:=ok_len hok;omega
    obtain⟨h4,h5,h6⟩:=okSt_at hoks hjl i' hi';have hii:i'≠i:=fun e=>by subst e;exact h3 j hjl (hne j hj') hi'
    rw[tv_mask (fun h=>(h4 h).1)]
    by_cases hi1:i'<1000
    ·obtain⟨g',e',q1,q2⟩:=I.pt i' (h4 hi1).2 (I.dn j hj' i' (h4 hi1).1);have ht:tv og x i'=x i':=if_pos hi1;rw[ht];rcases hc with ⟨hi2,hc⟩ | ⟨hi2,hq2,hc⟩
     ·have ht2:tv og x i=x i:=if_pos hi2;rw[ht2] at hg;exact fun e=>I.ne i' i (h4 hi1).2 (h1 hi2).2 (I.dn j hj' i' (h4 hi1).1) (hdep i (h1 hi2).1) hii (e.trans hg.symm)
     intro e;rw[e'] at e;injection e with e;injection e with e;injection e with e;have:=hog _ hq2;omega
    have ht:tv og x i'=.pointer (some ⟨og (i' - 1000),0,none⟩):=if_neg hi1;rw[ht];intro e;injection e with e;injection e with e;injection e with e;have hl':=hog _ (h5 hi1);rcases hc with ⟨hi2,hc⟩ | ⟨hi2,hq2,hc⟩
    ·omega
    exact hod _ _ (h5 hi1) hq2 (by omega) (e.trans hc)
  cases h:(dep D j).contains k with
  | false=>rfl
  | true=>have:=I.dn j hj' k h;rw[hun] at this;cases this
 ·rcases hset i hl with rfl | hl'
  ·obtain⟨g,h1,h2,h3⟩:=hN.al hi;exact⟨g,by rw[upd_same];exact h1,by have:=I.sw;omega,h3⟩
  obtain⟨g,h1,h2,h3⟩:=I.pt i hi hl';exact⟨g,by rw[upd_ne _ _ (hne i hl')];exact h1,h2,by omega⟩
 rcases hset i hli with rfl | hli'<;>rcases hset j hlj with rfl | hlj'
 ·exact absurd rfl hij
 ·obtain⟨g,h1,h2,h3⟩:=hN.al hi;obtain⟨g',h1',h2',h3'⟩:=I.pt j hj hlj';rw[upd_same,upd_ne _ _ (hne j hlj'),h1,h1'];intro e;injection e with e;injection e with e;injection e with e;omega
 ·obtain⟨g,h1,h2,h3⟩:=hN.al hj;obtain⟨g',h1',h2',h3'⟩:=I.pt i hi hli';rw[upd_same,upd_ne _ _ (hne i hli'),h1,h1'];intro e;injection e with e;injection e with e;injection e with e;omega
 rw[upd_ne _ _ (hne i hli'),upd_ne _ _ (hne j hlj')];exact I.ne i j hi hj hli' hlj' hij
def Rest (P:Program) (ops:List Oper) (Q:Exit->Act->World->Prop) (t0:Array Value) (ds:List Deferred) (m:Nat) (x:Nat->Value) (w:World):Prop:=
 wpAny P .any ops.toArray Q (ops.length - m) (List.replicate m true++List.replicate (ops.length - m) false).toArray ⟨fill (ops.take m) x 0 t0,ds⟩ w
theorem dstOf_take {m j:Nat} (h:j<m):dstOf (ops.take m) j=dstOf ops j:=by
 unfold dstOf;rw[List.getElem?_take_of_lt h]
theorem dstOf_take_ge {m j:Nat} (h:m<=j):dstOf (ops.take m) j=none:=by
 unfold dstOf;rw[List.getElem?_eq_none (by simp;omega)];rfl
theorem finish (hml:m<=ops.length) {listed:Array Bool} {a:Act} {w:World} {x:Nat->Value}
  (I:Inv (ops:=ops) (D:=D) (al:=al) (st:=st) (og:=og) (nq:=nq) (t0:=t0) (ds:=ds) (w0:=w0) H m listed a w x) (hall:∀ j,j<m->listed.getD j false=true)
  (hG:∀ x w,Left D al og nq w0 H m x w->Rest P ops Q t0 ds m x w):wpAny P .any ops.toArray Q (listed.toList.count false) listed a w:=by
 have h:=hG x w ⟨⟨I.be,I.bl⟩,fun j hj=>I.fa j (hall j hj),fun i hi him=>I.pt i hi (hall i him),fun i j hi hj him hjm hij=>I.ne i j hi hj (hall i him) (hall j hjm) hij⟩
 have hl:listed=(List.replicate m true++List.replicate (ops.length - m) false).toArray:=by
  apply Array.ext
  ·rw[I.ls];simp;omega
  intro i h1 h2;rw[I.ls] at h1
  by_cases hi:i<m
  ·have:=hall i hi;rw[Array.getD_eq_getD_getElem?,Array.getElem?_eq_getElem (by rw[I.ls];exact h1)] at this;simp only[Option.getD_some] at this;rw[this]
   simp[List.getElem_append_left,hi]
  have h3:listed.getD i false=false:=by
   cases h:listed.getD i false with
   | false=>rfl
   | true=>exact absurd (I.lt i h) hi
  rw[Array.getD_eq_getD_getElem?,Array.getElem?_eq_getElem (by rw[I.ls];exact h1)] at h3;simp only[Option.getD_some] at h3;rw[h3]
  simp[List.getElem_append,hi]
 have ha:a=⟨fill (ops.take m) x 0 t0,ds⟩:=by
  have e:fill (ops.take m) x 0 t0=a.tmps:=by
   refine fill_eq _ x 0 t0 a.tmps I.sz (fun j d hd=>?_) (fun t ht=>?_)
   ·rcases Nat.lt_or_ge j m with hj | hj
    ·rw[dstOf_take hj] at hd;rw[Nat.zero_add];exact I.tm j d (hall j hj) hd
    rw[dstOf_take_ge hj] at hd;cases hd
   refine I.pre t fun j hj=>?_
   have:=ht j
   rwa [dstOf_take (I.lt j hj)] at this
  rw[e,<-I.df]
 have hc:listed.toList.count false=ops.length - m:=by rw[hl];simp[List.count_replicate]
 rw[hc,hl,ha];exact h
theorem main (hok:ok ops D m t0.size=true) (hoks:okSt ops D al st nq=true) (h1000:∀ k i,own st k=some i->¬ i<1000) (hog:∀ q,q<nq->og q<w0.heap.size) (hod:∀ q q',q<nq->q'<nq->q≠q'->og q≠og q') (hst:∀ j,j<m->Stays st og nq j (H j)) (hrun:∀ j,j<m->∃ o,ops[j]?=some o/\Runs P ops D al st og nq t0 ds w0 H j o (H j))
  (hG:∀ x w,Left D al og nq w0 H m x w->Rest P ops Q t0 ds m x w) :
  ∀ (fuel:Nat) (listed:Array Bool) (a:Act) (w:World) (x:Nat->Value),listed.toList.count false=fuel->Inv (ops:=ops) (D:=D) (al:=al) (st:=st) (og:=og) (nq:=nq) (t0:=t0) (ds:=ds) (w0:=w0) H m listed a w x->wpAny P .any ops.toArray Q fuel listed a w:=by
 have hml:=ok_len hok;intro fuel
 induction fuel with
 | zero =>
  intro listed a w x hc I;rw[<-hc];refine finish hml I (fun j hj=>?_) hG;rw[Array.getD_eq_getD_getElem?,Array.getElem?_eq_getElem (by rw[I.ls];omega)];simp only[Option.getD_some];have h0:=List.count_eq_zero.1 hc
  cases h:listed[j]'(by rw[I.ls];omega) with
  | true=>rfl
  | false=>exact absurd (by rw[<-h];simp) h0
 | succ fuel ih =>
  intro listed a w x hc I
  by_cases hall:∀ j,j<m->listed.getD j false=true
  ·rw[<-hc];exact finish hml I hall hG
  -- what may come up is one of the first m
  have hready:∀ i,i ∈ Region.ready .any ops.toArray listed->listed.getD i false=false/\∃ o,ops[i]?=some o/\(∀ j,(dep D i).contains j=true->listed.getD j false=true)/\i<m:=by
   intro i hi;obtain⟨h1,o,ho,h2⟩:=mem_ready.1 hi;have ho':ops[i]?=some o:=by simpa using ho
   have hlt:i<ops.length:=(List.getElem?_eq_some_iff.1 ho').1;obtain⟨c1,c2,c3,c4⟩:=ok_at hok ho'
   have hd:∀ j,(dep D i).contains j=true->listed.getD j false=true:=fun j hj=>by
    obtain⟨⟨e,he,hb,h3⟩,_⟩:=c2 j hj;rcases h3 with rfl | h3
    ·exact h2 e he hb
    exact I.dn _ (h2 e he hb) j h3
   refine⟨?_,o,ho',hd,c3.resolve_right fun h=>hall fun j hj=>hd j (h j hj)⟩;rw[Array.getD_eq_getD_getElem?,Array.getElem?_eq_getElem (by rw[I.ls];exact hlt)] at h1 ⊢;exact h1
  refine⟨fun hr=>?_,fun i hi=>?_⟩
  ·-- the least that has not come up may come up
   exfalso
   have hex:∃ j,listed.getD j false=false/\j<m:=by
    refine Classical.byContradiction fun h=>hall fun j hj=>?_
    cases h2:listed.getD j false with
    | true=>rfl
    | false=>exact absurd ⟨j,h2,hj⟩ h
   have hmin:∃ j,(listed.getD j false=false/\j<m)/\∀ i,i<j->listed.getD i false=true:=by
    obtain⟨j,h1,h2⟩:=hex
    induction j using Nat.strongRecOn with
    | ind j ihj =>
     by_cases hlow:∃ i,i<j/\listed.getD i false=false
     ·obtain⟨i,h3,h4⟩:=hlow;exact ihj i h3 h4 (by omega)
     refine⟨j,⟨h1,h2⟩,fun i hi=>?_⟩
     cases h5:listed.getD i false with
     | true=>rfl
     | false=>exact absurd ⟨i,hi,h5⟩ hlow
   obtain⟨j,⟨h1,h2⟩,h3⟩:=hmin;have hjo:ops[j]?=some (ops[j]'(by omega)):=List.getElem?_eq_getElem (by omega)
   have:j ∈ Region.ready .any ops.toArray listed:=mem_ready.2 ⟨by
    rw[Array.getD_eq_getD_getElem?,Array.getElem?_eq_getElem (by rw[I.ls];omega)] at h1 ⊢
    exact h1,_,by rw[gsa];exact hjo,fun e he hb=>h3 _ ((ok_at hok hjo).1 e he hb)⟩
   rw[hr] at this;cases this
  obtain⟨hun,o,ho,hd,him⟩:=hready i hi;obtain⟨o',ho',hR⟩:=hrun i him;obtain rfl:o=o':=by rw[ho] at ho';exact Option.some.inj ho'
  have hil:i<ops.length:=(List.getElem?_eq_some_iff.1 ho).1
  have hA:At ops D st og nq t0 w0 H i a.tmps (mask (dep D i) x) w:=by
   obtain⟨c1,c2,c3,c4⟩:=ok_at hok ho;refine⟨I.be,I.bl,fun q hq hk'=>I.od q hq fun k' hlk hok'=>?_,fun j d hj hd'=>?_,fun j hj=>?_,fun t ht=>I.pre t fun j hj hjt=>?_⟩
   ·rcases hk' k' hok' with e | e
    ·subst e;rw[hun] at hlk;cases hlk
    have:=I.dn k' hlk i e;rw[hun] at this;cases this
   ·rw[mask_in hj];exact I.tm j d (hd j hj) hd'
   ·have e:mask (dep D j) (mask (dep D i) x)=mask (dep D j) x:=by
     funext q
     unfold mask
     by_cases hq:(dep D j).contains q=true
     ·rw[if_pos hq,if_pos hq,if_pos ((c2 j hj).2.1 q hq)]
     rw[if_neg hq,if_neg hq]
    rw[e,mask_in hj];exact I.fa j (hd j hj)
   have hjl:j<ops.length:=by have:=I.lt j hj;omega
   unfold R7.pre at ht;rw[List.all_eq_true] at ht;have h1:=ht j (List.mem_range.2 hjl);simp only[Bool.or_eq_true,bne_iff_ne,ne_eq,beq_iff_eq] at h1;rcases h1 with (h1 | h1) | h1
   ·exact h1 hjt
   ·subst h1;rw[hun] at hj;cases hj
   have:=I.dn j hj i h1;rw[hun] at this;cases this
  have hrun1:=hR a.tmps (mask (dep D i) x) w hA (fun a' w'=>∃ v,a'=(a.put o.dst v)/\Next al st og (H i) i (mask (dep D i) x) w v w') (fun v w' hN=>⟨v,by rw[<-I.df],hN⟩);have hil':i<listed.size:=by rw[I.ls];exact hil
  have hcount:(listed.setIfInBounds i true).toList.count false=fuel:=by
   have h1:listed.toList[i]?=some false:=by
    rw[Array.getD_eq_getD_getElem?,Array.getElem?_eq_getElem (by rw[I.ls];exact hil)] at hun;rw[List.getElem?_eq_getElem (by simpa using hil')]
    simpa using hun
   have:=count_false h1;rw[hc] at this;rw[Array.toList_setIfInBounds]
   omega
  have hgo:∀ a' w',(∃ v,a'=(a.put o.dst v)/\Next al st og (H i) i (mask (dep D i) x) w v w')->wpAny P .any ops.toArray Q fuel (listed.setIfInBounds i true) a' w':=by
   rintro a' w' ⟨v,rfl,hN⟩;exact ih _ _ _ _ hcount (I.step hok hoks h1000 hog hod hst ho him hun hd hN)
  unfold wpOp;rw[show ops.toArray[i]?=some o by simpa using ho];simp only[];have hae:(⟨a.tmps,ds⟩:Act)=a:=by rw[<-I.df]
  rw[hae] at hrun1
  split
  ·rename_i hw
   rw[if_pos hw] at hrun1;exact Or.inl (Oper.wp_noQ (Go.Oper.wp_mono hgo hrun1))
  rename_i hw
  rw[if_neg hw] at hrun1;exact hgo _ _ hrun1
theorem own_big {st:List (Nat × Nat)} (h:(st.all fun p=>decide (1000<=p.2))=true):∀ k i,own st k=some i->¬ i<1000:=by
 intro k i hi;unfold own at hi
 induction st with
 | nil=>cases hi
 | cons p l ih =>
  obtain⟨a,b⟩:=p;rw[List.all_cons,Bool.and_eq_true,decide_eq_true_eq] at h;rw[List.lookup_cons] at hi
  split at hi
  ·injection hi with hi;subst hi;have:=h.1;omega
  exact ih h.2 hi
theorem region {id:Nat} {w:World} (hm:P.follows .mixedOrders=true) (D:List (List Nat)) (al:List Nat) (st:List (Nat × Nat)) (og:Nat->Nat) (nq:Nat) (m:Nat) (hok:ok ops D m t0.size=true) (hoks:okSt ops D al st nq=true) (h1000:(st.all fun p=>decide (1000<=p.2))=true) (hog:∀ q,q<nq->og q<w.heap.size) (hod:∀ q q',q<nq->q'<nq->q≠q'->og q≠og q')
  (h:Chain P ops D al st og nq t0 ds w.drew m (Rest P ops Q t0 ds m) ops 0 []):(Code.region id ops.toArray true).wp P Q ⟨t0,ds⟩ w:=by
 refine wp_region_any hm ?_;have hml:=ok_len hok;obtain⟨H,_,h2,h3⟩:=Chain.all (fun k j hk hj=>ok_lt hok hj (by omega)) ops 0 [] rfl (Nat.zero_le _) (fun j=>by rw[Nat.zero_add]) h;have hc:(Array.replicate ops.toArray.size false).toList.count false=ops.toArray.size:=by simp
 refine main (w0:=w.drew) hok hoks (own_big h1000) hog hod (fun j hj=>(h2 j (Nat.zero_le _) hj).1) (fun j hj=>(h2 j (Nat.zero_le _) hj).2) h3 _ _ _ _ (fun _=>undef) hc ?_
 have hno:∀ j,(Array.replicate ops.toArray.size false).getD j false=true->False:=fun j hj=>by
  rw[Array.getD_eq_getD_getElem?] at hj
  by_cases h:j<ops.length<;>simp[h] at hj
 exact⟨fun j _ hj=>(hno j hj).elim,fun _ _=>rfl,rfl,rfl,fun B _ _=>Below.refl _ _,fun _ _ _=>rfl,fun _ _ _=>rfl,Nat.le_refl _,by simp,fun j hj=>(hno j hj).elim,fun j hj=>(hno j hj).elim,fun j hj=>(hno j hj).elim,fun j _ hj=>(hno j hj).elim,fun i j _ _ hj=>(hno i hj).elim⟩
theorem rest_done {x:Nat->Value} {w:World} (h:Q .normal ⟨fill ops x 0 t0,ds⟩ w):Rest P ops Q t0 ds ops.length x w:=by
 unfold Rest;rw[Nat.sub_self,List.take_length];refine⟨?_,h⟩;simp only[List.replicate_zero,List.append_nil];refine List.eq_nil_iff_forall_not_mem.2 (fun i hi=>?_);obtain⟨h1,o,ho,_⟩:=mem_ready.1 hi;have hlt:i<ops.length:=by have:=(Array.getElem?_eq_some_iff.1 ho).1;simpa using this
 simp[Array.getD_eq_getD_getElem?,hlt] at h1
end
end
def lst (n m:Nat):Array Bool:=(List.replicate m true++List.replicate (n - m) false).toArray
def inOrder (ops:List Oper) (m:Nat):Bool:=(List.range ops.length).all fun i=>decide (i<m) || Region.ready .any ops.toArray (lst ops.length i)==[i]
theorem lst_set {n m:Nat} (h:m<n):(lst n m).setIfInBounds m true=lst n (m+1):=by
 unfold lst
 apply Array.ext'
 rw[Array.toList_setIfInBounds]
 show (List.replicate m true++List.replicate (n - m) false).set m true=List.replicate (m+1) true++List.replicate (n - (m+1)) false
 rw[List.set_append_right _ _ (by simp)];simp only[List.length_replicate,Nat.sub_self];obtain⟨r,hr⟩:∃ r,n - m=r+1:=⟨n - m - 1,by omega⟩
 rw[hr,show n - (m+1)=r by omega,List.replicate_succ,List.set_cons_zero,List.replicate_succ',List.append_assoc]
 rfl
theorem ready_full (ops:List Oper):Region.ready .any ops.toArray (lst ops.length ops.length)=[]:=by
 refine List.eq_nil_iff_forall_not_mem.2 (fun i hi=>?_);obtain⟨h1,o,ho,_⟩:=mem_ready.1 hi;have hlt:i<ops.length:=by have:=(Array.getElem?_eq_some_iff.1 ho).1;simpa using this
 simp[lst,Array.getD_eq_getD_getElem?,hlt] at h1
theorem rest_any {P:Program} {ops:List Oper} {Q:Exit->Act->World->Prop}:∀ (r m:Nat),m+r=ops.length->(∀ i,m<=i->i<ops.length->Region.ready .any ops.toArray (lst ops.length i)=[i])->∀ a w,wpList P ops.toArray Q (ops.drop m) a w->wpAny P .any ops.toArray Q r (lst ops.length m) a w
 | 0,m,hm,_,a,w,h=>by
  have e:m=ops.length:=by omega
  subst e;rw[List.drop_length] at h;exact⟨ready_full ops,h⟩
 | r+1,m,hm,hr,a,w,h=>by
  have hlt:m<ops.length:=by omega
  have h0:=hr m (Nat.le_refl _) hlt;refine⟨(fun hn=>by rw[h0] at hn;cases hn),fun i hi=>?_⟩;rw[h0,List.mem_singleton] at hi;subst hi;rw[List.drop_eq_getElem_cons hlt] at h;have ho:ops.toArray[i]?=some ops[i]:=by simp[hlt]
  have ih:=rest_any (P:=P) (Q:=Q) r (i+1) (by omega) (fun j hj hj'=>hr j (by omega) hj');unfold wpOp;rw[ho,lst_set hlt];simp only[wpList] at h ⊢
  split
  ·rename_i hw
   rw[if_pos hw] at h;rcases h with h | h
   ·exact .inl (Go.Oper.wp_mono (fun a' w' h'=>ih a' w' h') h)
   exact .inr h
  rename_i hw
  rw[if_neg hw] at h;exact ih _ _ h
theorem rest_list {P:Program} {ops:List Oper} {Q:Exit->Act->World->Prop} {t0:Array Value} {ds:List Deferred} {m:Nat} {x:Nat->Value} {w:World} (hm:m<=ops.length) (hi:inOrder ops m=true)
  (h:wpList P ops.toArray Q (ops.drop m) ⟨fill (ops.take m) x 0 t0,ds⟩ w):Rest P ops Q t0 ds m x w:=by
 unfold Rest;refine rest_any (ops.length - m) m (by omega) (fun i h1 h2=>?_) _ _ h;unfold inOrder at hi;have:=List.all_eq_true.1 hi i (List.mem_range.2 h2);simp only[Bool.or_eq_true,decide_eq_true_eq,beq_iff_eq] at this;exact this.resolve_left (by omega)
section
variable {P:Program} {ops:List Oper} {D:List (List Nat)} {al:List Nat} {st:List (Nat × Nat)} {og:Nat → Nat} {nq:Nat} {t0:Array Value} {ds:List Deferred} {w0:World}
theorem mi {L:List Nat} {x:Nat → Value} {j:Nat} (h:L.contains j=true):mask L x j=x j:=mask_in h
theorem cd {m k:Nat} {G:(Nat → Value) → World → Prop} {o:Oper} {l:List Oper} {F:List Fact} (f:(Nat → Value) → Value) (hr:∀ (T:Array Value) (x:Nat → Value) (w:World),At ops D st og nq t0 w0 (fact F) k T x w → (execOp (Act.eval ⟨T,ds⟩) o).run P w=.ok (.value (f x)) w)
    (h:Chain P ops D al st og nq t0 ds w0 m G l (k+1) ((fun x v _=>v=f x)::F)) (hp:plain al st k=true:=by rfl) (hw:∀ T:Array Value,Region.wanted o (yielded ops.toArray T)=true:=by (intro T;rfl)):Chain P ops D al st og nq t0 ds w0 m G (o::l) k F:=Chain.det f hp (fun T x w hA=>⟨hw T,hr T x w hA⟩) h
theorem At.tq {F:Nat → Fact} {k:Nat} {T:Array Value} {x:Nat → Value} {w:World} (h:At ops D st og nq t0 w0 F k T x w) (j d:Nat) (h1:(dep D k).contains j=true:=by rfl) (h2:dstOf ops j=some d:=by rfl):T[d]?=some (x j):=h.tm j d h1 h2
theorem At.fq {F:Nat → Fact} {k:Nat} {T:Array Value} {x:Nat → Value} {w:World} (h:At ops D st og nq t0 w0 F k T x w) (j:Nat) (h1:(dep D k).contains j=true:=by rfl):F j (mask (dep D j) x) (x j) w:=h.fa j h1
theorem At.pq {F:Nat → Fact} {k:Nat} {T:Array Value} {x:Nat → Value} {w:World} (h:At ops D st og nq t0 w0 F k T x w) (t:Nat) (h1:R7.pre ops D k t=true:=by kernel_rfl):T[t]?=t0[t]?:=h.pre t h1
theorem b0_ {cur new:World} (h:∀ B,B ≤ cur.drew.heap.size → (∀ q,q<0 → B ≤ og q) → Below B cur.drew new):Below cur.heap.size cur new:=(fun k:Below cur.heap.size cur.drew new=>⟨k.os,k.tape,k.output,k.size,k.block⟩) (h cur.heap.size (Nat.le_refl _) (fun _ h=>absurd h (Nat.not_lt_zero _)))
theorem r0 {id:Nat} {w:World} {Q:Exit → Act → World → Prop} (D:List (List Nat)) (m:Nat) (h:Chain P ops D [] [] (fun _=>0) 0 t0 ds w.drew m (Rest P ops Q t0 ds m) ops 0 []) (hm:P.follows .mixedOrders=true:=by kernel_rfl) (hok:ok ops D m t0.size=true:=by kernel_rfl) (hoks:okSt ops D [] [] 0=true:=by kernel_rfl):(Code.region id ops.toArray true).wp P Q ⟨t0,ds⟩ w:=
  region hm D [] [] (fun _=>0) 0 m hok hoks rfl (fun q h=>absurd h (Nat.not_lt_zero _)) (fun q q' h=>absurd h (Nat.not_lt_zero _)) h
end
end R7
end Go.Proofs.YtkocdbgmckdcpaaGreatDoor
namespace Go.Proofs.YtkocdbgmckdcpaaGreatDoor
set_option maxRecDepth 100000
def val (B:Nat):List Nat->Nat
 | []=>0
 | x::xs=>x+B*val B xs
def Dig (B:Nat) (xs:List Nat):Prop:=∀ x ∈ xs,x<B
theorem val_append (B:Nat) (xs ys:List Nat):val B (xs++ys)=val B xs+B ^ xs.length*val B ys:=by
 induction xs with
 | nil=>simp[val]
 | cons x xs ih=>simp only[List.cons_append,val,ih,lsc,Nat.pow_succ];grind
theorem val_lt {B:Nat} {xs:List Nat} (h:Dig B xs):val B xs<B ^ xs.length:=by
 induction xs with
 | nil=>simp[val]
 | cons x xs ih =>
  have h1:x<B:=h x (by simp);have h2:=ih (fun y hy=>h y (by simp[hy]));simp only[val,lsc,Nat.pow_succ];have:B*(val B xs+1)<=B*B ^ xs.length:=Nat.mul_le_mul_left _ h2
  grind
theorem val_take_succ (B:Nat) (xs:List Nat) (k:Nat) (h:k<xs.length):val B (xs.take (k+1))=val B (xs.take k)+xs.getD k 0*B ^ k:=by
 rw[List.take_succ_eq_append_getElem h,val_append];have e:(xs.take k).length=k:=by simp;omega
 simp[val,e,List.getD,h,Nat.mul_comm]
theorem val_replicate_zero (B n:Nat):val B (List.replicate n 0)=0:=by
 induction n with
 | zero=>rfl
 | succ n ih=>simp[List.replicate_succ,val,ih]
theorem Dig.set {B:Nat} {xs:List Nat} (h:Dig B xs) {i v:Nat} (hv:v<B):Dig B (xs.set i v):=by
 intro x hx;rcases List.mem_or_eq_of_mem_set hx with h' | h'
 ·exact h x h'
 omega
theorem Dig.take {B:Nat} {xs:List Nat} (h:Dig B xs) (n:Nat):Dig B (xs.take n):=fun x hx=>h x (List.mem_of_mem_take hx)
theorem Dig.getD {B:Nat} {xs:List Nat} (h:Dig B xs) (hB:0<B) (i:Nat):xs.getD i 0<B:=by
 by_cases hi:i<xs.length
 ·have:=h xs[i] (List.getElem_mem hi);simpa [List.getD,hi] using this
 simpa [List.getD,Nat.le_of_not_lt hi] using hB
theorem Dig.replicate {B:Nat} (hB:0<B) (n:Nat):Dig B (List.replicate n 0):=fun x hx=>by rw[List.eq_of_mem_replicate hx];exact hB
def nz (xs:List Nat):Nat:=(xs.reverse.dropWhile (· == 0)).length
theorem nz_le (xs:List Nat):nz xs<=xs.length:=by
 unfold nz;have:=(List.dropWhile_suffix (p:=(· == 0)) (l:=xs.reverse)).length_le
 simpa using this
theorem nz_zero {xs:List Nat} {k:Nat} (h:k<xs.length) (h0:xs.getD k 0=0):nz (xs.take (k+1))=nz (xs.take k):=by
 unfold nz;rw[List.take_succ_eq_append_getElem h]
 simp[List.getD,h] at h0
 simp[h0]
theorem nz_pos {xs:List Nat} {k:Nat} (h:k<xs.length) (h0:xs.getD k 0≠0):nz (xs.take (k+1))=k+1:=by
 unfold nz;rw[List.take_succ_eq_append_getElem h]
 simp[List.getD,h] at h0
 have e:(xs[k]==0)=false:=by simpa using h0
 rw[List.reverse_append,List.reverse_singleton,List.singleton_append,List.dropWhile_cons,e]
 simp;omega
def dig (B:Nat) (n:Nat):List Nat:=
 if _h:2<=B/\0<n then n % B::dig B (n / B) else []
termination_by n
decreasing_by exact Nat.div_lt_self _h.2 (by omega)
theorem dig_zero (B:Nat):dig B 0=[]:=by unfold dig;simp
theorem dig_pos {B n:Nat} (hB:2<=B) (h:0<n):dig B n=n % B::dig B (n / B):=by rw[dig];simp[hB,h]
theorem val_dig {B:Nat} (hB:2<=B) (n:Nat):val B (dig B n)=n:=by
 induction n using Nat.strongRecOn with
 | ind n ih =>
  by_cases h:0<n
  ·rw[dig_pos hB h];simp only[val];rw[ih _ (Nat.div_lt_self h (by omega))];have:=Nat.mod_add_div n B;omega
  have:n=0:=by omega
  subst this;simp[dig_zero,val]
theorem Dig_dig {B:Nat} (hB:2<=B) (n:Nat):Dig B (dig B n):=by
 induction n using Nat.strongRecOn with
 | ind n ih =>
  by_cases h:0<n
  ·rw[dig_pos hB h];intro x hx;rcases List.mem_cons.1 hx with rfl | hx
   ·exact Nat.mod_lt _ (by omega)
   exact ih _ (Nat.div_lt_self h (by omega)) x hx
  have:n=0:=by omega
  subst this;simp[dig_zero,Dig]
theorem take_nz {B:Nat} (hB:2<=B) {xs:List Nat} (h:Dig B xs):xs.take (nz xs)=dig B (val B xs):=by
 induction xs with
 | nil=>simp[nz,val,dig_zero]
 | cons x xs ih =>
  have hx:x<B:=h x (by simp);have hd:Dig B xs:=fun y hy=>h y (by simp[hy])
  have ih':=ih hd
  by_cases hz:nz xs=0
  ·have hv:val B xs=0:=by
    have:dig B (val B xs)=[]:=by rw[<-ih',hz];rfl
    by_cases h0:0<val B xs
    ·rw[dig_pos hB h0] at this;cases this
    omega
   have hall:xs.reverse.dropWhile (· == 0)=[]:=List.eq_nil_of_length_eq_zero hz;simp only[val,hv,Nat.mul_zero,Nat.add_zero]
   have e:nz (x::xs)=if x=0 then 0 else 1:=by
    unfold nz;rw[List.reverse_cons,List.dropWhile_append,hall]
    by_cases hx0:x=0
    ·simp[hx0]
    simp[hx0,List.dropWhile]
    have:(x==0)=false:=by simpa using hx0
    simp[this]
   by_cases hx0:x=0
   ·rw[e,if_pos hx0,hx0,dig_zero];rfl
   rw[e,if_neg hx0,dig_pos hB (by omega),Nat.mod_eq_of_lt hx,Nat.div_eq_of_lt hx,dig_zero];rfl
  have hne:xs.reverse.dropWhile (· == 0) ≠ []:=fun e=>hz (by unfold nz;rw[e];rfl)
  have e:nz (x::xs)=nz xs+1:=by
   unfold nz;rw[List.reverse_cons,List.dropWhile_append,if_neg (by simpa using hne)]
   simp
  have hv:0<val B xs:=by
   rcases Nat.eq_zero_or_pos (val B xs) with h0 | h0
   ·rw[h0,dig_zero] at ih';have:=congrArg List.length ih'
    simp at this
    have hl:=nz_le xs;rcases this with h1 | h1
    ·omega
    subst h1;simp[nz] at hz
   exact h0
  have hv':0<x+B*val B xs:=by
   have h1:1<=B:=by omega
   have:=Nat.mul_le_mul h1 hv;omega
  rw[e,List.take_succ_cons,ih',val,dig_pos (n:=x+B*val B xs) hB hv'];rw[Nat.add_mul_mod_self_left,Nat.mod_eq_of_lt hx,Nat.add_mul_div_left _ _ (by omega),Nat.div_eq_of_lt hx,Nat.zero_add]
theorem dig_val_take {B:Nat} (hB:2<=B) {xs:List Nat} (h:Dig B xs):dig B (val B xs)=xs.take (nz xs):=(take_nz hB h).symm
theorem length_dig_val {B:Nat} (hB:2<=B) {xs:List Nat} (h:Dig B xs):(dig B (val B xs)).length=nz xs:=by
 rw[dig_val_take hB h,List.length_take];have:=nz_le xs;omega
theorem val_take_nz {B:Nat} (hB:2<=B) {xs:List Nat} (h:Dig B xs):val B (xs.take (nz xs))=val B xs:=by rw[take_nz hB h,val_dig hB]
theorem length_dig_le {B:Nat} (hB:2<=B) {n k:Nat} (h:n<B ^ k):(dig B n).length<=k:=by
 induction k generalizing n with
 | zero=>simp at h;subst h;simp[dig_zero]
 | succ k ih =>
  by_cases h0:0<n
  ·rw[dig_pos hB h0,lsc];have:n / B<B ^ k:=Nat.div_lt_of_lt_mul (by rw[Nat.pow_succ] at h;rw[Nat.mul_comm];exact h);have:=ih this;omega
  have:n=0:=by omega
  subst this;simp[dig_zero]
end Go.Proofs.YtkocdbgmckdcpaaGreatDoor
namespace Go.Proofs.YtkocdbgmckdcpaaGreatDoor
open Go.RowKit
set_option maxRecDepth 100000
def nth (xs:List Nat) (i:Nat):Int:=((xs.getD i 0:Nat):Int)
theorem nth_eq {xs:List Nat} {i:Nat} (h:i<xs.length):nth xs i=((xs[i]:Nat):Int):=by
 unfold nth;simp[List.getD,h]
def Sl (w:World) (k:IntKind) (v:Value) (xs:List Nat):Prop:=
 ∃ (ao:Option Addr) (cap:Nat),v=.slice ao xs.length cap/\xs.length<=cap/\cap<=9223372036854775807/\(ao=none->cap=0) /\
  ∀ i,i<xs.length->∃ a,ao=some a/\w.cell? (a.add i)=some (.int k (nth xs i))
theorem addr_add_add (a:Addr) (i j:Nat):(a.add i).add j=a.add (i+j):=by
 unfold Addr.add
 by_cases hi:i=0
 ·simp[hi]
 by_cases hj:j=0
 ·simp[hj]
 simp[hi,hj];omega
theorem cell_lt {w:World} {a:Addr} {v:Value} (h:w.cell? a=some v):a.block<w.heap.size:=World.block_lt_of_cell? w a h
theorem Sl.nil (w:World) (k:IntKind):Sl w k (.slice none 0 0) []:=
 ⟨none,0,rfl,by simp,by omega,fun _=>rfl,fun i hi=>by simp at hi⟩
theorem Sl.below {w w':World} {k:IntKind} {v:Value} {xs:List Nat} (h:Sl w k v xs) (hb:Below w.heap.size w w'):Sl w' k v xs:=by
 obtain⟨ao,cap,rfl,h1,h2,h3,h4⟩:=h;refine⟨ao,cap,rfl,h1,h2,h3,fun i hi=>?_⟩;obtain⟨a,ha,hc⟩:=h4 i hi;exact⟨a,ha,by rw[hb.cell (cell_lt hc)];exact hc⟩
theorem Sl.take {w:World} {k:IntKind} {ao:Option Addr} {n cap:Nat} {xs:List Nat} (h:Sl w k (.slice ao n cap) xs) (m:Nat) (hm:m<=xs.length):Sl w k (.slice ao m cap) (xs.take m):=by
 obtain⟨ao',cap',e,h1,h2,h3,h4⟩:=h;injection e with e1 e2 e3;subst e1;subst e3;have hl:(xs.take m).length=m:=by simp;omega
 refine⟨ao,cap,by rw[hl],by rw[hl];omega,h2,h3,fun i hi=>?_⟩;rw[hl] at hi;obtain⟨a,ha,hc⟩:=h4 i (by omega);refine⟨a,ha,?_⟩;rw[hc];unfold nth
 simp[List.getD,hi]
def Blk (w:World) (g:Nat) (k:IntKind) (T:TypeId) (l:List Nat):Prop:=
 w.heap[g]?=some (.cells ((l.map fun (n:Nat)=>Value.int k ((n:Nat):Int)).toArray) T (0,0))
theorem Blk.lt {w:World} {g:Nat} {k:IntKind} {T:TypeId} {l:List Nat} (h:Blk w g k T l):g<w.heap.size:=lt_of_block h
theorem Blk.cell {w:World} {g:Nat} {k:IntKind} {T:TypeId} {l:List Nat} (h:Blk w g k T l) {i:Nat} (hi:i<l.length):w.cell? ⟨g,i,none⟩=some (.int k (nth l i)):=by
 rw[cell_of_row w g i _ T (0,0) h]
 simp[hi,nth_eq hi]
theorem Blk.frozen {w:World} {g:Nat} {k:IntKind} {T:TypeId} {l:List Nat} (h:Blk w g k T l) (i:Nat):w.frozen? ⟨g,i,none⟩=false:=frozen_of_row w g i _ T h
theorem Blk.set {w:World} {g:Nat} {k:IntKind} {T:TypeId} {l:List Nat} (h:Blk w g k T l) (i:Nat) (n:Nat) (z:Int) (hz:z=(n:Int)):Blk (w.setCell ⟨g,i,none⟩ (.int k z)) g k T (l.set i n):=by
 subst hz;unfold Blk;rw[heap_setCell_same w g i _ T _ h]
 simp[List.map_set]
theorem addr_at (g off i:Nat):(⟨g,off,none⟩:Addr).add i=⟨g,off+i,none⟩:=by simp[Addr.add]
theorem Blk.sl {w:World} {g:Nat} {k:IntKind} {T:TypeId} {l:List Nat} (h:Blk w g k T l) (off n cap:Nat) (hn:off+n<=l.length) (hc:n<=cap) (hm:cap<=9223372036854775807) :
  Sl w k (.slice (some ⟨g,off,none⟩) n cap) ((l.drop off).take n):=by
 have hl:((l.drop off).take n).length=n:=by simp;omega
 refine⟨some ⟨g,off,none⟩,cap,by rw[hl],by rw[hl];exact hc,hm,(fun e=>by cases e),fun i hi=>⟨_,rfl,?_⟩⟩;rw[hl] at hi;rw[addr_at,h.cell (i:=off+i) (by omega)];unfold nth
 simp[List.getD,hi]
theorem grown_setCell {w0 w:World} {g i:Nat} (h:w0.grownBy w (some g)) (v:Value):w0.grownBy (w.setCell ⟨g,i,none⟩ v) (some g):=
 ⟨h.os,h.tape,h.output,by simpa [World.setCell] using h.size,fun k hk hne=>by
  rw[Below.heap_setCell _ _ _ _ (fun e=>hne (by rw[e]))];exact h.block k hk hne⟩
theorem grown_drew {w0 w:World} {row:Option Nat} (h:w0.grownBy w row):w0.grownBy w.drew row:=⟨h.os,h.tape,h.output,h.size,h.block⟩
def Ws (w:World) (k:IntKind) (T:TypeId) (v:Value) (g:Nat) (pre s post:List Nat):Prop:=
 ∃ (ao:Option Addr) (cap:Nat),v=.slice ao s.length cap/\s.length<=cap/\cap<=9223372036854775807/\(ao=none->cap=0) /\
  (s.length≠0->ao=some ⟨g,pre.length,none⟩/\Blk w g k T (pre++s++post))
def WsAt (w:World) (k:IntKind) (T:TypeId) (ao:Option Addr) (g:Nat) (pre s post:List Nat) (n:Nat):Prop:=
 n≠0->ao=some ⟨g,pre.length,none⟩/\Blk w g k T (pre++s++post)
theorem u32_wf {xs:List Nat} (h:Dig 4294967296 xs) (i:Nat):0<=nth xs i/\nth xs i<4294967296:=by
 have h1:=h.getD (by omega) i;unfold nth;omega
theorem nth_mid (pre s post:List Nat) (i:Nat) (h:i<s.length):nth (pre++s++post) (pre.length+i)=nth s i:=by
 unfold nth
 simp[List.getD,List.getElem?_append_left,List.getElem?_append_right,h]
theorem set_mid (pre s post:List Nat) (i n:Nat) (h:i<s.length):(pre++s++post).set (pre.length+i) n=pre++s.set i n++post:=by
 rw[List.append_assoc,List.set_append_right _ _ (by omega),List.set_append_left _ _ (by omega),List.append_assoc]
 simp
theorem heap_of_owns {w:World} {base:Nat} {e:TypeId} {g n cap:Nat} {xs:List Value} (h:w.ownsRow base e 1 (.slice (some ⟨g,0,none⟩) n cap) n xs) (hn:n=cap):w.heap[g]?=some (.cells xs.toArray e (0,0)):=by
 obtain⟨hl,h2⟩:=h;rcases h2 with ⟨e1,_⟩ | ⟨g',cap',cur,e1,_,hg,_,_,hs,ht⟩
 ·cases e1
 injection e1 with e1 e2 e3;injection e1 with e1;injection e1 with e1;subst e1;subst e3;subst hn;rw[hg,<-ht,Nat.mul_one]
 congr 2
 rw[List.take_of_length_le (by simp[hs])]
theorem wpList_make_blk {P:Program} (w:World) {ops:Array Oper} {rest:List Oper} {o:Oper} {a:Act} {Q:Exit->Act->World->Prop}
  (hg:o.guard=none) (l c:Operand) (t:TypeId) (hop:o.op=Op.makeSlice t l c)
  (e:TypeId) (i:TypeInfo) (k:IntKind) (h1:P.underlying t=some (.slice e)) (h2:P.info? e=some i) (h3:i.zero=some (.int k 0)) (h4:i.size=1)
  (kl kc:IntKind) (L C:Int) (n:Nat) (hl:a.eval l=.int kl L) (hc:a.eval c=.int kc C) (hL:L=(n:Int)) (hC:C=(n:Int)) (b2:i.bytes<=8) (b3:n<=35184372088832)
  (hK:∀ w',Blk w' w.heap.size k e (List.replicate n 0)->Below w.heap.size w w'->w.heap.size<w'.heap.size->wpList P ops Q rest (a.put o.dst (.slice (some ⟨w.heap.size,0,none⟩) n n)) w') :
  wpList P ops Q (o::rest) a w:=by
 have hb:i.bytes*n<=281474976710656:=Nat.le_trans (Nat.mul_le_mul b2 b3) (by omega);refine wpList_make_full w hg l c t hop w.heap.size e i (.int k 0) 1 h1 h2 h3 h4 kl kc L C n hl hc hL hC hb (by unfold maxLen;omega) (Nat.le_refl _) ?_;intro w' ho hgr;have hh:=heap_of_owns ho rfl
 have hB:Blk w' w.heap.size k e (List.replicate n 0):=by
  unfold Blk;rw[hh]
  have:(madeCells (Value.cells (.int k 0)) (n*1)).toList=List.replicate n (.int k 0):=by
   rw[Nat.mul_one];exact toList_madeCells_one _ _
  rw[this]
  simp
 exact hK w' hB ⟨hgr.os,hgr.tape,hgr.output,hgr.size,fun j hj=>hgr.block j hj (by simp)⟩ hB.lt
theorem sig_any (ao:Option Addr) (n cap:Nat) (xs:List Nat) (w:World) (h:Sl w .u32 (.slice ao n cap) xs) :
  Calls Tryz.prog 150 #[.slice ao n cap] w fun e w'=>e=.returned (.slice ao (nz xs) cap)/\w=w':=by
 have H:=Lib.hid h;obtain⟨ao',cap',e,h1,h2,h3,h4⟩:=h;injection e with e1 e2 e3;subst e1;subst e2;subst e3;go_enter Tryz.func150,Tryz.ntmps150
 go_wp2
 go_loop [3] (fun n=>∃ k:Nat,k<=xs.length/\n=.int .i64 k/\Hid (nz (xs.take k)=nz xs)) (fun n=>(intOf n).toNat)
 case atStart=>exact⟨xs.length,Nat.le_refl _,rfl,Lib.hid (by rw[List.take_length])⟩
 case round =>
  obtain⟨k,hk,rfl,Hn⟩:=hrel
  by_cases h0:0<k
  ·obtain⟨a,rfl,g⟩:=h4 (k-1) (by omega);clear h4
   go_wp2
   ·have hz:(nth xs (k - 1)==0)=true:=by assumption
    go_round
    case rel=>exact⟨k - 1,by omega,by go_num,Lib.hid (by rw[<-Hn.out,<-nz_zero (k:=k - 1) (by omega) (by have:=nth_eq (xs:=xs) (i:=k - 1) (by omega);simp at hz;unfold nth at hz;omega),show k - 1+1=k by omega])⟩
    case measure=>simp[intOf];omega
   have hz:(nth xs (k - 1)==0)=false:=by assumption
   have hk':k=nz xs:=by
    rw[<-Hn.out,show k=(k - 1)+1 by omega,nz_pos (by omega) (by simp at hz;unfold nth at hz;omega)]
   subst hk';go_ret
   exact⟨rfl,rfl⟩
  have hk':k=nz xs:=by
   rw[<-Hn.out,show k=0 by omega];rfl
  have HK:=Lib.hid hk';clear hk';have hk0:k=0:=by omega
  subst hk0
  go_wp2
  go_ret
  exact⟨by rw[<-HK.out];rfl,rfl⟩
def trimmedOf (ao:Option Addr) (cap:Nat) (xs:List Nat):Value:=if nz xs=0 then .slice none 0 0 else .slice ao (nz xs) cap
theorem trimmed_any (ao:Option Addr) (n cap:Nat) (xs:List Nat) (w:World) (h:Sl w .u32 (.slice ao n cap) xs) :
  Calls Tryz.prog 170 #[.slice ao n cap] w fun e w'=>e=.returned (trimmedOf ao cap xs)/\w=w':=by
 by_cases h0:nz xs=0
 ·have H0:=Lib.hid h0;clear h0;have hz:(((nz xs:Nat):Int)==0)=true:=by rw[H0.out];rfl
  go_enter Tryz.func170,Tryz.ntmps170
  go_wp2_with (go_at_call 150;refine (sig_any _ _ _ _ _ h).mono ?_;rintro e w' ⟨rfl,rfl⟩)
  go_ret
  exact⟨by unfold trimmedOf;rw[if_pos H0.out];rfl,rfl⟩
 have hz:(((nz xs:Nat):Int)==0)=false:=by simp;omega
 go_enter Tryz.func170,Tryz.ntmps170
 go_wp2_with (go_at_call 150;refine (sig_any _ _ _ _ _ h).mono ?_;rintro e w' ⟨rfl,rfl⟩)
 go_ret
 exact⟨by unfold trimmedOf;rw[if_neg h0];rfl,rfl⟩
theorem info51:(Tryz.prog.info? 204).map (fun i=>(i.zero,i.size,i.bytes))=some (some (.int .u32 0),1,4):=by kernel_rfl
abbrev L32:Nat:=4294967296
theorem below_drewN' (w:World) (n:Nat) (B:Nat):Below B w (w.drewN n):=⟨rfl,rfl,rfl,Nat.le_refl _,fun _ _=>rfl⟩
theorem trimmed_sl {w:World} {ao:Option Addr} {n cap:Nat} {xs:List Nat} (h:Sl w .u32 (.slice ao n cap) xs) (hd:Dig L32 xs):Sl w .u32 (trimmedOf ao cap xs) (dig L32 (val L32 xs)):=by
 rw[<-take_nz (by decide) hd];unfold trimmedOf
 by_cases h0:nz xs=0
 ·rw[if_pos h0,h0];exact Sl.nil _ _
 rw[if_neg h0];exact h.take _ (nz_le xs)
theorem below_of_grown' {B:Nat} {a b:World} {g:Nat} (h:a.grownBy b (some g)) (hg:B<=g) (hB:B<=a.heap.size:=by omega):Below B a b:=
 ⟨h.os,h.tape,h.output,h.size,fun k hk=>h.block k (by omega) (fun e=>by injection e with e;omega)⟩
theorem sl_shape {w:World} {k:IntKind} {v:Value} {xs:List Nat} (h:Sl w k v xs):∃ ao cap,v=.slice ao xs.length cap:=by
 obtain⟨ao,cap,e,_⟩:=h;exact⟨ao,cap,e⟩
theorem getD_out {xs:List Nat} {i:Nat} (h:xs.length<=i):xs.getD i 0=0:=by simp[List.getD,h]
theorem val_take_succ' (B:Nat) (xs:List Nat) (k:Nat):val B (xs.take (k+1))=val B (xs.take k)+xs.getD k 0*B ^ k:=by
 by_cases h:k<xs.length
 ·exact val_take_succ B xs k h
 rw[getD_out (by omega),List.take_of_length_le (by omega),List.take_of_length_le (by omega)];simp
theorem dig_last {B n:Nat} (hB:2<=B) (h:0<(dig B n).length):(dig B n).getD ((dig B n).length - 1) 0≠0:=by
 intro h0;have h1:=take_nz hB (Dig_dig hB n);rw[val_dig hB] at h1;have h2:=congrArg List.length h1;rw[List.length_take] at h2;have h3:=nz_zero (xs:=dig B n) (k:=(dig B n).length - 1) (by omega) h0;rw[show (dig B n).length - 1+1=(dig B n).length by omega,List.take_length] at h3;have h4:=nz_le ((dig B n).take ((dig B n).length - 1));rw[List.length_take] at h4
 omega
end Go.Proofs.YtkocdbgmckdcpaaGreatDoor
namespace Go.Proofs
open Go.Shelf
def Tryz.lays128_ren:Go.Shelf.Ren:=⟨fun | 128=>163 | n=>n,fun | 51=>204 | 3=>3 | 4=>4 | 46=>210 | 5=>5 | 9=>9 | n=>n,fun | n=>n⟩
theorem Tryz.lays128:Go.Proofs.Lays.n128 Tryz.prog Tryz.lays128_ren:={
 mixed:=by kernel_rfl
 f128:=Tryz.func163.trans (congrArg some (by kernel_rfl))
 t3:=Tryz.underlying3
 a3:=Tryz.isAgg3
 z3:=Tryz.sizeOf3
 v3:=Tryz.zeroValue3
 t4:=Tryz.underlying4
 a4:=Tryz.isAgg4
 z4:=Tryz.sizeOf4
 v4:=Tryz.zeroValue4
 t5:=Tryz.underlying5
 a5:=Tryz.isAgg5
 z5:=Tryz.sizeOf5
 v5:=Tryz.zeroValue5
 t9:=Tryz.underlying9
 a9:=Tryz.isAgg9
 z9:=Tryz.sizeOf9
 v9:=Tryz.zeroValue9
 t46:=Tryz.underlying210
 a46:=Tryz.isAgg210
 z46:=Tryz.sizeOf210
 v46:=Tryz.zeroValue210
 t51:=Tryz.underlying204
 a51:=Tryz.isAgg204
 z51:=Tryz.sizeOf204
 v51:=Tryz.zeroValue204 }
theorem Tryz.bits_Len32 (x:Int) (w:World) (h0:0<=x) (h1:x<=4294967295) :
  Calls Tryz.prog 163 #[.int .u32 x] w fun e w'=>e=.returned (.int .i64 (Lib.bitLen x.toNat))/\w'=w:=Any.bits_Len32 Tryz.lays128 x w h0 h1
def Tryz.lays137_ren:Go.Shelf.Ren:=⟨fun | 137=>141 | 217=>159 | 266=>168 | n=>n,fun | 9=>9 | 5=>5 | 3=>3 | n=>n,fun | n=>n⟩
theorem Tryz.lays137:Go.Proofs.Lays.n137 Tryz.prog Tryz.lays137_ren:={
 mixed:=by kernel_rfl
 f137:=Tryz.func141.trans (congrArg some (by kernel_rfl))
 f217:=Tryz.func159.trans (congrArg some (by kernel_rfl))
 f266:=Tryz.func168.trans (congrArg some (by kernel_rfl))
 t3:=Tryz.underlying3
 a3:=Tryz.isAgg3
 z3:=Tryz.sizeOf3
 v3:=Tryz.zeroValue3
 t5:=Tryz.underlying5
 a5:=Tryz.isAgg5
 z5:=Tryz.sizeOf5
 v5:=Tryz.zeroValue5
 t9:=Tryz.underlying9
 a9:=Tryz.isAgg9
 z9:=Tryz.sizeOf9
 v9:=Tryz.zeroValue9 }
open Go.RowKit in
theorem Tryz.strings_IndexByte (s:ByteArray) (c:Int) (w:World) :
  Calls Tryz.prog 141 #[.string s,.int .u8 c] w fun e w'=>e=.returned (.int .i64 (Lib.indexByte s.data.toList c.toNat.toUInt8))/\w'=w:=Any.strings_IndexByte Tryz.lays137 s c w
def Tryz.lays210_ren:Go.Shelf.Ren:=⟨fun | 210=>173 | 206=>160 | n=>n,fun | 9=>9 | 4=>4 | 3=>3 | n=>n,fun | n=>n⟩
def Tryz.laysM316_ren:Go.Shelf.Ren:=⟨fun | 316=>123 | n=>n,fun | 9=>9 | 3=>3 | 4=>4 | 37=>63 | 0=>0 | 127=>107 | 5=>5 | n=>n,fun | n=>n⟩
theorem Tryz.laysM316:Go.Proofs.LaysM.n316 Tryz.prog Tryz.laysM316_ren:={
 mixed:=by kernel_rfl
 f316:=Tryz.func123.trans (congrArg some (by kernel_rfl))
 t0:=Tryz.underlying0
 a0:=Tryz.isAgg0
 z0:=Tryz.sizeOf0
 v0:=Tryz.zeroValue0
 t3:=Tryz.underlying3
 a3:=Tryz.isAgg3
 z3:=Tryz.sizeOf3
 v3:=Tryz.zeroValue3
 t4:=Tryz.underlying4
 a4:=Tryz.isAgg4
 z4:=Tryz.sizeOf4
 v4:=Tryz.zeroValue4
 t9:=Tryz.underlying9
 a9:=Tryz.isAgg9
 z9:=Tryz.sizeOf9
 v9:=Tryz.zeroValue9
 t37:=Tryz.underlying63
 a37:=Tryz.isAgg63
 z37:=Tryz.sizeOf63
 v37:=Tryz.zeroValue63
 t127:=Tryz.underlying107
 a127:=Tryz.isAgg107
 z127:=Tryz.sizeOf107
 v127:=Tryz.zeroValue107
 t5:=Tryz.underlying5
 a5:=Tryz.isAgg5
 z5:=Tryz.sizeOf5
 v5:=Tryz.zeroValue5
 i0:=by kernel_rfl
 i3:=by kernel_rfl
 i4:=by kernel_rfl
 i5:=by kernel_rfl
 i9:=by kernel_rfl
 i37:=by kernel_rfl
 i127:=by kernel_rfl }
open Go.RowKit in
theorem Tryz.stringslite_Clone (s:ByteArray) (w:World) (hlim:s.size<=281474976710656) :
  Calls Tryz.prog 123 #[.string s] w fun e w'=>e=.returned (.string s)/\Below w.heap.size w w':=Any.stringslite_Clone Tryz.laysM316 s w hlim
def Tryz.lays99_ren:Go.Shelf.Ren:=⟨fun | 99=>146 | 206=>160 | n=>n,fun | 9=>9 | 4=>4 | 3=>3 | n=>n,fun | n=>n⟩
theorem Tryz.lays99:Go.Proofs.Lays.n99 Tryz.prog Tryz.lays99_ren:={
 mixed:=by kernel_rfl
 f99:=Tryz.func146.trans (congrArg some (by kernel_rfl))
 f206:=Tryz.func160.trans (congrArg some (by kernel_rfl))
 t3:=Tryz.underlying3
 a3:=Tryz.isAgg3
 z3:=Tryz.sizeOf3
 v3:=Tryz.zeroValue3
 t4:=Tryz.underlying4
 a4:=Tryz.isAgg4
 z4:=Tryz.sizeOf4
 v4:=Tryz.zeroValue4
 t9:=Tryz.underlying9
 a9:=Tryz.isAgg9
 z9:=Tryz.sizeOf9
 v9:=Tryz.zeroValue9 }
open Go.RowKit Go.Lib in
theorem Tryz.strings_HasPrefix (s p:ByteArray) (w:World) :
  Calls Tryz.prog 146 #[.string s,.string p] w fun e w'=>e=.returned (.bool (Lib.hasPrefix s.data.toList p.data.toList))/\w'=w:=Any.strings_HasPrefix Tryz.lays99 s p w
end Go.Proofs
namespace Go.Proofs.YtkocdbgmckdcpaaGreatDoor
open Go.RowKit
set_option maxRecDepth 100000
theorem mul_bound {x y:Nat} (hx:x<4294967296) (hy:y<4294967296):x*y<=18446744065119617025:=
 Nat.le_trans (Nat.mul_le_mul (show x<=4294967295 by omega) (show y<=4294967295 by omega)) (by decide)
theorem ws_part {w:World} {T:TypeId} {g i n:Nat} {P:List Nat} (hB:Blk w g .u32 T P) (hi:i<P.length) (hn:n=P.length - i) (hm:P.length<=9223372036854775807) :
  Ws w .u32 T (.slice (some ⟨g,i,none⟩) n n) g (P.take i) (P.drop i) []:=by
 have e1:(P.drop i).length=n:=by simp;omega
 have e2:(P.take i).length=i:=by simp;omega
 refine⟨some ⟨g,i,none⟩,n,by rw[e1],by rw[e1];omega,by omega,(fun e=>by cases e),fun _=>⟨by rw[e2],?_⟩⟩;rw[List.take_append_drop,List.append_nil];exact hB
theorem ws_whole {w:World} {T:TypeId} {v:Value} {g:Nat} {pre s post:List Nat} (h:Ws w .u32 T v g pre s post) (h0:s.length≠0):Blk w g .u32 T (pre++s++post):=by
 obtain⟨_,_,_,_,_,_,h4⟩:=h;exact (h4 h0).2
def GN (w:World) (v:Value) (n k:Nat):Prop:=∃ xs,Sl w .u32 v xs/\Dig L32 xs/\val L32 xs=n/\xs.length<=k
theorem GN.below {w w':World} {v:Value} {n k:Nat} (h:GN w v n k) (hb:Below w.heap.size w w'):GN w' v n k:=by
 obtain⟨xs,h1,h2,h3,h4⟩:=h;exact⟨xs,h1.below hb,h2,h3,h4⟩
theorem gn_dig {w:World} {v:Value} {n k:Nat} (h:Sl w .u32 v (dig L32 n)) (hn:n<L32 ^ k):GN w v n k:=
 ⟨_,h,Dig_dig (by decide) _,val_dig (by decide) _,length_dig_le (by decide) hn⟩
def bl (n:Nat):Nat:=(dig 2 n).length
theorem bl_zero:bl 0=0:=by unfold bl;rw[dig_zero];rfl
theorem bl_half {n:Nat} (h:0<n):bl n=1+bl (n / 2):=by unfold bl;rw[dig_pos (by decide) h];simp;omega
theorem bitLen_bl (n:Nat) (h:n<2 ^ 64):Lib.bitLen n=bl n:=by
 induction n using Nat.strongRecOn with
 | ind n ih =>
  by_cases h0:n=0
  ·subst h0;rw[bl_zero];decide
  rw[Lib.bitLen_half n h0 h,bl_half (by omega),ih (n / 2) (by omega) (by omega)]
theorem bl_top (k:Nat):∀ v t:Nat,v<2 ^ k->0<t->bl (v+t*2 ^ k)=k+bl t:=by
 induction k with
 | zero=>intro v t hv ht;simp at hv;subst hv;simp
 | succ k ih =>
  intro v t hv ht;have hp:0<2 ^ (k+1):=Nat.pow_pos (by decide);have hpos:0<v+t*2 ^ (k+1):=by have:=Nat.mul_pos ht hp;omega
  rw[bl_half hpos];have e:(v+t*2 ^ (k+1)) / 2=v / 2+t*2 ^ k:=by rw[Nat.pow_succ,<-Nat.mul_assoc];omega
  rw[e,ih (v / 2) t (by rw[Nat.pow_succ] at hv;omega) ht]
  omega
theorem bl_le {n k:Nat} (h:n<2 ^ k):bl n<=k:=length_dig_le (by decide) h
theorem bits_nat (va:Value) (xs:List Nat) (w:World) (hx:Sl w .u32 va xs) (dx:Dig L32 xs) (lx:xs.length<=1000000) :
  Calls Tryz.prog 149 #[va] w fun e w'=>e=.returned (.int .i64 ((bl (val L32 xs):Nat):Int))/\w=w':=by
 have HX:=Lib.hid hx;obtain⟨ao,ac,rfl,a1,a2,a3,a4⟩:=hx;have nx:=nz_le xs
 by_cases h0:nz xs=0
 ·have hv:val L32 xs=0:=by rw[<-val_take_nz (B:=L32) (by decide) dx,h0];rfl
  have HV:=Lib.hid hv;have hz:(((nz xs:Nat):Int)==0)=true:=by rw[h0];rfl
  clear h0 hv a4;go_enter Tryz.func149,Tryz.ntmps149
  go_wp2_with fail
  refine (sig_any _ _ _ xs _ HX.out).mono ?_;rintro e w' ⟨rfl,rfl⟩;go_wp2_with fail
  go_ret
  exact⟨by rw[HV.out,bl_zero];rfl,rfl⟩
 have hz:(((nz xs:Nat):Int)==0)=false:=by rw[beq_eq_false_iff_ne];omega
 have hp:1<=nz xs:=by omega
 obtain⟨a,rfl,hca⟩:=a4 (nz xs - 1) (by omega);have t1:=dx.getD (by decide) (nz xs - 1);have t2:=u32_wf dx (nz xs - 1);have hl:bl (xs.getD (nz xs - 1) 0)<=32:=bl_le t1
 have hbl:Lib.bitLen (nth xs (nz xs - 1)).toNat=bl (xs.getD (nz xs - 1) 0):=by
  unfold nth;rw[Int.toNat_natCast];exact bitLen_bl _ (Nat.lt_trans t1 (by decide))
 have htop:0<xs.getD (nz xs - 1) 0:=by
  rcases Nat.eq_zero_or_pos (xs.getD (nz xs - 1) 0) with h | h
  ·have h3:=nz_zero (xs:=xs.take (nz xs)) (k:=nz xs - 1) (by rw[List.length_take];omega) (by simpa [List.getD,show nz xs - 1<nz xs by omega] using h);have h5:(dig L32 (val L32 xs)).length=nz xs:=length_dig_val (by decide) dx;have h6:=take_nz (B:=L32) (by decide) (Dig_dig (B:=L32) (by decide) (val L32 xs));rw[val_dig (by decide)] at h6;have h7:=congrArg List.length h6;rw[List.length_take,h5,dig_val_take (by decide) dx] at h7
   have h8:nz ((xs.take (nz xs)).take (nz xs - 1+1))=nz (xs.take (nz xs)):=by
    rw[show nz xs - 1+1=nz xs by omega,List.take_take,Nat.min_self]
   have h9:=nz_le ((xs.take (nz xs)).take (nz xs - 1));rw[List.length_take,List.length_take] at h9
   omega
  exact h
 have hfin:bl (val L32 xs)=(nz xs - 1)*32+bl (xs.getD (nz xs - 1) 0):=by
  have e:=val_take_nz (B:=L32) (by decide) dx;have e2:=val_take_succ' L32 xs (nz xs - 1);rw[show nz xs - 1+1=nz xs by omega] at e2;have e3:L32 ^ (nz xs - 1)=2 ^ ((nz xs - 1)*32):=by rw[Nat.mul_comm,Nat.pow_mul]
  have e4:=val_lt (dx.take (nz xs - 1));rw[List.length_take,Nat.min_eq_left (by omega),e3] at e4;rw[<-e,e2,e3,bl_top _ _ _ e4 htop]
 generalize bl (xs.getD (nz xs - 1) 0)=b at *;have HF:=Lib.hid hfin;have HB:=Lib.hid hbl;clear h0 a4 hbl hfin;go_enter Tryz.func149,Tryz.ntmps149
 go_wp2_with fail
 refine (sig_any _ _ _ xs _ HX.out).mono ?_;rintro e w' ⟨rfl,rfl⟩;go_wp2_with fail
 refine (Tryz.bits_Len32 _ _ (by omega) (by omega)).mono ?_;rintro e w' ⟨rfl,rfl⟩;rw[HB.out];go_wp2_with fail
 go_ret
 refine⟨?_,rfl⟩;rw[HF.out,show (((nz xs - 1)*32+b:Nat):Int)=(((nz xs:Nat):Int) - 1)*32+(b:Int) by omega]
 rfl
theorem bits_n {va:Value} {n k:Nat} {w:World} (hx:GN w va n k) (hk:k<=1000000) :
  Calls Tryz.prog 149 #[va] w fun e w'=>e=.returned (.int .i64 ((bl n:Nat):Int))/\w=w':=by
 obtain⟨xs,hx,dx,rfl,lx⟩:=hx;exact bits_nat _ _ w hx dx (by omega)
theorem getD_set (P:List Nat) (i v t:Nat):(P.set i v).getD t 0=if t=i/\i<P.length then v else P.getD t 0:=by
 by_cases h:t=i
 ·subst h
  by_cases hl:t<P.length
  ·simp[List.getD,hl]
  simp[List.getD,hl]
 rw[List.getD_eq_getElem?_getD,List.getElem?_set_ne (fun e=>h e.symm),<-List.getD_eq_getElem?_getD,if_neg (by simp[h])]
open Classical in
theorem bl_pos {n:Nat} (h:0<n):0<bl n:=by rw[bl_half h];omega
theorem snoc_ind {α:Type} {P:List α->Prop} (h0:P []) (h1:∀ l c,P l->P (l++[c])):∀ l,P l:=by
 intro l;rw[<-List.reverse_reverse l]
 induction l.reverse with
 | nil=>exact h0
 | cons c r ih=>rw[List.reverse_cons];exact h1 _ _ ih
def dn (l:List UInt8):Nat:=l.foldl (fun n c=>10*n+(c.toNat - 48)) 0
def AllD (l:List UInt8):Prop:=∀ c ∈ l,48<=c.toNat/\c.toNat<=57
theorem dn_snoc (l:List UInt8) (c:UInt8):dn (l++[c])=10*dn l+(c.toNat - 48):=by
 unfold dn;rw[List.foldl_append];rfl
theorem AllD.left {l m:List UInt8} (h:AllD (l++m)):AllD l:=fun c hc=>h c (List.mem_append_left _ hc)
theorem AllD.right {l m:List UInt8} (h:AllD (l++m)):AllD m:=fun c hc=>h c (List.mem_append_right _ hc)
theorem AllD.take {l:List UInt8} (h:AllD l) (n:Nat):AllD (l.take n):=fun c hc=>h c (List.mem_of_mem_take hc)
theorem dn_append (l:List UInt8):∀ m:List UInt8,dn (l++m)=dn l*10 ^ m.length+dn m:=by
 refine snoc_ind (by simp[dn]) fun m c ih=>?_
 rw[<-List.append_assoc,dn_snoc,dn_snoc,ih,lsa,List.length_singleton,Nat.pow_succ];generalize 10 ^ m.length=p;have:dn l*(p*10)=10*(dn l*p):=by grind
 omega
theorem dn_lt:∀ {l:List UInt8} (_:AllD l),dn l<10 ^ l.length:=by
 intro l;refine snoc_ind (P:=fun l=>AllD l->dn l<10 ^ l.length) (by simp[dn]) (fun m c ih h=>?_) l;have h1:=ih h.left;have h2:=h c (List.mem_append_right _ (List.mem_singleton.2 rfl));rw[dn_snoc,lsa,List.length_singleton,Nat.pow_succ]
 omega
def Numeral (l:List UInt8):Prop:=l ≠ []/\l.length<=300/\(1<l.length->l.getD 0 48≠48)/\AllD l
end Go.Proofs.YtkocdbgmckdcpaaGreatDoor
namespace Go.Proofs.YtkocdbgmckdcpaaGreatDoor
open Go.RowKit Go.Sort Go.Lib
set_option maxRecDepth 100000
end Go.Proofs.YtkocdbgmckdcpaaGreatDoor
namespace Go.Proofs.YtkocdbgmckdcpaaGreatDoor
open Go.RowKit
set_option maxRecDepth 100000
theorem dn_take_succ (l:List UInt8) (k:Nat) (h:k<l.length):dn (l.take (k+1))=10*dn (l.take k)+(l[k].toNat - 48):=by
 rw[List.take_succ_eq_append_getElem h,dn_snoc]
theorem at_bytes (l:List UInt8) (k:Nat) (h:k<(⟨l.toArray⟩:ByteArray).size):(⟨l.toArray⟩:ByteArray)[k]=l[k]'h:=rfl
theorem number_any (l:List UInt8) (w:World) (hd:AllD l) (hl:l.length<=9) :
  Calls Tryz.prog 176 #[.string ⟨l.toArray⟩] w fun e w'=>e=.returned (.int .u32 ((dn l:Nat):Int))/\w'=w:=by
 have hsz:(⟨l.toArray⟩:ByteArray).size=l.length:=rfl;go_enter Tryz.func176,Tryz.ntmps176
 go_wp2
 go_loopw [3,7] (fun c i wr=>∃ k:Nat,i=.int .i64 k/\c=.int .u32 ((dn (l.take k):Nat):Int)/\k<=l.length/\wr=w) (fun _ i _=>l.length - (intOf i).toNat)
 case atStart=>exact⟨0,rfl,rfl,Nat.zero_le _,rfl⟩
 case round =>
  obtain⟨k,rfl,rfl,hk,rfl⟩:=hrel
  by_cases hlt:k<l.length
  ·have h1:=hd l[k] (List.getElem_mem hlt);have h2:=dn_lt (hd.take k);have h3:10 ^ (l.take k).length<=10 ^ 8:=Nat.pow_le_pow_right (by decide) (by rw[List.length_take];omega);have HS:=Lib.hid (dn_take_succ l k hlt);have H1:=Lib.hid h1;have hm:dn (l.take k)<100000000:=by have h4:10 ^ 8=100000000:=rfl;omega
   clear h1 h2 h3
   go_wp2
   go_roundw
   case rel =>
    refine⟨k+1,by go_num,?_,by omega,by trivial⟩;have h1:=H1.out;rw[at_bytes,HS.out]
    congr 1
    omega
   case measure=>simp[intOf];omega
  have hk0:k=l.length:=by omega
  subst hk0;have HT:=Lib.hid (List.take_length (l:=l))
  go_wp2
  go_ret
  exact⟨by rw[<-HT.out];simp,rfl⟩
theorem mulAdd_step {B:Nat} {t s:List Nat} {m n k c z:Nat} (ht:k<t.length) (hv:val B (t.take k)+c*B ^ k=m*val B (s.take k)+n) (hz:z=c+m*s.getD k 0) :
  val B ((t.set k (z % B)).take (k+1))+z / B*B ^ (k+1)=m*val B (s.take (k+1))+n:=by
 have e1:(t.set k (z % B)).take k=t.take k:=List.take_set_of_le (by omega);have e2:(t.set k (z % B)).getD k 0=z % B:=by simp[List.getD,ht]
 rw[val_take_succ' B (t.set k (z % B)) k,val_take_succ' B s k,e1,e2,Nat.pow_succ];have h2:=Nat.mod_add_div z B;generalize z % B=r at *;generalize z / B=q at *;generalize B ^ k=P at *;have h3:(r+B*q)*P=(c+m*s.getD k 0)*P:=by rw[h2,hz]
 grind
theorem mulAdd_any (g:Nat) (pre s post:List Nat) (vs:Value) (m n:Nat) (w:World) (hw:Ws w .u32 204 vs g pre s post) (hs:Dig L32 s) (hm:m<4294967296) (hn:n<4294967296) (hlt:m*val L32 s+n<L32 ^ s.length) :
  Calls Tryz.prog 175 #[vs,.int .u32 m,.int .u32 n] w fun e w'=>∃ s',e=.returned (.tuple #[])/\Ws w' .u32 204 vs g pre s' post/\w.grownBy w' (some g)/\s'.length=s.length/\Dig L32 s' /\
   val L32 s'=m*val L32 s+n:=by
 have HLT:=Lib.hid hlt;clear hlt;obtain⟨ao,cap,rfl,h1,h2,h3,h4⟩:=hw;go_enter Tryz.func175,Tryz.ntmps175
 go_wp2
 go_loopw [6,13] (fun c i wr=>∃ (k:Nat) (t:List Nat) (cc:Nat),i=.int .i64 k/\c=.int .u64 (cc:Int)/\cc<4294967296/\k<=s.length/\w.grownBy wr (some g)/\Hid (t.length=s.length)/\Dig 4294967296 t /\
   WsAt wr .u32 204 ao g pre t post s.length/\Hid (t.drop k=s.drop k)/\Hid (val L32 (t.take k)+cc*L32 ^ k=m*val L32 (s.take k)+n))
  (fun _ i _=>s.length - (intOf i).toNat)
 case atStart=>exact⟨0,s,n,rfl,rfl,hn,by omega,World.grownBy.refl _ _,Lib.hid rfl,hs,h4,Lib.hid rfl,Lib.hid (by simp[val])⟩
 case round =>
  obtain⟨k,t,cc,rfl,rfl,hcc,hk,hg,Ht,hdt,hB,HD,HV⟩:=hrel
  by_cases hlt:k<s.length
  ·obtain⟨rfl,hB'⟩:=hB (by omega);have hkt:k<t.length:=by have:=Ht.out;omega
   have hsk:t.getD k 0=s.getD k 0:=by
    have:=congrArg (fun l=>l.getD 0 0) HD.out
    simpa [List.getD,List.getElem?_drop] using this
   have hct:wr.cell? ⟨g,pre.length+k,none⟩=some (.int .u32 (nth s k)):=by
    rw[hB'.cell (by simp;omega),nth_mid _ _ _ _ hkt];unfold nth;rw[hsk]
   have hft:=hB'.frozen (pre.length+k);have t1:=u32_wf hs k;have t0:=hs.getD (by decide) k
   have hmm:0<=(m:Int)*nth s k/\(m:Int)*nth s k<=18446744065119617025:=by
    have:=mul_bound hm t0;have e:(m:Int)*nth s k=((m*s.getD k 0:Nat):Int):=by unfold nth;simp
    rw[e];omega
   have HE:=Lib.hid (show (cc:Int)+(m:Int)*nth s k=((cc+m*s.getD k 0:Nat):Int) by unfold nth;simp);have HZ:=Lib.hid (show cc+m*s.getD k 0<18446744073709551616 by have:=mul_bound hm t0;omega);have HS:=Lib.hid (mulAdd_step (B:=L32) hkt HV.out rfl);clear hB h4 t0 hsk
   go_wp2
   go_roundw
   case rel =>
    have hE:=HE.out;have hz:=HZ.out;refine⟨k+1,t.set k ((cc+m*s.getD k 0) % L32),(cc+m*s.getD k 0) / L32,by go_num,?_,?_,by omega,grown_setCell hg _,Lib.hid (by rw[List.length_set];exact Ht.out),hdt.set (Nat.mod_lt _ (by decide)),fun _=>⟨rfl,?_⟩,Lib.hid ?_,HS⟩
    ·rw[hE];congr 1
    ·exact Nat.div_lt_of_lt_mul (by omega)
    ·rw[<-set_mid _ _ _ _ _ hkt];exact hB'.set _ _ _ (by rw[hE];rfl)
    rw[List.drop_set_of_lt (by omega)];have:=congrArg (List.drop 1) HD.out
    rwa [List.drop_drop,List.drop_drop] at this
   case measure=>simp[intOf];omega
  have hkk:k=s.length:=by omega
  subst hkk;have hv:=HV.out;rw[List.take_length,List.take_of_length_le (by have:=Ht.out;omega)] at hv
  have hc0:cc=0:=by
   rcases Nat.eq_zero_or_pos cc with h | h
   ·exact h
   have:=Nat.mul_le_mul_right (L32 ^ s.length) h;have:=HLT.out
   omega
  have HF:=Lib.hid (show val L32 t=m*val L32 s+n by rw[hc0] at hv;omega);have hfin:Ws wr .u32 204 (.slice ao s.length cap) g pre t post:=⟨ao,cap,by rw[Ht.out],by rw[Ht.out];exact h1,h2,h3,by rw[Ht.out];exact hB⟩
  clear hv h4 hc0
  go_wp2
  go_end0
  exact⟨t,rfl,hfin,hg,Ht.out,hdt,HF.out⟩
theorem isNum_true (l:List UInt8) (w:World) (h:Numeral l) :
  Calls Tryz.prog 174 #[.string ⟨l.toArray⟩] w fun e w'=>e=.returned (.bool true)/\w'=w:=by
 have hsz:(⟨l.toArray⟩:ByteArray).size=l.length:=rfl;obtain⟨h1,h2,h3,h4⟩:=h;have hp:0<l.length:=List.length_pos_iff.2 h1;have hz:((l.length:Int)==0)=false:=by rw[beq_eq_false_iff_ne];omega
 have hx:l.length<=1\/1<l.length/\((((⟨l.toArray⟩:ByteArray)[0]'hp).toNat:Int)==48)=false:=by
  by_cases hl:l.length<=1
  ·exact .inl hl
  refine .inr ⟨by omega,?_⟩;have:=h3 (by omega);rw[at_bytes,beq_eq_false_iff_ne];intro e;have e2:l[0].toNat=48:=by omega
  exact this (by simp only[List.getD_eq_getElem?_getD,List.getElem?_eq_getElem hp,Option.getD_some];exact UInt8.toNat_inj.1 e2)
 have H4:=Lib.hid h4;clear h1 h3 h4;go_enter Tryz.func174,Tryz.ntmps174
 rcases hx with hx | ⟨hx1,hx2⟩
 all_goals go_wp2
 all_goals go_loopw [24] (fun i wr=>∃ k:Nat,i=.int .i64 k/\k<=l.length/\wr=w) (fun i _=>l.length - (intOf i).toNat)
 case atStart=>exact⟨0,rfl,Nat.zero_le _,rfl⟩
 case atStart=>exact⟨0,rfl,Nat.zero_le _,rfl⟩
 all_goals
  obtain⟨k,rfl,hk,rfl⟩:=hrel
  by_cases hlt:k<l.length
  ·have hk1:48<=((⟨l.toArray⟩:ByteArray)[k]'hlt).toNat/\((⟨l.toArray⟩:ByteArray)[k]'hlt).toNat<=57:=H4.out l[k] (List.getElem_mem hlt)
   go_wp2
   go_roundw
   case rel=>exact⟨k+1,by go_num,by omega,by trivial⟩
   case measure=>simp[intOf];omega
  go_wp2
  go_ret
  exact⟨rfl,rfl⟩
theorem extract_take (l:List UInt8) (k:Nat):(⟨l.toArray⟩:ByteArray).extract 0 k=⟨(l.take k).toArray⟩:=by
 apply ByteArray.ext
 simp
theorem extract_drop (l:List UInt8) (k:Nat):(⟨l.toArray⟩:ByteArray).extract k l.length=⟨(l.drop k).toArray⟩:=by
 apply ByteArray.ext
 simp[List.take_of_length_le]
theorem parse_sum {pre grp:List UInt8} (h:pre=[]\/grp.length=9):1000000000*dn pre+dn grp=dn (pre++grp):=by
 rw[dn_append];rcases h with rfl | h
 ·simp[dn]
 rw[h,show 10 ^ 9=1000000000 from rfl,Nat.mul_comm]
theorem parse_room {l m:List UInt8} (hm:AllD m) (h:m.length<=l.length):dn m<L32 ^ (l.length / 9+1):=by
 have h1:=dn_lt hm;have h2:10 ^ m.length<=10 ^ (9*(l.length / 9+1)):=Nat.pow_le_pow_right (by decide) (by omega);have h3:10 ^ (9*(l.length / 9+1))<=L32 ^ (l.length / 9+1):=by rw[Nat.pow_mul];exact Nat.pow_le_pow_left (by decide) _
 omega
def sizeOfS:Value->Nat
 | .string b=>b.size
 | _=>0
def sg (b:Bool) (n:Nat):Int:=if b then -(n:Int) else (n:Int)
def GI (w:World) (v:Value) (z:Int) (k:Nat):Prop:=∃ b va n,v=.agg #[.bool b,va]/\GN w va n k/\z=sg b n
def CI (w:World) (v:Value) (z:Int) (k:Nat):Prop:=∃ va,v=.agg #[.bool (decide (z<0)),va]/\Sl w .u32 va (dig L32 z.natAbs)/\z.natAbs<L32 ^ k
theorem GI.below {w w':World} {v:Value} {z:Int} {k:Nat} (h:GI w v z k) (hb:Below w.heap.size w w'):GI w' v z k:=by
 obtain⟨b,va,n,rfl,h,rfl⟩:=h;exact⟨b,va,n,rfl,h.below hb,rfl⟩
theorem CI.gi {w:World} {v:Value} {z:Int} {k:Nat} (h:CI w v z k):GI w v z k:=by
 obtain⟨va,rfl,h,h2⟩:=h;refine⟨_,va,_,rfl,gn_dig h h2,?_⟩;unfold sg
 by_cases hz:z<0
 ·rw[if_pos (by simpa using hz)];omega
 rw[if_neg (by simpa using hz)];omega
theorem GN.shape {w:World} {v:Value} {n k:Nat} (h:GN w v n k):∃ ao l c,v=.slice ao l c/\l<=k:=by
 obtain⟨xs,h,_,_,hk⟩:=h;obtain⟨ao,c,rfl⟩:=sl_shape h;exact⟨ao,_,c,rfl,hk⟩
theorem GI.shape {w:World} {v:Value} {z:Int} {k:Nat} (h:GI w v z k):∃ b ao l c n,v=.agg #[.bool b,.slice ao l c]/\GN w (.slice ao l c) n k/\z=sg b n:=by
 obtain⟨b,va,n,rfl,h,rfl⟩:=h;obtain⟨ao,l,c,rfl,_⟩:=h.shape;exact⟨b,ao,l,c,n,rfl,h,rfl⟩
theorem two_cells {w:World} {g:Nat} {T:TypeId} {a b:Value} (h:w.heap[g]?=some (.cells #[a,b] T (0,0))) :
  w.cell? ⟨g,0,none⟩=some a/\w.cell? ⟨g,1,none⟩=some b/\w.frozen? ⟨g,0,none⟩=false/\w.frozen? ⟨g,1,none⟩=false:=
 ⟨by rw[cell_of_row w g 0 _ T (0,0) h];rfl,by rw[cell_of_row w g 1 _ T (0,0) h];rfl,frozen_of_row w g 0 _ T h,frozen_of_row w g 1 _ T h⟩
theorem Sl.set {w:World} {k:IntKind} {v:Value} {xs:List Nat} (h:Sl w k v xs) {p:Addr} {u:Value} (hc:w.cell? p=some u) (hu:∀ k z,u ≠ .int k z) (x:Value):Sl (w.setCell p x) k v xs:=by
 obtain⟨ao,cap,rfl,h1,h2,h3,h4⟩:=h;refine⟨ao,cap,rfl,h1,h2,h3,fun i hi=>?_⟩;obtain⟨a,ha,hq⟩:=h4 i hi;refine⟨a,ha,?_⟩;rw[World.cell?_setCell_other w p (a.add i) x (fun e=>by rw[<-e,hc] at hq;injection hq with hq;exact hu _ _ hq)];exact hq
theorem Sl.set2 {w:World} {k:IntKind} {v:Value} {xs:List Nat} (h:Sl w k v xs) {g:Nat} {T:TypeId} {b0:Bool} {a0:Option Addr} {n0 c0:Nat} (hB:w.heap[g]?=some (.cells #[.bool b0,.slice a0 n0 c0] T (0,0))) (x y:Value) :
  Sl ((w.setCell ⟨g,0,none⟩ x).setCell ⟨g,1,none⟩ y) k v xs:=by
 obtain⟨q0,q1,_,_⟩:=two_cells hB;refine (h.set q0 (by intro k z e;cases e) x).set (u:=.slice a0 n0 c0) ?_ (by intro k z e;cases e) y;rw[World.cell?_setCell_other w _ _ x (by intro e;injection e with _ e;omega)];exact q1
theorem GN.alloc {w:World} {v:Value} {n k:Nat} (h:GN w v n k) (o:Obj):GN (w.alloc o) v n k:=h.below ((Below.refl _ _).alloc (Nat.le_refl _) _)
theorem undrew {B:Nat} {w w1:World} (h:Below B w.drew w1):Below B w w1:=⟨h.os,h.tape,h.output,h.size,h.block⟩
theorem below_setg {B g:Nat} {w w':World} (h:Below B w w') (hB:B<=g) (x y:Value):Below B w ((w'.setCell ⟨g,0,none⟩ x).setCell ⟨g,1,none⟩ y):=
 (h.setCell (by simpa using hB) _).setCell (by simpa using hB) _
theorem bl_eq0 {n:Nat}:bl n=0 ↔ n=0:=⟨fun h=>by rcases Nat.eq_zero_or_pos n with h0 | h0;exact h0;exact absurd h (by have:=bl_pos h0;omega),fun h=>by rw[h,bl_zero]⟩
def sgnZ (z:Int):Int:=if z=0 then 0 else if z<0 then -1 else 1
theorem wsign_any (va:Value) (z:Int) (k:Nat) (w:World) (hx:GI w va z k) (hk:k<=1000000) :
  Calls Tryz.prog 128 #[va] w fun e w'=>e=.returned (.int .i64 (sgnZ z))/\Below w.heap.size w w':=by
 obtain⟨b,ao,l,c,n,rfl,hg,rfl⟩:=hx.shape
 by_cases h0:n=0
 ·subst h0;have HB:=Lib.hid (show sgnZ (sg b 0)=0 by cases b<;>simp[sgnZ,sg]);have hz:(((bl 0:Nat):Int)==0)=true:=by rw[bl_zero];rfl
  go_enter Tryz.func128,Tryz.ntmps128
  go_wp2_with fail
  refine (bits_n (hg.alloc _) hk).mono ?_;rintro e w3 ⟨rfl,rfl⟩;go_wp2_with fail
  go_ret
  exact⟨by rw[HB.out];rfl,(Below.refl _ _).alloc (Nat.le_refl _) _⟩
 have hz:(((bl n:Nat):Int)==0)=false:=by rw[beq_eq_false_iff_ne];have:=mt bl_eq0.1 h0;omega
 have hp:0<n:=by omega
 cases b
 ·have HB:=Lib.hid (show sgnZ (sg false n)=1 by unfold sgnZ sg;simp only[Bool.false_eq_true,if_false];rw[if_neg (by omega),if_neg (by omega)]);go_enter Tryz.func128,Tryz.ntmps128
  go_wp2_with fail
  refine (bits_n (hg.alloc _) hk).mono ?_;rintro e w3 ⟨rfl,rfl⟩;go_wp2_with fail
  go_ret
  exact⟨by rw[HB.out];rfl,(Below.refl _ _).alloc (Nat.le_refl _) _⟩
 have HB:=Lib.hid (show sgnZ (sg true n) = -1 by unfold sgnZ sg;simp only[if_true];rw[if_neg (by omega),if_pos (by omega)]);go_enter Tryz.func128,Tryz.ntmps128
 go_wp2_with fail
 refine (bits_n (hg.alloc _) hk).mono ?_;rintro e w3 ⟨rfl,rfl⟩;go_wp2_with fail
 go_ret
 exact⟨by rw[HB.out];rfl,(Below.refl _ _).alloc (Nat.le_refl _) _⟩
theorem lt_pow_more {m k k':Nat} (h:m<L32 ^ k) (hk:k<=k'):m<L32 ^ k':=Nat.lt_of_lt_of_le h (Nat.pow_le_pow_right (by decide) hk)
def zText (z:Int):List UInt8:=if z<0 then 45::Lib.decDigits z.natAbs else Lib.decDigits z.natAbs
theorem take_one (c:UInt8) (m:List UInt8):((⟨(c::m).toArray⟩:ByteArray).extract 0 1).toList=[c]:=by
 rw[extract_take,ByteArray.toList_mk];rfl
theorem prefix_no (l:List UInt8) (w:World) (hm:l.length<=1000000000) (h:l.head? ≠ some 45) :
  Calls Tryz.prog 160 #[.string ⟨l.toArray⟩,.string ⟨#[45]⟩] w fun e w'=>e=.returned (.bool false)/\w=w':=by
 cases l with
 | nil =>
  clear h;go_enter Tryz.func160,Tryz.ntmps160
  go_wp2
  go_ret
  exact⟨rfl,rfl⟩
 | cons c m =>
  have HC:=Lib.hid (show (([c]:List UInt8)==[45])=false by
   rw[beq_eq_false_iff_ne];intro e;exact h (by injection e with e;rw[e];rfl))
  clear h;go_enter Tryz.func160,Tryz.ntmps160
  go_wp2
  go_ret
  refine⟨?_,rfl⟩
  show Ending.returned (.bool (((⟨(c::m).toArray⟩:ByteArray).extract 0 1).toList==[45]))=_
  rw[take_one,HC.out]
theorem cut_no (l:List UInt8) (w:World) (hm:l.length<=1000000000) (h:l.head? ≠ some 45) :
  Calls Tryz.prog 164 #[.string ⟨l.toArray⟩,.string ⟨#[45]⟩] w fun e w'=>e=.returned (.tuple #[.string ⟨l.toArray⟩,.bool false])/\w=w':=by
 have HP:=Lib.hid (fun w=>prefix_no l w hm h);clear h
 have H:∀ w,Calls Tryz.prog 173 #[.string ⟨l.toArray⟩,.string ⟨#[45]⟩] w fun e w'=>e=.returned (.tuple #[.string ⟨l.toArray⟩,.bool false])/\w=w':=by
  intro w;go_enter Tryz.func173,Tryz.ntmps173
  go_wp2_with fail
  refine (HP.out _).mono ?_;rintro e w' ⟨rfl,rfl⟩;go_wp2_with fail
  go_ret2
  exact⟨rfl,rfl⟩
 have H':=Lib.hid H;clear H;go_enter Tryz.func164,Tryz.ntmps164
 go_wp2_with fail
 refine (H'.out _).mono ?_;rintro e w' ⟨rfl,rfl⟩;go_wp2_with fail
 go_ret2
 exact⟨rfl,rfl⟩
def zn (l:List UInt8):Int:=if l.head?=some 45 then -(dn (l.drop 1):Int) else (dn l:Int)
theorem num_head {l:List UInt8} (h:Numeral l):l.head? ≠ some 45:=by
 intro e;obtain⟨h1,_,_,h4⟩:=h
 cases l with
 | nil=>exact h1 rfl
 | cons c m =>
  injection e with e;have:=h4 c (List.mem_cons_self ..);subst e
  simp at this
theorem num_lt {l:List UInt8} (h:Numeral l):dn l<L32 ^ 34:=by
 have h1:=parse_room h.2.2.2 (Nat.le_refl l.length);exact lt_pow_more h1 (by have:=h.2.1;omega)
end Go.Proofs.YtkocdbgmckdcpaaGreatDoor
namespace Go.Proofs.YtkocdbgmckdcpaaGreatDoor
set_option maxRecDepth 100000
abbrev Bs:=List UInt8
def isL (c:UInt8):Bool:=(97<=c && c<=122) || (65<=c && c<=90) || c==95
def isD (c:UInt8):Bool:=48<=c && c<=57
def isLD (c:UInt8):Bool:=isL c || isD c
def spn (p:UInt8->Bool):Bs->Nat
 | []=>0
 | c::l=>if p c then spn p l+1 else 0
theorem spn_le (p:UInt8->Bool) (l:Bs):spn p l<=l.length:=by
 induction l with
 | nil=>simp[spn]
 | cons c l ih=>simp only[spn,lsc];split<;>omega
theorem spn_step {p:UInt8->Bool} {l:Bs} {k:Nat} (h:k<l.length) (hp:p l[k]=true):spn p (l.drop k)=spn p (l.drop (k+1))+1:=by
 rw[List.drop_eq_getElem_cons h,spn,if_pos hp]
theorem spn_stop {p:UInt8->Bool} {l:Bs} {k:Nat} (h:k<l.length) (hp:p l[k]=false):spn p (l.drop k)=0:=by
 rw[List.drop_eq_getElem_cons h,spn,hp];rfl
theorem spn_end {p:UInt8->Bool} {l:Bs} {k:Nat} (h:l.length<=k):spn p (l.drop k)=0:=by
 rw[List.drop_of_length_le h];rfl
theorem spn_all {p:UInt8->Bool} (l:Bs):∀ c ∈ l.take (spn p l),p c=true:=by
 induction l with
 | nil=>simp[spn]
 | cons a l ih =>
  by_cases h:p a=true
  ·simp only[spn,h,if_true,List.take_succ_cons];intro c hc;rcases List.mem_cons.1 hc with rfl | hc
   ·exact h
   exact ih c hc
  simp[spn,h]
def wds:List Bs:=[[102,117,110],[113,117,97,108,105,102],[108,101,116],[105,110],[105,102],[116,104,101,110],[101,108,115,101],[109,97,116,99,104],[119,105,116,104],[97,115,115,101,114,116],[110,111,116],[116,114,117,101],[102,97,108,115,101],[105,110,116],[98,111,111,108],[108,105,115,116],[108,101,110],[104,100],[116,108],[118]]
def isW (l:Bs):Bool:=wds.contains l
def pairB (a b:UInt8):Bool:=(a==58 && b==58) || (a==45 && b==62) || (a==38 && b==38) || (a==124 && b==124) || (a==91 && b==93) || (a==60 && b==62) || (a==60 && b==61) || (a==62 && b==61)
def sglB (a:UInt8):Bool:=a==40 || a==41 || a==123 || a==125 || a==44 || a==58 || a==59 || a==124 || a==61 || a==60 || a==62 || a==43 || a==45 || a==42 || a==47 || a==37
def sgn:Bs->Nat
 | []=>0
 | [a]=>if sglB a then 1 else 0
 | a::b::_=>if pairB a b then 2 else if sglB a then 1 else 0
theorem sgn_le (l:Bs):sgn l<=2/\sgn l<=l.length:=by
 unfold sgn
 split
 ·simp
 ·split<;>simp
 split
 ·simp
 split<;>simp
def blk (c:UInt8):Bool:=c==32 || c==9 || c==10 || c==13
def gapL:Bool->Bs->Nat
 | _,[]=>0
 | true,c::l=>if c=10 then gapL false l+1 else gapL true l+1
 | false,c::l=>if c=35 then gapL true l+1 else if blk c then gapL false l+1 else 0
theorem gap_le (b:Bool) (l:Bs):gapL b l<=l.length:=by
 induction l generalizing b with
 | nil=>cases b<;>simp[gapL]
 | cons c l ih =>
  have h1:=ih true;have h2:=ih false
  cases b<;>simp only[gapL,lsc]<;>split<;>(try split)<;>omega
theorem gap_end {b:Bool} {l:Bs} {k:Nat} (h:l.length<=k):gapL b (l.drop k)=0:=by
 rw[List.drop_of_length_le h];cases b<;>rfl
theorem gap_blank {l:Bs} {k:Nat} (h:k<l.length) (hp:blk l[k]=true):gapL false (l.drop k)=gapL false (l.drop (k+1))+1:=by
 rw[List.drop_eq_getElem_cons h,gapL,if_neg (fun e=>by rw[e] at hp;simp[blk] at hp),if_pos hp]
theorem gap_hash {l:Bs} {k:Nat} (h:k<l.length) (hp:l[k]=35):gapL false (l.drop k)=gapL true (l.drop (k+1))+1:=by
 rw[List.drop_eq_getElem_cons h,gapL,if_pos hp]
theorem gap_stop {l:Bs} {k:Nat} (h:k<l.length) (hb:blk l[k]=false) (hp:l[k]≠35):gapL false (l.drop k)=0:=by
 rw[List.drop_eq_getElem_cons h,gapL,if_neg hp,hb];rfl
def notNl (c:UInt8):Bool:=c != 10
theorem gap_cmt (l:Bs):gapL true l=spn notNl l+gapL false (l.drop (spn notNl l)):=by
 induction l with
 | nil=>simp[gapL,spn]
 | cons c l ih =>
  by_cases h:c=10
  ·subst h;simp[gapL,spn,notNl,blk]
  simp only[gapL,spn,notNl,if_neg h];have:(c != 10)=true:=by simp[h]
  simp only[this,if_true,List.drop_succ_cons];have e:spn (fun c=>c != 10) l=spn notNl l:=rfl;rw[ih];omega
theorem gap_cmt' {l:Bs} {k:Nat} (h:k<l.length) (hp:l[k]=35):gapL false (l.drop k)=spn notNl (l.drop k)+gapL false (l.drop (k+spn notNl (l.drop k))):=by
 rw[gap_hash h hp,gap_cmt,List.drop_drop];have e:spn notNl (l.drop k)=spn notNl (l.drop (k+1))+1:=spn_step h (by rw[hp];rfl);rw[e,show k+(spn notNl (l.drop (k+1))+1)=k+1+spn notNl (l.drop (k+1)) from by omega]
 omega
def stepP (p:Nat × Nat) (c:UInt8):Nat × Nat:=if c=10 then (p.1+1,1) else (p.1,p.2+1)
def adv (p:Nat × Nat) (l:Bs):Nat × Nat:=l.foldl stepP p
theorem adv_cons (p:Nat × Nat) (c:UInt8) (l:Bs):adv p (c::l)=adv (stepP p c) l:=rfl
theorem adv_app (p:Nat × Nat) (l r:Bs):adv p (l++r)=adv (adv p l) r:=by simp[adv]
theorem adv_take_succ (p:Nat × Nat) (l:Bs) (k:Nat) (h:k<l.length):adv p (l.take (k+1))=stepP (adv p (l.take k)) l[k]:=by
 rw[List.take_succ_eq_append_getElem h,adv_app];rfl
theorem stepP_nl {p:Nat × Nat} {c:UInt8} (h:c=10):stepP p c=(p.1+1,1):=by rw[stepP,if_pos h]
theorem stepP_no {p:Nat × Nat} {c:UInt8} (h:c≠10):stepP p c=(p.1,p.2+1):=by rw[stepP,if_neg h]
theorem adv_bd (p:Nat × Nat) (l:Bs):(adv p l).1<=p.1+l.length/\(adv p l).2<=p.2+1+l.length:=by
 induction l generalizing p with
 | nil=>simp[adv]
 | cons c l ih =>
  rw[adv_cons];have:=ih (stepP p c)
  by_cases h:c=10
  ·rw[stepP_nl h] at this ⊢;simp only[lsc] at this ⊢;omega
  rw[stepP_no h] at this ⊢;simp only[lsc] at this ⊢;omega
theorem adv_pos (p:Nat × Nat) (l:Bs) (h1:1<=p.1) (h2:1<=p.2):1<=(adv p l).1/\1<=(adv p l).2:=by
 induction l generalizing p with
 | nil=>exact⟨h1,h2⟩
 | cons c l ih =>
  rw[adv_cons];unfold stepP
  split
  ·exact ih _ (by simp) (by simp)
  exact ih _ h1 (by simp)
def lexLt (p q:Nat × Nat):Prop:=p.1<q.1\/(p.1=q.1/\p.2<q.2)
theorem step_lt (p:Nat × Nat) (c:UInt8):lexLt p (stepP p c):=by
 unfold lexLt stepP;split<;>simp
theorem lexLt_trans {p q r:Nat × Nat} (h:lexLt p q) (k:lexLt q r):lexLt p r:=by
 unfold lexLt at *;omega
theorem adv_lt (p:Nat × Nat) (l:Bs) (h:l ≠ []):lexLt p (adv p l):=by
 induction l generalizing p with
 | nil=>exact absurd rfl h
 | cons c l ih =>
  rw[adv_cons]
  by_cases hl:l=[]
  ·subst hl;exact step_lt p c
  exact lexLt_trans (step_lt p c) (ih _ hl)
inductive Meas where | ok (kind len:Nat) | bad (e:Nat)
def meas:Bs->Meas
 | []=>.ok 4 0
 | a::r =>
  if isL a then
   if 40<spn isLD (a::r) then .bad 2 else if isW ((a::r).take (spn isLD (a::r))) then .ok 3 (spn isLD (a::r)) else .ok 0 (spn isLD (a::r))
  else if isD a then
   if 1<spn isD (a::r)/\a=48 then .bad 1 else if 300<spn isD (a::r) then .bad 2 else .ok 1 (spn isD (a::r))
  else if 0<sgn (a::r) then .ok 2 (sgn (a::r)) else .bad 1
theorem meas_cons (a:UInt8) (r:Bs):meas (a::r) =
  if isL a then
   if 40<spn isLD (a::r) then .bad 2 else if isW ((a::r).take (spn isLD (a::r))) then .ok 3 (spn isLD (a::r)) else .ok 0 (spn isLD (a::r))
  else if isD a then
   if 1<spn isD (a::r)/\a=48 then .bad 1 else if 300<spn isD (a::r) then .bad 2 else .ok 1 (spn isD (a::r))
  else if 0<sgn (a::r) then .ok 2 (sgn (a::r)) else .bad 1:=rfl
theorem isLD_ne {c:UInt8} (h:isLD c=true):c≠10/\blk c=false/\c≠35:=by
 have hc:∀ x:UInt8,(x=10\/x=32\/x=9\/x=13\/x=35)->isLD x=false:=by
  intro x hx;rcases hx with rfl | rfl | rfl | rfl | rfl<;>rfl
 refine⟨fun e=>?_,?_,fun e=>?_⟩
 ·rw[hc c (.inl e)] at h;cases h
 ·cases hb:blk c with
  | false=>rfl
  | true =>
   have:c=32\/c=9\/c=10\/c=13:=by simpa [blk,or_assoc] using hb
   rw[hc c (by rcases this with e | e | e | e<;>simp[e])] at h;cases h
 rw[hc c (by simp[e])] at h;cases h
theorem isD_LD {c:UInt8} (h:isD c=true):isLD c=true:=by simp[isLD,h]
theorem isL_LD {c:UInt8} (h:isL c=true):isLD c=true:=by simp[isLD,h]
theorem sgl_ne {c:UInt8} (h:sglB c=true):c≠10/\blk c=false/\c≠35:=by
 have hc:∀ x:UInt8,(x=10\/x=32\/x=9\/x=13\/x=35)->sglB x=false:=by
  intro x hx;rcases hx with rfl | rfl | rfl | rfl | rfl<;>rfl
 refine⟨fun e=>?_,?_,fun e=>?_⟩
 ·rw[hc c (.inl e)] at h;cases h
 ·cases hb:blk c with
  | false=>rfl
  | true =>
   have:c=32\/c=9\/c=10\/c=13:=by simpa [blk,or_assoc] using hb
   rw[hc c (by rcases this with e | e | e | e<;>simp[e])] at h;cases h
 rw[hc c (by simp[e])] at h;cases h
theorem pair_ne {a b:UInt8} (h:pairB a b=true):(a≠10/\blk a=false/\a≠35)/\b≠10:=by
 simp only[pairB,Bool.or_eq_true,Bool.and_eq_true,beq_iff_eq] at h;rcases h with ((((((⟨rfl,rfl⟩ | ⟨rfl,rfl⟩) | ⟨rfl,rfl⟩) | ⟨rfl,rfl⟩) | ⟨rfl,rfl⟩) | ⟨rfl,rfl⟩) | ⟨rfl,rfl⟩) | ⟨rfl,rfl⟩<;>exact⟨⟨by decide,rfl,by decide⟩,by decide⟩
theorem meas_ok {l:Bs} {k n:Nat} (hl:l ≠ []) (h:meas l=.ok k n):k<4/\1<=n/\n<=l.length/\(∀ c ∈ l.take n,c≠10)/\(∀ c,l.head?=some c->blk c=false/\c≠35):=by
 match l,hl with
 | a::r,_ =>
  rw[meas_cons] at h
  by_cases h1:isL a=true
  ·rw[if_pos h1] at h;have e:spn isLD (a::r)=spn isLD r+1:=by rw[spn,if_pos (isL_LD h1)]
   have hne:=isLD_ne (isL_LD h1);have hle:=spn_le isLD (a::r);have hall:=spn_all (p:=isLD) (a::r)
   split at h
   ·cases h
   ·split at h<;>(injection h with hk hn;subst hk;subst hn;exact⟨by omega,by omega,hle,fun c hc=>(isLD_ne (hall c hc)).1,fun c hc=>by simp at hc;subst hc;exact hne.2⟩)
  rw[if_neg h1] at h
  by_cases h2:isD a=true
  ·rw[if_pos h2] at h;have e:spn isD (a::r)=spn isD r+1:=by rw[spn,if_pos h2]
   have hne:=isLD_ne (isD_LD h2);have hle:=spn_le isD (a::r);have hall:=spn_all (p:=isD) (a::r)
   split at h
   ·cases h
   split at h
   ·cases h
   injection h with hk hn;subst hk;subst hn;exact⟨by omega,by omega,hle,fun c hc=>(isLD_ne (isD_LD (hall c hc))).1,fun c hc=>by simp at hc;subst hc;exact hne.2⟩
  rw[if_neg h2] at h
  split at h
  ·rename_i h3
   injection h with hk hn;subst hk;subst hn;have hle:=(sgn_le (a::r)).2
   match r,h3,hle with
   | [],h3,hle =>
    have e2:sglB a=true:=by
     cases hs:sglB a with
     | true=>rfl
     | false=>simp[sgn,hs] at h3
    have e1:sgn [a]=1:=by simp[sgn,e2]
    have hne:=sgl_ne e2;exact⟨by omega,by omega,hle,fun c hc=>by rw[e1] at hc;simp at hc;subst hc;exact hne.1,fun c hc=>by simp at hc;subst hc;exact hne.2⟩
   | b::r',h3,hle =>
    by_cases e2:pairB a b=true
    ·have e1:sgn (a::b::r')=2:=by simp[sgn,e2]
     have hne:=pair_ne e2;exact⟨by omega,by omega,hle,fun c hc=>by rw[e1] at hc;simp at hc;rcases hc with rfl | rfl;exact hne.1.1;exact hne.2,fun c hc=>by simp at hc;subst hc;exact hne.1.2⟩
    have e3:sglB a=true:=by
     cases hs:sglB a with
     | true=>rfl
     | false=>simp[sgn,e2,hs] at h3
    have e1:sgn (a::b::r')=1:=by simp[sgn,e2,e3]
    have hne:=sgl_ne e3;exact⟨by omega,by omega,hle,fun c hc=>by rw[e1] at hc;simp at hc;subst hc;exact hne.1,fun c hc=>by simp at hc;subst hc;exact hne.2⟩
  cases h
structure Tok where
 kind:Nat
 text:Bs
 line:Nat
 col:Nat
def lexS (s:Bs) (p:Nat × Nat):List Tok × Nat:=
 if _h:s.drop (gapL false s)=[] then ([⟨4,[],(adv p (s.take (gapL false s))).1,(adv p (s.take (gapL false s))).2⟩],0)
 else match meas (s.drop (gapL false s)) with
  | .bad e=>([⟨4,[],(adv p (s.take (gapL false s))).1,(adv p (s.take (gapL false s))).2⟩],e)
  | .ok k n =>
   let r:=lexS ((s.drop (gapL false s)).drop (n - 1+1)) (adv (adv p (s.take (gapL false s))) ((s.drop (gapL false s)).take (n - 1+1)))
   (⟨k,(s.drop (gapL false s)).take n,(adv p (s.take (gapL false s))).1,(adv p (s.take (gapL false s))).2⟩::r.1,r.2)
termination_by s.length
decreasing_by
 have:0<(s.drop (gapL false s)).length:=List.length_pos_iff.2 _h
 simp at this ⊢;omega
theorem lex_end {s:Bs} {p:Nat × Nat} (h:s.drop (gapL false s)=[]):lexS s p=([⟨4,[],(adv p s).1,(adv p s).2⟩],0):=by
 have e:s.take (gapL false s)=s:=List.take_of_length_le (List.drop_eq_nil_iff.1 h);rw[lexS,dif_pos h,e]
theorem lex_bad {s:Bs} {p:Nat × Nat} {e:Nat} (h:s.drop (gapL false s) ≠ []) (hm:meas (s.drop (gapL false s))=.bad e):lexS s p=([⟨4,[],(adv p (s.take (gapL false s))).1,(adv p (s.take (gapL false s))).2⟩],e):=by
 rw[lexS,dif_neg h,hm]
theorem lex_tok {s:Bs} {p:Nat × Nat} {k n:Nat} (h:s.drop (gapL false s) ≠ []) (hm:meas (s.drop (gapL false s))=.ok k n) :
  lexS s p=(⟨k,(s.drop (gapL false s)).take n,(adv p (s.take (gapL false s))).1,(adv p (s.take (gapL false s))).2⟩::(lexS ((s.drop (gapL false s)).drop n) (adv (adv p (s.take (gapL false s))) ((s.drop (gapL false s)).take n))).1,
   (lexS ((s.drop (gapL false s)).drop n) (adv (adv p (s.take (gapL false s))) ((s.drop (gapL false s)).take n))).2):=by
 have h1:=(meas_ok h hm).2.1;have e:n - 1+1=n:=by omega
 rw[lexS,dif_neg h,hm];simp only[e]
theorem lex_ne (s:Bs) (p:Nat × Nat):(lexS s p).1 ≠ []:=by
 rw[lexS];split
 ·simp
 split<;>simp
theorem meas_bad {l:Bs} {e:Nat} (h:meas l=.bad e):e=1\/e=2:=by
 match l with
 | []=>cases h
 | a::r =>
  rw[meas_cons] at h
  repeat' split at h
  all_goals first | (injection h with h;omega) | cases h
theorem lex_code (s:Bs) (p:Nat × Nat):(lexS s p).2=0\/(lexS s p).2=1\/(lexS s p).2=2:=by
 induction hn:s.length using Nat.strongRecOn generalizing s p with
 | ind n ih =>
  by_cases h:s.drop (gapL false s)=[]
  ·rw[lex_end h];exact .inl rfl
  cases hm:meas (s.drop (gapL false s)) with
  | bad e=>rw[lex_bad h hm];rcases meas_bad hm with e | e<;>simp[e]
  | ok k m =>
   rw[lex_tok h hm];have:=meas_ok h hm;exact ih _ (by subst hn;have h1:=List.length_pos_iff.2 h;simp only[List.length_drop] at this h1 ⊢;omega) _ _ rfl
theorem lex_ind {C:Bs->Nat × Nat->List Tok->Prop} (hend:∀ s p,s.drop (gapL false s)=[]->C s p [⟨4,[],(adv p s).1,(adv p s).2⟩])
  (htok:∀ s p k n ts,s.drop (gapL false s) ≠ []->meas (s.drop (gapL false s))=.ok k n->C ((s.drop (gapL false s)).drop n) (adv (adv p (s.take (gapL false s))) ((s.drop (gapL false s)).take n)) ts ->
   lexS ((s.drop (gapL false s)).drop n) (adv (adv p (s.take (gapL false s))) ((s.drop (gapL false s)).take n))=(ts,0) ->
   C s p (⟨k,(s.drop (gapL false s)).take n,(adv p (s.take (gapL false s))).1,(adv p (s.take (gapL false s))).2⟩::ts))
  (s:Bs) (p:Nat × Nat) (h0:(lexS s p).2=0):C s p (lexS s p).1:=by
 induction hn:s.length using Nat.strongRecOn generalizing s p with
 | ind n ih =>
  by_cases h:s.drop (gapL false s)=[]
  ·rw[lex_end h];exact hend s p h
  cases hm:meas (s.drop (gapL false s)) with
  | bad e=>rw[lex_bad h hm] at h0;rcases meas_bad hm with e | e<;>simp[e] at h0
  | ok k m =>
   rw[lex_tok h hm] at h0 ⊢;have:=meas_ok h hm;refine htok s p k m _ h hm (ih _ (by subst hn;have h1:=List.length_pos_iff.2 h;simp only[List.length_drop] at this h1 ⊢;omega) _ _ h0 rfl) ?_;exact Prod.ext rfl h0
def textSum (ts:List Tok):Nat:=(ts.map fun t=>t.text.length).sum
theorem lex_sum (s:Bs) (p:Nat × Nat):(lexS s p).1.length<=s.length+1/\textSum (lexS s p).1<=s.length:=by
 induction hn:s.length using Nat.strongRecOn generalizing s p with
 | ind n ih =>
  by_cases h:s.drop (gapL false s)=[]
  ·rw[lex_end h];simp[textSum]
  cases hm:meas (s.drop (gapL false s)) with
  | bad e=>rw[lex_bad h hm];simp[textSum]
  | ok k m =>
   rw[lex_tok h hm];have h2:=meas_ok h hm;have h3:=ih _ (by subst hn;have h1:=List.length_pos_iff.2 h;simp only[List.length_drop] at h2 h1 ⊢;omega) ((s.drop (gapL false s)).drop m) (adv (adv p (s.take (gapL false s))) ((s.drop (gapL false s)).take m)) rfl;simp only[textSum,List.length_drop,lsc,List.map_cons,List.sum_cons,List.length_take] at h2 h3 ⊢
   omega
def Placed (s:Bs) (p:Nat × Nat):Nat->List Tok->Prop
 | off,[]=>off=s.length
 | off,t::ts=>∃ o,off<=o/\o+t.text.length<=s.length/\adv p (s.take o)=(t.line,t.col)/\(s.drop o).take t.text.length=t.text/\(∀ c ∈ t.text,c≠10)/\Placed s p (o+t.text.length) ts
theorem lex_placed (s0:Bs) (p0:Nat × Nat) (h0:(lexS s0 p0).2=0):Placed s0 p0 0 (lexS s0 p0).1:=by
 refine lex_ind (C:=fun s p ts=>∀ off,off<=s0.length->s=s0.drop off->p=adv p0 (s0.take off)->Placed s0 p0 off ts) ?_ ?_ s0 p0 h0 0 (Nat.zero_le _) rfl rfl
 ·intro s p h off ho hs hp;refine⟨s0.length,ho,by simp,?_,by simp,by simp,by simp[Placed]⟩;rw[hs,hp,<-adv_app,List.take_append_drop,List.take_length]
 intro s p k n ts h hm ih he off ho hs hp;have h2:=meas_ok h hm;have hg:=gap_le false s;have hl:s.length=s0.length - off:=by rw[hs,List.length_drop]
 have h3:n<=s.length - gapL false s:=by have:=h2.2.2.1;simpa using this
 have hp1:adv p (s.take (gapL false s))=adv p0 (s0.take (off+gapL false s)):=by
  rw[hp,<-adv_app,List.take_add];rw[<-hs]
 have hdd:(s.drop (gapL false s))=s0.drop (off+gapL false s):=by rw[<-List.drop_drop,<-hs]
 have hlen:((s.drop (gapL false s)).take n).length=n:=by rw[List.length_take,List.length_drop];omega
 refine⟨off+gapL false s,by omega,by rw[hlen];omega,by rw[<-hp1],by rw[hlen,<-hdd],h2.2.2.2.1,?_⟩;rw[hlen];refine ih _ (by omega) (by rw[hdd,List.drop_drop]) ?_;rw[hp1,hdd,<-adv_app,<-List.take_add]
inductive T where
 | node (k:Nat) (nm ot:Bs) (z:Nat) (ks:List T)
def T.k:T->Nat | .node k _ _ _ _=>k
def T.ks:T->List T | .node _ _ _ _ ks=>ks
def ar (k:Nat):Nat:=[0,0,0,0,0,1,1,1,1,1,2,2,2,2,2,2,2,2,2,2,2,2,2,2,3,3,2,3,2].getD k 0
def lv (k:Nat):Nat:=[8,8,8,8,8,7,7,7,7,7,5,5,6,6,6,3,3,3,3,3,3,2,1,4,8,0,0,0,0].getD k 0
def sg5 (k:Nat):Bs:=[[],[116,114,117,101],[102,97,108,115,101],[],[91,93],[45],[110,111,116,32],[108,101,110,32],[104,100,32],[116,108,32],[43],[45],[42],[47],[37],[61],[60,62],[60],[60,61],[62],[62,61],[38,38],[124,124],[58,58]].getD k []
def lft (l:Nat):Nat:=if l=3 then 4 else if l=4 then 5 else l
def rgt (l:Nat):Nat:=if l=3 then 4 else if l=4 then 4 else l+1
def rq (k i:Nat):Nat:=if k<10 then lv k else if k<24 then (if i=0 then lft (lv k) else rgt (lv k)) else 0
def words (k:Nat) (nm ot:Bs):List Bs:=
 if k=25 then [[105,102,32],[32,116,104,101,110,32],[32,101,108,115,101,32]]
 else if k=26 then [[108,101,116,32]++nm++[32,61,32],[32,105,110,32]]
 else if k=27 then [[109,97,116,99,104,32],[32,119,105,116,104,32,91,93,32,45,62,32],[32,124,32]++nm++[32,58,58,32]++ot++[32,45,62,32]]
 else [[97,115,115,101,114,116,32],[59,32]]
def phr:List Bs->List Bs->Bs
 | w::ws,p::ps=>w++p++phr ws ps
 | _,_=>[]
def com:List Bs->Bs
 | []=>[]
 | [p]=>p
 | p::q::ps=>p++[44,32]++com (q::ps)
def shp (k:Nat) (nm ot:Bs) (z:Nat) (ps:List Bs):Bs:=
 if k=0 then zText (z:Int)
 else if k=3 then nm
 else if k<5 then sg5 k
 else if k<10 then sg5 k++ps.getD 0 []
 else if k<24 then ps.getD 0 []++[32]++sg5 k++[32]++ps.getD 1 []
 else if k=24 then nm++[40]++com ps++[41]
 else phr (words k nm ot) ps
def br (want have':Nat) (s:Bs):Bs:=if want<=have' then s else [40]++s++[41]
mutual
def tx:T->Bs
 | .node k nm ot z ks=>shp k nm ot z (exs k 0 ks)
def exs:Nat->Nat->List T->List Bs
 | _,_,[]=>[]
 | k,i,t::ts=>br (rq k i) (lv t.k) (tx t)::exs k (i+1) ts
end
def ex (want:Nat) (t:T):Bs:=br want (lv t.k) (tx t)
mutual
def fl:T->Bs
 | .node k nm ot z ks=>if ks.isEmpty || k==24 then tx (.node k nm ot z ks) else [40]++shp k nm ot z (fls ks)++[41]
def fls:List T->List Bs
 | []=>[]
 | t::ts=>fl t::fls ts
end
mutual
def sz:T->Nat
 | .node _ _ _ _ ks=>1+szs ks
def szs:List T->Nat
 | []=>0
 | t::ts=>sz t+szs ts
end
mutual
def dp:T->Nat
 | .node _ _ _ _ ks=>dps ks+1
def dps:List T->Nat
 | []=>0
 | t::ts=>max (dp t) (dps ts)
end
def kp (c:UInt8):Bool:=c != 40 && c != 41 && c != 32
end Go.Proofs.YtkocdbgmckdcpaaGreatDoor
namespace Go.Proofs.YtkocdbgmckdcpaaGreatDoor
open Go.ChangeShapes Go.WideShapes Go.ChangeAt Go.RowKit
set_option maxRecDepth 100000
theorem own:ownKnob Tryz.prog.godebug=none:=by kernel_rfl
theorem laidOut:laidOutB Tryz.prog=true:=by kernel_rfl
end Go.Proofs.YtkocdbgmckdcpaaGreatDoor
namespace Go.Proofs.YtkocdbgmckdcpaaGreatDoor
open Go.RowKit
set_option maxRecDepth 100000
structure X where
 k:Int
 nm:ByteArray
 ot:ByteArray
 b:Bool
 ao:Option Addr
 n:Nat
 c:Nat
 ko:Option Addr
 kn:Nat
 kc:Nat
 ln:Int
 cl:Int
def xv (x:X):Value:=.agg #[.int .i64 x.k,.string x.nm,.string x.ot,.bool x.b,.slice x.ao x.n x.c,.slice x.ko x.kn x.kc,.int .i64 x.ln,.int .i64 x.cl]
def xc (x:X):List Value:=[.int .i64 x.k,.string x.nm,.string x.ot,.bool x.b,.slice x.ao x.n x.c,.slice x.ko x.kn x.kc,.int .i64 x.ln,.int .i64 x.cl]
def At8 (w:World) (ko:Option Addr) (i:Nat) (y:X):Prop:=∃ a,ko=some a/\∀ j v,(xc y)[j]?=some v->w.cell? ((a.add (i*8)).add j)=some v
theorem add_block (a:Addr) (i:Nat):(a.add i).block=a.block:=by unfold Addr.add;split<;>rfl
theorem cell_keep {w w':World} {p:Addr} (h:w'.heap[p.block]?=w.heap[p.block]?):w'.cell? p=w.cell? p:=World.cell?_of_block h
theorem At8.keep {w w':World} {ko:Option Addr} {i:Nat} {y:X} (h:At8 w ko i y) (hk:∀ a,ko=some a->w'.heap[a.block]?=w.heap[a.block]?):At8 w' ko i y:=by
 obtain⟨a,rfl,h⟩:=h;refine⟨a,rfl,fun j v hv=>?_⟩;rw[cell_keep (w:=w) (by rw[add_block,add_block];exact hk a rfl)];exact h j v hv
theorem At8.lt {w:World} {ko:Option Addr} {i:Nat} {y:X} (h:At8 w ko i y):∀ a,ko=some a->a.block<w.heap.size:=by
 obtain⟨a,rfl,h⟩:=h;rintro _ ⟨⟩;have:=cell_lt (h 0 _ rfl)
 rwa [add_block,add_block] at this
theorem Sl.keep {w w':World} {k:IntKind} {ao:Option Addr} {n c:Nat} {xs:List Nat} (h:Sl w k (.slice ao n c) xs) (hk:n≠0->∀ a,ao=some a->w'.heap[a.block]?=w.heap[a.block]?):Sl w' k (.slice ao n c) xs:=by
 obtain⟨ao',cap,e,h1,h2,h3,h4⟩:=h;injection e with e1 e2 e3;subst e1;subst e3;refine⟨ao,c,by rw[e2],h1,h2,h3,fun i hi=>?_⟩;obtain⟨a,ha,hc⟩:=h4 i hi;refine⟨a,ha,?_⟩;rw[cell_keep (w:=w) (by rw[add_block];exact hk (by omega) a ha)];exact hc
theorem cells8 {w:World} {p:Addr} {y:X} (h:∀ j v,(xc y)[j]?=some v->w.cell? (p.add j)=some v):w.cell? p=some (.int .i64 y.k)/\w.cell? ⟨p.block,p.off+1,none⟩=some (.string y.nm)/\w.cell? ⟨p.block,p.off+2,none⟩=some (.string y.ot) /\
  w.cell? ⟨p.block,p.off+3,none⟩=some (.bool y.b)/\w.cell? ⟨p.block,p.off+4,none⟩=some (.slice y.ao y.n y.c)/\w.cell? ⟨p.block,p.off+5,none⟩=some (.slice y.ko y.kn y.kc)/\w.cell? ⟨p.block,p.off+6,none⟩=some (.int .i64 y.ln)/\w.cell? ⟨p.block,p.off+7,none⟩=some (.int .i64 y.cl):=
 ⟨h 0 _ rfl,h 1 _ rfl,h 2 _ rfl,h 3 _ rfl,h 4 _ rfl,h 5 _ rfl,h 6 _ rfl,h 7 _ rfl⟩
def st8 (w:World) (g:Nat) (v0 v1 v2 v3 v4 v5 v6 v7:Value):World:=
 (((((((w.setCell ⟨g,0,none⟩ v0).setCell ⟨g,1,none⟩ v1).setCell ⟨g,2,none⟩ v2).setCell ⟨g,3,none⟩ v3).setCell ⟨g,4,none⟩ v4).setCell ⟨g,5,none⟩ v5).setCell ⟨g,6,none⟩ v6).setCell ⟨g,7,none⟩ v7
theorem st8_same {w:World} {g:Nat} {T:TypeId} {a0 a1 a2 a3 a4 a5 a6 a7:Value} (h:w.heap[g]?=some (.cells #[a0,a1,a2,a3,a4,a5,a6,a7] T (0,0))) (v0 v1 v2 v3 v4 v5 v6 v7:Value) :
  (st8 w g v0 v1 v2 v3 v4 v5 v6 v7).heap[g]?=some (.cells #[v0,v1,v2,v3,v4,v5,v6,v7] T (0,0)):=by
 have h0:(w.setCell ⟨g,0,none⟩ v0).heap[g]?=some (.cells #[v0,a1,a2,a3,a4,a5,a6,a7] T (0,0)):=heap_setCell_same _ g 0 _ T v0 h;have h1:((w.setCell ⟨g,0,none⟩ v0).setCell ⟨g,1,none⟩ v1).heap[g]?=some (.cells #[v0,v1,a2,a3,a4,a5,a6,a7] T (0,0)):=heap_setCell_same _ g 1 _ T v1 h0;have h2:(((w.setCell ⟨g,0,none⟩ v0).setCell ⟨g,1,none⟩ v1).setCell ⟨g,2,none⟩ v2).heap[g]?=some (.cells #[v0,v1,v2,a3,a4,a5,a6,a7] T (0,0)):=heap_setCell_same _ g 2 _ T v2 h1;have h3:((((w.setCell ⟨g,0,none⟩ v0).setCell ⟨g,1,none⟩ v1).setCell ⟨g,2,none⟩ v2).setCell ⟨g,3,none⟩ v3).heap[g]?=some (.cells #[v0,v1,v2,v3,a4,a5,a6,a7] T (0,0)):=heap_setCell_same _ g 3 _ T v3 h2
 have h4:(((((w.setCell ⟨g,0,none⟩ v0).setCell ⟨g,1,none⟩ v1).setCell ⟨g,2,none⟩ v2).setCell ⟨g,3,none⟩ v3).setCell ⟨g,4,none⟩ v4).heap[g]?=some (.cells #[v0,v1,v2,v3,v4,a5,a6,a7] T (0,0)):=heap_setCell_same _ g 4 _ T v4 h3;have h5:((((((w.setCell ⟨g,0,none⟩ v0).setCell ⟨g,1,none⟩ v1).setCell ⟨g,2,none⟩ v2).setCell ⟨g,3,none⟩ v3).setCell ⟨g,4,none⟩ v4).setCell ⟨g,5,none⟩ v5).heap[g]?=some (.cells #[v0,v1,v2,v3,v4,v5,a6,a7] T (0,0)):=heap_setCell_same _ g 5 _ T v5 h4;have h6:(((((((w.setCell ⟨g,0,none⟩ v0).setCell ⟨g,1,none⟩ v1).setCell ⟨g,2,none⟩ v2).setCell ⟨g,3,none⟩ v3).setCell ⟨g,4,none⟩ v4).setCell ⟨g,5,none⟩ v5).setCell ⟨g,6,none⟩ v6).heap[g]?=some (.cells #[v0,v1,v2,v3,v4,v5,v6,a7] T (0,0)):=heap_setCell_same _ g 6 _ T v6 h5
 have h7:((((((((w.setCell ⟨g,0,none⟩ v0).setCell ⟨g,1,none⟩ v1).setCell ⟨g,2,none⟩ v2).setCell ⟨g,3,none⟩ v3).setCell ⟨g,4,none⟩ v4).setCell ⟨g,5,none⟩ v5).setCell ⟨g,6,none⟩ v6).setCell ⟨g,7,none⟩ v7).heap[g]?=some (.cells #[v0,v1,v2,v3,v4,v5,v6,v7] T (0,0)):=heap_setCell_same _ g 7 _ T v7 h6;exact h7
theorem set1_other (w:World) (g i:Nat) (v:Value) {k:Nat} (hk:k≠g):(w.setCell ⟨g,i,none⟩ v).heap[k]?=w.heap[k]?:=heap_setCell_other _ _ k _ (by simpa using hk)
theorem st8_other (w:World) (g:Nat) (v0 v1 v2 v3 v4 v5 v6 v7:Value) {k:Nat} (hk:k≠g):(st8 w g v0 v1 v2 v3 v4 v5 v6 v7).heap[k]?=w.heap[k]?:=by
 unfold st8;rw[set1_other _ _ _ _ hk,set1_other _ _ _ _ hk,set1_other _ _ _ _ hk,set1_other _ _ _ _ hk,set1_other _ _ _ _ hk,set1_other _ _ _ _ hk,set1_other _ _ _ _ hk,set1_other _ _ _ _ hk]
theorem st8_grown (w:World) (g:Nat) (v0 v1 v2 v3 v4 v5 v6 v7:Value):w.grownBy (st8 w g v0 v1 v2 v3 v4 v5 v6 v7) (some g):=by
 unfold st8;refine grown_setCell ?_ _;refine grown_setCell ?_ _;refine grown_setCell ?_ _;refine grown_setCell ?_ _;refine grown_setCell ?_ _;refine grown_setCell ?_ _;refine grown_setCell ?_ _;refine grown_setCell ?_ _;exact World.grownBy.refl _ _
theorem below_set1 {B:Nat} {w0 w:World} (h:Below B w0 w) {g:Nat} (hg:B<=g) (i:Nat) (v:Value):Below B w0 (w.setCell ⟨g,i,none⟩ v):=h.setCell (by simpa using hg) _
theorem st8_below {B:Nat} {w0 w:World} (h:Below B w0 w) {g:Nat} (hg:B<=g) (v0 v1 v2 v3 v4 v5 v6 v7:Value):Below B w0 (st8 w g v0 v1 v2 v3 v4 v5 v6 v7):=by
 have k:=st8_grown w g v0 v1 v2 v3 v4 v5 v6 v7;exact⟨k.os.trans h.os,k.tape.trans h.tape,k.output.trans h.output,Nat.le_trans h.size k.size,fun q hq=>by rw[st8_other _ _ _ _ _ _ _ _ _ _ (by omega)];exact h.block q hq⟩
theorem setCell_size (w:World) (p:Addr) (v:Value):(w.setCell p v).heap.size=w.heap.size:=by simp[World.setCell]
theorem infoExpr:(Tryz.prog.info? 46).map (fun i=>(i.zero,i.size,i.bytes))=some (some (.agg #[.int .i64 0,.string ⟨#[]⟩,.string ⟨#[]⟩,.bool false,.slice none 0 0,.slice none 0 0,.int .i64 0,.int .i64 0]),8,112):=by kernel_rfl
def Fresh (w:World) (v v':Value):Prop:=∀ g,v'.ownBlock=some g->v.ownBlock=some g\/w.heap.size<=g
theorem append_fresh {P:Program} {w w':World} {t ty e:TypeId} {i:TypeInfo} {z:Value} (ht:P.underlying t=some (.slice e)) (hi:P.info? e=some i) (hz:i.zero=some z)
  {base n m c:Nat} {v v':Value} {xs news:List Value} (hown:w.ownsRow base e i.size v n xs) {a:Addr} (hl:news.length=m*i.size) (hnews:∀ j u,news[j]?=some u->w.cell? (a.add j)=some u) (h1:∀ u ∈ news,u.oneCell'=true)
  (h63:n+m<=1000000000) (hbytes:(n+m)*i.bytes<=140737488355328) (hm:0<m) (hzs:z.cells.size=i.size) (hsz:0<i.size)
  (hr:(Builtin.append_ #[t,t] ty #[v,.slice (some a) m c]).run P w=.ok v' w'):Fresh w v v':=by
 have h0:=hown;rcases hown.2 with ⟨rfl,rfl⟩ | ⟨g,cap,cur,rfl,hbg,hg,hnc,hcm,hcs,htake⟩
 ·have hx:xs=[]:=List.eq_nil_of_length_eq_zero (by simpa using hown.1);subst hx;obtain⟨v2,w2,hr2,ho2,_,_⟩:=run_append_own (P:=P) w w.heap.size t ty e i z i.size i.bytes ht hi hz rfl rfl hzs hsz (.slice none 0 0) 0 [] (World.ownsRow_nil w _ e i.size) a m c news hl hnews h1 (by unfold maxLen;omega) hbytes (Nat.le_refl _);rw[hr] at hr2;injection hr2 with e1 e2;subst e1;exact fun g hg=>.inr (ho2.lt g hg).1
 by_cases hroom:n+m<=cap
 ·have hfit:n*i.size+news.length<=cur.size:=by rw[hl,hcs,<-Nat.add_mul];exact Nat.mul_le_mul_right _ hroom
  rw[run_append_room (P:=P) w t ty e i ht hi g n cap cur hg a m c news hl hnews h1 hroom hfit] at hr;injection hr with e1 e2;subst e1;exact fun q hq=>.inl hq
 rw[run_append_grow (P:=P) w t ty e i z ht hi hz ⟨g,0,none⟩ n cap xs h0.1 (h0.cells (g:=g) rfl) a m c news hl hnews (by omega) (by omega) (growslice_fits (by omega) hbytes)] at hr;injection hr with e1 e2;subst e1;intro q hq;injection hq with hq;exact .inr (by rw[<-hq];exact Nat.le_refl _)
theorem wpList_append_el {P:Program} (w:World) {ops:Array Oper} {rest:List Oper} {o:Oper} {a:Act} {Q:Exit->Act->World->Prop} (hgd:o.guard=none) (s x:Operand) (t:TypeId)
  (ho:o.op=.call { callee:=.builtin .append,args:=#[s,x],argTypes:=#[t,t] })
  (e:TypeId) (ht:P.underlying t=some (.slice e)) {z:Value} {size bytes:Nat} (hinfo:(P.info? e).map (fun i=>(i.zero,i.size,i.bytes))=some (some z,size,bytes)) (hzs:z.cells.size=size) (hsz:0<size) (hby:bytes<=1000)
  (base:Nat) (v:Value) (n:Nat) (xs:List Value) (hs:a.eval s=v) (hown:w.ownsRow base e size v n xs)
  (h:Nat) (T:TypeId) (cs:List Value) (hcs:cs.length=size) (h1:∀ u ∈ cs,u.oneCell'=true) (hx:a.eval x=.slice (some ⟨h,0,none⟩) 1 1) (hc:w.heap[h]?=some (.cells cs.toArray T (0,0)))
  (hlen:n<=1000000) (hbase:base<=w.heap.size)
  (hK:∀ v' w',w'.ownsRow base e size v' (n+1) (xs++cs)->w.grownBy w' v.ownBlock->Fresh w v v'->wpList P ops Q rest (a.put o.dst v') w'):wpList P ops Q (o::rest) a w:=by
 obtain⟨i,hi,hz,hz1,hz2⟩:=info_parts hinfo;subst hz1 hz2;have hnews:∀ j u,cs[j]?=some u->w.cell? ((⟨h,0,none⟩:Addr).add j)=some u:=fun j u hj=>World.news_of_block hc j u (by simpa using hj)
 have hb2:(n+1)*i.bytes<=140737488355328:=Nat.le_trans (Nat.mul_le_mul (show n+1<=1000001 by omega) hby) (by decide);refine wpList_plain hgd fun K hk=>?_
 obtain⟨v',w',hr,h2,h3,h4⟩:=run_append_own (P:=P) w base t o.type e i z i.size i.bytes ht hi hz rfl rfl hzs hsz v n xs hown ⟨h,0,none⟩ 1 1 cs (by rw[hcs,Nat.one_mul]) hnews h1 (by unfold maxLen;omega) hb2 hbase;have hf:=append_fresh ht hi hz hown (c:=1) (m:=1) (by rw[hcs,Nat.one_mul]) hnews h1 (by omega) hb2 (by decide) hzs hsz hr;unfold Oper.wp execOp;simp only[ho,resolve,invoke,builtin,Sem.run_bind,Sem.run_pure,Result.andThen_ok,List.map_toArray,List.map_cons,List.map_nil,hs,hx,hr];exact hk _ _ (hK v' w' h2 h3 hf)
theorem xc_one (y:X):∀ u ∈ xc y,u.oneCell'=true:=by
 intro u hu;simp only[xc,List.mem_cons,List.not_mem_nil,or_false] at hu;rcases hu with rfl | rfl | rfl | rfl | rfl | rfl | rfl | rfl<;>rfl
theorem flat_len (ys:List X):(ys.flatMap xc).length=ys.length*8:=by
 induction ys with
 | nil=>rfl
 | cons t ts ih=>simp only[List.flatMap_cons,lsa,ih,lsc,xc];simp;omega
theorem flat_at (ys:List X) (k j:Nat) (hk:k<ys.length) (hj:j<8):(ys.flatMap xc)[k*8+j]?=(xc ys[k])[j]?:=by
 induction ys generalizing k with
 | nil=>simp at hk
 | cons t ts ih =>
  have hl:(xc t).length=8:=rfl
  cases k with
  | zero=>simp only[List.flatMap_cons,List.getElem_cons_zero];rw[List.getElem?_append_left (by omega)];simp
  | succ k =>
   simp only[List.flatMap_cons,List.getElem_cons_succ];rw[List.getElem?_append_right (by omega),<-ih k (by simpa using hk),hl]
   congr 1;omega
theorem add_lit (g o i:Nat):(⟨g,o,none⟩:Addr).add i=⟨g,o+i,none⟩:=by simp[Addr.add]
theorem own_at {w:World} {base:Nat} {e:TypeId} {ko:Option Addr} {n kc:Nat} {ys:List X} (h:w.ownsRow base e 8 (.slice ko n kc) n (ys.flatMap xc)) (i:Nat) (hi:i<ys.length):At8 w ko i ys[i]:=by
 have hn:ys.length*8=n*8:=by rw[<-flat_len];exact h.1
 have h0:=h;rcases h.2 with ⟨hv,h1⟩ | ⟨g,cap,cur,hv,hb,hg,h1,h2,h3,h4⟩
 ·omega
 injection hv with e1 e2 e3;subst e1 e3;refine⟨_,rfl,fun j v hj=>?_⟩;have hj8:j<8:=by have:=(List.getElem?_eq_some_iff.1 hj).1;simpa [xc] using this
 rw[add_lit,add_lit,Nat.zero_add,World.ownsRow.cellAt h0 (i*8+j) (by omega),flat_at ys i j hi hj8];exact hj
theorem own_form {w:World} {base:Nat} {e:TypeId} {size:Nat} {v:Value} {n:Nat} {xs:List Value} (h:w.ownsRow base e size v n xs):∃ ko kc,v=.slice ko n kc/\n<=kc:=by
 rcases h.2 with ⟨rfl,rfl⟩ | ⟨g,cap,cur,rfl,_,_,h1,_⟩
 ·exact⟨_,_,rfl,Nat.le_refl _⟩
 exact⟨_,_,rfl,h1⟩
set_option linter.unusedVariables false
theorem wp_round {P:Program} {o:Oper} {a:Act} {w:World} {K:Act->World->Prop} {Q:Exit->Act->World->Prop} (l n:Nat) (hd:∀ c,o.op ≠ .defer c) (h:o.wp P a w K Q):o.wpIn (Fence.wide.inRound l) n P a w K Q:=by
 refine⟨fun _ _=>trivial,?_⟩;rw[show (Fence.wide.inRound l).round=some l from rfl,Oper.semAt_some l _ _ hd];unfold Oper.wp at h;generalize (execOp a.eval o).run P w=r at h
 cases r with
 | ok x w' =>
  cases x with
  | value v=>exact h
  | skip=>exact h
  | defer d=>exact h
  | enter f args =>
   have h:Calls P f args w' _:=h;refine⟨fun hs=>by simp[Fence.inRound,Fence.wide] at hs,?_⟩;exact (CallsIn.inRound l (callsIn_wide.2 h)).mono (fun e w2 he=>by cases e<;>exact he)
  | row r args =>
   have h:Rows P r args w' _:=h;refine⟨fun hs=>by simp[Fence.inRound,Fence.wide] at hs,?_⟩;intro c cs _;obtain⟨v,w2,h1,h2⟩:=h c cs;exact⟨v,w2,h1,stepsIn_wide.2 h2⟩
  | _=>exact h.elim
 | halt x w' =>
  cases x with
  | panic v=>exact h
  | _=>exact h.elim
theorem any_round {P:Program} {md:Region.Mode} {ops:Array Oper} {Q:Exit->Act->World->Prop} (l n:Nat) (hQ:¬ LetsOut Q) (hd:∀ (i:Nat) (o:Oper),ops[i]?=some o->∀ c,o.op ≠ .defer c) :
  ∀ (fuel:Nat) (listed:Array Bool) (a:Act) (w:World),wpAny P md ops Q fuel listed a w->wpAnyIn (Fence.wide.inRound l) n P md ops Q fuel listed a w
 | 0,_,_,_,h=>h
 | fuel+1,listed,a,w,h=>by
  refine⟨h.1,fun i hi=>?_⟩;have h2:=h.2 i hi;unfold wpOp at h2;unfold wpOpIn
  cases ho:ops[i]? with
  | none=>rw[ho] at h2;exact any_round l n hQ hd fuel _ _ _ h2
  | some o =>
   rw[ho] at h2;simp only at h2 ⊢
   split
   ·rename_i hw
    rw[if_pos hw] at h2;rcases h2 with h2 | h2
    ·exact Oper.wpIn_mono (fun a w h=>any_round l n hQ hd fuel _ _ _ h) (wp_round l n (hd i o ho) h2)
    exact (hQ h2.2).elim
   rename_i hw
   rw[if_neg hw] at h2;exact⟨fun _ _=>trivial,any_round l n hQ hd fuel _ _ _ h2⟩
theorem region_round {P:Program} {ops:Array Oper} {Q:Exit->Act->World->Prop} {id:Nat} {a:Act} {w:World} (l n:Nat) (hm:P.follows .mixedOrders=true) (hQ:¬ LetsOut Q) (hd:∀ (i:Nat) (o:Oper),ops[i]?=some o->∀ c,o.op ≠ .defer c)
  (h:wpAny P .any ops Q ops.size (Array.replicate ops.size false) a w.drew):(Code.region id ops true).wpIn (Fence.wide.inRound l) n P Q a w:=
 wpIn_region_any hm (any_round l n hQ hd _ _ _ _ h)
def onlyN (K:Act->World->Prop):Exit->Act->World->Prop
 | .normal,a,w=>K a w
 | _,_,_=>False
def noDefer (ops:List Oper):Bool:=ops.all fun o=>match o.op with | .defer _=>false | _=>true
theorem region_roundN {P:Program} {ops:List Oper} {Q:Exit->Act->World->Prop} {id:Nat} {a:Act} {w:World} (l n:Nat) (hm:P.follows .mixedOrders=true) (hd:noDefer ops=true)
  (h:wpAny P .any ops.toArray (onlyN (Q .normal)) ops.toArray.size (Array.replicate ops.toArray.size false) a w.drew):(Code.region id ops.toArray true).wpIn (Fence.wide.inRound l) n P Q a w:=by
 refine wpIn_mono (region_round l n hm (fun ⟨a,w,h⟩=>h) (fun i o ho c hc=>?_) h) (fun e a w h=>by cases e<;>first | exact h | exact h.elim);have:=List.all_eq_true.1 hd o (List.mem_of_getElem? (by simpa using ho))
 simp[hc] at this
theorem any_step {P:Program} {ops:Array Oper} {Q:Exit->Act->World->Prop} {fuel:Nat} {listed:Array Bool} {a:Act} {w:World} (R:List Nat) (hr:Region.ready .any ops listed=R) (hne:R ≠ [])
  (h:∀ i ∈ R,∃ o,ops[i]?=some o/\o.guard=none/\∀ K:Act->World->Prop,Hid (∀ a w,wpAny P .any ops Q fuel (listed.setIfInBounds i true) a w->K a w)->o.wp P a w K Q):wpAny P .any ops Q (fuel+1) listed a w:=by
 refine⟨fun h0=>absurd (hr.symm.trans h0) hne,fun i hi=>?_⟩;rw[hr] at hi;obtain⟨o,ho,hg,hk⟩:=h i hi;unfold wpOp;rw[ho];simp only[Region.wanted,hg,if_true];exact Or.inl (hk _ (Lib.hid fun _ _ h=>h))
theorem R7.region_any {P:Program} {ops:List Oper} {Q:Exit->Act->World->Prop} {t0:Array Value} {ds:List Deferred} {w:World} (D:List (List Nat)) (al:List Nat) (st:List (Nat × Nat)) (og:Nat->Nat) (nq:Nat) (m:Nat) (hok:R7.ok ops D m t0.size=true) (hoks:R7.okSt ops D al st nq=true) (h1000:(st.all fun p=>decide (1000<=p.2))=true) (hog:∀ q,q<nq->og q<w.heap.size) (hod:∀ q q',q<nq->q'<nq->q≠q'->og q≠og q')
  (h:R7.Chain P ops D al st og nq t0 ds w.drew m (R7.Rest P ops Q t0 ds m) ops 0 []):wpAny P .any ops.toArray Q ops.toArray.size (Array.replicate ops.toArray.size false) ⟨t0,ds⟩ w.drew:=by
 have hml:=R7.ok_len hok;obtain⟨H,_,h2,h3⟩:=R7.Chain.all (fun k j hk hj=>R7.ok_lt hok hj (by omega)) ops 0 [] rfl (Nat.zero_le _) (fun j=>by rw[Nat.zero_add]) h;have hc:(Array.replicate ops.toArray.size false).toList.count false=ops.toArray.size:=by simp
 refine R7.main (w0:=w.drew) hok hoks (R7.own_big h1000) hog hod (fun j hj=>(h2 j (Nat.zero_le _) hj).1) (fun j hj=>(h2 j (Nat.zero_le _) hj).2) h3 _ _ _ _ (fun _=>undef) hc ?_
 have hno:∀ j,(Array.replicate ops.toArray.size false).getD j false=true->False:=fun j hj=>by
  rw[Array.getD_eq_getD_getElem?] at hj
  by_cases h:j<ops.length<;>simp[h] at hj
 exact⟨fun j _ hj=>(hno j hj).elim,fun _ _=>rfl,rfl,rfl,fun B _ _=>Below.refl _ _,fun _ _ _=>rfl,fun _ _ _=>rfl,Nat.le_refl _,by simp,fun j hj=>(hno j hj).elim,fun j hj=>(hno j hj).elim,fun j hj=>(hno j hj).elim,fun j _ hj=>(hno j hj).elim,fun i j _ _ hj=>(hno i hj).elim⟩
def Fine (w w':World) (e:TypeId) (size n m:Nat):Prop:=∀ k,k<w.heap.size->w'.heap[k]?=w.heap[k]? \/ ∃ cap cur,w.heap[k]?=some (.cells cur e (0,0))/\n+m<=cap/\cur.size=cap*size
theorem append_fine {P:Program} {w w':World} {t ty e:TypeId} {i:TypeInfo} {z:Value} (ht:P.underlying t=some (.slice e)) (hi:P.info? e=some i) (hz:i.zero=some z)
  {base n m c:Nat} {v v':Value} {xs news:List Value} (hown:w.ownsRow base e i.size v n xs) {a:Addr} (hl:news.length=m*i.size) (hnews:∀ j u,news[j]?=some u->w.cell? (a.add j)=some u) (h1:∀ u ∈ news,u.oneCell'=true)
  (h63:n+m<=1000000001) (hbytes:(n+m)*i.bytes<=140737488355328) (hm:0<m) (hzs:z.cells.size=i.size) (hsz:0<i.size)
  (hr:(Builtin.append_ #[t,t] ty #[v,.slice (some a) m c]).run P w=.ok v' w') (hg:w.grownBy w' v.ownBlock):Fine w w' e i.size n m:=by
 have h0:=hown;rcases hown.2 with ⟨rfl,rfl⟩ | ⟨g,cap,cur,rfl,hbg,hgb,hnc,hcm,hcs,htake⟩
 ·exact fun k hk=>.inl (hg.block k hk (fun e=>by cases e))
 by_cases hroom:n+m<=cap
 ·intro k hk
  by_cases hkg:k=g
  ·subst hkg;exact .inr ⟨cap,cur,hgb,hroom,hcs⟩
  exact .inl (hg.block k hk (fun e=>by injection e with e;exact hkg e))
 rw[run_append_grow (P:=P) w t ty e i z ht hi hz ⟨g,0,none⟩ n cap xs h0.1 (h0.cells (g:=g) rfl) a m c news hl hnews (by omega) (by omega) (growslice_fits (by omega) hbytes)] at hr;injection hr with e1 e2;subst e2;intro k hk;refine .inl ?_;exact Below.heap_alloc w.drew _ k hk
theorem wp_append_els {P:Program} (w:World) {o:Oper} {a:Act} {K:Act->World->Prop} {Q:Exit->Act->World->Prop} (s x:Operand) (t:TypeId)
  (ho:o.op=.call { callee:=.builtin .append,args:=#[s,x],argTypes:=#[t,t] })
  (e:TypeId) (ht:P.underlying t=some (.slice e)) {z:Value} {size bytes:Nat} (hinfo:(P.info? e).map (fun i=>(i.zero,i.size,i.bytes))=some (some z,size,bytes)) (hzs:z.cells.size=size) (hsz:0<size) (hby:bytes<=1000)
  (base:Nat) (v:Value) (n:Nat) (xs:List Value) (hs:a.eval s=v) (hown:w.ownsRow base e size v n xs)
  (p:Addr) (c m:Nat) (cs:List Value) (hcs:cs.length=m*size) (hnews:∀ j u,cs[j]?=some u->w.cell? (p.add j)=some u) (h1:∀ u ∈ cs,u.oneCell'=true) (hx:a.eval x=.slice (some p) m c) (hm:0<m)
  (hlen:n+m<=1000001) (hbase:base<=w.heap.size)
  (hK:∀ v' w',w'.ownsRow base e size v' (n+m) (xs++cs)->w.grownBy w' v.ownBlock->Fresh w v v'->Fine w w' e size n m->K (a.put o.dst v') w'):o.wp P a w K Q:=by
 obtain⟨i,hi,hz,hz1,hz2⟩:=info_parts hinfo;subst hz1 hz2;have hb2:(n+m)*i.bytes<=140737488355328:=Nat.le_trans (Nat.mul_le_mul hlen hby) (by decide);obtain⟨v',w',hr,h2,h3,h4⟩:=run_append_own (P:=P) w base t o.type e i z i.size i.bytes ht hi hz rfl rfl hzs hsz v n xs hown p m c cs hcs hnews h1 (by unfold maxLen;omega) hb2 hbase;have hf:=append_fresh ht hi hz hown (c:=c) (m:=m) hcs hnews h1 (by omega) hb2 hm hzs hsz hr;unfold Oper.wp execOp;simp only[ho,resolve,invoke,builtin,Sem.run_bind,Sem.run_pure,Result.andThen_ok,List.map_toArray,List.map_cons,List.map_nil,hs,hx,hr];exact hK v' w' h2 h3 hf (append_fine ht hi hz hown hcs hnews h1 (by omega) hb2 hm hzs hsz hr h3)
end Go.Proofs.YtkocdbgmckdcpaaGreatDoor
namespace Go.Proofs.YtkocdbgmckdcpaaGreatDoor
set_option maxRecDepth 100000
inductive U where
 | node (k:Nat) (nm ot:Bs) (z:Nat) (ln cl:Nat) (ks:List U)
def U.k:U->Nat | .node k _ _ _ _ _ _=>k
def U.ks:U->List U | .node _ _ _ _ _ _ ks=>ks
def u0:U:=.node 0 [] [] 0 0 0 []
mutual
def ud:U->Nat
 | .node _ _ _ _ _ _ ks=>uds ks+1
def uds:List U->Nat
 | []=>0
 | t::ts=>max (ud t) (uds ts)
end
structure St where
 rest:List Tok
 err:Option (Nat × Nat × Nat)
def tk0:Tok:=⟨4,[],0,0⟩
def St.nx (s:St):Tok:=s.rest.headD tk0
def St.tk (s:St):St:=if s.nx.kind=4 then s else ⟨s.rest.drop 1,s.err⟩
def St.fail (s:St) (t:Tok) (c:Nat):St:=⟨s.rest.drop (s.rest.length - 1),s.err.or (some (c,t.line,t.col))⟩
def St.is (s:St) (w:Bs):Bool:=s.nx.text==w
def St.acc (s:St) (w:Bs):St:=if s.is w then s.tk else s
def St.exp (s:St) (w:Bs):St:=if s.is w then s.tk else s.fail s.nx 1
def St.exps (s:St) (ws:List Bs):St:=ws.foldl St.exp s
def St.name (s:St):St:=if s.nx.kind=0 then s.tk else s.tk.fail s.nx 1
def St.counted (s:St) (count limit:Nat):St:=if limit<=count then s.name.fail s.nx 2 else s.name
abbrev wLet:Bs:=[108,101,116]
abbrev wIf:Bs:=[105,102]
abbrev wMatch:Bs:=[109,97,116,99,104]
abbrev wAssert:Bs:=[97,115,115,101,114,116]
abbrev wIn:Bs:=[105,110]
abbrev wThen:Bs:=[116,104,101,110]
abbrev wElse:Bs:=[101,108,115,101]
abbrev wWith:Bs:=[119,105,116,104]
abbrev wNil:Bs:=[91,93]
abbrev wArrow:Bs:=[45,62]
abbrev wBar:Bs:=[124]
abbrev wCons:Bs:=[58,58]
abbrev wEq:Bs:=[61]
abbrev wSemi:Bs:=[59]
abbrev wV:Bs:=[118]
abbrev wTrue:Bs:=[116,114,117,101]
abbrev wFalse:Bs:=[102,97,108,115,101]
abbrev wOpen:Bs:=[40]
abbrev wClose:Bs:=[41]
abbrev wComma:Bs:=[44]
abbrev wColon:Bs:=[58]
abbrev wBraceO:Bs:=[123]
abbrev wBraceC:Bs:=[125]
abbrev wQualif:Bs:=[113,117,97,108,105,102]
abbrev wFun:Bs:=[102,117,110]
abbrev wInt:Bs:=[105,110,116]
abbrev wBool:Bs:=[98,111,111,108]
abbrev wList:Bs:=[108,105,115,116]
structure Bop where
 sign:Bs
 kind:Nat
 level:Nat
 left:Nat
 right:Nat
def bops:List Bop:=[⟨[124,124],22,1,1,2⟩,⟨[38,38],21,2,2,3⟩,⟨[61],15,3,4,4⟩,⟨[60,62],16,3,4,4⟩,⟨[60],17,3,4,4⟩,⟨[60,61],18,3,4,4⟩,⟨[62],19,3,4,4⟩,⟨[62,61],20,3,4,4⟩,⟨[58,58],23,4,5,4⟩,⟨[43],10,5,5,6⟩,⟨[45],11,5,5,6⟩,⟨[42],12,6,6,7⟩,⟨[47],13,6,6,7⟩,⟨[37],14,6,6,7⟩]
def bopOf (w:Bs):Option Bop:=bops.find? (·.sign==w)
def unOf (w:Bs):Option Nat:=
 if w=[45] then some 5 else if w=[110,111,116] then some 6 else if w=[108,101,110] then some 7 else if w=[104,100] then some 8 else if w=[116,108] then some 9 else none
def prt (k:Nat) (t:Tok) (ks:List U):U:=.node k [] [] 0 t.line t.col ks
def nmd (k:Nat) (t:Tok) (ks:List U):U:=.node k t.text [] 0 t.line t.col ks
mutual
def cExpr:Nat->St->Option (U × St)
 | 0,_=>none
 | n+1,s =>
  if s.is wLet then cLet n s
  else if s.is wIf then cIf n s
  else if s.is wMatch then cMatch n s
  else if s.is wAssert then cAssert n s
  else cBin n 1 s
def cLet:Nat->St->Option (U × St)
 | 0,_=>none
 | n+1,s =>
  (cExpr n ((s.tk.name).exp wEq)).bind fun r1 =>
  (cExpr n (r1.2.exp wIn)).bind fun r2 =>
  some (.node 26 s.tk.nx.text [] 0 s.nx.line s.nx.col [r1.1,r2.1],r2.2)
def cIf:Nat->St->Option (U × St)
 | 0,_=>none
 | n+1,s =>
  (cExpr n s.tk).bind fun r1 =>
  (cExpr n (r1.2.exp wThen)).bind fun r2 =>
  (cExpr n (r2.2.exp wElse)).bind fun r3 =>
  some (prt 25 s.nx [r1.1,r2.1,r3.1],r3.2)
def cMatch:Nat->St->Option (U × St)
 | 0,_=>none
 | n+1,s =>
  (cExpr n s.tk).bind fun r1 =>
  (cExpr n (((r1.2.exp wWith).exp wNil).exp wArrow)).bind fun r2 =>
  (cExpr n (((((r2.2.exp wBar).name).exp wCons).name).exp wArrow)).bind fun r3 =>
  some (.node 27 (r2.2.exp wBar).nx.text (((r2.2.exp wBar).name).exp wCons).nx.text 0 s.nx.line s.nx.col [r1.1,r2.1,r3.1],r3.2)
def cAssert:Nat->St->Option (U × St)
 | 0,_=>none
 | n+1,s =>
  (cExpr n s.tk).bind fun r1 =>
  (cExpr n (r1.2.exp wSemi)).bind fun r2 =>
  some (prt 28 s.nx [r1.1,r2.1],r2.2)
def cBin:Nat->Nat->St->Option (U × St)
 | 0,_,_=>none
 | n+1,least,s=>(cOne n s).bind fun r=>cLoop n least r.1 7 r.2
def cLoop:Nat->Nat->U->Nat->St->Option (U × St)
 | 0,_,_,_,_=>none
 | n+1,least,e,level,s =>
  match bopOf s.nx.text with
  | none=>some (e,s)
  | some op =>
   if op.level<least\/level<op.left then some (e,s)
   else (cBin n op.right s.tk).bind fun r=>cLoop n least (prt op.kind s.nx [e,r.1]) op.level r.2
def cOne:Nat->St->Option (U × St)
 | 0,_=>none
 | n+1,s =>
  match unOf s.nx.text with
  | none=>cAtom n s
  | some k=>(cOne n s.tk).bind fun r=>some (prt k s.nx [r.1],r.2)
def cAtom:Nat->St->Option (U × St)
 | 0,_=>none
 | n+1,s =>
  if s.nx.kind=1 then some (.node 0 [] [] (dn s.nx.text) s.nx.line s.nx.col [],s.tk)
  else if s.nx.kind=0 then
   if s.tk.is wOpen then (cArgs n s.tk.tk).bind fun r=>some (nmd 24 s.nx r.1,r.2)
   else some (nmd 3 s.nx [],s.tk)
  else if s.is wV then some (nmd 3 s.nx [],s.tk)
  else if s.is wTrue then some (prt 1 s.nx [],s.tk)
  else if s.is wFalse then some (prt 2 s.nx [],s.tk)
  else if s.is wNil then some (prt 4 s.nx [],s.tk)
  else if s.is wOpen then (cExpr n s.tk).bind fun r=>some (r.1,r.2.exp wClose)
  else some (u0,s.tk.fail s.nx 1)
def cArgs:Nat->St->Option (List U × St)
 | 0,_=>none
 | n+1,s=>if s.is wClose then some ([],s.tk) else (cExpr n s).bind fun r=>cMore n [r.1] r.2
def cMore:Nat->List U->St->Option (List U × St)
 | 0,_,_=>none
 | n+1,l,s=>if s.is wComma then (cExpr n s.tk).bind fun r=>cMore n (l++[r.1]) r.2 else some (l,s.exp wClose)
end
structure PmU where
 nm:Bs
 b:Nat
 kn:Bool
 ref:U
 ln:Nat
 cl:Nat
structure QlU where
 nm:Bs
 ps:List PmU
 body:U
 ln:Nat
 cl:Nat
structure FnU where
 nm:Bs
 ps:List PmU
 res:PmU
 body:U
 ln:Nat
 cl:Nat
structure PgU where
 qs:List QlU
 fs:List FnU
def cAll (n:Nat) (s:St):Option (U × St):=(cExpr n s).bind fun r=>some (r.1,if 60<ud r.1 then r.2.fail s.nx 2 else r.2)
def cBase (s:St):Nat × St:=
 if s.is wInt then (0,s.tk) else if s.is wBool then (1,s.tk) else if s.is wList then (2,s.tk) else (0,s.tk.fail s.nx 1)
def cRef (n:Nat) (p:PmU) (s:St):Option (PmU × St):=
 if s.is wBraceO then (cAll n s.tk).bind fun r=>some ({ p with kn:=true,ref:=r.1 },r.2.exp wBraceC) else some (p,s)
def typ (nm:Bs) (t:Tok) (b:Nat):PmU:=⟨nm,b,false,u0,t.line,t.col⟩
def cVar (s:St):PmU × St:=let s2:=(s.exp wV).exp wColon;(typ s.nx.text s.nx (cBase s2).1,(cBase s2).2)
def cParam (count:Nat) (s:St):PmU × St:=let s2:=(s.counted count 6).exp wColon;(typ s.nx.text s.nx (cBase s2).1,(cBase s2).2)
def cRes (n:Nat) (s:St):Option (PmU × St):=cRef n (typ wV s.nx (cBase s).1) (cBase s).2
def cQMore:Nat->List PmU->St->Option (List PmU × St)
 | 0,_,_=>none
 | n+1,l,s=>if s.is wComma then cQMore n (l++[(cParam l.length s.tk).1]) (cParam l.length s.tk).2 else some (l,s)
def cFPar (n:Nat) (l:List PmU) (s:St):Option (List PmU × St):=(cRef n (cParam l.length s).1 (cParam l.length s).2).bind fun r=>some (l++[r.1],r.2)
def cFMore:Nat->Nat->List PmU->St->Option (List PmU × St)
 | 0,_,_,_=>none
 | m+1,n,l,s=>if s.is wComma then (cFPar n l s.tk).bind fun r=>cFMore m n r.1 r.2 else some (l,s.exp wClose)
def cFPars (m n:Nat) (s:St):Option (List PmU × St):=if s.is wClose then some ([],s.tk) else (cFPar n [] s).bind fun r=>cFMore m n r.1 r.2
def cQual (m n count:Nat) (s:St):Option (QlU × St):=
 let s1:=(s.counted count 20).exp wOpen
 (cQMore m [(cVar s1).1] (cVar s1).2).bind fun r =>
 (cAll n ((r.2.exp wClose).exp wColon)).bind fun q =>
 some (⟨s.nx.text,r.1,q.1,s.nx.line,s.nx.col⟩,q.2)
def cFun (m n count:Nat) (s:St):Option (FnU × St):=
 let s1:=(s.counted count 20).exp wOpen
 (cFPars m n s1).bind fun r =>
 (cRes n (r.2.exp wColon)).bind fun t =>
 (cAll n (t.2.exp wEq)).bind fun q =>
 some (⟨s.nx.text,r.1,t.1,q.1,s.nx.line,s.nx.col⟩,q.2)
def cProg:Nat->Nat->PgU->St->Option (PgU × St)
 | 0,_,_,_=>none
 | m+1,n,p,s =>
  if s.is wQualif then (cQual m n p.qs.length s.tk).bind fun r=>cProg m n ⟨p.qs++[r.1],p.fs⟩ r.2
  else if s.is wFun then (cFun m n p.fs.length s.tk).bind fun r=>cProg m n ⟨p.qs,p.fs++[r.1]⟩ r.2
  else some (p,s)
def St.fin (s:St):St:=if s.nx.kind=4 then s else s.fail s.nx 1
structure RS where
 rest:List Tok
 bad:Nat
 pl:Tok
def RS.at' (r:RS):Tok:=r.rest.headD tk0
def RS.bd (r:RS) (t:Tok) (e:Nat):RS:=if r.bad=0 then ⟨r.rest,e,t⟩ else r
def RS.is (r:RS) (w:Bs):Bool:=(r.bad==0) && (r.at'.kind==2 || r.at'.kind==3) && (r.at'.text==w)
def RS.inc (r:RS):RS:=⟨r.rest.drop 1,r.bad,r.pl⟩
def RS.name (r:RS):RS:=if r.at'.kind=0 then (if r.bad=0 then r.inc else r) else r.bd r.at' 1
structure RE where
 S:Bs
 d:Nat
def plc (ln cl:Nat):Bs:=[64]++zText (ln:Nat)++[58]++zText (cl:Nat)
def opn (k:Nat) (ln cl:Nat) (nm:Bs):Bs:=[40]++zText (k:Nat)++plc ln cl++[32]++nm
def mk (k:Nat) (t:Tok) (nm:Bs) (ks:List RE):RE:=⟨opn k t.line t.col nm++ks.flatMap RE.S++[41],ks.foldl (fun d e=>max d e.d) 0+1⟩
def twoT:List (Bs × Nat):=[([43],5),([45],5),([42],6),([47],6),([37],6),([61],3),([60,62],3),([60],3),([60,61],3),([62],3),([62,61],3),([38,38],2),([124,124],1),([58,58],4)]
def two (t:Tok):Nat × Nat:=if t.kind≠2 then (0,0) else match twoT.findIdx? (fun p=>p.1==t.text) with | some i=>((twoT.getD i ([],0)).2,10+i) | none=>(0,0)
set_option linter.unusedVariables false
def fname (k:Nat) (nm ot:Bs) (z:Nat):Bs:=if k=0 then zText (z:Nat) else if k=27 then nm++[32]++ot else nm
mutual
def frm:U->Bs
 | .node k nm ot z ln cl ks=>opn k ln cl (fname k nm ot z)++frms ks++[41]
def frms:List U->Bs
 | []=>[]
 | u::us=>frm u++frms us
end
def fm (u:U):RE:=⟨frm u,ud u⟩
def sigs:List Bs:=[[58,58],[45,62],[38,38],[124,124],[91,93],[60,62],[60,61],[62,61],[40],[41],[123],[125],[44],[58],[59],[124],[61],[60],[62],[43],[45],[42],[47],[37]]
def alls:List Bs:=wds++sigs
structure TokOk (t:Tok):Prop where
 k4:t.kind<=4
 k0:t.kind=0->t.text ∉ alls/\t.text ≠ []
 k1:t.kind=1->t.text ∉ alls/\Numeral t.text
 k2:t.kind=2->t.text ∈ sigs
 k3:t.kind=3->t.text ∈ wds
 ke:t.kind=4->t.text=[]
def GoodL:List Tok->Prop
 | []=>False
 | [t]=>t.kind=4/\TokOk t
 | t::u::ts=>t.kind<4/\TokOk t/\GoodL (u::ts)
theorem GoodL.head {l:List Tok} (h:GoodL l):TokOk (l.headD tk0):=by
 match l,h with
 | [t],h=>exact h.2
 | t::u::ts,h=>exact h.2.1
theorem GoodL.tail {l:List Tok} (h:GoodL l) (hk:(l.headD tk0).kind≠4):GoodL (l.drop 1):=by
 match l,h with
 | [t],h=>exact absurd h.1 hk
 | t::u::ts,h=>exact h.2.2
theorem GoodL.last {l:List Tok} (h:GoodL l):∃ e,l.drop (l.length - 1)=[e]/\e.kind=4/\e.text=[]:=by
 induction l with
 | nil=>exact absurd h id
 | cons t ts ih =>
  match ts,h,ih with
  | [],h,_=>exact⟨t,rfl,h.1,h.2.ke h.1⟩
  | u::ts,h,ih =>
   obtain⟨e,h1,h2⟩:=ih h.2.2;refine⟨e,?_,h2⟩;simp only[lsc,Nat.add_sub_cancel] at h1 ⊢;rw[List.drop_succ_cons];exact h1
theorem GoodL.ne {l:List Tok} (h:GoodL l):l ≠ []:=by intro e;rw[e] at h;exact h
theorem nil_alls:([]:Bs) ∉ alls:=by decide
theorem is_kind {t:Tok} (h:TokOk t) {w:Bs} (hw:w ∈ alls) (e:t.text=w):t.kind=2\/t.kind=3:=by
 have h4:=h.k4;have e0:t.kind≠0:=fun k=>(h.k0 k).1 (e ▸ hw)
 have e1:t.kind≠1:=fun k=>(h.k1 k).1 (e ▸ hw)
 have e4:t.kind≠4:=fun k=>nil_alls (by have:=h.ke k;rw[e] at this;exact this ▸ hw)
 omega
theorem St.is_true {s:St} {w:Bs} (h:s.is w=true):s.nx.text=w:=by simpa [St.is] using h
theorem bop_mem {w:Bs} {op:Bop} (h:bopOf w=some op):op ∈ bops/\op.sign=w:=by
 unfold bopOf at h;exact⟨List.mem_of_find?_eq_some h,by have:=List.find?_some h;simpa using this⟩
theorem bop_tab:∀ op ∈ bops,1<=op.level/\op.level<=6/\op.left=(if op.level=3 then 4 else if op.level=4 then 5 else op.level)/\op.right=(if op.level=4 then 4 else op.level+1)/\op.sign ∈ sigs/\op.kind≠0/\op.kind≠27/\two ⟨2,op.sign,0,0⟩=(op.level,op.kind):=by decide
def start (lev:Nat):Nat:=if lev=7 then 6 else if lev=3 then 2 else if lev=4 then 3 else lev
def Inv (lev:Nat) (s:St):Prop:=∀ op,bopOf s.nx.text=some op->op.level<=start lev\/(op.level=3/\lev<=3)
theorem un_alls {w:Bs} {k:Nat} (h:unOf w=some k):w ∈ alls/\5<=k/\k<=9:=by
 unfold unOf at h
 split at h
 ·rename_i e;injection h with h;subst h e;exact⟨by decide,by decide,by decide⟩
 split at h
 ·rename_i e;injection h with h;subst h e;exact⟨by decide,by decide,by decide⟩
 split at h
 ·rename_i e;injection h with h;subst h e;exact⟨by decide,by decide,by decide⟩
 split at h
 ·rename_i e;injection h with h;subst h e;exact⟨by decide,by decide,by decide⟩
 split at h
 ·rename_i e;injection h with h;subst h e;exact⟨by decide,by decide,by decide⟩
 cases h
end Go.Proofs.YtkocdbgmckdcpaaGreatDoor
namespace Go.Proofs.YtkocdbgmckdcpaaGreatDoor
open Go.RowKit
set_option maxRecDepth 100000
def New (w:World) (v:Value):Prop:=∃ ao n c,v=.slice ao n c/\(n≠0->∀ a,ao=some a->w.heap.size<=a.block)
theorem trim_new (w:World) (cap:Nat) (xs:List Nat):New w (trimmedOf (some ⟨w.heap.size,0,none⟩) cap xs):=by
 unfold trimmedOf
 split
 ·exact⟨_,_,_,rfl,fun h=>absurd rfl h⟩
 exact⟨_,_,_,rfl,fun _ a h=>by injection h with h;subst h;exact Nat.le_refl _⟩
theorem parse_new (l:List UInt8) (w:World) (h:Numeral l) :
  Calls Tryz.prog 165 #[.string ⟨l.toArray⟩] w fun e w'=>∃ v,e=.returned (.tuple #[v,.bool true])/\Sl w' .u32 v (dig L32 (dn l))/\New w v/\Below w.heap.size w w':=by
 obtain⟨i0,hi,hz0,hz1,hz2⟩:=info_parts info51;have hsz:(⟨l.toArray⟩:ByteArray).size=l.length:=rfl;have HN:=Lib.hid h;have hl:=h.2.1;have HD:=Lib.hid h.2.2.2;clear h;go_enter Tryz.func165,Tryz.ntmps165
 go_wp2_with fail
 refine (isNum_true l w HN.out).mono ?_;rintro e w' ⟨rfl,hw'⟩;obtain rfl:=hw'.symm;go_wp2_with (at_make;refine wpList_make_blk _ rfl _ _ 42 rfl 204 i0 .u32 Tryz.underlying42 hi hz0 hz1 _ _ _ _ (l.length / 9+1) rfl rfl (by omega) (by omega) (by omega) (by omega) ?_;intro w1 hB1 hb1 hs1)
 go_loopw [0] (fun sv wr=>∃ (pre rest:List UInt8) (s':List Nat),sv=.string ⟨rest.toArray⟩/\Hid (pre++rest=l)/\Blk wr w.heap.size .u32 204 s'/\Dig L32 s'/\Hid (s'.length=l.length / 9+1)/\Hid (val L32 s'=dn pre)/\Hid (pre=[]\/rest.length % 9=0)/\Below w.heap.size w wr) (fun sv _=>sizeOfS sv)
 case atStart=>exact⟨[],l,_,rfl,Lib.hid rfl,hB1,Dig.replicate (by decide) _,Lib.hid (by simp),Lib.hid (by rw[val_replicate_zero];rfl),Lib.hid (.inl rfl),hb1⟩
 case round =>
  clear hB1 hb1 hs1;obtain⟨pre,rest,s',rfl,HP,hB,hd,HL,HV,HM,hb⟩:=hrel;have hsz':(⟨rest.toArray⟩:ByteArray).size=rest.length:=rfl;have hrl:rest.length<=300:=by have:=congrArg List.length HP.out;rw[lsa] at this;omega
  by_cases h0:0<rest.length
  ·go_wp2_with fail
   rw[extract_take];have hkl:(rest.length - 1) % 9+1<=rest.length:=by omega
   have HR:Hid (AllD rest):=Lib.hid (by have:=HD.out;rw[<-HP.out] at this;exact this.right);have HG:Hid ((rest.take ((rest.length - 1) % 9+1)).length=(rest.length - 1) % 9+1):=Lib.hid (by rw[List.length_take];omega);have HP2:Hid ((pre++rest.take ((rest.length - 1) % 9+1))++rest.drop ((rest.length - 1) % 9+1)=l):=Lib.hid (by rw[List.append_assoc,List.take_append_drop];exact HP.out)
   have HS:=Lib.hid (parse_sum (pre:=pre) (grp:=rest.take ((rest.length - 1) % 9+1)) (by
    rcases HM.out with h | h
    ·exact .inl h
    right;rw[HG.out];omega))
   have HRM:=Lib.hid (parse_room (l:=l) (m:=pre++rest.take ((rest.length - 1) % 9+1)) (by have:=HD.out;rw[<-HP2.out] at this;exact this.left) (by have:=congrArg List.length HP2.out;rw[lsa] at this;omega))
   have hgb:dn (rest.take ((rest.length - 1) % 9+1))<4294967296:=by
    have h1:=dn_lt (HR.out.take ((rest.length - 1) % 9+1));have h2:10 ^ (rest.take ((rest.length - 1) % 9+1)).length<=10 ^ 9:=Nat.pow_le_pow_right (by decide) (by rw[HG.out];omega);have h3:10 ^ 9=1000000000:=rfl
    omega
   have HGB:=Lib.hid hgb;clear hgb;refine (number_any _ wr (HR.out.take _) (by rw[HG.out];omega)).mono ?_;rintro e w' ⟨rfl,hw'⟩;obtain rfl:=hw'.symm;have hws:=ws_part (i:=0) (n:=l.length / 9+1) hB (by have:=HL.out;omega) (by have:=HL.out;omega) (by have:=HL.out;omega);rw[List.take_zero,List.drop_zero] at hws;go_wp2_with fail
   refine (mulAdd_any w.heap.size [] s' [] _ 1000000000 (dn (rest.take ((rest.length - 1) % 9+1))) wr hws hd (by decide) HGB.out (by rw[HV.out,HS.out,HL.out];exact HRM.out)).mono ?_;rintro e w3 ⟨t,rfl,hw3,hg3,hl3,hd3,hv3⟩;rw[HV.out,HS.out] at hv3;have HL3:=Lib.hid hl3;have HV3:=Lib.hid hv3;have hB3:=ws_whole hw3 (by rw[hl3,HL.out];omega);rw[List.nil_append,List.append_nil] at hB3;have hb3:=hb.trans (below_of_grown' hg3 (Nat.le_refl _) hb.size);clear hl3 hv3 hw3 hg3;go_wp2_with fail
   go_roundw
   case rel=>exact⟨pre++rest.take ((rest.length - 1) % 9+1),rest.drop ((rest.length - 1) % 9+1),t,by rw[<-extract_drop],HP2,hB3,hd3,Lib.hid (by rw[HL3.out];exact HL.out),HV3,Lib.hid (.inr (by rw[List.length_drop];omega)),hb3⟩
   case measure=>simp[sizeOfS];omega
  have hr0:rest=[]:=List.eq_nil_of_length_eq_zero (by omega);have HV':=Lib.hid (show val L32 s'=dn l by rw[HV.out,<-HP.out,hr0,List.append_nil]);have hsl:=hB.sl 0 (l.length / 9+1) (l.length / 9+1) (by rw[HL.out];omega) (Nat.le_refl _) (by omega);rw[List.drop_zero,List.take_of_length_le (by rw[HL.out];omega)] at hsl;clear hr0;go_wp2_with fail
  have HT4:=trimmed_sl hsl hd;rw[HV'.out] at HT4;have HT:=Lib.hid HT4;clear HT4;refine (trimmed_any _ _ _ s' _ hsl).mono ?_;rintro e w4 ⟨rfl,rfl⟩;have HNW:=Lib.hid (trim_new w (l.length / 9+1) s');obtain⟨v4,hv4⟩:∃ v4,v4=trimmedOf (some ⟨w.heap.size,0,none⟩) (l.length / 9+1) s':=⟨_,rfl⟩
  rw[<-hv4] at HT HNW ⊢;clear hv4;go_wp2_with fail
  go_ret2
  exact⟨_,rfl,HT.out,HNW.out,hb⟩
theorem signed_new (ao:Option Addr) (n c:Nat) (w:World) :
  Calls Tryz.prog 166 #[.bool false,.slice ao n c] w fun e w'=>e=.returned (.agg #[.bool false,.slice ao n c])/\Below w.heap.size w w':=by
 go_enter Tryz.func166,Tryz.ntmps166
 go_wp2
 exact bodyPost_ret (v:=.agg #[.bool false,.slice ao n c]) (by simp[results,Tryz.results166,go_sem]) rfl ⟨rfl,(Below.refl _ _).alloc (Nat.le_refl _) _⟩
theorem wparse_new (l:List UInt8) (w:World) (hnum:Numeral l) :
  Calls Tryz.prog 156 #[.string ⟨l.toArray⟩] w fun e w'=>∃ ao n c,e=.returned (.tuple #[.agg #[.bool false,.slice ao n c],.bool true])/\Sl w' .u32 (.slice ao n c) (dig L32 (dn l))/\(n≠0->∀ a,ao=some a->w.heap.size<=a.block)/\Below w.heap.size w w':=by
 have hm:l.length<=1000000000:=by have:=hnum.2.1;omega
 have hW:Below w.heap.size w (w.alloc (.cells #[.bool false,.slice none 0 0] 44)):=(Below.refl _ _).alloc (Nat.le_refl _) _;have HC:=Lib.hid (fun w=>cut_no l w hm (num_head hnum));have hlt:=num_lt hnum;have HNUM:=Lib.hid hnum;clear hnum;go_enter Tryz.func156,Tryz.ntmps156
 go_wp2_with fail
 refine (HC.out _).mono ?_;rintro e w' ⟨rfl,rfl⟩;go_wp2_with fail
 refine (parse_new l _ HNUM.out).mono ?_;rintro e w2 ⟨v2,rfl,s2,n2,hb2⟩;have hk2:=(hb2.block w.heap.size (by simp)).trans (heap_alloc_new w _);have hb2t:=hW.trans (hb2.mono (by simp));clear hb2;obtain⟨vo,vn,vc,rfl,hnew⟩:=n2;have hvn:vn=(dig L32 (dn l)).length:=by obtain⟨_,_,e,_⟩:=s2;injection e
 have HNEW:=Lib.hid hnew;clear hnew;subst hvn;go_wp2_with fail
 refine (signed_new vo _ vc w2).mono ?_;rintro e w3 ⟨rfl,hb3⟩;have hk3:=(hb3.block _ (lt_of_block hk2)).trans hk2;have hb3t:=hb2t.trans (hb3.mono hb2t.size);have s3:=s2.below hb3;clear hb3 hk2 hb2t s2;obtain⟨q0,q1,f0,f1⟩:=two_cells hk3;have HB:=Lib.hid hk3;have HS3:=Lib.hid s3;clear hk3 s3;go_wp2_with fail
 refine bodyPost_ret (v:=.tuple #[.agg #[.bool false,.slice vo (dig L32 (dn l)).length vc],.bool true]) (by simp[results,Tryz.results156,go_sem,q0,q1]) rfl ⟨_,_,_,rfl,?_,fun h a e=>?_,below_setg hb3t (by omega) _ _⟩
 ·exact HS3.out.set2 HB.out _ _
 have:=HNEW.out h a e;simp at this;omega
mutual
def Um (w:World) (S:Nat->Prop):X->U->Prop
 | x,.node k nm ot z ln cl ks=>(x.k=(k:Int)/\x.nm=⟨nm.toArray⟩/\x.ot=⟨ot.toArray⟩/\x.b=false/\x.ln=(ln:Int)/\x.cl=(cl:Int))/\(Sl w .u32 (.slice x.ao x.n x.c) (dig L32 z)/\(x.n≠0->∀ a,x.ao=some a->S a.block)) /\
   (x.kn=ks.length/\(x.kn<=x.kc/\x.kc<=maxLen)/\(x.kn≠0->∀ a,x.ko=some a->S a.block))/\Ums w S x.ko 0 ks
def Ums (w:World) (S:Nat->Prop):Option Addr->Nat->List U->Prop
 | _,_,[]=>True
 | ko,i,u::us=>(∃ y,At8 w ko i y/\Um w S y u)/\Ums w S ko (i+1) us
end
mutual
theorem Um.keep {w w':World} {S:Nat->Prop} (hk:∀ g,S g->w'.heap[g]?=w.heap[g]?):∀ {x:X} {u:U},Um w S x u->Um w' S x u
 | x,.node k nm ot z ln cl ks,h=>by
  rw[Um] at h ⊢;obtain⟨h1,⟨h2,h3⟩,⟨h4,h5,h6⟩,h7⟩:=h;refine⟨h1,⟨h2.keep fun h0 a ha=>hk _ (h3 h0 a ha),h3⟩,⟨h4,h5,h6⟩,?_⟩
  by_cases h0:ks.length=0
  ·rw[List.eq_nil_of_length_eq_zero h0,Ums];trivial
  exact Ums.keep hk (fun a ha=>h6 (by omega) a ha) h7
theorem Ums.keep {w w':World} {S:Nat->Prop} (hk:∀ g,S g->w'.heap[g]?=w.heap[g]?):∀ {ko:Option Addr} {i:Nat} {us:List U},(∀ a,ko=some a->S a.block)->Ums w S ko i us->Ums w' S ko i us
 | _,_,[],_,_=>by rw[Ums];trivial
 | ko,i,u::us,hko,h=>by
  rw[Ums] at h ⊢;obtain⟨⟨y,h1,h2⟩,h3⟩:=h;exact⟨⟨y,h1.keep fun a ha=>hk _ (hko a ha),Um.keep hk h2⟩,Ums.keep hk hko h3⟩
end
mutual
theorem Um.mono {w:World} {S S':Nat->Prop} (hs:∀ g,S g->S' g):∀ {x:X} {u:U},Um w S x u->Um w S' x u
 | x,.node k nm ot z ln cl ks,h=>by
  rw[Um] at h ⊢;obtain⟨h1,⟨h2,h3⟩,⟨h4,h5,h6⟩,h7⟩:=h;exact⟨h1,⟨h2,fun h0 a ha=>hs _ (h3 h0 a ha)⟩,⟨h4,h5,fun h0 a ha=>hs _ (h6 h0 a ha)⟩,Ums.mono hs h7⟩
theorem Ums.mono {w:World} {S S':Nat->Prop} (hs:∀ g,S g->S' g):∀ {ko:Option Addr} {i:Nat} {us:List U},Ums w S ko i us->Ums w S' ko i us
 | _,_,[],_=>by rw[Ums];trivial
 | ko,i,u::us,h=>by
  rw[Ums] at h ⊢;obtain⟨⟨y,h1,h2⟩,h3⟩:=h;exact⟨⟨y,h1,Um.mono hs h2⟩,Ums.mono hs h3⟩
end
theorem sl_lt {w:World} {k:IntKind} {ao:Option Addr} {n c:Nat} {xs:List Nat} (h:Sl w k (.slice ao n c) xs) (h0:n≠0) (a:Addr) (ha:ao=some a):a.block<w.heap.size:=by
 obtain⟨ao',cap,e,-,-,-,q⟩:=h;injection e with e1 e2 e3;obtain⟨b,hb,hc⟩:=q 0 (by omega);have:b=a:=by rw[ha] at e1;rw[<-e1] at hb;injection hb with hb;exact hb.symm
 subst this;have:=cell_lt hc
 rwa [add_block] at this
mutual
theorem Um.lt {w:World} {S:Nat->Prop}:∀ {x:X} {u:U},Um w S x u->Um w (fun g=>S g/\g<w.heap.size) x u
 | x,.node k nm ot z ln cl ks,h=>by
  rw[Um] at h ⊢;obtain⟨h1,⟨h2,h3⟩,⟨h4,h5,h6⟩,h7⟩:=h;refine⟨h1,⟨h2,fun h0 a ha=>⟨h3 h0 a ha,sl_lt h2 h0 a ha⟩⟩,⟨h4,h5,fun h0 a ha=>⟨h6 h0 a ha,?_⟩⟩,Ums.lt h7⟩
  match ks,h4,h7 with
  | [],h4,_=>simp at h4;exact absurd h4 h0
  | u::us,_,h7 =>
   rw[Ums] at h7;obtain⟨⟨y,a1,-⟩,-⟩:=h7;exact a1.lt a ha
theorem Ums.lt {w:World} {S:Nat->Prop}:∀ {ko:Option Addr} {i:Nat} {us:List U},Ums w S ko i us->Ums w (fun g=>S g/\g<w.heap.size) ko i us
 | _,_,[],_=>by rw[Ums];trivial
 | ko,i,u::us,h=>by
  rw[Ums] at h ⊢;obtain⟨⟨y,h1,h2⟩,h3⟩:=h;exact⟨⟨y,h1,Um.lt h2⟩,Ums.lt h3⟩
end
theorem Um.below {w w':World} {S:Nat->Prop} {x:X} {u:U} (h:Um w S x u) (hb:Below w.heap.size w w'):Um w' S x u:=
 (h.lt.keep fun g hg=>hb.block g hg.2).mono fun _ h=>h.1
theorem Um.grown {w w':World} {S:Nat->Prop} {x:X} {u:U} {g:Nat} (h:Um w S x u) (hg:w.grownBy w' (some g)) (hS:¬ S g):Um w' S x u:=
 (h.lt.keep fun q hq=>hg.block q hq.2 (fun e=>by injection e with e;exact hS (e ▸ hq.1))).mono fun _ h=>h.1
theorem Um.off {w:World} {S:Nat->Prop} {x:X} {u:U} (h:Um w S x u):Um w (fun g=>S g/\g≠w.heap.size) x u:=h.lt.mono fun g hg=>⟨hg.1,by omega⟩
theorem ums_get {w:World} {S:Nat->Prop}:∀ {ko:Option Addr} {us:List U} (i j:Nat),Ums w S ko i us->∀ (h:j<us.length),∃ y,At8 w ko (i+j) y/\Um w S y us[j]
 | _,[],_,_,_,h=>by simp at h
 | ko,u::us,i,0,hu,h=>by rw[Ums] at hu;exact hu.1
 | ko,u::us,i,j+1,hu,h=>by
  rw[Ums] at hu;have:=ums_get (i+1) j hu.2 (by simpa using h);rw[show i+(j+1)=i+1+j by omega];exact this
theorem ums_of {w:World} {S:Nat->Prop}:∀ {ko:Option Addr} {us:List U} (i:Nat),(∀ j (h:j<us.length),∃ y,At8 w ko (i+j) y/\Um w S y us[j])->Ums w S ko i us
 | _,[],_,_=>by rw[Ums];trivial
 | ko,u::us,i,h=>by
  rw[Ums];refine⟨h 0 (by simp),ums_of (i+1) fun j hj=>?_⟩;have:=h (j+1) (by simpa using hj);rw[show i+1+j=i+(j+1) by omega];exact this
theorem um_zero (w:World) (S:Nat->Prop):Um w S ⟨0,⟨#[]⟩,⟨#[]⟩,false,none,0,0,none,0,0,0,0⟩ u0:=by
 unfold u0;rw[Um];refine⟨⟨rfl,rfl,rfl,rfl,rfl,rfl⟩,⟨?_,fun h=>absurd rfl h⟩,⟨rfl,⟨Nat.le_refl _,Nat.zero_le _⟩,fun h=>absurd rfl h⟩,by rw[Ums];trivial⟩;rw[dig_zero];exact⟨none,0,rfl,Nat.le_refl _,by omega,fun _=>rfl,fun i hi=>by simp at hi⟩
theorem isL_int (c:UInt8):isL c=((decide (97<=(c.toNat:Int)) && decide ((c.toNat:Int)<=122)) || (decide (65<=(c.toNat:Int)) && decide ((c.toNat:Int)<=90)) || ((c.toNat:Int)==95)):=by
 have e:(c==95)=((c.toNat:Int)==95):=by
  rw[Bool.eq_iff_iff,beq_iff_eq,beq_iff_eq,<-UInt8.toNat_inj];constructor<;>intro h
  ·rw[h];rfl
  have:(95:UInt8).toNat=95:=rfl
  omega
 have f:∀ a b:UInt8,(decide (a<=b))=decide ((a.toNat:Int)<=(b.toNat:Int)):=by
  intro a b;rw[Bool.eq_iff_iff];simp[UInt8.le_iff_toNat_le]
 unfold isL;rw[e,f,f,f,f];rfl
theorem isD_int (c:UInt8):isD c=(decide (48<=(c.toNat:Int)) && decide ((c.toNat:Int)<=57)):=by
 have f:∀ a b:UInt8,(decide (a<=b))=decide ((a.toNat:Int)<=(b.toNat:Int)):=by
  intro a b;rw[Bool.eq_iff_iff];simp[UInt8.le_iff_toNat_le]
 unfold isD;rw[f,f];rfl
theorem ret_bool {a b:Bool} (h:a=b):Ending.returned (.bool a)=.returned (.bool b):=by rw[h]
theorem ret_i64 {a b:Int} (h:a=b):Ending.returned (.int .i64 a)=.returned (.int .i64 b):=by rw[h]
theorem isLetter_any (c:UInt8) (w:World) :
  Calls Tryz.prog 118 #[.int .u8 (c.toNat:Int)] w fun e w'=>e=.returned (.bool (isL c))/\w'=w:=by
 rw[isL_int];go_enter Tryz.func118,Tryz.ntmps118
 go_wp2
 all_goals (go_ret;refine⟨ret_bool ?_,rfl⟩;(first | (simp[*];done) | (rw[Bool.eq_iff_iff];simp;omega)))
theorem isDigit_any (c:UInt8) (w:World) :
  Calls Tryz.prog 120 #[.int .u8 (c.toNat:Int)] w fun e w'=>e=.returned (.bool (isD c))/\w'=w:=by
 rw[isD_int];go_enter Tryz.func120,Tryz.ntmps120
 go_wp2
 all_goals (go_ret;refine⟨ret_bool ?_,rfl⟩;first | (simp[*];done) | (simp[*];omega))
theorem isLD_any (c:UInt8) (w:World) :
  Calls Tryz.prog 143 #[.int .u8 (c.toNat:Int)] w fun e w'=>e=.returned (.bool (isLD c))/\w'=w:=by
 have e:isLD c=(isL c || isD c):=rfl;go_enter Tryz.func143,Tryz.ntmps143
 cases h:isL c
 ·go_wp2_with (first | (go_at_call 118;refine (isLetter_any c _).mono ?_;rintro e w' ⟨rfl,rfl⟩) | (go_at_call 120;refine (isDigit_any c _).mono ?_;rintro e w' ⟨rfl,rfl⟩))
  all_goals (go_ret;refine⟨?_,rfl⟩;simp[*])
 go_wp2_with (first | (go_at_call 118;refine (isLetter_any c _).mono ?_;rintro e w' ⟨rfl,rfl⟩) | (go_at_call 120;refine (isDigit_any c _).mono ?_;rintro e w' ⟨rfl,rfl⟩))
 all_goals (go_ret;refine⟨?_,rfl⟩;simp[*])
theorem span_ld (l:Bs) (w:World) (hl:l.length<=1000000000) :
  Calls Tryz.prog 142 #[.string ⟨l.toArray⟩,.func (.func 143) #[] #[]] w fun e w'=>e=.returned (.int .i64 (spn isLD l:Nat))/\w'=w:=by
 have hsz:(⟨l.toArray⟩:ByteArray).size=l.length:=rfl;go_enter Tryz.func142,Tryz.ntmps142
 go_wp2
 go_loopw [5] (fun i wr=>∃ k:Nat,i=.int .i64 k/\k<=l.length/\Hid (spn isLD l=k+spn isLD (l.drop k))/\wr=w) (fun i _=>l.length - (intOf i).toNat)
 case atStart=>exact⟨0,rfl,Nat.zero_le _,Lib.hid (by simp),rfl⟩
 case round =>
  obtain⟨k,rfl,hk,HS,rfl⟩:=hrel
  by_cases hlt:k<l.length
  ·cases hp:isLD ((⟨l.toArray⟩:ByteArray)[k]'hlt)
   ·have HS0:=Lib.hid (spn_stop hlt hp);go_wp2_with (go_at_call 143;refine (isLD_any _ _).mono ?_;rintro e w' ⟨rfl,rfl⟩)
    go_ret
    exact⟨ret_i64 (by rw[HS.out,HS0.out];rfl),rfl⟩
   have HS1:=Lib.hid (spn_step hlt hp);go_wp2_with (go_at_call 143;refine (isLD_any _ _).mono ?_;rintro e w' ⟨rfl,rfl⟩)
   go_roundw
   case rel=>exact⟨k+1,by go_num,by omega,Lib.hid (by rw[HS.out,HS1.out];omega),by trivial⟩
   case measure=>simp[intOf];omega
  have hk0:l.length<=k:=by omega
  have HS0:=Lib.hid (spn_end (p:=isLD) hk0)
  go_wp2
  go_ret
  exact⟨ret_i64 (by rw[HS.out,HS0.out];rfl),rfl⟩
theorem span_d (l:Bs) (w:World) (hl:l.length<=1000000000) :
  Calls Tryz.prog 142 #[.string ⟨l.toArray⟩,.func (.func 120) #[] #[]] w fun e w'=>e=.returned (.int .i64 (spn isD l:Nat))/\w'=w:=by
 have hsz:(⟨l.toArray⟩:ByteArray).size=l.length:=rfl;go_enter Tryz.func142,Tryz.ntmps142
 go_wp2
 go_loopw [5] (fun i wr=>∃ k:Nat,i=.int .i64 k/\k<=l.length/\Hid (spn isD l=k+spn isD (l.drop k))/\wr=w) (fun i _=>l.length - (intOf i).toNat)
 case atStart=>exact⟨0,rfl,Nat.zero_le _,Lib.hid (by simp),rfl⟩
 case round =>
  obtain⟨k,rfl,hk,HS,rfl⟩:=hrel
  by_cases hlt:k<l.length
  ·cases hp:isD ((⟨l.toArray⟩:ByteArray)[k]'hlt)
   ·have HS0:=Lib.hid (spn_stop hlt hp);go_wp2_with (go_at_call 120;refine (isDigit_any _ _).mono ?_;rintro e w' ⟨rfl,rfl⟩)
    go_ret
    exact⟨ret_i64 (by rw[HS.out,HS0.out];rfl),rfl⟩
   have HS1:=Lib.hid (spn_step hlt hp);go_wp2_with (go_at_call 120;refine (isDigit_any _ _).mono ?_;rintro e w' ⟨rfl,rfl⟩)
   go_roundw
   case rel=>exact⟨k+1,by go_num,by omega,Lib.hid (by rw[HS.out,HS1.out];omega),by trivial⟩
   case measure=>simp[intOf];omega
  have hk0:l.length<=k:=by omega
  have HS0:=Lib.hid (spn_end (p:=isD) hk0)
  go_wp2
  go_ret
  exact⟨ret_i64 (by rw[HS.out,HS0.out];rfl),rfl⟩
theorem index_spn (l:Bs):Lib.indexByte l 10=if spn notNl l<l.length then (spn notNl l:Int) else -1:=by
 induction l with
 | nil=>rfl
 | cons c l ih =>
  by_cases h:c=10
  ·subst h;simp[Lib.indexByte,spn,notNl]
  have h1:notNl c=true:=by simp[notNl,h]
  have h2:(c==10)=false:=by simp[h]
  simp only[Lib.indexByte,spn,h1,h2,if_true,ih,lsc]
  by_cases hx:spn notNl l<l.length
  ·have hy:spn notNl l+1<l.length+1:=by omega
   have:(((spn notNl l:Nat):Int) == -1)=false:=by rw[beq_eq_false_iff_ne];omega
   simp only[if_pos hx,if_pos hy,this]
   simp
  have hy:¬ spn notNl l+1<l.length+1:=by omega
  simp only[if_neg hx,if_neg hy];rfl
theorem comment_any (l:Bs) (w:World) :
  Calls Tryz.prog 117 #[.string ⟨l.toArray⟩] w fun e w'=>e=.returned (.int .i64 (spn notNl l:Nat))/\w'=w:=by
 have hsz:(⟨l.toArray⟩:ByteArray).size=l.length:=rfl;have hle:=spn_le notNl l
 by_cases hx:spn notNl l<l.length
 ·have hi:Lib.indexByte l ((10:Int).toNat.toUInt8)=(spn notNl l:Int):=by rw[show (10:Int).toNat.toUInt8=10 from rfl,index_spn,if_pos hx]
  have hc:=Tryz.strings_IndexByte ⟨l.toArray⟩ 10 w;rw[show (⟨l.toArray⟩:ByteArray).data.toList=l from rfl,hi] at hc;have H:=Lib.hid hc;clear hc hi;go_enter Tryz.func117,Tryz.ntmps117
  go_wp2_with (go_at_call 141;refine H.out.mono ?_;rintro e w' ⟨rfl,rfl⟩)
  go_ret
  exact⟨rfl,rfl⟩
 have hi:Lib.indexByte l ((10:Int).toNat.toUInt8) = -1:=by rw[show (10:Int).toNat.toUInt8=10 from rfl,index_spn,if_neg hx]
 have hc:=Tryz.strings_IndexByte ⟨l.toArray⟩ 10 w;rw[show (⟨l.toArray⟩:ByteArray).data.toList=l from rfl,hi] at hc;have H:=Lib.hid hc;clear hc hi;have he:l.length=spn notNl l:=by omega
 have H2:=Lib.hid he;clear he;go_enter Tryz.func117,Tryz.ntmps117
 go_wp2_with (go_at_call 141;refine H.out.mono ?_;rintro e w' ⟨rfl,rfl⟩)
 go_ret
 exact⟨ret_i64 (by rw[H2.out]),rfl⟩
theorem byte_is (c x:UInt8):((c.toNat:Int)==(x.toNat:Int))=(c==x):=by
 rw[Bool.eq_iff_iff,beq_iff_eq,beq_iff_eq,<-UInt8.toNat_inj];omega
theorem byte_yes {c:UInt8} (x:UInt8) (h:c=x):((c.toNat:Int)==(x.toNat:Int))=true:=by rw[byte_is,h];simp
theorem byte_no {c:UInt8} (x:UInt8) (h:c≠x):((c.toNat:Int)==(x.toNat:Int))=false:=by rw[byte_is];simpa using h
theorem blk_ways {c:UInt8} (h:blk c=true):((c.toNat:Int)==32)=true\/(((c.toNat:Int)==32)=false/\((c.toNat:Int)==9)=true)\/(((c.toNat:Int)==32)=false/\((c.toNat:Int)==9)=false/\((c.toNat:Int)==10)=true)\/(((c.toNat:Int)==32)=false/\((c.toNat:Int)==9)=false/\((c.toNat:Int)==10)=false/\((c.toNat:Int)==13)=true):=by
 have h':c=32\/c=9\/c=10\/c=13:=by simpa [blk,or_assoc] using h
 rcases h' with rfl | rfl | rfl | rfl
 ·exact .inl rfl
 ·exact .inr (.inl ⟨rfl,rfl⟩)
 ·exact .inr (.inr (.inl ⟨rfl,rfl,rfl⟩))
 exact .inr (.inr (.inr ⟨rfl,rfl,rfl,rfl⟩))
theorem blk_not {c:UInt8} (h:blk c=false):((c.toNat:Int)==32)=false/\((c.toNat:Int)==9)=false/\((c.toNat:Int)==10)=false/\((c.toNat:Int)==13)=false:=by
 have h':¬ (c=32\/c=9\/c=10\/c=13):=by
  intro e;have:blk c=true:=by rcases e with rfl | rfl | rfl | rfl<;>rfl
  rw[h] at this;cases this
 exact⟨byte_no 32 (fun e=>h' (by simp[e])),byte_no 9 (fun e=>h' (by simp[e])),byte_no 10 (fun e=>h' (by simp[e])),byte_no 13 (fun e=>h' (by simp[e]))⟩
theorem blanks_any (l:Bs) (w:World) (hl:l.length<=1000000000) :
  Calls Tryz.prog 97 #[.string ⟨l.toArray⟩] w fun e w'=>e=.returned (.int .i64 (gapL false l:Nat))/\w'=w:=by
 have hsz:(⟨l.toArray⟩:ByteArray).size=l.length:=rfl;go_enter Tryz.func97,Tryz.ntmps97
 go_wp2
 go_loopw [3] (fun i wr=>∃ k:Nat,i=.int .i64 k/\k<=l.length/\Hid (gapL false l=k+gapL false (l.drop k))/\wr=w) (fun i _=>l.length - (intOf i).toNat)
 case atStart=>exact⟨0,rfl,Nat.zero_le _,Lib.hid (by simp),rfl⟩
 case round =>
  obtain⟨k,rfl,hk,HS,rfl⟩:=hrel
  by_cases hlt:k<l.length
  ·by_cases hb:blk (l[k]'hlt)=true
   ·have hs:=Lib.hid (gap_blank hlt hb);have hb':=blk_ways (c:=(⟨l.toArray⟩:ByteArray)[k]'hlt) hb;clear hb;rcases hb' with h1 | ⟨h1,h2⟩ | ⟨h1,h2,h3⟩ | ⟨h1,h2,h3,h4⟩
    all_goals
     go_wp2
     go_roundw
     case rel=>exact⟨k+1,by go_num,by omega,Lib.hid (by rw[HS.out,hs.out];omega),by trivial⟩
     case measure=>simp[intOf];omega
   have hb0:blk (l[k]'hlt)=false:=by simpa using hb
   obtain⟨n1,n2,n3,n4⟩:=blk_not (c:=(⟨l.toArray⟩:ByteArray)[k]'hlt) hb0
   by_cases hh:(l[k]'hlt)=35
   ·have h35:((((⟨l.toArray⟩:ByteArray)[k]'hlt).toNat:Int)==35)=true:=byte_yes (c:=(⟨l.toArray⟩:ByteArray)[k]'hlt) 35 hh;have hs:=Lib.hid (gap_cmt' hlt hh);have hpos:0<spn notNl (l.drop k):=by rw[spn_step hlt (by rw[hh];rfl)];omega
    have hle:=spn_le notNl (l.drop k);rw[List.length_drop] at hle;have HD:=Lib.hid (extract_drop l k);clear hb hb0 hh;go_wp2_with fail
    rw[HD.out];refine (comment_any _ _).mono ?_;rintro e w' ⟨rfl,rfl⟩
    go_wp2
    go_roundw
    case rel=>exact⟨k+spn notNl (l.drop k),by go_num,by omega,Lib.hid (by rw[HS.out,hs.out];omega),by trivial⟩
    case measure=>simp[intOf];omega
   have h35:((((⟨l.toArray⟩:ByteArray)[k]'hlt).toNat:Int)==35)=false:=byte_no (c:=(⟨l.toArray⟩:ByteArray)[k]'hlt) 35 hh;have hs:=Lib.hid (gap_stop hlt hb0 hh);clear hb hb0 hh
   go_wp2
   go_ret
   exact⟨ret_i64 (by rw[HS.out,hs.out];rfl),rfl⟩
  have hk0:l.length<=k:=by omega
  have HS0:=Lib.hid (gap_end (b:=false) hk0)
  go_wp2
  go_ret
  exact⟨ret_i64 (by rw[HS.out,HS0.out];rfl),rfl⟩
end Go.Proofs.YtkocdbgmckdcpaaGreatDoor
